/- Valid yards: the specification's side. -/
import Derived.Test.YthfmmlpbflfpaacYardA
import Derived.Test.YthfmmlpbflfpaacConcatY
import Derived.Test.YthfmmlpbflfpaacAppI
import Derived.Test.YthfmmlpbflfpaacWithin
import Derived.Test.YthfmmlpbflfpaacHas
import Derived.Deep.DeepCutAuto
namespace Go.Proofs.Ythfmmlpbflfpaac
open Go.ChangeShapes Go.WideShapes Go.ChangeAt Go.RowKit
set_option linter.unusedVariables false
set_option linter.unusedSimpArgs false

theorem bool_of (P : Prop) : ∃ b : Bool, b = true ↔ P := by
  by_cases h : P
  · exact ⟨true, by simp [h]⟩
  · exact ⟨false, by simp [h]⟩
def Lot (z : Int) : Prop := 0 ≤ z ∧ z ≤ 99
def LotsOk (zs : List Int) : Prop := (∀ z ∈ zs, Lot z) ∧ zs.Nodup
theorem LotsOk.nil : LotsOk [] := ⟨by simp, List.nodup_nil⟩
theorem LotsOk.snoc {zs : List Int} {z : Int} (h : LotsOk zs) (h1 : Lot z) (h2 : z ∉ zs) : LotsOk (zs ++ [z]) := by
  refine ⟨fun x hx => ?_, List.nodup_append.2 ⟨h.2, by simp, ?_⟩⟩
  · rcases List.mem_append.1 hx with q | q
    · exact h.1 x q
    · rw [List.mem_singleton.1 q]; exact h1
  · intro a ha b hb e
    rw [List.mem_singleton.1 hb] at e
    exact h2 (e ▸ ha)
theorem LotsOk.pre {zs ys : List Int} (h : LotsOk (zs ++ ys)) : LotsOk zs := ⟨fun x hx => h.1 x (by simp [hx]), (List.nodup_append.1 h.2).1⟩
structure OkYd (g : Yd) : Prop where
  h0 : 1 ≤ g.h ∧ g.h ≤ 4
  n0 : 1 ≤ g.x.length ∧ g.x.length ≤ 4
  t0 : ∀ x ∈ g.x, (x.t.length : Int) ≤ g.h
  l0 : sumT g.x ≤ 7
  l1 : LotsOk (g.x.flatMap Sl.t)
theorem flat_map_t (xs : List Sl) : xs.flatMap Sl.t = (xs.map Sl.t).flatten := by rw [List.flatMap_def]
theorem OkYd.same {g k : Yd} (h : OkYd g) (e : g.same k) : OkYd k := by
  refine ⟨by rw [← e.1]; exact h.h0, by rw [← e.len]; exact h.n0, fun x hx => ?_, by rw [← e.sum]; exact h.l0, by rw [flat_map_t, ← e.2, ← flat_map_t]; exact h.l1⟩
  obtain ⟨i, hi, rfl⟩ := List.mem_iff_getElem.1 hx
  obtain ⟨y, hy, ht⟩ := map_t_get e.2.symm (List.getElem?_eq_getElem hi)
  rw [← e.1, ← ht]
  exact h.t0 y (List.mem_of_getElem? hy)
theorem catS_pre {xs : List Sl} (k : Nat) : ∃ ys, xs.flatMap Sl.t = catS xs k ++ ys := by
  refine ⟨(xs.drop k).flatMap Sl.t, ?_⟩
  unfold catS
  rw [← List.flatMap_append, List.take_append_drop]
theorem OkYd.cat {g : Yd} (h : OkYd g) (k : Nat) : LotsOk (catS g.x k) := by
  obtain ⟨ys, e⟩ := catS_pre (xs := g.x) k
  have := h.l1
  rw [e] at this
  exact this.pre
theorem OkYd.cat2 {g : Yd} (h : OkYd g) {i k : Nat} {x : Sl} {z : Int} (hx : g.x[i]? = some x) (hz : x.t[k]? = some z) : Lot z ∧ z ∉ catS g.x i ++ x.t.take k := by
  have a := h.cat (i + 1)
  rw [catS_succ hx] at a
  have b := List.mem_of_getElem? hz
  refine ⟨a.1 z (by simp [b]), fun q => ?_⟩
  have e : x.t = x.t.take k ++ z :: x.t.drop (k + 1) := by
    conv => lhs; rw [← List.take_append_drop k x.t]
    congr 1
    have hk := (List.getElem?_eq_some_iff.1 hz)
    rw [List.drop_eq_getElem_cons hk.1, hk.2]
  have n := a.2
  rw [e, ← List.append_assoc] at n
  exact (List.nodup_append.1 n).2.2 z q z (by simp) rfl

set_option maxRecDepth 100000 in
set_option maxHeartbeats 16000000 in
theorem l09Yard_any (G : Nat) (ty : TypeId) (g : Yd) (n0 : Nat) (w : World) (hG : w.heap[G]? = some (.cells #[.int .i64 g.h, .slice g.xa n0 g.xc] ty (0, 0))) (hr : RdYd w n0 g) (l0 : n0 + sumT g.x ≤ 1048576) (b : Bool) (hb : b = true ↔ OkYd g) :
    Calls Try.prog 12 #[.pointer (some ⟨G, 0, none⟩)] w fun e w' => e = .returned (.bool b) ∧ Below w.heap.size w w' := by
  obtain ⟨i0, hi, hz0, hz1, hz2⟩ := info_parts info_i64
  have e0 := hr.len
  have LT := Lib.hid (fun x (hx : x ∈ g.x) => (show x.t.length ≤ 1048576 by have := sumT_mem hx; omega))
  obtain ⟨⟨k0, k1⟩, -, lG⟩ := boxedYd_at hG
  obtain ⟨b1, h1⟩ := bool_of (1 ≤ g.h ∧ g.h ≤ 4)
  have C1 := Lib.hid (fun w => in_any g.h 1 4 b1 h1 w)
  have C2 := Lib.hid (fun w z b hb => in_any z 0 99 b hb w)
  have HG := Lib.hid hG
  have H := Lib.hid hr.r0
  have HB := Lib.hid hb
  have H1 := Lib.hid h1
  have E0 := Lib.hid e0
  have O0 := Lib.hid (own_built w w.heap.size [] rfl)
  have B0 : Hid (Below w.heap.size w (w.alloc (.cells #[] 2))) := by show Below _ _ _; go_grown
  clear hG hr hb h1 e0
  go_enter Try.func12, Try.ntmps12
  go_wp2_with fail
  refine (C1.out _).mono ?_
  rintro e w' ⟨rfl, rfl⟩
  cases b1 with
  | false =>
    obtain rfl : b = false := b_false HB.out (fun q => by have := H1.out.mpr q.h0; simp at this)
    go_wp2
    go_ret
    exact ⟨rfl, Below.refl _ _⟩
  | true =>
  have hh := H1.out.mp (by trivial)
  by_cases n1 : n0 = 0
  · subst n1
    obtain rfl : b = false := b_false HB.out (fun q => by have := q.n0; have := E0.out; omega)
    go_wp2
    go_ret
    exact ⟨rfl, Below.refl _ _⟩
  by_cases n4 : 4 < n0
  · have d0 : decide ((n0 : Int) < 1) = false := decide_eq_false (by omega)
    have d1 : decide (n0 < 1) = false := decide_eq_false (by omega)
    obtain rfl : b = false := b_false HB.out (fun q => by have := q.n0; have := E0.out; omega)
    go_wp2
    go_ret
    exact ⟨rfl, Below.refl _ _⟩
  have d0 : decide ((n0 : Int) < 1) = false := decide_eq_false (by omega)
  have d1 : decide (n0 < 1) = false := decide_eq_false (by omega)
  have d2 : decide (4 < n0) = false := decide_eq_false (by omega)
  clear C1 H1
  go_wp2
  go_loopw [3, 4] (fun ov iv wr => ∃ (i m c1 : Nat) (ad : Option Addr) (zs : List Int), i ≤ n0 ∧ m ≤ 4 * i ∧ iv = .int .i64 i ∧ ov = .slice ad m c1 ∧ Hid (m = zs.length) ∧ Hid (zs = catS g.x i) ∧ Hid (LotsOk zs) ∧ Hid (∀ (j : Nat) x, j < i → g.x[j]? = some x → (x.t.length : Int) ≤ g.h) ∧ Hid (OwnI wr w.heap.size (.slice ad m c1) zs) ∧ Hid (Below w.heap.size w wr)) (fun _ iv _ => n0 - (intOf iv).toNat)
  case atStart => exact ⟨0, 0, 0, _, [], by omega, by omega, rfl, rfl, rfl, rfl, LotsOk.nil, fun j x h => by omega, O0.out, B0.out⟩
  case round =>
    obtain ⟨i, m, c1, ad, zs, hi', mi, rfl, rfl, hm, hz, hl, ht, ho, B⟩ := hrel
    clear O0 B0 k0 k1
    have hsz := B.out.size
    obtain ⟨⟨k0, k1⟩, -, -⟩ := boxedYd_at ((B.out.block G lG).trans HG.out)
    by_cases hlt : i < n0
    · obtain ⟨x, hx⟩ : ∃ x, g.x[i]? = some x := ⟨_, List.getElem?_eq_getElem (by have := E0.out; omega)⟩
      obtain ⟨ba, oa, ea, e1, rt, la⟩ := (H.out.later B.out).at hx
      rw [ea] at k1
      have HX := Lib.hid hx
      have EA := Lib.hid ea
      have ltx := LT.out x (List.mem_of_getElem? hx)
      obtain ⟨p, hp⟩ : ∃ p, p = x.t.length := ⟨_, rfl⟩
      rw [← hp] at e1 rt ltx
      have HP := Lib.hid hp
      have RT := Lib.hid rt
      clear hx ea hp rt
      by_cases hph : g.h < (p : Int)
      · obtain rfl : b = false := b_false HB.out (fun q => by have := q.t0 x (List.mem_of_getElem? HX.out); have := HP.out; omega)
        clear hl ht hz hm
        go_wp2
        go_quiet (fail)
        go_wp2
        go_ret
        exact ⟨rfl, below_drewN B.out _⟩
      · have dh : decide (g.h < (p : Int)) = false := decide_eq_false hph
        have p4 : p ≤ 4 := by omega
        go_wp2
        go_quiet (fail)
        have ho1 : Hid (OwnI (wr.drewN nq) w.heap.size (.slice ad m c1) zs) := ho.out.drewN _
        have B1 : Hid (Below w.heap.size w (wr.drewN nq)) := below_drewN B.out _
        have f0 : (wr.drewN nq).cell? ⟨G, 0, none⟩ = some (.int .i64 g.h) := k0
        have f1 : (wr.drewN nq).cell? ⟨G, 1, none⟩ = some (.slice (some ⟨ba, oa, none⟩) n0 g.xc) := k1
        have f2 : (wr.drewN nq).cell? ⟨ba, oa + i, none⟩ = some (.slice x.a p x.c) := e1
        have RT1 : Hid (RdI (wr.drewN nq) (.slice x.a p x.c) x.t) := RT.out.drewN _
        have la1 : ba < (wr.drewN nq).heap.size := la
        have lG1 : G < (wr.drewN nq).heap.size := Nat.lt_of_lt_of_le lG B1.out.size
        clear k0 k1 e1 RT B ho la hsz
        generalize wr.drewN nq = wz at *
        have ZZ := Lib.hid hz.out
        go_wp2
        go_loopw [3, 5] (fun ov kv wr => ∃ (k m c1 : Nat) (ad : Option Addr) (ys : List Int), k ≤ p ∧ m ≤ 4 * i + k ∧ kv = .int .i64 k ∧ ov = .slice ad m c1 ∧ Hid (m = ys.length) ∧ Hid (ys = catS g.x i ++ x.t.take k) ∧ Hid (LotsOk ys) ∧ Hid (OwnI wr w.heap.size (.slice ad m c1) ys) ∧ Hid (Below w.heap.size w wr) ∧ Hid (Below wz.heap.size wz wr ∨ True) ∧ Hid (wr.cell? ⟨G, 0, none⟩ = some (.int .i64 g.h) ∧ wr.cell? ⟨G, 1, none⟩ = some (.slice (some ⟨ba, oa, none⟩) n0 g.xc) ∧ wr.cell? ⟨ba, oa + i, none⟩ = some (.slice x.a p x.c) ∧ RdI wr (.slice x.a p x.c) x.t)) (fun _ kv _ => p - (intOf kv).toNat)
        case atStart => exact ⟨0, m, c1, ad, zs, by omega, by omega, rfl, rfl, hm, by show _ = _; simp [hz.out], hl, ho1, B1, Or.inr trivial, ⟨f0, f1, f2, RT1.out⟩⟩
        case round =>
          obtain ⟨k, m2, c2, ad2, ys, hk, mk, rfl, rfl, hm2, hz2', hl2, ho2, B2, -, hF⟩ := hrel
          clear f0 f1 f2 RT1 la1 lG1 B1 ho1 hm hz hl ZZ
          obtain ⟨f0, f1, f2, rt⟩ := hF.out
          have hsz := B2.out.size
          by_cases hlk : k < p
          · obtain ⟨z, hzz⟩ : ∃ z, x.t[k]? = some z := ⟨_, List.getElem?_eq_getElem (by have := HP.out; omega)⟩
            obtain ⟨bz, oz, ez, f3⟩ := rt.at1 k z hzz
            rw [ez] at f2
            have HZ := Lib.hid hzz
            have RTz := Lib.hid rt
            have EZ := Lib.hid ez
            obtain ⟨b2, h2⟩ := bool_of (Lot z)
            obtain ⟨b3, h3⟩ := bool_of (z ∈ ys)
            have C3 := Lib.hid (fun w => C2.out w z b2 h2)
            have C4 := Lib.hid (fun w h => l00Has_any (.slice ad2 m2 c2) ys z w h (by have := hm2.out; omega) b3 h3)
            have H2 := Lib.hid h2
            have H3 := Lib.hid h3
            clear hzz rt ez h2 h3
            go_wp2_with fail
            refine (C3.out _).mono ?_
            rintro e w' ⟨rfl, rfl⟩
            cases b2 with
            | false =>
              obtain rfl : b = false := b_false HB.out (fun q => by have := H2.out.mpr (q.cat2 HX.out HZ.out).1; simp at this)
              clear f0 f1 f2 f3 hl2 hz2' ht
              go_wp2
              go_ret
              exact ⟨rfl, B2.out⟩
            | true =>
            go_wp2_with fail
            refine (C4.out _ ho2.out.rd).mono ?_
            rintro e w9 ⟨rfl, hw⟩
            obtain rfl : wr = w9 := hw.symm
            cases b3 with
            | true =>
              obtain rfl : b = false := b_false HB.out (fun q => (q.cat2 HX.out HZ.out).2 (by rw [← hz2'.out]; exact H3.out.mp (by trivial)))
              clear f0 f1 f2 f3 hl2 hz2' ht
              go_wp2
              go_ret
              exact ⟨rfl, B2.out⟩
            | false =>
            have L2 : Hid (LotsOk (ys ++ [z])) := hl2.out.snoc (H2.out.mp (by trivial)) (fun q => by have := H3.out.mpr q; simp at this)
            have Z2 : Hid (ys ++ [z] = catS g.x i ++ x.t.take (k + 1)) := by show _ = _; rw [List.take_add_one, HZ.out, hz2'.out, List.append_assoc]; rfl
            have own : Hid (wr.ownsRow w.heap.size 2 1 (.slice ad2 m2 c2) m2 (ys.map (Value.int .i64))) := by
              have := ho2.out
              unfold OwnI at this
              rw [← hm2.out] at this
              exact this
            have lgz := own.out.lt
            have lG2 : G < w.heap.size := lG
            clear hl2 hz2' H2 H3 C3 C4 ho2
            go_wp2_with (at_builtin; refine wpList_append_lies _ rfl _ _ _ rfl w.heap.size 2 i0 _ 1 8 Try.underlying44 hi hz0 hz1 hz2 rfl (by omega) _ _ _ rfl (own.out.alloc _) ⟨wr.heap.size, 0, none⟩ 1 1 [.int .i64 z] rfl rfl (World.news_of_block (cs := #[.int .i64 z]) (t := 2) (fr := (0, 0)) (heap_alloc_new wr _)) (by simp [Value.oneCell']) (by omega) (by unfold maxLen; omega) (by omega) (by simp only [World.size_alloc]; omega) _ rfl ?_)
            intro gg cap1 w5 hown1 hgrow hat hlt'
            have gb := grownBy_trans' (World.grownBy_alloc wr _ _) hgrow
            have B5 : Hid (Below w.heap.size w w5) := B2.out.grown gb (by omega) (fun j e => (lgz j e).1)
            have M5 : Hid (m2 + 1 = (ys ++ [z]).length) := by show _ = _; rw [List.length_append, ← hm2.out]; rfl
            have O5 : Hid (OwnI w5 w.heap.size (.slice (some ⟨gg, 0, none⟩) (m2 + 1) cap1) (ys ++ [z])) := by
              show OwnI _ _ _ _
              unfold OwnI
              rw [← M5.out, List.map_append]
              exact hown1
            have F5 : Hid (w5.cell? ⟨G, 0, none⟩ = some (.int .i64 g.h) ∧ w5.cell? ⟨G, 1, none⟩ = some (.slice (some ⟨ba, oa, none⟩) n0 g.xc) ∧ w5.cell? ⟨ba, oa + i, none⟩ = some (.slice x.a p x.c) ∧ RdI w5 (.slice x.a p x.c) x.t) := by
              obtain ⟨⟨u0, u1⟩, -, -⟩ := boxedYd_at ((B5.out.block G lG).trans HG.out)
              obtain ⟨bb, ob, eb, u2, u3, -⟩ := (H.out.later B5.out).at HX.out
              rw [EA.out] at eb u1
              simp only [Option.some.injEq, Addr.mk.injEq, and_true] at eb
              obtain ⟨rfl, rfl⟩ := eb
              rw [← HP.out] at u2 u3
              exact ⟨u0, u1, u2, u3⟩
            clear hown1 hgrow hat hlt' own lgz gb B2 hm2 f0 f1 f2 f3 hF RTz EZ
            go_wp2
            exact ⟨⟨k + 1, m2 + 1, cap1, _, _, by omega, by omega, by go_num, rfl, M5, Z2, L2, O5, B5, Or.inr trivial, F5.out⟩, by simp only [intOf]; omega⟩
          · obtain rfl : k = p := by omega
            have Z3 : Hid (ys = catS g.x (i + 1)) := by show _ = _; rw [hz2'.out, catS_succ HX.out, List.take_of_length_le (by have := HP.out; omega)]
            have T3 : Hid (∀ (j : Nat) y, j < i + 1 → g.x[j]? = some y → (y.t.length : Int) ≤ g.h) := fun j y hj hy => by
              rcases Nat.lt_or_ge j i with l | l
              · exact ht.out j y l hy
              · obtain rfl : j = i := by omega
                obtain rfl := Option.some.inj (HX.out.symm.trans hy)
                have := HP.out; omega
            clear hz2' ht hF
            go_wp2
            exact ⟨⟨i + 1, m2, c2, ad2, ys, by omega, by omega, by go_num, rfl, hm2, Z3, hl2, T3, ho2, B2⟩, by simp only [intOf]; omega⟩
    · obtain rfl : i = n0 := by omega
      have key : b = true ↔ m ≤ 7 := by
        rw [HB.out]
        have ec : catS g.x i = g.x.flatMap Sl.t := by rw [E0.out, catS_all]
        have em : m = sumT g.x := by rw [hm.out, hz.out, catS_len, List.take_of_length_le (by have := E0.out; omega)]
        constructor
        · intro q; rw [em]; exact q.l0
        · intro q
          refine ⟨hh, by have := E0.out; omega, fun x hx => ?_, by omega, by have := hl.out; rw [hz.out, ec] at this; exact this⟩
          obtain ⟨j, hj, rfl⟩ := List.mem_iff_getElem.1 hx
          exact ht.out j _ (by have := E0.out; omega) (List.getElem?_eq_getElem hj)
      by_cases m7 : m ≤ 7
      · obtain rfl : b = true := key.mpr m7
        have d7 : decide ((m : Int) ≤ 7) = true := decide_eq_true (by omega)
        clear key hm hz hl ht
        go_wp2
        go_ret
        exact ⟨rfl, B.out⟩
      · obtain rfl : b = false := b_false key m7
        have d7 : decide ((m : Int) ≤ 7) = false := decide_eq_false (by omega)
        clear key hm hz hl ht
        go_wp2
        go_ret
        exact ⟨rfl, B.out⟩
end Go.Proofs.Ythfmmlpbflfpaac
