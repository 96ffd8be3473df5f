/- BlockersOf: the specification's side. -/
import Derived.Test.YtmdddjhlfpmgdabPutI
import Derived.Test.YtmdddjhlfpmgdabYardX
namespace Go.Proofs.Ytmdddjhlfpmgdab
open Go.ChangeShapes Go.WideShapes Go.ChangeAt Go.RowKit
set_option linter.unusedVariables false
set_option linter.unusedSimpArgs false

theorem ownI_none' (w : World) (B : Nat) : OwnI w B (.slice none 0 0) [] := World.ownsRow_nil _ _ _ _
def bS (g : Yd) (i : Nat) : List Int := blkS (g.x.map Sl.t) i
theorem bS_succ {g : Yd} {i : Nat} {x : Sl} (h : g.x[i]? = some x) : bS g (i + 1) = bS g i ++ blkTo x.t x.t.length := blkS_succ (by rw [List.getElem?_map, h]; rfl)
theorem bS_nodup {g : Yd} (ok : OkYd g) (k : Nat) : (bS g k).Nodup := (blkS_sub _ k).nodup (by have := ok.l1.2; rwa [flat_map_t] at this)
theorem bS_len {g : Yd} (ok : OkYd g) (k : Nat) : (bS g k).length ≤ 7 := by
  have h := (blkS_sub (g.x.map Sl.t) k).length_le
  rw [← flat_map_t, ← catS_all, catS_len, List.take_length] at h
  have := ok.l0
  unfold bS; omega

set_option maxRecDepth 100000 in
set_option maxHeartbeats 16000000 in
theorem l09Blockers_any (G : Nat) (ty : TypeId) (g : Yd) (n0 : Nat) (w : World) (hG : w.heap[G]? = some (.cells #[.int .i64 g.h, .slice g.xa n0 g.xc] ty (0, 0))) (hr : RdYd w n0 g) (ok : OkYd g) :
    Calls Try.prog 44 #[.pointer (some ⟨G, 0, none⟩)] w fun e w' => ∃ u, e = .returned u ∧ OwnI w' w.heap.size u (putAll (bS g n0)) ∧ Below w.heap.size w w' := by
  have E0 := Lib.hid hr.len
  obtain ⟨⟨k0, k1⟩, -, lG⟩ := boxedYd_at hG
  have n4 : n0 ≤ 4 := by have := ok.n0; have := hr.len; omega
  have HG := Lib.hid hG
  have H := Lib.hid hr.r0
  have OK := Lib.hid ok
  obtain ⟨x0, hx0⟩ : ∃ x0, g.x[0]? = some x0 := ⟨_, List.getElem?_eq_getElem (by have := ok.n0; omega)⟩
  obtain ⟨ba, oa, EA, -, -, -⟩ := H.out.at hx0
  rw [EA] at k1 HG
  have C1 := Lib.hid (fun a b w => l00Min_any a b w)
  have C2 := Lib.hid (fun v zs x w h lz => l00Put_any v zs x w h lz)
  have O0 := Lib.hid (own_built w w.heap.size [] rfl)
  have B0 : Hid (Below w.heap.size w (w.alloc (.cells #[] 2))) := by show Below _ _ _; go_grown
  clear hG hr ok hx0 x0
  go_enter Try.func44, Try.ntmps44
  go_wp2
  go_loopw [3, 4] (fun ov iv wr => ∃ (i : Nat) (zs : List Int), i ≤ n0 ∧ iv = .int .i64 i ∧ Hid (zs = bS g i) ∧ Hid (OwnI wr w.heap.size ov (putAll zs)) ∧ Hid (Below w.heap.size w wr)) (fun _ iv _ => n0 - (intOf iv).toNat)
  case atStart => exact ⟨0, [], by omega, rfl, (blkS_zero _).symm, O0.out, B0.out⟩
  case round =>
    obtain ⟨i, zs, hi', rfl, hz, ho, B⟩ := hrel
    clear O0 B0 k0 k1
    have hsz := B.out.size
    obtain ⟨⟨k0, k1⟩, -, -⟩ := boxedYd_at ((B.out.block G lG).trans HG.out)
    by_cases hlt : i < n0
    · obtain ⟨x, hx⟩ : ∃ x, g.x[i]? = some x := ⟨_, List.getElem?_eq_getElem (by have := E0.out; omega)⟩
      obtain ⟨ba', oa', ea, e1, rt, la⟩ := (H.out.later B.out).at hx
      rw [EA] at ea
      simp only [Option.some.injEq, Addr.mk.injEq, and_true] at ea
      obtain ⟨rfl, rfl⟩ := ea
      have HX := Lib.hid hx
      have ltx : x.t.length ≤ 4 := by have := OK.out.t0 x (List.mem_of_getElem? hx); have := OK.out.h0; omega
      obtain ⟨p, hp⟩ : ∃ p, p = x.t.length := ⟨_, rfl⟩
      rw [← hp] at e1 rt ltx
      have HP := Lib.hid hp
      have RT := Lib.hid rt
      clear hx hp rt
      go_wp2
      go_loopw [3, 5, 6] (fun ov lv kv wr => ∃ (k : Nat) (ys : List Int) (lo : Int), k ≤ p ∧ kv = .int .i64 k ∧ lv = .int .i64 lo ∧ Hid (lo = low x.t k) ∧ Hid (ys = zs ++ blkTo x.t k) ∧ Hid (OwnI wr w.heap.size ov (putAll ys)) ∧ Hid (Below w.heap.size w wr) ∧ Hid (wr.cell? ⟨G, 0, none⟩ = some (.int .i64 g.h) ∧ wr.cell? ⟨G, 1, none⟩ = some (.slice (some ⟨ba, oa, none⟩) n0 g.xc) ∧ wr.cell? ⟨ba, oa + i, none⟩ = some (.slice x.a p x.c) ∧ RdI wr (.slice x.a p x.c) x.t)) (fun _ _ kv _ => p - (intOf kv).toNat)
      case atStart => exact ⟨0, zs, 100, by omega, rfl, rfl, (low_zero _).symm, by show _ = _; simp [blkTo], ho.out, B.out, ⟨k0, k1, e1, RT.out⟩⟩
      case round =>
        obtain ⟨k, ys, lo, hk, rfl, rfl, HLO, hz2, ho2, B2, hF⟩ := hrel
        clear k0 k1 e1 RT B ho
        obtain ⟨f0, f1, f2, rt⟩ := hF.out
        have hsz := B2.out.size
        by_cases hlk : k < p
        · obtain ⟨z, hzz⟩ : ∃ z, x.t[k]? = some z := ⟨_, List.getElem?_eq_getElem (by have := HP.out; omega)⟩
          obtain ⟨bz, oz, ez, f3⟩ := rt.at1 k z hzz
          rw [ez] at f2
          have HZ := Lib.hid hzz
          have EZ := Lib.hid ez
          have L2 : Hid (min lo z = low x.t (k + 1)) := by show _ = _; rw [low_succ hzz, HLO.out]
          obtain ⟨lo', hlo'⟩ : ∃ l, l = min lo z := ⟨_, rfl⟩
          have C4 := Lib.hid (fun w => C1.out lo z w)
          rw [← hlo'] at C4 L2
          clear hzz rt ez hlo'
          by_cases hl : lo < z
          · have Y2 : Hid (ys ++ [z] = zs ++ blkTo x.t (k + 1)) := by show _ = _; rw [blkTo_yes HZ.out (by rw [← HLO.out]; exact hl), hz2.out, List.append_assoc]
            have ly : (putAll ys).length ≤ 1000 := by
              have h1 := putAll_len ys
              have h2 := bS_len OK.out i
              have h3 := blkTo_len x.t k
              have h4 : ys.length = (bS g i).length + (blkTo x.t k).length := by rw [hz2.out, List.length_append, hz.out]
              omega
            have C3 := Lib.hid (fun v w h => C2.out v (putAll ys) z w h ly)
            have P2 : Hid (putL (putAll ys) z = putAll (ys ++ [z])) := (putAll_snoc _ _).symm
            clear ly
            go_wp2_with fail
            refine (C3.out _ _ (ho2.out.rd)).mono ?_
            rintro e w5 ⟨u5, rfl, o5, b5⟩
            have B5 : Hid (Below w.heap.size w w5) := B2.out.trans (b5.mono hsz)
            have O5 : Hid (OwnI w5 w.heap.size u5 (putAll (ys ++ [z]))) := by show OwnI _ _ _ _; rw [← P2.out]; exact o5.mono hsz
            have F5 : Hid (w5.cell? ⟨G, 0, none⟩ = some (.int .i64 g.h) ∧ w5.cell? ⟨G, 1, none⟩ = some (.slice (some ⟨ba, oa, none⟩) n0 g.xc) ∧ w5.cell? ⟨ba, oa + i, none⟩ = some (.slice x.a p x.c) ∧ RdI w5 (.slice x.a p x.c) x.t) := by
              obtain ⟨⟨u0, u1⟩, -, -⟩ := boxedYd_at ((B5.out.block G lG).trans HG.out)
              obtain ⟨bb, ob, eb, u2, u3, -⟩ := (H.out.later B5.out).at HX.out
              rw [EA] at eb
              simp only [Option.some.injEq, Addr.mk.injEq, and_true] at eb
              obtain ⟨rfl, rfl⟩ := eb
              rw [← HP.out] at u2 u3
              exact ⟨u0, u1, u2, u3⟩
            clear o5 b5 B2 ho2 hF f0 f1 f2 f3 P2 C3 EZ hz2
            go_wp2_with fail
            refine (C4.out _).mono ?_
            rintro e w9 ⟨rfl, hw⟩
            obtain rfl : w5 = w9 := hw
            clear C4
            go_wp2
            exact ⟨⟨k + 1, _, _, by omega, by go_num, rfl, L2, Y2, O5, B5, F5⟩, by simp only [intOf]; omega⟩
          · have Y2 : Hid (ys = zs ++ blkTo x.t (k + 1)) := by show _ = _; rw [blkTo_no HZ.out (by rw [← HLO.out]; exact hl), hz2.out]
            clear hz2
            go_wp2_with fail
            refine (C4.out _).mono ?_
            rintro e w9 ⟨rfl, hw⟩
            obtain rfl : wr = w9 := hw
            clear C4 f0 f1 f2 f3
            go_wp2
            exact ⟨⟨k + 1, _, _, by omega, by go_num, rfl, L2, Y2, ho2, B2, hF⟩, by simp only [intOf]; omega⟩
        · obtain rfl : k = p := by omega
          have Z3 : Hid (ys = bS g (i + 1)) := by show _ = _; rw [bS_succ HX.out, ← HP.out, hz2.out, hz.out]
          clear hz2
          go_wp2
          exact ⟨⟨i + 1, _, by omega, by go_num, Z3, ho2, B2⟩, by simp only [intOf]; omega⟩
    · obtain rfl : i = n0 := by omega
      have O1 : Hid (OwnI wr w.heap.size u3 (putAll (bS g i))) := by have := ho.out; rwa [hz.out] at this
      clear ho
      go_wp2
      go_ret
      exact ⟨_, rfl, O1.out, B.out⟩

/-- What BlockersOf answers. -/
def BlkRes (g : Yd) (L : List Int) (b : Bool) : Prop := (OkYd g ∧ L = asc (bS g g.x.length) ∧ b = true) ∨ (¬ OkYd g ∧ L = [] ∧ b = false)
theorem BlkRes.same {g k : Yd} {L : List Int} {b : Bool} (h : BlkRes g L b) (e : g.same k) : BlkRes k L b := by
  rcases h with ⟨a, c, d⟩ | ⟨a, c, d⟩
  · exact .inl ⟨a.same e, by rw [c, ← e.len]; unfold bS; rw [e.2], d⟩
  · exact .inr ⟨fun q => a (q.same (Yd.same_symm e)), c, d⟩

set_option maxRecDepth 100000 in
set_option maxHeartbeats 16000000 in
theorem specBlk_any (g : Yd) (n0 : Nat) (w : World) (hr : RdYd w n0 g) (l0 : n0 + sumT g.x ≤ 1048576) (L : List Int) (b : Bool) (hL : BlkRes g L b) :
    Calls Try.prog 20 #[(.agg #[.int .i64 g.h, .slice g.xa n0 g.xc])] w fun e w' => ∃ u, e = .returned (.tuple #[u, .bool b]) ∧ OwnIC w' w.heap.size w'.heap.size u L ∧ Below w.heap.size w w' := by
  obtain ⟨i0, hi, hz0, hz1, hz2⟩ := info_parts info_i64
  have E0 := Lib.hid hr.len
  obtain ⟨b1, h1⟩ := bool_of (OkYd g)
  have C := Lib.hid (fun (w : World) G hG hr => l09Yard_any G 27 g n0 w hG hr l0 b1 h1)
  have H := Lib.hid hr.r0
  have HR := Lib.hid hr
  have C2 := Lib.hid (fun (w : World) G hG hr ok => l09Blockers_any G 27 g n0 w hG hr ok)
  have H1 := Lib.hid h1
  have HL := Lib.hid hL
  clear hr h1 hL
  go_enter Try.func20, Try.ntmps20
  go_wp2_with fail
  refine (C.out _ _ (heap_alloc_new w _) (HR.out.later (by go_grown))).mono ?_
  rintro e w1 ⟨rfl, c1⟩
  have B1 : Hid (Below w.heap.size w w1) := Below.trans (by go_grown) (c1.mono (by simp only [World.size_alloc]; omega))
  have N1 : Hid (w1.heap[w.heap.size]? = some (.cells #[.int .i64 g.h, .slice g.xa n0 g.xc] 27 (0, 0))) := (c1.block w.heap.size (by simp)).trans (heap_alloc_new w _)
  have z1 : w.heap.size + 1 ≤ w1.heap.size := by have := c1.size; simp only [World.size_alloc] at this; exact this
  clear c1 C
  cases b1 with
  | false =>
    have no : ¬ OkYd g := fun q => by have := H1.out.mpr q; simp at this
    obtain ⟨rfl, rfl⟩ : L = [] ∧ b = false := by
      rcases HL.out with k | k
      · exact absurd k.1 no
      · exact k.2
    go_wp2
    go_ret2
    exact ⟨_, rfl, OwnIC.of (ownI_none' _ _), B1.out⟩
  | true =>
  have ok := Lib.hid (H1.out.mp (by trivial))
  obtain ⟨HV, rfl⟩ : Hid (L = asc (bS g g.x.length)) ∧ b = true := by
    rcases HL.out with k | k
    · exact k.2
    · exact absurd ok.out k.1
  clear HL H1
  go_wp2_with fail
  refine (C2.out _ _ N1.out (HR.out.later B1.out) ok.out).mono ?_
  rintro e w5 ⟨u5, rfl, o5, b5⟩
  have B5 : Hid (Below w.heap.size w w5) := B1.out.trans (b5.mono (by omega))
  have O5 : Hid (OwnI w5 w.heap.size u5 L) := by
    show OwnI _ _ _ _
    rw [HV.out, ← E0.out, ← putAll_asc (bS_nodup ok.out n0)]
    exact o5.mono (by omega)
  clear o5 b5
  go_wp2
  go_ret2
  exact ⟨_, rfl, OwnIC.of O5.out, B5.out⟩
end Go.Proofs.Ytmdddjhlfpmgdab
