/- TopsOf on both sides. -/
import Derived.Test.YtmdddjhlfpmgdabYardX
import Derived.Test.YtmdddjhlfpmgdabPileI
import Derived.Test.YtmdddjhlfpmgdabPart
import Derived.Test.YtmdddjhlfpmgdabAppI
namespace Go.Proofs.Ytmdddjhlfpmgdab
open Go.ChangeShapes Go.WideShapes Go.ChangeAt Go.RowKit
set_option linter.unusedVariables false
set_option linter.unusedSimpArgs false

theorem ownI_none (w : World) (B : Nat) : OwnI w B (.slice none 0 0) [] := World.ownsRow_nil _ _ _ _

/-- What TopsOf answers. -/
def TopsRes (g : Yd) (L : List Int) (b : Bool) : Prop := (OkYd g ∧ L = g.x.map (fun x => topOf x.t) ∧ b = true) ∨ (¬ OkYd g ∧ L = [] ∧ b = false)
theorem topOf_get {t : List Int} {k : Nat} {z : Int} (h : t[k]? = some z) (e : t.length = k + 1) : topOf t = z := by
  unfold topOf
  rw [List.getLastD_eq_getLast?, List.getLast?_eq_getElem?, e, Nat.add_sub_cancel, h]
  rfl
theorem tops_same {g k : Yd} (h : g.same k) : g.x.map (fun x => topOf x.t) = k.x.map (fun x => topOf x.t) := by
  have := congrArg (List.map topOf) h.2
  rw [List.map_map, List.map_map] at this
  exact this
theorem tops_get {g : Yd} {i : Nat} {x : Sl} (h : g.x[i]? = some x) : (g.x.map (fun x => topOf x.t))[i]? = some (topOf x.t) := by rw [List.getElem?_map, h]; rfl
theorem TopsRes.same {g k : Yd} {L : List Int} {b : Bool} (h : TopsRes g L b) (e : g.same k) : TopsRes k L b := by
  rcases h with ⟨a, c, d⟩ | ⟨a, c, d⟩
  · exact .inl ⟨a.same e, by rw [c, tops_same e], d⟩
  · exact .inr ⟨fun q => a (q.same (Yd.same_symm e)), c, d⟩

set_option maxRecDepth 100000 in
set_option maxHeartbeats 16000000 in
theorem specTops_any (g : Yd) (n0 : Nat) (w : World) (hr : RdYd w n0 g) (l0 : n0 + sumT g.x ≤ 1048576) (L : List Int) (b : Bool) (hL : TopsRes g L b) :
    Calls Try.prog 14 #[(.agg #[.int .i64 g.h, .slice g.xa n0 g.xc])] w fun e w' => ∃ u, e = .returned (.tuple #[u, .bool b]) ∧ OwnIC w' w.heap.size w'.heap.size u L ∧ Below w.heap.size w w' := by
  obtain ⟨i0, hi, hz0, hz1, hz2⟩ := info_parts info_i64
  have E0 := Lib.hid hr.len
  obtain ⟨b1, h1⟩ := bool_of (OkYd g)
  have C := Lib.hid (fun (w : World) G hG hr => l09Yard_any G 27 g n0 w hG hr l0 b1 h1)
  have H := Lib.hid hr.r0
  have HR := Lib.hid hr
  have H1 := Lib.hid h1
  have HL := Lib.hid hL
  clear hr h1 hL
  go_enter Try.func14, Try.ntmps14
  go_wp2_with fail
  refine (C.out _ _ (heap_alloc_new w _) (HR.out.later (by go_grown))).mono ?_
  rintro e w1 ⟨rfl, c1⟩
  have B1 : Hid (Below w.heap.size w w1) := Below.trans (by go_grown) (c1.mono (by simp only [World.size_alloc]; omega))
  have N1 : Hid (w1.heap[w.heap.size]? = some (.cells #[.int .i64 g.h, .slice g.xa n0 g.xc] 27 (0, 0))) := (c1.block w.heap.size (by simp)).trans (heap_alloc_new w _)
  have z1 : w.heap.size + 1 ≤ w1.heap.size := by have := c1.size; simp only [World.size_alloc] at this; exact this
  clear c1 C
  cases b1 with
  | false =>
    have no : ¬ OkYd g := fun q => by have := H1.out.mpr q; simp at this
    obtain ⟨rfl, rfl⟩ : L = [] ∧ b = false := by
      rcases HL.out with k | k
      · exact absurd k.1 no
      · exact k.2
    go_wp2
    go_ret2
    exact ⟨_, rfl, OwnIC.of (ownI_none _ _), B1.out⟩
  | true =>
  have ok := Lib.hid (H1.out.mp (by trivial))
  obtain ⟨HV, rfl⟩ : Hid (L = g.x.map (fun x => topOf x.t)) ∧ b = true := by
    rcases HL.out with k | k
    · exact k.2
    · exact absurd ok.out k.1
  have LL : Hid (L.length = n0) := by show _ = _; rw [HV.out, List.length_map, E0.out]
  have n4 : n0 ≤ 4 := by have := ok.out.n0; have := E0.out; omega
  have O0 := Lib.hid ((own_built w1 w1.heap.size L rfl).mono (show w.heap.size + 1 ≤ w1.heap.size from z1))
  have B0 : Hid (Below w.heap.size w (w1.alloc (.cells #[] 2))) := B1.out.trans (by go_grown)
  have N0 : Hid ((w1.alloc (.cells #[] 2)).heap[w.heap.size]? = some (.cells #[.int .i64 g.h, .slice g.xa n0 g.xc] 27 (0, 0))) := ((show Below w1.heap.size w1 (w1.alloc (.cells #[] 2)) by go_grown).block w.heap.size (by omega)).trans N1.out
  clear HL H1 B1 N1
  go_wp2
  go_loopw [4, 5] (fun ov iv wr => ∃ (i c1 : Nat) (ad : Option Addr), i ≤ n0 ∧ iv = .int .i64 i ∧ ov = .slice ad i c1 ∧ Hid (OwnI wr (w.heap.size + 1) (.slice ad i c1) (L.take i)) ∧ Hid (Below w.heap.size w wr) ∧ w.heap.size + 1 ≤ wr.heap.size ∧ Hid (wr.heap[w.heap.size]? = some (.cells #[.int .i64 g.h, .slice g.xa n0 g.xc] 27 (0, 0)))) (fun _ iv _ => n0 - (intOf iv).toNat)
  case atStart => exact ⟨0, _, _, by omega, rfl, rfl, O0.out, B0.out, by simp only [World.size_alloc]; omega, N0.out⟩
  case round =>
    obtain ⟨i, c1, ad, hi', rfl, rfl, ho, B, zr, N⟩ := hrel
    clear O0 B0 N0
    obtain ⟨⟨k0, k1⟩, -, -⟩ := boxedYd_at N.out
    by_cases hlt : i < n0
    · obtain ⟨x, hx⟩ : ∃ x, g.x[i]? = some x := ⟨_, List.getElem?_eq_getElem (by have := E0.out; omega)⟩
      obtain ⟨ba, oa, ea, e1, rt, la⟩ := (H.out.later B.out).at hx
      rw [ea] at k1
      have HX := Lib.hid hx
      have EA := Lib.hid ea
      have LG : Hid (L[i]? = some (topOf x.t)) := by show _ = _; rw [HV.out, tops_get hx]
      have own := Lib.hid (own_take LL.out hi' ho.out)
      have lgz := own.out.lt
      have lt4 : x.t.length ≤ 4 := by have := ok.out.t0 x (List.mem_of_getElem? hx); have := ok.out.h0; omega
      obtain ⟨p, hp⟩ : ∃ p, p = x.t.length := ⟨_, rfl⟩
      rw [← hp] at e1 rt lt4
      have HP := Lib.hid hp
      have RT := Lib.hid rt
      clear hx ea hp rt ho
      by_cases p0 : p = 0
      · subst p0
        have tz : topOf x.t = -1 := by
          have : x.t = [] := List.length_eq_zero_iff.mp HP.out.symm
          rw [this]; rfl
        rw [tz] at LG
        go_wp2_with (at_builtin; refine wpList_append_lies _ rfl _ _ _ rfl (w.heap.size + 1) 2 i0 _ 1 8 Try.underlying31 hi hz0 hz1 hz2 rfl (by omega) _ _ _ rfl (own.out.alloc _) ⟨wr.heap.size, 0, none⟩ 1 1 [.int .i64 (-1)] rfl rfl (World.news_of_block (cs := #[.int .i64 (-1)]) (t := 2) (fr := (0, 0)) (heap_alloc_new wr _)) (by simp [Value.oneCell']) (by omega) (by unfold maxLen; omega) (by omega) (by simp only [World.size_alloc]; omega) _ rfl ?_)
        intro gg cap1 w5 hown1 hgrow hat hlt'
        have gb := grownBy_trans' (World.grownBy_alloc wr _ _) hgrow
        have B5 : Hid (Below w.heap.size w w5) := B.out.grown gb (by omega) (fun j e => by have := (lgz j e).1; omega)
        have N5 : Hid (w5.heap[w.heap.size]? = some (.cells #[.int .i64 g.h, .slice g.xa n0 g.xc] 27 (0, 0))) := (((Below.refl (w.heap.size + 1) wr).grown gb (by omega) (fun j e => (lgz j e).1)).block w.heap.size (by omega)).trans N.out
        have z5 : w.heap.size + 1 ≤ w5.heap.size := by have := gb.size; omega
        have O5 := Lib.hid (own_next LG.out hown1)
        clear hown1 hgrow hat hlt' own lgz gb B N k0 k1 e1
        go_wp2
        exact ⟨⟨i + 1, cap1, _, by omega, by go_num, rfl, O5, B5, z5, N5⟩, by simp only [intOf]; omega⟩
      · obtain ⟨k, rfl⟩ : ∃ k, p = k + 1 := ⟨p - 1, by omega⟩
        obtain ⟨z, hzz⟩ : ∃ z, x.t[k]? = some z := ⟨_, List.getElem?_eq_getElem (by have := HP.out; omega)⟩
        obtain ⟨bz, oz, ez, f3⟩ := RT.out.at1 k z hzz
        rw [ez] at e1
        have tz : topOf x.t = z := topOf_get hzz HP.out.symm
        rw [tz] at LG
        have q1 : IntKind.i64.wrap (((k + 1 : Nat) : Int) - 1) = (k : Int) := by rw [IntWalk.i64_in _ (by omega)]; omega
        clear hzz tz
        go_wp2_with (at_builtin; refine wpList_append_lies _ rfl _ _ _ rfl (w.heap.size + 1) 2 i0 _ 1 8 Try.underlying31 hi hz0 hz1 hz2 rfl (by omega) _ _ _ rfl (own.out.alloc _) ⟨wr.heap.size, 0, none⟩ 1 1 [.int .i64 z] rfl rfl (World.news_of_block (cs := #[.int .i64 z]) (t := 2) (fr := (0, 0)) (heap_alloc_new wr _)) (by simp [Value.oneCell']) (by omega) (by unfold maxLen; omega) (by omega) (by simp only [World.size_alloc]; omega) _ rfl ?_)
        intro gg cap1 w5 hown1 hgrow hat hlt'
        have gb := grownBy_trans' (World.grownBy_alloc wr _ _) hgrow
        have B5 : Hid (Below w.heap.size w w5) := B.out.grown gb (by omega) (fun j e => by have := (lgz j e).1; omega)
        have N5 : Hid (w5.heap[w.heap.size]? = some (.cells #[.int .i64 g.h, .slice g.xa n0 g.xc] 27 (0, 0))) := (((Below.refl (w.heap.size + 1) wr).grown gb (by omega) (fun j e => (lgz j e).1)).block w.heap.size (by omega)).trans N.out
        have z5 : w.heap.size + 1 ≤ w5.heap.size := by have := gb.size; omega
        have O5 := Lib.hid (own_next LG.out hown1)
        clear hown1 hgrow hat hlt' own lgz gb B N k0 k1 e1
        go_wp2
        exact ⟨⟨i + 1, cap1, _, by omega, by go_num, rfl, O5, B5, z5, N5⟩, by simp only [intOf]; omega⟩
    · obtain rfl : i = n0 := by omega
      have O1 := Lib.hid (own_all LL.out ho.out)
      clear ho
      go_wp2
      go_ret2
      exact ⟨_, rfl, (OwnIC.of O1.out).mono (by omega), B.out⟩
set_option maxRecDepth 100000 in
set_option maxHeartbeats 16000000 in
theorem implTops_any (g : Yd) (n0 : Nat) (w : World) (hr : RdYd w n0 g) (l0 : n0 + sumT g.x ≤ 1048576) (L : List Int) (b : Bool) (hL : TopsRes g L b) :
    Calls Try.prog 15 #[(.agg #[.int .i64 g.h, .slice g.xa n0 g.xc])] w fun e w' => ∃ u, e = .returned (.tuple #[u, .bool b]) ∧ OwnIC w' w.heap.size w'.heap.size u L ∧ Below w.heap.size w w' := by
  obtain ⟨i0, hi, hz0, hz1, hz2⟩ := info_parts info_i64
  have E0 := Lib.hid hr.len
  obtain ⟨b1, h1⟩ := bool_of (OkYd g)
  have C := Lib.hid (fun (w : World) hr => implYard_any g n0 w hr l0 b1 h1)
  have H := Lib.hid hr.r0
  have HR := Lib.hid hr
  have H1 := Lib.hid h1
  have HL := Lib.hid hL
  clear hr h1 hL
  go_enter Try.func15, Try.ntmps15
  go_wp2_with fail
  refine (C.out _ (HR.out.later (by go_grown))).mono ?_
  rintro e w1 ⟨rfl, c1⟩
  have B1 : Hid (Below w.heap.size w w1) := Below.trans (by go_grown) (c1.mono (by simp only [World.size_alloc]; omega))
  have N1 : Hid (w1.heap[w.heap.size]? = some (.cells #[.int .i64 g.h, .slice g.xa n0 g.xc] 27 (0, 0))) := (c1.block w.heap.size (by simp)).trans (heap_alloc_new w _)
  have z1 : w.heap.size + 1 ≤ w1.heap.size := by have := c1.size; simp only [World.size_alloc] at this; exact this
  clear c1 C
  obtain ⟨⟨k0, k1⟩, -, -⟩ := boxedYd_at N1.out
  cases b1 with
  | false =>
    have no : ¬ OkYd g := fun q => by have := H1.out.mpr q; simp at this
    obtain ⟨rfl, rfl⟩ : L = [] ∧ b = false := by
      rcases HL.out with k | k
      · exact absurd k.1 no
      · exact k.2
    go_wp2
    go_ret2
    exact ⟨_, rfl, OwnIC.of (ownI_none _ _), B1.out⟩
  | true =>
  have ok := Lib.hid (H1.out.mp (by trivial))
  obtain ⟨HV, rfl⟩ : Hid (L = g.x.map (fun x => topOf x.t)) ∧ b = true := by
    rcases HL.out with k | k
    · exact k.2
    · exact absurd ok.out k.1
  have LL : Hid (L.length = n0) := by show _ = _; rw [HV.out, List.length_map, E0.out]
  have n4 : n0 ≤ 4 := by have := ok.out.n0; have := E0.out; omega
  clear HL H1
  obtain ⟨x0, hx0⟩ : ∃ x0, g.x[0]? = some x0 := ⟨_, List.getElem?_eq_getElem (by have := ok.out.n0; omega)⟩
  obtain ⟨ba, oa, EA, -, -, -⟩ := H.out.at hx0
  clear hx0 x0
  go_wp2_with (first | (at_make; refine wpList_make_full _ rfl _ _ _ rfl w1.heap.size 2 i0 (.int .i64 0) 1 Try.underlying31 hi hz0 hz1 .i64 .i64 _ _ n0 rfl rfl rfl rfl ?b2 ?b3 (Nat.le_refl _) ?_) | go_in)
  case b2 => rw [hz2]; omega
  case b3 => unfold maxLen; omega
  intro w2 hown hg
  rw [toList_madeCells_one] at hown
  have O2 : Hid (OwnI w2 w1.heap.size (.slice (some ⟨w1.heap.size, 0, none⟩) n0 n0) (part L n0 0)) := part_made hown
  have b12 : Below w1.heap.size w1 w2 := (Below.refl _ _).grown hg (by omega) (fun k h => by cases h)
  have B2 : Hid (Below w.heap.size w w2) := B1.out.trans (b12.mono (by omega))
  have N2 : Hid (w2.heap[w.heap.size]? = some (.cells #[.int .i64 g.h, .slice g.xa n0 g.xc] 27 (0, 0))) := (b12.block w.heap.size (by omega)).trans N1.out
  have zN : w.heap.size + 1 ≤ w1.heap.size := z1
  clear k0 k1
  obtain ⟨⟨k0, k1⟩, -, -⟩ := boxedYd_at N2.out
  clear hown hg b12 N1 B1
  go_wp2
  go_loopw [17] (fun iv wr => ∃ (i : Nat), i ≤ n0 ∧ iv = .int .i64 i ∧ Hid (OwnI wr w1.heap.size (.slice (some ⟨w1.heap.size, 0, none⟩) n0 n0) (part L n0 i)) ∧ Hid (Below w.heap.size w wr)) (fun iv _ => n0 - (intOf iv).toNat)
  case atStart => exact ⟨0, by omega, rfl, O2.out, B2.out⟩
  case round =>
    obtain ⟨i, hi', rfl, ho, B⟩ := hrel
    clear O2 B2 N2 k0 k1
    by_cases hlt : i < n0
    · obtain ⟨x, hx⟩ : ∃ x, g.x[i]? = some x := ⟨_, List.getElem?_eq_getElem (by have := E0.out; omega)⟩
      obtain ⟨ba', oa', ea, e1, rt, la⟩ := (H.out.later B.out).at hx
      rw [EA] at ea
      simp only [Option.some.injEq, Addr.mk.injEq, and_true] at ea
      obtain ⟨rfl, rfl⟩ := ea
      have LG : Hid (L[i]? = some (topOf x.t)) := by show _ = _; rw [HV.out, tops_get hx]
      have lt4 : x.t.length ≤ 4 := by have := ok.out.t0 x (List.mem_of_getElem? hx); have := ok.out.h0; omega
      have P1 := Lib.hid (fun w h => pileOf_any x.a x.t.length x.c x.t w h lt4)
      have P2 := Lib.hid (fun w => top_any x.t lt4 w)
      obtain ⟨q, hq⟩ : ∃ q, q = pil x.t := ⟨_, rfl⟩
      rw [← hq] at P1 P2
      obtain ⟨z, hz⟩ : ∃ z, z = topOf x.t := ⟨_, rfl⟩
      rw [← hz] at P2 LG
      obtain ⟨p, hp⟩ : ∃ p, p = x.t.length := ⟨_, rfl⟩
      rw [← hp] at P1 e1 rt
      have RT := Lib.hid rt
      have hs := B.out.size
      clear hx hq hz hp rt lt4
      go_wp2_with fail
      refine (P1.out _ RT.out).mono ?_
      rintro e w5 ⟨rfl, b5⟩
      have D5 := Lib.hid b5
      clear b5 e1
      go_wp2_with fail
      refine (P2.out _).mono ?_
      rintro e w6 ⟨rfl, b6⟩
      have D6 : Hid (Below wr.heap.size wr w6) := D5.out.trans (b6.mono D5.out.size)
      have O6 : Hid (OwnI w6 w1.heap.size (.slice (some ⟨w1.heap.size, 0, none⟩) n0 n0) (part L n0 i)) := ho.out.below D6.out (fun b e => (ho.out.lt b e).2)
      obtain ⟨c2, fz⟩ := part_cell LL.out hlt O6.out
      clear b6
      have O7 := Lib.hid (part_store LL.out LG.out O6.out)
      have B6 : Hid (Below w.heap.size w w6) := B.out.trans (D6.out.mono hs)
      have B7 : Hid (Below w.heap.size w (w6.setCell ⟨w1.heap.size, i, none⟩ (.int .i64 z))) := B6.out.setCell (p := ⟨w1.heap.size, i, none⟩) (by show w.heap.size ≤ w1.heap.size; omega) _
      clear O6 B6 D6 D5 ho B P1 P2
      go_wp2
      exact ⟨⟨i + 1, by omega, by go_num, O7, B7⟩, by simp only [intOf]; omega⟩
    · obtain rfl : i = n0 := by omega
      have O1 : Hid (OwnI wr w1.heap.size (.slice (some ⟨w1.heap.size, 0, none⟩) i i) L) := by have := ho.out; rwa [part_all LL.out] at this
      clear ho
      go_wp2
      go_ret2
      exact ⟨_, rfl, (OwnIC.of O1.out).mono (by omega), B.out⟩

theorem exTopsOf (g0 : Yd) (n0 : Nat) (e : n0 = g0.x.length) (lt : ((n0 + sumT g0.x : Nat) : Int) ≤ 1048576) : ∃ (L : List Int) (b : Bool) (_ : L.length ≤ 1048576),
    Hid (∀ (w : World) (k0 : Yd), k0.same g0 → k0.caps n0 → RdYd w n0 k0 → Calls Try.prog 14 #[(.agg #[.int .i64 k0.h, .slice k0.xa n0 k0.xc])] w fun e w' => ∃ u, e = .returned (.tuple #[u, .bool b]) ∧ OwnIC w' w.heap.size w'.heap.size u L ∧ Below w.heap.size w w') ∧
    Hid (∀ (w : World) (k0 : Yd), k0.same g0 → k0.caps n0 → RdYd w n0 k0 → Calls Try.prog 15 #[(.agg #[.int .i64 k0.h, .slice k0.xa n0 k0.xc])] w fun e w' => ∃ u, e = .returned (.tuple #[u, .bool b]) ∧ OwnIC w' w.heap.size w'.heap.size u L ∧ Below w.heap.size w w') := by
  obtain ⟨L, b, hL⟩ : ∃ L b, TopsRes g0 L b := by
    by_cases ok : OkYd g0
    · exact ⟨_, _, .inl ⟨ok, rfl, rfl⟩⟩
    · exact ⟨_, _, .inr ⟨ok, rfl, rfl⟩⟩
  have ll : L.length ≤ 1048576 := by
    rcases hL with ⟨-, k, -⟩ | ⟨-, k, -⟩
    · rw [k, List.length_map]; omega
    · rw [k]; simp
  exact ⟨L, b, ll, fun w k hs _ hr => specTops_any k n0 w hr (by have := hs.sum; omega) L b (hL.same (Yd.same_symm hs)), fun w k hs _ hr => implTops_any k n0 w hr (by have := hs.sum; omega) L b (hL.same (Yd.same_symm hs))⟩
end Go.Proofs.Ytmdddjhlfpmgdab
