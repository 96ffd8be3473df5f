/- Sights that no other ones check: the program. -/
import Derived.Test.YthfmmlpbflfpaaaDoorUncM
namespace Go.Proofs.YthfmmlpbflfpaaaDoor
open Go.ChangeShapes Go.WideShapes Go.ChangeAt Go.RowKit
set_option linter.unusedVariables false
set_option linter.unusedSimpArgs false

set_option maxRecDepth 100000 in
set_option maxHeartbeats 4000000 in
theorem clo_any (G : Nat) (g : Sv) (n0 : Nat) (w : World) (hG : w.heap[G]? = some (.cells #[.int .i64 g.p, .slice g.xa n0 g.xc] 29 (0, 0))) (hr : RdSv w n0 g) (cp : g.caps n0) (ok : OkSv g) (hT : TSv w) (k : Nat) (hk : k < n0) (b : Bool) (hb : b = true ↔ ¬ Con (dropSv g k)) :
    Calls Tryd.prog 42 #[.int .i64 k, .pointer (some ⟨G, 0, none⟩)] w fun e w' => e = .returned (.bool b) ∧ Below w.heap.size w w' := by
  have e0 := hr.len
  have l8 : n0 ≤ 8 := by have := ok.n0; omega
  have okd : OkSv (dropSv g k) := dropSv_ok ok k (by omega)
  obtain ⟨⟨p0, p1⟩, -, -⟩ := boxedSv_at hG
  have C1 := Lib.hid (without_any g n0 w hr cp l8 k hk)
  obtain ⟨a0, a1, -, k0, k1⟩ := hT.cells
  have l0' := World.block_lt_of_cell? w _ k0
  have l1' := World.block_lt_of_cell? w _ k1
  have C2 : Hid (∀ (u : Sv) (w1 : World), Below w.heap.size w w1 → u.same (dropSv g k) → RdSv w1 (n0 - 1) u →
      Calls Tryd.prog 34 #[.agg #[.int .i64 u.p, .slice u.xa (n0 - 1) u.xc]] w1 fun e w' => Below w1.heap.size w1 w' ∧
        ((b = true ∧ e = .returned (.tuple #[.agg #[.slice none 0 0, .slice none 0 0], .iface 129 (.pointer (some a1))])) ∨
         (b = false ∧ ∃ (gb n m c1 : Nat) (ad : Option Addr), e = .returned (.tuple #[.agg #[.slice (some ⟨gb, 0, none⟩) n n, .slice ad m c1], .nilIface])))) := by
    intro u w1 bl hs hru
    refine (treeOf_any u (n0 - 1) w1 hru (by omega) a0 a1 ((bl.cell (p := ⟨1, 0, none⟩) l0').trans k0) ((bl.cell (p := ⟨0, 0, none⟩) l1').trans k1)).mono ?_
    rintro e w' ⟨h, bl'⟩
    refine ⟨bl', ?_⟩
    rcases h with ⟨hc, a, rfl, ha⟩ | ⟨hc, gb, m, c1, ad, gl, R, S, D, rfl, -, -, -, -⟩
    · left
      refine ⟨hb.mpr (fun h => hc ((con_same hs).mpr h)), ?_⟩
      rw [ha ((okSv_same hs).mpr okd)]
    · right
      refine ⟨?_, gb, _, m, c1, ad, rfl⟩
      cases b with
      | false => rfl
      | true => exact absurd ((con_same hs).mp hc) (hb.mp rfl)
  have G0 : Hid (∀ w', Below w.heap.size w w' → w'.cell? ⟨0, 0, none⟩ = some (.iface 129 (.pointer (some a1)))) := fun w' bl => (bl.cell (p := ⟨0, 0, none⟩) l1').trans k1
  clear hr cp ok hT okd k0 k1 hb l0' e0 hG
  go_enter Tryd.func42, Tryd.ntmps42
  go_wp2_with fail
  refine C1.out.mono ?_
  rintro e w1 ⟨u, hs, rfl, ou, b1⟩
  have CC := Lib.hid (C2.out u w1 b1 hs ou.rd)
  have B1 := Lib.hid b1
  clear C1 C2 hs ou b1 p0 p1
  go_wp2_with fail
  refine CC.out.mono ?_
  rintro e w2 ⟨b2, h⟩
  have B2 : Hid (Below w.heap.size w w2) := B1.out.trans (b2.mono B1.out.size)
  have z2 := B2.out.size
  clear b2 CC B1
  have k1 := G0.out w2 B2.out
  rcases h with ⟨rfl, rfl⟩ | ⟨rfl, gb, n, m, c1, ad, rfl⟩
  · have BX : Hid (Below w.heap.size w (w2.alloc (.cells #[.slice none 0 0, .slice none 0 0] 54))) := B2.out.alloc z2 _
    have kX := G0.out _ BX.out
    go_upto_region 2 with (fail)
    generalize w2.alloc (.cells #[.slice none 0 0, .slice none 0 0] 54) = wx at *
    clear B2 z2 k1 G0
    go_wp2_with fail
    refine (isErr_same a1 _).mono ?_
    rintro e w3 ⟨rfl, rfl⟩
    go_wp2
    go_ret
    exact ⟨rfl, BX.out⟩
  · go_upto_region 2 with (fail)
    have BX : Hid (Below w.heap.size w (w2.alloc (.cells #[.slice (some ⟨gb, 0, none⟩) n n, .slice ad m c1] 54))) := B2.out.alloc z2 _
    have kX := G0.out _ BX.out
    generalize w2.alloc (.cells #[.slice (some ⟨gb, 0, none⟩) n n, .slice ad m c1] 54) = wx at *
    clear B2 z2 k1 G0
    go_wp2_with fail
    refine (isErr_nil a1 _).mono ?_
    rintro e w3 ⟨rfl, rfl⟩
    go_wp2
    go_ret
    exact ⟨rfl, BX.out⟩

set_option maxRecDepth 100000 in
set_option maxHeartbeats 4000000 in
theorem numbersUnc_any (G : Nat) (N : Nat) (P : Int → Bool) (hN : N ≤ 8) (w : World) (c : Hid (∀ (k : Nat) (w' : World), k < N → Below w.heap.size w w' → Calls Tryd.prog 42 #[.int .i64 k, .pointer (some ⟨G, 0, none⟩)] w' fun e w'' => e = .returned (.bool (P k)) ∧ Below w'.heap.size w' w'')) :
    Calls Tryd.prog 41 #[.int .i64 0, .int .i64 ((N : Int) - 1), .func (.func 42) #[] #[.pointer (some ⟨G, 0, none⟩)]] w fun e w' => ∃ v, e = .returned v ∧ OwnI w' w.heap.size v (goodL 0 P N) ∧ Below w.heap.size w w' := by
  obtain ⟨i0, hi, hz0, hz1, hz2⟩ := info_parts info_i64
  obtain ⟨hi', hhi⟩ : ∃ h, h = (N : Int) - 1 := ⟨_, rfl⟩
  rw [← hhi]
  have O0 : Hid (OwnI w w.heap.size (.slice none 0 0) (goodL 0 P 0)) := World.ownsRow_nil _ _ _ _
  have B0 : Hid (Below w.heap.size w w) := Below.refl _ _
  have HH := Lib.hid hhi
  clear hhi
  go_enter Tryd.func41, Tryd.ntmps41
  go_wp2
  go_loopw [7, 8] (fun v i wr => ∃ k : Nat, k ≤ N ∧ i = .int .i64 k ∧ Hid (OwnI wr w.heap.size v (goodL 0 P k)) ∧ Hid (Below w.heap.size w wr)) (fun _ i _ => N - (intOf i).toNat)
  case atStart => exact ⟨0, by omega, by simp, O0, B0⟩
  case round =>
    obtain ⟨k, hk, rfl, OK, BK⟩ := hrel
    clear O0 B0
    obtain ⟨a0, cap0, rfl, -⟩ := OK.out.rd
    obtain ⟨L, hL⟩ : ∃ L, L = (goodL 0 P k).length := ⟨_, rfl⟩
    have lL : L ≤ 100 := by have := goodL_len 0 P k; omega
    rw [← hL] at OK ⊢
    have HL := Lib.hid hL
    clear hL
    by_cases hlt : k < N
    · have le : (k : Int) ≤ hi' := by have := HH.out; omega
      have sz := BK.out.size
      have c1 := c.out k _ hlt BK.out
      cases hp : P k with
      | true =>
        rw [hp] at c1
        have C1 := Lib.hid c1
        have GS : Hid (goodL 0 P (k + 1) = goodL 0 P k ++ [(k : Int)]) := by show _ = _; rw [goodL_succ, Int.zero_add, hp]; rfl
        clear c1 hp
        go_wp2_with fail
        refine C1.out.mono ?_
        rintro e w2 ⟨rfl, b2⟩
        have z2 := b2.size
        have O2 : Hid (OwnI w2 w.heap.size _ (goodL 0 P k)) := OK.out.below b2 fun j e => (OK.out.lt j e).2
        have B2 : Hid (Below w.heap.size w w2) := BK.out.trans (b2.mono sz)
        have own := O2.out
        unfold OwnI at own
        rw [← HL.out] at own
        have OWN := Lib.hid own
        clear own b2 OK
        go_wp2_with (at_builtin; refine wpList_append_lies _ rfl _ _ _ rfl w.heap.size 2 i0 _ 1 8 Tryd.underlying33 hi hz0 hz1 hz2 rfl (by omega) _ _ _ rfl (OWN.out.alloc _) ⟨w2.heap.size, 0, none⟩ 1 1 [.int .i64 (k : Int)] rfl rfl (World.news_of_block (cs := #[.int .i64 (k : Int)]) (t := 2) (fr := (0, 0)) (heap_alloc_new w2 _)) (by simp [Value.oneCell']) (by omega) (by unfold maxLen; omega) (by omega) (by simp only [World.size_alloc]; omega) _ rfl ?_)
        intro gg cap1 w5 hown1 hgrow hat hlt'
        have O5 : Hid (OwnI w5 w.heap.size (.slice (some ⟨gg, 0, none⟩) (L + 1) cap1) (goodL 0 P (k + 1))) := by
          show OwnI _ _ _ _
          unfold OwnI
          rw [GS.out, List.length_append, ← HL.out, List.map_append]
          exact hown1
        have B5 : Hid (Below w.heap.size w w5) := B2.out.grown (grownBy_trans' (World.grownBy_alloc w2 _ _) hgrow) (by omega) (fun j e => (O2.out.lt j e).1)
        clear hown1 hgrow hat hlt' OWN O2 B2 C1
        go_wp2
        exact ⟨⟨k + 1, by omega, by go_num, O5, B5⟩, by simp only [intOf]; omega⟩
      | false =>
        rw [hp] at c1
        have C1 := Lib.hid c1
        have GS : Hid (goodL 0 P (k + 1) = goodL 0 P k) := by show _ = _; rw [goodL_succ, Int.zero_add, hp]; rfl
        clear c1 hp
        go_wp2_with fail
        refine C1.out.mono ?_
        rintro e w2 ⟨rfl, b2⟩
        have O2 : Hid (OwnI w2 w.heap.size (.slice a0 L cap0) (goodL 0 P (k + 1))) := by
          have h := OK.out.below b2 fun j e => (OK.out.lt j e).2
          show OwnI _ _ _ _
          rw [GS.out]; exact h
        have B2 : Hid (Below w.heap.size w w2) := BK.out.trans (b2.mono sz)
        clear b2 OK BK C1
        go_wp2
        exact ⟨⟨k + 1, by omega, by go_num, O2, B2⟩, by simp only [intOf]; omega⟩
    · obtain rfl : k = N := by omega
      have nle : ¬ (k : Int) ≤ hi' := by have := HH.out; omega
      go_wp2
      go_ret
      exact ⟨_, rfl, OK.out, BK.out⟩

set_option maxRecDepth 100000 in
set_option maxHeartbeats 4000000 in
theorem implUnc_any (g : Sv) (n0 : Nat) (w : World) (hr : RdSv w n0 g) (cp : g.caps n0) (l0 : n0 ≤ 1048576) (hT : TSv w) (b : Bool) (hb : b = true ↔ Con g) (P : Int → Bool) (hP : ∀ k : Nat, P k = true ↔ ¬ Con (dropSv g k)) (ys : List Int) (hy : ys = if b = true then goodL 0 P n0 else []) :
    Calls Tryd.prog 25 #[(.agg #[.int .i64 g.p, .slice g.xa n0 g.xc])] w fun e w' => ∃ u, e = .returned (.tuple #[u, .bool b]) ∧ OwnIC w' w.heap.size w'.heap.size u ys ∧ Below w.heap.size w w' := by
  have BW : Below w.heap.size w (w.alloc (.cells #[.int .i64 g.p, .slice g.xa n0 g.xc] 29)) := by go_grown
  have W1 : Hid ((w.alloc (.cells #[.int .i64 g.p, .slice g.xa n0 g.xc] 29)).heap[w.heap.size]? = some (.cells #[.int .i64 g.p, .slice g.xa n0 g.xc] 29 (0, 0))) := heap_alloc_new w _
  have W3 : (w.alloc (.cells #[.int .i64 g.p, .slice g.xa n0 g.xc] 29)).heap.size = w.heap.size + 1 := by simp
  have C := Lib.hid (implConn_any g n0 (w.alloc (.cells #[.int .i64 g.p, .slice g.xa n0 g.xc] 29)) (hr.later BW) l0 (hT.later BW) b hb)
  have CN : Hid (∀ w2, b = true → Below w.heap.size w w2 → w2.heap[w.heap.size]? = some (.cells #[.int .i64 g.p, .slice g.xa n0 g.xc] 29 (0, 0)) →
      Calls Tryd.prog 41 #[.int .i64 0, .int .i64 ((n0 : Int) - 1), .func (.func 42) #[] #[.pointer (some ⟨w.heap.size, 0, none⟩)]] w2 fun e w' => ∃ v, e = .returned v ∧ OwnI w' w2.heap.size v (goodL 0 P n0) ∧ Below w2.heap.size w2 w') := by
    intro w2 hbt bl hG
    have ok := (hb.mp hbt).1
    have e0 := hr.len
    refine numbersUnc_any w.heap.size n0 P (by have := ok.n0; omega) w2 ?_
    intro k w' hk b'
    have bb := bl.trans (b'.mono bl.size)
    exact clo_any w.heap.size g n0 w' ((b'.block _ (Array.getElem?_eq_some_iff.1 hG).1).trans hG) (hr.later bb) cp ok (hT.later bb) k hk (P k) (hP k)
  have HY := Lib.hid hy
  have L8 : Hid (b = true → n0 ≤ 8) := fun h => by have := (hb.mp h).1.n0; have := hr.len; omega
  clear hr hT hb hy BW cp hP
  go_enter Tryd.func25, Tryd.ntmps25
  go_wp2_with fail
  refine C.out.mono ?_
  rintro e w2 ⟨rfl, b2⟩
  have B2 : Hid (Below w.heap.size w w2) := Below.trans (by go_grown) (b2.mono (by simp only [World.size_alloc]; omega))
  have V1 := Lib.hid ((b2.block w.heap.size (by omega)).trans W1.out)
  clear b2 C W1 W3
  cases b with
  | false =>
    obtain rfl : ys = [] := by rw [HY.out]; simp
    go_wp2
    go_returns
    exact ⟨_, rfl, ⟨World.ownsRow_nil _ _ _ _, fun k e => by simp [Value.ownBlock] at e, Nat.le_refl _⟩, B2.out⟩
  | true =>
    have l8 := L8.out rfl
    have CC := Lib.hid (CN.out w2 rfl B2.out V1.out)
    obtain rfl : ys = goodL 0 P n0 := by rw [HY.out]; simp
    obtain ⟨⟨p0, p1⟩, -, -⟩ := boxedSv_at V1.out
    have qp : IntKind.i64.wrap ((n0 : Int) - 1) = (n0 : Int) - 1 := IntWalk.i64_in _ (by omega)
    clear CN HY L8 V1
    go_wp2_with fail
    refine CC.out.mono ?_
    rintro e w3 ⟨v, rfl, o3, b3⟩
    have O3 := Lib.hid (OwnIC.of o3)
    have B3 : Hid (Below w.heap.size w w3) := B2.out.trans (b3.mono B2.out.size)
    have z2 := B2.out.size
    clear o3 b3 CC p0 p1 qp
    go_wp2
    go_returns
    exact ⟨_, rfl, O3.out.mono z2, B3.out⟩
end Go.Proofs.YthfmmlpbflfpaaaDoor
