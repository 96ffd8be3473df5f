/- Connected surveys: of the program. -/
import Derived.Test.YtcmocilojloolaaDoorTreeP
import Derived.Test.YtcmocilojloolaaDoorConnS
namespace Go.Proofs.YtcmocilojloolaaDoor
open Go.ChangeShapes Go.WideShapes Go.ChangeAt Go.RowKit
set_option linter.unusedVariables false
set_option linter.unusedSimpArgs false

/-- What treeOf answers. -/
def TreeAns (g : Sv) (N : Nat) (a1 : Addr) (e : Ending) (w' : World) : Prop :=
  (¬ Con g ∧ ∃ a, e = .returned (.tuple #[.agg #[.slice none 0 0, .slice none 0 0], .iface 136 (.pointer (some a))]) ∧ (OkSv g → a = a1)) ∨
  (Con g ∧ ∃ (gb m c1 : Nat) (ad : Option Addr) (gl : List Lk) (R : Nat → Nat) (S : Nat → Int) (D : Nat → Nat), e = .returned (.tuple #[.agg #[.slice (some ⟨gb, 0, none⟩) g.p.toNat g.p.toNat, .slice ad m c1], .nilIface]) ∧ GrpOk g.p.toNat g.x g.x.length gl R S D ∧ OwnLk w' N gb g.p.toNat gl ∧ OwnI w' N (.slice ad m c1) (trOf g).o ∧ (∀ b, (Value.slice ad m c1).ownBlock = some b → gb < b))

theorem treeOf_any (g : Sv) (n0 : Nat) (w : World) (hr : RdSv w n0 g) (l0 : n0 ≤ 1048576) (a0 a1 : Addr) (h0 : w.cell? ⟨0, 0, none⟩ = some (.iface 136 (.pointer (some a0)))) (h1 : w.cell? ⟨1, 0, none⟩ = some (.iface 136 (.pointer (some a1)))) :
    Calls Tryd.prog 48 #[(.agg #[.int .i64 g.p, .slice g.xa n0 g.xc])] w fun e w' => TreeAns g w.heap.size a1 e w' ∧ Below w.heap.size w w' := by
  by_cases ok : OkSv g
  · have hp : g.p = (g.p.toNat : Int) := by have := ok.p0; omega
    have e0 := hr.len
    have ok' : OkSv ⟨(g.p.toNat : Int), g.xa, g.xc, g.x⟩ := ok.same ⟨hp, rfl⟩
    have C := treeOf_ok g.p.toNat n0 g.xa g.xc g.x w hr.r0 e0 ok' a1 h1
    rw [← hp] at C
    refine C.mono ?_
    rintro e w' ⟨bl, h | h⟩
    · obtain ⟨hf, rfl⟩ := h
      exact ⟨.inl ⟨fun hc => (by have := hc.2; unfold trOf at this; rw [← e0, hf] at this; cases this), a1, rfl, fun _ => rfl⟩, bl⟩
    · obtain ⟨hf, gb, m, c1, ad, gl, R, S, D, rfl, hG, hL, hO, hA⟩ := h
      rw [e0] at hf hG hO
      exact ⟨.inr ⟨⟨ok, hf⟩, gb, m, c1, ad, gl, R, S, D, rfl, hG, hL, hO, hA⟩, bl⟩
  · refine (treeOf_bad g n0 w hr l0 ok a0 h0).mono ?_
    rintro e w' ⟨rfl, bl⟩
    exact ⟨.inl ⟨fun hc => ok hc.1, a0, rfl, fun h => absurd h ok⟩, bl⟩

theorem higL_spec {g : Sv} {gl : List Lk} {R : Nat → Nat} {S : Nat → Int} {D : Nat → Nat} (hc : Con g) (h : GrpOk g.p.toNat g.x g.x.length gl R S D) : higL g.p.toNat S = (trOf g).h := by
  have ok := trTo_ok hc.1.sts g.x.length
  have ha := hc.2
  have p0 := hc.1.p0
  have hl : (trOf g).h.length = g.p.toNat := ok.lh
  unfold trAll at ha
  rw [getD_all] at ha
  have hpl : (trOf g).p.length = g.p.toNat := ok.lp
  apply List.ext_getElem
  · rw [higL_len, hl]
  · intro i h1 h2
    have hi : i < g.p.toNat := by rw [higL_len] at h1; exact h1
    have e1 := ha i (by omega)
    have e2 := ha 0 (by omega)
    have hR : R i = R 0 := (h.alike.same i 0 hi (by omega)).2 (by show (trOf g).p.getD i 0 = (trOf g).p.getD 0 0; rw [e1, e2])
    have hS := h.alike.rise i 0 hi (by omega) hR
    have z := ok.h0
    have e3 : (trOf g).h.getD i 0 = (trOf g).h[i] := by simp [h2]
    simp only [higL, List.getElem_map, List.getElem_range]
    rw [hS, z, ← e3]
    unfold trOf
    omega

set_option maxRecDepth 100000 in
set_option maxHeartbeats 4000000 in
theorem implTreeS_any (g : Sv) (n0 : Nat) (w : World) (hr : RdSv w n0 g) (l0 : n0 ≤ 1048576) (hT : TSv w) (b : Bool) (hb : b = true ↔ Con g) (ys : List Int) (hy : ys = if b = true then (trOf g).o else []) :
    Calls Tryd.prog 17 #[(.agg #[.int .i64 g.p, .slice g.xa n0 g.xc])] w fun e w' => ∃ u, e = .returned (.tuple #[u, .bool b]) ∧ OwnIC w' w.heap.size w'.heap.size u ys ∧ Below w.heap.size w w' := by
  obtain ⟨a0, a1, -, k0, k1⟩ := hT.cells
  have l0' := World.block_lt_of_cell? w _ k0
  have l1' := World.block_lt_of_cell? w _ k1
  have BW : Below w.heap.size w (w.alloc (.cells #[.int .i64 g.p, .slice g.xa n0 g.xc] 26)) := by go_grown
  have C := Lib.hid (treeOf_any g n0 (w.alloc (.cells #[.int .i64 g.p, .slice g.xa n0 g.xc] 26)) (hr.later BW) l0 a0 a1 ((BW.cell (p := ⟨0, 0, none⟩) l0').trans k0) ((BW.cell (p := ⟨1, 0, none⟩) l1').trans k1))
  have W1 : Hid ((w.alloc (.cells #[.int .i64 g.p, .slice g.xa n0 g.xc] 26)).heap[w.heap.size]? = some (.cells #[.int .i64 g.p, .slice g.xa n0 g.xc] 26 (0, 0))) := heap_alloc_new w _
  have W3 : (w.alloc (.cells #[.int .i64 g.p, .slice g.xa n0 g.xc] 26)).heap.size = w.heap.size + 1 := by simp
  have HB := Lib.hid hb
  have HY := Lib.hid hy
  have H := Lib.hid hr
  clear hr hT hb hy k0 k1 BW l0' l1'
  go_enter Tryd.func17, Tryd.ntmps17
  go_wp2_with fail
  refine C.out.mono ?_
  rintro e w2 ⟨h, b2⟩
  have B2 : Hid (Below w.heap.size w w2) := Below.trans (by go_grown) (b2.mono (by simp only [World.size_alloc]; omega))
  have V1 := Lib.hid ((b2.block w.heap.size (by omega)).trans W1.out)
  have z2 : w.heap.size + 1 ≤ w2.heap.size := by have := b2.size; omega
  clear b2 C W1
  rcases h with ⟨hc, a, rfl, -⟩ | ⟨hc, gb, m, c1, ad, gl, R, S, D, rfl, hG, hL, hO, hA⟩
  · obtain rfl : b = false := b_false HB.out hc
    have hys : Hid (ys = []) := by show ys = []; rw [HY.out]; simp
    have B3 : Hid (Below w.heap.size w (w2.alloc (.cells #[.slice none 0 0, .slice none 0 0] 67))) := B2.out.alloc (by omega) _
    go_wp2
    go_returns
    refine ⟨_, rfl, ?_, B3.out⟩
    rw [hys.out]
    exact ⟨World.ownsRow_nil _ _ _ _, fun k e => by simp [Value.ownBlock] at e, Nat.le_refl _⟩
  · obtain rfl : b = true := HB.out.mpr hc
    have hys : Hid (ys = (trOf g).o) := by show ys = _; rw [HY.out]; simp
    rw [W3] at hO
    have B3 : Hid (Below w.heap.size w (w2.alloc (.cells #[.slice (some ⟨gb, 0, none⟩) g.p.toNat g.p.toNat, .slice ad m c1] 67))) := B2.out.alloc (by omega) _
    have O3 : Hid (OwnI (w2.alloc (.cells #[.slice (some ⟨gb, 0, none⟩) g.p.toNat g.p.toNat, .slice ad m c1] 67)) w.heap.size (.slice ad m c1) (trOf g).o) := World.ownsRow.alloc (OwnI.mono hO (by omega)) _
    clear hG hL hO hA
    go_wp2
    go_returns
    refine ⟨_, rfl, ?_, B3.out⟩
    rw [hys.out]
    exact OwnIC.of O3.out

set_option maxRecDepth 100000 in
set_option maxHeartbeats 4000000 in
theorem implTreeH_any (g : Sv) (n0 : Nat) (w : World) (hr : RdSv w n0 g) (l0 : n0 ≤ 1048576) (hT : TSv w) (b : Bool) (hb : b = true ↔ Con g) (ys : List Int) (hy : ys = if b = true then (trOf g).h else []) :
    Calls Tryd.prog 18 #[(.agg #[.int .i64 g.p, .slice g.xa n0 g.xc])] w fun e w' => ∃ u, e = .returned (.tuple #[u, .bool b]) ∧ OwnIC w' w.heap.size w'.heap.size u ys ∧ Below w.heap.size w w' := by
  obtain ⟨a0, a1, -, k0, k1⟩ := hT.cells
  have l0' := World.block_lt_of_cell? w _ k0
  have l1' := World.block_lt_of_cell? w _ k1
  have BW : Below w.heap.size w (w.alloc (.cells #[.int .i64 g.p, .slice g.xa n0 g.xc] 26)) := by go_grown
  have C := Lib.hid (treeOf_any g n0 (w.alloc (.cells #[.int .i64 g.p, .slice g.xa n0 g.xc] 26)) (hr.later BW) l0 a0 a1 ((BW.cell (p := ⟨0, 0, none⟩) l0').trans k0) ((BW.cell (p := ⟨1, 0, none⟩) l1').trans k1))
  have W1 : Hid ((w.alloc (.cells #[.int .i64 g.p, .slice g.xa n0 g.xc] 26)).heap[w.heap.size]? = some (.cells #[.int .i64 g.p, .slice g.xa n0 g.xc] 26 (0, 0))) := heap_alloc_new w _
  have W3 : (w.alloc (.cells #[.int .i64 g.p, .slice g.xa n0 g.xc] 26)).heap.size = w.heap.size + 1 := by simp
  have HB := Lib.hid hb
  have HY := Lib.hid hy
  have H := Lib.hid hr
  clear hr hT hb hy k0 k1 BW l0' l1'
  go_enter Tryd.func18, Tryd.ntmps18
  go_wp2_with fail
  refine C.out.mono ?_
  rintro e w2 ⟨h, b2⟩
  have B2 : Hid (Below w.heap.size w w2) := Below.trans (by go_grown) (b2.mono (by simp only [World.size_alloc]; omega))
  have V1 := Lib.hid ((b2.block w.heap.size (by omega)).trans W1.out)
  have z2 : w.heap.size + 1 ≤ w2.heap.size := by have := b2.size; omega
  clear b2 C W1
  rcases h with ⟨hc, a, rfl, -⟩ | ⟨hc, gb, m, c1, ad, gl, R, S, D, rfl, hG, hL, hO, hA⟩
  · obtain rfl : b = false := b_false HB.out hc
    have hys : Hid (ys = []) := by show ys = []; rw [HY.out]; simp
    have B3 : Hid (Below w.heap.size w (w2.alloc (.cells #[.slice none 0 0, .slice none 0 0] 67))) := B2.out.alloc (by omega) _
    go_wp2
    go_returns
    refine ⟨_, rfl, ?_, B3.out⟩
    rw [hys.out]
    exact ⟨World.ownsRow_nil _ _ _ _, fun k e => by simp [Value.ownBlock] at e, Nat.le_refl _⟩
  · obtain rfl : b = true := HB.out.mpr hc
    have hys : Hid (ys = (trOf g).h) := by show ys = _; rw [HY.out]; simp
    rw [W3] at hL
    have hn : 2 ≤ g.p.toNat ∧ g.p.toNat ≤ 5 := by have := hc.1.p0; omega
    have bnd : ∀ q, q < g.p.toNat → -1000000 ≤ S q ∧ S q ≤ 1000000 := fun q hq => by
      have := hG.bound q hq
      have := tb_le (k := g.x.length) (by have := hc.1.n0; omega)
      omega
    have HS := Lib.hid (higL_spec hc hG)
    have CH := Lib.hid (heights_any g.p.toNat gb (w.heap.size + 1) R S D (by omega) (by omega) bnd gl (w2.alloc (.cells #[.slice (some ⟨gb, 0, none⟩) g.p.toNat g.p.toNat, .slice ad m c1] 67)) hG.forest (OwnS.alloc hL _))
    have B3 : Hid (Below w.heap.size w (w2.alloc (.cells #[.slice (some ⟨gb, 0, none⟩) g.p.toNat g.p.toNat, .slice ad m c1] 67))) := B2.out.alloc (by omega) _
    have lgb := (hL.lt gb rfl)
    have z3 : (w2.alloc (.cells #[.slice (some ⟨gb, 0, none⟩) g.p.toNat g.p.toNat, .slice ad m c1] 67)).heap.size = w2.heap.size + 1 := by simp
    clear hG hL hO hA bnd
    go_wp2_with fail
    refine CH.out.mono ?_
    rintro e w4 ⟨u, g5, rfl, o4, -, -, b4⟩
    have B4 : Hid (Below w.heap.size w w4) := B3.out.grown b4 (by omega) (fun j e => by obtain rfl := Option.some.inj e; omega)
    have O4 : Hid (OwnIC w4 w.heap.size w4.heap.size u (trOf g).h) := by
      rw [HS.out] at o4
      exact (OwnIC.of o4).mono (by omega)
    clear o4 b4 CH
    go_wp2
    go_returns
    refine ⟨_, rfl, ?_, B4.out⟩
    rw [hys.out]
    exact O4.out

set_option maxRecDepth 100000 in
set_option maxHeartbeats 4000000 in
theorem implLoop_any (g : Sv) (n0 : Nat) (w : World) (hr : RdSv w n0 g) (l0 : n0 ≤ 1048576) (hT : TSv w) (b : Bool) (hb : b = true ↔ Con g) (ys : List Int) (hy : ys = if b = true then errL 1 (trOf g).h g.x else []) :
    Calls Tryd.prog 19 #[(.agg #[.int .i64 g.p, .slice g.xa n0 g.xc])] w fun e w' => ∃ u, e = .returned (.tuple #[u, .bool b]) ∧ OwnIC w' w.heap.size w'.heap.size u ys ∧ Below w.heap.size w w' := by
  obtain ⟨a0, a1, -, k0, k1⟩ := hT.cells
  have l0' := World.block_lt_of_cell? w _ k0
  have l1' := World.block_lt_of_cell? w _ k1
  have BW : Below w.heap.size w (w.alloc (.cells #[.int .i64 g.p, .slice g.xa n0 g.xc] 26)) := by go_grown
  have C := Lib.hid (treeOf_any g n0 (w.alloc (.cells #[.int .i64 g.p, .slice g.xa n0 g.xc] 26)) (hr.later BW) l0 a0 a1 ((BW.cell (p := ⟨0, 0, none⟩) l0').trans k0) ((BW.cell (p := ⟨1, 0, none⟩) l1').trans k1))
  have W1 : Hid ((w.alloc (.cells #[.int .i64 g.p, .slice g.xa n0 g.xc] 26)).heap[w.heap.size]? = some (.cells #[.int .i64 g.p, .slice g.xa n0 g.xc] 26 (0, 0))) := heap_alloc_new w _
  have W3 : (w.alloc (.cells #[.int .i64 g.p, .slice g.xa n0 g.xc] 26)).heap.size = w.heap.size + 1 := by simp
  have HB := Lib.hid hb
  have HY := Lib.hid hy
  have H := Lib.hid hr
  clear hr hT hb hy k0 k1 BW l0' l1'
  go_enter Tryd.func19, Tryd.ntmps19
  go_wp2_with fail
  refine C.out.mono ?_
  rintro e w2 ⟨h, b2⟩
  have B2 : Hid (Below w.heap.size w w2) := Below.trans (by go_grown) (b2.mono (by simp only [World.size_alloc]; omega))
  have V1 := Lib.hid ((b2.block w.heap.size (by omega)).trans W1.out)
  have z2 : w.heap.size + 1 ≤ w2.heap.size := by have := b2.size; omega
  clear b2 C W1
  rcases h with ⟨hc, a, rfl, -⟩ | ⟨hc, gb, m, c1, ad, gl, R, S, D, rfl, hG, hL, hO, hA⟩
  · obtain rfl : b = false := b_false HB.out hc
    have hys : Hid (ys = []) := by show ys = []; rw [HY.out]; simp
    have B3 : Hid (Below w.heap.size w (w2.alloc (.cells #[.slice none 0 0, .slice none 0 0] 67))) := B2.out.alloc (by omega) _
    go_wp2
    go_returns
    refine ⟨_, rfl, ?_, B3.out⟩
    rw [hys.out]
    exact ⟨World.ownsRow_nil _ _ _ _, fun k e => by simp [Value.ownBlock] at e, Nat.le_refl _⟩
  · obtain rfl : b = true := HB.out.mpr hc
    have hys : Hid (ys = errL 1 (trOf g).h g.x) := by show ys = _; rw [HY.out]; simp
    rw [W3] at hL
    have hn : 2 ≤ g.p.toNat ∧ g.p.toNat ≤ 5 := by have := hc.1.p0; omega
    have bnd : ∀ q, q < g.p.toNat → -1000000 ≤ S q ∧ S q ≤ 1000000 := fun q hq => by
      have := hG.bound q hq
      have := tb_le (k := g.x.length) (by have := hc.1.n0; omega)
      omega
    have HS := Lib.hid (higL_spec hc hG)
    have CH := Lib.hid (heights_any g.p.toNat gb (w.heap.size + 1) R S D (by omega) (by omega) bnd gl (w2.alloc (.cells #[.slice (some ⟨gb, 0, none⟩) g.p.toNat g.p.toNat, .slice ad m c1] 67)) hG.forest (OwnS.alloc hL _))
    have B3 : Hid (Below w.heap.size w (w2.alloc (.cells #[.slice (some ⟨gb, 0, none⟩) g.p.toNat g.p.toNat, .slice ad m c1] 67))) := B2.out.alloc (by omega) _
    have lgb := (hL.lt gb rfl)
    have z3 : (w2.alloc (.cells #[.slice (some ⟨gb, 0, none⟩) g.p.toNat g.p.toNat, .slice ad m c1] 67)).heap.size = w2.heap.size + 1 := by simp
    have hp : g.p = (g.p.toNat : Int) := by have := hc.1.p0; omega
    have l8 : n0 ≤ 8 := by have := hc.1.n0; have := H.out.len; omega
    have HH := Lib.hid (trOf_h hc.1)
    have CE : Hid (∀ w v, RdS 4 encSt w (.slice g.xa n0 g.xc) g.x → RdI w v (trOf g).h → Calls Tryd.prog 50 #[(.agg #[.int .i64 g.p, .slice g.xa n0 g.xc]), v, .int .i64 1] w fun e w' => ∃ u, e = .returned u ∧ OwnI w' w.heap.size u (errL 1 (trOf g).h g.x) ∧ Below w.heap.size w w') := fun w v h1 h2 => by
      have := errorsWith_any g.p.toNat n0 g.xa g.xc g.x v (trOf g).h 1 w h1 H.out.len l8 hc.1.sts h2 HH.out.1 (by omega) (by omega) (fun x hx => by have := HH.out.2 x hx; omega)
      rwa [← hp] at this
    have CH2 := Lib.hid (fun w ho => heights_any g.p.toNat gb (w.heap.size + 1 - 1) R S D (by omega) (by omega) bnd gl w hG.forest ho)
    have CH3 : Hid (∀ wq, OwnLk wq (w.heap.size + 1) gb g.p.toNat gl → Calls Tryd.prog 49 #[.slice (some ⟨gb, 0, none⟩) g.p.toNat g.p.toNat] wq fun e w' => ∃ (u : Value) (g' : List Lk), e = .returned u ∧ OwnI w' wq.heap.size u (trOf g).h ∧ Forest g.p.toNat g' R S D ∧ OwnLk w' (w.heap.size + 1) gb g.p.toNat g' ∧ wq.grownBy w' (some gb)) := fun wq ho => by
      rw [← HS.out]
      exact heights_any g.p.toNat gb (w.heap.size + 1) R S D (by omega) (by omega) bnd gl wq hG.forest ho
    have OL : Hid (OwnLk (w2.alloc (.cells #[.slice (some ⟨gb, 0, none⟩) g.p.toNat g.p.toNat, .slice ad m c1] 67)) (w.heap.size + 1) gb g.p.toNat gl) := OwnS.alloc hL _
    have V3 : Hid ((w2.alloc (.cells #[.slice (some ⟨gb, 0, none⟩) g.p.toNat g.p.toNat, .slice ad m c1] 67)).heap[w.heap.size]? = some (.cells #[.int .i64 g.p, .slice g.xa n0 g.xc] 26 (0, 0))) := (Below.heap_alloc _ _ _ (by omega)).trans V1.out
    have V5 : Hid ((w2.alloc (.cells #[.slice (some ⟨gb, 0, none⟩) g.p.toNat g.p.toNat, .slice ad m c1] 67)).heap[w2.heap.size]? = some (.cells #[.slice (some ⟨gb, 0, none⟩) g.p.toNat g.p.toNat, .slice ad m c1] 67 (0, 0))) := heap_alloc_new _ _
    clear hG hL hO hA bnd hp CH CH2 V1
    go_upto_region 4 with (fail)
    obtain ⟨tq, htq⟩ : ∃ tq, tq = w2.heap.size := ⟨_, rfl⟩
    rw [← htq] at V5 ⊢
    generalize w2.alloc (.cells #[.slice (some ⟨gb, 0, none⟩) g.p.toNat g.p.toNat, .slice ad m c1] 67) = wz at *
    obtain ⟨⟨p0, p1⟩, -, -⟩ := boxedSv_at V3.out
    obtain ⟨⟨t0, t1⟩, -, -⟩ := boxed2_at V5.out
    have tne : tq ≠ gb := by omega
    have lz : gb < wz.heap.size := by omega
    have lw : w.heap.size < wz.heap.size := by omega
    have OLD : Hid (OwnLk wz.drew (w.heap.size + 1) gb g.p.toNat gl) := OL.out
    clear htq
    go_wp2_with fail
    go_region_law (first
      | (go_simp; go_at_call 49; refine (CH3.out _ OLD.out).mono ?_; rintro e w4 ⟨u, g5, rfl, o4, -, -, b4⟩; have P4 := Lib.hid ((b4.block w.heap.size lw (fun e => (by have e := Option.some.inj e; omega))).trans V3.out); have B4 : Hid (Below w.heap.size w w4) := B3.out.drew.grown b4 (by simp only [World.size_drew]; omega) (fun j e => (by obtain rfl := Option.some.inj e; omega)); have RU := Lib.hid o4.rd; have RX := Lib.hid (H.out.r0.later B4.out); have z4 := b4.size; obtain ⟨⟨p0', p1'⟩, -, -⟩ := boxedSv_at P4.out; clear o4 b4)
      | (go_simp; go_at_call 50; refine (CE.out _ _ RX.out RU.out).mono ?_; rintro e w5 ⟨u5, rfl, o5, b5⟩; have B5 : Hid (Below w.heap.size w w5) := B4.out.trans (b5.mono B4.out.size); have O5 := Lib.hid o5; clear o5 b5))
    all_goals
      go_wp2
      go_returns
      refine ⟨_, rfl, ?_, B5.out⟩
      rw [hys.out]
      exact (OwnIC.of O5.out).mono B4.out.size

end Go.Proofs.YtcmocilojloolaaDoor
