/- Surveys: how one is read, what a call owns of it, and what the laws' own helpers do with it. -/
import Derived.Test.YtcmocilojloolaaDoorSights
import Derived.Test.YtcmocilojloolaaDoorChg
import Derived.Deep.RegionHeld3
namespace Go.Proofs.YtcmocilojloolaaDoor
open Go.ChangeShapes Go.WideShapes Go.ChangeAt Go.RowKit
set_option linter.unusedVariables false
set_option linter.unusedSimpArgs false

/-- A survey as it lies in memory, with its data. -/
structure Sv where
  p : Int
  xa : Option Addr
  xc : Nat
  x : List St

def Sv.same (g k : Sv) : Prop := g.p = k.p ∧ g.x = k.x
theorem Sv.same_refl (g : Sv) : g.same g := ⟨rfl, rfl⟩
theorem Sv.same_symm {g k : Sv} (h : g.same k) : k.same g := ⟨h.1.symm, h.2.symm⟩
theorem Sv.same_trans {g k l : Sv} (h : g.same k) (h' : k.same l) : g.same l := ⟨h.1.trans h'.1, h.2.trans h'.2⟩
theorem Sv.same.trans' {g k l : Sv} (h : g.same l) (h' : k.same l) : g.same k := Sv.same_trans h (Sv.same_symm h')
theorem Sv.same.len {g k : Sv} (h : g.same k) : g.x.length = k.x.length := by rw [h.2]

structure RdSv (w : World) (n0 : Nat) (g : Sv) : Prop where
  r0 : RdS 4 encSt w (.slice g.xa n0 g.xc) g.x
theorem RdSv.later {w w' : World} {n0 : Nat} {g : Sv} (h : RdSv w n0 g) (hb : Below w.heap.size w w') : RdSv w' n0 g := ⟨h.r0.later hb⟩
theorem RdSv.len {w : World} {n0 : Nat} {g : Sv} (h : RdSv w n0 g) : n0 = g.x.length := by
  obtain ⟨_, _, e0, _⟩ := h.r0
  simp only [Value.slice.injEq] at e0
  exact e0.2.1

/-- A survey of the call's own, in the blocks from B to C. -/
structure OwnSv (w : World) (B C : Nat) (n0 : Nat) (g : Sv) : Prop where
  o0 : OwnS 32 4 encSt w B (.slice g.xa n0 g.xc) g.x
  b0 : ∀ k, (Value.slice g.xa n0 g.xc).ownBlock = some k → k < C
  cb : C ≤ w.heap.size
theorem OwnSv.rd {w : World} {B C n0 : Nat} {g : Sv} (h : OwnSv w B C n0 g) : RdSv w n0 g := ⟨h.o0.rd encSt_len⟩
theorem OwnSv.of_blocks {w w' : World} {B C n0 : Nat} {g : Sv} (h : OwnSv w B C n0 g) (hs : w.heap.size ≤ w'.heap.size) (hb : ∀ k, B ≤ k → k < C → w'.heap[k]? = w.heap[k]?) : OwnSv w' B C n0 g :=
  ⟨h.o0.of_block fun k e => hb k (h.o0.lt k e).1 (h.b0 k e), h.b0, Nat.le_trans h.cb hs⟩
theorem OwnSv.later {w w' : World} {B C n0 : Nat} {g : Sv} (h : OwnSv w B C n0 g) (hb : Below w.heap.size w w') : OwnSv w' B C n0 g :=
  h.of_blocks hb.size fun k _ hk => hb.block k (by have := h.cb; omega)
theorem OwnSv.chg {w w' : World} {B C B' C' n0 : Nat} {g : Sv} (h : OwnSv w B C n0 g) (hb : Chg B' C' w w') (hd : C ≤ B' ∨ C' ≤ B) : OwnSv w' B C n0 g :=
  h.of_blocks hb.size fun k _ hk => hb.block k (by have := h.cb; omega) (by omega)
def Sv.caps (g : Sv) (n0 : Nat) : Prop := n0 ≤ g.xc
theorem OwnSv.caps {w : World} {B C n0 : Nat} {g : Sv} (h : OwnSv w B C n0 g) : g.caps n0 := ownsRow_cap h.o0

theorem boxedSv_at {w : World} {g : Nat} {t : TypeId} {a b : Value} (h : w.heap[g]? = some (.cells #[a, b] t (0, 0))) :
    (w.cell? ⟨g, 0, none⟩ = some a ∧ w.cell? ⟨g, 1, none⟩ = some b) ∧ (w.frozen? ⟨g, 0, none⟩ = false ∧ w.frozen? ⟨g, 1, none⟩ = false) ∧ g < w.heap.size :=
  ⟨⟨cell_of_row w g 0 _ t _ h, cell_of_row w g 1 _ t _ h⟩, ⟨frozen_of_row w g 0 _ t h, frozen_of_row w g 1 _ t h⟩, (Array.getElem?_eq_some_iff.1 h).1⟩
theorem putSv_0 {w : World} {g : Nat} {t : TypeId} {a b : Value} (u : Value) (h : w.heap[g]? = some (.cells #[a, b] t (0, 0))) : (w.setCell ⟨g, 0, none⟩ u).heap[g]? = some (.cells #[u, b] t (0, 0)) := by simpa using heap_setCell_same _ g 0 _ t u h
theorem putSv_1 {w : World} {g : Nat} {t : TypeId} {a b : Value} (u : Value) (h : w.heap[g]? = some (.cells #[a, b] t (0, 0))) : (w.setCell ⟨g, 1, none⟩ u).heap[g]? = some (.cells #[a, u] t (0, 0)) := by simpa using heap_setCell_same _ g 1 _ t u h

theorem szSightS_of (a : Option Addr) (n cap : Nat) (left : Int) (hl : 0 ≤ left) (hl2 : left ≤ 1099511627776) (hn : n ≤ 9223372036854775807) (w : World) :
    Calls Tryd.prog 51 #[.slice a n cap, .int .i64 left] w fun e w' => e = .returned (.int .i64 (if (n : Int) ≤ left then left - n else -1)) ∧ w = w' := by
  by_cases h : (n : Int) ≤ left
  · rw [if_pos h]
    have h1 : 0 ≤ left - n := by omega
    have h2 : IntKind.i64.wrap (left - n) = left - n := IntWalk.i64_in _ (by omega)
    go_enter Tryd.func51, Tryd.ntmps51
    go_wp2
    go_ret
    exact ⟨rfl, rfl⟩
  · rw [if_neg h]
    have h1 : left - n < 0 := by omega
    have h2 : IntKind.i64.wrap (left - n) = left - n := IntWalk.i64_in _ (by omega)
    go_enter Tryd.func51, Tryd.ntmps51
    go_wp2
    go_ret
    exact ⟨rfl, rfl⟩

set_option maxHeartbeats 2000000 in
theorem szSurvey_any (g : Sv) (n0 : Nat) (left : Int) (hl : 0 ≤ left) (hl2 : left ≤ 1099511627776) (w : World) (hn : n0 ≤ maxLen) (Z : Int) (hZ : Z = if (n0 : Int) ≤ left then left - n0 else -1) :
    Calls Tryd.prog 21 #[(.agg #[.int .i64 g.p, .slice g.xa n0 g.xc]), .int .i64 left] w fun e w' => e = .returned (.int .i64 Z) ∧ Below w.heap.size w w' := by
  have C := Lib.hid (fun w => szSightS_of g.xa n0 g.xc left hl hl2 (by unfold maxLen at hn; omega) w)
  rw [← hZ] at C
  have HZ : Z < 0 → Z = -1 := fun hz => by rw [hZ] at hz ⊢; split at hz <;> rename_i h1 <;> simp only [if_pos, if_neg, h1, not_false_eq_true] at hz ⊢ <;> omega
  clear hZ
  by_cases hz : Z < 0
  · obtain rfl := HZ hz
    go_enter Tryd.func21, Tryd.ntmps21
    go_wp2_with fail
    refine (C.out _).mono ?_
    rintro e w' ⟨rfl, rfl⟩
    go_wp2
    go_ret
    exact ⟨rfl, by go_grown⟩
  · clear HZ
    go_enter Tryd.func21, Tryd.ntmps21
    go_wp2_with fail
    refine (C.out _).mono ?_
    rintro e w' ⟨rfl, rfl⟩
    go_wp2
    go_ret
    exact ⟨rfl, by go_grown⟩

set_option maxRecDepth 100000 in
set_option maxHeartbeats 8000000 in
theorem toSurvey_any (g : Sv) (n0 : Nat) (w : World) (h : RdSv w n0 g) (l0 : n0 ≤ 1048576) :
    Calls Tryd.prog 23 #[(.agg #[.int .i64 g.p, .slice g.xa n0 g.xc])] w fun e w' => ∃ k : Sv, e = .returned (.agg #[.int .i64 k.p, .slice k.xa n0 k.xc]) ∧ k.same g ∧ OwnSv w' w.heap.size w'.heap.size n0 k ∧ Below w.heap.size w w' := by
  have e0 := h.len
  have C0 := Lib.hid (fun w h => toSightS_any (.slice g.xa n0 g.xc) g.x w h (by omega))
  have H0 := Lib.hid h.r0
  have E0 := Lib.hid e0
  clear h e0
  go_enter Tryd.func23, Tryd.ntmps23
  go_wp2_with fail
  refine (C0.out _ (H0.out.later (by go_grown))).mono ?_
  rintro e w1 ⟨v', rfl, o1, b1⟩
  obtain ⟨a0, c0, rfl⟩ := o1.form
  rw [← E0.out] at o1 ⊢
  have z1 : w.heap.size + 3 ≤ w1.heap.size := by have e := b1.size; simp only [World.size_alloc] at e; omega
  have O1 : Hid (OwnS 32 4 encSt w1 (w.heap.size + 3) (.slice a0 n0 c0) g.x) := o1.mono (by simp only [World.size_alloc]; omega)
  have NR1 := Lib.hid ((b1.block (w.heap.size + 1) (by simp only [World.size_alloc]; omega)).trans (box3_1 w _ _ _))
  have NO1 := Lib.hid ((b1.block (w.heap.size + 1 + 1) (by simp only [World.size_alloc]; omega)).trans (box3_2 w _ _ _))
  have BB1 : Hid (Below w.heap.size w w1) := Below.trans (by go_grown) (b1.mono (by simp only [World.size_alloc]; omega))
  clear b1 o1 C0 H0
  obtain ⟨⟨ko0, ko1⟩, ⟨fo0, fo1⟩, -⟩ := boxedSv_at NO1.out
  obtain ⟨⟨kr0, kr1⟩, ⟨fr0, fr1⟩, -⟩ := boxedSv_at NR1.out
  go_wp2
  refine bodyPost_ret (v := .agg #[.int .i64 g.p, .slice a0 n0 c0]) (by simp [results, Tryd.results23, go_sem, kr0, kr1]; try rfl) rfl ?_
  obtain ⟨wE, hE⟩ : ∃ wE, wE = ((w1.setCell ⟨w.heap.size + 1 + 1, 1, none⟩ (.slice a0 n0 c0)).setCell ⟨w.heap.size + 1, 0, none⟩ (.int .i64 g.p)).setCell ⟨w.heap.size + 1, 1, none⟩ (.slice a0 n0 c0) := ⟨_, rfl⟩
  have hh : ∀ b, w.heap.size + 1 + 1 < b → wE.heap[b]? = w1.heap[b]? := fun b hb => by
    rw [hE, Below.heap_setCell _ _ _ _ (show b ≠ w.heap.size + 1 by omega), Below.heap_setCell _ _ _ _ (show b ≠ w.heap.size + 1 by omega), Below.heap_setCell _ _ _ _ (show b ≠ w.heap.size + 1 + 1 by omega)]
  have hsz : wE.heap.size = w1.heap.size := by rw [hE]; simp [World.setCell]
  have BE : Below w.heap.size w wE := by
    rw [hE]
    exact ((BB1.out.setCell (p := ⟨w.heap.size + 1 + 1, 1, none⟩) (show w.heap.size ≤ w.heap.size + 1 + 1 by omega) _).setCell (p := ⟨w.heap.size + 1, 0, none⟩) (show w.heap.size ≤ w.heap.size + 1 by omega) _).setCell (p := ⟨w.heap.size + 1, 1, none⟩) (show w.heap.size ≤ w.heap.size + 1 by omega) _
  rw [← hE]
  refine ⟨⟨g.p, a0, c0, g.x⟩, rfl, ⟨rfl, rfl⟩, ⟨?_, ?_, Nat.le_refl _⟩, BE⟩
  · exact (O1.out.of_block fun k hk => hh k (by have := (O1.out.lt k hk).1; omega)).mono (by omega)
  · intro k hk
    have := (O1.out.lt k hk).2
    omega

set_option maxRecDepth 100000 in
set_option maxHeartbeats 4000000 in
theorem eqSurvey_same (g k : Sv) (n0 : Nat) (w : World) (hg : RdSv w n0 g) (hk : RdSv w n0 k) (hs : g.same k) (l0 : n0 ≤ 1048576) :
    Calls Tryd.prog 25 #[(.agg #[.int .i64 g.p, .slice g.xa n0 g.xc]), (.agg #[.int .i64 k.p, .slice k.xa n0 k.xc])] w fun e w' => e = .returned (.bool true) ∧ Below w.heap.size w w' := by
  have e0 := hg.len
  have C0 := Lib.hid (fun w h1 h2 => eqSightS_same (.slice g.xa n0 g.xc) (.slice k.xa n0 k.xc) g.x w h1 h2 (by omega))
  have G0 := Lib.hid hg.r0
  have K0 : Hid (RdS 4 encSt w (.slice k.xa n0 k.xc) g.x) := by show RdS _ _ _ _ _; rw [hs.2]; exact hk.r0
  rw [← hs.1]
  have d3 : ((g.p != g.p) : Bool) = false := by simp
  clear hg hk hs e0
  go_enter Tryd.func25, Tryd.ntmps25
  go_wp2_with fail
  refine (C0.out _ (G0.out.later (by go_grown)) (K0.out.later (by go_grown))).mono ?_
  rintro e w1 ⟨rfl, b1⟩
  have B1 : Hid (Below w.heap.size w w1) := Below.trans (by go_grown) (b1.mono (by simp only [World.size_alloc]; omega))
  clear b1
  go_wp2
  go_ret
  exact ⟨rfl, B1.out⟩

set_option maxRecDepth 100000 in
set_option maxHeartbeats 4000000 in
theorem markSurvey_any (g : Sv) (n0 : Nat) (w : World) (B C : Nat) (h : OwnSv w B C n0 g) (l0 : n0 ≤ 1048576) (q : Int) (hq : 0 ≤ q) (hq2 : q ≤ 536870912) :
    Calls Tryd.prog 26 #[(.agg #[.int .i64 g.p, .slice g.xa n0 g.xc]), .int .i64 q] w fun e w' => e = .returned (.int .i64 (q + 4 * (n0 : Int))) ∧ OwnSv w' B C n0 ⟨g.p, g.xa, g.xc, upSt q n0⟩ ∧ Chg B C w w' := by
  have e0 := h.rd.len
  have C0 := Lib.hid (fun w (h : OwnS 32 4 encSt w B (.slice g.xa n0 g.xc) g.x) => markSightS_any (.slice g.xa n0 g.xc) g.x w B h (by omega) q hq (by omega))
  rw [← e0] at C0
  have H := Lib.hid h
  have cb := h.cb
  clear h e0
  go_enter Tryd.func26, Tryd.ntmps26
  go_wp2_with fail
  refine (C0.out _ (H.out.o0.later ((Below.refl _ _).alloc (Nat.le_refl _) _))).mono ?_
  rintro e w1 ⟨rfl, o1, g1⟩
  have O1 := Lib.hid o1
  have G1 : Hid (Chg B C w w1) := (Chg.of_below (show Below w.heap.size w (w.alloc _) by go_grown)).trans (Chg.of_grown g1 (fun b hb => ⟨(H.out.o0.lt b hb).1, H.out.b0 b hb⟩))
  clear o1 g1 C0
  go_wp2
  go_ret
  exact ⟨rfl, ⟨O1.out, H.out.b0, Nat.le_trans cb G1.out.size⟩, G1.out⟩

end Go.Proofs.YtcmocilojloolaaDoor
