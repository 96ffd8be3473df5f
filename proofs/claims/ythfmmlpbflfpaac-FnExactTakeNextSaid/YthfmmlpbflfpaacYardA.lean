/- Yards: how one is read, what a call owns of it, and what the laws' own helpers do with it. -/
import Derived.Test.YthfmmlpbflfpaacSSY
import Derived.Deep.RegionHeld3
namespace Go.Proofs.Ythfmmlpbflfpaac
open Go.ChangeShapes Go.WideShapes Go.ChangeAt Go.RowKit
set_option linter.unusedVariables false
set_option linter.unusedSimpArgs false

theorem ChgS.chg {B C : Nat} {w w' : World} (h : ChgS B C w w') : Chg B C w w' := ⟨h.os, h.tape, h.output, h.size, h.block⟩
theorem OwnSS.chg' {w w' : World} {B C B' C' : Nat} {v : Value} {xs : List Sl} (h : OwnSS w B C v xs) (hb : Chg B' C' w w') (hd : C ≤ B' ∨ C' ≤ B) : OwnSS w' B C v xs :=
  h.of_blocks hb.size fun k _ hk => hb.block k (by have := h.cb; omega) (by omega)

/-- A yard as it lies in memory, with its data. -/
structure Yd where
  h : Int
  xa : Option Addr
  xc : Nat
  x : List Sl

def Yd.same (g k : Yd) : Prop := g.h = k.h ∧ g.x.map Sl.t = k.x.map Sl.t
theorem Yd.same_refl (g : Yd) : g.same g := ⟨rfl, rfl⟩
theorem Yd.same_symm {g k : Yd} (h : g.same k) : k.same g := ⟨h.1.symm, h.2.symm⟩
theorem Yd.same_trans {g k l : Yd} (h : g.same k) (h' : k.same l) : g.same l := ⟨h.1.trans h'.1, h.2.trans h'.2⟩
theorem Yd.same.trans' {g k l : Yd} (h : g.same l) (h' : k.same l) : g.same k := Yd.same_trans h (Yd.same_symm h')
theorem Yd.same.len {g k : Yd} (h : g.same k) : g.x.length = k.x.length := map_t_len h.2
theorem Yd.same.sum {g k : Yd} (h : g.same k) : sumT g.x = sumT k.x := sumT_t h.2

structure RdYd (w : World) (n0 : Nat) (g : Yd) : Prop where
  r0 : RdSS w (.slice g.xa n0 g.xc) g.x
theorem RdYd.later {w w' : World} {n0 : Nat} {g : Yd} (h : RdYd w n0 g) (hb : Below w.heap.size w w') : RdYd w' n0 g := ⟨h.r0.later hb⟩
theorem RdYd.len {w : World} {n0 : Nat} {g : Yd} (h : RdYd w n0 g) : n0 = g.x.length := by
  obtain ⟨_, _, e0, _⟩ := h.r0.rows
  simp only [Value.slice.injEq] at e0
  exact e0.2.1

/-- A yard of the call's own, in the blocks from B to C. -/
structure OwnYd (w : World) (B C : Nat) (n0 : Nat) (g : Yd) : Prop where
  o0 : OwnSS w B C (.slice g.xa n0 g.xc) g.x
theorem OwnYd.rd {w : World} {B C n0 : Nat} {g : Yd} (h : OwnYd w B C n0 g) : RdYd w n0 g := ⟨h.o0.rd⟩
theorem OwnYd.cb {w : World} {B C n0 : Nat} {g : Yd} (h : OwnYd w B C n0 g) : C ≤ w.heap.size := h.o0.cb
theorem OwnYd.later {w w' : World} {B C n0 : Nat} {g : Yd} (h : OwnYd w B C n0 g) (hb : Below w.heap.size w w') : OwnYd w' B C n0 g := ⟨h.o0.later hb⟩
theorem OwnYd.chg {w w' : World} {B C B' C' n0 : Nat} {g : Yd} (h : OwnYd w B C n0 g) (hb : Chg B' C' w w') (hd : C ≤ B' ∨ C' ≤ B) : OwnYd w' B C n0 g := ⟨h.o0.chg' hb hd⟩
def Yd.caps (g : Yd) (n0 : Nat) : Prop := n0 ≤ g.xc
theorem OwnYd.caps {w : World} {B C n0 : Nat} {g : Yd} (h : OwnYd w B C n0 g) : g.caps n0 := ownsRow_cap h.o0.rows

theorem boxedYd_at {w : World} {g : Nat} {t : TypeId} {a b : Value} (h : w.heap[g]? = some (.cells #[a, b] t (0, 0))) :
    (w.cell? ⟨g, 0, none⟩ = some a ∧ w.cell? ⟨g, 1, none⟩ = some b) ∧ (w.frozen? ⟨g, 0, none⟩ = false ∧ w.frozen? ⟨g, 1, none⟩ = false) ∧ g < w.heap.size :=
  ⟨⟨cell_of_row w g 0 _ t _ h, cell_of_row w g 1 _ t _ h⟩, ⟨frozen_of_row w g 0 _ t h, frozen_of_row w g 1 _ t h⟩, (Array.getElem?_eq_some_iff.1 h).1⟩
theorem putYd_0 {w : World} {g : Nat} {t : TypeId} {a b : Value} (u : Value) (h : w.heap[g]? = some (.cells #[a, b] t (0, 0))) : (w.setCell ⟨g, 0, none⟩ u).heap[g]? = some (.cells #[u, b] t (0, 0)) := by simpa using heap_setCell_same _ g 0 _ t u h
theorem putYd_1 {w : World} {g : Nat} {t : TypeId} {a b : Value} (u : Value) (h : w.heap[g]? = some (.cells #[a, b] t (0, 0))) : (w.setCell ⟨g, 1, none⟩ u).heap[g]? = some (.cells #[a, u] t (0, 0)) := by simpa using heap_setCell_same _ g 1 _ t u h

set_option maxHeartbeats 2000000 in
theorem szYard_any (g : Yd) (n0 : Nat) (left : Int) (hl : 0 ≤ left) (hl2 : left ≤ 1099511627776) (w : World) (h : RdYd w n0 g) (hn : g.x.length ≤ maxLen) (ht : ∀ x ∈ g.x, x.t.length ≤ maxLen) (Z : Int) (hZ : Z = if ((g.x.length + sumT g.x : Nat) : Int) ≤ left then left - (g.x.length + sumT g.x : Nat) else -1) :
    Calls Try.prog 4 #[(.agg #[.int .i64 g.h, .slice g.xa n0 g.xc]), .int .i64 left] w fun e w' => e = .returned (.int .i64 Z) ∧ Below w.heap.size w w' := by
  have C := Lib.hid (fun w h => szInt64SS_any (.slice g.xa n0 g.xc) g.x left hl hl2 w h hn ht Z hZ)
  have H := Lib.hid h.r0
  have HZ : Z < 0 → Z = -1 := fun hz => by rw [hZ] at hz ⊢; split at hz <;> rename_i h1 <;> simp only [if_pos, if_neg, h1, not_false_eq_true] at hz ⊢ <;> omega
  clear hZ h
  by_cases hz : Z < 0
  · obtain rfl := HZ hz
    go_enter Try.func4, Try.ntmps4
    go_wp2_with fail
    refine (C.out _ (H.out.later (by go_grown))).mono ?_
    rintro e w' ⟨rfl, b⟩
    have B : Hid (Below w.heap.size w w') := Below.trans (by go_grown) (b.mono (by simp only [World.size_alloc]; omega))
    clear b
    go_wp2
    go_ret
    exact ⟨rfl, B.out⟩
  · clear HZ
    go_enter Try.func4, Try.ntmps4
    go_wp2_with fail
    refine (C.out _ (H.out.later (by go_grown))).mono ?_
    rintro e w' ⟨rfl, b⟩
    have B : Hid (Below w.heap.size w w') := Below.trans (by go_grown) (b.mono (by simp only [World.size_alloc]; omega))
    clear b
    go_wp2
    go_ret
    exact ⟨rfl, B.out⟩

theorem OwnSS.moveB {w : World} {B B' C : Nat} {v : Value} {xs : List Sl} (h : OwnSS w B C v xs) (hB : B' ≤ B) : OwnSS w B' C v xs :=
  ⟨h.rows.mono hB, h.rb, fun x hx => (h.tops x hx).mono hB, h.tb, h.apart, h.cb⟩

set_option maxRecDepth 100000 in
set_option maxHeartbeats 8000000 in
theorem toYard_any (g : Yd) (n0 : Nat) (w : World) (h : RdYd w n0 g) (l0 : n0 + sumT g.x ≤ 1048576) :
    Calls Try.prog 6 #[(.agg #[.int .i64 g.h, .slice g.xa n0 g.xc])] w fun e w' => ∃ k : Yd, e = .returned (.agg #[.int .i64 k.h, .slice k.xa n0 k.xc]) ∧ k.same g ∧ OwnYd w' w.heap.size w'.heap.size n0 k ∧ Below w.heap.size w w' := by
  have e0 := h.len
  have C0 := Lib.hid (fun w h => toInt64SS_any (.slice g.xa n0 g.xc) g.x w h (by omega) (fun x hx => by have := sumT_mem hx; omega))
  rw [← e0] at C0
  have H0 := Lib.hid h.r0
  clear h e0
  go_enter Try.func6, Try.ntmps6
  go_wp2_with fail
  refine (C0.out _ (H0.out.later (by go_grown))).mono ?_
  rintro e w1 ⟨a0, c0, ys, rfl, sm, o1, b1⟩
  have z1 : w.heap.size + 3 ≤ w1.heap.size := by have e := b1.size; simp only [World.size_alloc] at e; omega
  have O1 : Hid (OwnSS w1 (w.heap.size + 3) w1.heap.size (.slice a0 n0 c0) ys) := o1.moveB (by simp only [World.size_alloc]; omega)
  have NR1 := Lib.hid ((b1.block (w.heap.size + 1) (by simp only [World.size_alloc]; omega)).trans (box3_1 w _ _ _))
  have NO1 := Lib.hid ((b1.block (w.heap.size + 1 + 1) (by simp only [World.size_alloc]; omega)).trans (box3_2 w _ _ _))
  have BB1 : Hid (Below w.heap.size w w1) := Below.trans (by go_grown) (b1.mono (by simp only [World.size_alloc]; omega))
  have SM := Lib.hid sm
  clear b1 o1 sm C0 H0
  obtain ⟨⟨ko0, ko1⟩, ⟨fo0, fo1⟩, -⟩ := boxedYd_at NO1.out
  obtain ⟨⟨kr0, kr1⟩, ⟨fr0, fr1⟩, -⟩ := boxedYd_at NR1.out
  go_wp2
  refine bodyPost_ret (v := .agg #[.int .i64 g.h, .slice a0 n0 c0]) (by simp [results, Try.results6, go_sem, kr0, kr1]; try rfl) rfl ?_
  obtain ⟨wE, hE⟩ : ∃ wE, wE = ((w1.setCell ⟨w.heap.size + 1 + 1, 1, none⟩ (.slice a0 n0 c0)).setCell ⟨w.heap.size + 1, 0, none⟩ (.int .i64 g.h)).setCell ⟨w.heap.size + 1, 1, none⟩ (.slice a0 n0 c0) := ⟨_, rfl⟩
  have hh : ∀ b, w.heap.size + 1 + 1 < b → wE.heap[b]? = w1.heap[b]? := fun b hb => by
    rw [hE, Below.heap_setCell _ _ _ _ (show b ≠ w.heap.size + 1 by omega), Below.heap_setCell _ _ _ _ (show b ≠ w.heap.size + 1 by omega), Below.heap_setCell _ _ _ _ (show b ≠ w.heap.size + 1 + 1 by omega)]
  have hsz : wE.heap.size = w1.heap.size := by rw [hE]; simp [World.setCell]
  have BE : Below w.heap.size w wE := by
    rw [hE]
    exact ((BB1.out.setCell (p := ⟨w.heap.size + 1 + 1, 1, none⟩) (show w.heap.size ≤ w.heap.size + 1 + 1 by omega) _).setCell (p := ⟨w.heap.size + 1, 0, none⟩) (show w.heap.size ≤ w.heap.size + 1 by omega) _).setCell (p := ⟨w.heap.size + 1, 1, none⟩) (show w.heap.size ≤ w.heap.size + 1 by omega) _
  rw [← hE]
  refine ⟨⟨g.h, a0, c0, ys⟩, rfl, ⟨rfl, SM.out⟩, ⟨?_⟩, BE⟩
  have := O1.out.of_blocks (w' := wE) (by omega) (fun k h1 h2 => hh k (by omega))
  rw [hsz]
  exact this.moveB (by omega)

set_option maxRecDepth 100000 in
set_option maxHeartbeats 4000000 in
theorem eqYard_same (g k : Yd) (n0 : Nat) (w : World) (hg : RdYd w n0 g) (hk : RdYd w n0 k) (hs : g.same k) (l0 : n0 + sumT g.x ≤ 1048576) :
    Calls Try.prog 8 #[(.agg #[.int .i64 g.h, .slice g.xa n0 g.xc]), (.agg #[.int .i64 k.h, .slice k.xa n0 k.xc])] w fun e w' => e = .returned (.bool true) ∧ Below w.heap.size w w' := by
  have e0 := hg.len
  have C0 := Lib.hid (fun w h1 h2 => eqIntSS_same (.slice g.xa n0 g.xc) (.slice k.xa n0 k.xc) g.x k.x w h1 h2 hs.2 (by omega) (fun x hx => by have := sumT_mem hx; omega))
  have G0 := Lib.hid hg.r0
  have K0 := Lib.hid hk.r0
  rw [← hs.1]
  have d3 : ((g.h != g.h) : Bool) = false := by simp
  clear hg hk hs e0
  go_enter Try.func8, Try.ntmps8
  go_wp2_with fail
  refine (C0.out _ (G0.out.later (by go_grown)) (K0.out.later (by go_grown))).mono ?_
  rintro e w1 ⟨rfl, b1⟩
  have B1 : Hid (Below w.heap.size w w1) := Below.trans (by go_grown) (b1.mono (by simp only [World.size_alloc]; omega))
  clear b1
  go_wp2
  go_ret
  exact ⟨rfl, B1.out⟩

set_option maxRecDepth 100000 in
set_option maxHeartbeats 4000000 in
theorem markYard_any (g : Yd) (n0 : Nat) (w : World) (B C : Nat) (h : OwnYd w B C n0 g) (l0 : n0 + sumT g.x ≤ 1048576) (q : Int) (hq : 0 ≤ q) (hq2 : q ≤ 536870912) :
    Calls Try.prog 9 #[(.agg #[.int .i64 g.h, .slice g.xa n0 g.xc]), .int .i64 q] w fun e w' => e = .returned (.int .i64 (q + (sumT g.x : Nat))) ∧ OwnYd w' B C n0 ⟨g.h, g.xa, g.xc, mkS q g.x⟩ ∧ Chg B C w w' := by
  have e0 := h.rd.len
  have C0 := Lib.hid (fun w (h : OwnSS w B C (.slice g.xa n0 g.xc) g.x) => markIntSS_any (.slice g.xa n0 g.xc) g.x w B C h (by omega) (by omega) q hq (by omega))
  have H := Lib.hid h.o0
  have cb := h.o0.cb
  clear h e0
  go_enter Try.func9, Try.ntmps9
  go_wp2_with fail
  refine (C0.out _ (H.out.later ((Below.refl _ _).alloc (Nat.le_refl _) _))).mono ?_
  rintro e w1 ⟨rfl, o1, g1⟩
  have O1 := Lib.hid o1
  have G1 : Hid (Chg B C w w1) := (ChgS.trans (ChgS.of_below (show Below w.heap.size w (w.alloc _) by go_grown)) g1).chg
  clear o1 g1 C0 H
  go_wp2
  go_ret
  exact ⟨rfl, ⟨O1.out⟩, G1.out⟩

set_option maxRecDepth 100000 in
set_option maxHeartbeats 4000000 in
theorem heldYard_any (g : Yd) (n0 : Nat) (w : World) (q : Int) (h : RdYd w n0 ⟨g.h, g.xa, g.xc, mkS q g.x⟩) (e0 : n0 = g.x.length) (l0 : n0 + sumT g.x ≤ 1048576) (hq : 0 ≤ q) (hq2 : q ≤ 536870912) :
    Calls Try.prog 10 #[(.agg #[.int .i64 g.h, .slice g.xa n0 g.xc]), .int .i64 q] w fun e w' => e = .returned (.int .i64 (q + (sumT g.x : Nat))) ∧ Below w.heap.size w w' := by
  have C0 := Lib.hid (fun w h => heldIntSS_any (.slice g.xa n0 g.xc) g.x w q h (by omega) (by omega) hq (by omega))
  have H : Hid (RdSS w (.slice g.xa n0 g.xc) (mkS q g.x)) := h.r0
  have p0 : ¬ q + ((sumT g.x : Nat) : Int) < 0 := by omega
  clear h e0 l0 hq2
  go_enter Try.func10, Try.ntmps10
  go_wp2_with fail
  refine (C0.out _ (H.out.later ((Below.refl _ _).alloc (Nat.le_refl _) _))).mono ?_
  rintro e w1 ⟨rfl, rfl⟩
  clear C0 H
  go_wp2
  go_ret
  exact ⟨rfl, by go_grown⟩
end Go.Proofs.Ythfmmlpbflfpaac
