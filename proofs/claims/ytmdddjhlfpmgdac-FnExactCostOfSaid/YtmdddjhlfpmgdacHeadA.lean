/- Head: how one is read, what a call owns of it, and what the laws' own helpers do with it. -/
import Derived.Test.YtmdddjhlfpmgdacCutters
import Derived.Test.YtmdddjhlfpmgdacChg
import Derived.Deep.RegionHeld3
namespace Go.Proofs.Ytmdddjhlfpmgdac
open Go.ChangeShapes Go.WideShapes Go.ChangeAt Go.RowKit
set_option linter.unusedVariables false
set_option linter.unusedSimpArgs false

/-- A Head as it lies in memory, with its data. -/
structure Hd where
  ca : Option Addr
  cc : Nat
  c : List Cu
  ha : Option Addr
  hc : Nat
  h : List Int
  sa : Option Addr
  sc : Nat
  s : List Int
  p : Int
  q : Int

def Hd.same (g k : Hd) : Prop := g.c = k.c ∧ g.h = k.h ∧ g.s = k.s ∧ g.p = k.p ∧ g.q = k.q
theorem Hd.same_refl (g : Hd) : g.same g := ⟨rfl, rfl, rfl, rfl, rfl⟩
theorem Hd.same_symm {g k : Hd} (h : g.same k) : k.same g := ⟨h.1.symm, h.2.1.symm, h.2.2.1.symm, h.2.2.2.1.symm, h.2.2.2.2.symm⟩
theorem Hd.same_trans {g k l : Hd} (h : g.same k) (h' : k.same l) : g.same l := ⟨(h.1).trans (h'.1), (h.2.1).trans (h'.2.1), (h.2.2.1).trans (h'.2.2.1), (h.2.2.2.1).trans (h'.2.2.2.1), (h.2.2.2.2).trans (h'.2.2.2.2)⟩

theorem Hd.same.trans' {g k l : Hd} (h : g.same l) (h' : k.same l) : g.same k := Hd.same_trans h (Hd.same_symm h')

structure RdHd (w : World) (n0 n1 n2 : Nat) (g : Hd) : Prop where
  r0 : RdS 2 encCu w (.slice g.ca n0 g.cc) g.c
  r1 : RdI w (.slice g.ha n1 g.hc) g.h
  r2 : RdI w (.slice g.sa n2 g.sc) g.s

theorem RdHd.later {w w' : World} {n0 n1 n2 : Nat} {g : Hd} (h : RdHd w n0 n1 n2 g) (hb : Below w.heap.size w w') : RdHd w' n0 n1 n2 g := ⟨h.r0.later hb, h.r1.later hb, h.r2.later hb⟩
theorem RdHd.len {w : World} {n0 n1 n2 : Nat} {g : Hd} (h : RdHd w n0 n1 n2 g) : n0 = g.c.length ∧ n1 = g.h.length ∧ n2 = g.s.length := by
  obtain ⟨_, _, e0, _⟩ := h.r0
  obtain ⟨_, _, e1, _⟩ := h.r1
  obtain ⟨_, _, e2, _⟩ := h.r2
  simp only [Value.slice.injEq] at e0 e1 e2
  exact ⟨e0.2.1, e1.2.1, e2.2.1⟩

/-- A Head of the call's own, in the blocks from B to C. -/
structure OwnHd (w : World) (B C : Nat) (n0 n1 n2 : Nat) (g : Hd) : Prop where
  o0 : OwnS 123 2 encCu w B (.slice g.ca n0 g.cc) g.c
  b0 : ∀ k, (Value.slice g.ca n0 g.cc).ownBlock = some k → k < C
  o1 : OwnI w B (.slice g.ha n1 g.hc) g.h
  b1 : ∀ k, (Value.slice g.ha n1 g.hc).ownBlock = some k → k < C
  o2 : OwnI w B (.slice g.sa n2 g.sc) g.s
  b2 : ∀ k, (Value.slice g.sa n2 g.sc).ownBlock = some k → k < C
  d01 : ∀ k, (Value.slice g.ca n0 g.cc).ownBlock = some k → (Value.slice g.ha n1 g.hc).ownBlock ≠ some k
  d02 : ∀ k, (Value.slice g.ca n0 g.cc).ownBlock = some k → (Value.slice g.sa n2 g.sc).ownBlock ≠ some k
  d12 : ∀ k, (Value.slice g.ha n1 g.hc).ownBlock = some k → (Value.slice g.sa n2 g.sc).ownBlock ≠ some k
  cb : C ≤ w.heap.size

theorem OwnHd.rd {w : World} {B C : Nat} {n0 n1 n2 : Nat} {g : Hd} (h : OwnHd w B C n0 n1 n2 g) : RdHd w n0 n1 n2 g := ⟨(h.o0).rd encCu_len, (h.o1).rd, (h.o2).rd⟩
def Hd.caps (g : Hd) (n0 n1 n2 : Nat) : Prop := n0 ≤ g.cc ∧ n1 ≤ g.hc ∧ n2 ≤ g.sc
theorem OwnHd.caps {w : World} {B C : Nat} {n0 n1 n2 : Nat} {g : Hd} (h : OwnHd w B C n0 n1 n2 g) : g.caps n0 n1 n2 := ⟨ownsRow_cap h.o0, ownsRow_cap h.o1, ownsRow_cap h.o2⟩
theorem OwnHd.of_blocks {w w' : World} {B C : Nat} {n0 n1 n2 : Nat} {g : Hd} (h : OwnHd w B C n0 n1 n2 g) (hs : w.heap.size ≤ w'.heap.size) (hb : ∀ k, B ≤ k → k < C → w'.heap[k]? = w.heap[k]?) : OwnHd w' B C n0 n1 n2 g :=
  ⟨h.o0.of_block fun k e => hb k (h.o0.lt k e).1 (h.b0 k e), h.b0, h.o1.of_block fun k e => hb k (h.o1.lt k e).1 (h.b1 k e), h.b1, h.o2.of_block fun k e => hb k (h.o2.lt k e).1 (h.b2 k e), h.b2, h.d01, h.d02, h.d12, Nat.le_trans h.cb hs⟩
theorem OwnHd.later {w w' : World} {B C : Nat} {n0 n1 n2 : Nat} {g : Hd} (h : OwnHd w B C n0 n1 n2 g) (hb : Below w.heap.size w w') : OwnHd w' B C n0 n1 n2 g :=
  h.of_blocks hb.size fun k _ hk => hb.block k (by have := h.cb; omega)
theorem OwnHd.chg {w w' : World} {B C B' C' : Nat} {n0 n1 n2 : Nat} {g : Hd} (h : OwnHd w B C n0 n1 n2 g) (hb : Chg B' C' w w') (hd : C ≤ B' ∨ C' ≤ B) : OwnHd w' B C n0 n1 n2 g :=
  h.of_blocks hb.size fun k _ hk => hb.block k (by have := h.cb; omega) (by omega)

theorem boxedHd_at {w : World} {g : Nat} {t : TypeId} {a b c d e : Value} (h : w.heap[g]? = some (.cells #[a, b, c, d, e] t (0, 0))) :
    (w.cell? ⟨g, 0, none⟩ = some a ∧ w.cell? ⟨g, 1, none⟩ = some b ∧ w.cell? ⟨g, 2, none⟩ = some c ∧ w.cell? ⟨g, 3, none⟩ = some d ∧ w.cell? ⟨g, 4, none⟩ = some e) ∧ (w.frozen? ⟨g, 0, none⟩ = false ∧ w.frozen? ⟨g, 1, none⟩ = false ∧ w.frozen? ⟨g, 2, none⟩ = false ∧ w.frozen? ⟨g, 3, none⟩ = false ∧ w.frozen? ⟨g, 4, none⟩ = false) ∧ g < w.heap.size :=
  ⟨⟨cell_of_row w g 0 _ t _ h, cell_of_row w g 1 _ t _ h, cell_of_row w g 2 _ t _ h, cell_of_row w g 3 _ t _ h, cell_of_row w g 4 _ t _ h⟩, ⟨frozen_of_row w g 0 _ t h, frozen_of_row w g 1 _ t h, frozen_of_row w g 2 _ t h, frozen_of_row w g 3 _ t h, frozen_of_row w g 4 _ t h⟩, (Array.getElem?_eq_some_iff.1 h).1⟩
theorem putHd_0 {w : World} {g : Nat} {t : TypeId} {a b c d e : Value} (u : Value) (h : w.heap[g]? = some (.cells #[a, b, c, d, e] t (0, 0))) : (w.setCell ⟨g, 0, none⟩ u).heap[g]? = some (.cells #[u, b, c, d, e] t (0, 0)) := by simpa using heap_setCell_same _ g 0 _ t u h
theorem putHd_1 {w : World} {g : Nat} {t : TypeId} {a b c d e : Value} (u : Value) (h : w.heap[g]? = some (.cells #[a, b, c, d, e] t (0, 0))) : (w.setCell ⟨g, 1, none⟩ u).heap[g]? = some (.cells #[a, u, c, d, e] t (0, 0)) := by simpa using heap_setCell_same _ g 1 _ t u h
theorem putHd_2 {w : World} {g : Nat} {t : TypeId} {a b c d e : Value} (u : Value) (h : w.heap[g]? = some (.cells #[a, b, c, d, e] t (0, 0))) : (w.setCell ⟨g, 2, none⟩ u).heap[g]? = some (.cells #[a, b, u, d, e] t (0, 0)) := by simpa using heap_setCell_same _ g 2 _ t u h
theorem putHd_3 {w : World} {g : Nat} {t : TypeId} {a b c d e : Value} (u : Value) (h : w.heap[g]? = some (.cells #[a, b, c, d, e] t (0, 0))) : (w.setCell ⟨g, 3, none⟩ u).heap[g]? = some (.cells #[a, b, c, u, e] t (0, 0)) := by simpa using heap_setCell_same _ g 3 _ t u h
theorem putHd_4 {w : World} {g : Nat} {t : TypeId} {a b c d e : Value} (u : Value) (h : w.heap[g]? = some (.cells #[a, b, c, d, e] t (0, 0))) : (w.setCell ⟨g, 4, none⟩ u).heap[g]? = some (.cells #[a, b, c, d, u] t (0, 0)) := by simpa using heap_setCell_same _ g 4 _ t u h

theorem szCutterS_of (a : Option Addr) (n cap : Nat) (left : Int) (hl : 0 ≤ left) (hl2 : left ≤ 1099511627776) (hn : n ≤ 9223372036854775807) (w : World) :
    Calls Try.prog 32 #[.slice a n cap, .int .i64 left] w fun e w' => e = .returned (.int .i64 (if (n : Int) ≤ left then left - n else -1)) ∧ w = w' := by
  by_cases h : (n : Int) ≤ left
  · rw [if_pos h]
    have h1 : 0 ≤ left - n := by omega
    have h2 : IntKind.i64.wrap (left - n) = left - n := IntWalk.i64_in _ (by omega)
    go_enter Try.func32, Try.ntmps32
    go_wp2
    go_ret
    exact ⟨rfl, rfl⟩
  · rw [if_neg h]
    have h1 : left - n < 0 := by omega
    have h2 : IntKind.i64.wrap (left - n) = left - n := IntWalk.i64_in _ (by omega)
    go_enter Try.func32, Try.ntmps32
    go_wp2
    go_ret
    exact ⟨rfl, rfl⟩

set_option maxHeartbeats 2000000 in
theorem szHead_any (g : Hd) (n0 n1 n2 : Nat) (left : Int) (hl : 0 ≤ left) (hl2 : left ≤ 1099511627776) (hn0 : n0 ≤ 9223372036854775807) (hn1 : n1 ≤ 9223372036854775807) (hn2 : n2 ≤ 9223372036854775807) (Z : Int) (hZ : ((n0 : Int) + (n1 : Int) + (n2 : Int) ≤ left → Z = left - ((n0 : Int) + (n1 : Int) + (n2 : Int))) ∧ (¬ (n0 : Int) + (n1 : Int) + (n2 : Int) ≤ left → Z = -1)) (w : World) :
    Calls Try.prog 7 #[.agg #[.slice g.ca n0 g.cc, .slice g.ha n1 g.hc, .slice g.sa n2 g.sc, .int .i64 g.p, .int .i64 g.q], .int .i64 left] w fun e w' => e = .returned (.int .i64 Z) ∧ Below w.heap.size w w' := by
  have C0 := Lib.hid (fun w => szCutterS_of g.ca n0 g.cc (left) (by omega) (by omega) hn0 w)
  by_cases h0 : (n0 : Int) ≤ left
  rotate_left
  · rw [if_neg h0] at C0
    obtain rfl : Z = -1 := hZ.2 (by omega)
    clear hZ
    go_enter Try.func7, Try.ntmps7
    go_wp2_with fail
    refine (C0.out _).mono ?_
    rintro e w' ⟨rfl, rfl⟩
    go_wp2
    go_ret
    exact ⟨rfl, by go_grown⟩
  rw [if_pos h0] at C0
  have C1 := Lib.hid (fun w => szInt64S_any g.ha n1 g.hc (left - (n0 : Int)) (by omega) (by omega) hn1 w)
  by_cases h1 : (n1 : Int) ≤ left - (n0 : Int)
  rotate_left
  · rw [if_neg h1] at C1
    obtain rfl : Z = -1 := hZ.2 (by omega)
    have q0 : ¬ left - (n0 : Int) < 0 := by omega
    clear hZ
    go_enter Try.func7, Try.ntmps7
    go_wp2_with fail
    refine (C0.out _).mono ?_
    rintro e w' ⟨rfl, rfl⟩
    go_wp2_with fail
    refine (C1.out _).mono ?_
    rintro e w' ⟨rfl, rfl⟩
    go_wp2
    go_ret
    exact ⟨rfl, by go_grown⟩
  rw [if_pos h1] at C1
  have C2 := Lib.hid (fun w => szInt64S_any g.sa n2 g.sc (left - (n0 : Int) - (n1 : Int)) (by omega) (by omega) hn2 w)
  by_cases h2 : (n2 : Int) ≤ left - (n0 : Int) - (n1 : Int)
  rotate_left
  · rw [if_neg h2] at C2
    obtain rfl : Z = -1 := hZ.2 (by omega)
    have q0 : ¬ left - (n0 : Int) < 0 := by omega
    have q1 : ¬ left - (n0 : Int) - (n1 : Int) < 0 := by omega
    clear hZ
    go_enter Try.func7, Try.ntmps7
    go_wp2_with fail
    refine (C0.out _).mono ?_
    rintro e w' ⟨rfl, rfl⟩
    go_wp2_with fail
    refine (C1.out _).mono ?_
    rintro e w' ⟨rfl, rfl⟩
    go_wp2_with fail
    refine (C2.out _).mono ?_
    rintro e w' ⟨rfl, rfl⟩
    go_wp2
    go_ret
    exact ⟨rfl, by go_grown⟩
  rw [if_pos h2] at C2
  obtain rfl : Z = left - (n0 : Int) - (n1 : Int) - (n2 : Int) := by have := hZ.1 (by omega); omega
  have q0 : ¬ left - (n0 : Int) < 0 := by omega
  have q1 : ¬ left - (n0 : Int) - (n1 : Int) < 0 := by omega
  have q2 : ¬ left - (n0 : Int) - (n1 : Int) - (n2 : Int) < 0 := by omega
  clear hZ
  go_enter Try.func7, Try.ntmps7
  go_wp2_with fail
  refine (C0.out _).mono ?_
  rintro e w' ⟨rfl, rfl⟩
  go_wp2_with fail
  refine (C1.out _).mono ?_
  rintro e w' ⟨rfl, rfl⟩
  go_wp2_with fail
  refine (C2.out _).mono ?_
  rintro e w' ⟨rfl, rfl⟩
  go_wp2
  go_ret
  exact ⟨rfl, by go_grown⟩

set_option maxRecDepth 100000 in
set_option maxHeartbeats 8000000 in
theorem toHead_any (g : Hd) (n0 n1 n2 : Nat) (w : World) (h : RdHd w n0 n1 n2 g) (l0 : n0 ≤ 1048576) (l1 : n1 ≤ 1048576) (l2 : n2 ≤ 1048576) :
    Calls Try.prog 10 #[.agg #[.slice g.ca n0 g.cc, .slice g.ha n1 g.hc, .slice g.sa n2 g.sc, .int .i64 g.p, .int .i64 g.q]] w fun e w' => ∃ k : Hd, e = .returned (.agg #[.slice k.ca n0 k.cc, .slice k.ha n1 k.hc, .slice k.sa n2 k.sc, .int .i64 k.p, .int .i64 k.q]) ∧ k.same g ∧ OwnHd w' w.heap.size w'.heap.size n0 n1 n2 k ∧ Below w.heap.size w w' := by
  obtain ⟨e0, e1, e2⟩ := h.len
  have C0 := Lib.hid (fun w h => toCutterS_any (.slice g.ca n0 g.cc) g.c w h (by omega))
  have H0 := Lib.hid h.r0
  have E0 := Lib.hid e0
  have C1 := Lib.hid (fun w h => toInts_any (.slice g.ha n1 g.hc) g.h w h (by omega))
  have H1 := Lib.hid h.r1
  have E1 := Lib.hid e1
  have C2 := Lib.hid (fun w h => toInts_any (.slice g.sa n2 g.sc) g.s w h (by omega))
  have H2 := Lib.hid h.r2
  have E2 := Lib.hid e2
  clear h e0 e1 e2
  go_enter Try.func10, Try.ntmps10
  go_wp2_with fail
  refine (C0.out _ (H0.out.later (by go_grown))).mono ?_
  rintro e w1 ⟨v', rfl, o1, b1⟩
  obtain ⟨a0, c0, rfl⟩ := o1.form
  rw [← E0.out] at o1 ⊢
  have z1 : w.heap.size + 3 ≤ w1.heap.size := by have e := b1.size; simp only [World.size_alloc] at e; omega
  have NA1 := Lib.hid ((b1.block (w.heap.size) (by simp only [World.size_alloc]; omega)).trans (box3_0 w _ _ _))
  have NR1 := Lib.hid ((b1.block (w.heap.size + 1) (by simp only [World.size_alloc]; omega)).trans (box3_1 w _ _ _))
  have NO1 := Lib.hid ((b1.block (w.heap.size + 1 + 1) (by simp only [World.size_alloc]; omega)).trans (box3_2 w _ _ _))
  have BB1 : Hid (Below w.heap.size w w1) := Below.trans (by go_grown) (b1.mono (by simp only [World.size_alloc]; omega))
  have OL0 : Hid (∀ b, (Value.slice a0 n0 c0).ownBlock = some b → w.heap.size + 3 ≤ b ∧ b < w1.heap.size) := fun b hb => by have e := o1.lt b hb; simp only [World.size_alloc] at e; omega
  have OX0_1 := Lib.hid (o1.mono (show w.heap.size + 3 ≤ _ by simp only [World.size_alloc]; omega))
  clear b1 o1
  obtain ⟨⟨ka0, ka1, ka2, ka3, ka4⟩, -, -⟩ := boxedHd_at NA1.out
  obtain ⟨⟨ko0, ko1, ko2, ko3, ko4⟩, ⟨fo0, fo1, fo2, fo3, fo4⟩, -⟩ := boxedHd_at NO1.out
  go_wp2_with fail
  generalize hx : w1.setCell ⟨w.heap.size + 1 + 1, 0, none⟩ (.slice a0 n0 c0) = v1 at *
  have hv1 : ∀ b, b ≠ w.heap.size + 1 + 1 → v1.heap[b]? = w1.heap[b]? := fun b hb => by rw [← hx]; exact Below.heap_setCell _ _ _ _ hb
  have sv1 : v1.heap.size = w1.heap.size := by rw [← hx]; simp [World.setCell]
  have NA1' := Lib.hid ((hv1 (w.heap.size) (by omega)).trans NA1.out)
  have NR1' := Lib.hid ((hv1 (w.heap.size + 1) (by omega)).trans NR1.out)
  have no := putHd_0 (.slice a0 n0 c0) NO1.out
  rw [hx] at no
  have NO1' := Lib.hid no
  have BB1' : Hid (Below w.heap.size w v1) := by rw [← hx]; exact BB1.out.setCell (by show w.heap.size ≤ w.heap.size + 1 + 1; omega) _
  have OX0_1' := Lib.hid (OX0_1.out.of_block (w' := v1) fun b hb => hv1 b (by have := (OL0.out b hb).1; omega))
  clear hx hv1 no NA1 NR1 NO1 BB1 OX0_1 ka0 ka1 ka2 ka3 ka4 ko0 ko1 ko2 ko3 ko4 fo0 fo1 fo2 fo3 fo4
  refine (C1.out _ (H1.out.later BB1'.out)).mono ?_
  rintro e w2 ⟨v', rfl, o2, b2⟩
  obtain ⟨a1, c1, rfl⟩ := o2.fit
  rw [← E1.out] at o2 ⊢
  have z2 := b2.size
  have NA2 := Lib.hid ((b2.block (w.heap.size) (by omega)).trans NA1'.out)
  have NR2 := Lib.hid ((b2.block (w.heap.size + 1) (by omega)).trans NR1'.out)
  have NO2 := Lib.hid ((b2.block (w.heap.size + 1 + 1) (by omega)).trans NO1'.out)
  have BB2 : Hid (Below w.heap.size w w2) := BB1'.out.trans (b2.mono (by omega))
  have OL1 := Lib.hid o2.lt
  have OX0_2 := Lib.hid (OX0_1'.out.later b2)
  have OX1_2 := Lib.hid o2
  clear NA1' NR1' NO1' BB1' OX0_1'
  clear b2 o2
  obtain ⟨⟨ka0, ka1, ka2, ka3, ka4⟩, -, -⟩ := boxedHd_at NA2.out
  obtain ⟨⟨ko0, ko1, ko2, ko3, ko4⟩, ⟨fo0, fo1, fo2, fo3, fo4⟩, -⟩ := boxedHd_at NO2.out
  go_wp2_with fail
  generalize hx : w2.setCell ⟨w.heap.size + 1 + 1, 1, none⟩ (.slice a1 n1 c1) = v2 at *
  have hv2 : ∀ b, b ≠ w.heap.size + 1 + 1 → v2.heap[b]? = w2.heap[b]? := fun b hb => by rw [← hx]; exact Below.heap_setCell _ _ _ _ hb
  have sv2 : v2.heap.size = w2.heap.size := by rw [← hx]; simp [World.setCell]
  have NA2' := Lib.hid ((hv2 (w.heap.size) (by omega)).trans NA2.out)
  have NR2' := Lib.hid ((hv2 (w.heap.size + 1) (by omega)).trans NR2.out)
  have no := putHd_1 (.slice a1 n1 c1) NO2.out
  rw [hx] at no
  have NO2' := Lib.hid no
  have BB2' : Hid (Below w.heap.size w v2) := by rw [← hx]; exact BB2.out.setCell (by show w.heap.size ≤ w.heap.size + 1 + 1; omega) _
  have OX0_2' := Lib.hid (OX0_2.out.of_block (w' := v2) fun b hb => hv2 b (by have := (OL0.out b hb).1; omega))
  have OX1_2' := Lib.hid (OX1_2.out.of_block (w' := v2) fun b hb => hv2 b (by have := (OL1.out b hb).1; omega))
  clear hx hv2 no NA2 NR2 NO2 BB2 OX0_2 OX1_2 ka0 ka1 ka2 ka3 ka4 ko0 ko1 ko2 ko3 ko4 fo0 fo1 fo2 fo3 fo4
  refine (C2.out _ (H2.out.later BB2'.out)).mono ?_
  rintro e w3 ⟨v', rfl, o3, b3⟩
  obtain ⟨a2, c2, rfl⟩ := o3.fit
  rw [← E2.out] at o3 ⊢
  have z3 := b3.size
  have NA3 := Lib.hid ((b3.block (w.heap.size) (by omega)).trans NA2'.out)
  have NR3 := Lib.hid ((b3.block (w.heap.size + 1) (by omega)).trans NR2'.out)
  have NO3 := Lib.hid ((b3.block (w.heap.size + 1 + 1) (by omega)).trans NO2'.out)
  have BB3 : Hid (Below w.heap.size w w3) := BB2'.out.trans (b3.mono (by omega))
  have OL2 := Lib.hid o3.lt
  have OX0_3 := Lib.hid (OX0_2'.out.later b3)
  have OX1_3 := Lib.hid (OX1_2'.out.later b3)
  have OX2_3 := Lib.hid o3
  clear NA2' NR2' NO2' BB2' OX0_2' OX1_2'
  clear b3 o3
  obtain ⟨⟨ka0, ka1, ka2, ka3, ka4⟩, -, -⟩ := boxedHd_at NA3.out
  obtain ⟨⟨ko0, ko1, ko2, ko3, ko4⟩, ⟨fo0, fo1, fo2, fo3, fo4⟩, -⟩ := boxedHd_at NO3.out
  obtain ⟨⟨kr0, kr1, kr2, kr3, kr4⟩, ⟨fr0, fr1, fr2, fr3, fr4⟩, -⟩ := boxedHd_at NR3.out
  go_wp2
  refine bodyPost_ret (v := .agg #[.slice a0 n0 c0, .slice a1 n1 c1, .slice a2 n2 c2, .int .i64 g.p, .int .i64 g.q]) (by simp [results, Try.results10, go_sem, kr0, kr1, kr2, kr3, kr4]; try rfl) rfl ?_
  obtain ⟨wE, hE⟩ : ∃ wE, wE = ((((((((w3.setCell ⟨w.heap.size + 1 + 1, 2, none⟩ (.slice a2 n2 c2)).setCell ⟨w.heap.size + 1 + 1, 3, none⟩ (.int .i64 g.p)).setCell ⟨w.heap.size + 1 + 1, 4, none⟩ (.int .i64 g.q)).setCell ⟨w.heap.size + 1, 0, none⟩ (.slice a0 n0 c0)).setCell ⟨w.heap.size + 1, 1, none⟩ (.slice a1 n1 c1)).setCell ⟨w.heap.size + 1, 2, none⟩ (.slice a2 n2 c2)).setCell ⟨w.heap.size + 1, 3, none⟩ (.int .i64 g.p)).setCell ⟨w.heap.size + 1, 4, none⟩ (.int .i64 g.q)) := ⟨_, rfl⟩
  have hh : ∀ b, w.heap.size + 1 + 1 < b → wE.heap[b]? = w3.heap[b]? := fun b hb => by
    rw [hE, Below.heap_setCell _ _ _ _ (show b ≠ w.heap.size + 1 by omega), Below.heap_setCell _ _ _ _ (show b ≠ w.heap.size + 1 by omega), Below.heap_setCell _ _ _ _ (show b ≠ w.heap.size + 1 by omega), Below.heap_setCell _ _ _ _ (show b ≠ w.heap.size + 1 by omega), Below.heap_setCell _ _ _ _ (show b ≠ w.heap.size + 1 by omega), Below.heap_setCell _ _ _ _ (show b ≠ w.heap.size + 1 + 1 by omega), Below.heap_setCell _ _ _ _ (show b ≠ w.heap.size + 1 + 1 by omega), Below.heap_setCell _ _ _ _ (show b ≠ w.heap.size + 1 + 1 by omega)]
  have hsz : wE.heap.size = w3.heap.size := by rw [hE]; simp [World.setCell]
  have BE : Below w.heap.size w wE := by rw [hE]; exact ((((((((BB3.out.setCell (p := ⟨w.heap.size + 1 + 1, 2, none⟩) (show w.heap.size ≤ w.heap.size + 1 + 1 by omega) _).setCell (p := ⟨w.heap.size + 1 + 1, 3, none⟩) (show w.heap.size ≤ w.heap.size + 1 + 1 by omega) _).setCell (p := ⟨w.heap.size + 1 + 1, 4, none⟩) (show w.heap.size ≤ w.heap.size + 1 + 1 by omega) _).setCell (p := ⟨w.heap.size + 1, 0, none⟩) (show w.heap.size ≤ w.heap.size + 1 by omega) _).setCell (p := ⟨w.heap.size + 1, 1, none⟩) (show w.heap.size ≤ w.heap.size + 1 by omega) _).setCell (p := ⟨w.heap.size + 1, 2, none⟩) (show w.heap.size ≤ w.heap.size + 1 by omega) _).setCell (p := ⟨w.heap.size + 1, 3, none⟩) (show w.heap.size ≤ w.heap.size + 1 by omega) _).setCell (p := ⟨w.heap.size + 1, 4, none⟩) (show w.heap.size ≤ w.heap.size + 1 by omega) _)
  rw [← hE]
  refine ⟨⟨a0, c0, g.c, a1, c1, g.h, a2, c2, g.s, g.p, g.q⟩, rfl, ⟨rfl, rfl, rfl, rfl, rfl⟩, ⟨?_, ?_, ?_, ?_, ?_, ?_, ?_, ?_, ?_, ?_⟩, BE⟩
  · exact (OX0_3.out.of_block fun b hb => hh b (by have := (OL0.out b hb).1; omega)).mono (by omega)
  · intro b hb; have := (OL0.out b hb).2; omega
  · exact (OX1_3.out.of_block fun b hb => hh b (by have := (OL1.out b hb).1; omega)).mono (by omega)
  · intro b hb; have := (OL1.out b hb).2; omega
  · exact (OX2_3.out.of_block fun b hb => hh b (by have := (OL2.out b hb).1; omega)).mono (by omega)
  · intro b hb; have := (OL2.out b hb).2; omega
  · intro b h1 h2; have := (OL0.out b h1).2; have := (OL1.out b h2).1; omega
  · intro b h1 h2; have := (OL0.out b h1).2; have := (OL2.out b h2).1; omega
  · intro b h1 h2; have := (OL1.out b h1).2; have := (OL2.out b h2).1; omega
  · exact Nat.le_refl _

end Go.Proofs.Ytmdddjhlfpmgdac
