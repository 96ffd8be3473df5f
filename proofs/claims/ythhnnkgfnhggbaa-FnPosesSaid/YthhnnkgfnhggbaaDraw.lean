/- Draws: one, among; a pose. -/
import Derived.Test.YthhnnkgfnhggbaaSrc2
import Derived.Test.YthhnnkgfnhggbaaSlI
import Derived.Test.YthhnnkgfnhggbaaRecs
import Derived.Test.YthhnnkgfnhggbaaPoses
namespace Go.Proofs.Ythhnnkgfnhggbaa
open Go.ChangeShapes Go.WideShapes Go.ChangeAt Go.RowKit
set_option linter.unusedVariables false
set_option linter.unusedSimpArgs false

set_option maxHeartbeats 1000000 in
theorem one_any (w : World) (g : Nat) (v : Value) (zs : List Int) (n : Nat) (k : Int) (h : SrcAt w g v zs n) (hn : n ≤ 1099511627000) (lz : zs.length ≤ 1099511627776) (hk : -9223372036854775808 ≤ k) (hk2 : k ≤ 9223372036854775807) :
    Calls Try.prog 82 #[.pointer (some ⟨g, 0, none⟩), .int .i64 k] w fun e w' => ∃ (b : Bool) (m : Nat), e = .returned (.bool b) ∧ n ≤ m ∧ m ≤ n + 2 ∧ SrcAt w' g v zs m ∧ w.grownBy w' (some g) := by
  have c1 := Lib.hid (pick_any w g v zs n k h hn lz hk hk2)
  clear h
  go_enter Try.func82, Try.ntmps82
  go_wp2_with fail
  refine c1.out.mono ?_
  rintro e w1 ⟨x, m, rfl, -, -, -, l1, u1, s1, g1⟩
  have S1 := Lib.hid s1
  have G1 := Lib.hid g1
  clear s1 g1 c1
  by_cases hx : x = 0
  · have d : decide (x = 0) = true := by simpa using hx
    clear hx
    go_wp2
    go_ret
    exact ⟨_, m, rfl, l1, u1, S1.out, G1.out⟩
  · have d : decide (x = 0) = false := by simpa using hx
    clear hx
    go_wp2
    go_ret
    exact ⟨_, m, rfl, l1, u1, S1.out, G1.out⟩

set_option maxHeartbeats 1000000 in
theorem among_any (w : World) (g : Nat) (v : Value) (zs : List Int) (n : Nat) (a : Option Addr) (cap L : Nat) (ys : List Int) (h : SrcAt w g v zs n) (hn : n ≤ 1099511627000) (lz : zs.length ≤ 1099511627776) (hL : L = ys.length) (h0 : 1 ≤ L) (h1 : L ≤ 1000) (hr : RdI w (.slice a L cap) ys) (hg : ∀ b o, a = some ⟨b, o, none⟩ → b ≠ g) :
    Calls Try.prog 83 #[.pointer (some ⟨g, 0, none⟩), .slice a L cap] w fun e w' => ∃ (x : Int) (m : Nat), e = .returned (.int .i64 x) ∧ n ≤ m ∧ m ≤ n + 2 ∧ SrcAt w' g v zs m ∧ w.grownBy w' (some g) := by
  have c1 := Lib.hid (pick_any w g v zs n L h hn lz (by omega) (by omega))
  obtain ⟨a', cap', e, hc⟩ := hr
  simp only [Value.slice.injEq] at e
  obtain ⟨rfl, -, rfl⟩ := e
  obtain ⟨b, off, rfl, hc1⟩ := hc.resolve_left (by intro h; rw [h] at hL; simp at hL; omega)
  have ng : b ≠ g := hg b off rfl
  have HC := Lib.hid hc1
  have HL := Lib.hid hL
  have q1 : IntKind.i64.wrap (L : Int) = L := IntWalk.i64_in _ (by omega)
  clear h hc hc1 hg hL
  go_enter Try.func83, Try.ntmps83
  go_wp2_with fail
  refine c1.out.mono ?_
  rintro e w1 ⟨x, m, rfl, x0, x1, -, l1, u1, s1, g1⟩
  have S1 := Lib.hid s1
  have G1 := Lib.hid g1
  have x2 := x1 (by omega)
  obtain ⟨i, rfl⟩ : ∃ i : Nat, x = i := ⟨x.toNat, by omega⟩
  obtain ⟨y, hy⟩ : ∃ y, ys[i]? = some y := ⟨_, List.getElem?_eq_getElem (by have := HL.out; omega)⟩
  have d0 := HC.out i y hy
  have d1 := (World.cell?_of_block (w := w) (w' := w1) (a := ⟨b, off + i, none⟩) (G1.out.block b (World.block_lt_of_cell? w _ d0) (by intro h; exact ng (Option.some.inj h)))).trans d0
  clear s1 g1 c1 x1 d0 hy HC
  go_wp2
  go_ret
  exact ⟨_, m, rfl, l1, u1, S1.out, G1.out⟩

theorem SrcAt.apartOf {w w' : World} {g : Nat} {v : Value} {zs : List Int} {n : Nat} (h : SrcAt w g v zs n) (P : Nat) (hg : g ≠ P) (hv : zs ≠ [] → ∀ b, v.ownBlock = some b → b ≠ P) (hb : ∀ j, j ≠ P → j < w.heap.size → w'.heap[j]? = w.heap[j]?) : SrcAt w' g v zs n := by
  have lt := h.lt
  have hgb := hb g hg lt
  obtain ⟨a, b, ⟨s, c, c0, c1⟩, d, e, f, k⟩ := h
  refine ⟨(World.cell?_of_block (a := ⟨g, 0, none⟩) hgb).trans a, (World.cell?_of_block (a := ⟨g, 1, none⟩) hgb).trans b, ⟨s, (World.cell?_of_block (a := ⟨g, 2, none⟩) hgb).trans c, c0, c1⟩, (World.frozen?_of_block (a := ⟨g, 1, none⟩) hgb).trans d, (World.frozen?_of_block (a := ⟨g, 2, none⟩) hgb).trans e, ?_, k⟩
  refine f.of_cells fun hz b o u hbk hc => (World.cell?_of_block (a := ⟨b, o, none⟩) (hb b (hv hz b hbk) (World.block_lt_of_cell? w _ hc))).trans hc

/-- What is known while drawing: the source at gs, and nothing else of the world that was has changed. -/
structure DSt (w wr : World) (gs : Nat) (v : Value) (zs : List Int) (n : Nat) : Prop where
  src : SrcAt wr gs v zs n
  gr : w.grownBy wr (some gs)
  gl : gs < w.heap.size
  vl : zs ≠ [] → ∀ b, v.ownBlock = some b → b < w.heap.size

theorem DSt.size {w wr : World} {gs : Nat} {v : Value} {zs : List Int} {n : Nat} (h : DSt w wr gs v zs n) : w.heap.size ≤ wr.heap.size := h.gr.size
theorem DSt.step {w wr w' : World} {gs : Nat} {v : Value} {zs : List Int} {n m : Nat} (h : DSt w wr gs v zs n) (s : SrcAt w' gs v zs m) (g : wr.grownBy w' (some gs)) : DSt w w' gs v zs m := ⟨s, grownBy_trans' h.gr g, h.gl, h.vl⟩
theorem DSt.alloc {w wr : World} {gs : Nat} {v : Value} {zs : List Int} {n : Nat} (h : DSt w wr gs v zs n) (o : Obj) : DSt w (wr.alloc o) gs v zs n :=
  ⟨h.src.later (Below.alloc (Below.refl _ _) (Nat.le_refl _) _) h.src.lt, grownBy_trans' h.gr (World.grownBy_alloc _ _ _), h.gl, h.vl⟩
theorem DSt.set {w wr : World} {gs : Nat} {v : Value} {zs : List Int} {n : Nat} (h : DSt w wr gs v zs n) (P j : Nat) (hP : w.heap.size ≤ P) (z : Value) : DSt w (wr.setCell ⟨P, j, none⟩ z) gs v zs n := by
  have hb : ∀ k, k ≠ P → (wr.setCell ⟨P, j, none⟩ z).heap[k]? = wr.heap[k]? := fun k hk => Below.heap_setCell _ _ _ _ hk
  refine ⟨h.src.apartOf P (by have := h.gl; omega) (fun hz b hb' => by have := h.vl hz b hb'; omega) (fun k hk _ => hb k hk), ⟨h.gr.os, h.gr.tape, h.gr.output, by simpa using h.gr.size, fun k hk hne => ?_⟩, h.gl, h.vl⟩
  rw [hb k (by omega)]
  exact h.gr.block k hk hne
theorem DSt.keep {w wr w' : World} {gs : Nat} {v : Value} {zs : List Int} {n : Nat} (h : DSt w wr gs v zs n) (g : wr.grownBy w' (some gs)) {P : Nat} {o : Obj} (hP : w.heap.size ≤ P) (hr : wr.heap[P]? = some o) : w'.heap[P]? = some o :=
  (g.block P (Array.getElem?_eq_some_iff.1 hr).1 (by intro e; have := h.gl; have := Option.some.inj e; omega)).trans hr
theorem set_row {w : World} {P Q : Nat} {j : Nat} {z : Value} {o : Obj} (hne : Q ≠ P) (hr : w.heap[Q]? = some o) : (w.setCell ⟨P, j, none⟩ z).heap[Q]? = some o := (Below.heap_setCell _ _ _ _ hne).trans hr

/-- A box of a pose in which one number is written. -/
theorem setPs {w : World} {g : Nat} {t : TypeId} {q : Ps} (h : w.heap[g]? = some (.cells #[.int .i64 q.s, .int .i64 q.h, .int .i64 q.y, .int .i64 q.p] t (0, 0))) (j : Nat) (hj : j < 4) (z : Int) : ∃ q' : Ps, (w.setCell ⟨g, j, none⟩ (.int .i64 z)).heap[g]? = some (.cells #[.int .i64 q'.s, .int .i64 q'.h, .int .i64 q'.y, .int .i64 q'.p] t (0, 0)) := by
  match j, hj with
  | 0, _ => exact ⟨⟨z, q.h, q.y, q.p⟩, by simpa using heap_setCell_same w g 0 _ t (.int .i64 z) h⟩
  | 1, _ => exact ⟨⟨q.s, z, q.y, q.p⟩, by simpa using heap_setCell_same w g 1 _ t (.int .i64 z) h⟩
  | 2, _ => exact ⟨⟨q.s, q.h, z, q.p⟩, by simpa using heap_setCell_same w g 2 _ t (.int .i64 z) h⟩
  | 3, _ => exact ⟨⟨q.s, q.h, q.y, z⟩, by simpa using heap_setCell_same w g 3 _ t (.int .i64 z) h⟩

set_option maxRecDepth 100000 in
set_option maxHeartbeats 8000000 in
theorem drawPose_any (w : World) (gs : Nat) (v : Value) (zs : List Int) (n : Nat) (lz : zs.length ≤ 1099511627776) (hn : n ≤ 1099511000000) (D : DSt w w gs v zs n) :
    Calls Try.prog 80 #[.pointer (some ⟨gs, 0, none⟩)] w fun e w' => ∃ (q : Ps) (m : Nat), e = .returned (.agg #[.int .i64 q.s, .int .i64 q.h, .int .i64 q.y, .int .i64 q.p]) ∧ n ≤ m ∧ m ≤ n + 20 ∧ DSt w w' gs v zs m := by
  have gl := D.gl
  have vl := Lib.hid D.vl
  have D0 := Lib.hid (D.alloc (.cells #[.int .i64 0, .int .i64 0, .int .i64 0, .int .i64 0] 25))
  have R0 : Hid ((w.alloc (.cells #[.int .i64 0, .int .i64 0, .int .i64 0, .int .i64 0] 25)).heap[w.heap.size]? = some (.cells #[.int .i64 0, .int .i64 0, .int .i64 0, .int .i64 0] 25 (0, 0))) := heap_alloc_new _ _
  clear D
  go_enter Try.func80, Try.ntmps80
  go_wp2_with fail
  refine (pick_any _ gs v zs n 101 D0.out.src (by omega) lz (by omega) (by omega)).mono ?_
  rintro e w1 ⟨x, m1, rfl, -, -, -, l1, u1, s1, g1⟩
  have D1 := Lib.hid (D0.out.step s1 g1)
  have R1 := Lib.hid (D0.out.keep g1 (Nat.le_refl _) R0.out)
  clear s1 g1 D0 R0
  have z1 : w.heap.size < w1.heap.size := (Array.getElem?_eq_some_iff.1 R1.out).1
  go_wp2_with fail
  generalize hW : World.alloc w1 _ = w2
  have D2 : Hid (DSt w w2 gs v zs m1) := by rw [← hW]; exact D1.out.alloc _
  have R2 : Hid (w2.heap[w.heap.size]? = some (.cells #[.int .i64 0, .int .i64 0, .int .i64 0, .int .i64 0] 25 (0, 0))) := by rw [← hW]; exact (Below.heap_alloc _ _ _ z1).trans R1.out
  obtain ⟨P, hP⟩ : ∃ P, P = w1.heap.size := ⟨_, rfl⟩
  have P2 : ∃ q : Ps, w2.heap[P]? = some (.cells #[.int .i64 q.s, .int .i64 q.h, .int .i64 q.y, .int .i64 q.p] 25 (0, 0)) := by rw [← hW, hP]; exact ⟨⟨_, 0, 0, 0⟩, heap_alloc_new _ _⟩
  have lP : w.heap.size < P := by omega
  rw [← hP]
  clear hW hP D1 R1 z1
  obtain ⟨q2, P2⟩ := P2
  refine (pick_any _ gs v zs m1 101 D2.out.src (by omega) lz (by omega) (by omega)).mono ?_
  rintro e w3 ⟨x, m3, rfl, -, -, -, l3, u3, s3, g3⟩
  have D3 := Lib.hid (D2.out.step s3 g3)
  have R3 := Lib.hid (D2.out.keep g3 (Nat.le_refl _) R2.out)
  have P3 := D2.out.keep g3 (by omega) P2
  have c3 := cell_of_row w3 P 1 _ _ _ P3
  have f3 := frozen_of_row w3 P 1 _ _ P3
  have PP := Lib.hid P3
  clear s3 g3 D2 R2 P2 P3
  go_wp2_with fail
  generalize hW : World.setCell w3 ⟨P, 1, none⟩ _ = w4
  have D4 : Hid (DSt w w4 gs v zs m3) := by rw [← hW]; exact D3.out.set P 1 (by omega) _
  have R4 : Hid (w4.heap[w.heap.size]? = some (.cells #[.int .i64 0, .int .i64 0, .int .i64 0, .int .i64 0] 25 (0, 0))) := by rw [← hW]; exact set_row (by omega) R3.out
  have P4 : ∃ q : Ps, w4.heap[P]? = some (.cells #[.int .i64 q.s, .int .i64 q.h, .int .i64 q.y, .int .i64 q.p] 25 (0, 0)) := by rw [← hW]; exact setPs PP.out 1 (by omega) _
  clear hW D3 R3 c3 f3 PP
  obtain ⟨q4, P4⟩ := P4
  refine (pick_any _ gs v zs m3 21 D4.out.src (by omega) lz (by omega) (by omega)).mono ?_
  rintro e w5 ⟨x, m5, rfl, -, -, -, l5, u5, s5, g5⟩
  have D5 := Lib.hid (D4.out.step s5 g5)
  have R5 := Lib.hid (D4.out.keep g5 (Nat.le_refl _) R4.out)
  have P5 := D4.out.keep g5 (by omega) P4
  have c5 := cell_of_row w5 P 2 _ _ _ P5
  have f5 := frozen_of_row w5 P 2 _ _ P5
  have PP := Lib.hid P5
  clear s5 g5 D4 R4 P4 P5
  go_wp2_with fail
  generalize hW : World.setCell w5 ⟨P, 2, none⟩ _ = w6
  have D6 : Hid (DSt w w6 gs v zs m5) := by rw [← hW]; exact D5.out.set P 2 (by omega) _
  have R6 : Hid (w6.heap[w.heap.size]? = some (.cells #[.int .i64 0, .int .i64 0, .int .i64 0, .int .i64 0] 25 (0, 0))) := by rw [← hW]; exact set_row (by omega) R5.out
  have P6 : ∃ q : Ps, w6.heap[P]? = some (.cells #[.int .i64 q.s, .int .i64 q.h, .int .i64 q.y, .int .i64 q.p] 25 (0, 0)) := by rw [← hW]; exact setPs PP.out 2 (by omega) _
  clear hW D5 R5 c5 f5 PP
  obtain ⟨q6, P6⟩ := P6
  refine (pick_any _ gs v zs m5 21 D6.out.src (by omega) lz (by omega) (by omega)).mono ?_
  rintro e w7 ⟨x, m7, rfl, -, -, -, l7, u7, s7, g7⟩
  have D7 := Lib.hid (D6.out.step s7 g7)
  have R7 := Lib.hid (D6.out.keep g7 (Nat.le_refl _) R6.out)
  have P7 := D6.out.keep g7 (by omega) P6
  have c7 := cell_of_row w7 P 3 _ _ _ P7
  have f7 := frozen_of_row w7 P 3 _ _ P7
  have PP := Lib.hid P7
  clear s7 g7 D6 R6 P6 P7
  go_wp2_with fail
  generalize hW : World.setCell w7 ⟨P, 3, none⟩ _ = w8
  have D8 : Hid (DSt w w8 gs v zs m7) := by rw [← hW]; exact D7.out.set P 3 (by omega) _
  have R8 : Hid (w8.heap[w.heap.size]? = some (.cells #[.int .i64 0, .int .i64 0, .int .i64 0, .int .i64 0] 25 (0, 0))) := by rw [← hW]; exact set_row (by omega) R7.out
  have P8 : ∃ q : Ps, w8.heap[P]? = some (.cells #[.int .i64 q.s, .int .i64 q.h, .int .i64 q.y, .int .i64 q.p] 25 (0, 0)) := by rw [← hW]; exact setPs PP.out 3 (by omega) _
  clear hW D7 R7 c7 f7 PP
  obtain ⟨q8, P8⟩ := P8
  refine (one_any _ gs v zs m7 12 D8.out.src (by omega) lz (by omega) (by omega)).mono ?_
  rintro e w9 ⟨b9, m9, rfl, l9, u9, s9, g9⟩
  have D9 := Lib.hid (D8.out.step s9 g9)
  have R9 := Lib.hid (D8.out.keep g9 (Nat.le_refl _) R8.out)
  have P9 : ∃ q : Ps, w9.heap[P]? = some (.cells #[.int .i64 q.s, .int .i64 q.h, .int .i64 q.y, .int .i64 q.p] 25 (0, 0)) := ⟨_, D8.out.keep g9 (by omega) P8⟩
  clear s9 g9 D8 R8 P8
  cases b9 with
  | true =>
    obtain ⟨q9, P9⟩ := P9
    have Q9 : Hid _ := Lib.hid (ownI_lit w9 [(-100000), (99990), (100000)] (by simp)).rd
    have zc9 : gs < w9.heap.size := by have := D9.out.size; omega
    go_wp2_with fail
    refine (among_any _ gs v zs m9 _ 3 3 [(-100000), (99990), (100000)] (D9.out.alloc _).src (by omega) lz rfl (by omega) (by omega) Q9.out (by intro b o e; cases e; omega)).mono ?_
    rintro e w10 ⟨x, m10, rfl, l10, u10, s10, g10⟩
    have D10 := Lib.hid ((D9.out.alloc _).step s10 g10)
    have R10 := Lib.hid ((D9.out.alloc _).keep g10 (Nat.le_refl _) ((Below.heap_alloc _ _ _ (by have := D9.out.size; have := (Array.getElem?_eq_some_iff.1 R9.out).1; omega)).trans R9.out))
    have P10 := (D9.out.alloc _).keep g10 (by omega) ((Below.heap_alloc _ _ _ (Array.getElem?_eq_some_iff.1 P9).1).trans P9)
    have c10 := cell_of_row w10 P 0 _ _ _ P10
    have f10 := frozen_of_row w10 P 0 _ _ P10
    have PP := Lib.hid P10
    clear s10 g10 D9 R9 P9 P10 Q9 zc9
    go_wp2_with fail
    generalize hW : World.setCell w10 ⟨P, 0, none⟩ _ = w11
    have D11 : Hid (DSt w w11 gs v zs m10) := by rw [← hW]; exact D10.out.set P 0 (by omega) _
    have R11 : Hid (w11.heap[w.heap.size]? = some (.cells #[.int .i64 0, .int .i64 0, .int .i64 0, .int .i64 0] 25 (0, 0))) := by rw [← hW]; exact set_row (by omega) R10.out
    have P11 : ∃ q : Ps, w11.heap[P]? = some (.cells #[.int .i64 q.s, .int .i64 q.h, .int .i64 q.y, .int .i64 q.p] 25 (0, 0)) := by rw [← hW]; exact setPs PP.out 0 (by omega) _
    clear hW D10 R10 c10 f10 PP
    go_wp2_with fail
    obtain ⟨q11, P11⟩ := P11
    refine (one_any _ gs v zs m10 12 D11.out.src (by omega) lz (by omega) (by omega)).mono ?_
    rintro e w12 ⟨b12, m12, rfl, l12, u12, s12, g12⟩
    have D12 := Lib.hid (D11.out.step s12 g12)
    have R12 := Lib.hid (D11.out.keep g12 (Nat.le_refl _) R11.out)
    have P12 : ∃ q : Ps, w12.heap[P]? = some (.cells #[.int .i64 q.s, .int .i64 q.h, .int .i64 q.y, .int .i64 q.p] 25 (0, 0)) := ⟨_, D11.out.keep g12 (by omega) P11⟩
    clear s12 g12 D11 R11 P11
    cases b12 with
    | true =>
      obtain ⟨q12, P12⟩ := P12
      have Q12 : Hid _ := Lib.hid (ownI_lit w12 [(-400), (395), (400)] (by simp)).rd
      have zc12 : gs < w12.heap.size := by have := D12.out.size; omega
      go_wp2_with fail
      refine (among_any _ gs v zs m12 _ 3 3 [(-400), (395), (400)] (D12.out.alloc _).src (by omega) lz rfl (by omega) (by omega) Q12.out (by intro b o e; cases e; omega)).mono ?_
      rintro e w13 ⟨x, m13, rfl, l13, u13, s13, g13⟩
      have D13 := Lib.hid ((D12.out.alloc _).step s13 g13)
      have r := (D12.out.alloc _).keep g13 (Nat.le_refl _) ((Below.heap_alloc _ _ _ (by have := D12.out.size; have := (Array.getElem?_eq_some_iff.1 R12.out).1; omega)).trans R12.out)
      have P13 := (D12.out.alloc _).keep g13 (by omega) ((Below.heap_alloc _ _ _ (Array.getElem?_eq_some_iff.1 P12).1).trans P12)
      obtain ⟨⟨p0, p1, p2, p3⟩, ⟨y0, y1, y2, y3⟩, -⟩ := boxPs_at (q := q12) P13
      have r0 := cell_of_row w13 w.heap.size 0 _ _ _ r
      have e0 := frozen_of_row w13 w.heap.size 0 _ _ r
      have r1 := cell_of_row w13 w.heap.size 1 _ _ _ r
      have e1 := frozen_of_row w13 w.heap.size 1 _ _ r
      have r2 := cell_of_row w13 w.heap.size 2 _ _ _ r
      have e2 := frozen_of_row w13 w.heap.size 2 _ _ r
      have r3 := cell_of_row w13 w.heap.size 3 _ _ _ r
      have e3 := frozen_of_row w13 w.heap.size 3 _ _ r
      obtain ⟨qn, hqn⟩ : ∃ qn : Ps, qn = ⟨q12.s, q12.h, q12.y, x⟩ := ⟨_, rfl⟩
      have PQ := Lib.hid (boxPs_put (q := ⟨0, 0, 0, 0⟩) (set_row (P := P) (j := 3) (z := .int .i64 x) (by omega) r) qn)
      have hs : q12.s = qn.s := by rw [hqn]
      have hh : q12.h = qn.h := by rw [hqn]
      have hy : q12.y = qn.y := by rw [hqn]
      have hp : x = qn.p := by rw [hqn]
      rw [hs] at p0; rw [hh] at p1; rw [hy] at p2
      have HP := Lib.hid hp
      have nP : ¬ P = w.heap.size := by omega
      have nP2 : ¬ w.heap.size = P := by omega
      rw [hp] at PQ ⊢
      clear r P13 R12 P12 hqn hs hh hy hp s13 g13 D12 Q12 zc12
      go_wp2
      obtain ⟨⟨g0, g1, g2, g3⟩, -, -⟩ := boxPs_at (q := qn) PQ.out
      refine bodyPost_ret (v := (.agg #[.int .i64 qn.s, .int .i64 qn.h, .int .i64 qn.y, .int .i64 qn.p])) (by simp [results, Try.results80, go_sem, g0, g1, g2, g3]; try rfl) rfl ⟨qn, m13, rfl, by omega, by omega, ?_⟩
      exact ((((D13.out.set P 3 (by omega) _).set w.heap.size 0 (Nat.le_refl _) _).set w.heap.size 1 (Nat.le_refl _) _).set w.heap.size 2 (Nat.le_refl _) _).set w.heap.size 3 (Nat.le_refl _) _
    | false =>
      obtain ⟨q12, P12⟩ := P12
      obtain ⟨⟨p0, p1, p2, p3⟩, -, -⟩ := boxPs_at (q := q12) P12
      have r := R12.out
      have r0 := cell_of_row w12 w.heap.size 0 _ _ _ r
      have e0 := frozen_of_row w12 w.heap.size 0 _ _ r
      have r1 := cell_of_row w12 w.heap.size 1 _ _ _ r
      have e1 := frozen_of_row w12 w.heap.size 1 _ _ r
      have r2 := cell_of_row w12 w.heap.size 2 _ _ _ r
      have e2 := frozen_of_row w12 w.heap.size 2 _ _ r
      have r3 := cell_of_row w12 w.heap.size 3 _ _ _ r
      have e3 := frozen_of_row w12 w.heap.size 3 _ _ r
      have PQ := Lib.hid (boxPs_put (q := ⟨0, 0, 0, 0⟩) r q12)
      clear r P12 R12
      go_wp2
      obtain ⟨⟨g0, g1, g2, g3⟩, -, -⟩ := boxPs_at (q := q12) PQ.out
      refine bodyPost_ret (v := (.agg #[.int .i64 q12.s, .int .i64 q12.h, .int .i64 q12.y, .int .i64 q12.p])) (by simp [results, Try.results80, go_sem, g0, g1, g2, g3]; try rfl) rfl ⟨q12, m12, rfl, by omega, by omega, ?_⟩
      exact (((D12.out.set w.heap.size 0 (Nat.le_refl _) _).set w.heap.size 1 (Nat.le_refl _) _).set w.heap.size 2 (Nat.le_refl _) _).set w.heap.size 3 (Nat.le_refl _) _
  | false =>
    go_wp2_with fail
    obtain ⟨q9, P9⟩ := P9
    refine (one_any _ gs v zs m9 12 D9.out.src (by omega) lz (by omega) (by omega)).mono ?_
    rintro e w10 ⟨b10, m10, rfl, l10, u10, s10, g10⟩
    have D10 := Lib.hid (D9.out.step s10 g10)
    have R10 := Lib.hid (D9.out.keep g10 (Nat.le_refl _) R9.out)
    have P10 : ∃ q : Ps, w10.heap[P]? = some (.cells #[.int .i64 q.s, .int .i64 q.h, .int .i64 q.y, .int .i64 q.p] 25 (0, 0)) := ⟨_, D9.out.keep g10 (by omega) P9⟩
    clear s10 g10 D9 R9 P9
    cases b10 with
    | true =>
      obtain ⟨q10, P10⟩ := P10
      have Q10 : Hid _ := Lib.hid (ownI_lit w10 [(-400), (395), (400)] (by simp)).rd
      have zc10 : gs < w10.heap.size := by have := D10.out.size; omega
      go_wp2_with fail
      refine (among_any _ gs v zs m10 _ 3 3 [(-400), (395), (400)] (D10.out.alloc _).src (by omega) lz rfl (by omega) (by omega) Q10.out (by intro b o e; cases e; omega)).mono ?_
      rintro e w11 ⟨x, m11, rfl, l11, u11, s11, g11⟩
      have D11 := Lib.hid ((D10.out.alloc _).step s11 g11)
      have r := (D10.out.alloc _).keep g11 (Nat.le_refl _) ((Below.heap_alloc _ _ _ (by have := D10.out.size; have := (Array.getElem?_eq_some_iff.1 R10.out).1; omega)).trans R10.out)
      have P11 := (D10.out.alloc _).keep g11 (by omega) ((Below.heap_alloc _ _ _ (Array.getElem?_eq_some_iff.1 P10).1).trans P10)
      obtain ⟨⟨p0, p1, p2, p3⟩, ⟨y0, y1, y2, y3⟩, -⟩ := boxPs_at (q := q10) P11
      have r0 := cell_of_row w11 w.heap.size 0 _ _ _ r
      have e0 := frozen_of_row w11 w.heap.size 0 _ _ r
      have r1 := cell_of_row w11 w.heap.size 1 _ _ _ r
      have e1 := frozen_of_row w11 w.heap.size 1 _ _ r
      have r2 := cell_of_row w11 w.heap.size 2 _ _ _ r
      have e2 := frozen_of_row w11 w.heap.size 2 _ _ r
      have r3 := cell_of_row w11 w.heap.size 3 _ _ _ r
      have e3 := frozen_of_row w11 w.heap.size 3 _ _ r
      obtain ⟨qn, hqn⟩ : ∃ qn : Ps, qn = ⟨q10.s, q10.h, q10.y, x⟩ := ⟨_, rfl⟩
      have PQ := Lib.hid (boxPs_put (q := ⟨0, 0, 0, 0⟩) (set_row (P := P) (j := 3) (z := .int .i64 x) (by omega) r) qn)
      have hs : q10.s = qn.s := by rw [hqn]
      have hh : q10.h = qn.h := by rw [hqn]
      have hy : q10.y = qn.y := by rw [hqn]
      have hp : x = qn.p := by rw [hqn]
      rw [hs] at p0; rw [hh] at p1; rw [hy] at p2
      have HP := Lib.hid hp
      have nP : ¬ P = w.heap.size := by omega
      have nP2 : ¬ w.heap.size = P := by omega
      rw [hp] at PQ ⊢
      clear r P11 R10 P10 hqn hs hh hy hp s11 g11 D10 Q10 zc10
      go_wp2
      obtain ⟨⟨g0, g1, g2, g3⟩, -, -⟩ := boxPs_at (q := qn) PQ.out
      refine bodyPost_ret (v := (.agg #[.int .i64 qn.s, .int .i64 qn.h, .int .i64 qn.y, .int .i64 qn.p])) (by simp [results, Try.results80, go_sem, g0, g1, g2, g3]; try rfl) rfl ⟨qn, m11, rfl, by omega, by omega, ?_⟩
      exact ((((D11.out.set P 3 (by omega) _).set w.heap.size 0 (Nat.le_refl _) _).set w.heap.size 1 (Nat.le_refl _) _).set w.heap.size 2 (Nat.le_refl _) _).set w.heap.size 3 (Nat.le_refl _) _
    | false =>
      obtain ⟨q10, P10⟩ := P10
      obtain ⟨⟨p0, p1, p2, p3⟩, -, -⟩ := boxPs_at (q := q10) P10
      have r := R10.out
      have r0 := cell_of_row w10 w.heap.size 0 _ _ _ r
      have e0 := frozen_of_row w10 w.heap.size 0 _ _ r
      have r1 := cell_of_row w10 w.heap.size 1 _ _ _ r
      have e1 := frozen_of_row w10 w.heap.size 1 _ _ r
      have r2 := cell_of_row w10 w.heap.size 2 _ _ _ r
      have e2 := frozen_of_row w10 w.heap.size 2 _ _ r
      have r3 := cell_of_row w10 w.heap.size 3 _ _ _ r
      have e3 := frozen_of_row w10 w.heap.size 3 _ _ r
      have PQ := Lib.hid (boxPs_put (q := ⟨0, 0, 0, 0⟩) r q10)
      clear r P10 R10
      go_wp2
      obtain ⟨⟨g0, g1, g2, g3⟩, -, -⟩ := boxPs_at (q := q10) PQ.out
      refine bodyPost_ret (v := (.agg #[.int .i64 q10.s, .int .i64 q10.h, .int .i64 q10.y, .int .i64 q10.p])) (by simp [results, Try.results80, go_sem, g0, g1, g2, g3]; try rfl) rfl ⟨q10, m10, rfl, by omega, by omega, ?_⟩
      exact (((D10.out.set w.heap.size 0 (Nat.le_refl _) _).set w.heap.size 1 (Nat.le_refl _) _).set w.heap.size 2 (Nat.le_refl _) _).set w.heap.size 3 (Nat.le_refl _) _
end Go.Proofs.Ythhnnkgfnhggbaa
