/- Draws of a valid machine. -/
import Derived.Test.YtjapgbeecabkfaaDraw
import Derived.Test.YtjapgbeecabkfaaSpecM2
import Derived.Test.YtjapgbeecabkfaaMach2
import Derived.Test.YtjapgbeecabkfaaVal
import Derived.Deep.RegionHeld3
import Derived.Deep.DeepCutAuto
namespace Go.Proofs.Ytjapgbeecabkfaa
open Go.ChangeShapes Go.WideShapes Go.ChangeAt Go.RowKit
set_option linter.unusedVariables false
set_option linter.unusedSimpArgs false

theorem DSt.drew {w wr : World} {gs : Nat} {v : Value} {zs : List Int} {n : Nat} (h : DSt w wr gs v zs n) : DSt w wr.drew gs v zs n :=
  ⟨⟨h.src.code, h.src.pos, h.src.seed, h.src.free1, h.src.free2, h.src.bytes, h.src.apart⟩, ⟨h.gr.os, h.gr.tape, h.gr.output, h.gr.size, h.gr.block⟩, h.gl, h.vl⟩
theorem DSt.own {w wr : World} {gs : Nat} {v : Value} {zs : List Int} {n : Nat} (h : DSt w wr gs v zs n) : DSt wr wr gs v zs n :=
  ⟨h.src, ⟨rfl, rfl, rfl, Nat.le_refl _, fun _ _ _ => rfl⟩, by have := h.gl; have := h.size; omega, fun hz b hb => by have := h.vl hz b hb; have := h.size; omega⟩
theorem DSt.with {w wr w' : World} {gs : Nat} {v : Value} {zs : List Int} {n m : Nat} (h : DSt w wr gs v zs n) (k : DSt wr w' gs v zs m) : DSt w w' gs v zs m := h.step k.src k.gr

/-- A box of a machine in which one number is written. -/
theorem setMc {w : World} {g : Nat} {t : TypeId} {q : Mc} (h : w.heap[g]? = some (.cells #[.int .i64 q.u.s, .int .i64 q.u.h, .int .i64 q.u.y, .int .i64 q.u.p, .int .i64 q.t.s, .int .i64 q.t.h, .int .i64 q.t.y, .int .i64 q.t.p, .int .i64 q.a] t (0, 0))) (j : Nat) (hj : j < 9) (z : Int) : ∃ q' : Mc, (w.setCell ⟨g, j, none⟩ (.int .i64 z)).heap[g]? = some (.cells #[.int .i64 q'.u.s, .int .i64 q'.u.h, .int .i64 q'.u.y, .int .i64 q'.u.p, .int .i64 q'.t.s, .int .i64 q'.t.h, .int .i64 q'.t.y, .int .i64 q'.t.p, .int .i64 q'.a] t (0, 0)) := by
  match j, hj with
  | 0, _ => exact ⟨⟨⟨z, q.u.h, q.u.y, q.u.p⟩, ⟨q.t.s, q.t.h, q.t.y, q.t.p⟩, q.a⟩, by simpa using heap_setCell_same w g 0 _ t (.int .i64 z) h⟩
  | 1, _ => exact ⟨⟨⟨q.u.s, z, q.u.y, q.u.p⟩, ⟨q.t.s, q.t.h, q.t.y, q.t.p⟩, q.a⟩, by simpa using heap_setCell_same w g 1 _ t (.int .i64 z) h⟩
  | 2, _ => exact ⟨⟨⟨q.u.s, q.u.h, z, q.u.p⟩, ⟨q.t.s, q.t.h, q.t.y, q.t.p⟩, q.a⟩, by simpa using heap_setCell_same w g 2 _ t (.int .i64 z) h⟩
  | 3, _ => exact ⟨⟨⟨q.u.s, q.u.h, q.u.y, z⟩, ⟨q.t.s, q.t.h, q.t.y, q.t.p⟩, q.a⟩, by simpa using heap_setCell_same w g 3 _ t (.int .i64 z) h⟩
  | 4, _ => exact ⟨⟨⟨q.u.s, q.u.h, q.u.y, q.u.p⟩, ⟨z, q.t.h, q.t.y, q.t.p⟩, q.a⟩, by simpa using heap_setCell_same w g 4 _ t (.int .i64 z) h⟩
  | 5, _ => exact ⟨⟨⟨q.u.s, q.u.h, q.u.y, q.u.p⟩, ⟨q.t.s, z, q.t.y, q.t.p⟩, q.a⟩, by simpa using heap_setCell_same w g 5 _ t (.int .i64 z) h⟩
  | 6, _ => exact ⟨⟨⟨q.u.s, q.u.h, q.u.y, q.u.p⟩, ⟨q.t.s, q.t.h, z, q.t.p⟩, q.a⟩, by simpa using heap_setCell_same w g 6 _ t (.int .i64 z) h⟩
  | 7, _ => exact ⟨⟨⟨q.u.s, q.u.h, q.u.y, q.u.p⟩, ⟨q.t.s, q.t.h, q.t.y, z⟩, q.a⟩, by simpa using heap_setCell_same w g 7 _ t (.int .i64 z) h⟩
  | 8, _ => exact ⟨⟨⟨q.u.s, q.u.h, q.u.y, q.u.p⟩, ⟨q.t.s, q.t.h, q.t.y, q.t.p⟩, z⟩, by simpa using heap_setCell_same w g 8 _ t (.int .i64 z) h⟩

theorem ok600 : OkM ⟨⟨0, 0, 0, 0⟩, ⟨0, 0, 0, 0⟩, 600⟩ := by
  unfold OkM NearM OkP OkOff OkHead gapsM strokesM sideM highM swingM tiltM
  simp

set_option maxRecDepth 100000 in
set_option maxHeartbeats 16000000 in
theorem drawOk_any (w : World) (gs : Nat) (v : Value) (zs : List Int) (n : Nat) (lz : zs.length ≤ 1099511627776) (hn : n ≤ 1099500000000) (D : DSt w w gs v zs n) :
    Calls Try.prog 80 #[.pointer (some ⟨gs, 0, none⟩)] w fun e w' => ∃ m : Mc, OkM m ∧ e = .returned (.agg #[.int .i64 m.u.s, .int .i64 m.u.h, .int .i64 m.u.y, .int .i64 m.u.p, .int .i64 m.t.s, .int .i64 m.t.h, .int .i64 m.t.y, .int .i64 m.t.p, .int .i64 m.a]) ∧ w.grownBy w' (some gs) := by
  have gl := D.gl
  have D0 := Lib.hid (D.alloc (.cells #[.int .i64 0, .int .i64 0, .int .i64 0, .int .i64 0, .int .i64 0, .int .i64 0, .int .i64 0, .int .i64 0, .int .i64 0] 29))
  have R0 : Hid ((w.alloc (.cells #[.int .i64 0, .int .i64 0, .int .i64 0, .int .i64 0, .int .i64 0, .int .i64 0, .int .i64 0, .int .i64 0, .int .i64 0] 29)).heap[w.heap.size]? = some (.cells #[.int .i64 0, .int .i64 0, .int .i64 0, .int .i64 0, .int .i64 0, .int .i64 0, .int .i64 0, .int .i64 0, .int .i64 0] 29 (0, 0))) := heap_alloc_new _ _
  clear D
  go_enter Try.func80, Try.ntmps80
  go_wp2_with fail
  refine (drawPose_any _ gs v zs n lz (by omega) D0.out.own).mono ?_
  rintro e w1 ⟨qq, m1, rfl, l1, u1, d1⟩
  have D1 := Lib.hid (D0.out.with d1)
  have R1 := Lib.hid (D0.out.keep d1.gr (Nat.le_refl _) R0.out)
  clear d1 D0 R0
  have z1 : w.heap.size < w1.heap.size := (Array.getElem?_eq_some_iff.1 R1.out).1
  go_wp2_with fail
  generalize hW : World.alloc w1 _ = w2
  have D2 : Hid (DSt w w2 gs v zs m1) := by rw [← hW]; exact D1.out.alloc _
  have R2 : Hid (w2.heap[w.heap.size]? = some (.cells #[.int .i64 0, .int .i64 0, .int .i64 0, .int .i64 0, .int .i64 0, .int .i64 0, .int .i64 0, .int .i64 0, .int .i64 0] 29 (0, 0))) := by rw [← hW]; exact (Below.heap_alloc _ _ _ z1).trans R1.out
  obtain ⟨P, hP⟩ : ∃ P, P = w1.heap.size := ⟨_, rfl⟩
  have P2 : ∃ q : Mc, w2.heap[P]? = some (.cells #[.int .i64 q.u.s, .int .i64 q.u.h, .int .i64 q.u.y, .int .i64 q.u.p, .int .i64 q.t.s, .int .i64 q.t.h, .int .i64 q.t.y, .int .i64 q.t.p, .int .i64 q.a] 29 (0, 0)) := by rw [← hW, hP]; exact ⟨⟨⟨0, 0, 0, 0⟩, qq, 0⟩, heap_alloc_new _ _⟩
  have lP : w.heap.size < P := by omega
  rw [← hP]
  clear hW hP D1 R1 z1
  obtain ⟨q2, P2⟩ := P2
  refine (pick_any _ gs v zs m1 600 D2.out.src (by omega) lz (by omega) (by omega)).mono ?_
  rintro e w3 ⟨x, m3, rfl, -, -, -, l3, u3, s3, g3⟩
  have D3 := Lib.hid (D2.out.step s3 g3)
  have R3 := Lib.hid (D2.out.keep g3 (Nat.le_refl _) R2.out)
  have P3 := D2.out.keep g3 (by omega) P2
  have c3 := cell_of_row w3 P 8 _ _ _ P3
  have f3 := frozen_of_row w3 P 8 _ _ P3
  have PP := Lib.hid P3
  clear s3 g3 D2 R2 P2 P3
  go_wp2_with fail
  generalize hW : World.setCell w3 ⟨P, 8, none⟩ _ = w4
  have D4 : Hid (DSt w w4 gs v zs m3) := by rw [← hW]; exact D3.out.set P 8 (by omega) _
  have R4 : Hid (w4.heap[w.heap.size]? = some (.cells #[.int .i64 0, .int .i64 0, .int .i64 0, .int .i64 0, .int .i64 0, .int .i64 0, .int .i64 0, .int .i64 0, .int .i64 0] 29 (0, 0))) := by rw [← hW]; exact set_row (by omega) R3.out
  have P4 : ∃ q : Mc, w4.heap[P]? = some (.cells #[.int .i64 q.u.s, .int .i64 q.u.h, .int .i64 q.u.y, .int .i64 q.u.p, .int .i64 q.t.s, .int .i64 q.t.h, .int .i64 q.t.y, .int .i64 q.t.p, .int .i64 q.a] 29 (0, 0)) := by rw [← hW]; exact setMc PP.out 8 (by omega) _
  clear hW D3 R3 c3 f3 PP
  go_wp2_with fail
  obtain ⟨q4, P4⟩ := P4
  refine (one_any _ gs v zs m3 3 D4.out.src (by omega) lz (by omega) (by omega)).mono ?_
  rintro e w5 ⟨b5, m5, rfl, l5, u5, s5, g5⟩
  have D5 := Lib.hid (D4.out.step s5 g5)
  have R5 := Lib.hid (D4.out.keep g5 (Nat.le_refl _) R4.out)
  have P5 : ∃ q : Mc, w5.heap[P]? = some (.cells #[.int .i64 q.u.s, .int .i64 q.u.h, .int .i64 q.u.y, .int .i64 q.u.p, .int .i64 q.t.s, .int .i64 q.t.h, .int .i64 q.t.y, .int .i64 q.t.p, .int .i64 q.a] 29 (0, 0)) := ⟨_, D4.out.keep g5 (by omega) P4⟩
  clear s5 g5 D4 R4 P4
  go_upto_if 12 with (fail)
  go_cut [] (fun wx => ∃ q : Mc, wx.heap[P]? = some (.cells #[.int .i64 q.u.s, .int .i64 q.u.h, .int .i64 q.u.y, .int .i64 q.u.p, .int .i64 q.t.s, .int .i64 q.t.h, .int .i64 q.t.y, .int .i64 q.t.p, .int .i64 q.a] 29 (0, 0)) ∧ Hid (DSt w wx gs v zs m5) ∧ Hid (wx.heap[w.heap.size]? = some (.cells #[.int .i64 0, .int .i64 0, .int .i64 0, .int .i64 0, .int .i64 0, .int .i64 0, .int .i64 0, .int .i64 0, .int .i64 0] 29 (0, 0))))
  case first =>
    cases b5 with
    | true =>
      obtain ⟨q5, P5⟩ := P5
      have c5 := cell_of_row w5 P 8 _ _ _ P5
      have f5 := frozen_of_row w5 P 8 _ _ P5
      have PP := Lib.hid P5
      clear P5
      go_wp2_with fail
      generalize hW : World.setCell w5 ⟨P, 8, none⟩ _ = w6
      have D6 : Hid (DSt w w6 gs v zs m5) := by rw [← hW]; exact D5.out.set P 8 (by omega) _
      have R6 : Hid (w6.heap[w.heap.size]? = some (.cells #[.int .i64 0, .int .i64 0, .int .i64 0, .int .i64 0, .int .i64 0, .int .i64 0, .int .i64 0, .int .i64 0, .int .i64 0] 29 (0, 0))) := by rw [← hW]; exact set_row (by omega) R5.out
      have P6 : ∃ q : Mc, w6.heap[P]? = some (.cells #[.int .i64 q.u.s, .int .i64 q.u.h, .int .i64 q.u.y, .int .i64 q.u.p, .int .i64 q.t.s, .int .i64 q.t.h, .int .i64 q.t.y, .int .i64 q.t.p, .int .i64 q.a] 29 (0, 0)) := by rw [← hW]; exact setMc PP.out 8 (by omega) _
      clear hW D5 R5 c5 f5 PP
      go_wp2_with fail
      go_meet
      obtain ⟨qm, Pm⟩ := P6
      exact ⟨qm, Pm, D6, R6⟩
    | false =>
      go_wp2_with fail
      go_meet
      obtain ⟨qm, Pm⟩ := P5
      exact ⟨qm, Pm, D5, R5⟩
  case rest =>
    clear D5 R5 P5
    obtain ⟨w6, hwc⟩ : ∃ x, x = wc := ⟨_, rfl⟩
    rw [← hwc] at hcut ⊢; clear hwc
    obtain ⟨qc, Pc, D6, R6⟩ := hcut
    have P6 : ∃ q : Mc, w6.heap[P]? = some (.cells #[.int .i64 q.u.s, .int .i64 q.u.h, .int .i64 q.u.y, .int .i64 q.u.p, .int .i64 q.t.s, .int .i64 q.t.h, .int .i64 q.t.y, .int .i64 q.t.p, .int .i64 q.a] 29 (0, 0)) := ⟨qc, Pc⟩
    clear Pc
    go_wp2_with fail
    obtain ⟨q6, P6⟩ := P6
    have K0 : w6.drew.cell? ⟨P, 6, none⟩ = some (.int .i64 q6.t.y) := cell_of_row w6 P 6 _ _ _ P6
    go_region_held3 (fun w' => (w'.cell? ⟨P, 6, none⟩ = some (.int .i64 q6.t.y)))
      (first | exact K0 | exact K1 | exact (World.cell?_setCell_other _ _ _ _ (by simp)).trans K1)
      ((go_at_call 122; refine (pick_any _ gs v zs m5 9 D6.out.drew.src (by omega) lz (by omega) (by omega)).mono ?_; rintro e w7 ⟨x, m7, rfl, -, -, -, l7, u7, s7, g7⟩; have D7 := Lib.hid (D6.out.drew.step s7 g7); have R7 := Lib.hid (D6.out.drew.keep g7 (Nat.le_refl _) R6.out); have P7 := D6.out.drew.keep g7 (by omega) P6; have c7 := cell_of_row w7 P 2 _ _ _ P7; have f7 := frozen_of_row w7 P 2 _ _ P7; have PP := Lib.hid P7; have K1 : w7.cell? ⟨P, 6, none⟩ = some (.int .i64 q6.t.y) := cell_of_row w7 P 6 _ _ _ P7; clear s7 g7))
    clear K0 K1 D6 R6 P6 P7
    go_wp2_with fail
    generalize hW : World.setCell w7 ⟨P, 2, none⟩ _ = w8
    have D8 : Hid (DSt w w8 gs v zs m7) := by rw [← hW]; exact D7.out.set P 2 (by omega) _
    have R8 : Hid (w8.heap[w.heap.size]? = some (.cells #[.int .i64 0, .int .i64 0, .int .i64 0, .int .i64 0, .int .i64 0, .int .i64 0, .int .i64 0, .int .i64 0, .int .i64 0] 29 (0, 0))) := by rw [← hW]; exact set_row (by omega) R7.out
    have P8 : ∃ q : Mc, w8.heap[P]? = some (.cells #[.int .i64 q.u.s, .int .i64 q.u.h, .int .i64 q.u.y, .int .i64 q.u.p, .int .i64 q.t.s, .int .i64 q.t.h, .int .i64 q.t.y, .int .i64 q.t.p, .int .i64 q.a] 29 (0, 0)) := by rw [← hW]; exact setMc PP.out 2 (by omega) _
    clear hW D7 R7 c7 f7 PP
    go_wp2_with fail
    obtain ⟨q8, P8⟩ := P8
    have K0 : w8.drew.cell? ⟨P, 7, none⟩ = some (.int .i64 q8.t.p) := cell_of_row w8 P 7 _ _ _ P8
    go_region_held3 (fun w' => (w'.cell? ⟨P, 7, none⟩ = some (.int .i64 q8.t.p)))
      (first | exact K0 | exact K1 | exact (World.cell?_setCell_other _ _ _ _ (by simp)).trans K1)
      ((go_at_call 122; refine (pick_any _ gs v zs m7 9 D8.out.drew.src (by omega) lz (by omega) (by omega)).mono ?_; rintro e w9 ⟨x, m9, rfl, -, -, -, l9, u9, s9, g9⟩; have D9 := Lib.hid (D8.out.drew.step s9 g9); have R9 := Lib.hid (D8.out.drew.keep g9 (Nat.le_refl _) R8.out); have P9 := D8.out.drew.keep g9 (by omega) P8; have c9 := cell_of_row w9 P 3 _ _ _ P9; have f9 := frozen_of_row w9 P 3 _ _ P9; have PP := Lib.hid P9; have K1 : w9.cell? ⟨P, 7, none⟩ = some (.int .i64 q8.t.p) := cell_of_row w9 P 7 _ _ _ P9; clear s9 g9))
    clear K0 K1 D8 R8 P8 P9
    go_wp2_with fail
    generalize hW : World.setCell w9 ⟨P, 3, none⟩ _ = w10
    have D10 : Hid (DSt w w10 gs v zs m9) := by rw [← hW]; exact D9.out.set P 3 (by omega) _
    have R10 : Hid (w10.heap[w.heap.size]? = some (.cells #[.int .i64 0, .int .i64 0, .int .i64 0, .int .i64 0, .int .i64 0, .int .i64 0, .int .i64 0, .int .i64 0, .int .i64 0] 29 (0, 0))) := by rw [← hW]; exact set_row (by omega) R9.out
    have P10 : ∃ q : Mc, w10.heap[P]? = some (.cells #[.int .i64 q.u.s, .int .i64 q.u.h, .int .i64 q.u.y, .int .i64 q.u.p, .int .i64 q.t.s, .int .i64 q.t.h, .int .i64 q.t.y, .int .i64 q.t.p, .int .i64 q.a] 29 (0, 0)) := by rw [← hW]; exact setMc PP.out 3 (by omega) _
    clear hW D9 R9 c9 f9 PP
    go_wp2_with fail
    obtain ⟨q10, P10⟩ := P10
    have K0 : w10.drew.cell? ⟨P, 4, none⟩ = some (.int .i64 q10.t.s) ∧ w10.drew.cell? ⟨P, 2, none⟩ = some (.int .i64 q10.u.y) := ⟨cell_of_row w10 P 4 _ _ _ P10, cell_of_row w10 P 2 _ _ _ P10⟩
    go_region_held3 (fun w' => (w'.cell? ⟨P, 4, none⟩ = some (.int .i64 q10.t.s) ∧ w'.cell? ⟨P, 2, none⟩ = some (.int .i64 q10.u.y)))
      (first | exact K0 | exact K1 | exact ⟨(World.cell?_setCell_other _ _ _ _ (by simp)).trans K1.1, (World.cell?_setCell_other _ _ _ _ (by simp)).trans K1.2⟩)
      ((go_at_call 122; refine (pick_any _ gs v zs m9 61 D10.out.drew.src (by omega) lz (by omega) (by omega)).mono ?_; rintro e w11 ⟨x, m11, rfl, -, -, -, l11, u11, s11, g11⟩; have D11 := Lib.hid (D10.out.drew.step s11 g11); have R11 := Lib.hid (D10.out.drew.keep g11 (Nat.le_refl _) R10.out); have P11 := D10.out.drew.keep g11 (by omega) P10; have c11 := cell_of_row w11 P 0 _ _ _ P11; have f11 := frozen_of_row w11 P 0 _ _ P11; have PP := Lib.hid P11; have K1 : w11.cell? ⟨P, 4, none⟩ = some (.int .i64 q10.t.s) ∧ w11.cell? ⟨P, 2, none⟩ = some (.int .i64 q10.u.y) := ⟨cell_of_row w11 P 4 _ _ _ P11, cell_of_row w11 P 2 _ _ _ P11⟩; clear s11 g11))
    clear K0 K1 D10 R10 P10 P11
    go_wp2_with fail
    generalize hW : World.setCell w11 ⟨P, 0, none⟩ _ = w12
    have D12 : Hid (DSt w w12 gs v zs m11) := by rw [← hW]; exact D11.out.set P 0 (by omega) _
    have R12 : Hid (w12.heap[w.heap.size]? = some (.cells #[.int .i64 0, .int .i64 0, .int .i64 0, .int .i64 0, .int .i64 0, .int .i64 0, .int .i64 0, .int .i64 0, .int .i64 0] 29 (0, 0))) := by rw [← hW]; exact set_row (by omega) R11.out
    have P12 : ∃ q : Mc, w12.heap[P]? = some (.cells #[.int .i64 q.u.s, .int .i64 q.u.h, .int .i64 q.u.y, .int .i64 q.u.p, .int .i64 q.t.s, .int .i64 q.t.h, .int .i64 q.t.y, .int .i64 q.t.p, .int .i64 q.a] 29 (0, 0)) := by rw [← hW]; exact setMc PP.out 0 (by omega) _
    clear hW D11 R11 c11 f11 PP
    go_wp2_with fail
    obtain ⟨q12, P12⟩ := P12
    have K0 : w12.drew.cell? ⟨P, 5, none⟩ = some (.int .i64 q12.t.h) ∧ w12.drew.cell? ⟨P, 3, none⟩ = some (.int .i64 q12.u.p) := ⟨cell_of_row w12 P 5 _ _ _ P12, cell_of_row w12 P 3 _ _ _ P12⟩
    go_region_held3 (fun w' => (w'.cell? ⟨P, 5, none⟩ = some (.int .i64 q12.t.h) ∧ w'.cell? ⟨P, 3, none⟩ = some (.int .i64 q12.u.p)))
      (first | exact K0 | exact K1 | exact ⟨(World.cell?_setCell_other _ _ _ _ (by simp)).trans K1.1, (World.cell?_setCell_other _ _ _ _ (by simp)).trans K1.2⟩)
      ((go_at_call 122; refine (pick_any _ gs v zs m11 61 D12.out.drew.src (by omega) lz (by omega) (by omega)).mono ?_; rintro e w13 ⟨x, m13, rfl, -, -, -, l13, u13, s13, g13⟩; have D13 := Lib.hid (D12.out.drew.step s13 g13); have R13 := Lib.hid (D12.out.drew.keep g13 (Nat.le_refl _) R12.out); have P13 := D12.out.drew.keep g13 (by omega) P12; have c13 := cell_of_row w13 P 1 _ _ _ P13; have f13 := frozen_of_row w13 P 1 _ _ P13; have PP := Lib.hid P13; have K1 : w13.cell? ⟨P, 5, none⟩ = some (.int .i64 q12.t.h) ∧ w13.cell? ⟨P, 3, none⟩ = some (.int .i64 q12.u.p) := ⟨cell_of_row w13 P 5 _ _ _ P13, cell_of_row w13 P 3 _ _ _ P13⟩; clear s13 g13))
    clear K0 K1 D12 R12 P12 P13
    go_wp2_with fail
    generalize hW : World.setCell w13 ⟨P, 1, none⟩ _ = w14
    have D14 : Hid (DSt w w14 gs v zs m13) := by rw [← hW]; exact D13.out.set P 1 (by omega) _
    have R14 : Hid (w14.heap[w.heap.size]? = some (.cells #[.int .i64 0, .int .i64 0, .int .i64 0, .int .i64 0, .int .i64 0, .int .i64 0, .int .i64 0, .int .i64 0, .int .i64 0] 29 (0, 0))) := by rw [← hW]; exact set_row (by omega) R13.out
    have P14 : ∃ q : Mc, w14.heap[P]? = some (.cells #[.int .i64 q.u.s, .int .i64 q.u.h, .int .i64 q.u.y, .int .i64 q.u.p, .int .i64 q.t.s, .int .i64 q.t.h, .int .i64 q.t.y, .int .i64 q.t.p, .int .i64 q.a] 29 (0, 0)) := by rw [← hW]; exact setMc PP.out 1 (by omega) _
    clear hW D13 R13 c13 f13 PP
    go_wp2_with fail
    obtain ⟨q14, P14⟩ := P14
    refine (one_any _ gs v zs m13 10 D14.out.src (by omega) lz (by omega) (by omega)).mono ?_
    rintro e w15 ⟨b15, m15, rfl, l15, u15, s15, g15⟩
    have D15 := Lib.hid (D14.out.step s15 g15)
    have R15 := Lib.hid (D14.out.keep g15 (Nat.le_refl _) R14.out)
    have P15 : ∃ q : Mc, w15.heap[P]? = some (.cells #[.int .i64 q.u.s, .int .i64 q.u.h, .int .i64 q.u.y, .int .i64 q.u.p, .int .i64 q.t.s, .int .i64 q.t.h, .int .i64 q.t.y, .int .i64 q.t.p, .int .i64 q.a] 29 (0, 0)) := ⟨_, D14.out.keep g15 (by omega) P14⟩
    clear s15 g15 D14 R14 P14
    go_upto_if 64 with (fail)
    go_cut [] (fun wx => ∃ q : Mc, wx.heap[P]? = some (.cells #[.int .i64 q.u.s, .int .i64 q.u.h, .int .i64 q.u.y, .int .i64 q.u.p, .int .i64 q.t.s, .int .i64 q.t.h, .int .i64 q.t.y, .int .i64 q.t.p, .int .i64 q.a] 29 (0, 0)) ∧ Hid (w.grownBy wx (some gs)) ∧ Hid (wx.heap[w.heap.size]? = some (.cells #[.int .i64 0, .int .i64 0, .int .i64 0, .int .i64 0, .int .i64 0, .int .i64 0, .int .i64 0, .int .i64 0, .int .i64 0] 29 (0, 0))))
    case first =>
      cases b15 with
      | true =>
        go_wp2_with fail
        obtain ⟨q15, P15⟩ := P15
        have k0 := cell_of_row w15 P 0 _ _ _ P15
        have zc : gs < w15.heap.size := by have := D15.out.size; omega
        have pl : P < w15.heap.size := (Array.getElem?_eq_some_iff.1 P15).1
        have pn : ¬ P = w15.heap.size := by omega
        have rl : w.heap.size < w15.heap.size := by omega
        have Q15 : Hid _ := Lib.hid (ownI_lit w15 [(-10), 10] (by simp)).rd
        go_region_law ((go_simp; go_at_call 124; refine (among_any _ gs v zs m15 _ 2 2 [(-10), 10] (D15.out.alloc _).drew.src (by omega) lz rfl (by omega) (by omega) Q15.out (by intro b o e; cases e; omega)).mono ?_; rintro e w16 ⟨x, m16, rfl, l16, u16, s16, g16⟩; have D16 := Lib.hid ((D15.out.alloc _).drew.step s16 g16); have R16 := Lib.hid ((D15.out.alloc _).drew.keep g16 (Nat.le_refl _) ((Below.heap_alloc _ _ _ rl).trans R15.out)); have P16 := (D15.out.alloc _).drew.keep g16 (by omega) ((Below.heap_alloc _ _ _ pl).trans P15); have c16 := cell_of_row w16 P 0 _ _ _ P16; have f16 := frozen_of_row w16 P 0 _ _ P16; have PP := Lib.hid P16; clear s16 g16))
        all_goals
          clear D15 R15 P15 P16 k0 Q15
          go_wp2_with fail
          generalize hW : World.setCell w16 ⟨P, 0, none⟩ _ = w17
          have D17 : Hid (DSt w w17 gs v zs m16) := by rw [← hW]; exact D16.out.set P 0 (by omega) _
          have R17 : Hid (w17.heap[w.heap.size]? = some (.cells #[.int .i64 0, .int .i64 0, .int .i64 0, .int .i64 0, .int .i64 0, .int .i64 0, .int .i64 0, .int .i64 0, .int .i64 0] 29 (0, 0))) := by rw [← hW]; exact set_row (by omega) R16.out
          have P17 : ∃ q : Mc, w17.heap[P]? = some (.cells #[.int .i64 q.u.s, .int .i64 q.u.h, .int .i64 q.u.y, .int .i64 q.u.p, .int .i64 q.t.s, .int .i64 q.t.h, .int .i64 q.t.y, .int .i64 q.t.p, .int .i64 q.a] 29 (0, 0)) := by rw [← hW]; exact setMc PP.out 0 (by omega) _
          clear hW D16 R16 c16 f16 PP
          go_wp2_with fail
          go_meet
          obtain ⟨qm, Pm⟩ := P17
          exact ⟨qm, Pm, Lib.hid D17.out.gr, R17⟩
      | false =>
        go_wp2_with fail
        go_meet
        obtain ⟨qm, Pm⟩ := P15
        exact ⟨qm, Pm, Lib.hid D15.out.gr, R15⟩
    case rest =>
      obtain ⟨qf, Pf, GR, RR⟩ := hcut
      clear D15 R15 P15
      obtain ⟨bb, hbb⟩ := okM_dec qf
      have HBB := Lib.hid hbb
      have CI := Lib.hid (l04Is_any P 29 qf bb hbb _ Pf)
      clear hbb
      go_wp2_with fail
      refine CI.out.mono ?_
      rintro e wI ⟨rfl, bI⟩
      have PI := Lib.hid ((bI.block P (Array.getElem?_eq_some_iff.1 Pf).1).trans Pf)
      have RI := Lib.hid ((bI.block w.heap.size (Array.getElem?_eq_some_iff.1 RR.out).1).trans RR.out)
      have GI : Hid (w.grownBy wI (some gs)) := grownBy_trans' GR.out ⟨bI.os, bI.tape, bI.output, bI.size, fun k hk _ => bI.block k hk⟩
      clear bI Pf CI GR RR
      cases bb with
      | true =>
        have OKF := Lib.hid (HBB.out.mp rfl)
        clear HBB
        obtain ⟨⟨k0, k1, k2, k3, k4, k5, k6, k7, k8⟩, -, -⟩ := boxMc_at (q := qf) PI.out
        go_wp2_with (first | (refine wpList_store_M rfl _ _ rfl (w.heap.size) (⟨⟨0, 0, 0, 0⟩, ⟨0, 0, 0, 0⟩, 0⟩ : Mc) qf _ rfl rfl RI.out ?_; intro wE hE oE bE) | fail)
        have PE := Lib.hid hE
        have GE : Hid (w.grownBy wE (some gs)) := ⟨bE.os.trans GI.out.os, bE.tape.trans GI.out.tape, bE.output.trans GI.out.output, Nat.le_trans GI.out.size bE.size, fun k hk hne => (oE k (by omega)).trans (GI.out.block k hk hne)⟩
        clear hE oE bE k0 k1 k2 k3 k4 k5 k6 k7 k8
        obtain ⟨⟨g0, g1, g2, g3, g4, g5, g6, g7, g8⟩, -, -⟩ := boxMc_at (q := qf) PE.out
        go_wp2
        refine bodyPost_ret (v := (.agg #[.int .i64 qf.u.s, .int .i64 qf.u.h, .int .i64 qf.u.y, .int .i64 qf.u.p, .int .i64 qf.t.s, .int .i64 qf.t.h, .int .i64 qf.t.y, .int .i64 qf.t.p, .int .i64 qf.a])) (by simp [results, Try.results80, go_sem, g0, g1, g2, g3, g4, g5, g6, g7, g8]; try rfl) rfl ⟨qf, OKF.out, rfl, GE.out⟩
      | false =>
        obtain ⟨M6, hM6⟩ : ∃ m : Mc, m = (⟨⟨0, 0, 0, 0⟩, ⟨0, 0, 0, 0⟩, 600⟩ : Mc) := ⟨_, rfl⟩
        go_wp2_with (first | (refine wpList_store_M rfl _ _ rfl P qf (⟨⟨0, 0, 0, 0⟩, ⟨0, 0, 0, 0⟩, 600⟩ : Mc) _ rfl rfl PI.out ?_; intro wE hE oE bE; obtain ⟨⟨k0, k1, k2, k3, k4, k5, k6, k7, k8⟩, -, -⟩ := boxMc_at (q := (⟨⟨0, 0, 0, 0⟩, ⟨0, 0, 0, 0⟩, 600⟩ : Mc)) hE; dsimp only at k0 k1 k2 k3 k4 k5 k6 k7 k8; have RE := Lib.hid ((oE w.heap.size (by omega)).trans RI.out)) | (refine wpList_store_M rfl _ _ rfl (w.heap.size) (⟨⟨0, 0, 0, 0⟩, ⟨0, 0, 0, 0⟩, 0⟩ : Mc) (⟨⟨0, 0, 0, 0⟩, ⟨0, 0, 0, 0⟩, 600⟩ : Mc) _ rfl rfl RE.out ?_; intro wF hF oF bF) | fail)
        have PF := Lib.hid hF
        have GF : Hid (w.grownBy wF (some gs)) := ⟨(bF.os.trans bE.os).trans GI.out.os, (bF.tape.trans bE.tape).trans GI.out.tape, (bF.output.trans bE.output).trans GI.out.output, Nat.le_trans GI.out.size (Nat.le_trans bE.size bF.size), fun k hk hne => ((oF k (by omega)).trans (oE k (by omega))).trans (GI.out.block k hk hne)⟩
        clear hE oE bE hF oF bF k0 k1 k2 k3 k4 k5 k6 k7 k8
        obtain ⟨⟨g0, g1, g2, g3, g4, g5, g6, g7, g8⟩, -, -⟩ := boxMc_at (q := (⟨⟨0, 0, 0, 0⟩, ⟨0, 0, 0, 0⟩, 600⟩ : Mc)) PF.out
        dsimp only at g0 g1 g2 g3 g4 g5 g6 g7 g8
        go_wp2
        refine bodyPost_ret (v := .agg #[.int .i64 0, .int .i64 0, .int .i64 0, .int .i64 0, .int .i64 0, .int .i64 0, .int .i64 0, .int .i64 0, .int .i64 600]) (by simp [results, Try.results80, go_sem, g0, g1, g2, g3, g4, g5, g6, g7, g8]; try rfl) rfl ⟨(⟨⟨0, 0, 0, 0⟩, ⟨0, 0, 0, 0⟩, 600⟩ : Mc), ok600, rfl, GF.out⟩
end Go.Proofs.Ytjapgbeecabkfaa
