/- Texts of poses, on both sides. (Written by tools/mkmacht.py.) -/
import Derived.Test.YthhnnkgfnhggbabDoorDec2
import Derived.Test.YthhnnkgfnhggbabDoorJoin
import Derived.Test.YthhnnkgfnhggbabDoorPoses
import Derived.Deep.RegionHeld3
namespace Go.Proofs.YthhnnkgfnhggbabDoor
open Go.ChangeShapes Go.WideShapes Go.ChangeAt Go.RowKit
set_option linter.unusedVariables false
set_option linter.unusedSimpArgs false

/-- The text of a pose. -/
def textP (x : Ps) : List UInt8 := Lib.itoa x.s ++ [44] ++ Lib.itoa x.h ++ [44] ++ Lib.itoa x.y ++ [44] ++ Lib.itoa x.p
theorem textP_eq (x : Ps) : (⟨(textP x).toArray⟩ : ByteArray) = (⟨(Lib.itoa x.s).toArray⟩ : ByteArray) ++ (⟨#[44]⟩ : ByteArray) ++ (⟨(Lib.itoa x.h).toArray⟩ : ByteArray) ++ (⟨#[44]⟩ : ByteArray) ++ (⟨(Lib.itoa x.y).toArray⟩ : ByteArray) ++ (⟨#[44]⟩ : ByteArray) ++ (⟨(Lib.itoa x.p).toArray⟩ : ByteArray) := by
  have e0 : (⟨#[44]⟩ : ByteArray) = ⟨([44] : List UInt8).toArray⟩ := rfl
  rw [e0, str_app, str_app, str_app, str_app, str_app, str_app]
  rfl
def I64 (x : Int) : Prop := -9223372036854775808 ≤ x ∧ x ≤ 9223372036854775807
theorem textP_len {x : Ps} (h : I64 x.s ∧ I64 x.h ∧ I64 x.y ∧ I64 x.p) : (textP x).length ≤ 90 := by
  have a := Lib.itoa_length_le x.s h.1.1 h.1.2
  have b := Lib.itoa_length_le x.h h.2.1.1 h.2.1.2
  have c := Lib.itoa_length_le x.y h.2.2.1.1 h.2.2.1.2
  have d := Lib.itoa_length_le x.p h.2.2.2.1 h.2.2.2.2
  simp only [textP, List.length_append, List.length_cons, List.length_nil]
  omega
theorem cell_boxPs {w w' : World} {x : Ps} {t : TypeId} (b : Below (w.heap.size + 1) (w.alloc (.cells #[.int .i64 x.s, .int .i64 x.h, .int .i64 x.y, .int .i64 x.p] t)) w') : w'.cell? ⟨w.heap.size, 0, none⟩ = some (.int .i64 x.s) ∧ w'.cell? ⟨w.heap.size, 1, none⟩ = some (.int .i64 x.h) ∧ w'.cell? ⟨w.heap.size, 2, none⟩ = some (.int .i64 x.y) ∧ w'.cell? ⟨w.heap.size, 3, none⟩ = some (.int .i64 x.p) := by
  obtain ⟨⟨k0, k1, k2, k3⟩, -⟩ := boxPs_at ((b.block _ (by omega)).trans (heap_alloc_new w _))
  exact ⟨k0, k1, k2, k3⟩
theorem textP_join (x : Ps) : joinTo [44] [x.s, x.h, x.y, x.p] 4 = textP x := by
  simp [joinTo, textP, List.getD, List.append_assoc]

set_option maxRecDepth 100000 in
set_option maxHeartbeats 8000000 in
theorem l04PoseText_any (x : Ps) (h : I64 x.s ∧ I64 x.h ∧ I64 x.y ∧ I64 x.p) (w : World) :
    Calls Tryd.prog 131 #[(.agg #[.int .i64 x.s, .int .i64 x.h, .int .i64 x.y, .int .i64 x.p])] w fun e w' => e = .returned (.string ⟨(textP x).toArray⟩) ∧ Below w.heap.size w w' := by
  have ls := Lib.itoa_length_le x.s h.1.1 h.1.2
  have CA := Lib.hid (fun w => l01Dec_any x.s h.1.1 h.1.2 w)
  have lh := Lib.itoa_length_le x.h h.2.1.1 h.2.1.2
  have CB := Lib.hid (fun w => l01Dec_any x.h h.2.1.1 h.2.1.2 w)
  have ly := Lib.itoa_length_le x.y h.2.2.1.1 h.2.2.1.2
  have CC := Lib.hid (fun w => l01Dec_any x.y h.2.2.1.1 h.2.2.1.2 w)
  have lp := Lib.itoa_length_le x.p h.2.2.2.1 h.2.2.2.2
  have CD := Lib.hid (fun w => l01Dec_any x.p h.2.2.2.1 h.2.2.2.2 w)
  rw [textP_eq]
  obtain ⟨A, hA⟩ : ∃ A : ByteArray, A = ⟨(Lib.itoa x.s).toArray⟩ := ⟨_, rfl⟩
  have sA : A.size ≤ 21 := by rw [hA]; exact ls
  obtain ⟨B, hB⟩ : ∃ A : ByteArray, A = ⟨(Lib.itoa x.h).toArray⟩ := ⟨_, rfl⟩
  have sB : B.size ≤ 21 := by rw [hB]; exact lh
  obtain ⟨C, hC⟩ : ∃ A : ByteArray, A = ⟨(Lib.itoa x.y).toArray⟩ := ⟨_, rfl⟩
  have sC : C.size ≤ 21 := by rw [hC]; exact ly
  obtain ⟨D, hD⟩ : ∃ A : ByteArray, A = ⟨(Lib.itoa x.p).toArray⟩ := ⟨_, rfl⟩
  have sD : D.size ≤ 21 := by rw [hD]; exact lp
  rw [← hA, ← hB, ← hC, ← hD]
  rw [← hA] at CA
  rw [← hB] at CB
  rw [← hC] at CC
  rw [← hD] at CD
  have s2 : (A ++ (⟨#[44]⟩ : ByteArray)).size = A.size + 1 := by rw [ByteArray.size_append]; rfl
  have sk2 : ¬ 9223372036854775807 < A.size + 1 := by omega
  have s3 : (A ++ (⟨#[44]⟩ : ByteArray) ++ B).size = A.size + 1 + B.size := by rw [ByteArray.size_append, s2]
  have sk3 : ¬ 9223372036854775807 < A.size + 1 + B.size := by omega
  have s4 : (A ++ (⟨#[44]⟩ : ByteArray) ++ B ++ (⟨#[44]⟩ : ByteArray)).size = A.size + 1 + B.size + 1 := by rw [ByteArray.size_append, s3]; rfl
  have sk4 : ¬ 9223372036854775807 < A.size + 1 + B.size + 1 := by omega
  have s5 : (A ++ (⟨#[44]⟩ : ByteArray) ++ B ++ (⟨#[44]⟩ : ByteArray) ++ C).size = A.size + 1 + B.size + 1 + C.size := by rw [ByteArray.size_append, s4]
  have sk5 : ¬ 9223372036854775807 < A.size + 1 + B.size + 1 + C.size := by omega
  have s6 : (A ++ (⟨#[44]⟩ : ByteArray) ++ B ++ (⟨#[44]⟩ : ByteArray) ++ C ++ (⟨#[44]⟩ : ByteArray)).size = A.size + 1 + B.size + 1 + C.size + 1 := by rw [ByteArray.size_append, s5]; rfl
  have sk6 : ¬ 9223372036854775807 < A.size + 1 + B.size + 1 + C.size + 1 := by omega
  have sk7 : ¬ 9223372036854775807 < A.size + 1 + B.size + 1 + C.size + 1 + D.size := by omega
  have KS : Hid (∀ w', Below (w.heap.size + 1) (w.alloc (.cells #[.int .i64 x.s, .int .i64 x.h, .int .i64 x.y, .int .i64 x.p] 33)) w' → (w'.cell? ⟨w.heap.size, 0, none⟩ = some (.int .i64 x.s) ∧ w'.cell? ⟨w.heap.size, 1, none⟩ = some (.int .i64 x.h) ∧ w'.cell? ⟨w.heap.size, 2, none⟩ = some (.int .i64 x.y) ∧ w'.cell? ⟨w.heap.size, 3, none⟩ = some (.int .i64 x.p))) := fun w' b => cell_boxPs b
  clear hA hB hC hD ls lh ly lp h
  go_enter Tryd.func131, Tryd.ntmps131
  go_wp2_with fail
  go_region_held3 (fun w' => (w'.cell? ⟨w.heap.size, 0, none⟩ = some (.int .i64 x.s) ∧ w'.cell? ⟨w.heap.size, 1, none⟩ = some (.int .i64 x.h) ∧ w'.cell? ⟨w.heap.size, 2, none⟩ = some (.int .i64 x.y) ∧ w'.cell? ⟨w.heap.size, 3, none⟩ = some (.int .i64 x.p)))
    (first | exact KS.out _ D4.out | exact KS.out _ D3.out | exact KS.out _ D2.out | exact KS.out _ D1.out | exact KS.out _ (Below.refl _ _).drew)
    (first
      | (go_at_call 115; (with_reducible refine (CA.out _).mono ?_); rintro e w1 ⟨rfl, b1⟩; have D1 : Hid (Below (w.heap.size + 1) (w.alloc (.cells #[.int .i64 x.s, .int .i64 x.h, .int .i64 x.y, .int .i64 x.p] 33)) w1) := (Below.refl _ _).drew.trans (b1.mono (by simp)))
      | (go_at_call 115; (with_reducible refine (CB.out _).mono ?_); rintro e w2 ⟨rfl, b2⟩; have D2 : Hid (Below (w.heap.size + 1) (w.alloc (.cells #[.int .i64 x.s, .int .i64 x.h, .int .i64 x.y, .int .i64 x.p] 33)) w2) := D1.out.trans (b2.mono (by have e := D1.out.size; simp only [World.size_alloc] at e; exact e)))
      | (go_at_call 115; (with_reducible refine (CC.out _).mono ?_); rintro e w3 ⟨rfl, b3⟩; have D3 : Hid (Below (w.heap.size + 1) (w.alloc (.cells #[.int .i64 x.s, .int .i64 x.h, .int .i64 x.y, .int .i64 x.p] 33)) w3) := D2.out.trans (b3.mono (by have e := D2.out.size; simp only [World.size_alloc] at e; exact e)))
      | (go_at_call 115; (with_reducible refine (CD.out _).mono ?_); rintro e w4 ⟨rfl, b4⟩; have D4 : Hid (Below (w.heap.size + 1) (w.alloc (.cells #[.int .i64 x.s, .int .i64 x.h, .int .i64 x.y, .int .i64 x.p] 33)) w4) := D3.out.trans (b4.mono (by have e := D3.out.size; simp only [World.size_alloc] at e; exact e))))
  have BE : Hid (Below w.heap.size w w4) := Below.trans (by go_grown) (D4.out.mono (by omega))
  go_wp2
  go_ret
  exact ⟨rfl, BE.out⟩

set_option maxRecDepth 100000 in
set_option maxHeartbeats 8000000 in
theorem poseText_any (x : Ps) (h : I64 x.s ∧ I64 x.h ∧ I64 x.y ∧ I64 x.p) (w : World) (hT : TDec w) :
    Calls Tryd.prog 81 #[(.agg #[.int .i64 x.s, .int .i64 x.h, .int .i64 x.y, .int .i64 x.p])] w fun e w' => e = .returned (.string ⟨(textP x).toArray⟩) ∧ Below w.heap.size w w' := by
  have HX : ∀ y ∈ [x.s, x.h, x.y, x.p], -9223372036854775808 ≤ y ∧ y ≤ 9223372036854775807 := by
    intro y hy
    simp only [List.mem_cons, List.mem_nil_iff, or_false] at hy
    rcases hy with rfl | rfl | rfl | rfl
    · exact h.1
    · exact h.2.1
    · exact h.2.2.1
    · exact h.2.2.2
  have CJ := Lib.hid (fun w a cap (hr : RdI w (.slice a 4 cap) [x.s, x.h, x.y, x.p]) hT => joinInts_any _ [x.s, x.h, x.y, x.p] [44] (by simp) w hr (by simp) HX hT)
  rw [show [x.s, x.h, x.y, x.p].length = 4 from rfl, textP_join] at CJ
  have HT := Lib.hid hT
  have RR : Hid (RdI ((w.alloc (.cells #[.int .i64 x.s, .int .i64 x.h, .int .i64 x.y, .int .i64 x.p] 33)).alloc (.cells #[.int .i64 x.s, .int .i64 x.h, .int .i64 x.y, .int .i64 x.p] 2)) (.slice (some ⟨w.heap.size + 1, 0, none⟩) 4 4) [x.s, x.h, x.y, x.p]) := by
    have hN := heap_alloc2_new w (.cells #[.int .i64 x.s, .int .i64 x.h, .int .i64 x.y, .int .i64 x.p] 33) (.cells #[.int .i64 x.s, .int .i64 x.h, .int .i64 x.y, .int .i64 x.p] 2)
    refine ⟨_, _, rfl, .inr ⟨_, _, rfl, ?_⟩⟩
    intro i z hz
    match i, hz with
    | 0, hz => cases hz; exact cell_of_row _ _ 0 _ _ _ hN
    | 1, hz => cases hz; exact cell_of_row _ _ 1 _ _ _ hN
    | 2, hz => cases hz; exact cell_of_row _ _ 2 _ _ _ hN
    | 3, hz => cases hz; exact cell_of_row _ _ 3 _ _ _ hN
  have B3 : Hid (Below w.heap.size w ((w.alloc (.cells #[.int .i64 x.s, .int .i64 x.h, .int .i64 x.y, .int .i64 x.p] 33)).alloc (.cells #[.int .i64 x.s, .int .i64 x.h, .int .i64 x.y, .int .i64 x.p] 2))) := by show Below _ _ _; go_grown
  clear HX h hT
  go_enter Tryd.func81, Tryd.ntmps81
  go_wp2_with fail
  refine (CJ.out _ _ _ RR.out (HT.out.later B3.out)).mono ?_
  rintro e u4 ⟨rfl, b4⟩
  have B4 : Hid (Below w.heap.size w u4) := B3.out.trans (b4.mono B3.out.size)
  clear b4 RR B3 CJ
  go_wp2
  go_ret
  exact ⟨rfl, B4.out⟩
end Go.Proofs.YthhnnkgfnhggbabDoor
