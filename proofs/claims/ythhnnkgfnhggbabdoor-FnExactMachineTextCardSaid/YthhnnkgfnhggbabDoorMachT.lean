/- Texts of machines, on both sides. (Written by tools/mkmacht.py.) -/
import Derived.Test.YthhnnkgfnhggbabDoorPoseT
import Derived.Test.YthhnnkgfnhggbabDoorVal
import Derived.Deep.RegionHeld3
namespace Go.Proofs.YthhnnkgfnhggbabDoor
open Go.ChangeShapes Go.WideShapes Go.ChangeAt Go.RowKit
set_option linter.unusedVariables false
set_option linter.unusedSimpArgs false

/-- The text of a machine. -/
def textM (m : Mc) : List UInt8 := textP m.u ++ [47] ++ textP m.t ++ [47] ++ Lib.itoa m.a
theorem textM_eq (m : Mc) : (⟨(textM m).toArray⟩ : ByteArray) = (⟨(textP m.u).toArray⟩ : ByteArray) ++ (⟨#[47]⟩ : ByteArray) ++ (⟨(textP m.t).toArray⟩ : ByteArray) ++ (⟨#[47]⟩ : ByteArray) ++ (⟨(Lib.itoa m.a).toArray⟩ : ByteArray) := by
  have e0 : (⟨#[47]⟩ : ByteArray) = ⟨([47] : List UInt8).toArray⟩ := rfl
  rw [e0, str_app, str_app, str_app, str_app]
  rfl
theorem okM_i64 {m : Mc} (h : OkM m) : (I64 m.u.s ∧ I64 m.u.h ∧ I64 m.u.y ∧ I64 m.u.p) ∧ (I64 m.t.s ∧ I64 m.t.h ∧ I64 m.t.y ∧ I64 m.t.p) ∧ I64 m.a := by
  have h := h.1
  unfold NearM OkP OkOff OkHead at h
  unfold I64
  omega

set_option maxRecDepth 100000 in
set_option maxHeartbeats 8000000 in
theorem l04Text_any (g : Nat) (t : TypeId) (m : Mc) (h : OkM m) (w : World) (hg : w.heap[g]? = some (.cells #[.int .i64 m.u.s, .int .i64 m.u.h, .int .i64 m.u.y, .int .i64 m.u.p, .int .i64 m.t.s, .int .i64 m.t.h, .int .i64 m.t.y, .int .i64 m.t.p, .int .i64 m.a] t (0, 0))) :
    Calls Tryd.prog 85 #[.pointer (some ⟨g, 0, none⟩)] w fun e w' => e = .returned (.string ⟨(textM m).toArray⟩) ∧ Below w.heap.size w w' := by
  obtain ⟨hu, ht, ha⟩ := okM_i64 h
  have lu := textP_len hu
  have lt := textP_len ht
  have la := Lib.itoa_length_le m.a ha.1 ha.2
  have CA := Lib.hid (fun w => l04PoseText_any m.u hu w)
  have CB := Lib.hid (fun w => l04PoseText_any m.t ht w)
  have CC := Lib.hid (fun w => l01Dec_any m.a ha.1 ha.2 w)
  rw [textM_eq]
  obtain ⟨A, hA⟩ : ∃ A : ByteArray, A = ⟨(textP m.u).toArray⟩ := ⟨_, rfl⟩
  have sA : A.size ≤ 90 := by rw [hA]; exact lu
  obtain ⟨B, hB⟩ : ∃ A : ByteArray, A = ⟨(textP m.t).toArray⟩ := ⟨_, rfl⟩
  have sB : B.size ≤ 90 := by rw [hB]; exact lt
  obtain ⟨C, hC⟩ : ∃ A : ByteArray, A = ⟨(Lib.itoa m.a).toArray⟩ := ⟨_, rfl⟩
  have sC : C.size ≤ 21 := by rw [hC]; exact la
  rw [← hA, ← hB, ← hC]
  rw [← hA] at CA
  rw [← hB] at CB
  rw [← hC] at CC
  have s2 : (A ++ (⟨#[47]⟩ : ByteArray)).size = A.size + 1 := by rw [ByteArray.size_append]; rfl
  have sk2 : ¬ 9223372036854775807 < A.size + 1 := by omega
  have s3 : (A ++ (⟨#[47]⟩ : ByteArray) ++ B).size = A.size + 1 + B.size := by rw [ByteArray.size_append, s2]
  have sk3 : ¬ 9223372036854775807 < A.size + 1 + B.size := by omega
  have s4 : (A ++ (⟨#[47]⟩ : ByteArray) ++ B ++ (⟨#[47]⟩ : ByteArray)).size = A.size + 1 + B.size + 1 := by rw [ByteArray.size_append, s3]; rfl
  have sk4 : ¬ 9223372036854775807 < A.size + 1 + B.size + 1 := by omega
  have sk5 : ¬ 9223372036854775807 < A.size + 1 + B.size + 1 + C.size := by omega
  have lg := (boxMc_at hg).2.2
  have KS : Hid (∀ w', Below w.heap.size w w' → (w'.cell? ⟨g, 0, none⟩ = some (.int .i64 m.u.s) ∧ w'.cell? ⟨g, 1, none⟩ = some (.int .i64 m.u.h) ∧ w'.cell? ⟨g, 2, none⟩ = some (.int .i64 m.u.y) ∧ w'.cell? ⟨g, 3, none⟩ = some (.int .i64 m.u.p) ∧ w'.cell? ⟨g, 4, none⟩ = some (.int .i64 m.t.s) ∧ w'.cell? ⟨g, 5, none⟩ = some (.int .i64 m.t.h) ∧ w'.cell? ⟨g, 6, none⟩ = some (.int .i64 m.t.y) ∧ w'.cell? ⟨g, 7, none⟩ = some (.int .i64 m.t.p) ∧ w'.cell? ⟨g, 8, none⟩ = some (.int .i64 m.a))) := fun w' b => (boxMc_at ((b.block g lg).trans hg)).1
  clear hA hB hC lu lt la h hu ht ha hg
  go_enter Tryd.func85, Tryd.ntmps85
  go_wp2_with fail
  go_region_held3 (fun w' => (w'.cell? ⟨g, 0, none⟩ = some (.int .i64 m.u.s) ∧ w'.cell? ⟨g, 1, none⟩ = some (.int .i64 m.u.h) ∧ w'.cell? ⟨g, 2, none⟩ = some (.int .i64 m.u.y) ∧ w'.cell? ⟨g, 3, none⟩ = some (.int .i64 m.u.p) ∧ w'.cell? ⟨g, 4, none⟩ = some (.int .i64 m.t.s) ∧ w'.cell? ⟨g, 5, none⟩ = some (.int .i64 m.t.h) ∧ w'.cell? ⟨g, 6, none⟩ = some (.int .i64 m.t.y) ∧ w'.cell? ⟨g, 7, none⟩ = some (.int .i64 m.t.p) ∧ w'.cell? ⟨g, 8, none⟩ = some (.int .i64 m.a)))
    (first | exact KS.out _ D3.out | exact KS.out _ D2.out | exact KS.out _ D1.out | exact KS.out _ (Below.refl _ _).drew)
    (first
      | (go_at_call 131; (with_reducible refine (CA.out _).mono ?_); rintro e w1 ⟨rfl, b1⟩; have D1 : Hid (Below (w.heap.size) (w) w1) := (Below.refl _ _).drew.trans (b1.mono (Nat.le_refl _)))
      | (go_at_call 131; (with_reducible refine (CB.out _).mono ?_); rintro e w2 ⟨rfl, b2⟩; have D2 : Hid (Below (w.heap.size) (w) w2) := D1.out.trans (b2.mono D1.out.size))
      | (go_at_call 115; (with_reducible refine (CC.out _).mono ?_); rintro e w3 ⟨rfl, b3⟩; have D3 : Hid (Below (w.heap.size) (w) w3) := D2.out.trans (b3.mono D2.out.size)))
  have BE := D3
  go_wp2
  go_ret
  exact ⟨rfl, BE.out⟩

set_option maxRecDepth 100000 in
set_option maxHeartbeats 8000000 in
theorem specMachineText_any (m : Mc) (b : Bool) (hb : b = true ↔ OkM m) (l : List UInt8) (hl : l = if b = true then textM m else []) (w : World) :
    Calls Tryd.prog 38 #[(.agg #[.int .i64 m.u.s, .int .i64 m.u.h, .int .i64 m.u.y, .int .i64 m.u.p, .int .i64 m.t.s, .int .i64 m.t.h, .int .i64 m.t.y, .int .i64 m.t.p, .int .i64 m.a])] w fun e w' => e = .returned (.tuple #[.string ⟨l.toArray⟩, .bool b]) ∧ Below w.heap.size w w' := by
  have C1 := Lib.hid (l04Is_any w.heap.size 80 m b hb _ (heap_alloc_new w _))
  have HB := Lib.hid hb
  clear hb
  cases b with
  | false =>
    obtain rfl : l = [] := by simpa using hl
    clear hl
    go_enter Tryd.func38, Tryd.ntmps38
    go_wp2_with fail
    refine C1.out.mono ?_
    rintro e w1 ⟨rfl, b1⟩
    have B1 : Hid (Below w.heap.size w w1) := Below.trans (by go_grown) (b1.mono (by simp only [World.size_alloc]; omega))
    clear b1 C1
    go_wp2
    go_ret2
    exact ⟨rfl, B1.out⟩
  | true =>
    obtain rfl : l = textM m := by simpa using hl
    have ok := HB.out.mp rfl
    have C2 := Lib.hid (fun w hg => l04Text_any w.heap.size 80 m ok w hg)
    have C3 := Lib.hid (fun g t w hg => l04Text_any g t m ok w hg)
    clear hl ok HB C2
    go_enter Tryd.func38, Tryd.ntmps38
    go_wp2_with fail
    refine C1.out.mono ?_
    rintro e w1 ⟨rfl, b1⟩
    have B1 : Hid (Below w.heap.size w w1) := Below.trans (by go_grown) (b1.mono (by simp only [World.size_alloc]; omega))
    have N1 := Lib.hid ((b1.block w.heap.size (by simp only [World.size_alloc]; omega)).trans (heap_alloc_new w _))
    clear b1 C1
    go_wp2_with fail
    refine (C3.out _ _ _ N1.out).mono ?_
    rintro e w2 ⟨rfl, b2⟩
    have B2 : Hid (Below w.heap.size w w2) := B1.out.trans (b2.mono B1.out.size)
    clear b2 C3 B1 N1
    go_wp2
    go_ret2
    exact ⟨rfl, B2.out⟩

set_option maxRecDepth 100000 in
set_option maxHeartbeats 8000000 in
theorem implMachineText_any (m : Mc) (b : Bool) (hb : b = true ↔ OkM m) (l : List UInt8) (hl : l = if b = true then textM m else []) (w : World) (hT : TDec w) :
    Calls Tryd.prog 40 #[(.agg #[.int .i64 m.u.s, .int .i64 m.u.h, .int .i64 m.u.y, .int .i64 m.u.p, .int .i64 m.t.s, .int .i64 m.t.h, .int .i64 m.t.y, .int .i64 m.t.p, .int .i64 m.a])] w fun e w' => e = .returned (.tuple #[.string ⟨l.toArray⟩, .bool b]) ∧ Below w.heap.size w w' := by
  have C1 := Lib.hid (fun w => implValid_any m b hb w)
  have HB := Lib.hid hb
  have HT := Lib.hid hT
  clear hb hT
  cases b with
  | false =>
    obtain rfl : l = [] := by simpa using hl
    clear hl
    go_enter Tryd.func40, Tryd.ntmps40
    go_wp2_with fail
    refine (C1.out _).mono ?_
    rintro e w1 ⟨rfl, b1⟩
    have B1 : Hid (Below w.heap.size w w1) := Below.trans (by go_grown) (b1.mono (by simp only [World.size_alloc]; omega))
    clear b1 C1
    go_wp2
    go_ret2
    exact ⟨rfl, B1.out⟩
  | true =>
    obtain rfl : l = textM m := by simpa using hl
    have h := HB.out.mp rfl
    obtain ⟨hu, ht, ha⟩ := okM_i64 h
    have lu := textP_len hu
    have lt := textP_len ht
    have la := Lib.itoa_length_le m.a ha.1 ha.2
    have CA := Lib.hid (fun w hT => poseText_any m.u hu w hT)
    have CB := Lib.hid (fun w hT => poseText_any m.t ht w hT)
    have CC := Lib.hid (fun w hT => decimal_any m.a ha.1 ha.2 w hT)
    rw [textM_eq]
    obtain ⟨A, hA⟩ : ∃ A : ByteArray, A = ⟨(textP m.u).toArray⟩ := ⟨_, rfl⟩
    have sA : A.size ≤ 90 := by rw [hA]; exact lu
    obtain ⟨B, hB⟩ : ∃ A : ByteArray, A = ⟨(textP m.t).toArray⟩ := ⟨_, rfl⟩
    have sB : B.size ≤ 90 := by rw [hB]; exact lt
    obtain ⟨C, hC⟩ : ∃ A : ByteArray, A = ⟨(Lib.itoa m.a).toArray⟩ := ⟨_, rfl⟩
    have sC : C.size ≤ 21 := by rw [hC]; exact la
    rw [← hA, ← hB, ← hC]
    rw [← hA] at CA
    rw [← hB] at CB
    rw [← hC] at CC
    have s2 : (A ++ (⟨#[47]⟩ : ByteArray)).size = A.size + 1 := by rw [ByteArray.size_append]; rfl
    have sk2 : ¬ 9223372036854775807 < A.size + 1 := by omega
    have s3 : (A ++ (⟨#[47]⟩ : ByteArray) ++ B).size = A.size + 1 + B.size := by rw [ByteArray.size_append, s2]
    have sk3 : ¬ 9223372036854775807 < A.size + 1 + B.size := by omega
    have s4 : (A ++ (⟨#[47]⟩ : ByteArray) ++ B ++ (⟨#[47]⟩ : ByteArray)).size = A.size + 1 + B.size + 1 := by rw [ByteArray.size_append, s3]; rfl
    have sk4 : ¬ 9223372036854775807 < A.size + 1 + B.size + 1 := by omega
    have sk5 : ¬ 9223372036854775807 < A.size + 1 + B.size + 1 + C.size := by omega
    clear hl HB hA hB hC lu lt la h hu ht ha
    go_enter Tryd.func40, Tryd.ntmps40
    go_wp2_with fail
    refine (C1.out _).mono ?_
    rintro e w0 ⟨rfl, b1⟩
    have B1 : Hid (Below w.heap.size w w0) := Below.trans (by go_grown) (b1.mono (by simp only [World.size_alloc]; omega))
    have N1 := Lib.hid ((b1.block w.heap.size (by simp only [World.size_alloc]; omega)).trans (heap_alloc_new w _))
    have lg := (boxMc_at N1.out).2.2
    have KS : Hid (∀ w', Below w0.heap.size w0 w' → (w'.cell? ⟨w.heap.size, 0, none⟩ = some (.int .i64 m.u.s) ∧ w'.cell? ⟨w.heap.size, 1, none⟩ = some (.int .i64 m.u.h) ∧ w'.cell? ⟨w.heap.size, 2, none⟩ = some (.int .i64 m.u.y) ∧ w'.cell? ⟨w.heap.size, 3, none⟩ = some (.int .i64 m.u.p) ∧ w'.cell? ⟨w.heap.size, 4, none⟩ = some (.int .i64 m.t.s) ∧ w'.cell? ⟨w.heap.size, 5, none⟩ = some (.int .i64 m.t.h) ∧ w'.cell? ⟨w.heap.size, 6, none⟩ = some (.int .i64 m.t.y) ∧ w'.cell? ⟨w.heap.size, 7, none⟩ = some (.int .i64 m.t.p) ∧ w'.cell? ⟨w.heap.size, 8, none⟩ = some (.int .i64 m.a))) := fun w' b => (boxMc_at ((b.block _ lg).trans N1.out)).1
    have HT1 := Lib.hid (HT.out.later B1.out)
    clear b1 C1 N1 HT
    go_wp2_with fail
    go_region_held3 (fun w' => (w'.cell? ⟨w.heap.size, 0, none⟩ = some (.int .i64 m.u.s) ∧ w'.cell? ⟨w.heap.size, 1, none⟩ = some (.int .i64 m.u.h) ∧ w'.cell? ⟨w.heap.size, 2, none⟩ = some (.int .i64 m.u.y) ∧ w'.cell? ⟨w.heap.size, 3, none⟩ = some (.int .i64 m.u.p) ∧ w'.cell? ⟨w.heap.size, 4, none⟩ = some (.int .i64 m.t.s) ∧ w'.cell? ⟨w.heap.size, 5, none⟩ = some (.int .i64 m.t.h) ∧ w'.cell? ⟨w.heap.size, 6, none⟩ = some (.int .i64 m.t.y) ∧ w'.cell? ⟨w.heap.size, 7, none⟩ = some (.int .i64 m.t.p) ∧ w'.cell? ⟨w.heap.size, 8, none⟩ = some (.int .i64 m.a)))
      (first | exact KS.out _ D3.out | exact KS.out _ D2.out | exact KS.out _ D1.out | exact KS.out _ (Below.refl _ _).drew)
      (first
        | (go_at_call 81; (with_reducible refine (CA.out _ (HT1.out.later (Below.refl _ _).drew)).mono ?_); rintro e w1 ⟨rfl, b1⟩; have D1 : Hid (Below (w0.heap.size) (w0) w1) := (Below.refl _ _).drew.trans (b1.mono (Nat.le_refl _)))
        | (go_at_call 81; (with_reducible refine (CB.out _ (HT1.out.later D1.out)).mono ?_); rintro e w2 ⟨rfl, b2⟩; have D2 : Hid (Below (w0.heap.size) (w0) w2) := D1.out.trans (b2.mono D1.out.size))
        | (go_at_call 87; (with_reducible refine (CC.out _ (HT1.out.later D2.out)).mono ?_); rintro e w3 ⟨rfl, b3⟩; have D3 : Hid (Below (w0.heap.size) (w0) w3) := D2.out.trans (b3.mono D2.out.size)))
    have BE : Hid (Below w.heap.size w w3) := B1.out.trans (D3.out.mono B1.out.size)
    go_wp2
    go_ret2
    exact ⟨rfl, BE.out⟩

theorem exMachineText (q : Mc) : ∃ (A : ByteArray) (b : Bool),
    (Hid (∀ (w : World), TDec w → Calls Tryd.prog 38 #[(.agg #[.int .i64 q.u.s, .int .i64 q.u.h, .int .i64 q.u.y, .int .i64 q.u.p, .int .i64 q.t.s, .int .i64 q.t.h, .int .i64 q.t.y, .int .i64 q.t.p, .int .i64 q.a])] w fun e w' => e = .returned (.tuple #[.string A, .bool b]) ∧ Below w.heap.size w w')) ∧
    (Hid (∀ (w : World), TDec w → Calls Tryd.prog 40 #[(.agg #[.int .i64 q.u.s, .int .i64 q.u.h, .int .i64 q.u.y, .int .i64 q.u.p, .int .i64 q.t.s, .int .i64 q.t.h, .int .i64 q.t.y, .int .i64 q.t.p, .int .i64 q.a])] w fun e w' => e = .returned (.tuple #[.string A, .bool b]) ∧ Below w.heap.size w w')) := by
  obtain ⟨b, hb⟩ := okM_dec q
  exact ⟨_, b, fun w _ => specMachineText_any q b hb _ rfl w, fun w hT => implMachineText_any q b hb _ rfl w hT⟩
end Go.Proofs.YthhnnkgfnhggbabDoor
