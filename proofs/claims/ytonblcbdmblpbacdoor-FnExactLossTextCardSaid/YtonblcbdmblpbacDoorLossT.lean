/- Texts of losses, on both sides. -/
import Derived.Test.YtonblcbdmblpbacDoorDec2
import Derived.Test.YtonblcbdmblpbacDoorLossM
namespace Go.Proofs.YtonblcbdmblpbacDoor
open Go.ChangeShapes Go.WideShapes Go.ChangeAt Go.RowKit
set_option linter.unusedVariables false
set_option linter.unusedSimpArgs false

/-- The text of a loss. -/
def textLo (x : Lo) : List UInt8 := [64] ++ Lib.itoa x.s ++ [32] ++ Lib.itoa x.v ++ [108, 47] ++ Lib.itoa x.w
theorem textLo_eq (x : Lo) : (⟨(textLo x).toArray⟩ : ByteArray) = (((((⟨#[64]⟩ : ByteArray) ++ ⟨(Lib.itoa x.s).toArray⟩) ++ ⟨#[32]⟩) ++ ⟨(Lib.itoa x.v).toArray⟩) ++ ⟨#[108, 47]⟩) ++ ⟨(Lib.itoa x.w).toArray⟩ := by
  have e1 : (⟨#[64]⟩ : ByteArray) = ⟨([64] : List UInt8).toArray⟩ := rfl
  have e2 : (⟨#[32]⟩ : ByteArray) = ⟨([32] : List UInt8).toArray⟩ := rfl
  have e3 : (⟨#[108, 47]⟩ : ByteArray) = ⟨([108, 47] : List UInt8).toArray⟩ := rfl
  rw [e1, e2, e3, str_app, str_app, str_app, str_app, str_app]
  rfl

theorem cell_boxLo {w w' : World} {c : Lo} {t : TypeId} (b : Below (w.heap.size + 1) (w.alloc (.cells #[.int .i64 c.s, .int .i64 c.v, .int .i64 c.w] t)) w') :
    w'.cell? ⟨w.heap.size, 0, none⟩ = some (.int .i64 c.s) ∧ w'.cell? ⟨w.heap.size, 1, none⟩ = some (.int .i64 c.v) ∧ w'.cell? ⟨w.heap.size, 2, none⟩ = some (.int .i64 c.w) := by
  obtain ⟨⟨k0, k1, k2⟩, -⟩ := boxLo_at ((b.block _ (by omega)).trans (heap_alloc_new w _))
  exact ⟨k0, k1, k2⟩

theorem okLo_small {c : Lo} (h : OkLo c) : (0 ≤ c.s ∧ c.s ≤ 23) ∧ (0 ≤ c.v ∧ c.v ≤ 100000) ∧ (0 ≤ c.w ∧ c.w ≤ 5) := by
  obtain ⟨⟨a, b⟩, ⟨c, d⟩, e, f⟩ := h
  omega

set_option maxRecDepth 100000 in
set_option maxHeartbeats 8000000 in
theorem l07Text_any (c : Lo) (h : OkLo c) (w : World) :
    Calls Tryd.prog 12 #[(.agg #[.int .i64 c.s, .int .i64 c.v, .int .i64 c.w])] w fun e w' => e = .returned (.string ⟨(textLo c).toArray⟩) ∧ Below w.heap.size w w' := by
  obtain ⟨⟨x1, x2⟩, ⟨x3, x4⟩, ⟨x5, x6⟩⟩ := okLo_small h
  have lo := Lib.itoa_length_le c.s (by omega) (by omega)
  have lh := Lib.itoa_length_le c.v (by omega) (by omega)
  have lt := Lib.itoa_length_le c.w (by omega) (by omega)
  have C1 := Lib.hid (fun w => l01Dec_any c.s (by omega) (by omega) w)
  have C2 := Lib.hid (fun w => l01Dec_any c.v (by omega) (by omega) w)
  have C3 := Lib.hid (fun w => l01Dec_any c.w (by omega) (by omega) w)
  rw [textLo_eq]
  obtain ⟨A, hA⟩ : ∃ A : ByteArray, A = ⟨(Lib.itoa c.s).toArray⟩ := ⟨_, rfl⟩
  obtain ⟨B, hB⟩ : ∃ A : ByteArray, A = ⟨(Lib.itoa c.v).toArray⟩ := ⟨_, rfl⟩
  obtain ⟨D, hD⟩ : ∃ A : ByteArray, A = ⟨(Lib.itoa c.w).toArray⟩ := ⟨_, rfl⟩
  have sA : A.size ≤ 21 := by rw [hA]; exact lo
  have sB : B.size ≤ 21 := by rw [hB]; exact lh
  have sD : D.size ≤ 21 := by rw [hD]; exact lt
  rw [← hA, ← hB, ← hD]
  rw [← hA] at C1
  rw [← hB] at C2
  rw [← hD] at C3
  have k0 : (⟨#[64]⟩ : ByteArray).size = 1 := rfl
  have s0 : ((⟨#[64]⟩ : ByteArray) ++ A).size = 1 + A.size := by rw [ByteArray.size_append]; rfl
  have s1 : ((⟨#[64]⟩ : ByteArray) ++ A ++ (⟨#[32]⟩ : ByteArray)).size = 1 + A.size + 1 := by rw [ByteArray.size_append, s0]; rfl
  have s2 : ((⟨#[64]⟩ : ByteArray) ++ A ++ (⟨#[32]⟩ : ByteArray) ++ B).size = 1 + A.size + 1 + B.size := by rw [ByteArray.size_append, s1]
  have s3 : ((⟨#[64]⟩ : ByteArray) ++ A ++ (⟨#[32]⟩ : ByteArray) ++ B ++ (⟨#[108, 47]⟩ : ByteArray)).size = 1 + A.size + 1 + B.size + 2 := by rw [ByteArray.size_append, s2]; rfl
  have k1 : ¬ 9223372036854775807 < 1 + A.size := by omega
  have k2 : ¬ 9223372036854775807 < 1 + A.size + 1 := by omega
  have k3 : ¬ 9223372036854775807 < 1 + A.size + 1 + B.size := by omega
  have k4 : ¬ 9223372036854775807 < 1 + A.size + 1 + B.size + 2 := by omega
  have k5 : ¬ 9223372036854775807 < 1 + A.size + 1 + B.size + 2 + D.size := by omega
  have KS : Hid (∀ w', Below (w.heap.size + 1) (w.alloc (.cells #[.int .i64 c.s, .int .i64 c.v, .int .i64 c.w] 26)) w' → (w'.cell? ⟨w.heap.size, 0, none⟩ = some (.int .i64 c.s) ∧ w'.cell? ⟨w.heap.size, 1, none⟩ = some (.int .i64 c.v) ∧ w'.cell? ⟨w.heap.size, 2, none⟩ = some (.int .i64 c.w))) := fun w' b => cell_boxLo b
  clear hA hB hD lo lh lt x1 x2 x3 x4 x5 x6 h
  go_enter Tryd.func12, Tryd.ntmps12
  go_wp2_with fail
  go_region_held3 (fun w' => (w'.cell? ⟨w.heap.size, 0, none⟩ = some (.int .i64 c.s) ∧ w'.cell? ⟨w.heap.size, 1, none⟩ = some (.int .i64 c.v) ∧ w'.cell? ⟨w.heap.size, 2, none⟩ = some (.int .i64 c.w)))
    (first | exact KS.out _ D3.out | exact KS.out _ D2.out | exact KS.out _ D1.out | exact KS.out _ (Below.refl _ _).drew)
    (first
      | (go_at_call 21; (with_reducible refine (C1.out _).mono ?_); rintro e w1 ⟨rfl, b1⟩; have D1 : Hid (Below (w.heap.size + 1) (w.alloc (.cells #[.int .i64 c.s, .int .i64 c.v, .int .i64 c.w] 26)) w1) := (Below.refl _ _).drew.trans (b1.mono (by simp)))
      | (go_at_call 21; (with_reducible refine (C2.out _).mono ?_); rintro e w2 ⟨rfl, b2⟩; have D2 : Hid (Below (w.heap.size + 1) (w.alloc (.cells #[.int .i64 c.s, .int .i64 c.v, .int .i64 c.w] 26)) w2) := D1.out.trans (b2.mono (by have e := D1.out.size; simp only [World.size_alloc] at e; exact e)))
      | (go_at_call 21; (with_reducible refine (C3.out _).mono ?_); rintro e w3 ⟨rfl, b3⟩; have D3 : Hid (Below (w.heap.size + 1) (w.alloc (.cells #[.int .i64 c.s, .int .i64 c.v, .int .i64 c.w] 26)) w3) := D2.out.trans (b3.mono (by have e := D2.out.size; simp only [World.size_alloc] at e; exact e))))
  have BE : Hid (Below w.heap.size w w3) := Below.trans (by go_grown) (D3.out.mono (by omega))
  go_wp2
  go_ret
  exact ⟨rfl, BE.out⟩

set_option maxRecDepth 100000 in
set_option maxHeartbeats 8000000 in
theorem lossText_any (c : Lo) (h : OkLo c) (w : World) (hT : TDec w) :
    Calls Tryd.prog 14 #[(.agg #[.int .i64 c.s, .int .i64 c.v, .int .i64 c.w])] w fun e w' => e = .returned (.string ⟨(textLo c).toArray⟩) ∧ Below w.heap.size w w' := by
  obtain ⟨⟨x1, x2⟩, ⟨x3, x4⟩, ⟨x5, x6⟩⟩ := okLo_small h
  have lo := Lib.itoa_length_le c.s (by omega) (by omega)
  have lh := Lib.itoa_length_le c.v (by omega) (by omega)
  have lt := Lib.itoa_length_le c.w (by omega) (by omega)
  have C1 := Lib.hid (fun w hT => decimal_any c.s (by omega) (by omega) w hT)
  have C2 := Lib.hid (fun w hT => decimal_any c.v (by omega) (by omega) w hT)
  have C3 := Lib.hid (fun w hT => decimal_any c.w (by omega) (by omega) w hT)
  rw [textLo_eq]
  obtain ⟨A, hA⟩ : ∃ A : ByteArray, A = ⟨(Lib.itoa c.s).toArray⟩ := ⟨_, rfl⟩
  obtain ⟨B, hB⟩ : ∃ A : ByteArray, A = ⟨(Lib.itoa c.v).toArray⟩ := ⟨_, rfl⟩
  obtain ⟨D, hD⟩ : ∃ A : ByteArray, A = ⟨(Lib.itoa c.w).toArray⟩ := ⟨_, rfl⟩
  have sA : A.size ≤ 21 := by rw [hA]; exact lo
  have sB : B.size ≤ 21 := by rw [hB]; exact lh
  have sD : D.size ≤ 21 := by rw [hD]; exact lt
  rw [← hA, ← hB, ← hD]
  rw [← hA] at C1
  rw [← hB] at C2
  rw [← hD] at C3
  have k0 : (⟨#[64]⟩ : ByteArray).size = 1 := rfl
  have s0 : ((⟨#[64]⟩ : ByteArray) ++ A).size = 1 + A.size := by rw [ByteArray.size_append]; rfl
  have s1 : ((⟨#[64]⟩ : ByteArray) ++ A ++ (⟨#[32]⟩ : ByteArray)).size = 1 + A.size + 1 := by rw [ByteArray.size_append, s0]; rfl
  have s2 : ((⟨#[64]⟩ : ByteArray) ++ A ++ (⟨#[32]⟩ : ByteArray) ++ B).size = 1 + A.size + 1 + B.size := by rw [ByteArray.size_append, s1]
  have s3 : ((⟨#[64]⟩ : ByteArray) ++ A ++ (⟨#[32]⟩ : ByteArray) ++ B ++ (⟨#[108, 47]⟩ : ByteArray)).size = 1 + A.size + 1 + B.size + 2 := by rw [ByteArray.size_append, s2]; rfl
  have k1 : ¬ 9223372036854775807 < 1 + A.size := by omega
  have k2 : ¬ 9223372036854775807 < 1 + A.size + 1 := by omega
  have k3 : ¬ 9223372036854775807 < 1 + A.size + 1 + B.size := by omega
  have k4 : ¬ 9223372036854775807 < 1 + A.size + 1 + B.size + 2 := by omega
  have k5 : ¬ 9223372036854775807 < 1 + A.size + 1 + B.size + 2 + D.size := by omega
  have KS : Hid (∀ w', Below (w.heap.size + 1) (w.alloc (.cells #[.int .i64 c.s, .int .i64 c.v, .int .i64 c.w] 26)) w' → (w'.cell? ⟨w.heap.size, 0, none⟩ = some (.int .i64 c.s) ∧ w'.cell? ⟨w.heap.size, 1, none⟩ = some (.int .i64 c.v) ∧ w'.cell? ⟨w.heap.size, 2, none⟩ = some (.int .i64 c.w))) := fun w' b => cell_boxLo b
  have G0 : Below w.heap.size w (w.alloc (.cells #[.int .i64 c.s, .int .i64 c.v, .int .i64 c.w] 26)) := (Below.refl _ _).alloc (Nat.le_refl _) _
  have HT := Lib.hid (hT.later G0)
  clear hA hB hD lo lh lt x1 x2 x3 x4 x5 x6 h
  go_enter Tryd.func14, Tryd.ntmps14
  go_wp2_with fail
  go_region_held3 (fun w' => (w'.cell? ⟨w.heap.size, 0, none⟩ = some (.int .i64 c.s) ∧ w'.cell? ⟨w.heap.size, 1, none⟩ = some (.int .i64 c.v) ∧ w'.cell? ⟨w.heap.size, 2, none⟩ = some (.int .i64 c.w)))
    (first | exact KS.out _ D3.out | exact KS.out _ D2.out | exact KS.out _ D1.out | exact KS.out _ (Below.refl _ _).drew)
    (first
      | (go_at_call 25; (with_reducible refine (C1.out _ (HT.out.later (Below.refl _ _).drew)).mono ?_); rintro e w1 ⟨rfl, b1⟩; have D1 : Hid (Below (w.heap.size + 1) (w.alloc (.cells #[.int .i64 c.s, .int .i64 c.v, .int .i64 c.w] 26)) w1) := (Below.refl _ _).drew.trans (b1.mono (by simp)))
      | (go_at_call 25; (with_reducible refine (C2.out _ (HT.out.later (D1.out.mono (by simp)))).mono ?_); rintro e w2 ⟨rfl, b2⟩; have D2 : Hid (Below (w.heap.size + 1) (w.alloc (.cells #[.int .i64 c.s, .int .i64 c.v, .int .i64 c.w] 26)) w2) := D1.out.trans (b2.mono (by have e := D1.out.size; simp only [World.size_alloc] at e; exact e)))
      | (go_at_call 25; (with_reducible refine (C3.out _ (HT.out.later (D2.out.mono (by simp)))).mono ?_); rintro e w3 ⟨rfl, b3⟩; have D3 : Hid (Below (w.heap.size + 1) (w.alloc (.cells #[.int .i64 c.s, .int .i64 c.v, .int .i64 c.w] 26)) w3) := D2.out.trans (b3.mono (by have e := D2.out.size; simp only [World.size_alloc] at e; exact e))))
  have BE : Hid (Below w.heap.size w w3) := Below.trans (by go_grown) (D3.out.mono (by omega))
  go_wp2
  go_ret
  exact ⟨rfl, BE.out⟩
end Go.Proofs.YtonblcbdmblpbacDoor
