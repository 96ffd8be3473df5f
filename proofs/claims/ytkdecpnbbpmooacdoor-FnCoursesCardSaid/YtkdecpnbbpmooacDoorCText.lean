/- Texts of courses, on both sides. -/
import Derived.Test.YtkdecpnbbpmooacDoorJoin
import Derived.Test.YtkdecpnbbpmooacDoorSteerM
import Derived.Deep.RegionHeld3
namespace Go.Proofs.YtkdecpnbbpmooacDoor
open Go.ChangeShapes Go.WideShapes Go.ChangeAt Go.RowKit
set_option linter.unusedVariables false
set_option linter.unusedSimpArgs false

/-- The text of a course, or the empty text. -/
def textC (c : Co) : List UInt8 := joinTo [47] [c.o, c.h, c.t] 3
def TextRes (c : Co) (l : List UInt8) : Prop := (SmallC c ∧ l = textC c) ∨ (¬ SmallC c ∧ l = [])
theorem textRes_of (c : Co) : ∃ l, TextRes c l := by
  by_cases h : SmallC c
  · exact ⟨_, .inl ⟨h, rfl⟩⟩
  · exact ⟨_, .inr ⟨h, rfl⟩⟩
theorem textC_eq (c : Co) : (⟨(textC c).toArray⟩ : ByteArray) = ((((⟨(Lib.itoa c.o).toArray⟩ : ByteArray) ++ ⟨#[47]⟩) ++ ⟨(Lib.itoa c.h).toArray⟩) ++ ⟨#[47]⟩) ++ ⟨(Lib.itoa c.t).toArray⟩ := by
  have e : (⟨#[47]⟩ : ByteArray) = ⟨([47] : List UInt8).toArray⟩ := rfl
  rw [e, str_app, str_app, str_app, str_app]
  congr 2
  simp [textC, joinTo, List.getD]

theorem cell_box3 {w w' : World} {c : Co} {t : TypeId} (b : Below (w.heap.size + 1) (w.alloc (.cells #[.int .i64 c.o, .int .i64 c.h, .int .i64 c.t] t)) w') :
    w'.cell? ⟨w.heap.size, 0, none⟩ = some (.int .i64 c.o) ∧ w'.cell? ⟨w.heap.size, 1, none⟩ = some (.int .i64 c.h) ∧ w'.cell? ⟨w.heap.size, 2, none⟩ = some (.int .i64 c.t) := by
  obtain ⟨⟨k0, k1, k2⟩, -⟩ := boxCo_at ((b.block _ (by omega)).trans (heap_alloc_new w _))
  exact ⟨k0, k1, k2⟩

set_option maxRecDepth 100000 in
set_option maxHeartbeats 8000000 in
theorem l05Text_any (c : Co) (h : SmallC c) (w : World) :
    Calls Tryd.prog 39 #[(.agg #[.int .i64 c.o, .int .i64 c.h, .int .i64 c.t])] w fun e w' => e = .returned (.string ⟨(textC c).toArray⟩) ∧ Below w.heap.size w w' := by
  obtain ⟨⟨⟨x1, x2⟩, ⟨x3, x4⟩⟩, ⟨x5, x6⟩⟩ := h
  have lo := Lib.itoa_length_le c.o (by omega) (by omega)
  have lh := Lib.itoa_length_le c.h (by omega) (by omega)
  have lt := Lib.itoa_length_le c.t (by omega) (by omega)
  have C1 := Lib.hid (fun w => l01Dec_any c.o (by omega) (by omega) w)
  have C2 := Lib.hid (fun w => l01Dec_any c.h (by omega) (by omega) w)
  have C3 := Lib.hid (fun w => l01Dec_any c.t (by omega) (by omega) w)
  rw [textC_eq]
  obtain ⟨A, hA⟩ : ∃ A : ByteArray, A = ⟨(Lib.itoa c.o).toArray⟩ := ⟨_, rfl⟩
  obtain ⟨B, hB⟩ : ∃ A : ByteArray, A = ⟨(Lib.itoa c.h).toArray⟩ := ⟨_, rfl⟩
  obtain ⟨D, hD⟩ : ∃ A : ByteArray, A = ⟨(Lib.itoa c.t).toArray⟩ := ⟨_, rfl⟩
  have sA : A.size ≤ 21 := by rw [hA]; exact lo
  have sB : B.size ≤ 21 := by rw [hB]; exact lh
  have sD : D.size ≤ 21 := by rw [hD]; exact lt
  rw [← hA, ← hB, ← hD]
  rw [← hA] at C1
  rw [← hB] at C2
  rw [← hD] at C3
  have s1 : (A ++ (⟨#[47]⟩ : ByteArray)).size = A.size + 1 := by rw [ByteArray.size_append]; rfl
  have s2 : (A ++ (⟨#[47]⟩ : ByteArray) ++ B).size = A.size + 1 + B.size := by rw [ByteArray.size_append, s1]
  have s3 : (A ++ (⟨#[47]⟩ : ByteArray) ++ B ++ (⟨#[47]⟩ : ByteArray)).size = A.size + 1 + B.size + 1 := by rw [ByteArray.size_append, s2]; rfl
  have k1 : ¬ 9223372036854775807 < A.size + 1 := by omega
  have k2 : ¬ 9223372036854775807 < A.size + 1 + B.size := by omega
  have k3 : ¬ 9223372036854775807 < A.size + 1 + B.size + 1 := by omega
  have k4 : ¬ 9223372036854775807 < A.size + 1 + B.size + 1 + D.size := by omega
  have KS : Hid (∀ w', Below (w.heap.size + 1) (w.alloc (.cells #[.int .i64 c.o, .int .i64 c.h, .int .i64 c.t] 27)) w' → (w'.cell? ⟨w.heap.size, 0, none⟩ = some (.int .i64 c.o) ∧ w'.cell? ⟨w.heap.size, 1, none⟩ = some (.int .i64 c.h) ∧ w'.cell? ⟨w.heap.size, 2, none⟩ = some (.int .i64 c.t))) := fun w' b => cell_box3 b
  clear hA hB hD lo lh lt x1 x2 x3 x4 x5 x6
  go_enter Tryd.func39, Tryd.ntmps39
  go_wp2_with fail
  go_region_held3 (fun w' => (w'.cell? ⟨w.heap.size, 0, none⟩ = some (.int .i64 c.o) ∧ w'.cell? ⟨w.heap.size, 1, none⟩ = some (.int .i64 c.h) ∧ w'.cell? ⟨w.heap.size, 2, none⟩ = some (.int .i64 c.t)))
    (first | exact KS.out _ D3.out | exact KS.out _ D2.out | exact KS.out _ D1.out | exact KS.out _ (Below.refl _ _).drew)
    (first
      | (go_at_call 64; (with_reducible refine (C1.out _).mono ?_); rintro e w1 ⟨rfl, b1⟩; have D1 : Hid (Below (w.heap.size + 1) (w.alloc (.cells #[.int .i64 c.o, .int .i64 c.h, .int .i64 c.t] 27)) w1) := (Below.refl _ _).drew.trans (b1.mono (by simp)))
      | (go_at_call 64; (with_reducible refine (C2.out _).mono ?_); rintro e w2 ⟨rfl, b2⟩; have D2 : Hid (Below (w.heap.size + 1) (w.alloc (.cells #[.int .i64 c.o, .int .i64 c.h, .int .i64 c.t] 27)) w2) := D1.out.trans (b2.mono (by have e := D1.out.size; simp only [World.size_alloc] at e; exact e)))
      | (go_at_call 64; (with_reducible refine (C3.out _).mono ?_); rintro e w3 ⟨rfl, b3⟩; have D3 : Hid (Below (w.heap.size + 1) (w.alloc (.cells #[.int .i64 c.o, .int .i64 c.h, .int .i64 c.t] 27)) w3) := D2.out.trans (b3.mono (by have e := D2.out.size; simp only [World.size_alloc] at e; exact e))))
  have BE : Hid (Below w.heap.size w w3) := Below.trans (by go_grown) (D3.out.mono (by omega))
  go_wp2
  go_ret
  exact ⟨rfl, BE.out⟩
set_option maxRecDepth 100000 in
set_option maxHeartbeats 4000000 in
theorem specCText_any (c : Co) (l : List UInt8) (h : TextRes c l) (w : World) :
    Calls Tryd.prog 14 #[(.agg #[.int .i64 c.o, .int .i64 c.h, .int .i64 c.t])] w fun e w' => e = .returned (.string ⟨l.toArray⟩) ∧ Below w.heap.size w w' := by
  obtain ⟨b, hb⟩ := bool_of (SmallC c)
  have C1 := Lib.hid (fun w => l05Small_any c b hb w)
  have HB := Lib.hid hb
  have H := Lib.hid h
  clear hb h
  go_enter Tryd.func14, Tryd.ntmps14
  go_wp2_with fail
  refine (C1.out _).mono ?_
  rintro e u ⟨rfl, bb⟩
  have BU : Hid (Below w.heap.size w u) := Below.trans (by go_grown) (bb.mono (by simp only [World.size_alloc]; omega))
  have NC := (bb.block _ (by simp only [World.size_alloc]; omega)).trans (heap_alloc_new w _)
  obtain ⟨⟨k0, k1, k2⟩, -, -⟩ := boxCo_at NC
  clear bb C1 NC
  cases b with
  | false =>
    have hl : l = [] := by
      rcases H.out with g | g
      · exact absurd (HB.out.mpr g.1) (by simp)
      · exact g.2
    subst hl
    clear H HB
    go_wp2
    go_ret
    exact ⟨rfl, BU.out⟩
  | true =>
    have ok := HB.out.mp rfl
    have hl : l = textC c := by
      rcases H.out with g | g
      · exact g.2
      · exact absurd ok g.1
    subst hl
    have C2 := Lib.hid (fun w => l05Text_any c ok w)
    clear H HB ok
    go_wp2_with fail
    refine (C2.out _).mono ?_
    rintro e u2 ⟨rfl, b2⟩
    have B2 : Hid (Below w.heap.size w u2) := BU.out.trans (b2.mono BU.out.size)
    clear b2 C2 BU k0 k1 k2
    go_wp2
    go_ret
    exact ⟨rfl, B2.out⟩

set_option maxRecDepth 100000 in
set_option maxHeartbeats 4000000 in
theorem implCText_any (c : Co) (l : List UInt8) (h : TextRes c l) (w : World) (hT : TDec w) :
    Calls Tryd.prog 10 #[(.agg #[.int .i64 c.o, .int .i64 c.h, .int .i64 c.t])] w fun e w' => e = .returned (.string ⟨l.toArray⟩) ∧ Below w.heap.size w w' := by
  obtain ⟨b, hb⟩ := bool_of (SmallC c)
  have C1 := Lib.hid (fun w => isSmall_any c b hb w)
  have HB := Lib.hid hb
  have H := Lib.hid h
  have HT := Lib.hid hT
  clear hb h hT
  go_enter Tryd.func10, Tryd.ntmps10
  go_wp2_with fail
  refine (C1.out _).mono ?_
  rintro e u ⟨rfl, bb⟩
  have BU : Hid (Below w.heap.size w u) := Below.trans (by go_grown) (bb.mono (by simp only [World.size_alloc]; omega))
  have NC := (bb.block _ (by simp only [World.size_alloc]; omega)).trans (heap_alloc_new w _)
  obtain ⟨⟨k0, k1, k2⟩, -, -⟩ := boxCo_at NC
  clear bb C1 NC
  cases b with
  | false =>
    have hl : l = [] := by
      rcases H.out with g | g
      · exact absurd (HB.out.mpr g.1) (by simp)
      · exact g.2
    subst hl
    clear H HB
    go_wp2
    go_ret
    exact ⟨rfl, BU.out⟩
  | true =>
    have ok := HB.out.mp rfl
    have hl : l = textC c := by
      rcases H.out with g | g
      · exact g.2
      · exact absurd ok g.1
    subst hl
    obtain ⟨⟨⟨x1, x2⟩, ⟨x3, x4⟩⟩, ⟨x5, x6⟩⟩ := ok
    have HX : ∀ x ∈ [c.o, c.h, c.t], -9223372036854775808 ≤ x ∧ x ≤ 9223372036854775807 := by
      intro x hx
      simp only [List.mem_cons, List.mem_nil_iff, or_false] at hx
      rcases hx with rfl | rfl | rfl <;> omega
    have CJ := Lib.hid (fun w a cap (hr : RdI w (.slice a 3 cap) [c.o, c.h, c.t]) hT => joinInts_any _ [c.o, c.h, c.t] [47] (by simp) w hr (by simp) HX hT)
    clear H HB x1 x2 x3 x4 x5 x6 HX
    go_wp2_with fail
    refine (numbersC_any c _).mono ?_
    rintro e u2 ⟨rfl, b2⟩
    have B2 : Hid (Below w.heap.size w u2) := BU.out.trans (b2.mono BU.out.size)
    clear b2 BU k0 k1 k2
    have RR : Hid (RdI (u2.alloc (.cells #[.int .i64 c.o, .int .i64 c.h, .int .i64 c.t] 65)) (.slice (some ⟨u2.heap.size, 0, none⟩) 3 3) [c.o, c.h, c.t]) := by
      have hN := heap_alloc_new u2 (.cells #[.int .i64 c.o, .int .i64 c.h, .int .i64 c.t] 65)
      refine ⟨_, _, rfl, .inr ⟨_, _, rfl, ?_⟩⟩
      intro i z hz
      match i, hz with
      | 0, hz => cases hz; exact cell_of_row _ _ 0 _ _ _ hN
      | 1, hz => cases hz; exact cell_of_row _ _ 1 _ _ _ hN
      | 2, hz => cases hz; exact cell_of_row _ _ 2 _ _ _ hN
    have B3 : Hid (Below w.heap.size w (u2.alloc (.cells #[.int .i64 c.o, .int .i64 c.h, .int .i64 c.t] 65))) := B2.out.alloc B2.out.size _
    go_wp2_with fail
    refine (CJ.out _ _ _ RR.out (HT.out.later B3.out)).mono ?_
    rintro e u4 ⟨rfl, b4⟩
    have B4 : Hid (Below w.heap.size w u4) := B3.out.trans (b4.mono B3.out.size)
    clear b4 RR B3 B2 CJ
    go_wp2
    go_ret
    exact ⟨rfl, B4.out⟩

set_option maxRecDepth 100000 in
set_option maxHeartbeats 4000000 in
theorem walkFnExactCourseText (q : Co) (wq : (Lit.int .i64 q.o).wf = true ∧ (Lit.int .i64 q.h).wf = true ∧ (Lit.int .i64 q.t).wf = true) (w : World) (hT : TDec w) :
    Calls Tryd.prog 4 #[(.agg #[.int .i64 q.o, .int .i64 q.h, .int .i64 q.t])] w fun e w' => e = .returned (.bool true) ∧ Below w.heap.size w w' := by
  obtain ⟨l, h⟩ := textRes_of q
  have C1 := Lib.hid (fun w => specCText_any q l h w)
  have C2 := Lib.hid (fun w hT => implCText_any q l h w hT)
  have HT := Lib.hid hT
  clear h hT wq
  obtain ⟨A, hA⟩ : ∃ A : ByteArray, A = ⟨l.toArray⟩ := ⟨_, rfl⟩
  rw [← hA] at C1 C2
  clear hA
  go_enter Tryd.func4, Tryd.ntmps4
  go_wp2_with fail
  refine (toCourse_any q _).mono ?_
  rintro e w1 ⟨rfl, rfl⟩
  go_wp2_with fail
  refine (C1.out _).mono ?_
  rintro e w2 ⟨rfl, b2⟩
  have B2 : Hid (Below w.heap.size w w2) := Below.trans (by go_grown) (b2.mono (by simp only [World.size_alloc]; omega))
  have NQ := (b2.block w.heap.size (by simp only [World.size_alloc]; omega)).trans (show _ = some (.cells #[.int .i64 q.o, .int .i64 q.h, .int .i64 q.t] 39 (0, 0)) from by
    refine (Below.heap_alloc _ _ _ (by simp only [World.size_alloc]; omega)).trans ((Below.heap_alloc _ _ _ (by simp only [World.size_alloc]; omega)).trans ((Below.heap_alloc _ _ _ (by simp only [World.size_alloc]; omega)).trans (heap_alloc_new w _))))
  obtain ⟨⟨k0, k1, k2⟩, -, -⟩ := boxCo_at NQ
  clear b2 NQ C1
  go_wp2_with fail
  refine (toCourse_any q _).mono ?_
  rintro e w3 ⟨rfl, rfl⟩
  clear k0 k1 k2
  have sz := B2.out.size
  have B3 : Hid (Below w.heap.size w (((w2.alloc (.cells #[.int .i64 q.o, .int .i64 q.h, .int .i64 q.t] 39)).alloc (.cells #[.int .i64 q.o, .int .i64 q.h, .int .i64 q.t] 27)).alloc (.cells #[.int .i64 q.o, .int .i64 q.h, .int .i64 q.t] 27))) := by have := B2.out; show Below _ _ _; go_grown
  go_wp2_with fail
  refine (C2.out _ (HT.out.later B3.out)).mono ?_
  rintro e w4 ⟨rfl, b4⟩
  have B4 : Hid (Below w.heap.size w w4) := B3.out.trans (b4.mono B3.out.size)
  clear b4 B3 B2 C2
  go_wp2
  go_ret
  exact ⟨rfl, B4.out⟩
end Go.Proofs.YtkdecpnbbpmooacDoor
