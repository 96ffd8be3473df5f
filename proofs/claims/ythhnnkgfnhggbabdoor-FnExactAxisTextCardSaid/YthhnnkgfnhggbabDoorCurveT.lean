/- Texts of curves: the program's. (Written by tools/mkcvt.py.) -/
import Derived.Test.YthhnnkgfnhggbabDoorDec2
import Derived.Test.YthhnnkgfnhggbabDoorJoin
import Derived.Test.YthhnnkgfnhggbabDoorPoseT
import Derived.Test.YthhnnkgfnhggbabDoorCurves
import Derived.Deep.RegionHeld3
namespace Go.Proofs.YthhnnkgfnhggbabDoor
open Go.ChangeShapes Go.WideShapes Go.ChangeAt Go.RowKit
set_option linter.unusedVariables false
set_option linter.unusedSimpArgs false

/-- The text of a curve. -/
def textCv (x : Cv) : List UInt8 := Lib.itoa x.r ++ [58] ++ joinTo [44] [x.b, x.s] 2
theorem textCv_eq (x : Cv) : (⟨(textCv x).toArray⟩ : ByteArray) = (⟨(Lib.itoa x.r).toArray⟩ : ByteArray) ++ (⟨#[58]⟩ : ByteArray) ++ (⟨(joinTo [44] [x.b, x.s] 2).toArray⟩ : ByteArray) := by
  have e0 : (⟨#[58]⟩ : ByteArray) = ⟨([58] : List UInt8).toArray⟩ := rfl
  rw [e0, str_app, str_app]
  rfl
theorem joinTo2 (a b : Int) : joinTo [44] [a, b] 2 = Lib.itoa a ++ [44] ++ Lib.itoa b := by
  simp [joinTo, List.getD, List.append_assoc]
theorem join2_len {a b : Int} (ha : I64 a) (hb : I64 b) : (joinTo [44] [a, b] 2).length ≤ 50 := by
  have h1 := Lib.itoa_length_le a ha.1 ha.2
  have h2 := Lib.itoa_length_le b hb.1 hb.2
  rw [joinTo2]
  simp only [List.length_append, List.length_cons, List.length_nil]
  omega
theorem textCv_len {x : Cv} (h : I64 x.r ∧ I64 x.b ∧ I64 x.s) : (textCv x).length ≤ 80 := by
  have h1 := Lib.itoa_length_le x.r h.1.1 h.1.2
  have h2 := join2_len h.2.1 h.2.2
  simp only [textCv, List.length_append, List.length_cons, List.length_nil]
  omega
theorem box_ltC {w : World} {g : Nat} {o : Obj} (h : w.heap[g]? = some o) : g < w.heap.size := (Array.getElem?_eq_some_iff.1 h).1
theorem row2 {w : World} {p : Nat} {t : TypeId} {a b : Int} (h : w.heap[p]? = some (.cells #[.int .i64 a, .int .i64 b] t (0, 0))) : RdI w (.slice (some ⟨p, 0, none⟩) 2 2) [a, b] := by
  refine ⟨_, _, rfl, .inr ⟨_, _, rfl, ?_⟩⟩
  intro i z hz
  match i, hz with
  | 0, hz => cases hz; exact cell_of_row _ _ 0 _ _ _ h
  | 1, hz => cases hz; exact cell_of_row _ _ 1 _ _ _ h

set_option maxRecDepth 100000 in
set_option maxHeartbeats 8000000 in
theorem curveText_any (x : Cv) (h : I64 x.r ∧ I64 x.b ∧ I64 x.s) (w : World) (hT : TDec w) :
    Calls Tryd.prog 83 #[(.agg #[.int .i64 x.r, .int .i64 x.b, .int .i64 x.s])] w fun e w' => e = .returned (.string ⟨(textCv x).toArray⟩) ∧ Below w.heap.size w w' := by
  have lr := Lib.itoa_length_le x.r h.1.1 h.1.2
  have lb := join2_len h.2.1 h.2.2
  have HX : ∀ y ∈ [x.b, x.s], -9223372036854775808 ≤ y ∧ y ≤ 9223372036854775807 := by
    intro y hy
    simp only [List.mem_cons, List.mem_nil_iff, or_false] at hy
    rcases hy with rfl | rfl
    · exact h.2.1
    · exact h.2.2
  have CA := Lib.hid (fun w hT => decimal_any x.r h.1.1 h.1.2 w hT)
  have CB := Lib.hid (fun w a cap (hr : RdI w (.slice a 2 cap) [x.b, x.s]) hT => joinInts_any _ [x.b, x.s] [44] (by simp) w hr (by simp) HX hT)
  rw [show [x.b, x.s].length = 2 from rfl] at CB
  rw [textCv_eq]
  obtain ⟨A, hA⟩ : ∃ A : ByteArray, A = ⟨(Lib.itoa x.r).toArray⟩ := ⟨_, rfl⟩
  obtain ⟨B, hB⟩ : ∃ A : ByteArray, A = ⟨(joinTo [44] [x.b, x.s] 2).toArray⟩ := ⟨_, rfl⟩
  have sA : A.size ≤ 21 := by rw [hA]; exact lr
  have sB : B.size ≤ 50 := by rw [hB]; exact lb
  rw [← hA, ← hB]
  rw [← hA] at CA
  rw [← hB] at CB
  have s2 : (A ++ (⟨#[58]⟩ : ByteArray)).size = A.size + 1 := by rw [ByteArray.size_append]; rfl
  have sk2 : ¬ 9223372036854775807 < A.size + 1 := by omega
  have sk3 : ¬ 9223372036854775807 < A.size + 1 + B.size := by omega
  have HT := Lib.hid hT
  clear hA hB lr lb HX h hT
  go_enter Tryd.func83, Tryd.ntmps83
  go_wp2_with fail
  obtain ⟨g, hg⟩ : ∃ g, g = w.heap.size := ⟨_, rfl⟩
  generalize hx0 : w.alloc (.cells #[.int .i64 x.r, .int .i64 x.b, .int .i64 x.s] 62) = w0
  have B0 : Hid (Below w.heap.size w w0) := by rw [← hx0]; show Below _ _ _; go_grown
  have N0 : Hid (w0.heap[g]? = some (.cells #[.int .i64 x.r, .int .i64 x.b, .int .i64 x.s] 62 (0, 0))) := by rw [← hx0, hg]; exact heap_alloc_new _ _
  have KS : Hid (∀ w', Below w0.heap.size w0 w' → (w'.cell? ⟨g, 0, none⟩ = some (.int .i64 x.r) ∧ w'.cell? ⟨g, 1, none⟩ = some (.int .i64 x.b) ∧ w'.cell? ⟨g, 2, none⟩ = some (.int .i64 x.s))) := fun w' b => (boxCv_at ((b.block g (box_ltC N0.out)).trans N0.out)).1
  have HT0 := Lib.hid (HT.out.later B0.out)
  rw [← hg]
  clear hx0 hg HT N0
  go_wp2_with fail
  refine wp_region_held_drew (S := fun w' => (w'.cell? ⟨g, 0, none⟩ = some (.int .i64 x.r) ∧ w'.cell? ⟨g, 1, none⟩ = some (.int .i64 x.b) ∧ w'.cell? ⟨g, 2, none⟩ = some (.int .i64 x.s))) (by kernel_rfl) (KS.out _ (Below.refl _ _).drew) (fun hHeld => ?_)
  have D0 : Hid (Below w0.heap.size w0 (World.drew w0)) := (Below.refl _ _).drew
  refine wpAnyH_take (i := 0) (v := ?_) (by (simp only [List.getElem?_toArray, List.getElem?_cons_succ, List.getElem?_cons_zero]); (try exact rfl)) (by kernel_rfl) (by kernel_rfl) (by kernel_rfl) (by intro _ _ _ h; exact h) (Or.inl ⟨by rfl, ?_⟩) (by assumption) ?_
  rotate_left
  · intro w hSw
    try dsimp only at hSw
    go_simp
    try with_reducible rfl
  try simp only [Act.put, List.setIfInBounds_toArray, List.set_cons_zero, List.set_cons_succ]
  refine wpAnyH_take (i := 1) (v := ?_) (by (simp only [List.getElem?_toArray, List.getElem?_cons_succ, List.getElem?_cons_zero]); (try exact rfl)) (by kernel_rfl) (by kernel_rfl) (by kernel_rfl) (by intro _ _ _ h; exact h) (Or.inl ⟨by rfl, ?_⟩) (by assumption) ?_
  rotate_left
  · intro w hSw
    try dsimp only at hSw
    go_simp
    try with_reducible rfl
  try simp only [Act.put, List.setIfInBounds_toArray, List.set_cons_zero, List.set_cons_succ]
  refine wpAnyH_take (i := 4) (v := ?_) (by (simp only [List.getElem?_toArray, List.getElem?_cons_succ, List.getElem?_cons_zero]); (try exact rfl)) (by kernel_rfl) (by kernel_rfl) (by kernel_rfl) (by intro _ _ _ h; exact h) (Or.inl ⟨by rfl, ?_⟩) (by assumption) ?_
  rotate_left
  · intro w hSw
    try dsimp only at hSw
    go_simp
    try with_reducible rfl
  try simp only [Act.put, List.setIfInBounds_toArray, List.set_cons_zero, List.set_cons_succ]
  refine wpAnyH_take (i := 5) (v := ?_) (by (simp only [List.getElem?_toArray, List.getElem?_cons_succ, List.getElem?_cons_zero]); (try exact rfl)) (by kernel_rfl) (by kernel_rfl) (by kernel_rfl) (by intro _ _ _ h; exact h) (Or.inl ⟨by rfl, ?_⟩) (by assumption) ?_
  rotate_left
  · intro w hSw
    try dsimp only at hSw
    go_simp
    try with_reducible rfl
  try simp only [Act.put, List.setIfInBounds_toArray, List.set_cons_zero, List.set_cons_succ]
  refine wpAnyH_take (i := 6) (v := ?_) (by (simp only [List.getElem?_toArray, List.getElem?_cons_succ, List.getElem?_cons_zero]); (try exact rfl)) (by kernel_rfl) (by kernel_rfl) (by kernel_rfl) (by intro _ _ _ h; exact h) (Or.inl ⟨by rfl, ?_⟩) (by assumption) ?_
  rotate_left
  · intro w hSw
    try dsimp only at hSw
    go_simp
    try with_reducible rfl
  try simp only [Act.put, List.setIfInBounds_toArray, List.set_cons_zero, List.set_cons_succ]
  refine wpAnyH_take (i := 7) (v := ?_) (by (simp only [List.getElem?_toArray, List.getElem?_cons_succ, List.getElem?_cons_zero]); (try exact rfl)) (by kernel_rfl) (by kernel_rfl) (by kernel_rfl) (by intro _ _ _ h; exact h) (Or.inl ⟨by rfl, ?_⟩) (by assumption) ?_
  rotate_left
  · intro w hSw
    try dsimp only at hSw
    go_simp
    try with_reducible rfl
  try simp only [Act.put, List.setIfInBounds_toArray, List.set_cons_zero, List.set_cons_succ]
  refine wpAnyH_ready (rs := [2, 8]) (by kernel_rfl) (by simp) ?_
  refine (AllReadyH.cons (by (simp only [List.getElem?_toArray, List.getElem?_cons_succ, List.getElem?_cons_zero]); (try exact rfl)) (fun K hK => ?_) (AllReadyH.cons (by (simp only [List.getElem?_toArray, List.getElem?_cons_succ, List.getElem?_cons_zero]); (try exact rfl)) (fun K hK => ?_) AllReadyH.nil))
  · go_simp
    go_at_call 87
    refine (CA.out _ (HT0.out.later D0.out)).mono ?_
    rintro e u_1 ⟨rfl, bb⟩
    have Du_1 : Hid (Below w0.heap.size w0 u_1) := Below.trans D0.out (bb.mono D0.out.size)
    clear bb
    (first | refine hK.out _ _ ?_ (fun hHeld => ?_) | (go_wp2_with fail; refine hK.out _ _ ?_ (fun hHeld => ?_)))
    · try dsimp only
      exact KS.out _ Du_1.out
    clear hK K
    try simp only [Act.put, List.setIfInBounds_toArray, List.set_cons_zero, List.set_cons_succ]
    refine wpAnyH_take (i := 3) (v := ?_) (by (simp only [List.getElem?_toArray, List.getElem?_cons_succ, List.getElem?_cons_zero]); (try exact rfl)) (by kernel_rfl) (by kernel_rfl) (by kernel_rfl) (by intro _ _ _ h; exact h) (Or.inl ⟨by rfl, ?_⟩) (by assumption) ?_
    rotate_left
    · intro w hSw
      try dsimp only at hSw
      go_simp
      try with_reducible rfl
    try simp only [Act.put, List.setIfInBounds_toArray, List.set_cons_zero, List.set_cons_succ]
    refine wpAnyH_ready (rs := [8]) (by kernel_rfl) (by simp) ?_
    refine (AllReadyH.cons (by (simp only [List.getElem?_toArray, List.getElem?_cons_succ, List.getElem?_cons_zero]); (try exact rfl)) (fun K hK => ?_) AllReadyH.nil)
    go_simp
    generalize hA : World.alloc u_1 (.cells #[.int .i64 x.b, .int .i64 x.s] 2) = a_2
    obtain ⟨pr, hp⟩ : ∃ p, p = u_1.heap.size := ⟨_, rfl⟩
    have ba : Below u_1.heap.size u_1 a_2 := by rw [← hA]; exact Below.alloc (Below.refl _ _) (Nat.le_refl _) _
    have Zra_2 := Lib.hid (show a_2.heap[pr]? = some (.cells #[.int .i64 x.b, .int .i64 x.s] 2 (0, 0)) from by rw [← hA, hp]; exact heap_alloc_new _ _)
    have Da_2 : Hid (Below w0.heap.size w0 a_2) := Below.trans Du_1.out (ba.mono Du_1.out.size)
    rw [← hp]
    clear hA hp ba
    refine hK.out _ _ ?_ (fun hHeld => ?_)
    · try dsimp only
      exact KS.out _ Da_2.out
    clear hK K
    try simp only [Act.put, List.setIfInBounds_toArray, List.set_cons_zero, List.set_cons_succ]
    refine wpAnyH_ready (rs := [9]) (by kernel_rfl) (by simp) ?_
    refine (AllReadyH.cons (by (simp only [List.getElem?_toArray, List.getElem?_cons_succ, List.getElem?_cons_zero]); (try exact rfl)) (fun K hK => ?_) AllReadyH.nil)
    go_simp
    have RR := row2 Zra_2.out
    go_at_call 128
    refine (CB.out _ _ _ RR (HT0.out.later Da_2.out)).mono ?_
    rintro e u_3 ⟨rfl, bb⟩
    clear RR
    have Du_3 : Hid (Below w0.heap.size w0 u_3) := Below.trans Da_2.out (bb.mono Da_2.out.size)
    have Zru_3 := Lib.hid ((bb.block pr (box_ltC Zra_2.out)).trans Zra_2.out)
    clear bb
    (first | refine hK.out _ _ ?_ (fun hHeld => ?_) | (go_wp2_with fail; refine hK.out _ _ ?_ (fun hHeld => ?_)))
    · try dsimp only
      exact KS.out _ Du_3.out
    clear hK K
    try simp only [Act.put, List.setIfInBounds_toArray, List.set_cons_zero, List.set_cons_succ]
    refine wpAnyH_take (i := 10) (v := ?_) (by (simp only [List.getElem?_toArray, List.getElem?_cons_succ, List.getElem?_cons_zero]); (try exact rfl)) (by kernel_rfl) (by kernel_rfl) (by kernel_rfl) (by intro _ _ _ h; exact h) (Or.inl ⟨by rfl, ?_⟩) (by assumption) ?_
    rotate_left
    · intro w hSw
      try dsimp only at hSw
      go_simp
      try with_reducible rfl
    try simp only [Act.put, List.setIfInBounds_toArray, List.set_cons_zero, List.set_cons_succ]
    refine wpAnyH_take (i := 11) (v := ?_) (by (simp only [List.getElem?_toArray, List.getElem?_cons_succ, List.getElem?_cons_zero]); (try exact rfl)) (by kernel_rfl) (by kernel_rfl) (by kernel_rfl) (by intro _ _ _ h; exact h) (Or.inl ⟨by rfl, ?_⟩) (by assumption) ?_
    rotate_left
    · intro w hSw
      try dsimp only at hSw
      go_simp
      try with_reducible rfl
    try simp only [Act.put, List.setIfInBounds_toArray, List.set_cons_zero, List.set_cons_succ]
    refine wpAnyH_done (by kernel_rfl) ?_ _
    have BE : Hid (Below w.heap.size w u_3) := B0.out.trans (Du_3.out.mono B0.out.size)
    clear KS
    go_wp2
    go_ret
    exact ⟨rfl, BE.out⟩
  · go_simp
    generalize hA : World.drew (World.alloc w0 (.cells #[.int .i64 x.b, .int .i64 x.s] 2)) = a_4
    obtain ⟨pr, hp⟩ : ∃ p, p = w0.heap.size := ⟨_, rfl⟩
    have ba : Below (World.drew w0).heap.size (World.drew w0) a_4 := by rw [← hA]; exact (Below.alloc (Below.refl _ _) (Nat.le_refl _) _ : Below _ (World.drew w0) (World.alloc (World.drew w0) _))
    have Zra_4 := Lib.hid (show a_4.heap[pr]? = some (.cells #[.int .i64 x.b, .int .i64 x.s] 2 (0, 0)) from by rw [← hA, hp]; exact heap_alloc_new w0 _)
    have Da_4 : Hid (Below w0.heap.size w0 a_4) := Below.trans D0.out (ba.mono D0.out.size)
    rw [← hp]
    clear hA hp ba
    refine hK.out _ _ ?_ (fun hHeld => ?_)
    · try dsimp only
      exact KS.out _ Da_4.out
    clear hK K
    try simp only [Act.put, List.setIfInBounds_toArray, List.set_cons_zero, List.set_cons_succ]
    refine wpAnyH_ready (rs := [2]) (by kernel_rfl) (by simp) ?_
    refine (AllReadyH.cons (by (simp only [List.getElem?_toArray, List.getElem?_cons_succ, List.getElem?_cons_zero]); (try exact rfl)) (fun K hK => ?_) AllReadyH.nil)
    go_simp
    go_at_call 87
    refine (CA.out _ (HT0.out.later Da_4.out)).mono ?_
    rintro e u_5 ⟨rfl, bb⟩
    have Du_5 : Hid (Below w0.heap.size w0 u_5) := Below.trans Da_4.out (bb.mono Da_4.out.size)
    have Zru_5 := Lib.hid ((bb.block pr (box_ltC Zra_4.out)).trans Zra_4.out)
    clear bb
    (first | refine hK.out _ _ ?_ (fun hHeld => ?_) | (go_wp2_with fail; refine hK.out _ _ ?_ (fun hHeld => ?_)))
    · try dsimp only
      exact KS.out _ Du_5.out
    clear hK K
    try simp only [Act.put, List.setIfInBounds_toArray, List.set_cons_zero, List.set_cons_succ]
    refine wpAnyH_take (i := 3) (v := ?_) (by (simp only [List.getElem?_toArray, List.getElem?_cons_succ, List.getElem?_cons_zero]); (try exact rfl)) (by kernel_rfl) (by kernel_rfl) (by kernel_rfl) (by intro _ _ _ h; exact h) (Or.inl ⟨by rfl, ?_⟩) (by assumption) ?_
    rotate_left
    · intro w hSw
      try dsimp only at hSw
      go_simp
      try with_reducible rfl
    try simp only [Act.put, List.setIfInBounds_toArray, List.set_cons_zero, List.set_cons_succ]
    refine wpAnyH_ready (rs := [9]) (by kernel_rfl) (by simp) ?_
    refine (AllReadyH.cons (by (simp only [List.getElem?_toArray, List.getElem?_cons_succ, List.getElem?_cons_zero]); (try exact rfl)) (fun K hK => ?_) AllReadyH.nil)
    go_simp
    have RR := row2 Zru_5.out
    go_at_call 128
    refine (CB.out _ _ _ RR (HT0.out.later Du_5.out)).mono ?_
    rintro e u_6 ⟨rfl, bb⟩
    clear RR
    have Du_6 : Hid (Below w0.heap.size w0 u_6) := Below.trans Du_5.out (bb.mono Du_5.out.size)
    have Zru_6 := Lib.hid ((bb.block pr (box_ltC Zru_5.out)).trans Zru_5.out)
    clear bb
    (first | refine hK.out _ _ ?_ (fun hHeld => ?_) | (go_wp2_with fail; refine hK.out _ _ ?_ (fun hHeld => ?_)))
    · try dsimp only
      exact KS.out _ Du_6.out
    clear hK K
    try simp only [Act.put, List.setIfInBounds_toArray, List.set_cons_zero, List.set_cons_succ]
    refine wpAnyH_take (i := 10) (v := ?_) (by (simp only [List.getElem?_toArray, List.getElem?_cons_succ, List.getElem?_cons_zero]); (try exact rfl)) (by kernel_rfl) (by kernel_rfl) (by kernel_rfl) (by intro _ _ _ h; exact h) (Or.inl ⟨by rfl, ?_⟩) (by assumption) ?_
    rotate_left
    · intro w hSw
      try dsimp only at hSw
      go_simp
      try with_reducible rfl
    try simp only [Act.put, List.setIfInBounds_toArray, List.set_cons_zero, List.set_cons_succ]
    refine wpAnyH_take (i := 11) (v := ?_) (by (simp only [List.getElem?_toArray, List.getElem?_cons_succ, List.getElem?_cons_zero]); (try exact rfl)) (by kernel_rfl) (by kernel_rfl) (by kernel_rfl) (by intro _ _ _ h; exact h) (Or.inl ⟨by rfl, ?_⟩) (by assumption) ?_
    rotate_left
    · intro w hSw
      try dsimp only at hSw
      go_simp
      try with_reducible rfl
    try simp only [Act.put, List.setIfInBounds_toArray, List.set_cons_zero, List.set_cons_succ]
    refine wpAnyH_done (by kernel_rfl) ?_ _
    have BE : Hid (Below w.heap.size w u_6) := B0.out.trans (Du_6.out.mono B0.out.size)
    clear KS
    go_wp2
    go_ret
    exact ⟨rfl, BE.out⟩
end Go.Proofs.YthhnnkgfnhggbabDoor
