/- MirrorTube and QuarterTube: the specification, and both sides. -/
import Derived.Test.YtpphbjgaldidaaaImages
import Derived.Test.YtpphbjgaldidaaaExKit
import Derived.Deep.AppendLies
namespace Go.Proofs.Ytpphbjgaldidaaa
open Go.ChangeShapes Go.WideShapes Go.ChangeAt Go.RowKit
set_option linter.unusedVariables false
set_option linter.unusedSimpArgs false


set_option maxRecDepth 100000 in
set_option maxHeartbeats 4000000 in
theorem specMirrorTube_yes (v : Value) (xs : List Rg) (w : World) (h : RdS 2 encRg w v xs) (lz : xs.length ≤ 1048576) (ok : OkT xs) :
    Calls Try.prog 11 #[v] w fun e w' => ∃ v', e = .returned (.tuple #[v', .bool true]) ∧ OwnS 33 2 encRg w' w.heap.size v' (xs.map mirR) ∧ Below w.heap.size w w' := by
  obtain ⟨i0, hi, hz0, hz1, hz2⟩ := info_parts info_Rg
  have HC := Lib.hid h
  have HA := Lib.hid ok.2.1
  have c1 := Lib.hid (fun w (h : RdS 2 encRg w v xs) => l03Tube_any v xs w h lz true ⟨fun _ => ok, fun _ => rfl⟩)
  obtain ⟨a, cap, rfl, _⟩ := h
  obtain ⟨N, hN⟩ : ∃ N, N = xs.length := ⟨_, rfl⟩
  have n60 : N ≤ 60 := by have := ok.1; omega
  rw [← hN] at HC c1
  rw [← hN]
  have HN := Lib.hid hN
  clear hN lz ok
  go_enter Try.func11, Try.ntmps11
  go_wp2_with fail
  refine (c1.out _ HC.out).mono ?_
  rintro e w1 ⟨rfl, b1⟩
  have z1 := b1.size
  have B1 := Lib.hid b1
  clear b1 c1
  go_wp2
  have O0 : Hid (OwnS 33 2 encRg (w1.alloc (.cells #[] 33)) w1.heap.size (.slice (some ⟨w1.heap.size, 0, none⟩) 0 0) ((xs.take 0).map mirR)) := World.ownsRow_lit (e := 33) (size := 2) w1 #[] 0 (Nat.le_refl _) (by decide) rfl
  have B0 : Hid (Below w1.heap.size w1 (w1.alloc (.cells #[] 33))) := (Below.refl _ _).alloc (Nat.le_refl _) _
  go_loopw [4, 5] (fun ov iv wr => ∃ (k g c1 : Nat), k ≤ N ∧ iv = .int .i64 k ∧ ov = .slice (some ⟨g, 0, none⟩) k c1 ∧ Hid (OwnS 33 2 encRg wr w1.heap.size (.slice (some ⟨g, 0, none⟩) k c1) ((xs.take k).map mirR)) ∧ Hid (Below w1.heap.size w1 wr)) (fun _ iv _ => N - (intOf iv).toNat)
  case atStart => exact ⟨0, w1.heap.size, 0, by omega, rfl, rfl, O0, B0⟩
  case round =>
    obtain ⟨k, g, c1, hk, rfl, rfl, ho, B⟩ := hrel
    clear O0 B0
    have hsz := B.out.size
    by_cases hlt : k < N
    · obtain ⟨c, hx⟩ : ∃ x, xs[k]? = some x := ⟨_, List.getElem?_eq_getElem (by have := HN.out; omega)⟩
      obtain ⟨ba, oa, rfl, e0, e1⟩ := (HC.out.later (B1.out.trans (B.out.mono (by omega)))).at2 k c hx
      have hc := HA.out c (List.mem_of_getElem? hx)
      have a0 : 0 ≤ c.y := hc.2.1
      have a1 : c.y ≤ 15 := hc.2.2
      have q1 : IntKind.i64.wrap (24 - c.y) = 24 - c.y := IntWalk.i64_in _ (by omega)
      have q2 : IntKind.i64.wrap ((24 - c.y).tmod 16) = (24 - c.y) % 16 := by rw [Int.tmod_eq_emod_of_nonneg (by omega)]; exact IntWalk.i64_in _ (by omega)
      have q3 : IntKind.i64.wrap ((24 - c.y) % 16) = (24 - c.y) % 16 := IntWalk.i64_in _ (by omega)
      have own : Hid (wr.ownsRow w1.heap.size 33 2 (.slice (some ⟨g, 0, none⟩) k c1) k (((xs.take k).map mirR).flatMap encRg)) := by
        have e := ho.out
        unfold OwnS at e
        rw [List.length_map, List.length_take, Nat.min_eq_left (by have := HN.out; omega)] at e
        exact e
      have lg := own.out.lt
      have HX := Lib.hid hx
      clear hx hc
      have KS : Hid (∀ w', Below wr.heap.size wr w' → (w'.cell? ⟨ba, oa + k * 2, none⟩ = some (.int .i64 c.k) ∧ w'.cell? ⟨ba, oa + k * 2 + 1, none⟩ = some (.int .i64 c.y))) := fun w' b => ⟨cell_later b e0, cell_later b e1⟩
      have lb : ba < w.heap.size := by
        obtain ⟨ba', oa', hba, u0, _⟩ := HC.out.at2 k c HX.out
        simp only [Option.some.injEq, Addr.mk.injEq, and_true] at hba
        rw [hba.1]
        exact block_lt_of_cell u0
      have wg := (lg g rfl).1
      have NB : Hid (ba ≠ g) := by show _ ≠ _; omega
      clear e0 e1
      go_wp2
      go_region_held3 (fun w' => (w'.cell? ⟨ba, oa + k * 2, none⟩ = some (.int .i64 c.k) ∧ w'.cell? ⟨ba, oa + k * 2 + 1, none⟩ = some (.int .i64 c.y)))
        (first | exact KS.out _ (Below.refl _ _).drew | exact KA.out | exact KS.out _ ((Below.refl _ _).drew.alloc (Nat.le_refl _) _))
        ((refine step_append_lies _ (by rfl) _ _ _ (by rfl) w1.heap.size 33 i0 _ 2 16 Try.underlying25 hi hz0 hz1 hz2 rfl (by omega) _ _ _ (by rfl) ((own.out.alloc _).drew) ⟨wr.heap.size, 0, none⟩ 1 1 [.int .i64 c.k, .int .i64 ((24 - c.y).tmod 16)] (by rfl) (by rfl) (World.news_of_block (cs := #[.int .i64 c.k, .int .i64 ((24 - c.y).tmod 16)]) (t := 33) (fr := (0, 0)) (heap_alloc_new wr _)) (by simp [Value.oneCell']) (by omega) (by unfold maxLen; omega) (by omega) (by simp; omega) (wr.heap.size + 1) (by simp) ?_; intro gg cap1 w5 hown1 hgrow hat hlt'; have KA : Hid ((w5.cell? ⟨ba, oa + k * 2, none⟩ = some (.int .i64 c.k) ∧ w5.cell? ⟨ba, oa + k * 2 + 1, none⟩ = some (.int .i64 c.y))) := (by
          have gb : wr.grownBy w5 (some g) := grownBy_trans' (grownBy_alloc_drew wr _ _) hgrow
          have bl := gb.block ba (by omega) (fun e => NB.out (Option.some.inj e))
          obtain ⟨u0, u1⟩ := KS.out _ (Below.refl _ _)
          exact ⟨(World.cell?_of_block (w := wr) (a := ⟨ba, oa + k * 2, none⟩) bl).trans u0, (World.cell?_of_block (w := wr) (a := ⟨ba, oa + k * 2 + 1, none⟩) bl).trans u1⟩)))
      have gb : wr.grownBy w5 (some g) := grownBy_trans' (grownBy_alloc_drew wr _ _) hgrow
      have B5 : Hid (Below w1.heap.size w1 w5) := B.out.grown gb hsz (fun j e => by cases e; exact (lg g rfl).1)
      have O5 : Hid (OwnS 33 2 encRg w5 w1.heap.size (.slice (some ⟨gg, 0, none⟩) (k + 1) cap1) ((xs.take (k + 1)).map mirR)) := by
        show OwnS _ _ _ _ _ _ _
        unfold OwnS
        rw [List.length_map, List.length_take, Nat.min_eq_left (by have := HN.out; omega), List.take_add_one, HX.out, Option.toList_some, List.map_append, List.flatMap_append, List.map_take]
        rw [List.map_take, Int.tmod_eq_emod_of_nonneg (show 0 ≤ 24 - c.y by omega)] at hown1
        exact hown1
      clear hown1 hgrow hat hlt' gb ho B own lg q1 q2 q3 KS KA NB wg lb
      go_wp2
      exact ⟨⟨k + 1, gg, cap1, by omega, by go_num, rfl, O5, B5⟩, by simp only [intOf]; omega⟩
    · obtain rfl : k = N := by omega
      have HO : Hid (OwnS 33 2 encRg wr w1.heap.size (.slice (some ⟨g, 0, none⟩) k c1) (xs.map mirR)) := by
        have e := ho.out
        rw [List.take_of_length_le (by have := HN.out; omega)] at e
        exact e
      have BW : Hid (Below w.heap.size w wr) := B1.out.trans (B.out.mono (by omega))
      clear ho
      go_wp2
      go_ret2
      exact ⟨_, rfl, HO.out.mono (by omega), BW.out⟩

theorem specMirrorTube_no (v : Value) (xs : List Rg) (w : World) (h : RdS 2 encRg w v xs) (lz : xs.length ≤ 1048576) (ok : ¬ OkT xs) :
    Calls Try.prog 11 #[v] w fun e w' => ∃ v', e = .returned (.tuple #[v', .bool false]) ∧ OwnS 33 2 encRg w' w.heap.size v' [] ∧ Below w.heap.size w w' := by
  have HC := Lib.hid h
  have c1 := Lib.hid (fun w (h : RdS 2 encRg w v xs) => l03Tube_any v xs w h lz false ⟨fun e => (by cases e), fun e => absurd e ok⟩)
  obtain ⟨a, cap, rfl, _⟩ := h
  clear lz ok
  go_enter Try.func11, Try.ntmps11
  go_wp2_with fail
  refine (c1.out _ HC.out).mono ?_
  rintro e w1 ⟨rfl, b1⟩
  have B1 := Lib.hid b1
  clear b1 c1
  go_wp2
  go_ret2
  exact ⟨_, rfl, OwnS.nil _ _, B1.out⟩

theorem image_mirrored_no (v : Value) (xs : List Rg) (w : World) (h : RdS 2 encRg w v xs) (lz : xs.length ≤ 1048576) (ok : ¬ OkT xs) :
    Calls Try.prog 25 #[v, .func (.func 26) #[] #[]] w fun e w' => ∃ v', e = .returned (.tuple #[v', .bool false]) ∧ OwnS 33 2 encRg w' w.heap.size v' [] ∧ Below w.heap.size w w' := by
  have HC := Lib.hid h
  have c1 := Lib.hid (fun w (h : RdS 2 encRg w v xs) => implTube_any v xs w h lz false ⟨fun e => (by cases e), fun e => absurd e ok⟩)
  obtain ⟨a, cap, rfl, _⟩ := h
  clear lz ok
  go_enter Try.func25, Try.ntmps25
  go_wp2_with fail
  refine (c1.out _ HC.out).mono ?_
  rintro e w1 ⟨rfl, b1⟩
  have B1 := Lib.hid b1
  clear b1 c1
  go_wp2
  go_ret2
  exact ⟨_, rfl, OwnS.nil _ _, B1.out⟩

theorem implMirrorTube_any (v : Value) (a : Option Addr) (cap : Nat) (xs : List Rg) (ys : List Rg) (b : Bool) (w : World) (hv : v = .slice a xs.length cap)
    (c : Hid (∀ w, RdS 2 encRg w v xs → Calls Try.prog 25 #[v, .func (.func 26) #[] #[]] w fun e w' => ∃ v', e = .returned (.tuple #[v', .bool b]) ∧ OwnS 33 2 encRg w' w.heap.size v' ys ∧ Below w.heap.size w w')) (h : Hid (RdS 2 encRg w v xs)) :
    Calls Try.prog 12 #[v] w fun e w' => ∃ v', e = .returned (.tuple #[v', .bool b]) ∧ OwnS 33 2 encRg w' w.heap.size v' ys ∧ Below w.heap.size w w' := by
  subst hv
  go_enter Try.func12, Try.ntmps12
  go_wp2_with fail
  refine (c.out _ h.out).mono ?_
  rintro e w1 ⟨v1, rfl, o1, b1⟩
  have B1 := Lib.hid b1
  have O1 := Lib.hid o1
  clear b1 o1
  go_wp2
  go_ret2
  exact ⟨_, rfl, O1.out, B1.out⟩

theorem exMirrorTube (xs : List Rg) (lz : xs.length ≤ 1048576) : ∃ (ys : List Rg) (b : Bool), ys.length ≤ 1048576 ∧
    Hid (∀ (w : World) (v0 : Value), (fun _ => True) w → RdS 2 encRg w v0 xs → Calls Try.prog 11 #[v0] w fun e w' => ∃ u0, e = .returned (.tuple #[u0, .bool b]) ∧ OwnS 33 2 encRg w' w.heap.size u0 ys ∧ Below w.heap.size w w') ∧
    Hid (∀ (w : World) (v0 : Value), (fun _ => True) w → RdS 2 encRg w v0 xs → Calls Try.prog 12 #[v0] w fun e w' => ∃ u0, e = .returned (.tuple #[u0, .bool b]) ∧ OwnS 33 2 encRg w' w.heap.size u0 ys ∧ Below w.heap.size w w') := by
  by_cases ok : OkT xs
  · refine ⟨xs.map mirR, true, by rw [List.length_map]; exact lz, fun w v _ h => specMirrorTube_yes v xs w h lz ok, fun w v _ h => ?_⟩
    obtain ⟨a, cap, hv, _⟩ := id h
    exact implMirrorTube_any v a cap xs _ _ w hv (fun w h => image_mirrored v xs w h lz ok) h
  · refine ⟨[], false, by simp, fun w v _ h => specMirrorTube_no v xs w h lz ok, fun w v _ h => ?_⟩
    obtain ⟨a, cap, hv, _⟩ := id h
    exact implMirrorTube_any v a cap xs _ _ w hv (fun w h => image_mirrored_no v xs w h lz ok) h

set_option maxRecDepth 100000 in
set_option maxHeartbeats 4000000 in
theorem specQuarterTube_yes (v : Value) (xs : List Rg) (w : World) (h : RdS 2 encRg w v xs) (lz : xs.length ≤ 1048576) (ok : OkT xs) :
    Calls Try.prog 15 #[v] w fun e w' => ∃ v', e = .returned (.tuple #[v', .bool true]) ∧ OwnS 33 2 encRg w' w.heap.size v' (xs.map quaR) ∧ Below w.heap.size w w' := by
  obtain ⟨i0, hi, hz0, hz1, hz2⟩ := info_parts info_Rg
  have HC := Lib.hid h
  have HA := Lib.hid ok.2.1
  have c1 := Lib.hid (fun w (h : RdS 2 encRg w v xs) => l03Tube_any v xs w h lz true ⟨fun _ => ok, fun _ => rfl⟩)
  obtain ⟨a, cap, rfl, _⟩ := h
  obtain ⟨N, hN⟩ : ∃ N, N = xs.length := ⟨_, rfl⟩
  have n60 : N ≤ 60 := by have := ok.1; omega
  rw [← hN] at HC c1
  rw [← hN]
  have HN := Lib.hid hN
  clear hN lz ok
  go_enter Try.func15, Try.ntmps15
  go_wp2_with fail
  refine (c1.out _ HC.out).mono ?_
  rintro e w1 ⟨rfl, b1⟩
  have z1 := b1.size
  have B1 := Lib.hid b1
  clear b1 c1
  go_wp2
  have O0 : Hid (OwnS 33 2 encRg (w1.alloc (.cells #[] 33)) w1.heap.size (.slice (some ⟨w1.heap.size, 0, none⟩) 0 0) ((xs.take 0).map quaR)) := World.ownsRow_lit (e := 33) (size := 2) w1 #[] 0 (Nat.le_refl _) (by decide) rfl
  have B0 : Hid (Below w1.heap.size w1 (w1.alloc (.cells #[] 33))) := (Below.refl _ _).alloc (Nat.le_refl _) _
  go_loopw [4, 5] (fun ov iv wr => ∃ (k g c1 : Nat), k ≤ N ∧ iv = .int .i64 k ∧ ov = .slice (some ⟨g, 0, none⟩) k c1 ∧ Hid (OwnS 33 2 encRg wr w1.heap.size (.slice (some ⟨g, 0, none⟩) k c1) ((xs.take k).map quaR)) ∧ Hid (Below w1.heap.size w1 wr)) (fun _ iv _ => N - (intOf iv).toNat)
  case atStart => exact ⟨0, w1.heap.size, 0, by omega, rfl, rfl, O0, B0⟩
  case round =>
    obtain ⟨k, g, c1, hk, rfl, rfl, ho, B⟩ := hrel
    clear O0 B0
    have hsz := B.out.size
    by_cases hlt : k < N
    · obtain ⟨c, hx⟩ : ∃ x, xs[k]? = some x := ⟨_, List.getElem?_eq_getElem (by have := HN.out; omega)⟩
      obtain ⟨ba, oa, rfl, e0, e1⟩ := (HC.out.later (B1.out.trans (B.out.mono (by omega)))).at2 k c hx
      have hc := HA.out c (List.mem_of_getElem? hx)
      have a0 : 0 ≤ c.y := hc.2.1
      have a1 : c.y ≤ 15 := hc.2.2
      have q1 : IntKind.i64.wrap (c.y + 4) = c.y + 4 := IntWalk.i64_in _ (by omega)
      have q2 : IntKind.i64.wrap ((c.y + 4).tmod 16) = (c.y + 4) % 16 := by rw [Int.tmod_eq_emod_of_nonneg (by omega)]; exact IntWalk.i64_in _ (by omega)
      have q3 : IntKind.i64.wrap ((c.y + 4) % 16) = (c.y + 4) % 16 := IntWalk.i64_in _ (by omega)
      have own : Hid (wr.ownsRow w1.heap.size 33 2 (.slice (some ⟨g, 0, none⟩) k c1) k (((xs.take k).map quaR).flatMap encRg)) := by
        have e := ho.out
        unfold OwnS at e
        rw [List.length_map, List.length_take, Nat.min_eq_left (by have := HN.out; omega)] at e
        exact e
      have lg := own.out.lt
      have HX := Lib.hid hx
      clear hx hc
      have KS : Hid (∀ w', Below wr.heap.size wr w' → (w'.cell? ⟨ba, oa + k * 2, none⟩ = some (.int .i64 c.k) ∧ w'.cell? ⟨ba, oa + k * 2 + 1, none⟩ = some (.int .i64 c.y))) := fun w' b => ⟨cell_later b e0, cell_later b e1⟩
      have lb : ba < w.heap.size := by
        obtain ⟨ba', oa', hba, u0, _⟩ := HC.out.at2 k c HX.out
        simp only [Option.some.injEq, Addr.mk.injEq, and_true] at hba
        rw [hba.1]
        exact block_lt_of_cell u0
      have wg := (lg g rfl).1
      have NB : Hid (ba ≠ g) := by show _ ≠ _; omega
      clear e0 e1
      go_wp2
      go_region_held3 (fun w' => (w'.cell? ⟨ba, oa + k * 2, none⟩ = some (.int .i64 c.k) ∧ w'.cell? ⟨ba, oa + k * 2 + 1, none⟩ = some (.int .i64 c.y)))
        (first | exact KS.out _ (Below.refl _ _).drew | exact KA.out | exact KS.out _ ((Below.refl _ _).drew.alloc (Nat.le_refl _) _))
        ((refine step_append_lies _ (by rfl) _ _ _ (by rfl) w1.heap.size 33 i0 _ 2 16 Try.underlying25 hi hz0 hz1 hz2 rfl (by omega) _ _ _ (by rfl) ((own.out.alloc _).drew) ⟨wr.heap.size, 0, none⟩ 1 1 [.int .i64 c.k, .int .i64 ((c.y + 4).tmod 16)] (by rfl) (by rfl) (World.news_of_block (cs := #[.int .i64 c.k, .int .i64 ((c.y + 4).tmod 16)]) (t := 33) (fr := (0, 0)) (heap_alloc_new wr _)) (by simp [Value.oneCell']) (by omega) (by unfold maxLen; omega) (by omega) (by simp; omega) (wr.heap.size + 1) (by simp) ?_; intro gg cap1 w5 hown1 hgrow hat hlt'; have KA : Hid ((w5.cell? ⟨ba, oa + k * 2, none⟩ = some (.int .i64 c.k) ∧ w5.cell? ⟨ba, oa + k * 2 + 1, none⟩ = some (.int .i64 c.y))) := (by
          have gb : wr.grownBy w5 (some g) := grownBy_trans' (grownBy_alloc_drew wr _ _) hgrow
          have bl := gb.block ba (by omega) (fun e => NB.out (Option.some.inj e))
          obtain ⟨u0, u1⟩ := KS.out _ (Below.refl _ _)
          exact ⟨(World.cell?_of_block (w := wr) (a := ⟨ba, oa + k * 2, none⟩) bl).trans u0, (World.cell?_of_block (w := wr) (a := ⟨ba, oa + k * 2 + 1, none⟩) bl).trans u1⟩)))
      have gb : wr.grownBy w5 (some g) := grownBy_trans' (grownBy_alloc_drew wr _ _) hgrow
      have B5 : Hid (Below w1.heap.size w1 w5) := B.out.grown gb hsz (fun j e => by cases e; exact (lg g rfl).1)
      have O5 : Hid (OwnS 33 2 encRg w5 w1.heap.size (.slice (some ⟨gg, 0, none⟩) (k + 1) cap1) ((xs.take (k + 1)).map quaR)) := by
        show OwnS _ _ _ _ _ _ _
        unfold OwnS
        rw [List.length_map, List.length_take, Nat.min_eq_left (by have := HN.out; omega), List.take_add_one, HX.out, Option.toList_some, List.map_append, List.flatMap_append, List.map_take]
        rw [List.map_take, Int.tmod_eq_emod_of_nonneg (show 0 ≤ c.y + 4 by omega)] at hown1
        exact hown1
      clear hown1 hgrow hat hlt' gb ho B own lg q1 q2 q3 KS KA NB wg lb
      go_wp2
      exact ⟨⟨k + 1, gg, cap1, by omega, by go_num, rfl, O5, B5⟩, by simp only [intOf]; omega⟩
    · obtain rfl : k = N := by omega
      have HO : Hid (OwnS 33 2 encRg wr w1.heap.size (.slice (some ⟨g, 0, none⟩) k c1) (xs.map quaR)) := by
        have e := ho.out
        rw [List.take_of_length_le (by have := HN.out; omega)] at e
        exact e
      have BW : Hid (Below w.heap.size w wr) := B1.out.trans (B.out.mono (by omega))
      clear ho
      go_wp2
      go_ret2
      exact ⟨_, rfl, HO.out.mono (by omega), BW.out⟩

theorem specQuarterTube_no (v : Value) (xs : List Rg) (w : World) (h : RdS 2 encRg w v xs) (lz : xs.length ≤ 1048576) (ok : ¬ OkT xs) :
    Calls Try.prog 15 #[v] w fun e w' => ∃ v', e = .returned (.tuple #[v', .bool false]) ∧ OwnS 33 2 encRg w' w.heap.size v' [] ∧ Below w.heap.size w w' := by
  have HC := Lib.hid h
  have c1 := Lib.hid (fun w (h : RdS 2 encRg w v xs) => l03Tube_any v xs w h lz false ⟨fun e => (by cases e), fun e => absurd e ok⟩)
  obtain ⟨a, cap, rfl, _⟩ := h
  clear lz ok
  go_enter Try.func15, Try.ntmps15
  go_wp2_with fail
  refine (c1.out _ HC.out).mono ?_
  rintro e w1 ⟨rfl, b1⟩
  have B1 := Lib.hid b1
  clear b1 c1
  go_wp2
  go_ret2
  exact ⟨_, rfl, OwnS.nil _ _, B1.out⟩

theorem image_quartered_no (v : Value) (xs : List Rg) (w : World) (h : RdS 2 encRg w v xs) (lz : xs.length ≤ 1048576) (ok : ¬ OkT xs) :
    Calls Try.prog 25 #[v, .func (.func 27) #[] #[]] w fun e w' => ∃ v', e = .returned (.tuple #[v', .bool false]) ∧ OwnS 33 2 encRg w' w.heap.size v' [] ∧ Below w.heap.size w w' := by
  have HC := Lib.hid h
  have c1 := Lib.hid (fun w (h : RdS 2 encRg w v xs) => implTube_any v xs w h lz false ⟨fun e => (by cases e), fun e => absurd e ok⟩)
  obtain ⟨a, cap, rfl, _⟩ := h
  clear lz ok
  go_enter Try.func25, Try.ntmps25
  go_wp2_with fail
  refine (c1.out _ HC.out).mono ?_
  rintro e w1 ⟨rfl, b1⟩
  have B1 := Lib.hid b1
  clear b1 c1
  go_wp2
  go_ret2
  exact ⟨_, rfl, OwnS.nil _ _, B1.out⟩

theorem implQuarterTube_any (v : Value) (a : Option Addr) (cap : Nat) (xs : List Rg) (ys : List Rg) (b : Bool) (w : World) (hv : v = .slice a xs.length cap)
    (c : Hid (∀ w, RdS 2 encRg w v xs → Calls Try.prog 25 #[v, .func (.func 27) #[] #[]] w fun e w' => ∃ v', e = .returned (.tuple #[v', .bool b]) ∧ OwnS 33 2 encRg w' w.heap.size v' ys ∧ Below w.heap.size w w')) (h : Hid (RdS 2 encRg w v xs)) :
    Calls Try.prog 16 #[v] w fun e w' => ∃ v', e = .returned (.tuple #[v', .bool b]) ∧ OwnS 33 2 encRg w' w.heap.size v' ys ∧ Below w.heap.size w w' := by
  subst hv
  go_enter Try.func16, Try.ntmps16
  go_wp2_with fail
  refine (c.out _ h.out).mono ?_
  rintro e w1 ⟨v1, rfl, o1, b1⟩
  have B1 := Lib.hid b1
  have O1 := Lib.hid o1
  clear b1 o1
  go_wp2
  go_ret2
  exact ⟨_, rfl, O1.out, B1.out⟩

theorem exQuarterTube (xs : List Rg) (lz : xs.length ≤ 1048576) : ∃ (ys : List Rg) (b : Bool), ys.length ≤ 1048576 ∧
    Hid (∀ (w : World) (v0 : Value), (fun _ => True) w → RdS 2 encRg w v0 xs → Calls Try.prog 15 #[v0] w fun e w' => ∃ u0, e = .returned (.tuple #[u0, .bool b]) ∧ OwnS 33 2 encRg w' w.heap.size u0 ys ∧ Below w.heap.size w w') ∧
    Hid (∀ (w : World) (v0 : Value), (fun _ => True) w → RdS 2 encRg w v0 xs → Calls Try.prog 16 #[v0] w fun e w' => ∃ u0, e = .returned (.tuple #[u0, .bool b]) ∧ OwnS 33 2 encRg w' w.heap.size u0 ys ∧ Below w.heap.size w w') := by
  by_cases ok : OkT xs
  · refine ⟨xs.map quaR, true, by rw [List.length_map]; exact lz, fun w v _ h => specQuarterTube_yes v xs w h lz ok, fun w v _ h => ?_⟩
    obtain ⟨a, cap, hv, _⟩ := id h
    exact implQuarterTube_any v a cap xs _ _ w hv (fun w h => image_quartered v xs w h lz ok) h
  · refine ⟨[], false, by simp, fun w v _ h => specQuarterTube_no v xs w h lz ok, fun w v _ h => ?_⟩
    obtain ⟨a, cap, hv, _⟩ := id h
    exact implQuarterTube_any v a cap xs _ _ w hv (fun w h => image_quartered_no v xs w h lz ok) h
end Go.Proofs.Ytpphbjgaldidaaa
