/- MirrorTube and QuarterTube on both sides. -/
import Derived.Test.YtpphbjgaldidaaaTubeEx
import Derived.Test.YtpphbjgaldidaaaExKit
import Derived.Deep.AppendLies
namespace Go.Proofs.Ytpphbjgaldidaaa
open Go.ChangeShapes Go.WideShapes Go.ChangeAt Go.RowKit
set_option linter.unusedVariables false
set_option linter.unusedSimpArgs false

def mirR (q : Rg) : Rg := ⟨q.k, (24 - q.y) % 16⟩
def quaR (q : Rg) : Rg := ⟨q.k, (q.y + 4) % 16⟩

set_option maxHeartbeats 1000000 in
theorem mirrored_any (q : Rg) (h : OkR q) (w : World) :
    Calls Try.prog 26 #[(.agg #[.int .i64 q.k, .int .i64 q.y])] w fun e w' => e = .returned (.agg #[.int .i64 (mirR q).k, .int .i64 (mirR q).y]) ∧ Below w.heap.size w w' := by
  have a0 : 0 ≤ q.y := h.2.1
  have a1 : q.y ≤ 15 := h.2.2
  have q1 : IntKind.i64.wrap (24 - q.y) = 24 - q.y := IntWalk.i64_in _ (by omega)
  have q2 : IntKind.i64.wrap ((24 - q.y).tmod 16) = (24 - q.y) % 16 := by rw [Int.tmod_eq_emod_of_nonneg (by omega)]; exact IntWalk.i64_in _ (by omega)
  have q3 : IntKind.i64.wrap ((24 - q.y) % 16) = (24 - q.y) % 16 := IntWalk.i64_in _ (by omega)
  clear h
  go_enter Try.func26, Try.ntmps26
  go_wp2
  go_returns
  exact ⟨rfl, by go_grown⟩

set_option maxHeartbeats 1000000 in
theorem quartered_any (q : Rg) (h : OkR q) (w : World) :
    Calls Try.prog 27 #[(.agg #[.int .i64 q.k, .int .i64 q.y])] w fun e w' => e = .returned (.agg #[.int .i64 (quaR q).k, .int .i64 (quaR q).y]) ∧ Below w.heap.size w w' := by
  have a0 : 0 ≤ q.y := h.2.1
  have a1 : q.y ≤ 15 := h.2.2
  have q1 : IntKind.i64.wrap (q.y + 4) = q.y + 4 := IntWalk.i64_in _ (by omega)
  have q2 : IntKind.i64.wrap ((q.y + 4).tmod 16) = (q.y + 4) % 16 := by rw [Int.tmod_eq_emod_of_nonneg (by omega)]; exact IntWalk.i64_in _ (by omega)
  have q3 : IntKind.i64.wrap ((q.y + 4) % 16) = (q.y + 4) % 16 := IntWalk.i64_in _ (by omega)
  clear h
  go_enter Try.func27, Try.ntmps27
  go_wp2
  go_returns
  exact ⟨rfl, by go_grown⟩

theorem grownBy_alloc_drew (w : World) (o : Obj) (row : Option Nat) : w.grownBy (w.alloc o).drew row := by
  have h := World.grownBy_alloc w o row
  exact ⟨h.os, h.tape, h.output, h.size, h.block⟩

/-- A ring is written whole into an own slice. -/
theorem OwnS.putRg {t : TypeId} {w : World} {B g cap n : Nat} {xs : List Rg} (hn : n = xs.length) (h : OwnS t 2 encRg w B (.slice (some ⟨g, 0, none⟩) n cap) xs) (i : Nat) (z : Rg) (hz : xs[i]? = some z) (x : Rg) :
    OwnS t 2 encRg ((w.setCell ⟨g, i * 2, none⟩ (.int .i64 x.k)).setCell ⟨g, i * 2 + 1, none⟩ (.int .i64 x.y)) B (.slice (some ⟨g, 0, none⟩) n cap) (xs.set i x) := by
  have hi : i < xs.length := (List.getElem?_eq_some_iff.1 hz).1
  have s0 := h.stored1 encRg_len hn i 0 z ⟨x.k, z.y⟩ (.int .i64 x.k) hz (by omega) rfl
  have s1 := s0.stored1 encRg_len (by rw [List.length_set]; exact hn) i 1 ⟨x.k, z.y⟩ x (.int .i64 x.y) (by rw [List.getElem?_set_self hi]) (by omega) rfl
  rw [List.set_set] at s1
  exact s1

set_option maxRecDepth 100000 in
set_option maxHeartbeats 4000000 in
theorem image_mirrored (v : Value) (xs : List Rg) (w : World) (h : RdS 2 encRg w v xs) (lz : xs.length ≤ 1048576) (ok : OkT xs) :
    Calls Try.prog 25 #[v, .func (.func 26) #[] #[]] w fun e w' => ∃ v', e = .returned (.tuple #[v', .bool true]) ∧ OwnS 33 2 encRg w' w.heap.size v' (xs.map mirR) ∧ Below w.heap.size w w' := by
  obtain ⟨i0, hi, hz0, hz1, hz2⟩ := info_parts info_Rg
  have HC := Lib.hid h
  have HA := Lib.hid ok.2.1
  have c1 := Lib.hid (fun w (h : RdS 2 encRg w v xs) => implTube_any v xs w h lz true ⟨fun _ => ok, fun _ => rfl⟩)
  obtain ⟨a, cap, rfl, _⟩ := h
  obtain ⟨N, hN⟩ : ∃ N, N = xs.length := ⟨_, rfl⟩
  have n60 : N ≤ 60 := by have := ok.1; omega
  rw [← hN] at HC c1
  rw [← hN]
  have HN := Lib.hid hN
  clear hN lz ok
  go_enter Try.func25, Try.ntmps25
  go_wp2_with fail
  refine (c1.out _ HC.out).mono ?_
  rintro e w1 ⟨rfl, b1⟩
  have z1 := b1.size
  have B1 := Lib.hid b1
  clear b1 c1
  go_wp2_with (first | (at_make; refine wpList_make_full _ rfl _ _ _ rfl w1.heap.size 33 i0 _ 2 Try.underlying25 hi hz0 hz1 .i64 .i64 _ _ N rfl rfl rfl rfl ?b2 ?b3 (Nat.le_refl _) ?_) | fail)
  case b2 => rw [hz2]; omega
  case b3 => unfold maxLen; omega
  intro w2 hown hg
  rw [made_flat (enc := encRg) encRg_len (by omega) zeroRg #[.int .i64 0, .int .i64 0] rfl] at hown
  have O2 : Hid (OwnS 33 2 encRg w2 w1.heap.size (.slice (some ⟨w1.heap.size, 0, none⟩) N N) ((xs.take 0).map mirR ++ List.replicate (N - 0) zeroRg)) := by
    show OwnS _ _ _ _ _ _ _
    simp only [List.take_zero, List.map_nil, List.nil_append, Nat.sub_zero]
    unfold OwnS
    rw [List.length_replicate]
    exact hown
  have BB : Hid (Below w1.heap.size w1 w2) := (Below.refl _ _).grown hg (Nat.le_refl _) (fun k e => by cases e)
  clear hown hg
  go_wp2
  go_loopw [17] (fun iv wr => ∃ k : Nat, k ≤ N ∧ iv = .int .i64 k ∧ Hid (OwnS 33 2 encRg wr w1.heap.size (.slice (some ⟨w1.heap.size, 0, none⟩) N N) ((xs.take k).map mirR ++ List.replicate (N - k) zeroRg)) ∧ Hid (Below w1.heap.size w1 wr)) (fun iv _ => N - (intOf iv).toNat)
  case atStart => exact ⟨0, by omega, rfl, O2, BB⟩
  case round =>
    obtain ⟨k, hk, rfl, ho, B⟩ := hrel
    clear O2 BB
    have hsz := B.out.size
    by_cases hlt : k < N
    · obtain ⟨c, hx⟩ : ∃ x, xs[k]? = some x := ⟨_, List.getElem?_eq_getElem (by have := HN.out; omega)⟩
      obtain ⟨ba, oa, rfl, e0, e1⟩ := (HC.out.later (B1.out.trans (B.out.mono (by omega)))).at2 k c hx
      have mc := Lib.hid (fun w => mirrored_any c (HA.out c (List.mem_of_getElem? hx)) w)
      have ln : Hid (N = ((xs.take k).map mirR ++ List.replicate (N - k) zeroRg).length) := by show _ = _; rw [List.length_append, List.length_map, List.length_take, List.length_replicate]; have := HN.out; omega
      have gz : Hid (((xs.take k).map mirR ++ List.replicate (N - k) zeroRg)[k]? = some zeroRg) := by
        have e : ((xs.take k).map mirR).length = k := by rw [List.length_map, List.length_take]; have := HN.out; omega
        show _ = _
        rw [List.getElem?_append_right (by omega), e, Nat.sub_self, List.getElem?_replicate, if_pos (by omega)]
      have HX := Lib.hid hx
      have lg := (ho.out.lt _ rfl).2
      obtain ⟨c2, hc2⟩ : ∃ c2, c2 = mirR c := ⟨_, rfl⟩
      rw [← hc2] at mc
      have HC2 := Lib.hid hc2
      clear hx hc2
      go_wp2_with fail
      refine (mc.out _).mono ?_
      rintro e w5 ⟨rfl, b5⟩
      have b25 : Hid (Below wr.heap.size wr w5) := ((Below.refl _ _).alloc (Nat.le_refl _) _).trans (b5.mono (by simp))
      have O5 := ho.out.later b25.out
      have d0 : w5.cell? ⟨w1.heap.size, k * 2, none⟩ = some (.int .i64 0) := O5.cellAt encRg_len ln.out k _ gz.out 0 _ rfl
      have d1 : w5.cell? ⟨w1.heap.size, k * 2 + 1, none⟩ = some (.int .i64 0) := O5.cellAt encRg_len ln.out k _ gz.out 1 _ rfl
      have f0 : w5.frozen? ⟨w1.heap.size, k * 2, none⟩ = false := O5.frozenAt ln.out _
      have f1 : w5.frozen? ⟨w1.heap.size, k * 2 + 1, none⟩ = false := O5.frozenAt ln.out _
      have O6 : Hid (OwnS 33 2 encRg ((w5.setCell ⟨w1.heap.size, k * 2, none⟩ (.int .i64 c2.k)).setCell ⟨w1.heap.size, k * 2 + 1, none⟩ (.int .i64 c2.y)) w1.heap.size (.slice (some ⟨w1.heap.size, 0, none⟩) N N) ((xs.take (k + 1)).map mirR ++ List.replicate (N - (k + 1)) zeroRg)) := by
        have e := O5.putRg ln.out k zeroRg gz.out c2
        have el : ((xs.take k).map mirR).length = k := by rw [List.length_map, List.length_take]; have := HN.out; omega
        rw [List.set_append_right _ _ (by omega), el, Nat.sub_self, show N - k = (N - (k + 1)) + 1 by omega, List.replicate_succ, List.set_cons_zero] at e
        show OwnS _ _ _ _ _ _ _
        rw [List.take_add_one, HX.out, Option.toList_some, List.map_append, List.append_assoc]
        rw [HC2.out] at e ⊢
        exact e
      have B6 : Hid (Below w1.heap.size w1 ((w5.setCell ⟨w1.heap.size, k * 2, none⟩ (.int .i64 c2.k)).setCell ⟨w1.heap.size, k * 2 + 1, none⟩ (.int .i64 c2.y))) := ((B.out.trans (b25.out.mono hsz)).setCell (p := ⟨w1.heap.size, k * 2, none⟩) (Nat.le_refl _) _).setCell (p := ⟨w1.heap.size, k * 2 + 1, none⟩) (Nat.le_refl _) _
      clear O5 ln gz ho B b5 b25 e0 e1
      go_wp2
      exact ⟨⟨k + 1, by omega, by go_num, O6, B6⟩, by simp only [intOf]; omega⟩
    · obtain rfl : k = N := by omega
      have HO : Hid (OwnS 33 2 encRg wr w1.heap.size (.slice (some ⟨w1.heap.size, 0, none⟩) k k) (xs.map mirR)) := by
        have e := ho.out
        rw [Nat.sub_self, List.replicate_zero, List.append_nil, List.take_of_length_le (by have := HN.out; omega)] at e
        exact e
      have BW : Hid (Below w.heap.size w wr) := B1.out.trans (B.out.mono (by omega))
      clear ho
      go_wp2
      go_ret2
      exact ⟨_, rfl, HO.out.mono (by omega), BW.out⟩

set_option maxRecDepth 100000 in
set_option maxHeartbeats 4000000 in
theorem image_quartered (v : Value) (xs : List Rg) (w : World) (h : RdS 2 encRg w v xs) (lz : xs.length ≤ 1048576) (ok : OkT xs) :
    Calls Try.prog 25 #[v, .func (.func 27) #[] #[]] w fun e w' => ∃ v', e = .returned (.tuple #[v', .bool true]) ∧ OwnS 33 2 encRg w' w.heap.size v' (xs.map quaR) ∧ Below w.heap.size w w' := by
  obtain ⟨i0, hi, hz0, hz1, hz2⟩ := info_parts info_Rg
  have HC := Lib.hid h
  have HA := Lib.hid ok.2.1
  have c1 := Lib.hid (fun w (h : RdS 2 encRg w v xs) => implTube_any v xs w h lz true ⟨fun _ => ok, fun _ => rfl⟩)
  obtain ⟨a, cap, rfl, _⟩ := h
  obtain ⟨N, hN⟩ : ∃ N, N = xs.length := ⟨_, rfl⟩
  have n60 : N ≤ 60 := by have := ok.1; omega
  rw [← hN] at HC c1
  rw [← hN]
  have HN := Lib.hid hN
  clear hN lz ok
  go_enter Try.func25, Try.ntmps25
  go_wp2_with fail
  refine (c1.out _ HC.out).mono ?_
  rintro e w1 ⟨rfl, b1⟩
  have z1 := b1.size
  have B1 := Lib.hid b1
  clear b1 c1
  go_wp2_with (first | (at_make; refine wpList_make_full _ rfl _ _ _ rfl w1.heap.size 33 i0 _ 2 Try.underlying25 hi hz0 hz1 .i64 .i64 _ _ N rfl rfl rfl rfl ?b2 ?b3 (Nat.le_refl _) ?_) | fail)
  case b2 => rw [hz2]; omega
  case b3 => unfold maxLen; omega
  intro w2 hown hg
  rw [made_flat (enc := encRg) encRg_len (by omega) zeroRg #[.int .i64 0, .int .i64 0] rfl] at hown
  have O2 : Hid (OwnS 33 2 encRg w2 w1.heap.size (.slice (some ⟨w1.heap.size, 0, none⟩) N N) ((xs.take 0).map quaR ++ List.replicate (N - 0) zeroRg)) := by
    show OwnS _ _ _ _ _ _ _
    simp only [List.take_zero, List.map_nil, List.nil_append, Nat.sub_zero]
    unfold OwnS
    rw [List.length_replicate]
    exact hown
  have BB : Hid (Below w1.heap.size w1 w2) := (Below.refl _ _).grown hg (Nat.le_refl _) (fun k e => by cases e)
  clear hown hg
  go_wp2
  go_loopw [17] (fun iv wr => ∃ k : Nat, k ≤ N ∧ iv = .int .i64 k ∧ Hid (OwnS 33 2 encRg wr w1.heap.size (.slice (some ⟨w1.heap.size, 0, none⟩) N N) ((xs.take k).map quaR ++ List.replicate (N - k) zeroRg)) ∧ Hid (Below w1.heap.size w1 wr)) (fun iv _ => N - (intOf iv).toNat)
  case atStart => exact ⟨0, by omega, rfl, O2, BB⟩
  case round =>
    obtain ⟨k, hk, rfl, ho, B⟩ := hrel
    clear O2 BB
    have hsz := B.out.size
    by_cases hlt : k < N
    · obtain ⟨c, hx⟩ : ∃ x, xs[k]? = some x := ⟨_, List.getElem?_eq_getElem (by have := HN.out; omega)⟩
      obtain ⟨ba, oa, rfl, e0, e1⟩ := (HC.out.later (B1.out.trans (B.out.mono (by omega)))).at2 k c hx
      have mc := Lib.hid (fun w => quartered_any c (HA.out c (List.mem_of_getElem? hx)) w)
      have ln : Hid (N = ((xs.take k).map quaR ++ List.replicate (N - k) zeroRg).length) := by show _ = _; rw [List.length_append, List.length_map, List.length_take, List.length_replicate]; have := HN.out; omega
      have gz : Hid (((xs.take k).map quaR ++ List.replicate (N - k) zeroRg)[k]? = some zeroRg) := by
        have e : ((xs.take k).map quaR).length = k := by rw [List.length_map, List.length_take]; have := HN.out; omega
        show _ = _
        rw [List.getElem?_append_right (by omega), e, Nat.sub_self, List.getElem?_replicate, if_pos (by omega)]
      have HX := Lib.hid hx
      have lg := (ho.out.lt _ rfl).2
      obtain ⟨c2, hc2⟩ : ∃ c2, c2 = quaR c := ⟨_, rfl⟩
      rw [← hc2] at mc
      have HC2 := Lib.hid hc2
      clear hx hc2
      go_wp2_with fail
      refine (mc.out _).mono ?_
      rintro e w5 ⟨rfl, b5⟩
      have b25 : Hid (Below wr.heap.size wr w5) := ((Below.refl _ _).alloc (Nat.le_refl _) _).trans (b5.mono (by simp))
      have O5 := ho.out.later b25.out
      have d0 : w5.cell? ⟨w1.heap.size, k * 2, none⟩ = some (.int .i64 0) := O5.cellAt encRg_len ln.out k _ gz.out 0 _ rfl
      have d1 : w5.cell? ⟨w1.heap.size, k * 2 + 1, none⟩ = some (.int .i64 0) := O5.cellAt encRg_len ln.out k _ gz.out 1 _ rfl
      have f0 : w5.frozen? ⟨w1.heap.size, k * 2, none⟩ = false := O5.frozenAt ln.out _
      have f1 : w5.frozen? ⟨w1.heap.size, k * 2 + 1, none⟩ = false := O5.frozenAt ln.out _
      have O6 : Hid (OwnS 33 2 encRg ((w5.setCell ⟨w1.heap.size, k * 2, none⟩ (.int .i64 c2.k)).setCell ⟨w1.heap.size, k * 2 + 1, none⟩ (.int .i64 c2.y)) w1.heap.size (.slice (some ⟨w1.heap.size, 0, none⟩) N N) ((xs.take (k + 1)).map quaR ++ List.replicate (N - (k + 1)) zeroRg)) := by
        have e := O5.putRg ln.out k zeroRg gz.out c2
        have el : ((xs.take k).map quaR).length = k := by rw [List.length_map, List.length_take]; have := HN.out; omega
        rw [List.set_append_right _ _ (by omega), el, Nat.sub_self, show N - k = (N - (k + 1)) + 1 by omega, List.replicate_succ, List.set_cons_zero] at e
        show OwnS _ _ _ _ _ _ _
        rw [List.take_add_one, HX.out, Option.toList_some, List.map_append, List.append_assoc]
        rw [HC2.out] at e ⊢
        exact e
      have B6 : Hid (Below w1.heap.size w1 ((w5.setCell ⟨w1.heap.size, k * 2, none⟩ (.int .i64 c2.k)).setCell ⟨w1.heap.size, k * 2 + 1, none⟩ (.int .i64 c2.y))) := ((B.out.trans (b25.out.mono hsz)).setCell (p := ⟨w1.heap.size, k * 2, none⟩) (Nat.le_refl _) _).setCell (p := ⟨w1.heap.size, k * 2 + 1, none⟩) (Nat.le_refl _) _
      clear O5 ln gz ho B b5 b25 e0 e1
      go_wp2
      exact ⟨⟨k + 1, by omega, by go_num, O6, B6⟩, by simp only [intOf]; omega⟩
    · obtain rfl : k = N := by omega
      have HO : Hid (OwnS 33 2 encRg wr w1.heap.size (.slice (some ⟨w1.heap.size, 0, none⟩) k k) (xs.map quaR)) := by
        have e := ho.out
        rw [Nat.sub_self, List.replicate_zero, List.append_nil, List.take_of_length_le (by have := HN.out; omega)] at e
        exact e
      have BW : Hid (Below w.heap.size w wr) := B1.out.trans (B.out.mono (by omega))
      clear ho
      go_wp2
      go_ret2
      exact ⟨_, rfl, HO.out.mono (by omega), BW.out⟩
end Go.Proofs.Ytpphbjgaldidaaa
