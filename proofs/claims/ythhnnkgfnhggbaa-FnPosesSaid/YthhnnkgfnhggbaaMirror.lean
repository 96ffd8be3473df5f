/- The walks of MirrorAxis. -/
import Derived.Test.YthhnnkgfnhggbaaSpecPoW
namespace Go.Proofs.Ythhnnkgfnhggbaa
open Go.ChangeShapes Go.WideShapes Go.ChangeAt Go.RowKit
set_option linter.unusedVariables false
set_option linter.unusedSimpArgs false

def zPs' : Ps := ⟨0, 0, 0, 0⟩
def mirC (c : Cv) : Cv := ⟨c.r, -c.b, c.s⟩
def mirP (p : Ps) : Ps := ⟨-p.s, p.h, -p.y, p.p⟩

set_option maxHeartbeats 1000000 in
theorem mirC_any (c : Cv) (h : OkTurn c.b) (w : World) :
    Calls Try.prog 57 #[(.agg #[.int .i64 c.r, .int .i64 c.b, .int .i64 c.s])] w fun e w' => e = .returned (.agg #[.int .i64 (mirC c).r, .int .i64 (mirC c).b, .int .i64 (mirC c).s]) ∧ Below w.heap.size w w' := by
  have q1 : IntKind.i64.wrap (-c.b) = -c.b := IntWalk.i64_in _ (by obtain ⟨_, _⟩ := h; omega)
  clear h
  go_enter Try.func57, Try.ntmps57
  go_wp2
  go_returns
  exact ⟨rfl, by go_grown⟩

set_option maxHeartbeats 1000000 in
theorem mirP_any (p : Ps) (h : OkP p) (w : World) :
    Calls Try.prog 58 #[(.agg #[.int .i64 p.s, .int .i64 p.h, .int .i64 p.y, .int .i64 p.p])] w fun e w' => e = .returned (.agg #[.int .i64 (mirP p).s, .int .i64 (mirP p).h, .int .i64 (mirP p).y, .int .i64 (mirP p).p]) ∧ Below w.heap.size w w' := by
  obtain ⟨⟨_, _⟩, _, ⟨_, _⟩, _⟩ := h
  have q1 : IntKind.i64.wrap (-p.s) = -p.s := IntWalk.i64_in _ (by omega)
  have q2 : IntKind.i64.wrap (-p.y) = -p.y := IntWalk.i64_in _ (by omega)
  go_enter Try.func58, Try.ntmps58
  go_wp2
  go_returns
  exact ⟨rfl, by go_grown⟩

/-- A curve is written whole into an own slice. -/
theorem OwnS.putCv {t : TypeId} {w : World} {B g cap n : Nat} {xs : List Cv} (hn : n = xs.length) (h : OwnS t 3 encCv w B (.slice (some ⟨g, 0, none⟩) n cap) xs) (i : Nat) (z : Cv) (hz : xs[i]? = some z) (x : Cv) :
    OwnS t 3 encCv (((w.setCell ⟨g, i * 3, none⟩ (.int .i64 x.r)).setCell ⟨g, i * 3 + 1, none⟩ (.int .i64 x.b)).setCell ⟨g, i * 3 + 2, none⟩ (.int .i64 x.s)) B (.slice (some ⟨g, 0, none⟩) n cap) (xs.set i x) := by
  have hi : i < xs.length := (List.getElem?_eq_some_iff.1 hz).1
  have s0 := h.stored1 encCv_len hn i 0 z ⟨x.r, z.b, z.s⟩ (.int .i64 x.r) hz (by omega) rfl
  have s1 := s0.stored1 encCv_len (by rw [List.length_set]; exact hn) i 1 ⟨x.r, z.b, z.s⟩ ⟨x.r, x.b, z.s⟩ (.int .i64 x.b) (by rw [List.getElem?_set_self hi]) (by omega) rfl
  rw [List.set_set] at s1
  have s2 := s1.stored1 encCv_len (by rw [List.length_set]; exact hn) i 2 ⟨x.r, x.b, z.s⟩ x (.int .i64 x.s) (by rw [List.getElem?_set_self hi]) (by omega) rfl
  rw [List.set_set] at s2
  exact s2

set_option maxRecDepth 100000 in
set_option maxHeartbeats 4000000 in
theorem implMirror_yes (q : Ps) (v : Value) (cs : List Cv) (w : World) (hc : RdS 3 encCv w v cs) (lz : cs.length ≤ 1048576) (h : OkA q cs) (r : Ps) (hr : r = mirP q) :
    Calls Try.prog 25 #[(.agg #[.int .i64 q.s, .int .i64 q.h, .int .i64 q.y, .int .i64 q.p, v])] w fun e w' => ∃ v', e = .returned (.tuple #[(.agg #[.int .i64 r.s, .int .i64 r.h, .int .i64 r.y, .int .i64 r.p, v']), .bool true]) ∧ OwnS 46 3 encCv w' w.heap.size v' (cs.map mirC) ∧ Below w.heap.size w w' := by
  obtain ⟨i0, hi, hz0, hz1, hz2⟩ := info_parts info_Cv
  have HC := Lib.hid hc
  obtain ⟨a, cap, rfl, _⟩ := hc
  have HP := Lib.hid h.parts
  have HQ := Lib.hid (fun w => mirP_any q h.1 w)
  rw [← hr] at HQ
  have c1 := Lib.hid (fun w (hr : RdS 3 encCv w (.slice a cs.length cap) cs) => implValidAxis_any q _ cs w hr lz true ⟨fun _ => h, fun _ => rfl⟩)
  obtain ⟨N, hN⟩ : ∃ N, N = cs.length := ⟨_, rfl⟩
  rw [← hN] at HC c1
  rw [← hN]
  have HN := Lib.hid hN
  have n8 : N ≤ 8 := by have := HP.out.2.1; omega
  clear h hN lz hr
  go_enter Try.func25, Try.ntmps25
  go_wp2_with fail
  refine (c1.out _ (HC.out.later (by go_grown))).mono ?_
  rintro e w1 ⟨rfl, b1⟩
  have n1 := (b1.block w.heap.size (by simp only [World.size_alloc]; omega)).trans (heap_alloc2_old w _ _)
  have r1 := (b1.block (w.heap.size + 1) (by simp only [World.size_alloc]; omega)).trans (heap_alloc2_new w _ _)
  have B1 : Hid (Below w.heap.size w w1) := Below.trans (by go_grown) (b1.mono (by simp only [World.size_alloc]; omega))
  have z1 := b1.size
  simp only [World.size_alloc] at z1
  obtain ⟨⟨a0, a1, a2, a3, a4⟩, l1⟩ := boxA_at n1
  have N1 := Lib.hid n1
  have R1 := Lib.hid r1
  clear b1 c1 n1 r1
  go_wp2_with (first | (at_make; refine wpList_make_full _ rfl _ _ _ rfl w1.heap.size 46 i0 _ 3 Try.underlying26 hi hz0 hz1 .i64 .i64 _ _ N rfl rfl rfl rfl ?b2 ?b3 (Nat.le_refl _) ?_) | fail)
  case b2 => rw [hz2]; omega
  case b3 => unfold maxLen; omega
  intro w2 hown hg
  rw [made_flat (enc := encCv) encCv_len (by omega) zeroCv #[.int .i64 0, .int .i64 0, .int .i64 0] rfl] at hown
  have O2 : Hid (OwnS 46 3 encCv w2 w1.heap.size (.slice (some ⟨w1.heap.size, 0, none⟩) N N) ((cs.take 0).map mirC ++ List.replicate (N - 0) zeroCv)) := by
    show OwnS _ _ _ _ _ _ _
    simp only [List.take_zero, List.map_nil, List.nil_append, Nat.sub_zero]
    unfold OwnS
    rw [List.length_replicate]
    exact hown
  have b12 : Below w1.heap.size w1 w2 := (Below.refl _ _).grown hg (Nat.le_refl _) (fun k e => by cases e)
  have n2 := (b12.block w.heap.size (by omega)).trans N1.out
  have BB := Lib.hid b12
  clear a0 a1 a2 a3 a4
  obtain ⟨⟨a0, a1, a2, a3, a4⟩, l2⟩ := boxA_at n2
  clear hown hg b12 n2
  go_wp2
  go_loopw [18] (fun iv wr => ∃ k : Nat, k ≤ N ∧ iv = .int .i64 k ∧ Hid (OwnS 46 3 encCv wr w1.heap.size (.slice (some ⟨w1.heap.size, 0, none⟩) N N) ((cs.take k).map mirC ++ List.replicate (N - k) zeroCv)) ∧ Hid (Below w1.heap.size w1 wr)) (fun iv _ => N - (intOf iv).toNat)
  case atStart => exact ⟨0, by omega, rfl, O2, BB⟩
  case round =>
    obtain ⟨k, hk, rfl, ho, B⟩ := hrel
    clear O2 BB a0 a1 a2 a3 a4 l2
    have hsz := B.out.size
    by_cases hlt : k < N
    · obtain ⟨c, hx⟩ : ∃ x, cs[k]? = some x := ⟨_, List.getElem?_eq_getElem (by have := HN.out; omega)⟩
      obtain ⟨ba, oa, rfl, e0, e1, e2⟩ := (HC.out.later (B1.out.trans (B.out.mono (by omega)))).at3 k c hx
      have la := block_lt_of_cell e0
      have mc := Lib.hid (fun w => mirC_any c (HP.out.2.2.1 c (List.mem_of_getElem? hx)).2.1 w)
      have lg := (ho.out.lt _ rfl).2
      have ln : Hid (N = ((cs.take k).map mirC ++ List.replicate (N - k) zeroCv).length) := by show _ = _; rw [List.length_append, List.length_map, List.length_take, List.length_replicate]; have := HN.out; omega
      have gz : Hid (((cs.take k).map mirC ++ List.replicate (N - k) zeroCv)[k]? = some zeroCv) := by
        have e : ((cs.take k).map mirC).length = k := by rw [List.length_map, List.length_take]; have := HN.out; omega
        show _ = _
        rw [List.getElem?_append_right (by omega), e, Nat.sub_self, List.getElem?_replicate, if_pos (by omega)]
      obtain ⟨c2, hc2⟩ : ∃ c2, c2 = mirC c := ⟨_, rfl⟩
      rw [← hc2] at mc
      have HX := Lib.hid hx
      have HC2 := Lib.hid hc2
      clear hx hc2
      go_wp2_with fail
      refine (mc.out _).mono ?_
      rintro e w5 ⟨rfl, b5⟩
      have b25 : Hid (Below wr.heap.size wr w5) := ((Below.refl _ _).alloc (Nat.le_refl _) _).trans (b5.mono (by simp))
      have O5 := ho.out.later b25.out
      have d0 : w5.cell? ⟨w1.heap.size, k * 3, none⟩ = some (.int .i64 0) := O5.cellAt encCv_len ln.out k _ gz.out 0 _ rfl
      have d1 : w5.cell? ⟨w1.heap.size, k * 3 + 1, none⟩ = some (.int .i64 0) := O5.cellAt encCv_len ln.out k _ gz.out 1 _ rfl
      have d2 : w5.cell? ⟨w1.heap.size, k * 3 + 2, none⟩ = some (.int .i64 0) := O5.cellAt encCv_len ln.out k _ gz.out 2 _ rfl
      have f0 : w5.frozen? ⟨w1.heap.size, k * 3, none⟩ = false := O5.frozenAt ln.out _
      have f1 : w5.frozen? ⟨w1.heap.size, k * 3 + 1, none⟩ = false := O5.frozenAt ln.out _
      have f2 : w5.frozen? ⟨w1.heap.size, k * 3 + 2, none⟩ = false := O5.frozenAt ln.out _
      have O6 : Hid (OwnS 46 3 encCv (((w5.setCell ⟨w1.heap.size, k * 3, none⟩ (.int .i64 c2.r)).setCell ⟨w1.heap.size, k * 3 + 1, none⟩ (.int .i64 c2.b)).setCell ⟨w1.heap.size, k * 3 + 2, none⟩ (.int .i64 c2.s)) w1.heap.size (.slice (some ⟨w1.heap.size, 0, none⟩) N N) ((cs.take (k + 1)).map mirC ++ List.replicate (N - (k + 1)) zeroCv)) := by
        have e := O5.putCv ln.out k zeroCv gz.out c2
        have el : ((cs.take k).map mirC).length = k := by rw [List.length_map, List.length_take]; have := HN.out; omega
        rw [List.set_append_right _ _ (by omega), el, Nat.sub_self, show N - k = (N - (k + 1)) + 1 by omega, List.replicate_succ, List.set_cons_zero] at e
        show OwnS _ _ _ _ _ _ _
        rw [List.take_add_one, HX.out, Option.toList_some, List.map_append, List.append_assoc]
        rw [HC2.out] at e ⊢
        exact e
      have B6 : Hid (Below w1.heap.size w1 (((w5.setCell ⟨w1.heap.size, k * 3, none⟩ (.int .i64 c2.r)).setCell ⟨w1.heap.size, k * 3 + 1, none⟩ (.int .i64 c2.b)).setCell ⟨w1.heap.size, k * 3 + 2, none⟩ (.int .i64 c2.s))) := (((B.out.trans (b25.out.mono hsz)).setCell (p := ⟨w1.heap.size, k * 3, none⟩) (Nat.le_refl _) _).setCell (p := ⟨w1.heap.size, k * 3 + 1, none⟩) (Nat.le_refl _) _).setCell (p := ⟨w1.heap.size, k * 3 + 2, none⟩) (Nat.le_refl _) _
      clear O5 ln gz ho B b5 b25 e0 e1 e2
      go_wp2
      exact ⟨⟨k + 1, by omega, by go_num, O6, B6⟩, by simp only [intOf]; omega⟩
    · obtain rfl : k = N := by omega
      have HO : Hid (OwnS 46 3 encCv wr w1.heap.size (.slice (some ⟨w1.heap.size, 0, none⟩) k k) (cs.map mirC)) := by
        have e := ho.out
        rw [Nat.sub_self, List.replicate_zero, List.append_nil, List.take_of_length_le (by have := HN.out; omega)] at e
        exact e
      have nr := (B.out.block w.heap.size (by omega)).trans N1.out
      have BW : Hid (Below w.heap.size w wr) := B1.out.trans (B.out.mono (by omega))
      obtain ⟨⟨a0, a1, a2, a3, a4⟩, l5⟩ := boxA_at nr
      clear ho nr
      go_wp2_with fail
      refine (HQ.out _).mono ?_
      rintro e w5 ⟨rfl, b5⟩
      have B5 := Lib.hid b5
      have rr := (b5.block (w.heap.size + 1) (by omega)).trans ((B.out.block (w.heap.size + 1) (by omega)).trans R1.out)
      obtain ⟨⟨g0, g1, g2, g3, g4⟩, l6⟩ := boxA_at (q := zPs') rr
      have f0 := frozen_of_row w5 (w.heap.size + 1) 0 _ _ rr
      have f1 := frozen_of_row w5 (w.heap.size + 1) 1 _ _ rr
      have f2 := frozen_of_row w5 (w.heap.size + 1) 2 _ _ rr
      have f3 := frozen_of_row w5 (w.heap.size + 1) 3 _ _ rr
      have f4 := frozen_of_row w5 (w.heap.size + 1) 4 _ _ rr
      clear b5 rr a0 a1 a2 a3 a4
      go_wp2
      refine bodyPost_ret (v := .tuple #[(.agg #[.int .i64 r.s, .int .i64 r.h, .int .i64 r.y, .int .i64 r.p, (.slice (some ⟨w1.heap.size, 0, none⟩) k k)]), .bool true]) (by simp [results, Try.results25, go_sem, g0, g1, g2, g3, g4]; try rfl) rfl ⟨_, rfl, ?_, ?_⟩
      · refine OwnS.mono ?_ (show w.heap.size ≤ w1.heap.size by omega)
        exact ((((((HO.out.later B5.out).setBelow (by simp; omega) _).setBelow (by simp; omega) _).setBelow (by simp; omega) _).setBelow (by simp; omega) _).setBelow (by simp; omega) _)
      · have b := BW.out.trans (B5.out.mono BW.out.size)
        go_grown
end Go.Proofs.Ythhnnkgfnhggbaa
