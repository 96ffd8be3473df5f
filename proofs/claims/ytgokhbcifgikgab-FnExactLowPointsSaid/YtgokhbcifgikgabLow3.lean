/- LowPoints on the specification's side. -/
import Derived.Test.YtgokhbcifgikgabLow2
namespace Go.Proofs.Ytgokhbcifgikgab
open Go.ChangeShapes Go.WideShapes Go.ChangeAt Go.RowKit
set_option linter.unusedVariables false
set_option linter.unusedSimpArgs false

set_option maxRecDepth 100000 in
set_option maxHeartbeats 4000000 in
theorem implLow_no (q : Ps) (v : Value) (cs : List Cv) (w : World) (hc : RdS 3 encCv w v cs) (lz : cs.length ≤ 1048576) (h : ¬ OkA q cs) :
    Calls Try.prog 27 #[(.agg #[.int .i64 q.s, .int .i64 q.h, .int .i64 q.y, .int .i64 q.p, v])] w fun e w' => ∃ v', e = .returned (.tuple #[v', .bool false]) ∧ OwnI w' w.heap.size v' [] ∧ Below w.heap.size w w' := by
  have HC := Lib.hid hc
  obtain ⟨a, cap, rfl, _⟩ := hc
  have c1 := Lib.hid (fun w (hr : RdS 3 encCv w (.slice a cs.length cap) cs) => implPosesOf_any q _ cs w hr lz false ⟨fun e => (by cases e), fun e => absurd e h⟩ _ rfl)
  clear h lz
  go_enter Try.func27, Try.ntmps27
  go_wp2_with fail
  refine (c1.out _ (HC.out.later (by go_grown))).mono ?_
  rintro e w1 ⟨vp, rfl, op, b1⟩
  have B1 : Hid (Below w.heap.size w w1) := Below.trans (by go_grown) (b1.mono (by simp))
  clear op b1 c1
  go_wp2
  go_ret2
  exact ⟨_, rfl, World.ownsRow_nil _ _ _ _, B1.out⟩

set_option maxRecDepth 100000 in
set_option maxHeartbeats 4000000 in
theorem specLow_no (q : Ps) (v : Value) (cs : List Cv) (w : World) (hc : RdS 3 encCv w v cs) (lz : cs.length ≤ 1048576) (h : ¬ OkA q cs) :
    Calls Try.prog 26 #[(.agg #[.int .i64 q.s, .int .i64 q.h, .int .i64 q.y, .int .i64 q.p, v])] w fun e w' => ∃ v', e = .returned (.tuple #[v', .bool false]) ∧ OwnI w' w.heap.size v' [] ∧ Below w.heap.size w w' := by
  have HC := Lib.hid hc
  obtain ⟨a, cap, rfl, _⟩ := hc
  go_enter Try.func26, Try.ntmps26
  go_wp2_with fail
  refine (l02Is_any w.heap.size 31 q a cap cs _ (heap_alloc_new w _) (HC.out.later (by go_grown)) lz false ⟨fun e => (by cases e), fun e => absurd e h⟩).mono ?_
  rintro e w1 ⟨rfl, b1⟩
  have B1 : Hid (Below w.heap.size w w1) := Below.trans (by go_grown) (b1.mono (by simp))
  clear b1 h
  go_wp2
  go_ret2
  exact ⟨_, rfl, World.ownsRow_nil _ _ _ _, B1.out⟩

set_option maxRecDepth 100000 in
set_option maxHeartbeats 4000000 in
theorem specLow_yes (q : Ps) (v : Value) (cs : List Cv) (w : World) (hc : RdS 3 encCv w v cs) (lz : cs.length ≤ 1048576) (h : OkA q cs) (ys : List Int) (hys : Rising (LowBy (hts q cs) (allPs q cs).length) ys) :
    Calls Try.prog 26 #[(.agg #[.int .i64 q.s, .int .i64 q.h, .int .i64 q.y, .int .i64 q.p, v])] w fun e w' => ∃ v', e = .returned (.tuple #[v', .bool true]) ∧ OwnI w' w.heap.size v' ys ∧ Below w.heap.size w w' := by
  obtain ⟨i0, hi, hz0, hz1, hz2⟩ := info_parts info_i64L
  have HC := Lib.hid hc
  obtain ⟨a, cap, rfl, _⟩ := hc
  have OA := Lib.hid h
  have HY := Lib.hid hys
  have GT := Lib.hid (fun i => allPs_get q cs i)
  have n61 := allPs_len q cs h
  obtain ⟨H, hH⟩ : ∃ x, x = hts q cs := ⟨_, rfl⟩
  rw [← hH] at HY
  rw [← hH] at GT
  obtain ⟨N, hN⟩ : ∃ N, N = (allPs q cs).length := ⟨_, rfl⟩
  rw [← hN] at n61 HY
  have HN := Lib.hid hN
  have NE : Hid (1 ≤ N) := by show 1 ≤ N; rw [hN, allPs, posesTo_length]; omega
  clear h hys hH hN
  go_enter Try.func26, Try.ntmps26
  go_wp2_with fail
  refine (l02Is_any w.heap.size 31 q a cap cs _ (heap_alloc_new w _) (HC.out.later (by go_grown)) lz true ⟨fun _ => OA.out, fun _ => rfl⟩).mono ?_
  rintro e w1 ⟨rfl, b1⟩
  have n1 := Lib.hid ((b1.block w.heap.size (by simp only [World.size_alloc]; omega)).trans (heap_alloc_new w _))
  have B1 : Hid (Below w.heap.size w w1) := Below.trans (by go_grown) (b1.mono (by simp only [World.size_alloc]; omega))
  clear b1 lz
  go_wp2_with fail
  refine (l02Poses_any w.heap.size 31 q _ cs _ n1.out (HC.out.later B1.out) OA.out).mono ?_
  rintro e w2 ⟨vp, rfl, op, b2⟩
  have B2 : Hid (Below w.heap.size w w2) := B1.out.trans (b2.mono B1.out.size)
  obtain ⟨ap, cp, rfl⟩ := op.form
  have op2 : OwnS 28 4 encPs w2 w1.heap.size (.slice ap (allPs q cs).length cp) (allPs q cs) := op
  have RP := Lib.hid (op2.rd encPs_len)
  have eN : (posesTo q (turnsC cs) ((turnsC cs).length + 1)).length = N := HN.out.symm
  rw [← HN.out] at RP
  rw [eN]
  have z2 := B2.out.size
  clear op op2 b2 eN n1
  go_wp2
  have N1 : 1 ≤ N := by have := NE.out; omega
  obtain ⟨M, hM⟩ : ∃ M, N = M + 1 := ⟨N - 1, by omega⟩
  have qM : IntKind.i64.wrap ((N : Int) - 1) = (M : Int) := by rw [hM]; exact IntWalk.i64_in _ (by omega) |>.trans (by omega)
  have HM := Lib.hid hM
  have MN : M < N := by omega
  have M61 : M ≤ 60 := by omega
  clear hM
  have O0 : Hid (OwnI (w2.alloc (.cells #[] 2)) w2.heap.size (.slice (some ⟨w2.heap.size, 0, none⟩) 0 0) []) := World.ownsRow_lit (e := 2) (size := 1) w2 #[] 0 (Nat.le_refl _) (by decide) rfl
  have B0 : Hid (Below w2.heap.size w2 (w2.alloc (.cells #[] 2))) := (Below.refl _ _).alloc (Nat.le_refl _) _
  have R0 : Hid (Rising (fun j => j < 1 ∧ LowBy H N j) []) := Rising.nil fun i => by rintro ⟨h0, h1, _⟩; omega
  go_loopw [5, 6] (fun ov iv wr => ∃ (i m c1 : Nat) (ad : Option Addr) (zs : List Int), 1 ≤ i ∧ i ≤ M + 1 ∧ iv = .int .i64 i ∧ ov = .slice ad m c1 ∧ Hid (m = zs.length) ∧ Hid (Rising (fun j => j < i ∧ LowBy H N j) zs) ∧ m ≤ i ∧ Hid (OwnI wr w2.heap.size (.slice ad m c1) zs) ∧ Hid (Below w2.heap.size w2 wr)) (fun _ iv _ => N - (intOf iv).toNat)
  case atStart => exact ⟨1, 0, 0, _, [], by omega, by omega, rfl, rfl, rfl, R0, by omega, O0, B0⟩
  case round =>
    obtain ⟨i, m, c1, ad, zs, hi1, hk, rfl, rfl, hm, hr, hmi, ho, B⟩ := hrel
    clear O0 B0 R0
    have hsz := B.out.size
    by_cases hlt : i < M
    · obtain ⟨k, hik⟩ : ∃ k, i = k + 1 := ⟨i - 1, by omega⟩
      have q1 : IntKind.i64.wrap ((i : Int) - 1) = (k : Int) := by rw [hik]; exact IntWalk.i64_in _ (by omega) |>.trans (by omega)
      have HI := Lib.hid hik
      have kN : k < N := by omega
      have iN : i < N := by omega
      clear hik
      obtain ⟨wo, hwo⟩ : ∃ x, x = wr := ⟨_, rfl⟩
      subst hwo
      go_wp2
      have F0 : Hid (Flat H i i) := fun j h1 h2 => by omega
      go_loopw [7] (fun ev wr => ∃ e : Nat, i ≤ e ∧ e ≤ N ∧ ev = .int .i64 e ∧ Hid (Flat H i e) ∧ Hid (OwnI wr w2.heap.size (.slice ad m c1) zs) ∧ Hid (Below w2.heap.size w2 wr)) (fun ev _ => N - (intOf ev).toNat)
      case atStart => exact ⟨i, by omega, by omega, rfl, F0, ho, B⟩
      case round =>
        obtain ⟨e, hie, heN, rfl, hf, OI, BI⟩ := hrel
        clear F0 ho B hsz
        have hsz := BI.out.size
        obtain ⟨p0, hp0, hh0⟩ := GT.out k (by have := HN.out; omega)
        obtain ⟨p1, hp1, hh1⟩ := GT.out i (by have := HN.out; omega)
        obtain ⟨ba, oa, rfl, _, e0, _, _⟩ := (RP.out.later BI.out).at4 k p0 hp0
        obtain ⟨ba', oa', hba, _, e1, _, _⟩ := (RP.out.later BI.out).at4 i p1 hp1
        simp only [Option.some.injEq, Addr.mk.injEq, and_true] at hba
        obtain ⟨rfl, rfl⟩ := hba
        obtain ⟨x0, hx0⟩ : ∃ x, x = p0.h := ⟨_, rfl⟩
        obtain ⟨x1, hx1⟩ : ∃ x, x = p1.h := ⟨_, rfl⟩
        rw [← hx0] at e0 hh0
        rw [← hx1] at e1 hh1
        have H0 : Hid (x0 = H (i - 1)) := by show _ = _; rw [hh0, HI.out]; rfl
        have H1 := Lib.hid hh1
        have own2 : Hid (wr.ownsRow w2.heap.size 2 1 (.slice ad m c1) m (zs.map (Value.int .i64))) := by
          have e := OI.out
          unfold OwnI at e
          rw [← hm.out] at e
          exact e
        have KN : ∀ (_ : ¬ LowBy H N i), Rising (fun j => j < i + 1 ∧ LowBy H N j) zs := fun hn => hr.out.iff fun j => by
          constructor
          · rintro ⟨h1, h2⟩
            rcases Nat.lt_or_ge j i with g | g
            · exact ⟨g, h2⟩
            · obtain rfl : j = i := by omega
              exact absurd h2 hn
          · rintro ⟨h1, h2⟩; exact ⟨by omega, h2⟩
        have KY : ∀ (_ : LowBy H N i), Rising (fun j => j < i + 1 ∧ LowBy H N j) (zs ++ [(i : Int)]) := fun hy => hr.out.snoc i (fun j h => h.1) fun j => by
          constructor
          · rintro ⟨h1, h2⟩
            rcases Nat.lt_or_ge j i with g | g
            · exact .inl ⟨g, h2⟩
            · exact .inr (by omega)
          · rintro (⟨h1, h2⟩ | rfl)
            · exact ⟨by omega, h2⟩
            · exact ⟨by omega, hy⟩
        have GN := Lib.hid KN
        have GY := Lib.hid KY
        clear hp0 hp1 hx0 hx1 hh0 hh1 KN KY hr
        by_cases he : e < N
        · obtain ⟨pe, hpe, hhe⟩ := GT.out e (by have := HN.out; omega)
          obtain ⟨ba', oa', hba, _, ee, _, _⟩ := (RP.out.later BI.out).at4 e pe hpe
          simp only [Option.some.injEq, Addr.mk.injEq, and_true] at hba
          obtain ⟨rfl, rfl⟩ := hba
          obtain ⟨xe, hxe⟩ : ∃ x, x = pe.h := ⟨_, rfl⟩
          rw [← hxe] at ee hhe
          have GE := Lib.hid hhe
          clear hpe hxe hhe
          by_cases heq : xe = x1
          · have F5 : Hid (Flat H i (e + 1)) := by
              intro j h1 h2
              rcases Nat.lt_or_ge j e with g | g
              · exact hf.out j h1 g
              · obtain rfl : j = e := by omega
                rw [← GE.out, ← H1.out]; exact heq
            have v1 : (xe == x1) = true := by simpa using heq
            clear heq hf GN GY own2 GE
            go_wp2
            go_quiet (fail)
            go_wp2
            exact ⟨⟨e + 1, by omega, by omega, by go_num, F5, OI.out.drewN _, ⟨BI.out.os, BI.out.tape, BI.out.output, BI.out.size, BI.out.block⟩⟩, by simp only [intOf]; omega⟩
          · have ie : i < e := by
              rcases Nat.lt_or_ge i e with g | g
              · exact g
              · obtain rfl : i = e := by omega
                exact absurd (GE.out.trans H1.out.symm) heq
            have LA := Lib.hid (low_at hi1 hf.out ie (by omega) (.inr (show ¬ H e = H i by rw [← GE.out, ← H1.out]; exact heq)))
            have v1 : (xe == x1) = false := by simpa using heq
            clear heq hf
            by_cases c1' : x1 < x0
            · by_cases c2' : x1 < xe
              · have hy : LowBy H N i := LA.out.mpr ⟨he, by rw [← H0.out, ← H1.out]; exact c1', by rw [← GE.out, ← H1.out]; exact c2'⟩
                have NX := Lib.hid (GY.out hy)
                have d1 : decide (x1 < x0) = true := by simpa using c1'
                have d2 : decide (x1 < xe) = true := by simpa using c2'
                clear GN GY LA hy c1' c2' GE
                go_wp2
                go_quiet (fail)
                generalize nq = na
                go_wp2
                go_quiet (fail)
                obtain ⟨wz, hwz⟩ : ∃ x, (wr.drewN na).drewN nq = x := ⟨_, rfl⟩
                have own3 : Hid (wz.ownsRow w2.heap.size 2 1 (.slice ad m c1) m (zs.map (Value.int .i64))) := by subst hwz; exact own2.out
                have BZ : Hid (Below w2.heap.size w2 wz) := by subst hwz; exact ⟨BI.out.os, BI.out.tape, BI.out.output, BI.out.size, BI.out.block⟩
                have hzz : w2.heap.size ≤ wz.heap.size := BZ.out.size
                have lgz := own3.out.lt
                rw [hwz]
                clear hwz e0 e1 ee own2 BI hsz OI
                go_wp2_with (at_builtin; refine wpList_append_lies _ rfl _ _ _ rfl w2.heap.size 2 i0 _ 1 8 Try.underlying40 hi hz0 hz1 hz2 rfl (by omega) _ _ _ rfl (own3.out.alloc _) ⟨wz.heap.size, 0, none⟩ 1 1 [.int .i64 i] rfl rfl (World.news_of_block (cs := #[.int .i64 i]) (t := 2) (fr := (0, 0)) (heap_alloc_new wz _)) (by simp [Value.oneCell']) (by omega) (by unfold maxLen; omega) (by omega) (by simp; omega) _ rfl ?_)
                intro gg cap1 w5 hown1 hgrow hat hlt'
                have gbr := grownBy_trans' (World.grownBy_alloc wz _ _) hgrow
                have B5 : Hid (Below w2.heap.size w2 w5) := BZ.out.grown gbr hzz (fun j e => (lgz j e).1)
                have O5 : Hid (OwnI w5 w2.heap.size (.slice (some ⟨gg, 0, none⟩) (m + 1) cap1) (zs ++ [(i : Int)])) := by
                  show OwnI _ _ _ _
                  unfold OwnI
                  rw [List.length_append, ← hm.out, List.map_append]
                  exact hown1
                have L5 : Hid (m + 1 = (zs ++ [(i : Int)]).length) := by show _ = _; rw [List.length_append, ← hm.out]; rfl
                clear hown1 hgrow hat hlt' gbr BZ own3 lgz hm
                go_wp2
                exact ⟨⟨i + 1, m + 1, cap1, some ⟨gg, 0, none⟩, _, by omega, by omega, by go_num, rfl, L5, NX, by omega, O5, B5⟩, by simp only [intOf]; omega⟩
              · have hn : ¬ LowBy H N i := fun hy => c2' (by have := (LA.out.mp hy).2.2; rw [← GE.out, ← H1.out] at this; exact this)
                have NX := Lib.hid (GN.out hn)
                have d1 : decide (x1 < x0) = true := by simpa using c1'
                have d2 : decide (x1 < xe) = false := by simpa using c2'
                clear GN GY LA hn c1' c2' own2 GE
                go_wp2
                go_quiet (fail)
                go_wp2
                go_quiet (fail)
                go_wp2
                exact ⟨⟨i + 1, m, c1, _, zs, by omega, by omega, by go_num, rfl, hm, NX, by omega, by first | exact OI.out.drewN _ | exact (OI.out.drewN _).drewN _, ⟨BI.out.os, BI.out.tape, BI.out.output, BI.out.size, BI.out.block⟩⟩, by simp only [intOf]; omega⟩
            · have hn : ¬ LowBy H N i := fun hy => c1' (by have := (LA.out.mp hy).2.1; rw [← H0.out, ← H1.out] at this; exact this)
              have NX := Lib.hid (GN.out hn)
              have d1 : decide (x1 < x0) = false := by simpa using c1'
              clear GN GY LA hn c1' own2 GE
              go_wp2
              go_quiet (fail)
              go_wp2
              go_quiet (fail)
              go_wp2
              exact ⟨⟨i + 1, m, c1, _, zs, by omega, by omega, by go_num, rfl, hm, NX, by omega, by first | exact OI.out.drewN _ | exact (OI.out.drewN _).drewN _, ⟨BI.out.os, BI.out.tape, BI.out.output, BI.out.size, BI.out.block⟩⟩, by simp only [intOf]; omega⟩
        · obtain rfl : e = N := by omega
          have hn : ¬ LowBy H e i := fun hy => by
            have := (low_at hi1 hf.out iN (Nat.le_refl _) (.inl rfl)).mp hy
            omega
          have NX := Lib.hid (GN.out hn)
          clear GN GY hn own2 hf
          go_wp2
          go_quiet (fail)
          go_wp2
          go_quiet (fail)
          go_wp2
          exact ⟨⟨i + 1, m, c1, _, zs, by omega, by omega, by go_num, rfl, hm, NX, by omega, by first | exact OI.out.drewN _ | exact (OI.out.drewN _).drewN _, ⟨BI.out.os, BI.out.tape, BI.out.output, BI.out.size, BI.out.block⟩⟩, by simp only [intOf]; omega⟩
    · have ey : zs = ys := hr.out.same HY.out fun j => by
        constructor
        · exact fun h => h.2
        · intro h
          refine ⟨?_, h⟩
          obtain ⟨_, _, e, h1, h2, _⟩ := h
          have := HM.out
          omega
      subst ey
      clear hr HY
      go_wp2
      go_ret2
      exact ⟨_, rfl, ho.out.mono z2, B2.out.trans (B.out.mono z2)⟩

theorem rising_range (P : Nat → Prop) [DecidablePred P] : ∀ n, Rising (fun i => i < n ∧ P i) (((List.range n).filter (fun i => decide (P i))).map Int.ofNat)
  | 0 => Rising.nil fun i => by rintro ⟨h, _⟩; omega
  | n + 1 => by
    rw [List.range_succ, List.filter_append, List.map_append]
    by_cases h : P n
    · have e : ([n].filter fun i => decide (P i)).map Int.ofNat = [(n : Int)] := by simp [h]
      rw [e]
      exact (rising_range P n).snoc n (fun i hi => hi.1) fun i => by
        constructor
        · rintro ⟨h1, h2⟩
          rcases Nat.lt_or_ge i n with g | g
          · exact .inl ⟨g, h2⟩
          · exact .inr (by omega)
        · rintro (⟨h1, h2⟩ | rfl)
          · exact ⟨by omega, h2⟩
          · exact ⟨by omega, h⟩
    · have e : ([n].filter fun i => decide (P i)).map Int.ofNat = [] := by simp [h]
      rw [e, List.append_nil]
      exact (rising_range P n).iff fun i => by
        constructor
        · rintro ⟨h1, h2⟩
          rcases Nat.lt_or_ge i n with g | g
          · exact ⟨g, h2⟩
          · obtain rfl : i = n := by omega
            exact absurd h2 h
        · rintro ⟨h1, h2⟩
          exact ⟨by omega, h2⟩

open Classical in
theorem low_list (h : Nat → Int) (n : Nat) : ∃ ys, ys.length ≤ n ∧ Rising (LowBy h n) ys := by
  refine ⟨((List.range n).filter (fun i => decide (LowBy h n i))).map Int.ofNat, ?_, (rising_range (LowBy h n) n).iff fun i => ?_⟩
  · rw [List.length_map]
    exact Nat.le_trans (List.length_filter_le _ _) (Nat.le_of_eq List.length_range)
  · constructor
    · intro hl
      refine ⟨?_, hl⟩
      obtain ⟨_, _, e, h1, h2, _⟩ := hl
      omega
    · exact fun hl => hl.2

theorem exLowPoints (q : Ps) (cs : List Cv) (lz : cs.length ≤ 1048576) : ∃ (xs : List Int) (b : Bool), xs.length ≤ 1048576 ∧
    Hid (∀ v w, RdS 3 encCv w v cs → Calls Try.prog 26 #[(.agg #[.int .i64 q.s, .int .i64 q.h, .int .i64 q.y, .int .i64 q.p, v])] w fun e w' => ∃ v', e = .returned (.tuple #[v', .bool b]) ∧ OwnI w' w.heap.size v' xs ∧ Below w.heap.size w w') ∧
    Hid (∀ v w, RdS 3 encCv w v cs → Calls Try.prog 27 #[(.agg #[.int .i64 q.s, .int .i64 q.h, .int .i64 q.y, .int .i64 q.p, v])] w fun e w' => ∃ v', e = .returned (.tuple #[v', .bool b]) ∧ OwnI w' w.heap.size v' xs ∧ Below w.heap.size w w') := by
  by_cases h : OkA q cs
  · obtain ⟨ys, ly, hy⟩ := low_list (hts q cs) (allPs q cs).length
    exact ⟨ys, true, by have := allPs_len q cs h; omega, fun v w hr => specLow_yes q v cs w hr lz h ys hy, fun v w hr => implLow_yes q v cs w hr lz h ys hy⟩
  · exact ⟨[], false, by simp, fun v w hr => specLow_no q v cs w hr lz h, fun v w hr => implLow_no q v cs w hr lz h⟩
end Go.Proofs.Ytgokhbcifgikgab
