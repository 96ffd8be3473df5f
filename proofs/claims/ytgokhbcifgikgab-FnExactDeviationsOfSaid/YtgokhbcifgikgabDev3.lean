/- DeviationsOf: what is refused, and the specification's side. -/
import Derived.Test.YtgokhbcifgikgabDev2
import Derived.Deep.RegionHeld3
import Derived.Deep.RegionLaw
namespace Go.Proofs.Ytgokhbcifgikgab
open Go.ChangeShapes Go.WideShapes Go.ChangeAt Go.RowKit
set_option linter.unusedVariables false
set_option linter.unusedSimpArgs false

set_option maxRecDepth 100000 in
set_option maxHeartbeats 4000000 in
theorem implDev_no (q : Ps) (v u : Value) (cs : List Cv) (ts : List Ps) (w : World) (hc : RdS 3 encCv w v cs) (ht : RdS 4 encPs w u ts) (lz : cs.length ≤ 1048576) (h : ¬ OkD q cs ts) :
    Calls Try.prog 17 #[(.agg #[.int .i64 q.s, .int .i64 q.h, .int .i64 q.y, .int .i64 q.p, v]), u] w fun e w' => ∃ v', e = .returned (.tuple #[v', .bool false]) ∧ OwnI w' w.heap.size v' [] ∧ Below w.heap.size w w' := by
  have HC := Lib.hid hc
  have HT := Lib.hid ht
  obtain ⟨a, cap, rfl, _⟩ := hc
  obtain ⟨at', capt, rfl, _⟩ := ht
  by_cases ha : OkA q cs
  · have c1 := Lib.hid (fun w (hr : RdS 3 encCv w (.slice a cs.length cap) cs) => implPosesOf_any q _ cs w hr lz true ⟨fun _ => ha, fun _ => rfl⟩ _ rfl)
    simp only [if_pos] at c1
    obtain ⟨xs, hxs⟩ : ∃ x, x = allPs q cs := ⟨_, rfl⟩
    have n61 := allPs_len q cs ha
    rw [← hxs] at c1 n61
    obtain ⟨N, hN⟩ : ∃ N, N = xs.length := ⟨_, rfl⟩
    obtain ⟨T, hT⟩ : ∃ T, T = ts.length := ⟨_, rfl⟩
    have HN := Lib.hid hN
    by_cases hl : N < T
    · rw [← hT]
      clear h hxs hN hT HT n61
      have d0 : decide (N < T) = true := by simpa using hl
      go_enter Try.func17, Try.ntmps17
      go_wp2_with fail
      refine (c1.out _ (HC.out.later (by go_grown))).mono ?_
      rintro e w1 ⟨vp, rfl, op, b1⟩
      have B1 : Hid (Below w.heap.size w w1) := Below.trans (by go_grown) (b1.mono (by simp))
      obtain ⟨ap, cp, rfl⟩ := op.form
      rw [← HN.out]
      clear op b1 c1
      go_wp2
      go_ret2
      exact ⟨_, rfl, World.ownsRow_nil _ _ _ _, B1.out⟩
    · have c2 := Lib.hid (fun w (hr : RdS 4 encPs w (.slice at' ts.length capt) ts) => everyPose_any _ ts w hr (by omega) false ⟨fun e => (by cases e), fun e => absurd ⟨ha, by rw [← hxs]; omega, e⟩ h⟩)
      rw [← hT] at c2 HT
      rw [← hT]
      have d0 : decide (N < T) = false := by simp; omega
      clear h hxs hN hT n61 hl
      go_enter Try.func17, Try.ntmps17
      go_wp2_with fail
      refine (c1.out _ (HC.out.later (by go_grown))).mono ?_
      rintro e w1 ⟨vp, rfl, op, b1⟩
      have B1 : Hid (Below w.heap.size w w1) := Below.trans (by go_grown) (b1.mono (by simp))
      obtain ⟨ap, cp, rfl⟩ := op.form
      rw [← HN.out]
      clear op b1 c1
      go_wp2_with fail
      refine (c2.out _ (HT.out.later B1.out)).mono ?_
      rintro e w2 ⟨rfl, b2⟩
      have B2 : Hid (Below w.heap.size w w2) := B1.out.trans (b2.mono B1.out.size)
      clear b2 c2
      go_wp2
      go_ret2
      exact ⟨_, rfl, World.ownsRow_nil _ _ _ _, B2.out⟩
  · have c1 := Lib.hid (fun w (hr : RdS 3 encCv w (.slice a cs.length cap) cs) => implPosesOf_any q _ cs w hr lz false ⟨fun e => (by cases e), fun e => absurd e ha⟩ _ rfl)
    clear h lz ha HT
    go_enter Try.func17, Try.ntmps17
    go_wp2_with fail
    refine (c1.out _ (HC.out.later (by go_grown))).mono ?_
    rintro e w1 ⟨vp, rfl, op, b1⟩
    have B1 : Hid (Below w.heap.size w w1) := Below.trans (by go_grown) (b1.mono (by simp))
    obtain ⟨ap, cp, rfl⟩ := op.form
    clear op b1 c1
    go_wp2
    go_ret2
    exact ⟨_, rfl, World.ownsRow_nil _ _ _ _, B1.out⟩

set_option maxRecDepth 100000 in
set_option maxHeartbeats 4000000 in
theorem specDev_bad (q : Ps) (v u : Value) (cs : List Cv) (ts : List Ps) (w : World) (hc : RdS 3 encCv w v cs) (ht : RdS 4 encPs w u ts) (lz : cs.length ≤ 1048576) (h : ¬ (OkA q cs ∧ ts.length ≤ (allPs q cs).length)) :
    Calls Try.prog 15 #[(.agg #[.int .i64 q.s, .int .i64 q.h, .int .i64 q.y, .int .i64 q.p, v]), u] w fun e w' => ∃ v', e = .returned (.tuple #[v', .bool false]) ∧ OwnI w' w.heap.size v' [] ∧ Below w.heap.size w w' := by
  have HC := Lib.hid hc
  have HT := Lib.hid ht
  obtain ⟨a, cap, rfl, _⟩ := hc
  obtain ⟨at', capt, rfl, _⟩ := ht
  by_cases ha : OkA q cs
  · obtain ⟨T, hT⟩ : ∃ T, T = ts.length := ⟨_, rfl⟩
    have hlen : (allPs q cs).length = (sumR cs).toNat + 1 := by
      rw [allPs, posesTo_length]
      have := turnsC_len cs ha.parts.2.2.1
      omega
    have p0 := ha.parts.2.2.2
    obtain ⟨S, hS⟩ : ∃ S : Nat, sumR cs = (S : Int) := ⟨(sumR cs).toNat, by omega⟩
    rw [← hT]
    have hl : S + 1 < T := by
      have : ¬ ts.length ≤ (allPs q cs).length := fun e => h ⟨ha, e⟩
      omega
    have OA := Lib.hid ha
    have q1 : IntKind.i64.wrap ((S : Int) + 1) = (S : Int) + 1 := IntWalk.i64_in _ (by omega)
    have d0 : decide ((S : Int) + 1 < (T : Int)) = true := by simp; omega
    have HS := Lib.hid hS
    clear h hT HT ha hlen p0 hS
    go_enter Try.func15, Try.ntmps15
    go_wp2_with fail
    refine (l02Is_any w.heap.size 31 q a cap cs _ (heap_alloc_new w _) (HC.out.later (by go_grown)) lz true ⟨fun _ => OA.out, fun _ => rfl⟩).mono ?_
    rintro e w1 ⟨rfl, b1⟩
    have n1 := Lib.hid ((b1.block w.heap.size (by simp only [World.size_alloc]; omega)).trans (heap_alloc_new w _))
    have B1 : Hid (Below w.heap.size w w1) := Below.trans (by go_grown) (b1.mono (by simp only [World.size_alloc]; omega))
    clear b1 lz
    go_wp2_with fail
    refine (l02Rings_any w.heap.size 31 q _ cs _ n1.out (HC.out.later B1.out) OA.out).mono ?_
    rintro e w2 ⟨rfl, b2⟩
    rw [HS.out]
    have B2 : Hid (Below w.heap.size w w2) := B1.out.trans (b2.mono B1.out.size)
    clear b2
    go_wp2
    go_ret2
    exact ⟨_, rfl, World.ownsRow_nil _ _ _ _, B2.out⟩
  · go_enter Try.func15, Try.ntmps15
    go_wp2_with fail
    refine (l02Is_any w.heap.size 31 q a cap cs _ (heap_alloc_new w _) (HC.out.later (by go_grown)) lz false ⟨fun e => (by cases e), fun e => absurd e ha⟩).mono ?_
    rintro e w1 ⟨rfl, b1⟩
    have B1 : Hid (Below w.heap.size w w1) := Below.trans (by go_grown) (b1.mono (by simp only [World.size_alloc]; omega))
    clear b1 h
    go_wp2
    go_ret2
    exact ⟨_, rfl, World.ownsRow_nil _ _ _ _, B1.out⟩

set_option maxRecDepth 100000 in
set_option maxHeartbeats 4000000 in
theorem specDev_any (q : Ps) (v u : Value) (cs : List Cv) (ts : List Ps) (w : World) (hc : RdS 3 encCv w v cs) (ht : RdS 4 encPs w u ts) (lz : cs.length ≤ 1048576) (ha : OkA q cs) (hlt : ts.length ≤ (allPs q cs).length) (b : Bool) (hb : b = true ↔ ∀ p ∈ ts, OkP p) (R : List Int) (hR : R = if b = true then devL (allPs q cs) ts else []) :
    Calls Try.prog 15 #[(.agg #[.int .i64 q.s, .int .i64 q.h, .int .i64 q.y, .int .i64 q.p, v]), u] w fun e w' => ∃ v', e = .returned (.tuple #[v', .bool b]) ∧ OwnI w' w.heap.size v' R ∧ Below w.heap.size w w' := by
  obtain ⟨i0, hi, hz0, hz1, hz2⟩ := info_parts info_i64L
  have HC := Lib.hid hc
  have HT := Lib.hid ht
  obtain ⟨a, cap, rfl, _⟩ := hc
  obtain ⟨at', capt, rfl, _⟩ := ht
  have n61 := allPs_len q cs ha
  have DL := devL_length (allPs q cs) ts hlt
  have DG := Lib.hid (fun k p t => devL_get (allPs q cs) ts k p t)
  have OX : Hid (∀ p ∈ allPs q cs, OkP p) := by
    intro p hp
    obtain ⟨k, hk⟩ := List.getElem?_of_mem hp
    have hl := (List.getElem?_eq_some_iff.1 hk).1
    rw [allPs, posesTo_length] at hl
    rw [allPs, posesTo_get q _ _ k hl] at hk
    rw [← Option.some.inj hk]
    exact ha.pose k (by omega)
  obtain ⟨D, hD⟩ : ∃ D, D = devL (allPs q cs) ts := ⟨_, rfl⟩
  rw [← hD] at DL hR
  rw [← hD] at DG
  have hlen : (allPs q cs).length = (sumR cs).toNat + 1 := by
    rw [allPs, posesTo_length]
    have := turnsC_len cs ha.parts.2.2.1
    omega
  have p0 := ha.parts.2.2.2
  obtain ⟨S, hS⟩ : ∃ S : Nat, sumR cs = (S : Int) := ⟨(sumR cs).toNat, by omega⟩
  have q1 : IntKind.i64.wrap ((S : Int) + 1) = (S : Int) + 1 := IntWalk.i64_in _ (by omega)
  have d0 : decide ((S : Int) + 1 < (ts.length : Int)) = false := by simp; omega
  have HS := Lib.hid hS
  have OA := Lib.hid ha
  have HB := Lib.hid hb
  have HR := Lib.hid hR
  obtain ⟨N, hN⟩ : ∃ N, N = (allPs q cs).length := ⟨_, rfl⟩
  obtain ⟨T, hT⟩ : ∃ T, T = ts.length := ⟨_, rfl⟩
  rw [← hN] at n61 hlt
  rw [← hT] at HT hlt DL d0
  rw [← hT]
  have HN := Lib.hid hN
  have HL := Lib.hid hT
  have DLH := Lib.hid DL
  clear ha hN hT hD DL hlen p0 hS hb hR
  go_enter Try.func15, Try.ntmps15
  go_wp2_with fail
  refine (l02Is_any w.heap.size 31 q a cap cs _ (heap_alloc_new w _) (HC.out.later (by go_grown)) lz true ⟨fun _ => OA.out, fun _ => rfl⟩).mono ?_
  rintro e w1 ⟨rfl, b1⟩
  have n1 := Lib.hid ((b1.block w.heap.size (by simp only [World.size_alloc]; omega)).trans (heap_alloc_new w _))
  have B1 : Hid (Below w.heap.size w w1) := Below.trans (by go_grown) (b1.mono (by simp only [World.size_alloc]; omega))
  have z1 : w.heap.size < w1.heap.size := by have e := b1.size; simp only [World.size_alloc] at e; omega
  clear b1 lz
  go_wp2_with fail
  refine (l02Rings_any w.heap.size 31 q _ cs _ n1.out (HC.out.later B1.out) OA.out).mono ?_
  rintro e w2 ⟨rfl, b2⟩
  rw [HS.out]
  have n2 := Lib.hid ((b2.block w.heap.size z1).trans n1.out)
  have B2 : Hid (Below w.heap.size w w2) := B1.out.trans (b2.mono B1.out.size)
  clear b2
  go_wp2_with fail
  refine (l02Poses_any w.heap.size 31 q _ cs _ n2.out (HC.out.later B2.out) OA.out).mono ?_
  rintro e w3 ⟨vp, rfl, op, b3⟩
  have B3 : Hid (Below w.heap.size w w3) := B2.out.trans (b3.mono B2.out.size)
  have op2 : OwnS 28 4 encPs w3 w2.heap.size vp (allPs q cs) := op
  obtain ⟨ap, cp, rfl⟩ := op2.form
  have RP := Lib.hid (op2.rd encPs_len)
  rw [← HN.out] at RP
  rw [← HN.out]
  have z3 := B3.out.size
  clear op op2 b3 n1 n2 d0
  go_wp2
  have O0 : Hid (OwnI (w3.alloc (.cells #[] 2)) w3.heap.size (.slice (some ⟨w3.heap.size, 0, none⟩) 0 0) (D.take 0)) := World.ownsRow_lit (e := 2) (size := 1) w3 #[] 0 (Nat.le_refl _) (by decide) rfl
  have C0 : Hid (Below w3.heap.size w3 (w3.alloc (.cells #[] 2))) := (Below.refl _ _).alloc (Nat.le_refl _) _
  go_loopw [7, 8] (fun ov iv wr => ∃ (k g c1 : Nat), k ≤ T ∧ iv = .int .i64 k ∧ ov = .slice (some ⟨g, 0, none⟩) k c1 ∧ Hid (∀ p ∈ ts.take k, OkP p) ∧ Hid (OwnI wr w3.heap.size (.slice (some ⟨g, 0, none⟩) k c1) (D.take k)) ∧ Hid (Below w3.heap.size w3 wr)) (fun _ iv _ => T - (intOf iv).toNat)
  case atStart => exact ⟨0, w3.heap.size, 0, by omega, rfl, rfl, by intro c hc; simp at hc, O0, C0⟩
  case round =>
    obtain ⟨k, g, c1, hk, rfl, rfl, hall, ho, B⟩ := hrel
    clear O0 C0
    have hsz := B.out.size
    by_cases hkt : k < T
    · obtain ⟨t, hx⟩ : ∃ x, ts[k]? = some x := ⟨_, List.getElem?_eq_getElem (by have := HL.out; omega)⟩
      obtain ⟨p, hp⟩ : ∃ x, (allPs q cs)[k]? = some x := ⟨_, List.getElem?_eq_getElem (by have := HN.out; omega)⟩
      obtain ⟨ba, oa, rfl, e0, e1, e2, e3⟩ := (HT.out.later (B3.out.trans (B.out.mono z3))).at4 k t hx
      obtain ⟨bp, op', rfl, u0, u1, u2, u3⟩ := (RP.out.later B.out).at4 k p hp
      have okp := OX.out p (List.mem_of_getElem? hp)
      by_cases hc : OkP t
      · have d1 := Lib.hid (fun w => l02Pose_any t true ⟨fun _ => hc, fun _ => rfl⟩ w)
        have ap := Lib.hid (fun w => l02Apart_any p t _ rfl okp hc w)
        have gD := DG.out k p t hp hx
        obtain ⟨r, hr⟩ : ∃ r, r = devP p t := ⟨_, rfl⟩
        rw [← hr] at ap
        rw [← hr] at gD
        have hall' : Hid (∀ p ∈ ts.take (k + 1), OkP p) := by
          intro d hd
          rw [List.take_add_one, hx] at hd
          simp at hd
          rcases hd with hd | rfl
          · exact hall.out d hd
          · exact hc
        have GD := Lib.hid gD
        have kN : k < N := by omega
        have k61 : k ≤ 61 := by omega
        have own : Hid (wr.ownsRow w3.heap.size 2 1 (.slice (some ⟨g, 0, none⟩) k c1) k ((D.take k).map (Value.int .i64))) := by
          have e := ho.out
          unfold OwnI at e
          rw [List.length_take, Nat.min_eq_left (by have := DLH.out; omega)] at e
          exact e
        have HO4 := Lib.hid ho.out
        clear hx hp hc okp hall gD hr ho
        go_wp2_with fail
        refine (d1.out _).mono ?_
        rintro e w4 ⟨rfl, b4⟩
        have b14 : Below wr.heap.size wr w4 := by rw [b4]; exact (Below.refl _ _).alloc (Nat.le_refl _) _
        have B4 : Hid (Below w3.heap.size w3 w4) := B.out.trans (b14.mono hsz)
        have own4 : Hid (w4.ownsRow w3.heap.size 2 1 (.slice (some ⟨g, 0, none⟩) k c1) k ((D.take k).map (Value.int .i64))) := by rw [b4]; exact World.ownsRow.alloc own.out _
        have y0 := cell_later b14 e0
        have y1 := cell_later b14 e1
        have y2 := cell_later b14 e2
        have y3 := cell_later b14 e3
        have x0 := cell_later b14 u0
        have x1 := cell_later b14 u1
        have x2 := cell_later b14 u2
        have x3 := cell_later b14 u3
        have z4 := b14.size
        have KO : Hid (∀ w', Below w4.heap.size w4 w' → w'.ownsRow w3.heap.size 2 1 (.slice (some ⟨g, 0, none⟩) k c1) k ((D.take k).map (Value.int .i64))) := by
          intro w' b
          have o4 : OwnI w4 w3.heap.size (.slice (some ⟨g, 0, none⟩) k c1) (D.take k) := HO4.out.below b14 (fun b e => (HO4.out.lt b e).2)
          have e := o4.below b (fun b e => (o4.lt b e).2)
          unfold OwnI at e
          rw [List.length_take, Nat.min_eq_left (by have := DLH.out; omega)] at e
          exact e
        clear b4 b14 HO4 e0 e1 e2 e3 u0 u1 u2 u3 own B
        go_wp2_with fail
        go_region_law (first
          | (go_simp; go_at_call 42; refine (ap.out _).mono ?_; rintro e w5 ⟨rfl, b5⟩; have b45 : Below w4.heap.size w4 w5 := (Below.refl _ _).drew.trans b5; have B5 : Hid (Below w3.heap.size w3 w5) := B4.out.trans (b45.mono (by omega)); have own5 : Hid (w5.ownsRow w3.heap.size 2 1 (.slice (some ⟨g, 0, none⟩) k c1) k ((D.take k).map (Value.int .i64))) := KO.out w5 b45; have z5 := B5.out.size; have lg5 := own5.out.lt; clear b5 b45)
          | (refine step_append_lies _ (by rfl) _ _ _ (by rfl) w3.heap.size 2 i0 _ 1 8 Try.underlying40 hi hz0 hz1 hz2 rfl (by omega) _ _ _ (by rfl) (own5.out.alloc _) ⟨w5.heap.size, 0, none⟩ 1 1 [.int .i64 r] (by rfl) (by rfl) (World.news_of_block (cs := #[.int .i64 r]) (t := 2) (fr := (0, 0)) (heap_alloc_new w5 _)) (by simp [Value.oneCell']) (by omega) (by unfold maxLen; omega) (by omega) (by simp; omega) (w5.heap.size + 1) (by simp) ?_; intro gg cap1 w6 hown1 hgrow hat hlt'))
        all_goals
          have gbr := grownBy_trans' (World.grownBy_alloc w5 _ _) hgrow
          have B6 : Hid (Below w3.heap.size w3 w6) := B5.out.grown gbr (by omega) (fun j e => (lg5 j e).1)
          have O6 : Hid (OwnI w6 w3.heap.size (.slice (some ⟨gg, 0, none⟩) (k + 1) cap1) (D.take (k + 1))) := by
            show OwnI _ _ _ _
            unfold OwnI
            rw [List.length_take, Nat.min_eq_left (by have := DLH.out; omega), List.take_add_one, GD.out, Option.toList_some, List.map_append]
            exact hown1
          clear hown1 hgrow hat hlt' gbr B5 own5 lg5 B4 own4 KO y0 y1 y2 y3 x0 x1 x2 x3
          go_wp2
          exact ⟨⟨k + 1, gg, cap1, by omega, by go_num, rfl, hall', O6, B6⟩, by simp only [intOf]; omega⟩
      · have d1 := Lib.hid (fun w => l02Pose_any t false ⟨fun h => (by cases h), fun h => absurd h hc⟩ w)
        obtain rfl : b = false := bool_false HB.out (fun h => hc (h t (List.mem_of_getElem? hx)))
        obtain rfl : R = [] := by rw [HR.out]; simp
        clear hx hp hc okp hall ho HB HR
        go_wp2_with fail
        refine (d1.out _).mono ?_
        rintro e w4 ⟨rfl, b4⟩
        have B4 : Hid (Below w3.heap.size w3 w4) := by rw [b4]; exact B.out.alloc hsz _
        clear b4 B e0 e1 e2 e3 u0 u1 u2 u3
        go_wp2
        go_ret2
        exact ⟨_, rfl, World.ownsRow_nil _ _ _ _, B3.out.trans (B4.out.mono z3)⟩
    · obtain rfl : k = T := by omega
      obtain rfl : b = true := HB.out.mpr (by have := hall.out; rwa [List.take_of_length_le (by have := HL.out; omega)] at this)
      obtain rfl : R = D := by rw [HR.out]; simp
      have HO : Hid (OwnI wr w3.heap.size (.slice (some ⟨g, 0, none⟩) k c1) R) := by
        have e := ho.out
        rw [List.take_of_length_le (by have := DLH.out; omega)] at e
        exact e
      clear ho HB HR
      go_wp2
      go_ret2
      exact ⟨_, rfl, HO.out.mono z3, B3.out.trans (B.out.mono z3)⟩

theorem exDeviationsOf (q : Ps) (cs : List Cv) (ts : List Ps) (lz : cs.length + ts.length ≤ 1048576) : ∃ (xs : List Int) (b : Bool), xs.length ≤ 1048576 ∧
    Hid (∀ v u w, RdS 3 encCv w v cs → RdS 4 encPs w u ts → Calls Try.prog 15 #[(.agg #[.int .i64 q.s, .int .i64 q.h, .int .i64 q.y, .int .i64 q.p, v]), u] w fun e w' => ∃ v', e = .returned (.tuple #[v', .bool b]) ∧ OwnI w' w.heap.size v' xs ∧ Below w.heap.size w w') ∧
    Hid (∀ v u w, RdS 3 encCv w v cs → RdS 4 encPs w u ts → Calls Try.prog 17 #[(.agg #[.int .i64 q.s, .int .i64 q.h, .int .i64 q.y, .int .i64 q.p, v]), u] w fun e w' => ∃ v', e = .returned (.tuple #[v', .bool b]) ∧ OwnI w' w.heap.size v' xs ∧ Below w.heap.size w w') := by
  by_cases h : OkA q cs ∧ ts.length ≤ (allPs q cs).length
  · by_cases hp : ∀ p ∈ ts, OkP p
    · have hd : OkD q cs ts := ⟨h.1, h.2, hp⟩
      exact ⟨devL (allPs q cs) ts, true, by rw [devL_length _ _ h.2]; omega, fun v u w hr ht => specDev_any q v u cs ts w hr ht (by omega) h.1 h.2 true ⟨fun _ => hp, fun _ => rfl⟩ _ rfl, fun v u w hr ht => implDev_yes q v u cs ts w hr ht (by omega) hd⟩
    · have hd : ¬ OkD q cs ts := fun e => hp e.2.2
      exact ⟨[], false, by simp, fun v u w hr ht => specDev_any q v u cs ts w hr ht (by omega) h.1 h.2 false ⟨fun e => (by cases e), fun e => absurd e hp⟩ _ rfl, fun v u w hr ht => implDev_no q v u cs ts w hr ht (by omega) hd⟩
  · have hd : ¬ OkD q cs ts := fun e => h ⟨e.1, e.2.1⟩
    exact ⟨[], false, by simp, fun v u w hr ht => specDev_bad q v u cs ts w hr ht (by omega) h, fun v u w hr ht => implDev_no q v u cs ts w hr ht (by omega) hd⟩
end Go.Proofs.Ytgokhbcifgikgab
