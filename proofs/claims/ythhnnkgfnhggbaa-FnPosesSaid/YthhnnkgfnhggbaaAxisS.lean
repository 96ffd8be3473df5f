/- The walk of the specification's AxisOf. (Written by tools/mkaxs.py.) -/
import Derived.Test.YthhnnkgfnhggbaaAxisO
import Derived.Test.YthhnnkgfnhggbaaStoreA
namespace Go.Proofs.Ythhnnkgfnhggbaa
open Go.ChangeShapes Go.WideShapes Go.ChangeAt Go.RowKit
set_option linter.unusedVariables false
set_option linter.unusedSimpArgs false

theorem box_lt {w : World} {g : Nat} {o : Obj} (h : w.heap[g]? = some o) : g < w.heap.size := (Array.getElem?_eq_some_iff.1 h).1

theorem grow_of {w w' : World} {g : Nat} (ho : ∀ j, j ≠ g → w'.heap[j]? = w.heap[j]?) (hb : Below g w w') : w.grownBy w' (some g) :=
  ⟨hb.os, hb.tape, hb.output, hb.size, fun i _ hn => ho i (fun e => hn (by rw [e]))⟩
theorem ne_own {v : Value} {g : Nat} (h : ∀ c, v.ownBlock = some c → c ≠ g) : v.ownBlock = none ∨ v.ownBlock ≠ some g := by
  cases e : v.ownBlock with
  | none => exact .inl rfl
  | some c => exact .inr (fun h2 => h c e (Option.some.inj h2))

set_option maxRecDepth 100000 in
set_option maxHeartbeats 8000000 in
theorem specAxisOf_short (v : Value) (xs : List Ps) (w : World) (hO : ∃ B, OwnS 25 4 encPs w B v xs) (lz : xs.length ≤ 1048576) (hl : ¬ (2 ≤ xs.length ∧ xs.length ≤ 61)) :
    Calls Try.prog 28 #[v] w fun e w' => ∃ v', e = .returned (.tuple #[(.agg #[.int .i64 zP0.s, .int .i64 zP0.h, .int .i64 zP0.y, .int .i64 zP0.p, v']), .bool false]) ∧ OwnS 46 3 encCv w' w.heap.size v' [] ∧ Below w.heap.size w w' := by
  obtain ⟨BO, hO⟩ := hO
  obtain ⟨a, cap, rfl⟩ := hO.form
  have c1 := Lib.hid (fun w => in_any (xs.length : Int) 2 61 false ⟨fun e => (by cases e), fun e => absurd ⟨by omega, by omega⟩ hl⟩ w)
  clear hl hO
  go_enter Try.func28, Try.ntmps28
  go_wp2_with fail
  refine (c1.out _).mono ?_
  rintro e w1 ⟨rfl, rfl⟩
  clear c1 lz
  go_wp2
  refine bodyPost_ret (v := .tuple #[.agg #[.int .i64 0, .int .i64 0, .int .i64 0, .int .i64 0, .slice none 0 0], .bool false]) (by simp [results, Try.results28, go_sem]; try rfl) rfl ?_
  refine ⟨_, rfl, OwnS.nil _ _, ?_⟩
  go_grown

set_option maxRecDepth 100000 in
set_option maxHeartbeats 8000000 in
theorem specAxisOf_long (v : Value) (xs : List Ps) (w : World) (hO : ∃ B, OwnS 25 4 encPs w B v xs) (hl : 2 ≤ xs.length ∧ xs.length ≤ 61) (b : Bool) (hb : b = true ↔ Road xs xs.length ∧ (mergeL (difs xs)).length ≤ 8) (r : Ps) (hr : r = if b = true then headP xs else zP0) (ys : List Cv) (hy : ys = if b = true then mergeL (difs xs) else []) :
    Calls Try.prog 28 #[v] w fun e w' => ∃ v', e = .returned (.tuple #[(.agg #[.int .i64 r.s, .int .i64 r.h, .int .i64 r.y, .int .i64 r.p, v']), .bool b]) ∧ OwnS 46 3 encCv w' w.heap.size v' ys ∧ Below w.heap.size w w' := by
  obtain ⟨i0, hi, hz0, hz1, hz2⟩ := info_parts info_CvM
  obtain ⟨BO, hO⟩ := hO
  obtain ⟨g, cap, rfl, hcap⟩ := hO.caps (by omega)
  have HO := Lib.hid (hO.rd encPs_len)
  have lg : g < w.heap.size := (hO.lt g rfl).2
  have CW := Lib.hid (fun w => in_any (xs.length : Int) 2 61 true ⟨fun _ => ⟨by omega, by omega⟩, fun _ => rfl⟩ w)
  have HB := Lib.hid hb
  have HR := Lib.hid hr
  have HY := Lib.hid hy
  obtain ⟨N, hn⟩ : ∃ n, xs.length = n := ⟨_, rfl⟩
  have n1 : 2 ≤ N := by omega
  have n60 : N ≤ 61 := by omega
  have HN := Lib.hid hn
  rw [hn] at CW HO ⊢
  clear hb hr hy hO hl hn hcap
  go_enter Try.func28, Try.ntmps28
  go_wp2_with fail
  refine (CW.out _).mono ?_
  rintro e w1 ⟨rfl, rfl⟩
  clear CW
  go_wp2
  have OU : Hid (OwnS 46 3 encCv ((w.alloc (.cells #[.int .i64 0, .int .i64 0, .int .i64 0, .int .i64 0, .slice none 0 0] 28)).alloc (.cells #[] 46)) (w.heap.size + 1) (.slice (some ⟨w.heap.size + 1, 0, none⟩) 0 0) ((difs xs).take 0)) := by
    show OwnS _ _ _ _ _ _ _
    have h := World.ownsRow_lit (e := 46) (size := 3) (w.alloc (.cells #[.int .i64 0, .int .i64 0, .int .i64 0, .int .i64 0, .slice none 0 0] 28)) #[] 0 (show w.heap.size + 1 ≤ _ by simp) (by decide) rfl
    rw [World.size_alloc] at h
    exact h
  have BU : Hid (Below w.heap.size w ((w.alloc (.cells #[.int .i64 0, .int .i64 0, .int .i64 0, .int .i64 0, .slice none 0 0] 28)).alloc (.cells #[] 46))) := by show Below _ _ _; go_grown
  have NU : Hid (((w.alloc (.cells #[.int .i64 0, .int .i64 0, .int .i64 0, .int .i64 0, .slice none 0 0] 28)).alloc (.cells #[] 46)).heap[w.heap.size]? = some (.cells #[.int .i64 0, .int .i64 0, .int .i64 0, .int .i64 0, .slice none 0 0] 28 (0, 0))) := heap_alloc2_old w _ _
  go_loopw [4, 5] (fun cv iv wr => ∃ (k m c1 ag : Nat), k ≤ N ∧ iv = .int .i64 k ∧ cv = .slice (some ⟨ag, 0, none⟩) m c1 ∧ Hid (m = k - 1) ∧ m ≤ 60 ∧ Hid (OwnS 46 3 encCv wr (w.heap.size + 1) cv ((difs xs).take m)) ∧ Hid (Road xs k) ∧ Hid (Below w.heap.size w wr) ∧ Hid (wr.heap[w.heap.size]? = some (.cells #[.int .i64 0, .int .i64 0, .int .i64 0, .int .i64 0, .slice none 0 0] 28 (0, 0)))) (fun _ iv _ => N - (intOf iv).toNat)
  case atStart => exact ⟨0, 0, 0, _, by omega, rfl, rfl, rfl, by omega, OU, Road.zero _, BU, NU⟩
  case round =>
    obtain ⟨k, m, c1, ag, hk, rfl, rfl, hm, hm6, O, RD, B, NR⟩ := hrel
    clear OU BU NU
    have hsz := B.out.size
    have lnr : w.heap.size < wr.heap.size := (Array.getElem?_eq_some_iff.1 NR.out).1
    by_cases hlt : k < N
    · obtain ⟨q, hq⟩ : ∃ x, xs[k]? = some x := ⟨_, List.getElem?_eq_getElem (by have := HN.out; omega)⟩
      obtain ⟨q0, q1, q2, q3⟩ := (HO.out.later B.out).at4g hq
      have Q := Lib.hid hq
      clear hq
      by_cases oq : OkP q
      · have C := Lib.hid (fun w => l02Pose_any q true ⟨fun _ => oq, fun _ => rfl⟩ w)
        have OQ := Lib.hid oq
        clear oq
        go_wp2_with fail
        refine (C.out _).mono ?_
        rintro e w5 ⟨rfl, h5⟩
        have z5 : w5.heap.size = wr.heap.size + 1 := by rw [h5]; simp
        have bw : Below wr.heap.size wr w5 := by rw [h5]; go_grown
        have B5 : Hid (Below w.heap.size w w5) := B.out.trans (bw.mono hsz)
        have O5 := Lib.hid (O.out.later bw)
        have NR5 := Lib.hid ((bw.block w.heap.size lnr).trans NR.out)
        clear h5 bw O B NR q0 q1 q2 q3 C
        by_cases k0 : k = 0
        · subst k0
          have RD1 : Hid (Road xs 1) := Road.one Q.out OQ.out
          obtain rfl : m = 0 := hm.out
          clear RD
          go_wp2
          exact ⟨⟨1, 0, c1, ag, by omega, by go_num, rfl, rfl, by omega, O5, RD1, B5, NR5⟩, by simp only [intOf]; omega⟩
        · obtain ⟨j, hj⟩ : ∃ j, k = j + 1 := ⟨k - 1, by omega⟩
          obtain ⟨p, hp⟩ : ∃ x, xs[j]? = some x := ⟨_, List.getElem?_eq_getElem (by have := HN.out; omega)⟩
          have op : OkP p := RD.out.1 j p (by omega) hp
          have wj : IntKind.i64.wrap ((k : Int) - 1) = (j : Int) := by rw [hj]; exact (IntWalk.i64_in _ (by omega)).trans (by omega)
          have jN : j < N := by omega
          have kz : ¬ (k : Int) = 0 := by omega
          have yq := OQ.out.2.2.1
          have pq := OQ.out.2.2.2
          have yp := op.2.2.1
          have pp := op.2.2.2
          unfold OkHead at yq pq yp pp
          have w1 : wrap64 (q.y - p.y) = q.y - p.y := by unfold wrap64; omega
          have w2 : wrap64 (q.p - p.p) = q.p - p.p := by unfold wrap64; omega
          obtain ⟨bd, hbd⟩ : ∃ x, q.y - p.y = x := ⟨_, rfl⟩
          obtain ⟨rs, hrs⟩ : ∃ x, q.p - p.p = x := ⟨_, rfl⟩
          have W1 : Hid (wrap64 (q.y - p.y) = bd) := by show _ = _; rw [w1, hbd]
          have W2 : Hid (wrap64 (q.p - p.p) = rs) := by show _ = _; rw [w2, hrs]
          clear w1 w2
          obtain ⟨p0, p1, p2, p3⟩ := (HO.out.later B5.out).at4g hp
          obtain ⟨q0, q1, q2, q3⟩ := (HO.out.later B5.out).at4g Q.out
          have P := Lib.hid hp
          have OP := Lib.hid op
          have HJ := Lib.hid hj
          have HBD := Lib.hid hbd
          have HRS := Lib.hid hrs
          have KS5 : Hid (∀ u, Below w5.heap.size w5 u → (fun w' => (w'.cell? ⟨g, j * 4, none⟩ = some (.int .i64 p.s) ∧ w'.cell? ⟨g, j * 4 + 1, none⟩ = some (.int .i64 p.h) ∧ w'.cell? ⟨g, j * 4 + 2, none⟩ = some (.int .i64 p.y) ∧ w'.cell? ⟨g, j * 4 + 3, none⟩ = some (.int .i64 p.p) ∧ w'.cell? ⟨g, k * 4, none⟩ = some (.int .i64 q.s) ∧ w'.cell? ⟨g, k * 4 + 1, none⟩ = some (.int .i64 q.h) ∧ w'.cell? ⟨g, k * 4 + 2, none⟩ = some (.int .i64 q.y) ∧ w'.cell? ⟨g, k * 4 + 3, none⟩ = some (.int .i64 q.p))) u) := by
            intro u b
            obtain ⟨p0, p1, p2, p3⟩ := (HO.out.later (B5.out.trans (b.mono (by omega)))).at4g P.out
            obtain ⟨q0, q1, q2, q3⟩ := (HO.out.later (B5.out.trans (b.mono (by omega)))).at4g Q.out
            exact ⟨p0, p1, p2, p3, q0, q1, q2, q3⟩
          have l5 : w5.heap.size = w5.drew.drew.heap.size := rfl
          clear hp op hj hbd hrs yq pq yp pp
          -- the turns
          go_wp2_with fail
          go_quiet (fail)
          obtain ⟨w6, hw6⟩ : ∃ x, w5.drewN nq = x := ⟨_, rfl⟩
          have B6 : Hid (Below w.heap.size w w6) := by subst hw6; exact ⟨B5.out.os, B5.out.tape, B5.out.output, B5.out.size, B5.out.block⟩
          have O6 : Hid (OwnS 46 3 encCv w6 (w.heap.size + 1) (.slice (some ⟨ag, 0, none⟩) m c1) ((difs xs).take m)) := by subst hw6; exact O5.out
          have NR6 : Hid (w6.heap[w.heap.size]? = some (.cells #[.int .i64 0, .int .i64 0, .int .i64 0, .int .i64 0, .slice none 0 0] 28 (0, 0))) := by subst hw6; exact NR5.out
          have KS6 : Hid (∀ u, Below w6.heap.size w6 u → (fun w' => (w'.cell? ⟨g, j * 4, none⟩ = some (.int .i64 p.s) ∧ w'.cell? ⟨g, j * 4 + 1, none⟩ = some (.int .i64 p.h) ∧ w'.cell? ⟨g, j * 4 + 2, none⟩ = some (.int .i64 p.y) ∧ w'.cell? ⟨g, j * 4 + 3, none⟩ = some (.int .i64 p.p) ∧ w'.cell? ⟨g, k * 4, none⟩ = some (.int .i64 q.s) ∧ w'.cell? ⟨g, k * 4 + 1, none⟩ = some (.int .i64 q.h) ∧ w'.cell? ⟨g, k * 4 + 2, none⟩ = some (.int .i64 q.y) ∧ w'.cell? ⟨g, k * 4 + 3, none⟩ = some (.int .i64 q.p))) u) := by subst hw6; exact fun u b => KS5.out u ⟨b.os, b.tape, b.output, b.size, b.block⟩
          have z6 : w6.heap.size = wr.heap.size + 1 := by subst hw6; exact z5
          rw [hw6]
          clear hw6 B5 O5 NR5 KS5 z5 p0 p1 p2 p3 q0 q1 q2 q3
          obtain ⟨p0, p1, p2, p3, q0, q1, q2, q3⟩ := KS6.out w6 (Below.refl _ _)
          go_wp2_with fail
          go_quiet (fail)
          obtain ⟨w7, hw7⟩ : ∃ x, w6.drewN nq = x := ⟨_, rfl⟩
          have B7 : Hid (Below w.heap.size w w7) := by subst hw7; exact ⟨B6.out.os, B6.out.tape, B6.out.output, B6.out.size, B6.out.block⟩
          have O7 : Hid (OwnS 46 3 encCv w7 (w.heap.size + 1) (.slice (some ⟨ag, 0, none⟩) m c1) ((difs xs).take m)) := by subst hw7; exact O6.out
          have NR7 : Hid (w7.heap[w.heap.size]? = some (.cells #[.int .i64 0, .int .i64 0, .int .i64 0, .int .i64 0, .slice none 0 0] 28 (0, 0))) := by subst hw7; exact NR6.out
          have KS7 : Hid (∀ u, Below w7.heap.size w7 u → (fun w' => (w'.cell? ⟨g, j * 4, none⟩ = some (.int .i64 p.s) ∧ w'.cell? ⟨g, j * 4 + 1, none⟩ = some (.int .i64 p.h) ∧ w'.cell? ⟨g, j * 4 + 2, none⟩ = some (.int .i64 p.y) ∧ w'.cell? ⟨g, j * 4 + 3, none⟩ = some (.int .i64 p.p) ∧ w'.cell? ⟨g, k * 4, none⟩ = some (.int .i64 q.s) ∧ w'.cell? ⟨g, k * 4 + 1, none⟩ = some (.int .i64 q.h) ∧ w'.cell? ⟨g, k * 4 + 2, none⟩ = some (.int .i64 q.y) ∧ w'.cell? ⟨g, k * 4 + 3, none⟩ = some (.int .i64 q.p))) u) := by subst hw7; exact fun u b => KS6.out u ⟨b.os, b.tape, b.output, b.size, b.block⟩
          have z7 : w7.heap.size = wr.heap.size + 1 := by subst hw7; exact z6
          rw [hw7]
          clear hw7 B6 O6 NR6 KS6 z6 p0 p1 p2 p3 q0 q1 q2 q3
          obtain ⟨p0, p1, p2, p3, q0, q1, q2, q3⟩ := KS7.out w7 (Below.refl _ _)
          rw [W1.out, W2.out]
          clear W1 W2 p0 p1 p2 p3 q0 q1 q2 q3
          have KS := KS7
          have bz : w.heap.size ≤ w7.heap.size := by omega
          have lnz : w.heap.size < w7.heap.size := by omega
          by_cases ht : OkTurn bd ∧ OkTurn rs
          · have T1 := Lib.hid (fun w => l02Turn_any bd rs true ⟨fun _ => ht, fun _ => rfl⟩ w)
            have room : Room p bd rs := OP.out.room ht.1 ht.2
            have T2 : Hid (∀ u : World, Calls Try.prog 62 #[(.agg #[.int .i64 p.s, .int .i64 p.h, .int .i64 p.y, .int .i64 p.p]), .int .i64 bd, .int .i64 rs] u fun e w' => e = .returned (.agg #[.int .i64 (stepP p bd rs).s, .int .i64 (stepP p bd rs).h, .int .i64 (stepP p bd rs).y, .int .i64 (stepP p bd rs).p]) ∧ Below u.heap.size u w') := by
              intro u
              refine (l02Next_any p bd rs room u).mono ?_
              rintro e w' ⟨rfl, rfl⟩
              exact ⟨rfl, by go_grown⟩
            have HT := Lib.hid ht
            obtain ⟨o, hoe⟩ : ∃ x, stepP p bd rs = x := ⟨_, rfl⟩
            rw [hoe] at T2
            have HOE := Lib.hid hoe
            clear ht room hoe KS7
            by_cases ho : o = q
            · have hs : Hid (StepOk p q) := by
                show StepOk _ _
                unfold StepOk
                rw [HBD.out, HRS.out]
                exact ⟨HT.out.1, HT.out.2, HOE.out.trans ho⟩
              have ho' : q = o := ho.symm
              subst ho'
              have E2 : Hid ((difs xs).take (m + 1) = (difs xs).take m ++ [⟨1, bd, rs⟩]) := by
                show _ = _
                have e : m = j := by rw [hm.out, HJ.out]; omega
                rw [e, difs_succ P.out (by rw [← HJ.out]; exact Q.out), dif, HBD.out, HRS.out]
              have RD2 : Hid (Road xs (k + 1)) := by
                have r := RD.out
                rw [HJ.out] at r
                have r2 := r.next P.out (by rw [← HJ.out]; exact Q.out) OQ.out hs.out
                rw [HJ.out]
                exact r2
              clear ho HOE HT RD hs
              go_wp2_with fail
              refine wp_region_held_drew (S := fun w' => (w'.cell? ⟨g, j * 4, none⟩ = some (.int .i64 p.s) ∧ w'.cell? ⟨g, j * 4 + 1, none⟩ = some (.int .i64 p.h) ∧ w'.cell? ⟨g, j * 4 + 2, none⟩ = some (.int .i64 p.y) ∧ w'.cell? ⟨g, j * 4 + 3, none⟩ = some (.int .i64 p.p) ∧ w'.cell? ⟨g, k * 4, none⟩ = some (.int .i64 q.s) ∧ w'.cell? ⟨g, k * 4 + 1, none⟩ = some (.int .i64 q.h) ∧ w'.cell? ⟨g, k * 4 + 2, none⟩ = some (.int .i64 q.y) ∧ w'.cell? ⟨g, k * 4 + 3, none⟩ = some (.int .i64 q.p))) (by kernel_rfl) (KS.out _ (Below.refl _ _).drew) (fun hHeld => ?_)
              refine wpAnyH_take (i := 0) (v := ?_) (by (simp only [List.getElem?_toArray, List.getElem?_cons_succ, List.getElem?_cons_zero]); (try exact rfl)) (by kernel_rfl) (by kernel_rfl) (by kernel_rfl) (by intro _ _ _ h; exact h) (Or.inl ⟨by rfl, ?_⟩) (by assumption) ?_
              rotate_left
              · intro w hSw
                try dsimp only at hSw
                go_simp
                try with_reducible rfl
              try simp only [Act.put, List.setIfInBounds_toArray, List.set_cons_zero, List.set_cons_succ]
              refine wpAnyH_take (i := 1) (v := ?_) (by (simp only [List.getElem?_toArray, List.getElem?_cons_succ, List.getElem?_cons_zero]); (try exact rfl)) (by kernel_rfl) (by kernel_rfl) (by kernel_rfl) (by intro _ _ _ h; exact h) (Or.inl ⟨by rfl, ?_⟩) (by assumption) ?_
              rotate_left
              · intro w hSw
                try dsimp only at hSw
                go_simp
                try with_reducible rfl
              try simp only [Act.put, List.setIfInBounds_toArray, List.set_cons_zero, List.set_cons_succ]
              refine wpAnyH_ready (rs := [2]) (by kernel_rfl) (by simp) ?_
              refine AllReadyH.cons (by (simp only [List.getElem?_toArray, List.getElem?_cons_succ, List.getElem?_cons_zero]); (try exact rfl)) (fun K hK => ?_) AllReadyH.nil
              go_simp
              go_at_call 61
              refine (T1.out _).mono ?_
              rintro e u1 ⟨rfl, rfl⟩
              (first | refine hK.out _ _ ?_ (fun hHeld => ?_) | (go_wp2_with fail; refine hK.out _ _ ?_ (fun hHeld => ?_)))
              · try dsimp only
                exact KS.out _ (Below.refl _ _).drew
              clear hK K
              try simp only [Act.put, List.setIfInBounds_toArray, List.set_cons_zero, List.set_cons_succ]
              refine wpAnyH_take (i := 3) (v := ?_) (by (simp only [List.getElem?_toArray, List.getElem?_cons_succ, List.getElem?_cons_zero]); (try exact rfl)) (by kernel_rfl) (by kernel_rfl) (by kernel_rfl) (by intro _ _ _ h; exact h) (Or.inl ⟨by rfl, ?_⟩) (by assumption) ?_
              rotate_left
              · intro w hSw
                try dsimp only at hSw
                go_simp
                try with_reducible rfl
              try simp only [Act.put, List.setIfInBounds_toArray, List.set_cons_zero, List.set_cons_succ]
              refine wpAnyH_take (i := 4) (v := ?_) (by (simp only [List.getElem?_toArray, List.getElem?_cons_succ, List.getElem?_cons_zero]); (try exact rfl)) (by kernel_rfl) (by kernel_rfl) (by kernel_rfl) (by intro _ _ _ h; exact h) (Or.inl ⟨by rfl, ?_⟩) (by assumption) ?_
              rotate_left
              · intro w hSw
                try dsimp only at hSw
                go_simp
                try with_reducible rfl
              try simp only [Act.put, List.setIfInBounds_toArray, List.set_cons_zero, List.set_cons_succ]
              refine wpAnyH_take (i := 5) (v := ?_) (by (simp only [List.getElem?_toArray, List.getElem?_cons_succ, List.getElem?_cons_zero]); (try exact rfl)) (by kernel_rfl) (by kernel_rfl) (by kernel_rfl) (by intro _ _ _ h; exact h) (Or.inl ⟨by rfl, ?_⟩) (by assumption) ?_
              rotate_left
              · intro w hSw
                try dsimp only at hSw
                go_simp
                try with_reducible rfl
              try simp only [Act.put, List.setIfInBounds_toArray, List.set_cons_zero, List.set_cons_succ]
              refine wpAnyH_take (i := 6) (v := ?_) (by (simp only [List.getElem?_toArray, List.getElem?_cons_succ, List.getElem?_cons_zero]); (try exact rfl)) (by kernel_rfl) (by kernel_rfl) (by kernel_rfl) (by intro _ _ _ h; exact h) (Or.inl ⟨by rfl, ?_⟩) (by assumption) ?_
              rotate_left
              · intro w hSw
                try dsimp only at hSw
                go_simp
                try with_reducible rfl
              try simp only [Act.put, List.setIfInBounds_toArray, List.set_cons_zero, List.set_cons_succ]
              refine wpAnyH_take (i := 7) (v := ?_) (by (simp only [List.getElem?_toArray, List.getElem?_cons_succ, List.getElem?_cons_zero]); (try exact rfl)) (by kernel_rfl) (by kernel_rfl) (by kernel_rfl) (by intro _ _ _ h; exact h) (Or.inl ⟨by rfl, ?_⟩) (by assumption) ?_
              rotate_left
              · intro w hSw
                try dsimp only at hSw
                go_simp
                try with_reducible rfl
              try simp only [Act.put, List.setIfInBounds_toArray, List.set_cons_zero, List.set_cons_succ]
              refine wpAnyH_take (i := 8) (v := ?_) (by (simp only [List.getElem?_toArray, List.getElem?_cons_succ, List.getElem?_cons_zero]); (try exact rfl)) (by kernel_rfl) (by kernel_rfl) (by kernel_rfl) (by intro _ _ _ h; exact h) (Or.inl ⟨by rfl, ?_⟩) (by assumption) ?_
              rotate_left
              · intro w hSw
                try dsimp only at hSw
                go_simp
                try with_reducible rfl
              try simp only [Act.put, List.setIfInBounds_toArray, List.set_cons_zero, List.set_cons_succ]
              refine wpAnyH_take (i := 9) (v := ?_) (by (simp only [List.getElem?_toArray, List.getElem?_cons_succ, List.getElem?_cons_zero]); (try exact rfl)) (by kernel_rfl) (by kernel_rfl) (by kernel_rfl) (by intro _ _ _ h; exact h) (Or.inl ⟨by rfl, ?_⟩) (by assumption) ?_
              rotate_left
              · intro w hSw
                try dsimp only at hSw
                go_simp
                try with_reducible rfl
              try simp only [Act.put, List.setIfInBounds_toArray, List.set_cons_zero, List.set_cons_succ]
              refine wpAnyH_take (i := 10) (v := ?_) (by (simp only [List.getElem?_toArray, List.getElem?_cons_succ, List.getElem?_cons_zero]); (try exact rfl)) (by kernel_rfl) (by kernel_rfl) (by kernel_rfl) (by intro _ _ _ h; exact h) (Or.inl ⟨by rfl, ?_⟩) (by assumption) ?_
              rotate_left
              · intro w hSw
                try dsimp only at hSw
                go_simp
                try with_reducible rfl
              try simp only [Act.put, List.setIfInBounds_toArray, List.set_cons_zero, List.set_cons_succ]
              refine wpAnyH_take (i := 11) (v := ?_) (by (simp only [List.getElem?_toArray, List.getElem?_cons_succ, List.getElem?_cons_zero]); (try exact rfl)) (by kernel_rfl) (by kernel_rfl) (by kernel_rfl) (by intro _ _ _ h; exact h) (Or.inl ⟨by rfl, ?_⟩) (by assumption) ?_
              rotate_left
              · intro w hSw
                try dsimp only at hSw
                go_simp
                try with_reducible rfl
              try simp only [Act.put, List.setIfInBounds_toArray, List.set_cons_zero, List.set_cons_succ]
              refine wpAnyH_take (i := 13) (v := ?_) (by (simp only [List.getElem?_toArray, List.getElem?_cons_succ, List.getElem?_cons_zero]); (try exact rfl)) (by kernel_rfl) (by kernel_rfl) (by kernel_rfl) (by intro _ _ _ h; exact h) (Or.inl ⟨by rfl, ?_⟩) (by assumption) ?_
              rotate_left
              · intro w hSw
                try dsimp only at hSw
                go_simp
                try with_reducible rfl
              try simp only [Act.put, List.setIfInBounds_toArray, List.set_cons_zero, List.set_cons_succ]
              refine wpAnyH_take (i := 14) (v := ?_) (by (simp only [List.getElem?_toArray, List.getElem?_cons_succ, List.getElem?_cons_zero]); (try exact rfl)) (by kernel_rfl) (by kernel_rfl) (by kernel_rfl) (by intro _ _ _ h; exact h) (Or.inl ⟨by rfl, ?_⟩) (by assumption) ?_
              rotate_left
              · intro w hSw
                try dsimp only at hSw
                go_simp
                try with_reducible rfl
              try simp only [Act.put, List.setIfInBounds_toArray, List.set_cons_zero, List.set_cons_succ]
              refine wpAnyH_take (i := 15) (v := ?_) (by (simp only [List.getElem?_toArray, List.getElem?_cons_succ, List.getElem?_cons_zero]); (try exact rfl)) (by kernel_rfl) (by kernel_rfl) (by kernel_rfl) (by intro _ _ _ h; exact h) (Or.inl ⟨by rfl, ?_⟩) (by assumption) ?_
              rotate_left
              · intro w hSw
                try dsimp only at hSw
                go_simp
                try with_reducible rfl
              try simp only [Act.put, List.setIfInBounds_toArray, List.set_cons_zero, List.set_cons_succ]
              refine wpAnyH_take (i := 16) (v := ?_) (by (simp only [List.getElem?_toArray, List.getElem?_cons_succ, List.getElem?_cons_zero]); (try exact rfl)) (by kernel_rfl) (by kernel_rfl) (by kernel_rfl) (by intro _ _ _ h; exact h) (Or.inl ⟨by rfl, ?_⟩) (by assumption) ?_
              rotate_left
              · intro w hSw
                try dsimp only at hSw
                go_simp
                try with_reducible rfl
              try simp only [Act.put, List.setIfInBounds_toArray, List.set_cons_zero, List.set_cons_succ]
              refine wpAnyH_ready (rs := [12]) (by kernel_rfl) (by simp) ?_
              refine AllReadyH.cons (by (simp only [List.getElem?_toArray, List.getElem?_cons_succ, List.getElem?_cons_zero]); (try exact rfl)) (fun K hK => ?_) AllReadyH.nil
              go_simp
              go_at_call 62
              refine (T2.out _).mono ?_
              rintro e u2 ⟨rfl, b2⟩
              (first | refine hK.out _ _ ?_ (fun hHeld => ?_) | (go_wp2_with fail; refine hK.out _ _ ?_ (fun hHeld => ?_)))
              · try dsimp only
                exact KS.out _ ((Below.refl _ _).drew.trans b2)
              clear hK K
              try simp only [Act.put, List.setIfInBounds_toArray, List.set_cons_zero, List.set_cons_succ]
              refine wpAnyH_take (i := 17) (v := ?_) (by (simp only [List.getElem?_toArray, List.getElem?_cons_succ, List.getElem?_cons_zero]); (try exact rfl)) (by kernel_rfl) (by kernel_rfl) (by kernel_rfl) (by intro _ _ _ h; exact h) (Or.inl ⟨by rfl, ?_⟩) (by assumption) ?_
              rotate_left
              · intro w hSw
                try dsimp only at hSw
                go_simp
                try with_reducible rfl
              try simp only [Act.put, List.setIfInBounds_toArray, List.set_cons_zero, List.set_cons_succ]
              refine wpAnyH_take (i := 18) (v := ?_) (by (simp only [List.getElem?_toArray, List.getElem?_cons_succ, List.getElem?_cons_zero]); (try exact rfl)) (by kernel_rfl) (by kernel_rfl) (by kernel_rfl) (by intro _ _ _ h; exact h) (Or.inl ⟨by rfl, ?_⟩) (by assumption) ?_
              rotate_left
              · intro w hSw
                try dsimp only at hSw
                go_simp
                try with_reducible rfl
              try simp only [Act.put, List.setIfInBounds_toArray, List.set_cons_zero, List.set_cons_succ]
              refine wpAnyH_done (by kernel_rfl) ?_ _
              have b8 : Below w7.heap.size w7 u2 := (Below.refl _ _).drew.trans b2
              have z8 := b8.size
              have B8 : Hid (Below w.heap.size w u2) := B7.out.trans (b8.mono bz)
              have O8 := Lib.hid (O7.out.later b8)
              have NR8 := Lib.hid ((b8.block w.heap.size lnz).trans NR7.out)
              have hlen : ((difs xs).take m).length = m := by rw [List.length_take, difs_len, HN.out, hm.out]; omega
              have own := O8.out
              unfold OwnS at own
              rw [hlen] at own
              have OWN := Lib.hid own
              have HLEN := Lib.hid hlen
              have agl := O8.out.lt ag rfl
              clear own hlen b8 b2 B7 O7 NR7 KS T1 T2
              go_wp2_with (at_builtin; refine wpList_append_lies _ rfl _ _ _ rfl (w.heap.size + 1) 46 i0 _ 3 24 Try.underlying26 hi hz0 hz1 hz2 rfl (by omega) _ _ _ rfl (OWN.out.alloc _) ⟨u2.heap.size, 0, none⟩ 1 1 [.int .i64 1, .int .i64 bd, .int .i64 rs] rfl rfl (World.news_of_block (cs := #[.int .i64 1, .int .i64 bd, .int .i64 rs]) (t := 46) (fr := (0, 0)) (heap_alloc_new u2 _)) (by simp [Value.oneCell']) (by omega) (by unfold maxLen; omega) (by omega) (by simp only [World.size_alloc]; omega) _ rfl ?_)
              intro gg cap1 w9 hown1 hgrow hat hlt'
              have O9 : Hid (OwnS 46 3 encCv w9 (w.heap.size + 1) (.slice (some ⟨gg, 0, none⟩) (m + 1) cap1) ((difs xs).take (m + 1))) := by
                show OwnS _ _ _ _ _ _ _
                unfold OwnS
                rw [E2.out, List.length_append, HLEN.out, List.flatMap_append]
                exact hown1
              have gr := grownBy_trans' (World.grownBy_alloc u2 _ _) hgrow
              have B9 : Hid (Below w.heap.size w w9) := B8.out.grown gr (by omega) (fun j e => by have := (O8.out.lt j e).1; omega)
              have NR9 : Hid (w9.heap[w.heap.size]? = some (.cells #[.int .i64 0, .int .i64 0, .int .i64 0, .int .i64 0, .slice none 0 0] 28 (0, 0))) := (gr.block w.heap.size (by omega) (fun h => by have := (O8.out.lt _ h.symm).1; omega)).trans NR8.out
              have HM2 : Hid (m + 1 = k + 1 - 1) := by show _ = _; rw [hm.out]; omega
              clear hown1 hgrow hat hlt' gr OWN O8 B8 NR8 HLEN
              go_wp2
              exact ⟨⟨k + 1, m + 1, cap1, gg, by omega, by go_num, rfl, HM2, by have := HM2.out; omega, O9, RD2, B9, NR9⟩, by simp only [intOf]; omega⟩
            · obtain rfl : b = false := bool_false HB.out (fun h => ho (by have s := (h.1.2 j p q (by rw [HN.out, ← HJ.out]; exact hlt) P.out (by rw [← HJ.out]; exact Q.out)).2.2; rw [HBD.out, HRS.out, HOE.out] at s; exact s))
              obtain rfl : r = zP0 := HR.out
              obtain rfl : ys = [] := HY.out
              clear HT RD HOE
              rcases neP ho with h | ⟨h0, h⟩ | ⟨h0, h1, h⟩ | ⟨h0, h1, h2, h⟩
              all_goals
                clear ho
                go_wp2_with fail
                refine wp_region_held_drew (S := fun w' => (w'.cell? ⟨g, j * 4, none⟩ = some (.int .i64 p.s) ∧ w'.cell? ⟨g, j * 4 + 1, none⟩ = some (.int .i64 p.h) ∧ w'.cell? ⟨g, j * 4 + 2, none⟩ = some (.int .i64 p.y) ∧ w'.cell? ⟨g, j * 4 + 3, none⟩ = some (.int .i64 p.p) ∧ w'.cell? ⟨g, k * 4, none⟩ = some (.int .i64 q.s) ∧ w'.cell? ⟨g, k * 4 + 1, none⟩ = some (.int .i64 q.h) ∧ w'.cell? ⟨g, k * 4 + 2, none⟩ = some (.int .i64 q.y) ∧ w'.cell? ⟨g, k * 4 + 3, none⟩ = some (.int .i64 q.p))) (by kernel_rfl) (KS.out _ (Below.refl _ _).drew) (fun hHeld => ?_)
                refine wpAnyH_take (i := 0) (v := ?_) (by (simp only [List.getElem?_toArray, List.getElem?_cons_succ, List.getElem?_cons_zero]); (try exact rfl)) (by kernel_rfl) (by kernel_rfl) (by kernel_rfl) (by intro _ _ _ h; exact h) (Or.inl ⟨by rfl, ?_⟩) (by assumption) ?_
                rotate_left
                · intro w hSw
                  try dsimp only at hSw
                  go_simp
                  try with_reducible rfl
                try simp only [Act.put, List.setIfInBounds_toArray, List.set_cons_zero, List.set_cons_succ]
                refine wpAnyH_take (i := 1) (v := ?_) (by (simp only [List.getElem?_toArray, List.getElem?_cons_succ, List.getElem?_cons_zero]); (try exact rfl)) (by kernel_rfl) (by kernel_rfl) (by kernel_rfl) (by intro _ _ _ h; exact h) (Or.inl ⟨by rfl, ?_⟩) (by assumption) ?_
                rotate_left
                · intro w hSw
                  try dsimp only at hSw
                  go_simp
                  try with_reducible rfl
                try simp only [Act.put, List.setIfInBounds_toArray, List.set_cons_zero, List.set_cons_succ]
                refine wpAnyH_ready (rs := [2]) (by kernel_rfl) (by simp) ?_
                refine AllReadyH.cons (by (simp only [List.getElem?_toArray, List.getElem?_cons_succ, List.getElem?_cons_zero]); (try exact rfl)) (fun K hK => ?_) AllReadyH.nil
                go_simp
                go_at_call 61
                refine (T1.out _).mono ?_
                rintro e u1 ⟨rfl, rfl⟩
                (first | refine hK.out _ _ ?_ (fun hHeld => ?_) | (go_wp2_with fail; refine hK.out _ _ ?_ (fun hHeld => ?_)))
                · try dsimp only
                  exact KS.out _ (Below.refl _ _).drew
                clear hK K
                try simp only [Act.put, List.setIfInBounds_toArray, List.set_cons_zero, List.set_cons_succ]
                refine wpAnyH_take (i := 3) (v := ?_) (by (simp only [List.getElem?_toArray, List.getElem?_cons_succ, List.getElem?_cons_zero]); (try exact rfl)) (by kernel_rfl) (by kernel_rfl) (by kernel_rfl) (by intro _ _ _ h; exact h) (Or.inl ⟨by rfl, ?_⟩) (by assumption) ?_
                rotate_left
                · intro w hSw
                  try dsimp only at hSw
                  go_simp
                  try with_reducible rfl
                try simp only [Act.put, List.setIfInBounds_toArray, List.set_cons_zero, List.set_cons_succ]
                refine wpAnyH_take (i := 4) (v := ?_) (by (simp only [List.getElem?_toArray, List.getElem?_cons_succ, List.getElem?_cons_zero]); (try exact rfl)) (by kernel_rfl) (by kernel_rfl) (by kernel_rfl) (by intro _ _ _ h; exact h) (Or.inl ⟨by rfl, ?_⟩) (by assumption) ?_
                rotate_left
                · intro w hSw
                  try dsimp only at hSw
                  go_simp
                  try with_reducible rfl
                try simp only [Act.put, List.setIfInBounds_toArray, List.set_cons_zero, List.set_cons_succ]
                refine wpAnyH_take (i := 5) (v := ?_) (by (simp only [List.getElem?_toArray, List.getElem?_cons_succ, List.getElem?_cons_zero]); (try exact rfl)) (by kernel_rfl) (by kernel_rfl) (by kernel_rfl) (by intro _ _ _ h; exact h) (Or.inl ⟨by rfl, ?_⟩) (by assumption) ?_
                rotate_left
                · intro w hSw
                  try dsimp only at hSw
                  go_simp
                  try with_reducible rfl
                try simp only [Act.put, List.setIfInBounds_toArray, List.set_cons_zero, List.set_cons_succ]
                refine wpAnyH_take (i := 6) (v := ?_) (by (simp only [List.getElem?_toArray, List.getElem?_cons_succ, List.getElem?_cons_zero]); (try exact rfl)) (by kernel_rfl) (by kernel_rfl) (by kernel_rfl) (by intro _ _ _ h; exact h) (Or.inl ⟨by rfl, ?_⟩) (by assumption) ?_
                rotate_left
                · intro w hSw
                  try dsimp only at hSw
                  go_simp
                  try with_reducible rfl
                try simp only [Act.put, List.setIfInBounds_toArray, List.set_cons_zero, List.set_cons_succ]
                refine wpAnyH_take (i := 7) (v := ?_) (by (simp only [List.getElem?_toArray, List.getElem?_cons_succ, List.getElem?_cons_zero]); (try exact rfl)) (by kernel_rfl) (by kernel_rfl) (by kernel_rfl) (by intro _ _ _ h; exact h) (Or.inl ⟨by rfl, ?_⟩) (by assumption) ?_
                rotate_left
                · intro w hSw
                  try dsimp only at hSw
                  go_simp
                  try with_reducible rfl
                try simp only [Act.put, List.setIfInBounds_toArray, List.set_cons_zero, List.set_cons_succ]
                refine wpAnyH_take (i := 8) (v := ?_) (by (simp only [List.getElem?_toArray, List.getElem?_cons_succ, List.getElem?_cons_zero]); (try exact rfl)) (by kernel_rfl) (by kernel_rfl) (by kernel_rfl) (by intro _ _ _ h; exact h) (Or.inl ⟨by rfl, ?_⟩) (by assumption) ?_
                rotate_left
                · intro w hSw
                  try dsimp only at hSw
                  go_simp
                  try with_reducible rfl
                try simp only [Act.put, List.setIfInBounds_toArray, List.set_cons_zero, List.set_cons_succ]
                refine wpAnyH_take (i := 9) (v := ?_) (by (simp only [List.getElem?_toArray, List.getElem?_cons_succ, List.getElem?_cons_zero]); (try exact rfl)) (by kernel_rfl) (by kernel_rfl) (by kernel_rfl) (by intro _ _ _ h; exact h) (Or.inl ⟨by rfl, ?_⟩) (by assumption) ?_
                rotate_left
                · intro w hSw
                  try dsimp only at hSw
                  go_simp
                  try with_reducible rfl
                try simp only [Act.put, List.setIfInBounds_toArray, List.set_cons_zero, List.set_cons_succ]
                refine wpAnyH_take (i := 10) (v := ?_) (by (simp only [List.getElem?_toArray, List.getElem?_cons_succ, List.getElem?_cons_zero]); (try exact rfl)) (by kernel_rfl) (by kernel_rfl) (by kernel_rfl) (by intro _ _ _ h; exact h) (Or.inl ⟨by rfl, ?_⟩) (by assumption) ?_
                rotate_left
                · intro w hSw
                  try dsimp only at hSw
                  go_simp
                  try with_reducible rfl
                try simp only [Act.put, List.setIfInBounds_toArray, List.set_cons_zero, List.set_cons_succ]
                refine wpAnyH_take (i := 11) (v := ?_) (by (simp only [List.getElem?_toArray, List.getElem?_cons_succ, List.getElem?_cons_zero]); (try exact rfl)) (by kernel_rfl) (by kernel_rfl) (by kernel_rfl) (by intro _ _ _ h; exact h) (Or.inl ⟨by rfl, ?_⟩) (by assumption) ?_
                rotate_left
                · intro w hSw
                  try dsimp only at hSw
                  go_simp
                  try with_reducible rfl
                try simp only [Act.put, List.setIfInBounds_toArray, List.set_cons_zero, List.set_cons_succ]
                refine wpAnyH_take (i := 13) (v := ?_) (by (simp only [List.getElem?_toArray, List.getElem?_cons_succ, List.getElem?_cons_zero]); (try exact rfl)) (by kernel_rfl) (by kernel_rfl) (by kernel_rfl) (by intro _ _ _ h; exact h) (Or.inl ⟨by rfl, ?_⟩) (by assumption) ?_
                rotate_left
                · intro w hSw
                  try dsimp only at hSw
                  go_simp
                  try with_reducible rfl
                try simp only [Act.put, List.setIfInBounds_toArray, List.set_cons_zero, List.set_cons_succ]
                refine wpAnyH_take (i := 14) (v := ?_) (by (simp only [List.getElem?_toArray, List.getElem?_cons_succ, List.getElem?_cons_zero]); (try exact rfl)) (by kernel_rfl) (by kernel_rfl) (by kernel_rfl) (by intro _ _ _ h; exact h) (Or.inl ⟨by rfl, ?_⟩) (by assumption) ?_
                rotate_left
                · intro w hSw
                  try dsimp only at hSw
                  go_simp
                  try with_reducible rfl
                try simp only [Act.put, List.setIfInBounds_toArray, List.set_cons_zero, List.set_cons_succ]
                refine wpAnyH_take (i := 15) (v := ?_) (by (simp only [List.getElem?_toArray, List.getElem?_cons_succ, List.getElem?_cons_zero]); (try exact rfl)) (by kernel_rfl) (by kernel_rfl) (by kernel_rfl) (by intro _ _ _ h; exact h) (Or.inl ⟨by rfl, ?_⟩) (by assumption) ?_
                rotate_left
                · intro w hSw
                  try dsimp only at hSw
                  go_simp
                  try with_reducible rfl
                try simp only [Act.put, List.setIfInBounds_toArray, List.set_cons_zero, List.set_cons_succ]
                refine wpAnyH_take (i := 16) (v := ?_) (by (simp only [List.getElem?_toArray, List.getElem?_cons_succ, List.getElem?_cons_zero]); (try exact rfl)) (by kernel_rfl) (by kernel_rfl) (by kernel_rfl) (by intro _ _ _ h; exact h) (Or.inl ⟨by rfl, ?_⟩) (by assumption) ?_
                rotate_left
                · intro w hSw
                  try dsimp only at hSw
                  go_simp
                  try with_reducible rfl
                try simp only [Act.put, List.setIfInBounds_toArray, List.set_cons_zero, List.set_cons_succ]
                refine wpAnyH_ready (rs := [12]) (by kernel_rfl) (by simp) ?_
                refine AllReadyH.cons (by (simp only [List.getElem?_toArray, List.getElem?_cons_succ, List.getElem?_cons_zero]); (try exact rfl)) (fun K hK => ?_) AllReadyH.nil
                go_simp
                go_at_call 62
                refine (T2.out _).mono ?_
                rintro e u2 ⟨rfl, b2⟩
                (first | refine hK.out _ _ ?_ (fun hHeld => ?_) | (go_wp2_with fail; refine hK.out _ _ ?_ (fun hHeld => ?_)))
                · try dsimp only
                  exact KS.out _ ((Below.refl _ _).drew.trans b2)
                clear hK K
                try simp only [Act.put, List.setIfInBounds_toArray, List.set_cons_zero, List.set_cons_succ]
                refine wpAnyH_take (i := 17) (v := ?_) (by (simp only [List.getElem?_toArray, List.getElem?_cons_succ, List.getElem?_cons_zero]); (try exact rfl)) (by kernel_rfl) (by kernel_rfl) (by kernel_rfl) (by intro _ _ _ h; exact h) (Or.inl ⟨by rfl, ?_⟩) (by assumption) ?_
                rotate_left
                · intro w hSw
                  try dsimp only at hSw
                  go_simp
                  try with_reducible rfl
                try simp only [Act.put, List.setIfInBounds_toArray, List.set_cons_zero, List.set_cons_succ]
                refine wpAnyH_take (i := 18) (v := ?_) (by (simp only [List.getElem?_toArray, List.getElem?_cons_succ, List.getElem?_cons_zero]); (try exact rfl)) (by kernel_rfl) (by kernel_rfl) (by kernel_rfl) (by intro _ _ _ h; exact h) (Or.inl ⟨by rfl, ?_⟩) (by assumption) ?_
                rotate_left
                · intro w hSw
                  try dsimp only at hSw
                  go_simp
                  try with_reducible rfl
                try simp only [Act.put, List.setIfInBounds_toArray, List.set_cons_zero, List.set_cons_succ]
                refine wpAnyH_done (by kernel_rfl) ?_ _
                have b8 : Below w7.heap.size w7 u2 := (Below.refl _ _).drew.trans b2
                have B8 : Hid (Below w.heap.size w u2) := B7.out.trans (b8.mono bz)
                have NR8 := Lib.hid ((b8.block w.heap.size lnz).trans NR7.out)
                clear b8 b2 B7 O7 NR7 KS T1 T2
                obtain ⟨⟨g0, g1, g2, g3, g4⟩, l9⟩ := boxA_at (q := zP0) NR8.out
                have f0 := frozen_of_row u2 w.heap.size 0 _ _ NR8.out
                have f1 := frozen_of_row u2 w.heap.size 1 _ _ NR8.out
                have f2 := frozen_of_row u2 w.heap.size 2 _ _ NR8.out
                have f3 := frozen_of_row u2 w.heap.size 3 _ _ NR8.out
                have f4 := frozen_of_row u2 w.heap.size 4 _ _ NR8.out
                have BF : Hid (Below w.heap.size w u2) := B8
                go_wp2
                refine bodyPost_ret (v := .tuple #[.agg #[.int .i64 0, .int .i64 0, .int .i64 0, .int .i64 0, .slice none 0 0], .bool false]) (by simp [results, Try.results28, go_sem, g0, g1, g2, g3, g4]; try rfl) rfl ?_
                refine ⟨_, rfl, OwnS.nil _ _, ?_⟩
                have b := BF.out
                go_grown
          · have T1 := Lib.hid (fun w => l02Turn_any bd rs false ⟨fun e => (by cases e), fun e => absurd e ht⟩ w)
            obtain rfl : b = false := bool_false HB.out (fun h => ht (by rw [← HBD.out, ← HRS.out]; have s := (h.1.2 j p q (by rw [HN.out, ← HJ.out]; exact hlt) P.out (by rw [← HJ.out]; exact Q.out)); exact ⟨s.1, s.2.1⟩))
            obtain rfl : r = zP0 := HR.out
            obtain rfl : ys = [] := HY.out
            clear ht KS7 RD
            go_wp2_with fail
            refine wp_region_held_drew (S := fun w' => (w'.cell? ⟨g, j * 4, none⟩ = some (.int .i64 p.s) ∧ w'.cell? ⟨g, j * 4 + 1, none⟩ = some (.int .i64 p.h) ∧ w'.cell? ⟨g, j * 4 + 2, none⟩ = some (.int .i64 p.y) ∧ w'.cell? ⟨g, j * 4 + 3, none⟩ = some (.int .i64 p.p) ∧ w'.cell? ⟨g, k * 4, none⟩ = some (.int .i64 q.s) ∧ w'.cell? ⟨g, k * 4 + 1, none⟩ = some (.int .i64 q.h) ∧ w'.cell? ⟨g, k * 4 + 2, none⟩ = some (.int .i64 q.y) ∧ w'.cell? ⟨g, k * 4 + 3, none⟩ = some (.int .i64 q.p))) (by kernel_rfl) (KS.out _ (Below.refl _ _).drew) (fun hHeld => ?_)
            refine wpAnyH_take (i := 0) (v := ?_) (by (simp only [List.getElem?_toArray, List.getElem?_cons_succ, List.getElem?_cons_zero]); (try exact rfl)) (by kernel_rfl) (by kernel_rfl) (by kernel_rfl) (by intro _ _ _ h; exact h) (Or.inl ⟨by rfl, ?_⟩) (by assumption) ?_
            rotate_left
            · intro w hSw
              try dsimp only at hSw
              go_simp
              try with_reducible rfl
            try simp only [Act.put, List.setIfInBounds_toArray, List.set_cons_zero, List.set_cons_succ]
            refine wpAnyH_take (i := 1) (v := ?_) (by (simp only [List.getElem?_toArray, List.getElem?_cons_succ, List.getElem?_cons_zero]); (try exact rfl)) (by kernel_rfl) (by kernel_rfl) (by kernel_rfl) (by intro _ _ _ h; exact h) (Or.inl ⟨by rfl, ?_⟩) (by assumption) ?_
            rotate_left
            · intro w hSw
              try dsimp only at hSw
              go_simp
              try with_reducible rfl
            try simp only [Act.put, List.setIfInBounds_toArray, List.set_cons_zero, List.set_cons_succ]
            refine wpAnyH_ready (rs := [2]) (by kernel_rfl) (by simp) ?_
            refine AllReadyH.cons (by (simp only [List.getElem?_toArray, List.getElem?_cons_succ, List.getElem?_cons_zero]); (try exact rfl)) (fun K hK => ?_) AllReadyH.nil
            go_simp
            go_at_call 61
            refine (T1.out _).mono ?_
            rintro e u1 ⟨rfl, rfl⟩
            (first | refine hK.out _ _ ?_ (fun hHeld => ?_) | (go_wp2_with fail; refine hK.out _ _ ?_ (fun hHeld => ?_)))
            · try dsimp only
              exact KS.out _ (Below.refl _ _).drew
            clear hK K
            try simp only [Act.put, List.setIfInBounds_toArray, List.set_cons_zero, List.set_cons_succ]
            refine wpAnyH_take (i := 3) (v := ?_) (by (simp only [List.getElem?_toArray, List.getElem?_cons_succ, List.getElem?_cons_zero]); (try exact rfl)) (by kernel_rfl) (by kernel_rfl) (by kernel_rfl) (by intro _ _ _ h; exact h) (Or.inl ⟨by rfl, ?_⟩) (by assumption) ?_
            rotate_left
            · intro w hSw
              try dsimp only at hSw
              go_simp
              try with_reducible rfl
            try simp only [Act.put, List.setIfInBounds_toArray, List.set_cons_zero, List.set_cons_succ]
            refine wpAnyH_take (i := 4) (v := ?_) (by (simp only [List.getElem?_toArray, List.getElem?_cons_succ, List.getElem?_cons_zero]); (try exact rfl)) (by kernel_rfl) (by kernel_rfl) (by kernel_rfl) (by intro _ _ _ h; exact h) (Or.inl ⟨by rfl, ?_⟩) (by assumption) ?_
            rotate_left
            · intro w hSw
              try dsimp only at hSw
              go_simp
              try with_reducible rfl
            try simp only [Act.put, List.setIfInBounds_toArray, List.set_cons_zero, List.set_cons_succ]
            refine wpAnyH_take (i := 5) (v := undef) (by (simp only [List.getElem?_toArray, List.getElem?_cons_succ, List.getElem?_cons_zero]); (try exact rfl)) (by kernel_rfl) (by kernel_rfl) (by kernel_rfl) (by intro _ _ _ h; exact h) (Or.inr ⟨by rfl, rfl⟩) (by assumption) ?_
            try simp only [Act.put, List.setIfInBounds_toArray, List.set_cons_zero, List.set_cons_succ]
            refine wpAnyH_take (i := 6) (v := undef) (by (simp only [List.getElem?_toArray, List.getElem?_cons_succ, List.getElem?_cons_zero]); (try exact rfl)) (by kernel_rfl) (by kernel_rfl) (by kernel_rfl) (by intro _ _ _ h; exact h) (Or.inr ⟨by rfl, rfl⟩) (by assumption) ?_
            try simp only [Act.put, List.setIfInBounds_toArray, List.set_cons_zero, List.set_cons_succ]
            refine wpAnyH_take (i := 7) (v := undef) (by (simp only [List.getElem?_toArray, List.getElem?_cons_succ, List.getElem?_cons_zero]); (try exact rfl)) (by kernel_rfl) (by kernel_rfl) (by kernel_rfl) (by intro _ _ _ h; exact h) (Or.inr ⟨by rfl, rfl⟩) (by assumption) ?_
            try simp only [Act.put, List.setIfInBounds_toArray, List.set_cons_zero, List.set_cons_succ]
            refine wpAnyH_take (i := 8) (v := undef) (by (simp only [List.getElem?_toArray, List.getElem?_cons_succ, List.getElem?_cons_zero]); (try exact rfl)) (by kernel_rfl) (by kernel_rfl) (by kernel_rfl) (by intro _ _ _ h; exact h) (Or.inr ⟨by rfl, rfl⟩) (by assumption) ?_
            try simp only [Act.put, List.setIfInBounds_toArray, List.set_cons_zero, List.set_cons_succ]
            refine wpAnyH_take (i := 9) (v := undef) (by (simp only [List.getElem?_toArray, List.getElem?_cons_succ, List.getElem?_cons_zero]); (try exact rfl)) (by kernel_rfl) (by kernel_rfl) (by kernel_rfl) (by intro _ _ _ h; exact h) (Or.inr ⟨by rfl, rfl⟩) (by assumption) ?_
            try simp only [Act.put, List.setIfInBounds_toArray, List.set_cons_zero, List.set_cons_succ]
            refine wpAnyH_take (i := 10) (v := undef) (by (simp only [List.getElem?_toArray, List.getElem?_cons_succ, List.getElem?_cons_zero]); (try exact rfl)) (by kernel_rfl) (by kernel_rfl) (by kernel_rfl) (by intro _ _ _ h; exact h) (Or.inr ⟨by rfl, rfl⟩) (by assumption) ?_
            try simp only [Act.put, List.setIfInBounds_toArray, List.set_cons_zero, List.set_cons_succ]
            refine wpAnyH_take (i := 11) (v := undef) (by (simp only [List.getElem?_toArray, List.getElem?_cons_succ, List.getElem?_cons_zero]); (try exact rfl)) (by kernel_rfl) (by kernel_rfl) (by kernel_rfl) (by intro _ _ _ h; exact h) (Or.inr ⟨by rfl, rfl⟩) (by assumption) ?_
            try simp only [Act.put, List.setIfInBounds_toArray, List.set_cons_zero, List.set_cons_succ]
            refine wpAnyH_take (i := 12) (v := undef) (by (simp only [List.getElem?_toArray, List.getElem?_cons_succ, List.getElem?_cons_zero]); (try exact rfl)) (by kernel_rfl) (by kernel_rfl) (by kernel_rfl) (by intro _ _ _ h; exact h) (Or.inr ⟨by rfl, rfl⟩) (by assumption) ?_
            try simp only [Act.put, List.setIfInBounds_toArray, List.set_cons_zero, List.set_cons_succ]
            refine wpAnyH_take (i := 13) (v := undef) (by (simp only [List.getElem?_toArray, List.getElem?_cons_succ, List.getElem?_cons_zero]); (try exact rfl)) (by kernel_rfl) (by kernel_rfl) (by kernel_rfl) (by intro _ _ _ h; exact h) (Or.inr ⟨by rfl, rfl⟩) (by assumption) ?_
            try simp only [Act.put, List.setIfInBounds_toArray, List.set_cons_zero, List.set_cons_succ]
            refine wpAnyH_take (i := 14) (v := undef) (by (simp only [List.getElem?_toArray, List.getElem?_cons_succ, List.getElem?_cons_zero]); (try exact rfl)) (by kernel_rfl) (by kernel_rfl) (by kernel_rfl) (by intro _ _ _ h; exact h) (Or.inr ⟨by rfl, rfl⟩) (by assumption) ?_
            try simp only [Act.put, List.setIfInBounds_toArray, List.set_cons_zero, List.set_cons_succ]
            refine wpAnyH_take (i := 15) (v := undef) (by (simp only [List.getElem?_toArray, List.getElem?_cons_succ, List.getElem?_cons_zero]); (try exact rfl)) (by kernel_rfl) (by kernel_rfl) (by kernel_rfl) (by intro _ _ _ h; exact h) (Or.inr ⟨by rfl, rfl⟩) (by assumption) ?_
            try simp only [Act.put, List.setIfInBounds_toArray, List.set_cons_zero, List.set_cons_succ]
            refine wpAnyH_take (i := 16) (v := undef) (by (simp only [List.getElem?_toArray, List.getElem?_cons_succ, List.getElem?_cons_zero]); (try exact rfl)) (by kernel_rfl) (by kernel_rfl) (by kernel_rfl) (by intro _ _ _ h; exact h) (Or.inr ⟨by rfl, rfl⟩) (by assumption) ?_
            try simp only [Act.put, List.setIfInBounds_toArray, List.set_cons_zero, List.set_cons_succ]
            refine wpAnyH_take (i := 17) (v := undef) (by (simp only [List.getElem?_toArray, List.getElem?_cons_succ, List.getElem?_cons_zero]); (try exact rfl)) (by kernel_rfl) (by kernel_rfl) (by kernel_rfl) (by intro _ _ _ h; exact h) (Or.inr ⟨by rfl, rfl⟩) (by assumption) ?_
            try simp only [Act.put, List.setIfInBounds_toArray, List.set_cons_zero, List.set_cons_succ]
            refine wpAnyH_take (i := 18) (v := ?_) (by (simp only [List.getElem?_toArray, List.getElem?_cons_succ, List.getElem?_cons_zero]); (try exact rfl)) (by kernel_rfl) (by kernel_rfl) (by kernel_rfl) (by intro _ _ _ h; exact h) (Or.inl ⟨by rfl, ?_⟩) (by assumption) ?_
            rotate_left
            · intro w hSw
              try dsimp only at hSw
              go_simp
              try with_reducible rfl
            try simp only [Act.put, List.setIfInBounds_toArray, List.set_cons_zero, List.set_cons_succ]
            refine wpAnyH_done (by kernel_rfl) ?_ _
            obtain ⟨w8, hw8⟩ : ∃ x, w7.drew = x := ⟨_, rfl⟩
            have NF : Hid (w8.heap[w.heap.size]? = some (.cells #[.int .i64 0, .int .i64 0, .int .i64 0, .int .i64 0, .slice none 0 0] 28 (0, 0))) := by subst hw8; exact NR7.out
            have B8 : Hid (Below w.heap.size w w8) := by subst hw8; exact B7.out.drew
            rw [hw8]
            clear hw8 B7 O7 NR7 KS T1
            obtain ⟨⟨g0, g1, g2, g3, g4⟩, l9⟩ := boxA_at (q := zP0) NF.out
            have f0 := frozen_of_row w8 w.heap.size 0 _ _ NF.out
            have f1 := frozen_of_row w8 w.heap.size 1 _ _ NF.out
            have f2 := frozen_of_row w8 w.heap.size 2 _ _ NF.out
            have f3 := frozen_of_row w8 w.heap.size 3 _ _ NF.out
            have f4 := frozen_of_row w8 w.heap.size 4 _ _ NF.out
            have BF : Hid (Below w.heap.size w w8) := B8
            go_wp2
            refine bodyPost_ret (v := .tuple #[.agg #[.int .i64 0, .int .i64 0, .int .i64 0, .int .i64 0, .slice none 0 0], .bool false]) (by simp [results, Try.results28, go_sem, g0, g1, g2, g3, g4]; try rfl) rfl ?_
            refine ⟨_, rfl, OwnS.nil _ _, ?_⟩
            have b := BF.out
            go_grown

      · have C := Lib.hid (fun w => l02Pose_any q false ⟨fun e => (by cases e), fun e => absurd e oq⟩ w)
        obtain rfl : b = false := bool_false HB.out (fun h => oq (h.1.1 k q (by rw [HN.out]; exact hlt) Q.out))
        obtain rfl : r = zP0 := HR.out
        obtain rfl : ys = [] := HY.out
        clear oq RD
        go_wp2_with fail
        refine (C.out _).mono ?_
        rintro e w5 ⟨rfl, h5⟩
        have bw : Below wr.heap.size wr w5 := by rw [h5]; go_grown
        have B5 : Hid (Below w.heap.size w w5) := B.out.trans (bw.mono hsz)
        have NR5 := Lib.hid ((bw.block w.heap.size lnr).trans NR.out)
        clear h5 bw O B NR q0 q1 q2 q3 C
        obtain ⟨⟨g0, g1, g2, g3, g4⟩, l9⟩ := boxA_at (q := zP0) NR5.out
        have f0 := frozen_of_row w5 w.heap.size 0 _ _ NR5.out
        have f1 := frozen_of_row w5 w.heap.size 1 _ _ NR5.out
        have f2 := frozen_of_row w5 w.heap.size 2 _ _ NR5.out
        have f3 := frozen_of_row w5 w.heap.size 3 _ _ NR5.out
        have f4 := frozen_of_row w5 w.heap.size 4 _ _ NR5.out
        have BF : Hid (Below w.heap.size w w5) := B5
        go_wp2
        refine bodyPost_ret (v := .tuple #[.agg #[.int .i64 0, .int .i64 0, .int .i64 0, .int .i64 0, .slice none 0 0], .bool false]) (by simp [results, Try.results28, go_sem, g0, g1, g2, g3, g4]; try rfl) rfl ?_
        refine ⟨_, rfl, OwnS.nil _ _, ?_⟩
        have b := BF.out
        go_grown
    · obtain rfl : k = N := by omega
      have EA : Hid ((difs xs).take m = difs xs) := List.take_of_length_le (by rw [difs_len, HN.out, hm.out]; omega)
      have RDA : Hid (Road xs xs.length) := by
        show Road _ _
        rw [HN.out]
        exact RD.out
      have O2 := O.out
      rw [EA.out] at O2
      have DL : Hid ((difs xs).length = m) := by show _ = _; rw [difs_len, HN.out, hm.out]
      have OD := Lib.hid (O2.rd encCv_len)
      obtain ⟨x0, hx0⟩ : ∃ x, xs[0]? = some x := ⟨_, List.getElem?_eq_getElem (by have := HN.out; omega)⟩
      have HX := Lib.hid hx0
      have MG := Lib.hid (fun u (h : RdS 3 encCv u (.slice (some ⟨ag, 0, none⟩) m c1) (difs xs)) => l02Merge_any (.slice (some ⟨ag, 0, none⟩) m c1) (difs xs) u h (by have := DL.out; omega) (fun d hd => by rw [difs_one d hd]; omega) (by rw [sumR_one _ difs_one, DL.out]; omega))
      have RO := Lib.hid (road_ok hx0 RDA.out (by have := HN.out; omega) (by have := HN.out; omega))
      obtain ⟨L, hL⟩ : ∃ L, mergeL (difs xs) = L := ⟨_, rfl⟩
      have HB' : Hid (b = true ↔ OkA x0 L) := by
        show _ ↔ _
        have h := RO.out
        rw [hL] at h
        rw [h, HB.out, hL]
        exact ⟨fun h => h.2, fun h => ⟨RDA.out, h⟩⟩
      have LL : Hid (L.length ≤ 60) := by
        have h := mergeL_length (difs xs)
        rw [hL] at h
        show _ ≤ _
        have := DL.out
        omega
      rw [hL] at MG HY
      have KS : Hid (∀ u, Below wr.heap.size wr u → (fun w' => (w'.cell? ⟨g, 0, none⟩ = some (.int .i64 x0.s) ∧ w'.cell? ⟨g, 1, none⟩ = some (.int .i64 x0.h) ∧ w'.cell? ⟨g, 2, none⟩ = some (.int .i64 x0.y) ∧ w'.cell? ⟨g, 3, none⟩ = some (.int .i64 x0.p))) u) := by
        intro u b
        obtain ⟨x0', x1', x2', x3'⟩ := (HO.out.later (B.out.trans (b.mono hsz))).at4g HX.out
        simp only [Nat.zero_mul, Nat.zero_add] at x0' x1' x2' x3'
        exact ⟨x0', x1', x2', x3'⟩
      have NN : (0 : Int) < (k : Int) := by omega
      have nn : 0 < k := by omega
      clear O O2 EA RD RDA hL HB RO hx0 DL hm
      go_wp2_with fail
      refine wp_region_held_drew (S := fun w' => ((w'.cell? ⟨g, 0, none⟩ = some (.int .i64 x0.s) ∧ w'.cell? ⟨g, 1, none⟩ = some (.int .i64 x0.h) ∧ w'.cell? ⟨g, 2, none⟩ = some (.int .i64 x0.y) ∧ w'.cell? ⟨g, 3, none⟩ = some (.int .i64 x0.p)))) (by kernel_rfl) (KS.out _ (Below.refl _ _).drew) (fun hHeld => ?_)
      have D0 : Hid (Below wr.heap.size wr (World.drew wr)) := (Below.refl _ _).drew
      refine wpAnyH_take (i := 0) (v := ?_) (by (simp only [List.getElem?_toArray, List.getElem?_cons_succ, List.getElem?_cons_zero]); (try exact rfl)) (by kernel_rfl) (by kernel_rfl) (by kernel_rfl) (by intro _ _ _ h; exact h) (Or.inl ⟨by rfl, ?_⟩) (by assumption) ?_
      rotate_left
      · intro w hSw
        try dsimp only at hSw
        go_simp
        try with_reducible rfl
      try simp only [Act.put, List.setIfInBounds_toArray, List.set_cons_zero, List.set_cons_succ]
      refine wpAnyH_take (i := 1) (v := ?_) (by (simp only [List.getElem?_toArray, List.getElem?_cons_succ, List.getElem?_cons_zero]); (try exact rfl)) (by kernel_rfl) (by kernel_rfl) (by kernel_rfl) (by intro _ _ _ h; exact h) (Or.inl ⟨by rfl, ?_⟩) (by assumption) ?_
      rotate_left
      · intro w hSw
        try dsimp only at hSw
        go_simp
        try with_reducible rfl
      try simp only [Act.put, List.setIfInBounds_toArray, List.set_cons_zero, List.set_cons_succ]
      refine wpAnyH_take (i := 2) (v := ?_) (by (simp only [List.getElem?_toArray, List.getElem?_cons_succ, List.getElem?_cons_zero]); (try exact rfl)) (by kernel_rfl) (by kernel_rfl) (by kernel_rfl) (by intro _ _ _ h; exact h) (Or.inl ⟨by rfl, ?_⟩) (by assumption) ?_
      rotate_left
      · intro w hSw
        try dsimp only at hSw
        go_simp
        try with_reducible rfl
      try simp only [Act.put, List.setIfInBounds_toArray, List.set_cons_zero, List.set_cons_succ]
      refine wpAnyH_take (i := 3) (v := ?_) (by (simp only [List.getElem?_toArray, List.getElem?_cons_succ, List.getElem?_cons_zero]); (try exact rfl)) (by kernel_rfl) (by kernel_rfl) (by kernel_rfl) (by intro _ _ _ h; exact h) (Or.inl ⟨by rfl, ?_⟩) (by assumption) ?_
      rotate_left
      · intro w hSw
        try dsimp only at hSw
        go_simp
        try with_reducible rfl
      try simp only [Act.put, List.setIfInBounds_toArray, List.set_cons_zero, List.set_cons_succ]
      refine wpAnyH_ready (rs := [4, 6]) (by kernel_rfl) (by simp) ?_
      refine (AllReadyH.cons (by (simp only [List.getElem?_toArray, List.getElem?_cons_succ, List.getElem?_cons_zero]); (try exact rfl)) (fun K hK => ?_) (AllReadyH.cons (by (simp only [List.getElem?_toArray, List.getElem?_cons_succ, List.getElem?_cons_zero]); (try exact rfl)) (fun K hK => ?_) AllReadyH.nil))
      go_simp
      go_at_call 63
      refine (MG.out _ (OD.out.later D0.out)).mono ?_
      rintro e u_1 ⟨vm, rfl, om, bb⟩
      obtain ⟨am, cm, rfl⟩ := om.form
      have SWu_1 : wr.heap.size ≤ _ := D0.out.size
      have OMu_1 := Lib.hid om
      clear om
      have Du_1 : Hid (Below wr.heap.size wr u_1) := Below.trans D0.out (bb.mono D0.out.size)
      clear bb
      (first | refine hK.out _ _ ?_ (fun hHeld => ?_) | (go_wp2_with fail; refine hK.out _ _ ?_ (fun hHeld => ?_)))
      · try dsimp only
        exact KS.out _ Du_1.out
      clear hK K
      try simp only [Act.put, List.setIfInBounds_toArray, List.set_cons_zero, List.set_cons_succ]
      refine wpAnyH_take (i := 5) (v := ?_) (by (simp only [List.getElem?_toArray, List.getElem?_cons_succ, List.getElem?_cons_zero]); (try exact rfl)) (by kernel_rfl) (by kernel_rfl) (by kernel_rfl) (by intro _ _ _ h; exact h) (Or.inl ⟨by rfl, ?_⟩) (by assumption) ?_
      rotate_left
      · intro w hSw
        try dsimp only at hSw
        go_simp
        try with_reducible rfl
      try simp only [Act.put, List.setIfInBounds_toArray, List.set_cons_zero, List.set_cons_succ]
      refine wpAnyH_ready (rs := [6]) (by kernel_rfl) (by simp) ?_
      refine (AllReadyH.cons (by (simp only [List.getElem?_toArray, List.getElem?_cons_succ, List.getElem?_cons_zero]); (try exact rfl)) (fun K hK => ?_) AllReadyH.nil)
      go_simp
      generalize hA : World.alloc u_1 (.cells #[.int .i64 0, .int .i64 0, .int .i64 0, .int .i64 0, .slice none 0 0] 28) = a_2
      obtain ⟨pa, hp⟩ : ∃ p, p = u_1.heap.size := ⟨_, rfl⟩
      have ba : Below u_1.heap.size u_1 a_2 := by rw [← hA]; exact Below.alloc (Below.refl _ _) (Nat.le_refl _) _
      have Zaa_2 := Lib.hid (show a_2.heap[pa]? = some (.cells #[.int .i64 0, .int .i64 0, .int .i64 0, .int .i64 0, .slice none 0 0] 28 (0, 0)) from by rw [← hA, hp]; exact heap_alloc_new _ _)
      have tpa : wr.heap.size ≤ pa := by rw [hp]; exact Du_1.out.size
      have QO : Hid (∀ c, (Value.slice am L.length cm).ownBlock = some c → c ≠ pa) := fun c h => by have h1 := (OMu_1.out.lt c h).2; rw [hp]; omega
      have OMa_2 := Lib.hid (OMu_1.out.later ba)
      have Da_2 : Hid (Below wr.heap.size wr a_2) := Below.trans Du_1.out (ba.mono Du_1.out.size)
      rw [← hp]
      clear hA hp ba
      refine hK.out _ _ ?_ (fun hHeld => ?_)
      · try dsimp only
        exact KS.out _ Da_2.out
      clear hK K
      try simp only [Act.put, List.setIfInBounds_toArray, List.set_cons_zero, List.set_cons_succ]
      refine wpAnyH_ready (rs := [7]) (by kernel_rfl) (by simp) ?_
      refine AllReadyH.cons (by (simp only [List.getElem?_toArray, List.getElem?_cons_succ, List.getElem?_cons_zero]); (try exact rfl)) (fun K hK => ?_) AllReadyH.nil
      refine step_store_A rfl _ _ rfl pa zP0 (.slice none 0 0) x0 (.slice am L.length cm) rfl _ rfl rfl Zaa_2.out ?_
      intro e_3 hE oE bE
      have De_3 : Hid (Below wr.heap.size wr e_3) := Below.trans Da_2.out (bE.mono tpa)
      have Zae_3 := Lib.hid hE
      have OMe_3 := Lib.hid (OMa_2.out.kept (grow_of oE bE) (ne_own QO.out))
      clear hE oE bE QO
      refine hK.out _ _ ?_ (fun hHeld => ?_)
      · try dsimp only
        exact KS.out _ De_3.out
      clear hK K
      try simp only [Act.put, List.setIfInBounds_toArray, List.set_cons_zero, List.set_cons_succ]
      refine wpAnyH_done (by kernel_rfl) ?_ _
      have se := De_3.out.size
      go_wp2_with fail
      refine (l02Is_any pa 28 x0 am cm L e_3 Zae_3.out (OMe_3.out.rd encCv_len) (by have := LL.out; omega) b HB'.out).mono ?_
      rintro e w9 ⟨rfl, b9⟩
      have BB : Hid (Below w.heap.size w w9) := B.out.trans ((De_3.out.mono hsz).trans (b9.mono (by omega)))
      have NR9 := Lib.hid ((b9.block w.heap.size (by omega)).trans ((De_3.out.block w.heap.size lnr).trans NR.out))
      have OM9 := Lib.hid (OMe_3.out.later b9)
      have ZA := (b9.block pa (box_lt Zae_3.out)).trans Zae_3.out
      obtain ⟨⟨y0, y1, y2, y3, y4⟩, lpa⟩ := boxA_at ZA
      have npa : ¬ pa = w.heap.size := by omega
      have npb : ¬ w.heap.size = pa := by omega
      clear b9 Zae_3 OMe_3 De_3 B NR HB' ZA
      obtain ⟨⟨g0, g1, g2, g3, g4⟩, l9⟩ := boxA_at (q := zP0) NR9.out
      have f0 := frozen_of_row w9 w.heap.size 0 _ _ NR9.out
      have f1 := frozen_of_row w9 w.heap.size 1 _ _ NR9.out
      have f2 := frozen_of_row w9 w.heap.size 2 _ _ NR9.out
      have f3 := frozen_of_row w9 w.heap.size 3 _ _ NR9.out
      have f4 := frozen_of_row w9 w.heap.size 4 _ _ NR9.out
      have BF : Hid (Below w.heap.size w w9) := BB
      cases b with
      | false =>
        obtain rfl : r = zP0 := HR.out
        obtain rfl : ys = [] := HY.out
        clear y0 y1 y2 y3 y4 LL OM9
        go_wp2
        refine bodyPost_ret (v := .tuple #[.agg #[.int .i64 0, .int .i64 0, .int .i64 0, .int .i64 0, .slice none 0 0], .bool false]) (by simp [results, Try.results28, go_sem, g0, g1, g2, g3, g4]; try rfl) rfl ?_
        refine ⟨_, rfl, OwnS.nil _ _, ?_⟩
        have b := BF.out
        go_grown
      | true =>
        have hh : x0 = r := by
          rw [show r = headP xs from HR.out]
          have h := HX.out
          rw [← List.head?_eq_getElem?] at h
          unfold headP
          rw [h]
          rfl
        subst hh
        obtain rfl : ys = L := HY.out
        clear LL
        go_wp2
        refine bodyPost_ret (v := .tuple #[(.agg #[.int .i64 x0.s, .int .i64 x0.h, .int .i64 x0.y, .int .i64 x0.p, (.slice am ys.length cm)]), .bool true]) (by simp [results, Try.results28, go_sem, g0, g1, g2, g3, g4]; try rfl) rfl ?_
        refine ⟨_, rfl, ?_, ?_⟩
        · refine OwnS.mono ?_ (show w.heap.size ≤ w.heap.size + 1 by omega)
          have o := OM9.out.mono (show w.heap.size + 1 ≤ _ by omega)
          exact ((((o.setBelow (by simp) _).setBelow (by simp) _).setBelow (by simp) _).setBelow (by simp) _).setBelow (by simp) _
        · have b := BF.out
          go_grown
      go_simp
      generalize hA : World.drew (World.alloc wr (.cells #[.int .i64 0, .int .i64 0, .int .i64 0, .int .i64 0, .slice none 0 0] 28)) = a_4
      obtain ⟨pa, hp⟩ : ∃ p, p = wr.heap.size := ⟨_, rfl⟩
      have ba : Below (World.drew wr).heap.size (World.drew wr) a_4 := by rw [← hA]; exact (Below.alloc (Below.refl _ _) (Nat.le_refl _) _ : Below _ (World.drew wr) (World.alloc (World.drew wr) _))
      have Zaa_4 := Lib.hid (show a_4.heap[pa]? = some (.cells #[.int .i64 0, .int .i64 0, .int .i64 0, .int .i64 0, .slice none 0 0] 28 (0, 0)) from by rw [← hA, hp]; exact heap_alloc_new wr _)
      have tpa : wr.heap.size ≤ pa := by rw [hp]; exact Nat.le_refl _
      have Da_4 : Hid (Below wr.heap.size wr a_4) := Below.trans D0.out (ba.mono D0.out.size)
      rw [← hp]
      clear hA hp ba
      refine hK.out _ _ ?_ (fun hHeld => ?_)
      · try dsimp only
        exact KS.out _ Da_4.out
      clear hK K
      try simp only [Act.put, List.setIfInBounds_toArray, List.set_cons_zero, List.set_cons_succ]
      refine wpAnyH_ready (rs := [4]) (by kernel_rfl) (by simp) ?_
      refine (AllReadyH.cons (by (simp only [List.getElem?_toArray, List.getElem?_cons_succ, List.getElem?_cons_zero]); (try exact rfl)) (fun K hK => ?_) AllReadyH.nil)
      go_simp
      go_at_call 63
      refine (MG.out _ (OD.out.later Da_4.out)).mono ?_
      rintro e u_5 ⟨vm, rfl, om, bb⟩
      obtain ⟨am, cm, rfl⟩ := om.form
      have SWu_5 : wr.heap.size ≤ _ := Da_4.out.size
      have OMu_5 := Lib.hid om
      clear om
      have QO : Hid (∀ c, (Value.slice am L.length cm).ownBlock = some c → c ≠ pa) := fun c h => by have h1 := (OMu_5.out.lt c h).1; have h2 := box_lt Zaa_4.out; omega
      have Du_5 : Hid (Below wr.heap.size wr u_5) := Below.trans Da_4.out (bb.mono Da_4.out.size)
      have Zau_5 := Lib.hid ((bb.block pa (box_lt Zaa_4.out)).trans Zaa_4.out)
      clear bb
      (first | refine hK.out _ _ ?_ (fun hHeld => ?_) | (go_wp2_with fail; refine hK.out _ _ ?_ (fun hHeld => ?_)))
      · try dsimp only
        exact KS.out _ Du_5.out
      clear hK K
      try simp only [Act.put, List.setIfInBounds_toArray, List.set_cons_zero, List.set_cons_succ]
      refine wpAnyH_take (i := 5) (v := ?_) (by (simp only [List.getElem?_toArray, List.getElem?_cons_succ, List.getElem?_cons_zero]); (try exact rfl)) (by kernel_rfl) (by kernel_rfl) (by kernel_rfl) (by intro _ _ _ h; exact h) (Or.inl ⟨by rfl, ?_⟩) (by assumption) ?_
      rotate_left
      · intro w hSw
        try dsimp only at hSw
        go_simp
        try with_reducible rfl
      try simp only [Act.put, List.setIfInBounds_toArray, List.set_cons_zero, List.set_cons_succ]
      refine wpAnyH_ready (rs := [7]) (by kernel_rfl) (by simp) ?_
      refine AllReadyH.cons (by (simp only [List.getElem?_toArray, List.getElem?_cons_succ, List.getElem?_cons_zero]); (try exact rfl)) (fun K hK => ?_) AllReadyH.nil
      refine step_store_A rfl _ _ rfl pa zP0 (.slice none 0 0) x0 (.slice am L.length cm) rfl _ rfl rfl Zau_5.out ?_
      intro e_6 hE oE bE
      have De_6 : Hid (Below wr.heap.size wr e_6) := Below.trans Du_5.out (bE.mono tpa)
      have Zae_6 := Lib.hid hE
      have OMe_6 := Lib.hid (OMu_5.out.kept (grow_of oE bE) (ne_own QO.out))
      clear hE oE bE QO
      refine hK.out _ _ ?_ (fun hHeld => ?_)
      · try dsimp only
        exact KS.out _ De_6.out
      clear hK K
      try simp only [Act.put, List.setIfInBounds_toArray, List.set_cons_zero, List.set_cons_succ]
      refine wpAnyH_done (by kernel_rfl) ?_ _
      have se := De_6.out.size
      go_wp2_with fail
      refine (l02Is_any pa 28 x0 am cm L e_6 Zae_6.out (OMe_6.out.rd encCv_len) (by have := LL.out; omega) b HB'.out).mono ?_
      rintro e w9 ⟨rfl, b9⟩
      have BB : Hid (Below w.heap.size w w9) := B.out.trans ((De_6.out.mono hsz).trans (b9.mono (by omega)))
      have NR9 := Lib.hid ((b9.block w.heap.size (by omega)).trans ((De_6.out.block w.heap.size lnr).trans NR.out))
      have OM9 := Lib.hid (OMe_6.out.later b9)
      have ZA := (b9.block pa (box_lt Zae_6.out)).trans Zae_6.out
      obtain ⟨⟨y0, y1, y2, y3, y4⟩, lpa⟩ := boxA_at ZA
      have npa : ¬ pa = w.heap.size := by omega
      have npb : ¬ w.heap.size = pa := by omega
      clear b9 Zae_6 OMe_6 De_6 B NR HB' ZA
      obtain ⟨⟨g0, g1, g2, g3, g4⟩, l9⟩ := boxA_at (q := zP0) NR9.out
      have f0 := frozen_of_row w9 w.heap.size 0 _ _ NR9.out
      have f1 := frozen_of_row w9 w.heap.size 1 _ _ NR9.out
      have f2 := frozen_of_row w9 w.heap.size 2 _ _ NR9.out
      have f3 := frozen_of_row w9 w.heap.size 3 _ _ NR9.out
      have f4 := frozen_of_row w9 w.heap.size 4 _ _ NR9.out
      have BF : Hid (Below w.heap.size w w9) := BB
      cases b with
      | false =>
        obtain rfl : r = zP0 := HR.out
        obtain rfl : ys = [] := HY.out
        clear y0 y1 y2 y3 y4 LL OM9
        go_wp2
        refine bodyPost_ret (v := .tuple #[.agg #[.int .i64 0, .int .i64 0, .int .i64 0, .int .i64 0, .slice none 0 0], .bool false]) (by simp [results, Try.results28, go_sem, g0, g1, g2, g3, g4]; try rfl) rfl ?_
        refine ⟨_, rfl, OwnS.nil _ _, ?_⟩
        have b := BF.out
        go_grown
      | true =>
        have hh : x0 = r := by
          rw [show r = headP xs from HR.out]
          have h := HX.out
          rw [← List.head?_eq_getElem?] at h
          unfold headP
          rw [h]
          rfl
        subst hh
        obtain rfl : ys = L := HY.out
        clear LL
        go_wp2
        refine bodyPost_ret (v := .tuple #[(.agg #[.int .i64 x0.s, .int .i64 x0.h, .int .i64 x0.y, .int .i64 x0.p, (.slice am ys.length cm)]), .bool true]) (by simp [results, Try.results28, go_sem, g0, g1, g2, g3, g4]; try rfl) rfl ?_
        refine ⟨_, rfl, ?_, ?_⟩
        · refine OwnS.mono ?_ (show w.heap.size ≤ w.heap.size + 1 by omega)
          have o := OM9.out.mono (show w.heap.size + 1 ≤ _ by omega)
          exact ((((o.setBelow (by simp) _).setBelow (by simp) _).setBelow (by simp) _).setBelow (by simp) _).setBelow (by simp) _
        · have b := BF.out
          go_grown
end Go.Proofs.Ythhnnkgfnhggbaa
