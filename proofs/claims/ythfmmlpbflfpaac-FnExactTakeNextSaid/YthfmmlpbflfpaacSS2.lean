/- Slices of slices that are marked and held. -/
import Derived.Test.YthfmmlpbflfpaacSS
namespace Go.Proofs.Ythfmmlpbflfpaac
open Go.ChangeShapes Go.WideShapes Go.ChangeAt Go.RowKit
set_option linter.unusedVariables false
set_option linter.unusedSimpArgs false

/-- Slices that are marked from q on. -/
def mkS (q : Int) : List Sl → List Sl
  | [] => []
  | x :: xs => ⟨x.a, x.c, upFrom q x.t.length⟩ :: mkS (q + x.t.length) xs

theorem mkS_length (q : Int) (xs : List Sl) : (mkS q xs).length = xs.length := by
  induction xs generalizing q with
  | nil => rfl
  | cons x xs ih => simp [mkS, ih]

theorem mkS_snoc (q : Int) (xs : List Sl) (x : Sl) : mkS q (xs ++ [x]) = mkS q xs ++ [⟨x.a, x.c, upFrom (q + (sumT xs : Nat)) x.t.length⟩] := by
  induction xs generalizing q with
  | nil => simp [mkS, sumT]
  | cons y ys ih =>
    have e : q + (y.t.length : Int) + ((sumT ys : Nat) : Int) = q + ((sumT (y :: ys) : Nat) : Int) := by simp [sumT]; omega
    rw [List.cons_append, mkS, ih, mkS, List.cons_append, e]

theorem mkS_get (q : Int) (xs : List Sl) (k : Nat) (x : Sl) (hx : xs[k]? = some x) : (mkS q xs)[k]? = some ⟨x.a, x.c, upFrom (q + (sumT (xs.take k) : Nat)) x.t.length⟩ := by
  have hk : k < xs.length := (List.getElem?_eq_some_iff.1 hx).1
  have e : xs = xs.take (k + 1) ++ xs.drop (k + 1) := (List.take_append_drop _ _).symm
  have gen : ∀ (q : Int) (ys bs : List Sl), ∃ cs, mkS q (ys ++ bs) = mkS q ys ++ cs := by
    intro q ys
    induction ys generalizing q with
    | nil => intro bs; exact ⟨mkS q bs, by simp [mkS]⟩
    | cons a ys ih => intro bs; obtain ⟨cs, h⟩ := ih (q + a.t.length) bs; exact ⟨cs, by rw [List.cons_append, mkS, h, mkS, List.cons_append]⟩
  obtain ⟨cs, hc⟩ := gen q (xs.take (k + 1)) (xs.drop (k + 1))
  rw [← e, List.take_add_one, hx] at hc
  have lt : (xs.take k).length = k := by rw [List.length_take]; omega
  rw [hc, Option.toList_some, mkS_snoc, List.getElem?_append_left (by rw [List.length_append, mkS_length, lt]; simp), List.getElem?_append_right (by rw [mkS_length, lt]; exact Nat.le_refl _), mkS_length, lt, Nat.sub_self]
  rfl

/-- Two own slices with the same block, one of integers and one of slices: there are none. -/
theorem own_typesS {w : World} {B B' : Nat} {v u : Value} {xs : List Sl} {zs : List Int} (h : OwnS 44 1 encSl w B v xs) (h' : OwnI w B' u zs) {b b' : Nat} (e : v.ownBlock = some b) (e' : u.ownBlock = some b') : b' ≠ b := by
  obtain ⟨-, h2 | ⟨g, cap, cur, rfl, h3, h4, h5⟩⟩ := h
  · rw [h2.1] at e; simp [Value.ownBlock] at e
  · obtain ⟨-, k2 | ⟨g', cap', cur', rfl, k3, k4, k5⟩⟩ := h'
    · rw [k2.1] at e'; simp [Value.ownBlock] at e'
    · simp only [Value.ownBlock, Option.some.injEq] at e e'
      intro c
      rw [e', c, ← e, h4] at k4
      simp at k4

/-- One of the slices is changed. -/
theorem OwnSS.changedAt {w w2 : World} {B C g cap n : Nat} {zs : List Sl} {k : Nat} {x : Sl} {ts : List Int} (hl : ts.length = x.t.length) (own : OwnSS w B C (.slice (some ⟨g, 0, none⟩) n cap) zs) (zx : zs[k]? = some x) (o2 : OwnI w2 B x.u (ts)) (g2 : w.grownBy w2 x.u.ownBlock) :
    OwnSS w2 B C (.slice (some ⟨g, 0, none⟩) n cap) (zs.set k ⟨x.a, x.c, ts⟩) ∧ ChgS B C w w2 := by
  have xt := own.tops x (List.mem_of_getElem? zx)
  have xb := own.tb x (List.mem_of_getElem? zx)
  have eu : (⟨x.a, x.c, ts⟩ : Sl).u = x.u := by simp [Sl.u, hl]
  have row2 : OwnS 44 1 encSl w2 B (.slice (some ⟨g, 0, none⟩) n cap) zs := own.rows.kept g2 (by
    cases hv : x.u.ownBlock with
    | none => exact .inr (by simp [Value.ownBlock])
    | some b => exact .inr (fun c => own_typesS own.rows xt rfl hv (by simpa [Value.ownBlock] using c.symm)))
  have row3 : OwnS 44 1 encSl w2 B (.slice (some ⟨g, 0, none⟩) n cap) (zs.set k ⟨x.a, x.c, ts⟩) := by
    have kl : k < zs.length := (List.getElem?_eq_some_iff.1 zx).1
    have e3 : zs.flatMap encSl = (zs.set k ⟨x.a, x.c, ts⟩).flatMap encSl := by
      have f1 := flat_set1 encSl_len zs k 0 x ⟨x.a, x.c, ts⟩ (.slice x.a x.t.length x.c) zx (by omega) (by simp [encSl, hl])
      have f2 := flat_set1 encSl_len zs k 0 x x (.slice x.a x.t.length x.c) zx (by omega) (by simp [encSl])
      rw [← f1, f2]
      congr 1
      refine (List.ext_getElem? fun i => ?_)
      by_cases h : i = k
      · subst h; rw [List.getElem?_set_self kl, zx]
      · rw [List.getElem?_set_ne (by omega)]
    unfold OwnS at row2 ⊢
    rw [List.length_set, ← e3]; exact row2
  have other : ∀ (j : Nat) y, j ≠ k → zs[j]? = some y → OwnI w2 B y.u y.t := by
    intro j y hj hy
    have oy := own.tops y (List.mem_of_getElem? hy)
    exact oy.of_blockS fun b hb => g2.block b (oy.lt b hb).2 (fun c => hj (own.apart j k y x b hy zx hb c.symm))
  have key : ∀ (i : Nat) y b, (zs.set k ⟨x.a, x.c, ts⟩)[i]? = some y → y.u.ownBlock = some b → ∃ z, zs[i]? = some z ∧ z.u.ownBlock = some b := by
    intro i y b hi hb
    have hi' : i < zs.length := by have := (List.getElem?_eq_some_iff.1 hi).1; simpa using this
    by_cases e : i = k
    · subst e
      rw [List.getElem?_set_self hi'] at hi
      have := Option.some.inj hi
      subst this
      exact ⟨x, zx, by rw [← eu]; exact hb⟩
    · rw [List.getElem?_set_ne (by omega)] at hi
      exact ⟨y, hi, hb⟩
  refine ⟨⟨row3, own.rb, fun y hy => ?_, fun y hy b hb => ?_, fun i j y z b hi hj hb hc => ?_, Nat.le_trans own.cb g2.size⟩, ChgS.of_grown g2 (fun b e => ⟨(xt.lt b e).1, xb b e⟩)⟩
  · obtain ⟨j, hj, rfl⟩ := List.mem_iff_getElem.1 hy
    have hj' : j < zs.length := by simpa using hj
    by_cases e : j = k
    · subst e
      rw [List.getElem_set_self, eu]; exact o2
    · rw [List.getElem_set_ne (by omega)]
      exact other j _ e (List.getElem?_eq_getElem hj')
  · obtain ⟨j, hj⟩ := List.mem_iff_getElem?.1 hy
    obtain ⟨z, hz, bz⟩ := key j y b hj hb
    exact own.tb z (List.mem_of_getElem? hz) b bz
  · obtain ⟨y', hy', by'⟩ := key i y b hi hb
    obtain ⟨z', hz', bz'⟩ := key j z b hj hc
    exact own.apart i j y' z' b hy' hz' by' bz'

/-- One of the slices is marked. -/
theorem OwnSS.markedAt {w w2 : World} {B C g cap n : Nat} {zs : List Sl} {k : Nat} {x : Sl} {q : Int} (own : OwnSS w B C (.slice (some ⟨g, 0, none⟩) n cap) zs) (zx : zs[k]? = some x) (o2 : OwnI w2 B x.u (upFrom q x.t.length)) (g2 : w.grownBy w2 x.u.ownBlock) :
    OwnSS w2 B C (.slice (some ⟨g, 0, none⟩) n cap) (zs.set k ⟨x.a, x.c, upFrom q x.t.length⟩) ∧ ChgS B C w w2 := OwnSS.changedAt (upFrom_length _ _) own zx o2 g2

set_option maxRecDepth 100000 in
set_option maxHeartbeats 8000000 in
theorem markIntSS_any (v : Value) (xs : List Sl) (w : World) (B C : Nat) (h : OwnSS w B C v xs) (lz : xs.length ≤ 1048576) (ls : sumT xs ≤ 1048576) (q : Int) (hq : 0 ≤ q) (hq2 : q ≤ 1073741824) :
    Calls Try.prog 19 #[v, .int .i64 q] w fun e w' => e = .returned (.int .i64 (q + (sumT xs : Nat))) ∧ OwnSS w' B C v (mkS q xs) ∧ ChgS B C w w' := by
  obtain ⟨n, hn⟩ : ∃ n, n = xs.length := ⟨_, rfl⟩
  rw [← hn] at lz
  obtain ⟨R, hR⟩ : ∃ R : Int, R = q + (sumT xs : Nat) := ⟨_, rfl⟩
  rw [← hR]
  have HR := Lib.hid hR
  clear hR
  rcases h.rows.forms with ⟨rfl, hx0⟩ | ⟨g, cap, rfl⟩
  · subst hx0
    obtain rfl : n = 0 := hn
    have H := Lib.hid h
    have RQ : Hid (R = q) := by show _ = _; rw [HR.out]; simp [sumT]
    clear h
    go_enter Try.func19, Try.ntmps19
    go_wp2
    refine wp_loop_rounds 1 ?_
    rw [rounds_succ]
    go_wp2
    go_ret
    exact ⟨by rw [RQ.out]; rfl, H.out, ChgS.refl _ _ _⟩
  · rw [← hn] at h
    have H := Lib.hid h
    have HN := Lib.hid hn
    have HS := Lib.hid ls
    rw [← hn]
    clear h hn ls
    have H0 : Hid (OwnSS w B C (.slice (some ⟨g, 0, none⟩) n cap) (mkS q (xs.take 0) ++ xs.drop 0)) := by simpa [mkS] using H
    go_enter Try.func19, Try.ntmps19
    go_wp2
    go_loopw [1, 5] (fun p i wr => ∃ (k : Nat) (l : Int), k ≤ n ∧ q ≤ l ∧ l ≤ q + 2097152 ∧ i = .int .i64 k ∧ p = .int .i64 l ∧ Hid (l = q + (sumT (xs.take k) : Nat)) ∧ Hid (OwnSS wr B C (.slice (some ⟨g, 0, none⟩) n cap) (mkS q (xs.take k) ++ xs.drop k)) ∧ Hid (ChgS B C w wr)) (fun _ i _ => n - (intOf i).toNat)
    case atStart => exact ⟨0, q, by omega, by omega, by omega, rfl, rfl, by show _ = _; simp [sumT], H0, ChgS.refl _ _ _⟩
    case round =>
      obtain ⟨k, l, hk, l0, l1, rfl, rfl, hl, ho, hg⟩ := hrel
      clear H0
      have tk : (xs.take k).length = k := by rw [List.length_take]; have := HN.out; omega
      by_cases hlt : k < n
      · obtain ⟨x, hx⟩ : ∃ x, xs[k]? = some x := ⟨_, List.getElem?_eq_getElem (by have := HN.out; omega)⟩
        obtain ⟨zs, hzs⟩ : ∃ zs, zs = mkS q (xs.take k) ++ xs.drop k := ⟨_, rfl⟩
        have zl : n = zs.length := by rw [hzs, List.length_append, mkS_length, tk, List.length_drop]; have := HN.out; omega
        have zx : zs[k]? = some x := by rw [hzs, List.getElem?_append_right (by rw [mkS_length, tk]; exact Nat.le_refl _), mkS_length, tk, Nat.sub_self, List.getElem?_drop]; simpa using hx
        rw [← hzs] at ho
        have own := ho.out
        have c1 : wr.cell? ⟨g, k, none⟩ = some (.slice x.a x.t.length x.c) := by
          have := own.rows.cellAt encSl_len zl k x zx 0 _ rfl
          rwa [Nat.mul_one, Nat.add_zero] at this
        have xt := own.tops x (List.mem_of_getElem? zx)
        have st := sumT_take_succ hx
        have sl := sumT_take_le xs (k + 1)
        obtain ⟨m, hm⟩ : ∃ m, m = x.t.length := ⟨_, rfl⟩
        rw [← hm] at st c1
        have ml : m ≤ 1048576 := by have := HS.out; omega
        have lq : l ≤ 1099511627776 := by omega
        have l00 : 0 ≤ l := by omega
        have MK := Lib.hid (markInts_any x.u x.t _ B xt (by rw [← hm]; omega) l l00 lq)
        have eu : x.u = .slice x.a m x.c := by rw [hm]; rfl
        rw [← hm, eu] at MK
        have HL1 : Hid (l + (m : Int) = q + (sumT (xs.take (k + 1)) : Nat)) := by show _ = _; have := hl.out; omega
        have lb : l + (m : Int) ≤ q + 2097152 := by have := HL1.out; have := HS.out; omega
        have KEEP : Hid (∀ w2, OwnI w2 B (.slice x.a m x.c) (upFrom l m) → wr.grownBy w2 (Value.slice x.a m x.c).ownBlock → OwnSS w2 B C (.slice (some ⟨g, 0, none⟩) n cap) (mkS q (xs.take (k + 1)) ++ xs.drop (k + 1)) ∧ ChgS B C w w2) := by
          intro w2 o2 g2
          rw [← eu] at o2 g2
          rw [hm] at o2
          have K := own.markedAt zx o2 g2
          have e2 : zs.set k ⟨x.a, x.c, upFrom l x.t.length⟩ = mkS q (xs.take (k + 1)) ++ xs.drop (k + 1) := by
            rw [hzs, List.set_append_right _ _ (by rw [mkS_length, tk]; exact Nat.le_refl _), mkS_length, tk, Nat.sub_self, List.drop_eq_getElem_cons (by have := HN.out; omega), List.set_cons_zero, List.take_add_one, hx, Option.toList_some, mkS_snoc, ← hl.out, List.append_assoc]
            rfl
          rw [e2] at K
          exact ⟨K.1, hg.out.trans K.2⟩
        clear hx hzs zl zx own xt st sl hm eu ho hg hl tk
        go_wp2_with fail
        refine MK.out.mono ?_
        rintro e w2 ⟨rfl, o2, g2⟩
        have KK := KEEP.out w2 o2 g2
        have K1 := Lib.hid KK.1
        have K2 := Lib.hid KK.2
        clear KK o2 g2 KEEP MK c1
        go_wp2
        exact ⟨⟨k + 1, _, by omega, by omega, by omega, by go_num, rfl, HL1, K1, K2⟩, by simp only [intOf]; omega⟩
      · obtain rfl : k = n := by omega
        have ho' := ho.out
        have te : xs.take k = xs := List.take_of_length_le (by have := HN.out; omega)
        rw [te, List.drop_of_length_le (by have := HN.out; omega), List.append_nil] at ho'
        have HO := Lib.hid ho'
        have LR : Hid (l = R) := by show _ = _; rw [HR.out, hl.out, te]
        clear ho ho' te hl tk
        go_wp2
        go_ret
        exact ⟨by rw [LR.out]; rfl, HO.out, hg.out⟩

set_option maxRecDepth 100000 in
set_option maxHeartbeats 8000000 in
theorem heldIntSS_any (v : Value) (xs : List Sl) (w : World) (q : Int) (h : RdSS w v (mkS q xs)) (lz : xs.length ≤ 1048576) (ls : sumT xs ≤ 1048576) (hq : 0 ≤ q) (hq2 : q ≤ 1073741824) :
    Calls Try.prog 20 #[v, .int .i64 q] w fun e w' => e = .returned (.int .i64 (q + (sumT xs : Nat))) ∧ w = w' := by
  obtain ⟨n, hn⟩ : ∃ n, n = xs.length := ⟨_, rfl⟩
  rw [← hn] at lz
  obtain ⟨R, hR⟩ : ∃ R : Int, R = q + (sumT xs : Nat) := ⟨_, rfl⟩
  rw [← hR]
  obtain ⟨a, cap, rfl, -⟩ := id h.rows
  rw [mkS_length, ← hn] at h
  rw [mkS_length, ← hn]
  have H := Lib.hid h
  have HR := Lib.hid hR
  have HN := Lib.hid hn
  have HS := Lib.hid ls
  clear hR h hn ls
  go_enter Try.func20, Try.ntmps20
  go_wp2
  go_loop [1, 5] (fun p i => ∃ (k : Nat) (l : Int), k ≤ n ∧ q ≤ l ∧ l ≤ q + 2097152 ∧ i = .int .i64 k ∧ p = .int .i64 l ∧ Hid (l = q + (sumT (xs.take k) : Nat))) (fun _ i => n - (intOf i).toNat)
  case atStart => exact ⟨0, q, by omega, by omega, by omega, rfl, rfl, by show _ = _; simp [sumT]⟩
  case round =>
    obtain ⟨k, l, hk, l0, l1, rfl, rfl, hl⟩ := hrel
    by_cases hlt : k < n
    · obtain ⟨x, hx⟩ : ∃ x, xs[k]? = some x := ⟨_, List.getElem?_eq_getElem (by have := HN.out; omega)⟩
      have mx := mkS_get q xs k x hx
      rw [← hl.out] at mx
      obtain ⟨b, off, rfl, c0, r0, -⟩ := H.out.at mx
      have st := sumT_take_succ hx
      have sl := sumT_take_le xs (k + 1)
      obtain ⟨m, hm⟩ : ∃ m, m = x.t.length := ⟨_, rfl⟩
      simp only [upFrom_length] at c0 r0
      rw [← hm] at st c0 r0
      have ml : m ≤ 1048576 := by have := HS.out; omega
      have C := Lib.hid (heldInts_any (.slice x.a m x.c) m l _ r0 (by omega) (by omega) (by omega))
      have HL1 : Hid (l + (m : Int) = q + (sumT (xs.take (k + 1)) : Nat)) := by show _ = _; have := hl.out; omega
      have lb : l + (m : Int) ≤ q + 2097152 := by have := HL1.out; have := HS.out; omega
      have ln : ¬ l + (m : Int) < 0 := by omega
      clear hx mx st sl hm r0 hl
      go_wp2_with fail
      refine C.out.mono ?_
      rintro e w2 ⟨rfl, rfl⟩
      go_wp2
      exact ⟨⟨k + 1, _, by omega, by omega, by omega, by go_num, rfl, HL1⟩, by simp only [intOf]; omega⟩
    · obtain rfl : k = n := by omega
      have te : xs.take k = xs := List.take_of_length_le (by have := HN.out; omega)
      have LR : Hid (l = R) := by show _ = _; rw [HR.out, hl.out, te]
      clear te hl
      go_wp2
      go_ret
      exact ⟨by rw [LR.out]; rfl, rfl⟩
end Go.Proofs.Ythfmmlpbflfpaac
