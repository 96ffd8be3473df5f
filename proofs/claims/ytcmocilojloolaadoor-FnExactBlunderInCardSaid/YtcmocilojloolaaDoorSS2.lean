/- Slices of slices that are marked and held. -/
import Derived.Test.YtcmocilojloolaaDoorSS
namespace Go.Proofs.YtcmocilojloolaaDoor
open Go.ChangeShapes Go.WideShapes Go.ChangeAt Go.RowKit
set_option linter.unusedVariables false
set_option linter.unusedSimpArgs false

/-- Slices that are marked from q on. -/
def mkS (q : Int) : List Sl → List Sl
  | [] => []
  | x :: xs => ⟨x.a, x.c, upFrom q x.t.length⟩ :: mkS (q + x.t.length) xs

theorem mkS_length (q : Int) (xs : List Sl) : (mkS q xs).length = xs.length := by
  induction xs generalizing q with
  | nil => rfl
  | cons x xs ih => simp [mkS, ih]

theorem mkS_snoc (q : Int) (xs : List Sl) (x : Sl) : mkS q (xs ++ [x]) = mkS q xs ++ [⟨x.a, x.c, upFrom (q + (sumT xs : Nat)) x.t.length⟩] := by
  induction xs generalizing q with
  | nil => simp [mkS, sumT]
  | cons y ys ih =>
    have e : q + (y.t.length : Int) + ((sumT ys : Nat) : Int) = q + ((sumT (y :: ys) : Nat) : Int) := by simp [sumT]; omega
    rw [List.cons_append, mkS, ih, mkS, List.cons_append, e]

theorem mkS_get (q : Int) (xs : List Sl) (k : Nat) (x : Sl) (hx : xs[k]? = some x) : (mkS q xs)[k]? = some ⟨x.a, x.c, upFrom (q + (sumT (xs.take k) : Nat)) x.t.length⟩ := by
  have hk : k < xs.length := (List.getElem?_eq_some_iff.1 hx).1
  have e : xs = xs.take (k + 1) ++ xs.drop (k + 1) := (List.take_append_drop _ _).symm
  have gen : ∀ (q : Int) (ys bs : List Sl), ∃ cs, mkS q (ys ++ bs) = mkS q ys ++ cs := by
    intro q ys
    induction ys generalizing q with
    | nil => intro bs; exact ⟨mkS q bs, by simp [mkS]⟩
    | cons a ys ih => intro bs; obtain ⟨cs, h⟩ := ih (q + a.t.length) bs; exact ⟨cs, by rw [List.cons_append, mkS, h, mkS, List.cons_append]⟩
  obtain ⟨cs, hc⟩ := gen q (xs.take (k + 1)) (xs.drop (k + 1))
  rw [← e, List.take_add_one, hx] at hc
  have lt : (xs.take k).length = k := by rw [List.length_take]; omega
  rw [hc, Option.toList_some, mkS_snoc, List.getElem?_append_left (by rw [List.length_append, mkS_length, lt]; simp), List.getElem?_append_right (by rw [mkS_length, lt]; exact Nat.le_refl _), mkS_length, lt, Nat.sub_self]
  rfl

/-- Two own slices with the same block, one of integers and one of slices: there are none. -/
theorem own_typesS {w : World} {B B' : Nat} {v u : Value} {xs : List Sl} {zs : List Int} (h : OwnS 28 1 encSl w B v xs) (h' : OwnI w B' u zs) {b b' : Nat} (e : v.ownBlock = some b) (e' : u.ownBlock = some b') : b' ≠ b := by
  obtain ⟨-, h2 | ⟨g, cap, cur, rfl, h3, h4, h5⟩⟩ := h
  · rw [h2.1] at e; simp [Value.ownBlock] at e
  · obtain ⟨-, k2 | ⟨g', cap', cur', rfl, k3, k4, k5⟩⟩ := h'
    · rw [k2.1] at e'; simp [Value.ownBlock] at e'
    · simp only [Value.ownBlock, Option.some.injEq] at e e'
      intro c
      rw [e', c, ← e, h4] at k4
      simp at k4

/-- One of the slices is changed. -/
theorem OwnSS.changedAt {w w2 : World} {B C g cap n : Nat} {zs : List Sl} {k : Nat} {x : Sl} {ts : List Int} (hl : ts.length = x.t.length) (own : OwnSS w B C (.slice (some ⟨g, 0, none⟩) n cap) zs) (zx : zs[k]? = some x) (o2 : OwnI w2 B x.u (ts)) (g2 : w.grownBy w2 x.u.ownBlock) :
    OwnSS w2 B C (.slice (some ⟨g, 0, none⟩) n cap) (zs.set k ⟨x.a, x.c, ts⟩) ∧ ChgS B C w w2 := by
  have xt := own.tops x (List.mem_of_getElem? zx)
  have xb := own.tb x (List.mem_of_getElem? zx)
  have eu : (⟨x.a, x.c, ts⟩ : Sl).u = x.u := by simp [Sl.u, hl]
  have row2 : OwnS 28 1 encSl w2 B (.slice (some ⟨g, 0, none⟩) n cap) zs := own.rows.kept g2 (by
    cases hv : x.u.ownBlock with
    | none => exact .inr (by simp [Value.ownBlock])
    | some b => exact .inr (fun c => own_typesS own.rows xt rfl hv (by simpa [Value.ownBlock] using c.symm)))
  have row3 : OwnS 28 1 encSl w2 B (.slice (some ⟨g, 0, none⟩) n cap) (zs.set k ⟨x.a, x.c, ts⟩) := by
    have kl : k < zs.length := (List.getElem?_eq_some_iff.1 zx).1
    have e3 : zs.flatMap encSl = (zs.set k ⟨x.a, x.c, ts⟩).flatMap encSl := by
      have f1 := flat_set1 encSl_len zs k 0 x ⟨x.a, x.c, ts⟩ (.slice x.a x.t.length x.c) zx (by omega) (by simp [encSl, hl])
      have f2 := flat_set1 encSl_len zs k 0 x x (.slice x.a x.t.length x.c) zx (by omega) (by simp [encSl])
      rw [← f1, f2]
      congr 1
      refine (List.ext_getElem? fun i => ?_)
      by_cases h : i = k
      · subst h; rw [List.getElem?_set_self kl, zx]
      · rw [List.getElem?_set_ne (by omega)]
    unfold OwnS at row2 ⊢
    rw [List.length_set, ← e3]; exact row2
  have other : ∀ (j : Nat) y, j ≠ k → zs[j]? = some y → OwnI w2 B y.u y.t := by
    intro j y hj hy
    have oy := own.tops y (List.mem_of_getElem? hy)
    exact oy.of_blockS fun b hb => g2.block b (oy.lt b hb).2 (fun c => hj (own.apart j k y x b hy zx hb c.symm))
  have key : ∀ (i : Nat) y b, (zs.set k ⟨x.a, x.c, ts⟩)[i]? = some y → y.u.ownBlock = some b → ∃ z, zs[i]? = some z ∧ z.u.ownBlock = some b := by
    intro i y b hi hb
    have hi' : i < zs.length := by have := (List.getElem?_eq_some_iff.1 hi).1; simpa using this
    by_cases e : i = k
    · subst e
      rw [List.getElem?_set_self hi'] at hi
      have := Option.some.inj hi
      subst this
      exact ⟨x, zx, by rw [← eu]; exact hb⟩
    · rw [List.getElem?_set_ne (by omega)] at hi
      exact ⟨y, hi, hb⟩
  refine ⟨⟨row3, own.rb, fun y hy => ?_, fun y hy b hb => ?_, fun i j y z b hi hj hb hc => ?_, Nat.le_trans own.cb g2.size⟩, ChgS.of_grown g2 (fun b e => ⟨(xt.lt b e).1, xb b e⟩)⟩
  · obtain ⟨j, hj, rfl⟩ := List.mem_iff_getElem.1 hy
    have hj' : j < zs.length := by simpa using hj
    by_cases e : j = k
    · subst e
      rw [List.getElem_set_self, eu]; exact o2
    · rw [List.getElem_set_ne (by omega)]
      exact other j _ e (List.getElem?_eq_getElem hj')
  · obtain ⟨j, hj⟩ := List.mem_iff_getElem?.1 hy
    obtain ⟨z, hz, bz⟩ := key j y b hj hb
    exact own.tb z (List.mem_of_getElem? hz) b bz
  · obtain ⟨y', hy', by'⟩ := key i y b hi hb
    obtain ⟨z', hz', bz'⟩ := key j z b hj hc
    exact own.apart i j y' z' b hy' hz' by' bz'

/-- One of the slices is marked. -/
theorem OwnSS.markedAt {w w2 : World} {B C g cap n : Nat} {zs : List Sl} {k : Nat} {x : Sl} {q : Int} (own : OwnSS w B C (.slice (some ⟨g, 0, none⟩) n cap) zs) (zx : zs[k]? = some x) (o2 : OwnI w2 B x.u (upFrom q x.t.length)) (g2 : w.grownBy w2 x.u.ownBlock) :
    OwnSS w2 B C (.slice (some ⟨g, 0, none⟩) n cap) (zs.set k ⟨x.a, x.c, upFrom q x.t.length⟩) ∧ ChgS B C w w2 := OwnSS.changedAt (upFrom_length _ _) own zx o2 g2

end Go.Proofs.YtcmocilojloolaaDoor
