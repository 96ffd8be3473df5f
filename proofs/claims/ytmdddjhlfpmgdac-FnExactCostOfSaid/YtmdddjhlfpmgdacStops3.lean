/- Stops that are compared, marked and held. -/
import Derived.Test.YtmdddjhlfpmgdacStops2
import Derived.Deep.RegionHeld3
namespace Go.Proofs.Ytmdddjhlfpmgdac
open Go.ChangeShapes Go.WideShapes Go.ChangeAt Go.RowKit
set_option linter.unusedVariables false
set_option linter.unusedSimpArgs false

theorem map_so_get {xs ys : List Su} (h : xs.map Su.so = ys.map Su.so) {i : Nat} {x : Su} (hx : xs[i]? = some x) : ∃ y, ys[i]? = some y ∧ y.r = x.r ∧ y.t = x.t := by
  have e : (xs.map Su.so)[i]? = some x.so := by rw [List.getElem?_map, hx]; rfl
  rw [h, List.getElem?_map] at e
  cases hy : ys[i]? with
  | none => rw [hy] at e; simp at e
  | some y =>
    rw [hy] at e
    simp only [Option.map_some, Option.some.injEq] at e
    exact ⟨y, rfl, congrArg So.r e, congrArg So.t e⟩

theorem map_so_len {xs ys : List Su} (h : xs.map Su.so = ys.map Su.so) : xs.length = ys.length := by
  have := congrArg List.length h
  simpa using this

set_option maxRecDepth 100000 in
set_option maxHeartbeats 4000000 in
theorem eqStopS_same (a b : Value) (xs ys : List Su) (w : World) (ha : RdSt w a xs) (hb : RdSt w b ys) (he : xs.map Su.so = ys.map Su.so) (lx : xs.length ≤ 1048576) (lt : ∀ x ∈ xs, x.t.length ≤ 1048576) :
    Calls Try.prog 14 #[a, b] w fun e w' => e = .returned (.bool true) ∧ Below w.heap.size w w' := by
  have HA := Lib.hid ha
  have HB := Lib.hid hb
  obtain ⟨aa, ca, rfl, -⟩ := id ha.rows
  obtain ⟨ab, cb, rfl, -⟩ := id hb.rows
  have le := map_so_len he
  obtain ⟨n, hn⟩ : ∃ n, n = xs.length := ⟨_, rfl⟩
  rw [← le, ← hn] at HB
  rw [← hn] at HA lx
  rw [← le, ← hn]
  have d1 : ((n : Int) != n) = false := by simp
  have HN := Lib.hid hn
  have HE := Lib.hid he
  have LT := Lib.hid lt
  clear ha hb le hn he lt
  go_enter Try.func14, Try.ntmps14
  go_wp2
  go_loopw [5] (fun i wr => ∃ k : Nat, k ≤ n ∧ i = .int .i64 k ∧ Hid (Below w.heap.size w wr)) (fun i _ => n - (intOf i).toNat)
  case atStart => exact ⟨0, by omega, rfl, Below.refl _ _⟩
  case round =>
    obtain ⟨k, hk, rfl, B⟩ := hrel
    have sz := B.out.size
    by_cases hlt : k < n
    · obtain ⟨x, hx⟩ : ∃ x, xs[k]? = some x := ⟨_, List.getElem?_eq_getElem (by have := HN.out; omega)⟩
      obtain ⟨y, hy, yr, yt⟩ := map_so_get HE.out hx
      obtain ⟨ba, oa, rfl, a0, a1, ra, la⟩ := (HA.out.later B.out).at hx
      obtain ⟨bb, ob, rfl, b0, b1, rb, lb⟩ := (HB.out.later B.out).at hy
      have tl := LT.out x (List.mem_of_getElem? hx)
      rw [yt] at rb b1
      rw [yr] at b0
      have C := Lib.hid (fun w (h1 : RdI w (.slice x.a x.t.length x.c) x.t) (h2 : RdI w (.slice y.a x.t.length y.c) x.t) => eqStop_same x.r _ _ x.t w h1 h2 (by omega))
      have R1 := Lib.hid ra
      have R2 := Lib.hid rb
      obtain ⟨m, hm⟩ : ∃ m, m = x.t.length := ⟨_, rfl⟩
      rw [← hm] at a1 b1 C R1 R2
      have KS : Hid (∀ w', Below wr.heap.size wr w' → (w'.cell? ⟨ba, oa + k * 2, none⟩ = some (.int .i64 x.r) ∧ w'.cell? ⟨ba, oa + k * 2 + 1, none⟩ = some (.slice x.a m x.c) ∧ w'.cell? ⟨bb, ob + k * 2, none⟩ = some (.int .i64 x.r) ∧ w'.cell? ⟨bb, ob + k * 2 + 1, none⟩ = some (.slice y.a m y.c))) :=
        fun w' b => ⟨(b.cell (p := ⟨ba, oa + k * 2, none⟩) la).trans a0, (b.cell (p := ⟨ba, oa + k * 2 + 1, none⟩) la).trans a1, (b.cell (p := ⟨bb, ob + k * 2, none⟩) lb).trans b0, (b.cell (p := ⟨bb, ob + k * 2 + 1, none⟩) lb).trans b1⟩
      clear hx hy yr yt ra rb tl hm a0 a1 b0 b1 la lb
      go_wp2
      go_region_held3 (fun w' => (w'.cell? ⟨ba, oa + k * 2, none⟩ = some (.int .i64 x.r) ∧ w'.cell? ⟨ba, oa + k * 2 + 1, none⟩ = some (.slice x.a m x.c) ∧ w'.cell? ⟨bb, ob + k * 2, none⟩ = some (.int .i64 x.r) ∧ w'.cell? ⟨bb, ob + k * 2 + 1, none⟩ = some (.slice y.a m y.c)))
        (first | exact KS.out _ D1.out | exact KS.out _ (Below.refl _ _).drew)
        ((go_at_call 46; refine (C.out _ (R1.out.later (Below.refl _ _).drew) (R2.out.later (Below.refl _ _).drew)).mono ?_; rintro e w1 ⟨rfl, b1⟩; have D1 : Hid (Below wr.heap.size wr w1) := (Below.refl _ _).drew.trans b1))
      rename_i hHeld
      have B2 : Hid (Below w.heap.size w w1) := B.out.trans (D1.out.mono sz)
      clear hHeld D1 KS C R1 R2 B b1
      go_wp2
      exact ⟨⟨k + 1, by omega, by go_num, B2⟩, by simp only [intOf]; omega⟩
    · obtain rfl : k = n := by omega
      go_wp2
      go_ret
      exact ⟨rfl, B.out⟩

theorem sumSt_so {xs ys : List Su} (h : xs.map Su.so = ys.map Su.so) : sumSt xs = sumSt ys := by
  have e : ∀ xs : List Su, sumSt xs = ((xs.map Su.so).map fun h => h.t.length).sum := by intro xs; unfold sumSt; rw [List.map_map]; rfl
  rw [e, e, h]

theorem sumSt_mem {xs : List Su} {x : Su} (h : x ∈ xs) : x.t.length ≤ sumSt xs := by
  induction xs with
  | nil => simp at h
  | cons y ys ih =>
    have e : sumSt (y :: ys) = y.t.length + sumSt ys := by simp [sumSt]
    rcases List.mem_cons.mp h with rfl | h
    · omega
    · have := ih h; omega

/-- Stops that are marked from q on. -/
def mkSt (q : Int) : List Su → List Su
  | [] => []
  | x :: xs => ⟨q, x.a, x.c, upFrom (q + 1) x.t.length⟩ :: mkSt (q + 1 + x.t.length) xs

theorem mkSt_length (q : Int) (xs : List Su) : (mkSt q xs).length = xs.length := by
  induction xs generalizing q with
  | nil => rfl
  | cons x xs ih => simp [mkSt, ih]

theorem mkSt_snoc (q : Int) (xs : List Su) (x : Su) : mkSt q (xs ++ [x]) = mkSt q xs ++ [⟨q + (xs.length + sumSt xs : Nat), x.a, x.c, upFrom (q + (xs.length + sumSt xs : Nat) + 1) x.t.length⟩] := by
  induction xs generalizing q with
  | nil => simp [mkSt, sumSt]
  | cons y ys ih =>
    have e : q + 1 + (y.t.length : Int) + ((ys.length + sumSt ys : Nat) : Int) = q + (((y :: ys).length + sumSt (y :: ys) : Nat) : Int) := by simp [sumSt]; omega
    rw [List.cons_append, mkSt, ih, mkSt, List.cons_append, e]

theorem mkSt_get (q : Int) (xs : List Su) (k : Nat) (x : Su) (hx : xs[k]? = some x) : (mkSt q xs)[k]? = some ⟨q + (k + sumSt (xs.take k) : Nat), x.a, x.c, upFrom (q + (k + sumSt (xs.take k) : Nat) + 1) x.t.length⟩ := by
  have hk : k < xs.length := (List.getElem?_eq_some_iff.1 hx).1
  have e : xs = xs.take (k + 1) ++ xs.drop (k + 1) := (List.take_append_drop _ _).symm
  have gen : ∀ (q : Int) (ys bs : List Su), ∃ cs, mkSt q (ys ++ bs) = mkSt q ys ++ cs := by
    intro q ys
    induction ys generalizing q with
    | nil => intro bs; exact ⟨mkSt q bs, by simp [mkSt]⟩
    | cons a ys ih => intro bs; obtain ⟨cs, h⟩ := ih (q + 1 + a.t.length) bs; exact ⟨cs, by rw [List.cons_append, mkSt, h, mkSt, List.cons_append]⟩
  obtain ⟨cs, hc⟩ := gen q (xs.take (k + 1)) (xs.drop (k + 1))
  rw [← e, List.take_add_one, hx] at hc
  have lt : (xs.take k).length = k := by rw [List.length_take]; omega
  rw [hc, Option.toList_some, mkSt_snoc, lt, List.getElem?_append_left (by rw [List.length_append, mkSt_length, lt]; simp), List.getElem?_append_right (by rw [mkSt_length, lt]; exact Nat.le_refl _), mkSt_length, lt, Nat.sub_self]
  rfl

/-- Two own slices with the same block, one of integers and one of stops: there are none. -/
theorem own_typesSt {w : World} {B B' : Nat} {v u : Value} {xs : List Su} {zs : List Int} (h : OwnS 80 2 encSu w B v xs) (h' : OwnI w B' u zs) {b b' : Nat} (e : v.ownBlock = some b) (e' : u.ownBlock = some b') : b' ≠ b := by
  obtain ⟨-, h2 | ⟨g, cap, cur, rfl, h3, h4, h5⟩⟩ := h
  · rw [h2.1] at e; simp [Value.ownBlock] at e
  · obtain ⟨-, k2 | ⟨g', cap', cur', rfl, k3, k4, k5⟩⟩ := h'
    · rw [k2.1] at e'; simp [Value.ownBlock] at e'
    · simp only [Value.ownBlock, Option.some.injEq] at e e'
      intro c
      rw [e', c, ← e, h4] at k4
      simp at k4

end Go.Proofs.Ytmdddjhlfpmgdac
