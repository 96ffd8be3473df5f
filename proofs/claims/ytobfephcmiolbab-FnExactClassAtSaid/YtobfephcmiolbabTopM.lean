/- The tops of a ground at a ring; the hole behind a ring. -/
import Derived.Test.YtobfephcmiolbabHoleV
import Derived.Test.YtobfephcmiolbabFloorG
import Derived.Test.YtobfephcmiolbabCloneG
namespace Go.Proofs.Ytobfephcmiolbab
open Go.ChangeShapes Go.WideShapes Go.ChangeAt Go.RowKit
set_option linter.unusedVariables false
set_option linter.unusedSimpArgs false

/-- The first B holes are not behind a ring, and the other ones are. -/
structure Behind (xs : List Hu) (ring : Int) (B : Nat) : Prop where
  le : B ≤ xs.length
  before : ∀ (i : Nat) x, i < B → xs[i]? = some x → x.r ≤ ring
  behind : ∀ (i : Nat) x, B ≤ i → xs[i]? = some x → ring < x.r

theorem rise_lt {xs : List Hu} (h : Rise xs) : ∀ (d i : Nat) x y, xs[i]? = some x → xs[i + d + 1]? = some y → x.r < y.r := by
  intro d
  induction d with
  | zero => intro i x y hx hy; exact h i x y hx hy
  | succ d ih =>
    intro i x y hx hy
    obtain ⟨z, hz⟩ : ∃ z, xs[i + d + 1]? = some z := ⟨_, List.getElem?_eq_getElem (by have := (List.getElem?_eq_some_iff.1 hy).1; omega)⟩
    have := ih i x z hx hz
    have := h (i + d + 1) z y hz hy
    omega

theorem rise_le {xs : List Hu} (h : Rise xs) {i j : Nat} {x y : Hu} (hij : i < j) (hx : xs[i]? = some x) (hy : xs[j]? = some y) : x.r < y.r :=
  rise_lt h (j - i - 1) i x y hx (by rw [show i + (j - i - 1) + 1 = j by omega]; exact hy)

theorem behind_ex {xs : List Hu} (h : Rise xs) (ring : Int) : ∃ B, Behind xs ring B := by
  have key : ∀ n, n ≤ xs.length → (∀ (i : Nat) x, i < n → xs[i]? = some x → x.r ≤ ring) ∨ ∃ B, Behind xs ring B := by
    intro n
    induction n with
    | zero => intro _; exact .inl fun i x hi => by omega
    | succ n ih =>
      intro hn
      rcases ih (by omega) with hb | hb
      · obtain ⟨x, hx⟩ : ∃ x, xs[n]? = some x := ⟨_, List.getElem?_eq_getElem (by omega)⟩
        by_cases g : x.r ≤ ring
        · refine .inl fun i y hi hy => ?_
          by_cases e : i = n
          · subst e
            rw [hx] at hy
            rw [← Option.some.inj hy]; exact g
          · exact hb i y (by omega) hy
        · refine .inr ⟨n, by omega, hb, fun i y hi hy => ?_⟩
          by_cases e : i = n
          · subst e
            rw [hx] at hy
            rw [← Option.some.inj hy]; omega
          · have := rise_le h (by omega) hx hy
            omega
      · exact .inr hb
  rcases key xs.length (Nat.le_refl _) with h1 | h1
  · exact ⟨xs.length, Nat.le_refl _, h1, fun i x hi hx => by have := (List.getElem?_eq_some_iff.1 hx).1; omega⟩
  · exact h1

/-- The tops between two holes. -/
def inter (x y : Hu) (ring : Int) (k : Nat) : List Int := (List.range k).map fun i => x.t.getD i 0 + (y.t.getD i 0 - x.t.getD i 0) * (ring - x.r) / (y.r - x.r)
theorem inter_len (x y : Hu) (ring : Int) (k : Nat) : (inter x y ring k).length = k := by simp [inter]
theorem inter_succ {x y : Hu} {ring : Int} {k : Nat} {a b : Int} (ha : x.t[k]? = some a) (hb : y.t[k]? = some b) : inter x y ring (k + 1) = inter x y ring k ++ [a + (b - a) * (ring - x.r) / (y.r - x.r)] := by
  simp [inter, List.range_succ, ha, hb]
theorem inter_get {x y : Hu} {ring : Int} {n k : Nat} {a b : Int} (hk : k < n) (ha : x.t[k]? = some a) (hb : y.t[k]? = some b) : (inter x y ring n)[k]? = some (a + (b - a) * (ring - x.r) / (y.r - x.r)) := by
  simp [inter, hk, ha, hb]
theorem inter_at {x y : Hu} {ring : Int} (h : x.r = ring) : inter x y ring x.t.length = x.t := by
  apply List.ext_getElem?
  intro i
  by_cases hi : i < x.t.length
  · obtain ⟨a, ha⟩ : ∃ a, x.t[i]? = some a := ⟨_, List.getElem?_eq_getElem hi⟩
    simp only [inter, List.getElem?_map, List.getElem?_range hi, Option.map_some, ha, h, Int.sub_self, Int.mul_zero, Int.zero_ediv]
    simp [List.getD, ha]
  · rw [List.getElem?_eq_none (by rw [inter_len]; omega), List.getElem?_eq_none (by omega)]

/-- The tops at a ring. -/
inductive IsTops (xs : List Hu) (ring : Int) (B : Nat) : List Int → Prop
  | front (x : Hu) (hB : B = 0) (hx : xs[0]? = some x) : IsTops xs ring B x.t
  | last (x : Hu) (hB : B = xs.length) (h0 : 0 < B) (hx : xs[B - 1]? = some x) : IsTops xs ring B x.t
  | mid (x y : Hu) (h0 : 0 < B) (hB : B < xs.length) (hx : xs[B - 1]? = some x) (hy : xs[B]? = some y) : IsTops xs ring B (inter x y ring x.t.length)

theorem tops_ex (xs : List Hu) (ring : Int) (B : Nat) (hB : B ≤ xs.length) (h1 : 1 ≤ xs.length) : ∃ ts, IsTops xs ring B ts := by
  by_cases e0 : B = 0
  · obtain ⟨x, hx⟩ : ∃ x, xs[0]? = some x := ⟨_, List.getElem?_eq_getElem (by omega)⟩
    exact ⟨_, .front x e0 hx⟩
  · obtain ⟨x, hx⟩ : ∃ x, xs[B - 1]? = some x := ⟨_, List.getElem?_eq_getElem (by omega)⟩
    by_cases e1 : B = xs.length
    · exact ⟨_, .last x e1 (by omega) hx⟩
    · obtain ⟨y, hy⟩ : ∃ y, xs[B]? = some y := ⟨_, List.getElem?_eq_getElem (by omega)⟩
      exact ⟨_, .mid x y (by omega) (by omega) hx hy⟩

theorem tops_uniq {xs : List Hu} {ring : Int} {B : Nat} {ts us : List Int} (h : IsTops xs ring B ts) (h' : IsTops xs ring B us) : ts = us := by
  cases h with
  | front x hB hx =>
    cases h' with
    | front x' hB' hx' => rw [hx] at hx'; rw [Option.some.inj hx']
    | last x' hB' h0 hx' => omega
    | mid x' y' h0 hB' hx' hy' => omega
  | last x hB h0 hx =>
    cases h' with
    | front x' hB' hx' => omega
    | last x' hB' h0 hx' => rw [hx] at hx'; rw [Option.some.inj hx']
    | mid x' y' h0 hB' hx' hy' => omega
  | mid x y h0 hB hx hy =>
    cases h' with
    | front x' hB' hx' => omega
    | last x' hB' h0 hx' => omega
    | mid x' y' h0 hB' hx' hy' =>
      rw [hx] at hx'; rw [hy] at hy'
      rw [Option.some.inj hx', Option.some.inj hy']

/-- The same in another ground of the same data. -/
theorem tops_same {xs ys : List Hu} (e : ys.map Hu.ho = xs.map Hu.ho) {ring : Int} {B : Nat} {ts : List Int} (h : IsTops xs ring B ts) : IsTops ys ring B ts := by
  have hl := map_ho_len e
  cases h with
  | front x hB hx =>
    obtain ⟨x', hx', xr, xt⟩ := map_ho_get e.symm hx
    rw [← xt]; exact .front x' hB hx'
  | last x hB h0 hx =>
    obtain ⟨x', hx', xr, xt⟩ := map_ho_get e.symm hx
    rw [← xt]; exact .last x' (by omega) h0 hx'
  | mid x y h0 hB hx hy =>
    obtain ⟨x', hx', xr, xt⟩ := map_ho_get e.symm hx
    obtain ⟨y', hy', yr, yt⟩ := map_ho_get e.symm hy
    have : inter x y ring x.t.length = inter x' y' ring x'.t.length := by unfold inter; rw [xt, xr, yt, yr]
    rw [this]; exact .mid x' y' h0 (by omega) hx' hy'

theorem behind_same {xs ys : List Hu} (e : ys.map Hu.ho = xs.map Hu.ho) {ring : Int} {B : Nat} (h : Behind xs ring B) : Behind ys ring B := by
  refine ⟨by rw [map_ho_len e]; exact h.le, fun i x hi hx => ?_, fun i x hi hx => ?_⟩
  · obtain ⟨x', hx', xr, -⟩ := map_ho_get e hx
    rw [← xr]; exact h.before i x' hi hx'
  · obtain ⟨x', hx', xr, -⟩ := map_ho_get e hx
    rw [← xr]; exact h.behind i x' hi hx'

set_option maxHeartbeats 1000000 in
theorem behind1_any (G R : Nat) (ty : TypeId) (da : Value) (ha : Option Addr) (hc : Nat) (xs : List Hu) (ring : Int) (w : World) (p1 : w.cell? ⟨G, 1, none⟩ = some (.slice ha xs.length hc)) (pr : w.cell? ⟨R, 0, none⟩ = some (.int .i64 ring))
    (hr : RdH w (.slice ha xs.length hc) xs) (i : Nat) (x : Hu) (hx : xs[i]? = some x) (b : Bool) (hb : b = decide (ring < x.r)) :
    Calls Try.prog 103 #[.int .i64 i, .pointer (some ⟨G, 0, none⟩), .pointer (some ⟨R, 0, none⟩)] w fun e w' => e = .returned (.bool b) ∧ ∃ q, w' = w.drewN q := by
  obtain ⟨ba, oa, rfl, c0, -, -, -⟩ := hr.at hx
  have hi : i < xs.length := (List.getElem?_eq_some_iff.1 hx).1
  have HB := Lib.hid hb
  obtain ⟨n, hn⟩ : ∃ n, n = xs.length := ⟨_, rfl⟩
  rw [← hn] at p1 hi
  obtain ⟨xr, hxr⟩ : ∃ r, r = x.r := ⟨_, rfl⟩
  rw [← hxr] at c0 HB
  clear hr hx hn hb hxr
  go_enter Try.func103, Try.ntmps103
  go_wp2
  go_quiet (fail)
  go_wp2
  go_ret
  exact ⟨by simp [HB.out], ⟨_, rfl⟩⟩

set_option maxRecDepth 100000 in
set_option maxHeartbeats 4000000 in
theorem searchBehind_any (G R : Nat) (ha : Option Addr) (hc : Nat) (xs : List Hu) (ring : Int) (w : World) (p1 : w.cell? ⟨G, 1, none⟩ = some (.slice ha xs.length hc)) (pr : w.cell? ⟨R, 0, none⟩ = some (.int .i64 ring))
    (hr : RdH w (.slice ha xs.length hc) xs) (lx : xs.length ≤ 1048576) (B : Nat) (hB : Behind xs ring B) :
    Calls Try.prog 102 #[.int .i64 xs.length, .func (.func 103) #[] #[.pointer (some ⟨G, 0, none⟩), .pointer (some ⟨R, 0, none⟩)]] w fun e w' => e = .returned (.int .i64 B) ∧ ∃ q, w' = w.drewN q := by
  have C := Lib.hid (fun (m i : Nat) (x : Hu) (hx : xs[i]? = some x) (b : Bool) (hb : b = decide (ring < x.r)) => behind1_any G R 30 (.bool false) ha hc xs ring (w.drewN m) p1 pr ⟨hr.rows.drewN m, fun x hx => (hr.tops x hx).drewN m⟩ i x hx b hb)
  obtain ⟨N, hN⟩ : ∃ N, N = xs.length := ⟨_, rfl⟩
  have HB := Lib.hid hB
  have bN : B ≤ N := by rw [hN]; exact hB.le
  rw [← hN]
  rw [← hN] at lx
  have HN := Lib.hid hN
  clear p1 pr hr hN hB
  go_enter Try.func102, Try.ntmps102
  go_wp2
  go_loopw [5, 6] (fun iv jv wr => ∃ (i j m : Nat), i ≤ B ∧ B ≤ j ∧ j ≤ N ∧ iv = .int .i64 i ∧ jv = .int .i64 j ∧ wr = w.drewN m) (fun iv jv _ => (intOf jv - intOf iv).toNat)
  case atStart => exact ⟨0, N, 0, by omega, bN, by omega, rfl, rfl, rfl⟩
  case round =>
    obtain ⟨i, j, m, h1, h2, h3, rfl, rfl, rfl⟩ := hrel
    by_cases hlt : i < j
    · have l1 : (i : Int) < (j : Int) := by omega
      obtain ⟨h, hh⟩ : ∃ h, h = (i + j) / 2 := ⟨_, rfl⟩
      have q1 : IntKind.i64.wrap ((i : Int) + (j : Int)) = (i : Int) + (j : Int) := IntWalk.i64_in _ (by omega)
      have hN' : h < N := by omega
      obtain ⟨x, hx⟩ : ∃ x, xs[h]? = some x := ⟨_, List.getElem?_eq_getElem (by have := HN.out; omega)⟩
      have e1 : ((i : Int) + (j : Int)) / 2 = (h : Int) := by omega
      have b1 : i ≤ h := by omega
      have b2 : h < j := by omega
      have E1 := Lib.hid e1
      have HX := Lib.hid hx
      clear hx hh e1
      by_cases g : ring < x.r
      · have gB : B ≤ h := by
          rcases Nat.lt_or_ge h B with c | c
          · have := HB.out.before h x c HX.out; omega
          · exact c
        have C1 := Lib.hid (fun n => C.out n h x HX.out true (by simpa using g))
        clear g
        go_wp2_with fail
        rw [E1.out]
        refine (C1.out m).mono ?_
        rintro e w' ⟨rfl, n, rfl⟩
        go_wp2
        exact ⟨⟨i, h, m + n, by omega, by omega, by omega, rfl, rfl, rfl⟩, by simp only [intOf]; omega⟩
      · have gB : h + 1 ≤ B := by
          rcases Nat.lt_or_ge h B with c | c
          · exact c
          · have := HB.out.behind h x c HX.out; omega
        have C1 := Lib.hid (fun n => C.out n h x HX.out false (by simpa using g))
        clear g
        go_wp2_with fail
        rw [E1.out]
        refine (C1.out m).mono ?_
        rintro e w' ⟨rfl, n, rfl⟩
        go_wp2
        exact ⟨⟨h + 1, j, m + n, by omega, by omega, by omega, by go_num, rfl, rfl⟩, by simp only [intOf]; omega⟩
    · obtain rfl : i = j := by omega
      obtain rfl : i = B := by omega
      go_wp2
      go_ret
      exact ⟨rfl, ⟨_, rfl⟩⟩

set_option maxHeartbeats 2000000 in
theorem firstBehind_any (g : Gu) (ring : Int) (w : World) (h : RdG w g) (lt : g.tot ≤ 1048576) (B : Nat) (hB : Behind g.xs ring B) :
    Calls Try.prog 74 #[.agg #[.slice g.da g.d.length g.dc, .slice g.ha g.xs.length g.hc], .int .i64 ring] w fun e w' => e = .returned (.int .i64 B) ∧ Below w.heap.size w w' := by
  have C := Lib.hid (fun G R w p1 pr hr => searchBehind_any G R g.ha g.hc g.xs ring w p1 pr hr (by unfold Gu.tot at lt; omega) B hB)
  have RH := Lib.hid h.holes
  unfold Gu.hv at RH
  obtain ⟨n, hn⟩ : ∃ n, n = g.d.length := ⟨_, rfl⟩
  obtain ⟨m, hm⟩ : ∃ n, n = g.xs.length := ⟨_, rfl⟩
  rw [← hm] at C RH
  rw [← hn, ← hm]
  have M1 := Lib.hid (cell_of_row ((w.alloc (.cells #[.slice g.da n g.dc, .slice g.ha m g.hc] 30)).alloc (.cells #[.int .i64 ring] 2)) w.heap.size 1 _ 30 (0, 0) (box2_0 w _ _))
  have M2 := Lib.hid (cell_of_row ((w.alloc (.cells #[.slice g.da n g.dc, .slice g.ha m g.hc] 30)).alloc (.cells #[.int .i64 ring] 2)) (w.heap.size + 1) 0 _ 2 (0, 0) (box2_1 w _ _))
  clear h lt hB hn hm
  go_enter Try.func74, Try.ntmps74
  go_wp2_with fail
  refine (C.out _ _ _ M1.out M2.out (RH.out.later (by go_grown))).mono ?_
  rintro e w1 ⟨rfl, q, rfl⟩
  go_wp2
  go_ret
  exact ⟨rfl, Below.trans (show Below w.heap.size w ((w.alloc _).alloc _) by go_grown) ⟨rfl, rfl, rfl, Nat.le_refl _, fun _ _ => rfl⟩⟩
end Go.Proofs.Ytobfephcmiolbab
