/- Walks of the functions that find the longest run. -/
import Derived.Test.YtljofbpgiencpabLists
namespace Go.Proofs.Ytljofbpgiencpab
open Go.ChangeShapes Go.WideShapes Go.ChangeAt Go.RowKit
set_option linter.unusedVariables false
set_option linter.unusedSimpArgs false

/-- Behind k numbers: where the longest run begins, how long it is, how long the last one is. -/
def runSt (zs : List Int) (least : Int) : Nat → Nat × Nat × Nat
  | 0 => (0, 0, 0)
  | k + 1 =>
    let r := if zs.getD k 0 < least then 0 else (runSt zs least k).2.2 + 1
    if (runSt zs least k).2.1 < r then (k + 1 - r, r, r) else ((runSt zs least k).1, (runSt zs least k).2.1, r)

theorem runSt_bd (zs : List Int) (least : Int) (k : Nat) : (runSt zs least k).1 ≤ k ∧ (runSt zs least k).2.1 ≤ k ∧ (runSt zs least k).2.2 ≤ k := by
  induction k with
  | zero => simp [runSt]
  | succ k ih =>
    obtain ⟨a, b, c⟩ := ih
    simp only [runSt]
    repeat' split
    all_goals simp
    all_goals omega

theorem runSt_less {zs : List Int} {least : Int} {k : Nat} {x : Int} {b m r : Nat} (h : runSt zs least k = (b, m, r)) (hx : zs[k]? = some x) (hl : x < least) : runSt zs least (k + 1) = (b, m, 0) := by
  simp [runSt, h, hx, hl]

theorem runSt_more {zs : List Int} {least : Int} {k : Nat} {x : Int} {b m r : Nat} (h : runSt zs least k = (b, m, r)) (hx : zs[k]? = some x) (hl : ¬ x < least) (hm : m < r + 1) : runSt zs least (k + 1) = (k - r, r + 1, r + 1) := by
  simp [runSt, h, hx, hl, hm]

theorem runSt_keep {zs : List Int} {least : Int} {k : Nat} {x : Int} {b m r : Nat} (h : runSt zs least k = (b, m, r)) (hx : zs[k]? = some x) (hl : ¬ x < least) (hm : ¬ m < r + 1) : runSt zs least (k + 1) = (b, m, r + 1) := by
  simp [runSt, h, hx, hl, hm]

theorem runSt_zero (zs : List Int) (least : Int) (k : Nat) : (runSt zs least k).2.1 = 0 → (runSt zs least k).1 = 0 := by
  induction k with
  | zero => simp [runSt]
  | succ k ih =>
    simp only [runSt]
    repeat' split
    all_goals simp
    all_goals first | exact ih | omega

def RunV (b m : Nat) : Value := .tuple #[.int .i64 b, .int .i64 m, .bool (decide (0 < m))]
def RunN : Value := .tuple #[.int .i64 0, .int .i64 0, .bool false]

set_option maxHeartbeats 1000000 in
theorem specRun_yes (v : Value) (zs : List Int) (least : Int) (w : World) (h : RdI w v zs) (lz : zs.length ≤ 64) (hA : AllVal zs) :
    Calls Try.prog 5 #[v, .int .i64 least] w fun e w' => e = .returned (RunV (runSt zs least zs.length).1 (runSt zs least zs.length).2.1) ∧ w = w' := by
  have CL : Hid (∀ w', RdI w' v zs → Calls Try.prog 11 #[v] w' fun e w'' => e = .returned (.bool true) ∧ w' = w'') := fun w' h' => l01List_any v zs w' h' (by omega) true (by simp; exact ⟨lz, hA⟩)
  have H := Lib.hid h
  obtain ⟨a, cap, rfl, ra⟩ := h
  obtain ⟨n, hn⟩ : ∃ n, n = zs.length := ⟨_, rfl⟩
  have RA := Lib.hid ra
  have HN := Lib.hid hn
  rw [← hn] at lz
  rw [← hn]
  rw [← hn] at H CL
  clear ra hn hA
  go_enter Try.func5, Try.ntmps5
  go_wp2_with (go_at_call 11; refine (CL.out _ H.out).mono ?_; rintro e w' ⟨rfl, rfl⟩)
  go_loop [7, 8, 9, 10] (fun vb vm vr i => ∃ k b m r : Nat, k ≤ n ∧ b ≤ k ∧ m ≤ k ∧ r ≤ k ∧ Hid (runSt zs least k = (b, m, r)) ∧ vb = .int .i64 b ∧ vm = .int .i64 m ∧ vr = .int .i64 r ∧ i = .int .i64 k) (fun _ _ _ i => n - (intOf i).toNat)
  case atStart => exact ⟨0, 0, 0, 0, by omega, by omega, by omega, by omega, rfl, rfl, rfl, rfl, rfl⟩
  case round =>
    obtain ⟨k, b, m, r, hk, hb, hm, hr, hs, rfl, rfl, rfl, rfl⟩ := hrel
    by_cases hlt : k < n
    · obtain ⟨x, hx⟩ : ∃ x, zs[k]? = some x := ⟨_, List.getElem?_eq_getElem (by have := HN.out; omega)⟩
      obtain ⟨ba, oa, rfl, ca'⟩ := RA.out.resolve_left (by intro h; have := HN.out; rw [h] at this; simp at this; omega)
      have c1 := ca' k x hx
      have HX := Lib.hid hx
      clear ca' hx
      by_cases hl : x < least
      · have S := Lib.hid (runSt_less hs.out HX.out hl)
        go_wp2
        exact ⟨⟨k + 1, b, m, 0, by omega, by omega, by omega, by omega, S, rfl, rfl, rfl, by go_num⟩, by simp only [intOf]; omega⟩
      · by_cases hg : m < r + 1
        · have S := Lib.hid (runSt_more hs.out HX.out hl hg)
          have hl' : least ≤ x := by omega
          clear hl
          go_wp2
          exact ⟨⟨k + 1, k - r, r + 1, r + 1, by omega, by omega, by omega, by omega, S, by go_num, by go_num, by go_num, by go_num⟩, by simp only [intOf]; omega⟩
        · have S := Lib.hid (runSt_keep hs.out HX.out hl hg)
          have hl' : least ≤ x := by omega
          clear hl
          go_wp2
          exact ⟨⟨k + 1, b, m, r + 1, by omega, by omega, by omega, by omega, S, rfl, rfl, by go_num, by go_num⟩, by simp only [intOf]; omega⟩
    · obtain rfl : k = n := by omega
      have z := runSt_zero zs least k
      rw [hs.out] at z
      simp only at z
      by_cases hz : m = 0
      · obtain rfl : b = 0 := z hz
        subst hz
        clear z
        go_wp2
        go_ret3
        exact ⟨by rw [hs.out]; rfl, rfl⟩
      · have hz' : ((m : Int) == 0) = false := by simpa using hz
        clear z
        go_wp2
        go_ret3
        exact ⟨by rw [hs.out]; simp [RunV]; omega, rfl⟩

theorem specRun_no (v : Value) (zs : List Int) (least : Int) (w : World) (h : RdI w v zs) (lz : zs.length ≤ 1099511627776) (hA : ¬ (zs.length ≤ 64 ∧ AllVal zs)) :
    Calls Try.prog 5 #[v, .int .i64 least] w fun e w' => e = .returned RunN ∧ w = w' := by
  have CL : Hid (∀ w', RdI w' v zs → Calls Try.prog 11 #[v] w' fun e w'' => e = .returned (.bool false) ∧ w' = w'') := fun w' h' => l01List_any v zs w' h' (by omega) false (by simpa using hA)
  have H := Lib.hid h
  clear h hA
  go_enter Try.func5, Try.ntmps5
  go_wp2_with (go_at_call 11; refine (CL.out _ H.out).mono ?_; rintro e w' ⟨rfl, rfl⟩)
  go_ret3
  exact ⟨rfl, rfl⟩

theorem implRun_no (v : Value) (zs : List Int) (least : Int) (w : World) (h : RdI w v zs) (lz : zs.length ≤ 1099511627776) (hA : ¬ (zs.length ≤ 64 ∧ AllVal zs)) :
    Calls Try.prog 7 #[v, .int .i64 least] w fun e w' => e = .returned RunN ∧ w = w' := by
  have CL : Hid (∀ w', RdI w' v zs → Calls Try.prog 12 #[v] w' fun e w'' => e = .returned (.bool false) ∧ w' = w'') := fun w' h' => isList_any v zs w' h' (by omega) false (by simpa using hA)
  have H := Lib.hid h
  clear h hA
  go_enter Try.func7, Try.ntmps7
  go_wp2_with (go_at_call 12; refine (CL.out _ H.out).mono ?_; rintro e w' ⟨rfl, rfl⟩)
  go_ret3
  exact ⟨rfl, rfl⟩

set_option maxHeartbeats 1000000 in
theorem implRun_yes (v : Value) (zs : List Int) (least : Int) (w : World) (h : RdI w v zs) (lz : zs.length ≤ 64) (hA : AllVal zs) :
    Calls Try.prog 7 #[v, .int .i64 least] w fun e w' => e = .returned (RunV (runSt zs least zs.length).1 (runSt zs least zs.length).2.1) ∧ w = w' := by
  have CL : Hid (∀ w', RdI w' v zs → Calls Try.prog 12 #[v] w' fun e w'' => e = .returned (.bool true) ∧ w' = w'') := fun w' h' => isList_any v zs w' h' (by omega) true (by simp; exact ⟨lz, hA⟩)
  have H := Lib.hid h
  obtain ⟨a, cap, rfl, ra⟩ := h
  obtain ⟨n, hn⟩ : ∃ n, n = zs.length := ⟨_, rfl⟩
  have RA := Lib.hid ra
  have HN := Lib.hid hn
  rw [← hn] at lz
  rw [← hn]
  rw [← hn] at H CL
  clear ra hn hA
  go_enter Try.func7, Try.ntmps7
  go_wp2_with (go_at_call 12; refine (CL.out _ H.out).mono ?_; rintro e w' ⟨rfl, rfl⟩)
  go_loop [7, 8, 9, 17] (fun vb vm vr i => ∃ k b m r : Nat, k ≤ n ∧ b ≤ k ∧ m ≤ k ∧ r ≤ k ∧ Hid (runSt zs least k = (b, m, r)) ∧ vb = .int .i64 b ∧ vm = .int .i64 m ∧ vr = .int .i64 r ∧ i = .int .i64 k) (fun _ _ _ i => n - (intOf i).toNat)
  case atStart => exact ⟨0, 0, 0, 0, by omega, by omega, by omega, by omega, rfl, rfl, rfl, rfl, rfl⟩
  case round =>
    obtain ⟨k, b, m, r, hk, hb, hm, hr, hs, rfl, rfl, rfl, rfl⟩ := hrel
    by_cases hlt : k < n
    · obtain ⟨x, hx⟩ : ∃ x, zs[k]? = some x := ⟨_, List.getElem?_eq_getElem (by have := HN.out; omega)⟩
      obtain ⟨ba, oa, rfl, ca'⟩ := RA.out.resolve_left (by intro h; have := HN.out; rw [h] at this; simp at this; omega)
      have c1 := ca' k x hx
      have HX := Lib.hid hx
      clear ca' hx
      by_cases hl : x < least
      · have S := Lib.hid (runSt_less hs.out HX.out hl)
        go_wp2
        exact ⟨⟨k + 1, b, m, 0, by omega, by omega, by omega, by omega, S, rfl, rfl, rfl, by go_num⟩, by simp only [intOf]; omega⟩
      · by_cases hg : m < r + 1
        · have S := Lib.hid (runSt_more hs.out HX.out hl hg)
          have hl' : least ≤ x := by omega
          clear hl
          go_wp2
          exact ⟨⟨k + 1, k - r, r + 1, r + 1, by omega, by omega, by omega, by omega, S, by go_num, by go_num, by go_num, by go_num⟩, by simp only [intOf]; omega⟩
        · have S := Lib.hid (runSt_keep hs.out HX.out hl hg)
          have hl' : least ≤ x := by omega
          clear hl
          go_wp2
          exact ⟨⟨k + 1, b, m, r + 1, by omega, by omega, by omega, by omega, S, rfl, rfl, by go_num, by go_num⟩, by simp only [intOf]; omega⟩
    · obtain rfl : k = n := by omega
      go_wp2
      go_ret3
      exact ⟨by rw [hs.out]; rfl, rfl⟩

set_option maxHeartbeats 2000000 in
theorem longestRun_law (a : Option Addr) (len cap : Nat) (zs : List Int) (hl : (len : Int) ≤ 1048576) (hz : zs.length = len) (least : Int) (w : World) (h : RdI w (.slice a len cap) zs) (V : Value)
    (hV : ∃ b m : Int, ∃ c : Bool, V = .tuple #[.int .i64 b, .int .i64 m, .bool c])
    (cs : Hid (∀ v w, RdI w v zs → Calls Try.prog 5 #[v, .int .i64 least] w fun e w' => e = .returned V ∧ w = w'))
    (ci : Hid (∀ v w, RdI w v zs → Calls Try.prog 7 #[v, .int .i64 least] w fun e w' => e = .returned V ∧ w = w')) :
    Calls Try.prog 3 #[.slice a len cap, .int .i64 least] w fun e w' => e = .returned (.bool true) ∧ Below w.heap.size w w' := by
  obtain ⟨b, m, c, rfl⟩ := hV
  have H := Lib.hid h
  have HZ := Lib.hid hz
  clear h hz
  go_enter Try.func3, Try.ntmps3
  go_wp2_with fail
  refine (toInts_any _ zs w H.out (by have := HZ.out; omega)).mono ?_
  rintro e x1 ⟨v1, rfl, o1, e1⟩
  have O1 := Lib.hid o1
  have E1 := Lib.hid e1
  clear o1 e1
  have H1 : Hid (RdI x1 (.slice a len cap) zs) := H.out.later E1.out
  have hsz1 := E1.out.size
  go_wp2_with fail
  refine (cs.out v1 x1 O1.out.rd).mono ?_
  rintro e x2 ⟨rfl, rfl⟩
  go_wp2_with fail
  refine (toInts_any _ zs x1 H1.out (by have := HZ.out; omega)).mono ?_
  rintro e x2 ⟨v2, rfl, o2, e2⟩
  have O2 := Lib.hid o2
  have E2 : Hid (Below w.heap.size w x2) := E1.out.trans (e2.mono hsz1)
  have hsz2 := e2.size
  clear o2 e2
  have H2 : Hid (RdI x2 (.slice a len cap) zs) := H.out.later E2.out
  go_wp2_with fail
  refine (ci.out v2 x2 O2.out.rd).mono ?_
  rintro e x3 ⟨rfl, rfl⟩
  go_wp2_with fail
  refine (toInts_any _ zs x2 H2.out (by have := HZ.out; omega)).mono ?_
  rintro e x4 ⟨v4, rfl, o4, e4⟩
  have O4 := Lib.hid o4
  have O2' : Hid (OwnI x4 x1.heap.size v2 zs) := O2.out.below e4 (fun k hk => (O2.out.lt k hk).2)
  have E4 : Hid (Below w.heap.size w x4) := E2.out.trans (e4.mono E2.out.size)
  clear o4 e4
  go_wp2_with fail
  refine (eqInts_any v2 v4 zs zs x4 O2'.out.rd O4.out.rd (by have := HZ.out; omega) (by have := HZ.out; omega) true (by simp)).mono ?_
  rintro e x5 ⟨rfl, n, rfl⟩
  go_wp2_with fail
  go_ret
  exact ⟨rfl, below_drewN E4.out n⟩

theorem runV_form (b m : Nat) : ∃ b' m' : Int, ∃ c : Bool, RunV b m = .tuple #[.int .i64 b', .int .i64 m', .bool c] := ⟨_, _, _, rfl⟩

theorem walkFnExactLongestRun (w : World) (a0 : Option Addr) (len0 cap0 : Nat) (z0 : List Int) (w0 : IsRow .i64 w a0 len0 cap0 z0) (a1 : Int) (w1 : (Lit.int .i64 a1).wf = true) :
    Calls Try.prog 3 #[.slice a0 len0 cap0, .int .i64 a1] w fun e w' => e = .returned (.bool true) ∧ Below w.heap.size w w' := by
  obtain ⟨hr, hz⟩ := w0.rd
  by_cases hl : (len0 : Int) ≤ 1048576
  · by_cases hA : (z0.take len0).length ≤ 64 ∧ AllVal (z0.take len0)
    · exact longestRun_law a0 len0 cap0 _ hl hz a1 w hr _ (runV_form _ _) (fun v w h => specRun_yes v _ a1 w h hA.1 hA.2) (fun v w h => implRun_yes v _ a1 w h hA.1 hA.2)
    · exact longestRun_law a0 len0 cap0 _ hl hz a1 w hr RunN ⟨0, 0, false, rfl⟩ (fun v w h => specRun_no v _ a1 w h (by omega) hA) (fun v w h => implRun_no v _ a1 w h (by omega) hA)
  · have hm := w0.len_le
    have hl' : 1048576 < (len0 : Int) := by omega
    clear hl w1 hr hz w0
    go_enter Try.func3, Try.ntmps3
    go_wp2
    go_ret
    exact ⟨rfl, Below.refl _ _⟩
end Go.Proofs.Ytljofbpgiencpab
