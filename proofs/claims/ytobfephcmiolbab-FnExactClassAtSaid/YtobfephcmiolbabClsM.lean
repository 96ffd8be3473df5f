/- The class of a height among tops, on both sides. -/
import Derived.Test.YtobfephcmiolbabTopK
namespace Go.Proofs.Ytobfephcmiolbab
open Go.ChangeShapes Go.WideShapes Go.ChangeAt Go.RowKit
set_option linter.unusedVariables false
set_option linter.unusedSimpArgs false

/-- The first F tops are greater than a height, and the other ones are not. -/
structure Over (ts : List Int) (h : Int) (F : Nat) : Prop where
  le : F ≤ ts.length
  over : ∀ (i : Nat) x, i < F → ts[i]? = some x → h < x
  under : ∀ (i : Nat) x, F ≤ i → ts[i]? = some x → x ≤ h

theorem down_le {ts : List Int} (hd : Down ts) : ∀ (d i : Nat) x y, ts[i]? = some x → ts[i + d]? = some y → y ≤ x := by
  intro d
  induction d with
  | zero => intro i x y hx hy; rw [Nat.add_zero, hx] at hy; rw [← Option.some.inj hy]; exact Int.le_refl _
  | succ d ih =>
    intro i x y hx hy
    obtain ⟨z, hz⟩ : ∃ z, ts[i + d]? = some z := ⟨_, List.getElem?_eq_getElem (by have := (List.getElem?_eq_some_iff.1 hy).1; omega)⟩
    have h1 := ih i x z hx hz
    have h2 := hd (i + d) z y hz hy
    omega

theorem over_ex {ts : List Int} (hd : Down ts) (h : Int) : ∃ F, Over ts h F := by
  have key : ∀ n, n ≤ ts.length → (∀ (i : Nat) x, i < n → ts[i]? = some x → h < x) ∨ ∃ F, Over ts h F := by
    intro n
    induction n with
    | zero => intro _; exact .inl fun i x hi => by omega
    | succ n ih =>
      intro hn
      rcases ih (by omega) with hb | hb
      · obtain ⟨x, hx⟩ : ∃ x, ts[n]? = some x := ⟨_, List.getElem?_eq_getElem (by omega)⟩
        by_cases g : h < x
        · refine .inl fun i y hi hy => ?_
          by_cases e : i = n
          · subst e
            rw [hx] at hy
            rw [← Option.some.inj hy]; exact g
          · exact hb i y (by omega) hy
        · refine .inr ⟨n, by omega, hb, fun i y hi hy => ?_⟩
          have := down_le hd (i - n) n x y hx (by rw [show n + (i - n) = i by omega]; exact hy)
          omega
      · exact .inr hb
  rcases key ts.length (Nat.le_refl _) with h1 | h1
  · exact ⟨ts.length, Nat.le_refl _, h1, fun i x hi hx => by have := (List.getElem?_eq_some_iff.1 hx).1; omega⟩
  · exact h1

set_option maxHeartbeats 2000000 in
theorem l06Class_any (a : Option Addr) (n cap : Nat) (ts : List Int) (h : Int) (w : World) (hn : n = ts.length) (n0 : 0 < n) (n1 : n ≤ 1000000) (hr : RdI w (.slice a n cap) ts) (F : Nat) (hF : Over ts h F) :
    Calls Try.prog 67 #[.slice a n cap, .int .i64 h] w fun e w' => e = .returned (.int .i64 ((F : Int) - 1)) ∧ w = w' := by
  obtain ⟨b, off, rfl, -, hc⟩ := hr.spot (by omega)
  have HC := Lib.hid hc
  have HN := Lib.hid hn
  have HF := Lib.hid hF
  have fl := hF.le
  rw [← hn] at fl
  clear hr hc hn hF
  go_enter Try.func67, Try.ntmps67
  go_wp2
  go_loopw [5, 6] (fun ov iv wr => ∃ k : Nat, k ≤ n ∧ iv = .int .i64 k ∧ ov = .int .i64 ((min k F : Nat) - 1) ∧ w = wr) (fun _ iv _ => n - (intOf iv).toNat)
  case atStart => exact ⟨0, by omega, rfl, by rw [Nat.zero_min]; rfl, rfl⟩
  case round =>
    obtain ⟨k, hk, rfl, rfl, rfl⟩ := hrel
    by_cases hlt : k < n
    · obtain ⟨x, hx⟩ : ∃ x, ts[k]? = some x := ⟨_, List.getElem?_eq_getElem (by have := HN.out; omega)⟩
      have c := HC.out k x hx
      by_cases g : h < x
      · have kF : k < F := by
          rcases Nat.lt_or_ge k F with e | e
          · exact e
          · have := HF.out.under k x e hx; omega
        have E : Hid ((min (k + 1) F : Nat) = k + 1) := by show _ = _; omega
        clear hx
        go_wp2
        exact ⟨⟨k + 1, by omega, by go_num, by rw [E.out]; congr 1; omega, trivial⟩, by simp only [intOf]; omega⟩
      · have kF : F ≤ k := by
          rcases Nat.lt_or_ge k F with e | e
          · have := HF.out.over k x e hx; omega
          · exact e
        have E : Hid ((min (k + 1) F : Nat) = F) := by show _ = _; omega
        have E2 : Hid ((min k F : Nat) = F) := by show _ = _; omega
        rw [E2.out]
        clear hx
        go_wp2
        exact ⟨⟨k + 1, by omega, by go_num, by rw [E.out], trivial⟩, by simp only [intOf]; omega⟩
    · obtain rfl : k = n := by omega
      rw [Nat.min_eq_right fl]
      go_wp2
      go_ret
      exact ⟨rfl, rfl⟩

set_option maxHeartbeats 1000000 in
theorem classOf1_any (T R b off n cap : Nat) (h : Int) (w : World) (pt : w.cell? ⟨T, 0, none⟩ = some (.slice (some ⟨b, off, none⟩) n cap)) (pr : w.cell? ⟨R, 0, none⟩ = some (.int .i64 h)) (i : Nat) (hi : i < n) (x : Int) (hx : w.cell? ⟨b, off + i, none⟩ = some (.int .i64 x)) (d : Bool) (hd : d = decide (x ≤ h)) :
    Calls Try.prog 114 #[.int .i64 i, .pointer (some ⟨T, 0, none⟩), .pointer (some ⟨R, 0, none⟩)] w fun e w' => e = .returned (.bool d) ∧ ∃ q, w' = w.drewN q := by
  have HD := Lib.hid hd
  clear hd
  go_enter Try.func114, Try.ntmps114
  go_wp2
  go_quiet (fail)
  go_wp2
  go_ret
  exact ⟨by simp [HD.out], ⟨_, rfl⟩⟩

set_option maxRecDepth 100000 in
set_option maxHeartbeats 4000000 in
theorem searchOver_any (T R b off n cap : Nat) (h : Int) (ts : List Int) (hn : n = ts.length) (n1 : n ≤ 1000000) (w : World) (pt : w.cell? ⟨T, 0, none⟩ = some (.slice (some ⟨b, off, none⟩) n cap)) (pr : w.cell? ⟨R, 0, none⟩ = some (.int .i64 h)) (hc : ∀ (i : Nat) x, ts[i]? = some x → w.cell? ⟨b, off + i, none⟩ = some (.int .i64 x)) (B : Nat) (hB : Over ts h B) :
    Calls Try.prog 102 #[.int .i64 n, .func (.func 114) #[] #[.pointer (some ⟨T, 0, none⟩), .pointer (some ⟨R, 0, none⟩)]] w fun e w' => e = .returned (.int .i64 B) ∧ ∃ q, w' = w.drewN q := by
  have C := Lib.hid (fun (m i : Nat) (x : Int) (hx : ts[i]? = some x) (d : Bool) (hd : d = decide (x ≤ h)) => classOf1_any T R b off n cap h (w.drewN m) pt pr i (by have := (List.getElem?_eq_some_iff.1 hx).1; omega) x (hc i x hx) d hd)
  have HB := Lib.hid hB
  have bN : B ≤ n := by rw [hn]; exact hB.le
  have HN := Lib.hid hn
  clear pt pr hc hn hB
  go_enter Try.func102, Try.ntmps102
  go_wp2
  go_loopw [5, 6] (fun iv jv wr => ∃ (i j m : Nat), i ≤ B ∧ B ≤ j ∧ j ≤ n ∧ iv = .int .i64 i ∧ jv = .int .i64 j ∧ wr = w.drewN m) (fun iv jv _ => (intOf jv - intOf iv).toNat)
  case atStart => exact ⟨0, n, 0, by omega, bN, by omega, rfl, rfl, rfl⟩
  case round =>
    obtain ⟨i, j, m, h1, h2, h3, rfl, rfl, rfl⟩ := hrel
    by_cases hlt : i < j
    · have l1 : (i : Int) < (j : Int) := by omega
      obtain ⟨k, hh⟩ : ∃ k, k = (i + j) / 2 := ⟨_, rfl⟩
      have q1 : IntKind.i64.wrap ((i : Int) + (j : Int)) = (i : Int) + (j : Int) := IntWalk.i64_in _ (by omega)
      have hN' : k < n := by omega
      obtain ⟨x, hx⟩ : ∃ x, ts[k]? = some x := ⟨_, List.getElem?_eq_getElem (by have := HN.out; omega)⟩
      have e1 : ((i : Int) + (j : Int)) / 2 = (k : Int) := by omega
      have b1 : i ≤ k := by omega
      have b2 : k < j := by omega
      have E1 := Lib.hid e1
      have HX := Lib.hid hx
      clear hx hh e1
      by_cases g : x ≤ h
      · have gB : B ≤ k := by
          rcases Nat.lt_or_ge k B with c | c
          · have := HB.out.over k x c HX.out; omega
          · exact c
        have C1 := Lib.hid (fun n => C.out n k x HX.out true (by simpa using g))
        clear g
        go_wp2_with fail
        rw [E1.out]
        refine (C1.out m).mono ?_
        rintro e w' ⟨rfl, n, rfl⟩
        go_wp2
        exact ⟨⟨i, k, m + n, by omega, by omega, by omega, rfl, rfl, rfl⟩, by simp only [intOf]; omega⟩
      · have gB : k + 1 ≤ B := by
          rcases Nat.lt_or_ge k B with c | c
          · exact c
          · have := HB.out.under k x c HX.out; omega
        have C1 := Lib.hid (fun n => C.out n k x HX.out false (by simpa using g))
        clear g
        go_wp2_with fail
        rw [E1.out]
        refine (C1.out m).mono ?_
        rintro e w' ⟨rfl, n, rfl⟩
        go_wp2
        exact ⟨⟨k + 1, j, m + n, by omega, by omega, by omega, by go_num, rfl, rfl⟩, by simp only [intOf]; omega⟩
    · obtain rfl : i = j := by omega
      obtain rfl : i = B := by omega
      go_wp2
      go_ret
      exact ⟨rfl, ⟨_, rfl⟩⟩

set_option maxHeartbeats 2000000 in
theorem classOf_any (a : Option Addr) (n cap : Nat) (ts : List Int) (h : Int) (w : World) (hn : n = ts.length) (n0 : 0 < n) (n1 : n ≤ 1000000) (hr : RdI w (.slice a n cap) ts) (F : Nat) (hF : Over ts h F) :
    Calls Try.prog 99 #[.slice a n cap, .int .i64 h] w fun e w' => e = .returned (.int .i64 ((F : Int) - 1)) ∧ Below w.heap.size w w' := by
  obtain ⟨b, off, rfl, lb, hc⟩ := hr.spot (by omega)
  have fl := hF.le
  rw [← hn] at fl
  have M1 := Lib.hid (cell_of_row ((w.alloc (.cells #[.slice (some ⟨b, off, none⟩) n cap] 22)).alloc (.cells #[.int .i64 h] 2)) w.heap.size 0 _ 22 (0, 0) (box2_0 w _ _))
  have M2 := Lib.hid (cell_of_row ((w.alloc (.cells #[.slice (some ⟨b, off, none⟩) n cap] 22)).alloc (.cells #[.int .i64 h] 2)) (w.heap.size + 1) 0 _ 2 (0, 0) (box2_1 w _ _))
  have BB : Hid (Below w.heap.size w ((w.alloc (.cells #[.slice (some ⟨b, off, none⟩) n cap] 22)).alloc (.cells #[.int .i64 h] 2))) := by show Below _ _ _; go_grown
  have C := Lib.hid (searchOver_any w.heap.size (w.heap.size + 1) b off n cap h ts hn n1 _ M1.out M2.out (fun i x hx => (BB.out.cell (p := ⟨b, off + i, none⟩) lb).trans (hc i x hx)) F hF)
  clear hr hc hn hF M1 M2
  have q1 : IntKind.i64.wrap ((F : Int) + (-1)) = (F : Int) - 1 := by rw [IntWalk.i64_in _ (by omega)]; omega
  go_enter Try.func99, Try.ntmps99
  go_wp2_with fail
  refine C.out.mono ?_
  rintro e w1 ⟨rfl, q, rfl⟩
  go_wp2
  go_ret
  exact ⟨by first | rfl | (rw [show ((F : Int) + (-1)) = (F : Int) - 1 by omega]; rfl), Below.trans BB.out ⟨rfl, rfl, rfl, Nat.le_refl _, fun _ _ => rfl⟩⟩
end Go.Proofs.Ytobfephcmiolbab
