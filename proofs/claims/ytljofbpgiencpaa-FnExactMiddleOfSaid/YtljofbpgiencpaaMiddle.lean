/- Walks of the functions that find the middle number of a list. -/
import Derived.Test.YtljofbpgiencpaaLists
import Derived.Test.YtljofbpgiencpaaShelf
import Derived.Sort.OwnSorted
import Derived.Lib.OwnBridge
namespace Go.Proofs.Ytljofbpgiencpaa
open Go.ChangeShapes Go.WideShapes Go.ChangeAt Go.RowKit
set_option linter.unusedVariables false
set_option linter.unusedSimpArgs false

/-- The list in ascending order. -/
def asc (zs : List Int) : List Int := zs.mergeSort fun x y => decide (x ≤ y)

theorem asc_length (zs : List Int) : (asc zs).length = zs.length := List.length_mergeSort zs
theorem asc_perm (zs : List Int) : (asc zs).Perm zs := List.mergeSort_perm zs _
theorem asc_sorted (zs : List Int) : (asc zs).Pairwise (· ≤ ·) := by
  have := List.pairwise_mergeSort (le := fun (x y : Int) => decide (x ≤ y)) (fun a b c h1 h2 => by simp at *; omega) (fun a b => by simp; omega) zs
  exact this.imp (fun h => by simpa using h)

theorem sorted_get_lt {S : List Int} (hS : S.Pairwise (· ≤ ·)) (x : Int) (k : Nat) (y : Int) (hk : S[k]? = some y) : y < x ↔ k < S.countP (fun z => decide (z < x)) := by
  induction S generalizing k with
  | nil => simp at hk
  | cons a S ih =>
    rw [List.pairwise_cons] at hS
    by_cases ha : a < x
    · rw [List.countP_cons_of_pos (by simpa using ha)]
      cases k with
      | zero => simp at hk; subst hk; exact ⟨fun _ => by omega, fun _ => ha⟩
      | succ k =>
        rw [List.getElem?_cons_succ] at hk
        rw [ih hS.2 k hk]; omega
    · have hz : (a :: S).countP (fun z => decide (z < x)) = 0 := by
        rw [List.countP_eq_zero]
        intro z hz
        rcases List.mem_cons.mp hz with rfl | hz
        · simpa using ha
        · have := hS.1 z hz; simp; omega
      rw [hz]
      have : a ≤ y := by
        cases k with
        | zero => simp at hk; omega
        | succ k => rw [List.getElem?_cons_succ] at hk; exact hS.1 y (List.mem_of_getElem? hk)
      exact ⟨fun h => by omega, fun h => by omega⟩

def lessIn (zs : List Int) (x : Int) : Nat := zs.countP fun z => decide (z < x)
def sameIn (zs : List Int) (x : Int) : Nat := zs.countP fun z => decide (z = x)

theorem less_same (zs : List Int) (x : Int) : zs.countP (fun z => decide (z < x + 1)) = lessIn zs x + sameIn zs x := by
  unfold lessIn sameIn
  induction zs with
  | nil => rfl
  | cons a zs ih =>
    simp only [List.countP_cons, decide_eq_true_eq]
    rw [ih]
    split <;> split <;> split <;> omega

/-- m is the middle number of zs. -/
def IsMid (zs : List Int) (m : Int) : Prop := (asc zs)[(zs.length - 1) / 2]? = some m

theorem IsMid.ex {zs : List Int} (h : zs ≠ []) : ∃ m, IsMid zs m := by
  have : 0 < zs.length := List.length_pos_iff.mpr h
  exact ⟨_, List.getElem?_eq_getElem (by rw [asc_length]; omega)⟩

theorem IsMid.iff {zs : List Int} {m : Int} (h : IsMid zs m) (x : Int) : x = m ↔ lessIn zs x ≤ (zs.length - 1) / 2 ∧ (zs.length - 1) / 2 < lessIn zs x + sameIn zs x := by
  have h1 := sorted_get_lt (asc_sorted zs) x _ m h
  have h2 := sorted_get_lt (asc_sorted zs) (x + 1) _ m h
  rw [(asc_perm zs).countP_eq] at h1 h2
  rw [less_same] at h2
  unfold lessIn at *
  omega

theorem IsMid.mem {zs : List Int} {m : Int} (h : IsMid zs m) : m ∈ zs := (asc_perm zs).mem_iff.mp (List.mem_of_getElem? h)

theorem lessIn_take {zs : List Int} {k : Nat} {y : Int} (hy : zs[k]? = some y) (x : Int) : lessIn (zs.take (k + 1)) x = lessIn (zs.take k) x + (if y < x then 1 else 0) := by
  unfold lessIn
  rw [List.take_add_one, hy, List.countP_append]
  simp [List.countP_cons]
theorem sameIn_take {zs : List Int} {k : Nat} {y : Int} (hy : zs[k]? = some y) (x : Int) : sameIn (zs.take (k + 1)) x = sameIn (zs.take k) x + (if y = x then 1 else 0) := by
  unfold sameIn
  rw [List.take_add_one, hy, List.countP_append]
  simp [List.countP_cons]
theorem lessIn_le (zs : List Int) (x : Int) (k : Nat) : lessIn (zs.take k) x ≤ k := Nat.le_trans List.countP_le_length (by simp; omega)
theorem sameIn_le (zs : List Int) (x : Int) (k : Nat) : sameIn (zs.take k) x ≤ k := Nat.le_trans List.countP_le_length (by simp; omega)

set_option maxHeartbeats 2000000 in
theorem specMiddle_yes (v : Value) (zs : List Int) (m : Int) (w : World) (h : RdI w v zs) (lz : zs.length ≤ 64) (hA : AllVal zs) (hm : IsMid zs m) :
    Calls Try.prog 36 #[v] w fun e w' => e = .returned (.tuple #[.int .i64 m, .bool true]) ∧ ∃ n, w' = w.drewN n := by
  have CL : Hid (∀ w', RdI w' v zs → Calls Try.prog 59 #[v] w' fun e w'' => e = .returned (.bool true) ∧ w' = w'') := fun w' h' => l01List_any v zs w' h' (by omega) true (by simp; exact ⟨lz, hA⟩)
  have H := Lib.hid h
  have hpos : 0 < zs.length := List.length_pos_of_mem hm.mem
  obtain ⟨a, cap, rfl, ra⟩ := h
  obtain ⟨n, hn⟩ : ∃ n, n = zs.length := ⟨_, rfl⟩
  have RA : Hid (∃ b off : Nat, a = some ⟨b, off, none⟩ ∧ ∀ i x, zs[i]? = some x → w.cell? ⟨b, off + i, none⟩ = some (.int .i64 x)) := ra.resolve_left (by intro e; rw [e] at hpos; simp at hpos)
  have HN := Lib.hid hn
  have HM := Lib.hid hm
  rw [← hn] at lz hpos
  rw [← hn]
  rw [← hn] at H CL
  obtain ⟨b, off, rfl, rc⟩ := RA.out
  have RC := Lib.hid rc
  have hz0 : ((n : Int) == 0) = false := by simp; omega
  clear ra hn hA hm rc RA
  go_enter Try.func36, Try.ntmps36
  go_wp2_with (go_at_call 59; refine (CL.out _ H.out).mono ?_; rintro e w' ⟨rfl, rfl⟩)
  clear H CL
  go_loopw [4, 5, 6, 7, 8] (fun i _ _ _ _ wr => ∃ k q : Nat, k ≤ n ∧ i = .int .i64 k ∧ wr = w.drewN q ∧ Hid (∀ j x, j < k → zs[j]? = some x → x ≠ m)) (fun i _ _ _ _ _ => n - (intOf i).toNat)
  case atStart => exact ⟨0, 0, by omega, rfl, rfl, fun j x h => absurd h (by omega)⟩
  case round =>
    obtain ⟨k, q, hk, rfl, rfl, hne⟩ := hrel
    by_cases hlt : k < n
    · obtain ⟨x, hx⟩ : ∃ x, zs[k]? = some x := ⟨_, List.getElem?_eq_getElem (by have := HN.out; omega)⟩
      have c1 := RC.out k x hx
      have HX := Lib.hid hx
      clear hx
      go_wp2
      go_loopw [5, 6, 7] (fun l s i wr => ∃ k' q' : Nat, k' ≤ n ∧ i = .int .i64 k' ∧ wr = w.drewN q' ∧ l = .int .i64 (lessIn (zs.take k') x) ∧ s = .int .i64 (sameIn (zs.take k') x)) (fun _ _ i _ => n - (intOf i).toNat)
      case atStart => exact ⟨0, q, by omega, rfl, rfl, rfl, rfl⟩
      case round =>
        obtain ⟨k', q', hk', rfl, rfl, rfl, rfl⟩ := hrel
        by_cases hlt' : k' < n
        · obtain ⟨y, hy⟩ : ∃ y, zs[k']? = some y := ⟨_, List.getElem?_eq_getElem (by have := HN.out; omega)⟩
          have c2 := RC.out k' y hy
          have l1 := lessIn_take hy x
          have l2 := sameIn_take hy x
          have L0 := lessIn_le zs x k'
          have S0 := sameIn_le zs x k'
          have LL : Hid (lessIn (zs.take (k' + 1)) x = lessIn (zs.take k') x + (if y < x then 1 else 0)) := l1
          have SS : Hid (sameIn (zs.take (k' + 1)) x = sameIn (zs.take k') x + (if y = x then 1 else 0)) := l2
          clear hy l1 l2
          generalize lessIn (zs.take k') x = P at *
          generalize sameIn (zs.take k') x = Q at *
          rcases Int.lt_trichotomy y x with hyx | hyx | hyx
          · have e1 : Hid (lessIn (zs.take (k' + 1)) x = P + 1) := by have := LL.out; rw [if_pos hyx] at this; exact this
            have e2 : Hid (sameIn (zs.take (k' + 1)) x = Q) := by have := SS.out; rw [if_neg (by omega)] at this; exact this
            have hb : (y == x) = false := by simp; omega
            clear LL SS
            go_wp2
            go_quiet (fail)
            go_wp2
            go_quiet (fail)
            go_wp2
            refine ⟨⟨k' + 1, _, by omega, by go_num, rfl, ?_, ?_⟩, by simp only [intOf]; omega⟩
            · rw [e1.out]; go_num
            · rw [e2.out]
          · subst hyx
            have e1 : Hid (lessIn (zs.take (k' + 1)) y = P) := by have := LL.out; rw [if_neg (by omega)] at this; exact this
            have e2 : Hid (sameIn (zs.take (k' + 1)) y = Q + 1) := by have := SS.out; rw [if_pos rfl] at this; exact this
            clear LL SS
            go_wp2
            go_quiet (fail)
            go_wp2
            go_quiet (fail)
            go_wp2
            refine ⟨⟨k' + 1, _, by omega, by go_num, rfl, ?_, ?_⟩, by simp only [intOf]; omega⟩
            · rw [e1.out]
            · rw [e2.out]; go_num
          · have e1 : Hid (lessIn (zs.take (k' + 1)) x = P) := by have := LL.out; rw [if_neg (by omega)] at this; exact this
            have e2 : Hid (sameIn (zs.take (k' + 1)) x = Q) := by have := SS.out; rw [if_neg (by omega)] at this; exact this
            have hb : (y == x) = false := by simp; omega
            clear LL SS
            go_wp2
            go_quiet (fail)
            go_wp2
            go_quiet (fail)
            go_wp2
            refine ⟨⟨k' + 1, _, by omega, by go_num, rfl, ?_, ?_⟩, by simp only [intOf]; omega⟩
            · rw [e1.out]
            · rw [e2.out]
        · obtain rfl : k' = n := by omega
          have hi := HM.out.iff x
          have ht : zs.take k' = zs := List.take_of_length_le (by have := HN.out; omega)
          have L0 := lessIn_le zs x k'
          have S0 := sameIn_le zs x k'
          rw [ht] at L0 S0
          rw [ht]
          rw [← HN.out] at hi
          clear ht
          generalize lessIn zs x = P at *
          generalize sameIn zs x = Q at *
          by_cases hxm : x = m
          · subst hxm
            obtain ⟨i1, i2⟩ := hi.mp rfl
            clear hi
            have j1 : (P : Int) ≤ ((k' : Int) - 1) / 2 := by omega
            have j2 : ((k' : Int) - 1) / 2 < (P : Int) + (Q : Int) := by omega
            clear i1 i2
            go_wp2
            go_ret2
            exact ⟨rfl, _, rfl⟩
          · have hno : ¬ (P ≤ (k' - 1) / 2 ∧ (k' - 1) / 2 < P + Q) := fun h => hxm (hi.mpr h)
            have hne' : Hid (∀ j y, j < k + 1 → zs[j]? = some y → y ≠ m) := by
              intro j y hj hy
              by_cases e : j = k
              · subst e
                rw [HX.out] at hy
                cases hy; exact hxm
              · exact hne.out j y (by omega) hy
            clear hi
            by_cases j1 : (P : Int) ≤ ((k' : Int) - 1) / 2
            · have j2 : decide (((k' : Int) - 1) / 2 < (P : Int) + (Q : Int)) = false := by simp; omega
              clear hno hxm hne
              go_wp2
              exact ⟨⟨k + 1, _, by omega, by go_num, rfl, hne'⟩, by simp only [intOf]; omega⟩
            · clear hno hxm hne
              go_wp2
              exact ⟨⟨k + 1, _, by omega, by go_num, rfl, hne'⟩, by simp only [intOf]; omega⟩
    · exfalso
      obtain ⟨j, hj, e⟩ := List.getElem_of_mem HM.out.mem
      exact hne.out j m (by have := HN.out; omega) (by rw [List.getElem?_eq_getElem hj, e]) rfl

theorem specMiddle_no (v : Value) (zs : List Int) (w : World) (h : RdI w v zs) (lz : zs.length ≤ 1099511627776) (hA : ¬ (zs.length ≤ 64 ∧ AllVal zs) ∨ zs = []) :
    Calls Try.prog 36 #[v] w fun e w' => e = .returned (.tuple #[.int .i64 0, .bool false]) ∧ ∃ n, w' = w.drewN n := by
  have H := Lib.hid h
  obtain ⟨a, cap, rfl, _⟩ := h
  by_cases hz : zs = []
  · subst hz
    go_enter Try.func36, Try.ntmps36
    go_wp2_with (go_at_call 59; refine (l01List_any _ [] _ H.out (by simp) true (by simp [AllVal])).mono ?_; rintro e w' ⟨rfl, rfl⟩)
    go_ret2
    exact ⟨rfl, 0, rfl⟩
  · have hA' := hA.resolve_right hz
    have CL : Hid (∀ w', RdI w' (.slice a zs.length cap) zs → Calls Try.prog 59 #[.slice a zs.length cap] w' fun e w'' => e = .returned (.bool false) ∧ w' = w'') := fun w' h' => l01List_any _ zs w' h' (by omega) false (by simpa using hA')
    clear hz hA hA'
    go_enter Try.func36, Try.ntmps36
    go_wp2_with (go_at_call 59; refine (CL.out _ H.out).mono ?_; rintro e w' ⟨rfl, rfl⟩)
    go_ret2
    exact ⟨rfl, 0, rfl⟩

theorem clone_own (v : Value) (zs : List Int) (w : World) (h : RdI w v zs) (lz : zs.length ≤ 1099511627776) (hz : zs ≠ []) :
    Calls Try.prog 46 #[v] w fun e w' => ∃ g cap, e = .returned (.slice (some ⟨g, 0, none⟩) zs.length cap) ∧ OwnI w' w.heap.size (.slice (some ⟨g, 0, none⟩) zs.length cap) zs ∧ Below w.heap.size w w' := by
  obtain ⟨i0, hi, hz0, hz1, hz2⟩ := info_parts info_i64
  obtain ⟨a, cap, rfl, h⟩ := h
  obtain ⟨b, off, rfl, hc⟩ := h.resolve_left hz
  refine (Try.slices_Clone i0 _ 1 8 hi hz0 hz1 hz2 rfl (by omega) (by intro w; kernel_rfl) b off zs.length cap (zs.map (Value.int .i64)) w (by simp) (by unfold maxLen; omega) (by omega) ?_ (ints_oneCell _ _)).mono ?_
  · intro j u hj
    rw [List.getElem?_map] at hj
    cases e : zs[j]? with
    | none => rw [e] at hj; simp at hj
    | some x => rw [e] at hj; simp at hj; subst hj; exact hc j x e
  · rintro e w' ⟨v', rfl, ho, hn, hb⟩
    rcases id ho.2 with ⟨h1, _⟩ | ⟨g, cap', cur, rfl, _⟩
    · exact absurd h1 hn
    · exact ⟨g, cap', rfl, ho, hb⟩

theorem sort_own (g cap : Nat) (zs : List Int) (w : World) (B : Nat) (h : OwnI w B (.slice (some ⟨g, 0, none⟩) zs.length cap) zs) (lz : zs.length ≤ 1099511627776) :
    Calls Try.prog 47 #[.slice (some ⟨g, 0, none⟩) zs.length cap] w fun e w' => e = .returned (.tuple #[]) ∧ OwnI w' B (.slice (some ⟨g, 0, none⟩) zs.length cap) (asc zs) ∧ w.grownBy w' (some g) := by
  obtain ⟨g', cap', hv, hB, hg, hle, hm, hl, hH⟩ := Lib.holds_of_ownsRow (enc := Value.int .i64) h (by simp)
  cases hv
  refine (Try.slices_Sort_int g 0 cap zs w hH hg (by omega)).mono ?_
  rintro e w' ⟨rfl, n, os, rfl⟩
  have ho := Lib.ownsRow_putRow (enc := Value.int .i64) (q := n) (k := zs.length) (ys := asc zs) h (asc_length zs) (Nat.le_refl _)
  rw [List.take_of_length_le (by rw [asc_length]; exact Nat.le_refl _)] at ho
  have hsz : (Sort.putRow (Value.int .i64) (Sort.ahead w n) g 0 (asc zs).toArray).heap.size = w.heap.size := by simp [Sort.putRow, Sort.mapBlock, Sort.ahead]
  have G : w.grownBy (Sort.grow (Sort.putRow (Value.int .i64) (Sort.ahead w n) g 0 (asc zs).toArray) os) (some g) := by
    refine ⟨rfl, rfl, rfl, by simp [Sort.grow, Sort.putRow, Sort.mapBlock, Sort.ahead], fun k hk hne => ?_⟩
    have hk' : g ≠ k := fun e => hne (by rw [e])
    rw [Sort.heap_grow_old _ _ (by rw [hsz]; exact hk)]
    simp [Sort.putRow, Sort.mapBlock, Sort.ahead, Array.getElem?_modify, hk']
  refine ⟨rfl, ?_, G⟩
  unfold OwnI
  rw [asc_length]
  obtain ⟨h1, h2⟩ := ho
  refine ⟨h1, ?_⟩
  rcases h2 with h2 | ⟨g', cap', cur, hv, hb, hh, hr⟩
  · exact .inl h2
  · have hlt : g' < (Sort.putRow (Value.int .i64) (Sort.ahead w n) g 0 (asc zs).toArray).heap.size := (Array.getElem?_eq_some_iff.1 hh).1
    exact .inr ⟨g', cap', cur, hv, hb, (Sort.heap_grow_old _ _ hlt).trans hh, hr⟩

set_option maxHeartbeats 1000000 in
theorem implMiddle_yes (v : Value) (zs : List Int) (m : Int) (w : World) (h : RdI w v zs) (lz : zs.length ≤ 64) (hA : AllVal zs) (hm : IsMid zs m) :
    Calls Try.prog 23 #[v] w fun e w' => e = .returned (.tuple #[.int .i64 m, .bool true]) ∧ Below w.heap.size w w' := by
  have CL : Hid (∀ w', RdI w' v zs → Calls Try.prog 45 #[v] w' fun e w'' => e = .returned (.bool true) ∧ w' = w'') := fun w' h' => isList_any v zs w' h' (by omega) true (by simp; exact ⟨lz, hA⟩)
  have H := Lib.hid h
  have hpos : 0 < zs.length := List.length_pos_of_mem hm.mem
  obtain ⟨a, cap, rfl, ra⟩ := h
  obtain ⟨n, hn⟩ : ∃ n, n = zs.length := ⟨_, rfl⟩
  have HN := Lib.hid hn
  have HM := Lib.hid hm
  rw [← hn] at lz hpos
  rw [← hn]
  rw [← hn] at H CL
  have hz0 : ((n : Int) == 0) = false := by simp; omega
  clear ra hn hA hm
  go_enter Try.func23, Try.ntmps23
  go_wp2_with (go_at_call 45; refine (CL.out _ H.out).mono ?_; rintro e w' ⟨rfl, rfl⟩)
  go_wp2_with fail
  refine (clone_own _ zs w H.out (by have := HN.out; omega) (by intro e; have := HN.out; rw [e] at this; simp at this; omega)).mono ?_
  rintro e w1 ⟨g, cap', rfl, o1, e1⟩
  have O1 := Lib.hid o1
  have E1 := Lib.hid e1
  clear o1 e1
  go_wp2_with fail
  refine (sort_own g cap' zs w1 w.heap.size O1.out (by have := HN.out; omega)).mono ?_
  rintro e w2 ⟨rfl, o2, g2⟩
  have E2 : Hid (Below w.heap.size w w2) := E1.out.grown g2 E1.out.size (fun k hk => by cases hk; exact (O1.out.lt g rfl).1)
  rw [← HN.out]
  have c := o2
  unfold OwnI at c
  rw [asc_length] at c
  have c1 := c.cellAt ((n - 1) / 2) (by have := HN.out; omega)
  rw [List.getElem?_map, HN.out, HM.out, ← HN.out] at c1
  simp only [Option.map_some] at c1
  have ix : (((n : Int) - 1) / 2) = (((n - 1) / 2 : Nat) : Int) := by omega
  have ix2 : (n - 1) / 2 < n := by omega
  clear o2 g2 c
  generalize (n - 1) / 2 = j at *
  go_wp2
  go_ret2
  exact ⟨rfl, E2.out⟩

theorem implMiddle_no (v : Value) (zs : List Int) (w : World) (h : RdI w v zs) (lz : zs.length ≤ 1099511627776) (hA : ¬ (zs.length ≤ 64 ∧ AllVal zs) ∨ zs = []) :
    Calls Try.prog 23 #[v] w fun e w' => e = .returned (.tuple #[.int .i64 0, .bool false]) ∧ Below w.heap.size w w' := by
  have H := Lib.hid h
  obtain ⟨a, cap, rfl, _⟩ := h
  by_cases hz : zs = []
  · subst hz
    go_enter Try.func23, Try.ntmps23
    go_wp2
    go_ret2
    exact ⟨rfl, Below.refl _ _⟩
  · have hA' := hA.resolve_right hz
    have CL : Hid (∀ w', RdI w' (.slice a zs.length cap) zs → Calls Try.prog 45 #[.slice a zs.length cap] w' fun e w'' => e = .returned (.bool false) ∧ w' = w'') := fun w' h' => isList_any _ zs w' h' (by omega) false (by simpa using hA')
    have hp : 0 < zs.length := List.length_pos_iff.mpr hz
    have hz0 : ((zs.length : Int) == 0) = false := by simp; exact hz
    clear hz hA hA'
    go_enter Try.func23, Try.ntmps23
    go_wp2_with (go_at_call 45; refine (CL.out _ H.out).mono ?_; rintro e w' ⟨rfl, rfl⟩)
    go_ret2
    exact ⟨rfl, Below.refl _ _⟩

set_option maxHeartbeats 2000000 in
theorem middle_law (a : Option Addr) (len cap : Nat) (zs : List Int) (hl : (len : Int) ≤ 1048576) (hz : zs.length = len) (w : World) (h : RdI w (.slice a len cap) zs) (m : Int) (b : Bool)
    (cs : Hid (∀ v w, RdI w v zs → Calls Try.prog 36 #[v] w fun e w' => e = .returned (.tuple #[.int .i64 m, .bool b]) ∧ ∃ n, w' = w.drewN n))
    (ci : Hid (∀ v w, RdI w v zs → Calls Try.prog 23 #[v] w fun e w' => e = .returned (.tuple #[.int .i64 m, .bool b]) ∧ Below w.heap.size w w')) :
    Calls Try.prog 11 #[.slice a len cap] w fun e w' => e = .returned (.bool true) ∧ Below w.heap.size w w' := by
  have H := Lib.hid h
  have HZ := Lib.hid hz
  clear h hz
  go_enter Try.func11, Try.ntmps11
  go_wp2_with fail
  refine (toInts_any _ zs w H.out (by have := HZ.out; omega)).mono ?_
  rintro e x1 ⟨v1, rfl, o1, e1⟩
  have O1 := Lib.hid o1
  have E1 := Lib.hid e1
  have hsz1 := e1.size
  clear o1 e1
  go_wp2_with fail
  refine (cs.out v1 x1 O1.out.rd).mono ?_
  rintro e x2 ⟨rfl, n, rfl⟩
  have E1' : Hid (Below w.heap.size w (x1.drewN n)) := below_drewN E1.out n
  have H1 : Hid (RdI (x1.drewN n) (.slice a len cap) zs) := H.out.later E1'.out
  go_wp2_with fail
  refine (toInts_any _ zs (x1.drewN n) H1.out (by have := HZ.out; omega)).mono ?_
  rintro e x2 ⟨v2, rfl, o2, e2⟩
  have O2 := Lib.hid o2
  have E2 : Hid (Below w.heap.size w x2) := E1'.out.trans (e2.mono E1'.out.size)
  have hsz2 := e2.size
  clear o2 e2 E1'
  have H2 : Hid (RdI x2 (.slice a len cap) zs) := H.out.later E2.out
  go_wp2_with fail
  refine (ci.out v2 x2 O2.out.rd).mono ?_
  rintro e x3 ⟨rfl, e3⟩
  have H3 : Hid (RdI x3 (.slice a len cap) zs) := H2.out.later e3
  have O2' : Hid (RdI x3 v2 zs) := O2.out.rd.later e3
  have E3 : Hid (Below w.heap.size w x3) := E2.out.trans (e3.mono E2.out.size)
  clear e3
  go_wp2_with fail
  refine (toInts_any _ zs x3 H3.out (by have := HZ.out; omega)).mono ?_
  rintro e x4 ⟨v4, rfl, o4, e4⟩
  have O4 := Lib.hid o4
  have O2'' : Hid (RdI x4 v2 zs) := O2'.out.later e4
  have E4 : Hid (Below w.heap.size w x4) := E3.out.trans (e4.mono E3.out.size)
  clear o4 e4
  go_wp2_with fail
  refine (eqInts_any v2 v4 zs zs x4 O2''.out O4.out.rd (by have := HZ.out; omega) (by have := HZ.out; omega) true (by simp)).mono ?_
  rintro e x5 ⟨rfl, n', rfl⟩
  go_wp2_with fail
  go_ret
  exact ⟨rfl, below_drewN E4.out n'⟩

theorem walkFnExactMiddleOf (w : World) (a0 : Option Addr) (len0 cap0 : Nat) (z0 : List Int) (w0 : IsRow .i64 w a0 len0 cap0 z0) :
    Calls Try.prog 11 #[.slice a0 len0 cap0] w fun e w' => e = .returned (.bool true) ∧ Below w.heap.size w w' := by
  obtain ⟨hr, hz⟩ := w0.rd
  by_cases hl : (len0 : Int) ≤ 1048576
  · by_cases hA : ((z0.take len0).length ≤ 64 ∧ AllVal (z0.take len0)) ∧ z0.take len0 ≠ []
    · obtain ⟨m, hm⟩ := IsMid.ex hA.2
      exact middle_law a0 len0 cap0 _ hl hz w hr m true (fun v w h => specMiddle_yes v _ m w h hA.1.1 hA.1.2 hm) (fun v w h => implMiddle_yes v _ m w h hA.1.1 hA.1.2 hm)
    · have hA' : ¬ ((z0.take len0).length ≤ 64 ∧ AllVal (z0.take len0)) ∨ z0.take len0 = [] := by
        by_cases e : z0.take len0 = []
        · exact .inr e
        · exact .inl fun h => hA ⟨h, e⟩
      exact middle_law a0 len0 cap0 _ hl hz w hr 0 false (fun v w h => specMiddle_no v _ w h (by omega) hA') (fun v w h => implMiddle_no v _ w h (by omega) hA')
  · have hm := w0.len_le
    have hl' : 1048576 < (len0 : Int) := by omega
    clear hl hr hz w0
    go_enter Try.func11, Try.ntmps11
    go_wp2
    go_ret
    exact ⟨rfl, Below.refl _ _⟩
end Go.Proofs.Ytljofbpgiencpaa
