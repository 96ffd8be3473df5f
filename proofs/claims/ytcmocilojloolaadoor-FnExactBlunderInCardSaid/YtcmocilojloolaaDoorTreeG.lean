/- Groups of points: made, and their heights; of the program. -/
import Derived.Test.YtcmocilojloolaaDoorJoinI
import Derived.Test.YtcmocilojloolaaDoorPart
namespace Go.Proofs.YtcmocilojloolaaDoor
open Go.ChangeShapes Go.WideShapes Go.ChangeAt Go.RowKit
set_option linter.unusedVariables false
set_option linter.unusedSimpArgs false

def zeroLk : Lk := ⟨0, 0⟩
theorem info_Lk : (Tryd.prog.info? 110).map (fun i => (i.zero, i.size, i.bytes)) = some (some (.agg #[.int .i64 0, .int .i64 0]), 2, 16) := by kernel_rfl
theorem info_partsT {t : TypeId} {z : Value} {a b : Nat} (h : (Tryd.prog.info? t).map (fun i => (i.zero, i.size, i.bytes)) = some (some z, a, b)) : ∃ i, Tryd.prog.info? t = some i ∧ i.zero = some z ∧ i.size = a ∧ i.bytes = b := by
  cases hi : Tryd.prog.info? t with
  | none => rw [hi] at h; simp at h
  | some i => rw [hi] at h; simp at h; exact ⟨i, rfl, h.1, h.2.1, h.2.2⟩

/-- The links of n points, the first k of which lead to themselves. -/
def iniTo (n k : Nat) : List Lk := (List.range n).map fun p => if p < k then ⟨(p : Nat), 0⟩ else ⟨0, 0⟩
theorem iniTo_len (n k : Nat) : (iniTo n k).length = n := by simp [iniTo]
theorem iniTo_zero (n : Nat) : iniTo n 0 = List.replicate n zeroLk := by
  apply List.ext_getElem
  · simp [iniTo]
  · intro i h1 h2
    simp [iniTo, zeroLk]
theorem iniTo_get (n k p : Nat) (h : p < n) : (iniTo n k)[p]? = some (if p < k then ⟨(p : Nat), 0⟩ else ⟨0, 0⟩) := by simp [iniTo, h]
theorem iniTo_set (n k : Nat) (h : k < n) : (iniTo n k).set k ⟨(k : Nat), 0⟩ = iniTo n (k + 1) := by
  apply List.ext_getElem
  · simp [iniTo]
  · intro i h1 h2
    rw [List.getElem_set]
    simp only [iniTo, List.getElem_map, List.getElem_range]
    by_cases e : k = i
    · subst e; simp
    · by_cases e2 : i < k
      · rw [if_neg e, if_pos e2, if_pos (by omega)]
      · rw [if_neg e, if_neg e2, if_neg (by omega)]
theorem iniTo_forest (n : Nat) : Forest n (iniTo n n) (fun p => p) (fun _ => 0) (fun _ => 0) :=
  ⟨iniTo_len n n, fun p h => h, fun p h => rfl, fun p h _ => ⟨rfl, rfl, by rw [iniTo_get n n p h, if_pos h]⟩, fun p h hr => absurd rfl hr⟩

set_option maxRecDepth 100000 in
set_option maxHeartbeats 4000000 in
theorem groupsOf_any (n : Nat) (h1 : 1 ≤ n) (h8 : n ≤ 8) (w : World) :
    Calls Tryd.prog 83 #[.int .i64 n] w fun e w' => e = .returned (.slice (some ⟨w.heap.size, 0, none⟩) n n) ∧ OwnLk w' w.heap.size w.heap.size n (iniTo n n) ∧ Below w.heap.size w w' := by
  obtain ⟨i0, hi, hz0, hz1, hz2⟩ := info_partsT info_Lk
  go_enter Tryd.func83, Tryd.ntmps83
  go_wp2_with (first | (at_make; refine wpList_make_full _ rfl _ _ _ rfl w.heap.size 110 i0 _ 2 Tryd.underlying65 hi hz0 hz1 .i64 .i64 _ _ n rfl rfl rfl rfl ?b2 ?b3 (Nat.le_refl _) ?_) | go_in)
  case b2 => rw [hz2]; omega
  case b3 => unfold maxLen; omega
  intro w1 hown hg
  rw [made_flat (enc := encLk) encLk_len (by omega) zeroLk #[.int .i64 0, .int .i64 0] rfl, ← iniTo_zero] at hown
  have O1 : Hid (OwnLk w1 w.heap.size w.heap.size n (iniTo n 0)) := by
    show OwnS _ _ _ _ _ _ _
    unfold OwnS
    rw [iniTo_len]
    exact hown
  have B1 : Hid (Below w.heap.size w w1) := (Below.refl _ _).grown hg (Nat.le_refl _) (fun k h => by cases h)
  clear hown hg
  go_wp2
  go_loopw [8] (fun i wr => ∃ k : Nat, k ≤ n ∧ i = .int .i64 k ∧ Hid (OwnLk wr w.heap.size w.heap.size n (iniTo n k)) ∧ Hid (Below w.heap.size w wr)) (fun i _ => n - (intOf i).toNat)
  case atStart => exact ⟨0, by omega, rfl, O1.out, B1.out⟩
  case round =>
    obtain ⟨k, hk, rfl, ho, B⟩ := hrel
    clear O1 B1
    by_cases hlt : k < n
    · have gl := iniTo_get n k k hlt
      rw [if_neg (by omega)] at gl
      obtain ⟨⟨d0, d1⟩, ⟨h0, h1⟩, -, lg⟩ := ho.out.at (iniTo_len n k) k _ gl
      have e := OwnS.stored1 encLk_len (iniTo_len n k).symm ho.out k 0 ⟨0, 0⟩ ⟨(k : Nat), 0⟩ (.int .i64 (k : Nat)) gl (by omega) rfl
      rw [iniTo_set n k hlt] at e
      have O2 : Hid (OwnLk (wr.setCell ⟨w.heap.size, k * 2, none⟩ (.int .i64 (k : Nat))) w.heap.size w.heap.size n (iniTo n (k + 1))) := e
      have B2 : Hid (Below w.heap.size w (wr.setCell ⟨w.heap.size, k * 2, none⟩ (.int .i64 (k : Nat)))) := B.out.setCell (p := ⟨w.heap.size, k * 2, none⟩) (Nat.le_refl _) _
      clear e gl ho B
      go_wp2
      exact ⟨⟨k + 1, by omega, by go_num, O2, B2⟩, by simp only [intOf]; omega⟩
    · obtain rfl : k = n := by omega
      go_wp2
      go_ret
      exact ⟨rfl, ho.out, B.out⟩

/-- The heights of all points, from the point 0 on. -/
def higL (n : Nat) (S : Nat → Int) : List Int := (List.range n).map fun p => S p - S 0
theorem higL_len (n : Nat) (S : Nat → Int) : (higL n S).length = n := by simp [higL]
theorem higL_get (n : Nat) (S : Nat → Int) (p : Nat) (h : p < n) : (higL n S)[p]? = some (S p - S 0) := by simp [higL, h]

theorem field_Lk (x y : Int) (w : World) : (Instr.field 110 (.agg #[.int .i64 x, .int .i64 y]) 1).run Tryd.prog w = .ok (.int .i64 y) w := by kernel_rfl

set_option maxRecDepth 100000 in
set_option maxHeartbeats 8000000 in
theorem heights_any (n gb B : Nat) (R : Nat → Nat) (S : Nat → Int) (D : Nat → Nat) (h1 : 1 ≤ n) (hn : n ≤ 8) (hS : ∀ q, q < n → -1000000 ≤ S q ∧ S q ≤ 1000000) (g : List Lk) (w : World) (hF : Forest n g R S D) (ho : OwnLk w B gb n g) :
    Calls Tryd.prog 49 #[.slice (some ⟨gb, 0, none⟩) n n] w fun e w' => ∃ (u : Value) (g' : List Lk), e = .returned u ∧ OwnI w' w.heap.size u (higL n S) ∧ Forest n g' R S D ∧ OwnLk w' B gb n g' ∧ w.grownBy w' (some gb) := by
  obtain ⟨i0, hi, hz0, hz1, hz2⟩ := info_parts info_i64
  have CR := Lib.hid (fun p hp g w hF ho => root_any n gb B R S D hn (fun q hq => by have := hS q hq; omega) (D p) p hp (Nat.le_refl _) g w hF ho)
  have HS := Lib.hid hS
  have HF := Lib.hid hF
  have HO := Lib.hid ho
  have lgb := (ho.lt gb rfl).2
  have fd := field_Lk
  clear hF ho hS
  go_enter Tryd.func49, Tryd.ntmps49
  go_wp2_with (first | (at_make; refine wpList_make_full _ rfl _ _ _ rfl w.heap.size 2 i0 (.int .i64 0) 1 Tryd.underlying28 hi hz0 hz1 .i64 .i64 _ _ n rfl rfl rfl rfl ?b2 ?b3 (Nat.le_refl _) ?_) | go_in)
  case b2 => rw [hz2]; omega
  case b3 => unfold maxLen; omega
  intro w1 hown hg
  rw [toList_madeCells_one] at hown
  have O1 : Hid (OwnI w1 w.heap.size (.slice (some ⟨w.heap.size, 0, none⟩) n n) (part (higL n S) n 0)) := part_made hown
  have G1 : Hid (w.grownBy w1 (some gb)) := ⟨hg.os, hg.tape, hg.output, hg.size, fun k hk hne => hg.block k hk (by intro e; cases e)⟩
  have L1 := Lib.hid (HO.out.kept hg (Or.inr (by simp [Value.ownBlock])))
  clear hown hg
  go_wp2
  go_loopw [10] (fun i wr => ∃ (k : Nat) (g : List Lk), k ≤ n ∧ i = .int .i64 k ∧ Hid (Forest n g R S D) ∧ Hid (OwnLk wr B gb n g) ∧ Hid (OwnI wr w.heap.size (.slice (some ⟨w.heap.size, 0, none⟩) n n) (part (higL n S) n k)) ∧ Hid (w.grownBy wr (some gb))) (fun i _ => n - (intOf i).toNat)
  case atStart => exact ⟨0, g, by omega, rfl, HF, L1.out, O1.out, G1.out⟩
  case round =>
    obtain ⟨k, g1, hk, rfl, F1, L, O, G⟩ := hrel
    clear O1 G1 L1 HF HO
    have lo := (O.out.lt w.heap.size rfl).2
    have lg := (L.out.lt gb rfl).2
    by_cases hlt : k < n
    · have C1 := Lib.hid (CR.out k hlt g1 wr F1.out L.out)
      have s1 := HS.out k hlt
      have s2 := HS.out 0 (by omega)
      have qs : IntKind.i64.wrap (S k - S 0) = S k - S 0 := IntWalk.i64_in _ (by omega)
      go_wp2_with fail
      refine C1.out.mono ?_
      rintro e w2 ⟨g2, rfl, f2, l2, b2⟩
      have F2 := Lib.hid f2
      have L2 := Lib.hid l2
      have G2 : Hid (w.grownBy w2 (some gb)) := grownBy_trans' G.out b2
      have O2 := Lib.hid (O.out.kept b2 (Or.inr (by intro e; simp only [Value.ownBlock, Option.some.injEq] at e; omega)))
      have z2 := b2.size
      clear f2 l2 b2 C1 F1 L O G
      have C2 := Lib.hid (CR.out 0 (by omega) g2 w2 F2.out L2.out)
      go_wp2_with fail
      refine C2.out.mono ?_
      rintro e w3 ⟨g3, rfl, f3, l3, b3⟩
      have F3 := Lib.hid f3
      have L3 := Lib.hid l3
      have G3 : Hid (w.grownBy w3 (some gb)) := grownBy_trans' G2.out b3
      have O3 := Lib.hid (O2.out.kept b3 (Or.inr (by intro e; simp only [Value.ownBlock, Option.some.injEq] at e; omega)))
      clear f3 l3 b3 C2 F2 L2 O2 G2
      obtain ⟨c0, z0⟩ := part_cell (higL_len n S) hlt O3.out
      have O4 := Lib.hid (part_store (higL_len n S) (higL_get n S k hlt) O3.out)
      have L4 : Hid (OwnLk (w3.setCell ⟨w.heap.size, k, none⟩ (.int .i64 (S k - S 0))) B gb n g3) := L3.out.of_block fun j hj => by
        have : gb = j := by simpa [Value.ownBlock] using hj
        exact Below.heap_setCell _ _ _ _ (by show j ≠ w.heap.size; omega)
      have G4 : Hid (w.grownBy (w3.setCell ⟨w.heap.size, k, none⟩ (.int .i64 (S k - S 0))) (some gb)) :=
        ⟨G3.out.os, G3.out.tape, G3.out.output, by have := G3.out.size; simpa using this, fun j hj hne => by
          rw [Below.heap_setCell _ _ _ _ (by show j ≠ w.heap.size; omega)]
          exact G3.out.block j hj hne⟩
      clear O3 L3 G3 CR HS s1 s2
      go_wp2
      exact ⟨⟨k + 1, g3, by omega, by go_num, F3, L4, O4, G4⟩, by simp only [intOf]; omega⟩
    · obtain rfl : k = n := by omega
      have O5 := O.out
      rw [part_all (higL_len k S)] at O5
      have O6 := Lib.hid O5
      clear O5 O CR HS
      go_wp2
      go_ret
      exact ⟨_, g1, rfl, O6.out, F1.out, L.out, G.out⟩
end Go.Proofs.YtcmocilojloolaaDoor
