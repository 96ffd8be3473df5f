/- Groups of points: join, of the program. (Written by tools/mkjoin.py.) -/
import Derived.Test.YtcmocilojloolaaDoorTreeI
import Derived.Test.YtcmocilojloolaaDoorStoreLk
import Derived.Deep.RegionHeld3
namespace Go.Proofs.YtcmocilojloolaaDoor
open Go.ChangeShapes Go.WideShapes Go.ChangeAt Go.RowKit
set_option linter.unusedVariables false
set_option linter.unusedSimpArgs false

theorem box_ltT {w : World} {g : Nat} {o : Obj} (h : w.heap[g]? = some o) : g < w.heap.size := (Array.getElem?_eq_some_iff.1 h).1
theorem grown_drewT (w : World) (row : Option Nat) : w.grownBy w.drew row := ⟨rfl, rfl, rfl, Nat.le_refl _, fun _ _ _ => rfl⟩
theorem grown_belowT {a b c : World} {row : Option Nat} {N : Nat} (h : a.grownBy b row) (k : Below N b c) (hN : a.heap.size ≤ N) : a.grownBy c row :=
  ⟨k.os.trans h.os, k.tape.trans h.tape, k.output.trans h.output, Nat.le_trans h.size k.size, fun i hi hn => (k.block i (by omega)).trans (h.block i hi hn)⟩
theorem own_belowT {b c : World} {B gb n N : Nat} {g : List Lk} (h : OwnLk b B gb n g) (k : Below N b c) (hN : gb < N) : OwnLk c B gb n g := h.of_block fun j hj => by
  have : gb = j := by simpa [Value.ownBlock] using hj
  exact k.block j (by omega)
/-- A box of four cells. -/
theorem boxSt_four {w : World} {g : Nat} {x : St} (h : w.heap[g]? = some (.cells #[.int .i64 x.f, .int .i64 x.t, .int .i64 x.r, .int .i64 x.v] 32 (0, 0))) : w.cell? ⟨g, 0, none⟩ = some (.int .i64 x.f) ∧ w.cell? ⟨g, 1, none⟩ = some (.int .i64 x.t) ∧ w.cell? ⟨g, 2, none⟩ = some (.int .i64 x.r) ∧ w.cell? ⟨g, 3, none⟩ = some (.int .i64 x.v) :=
  ⟨cell_of_row w g 0 _ _ _ h, cell_of_row w g 1 _ _ _ h, cell_of_row w g 2 _ _ _ h, cell_of_row w g 3 _ _ _ h⟩

set_option maxRecDepth 100000 in
set_option maxHeartbeats 16000000 in
theorem join_any (n gb B : Nat) (R : Nat → Nat) (S : Nat → Int) (D : Nat → Nat) (hn : n ≤ 8) (f t : Nat) (r v : Int) (hr : -100 ≤ r ∧ r ≤ 100) (M : Int) (hM : M ≤ 1000000) (hS : ∀ q, q < n → -M ≤ S q ∧ S q ≤ M) (hf : f < n) (ht : t < n) (g : List Lk) (w : World) (hF : Forest n g R S D) (ho : OwnLk w B gb n g) (b : Bool) (hb : b = true ↔ R f ≠ R t) :
    Calls Tryd.prog 84 #[.slice (some ⟨gb, 0, none⟩) n n, .agg #[.int .i64 f, .int .i64 t, .int .i64 r, .int .i64 v]] w fun e w' => ∃ g' : List Lk, e = .returned (.bool b) ∧ (b = false → Forest n g' R S D) ∧ (b = true → Forest n g' (rJoin R f t) (sJoin R S f t r) (dJoin R D t)) ∧ OwnLk w' B gb n g' ∧ w.grownBy w' (some gb) := by
  have hgb := ho.lt gb rfl
  have CF := Lib.hid (fun g w hF ho => root_any n gb B R S D hn (fun q hq => by have := hS q hq; omega) (D f) f hf (Nat.le_refl _) g w hF ho)
  have CT := Lib.hid (fun g w hF ho => root_any n gb B R S D hn (fun q hq => by have := hS q hq; omega) (D t) t ht (Nat.le_refl _) g w hF ho)
  have FOR := Lib.hid hF
  have OW := Lib.hid ho
  have HB := Lib.hid hb
  have HS := Lib.hid hS
  have BXW : Hid ((w.alloc (.cells #[.int .i64 f, .int .i64 t, .int .i64 r, .int .i64 v] 32)).heap[w.heap.size]? = some (.cells #[.int .i64 f, .int .i64 t, .int .i64 r, .int .i64 v] 32 (0, 0))) := heap_alloc_new w _
  clear hF ho hb hS
  go_enter Tryd.func84, Tryd.ntmps84
  go_wp2_with fail
  have OWN : Hid (OwnLk (w.alloc (.cells #[.int .i64 f, .int .i64 t, .int .i64 r, .int .i64 v] 32)) B gb n g) := OW.out.alloc _
  have GW : Hid (w.grownBy (w.alloc (.cells #[.int .i64 f, .int .i64 t, .int .i64 r, .int .i64 v] 32)) (some gb)) := World.grownBy_alloc w _ _
  have zb : (w.alloc (.cells #[.int .i64 f, .int .i64 t, .int .i64 r, .int .i64 v] 32)).heap.size = w.heap.size + 1 := by simp
  obtain ⟨bx, hbx⟩ : ∃ bx, bx = w.heap.size := ⟨_, rfl⟩
  rw [← hbx] at BXW
  generalize w.alloc (.cells #[.int .i64 f, .int .i64 t, .int .i64 r, .int .i64 v] 32) = wb at *
  rw [← hbx]
  have gl : gb < wb.heap.size := by omega
  have bl : bx < wb.heap.size := by omega
  have bn : bx ≠ gb := by omega
  clear OW hbx zb
  have KS : Hid (∀ w', wb.grownBy w' (some gb) → (w'.cell? ⟨bx, 0, none⟩ = some (.int .i64 f) ∧ w'.cell? ⟨bx, 1, none⟩ = some (.int .i64 t) ∧ w'.cell? ⟨bx, 2, none⟩ = some (.int .i64 r) ∧ w'.cell? ⟨bx, 3, none⟩ = some (.int .i64 v))) := fun w' h => boxSt_four (x := ⟨f, t, r, v⟩) ((h.block bx bl (fun e => bn (Option.some.inj e))).trans BXW.out)

  go_wp2_with fail
  refine wp_region_held_drew (S := fun w' => (w'.cell? ⟨bx, 0, none⟩ = some (.int .i64 f) ∧ w'.cell? ⟨bx, 1, none⟩ = some (.int .i64 t) ∧ w'.cell? ⟨bx, 2, none⟩ = some (.int .i64 r) ∧ w'.cell? ⟨bx, 3, none⟩ = some (.int .i64 v))) (by kernel_rfl) (KS.out _ (grown_drewT _ _)) (fun hHeld => ?_)
  have D0 : Hid (wb.grownBy (World.drew wb) (some gb)) := grown_drewT _ _
  have O0 : Hid (OwnLk (World.drew wb) B gb n g) := OWN.out
  have F0 := FOR
  refine wpAnyH_take (i := 0) (v := ?_) (by (simp only [List.getElem?_toArray, List.getElem?_cons_succ, List.getElem?_cons_zero]); (try exact rfl)) (by kernel_rfl) (by kernel_rfl) (by kernel_rfl) (by intro _ _ _ h; exact h) (Or.inl ⟨by rfl, ?_⟩) (by assumption) ?_
  rotate_left
  · intro w hSw
    try dsimp only at hSw
    go_simp
    try with_reducible rfl
  try simp only [Act.put, List.setIfInBounds_toArray, List.set_cons_zero, List.set_cons_succ]
  refine wpAnyH_take (i := 1) (v := ?_) (by (simp only [List.getElem?_toArray, List.getElem?_cons_succ, List.getElem?_cons_zero]); (try exact rfl)) (by kernel_rfl) (by kernel_rfl) (by kernel_rfl) (by intro _ _ _ h; exact h) (Or.inl ⟨by rfl, ?_⟩) (by assumption) ?_
  rotate_left
  · intro w hSw
    try dsimp only at hSw
    go_simp
    try with_reducible rfl
  try simp only [Act.put, List.setIfInBounds_toArray, List.set_cons_zero, List.set_cons_succ]
  refine wpAnyH_take (i := 2) (v := ?_) (by (simp only [List.getElem?_toArray, List.getElem?_cons_succ, List.getElem?_cons_zero]); (try exact rfl)) (by kernel_rfl) (by kernel_rfl) (by kernel_rfl) (by intro _ _ _ h; exact h) (Or.inl ⟨by rfl, ?_⟩) (by assumption) ?_
  rotate_left
  · intro w hSw
    try dsimp only at hSw
    go_simp
    try with_reducible rfl
  try simp only [Act.put, List.setIfInBounds_toArray, List.set_cons_zero, List.set_cons_succ]
  refine wpAnyH_take (i := 4) (v := ?_) (by (simp only [List.getElem?_toArray, List.getElem?_cons_succ, List.getElem?_cons_zero]); (try exact rfl)) (by kernel_rfl) (by kernel_rfl) (by kernel_rfl) (by intro _ _ _ h; exact h) (Or.inl ⟨by rfl, ?_⟩) (by assumption) ?_
  rotate_left
  · intro w hSw
    try dsimp only at hSw
    go_simp
    try with_reducible rfl
  try simp only [Act.put, List.setIfInBounds_toArray, List.set_cons_zero, List.set_cons_succ]
  refine wpAnyH_take (i := 5) (v := ?_) (by (simp only [List.getElem?_toArray, List.getElem?_cons_succ, List.getElem?_cons_zero]); (try exact rfl)) (by kernel_rfl) (by kernel_rfl) (by kernel_rfl) (by intro _ _ _ h; exact h) (Or.inl ⟨by rfl, ?_⟩) (by assumption) ?_
  rotate_left
  · intro w hSw
    try dsimp only at hSw
    go_simp
    try with_reducible rfl
  try simp only [Act.put, List.setIfInBounds_toArray, List.set_cons_zero, List.set_cons_succ]
  refine wpAnyH_take (i := 6) (v := ?_) (by (simp only [List.getElem?_toArray, List.getElem?_cons_succ, List.getElem?_cons_zero]); (try exact rfl)) (by kernel_rfl) (by kernel_rfl) (by kernel_rfl) (by intro _ _ _ h; exact h) (Or.inl ⟨by rfl, ?_⟩) (by assumption) ?_
  rotate_left
  · intro w hSw
    try dsimp only at hSw
    go_simp
    try with_reducible rfl
  try simp only [Act.put, List.setIfInBounds_toArray, List.set_cons_zero, List.set_cons_succ]
  refine wpAnyH_ready (rs := [3, 8, 9]) (by kernel_rfl) (by simp) ?_
  refine (AllReadyH.cons (by (simp only [List.getElem?_toArray, List.getElem?_cons_succ, List.getElem?_cons_zero]); (try exact rfl)) (fun K hK => ?_) (AllReadyH.cons (by (simp only [List.getElem?_toArray, List.getElem?_cons_succ, List.getElem?_cons_zero]); (try exact rfl)) (fun K hK => ?_) (AllReadyH.cons (by (simp only [List.getElem?_toArray, List.getElem?_cons_succ, List.getElem?_cons_zero]); (try exact rfl)) (fun K hK => ?_) AllReadyH.nil)))
  go_simp
  go_at_call 85
  refine (CF.out g _ F0.out O0.out).mono ?_
  rintro e u_1 ⟨gu_1, rfl, hF5, ho5, bb⟩
  have Fu_1 := Lib.hid hF5
  have Ou_1 := Lib.hid ho5
  clear hF5 ho5
  have Du_1 : Hid (wb.grownBy u_1 (some gb)) := grownBy_trans' D0.out bb
  clear bb
  (first | refine hK.out _ _ ?_ (fun hHeld => ?_) | (go_wp2_with fail; refine hK.out _ _ ?_ (fun hHeld => ?_)))
  · try dsimp only
    exact KS.out _ Du_1.out
  clear hK K
  try simp only [Act.put, List.setIfInBounds_toArray, List.set_cons_zero, List.set_cons_succ]
  refine wpAnyH_ready (rs := [7, 8, 9]) (by kernel_rfl) (by simp) ?_
  refine (AllReadyH.cons (by (simp only [List.getElem?_toArray, List.getElem?_cons_succ, List.getElem?_cons_zero]); (try exact rfl)) (fun K hK => ?_) (AllReadyH.cons (by (simp only [List.getElem?_toArray, List.getElem?_cons_succ, List.getElem?_cons_zero]); (try exact rfl)) (fun K hK => ?_) (AllReadyH.cons (by (simp only [List.getElem?_toArray, List.getElem?_cons_succ, List.getElem?_cons_zero]); (try exact rfl)) (fun K hK => ?_) AllReadyH.nil)))
  go_simp
  go_at_call 85
  refine (CT.out gu_1 _ Fu_1.out Ou_1.out).mono ?_
  rintro e u_2 ⟨gu_2, rfl, hF5, ho5, bb⟩
  have Fu_2 := Lib.hid hF5
  have Ou_2 := Lib.hid ho5
  clear hF5 ho5
  have Du_2 : Hid (wb.grownBy u_2 (some gb)) := grownBy_trans' Du_1.out bb
  clear bb
  (first | refine hK.out _ _ ?_ (fun hHeld => ?_) | (go_wp2_with fail; refine hK.out _ _ ?_ (fun hHeld => ?_)))
  · try dsimp only
    exact KS.out _ Du_2.out
  clear hK K
  try simp only [Act.put, List.setIfInBounds_toArray, List.set_cons_zero, List.set_cons_succ]
  refine wpAnyH_ready (rs := [8, 9]) (by kernel_rfl) (by simp) ?_
  refine (AllReadyH.cons (by (simp only [List.getElem?_toArray, List.getElem?_cons_succ, List.getElem?_cons_zero]); (try exact rfl)) (fun K hK => ?_) (AllReadyH.cons (by (simp only [List.getElem?_toArray, List.getElem?_cons_succ, List.getElem?_cons_zero]); (try exact rfl)) (fun K hK => ?_) AllReadyH.nil))
  go_simp
  generalize hA : World.alloc u_2 (.cells #[.int .i64 0, .int .i64 0] 110) = a_3
  obtain ⟨pf, hp⟩ : ∃ p, p = u_2.heap.size := ⟨_, rfl⟩
  have ba : u_2.grownBy a_3 (some gb) := by rw [← hA]; exact World.grownBy_alloc u_2 _ _
  have Zfa_3 := Lib.hid (show a_3.heap[pf]? = some (.cells #[.int .i64 0, .int .i64 0] 110 (0, 0)) from by rw [← hA, hp]; exact heap_alloc_new _ _)
  have tpf : wb.heap.size ≤ pf := by rw [hp]; exact Du_2.out.size
  have Oa_3 := Lib.hid (show OwnLk a_3 B gb n gu_2 from by rw [← hA]; exact OwnS.alloc Ou_2.out _)
  have Fa_3 := Fu_2
  have Da_3 : Hid (wb.grownBy a_3 (some gb)) := grownBy_trans' Du_2.out ba
  rw [← hp]
  clear hA hp ba
  refine hK.out _ _ ?_ (fun hHeld => ?_)
  · try dsimp only
    exact KS.out _ Da_3.out
  clear hK K
  try simp only [Act.put, List.setIfInBounds_toArray, List.set_cons_zero, List.set_cons_succ]
  refine wpAnyH_ready (rs := [9]) (by kernel_rfl) (by simp) ?_
  refine (AllReadyH.cons (by (simp only [List.getElem?_toArray, List.getElem?_cons_succ, List.getElem?_cons_zero]); (try exact rfl)) (fun K hK => ?_) AllReadyH.nil)
  go_simp
  generalize hA : World.alloc a_3 (.cells #[.int .i64 0, .int .i64 0] 110) = a_4
  obtain ⟨pt, hp⟩ : ∃ p, p = a_3.heap.size := ⟨_, rfl⟩
  have ba : a_3.grownBy a_4 (some gb) := by rw [← hA]; exact World.grownBy_alloc a_3 _ _
  have Zta_4 := Lib.hid (show a_4.heap[pt]? = some (.cells #[.int .i64 0, .int .i64 0] 110 (0, 0)) from by rw [← hA, hp]; exact heap_alloc_new _ _)
  have tpt : wb.heap.size ≤ pt := by rw [hp]; exact Da_3.out.size
  have Oa_4 := Lib.hid (show OwnLk a_4 B gb n gu_2 from by rw [← hA]; exact OwnS.alloc Oa_3.out _)
  have Fa_4 := Fa_3
  have nf_t : pf ≠ pt := by have hh := box_ltT Zfa_3.out; rw [hp]; intro e; rw [e] at hh; exact Nat.lt_irrefl _ hh
  have Da_4 : Hid (wb.grownBy a_4 (some gb)) := grownBy_trans' Da_3.out ba
  have Zfa_4 := Lib.hid ((ba.block pf (box_ltT Zfa_3.out) (fun e => by have e := Option.some.inj e; omega)).trans Zfa_3.out)
  rw [← hp]
  clear hA hp ba
  refine hK.out _ _ ?_ (fun hHeld => ?_)
  · try dsimp only
    exact KS.out _ Da_4.out
  clear hK K
  try simp only [Act.put, List.setIfInBounds_toArray, List.set_cons_zero, List.set_cons_succ]
  refine wpAnyH_ready (rs := [10]) (by kernel_rfl) (by simp) ?_
  refine AllReadyH.cons (by (simp only [List.getElem?_toArray, List.getElem?_cons_succ, List.getElem?_cons_zero]); (try exact rfl)) (fun K hK => ?_) AllReadyH.nil
  refine step_store_Lk rfl _ _ rfl pf ⟨0, 0⟩ ⟨(R f : Nat), S f⟩ _ rfl rfl Zfa_4.out ?_
  intro e_5 hE oE bE
  have De_5 : Hid (wb.grownBy e_5 (some gb)) := grown_belowT Da_4.out bE tpf
  have Zfe_5 := Lib.hid hE
  have Oe_5 := Lib.hid (own_belowT Oa_4.out bE (by omega))
  have Fe_5 := Fa_4
  have Zte_5 := Lib.hid ((oE pt (by first | assumption | exact Ne.symm (by assumption))).trans Zta_4.out)
  clear hE oE bE
  refine hK.out _ _ ?_ (fun hHeld => ?_)
  · try dsimp only
    exact KS.out _ De_5.out
  clear hK K
  try simp only [Act.put, List.setIfInBounds_toArray, List.set_cons_zero, List.set_cons_succ]
  refine wpAnyH_ready (rs := [11]) (by kernel_rfl) (by simp) ?_
  refine AllReadyH.cons (by (simp only [List.getElem?_toArray, List.getElem?_cons_succ, List.getElem?_cons_zero]); (try exact rfl)) (fun K hK => ?_) AllReadyH.nil
  refine step_store_Lk rfl _ _ rfl pt ⟨0, 0⟩ ⟨(R t : Nat), S t⟩ _ rfl rfl Zte_5.out ?_
  intro e_6 hE oE bE
  have De_6 : Hid (wb.grownBy e_6 (some gb)) := grown_belowT De_5.out bE tpt
  have Zte_6 := Lib.hid hE
  have Oe_6 := Lib.hid (own_belowT Oe_5.out bE (by omega))
  have Fe_6 := Fe_5
  have Zfe_6 := Lib.hid ((oE pf (by first | assumption | exact Ne.symm (by assumption))).trans Zfe_5.out)
  clear hE oE bE
  refine hK.out _ _ ?_ (fun hHeld => ?_)
  · try dsimp only
    exact KS.out _ De_6.out
  clear hK K
  try simp only [Act.put, List.setIfInBounds_toArray, List.set_cons_zero, List.set_cons_succ]
  refine wpAnyH_done (by kernel_rfl) ?_ _
  obtain ⟨⟨a0, a1⟩, -, -⟩ := boxed2_at Zfe_6.out
  obtain ⟨⟨b0, b1⟩, -, -⟩ := boxed2_at Zte_6.out
  obtain ⟨q0, q1, q2, q3⟩ := KS.out _ De_6.out
  have GZ : Hid (w.grownBy e_6 (some gb)) := grownBy_trans' GW.out De_6.out
  clear hHeld
  by_cases e : R f = R t
  · obtain rfl : b = false := by
      cases b
      · rfl
      · exact absurd e (HB.out.mp rfl)
    have e1 : (((R f : Nat) : Int) == ((R t : Nat) : Int)) = true := by simp [e]
    have e2 : ((R f : Nat) == R t) = true := by simp [e]
    clear HB HS e KS
    go_wp2
    go_ret
    first | exact ⟨gu_2, rfl, fun _ => Fe_6.out, fun h => (by cases h), Oe_6.out, GZ.out⟩ | exact ⟨rfl, gu_2, Fe_6.out, Oe_6.out, GZ.out⟩
  · obtain rfl : b = true := HB.out.mpr e
    have e1 : (((R f : Nat) : Int) == ((R t : Nat) : Int)) = false := by simp; omega
    have e2 : ((R f : Nat) == R t) = false := by simp [e]
    have sf := HS.out f hf
    have st := HS.out t ht
    have w1 : IntKind.i64.wrap (S f + r) = S f + r := IntWalk.i64_in _ (by omega)
    have w2 : IntKind.i64.wrap (S f + r - S t) = S f + r - S t := IntWalk.i64_in _ (by omega)
    have lt := Fe_6.out.lt t ht
    obtain ⟨-, -, hx⟩ := Fe_6.out.zero (R t) lt (Fe_6.out.idem t ht)
    obtain ⟨⟨d0, d1⟩, ⟨h0, h1⟩, -, lg⟩ := Oe_6.out.at Fe_6.out.len (R t) _ hx
    have HE := Lib.hid e
    have HP := Lib.hid (Oe_6.out.put Fe_6.out.len (R t) _ ⟨(R f : Nat), S f + r - S t⟩ hx)
    have HJ := Lib.hid (Fe_6.out.join r hf ht e)
    have GE : Hid (w.grownBy ((e_6.setCell ⟨gb, R t * 2, none⟩ (.int .i64 (R f : Nat))).setCell ⟨gb, R t * 2 + 1, none⟩ (.int .i64 (S f + r - S t))) (some gb)) := grownBy_trans' (grownBy_trans' GZ.out (grownBy_setCell' _ _ _)) (grownBy_setCell' _ _ _)
    clear HB HS e hx KS sf st
    go_wp2
    go_ret
    first | exact ⟨_, rfl, fun h => (by cases h), fun _ => HJ.out, HP.out, GE.out⟩ | exact ⟨rfl, _, HJ.out, HP.out, GE.out⟩
  go_simp
  generalize hA : World.alloc u_2 (.cells #[.int .i64 0, .int .i64 0] 110) = a_7
  obtain ⟨pt, hp⟩ : ∃ p, p = u_2.heap.size := ⟨_, rfl⟩
  have ba : u_2.grownBy a_7 (some gb) := by rw [← hA]; exact World.grownBy_alloc u_2 _ _
  have Zta_7 := Lib.hid (show a_7.heap[pt]? = some (.cells #[.int .i64 0, .int .i64 0] 110 (0, 0)) from by rw [← hA, hp]; exact heap_alloc_new _ _)
  have tpt : wb.heap.size ≤ pt := by rw [hp]; exact Du_2.out.size
  have Oa_7 := Lib.hid (show OwnLk a_7 B gb n gu_2 from by rw [← hA]; exact OwnS.alloc Ou_2.out _)
  have Fa_7 := Fu_2
  have Da_7 : Hid (wb.grownBy a_7 (some gb)) := grownBy_trans' Du_2.out ba
  rw [← hp]
  clear hA hp ba
  refine hK.out _ _ ?_ (fun hHeld => ?_)
  · try dsimp only
    exact KS.out _ Da_7.out
  clear hK K
  try simp only [Act.put, List.setIfInBounds_toArray, List.set_cons_zero, List.set_cons_succ]
  refine wpAnyH_ready (rs := [8]) (by kernel_rfl) (by simp) ?_
  refine (AllReadyH.cons (by (simp only [List.getElem?_toArray, List.getElem?_cons_succ, List.getElem?_cons_zero]); (try exact rfl)) (fun K hK => ?_) AllReadyH.nil)
  go_simp
  generalize hA : World.alloc a_7 (.cells #[.int .i64 0, .int .i64 0] 110) = a_8
  obtain ⟨pf, hp⟩ : ∃ p, p = a_7.heap.size := ⟨_, rfl⟩
  have ba : a_7.grownBy a_8 (some gb) := by rw [← hA]; exact World.grownBy_alloc a_7 _ _
  have Zfa_8 := Lib.hid (show a_8.heap[pf]? = some (.cells #[.int .i64 0, .int .i64 0] 110 (0, 0)) from by rw [← hA, hp]; exact heap_alloc_new _ _)
  have tpf : wb.heap.size ≤ pf := by rw [hp]; exact Da_7.out.size
  have Oa_8 := Lib.hid (show OwnLk a_8 B gb n gu_2 from by rw [← hA]; exact OwnS.alloc Oa_7.out _)
  have Fa_8 := Fa_7
  have nt_f : pt ≠ pf := by have hh := box_ltT Zta_7.out; rw [hp]; intro e; rw [e] at hh; exact Nat.lt_irrefl _ hh
  have Da_8 : Hid (wb.grownBy a_8 (some gb)) := grownBy_trans' Da_7.out ba
  have Zta_8 := Lib.hid ((ba.block pt (box_ltT Zta_7.out) (fun e => by have e := Option.some.inj e; omega)).trans Zta_7.out)
  rw [← hp]
  clear hA hp ba
  refine hK.out _ _ ?_ (fun hHeld => ?_)
  · try dsimp only
    exact KS.out _ Da_8.out
  clear hK K
  try simp only [Act.put, List.setIfInBounds_toArray, List.set_cons_zero, List.set_cons_succ]
  refine wpAnyH_ready (rs := [10]) (by kernel_rfl) (by simp) ?_
  refine AllReadyH.cons (by (simp only [List.getElem?_toArray, List.getElem?_cons_succ, List.getElem?_cons_zero]); (try exact rfl)) (fun K hK => ?_) AllReadyH.nil
  refine step_store_Lk rfl _ _ rfl pf ⟨0, 0⟩ ⟨(R f : Nat), S f⟩ _ rfl rfl Zfa_8.out ?_
  intro e_9 hE oE bE
  have De_9 : Hid (wb.grownBy e_9 (some gb)) := grown_belowT Da_8.out bE tpf
  have Zfe_9 := Lib.hid hE
  have Oe_9 := Lib.hid (own_belowT Oa_8.out bE (by omega))
  have Fe_9 := Fa_8
  have Zte_9 := Lib.hid ((oE pt (by first | assumption | exact Ne.symm (by assumption))).trans Zta_8.out)
  clear hE oE bE
  refine hK.out _ _ ?_ (fun hHeld => ?_)
  · try dsimp only
    exact KS.out _ De_9.out
  clear hK K
  try simp only [Act.put, List.setIfInBounds_toArray, List.set_cons_zero, List.set_cons_succ]
  refine wpAnyH_ready (rs := [11]) (by kernel_rfl) (by simp) ?_
  refine AllReadyH.cons (by (simp only [List.getElem?_toArray, List.getElem?_cons_succ, List.getElem?_cons_zero]); (try exact rfl)) (fun K hK => ?_) AllReadyH.nil
  refine step_store_Lk rfl _ _ rfl pt ⟨0, 0⟩ ⟨(R t : Nat), S t⟩ _ rfl rfl Zte_9.out ?_
  intro e_10 hE oE bE
  have De_10 : Hid (wb.grownBy e_10 (some gb)) := grown_belowT De_9.out bE tpt
  have Zte_10 := Lib.hid hE
  have Oe_10 := Lib.hid (own_belowT Oe_9.out bE (by omega))
  have Fe_10 := Fe_9
  have Zfe_10 := Lib.hid ((oE pf (by first | assumption | exact Ne.symm (by assumption))).trans Zfe_9.out)
  clear hE oE bE
  refine hK.out _ _ ?_ (fun hHeld => ?_)
  · try dsimp only
    exact KS.out _ De_10.out
  clear hK K
  try simp only [Act.put, List.setIfInBounds_toArray, List.set_cons_zero, List.set_cons_succ]
  refine wpAnyH_done (by kernel_rfl) ?_ _
  obtain ⟨⟨a0, a1⟩, -, -⟩ := boxed2_at Zfe_10.out
  obtain ⟨⟨b0, b1⟩, -, -⟩ := boxed2_at Zte_10.out
  obtain ⟨q0, q1, q2, q3⟩ := KS.out _ De_10.out
  have GZ : Hid (w.grownBy e_10 (some gb)) := grownBy_trans' GW.out De_10.out
  clear hHeld
  by_cases e : R f = R t
  · obtain rfl : b = false := by
      cases b
      · rfl
      · exact absurd e (HB.out.mp rfl)
    have e1 : (((R f : Nat) : Int) == ((R t : Nat) : Int)) = true := by simp [e]
    have e2 : ((R f : Nat) == R t) = true := by simp [e]
    clear HB HS e KS
    go_wp2
    go_ret
    first | exact ⟨gu_2, rfl, fun _ => Fe_10.out, fun h => (by cases h), Oe_10.out, GZ.out⟩ | exact ⟨rfl, gu_2, Fe_10.out, Oe_10.out, GZ.out⟩
  · obtain rfl : b = true := HB.out.mpr e
    have e1 : (((R f : Nat) : Int) == ((R t : Nat) : Int)) = false := by simp; omega
    have e2 : ((R f : Nat) == R t) = false := by simp [e]
    have sf := HS.out f hf
    have st := HS.out t ht
    have w1 : IntKind.i64.wrap (S f + r) = S f + r := IntWalk.i64_in _ (by omega)
    have w2 : IntKind.i64.wrap (S f + r - S t) = S f + r - S t := IntWalk.i64_in _ (by omega)
    have lt := Fe_10.out.lt t ht
    obtain ⟨-, -, hx⟩ := Fe_10.out.zero (R t) lt (Fe_10.out.idem t ht)
    obtain ⟨⟨d0, d1⟩, ⟨h0, h1⟩, -, lg⟩ := Oe_10.out.at Fe_10.out.len (R t) _ hx
    have HE := Lib.hid e
    have HP := Lib.hid (Oe_10.out.put Fe_10.out.len (R t) _ ⟨(R f : Nat), S f + r - S t⟩ hx)
    have HJ := Lib.hid (Fe_10.out.join r hf ht e)
    have GE : Hid (w.grownBy ((e_10.setCell ⟨gb, R t * 2, none⟩ (.int .i64 (R f : Nat))).setCell ⟨gb, R t * 2 + 1, none⟩ (.int .i64 (S f + r - S t))) (some gb)) := grownBy_trans' (grownBy_trans' GZ.out (grownBy_setCell' _ _ _)) (grownBy_setCell' _ _ _)
    clear HB HS e hx KS sf st
    go_wp2
    go_ret
    first | exact ⟨_, rfl, fun h => (by cases h), fun _ => HJ.out, HP.out, GE.out⟩ | exact ⟨rfl, _, HJ.out, HP.out, GE.out⟩
  go_simp
  generalize hA : World.alloc u_1 (.cells #[.int .i64 0, .int .i64 0] 110) = a_11
  obtain ⟨pf, hp⟩ : ∃ p, p = u_1.heap.size := ⟨_, rfl⟩
  have ba : u_1.grownBy a_11 (some gb) := by rw [← hA]; exact World.grownBy_alloc u_1 _ _
  have Zfa_11 := Lib.hid (show a_11.heap[pf]? = some (.cells #[.int .i64 0, .int .i64 0] 110 (0, 0)) from by rw [← hA, hp]; exact heap_alloc_new _ _)
  have tpf : wb.heap.size ≤ pf := by rw [hp]; exact Du_1.out.size
  have Oa_11 := Lib.hid (show OwnLk a_11 B gb n gu_1 from by rw [← hA]; exact OwnS.alloc Ou_1.out _)
  have Fa_11 := Fu_1
  have Da_11 : Hid (wb.grownBy a_11 (some gb)) := grownBy_trans' Du_1.out ba
  rw [← hp]
  clear hA hp ba
  refine hK.out _ _ ?_ (fun hHeld => ?_)
  · try dsimp only
    exact KS.out _ Da_11.out
  clear hK K
  try simp only [Act.put, List.setIfInBounds_toArray, List.set_cons_zero, List.set_cons_succ]
  refine wpAnyH_ready (rs := [7, 9]) (by kernel_rfl) (by simp) ?_
  refine (AllReadyH.cons (by (simp only [List.getElem?_toArray, List.getElem?_cons_succ, List.getElem?_cons_zero]); (try exact rfl)) (fun K hK => ?_) (AllReadyH.cons (by (simp only [List.getElem?_toArray, List.getElem?_cons_succ, List.getElem?_cons_zero]); (try exact rfl)) (fun K hK => ?_) AllReadyH.nil))
  go_simp
  go_at_call 85
  refine (CT.out gu_1 _ Fa_11.out Oa_11.out).mono ?_
  rintro e u_12 ⟨gu_12, rfl, hF5, ho5, bb⟩
  have Fu_12 := Lib.hid hF5
  have Ou_12 := Lib.hid ho5
  clear hF5 ho5
  have Du_12 : Hid (wb.grownBy u_12 (some gb)) := grownBy_trans' Da_11.out bb
  have Zfu_12 := Lib.hid ((bb.block pf (box_ltT Zfa_11.out) (fun e => by have e := Option.some.inj e; omega)).trans Zfa_11.out)
  clear bb
  (first | refine hK.out _ _ ?_ (fun hHeld => ?_) | (go_wp2_with fail; refine hK.out _ _ ?_ (fun hHeld => ?_)))
  · try dsimp only
    exact KS.out _ Du_12.out
  clear hK K
  try simp only [Act.put, List.setIfInBounds_toArray, List.set_cons_zero, List.set_cons_succ]
  refine wpAnyH_ready (rs := [9]) (by kernel_rfl) (by simp) ?_
  refine (AllReadyH.cons (by (simp only [List.getElem?_toArray, List.getElem?_cons_succ, List.getElem?_cons_zero]); (try exact rfl)) (fun K hK => ?_) AllReadyH.nil)
  go_simp
  generalize hA : World.alloc u_12 (.cells #[.int .i64 0, .int .i64 0] 110) = a_13
  obtain ⟨pt, hp⟩ : ∃ p, p = u_12.heap.size := ⟨_, rfl⟩
  have ba : u_12.grownBy a_13 (some gb) := by rw [← hA]; exact World.grownBy_alloc u_12 _ _
  have Zta_13 := Lib.hid (show a_13.heap[pt]? = some (.cells #[.int .i64 0, .int .i64 0] 110 (0, 0)) from by rw [← hA, hp]; exact heap_alloc_new _ _)
  have tpt : wb.heap.size ≤ pt := by rw [hp]; exact Du_12.out.size
  have Oa_13 := Lib.hid (show OwnLk a_13 B gb n gu_12 from by rw [← hA]; exact OwnS.alloc Ou_12.out _)
  have Fa_13 := Fu_12
  have nf_t : pf ≠ pt := by have hh := box_ltT Zfu_12.out; rw [hp]; intro e; rw [e] at hh; exact Nat.lt_irrefl _ hh
  have Da_13 : Hid (wb.grownBy a_13 (some gb)) := grownBy_trans' Du_12.out ba
  have Zfa_13 := Lib.hid ((ba.block pf (box_ltT Zfu_12.out) (fun e => by have e := Option.some.inj e; omega)).trans Zfu_12.out)
  rw [← hp]
  clear hA hp ba
  refine hK.out _ _ ?_ (fun hHeld => ?_)
  · try dsimp only
    exact KS.out _ Da_13.out
  clear hK K
  try simp only [Act.put, List.setIfInBounds_toArray, List.set_cons_zero, List.set_cons_succ]
  refine wpAnyH_ready (rs := [10]) (by kernel_rfl) (by simp) ?_
  refine AllReadyH.cons (by (simp only [List.getElem?_toArray, List.getElem?_cons_succ, List.getElem?_cons_zero]); (try exact rfl)) (fun K hK => ?_) AllReadyH.nil
  refine step_store_Lk rfl _ _ rfl pf ⟨0, 0⟩ ⟨(R f : Nat), S f⟩ _ rfl rfl Zfa_13.out ?_
  intro e_14 hE oE bE
  have De_14 : Hid (wb.grownBy e_14 (some gb)) := grown_belowT Da_13.out bE tpf
  have Zfe_14 := Lib.hid hE
  have Oe_14 := Lib.hid (own_belowT Oa_13.out bE (by omega))
  have Fe_14 := Fa_13
  have Zte_14 := Lib.hid ((oE pt (by first | assumption | exact Ne.symm (by assumption))).trans Zta_13.out)
  clear hE oE bE
  refine hK.out _ _ ?_ (fun hHeld => ?_)
  · try dsimp only
    exact KS.out _ De_14.out
  clear hK K
  try simp only [Act.put, List.setIfInBounds_toArray, List.set_cons_zero, List.set_cons_succ]
  refine wpAnyH_ready (rs := [11]) (by kernel_rfl) (by simp) ?_
  refine AllReadyH.cons (by (simp only [List.getElem?_toArray, List.getElem?_cons_succ, List.getElem?_cons_zero]); (try exact rfl)) (fun K hK => ?_) AllReadyH.nil
  refine step_store_Lk rfl _ _ rfl pt ⟨0, 0⟩ ⟨(R t : Nat), S t⟩ _ rfl rfl Zte_14.out ?_
  intro e_15 hE oE bE
  have De_15 : Hid (wb.grownBy e_15 (some gb)) := grown_belowT De_14.out bE tpt
  have Zte_15 := Lib.hid hE
  have Oe_15 := Lib.hid (own_belowT Oe_14.out bE (by omega))
  have Fe_15 := Fe_14
  have Zfe_15 := Lib.hid ((oE pf (by first | assumption | exact Ne.symm (by assumption))).trans Zfe_14.out)
  clear hE oE bE
  refine hK.out _ _ ?_ (fun hHeld => ?_)
  · try dsimp only
    exact KS.out _ De_15.out
  clear hK K
  try simp only [Act.put, List.setIfInBounds_toArray, List.set_cons_zero, List.set_cons_succ]
  refine wpAnyH_done (by kernel_rfl) ?_ _
  obtain ⟨⟨a0, a1⟩, -, -⟩ := boxed2_at Zfe_15.out
  obtain ⟨⟨b0, b1⟩, -, -⟩ := boxed2_at Zte_15.out
  obtain ⟨q0, q1, q2, q3⟩ := KS.out _ De_15.out
  have GZ : Hid (w.grownBy e_15 (some gb)) := grownBy_trans' GW.out De_15.out
  clear hHeld
  by_cases e : R f = R t
  · obtain rfl : b = false := by
      cases b
      · rfl
      · exact absurd e (HB.out.mp rfl)
    have e1 : (((R f : Nat) : Int) == ((R t : Nat) : Int)) = true := by simp [e]
    have e2 : ((R f : Nat) == R t) = true := by simp [e]
    clear HB HS e KS
    go_wp2
    go_ret
    first | exact ⟨gu_12, rfl, fun _ => Fe_15.out, fun h => (by cases h), Oe_15.out, GZ.out⟩ | exact ⟨rfl, gu_12, Fe_15.out, Oe_15.out, GZ.out⟩
  · obtain rfl : b = true := HB.out.mpr e
    have e1 : (((R f : Nat) : Int) == ((R t : Nat) : Int)) = false := by simp; omega
    have e2 : ((R f : Nat) == R t) = false := by simp [e]
    have sf := HS.out f hf
    have st := HS.out t ht
    have w1 : IntKind.i64.wrap (S f + r) = S f + r := IntWalk.i64_in _ (by omega)
    have w2 : IntKind.i64.wrap (S f + r - S t) = S f + r - S t := IntWalk.i64_in _ (by omega)
    have lt := Fe_15.out.lt t ht
    obtain ⟨-, -, hx⟩ := Fe_15.out.zero (R t) lt (Fe_15.out.idem t ht)
    obtain ⟨⟨d0, d1⟩, ⟨h0, h1⟩, -, lg⟩ := Oe_15.out.at Fe_15.out.len (R t) _ hx
    have HE := Lib.hid e
    have HP := Lib.hid (Oe_15.out.put Fe_15.out.len (R t) _ ⟨(R f : Nat), S f + r - S t⟩ hx)
    have HJ := Lib.hid (Fe_15.out.join r hf ht e)
    have GE : Hid (w.grownBy ((e_15.setCell ⟨gb, R t * 2, none⟩ (.int .i64 (R f : Nat))).setCell ⟨gb, R t * 2 + 1, none⟩ (.int .i64 (S f + r - S t))) (some gb)) := grownBy_trans' (grownBy_trans' GZ.out (grownBy_setCell' _ _ _)) (grownBy_setCell' _ _ _)
    clear HB HS e hx KS sf st
    go_wp2
    go_ret
    first | exact ⟨_, rfl, fun h => (by cases h), fun _ => HJ.out, HP.out, GE.out⟩ | exact ⟨rfl, _, HJ.out, HP.out, GE.out⟩
  go_simp
  generalize hA : World.alloc a_11 (.cells #[.int .i64 0, .int .i64 0] 110) = a_16
  obtain ⟨pt, hp⟩ : ∃ p, p = a_11.heap.size := ⟨_, rfl⟩
  have ba : a_11.grownBy a_16 (some gb) := by rw [← hA]; exact World.grownBy_alloc a_11 _ _
  have Zta_16 := Lib.hid (show a_16.heap[pt]? = some (.cells #[.int .i64 0, .int .i64 0] 110 (0, 0)) from by rw [← hA, hp]; exact heap_alloc_new _ _)
  have tpt : wb.heap.size ≤ pt := by rw [hp]; exact Da_11.out.size
  have Oa_16 := Lib.hid (show OwnLk a_16 B gb n gu_1 from by rw [← hA]; exact OwnS.alloc Oa_11.out _)
  have Fa_16 := Fa_11
  have nf_t : pf ≠ pt := by have hh := box_ltT Zfa_11.out; rw [hp]; intro e; rw [e] at hh; exact Nat.lt_irrefl _ hh
  have Da_16 : Hid (wb.grownBy a_16 (some gb)) := grownBy_trans' Da_11.out ba
  have Zfa_16 := Lib.hid ((ba.block pf (box_ltT Zfa_11.out) (fun e => by have e := Option.some.inj e; omega)).trans Zfa_11.out)
  rw [← hp]
  clear hA hp ba
  refine hK.out _ _ ?_ (fun hHeld => ?_)
  · try dsimp only
    exact KS.out _ Da_16.out
  clear hK K
  try simp only [Act.put, List.setIfInBounds_toArray, List.set_cons_zero, List.set_cons_succ]
  refine wpAnyH_ready (rs := [7]) (by kernel_rfl) (by simp) ?_
  refine (AllReadyH.cons (by (simp only [List.getElem?_toArray, List.getElem?_cons_succ, List.getElem?_cons_zero]); (try exact rfl)) (fun K hK => ?_) AllReadyH.nil)
  go_simp
  go_at_call 85
  refine (CT.out gu_1 _ Fa_16.out Oa_16.out).mono ?_
  rintro e u_17 ⟨gu_17, rfl, hF5, ho5, bb⟩
  have Fu_17 := Lib.hid hF5
  have Ou_17 := Lib.hid ho5
  clear hF5 ho5
  have Du_17 : Hid (wb.grownBy u_17 (some gb)) := grownBy_trans' Da_16.out bb
  have Zfu_17 := Lib.hid ((bb.block pf (box_ltT Zfa_16.out) (fun e => by have e := Option.some.inj e; omega)).trans Zfa_16.out)
  have Ztu_17 := Lib.hid ((bb.block pt (box_ltT Zta_16.out) (fun e => by have e := Option.some.inj e; omega)).trans Zta_16.out)
  clear bb
  (first | refine hK.out _ _ ?_ (fun hHeld => ?_) | (go_wp2_with fail; refine hK.out _ _ ?_ (fun hHeld => ?_)))
  · try dsimp only
    exact KS.out _ Du_17.out
  clear hK K
  try simp only [Act.put, List.setIfInBounds_toArray, List.set_cons_zero, List.set_cons_succ]
  refine wpAnyH_ready (rs := [10]) (by kernel_rfl) (by simp) ?_
  refine AllReadyH.cons (by (simp only [List.getElem?_toArray, List.getElem?_cons_succ, List.getElem?_cons_zero]); (try exact rfl)) (fun K hK => ?_) AllReadyH.nil
  refine step_store_Lk rfl _ _ rfl pf ⟨0, 0⟩ ⟨(R f : Nat), S f⟩ _ rfl rfl Zfu_17.out ?_
  intro e_18 hE oE bE
  have De_18 : Hid (wb.grownBy e_18 (some gb)) := grown_belowT Du_17.out bE tpf
  have Zfe_18 := Lib.hid hE
  have Oe_18 := Lib.hid (own_belowT Ou_17.out bE (by omega))
  have Fe_18 := Fu_17
  have Zte_18 := Lib.hid ((oE pt (by first | assumption | exact Ne.symm (by assumption))).trans Ztu_17.out)
  clear hE oE bE
  refine hK.out _ _ ?_ (fun hHeld => ?_)
  · try dsimp only
    exact KS.out _ De_18.out
  clear hK K
  try simp only [Act.put, List.setIfInBounds_toArray, List.set_cons_zero, List.set_cons_succ]
  refine wpAnyH_ready (rs := [11]) (by kernel_rfl) (by simp) ?_
  refine AllReadyH.cons (by (simp only [List.getElem?_toArray, List.getElem?_cons_succ, List.getElem?_cons_zero]); (try exact rfl)) (fun K hK => ?_) AllReadyH.nil
  refine step_store_Lk rfl _ _ rfl pt ⟨0, 0⟩ ⟨(R t : Nat), S t⟩ _ rfl rfl Zte_18.out ?_
  intro e_19 hE oE bE
  have De_19 : Hid (wb.grownBy e_19 (some gb)) := grown_belowT De_18.out bE tpt
  have Zte_19 := Lib.hid hE
  have Oe_19 := Lib.hid (own_belowT Oe_18.out bE (by omega))
  have Fe_19 := Fe_18
  have Zfe_19 := Lib.hid ((oE pf (by first | assumption | exact Ne.symm (by assumption))).trans Zfe_18.out)
  clear hE oE bE
  refine hK.out _ _ ?_ (fun hHeld => ?_)
  · try dsimp only
    exact KS.out _ De_19.out
  clear hK K
  try simp only [Act.put, List.setIfInBounds_toArray, List.set_cons_zero, List.set_cons_succ]
  refine wpAnyH_done (by kernel_rfl) ?_ _
  obtain ⟨⟨a0, a1⟩, -, -⟩ := boxed2_at Zfe_19.out
  obtain ⟨⟨b0, b1⟩, -, -⟩ := boxed2_at Zte_19.out
  obtain ⟨q0, q1, q2, q3⟩ := KS.out _ De_19.out
  have GZ : Hid (w.grownBy e_19 (some gb)) := grownBy_trans' GW.out De_19.out
  clear hHeld
  by_cases e : R f = R t
  · obtain rfl : b = false := by
      cases b
      · rfl
      · exact absurd e (HB.out.mp rfl)
    have e1 : (((R f : Nat) : Int) == ((R t : Nat) : Int)) = true := by simp [e]
    have e2 : ((R f : Nat) == R t) = true := by simp [e]
    clear HB HS e KS
    go_wp2
    go_ret
    first | exact ⟨gu_17, rfl, fun _ => Fe_19.out, fun h => (by cases h), Oe_19.out, GZ.out⟩ | exact ⟨rfl, gu_17, Fe_19.out, Oe_19.out, GZ.out⟩
  · obtain rfl : b = true := HB.out.mpr e
    have e1 : (((R f : Nat) : Int) == ((R t : Nat) : Int)) = false := by simp; omega
    have e2 : ((R f : Nat) == R t) = false := by simp [e]
    have sf := HS.out f hf
    have st := HS.out t ht
    have w1 : IntKind.i64.wrap (S f + r) = S f + r := IntWalk.i64_in _ (by omega)
    have w2 : IntKind.i64.wrap (S f + r - S t) = S f + r - S t := IntWalk.i64_in _ (by omega)
    have lt := Fe_19.out.lt t ht
    obtain ⟨-, -, hx⟩ := Fe_19.out.zero (R t) lt (Fe_19.out.idem t ht)
    obtain ⟨⟨d0, d1⟩, ⟨h0, h1⟩, -, lg⟩ := Oe_19.out.at Fe_19.out.len (R t) _ hx
    have HE := Lib.hid e
    have HP := Lib.hid (Oe_19.out.put Fe_19.out.len (R t) _ ⟨(R f : Nat), S f + r - S t⟩ hx)
    have HJ := Lib.hid (Fe_19.out.join r hf ht e)
    have GE : Hid (w.grownBy ((e_19.setCell ⟨gb, R t * 2, none⟩ (.int .i64 (R f : Nat))).setCell ⟨gb, R t * 2 + 1, none⟩ (.int .i64 (S f + r - S t))) (some gb)) := grownBy_trans' (grownBy_trans' GZ.out (grownBy_setCell' _ _ _)) (grownBy_setCell' _ _ _)
    clear HB HS e hx KS sf st
    go_wp2
    go_ret
    first | exact ⟨_, rfl, fun h => (by cases h), fun _ => HJ.out, HP.out, GE.out⟩ | exact ⟨rfl, _, HJ.out, HP.out, GE.out⟩
  go_simp
  generalize hA : World.alloc u_1 (.cells #[.int .i64 0, .int .i64 0] 110) = a_20
  obtain ⟨pt, hp⟩ : ∃ p, p = u_1.heap.size := ⟨_, rfl⟩
  have ba : u_1.grownBy a_20 (some gb) := by rw [← hA]; exact World.grownBy_alloc u_1 _ _
  have Zta_20 := Lib.hid (show a_20.heap[pt]? = some (.cells #[.int .i64 0, .int .i64 0] 110 (0, 0)) from by rw [← hA, hp]; exact heap_alloc_new _ _)
  have tpt : wb.heap.size ≤ pt := by rw [hp]; exact Du_1.out.size
  have Oa_20 := Lib.hid (show OwnLk a_20 B gb n gu_1 from by rw [← hA]; exact OwnS.alloc Ou_1.out _)
  have Fa_20 := Fu_1
  have Da_20 : Hid (wb.grownBy a_20 (some gb)) := grownBy_trans' Du_1.out ba
  rw [← hp]
  clear hA hp ba
  refine hK.out _ _ ?_ (fun hHeld => ?_)
  · try dsimp only
    exact KS.out _ Da_20.out
  clear hK K
  try simp only [Act.put, List.setIfInBounds_toArray, List.set_cons_zero, List.set_cons_succ]
  refine wpAnyH_ready (rs := [7, 8]) (by kernel_rfl) (by simp) ?_
  refine (AllReadyH.cons (by (simp only [List.getElem?_toArray, List.getElem?_cons_succ, List.getElem?_cons_zero]); (try exact rfl)) (fun K hK => ?_) (AllReadyH.cons (by (simp only [List.getElem?_toArray, List.getElem?_cons_succ, List.getElem?_cons_zero]); (try exact rfl)) (fun K hK => ?_) AllReadyH.nil))
  go_simp
  go_at_call 85
  refine (CT.out gu_1 _ Fa_20.out Oa_20.out).mono ?_
  rintro e u_21 ⟨gu_21, rfl, hF5, ho5, bb⟩
  have Fu_21 := Lib.hid hF5
  have Ou_21 := Lib.hid ho5
  clear hF5 ho5
  have Du_21 : Hid (wb.grownBy u_21 (some gb)) := grownBy_trans' Da_20.out bb
  have Ztu_21 := Lib.hid ((bb.block pt (box_ltT Zta_20.out) (fun e => by have e := Option.some.inj e; omega)).trans Zta_20.out)
  clear bb
  (first | refine hK.out _ _ ?_ (fun hHeld => ?_) | (go_wp2_with fail; refine hK.out _ _ ?_ (fun hHeld => ?_)))
  · try dsimp only
    exact KS.out _ Du_21.out
  clear hK K
  try simp only [Act.put, List.setIfInBounds_toArray, List.set_cons_zero, List.set_cons_succ]
  refine wpAnyH_ready (rs := [8]) (by kernel_rfl) (by simp) ?_
  refine (AllReadyH.cons (by (simp only [List.getElem?_toArray, List.getElem?_cons_succ, List.getElem?_cons_zero]); (try exact rfl)) (fun K hK => ?_) AllReadyH.nil)
  go_simp
  generalize hA : World.alloc u_21 (.cells #[.int .i64 0, .int .i64 0] 110) = a_22
  obtain ⟨pf, hp⟩ : ∃ p, p = u_21.heap.size := ⟨_, rfl⟩
  have ba : u_21.grownBy a_22 (some gb) := by rw [← hA]; exact World.grownBy_alloc u_21 _ _
  have Zfa_22 := Lib.hid (show a_22.heap[pf]? = some (.cells #[.int .i64 0, .int .i64 0] 110 (0, 0)) from by rw [← hA, hp]; exact heap_alloc_new _ _)
  have tpf : wb.heap.size ≤ pf := by rw [hp]; exact Du_21.out.size
  have Oa_22 := Lib.hid (show OwnLk a_22 B gb n gu_21 from by rw [← hA]; exact OwnS.alloc Ou_21.out _)
  have Fa_22 := Fu_21
  have nt_f : pt ≠ pf := by have hh := box_ltT Ztu_21.out; rw [hp]; intro e; rw [e] at hh; exact Nat.lt_irrefl _ hh
  have Da_22 : Hid (wb.grownBy a_22 (some gb)) := grownBy_trans' Du_21.out ba
  have Zta_22 := Lib.hid ((ba.block pt (box_ltT Ztu_21.out) (fun e => by have e := Option.some.inj e; omega)).trans Ztu_21.out)
  rw [← hp]
  clear hA hp ba
  refine hK.out _ _ ?_ (fun hHeld => ?_)
  · try dsimp only
    exact KS.out _ Da_22.out
  clear hK K
  try simp only [Act.put, List.setIfInBounds_toArray, List.set_cons_zero, List.set_cons_succ]
  refine wpAnyH_ready (rs := [10]) (by kernel_rfl) (by simp) ?_
  refine AllReadyH.cons (by (simp only [List.getElem?_toArray, List.getElem?_cons_succ, List.getElem?_cons_zero]); (try exact rfl)) (fun K hK => ?_) AllReadyH.nil
  refine step_store_Lk rfl _ _ rfl pf ⟨0, 0⟩ ⟨(R f : Nat), S f⟩ _ rfl rfl Zfa_22.out ?_
  intro e_23 hE oE bE
  have De_23 : Hid (wb.grownBy e_23 (some gb)) := grown_belowT Da_22.out bE tpf
  have Zfe_23 := Lib.hid hE
  have Oe_23 := Lib.hid (own_belowT Oa_22.out bE (by omega))
  have Fe_23 := Fa_22
  have Zte_23 := Lib.hid ((oE pt (by first | assumption | exact Ne.symm (by assumption))).trans Zta_22.out)
  clear hE oE bE
  refine hK.out _ _ ?_ (fun hHeld => ?_)
  · try dsimp only
    exact KS.out _ De_23.out
  clear hK K
  try simp only [Act.put, List.setIfInBounds_toArray, List.set_cons_zero, List.set_cons_succ]
  refine wpAnyH_ready (rs := [11]) (by kernel_rfl) (by simp) ?_
  refine AllReadyH.cons (by (simp only [List.getElem?_toArray, List.getElem?_cons_succ, List.getElem?_cons_zero]); (try exact rfl)) (fun K hK => ?_) AllReadyH.nil
  refine step_store_Lk rfl _ _ rfl pt ⟨0, 0⟩ ⟨(R t : Nat), S t⟩ _ rfl rfl Zte_23.out ?_
  intro e_24 hE oE bE
  have De_24 : Hid (wb.grownBy e_24 (some gb)) := grown_belowT De_23.out bE tpt
  have Zte_24 := Lib.hid hE
  have Oe_24 := Lib.hid (own_belowT Oe_23.out bE (by omega))
  have Fe_24 := Fe_23
  have Zfe_24 := Lib.hid ((oE pf (by first | assumption | exact Ne.symm (by assumption))).trans Zfe_23.out)
  clear hE oE bE
  refine hK.out _ _ ?_ (fun hHeld => ?_)
  · try dsimp only
    exact KS.out _ De_24.out
  clear hK K
  try simp only [Act.put, List.setIfInBounds_toArray, List.set_cons_zero, List.set_cons_succ]
  refine wpAnyH_done (by kernel_rfl) ?_ _
  obtain ⟨⟨a0, a1⟩, -, -⟩ := boxed2_at Zfe_24.out
  obtain ⟨⟨b0, b1⟩, -, -⟩ := boxed2_at Zte_24.out
  obtain ⟨q0, q1, q2, q3⟩ := KS.out _ De_24.out
  have GZ : Hid (w.grownBy e_24 (some gb)) := grownBy_trans' GW.out De_24.out
  clear hHeld
  by_cases e : R f = R t
  · obtain rfl : b = false := by
      cases b
      · rfl
      · exact absurd e (HB.out.mp rfl)
    have e1 : (((R f : Nat) : Int) == ((R t : Nat) : Int)) = true := by simp [e]
    have e2 : ((R f : Nat) == R t) = true := by simp [e]
    clear HB HS e KS
    go_wp2
    go_ret
    first | exact ⟨gu_21, rfl, fun _ => Fe_24.out, fun h => (by cases h), Oe_24.out, GZ.out⟩ | exact ⟨rfl, gu_21, Fe_24.out, Oe_24.out, GZ.out⟩
  · obtain rfl : b = true := HB.out.mpr e
    have e1 : (((R f : Nat) : Int) == ((R t : Nat) : Int)) = false := by simp; omega
    have e2 : ((R f : Nat) == R t) = false := by simp [e]
    have sf := HS.out f hf
    have st := HS.out t ht
    have w1 : IntKind.i64.wrap (S f + r) = S f + r := IntWalk.i64_in _ (by omega)
    have w2 : IntKind.i64.wrap (S f + r - S t) = S f + r - S t := IntWalk.i64_in _ (by omega)
    have lt := Fe_24.out.lt t ht
    obtain ⟨-, -, hx⟩ := Fe_24.out.zero (R t) lt (Fe_24.out.idem t ht)
    obtain ⟨⟨d0, d1⟩, ⟨h0, h1⟩, -, lg⟩ := Oe_24.out.at Fe_24.out.len (R t) _ hx
    have HE := Lib.hid e
    have HP := Lib.hid (Oe_24.out.put Fe_24.out.len (R t) _ ⟨(R f : Nat), S f + r - S t⟩ hx)
    have HJ := Lib.hid (Fe_24.out.join r hf ht e)
    have GE : Hid (w.grownBy ((e_24.setCell ⟨gb, R t * 2, none⟩ (.int .i64 (R f : Nat))).setCell ⟨gb, R t * 2 + 1, none⟩ (.int .i64 (S f + r - S t))) (some gb)) := grownBy_trans' (grownBy_trans' GZ.out (grownBy_setCell' _ _ _)) (grownBy_setCell' _ _ _)
    clear HB HS e hx KS sf st
    go_wp2
    go_ret
    first | exact ⟨_, rfl, fun h => (by cases h), fun _ => HJ.out, HP.out, GE.out⟩ | exact ⟨rfl, _, HJ.out, HP.out, GE.out⟩
  go_simp
  generalize hA : World.alloc a_20 (.cells #[.int .i64 0, .int .i64 0] 110) = a_25
  obtain ⟨pf, hp⟩ : ∃ p, p = a_20.heap.size := ⟨_, rfl⟩
  have ba : a_20.grownBy a_25 (some gb) := by rw [← hA]; exact World.grownBy_alloc a_20 _ _
  have Zfa_25 := Lib.hid (show a_25.heap[pf]? = some (.cells #[.int .i64 0, .int .i64 0] 110 (0, 0)) from by rw [← hA, hp]; exact heap_alloc_new _ _)
  have tpf : wb.heap.size ≤ pf := by rw [hp]; exact Da_20.out.size
  have Oa_25 := Lib.hid (show OwnLk a_25 B gb n gu_1 from by rw [← hA]; exact OwnS.alloc Oa_20.out _)
  have Fa_25 := Fa_20
  have nt_f : pt ≠ pf := by have hh := box_ltT Zta_20.out; rw [hp]; intro e; rw [e] at hh; exact Nat.lt_irrefl _ hh
  have Da_25 : Hid (wb.grownBy a_25 (some gb)) := grownBy_trans' Da_20.out ba
  have Zta_25 := Lib.hid ((ba.block pt (box_ltT Zta_20.out) (fun e => by have e := Option.some.inj e; omega)).trans Zta_20.out)
  rw [← hp]
  clear hA hp ba
  refine hK.out _ _ ?_ (fun hHeld => ?_)
  · try dsimp only
    exact KS.out _ Da_25.out
  clear hK K
  try simp only [Act.put, List.setIfInBounds_toArray, List.set_cons_zero, List.set_cons_succ]
  refine wpAnyH_ready (rs := [7]) (by kernel_rfl) (by simp) ?_
  refine (AllReadyH.cons (by (simp only [List.getElem?_toArray, List.getElem?_cons_succ, List.getElem?_cons_zero]); (try exact rfl)) (fun K hK => ?_) AllReadyH.nil)
  go_simp
  go_at_call 85
  refine (CT.out gu_1 _ Fa_25.out Oa_25.out).mono ?_
  rintro e u_26 ⟨gu_26, rfl, hF5, ho5, bb⟩
  have Fu_26 := Lib.hid hF5
  have Ou_26 := Lib.hid ho5
  clear hF5 ho5
  have Du_26 : Hid (wb.grownBy u_26 (some gb)) := grownBy_trans' Da_25.out bb
  have Ztu_26 := Lib.hid ((bb.block pt (box_ltT Zta_25.out) (fun e => by have e := Option.some.inj e; omega)).trans Zta_25.out)
  have Zfu_26 := Lib.hid ((bb.block pf (box_ltT Zfa_25.out) (fun e => by have e := Option.some.inj e; omega)).trans Zfa_25.out)
  clear bb
  (first | refine hK.out _ _ ?_ (fun hHeld => ?_) | (go_wp2_with fail; refine hK.out _ _ ?_ (fun hHeld => ?_)))
  · try dsimp only
    exact KS.out _ Du_26.out
  clear hK K
  try simp only [Act.put, List.setIfInBounds_toArray, List.set_cons_zero, List.set_cons_succ]
  refine wpAnyH_ready (rs := [10]) (by kernel_rfl) (by simp) ?_
  refine AllReadyH.cons (by (simp only [List.getElem?_toArray, List.getElem?_cons_succ, List.getElem?_cons_zero]); (try exact rfl)) (fun K hK => ?_) AllReadyH.nil
  refine step_store_Lk rfl _ _ rfl pf ⟨0, 0⟩ ⟨(R f : Nat), S f⟩ _ rfl rfl Zfu_26.out ?_
  intro e_27 hE oE bE
  have De_27 : Hid (wb.grownBy e_27 (some gb)) := grown_belowT Du_26.out bE tpf
  have Zfe_27 := Lib.hid hE
  have Oe_27 := Lib.hid (own_belowT Ou_26.out bE (by omega))
  have Fe_27 := Fu_26
  have Zte_27 := Lib.hid ((oE pt (by first | assumption | exact Ne.symm (by assumption))).trans Ztu_26.out)
  clear hE oE bE
  refine hK.out _ _ ?_ (fun hHeld => ?_)
  · try dsimp only
    exact KS.out _ De_27.out
  clear hK K
  try simp only [Act.put, List.setIfInBounds_toArray, List.set_cons_zero, List.set_cons_succ]
  refine wpAnyH_ready (rs := [11]) (by kernel_rfl) (by simp) ?_
  refine AllReadyH.cons (by (simp only [List.getElem?_toArray, List.getElem?_cons_succ, List.getElem?_cons_zero]); (try exact rfl)) (fun K hK => ?_) AllReadyH.nil
  refine step_store_Lk rfl _ _ rfl pt ⟨0, 0⟩ ⟨(R t : Nat), S t⟩ _ rfl rfl Zte_27.out ?_
  intro e_28 hE oE bE
  have De_28 : Hid (wb.grownBy e_28 (some gb)) := grown_belowT De_27.out bE tpt
  have Zte_28 := Lib.hid hE
  have Oe_28 := Lib.hid (own_belowT Oe_27.out bE (by omega))
  have Fe_28 := Fe_27
  have Zfe_28 := Lib.hid ((oE pf (by first | assumption | exact Ne.symm (by assumption))).trans Zfe_27.out)
  clear hE oE bE
  refine hK.out _ _ ?_ (fun hHeld => ?_)
  · try dsimp only
    exact KS.out _ De_28.out
  clear hK K
  try simp only [Act.put, List.setIfInBounds_toArray, List.set_cons_zero, List.set_cons_succ]
  refine wpAnyH_done (by kernel_rfl) ?_ _
  obtain ⟨⟨a0, a1⟩, -, -⟩ := boxed2_at Zfe_28.out
  obtain ⟨⟨b0, b1⟩, -, -⟩ := boxed2_at Zte_28.out
  obtain ⟨q0, q1, q2, q3⟩ := KS.out _ De_28.out
  have GZ : Hid (w.grownBy e_28 (some gb)) := grownBy_trans' GW.out De_28.out
  clear hHeld
  by_cases e : R f = R t
  · obtain rfl : b = false := by
      cases b
      · rfl
      · exact absurd e (HB.out.mp rfl)
    have e1 : (((R f : Nat) : Int) == ((R t : Nat) : Int)) = true := by simp [e]
    have e2 : ((R f : Nat) == R t) = true := by simp [e]
    clear HB HS e KS
    go_wp2
    go_ret
    first | exact ⟨gu_26, rfl, fun _ => Fe_28.out, fun h => (by cases h), Oe_28.out, GZ.out⟩ | exact ⟨rfl, gu_26, Fe_28.out, Oe_28.out, GZ.out⟩
  · obtain rfl : b = true := HB.out.mpr e
    have e1 : (((R f : Nat) : Int) == ((R t : Nat) : Int)) = false := by simp; omega
    have e2 : ((R f : Nat) == R t) = false := by simp [e]
    have sf := HS.out f hf
    have st := HS.out t ht
    have w1 : IntKind.i64.wrap (S f + r) = S f + r := IntWalk.i64_in _ (by omega)
    have w2 : IntKind.i64.wrap (S f + r - S t) = S f + r - S t := IntWalk.i64_in _ (by omega)
    have lt := Fe_28.out.lt t ht
    obtain ⟨-, -, hx⟩ := Fe_28.out.zero (R t) lt (Fe_28.out.idem t ht)
    obtain ⟨⟨d0, d1⟩, ⟨h0, h1⟩, -, lg⟩ := Oe_28.out.at Fe_28.out.len (R t) _ hx
    have HE := Lib.hid e
    have HP := Lib.hid (Oe_28.out.put Fe_28.out.len (R t) _ ⟨(R f : Nat), S f + r - S t⟩ hx)
    have HJ := Lib.hid (Fe_28.out.join r hf ht e)
    have GE : Hid (w.grownBy ((e_28.setCell ⟨gb, R t * 2, none⟩ (.int .i64 (R f : Nat))).setCell ⟨gb, R t * 2 + 1, none⟩ (.int .i64 (S f + r - S t))) (some gb)) := grownBy_trans' (grownBy_trans' GZ.out (grownBy_setCell' _ _ _)) (grownBy_setCell' _ _ _)
    clear HB HS e hx KS sf st
    go_wp2
    go_ret
    first | exact ⟨_, rfl, fun h => (by cases h), fun _ => HJ.out, HP.out, GE.out⟩ | exact ⟨rfl, _, HJ.out, HP.out, GE.out⟩
  go_simp
  generalize hA : World.drew (World.alloc wb (.cells #[.int .i64 0, .int .i64 0] 110)) = a_29
  obtain ⟨pf, hp⟩ : ∃ p, p = wb.heap.size := ⟨_, rfl⟩
  have ba : (World.drew wb).grownBy a_29 (some gb) := by rw [← hA]; exact (World.grownBy_alloc (World.drew wb) (.cells #[.int .i64 0, .int .i64 0] 110) (some gb) : (World.drew wb).grownBy (World.alloc (World.drew wb) _) _)
  have Zfa_29 := Lib.hid (show a_29.heap[pf]? = some (.cells #[.int .i64 0, .int .i64 0] 110 (0, 0)) from by rw [← hA, hp]; exact heap_alloc_new wb _)
  have tpf : wb.heap.size ≤ pf := by rw [hp]; exact Nat.le_refl _
  have Oa_29 := Lib.hid (show OwnLk a_29 B gb n g from by rw [← hA]; exact OwnS.alloc O0.out _)
  have Fa_29 := F0
  have Da_29 : Hid (wb.grownBy a_29 (some gb)) := grownBy_trans' D0.out ba
  rw [← hp]
  clear hA hp ba
  refine hK.out _ _ ?_ (fun hHeld => ?_)
  · try dsimp only
    exact KS.out _ Da_29.out
  clear hK K
  try simp only [Act.put, List.setIfInBounds_toArray, List.set_cons_zero, List.set_cons_succ]
  refine wpAnyH_ready (rs := [3, 9]) (by kernel_rfl) (by simp) ?_
  refine (AllReadyH.cons (by (simp only [List.getElem?_toArray, List.getElem?_cons_succ, List.getElem?_cons_zero]); (try exact rfl)) (fun K hK => ?_) (AllReadyH.cons (by (simp only [List.getElem?_toArray, List.getElem?_cons_succ, List.getElem?_cons_zero]); (try exact rfl)) (fun K hK => ?_) AllReadyH.nil))
  go_simp
  go_at_call 85
  refine (CF.out g _ Fa_29.out Oa_29.out).mono ?_
  rintro e u_30 ⟨gu_30, rfl, hF5, ho5, bb⟩
  have Fu_30 := Lib.hid hF5
  have Ou_30 := Lib.hid ho5
  clear hF5 ho5
  have Du_30 : Hid (wb.grownBy u_30 (some gb)) := grownBy_trans' Da_29.out bb
  have Zfu_30 := Lib.hid ((bb.block pf (box_ltT Zfa_29.out) (fun e => by have e := Option.some.inj e; omega)).trans Zfa_29.out)
  clear bb
  (first | refine hK.out _ _ ?_ (fun hHeld => ?_) | (go_wp2_with fail; refine hK.out _ _ ?_ (fun hHeld => ?_)))
  · try dsimp only
    exact KS.out _ Du_30.out
  clear hK K
  try simp only [Act.put, List.setIfInBounds_toArray, List.set_cons_zero, List.set_cons_succ]
  refine wpAnyH_ready (rs := [7, 9]) (by kernel_rfl) (by simp) ?_
  refine (AllReadyH.cons (by (simp only [List.getElem?_toArray, List.getElem?_cons_succ, List.getElem?_cons_zero]); (try exact rfl)) (fun K hK => ?_) (AllReadyH.cons (by (simp only [List.getElem?_toArray, List.getElem?_cons_succ, List.getElem?_cons_zero]); (try exact rfl)) (fun K hK => ?_) AllReadyH.nil))
  go_simp
  go_at_call 85
  refine (CT.out gu_30 _ Fu_30.out Ou_30.out).mono ?_
  rintro e u_31 ⟨gu_31, rfl, hF5, ho5, bb⟩
  have Fu_31 := Lib.hid hF5
  have Ou_31 := Lib.hid ho5
  clear hF5 ho5
  have Du_31 : Hid (wb.grownBy u_31 (some gb)) := grownBy_trans' Du_30.out bb
  have Zfu_31 := Lib.hid ((bb.block pf (box_ltT Zfu_30.out) (fun e => by have e := Option.some.inj e; omega)).trans Zfu_30.out)
  clear bb
  (first | refine hK.out _ _ ?_ (fun hHeld => ?_) | (go_wp2_with fail; refine hK.out _ _ ?_ (fun hHeld => ?_)))
  · try dsimp only
    exact KS.out _ Du_31.out
  clear hK K
  try simp only [Act.put, List.setIfInBounds_toArray, List.set_cons_zero, List.set_cons_succ]
  refine wpAnyH_ready (rs := [9]) (by kernel_rfl) (by simp) ?_
  refine (AllReadyH.cons (by (simp only [List.getElem?_toArray, List.getElem?_cons_succ, List.getElem?_cons_zero]); (try exact rfl)) (fun K hK => ?_) AllReadyH.nil)
  go_simp
  generalize hA : World.alloc u_31 (.cells #[.int .i64 0, .int .i64 0] 110) = a_32
  obtain ⟨pt, hp⟩ : ∃ p, p = u_31.heap.size := ⟨_, rfl⟩
  have ba : u_31.grownBy a_32 (some gb) := by rw [← hA]; exact World.grownBy_alloc u_31 _ _
  have Zta_32 := Lib.hid (show a_32.heap[pt]? = some (.cells #[.int .i64 0, .int .i64 0] 110 (0, 0)) from by rw [← hA, hp]; exact heap_alloc_new _ _)
  have tpt : wb.heap.size ≤ pt := by rw [hp]; exact Du_31.out.size
  have Oa_32 := Lib.hid (show OwnLk a_32 B gb n gu_31 from by rw [← hA]; exact OwnS.alloc Ou_31.out _)
  have Fa_32 := Fu_31
  have nf_t : pf ≠ pt := by have hh := box_ltT Zfu_31.out; rw [hp]; intro e; rw [e] at hh; exact Nat.lt_irrefl _ hh
  have Da_32 : Hid (wb.grownBy a_32 (some gb)) := grownBy_trans' Du_31.out ba
  have Zfa_32 := Lib.hid ((ba.block pf (box_ltT Zfu_31.out) (fun e => by have e := Option.some.inj e; omega)).trans Zfu_31.out)
  rw [← hp]
  clear hA hp ba
  refine hK.out _ _ ?_ (fun hHeld => ?_)
  · try dsimp only
    exact KS.out _ Da_32.out
  clear hK K
  try simp only [Act.put, List.setIfInBounds_toArray, List.set_cons_zero, List.set_cons_succ]
  refine wpAnyH_ready (rs := [10]) (by kernel_rfl) (by simp) ?_
  refine AllReadyH.cons (by (simp only [List.getElem?_toArray, List.getElem?_cons_succ, List.getElem?_cons_zero]); (try exact rfl)) (fun K hK => ?_) AllReadyH.nil
  refine step_store_Lk rfl _ _ rfl pf ⟨0, 0⟩ ⟨(R f : Nat), S f⟩ _ rfl rfl Zfa_32.out ?_
  intro e_33 hE oE bE
  have De_33 : Hid (wb.grownBy e_33 (some gb)) := grown_belowT Da_32.out bE tpf
  have Zfe_33 := Lib.hid hE
  have Oe_33 := Lib.hid (own_belowT Oa_32.out bE (by omega))
  have Fe_33 := Fa_32
  have Zte_33 := Lib.hid ((oE pt (by first | assumption | exact Ne.symm (by assumption))).trans Zta_32.out)
  clear hE oE bE
  refine hK.out _ _ ?_ (fun hHeld => ?_)
  · try dsimp only
    exact KS.out _ De_33.out
  clear hK K
  try simp only [Act.put, List.setIfInBounds_toArray, List.set_cons_zero, List.set_cons_succ]
  refine wpAnyH_ready (rs := [11]) (by kernel_rfl) (by simp) ?_
  refine AllReadyH.cons (by (simp only [List.getElem?_toArray, List.getElem?_cons_succ, List.getElem?_cons_zero]); (try exact rfl)) (fun K hK => ?_) AllReadyH.nil
  refine step_store_Lk rfl _ _ rfl pt ⟨0, 0⟩ ⟨(R t : Nat), S t⟩ _ rfl rfl Zte_33.out ?_
  intro e_34 hE oE bE
  have De_34 : Hid (wb.grownBy e_34 (some gb)) := grown_belowT De_33.out bE tpt
  have Zte_34 := Lib.hid hE
  have Oe_34 := Lib.hid (own_belowT Oe_33.out bE (by omega))
  have Fe_34 := Fe_33
  have Zfe_34 := Lib.hid ((oE pf (by first | assumption | exact Ne.symm (by assumption))).trans Zfe_33.out)
  clear hE oE bE
  refine hK.out _ _ ?_ (fun hHeld => ?_)
  · try dsimp only
    exact KS.out _ De_34.out
  clear hK K
  try simp only [Act.put, List.setIfInBounds_toArray, List.set_cons_zero, List.set_cons_succ]
  refine wpAnyH_done (by kernel_rfl) ?_ _
  obtain ⟨⟨a0, a1⟩, -, -⟩ := boxed2_at Zfe_34.out
  obtain ⟨⟨b0, b1⟩, -, -⟩ := boxed2_at Zte_34.out
  obtain ⟨q0, q1, q2, q3⟩ := KS.out _ De_34.out
  have GZ : Hid (w.grownBy e_34 (some gb)) := grownBy_trans' GW.out De_34.out
  clear hHeld
  by_cases e : R f = R t
  · obtain rfl : b = false := by
      cases b
      · rfl
      · exact absurd e (HB.out.mp rfl)
    have e1 : (((R f : Nat) : Int) == ((R t : Nat) : Int)) = true := by simp [e]
    have e2 : ((R f : Nat) == R t) = true := by simp [e]
    clear HB HS e KS
    go_wp2
    go_ret
    first | exact ⟨gu_31, rfl, fun _ => Fe_34.out, fun h => (by cases h), Oe_34.out, GZ.out⟩ | exact ⟨rfl, gu_31, Fe_34.out, Oe_34.out, GZ.out⟩
  · obtain rfl : b = true := HB.out.mpr e
    have e1 : (((R f : Nat) : Int) == ((R t : Nat) : Int)) = false := by simp; omega
    have e2 : ((R f : Nat) == R t) = false := by simp [e]
    have sf := HS.out f hf
    have st := HS.out t ht
    have w1 : IntKind.i64.wrap (S f + r) = S f + r := IntWalk.i64_in _ (by omega)
    have w2 : IntKind.i64.wrap (S f + r - S t) = S f + r - S t := IntWalk.i64_in _ (by omega)
    have lt := Fe_34.out.lt t ht
    obtain ⟨-, -, hx⟩ := Fe_34.out.zero (R t) lt (Fe_34.out.idem t ht)
    obtain ⟨⟨d0, d1⟩, ⟨h0, h1⟩, -, lg⟩ := Oe_34.out.at Fe_34.out.len (R t) _ hx
    have HE := Lib.hid e
    have HP := Lib.hid (Oe_34.out.put Fe_34.out.len (R t) _ ⟨(R f : Nat), S f + r - S t⟩ hx)
    have HJ := Lib.hid (Fe_34.out.join r hf ht e)
    have GE : Hid (w.grownBy ((e_34.setCell ⟨gb, R t * 2, none⟩ (.int .i64 (R f : Nat))).setCell ⟨gb, R t * 2 + 1, none⟩ (.int .i64 (S f + r - S t))) (some gb)) := grownBy_trans' (grownBy_trans' GZ.out (grownBy_setCell' _ _ _)) (grownBy_setCell' _ _ _)
    clear HB HS e hx KS sf st
    go_wp2
    go_ret
    first | exact ⟨_, rfl, fun h => (by cases h), fun _ => HJ.out, HP.out, GE.out⟩ | exact ⟨rfl, _, HJ.out, HP.out, GE.out⟩
  go_simp
  generalize hA : World.alloc u_30 (.cells #[.int .i64 0, .int .i64 0] 110) = a_35
  obtain ⟨pt, hp⟩ : ∃ p, p = u_30.heap.size := ⟨_, rfl⟩
  have ba : u_30.grownBy a_35 (some gb) := by rw [← hA]; exact World.grownBy_alloc u_30 _ _
  have Zta_35 := Lib.hid (show a_35.heap[pt]? = some (.cells #[.int .i64 0, .int .i64 0] 110 (0, 0)) from by rw [← hA, hp]; exact heap_alloc_new _ _)
  have tpt : wb.heap.size ≤ pt := by rw [hp]; exact Du_30.out.size
  have Oa_35 := Lib.hid (show OwnLk a_35 B gb n gu_30 from by rw [← hA]; exact OwnS.alloc Ou_30.out _)
  have Fa_35 := Fu_30
  have nf_t : pf ≠ pt := by have hh := box_ltT Zfu_30.out; rw [hp]; intro e; rw [e] at hh; exact Nat.lt_irrefl _ hh
  have Da_35 : Hid (wb.grownBy a_35 (some gb)) := grownBy_trans' Du_30.out ba
  have Zfa_35 := Lib.hid ((ba.block pf (box_ltT Zfu_30.out) (fun e => by have e := Option.some.inj e; omega)).trans Zfu_30.out)
  rw [← hp]
  clear hA hp ba
  refine hK.out _ _ ?_ (fun hHeld => ?_)
  · try dsimp only
    exact KS.out _ Da_35.out
  clear hK K
  try simp only [Act.put, List.setIfInBounds_toArray, List.set_cons_zero, List.set_cons_succ]
  refine wpAnyH_ready (rs := [7]) (by kernel_rfl) (by simp) ?_
  refine (AllReadyH.cons (by (simp only [List.getElem?_toArray, List.getElem?_cons_succ, List.getElem?_cons_zero]); (try exact rfl)) (fun K hK => ?_) AllReadyH.nil)
  go_simp
  go_at_call 85
  refine (CT.out gu_30 _ Fa_35.out Oa_35.out).mono ?_
  rintro e u_36 ⟨gu_36, rfl, hF5, ho5, bb⟩
  have Fu_36 := Lib.hid hF5
  have Ou_36 := Lib.hid ho5
  clear hF5 ho5
  have Du_36 : Hid (wb.grownBy u_36 (some gb)) := grownBy_trans' Da_35.out bb
  have Zfu_36 := Lib.hid ((bb.block pf (box_ltT Zfa_35.out) (fun e => by have e := Option.some.inj e; omega)).trans Zfa_35.out)
  have Ztu_36 := Lib.hid ((bb.block pt (box_ltT Zta_35.out) (fun e => by have e := Option.some.inj e; omega)).trans Zta_35.out)
  clear bb
  (first | refine hK.out _ _ ?_ (fun hHeld => ?_) | (go_wp2_with fail; refine hK.out _ _ ?_ (fun hHeld => ?_)))
  · try dsimp only
    exact KS.out _ Du_36.out
  clear hK K
  try simp only [Act.put, List.setIfInBounds_toArray, List.set_cons_zero, List.set_cons_succ]
  refine wpAnyH_ready (rs := [10]) (by kernel_rfl) (by simp) ?_
  refine AllReadyH.cons (by (simp only [List.getElem?_toArray, List.getElem?_cons_succ, List.getElem?_cons_zero]); (try exact rfl)) (fun K hK => ?_) AllReadyH.nil
  refine step_store_Lk rfl _ _ rfl pf ⟨0, 0⟩ ⟨(R f : Nat), S f⟩ _ rfl rfl Zfu_36.out ?_
  intro e_37 hE oE bE
  have De_37 : Hid (wb.grownBy e_37 (some gb)) := grown_belowT Du_36.out bE tpf
  have Zfe_37 := Lib.hid hE
  have Oe_37 := Lib.hid (own_belowT Ou_36.out bE (by omega))
  have Fe_37 := Fu_36
  have Zte_37 := Lib.hid ((oE pt (by first | assumption | exact Ne.symm (by assumption))).trans Ztu_36.out)
  clear hE oE bE
  refine hK.out _ _ ?_ (fun hHeld => ?_)
  · try dsimp only
    exact KS.out _ De_37.out
  clear hK K
  try simp only [Act.put, List.setIfInBounds_toArray, List.set_cons_zero, List.set_cons_succ]
  refine wpAnyH_ready (rs := [11]) (by kernel_rfl) (by simp) ?_
  refine AllReadyH.cons (by (simp only [List.getElem?_toArray, List.getElem?_cons_succ, List.getElem?_cons_zero]); (try exact rfl)) (fun K hK => ?_) AllReadyH.nil
  refine step_store_Lk rfl _ _ rfl pt ⟨0, 0⟩ ⟨(R t : Nat), S t⟩ _ rfl rfl Zte_37.out ?_
  intro e_38 hE oE bE
  have De_38 : Hid (wb.grownBy e_38 (some gb)) := grown_belowT De_37.out bE tpt
  have Zte_38 := Lib.hid hE
  have Oe_38 := Lib.hid (own_belowT Oe_37.out bE (by omega))
  have Fe_38 := Fe_37
  have Zfe_38 := Lib.hid ((oE pf (by first | assumption | exact Ne.symm (by assumption))).trans Zfe_37.out)
  clear hE oE bE
  refine hK.out _ _ ?_ (fun hHeld => ?_)
  · try dsimp only
    exact KS.out _ De_38.out
  clear hK K
  try simp only [Act.put, List.setIfInBounds_toArray, List.set_cons_zero, List.set_cons_succ]
  refine wpAnyH_done (by kernel_rfl) ?_ _
  obtain ⟨⟨a0, a1⟩, -, -⟩ := boxed2_at Zfe_38.out
  obtain ⟨⟨b0, b1⟩, -, -⟩ := boxed2_at Zte_38.out
  obtain ⟨q0, q1, q2, q3⟩ := KS.out _ De_38.out
  have GZ : Hid (w.grownBy e_38 (some gb)) := grownBy_trans' GW.out De_38.out
  clear hHeld
  by_cases e : R f = R t
  · obtain rfl : b = false := by
      cases b
      · rfl
      · exact absurd e (HB.out.mp rfl)
    have e1 : (((R f : Nat) : Int) == ((R t : Nat) : Int)) = true := by simp [e]
    have e2 : ((R f : Nat) == R t) = true := by simp [e]
    clear HB HS e KS
    go_wp2
    go_ret
    first | exact ⟨gu_36, rfl, fun _ => Fe_38.out, fun h => (by cases h), Oe_38.out, GZ.out⟩ | exact ⟨rfl, gu_36, Fe_38.out, Oe_38.out, GZ.out⟩
  · obtain rfl : b = true := HB.out.mpr e
    have e1 : (((R f : Nat) : Int) == ((R t : Nat) : Int)) = false := by simp; omega
    have e2 : ((R f : Nat) == R t) = false := by simp [e]
    have sf := HS.out f hf
    have st := HS.out t ht
    have w1 : IntKind.i64.wrap (S f + r) = S f + r := IntWalk.i64_in _ (by omega)
    have w2 : IntKind.i64.wrap (S f + r - S t) = S f + r - S t := IntWalk.i64_in _ (by omega)
    have lt := Fe_38.out.lt t ht
    obtain ⟨-, -, hx⟩ := Fe_38.out.zero (R t) lt (Fe_38.out.idem t ht)
    obtain ⟨⟨d0, d1⟩, ⟨h0, h1⟩, -, lg⟩ := Oe_38.out.at Fe_38.out.len (R t) _ hx
    have HE := Lib.hid e
    have HP := Lib.hid (Oe_38.out.put Fe_38.out.len (R t) _ ⟨(R f : Nat), S f + r - S t⟩ hx)
    have HJ := Lib.hid (Fe_38.out.join r hf ht e)
    have GE : Hid (w.grownBy ((e_38.setCell ⟨gb, R t * 2, none⟩ (.int .i64 (R f : Nat))).setCell ⟨gb, R t * 2 + 1, none⟩ (.int .i64 (S f + r - S t))) (some gb)) := grownBy_trans' (grownBy_trans' GZ.out (grownBy_setCell' _ _ _)) (grownBy_setCell' _ _ _)
    clear HB HS e hx KS sf st
    go_wp2
    go_ret
    first | exact ⟨_, rfl, fun h => (by cases h), fun _ => HJ.out, HP.out, GE.out⟩ | exact ⟨rfl, _, HJ.out, HP.out, GE.out⟩
  go_simp
  generalize hA : World.alloc a_29 (.cells #[.int .i64 0, .int .i64 0] 110) = a_39
  obtain ⟨pt, hp⟩ : ∃ p, p = a_29.heap.size := ⟨_, rfl⟩
  have ba : a_29.grownBy a_39 (some gb) := by rw [← hA]; exact World.grownBy_alloc a_29 _ _
  have Zta_39 := Lib.hid (show a_39.heap[pt]? = some (.cells #[.int .i64 0, .int .i64 0] 110 (0, 0)) from by rw [← hA, hp]; exact heap_alloc_new _ _)
  have tpt : wb.heap.size ≤ pt := by rw [hp]; exact Da_29.out.size
  have Oa_39 := Lib.hid (show OwnLk a_39 B gb n g from by rw [← hA]; exact OwnS.alloc Oa_29.out _)
  have Fa_39 := Fa_29
  have nf_t : pf ≠ pt := by have hh := box_ltT Zfa_29.out; rw [hp]; intro e; rw [e] at hh; exact Nat.lt_irrefl _ hh
  have Da_39 : Hid (wb.grownBy a_39 (some gb)) := grownBy_trans' Da_29.out ba
  have Zfa_39 := Lib.hid ((ba.block pf (box_ltT Zfa_29.out) (fun e => by have e := Option.some.inj e; omega)).trans Zfa_29.out)
  rw [← hp]
  clear hA hp ba
  refine hK.out _ _ ?_ (fun hHeld => ?_)
  · try dsimp only
    exact KS.out _ Da_39.out
  clear hK K
  try simp only [Act.put, List.setIfInBounds_toArray, List.set_cons_zero, List.set_cons_succ]
  refine wpAnyH_ready (rs := [3]) (by kernel_rfl) (by simp) ?_
  refine (AllReadyH.cons (by (simp only [List.getElem?_toArray, List.getElem?_cons_succ, List.getElem?_cons_zero]); (try exact rfl)) (fun K hK => ?_) AllReadyH.nil)
  go_simp
  go_at_call 85
  refine (CF.out g _ Fa_39.out Oa_39.out).mono ?_
  rintro e u_40 ⟨gu_40, rfl, hF5, ho5, bb⟩
  have Fu_40 := Lib.hid hF5
  have Ou_40 := Lib.hid ho5
  clear hF5 ho5
  have Du_40 : Hid (wb.grownBy u_40 (some gb)) := grownBy_trans' Da_39.out bb
  have Zfu_40 := Lib.hid ((bb.block pf (box_ltT Zfa_39.out) (fun e => by have e := Option.some.inj e; omega)).trans Zfa_39.out)
  have Ztu_40 := Lib.hid ((bb.block pt (box_ltT Zta_39.out) (fun e => by have e := Option.some.inj e; omega)).trans Zta_39.out)
  clear bb
  (first | refine hK.out _ _ ?_ (fun hHeld => ?_) | (go_wp2_with fail; refine hK.out _ _ ?_ (fun hHeld => ?_)))
  · try dsimp only
    exact KS.out _ Du_40.out
  clear hK K
  try simp only [Act.put, List.setIfInBounds_toArray, List.set_cons_zero, List.set_cons_succ]
  refine wpAnyH_ready (rs := [7]) (by kernel_rfl) (by simp) ?_
  refine (AllReadyH.cons (by (simp only [List.getElem?_toArray, List.getElem?_cons_succ, List.getElem?_cons_zero]); (try exact rfl)) (fun K hK => ?_) AllReadyH.nil)
  go_simp
  go_at_call 85
  refine (CT.out gu_40 _ Fu_40.out Ou_40.out).mono ?_
  rintro e u_41 ⟨gu_41, rfl, hF5, ho5, bb⟩
  have Fu_41 := Lib.hid hF5
  have Ou_41 := Lib.hid ho5
  clear hF5 ho5
  have Du_41 : Hid (wb.grownBy u_41 (some gb)) := grownBy_trans' Du_40.out bb
  have Zfu_41 := Lib.hid ((bb.block pf (box_ltT Zfu_40.out) (fun e => by have e := Option.some.inj e; omega)).trans Zfu_40.out)
  have Ztu_41 := Lib.hid ((bb.block pt (box_ltT Ztu_40.out) (fun e => by have e := Option.some.inj e; omega)).trans Ztu_40.out)
  clear bb
  (first | refine hK.out _ _ ?_ (fun hHeld => ?_) | (go_wp2_with fail; refine hK.out _ _ ?_ (fun hHeld => ?_)))
  · try dsimp only
    exact KS.out _ Du_41.out
  clear hK K
  try simp only [Act.put, List.setIfInBounds_toArray, List.set_cons_zero, List.set_cons_succ]
  refine wpAnyH_ready (rs := [10]) (by kernel_rfl) (by simp) ?_
  refine AllReadyH.cons (by (simp only [List.getElem?_toArray, List.getElem?_cons_succ, List.getElem?_cons_zero]); (try exact rfl)) (fun K hK => ?_) AllReadyH.nil
  refine step_store_Lk rfl _ _ rfl pf ⟨0, 0⟩ ⟨(R f : Nat), S f⟩ _ rfl rfl Zfu_41.out ?_
  intro e_42 hE oE bE
  have De_42 : Hid (wb.grownBy e_42 (some gb)) := grown_belowT Du_41.out bE tpf
  have Zfe_42 := Lib.hid hE
  have Oe_42 := Lib.hid (own_belowT Ou_41.out bE (by omega))
  have Fe_42 := Fu_41
  have Zte_42 := Lib.hid ((oE pt (by first | assumption | exact Ne.symm (by assumption))).trans Ztu_41.out)
  clear hE oE bE
  refine hK.out _ _ ?_ (fun hHeld => ?_)
  · try dsimp only
    exact KS.out _ De_42.out
  clear hK K
  try simp only [Act.put, List.setIfInBounds_toArray, List.set_cons_zero, List.set_cons_succ]
  refine wpAnyH_ready (rs := [11]) (by kernel_rfl) (by simp) ?_
  refine AllReadyH.cons (by (simp only [List.getElem?_toArray, List.getElem?_cons_succ, List.getElem?_cons_zero]); (try exact rfl)) (fun K hK => ?_) AllReadyH.nil
  refine step_store_Lk rfl _ _ rfl pt ⟨0, 0⟩ ⟨(R t : Nat), S t⟩ _ rfl rfl Zte_42.out ?_
  intro e_43 hE oE bE
  have De_43 : Hid (wb.grownBy e_43 (some gb)) := grown_belowT De_42.out bE tpt
  have Zte_43 := Lib.hid hE
  have Oe_43 := Lib.hid (own_belowT Oe_42.out bE (by omega))
  have Fe_43 := Fe_42
  have Zfe_43 := Lib.hid ((oE pf (by first | assumption | exact Ne.symm (by assumption))).trans Zfe_42.out)
  clear hE oE bE
  refine hK.out _ _ ?_ (fun hHeld => ?_)
  · try dsimp only
    exact KS.out _ De_43.out
  clear hK K
  try simp only [Act.put, List.setIfInBounds_toArray, List.set_cons_zero, List.set_cons_succ]
  refine wpAnyH_done (by kernel_rfl) ?_ _
  obtain ⟨⟨a0, a1⟩, -, -⟩ := boxed2_at Zfe_43.out
  obtain ⟨⟨b0, b1⟩, -, -⟩ := boxed2_at Zte_43.out
  obtain ⟨q0, q1, q2, q3⟩ := KS.out _ De_43.out
  have GZ : Hid (w.grownBy e_43 (some gb)) := grownBy_trans' GW.out De_43.out
  clear hHeld
  by_cases e : R f = R t
  · obtain rfl : b = false := by
      cases b
      · rfl
      · exact absurd e (HB.out.mp rfl)
    have e1 : (((R f : Nat) : Int) == ((R t : Nat) : Int)) = true := by simp [e]
    have e2 : ((R f : Nat) == R t) = true := by simp [e]
    clear HB HS e KS
    go_wp2
    go_ret
    first | exact ⟨gu_41, rfl, fun _ => Fe_43.out, fun h => (by cases h), Oe_43.out, GZ.out⟩ | exact ⟨rfl, gu_41, Fe_43.out, Oe_43.out, GZ.out⟩
  · obtain rfl : b = true := HB.out.mpr e
    have e1 : (((R f : Nat) : Int) == ((R t : Nat) : Int)) = false := by simp; omega
    have e2 : ((R f : Nat) == R t) = false := by simp [e]
    have sf := HS.out f hf
    have st := HS.out t ht
    have w1 : IntKind.i64.wrap (S f + r) = S f + r := IntWalk.i64_in _ (by omega)
    have w2 : IntKind.i64.wrap (S f + r - S t) = S f + r - S t := IntWalk.i64_in _ (by omega)
    have lt := Fe_43.out.lt t ht
    obtain ⟨-, -, hx⟩ := Fe_43.out.zero (R t) lt (Fe_43.out.idem t ht)
    obtain ⟨⟨d0, d1⟩, ⟨h0, h1⟩, -, lg⟩ := Oe_43.out.at Fe_43.out.len (R t) _ hx
    have HE := Lib.hid e
    have HP := Lib.hid (Oe_43.out.put Fe_43.out.len (R t) _ ⟨(R f : Nat), S f + r - S t⟩ hx)
    have HJ := Lib.hid (Fe_43.out.join r hf ht e)
    have GE : Hid (w.grownBy ((e_43.setCell ⟨gb, R t * 2, none⟩ (.int .i64 (R f : Nat))).setCell ⟨gb, R t * 2 + 1, none⟩ (.int .i64 (S f + r - S t))) (some gb)) := grownBy_trans' (grownBy_trans' GZ.out (grownBy_setCell' _ _ _)) (grownBy_setCell' _ _ _)
    clear HB HS e hx KS sf st
    go_wp2
    go_ret
    first | exact ⟨_, rfl, fun h => (by cases h), fun _ => HJ.out, HP.out, GE.out⟩ | exact ⟨rfl, _, HJ.out, HP.out, GE.out⟩
  go_simp
  generalize hA : World.drew (World.alloc wb (.cells #[.int .i64 0, .int .i64 0] 110)) = a_44
  obtain ⟨pt, hp⟩ : ∃ p, p = wb.heap.size := ⟨_, rfl⟩
  have ba : (World.drew wb).grownBy a_44 (some gb) := by rw [← hA]; exact (World.grownBy_alloc (World.drew wb) (.cells #[.int .i64 0, .int .i64 0] 110) (some gb) : (World.drew wb).grownBy (World.alloc (World.drew wb) _) _)
  have Zta_44 := Lib.hid (show a_44.heap[pt]? = some (.cells #[.int .i64 0, .int .i64 0] 110 (0, 0)) from by rw [← hA, hp]; exact heap_alloc_new wb _)
  have tpt : wb.heap.size ≤ pt := by rw [hp]; exact Nat.le_refl _
  have Oa_44 := Lib.hid (show OwnLk a_44 B gb n g from by rw [← hA]; exact OwnS.alloc O0.out _)
  have Fa_44 := F0
  have Da_44 : Hid (wb.grownBy a_44 (some gb)) := grownBy_trans' D0.out ba
  rw [← hp]
  clear hA hp ba
  refine hK.out _ _ ?_ (fun hHeld => ?_)
  · try dsimp only
    exact KS.out _ Da_44.out
  clear hK K
  try simp only [Act.put, List.setIfInBounds_toArray, List.set_cons_zero, List.set_cons_succ]
  refine wpAnyH_ready (rs := [3, 8]) (by kernel_rfl) (by simp) ?_
  refine (AllReadyH.cons (by (simp only [List.getElem?_toArray, List.getElem?_cons_succ, List.getElem?_cons_zero]); (try exact rfl)) (fun K hK => ?_) (AllReadyH.cons (by (simp only [List.getElem?_toArray, List.getElem?_cons_succ, List.getElem?_cons_zero]); (try exact rfl)) (fun K hK => ?_) AllReadyH.nil))
  go_simp
  go_at_call 85
  refine (CF.out g _ Fa_44.out Oa_44.out).mono ?_
  rintro e u_45 ⟨gu_45, rfl, hF5, ho5, bb⟩
  have Fu_45 := Lib.hid hF5
  have Ou_45 := Lib.hid ho5
  clear hF5 ho5
  have Du_45 : Hid (wb.grownBy u_45 (some gb)) := grownBy_trans' Da_44.out bb
  have Ztu_45 := Lib.hid ((bb.block pt (box_ltT Zta_44.out) (fun e => by have e := Option.some.inj e; omega)).trans Zta_44.out)
  clear bb
  (first | refine hK.out _ _ ?_ (fun hHeld => ?_) | (go_wp2_with fail; refine hK.out _ _ ?_ (fun hHeld => ?_)))
  · try dsimp only
    exact KS.out _ Du_45.out
  clear hK K
  try simp only [Act.put, List.setIfInBounds_toArray, List.set_cons_zero, List.set_cons_succ]
  refine wpAnyH_ready (rs := [7, 8]) (by kernel_rfl) (by simp) ?_
  refine (AllReadyH.cons (by (simp only [List.getElem?_toArray, List.getElem?_cons_succ, List.getElem?_cons_zero]); (try exact rfl)) (fun K hK => ?_) (AllReadyH.cons (by (simp only [List.getElem?_toArray, List.getElem?_cons_succ, List.getElem?_cons_zero]); (try exact rfl)) (fun K hK => ?_) AllReadyH.nil))
  go_simp
  go_at_call 85
  refine (CT.out gu_45 _ Fu_45.out Ou_45.out).mono ?_
  rintro e u_46 ⟨gu_46, rfl, hF5, ho5, bb⟩
  have Fu_46 := Lib.hid hF5
  have Ou_46 := Lib.hid ho5
  clear hF5 ho5
  have Du_46 : Hid (wb.grownBy u_46 (some gb)) := grownBy_trans' Du_45.out bb
  have Ztu_46 := Lib.hid ((bb.block pt (box_ltT Ztu_45.out) (fun e => by have e := Option.some.inj e; omega)).trans Ztu_45.out)
  clear bb
  (first | refine hK.out _ _ ?_ (fun hHeld => ?_) | (go_wp2_with fail; refine hK.out _ _ ?_ (fun hHeld => ?_)))
  · try dsimp only
    exact KS.out _ Du_46.out
  clear hK K
  try simp only [Act.put, List.setIfInBounds_toArray, List.set_cons_zero, List.set_cons_succ]
  refine wpAnyH_ready (rs := [8]) (by kernel_rfl) (by simp) ?_
  refine (AllReadyH.cons (by (simp only [List.getElem?_toArray, List.getElem?_cons_succ, List.getElem?_cons_zero]); (try exact rfl)) (fun K hK => ?_) AllReadyH.nil)
  go_simp
  generalize hA : World.alloc u_46 (.cells #[.int .i64 0, .int .i64 0] 110) = a_47
  obtain ⟨pf, hp⟩ : ∃ p, p = u_46.heap.size := ⟨_, rfl⟩
  have ba : u_46.grownBy a_47 (some gb) := by rw [← hA]; exact World.grownBy_alloc u_46 _ _
  have Zfa_47 := Lib.hid (show a_47.heap[pf]? = some (.cells #[.int .i64 0, .int .i64 0] 110 (0, 0)) from by rw [← hA, hp]; exact heap_alloc_new _ _)
  have tpf : wb.heap.size ≤ pf := by rw [hp]; exact Du_46.out.size
  have Oa_47 := Lib.hid (show OwnLk a_47 B gb n gu_46 from by rw [← hA]; exact OwnS.alloc Ou_46.out _)
  have Fa_47 := Fu_46
  have nt_f : pt ≠ pf := by have hh := box_ltT Ztu_46.out; rw [hp]; intro e; rw [e] at hh; exact Nat.lt_irrefl _ hh
  have Da_47 : Hid (wb.grownBy a_47 (some gb)) := grownBy_trans' Du_46.out ba
  have Zta_47 := Lib.hid ((ba.block pt (box_ltT Ztu_46.out) (fun e => by have e := Option.some.inj e; omega)).trans Ztu_46.out)
  rw [← hp]
  clear hA hp ba
  refine hK.out _ _ ?_ (fun hHeld => ?_)
  · try dsimp only
    exact KS.out _ Da_47.out
  clear hK K
  try simp only [Act.put, List.setIfInBounds_toArray, List.set_cons_zero, List.set_cons_succ]
  refine wpAnyH_ready (rs := [10]) (by kernel_rfl) (by simp) ?_
  refine AllReadyH.cons (by (simp only [List.getElem?_toArray, List.getElem?_cons_succ, List.getElem?_cons_zero]); (try exact rfl)) (fun K hK => ?_) AllReadyH.nil
  refine step_store_Lk rfl _ _ rfl pf ⟨0, 0⟩ ⟨(R f : Nat), S f⟩ _ rfl rfl Zfa_47.out ?_
  intro e_48 hE oE bE
  have De_48 : Hid (wb.grownBy e_48 (some gb)) := grown_belowT Da_47.out bE tpf
  have Zfe_48 := Lib.hid hE
  have Oe_48 := Lib.hid (own_belowT Oa_47.out bE (by omega))
  have Fe_48 := Fa_47
  have Zte_48 := Lib.hid ((oE pt (by first | assumption | exact Ne.symm (by assumption))).trans Zta_47.out)
  clear hE oE bE
  refine hK.out _ _ ?_ (fun hHeld => ?_)
  · try dsimp only
    exact KS.out _ De_48.out
  clear hK K
  try simp only [Act.put, List.setIfInBounds_toArray, List.set_cons_zero, List.set_cons_succ]
  refine wpAnyH_ready (rs := [11]) (by kernel_rfl) (by simp) ?_
  refine AllReadyH.cons (by (simp only [List.getElem?_toArray, List.getElem?_cons_succ, List.getElem?_cons_zero]); (try exact rfl)) (fun K hK => ?_) AllReadyH.nil
  refine step_store_Lk rfl _ _ rfl pt ⟨0, 0⟩ ⟨(R t : Nat), S t⟩ _ rfl rfl Zte_48.out ?_
  intro e_49 hE oE bE
  have De_49 : Hid (wb.grownBy e_49 (some gb)) := grown_belowT De_48.out bE tpt
  have Zte_49 := Lib.hid hE
  have Oe_49 := Lib.hid (own_belowT Oe_48.out bE (by omega))
  have Fe_49 := Fe_48
  have Zfe_49 := Lib.hid ((oE pf (by first | assumption | exact Ne.symm (by assumption))).trans Zfe_48.out)
  clear hE oE bE
  refine hK.out _ _ ?_ (fun hHeld => ?_)
  · try dsimp only
    exact KS.out _ De_49.out
  clear hK K
  try simp only [Act.put, List.setIfInBounds_toArray, List.set_cons_zero, List.set_cons_succ]
  refine wpAnyH_done (by kernel_rfl) ?_ _
  obtain ⟨⟨a0, a1⟩, -, -⟩ := boxed2_at Zfe_49.out
  obtain ⟨⟨b0, b1⟩, -, -⟩ := boxed2_at Zte_49.out
  obtain ⟨q0, q1, q2, q3⟩ := KS.out _ De_49.out
  have GZ : Hid (w.grownBy e_49 (some gb)) := grownBy_trans' GW.out De_49.out
  clear hHeld
  by_cases e : R f = R t
  · obtain rfl : b = false := by
      cases b
      · rfl
      · exact absurd e (HB.out.mp rfl)
    have e1 : (((R f : Nat) : Int) == ((R t : Nat) : Int)) = true := by simp [e]
    have e2 : ((R f : Nat) == R t) = true := by simp [e]
    clear HB HS e KS
    go_wp2
    go_ret
    first | exact ⟨gu_46, rfl, fun _ => Fe_49.out, fun h => (by cases h), Oe_49.out, GZ.out⟩ | exact ⟨rfl, gu_46, Fe_49.out, Oe_49.out, GZ.out⟩
  · obtain rfl : b = true := HB.out.mpr e
    have e1 : (((R f : Nat) : Int) == ((R t : Nat) : Int)) = false := by simp; omega
    have e2 : ((R f : Nat) == R t) = false := by simp [e]
    have sf := HS.out f hf
    have st := HS.out t ht
    have w1 : IntKind.i64.wrap (S f + r) = S f + r := IntWalk.i64_in _ (by omega)
    have w2 : IntKind.i64.wrap (S f + r - S t) = S f + r - S t := IntWalk.i64_in _ (by omega)
    have lt := Fe_49.out.lt t ht
    obtain ⟨-, -, hx⟩ := Fe_49.out.zero (R t) lt (Fe_49.out.idem t ht)
    obtain ⟨⟨d0, d1⟩, ⟨h0, h1⟩, -, lg⟩ := Oe_49.out.at Fe_49.out.len (R t) _ hx
    have HE := Lib.hid e
    have HP := Lib.hid (Oe_49.out.put Fe_49.out.len (R t) _ ⟨(R f : Nat), S f + r - S t⟩ hx)
    have HJ := Lib.hid (Fe_49.out.join r hf ht e)
    have GE : Hid (w.grownBy ((e_49.setCell ⟨gb, R t * 2, none⟩ (.int .i64 (R f : Nat))).setCell ⟨gb, R t * 2 + 1, none⟩ (.int .i64 (S f + r - S t))) (some gb)) := grownBy_trans' (grownBy_trans' GZ.out (grownBy_setCell' _ _ _)) (grownBy_setCell' _ _ _)
    clear HB HS e hx KS sf st
    go_wp2
    go_ret
    first | exact ⟨_, rfl, fun h => (by cases h), fun _ => HJ.out, HP.out, GE.out⟩ | exact ⟨rfl, _, HJ.out, HP.out, GE.out⟩
  go_simp
  generalize hA : World.alloc u_45 (.cells #[.int .i64 0, .int .i64 0] 110) = a_50
  obtain ⟨pf, hp⟩ : ∃ p, p = u_45.heap.size := ⟨_, rfl⟩
  have ba : u_45.grownBy a_50 (some gb) := by rw [← hA]; exact World.grownBy_alloc u_45 _ _
  have Zfa_50 := Lib.hid (show a_50.heap[pf]? = some (.cells #[.int .i64 0, .int .i64 0] 110 (0, 0)) from by rw [← hA, hp]; exact heap_alloc_new _ _)
  have tpf : wb.heap.size ≤ pf := by rw [hp]; exact Du_45.out.size
  have Oa_50 := Lib.hid (show OwnLk a_50 B gb n gu_45 from by rw [← hA]; exact OwnS.alloc Ou_45.out _)
  have Fa_50 := Fu_45
  have nt_f : pt ≠ pf := by have hh := box_ltT Ztu_45.out; rw [hp]; intro e; rw [e] at hh; exact Nat.lt_irrefl _ hh
  have Da_50 : Hid (wb.grownBy a_50 (some gb)) := grownBy_trans' Du_45.out ba
  have Zta_50 := Lib.hid ((ba.block pt (box_ltT Ztu_45.out) (fun e => by have e := Option.some.inj e; omega)).trans Ztu_45.out)
  rw [← hp]
  clear hA hp ba
  refine hK.out _ _ ?_ (fun hHeld => ?_)
  · try dsimp only
    exact KS.out _ Da_50.out
  clear hK K
  try simp only [Act.put, List.setIfInBounds_toArray, List.set_cons_zero, List.set_cons_succ]
  refine wpAnyH_ready (rs := [7]) (by kernel_rfl) (by simp) ?_
  refine (AllReadyH.cons (by (simp only [List.getElem?_toArray, List.getElem?_cons_succ, List.getElem?_cons_zero]); (try exact rfl)) (fun K hK => ?_) AllReadyH.nil)
  go_simp
  go_at_call 85
  refine (CT.out gu_45 _ Fa_50.out Oa_50.out).mono ?_
  rintro e u_51 ⟨gu_51, rfl, hF5, ho5, bb⟩
  have Fu_51 := Lib.hid hF5
  have Ou_51 := Lib.hid ho5
  clear hF5 ho5
  have Du_51 : Hid (wb.grownBy u_51 (some gb)) := grownBy_trans' Da_50.out bb
  have Ztu_51 := Lib.hid ((bb.block pt (box_ltT Zta_50.out) (fun e => by have e := Option.some.inj e; omega)).trans Zta_50.out)
  have Zfu_51 := Lib.hid ((bb.block pf (box_ltT Zfa_50.out) (fun e => by have e := Option.some.inj e; omega)).trans Zfa_50.out)
  clear bb
  (first | refine hK.out _ _ ?_ (fun hHeld => ?_) | (go_wp2_with fail; refine hK.out _ _ ?_ (fun hHeld => ?_)))
  · try dsimp only
    exact KS.out _ Du_51.out
  clear hK K
  try simp only [Act.put, List.setIfInBounds_toArray, List.set_cons_zero, List.set_cons_succ]
  refine wpAnyH_ready (rs := [10]) (by kernel_rfl) (by simp) ?_
  refine AllReadyH.cons (by (simp only [List.getElem?_toArray, List.getElem?_cons_succ, List.getElem?_cons_zero]); (try exact rfl)) (fun K hK => ?_) AllReadyH.nil
  refine step_store_Lk rfl _ _ rfl pf ⟨0, 0⟩ ⟨(R f : Nat), S f⟩ _ rfl rfl Zfu_51.out ?_
  intro e_52 hE oE bE
  have De_52 : Hid (wb.grownBy e_52 (some gb)) := grown_belowT Du_51.out bE tpf
  have Zfe_52 := Lib.hid hE
  have Oe_52 := Lib.hid (own_belowT Ou_51.out bE (by omega))
  have Fe_52 := Fu_51
  have Zte_52 := Lib.hid ((oE pt (by first | assumption | exact Ne.symm (by assumption))).trans Ztu_51.out)
  clear hE oE bE
  refine hK.out _ _ ?_ (fun hHeld => ?_)
  · try dsimp only
    exact KS.out _ De_52.out
  clear hK K
  try simp only [Act.put, List.setIfInBounds_toArray, List.set_cons_zero, List.set_cons_succ]
  refine wpAnyH_ready (rs := [11]) (by kernel_rfl) (by simp) ?_
  refine AllReadyH.cons (by (simp only [List.getElem?_toArray, List.getElem?_cons_succ, List.getElem?_cons_zero]); (try exact rfl)) (fun K hK => ?_) AllReadyH.nil
  refine step_store_Lk rfl _ _ rfl pt ⟨0, 0⟩ ⟨(R t : Nat), S t⟩ _ rfl rfl Zte_52.out ?_
  intro e_53 hE oE bE
  have De_53 : Hid (wb.grownBy e_53 (some gb)) := grown_belowT De_52.out bE tpt
  have Zte_53 := Lib.hid hE
  have Oe_53 := Lib.hid (own_belowT Oe_52.out bE (by omega))
  have Fe_53 := Fe_52
  have Zfe_53 := Lib.hid ((oE pf (by first | assumption | exact Ne.symm (by assumption))).trans Zfe_52.out)
  clear hE oE bE
  refine hK.out _ _ ?_ (fun hHeld => ?_)
  · try dsimp only
    exact KS.out _ De_53.out
  clear hK K
  try simp only [Act.put, List.setIfInBounds_toArray, List.set_cons_zero, List.set_cons_succ]
  refine wpAnyH_done (by kernel_rfl) ?_ _
  obtain ⟨⟨a0, a1⟩, -, -⟩ := boxed2_at Zfe_53.out
  obtain ⟨⟨b0, b1⟩, -, -⟩ := boxed2_at Zte_53.out
  obtain ⟨q0, q1, q2, q3⟩ := KS.out _ De_53.out
  have GZ : Hid (w.grownBy e_53 (some gb)) := grownBy_trans' GW.out De_53.out
  clear hHeld
  by_cases e : R f = R t
  · obtain rfl : b = false := by
      cases b
      · rfl
      · exact absurd e (HB.out.mp rfl)
    have e1 : (((R f : Nat) : Int) == ((R t : Nat) : Int)) = true := by simp [e]
    have e2 : ((R f : Nat) == R t) = true := by simp [e]
    clear HB HS e KS
    go_wp2
    go_ret
    first | exact ⟨gu_51, rfl, fun _ => Fe_53.out, fun h => (by cases h), Oe_53.out, GZ.out⟩ | exact ⟨rfl, gu_51, Fe_53.out, Oe_53.out, GZ.out⟩
  · obtain rfl : b = true := HB.out.mpr e
    have e1 : (((R f : Nat) : Int) == ((R t : Nat) : Int)) = false := by simp; omega
    have e2 : ((R f : Nat) == R t) = false := by simp [e]
    have sf := HS.out f hf
    have st := HS.out t ht
    have w1 : IntKind.i64.wrap (S f + r) = S f + r := IntWalk.i64_in _ (by omega)
    have w2 : IntKind.i64.wrap (S f + r - S t) = S f + r - S t := IntWalk.i64_in _ (by omega)
    have lt := Fe_53.out.lt t ht
    obtain ⟨-, -, hx⟩ := Fe_53.out.zero (R t) lt (Fe_53.out.idem t ht)
    obtain ⟨⟨d0, d1⟩, ⟨h0, h1⟩, -, lg⟩ := Oe_53.out.at Fe_53.out.len (R t) _ hx
    have HE := Lib.hid e
    have HP := Lib.hid (Oe_53.out.put Fe_53.out.len (R t) _ ⟨(R f : Nat), S f + r - S t⟩ hx)
    have HJ := Lib.hid (Fe_53.out.join r hf ht e)
    have GE : Hid (w.grownBy ((e_53.setCell ⟨gb, R t * 2, none⟩ (.int .i64 (R f : Nat))).setCell ⟨gb, R t * 2 + 1, none⟩ (.int .i64 (S f + r - S t))) (some gb)) := grownBy_trans' (grownBy_trans' GZ.out (grownBy_setCell' _ _ _)) (grownBy_setCell' _ _ _)
    clear HB HS e hx KS sf st
    go_wp2
    go_ret
    first | exact ⟨_, rfl, fun h => (by cases h), fun _ => HJ.out, HP.out, GE.out⟩ | exact ⟨rfl, _, HJ.out, HP.out, GE.out⟩
  go_simp
  generalize hA : World.alloc a_44 (.cells #[.int .i64 0, .int .i64 0] 110) = a_54
  obtain ⟨pf, hp⟩ : ∃ p, p = a_44.heap.size := ⟨_, rfl⟩
  have ba : a_44.grownBy a_54 (some gb) := by rw [← hA]; exact World.grownBy_alloc a_44 _ _
  have Zfa_54 := Lib.hid (show a_54.heap[pf]? = some (.cells #[.int .i64 0, .int .i64 0] 110 (0, 0)) from by rw [← hA, hp]; exact heap_alloc_new _ _)
  have tpf : wb.heap.size ≤ pf := by rw [hp]; exact Da_44.out.size
  have Oa_54 := Lib.hid (show OwnLk a_54 B gb n g from by rw [← hA]; exact OwnS.alloc Oa_44.out _)
  have Fa_54 := Fa_44
  have nt_f : pt ≠ pf := by have hh := box_ltT Zta_44.out; rw [hp]; intro e; rw [e] at hh; exact Nat.lt_irrefl _ hh
  have Da_54 : Hid (wb.grownBy a_54 (some gb)) := grownBy_trans' Da_44.out ba
  have Zta_54 := Lib.hid ((ba.block pt (box_ltT Zta_44.out) (fun e => by have e := Option.some.inj e; omega)).trans Zta_44.out)
  rw [← hp]
  clear hA hp ba
  refine hK.out _ _ ?_ (fun hHeld => ?_)
  · try dsimp only
    exact KS.out _ Da_54.out
  clear hK K
  try simp only [Act.put, List.setIfInBounds_toArray, List.set_cons_zero, List.set_cons_succ]
  refine wpAnyH_ready (rs := [3]) (by kernel_rfl) (by simp) ?_
  refine (AllReadyH.cons (by (simp only [List.getElem?_toArray, List.getElem?_cons_succ, List.getElem?_cons_zero]); (try exact rfl)) (fun K hK => ?_) AllReadyH.nil)
  go_simp
  go_at_call 85
  refine (CF.out g _ Fa_54.out Oa_54.out).mono ?_
  rintro e u_55 ⟨gu_55, rfl, hF5, ho5, bb⟩
  have Fu_55 := Lib.hid hF5
  have Ou_55 := Lib.hid ho5
  clear hF5 ho5
  have Du_55 : Hid (wb.grownBy u_55 (some gb)) := grownBy_trans' Da_54.out bb
  have Ztu_55 := Lib.hid ((bb.block pt (box_ltT Zta_54.out) (fun e => by have e := Option.some.inj e; omega)).trans Zta_54.out)
  have Zfu_55 := Lib.hid ((bb.block pf (box_ltT Zfa_54.out) (fun e => by have e := Option.some.inj e; omega)).trans Zfa_54.out)
  clear bb
  (first | refine hK.out _ _ ?_ (fun hHeld => ?_) | (go_wp2_with fail; refine hK.out _ _ ?_ (fun hHeld => ?_)))
  · try dsimp only
    exact KS.out _ Du_55.out
  clear hK K
  try simp only [Act.put, List.setIfInBounds_toArray, List.set_cons_zero, List.set_cons_succ]
  refine wpAnyH_ready (rs := [7]) (by kernel_rfl) (by simp) ?_
  refine (AllReadyH.cons (by (simp only [List.getElem?_toArray, List.getElem?_cons_succ, List.getElem?_cons_zero]); (try exact rfl)) (fun K hK => ?_) AllReadyH.nil)
  go_simp
  go_at_call 85
  refine (CT.out gu_55 _ Fu_55.out Ou_55.out).mono ?_
  rintro e u_56 ⟨gu_56, rfl, hF5, ho5, bb⟩
  have Fu_56 := Lib.hid hF5
  have Ou_56 := Lib.hid ho5
  clear hF5 ho5
  have Du_56 : Hid (wb.grownBy u_56 (some gb)) := grownBy_trans' Du_55.out bb
  have Ztu_56 := Lib.hid ((bb.block pt (box_ltT Ztu_55.out) (fun e => by have e := Option.some.inj e; omega)).trans Ztu_55.out)
  have Zfu_56 := Lib.hid ((bb.block pf (box_ltT Zfu_55.out) (fun e => by have e := Option.some.inj e; omega)).trans Zfu_55.out)
  clear bb
  (first | refine hK.out _ _ ?_ (fun hHeld => ?_) | (go_wp2_with fail; refine hK.out _ _ ?_ (fun hHeld => ?_)))
  · try dsimp only
    exact KS.out _ Du_56.out
  clear hK K
  try simp only [Act.put, List.setIfInBounds_toArray, List.set_cons_zero, List.set_cons_succ]
  refine wpAnyH_ready (rs := [10]) (by kernel_rfl) (by simp) ?_
  refine AllReadyH.cons (by (simp only [List.getElem?_toArray, List.getElem?_cons_succ, List.getElem?_cons_zero]); (try exact rfl)) (fun K hK => ?_) AllReadyH.nil
  refine step_store_Lk rfl _ _ rfl pf ⟨0, 0⟩ ⟨(R f : Nat), S f⟩ _ rfl rfl Zfu_56.out ?_
  intro e_57 hE oE bE
  have De_57 : Hid (wb.grownBy e_57 (some gb)) := grown_belowT Du_56.out bE tpf
  have Zfe_57 := Lib.hid hE
  have Oe_57 := Lib.hid (own_belowT Ou_56.out bE (by omega))
  have Fe_57 := Fu_56
  have Zte_57 := Lib.hid ((oE pt (by first | assumption | exact Ne.symm (by assumption))).trans Ztu_56.out)
  clear hE oE bE
  refine hK.out _ _ ?_ (fun hHeld => ?_)
  · try dsimp only
    exact KS.out _ De_57.out
  clear hK K
  try simp only [Act.put, List.setIfInBounds_toArray, List.set_cons_zero, List.set_cons_succ]
  refine wpAnyH_ready (rs := [11]) (by kernel_rfl) (by simp) ?_
  refine AllReadyH.cons (by (simp only [List.getElem?_toArray, List.getElem?_cons_succ, List.getElem?_cons_zero]); (try exact rfl)) (fun K hK => ?_) AllReadyH.nil
  refine step_store_Lk rfl _ _ rfl pt ⟨0, 0⟩ ⟨(R t : Nat), S t⟩ _ rfl rfl Zte_57.out ?_
  intro e_58 hE oE bE
  have De_58 : Hid (wb.grownBy e_58 (some gb)) := grown_belowT De_57.out bE tpt
  have Zte_58 := Lib.hid hE
  have Oe_58 := Lib.hid (own_belowT Oe_57.out bE (by omega))
  have Fe_58 := Fe_57
  have Zfe_58 := Lib.hid ((oE pf (by first | assumption | exact Ne.symm (by assumption))).trans Zfe_57.out)
  clear hE oE bE
  refine hK.out _ _ ?_ (fun hHeld => ?_)
  · try dsimp only
    exact KS.out _ De_58.out
  clear hK K
  try simp only [Act.put, List.setIfInBounds_toArray, List.set_cons_zero, List.set_cons_succ]
  refine wpAnyH_done (by kernel_rfl) ?_ _
  obtain ⟨⟨a0, a1⟩, -, -⟩ := boxed2_at Zfe_58.out
  obtain ⟨⟨b0, b1⟩, -, -⟩ := boxed2_at Zte_58.out
  obtain ⟨q0, q1, q2, q3⟩ := KS.out _ De_58.out
  have GZ : Hid (w.grownBy e_58 (some gb)) := grownBy_trans' GW.out De_58.out
  clear hHeld
  by_cases e : R f = R t
  · obtain rfl : b = false := by
      cases b
      · rfl
      · exact absurd e (HB.out.mp rfl)
    have e1 : (((R f : Nat) : Int) == ((R t : Nat) : Int)) = true := by simp [e]
    have e2 : ((R f : Nat) == R t) = true := by simp [e]
    clear HB HS e KS
    go_wp2
    go_ret
    first | exact ⟨gu_56, rfl, fun _ => Fe_58.out, fun h => (by cases h), Oe_58.out, GZ.out⟩ | exact ⟨rfl, gu_56, Fe_58.out, Oe_58.out, GZ.out⟩
  · obtain rfl : b = true := HB.out.mpr e
    have e1 : (((R f : Nat) : Int) == ((R t : Nat) : Int)) = false := by simp; omega
    have e2 : ((R f : Nat) == R t) = false := by simp [e]
    have sf := HS.out f hf
    have st := HS.out t ht
    have w1 : IntKind.i64.wrap (S f + r) = S f + r := IntWalk.i64_in _ (by omega)
    have w2 : IntKind.i64.wrap (S f + r - S t) = S f + r - S t := IntWalk.i64_in _ (by omega)
    have lt := Fe_58.out.lt t ht
    obtain ⟨-, -, hx⟩ := Fe_58.out.zero (R t) lt (Fe_58.out.idem t ht)
    obtain ⟨⟨d0, d1⟩, ⟨h0, h1⟩, -, lg⟩ := Oe_58.out.at Fe_58.out.len (R t) _ hx
    have HE := Lib.hid e
    have HP := Lib.hid (Oe_58.out.put Fe_58.out.len (R t) _ ⟨(R f : Nat), S f + r - S t⟩ hx)
    have HJ := Lib.hid (Fe_58.out.join r hf ht e)
    have GE : Hid (w.grownBy ((e_58.setCell ⟨gb, R t * 2, none⟩ (.int .i64 (R f : Nat))).setCell ⟨gb, R t * 2 + 1, none⟩ (.int .i64 (S f + r - S t))) (some gb)) := grownBy_trans' (grownBy_trans' GZ.out (grownBy_setCell' _ _ _)) (grownBy_setCell' _ _ _)
    clear HB HS e hx KS sf st
    go_wp2
    go_ret
    first | exact ⟨_, rfl, fun h => (by cases h), fun _ => HJ.out, HP.out, GE.out⟩ | exact ⟨rfl, _, HJ.out, HP.out, GE.out⟩
end Go.Proofs.YtcmocilojloolaaDoor
