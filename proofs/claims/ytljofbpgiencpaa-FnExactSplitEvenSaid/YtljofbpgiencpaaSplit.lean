/- Walks of the functions that divide a total into parts. -/
import Derived.Test.YtljofbpgiencpaaInts
import Derived.Deep.RegionHeld3
import Derived.StillTailTactics
import Derived.Deep.AppendLies
import Derived.WalkSpells
namespace Go.Proofs.Ytljofbpgiencpaa
open Go.ChangeShapes Go.WideShapes Go.ChangeAt Go.RowKit
set_option linter.unusedVariables false
set_option linter.unusedSimpArgs false

/-- The first n parts of t, divided into p parts. -/
def partsOf (t p : Int) (n : Nat) : List Int := (List.range n).map fun (k : Nat) => ((k : Int) + 1) * t / p - (k : Int) * t / p

theorem partsOf_length (t p : Int) (n : Nat) : (partsOf t p n).length = n := by simp [partsOf]
theorem partsOf_succ (t p : Int) (n : Nat) : partsOf t p (n + 1) = partsOf t p n ++ [((n : Int) + 1) * t / p - (n : Int) * t / p] := by
  simp [partsOf, List.range_succ]

theorem part_bd {t p : Int} {k : Nat} (h0 : 0 ≤ t) (h1 : t ≤ 1000000000) (h2 : 1 ≤ p) (h3 : p ≤ 64) (hk : (k : Int) < p) :
    0 ≤ (k : Int) * t ∧ (k : Int) * t ≤ 64000000000 ∧ 0 ≤ ((k : Int) + 1) * t ∧ ((k : Int) + 1) * t ≤ 65000000000 ∧ 0 ≤ (k : Int) * t / p ∧ (k : Int) * t / p ≤ 64000000000 ∧ 0 ≤ ((k : Int) + 1) * t / p ∧ ((k : Int) + 1) * t / p ≤ 65000000000 := by
  have a0 : 0 ≤ (k : Int) * t := Int.mul_nonneg (by omega) h0
  have a1 : (k : Int) * t ≤ 64 * t := Int.mul_le_mul_of_nonneg_right (by omega) h0
  have e : ((k : Int) + 1) * t = (k : Int) * t + t := by rw [Int.add_mul, Int.one_mul]
  have b0 := Int.ediv_nonneg a0 (show 0 ≤ p by omega)
  have b1 := Int.ediv_le_self p a0
  have c0 := Int.ediv_nonneg (a := ((k : Int) + 1) * t) (b := p) (by omega) (by omega)
  have c1 := Int.ediv_le_self (a := ((k : Int) + 1) * t) p (by omega)
  omega

set_option maxHeartbeats 2000000 in
theorem l01Split_any (t p : Int) (h0 : 0 ≤ t) (h1 : t ≤ 1000000000) (h2 : 1 ≤ p) (h3 : p ≤ 64) (w : World) :
    Calls Try.prog 58 #[.int .i64 t, .int .i64 p] w fun e w' => ∃ v, e = .returned v ∧ OwnI w' w.heap.size v (partsOf t p p.toNat) ∧ Below w.heap.size w w' := by
  obtain ⟨i0, hi, hz0, hz1, hz2⟩ := info_parts info_i64
  go_enter Try.func58, Try.ntmps58
  go_wp2
  have O0 : Hid (OwnI (w.alloc (.cells #[] 2)) w.heap.size (.slice (some ⟨w.heap.size, 0, none⟩) 0 0) (partsOf t p 0)) :=
    World.ownsRow_lit (e := 2) (size := 1) w #[] 0 (Nat.le_refl _) (by decide) rfl
  have B0 : Hid (Below w.heap.size w (w.alloc (.cells #[] 2))) := (Below.refl _ _).alloc (Nat.le_refl _) _
  go_loopw [5, 6] (fun v i wr => ∃ k : Nat, (k : Int) ≤ p ∧ i = .int .i64 k ∧ Hid (OwnI wr w.heap.size v (partsOf t p k)) ∧ Hid (Below w.heap.size w wr)) (fun _ i _ => (p - intOf i).toNat)
  case atStart => exact ⟨0, by omega, rfl, O0, B0⟩
  case round =>
    obtain ⟨k, hk, rfl, ho, hb⟩ := hrel
    clear O0 B0
    by_cases hlt : (k : Int) < p
    · obtain ⟨g1, g2, g3, g4, g5, g6, g7, g8⟩ := part_bd h0 h1 h2 h3 hlt
      have q1 : IntKind.i64.wrap ((k : Int) + 1) = (k : Int) + 1 := IntWalk.i64_in _ (by omega)
      have q2 : IntKind.i64.wrap (((k : Int) + 1) * t) = ((k : Int) + 1) * t := IntWalk.i64_in _ (by omega)
      have q3 : IntKind.i64.wrap ((((k : Int) + 1) * t).tdiv p) = ((k : Int) + 1) * t / p := IntWalk.i64_quo _ _ (by omega)
      have q4 : IntKind.i64.wrap ((k : Int) * t) = (k : Int) * t := IntWalk.i64_in _ (by omega)
      have q5 : IntKind.i64.wrap (((k : Int) * t).tdiv p) = (k : Int) * t / p := IntWalk.i64_quo _ _ (by omega)
      have q6 : IntKind.i64.wrap (((k : Int) + 1) * t / p - (k : Int) * t / p) = ((k : Int) + 1) * t / p - (k : Int) * t / p := IntWalk.i64_in _ (by omega)
      have z0 : ¬ p = 0 := by omega
      have z1 : (p == 0) = false := by simpa using z0
      have z2 : (0 == p) = false := by simp; omega
      have hsz := hb.out.size
      have hle := partsOf_length t p k
      have own := ho.out
      unfold OwnI at own
      rw [hle] at own
      have OWN := Lib.hid own
      clear own hle
      go_wp2
      clear g1 g2 g3 g4 g5 g6 g7 g8
      go_region_held3 (fun _ => True) (first | trivial) ((refine step_append_lies _ (by rfl) _ _ _ (by rfl) w.heap.size 2 i0 _ 1 8 Try.underlying32 hi hz0 hz1 hz2 rfl (by omega) _ _ _ (by rfl) ((OWN.out.alloc _).drew) ⟨wr.heap.size, 0, none⟩ 1 1 [.int .i64 (((k : Int) + 1) * t / p - (k : Int) * t / p)] (by rfl) (by rfl) (World.news_of_block (cs := #[.int .i64 (((k : Int) + 1) * t / p - (k : Int) * t / p)]) (t := 2) (fr := (0, 0)) (heap_alloc_new wr _)) (by simp [Value.oneCell']) (by omega) (by unfold maxLen; omega) (by omega) (by simp; omega) (wr.heap.size + 1) (by simp) ?_; intro gg cap w1 hown1 hgrow hat hlt'))
      have hlt1 := OWN.out.lt
      have s1 : Hid (OwnI w1 w.heap.size (.slice (some ⟨gg, 0, none⟩) (k + 1) cap) (partsOf t p (k + 1))) := by
        show OwnI _ _ _ _
        unfold OwnI
        rw [partsOf_length, partsOf_succ, List.map_append]
        exact hown1
      have s2 : Hid (Below w.heap.size w w1) := (((hb.out.alloc hsz _).drew).grown hgrow (by simp; omega) (fun j hj => (hlt1 j hj).1))
      clear hown1 hgrow hat hlt' hlt1 OWN ho hb q1 q2 q3 q4 q5 q6 z0 z1 z2
      go_wp2
      exact ⟨⟨k + 1, by omega, by go_num, s1, s2⟩, by simp only [intOf]; omega⟩
    · have e : k = p.toNat := by omega
      have ho' := ho.out
      rw [e] at ho'
      have HO := Lib.hid ho'
      clear ho' ho e
      go_wp2
      go_ret
      exact ⟨_, rfl, HO.out, hb.out⟩

set_option maxHeartbeats 2000000 in
theorem implSplit_any (t p : Int) (h0 : 0 ≤ t) (h1 : t ≤ 1000000000) (h2 : 1 ≤ p) (h3 : p ≤ 64) (w : World) :
    Calls Try.prog 20 #[.int .i64 t, .int .i64 p] w fun e w' => ∃ v, e = .returned (.tuple #[v, .bool true]) ∧ OwnI w' w.heap.size v (partsOf t p p.toNat) ∧ Below w.heap.size w w' := by
  obtain ⟨i0, hi, hz0, hz1, hz2⟩ := info_parts info_i64
  obtain ⟨n, rfl⟩ : ∃ n : Nat, p = n := ⟨p.toNat, by omega⟩
  rw [Int.toNat_natCast]
  go_enter Try.func20, Try.ntmps20
  go_wp2_with (first | (at_make; refine wpList_make_full _ rfl _ _ _ rfl w.heap.size 2 i0 (.int .i64 0) 1 Try.underlying32 hi hz0 hz1 .i64 .i64 _ _ n rfl rfl rfl rfl ?b2 ?b3 (Nat.le_refl _) ?_) | go_in)
  case b2 => rw [hz2]; omega
  case b3 => unfold maxLen; omega
  intro w1 hown hg
  rw [toList_madeCells_one] at hown
  have O1 : Hid (OwnI w1 w.heap.size (.slice (some ⟨w.heap.size, 0, none⟩) n n) (List.replicate n 0)) := by
    show OwnI _ _ _ _
    unfold OwnI
    rw [List.length_replicate, List.map_replicate]
    exact hown
  have B1 : Hid (Below w.heap.size w w1) := (Below.refl _ _).grown hg (Nat.le_refl _) (fun k h => by cases h)
  clear hown hg
  go_wp2
  go_loopw [19] (fun i wr => ∃ k : Nat, k ≤ n ∧ i = .int .i64 k ∧ Hid (OwnI wr w.heap.size (.slice (some ⟨w.heap.size, 0, none⟩) n n) (partsOf t n k ++ List.replicate (n - k) 0)) ∧ Hid (Below w.heap.size w wr)) (fun i _ => n - (intOf i).toNat)
  case atStart => exact ⟨0, by omega, rfl, O1, B1⟩
  case round =>
    obtain ⟨k, hk, rfl, ho, hb⟩ := hrel
    clear O1 B1
    have hlen : (partsOf t n k ++ List.replicate (n - k) (0 : Int)).length = n := by simp [partsOf_length]; omega
    by_cases hlt : k < n
    · obtain ⟨g1, g2, g3, g4, g5, g6, g7, g8⟩ := part_bd h0 h1 h2 h3 (show (k : Int) < n by omega)
      have q1 : IntKind.i64.wrap ((k : Int) + 1) = (k : Int) + 1 := IntWalk.i64_in _ (by omega)
      have q2 : IntKind.i64.wrap (((k : Int) + 1) * t) = ((k : Int) + 1) * t := IntWalk.i64_in _ (by omega)
      have q3 : IntKind.i64.wrap ((((k : Int) + 1) * t).tdiv n) = ((k : Int) + 1) * t / n := IntWalk.i64_quo _ _ (by omega)
      have q4 : IntKind.i64.wrap ((k : Int) * t) = (k : Int) * t := IntWalk.i64_in _ (by omega)
      have q5 : IntKind.i64.wrap (((k : Int) * t).tdiv n) = (k : Int) * t / n := IntWalk.i64_quo _ _ (by omega)
      have q6 : IntKind.i64.wrap (((k : Int) + 1) * t / n - (k : Int) * t / n) = ((k : Int) + 1) * t / n - (k : Int) * t / n := IntWalk.i64_in _ (by omega)
      have z1 : (((n : Nat) : Int) == 0) = false := by simp; omega
      have z3 : ¬ n = 0 := by omega
      have i1 : (0 : Int) ≤ (k : Int) := by omega
      have i2 : (k : Int) < (n : Int) := by omega
      have own := ho.out
      unfold OwnI at own
      rw [hlen] at own
      have c2 := own.cellAt k (by omega)
      have hx2 : (partsOf t n k ++ List.replicate (n - k) (0 : Int))[k]? = some 0 := by
        rw [List.getElem?_append_right (by rw [partsOf_length]; omega), partsOf_length, Nat.sub_self, List.getElem?_replicate, if_pos (by omega)]
      rw [List.getElem?_map, hx2] at c2
      simp only [Option.map_some] at c2
      have f1 := own.frozenAt k
      have s1 : Hid (OwnI (wr.setCell ⟨w.heap.size, k, none⟩ (.int .i64 (((k : Int) + 1) * t / n - (k : Int) * t / n))) w.heap.size (.slice (some ⟨w.heap.size, 0, none⟩) n n) (partsOf t n (k + 1) ++ List.replicate (n - (k + 1)) 0)) := by
        have := ho.out.stored hlen.symm k (((k : Int) + 1) * t / n - (k : Int) * t / n) (by omega)
        rw [List.set_append_right _ _ (by rw [partsOf_length]; omega), partsOf_length, Nat.sub_self, show n - k = (n - (k + 1)) + 1 by omega, List.replicate_succ, List.set_cons_zero] at this
        show OwnI _ _ _ _
        rw [partsOf_succ]
        simpa using this
      have s2 : Hid (Below w.heap.size w (wr.setCell ⟨w.heap.size, k, none⟩ (.int .i64 (((k : Int) + 1) * t / n - (k : Int) * t / n)))) := hb.out.setCell (Nat.le_refl _) _
      clear own hlen ho hx2 hb
      go_wp2
      clear g1 g2 g3 g4 g5 g6 g7 g8
      go_still_tail 15, (by kernel_rfl)
      go_wp2
      exact ⟨⟨k + 1, by omega, by go_num, s1, s2.out.drew⟩, by simp only [intOf]; omega⟩
    · obtain rfl : k = n := by omega
      have ho' := ho.out
      rw [Nat.sub_self, List.replicate_zero, List.append_nil] at ho'
      have HO := Lib.hid ho'
      clear ho' ho hlen
      go_wp2
      go_ret2
      exact ⟨_, rfl, HO.out, hb.out⟩

theorem specSplit_yes (t p : Int) (h0 : 0 ≤ t) (h1 : t ≤ 1000000000) (h2 : 1 ≤ p) (h3 : p ≤ 64) (w : World) :
    Calls Try.prog 32 #[.int .i64 t, .int .i64 p] w fun e w' => ∃ v, e = .returned (.tuple #[v, .bool true]) ∧ OwnI w' w.heap.size v (partsOf t p p.toNat) ∧ Below w.heap.size w w' := by
  go_enter Try.func32, Try.ntmps32
  go_wp2_with (first | (go_at_call 58; (with_reducible refine (l01Split_any t p h0 h1 h2 h3 _).mono ?_); rintro e x1 ⟨v1, rfl, o1, e1⟩) | go_in)
  go_ret2
  exact ⟨_, rfl, by assumption, by assumption⟩

theorem specSplit_no (t p : Int) (h : decide (0 ≤ t) = false ∨ (0 ≤ t ∧ decide (t ≤ 1000000000) = false) ∨ (0 ≤ t ∧ t ≤ 1000000000 ∧ decide (1 ≤ p) = false) ∨ (0 ≤ t ∧ t ≤ 1000000000 ∧ 1 ≤ p ∧ decide (p ≤ 64) = false)) (w : World) :
    Calls Try.prog 32 #[.int .i64 t, .int .i64 p] w fun e w' => e = .returned (.tuple #[.slice none 0 0, .bool false]) ∧ w = w' := by
  rcases h with h | ⟨h0, h⟩ | ⟨h0, h1, h⟩ | ⟨h0, h1, h2, h⟩
  all_goals
    go_enter Try.func32, Try.ntmps32
    go_wp2
    go_ret2
    exact ⟨rfl, rfl⟩

theorem implSplit_no (t p : Int) (h : decide (0 ≤ t) = false ∨ (0 ≤ t ∧ decide (t ≤ 1000000000) = false) ∨ (0 ≤ t ∧ t ≤ 1000000000 ∧ decide (1 ≤ p) = false) ∨ (0 ≤ t ∧ t ≤ 1000000000 ∧ 1 ≤ p ∧ decide (p ≤ 64) = false)) (w : World) :
    Calls Try.prog 20 #[.int .i64 t, .int .i64 p] w fun e w' => e = .returned (.tuple #[.slice none 0 0, .bool false]) ∧ w = w' := by
  rcases h with h | ⟨h0, h⟩ | ⟨h0, h1, h⟩ | ⟨h0, h1, h2, h⟩
  all_goals
    go_enter Try.func20, Try.ntmps20
    go_wp2
    go_ret2
    exact ⟨rfl, rfl⟩

theorem OwnI.nil (w : World) (B : Nat) : OwnI w B (.slice none 0 0) [] := World.ownsRow_nil _ _ _ _

theorem own_apart (v u : Value) (m : Nat) (hv : ∀ k, v.ownBlock = some k → k < m) (hu : ∀ k, u.ownBlock = some k → m ≤ k) : v.ownBlock = none ∨ v.ownBlock ≠ u.ownBlock := by
  cases e : v.ownBlock with
  | none => exact .inl rfl
  | some k =>
    refine .inr fun h => ?_
    have := hv k e
    have := hu k h.symm
    omega

/-- What both functions answer: one list of at most 64 numbers, in memory of the call's own. -/
def Answers (f : Nat) (args : Array Value) (L : List Int) (b : Bool) : Prop :=
  ∀ w : World, Calls Try.prog f args w fun e w' => ∃ v, e = .returned (.tuple #[v, .bool b]) ∧ OwnI w' w.heap.size v L ∧ Below w.heap.size w w'

set_option maxHeartbeats 2000000 in
theorem splitEven_law (t p : Int) (L : List Int) (b : Bool) (hL : L.length ≤ 1000) (cs : Hid (Answers 32 #[.int .i64 t, .int .i64 p] L b)) (ci : Hid (Answers 20 #[.int .i64 t, .int .i64 p] L b)) (w : World) :
    Calls Try.prog 10 #[.int .i64 t, .int .i64 p] w fun e w' => e = .returned (.bool true) ∧ Below w.heap.size w w' := by
  go_enter Try.func10, Try.ntmps10
  go_wp2_with fail
  refine (cs.out w).mono ?_
  rintro e x1 ⟨v1, rfl, o1, e1⟩
  have L1 : Hid (∀ k, v1.ownBlock = some k → k < x1.heap.size) := fun k hk => (o1.lt k hk).2
  have O1 := Lib.hid o1
  have E1 := Lib.hid e1
  clear o1 e1
  go_wp2_with fail
  refine (ci.out x1).mono ?_
  rintro e x2 ⟨v2, rfl, o2, e2⟩
  have O1' : Hid (OwnI x2 w.heap.size v1 L) := O1.out.below e2 (fun k hk => (O1.out.lt k hk).2)
  have E2 : Hid (Below w.heap.size w x2) := E1.out.trans (e2.mono E1.out.size)
  have O2 := Lib.hid o2
  have SZ := E1.out.size
  have SZ2 := e2.size
  clear o2 O1 E1 e2
  go_wp2_with fail
  refine (eqInts_any v2 v1 L L x2 O2.out.rd O1'.out.rd (by omega) (by omega) true (by simp) ).mono ?_
  rintro e x3 ⟨rfl, n1, rfl⟩
  go_wp2_with fail
  refine (markInts_any v2 L (x2.drewN n1) x1.heap.size (O2.out.drewN n1) (by omega) 1 (by omega) (by omega)).mono ?_
  rintro e x4 ⟨rfl, o4, g4⟩
  have O1'' : Hid (OwnI x4 w.heap.size v1 L) := (O1'.out.drewN n1).kept g4 (own_apart v1 v2 x1.heap.size L1.out (fun k hk => (O2.out.lt k hk).1))
  have E4 : Hid (Below w.heap.size w x4) := (below_drewN E2.out n1).grown g4 (by simp; omega) (fun k hk => by have := (O2.out.lt k hk).1; omega)
  have O4 := Lib.hid o4
  have SZ4 : x2.heap.size ≤ x4.heap.size := g4.size
  clear o4 g4 O1' O2 E2
  go_wp2_with fail
  refine (heldInts_any v2 L.length 1 x4 O4.out.rd (by omega) (by omega) (by omega)).mono ?_
  rintro e x5 ⟨rfl, rfl⟩
  go_wp2_with fail
  refine (ci.out x4).mono ?_
  rintro e x6 ⟨v3, rfl, o6, e6⟩
  have O1 : Hid (OwnI x6 w.heap.size v1 L) := O1''.out.below e6 (fun k hk => (O1''.out.lt k hk).2)
  have O2 : Hid (OwnI x6 x1.heap.size v2 (upFrom 1 L.length)) := O4.out.below e6 (fun k hk => (O4.out.lt k hk).2)
  have E6 : Hid (Below w.heap.size w x6) := E4.out.trans (e6.mono E4.out.size)
  have O6 := Lib.hid o6
  clear o6 e6 O1'' O4 E4
  go_wp2_with fail
  refine (eqInts_any v3 v1 L L x6 O6.out.rd O1.out.rd (by omega) (by omega) true (by simp)).mono ?_
  rintro e x7 ⟨rfl, n2, rfl⟩
  go_wp2_with fail
  refine (heldInts_any v2 L.length 1 (x6.drewN n2) (O2.out.drewN n2).rd (by omega) (by omega) (by omega)).mono ?_
  rintro e x8 ⟨rfl, rfl⟩
  go_wp2_with fail
  go_ret
  exact ⟨rfl, below_drewN E6.out n2⟩

theorem walkFnExactSplitEven (t : Int) (w0 : (Lit.int .i64 t).wf = true) (p : Int) (w1 : (Lit.int .i64 p).wf = true) (w : World) :
    Calls Try.prog 10 #[.int .i64 t, .int .i64 p] w fun e w' => e = .returned (.bool true) ∧ Below w.heap.size w w' := by
  by_cases hv : 0 ≤ t ∧ t ≤ 1000000000 ∧ 1 ≤ p ∧ p ≤ 64
  · obtain ⟨h0, h1, h2, h3⟩ := hv
    exact splitEven_law t p _ true (by rw [partsOf_length]; omega) (fun w => specSplit_yes t p h0 h1 h2 h3 w) (fun w => implSplit_any t p h0 h1 h2 h3 w) w
  · have h : decide (0 ≤ t) = false ∨ (0 ≤ t ∧ decide (t ≤ 1000000000) = false) ∨ (0 ≤ t ∧ t ≤ 1000000000 ∧ decide (1 ≤ p) = false) ∨ (0 ≤ t ∧ t ≤ 1000000000 ∧ 1 ≤ p ∧ decide (p ≤ 64) = false) := by
      simp only [decide_eq_false_iff_not]; omega
    exact splitEven_law t p [] false (by simp) (fun w => (specSplit_no t p h w).mono fun e w' ⟨he, hw⟩ => ⟨_, he, hw ▸ OwnI.nil _ _, hw ▸ Below.refl _ _⟩)
      (fun w => (implSplit_no t p h w).mono fun e w' ⟨he, hw⟩ => ⟨_, he, hw ▸ OwnI.nil _ _, hw ▸ Below.refl _ _⟩) w
end Go.Proofs.Ytljofbpgiencpaa
