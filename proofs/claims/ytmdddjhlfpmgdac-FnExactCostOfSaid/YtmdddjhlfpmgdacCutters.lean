/- What the laws' own helpers do with slices of cutters. -/
import Derived.Test.YtmdddjhlfpmgdacRecs
import Derived.StillTailTactics
import Derived.WalkSpells
namespace Go.Proofs.Ytmdddjhlfpmgdac
open Go.ChangeShapes Go.WideShapes Go.ChangeAt Go.RowKit
set_option linter.unusedVariables false
set_option linter.unusedSimpArgs false

/-- A cutter, field by field. -/
structure Cu where
  k : Int
  l : Int

theorem Cu.eq {a b : Cu} (h0 : a.k = b.k) (h1 : a.l = b.l) : a = b := by
  cases a; cases b; simp_all

def encCu (q : Cu) : List Value := [.int .i64 q.k, .int .i64 q.l]
theorem encCu_len (q : Cu) : (encCu q).length = 2 := rfl

/-- A box of 2 cells is in a later world as it was. -/
theorem boxCu {N : Nat} {w w' : World} {g : Nat} {t : TypeId} {q : Cu} (B : Below N w w') (hN : g < N) (h : w.heap[g]? = some (.cells #[.int .i64 q.k, .int .i64 q.l] t (0, 0))) :
    w'.cell? ⟨g, 0, none⟩ = some (.int .i64 q.k) ∧ w'.cell? ⟨g, 1, none⟩ = some (.int .i64 q.l) := by
  have h' := (B.block g hN).trans h
  exact ⟨cell_of_row w' g 0 _ t _ h', cell_of_row w' g 1 _ t _ h'⟩

/-- What the walk wants of a box. -/
theorem boxCu_at {w : World} {g : Nat} {t : TypeId} {q : Cu} (h : w.heap[g]? = some (.cells #[.int .i64 q.k, .int .i64 q.l] t (0, 0))) :
    (w.cell? ⟨g, 0, none⟩ = some (.int .i64 q.k) ∧ w.cell? ⟨g, 1, none⟩ = some (.int .i64 q.l)) ∧ (w.frozen? ⟨g, 0, none⟩ = false ∧ w.frozen? ⟨g, 1, none⟩ = false) ∧ g < w.heap.size :=
  ⟨⟨cell_of_row w g 0 _ t _ h, cell_of_row w g 1 _ t _ h⟩, ⟨frozen_of_row w g 0 _ t h, frozen_of_row w g 1 _ t h⟩, (Array.getElem?_eq_some_iff.1 h).1⟩

/-- A box that is written whole. -/
theorem boxCu_put {w : World} {g : Nat} {t : TypeId} {q : Cu} (h : w.heap[g]? = some (.cells #[.int .i64 q.k, .int .i64 q.l] t (0, 0))) (q' : Cu) :
    ((w.setCell ⟨g, 0, none⟩ (.int .i64 q'.k)).setCell ⟨g, 1, none⟩ (.int .i64 q'.l)).heap[g]? = some (.cells #[.int .i64 q'.k, .int .i64 q'.l] t (0, 0)) := by
  have h1 := (heap_setCell_same _ g 1 _ t (.int .i64 q'.l) (heap_setCell_same _ g 0 _ t (.int .i64 q'.k) h))
  simpa using h1

theorem boxCu_other {w : World} {g : Nat} (q' : Cu) (j : Nat) (hj : j ≠ g) :
    ((w.setCell ⟨g, 0, none⟩ (.int .i64 q'.k)).setCell ⟨g, 1, none⟩ (.int .i64 q'.l)).heap[j]? = w.heap[j]? := by
  rw [heap_setCell_other _ _ _ _ hj, heap_setCell_other _ _ _ _ hj]

/-- The numbers q, q + 1, .. as cutters. -/
def upCu (q : Int) : Nat → List Cu
  | 0 => []
  | n + 1 => ⟨q, q + 1⟩ :: upCu (q + 2) n

theorem upCu_length (q : Int) (n : Nat) : (upCu q n).length = n := by
  induction n generalizing q with
  | zero => rfl
  | succ n ih => simp [upCu, ih]

theorem upCu_get (q : Int) (n i : Nat) (h : i < n) : (upCu q n)[i]? = some ⟨q + 2 * i, q + 2 * i + 1⟩ := by
  induction n generalizing q i with
  | zero => omega
  | succ n ih =>
    cases i with
    | zero => simp [upCu]
    | succ i =>
      simp only [upCu, List.getElem?_cons_succ]
      rw [ih (q + 2) i (by omega)]
      congr 1
      apply Cu.eq <;> simp only [] <;> push_cast <;> omega

theorem upCu_succ (q : Int) (i : Nat) : upCu q (i + 1) = upCu q i ++ [⟨q + 2 * i, q + 2 * i + 1⟩] := by
  induction i generalizing q with
  | zero => simp [upCu]
  | succ i ih =>
    rw [upCu, ih (q + 2), upCu, List.cons_append]
    congr 3
    apply Cu.eq <;> simp only [] <;> push_cast <;> omega

def markedCu (q : Int) (xs : List Cu) (i : Nat) : List Cu := upCu q i ++ xs.drop i

theorem markedCu_length (q : Int) (xs : List Cu) (i : Nat) (h : i ≤ xs.length) : (markedCu q xs i).length = xs.length := by
  simp [markedCu, upCu_length]; omega

theorem markedCu_set (q : Int) (xs : List Cu) (i : Nat) (h : i < xs.length) : (markedCu q xs i).set i ⟨q + 2 * i, q + 2 * i + 1⟩ = markedCu q xs (i + 1) := by
  unfold markedCu
  rw [List.set_append_right _ _ (by rw [upCu_length]; omega), upCu_length, Nat.sub_self, List.drop_eq_getElem_cons h, List.set_cons_zero, upCu_succ, List.append_assoc]
  rfl

set_option maxHeartbeats 1000000 in
theorem eqCutter_same (q : Cu) (w : World) :
    Calls Try.prog 82 #[(.agg #[.int .i64 q.k, .int .i64 q.l]), (.agg #[.int .i64 q.k, .int .i64 q.l])] w fun e w' => e = .returned (.bool true) ∧ w' = (w.alloc (.cells #[.int .i64 q.k, .int .i64 q.l] 123)).alloc (.cells #[.int .i64 q.k, .int .i64 q.l] 123) := by
  go_enter Try.func82, Try.ntmps82
  go_wp2
  go_ret
  exact ⟨rfl, rfl⟩
set_option maxHeartbeats 1000000 in
theorem toCutter_any (q : Cu) (w : World) :
    Calls Try.prog 71 #[(.agg #[.int .i64 q.k, .int .i64 q.l])] w fun e w' => e = .returned (.agg #[.int .i64 q.k, .int .i64 q.l]) ∧ w' = ((w.alloc (.cells #[.int .i64 q.k, .int .i64 q.l] 126)).alloc (.cells #[.int .i64 q.k, .int .i64 q.l] 123)).alloc (.cells #[.int .i64 q.k, .int .i64 q.l] 123) := by
  go_enter Try.func71, Try.ntmps71
  go_wp2
  go_returns
  exact ⟨rfl, rfl⟩

set_option maxRecDepth 100000 in
set_option maxHeartbeats 1000000 in
theorem eqCutterS_same (a b : Value) (xs : List Cu) (w : World) (ha : RdS 2 encCu w a xs) (hb : RdS 2 encCu w b xs) (lx : xs.length ≤ 4611686018427387904) :
    Calls Try.prog 44 #[a, b] w fun e w' => e = .returned (.bool true) ∧ Below w.heap.size w w' := by
  obtain ⟨pa, ca, rfl, ra⟩ := ha
  obtain ⟨pb, cb, rfl, rb⟩ := hb
  have RA := Lib.hid ra
  have RB := Lib.hid rb
  clear ra rb
  obtain ⟨n, hn⟩ : ∃ n, n = xs.length := ⟨_, rfl⟩
  rw [← hn]
  rw [← hn] at lx
  have HN := Lib.hid hn
  clear hn
  go_enter Try.func44, Try.ntmps44
  go_wp2
  go_loopw [5] (fun i wr => ∃ k : Nat, k ≤ n ∧ i = .int .i64 k ∧ Hid (Below w.heap.size w wr)) (fun i _ => n - (intOf i).toNat)
  case atStart => exact ⟨0, by omega, rfl, Below.refl _ _⟩
  case round =>
    obtain ⟨k, hk, rfl, B⟩ := hrel
    by_cases hlt : k < n
    · obtain ⟨x, hx⟩ : ∃ x, xs[k]? = some x := ⟨_, List.getElem?_eq_getElem (by have := HN.out; omega)⟩
      obtain ⟨ba, oa, rfl, ca'⟩ := RA.out.resolve_left (by intro h; have := HN.out; rw [h] at this; simp at this; omega)
      obtain ⟨bb, ob, rfl, cb'⟩ := RB.out.resolve_left (by intro h; have := HN.out; rw [h] at this; simp at this; omega)
      have c1 := ca' k x hx
      have c2 := cb' k x hx
      have hsz := B.out.size
      have la : ba < w.heap.size := block_lt_of_cell (c1 0 _ rfl)
      have lb : bb < w.heap.size := block_lt_of_cell (c2 0 _ rfl)
      have a0 : wr.cell? ⟨ba, oa + k * 2, none⟩ = _ := (B.out.cell (p := ⟨ba, oa + (k * 2 + 0), none⟩) la).trans (c1 0 _ rfl)
      have a1 : wr.cell? ⟨ba, oa + k * 2 + 1, none⟩ = _ := (B.out.cell (p := ⟨ba, oa + (k * 2 + 1), none⟩) la).trans (c1 1 _ rfl)
      have d0 : wr.cell? ⟨bb, ob + k * 2, none⟩ = _ := (B.out.cell (p := ⟨bb, ob + (k * 2 + 0), none⟩) lb).trans (c2 0 _ rfl)
      have d1 : wr.cell? ⟨bb, ob + k * 2 + 1, none⟩ = _ := (B.out.cell (p := ⟨bb, ob + (k * 2 + 1), none⟩) lb).trans (c2 1 _ rfl)
      clear ca' cb' c1 c2 RA RB la lb
      go_wp2
      go_still_tail 8, (by kernel_rfl)
      change wpList _ _ _ _ _ wr.drew
      have B2 : Hid (Below w.heap.size w wr.drew) := B.out.drew
      have hsz2 : w.heap.size ≤ wr.drew.heap.size := hsz
      clear a0 a1 d0 d1 B hsz
      generalize wr.drew = w2 at *
      go_wp2_with fail
      refine (eqCutter_same x _).mono ?_
      rintro e w3 ⟨rfl, rfl⟩
      go_wp2
      exact ⟨⟨k + 1, by omega, by go_num, (B2.out.alloc hsz2 _).alloc (by simp; omega) _⟩, by simp only [intOf]; omega⟩
    · obtain rfl : k = n := by omega
      go_wp2
      go_ret
      exact ⟨rfl, B.out⟩



theorem info_Cu : (Try.prog.info? 123).map (fun i => (i.zero, i.size, i.bytes)) = some (some (.agg #[.int .i64 0, .int .i64 0]), 2, 16) := by kernel_rfl

def zeroCu : Cu := ⟨0, 0⟩

set_option maxRecDepth 100000 in
set_option maxHeartbeats 2000000 in
theorem toCutterS_any (v : Value) (xs : List Cu) (w : World) (h : RdS 2 encCu w v xs) (lz : xs.length ≤ 1048576) :
    Calls Try.prog 38 #[v] w fun e w' => ∃ v', e = .returned v' ∧ OwnS 123 2 encCu w' w.heap.size v' xs ∧ Below w.heap.size w w' := by
  obtain ⟨i0, hi, hz0, hz1, hz2⟩ := info_parts info_Cu
  obtain ⟨a, cap, rfl, ra⟩ := h
  obtain ⟨n, hn⟩ : ∃ n, n = xs.length := ⟨_, rfl⟩
  rw [← hn] at lz
  rw [← hn]
  have RA := Lib.hid ra
  have HN := Lib.hid hn
  clear ra hn
  go_enter Try.func38, Try.ntmps38
  go_wp2_with (first | (at_make; refine wpList_make_full _ rfl _ _ _ rfl w.heap.size 123 i0 _ 2 Try.underlying31 hi hz0 hz1 .i64 .i64 _ _ n rfl rfl rfl rfl ?b2 ?b3 (Nat.le_refl _) ?_) | go_in)
  case b2 => rw [hz2]; omega
  case b3 => unfold maxLen; omega
  intro w1 hown hg
  rw [made_flat (enc := encCu) encCu_len (by omega) zeroCu #[.int .i64 0, .int .i64 0] rfl] at hown
  have O1 : Hid (OwnS 123 2 encCu w1 w.heap.size (.slice (some ⟨w.heap.size, 0, none⟩) n n) (List.replicate n zeroCu)) := by
    show OwnS _ _ _ _ _ _ _
    unfold OwnS
    rw [List.length_replicate]
    exact hown
  have B1 : Hid (Below w.heap.size w w1) := (Below.refl _ _).grown hg (Nat.le_refl _) (fun k h => by cases h)
  clear hown hg
  go_wp2
  go_loopw [4] (fun i wr => ∃ k : Nat, k ≤ n ∧ i = .int .i64 k ∧ Hid (OwnS 123 2 encCu wr w.heap.size (.slice (some ⟨w.heap.size, 0, none⟩) n n) (xs.take k ++ List.replicate (n - k) zeroCu)) ∧ Hid (Below w.heap.size w wr)) (fun i _ => n - (intOf i).toNat)
  case atStart => exact ⟨0, by omega, rfl, by simpa using O1, B1⟩
  case round =>
    obtain ⟨k, hk, rfl, ho, B⟩ := hrel
    clear O1 B1
    by_cases hlt : k < n
    · obtain ⟨x, hx⟩ : ∃ x, xs[k]? = some x := ⟨_, List.getElem?_eq_getElem (by have := HN.out; omega)⟩
      obtain ⟨ba, oa, rfl, ca'⟩ := RA.out.resolve_left (by intro h; have := HN.out; rw [h] at this; simp at this; omega)
      have c1 := ca' k x hx
      have la : ba < w.heap.size := block_lt_of_cell (c1 0 _ rfl)
      have a0 : wr.cell? ⟨ba, oa + k * 2, none⟩ = _ := (B.out.cell (p := ⟨ba, oa + (k * 2 + 0), none⟩) la).trans (c1 0 _ rfl)
      have a1 : wr.cell? ⟨ba, oa + k * 2 + 1, none⟩ = _ := (B.out.cell (p := ⟨ba, oa + (k * 2 + 1), none⟩) la).trans (c1 1 _ rfl)
      have HX := Lib.hid hx
      have hlen' : Hid (n = (xs.take k ++ List.replicate (n - k) zeroCu).length) := by show _ = _; simp; have := HN.out; omega
      have OX : Hid (∀ w', Below wr.heap.size wr w' → OwnS 123 2 encCu w' w.heap.size (.slice (some ⟨w.heap.size, 0, none⟩) n n) (xs.take k ++ List.replicate (n - k) zeroCu)) := fun w' hb => ho.out.later hb
      have hsz := B.out.size
      have hsz1 : w.heap.size < wr.heap.size := (ho.out.lt w.heap.size rfl).2
      clear ca' c1 hx la
      go_wp2_with fail
      refine (toCutter_any x _).mono ?_
      rintro e w2 ⟨rfl, hw2⟩
      have B2 : Hid (Below wr.heap.size wr w2) := by rw [hw2]; show Below _ _ _; go_grown
      have ho2 := OX.out w2 B2.out
      have hlen := hlen'.out
      have gl : (xs.take k ++ List.replicate (n - k) zeroCu)[k]? = some zeroCu := by
        have e0 : (xs.take k).length = k := by rw [List.length_take]; have := HN.out; omega
        rw [List.getElem?_append_right (by omega), e0, Nat.sub_self, List.getElem?_replicate, if_pos (by omega)]
      have c0 : w2.cell? ⟨w.heap.size, k * 2, none⟩ = some (.int .i64 0) := ho2.cellAt encCu_len hlen k _ gl 0 _ rfl
      have c1 : w2.cell? ⟨w.heap.size, k * 2 + 1, none⟩ = some (.int .i64 0) := ho2.cellAt encCu_len hlen k _ gl 1 _ rfl
      have z0 : w2.frozen? ⟨w.heap.size, k * 2, none⟩ = false := ho2.frozenAt hlen _
      have z1 : w2.frozen? ⟨w.heap.size, k * 2 + 1, none⟩ = false := ho2.frozenAt hlen _
      have s0 : Hid (OwnS 123 2 encCu (w2.setCell ⟨w.heap.size, k * 2, none⟩ (.int .i64 x.k)) w.heap.size (.slice (some ⟨w.heap.size, 0, none⟩) n n) ((xs.take k ++ List.replicate (n - k) zeroCu).set k ⟨x.k, 0⟩)) := by
        have e := ho2.stored1 encCu_len hlen k 0 zeroCu ⟨x.k, 0⟩ (.int .i64 x.k) gl (by omega) rfl
        skip
        exact e
      have s1 : Hid (OwnS 123 2 encCu ((w2.setCell ⟨w.heap.size, k * 2, none⟩ (.int .i64 x.k)).setCell ⟨w.heap.size, k * 2 + 1, none⟩ (.int .i64 x.l)) w.heap.size (.slice (some ⟨w.heap.size, 0, none⟩) n n) ((xs.take k ++ List.replicate (n - k) zeroCu).set k x)) := by
        have e := s0.out.stored1 encCu_len (by rw [List.length_set]; exact hlen) k 1 ⟨x.k, 0⟩ x (.int .i64 x.l) (by rw [List.getElem?_set_self (by rw [← hlen]; exact hlt)]) (by omega) rfl
        rw [List.set_set] at e
        exact e
      have e0 : (xs.take k).length = k := by rw [List.length_take]; have := HN.out; omega
      have sN : Hid (OwnS 123 2 encCu ((w2.setCell ⟨w.heap.size, k * 2, none⟩ (.int .i64 x.k)).setCell ⟨w.heap.size, k * 2 + 1, none⟩ (.int .i64 x.l)) w.heap.size (.slice (some ⟨w.heap.size, 0, none⟩) n n) (xs.take (k + 1) ++ List.replicate (n - (k + 1)) zeroCu)) := by
        have e := s1.out
        rw [List.set_append_right _ _ (by omega), e0, Nat.sub_self, show n - k = (n - (k + 1)) + 1 by omega, List.replicate_succ, List.set_cons_zero] at e
        show OwnS _ _ _ _ _ _ _
        rw [List.take_add_one, HX.out]
        simpa using e
      have bN : Hid (Below w.heap.size w ((w2.setCell ⟨w.heap.size, k * 2, none⟩ (.int .i64 x.k)).setCell ⟨w.heap.size, k * 2 + 1, none⟩ (.int .i64 x.l))) := (Below.setCell (Below.setCell (B.out.trans (B2.out.mono hsz)) (p := ⟨w.heap.size, k * 2, none⟩) (Nat.le_refl _) _) (p := ⟨w.heap.size, k * 2 + 1, none⟩) (Nat.le_refl _) _)
      clear ho2 gl s0 s1 hlen hlen' ho OX B2 B hsz hw2 e0 a0 a1
      go_wp2
      exact ⟨⟨k + 1, by omega, by go_num, sN, bN⟩, by simp only [intOf]; omega⟩
    · obtain rfl : k = n := by omega
      have ho' := ho.out
      rw [Nat.sub_self, List.replicate_zero, List.append_nil, List.take_of_length_le (by have := HN.out; omega)] at ho'
      have HO := Lib.hid ho'
      clear ho' ho
      go_wp2
      go_ret
      exact ⟨_, rfl, HO.out, B.out⟩

end Go.Proofs.Ytmdddjhlfpmgdac
