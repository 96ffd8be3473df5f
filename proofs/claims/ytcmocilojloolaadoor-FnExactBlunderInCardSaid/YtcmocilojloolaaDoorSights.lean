/- What the laws' own helpers do with slices of sights. -/
import Derived.Test.YtcmocilojloolaaDoorRecs
import Derived.StillTailTactics
import Derived.WalkSpells
namespace Go.Proofs.YtcmocilojloolaaDoor
open Go.ChangeShapes Go.WideShapes Go.ChangeAt Go.RowKit
set_option linter.unusedVariables false
set_option linter.unusedSimpArgs false

/-- A sight, field by field. -/
structure St where
  f : Int
  t : Int
  r : Int
  v : Int

theorem St.eq {a b : St} (h0 : a.f = b.f) (h1 : a.t = b.t) (h2 : a.r = b.r) (h3 : a.v = b.v) : a = b := by
  cases a; cases b; simp_all

def encSt (q : St) : List Value := [.int .i64 q.f, .int .i64 q.t, .int .i64 q.r, .int .i64 q.v]
theorem encSt_len (q : St) : (encSt q).length = 4 := rfl

/-- A box of 4 cells is in a later world as it was. -/
theorem boxSt {N : Nat} {w w' : World} {g : Nat} {t : TypeId} {q : St} (B : Below N w w') (hN : g < N) (h : w.heap[g]? = some (.cells #[.int .i64 q.f, .int .i64 q.t, .int .i64 q.r, .int .i64 q.v] t (0, 0))) :
    w'.cell? ⟨g, 0, none⟩ = some (.int .i64 q.f) ∧ w'.cell? ⟨g, 1, none⟩ = some (.int .i64 q.t) ∧ w'.cell? ⟨g, 2, none⟩ = some (.int .i64 q.r) ∧ w'.cell? ⟨g, 3, none⟩ = some (.int .i64 q.v) := by
  have h' := (B.block g hN).trans h
  exact ⟨cell_of_row w' g 0 _ t _ h', cell_of_row w' g 1 _ t _ h', cell_of_row w' g 2 _ t _ h', cell_of_row w' g 3 _ t _ h'⟩

/-- What the walk wants of a box. -/
theorem boxSt_at {w : World} {g : Nat} {t : TypeId} {q : St} (h : w.heap[g]? = some (.cells #[.int .i64 q.f, .int .i64 q.t, .int .i64 q.r, .int .i64 q.v] t (0, 0))) :
    (w.cell? ⟨g, 0, none⟩ = some (.int .i64 q.f) ∧ w.cell? ⟨g, 1, none⟩ = some (.int .i64 q.t) ∧ w.cell? ⟨g, 2, none⟩ = some (.int .i64 q.r) ∧ w.cell? ⟨g, 3, none⟩ = some (.int .i64 q.v)) ∧ (w.frozen? ⟨g, 0, none⟩ = false ∧ w.frozen? ⟨g, 1, none⟩ = false ∧ w.frozen? ⟨g, 2, none⟩ = false ∧ w.frozen? ⟨g, 3, none⟩ = false) ∧ g < w.heap.size :=
  ⟨⟨cell_of_row w g 0 _ t _ h, cell_of_row w g 1 _ t _ h, cell_of_row w g 2 _ t _ h, cell_of_row w g 3 _ t _ h⟩, ⟨frozen_of_row w g 0 _ t h, frozen_of_row w g 1 _ t h, frozen_of_row w g 2 _ t h, frozen_of_row w g 3 _ t h⟩, (Array.getElem?_eq_some_iff.1 h).1⟩

/-- A box that is written whole. -/
theorem boxSt_put {w : World} {g : Nat} {t : TypeId} {q : St} (h : w.heap[g]? = some (.cells #[.int .i64 q.f, .int .i64 q.t, .int .i64 q.r, .int .i64 q.v] t (0, 0))) (q' : St) :
    ((((w.setCell ⟨g, 0, none⟩ (.int .i64 q'.f)).setCell ⟨g, 1, none⟩ (.int .i64 q'.t)).setCell ⟨g, 2, none⟩ (.int .i64 q'.r)).setCell ⟨g, 3, none⟩ (.int .i64 q'.v)).heap[g]? = some (.cells #[.int .i64 q'.f, .int .i64 q'.t, .int .i64 q'.r, .int .i64 q'.v] t (0, 0)) := by
  have h1 := (heap_setCell_same _ g 3 _ t (.int .i64 q'.v) (heap_setCell_same _ g 2 _ t (.int .i64 q'.r) (heap_setCell_same _ g 1 _ t (.int .i64 q'.t) (heap_setCell_same _ g 0 _ t (.int .i64 q'.f) h))))
  simpa using h1

theorem boxSt_other {w : World} {g : Nat} (q' : St) (j : Nat) (hj : j ≠ g) :
    ((((w.setCell ⟨g, 0, none⟩ (.int .i64 q'.f)).setCell ⟨g, 1, none⟩ (.int .i64 q'.t)).setCell ⟨g, 2, none⟩ (.int .i64 q'.r)).setCell ⟨g, 3, none⟩ (.int .i64 q'.v)).heap[j]? = w.heap[j]? := by
  rw [heap_setCell_other _ _ _ _ hj, heap_setCell_other _ _ _ _ hj, heap_setCell_other _ _ _ _ hj, heap_setCell_other _ _ _ _ hj]

/-- The numbers q, q + 1, .. as sights. -/
def upSt (q : Int) : Nat → List St
  | 0 => []
  | n + 1 => ⟨q, q + 1, q + 1 + 1, q + 1 + 1 + 1⟩ :: upSt (q + 4) n

theorem upSt_length (q : Int) (n : Nat) : (upSt q n).length = n := by
  induction n generalizing q with
  | zero => rfl
  | succ n ih => simp [upSt, ih]

theorem upSt_get (q : Int) (n i : Nat) (h : i < n) : (upSt q n)[i]? = some ⟨q + 4 * i, q + 4 * i + 1, q + 4 * i + 1 + 1, q + 4 * i + 1 + 1 + 1⟩ := by
  induction n generalizing q i with
  | zero => omega
  | succ n ih =>
    cases i with
    | zero => simp [upSt]
    | succ i =>
      simp only [upSt, List.getElem?_cons_succ]
      rw [ih (q + 4) i (by omega)]
      congr 1
      apply St.eq <;> simp only [] <;> push_cast <;> omega

theorem upSt_succ (q : Int) (i : Nat) : upSt q (i + 1) = upSt q i ++ [⟨q + 4 * i, q + 4 * i + 1, q + 4 * i + 1 + 1, q + 4 * i + 1 + 1 + 1⟩] := by
  induction i generalizing q with
  | zero => simp [upSt]
  | succ i ih =>
    rw [upSt, ih (q + 4), upSt, List.cons_append]
    congr 3
    apply St.eq <;> simp only [] <;> push_cast <;> omega

def markedSt (q : Int) (xs : List St) (i : Nat) : List St := upSt q i ++ xs.drop i

theorem markedSt_length (q : Int) (xs : List St) (i : Nat) (h : i ≤ xs.length) : (markedSt q xs i).length = xs.length := by
  simp [markedSt, upSt_length]; omega

theorem markedSt_set (q : Int) (xs : List St) (i : Nat) (h : i < xs.length) : (markedSt q xs i).set i ⟨q + 4 * i, q + 4 * i + 1, q + 4 * i + 1 + 1, q + 4 * i + 1 + 1 + 1⟩ = markedSt q xs (i + 1) := by
  unfold markedSt
  rw [List.set_append_right _ _ (by rw [upSt_length]; omega), upSt_length, Nat.sub_self, List.drop_eq_getElem_cons h, List.set_cons_zero, upSt_succ, List.append_assoc]
  rfl

set_option maxHeartbeats 1000000 in
theorem eqSight_same (q : St) (w : World) :
    Calls Tryd.prog 88 #[(.agg #[.int .i64 q.f, .int .i64 q.t, .int .i64 q.r, .int .i64 q.v]), (.agg #[.int .i64 q.f, .int .i64 q.t, .int .i64 q.r, .int .i64 q.v])] w fun e w' => e = .returned (.bool true) ∧ w' = (w.alloc (.cells #[.int .i64 q.f, .int .i64 q.t, .int .i64 q.r, .int .i64 q.v] 32)).alloc (.cells #[.int .i64 q.f, .int .i64 q.t, .int .i64 q.r, .int .i64 q.v] 32) := by
  go_enter Tryd.func88, Tryd.ntmps88
  go_wp2
  go_ret
  exact ⟨rfl, rfl⟩
set_option maxHeartbeats 1000000 in
theorem toSight_any (q : St) (w : World) :
    Calls Tryd.prog 87 #[(.agg #[.int .i64 q.f, .int .i64 q.t, .int .i64 q.r, .int .i64 q.v])] w fun e w' => e = .returned (.agg #[.int .i64 q.f, .int .i64 q.t, .int .i64 q.r, .int .i64 q.v]) ∧ w' = ((w.alloc (.cells #[.int .i64 q.f, .int .i64 q.t, .int .i64 q.r, .int .i64 q.v] 114)).alloc (.cells #[.int .i64 q.f, .int .i64 q.t, .int .i64 q.r, .int .i64 q.v] 32)).alloc (.cells #[.int .i64 q.f, .int .i64 q.t, .int .i64 q.r, .int .i64 q.v] 32) := by
  go_enter Tryd.func87, Tryd.ntmps87
  go_wp2
  go_returns
  exact ⟨rfl, rfl⟩

set_option maxRecDepth 100000 in
set_option maxHeartbeats 1000000 in
theorem eqSightS_same (a b : Value) (xs : List St) (w : World) (ha : RdS 4 encSt w a xs) (hb : RdS 4 encSt w b xs) (lx : xs.length ≤ 4611686018427387904) :
    Calls Tryd.prog 55 #[a, b] w fun e w' => e = .returned (.bool true) ∧ Below w.heap.size w w' := by
  obtain ⟨pa, ca, rfl, ra⟩ := ha
  obtain ⟨pb, cb, rfl, rb⟩ := hb
  have RA := Lib.hid ra
  have RB := Lib.hid rb
  clear ra rb
  obtain ⟨n, hn⟩ : ∃ n, n = xs.length := ⟨_, rfl⟩
  rw [← hn]
  rw [← hn] at lx
  have HN := Lib.hid hn
  clear hn
  go_enter Tryd.func55, Tryd.ntmps55
  go_wp2
  go_loopw [5] (fun i wr => ∃ k : Nat, k ≤ n ∧ i = .int .i64 k ∧ Hid (Below w.heap.size w wr)) (fun i _ => n - (intOf i).toNat)
  case atStart => exact ⟨0, by omega, rfl, Below.refl _ _⟩
  case round =>
    obtain ⟨k, hk, rfl, B⟩ := hrel
    by_cases hlt : k < n
    · obtain ⟨x, hx⟩ : ∃ x, xs[k]? = some x := ⟨_, List.getElem?_eq_getElem (by have := HN.out; omega)⟩
      obtain ⟨ba, oa, rfl, ca'⟩ := RA.out.resolve_left (by intro h; have := HN.out; rw [h] at this; simp at this; omega)
      obtain ⟨bb, ob, rfl, cb'⟩ := RB.out.resolve_left (by intro h; have := HN.out; rw [h] at this; simp at this; omega)
      have c1 := ca' k x hx
      have c2 := cb' k x hx
      have hsz := B.out.size
      have la : ba < w.heap.size := block_lt_of_cell (c1 0 _ rfl)
      have lb : bb < w.heap.size := block_lt_of_cell (c2 0 _ rfl)
      have a0 : wr.cell? ⟨ba, oa + k * 4, none⟩ = _ := (B.out.cell (p := ⟨ba, oa + (k * 4 + 0), none⟩) la).trans (c1 0 _ rfl)
      have a1 : wr.cell? ⟨ba, oa + k * 4 + 1, none⟩ = _ := (B.out.cell (p := ⟨ba, oa + (k * 4 + 1), none⟩) la).trans (c1 1 _ rfl)
      have a2 : wr.cell? ⟨ba, oa + k * 4 + 2, none⟩ = _ := (B.out.cell (p := ⟨ba, oa + (k * 4 + 2), none⟩) la).trans (c1 2 _ rfl)
      have a3 : wr.cell? ⟨ba, oa + k * 4 + 3, none⟩ = _ := (B.out.cell (p := ⟨ba, oa + (k * 4 + 3), none⟩) la).trans (c1 3 _ rfl)
      have d0 : wr.cell? ⟨bb, ob + k * 4, none⟩ = _ := (B.out.cell (p := ⟨bb, ob + (k * 4 + 0), none⟩) lb).trans (c2 0 _ rfl)
      have d1 : wr.cell? ⟨bb, ob + k * 4 + 1, none⟩ = _ := (B.out.cell (p := ⟨bb, ob + (k * 4 + 1), none⟩) lb).trans (c2 1 _ rfl)
      have d2 : wr.cell? ⟨bb, ob + k * 4 + 2, none⟩ = _ := (B.out.cell (p := ⟨bb, ob + (k * 4 + 2), none⟩) lb).trans (c2 2 _ rfl)
      have d3 : wr.cell? ⟨bb, ob + k * 4 + 3, none⟩ = _ := (B.out.cell (p := ⟨bb, ob + (k * 4 + 3), none⟩) lb).trans (c2 3 _ rfl)
      clear ca' cb' c1 c2 RA RB la lb
      go_wp2
      go_still_tail 8, (by kernel_rfl)
      change wpList _ _ _ _ _ wr.drew
      have B2 : Hid (Below w.heap.size w wr.drew) := B.out.drew
      have hsz2 : w.heap.size ≤ wr.drew.heap.size := hsz
      clear a0 a1 a2 a3 d0 d1 d2 d3 B hsz
      generalize wr.drew = w2 at *
      go_wp2_with fail
      refine (eqSight_same x _).mono ?_
      rintro e w3 ⟨rfl, rfl⟩
      go_wp2
      exact ⟨⟨k + 1, by omega, by go_num, (B2.out.alloc hsz2 _).alloc (by simp; omega) _⟩, by simp only [intOf]; omega⟩
    · obtain rfl : k = n := by omega
      go_wp2
      go_ret
      exact ⟨rfl, B.out⟩

set_option maxRecDepth 100000 in
set_option maxHeartbeats 2000000 in
theorem markSightS_any (v : Value) (xs : List St) (w : World) (B : Nat) (h : OwnS 32 4 encSt w B v xs) (lz : xs.length ≤ 1048576) (q : Int) (hq : 0 ≤ q) (hq2 : q ≤ 1099511627776) :
    Calls Tryd.prog 56 #[v, .int .i64 q] w fun e w' => e = .returned (.int .i64 (q + 4 * xs.length)) ∧ OwnS 32 4 encSt w' B v (upSt q xs.length) ∧ w.grownBy w' v.ownBlock := by
  obtain ⟨n, hn⟩ : ∃ n, n = xs.length := ⟨_, rfl⟩
  rw [← hn] at lz
  rw [← hn]
  rcases h.forms with ⟨rfl, hx0⟩ | ⟨g, cap, rfl⟩
  · subst hx0
    obtain rfl : n = 0 := hn
    have H := Lib.hid h
    clear h
    go_enter Tryd.func56, Tryd.ntmps56
    go_wp2
    refine wp_loop_rounds 1 ?_
    rw [rounds_succ]
    go_wp2
    go_ret
    exact ⟨by simp, H.out, World.grownBy.refl _ _⟩
  · rw [← hn] at h
    have H := Lib.hid h
    have HN := Lib.hid hn
    rw [← hn]
    clear h hn
    go_enter Tryd.func56, Tryd.ntmps56
    go_wp2
    go_loopw [1, 5] (fun p i wr => ∃ k : Nat, k ≤ n ∧ i = .int .i64 k ∧ p = .int .i64 (q + 4 * k) ∧ Hid (OwnS 32 4 encSt wr B (.slice (some ⟨g, 0, none⟩) n cap) (markedSt q xs k)) ∧ Hid (w.grownBy wr (some g))) (fun _ i _ => n - (intOf i).toNat)
    case atStart => exact ⟨0, by omega, rfl, by simp, H, World.grownBy.refl _ _⟩
    case round =>
      obtain ⟨k, hk, rfl, rfl, ho, hg⟩ := hrel
      have hlen := markedSt_length q xs k (by have := HN.out; omega)
      by_cases hlt : k < n
      · obtain ⟨x, hx⟩ : ∃ x, (markedSt q xs k)[k]? = some x := ⟨_, List.getElem?_eq_getElem (by rw [hlen, ← HN.out]; exact hlt)⟩
        have hl0 : n = (markedSt q xs k).length := by rw [hlen]; exact HN.out
        have c0 : wr.cell? ⟨g, k * 4, none⟩ = some (.int .i64 x.f) := ho.out.cellAt encSt_len hl0 k x hx 0 _ rfl
        have c1 : wr.cell? ⟨g, k * 4 + 1, none⟩ = some (.int .i64 x.t) := ho.out.cellAt encSt_len hl0 k x hx 1 _ rfl
        have c2 : wr.cell? ⟨g, k * 4 + 2, none⟩ = some (.int .i64 x.r) := ho.out.cellAt encSt_len hl0 k x hx 2 _ rfl
        have c3 : wr.cell? ⟨g, k * 4 + 3, none⟩ = some (.int .i64 x.v) := ho.out.cellAt encSt_len hl0 k x hx 3 _ rfl
        have f0 := fun j => ho.out.frozenAt hl0 j
        have z0 : wr.frozen? ⟨g, k * 4, none⟩ = false := f0 _
        have z1 : wr.frozen? ⟨g, k * 4 + 1, none⟩ = false := f0 _
        have z2 : wr.frozen? ⟨g, k * 4 + 2, none⟩ = false := f0 _
        have z3 : wr.frozen? ⟨g, k * 4 + 3, none⟩ = false := f0 _
        have s0 : Hid (OwnS 32 4 encSt (wr.setCell ⟨g, k * 4, none⟩ (.int .i64 (q + 4 * k))) B (.slice (some ⟨g, 0, none⟩) n cap) ((markedSt q xs k).set k ⟨q + 4 * k, x.t, x.r, x.v⟩)) := by
          have e := ho.out.stored1 encSt_len hl0 k 0 x ⟨q + 4 * k, x.t, x.r, x.v⟩ (.int .i64 (q + 4 * k)) hx (by omega) rfl
          skip
          exact e
        have s1 : Hid (OwnS 32 4 encSt ((wr.setCell ⟨g, k * 4, none⟩ (.int .i64 (q + 4 * k))).setCell ⟨g, k * 4 + 1, none⟩ (.int .i64 (q + 4 * k + 1))) B (.slice (some ⟨g, 0, none⟩) n cap) ((markedSt q xs k).set k ⟨q + 4 * k, q + 4 * k + 1, x.r, x.v⟩)) := by
          have e := s0.out.stored1 encSt_len (by rw [List.length_set]; exact hl0) k 1 ⟨q + 4 * k, x.t, x.r, x.v⟩ ⟨q + 4 * k, q + 4 * k + 1, x.r, x.v⟩ (.int .i64 (q + 4 * k + 1)) (by rw [List.getElem?_set_self (by omega)]) (by omega) rfl
          rw [List.set_set] at e
          exact e
        have s2 : Hid (OwnS 32 4 encSt (((wr.setCell ⟨g, k * 4, none⟩ (.int .i64 (q + 4 * k))).setCell ⟨g, k * 4 + 1, none⟩ (.int .i64 (q + 4 * k + 1))).setCell ⟨g, k * 4 + 2, none⟩ (.int .i64 (q + 4 * k + 1 + 1))) B (.slice (some ⟨g, 0, none⟩) n cap) ((markedSt q xs k).set k ⟨q + 4 * k, q + 4 * k + 1, q + 4 * k + 1 + 1, x.v⟩)) := by
          have e := s1.out.stored1 encSt_len (by rw [List.length_set]; exact hl0) k 2 ⟨q + 4 * k, q + 4 * k + 1, x.r, x.v⟩ ⟨q + 4 * k, q + 4 * k + 1, q + 4 * k + 1 + 1, x.v⟩ (.int .i64 (q + 4 * k + 1 + 1)) (by rw [List.getElem?_set_self (by omega)]) (by omega) rfl
          rw [List.set_set] at e
          exact e
        have s3 : Hid (OwnS 32 4 encSt ((((wr.setCell ⟨g, k * 4, none⟩ (.int .i64 (q + 4 * k))).setCell ⟨g, k * 4 + 1, none⟩ (.int .i64 (q + 4 * k + 1))).setCell ⟨g, k * 4 + 2, none⟩ (.int .i64 (q + 4 * k + 1 + 1))).setCell ⟨g, k * 4 + 3, none⟩ (.int .i64 (q + 4 * k + 1 + 1 + 1))) B (.slice (some ⟨g, 0, none⟩) n cap) (markedSt q xs (k + 1))) := by
          have e := s2.out.stored1 encSt_len (by rw [List.length_set]; exact hl0) k 3 ⟨q + 4 * k, q + 4 * k + 1, q + 4 * k + 1 + 1, x.v⟩ ⟨q + 4 * k, q + 4 * k + 1, q + 4 * k + 1 + 1, q + 4 * k + 1 + 1 + 1⟩ (.int .i64 (q + 4 * k + 1 + 1 + 1)) (by rw [List.getElem?_set_self (by omega)]) (by omega) rfl
          rw [List.set_set, markedSt_set q xs k (by have := HN.out; omega)] at e
          exact e
        have gb : Hid (w.grownBy ((((wr.setCell ⟨g, k * 4, none⟩ (.int .i64 (q + 4 * k))).setCell ⟨g, k * 4 + 1, none⟩ (.int .i64 (q + 4 * k + 1))).setCell ⟨g, k * 4 + 2, none⟩ (.int .i64 (q + 4 * k + 1 + 1))).setCell ⟨g, k * 4 + 3, none⟩ (.int .i64 (q + 4 * k + 1 + 1 + 1))) (some g)) := grownBy_trans' (grownBy_trans' (grownBy_trans' (grownBy_trans' (hg.out) (grownBy_setCell' _ _ _)) (grownBy_setCell' _ _ _)) (grownBy_setCell' _ _ _)) (grownBy_setCell' _ _ _)
        clear hx hlen ho f0 hl0 s0 s1 s2 hg
        go_wp2
        exact ⟨⟨k + 1, by omega, by go_num, by push_cast; first | rfl | (congr 1; omega), s3, gb⟩, by simp only [intOf]; omega⟩
      · obtain rfl : k = n := by omega
        have ho' := ho.out
        have hm : markedSt q xs k = upSt q k := by unfold markedSt; rw [List.drop_of_length_le (by have := HN.out; omega), List.append_nil]
        rw [hm] at ho'
        have HO := Lib.hid ho'
        clear ho' hm hlen
        go_wp2
        go_ret
        exact ⟨rfl, HO.out, hg.out⟩


theorem info_St : (Tryd.prog.info? 32).map (fun i => (i.zero, i.size, i.bytes)) = some (some (.agg #[.int .i64 0, .int .i64 0, .int .i64 0, .int .i64 0]), 4, 32) := by kernel_rfl

def zeroSt : St := ⟨0, 0, 0, 0⟩

set_option maxRecDepth 100000 in
set_option maxHeartbeats 2000000 in
theorem toSightS_any (v : Value) (xs : List St) (w : World) (h : RdS 4 encSt w v xs) (lz : xs.length ≤ 1048576) :
    Calls Tryd.prog 54 #[v] w fun e w' => ∃ v', e = .returned v' ∧ OwnS 32 4 encSt w' w.heap.size v' xs ∧ Below w.heap.size w w' := by
  obtain ⟨i0, hi, hz0, hz1, hz2⟩ := info_parts info_St
  obtain ⟨a, cap, rfl, ra⟩ := h
  obtain ⟨n, hn⟩ : ∃ n, n = xs.length := ⟨_, rfl⟩
  rw [← hn] at lz
  rw [← hn]
  have RA := Lib.hid ra
  have HN := Lib.hid hn
  clear ra hn
  go_enter Tryd.func54, Tryd.ntmps54
  go_wp2_with (first | (at_make; refine wpList_make_full _ rfl _ _ _ rfl w.heap.size 32 i0 _ 4 Tryd.underlying24 hi hz0 hz1 .i64 .i64 _ _ n rfl rfl rfl rfl ?b2 ?b3 (Nat.le_refl _) ?_) | go_in)
  case b2 => rw [hz2]; omega
  case b3 => unfold maxLen; omega
  intro w1 hown hg
  rw [made_flat (enc := encSt) encSt_len (by omega) zeroSt #[.int .i64 0, .int .i64 0, .int .i64 0, .int .i64 0] rfl] at hown
  have O1 : Hid (OwnS 32 4 encSt w1 w.heap.size (.slice (some ⟨w.heap.size, 0, none⟩) n n) (List.replicate n zeroSt)) := by
    show OwnS _ _ _ _ _ _ _
    unfold OwnS
    rw [List.length_replicate]
    exact hown
  have B1 : Hid (Below w.heap.size w w1) := (Below.refl _ _).grown hg (Nat.le_refl _) (fun k h => by cases h)
  clear hown hg
  go_wp2
  go_loopw [4] (fun i wr => ∃ k : Nat, k ≤ n ∧ i = .int .i64 k ∧ Hid (OwnS 32 4 encSt wr w.heap.size (.slice (some ⟨w.heap.size, 0, none⟩) n n) (xs.take k ++ List.replicate (n - k) zeroSt)) ∧ Hid (Below w.heap.size w wr)) (fun i _ => n - (intOf i).toNat)
  case atStart => exact ⟨0, by omega, rfl, by simpa using O1, B1⟩
  case round =>
    obtain ⟨k, hk, rfl, ho, B⟩ := hrel
    clear O1 B1
    by_cases hlt : k < n
    · obtain ⟨x, hx⟩ : ∃ x, xs[k]? = some x := ⟨_, List.getElem?_eq_getElem (by have := HN.out; omega)⟩
      obtain ⟨ba, oa, rfl, ca'⟩ := RA.out.resolve_left (by intro h; have := HN.out; rw [h] at this; simp at this; omega)
      have c1 := ca' k x hx
      have la : ba < w.heap.size := block_lt_of_cell (c1 0 _ rfl)
      have a0 : wr.cell? ⟨ba, oa + k * 4, none⟩ = _ := (B.out.cell (p := ⟨ba, oa + (k * 4 + 0), none⟩) la).trans (c1 0 _ rfl)
      have a1 : wr.cell? ⟨ba, oa + k * 4 + 1, none⟩ = _ := (B.out.cell (p := ⟨ba, oa + (k * 4 + 1), none⟩) la).trans (c1 1 _ rfl)
      have a2 : wr.cell? ⟨ba, oa + k * 4 + 2, none⟩ = _ := (B.out.cell (p := ⟨ba, oa + (k * 4 + 2), none⟩) la).trans (c1 2 _ rfl)
      have a3 : wr.cell? ⟨ba, oa + k * 4 + 3, none⟩ = _ := (B.out.cell (p := ⟨ba, oa + (k * 4 + 3), none⟩) la).trans (c1 3 _ rfl)
      have HX := Lib.hid hx
      have hlen' : Hid (n = (xs.take k ++ List.replicate (n - k) zeroSt).length) := by show _ = _; simp; have := HN.out; omega
      have OX : Hid (∀ w', Below wr.heap.size wr w' → OwnS 32 4 encSt w' w.heap.size (.slice (some ⟨w.heap.size, 0, none⟩) n n) (xs.take k ++ List.replicate (n - k) zeroSt)) := fun w' hb => ho.out.later hb
      have hsz := B.out.size
      have hsz1 : w.heap.size < wr.heap.size := (ho.out.lt w.heap.size rfl).2
      clear ca' c1 hx la
      go_wp2_with fail
      refine (toSight_any x _).mono ?_
      rintro e w2 ⟨rfl, hw2⟩
      have B2 : Hid (Below wr.heap.size wr w2) := by rw [hw2]; show Below _ _ _; go_grown
      have ho2 := OX.out w2 B2.out
      have hlen := hlen'.out
      have gl : (xs.take k ++ List.replicate (n - k) zeroSt)[k]? = some zeroSt := by
        have e0 : (xs.take k).length = k := by rw [List.length_take]; have := HN.out; omega
        rw [List.getElem?_append_right (by omega), e0, Nat.sub_self, List.getElem?_replicate, if_pos (by omega)]
      have c0 : w2.cell? ⟨w.heap.size, k * 4, none⟩ = some (.int .i64 0) := ho2.cellAt encSt_len hlen k _ gl 0 _ rfl
      have c1 : w2.cell? ⟨w.heap.size, k * 4 + 1, none⟩ = some (.int .i64 0) := ho2.cellAt encSt_len hlen k _ gl 1 _ rfl
      have c2 : w2.cell? ⟨w.heap.size, k * 4 + 2, none⟩ = some (.int .i64 0) := ho2.cellAt encSt_len hlen k _ gl 2 _ rfl
      have c3 : w2.cell? ⟨w.heap.size, k * 4 + 3, none⟩ = some (.int .i64 0) := ho2.cellAt encSt_len hlen k _ gl 3 _ rfl
      have z0 : w2.frozen? ⟨w.heap.size, k * 4, none⟩ = false := ho2.frozenAt hlen _
      have z1 : w2.frozen? ⟨w.heap.size, k * 4 + 1, none⟩ = false := ho2.frozenAt hlen _
      have z2 : w2.frozen? ⟨w.heap.size, k * 4 + 2, none⟩ = false := ho2.frozenAt hlen _
      have z3 : w2.frozen? ⟨w.heap.size, k * 4 + 3, none⟩ = false := ho2.frozenAt hlen _
      have s0 : Hid (OwnS 32 4 encSt (w2.setCell ⟨w.heap.size, k * 4, none⟩ (.int .i64 x.f)) w.heap.size (.slice (some ⟨w.heap.size, 0, none⟩) n n) ((xs.take k ++ List.replicate (n - k) zeroSt).set k ⟨x.f, 0, 0, 0⟩)) := by
        have e := ho2.stored1 encSt_len hlen k 0 zeroSt ⟨x.f, 0, 0, 0⟩ (.int .i64 x.f) gl (by omega) rfl
        skip
        exact e
      have s1 : Hid (OwnS 32 4 encSt ((w2.setCell ⟨w.heap.size, k * 4, none⟩ (.int .i64 x.f)).setCell ⟨w.heap.size, k * 4 + 1, none⟩ (.int .i64 x.t)) w.heap.size (.slice (some ⟨w.heap.size, 0, none⟩) n n) ((xs.take k ++ List.replicate (n - k) zeroSt).set k ⟨x.f, x.t, 0, 0⟩)) := by
        have e := s0.out.stored1 encSt_len (by rw [List.length_set]; exact hlen) k 1 ⟨x.f, 0, 0, 0⟩ ⟨x.f, x.t, 0, 0⟩ (.int .i64 x.t) (by rw [List.getElem?_set_self (by rw [← hlen]; exact hlt)]) (by omega) rfl
        rw [List.set_set] at e
        exact e
      have s2 : Hid (OwnS 32 4 encSt (((w2.setCell ⟨w.heap.size, k * 4, none⟩ (.int .i64 x.f)).setCell ⟨w.heap.size, k * 4 + 1, none⟩ (.int .i64 x.t)).setCell ⟨w.heap.size, k * 4 + 2, none⟩ (.int .i64 x.r)) w.heap.size (.slice (some ⟨w.heap.size, 0, none⟩) n n) ((xs.take k ++ List.replicate (n - k) zeroSt).set k ⟨x.f, x.t, x.r, 0⟩)) := by
        have e := s1.out.stored1 encSt_len (by rw [List.length_set]; exact hlen) k 2 ⟨x.f, x.t, 0, 0⟩ ⟨x.f, x.t, x.r, 0⟩ (.int .i64 x.r) (by rw [List.getElem?_set_self (by rw [← hlen]; exact hlt)]) (by omega) rfl
        rw [List.set_set] at e
        exact e
      have s3 : Hid (OwnS 32 4 encSt ((((w2.setCell ⟨w.heap.size, k * 4, none⟩ (.int .i64 x.f)).setCell ⟨w.heap.size, k * 4 + 1, none⟩ (.int .i64 x.t)).setCell ⟨w.heap.size, k * 4 + 2, none⟩ (.int .i64 x.r)).setCell ⟨w.heap.size, k * 4 + 3, none⟩ (.int .i64 x.v)) w.heap.size (.slice (some ⟨w.heap.size, 0, none⟩) n n) ((xs.take k ++ List.replicate (n - k) zeroSt).set k x)) := by
        have e := s2.out.stored1 encSt_len (by rw [List.length_set]; exact hlen) k 3 ⟨x.f, x.t, x.r, 0⟩ x (.int .i64 x.v) (by rw [List.getElem?_set_self (by rw [← hlen]; exact hlt)]) (by omega) rfl
        rw [List.set_set] at e
        exact e
      have e0 : (xs.take k).length = k := by rw [List.length_take]; have := HN.out; omega
      have sN : Hid (OwnS 32 4 encSt ((((w2.setCell ⟨w.heap.size, k * 4, none⟩ (.int .i64 x.f)).setCell ⟨w.heap.size, k * 4 + 1, none⟩ (.int .i64 x.t)).setCell ⟨w.heap.size, k * 4 + 2, none⟩ (.int .i64 x.r)).setCell ⟨w.heap.size, k * 4 + 3, none⟩ (.int .i64 x.v)) w.heap.size (.slice (some ⟨w.heap.size, 0, none⟩) n n) (xs.take (k + 1) ++ List.replicate (n - (k + 1)) zeroSt)) := by
        have e := s3.out
        rw [List.set_append_right _ _ (by omega), e0, Nat.sub_self, show n - k = (n - (k + 1)) + 1 by omega, List.replicate_succ, List.set_cons_zero] at e
        show OwnS _ _ _ _ _ _ _
        rw [List.take_add_one, HX.out]
        simpa using e
      have bN : Hid (Below w.heap.size w ((((w2.setCell ⟨w.heap.size, k * 4, none⟩ (.int .i64 x.f)).setCell ⟨w.heap.size, k * 4 + 1, none⟩ (.int .i64 x.t)).setCell ⟨w.heap.size, k * 4 + 2, none⟩ (.int .i64 x.r)).setCell ⟨w.heap.size, k * 4 + 3, none⟩ (.int .i64 x.v))) := (Below.setCell (Below.setCell (Below.setCell (Below.setCell (B.out.trans (B2.out.mono hsz)) (p := ⟨w.heap.size, k * 4, none⟩) (Nat.le_refl _) _) (p := ⟨w.heap.size, k * 4 + 1, none⟩) (Nat.le_refl _) _) (p := ⟨w.heap.size, k * 4 + 2, none⟩) (Nat.le_refl _) _) (p := ⟨w.heap.size, k * 4 + 3, none⟩) (Nat.le_refl _) _)
      clear ho2 gl s0 s1 s2 s3 hlen hlen' ho OX B2 B hsz hw2 e0 a0 a1 a2 a3
      go_wp2
      exact ⟨⟨k + 1, by omega, by go_num, sN, bN⟩, by simp only [intOf]; omega⟩
    · obtain rfl : k = n := by omega
      have ho' := ho.out
      rw [Nat.sub_self, List.replicate_zero, List.append_nil, List.take_of_length_le (by have := HN.out; omega)] at ho'
      have HO := Lib.hid ho'
      clear ho' ho
      go_wp2
      go_ret
      exact ⟨_, rfl, HO.out, B.out⟩

end Go.Proofs.YtcmocilojloolaaDoor
