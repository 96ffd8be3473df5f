/- Slices of integers: how they are read, and what the laws' own helpers do with them. -/
import Derived.Test.YthfmmlpbflfpaaaBase
import Derived.Deep.QuietTactic
import Derived.BigQuiet
import Derived.WalkSmall
namespace Go.Proofs.Ythfmmlpbflfpaaa
open Go.ChangeShapes Go.WideShapes Go.ChangeAt Go.RowKit
set_option linter.unusedVariables false
set_option linter.unusedSimpArgs false

/-- v is a slice whose elements are zs, in w. -/
def RdI (w : World) (v : Value) (zs : List Int) : Prop :=
  ∃ (a : Option Addr) (cap : Nat), v = .slice a zs.length cap ∧ (zs = [] ∨ ∃ b off : Nat, a = some ⟨b, off, none⟩ ∧ ∀ i x, zs[i]? = some x → w.cell? ⟨b, off + i, none⟩ = some (.int .i64 x))

/-- v is a slice of the call's own, from block B on. -/
def OwnI (w : World) (B : Nat) (v : Value) (zs : List Int) : Prop := w.ownsRow B 2 1 v zs.length (zs.map (Value.int .i64))

theorem OwnI.rd {w : World} {B : Nat} {v : Value} {zs : List Int} (h : OwnI w B v zs) : RdI w v zs := by
  obtain ⟨h1, h2 | ⟨g, cap, cur, rfl, h3⟩⟩ := h
  · obtain ⟨rfl, h2⟩ := h2
    have : zs = [] := List.eq_nil_of_length_eq_zero h2
    subst this
    exact ⟨none, 0, rfl, .inl rfl⟩
  · refine ⟨_, cap, rfl, .inr ⟨g, 0, rfl, fun i x hx => ?_⟩⟩
    have hl : i < zs.length := by
      have := (List.getElem?_eq_some_iff.1 hx).1; exact this
    have := World.ownsRow.cellAt (base := B) (w := w) (e := 2) (size := 1) (g := g) (n := zs.length) (cap := cap) (xs := zs.map (Value.int .i64)) ⟨h1, .inr ⟨g, cap, cur, rfl, h3⟩⟩ i (by omega)
    rw [Nat.zero_add, this, List.getElem?_map, hx]; rfl

theorem RdI.below {w w' : World} {B : Nat} {v : Value} {zs : List Int} (h : RdI w v zs) (hv : ∀ k, v.ownBlock = some k → k < B) (hb : Below B w w') : RdI w' v zs := by
  obtain ⟨a, cap, rfl, h | ⟨b, off, rfl, h⟩⟩ := h
  · exact ⟨a, cap, rfl, .inl h⟩
  · exact ⟨_, cap, rfl, .inr ⟨b, off, rfl, fun i x hx => (hb.cell (p := ⟨b, off + i, none⟩) (by exact hv b rfl)).trans (h i x hx)⟩⟩

theorem RdI.later {w w' : World} {v : Value} {zs : List Int} (h : RdI w v zs) (hb : Below w.heap.size w w') : RdI w' v zs := by
  obtain ⟨a, cap, rfl, h | ⟨b, off, rfl, h⟩⟩ := h
  · exact ⟨a, cap, rfl, .inl h⟩
  · refine ⟨_, cap, rfl, .inr ⟨b, off, rfl, fun i x hx => (hb.cell (p := ⟨b, off + i, none⟩) ?_).trans (h i x hx)⟩⟩
    have c := h i x hx
    by_cases hc : b < w.heap.size
    · exact hc
    · simp [World.cell?, Array.getElem?_eq_none (show w.heap.size ≤ b by omega)] at c

theorem RdI.drewN {w : World} {v : Value} {zs : List Int} (h : RdI w v zs) (n : Nat) : RdI (w.drewN n) v zs := h
theorem OwnI.drewN {w : World} {B : Nat} {v : Value} {zs : List Int} (h : OwnI w B v zs) (n : Nat) : OwnI (w.drewN n) B v zs := h

theorem IsRow.rd {w : World} {a : Option Addr} {len cap : Nat} {zs : List Int} (h : IsRow .i64 w a len cap zs) : RdI w (.slice a len cap) (zs.take len) ∧ (zs.take len).length = len := by
  rcases h with ⟨rfl, rfl, rfl, rfl⟩ | ⟨x, rfl, hl, hm, hz, hc, hw⟩
  · exact ⟨⟨none, 0, rfl, .inl rfl⟩, rfl⟩
  · have e : (zs.take len).length = len := by rw [List.length_take]; omega
    refine ⟨⟨some x, cap, by rw [e], ?_⟩, e⟩
    by_cases h0 : len = 0
    · subst h0; exact .inl rfl
    · right
      obtain ⟨b, off, rfl, hc'⟩ := ints_at hc (by omega)
      refine ⟨b, off, rfl, fun i y hy => ?_⟩
      have hi : i < len := by have := (List.getElem?_eq_some_iff.1 hy).1; omega
      rw [hc' i (by omega)]
      rw [List.getElem?_take, if_pos hi] at hy
      simp [List.getD, hy]


/-- The numbers k, k + 1, .. -/
def upFrom (k : Int) : Nat → List Int
  | 0 => []
  | n + 1 => k :: upFrom (k + 1) n

theorem upFrom_length (k : Int) (n : Nat) : (upFrom k n).length = n := by
  induction n generalizing k with
  | zero => rfl
  | succ n ih => simp [upFrom, ih]

theorem upFrom_get (k : Int) (n i : Nat) (h : i < n) : (upFrom k n)[i]? = some (k + i) := by
  induction n generalizing k i with
  | zero => omega
  | succ n ih =>
    cases i with
    | zero => simp [upFrom]
    | succ i => simp only [upFrom, List.getElem?_cons_succ]; rw [ih (k + 1) i (by omega)]; congr 1; push_cast; omega

/-- What a list holds whose first i numbers are marked from q on. -/
def marked (q : Int) (zs : List Int) (i : Nat) : List Int := upFrom q i ++ zs.drop i

theorem marked_length (q : Int) (zs : List Int) (i : Nat) (h : i ≤ zs.length) : (marked q zs i).length = zs.length := by
  simp [marked, upFrom_length]; omega

theorem upFrom_succ (q : Int) (i : Nat) : upFrom q (i + 1) = upFrom q i ++ [q + i] := by
  induction i generalizing q with
  | zero => simp [upFrom]
  | succ i ih => rw [upFrom, ih (q + 1), upFrom]; simp; omega

theorem marked_set (q : Int) (zs : List Int) (i : Nat) (h : i < zs.length) : (marked q zs i).set i (q + i) = marked q zs (i + 1) := by
  unfold marked
  rw [List.set_append_right _ _ (by rw [upFrom_length]; omega), upFrom_length, Nat.sub_self, List.drop_eq_getElem_cons h, List.set_cons_zero, upFrom_succ, List.append_assoc]
  rfl

theorem marked_all (q : Int) (zs : List Int) : marked q zs zs.length = upFrom q zs.length := by simp [marked]

/-- A store into an own slice. -/
theorem OwnI.stored {w : World} {B g cap : Nat} {n : Nat} {zs : List Int} (hn : n = zs.length) (h : OwnI w B (.slice (some ⟨g, 0, none⟩) n cap) zs) (i : Nat) (u : Int) (hi : i < zs.length) :
    OwnI (w.setCell ⟨g, i, none⟩ (.int .i64 u)) B (.slice (some ⟨g, 0, none⟩) n cap) (zs.set i u) := by
  subst hn
  have := (World.ownsRow.stored h i (.int .i64 u)).1
  unfold OwnI
  rw [List.length_set, List.map_set]
  exact this

theorem OwnI.kept {w w' : World} {B : Nat} {v : Value} {zs : List Int} {row : Option Nat} (h : OwnI w B v zs) (hg : w.grownBy w' row) (hne : v.ownBlock = none ∨ v.ownBlock ≠ row) : OwnI w' B v zs := World.ownsRow.kept h hg hne

theorem OwnI.below {w w' : World} {B C : Nat} {v : Value} {zs : List Int} (h : OwnI w B v zs) (hb : Below C w w') (hC : ∀ k, v.ownBlock = some k → k < C) : OwnI w' B v zs := by
  obtain ⟨h1, h2 | ⟨g, cap, cur, rfl, h3, h4, h5⟩⟩ := h
  · exact ⟨h1, .inl h2⟩
  · exact ⟨h1, .inr ⟨g, cap, cur, rfl, h3, by rw [hb.block g (hC g rfl)]; exact h4, h5⟩⟩

theorem OwnI.mono {w : World} {B B' : Nat} {v : Value} {zs : List Int} (h : OwnI w B v zs) (hB : B' ≤ B) : OwnI w B' v zs := by
  obtain ⟨h1, h2 | ⟨g, cap, cur, rfl, h3, h5⟩⟩ := h
  · exact ⟨h1, .inl h2⟩
  · exact ⟨h1, .inr ⟨g, cap, cur, rfl, by omega, h5⟩⟩

theorem OwnI.lt {w : World} {B : Nat} {v : Value} {zs : List Int} (h : OwnI w B v zs) : ∀ k, v.ownBlock = some k → B ≤ k ∧ k < w.heap.size := World.ownsRow.lt h

theorem grownBy_trans {a b c : World} {row : Option Nat} (h : a.grownBy b row) (k : b.grownBy c row) : a.grownBy c row :=
  ⟨k.os.trans h.os, k.tape.trans h.tape, k.output.trans h.output, Nat.le_trans h.size k.size, fun i hi hn => (k.block i (Nat.lt_of_lt_of_le hi h.size) hn).trans (h.block i hi hn)⟩

theorem grownBy_setCell (w : World) (a : Addr) (u : Value) : w.grownBy (w.setCell a u) (some a.block) :=
  ⟨rfl, rfl, rfl, by simp [World.setCell], fun k _ hk => Below.heap_setCell w a u k (fun e => hk (by rw [e]))⟩

theorem info_i64 : (Try.prog.info? 2).map (fun i => (i.zero, i.size, i.bytes)) = some (some (.int .i64 0), 1, 8) := by kernel_rfl

end Go.Proofs.Ythfmmlpbflfpaaa
