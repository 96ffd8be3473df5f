/- Slices of slices of int64s: how they are read, what a call owns of them, and what the laws' own helpers do with them. -/
import Derived.Test.YtcmocilojloolaaDoorInts
import Derived.Test.YtcmocilojloolaaDoorRecs
import Derived.Test.YtcmocilojloolaaDoorExKit
import Derived.Deep.RegionHeld3
namespace Go.Proofs.YtcmocilojloolaaDoor
open Go.ChangeShapes Go.WideShapes Go.ChangeAt Go.RowKit
set_option linter.unusedVariables false
set_option linter.unusedSimpArgs false

/-- A slice of int64s as it lies in memory: where its numbers are. -/
structure Sl where
  a : Option Addr
  c : Nat
  t : List Int

def Sl.u (x : Sl) : Value := .slice x.a x.t.length x.c
def encSl (x : Sl) : List Value := [.slice x.a x.t.length x.c]
theorem encSl_len (x : Sl) : (encSl x).length = 1 := rfl
def zeroSl : Sl := ⟨none, 0, []⟩

/-- v is a slice of slices, in w. -/
structure RdSS (w : World) (v : Value) (xs : List Sl) : Prop where
  rows : RdS 1 encSl w v xs
  tops : ∀ x ∈ xs, RdI w x.u x.t

theorem RdSS.later {w w' : World} {v : Value} {xs : List Sl} (h : RdSS w v xs) (hb : Below w.heap.size w w') : RdSS w' v xs := ⟨h.rows.later hb, fun x hx => (h.tops x hx).later hb⟩

theorem RdSS.at {w : World} {a : Option Addr} {n cap : Nat} {xs : List Sl} (h : RdSS w (.slice a n cap) xs) {i : Nat} {x : Sl} (hx : xs[i]? = some x) :
    ∃ b off, a = some ⟨b, off, none⟩ ∧ w.cell? ⟨b, off + i, none⟩ = some (.slice x.a x.t.length x.c) ∧ RdI w (.slice x.a x.t.length x.c) x.t ∧ b < w.heap.size := by
  obtain ⟨a', c', hv, h2⟩ := h.rows
  simp only [Value.slice.injEq] at hv
  obtain ⟨rfl, -, -⟩ := hv
  obtain ⟨b, off, rfl, hc⟩ := h2.resolve_left (by intro e; rw [e] at hx; simp at hx)
  have c0 := hc i x hx 0 _ rfl
  rw [Nat.mul_one, Nat.add_zero] at c0
  exact ⟨b, off, rfl, c0, h.tops x (List.mem_of_getElem? hx), World.block_lt_of_cell? w _ c0⟩

/-- How a world may have changed: the blocks from B to C alone, and new ones. -/
structure ChgS (B C : Nat) (w w' : World) : Prop where
  os : w'.os = w.os
  tape : w'.tape = w.tape
  output : w'.output = w.output
  size : w.heap.size ≤ w'.heap.size
  block : ∀ k, k < w.heap.size → (k < B ∨ C ≤ k) → w'.heap[k]? = w.heap[k]?

theorem ChgS.refl (B C : Nat) (w : World) : ChgS B C w w := ⟨rfl, rfl, rfl, Nat.le_refl _, fun _ _ _ => rfl⟩
theorem ChgS.trans {B C : Nat} {a b c : World} (h : ChgS B C a b) (k : ChgS B C b c) : ChgS B C a c :=
  ⟨k.os.trans h.os, k.tape.trans h.tape, k.output.trans h.output, Nat.le_trans h.size k.size, fun i hi hn => (k.block i (Nat.lt_of_lt_of_le hi h.size) hn).trans (h.block i hi hn)⟩
theorem ChgS.of_grown {B C : Nat} {w w' : World} {row : Option Nat} (h : w.grownBy w' row) (hr : ∀ k, row = some k → B ≤ k ∧ k < C) : ChgS B C w w' :=
  ⟨h.os, h.tape, h.output, h.size, fun i hi hn => h.block i hi (fun e => by have := hr i e.symm; omega)⟩
theorem ChgS.of_below {B C : Nat} {w w' : World} (h : Below w.heap.size w w') : ChgS B C w w' :=
  ⟨h.os, h.tape, h.output, h.size, fun i hi _ => h.block i hi⟩
theorem ChgS.below {B C N : Nat} {w0 w w' : World} (h : ChgS B C w w') (b : Below N w0 w) (hN : N ≤ B) (hs : N ≤ w.heap.size) : Below N w0 w' :=
  ⟨h.os.trans b.os, h.tape.trans b.tape, h.output.trans b.output, Nat.le_trans b.size h.size, fun i hi => (h.block i (by omega) (.inl (by omega))).trans (b.block i hi)⟩

theorem OwnI.of_blockS {w w' : World} {B : Nat} {v : Value} {zs : List Int} (h : OwnI w B v zs) (hb : ∀ k, v.ownBlock = some k → w'.heap[k]? = w.heap[k]?) : OwnI w' B v zs := by
  obtain ⟨h1, h2 | ⟨g, cap, cur, rfl, h3, h4, h5⟩⟩ := h
  · exact ⟨h1, .inl h2⟩
  · exact ⟨h1, .inr ⟨g, cap, cur, rfl, h3, by rw [hb g rfl]; exact h4, h5⟩⟩
theorem OwnS.of_blockS {T : Type} {k : Nat} {enc : T → List Value} {t : TypeId} {w w' : World} {B : Nat} {v : Value} {xs : List T} (h : OwnS t k enc w B v xs) (hb : ∀ k, v.ownBlock = some k → w'.heap[k]? = w.heap[k]?) : OwnS t k enc w' B v xs := by
  obtain ⟨h1, h2 | ⟨g, cap, cur, rfl, h3, h4, h5⟩⟩ := h
  · exact ⟨h1, .inl h2⟩
  · exact ⟨h1, .inr ⟨g, cap, cur, rfl, h3, by rw [hb g rfl]; exact h4, h5⟩⟩
theorem OwnI.fitS {w : World} {B : Nat} {v : Value} {zs : List Int} (h : OwnI w B v zs) : ∃ a c, v = .slice a zs.length c := by
  obtain ⟨a, c, hv, -⟩ := h.rd; exact ⟨a, c, hv⟩

/-- A slice of slices of the call's own, in the blocks from B to C. -/
structure OwnSS (w : World) (B C : Nat) (v : Value) (xs : List Sl) : Prop where
  rows : OwnS 28 1 encSl w B v xs
  rb : ∀ k, v.ownBlock = some k → k < C
  tops : ∀ x ∈ xs, OwnI w B x.u x.t
  tb : ∀ x ∈ xs, ∀ k, x.u.ownBlock = some k → k < C
  apart : ∀ (i j : Nat) x y k, xs[i]? = some x → xs[j]? = some y → x.u.ownBlock = some k → y.u.ownBlock = some k → i = j
  cb : C ≤ w.heap.size

theorem OwnSS.rd {w : World} {B C : Nat} {v : Value} {xs : List Sl} (h : OwnSS w B C v xs) : RdSS w v xs := ⟨h.rows.rd encSl_len, fun x hx => (h.tops x hx).rd⟩
theorem OwnSS.of_blocks {w w' : World} {B C : Nat} {v : Value} {xs : List Sl} (h : OwnSS w B C v xs) (hs : w.heap.size ≤ w'.heap.size) (hb : ∀ k, B ≤ k → k < C → w'.heap[k]? = w.heap[k]?) : OwnSS w' B C v xs :=
  ⟨h.rows.of_blockS fun k e => hb k (h.rows.lt k e).1 (h.rb k e), h.rb, fun x hx => (h.tops x hx).of_blockS fun k e => hb k ((h.tops x hx).lt k e).1 (h.tb x hx k e), h.tb, h.apart, Nat.le_trans h.cb hs⟩
theorem OwnSS.later {w w' : World} {B C : Nat} {v : Value} {xs : List Sl} (h : OwnSS w B C v xs) (hb : Below w.heap.size w w') : OwnSS w' B C v xs :=
  h.of_blocks hb.size fun k _ hk => hb.block k (by have := h.cb; omega)
theorem OwnSS.chg {w w' : World} {B C B' C' : Nat} {v : Value} {xs : List Sl} (h : OwnSS w B C v xs) (hb : ChgS B' C' w w') (hd : C ≤ B' ∨ C' ≤ B) : OwnSS w' B C v xs :=
  h.of_blocks hb.size fun k _ hk => hb.block k (by have := h.cb; omega) (by omega)

/-- How many numbers the slices have. -/
def sumT (xs : List Sl) : Nat := (xs.map fun x => x.t.length).sum
theorem sumT_take_succ {xs : List Sl} {k : Nat} {x : Sl} (hx : xs[k]? = some x) : sumT (xs.take (k + 1)) = sumT (xs.take k) + x.t.length := by
  simp [sumT, List.take_add_one, hx]
theorem sumT_take_le (xs : List Sl) (k : Nat) : sumT (xs.take k) ≤ sumT xs := by
  have : sumT xs = sumT (xs.take k) + sumT (xs.drop k) := by
    unfold sumT
    rw [← List.sum_append, ← List.map_append, List.take_append_drop]
  omega

theorem map_t_get {xs ys : List Sl} (h : xs.map Sl.t = ys.map Sl.t) {i : Nat} {x : Sl} (hx : xs[i]? = some x) : ∃ y, ys[i]? = some y ∧ y.t = x.t := by
  have e : (xs.map Sl.t)[i]? = some x.t := by rw [List.getElem?_map, hx]; rfl
  rw [h, List.getElem?_map] at e
  cases hy : ys[i]? with
  | none => rw [hy] at e; simp at e
  | some y =>
    rw [hy] at e
    simp only [Option.map_some, Option.some.injEq] at e
    exact ⟨y, rfl, e⟩

theorem map_t_len {xs ys : List Sl} (h : xs.map Sl.t = ys.map Sl.t) : xs.length = ys.length := by
  have := congrArg List.length h
  simpa using this

end Go.Proofs.YtcmocilojloolaaDoor
