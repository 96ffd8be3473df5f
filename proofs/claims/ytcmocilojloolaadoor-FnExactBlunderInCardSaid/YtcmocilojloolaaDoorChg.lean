/- How worlds change that a call's marks and new blocks alone have changed; sizes of rows. -/
import Derived.Test.YtcmocilojloolaaDoorInts
import Derived.Test.YtcmocilojloolaaDoorRecs
import Derived.Test.YtcmocilojloolaaDoorExKit
namespace Go.Proofs.YtcmocilojloolaaDoor
open Go.ChangeShapes Go.WideShapes Go.ChangeAt Go.RowKit
set_option linter.unusedVariables false
set_option linter.unusedSimpArgs false

/-- How a world may have changed: the blocks from B to C alone, and new ones. -/
structure Chg (B C : Nat) (w w' : World) : Prop where
  os : w'.os = w.os
  tape : w'.tape = w.tape
  output : w'.output = w.output
  size : w.heap.size ≤ w'.heap.size
  block : ∀ k, k < w.heap.size → (k < B ∨ C ≤ k) → w'.heap[k]? = w.heap[k]?

theorem Chg.refl (B C : Nat) (w : World) : Chg B C w w := ⟨rfl, rfl, rfl, Nat.le_refl _, fun _ _ _ => rfl⟩
theorem Chg.trans {B C : Nat} {a b c : World} (h : Chg B C a b) (k : Chg B C b c) : Chg B C a c :=
  ⟨k.os.trans h.os, k.tape.trans h.tape, k.output.trans h.output, Nat.le_trans h.size k.size, fun i hi hn => (k.block i (Nat.lt_of_lt_of_le hi h.size) hn).trans (h.block i hi hn)⟩
theorem Chg.of_grown {B C : Nat} {w w' : World} {row : Option Nat} (h : w.grownBy w' row) (hr : ∀ k, row = some k → B ≤ k ∧ k < C) : Chg B C w w' :=
  ⟨h.os, h.tape, h.output, h.size, fun i hi hn => h.block i hi (fun e => by have := hr i e.symm; omega)⟩
theorem Chg.of_below {B C : Nat} {w w' : World} (h : Below w.heap.size w w') : Chg B C w w' :=
  ⟨h.os, h.tape, h.output, h.size, fun i hi _ => h.block i hi⟩
theorem Chg.below {B C N : Nat} {w0 w w' : World} (h : Chg B C w w') (b : Below N w0 w) (hN : N ≤ B) (hs : N ≤ w.heap.size) : Below N w0 w' :=
  ⟨h.os.trans b.os, h.tape.trans b.tape, h.output.trans b.output, Nat.le_trans b.size h.size, fun i hi => (h.block i (by omega) (.inl (by omega))).trans (b.block i hi)⟩

theorem OwnI.of_block {w w' : World} {B : Nat} {v : Value} {zs : List Int} (h : OwnI w B v zs) (hb : ∀ k, v.ownBlock = some k → w'.heap[k]? = w.heap[k]?) : OwnI w' B v zs := by
  obtain ⟨h1, h2 | ⟨g, cap, cur, rfl, h3, h4, h5⟩⟩ := h
  · exact ⟨h1, .inl h2⟩
  · exact ⟨h1, .inr ⟨g, cap, cur, rfl, h3, by rw [hb g rfl]; exact h4, h5⟩⟩
theorem OwnS.of_block {T : Type} {k : Nat} {enc : T → List Value} {t : TypeId} {w w' : World} {B : Nat} {v : Value} {xs : List T} (h : OwnS t k enc w B v xs) (hb : ∀ k, v.ownBlock = some k → w'.heap[k]? = w.heap[k]?) : OwnS t k enc w' B v xs := by
  obtain ⟨h1, h2 | ⟨g, cap, cur, rfl, h3, h4, h5⟩⟩ := h
  · exact ⟨h1, .inl h2⟩
  · exact ⟨h1, .inr ⟨g, cap, cur, rfl, h3, by rw [hb g rfl]; exact h4, h5⟩⟩
theorem ownsRow_cap {w : World} {B k n m c : Nat} {e : TypeId} {a : Option Addr} {xs : List Value} (h : w.ownsRow B e k (.slice a m c) n xs) : m ≤ c := by
  obtain ⟨-, h2 | ⟨g, cap, cur, hv, -, -, h5, -⟩⟩ := h
  · obtain ⟨hv, -⟩ := h2
    simp only [Value.slice.injEq] at hv
    omega
  · simp only [Value.slice.injEq] at hv
    omega
theorem OwnI.fit {w : World} {B : Nat} {v : Value} {zs : List Int} (h : OwnI w B v zs) : ∃ a c, v = .slice a zs.length c := by
  obtain ⟨a, c, hv, -⟩ := h.rd; exact ⟨a, c, hv⟩

/-- A row of integers of the call's own, in the blocks from B to C. -/
structure OwnIC (w : World) (B C : Nat) (v : Value) (zs : List Int) : Prop where
  own : OwnI w B v zs
  b : ∀ k, v.ownBlock = some k → k < C
  cb : C ≤ w.heap.size

theorem OwnIC.of {w : World} {B : Nat} {v : Value} {zs : List Int} (h : OwnI w B v zs) : OwnIC w B w.heap.size v zs := ⟨h, fun k e => (h.lt k e).2, Nat.le_refl _⟩
theorem OwnIC.rd {w : World} {B C : Nat} {v : Value} {zs : List Int} (h : OwnIC w B C v zs) : RdI w v zs := h.own.rd
theorem OwnIC.of_blocks {w w' : World} {B C : Nat} {v : Value} {zs : List Int} (h : OwnIC w B C v zs) (hs : w.heap.size ≤ w'.heap.size) (hb : ∀ k, B ≤ k → k < C → w'.heap[k]? = w.heap[k]?) : OwnIC w' B C v zs :=
  ⟨h.own.of_block fun k e => hb k (h.own.lt k e).1 (h.b k e), h.b, Nat.le_trans h.cb hs⟩
theorem OwnIC.later {w w' : World} {B C : Nat} {v : Value} {zs : List Int} (h : OwnIC w B C v zs) (hb : Below w.heap.size w w') : OwnIC w' B C v zs :=
  h.of_blocks hb.size fun k _ hk => hb.block k (by have := h.cb; omega)
theorem OwnIC.chg {w w' : World} {B C B' C' : Nat} {v : Value} {zs : List Int} (h : OwnIC w B C v zs) (hb : Chg B' C' w w') (hd : C ≤ B' ∨ C' ≤ B) : OwnIC w' B C v zs :=
  h.of_blocks hb.size fun k _ hk => hb.block k (by have := h.cb; omega) (by omega)
theorem OwnIC.mono {w : World} {B C B' : Nat} {v : Value} {zs : List Int} (h : OwnIC w B C v zs) (hB : B' ≤ B) : OwnIC w B' C v zs := ⟨h.own.mono hB, h.b, h.cb⟩

end Go.Proofs.YtcmocilojloolaaDoor
