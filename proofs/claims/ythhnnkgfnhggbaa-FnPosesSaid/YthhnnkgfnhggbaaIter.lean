/- Ranging over an iterator that keeps cells of its own: one law for whoever ranges. -/
import Derived.RangeFuncNested
import Derived.RangeFuncBound
import Derived.RangeFuncCalls
import Derived.RangeFuncLeaves
import Derived.Shelf.Abstract
import Derived.Below
namespace Go.Proofs.Ythhnnkgfnhggbaa
open Go.RowKit Go.Shelf
set_option linter.unusedVariables false
set_option linter.unusedSimpArgs false

/-- From w to w' no block has turned but those of Wr and new ones. -/
structure Rest (Wr : Nat → Prop) (w w' : World) : Prop where
  os : w'.os = w.os
  tape : w'.tape = w.tape
  output : w'.output = w.output
  size : w.heap.size ≤ w'.heap.size
  block : ∀ k, k < w.heap.size → ¬ Wr k → w'.heap[k]? = w.heap[k]?

theorem Rest.refl (Wr : Nat → Prop) (w : World) : Rest Wr w w := ⟨rfl, rfl, rfl, Nat.le_refl _, fun _ _ _ => rfl⟩
theorem Rest.trans {Wr : Nat → Prop} {a b c : World} (h : Rest Wr a b) (k : Rest Wr b c) : Rest Wr a c :=
  ⟨k.os.trans h.os, k.tape.trans h.tape, k.output.trans h.output, Nat.le_trans h.size k.size, fun i hi hn => (k.block i (Nat.lt_of_lt_of_le hi h.size) hn).trans (h.block i hi hn)⟩
theorem Rest.mono {Wr Wr' : Nat → Prop} {a b : World} (h : Rest Wr a b) (hw : ∀ k, Wr k → Wr' k) : Rest Wr' a b :=
  ⟨h.os, h.tape, h.output, h.size, fun i hi hn => h.block i hi fun e => hn (hw i e)⟩
theorem Rest.grown {Wr : Nat → Prop} {a b : World} {row : Option Nat} (h : a.grownBy b row) (hr : ∀ k, row = some k → Wr k ∨ a.heap.size ≤ k) : Rest Wr a b :=
  ⟨h.os, h.tape, h.output, h.size, fun i hi hn => h.block i hi fun e => (hr i e.symm).elim hn (fun h => absurd hi (by omega))⟩
theorem Rest.alloc {Wr : Nat → Prop} {a b : World} (h : Rest Wr a b) (o : Obj) : Rest Wr a (b.alloc o) :=
  h.trans (Rest.grown (World.grownBy_alloc b o none) (fun k e => by cases e))
theorem Rest.putObj {Wr : Nat → Prop} {a b : World} (h : Rest Wr a b) {l : Nat} (hl : Wr l) (o : Obj) : Rest Wr a (b.putObj l o) :=
  h.trans (Rest.grown (grownBy_putObj' b l o) (fun k e => by cases e; exact .inl hl))
theorem Rest.setCell {Wr : Nat → Prop} {a b : World} (h : Rest Wr a b) {p : Addr} (hl : Wr p.block) (u : Value) : Rest Wr a (b.setCell p u) :=
  h.trans ⟨rfl, rfl, rfl, by simp [World.setCell], fun k hk hn => Below.heap_setCell _ _ _ _ (fun e => hn (by rw [e]; exact hl))⟩
theorem Rest.below {Wr : Nat → Prop} {a b : World} (h : Rest Wr a b) {B : Nat} (hB : B ≤ a.heap.size) (hW : ∀ k, Wr k → B ≤ k) : Below B a b :=
  ⟨h.os, h.tape, h.output, h.size, fun k hk => h.block k (by omega) fun e => by have := hW k e; omega⟩
theorem Rest.of_below {B : Nat} {Wr : Nat → Prop} {a b : World} (h : Below B a b) (hW : ∀ k, B ≤ k → k < a.heap.size → Wr k) : Rest Wr a b :=
  ⟨h.os, h.tape, h.output, h.size, fun k hk hn => h.block k (by
    by_cases e : B ≤ k
    · exact absurd (hW k e hk) hn
    · omega)⟩

/-- How the body of a round may be left. -/
def LeftBy {α : Type} (Wr : Nat → Prop) (I Ix : List α → World → Prop) (xs : List α) (W : World) : Exit → Act → World → Prop
  | .normal, _, W' => Rest Wr W W' ∧ I xs W'
  | .ret, _, W' => Rest Wr W W' ∧ Ix xs W'
  | _, _, _ => False

variable {F : Fence} {n : Nat} {P : Program}

/-- The law for whoever ranges: the iterator gives the values 'all' in their order, keeping what lay before it was called but Wr and the loop's record. -/
theorem range_law {α : Type} {g : Operand} {ps : Array Tmp} {assign body : Code} {Q : Exit → Act → World → Prop} {a : Act} {w : World}
    (hro : F.round = none) (h1 : 1 ≤ n) {gf : Nat} {lb : Array Value} (hg : a.eval g = .func (.func gf) #[] lb) (hFg : F.fn gf) (eg : ∀ args w, (callFunc gf args).run P w = .ok (.enter gf args) w)
    {encs : α → Array Value} (hps : ∀ x, (encs x).size = ps.size) (all : List α) (Okay : List α → Prop) (Wr : Nat → Prop) (hWr : ∀ k, Wr k → k < w.heap.size)
    (hseq : ∀ (l : Nat) (J Jx : List α → World → Prop) (W1 : World), Below w.heap.size w W1 → w.heap.size ≤ l → l < W1.heap.size →
      (∀ s A, J s A → Okay s) → (∀ s A B, J s A → Below W1.heap.size A B → J s B) → (∀ s A B, Jx s A → Below W1.heap.size A B → Jx s B) →
      (∀ pre x W2, J pre W2 → pre ++ [x] <+: all → YieldAt F (n - 1 - 1) P l (encs x) W2 fun e W' =>
        (e = .returned (.bool true) ∧ J (pre ++ [x]) W' ∧ Rest (fun k => Wr k ∨ k = l) W2 W') ∨ (e = .returned (.bool false) ∧ Jx (pre ++ [x]) W')) →
      J [] W1 →
      CallsIn F (n - 1) P gf (#[.func (.yield l) #[] #[]] ++ lb) W1 fun e W' => (∃ v, e = .returned v) ∧ (J all W' ∨ ∃ pre, pre <+: all ∧ Jx pre W'))
    (I Ix : List α → World → Prop) (hOk : ∀ s A, I s A → Okay s) (hI : ∀ s A B, I s A → Below w.heap.size A B → I s B) (hIx : ∀ s A B, Ix s A → Below w.heap.size A B → Ix s B) (h0 : I [] w)
    (hround : ∀ (l : Nat) (pre : List α) (x : α) (W : World), w.heap.size ≤ l → l < W.heap.size → I pre W → pre ++ [x] <+: all →
      assign.wpIn (F.inRound l) (n - 1 - 1) P (Exit.then (fun a₁ W1 => Rest (fun _ => False) W W1 ∧ ∀ W2, Rest (fun k => k = l) W1 W2 → body.wpIn (F.inRound l) (n - 1 - 1) P (LeftBy Wr I Ix (pre ++ [x]) W2) a₁ W2) (fun _ _ _ => False))
        { tmps := (ps.zip (encs x)).foldl (fun t (p, v) => t.setIfInBounds p v) a.tmps, defers := [] } W)
    (hdone : ∀ (D : Nat) (W : World), w.heap.size ≤ D → I all W → W.heap[D]? = some (.deferred (some [])) → Q .normal { a with defers := { target := .collected D, args := #[] } :: a.defers } W)
    (hstop : ∀ (D : Nat) (pre : List α) (W : World), w.heap.size ≤ D → pre <+: all → Ix pre W → W.heap[D]? = some (.deferred (some [])) → Code.ret.wpIn F n P Q { a with defers := { target := .collected D, args := #[] } :: a.defers } W) :
    (Code.rangeFunc g ps assign body).wpIn F n P Q a w := by
  refine wpIn_rangeFunc ?_
  intro fn hfn
  rw [hro]
  obtain ⟨rc, hrc⟩ : ∃ rc : LoopState → Option Code → Loop, rc = fun st pe => { state := st, pending := pe, fn := fn, tmps := a.tmps, params := ps, assign := assign, body := body, defers := w.heap.size } := ⟨_, rfl⟩
  have en := run_enterLoop_outer (P := P) (w := w) fn a.tmps ps assign body
  generalize hW1 : (w.alloc (.deferred (some []))).alloc (.loop { state := .ready, pending := none, fn := fn, tmps := a.tmps, params := ps, assign := assign, body := body, defers := w.heap.size }) = W1 at en
  have z1 : W1.heap.size = w.heap.size + 1 + 1 := by rw [← hW1]; simp
  have b1 : Below w.heap.size w W1 := by rw [← hW1]; exact ((Below.refl _ w).alloc (Nat.le_refl _) _).alloc (by simp) _
  have r1 : W1.heap[w.heap.size + 1]? = some (.loop (rc .ready none)) := by
    rw [← hW1, hrc]
    have := World.alloc_heap_new (w.alloc (.deferred (some []))) (.loop { state := .ready, pending := none, fn := fn, tmps := a.tmps, params := ps, assign := assign, body := body, defers := w.heap.size })
    rwa [World.size_alloc] at this
  have d1 : W1.heap[w.heap.size]? = some (.deferred (some [])) := by
    rw [← hW1]; exact (Below.heap_alloc _ _ _ (by simp)).trans (World.alloc_heap_new w _)
  refine ⟨w.heap.size + 1, _, W1, { target := .fn (.func gf) lb, args := #[.func (.yield (w.heap.size + 1)) #[] #[]] }, W1, gf, #[.func (.yield (w.heap.size + 1)) #[] #[]] ++ lb, W1, en, ?_, ?_, ?_, fun _ => h1, ?_⟩
  · simp only [resolve, hg]
    simp [go_sem]
  · intro f' hf'
    simp [Target.leads] at hf'
    subst hf'
    exact hFg
  · simp [invoke, go_sem, eg]
  refine (hseq (w.heap.size + 1)
    (fun s W => I s W ∧ W.heap[w.heap.size + 1]? = some (.loop (rc .ready none)) ∧ W.heap[w.heap.size]? = some (.deferred (some [])))
    (fun s W => Ix s W ∧ W.heap[w.heap.size + 1]? = some (.loop (rc .done (some .ret))) ∧ W.heap[w.heap.size]? = some (.deferred (some [])))
    W1 b1 (by omega) (by omega) (fun s A h => hOk s A h.1) ?_ ?_ ?_ ⟨hI _ _ _ h0 b1, r1, d1⟩).mono ?_
  · rintro s A B ⟨i, r, d⟩ hb
    exact ⟨hI s A B i (hb.mono (by omega)), (hb.block _ (by omega)).trans r, (hb.block _ (by omega)).trans d⟩
  · rintro s A B ⟨i, r, d⟩ hb
    exact ⟨hIx s A B i (hb.mono (by omega)), (hb.block _ (by omega)).trans r, (hb.block _ (by omega)).trans d⟩
  · -- one round
    rintro pre x W ⟨i, r, d⟩ hpre
    have lt : w.heap.size + 1 < W.heap.size := (Array.getElem?_eq_some_iff.1 r).1
    have hy := run_yield (P := P) (args := encs x) r (by rw [hrc]; exact hps x)
    rw [hrc] at hy
    refine ⟨fn, _, assign, body, hy, roundIn_of_wpIn hfn (wpIn_mono (hround (w.heap.size + 1) pre x W (by omega) lt i hpre) ?_)⟩
    rintro e a1 Wa hp
    cases e with
    | normal =>
      obtain ⟨ra, hb⟩ := hp
      have la : w.heap.size + 1 < Wa.heap.size := Nat.lt_of_lt_of_le lt ra.size
      have ra1 : Wa.heap[w.heap.size + 1]? = some (.loop (rc .ready none)) := (ra.block _ lt (fun h => h)).trans r
      have ra2 : Wa.heap[w.heap.size]? = some (.deferred (some [])) := (ra.block _ (by omega) (fun h => h)).trans d
      have hbg := run_beginRound (P := P) ra1 (by rw [hrc])
      refine ⟨_, hbg, ?_⟩
      generalize hWb : Wa.putObj (w.heap.size + 1) (.loop { rc .ready none with state := .busy }) = Wb
      have rb : Rest (fun k => k = w.heap.size + 1) Wa Wb := by rw [← hWb]; exact Rest.putObj (Wr := fun k => k = w.heap.size + 1) (Rest.refl _ _) rfl _
      have rb1 : Wb.heap[w.heap.size + 1]? = some (.loop { rc .ready none with state := .busy }) := by rw [← hWb]; exact World.putObj_heap_same la
      have rb2 : Wb.heap[w.heap.size]? = some (.deferred (some [])) := (rb.block _ (by omega) (by omega)).trans ra2
      have lb1 : w.heap.size + 1 < Wb.heap.size := Nat.lt_of_lt_of_le la rb.size
      refine wpIn_mono (hb Wb rb) ?_
      have fin : ∀ (jump : Option Code) (W3 : World), Rest Wr Wb W3 →
          ∃ W4, (Instr.endRound (w.heap.size + 1) jump).run P W3 = .ok (.bool jump.isNone) W4 ∧ W4.heap[w.heap.size + 1]? = some (.loop (rc (if jump.isNone then .ready else .done) jump)) ∧ W4.heap[w.heap.size]? = some (.deferred (some [])) ∧ Below w.heap.size W3 W4 ∧ Rest (fun k => Wr k ∨ k = w.heap.size + 1) W W4 := by
        intro jump W3 h3
        have n1 : ¬ Wr (w.heap.size + 1) := fun h => by have := hWr _ h; omega
        have n2 : ¬ Wr w.heap.size := fun h => by have := hWr _ h; omega
        have r3 := (h3.block _ lb1 n1).trans rb1
        have l3 : w.heap.size + 1 < W3.heap.size := Nat.lt_of_lt_of_le lb1 h3.size
        have he := run_endRound (P := P) jump r3
        refine ⟨_, he, ?_, ?_, ?_, ?_⟩
        · rw [hrc]; exact World.putObj_heap_same l3
        · exact (World.putObj_heap_other (by omega)).trans ((h3.block _ (by omega) n2).trans rb2)
        · exact (Rest.refl (fun k => k = w.heap.size + 1) W3).putObj rfl _ |>.below (by omega) (fun k e => by omega)
        · exact (((ra.mono (fun _ h => h.elim)).trans (rb.mono (fun _ h => .inr h))).trans (h3.mono (fun _ h => .inl h))).putObj (.inr rfl) _
      rintro e a3 W3 hp3
      cases e with
      | normal =>
        obtain ⟨h3, i3⟩ := hp3
        obtain ⟨W4, e4, r4, d4, b4, rest4⟩ := fin none W3 h3
        exact ⟨_, _, e4, .inl ⟨rfl, ⟨hI _ _ _ i3 b4, r4, d4⟩, rest4⟩⟩
      | ret =>
        obtain ⟨h3, i3⟩ := hp3
        obtain ⟨W4, e4, r4, d4, b4, rest4⟩ := fin (some .ret) W3 h3
        exact ⟨_, _, e4, .inr ⟨rfl, hIx _ _ _ i3 b4, r4, d4⟩⟩
      | exit id => exact hp3.elim
      | goto t => exact hp3.elim
      | panic ch => exact hp3.elim
      | outgrown => exact hp3.elim
    | ret => exact hp.elim
    | exit id => exact hp.elim
    | goto t => exact hp.elim
    | panic ch => exact hp.elim
    | outgrown => exact hp.elim
  · -- behind the iterator
    rintro e W2 ⟨⟨v, rfl⟩, (⟨i, r, d⟩ | ⟨pre, hpre, i, r, d⟩)⟩
    · have he := run_endLoop (P := P) r (by rw [hrc]; simp)
      refine ⟨none, _, by rw [hrc] at he; exact he, hdone w.heap.size _ (Nat.le_refl _) (hI _ _ _ i ?_) ((World.putObj_heap_other (by omega)).trans d)⟩
      exact (Rest.refl (fun k => k = w.heap.size + 1) W2).putObj rfl _ |>.below (by have := (Array.getElem?_eq_some_iff.1 r).1; omega) (fun k e => by omega)
    · have he := run_endLoop (P := P) r (by rw [hrc]; simp)
      refine ⟨some .ret, _, by rw [hrc] at he; exact he, hstop w.heap.size pre _ (Nat.le_refl _) hpre (hIx _ _ _ i ?_) ((World.putObj_heap_other (by omega)).trans d)⟩
      exact (Rest.refl (fun k => k = w.heap.size + 1) W2).putObj rfl _ |>.below (by have := (Array.getElem?_eq_some_iff.1 r).1; omega) (fun k e => by omega)
end Go.Proofs.Ythhnnkgfnhggbaa
