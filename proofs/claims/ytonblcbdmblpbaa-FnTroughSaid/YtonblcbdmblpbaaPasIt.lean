/- The program's iterator over Pascal's rows, and the row for some things. -/
import Derived.Test.YtonblcbdmblpbaaRowB
import Derived.Test.YtonblcbdmblpbaaIter2
import Derived.OwnWalkIn
import Derived.TacticsInMore
import Derived.LoopNIn
import Derived.LoopIn
namespace Go.Proofs.Ytonblcbdmblpbaa
open Go.ChangeShapes Go.WideShapes Go.ChangeAt Go.RowKit Go.Shelf
set_option linter.unusedVariables false
set_option linter.unusedSimpArgs false
attribute [local go_sem] Oper.semAt_some

theorem Rest.onto {Wr : Nat → Prop} {a b c : World} (h : Rest Wr a b) (k : Below a.heap.size b c) : Rest Wr a c :=
  ⟨k.os.trans h.os, k.tape.trans h.tape, k.output.trans h.output, Nat.le_trans h.size k.size, fun i hi hn => (k.block i hi).trans (h.block i hi hn)⟩

/-- An own row is as it was where only other blocks turn. -/
theorem OwnI.rest {Wr : Nat → Prop} {a b : World} {B : Nat} {v : Value} {L : List Int} (h : OwnI a B v L) (r : Rest Wr a b) (hn : ∀ k, v.ownBlock = some k → ¬ Wr k) : OwnI b B v L := by
  have hl := h.lt
  obtain ⟨h1, h2 | ⟨g, cap, cur, rfl, h3, h4, h5⟩⟩ := h
  · exact ⟨h1, .inl h2⟩
  · exact ⟨h1, .inr ⟨g, cap, cur, rfl, h3, (r.block g (hl g rfl).2 (hn g rfl)).trans h4, h5⟩⟩

def lenOf : Value → Nat
  | .slice _ n _ => n
  | _ => 0

set_option maxRecDepth 100000 in
set_option maxHeartbeats 4000000 in
theorem pascal_gives (n : Nat) (hn : 1 ≤ n) (l T : Nat) (hT : T ≤ 10) (J Jx : List Value → World → Prop) (W : World) (hl : l < W.heap.size)
    (hOk : ∀ s A, J s A → s.length ≤ T) (hJ : ∀ s A B, J s A → Below A.heap.size A B → J s B)
    (hY : ∀ pre x W2, J pre W2 → OwnI W2 W.heap.size x (rowP pre.length) → YieldAt Fence.wide (n - 1) Try.prog l #[x] W2 fun e W' =>
      (e = .returned (.bool true) ∧ J (pre ++ [x]) W' ∧ Rest (fun k => k < W.heap.size) W2 W') ∨ (e = .returned (.bool false) ∧ Jx (pre ++ [x]) W'))
    (h0 : J [] W) :
    CallsIn Fence.wide n Try.prog 87 (#[.func (.yield l) #[] #[]] ++ #[]) W fun e W' => (∃ v, e = .returned v) ∧ ∃ pre, Jx pre W' := by
  refine callsIn_of_wp Try.func87 rfl trivial ?_ rfl
  simp only [Try.ntmps87, List.size_toArray, List.length_cons, List.length_nil, Nat.reduceAdd, Nat.reduceSub, Array.replicate_succ, Array.replicate_zero, List.push_toArray, List.append_toArray, List.nil_append, List.cons_append]
  have O0 : Hid (OwnI (w := W.alloc (.cells #[.int .i64 1] 2)) W.heap.size (.slice (some ⟨W.heap.size, 0, none⟩) 1 1) (rowP 0)) := own_one W W.heap.size rfl (rowP 0) 1 rfl
  have J0 : Hid (J [] (W.alloc (.cells #[.int .i64 1] 2))) := hJ _ _ _ h0 ((Below.refl _ _).alloc (Nat.le_refl _) _)
  have l0 : W.heap.size < (W.alloc (.cells #[.int .i64 1] 2)).heap.size := by simp
  have HY := Lib.hid hY
  have HJ := Lib.hid hJ
  have HO := Lib.hid hOk
  clear hY hJ hOk h0
  gi_wp2
  gi_loopw [2] (fun rv wr => ∃ (g c : Nat) (pre : List Value), rv = .slice (some ⟨g, 0, none⟩) (pre.length + 1) c ∧ W.heap.size ≤ g ∧ Hid (OwnI wr W.heap.size (.slice (some ⟨g, 0, none⟩) (pre.length + 1) c) (rowP pre.length)) ∧ Hid (J pre wr) ∧ W.heap.size < wr.heap.size) (fun rv _ => T + 2 - lenOf rv)
  case atStart => exact ⟨W.heap.size, 1, [], rfl, Nat.le_refl _, O0, J0, l0⟩
  case round =>
    obtain ⟨g, c, pre, rfl, gl, ho, hj, lt⟩ := hrel
    clear O0 J0 l0
    have le := HO.out _ _ hj.out
    obtain ⟨fn, tmps, assign, body, hy, hR⟩ := HY.out pre (.slice (some ⟨g, 0, none⟩) (pre.length + 1) c) wr hj.out ho.out
    have hg := (ho.out.lt g rfl).2
    gi_wp2
    refine hR.mono ?_
    clear hR hy
    rintro e W4 (⟨rfl, hJ6, hk6⟩ | ⟨rfl, hJx6⟩)
    · have le2 := HO.out _ _ hJ6
      rw [List.length_append, List.length_singleton] at le2
      have sz := hk6.size
      have O6 := Lib.hid (ho.out.rest hk6 (fun k e => by cases e; show ¬ g < W.heap.size; omega))
      have J6 := Lib.hid hJ6
      obtain ⟨m, hm⟩ : ∃ m, m = pre.length := ⟨_, rfl⟩
      rw [← hm] at le le2 O6
      have C := Lib.hid (fun (i : Nat) => callsIn_wide (n := i).2 (rowBelow_any (.slice (some ⟨g, 0, none⟩) (m + 1) c) (rowP m) W4 O6.out.rd (by rw [rowP_len]; omega) (by rw [rowP_len]; omega) (by
        intro x hx
        have := rowP_in (n := m) (by omega) x hx
        omega)))
      rw [← hm]
      have HM := Lib.hid hm
      clear hJ6 hk6 hj ho hm
      gi_wp2_with fail
      refine ⟨trivial, (C.out _).mono ?_⟩
      rintro e w5 ⟨u, rfl, o5, b5⟩
      have e1 : nextRow (rowP m) = rowP (m + 1) := rfl
      rw [e1] at o5
      obtain ⟨g5, c5, rfl, gl5, -⟩ := o5.formed (rowP_len (m + 1)) (by omega)
      have z5 := b5.size
      have O7 : Hid (OwnI w5 W.heap.size (.slice (some ⟨g5, 0, none⟩) (m + 1 + 1) c5) (rowP (m + 1))) := o5.mono (by omega)
      have J7 := Lib.hid (HJ.out _ _ _ J6.out b5)
      clear o5 b5 C
      gi_wp2
      exact ⟨⟨g5, c5, pre ++ [.slice (some ⟨g, 0, none⟩) (pre.length + 1) c], by rw [List.length_append, ← HM.out]; rfl, by omega, by rw [List.length_append, ← HM.out]; exact O7, J7, by omega⟩, by have := HM.out; simp only [lenOf]; omega⟩
    · have X6 := Lib.hid hJx6
      clear hJx6 hj ho
      gi_wp2
      go_end0
      exact ⟨⟨_, rfl⟩, _, X6.out⟩

theorem Rest.cell {Wr : Nat → Prop} {a b : World} (h : Rest Wr a b) {p : Addr} (hp : p.block < a.heap.size) (hn : ¬ Wr p.block) : b.cell? p = a.cell? p := World.cell?_of_block (w := a) (h.block p.block hp hn)

set_option maxRecDepth 100000 in
set_option maxHeartbeats 4000000 in
theorem ways_any (T : Nat) (hT : T ≤ 10) (w : World) :
    Calls Try.prog 66 #[.int .i64 T] w fun e w' => ∃ u, e = .returned u ∧ OwnI w' w.heap.size u (rowP T) ∧ Below w.heap.size w w' := by
  refine (callsIn_wide (n := 5)).1 ?_
  refine callsIn_of_wp_marks Try.func66 rfl trivial ?_ rfl
  simp only [Try.ntmps66, List.size_toArray, List.length_cons, List.length_nil, Nat.reduceAdd, Nat.reduceSub, Array.replicate_succ, Array.replicate_zero, List.push_toArray, List.append_toArray, List.nil_append, List.cons_append]
  gi_wp2_with fail
  generalize hw2 : (w.alloc (.cells #[.int .i64 T] 2)).alloc (.cells #[.slice none 0 0] 25) = w2
  have s2 : w2.heap.size = w.heap.size + 2 := by rw [← hw2]; simp
  have B2 : Below w.heap.size w w2 := by rw [← hw2]; exact ((Below.refl _ _).alloc (Nat.le_refl _) _).alloc (by simp) _
  have T2 : w2.heap[w.heap.size]? = some (.cells #[.int .i64 T] 2 (0, 0)) := by rw [← hw2]; exact heap_alloc2_old w _ _
  have L2 : w2.heap[w.heap.size + 1]? = some (.cells #[.slice none 0 0] 25 (0, 0)) := by rw [← hw2]; exact heap_alloc2_new w _ _
  refine range_law2 (F := Fence.wide) rfl (by omega) (gf := 87) (lb := #[]) rfl trivial (enters_of Try.func87 (by kernel_rfl) rfl) (encs := fun x => #[x]) (fun _ => rfl) 0 (fun s => s.length ≤ T) (fun pre x W => OwnI W (w2.heap.size + 2) x (rowP pre.length)) (fun k => k = w.heap.size + 1) (fun k e => by omega) ?seq
    (fun s W => s.length ≤ T ∧ W.heap[w.heap.size]? = some (.cells #[.int .i64 T] 2 (0, 0)) ∧ (∃ u, W.heap[w.heap.size + 1]? = some (.cells #[u] 25 (0, 0))) ∧ Below w.heap.size w W)
    (fun s W => (∃ u, W.heap[w.heap.size + 1]? = some (.cells #[u] 25 (0, 0)) ∧ OwnI W (w2.heap.size + 2) u (rowP T)) ∧ Below w.heap.size w W)
    (fun s A h => h.1) ?hI ?hIx ⟨by simp, T2, ⟨_, L2⟩, B2⟩ ?round ?stop
  case seq =>
    intro l J Jx W1 hb hl hl2 hOk hJ hJx hY h0
    refine pascal_gives _ (by omega) l T hT J Jx W1 (by omega) hOk hJ (fun pre x W2 hj hf => ?_) h0
    obtain ⟨fn, tmps, assign, body, hy, hR⟩ := hY pre x W2 hj (hf.mono hl2)
    refine ⟨fn, tmps, assign, body, hy, hR.mono ?_⟩
    rintro e W' (⟨rfl, a1, a2⟩ | ⟨rfl, a1⟩)
    · exact .inl ⟨rfl, a1, a2.mono (fun k h => by omega)⟩
    · exact .inr ⟨rfl, a1⟩
  case hI =>
    rintro s A B ⟨h1, h2, ⟨u, h3⟩, h4⟩ hb
    have lA := (Array.getElem?_eq_some_iff.1 h3).1
    exact ⟨h1, (hb.block _ (by omega) (by omega)).trans h2, ⟨u, (hb.block _ lA (by omega)).trans h3⟩, h4.trans (hb.below (by omega) (fun k e => by omega))⟩
  case hIx =>
    rintro s A B ⟨⟨u, h3, h5⟩, h4⟩ hb
    have lA := (Array.getElem?_eq_some_iff.1 h3).1
    exact ⟨⟨u, (hb.block _ lA (by omega)).trans h3, h5.rest hb (fun k e => by have := (h5.lt k e).1; omega)⟩, h4.trans (hb.below (by omega) (fun k e => by omega))⟩
  case round =>
    rintro l pre x W rfl hl2 ⟨i1, i2, ⟨u, i3⟩, i4⟩ fit
    have lW := (Array.getElem?_eq_some_iff.1 i3).1
    gi_wp2
    refine ⟨Rest.refl _ _, fun W2 r2 => ?_⟩
    have fit2 : OwnI W2 (w2.heap.size + 2) x (rowP pre.length) := fit.rest r2 (fun k e => by have := (fit.lt k e).1; omega)
    have i2' := (r2.block w.heap.size (by omega) (by omega)).trans i2
    have i3' := (r2.block (w.heap.size + 1) lW (by omega)).trans i3
    have i4' : Below w.heap.size w W2 := i4.trans (r2.below (by omega) (fun k e => by omega))
    have sW := r2.size
    obtain ⟨g, c, rfl, gl, gh⟩ := fit2.formed (rowP_len _) (by omega)
    have f0 := cell_of_row W2 (w.heap.size + 1) 0 _ _ _ i3'
    have f1 := frozen_of_row W2 (w.heap.size + 1) 0 _ _ i3'
    have f2 : W2.cell? ⟨w.heap.size, 0, none⟩ = some (.int .i64 T) := cell_of_row W2 w.heap.size 0 _ _ _ i2'
    simp only [List.getElem?_toArray, List.getElem?_cons_zero] at f0
    have I1 := Lib.hid i1
    have I2 := Lib.hid i2'
    have I3 := Lib.hid i3'
    have I4 := Lib.hid i4'
    have F := Lib.hid fit2
    obtain ⟨m, hm⟩ : ∃ m, m = pre.length := ⟨_, rfl⟩
    rw [← hm] at F ⊢
    have HM := Lib.hid hm
    clear i1 i2 i3 i2' i3' r2 fit fit2 i4 i4' hm
    have S1 : Hid ((W2.setCell ⟨w.heap.size + 1, 0, none⟩ (.slice (some ⟨g, 0, none⟩) (m + 1) c)).heap[w.heap.size + 1]? = some (.cells #[.slice (some ⟨g, 0, none⟩) (m + 1) c] 25 (0, 0))) := heap_setCell_same W2 (w.heap.size + 1) 0 _ _ _ I3.out
    have S2 : Hid ((W2.setCell ⟨w.heap.size + 1, 0, none⟩ (.slice (some ⟨g, 0, none⟩) (m + 1) c)).heap[w.heap.size]? = some (.cells #[.int .i64 T] 2 (0, 0))) := (heap_setCell_other W2 ⟨w.heap.size + 1, 0, none⟩ w.heap.size _ (by show _ ≠ w.heap.size + 1; omega)).trans I2.out
    have S3 : Hid (Rest (fun k => k = w.heap.size + 1) W2 (W2.setCell ⟨w.heap.size + 1, 0, none⟩ (.slice (some ⟨g, 0, none⟩) (m + 1) c))) := Rest.setCell (Wr := fun k => k = w.heap.size + 1) (Rest.refl _ _) (p := ⟨w.heap.size + 1, 0, none⟩) rfl _
    have S4 : Hid (Below w.heap.size w (W2.setCell ⟨w.heap.size + 1, 0, none⟩ (.slice (some ⟨g, 0, none⟩) (m + 1) c))) := I4.out.setCell (by show w.heap.size ≤ w.heap.size + 1; omega) _
    by_cases gT : m + 1 ≤ T
    · have g1 : ¬ ((m + 1 : Nat) : Int) > (T : Int) := by omega
      have g2 : ¬ ((m : Int) + 1 > (T : Int)) := by omega
      gi_wp2
      exact ⟨S3.out, by rw [List.length_append, ← HM.out]; exact gT, S2.out, ⟨_, S1.out⟩, S4.out⟩
    · have g1 : ((m + 1 : Nat) : Int) > (T : Int) := by omega
      have g2 : ((m : Int) + 1 > (T : Int)) := by omega
      have e : m = T := by have := HM.out; have := I1.out; omega
      have F2 : Hid (OwnI (W2.setCell ⟨w.heap.size + 1, 0, none⟩ (.slice (some ⟨g, 0, none⟩) (m + 1) c)) (w2.heap.size + 2) (.slice (some ⟨g, 0, none⟩) (m + 1) c) (rowP T)) := by
        rw [← e]
        exact F.out.rest S3.out (fun k h => by cases h; show ¬ g = _; omega)
      clear e
      gi_wp2
      exact ⟨rfl, S3.out, ⟨_, S1.out, F2.out⟩, S4.out⟩
  case stop =>
    rintro D pre W hD ⟨⟨u, i3, i5⟩, i4⟩ hK
    obtain ⟨g, c, rfl, gl, gh⟩ := i5.formed (rowP_len T) (by omega)
    have f0 : W.cell? ⟨w.heap.size + 1, 0, none⟩ = some (.slice (some ⟨g, 0, none⟩) (T + 1) c) := cell_of_row W (w.heap.size + 1) 0 _ _ _ i3
    have I4 := Lib.hid i4
    have I5 := Lib.hid i5
    have HK := Lib.hid hK
    have lD := (Array.getElem?_eq_some_iff.1 hK).1
    clear i3 i4 i5 hK
    gi_wp2
    refine ⟨by simp, .inl ⟨_, _, rfl, run_takeDeferred HK.out, ?_⟩⟩
    have nD : D ≠ g := by
      intro e
      obtain ⟨-, hx | ⟨g', c', cur, he, -, h4, -⟩⟩ := I5.out
      · exact absurd hx.2 (by rw [rowP_len]; omega)
      · simp only [Value.slice.injEq, Option.some.injEq, Addr.mk.injEq] at he
        rw [← he.1.1, ← e, HK.out] at h4
        cases h4
    have RD : Rest (fun k => k = D) W (W.putObj D (.deferred none)) := Rest.putObj (Wr := fun k => k = D) (Rest.refl _ _) rfl _
    refine ⟨.slice (some ⟨g, 0, none⟩) (T + 1) c, ?_, _, rfl, ((I5.out.mono (by omega)).rest RD (fun k e => by cases e; exact fun h => nD h.symm)), I4.out.trans (RD.below I4.out.size (fun k e => by omega))⟩
    simp [results, Try.results66, go_sem]
end Go.Proofs.Ytonblcbdmblpbaa
