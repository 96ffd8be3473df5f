/- Copies of rows that may be empty; a stack's list. -/
import Derived.Test.YthfmmlpbflfpaacCloneG
import Derived.Test.YthfmmlpbflfpaacAppN
import Derived.Test.YthfmmlpbflfpaacBlkI
namespace Go.Proofs.Ythfmmlpbflfpaac
open Go.ChangeShapes Go.WideShapes Go.ChangeAt Go.RowKit
set_option linter.unusedVariables false
set_option linter.unusedSimpArgs false

theorem own_empty (w : World) : OwnI (w.alloc (.cells #[] 2)) w.heap.size (.slice (some ⟨w.heap.size, 0, none⟩) 0 0) [] := ownI_lit8 w [] (by simp)

theorem l00Own_any (v : Value) (zs : List Int) (w : World) (h : RdI w v zs) (lz : zs.length ≤ 1000000) :
    Calls Try.prog 24 #[v] w fun e w' => ∃ u, e = .returned u ∧ OwnI w' w.heap.size u zs ∧ Below w.heap.size w w' := by
  obtain ⟨a, cap, rfl, -⟩ := id h
  by_cases z : zs = []
  · subst z
    obtain ⟨i0, hi, hz0, hz1, hz2⟩ := infoI8_parts
    have K := run_append_nothing (P := Try.prog) (w.alloc (.cells #[] 2)) 44 44 2 i0 Try.underlying44 hi (some ⟨w.heap.size, 0, none⟩) a 0 0 cap (Nat.le_refl _)
    have O := Lib.hid (own_empty w)
    have B : Hid (Below w.heap.size w (w.alloc (.cells #[] 2))) := by show Below _ _ _; go_grown
    clear h
    go_enter Try.func24, Try.ntmps24
    go_wp2_with (at_builtin; refine Lib.wpList_append_run _ rfl _ _ _ _ rfl _ _ rfl rfl _ _ K ?_)
    go_wp2
    go_ret
    exact ⟨_, rfl, O.out, B.out⟩
  · exact l00Own8_any a cap zs.length zs w rfl (by have := mt List.length_eq_zero_iff.mp z; omega) lz h

theorem cloneE_any (b off cap : Nat) (zs : List Int) (w : World) (h : RdI w (.slice (some ⟨b, off, none⟩) zs.length cap) zs) (lz : zs.length ≤ 1000000) :
    Calls Try.prog 52 #[.slice (some ⟨b, off, none⟩) zs.length cap] w fun e w' => ∃ u, e = .returned u ∧ OwnI w' w.heap.size u zs ∧ Below w.heap.size w w' := by
  by_cases z : zs = []
  · subst z
    obtain ⟨i0, hi, hz0, hz1, hz2⟩ := infoI8_parts
    have K := run_append_nothing (P := Try.prog) (w.alloc (.cells #[] 2)) 44 44 2 i0 Try.underlying44 hi (some ⟨w.heap.size, 0, none⟩) (some ⟨b, off, none⟩) 0 0 cap (Nat.le_refl _)
    have q22 : ∀ (w : World) (a : Addr) (n c : Nat), (binOp .eql 44 (.slice (some a) n c) (.slice none 0 0)).run Try.prog w = .ok (.bool false) w := fun w a n c => Go.run_eql_slice_nil w _ _ (some a) n c Try.underlying44
    have O := Lib.hid (own_empty w)
    have B : Hid (Below w.heap.size w (w.alloc (.cells #[] 2))) := by show Below _ _ _; go_grown
    clear h
    simp only [List.length_nil]
    go_enter Try.func52, Try.ntmps52
    go_wp2_with (at_builtin; refine Lib.wpList_append_run _ rfl _ _ _ _ rfl _ _ rfl rfl _ _ K ?_)
    go_wp2
    go_ret
    exact ⟨_, rfl, O.out, B.out⟩
  · exact clone8_any (some ⟨b, off, none⟩) cap zs.length zs w rfl (by have := mt List.length_eq_zero_iff.mp z; omega) lz h

set_option maxHeartbeats 4000000 in
theorem list_any (a b c d : Int) (p : Nat) (t : List Int) (hp : p = t.length) (l4 : p ≤ 4) (h4 : In4 t a b c d) (w : World) :
    Calls Try.prog 45 #[.agg #[.int .i64 a, .int .i64 b, .int .i64 c, .int .i64 d, .int .i64 p]] w fun e w' => ∃ u, e = .returned u ∧ OwnI w' (w.heap.size + 1) u t ∧ Below w.heap.size w w' := by
  have S1 := fun w b o => slice4 w b o p p rfl l4
  have C := Lib.hid (fun b off cap w h => cloneE_any b off cap t w h (by omega))
  rw [← hp] at C
  have NB := Lib.hid (heap_alloc_new w (.cells #[.int .i64 a, .int .i64 b, .int .i64 c, .int .i64 d, .int .i64 p] 52))
  have BB : Hid (Below w.heap.size w (w.alloc (.cells #[.int .i64 a, .int .i64 b, .int .i64 c, .int .i64 d, .int .i64 p] 52))) := by show Below _ _ _; go_grown
  have RD : Hid (RdI (w.alloc (.cells #[.int .i64 a, .int .i64 b, .int .i64 c, .int .i64 d, .int .i64 p] 52)) (.slice (some ⟨w.heap.size, 0, none⟩) p 4) t) := by
    have := h4.rd NB.out (p := p) (by omega)
    rwa [hp, List.take_length, ← hp] at this
  clear hp h4
  go_enter Try.func45, Try.ntmps45
  go_wp2_with fail
  refine (C.out _ _ _ _ RD.out).mono ?_
  rintro e w5 ⟨u5, rfl, o5, b5⟩
  have O5 : Hid (OwnI w5 (w.heap.size + 1) u5 t) := by have := o5; simp only [World.size_alloc] at this; exact this
  have B5 : Hid (Below w.heap.size w w5) := BB.out.trans (b5.mono (by simp only [World.size_alloc]; omega))
  clear o5 b5 C RD
  go_wp2
  go_ret
  exact ⟨_, rfl, O5.out, B5.out⟩
end Go.Proofs.Ythfmmlpbflfpaac
