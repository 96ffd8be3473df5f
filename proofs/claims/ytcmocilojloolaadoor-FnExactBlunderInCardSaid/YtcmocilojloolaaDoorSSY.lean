/- Slices of slices of int64s: their sizes and copies. (Written by tools/mkssy.py.) -/
import Derived.Test.YtcmocilojloolaaDoorSS2
import Derived.Test.YtcmocilojloolaaDoorChg
namespace Go.Proofs.YtcmocilojloolaaDoor
open Go.ChangeShapes Go.WideShapes Go.ChangeAt Go.RowKit
set_option linter.unusedVariables false
set_option linter.unusedSimpArgs false

theorem sumT_t {xs ys : List Sl} (h : xs.map Sl.t = ys.map Sl.t) : sumT xs = sumT ys := by
  have e : ∀ xs : List Sl, sumT xs = ((xs.map Sl.t).map fun t => t.length).sum := by intro xs; unfold sumT; rw [List.map_map]; rfl
  rw [e, e, h]

theorem sumT_mem {xs : List Sl} {x : Sl} (h : x ∈ xs) : x.t.length ≤ sumT xs := by
  induction xs with
  | nil => simp at h
  | cons y ys ih =>
    have e : sumT (y :: ys) = y.t.length + sumT ys := by simp [sumT]
    rcases List.mem_cons.mp h with rfl | h
    · omega
    · have := ih h; omega

theorem info_SlS : (Tryd.prog.info? 28).map (fun i => (i.zero, i.size, i.bytes)) = some (some (.slice none 0 0), 1, 24) := by kernel_rfl

theorem made_slS (n : Nat) : (madeCells #[.slice none 0 0] (n * 1)).toList = (List.replicate n zeroSl).flatMap encSl :=
  made_flat (enc := encSl) encSl_len (by omega) zeroSl #[.slice none 0 0] rfl n

theorem rep_slS (n : Nat) : List.replicate n (Value.slice none 0 0) = (List.replicate n zeroSl).flatMap encSl := by
  induction n with
  | zero => rfl
  | succ n ih => rw [List.replicate_succ, List.replicate_succ, List.flatMap_cons, ← ih]; rfl

end Go.Proofs.YtcmocilojloolaaDoor
