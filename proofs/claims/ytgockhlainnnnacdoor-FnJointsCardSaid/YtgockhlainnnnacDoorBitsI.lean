/- Sets as bits: math/bits' table of 64 entries, trailing zeros, and the numbers of a set's bits (from 605c734 on). -/
import Derived.Test.YtgockhlainnnnacDoorRows
import Derived.Test.YtgockhlainnnnacDoorInts
import Derived.Test.YtgockhlainnnnacDoorRecs
import Derived.Lib.LaidTab
import Derived.WalkSpells
import Derived.OpenShut
import Derived.Laws.Bits64b
import Derived.Deep.AppendLies
namespace Go.Proofs.YtgockhlainnnnacDoor
open Go.ChangeShapes Go.WideShapes Go.ChangeAt Go.RowKit
set_option linter.unusedVariables false
set_option linter.unusedSimpArgs false

def deb64 : List Int := [0, 1, 56, 2, 57, 49, 28, 3, 61, 58, 42, 50, 38, 29, 17, 4, 62, 47, 59, 36, 45, 43, 51, 22, 53, 39, 33, 30, 24, 18, 12, 5, 63, 55, 48, 27, 60, 41, 37, 16, 46, 35, 44, 21, 52, 32, 23, 11, 54, 26, 40, 15, 34, 20, 31, 10, 25, 14, 19, 9, 13, 8, 7, 6]

/-- math/bits' table. -/
def TDebL (w : World) : Prop := ∀ i : Nat, i < 64 → w.cell? ⟨0, i, none⟩ = some (.int .u8 (deb64.getD i 0))
theorem TDebL.later {w w' : World} (h : TDebL w) (b : Below w.heap.size w w') : TDebL w' := fun i hi => cell_later b (h i hi)
theorem gDebL : Tryd.prog.globalNamed "math/bits.deBruijn64tab" = some 0 := by kernel_rfl
theorem gDebLType : (Tryd.prog.globals[0]?).map (·.type) = some 119 := by kernel_rfl
theorem cellsDebL : Tryd.prog.cellsOf 119 = 64 := by kernel_rfl
theorem cellsU8L : Tryd.prog.cellsOf 5 = 1 := by kernel_rfl
theorem TDebL.of1 {W : World} {rest : List (String × DataW Unit)} (h : laidMet Tryd.prog (("math/bits.deBruijn64tab", Rows.laid_math_bits_deBruijn64tab) :: rest) W) : TDebL W := fun i hi =>
  (Lib.tabIs_of_head (k := .u8) (zs := deb64) gDebL gDebLType Tryd.underlying119 Tryd.underlying5 cellsU8L cellsDebL h).cell gDebL i hi

set_option maxHeartbeats 1000000 in
theorem tz64_any (s m p : Int) (i : Nat) (hs : ¬ s = 0) (q1 : bits BinOp.and IntKind.u64 s (IntKind.u64.wrap (-s)) = m) (q3 : IntKind.u64.wrap (m * 285870213051353865) = p) (q4 : p / 288230376151711744 = (i : Int)) (hi : i < 64) (w : World) (T : TDebL w) :
    Calls Tryd.prog 89 #[.int .u64 s] w fun e w' => e = .returned (.int .i64 (deb64.getD i 0)) ∧ w' = w := by
  have c0 := T i hi
  have z1 : (s == 0) = false := by simpa using hs
  have i1 : (0 : Int) ≤ (i : Int) := by omega
  have i2 : (i : Int) < 64 := by omega
  obtain ⟨d, hd⟩ : ∃ d, deb64.getD i 0 = d := ⟨_, rfl⟩
  have hd0 : ∀ j : Fin 64, 0 ≤ deb64.getD j.val 0 ∧ deb64.getD j.val 0 ≤ 63 := by decide
  have hd1 := hd0 ⟨i, hi⟩
  simp only at hd1
  rw [hd] at hd1
  rw [hd] at c0
  rw [hd]
  have q5 : IntKind.i64.wrap d = d := IntWalk.i64_in _ (by omega)
  clear hd hd0 hs
  go_enter Tryd.func89, Tryd.ntmps89
  go_wp2
  go_ret
  exact ⟨rfl, rfl⟩

/-- What math/bits reckons on the way to the table. -/
def tzM (s : Int) : Int := bits BinOp.and IntKind.u64 s (IntKind.u64.wrap (-s))
def tzP (s : Int) : Int := IntKind.u64.wrap (tzM s * 285870213051353865)
def tzI (s : Int) : Int := deb64.getD (tzP s / 288230376151711744).toNat 0
def clr (s : Int) : Int := bits BinOp.and IntKind.u64 s (IntKind.u64.wrap (s - 1))
def tzOk (s : Int) : Bool := decide (0 ≤ tzP s / 288230376151711744) && decide (tzP s / 288230376151711744 < 64)

/-- The positions of the bits of a set, rising: one after another is cleared. -/
def chain : Nat → Int → Option (List Int)
  | 0, s => if s = 0 then some [] else none
  | n + 1, s => if s = 0 then some [] else if tzOk s then (chain n (clr s)).map (tzI s :: ·) else none

theorem chain_zero (n : Nat) : chain n 0 = some [] := by cases n <;> simp [chain]

theorem chain_step {n : Nat} {s : Int} {L : List Int} (h : chain n s = some L) (hs : ¬ s = 0) : ∃ k L', n = k + 1 ∧ chain k (clr s) = some L' ∧ L = tzI s :: L' ∧ tzOk s = true := by
  cases n with
  | zero => simp [chain, hs] at h
  | succ n =>
    simp only [chain, if_neg hs] at h
    split at h
    · rename_i ho
      obtain ⟨L', h1, h2⟩ := Option.map_eq_some_iff.1 h
      exact ⟨n, L', rfl, h1, h2.symm, ho⟩
    · cases h

theorem tz_call (s : Int) (hs : ¬ s = 0) (ho : tzOk s = true) (w : World) (T : TDebL w) :
    Calls Tryd.prog 89 #[.int .u64 s] w fun e w' => e = .returned (.int .i64 (tzI s)) ∧ w' = w := by
  simp only [tzOk, Bool.and_eq_true, decide_eq_true_eq] at ho
  exact tz64_any s (tzM s) (tzP s) (tzP s / 288230376151711744).toNat hs rfl rfl (by omega) (by omega) w T

theorem and127 (x : Int) : 0 ≤ bits BinOp.and IntKind.i64 x 127 ∧ bits BinOp.and IntKind.i64 x 127 ≤ 127 := by
  have h : ((BitVec.ofInt 64 x) &&& (BitVec.ofInt 64 127)).toNat ≤ 127 := by
    rw [BitVec.toNat_and]
    exact Nat.le_trans Nat.and_le_right (by decide)
  have e : bits BinOp.and IntKind.i64 x 127 = IntKind.i64.wrap (((BitVec.ofInt 64 x) &&& (BitVec.ofInt 64 127)).toNat : Int) := rfl
  rw [e, IntWalk.i64_in _ (by omega)]
  omega

set_option maxHeartbeats 2000000 in
theorem onesCount_some (s : Int) (w : World) : Calls Tryd.prog 88 #[.int .u64 s] w fun e w' => (∃ z : Int, e = .returned (.int .i64 z) ∧ 0 ≤ z ∧ z ≤ 127) ∧ w = w' := by
  go_enter Tryd.func88, Tryd.ntmps88
  go_wp2
  go_ret
  exact ⟨⟨_, rfl, and127 _⟩, rfl⟩

def lenOf : Value → Nat
  | .slice _ n _ => n
  | _ => 0

theorem info_i64b : (Tryd.prog.info? 2).map (fun i => (i.zero, i.size, i.bytes)) = some (some (.int .i64 0), 1, 8) := by kernel_rfl

set_option maxRecDepth 100000 in
set_option maxHeartbeats 4000000 in
theorem bitNumbers_any (s0 : Int) (n : Nat) (L : List Int) (h : chain n s0 = some L) (hL : L.length ≤ 64) (w : World) (T : TDebL w) :
    Calls Tryd.prog 74 #[.int .u64 s0] w fun e w' => ∃ v', e = .returned v' ∧ OwnI w' w.heap.size v' L ∧ Below w.heap.size w w' := by
  obtain ⟨i0, hi, hz0, hz1, hz2⟩ := info_parts info_i64b
  have HT := Lib.hid T
  have HC := Lib.hid h
  have HL := Lib.hid hL
  have C0 := Lib.hid (fun w => onesCount_some s0 w)
  clear T h hL
  go_enter Tryd.func74, Tryd.ntmps74
  go_wp2_with fail
  refine (C0.out _).mono ?_
  rintro e w' ⟨⟨z, rfl, hz0', hz1'⟩, rfl⟩
  obtain ⟨c, rfl⟩ : ∃ c : Nat, z = c := ⟨z.toNat, by omega⟩
  have hc : c ≤ 127 := by omega
  clear C0
  go_wp2_with (first | (at_make; refine wpList_make_own _ rfl _ _ _ rfl w.heap.size 2 i0 (.int .i64 0) 1 Tryd.underlying23 hi hz0 hz1 .i64 .i64 _ c rfl rfl rfl ?b2 ?b3 (Nat.le_refl _) ?_) | fail)
  case b2 => rw [hz2]; omega
  case b3 => unfold maxLen; omega
  intro w1 hown hg
  have O1 : Hid (OwnI w1 w.heap.size (.slice (some ⟨w.heap.size, 0, none⟩) 0 c) []) := hown
  have B1 : Hid (Below w.heap.size w w1) := (Below.refl _ _).grown hg (Nat.le_refl _) (fun k h => by cases h)
  clear hown hg
  go_wp2
  go_loopw [0, 3] (fun sv ov wr => ∃ (s : Int) (m g c1 k : Nat) (ys rest : List Int), sv = .int .u64 s ∧ ov = .slice (some ⟨g, 0, none⟩) k c1 ∧ Hid (k = ys.length) ∧ Hid (chain m s = some rest) ∧ Hid (ys ++ rest = L) ∧ k ≤ 64 ∧ Hid (OwnI wr w.heap.size (.slice (some ⟨g, 0, none⟩) k c1) ys) ∧ Hid (Below w.heap.size w wr)) (fun _ ov _ => 65 - lenOf ov)
  case atStart => exact ⟨s0, n, w.heap.size, c, 0, [], L, rfl, rfl, rfl, HC, rfl, by omega, O1, B1⟩
  case round =>
    obtain ⟨s, m, g, c1, k, ys, rest, rfl, rfl, hk, hch, hL, hk16, ho, B⟩ := hrel
    clear O1 B1
    have hsz := B.out.size
    by_cases hs : s = 0
    · subst hs
      have O5 : Hid (OwnI wr w.heap.size (.slice (some ⟨g, 0, none⟩) k c1) L) := by
        have e := hch.out
        rw [chain_zero] at e
        have e2 := hL.out
        rw [← Option.some.inj e, List.append_nil] at e2
        show OwnI _ _ _ _
        rw [← e2]
        exact ho.out
      clear ho hch
      go_wp2
      go_ret
      exact ⟨_, rfl, O5.out, B.out⟩
    · obtain ⟨m', rest', hm', hch', hr', hok⟩ := chain_step hch.out hs
      have TC := Lib.hid (fun w (T : TDebL w) => tz_call s hs hok w T)
      obtain ⟨x, hx⟩ : ∃ x, tzI s = x := ⟨_, rfl⟩
      obtain ⟨s2, hs2⟩ : ∃ s2, bits BinOp.and IntKind.u64 s (IntKind.u64.wrap (s - 1)) = s2 := ⟨_, rfl⟩
      rw [hx] at TC hr'
      rw [show clr s = s2 from hs2] at hch'
      have hL' : Hid ((ys ++ [x]) ++ rest' = L) := by
        show _ = _
        rw [← hL.out, hr']
        simp
      have hlen : k + 1 ≤ 64 := by
        have e := congrArg List.length hL'.out
        simp only [List.length_append, List.length_cons, List.length_nil] at e
        have := HL.out
        have := hk.out
        omega
      have hne : ((s != 0) : Bool) = true := by simpa using hs
      have HCH := Lib.hid hch'
      have own := ho.out
      unfold OwnI at own
      rw [← hk.out] at own
      have OWN := Lib.hid own
      clear hch' hr' hok hm' hx hch hL own hs
      go_wp2_with (first | (go_at_call 89; refine (TC.out _ (HT.out.later B.out)).mono ?_; rintro e w2 ⟨rfl, hw2⟩; subst hw2) | (at_builtin; refine wpList_append_lies _ rfl _ _ _ rfl w.heap.size 2 i0 _ 1 8 Tryd.underlying23 hi hz0 hz1 hz2 rfl (by omega) _ _ _ rfl (OWN.out.alloc _) ⟨w2.heap.size, 0, none⟩ 1 1 [.int .i64 x] rfl rfl (World.news_of_block (cs := #[.int .i64 x]) (t := 2) (fr := (0, 0)) (heap_alloc_new w2 _)) (by simp [Value.oneCell']) (by omega) (by unfold maxLen; omega) (by omega) (by simp; omega) _ rfl ?_) | fail)
      intro gg cap1 w5 hown1 hgrow hat hlt'
      have O5 : Hid (OwnI w5 w.heap.size (.slice (some ⟨gg, 0, none⟩) (k + 1) cap1) (ys ++ [x])) := by
        show OwnI _ _ _ _
        unfold OwnI
        rw [List.length_append, ← hk.out, List.map_append]
        exact hown1
      have B5 : Hid (Below w.heap.size w w5) := B.out.grown (grownBy_trans' (World.grownBy_alloc w2 _ _) hgrow) hsz (fun j e => by cases e; exact (OWN.out.lt g rfl).1)
      have K5 : Hid (k + 1 = (ys ++ [x]).length) := by show _ = _; rw [List.length_append, ← hk.out]; rfl
      clear hown1 hgrow hat hlt' ho B hk
      go_wp2
      exact ⟨⟨s2, m', gg, cap1, k + 1, ys ++ [x], rest', rfl, rfl, K5, HCH, hL', by omega, O5, B5⟩, by simp only [lenOf]; omega⟩
end Go.Proofs.YtgockhlainnnnacDoor
