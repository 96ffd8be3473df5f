/- Sets of positions as lists: the program's side, by math/bits' table. -/
import Derived.Test.YtgokhbcifgikgaaDoorSpecT
import Derived.Test.YtgokhbcifgikgaaDoorTabs
namespace Go.Proofs.YtgokhbcifgikgaaDoor
open Go.ChangeShapes Go.WideShapes Go.ChangeAt Go.RowKit
set_option linter.unusedVariables false
set_option linter.unusedSimpArgs false

set_option maxHeartbeats 1000000 in
theorem tz_any (s m p : Int) (i : Nat) (hs : ¬ s = 0) (q1 : bits BinOp.and IntKind.u16 s (IntKind.u16.wrap (-s)) = m) (q2 : IntKind.u32.wrap m = m) (q3 : IntKind.u32.wrap (m * 125613361) = p) (q4 : p / 134217728 = (i : Int)) (hi : i < 32) (w : World) (T : TDeb w) :
    Calls Tryd.prog 83 #[.int .u16 s] w fun e w' => e = .returned (.int .i64 (debL.getD i 0)) ∧ w' = w := by
  have c0 := T i hi
  have z1 : (s == 0) = false := by simpa using hs
  have i1 : (0 : Int) ≤ (i : Int) := by omega
  have i2 : (i : Int) < 32 := by omega
  obtain ⟨d, hd⟩ : ∃ d, debL.getD i 0 = d := ⟨_, rfl⟩
  have hd0 : ∀ j : Fin 32, 0 ≤ debL.getD j.val 0 ∧ debL.getD j.val 0 ≤ 31 := by decide
  have hd1 := hd0 ⟨i, hi⟩
  simp only at hd1
  rw [hd] at hd1
  rw [hd] at c0
  rw [hd]
  have q5 : IntKind.i64.wrap d = d := IntWalk.i64_in _ (by omega)
  clear hd hd0 hs
  go_enter Tryd.func83, Tryd.ntmps83
  go_wp2
  go_ret
  exact ⟨rfl, rfl⟩

/-- What math/bits reckons on the way to the table. -/
def tzM (s : Int) : Int := bits BinOp.and IntKind.u16 s (IntKind.u16.wrap (-s))
def tzP (s : Int) : Int := IntKind.u32.wrap (tzM s * 125613361)
def tzI (s : Int) : Int := debL.getD (tzP s / 134217728).toNat 0
def clr (s : Int) : Int := bits BinOp.and IntKind.u16 s (IntKind.u16.wrap (s - 1))
def tzOk (s : Int) : Bool := decide (IntKind.u32.wrap (tzM s) = tzM s) && decide (0 ≤ tzP s / 134217728) && decide (tzP s / 134217728 < 32)

/-- The positions of the bits of a set, rising: one after another is cleared. -/
def chain : Nat → Int → Option (List Int)
  | 0, s => if s = 0 then some [] else none
  | n + 1, s => if s = 0 then some [] else if tzOk s then (chain n (clr s)).map (tzI s :: ·) else none

theorem chain_zero (n : Nat) : chain n 0 = some [] := by cases n <;> simp [chain]

theorem chain_step {n : Nat} {s : Int} {L : List Int} (h : chain n s = some L) (hs : ¬ s = 0) : ∃ k L', n = k + 1 ∧ chain k (clr s) = some L' ∧ L = tzI s :: L' ∧ tzOk s = true := by
  cases n with
  | zero => simp [chain, hs] at h
  | succ n =>
    simp only [chain, if_neg hs] at h
    split at h
    · rename_i ho
      obtain ⟨L', h1, h2⟩ := Option.map_eq_some_iff.1 h
      exact ⟨n, L', rfl, h1, h2.symm, ho⟩
    · cases h

theorem tz_call (s : Int) (hs : ¬ s = 0) (ho : tzOk s = true) (w : World) (T : TDeb w) :
    Calls Tryd.prog 83 #[.int .u16 s] w fun e w' => e = .returned (.int .i64 (tzI s)) ∧ w' = w := by
  simp only [tzOk, Bool.and_eq_true, decide_eq_true_eq] at ho
  exact tz_any s (tzM s) (tzP s) (tzP s / 134217728).toNat hs rfl ho.1.1 rfl (by omega) (by omega) w T

def lenOf : Value → Nat
  | .slice _ n _ => n
  | _ => 0

set_option maxRecDepth 100000 in
set_option maxHeartbeats 4000000 in
theorem list_any (s0 : Int) (n : Nat) (L : List Int) (h : chain n s0 = some L) (hL : L.length ≤ 16) (w : World) (T : TDeb w) :
    Calls Tryd.prog 57 #[.int .u16 s0] w fun e w' => ∃ v', e = .returned v' ∧ OwnI w' w.heap.size v' L ∧ Below w.heap.size w w' := by
  obtain ⟨i0, hi, hz0, hz1, hz2⟩ := info_parts info_i64'
  have HT := Lib.hid T
  have HC := Lib.hid h
  have HL := Lib.hid hL
  clear T h hL
  go_enter Tryd.func57, Tryd.ntmps57
  go_wp2_with (first | (at_make; refine wpList_make_own _ rfl _ _ _ rfl w.heap.size 2 i0 (.int .i64 0) 1 Tryd.underlying29 hi hz0 hz1 .i64 .i64 _ 16 rfl rfl rfl ?b2 ?b3 (Nat.le_refl _) ?_) | fail)
  case b2 => rw [hz2]; omega
  case b3 => unfold maxLen; omega
  intro w1 hown hg
  have O1 : Hid (OwnI w1 w.heap.size (.slice (some ⟨w.heap.size, 0, none⟩) 0 16) []) := hown
  have B1 : Hid (Below w.heap.size w w1) := (Below.refl _ _).grown hg (Nat.le_refl _) (fun k h => by cases h)
  clear hown hg
  go_wp2
  go_loopw [0, 3] (fun sv ov wr => ∃ (s : Int) (m g c1 k : Nat) (ys rest : List Int), sv = .int .u16 s ∧ ov = .slice (some ⟨g, 0, none⟩) k c1 ∧ Hid (k = ys.length) ∧ Hid (chain m s = some rest) ∧ Hid (ys ++ rest = L) ∧ k ≤ 16 ∧ Hid (OwnI wr w.heap.size (.slice (some ⟨g, 0, none⟩) k c1) ys) ∧ Hid (Below w.heap.size w wr)) (fun _ ov _ => 17 - lenOf ov)
  case atStart => exact ⟨s0, n, w.heap.size, 16, 0, [], L, rfl, rfl, rfl, HC, rfl, by omega, O1, B1⟩
  case round =>
    obtain ⟨s, m, g, c1, k, ys, rest, rfl, rfl, hk, hch, hL, hk16, ho, B⟩ := hrel
    clear O1 B1
    have hsz := B.out.size
    by_cases hs : s = 0
    · subst hs
      have O5 : Hid (OwnI wr w.heap.size (.slice (some ⟨g, 0, none⟩) k c1) L) := by
        have e := hch.out
        rw [chain_zero] at e
        have e2 := hL.out
        rw [← Option.some.inj e, List.append_nil] at e2
        show OwnI _ _ _ _
        rw [← e2]
        exact ho.out
      clear ho hch
      go_wp2
      go_ret
      exact ⟨_, rfl, O5.out, B.out⟩
    · obtain ⟨m', rest', hm', hch', hr', hok⟩ := chain_step hch.out hs
      have TC := Lib.hid (fun w (T : TDeb w) => tz_call s hs hok w T)
      obtain ⟨x, hx⟩ : ∃ x, tzI s = x := ⟨_, rfl⟩
      obtain ⟨s2, hs2⟩ : ∃ s2, bits BinOp.and IntKind.u16 s (IntKind.u16.wrap (s - 1)) = s2 := ⟨_, rfl⟩
      rw [hx] at TC hr'
      rw [show clr s = s2 from hs2] at hch'
      have hL' : Hid ((ys ++ [x]) ++ rest' = L) := by
        show _ = _
        rw [← hL.out, hr']
        simp
      have hlen : k + 1 ≤ 16 := by
        have e := congrArg List.length hL'.out
        simp only [List.length_append, List.length_cons, List.length_nil] at e
        have := HL.out
        have := hk.out
        omega
      have hne : ((s != 0) : Bool) = true := by simpa using hs
      have HCH := Lib.hid hch'
      have own := ho.out
      unfold OwnI at own
      rw [← hk.out] at own
      have OWN := Lib.hid own
      clear hch' hr' hok hm' hx hch hL own hs
      go_wp2_with (first | (go_at_call 83; refine (TC.out _ (HT.out.later B.out)).mono ?_; rintro e w2 ⟨rfl, hw2⟩; subst hw2) | (at_builtin; refine wpList_append_lies _ rfl _ _ _ rfl w.heap.size 2 i0 _ 1 8 Tryd.underlying29 hi hz0 hz1 hz2 rfl (by omega) _ _ _ rfl (OWN.out.alloc _) ⟨w2.heap.size, 0, none⟩ 1 1 [.int .i64 x] rfl rfl (World.news_of_block (cs := #[.int .i64 x]) (t := 2) (fr := (0, 0)) (heap_alloc_new w2 _)) (by simp [Value.oneCell']) (by omega) (by unfold maxLen; omega) (by omega) (by simp; omega) _ rfl ?_) | fail)
      intro gg cap1 w5 hown1 hgrow hat hlt'
      have O5 : Hid (OwnI w5 w.heap.size (.slice (some ⟨gg, 0, none⟩) (k + 1) cap1) (ys ++ [x])) := by
        show OwnI _ _ _ _
        unfold OwnI
        rw [List.length_append, ← hk.out, List.map_append]
        exact hown1
      have B5 : Hid (Below w.heap.size w w5) := B.out.grown (grownBy_trans' (World.grownBy_alloc w2 _ _) hgrow) hsz (fun j e => by cases e; exact (OWN.out.lt g rfl).1)
      have K5 : Hid (k + 1 = (ys ++ [x]).length) := by show _ = _; rw [List.length_append, ← hk.out]; rfl
      clear hown1 hgrow hat hlt' ho B hk
      go_wp2
      exact ⟨⟨s2, m', gg, cap1, k + 1, ys ++ [x], rest', rfl, rfl, K5, HCH, hL', by omega, O5, B5⟩, by simp only [lenOf]; omega⟩

theorem OwnI.nil' (w : World) (B : Nat) : OwnI w B (.slice none 0 0) [] := World.ownsRow_nil _ _ _ _

/-- What comes out of a set of joints, and of two that meet. -/
theorem joints_chain_fin : ∀ a : Fin 16, chain 16 (jM a.val) = some (jointsL a.val) := by decide +kernel
theorem meet_chain_fin : ∀ a b : Fin 16, chain 16 (bits BinOp.and IntKind.u16 (jM a.val) (jM b.val)) = some (meetL a.val b.val) := by decide +kernel

theorem joints_chain (a : Int) (h : 0 ≤ a ∧ a ≤ 15) : chain 16 (jM a) = some (jointsL a) := by
  obtain ⟨f, rfl⟩ := fin16 a h
  exact joints_chain_fin f
theorem meet_chain (a b : Int) (h : 0 ≤ a ∧ a ≤ 15) (h' : 0 ≤ b ∧ b ≤ 15) : chain 16 (bits BinOp.and IntKind.u16 (jM a) (jM b)) = some (meetL a b) := by
  obtain ⟨f, rfl⟩ := fin16 a h
  obtain ⟨g, rfl⟩ := fin16 b h'
  exact meet_chain_fin f g
theorem jointsL_len (a : Int) : (jointsL a).length ≤ 16 := Nat.le_trans (putAll_length a sixSteps) (by decide)
theorem meetL_len (a b : Int) : (meetL a b).length ≤ 16 := Nat.le_trans (List.length_filter_le _ _) (jointsL_len a)

/-- What a function of a ring (or of two) answers: a list in memory of its own. -/
def GivesI (f : Nat) (args : Array Value) (L : List Int) (b : Bool) : Prop :=
  ∀ w : World, TDeb w → Calls Tryd.prog f args w fun e w' => ∃ v', e = .returned (.tuple #[v', .bool b]) ∧ OwnI w' w.heap.size v' L ∧ Below w.heap.size w w'

theorem OwnI.mono' {w : World} {B B' : Nat} {v : Value} {zs : List Int} (h : OwnI w B v zs) (hB : B' ≤ B) : OwnI w B' v zs := h.mono hB

set_option maxHeartbeats 1000000 in
theorem implJoints_yes (q : Rg) (h : OkR q) : GivesI 16 #[(.agg #[.int .i64 q.k, .int .i64 q.y])] (jointsL q.y) true := by
  intro w T
  have c1 := Lib.hid (fun w => implRing_any q true ⟨fun _ => h, fun _ => rfl⟩ w)
  have c2 := Lib.hid (fun w => joints_any q h w)
  have c3 := Lib.hid (fun w T => list_any (jM q.y) 16 (jointsL q.y) (joints_chain q.y h.2) (jointsL_len _) w T)
  have HT := Lib.hid T
  clear h T
  go_enter Tryd.func16, Tryd.ntmps16
  go_wp2_with fail
  refine (c1.out _).mono ?_
  rintro e w1 ⟨rfl, b1⟩
  have z1 := b1.size
  simp only [World.size_alloc] at z1
  have n1 := (b1.block w.heap.size (by simp only [World.size_alloc]; omega)).trans (heap_alloc_new w _)
  obtain ⟨⟨k0, k1⟩, -⟩ := boxRg_at n1
  have B1 : Hid (Below w.heap.size w w1) := Below.trans (by go_grown) (b1.mono (by simp only [World.size_alloc]; omega))
  clear b1 n1
  go_wp2_with fail
  refine (c2.out _).mono ?_
  rintro e w2 ⟨rfl, b2⟩
  have z2 := b2.size
  have B2 : Hid (Below w.heap.size w w2) := B1.out.trans (b2.mono (by omega))
  clear b2 k0 k1 B1
  go_wp2_with fail
  refine (c3.out _ (HT.out.later B2.out)).mono ?_
  rintro e w3 ⟨v3, rfl, o3, b3⟩
  have O3 : Hid (OwnI w3 w.heap.size v3 (jointsL q.y)) := o3.mono (by omega)
  have B3 : Hid (Below w.heap.size w w3) := B2.out.trans (b3.mono (by omega))
  clear o3 b3
  go_wp2
  go_ret2
  exact ⟨_, rfl, O3.out, B3.out⟩

theorem implJoints_no (q : Rg) (h : ¬ OkR q) : GivesI 16 #[(.agg #[.int .i64 q.k, .int .i64 q.y])] [] false := by
  intro w T
  have c1 := Lib.hid (fun w => implRing_any q false ⟨fun e => (by cases e), fun e => absurd e h⟩ w)
  clear h T
  go_enter Tryd.func16, Tryd.ntmps16
  go_wp2_with fail
  refine (c1.out _).mono ?_
  rintro e w1 ⟨rfl, b1⟩
  have B1 : Hid (Below w.heap.size w w1) := Below.trans (by go_grown) (b1.mono (by simp only [World.size_alloc]; omega))
  clear b1
  go_wp2
  go_ret2
  exact ⟨_, rfl, OwnI.nil' _ _, B1.out⟩

set_option maxHeartbeats 1000000 in
theorem specJoints_yes (q : Rg) (h : OkR q) : GivesI 15 #[(.agg #[.int .i64 q.k, .int .i64 q.y])] (jointsL q.y) true := by
  intro w T
  have c1 := Lib.hid (fun w => l03Is_any q true ⟨fun _ => h, fun _ => rfl⟩ w)
  have c2 := Lib.hid (fun w => l03Joints_any q.y h.2 w)
  clear h T
  go_enter Tryd.func15, Tryd.ntmps15
  go_wp2_with fail
  refine (c1.out _).mono ?_
  rintro e w1 ⟨rfl, b1⟩
  have z1 := b1.size
  simp only [World.size_alloc] at z1
  have n1 := (b1.block w.heap.size (by simp only [World.size_alloc]; omega)).trans (heap_alloc_new w _)
  obtain ⟨⟨k0, k1⟩, -⟩ := boxRg_at n1
  have B1 : Hid (Below w.heap.size w w1) := Below.trans (by go_grown) (b1.mono (by simp only [World.size_alloc]; omega))
  clear b1 n1
  go_wp2_with fail
  refine (c2.out _).mono ?_
  rintro e w3 ⟨v3, rfl, o3, b3⟩
  have O3 : Hid (OwnI w3 w.heap.size v3 (jointsL q.y)) := o3.mono (by omega)
  have B3 : Hid (Below w.heap.size w w3) := B1.out.trans (b3.mono (by omega))
  clear o3 b3 k0 k1
  go_wp2
  go_ret2
  exact ⟨_, rfl, O3.out, B3.out⟩

theorem specJoints_no (q : Rg) (h : ¬ OkR q) : GivesI 15 #[(.agg #[.int .i64 q.k, .int .i64 q.y])] [] false := by
  intro w T
  have c1 := Lib.hid (fun w => l03Is_any q false ⟨fun e => (by cases e), fun e => absurd e h⟩ w)
  clear h T
  go_enter Tryd.func15, Tryd.ntmps15
  go_wp2_with fail
  refine (c1.out _).mono ?_
  rintro e w1 ⟨rfl, b1⟩
  have B1 : Hid (Below w.heap.size w w1) := Below.trans (by go_grown) (b1.mono (by simp only [World.size_alloc]; omega))
  clear b1
  go_wp2
  go_ret2
  exact ⟨_, rfl, OwnI.nil' _ _, B1.out⟩

theorem exJointsOf (q : Rg) : ∃ (ys : List Int) (b : Bool), ys.length ≤ 1048576 ∧
    Hid (∀ (w : World), TDeb w → Calls Tryd.prog 15 #[(.agg #[.int .i64 q.k, .int .i64 q.y])] w fun e w' => ∃ u0, e = .returned (.tuple #[u0, .bool b]) ∧ OwnI w' w.heap.size u0 ys ∧ Below w.heap.size w w') ∧
    Hid (∀ (w : World), TDeb w → Calls Tryd.prog 16 #[(.agg #[.int .i64 q.k, .int .i64 q.y])] w fun e w' => ∃ u0, e = .returned (.tuple #[u0, .bool b]) ∧ OwnI w' w.heap.size u0 ys ∧ Below w.heap.size w w') := by
  by_cases h : OkR q
  · exact ⟨_, true, by have := jointsL_len q.y; omega, specJoints_yes q h, implJoints_yes q h⟩
  · exact ⟨[], false, by simp, specJoints_no q h, implJoints_no q h⟩
end Go.Proofs.YtgokhbcifgikgaaDoor
