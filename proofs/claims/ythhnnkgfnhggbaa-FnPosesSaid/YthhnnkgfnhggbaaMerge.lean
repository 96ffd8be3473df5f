/- Curves that are merged: what is reckoned, and the specification's walk. -/
import Derived.Test.YthhnnkgfnhggbaaImplVal
import Derived.Test.YthhnnkgfnhggbaaAxis
import Derived.Deep.RegionHeld3
import Derived.Deep.AppendLies
import Derived.StillTailTactics
import Derived.Deep.RegionLaw
import Derived.WalkSpells
namespace Go.Proofs.Ythhnnkgfnhggbaa
open Go.ChangeShapes Go.WideShapes Go.ChangeAt Go.RowKit
set_option linter.unusedVariables false
set_option linter.unusedSimpArgs false

def Like (c d : Cv) : Prop := c.b = d.b ∧ c.s = d.s
instance (c d : Cv) : Decidable (Like c d) := inferInstanceAs (Decidable (_ ∧ _))

/-- A curve is put behind those that are merged already. -/
def mergeOne (out : List Cv) (c : Cv) : List Cv :=
  match out.getLast? with
  | some l => if Like l c then out.dropLast ++ [⟨l.r + c.r, l.b, l.s⟩] else out ++ [c]
  | none => [c]
def mergeL (cs : List Cv) : List Cv := cs.foldl mergeOne []

theorem mergeL_succ (cs : List Cv) (k : Nat) (c : Cv) (h : cs[k]? = some c) : mergeL (cs.take (k + 1)) = mergeOne (mergeL (cs.take k)) c := by
  unfold mergeL
  rw [List.take_add_one, h, Option.toList_some, List.foldl_append]
  rfl

theorem mergeOne_nil (c : Cv) : mergeOne [] c = [c] := rfl
theorem mergeOne_like (out : List Cv) (m : Nat) (l c : Cv) (hm : out.length = m + 1) (hl : out[m]? = some l) (h : Like l c) : mergeOne out c = out.set m ⟨l.r + c.r, l.b, l.s⟩ := by
  have e : out.getLast? = some l := by rw [List.getLast?_eq_getElem?, hm]; exact hl
  unfold mergeOne
  rw [e]
  simp only [if_pos h]
  have hne : out ≠ [] := by intro h0; rw [h0] at hm; simp at hm
  have e2 : out = out.dropLast ++ [l] := by
    have := List.dropLast_concat_getLast hne
    rw [List.getLast?_eq_some_getLast hne] at e
    rw [← Option.some.inj e]
    exact this.symm
  have hd : out.dropLast.length = m := by rw [List.length_dropLast, hm]; rfl
  conv => rhs; rw [e2]
  rw [List.set_append_right _ _ (by omega), hd, Nat.sub_self]
  rfl
theorem mergeOne_other (out : List Cv) (m : Nat) (l c : Cv) (hm : out.length = m + 1) (hl : out[m]? = some l) (h : ¬ Like l c) : mergeOne out c = out ++ [c] := by
  have e : out.getLast? = some l := by rw [List.getLast?_eq_getElem?, hm]; exact hl
  unfold mergeOne
  rw [e]
  simp only [if_neg h]

theorem mergeOne_length (out : List Cv) (c : Cv) : (mergeOne out c).length ≤ out.length + 1 := by
  unfold mergeOne
  split
  · split
    · simp only [List.length_append, List.length_dropLast, List.length_cons, List.length_nil]; omega
    · simp
  · simp
theorem mergeL_length (cs : List Cv) : (mergeL cs).length ≤ cs.length := by
  unfold mergeL
  suffices h : ∀ out : List Cv, (cs.foldl mergeOne out).length ≤ out.length + cs.length by simpa using h []
  induction cs with
  | nil => intro out; simp
  | cons c cs ih =>
    intro out
    have h1 := ih (mergeOne out c)
    have h2 := mergeOne_length out c
    simp only [List.foldl_cons, List.length_cons]
    omega

theorem sumR_app' (a b : List Cv) : sumR (a ++ b) = sumR a + sumR b := by
  induction a with
  | nil => simp [sumR]
  | cons c cs ih => simp only [List.cons_append, sumR, ih]; omega
theorem mergeOne_sum (out : List Cv) (c : Cv) : sumR (mergeOne out c) = sumR out + c.r := by
  unfold mergeOne
  split
  · rename_i l h
    have hne : out ≠ [] := by intro h0; rw [h0] at h; simp at h
    have e2 : out = out.dropLast ++ [l] := by
      have := List.dropLast_concat_getLast hne
      rw [List.getLast?_eq_some_getLast hne] at h
      rw [← Option.some.inj h]
      exact this.symm
    split
    · have : sumR out = sumR out.dropLast + l.r := by
        conv => lhs; rw [e2]
        rw [sumR_app']
        simp [sumR]
      rw [sumR_app', this]
      simp only [sumR]
      omega
    · rw [sumR_app']; simp [sumR]
  · rename_i h
    rw [List.getLast?_eq_none_iff] at h
    subst h
    simp [sumR]
theorem mergeL_sum (cs : List Cv) : sumR (mergeL cs) = sumR cs := by
  unfold mergeL
  suffices h : ∀ out : List Cv, sumR (cs.foldl mergeOne out) = sumR out + sumR cs by simpa [sumR] using h []
  induction cs with
  | nil => intro out; simp [sumR]
  | cons c cs ih =>
    intro out
    simp only [List.foldl_cons, ih, mergeOne_sum, sumR]
    omega
theorem mergeOne_pos (out : List Cv) (c : Cv) (h : ∀ d ∈ out, 1 ≤ d.r) (hc : 1 ≤ c.r) : ∀ d ∈ mergeOne out c, 1 ≤ d.r := by
  unfold mergeOne
  split
  · rename_i l e
    split
    · intro d hd
      rcases List.mem_append.1 hd with hd | hd
      · exact h d (List.dropLast_subset _ hd)
      · simp at hd
        subst hd
        have := h l (List.mem_of_getLast? e)
        show 1 ≤ l.r + c.r
        omega
    · intro d hd
      rcases List.mem_append.1 hd with hd | hd
      · exact h d hd
      · simp at hd
        subst hd
        exact hc
  · intro d hd
    simp at hd
    subst hd
    exact hc
theorem mergeL_pos (cs : List Cv) (h : ∀ d ∈ cs, 1 ≤ d.r) : ∀ d ∈ mergeL cs, 1 ≤ d.r := by
  unfold mergeL
  suffices hs : ∀ out : List Cv, (∀ d ∈ out, 1 ≤ d.r) → ∀ d ∈ cs.foldl mergeOne out, 1 ≤ d.r from hs [] (by simp)
  induction cs with
  | nil => intro out ho; exact ho
  | cons c cs ih =>
    intro out ho
    exact ih (fun d hd => h d (by simp [hd])) _ (mergeOne_pos out c ho (h c (by simp)))
theorem sumR_ge' (cs : List Cv) (h : ∀ d ∈ cs, 1 ≤ d.r) : 0 ≤ sumR cs := by
  induction cs with
  | nil => simp [sumR]
  | cons c cs ih =>
    have := h c (by simp)
    have := ih fun d hd => h d (by simp [hd])
    simp only [sumR]; omega
theorem sumR_mem' (cs : List Cv) (h : ∀ d ∈ cs, 1 ≤ d.r) : ∀ d ∈ cs, d.r ≤ sumR cs := by
  induction cs with
  | nil => intro d hd; simp at hd
  | cons c cs ih =>
    intro d hd
    have h1 := h c (by simp)
    have h2 := sumR_ge' cs fun d hd => h d (by simp [hd])
    simp only [sumR]
    rcases List.mem_cons.1 hd with rfl | hd
    · omega
    · have := ih (fun d hd => h d (by simp [hd])) d hd
      omega
theorem OkA.parts' {q : Ps} {cs : List Cv} (h : OkA q cs) : 1 ≤ cs.length ∧ cs.length ≤ 8 ∧ (∀ c ∈ cs, OkCv c) ∧ 0 ≤ sumR cs ∧ sumR cs ≤ 60 := by
  obtain ⟨⟨⟨h1, h2⟩, h3, h4⟩, _⟩ := (okA_iff q cs).mp h
  exact ⟨by omega, by omega, h3, (sumR_bd cs h3).1, h4⟩

theorem sumR_take' (cs : List Cv) (k : Nat) (h : ∀ d ∈ cs, 1 ≤ d.r) : sumR (cs.take k) ≤ sumR cs := by
  have e : sumR cs = sumR (cs.take k) + sumR (cs.drop k) := by rw [← sumR_app', List.take_append_drop]
  have := sumR_ge' (cs.drop k) fun d hd => h d (List.mem_of_mem_drop hd)
  omega

/-- A pair of curves by their own turns. -/
theorem like_iff (c d : Cv) : ((c.b == d.b) && (c.s == d.s)) = true ↔ Like c d := by simp [Like]
theorem info_CvM : (Try.prog.info? 46).map (fun i => (i.zero, i.size, i.bytes)) = some (some (.agg #[.int .i64 0, .int .i64 0, .int .i64 0]), 3, 24) := by kernel_rfl

set_option maxRecDepth 100000 in
set_option maxHeartbeats 4000000 in
theorem l02Merge_any (v : Value) (cs : List Cv) (w : World) (h : RdS 3 encCv w v cs) (hl : cs.length ≤ 1000) (hp : ∀ c ∈ cs, 1 ≤ c.r) (hs : sumR cs ≤ 60) :
    Calls Try.prog 63 #[v] w fun e w' => ∃ v', e = .returned v' ∧ OwnS 46 3 encCv w' w.heap.size v' (mergeL cs) ∧ Below w.heap.size w w' := by
  obtain ⟨i0, hi, hz0, hz1, hz2⟩ := info_parts info_CvM
  have HC := Lib.hid h
  have HP := Lib.hid hp
  have HS := Lib.hid hs
  obtain ⟨a, cap, rfl, _⟩ := h
  obtain ⟨N, hN⟩ : ∃ N, N = cs.length := ⟨_, rfl⟩
  rw [← hN] at HC hl
  rw [← hN]
  have HN := Lib.hid hN
  clear hN hp hs
  go_enter Try.func63, Try.ntmps63
  go_wp2
  have O0 : Hid (OwnS 46 3 encCv (w.alloc (.cells #[] 46)) w.heap.size (.slice (some ⟨w.heap.size, 0, none⟩) 0 0) (mergeL (cs.take 0))) := World.ownsRow_lit (e := 46) (size := 3) w #[] 0 (Nat.le_refl _) (by decide) rfl
  have B0 : Hid (Below w.heap.size w (w.alloc (.cells #[] 46))) := (Below.refl _ _).alloc (Nat.le_refl _) _
  go_loopw [3, 4] (fun ov iv wr => ∃ (k g m c1 : Nat), k ≤ N ∧ iv = .int .i64 k ∧ ov = .slice (some ⟨g, 0, none⟩) m c1 ∧ Hid (m = (mergeL (cs.take k)).length) ∧ m ≤ k ∧ Hid (OwnS 46 3 encCv wr w.heap.size (.slice (some ⟨g, 0, none⟩) m c1) (mergeL (cs.take k))) ∧ Hid (Below w.heap.size w wr)) (fun _ iv _ => N - (intOf iv).toNat)
  case atStart => exact ⟨0, w.heap.size, 0, 0, by omega, rfl, rfl, rfl, by omega, O0, B0⟩
  case round =>
    obtain ⟨k, g, m, c1, hk, rfl, rfl, hm, hmk, ho, B⟩ := hrel
    clear O0 B0
    have hsz := B.out.size
    by_cases hlt : k < N
    · obtain ⟨c, hx⟩ : ∃ x, cs[k]? = some x := ⟨_, List.getElem?_eq_getElem (by have := HN.out; omega)⟩
      obtain ⟨ba, oa, rfl, e0, e1, e2⟩ := (HC.out.later B.out).at3 k c hx
      have hc := HP.out c (List.mem_of_getElem? hx)
      have HC4 := Lib.hid (sumR_mem' cs HP.out c (List.mem_of_getElem? hx))
      have hms := mergeL_succ cs k c hx
      have own : Hid (wr.ownsRow w.heap.size 46 3 (.slice (some ⟨g, 0, none⟩) m c1) m ((mergeL (cs.take k)).flatMap encCv)) := by
        have e := ho.out
        unfold OwnS at e
        rw [← hm.out] at e
        exact e
      have news : ∀ w5 gg cap1, w5.ownsRow w.heap.size 46 3 (.slice (some ⟨gg, 0, none⟩) (m + 1) cap1) (m + 1) ((mergeL (cs.take k)).flatMap encCv ++ encCv c) → mergeOne (mergeL (cs.take k)) c = mergeL (cs.take k) ++ [c] → OwnS 46 3 encCv w5 w.heap.size (.slice (some ⟨gg, 0, none⟩) (m + 1) cap1) (mergeL (cs.take (k + 1))) ∧ m + 1 = (mergeL (cs.take (k + 1))).length := by
        intro w5 gg cap1 e e2
        rw [hms, e2]
        have l : m + 1 = (mergeL (cs.take k) ++ [c]).length := by rw [List.length_append, ← hm.out]; rfl
        refine ⟨?_, l⟩
        unfold OwnS
        rw [← l, List.flatMap_append]
        simpa using e
      have NEWS := Lib.hid news
      have lg := own.out.lt
      have la := block_lt_of_cell e0
      clear hx news
      by_cases m0 : m = 0
      · have q1 : IntKind.i64.wrap ((m : Int) - 1) = -1 := by rw [m0]; rfl
        have E2 : Hid (mergeOne (mergeL (cs.take k)) c = mergeL (cs.take k) ++ [c]) := by
          show _ = _
          rw [List.length_eq_zero_iff.1 (by rw [← hm.out]; exact m0 : (mergeL (cs.take k)).length = 0)]
          rfl
        have k0 : decide ((0 : Int) ≤ -1) = false := by decide
        clear m0 hms
        go_wp2
        go_quiet (fail)
        obtain ⟨wz, hwz⟩ : ∃ x, wr.drewN nq = x := ⟨_, rfl⟩
        have own2 : Hid (wz.ownsRow w.heap.size 46 3 (.slice (some ⟨g, 0, none⟩) m c1) m ((mergeL (cs.take k)).flatMap encCv)) := by subst hwz; exact own.out
        have BZ : Hid (Below w.heap.size w wz) := by subst hwz; exact ⟨B.out.os, B.out.tape, B.out.output, B.out.size, B.out.block⟩
        have hzz : w.heap.size ≤ wz.heap.size := BZ.out.size
        have n0 : wz.cell? ⟨ba, oa + k * 3, none⟩ = some (.int .i64 c.r) := by subst hwz; exact e0
        have n1 : wz.cell? ⟨ba, oa + k * 3 + 1, none⟩ = some (.int .i64 c.b) := by subst hwz; exact e1
        have n2 : wz.cell? ⟨ba, oa + k * 3 + 2, none⟩ = some (.int .i64 c.s) := by subst hwz; exact e2
        have la2 := block_lt_of_cell n0
        rw [hwz]
        clear hwz e0 e1 e2 own B la hsz ho hm
        go_wp2_with (at_builtin; refine wpList_append_lies _ rfl _ _ _ rfl w.heap.size 46 i0 _ 3 24 Try.underlying26 hi hz0 hz1 hz2 rfl (by omega) _ _ _ rfl (own2.out.alloc _) ⟨wz.heap.size, 0, none⟩ 1 1 [.int .i64 c.r, .int .i64 c.b, .int .i64 c.s] rfl rfl (World.news_of_block (cs := #[.int .i64 c.r, .int .i64 c.b, .int .i64 c.s]) (t := 46) (fr := (0, 0)) (heap_alloc_new wz _)) (by simp [Value.oneCell']) (by omega) (by unfold maxLen; omega) (by omega) (by simp; omega) _ rfl ?_)
        intro gg cap1 w5 hown1 hgrow hat hlt'
        have gb : wz.grownBy w5 (some g) := grownBy_trans' (World.grownBy_alloc wz _ _) hgrow
        have B5 : Hid (Below w.heap.size w w5) := BZ.out.grown gb hzz (fun j e => by cases e; exact (lg g rfl).1)
        obtain ⟨o6, l6⟩ := NEWS.out w5 gg cap1 hown1 E2.out
        have O5 := Lib.hid o6
        have L5 := Lib.hid l6
        clear hown1 hgrow hat hlt' gb BZ n0 n1 n2 own2 lg la2 o6 l6 NEWS
        go_wp2
        exact ⟨⟨k + 1, gg, m + 1, cap1, by omega, by go_num, rfl, L5, by omega, O5, B5⟩, by simp only [intOf]; omega⟩
      · obtain ⟨p, hp⟩ : ∃ p, m = p + 1 := ⟨m - 1, by omega⟩
        obtain ⟨l, hl⟩ : ∃ x, (mergeL (cs.take k))[p]? = some x := ⟨_, List.getElem?_eq_getElem (by have := hm.out; omega)⟩
        have HE := Lib.hid (mergeOne_other (mergeL (cs.take k)) p l c (by rw [← hm.out]; exact hp) hl)
        have HS2 := Lib.hid (mergeOne_like (mergeL (cs.take k)) p l c (by rw [← hm.out]; exact hp) hl)
        have g0 : wr.cell? ⟨g, p * 3, none⟩ = some (.int .i64 l.r) := ho.out.cellAt encCv_len hm.out p _ hl 0 _ rfl
        have g1 : wr.cell? ⟨g, p * 3 + 1, none⟩ = some (.int .i64 l.b) := ho.out.cellAt encCv_len hm.out p _ hl 1 _ rfl
        have g2 : wr.cell? ⟨g, p * 3 + 2, none⟩ = some (.int .i64 l.s) := ho.out.cellAt encCv_len hm.out p _ hl 2 _ rfl
        have q1 : IntKind.i64.wrap ((m : Int) - 1) = (p : Int) := by rw [hp]; exact IntWalk.i64_in _ (by omega) |>.trans (by omega)
        have k0 : decide ((0 : Int) ≤ (p : Int)) = true := by simp
        have k1 : p < m := by omega
        have HL := Lib.hid hl
        have HPm := Lib.hid hp
        clear hl hp m0
        by_cases hk1 : l.b = c.b
        · by_cases hk2 : l.s = c.s
          · have E2 : Hid (mergeL (cs.take (k + 1)) = (mergeL (cs.take k)).set p ⟨l.r + c.r, l.b, l.s⟩) := hms.trans (HS2.out ⟨hk1, hk2⟩)
            have v1 : (l.b == c.b) = true := by simpa using hk1
            have v2 : (l.s == c.s) = true := by simpa using hk2
            have q2 : IntKind.i64.wrap (l.r + c.r) = l.r + c.r := by
              have tp : ∀ d ∈ cs.take k, 1 ≤ d.r := fun d hd => HP.out d (List.mem_of_mem_take hd)
              have b1 := sumR_mem' _ (mergeL_pos _ tp) l (List.mem_of_getElem? HL.out)
              have b2 := mergeL_pos _ tp l (List.mem_of_getElem? HL.out)
              rw [mergeL_sum] at b1
              have b3 := sumR_take' cs k HP.out
              have b4 := HC4.out
              have b5 := HS.out
              exact IntWalk.i64_in _ (by omega)
            clear HS2 HE hms hk1 hk2 NEWS
            go_wp2
            go_quiet (fail)
            obtain ⟨wz, hwz⟩ : ∃ x, wr.drewN nq = x := ⟨_, rfl⟩
            have OZ : Hid (OwnS 46 3 encCv wz w.heap.size (.slice (some ⟨g, 0, none⟩) m c1) (mergeL (cs.take k))) := by subst hwz; exact ho.out
            have BZ : Hid (Below w.heap.size w wz) := by subst hwz; exact ⟨B.out.os, B.out.tape, B.out.output, B.out.size, B.out.block⟩
            have n0 : wz.cell? ⟨ba, oa + k * 3, none⟩ = some (.int .i64 c.r) := by subst hwz; exact e0
            have m0 : wz.cell? ⟨g, p * 3, none⟩ = some (.int .i64 l.r) := by subst hwz; exact g0
            have f0 : wz.frozen? ⟨g, p * 3, none⟩ = false := OZ.out.frozenAt hm.out (p * 3)
            rw [hwz]
            clear hwz e0 e1 e2 g0 g1 g2 own B la hsz ho
            go_wp2
            go_region_law (fail)
            all_goals
              have O5 : Hid (OwnS 46 3 encCv (wz.setCell ⟨g, p * 3, none⟩ (.int .i64 (l.r + c.r))).drew w.heap.size (.slice (some ⟨g, 0, none⟩) m c1) (mergeL (cs.take (k + 1)))) := by
                show OwnS _ _ _ _ _ _ _
                rw [E2.out]
                exact OZ.out.stored1 encCv_len hm.out p 0 l ⟨l.r + c.r, l.b, l.s⟩ (.int .i64 (l.r + c.r)) HL.out (by omega) rfl
              have L5 : Hid (m = (mergeL (cs.take (k + 1))).length) := by
                show _ = _
                rw [E2.out, List.length_set]
                exact hm.out
              have B5 : Hid (Below w.heap.size w (wz.setCell ⟨g, p * 3, none⟩ (.int .i64 (l.r + c.r))).drew) := (BZ.out.setCell (p := ⟨g, p * 3, none⟩) (lg g rfl).1 _).drew
              clear OZ BZ n0 m0 f0 hm lg
              go_wp2
              exact ⟨⟨k + 1, g, m, c1, by omega, by go_num, rfl, L5, by omega, O5, B5⟩, by simp only [intOf]; omega⟩
          · have E2 : Hid (mergeOne (mergeL (cs.take k)) c = mergeL (cs.take k) ++ [c]) := HE.out (fun h => hk2 h.2)
            have v1 : (l.b == c.b) = true := by simpa using hk1
            have v2 : (l.s == c.s) = false := by simpa using hk2
            clear HS2 HE hms hk1 hk2
            go_wp2
            go_quiet (fail)
            obtain ⟨wz, hwz⟩ : ∃ x, wr.drewN nq = x := ⟨_, rfl⟩
            have own2 : Hid (wz.ownsRow w.heap.size 46 3 (.slice (some ⟨g, 0, none⟩) m c1) m ((mergeL (cs.take k)).flatMap encCv)) := by subst hwz; exact own.out
            have BZ : Hid (Below w.heap.size w wz) := by subst hwz; exact ⟨B.out.os, B.out.tape, B.out.output, B.out.size, B.out.block⟩
            have hzz : w.heap.size ≤ wz.heap.size := BZ.out.size
            have n0 : wz.cell? ⟨ba, oa + k * 3, none⟩ = some (.int .i64 c.r) := by subst hwz; exact e0
            have n1 : wz.cell? ⟨ba, oa + k * 3 + 1, none⟩ = some (.int .i64 c.b) := by subst hwz; exact e1
            have n2 : wz.cell? ⟨ba, oa + k * 3 + 2, none⟩ = some (.int .i64 c.s) := by subst hwz; exact e2
            have la2 := block_lt_of_cell n0
            rw [hwz]
            clear hwz e0 e1 e2 own B la hsz ho hm g0 g1 g2
            go_wp2_with (at_builtin; refine wpList_append_lies _ rfl _ _ _ rfl w.heap.size 46 i0 _ 3 24 Try.underlying26 hi hz0 hz1 hz2 rfl (by omega) _ _ _ rfl (own2.out.alloc _) ⟨wz.heap.size, 0, none⟩ 1 1 [.int .i64 c.r, .int .i64 c.b, .int .i64 c.s] rfl rfl (World.news_of_block (cs := #[.int .i64 c.r, .int .i64 c.b, .int .i64 c.s]) (t := 46) (fr := (0, 0)) (heap_alloc_new wz _)) (by simp [Value.oneCell']) (by omega) (by unfold maxLen; omega) (by omega) (by simp; omega) _ rfl ?_)
            intro gg cap1 w5 hown1 hgrow hat hlt'
            have gb : wz.grownBy w5 (some g) := grownBy_trans' (World.grownBy_alloc wz _ _) hgrow
            have B5 : Hid (Below w.heap.size w w5) := BZ.out.grown gb hzz (fun j e => by cases e; exact (lg g rfl).1)
            obtain ⟨o6, l6⟩ := NEWS.out w5 gg cap1 hown1 E2.out
            have O5 := Lib.hid o6
            have L5 := Lib.hid l6
            clear hown1 hgrow hat hlt' gb BZ n0 n1 n2 own2 lg la2 o6 l6 NEWS
            go_wp2
            exact ⟨⟨k + 1, gg, m + 1, cap1, by omega, by go_num, rfl, L5, by omega, O5, B5⟩, by simp only [intOf]; omega⟩
        · have E2 : Hid (mergeOne (mergeL (cs.take k)) c = mergeL (cs.take k) ++ [c]) := HE.out (fun h => hk1 h.1)
          have v1 : (l.b == c.b) = false := by simpa using hk1
          clear HS2 HE hms hk1
          go_wp2
          go_quiet (fail)
          obtain ⟨wz, hwz⟩ : ∃ x, wr.drewN nq = x := ⟨_, rfl⟩
          have own2 : Hid (wz.ownsRow w.heap.size 46 3 (.slice (some ⟨g, 0, none⟩) m c1) m ((mergeL (cs.take k)).flatMap encCv)) := by subst hwz; exact own.out
          have BZ : Hid (Below w.heap.size w wz) := by subst hwz; exact ⟨B.out.os, B.out.tape, B.out.output, B.out.size, B.out.block⟩
          have hzz : w.heap.size ≤ wz.heap.size := BZ.out.size
          have n0 : wz.cell? ⟨ba, oa + k * 3, none⟩ = some (.int .i64 c.r) := by subst hwz; exact e0
          have n1 : wz.cell? ⟨ba, oa + k * 3 + 1, none⟩ = some (.int .i64 c.b) := by subst hwz; exact e1
          have n2 : wz.cell? ⟨ba, oa + k * 3 + 2, none⟩ = some (.int .i64 c.s) := by subst hwz; exact e2
          have la2 := block_lt_of_cell n0
          rw [hwz]
          clear hwz e0 e1 e2 own B la hsz ho hm g0 g1 g2
          go_wp2_with (at_builtin; refine wpList_append_lies _ rfl _ _ _ rfl w.heap.size 46 i0 _ 3 24 Try.underlying26 hi hz0 hz1 hz2 rfl (by omega) _ _ _ rfl (own2.out.alloc _) ⟨wz.heap.size, 0, none⟩ 1 1 [.int .i64 c.r, .int .i64 c.b, .int .i64 c.s] rfl rfl (World.news_of_block (cs := #[.int .i64 c.r, .int .i64 c.b, .int .i64 c.s]) (t := 46) (fr := (0, 0)) (heap_alloc_new wz _)) (by simp [Value.oneCell']) (by omega) (by unfold maxLen; omega) (by omega) (by simp; omega) _ rfl ?_)
          intro gg cap1 w5 hown1 hgrow hat hlt'
          have gb : wz.grownBy w5 (some g) := grownBy_trans' (World.grownBy_alloc wz _ _) hgrow
          have B5 : Hid (Below w.heap.size w w5) := BZ.out.grown gb hzz (fun j e => by cases e; exact (lg g rfl).1)
          obtain ⟨o6, l6⟩ := NEWS.out w5 gg cap1 hown1 E2.out
          have O5 := Lib.hid o6
          have L5 := Lib.hid l6
          clear hown1 hgrow hat hlt' gb BZ n0 n1 n2 own2 lg la2 o6 l6 NEWS
          go_wp2
          exact ⟨⟨k + 1, gg, m + 1, cap1, by omega, by go_num, rfl, L5, by omega, O5, B5⟩, by simp only [intOf]; omega⟩
    · obtain rfl : k = N := by omega
      have HO : Hid (OwnS 46 3 encCv wr w.heap.size (.slice (some ⟨g, 0, none⟩) m c1) (mergeL cs)) := by
        have e := ho.out
        rw [List.take_of_length_le (Nat.le_of_eq HN.out.symm)] at e
        exact e
      clear ho hm
      go_wp2
      go_ret
      exact ⟨_, rfl, HO.out, B.out⟩
end Go.Proofs.Ythhnnkgfnhggbaa
