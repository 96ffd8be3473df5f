/- A survey without a sight: both sides. -/
import Derived.Test.YtcmocilojloolaaDoorConcatT
import Derived.Deep.RegionLaw
import Derived.Deep.DeepCutAuto
namespace Go.Proofs.YtcmocilojloolaaDoor
open Go.ChangeShapes Go.WideShapes Go.ChangeAt Go.RowKit
set_option linter.unusedVariables false
set_option linter.unusedSimpArgs false

def dropL (xs : List St) (k : Nat) : List St := xs.take k ++ xs.drop (k + 1)
theorem dropL_len {xs : List St} {k : Nat} (h : k < xs.length) : (dropL xs k).length = xs.length - 1 := by
  unfold dropL; rw [List.length_append, List.length_take, List.length_drop]; omega
/-- What of the first i sights is kept. -/
def dropTo (xs : List St) (k i : Nat) : List St := if i ≤ k then xs.take i else xs.take k ++ (xs.take i).drop (k + 1)
theorem dropTo_skip (xs : List St) (k : Nat) : dropTo xs k (k + 1) = dropTo xs k k := by
  unfold dropTo
  rw [if_neg (by omega), if_pos (Nat.le_refl _)]
  rw [List.drop_eq_nil_of_le (by rw [List.length_take]; omega), List.append_nil]
theorem dropTo_succ {xs : List St} {k i : Nat} {x : St} (h : xs[i]? = some x) (hk : i ≠ k) : dropTo xs k (i + 1) = dropTo xs k i ++ [x] := by
  unfold dropTo
  by_cases h1 : i < k
  · rw [if_pos (by omega), if_pos (by omega), List.take_add_one, h]; rfl
  · rw [if_neg (by omega), if_neg (by omega), List.take_add_one, h, List.append_assoc]
    have : i < xs.length := (List.getElem?_eq_some_iff.1 h).1
    rw [List.drop_append_of_le_length (by rw [List.length_take]; omega)]; rfl
theorem dropTo_all {xs : List St} {k : Nat} (h : k < xs.length) : dropTo xs k xs.length = dropL xs k := by
  unfold dropTo dropL; rw [if_neg (by omega), List.take_length]
theorem dropTo_len {xs : List St} {k i : Nat} (h : i ≤ xs.length) : (dropTo xs k i).length ≤ i := by
  unfold dropTo; split
  · rw [List.length_take]; omega
  · rw [List.length_append, List.length_take, List.length_drop, List.length_take]; omega

theorem grown_drew0 (w : World) (row : Option Nat) : w.grownBy w.drew row := ⟨rfl, rfl, rfl, Nat.le_refl _, fun _ _ _ => rfl⟩

def isStructV : TypeDesc → Bool
  | .struct _ => true
  | _ => false
theorem und_survey : ∃ F, Tryd.prog.underlying 26 = some (.struct F) := by
  have h : (Tryd.prog.underlying 26).map isStructV = some true := by kernel_rfl
  cases e : Tryd.prog.underlying 26 with
  | none => rw [e] at h; simp at h
  | some d =>
    rw [e] at h
    cases d <;> first | exact ⟨_, rfl⟩ | (simp [isStructV] at h)
theorem infoV_survey : (Tryd.prog.info? 26).map (fun i => i.size) = some 2 := by kernel_rfl

set_option maxRecDepth 100000 in
set_option maxHeartbeats 16000000 in
theorem l10Drop_any (G : Nat) (ty : TypeId) (g : Sv) (n0 : Nat) (w : World) (hG : w.heap[G]? = some (.cells #[.int .i64 g.p, .slice g.xa n0 g.xc] ty (0, 0))) (hr : RdSv w n0 g) (hn : n0 ≤ 8) (K : Nat) (hK : K < n0) :
    Calls Tryd.prog 72 #[.pointer (some ⟨G, 0, none⟩), .int .i64 K] w fun e w' => ∃ u : Sv, u.same ⟨g.p, none, 0, dropL g.x K⟩ ∧ e = .returned (.agg #[.int .i64 u.p, .slice u.xa (n0 - 1) u.xc]) ∧ OwnSv w' w.heap.size w'.heap.size (n0 - 1) u ∧ Below w.heap.size w w' := by
  obtain ⟨i0, hi, hz0, hz1, hz2⟩ := info_Sk'
  have E0 := Lib.hid hr.len
  obtain ⟨⟨k0, k1⟩, -, lG⟩ := boxedSv_at hG
  have HG := Lib.hid hG
  have H := Lib.hid hr.r0
  clear hG hr
  go_enter Tryd.func72, Tryd.ntmps72
  go_upto_region 2 with (fail)
  have N0 : Hid ((((w.alloc (.cells #[.int .i64 0, .slice none 0 0] 26)).alloc (.cells #[] 32)).alloc (.cells #[.int .i64 g.p, .slice (some ⟨w.heap.size + 1, 0, none⟩) 0 0] 26)).heap[w.heap.size]? = some (.cells #[.int .i64 0, .slice none 0 0] 26 (0, 0))) := box3_0 w _ _ _
  have N1 : Hid ((((w.alloc (.cells #[.int .i64 0, .slice none 0 0] 26)).alloc (.cells #[] 32)).alloc (.cells #[.int .i64 g.p, .slice (some ⟨w.heap.size + 1, 0, none⟩) 0 0] 26)).heap[w.heap.size + 1]? = some (.cells #[] 32 (0, 0))) := box3_1 w _ _ _
  have N2 : Hid ((((w.alloc (.cells #[.int .i64 0, .slice none 0 0] 26)).alloc (.cells #[] 32)).alloc (.cells #[.int .i64 g.p, .slice (some ⟨w.heap.size + 1, 0, none⟩) 0 0] 26)).heap[w.heap.size + 1 + 1]? = some (.cells #[.int .i64 g.p, .slice (some ⟨w.heap.size + 1, 0, none⟩) 0 0] 26 (0, 0))) := box3_2 w _ _ _
  have B0 : Hid (Below w.heap.size w (((w.alloc (.cells #[.int .i64 0, .slice none 0 0] 26)).alloc (.cells #[] 32)).alloc (.cells #[.int .i64 g.p, .slice (some ⟨w.heap.size + 1, 0, none⟩) 0 0] 26))) := by show Below _ _ _; go_grown
  have z0 : w.heap.size + 3 ≤ (((w.alloc (.cells #[.int .i64 0, .slice none 0 0] 26)).alloc (.cells #[] 32)).alloc (.cells #[.int .i64 g.p, .slice (some ⟨w.heap.size + 1, 0, none⟩) 0 0] 26)).heap.size := by simp
  generalize ((w.alloc (.cells #[.int .i64 0, .slice none 0 0] 26)).alloc (.cells #[] 32)).alloc (.cells #[.int .i64 g.p, .slice (some ⟨w.heap.size + 1, 0, none⟩) 0 0] 26) = W at *
  have O0 : Hid (OwnS 32 4 encSt W (w.heap.size + 1) (.slice (some ⟨w.heap.size + 1, 0, none⟩) 0 0) (dropTo g.x K 0)) :=
    ⟨by simp [dropTo], .inr ⟨w.heap.size + 1, 0, #[], rfl, Nat.le_refl _, N1.out, by simp [dropTo], by unfold maxLen; omega, by simp, by simp [dropTo]⟩⟩
  have D0 : Hid (0 = (dropTo g.x K 0).length) := by show _ = _; simp [dropTo]
  have A0 : Hid (∀ b, (Value.slice (some ⟨w.heap.size + 1, 0, none⟩) 0 0).ownBlock = some b → b ≠ w.heap.size + 1 + 1) := fun b hb => by
    simp only [Value.ownBlock, Option.some.injEq] at hb
    omega
  clear N1
  go_wp2
  go_loopw [6] (fun iv wr => ∃ (i m c1 : Nat) (ad : Option Addr), i ≤ n0 ∧ m ≤ i ∧ iv = .int .i64 i ∧ Hid (m = (dropTo g.x K i).length) ∧ Hid (OwnS 32 4 encSt wr (w.heap.size + 1) (.slice ad m c1) (dropTo g.x K i)) ∧ Hid (∀ b, (Value.slice ad m c1).ownBlock = some b → b ≠ w.heap.size + 1 + 1) ∧ Hid (wr.heap[w.heap.size]? = some (.cells #[.int .i64 0, .slice none 0 0] 26 (0, 0))) ∧ Hid (wr.heap[w.heap.size + 1 + 1]? = some (.cells #[.int .i64 g.p, .slice ad m c1] 26 (0, 0))) ∧ Hid (Below w.heap.size w wr) ∧ w.heap.size + 3 ≤ wr.heap.size) (fun iv _ => n0 - (intOf iv).toNat)
  case atStart => exact ⟨0, 0, 0, _, by omega, by omega, rfl, D0.out, O0.out, A0.out, N0.out, N2.out, B0.out, z0⟩
  case round =>
    obtain ⟨i, m, c1, ad, hi', mi, rfl, hm, ho, ha, M0, M1, B, zr⟩ := hrel
    clear O0 N0 N2 B0 z0 k0 k1 D0 A0
    obtain ⟨⟨k0, k1⟩, -, -⟩ := boxedSv_at ((B.out.block G lG).trans HG.out)
    by_cases hlt : i < n0
    · obtain ⟨x, hx⟩ : ∃ x, g.x[i]? = some x := ⟨_, List.getElem?_eq_getElem (by have := E0.out; omega)⟩
      obtain ⟨ba, oa, ea, u0, u1, u2, u3⟩ := (H.out.later B.out).at4g i x hx _ _ _ _ rfl
      rw [ea] at k1
      have HX := Lib.hid hx
      clear ea hx
      by_cases hik : i = K
      · have d1 : ((i : Int) != (K : Int)) = false := by simp [hik]
        have d2 : (i != K) = false := by simp [hik]
        have O1 : Hid (OwnS 32 4 encSt wr (w.heap.size + 1) (.slice ad m c1) (dropTo g.x K (i + 1))) := by
          have := ho.out
          rw [hik] at this ⊢
          rw [dropTo_skip]
          exact this
        have hm1 : Hid (m = (dropTo g.x K (i + 1)).length) := by
          show _ = _
          have := hm.out
          rw [hik] at this ⊢
          rw [dropTo_skip]
          exact this
        clear ho hm
        go_wp2
        exact ⟨⟨i + 1, m, c1, ad, by omega, by omega, by go_num, hm1, O1, ha, M0, M1, B, zr⟩, by simp only [intOf]; omega⟩
      · have d1 : ((i : Int) != (K : Int)) = true := by simp; omega
        have d2 : (i != K) = true := by simp [hik]
        obtain ⟨⟨d0, d3⟩, ⟨f0, f1⟩, -⟩ := boxedSv_at M1.out
        have KS : Hid (∀ w', Below wr.heap.size wr w' → w'.cell? ⟨w.heap.size + 1 + 1, 1, none⟩ = some (.slice ad m c1) ∧ w'.frozen? ⟨w.heap.size + 1 + 1, 1, none⟩ = false) := fun w' b => by
          obtain ⟨⟨u0, u1⟩, ⟨v0, v1⟩, -⟩ := boxedSv_at ((b.block (w.heap.size + 1 + 1) (by omega)).trans M1.out)
          exact ⟨u1, v1⟩
        have own5 : Hid (wr.ownsRow (w.heap.size + 1) 32 4 (.slice ad m c1) m ((dropTo g.x K i).flatMap encSt)) := by
          have := ho.out
          unfold OwnS at this
          rw [← hm.out] at this
          exact this
        have lg5 := own5.out.lt
        obtain ⟨m2, -⟩ := KS.out _ ((Below.refl _ _).drew.alloc (by simp) (.cells #[.int .i64 x.f, .int .i64 x.t, .int .i64 x.r, .int .i64 x.v] 32))
        obtain ⟨m3, -⟩ := KS.out _ ((Below.refl _ _).alloc (by simp) (.cells #[.int .i64 x.f, .int .i64 x.t, .int .i64 x.r, .int .i64 x.v] 32))
        have ownD : Hid (((wr.alloc (.cells #[.int .i64 x.f, .int .i64 x.t, .int .i64 x.r, .int .i64 x.v] 32)).drew).ownsRow (w.heap.size + 1) 32 4 (.slice ad m c1) m ((dropTo g.x K i).flatMap encSt)) := own5.out.alloc _
        have newD : Hid (∀ (j : Nat) (u : Value), ([.int .i64 x.f, .int .i64 x.t, .int .i64 x.r, .int .i64 x.v] : List Value)[j]? = some u → ((wr.alloc (.cells #[.int .i64 x.f, .int .i64 x.t, .int .i64 x.r, .int .i64 x.v] 32)).drew).cell? ((⟨wr.heap.size, 0, none⟩ : Addr).add j) = some u) := World.news_of_block (cs := #[.int .i64 x.f, .int .i64 x.t, .int .i64 x.r, .int .i64 x.v]) (t := 32) (fr := (0, 0)) (heap_alloc_new wr _)
        go_wp2_with fail
        go_region_law (refine step_append_lies _ (by rfl) _ _ _ (by rfl) (w.heap.size + 1) 32 i0 _ 4 32 Tryd.underlying24 hi hz0 hz1 hz2 rfl (by omega) _ _ _ (by rfl) ownD.out ⟨wr.heap.size, 0, none⟩ 1 1 [.int .i64 x.f, .int .i64 x.t, .int .i64 x.r, .int .i64 x.v] (by rfl) (by rfl) newD.out (by simp [Value.oneCell']) (by omega) (by unfold maxLen; omega) (by omega) (by simp; omega) (wr.heap.size + 1) (by simp) ?_; intro gg cap1 w6 hown1 hgrow hat hlt'; have gb : wr.grownBy w6 _ := grownBy_trans' (grownBy_trans' (World.grownBy_alloc wr _ _) (grown_drew0 _ _)) hgrow; have M6 : Hid (w6.heap[w.heap.size + 1 + 1]? = some (.cells #[.int .i64 g.p, .slice ad m c1] 26 (0, 0))) := (gb.block _ (by omega) (fun e => ha.out _ e.symm rfl)).trans M1.out; obtain ⟨⟨g0, g1⟩, ⟨h0, h1⟩, -⟩ := boxedSv_at M6.out)
        all_goals
          have hown2 : OwnS 32 4 encSt w6 (w.heap.size + 1) (.slice (some ⟨gg, 0, none⟩) (m + 1) cap1) (dropTo g.x K (i + 1)) := by
            unfold OwnS
            rw [dropTo_succ HX.out hik, List.length_append, ← hm.out, List.flatMap_append]
            exact hown1
          have hm1 : Hid (m + 1 = (dropTo g.x K (i + 1)).length) := by show _ = _; rw [dropTo_succ HX.out hik, List.length_append, ← hm.out]; rfl
          have s6 := gb.size
          have gne : gg ≠ w.heap.size + 1 + 1 := by
            rcases hat with hat | hat
            · exact ha.out gg hat
            · omega
          have A7 : Hid (∀ b, (Value.slice (some ⟨gg, 0, none⟩) (m + 1) cap1).ownBlock = some b → b ≠ w.heap.size + 1 + 1) := fun b hb => by
            simp only [Value.ownBlock, Option.some.injEq] at hb
            omega
          have O7 : Hid (OwnS 32 4 encSt (w6.setCell ⟨w.heap.size + 1 + 1, 1, none⟩ (.slice (some ⟨gg, 0, none⟩) (m + 1) cap1)) (w.heap.size + 1) (.slice (some ⟨gg, 0, none⟩) (m + 1) cap1) (dropTo g.x K (i + 1))) :=
            hown2.of_block fun b hb => Below.heap_setCell _ _ _ _ (A7.out b hb)
          have M7 : Hid ((w6.setCell ⟨w.heap.size + 1 + 1, 1, none⟩ (.slice (some ⟨gg, 0, none⟩) (m + 1) cap1)).heap[w.heap.size + 1 + 1]? = some (.cells #[.int .i64 g.p, .slice (some ⟨gg, 0, none⟩) (m + 1) cap1] 26 (0, 0))) := putSv_1 _ M6.out
          have L7 : Hid ((w6.setCell ⟨w.heap.size + 1 + 1, 1, none⟩ (.slice (some ⟨gg, 0, none⟩) (m + 1) cap1)).heap[w.heap.size]? = some (.cells #[.int .i64 0, .slice none 0 0] 26 (0, 0))) := by
            show _ = _
            rw [Below.heap_setCell _ _ _ _ (by show w.heap.size ≠ w.heap.size + 1 + 1; omega)]
            exact (gb.block _ (by omega) (fun e => by have := (lg5 _ e.symm).1; omega)).trans M0.out
          have B7 : Hid (Below w.heap.size w (w6.setCell ⟨w.heap.size + 1 + 1, 1, none⟩ (.slice (some ⟨gg, 0, none⟩) (m + 1) cap1))) := (B.out.grown gb (by omega) (fun j e => by have := (lg5 j e).1; omega)).setCell (p := ⟨w.heap.size + 1 + 1, 1, none⟩) (by show w.heap.size ≤ w.heap.size + 1 + 1; omega) _
          have e7 : (w6.setCell ⟨w.heap.size + 1 + 1, 1, none⟩ (.slice (some ⟨gg, 0, none⟩) (m + 1) cap1)).heap.size = w6.heap.size := by simp
          have z7 : w.heap.size + 3 ≤ (w6.setCell ⟨w.heap.size + 1 + 1, 1, none⟩ (.slice (some ⟨gg, 0, none⟩) (m + 1) cap1)).heap.size := by omega
          clear hown1 hown2 hgrow hat hlt' e7 gb M6 lg5 own5 ownD newD ho M0 M1 B KS hm g0 g1 h0 h1 d1 d2 d3 k0 k1 u0 u1 u2 u3 m2 m3
          generalize w6.setCell ⟨w.heap.size + 1 + 1, 1, none⟩ (.slice (some ⟨gg, 0, none⟩) (m + 1) cap1) = w7 at *
          go_wp2
          exact ⟨⟨i + 1, m + 1, cap1, _, by omega, by omega, by go_num, hm1, O7, A7, L7, M7, B7, z7⟩, by simp only [intOf]; omega⟩
    · obtain rfl : i = n0 := by omega
      obtain ⟨⟨d0, d1⟩, -, -⟩ := boxedSv_at M1.out
      obtain ⟨⟨d2, d3⟩, ⟨f0, f1⟩, lR⟩ := boxedSv_at M0.out
      obtain ⟨F, hu⟩ := und_survey
      have L : Hid (dropTo g.x K i = dropL g.x K) := by show _ = _; rw [E0.out]; exact dropTo_all (by have := E0.out; omega)
      obtain rfl : m = i - 1 := by have := hm.out; rw [L.out, dropL_len (by have := E0.out; omega)] at this; have := E0.out; omega
      have NE : Hid (((wr.setCell ⟨w.heap.size, 0, none⟩ (.int .i64 g.p)).setCell ⟨w.heap.size, 1, none⟩ (.slice ad (i - 1) c1)).heap[w.heap.size]? = some (.cells #[.int .i64 g.p, .slice ad (i - 1) c1] 26 (0, 0))) := putSv_1 _ (putSv_0 _ M0.out)
      have BE : Hid (Below w.heap.size w ((wr.setCell ⟨w.heap.size, 0, none⟩ (.int .i64 g.p)).setCell ⟨w.heap.size, 1, none⟩ (.slice ad (i - 1) c1))) := (B.out.setCell (p := ⟨w.heap.size, 0, none⟩) (Nat.le_refl _) _).setCell (p := ⟨w.heap.size, 1, none⟩) (Nat.le_refl _) _
      have OE : Hid (OwnSv ((wr.setCell ⟨w.heap.size, 0, none⟩ (.int .i64 g.p)).setCell ⟨w.heap.size, 1, none⟩ (.slice ad (i - 1) c1)) w.heap.size ((wr.setCell ⟨w.heap.size, 0, none⟩ (.int .i64 g.p)).setCell ⟨w.heap.size, 1, none⟩ (.slice ad (i - 1) c1)).heap.size (i - 1) ⟨g.p, ad, c1, dropL g.x K⟩) := by
        have e : ((wr.setCell ⟨w.heap.size, 0, none⟩ (.int .i64 g.p)).setCell ⟨w.heap.size, 1, none⟩ (.slice ad (i - 1) c1)).heap.size = wr.heap.size := by simp
        refine ⟨?_, ?_, Nat.le_refl _⟩
        · show OwnS _ _ _ _ _ (.slice ad (i - 1) c1) (dropL g.x K)
          rw [← L.out]
          refine OwnS.mono (ho.out.of_block fun b hb => ?_) (show w.heap.size ≤ w.heap.size + 1 by omega)
          have := (ho.out.lt b hb).1
          rw [Below.heap_setCell _ _ _ _ (by show b ≠ w.heap.size; omega), Below.heap_setCell _ _ _ _ (by show b ≠ w.heap.size; omega)]
        · intro b hb
          rw [e]
          exact (ho.out.lt b hb).2
      clear ho M0 M1 B hm L
      go_wp2
      refine bodyPost_ret (results_cell_row Tryd.results72 _ _ w.heap.size 26 #[.int .i64 g.p, .slice ad (i - 1) c1] (0, 0) (.struct F) rfl NE.out hu rfl infoV_survey) rfl ?_
      exact ⟨⟨g.p, ad, c1, dropL g.x K⟩, ⟨rfl, rfl⟩, rfl, OE.out, BE.out⟩


theorem RdS.front {w : World} {a : Option Addr} {n c k : Nat} {xs : List St} (h : RdS 4 encSt w (.slice a n c) xs) (hk : k ≤ xs.length) : RdS 4 encSt w (.slice a k c) (xs.take k) := by
  obtain ⟨a', c', hv, h2⟩ := h
  simp only [Value.slice.injEq] at hv
  obtain ⟨rfl, -, rfl⟩ := hv
  refine ⟨a, c, by rw [List.length_take]; congr 1; omega, ?_⟩
  rcases h2 with h2 | ⟨b, off, rfl, h2⟩
  · exact .inl (by rw [h2]; simp)
  · refine .inr ⟨b, off, rfl, fun i x hx => h2 i x ?_⟩
    rw [List.getElem?_take] at hx
    split at hx
    · exact hx
    · cases hx
theorem RdS.back {w : World} {b off : Nat} {n c k : Nat} {xs : List St} (h : RdS 4 encSt w (.slice (some ⟨b, off, none⟩) n c) xs) (a : Option Addr) (ha : k < xs.length → a = some ⟨b, off + k * 4, none⟩) (c2 m : Nat) (hm : m = xs.length - k) : RdS 4 encSt w (.slice a m c2) (xs.drop k) := by
  obtain ⟨a', c', hv, h2⟩ := h
  simp only [Value.slice.injEq] at hv
  obtain ⟨rfl, -, rfl⟩ := hv
  refine ⟨a, c2, by rw [List.length_drop, hm], ?_⟩
  by_cases hk : k < xs.length
  · obtain ⟨b', off', e, h2⟩ := h2.resolve_left (by intro e; rw [e] at hk; simp at hk)
    simp only [Option.some.injEq, Addr.mk.injEq, and_true] at e
    obtain ⟨rfl, rfl⟩ := e
    refine .inr ⟨b, off + k * 4, ha hk, fun i x hx j u hu => ?_⟩
    rw [List.getElem?_drop] at hx
    have := h2 (k + i) x hx j u hu
    rwa [show off + ((k + i) * 4 + j) = off + k * 4 + (i * 4 + j) by omega] at this
  · exact .inl (List.drop_eq_nil_of_le (by omega))

theorem RdK.two {w : World} {b : Nat} {a0 a1 : Option Addr} {c0 c1 m0 m1 : Nat} {xs ys : List St} (h0 : w.cell? ⟨b, 0, none⟩ = some (.slice a0 m0 c0)) (h1 : w.cell? ⟨b, 1, none⟩ = some (.slice a1 m1 c1)) (r0 : RdS 4 encSt w (.slice a0 m0 c0) xs) (r1 : RdS 4 encSt w (.slice a1 m1 c1) ys) : RdK w b [⟨a0, c0, xs⟩, ⟨a1, c1, ys⟩] := by
  have e0 : m0 = xs.length := by obtain ⟨_, _, e, _⟩ := r0; simp only [Value.slice.injEq] at e; exact e.2.1
  have e1 : m1 = ys.length := by obtain ⟨_, _, e, _⟩ := r1; simp only [Value.slice.injEq] at e; exact e.2.1
  subst e0
  subst e1
  intro k x hx
  match k, hx with
  | 0, hx => obtain rfl := Option.some.inj hx; exact ⟨h0, r0⟩
  | 1, hx => obtain rfl := Option.some.inj hx; exact ⟨h1, r1⟩

set_option maxRecDepth 100000 in
set_option maxHeartbeats 16000000 in
theorem without_any (g : Sv) (n0 : Nat) (w : World) (hr : RdSv w n0 g) (cp : g.caps n0) (hn : n0 ≤ 8) (K : Nat) (hK : K < n0) :
    Calls Tryd.prog 75 #[(.agg #[.int .i64 g.p, .slice g.xa n0 g.xc]), .int .i64 K] w fun e w' => ∃ u : Sv, u.same ⟨g.p, none, 0, dropL g.x K⟩ ∧ e = .returned (.agg #[.int .i64 u.p, .slice u.xa (n0 - 1) u.xc]) ∧ OwnSv w' w.heap.size w'.heap.size (n0 - 1) u ∧ Below w.heap.size w w' := by
  have E0 := Lib.hid hr.len
  have H := Lib.hid hr.r0
  have cp1 : n0 ≤ g.xc := cp
  obtain ⟨x, hx⟩ : ∃ x, g.x[K]? = some x := ⟨_, List.getElem?_eq_getElem (by have := E0.out; omega)⟩
  obtain ⟨ba, oa, ea, -, -, -, -⟩ := H.out.at4g K x hx _ _ _ _ rfl
  clear hx hr cp
  rw [ea] at H ⊢
  have q1 : IntKind.i64.wrap ((K : Int) + 1) = ((K + 1 : Nat) : Int) := by rw [IntWalk.i64_in _ (by omega)]; push_cast; rfl
  have i1 : (K : Int) ≤ (g.xc : Int) := by omega
  have i2 : (K : Int) + 1 ≤ (n0 : Int) := by omega
  have i3 : (0 : Int) ≤ (K : Int) + 1 := by omega
  have i4 : (K : Int) ≤ (K : Int) + 1 := by omega
  have i5 : (K : Int) + 1 ≤ (g.xc : Int) := by omega
  have i6 : (n0 : Int) ≤ (g.xc : Int) := by omega
  by_cases hc : g.xc = K + 1
  · have cp2 : n0 ≤ K + 1 := by omega
    rw [hc] at H ⊢
    clear hc cp1 i1 i5 i6
    have RK : Hid (RdK ((((w.alloc (.cells #[.int .i64 g.p, .slice (some ⟨ba, oa, none⟩) n0 (K + 1)] 26)).alloc (.cells #[.int .i64 0, .slice none 0 0] 26)).alloc (.cells #[.slice (some ⟨ba, oa, none⟩) K (K + 1), .slice (some ⟨ba, oa, none⟩) 0 0] 24)).drew) (w.heap.size + 1 + 1) [⟨some ⟨ba, oa, none⟩, (K + 1), g.x.take K⟩, ⟨(some ⟨ba, oa, none⟩), 0, g.x.drop (K + 1)⟩]) := by
      have hA : ((((w.alloc (.cells #[.int .i64 g.p, .slice (some ⟨ba, oa, none⟩) n0 (K + 1)] 26)).alloc (.cells #[.int .i64 0, .slice none 0 0] 26)).alloc (.cells #[.slice (some ⟨ba, oa, none⟩) K (K + 1), .slice (some ⟨ba, oa, none⟩) 0 0] 24)).drew).heap[w.heap.size + 1 + 1]? = some (.cells #[.slice (some ⟨ba, oa, none⟩) K (K + 1), .slice (some ⟨ba, oa, none⟩) 0 0] 24 (0, 0)) := box3_2 w _ _ _
      have hB : Below w.heap.size w ((((w.alloc (.cells #[.int .i64 g.p, .slice (some ⟨ba, oa, none⟩) n0 (K + 1)] 26)).alloc (.cells #[.int .i64 0, .slice none 0 0] 26)).alloc (.cells #[.slice (some ⟨ba, oa, none⟩) K (K + 1), .slice (some ⟨ba, oa, none⟩) 0 0] 24)).drew) := by go_grown
      exact RdK.two (cell_of_row _ _ 0 _ _ _ hA) (cell_of_row _ _ 1 _ _ _ hA) ((H.out.front (by have := E0.out; omega)).later hB) (RdS.later (H.out.back _ (fun h => by have := E0.out; omega) 0 _ (by have := E0.out; omega)) hB)
    have L5 : (List.flatMap Sk.t [⟨some ⟨ba, oa, none⟩, (K + 1), g.x.take K⟩, ⟨(some ⟨ba, oa, none⟩), 0, g.x.drop (K + 1)⟩]) = dropL g.x K := by simp [dropL]
    have l5 : Hid ((dropL g.x K).length = n0 - 1) := by show _ = _; have e := E0.out; rw [dropL_len (by omega)]; omega
    have C := Lib.hid (concatK_any (w.heap.size + 1 + 1) 2 2 _ ((((w.alloc (.cells #[.int .i64 g.p, .slice (some ⟨ba, oa, none⟩) n0 (K + 1)] 26)).alloc (.cells #[.int .i64 0, .slice none 0 0] 26)).alloc (.cells #[.slice (some ⟨ba, oa, none⟩) K (K + 1), .slice (some ⟨ba, oa, none⟩) 0 0] 24)).drew) rfl (by omega) RK.out (by omega) (by
      have e := E0.out
      unfold sumK
      simp only [List.map_cons, List.map_nil, List.sum_cons, List.sum_nil, List.length_take, List.length_drop]; omega))
    rw [L5] at C
    clear L5
    have N3 : Hid (((((w.alloc (.cells #[.int .i64 g.p, .slice (some ⟨ba, oa, none⟩) n0 (K + 1)] 26)).alloc (.cells #[.int .i64 0, .slice none 0 0] 26)).alloc (.cells #[.slice (some ⟨ba, oa, none⟩) K (K + 1), .slice (some ⟨ba, oa, none⟩) 0 0] 24)).drew).heap[w.heap.size]? = some (.cells #[.int .i64 g.p, .slice (some ⟨ba, oa, none⟩) n0 (K + 1)] 26 (0, 0))) := box3_0 w _ _ _
    have R3 : Hid (((((w.alloc (.cells #[.int .i64 g.p, .slice (some ⟨ba, oa, none⟩) n0 (K + 1)] 26)).alloc (.cells #[.int .i64 0, .slice none 0 0] 26)).alloc (.cells #[.slice (some ⟨ba, oa, none⟩) K (K + 1), .slice (some ⟨ba, oa, none⟩) 0 0] 24)).drew).heap[w.heap.size + 1]? = some (.cells #[.int .i64 0, .slice none 0 0] 26 (0, 0))) := box3_1 w _ _ _
    have B3 : Hid (Below w.heap.size w ((((w.alloc (.cells #[.int .i64 g.p, .slice (some ⟨ba, oa, none⟩) n0 (K + 1)] 26)).alloc (.cells #[.int .i64 0, .slice none 0 0] 26)).alloc (.cells #[.slice (some ⟨ba, oa, none⟩) K (K + 1), .slice (some ⟨ba, oa, none⟩) 0 0] 24)).drew)) := by show Below _ _ _; go_grown
    have z3 : w.heap.size + 3 ≤ ((((w.alloc (.cells #[.int .i64 g.p, .slice (some ⟨ba, oa, none⟩) n0 (K + 1)] 26)).alloc (.cells #[.int .i64 0, .slice none 0 0] 26)).alloc (.cells #[.slice (some ⟨ba, oa, none⟩) K (K + 1), .slice (some ⟨ba, oa, none⟩) 0 0] 24)).drew).heap.size := by simp
    go_enter Tryd.func75, Tryd.ntmps75
    go_wp2_with fail
    go_region_law (go_simp; go_at_call 104; refine C.out.mono ?_; rintro e w5 ⟨u5, rfl, o5, b5⟩; obtain ⟨a5, c5, e5⟩ := o5.form; rw [l5.out] at e5; subst e5; have N5 := Lib.hid ((b5.block w.heap.size (by omega)).trans N3.out); have R5 := Lib.hid ((b5.block (w.heap.size + 1) (by omega)).trans R3.out); have B5 : Hid (Below w.heap.size w w5) := B3.out.trans (b5.mono (by omega)); have s5 := b5.size; have O5 := Lib.hid o5; obtain ⟨⟨g0, g1⟩, ⟨h0, h1⟩, -⟩ := boxedSv_at N5.out)
    all_goals
      have N6 : Hid ((w5.setCell ⟨w.heap.size, 1, none⟩ (.slice a5 (n0 - 1) c5)).heap[w.heap.size]? = some (.cells #[.int .i64 g.p, .slice a5 (n0 - 1) c5] 26 (0, 0))) := putSv_1 _ N5.out
      have R6 : Hid ((w5.setCell ⟨w.heap.size, 1, none⟩ (.slice a5 (n0 - 1) c5)).heap[w.heap.size + 1]? = some (.cells #[.int .i64 0, .slice none 0 0] 26 (0, 0))) := (Below.heap_setCell _ _ _ _ (by show w.heap.size + 1 ≠ w.heap.size; omega)).trans R5.out
      have B6 : Hid (Below w.heap.size w (w5.setCell ⟨w.heap.size, 1, none⟩ (.slice a5 (n0 - 1) c5))) := B5.out.setCell (p := ⟨w.heap.size, 1, none⟩) (Nat.le_refl _) _
      have e6 : (w5.setCell ⟨w.heap.size, 1, none⟩ (.slice a5 (n0 - 1) c5)).heap.size = w5.heap.size := by simp
      have O6 : Hid (OwnS 32 4 encSt (w5.setCell ⟨w.heap.size, 1, none⟩ (.slice a5 (n0 - 1) c5)) (w.heap.size + 2) (.slice a5 (n0 - 1) c5) (dropL g.x K)) :=
        (OwnS.mono O5.out (by omega)).of_block fun b hb => by
          have := (O5.out.lt b hb).1
          exact Below.heap_setCell _ _ _ _ (by show b ≠ w.heap.size; omega)
      have s6 : w.heap.size + 3 ≤ (w5.setCell ⟨w.heap.size, 1, none⟩ (.slice a5 (n0 - 1) c5)).heap.size := by omega
      clear N5 R5 B5 O5 o5 b5 s5 g0 g1 h0 h1 e6 C RK N3 R3 B3 z3
      generalize w5.setCell ⟨w.heap.size, 1, none⟩ (.slice a5 (n0 - 1) c5) = w6 at *
      obtain ⟨⟨g0, g1⟩, -, -⟩ := boxedSv_at N6.out
      obtain ⟨⟨d2, d3⟩, ⟨f0, f1⟩, lR⟩ := boxedSv_at R6.out
      obtain ⟨F, hu⟩ := und_survey
      have NE : Hid (((w6.setCell ⟨w.heap.size + 1, 0, none⟩ (.int .i64 g.p)).setCell ⟨w.heap.size + 1, 1, none⟩ (.slice a5 (n0 - 1) c5)).heap[w.heap.size + 1]? = some (.cells #[.int .i64 g.p, .slice a5 (n0 - 1) c5] 26 (0, 0))) := putSv_1 _ (putSv_0 _ R6.out)
      have BE : Hid (Below w.heap.size w ((w6.setCell ⟨w.heap.size + 1, 0, none⟩ (.int .i64 g.p)).setCell ⟨w.heap.size + 1, 1, none⟩ (.slice a5 (n0 - 1) c5))) := (B6.out.setCell (p := ⟨w.heap.size + 1, 0, none⟩) (by show w.heap.size ≤ w.heap.size + 1; omega) _).setCell (p := ⟨w.heap.size + 1, 1, none⟩) (by show w.heap.size ≤ w.heap.size + 1; omega) _
      have OE : Hid (OwnSv ((w6.setCell ⟨w.heap.size + 1, 0, none⟩ (.int .i64 g.p)).setCell ⟨w.heap.size + 1, 1, none⟩ (.slice a5 (n0 - 1) c5)) w.heap.size ((w6.setCell ⟨w.heap.size + 1, 0, none⟩ (.int .i64 g.p)).setCell ⟨w.heap.size + 1, 1, none⟩ (.slice a5 (n0 - 1) c5)).heap.size (n0 - 1) ⟨g.p, a5, c5, dropL g.x K⟩) := by
        have e : ((w6.setCell ⟨w.heap.size + 1, 0, none⟩ (.int .i64 g.p)).setCell ⟨w.heap.size + 1, 1, none⟩ (.slice a5 (n0 - 1) c5)).heap.size = w6.heap.size := by simp
        refine ⟨?_, ?_, Nat.le_refl _⟩
        · refine OwnS.mono (O6.out.of_block fun b hb => ?_) (show w.heap.size ≤ w.heap.size + 2 by omega)
          have := (O6.out.lt b hb).1
          rw [Below.heap_setCell _ _ _ _ (by show b ≠ w.heap.size + 1; omega), Below.heap_setCell _ _ _ _ (by show b ≠ w.heap.size + 1; omega)]
        · intro b hb
          rw [e]
          exact (O6.out.lt b hb).2
      clear O6 N6 R6 B6
      go_wp2
      refine bodyPost_ret (results_cell_row Tryd.results75 _ _ (w.heap.size + 1) 26 #[.int .i64 g.p, .slice a5 (n0 - 1) c5] (0, 0) (.struct F) rfl NE.out hu rfl infoV_survey) rfl ?_
      exact ⟨⟨g.p, a5, c5, dropL g.x K⟩, ⟨rfl, rfl⟩, rfl, OE.out, BE.out⟩
  · have hc1 : (g.xc = K + 1) = False := by simp [hc]
    have RK : Hid (RdK ((((w.alloc (.cells #[.int .i64 g.p, .slice (some ⟨ba, oa, none⟩) n0 g.xc] 26)).alloc (.cells #[.int .i64 0, .slice none 0 0] 26)).alloc (.cells #[.slice (some ⟨ba, oa, none⟩) K g.xc, .slice (some ⟨ba, oa + (K + 1) * 4, none⟩) (n0 - (K + 1)) (g.xc - (K + 1))] 24)).drew) (w.heap.size + 1 + 1) [⟨some ⟨ba, oa, none⟩, g.xc, g.x.take K⟩, ⟨(some ⟨ba, oa + (K + 1) * 4, none⟩), (g.xc - (K + 1)), g.x.drop (K + 1)⟩]) := by
      have hA : ((((w.alloc (.cells #[.int .i64 g.p, .slice (some ⟨ba, oa, none⟩) n0 g.xc] 26)).alloc (.cells #[.int .i64 0, .slice none 0 0] 26)).alloc (.cells #[.slice (some ⟨ba, oa, none⟩) K g.xc, .slice (some ⟨ba, oa + (K + 1) * 4, none⟩) (n0 - (K + 1)) (g.xc - (K + 1))] 24)).drew).heap[w.heap.size + 1 + 1]? = some (.cells #[.slice (some ⟨ba, oa, none⟩) K g.xc, .slice (some ⟨ba, oa + (K + 1) * 4, none⟩) (n0 - (K + 1)) (g.xc - (K + 1))] 24 (0, 0)) := box3_2 w _ _ _
      have hB : Below w.heap.size w ((((w.alloc (.cells #[.int .i64 g.p, .slice (some ⟨ba, oa, none⟩) n0 g.xc] 26)).alloc (.cells #[.int .i64 0, .slice none 0 0] 26)).alloc (.cells #[.slice (some ⟨ba, oa, none⟩) K g.xc, .slice (some ⟨ba, oa + (K + 1) * 4, none⟩) (n0 - (K + 1)) (g.xc - (K + 1))] 24)).drew) := by go_grown
      exact RdK.two (cell_of_row _ _ 0 _ _ _ hA) (cell_of_row _ _ 1 _ _ _ hA) ((H.out.front (by have := E0.out; omega)).later hB) (RdS.later (H.out.back _ (fun _ => rfl) (g.xc - (K + 1)) _ (by have := E0.out; omega)) hB)
    have L5 : (List.flatMap Sk.t [⟨some ⟨ba, oa, none⟩, g.xc, g.x.take K⟩, ⟨(some ⟨ba, oa + (K + 1) * 4, none⟩), (g.xc - (K + 1)), g.x.drop (K + 1)⟩]) = dropL g.x K := by simp [dropL]
    have l5 : Hid ((dropL g.x K).length = n0 - 1) := by show _ = _; have e := E0.out; rw [dropL_len (by omega)]; omega
    have C := Lib.hid (concatK_any (w.heap.size + 1 + 1) 2 2 _ ((((w.alloc (.cells #[.int .i64 g.p, .slice (some ⟨ba, oa, none⟩) n0 g.xc] 26)).alloc (.cells #[.int .i64 0, .slice none 0 0] 26)).alloc (.cells #[.slice (some ⟨ba, oa, none⟩) K g.xc, .slice (some ⟨ba, oa + (K + 1) * 4, none⟩) (n0 - (K + 1)) (g.xc - (K + 1))] 24)).drew) rfl (by omega) RK.out (by omega) (by
      have e := E0.out
      unfold sumK
      simp only [List.map_cons, List.map_nil, List.sum_cons, List.sum_nil, List.length_take, List.length_drop]; omega))
    rw [L5] at C
    clear L5
    have N3 : Hid (((((w.alloc (.cells #[.int .i64 g.p, .slice (some ⟨ba, oa, none⟩) n0 g.xc] 26)).alloc (.cells #[.int .i64 0, .slice none 0 0] 26)).alloc (.cells #[.slice (some ⟨ba, oa, none⟩) K g.xc, .slice (some ⟨ba, oa + (K + 1) * 4, none⟩) (n0 - (K + 1)) (g.xc - (K + 1))] 24)).drew).heap[w.heap.size]? = some (.cells #[.int .i64 g.p, .slice (some ⟨ba, oa, none⟩) n0 g.xc] 26 (0, 0))) := box3_0 w _ _ _
    have R3 : Hid (((((w.alloc (.cells #[.int .i64 g.p, .slice (some ⟨ba, oa, none⟩) n0 g.xc] 26)).alloc (.cells #[.int .i64 0, .slice none 0 0] 26)).alloc (.cells #[.slice (some ⟨ba, oa, none⟩) K g.xc, .slice (some ⟨ba, oa + (K + 1) * 4, none⟩) (n0 - (K + 1)) (g.xc - (K + 1))] 24)).drew).heap[w.heap.size + 1]? = some (.cells #[.int .i64 0, .slice none 0 0] 26 (0, 0))) := box3_1 w _ _ _
    have B3 : Hid (Below w.heap.size w ((((w.alloc (.cells #[.int .i64 g.p, .slice (some ⟨ba, oa, none⟩) n0 g.xc] 26)).alloc (.cells #[.int .i64 0, .slice none 0 0] 26)).alloc (.cells #[.slice (some ⟨ba, oa, none⟩) K g.xc, .slice (some ⟨ba, oa + (K + 1) * 4, none⟩) (n0 - (K + 1)) (g.xc - (K + 1))] 24)).drew)) := by show Below _ _ _; go_grown
    have z3 : w.heap.size + 3 ≤ ((((w.alloc (.cells #[.int .i64 g.p, .slice (some ⟨ba, oa, none⟩) n0 g.xc] 26)).alloc (.cells #[.int .i64 0, .slice none 0 0] 26)).alloc (.cells #[.slice (some ⟨ba, oa, none⟩) K g.xc, .slice (some ⟨ba, oa + (K + 1) * 4, none⟩) (n0 - (K + 1)) (g.xc - (K + 1))] 24)).drew).heap.size := by simp
    go_enter Tryd.func75, Tryd.ntmps75
    go_wp2_with fail
    go_region_law (go_simp; go_at_call 104; refine C.out.mono ?_; rintro e w5 ⟨u5, rfl, o5, b5⟩; obtain ⟨a5, c5, e5⟩ := o5.form; rw [l5.out] at e5; subst e5; have N5 := Lib.hid ((b5.block w.heap.size (by omega)).trans N3.out); have R5 := Lib.hid ((b5.block (w.heap.size + 1) (by omega)).trans R3.out); have B5 : Hid (Below w.heap.size w w5) := B3.out.trans (b5.mono (by omega)); have s5 := b5.size; have O5 := Lib.hid o5; obtain ⟨⟨g0, g1⟩, ⟨h0, h1⟩, -⟩ := boxedSv_at N5.out)
    all_goals
      have N6 : Hid ((w5.setCell ⟨w.heap.size, 1, none⟩ (.slice a5 (n0 - 1) c5)).heap[w.heap.size]? = some (.cells #[.int .i64 g.p, .slice a5 (n0 - 1) c5] 26 (0, 0))) := putSv_1 _ N5.out
      have R6 : Hid ((w5.setCell ⟨w.heap.size, 1, none⟩ (.slice a5 (n0 - 1) c5)).heap[w.heap.size + 1]? = some (.cells #[.int .i64 0, .slice none 0 0] 26 (0, 0))) := (Below.heap_setCell _ _ _ _ (by show w.heap.size + 1 ≠ w.heap.size; omega)).trans R5.out
      have B6 : Hid (Below w.heap.size w (w5.setCell ⟨w.heap.size, 1, none⟩ (.slice a5 (n0 - 1) c5))) := B5.out.setCell (p := ⟨w.heap.size, 1, none⟩) (Nat.le_refl _) _
      have e6 : (w5.setCell ⟨w.heap.size, 1, none⟩ (.slice a5 (n0 - 1) c5)).heap.size = w5.heap.size := by simp
      have O6 : Hid (OwnS 32 4 encSt (w5.setCell ⟨w.heap.size, 1, none⟩ (.slice a5 (n0 - 1) c5)) (w.heap.size + 2) (.slice a5 (n0 - 1) c5) (dropL g.x K)) :=
        (OwnS.mono O5.out (by omega)).of_block fun b hb => by
          have := (O5.out.lt b hb).1
          exact Below.heap_setCell _ _ _ _ (by show b ≠ w.heap.size; omega)
      have s6 : w.heap.size + 3 ≤ (w5.setCell ⟨w.heap.size, 1, none⟩ (.slice a5 (n0 - 1) c5)).heap.size := by omega
      clear N5 R5 B5 O5 o5 b5 s5 g0 g1 h0 h1 e6 C RK N3 R3 B3 z3
      generalize w5.setCell ⟨w.heap.size, 1, none⟩ (.slice a5 (n0 - 1) c5) = w6 at *
      obtain ⟨⟨g0, g1⟩, -, -⟩ := boxedSv_at N6.out
      obtain ⟨⟨d2, d3⟩, ⟨f0, f1⟩, lR⟩ := boxedSv_at R6.out
      obtain ⟨F, hu⟩ := und_survey
      have NE : Hid (((w6.setCell ⟨w.heap.size + 1, 0, none⟩ (.int .i64 g.p)).setCell ⟨w.heap.size + 1, 1, none⟩ (.slice a5 (n0 - 1) c5)).heap[w.heap.size + 1]? = some (.cells #[.int .i64 g.p, .slice a5 (n0 - 1) c5] 26 (0, 0))) := putSv_1 _ (putSv_0 _ R6.out)
      have BE : Hid (Below w.heap.size w ((w6.setCell ⟨w.heap.size + 1, 0, none⟩ (.int .i64 g.p)).setCell ⟨w.heap.size + 1, 1, none⟩ (.slice a5 (n0 - 1) c5))) := (B6.out.setCell (p := ⟨w.heap.size + 1, 0, none⟩) (by show w.heap.size ≤ w.heap.size + 1; omega) _).setCell (p := ⟨w.heap.size + 1, 1, none⟩) (by show w.heap.size ≤ w.heap.size + 1; omega) _
      have OE : Hid (OwnSv ((w6.setCell ⟨w.heap.size + 1, 0, none⟩ (.int .i64 g.p)).setCell ⟨w.heap.size + 1, 1, none⟩ (.slice a5 (n0 - 1) c5)) w.heap.size ((w6.setCell ⟨w.heap.size + 1, 0, none⟩ (.int .i64 g.p)).setCell ⟨w.heap.size + 1, 1, none⟩ (.slice a5 (n0 - 1) c5)).heap.size (n0 - 1) ⟨g.p, a5, c5, dropL g.x K⟩) := by
        have e : ((w6.setCell ⟨w.heap.size + 1, 0, none⟩ (.int .i64 g.p)).setCell ⟨w.heap.size + 1, 1, none⟩ (.slice a5 (n0 - 1) c5)).heap.size = w6.heap.size := by simp
        refine ⟨?_, ?_, Nat.le_refl _⟩
        · refine OwnS.mono (O6.out.of_block fun b hb => ?_) (show w.heap.size ≤ w.heap.size + 2 by omega)
          have := (O6.out.lt b hb).1
          rw [Below.heap_setCell _ _ _ _ (by show b ≠ w.heap.size + 1; omega), Below.heap_setCell _ _ _ _ (by show b ≠ w.heap.size + 1; omega)]
        · intro b hb
          rw [e]
          exact (O6.out.lt b hb).2
      clear O6 N6 R6 B6
      go_wp2
      refine bodyPost_ret (results_cell_row Tryd.results75 _ _ (w.heap.size + 1) 26 #[.int .i64 g.p, .slice a5 (n0 - 1) c5] (0, 0) (.struct F) rfl NE.out hu rfl infoV_survey) rfl ?_
      exact ⟨⟨g.p, a5, c5, dropL g.x K⟩, ⟨rfl, rfl⟩, rfl, OE.out, BE.out⟩
end Go.Proofs.YtcmocilojloolaaDoor
