/- Sights that no other ones check: both sides. -/
import Derived.Test.YthfmmlpbflfpaaaDoorConnI
import Derived.Test.YthfmmlpbflfpaaaDoorIsErr
import Derived.Test.YthfmmlpbflfpaaaDoorGoods
import Derived.Test.YthfmmlpbflfpaaaDoorDropM
import Derived.Deep.RegionHeld3
namespace Go.Proofs.YthfmmlpbflfpaaaDoor
open Go.ChangeShapes Go.WideShapes Go.ChangeAt Go.RowKit
set_option linter.unusedVariables false
set_option linter.unusedSimpArgs false

/-- A survey without one of its sights. -/
def dropSv (g : Sv) (K : Nat) : Sv := ⟨g.p, none, 0, dropL g.x K⟩
theorem dropSv_same {g k : Sv} (e : g.same k) (K : Nat) : (dropSv g K).same (dropSv k K) := by
  obtain ⟨e0, e1⟩ := e
  refine ⟨e0, ?_⟩
  show dropL g.x K = dropL k.x K
  rw [e1]
theorem dropSv_ok {g : Sv} (h : OkSv g) (K : Nat) (hK : K < g.x.length) : OkSv (dropSv g K) := by
  refine ⟨h.p0, ?_, fun x hx => h.x0 x ?_⟩
  · show (dropL g.x K).length ≤ 8
    rw [dropL_len hK]; have := h.n0; omega
  · have hx' : x ∈ g.x.take K ++ g.x.drop (K + 1) := hx
    rcases List.mem_append.1 hx' with h1 | h1
    · exact List.mem_of_mem_take h1
    · exact List.mem_of_mem_drop h1
/-- Which sights are not checked. -/
theorem uncP (g : Sv) : ∃ P : Int → Bool, ∀ k : Nat, P k = true ↔ ¬ Con (dropSv g k) := by
  classical
  exact ⟨fun k => decide (¬ Con (dropSv g k.toNat)), fun k => by simp⟩

set_option maxRecDepth 100000 in
set_option maxHeartbeats 8000000 in
theorem specUnc_any (g : Sv) (n0 : Nat) (w : World) (h : RdSv w n0 g) (l0 : n0 ≤ 1048576) (b : Bool) (hb : b = true ↔ Con g) (P : Int → Bool) (hP : ∀ k : Nat, P k = true ↔ ¬ Con (dropSv g k)) (ys : List Int) (hy : ys = if b = true then goodL 0 P n0 else []) :
    Calls Tryd.prog 24 #[(.agg #[.int .i64 g.p, .slice g.xa n0 g.xc])] w fun e w' => ∃ u, e = .returned (.tuple #[u, .bool b]) ∧ OwnIC w' w.heap.size w'.heap.size u ys ∧ Below w.heap.size w w' := by
  obtain ⟨i0, hi, hz0, hz1, hz2⟩ := info_parts info_i64
  have W1 : Hid ((w.alloc (.cells #[.int .i64 g.p, .slice g.xa n0 g.xc] 29)).heap[w.heap.size]? = some (.cells #[.int .i64 g.p, .slice g.xa n0 g.xc] 29 (0, 0))) := heap_alloc_new w _
  have W2 : Hid (Below w.heap.size w (w.alloc (.cells #[.int .i64 g.p, .slice g.xa n0 g.xc] 29))) := by show Below _ _ _; go_grown
  have W3 : (w.alloc (.cells #[.int .i64 g.p, .slice g.xa n0 g.xc] 29)).heap.size = w.heap.size + 1 := by simp
  have C := Lib.hid (l10Whole_any w.heap.size 29 g n0 (w.alloc (.cells #[.int .i64 g.p, .slice g.xa n0 g.xc] 29)) W1.out (h.later W2.out) l0 b hb)
  have H := Lib.hid h
  have HB := Lib.hid hb
  have HY := Lib.hid hy
  have HPP := Lib.hid hP
  clear h hb hy hP
  go_enter Tryd.func24, Tryd.ntmps24
  go_wp2_with fail
  refine C.out.mono ?_
  rintro e w2 ⟨rfl, b2⟩
  have B2 : Hid (Below w.heap.size w w2) := W2.out.trans (b2.mono (by omega))
  have V1 := Lib.hid ((b2.block w.heap.size (by omega)).trans W1.out)
  clear b2 W1 W2 W3 C
  cases b with
  | false =>
    obtain rfl : ys = [] := by rw [HY.out]; simp
    go_wp2
    go_returns
    exact ⟨_, rfl, ⟨World.ownsRow_nil _ _ _ _, fun k e => by simp [Value.ownBlock] at e, Nat.le_refl _⟩, B2.out⟩
  | true =>
    have hc := HB.out.mp (by trivial)
    have l8 : n0 ≤ 8 := by have := hc.1.n0; have := H.out.len; omega
    have E0 := Lib.hid H.out.len
    have CD : Hid (∀ (k : Nat) (wx : World), k < n0 → Below w.heap.size w wx → wx.heap[w.heap.size]? = some (.cells #[.int .i64 g.p, .slice g.xa n0 g.xc] 29 (0, 0)) →
      Calls Tryd.prog 40 #[.pointer (some ⟨w.heap.size, 0, none⟩), .int .i64 k] wx fun e w' => ∃ u : Sv, u.same (dropSv g k) ∧ e = .returned (.agg #[.int .i64 u.p, .slice u.xa (n0 - 1) u.xc]) ∧ OwnSv w' wx.heap.size w'.heap.size (n0 - 1) u ∧ Below wx.heap.size wx w') :=
      fun k wx hk bl hG => l10Drop_any w.heap.size 29 g n0 wx hG (H.out.later bl) l8 k hk
    have CW : Hid (∀ (k : Nat) (u : Sv) (wx : World) (G : Nat), u.same (dropSv g k) → RdSv wx (n0 - 1) u → wx.heap[G]? = some (.cells #[.int .i64 u.p, .slice u.xa (n0 - 1) u.xc] 29 (0, 0)) →
      Calls Tryd.prog 32 #[.pointer (some ⟨G, 0, none⟩)] wx fun e w' => e = .returned (.bool (!P k)) ∧ Below wx.heap.size wx w') :=
      fun k u wx G hs hr hG => l10Whole_any G 29 u (n0 - 1) wx hG hr (by omega) (!P k) (by
        rw [con_same hs]
        have := HPP.out k
        cases hp : P k <;> simp [hp] at this ⊢ <;> exact this)
    have hys : ys = goodL 0 P n0 := by rw [HY.out]; simp
    have HYS := Lib.hid hys
    clear hys hc HB HY HPP
    have lV : w.heap.size < w2.heap.size := (Array.getElem?_eq_some_iff.1 V1.out).1
    have S0 : Hid (OwnI (w2.alloc (.cells #[] 2)) w2.heap.size (.slice (some ⟨w2.heap.size, 0, none⟩) 0 0) (goodL 0 P 0)) := own_built w2 w2.heap.size [] rfl
    have B4 : Hid (Below w.heap.size w (w2.alloc (.cells #[] 2))) := B2.out.alloc (by omega) _
    have X4 : Hid (Below w2.heap.size w2 (w2.alloc (.cells #[] 2))) := by show Below _ _ _; go_grown
    go_upto_region 5 with (fail)
    obtain ⟨sb, hsb⟩ : ∃ sb, sb = w2.heap.size := ⟨_, rfl⟩
    have zsb : sb ≤ (w2.alloc (.cells #[] 2)).heap.size := by simp; omega
    have zsw : w.heap.size ≤ sb := by omega
    rw [← hsb] at S0 lV X4 ⊢
    generalize w2.alloc (.cells #[] 2) = w4 at *
    have GB0 : Hid (∀ w', Below sb w4 w' → w'.heap[w.heap.size]? = some (.cells #[.int .i64 g.p, .slice g.xa n0 g.xc] 29 (0, 0))) := fun w' bl => ((bl.block _ lV).trans (X4.out.block _ lV)).trans V1.out
    clear hsb V1 X4 B2
    go_wp2
    go_loopw [4, 5] (fun ov iv wr => ∃ (i m c1 : Nat) (ad : Option Addr), i ≤ n0 ∧ m ≤ i ∧ iv = .int .i64 i ∧ ov = .slice ad m c1 ∧ Hid (m = (goodL 0 P i).length) ∧ Hid (OwnI wr sb (.slice ad m c1) (goodL 0 P i)) ∧ Hid (Below w.heap.size w wr) ∧ Hid (Below sb w4 wr)) (fun _ iv _ => n0 - (intOf iv).toNat)
    case atStart => exact ⟨0, 0, 0, _, by omega, by omega, rfl, rfl, rfl, S0.out, B4.out, Below.refl _ _⟩
    case round =>
      obtain ⟨i, m, c1, ad, hi', mi, rfl, rfl, hm, ho, B, X⟩ := hrel
      clear S0 B4
      have hsz := X.out.size
      obtain ⟨⟨p0, p1⟩, -, -⟩ := boxedSv_at (GB0.out wr X.out)
      by_cases hlt : i < n0
      · go_wp2_with fail
        refine (CD.out i wr hlt B.out (GB0.out wr X.out)).mono ?_
        rintro e w5 ⟨u, hsame, rfl, ou, b5⟩
        have z5 := b5.size
        have R5 : Hid (RdSv (w5.alloc (.cells #[.int .i64 u.p, .slice u.xa (n0 - 1) u.xc] 29)) (n0 - 1) u) := ou.rd.later (by show Below w5.heap.size _ _; go_grown)
        have X5 : Hid (Below wr.heap.size wr (w5.alloc (.cells #[.int .i64 u.p, .slice u.xa (n0 - 1) u.xc] 29))) := b5.alloc (by omega) _
        have CWW := Lib.hid (CW.out i u (w5.alloc (.cells #[.int .i64 u.p, .slice u.xa (n0 - 1) u.xc] 29)) w5.heap.size hsame R5.out (heap_alloc_new _ _))
        have z6 : w5.heap.size ≤ (w5.alloc (.cells #[.int .i64 u.p, .slice u.xa (n0 - 1) u.xc] 29)).heap.size := by simp
        clear ou b5 R5 p0 p1
        go_wp2_with fail
        refine CWW.out.mono ?_
        rintro e w7 ⟨rfl, b7⟩
        have X7 : Hid (Below wr.heap.size wr w7) := X5.out.trans (b7.mono (by omega))
        clear b7 X5 CWW z6
        have O7 : Hid (OwnI w7 sb (.slice ad m c1) (goodL 0 P i)) := ho.out.below X7.out fun j e => (ho.out.lt j e).2
        have B7 : Hid (Below w.heap.size w w7) := B.out.trans (X7.out.mono B.out.size)
        have XX7 : Hid (Below sb w4 w7) := X.out.trans (X7.out.mono (by omega))
        clear ho B X X7 hsame
        have z7 := XX7.out.size
        cases hp : P i with
        | false =>
          have GS : goodL 0 P (i + 1) = goodL 0 P i := by rw [goodL_succ, Int.zero_add, hp]; rfl
          have M8 : Hid (m = (goodL 0 P (i + 1)).length) := by show _ = _; rw [GS]; exact hm.out
          have O8 : Hid (OwnI w7 sb (.slice ad m c1) (goodL 0 P (i + 1))) := by show OwnI _ _ _ _; rw [GS]; exact O7.out
          clear GS O7 hm
          go_wp2
          exact ⟨⟨i + 1, m, c1, _, by omega, by omega, by go_num, rfl, M8, O8, B7, XX7⟩, by simp only [intOf]; omega⟩
        | true =>
          have GS : Hid (goodL 0 P (i + 1) = goodL 0 P i ++ [(i : Int)]) := by show _ = _; rw [goodL_succ, Int.zero_add, hp]; rfl
          have own := O7.out
          unfold OwnI at own
          rw [← hm.out] at own
          have OWN := Lib.hid own
          clear own hp
          go_wp2_with (at_builtin; refine wpList_append_lies _ rfl _ _ _ rfl sb 2 i0 _ 1 8 Tryd.underlying33 hi hz0 hz1 hz2 rfl (by omega) _ _ _ rfl (OWN.out.alloc _) ⟨w7.heap.size, 0, none⟩ 1 1 [.int .i64 (i : Int)] rfl rfl (World.news_of_block (cs := #[.int .i64 (i : Int)]) (t := 2) (fr := (0, 0)) (heap_alloc_new w7 _)) (by simp [Value.oneCell']) (by omega) (by unfold maxLen; omega) (by omega) (by simp only [World.size_alloc]; omega) _ rfl ?_)
          intro gg cap1 w8 hown1 hgrow hat hlt'
          have M8 : Hid (m + 1 = (goodL 0 P (i + 1)).length) := by show _ = _; rw [GS.out, List.length_append, ← hm.out]; rfl
          have O8 : Hid (OwnI w8 sb (.slice (some ⟨gg, 0, none⟩) (m + 1) cap1) (goodL 0 P (i + 1))) := by
            show OwnI _ _ _ _
            unfold OwnI
            rw [GS.out, List.length_append, ← hm.out, List.map_append]
            exact hown1
          have gb := grownBy_trans' (World.grownBy_alloc w7 _ _) hgrow
          have X8 : Hid (Below sb w4 w8) := XX7.out.grown gb (by omega) (fun j e => (OWN.out.lt j e).1)
          have B8 : Hid (Below w.heap.size w w8) := B7.out.grown gb (by have := B7.out.size; omega) (fun j e => by have := (OWN.out.lt j e).1; omega)
          clear hown1 hgrow hat hlt' gb OWN O7 B7 XX7 hm GS
          go_wp2
          exact ⟨⟨i + 1, m + 1, cap1, _, by omega, by omega, by go_num, rfl, M8, O8, B8, X8⟩, by simp only [intOf]; omega⟩
      · obtain rfl : i = n0 := by omega
        clear hm
        have O7 := ho
        clear ho
        go_wp2
        go_returns
        refine ⟨_, rfl, ?_, B.out⟩
        rw [HYS.out]
        exact (OwnIC.of O7.out).mono zsw
end Go.Proofs.YthfmmlpbflfpaaaDoor
