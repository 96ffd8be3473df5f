/- The specification's solution of normal equations. (Written by tools/mksols.py.) -/
import Derived.Test.YtcmocilojloolaaDoorSolM
import Derived.Test.YtcmocilojloolaaDoorPushR
import Derived.Test.YtcmocilojloolaaDoorAppI
import Derived.Deep.OwnRows
import Derived.Deep.RegionLaw
namespace Go.Proofs.YtcmocilojloolaaDoor
open Go.ChangeShapes Go.WideShapes Go.ChangeAt Go.RowKit
set_option linter.unusedVariables false
set_option linter.unusedSimpArgs false

theorem made_own {w : World} {N n B : Nat} (h : w.heap[N]? = some (.cells (madeCells #[.int .i64 0] n) 2 (0, 0))) (hB : B ≤ N) (hn : n ≤ 1000) : w.ownsRow B 2 1 (.slice (some ⟨N, 0, none⟩) n n) n (List.replicate n (.int .i64 0)) := by
  have e : (madeCells #[.int .i64 0] n).toList = List.replicate n (.int .i64 0) := toList_madeCells_one (.int .i64 0) n
  have e2 : (madeCells #[.int .i64 0] n).size = n := by rw [← Array.length_toList, e, List.length_replicate]
  exact ⟨by simp, .inr ⟨N, n, _, rfl, hB, h, Nat.le_refl _, by unfold maxLen; omega, by rw [e2, Nat.mul_one], by rw [e, Nat.mul_one]; exact List.take_of_length_le (by simp)⟩⟩
theorem ownSS_built (w : World) : OwnSS (w.alloc (.cells #[] 28)) w.heap.size (w.alloc (.cells #[] 28)).heap.size (.slice (some ⟨w.heap.size, 0, none⟩) 0 0) [] :=
  ⟨⟨rfl, .inr ⟨w.heap.size, 0, #[], rfl, Nat.le_refl _, heap_alloc_new w _, Nat.le_refl _, by unfold maxLen; omega, rfl, rfl⟩⟩, fun k e => by simp [Value.ownBlock] at e; simp; omega, fun x hx => by simp at hx, fun x hx => by simp at hx, fun i j x y k h => by simp at h, Nat.le_refl _⟩
theorem mat_succ (k m : Nat) (f : Nat → Nat → Int) : mat (k + 1) m f = mat k m f ++ [(List.range m).map (f k)] := by
  unfold mat; rw [List.range_succ, List.map_append]; rfl
/-- The rows of the equations ahead of the sights. -/
def eq0 (n : Nat) (b : List Int) (i j : Nat) : Int := if j < n then 0 else b.getD (i + 1) 0
theorem eq0_row (n : Nat) (b : List Int) (k : Nat) : (List.range (n + 1)).map (eq0 n b k) = List.replicate n 0 ++ [b.getD (k + 1) 0] := by
  rw [List.range_succ, List.map_append]
  congr 1
  · refine List.ext_getElem? fun j => ?_
    by_cases hj : j < n
    · rw [rowf_get hj, List.getElem?_replicate, if_pos hj]; simp [eq0, hj]
    · rw [List.getElem?_eq_none (by simp; omega), List.getElem?_eq_none (by simp; omega)]
  · simp [eq0]
/-- The equations behind some sights. -/
def eqK (n : Nat) (xs : List St) (b : List Int) (k : Nat) (i j : Nat) : Int := eqF n (xs.take k) b i j
theorem eqK_zero (n : Nat) (xs : List St) (b : List Int) : eqK n xs b 0 = eq0 n b := by
  funext i j
  simp [eqK, eqF, eq0, lapE]
theorem eqK_succ {n : Nat} {xs : List St} {b : List Int} {k : Nat} {x : St} (h : xs[k]? = some x) (i j : Nat) : eqK n xs b (k + 1) i j = if j < n then eqK n xs b k i j + lapC x ((i : Int) + 1) ((j : Int) + 1) else eqK n xs b k i j := by
  unfold eqK eqF
  split
  · rw [lapE_take h]
  · rfl

theorem eq_both {n F T : Nat} {E : Nat → Nat → Int} {x : St} (hf : x.f = ((F + 1 : Nat) : Int)) (ht : x.t = ((T + 1 : Nat) : Int)) (hne : F ≠ T) (Fn : F < n) (Tn : T < n) (i j : Nat) :
    upd (upd (upd (upd E F F (E F F + x.v)) T T (E T T + x.v)) F T (E F T - x.v)) T F (E T F - x.v) i j = if j < n then E i j + lapC x ((i : Int) + 1) ((j : Int) + 1) else E i j := by
  unfold upd lapC
  rw [hf, ht]
  by_cases hj : j < n
  · rw [if_pos hj]
    by_cases a1 : i = F <;> by_cases a2 : i = T <;> by_cases b1 : j = F <;> by_cases b2 : j = T <;> simp_all <;> omega
  · have b1 : j ≠ F := by omega
    have b2 : j ≠ T := by omega
    rw [if_neg hj]
    simp [b1, b2]
theorem eq_F {n F : Nat} {E : Nat → Nat → Int} {x : St} (hf : x.f = ((F + 1 : Nat) : Int)) (ht : x.t = 0) (Fn : F < n) (i j : Nat) :
    upd E F F (E F F + x.v) i j = if j < n then E i j + lapC x ((i : Int) + 1) ((j : Int) + 1) else E i j := by
  unfold upd lapC
  rw [hf, ht]
  by_cases hj : j < n
  · rw [if_pos hj]
    by_cases a1 : i = F <;> by_cases b1 : j = F <;> simp_all <;> omega
  · have b1 : j ≠ F := by omega
    rw [if_neg hj]
    simp [b1]
theorem eq_T {n T : Nat} {E : Nat → Nat → Int} {x : St} (hf : x.f = 0) (ht : x.t = ((T + 1 : Nat) : Int)) (Tn : T < n) (i j : Nat) :
    upd E T T (E T T + x.v) i j = if j < n then E i j + lapC x ((i : Int) + 1) ((j : Int) + 1) else E i j := by
  unfold upd lapC
  rw [hf, ht]
  by_cases hj : j < n
  · rw [if_pos hj]
    by_cases a1 : i = T <;> by_cases b1 : j = T <;> simp_all <;> omega
  · have b1 : j ≠ T := by omega
    rw [if_neg hj]
    simp [b1]
theorem OwnSS.atBlock {w : World} {B C k c : Nat} {ad : Option Addr} {ys : List Sl} (h : OwnSS w B C (.slice ad k c) ys) (hk : k = ys.length) (h0 : 0 < k) : ∃ g, ad = some ⟨g, 0, none⟩ := by
  have hr := ownSS_lenR hk h
  obtain ⟨-, h2 | ⟨g, cap, cur, hv, -⟩⟩ := hr
  · omega
  · simp only [Value.slice.injEq] at hv
    exact ⟨g, hv.1⟩

set_option maxRecDepth 100000 in
set_option maxHeartbeats 32000000 in
theorem l10Solve_any (G : Nat) (ty : TypeId) (m n n0 xc : Nat) (xa : Option Addr) (xs : List St) (va : Option Addr) (vc : Nat) (b : List Int) (w : World) (hmn : m = n + 1) (hG : w.heap[G]? = some (.cells #[.int .i64 m, .slice xa n0 xc] ty (0, 0))) (hr : RdS 4 encSt w (.slice xa n0 xc) xs) (e0 : n0 = xs.length) (l8 : n0 ≤ 8) (ok : ∀ x ∈ xs, OkSt m x) (hc : trAll (trTo m xs xs.length) = true) (hn : 1 ≤ n ∧ n ≤ 4) (hv : RdI w (.slice va m vc) b) (hl : b.length = m) (hb : ∀ y ∈ b, Bd 2400 y) :
    Calls Tryd.prog 86 #[.pointer (some ⟨G, 0, none⟩), .slice va m vc] w fun e w' => ∃ u, e = .returned (.tuple #[u, .int .i64 (det m (rowsP n xs))]) ∧ OwnI w' w.heap.size u (solL m (rowsP n xs) b) ∧ Below w.heap.size w w' := by
  obtain ⟨i0, hi, hz0, hz1, hz2⟩ := info_parts info_i64
  obtain ⟨j0, hj, hy0, hy1, hy2⟩ := info_parts info_SlS
  have EB : Hid (∀ c, c ≤ n → (∀ i j, i < n → j < n + 1 → Bd 1000000000 ((elimS (eqF n xs b) c).1 i j)) ∧ 0 < (elimS (eqF n xs b) c).2 ∧ Bd 1000000000 (elimS (eqF n xs b) c).2) := by
    subst hmn
    exact elimS_bd hn.2 hn.1 ok (by omega) hc hl hb
  have ES : Hid (solL m (rowsP n xs) b = 0 :: (List.range n).map (fun k => (elimS (eqF n xs b) n).1 k n) ∧ det m (rowsP n xs) = (elimS (eqF n xs b) n).2) := by
    subst hmn
    exact elimS_sol hn.2 hn.1 ok hc hl
  have LB : Hid (∀ k i j, Bd 24 (lapE (xs.take k) i j)) := fun k i j => lapE_bd (fun y hy => ok y (List.mem_of_mem_take hy)) (by rw [List.length_take]; omega) i j
  have lG : G < w.heap.size := (Array.getElem?_eq_some_iff.1 hG).1
  have H := Lib.hid hr
  have E0 := Lib.hid e0
  have OK := Lib.hid ok
  have HG := Lib.hid hG
  have HV := Lib.hid hv
  have BL := Lib.hid hl
  have HM := Lib.hid hmn
  have qm : IntKind.i64.wrap ((m : Int) - 1) = (n : Int) := by rw [IntWalk.i64_in _ (by omega)]; omega
  have MK := Lib.hid (fun w => run_make_row' (P := Tryd.prog) 28 2 (.int .i64 0) 8 Tryd.underlying28 info_i64 rfl .i64 .i64 n (by omega) (by omega) w)
  obtain ⟨S, hS⟩ : ∃ S, S = solL m (rowsP n xs) b := ⟨_, rfl⟩
  obtain ⟨D, hD⟩ : ∃ D, D = det m (rowsP n xs) := ⟨_, rfl⟩
  rw [← hS, ← hD] at ES
  rw [← hS, ← hD]
  obtain ⟨⟨p0, p1⟩, -, -⟩ := boxedSv_at hG
  clear hr e0 ok hG hv hl hb hc hmn hS hD
  go_enter Tryd.func86, Tryd.ntmps86
  go_wp2
  go_loopw [7, 8] (fun rv iv wr => ∃ (k c1 : Nat) (ad : Option Addr) (ys : List Sl), k ≤ n ∧ iv = .int .i64 k ∧ rv = .slice ad k c1 ∧ Hid (ys.map Sl.t = mat k (n + 1) (eq0 n b)) ∧ Hid (k = ys.length) ∧ Hid (OwnSS wr w.heap.size wr.heap.size (.slice ad k c1) ys) ∧ Hid (Below w.heap.size w wr)) (fun _ iv _ => n - (intOf iv).toNat)
  case atStart => exact ⟨0, 0, _, [], by omega, rfl, rfl, rfl, rfl, ownSS_built w, by show Below _ _ _; go_grown⟩
  case round =>
    obtain ⟨k, c1, ad, ys, hk, rfl, rfl, hyt, hyl, ho, B⟩ := hrel
    clear p0 p1
    by_cases hlt : k < n
    · obtain ⟨x, hx⟩ : ∃ x, b[k + 1]? = some x := ⟨_, List.getElem?_eq_getElem (by have := BL.out; have := HM.out; omega)⟩
      obtain ⟨bv, ov, rfl, c2⟩ := (HV.out.later B.out).atV (k + 1) x hx
      have q1 : IntKind.i64.wrap ((k : Int) + 1) = ((k + 1 : Nat) : Int) := by rw [IntWalk.i64_in _ (by omega)]; push_cast; rfl
      have i1 : (k : Int) + 1 < (m : Int) := by have := HM.out; omega
      have i2 : k + 1 < m := by have := HM.out; omega
      have i3 : (0 : Int) ≤ (k : Int) + 1 := by omega
      have RX : Hid ((List.range (n + 1)).map (eq0 n b k) = List.replicate n 0 ++ [x]) := by show _ = _; rw [eq0_row]; simp [List.getD, hx]
      have sz := B.out.size
      have c3 : (wr.alloc (.cells (madeCells #[.int .i64 0] n) 2)).cell? ⟨bv, ov + (k + 1), none⟩ = some (.int .i64 x) := ((show Below wr.heap.size wr (wr.alloc (.cells (madeCells #[.int .i64 0] n) 2)) by go_grown).cell (p := ⟨bv, ov + (k + 1), none⟩) (World.block_lt_of_cell? wr _ c2)).trans c2
      have hA0 : Hid (((wr.alloc (.cells (madeCells #[.int .i64 0] n) 2)).alloc (.cells #[.int .i64 x] 2)).drew.heap[wr.heap.size]? = some (.cells (madeCells #[.int .i64 0] n) 2 (0, 0))) := box2_0 wr _ _
      have hA1 : Hid (((wr.alloc (.cells (madeCells #[.int .i64 0] n) 2)).alloc (.cells #[.int .i64 x] 2)).drew.heap[wr.heap.size + 1]? = some (.cells #[.int .i64 x] 2 (0, 0))) := box2_1 wr _ _
      have hA2 : Hid (Below wr.heap.size wr ((wr.alloc (.cells (madeCells #[.int .i64 0] n) 2)).alloc (.cells #[.int .i64 x] 2)).drew) := by show Below _ _ _; go_grown
      have hB0 : Hid (((wr.alloc (.cells #[.int .i64 x] 2)).alloc (.cells (madeCells #[.int .i64 0] n) 2)).drew.heap[wr.heap.size]? = some (.cells #[.int .i64 x] 2 (0, 0))) := box2_0 wr _ _
      have hB1 : Hid (((wr.alloc (.cells #[.int .i64 x] 2)).alloc (.cells (madeCells #[.int .i64 0] n) 2)).drew.heap[wr.heap.size + 1]? = some (.cells (madeCells #[.int .i64 0] n) 2 (0, 0))) := box2_1 wr _ _
      have hB2 : Hid (Below wr.heap.size wr ((wr.alloc (.cells #[.int .i64 x] 2)).alloc (.cells (madeCells #[.int .i64 0] n) 2)).drew) := by show Below _ _ _; go_grown
      have MK1 := MK.out wr.drew
      have MK2 := MK.out (wr.alloc (.cells #[.int .i64 x] 2)).drew
      have ownA := Lib.hid (made_own (B := wr.heap.size) hA0.out (Nat.le_refl _) (by omega))
      have ownB := Lib.hid (made_own (B := wr.heap.size) hB1.out (by omega) (by omega))
      simp only [World.size_drew, World.size_alloc] at MK1 MK2
      obtain ⟨ad0, hd0⟩ : ∃ a : Option Addr, a = some ⟨wr.heap.size, 0, none⟩ := ⟨_, rfl⟩
      obtain ⟨ad1, hd1⟩ : ∃ a : Option Addr, a = some ⟨wr.heap.size + 1, 0, none⟩ := ⟨_, rfl⟩
      rw [← hd0] at MK1 ownA
      rw [← hd1] at MK2 ownB
      have lgA := ownA.out.lt
      have lgB := ownB.out.lt
      clear hd0 hd1
      have newsA := Lib.hid (World.news_of_block (cs := #[.int .i64 x]) (t := 2) (fr := (0, 0)) hA1.out)
      have newsB := Lib.hid (World.news_of_block (cs := #[.int .i64 x]) (t := 2) (fr := (0, 0)) hB0.out)
      clear hx hA0 hA1 hB0 hB1
      go_wp2_with fail
      go_region_law (first
        | (refine step_append_lies _ (by rfl) _ _ _ (by rfl) wr.heap.size 2 i0 _ 1 8 Tryd.underlying28 hi hz0 hz1 hz2 rfl (by omega) _ _ _ (by rfl) ownA.out ⟨wr.heap.size + 1, 0, none⟩ 1 1 [.int .i64 x] (by rfl) (by rfl) newsA.out (by simp [Value.oneCell']) (by omega) (by unfold maxLen; omega) (by omega) hA2.out.size (wr.heap.size + 1 + 1) (by simp) ?_; intro gg cap1 w5 hown1 hgrow hat hlt'; have D5 : Hid (Below wr.heap.size wr w5) := hA2.out.grown hgrow hA2.out.size (fun j e => (lgA j e).1); have SS5 := Lib.hid (ho.out.later D5.out); have own5 := Lib.hid (ownSS_lenR hyl.out SS5.out); have lg5 := own5.out.lt; have s5 := D5.out.size)
        | (refine step_append_lies _ (by rfl) _ _ _ (by rfl) wr.heap.size 2 i0 _ 1 8 Tryd.underlying28 hi hz0 hz1 hz2 rfl (by omega) _ _ _ (by rfl) ownB.out ⟨wr.heap.size, 0, none⟩ 1 1 [.int .i64 x] (by rfl) (by rfl) newsB.out (by simp [Value.oneCell']) (by omega) (by unfold maxLen; omega) (by omega) hB2.out.size (wr.heap.size + 1 + 1) (by simp) ?_; intro gg cap1 w5 hown1 hgrow hat hlt'; have D5 : Hid (Below wr.heap.size wr w5) := hB2.out.grown hgrow hB2.out.size (fun j e => (lgB j e).1); have SS5 := Lib.hid (ho.out.later D5.out); have own5 := Lib.hid (ownSS_lenR hyl.out SS5.out); have lg5 := own5.out.lt; have s5 := D5.out.size)
        | (refine step_append_lies _ (by rfl) _ _ _ (by rfl) w.heap.size 28 j0 _ 1 24 Tryd.underlying60 hj hy0 hy1 hy2 rfl (by omega) _ _ _ (by rfl) (own5.out.alloc _) ⟨w5.heap.size, 0, none⟩ 1 1 [.slice (some ⟨gg, 0, none⟩) (n + 1) cap1] (by rfl) (by rfl) (World.news_of_block (cs := #[.slice (some ⟨gg, 0, none⟩) (n + 1) cap1]) (t := 28) (fr := (0, 0)) (heap_alloc_new w5 _)) (by simp [Value.oneCell']) (by omega) (by unfold maxLen; omega) (by omega) (by simp; omega) (w5.heap.size + 1) (by simp) ?_; intro g2 cap2 w6 hown2 hgrow2 hat2 hlt2; have gb := grownBy_trans' (World.grownBy_alloc w5 _ _) hgrow2))

      all_goals
        have hrow2 : w6.ownsRow w.heap.size 28 1 (.slice (some ⟨g2, 0, none⟩) (k + 1) cap2) (k + 1) (ys.flatMap encSl ++ encSl ⟨some ⟨gg, 0, none⟩, cap1, List.replicate n 0 ++ [x]⟩) := by
          show w6.ownsRow _ _ _ _ _ (_ ++ [.slice (some ⟨gg, 0, none⟩) (List.replicate n 0 ++ [x]).length cap1])
          rw [List.length_append, List.length_replicate]
          exact hown2
        have O5 : OwnI w5 wr.heap.size (.slice (some ⟨gg, 0, none⟩) (List.replicate n 0 ++ [x]).length cap1) (List.replicate n 0 ++ [x]) := by
          unfold OwnI
          rw [List.length_append, List.length_replicate, List.map_append, List.map_replicate]
          exact hown1
        have O6 : Hid (OwnSS w6 w.heap.size w6.heap.size (.slice (some ⟨g2, 0, none⟩) (k + 1) cap2) (ys ++ [⟨some ⟨gg, 0, none⟩, cap1, List.replicate n 0 ++ [x]⟩])) := SS5.out.pushRowR (by omega) (OwnI.mono O5 sz) (fun q hq => (O5.lt q hq).1) hrow2 hyl.out hgrow2
        have B6 : Hid (Below w.heap.size w w6) := (B.out.trans (D5.out.mono sz)).grown gb (by omega) (fun j e => (lg5 j e).1)
        have X6 : Hid ((ys ++ [(⟨some ⟨gg, 0, none⟩, cap1, List.replicate n 0 ++ [x]⟩ : Sl)]).map Sl.t = mat (k + 1) (n + 1) (eq0 n b)) := by show _ = _; rw [mat_succ, RX.out, List.map_append, hyt.out]; rfl
        have N6 : Hid (k + 1 = (ys ++ [(⟨some ⟨gg, 0, none⟩, cap1, List.replicate n 0 ++ [x]⟩ : Sl)]).length) := by show _ = _; rw [List.length_append, ← hyl.out]; rfl
        clear hown1 hown2 hgrow hgrow2 hat hat2 hlt' hlt2 gb lg5 own5 O5 SS5 D5 hyt hyl ho B RX hrow2 c2 c3 MK1 MK2 ownA ownB newsA newsB lgA lgB hA2 hB2
        go_wp2
        exact ⟨⟨k + 1, cap2, _, _, by omega, by go_num, rfl, X6, N6, O6, B6⟩, by simp only [intOf]; omega⟩
    · obtain rfl : k = n := by omega
      obtain ⟨g, rfl⟩ := ho.out.atBlock hyl.out (by omega)
      obtain ⟨bs, cs, hMg⟩ := Mg.of_own ho.out hyl.out.symm (by omega : 0 < k + 1) hyt.out
      rw [← eqK_zero k xs b] at hMg
      have M0 := Lib.hid hMg
      obtain ⟨⟨p0, p1⟩, -, -⟩ := boxedSv_at ((B.out.block G lG).trans HG.out)
      clear hMg ho hyt hyl MK
      go_wp2
      go_loopw [9, 10, 11, 12] (fun iv _ _ _ wr => ∃ j : Nat, j ≤ n0 ∧ iv = .int .i64 j ∧ Hid (Mg wr w.heap.size g bs cs k (k + 1) (eqK k xs b j)) ∧ Hid (Below w.heap.size w wr)) (fun iv _ _ _ _ => n0 - (intOf iv).toNat)
      case atStart => exact ⟨0, by omega, rfl, M0, B⟩
      case round =>
        obtain ⟨j, hj, rfl, mg, B2⟩ := hrel
        clear M0 B p0 p1
        obtain ⟨⟨p0, p1⟩, -, -⟩ := boxedSv_at ((B2.out.block G lG).trans HG.out)
        by_cases hlt2 : j < n0
        · obtain ⟨x, hx⟩ : ∃ x, xs[j]? = some x := ⟨_, List.getElem?_eq_getElem (by have := E0.out; omega)⟩
          have okx := OK.out x (List.mem_of_getElem? hx)
          obtain ⟨ba, oa, ea, u0, u1, u2, u3⟩ := (H.out.later B2.out).at4g j x hx _ _ _ _ rfl
          rw [ea] at p1
          have LT : Hid (∀ i j', eqK k xs b (j + 1) i j' = if j' < k then eqK k xs b j i j' + lapC x ((i : Int) + 1) ((j' : Int) + 1) else eqK k xs b j i j') := fun i j' => eqK_succ hx i j'
          have LE : Hid (∀ i j', j' < k → Bd 24 (eqK k xs b j i j')) := fun i j' h => by unfold eqK eqF; rw [if_pos h]; exact LB.out j _ _
          obtain ⟨f, t, r, v⟩ := x
          obtain ⟨F, hf⟩ : ∃ F : Nat, f = F := ⟨f.toNat, by have := okx.f0; simp only at this; omega⟩
          obtain ⟨T, ht⟩ : ∃ T : Nat, t = T := ⟨t.toNat, by have := okx.t0; simp only at this; omega⟩
          subst hf
          subst ht
          have Fn : F < k + 1 := by have h := okx.f1; have h2 := HM.out; simp only at h; omega
          have Tn : T < k + 1 := by have h := okx.t1; have h2 := HM.out; simp only at h; omega
          have ne : F ≠ T := by have := okx.ne; simp only at this; omega
          have v0 : 1 ≤ v := okx.v0
          have v1 : v ≤ 3 := okx.v1
          simp only at u0 u1 u2 u3
          have NS0 : Hid ((wr.alloc (.cells #[.int .i64 F, .int .i64 T, .int .i64 r, .int .i64 v] 32)).heap[wr.heap.size]? = some (.cells #[.int .i64 F, .int .i64 T, .int .i64 r, .int .i64 v] 32 (0, 0))) := heap_alloc_new wr _
          have AB : Below wr.heap.size wr (wr.alloc (.cells #[.int .i64 F, .int .i64 T, .int .i64 r, .int .i64 v] 32)) := by go_grown
          have M1 := Lib.hid (mg.out.later AB)
          have BLT : Hid (∀ bb ∈ bs, bb < wr.heap.size) := fun bb hb => (mg.out.rg.2.2 bb hb).2
          have B3 : Hid (Below w.heap.size w (wr.alloc (.cells #[.int .i64 F, .int .i64 T, .int .i64 r, .int .i64 v] 32))) := B2.out.trans (AB.mono B2.out.size)
          obtain ⟨E, hE⟩ : ∃ E, E = eqK k xs b j := ⟨_, rfl⟩
          rw [← hE] at LT LE M1
          clear hx okx AB mg B2 hE
          go_upto_region 11 with (fail)
          generalize wr.alloc (.cells #[.int .i64 F, .int .i64 T, .int .i64 r, .int .i64 v] 32) = wa at *
          obtain ⟨⟨s0, s1, s2, s3⟩, -, ls⟩ := boxSt_at (q := ⟨F, T, r, v⟩) NS0.out
          simp only at s0 s1 s2 s3
          by_cases F0 : F = 0
          · subst F0
            obtain ⟨T', rfl⟩ : ∃ T', T = T' + 1 := ⟨T - 1, by omega⟩
            have qf : IntKind.i64.wrap ((0 : Int) - 1) = -1 := rfl
            have qt : IntKind.i64.wrap (((T' + 1 : Nat) : Int) - 1) = (T' : Int) := by rw [IntWalk.i64_in _ (by omega)]; omega
            have qt2 : IntKind.i64.wrap ((T' : Int) + 1 - 1) = (T' : Int) := by rw [IntWalk.i64_in _ (by omega)]; omega
            have gt : (0 : Int) ≤ (T' : Int) := by omega
            obtain ⟨E1, hE1⟩ : ∃ G, G = upd E T' T' (E T' T' + v) := ⟨_, rfl⟩
            have EF : Hid (∀ i j', E1 i j' = eqK k xs b (j + 1) i j') := by
              intro i j'
              rw [LT.out, hE1]
              exact eq_T (x := ⟨((0 : Nat) : Int), ((T' + 1 : Nat) : Int), r, v⟩) rfl rfl (by omega) i j'
            have HE1 := Lib.hid hE1
            clear hE1 LT ne H OK LB EB ES E0
            go_upto_if 67 with (fail)
            clear s0 s1 s2 s3 u0 u1 u2 u3 ls qf qt qt2
            go_upto_if 80 with (fail)
            go_cut [] (fun wx => Hid (Mg wx w.heap.size g bs cs k (k + 1) E1) ∧ Hid (wx.heap[wr.heap.size]? = some (.cells #[.int .i64 ((0 : Nat) : Int), .int .i64 ((T' + 1 : Nat) : Int), .int .i64 r, .int .i64 v] 32 (0, 0))) ∧ Hid (Below w.heap.size w wx))
            case first =>
              obtain ⟨⟨s0, s1, s2, s3⟩, -, ls⟩ := boxSt_at (q := ⟨((0 : Nat) : Int), ((T' + 1 : Nat) : Int), r, v⟩) NS0.out
              simp only at s0 s1 s2 s3
              obtain ⟨bb, eb, h1, h2, h3, h4, hs⟩ := M1.out.atf (i := T') (j := T') (by omega) (by omega)
              have l1 := LE.out T' T' (by omega)
              unfold Bd at l1
              have q1 : IntKind.i64.wrap (E T' T' + v) = E T' T' + v := IntWalk.i64_in _ (by omega)
              have bne : bb ≠ wr.heap.size := by have := BLT.out bb (List.mem_of_getElem? eb); omega
              have MN : Hid (Mg (wa.setCell ⟨bb, T', none⟩ (.int .i64 (E T' T' + v))).drew w.heap.size g bs cs k (k + 1) E1) := by show Mg _ _ _ _ _ _ _ _; rw [HE1.out]; exact (hs _).drew
              have BN : Hid (Below w.heap.size w (wa.setCell ⟨bb, T', none⟩ (.int .i64 (E T' T' + v))).drew) := (B3.out.setCell (p := ⟨bb, T', none⟩) h4.1 _).drew
              have NN : Hid ((wa.setCell ⟨bb, T', none⟩ (.int .i64 (E T' T' + v))).drew.heap[wr.heap.size]? = some (.cells #[.int .i64 ((0 : Nat) : Int), .int .i64 ((T' + 1 : Nat) : Int), .int .i64 r, .int .i64 v] 32 (0, 0))) := (Below.heap_setCell _ _ _ _ (fun e => bne e.symm)).trans NS0.out
              clear l1 hs eb bne M1 B3 NS0
              go_wp2_with fail
              go_region
              go_wp2_with fail
              go_meet
              exact ⟨MN, NN, BN⟩
            case rest =>
              clear M1 B3 NS0
              obtain ⟨w5, hwc⟩ : ∃ x, x = wc := ⟨_, rfl⟩
              rw [← hwc] at hcut ⊢; clear hwc
              obtain ⟨M2, NS1, B4⟩ := hcut
              have MF := Lib.hid (M2.out.congr (fun i j' _ _ => EF.out i j'))
              have BF := B4
              clear M2 B4 NS1
              clear EF LE BLT HE1
              go_wp2
              exact ⟨⟨j + 1, by omega, by go_num, MF, BF⟩, by simp only [intOf]; omega⟩
          · obtain ⟨F', rfl⟩ : ∃ F', F = F' + 1 := ⟨F - 1, by omega⟩
            by_cases T0 : T = 0
            · subst T0
              have qf : IntKind.i64.wrap (((F' + 1 : Nat) : Int) - 1) = (F' : Int) := by rw [IntWalk.i64_in _ (by omega)]; omega
              have qf2 : IntKind.i64.wrap ((F' : Int) + 1 - 1) = (F' : Int) := by rw [IntWalk.i64_in _ (by omega)]; omega
              have gf : (0 : Int) ≤ (F' : Int) := by omega
              have qt : IntKind.i64.wrap ((0 : Int) - 1) = -1 := rfl
              obtain ⟨E1, hE1⟩ : ∃ G, G = upd E F' F' (E F' F' + v) := ⟨_, rfl⟩
              have EF : Hid (∀ i j', E1 i j' = eqK k xs b (j + 1) i j') := by
                intro i j'
                rw [LT.out, hE1]
                exact eq_F (x := ⟨((F' + 1 : Nat) : Int), ((0 : Nat) : Int), r, v⟩) rfl rfl (by omega) i j'
              have HE1 := Lib.hid hE1
              clear hE1 LT ne H OK LB EB ES E0
              go_upto_if 67 with (fail)
              clear s0 s1 s2 s3 u0 u1 u2 u3 ls qf qt qf2
              go_cut [] (fun wx => Hid (Mg wx w.heap.size g bs cs k (k + 1) E1) ∧ Hid (wx.heap[wr.heap.size]? = some (.cells #[.int .i64 ((F' + 1 : Nat) : Int), .int .i64 ((0 : Nat) : Int), .int .i64 r, .int .i64 v] 32 (0, 0))) ∧ Hid (Below w.heap.size w wx))
              case first =>
                obtain ⟨⟨s0, s1, s2, s3⟩, -, ls⟩ := boxSt_at (q := ⟨((F' + 1 : Nat) : Int), ((0 : Nat) : Int), r, v⟩) NS0.out
                simp only at s0 s1 s2 s3
                obtain ⟨bb, eb, h1, h2, h3, h4, hs⟩ := M1.out.atf (i := F') (j := F') (by omega) (by omega)
                have l1 := LE.out F' F' (by omega)
                unfold Bd at l1
                have q1 : IntKind.i64.wrap (E F' F' + v) = E F' F' + v := IntWalk.i64_in _ (by omega)
                have bne : bb ≠ wr.heap.size := by have := BLT.out bb (List.mem_of_getElem? eb); omega
                have MN : Hid (Mg (wa.setCell ⟨bb, F', none⟩ (.int .i64 (E F' F' + v))).drew w.heap.size g bs cs k (k + 1) E1) := by show Mg _ _ _ _ _ _ _ _; rw [HE1.out]; exact (hs _).drew
                have BN : Hid (Below w.heap.size w (wa.setCell ⟨bb, F', none⟩ (.int .i64 (E F' F' + v))).drew) := (B3.out.setCell (p := ⟨bb, F', none⟩) h4.1 _).drew
                have NN : Hid ((wa.setCell ⟨bb, F', none⟩ (.int .i64 (E F' F' + v))).drew.heap[wr.heap.size]? = some (.cells #[.int .i64 ((F' + 1 : Nat) : Int), .int .i64 ((0 : Nat) : Int), .int .i64 r, .int .i64 v] 32 (0, 0))) := (Below.heap_setCell _ _ _ _ (fun e => bne e.symm)).trans NS0.out
                clear l1 hs eb bne M1 B3 NS0
                go_wp2_with fail
                go_region
                go_wp2_with fail
                go_meet
                exact ⟨MN, NN, BN⟩
              case rest =>
                clear M1 B3 NS0
                obtain ⟨w5, hwc⟩ : ∃ x, x = wc := ⟨_, rfl⟩
                rw [← hwc] at hcut ⊢; clear hwc
                obtain ⟨M2, NS1, B4⟩ := hcut
                go_upto_if 80 with (fail)
                have MF := Lib.hid (M2.out.congr (fun i j' _ _ => EF.out i j'))
                have BF := B4
                clear M2 B4 NS1
                clear EF LE BLT HE1
                go_wp2
                exact ⟨⟨j + 1, by omega, by go_num, MF, BF⟩, by simp only [intOf]; omega⟩
            · obtain ⟨T', rfl⟩ : ∃ T', T = T' + 1 := ⟨T - 1, by omega⟩
              have qf : IntKind.i64.wrap (((F' + 1 : Nat) : Int) - 1) = (F' : Int) := by rw [IntWalk.i64_in _ (by omega)]; omega
              have qf2 : IntKind.i64.wrap ((F' : Int) + 1 - 1) = (F' : Int) := by rw [IntWalk.i64_in _ (by omega)]; omega
              have gf : (0 : Int) ≤ (F' : Int) := by omega
              have qt : IntKind.i64.wrap (((T' + 1 : Nat) : Int) - 1) = (T' : Int) := by rw [IntWalk.i64_in _ (by omega)]; omega
              have qt2 : IntKind.i64.wrap ((T' : Int) + 1 - 1) = (T' : Int) := by rw [IntWalk.i64_in _ (by omega)]; omega
              have gt : (0 : Int) ≤ (T' : Int) := by omega
              obtain ⟨E1, hE1⟩ : ∃ G, G = upd E F' F' (E F' F' + v) := ⟨_, rfl⟩
              obtain ⟨E2, hE2⟩ : ∃ G, G = upd E1 T' T' (E T' T' + v) := ⟨_, rfl⟩
              obtain ⟨E3, hE3⟩ : ∃ G, G = upd E2 F' T' (E F' T' - v) := ⟨_, rfl⟩
              obtain ⟨E4, hE4⟩ : ∃ G, G = upd E3 T' F' (E T' F' - v) := ⟨_, rfl⟩
              have ne' : F' ≠ T' := by omega
              have v1' : Hid (E1 T' T' = E T' T') := by show _ = _; rw [hE1]; simp [upd, ne', ne'.symm]
              have v2' : Hid (E2 F' T' = E F' T') := by show _ = _; rw [hE2, hE1]; simp [upd, ne', ne'.symm]
              have v3' : Hid (E3 T' F' = E T' F') := by show _ = _; rw [hE3, hE2, hE1]; simp [upd, ne', ne'.symm]
              have EF : Hid (∀ i j', E4 i j' = eqK k xs b (j + 1) i j') := by
                intro i j'
                rw [LT.out, hE4, hE3, hE2, hE1]
                exact eq_both (x := ⟨((F' + 1 : Nat) : Int), ((T' + 1 : Nat) : Int), r, v⟩) rfl rfl (by omega) (by omega) (by omega) i j'
              have HE1 := Lib.hid hE1
              have HE2 := Lib.hid hE2
              have HE3 := Lib.hid hE3
              have HE4 := Lib.hid hE4
              clear hE1 hE2 hE3 hE4 LT ne H OK LB EB ES E0
              go_upto_if 67 with (fail)
              clear s0 s1 s2 s3 u0 u1 u2 u3 ls qf qt qf2 qt2
              go_cut [] (fun wx => Hid (Mg wx w.heap.size g bs cs k (k + 1) E1) ∧ Hid (wx.heap[wr.heap.size]? = some (.cells #[.int .i64 ((F' + 1 : Nat) : Int), .int .i64 ((T' + 1 : Nat) : Int), .int .i64 r, .int .i64 v] 32 (0, 0))) ∧ Hid (Below w.heap.size w wx))
              case first =>
                obtain ⟨⟨s0, s1, s2, s3⟩, -, ls⟩ := boxSt_at (q := ⟨((F' + 1 : Nat) : Int), ((T' + 1 : Nat) : Int), r, v⟩) NS0.out
                simp only at s0 s1 s2 s3
                obtain ⟨bb, eb, h1, h2, h3, h4, hs⟩ := M1.out.atf (i := F') (j := F') (by omega) (by omega)
                have l1 := LE.out F' F' (by omega)
                unfold Bd at l1
                have q1 : IntKind.i64.wrap (E F' F' + v) = E F' F' + v := IntWalk.i64_in _ (by omega)
                have bne : bb ≠ wr.heap.size := by have := BLT.out bb (List.mem_of_getElem? eb); omega
                have MN : Hid (Mg (wa.setCell ⟨bb, F', none⟩ (.int .i64 (E F' F' + v))).drew w.heap.size g bs cs k (k + 1) E1) := by show Mg _ _ _ _ _ _ _ _; rw [HE1.out]; exact (hs _).drew
                have BN : Hid (Below w.heap.size w (wa.setCell ⟨bb, F', none⟩ (.int .i64 (E F' F' + v))).drew) := (B3.out.setCell (p := ⟨bb, F', none⟩) h4.1 _).drew
                have NN : Hid ((wa.setCell ⟨bb, F', none⟩ (.int .i64 (E F' F' + v))).drew.heap[wr.heap.size]? = some (.cells #[.int .i64 ((F' + 1 : Nat) : Int), .int .i64 ((T' + 1 : Nat) : Int), .int .i64 r, .int .i64 v] 32 (0, 0))) := (Below.heap_setCell _ _ _ _ (fun e => bne e.symm)).trans NS0.out
                clear l1 hs eb bne M1 B3 NS0
                go_wp2_with fail
                go_region
                go_wp2_with fail
                go_meet
                exact ⟨MN, NN, BN⟩
              case rest =>
                clear M1 B3 NS0
                obtain ⟨w5, hwc⟩ : ∃ x, x = wc := ⟨_, rfl⟩
                rw [← hwc] at hcut ⊢; clear hwc
                obtain ⟨M2, NS1, B4⟩ := hcut
                go_upto_if 80 with (fail)
                go_cut [] (fun wx => Hid (Mg wx w.heap.size g bs cs k (k + 1) E2) ∧ Hid (wx.heap[wr.heap.size]? = some (.cells #[.int .i64 ((F' + 1 : Nat) : Int), .int .i64 ((T' + 1 : Nat) : Int), .int .i64 r, .int .i64 v] 32 (0, 0))) ∧ Hid (Below w.heap.size w wx))
                case first =>
                  obtain ⟨⟨s0, s1, s2, s3⟩, -, ls⟩ := boxSt_at (q := ⟨((F' + 1 : Nat) : Int), ((T' + 1 : Nat) : Int), r, v⟩) NS1.out
                  simp only at s0 s1 s2 s3
                  obtain ⟨bb, eb, h1, h2, h3, h4, hs⟩ := M2.out.atf (i := T') (j := T') (by omega) (by omega)
                  rw [v1'.out] at h2
                  have l1 := LE.out T' T' (by omega)
                  unfold Bd at l1
                  have q1 : IntKind.i64.wrap (E T' T' + v) = E T' T' + v := IntWalk.i64_in _ (by omega)
                  have bne : bb ≠ wr.heap.size := by have := BLT.out bb (List.mem_of_getElem? eb); omega
                  have MN : Hid (Mg (w5.setCell ⟨bb, T', none⟩ (.int .i64 (E T' T' + v))).drew w.heap.size g bs cs k (k + 1) E2) := by show Mg _ _ _ _ _ _ _ _; rw [HE2.out]; exact (hs _).drew
                  have BN : Hid (Below w.heap.size w (w5.setCell ⟨bb, T', none⟩ (.int .i64 (E T' T' + v))).drew) := (B4.out.setCell (p := ⟨bb, T', none⟩) h4.1 _).drew
                  have NN : Hid ((w5.setCell ⟨bb, T', none⟩ (.int .i64 (E T' T' + v))).drew.heap[wr.heap.size]? = some (.cells #[.int .i64 ((F' + 1 : Nat) : Int), .int .i64 ((T' + 1 : Nat) : Int), .int .i64 r, .int .i64 v] 32 (0, 0))) := (Below.heap_setCell _ _ _ _ (fun e => bne e.symm)).trans NS1.out
                  clear l1 hs eb bne M2 B4 NS1
                  go_wp2_with fail
                  go_region
                  go_wp2_with fail
                  go_meet
                  exact ⟨MN, NN, BN⟩
                case rest =>
                  clear M2 B4 NS1
                  obtain ⟨w6, hwc⟩ : ∃ x, x = wc := ⟨_, rfl⟩
                  rw [← hwc] at hcut ⊢; clear hwc
                  obtain ⟨M3, NS2, B5⟩ := hcut
                  go_upto_region 18 with (fail)
                  go_cut [] (fun wx => Hid (Mg wx w.heap.size g bs cs k (k + 1) E3) ∧ Hid (wx.heap[wr.heap.size]? = some (.cells #[.int .i64 ((F' + 1 : Nat) : Int), .int .i64 ((T' + 1 : Nat) : Int), .int .i64 r, .int .i64 v] 32 (0, 0))) ∧ Hid (Below w.heap.size w wx))
                  case first =>
                    obtain ⟨⟨s0, s1, s2, s3⟩, -, ls⟩ := boxSt_at (q := ⟨((F' + 1 : Nat) : Int), ((T' + 1 : Nat) : Int), r, v⟩) NS2.out
                    simp only at s0 s1 s2 s3
                    obtain ⟨bb, eb, h1, h2, h3, h4, hs⟩ := M3.out.atf (i := F') (j := T') (by omega) (by omega)
                    rw [v2'.out] at h2
                    have l1 := LE.out F' T' (by omega)
                    unfold Bd at l1
                    have q1 : IntKind.i64.wrap (E F' T' - v) = E F' T' - v := IntWalk.i64_in _ (by omega)
                    have bne : bb ≠ wr.heap.size := by have := BLT.out bb (List.mem_of_getElem? eb); omega
                    have MN : Hid (Mg (w6.setCell ⟨bb, T', none⟩ (.int .i64 (E F' T' - v))).drew w.heap.size g bs cs k (k + 1) E3) := by show Mg _ _ _ _ _ _ _ _; rw [HE3.out]; exact (hs _).drew
                    have BN : Hid (Below w.heap.size w (w6.setCell ⟨bb, T', none⟩ (.int .i64 (E F' T' - v))).drew) := (B5.out.setCell (p := ⟨bb, T', none⟩) h4.1 _).drew
                    have NN : Hid ((w6.setCell ⟨bb, T', none⟩ (.int .i64 (E F' T' - v))).drew.heap[wr.heap.size]? = some (.cells #[.int .i64 ((F' + 1 : Nat) : Int), .int .i64 ((T' + 1 : Nat) : Int), .int .i64 r, .int .i64 v] 32 (0, 0))) := (Below.heap_setCell _ _ _ _ (fun e => bne e.symm)).trans NS2.out
                    clear l1 hs eb bne M3 B5 NS2
                    go_wp2_with fail
                    go_region
                    go_wp2_with fail
                    go_meet
                    exact ⟨MN, NN, BN⟩
                  case rest =>
                    clear M3 B5 NS2
                    obtain ⟨w7, hwc⟩ : ∃ x, x = wc := ⟨_, rfl⟩
                    rw [← hwc] at hcut ⊢; clear hwc
                    obtain ⟨M4, NS3, B6⟩ := hcut
                    obtain ⟨⟨s0, s1, s2, s3⟩, -, ls⟩ := boxSt_at (q := ⟨((F' + 1 : Nat) : Int), ((T' + 1 : Nat) : Int), r, v⟩) NS3.out
                    simp only at s0 s1 s2 s3
                    obtain ⟨bb, eb, h1, h2, h3, h4, hs⟩ := M4.out.atf (i := T') (j := F') (by omega) (by omega)
                    rw [v3'.out] at h2
                    have l1 := LE.out T' F' (by omega)
                    unfold Bd at l1
                    have q1 : IntKind.i64.wrap (E T' F' - v) = E T' F' - v := IntWalk.i64_in _ (by omega)
                    have bne : bb ≠ wr.heap.size := by have := BLT.out bb (List.mem_of_getElem? eb); omega
                    have MN : Hid (Mg (w7.setCell ⟨bb, F', none⟩ (.int .i64 (E T' F' - v))).drew w.heap.size g bs cs k (k + 1) E4) := by show Mg _ _ _ _ _ _ _ _; rw [HE4.out]; exact (hs _).drew
                    have BN : Hid (Below w.heap.size w (w7.setCell ⟨bb, F', none⟩ (.int .i64 (E T' F' - v))).drew) := (B6.out.setCell (p := ⟨bb, F', none⟩) h4.1 _).drew
                    have NN : Hid ((w7.setCell ⟨bb, F', none⟩ (.int .i64 (E T' F' - v))).drew.heap[wr.heap.size]? = some (.cells #[.int .i64 ((F' + 1 : Nat) : Int), .int .i64 ((T' + 1 : Nat) : Int), .int .i64 r, .int .i64 v] 32 (0, 0))) := (Below.heap_setCell _ _ _ _ (fun e => bne e.symm)).trans NS3.out
                    clear l1 hs eb bne M4 B6 NS3
                    go_wp2_with fail
                    go_region
                    clear s0 s1 s2 s3 h1 h2 h3 h4 q1
                    generalize (w7.setCell ⟨bb, F', none⟩ (.int .i64 (E T' F' - v))).drew = w9 at *
                    have MF := Lib.hid (MN.out.congr (fun i j' _ _ => EF.out i j'))
                    have BF := BN
                    clear MN NN BN
                    clear EF LE BLT HE1 HE2 HE3 HE4
                    go_wp2
                    exact ⟨⟨j + 1, by omega, by go_num, MF, BF⟩, by simp only [intOf]; omega⟩
        · obtain rfl : j = n0 := by omega
          have FE : Hid (∀ i j', eqK k xs b j i j' = (elimS (eqF k xs b) 0).1 i j') := fun i j' => by show eqF k (xs.take j) b i j' = eqF k xs b i j'; rw [List.take_of_length_le (by have := E0.out; omega)]
          have MF := Lib.hid (mg.out.congr (fun i j' _ _ => FE.out i j'))
          obtain ⟨f0, hf0⟩ : ∃ f0, f0 = eqF k xs b := ⟨_, rfl⟩
          rw [← hf0] at MF EB ES
          have P0 : Hid ((elimS f0 0).2 = 1) := rfl
          clear mg LB OK H HV FE hf0 BL
          go_wp2
          go_loopw [13, 14, 15, 16, 17, 18] (fun lv cv _ _ _ _ wr => ∃ (c : Nat) (la : Int), c ≤ k ∧ cv = .int .i64 c ∧ lv = .int .i64 la ∧ Hid (la = (elimS f0 c).2) ∧ Hid (Mg wr w.heap.size g bs cs k (k + 1) (elimS f0 c).1) ∧ Hid (Below w.heap.size w wr)) (fun _ cv _ _ _ _ _ => k - (intOf cv).toNat)
          case atStart => exact ⟨0, 1, by omega, rfl, rfl, P0.out.symm, MF, B2⟩
          case round =>
            obtain ⟨c, la, hcl, rfl, rfl, hla, mg, B4⟩ := hrel
            clear MF B2 P0 p0 p1
            by_cases hlt3 : c < k
            · obtain ⟨eb1, eb2, eb3⟩ := EB.out c (by omega)
              obtain ⟨f, hf⟩ : ∃ f, f = (elimS f0 c).1 := ⟨_, rfl⟩
              have SN : Hid ((elimS f0 (c + 1)).1 = elimF la f c ∧ (elimS f0 (c + 1)).2 = f c c) := by
                refine ⟨?_, ?_⟩
                · show elimF (elimS f0 c).2 (elimS f0 c).1 c = _
                  rw [← hla.out, ← hf]
                · show (elimS f0 c).1 c c = _
                  rw [← hf]
              obtain ⟨ebn1, -, -⟩ := EB.out (c + 1) (by omega)
              rw [SN.out.1] at ebn1
              rw [← hf] at mg eb1
              rw [← hla.out] at eb2 eb3
              unfold Bd at eb3
              have FB := Lib.hid eb1
              have NB := Lib.hid ebn1
              have F0' : Hid (∀ i j', (if i < 0 ∧ i ≠ c then elimN la f c i j' else f i j') = f i j') := fun i j' => by rw [if_neg (by omega)]
              have MG0 : Hid (Mg wr w.heap.size g bs cs k (k + 1) (fun i j' => if i < 0 ∧ i ≠ c then elimN la f c i j' else f i j')) := mg.out.congr (fun i j' _ _ => (F0'.out i j').symm)
              obtain ⟨b0, eb0, t1, t2, -, -, -⟩ := mg.out.atf (i := c) (j := c) hlt3 (by omega)
              have B40 := B4
              clear hf eb1 ebn1 eb0 mg hla
              go_wp2
              go_loopw [16, 17, 18] (fun iv _ _ wr => ∃ i : Nat, i ≤ k ∧ iv = .int .i64 i ∧ Hid (Mg wr w.heap.size g bs cs k (k + 1) (fun a j' => if a < i ∧ a ≠ c then elimN la f c a j' else f a j')) ∧ Hid (Below w.heap.size w wr)) (fun iv _ _ _ => k - (intOf iv).toNat)
              case atStart => exact ⟨0, by omega, rfl, MG0, B40⟩
              case round =>
                obtain ⟨i, hil, rfl, mg, B5⟩ := hrel
                clear MG0 B40 B4 t1 t2
                by_cases hlt4 : i < k
                · obtain ⟨b1, eb1, t1, t2, -, -, -⟩ := mg.out.atf (i := i) (j := c) hlt4 (by omega)
                  rw [if_neg (by omega : ¬ (i < i ∧ i ≠ c))] at t2
                  have B50 := B5
                  have MG1 : Hid (Mg wr w.heap.size g bs cs k (k + 1) (fun a j' => if a = i ∧ j' < 0 then elimN la f c i j' else if a < i ∧ a ≠ c then elimN la f c a j' else f a j')) := mg.out.congr (fun a j' _ _ => by rw [if_neg (by omega : ¬ (a = i ∧ j' < 0))])
                  clear eb1 mg
                  by_cases hic : i = c
                  · subst hic
                    have d1 : ((i : Int) != (i : Int)) = false := by simp
                    have i0k : (0 : Int) ≤ (k : Int) := by omega
                    go_wp2
                    go_loopw [18] (fun kv wr' => kv = .int .i64 0 ∧ wr' = wr) (fun _ _ => 0)
                    case atStart => exact ⟨rfl, rfl⟩
                    case round =>
                      obtain ⟨rfl, rfl⟩ := hrel
                      have MF := Lib.hid (MG1.out.congr (g := fun a j' => if a < i + 1 ∧ a ≠ i then elimN la f i a j' else f a j') (fun a j' _ _ => by
                        rw [if_neg (by omega : ¬ (a = i ∧ j' < 0))]
                        by_cases e : a < i ∧ a ≠ i
                        · rw [if_pos e, if_pos ⟨by omega, e.2⟩]
                        · rw [if_neg e, if_neg (by omega)]))
                      clear MG1 t1 t2
                      go_wp2
                      exact ⟨⟨i + 1, by omega, by go_num, MF, B50⟩, by simp only [intOf]; omega⟩
                  · have d1 : ((i : Int) != (c : Int)) = true := by simp; omega
                    go_wp2
                    go_loopw [18] (fun kv wr => ∃ q : Nat, q ≤ k + 1 ∧ kv = .int .i64 q ∧ Hid (Mg wr w.heap.size g bs cs k (k + 1) (fun a j' => if a = i ∧ j' < q then elimN la f c i j' else if a < i ∧ a ≠ c then elimN la f c a j' else f a j')) ∧ Hid (Below w.heap.size w wr)) (fun kv _ => k + 1 - (intOf kv).toNat)
                    case atStart => exact ⟨0, by omega, rfl, MG1, B50⟩
                    case round =>
                      obtain ⟨q, hql, rfl, mg, B6⟩ := hrel
                      clear MG1 B50 B5 t1 t2
                      by_cases hlt5 : q < k + 1
                      · have i1 : (q : Int) ≤ (k : Int) := by omega
                        obtain ⟨b1, eb1, t1, t2, t3, t4, hs⟩ := mg.out.atf (i := i) (j := q) hlt4 hlt5
                        obtain ⟨b2, eb2', t5, t6, -, -, -⟩ := mg.out.atf (i := c) (j := q) hlt3 hlt5
                        rw [if_neg (by omega : ¬ (i = i ∧ q < q)), if_neg (by omega : ¬ (i < i ∧ i ≠ c))] at t2
                        rw [if_neg (by omega : ¬ (c = i ∧ q < q)), if_neg (by omega : ¬ (c < i ∧ c ≠ c))] at t6
                        have x1 := FB.out i q hlt4 hlt5
                        have x2 := FB.out c c hlt3 (by omega)
                        have x3 := FB.out i c hlt4 (by omega)
                        have x4 := FB.out c q hlt3 hlt5
                        have x5 := NB.out i q hlt4 hlt5
                        rw [show elimF la f c i q = (f i q * f c c - f i c * f c q).tdiv la by unfold elimF elimN; rw [if_neg hic]] at x5
                        have y1 := Bd.mul x1 x2
                        have y2 := Bd.mul x3 x4
                        obtain ⟨P, hP⟩ : ∃ P, P = f i q * f c c := ⟨_, rfl⟩
                        obtain ⟨Q, hQ⟩ : ∃ Q, Q = f i c * f c q := ⟨_, rfl⟩
                        rw [← hP] at y1 x5
                        rw [← hQ] at y2 x5
                        unfold Bd at x5 y1 y2
                        have q1 : IntKind.i64.wrap (f i q * f c c) = P := by rw [← hP]; exact IntWalk.i64_in _ (by omega)
                        have q2 : IntKind.i64.wrap (f i c * f c q) = Q := by rw [← hQ]; exact IntWalk.i64_in _ (by omega)
                        have q3 : IntKind.i64.wrap (P - Q) = P - Q := IntWalk.i64_in _ (by omega)
                        obtain ⟨V, hV⟩ : ∃ V, V = (P - Q).tdiv la := ⟨_, rfl⟩
                        rw [← hV] at x5
                        have q4 : IntKind.i64.wrap ((P - Q).tdiv la) = V := by rw [← hV]; exact IntWalk.i64_in _ (by omega)
                        have VE : Hid (elimN la f c i q = V) := by show _ = _; unfold elimN; rw [← hP, ← hQ, ← hV]
                        have l0 : (la == 0) = false := by simp; omega
                        have l1 : ¬ la = 0 := by omega
                        have MN := Lib.hid ((hs V).drew.congr (g := fun a j' => if a = i ∧ j' < q + 1 then elimN la f c i j' else if a < i ∧ a ≠ c then elimN la f c a j' else f a j') (fun a j' _ _ => by
                          unfold upd
                          by_cases e : a = i ∧ j' = q
                          · obtain ⟨rfl, rfl⟩ := e
                            rw [if_pos ⟨rfl, rfl⟩, if_pos (by omega), VE.out]
                          · rw [if_neg e]
                            show (if a = i ∧ j' < q then elimN la f c i j' else if a < i ∧ a ≠ c then elimN la f c a j' else f a j') = _
                            by_cases e2 : a = i ∧ j' < q
                            · rw [if_pos e2, if_pos (by omega)]
                            · rw [if_neg e2, if_neg (by omega : ¬ (a = i ∧ j' < q + 1))]))
                        have BN : Hid (Below w.heap.size w (wr.setCell ⟨b1, q, none⟩ (.int .i64 V)).drew) := (B6.out.setCell (p := ⟨b1, q, none⟩) t4.1 _).drew
                        clear mg hs eb1 eb2' x1 x2 x3 x4 x5 y1 y2 hP hQ hV B6 VE FB NB EB ES SN E0 HM HG F0'
                        go_wp2_with fail
                        go_region
                        clear t1 t2 t3 t4 t5 t6 q1 q2 q3 q4
                        generalize (wr.setCell ⟨b1, q, none⟩ (.int .i64 V)).drew = w9 at *
                        go_wp2
                        exact ⟨⟨q + 1, by omega, by go_num, MN, BN⟩, by simp only [intOf]; omega⟩
                      · obtain rfl : q = k + 1 := by omega
                        have i1 : ¬ ((k + 1 : Nat) : Int) ≤ (k : Int) := by omega
                        have i2 : ¬ (k : Int) + 1 ≤ (k : Int) := by omega
                        have MF := Lib.hid (mg.out.congr (g := fun a j' => if a < i + 1 ∧ a ≠ c then elimN la f c a j' else f a j') (fun a j' _ hj' => by
                          by_cases e : a = i
                          · subst e
                            rw [if_pos ⟨rfl, hj'⟩, if_pos ⟨by omega, hic⟩]
                          · rw [if_neg (by omega : ¬ (a = i ∧ j' < k + 1))]
                            by_cases e2 : a < i ∧ a ≠ c
                            · rw [if_pos e2, if_pos ⟨by omega, e2.2⟩]
                            · rw [if_neg e2, if_neg (by omega)]))
                        clear mg
                        go_wp2
                        exact ⟨⟨i + 1, by omega, by go_num, MF, B6⟩, by simp only [intOf]; omega⟩
                · obtain rfl : i = k := by omega
                  have MF : Hid (Mg wr w.heap.size g bs cs i (i + 1) (elimS f0 (c + 1)).1) := by
                    show Mg _ _ _ _ _ _ _ _
                    rw [SN.out.1]
                    exact mg.out.congr (fun a j' ha _ => by
                      unfold elimF
                      by_cases e : a = c
                      · rw [if_pos e, if_neg (by omega)]
                      · rw [if_neg e, if_pos ⟨ha, e⟩])
                  have LF : Hid (f c c = (elimS f0 (c + 1)).2) := SN.out.2.symm
                  clear mg SN FB NB F0'
                  go_wp2
                  exact ⟨⟨c + 1, _, by omega, by go_num, rfl, LF, MF, B5⟩, by simp only [intOf]; omega⟩
            · obtain rfl : c = k := by omega
              obtain ⟨es1, es2⟩ := ES.out
              obtain rfl : la = D := by rw [es2]; exact hla.out
              have SLn : Hid (S.length = c + 1) := by show _ = _; rw [es1]; simp
              have S0 : Hid (S[0]? = some 0) := by show _ = _; rw [es1]; rfl
              have SK : Hid (∀ i, i < c → S[i + 1]? = some ((elimS f0 c).1 i c)) := fun i hi => by rw [es1, List.getElem?_cons_succ]; exact rowf_get hi
              obtain ⟨wo, hwo⟩ : ∃ x, x = wr := ⟨_, rfl⟩
              subst hwo
              have O1 : Hid (OwnI (wo.alloc (.cells #[.int .i64 0] 2)) wo.heap.size (.slice (some ⟨wo.heap.size, 0, none⟩) 1 1) (S.take 1)) := by
                have e : S.take 1 = [0] := by rw [List.take_add_one, S0.out]; simp
                show OwnI _ _ _ _
                rw [e]
                exact ⟨by simp, .inr ⟨wo.heap.size, 1, _, rfl, Nat.le_refl _, heap_alloc_new wo _, Nat.le_refl _, by unfold maxLen; omega, by simp, by simp⟩⟩
              have B5 : Hid (Below wo.heap.size wo (wo.alloc (.cells #[.int .i64 0] 2))) := by show Below _ _ _; go_grown
              clear es1 es2 hla EB ES S0
              go_wp2
              go_loopw [19, 20] (fun ov iv wr => ∃ (i c1 : Nat) (ad : Option Addr), i ≤ c ∧ iv = .int .i64 i ∧ ov = .slice ad (i + 1) c1 ∧ Hid (OwnI wr wo.heap.size (.slice ad (i + 1) c1) (S.take (i + 1))) ∧ Hid (Below wo.heap.size wo wr)) (fun _ iv _ => c - (intOf iv).toNat)
              case atStart => exact ⟨0, 1, _, by omega, rfl, rfl, O1, B5⟩
              case round =>
                obtain ⟨i, c1, ad, hil, rfl, rfl, ho, B6⟩ := hrel
                clear O1 B5
                have sz6 := B6.out.size
                by_cases hlt6 : i < c
                · obtain ⟨b1, eb1, t1, t2, -, -, -⟩ := (mg.out.later B6.out).atf (i := i) (j := c) hlt6 (by omega)
                  have EV := Lib.hid (SK.out i hlt6)
                  obtain ⟨y, hy⟩ : ∃ y, y = (elimS f0 c).1 i c := ⟨_, rfl⟩
                  rw [← hy] at t2 EV
                  have own := Lib.hid (own_take SLn.out (by omega : i + 1 ≤ c + 1) ho.out)
                  have lgz := own.out.lt
                  clear eb1 hy ho
                  go_wp2_with (at_builtin; refine wpList_append_lies _ rfl _ _ _ rfl wo.heap.size 2 i0 _ 1 8 Tryd.underlying28 hi hz0 hz1 hz2 rfl (by omega) _ _ _ rfl (own.out.alloc _) ⟨wr.heap.size, 0, none⟩ 1 1 [.int .i64 y] rfl rfl (World.news_of_block (cs := #[.int .i64 y]) (t := 2) (fr := (0, 0)) (heap_alloc_new wr _)) (by simp [Value.oneCell']) (by omega) (by unfold maxLen; omega) (by omega) (by simp only [World.size_alloc]; omega) _ rfl ?_)
                  intro gg cap1 w5 hown1 hgrow hat hlt'
                  have O5 := Lib.hid (own_next EV.out hown1)
                  have B7 : Hid (Below wo.heap.size wo w5) := B6.out.grown (grownBy_trans (World.grownBy_alloc wr _ _) hgrow) sz6 (fun j e => (lgz j e).1)
                  clear hown1 hgrow hat hlt' own lgz B6 EV t1 t2
                  go_wp2
                  exact ⟨⟨i + 1, cap1, _, by omega, by go_num, rfl, O5, B7⟩, by simp only [intOf]; omega⟩
                · obtain rfl : i = c := by omega
                  have O5 := ho.out
                  rw [List.take_of_length_le (by have := SLn.out; omega)] at O5
                  have O6 := Lib.hid (OwnI.mono O5 B4.out.size)
                  have BF : Hid (Below w.heap.size w wr) := B4.out.trans (B6.out.mono B4.out.size)
                  clear O5 ho mg SK
                  go_wp2
                  go_ret2
                  exact ⟨_, rfl, O6.out, BF.out⟩
end Go.Proofs.YtcmocilojloolaaDoor
