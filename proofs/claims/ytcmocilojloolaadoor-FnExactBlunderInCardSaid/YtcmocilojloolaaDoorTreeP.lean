/- The tree of a survey: treeOf of the program. -/
import Derived.Test.YtcmocilojloolaaDoorTreeO
import Derived.Test.YtcmocilojloolaaDoorAppI
import Derived.Deep.DeepCutAuto
namespace Go.Proofs.YtcmocilojloolaaDoor
open Go.ChangeShapes Go.WideShapes Go.ChangeAt Go.RowKit
set_option linter.unusedVariables false
set_option linter.unusedSimpArgs false

theorem und_tree : ∃ F, Tryd.prog.underlying 67 = some (.struct F) := by
  have h : (Tryd.prog.underlying 67).map isStructT = some true := by kernel_rfl
  cases e : Tryd.prog.underlying 67 with
  | none => rw [e] at h; simp at h
  | some d =>
    rw [e] at h
    cases d <;> first | exact ⟨_, rfl⟩ | (simp [isStructT] at h)
theorem info_tree : (Tryd.prog.info? 67).map (fun i => i.size) = some 2 := by kernel_rfl

set_option maxRecDepth 100000 in
set_option maxHeartbeats 8000000 in
theorem treeOf_bad (g : Sv) (n0 : Nat) (w : World) (hr : RdSv w n0 g) (l0 : n0 ≤ 1048576) (ok : ¬ OkSv g) (a0 : Addr) (h0 : w.cell? ⟨0, 0, none⟩ = some (.iface 136 (.pointer (some a0)))) :
    Calls Tryd.prog 48 #[(.agg #[.int .i64 g.p, .slice g.xa n0 g.xc])] w fun e w' => e = .returned (.tuple #[.agg #[.slice none 0 0, .slice none 0 0], .iface 136 (.pointer (some a0))]) ∧ Below w.heap.size w w' := by
  have H := Lib.hid hr
  have lv : 0 < w.heap.size := World.block_lt_of_cell? w _ h0
  have W2 : Hid (((w.alloc (.cells #[.int .i64 g.p, .slice g.xa n0 g.xc] 26)).alloc (.cells #[.slice none 0 0, .slice none 0 0] 67)).heap[w.heap.size + 1]? = some (.cells #[.slice none 0 0, .slice none 0 0] 67 (0, 0))) := box2_1 w _ _
  have W3 : Hid (Below w.heap.size w ((w.alloc (.cells #[.int .i64 g.p, .slice g.xa n0 g.xc] 26)).alloc (.cells #[.slice none 0 0, .slice none 0 0] 67))) := by show Below _ _ _; go_grown
  have W4 : w.heap.size + 2 ≤ ((w.alloc (.cells #[.int .i64 g.p, .slice g.xa n0 g.xc] 26)).alloc (.cells #[.slice none 0 0, .slice none 0 0] 67)).heap.size := by simp
  have C1 := Lib.hid (implSurvey_any g n0 _ (H.out.later W3.out) l0 false (by simpa using ok))
  have H0 := Lib.hid h0
  clear hr h0 ok
  go_enter Tryd.func48, Tryd.ntmps48
  go_wp2_with fail
  refine C1.out.mono ?_
  rintro e w1 ⟨rfl, bb1⟩
  have V2 := Lib.hid ((bb1.block (w.heap.size + 1) (by omega)).trans W2.out)
  have V3 : Hid (Below w.heap.size w w1) := W3.out.trans (bb1.mono (by omega))
  clear bb1 C1 W2 W3 W4
  obtain ⟨⟨r0, r1⟩, ⟨f0, f1⟩, lR⟩ := boxed2_at V2.out
  have e0 : w1.cell? ⟨0, 0, none⟩ = some (.iface 136 (.pointer (some a0))) := (V3.out.cell (p := ⟨0, 0, none⟩) lv).trans H0.out
  have ne0 : ¬ (0 = w.heap.size + 1) := by omega
  have BE : Hid (Below w.heap.size w ((w1.setCell ⟨w.heap.size + 1, 0, none⟩ (.slice none 0 0)).setCell ⟨w.heap.size + 1, 1, none⟩ (.slice none 0 0)).drew) := ((V3.out.setCell (p := ⟨w.heap.size + 1, 0, none⟩) (by show w.heap.size ≤ w.heap.size + 1; omega) _).setCell (p := ⟨w.heap.size + 1, 1, none⟩) (by show w.heap.size ≤ w.heap.size + 1; omega) _).drew
  go_wp2_with fail
  go_region
  all_goals
    go_wp2
    refine bodyPost_ret (v := .tuple #[.agg #[.slice none 0 0, .slice none 0 0], .iface 136 (.pointer (some a0))]) (by simp [results, Tryd.results48, go_sem, r0, r1]; try rfl) rfl ?_
    exact ⟨rfl, BE.out⟩

set_option maxRecDepth 100000 in
set_option maxHeartbeats 16000000 in
theorem treeOf_ok (n n0 : Nat) (xa : Option Addr) (xc : Nat) (xs : List St) (w : World) (hr : RdS 4 encSt w (.slice xa n0 xc) xs) (e0 : n0 = xs.length) (ok : OkSv ⟨n, xa, xc, xs⟩) (a1 : Addr) (h1 : w.cell? ⟨1, 0, none⟩ = some (.iface 136 (.pointer (some a1)))) :
    Calls Tryd.prog 48 #[.agg #[.int .i64 n, .slice xa n0 xc]] w fun e w' => Below w.heap.size w w' ∧
      ((trAll (trTo n xs n0) = false ∧ e = .returned (.tuple #[.agg #[.slice none 0 0, .slice none 0 0], .iface 136 (.pointer (some a1))])) ∨
       (trAll (trTo n xs n0) = true ∧ ∃ (gb m c1 : Nat) (ad : Option Addr) (gl : List Lk) (R : Nat → Nat) (S : Nat → Int) (D : Nat → Nat), e = .returned (.tuple #[.agg #[.slice (some ⟨gb, 0, none⟩) n n, .slice ad m c1], .nilIface]) ∧ GrpOk n xs n0 gl R S D ∧ OwnLk w' w.heap.size gb n gl ∧ OwnI w' w.heap.size (.slice ad m c1) (trTo n xs n0).o ∧ (∀ b, (Value.slice ad m c1).ownBlock = some b → gb < b))) := by
  obtain ⟨i0, hi, hz0, hz1, hz2⟩ := info_parts info_i64
  have hn : 2 ≤ n ∧ n ≤ 5 := by have := ok.p0; simp only at this; omega
  have l8 : n0 ≤ 8 := by have := ok.n0; simp only at this; omega
  have XS := Lib.hid (fun x (h : x ∈ xs) => (ok.x0 x h).ok (n := n) rfl)
  have H := Lib.hid hr
  have E0 := Lib.hid e0
  have lv : 1 < w.heap.size := World.block_lt_of_cell? w _ h1
  have W1 : Hid (((w.alloc (.cells #[.int .i64 n, .slice xa n0 xc] 26)).alloc (.cells #[.slice none 0 0, .slice none 0 0] 67)).heap[w.heap.size]? = some (.cells #[.int .i64 n, .slice xa n0 xc] 26 (0, 0))) := box2_0 w _ _
  have W2 : Hid (((w.alloc (.cells #[.int .i64 n, .slice xa n0 xc] 26)).alloc (.cells #[.slice none 0 0, .slice none 0 0] 67)).heap[w.heap.size + 1]? = some (.cells #[.slice none 0 0, .slice none 0 0] 67 (0, 0))) := box2_1 w _ _
  have W3 : Hid (Below w.heap.size w ((w.alloc (.cells #[.int .i64 n, .slice xa n0 xc] 26)).alloc (.cells #[.slice none 0 0, .slice none 0 0] 67))) := by show Below _ _ _; go_grown
  have W4 : w.heap.size + 2 ≤ ((w.alloc (.cells #[.int .i64 n, .slice xa n0 xc] 26)).alloc (.cells #[.slice none 0 0, .slice none 0 0] 67)).heap.size := by simp
  have C1 := Lib.hid (implSurvey_any ⟨n, xa, xc, xs⟩ n0 _ ⟨H.out.later W3.out⟩ (by omega) true (by simpa using ok))
  have C2 := Lib.hid (fun w => groupsOf_any n (by omega) (by omega) w)
  have H1 := Lib.hid h1
  clear hr h1 ok e0
  go_enter Tryd.func48, Tryd.ntmps48
  go_wp2_with fail
  refine C1.out.mono ?_
  rintro e w1 ⟨rfl, bb1⟩
  have V1 := Lib.hid ((bb1.block w.heap.size (by omega)).trans W1.out)
  have V2 := Lib.hid ((bb1.block (w.heap.size + 1) (by omega)).trans W2.out)
  have V3 : Hid (Below w.heap.size w w1) := W3.out.trans (bb1.mono (by omega))
  have V4 : w.heap.size + 2 ≤ w1.heap.size := by have := bb1.size; omega
  clear bb1 C1 W1 W2 W3 W4
  obtain ⟨⟨p0, p1⟩, -, -⟩ := boxed2_at V1.out
  go_wp2_with fail
  refine (C2.out _).mono ?_
  rintro e w2 ⟨rfl, og, bb2⟩
  obtain ⟨gb, hgb⟩ : ∃ gb, gb = w1.heap.size := ⟨_, rfl⟩
  rw [← hgb] at og ⊢
  have T1 := Lib.hid ((bb2.block w.heap.size (by omega)).trans V1.out)
  have T2 := Lib.hid ((bb2.block (w.heap.size + 1) (by omega)).trans V2.out)
  have T3 : Hid (Below w.heap.size w w2) := V3.out.trans (bb2.mono (by omega))
  have lgb := (og.lt gb rfl).2
  have wgb : w.heap.size + 2 ≤ gb := by omega
  have OG : Hid (OwnLk w2 w.heap.size gb n (iniTo n n)) := og.mono (by omega)
  clear bb2 C2 V1 V2 V3 V4 p0 p1 og hgb
  obtain ⟨⟨p0, p1⟩, -, -⟩ := boxed2_at T1.out
  go_upto_region 4 with (fail)
  have T2' : Hid ((w2.alloc (.cells #[.slice (some ⟨gb, 0, none⟩) n n, .slice none 0 0] 67)).heap[w.heap.size + 1]? = _) := (Below.heap_alloc _ _ _ (by omega)).trans T2.out
  have T1' : Hid ((w2.alloc (.cells #[.slice (some ⟨gb, 0, none⟩) n n, .slice none 0 0] 67)).heap[w.heap.size]? = _) := (Below.heap_alloc _ _ _ (by omega)).trans T1.out
  have T4 : Hid ((w2.alloc (.cells #[.slice (some ⟨gb, 0, none⟩) n n, .slice none 0 0] 67)).heap[w2.heap.size]? = some (.cells #[.slice (some ⟨gb, 0, none⟩) n n, .slice none 0 0] 67 (0, 0))) := heap_alloc_new _ _
  have T3' : Hid (Below w.heap.size w (w2.alloc (.cells #[.slice (some ⟨gb, 0, none⟩) n n, .slice none 0 0] 67))) := T3.out.alloc (by have := T3.out.size; omega) _
  have OG' : Hid (OwnLk (w2.alloc (.cells #[.slice (some ⟨gb, 0, none⟩) n n, .slice none 0 0] 67)) w.heap.size gb n (iniTo n n)) := OG.out.alloc _
  have sz0 : (w2.alloc (.cells #[.slice (some ⟨gb, 0, none⟩) n n, .slice none 0 0] 67)).heap.size = w2.heap.size + 1 := by simp
  obtain ⟨tq, htb⟩ : ∃ tq, tq = w2.heap.size := ⟨_, rfl⟩
  rw [← htb] at T4 sz0 lgb ⊢
  clear T1 T2 T3 OG p0 p1 htb
  generalize w2.alloc (.cells #[.slice (some ⟨gb, 0, none⟩) n n, .slice none 0 0] 67) = W at *
  have sz : tq < W.heap.size := by omega
  clear sz0
  have O0 : Hid (OwnI W w.heap.size (.slice none 0 0) (trTo n xs 0).o) := World.ownsRow_nil _ _ _ _
  have A0 : Hid (∀ b, (Value.slice none 0 0).ownBlock = some b → tq < b) := fun b hb => by simp [Value.ownBlock] at hb
  have G0 := Lib.hid (grp_zero n xs)
  obtain ⟨⟨p0, p1⟩, -, -⟩ := boxed2_at T1'.out
  go_wp2
  go_loopw [19] (fun iv wr => ∃ (k m c1 : Nat) (ad : Option Addr) (gl : List Lk) (R : Nat → Nat) (S : Nat → Int) (D : Nat → Nat), k ≤ n0 ∧ m ≤ n ∧ iv = .int .i64 k ∧ Hid (m = (trTo n xs k).o.length) ∧ Hid (GrpOk n xs k gl R S D) ∧ Hid (OwnLk wr w.heap.size gb n gl) ∧ Hid (OwnI wr w.heap.size (.slice ad m c1) (trTo n xs k).o) ∧ Hid (∀ b, (Value.slice ad m c1).ownBlock = some b → tq < b) ∧ Hid (wr.heap[w.heap.size]? = some (.cells #[.int .i64 n, .slice xa n0 xc] 26 (0, 0))) ∧ Hid (wr.heap[w.heap.size + 1]? = some (.cells #[.slice none 0 0, .slice none 0 0] 67 (0, 0))) ∧ Hid (wr.heap[tq]? = some (.cells #[.slice (some ⟨gb, 0, none⟩) n n, .slice ad m c1] 67 (0, 0))) ∧ Hid (Below w.heap.size w wr) ∧ tq < wr.heap.size) (fun iv _ => n0 - (intOf iv).toNat)
  case atStart => exact ⟨0, 0, 0, none, _, _, _, _, by omega, by omega, rfl, rfl, G0.out, OG'.out, O0.out, A0.out, T1'.out, T2'.out, T4.out, T3'.out, sz⟩
  case round =>
    obtain ⟨k, m, c1, ad, gl, R, S, D, hk, hm, rfl, hml, hG, hL, hO, hA, M1, M2, M4, B, zr⟩ := hrel
    clear G0 OG' O0 A0 T1' T2' T4 T3' sz p0 p1
    obtain ⟨⟨t0, t1⟩, ⟨f0, f1⟩, -⟩ := boxed2_at M4.out
    obtain ⟨⟨p0, p1⟩, -, -⟩ := boxed2_at M1.out
    by_cases hlt : k < n0
    · obtain ⟨x, hx⟩ : ∃ x, xs[k]? = some x := ⟨_, List.getElem?_eq_getElem (by have := E0.out; omega)⟩
      have okx := XS.out x (List.mem_of_getElem? hx)
      obtain ⟨ba, oa, ea, u0, u1, u2, u3⟩ := (H.out.later B.out).at4g k x hx _ _ _ _ rfl
      obtain ⟨f, t, r, v⟩ := x
      obtain ⟨F, hf⟩ : ∃ F : Nat, f = F := ⟨f.toNat, by have := okx.f0; simp only at this; omega⟩
      obtain ⟨T, ht⟩ : ∃ T : Nat, t = T := ⟨t.toNat, by have := okx.t0; simp only at this; omega⟩
      subst hf
      subst ht
      have Fn : F < n := by have := okx.f1; simp only at this; omega
      have Tn : T < n := by have := okx.t1; simp only at this; omega
      have rr : -100 ≤ r ∧ r ≤ 100 := ⟨okx.r0, okx.r1⟩
      simp only at u0 u1 u2 u3
      obtain ⟨b, hb⟩ := bool_ofV (R F ≠ R T)
      have HX := Lib.hid hx
      have OKX := Lib.hid okx
      have TB := Lib.hid (tb_le (k := k) (by omega))
      have CJ := Lib.hid (join_any n gb w.heap.size R S D (by omega) F T r v rr (tb k) (by have := TB.out; omega) hG.out.bound Fn Tn gl (wr.alloc (.cells #[.int .i64 F, .int .i64 T, .int .i64 r, .int .i64 v] 32)) hG.out.forest (hL.out.alloc _) b hb)
      have HB := Lib.hid hb
      have lgw := (hL.out.lt gb rfl).2
      have N1 : Hid ((wr.alloc (.cells #[.int .i64 F, .int .i64 T, .int .i64 r, .int .i64 v] 32)).heap[w.heap.size]? = _) := (Below.heap_alloc _ _ _ (by omega)).trans M1.out
      have N2 : Hid ((wr.alloc (.cells #[.int .i64 F, .int .i64 T, .int .i64 r, .int .i64 v] 32)).heap[w.heap.size + 1]? = _) := (Below.heap_alloc _ _ _ (by omega)).trans M2.out
      have N4 : Hid ((wr.alloc (.cells #[.int .i64 F, .int .i64 T, .int .i64 r, .int .i64 v] 32)).heap[tq]? = _) := (Below.heap_alloc _ _ _ (by omega)).trans M4.out
      have NB : Hid (Below w.heap.size w (wr.alloc (.cells #[.int .i64 F, .int .i64 T, .int .i64 r, .int .i64 v] 32))) := B.out.alloc (by have := B.out.size; omega) _
      have NO := Lib.hid (World.ownsRow.alloc hO.out (.cells #[.int .i64 F, .int .i64 T, .int .i64 r, .int .i64 v] 32))
      have Ns : tq < (wr.alloc (.cells #[.int .i64 F, .int .i64 T, .int .i64 r, .int .i64 v] 32)).heap.size := by simp; omega
      clear hx okx hb M1 M2 M4 hL hO
      subst ea
      go_wp2_with fail
      refine CJ.out.mono ?_
      rintro e w5 ⟨g5, rfl, hF0, hF1, hL5, bb5⟩
      have Q1 := Lib.hid (boxLk_kept bb5 (by omega) (by omega) N1.out)
      have Q2 := Lib.hid (boxLk_kept bb5 (by omega) (by omega) N2.out)
      have Q4 := Lib.hid (boxLk_kept bb5 (by omega) (by omega) N4.out)
      have QB : Hid (Below w.heap.size w w5) := NB.out.grown bb5 (by have := NB.out.size; omega) (fun j e => by obtain rfl := Option.some.inj e; omega)
      have QO := Lib.hid (World.ownsRow.kept NO.out bb5 (Or.inr (fun e => by have := hA.out gb e; omega)))
      have Qs : tq < w5.heap.size := by have := bb5.size; omega
      have HL5 := Lib.hid hL5
      clear hL5 bb5 N1 N2 N4 NB NO Ns CJ B t0 t1 f0 f1 p0 p1 u0 u1 u2 u3
      obtain ⟨⟨t0, t1⟩, ⟨f0, f1⟩, -⟩ := boxed2_at Q4.out
      cases b with
      | false =>
        have hRT : R F = R T := by
          by_cases e : R F = R T
          · exact e
          · have := HB.out.mpr e; simp at this
        obtain ⟨G1, ho1⟩ := grp_none hG.out HX.out OKX.out (by simpa using hRT) (by first | exact hF0 | simpa using hF0 | skip)
        have G1 := Lib.hid G1
        have O1 : Hid (OwnI w5 w.heap.size (.slice ad m c1) (trTo n xs (k + 1)).o) := by show OwnI _ _ _ _; rw [ho1]; exact QO.out
        have m1 : Hid (m = (trTo n xs (k + 1)).o.length) := by show _ = _; rw [ho1]; exact hml.out
        clear ho1 hF0 hF1 hml hG QO HB hRT
        go_wp2
        exact ⟨⟨k + 1, m, c1, ad, _, _, _, _, by omega, hm, by go_num, m1, G1, HL5, O1, hA, Q1, Q2, Q4, QB, Qs⟩, by simp only [intOf]; omega⟩
      | true =>
        have hRT := HB.out.mp (by trivial)
        obtain ⟨G1, ho1⟩ := grp_join hG.out HX.out XS.out (by simpa using hRT) (by first | simpa using hF1 rfl | simpa using hF1)
        have mn := trTo_o_len G1
        have G1 := Lib.hid G1
        have HO1 := Lib.hid ho1
        have m1 : Hid (m + 1 = (trTo n xs (k + 1)).o.length) := by show _ = _; rw [ho1, List.length_append, ← hml.out]; rfl
        rw [← m1.out] at mn
        have own : Hid (w5.ownsRow w.heap.size 2 1 (.slice ad m c1) m ((trTo n xs k).o.map (Value.int .i64))) := by
          have e := QO.out
          rw [← hml.out] at e
          exact e
        have lgz := own.out.lt
        have hsz := QB.out.size
        clear ho1 hF0 hF1 hG QO HB hRT hml
        go_wp2_with (at_builtin; refine wpList_append_lies _ rfl _ _ _ rfl w.heap.size 2 i0 _ 1 8 Tryd.underlying28 hi hz0 hz1 hz2 rfl (by omega) _ _ _ rfl (own.out.alloc _) ⟨w5.heap.size, 0, none⟩ 1 1 [.int .i64 k] rfl rfl (World.news_of_block (cs := #[.int .i64 k]) (t := 2) (fr := (0, 0)) (heap_alloc_new w5 _)) (by simp [Value.oneCell']) (by omega) (by unfold maxLen; omega) (by omega) (by simp only [World.size_alloc]; omega) _ rfl ?_)
        intro gg cap1 w6 hown1 hgrow hat hlt'
        have gr : w5.grownBy w6 ((Value.slice ad m c1).ownBlock) := grownBy_trans' (World.grownBy_alloc w5 _ _) hgrow
        have P1 : Hid (w6.heap[w.heap.size]? = _) := (gr.block _ (by omega) (fun e => by have := hA.out _ e.symm; omega)).trans Q1.out
        have P2 : Hid (w6.heap[w.heap.size + 1]? = some (.cells #[.slice none 0 0, .slice none 0 0] 67 (0, 0))) := (gr.block _ (by omega) (fun e => by have := hA.out _ e.symm; omega)).trans Q2.out
        have P4 : Hid (w6.heap[tq]? = some (.cells #[.slice (some ⟨gb, 0, none⟩) n n, .slice ad m c1] 67 (0, 0))) := (gr.block _ (by omega) (fun e => by have := hA.out _ e.symm; omega)).trans Q4.out
        have PB : Hid (Below w.heap.size w w6) := QB.out.grown gr (by omega) (fun j e => by have := hA.out j e; omega)
        have PL := Lib.hid (HL5.out.kept gr (Or.inr (fun e => by have := hA.out gb e.symm; omega)))
        have gg1 : tq < gg := by
          rcases hat with hat | hat
          · exact hA.out gg hat
          · omega
        have O6 : Hid (OwnI w6 w.heap.size (.slice (some ⟨gg, 0, none⟩) (m + 1) cap1) (trTo n xs (k + 1)).o) := by
          show OwnI _ _ _ _
          unfold OwnI
          rw [← m1.out, HO1.out, List.map_append]
          exact hown1
        have s6 := gr.size
        clear hown1 hgrow hat hlt' own lgz Q1 Q2 Q4 QB HL5 hA gr HO1 t0 t1 f0 f1
        obtain ⟨⟨t0, t1⟩, ⟨f0, f1⟩, -⟩ := boxed2_at P4.out
        have R1 : Hid ((w6.setCell ⟨tq, 1, none⟩ (.slice (some ⟨gg, 0, none⟩) (m + 1) cap1)).heap[w.heap.size]? = _) := (Below.heap_setCell _ _ _ _ (by show w.heap.size ≠ tq; omega)).trans P1.out
        have R2 : Hid ((w6.setCell ⟨tq, 1, none⟩ (.slice (some ⟨gg, 0, none⟩) (m + 1) cap1)).heap[w.heap.size + 1]? = some (.cells #[.slice none 0 0, .slice none 0 0] 67 (0, 0))) := (Below.heap_setCell _ _ _ _ (by show w.heap.size + 1 ≠ tq; omega)).trans P2.out
        have R4 : Hid ((w6.setCell ⟨tq, 1, none⟩ (.slice (some ⟨gg, 0, none⟩) (m + 1) cap1)).heap[tq]? = some (.cells #[.slice (some ⟨gb, 0, none⟩) n n, .slice (some ⟨gg, 0, none⟩) (m + 1) cap1] 67 (0, 0))) := putSv_1 _ P4.out
        have RB : Hid (Below w.heap.size w (w6.setCell ⟨tq, 1, none⟩ (.slice (some ⟨gg, 0, none⟩) (m + 1) cap1))) := PB.out.setCell (p := ⟨tq, 1, none⟩) (by show w.heap.size ≤ tq; omega) _
        have RL : Hid (OwnLk (w6.setCell ⟨tq, 1, none⟩ (.slice (some ⟨gg, 0, none⟩) (m + 1) cap1)) w.heap.size gb n g5) := PL.out.of_block fun j hj => by
          have : gb = j := by simpa [Value.ownBlock] using hj
          exact Below.heap_setCell _ _ _ _ (by show j ≠ tq; omega)
        have RO : Hid (OwnI (w6.setCell ⟨tq, 1, none⟩ (.slice (some ⟨gg, 0, none⟩) (m + 1) cap1)) w.heap.size (.slice (some ⟨gg, 0, none⟩) (m + 1) cap1) (trTo n xs (k + 1)).o) := O6.out.of_block fun j hj => by
          have : gg = j := by simpa [Value.ownBlock] using hj
          exact Below.heap_setCell _ _ _ _ (by show j ≠ tq; omega)
        have RA : Hid (∀ b, (Value.slice (some ⟨gg, 0, none⟩) (m + 1) cap1).ownBlock = some b → tq < b) := fun b hb => by
          have : gg = b := by simpa [Value.ownBlock] using hb
          omega
        have Rs : tq < (w6.setCell ⟨tq, 1, none⟩ (.slice (some ⟨gg, 0, none⟩) (m + 1) cap1)).heap.size := by simp; omega
        clear P1 P2 P4 PB PL O6
        go_wp2
        exact ⟨⟨k + 1, m + 1, cap1, _, _, _, _, _, by omega, by omega, by go_num, m1, G1, RL, RO, RA, R1, R2, R4, RB, Rs⟩, by simp only [intOf]; omega⟩
    · obtain rfl : k = n0 := by omega
      have ga := grp_all hG.out XS.out
      rw [← hml.out] at ga
      have q1 : IntKind.i64.wrap ((n : Int) - 1) = (n : Int) - 1 := IntWalk.i64_in _ (by omega)
      obtain ⟨⟨s0, s1⟩, ⟨z0, z1⟩, lR⟩ := boxed2_at M2.out
      by_cases hc : (m : Int) < (n : Int) - 1
      · have ht : trAll (trTo n xs k) = false := by
          cases h : trAll (trTo n xs k)
          · rfl
          · rw [h] at ga; have := ga.mp rfl; omega
        have HT := Lib.hid ht
        have e1 : wr.cell? ⟨1, 0, none⟩ = some (.iface 136 (.pointer (some a1))) := (B.out.cell (p := ⟨1, 0, none⟩) lv).trans H1.out
        have BE : Hid (Below w.heap.size w ((wr.setCell ⟨w.heap.size + 1, 0, none⟩ (.slice none 0 0)).setCell ⟨w.heap.size + 1, 1, none⟩ (.slice none 0 0)).drew) := ((B.out.setCell (p := ⟨w.heap.size + 1, 0, none⟩) (by show w.heap.size ≤ w.heap.size + 1; omega) _).setCell (p := ⟨w.heap.size + 1, 1, none⟩) (by show w.heap.size ≤ w.heap.size + 1; omega) _).drew
        clear ga ht hG hL hO hml
        go_wp2_with fail
        go_region
        all_goals
          go_wp2
          refine bodyPost_ret (v := .tuple #[.agg #[.slice none 0 0, .slice none 0 0], .iface 136 (.pointer (some a1))]) (by simp [results, Tryd.results48, go_sem, s0, s1]; try rfl) rfl ?_
          exact ⟨BE.out, .inl ⟨HT.out, rfl⟩⟩
      · have ht : trAll (trTo n xs k) = true := ga.mpr (by omega)
        have HT := Lib.hid ht
        have BE : Hid (Below w.heap.size w ((wr.setCell ⟨w.heap.size + 1, 0, none⟩ (.slice (some ⟨gb, 0, none⟩) n n)).setCell ⟨w.heap.size + 1, 1, none⟩ (.slice ad m c1))) := (B.out.setCell (p := ⟨w.heap.size + 1, 0, none⟩) (by show w.heap.size ≤ w.heap.size + 1; omega) _).setCell (p := ⟨w.heap.size + 1, 1, none⟩) (by show w.heap.size ≤ w.heap.size + 1; omega) _
        have LE : Hid (OwnLk ((wr.setCell ⟨w.heap.size + 1, 0, none⟩ (.slice (some ⟨gb, 0, none⟩) n n)).setCell ⟨w.heap.size + 1, 1, none⟩ (.slice ad m c1)) w.heap.size gb n gl) := hL.out.of_block fun j hj => by
          have : gb = j := by simpa [Value.ownBlock] using hj
          rw [Below.heap_setCell _ _ _ _ (by show j ≠ w.heap.size + 1; omega), Below.heap_setCell _ _ _ _ (by show j ≠ w.heap.size + 1; omega)]
        have OE : Hid (OwnI ((wr.setCell ⟨w.heap.size + 1, 0, none⟩ (.slice (some ⟨gb, 0, none⟩) n n)).setCell ⟨w.heap.size + 1, 1, none⟩ (.slice ad m c1)) w.heap.size (.slice ad m c1) (trTo n xs k).o) := hO.out.of_block fun j hj => by
          have := hA.out j hj
          rw [Below.heap_setCell _ _ _ _ (by show j ≠ w.heap.size + 1; omega), Below.heap_setCell _ _ _ _ (by show j ≠ w.heap.size + 1; omega)]
        have AE : Hid (∀ b, (Value.slice ad m c1).ownBlock = some b → gb < b) := fun b hb => by have := hA.out b hb; omega
        clear ga ht hL hO hml hA
        go_wp2
        refine bodyPost_ret (v := .tuple #[.agg #[.slice (some ⟨gb, 0, none⟩) n n, .slice ad m c1], .nilIface]) (by simp [results, Tryd.results48, go_sem, s0, s1]; try rfl) rfl ?_
        refine ⟨BE.out, .inr ⟨HT.out, ?_⟩⟩
        first | exact ⟨gb, m, c1, ad, gl, R, S, D, rfl, hG.out, LE.out, OE.out, AE.out⟩ | exact ⟨gb, m, c1, ad, rfl, gl, ⟨R, S, D, hG.out⟩, LE.out, OE.out, AE.out⟩ | trace_state
end Go.Proofs.YtcmocilojloolaaDoor
