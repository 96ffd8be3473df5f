/- The program's stretches: a channel with room for one, and a select, in one goroutine. -/
import Derived.Test.YthhnnkgfnhggbabSSP
import Derived.Test.YthhnnkgfnhggbabRowB
import Derived.Test.YthhnnkgfnhggbabAppI
import Derived.Test.YthhnnkgfnhggbabTrS
import Derived.Test.YthhnnkgfnhggbabSettM
import Derived.Deep.DeepCutAuto
namespace Go.Proofs.Ythhnnkgfnhggbab
open Go.ChangeShapes Go.WideShapes Go.ChangeAt Go.RowKit
set_option linter.unusedVariables false
set_option linter.unusedSimpArgs false

theorem isDeep_any (x L : Int) (bx : Nat) (w : World) (b : Bool) (hb : b = decide (L ≤ x)) (hc : w.cell? ⟨bx, 0, none⟩ = some (.int .i64 L)) :
    Calls Try.prog 17 #[.int .i64 x, .pointer (some ⟨bx, 0, none⟩)] w fun e w' => e = .returned (.bool b) ∧ Below w.heap.size w w' := by
  subst hb
  go_enter Try.func17, Try.ntmps17
  go_wp2
  go_ret
  exact ⟨rfl, by go_grown⟩

theorem info_chan : ∃ i, Try.prog.info? 2 = some i ∧ i.bytes = 8 := by
  have h : (Try.prog.info? 2).map (·.bytes) = some 8 := by kernel_rfl
  obtain ⟨i, hi, hb⟩ := Option.map_eq_some_iff.1 h
  exact ⟨i, hi, hb⟩
theorem mk_chan (w : World) : (Instr.makeChan 37 (.int .i64 1)).run Try.prog w = .ok (.chan (some w.heap.size)) (w.alloc (.chan 1 #[] false 0 0 false)) := by
  obtain ⟨i, hi, hb⟩ := info_chan
  simpa using Go.Conc.run_makeChan (P := Try.prog) (w := w) Try.underlying37 hi .i64 1 (by omega) (by rw [hb]; omega)

theorem info_SS : (Try.prog.info? 22).map (fun i => (i.zero, i.size, i.bytes)) = some (some (.slice none 0 0), 1, 24) := by kernel_rfl

/-- What lies in the channel. -/
def bufOf : Option Nat → Array Value
  | none => #[]
  | some f => #[.int .i64 f]

theorem strS_step (zs : List Int) (L : Int) (k : Nat) (x : Int) (hx : zs[k]? = some x) : strS zs L (k + 1) = if L ≤ x then ((strS zs L k).1, some ((strS zs L k).2.getD k)) else
    match (strS zs L k).2 with
    | none => ((strS zs L k).1, none)
    | some f => ((strS zs L k).1 ++ [[(f : Int), (k : Int) - 1]], none) := by
  rw [strS, List.getD_eq_getElem?_getD, hx, Option.getD_some]
  rfl

set_option maxRecDepth 100000 in
set_option maxHeartbeats 8000000 in
theorem stretchesOf_any (v : Value) (zs : List Int) (L : Int) (bx : Nat) (w : World) (h : RdI w v zs) (lz : zs.length ≤ 1000) (l0 : 0 < zs.length) (hL : 0 < L) (hc : w.cell? ⟨bx, 0, none⟩ = some (.int .i64 L)) :
    Calls Try.prog 16 #[v, .func (.func 17) #[] #[.pointer (some ⟨bx, 0, none⟩)]] w fun e w' => ∃ v' xs, e = .returned v' ∧ OwnSS w' w.heap.size w'.heap.size v' xs ∧ xs.map Sl.t = strF zs L zs.length ∧ Below w.heap.size w w' := by
  obtain ⟨i0, hi, hz0, hz1, hz2⟩ := info_parts info_i64
  obtain ⟨j0, hj, hy0, hy1, hy2⟩ := info_parts info_SS
  have hmc := mk_chan
  have H := Lib.hid h
  obtain ⟨a, cap, rfl, -⟩ := h
  obtain ⟨n, hn⟩ : ∃ n, n = zs.length := ⟨_, rfl⟩
  have SC := Lib.hid (strS_closed zs L hL)
  rw [← hn] at H lz l0 SC ⊢
  have HN := Lib.hid hn
  have C1 := Lib.hid (fun w h => clone_any a cap n zs w hn (by omega) (by omega) h)
  have hbx : bx < w.heap.size := World.block_lt_of_cell? w _ hc
  have HC := Lib.hid hc
  clear hn hc
  go_enter Try.func16, Try.ntmps16
  go_wp2_with fail
  refine (C1.out _ (H.out.later (Below.alloc (Below.refl _ _) (Nat.le_refl _) _))).mono ?_
  rintro e w1 ⟨v1, rfl, o1, b1⟩
  obtain ⟨a1, c1, rfl⟩ := o1.fitS
  rw [← HN.out] at o1 ⊢
  simp only [World.size_alloc] at o1 b1
  have O1 : Hid (w1.ownsRow (w.heap.size + 1) 2 1 (.slice a1 n c1) n (zs.map (Value.int .i64))) := by
    show w1.ownsRow _ _ _ _ _ _
    unfold OwnI at o1
    rw [← HN.out] at o1
    exact o1
  have lt1 := o1.lt
  have B1 : Hid (Below w.heap.size w w1) := Below.trans (by go_grown) (b1.mono (by omega))
  have s1 : w.heap.size + 1 ≤ w1.heap.size := by have := b1.size; simpa using this
  have CH1 : Hid (w1.heap[w.heap.size]? = some (.chan 1 #[] false 0 0 false)) := by
    show _ = _
    rw [b1.block w.heap.size (by omega)]
    exact heap_alloc_new w _
  clear o1 b1
  go_wp2_with (at_builtin; refine wpList_append_lies _ rfl _ _ _ rfl (w.heap.size + 1) 2 i0 _ 1 8 Try.underlying22 hi hz0 hz1 hz2 rfl (by omega) _ _ _ rfl (O1.out.alloc _) ⟨w1.heap.size, 0, none⟩ 1 1 [.int .i64 0] rfl rfl (World.news_of_block (cs := #[.int .i64 0]) (t := 2) (fr := (0, 0)) (heap_alloc_new w1 _)) (by simp [Value.oneCell']) (by omega) (by unfold maxLen; omega) (by omega) (by simp only [World.size_alloc]; omega) _ rfl ?_)
  intro gg cap1 w5 hown1 hgrow hat hlt'
  obtain ⟨ZS, hZS⟩ : ∃ ZS, ZS = zs ++ [0] := ⟨_, rfl⟩
  have ZL : Hid (ZS.length = n + 1) := by show _ = _; rw [hZS, List.length_append, ← HN.out]; rfl
  rw [← hZS] at SC
  have O5 : Hid (OwnI w5 (w.heap.size + 1) (.slice (some ⟨gg, 0, none⟩) (n + 1) cap1) ZS) := by
    show OwnI _ _ _ _
    unfold OwnI
    rw [ZL.out, hZS, List.map_append]
    exact hown1
  have B5 : Hid (Below w.heap.size w w5) := B1.out.grown (grownBy_trans (World.grownBy_alloc w1 _ _) hgrow) (by omega) (fun j e => by have := (lt1 j e).1; omega)
  have s5 : w.heap.size < w5.heap.size := by have := hgrow.size; simp only [World.size_alloc] at this; omega
  have CH5 : Hid (w5.heap[w.heap.size]? = some (.chan 1 #[] false 0 0 false)) := by
    show _ = _
    rw [hgrow.block w.heap.size (by simp only [World.size_alloc]; omega) (fun e => by have := (lt1 _ e.symm).1; omega), Below.heap_alloc _ _ _ (by omega)]
    exact CH1.out
  have P5 : Hid (OwnSS w5 w5.heap.size w5.heap.size (.slice none 0 0) []) := OwnSS.nil w5 _ _ (Nat.le_refl _)
  have RESL := SC
  obtain ⟨B, hB⟩ : ∃ B, B = w5.heap.size := ⟨_, rfl⟩
  rw [← hB] at P5 s5
  have lB : B ≤ w5.heap.size := by omega
  clear hown1 hgrow hat hlt' O1 B1 CH1 lt1 s1 hZS hB SC
  go_wp2
  go_loopw [5, 17] (fun sv iv wr => ∃ (k m c2 C : Nat) (ad : Option Addr) (xs : List Sl) (buf : Array Value) (s r : Nat), k ≤ n + 1 ∧ iv = .int .i64 k ∧ sv = .slice ad m c2 ∧ m ≤ 1000 + 1 ∧ Hid (m = xs.length) ∧ Hid (xs.map Sl.t = (strS ZS L k).1) ∧ Hid (OwnSS wr B C (.slice ad m c2) xs) ∧ Hid (wr.heap[w.heap.size]? = some (.chan 1 buf false s r false)) ∧ Hid (buf = bufOf (strS ZS L k).2) ∧ Hid (OwnI wr (w.heap.size + 1) (.slice (some ⟨gg, 0, none⟩) (n + 1) cap1) ZS) ∧ Hid (Below w.heap.size w wr) ∧ B ≤ wr.heap.size) (fun _ iv _ => n + 1 - (intOf iv).toNat)
  case atStart => exact ⟨0, 0, 0, B, none, [], #[], 0, 0, by omega, rfl, rfl, by omega, rfl, rfl, P5, CH5, rfl, O5, B5, lB⟩
  case round =>
    obtain ⟨k, m, c2, C, ad, xs, buf, s, r, hk, rfl, rfl, hm, ml, mx, ho, hch, hbuf, hz, hbl, lb⟩ := hrel
    clear P5 CH5 O5 B5 lB
    by_cases hlt : k < n + 1
    · obtain ⟨x, hx⟩ : ∃ x, ZS[k]? = some x := ⟨_, List.getElem?_eq_getElem (by have := ZL.out; omega)⟩
      have c1 : wr.cell? ⟨gg, k, none⟩ = some (.int .i64 x) := hz.out.rd.cellAt hx
      have cb : wr.cell? ⟨bx, 0, none⟩ = some (.int .i64 L) := (hbl.out.cell (p := ⟨bx, 0, none⟩) hbx).trans HC.out
      have kl : (k : Int) < (n : Int) + 1 := by omega
      have hS := strS_step ZS L k x hx
      by_cases g : L ≤ x
      · have CB := Lib.hid (fun w hc => isDeep_any x L bx w true (decide_eq_true g).symm hc)
        rw [if_pos g] at hS
        have HS := Lib.hid hS
        clear hx hS g
        go_wp2_with fail
        refine (CB.out _ cb).mono ?_
        rintro e w2 ⟨rfl, b2⟩
        have sz := b2.size
        have cl : w.heap.size < wr.heap.size := by omega
        have B2 : Hid (Below w.heap.size w w2) := hbl.out.trans (b2.mono (by omega))
        have CH2 : Hid (w2.heap[w.heap.size]? = some (.chan 1 buf false s r false)) := by show _ = _; rw [b2.block _ cl]; exact hch.out
        have O2 : Hid (OwnSS w2 B C (.slice ad m c2) xs) := ho.out.later b2
        have Z2 : Hid (OwnI w2 (w.heap.size + 1) (.slice (some ⟨gg, 0, none⟩) (n + 1) cap1) ZS) := hz.out.below b2 fun k e => (hz.out.lt k e).2
        have lb2 : B ≤ w2.heap.size := by omega
        clear b2 ho hch hz hbl c1 cb CB
        have cl2 : w.heap.size < w2.heap.size := by omega
        have MX : Hid (xs.map Sl.t = (strS ZS L (k + 1)).1) := by show _ = _; rw [HS.out]; exact mx.out
        cases ho : (strS ZS L k).2 with
        | none =>
          have hb0 : buf = #[] := by have := hbuf.out; rw [ho] at this; exact this
          subst hb0
          have BF : Hid (#[Value.int .i64 k] = bufOf (strS ZS L (k + 1)).2) := by show _ = _; rw [HS.out, ho]; rfl
          clear ho HS mx hbuf
          go_upto_region 10 with (fail)
          refine Go.Proofs.Ythhnnkgfnhggbab.wp_sel_send_room (c := w.heap.size) (cap := 1) (buf := #[]) (s := s) (r := r) (tm := false) (v := .int .i64 k) (z := .int .i64 0) rfl rfl (by simp [go_sem, execOp, Go.Conc.scase, Act.eval]) CH2.out (by simp) ?_
          go_wp2
          exact ⟨⟨k + 1, m, c2, C, ad, xs, _, s + 1, r, by omega, by go_num, rfl, hm, ml, MX, O2.out.setChan s5, Go.Conc.heap_setChan _ _ _ _ _ _ _ _ cl2, BF, Z2.out.setChan CH2.out, Go.Conc.below_setChan B2.out (Nat.le_refl _) _ _ _ _ _ _, by rw [Go.Conc.size_setChan]; omega⟩, by simp only [intOf]; omega⟩
        | some f =>
          have hb0 : buf = #[.int .i64 f] := by have := hbuf.out; rw [ho] at this; exact this
          subst hb0
          have BF : Hid (#[Value.int .i64 f] = bufOf (strS ZS L (k + 1)).2) := by show _ = _; rw [HS.out, ho]; rfl
          clear ho HS mx hbuf
          go_upto_region 10 with (fail)
          refine Go.Proofs.Ythhnnkgfnhggbab.wp_sel_send_full (c := w.heap.size) (cap := 1) (buf := #[.int .i64 f]) (s := s) (r := r) (tm := false) (v := .int .i64 k) (z := .int .i64 0) rfl rfl (by simp [go_sem, execOp, Go.Conc.scase, Act.eval]) CH2.out (by simp) ?_
          go_wp2
          exact ⟨⟨k + 1, m, c2, C, ad, xs, _, s, r, by omega, by go_num, rfl, hm, ml, MX, O2, CH2, BF, Z2, B2, lb2⟩, by simp only [intOf]; omega⟩
      · have CB := Lib.hid (fun w hc => isDeep_any x L bx w false (decide_eq_false g).symm hc)
        rw [if_neg g] at hS
        have HS := Lib.hid hS
        have SL := strS_len ZS L k
        clear hx hS g
        go_wp2_with fail
        refine (CB.out _ cb).mono ?_
        rintro e w2 ⟨rfl, b2⟩
        have sz := b2.size
        have cl : w.heap.size < wr.heap.size := by omega
        have B2 : Hid (Below w.heap.size w w2) := hbl.out.trans (b2.mono (by omega))
        have CH2 : Hid (w2.heap[w.heap.size]? = some (.chan 1 buf false s r false)) := by show _ = _; rw [b2.block _ cl]; exact hch.out
        have O2 : Hid (OwnSS w2 B C (.slice ad m c2) xs) := ho.out.later b2
        have Z2 : Hid (OwnI w2 (w.heap.size + 1) (.slice (some ⟨gg, 0, none⟩) (n + 1) cap1) ZS) := hz.out.below b2 fun k e => (hz.out.lt k e).2
        have lb2 : B ≤ w2.heap.size := by omega
        clear b2 ho hch hz hbl c1 cb CB
        have cl2 : w.heap.size < w2.heap.size := by omega
        cases ho : (strS ZS L k).2 with
        | none =>
          have hb0 : buf = #[] := by have := hbuf.out; rw [ho] at this; exact this
          subst hb0
          have hS := HS.out
          rw [ho] at hS
          have BF : Hid ((#[] : Array Value) = bufOf (strS ZS L (k + 1)).2) := by show _ = _; rw [hS]; rfl
          have MX : Hid (xs.map Sl.t = (strS ZS L (k + 1)).1) := by show _ = _; rw [hS]; exact mx.out
          clear ho HS mx hbuf hS SL
          go_upto_region 12 with (fail)
          refine Go.Proofs.Ythhnnkgfnhggbab.wp_sel_recv_none (c := w.heap.size) (cap := 1) (s := s) (r := r) (tm := false) (z := .int .i64 0) rfl rfl (by simp [go_sem, execOp, Go.Conc.rcase, Act.eval]) CH2.out ?_
          go_wp2
          exact ⟨⟨k + 1, m, c2, C, ad, xs, _, s, r, by omega, by go_num, rfl, hm, ml, MX, O2, CH2, BF, Z2, B2, lb2⟩, by simp only [intOf]; omega⟩
        | some f =>
          have hb0 : buf = #[.int .i64 f] := by have := hbuf.out; rw [ho] at this; exact this
          subst hb0
          have hS := HS.out
          rw [ho] at hS
          have fk : f < k := strS_le ZS L k f ho
          have mk : m + 1 ≤ 1001 := by
            have e1 := ml.out
            have e2 := congrArg List.length mx.out
            rw [List.length_map] at e2
            rw [ho] at SL
            simp at SL
            omega
          have BF : Hid ((#[] : Array Value) = bufOf (strS ZS L (k + 1)).2) := by show _ = _; rw [hS]; rfl
          have MX : Hid ((xs ++ [(⟨some ⟨w2.heap.size, 0, none⟩, 2, [(f : Int), (k : Int) - 1]⟩ : Sl)]).map Sl.t = (strS ZS L (k + 1)).1) := by show _ = _; rw [hS, List.map_append, mx.out]; rfl
          have q1 : IntKind.i64.wrap ((k : Int) - 1) = (k : Int) - 1 := IntWalk.i64_in _ (by omega)
          clear ho HS mx hbuf hS SL
          go_upto_region 12 with (fail)
          refine Go.Proofs.Ythhnnkgfnhggbab.wp_sel_recv_buf (c := w.heap.size) (cap := 1) (buf := #[.int .i64 f]) (closed := false) (s := s) (r := r) (tm := false) (z := .int .i64 0) rfl rfl (by simp [go_sem, execOp, Go.Conc.rcase, Act.eval]) CH2.out (by simp) ?_
          obtain ⟨w3, hw3⟩ : ∃ w3, w3 = w2.setChan w.heap.size 1 ((#[.int .i64 f] : Array Value).extract 1 (#[Value.int .i64 (f : Int)] : Array Value).size) false s (r + 1) false := ⟨_, rfl⟩
          rw [← hw3]
          have O3 : Hid (OwnSS w3 B C (.slice ad m c2) xs) := by rw [hw3]; exact O2.out.setChan s5
          have CH3 : Hid (w3.heap[w.heap.size]? = some (.chan 1 #[] false s (r + 1) false)) := by show _ = _; rw [hw3]; exact Go.Conc.heap_setChan _ _ _ _ _ _ _ _ cl2
          have Z3 : Hid (OwnI w3 (w.heap.size + 1) (.slice (some ⟨gg, 0, none⟩) (n + 1) cap1) ZS) := by rw [hw3]; exact Z2.out.setChan CH2.out
          have B3 : Hid (Below w.heap.size w w3) := by rw [hw3]; exact Go.Conc.below_setChan B2.out (Nat.le_refl _) _ _ _ _ _ _
          have s3 : w3.heap.size = w2.heap.size := by rw [hw3]; exact Go.Conc.size_setChan _ _ _ _ _ _ _ _
          rw [← s3] at MX lb2
          have OW : Hid (w3.ownsRow B 22 1 (.slice ad m c2) m (xs.flatMap encSl)) := by
            have := O3.out.rows
            unfold OwnS at this
            rw [← ml.out] at this
            exact this
          have olt := O3.out.rows.lt
          clear hw3 O2 CH2 Z2 B2 s3 cl2 cl sz lb w2
          go_wp2_with (at_builtin; refine wpList_append_lies _ rfl _ _ _ rfl B 22 j0 _ 1 24 Try.underlying23 hj hy0 hy1 hy2 rfl (by omega) _ _ _ rfl ((OW.out.alloc _).alloc _) ⟨w3.heap.size + 1, 0, none⟩ 1 1 [.slice (some ⟨w3.heap.size, 0, none⟩) 2 2] rfl rfl (World.news_of_block (cs := #[.slice (some ⟨w3.heap.size, 0, none⟩) 2 2]) (t := 22) (fr := (0, 0)) (by have := heap_alloc_new (w3.alloc (.cells #[.int .i64 f, .int .i64 ((k : Int) - 1)] 2)) (.cells #[.slice (some ⟨w3.heap.size, 0, none⟩) 2 2] 22); simpa only [World.size_alloc] using this)) (by simp [Value.oneCell']) (by omega) (by unfold maxLen; omega) (by omega) (by simp only [World.size_alloc]; omega) _ rfl ?_)
          intro g6 cap6 w6 hown1 hgrow hat hlt'
          have O6 : Hid (OwnSS w6 B w6.heap.size (.slice (some ⟨g6, 0, none⟩) (m + 1) cap6) (xs ++ [(⟨some ⟨w3.heap.size, 0, none⟩, 2, [(f : Int), (k : Int) - 1]⟩ : Sl)])) := O3.out.pushed lb2 hown1 ml.out hgrow
          have g3 : w3.grownBy w6 (Value.slice ad m c2).ownBlock := grownBy_trans (World.grownBy_alloc w3 _ _) (grownBy_trans (World.grownBy_alloc _ _ _) hgrow)
          have s6 := g3.size
          have CH6 : Hid (w6.heap[w.heap.size]? = some (.chan 1 #[] false s (r + 1) false)) := by
            show _ = _
            rw [g3.block w.heap.size (by omega) (fun e => by have := (olt _ e.symm).1; omega)]
            exact CH3.out
          have Z6 : Hid (OwnI w6 (w.heap.size + 1) (.slice (some ⟨gg, 0, none⟩) (n + 1) cap1) ZS) := Z3.out.of_blockS fun b hb => g3.block b (Z3.out.lt b hb).2 (fun c => own_typesS O3.out.rows Z3.out c.symm hb rfl)
          have B6 : Hid (Below w.heap.size w w6) := B3.out.grown g3 (by omega) (fun j e => by have := (olt j e).1; omega)
          have L6 : Hid (m + 1 = (xs ++ [(⟨some ⟨w3.heap.size, 0, none⟩, 2, [(f : Int), (k : Int) - 1]⟩ : Sl)]).length) := by show _ = _; rw [List.length_append, ml.out]; rfl
          have lb6 : B ≤ w6.heap.size := by omega
          clear hown1 hgrow hat hlt' g3 olt OW O3 CH3 Z3 B3 ml hm
          go_wp2
          exact ⟨⟨k + 1, m + 1, cap6, w6.heap.size, _, _, _, s, r + 1, by omega, by go_num, rfl, by omega, L6, MX, O6, CH6, BF, Z6, B6, lb6⟩, by simp only [intOf]; omega⟩
    · obtain rfl : k = n + 1 := by omega
      have RX : Hid (xs.map Sl.t = strF zs L n) := by show _ = _; rw [mx.out, RESL.out]
      clear mx hbuf hch hz
      have sB : w.heap.size ≤ B := by omega
      have O7 : Hid (OwnSS wr w.heap.size wr.heap.size (.slice ad m c2) xs) := ho.out.wide sB
      go_wp2
      go_ret
      exact ⟨_, xs, rfl, O7.out, RX.out, hbl.out⟩
end Go.Proofs.Ythhnnkgfnhggbab
