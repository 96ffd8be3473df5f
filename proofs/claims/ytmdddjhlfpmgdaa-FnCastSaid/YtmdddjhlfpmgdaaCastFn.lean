/- FnCast: with the fewest moulds there are no short days, with one mould fewer the told day is short, casting can be put off by the latest start and not by one day more, and there is never less than nothing in stock. -/
import Derived.Test.YtmdddjhlfpmgdaaB10W
import Derived.Test.YtmdddjhlfpmgdaaCastM
import Derived.Test.YtmdddjhlfpmgdaaWorkX
import Derived.Test.YtmdddjhlfpmgdaaWorkY
import Derived.Test.YtmdddjhlfpmgdaaWorkZ
import Derived.BigQuiet
namespace Go.Proofs.Ytmdddjhlfpmgdaa
open Go.ChangeShapes Go.WideShapes Go.ChangeAt Go.RowKit
set_option linter.unusedVariables false
set_option linter.unusedSimpArgs false

theorem putWk_2 {w : World} {g : Nat} {t : TypeId} {a b c : Value} (u : Value) (h : w.heap[g]? = some (.cells #[a, b, c] t (0, 0))) : (w.setCell ⟨g, 2, none⟩ u).heap[g]? = some (.cells #[a, b, u] t (0, 0)) := by simpa using heap_setCell_same _ g 2 _ t u h

set_option maxRecDepth 100000 in
set_option maxHeartbeats 2000000 in
theorem b10Has_any (v : Value) (xs : List Int) (n : Int) (w : World) (h : RdI w v xs) (lx : xs.length ≤ 1048576) (b : Bool) (hb : b = true ↔ n ∈ xs) :
    Calls Try.prog 36 #[v, .int .i64 n] w fun e w' => e = .returned (.bool b) ∧ w = w' := by
  have H := Lib.hid h
  have HB := Lib.hid hb
  obtain ⟨a, cap, rfl, _⟩ := h
  obtain ⟨l, hl⟩ : ∃ l, l = xs.length := ⟨_, rfl⟩
  rw [← hl] at H lx
  rw [← hl]
  have HL := Lib.hid hl
  clear hb hl
  go_enter Try.func36, Try.ntmps36
  go_wp2
  go_loopw [5] (fun i wr => ∃ k : Nat, k ≤ l ∧ i = .int .i64 k ∧ Hid (n ∉ xs.take k) ∧ wr = w) (fun i _ => l - (intOf i).toNat)
  case atStart => exact ⟨0, by omega, rfl, by show n ∉ _; simp, rfl⟩
  case round =>
    obtain ⟨k, hk, rfl, hn, rfl⟩ := hrel
    by_cases hlt : k < l
    · obtain ⟨c, hx⟩ : ∃ x, xs[k]? = some x := ⟨_, List.getElem?_eq_getElem (by have := HL.out; omega)⟩
      obtain ⟨ba, oa, rfl, e0⟩ := H.out.at1 k c hx
      by_cases e : c = n
      · subst e
        obtain rfl : b = true := HB.out.mpr (List.mem_of_getElem? hx)
        clear hx hn
        go_wp2
        go_ret
        exact ⟨rfl, rfl⟩
      · have hn2 : Hid (n ∉ xs.take (k + 1)) := by
          show n ∉ _
          rw [List.take_add_one, hx]
          simp only [Option.toList_some, List.mem_append, List.mem_singleton]
          rintro (q | q)
          · exact hn.out q
          · exact e q.symm
        have d0 : (c == n) = false := by simp; exact e
        clear hx hn e
        go_wp2
        exact ⟨⟨k + 1, by omega, by go_num, hn2, by first | rfl | trivial⟩, by simp only [intOf]; omega⟩
    · obtain rfl : k = l := by omega
      obtain rfl : b = false := b_false HB.out (fun q => hn.out (by rwa [List.take_of_length_le (by have := HL.out; omega)]))
      clear hn
      go_wp2
      go_ret
      exact ⟨rfl, rfl⟩

set_option maxRecDepth 100000 in
set_option maxHeartbeats 16000000 in
theorem walkFnCast (w : World) (a0 : Option Addr) (len0 cap0 : Nat) (z0 : List Int) (w0 : IsRow .u8 w a0 len0 cap0 z0) (a1 : Option Addr) (len1 cap1 : Nat) (z1 : List Int) (w1 : IsRow .u8 w a1 len1 cap1 z1) :
    Calls Try.prog 10 #[.slice a0 len0 cap0, .slice a1 len1 cap1] w fun e w' => e = .returned (.bool true) ∧ Below w.heap.size w w' := by
  have l0 := w0.len_le
  have l1 := w1.len_le
  obtain ⟨r0, hr0⟩ := w0.rdB
  by_cases h : len0 ≤ 1048576 ∧ len1 ≤ 1048576
  rotate_left
  · have LG := Lib.hid (fun w => b10Long_any a0 a1 len0 len1 cap0 cap1 true (by simp; omega) w)
    clear h w0 w1 l0 l1 r0 hr0
    go_enter Try.func10, Try.ntmps10
    go_wp2_with fail
    refine (LG.out _).mono ?_
    rintro e w' ⟨rfl, rfl⟩
    go_wp2
    go_ret
    exact ⟨rfl, Below.refl _ _⟩
  have LG := Lib.hid (fun w => b10Long_any a0 a1 len0 len1 cap0 cap1 false (by simp; omega) w)
  have DR := Lib.hid (b10Orders_any w (.slice a0 len0 cap0) (z0.take len0) r0 (by rw [hr0]; omega))
  have HM := Lib.hid w1
  have lm := h.2
  have CA := Lib.hid (fun w h => b10At_any a1 len1 cap1 z1 w h lm 0 (by omega) 201 (by omega) (by omega))
  clear h w0 w1 l0 l1 r0 hr0
  go_enter Try.func10, Try.ntmps10
  go_wp2_with fail
  refine (LG.out _).mono ?_
  rintro e w' ⟨rfl, rfl⟩
  go_wp2_with fail
  refine DR.out.mono ?_
  rintro e w2 ⟨u, xs, c0, u0, rfl, o2, b2, oks, ⟨c1, c4⟩, v0, v8⟩
  have B2 := Lib.hid b2
  have HR := Lib.hid (o2.rd encOd_len)
  obtain ⟨ad, cp, rfl⟩ := o2.form
  obtain ⟨nn, hN⟩ : ∃ n, n = xs.length := ⟨_, rfl⟩
  rw [← hN] at HR
  rw [← hN]
  have lz : xs.length ≤ 1048576 := by have := oks.1; omega
  obtain ⟨n, due, b, hres⟩ := mouldRes_ex c0 u0 xs
  have CF := Lib.hid (fun w h => implMould_any c0 u0 (.slice ad nn cp) xs w h lz n due b hres)
  have CV := Lib.hid (fun w h => implOrders_any (.slice ad nn cp) xs w h lz true (by simpa using oks))
  have HRES := Lib.hid hres
  have OKS := Lib.hid oks
  have n8 : nn ≤ 8 := by have := oks.1; omega
  have LZ := Lib.hid lz
  clear b2 o2 LG DR hres oks hN lz
  go_wp2_with fail
  refine (CF.out _ HR.out).mono ?_
  rintro e w3 ⟨rfl, c3⟩
  have D3 : Hid (Below w2.heap.size w2 w3) := c3
  clear c3 CF
  cases b with
  | false =>
    have CZ := Lib.hid (fun w => implWorks_blw ⟨0, 0, 0⟩ false ⟨fun h => (by cases h), fun k => absurd k.1.1 (by show ¬ (1 : Int) ≤ 0; omega)⟩ w)
    go_wp2_with fail
    refine (CV.out _ (HR.out.later D3.out)).mono ?_
    rintro e w4 ⟨rfl, c4'⟩
    have D4 : Hid (Below w2.heap.size w2 w4) := D3.out.trans (c4'.mono D3.out.size)
    clear c4'
    go_wp2_with fail
    refine (CZ.out _).mono ?_
    rintro e w5 ⟨rfl, c5⟩
    have D5 : Hid (Below w2.heap.size w2 w5) := D4.out.trans (c5.mono D4.out.size)
    clear c5
    go_wp2
    go_ret
    exact ⟨rfl, B2.out.trans (D5.out.mono B2.out.size)⟩
  | true =>
  obtain ⟨hv, hn, hd⟩ : MouldV c0 u0 xs ∧ n = (bestT c0 u0 xs xs.length).1 ∧ due = (bestT c0 u0 xs xs.length).2 := by
    rcases HRES.out with q | q
    · exact ⟨q.1, q.2.1, q.2.2.1⟩
    · have := q.2.2.2; simp at this
  have ok := mould_ok hv
  have en := mould_enough hv
  have le := mould_less hv
  rw [← hn] at ok en le
  rw [← hd] at le
  obtain ⟨m, hm⟩ := isLate_ex _ xs en
  have oks := OKS.out
  have lz := LZ.out
  have n1 : 1 ≤ n := ok.1.1
  have n200 : n ≤ 200 := ok.1.2
  have m200 : m ≤ 200 := hm.1
  have CS1 : Hid (∀ w, RdS 2 encOd w (.slice ad nn cp) xs → Calls Try.prog 22 #[.agg #[.int .i64 n, .int .i64 c0, .int .i64 u0], .slice ad nn cp] w fun e w' => ∃ au cu, e = .returned (.tuple #[.slice au 0 cu, .bool true]) ∧ Below w.heap.size w w') := fun w h => (implShort_any ⟨n, c0, u0⟩ _ xs w h lz [] true (.inl ⟨⟨ok, oks⟩, by have := Classical.not_not.mp en; exact this.symm, rfl⟩)).mono fun e w' ⟨u, h1, h2, h3⟩ => by
    obtain ⟨au, cu, rfl, -⟩ := h2.rd
    exact ⟨au, cu, h1, h3⟩
  have CL : Hid (∀ w, RdS 2 encOd w (.slice ad nn cp) xs → Calls Try.prog 30 #[.agg #[.int .i64 n, .int .i64 c0, .int .i64 u0], .slice ad nn cp] w fun e w' => e = .returned (.tuple #[.int .i64 m, .bool true]) ∧ Below w.heap.size w w') := fun w h => implLate_any ⟨n, c0, u0⟩ _ xs w h lz m true (.inl ⟨⟨⟨ok, oks⟩, en⟩, ⟨m, rfl, hm⟩, rfl⟩)
  have CK : Hid (∀ w (d : Int), 0 ≤ d → d < 201 → RdS 2 encOd w (.slice ad nn cp) xs → Calls Try.prog 32 #[.agg #[.int .i64 n, .int .i64 c0, .int .i64 u0], .slice ad nn cp, .int .i64 d] w fun e w' => ∃ r : Int, e = .returned (.tuple #[.int .i64 r, .bool true]) ∧ ¬ r < 0 ∧ Below w.heap.size w w') := fun w d d0 d1 h => by
    have e0 : shortT n c0 u0 xs 0 xs.length = [] := Classical.not_not.mp en
    have sp := stock_pos ok oks en (show d ≤ 200 by omega) xs.length (Nat.le_refl _)
    refine (implStock_any ⟨n, c0, u0⟩ _ xs d w h lz _ true (.inl ⟨⟨⟨ok, oks⟩, ⟨d0, by omega⟩, ?_⟩, rfl, rfl⟩)).mono fun e w' ⟨h1, h2⟩ => ⟨_, h1, ?_, h2⟩
    · show ¬ ShortBy (shortT n c0 u0 xs 0 xs.length) d
      rw [e0]
      rintro ⟨z, hz, -⟩
      simp at hz
    · omega
  have CS2 : 1 < n → Hid (∀ w, RdS 2 encOd w (.slice ad nn cp) xs → Calls Try.prog 22 #[.agg #[.int .i64 (n - 1), .int .i64 c0, .int .i64 u0], .slice ad nn cp] w fun e w' => ∃ u, e = .returned (.tuple #[u, .bool true]) ∧ RdI w' u (shortT (n - 1) c0 u0 xs 0 xs.length) ∧ Below w.heap.size w w') := fun l w h => (implShort_any ⟨n - 1, c0, u0⟩ _ xs w h lz _ true (.inl ⟨⟨⟨⟨by show 1 ≤ n - 1; omega, by show n - 1 ≤ 200; omega⟩, ok.2⟩, oks⟩, rfl, rfl⟩)).mono fun e w' ⟨u, h1, h2, h3⟩ => ⟨u, h1, h2.rd, h3⟩
  have CS3 : u0 + m ≤ 40 → Hid (∀ w, RdS 2 encOd w (.slice ad nn cp) xs → Calls Try.prog 22 #[.agg #[.int .i64 n, .int .i64 c0, .int .i64 (u0 + m)], .slice ad nn cp] w fun e w' => ∃ au cu, e = .returned (.tuple #[.slice au 0 cu, .bool true]) ∧ Below w.heap.size w w') := fun l w h => (implShort_any ⟨n, c0, u0 + m⟩ _ xs w h lz [] true (.inl ⟨⟨⟨ok.1, ok.2.1, by show 0 ≤ u0 + m; omega, by show u0 + m ≤ 40; omega⟩, oks⟩, by
      have := Classical.not_not.mp hm.2.1
      show [] = shortT n c0 (u0 + m) xs 0 xs.length
      rw [shortT_shift]; exact this.symm, rfl⟩)).mono fun e w' ⟨u, h1, h2, h3⟩ => by
    obtain ⟨au, cu, rfl, -⟩ := h2.rd
    exact ⟨au, cu, h1, h3⟩
  have CS4 : u0 + m + 1 ≤ 40 → m < 200 → Hid (∀ w, RdS 2 encOd w (.slice ad nn cp) xs → Calls Try.prog 22 #[.agg #[.int .i64 n, .int .i64 c0, .int .i64 (u0 + m + 1)], .slice ad nn cp] w fun e w' => ∃ au cu k, e = .returned (.tuple #[.slice au k cu, .bool true]) ∧ 0 < k ∧ Below w.heap.size w w') := fun l l2 w h => (implShort_any ⟨n, c0, u0 + m + 1⟩ _ xs w h lz _ true (.inl ⟨⟨⟨ok.1, ok.2.1, by show 0 ≤ u0 + m + 1; omega, l⟩, oks⟩, rfl, rfl⟩)).mono fun e w' ⟨u, h1, h2, h3⟩ => by
    obtain ⟨au, cu, rfl, -⟩ := h2.rd
    refine ⟨au, cu, _, h1, ?_, h3⟩
    apply List.length_pos_iff.mpr
    show shortT n c0 (u0 + m + 1) xs 0 xs.length ≠ []
    have := hm.2.2 (m + 1) (by omega) (by omega)
    rw [Int.add_assoc, shortT_shift]
    exact this
  have CB : Hid (∀ w v, RdI w v (shortT (n - 1) c0 u0 xs 0 xs.length) → Calls Try.prog 36 #[v, .int .i64 due] w fun e w' => e = .returned (.bool true) ∧ w = w') := fun w v h => b10Has_any v _ due w h (by have := shortT_len (n - 1) c0 u0 xs 0 xs.length; omega) true (by simpa using le)
  obtain ⟨L2, hL2⟩ : ∃ L2, L2 = shortT (n - 1) c0 u0 xs 0 xs.length := ⟨_, rfl⟩
  rw [← hL2] at CS2 CB
  have q1 : IntKind.i64.wrap (n - 1) = n - 1 := IntWalk.i64_in _ (by omega)
  have q2 : IntKind.i64.wrap (u0 + (m : Int)) = u0 + m := IntWalk.i64_in _ (by omega)
  have q3 : IntKind.i64.wrap (u0 + (m : Int) + 1) = u0 + m + 1 := IntWalk.i64_in _ (by omega)
  have m0 : ¬ (m : Int) < 0 := by omega
  have CS2' := Lib.hid CS2
  have CS3' := Lib.hid CS3
  have CS4' := Lib.hid CS4
  clear hv hn hd ok en le hm oks lz HRES hL2 LZ OKS CS2 CS3 CS4 CV c1 c4
  go_wp2_with fail
  have NB := Lib.hid (heap_alloc_new w3 (.cells #[.int .i64 n, .int .i64 c0, .int .i64 u0] 32))
  have DB : Hid (Below w2.heap.size w2 (w3.alloc (.cells #[.int .i64 n, .int .i64 c0, .int .i64 u0] 32))) := D3.out.alloc D3.out.size _
  have zb : w3.heap.size < (w3.alloc (.cells #[.int .i64 n, .int .i64 c0, .int .i64 u0] 32)).heap.size := by simp
  refine (CS1.out _ (HR.out.later DB.out)).mono ?_
  obtain ⟨P, hP⟩ : ∃ P, P = w3.heap.size := ⟨_, rfl⟩
  rw [← hP] at NB zb
  rw [← hP]
  generalize w3.alloc (.cells #[.int .i64 n, .int .i64 c0, .int .i64 u0] 32) = wb at *
  rintro e w4 ⟨au, cu, rfl, c4'⟩
  have D4 : Hid (Below w2.heap.size w2 w4) := DB.out.trans (c4'.mono DB.out.size)
  have N4 := Lib.hid ((c4'.block P zb).trans NB.out)
  have z4 : P < w4.heap.size := by have := c4'.size; omega
  clear c4' DB NB zb hP CS1 D3
  obtain ⟨⟨k0, k1, k2⟩, -⟩ := boxWk_at (q := ⟨n, c0, u0⟩) N4.out
  simp only [] at k0 k1 k2
  go_wp2_with fail
  refine (CL.out _ (HR.out.later D4.out)).mono ?_
  rintro e w5 ⟨rfl, c5⟩
  have D5 : Hid (Below w2.heap.size w2 w5) := D4.out.trans (c5.mono D4.out.size)
  have N5 := Lib.hid ((c5.block P z4).trans N4.out)
  have z5 : P < w5.heap.size := by have := c5.size; omega
  clear c5 D4 N4 z4 CL k0 k1 k2
  have KS : Hid (∀ w', Below w5.heap.size w5 w' → (w'.cell? ⟨P, 0, none⟩ = some (.int .i64 n) ∧ w'.cell? ⟨P, 1, none⟩ = some (.int .i64 c0) ∧ w'.cell? ⟨P, 2, none⟩ = some (.int .i64 u0))) := by
    intro w' b
    obtain ⟨⟨a0, a1, a2⟩, -⟩ := boxWk_at (q := ⟨n, c0, u0⟩) ((b.block P z5).trans N5.out)
    exact ⟨a0, a1, a2⟩
  obtain ⟨k0, k1, k2⟩ := KS.out _ (Below.refl _ _)
  go_wp2_with fail
  clear k0 k1 k2
  go_region_held3 (fun w' => (w'.cell? ⟨P, 0, none⟩ = some (.int .i64 n) ∧ w'.cell? ⟨P, 1, none⟩ = some (.int .i64 c0) ∧ w'.cell? ⟨P, 2, none⟩ = some (.int .i64 u0)))
    (first | exact KS.out _ DZ.out | exact KS.out _ (Below.refl _ _).drew)
    (first
      | (go_at_call 35; refine (CA.out _ (HM.out.later7 (B2.out.trans ((D5.out.trans ((Below.refl _ _).drew.mono D5.out.size)).mono B2.out.size)))).mono ?_; rintro e wz ⟨dd, rfl, d0, d1, rfl⟩)
      | (go_at_call 32; refine (CK.out _ dd d0 d1 (HR.out.later (D5.out.trans ((Below.refl _ _).drew.mono D5.out.size)))).mono ?_; rintro e wz ⟨r, rfl, r0, bz⟩; have DZ : Hid (Below w5.heap.size w5 wz) := (Below.refl _ _).drew.trans bz))
  rename_i hHeld
  clear hHeld
  have D6 : Hid (Below w2.heap.size w2 wz) := D5.out.trans (DZ.out.mono D5.out.size)
  clear D5 N5 z5 DZ KS bz CK CA HM d0 d1
  by_cases g1 : 1 < n
  · have CX := Lib.hid (CS2'.out g1)
    go_wp2_with fail
    refine (CX.out.out _ (HR.out.later D6.out)).mono ?_
    rintro e w7 ⟨u7, rfl, r7, c7⟩
    have D7 : Hid (Below w2.heap.size w2 w7) := D6.out.trans (c7.mono D6.out.size)
    have R7 := Lib.hid r7
    clear c7 r7 D6
    go_wp2_with fail
    refine (CB.out _ _ R7.out).mono ?_
    rintro e w' ⟨rfl, rfl⟩
    clear R7 CX CB CS2'
    by_cases g3 : u0 + (m : Int) ≤ 40
    · have CX := Lib.hid (CS3'.out g3)
      go_wp2_with fail
      have NB := Lib.hid (heap_alloc_new w7 (.cells #[.int .i64 n, .int .i64 c0, .int .i64 (u0 + m)] 32))
      have DB : Hid (Below w2.heap.size w2 (w7.alloc (.cells #[.int .i64 n, .int .i64 c0, .int .i64 (u0 + m)] 32))) := D7.out.alloc D7.out.size _
      have zb : w7.heap.size < (w7.alloc (.cells #[.int .i64 n, .int .i64 c0, .int .i64 (u0 + m)] 32)).heap.size := by simp
      have zw : w2.heap.size ≤ w7.heap.size := D7.out.size
      refine (CX.out.out _ (HR.out.later DB.out)).mono ?_
      obtain ⟨P2, hP2⟩ : ∃ P2, P2 = w7.heap.size := ⟨_, rfl⟩
      rw [← hP2] at NB zb zw
      rw [← hP2]
      generalize w7.alloc (.cells #[.int .i64 n, .int .i64 c0, .int .i64 (u0 + m)] 32) = wx at *
      rintro e w8 ⟨au3, cu3, rfl, c8⟩
      have D8 : Hid (Below w2.heap.size w2 w8) := DB.out.trans (c8.mono DB.out.size)
      have N8 := Lib.hid ((c8.block P2 zb).trans NB.out)
      have z8 : P2 < w8.heap.size := by have := c8.size; omega
      clear c8 DB NB zb hP2 CX CS3' D7
      obtain ⟨⟨k0, k1, k2⟩, ⟨f0, f1, f2⟩, -⟩ := boxWk_at (q := ⟨n, c0, u0 + m⟩) N8.out
      simp only [] at k0 k1 k2
      have BE : Hid (Below w2.heap.size w2 (w8.setCell ⟨P2, 2, none⟩ (.int .i64 (u0 + m + 1)))) := D8.out.setCell (p := ⟨P2, 2, none⟩) zw _
      have BF : Hid (Below w.heap.size w (w8.setCell ⟨P2, 2, none⟩ (.int .i64 (u0 + m + 1)))) := B2.out.trans (BE.out.mono B2.out.size)
      by_cases g4 : u0 + (m : Int) + 1 ≤ 40
      · by_cases g5 : m < 200
        · have CY := Lib.hid (CS4'.out g4 g5)
          have g5' : (m : Int) < 200 := by omega
          clear CS4'
          go_wp2_with fail
          refine (CY.out.out _ (HR.out.later BE.out)).mono ?_
          rintro e w9 ⟨au4, cu4, k4, rfl, k40, c9⟩
          have D9 : Hid (Below w.heap.size w w9) := BF.out.trans (c9.mono BF.out.size)
          clear c9 BE BF CY
          go_wp2
          go_ret
          exact ⟨by simp [k40], D9.out⟩
        · exact absurd g3 (by omega)
      · clear CS4' BE
        go_wp2
        go_ret
        exact ⟨rfl, BF.out⟩
    · have g4 : ¬ u0 + (m : Int) + 1 ≤ 40 := by omega
      have BF : Hid (Below w.heap.size w w7) := B2.out.trans (D7.out.mono B2.out.size)
      clear CS3' CS4'
      go_wp2
      go_ret
      exact ⟨rfl, by first | exact (BF.out.alloc BF.out.size _).setCell (p := ⟨_, 2, none⟩) BF.out.size _ | (have sz := BF.out.size; have := BF.out; go_grown; all_goals exact sz)⟩
  · clear CS2' CB
    by_cases g3 : u0 + (m : Int) ≤ 40
    · have CX := Lib.hid (CS3'.out g3)
      go_wp2_with fail
      have NB := Lib.hid (heap_alloc_new wz (.cells #[.int .i64 n, .int .i64 c0, .int .i64 (u0 + m)] 32))
      have DB : Hid (Below w2.heap.size w2 (wz.alloc (.cells #[.int .i64 n, .int .i64 c0, .int .i64 (u0 + m)] 32))) := D6.out.alloc D6.out.size _
      have zb : wz.heap.size < (wz.alloc (.cells #[.int .i64 n, .int .i64 c0, .int .i64 (u0 + m)] 32)).heap.size := by simp
      have zw : w2.heap.size ≤ wz.heap.size := D6.out.size
      refine (CX.out.out _ (HR.out.later DB.out)).mono ?_
      obtain ⟨P2, hP2⟩ : ∃ P2, P2 = wz.heap.size := ⟨_, rfl⟩
      rw [← hP2] at NB zb zw
      rw [← hP2]
      generalize wz.alloc (.cells #[.int .i64 n, .int .i64 c0, .int .i64 (u0 + m)] 32) = wx at *
      rintro e w8 ⟨au3, cu3, rfl, c8⟩
      have D8 : Hid (Below w2.heap.size w2 w8) := DB.out.trans (c8.mono DB.out.size)
      have N8 := Lib.hid ((c8.block P2 zb).trans NB.out)
      have z8 : P2 < w8.heap.size := by have := c8.size; omega
      clear c8 DB NB zb hP2 CX CS3' D6
      obtain ⟨⟨k0, k1, k2⟩, ⟨f0, f1, f2⟩, -⟩ := boxWk_at (q := ⟨n, c0, u0 + m⟩) N8.out
      simp only [] at k0 k1 k2
      have BE : Hid (Below w2.heap.size w2 (w8.setCell ⟨P2, 2, none⟩ (.int .i64 (u0 + m + 1)))) := D8.out.setCell (p := ⟨P2, 2, none⟩) zw _
      have BF : Hid (Below w.heap.size w (w8.setCell ⟨P2, 2, none⟩ (.int .i64 (u0 + m + 1)))) := B2.out.trans (BE.out.mono B2.out.size)
      by_cases g4 : u0 + (m : Int) + 1 ≤ 40
      · by_cases g5 : m < 200
        · have CY := Lib.hid (CS4'.out g4 g5)
          have g5' : (m : Int) < 200 := by omega
          clear CS4'
          go_wp2_with fail
          refine (CY.out.out _ (HR.out.later BE.out)).mono ?_
          rintro e w9 ⟨au4, cu4, k4, rfl, k40, c9⟩
          have D9 : Hid (Below w.heap.size w w9) := BF.out.trans (c9.mono BF.out.size)
          clear c9 BE BF CY
          go_wp2
          go_ret
          exact ⟨by simp [k40], D9.out⟩
        · exact absurd g3 (by omega)
      · clear CS4' BE
        go_wp2
        go_ret
        exact ⟨rfl, BF.out⟩
    · have g4 : ¬ u0 + (m : Int) + 1 ≤ 40 := by omega
      have BF : Hid (Below w.heap.size w wz) := B2.out.trans (D6.out.mono B2.out.size)
      clear CS3' CS4'
      go_wp2
      go_ret
      exact ⟨rfl, by first | exact (BF.out.alloc BF.out.size _).setCell (p := ⟨_, 2, none⟩) BF.out.size _ | (have sz := BF.out.size; have := BF.out; go_grown; all_goals exact sz)⟩
end Go.Proofs.Ytmdddjhlfpmgdaa
