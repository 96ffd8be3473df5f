/- FnGrouted: what has been lost less what is spare is what the voids have more than what has set. -/
import Derived.Test.YtonblcbdmblpbaaB10G
import Derived.Test.YtonblcbdmblpbaaGroutX
import Derived.Test.YtonblcbdmblpbaaLsOf
import Derived.BigQuiet
namespace Go.Proofs.Ytonblcbdmblpbaa
open Go.ChangeShapes Go.WideShapes Go.ChangeAt Go.RowKit
set_option linter.unusedVariables false
set_option linter.unusedSimpArgs false

def lossTo (xs : List Gt) : Nat → Int
  | 0 => 0
  | k + 1 => lossTo xs k + (match xs[k]? with | some g => lossG g | none => 0)
def wantTo (xs : List Gt) : Nat → Int
  | 0 => 0
  | k + 1 => wantTo xs k + (match xs[k]? with | some g => g.v - setG g | none => 0)
theorem lossTo_succ {xs : List Gt} {k : Nat} {g : Gt} (h : xs[k]? = some g) : lossTo xs (k + 1) = lossTo xs k + lossG g := by simp only [lossTo, h]
theorem wantTo_succ {xs : List Gt} {k : Nat} {g : Gt} (h : xs[k]? = some g) : wantTo xs (k + 1) = wantTo xs k + (g.v - setG g) := by simp only [wantTo, h]
theorem lossG_bd {g : Gt} (h : OkGt g) : 0 ≤ lossG g ∧ lossG g ≤ 100000 := by
  obtain ⟨-, s0, s1⟩ := setG_bd h
  have := h.2.1; unfold Litres at this
  unfold lossG; split <;> omega
theorem lossTo_bd {xs : List Gt} (h : ∀ c ∈ xs, OkGt c) (k : Nat) : 0 ≤ lossTo xs k ∧ lossTo xs k ≤ 100000 * k := by
  induction k with
  | zero => simp [lossTo]
  | succ k ih =>
    simp only [lossTo]
    cases hx : xs[k]? with
    | none => simp only []; omega
    | some g => have := lossG_bd (h g (List.mem_of_getElem? hx)); simp only []; omega
theorem wantTo_eq (xs : List Gt) (k : Nat) : wantTo xs k = lossTo xs k - spareTo xs k := by
  induction k with
  | zero => simp [wantTo, lossTo, spareTo]
  | succ k ih =>
    simp only [wantTo, lossTo, spareTo, ih]
    cases hx : xs[k]? with
    | none => simp only []; omega
    | some g => simp only []; unfold lossG spareG; split <;> split <;> omega

set_option maxRecDepth 100000 in
set_option maxHeartbeats 8000000 in
theorem walkFnGrouted (w : World) (a0 : Option Addr) (len0 cap0 : Nat) (z0 : List Int) (w0 : IsRow .u8 w a0 len0 cap0 z0) (a1 : Option Addr) (len1 cap1 : Nat) (z1 : List Int) (w1 : IsRow .u8 w a1 len1 cap1 z1) :
    Calls Try.prog 6 #[.slice a0 len0 cap0, .slice a1 len1 cap1] w fun e w' => e = .returned (.bool true) ∧ Below w.heap.size w w' := by
  have l0 := w0.len_le
  have l1 := w1.len_le
  obtain ⟨r0, hr0⟩ := w0.rdB
  by_cases h : len0 ≤ 1048576 ∧ len1 ≤ 1048576
  · have LG := Lib.hid (fun w => b10Long_any a0 a1 len0 len1 cap0 cap1 false (by simp; omega) w)
    have DR := Lib.hid (b10Grouts_any w (.slice a0 len0 cap0) (z0.take len0) r0 (by rw [hr0]; omega))
    clear h w0 w1 l0 l1 r0 hr0
    go_enter Try.func6, Try.ntmps6
    go_wp2_with fail
    refine (LG.out _).mono ?_
    rintro e w' ⟨rfl, rfl⟩
    go_wp2_with fail
    refine DR.out.mono ?_
    rintro e w2 ⟨u, xs, rfl, o2, b2, hn, dr⟩
    have ok : OkGs xs := ⟨by omega, fun c hc => (dr.ok c hc).1, dr.rise⟩
    have rb : ∀ c ∈ xs, 0 ≤ c.r ∧ c.r < 24 := fun c hc => ⟨(dr.ok c hc).1.1.1, (dr.ok c hc).2⟩
    have okl : OkLs (lossesL xs 0) := by
      refine ⟨by rw [lossesL_len]; omega, fun x hx => ?_⟩
      obtain ⟨c, hc, rfl⟩ := List.mem_map.1 hx
      have lb := lossG_bd (dr.ok c hc).1
      have rr := rb c hc
      exact ⟨⟨lb.1, lb.2⟩, ⟨(by omega : (0 : Int) ≤ 0), (by omega : (0 : Int) ≤ 5)⟩, (by omega : (0 : Int) ≤ c.r), (by show c.r ≤ 23 - 0; omega)⟩
    obtain ⟨n, hN⟩ : ∃ n, n = xs.length := ⟨_, rfl⟩
    have n6 : n ≤ 6 := by omega
    have OK := Lib.hid ok
    have HN := Lib.hid hN
    have B2 := Lib.hid b2
    have HR := Lib.hid (o2.rd encGt_len)
    obtain ⟨S, hS⟩ : ∃ S, S = spareTo xs n := ⟨_, rfl⟩
    have HS := Lib.hid hS
    obtain ⟨M, hM⟩ : ∃ M, M = lossesL xs 0 := ⟨_, rfl⟩
    have HMM := Lib.hid hM
    have ML : Hid (M.length = n) := by show _ = _; rw [hM, lossesL_len, hN]
    have C1 := Lib.hid (fun w h => implSpare_any u xs w h (by omega) S true (.inl ⟨ok, by rw [hS, hN], rfl⟩))
    have C2 := Lib.hid (fun w h => implLossesOf_yes u xs 0 w h (by omega) ⟨ok, by omega, by omega⟩ true (by simpa using okl))
    rw [← hM] at C2
    have C3 := Lib.hid (fun w h => implGrouts_any u xs w h (by omega) true (by simpa using ok))
    obtain ⟨ad, cp, rfl⟩ := o2.form
    rw [← hN] at HR C1 C2 C3 ⊢
    clear o2 b2 dr ok okl hN hn LG DR rb hS hM
    go_wp2_with fail
    refine (C1.out _ HR.out).mono ?_
    rintro e w3 ⟨rfl, b3⟩
    have B3 := Lib.hid b3
    clear b3
    go_wp2_with fail
    refine (C2.out _ (HR.out.later B3.out)).mono ?_
    rintro e w4 ⟨ul, rfl, o4, b4⟩
    simp only [if_true] at o4
    have RL := Lib.hid (o4.rd encLo_len)
    obtain ⟨al, cl, rfl⟩ := o4.form
    rw [ML.out] at RL ⊢
    have B4 : Hid (Below w2.heap.size w2 w4) := B3.out.trans (b4.mono B3.out.size)
    clear b4 o4 B3 C1 C2
    go_wp2
    go_loopw [10, 11, 12] (fun sv wv i wr => ∃ k : Nat, k ≤ n ∧ i = .int .i64 k ∧ sv = .int .i64 (lossTo xs k) ∧ wv = .int .i64 (wantTo xs k) ∧ Hid (Below w4.heap.size w4 wr)) (fun _ _ i _ => n - (intOf i).toNat)
    case atStart => exact ⟨0, by omega, rfl, rfl, rfl, Below.refl _ _⟩
    case round =>
      obtain ⟨k, hk, rfl, rfl, rfl, hbl⟩ := hrel
      have z4 := B4.out.size
      have zr := hbl.out.size
      by_cases hlt : k < n
      · obtain ⟨c, hx⟩ : ∃ x, xs[k]? = some x := ⟨_, List.getElem?_eq_getElem (by have := HN.out; omega)⟩
        have okc := OK.out.2.1 c (List.mem_of_getElem? hx)
        have hy : M[k]? = some ⟨c.r, lossG c, 0⟩ := by rw [HMM.out]; exact lossesL_get hx
        have BB : Below w2.heap.size w2 wr := B4.out.trans (hbl.out.mono z4)
        obtain ⟨ba, oa, rfl, e0, e1, e2, e3⟩ := (HR.out.later BB).at4g k c hx
        obtain ⟨bb, ob, rfl, f0, f1, f2⟩ := (RL.out.later hbl.out).at3l k _ hy
        have C := Lib.hid (fun w => implLoss_any c (lossG c) true (.inl ⟨okc, rfl, rfl⟩) w)
        have la : ba < wr.heap.size := World.block_lt_of_cell? wr _ e0
        have lb : bb < wr.heap.size := World.block_lt_of_cell? wr _ f0
        obtain ⟨⟨m0, m1⟩, s0, s1⟩ := setG_bd okc
        have gb := lossG_bd okc
        have tb := lossTo_bd OK.out.2.1 k
        have sb := spareTo_bd OK.out.2.1 k
        have wb := wantTo_eq xs k
        have S1 := lossTo_succ hx
        have S2 := wantTo_succ hx
        have vb := okc.2.1
        have ib := okc.2.2.2
        unfold Litres at vb
        obtain ⟨A, hA⟩ : ∃ A, A = lossTo xs k := ⟨_, rfl⟩
        obtain ⟨W, hW⟩ : ∃ W, W = wantTo xs k := ⟨_, rfl⟩
        obtain ⟨G, hG⟩ : ∃ G, G = lossG c := ⟨_, rfl⟩
        obtain ⟨Q, hQ⟩ : ∃ Q, Q = setG c := ⟨_, rfl⟩
        rw [← hA] at tb wb S1 ⊢
        rw [← hW] at wb S2 ⊢
        rw [← hG] at gb S1 C f1
        rw [← hQ] at s0 s1 S2
        have q1 : IntKind.i64.wrap (A + G) = A + G := IntWalk.i64_in _ (by omega)
        have q2 : IntKind.i64.wrap (100 - c.s) = 100 - c.s := IntWalk.i64_in _ (by omega)
        have q3 : IntKind.i64.wrap (c.i * (100 - c.s)) = c.i * (100 - c.s) := IntWalk.i64_in _ (by omega)
        have q4 : IntKind.i64.wrap ((c.i * (100 - c.s)).tdiv 100) = Q := by rw [hQ]; exact IntWalk.i64_in _ (by rw [hQ] at s0 s1; unfold setG at s0 s1; omega)
        have q5 : IntKind.i64.wrap (c.v - Q) = c.v - Q := IntWalk.i64_in _ (by omega)
        have q6 : IntKind.i64.wrap (W + (c.v - Q)) = W + (c.v - Q) := IntWalk.i64_in _ (by omega)
        have HS1 := Lib.hid S1
        have HS2 := Lib.hid S2
        clear hx hy okc m0 m1 s0 s1 gb tb sb wb S1 S2 vb ib hA hW hG hQ
        go_wp2_with fail
        refine (C.out _).mono ?_
        rintro e w5 ⟨rfl, b5⟩
        have e0' := (b5.cell (p := ⟨ba, oa + k * 4, none⟩) la).trans e0
        have e1' := (b5.cell (p := ⟨ba, oa + k * 4 + 1, none⟩) la).trans e1
        have e2' := (b5.cell (p := ⟨ba, oa + k * 4 + 2, none⟩) la).trans e2
        have e3' := (b5.cell (p := ⟨ba, oa + k * 4 + 3, none⟩) la).trans e3
        have f0' := (b5.cell (p := ⟨bb, ob + k * 3, none⟩) lb).trans f0
        have f1' := (b5.cell (p := ⟨bb, ob + k * 3 + 1, none⟩) lb).trans f1
        have B5 : Hid (Below w4.heap.size w4 w5) := hbl.out.trans (b5.mono zr)
        clear b5 e0 e1 e2 e3 f0 f1 f2 la lb hbl C BB
        have nn : (((n : Int) != (n : Int)) : Bool) = false := by simp
        have nG : ((G != G) : Bool) = false := by simp
        have nr : ((c.r != c.r) : Bool) = false := by simp
        go_wp2
        go_quiet (fail)
        go_wp2
        go_quiet (fail)
        go_wp2
        exact ⟨⟨k + 1, by omega, by go_num, by rw [HS1.out], by rw [HS2.out], below_drewN B5.out _⟩, by simp only [intOf]; omega⟩
      · obtain rfl : k = n := by omega
        have E : lossTo xs k - S = wantTo xs k := by rw [wantTo_eq, HS.out]
        have tb := lossTo_bd OK.out.2.1 k
        have sb := spareTo_bd OK.out.2.1 k
        rw [← HS.out] at sb
        obtain ⟨A, hA⟩ : ∃ A, A = lossTo xs k := ⟨_, rfl⟩
        obtain ⟨W, hW⟩ : ∃ W, W = wantTo xs k := ⟨_, rfl⟩
        rw [← hA] at tb E ⊢
        rw [← hW] at E ⊢
        have q1 : IntKind.i64.wrap (A - S) = W := by rw [IntWalk.i64_in _ (by omega), E]
        have nW : ((W == W) : Bool) = true := by simp
        have BB : Below w2.heap.size w2 wr := B4.out.trans (hbl.out.mono z4)
        clear hA hW E tb sb
        go_wp2_with fail
        refine (C3.out _ (HR.out.later BB)).mono ?_
        rintro e w6 ⟨rfl, b6⟩
        have B6 : Hid (Below w.heap.size w w6) := (B2.out.trans (BB.mono B2.out.size)).trans (b6.mono (by have := B2.out.size; have := BB.size; omega))
        clear b6 BB
        go_wp2
        go_ret
        exact ⟨rfl, B6.out⟩
  · have LG := Lib.hid (fun w => b10Long_any a0 a1 len0 len1 cap0 cap1 true (by simp; omega) w)
    go_enter Try.func6, Try.ntmps6
    go_wp2_with fail
    refine (LG.out _).mono ?_
    rintro e w' ⟨rfl, rfl⟩
    go_wp2
    go_ret
    exact ⟨rfl, Below.refl _ _⟩
end Go.Proofs.Ytonblcbdmblpbaa
