/- LossesOf on both sides. (Written by tools/mklsof.py.) -/
import Derived.Test.YtonblcbdmblpbaaGroutI
import Derived.Test.YtonblcbdmblpbaaLossM
import Derived.Deep.RegionLaw
import Derived.Deep.AppendLies
import Derived.WalkSpells
namespace Go.Proofs.Ytonblcbdmblpbaa
open Go.ChangeShapes Go.WideShapes Go.ChangeAt Go.RowKit
set_option linter.unusedVariables false
set_option linter.unusedSimpArgs false

theorem info_Lo : (Try.prog.info? 55).map (fun i => (i.zero, i.size, i.bytes)) = some (some (.agg #[.int .i64 0, .int .i64 0, .int .i64 0]), 3, 24) := by kernel_rfl
def zeroLo : Lo := ⟨0, 0, 0⟩

def lossG' (wd : Int) (g : Gt) : Lo := ⟨g.r, lossG g, wd⟩
def lossesL (xs : List Gt) (wd : Int) : List Lo := xs.map (lossG' wd)
theorem lossesL_len (xs : List Gt) (wd : Int) : (lossesL xs wd).length = xs.length := by simp [lossesL]
theorem lossesL_get {xs : List Gt} {wd : Int} {k : Nat} {x : Gt} (hx : xs[k]? = some x) : (lossesL xs wd)[k]? = some ⟨x.r, lossG x, wd⟩ := by simp [lossesL, hx, lossG']
def LsV (xs : List Gt) (wd : Int) : Prop := OkGs xs ∧ (0 ≤ wd ∧ wd ≤ 5)

def partS {T : Type} (z : T) (L : List T) (n k : Nat) : List T := L.take k ++ List.replicate (n - k) z
theorem partS_zero {T : Type} (z : T) (L : List T) (n : Nat) : partS z L n 0 = List.replicate n z := by simp [partS]
theorem partS_all {T : Type} {z : T} {L : List T} {n : Nat} (h : L.length = n) : partS z L n n = L := by simp [partS, ← h]
theorem partS_len {T : Type} {z : T} {L : List T} {n k : Nat} (h : L.length = n) (hk : k ≤ n) : (partS z L n k).length = n := by simp [partS]; omega
theorem partS_get {T : Type} {z : T} {L : List T} {n k : Nat} (h : L.length = n) (hk : k < n) : (partS z L n k)[k]? = some z := by
  have e0 : (L.take k).length = k := by rw [List.length_take]; omega
  unfold partS
  rw [List.getElem?_append_right (by omega), e0, Nat.sub_self, List.getElem?_replicate, if_pos (by omega)]
theorem partS_set {T : Type} {z : T} {L : List T} {n k : Nat} {x : T} (h : L.length = n) (hx : L[k]? = some x) : (partS z L n k).set k x = partS z L n (k + 1) := by
  have hk : k < n := by have := (List.getElem?_eq_some_iff.1 hx).1; omega
  have e0 : (L.take k).length = k := by rw [List.length_take]; omega
  unfold partS
  rw [List.set_append_right _ _ (by omega), e0, Nat.sub_self, show n - k = (n - (k + 1)) + 1 by omega, List.replicate_succ, List.set_cons_zero, List.take_add_one, hx]
  simp

theorem OwnS.putLo {t : TypeId} {w : World} {B g cap n : Nat} {xs : List Lo} (hn : n = xs.length) (h : OwnS t 3 encLo w B (.slice (some ⟨g, 0, none⟩) n cap) xs) (i : Nat) (z : Lo) (hz : xs[i]? = some z) (x : Lo) :
    OwnS t 3 encLo (((w.setCell ⟨g, i * 3, none⟩ (.int .i64 x.s)).setCell ⟨g, i * 3 + 1, none⟩ (.int .i64 x.v)).setCell ⟨g, i * 3 + 2, none⟩ (.int .i64 x.w)) B (.slice (some ⟨g, 0, none⟩) n cap) (xs.set i x) := by
  have hi : i < xs.length := (List.getElem?_eq_some_iff.1 hz).1
  have s0 := h.stored1 encLo_len hn i 0 z ⟨x.s, z.v, z.w⟩ (.int .i64 x.s) hz (by omega) rfl
  have s1 := s0.stored1 encLo_len (by rw [List.length_set]; exact hn) i 1 ⟨x.s, z.v, z.w⟩ ⟨x.s, x.v, z.w⟩ (.int .i64 x.v) (by rw [List.getElem?_set_self hi]) (by omega) rfl
  rw [List.set_set] at s1
  have s2 := s1.stored1 encLo_len (by rw [List.length_set]; exact hn) i 2 ⟨x.s, x.v, z.w⟩ x (.int .i64 x.w) (by rw [List.getElem?_set_self hi]) (by omega) rfl
  rw [List.set_set] at s2
  exact s2

set_option maxRecDepth 100000 in
set_option maxHeartbeats 8000000 in
theorem implLossesOf_no (v : Value) (xs : List Gt) (wd : Int) (w : World) (h : RdS 4 encGt w v xs) (lz : xs.length ≤ 1048576) (hv : ¬ LsV xs wd) :
    Calls Try.prog 27 #[v, .int .i64 wd] w fun e w' => e = .returned (.tuple #[.slice none 0 0, .bool false]) ∧ Below w.heap.size w w' := by
  obtain ⟨b1, h1⟩ := bool_of (OkGs xs)
  obtain ⟨b2, h2⟩ := bool_of (0 ≤ wd ∧ wd ≤ 5)
  have C1 := Lib.hid (implGrouts_any v xs w h lz b1 h1)
  have C2 := Lib.hid (fun w => isWidth_any wd b2 h2 w)
  have HV : Hid (¬ (b1 = true ∧ b2 = true)) := by show ¬ _; rw [h1, h2]; exact hv
  obtain ⟨a, cap, rfl, ra⟩ := h
  generalize xs.length = n at *
  clear hv h1 h2 ra lz
  go_enter Try.func27, Try.ntmps27
  go_wp2_with fail
  refine C1.out.mono ?_
  rintro e w1 ⟨rfl, k1⟩
  have B1 := Lib.hid k1
  clear k1 C1
  cases b1 with
  | false =>
    go_wp2
    go_ret2
    exact ⟨rfl, B1.out⟩
  | true =>
    go_wp2_with fail
    refine (C2.out _).mono ?_
    rintro e w2 ⟨rfl, rfl⟩
    cases b2 with
    | false =>
      go_wp2
      go_ret2
      exact ⟨rfl, B1.out⟩
    | true => exact absurd (by simp) HV.out

set_option maxRecDepth 100000 in
set_option maxHeartbeats 8000000 in
theorem implLossesOf_yes (v : Value) (xs : List Gt) (wd : Int) (w : World) (h : RdS 4 encGt w v xs) (lz : xs.length ≤ 1048576) (hv : LsV xs wd) (b : Bool) (hb : b = true ↔ OkLs (lossesL xs wd)) :
    Calls Try.prog 27 #[v, .int .i64 wd] w fun e w' => ∃ u, e = .returned (.tuple #[u, .bool b]) ∧ OwnS 55 3 encLo w' w.heap.size u (if b = true then lossesL xs wd else []) ∧ Below w.heap.size w w' := by
  obtain ⟨i0, hi, hz0, hz1, hz2⟩ := info_parts info_Lo
  obtain ⟨ok, t0, t1⟩ := hv
  have C1 := Lib.hid (implGrouts_any v xs w h lz true (by simpa using ok))
  have C2 := Lib.hid (fun w => isWidth_any wd true (by simp; omega) w)
  have H := Lib.hid h
  obtain ⟨a, cap, rfl, -⟩ := h
  have OK := Lib.hid ok
  obtain ⟨n, hn⟩ : ∃ n, n = xs.length := ⟨_, rfl⟩
  have n12 : n ≤ 12 := by have := ok.1; omega
  obtain ⟨L, hL⟩ : ∃ L, lossesL xs wd = L := ⟨_, rfl⟩
  have HL := Lib.hid hL
  have LN : Hid (L.length = n) := by show _ = _; rw [← hL, lossesL_len, hn]
  rw [hL] at hb ⊢
  have C3 := Lib.hid (fun w v (h : RdS 3 encLo w v L) => implLosses_any v L w h (by have := LN.out; omega) b hb)
  rw [← hn] at H C1
  rw [← hn]
  have HN := Lib.hid hn
  clear hn ok lz hL hb
  go_enter Try.func27, Try.ntmps27
  go_wp2_with fail
  refine C1.out.mono ?_
  rintro e w1 ⟨rfl, k1⟩
  have B1 := Lib.hid k1
  have z1 := k1.size
  clear k1 C1
  go_wp2_with fail
  refine (C2.out _).mono ?_
  rintro e w2 ⟨rfl, rfl⟩
  go_wp2_with (first | (at_make; refine wpList_make_full _ rfl _ _ _ rfl w1.heap.size 55 i0 _ 3 Try.underlying31 hi hz0 hz1 .i64 .i64 _ _ n rfl rfl rfl rfl ?b2 ?b3 (Nat.le_refl _) ?_) | go_in)
  case b2 => rw [hz2]; omega
  case b3 => unfold maxLen; omega
  intro w2 hown hg
  rw [made_flat (enc := encLo) encLo_len (by omega) zeroLo #[.int .i64 0, .int .i64 0, .int .i64 0] rfl] at hown
  have O2 : Hid (OwnS 55 3 encLo w2 w1.heap.size (.slice (some ⟨w1.heap.size, 0, none⟩) n n) (partS zeroLo L n 0)) := by
    show OwnS _ _ _ _ _ _ _
    unfold OwnS
    rw [partS_zero, List.length_replicate]
    exact hown
  have B2 : Hid (Below w1.heap.size w1 w2) := (Below.refl _ _).grown hg (Nat.le_refl _) (fun k h => by cases h)
  clear hown hg C2
  go_wp2
  go_loopw [22] (fun i wr => ∃ k : Nat, k ≤ n ∧ i = .int .i64 k ∧ Hid (OwnS 55 3 encLo wr w1.heap.size (.slice (some ⟨w1.heap.size, 0, none⟩) n n) (partS zeroLo L n k)) ∧ Hid (Below w1.heap.size w1 wr)) (fun i _ => n - (intOf i).toNat)
  case atStart => exact ⟨0, by omega, rfl, O2, B2⟩
  case round =>
    obtain ⟨k, hk, rfl, ho, hbl⟩ := hrel
    clear O2 B2
    by_cases hlt : k < n
    · obtain ⟨c, hx⟩ : ∃ x, xs[k]? = some x := ⟨_, List.getElem?_eq_getElem (by have := HN.out; omega)⟩
      have LG : Hid (L[k]? = some ⟨c.r, lossG c, wd⟩) := by show _ = _; rw [← HL.out]; exact lossesL_get hx
      have okc := OK.out.2.1 c (List.mem_of_getElem? hx)
      obtain ⟨ba, oa, rfl, e0, e1, e2, e3⟩ := (H.out.later (B1.out.trans (hbl.out.mono z1))).at4g k c hx
      have C := Lib.hid (fun w => loss_any c okc w)
      obtain ⟨q, hq⟩ : ∃ q, lossG c = q := ⟨_, rfl⟩
      rw [hq] at C LG
      have hsz := hbl.out.size
      have lg := (ho.out.lt w1.heap.size rfl).2
      clear hx okc hq
      go_wp2_with fail
      generalize hx4 : wr.alloc (.cells #[.int .i64 c.r, .int .i64 c.v, .int .i64 c.i, .int .i64 c.s] 53) = w4
      have bb4 : Below wr.heap.size wr w4 := by rw [← hx4]; exact (Below.refl _ _).alloc (Nat.le_refl _) _
      have zb4 : w4.heap.size = wr.heap.size + 1 := by rw [← hx4]; simp
      have nb4 : Hid (w4.heap[wr.heap.size]? = some (.cells #[.int .i64 c.r, .int .i64 c.v, .int .i64 c.i, .int .i64 c.s] 53 (0, 0))) := by show _ = _; rw [← hx4]; exact heap_alloc_new _ _
      have O4 := Lib.hid (ho.out.later bb4)
      have B4 : Hid (Below w1.heap.size w1 w4) := hbl.out.trans (bb4.mono hsz)
      obtain ⟨⟨k0, k1, k2, k3⟩, -⟩ := boxGt_at nb4.out
      clear hx4 bb4 ho hbl e0 e1 e2 e3
      go_region_law (go_simp; go_at_call 56; refine (C.out _).mono ?_; rintro e w5 ⟨rfl, b5⟩; have b45 : Below w4.heap.size w4 w5 := (Below.refl _ _).drew.trans b5; have O5 := Lib.hid (O4.out.later b45); have B5 : Hid (Below w1.heap.size w1 w5) := B4.out.trans (b45.mono (by omega)); have z5 := b45.size; obtain ⟨⟨m0, m1, m2, m3⟩, -⟩ := boxGt_at ((b45.block wr.heap.size (by omega)).trans nb4.out); have hl := (partS_len (z := zeroLo) LN.out hk).symm; have g0 := partS_get (z := zeroLo) LN.out hlt; have d0 : w5.cell? ⟨w1.heap.size, k * 3, none⟩ = some (.int .i64 0) := O5.out.cellAt encLo_len hl k _ g0 0 _ rfl; have d1 : w5.cell? ⟨w1.heap.size, k * 3 + 1, none⟩ = some (.int .i64 0) := O5.out.cellAt encLo_len hl k _ g0 1 _ rfl; have d2 : w5.cell? ⟨w1.heap.size, k * 3 + 2, none⟩ = some (.int .i64 0) := O5.out.cellAt encLo_len hl k _ g0 2 _ rfl; have f0 := O5.out.frozenAt hl (k * 3); have f1 := O5.out.frozenAt hl (k * 3 + 1); have f2 := O5.out.frozenAt hl (k * 3 + 2); clear b5 b45 hl g0)
      all_goals
        have s1 : Hid (OwnS 55 3 encLo (((w5.setCell ⟨w1.heap.size, k * 3, none⟩ (.int .i64 c.r)).setCell ⟨w1.heap.size, k * 3 + 1, none⟩ (.int .i64 q)).setCell ⟨w1.heap.size, k * 3 + 2, none⟩ (.int .i64 wd)) w1.heap.size (.slice (some ⟨w1.heap.size, 0, none⟩) n n) (partS zeroLo L n (k + 1))) := by
          have e := O5.out.putLo (partS_len (z := zeroLo) LN.out hk).symm k _ (partS_get (z := zeroLo) LN.out hlt) ⟨c.r, q, wd⟩
          rwa [partS_set LN.out LG.out] at e
        have s2 : Hid (Below w1.heap.size w1 (((w5.setCell ⟨w1.heap.size, k * 3, none⟩ (.int .i64 c.r)).setCell ⟨w1.heap.size, k * 3 + 1, none⟩ (.int .i64 q)).setCell ⟨w1.heap.size, k * 3 + 2, none⟩ (.int .i64 wd))) := ((B5.out.setCell (Nat.le_refl _) _).setCell (Nat.le_refl _) _).setCell (Nat.le_refl _) _
        clear O4 B4 O5 B5 k0 k1 k2 k3 m0 m1 m2 m3 d0 d1 d2 f0 f1 f2 nb4 LG C
        go_wp2
        exact ⟨⟨k + 1, by omega, by go_num, s1, s2⟩, by simp only [intOf]; omega⟩
    · obtain rfl : k = n := by omega
      have HO : Hid (OwnS 55 3 encLo wr w1.heap.size (.slice (some ⟨w1.heap.size, 0, none⟩) k k) L) := by have := ho.out; rwa [partS_all LN.out] at this
      clear ho
      go_wp2_with fail
      refine (C3.out _ _ (HO.out.rd encLo_len)).mono ?_
      rintro e w9 ⟨rfl, k9⟩
      have B9 : Hid (Below w.heap.size w w9) := (B1.out.trans (hbl.out.mono z1)).trans (k9.mono (by have := hbl.out.size; omega))
      have O9 := Lib.hid (HO.out.later k9)
      clear k9 HO hbl
      cases b
      · go_wp2
        go_ret2
        exact ⟨_, rfl, World.ownsRow_nil _ _ _ _, B9.out⟩
      · go_wp2
        go_ret2
        exact ⟨_, rfl, O9.out.mono z1, B9.out⟩
end Go.Proofs.Ytonblcbdmblpbaa
