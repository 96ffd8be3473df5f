/- Texts of heads, on both sides. (Written by tools/mkheadt.py.) -/
import Derived.Test.YtgockhlainnnnabDoorJoinCu
import Derived.Test.YtgockhlainnnnabDoorPlanT
import Derived.Test.YtgockhlainnnnabDoorHeadI
import Derived.Test.YtgockhlainnnnabDoorShelf
import Derived.Deep.RegionHeld3
namespace Go.Proofs.YtgockhlainnnnabDoor
open Go.ChangeShapes Go.WideShapes Go.ChangeAt Go.RowKit
set_option linter.unusedVariables false
set_option linter.unusedSimpArgs false

/-- The text of a cutter. -/
def textCu (x : Cu) : List UInt8 := Lib.itoa x.k ++ [47] ++ Lib.itoa x.l
theorem textCu_eq (x : Cu) : (⟨(textCu x).toArray⟩ : ByteArray) = (⟨(Lib.itoa x.k).toArray⟩ : ByteArray) ++ (⟨#[47]⟩ : ByteArray) ++ (⟨(Lib.itoa x.l).toArray⟩ : ByteArray) := by
  have e0 : (⟨#[47]⟩ : ByteArray) = ⟨([47] : List UInt8).toArray⟩ := rfl
  rw [e0, str_app, str_app]
  rfl
theorem textCu_len {x : Cu} (h : OkCu x) : (textCu x).length ≤ 43 := by
  have h1 := Lib.itoa_length_le x.k (by have := h.1; omega) (by have := h.1; omega)
  have h2 := Lib.itoa_length_le x.l (by have := h.2; omega) (by have := h.2; omega)
  simp only [textCu, List.length_append, List.length_cons, List.length_nil]
  omega
/-- The text of a head. -/
def textHd (g : Hd) : List UInt8 := joinG [44] (g.c.map textCu) g.c.length ++ [124] ++ joinTo [44] g.h g.h.length ++ [124] ++ joinTo [44] g.s g.s.length ++ [124] ++ Lib.itoa g.p ++ [44] ++ Lib.itoa g.q
theorem textHd_eq (g : Hd) : (⟨(textHd g).toArray⟩ : ByteArray) = (⟨(joinG [44] (g.c.map textCu) g.c.length).toArray⟩ : ByteArray) ++ (⟨#[124]⟩ : ByteArray) ++ (⟨(joinTo [44] g.h g.h.length).toArray⟩ : ByteArray) ++ (⟨#[124]⟩ : ByteArray) ++ (⟨(joinTo [44] g.s g.s.length).toArray⟩ : ByteArray) ++ (⟨#[124]⟩ : ByteArray) ++ (⟨(Lib.itoa g.p).toArray⟩ : ByteArray) ++ (⟨#[44]⟩ : ByteArray) ++ (⟨(Lib.itoa g.q).toArray⟩ : ByteArray) := by
  have e0 : (⟨#[124]⟩ : ByteArray) = ⟨([124] : List UInt8).toArray⟩ := rfl
  have e1 : (⟨#[44]⟩ : ByteArray) = ⟨([44] : List UInt8).toArray⟩ := rfl
  rw [e0, e1, str_app, str_app, str_app, str_app, str_app, str_app, str_app, str_app]
  rfl
theorem textHd_same {g k : Hd} (h : g.same k) : textHd g = textHd k := by
  obtain ⟨e0, e1, e2, e3, e4⟩ := h
  unfold textHd
  rw [e0, e1, e2, e3, e4]
theorem joinTo2h (a b : Int) : joinTo [44] [a, b] 2 = Lib.itoa a ++ [44] ++ Lib.itoa b := by
  simp [joinTo, List.getD, List.append_assoc]
theorem box_ltC {w : World} {g : Nat} {o : Obj} (h : w.heap[g]? = some o) : g < w.heap.size := (Array.getElem?_eq_some_iff.1 h).1
theorem row2 {w : World} {p : Nat} {t : TypeId} {a b : Int} (h : w.heap[p]? = some (.cells #[.int .i64 a, .int .i64 b] t (0, 0))) : RdI w (.slice (some ⟨p, 0, none⟩) 2 2) [a, b] := by
  refine ⟨_, _, rfl, .inr ⟨_, _, rfl, ?_⟩⟩
  intro i z hz
  match i, hz with
  | 0, hz => cases hz; exact cell_of_row _ _ 0 _ _ _ h
  | 1, hz => cases hz; exact cell_of_row _ _ 1 _ _ _ h
theorem row4 {w : World} {p : Nat} {t : TypeId} {a b c d : ByteArray} (h : w.heap[p]? = some (.cells #[.string a, .string b, .string c, .string d] t (0, 0))) (j : Nat) (x : ByteArray) (hx : [a, b, c, d][j]? = some x) : w.cell? ⟨p, 0 + j, none⟩ = some (.string x) := by
  rw [Nat.zero_add]
  match j, hx with
  | 0, hx => cases hx; exact cell_of_row _ _ 0 _ _ _ h
  | 1, hx => cases hx; exact cell_of_row _ _ 1 _ _ _ h
  | 2, hx => cases hx; exact cell_of_row _ _ 2 _ _ _ h
  | 3, hx => cases hx; exact cell_of_row _ _ 3 _ _ _ h

/-- What the texts want of a head's lists. -/
structure SmallHd (g : Hd) : Prop where
  c : ∀ x ∈ g.c, OkCu x
  cl : g.c.length ≤ 5
  h : I64s g.h
  hl : g.h.length ≤ 60
  s : I64s g.s
  sl : g.s.length ≤ 8
  p : -9223372036854775808 ≤ g.p ∧ g.p ≤ 9223372036854775807
  q : -9223372036854775808 ≤ g.q ∧ g.q ≤ 9223372036854775807
theorem OkHd.small {g : Hd} (h : OkHd g) : SmallHd g :=
  ⟨h.c1, h.c0.2, fun x hx => by have := h.h1 x hx; omega, h.h0, fun x hx => by have := h.s1.1 x hx; have := h.h0; omega, h.s0, by have := h.p0; omega, by have := h.q0; omega⟩
theorem tx_c {g : Hd} (h : SmallHd g) : (joinG [44] (g.c.map textCu) g.c.length).length ≤ 400 := by
  have e := joinG_len [44] (by simp) (g.c.map textCu) 43 (fun t ht => by obtain ⟨x, hx1, rfl⟩ := List.mem_map.1 ht; exact textCu_len (h.c x hx1)) g.c.length (by simp)
  have := h.cl
  omega
theorem tx_h {g : Hd} (h : SmallHd g) : (joinTo [44] g.h g.h.length).length ≤ 1400 := by
  have e := joinTo_len [44] (by simp) g.h h.h g.h.length (Nat.le_refl _)
  have := h.hl
  omega
theorem tx_s {g : Hd} (h : SmallHd g) : (joinTo [44] g.s g.s.length).length ≤ 200 := by
  have e := joinTo_len [44] (by simp) g.s h.s g.s.length (Nat.le_refl _)
  have := h.sl
  omega
theorem tx_pq {a b : Int} (ha : -9223372036854775808 ≤ a ∧ a ≤ 9223372036854775807) (hb : -9223372036854775808 ≤ b ∧ b ≤ 9223372036854775807) : (joinTo [44] [a, b] 2).length ≤ 50 := by
  have h1 := Lib.itoa_length_le a ha.1 ha.2
  have h2 := Lib.itoa_length_le b hb.1 hb.2
  rw [joinTo2h]
  simp only [List.length_append, List.length_cons, List.length_nil]
  omega

set_option maxRecDepth 100000 in
set_option maxHeartbeats 8000000 in
theorem cutterText_any (x : Cu) (h : OkCu x) (w : World) (hT : TDec w) :
    Calls Tryd.prog 45 #[(.agg #[.int .i64 x.k, .int .i64 x.l])] w fun e w' => e = .returned (.string ⟨(textCu x).toArray⟩) ∧ Below w.heap.size w w' := by
  have i0 := h.1
  have i1 := h.2
  have la := Lib.itoa_length_le x.k (by omega) (by omega)
  have lb := Lib.itoa_length_le x.l (by omega) (by omega)
  have CA := Lib.hid (fun w hT => decimal_any x.k (by omega) (by omega) w hT)
  have CB := Lib.hid (fun w hT => decimal_any x.l (by omega) (by omega) w hT)
  rw [textCu_eq]
  obtain ⟨A, hA⟩ : ∃ A : ByteArray, A = ⟨(Lib.itoa x.k).toArray⟩ := ⟨_, rfl⟩
  obtain ⟨B, hB⟩ : ∃ A : ByteArray, A = ⟨(Lib.itoa x.l).toArray⟩ := ⟨_, rfl⟩
  have sA : A.size ≤ 21 := by rw [hA]; exact la
  have sB : B.size ≤ 21 := by rw [hB]; exact lb
  rw [← hA, ← hB]
  rw [← hA] at CA
  rw [← hB] at CB
  have s2 : (A ++ (⟨#[47]⟩ : ByteArray)).size = A.size + 1 := by rw [ByteArray.size_append]; rfl
  have sk2 : ¬ 9223372036854775807 < A.size + 1 := by omega
  have sk3 : ¬ 9223372036854775807 < A.size + 1 + B.size := by omega
  have HT := Lib.hid hT
  clear hA hB la lb i0 i1 h hT
  go_enter Tryd.func45, Tryd.ntmps45
  go_wp2_with fail
  obtain ⟨gg, hg⟩ : ∃ g, g = w.heap.size := ⟨_, rfl⟩
  generalize hx0 : w.alloc (.cells #[.int .i64 x.k, .int .i64 x.l] 77) = w0
  have B0 : Hid (Below w.heap.size w w0) := by rw [← hx0]; show Below _ _ _; go_grown
  have N0 : Hid (w0.heap[gg]? = some (.cells #[.int .i64 x.k, .int .i64 x.l] 77 (0, 0))) := by rw [← hx0, hg]; exact heap_alloc_new _ _
  have KS : Hid (∀ w', Below w0.heap.size w0 w' → (w'.cell? ⟨gg, 0, none⟩ = some (.int .i64 x.k) ∧ w'.cell? ⟨gg, 1, none⟩ = some (.int .i64 x.l))) := fun w' b => (boxCu_at ((b.block gg (box_ltC N0.out)).trans N0.out)).1
  have HT0 := Lib.hid (HT.out.later B0.out)
  rw [← hg]
  clear hx0 hg HT N0
  go_region_held3 (fun w' => (w'.cell? ⟨gg, 0, none⟩ = some (.int .i64 x.k) ∧ w'.cell? ⟨gg, 1, none⟩ = some (.int .i64 x.l)))
    (first | exact KS.out _ D2.out | exact KS.out _ D1.out | exact KS.out _ (Below.refl _ _).drew)
    (first
      | (go_at_call 47; (with_reducible refine (CA.out _ (HT0.out.later (Below.refl _ _).drew)).mono ?_); rintro e w1 ⟨rfl, b1⟩; have D1 : Hid (Below w0.heap.size w0 w1) := (Below.refl _ _).drew.trans b1)
      | (go_at_call 47; (with_reducible refine (CB.out _ (HT0.out.later D1.out)).mono ?_); rintro e w2 ⟨rfl, b2⟩; have D2 : Hid (Below w0.heap.size w0 w2) := D1.out.trans (b2.mono D1.out.size)))
  rename_i hHeld
  have BE : Hid (Below w.heap.size w w2) := B0.out.trans (D2.out.mono B0.out.size)
  clear hHeld KS
  go_wp2
  go_ret
  exact ⟨rfl, BE.out⟩

set_option maxRecDepth 100000 in
set_option maxHeartbeats 16000000 in
theorem l08Text_any (G : Nat) (ty : TypeId) (g : Hd) (n0 n1 n2 : Nat) (w : World) (hG : w.heap[G]? = some (.cells #[.slice g.ca n0 g.cc, .slice g.ha n1 g.hc, .slice g.sa n2 g.sc, .int .i64 g.p, .int .i64 g.q] ty (0, 0))) (hr : RdHd w n0 n1 n2 g) (h : SmallHd g) :
    Calls Tryd.prog 42 #[.pointer (some ⟨G, 0, none⟩)] w fun e w' => e = .returned (.string ⟨(textHd g).toArray⟩) ∧ Below w.heap.size w w' := by
  obtain ⟨e0, e1, e2⟩ := hr.len
  have NG := Lib.hid hG
  have lG := (Array.getElem?_eq_some_iff.1 hG).1
  have R0 := Lib.hid hr.r0
  have RH := Lib.hid hr.r1
  have RS := Lib.hid hr.r2
  have E0 := Lib.hid e0
  have HC := Lib.hid h.c
  have c5 : n0 ≤ 5 := by have := h.cl; omega
  have JL := Lib.hid (joinG_len [44] (by simp) (g.c.map textCu) 43 (fun t ht => by obtain ⟨x, hx1, rfl⟩ := List.mem_map.1 ht; exact textCu_len (h.c x hx1)))
  rw [List.length_map, ← e0] at JL
  have th := tx_h h
  have ts := tx_s h
  have lp := Lib.itoa_length_le g.p h.p.1 h.p.2
  have lq := Lib.itoa_length_le g.q h.q.1 h.q.2
  have CH := Lib.hid (fun w hr => l06Comma_any (.slice g.ha n1 g.hc) g.h w hr (by have := h.hl; omega) h.h)
  have CS := Lib.hid (fun w hr => l06Comma_any (.slice g.sa n2 g.sc) g.s w hr (by have := h.sl; omega) h.s)
  have CP := Lib.hid (fun w => l01Dec_any g.p h.p.1 h.p.2 w)
  have CQ := Lib.hid (fun w => l01Dec_any g.q h.q.1 h.q.2 w)
  rw [textHd_eq]
  obtain ⟨H, hH⟩ : ∃ A : ByteArray, A = ⟨(joinTo [44] g.h g.h.length).toArray⟩ := ⟨_, rfl⟩
  obtain ⟨S, hS⟩ : ∃ A : ByteArray, A = ⟨(joinTo [44] g.s g.s.length).toArray⟩ := ⟨_, rfl⟩
  obtain ⟨P, hP⟩ : ∃ A : ByteArray, A = ⟨(Lib.itoa g.p).toArray⟩ := ⟨_, rfl⟩
  obtain ⟨Q, hQ⟩ : ∃ A : ByteArray, A = ⟨(Lib.itoa g.q).toArray⟩ := ⟨_, rfl⟩
  have sH : H.size ≤ 1400 := by rw [hH]; exact th
  have sS : S.size ≤ 200 := by rw [hS]; exact ts
  have sP : P.size ≤ 21 := by rw [hP]; exact lp
  have sQ : Q.size ≤ 21 := by rw [hQ]; exact lq
  rw [← hH] at CH
  rw [← hS] at CS
  rw [← hP] at CP
  rw [← hQ] at CQ
  rw [← hH, ← hS, ← hP, ← hQ, ← e0]
  have A0 : Hid ((⟨#[]⟩ : ByteArray) = ⟨(joinG [44] (g.c.map textCu) 0).toArray⟩) := rfl
  clear hG hr h e0 e1 e2 hH hS hP hQ th ts lp lq
  go_enter Tryd.func42, Tryd.ntmps42
  go_wp2
  go_loopw [3, 4] (fun ov iv wr => ∃ (k : Nat) (T : ByteArray), k ≤ n0 ∧ iv = .int .i64 k ∧ ov = .string T ∧ T.size ≤ 1000 ∧ Hid (T = ⟨(joinG [44] (g.c.map textCu) k).toArray⟩) ∧ Hid (Below w.heap.size w wr)) (fun _ iv _ => n0 - (intOf iv).toNat)
  case atStart => exact ⟨0, ⟨#[]⟩, by omega, rfl, rfl, by decide, A0, Below.refl _ _⟩
  case round =>
    obtain ⟨k, T, hk, rfl, rfl, sT, ht, BB⟩ := hrel
    clear A0
    have sz := BB.out.size
    have N1 := (BB.out.block G lG).trans NG.out
    obtain ⟨⟨p0, p1, p2, p3, p4⟩, -, lG2⟩ := boxedHd_at N1
    by_cases hlt : k < n0
    · obtain ⟨x, hxk⟩ : ∃ x, g.c[k]? = some x := ⟨_, List.getElem?_eq_getElem (by have := E0.out; omega)⟩
      have okx := HC.out x (List.mem_of_getElem? hxk)
      have i0 := okx.1
      have i1 := okx.2
      obtain ⟨ba, oa, ea, u0, u1⟩ := (R0.out.later BB.out).at2g k x hxk _ _ rfl
      have lA := World.block_lt_of_cell? wr _ u0
      rw [ea] at p0
      have la := Lib.itoa_length_le x.k (by omega) (by omega)
      have lb := Lib.itoa_length_le x.l (by omega) (by omega)
      have CA := Lib.hid (fun w => l01Dec_any x.k (by omega) (by omega) w)
      have CB := Lib.hid (fun w => l01Dec_any x.l (by omega) (by omega) w)
      obtain ⟨A, hA⟩ : ∃ A : ByteArray, A = ⟨(Lib.itoa x.k).toArray⟩ := ⟨_, rfl⟩
      obtain ⟨B, hB⟩ : ∃ A : ByteArray, A = ⟨(Lib.itoa x.l).toArray⟩ := ⟨_, rfl⟩
      have sA : A.size ≤ 21 := by rw [hA]; exact la
      have sB : B.size ≤ 21 := by rw [hB]; exact lb
      rw [← hA] at CA
      rw [← hB] at CB
      have s2 : (A ++ (⟨#[47]⟩ : ByteArray)).size = A.size + 1 := by rw [ByteArray.size_append]; rfl
      have sk2 : ¬ 9223372036854775807 < A.size + 1 := by omega
      have sk3 : ¬ 9223372036854775807 < A.size + 1 + B.size := by omega
      have TX : Hid (A ++ (⟨#[47]⟩ : ByteArray) ++ B = ⟨(textCu x).toArray⟩) := by rw [textCu_eq, ← hA, ← hB]; rfl
      have jl1 := JL.out (k + 1) (by omega)
      have JS : Hid (joinG [44] (g.c.map textCu) (k + 1) = joinG [44] (g.c.map textCu) k ++ ((if k = 0 then [] else [44]) ++ textCu x)) := by show _ = _; simp only [joinG]; simp [List.getD, hxk]
      have HA := Lib.hid hA
      have HB := Lib.hid hB
      have KS : Hid (∀ w', Below wr.heap.size wr w' → (w'.cell? ⟨G, 0, none⟩ = some (.slice (some ⟨ba, oa, none⟩) n0 g.cc) ∧ w'.cell? ⟨ba, oa + k * 2, none⟩ = some (.int .i64 x.k) ∧ w'.cell? ⟨ba, oa + k * 2 + 1, none⟩ = some (.int .i64 x.l))) :=
        fun w' b => ⟨(b.cell (p := ⟨G, 0, none⟩) lG2).trans p0, (b.cell (p := ⟨ba, oa + k * 2, none⟩) lA).trans u0, (b.cell (p := ⟨ba, oa + k * 2 + 1, none⟩) lA).trans u1⟩
      clear hxk okx i0 i1 ea u0 u1 la lb hA hB N1 p1 p2 p3 p4
      by_cases k0 : k = 0
      · have gd : decide (0 < k) = false := by simp; omega
        have g1 : ¬ 9223372036854775807 < T.size + (A.size + 1 + B.size) := by omega
        have A1 : Hid (T ++ (A ++ (⟨#[47]⟩ : ByteArray) ++ B) = ⟨(joinG [44] (g.c.map textCu) (k + 1)).toArray⟩) := by
          show _ = _
          rw [JS.out, if_pos k0, ht.out, TX.out, str_app]; rfl
        have s1 : (T ++ (A ++ (⟨#[47]⟩ : ByteArray) ++ B)).size ≤ 1000 := by rw [A1.out]; show (joinG [44] (g.c.map textCu) (k + 1)).toArray.size ≤ _; rw [List.size_toArray]; omega
        clear k0 JS ht TX jl1 HA HB
        go_wp2
        go_region_held3 (fun w' => (w'.cell? ⟨G, 0, none⟩ = some (.slice (some ⟨ba, oa, none⟩) n0 g.cc) ∧ w'.cell? ⟨ba, oa + k * 2, none⟩ = some (.int .i64 x.k) ∧ w'.cell? ⟨ba, oa + k * 2 + 1, none⟩ = some (.int .i64 x.l)))
          (first | exact KS.out _ D2.out | exact KS.out _ D1.out | exact KS.out _ (Below.refl _ _).drew)
          (first
            | (go_at_call 77; (with_reducible refine (CA.out _).mono ?_); rintro e w1 ⟨rfl, b1⟩; have D1 : Hid (Below wr.heap.size wr w1) := (Below.refl _ _).drew.trans b1)
            | (go_at_call 77; (with_reducible refine (CB.out _).mono ?_); rintro e w2 ⟨rfl, b2⟩; have D2 : Hid (Below wr.heap.size wr w2) := D1.out.trans (b2.mono D1.out.size)))
        rename_i hHeld
        have B2 : Hid (Below w.heap.size w w2) := BB.out.trans (D2.out.mono sz)
        clear hHeld b1 b2 D1 D2 KS CA CB BB
        go_wp2
        exact ⟨⟨k + 1, T ++ (A ++ (⟨#[47]⟩ : ByteArray) ++ B), by omega, by go_num, rfl, s1, A1, B2⟩, by simp only [intOf]; omega⟩
      ·
        have gd : decide (0 < k) = true := by simp; omega
        have e0 : (T ++ (⟨#[44]⟩ : ByteArray)).size = T.size + 1 := by rw [ByteArray.size_append]; rfl
        have g1 : ¬ 9223372036854775807 < T.size + 1 := by omega
        have g2 : ¬ 9223372036854775807 < T.size + 1 + (A.size + 1 + B.size) := by omega
        have A1 : Hid (T ++ (⟨#[44]⟩ : ByteArray) ++ (A ++ (⟨#[47]⟩ : ByteArray) ++ B) = ⟨(joinG [44] (g.c.map textCu) (k + 1)).toArray⟩) := by
          show _ = _
          have e1 : (⟨#[44]⟩ : ByteArray) = ⟨([44] : List UInt8).toArray⟩ := rfl
          rw [JS.out, if_neg k0, ht.out, TX.out, e1, str_app, str_app, List.append_assoc]
        have s1 : (T ++ (⟨#[44]⟩ : ByteArray) ++ (A ++ (⟨#[47]⟩ : ByteArray) ++ B)).size ≤ 1000 := by rw [A1.out]; show (joinG [44] (g.c.map textCu) (k + 1)).toArray.size ≤ _; rw [List.size_toArray]; omega
        clear k0 JS ht TX jl1 HA HB
        go_wp2
        go_region_held3 (fun w' => (w'.cell? ⟨G, 0, none⟩ = some (.slice (some ⟨ba, oa, none⟩) n0 g.cc) ∧ w'.cell? ⟨ba, oa + k * 2, none⟩ = some (.int .i64 x.k) ∧ w'.cell? ⟨ba, oa + k * 2 + 1, none⟩ = some (.int .i64 x.l)))
          (first | exact KS.out _ D2.out | exact KS.out _ D1.out | exact KS.out _ (Below.refl _ _).drew)
          (first
            | (go_at_call 77; (with_reducible refine (CA.out _).mono ?_); rintro e w1 ⟨rfl, b1⟩; have D1 : Hid (Below wr.heap.size wr w1) := (Below.refl _ _).drew.trans b1)
            | (go_at_call 77; (with_reducible refine (CB.out _).mono ?_); rintro e w2 ⟨rfl, b2⟩; have D2 : Hid (Below wr.heap.size wr w2) := D1.out.trans (b2.mono D1.out.size)))
        rename_i hHeld
        have B2 : Hid (Below w.heap.size w w2) := BB.out.trans (D2.out.mono sz)
        clear hHeld b1 b2 D1 D2 KS CA CB BB
        go_wp2
        exact ⟨⟨k + 1, T ++ (⟨#[44]⟩ : ByteArray) ++ (A ++ (⟨#[47]⟩ : ByteArray) ++ B), by omega, by go_num, rfl, s1, A1, B2⟩, by simp only [intOf]; omega⟩
    · obtain rfl : n0 = k := by omega
      have B : Hid (Below w.heap.size w wr) := BB.out
      obtain ⟨A, hA⟩ : ∃ A : ByteArray, A = T := ⟨_, rfl⟩
      have HAE : Hid (A = ⟨(joinG [44] (g.c.map textCu) n0).toArray⟩) := by show _ = _; rw [hA, ht.out]
      rw [← hA]
      rw [← hA] at sT
      have sA : A.size ≤ 1000 := sT
      have s2 : (A ++ (⟨#[124]⟩ : ByteArray)).size = A.size + 1 := by rw [ByteArray.size_append]; rfl
      have sk2 : ¬ 9223372036854775807 < A.size + 1 := by omega
      have s3 : (A ++ (⟨#[124]⟩ : ByteArray) ++ H).size = A.size + 1 + H.size := by rw [ByteArray.size_append, s2]
      have sk3 : ¬ 9223372036854775807 < A.size + 1 + H.size := by omega
      have s4 : (A ++ (⟨#[124]⟩ : ByteArray) ++ H ++ (⟨#[124]⟩ : ByteArray)).size = A.size + 1 + H.size + 1 := by rw [ByteArray.size_append, s3]; rfl
      have sk4 : ¬ 9223372036854775807 < A.size + 1 + H.size + 1 := by omega
      have s5 : (A ++ (⟨#[124]⟩ : ByteArray) ++ H ++ (⟨#[124]⟩ : ByteArray) ++ S).size = A.size + 1 + H.size + 1 + S.size := by rw [ByteArray.size_append, s4]
      have sk5 : ¬ 9223372036854775807 < A.size + 1 + H.size + 1 + S.size := by omega
      have s6 : (A ++ (⟨#[124]⟩ : ByteArray) ++ H ++ (⟨#[124]⟩ : ByteArray) ++ S ++ (⟨#[124]⟩ : ByteArray)).size = A.size + 1 + H.size + 1 + S.size + 1 := by rw [ByteArray.size_append, s5]; rfl
      have sk6 : ¬ 9223372036854775807 < A.size + 1 + H.size + 1 + S.size + 1 := by omega
      have s7 : (A ++ (⟨#[124]⟩ : ByteArray) ++ H ++ (⟨#[124]⟩ : ByteArray) ++ S ++ (⟨#[124]⟩ : ByteArray) ++ P).size = A.size + 1 + H.size + 1 + S.size + 1 + P.size := by rw [ByteArray.size_append, s6]
      have sk7 : ¬ 9223372036854775807 < A.size + 1 + H.size + 1 + S.size + 1 + P.size := by omega
      have s8 : (A ++ (⟨#[124]⟩ : ByteArray) ++ H ++ (⟨#[124]⟩ : ByteArray) ++ S ++ (⟨#[124]⟩ : ByteArray) ++ P ++ (⟨#[44]⟩ : ByteArray)).size = A.size + 1 + H.size + 1 + S.size + 1 + P.size + 1 := by rw [ByteArray.size_append, s7]; rfl
      have sk8 : ¬ 9223372036854775807 < A.size + 1 + H.size + 1 + S.size + 1 + P.size + 1 := by omega
      have sk9 : ¬ 9223372036854775807 < A.size + 1 + H.size + 1 + S.size + 1 + P.size + 1 + Q.size := by omega
      have KS : Hid (∀ w', Below wr.heap.size wr w' → (w'.cell? ⟨G, 0, none⟩ = some (.slice g.ca n0 g.cc) ∧ w'.cell? ⟨G, 1, none⟩ = some (.slice g.ha n1 g.hc) ∧ w'.cell? ⟨G, 2, none⟩ = some (.slice g.sa n2 g.sc) ∧ w'.cell? ⟨G, 3, none⟩ = some (.int .i64 g.p) ∧ w'.cell? ⟨G, 4, none⟩ = some (.int .i64 g.q))) :=
        fun w' b => (boxedHd_at ((b.block G lG2).trans N1)).1
      clear ht hA N1 JL HC R0
      go_wp2
      clear p0 p1 p2 p3 p4
      go_region_held3 (fun w' => (w'.cell? ⟨G, 0, none⟩ = some (.slice g.ca n0 g.cc) ∧ w'.cell? ⟨G, 1, none⟩ = some (.slice g.ha n1 g.hc) ∧ w'.cell? ⟨G, 2, none⟩ = some (.slice g.sa n2 g.sc) ∧ w'.cell? ⟨G, 3, none⟩ = some (.int .i64 g.p) ∧ w'.cell? ⟨G, 4, none⟩ = some (.int .i64 g.q)))
        (first | exact KS.out _ D4.out | exact KS.out _ D3.out | exact KS.out _ D2.out | exact KS.out _ D1.out | exact KS.out _ (Below.refl _ _).drew)
        (first
          | (go_at_call 78; (with_reducible refine ((CH.out _ (RH.out.later (B.out.trans ((Below.refl _ _).drew.mono B.out.size))))).mono ?_); rintro e w1 ⟨rfl, b1⟩; have D1 : Hid (Below wr.heap.size wr w1) := (Below.refl _ _).drew.trans (b1.mono (by simp)))
          | (go_at_call 78; (with_reducible refine ((CS.out _ (RS.out.later (B.out.trans (D1.out.mono B.out.size))))).mono ?_); rintro e w2 ⟨rfl, b2⟩; have D2 : Hid (Below wr.heap.size wr w2) := D1.out.trans (b2.mono D1.out.size))
          | (go_at_call 77; (with_reducible refine ((CP.out _)).mono ?_); rintro e w3 ⟨rfl, b3⟩; have D3 : Hid (Below wr.heap.size wr w3) := D2.out.trans (b3.mono D2.out.size))
          | (go_at_call 77; (with_reducible refine ((CQ.out _)).mono ?_); rintro e w4 ⟨rfl, b4⟩; have D4 : Hid (Below wr.heap.size wr w4) := D3.out.trans (b4.mono D3.out.size)))
      rename_i hHeld
      have BE : Hid (Below w.heap.size w w4) := B.out.trans (D4.out.mono B.out.size)
      clear hHeld KS
      go_wp2
      go_ret
      exact ⟨by rw [← HAE.out]; rfl, BE.out⟩

theorem join4 (a b c d : List UInt8) : Lib.join [a, b, c, d] [124] = a ++ [124] ++ b ++ [124] ++ c ++ [124] ++ d := by
  simp [Lib.join_cons, Lib.joinTail, List.append_assoc]

/-- What HeadText answers. -/
def HeadTextOf (g : Hd) (t : ByteArray) (b : Bool) : Prop := (b = true ∧ OkHd g ∧ t = ⟨(textHd g).toArray⟩) ∨ (b = false ∧ ¬ OkHd g ∧ t = ⟨#[]⟩)

set_option maxRecDepth 100000 in
set_option maxHeartbeats 16000000 in
theorem implHeadText_any (g : Hd) (n0 n1 n2 : Nat) (w : World) (hT : TDec w) (hr : RdHd w n0 n1 n2 g) (l0 : n0 ≤ 1048576) (l1 : n1 ≤ 1048576) (l2 : n2 ≤ 1048576) (t : ByteArray) (b : Bool) (ht : HeadTextOf g t b) :
    Calls Tryd.prog 16 #[(.agg #[.slice g.ca n0 g.cc, .slice g.ha n1 g.hc, .slice g.sa n2 g.sc, .int .i64 g.p, .int .i64 g.q])] w fun e w' => e = .returned (.tuple #[.string t, .bool b]) ∧ Below w.heap.size w w' := by
  obtain ⟨b1, h1⟩ := ok_boolS (OkHd g)
  have C := Lib.hid (fun w hr => implHead_any g n0 n1 n2 w hr l0 l1 l2 b1 h1)
  have HR := Lib.hid hr
  have H1 := Lib.hid h1
  have HTX := Lib.hid ht
  have HT := Lib.hid hT
  clear hr h1 ht hT
  go_enter Tryd.func16, Tryd.ntmps16
  go_wp2_with fail
  generalize hx : w.alloc (.cells #[.slice g.ca n0 g.cc, .slice g.ha n1 g.hc, .slice g.sa n2 g.sc, .int .i64 g.p, .int .i64 g.q] 32) = wA
  have B0 : Hid (Below w.heap.size w wA) := by show Below _ _ _; rw [← hx]; go_grown
  have N0 : Hid (wA.heap[w.heap.size]? = some (.cells #[.slice g.ca n0 g.cc, .slice g.ha n1 g.hc, .slice g.sa n2 g.sc, .int .i64 g.p, .int .i64 g.q] 32 (0, 0))) := by show _ = _; rw [← hx]; exact heap_alloc_new w _
  have z0 : w.heap.size < wA.heap.size := by rw [← hx]; simp
  clear hx
  refine (C.out _ (HR.out.later B0.out)).mono ?_
  rintro e w0 ⟨rfl, c1⟩
  have S := step_box B0.out N0.out z0 c1
  have B1 := Lib.hid S.1
  have N1 := Lib.hid S.2.1
  have z1 := S.2.2
  clear S c1 B0 N0 z0 C
  cases b1
  · obtain ⟨rfl, rfl⟩ : b = false ∧ t = ⟨#[]⟩ := by
      rcases HTX.out with h | h
      · have := H1.out.mpr h.2.1; simp at this
      · exact ⟨h.1, h.2.2⟩
    go_wp2
    go_ret2
    exact ⟨rfl, B1.out⟩
  have h := (H1.out.mp (by trivial)).small
  have ok := H1.out.mp (by trivial)
  obtain ⟨rfl, rfl⟩ : b = true ∧ t = ⟨(textHd g).toArray⟩ := by
    rcases HTX.out with h | h
    · exact ⟨h.1, h.2.2⟩
    · exact absurd ok h.2.1
  obtain ⟨e0, e1, e2⟩ := HR.out.len
  have R0 := Lib.hid (HR.out.later B1.out).r0
  have RH := Lib.hid (HR.out.later B1.out).r1
  have RS := Lib.hid (HR.out.later B1.out).r2
  have HT0 := Lib.hid (HT.out.later B1.out)
  have tc := tx_c h
  have th := tx_h h
  have ts := tx_s h
  have tp := tx_pq h.p h.q
  have HX : ∀ y ∈ [g.p, g.q], -9223372036854775808 ≤ y ∧ y ≤ 9223372036854775807 := by
    intro y hy
    simp only [List.mem_cons, List.mem_nil_iff, or_false] at hy
    rcases hy with rfl | rfl
    · exact h.p
    · exact h.q
  have CA := Lib.hid (fun w (hr : RdS 2 encCu w (.slice g.ca n0 g.cc) g.c) hT => joinCu_any textCu (.slice g.ca n0 g.cc) g.c [44] (by simp) w hr (by have := h.cl; omega) 43 (by omega) (fun x hx => textCu_len (h.c x hx)) TDec (fun w w' h b => h.later b) hT (fun x hx w hT => cutterText_any x (h.c x hx) w hT))
  have CH := Lib.hid (fun w hr hT => joinInts_any (.slice g.ha n1 g.hc) g.h [44] (by simp) w hr (by have := h.hl; omega) h.h hT)
  have CS := Lib.hid (fun w hr hT => joinInts_any (.slice g.sa n2 g.sc) g.s [44] (by simp) w hr (by have := h.sl; omega) h.s hT)
  have CP := Lib.hid (fun w a cap (hr : RdI w (.slice a 2 cap) [g.p, g.q]) hT => joinInts_any _ [g.p, g.q] [44] (by simp) w hr (by simp) HX hT)
  rw [show [g.p, g.q].length = 2 from rfl] at CP
  obtain ⟨A, hA⟩ : ∃ A : ByteArray, A = ⟨(joinG [44] (g.c.map textCu) g.c.length).toArray⟩ := ⟨_, rfl⟩
  obtain ⟨H, hH⟩ : ∃ A : ByteArray, A = ⟨(joinTo [44] g.h g.h.length).toArray⟩ := ⟨_, rfl⟩
  obtain ⟨S, hS⟩ : ∃ A : ByteArray, A = ⟨(joinTo [44] g.s g.s.length).toArray⟩ := ⟨_, rfl⟩
  obtain ⟨P, hP⟩ : ∃ A : ByteArray, A = ⟨(joinTo [44] [g.p, g.q] 2).toArray⟩ := ⟨_, rfl⟩
  have JEQ : Hid ((⟨(textHd g).toArray⟩ : ByteArray) = ⟨(Lib.join ([A, H, S, P].map (·.data.toList)) (⟨#[124]⟩ : ByteArray).data.toList).toArray⟩) := by
    show _ = _
    rw [hA, hH, hS, hP]
    have : Lib.join ([(⟨(joinG [44] (g.c.map textCu) g.c.length).toArray⟩ : ByteArray), ⟨(joinTo [44] g.h g.h.length).toArray⟩, ⟨(joinTo [44] g.s g.s.length).toArray⟩, ⟨(joinTo [44] [g.p, g.q] 2).toArray⟩].map (·.data.toList)) (⟨#[124]⟩ : ByteArray).data.toList = textHd g := by
      show Lib.join [joinG [44] (g.c.map textCu) g.c.length, joinTo [44] g.h g.h.length, joinTo [44] g.s g.s.length, joinTo [44] [g.p, g.q] 2] [124] = _
      rw [join4, joinTo2h]
      simp [textHd, List.append_assoc]
    rw [this]
  have JLN : (Lib.join ([A, H, S, P].map (·.data.toList)) (⟨#[124]⟩ : ByteArray).data.toList).length ≤ 140737488355328 := by
    rw [hA, hH, hS, hP]
    show (Lib.join [joinG [44] (g.c.map textCu) g.c.length, joinTo [44] g.h g.h.length, joinTo [44] g.s g.s.length, joinTo [44] [g.p, g.q] 2] [124]).length ≤ _
    rw [join4]
    simp only [List.length_append, List.length_cons, List.length_nil]
    omega
  rw [← hA] at CA
  rw [← hH] at CH
  rw [← hS] at CS
  rw [← hP] at CP
  have KS : Hid (∀ w', Below w0.heap.size w0 w' → (w'.cell? ⟨w.heap.size, 0, none⟩ = some (.slice g.ca n0 g.cc) ∧ w'.cell? ⟨w.heap.size, 1, none⟩ = some (.slice g.ha n1 g.hc) ∧ w'.cell? ⟨w.heap.size, 2, none⟩ = some (.slice g.sa n2 g.sc) ∧ w'.cell? ⟨w.heap.size, 3, none⟩ = some (.int .i64 g.p) ∧ w'.cell? ⟨w.heap.size, 4, none⟩ = some (.int .i64 g.q))) := fun w' b => (boxedHd_at ((b.block w.heap.size z1).trans N1.out)).1
  have B0 := B1
  clear hA hH hS hP tc th ts tp HX h ok HR H1 HTX HT B1 N1 e0 e1 e2
  go_wp2_with fail
  refine wp_region_held_drew (S := fun w' => (w'.cell? ⟨w.heap.size, 0, none⟩ = some (.slice g.ca n0 g.cc) ∧ w'.cell? ⟨w.heap.size, 1, none⟩ = some (.slice g.ha n1 g.hc) ∧ w'.cell? ⟨w.heap.size, 2, none⟩ = some (.slice g.sa n2 g.sc) ∧ w'.cell? ⟨w.heap.size, 3, none⟩ = some (.int .i64 g.p) ∧ w'.cell? ⟨w.heap.size, 4, none⟩ = some (.int .i64 g.q))) (by kernel_rfl) (KS.out _ (Below.refl _ _).drew) (fun hHeld => ?_)
  have D0 : Hid (Below w0.heap.size w0 (World.drew w0)) := (Below.refl _ _).drew
  refine wpAnyH_take (i := 0) (v := ?_) (by (simp only [List.getElem?_toArray, List.getElem?_cons_succ, List.getElem?_cons_zero]); (try exact rfl)) (by kernel_rfl) (by kernel_rfl) (by kernel_rfl) (by intro _ _ _ h; exact h) (Or.inl ⟨by rfl, ?_⟩) (by assumption) ?_
  rotate_left
  · intro w hSw
    try dsimp only at hSw
    go_simp
    try with_reducible rfl
  try simp only [Act.put, List.setIfInBounds_toArray, List.set_cons_zero, List.set_cons_succ]
  refine wpAnyH_take (i := 1) (v := ?_) (by (simp only [List.getElem?_toArray, List.getElem?_cons_succ, List.getElem?_cons_zero]); (try exact rfl)) (by kernel_rfl) (by kernel_rfl) (by kernel_rfl) (by intro _ _ _ h; exact h) (Or.inl ⟨by rfl, ?_⟩) (by assumption) ?_
  rotate_left
  · intro w hSw
    try dsimp only at hSw
    go_simp
    try with_reducible rfl
  try simp only [Act.put, List.setIfInBounds_toArray, List.set_cons_zero, List.set_cons_succ]
  refine wpAnyH_take (i := 3) (v := ?_) (by (simp only [List.getElem?_toArray, List.getElem?_cons_succ, List.getElem?_cons_zero]); (try exact rfl)) (by kernel_rfl) (by kernel_rfl) (by kernel_rfl) (by intro _ _ _ h; exact h) (Or.inl ⟨by rfl, ?_⟩) (by assumption) ?_
  rotate_left
  · intro w hSw
    try dsimp only at hSw
    go_simp
    try with_reducible rfl
  try simp only [Act.put, List.setIfInBounds_toArray, List.set_cons_zero, List.set_cons_succ]
  refine wpAnyH_take (i := 4) (v := ?_) (by (simp only [List.getElem?_toArray, List.getElem?_cons_succ, List.getElem?_cons_zero]); (try exact rfl)) (by kernel_rfl) (by kernel_rfl) (by kernel_rfl) (by intro _ _ _ h; exact h) (Or.inl ⟨by rfl, ?_⟩) (by assumption) ?_
  rotate_left
  · intro w hSw
    try dsimp only at hSw
    go_simp
    try with_reducible rfl
  try simp only [Act.put, List.setIfInBounds_toArray, List.set_cons_zero, List.set_cons_succ]
  refine wpAnyH_take (i := 6) (v := ?_) (by (simp only [List.getElem?_toArray, List.getElem?_cons_succ, List.getElem?_cons_zero]); (try exact rfl)) (by kernel_rfl) (by kernel_rfl) (by kernel_rfl) (by intro _ _ _ h; exact h) (Or.inl ⟨by rfl, ?_⟩) (by assumption) ?_
  rotate_left
  · intro w hSw
    try dsimp only at hSw
    go_simp
    try with_reducible rfl
  try simp only [Act.put, List.setIfInBounds_toArray, List.set_cons_zero, List.set_cons_succ]
  refine wpAnyH_take (i := 7) (v := ?_) (by (simp only [List.getElem?_toArray, List.getElem?_cons_succ, List.getElem?_cons_zero]); (try exact rfl)) (by kernel_rfl) (by kernel_rfl) (by kernel_rfl) (by intro _ _ _ h; exact h) (Or.inl ⟨by rfl, ?_⟩) (by assumption) ?_
  rotate_left
  · intro w hSw
    try dsimp only at hSw
    go_simp
    try with_reducible rfl
  try simp only [Act.put, List.setIfInBounds_toArray, List.set_cons_zero, List.set_cons_succ]
  refine wpAnyH_take (i := 9) (v := ?_) (by (simp only [List.getElem?_toArray, List.getElem?_cons_succ, List.getElem?_cons_zero]); (try exact rfl)) (by kernel_rfl) (by kernel_rfl) (by kernel_rfl) (by intro _ _ _ h; exact h) (Or.inl ⟨by rfl, ?_⟩) (by assumption) ?_
  rotate_left
  · intro w hSw
    try dsimp only at hSw
    go_simp
    try with_reducible rfl
  try simp only [Act.put, List.setIfInBounds_toArray, List.set_cons_zero, List.set_cons_succ]
  refine wpAnyH_take (i := 10) (v := ?_) (by (simp only [List.getElem?_toArray, List.getElem?_cons_succ, List.getElem?_cons_zero]); (try exact rfl)) (by kernel_rfl) (by kernel_rfl) (by kernel_rfl) (by intro _ _ _ h; exact h) (Or.inl ⟨by rfl, ?_⟩) (by assumption) ?_
  rotate_left
  · intro w hSw
    try dsimp only at hSw
    go_simp
    try with_reducible rfl
  try simp only [Act.put, List.setIfInBounds_toArray, List.set_cons_zero, List.set_cons_succ]
  refine wpAnyH_take (i := 11) (v := ?_) (by (simp only [List.getElem?_toArray, List.getElem?_cons_succ, List.getElem?_cons_zero]); (try exact rfl)) (by kernel_rfl) (by kernel_rfl) (by kernel_rfl) (by intro _ _ _ h; exact h) (Or.inl ⟨by rfl, ?_⟩) (by assumption) ?_
  rotate_left
  · intro w hSw
    try dsimp only at hSw
    go_simp
    try with_reducible rfl
  try simp only [Act.put, List.setIfInBounds_toArray, List.set_cons_zero, List.set_cons_succ]
  refine wpAnyH_take (i := 12) (v := ?_) (by (simp only [List.getElem?_toArray, List.getElem?_cons_succ, List.getElem?_cons_zero]); (try exact rfl)) (by kernel_rfl) (by kernel_rfl) (by kernel_rfl) (by intro _ _ _ h; exact h) (Or.inl ⟨by rfl, ?_⟩) (by assumption) ?_
  rotate_left
  · intro w hSw
    try dsimp only at hSw
    go_simp
    try with_reducible rfl
  try simp only [Act.put, List.setIfInBounds_toArray, List.set_cons_zero, List.set_cons_succ]
  refine wpAnyH_ready (rs := [2, 13]) (by kernel_rfl) (by simp) ?_
  refine (AllReadyH.cons (by (simp only [List.getElem?_toArray, List.getElem?_cons_succ, List.getElem?_cons_zero]); (try exact rfl)) (fun K hK => ?_) (AllReadyH.cons (by (simp only [List.getElem?_toArray, List.getElem?_cons_succ, List.getElem?_cons_zero]); (try exact rfl)) (fun K hK => ?_) AllReadyH.nil))
  · go_simp
    go_at_call 44
    (with_reducible refine (CA.out _ (R0.out.later D0.out) (HT0.out.later D0.out)).mono ?_)
    rintro e u_1 ⟨rfl, bb⟩
    have Du_1 : Hid (Below w0.heap.size w0 u_1) := Below.trans D0.out (bb.mono D0.out.size)
    clear bb
    (first | refine hK.out _ _ ?_ (fun hHeld => ?_) | (go_wp2_with fail; refine hK.out _ _ ?_ (fun hHeld => ?_)))
    · try dsimp only
      exact KS.out _ Du_1.out
    clear hK K
    try simp only [Act.put, List.setIfInBounds_toArray, List.set_cons_zero, List.set_cons_succ]
    refine wpAnyH_ready (rs := [5, 13]) (by kernel_rfl) (by simp) ?_
    refine (AllReadyH.cons (by (simp only [List.getElem?_toArray, List.getElem?_cons_succ, List.getElem?_cons_zero]); (try exact rfl)) (fun K hK => ?_) (AllReadyH.cons (by (simp only [List.getElem?_toArray, List.getElem?_cons_succ, List.getElem?_cons_zero]); (try exact rfl)) (fun K hK => ?_) AllReadyH.nil))
    · go_simp
      go_at_call 46
      (with_reducible refine (CH.out _ (RH.out.later Du_1.out) (HT0.out.later Du_1.out)).mono ?_)
      rintro e u_2 ⟨rfl, bb⟩
      have Du_2 : Hid (Below w0.heap.size w0 u_2) := Below.trans Du_1.out (bb.mono Du_1.out.size)
      clear bb
      (first | refine hK.out _ _ ?_ (fun hHeld => ?_) | (go_wp2_with fail; refine hK.out _ _ ?_ (fun hHeld => ?_)))
      · try dsimp only
        exact KS.out _ Du_2.out
      clear hK K
      try simp only [Act.put, List.setIfInBounds_toArray, List.set_cons_zero, List.set_cons_succ]
      refine wpAnyH_ready (rs := [8, 13]) (by kernel_rfl) (by simp) ?_
      refine (AllReadyH.cons (by (simp only [List.getElem?_toArray, List.getElem?_cons_succ, List.getElem?_cons_zero]); (try exact rfl)) (fun K hK => ?_) (AllReadyH.cons (by (simp only [List.getElem?_toArray, List.getElem?_cons_succ, List.getElem?_cons_zero]); (try exact rfl)) (fun K hK => ?_) AllReadyH.nil))
      · go_simp
        go_at_call 46
        (with_reducible refine (CS.out _ (RS.out.later Du_2.out) (HT0.out.later Du_2.out)).mono ?_)
        rintro e u_3 ⟨rfl, bb⟩
        have Du_3 : Hid (Below w0.heap.size w0 u_3) := Below.trans Du_2.out (bb.mono Du_2.out.size)
        clear bb
        (first | refine hK.out _ _ ?_ (fun hHeld => ?_) | (go_wp2_with fail; refine hK.out _ _ ?_ (fun hHeld => ?_)))
        · try dsimp only
          exact KS.out _ Du_3.out
        clear hK K
        try simp only [Act.put, List.setIfInBounds_toArray, List.set_cons_zero, List.set_cons_succ]
        refine wpAnyH_ready (rs := [13]) (by kernel_rfl) (by simp) ?_
        refine (AllReadyH.cons (by (simp only [List.getElem?_toArray, List.getElem?_cons_succ, List.getElem?_cons_zero]); (try exact rfl)) (fun K hK => ?_) AllReadyH.nil)
        go_simp
        generalize hA : World.alloc u_3 (.cells #[.int .i64 g.p, .int .i64 g.q] 2) = a_4
        obtain ⟨pr, hp⟩ : ∃ p, p = u_3.heap.size := ⟨_, rfl⟩
        have ba : Below u_3.heap.size u_3 a_4 := by rw [← hA]; exact Below.alloc (Below.refl _ _) (Nat.le_refl _) _
        have Zra_4 := Lib.hid (show a_4.heap[pr]? = some (.cells #[.int .i64 g.p, .int .i64 g.q] 2 (0, 0)) from by rw [← hA, hp]; exact heap_alloc_new _ _)
        have Da_4 : Hid (Below w0.heap.size w0 a_4) := Below.trans Du_3.out (ba.mono Du_3.out.size)
        rw [← hp]
        clear hA hp ba
        refine hK.out _ _ ?_ (fun hHeld => ?_)
        · try dsimp only
          exact KS.out _ Da_4.out
        clear hK K
        try simp only [Act.put, List.setIfInBounds_toArray, List.set_cons_zero, List.set_cons_succ]
        refine wpAnyH_ready (rs := [14]) (by kernel_rfl) (by simp) ?_
        refine (AllReadyH.cons (by (simp only [List.getElem?_toArray, List.getElem?_cons_succ, List.getElem?_cons_zero]); (try exact rfl)) (fun K hK => ?_) AllReadyH.nil)
        go_simp
        have RR := row2 Zra_4.out
        go_at_call 46
        (with_reducible refine (CP.out _ _ _ RR (HT0.out.later Da_4.out)).mono ?_)
        rintro e u_5 ⟨rfl, bb⟩
        clear RR
        have Du_5 : Hid (Below w0.heap.size w0 u_5) := Below.trans Da_4.out (bb.mono Da_4.out.size)
        have Zru_5 := Lib.hid ((bb.block pr (box_ltC Zra_4.out)).trans Zra_4.out)
        clear bb
        (first | refine hK.out _ _ ?_ (fun hHeld => ?_) | (go_wp2_with fail; refine hK.out _ _ ?_ (fun hHeld => ?_)))
        · try dsimp only
          exact KS.out _ Du_5.out
        clear hK K
        try simp only [Act.put, List.setIfInBounds_toArray, List.set_cons_zero, List.set_cons_succ]
        refine wpAnyH_ready (rs := [15]) (by kernel_rfl) (by simp) ?_
        refine (AllReadyH.cons (by (simp only [List.getElem?_toArray, List.getElem?_cons_succ, List.getElem?_cons_zero]); (try exact rfl)) (fun K hK => ?_) AllReadyH.nil)
        go_simp
        generalize hA : World.alloc u_5 (.cells #[.string A, .string H, .string S, .string P] 9) = a_6
        obtain ⟨ps, hp⟩ : ∃ p, p = u_5.heap.size := ⟨_, rfl⟩
        have ba : Below u_5.heap.size u_5 a_6 := by rw [← hA]; exact Below.alloc (Below.refl _ _) (Nat.le_refl _) _
        have Zsa_6 := Lib.hid (show a_6.heap[ps]? = some (.cells #[.string A, .string H, .string S, .string P] 9 (0, 0)) from by rw [← hA, hp]; exact heap_alloc_new _ _)
        have Da_6 : Hid (Below w0.heap.size w0 a_6) := Below.trans Du_5.out (ba.mono Du_5.out.size)
        have Zra_6 := Lib.hid ((ba.block pr (box_ltC Zru_5.out)).trans Zru_5.out)
        rw [← hp]
        clear hA hp ba
        refine hK.out _ _ ?_ (fun hHeld => ?_)
        · try dsimp only
          exact KS.out _ Da_6.out
        clear hK K
        try simp only [Act.put, List.setIfInBounds_toArray, List.set_cons_zero, List.set_cons_succ]
        refine wpAnyH_ready (rs := [16]) (by kernel_rfl) (by simp) ?_
        refine (AllReadyH.cons (by (simp only [List.getElem?_toArray, List.getElem?_cons_succ, List.getElem?_cons_zero]); (try exact rfl)) (fun K hK => ?_) AllReadyH.nil)
        go_simp
        have RJ := Tryd.strings_Join ps 0 4 [A, H, S, P] ⟨#[124]⟩ a_6 (row4 Zsa_6.out) (box_ltC Zsa_6.out) (by simp) (by simp) JLN
        go_at_call 43
        refine RJ.mono ?_
        rintro e u_7 ⟨rfl, bb⟩
        clear RJ
        have Du_7 : Hid (Below w0.heap.size w0 u_7) := Below.trans Da_6.out (bb.mono Da_6.out.size)
        have Zru_7 := Lib.hid ((bb.block pr (box_ltC Zra_6.out)).trans Zra_6.out)
        have Zsu_7 := Lib.hid ((bb.block ps (box_ltC Zsa_6.out)).trans Zsa_6.out)
        clear bb
        (first | refine hK.out _ _ ?_ (fun hHeld => ?_) | (go_wp2_with fail; refine hK.out _ _ ?_ (fun hHeld => ?_)))
        · try dsimp only
          exact KS.out _ Du_7.out
        clear hK K
        try simp only [Act.put, List.setIfInBounds_toArray, List.set_cons_zero, List.set_cons_succ]
        refine wpAnyH_take (i := 17) (v := ?_) (by (simp only [List.getElem?_toArray, List.getElem?_cons_succ, List.getElem?_cons_zero]); (try exact rfl)) (by kernel_rfl) (by kernel_rfl) (by kernel_rfl) (by intro _ _ _ h; exact h) (Or.inl ⟨by rfl, ?_⟩) (by assumption) ?_
        rotate_left
        · intro w hSw
          try dsimp only at hSw
          go_simp
          try with_reducible rfl
        try simp only [Act.put, List.setIfInBounds_toArray, List.set_cons_zero, List.set_cons_succ]
        refine wpAnyH_take (i := 18) (v := ?_) (by (simp only [List.getElem?_toArray, List.getElem?_cons_succ, List.getElem?_cons_zero]); (try exact rfl)) (by kernel_rfl) (by kernel_rfl) (by kernel_rfl) (by intro _ _ _ h; exact h) (Or.inl ⟨by rfl, ?_⟩) (by assumption) ?_
        rotate_left
        · intro w hSw
          try dsimp only at hSw
          go_simp
          try with_reducible rfl
        try simp only [Act.put, List.setIfInBounds_toArray, List.set_cons_zero, List.set_cons_succ]
        refine wpAnyH_done (by kernel_rfl) ?_ _
        have BE : Hid (Below w.heap.size w u_7) := B0.out.trans (Du_7.out.mono B0.out.size)
        clear KS
        go_wp2
        go_ret2
        exact ⟨by rw [JEQ.out]; rfl, BE.out⟩
      · go_simp
        generalize hA : World.alloc u_2 (.cells #[.int .i64 g.p, .int .i64 g.q] 2) = a_8
        obtain ⟨pr, hp⟩ : ∃ p, p = u_2.heap.size := ⟨_, rfl⟩
        have ba : Below u_2.heap.size u_2 a_8 := by rw [← hA]; exact Below.alloc (Below.refl _ _) (Nat.le_refl _) _
        have Zra_8 := Lib.hid (show a_8.heap[pr]? = some (.cells #[.int .i64 g.p, .int .i64 g.q] 2 (0, 0)) from by rw [← hA, hp]; exact heap_alloc_new _ _)
        have Da_8 : Hid (Below w0.heap.size w0 a_8) := Below.trans Du_2.out (ba.mono Du_2.out.size)
        rw [← hp]
        clear hA hp ba
        refine hK.out _ _ ?_ (fun hHeld => ?_)
        · try dsimp only
          exact KS.out _ Da_8.out
        clear hK K
        try simp only [Act.put, List.setIfInBounds_toArray, List.set_cons_zero, List.set_cons_succ]
        refine wpAnyH_ready (rs := [8]) (by kernel_rfl) (by simp) ?_
        refine (AllReadyH.cons (by (simp only [List.getElem?_toArray, List.getElem?_cons_succ, List.getElem?_cons_zero]); (try exact rfl)) (fun K hK => ?_) AllReadyH.nil)
        go_simp
        go_at_call 46
        (with_reducible refine (CS.out _ (RS.out.later Da_8.out) (HT0.out.later Da_8.out)).mono ?_)
        rintro e u_9 ⟨rfl, bb⟩
        have Du_9 : Hid (Below w0.heap.size w0 u_9) := Below.trans Da_8.out (bb.mono Da_8.out.size)
        have Zru_9 := Lib.hid ((bb.block pr (box_ltC Zra_8.out)).trans Zra_8.out)
        clear bb
        (first | refine hK.out _ _ ?_ (fun hHeld => ?_) | (go_wp2_with fail; refine hK.out _ _ ?_ (fun hHeld => ?_)))
        · try dsimp only
          exact KS.out _ Du_9.out
        clear hK K
        try simp only [Act.put, List.setIfInBounds_toArray, List.set_cons_zero, List.set_cons_succ]
        refine wpAnyH_ready (rs := [14]) (by kernel_rfl) (by simp) ?_
        refine (AllReadyH.cons (by (simp only [List.getElem?_toArray, List.getElem?_cons_succ, List.getElem?_cons_zero]); (try exact rfl)) (fun K hK => ?_) AllReadyH.nil)
        go_simp
        have RR := row2 Zru_9.out
        go_at_call 46
        (with_reducible refine (CP.out _ _ _ RR (HT0.out.later Du_9.out)).mono ?_)
        rintro e u_10 ⟨rfl, bb⟩
        clear RR
        have Du_10 : Hid (Below w0.heap.size w0 u_10) := Below.trans Du_9.out (bb.mono Du_9.out.size)
        have Zru_10 := Lib.hid ((bb.block pr (box_ltC Zru_9.out)).trans Zru_9.out)
        clear bb
        (first | refine hK.out _ _ ?_ (fun hHeld => ?_) | (go_wp2_with fail; refine hK.out _ _ ?_ (fun hHeld => ?_)))
        · try dsimp only
          exact KS.out _ Du_10.out
        clear hK K
        try simp only [Act.put, List.setIfInBounds_toArray, List.set_cons_zero, List.set_cons_succ]
        refine wpAnyH_ready (rs := [15]) (by kernel_rfl) (by simp) ?_
        refine (AllReadyH.cons (by (simp only [List.getElem?_toArray, List.getElem?_cons_succ, List.getElem?_cons_zero]); (try exact rfl)) (fun K hK => ?_) AllReadyH.nil)
        go_simp
        generalize hA : World.alloc u_10 (.cells #[.string A, .string H, .string S, .string P] 9) = a_11
        obtain ⟨ps, hp⟩ : ∃ p, p = u_10.heap.size := ⟨_, rfl⟩
        have ba : Below u_10.heap.size u_10 a_11 := by rw [← hA]; exact Below.alloc (Below.refl _ _) (Nat.le_refl _) _
        have Zsa_11 := Lib.hid (show a_11.heap[ps]? = some (.cells #[.string A, .string H, .string S, .string P] 9 (0, 0)) from by rw [← hA, hp]; exact heap_alloc_new _ _)
        have Da_11 : Hid (Below w0.heap.size w0 a_11) := Below.trans Du_10.out (ba.mono Du_10.out.size)
        have Zra_11 := Lib.hid ((ba.block pr (box_ltC Zru_10.out)).trans Zru_10.out)
        rw [← hp]
        clear hA hp ba
        refine hK.out _ _ ?_ (fun hHeld => ?_)
        · try dsimp only
          exact KS.out _ Da_11.out
        clear hK K
        try simp only [Act.put, List.setIfInBounds_toArray, List.set_cons_zero, List.set_cons_succ]
        refine wpAnyH_ready (rs := [16]) (by kernel_rfl) (by simp) ?_
        refine (AllReadyH.cons (by (simp only [List.getElem?_toArray, List.getElem?_cons_succ, List.getElem?_cons_zero]); (try exact rfl)) (fun K hK => ?_) AllReadyH.nil)
        go_simp
        have RJ := Tryd.strings_Join ps 0 4 [A, H, S, P] ⟨#[124]⟩ a_11 (row4 Zsa_11.out) (box_ltC Zsa_11.out) (by simp) (by simp) JLN
        go_at_call 43
        refine RJ.mono ?_
        rintro e u_12 ⟨rfl, bb⟩
        clear RJ
        have Du_12 : Hid (Below w0.heap.size w0 u_12) := Below.trans Da_11.out (bb.mono Da_11.out.size)
        have Zru_12 := Lib.hid ((bb.block pr (box_ltC Zra_11.out)).trans Zra_11.out)
        have Zsu_12 := Lib.hid ((bb.block ps (box_ltC Zsa_11.out)).trans Zsa_11.out)
        clear bb
        (first | refine hK.out _ _ ?_ (fun hHeld => ?_) | (go_wp2_with fail; refine hK.out _ _ ?_ (fun hHeld => ?_)))
        · try dsimp only
          exact KS.out _ Du_12.out
        clear hK K
        try simp only [Act.put, List.setIfInBounds_toArray, List.set_cons_zero, List.set_cons_succ]
        refine wpAnyH_take (i := 17) (v := ?_) (by (simp only [List.getElem?_toArray, List.getElem?_cons_succ, List.getElem?_cons_zero]); (try exact rfl)) (by kernel_rfl) (by kernel_rfl) (by kernel_rfl) (by intro _ _ _ h; exact h) (Or.inl ⟨by rfl, ?_⟩) (by assumption) ?_
        rotate_left
        · intro w hSw
          try dsimp only at hSw
          go_simp
          try with_reducible rfl
        try simp only [Act.put, List.setIfInBounds_toArray, List.set_cons_zero, List.set_cons_succ]
        refine wpAnyH_take (i := 18) (v := ?_) (by (simp only [List.getElem?_toArray, List.getElem?_cons_succ, List.getElem?_cons_zero]); (try exact rfl)) (by kernel_rfl) (by kernel_rfl) (by kernel_rfl) (by intro _ _ _ h; exact h) (Or.inl ⟨by rfl, ?_⟩) (by assumption) ?_
        rotate_left
        · intro w hSw
          try dsimp only at hSw
          go_simp
          try with_reducible rfl
        try simp only [Act.put, List.setIfInBounds_toArray, List.set_cons_zero, List.set_cons_succ]
        refine wpAnyH_done (by kernel_rfl) ?_ _
        have BE : Hid (Below w.heap.size w u_12) := B0.out.trans (Du_12.out.mono B0.out.size)
        clear KS
        go_wp2
        go_ret2
        exact ⟨by rw [JEQ.out]; rfl, BE.out⟩
    · go_simp
      generalize hA : World.alloc u_1 (.cells #[.int .i64 g.p, .int .i64 g.q] 2) = a_13
      obtain ⟨pr, hp⟩ : ∃ p, p = u_1.heap.size := ⟨_, rfl⟩
      have ba : Below u_1.heap.size u_1 a_13 := by rw [← hA]; exact Below.alloc (Below.refl _ _) (Nat.le_refl _) _
      have Zra_13 := Lib.hid (show a_13.heap[pr]? = some (.cells #[.int .i64 g.p, .int .i64 g.q] 2 (0, 0)) from by rw [← hA, hp]; exact heap_alloc_new _ _)
      have Da_13 : Hid (Below w0.heap.size w0 a_13) := Below.trans Du_1.out (ba.mono Du_1.out.size)
      rw [← hp]
      clear hA hp ba
      refine hK.out _ _ ?_ (fun hHeld => ?_)
      · try dsimp only
        exact KS.out _ Da_13.out
      clear hK K
      try simp only [Act.put, List.setIfInBounds_toArray, List.set_cons_zero, List.set_cons_succ]
      refine wpAnyH_ready (rs := [5]) (by kernel_rfl) (by simp) ?_
      refine (AllReadyH.cons (by (simp only [List.getElem?_toArray, List.getElem?_cons_succ, List.getElem?_cons_zero]); (try exact rfl)) (fun K hK => ?_) AllReadyH.nil)
      go_simp
      go_at_call 46
      (with_reducible refine (CH.out _ (RH.out.later Da_13.out) (HT0.out.later Da_13.out)).mono ?_)
      rintro e u_14 ⟨rfl, bb⟩
      have Du_14 : Hid (Below w0.heap.size w0 u_14) := Below.trans Da_13.out (bb.mono Da_13.out.size)
      have Zru_14 := Lib.hid ((bb.block pr (box_ltC Zra_13.out)).trans Zra_13.out)
      clear bb
      (first | refine hK.out _ _ ?_ (fun hHeld => ?_) | (go_wp2_with fail; refine hK.out _ _ ?_ (fun hHeld => ?_)))
      · try dsimp only
        exact KS.out _ Du_14.out
      clear hK K
      try simp only [Act.put, List.setIfInBounds_toArray, List.set_cons_zero, List.set_cons_succ]
      refine wpAnyH_ready (rs := [8]) (by kernel_rfl) (by simp) ?_
      refine (AllReadyH.cons (by (simp only [List.getElem?_toArray, List.getElem?_cons_succ, List.getElem?_cons_zero]); (try exact rfl)) (fun K hK => ?_) AllReadyH.nil)
      go_simp
      go_at_call 46
      (with_reducible refine (CS.out _ (RS.out.later Du_14.out) (HT0.out.later Du_14.out)).mono ?_)
      rintro e u_15 ⟨rfl, bb⟩
      have Du_15 : Hid (Below w0.heap.size w0 u_15) := Below.trans Du_14.out (bb.mono Du_14.out.size)
      have Zru_15 := Lib.hid ((bb.block pr (box_ltC Zru_14.out)).trans Zru_14.out)
      clear bb
      (first | refine hK.out _ _ ?_ (fun hHeld => ?_) | (go_wp2_with fail; refine hK.out _ _ ?_ (fun hHeld => ?_)))
      · try dsimp only
        exact KS.out _ Du_15.out
      clear hK K
      try simp only [Act.put, List.setIfInBounds_toArray, List.set_cons_zero, List.set_cons_succ]
      refine wpAnyH_ready (rs := [14]) (by kernel_rfl) (by simp) ?_
      refine (AllReadyH.cons (by (simp only [List.getElem?_toArray, List.getElem?_cons_succ, List.getElem?_cons_zero]); (try exact rfl)) (fun K hK => ?_) AllReadyH.nil)
      go_simp
      have RR := row2 Zru_15.out
      go_at_call 46
      (with_reducible refine (CP.out _ _ _ RR (HT0.out.later Du_15.out)).mono ?_)
      rintro e u_16 ⟨rfl, bb⟩
      clear RR
      have Du_16 : Hid (Below w0.heap.size w0 u_16) := Below.trans Du_15.out (bb.mono Du_15.out.size)
      have Zru_16 := Lib.hid ((bb.block pr (box_ltC Zru_15.out)).trans Zru_15.out)
      clear bb
      (first | refine hK.out _ _ ?_ (fun hHeld => ?_) | (go_wp2_with fail; refine hK.out _ _ ?_ (fun hHeld => ?_)))
      · try dsimp only
        exact KS.out _ Du_16.out
      clear hK K
      try simp only [Act.put, List.setIfInBounds_toArray, List.set_cons_zero, List.set_cons_succ]
      refine wpAnyH_ready (rs := [15]) (by kernel_rfl) (by simp) ?_
      refine (AllReadyH.cons (by (simp only [List.getElem?_toArray, List.getElem?_cons_succ, List.getElem?_cons_zero]); (try exact rfl)) (fun K hK => ?_) AllReadyH.nil)
      go_simp
      generalize hA : World.alloc u_16 (.cells #[.string A, .string H, .string S, .string P] 9) = a_17
      obtain ⟨ps, hp⟩ : ∃ p, p = u_16.heap.size := ⟨_, rfl⟩
      have ba : Below u_16.heap.size u_16 a_17 := by rw [← hA]; exact Below.alloc (Below.refl _ _) (Nat.le_refl _) _
      have Zsa_17 := Lib.hid (show a_17.heap[ps]? = some (.cells #[.string A, .string H, .string S, .string P] 9 (0, 0)) from by rw [← hA, hp]; exact heap_alloc_new _ _)
      have Da_17 : Hid (Below w0.heap.size w0 a_17) := Below.trans Du_16.out (ba.mono Du_16.out.size)
      have Zra_17 := Lib.hid ((ba.block pr (box_ltC Zru_16.out)).trans Zru_16.out)
      rw [← hp]
      clear hA hp ba
      refine hK.out _ _ ?_ (fun hHeld => ?_)
      · try dsimp only
        exact KS.out _ Da_17.out
      clear hK K
      try simp only [Act.put, List.setIfInBounds_toArray, List.set_cons_zero, List.set_cons_succ]
      refine wpAnyH_ready (rs := [16]) (by kernel_rfl) (by simp) ?_
      refine (AllReadyH.cons (by (simp only [List.getElem?_toArray, List.getElem?_cons_succ, List.getElem?_cons_zero]); (try exact rfl)) (fun K hK => ?_) AllReadyH.nil)
      go_simp
      have RJ := Tryd.strings_Join ps 0 4 [A, H, S, P] ⟨#[124]⟩ a_17 (row4 Zsa_17.out) (box_ltC Zsa_17.out) (by simp) (by simp) JLN
      go_at_call 43
      refine RJ.mono ?_
      rintro e u_18 ⟨rfl, bb⟩
      clear RJ
      have Du_18 : Hid (Below w0.heap.size w0 u_18) := Below.trans Da_17.out (bb.mono Da_17.out.size)
      have Zru_18 := Lib.hid ((bb.block pr (box_ltC Zra_17.out)).trans Zra_17.out)
      have Zsu_18 := Lib.hid ((bb.block ps (box_ltC Zsa_17.out)).trans Zsa_17.out)
      clear bb
      (first | refine hK.out _ _ ?_ (fun hHeld => ?_) | (go_wp2_with fail; refine hK.out _ _ ?_ (fun hHeld => ?_)))
      · try dsimp only
        exact KS.out _ Du_18.out
      clear hK K
      try simp only [Act.put, List.setIfInBounds_toArray, List.set_cons_zero, List.set_cons_succ]
      refine wpAnyH_take (i := 17) (v := ?_) (by (simp only [List.getElem?_toArray, List.getElem?_cons_succ, List.getElem?_cons_zero]); (try exact rfl)) (by kernel_rfl) (by kernel_rfl) (by kernel_rfl) (by intro _ _ _ h; exact h) (Or.inl ⟨by rfl, ?_⟩) (by assumption) ?_
      rotate_left
      · intro w hSw
        try dsimp only at hSw
        go_simp
        try with_reducible rfl
      try simp only [Act.put, List.setIfInBounds_toArray, List.set_cons_zero, List.set_cons_succ]
      refine wpAnyH_take (i := 18) (v := ?_) (by (simp only [List.getElem?_toArray, List.getElem?_cons_succ, List.getElem?_cons_zero]); (try exact rfl)) (by kernel_rfl) (by kernel_rfl) (by kernel_rfl) (by intro _ _ _ h; exact h) (Or.inl ⟨by rfl, ?_⟩) (by assumption) ?_
      rotate_left
      · intro w hSw
        try dsimp only at hSw
        go_simp
        try with_reducible rfl
      try simp only [Act.put, List.setIfInBounds_toArray, List.set_cons_zero, List.set_cons_succ]
      refine wpAnyH_done (by kernel_rfl) ?_ _
      have BE : Hid (Below w.heap.size w u_18) := B0.out.trans (Du_18.out.mono B0.out.size)
      clear KS
      go_wp2
      go_ret2
      exact ⟨by rw [JEQ.out]; rfl, BE.out⟩
  · go_simp
    generalize hA : World.drew (World.alloc w0 (.cells #[.int .i64 g.p, .int .i64 g.q] 2)) = a_19
    obtain ⟨pr, hp⟩ : ∃ p, p = w0.heap.size := ⟨_, rfl⟩
    have ba : Below (World.drew w0).heap.size (World.drew w0) a_19 := by rw [← hA]; exact (Below.alloc (Below.refl _ _) (Nat.le_refl _) _ : Below _ (World.drew w0) (World.alloc (World.drew w0) _))
    have Zra_19 := Lib.hid (show a_19.heap[pr]? = some (.cells #[.int .i64 g.p, .int .i64 g.q] 2 (0, 0)) from by rw [← hA, hp]; exact heap_alloc_new w0 _)
    have Da_19 : Hid (Below w0.heap.size w0 a_19) := Below.trans D0.out (ba.mono D0.out.size)
    rw [← hp]
    clear hA hp ba
    refine hK.out _ _ ?_ (fun hHeld => ?_)
    · try dsimp only
      exact KS.out _ Da_19.out
    clear hK K
    try simp only [Act.put, List.setIfInBounds_toArray, List.set_cons_zero, List.set_cons_succ]
    refine wpAnyH_ready (rs := [2]) (by kernel_rfl) (by simp) ?_
    refine (AllReadyH.cons (by (simp only [List.getElem?_toArray, List.getElem?_cons_succ, List.getElem?_cons_zero]); (try exact rfl)) (fun K hK => ?_) AllReadyH.nil)
    go_simp
    go_at_call 44
    (with_reducible refine (CA.out _ (R0.out.later Da_19.out) (HT0.out.later Da_19.out)).mono ?_)
    rintro e u_20 ⟨rfl, bb⟩
    have Du_20 : Hid (Below w0.heap.size w0 u_20) := Below.trans Da_19.out (bb.mono Da_19.out.size)
    have Zru_20 := Lib.hid ((bb.block pr (box_ltC Zra_19.out)).trans Zra_19.out)
    clear bb
    (first | refine hK.out _ _ ?_ (fun hHeld => ?_) | (go_wp2_with fail; refine hK.out _ _ ?_ (fun hHeld => ?_)))
    · try dsimp only
      exact KS.out _ Du_20.out
    clear hK K
    try simp only [Act.put, List.setIfInBounds_toArray, List.set_cons_zero, List.set_cons_succ]
    refine wpAnyH_ready (rs := [5]) (by kernel_rfl) (by simp) ?_
    refine (AllReadyH.cons (by (simp only [List.getElem?_toArray, List.getElem?_cons_succ, List.getElem?_cons_zero]); (try exact rfl)) (fun K hK => ?_) AllReadyH.nil)
    go_simp
    go_at_call 46
    (with_reducible refine (CH.out _ (RH.out.later Du_20.out) (HT0.out.later Du_20.out)).mono ?_)
    rintro e u_21 ⟨rfl, bb⟩
    have Du_21 : Hid (Below w0.heap.size w0 u_21) := Below.trans Du_20.out (bb.mono Du_20.out.size)
    have Zru_21 := Lib.hid ((bb.block pr (box_ltC Zru_20.out)).trans Zru_20.out)
    clear bb
    (first | refine hK.out _ _ ?_ (fun hHeld => ?_) | (go_wp2_with fail; refine hK.out _ _ ?_ (fun hHeld => ?_)))
    · try dsimp only
      exact KS.out _ Du_21.out
    clear hK K
    try simp only [Act.put, List.setIfInBounds_toArray, List.set_cons_zero, List.set_cons_succ]
    refine wpAnyH_ready (rs := [8]) (by kernel_rfl) (by simp) ?_
    refine (AllReadyH.cons (by (simp only [List.getElem?_toArray, List.getElem?_cons_succ, List.getElem?_cons_zero]); (try exact rfl)) (fun K hK => ?_) AllReadyH.nil)
    go_simp
    go_at_call 46
    (with_reducible refine (CS.out _ (RS.out.later Du_21.out) (HT0.out.later Du_21.out)).mono ?_)
    rintro e u_22 ⟨rfl, bb⟩
    have Du_22 : Hid (Below w0.heap.size w0 u_22) := Below.trans Du_21.out (bb.mono Du_21.out.size)
    have Zru_22 := Lib.hid ((bb.block pr (box_ltC Zru_21.out)).trans Zru_21.out)
    clear bb
    (first | refine hK.out _ _ ?_ (fun hHeld => ?_) | (go_wp2_with fail; refine hK.out _ _ ?_ (fun hHeld => ?_)))
    · try dsimp only
      exact KS.out _ Du_22.out
    clear hK K
    try simp only [Act.put, List.setIfInBounds_toArray, List.set_cons_zero, List.set_cons_succ]
    refine wpAnyH_ready (rs := [14]) (by kernel_rfl) (by simp) ?_
    refine (AllReadyH.cons (by (simp only [List.getElem?_toArray, List.getElem?_cons_succ, List.getElem?_cons_zero]); (try exact rfl)) (fun K hK => ?_) AllReadyH.nil)
    go_simp
    have RR := row2 Zru_22.out
    go_at_call 46
    (with_reducible refine (CP.out _ _ _ RR (HT0.out.later Du_22.out)).mono ?_)
    rintro e u_23 ⟨rfl, bb⟩
    clear RR
    have Du_23 : Hid (Below w0.heap.size w0 u_23) := Below.trans Du_22.out (bb.mono Du_22.out.size)
    have Zru_23 := Lib.hid ((bb.block pr (box_ltC Zru_22.out)).trans Zru_22.out)
    clear bb
    (first | refine hK.out _ _ ?_ (fun hHeld => ?_) | (go_wp2_with fail; refine hK.out _ _ ?_ (fun hHeld => ?_)))
    · try dsimp only
      exact KS.out _ Du_23.out
    clear hK K
    try simp only [Act.put, List.setIfInBounds_toArray, List.set_cons_zero, List.set_cons_succ]
    refine wpAnyH_ready (rs := [15]) (by kernel_rfl) (by simp) ?_
    refine (AllReadyH.cons (by (simp only [List.getElem?_toArray, List.getElem?_cons_succ, List.getElem?_cons_zero]); (try exact rfl)) (fun K hK => ?_) AllReadyH.nil)
    go_simp
    generalize hA : World.alloc u_23 (.cells #[.string A, .string H, .string S, .string P] 9) = a_24
    obtain ⟨ps, hp⟩ : ∃ p, p = u_23.heap.size := ⟨_, rfl⟩
    have ba : Below u_23.heap.size u_23 a_24 := by rw [← hA]; exact Below.alloc (Below.refl _ _) (Nat.le_refl _) _
    have Zsa_24 := Lib.hid (show a_24.heap[ps]? = some (.cells #[.string A, .string H, .string S, .string P] 9 (0, 0)) from by rw [← hA, hp]; exact heap_alloc_new _ _)
    have Da_24 : Hid (Below w0.heap.size w0 a_24) := Below.trans Du_23.out (ba.mono Du_23.out.size)
    have Zra_24 := Lib.hid ((ba.block pr (box_ltC Zru_23.out)).trans Zru_23.out)
    rw [← hp]
    clear hA hp ba
    refine hK.out _ _ ?_ (fun hHeld => ?_)
    · try dsimp only
      exact KS.out _ Da_24.out
    clear hK K
    try simp only [Act.put, List.setIfInBounds_toArray, List.set_cons_zero, List.set_cons_succ]
    refine wpAnyH_ready (rs := [16]) (by kernel_rfl) (by simp) ?_
    refine (AllReadyH.cons (by (simp only [List.getElem?_toArray, List.getElem?_cons_succ, List.getElem?_cons_zero]); (try exact rfl)) (fun K hK => ?_) AllReadyH.nil)
    go_simp
    have RJ := Tryd.strings_Join ps 0 4 [A, H, S, P] ⟨#[124]⟩ a_24 (row4 Zsa_24.out) (box_ltC Zsa_24.out) (by simp) (by simp) JLN
    go_at_call 43
    refine RJ.mono ?_
    rintro e u_25 ⟨rfl, bb⟩
    clear RJ
    have Du_25 : Hid (Below w0.heap.size w0 u_25) := Below.trans Da_24.out (bb.mono Da_24.out.size)
    have Zru_25 := Lib.hid ((bb.block pr (box_ltC Zra_24.out)).trans Zra_24.out)
    have Zsu_25 := Lib.hid ((bb.block ps (box_ltC Zsa_24.out)).trans Zsa_24.out)
    clear bb
    (first | refine hK.out _ _ ?_ (fun hHeld => ?_) | (go_wp2_with fail; refine hK.out _ _ ?_ (fun hHeld => ?_)))
    · try dsimp only
      exact KS.out _ Du_25.out
    clear hK K
    try simp only [Act.put, List.setIfInBounds_toArray, List.set_cons_zero, List.set_cons_succ]
    refine wpAnyH_take (i := 17) (v := ?_) (by (simp only [List.getElem?_toArray, List.getElem?_cons_succ, List.getElem?_cons_zero]); (try exact rfl)) (by kernel_rfl) (by kernel_rfl) (by kernel_rfl) (by intro _ _ _ h; exact h) (Or.inl ⟨by rfl, ?_⟩) (by assumption) ?_
    rotate_left
    · intro w hSw
      try dsimp only at hSw
      go_simp
      try with_reducible rfl
    try simp only [Act.put, List.setIfInBounds_toArray, List.set_cons_zero, List.set_cons_succ]
    refine wpAnyH_take (i := 18) (v := ?_) (by (simp only [List.getElem?_toArray, List.getElem?_cons_succ, List.getElem?_cons_zero]); (try exact rfl)) (by kernel_rfl) (by kernel_rfl) (by kernel_rfl) (by intro _ _ _ h; exact h) (Or.inl ⟨by rfl, ?_⟩) (by assumption) ?_
    rotate_left
    · intro w hSw
      try dsimp only at hSw
      go_simp
      try with_reducible rfl
    try simp only [Act.put, List.setIfInBounds_toArray, List.set_cons_zero, List.set_cons_succ]
    refine wpAnyH_done (by kernel_rfl) ?_ _
    have BE : Hid (Below w.heap.size w u_25) := B0.out.trans (Du_25.out.mono B0.out.size)
    clear KS
    go_wp2
    go_ret2
    exact ⟨by rw [JEQ.out]; rfl, BE.out⟩
end Go.Proofs.YtgockhlainnnnabDoor
