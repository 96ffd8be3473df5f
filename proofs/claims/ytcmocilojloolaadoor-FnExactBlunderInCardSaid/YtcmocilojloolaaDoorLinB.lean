/- Bounds of determinants and of the elimination. Pure. (Written by tools/genlb.py.) -/
import Derived.Test.YtcmocilojloolaaDoorLinM
import Derived.Test.YtcmocilojloolaaDoorErrW
namespace Go.Proofs.YtcmocilojloolaaDoor
open Go.ChangeShapes Go.WideShapes Go.ChangeAt Go.RowKit
set_option linter.unusedVariables false
set_option linter.unusedSimpArgs false

/-- Between -m and m. -/
def Bd (m x : Int) : Prop := -m ≤ x ∧ x ≤ m
theorem Bd.mono {m m' x : Int} (h : Bd m x) (k : m ≤ m') : Bd m' x := by unfold Bd at *; omega
theorem Bd.mul {a b A B : Int} (h : Bd A a) (k : Bd B b) : Bd (A * B) (a * b) := mul_bnd h.1 h.2 k.1 k.2
theorem Bd.add {a b A B : Int} (h : Bd A a) (k : Bd B b) : Bd (A + B) (a + b) := by unfold Bd at *; omega
theorem Bd.sub {a b A B : Int} (h : Bd A a) (k : Bd B b) : Bd (A + B) (a - b) := by unfold Bd at *; omega
theorem Bd.zero {m : Int} (h : 0 ≤ m) : Bd m 0 := by unfold Bd; omega
theorem d2_bd {m0 m1 a b c d : Int} (ha : Bd m0 a) (hb : Bd m1 b) (hc : Bd m0 c) (hd : Bd m1 d) : Bd (m0 * m1 + m1 * m0) (d2 a b c d) := by
  rw [d2_eq]; exact (ha.mul hd).sub (hb.mul hc)
theorem d3_bd {m0 m1 m2 a b c d e f g h i : Int} (ha : Bd m0 a) (hb : Bd m1 b) (hc : Bd m2 c) (hd : Bd m0 d) (he : Bd m1 e) (hf : Bd m2 f) (hg : Bd m0 g) (hh : Bd m1 h) (hi : Bd m2 i) :
    Bd (m0 * (m1 * m2 + m2 * m1) + m1 * (m0 * m2 + m2 * m0) + m2 * (m0 * m1 + m1 * m0)) (d3 a b c d e f g h i) := by
  unfold d3
  exact ((ha.mul (d2_bd he hf hh hi)).sub (hb.mul (d2_bd hd hf hg hi))).add (hc.mul (d2_bd hd he hg hh))
theorem d4_bd {m0 m1 m2 m3 a b c d e f g h i j k l m n o p : Int} (ha : Bd m0 a) (hb : Bd m1 b) (hc : Bd m2 c) (hd : Bd m3 d) (he : Bd m0 e) (hf : Bd m1 f) (hg : Bd m2 g) (hh : Bd m3 h) (hi : Bd m0 i) (hj : Bd m1 j) (hk : Bd m2 k) (hl : Bd m3 l) (hm : Bd m0 m) (hn : Bd m1 n) (ho : Bd m2 o) (hp : Bd m3 p) :
    Bd (m0 * (m1 * (m2 * m3 + m3 * m2) + m2 * (m1 * m3 + m3 * m1) + m3 * (m1 * m2 + m2 * m1)) + m1 * (m0 * (m2 * m3 + m3 * m2) + m2 * (m0 * m3 + m3 * m0) + m3 * (m0 * m2 + m2 * m0)) + m2 * (m0 * (m1 * m3 + m3 * m1) + m1 * (m0 * m3 + m3 * m0) + m3 * (m0 * m1 + m1 * m0)) + m3 * (m0 * (m1 * m2 + m2 * m1) + m1 * (m0 * m2 + m2 * m0) + m2 * (m0 * m1 + m1 * m0))) (d4 a b c d e f g h i j k l m n o p) := by
  unfold d4
  exact (((ha.mul (d3_bd hf hg hh hj hk hl hn ho hp)).sub (hb.mul (d3_bd he hg hh hi hk hl hm ho hp))).add (hc.mul (d3_bd he hf hh hi hj hl hm hn hp))).sub (hd.mul (d3_bd he hf hg hi hj hk hm hn ho))

theorem fm {T : Type} {p : T → Prop} {a : T} {l : List T} (h : p a) (t : ∀ x ∈ l, p x) : ∀ x ∈ a :: l, p x := List.forall_mem_cons.2 ⟨h, t⟩
theorem fnil {T : Type} {p : T → Prop} : ∀ x ∈ ([] : List T), p x := fun x h => by cases h

/-- What the elimination keeps: n rows of n + 1 numbers in range, and a positive divisor. -/
def EB (n : Nat) (p : List (List Int) × Int) : Prop := p.1.length = n ∧ (∀ r ∈ p.1, r.length = n + 1 ∧ ∀ x ∈ r, Bd 1000000000 x) ∧ 0 < p.2 ∧ Bd 1000000000 p.2

set_option maxHeartbeats 4000000 in
theorem elimB1 {a00 b0 : Int} (ha00 : Bd 24 a00) (hb0 : Bd 2400 b0) (h1 : 0 < a00) : ∀ c, c ≤ 1 → EB 1 (elimTo [[a00, b0]] c) := by
  have t0 : elimTo [[a00, b0]] 0 = ([[a00, b0]], 1) := rfl
  have t1 : elimTo [[a00, b0]] 1 = ([[a00, b0]], a00) := by
    rw [elimTo, t0]
    simp only [List.getD_cons_zero, List.getD_cons_succ]
    rw [elim1_0]
  intro c hc
  have : c = 0 ∨ c = 1 := by omega
  rcases this with rfl | rfl
  · rw [t0]
    exact ⟨rfl, (fm ⟨rfl, (fm (ha00.mono (by decide)) (fm (hb0.mono (by decide)) fnil))⟩ fnil), (by show (0:Int) < 1; omega), (by show Bd _ 1; unfold Bd; omega)⟩
  · rw [t1]
    exact ⟨rfl, (fm ⟨rfl, (fm (ha00.mono (by decide)) (fm (hb0.mono (by decide)) fnil))⟩ fnil), h1, (ha00.mono (by decide))⟩

set_option maxHeartbeats 4000000 in
theorem elimB2 {a00 a01 b0 a10 a11 b1 : Int} (ha00 : Bd 24 a00) (ha01 : Bd 24 a01) (hb0 : Bd 2400 b0) (ha10 : Bd 24 a10) (ha11 : Bd 24 a11) (hb1 : Bd 2400 b1) (h1 : 0 < a00) (h2 : 0 < (d2 a00 a01 a10 a11)) : ∀ c, c ≤ 2 → EB 2 (elimTo [[a00, a01, b0], [a10, a11, b1]] c) := by
  have t0 : elimTo [[a00, a01, b0], [a10, a11, b1]] 0 = ([[a00, a01, b0], [a10, a11, b1]], 1) := rfl
  have t1 : elimTo [[a00, a01, b0], [a10, a11, b1]] 1 = ([[a00, a01, b0], [0, (d2 a00 a01 a10 a11), (d2 a00 b0 a10 b1)]], a00) := by
    rw [elimTo, t0]
    simp only [List.getD_cons_zero, List.getD_cons_succ]
    rw [elim2_0]
  have t2 : elimTo [[a00, a01, b0], [a10, a11, b1]] 2 = ([[(d2 a00 a01 a10 a11), 0, (d2 b0 a01 b1 a11)], [0, (d2 a00 a01 a10 a11), (d2 a00 b0 a10 b1)]], (d2 a00 a01 a10 a11)) := by
    rw [elimTo, t1]
    simp only [List.getD_cons_zero, List.getD_cons_succ]
    rw [elim2_1 h1]
  intro c hc
  have : c = 0 ∨ c = 1 ∨ c = 2 := by omega
  rcases this with rfl | rfl | rfl
  · rw [t0]
    exact ⟨rfl, (fm ⟨rfl, (fm (ha00.mono (by decide)) (fm (ha01.mono (by decide)) (fm (hb0.mono (by decide)) fnil)))⟩ (fm ⟨rfl, (fm (ha10.mono (by decide)) (fm (ha11.mono (by decide)) (fm (hb1.mono (by decide)) fnil)))⟩ fnil)), (by show (0:Int) < 1; omega), (by show Bd _ 1; unfold Bd; omega)⟩
  · rw [t1]
    exact ⟨rfl, (fm ⟨rfl, (fm (ha00.mono (by decide)) (fm (ha01.mono (by decide)) (fm (hb0.mono (by decide)) fnil)))⟩ (fm ⟨rfl, (fm (Bd.zero (by decide)) (fm ((d2_bd ha00 ha01 ha10 ha11).mono (by decide)) (fm ((d2_bd ha00 hb0 ha10 hb1).mono (by decide)) fnil)))⟩ fnil)), h1, (ha00.mono (by decide))⟩
  · rw [t2]
    exact ⟨rfl, (fm ⟨rfl, (fm ((d2_bd ha00 ha01 ha10 ha11).mono (by decide)) (fm (Bd.zero (by decide)) (fm ((d2_bd hb0 ha01 hb1 ha11).mono (by decide)) fnil)))⟩ (fm ⟨rfl, (fm (Bd.zero (by decide)) (fm ((d2_bd ha00 ha01 ha10 ha11).mono (by decide)) (fm ((d2_bd ha00 hb0 ha10 hb1).mono (by decide)) fnil)))⟩ fnil)), h2, ((d2_bd ha00 ha01 ha10 ha11).mono (by decide))⟩

set_option maxHeartbeats 4000000 in
theorem elimB3 {a00 a01 a02 b0 a10 a11 a12 b1 a20 a21 a22 b2 : Int} (ha00 : Bd 24 a00) (ha01 : Bd 24 a01) (ha02 : Bd 24 a02) (hb0 : Bd 2400 b0) (ha10 : Bd 24 a10) (ha11 : Bd 24 a11) (ha12 : Bd 24 a12) (hb1 : Bd 2400 b1) (ha20 : Bd 24 a20) (ha21 : Bd 24 a21) (ha22 : Bd 24 a22) (hb2 : Bd 2400 b2) (h1 : 0 < a00) (h2 : 0 < (d2 a00 a01 a10 a11)) (h3 : 0 < (d3 a00 a01 a02 a10 a11 a12 a20 a21 a22)) : ∀ c, c ≤ 3 → EB 3 (elimTo [[a00, a01, a02, b0], [a10, a11, a12, b1], [a20, a21, a22, b2]] c) := by
  have t0 : elimTo [[a00, a01, a02, b0], [a10, a11, a12, b1], [a20, a21, a22, b2]] 0 = ([[a00, a01, a02, b0], [a10, a11, a12, b1], [a20, a21, a22, b2]], 1) := rfl
  have t1 : elimTo [[a00, a01, a02, b0], [a10, a11, a12, b1], [a20, a21, a22, b2]] 1 = ([[a00, a01, a02, b0], [0, (d2 a00 a01 a10 a11), (d2 a00 a02 a10 a12), (d2 a00 b0 a10 b1)], [0, (d2 a00 a01 a20 a21), (d2 a00 a02 a20 a22), (d2 a00 b0 a20 b2)]], a00) := by
    rw [elimTo, t0]
    simp only [List.getD_cons_zero, List.getD_cons_succ]
    rw [elim3_0]
  have t2 : elimTo [[a00, a01, a02, b0], [a10, a11, a12, b1], [a20, a21, a22, b2]] 2 = ([[(d2 a00 a01 a10 a11), 0, (d2 a02 a01 a12 a11), (d2 b0 a01 b1 a11)], [0, (d2 a00 a01 a10 a11), (d2 a00 a02 a10 a12), (d2 a00 b0 a10 b1)], [0, 0, (d3 a00 a01 a02 a10 a11 a12 a20 a21 a22), (d3 a00 a01 b0 a10 a11 b1 a20 a21 b2)]], (d2 a00 a01 a10 a11)) := by
    rw [elimTo, t1]
    simp only [List.getD_cons_zero, List.getD_cons_succ]
    rw [elim3_1 h1]
  have t3 : elimTo [[a00, a01, a02, b0], [a10, a11, a12, b1], [a20, a21, a22, b2]] 3 = ([[(d3 a00 a01 a02 a10 a11 a12 a20 a21 a22), 0, 0, (d3 b0 a01 a02 b1 a11 a12 b2 a21 a22)], [0, (d3 a00 a01 a02 a10 a11 a12 a20 a21 a22), 0, (d3 a00 b0 a02 a10 b1 a12 a20 b2 a22)], [0, 0, (d3 a00 a01 a02 a10 a11 a12 a20 a21 a22), (d3 a00 a01 b0 a10 a11 b1 a20 a21 b2)]], (d3 a00 a01 a02 a10 a11 a12 a20 a21 a22)) := by
    rw [elimTo, t2]
    simp only [List.getD_cons_zero, List.getD_cons_succ]
    rw [elim3_2 h2]
  intro c hc
  have : c = 0 ∨ c = 1 ∨ c = 2 ∨ c = 3 := by omega
  rcases this with rfl | rfl | rfl | rfl
  · rw [t0]
    exact ⟨rfl, (fm ⟨rfl, (fm (ha00.mono (by decide)) (fm (ha01.mono (by decide)) (fm (ha02.mono (by decide)) (fm (hb0.mono (by decide)) fnil))))⟩ (fm ⟨rfl, (fm (ha10.mono (by decide)) (fm (ha11.mono (by decide)) (fm (ha12.mono (by decide)) (fm (hb1.mono (by decide)) fnil))))⟩ (fm ⟨rfl, (fm (ha20.mono (by decide)) (fm (ha21.mono (by decide)) (fm (ha22.mono (by decide)) (fm (hb2.mono (by decide)) fnil))))⟩ fnil))), (by show (0:Int) < 1; omega), (by show Bd _ 1; unfold Bd; omega)⟩
  · rw [t1]
    exact ⟨rfl, (fm ⟨rfl, (fm (ha00.mono (by decide)) (fm (ha01.mono (by decide)) (fm (ha02.mono (by decide)) (fm (hb0.mono (by decide)) fnil))))⟩ (fm ⟨rfl, (fm (Bd.zero (by decide)) (fm ((d2_bd ha00 ha01 ha10 ha11).mono (by decide)) (fm ((d2_bd ha00 ha02 ha10 ha12).mono (by decide)) (fm ((d2_bd ha00 hb0 ha10 hb1).mono (by decide)) fnil))))⟩ (fm ⟨rfl, (fm (Bd.zero (by decide)) (fm ((d2_bd ha00 ha01 ha20 ha21).mono (by decide)) (fm ((d2_bd ha00 ha02 ha20 ha22).mono (by decide)) (fm ((d2_bd ha00 hb0 ha20 hb2).mono (by decide)) fnil))))⟩ fnil))), h1, (ha00.mono (by decide))⟩
  · rw [t2]
    exact ⟨rfl, (fm ⟨rfl, (fm ((d2_bd ha00 ha01 ha10 ha11).mono (by decide)) (fm (Bd.zero (by decide)) (fm ((d2_bd ha02 ha01 ha12 ha11).mono (by decide)) (fm ((d2_bd hb0 ha01 hb1 ha11).mono (by decide)) fnil))))⟩ (fm ⟨rfl, (fm (Bd.zero (by decide)) (fm ((d2_bd ha00 ha01 ha10 ha11).mono (by decide)) (fm ((d2_bd ha00 ha02 ha10 ha12).mono (by decide)) (fm ((d2_bd ha00 hb0 ha10 hb1).mono (by decide)) fnil))))⟩ (fm ⟨rfl, (fm (Bd.zero (by decide)) (fm (Bd.zero (by decide)) (fm ((d3_bd ha00 ha01 ha02 ha10 ha11 ha12 ha20 ha21 ha22).mono (by decide)) (fm ((d3_bd ha00 ha01 hb0 ha10 ha11 hb1 ha20 ha21 hb2).mono (by decide)) fnil))))⟩ fnil))), h2, ((d2_bd ha00 ha01 ha10 ha11).mono (by decide))⟩
  · rw [t3]
    exact ⟨rfl, (fm ⟨rfl, (fm ((d3_bd ha00 ha01 ha02 ha10 ha11 ha12 ha20 ha21 ha22).mono (by decide)) (fm (Bd.zero (by decide)) (fm (Bd.zero (by decide)) (fm ((d3_bd hb0 ha01 ha02 hb1 ha11 ha12 hb2 ha21 ha22).mono (by decide)) fnil))))⟩ (fm ⟨rfl, (fm (Bd.zero (by decide)) (fm ((d3_bd ha00 ha01 ha02 ha10 ha11 ha12 ha20 ha21 ha22).mono (by decide)) (fm (Bd.zero (by decide)) (fm ((d3_bd ha00 hb0 ha02 ha10 hb1 ha12 ha20 hb2 ha22).mono (by decide)) fnil))))⟩ (fm ⟨rfl, (fm (Bd.zero (by decide)) (fm (Bd.zero (by decide)) (fm ((d3_bd ha00 ha01 ha02 ha10 ha11 ha12 ha20 ha21 ha22).mono (by decide)) (fm ((d3_bd ha00 ha01 hb0 ha10 ha11 hb1 ha20 ha21 hb2).mono (by decide)) fnil))))⟩ fnil))), h3, ((d3_bd ha00 ha01 ha02 ha10 ha11 ha12 ha20 ha21 ha22).mono (by decide))⟩

set_option maxHeartbeats 4000000 in
theorem elimB4 {a00 a01 a02 a03 b0 a10 a11 a12 a13 b1 a20 a21 a22 a23 b2 a30 a31 a32 a33 b3 : Int} (ha00 : Bd 24 a00) (ha01 : Bd 24 a01) (ha02 : Bd 24 a02) (ha03 : Bd 24 a03) (hb0 : Bd 2400 b0) (ha10 : Bd 24 a10) (ha11 : Bd 24 a11) (ha12 : Bd 24 a12) (ha13 : Bd 24 a13) (hb1 : Bd 2400 b1) (ha20 : Bd 24 a20) (ha21 : Bd 24 a21) (ha22 : Bd 24 a22) (ha23 : Bd 24 a23) (hb2 : Bd 2400 b2) (ha30 : Bd 24 a30) (ha31 : Bd 24 a31) (ha32 : Bd 24 a32) (ha33 : Bd 24 a33) (hb3 : Bd 2400 b3) (h1 : 0 < a00) (h2 : 0 < (d2 a00 a01 a10 a11)) (h3 : 0 < (d3 a00 a01 a02 a10 a11 a12 a20 a21 a22)) (h4 : 0 < (d4 a00 a01 a02 a03 a10 a11 a12 a13 a20 a21 a22 a23 a30 a31 a32 a33)) : ∀ c, c ≤ 4 → EB 4 (elimTo [[a00, a01, a02, a03, b0], [a10, a11, a12, a13, b1], [a20, a21, a22, a23, b2], [a30, a31, a32, a33, b3]] c) := by
  have t0 : elimTo [[a00, a01, a02, a03, b0], [a10, a11, a12, a13, b1], [a20, a21, a22, a23, b2], [a30, a31, a32, a33, b3]] 0 = ([[a00, a01, a02, a03, b0], [a10, a11, a12, a13, b1], [a20, a21, a22, a23, b2], [a30, a31, a32, a33, b3]], 1) := rfl
  have t1 : elimTo [[a00, a01, a02, a03, b0], [a10, a11, a12, a13, b1], [a20, a21, a22, a23, b2], [a30, a31, a32, a33, b3]] 1 = ([[a00, a01, a02, a03, b0], [0, (d2 a00 a01 a10 a11), (d2 a00 a02 a10 a12), (d2 a00 a03 a10 a13), (d2 a00 b0 a10 b1)], [0, (d2 a00 a01 a20 a21), (d2 a00 a02 a20 a22), (d2 a00 a03 a20 a23), (d2 a00 b0 a20 b2)], [0, (d2 a00 a01 a30 a31), (d2 a00 a02 a30 a32), (d2 a00 a03 a30 a33), (d2 a00 b0 a30 b3)]], a00) := by
    rw [elimTo, t0]
    simp only [List.getD_cons_zero, List.getD_cons_succ]
    rw [elim4_0]
  have t2 : elimTo [[a00, a01, a02, a03, b0], [a10, a11, a12, a13, b1], [a20, a21, a22, a23, b2], [a30, a31, a32, a33, b3]] 2 = ([[(d2 a00 a01 a10 a11), 0, (d2 a02 a01 a12 a11), (d2 a03 a01 a13 a11), (d2 b0 a01 b1 a11)], [0, (d2 a00 a01 a10 a11), (d2 a00 a02 a10 a12), (d2 a00 a03 a10 a13), (d2 a00 b0 a10 b1)], [0, 0, (d3 a00 a01 a02 a10 a11 a12 a20 a21 a22), (d3 a00 a01 a03 a10 a11 a13 a20 a21 a23), (d3 a00 a01 b0 a10 a11 b1 a20 a21 b2)], [0, 0, (d3 a00 a01 a02 a10 a11 a12 a30 a31 a32), (d3 a00 a01 a03 a10 a11 a13 a30 a31 a33), (d3 a00 a01 b0 a10 a11 b1 a30 a31 b3)]], (d2 a00 a01 a10 a11)) := by
    rw [elimTo, t1]
    simp only [List.getD_cons_zero, List.getD_cons_succ]
    rw [elim4_1 h1]
  have t3 : elimTo [[a00, a01, a02, a03, b0], [a10, a11, a12, a13, b1], [a20, a21, a22, a23, b2], [a30, a31, a32, a33, b3]] 3 = ([[(d3 a00 a01 a02 a10 a11 a12 a20 a21 a22), 0, 0, (d3 a03 a01 a02 a13 a11 a12 a23 a21 a22), (d3 b0 a01 a02 b1 a11 a12 b2 a21 a22)], [0, (d3 a00 a01 a02 a10 a11 a12 a20 a21 a22), 0, (d3 a00 a03 a02 a10 a13 a12 a20 a23 a22), (d3 a00 b0 a02 a10 b1 a12 a20 b2 a22)], [0, 0, (d3 a00 a01 a02 a10 a11 a12 a20 a21 a22), (d3 a00 a01 a03 a10 a11 a13 a20 a21 a23), (d3 a00 a01 b0 a10 a11 b1 a20 a21 b2)], [0, 0, 0, (d4 a00 a01 a02 a03 a10 a11 a12 a13 a20 a21 a22 a23 a30 a31 a32 a33), (d4 a00 a01 a02 b0 a10 a11 a12 b1 a20 a21 a22 b2 a30 a31 a32 b3)]], (d3 a00 a01 a02 a10 a11 a12 a20 a21 a22)) := by
    rw [elimTo, t2]
    simp only [List.getD_cons_zero, List.getD_cons_succ]
    rw [elim4_2 h2]
  have t4 : elimTo [[a00, a01, a02, a03, b0], [a10, a11, a12, a13, b1], [a20, a21, a22, a23, b2], [a30, a31, a32, a33, b3]] 4 = ([[(d4 a00 a01 a02 a03 a10 a11 a12 a13 a20 a21 a22 a23 a30 a31 a32 a33), 0, 0, 0, (d4 b0 a01 a02 a03 b1 a11 a12 a13 b2 a21 a22 a23 b3 a31 a32 a33)], [0, (d4 a00 a01 a02 a03 a10 a11 a12 a13 a20 a21 a22 a23 a30 a31 a32 a33), 0, 0, (d4 a00 b0 a02 a03 a10 b1 a12 a13 a20 b2 a22 a23 a30 b3 a32 a33)], [0, 0, (d4 a00 a01 a02 a03 a10 a11 a12 a13 a20 a21 a22 a23 a30 a31 a32 a33), 0, (d4 a00 a01 b0 a03 a10 a11 b1 a13 a20 a21 b2 a23 a30 a31 b3 a33)], [0, 0, 0, (d4 a00 a01 a02 a03 a10 a11 a12 a13 a20 a21 a22 a23 a30 a31 a32 a33), (d4 a00 a01 a02 b0 a10 a11 a12 b1 a20 a21 a22 b2 a30 a31 a32 b3)]], (d4 a00 a01 a02 a03 a10 a11 a12 a13 a20 a21 a22 a23 a30 a31 a32 a33)) := by
    rw [elimTo, t3]
    simp only [List.getD_cons_zero, List.getD_cons_succ]
    rw [elim4_3 h3]
  intro c hc
  have : c = 0 ∨ c = 1 ∨ c = 2 ∨ c = 3 ∨ c = 4 := by omega
  rcases this with rfl | rfl | rfl | rfl | rfl
  · rw [t0]
    exact ⟨rfl, (fm ⟨rfl, (fm (ha00.mono (by decide)) (fm (ha01.mono (by decide)) (fm (ha02.mono (by decide)) (fm (ha03.mono (by decide)) (fm (hb0.mono (by decide)) fnil)))))⟩ (fm ⟨rfl, (fm (ha10.mono (by decide)) (fm (ha11.mono (by decide)) (fm (ha12.mono (by decide)) (fm (ha13.mono (by decide)) (fm (hb1.mono (by decide)) fnil)))))⟩ (fm ⟨rfl, (fm (ha20.mono (by decide)) (fm (ha21.mono (by decide)) (fm (ha22.mono (by decide)) (fm (ha23.mono (by decide)) (fm (hb2.mono (by decide)) fnil)))))⟩ (fm ⟨rfl, (fm (ha30.mono (by decide)) (fm (ha31.mono (by decide)) (fm (ha32.mono (by decide)) (fm (ha33.mono (by decide)) (fm (hb3.mono (by decide)) fnil)))))⟩ fnil)))), (by show (0:Int) < 1; omega), (by show Bd _ 1; unfold Bd; omega)⟩
  · rw [t1]
    exact ⟨rfl, (fm ⟨rfl, (fm (ha00.mono (by decide)) (fm (ha01.mono (by decide)) (fm (ha02.mono (by decide)) (fm (ha03.mono (by decide)) (fm (hb0.mono (by decide)) fnil)))))⟩ (fm ⟨rfl, (fm (Bd.zero (by decide)) (fm ((d2_bd ha00 ha01 ha10 ha11).mono (by decide)) (fm ((d2_bd ha00 ha02 ha10 ha12).mono (by decide)) (fm ((d2_bd ha00 ha03 ha10 ha13).mono (by decide)) (fm ((d2_bd ha00 hb0 ha10 hb1).mono (by decide)) fnil)))))⟩ (fm ⟨rfl, (fm (Bd.zero (by decide)) (fm ((d2_bd ha00 ha01 ha20 ha21).mono (by decide)) (fm ((d2_bd ha00 ha02 ha20 ha22).mono (by decide)) (fm ((d2_bd ha00 ha03 ha20 ha23).mono (by decide)) (fm ((d2_bd ha00 hb0 ha20 hb2).mono (by decide)) fnil)))))⟩ (fm ⟨rfl, (fm (Bd.zero (by decide)) (fm ((d2_bd ha00 ha01 ha30 ha31).mono (by decide)) (fm ((d2_bd ha00 ha02 ha30 ha32).mono (by decide)) (fm ((d2_bd ha00 ha03 ha30 ha33).mono (by decide)) (fm ((d2_bd ha00 hb0 ha30 hb3).mono (by decide)) fnil)))))⟩ fnil)))), h1, (ha00.mono (by decide))⟩
  · rw [t2]
    exact ⟨rfl, (fm ⟨rfl, (fm ((d2_bd ha00 ha01 ha10 ha11).mono (by decide)) (fm (Bd.zero (by decide)) (fm ((d2_bd ha02 ha01 ha12 ha11).mono (by decide)) (fm ((d2_bd ha03 ha01 ha13 ha11).mono (by decide)) (fm ((d2_bd hb0 ha01 hb1 ha11).mono (by decide)) fnil)))))⟩ (fm ⟨rfl, (fm (Bd.zero (by decide)) (fm ((d2_bd ha00 ha01 ha10 ha11).mono (by decide)) (fm ((d2_bd ha00 ha02 ha10 ha12).mono (by decide)) (fm ((d2_bd ha00 ha03 ha10 ha13).mono (by decide)) (fm ((d2_bd ha00 hb0 ha10 hb1).mono (by decide)) fnil)))))⟩ (fm ⟨rfl, (fm (Bd.zero (by decide)) (fm (Bd.zero (by decide)) (fm ((d3_bd ha00 ha01 ha02 ha10 ha11 ha12 ha20 ha21 ha22).mono (by decide)) (fm ((d3_bd ha00 ha01 ha03 ha10 ha11 ha13 ha20 ha21 ha23).mono (by decide)) (fm ((d3_bd ha00 ha01 hb0 ha10 ha11 hb1 ha20 ha21 hb2).mono (by decide)) fnil)))))⟩ (fm ⟨rfl, (fm (Bd.zero (by decide)) (fm (Bd.zero (by decide)) (fm ((d3_bd ha00 ha01 ha02 ha10 ha11 ha12 ha30 ha31 ha32).mono (by decide)) (fm ((d3_bd ha00 ha01 ha03 ha10 ha11 ha13 ha30 ha31 ha33).mono (by decide)) (fm ((d3_bd ha00 ha01 hb0 ha10 ha11 hb1 ha30 ha31 hb3).mono (by decide)) fnil)))))⟩ fnil)))), h2, ((d2_bd ha00 ha01 ha10 ha11).mono (by decide))⟩
  · rw [t3]
    exact ⟨rfl, (fm ⟨rfl, (fm ((d3_bd ha00 ha01 ha02 ha10 ha11 ha12 ha20 ha21 ha22).mono (by decide)) (fm (Bd.zero (by decide)) (fm (Bd.zero (by decide)) (fm ((d3_bd ha03 ha01 ha02 ha13 ha11 ha12 ha23 ha21 ha22).mono (by decide)) (fm ((d3_bd hb0 ha01 ha02 hb1 ha11 ha12 hb2 ha21 ha22).mono (by decide)) fnil)))))⟩ (fm ⟨rfl, (fm (Bd.zero (by decide)) (fm ((d3_bd ha00 ha01 ha02 ha10 ha11 ha12 ha20 ha21 ha22).mono (by decide)) (fm (Bd.zero (by decide)) (fm ((d3_bd ha00 ha03 ha02 ha10 ha13 ha12 ha20 ha23 ha22).mono (by decide)) (fm ((d3_bd ha00 hb0 ha02 ha10 hb1 ha12 ha20 hb2 ha22).mono (by decide)) fnil)))))⟩ (fm ⟨rfl, (fm (Bd.zero (by decide)) (fm (Bd.zero (by decide)) (fm ((d3_bd ha00 ha01 ha02 ha10 ha11 ha12 ha20 ha21 ha22).mono (by decide)) (fm ((d3_bd ha00 ha01 ha03 ha10 ha11 ha13 ha20 ha21 ha23).mono (by decide)) (fm ((d3_bd ha00 ha01 hb0 ha10 ha11 hb1 ha20 ha21 hb2).mono (by decide)) fnil)))))⟩ (fm ⟨rfl, (fm (Bd.zero (by decide)) (fm (Bd.zero (by decide)) (fm (Bd.zero (by decide)) (fm ((d4_bd ha00 ha01 ha02 ha03 ha10 ha11 ha12 ha13 ha20 ha21 ha22 ha23 ha30 ha31 ha32 ha33).mono (by decide)) (fm ((d4_bd ha00 ha01 ha02 hb0 ha10 ha11 ha12 hb1 ha20 ha21 ha22 hb2 ha30 ha31 ha32 hb3).mono (by decide)) fnil)))))⟩ fnil)))), h3, ((d3_bd ha00 ha01 ha02 ha10 ha11 ha12 ha20 ha21 ha22).mono (by decide))⟩
  · rw [t4]
    exact ⟨rfl, (fm ⟨rfl, (fm ((d4_bd ha00 ha01 ha02 ha03 ha10 ha11 ha12 ha13 ha20 ha21 ha22 ha23 ha30 ha31 ha32 ha33).mono (by decide)) (fm (Bd.zero (by decide)) (fm (Bd.zero (by decide)) (fm (Bd.zero (by decide)) (fm ((d4_bd hb0 ha01 ha02 ha03 hb1 ha11 ha12 ha13 hb2 ha21 ha22 ha23 hb3 ha31 ha32 ha33).mono (by decide)) fnil)))))⟩ (fm ⟨rfl, (fm (Bd.zero (by decide)) (fm ((d4_bd ha00 ha01 ha02 ha03 ha10 ha11 ha12 ha13 ha20 ha21 ha22 ha23 ha30 ha31 ha32 ha33).mono (by decide)) (fm (Bd.zero (by decide)) (fm (Bd.zero (by decide)) (fm ((d4_bd ha00 hb0 ha02 ha03 ha10 hb1 ha12 ha13 ha20 hb2 ha22 ha23 ha30 hb3 ha32 ha33).mono (by decide)) fnil)))))⟩ (fm ⟨rfl, (fm (Bd.zero (by decide)) (fm (Bd.zero (by decide)) (fm ((d4_bd ha00 ha01 ha02 ha03 ha10 ha11 ha12 ha13 ha20 ha21 ha22 ha23 ha30 ha31 ha32 ha33).mono (by decide)) (fm (Bd.zero (by decide)) (fm ((d4_bd ha00 ha01 hb0 ha03 ha10 ha11 hb1 ha13 ha20 ha21 hb2 ha23 ha30 ha31 hb3 ha33).mono (by decide)) fnil)))))⟩ (fm ⟨rfl, (fm (Bd.zero (by decide)) (fm (Bd.zero (by decide)) (fm (Bd.zero (by decide)) (fm ((d4_bd ha00 ha01 ha02 ha03 ha10 ha11 ha12 ha13 ha20 ha21 ha22 ha23 ha30 ha31 ha32 ha33).mono (by decide)) (fm ((d4_bd ha00 ha01 ha02 hb0 ha10 ha11 ha12 hb1 ha20 ha21 ha22 hb2 ha30 ha31 ha32 hb3).mono (by decide)) fnil)))))⟩ fnil)))), h4, ((d4_bd ha00 ha01 ha02 ha03 ha10 ha11 ha12 ha13 ha20 ha21 ha22 ha23 ha30 ha31 ha32 ha33).mono (by decide))⟩


theorem lapC_bd {p : Nat} {x : St} (hx : OkSt p x) (i j : Int) : Bd 3 (lapC x i j) := by
  obtain ⟨f0, f1, t0, t1, ne, r0, r1, v0, v1⟩ := hx
  unfold lapC Bd
  split <;> split <;> split <;> split <;> omega
theorem lapE_bd0 {p : Nat} : ∀ (xs : List St), (∀ x ∈ xs, OkSt p x) → ∀ i j, Bd (3 * (xs.length : Nat)) (lapE xs i j) := by
  intro xs
  induction xs with
  | nil => intro _ i j; unfold lapE Bd; simp
  | cons x xs ih =>
    intro h i j
    have a := lapC_bd (h x (by simp)) i j
    have b := ih (fun y hy => h y (by simp [hy])) i j
    unfold lapE
    unfold Bd at *
    simp only [List.length_cons]
    omega
theorem lapE_bd {p : Nat} {xs : List St} (hx : ∀ x ∈ xs, OkSt p x) (l8 : xs.length ≤ 8) (i j : Int) : Bd 24 (lapE xs i j) := (lapE_bd0 xs hx i j).mono (by omega)

theorem elimS_1 {xs : List St} (hx : ∀ x ∈ xs, OkSt (1 + 1) x) (l8 : xs.length ≤ 8) (hc : trAll (trTo (1 + 1) xs xs.length) = true) (b : List Int) (hl : b.length = 1 + 1) (hb : ∀ x ∈ b, Bd 2400 x) : ∀ c, c ≤ 1 → EB 1 (elimTo (rowsS 1 xs b) c) := by
  obtain ⟨b0, b1, rfl⟩ := len_1 hl
  have hE := lapE_bd hx l8
  rw [rowsS_1]
  exact elimB1 (hE _ _) (hb _ (by simp)) (lead1 (n := 1) (by omega) hx hc (by omega))
theorem elimS_2 {xs : List St} (hx : ∀ x ∈ xs, OkSt (2 + 1) x) (l8 : xs.length ≤ 8) (hc : trAll (trTo (2 + 1) xs xs.length) = true) (b : List Int) (hl : b.length = 2 + 1) (hb : ∀ x ∈ b, Bd 2400 x) : ∀ c, c ≤ 2 → EB 2 (elimTo (rowsS 2 xs b) c) := by
  obtain ⟨b0, b1, b2, rfl⟩ := len_2 hl
  have hE := lapE_bd hx l8
  rw [rowsS_2]
  exact elimB2 (hE _ _) (hE _ _) (hb _ (by simp)) (hE _ _) (hE _ _) (hb _ (by simp)) (lead1 (n := 2) (by omega) hx hc (by omega)) (lead2 (n := 2) (by omega) hx hc (by omega))
theorem elimS_3 {xs : List St} (hx : ∀ x ∈ xs, OkSt (3 + 1) x) (l8 : xs.length ≤ 8) (hc : trAll (trTo (3 + 1) xs xs.length) = true) (b : List Int) (hl : b.length = 3 + 1) (hb : ∀ x ∈ b, Bd 2400 x) : ∀ c, c ≤ 3 → EB 3 (elimTo (rowsS 3 xs b) c) := by
  obtain ⟨b0, b1, b2, b3, rfl⟩ := len_3 hl
  have hE := lapE_bd hx l8
  rw [rowsS_3]
  exact elimB3 (hE _ _) (hE _ _) (hE _ _) (hb _ (by simp)) (hE _ _) (hE _ _) (hE _ _) (hb _ (by simp)) (hE _ _) (hE _ _) (hE _ _) (hb _ (by simp)) (lead1 (n := 3) (by omega) hx hc (by omega)) (lead2 (n := 3) (by omega) hx hc (by omega)) (lead3 (n := 3) (by omega) hx hc (by omega))
theorem elimS_4 {xs : List St} (hx : ∀ x ∈ xs, OkSt (4 + 1) x) (l8 : xs.length ≤ 8) (hc : trAll (trTo (4 + 1) xs xs.length) = true) (b : List Int) (hl : b.length = 4 + 1) (hb : ∀ x ∈ b, Bd 2400 x) : ∀ c, c ≤ 4 → EB 4 (elimTo (rowsS 4 xs b) c) := by
  obtain ⟨b0, b1, b2, b3, b4, rfl⟩ := len_4 hl
  have hE := lapE_bd hx l8
  rw [rowsS_4]
  exact elimB4 (hE _ _) (hE _ _) (hE _ _) (hE _ _) (hb _ (by simp)) (hE _ _) (hE _ _) (hE _ _) (hE _ _) (hb _ (by simp)) (hE _ _) (hE _ _) (hE _ _) (hE _ _) (hb _ (by simp)) (hE _ _) (hE _ _) (hE _ _) (hE _ _) (hb _ (by simp)) (lead1 (n := 4) (by omega) hx hc (by omega)) (lead2 (n := 4) (by omega) hx hc (by omega)) (lead3 (n := 4) (by omega) hx hc (by omega)) (lead4 (n := 4) (by omega) hx hc (by omega))

theorem elim_bd {n : Nat} {xs : List St} (hn : n ≤ 4) (h1 : 1 ≤ n) (hx : ∀ x ∈ xs, OkSt (n + 1) x) (l8 : xs.length ≤ 8) (hc : trAll (trTo (n + 1) xs xs.length) = true) (b : List Int) (hl : b.length = n + 1) (hb : ∀ x ∈ b, Bd 2400 x) : ∀ c, c ≤ n → EB n (elimTo (rowsS n xs b) c) := by
  have : n = 1 ∨ n = 2 ∨ n = 3 ∨ n = 4 := by omega
  rcases this with rfl | rfl | rfl | rfl
  · exact elimS_1 hx l8 hc b hl hb
  · exact elimS_2 hx l8 hc b hl hb
  · exact elimS_3 hx l8 hc b hl hb
  · exact elimS_4 hx l8 hc b hl hb

/-- The sum of the absolute values of a row. -/
def nrm : List Int → Int
  | [] => 0
  | x :: xs => (x.natAbs : Int) + nrm xs
theorem nrm_nonneg (xs : List Int) : 0 ≤ nrm xs := by
  induction xs with
  | nil => simp [nrm]
  | cons x xs ih => simp only [nrm]; omega
theorem nrm_cut (r : List Int) : ∀ c : Nat, nrm (r.take c ++ r.drop (c + 1)) ≤ nrm r := by
  induction r with
  | nil => intro c; simp
  | cons x xs ih =>
    intro c
    cases c with
    | zero => simp [nrm]; omega
    | succ c => simp only [List.take_succ_cons, List.drop_succ_cons, List.cons_append, nrm]; have := ih c; omega
theorem nrm_take_succ (r : List Int) : ∀ j : Nat, nrm (r.take (j + 1)) = nrm (r.take j) + ((r.getD j 0).natAbs : Int) := by
  induction r with
  | nil => intro j; simp [nrm]
  | cons x xs ih =>
    intro j
    cases j with
    | zero => simp [nrm]
    | succ j => simp only [List.take_succ_cons, nrm, List.getD_cons_succ]; rw [ih j]; omega
theorem nrm_take_le (r : List Int) : ∀ j : Nat, nrm (r.take j) ≤ nrm r := by
  induction r with
  | nil => intro j; simp
  | cons x xs ih =>
    intro j
    cases j with
    | zero => simp only [List.take_zero]; exact nrm_nonneg (x :: xs)
    | succ j => simp only [List.take_succ_cons, nrm]; have := ih j; omega
theorem nrm_set (r : List Int) (x : Int) : ∀ c : Nat, nrm (r.set c x) ≤ nrm r + (x.natAbs : Int) := by
  induction r with
  | nil => intro c; simp [nrm]
  | cons y ys ih =>
    intro c
    cases c with
    | zero => simp only [List.set_cons_zero, nrm]; omega
    | succ c => simp only [List.set_cons_succ, nrm]; have := ih c; omega
theorem nrm_all {r : List Int} {M : Int} (h : ∀ x ∈ r, Bd M x) : nrm r ≤ (r.length : Int) * M := by
  induction r with
  | nil => simp [nrm]
  | cons x xs ih =>
    have a := h x (by simp)
    have b := ih (fun y hy => h y (by simp [hy]))
    unfold Bd at a
    simp only [nrm, List.length_cons]
    have e : ((xs.length + 1 : Nat) : Int) * M = (xs.length : Int) * M + M := by push_cast; grind
    rw [e]; omega

theorem sgn_abs (c : Nat) : (sgn c).natAbs = 1 := by unfold sgn; split <;> rfl
theorem rsum_bd {f : Nat → Int} {h : List Int} {M : Int} (hM : 0 ≤ M) : ∀ j : Nat, (∀ c, c < j → ((f c).natAbs : Int) ≤ ((h.getD c 0).natAbs : Int) * M) → ((rsum f j).natAbs : Int) ≤ nrm (h.take j) * M := by
  intro j
  induction j with
  | zero => intro _; simp [rsum, nrm]
  | succ j ih =>
    intro hf
    have a := ih (fun c hc => hf c (by omega))
    have b := hf j (by omega)
    rw [nrm_take_succ, Int.add_mul]
    simp only [rsum]
    have := Int.natAbs_add_le (rsum f j) (f j)
    omega

theorem minorL_len (R : List (List Int)) (c : Nat) : (minorL R c).length = R.length - 1 := by simp [minorL]
theorem minorL_row {R : List (List Int)} {n c : Nat} (h : ∀ r ∈ R, r.length = n + 1) (hc : c ≤ n) : ∀ r ∈ minorL R c, r.length = n := by
  intro r hr
  simp only [minorL, List.mem_map] at hr
  obtain ⟨q, hq, rfl⟩ := hr
  have := h q (List.mem_of_mem_tail hq)
  simp; omega
theorem minorL_nrm {R : List (List Int)} {N : Int} (h : ∀ r ∈ R.tail, nrm r ≤ N) (c : Nat) : ∀ r ∈ minorL R c, nrm r ≤ N := by
  intro r hr
  simp only [minorL, List.mem_map] at hr
  obtain ⟨q, hq, rfl⟩ := hr
  have := h q hq
  have := nrm_cut q c
  omega
/-- A term of the determinant. -/
def detF (n : Nat) (R : List (List Int)) (c : Nat) : Int := sgn c * (R.headD []).getD c 0 * det n (minorL R c)
theorem det_succ (n : Nat) (R : List (List Int)) : det (n + 1) R = rsum (detF n R) (n + 1) := rfl
theorem det_both {N : Int} (hN : 0 ≤ N) : ∀ (n : Nat) (R : List (List Int)), R.length = n → (∀ r ∈ R, r.length = n) → (∀ r ∈ R, nrm r ≤ N) → ((det n R).natAbs : Int) ≤ N ^ n := by
  intro n
  induction n with
  | zero => intro R _ _ _; simp [det]
  | succ n ih =>
    intro R hl hr hn
    have h := rsum_bd (f := detF n R) (h := R.headD []) (M := N ^ n) (Int.pow_nonneg hN) (n + 1) (fun c hc => by
      have := ih (minorL R c) (by rw [minorL_len]; omega) (minorL_row hr (by omega)) (minorL_nrm (fun r h => hn r (List.mem_of_mem_tail h)) c)
      unfold detF
      rw [Int.natAbs_mul, Int.natAbs_mul, sgn_abs, Nat.one_mul]
      push_cast
      exact Int.mul_le_mul_of_nonneg_left this (by omega))
    have h2 : nrm (R.headD []) ≤ N := by
      cases R with
      | nil => simp at hl
      | cons a t => exact hn a (by simp)
    have h3 := nrm_take_le (R.headD []) (n + 1)
    rw [det_succ, Int.pow_succ, Int.mul_comm]
    rw [Int.mul_comm] at h
    have h4 : N ^ n * nrm ((R.headD []).take (n + 1)) ≤ N ^ n * N := Int.mul_le_mul_of_nonneg_left (by omega) (Int.pow_nonneg hN)
    rw [Int.mul_comm N]
    omega
/-- A part of the determinant's sum. -/
theorem det_part {N : Int} (hN : 0 ≤ N) {n : Nat} {R : List (List Int)} (hl : R.length = n + 1) (hr : ∀ r ∈ R, r.length = n + 1) (hn : ∀ r ∈ R.tail, nrm r ≤ N) (j : Nat) (hj : j ≤ n + 1) : ((rsum (detF n R) j).natAbs : Int) ≤ nrm (R.headD []) * N ^ n := by
  have h := rsum_bd (f := detF n R) (h := R.headD []) (M := N ^ n) (Int.pow_nonneg hN) j (fun c hc => by
    have := det_both hN n (minorL R c) (by rw [minorL_len]; omega) (minorL_row hr (by omega)) (minorL_nrm hn c)
    unfold detF
    rw [Int.natAbs_mul, Int.natAbs_mul, sgn_abs, Nat.one_mul]
    push_cast
    exact Int.mul_le_mul_of_nonneg_left this (by omega))
  have h3 := nrm_take_le (R.headD []) j
  have h4 : nrm ((R.headD []).take j) * N ^ n ≤ nrm (R.headD []) * N ^ n := Int.mul_le_mul_of_nonneg_right h3 (Int.pow_nonneg hN)
  omega
theorem natAbs_bd {x m : Int} (h : (x.natAbs : Int) ≤ m) : Bd m x := by unfold Bd; omega
theorem bd_natAbs {x m : Int} (h : Bd m x) : (x.natAbs : Int) ≤ m := by unfold Bd at h; omega

theorem rowsP_len (n : Nat) (xs : List St) : (rowsP n xs).length = n + 1 := by simp [rowsP]
theorem rowsP_get {n : Nat} {xs : List St} {i : Nat} (hi : i < n + 1) : (rowsP n xs)[i]? = some (if i = 0 then 1 :: List.replicate n 0 else (List.range (n + 1)).map fun (j : Nat) => lapE xs i j) := by simp [rowsP, hi]
theorem rowsP_row (n : Nat) (xs : List St) : ∀ r ∈ rowsP n xs, r.length = n + 1 := by
  intro r hr
  simp only [rowsP, List.mem_map, List.mem_range] at hr
  obtain ⟨i, hi, rfl⟩ := hr
  split <;> simp
theorem nrm_one (n : Nat) : nrm (1 :: List.replicate n 0) = 1 := by
  have : ∀ n, nrm (List.replicate n 0) = 0 := by
    intro n
    induction n with
    | zero => rfl
    | succ n ih => rw [List.replicate_succ]; simp only [nrm, ih]; omega
  simp only [nrm, this]; omega
theorem rowsP_nrm {p n : Nat} {xs : List St} (hn : n ≤ 4) (hx : ∀ x ∈ xs, OkSt p x) (l8 : xs.length ≤ 8) : ∀ r ∈ rowsP n xs, nrm r ≤ 120 := by
  intro r hr
  simp only [rowsP, List.mem_map, List.mem_range] at hr
  obtain ⟨i, hi, rfl⟩ := hr
  split
  · rw [nrm_one]; omega
  · have := nrm_all (r := (List.range (n + 1)).map fun (j : Nat) => lapE xs i j) (M := 24) (by
      intro x h
      simp only [List.mem_map] at h
      obtain ⟨j, -, rfl⟩ := h
      exact lapE_bd hx l8 _ _)
    simp only [List.length_map, List.length_range] at this
    omega
theorem colSet_len (R : List (List Int)) (c : Nat) (b : List Int) (h : b.length = R.length) : (colSet R c b).length = R.length := by simp [colSet, h]
theorem colSet_row {R : List (List Int)} {c m : Nat} {b : List Int} (h : ∀ r ∈ R, r.length = m) : ∀ r ∈ colSet R c b, r.length = m := by
  intro r hr
  simp only [colSet] at hr
  obtain ⟨i, hi⟩ := List.mem_iff_getElem?.1 hr
  rw [List.getElem?_zipWith] at hi
  cases e1 : R[i]? with
  | none => rw [e1] at hi; simp at hi
  | some q =>
    cases e2 : b[i]? with
    | none => rw [e1, e2] at hi; simp at hi
    | some x =>
      rw [e1, e2] at hi
      simp only [Option.some.injEq] at hi
      subst hi
      rw [List.length_set]; exact h q (List.mem_of_getElem? e1)
theorem colSet_nrm {R : List (List Int)} {c : Nat} {b : List Int} {A B : Int} (h : ∀ r ∈ R, nrm r ≤ A) (hb : ∀ x ∈ b, Bd B x) : ∀ r ∈ colSet R c b, nrm r ≤ A + B := by
  intro r hr
  simp only [colSet] at hr
  obtain ⟨i, hi⟩ := List.mem_iff_getElem?.1 hr
  rw [List.getElem?_zipWith] at hi
  cases e1 : R[i]? with
  | none => rw [e1] at hi; simp at hi
  | some q =>
    cases e2 : b[i]? with
    | none => rw [e1, e2] at hi; simp at hi
    | some x =>
      rw [e1, e2] at hi
      simp only [Option.some.injEq] at hi
      subst hi
      have := nrm_set q x c
      have := h q (List.mem_of_getElem? e1)
      have := bd_natAbs (hb x (List.mem_of_getElem? e2))
      omega
/-- What Cramer's determinants are bounded by. -/
theorem cramer_bd {p n : Nat} {xs : List St} (hn : n ≤ 4) (hx : ∀ x ∈ xs, OkSt p x) (l8 : xs.length ≤ 8) {b : List Int} (hl : b.length = n + 1) (hb : ∀ x ∈ b, Bd 2400 x) (c : Nat) : Bd 81000000000000 (det (n + 1) (colSet (rowsP n xs) c (b.set 0 0))) := by
  have hb' : ∀ x ∈ b.set 0 0, Bd 2400 x := by
    intro x hx'
    rcases List.mem_or_eq_of_mem_set hx' with h | rfl
    · exact hb x h
    · unfold Bd; omega
  have hl' : (b.set 0 0).length = (rowsP n xs).length := by rw [List.length_set, rowsP_len, hl]
  have hN := colSet_nrm (c := c) (rowsP_nrm hn hx l8) hb'
  obtain ⟨h, t, e⟩ : ∃ h t, colSet (rowsP n xs) c (b.set 0 0) = h :: t := by
    cases e : colSet (rowsP n xs) c (b.set 0 0) with
    | nil => have := colSet_len _ c _ hl'; rw [e, rowsP_len] at this; simp at this
    | cons h t => exact ⟨h, t, rfl⟩
  have hh : nrm h ≤ 1 := by
    have e0 : (colSet (rowsP n xs) c (b.set 0 0))[0]? = some h := by rw [e]; rfl
    simp only [colSet] at e0
    rw [List.getElem?_zipWith, rowsP_get (by omega), if_pos rfl] at e0
    cases b with
    | nil => simp at hl
    | cons b0 b =>
      simp only [List.set_cons_zero, List.getElem?_cons_zero, Option.some.injEq] at e0
      subst e0
      have := nrm_set (1 :: List.replicate n 0) 0 c
      rw [nrm_one] at this
      simpa using this
  have P := det_part (N := 3000) (by omega) (n := n) (R := colSet (rowsP n xs) c (b.set 0 0)) (by rw [colSet_len _ _ _ hl', rowsP_len]) (colSet_row (rowsP_row n xs)) (fun r hr => by have := hN r (List.mem_of_mem_tail hr); omega) (n + 1) (Nat.le_refl _)
  rw [← det_succ] at P
  have e1 : (colSet (rowsP n xs) c (b.set 0 0)).headD [] = h := by rw [e]; rfl
  rw [e1] at P
  have hp : (3000 : Int) ^ n ≤ 81000000000000 := by
    have : n = 0 ∨ n = 1 ∨ n = 2 ∨ n = 3 ∨ n = 4 := by omega
    rcases this with rfl | rfl | rfl | rfl | rfl <;> decide
  have hp0 : (0 : Int) ≤ 3000 ^ n := Int.pow_nonneg (by omega)
  have h2 : nrm h * 3000 ^ n ≤ 1 * 3000 ^ n := Int.mul_le_mul_of_nonneg_right hh hp0
  exact natAbs_bd (by omega)
theorem unit_bd {p n : Nat} {xs : List St} (hn : n ≤ 4) (hx : ∀ x ∈ xs, OkSt p x) (l8 : xs.length ≤ 8) : Bd 207360000 (det (n + 1) (rowsP n xs)) := by
  obtain ⟨h, t, e⟩ : ∃ h t, rowsP n xs = h :: t := by
    cases e : rowsP n xs with
    | nil => have := rowsP_len n xs; rw [e] at this; simp at this
    | cons h t => exact ⟨h, t, rfl⟩
  have hh : nrm h ≤ 1 := by
    have e0 : (rowsP n xs)[0]? = some h := by rw [e]; rfl
    rw [rowsP_get (by omega), if_pos rfl] at e0
    simp only [Option.some.injEq] at e0
    subst e0
    rw [nrm_one]; omega
  have P := det_part (N := 120) (by omega) (n := n) (R := rowsP n xs) (rowsP_len n xs) (rowsP_row n xs) (fun r hr => rowsP_nrm hn hx l8 r (List.mem_of_mem_tail hr)) (n + 1) (Nat.le_refl _)
  rw [← det_succ] at P
  have e1 : (rowsP n xs).headD [] = h := by rw [e]; rfl
  rw [e1] at P
  have hp : (120 : Int) ^ n ≤ 207360000 := by
    have : n = 0 ∨ n = 1 ∨ n = 2 ∨ n = 3 ∨ n = 4 := by omega
    rcases this with rfl | rfl | rfl | rfl | rfl <;> decide
  have hp0 : (0 : Int) ≤ 120 ^ n := Int.pow_nonneg (by omega)
  have h2 : nrm h * 120 ^ n ≤ 1 * 120 ^ n := Int.mul_le_mul_of_nonneg_right hh hp0
  exact natAbs_bd (by omega)
theorem unit_pos {n : Nat} {xs : List St} (hn : n ≤ 4) (h1 : 1 ≤ n) (hx : ∀ x ∈ xs, OkSt (n + 1) x) (hc : trAll (trTo (n + 1) xs xs.length) = true) : 0 < det (n + 1) (rowsP n xs) := by
  have : n = 1 ∨ n = 2 ∨ n = 3 ∨ n = 4 := by omega
  rcases this with rfl | rfl | rfl | rfl
  · rw [rowsP_1, det_one1]; exact lead1 (n := 1) (by omega) hx hc (by omega)
  · rw [rowsP_2, det_one2]; exact lead2 (n := 2) (by omega) hx hc (by omega)
  · rw [rowsP_3, det_one3]; exact lead3 (n := 3) (by omega) hx hc (by omega)
  · rw [rowsP_4, det_one4]; exact lead4 (n := 4) (by omega) hx hc (by omega)
end Go.Proofs.YtcmocilojloolaaDoor
