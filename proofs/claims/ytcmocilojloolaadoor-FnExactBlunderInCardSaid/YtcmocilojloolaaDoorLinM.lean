/- Normal equations: the elimination of the specification and the determinants of the program give the same numbers. Pure. (Written by tools/genlin.py, gen2.py, gen3.py.) -/
import Derived.Test.YtcmocilojloolaaDoorTreeM
namespace Go.Proofs.YtcmocilojloolaaDoor
open Go.ChangeShapes Go.WideShapes Go.ChangeAt Go.RowKit
set_option linter.unusedVariables false
set_option linter.unusedSimpArgs false

/-- A sum over the first k numbers. -/
def rsum (f : Nat → Int) : Nat → Int
  | 0 => 0
  | k + 1 => rsum f k + f k

def minorL (r : List (List Int)) (c : Nat) : List (List Int) := r.tail.map fun row => row.take c ++ row.drop (c + 1)
def sgn (c : Nat) : Int := if c % 2 = 0 then 1 else -1

/-- The determinant of n rows, by the first one. -/
def det : Nat → List (List Int) → Int
  | 0, _ => 1
  | n + 1, r => rsum (fun c => sgn c * (r.headD []).getD c 0 * det n (minorL r c)) (n + 1)

/-- A row of the specification's elimination. -/
def elimR (last by_ wth : Int) (ri rc : List Int) : List Int := List.zipWith (fun a b => (a * by_ - wth * b).tdiv last) ri rc
def elimC (last : Int) (M : List (List Int)) (c : Nat) : List (List Int) :=
  M.mapIdx fun i ri => if i = c then ri else elimR last ((M.getD c []).getD c 0) (ri.getD c 0) ri (M.getD c [])
def elimTo (M : List (List Int)) : Nat → List (List Int) × Int
  | 0 => (M, 1)
  | c + 1 => (elimC (elimTo M c).2 (elimTo M c).1 c, ((elimTo M c).1.getD c []).getD c 0)

theorem tdiv_of {a b c : Int} (hb : 0 < b) (h : a = b * c) : a.tdiv b = c := by
  rw [h]; exact Int.mul_tdiv_cancel_left c (by omega)

@[irreducible] def d2 (a b c d : Int) : Int := a * d - b * c
@[irreducible] def d3 (a b c d e f g h i : Int) : Int := a * d2 e f h i - b * d2 d f g i + c * d2 d e g h
@[irreducible] def d4 (a b c d e f g h i j k l m n o p : Int) : Int := a * d3 f g h j k l n o p - b * d3 e g h i k l m o p + c * d3 e f h i j l m n p - d * d3 e f g i j k m n o
theorem d2_eq (a b c d : Int) : d2 a b c d = a * d - b * c := by unfold d2; rfl
theorem d3_eq (a b c d e f g h i : Int) : d3 a b c d e f g h i = a * (e * i - f * h) - b * (d * i - f * g) + c * (d * h - e * g) := by unfold d3 d2; rfl
theorem d4_eq (a b c d e f g h i j k l m n o p : Int) : d4 a b c d e f g h i j k l m n o p = a * (f * (k * p - l * o) - g * (j * p - l * n) + h * (j * o - k * n)) - b * (e * (k * p - l * o) - g * (i * p - l * m) + h * (i * o - k * m)) + c * (e * (j * p - l * n) - f * (i * p - l * m) + h * (i * n - j * m)) - d * (e * (j * o - k * n) - f * (i * o - k * m) + g * (i * n - j * m)) := by unfold d4 d3 d2; rfl

set_option maxHeartbeats 4000000 in
theorem elim1_0 {a00 b0 : Int} : elimC 1 [[a00, b0]] 0 = [[a00, b0]] := by
  simp [elimC, d2_eq]
  try simp

theorem elimAll1 {a00 b0 : Int}  : elimTo [[a00, b0]] 1 = ([[a00, b0]], a00) := by
  have t0 : elimTo [[a00, b0]] 0 = ([[a00, b0]], 1) := rfl
  have t1 : elimTo [[a00, b0]] 1 = ([[a00, b0]], a00) := by
    rw [elimTo, t0]
    simp only [List.getD_cons_zero, List.getD_cons_succ]
    rw [elim1_0]
  exact t1

set_option maxHeartbeats 4000000 in
theorem elim2_0 {a00 a01 b0 a10 a11 b1 : Int} : elimC 1 [[a00, a01, b0], [a10, a11, b1]] 0 = [[a00, a01, b0], [0, (d2 a00 a01 a10 a11), (d2 a00 b0 a10 b1)]] := by
  have e10 : Int.tdiv (a10 * a00 - a10 * a00) 1 = 0 := by rw [Int.tdiv_one]; (try simp only [d2_eq]); grind
  have e11 : Int.tdiv (a11 * a00 - a10 * a01) 1 = (d2 a00 a01 a10 a11) := by rw [Int.tdiv_one]; (try simp only [d2_eq]); grind
  have e12 : Int.tdiv (b1 * a00 - a10 * b0) 1 = (d2 a00 b0 a10 b1) := by rw [Int.tdiv_one]; (try simp only [d2_eq]); grind
  simp only [elimC, List.mapIdx_cons, List.mapIdx_nil, elimR, List.getD_cons_zero, List.getD_cons_succ, List.zipWith_cons_cons, List.zipWith_nil_left, List.zipWith_nil_right, Nat.reduceAdd, Nat.reduceEqDiff, reduceIte, Nat.zero_add, Nat.add_one_ne_zero, e10, e11, e12]
  try simp

set_option maxHeartbeats 4000000 in
theorem elim2_1 {a00 a01 b0 a10 a11 b1 : Int} (h : 0 < a00) : elimC a00 [[a00, a01, b0], [0, (d2 a00 a01 a10 a11), (d2 a00 b0 a10 b1)]] 1 = [[(d2 a00 a01 a10 a11), 0, (d2 b0 a01 b1 a11)], [0, (d2 a00 a01 a10 a11), (d2 a00 b0 a10 b1)]] := by
  have e00 : Int.tdiv (a00 * (d2 a00 a01 a10 a11) - a01 * 0) a00 = (d2 a00 a01 a10 a11) := tdiv_of h (by (try simp only [d2_eq, d3_eq, d4_eq]); grind)
  have e01 : Int.tdiv (a01 * (d2 a00 a01 a10 a11) - a01 * (d2 a00 a01 a10 a11)) a00 = 0 := tdiv_of h (by (try simp only [d2_eq, d3_eq, d4_eq]); grind)
  have e02 : Int.tdiv (b0 * (d2 a00 a01 a10 a11) - a01 * (d2 a00 b0 a10 b1)) a00 = (d2 b0 a01 b1 a11) := tdiv_of h (by (try simp only [d2_eq, d3_eq, d4_eq]); grind)
  simp only [elimC, List.mapIdx_cons, List.mapIdx_nil, elimR, List.getD_cons_zero, List.getD_cons_succ, List.zipWith_cons_cons, List.zipWith_nil_left, List.zipWith_nil_right, Nat.reduceAdd, Nat.reduceEqDiff, reduceIte, Nat.zero_add, Nat.add_one_ne_zero, e00, e01, e02]
  try simp

theorem elimAll2 {a00 a01 b0 a10 a11 b1 : Int} (h1 : 0 < a00) : elimTo [[a00, a01, b0], [a10, a11, b1]] 2 = ([[(d2 a00 a01 a10 a11), 0, (d2 b0 a01 b1 a11)], [0, (d2 a00 a01 a10 a11), (d2 a00 b0 a10 b1)]], (d2 a00 a01 a10 a11)) := by
  have t0 : elimTo [[a00, a01, b0], [a10, a11, b1]] 0 = ([[a00, a01, b0], [a10, a11, b1]], 1) := rfl
  have t1 : elimTo [[a00, a01, b0], [a10, a11, b1]] 1 = ([[a00, a01, b0], [0, (d2 a00 a01 a10 a11), (d2 a00 b0 a10 b1)]], a00) := by
    rw [elimTo, t0]
    simp only [List.getD_cons_zero, List.getD_cons_succ]
    rw [elim2_0]
  have t2 : elimTo [[a00, a01, b0], [a10, a11, b1]] 2 = ([[(d2 a00 a01 a10 a11), 0, (d2 b0 a01 b1 a11)], [0, (d2 a00 a01 a10 a11), (d2 a00 b0 a10 b1)]], (d2 a00 a01 a10 a11)) := by
    rw [elimTo, t1]
    simp only [List.getD_cons_zero, List.getD_cons_succ]
    rw [elim2_1 h1]
  exact t2

set_option maxHeartbeats 4000000 in
theorem elim3_0 {a00 a01 a02 b0 a10 a11 a12 b1 a20 a21 a22 b2 : Int} : elimC 1 [[a00, a01, a02, b0], [a10, a11, a12, b1], [a20, a21, a22, b2]] 0 = [[a00, a01, a02, b0], [0, (d2 a00 a01 a10 a11), (d2 a00 a02 a10 a12), (d2 a00 b0 a10 b1)], [0, (d2 a00 a01 a20 a21), (d2 a00 a02 a20 a22), (d2 a00 b0 a20 b2)]] := by
  have e10 : Int.tdiv (a10 * a00 - a10 * a00) 1 = 0 := by rw [Int.tdiv_one]; (try simp only [d2_eq]); grind
  have e11 : Int.tdiv (a11 * a00 - a10 * a01) 1 = (d2 a00 a01 a10 a11) := by rw [Int.tdiv_one]; (try simp only [d2_eq]); grind
  have e12 : Int.tdiv (a12 * a00 - a10 * a02) 1 = (d2 a00 a02 a10 a12) := by rw [Int.tdiv_one]; (try simp only [d2_eq]); grind
  have e13 : Int.tdiv (b1 * a00 - a10 * b0) 1 = (d2 a00 b0 a10 b1) := by rw [Int.tdiv_one]; (try simp only [d2_eq]); grind
  have e20 : Int.tdiv (a20 * a00 - a20 * a00) 1 = 0 := by rw [Int.tdiv_one]; (try simp only [d2_eq]); grind
  have e21 : Int.tdiv (a21 * a00 - a20 * a01) 1 = (d2 a00 a01 a20 a21) := by rw [Int.tdiv_one]; (try simp only [d2_eq]); grind
  have e22 : Int.tdiv (a22 * a00 - a20 * a02) 1 = (d2 a00 a02 a20 a22) := by rw [Int.tdiv_one]; (try simp only [d2_eq]); grind
  have e23 : Int.tdiv (b2 * a00 - a20 * b0) 1 = (d2 a00 b0 a20 b2) := by rw [Int.tdiv_one]; (try simp only [d2_eq]); grind
  simp only [elimC, List.mapIdx_cons, List.mapIdx_nil, elimR, List.getD_cons_zero, List.getD_cons_succ, List.zipWith_cons_cons, List.zipWith_nil_left, List.zipWith_nil_right, Nat.reduceAdd, Nat.reduceEqDiff, reduceIte, Nat.zero_add, Nat.add_one_ne_zero, e10, e11, e12, e13, e20, e21, e22, e23]
  try simp

set_option maxHeartbeats 4000000 in
theorem elim3_1 {a00 a01 a02 b0 a10 a11 a12 b1 a20 a21 a22 b2 : Int} (h : 0 < a00) : elimC a00 [[a00, a01, a02, b0], [0, (d2 a00 a01 a10 a11), (d2 a00 a02 a10 a12), (d2 a00 b0 a10 b1)], [0, (d2 a00 a01 a20 a21), (d2 a00 a02 a20 a22), (d2 a00 b0 a20 b2)]] 1 = [[(d2 a00 a01 a10 a11), 0, (d2 a02 a01 a12 a11), (d2 b0 a01 b1 a11)], [0, (d2 a00 a01 a10 a11), (d2 a00 a02 a10 a12), (d2 a00 b0 a10 b1)], [0, 0, (d3 a00 a01 a02 a10 a11 a12 a20 a21 a22), (d3 a00 a01 b0 a10 a11 b1 a20 a21 b2)]] := by
  have e00 : Int.tdiv (a00 * (d2 a00 a01 a10 a11) - a01 * 0) a00 = (d2 a00 a01 a10 a11) := tdiv_of h (by (try simp only [d2_eq, d3_eq, d4_eq]); grind)
  have e01 : Int.tdiv (a01 * (d2 a00 a01 a10 a11) - a01 * (d2 a00 a01 a10 a11)) a00 = 0 := tdiv_of h (by (try simp only [d2_eq, d3_eq, d4_eq]); grind)
  have e02 : Int.tdiv (a02 * (d2 a00 a01 a10 a11) - a01 * (d2 a00 a02 a10 a12)) a00 = (d2 a02 a01 a12 a11) := tdiv_of h (by (try simp only [d2_eq, d3_eq, d4_eq]); grind)
  have e03 : Int.tdiv (b0 * (d2 a00 a01 a10 a11) - a01 * (d2 a00 b0 a10 b1)) a00 = (d2 b0 a01 b1 a11) := tdiv_of h (by (try simp only [d2_eq, d3_eq, d4_eq]); grind)
  have e20 : Int.tdiv (0 * (d2 a00 a01 a10 a11) - (d2 a00 a01 a20 a21) * 0) a00 = 0 := tdiv_of h (by (try simp only [d2_eq, d3_eq, d4_eq]); grind)
  have e21 : Int.tdiv ((d2 a00 a01 a20 a21) * (d2 a00 a01 a10 a11) - (d2 a00 a01 a20 a21) * (d2 a00 a01 a10 a11)) a00 = 0 := tdiv_of h (by (try simp only [d2_eq, d3_eq, d4_eq]); grind)
  have e22 : Int.tdiv ((d2 a00 a02 a20 a22) * (d2 a00 a01 a10 a11) - (d2 a00 a01 a20 a21) * (d2 a00 a02 a10 a12)) a00 = (d3 a00 a01 a02 a10 a11 a12 a20 a21 a22) := tdiv_of h (by (try simp only [d2_eq, d3_eq, d4_eq]); grind)
  have e23 : Int.tdiv ((d2 a00 b0 a20 b2) * (d2 a00 a01 a10 a11) - (d2 a00 a01 a20 a21) * (d2 a00 b0 a10 b1)) a00 = (d3 a00 a01 b0 a10 a11 b1 a20 a21 b2) := tdiv_of h (by (try simp only [d2_eq, d3_eq, d4_eq]); grind)
  simp only [elimC, List.mapIdx_cons, List.mapIdx_nil, elimR, List.getD_cons_zero, List.getD_cons_succ, List.zipWith_cons_cons, List.zipWith_nil_left, List.zipWith_nil_right, Nat.reduceAdd, Nat.reduceEqDiff, reduceIte, Nat.zero_add, Nat.add_one_ne_zero, e00, e01, e02, e03, e20, e21, e22, e23]
  try simp

set_option maxHeartbeats 4000000 in
theorem elim3_2 {a00 a01 a02 b0 a10 a11 a12 b1 a20 a21 a22 b2 : Int} (h : 0 < (d2 a00 a01 a10 a11)) : elimC (d2 a00 a01 a10 a11) [[(d2 a00 a01 a10 a11), 0, (d2 a02 a01 a12 a11), (d2 b0 a01 b1 a11)], [0, (d2 a00 a01 a10 a11), (d2 a00 a02 a10 a12), (d2 a00 b0 a10 b1)], [0, 0, (d3 a00 a01 a02 a10 a11 a12 a20 a21 a22), (d3 a00 a01 b0 a10 a11 b1 a20 a21 b2)]] 2 = [[(d3 a00 a01 a02 a10 a11 a12 a20 a21 a22), 0, 0, (d3 b0 a01 a02 b1 a11 a12 b2 a21 a22)], [0, (d3 a00 a01 a02 a10 a11 a12 a20 a21 a22), 0, (d3 a00 b0 a02 a10 b1 a12 a20 b2 a22)], [0, 0, (d3 a00 a01 a02 a10 a11 a12 a20 a21 a22), (d3 a00 a01 b0 a10 a11 b1 a20 a21 b2)]] := by
  have e00 : Int.tdiv ((d2 a00 a01 a10 a11) * (d3 a00 a01 a02 a10 a11 a12 a20 a21 a22) - (d2 a02 a01 a12 a11) * 0) (d2 a00 a01 a10 a11) = (d3 a00 a01 a02 a10 a11 a12 a20 a21 a22) := tdiv_of h (by (try simp only [d2_eq, d3_eq, d4_eq]); grind)
  have e01 : Int.tdiv (0 * (d3 a00 a01 a02 a10 a11 a12 a20 a21 a22) - (d2 a02 a01 a12 a11) * 0) (d2 a00 a01 a10 a11) = 0 := tdiv_of h (by (try simp only [d2_eq, d3_eq, d4_eq]); grind)
  have e02 : Int.tdiv ((d2 a02 a01 a12 a11) * (d3 a00 a01 a02 a10 a11 a12 a20 a21 a22) - (d2 a02 a01 a12 a11) * (d3 a00 a01 a02 a10 a11 a12 a20 a21 a22)) (d2 a00 a01 a10 a11) = 0 := tdiv_of h (by (try simp only [d2_eq, d3_eq, d4_eq]); grind)
  have e03 : Int.tdiv ((d2 b0 a01 b1 a11) * (d3 a00 a01 a02 a10 a11 a12 a20 a21 a22) - (d2 a02 a01 a12 a11) * (d3 a00 a01 b0 a10 a11 b1 a20 a21 b2)) (d2 a00 a01 a10 a11) = (d3 b0 a01 a02 b1 a11 a12 b2 a21 a22) := tdiv_of h (by (try simp only [d2_eq, d3_eq, d4_eq]); grind)
  have e10 : Int.tdiv (0 * (d3 a00 a01 a02 a10 a11 a12 a20 a21 a22) - (d2 a00 a02 a10 a12) * 0) (d2 a00 a01 a10 a11) = 0 := tdiv_of h (by (try simp only [d2_eq, d3_eq, d4_eq]); grind)
  have e11 : Int.tdiv ((d2 a00 a01 a10 a11) * (d3 a00 a01 a02 a10 a11 a12 a20 a21 a22) - (d2 a00 a02 a10 a12) * 0) (d2 a00 a01 a10 a11) = (d3 a00 a01 a02 a10 a11 a12 a20 a21 a22) := tdiv_of h (by (try simp only [d2_eq, d3_eq, d4_eq]); grind)
  have e12 : Int.tdiv ((d2 a00 a02 a10 a12) * (d3 a00 a01 a02 a10 a11 a12 a20 a21 a22) - (d2 a00 a02 a10 a12) * (d3 a00 a01 a02 a10 a11 a12 a20 a21 a22)) (d2 a00 a01 a10 a11) = 0 := tdiv_of h (by (try simp only [d2_eq, d3_eq, d4_eq]); grind)
  have e13 : Int.tdiv ((d2 a00 b0 a10 b1) * (d3 a00 a01 a02 a10 a11 a12 a20 a21 a22) - (d2 a00 a02 a10 a12) * (d3 a00 a01 b0 a10 a11 b1 a20 a21 b2)) (d2 a00 a01 a10 a11) = (d3 a00 b0 a02 a10 b1 a12 a20 b2 a22) := tdiv_of h (by (try simp only [d2_eq, d3_eq, d4_eq]); grind)
  simp only [elimC, List.mapIdx_cons, List.mapIdx_nil, elimR, List.getD_cons_zero, List.getD_cons_succ, List.zipWith_cons_cons, List.zipWith_nil_left, List.zipWith_nil_right, Nat.reduceAdd, Nat.reduceEqDiff, reduceIte, Nat.zero_add, Nat.add_one_ne_zero, e00, e01, e02, e03, e10, e11, e12, e13]
  try simp

theorem elimAll3 {a00 a01 a02 b0 a10 a11 a12 b1 a20 a21 a22 b2 : Int} (h1 : 0 < a00) (h2 : 0 < (d2 a00 a01 a10 a11)) : elimTo [[a00, a01, a02, b0], [a10, a11, a12, b1], [a20, a21, a22, b2]] 3 = ([[(d3 a00 a01 a02 a10 a11 a12 a20 a21 a22), 0, 0, (d3 b0 a01 a02 b1 a11 a12 b2 a21 a22)], [0, (d3 a00 a01 a02 a10 a11 a12 a20 a21 a22), 0, (d3 a00 b0 a02 a10 b1 a12 a20 b2 a22)], [0, 0, (d3 a00 a01 a02 a10 a11 a12 a20 a21 a22), (d3 a00 a01 b0 a10 a11 b1 a20 a21 b2)]], (d3 a00 a01 a02 a10 a11 a12 a20 a21 a22)) := by
  have t0 : elimTo [[a00, a01, a02, b0], [a10, a11, a12, b1], [a20, a21, a22, b2]] 0 = ([[a00, a01, a02, b0], [a10, a11, a12, b1], [a20, a21, a22, b2]], 1) := rfl
  have t1 : elimTo [[a00, a01, a02, b0], [a10, a11, a12, b1], [a20, a21, a22, b2]] 1 = ([[a00, a01, a02, b0], [0, (d2 a00 a01 a10 a11), (d2 a00 a02 a10 a12), (d2 a00 b0 a10 b1)], [0, (d2 a00 a01 a20 a21), (d2 a00 a02 a20 a22), (d2 a00 b0 a20 b2)]], a00) := by
    rw [elimTo, t0]
    simp only [List.getD_cons_zero, List.getD_cons_succ]
    rw [elim3_0]
  have t2 : elimTo [[a00, a01, a02, b0], [a10, a11, a12, b1], [a20, a21, a22, b2]] 2 = ([[(d2 a00 a01 a10 a11), 0, (d2 a02 a01 a12 a11), (d2 b0 a01 b1 a11)], [0, (d2 a00 a01 a10 a11), (d2 a00 a02 a10 a12), (d2 a00 b0 a10 b1)], [0, 0, (d3 a00 a01 a02 a10 a11 a12 a20 a21 a22), (d3 a00 a01 b0 a10 a11 b1 a20 a21 b2)]], (d2 a00 a01 a10 a11)) := by
    rw [elimTo, t1]
    simp only [List.getD_cons_zero, List.getD_cons_succ]
    rw [elim3_1 h1]
  have t3 : elimTo [[a00, a01, a02, b0], [a10, a11, a12, b1], [a20, a21, a22, b2]] 3 = ([[(d3 a00 a01 a02 a10 a11 a12 a20 a21 a22), 0, 0, (d3 b0 a01 a02 b1 a11 a12 b2 a21 a22)], [0, (d3 a00 a01 a02 a10 a11 a12 a20 a21 a22), 0, (d3 a00 b0 a02 a10 b1 a12 a20 b2 a22)], [0, 0, (d3 a00 a01 a02 a10 a11 a12 a20 a21 a22), (d3 a00 a01 b0 a10 a11 b1 a20 a21 b2)]], (d3 a00 a01 a02 a10 a11 a12 a20 a21 a22)) := by
    rw [elimTo, t2]
    simp only [List.getD_cons_zero, List.getD_cons_succ]
    rw [elim3_2 h2]
  exact t3

set_option maxHeartbeats 4000000 in
theorem elim4_0 {a00 a01 a02 a03 b0 a10 a11 a12 a13 b1 a20 a21 a22 a23 b2 a30 a31 a32 a33 b3 : Int} : elimC 1 [[a00, a01, a02, a03, b0], [a10, a11, a12, a13, b1], [a20, a21, a22, a23, b2], [a30, a31, a32, a33, b3]] 0 = [[a00, a01, a02, a03, b0], [0, (d2 a00 a01 a10 a11), (d2 a00 a02 a10 a12), (d2 a00 a03 a10 a13), (d2 a00 b0 a10 b1)], [0, (d2 a00 a01 a20 a21), (d2 a00 a02 a20 a22), (d2 a00 a03 a20 a23), (d2 a00 b0 a20 b2)], [0, (d2 a00 a01 a30 a31), (d2 a00 a02 a30 a32), (d2 a00 a03 a30 a33), (d2 a00 b0 a30 b3)]] := by
  have e10 : Int.tdiv (a10 * a00 - a10 * a00) 1 = 0 := by rw [Int.tdiv_one]; (try simp only [d2_eq]); grind
  have e11 : Int.tdiv (a11 * a00 - a10 * a01) 1 = (d2 a00 a01 a10 a11) := by rw [Int.tdiv_one]; (try simp only [d2_eq]); grind
  have e12 : Int.tdiv (a12 * a00 - a10 * a02) 1 = (d2 a00 a02 a10 a12) := by rw [Int.tdiv_one]; (try simp only [d2_eq]); grind
  have e13 : Int.tdiv (a13 * a00 - a10 * a03) 1 = (d2 a00 a03 a10 a13) := by rw [Int.tdiv_one]; (try simp only [d2_eq]); grind
  have e14 : Int.tdiv (b1 * a00 - a10 * b0) 1 = (d2 a00 b0 a10 b1) := by rw [Int.tdiv_one]; (try simp only [d2_eq]); grind
  have e20 : Int.tdiv (a20 * a00 - a20 * a00) 1 = 0 := by rw [Int.tdiv_one]; (try simp only [d2_eq]); grind
  have e21 : Int.tdiv (a21 * a00 - a20 * a01) 1 = (d2 a00 a01 a20 a21) := by rw [Int.tdiv_one]; (try simp only [d2_eq]); grind
  have e22 : Int.tdiv (a22 * a00 - a20 * a02) 1 = (d2 a00 a02 a20 a22) := by rw [Int.tdiv_one]; (try simp only [d2_eq]); grind
  have e23 : Int.tdiv (a23 * a00 - a20 * a03) 1 = (d2 a00 a03 a20 a23) := by rw [Int.tdiv_one]; (try simp only [d2_eq]); grind
  have e24 : Int.tdiv (b2 * a00 - a20 * b0) 1 = (d2 a00 b0 a20 b2) := by rw [Int.tdiv_one]; (try simp only [d2_eq]); grind
  have e30 : Int.tdiv (a30 * a00 - a30 * a00) 1 = 0 := by rw [Int.tdiv_one]; (try simp only [d2_eq]); grind
  have e31 : Int.tdiv (a31 * a00 - a30 * a01) 1 = (d2 a00 a01 a30 a31) := by rw [Int.tdiv_one]; (try simp only [d2_eq]); grind
  have e32 : Int.tdiv (a32 * a00 - a30 * a02) 1 = (d2 a00 a02 a30 a32) := by rw [Int.tdiv_one]; (try simp only [d2_eq]); grind
  have e33 : Int.tdiv (a33 * a00 - a30 * a03) 1 = (d2 a00 a03 a30 a33) := by rw [Int.tdiv_one]; (try simp only [d2_eq]); grind
  have e34 : Int.tdiv (b3 * a00 - a30 * b0) 1 = (d2 a00 b0 a30 b3) := by rw [Int.tdiv_one]; (try simp only [d2_eq]); grind
  simp only [elimC, List.mapIdx_cons, List.mapIdx_nil, elimR, List.getD_cons_zero, List.getD_cons_succ, List.zipWith_cons_cons, List.zipWith_nil_left, List.zipWith_nil_right, Nat.reduceAdd, Nat.reduceEqDiff, reduceIte, Nat.zero_add, Nat.add_one_ne_zero, e10, e11, e12, e13, e14, e20, e21, e22, e23, e24, e30, e31, e32, e33, e34]
  try simp

set_option maxHeartbeats 4000000 in
theorem elim4_1 {a00 a01 a02 a03 b0 a10 a11 a12 a13 b1 a20 a21 a22 a23 b2 a30 a31 a32 a33 b3 : Int} (h : 0 < a00) : elimC a00 [[a00, a01, a02, a03, b0], [0, (d2 a00 a01 a10 a11), (d2 a00 a02 a10 a12), (d2 a00 a03 a10 a13), (d2 a00 b0 a10 b1)], [0, (d2 a00 a01 a20 a21), (d2 a00 a02 a20 a22), (d2 a00 a03 a20 a23), (d2 a00 b0 a20 b2)], [0, (d2 a00 a01 a30 a31), (d2 a00 a02 a30 a32), (d2 a00 a03 a30 a33), (d2 a00 b0 a30 b3)]] 1 = [[(d2 a00 a01 a10 a11), 0, (d2 a02 a01 a12 a11), (d2 a03 a01 a13 a11), (d2 b0 a01 b1 a11)], [0, (d2 a00 a01 a10 a11), (d2 a00 a02 a10 a12), (d2 a00 a03 a10 a13), (d2 a00 b0 a10 b1)], [0, 0, (d3 a00 a01 a02 a10 a11 a12 a20 a21 a22), (d3 a00 a01 a03 a10 a11 a13 a20 a21 a23), (d3 a00 a01 b0 a10 a11 b1 a20 a21 b2)], [0, 0, (d3 a00 a01 a02 a10 a11 a12 a30 a31 a32), (d3 a00 a01 a03 a10 a11 a13 a30 a31 a33), (d3 a00 a01 b0 a10 a11 b1 a30 a31 b3)]] := by
  have e00 : Int.tdiv (a00 * (d2 a00 a01 a10 a11) - a01 * 0) a00 = (d2 a00 a01 a10 a11) := tdiv_of h (by (try simp only [d2_eq, d3_eq, d4_eq]); grind)
  have e01 : Int.tdiv (a01 * (d2 a00 a01 a10 a11) - a01 * (d2 a00 a01 a10 a11)) a00 = 0 := tdiv_of h (by (try simp only [d2_eq, d3_eq, d4_eq]); grind)
  have e02 : Int.tdiv (a02 * (d2 a00 a01 a10 a11) - a01 * (d2 a00 a02 a10 a12)) a00 = (d2 a02 a01 a12 a11) := tdiv_of h (by (try simp only [d2_eq, d3_eq, d4_eq]); grind)
  have e03 : Int.tdiv (a03 * (d2 a00 a01 a10 a11) - a01 * (d2 a00 a03 a10 a13)) a00 = (d2 a03 a01 a13 a11) := tdiv_of h (by (try simp only [d2_eq, d3_eq, d4_eq]); grind)
  have e04 : Int.tdiv (b0 * (d2 a00 a01 a10 a11) - a01 * (d2 a00 b0 a10 b1)) a00 = (d2 b0 a01 b1 a11) := tdiv_of h (by (try simp only [d2_eq, d3_eq, d4_eq]); grind)
  have e20 : Int.tdiv (0 * (d2 a00 a01 a10 a11) - (d2 a00 a01 a20 a21) * 0) a00 = 0 := tdiv_of h (by (try simp only [d2_eq, d3_eq, d4_eq]); grind)
  have e21 : Int.tdiv ((d2 a00 a01 a20 a21) * (d2 a00 a01 a10 a11) - (d2 a00 a01 a20 a21) * (d2 a00 a01 a10 a11)) a00 = 0 := tdiv_of h (by (try simp only [d2_eq, d3_eq, d4_eq]); grind)
  have e22 : Int.tdiv ((d2 a00 a02 a20 a22) * (d2 a00 a01 a10 a11) - (d2 a00 a01 a20 a21) * (d2 a00 a02 a10 a12)) a00 = (d3 a00 a01 a02 a10 a11 a12 a20 a21 a22) := tdiv_of h (by (try simp only [d2_eq, d3_eq, d4_eq]); grind)
  have e23 : Int.tdiv ((d2 a00 a03 a20 a23) * (d2 a00 a01 a10 a11) - (d2 a00 a01 a20 a21) * (d2 a00 a03 a10 a13)) a00 = (d3 a00 a01 a03 a10 a11 a13 a20 a21 a23) := tdiv_of h (by (try simp only [d2_eq, d3_eq, d4_eq]); grind)
  have e24 : Int.tdiv ((d2 a00 b0 a20 b2) * (d2 a00 a01 a10 a11) - (d2 a00 a01 a20 a21) * (d2 a00 b0 a10 b1)) a00 = (d3 a00 a01 b0 a10 a11 b1 a20 a21 b2) := tdiv_of h (by (try simp only [d2_eq, d3_eq, d4_eq]); grind)
  have e30 : Int.tdiv (0 * (d2 a00 a01 a10 a11) - (d2 a00 a01 a30 a31) * 0) a00 = 0 := tdiv_of h (by (try simp only [d2_eq, d3_eq, d4_eq]); grind)
  have e31 : Int.tdiv ((d2 a00 a01 a30 a31) * (d2 a00 a01 a10 a11) - (d2 a00 a01 a30 a31) * (d2 a00 a01 a10 a11)) a00 = 0 := tdiv_of h (by (try simp only [d2_eq, d3_eq, d4_eq]); grind)
  have e32 : Int.tdiv ((d2 a00 a02 a30 a32) * (d2 a00 a01 a10 a11) - (d2 a00 a01 a30 a31) * (d2 a00 a02 a10 a12)) a00 = (d3 a00 a01 a02 a10 a11 a12 a30 a31 a32) := tdiv_of h (by (try simp only [d2_eq, d3_eq, d4_eq]); grind)
  have e33 : Int.tdiv ((d2 a00 a03 a30 a33) * (d2 a00 a01 a10 a11) - (d2 a00 a01 a30 a31) * (d2 a00 a03 a10 a13)) a00 = (d3 a00 a01 a03 a10 a11 a13 a30 a31 a33) := tdiv_of h (by (try simp only [d2_eq, d3_eq, d4_eq]); grind)
  have e34 : Int.tdiv ((d2 a00 b0 a30 b3) * (d2 a00 a01 a10 a11) - (d2 a00 a01 a30 a31) * (d2 a00 b0 a10 b1)) a00 = (d3 a00 a01 b0 a10 a11 b1 a30 a31 b3) := tdiv_of h (by (try simp only [d2_eq, d3_eq, d4_eq]); grind)
  simp only [elimC, List.mapIdx_cons, List.mapIdx_nil, elimR, List.getD_cons_zero, List.getD_cons_succ, List.zipWith_cons_cons, List.zipWith_nil_left, List.zipWith_nil_right, Nat.reduceAdd, Nat.reduceEqDiff, reduceIte, Nat.zero_add, Nat.add_one_ne_zero, e00, e01, e02, e03, e04, e20, e21, e22, e23, e24, e30, e31, e32, e33, e34]
  try simp

set_option maxHeartbeats 4000000 in
theorem elim4_2 {a00 a01 a02 a03 b0 a10 a11 a12 a13 b1 a20 a21 a22 a23 b2 a30 a31 a32 a33 b3 : Int} (h : 0 < (d2 a00 a01 a10 a11)) : elimC (d2 a00 a01 a10 a11) [[(d2 a00 a01 a10 a11), 0, (d2 a02 a01 a12 a11), (d2 a03 a01 a13 a11), (d2 b0 a01 b1 a11)], [0, (d2 a00 a01 a10 a11), (d2 a00 a02 a10 a12), (d2 a00 a03 a10 a13), (d2 a00 b0 a10 b1)], [0, 0, (d3 a00 a01 a02 a10 a11 a12 a20 a21 a22), (d3 a00 a01 a03 a10 a11 a13 a20 a21 a23), (d3 a00 a01 b0 a10 a11 b1 a20 a21 b2)], [0, 0, (d3 a00 a01 a02 a10 a11 a12 a30 a31 a32), (d3 a00 a01 a03 a10 a11 a13 a30 a31 a33), (d3 a00 a01 b0 a10 a11 b1 a30 a31 b3)]] 2 = [[(d3 a00 a01 a02 a10 a11 a12 a20 a21 a22), 0, 0, (d3 a03 a01 a02 a13 a11 a12 a23 a21 a22), (d3 b0 a01 a02 b1 a11 a12 b2 a21 a22)], [0, (d3 a00 a01 a02 a10 a11 a12 a20 a21 a22), 0, (d3 a00 a03 a02 a10 a13 a12 a20 a23 a22), (d3 a00 b0 a02 a10 b1 a12 a20 b2 a22)], [0, 0, (d3 a00 a01 a02 a10 a11 a12 a20 a21 a22), (d3 a00 a01 a03 a10 a11 a13 a20 a21 a23), (d3 a00 a01 b0 a10 a11 b1 a20 a21 b2)], [0, 0, 0, (d4 a00 a01 a02 a03 a10 a11 a12 a13 a20 a21 a22 a23 a30 a31 a32 a33), (d4 a00 a01 a02 b0 a10 a11 a12 b1 a20 a21 a22 b2 a30 a31 a32 b3)]] := by
  have e00 : Int.tdiv ((d2 a00 a01 a10 a11) * (d3 a00 a01 a02 a10 a11 a12 a20 a21 a22) - (d2 a02 a01 a12 a11) * 0) (d2 a00 a01 a10 a11) = (d3 a00 a01 a02 a10 a11 a12 a20 a21 a22) := tdiv_of h (by (try simp only [d2_eq, d3_eq, d4_eq]); grind)
  have e01 : Int.tdiv (0 * (d3 a00 a01 a02 a10 a11 a12 a20 a21 a22) - (d2 a02 a01 a12 a11) * 0) (d2 a00 a01 a10 a11) = 0 := tdiv_of h (by (try simp only [d2_eq, d3_eq, d4_eq]); grind)
  have e02 : Int.tdiv ((d2 a02 a01 a12 a11) * (d3 a00 a01 a02 a10 a11 a12 a20 a21 a22) - (d2 a02 a01 a12 a11) * (d3 a00 a01 a02 a10 a11 a12 a20 a21 a22)) (d2 a00 a01 a10 a11) = 0 := tdiv_of h (by (try simp only [d2_eq, d3_eq, d4_eq]); grind)
  have e03 : Int.tdiv ((d2 a03 a01 a13 a11) * (d3 a00 a01 a02 a10 a11 a12 a20 a21 a22) - (d2 a02 a01 a12 a11) * (d3 a00 a01 a03 a10 a11 a13 a20 a21 a23)) (d2 a00 a01 a10 a11) = (d3 a03 a01 a02 a13 a11 a12 a23 a21 a22) := tdiv_of h (by (try simp only [d2_eq, d3_eq, d4_eq]); grind)
  have e04 : Int.tdiv ((d2 b0 a01 b1 a11) * (d3 a00 a01 a02 a10 a11 a12 a20 a21 a22) - (d2 a02 a01 a12 a11) * (d3 a00 a01 b0 a10 a11 b1 a20 a21 b2)) (d2 a00 a01 a10 a11) = (d3 b0 a01 a02 b1 a11 a12 b2 a21 a22) := tdiv_of h (by (try simp only [d2_eq, d3_eq, d4_eq]); grind)
  have e10 : Int.tdiv (0 * (d3 a00 a01 a02 a10 a11 a12 a20 a21 a22) - (d2 a00 a02 a10 a12) * 0) (d2 a00 a01 a10 a11) = 0 := tdiv_of h (by (try simp only [d2_eq, d3_eq, d4_eq]); grind)
  have e11 : Int.tdiv ((d2 a00 a01 a10 a11) * (d3 a00 a01 a02 a10 a11 a12 a20 a21 a22) - (d2 a00 a02 a10 a12) * 0) (d2 a00 a01 a10 a11) = (d3 a00 a01 a02 a10 a11 a12 a20 a21 a22) := tdiv_of h (by (try simp only [d2_eq, d3_eq, d4_eq]); grind)
  have e12 : Int.tdiv ((d2 a00 a02 a10 a12) * (d3 a00 a01 a02 a10 a11 a12 a20 a21 a22) - (d2 a00 a02 a10 a12) * (d3 a00 a01 a02 a10 a11 a12 a20 a21 a22)) (d2 a00 a01 a10 a11) = 0 := tdiv_of h (by (try simp only [d2_eq, d3_eq, d4_eq]); grind)
  have e13 : Int.tdiv ((d2 a00 a03 a10 a13) * (d3 a00 a01 a02 a10 a11 a12 a20 a21 a22) - (d2 a00 a02 a10 a12) * (d3 a00 a01 a03 a10 a11 a13 a20 a21 a23)) (d2 a00 a01 a10 a11) = (d3 a00 a03 a02 a10 a13 a12 a20 a23 a22) := tdiv_of h (by (try simp only [d2_eq, d3_eq, d4_eq]); grind)
  have e14 : Int.tdiv ((d2 a00 b0 a10 b1) * (d3 a00 a01 a02 a10 a11 a12 a20 a21 a22) - (d2 a00 a02 a10 a12) * (d3 a00 a01 b0 a10 a11 b1 a20 a21 b2)) (d2 a00 a01 a10 a11) = (d3 a00 b0 a02 a10 b1 a12 a20 b2 a22) := tdiv_of h (by (try simp only [d2_eq, d3_eq, d4_eq]); grind)
  have e30 : Int.tdiv (0 * (d3 a00 a01 a02 a10 a11 a12 a20 a21 a22) - (d3 a00 a01 a02 a10 a11 a12 a30 a31 a32) * 0) (d2 a00 a01 a10 a11) = 0 := tdiv_of h (by (try simp only [d2_eq, d3_eq, d4_eq]); grind)
  have e31 : Int.tdiv (0 * (d3 a00 a01 a02 a10 a11 a12 a20 a21 a22) - (d3 a00 a01 a02 a10 a11 a12 a30 a31 a32) * 0) (d2 a00 a01 a10 a11) = 0 := tdiv_of h (by (try simp only [d2_eq, d3_eq, d4_eq]); grind)
  have e32 : Int.tdiv ((d3 a00 a01 a02 a10 a11 a12 a30 a31 a32) * (d3 a00 a01 a02 a10 a11 a12 a20 a21 a22) - (d3 a00 a01 a02 a10 a11 a12 a30 a31 a32) * (d3 a00 a01 a02 a10 a11 a12 a20 a21 a22)) (d2 a00 a01 a10 a11) = 0 := tdiv_of h (by (try simp only [d2_eq, d3_eq, d4_eq]); grind)
  have e33 : Int.tdiv ((d3 a00 a01 a03 a10 a11 a13 a30 a31 a33) * (d3 a00 a01 a02 a10 a11 a12 a20 a21 a22) - (d3 a00 a01 a02 a10 a11 a12 a30 a31 a32) * (d3 a00 a01 a03 a10 a11 a13 a20 a21 a23)) (d2 a00 a01 a10 a11) = (d4 a00 a01 a02 a03 a10 a11 a12 a13 a20 a21 a22 a23 a30 a31 a32 a33) := tdiv_of h (by (try simp only [d2_eq, d3_eq, d4_eq]); grind)
  have e34 : Int.tdiv ((d3 a00 a01 b0 a10 a11 b1 a30 a31 b3) * (d3 a00 a01 a02 a10 a11 a12 a20 a21 a22) - (d3 a00 a01 a02 a10 a11 a12 a30 a31 a32) * (d3 a00 a01 b0 a10 a11 b1 a20 a21 b2)) (d2 a00 a01 a10 a11) = (d4 a00 a01 a02 b0 a10 a11 a12 b1 a20 a21 a22 b2 a30 a31 a32 b3) := tdiv_of h (by (try simp only [d2_eq, d3_eq, d4_eq]); grind)
  simp only [elimC, List.mapIdx_cons, List.mapIdx_nil, elimR, List.getD_cons_zero, List.getD_cons_succ, List.zipWith_cons_cons, List.zipWith_nil_left, List.zipWith_nil_right, Nat.reduceAdd, Nat.reduceEqDiff, reduceIte, Nat.zero_add, Nat.add_one_ne_zero, e00, e01, e02, e03, e04, e10, e11, e12, e13, e14, e30, e31, e32, e33, e34]
  try simp

set_option maxHeartbeats 4000000 in
theorem elim4_3 {a00 a01 a02 a03 b0 a10 a11 a12 a13 b1 a20 a21 a22 a23 b2 a30 a31 a32 a33 b3 : Int} (h : 0 < (d3 a00 a01 a02 a10 a11 a12 a20 a21 a22)) : elimC (d3 a00 a01 a02 a10 a11 a12 a20 a21 a22) [[(d3 a00 a01 a02 a10 a11 a12 a20 a21 a22), 0, 0, (d3 a03 a01 a02 a13 a11 a12 a23 a21 a22), (d3 b0 a01 a02 b1 a11 a12 b2 a21 a22)], [0, (d3 a00 a01 a02 a10 a11 a12 a20 a21 a22), 0, (d3 a00 a03 a02 a10 a13 a12 a20 a23 a22), (d3 a00 b0 a02 a10 b1 a12 a20 b2 a22)], [0, 0, (d3 a00 a01 a02 a10 a11 a12 a20 a21 a22), (d3 a00 a01 a03 a10 a11 a13 a20 a21 a23), (d3 a00 a01 b0 a10 a11 b1 a20 a21 b2)], [0, 0, 0, (d4 a00 a01 a02 a03 a10 a11 a12 a13 a20 a21 a22 a23 a30 a31 a32 a33), (d4 a00 a01 a02 b0 a10 a11 a12 b1 a20 a21 a22 b2 a30 a31 a32 b3)]] 3 = [[(d4 a00 a01 a02 a03 a10 a11 a12 a13 a20 a21 a22 a23 a30 a31 a32 a33), 0, 0, 0, (d4 b0 a01 a02 a03 b1 a11 a12 a13 b2 a21 a22 a23 b3 a31 a32 a33)], [0, (d4 a00 a01 a02 a03 a10 a11 a12 a13 a20 a21 a22 a23 a30 a31 a32 a33), 0, 0, (d4 a00 b0 a02 a03 a10 b1 a12 a13 a20 b2 a22 a23 a30 b3 a32 a33)], [0, 0, (d4 a00 a01 a02 a03 a10 a11 a12 a13 a20 a21 a22 a23 a30 a31 a32 a33), 0, (d4 a00 a01 b0 a03 a10 a11 b1 a13 a20 a21 b2 a23 a30 a31 b3 a33)], [0, 0, 0, (d4 a00 a01 a02 a03 a10 a11 a12 a13 a20 a21 a22 a23 a30 a31 a32 a33), (d4 a00 a01 a02 b0 a10 a11 a12 b1 a20 a21 a22 b2 a30 a31 a32 b3)]] := by
  have e00 : Int.tdiv ((d3 a00 a01 a02 a10 a11 a12 a20 a21 a22) * (d4 a00 a01 a02 a03 a10 a11 a12 a13 a20 a21 a22 a23 a30 a31 a32 a33) - (d3 a03 a01 a02 a13 a11 a12 a23 a21 a22) * 0) (d3 a00 a01 a02 a10 a11 a12 a20 a21 a22) = (d4 a00 a01 a02 a03 a10 a11 a12 a13 a20 a21 a22 a23 a30 a31 a32 a33) := tdiv_of h (by (try simp only [d2_eq, d3_eq, d4_eq]); grind)
  have e01 : Int.tdiv (0 * (d4 a00 a01 a02 a03 a10 a11 a12 a13 a20 a21 a22 a23 a30 a31 a32 a33) - (d3 a03 a01 a02 a13 a11 a12 a23 a21 a22) * 0) (d3 a00 a01 a02 a10 a11 a12 a20 a21 a22) = 0 := tdiv_of h (by (try simp only [d2_eq, d3_eq, d4_eq]); grind)
  have e02 : Int.tdiv (0 * (d4 a00 a01 a02 a03 a10 a11 a12 a13 a20 a21 a22 a23 a30 a31 a32 a33) - (d3 a03 a01 a02 a13 a11 a12 a23 a21 a22) * 0) (d3 a00 a01 a02 a10 a11 a12 a20 a21 a22) = 0 := tdiv_of h (by (try simp only [d2_eq, d3_eq, d4_eq]); grind)
  have e03 : Int.tdiv ((d3 a03 a01 a02 a13 a11 a12 a23 a21 a22) * (d4 a00 a01 a02 a03 a10 a11 a12 a13 a20 a21 a22 a23 a30 a31 a32 a33) - (d3 a03 a01 a02 a13 a11 a12 a23 a21 a22) * (d4 a00 a01 a02 a03 a10 a11 a12 a13 a20 a21 a22 a23 a30 a31 a32 a33)) (d3 a00 a01 a02 a10 a11 a12 a20 a21 a22) = 0 := tdiv_of h (by (try simp only [d2_eq, d3_eq, d4_eq]); grind)
  have e04 : Int.tdiv ((d3 b0 a01 a02 b1 a11 a12 b2 a21 a22) * (d4 a00 a01 a02 a03 a10 a11 a12 a13 a20 a21 a22 a23 a30 a31 a32 a33) - (d3 a03 a01 a02 a13 a11 a12 a23 a21 a22) * (d4 a00 a01 a02 b0 a10 a11 a12 b1 a20 a21 a22 b2 a30 a31 a32 b3)) (d3 a00 a01 a02 a10 a11 a12 a20 a21 a22) = (d4 b0 a01 a02 a03 b1 a11 a12 a13 b2 a21 a22 a23 b3 a31 a32 a33) := tdiv_of h (by (try simp only [d2_eq, d3_eq, d4_eq]); grind)
  have e10 : Int.tdiv (0 * (d4 a00 a01 a02 a03 a10 a11 a12 a13 a20 a21 a22 a23 a30 a31 a32 a33) - (d3 a00 a03 a02 a10 a13 a12 a20 a23 a22) * 0) (d3 a00 a01 a02 a10 a11 a12 a20 a21 a22) = 0 := tdiv_of h (by (try simp only [d2_eq, d3_eq, d4_eq]); grind)
  have e11 : Int.tdiv ((d3 a00 a01 a02 a10 a11 a12 a20 a21 a22) * (d4 a00 a01 a02 a03 a10 a11 a12 a13 a20 a21 a22 a23 a30 a31 a32 a33) - (d3 a00 a03 a02 a10 a13 a12 a20 a23 a22) * 0) (d3 a00 a01 a02 a10 a11 a12 a20 a21 a22) = (d4 a00 a01 a02 a03 a10 a11 a12 a13 a20 a21 a22 a23 a30 a31 a32 a33) := tdiv_of h (by (try simp only [d2_eq, d3_eq, d4_eq]); grind)
  have e12 : Int.tdiv (0 * (d4 a00 a01 a02 a03 a10 a11 a12 a13 a20 a21 a22 a23 a30 a31 a32 a33) - (d3 a00 a03 a02 a10 a13 a12 a20 a23 a22) * 0) (d3 a00 a01 a02 a10 a11 a12 a20 a21 a22) = 0 := tdiv_of h (by (try simp only [d2_eq, d3_eq, d4_eq]); grind)
  have e13 : Int.tdiv ((d3 a00 a03 a02 a10 a13 a12 a20 a23 a22) * (d4 a00 a01 a02 a03 a10 a11 a12 a13 a20 a21 a22 a23 a30 a31 a32 a33) - (d3 a00 a03 a02 a10 a13 a12 a20 a23 a22) * (d4 a00 a01 a02 a03 a10 a11 a12 a13 a20 a21 a22 a23 a30 a31 a32 a33)) (d3 a00 a01 a02 a10 a11 a12 a20 a21 a22) = 0 := tdiv_of h (by (try simp only [d2_eq, d3_eq, d4_eq]); grind)
  have e14 : Int.tdiv ((d3 a00 b0 a02 a10 b1 a12 a20 b2 a22) * (d4 a00 a01 a02 a03 a10 a11 a12 a13 a20 a21 a22 a23 a30 a31 a32 a33) - (d3 a00 a03 a02 a10 a13 a12 a20 a23 a22) * (d4 a00 a01 a02 b0 a10 a11 a12 b1 a20 a21 a22 b2 a30 a31 a32 b3)) (d3 a00 a01 a02 a10 a11 a12 a20 a21 a22) = (d4 a00 b0 a02 a03 a10 b1 a12 a13 a20 b2 a22 a23 a30 b3 a32 a33) := tdiv_of h (by (try simp only [d2_eq, d3_eq, d4_eq]); grind)
  have e20 : Int.tdiv (0 * (d4 a00 a01 a02 a03 a10 a11 a12 a13 a20 a21 a22 a23 a30 a31 a32 a33) - (d3 a00 a01 a03 a10 a11 a13 a20 a21 a23) * 0) (d3 a00 a01 a02 a10 a11 a12 a20 a21 a22) = 0 := tdiv_of h (by (try simp only [d2_eq, d3_eq, d4_eq]); grind)
  have e21 : Int.tdiv (0 * (d4 a00 a01 a02 a03 a10 a11 a12 a13 a20 a21 a22 a23 a30 a31 a32 a33) - (d3 a00 a01 a03 a10 a11 a13 a20 a21 a23) * 0) (d3 a00 a01 a02 a10 a11 a12 a20 a21 a22) = 0 := tdiv_of h (by (try simp only [d2_eq, d3_eq, d4_eq]); grind)
  have e22 : Int.tdiv ((d3 a00 a01 a02 a10 a11 a12 a20 a21 a22) * (d4 a00 a01 a02 a03 a10 a11 a12 a13 a20 a21 a22 a23 a30 a31 a32 a33) - (d3 a00 a01 a03 a10 a11 a13 a20 a21 a23) * 0) (d3 a00 a01 a02 a10 a11 a12 a20 a21 a22) = (d4 a00 a01 a02 a03 a10 a11 a12 a13 a20 a21 a22 a23 a30 a31 a32 a33) := tdiv_of h (by (try simp only [d2_eq, d3_eq, d4_eq]); grind)
  have e23 : Int.tdiv ((d3 a00 a01 a03 a10 a11 a13 a20 a21 a23) * (d4 a00 a01 a02 a03 a10 a11 a12 a13 a20 a21 a22 a23 a30 a31 a32 a33) - (d3 a00 a01 a03 a10 a11 a13 a20 a21 a23) * (d4 a00 a01 a02 a03 a10 a11 a12 a13 a20 a21 a22 a23 a30 a31 a32 a33)) (d3 a00 a01 a02 a10 a11 a12 a20 a21 a22) = 0 := tdiv_of h (by (try simp only [d2_eq, d3_eq, d4_eq]); grind)
  have e24 : Int.tdiv ((d3 a00 a01 b0 a10 a11 b1 a20 a21 b2) * (d4 a00 a01 a02 a03 a10 a11 a12 a13 a20 a21 a22 a23 a30 a31 a32 a33) - (d3 a00 a01 a03 a10 a11 a13 a20 a21 a23) * (d4 a00 a01 a02 b0 a10 a11 a12 b1 a20 a21 a22 b2 a30 a31 a32 b3)) (d3 a00 a01 a02 a10 a11 a12 a20 a21 a22) = (d4 a00 a01 b0 a03 a10 a11 b1 a13 a20 a21 b2 a23 a30 a31 b3 a33) := tdiv_of h (by (try simp only [d2_eq, d3_eq, d4_eq]); grind)
  simp only [elimC, List.mapIdx_cons, List.mapIdx_nil, elimR, List.getD_cons_zero, List.getD_cons_succ, List.zipWith_cons_cons, List.zipWith_nil_left, List.zipWith_nil_right, Nat.reduceAdd, Nat.reduceEqDiff, reduceIte, Nat.zero_add, Nat.add_one_ne_zero, e00, e01, e02, e03, e04, e10, e11, e12, e13, e14, e20, e21, e22, e23, e24]
  try simp

theorem elimAll4 {a00 a01 a02 a03 b0 a10 a11 a12 a13 b1 a20 a21 a22 a23 b2 a30 a31 a32 a33 b3 : Int} (h1 : 0 < a00) (h2 : 0 < (d2 a00 a01 a10 a11)) (h3 : 0 < (d3 a00 a01 a02 a10 a11 a12 a20 a21 a22)) : elimTo [[a00, a01, a02, a03, b0], [a10, a11, a12, a13, b1], [a20, a21, a22, a23, b2], [a30, a31, a32, a33, b3]] 4 = ([[(d4 a00 a01 a02 a03 a10 a11 a12 a13 a20 a21 a22 a23 a30 a31 a32 a33), 0, 0, 0, (d4 b0 a01 a02 a03 b1 a11 a12 a13 b2 a21 a22 a23 b3 a31 a32 a33)], [0, (d4 a00 a01 a02 a03 a10 a11 a12 a13 a20 a21 a22 a23 a30 a31 a32 a33), 0, 0, (d4 a00 b0 a02 a03 a10 b1 a12 a13 a20 b2 a22 a23 a30 b3 a32 a33)], [0, 0, (d4 a00 a01 a02 a03 a10 a11 a12 a13 a20 a21 a22 a23 a30 a31 a32 a33), 0, (d4 a00 a01 b0 a03 a10 a11 b1 a13 a20 a21 b2 a23 a30 a31 b3 a33)], [0, 0, 0, (d4 a00 a01 a02 a03 a10 a11 a12 a13 a20 a21 a22 a23 a30 a31 a32 a33), (d4 a00 a01 a02 b0 a10 a11 a12 b1 a20 a21 a22 b2 a30 a31 a32 b3)]], (d4 a00 a01 a02 a03 a10 a11 a12 a13 a20 a21 a22 a23 a30 a31 a32 a33)) := by
  have t0 : elimTo [[a00, a01, a02, a03, b0], [a10, a11, a12, a13, b1], [a20, a21, a22, a23, b2], [a30, a31, a32, a33, b3]] 0 = ([[a00, a01, a02, a03, b0], [a10, a11, a12, a13, b1], [a20, a21, a22, a23, b2], [a30, a31, a32, a33, b3]], 1) := rfl
  have t1 : elimTo [[a00, a01, a02, a03, b0], [a10, a11, a12, a13, b1], [a20, a21, a22, a23, b2], [a30, a31, a32, a33, b3]] 1 = ([[a00, a01, a02, a03, b0], [0, (d2 a00 a01 a10 a11), (d2 a00 a02 a10 a12), (d2 a00 a03 a10 a13), (d2 a00 b0 a10 b1)], [0, (d2 a00 a01 a20 a21), (d2 a00 a02 a20 a22), (d2 a00 a03 a20 a23), (d2 a00 b0 a20 b2)], [0, (d2 a00 a01 a30 a31), (d2 a00 a02 a30 a32), (d2 a00 a03 a30 a33), (d2 a00 b0 a30 b3)]], a00) := by
    rw [elimTo, t0]
    simp only [List.getD_cons_zero, List.getD_cons_succ]
    rw [elim4_0]
  have t2 : elimTo [[a00, a01, a02, a03, b0], [a10, a11, a12, a13, b1], [a20, a21, a22, a23, b2], [a30, a31, a32, a33, b3]] 2 = ([[(d2 a00 a01 a10 a11), 0, (d2 a02 a01 a12 a11), (d2 a03 a01 a13 a11), (d2 b0 a01 b1 a11)], [0, (d2 a00 a01 a10 a11), (d2 a00 a02 a10 a12), (d2 a00 a03 a10 a13), (d2 a00 b0 a10 b1)], [0, 0, (d3 a00 a01 a02 a10 a11 a12 a20 a21 a22), (d3 a00 a01 a03 a10 a11 a13 a20 a21 a23), (d3 a00 a01 b0 a10 a11 b1 a20 a21 b2)], [0, 0, (d3 a00 a01 a02 a10 a11 a12 a30 a31 a32), (d3 a00 a01 a03 a10 a11 a13 a30 a31 a33), (d3 a00 a01 b0 a10 a11 b1 a30 a31 b3)]], (d2 a00 a01 a10 a11)) := by
    rw [elimTo, t1]
    simp only [List.getD_cons_zero, List.getD_cons_succ]
    rw [elim4_1 h1]
  have t3 : elimTo [[a00, a01, a02, a03, b0], [a10, a11, a12, a13, b1], [a20, a21, a22, a23, b2], [a30, a31, a32, a33, b3]] 3 = ([[(d3 a00 a01 a02 a10 a11 a12 a20 a21 a22), 0, 0, (d3 a03 a01 a02 a13 a11 a12 a23 a21 a22), (d3 b0 a01 a02 b1 a11 a12 b2 a21 a22)], [0, (d3 a00 a01 a02 a10 a11 a12 a20 a21 a22), 0, (d3 a00 a03 a02 a10 a13 a12 a20 a23 a22), (d3 a00 b0 a02 a10 b1 a12 a20 b2 a22)], [0, 0, (d3 a00 a01 a02 a10 a11 a12 a20 a21 a22), (d3 a00 a01 a03 a10 a11 a13 a20 a21 a23), (d3 a00 a01 b0 a10 a11 b1 a20 a21 b2)], [0, 0, 0, (d4 a00 a01 a02 a03 a10 a11 a12 a13 a20 a21 a22 a23 a30 a31 a32 a33), (d4 a00 a01 a02 b0 a10 a11 a12 b1 a20 a21 a22 b2 a30 a31 a32 b3)]], (d3 a00 a01 a02 a10 a11 a12 a20 a21 a22)) := by
    rw [elimTo, t2]
    simp only [List.getD_cons_zero, List.getD_cons_succ]
    rw [elim4_2 h2]
  have t4 : elimTo [[a00, a01, a02, a03, b0], [a10, a11, a12, a13, b1], [a20, a21, a22, a23, b2], [a30, a31, a32, a33, b3]] 4 = ([[(d4 a00 a01 a02 a03 a10 a11 a12 a13 a20 a21 a22 a23 a30 a31 a32 a33), 0, 0, 0, (d4 b0 a01 a02 a03 b1 a11 a12 a13 b2 a21 a22 a23 b3 a31 a32 a33)], [0, (d4 a00 a01 a02 a03 a10 a11 a12 a13 a20 a21 a22 a23 a30 a31 a32 a33), 0, 0, (d4 a00 b0 a02 a03 a10 b1 a12 a13 a20 b2 a22 a23 a30 b3 a32 a33)], [0, 0, (d4 a00 a01 a02 a03 a10 a11 a12 a13 a20 a21 a22 a23 a30 a31 a32 a33), 0, (d4 a00 a01 b0 a03 a10 a11 b1 a13 a20 a21 b2 a23 a30 a31 b3 a33)], [0, 0, 0, (d4 a00 a01 a02 a03 a10 a11 a12 a13 a20 a21 a22 a23 a30 a31 a32 a33), (d4 a00 a01 a02 b0 a10 a11 a12 b1 a20 a21 a22 b2 a30 a31 a32 b3)]], (d4 a00 a01 a02 a03 a10 a11 a12 a13 a20 a21 a22 a23 a30 a31 a32 a33)) := by
    rw [elimTo, t3]
    simp only [List.getD_cons_zero, List.getD_cons_succ]
    rw [elim4_3 h3]
  exact t4


/-- What a sight adds to the normal matrix. -/
def lapC (x : St) (i j : Int) : Int := (if x.f = i ∧ x.f = j then x.v else 0) + (if x.t = i ∧ x.t = j then x.v else 0) - (if x.f = i ∧ x.t = j then x.v else 0) - (if x.t = i ∧ x.f = j then x.v else 0)
def lapE : List St → Int → Int → Int
  | [], _, _ => 0
  | x :: xs, i, j => lapC x i j + lapE xs i j
def quad (y : Int → Int) : List St → Int
  | [] => 0
  | x :: xs => x.v * ((y x.t - y x.f) * (y x.t - y x.f)) + quad y xs

theorem lapC_symm (x : St) (i j : Int) : lapC x i j = lapC x j i := by unfold lapC; grind
theorem lapE_symm (xs : List St) (i j : Int) : lapE xs i j = lapE xs j i := by
  induction xs with
  | nil => rfl
  | cons x xs ih => simp only [lapE, ih, lapC_symm x i j]

def qf (e : Int → Int → Int) (y : Int → Int) : Int := e 1 1 * y 1 * y 1 + e 1 2 * y 1 * y 2 + e 1 3 * y 1 * y 3 + e 1 4 * y 1 * y 4 + e 2 1 * y 2 * y 1 + e 2 2 * y 2 * y 2 + e 2 3 * y 2 * y 3 + e 2 4 * y 2 * y 4 + e 3 1 * y 3 * y 1 + e 3 2 * y 3 * y 2 + e 3 3 * y 3 * y 3 + e 3 4 * y 3 * y 4 + e 4 1 * y 4 * y 1 + e 4 2 * y 4 * y 2 + e 4 3 * y 4 * y 3 + e 4 4 * y 4 * y 4

theorem qf_add (e e' : Int → Int → Int) (y : Int → Int) : qf (fun i j => e i j + e' i j) y = qf e y + qf e' y := by unfold qf; grind
set_option maxHeartbeats 4000000 in
theorem qf_one (x : St) (hf : 0 ≤ x.f ∧ x.f ≤ 4) (ht : 0 ≤ x.t ∧ x.t ≤ 4) (hne : x.f ≠ x.t) (y : Int → Int) (h0 : y 0 = 0) : qf (lapC x) y = x.v * ((y x.t - y x.f) * (y x.t - y x.f)) := by
  obtain ⟨f, t, r, v⟩ := x
  simp only at *
  have hf' : f = 0 ∨ f = 1 ∨ f = 2 ∨ f = 3 ∨ f = 4 := by omega
  have ht' : t = 0 ∨ t = 1 ∨ t = 2 ∨ t = 3 ∨ t = 4 := by omega
  unfold qf lapC
  rcases hf' with rfl | rfl | rfl | rfl | rfl <;> rcases ht' with rfl | rfl | rfl | rfl | rfl <;> first | exact absurd rfl hne | (simp [h0]; try grind)
theorem quad_qf (xs : List St) (h : ∀ x ∈ xs, 0 ≤ x.f ∧ x.f ≤ 4 ∧ 0 ≤ x.t ∧ x.t ≤ 4 ∧ x.f ≠ x.t) (y : Int → Int) (h0 : y 0 = 0) : quad y xs = qf (lapE xs) y := by
  induction xs with
  | nil => simp [quad, qf, lapE]
  | cons x xs ih =>
    obtain ⟨h1, h2, h3, h4, h5⟩ := h x (List.mem_cons_self ..)
    have e : qf (lapE (x :: xs)) y = qf (fun i j => lapC x i j + lapE xs i j) y := rfl
    rw [quad, ih (fun z hz => h z (List.mem_cons_of_mem _ hz)), e, qf_add, qf_one x ⟨h1, h2⟩ ⟨h3, h4⟩ h5 y h0]

theorem quad_nonneg (xs : List St) (h : ∀ x ∈ xs, 1 ≤ x.v) (y : Int → Int) : 0 ≤ quad y xs := by
  induction xs with
  | nil => simp [quad]
  | cons x xs ih =>
    have := ih (fun z hz => h z (List.mem_cons_of_mem _ hz))
    have h1 := h x (List.mem_cons_self ..)
    have h2 : 0 ≤ (y x.t - y x.f) * (y x.t - y x.f) := by
      rcases Int.le_total 0 (y x.t - y x.f) with h | h
      · exact Int.mul_nonneg h h
      · exact Int.mul_nonneg_of_nonpos_of_nonpos h h
    have := Int.mul_nonneg (show 0 ≤ x.v by omega) h2
    rw [quad]; omega

theorem quad_zero (xs : List St) (h : ∀ x ∈ xs, 1 ≤ x.v) (y : Int → Int) (hq : quad y xs = 0) : ∀ x ∈ xs, y x.t = y x.f := by
  induction xs with
  | nil => simp
  | cons x xs ih =>
    have hn := quad_nonneg xs (fun z hz => h z (List.mem_cons_of_mem _ hz)) y
    have h1 := h x (List.mem_cons_self ..)
    have h2 : 0 ≤ (y x.t - y x.f) * (y x.t - y x.f) := by
      rcases Int.le_total 0 (y x.t - y x.f) with h | h
      · exact Int.mul_nonneg h h
      · exact Int.mul_nonneg_of_nonpos_of_nonpos h h
    have h3 := Int.mul_nonneg (show 0 ≤ x.v by omega) h2
    rw [quad] at hq
    have z1 : x.v * ((y x.t - y x.f) * (y x.t - y x.f)) = 0 := by omega
    have z2 : quad y xs = 0 := by omega
    intro z hz
    rcases List.mem_cons.1 hz with rfl | hz
    · rcases Int.mul_eq_zero.1 z1 with e | e
      · omega
      · rcases Int.mul_eq_zero.1 e with e | e <;> omega
    · exact ih (fun z hz => h z (List.mem_cons_of_mem _ hz)) z2 z hz

/-- Numbers that are equal along all sights are equal within each part. -/
theorem trTo_const {n : Nat} {xs : List St} (hx : ∀ x ∈ xs, OkSt n x) (y : Int → Int) (hy : ∀ x ∈ xs, y x.t = y x.f) (i : Nat) :
    ∀ p q : Nat, p < n → q < n → (trTo n xs i).p.getD p 0 = (trTo n xs i).p.getD q 0 → y p = y q := by
  induction i with
  | zero =>
    intro p q hp hq e
    simp [trTo, trInit, hp, hq] at e
    rw [e]
  | succ i ih =>
    simp only [trTo]
    split
    · rename_i x hi
      have ok := trTo_ok hx i
      have hm := List.mem_of_getElem? hi
      have hxy := hy x hm
      obtain ⟨f0, f1, t0, t1, ne, -, -, -, -⟩ := hx x hm
      unfold trStep
      split
      · exact ih
      · rename_i hne
        obtain ⟨f, hf⟩ : ∃ f : Nat, x.f = f := ⟨x.f.toNat, by omega⟩
        obtain ⟨t, ht⟩ : ∃ t : Nat, x.t = t := ⟨x.t.toNat, by omega⟩
        intro p q hp hq
        simp only
        rw [pUp_get _ _ _ _ (by rw [ok.lp]; exact hp), pUp_get _ _ _ _ (by rw [ok.lp]; exact hq)]
        have dA : trA (trTo n xs i) x = (trTo n xs i).p.getD f 0 := by unfold trA; rw [hf]; rfl
        have dB : trB (trTo n xs i) x = (trTo n xs i).p.getD t 0 := by unfold trB; rw [ht]; rfl
        rw [dA, dB] at hne ⊢
        rw [hf, ht] at hxy
        have e1 := ih p q hp hq
        have e2 := ih p t hp (by omega)
        have e3 := ih q t hq (by omega)
        have e4 := ih p f hp (by omega)
        have e5 := ih q f hq (by omega)
        have hx : (max ((trTo n xs i).p.getD f 0) ((trTo n xs i).p.getD t 0) = (trTo n xs i).p.getD f 0 ∧ min ((trTo n xs i).p.getD f 0) ((trTo n xs i).p.getD t 0) = (trTo n xs i).p.getD t 0) ∨ (max ((trTo n xs i).p.getD f 0) ((trTo n xs i).p.getD t 0) = (trTo n xs i).p.getD t 0 ∧ min ((trTo n xs i).p.getD f 0) ((trTo n xs i).p.getD t 0) = (trTo n xs i).p.getD f 0) := by omega
        rcases hx with ⟨hx, hx'⟩ | ⟨hx, hx'⟩ <;> rw [hx, hx'] <;> grind
    · exact ih

theorem quad_pos {n : Nat} {xs : List St} (hx : ∀ x ∈ xs, OkSt n x) (hc : trAll (trTo n xs xs.length) = true) (y : Int → Int) (h0 : y 0 = 0) (p : Nat) (hp : p < n) (hy : y p ≠ 0) : 0 < quad y xs := by
  have hn := quad_nonneg xs (fun x h => (hx x h).v0) y
  by_cases e : quad y xs = 0
  · exfalso
    have hz := quad_zero xs (fun x h => (hx x h).v0) y e
    unfold trAll at hc
    rw [getD_all, (trTo_ok hx _).lp] at hc
    have := trTo_const hx y hz xs.length p 0 hp (by omega) (by rw [hc p hp, hc 0 (by omega)])
    rw [this] at hy
    exact hy (by simpa using h0)
  · omega

theorem pos_of_mul {a b : Int} (hb : 0 < b) (h : 0 < a * b) : 0 < a := by
  rcases Int.lt_or_le 0 a with h' | h'
  · exact h'
  · have := Int.mul_nonneg (show 0 ≤ -a by omega) (show 0 ≤ b by omega)
    rw [Int.neg_mul] at this; omega

set_option maxHeartbeats 4000000 in
theorem lead1 {n : Nat} {xs : List St} (hn : n ≤ 4) (hx : ∀ x ∈ xs, OkSt (n + 1) x) (hc : trAll (trTo (n + 1) xs xs.length) = true) (h : 1 ≤ n) : 0 < (lapE xs 1 1) := by
  have hq : ∀ x ∈ xs, 0 ≤ x.f ∧ x.f ≤ 4 ∧ 0 ≤ x.t ∧ x.t ≤ 4 ∧ x.f ≠ x.t := fun x h => by obtain ⟨a, b, c, d, e, -, -, -, -⟩ := hx x h; exact ⟨a, by omega, c, by omega, e⟩
  obtain ⟨y, hy⟩ : ∃ y : Int → Int, y = fun i => if i = 1 then 1 else 0 := ⟨_, rfl⟩
  have y0 : y 0 = 0 := by rw [hy]; simp
  have y1 : y 1 = 1 := by rw [hy]; simp
  have y2 : y 2 = 0 := by rw [hy]; simp
  have y3 : y 3 = 0 := by rw [hy]; simp
  have y4 : y 4 = 0 := by rw [hy]; simp
  have hpos := quad_pos hx hc y y0 1 (by omega) (by show y 1 ≠ 0; rw [y1]; decide)
  rw [quad_qf xs hq y y0] at hpos
  clear hy
  have : qf (lapE xs) y = (lapE xs 1 1) := by unfold qf; rw [y1, y2, y3, y4]; grind
  omega

set_option maxHeartbeats 4000000 in
theorem lead2 {n : Nat} {xs : List St} (hn : n ≤ 4) (hx : ∀ x ∈ xs, OkSt (n + 1) x) (hc : trAll (trTo (n + 1) xs xs.length) = true) (h : 2 ≤ n) : 0 < (d2 (lapE xs 1 1) (lapE xs 1 2) (lapE xs 2 1) (lapE xs 2 2)) := by
  have hp := lead1 hn hx hc (by omega)
  have hq : ∀ x ∈ xs, 0 ≤ x.f ∧ x.f ≤ 4 ∧ 0 ≤ x.t ∧ x.t ≤ 4 ∧ x.f ≠ x.t := fun x h => by obtain ⟨a, b, c, d, e, -, -, -, -⟩ := hx x h; exact ⟨a, by omega, c, by omega, e⟩
  obtain ⟨y, hy⟩ : ∃ y : Int → Int, y = fun i => if i = 1 then -(lapE xs 1 2) else if i = 2 then (lapE xs 1 1) else 0 := ⟨_, rfl⟩
  have y0 : y 0 = 0 := by rw [hy]; simp
  have y1 : y 1 = -(lapE xs 1 2) := by rw [hy]; simp
  have y2 : y 2 = (lapE xs 1 1) := by rw [hy]; simp
  have y3 : y 3 = 0 := by rw [hy]; simp
  have y4 : y 4 = 0 := by rw [hy]; simp
  have hpos := quad_pos hx hc y y0 2 (by omega) (by show y 2 ≠ 0; rw [y2]; omega)
  rw [quad_qf xs hq y y0] at hpos
  clear hy
  have s10 := lapE_symm xs 2 1
  have : qf (lapE xs) y = (d2 (lapE xs 1 1) (lapE xs 1 2) (lapE xs 2 1) (lapE xs 2 2)) * (lapE xs 1 1) := by
    unfold qf; rw [y1, y2, y3, y4]
    rw [s10]
    generalize lapE xs 1 1 = z00
    generalize lapE xs 1 2 = z01
    generalize lapE xs 2 2 = z11
    simp only [d2_eq, d3_eq, d4_eq]; grind
  rw [this] at hpos
  exact pos_of_mul hp hpos

set_option maxHeartbeats 4000000 in
theorem lead3 {n : Nat} {xs : List St} (hn : n ≤ 4) (hx : ∀ x ∈ xs, OkSt (n + 1) x) (hc : trAll (trTo (n + 1) xs xs.length) = true) (h : 3 ≤ n) : 0 < (d3 (lapE xs 1 1) (lapE xs 1 2) (lapE xs 1 3) (lapE xs 2 1) (lapE xs 2 2) (lapE xs 2 3) (lapE xs 3 1) (lapE xs 3 2) (lapE xs 3 3)) := by
  have hp := lead2 hn hx hc (by omega)
  have hq : ∀ x ∈ xs, 0 ≤ x.f ∧ x.f ≤ 4 ∧ 0 ≤ x.t ∧ x.t ≤ 4 ∧ x.f ≠ x.t := fun x h => by obtain ⟨a, b, c, d, e, -, -, -, -⟩ := hx x h; exact ⟨a, by omega, c, by omega, e⟩
  obtain ⟨y, hy⟩ : ∃ y : Int → Int, y = fun i => if i = 1 then (d2 (lapE xs 1 2) (lapE xs 1 3) (lapE xs 2 2) (lapE xs 2 3)) else if i = 2 then -(d2 (lapE xs 1 1) (lapE xs 1 3) (lapE xs 2 1) (lapE xs 2 3)) else if i = 3 then (d2 (lapE xs 1 1) (lapE xs 1 2) (lapE xs 2 1) (lapE xs 2 2)) else 0 := ⟨_, rfl⟩
  have y0 : y 0 = 0 := by rw [hy]; simp
  have y1 : y 1 = (d2 (lapE xs 1 2) (lapE xs 1 3) (lapE xs 2 2) (lapE xs 2 3)) := by rw [hy]; simp
  have y2 : y 2 = -(d2 (lapE xs 1 1) (lapE xs 1 3) (lapE xs 2 1) (lapE xs 2 3)) := by rw [hy]; simp
  have y3 : y 3 = (d2 (lapE xs 1 1) (lapE xs 1 2) (lapE xs 2 1) (lapE xs 2 2)) := by rw [hy]; simp
  have y4 : y 4 = 0 := by rw [hy]; simp
  have hpos := quad_pos hx hc y y0 3 (by omega) (by show y 3 ≠ 0; rw [y3]; omega)
  rw [quad_qf xs hq y y0] at hpos
  clear hy
  have s10 := lapE_symm xs 2 1
  have s20 := lapE_symm xs 3 1
  have s21 := lapE_symm xs 3 2
  have : qf (lapE xs) y = (d3 (lapE xs 1 1) (lapE xs 1 2) (lapE xs 1 3) (lapE xs 2 1) (lapE xs 2 2) (lapE xs 2 3) (lapE xs 3 1) (lapE xs 3 2) (lapE xs 3 3)) * (d2 (lapE xs 1 1) (lapE xs 1 2) (lapE xs 2 1) (lapE xs 2 2)) := by
    unfold qf; rw [y1, y2, y3, y4]
    rw [s10, s20, s21]
    generalize lapE xs 1 1 = z00
    generalize lapE xs 1 2 = z01
    generalize lapE xs 1 3 = z02
    generalize lapE xs 2 2 = z11
    generalize lapE xs 2 3 = z12
    generalize lapE xs 3 3 = z22
    simp only [d2_eq, d3_eq, d4_eq]; grind
  rw [this] at hpos
  exact pos_of_mul hp hpos

set_option maxHeartbeats 4000000 in
theorem lead4 {n : Nat} {xs : List St} (hn : n ≤ 4) (hx : ∀ x ∈ xs, OkSt (n + 1) x) (hc : trAll (trTo (n + 1) xs xs.length) = true) (h : 4 ≤ n) : 0 < (d4 (lapE xs 1 1) (lapE xs 1 2) (lapE xs 1 3) (lapE xs 1 4) (lapE xs 2 1) (lapE xs 2 2) (lapE xs 2 3) (lapE xs 2 4) (lapE xs 3 1) (lapE xs 3 2) (lapE xs 3 3) (lapE xs 3 4) (lapE xs 4 1) (lapE xs 4 2) (lapE xs 4 3) (lapE xs 4 4)) := by
  have hp := lead3 hn hx hc (by omega)
  have hq : ∀ x ∈ xs, 0 ≤ x.f ∧ x.f ≤ 4 ∧ 0 ≤ x.t ∧ x.t ≤ 4 ∧ x.f ≠ x.t := fun x h => by obtain ⟨a, b, c, d, e, -, -, -, -⟩ := hx x h; exact ⟨a, by omega, c, by omega, e⟩
  obtain ⟨y, hy⟩ : ∃ y : Int → Int, y = fun i => if i = 1 then -(d3 (lapE xs 1 2) (lapE xs 1 3) (lapE xs 1 4) (lapE xs 2 2) (lapE xs 2 3) (lapE xs 2 4) (lapE xs 3 2) (lapE xs 3 3) (lapE xs 3 4)) else if i = 2 then (d3 (lapE xs 1 1) (lapE xs 1 3) (lapE xs 1 4) (lapE xs 2 1) (lapE xs 2 3) (lapE xs 2 4) (lapE xs 3 1) (lapE xs 3 3) (lapE xs 3 4)) else if i = 3 then -(d3 (lapE xs 1 1) (lapE xs 1 2) (lapE xs 1 4) (lapE xs 2 1) (lapE xs 2 2) (lapE xs 2 4) (lapE xs 3 1) (lapE xs 3 2) (lapE xs 3 4)) else if i = 4 then (d3 (lapE xs 1 1) (lapE xs 1 2) (lapE xs 1 3) (lapE xs 2 1) (lapE xs 2 2) (lapE xs 2 3) (lapE xs 3 1) (lapE xs 3 2) (lapE xs 3 3)) else 0 := ⟨_, rfl⟩
  have y0 : y 0 = 0 := by rw [hy]; simp
  have y1 : y 1 = -(d3 (lapE xs 1 2) (lapE xs 1 3) (lapE xs 1 4) (lapE xs 2 2) (lapE xs 2 3) (lapE xs 2 4) (lapE xs 3 2) (lapE xs 3 3) (lapE xs 3 4)) := by rw [hy]; simp
  have y2 : y 2 = (d3 (lapE xs 1 1) (lapE xs 1 3) (lapE xs 1 4) (lapE xs 2 1) (lapE xs 2 3) (lapE xs 2 4) (lapE xs 3 1) (lapE xs 3 3) (lapE xs 3 4)) := by rw [hy]; simp
  have y3 : y 3 = -(d3 (lapE xs 1 1) (lapE xs 1 2) (lapE xs 1 4) (lapE xs 2 1) (lapE xs 2 2) (lapE xs 2 4) (lapE xs 3 1) (lapE xs 3 2) (lapE xs 3 4)) := by rw [hy]; simp
  have y4 : y 4 = (d3 (lapE xs 1 1) (lapE xs 1 2) (lapE xs 1 3) (lapE xs 2 1) (lapE xs 2 2) (lapE xs 2 3) (lapE xs 3 1) (lapE xs 3 2) (lapE xs 3 3)) := by rw [hy]; simp
  have hpos := quad_pos hx hc y y0 4 (by omega) (by show y 4 ≠ 0; rw [y4]; omega)
  rw [quad_qf xs hq y y0] at hpos
  clear hy
  have s10 := lapE_symm xs 2 1
  have s20 := lapE_symm xs 3 1
  have s21 := lapE_symm xs 3 2
  have s30 := lapE_symm xs 4 1
  have s31 := lapE_symm xs 4 2
  have s32 := lapE_symm xs 4 3
  have : qf (lapE xs) y = (d4 (lapE xs 1 1) (lapE xs 1 2) (lapE xs 1 3) (lapE xs 1 4) (lapE xs 2 1) (lapE xs 2 2) (lapE xs 2 3) (lapE xs 2 4) (lapE xs 3 1) (lapE xs 3 2) (lapE xs 3 3) (lapE xs 3 4) (lapE xs 4 1) (lapE xs 4 2) (lapE xs 4 3) (lapE xs 4 4)) * (d3 (lapE xs 1 1) (lapE xs 1 2) (lapE xs 1 3) (lapE xs 2 1) (lapE xs 2 2) (lapE xs 2 3) (lapE xs 3 1) (lapE xs 3 2) (lapE xs 3 3)) := by
    unfold qf; rw [y1, y2, y3, y4]
    rw [s10, s20, s21, s30, s31, s32]
    generalize lapE xs 1 1 = z00
    generalize lapE xs 1 2 = z01
    generalize lapE xs 1 3 = z02
    generalize lapE xs 1 4 = z03
    generalize lapE xs 2 2 = z11
    generalize lapE xs 2 3 = z12
    generalize lapE xs 2 4 = z13
    generalize lapE xs 3 3 = z22
    generalize lapE xs 3 4 = z23
    generalize lapE xs 4 4 = z33
    simp only [d2_eq, d3_eq, d4_eq]; grind
  rw [this] at hpos
  exact pos_of_mul hp hpos


def rowsP (n : Nat) (xs : List St) : List (List Int) := (List.range (n + 1)).map fun (i : Nat) => if i = 0 then 1 :: List.replicate n 0 else (List.range (n + 1)).map fun (j : Nat) => lapE xs i j
def rowsS (n : Nat) (xs : List St) (right : List Int) : List (List Int) := (List.range n).map fun (i : Nat) => ((List.range n).map fun (j : Nat) => lapE xs ((i : Int) + 1) ((j : Int) + 1)) ++ [right.getD (i + 1) 0]
def colSet (r : List (List Int)) (c : Nat) (xs : List Int) : List (List Int) := List.zipWith (fun row x => row.set c x) r xs

set_option maxHeartbeats 4000000 in
theorem det_one1 (c0 a00 : Int) : det 2 [[1, 0], [c0, a00]] = a00 := by
  simp [det, rsum, minorL, sgn]
  try (simp only [d2_eq, d3_eq, d4_eq]; grind)
theorem det_nil1 (r : List (List Int)) : det 2 ([0, 0] :: r) = 0 := by
  simp [det, rsum, sgn]
set_option maxHeartbeats 4000000 in
theorem det_one2 (c0 c1 a00 a01 a10 a11 : Int) : det 3 [[1, 0, 0], [c0, a00, a01], [c1, a10, a11]] = (d2 a00 a01 a10 a11) := by
  simp [det, rsum, minorL, sgn]
  try (simp only [d2_eq, d3_eq, d4_eq]; grind)
theorem det_nil2 (r : List (List Int)) : det 3 ([0, 0, 0] :: r) = 0 := by
  simp [det, rsum, sgn]
set_option maxHeartbeats 4000000 in
theorem det_one3 (c0 c1 c2 a00 a01 a02 a10 a11 a12 a20 a21 a22 : Int) : det 4 [[1, 0, 0, 0], [c0, a00, a01, a02], [c1, a10, a11, a12], [c2, a20, a21, a22]] = (d3 a00 a01 a02 a10 a11 a12 a20 a21 a22) := by
  simp [det, rsum, minorL, sgn]
  try (simp only [d2_eq, d3_eq, d4_eq]; grind)
theorem det_nil3 (r : List (List Int)) : det 4 ([0, 0, 0, 0] :: r) = 0 := by
  simp [det, rsum, sgn]
set_option maxHeartbeats 4000000 in
theorem det_one4 (c0 c1 c2 c3 a00 a01 a02 a03 a10 a11 a12 a13 a20 a21 a22 a23 a30 a31 a32 a33 : Int) : det 5 [[1, 0, 0, 0, 0], [c0, a00, a01, a02, a03], [c1, a10, a11, a12, a13], [c2, a20, a21, a22, a23], [c3, a30, a31, a32, a33]] = (d4 a00 a01 a02 a03 a10 a11 a12 a13 a20 a21 a22 a23 a30 a31 a32 a33) := by
  simp [det, rsum, minorL, sgn]
  try (simp only [d2_eq, d3_eq, d4_eq]; grind)
theorem det_nil4 (r : List (List Int)) : det 5 ([0, 0, 0, 0, 0] :: r) = 0 := by
  simp [det, rsum, sgn]
theorem len_1 {b : List Int} (h : b.length = 1 + 1) : ∃ x0 x1, b = [x0, x1] := by match b, h with | [a, b], _ => exact ⟨_, _, rfl⟩
theorem len_2 {b : List Int} (h : b.length = 2 + 1) : ∃ x0 x1 x2, b = [x0, x1, x2] := by match b, h with | [a, b, c], _ => exact ⟨_, _, _, rfl⟩
theorem len_3 {b : List Int} (h : b.length = 3 + 1) : ∃ x0 x1 x2 x3, b = [x0, x1, x2, x3] := by match b, h with | [a, b, c, d], _ => exact ⟨_, _, _, _, rfl⟩
theorem len_4 {b : List Int} (h : b.length = 4 + 1) : ∃ x0 x1 x2 x3 x4, b = [x0, x1, x2, x3, x4] := by match b, h with | [a, b, c, d, e], _ => exact ⟨_, _, _, _, _, rfl⟩

theorem rowsS_1 (xs : List St) (b0 b1 : Int) : rowsS 1 xs [b0, b1] = [[(lapE xs 1 1), b1]] := by
  simp [rowsS, List.range_succ]
theorem rowsP_1 (xs : List St) : rowsP 1 xs = [[1, 0], [(lapE xs 1 0), (lapE xs 1 1)]] := by
  simp [rowsP, List.range_succ, List.replicate]

theorem solve_1 {xs : List St} (hx : ∀ x ∈ xs, OkSt (1 + 1) x) (hc : trAll (trTo (1 + 1) xs xs.length) = true) (b : List Int) (hb : b.length = 1 + 1) :
    det (1 + 1) (rowsP 1 xs) = (elimTo (rowsS 1 xs b) 1).2 ∧ det (1 + 1) (colSet (rowsP 1 xs) 0 (b.set 0 0)) = 0 ∧
    ∀ j, j < 1 → det (1 + 1) (colSet (rowsP 1 xs) (j + 1) (b.set 0 0)) = ((elimTo (rowsS 1 xs b) 1).1.getD j []).getD 1 0 := by
  obtain ⟨b0, b1, rfl⟩ := len_1 hb
  rw [rowsS_1, rowsP_1, elimAll1]
  refine ⟨det_one1 _ _, ?_, ?_⟩
  · simp only [colSet, List.set_cons_zero, List.zipWith_cons_cons]; exact det_nil1 _
  · intro j hj
    have : j = 0 := by omega
    obtain rfl := this
    all_goals
      simp only [colSet, List.set_cons_zero, List.set_cons_succ, List.zipWith_cons_cons, List.zipWith_nil_left, List.getD_cons_zero, List.getD_cons_succ, Nat.zero_add]
      exact det_one1 _ _

theorem rowsS_2 (xs : List St) (b0 b1 b2 : Int) : rowsS 2 xs [b0, b1, b2] = [[(lapE xs 1 1), (lapE xs 1 2), b1], [(lapE xs 2 1), (lapE xs 2 2), b2]] := by
  simp [rowsS, List.range_succ]
theorem rowsP_2 (xs : List St) : rowsP 2 xs = [[1, 0, 0], [(lapE xs 1 0), (lapE xs 1 1), (lapE xs 1 2)], [(lapE xs 2 0), (lapE xs 2 1), (lapE xs 2 2)]] := by
  simp [rowsP, List.range_succ, List.replicate]

theorem solve_2 {xs : List St} (hx : ∀ x ∈ xs, OkSt (2 + 1) x) (hc : trAll (trTo (2 + 1) xs xs.length) = true) (b : List Int) (hb : b.length = 2 + 1) :
    det (2 + 1) (rowsP 2 xs) = (elimTo (rowsS 2 xs b) 2).2 ∧ det (2 + 1) (colSet (rowsP 2 xs) 0 (b.set 0 0)) = 0 ∧
    ∀ j, j < 2 → det (2 + 1) (colSet (rowsP 2 xs) (j + 1) (b.set 0 0)) = ((elimTo (rowsS 2 xs b) 2).1.getD j []).getD 2 0 := by
  obtain ⟨b0, b1, b2, rfl⟩ := len_2 hb
  rw [rowsS_2, rowsP_2, elimAll2 (lead1 (n := 2) (by omega) hx hc (by omega))]
  refine ⟨det_one2 _ _ _ _ _ _, ?_, ?_⟩
  · simp only [colSet, List.set_cons_zero, List.zipWith_cons_cons]; exact det_nil2 _
  · intro j hj
    have : j = 0 ∨ j = 1 := by omega
    rcases this with rfl | rfl
    all_goals
      simp only [colSet, List.set_cons_zero, List.set_cons_succ, List.zipWith_cons_cons, List.zipWith_nil_left, List.getD_cons_zero, List.getD_cons_succ, Nat.zero_add]
      exact det_one2 _ _ _ _ _ _

theorem rowsS_3 (xs : List St) (b0 b1 b2 b3 : Int) : rowsS 3 xs [b0, b1, b2, b3] = [[(lapE xs 1 1), (lapE xs 1 2), (lapE xs 1 3), b1], [(lapE xs 2 1), (lapE xs 2 2), (lapE xs 2 3), b2], [(lapE xs 3 1), (lapE xs 3 2), (lapE xs 3 3), b3]] := by
  simp [rowsS, List.range_succ]
theorem rowsP_3 (xs : List St) : rowsP 3 xs = [[1, 0, 0, 0], [(lapE xs 1 0), (lapE xs 1 1), (lapE xs 1 2), (lapE xs 1 3)], [(lapE xs 2 0), (lapE xs 2 1), (lapE xs 2 2), (lapE xs 2 3)], [(lapE xs 3 0), (lapE xs 3 1), (lapE xs 3 2), (lapE xs 3 3)]] := by
  simp [rowsP, List.range_succ, List.replicate]

theorem solve_3 {xs : List St} (hx : ∀ x ∈ xs, OkSt (3 + 1) x) (hc : trAll (trTo (3 + 1) xs xs.length) = true) (b : List Int) (hb : b.length = 3 + 1) :
    det (3 + 1) (rowsP 3 xs) = (elimTo (rowsS 3 xs b) 3).2 ∧ det (3 + 1) (colSet (rowsP 3 xs) 0 (b.set 0 0)) = 0 ∧
    ∀ j, j < 3 → det (3 + 1) (colSet (rowsP 3 xs) (j + 1) (b.set 0 0)) = ((elimTo (rowsS 3 xs b) 3).1.getD j []).getD 3 0 := by
  obtain ⟨b0, b1, b2, b3, rfl⟩ := len_3 hb
  rw [rowsS_3, rowsP_3, elimAll3 (lead1 (n := 3) (by omega) hx hc (by omega)) (lead2 (n := 3) (by omega) hx hc (by omega))]
  refine ⟨det_one3 _ _ _ _ _ _ _ _ _ _ _ _, ?_, ?_⟩
  · simp only [colSet, List.set_cons_zero, List.zipWith_cons_cons]; exact det_nil3 _
  · intro j hj
    have : j = 0 ∨ j = 1 ∨ j = 2 := by omega
    rcases this with rfl | rfl | rfl
    all_goals
      simp only [colSet, List.set_cons_zero, List.set_cons_succ, List.zipWith_cons_cons, List.zipWith_nil_left, List.getD_cons_zero, List.getD_cons_succ, Nat.zero_add]
      exact det_one3 _ _ _ _ _ _ _ _ _ _ _ _

theorem rowsS_4 (xs : List St) (b0 b1 b2 b3 b4 : Int) : rowsS 4 xs [b0, b1, b2, b3, b4] = [[(lapE xs 1 1), (lapE xs 1 2), (lapE xs 1 3), (lapE xs 1 4), b1], [(lapE xs 2 1), (lapE xs 2 2), (lapE xs 2 3), (lapE xs 2 4), b2], [(lapE xs 3 1), (lapE xs 3 2), (lapE xs 3 3), (lapE xs 3 4), b3], [(lapE xs 4 1), (lapE xs 4 2), (lapE xs 4 3), (lapE xs 4 4), b4]] := by
  simp [rowsS, List.range_succ]
theorem rowsP_4 (xs : List St) : rowsP 4 xs = [[1, 0, 0, 0, 0], [(lapE xs 1 0), (lapE xs 1 1), (lapE xs 1 2), (lapE xs 1 3), (lapE xs 1 4)], [(lapE xs 2 0), (lapE xs 2 1), (lapE xs 2 2), (lapE xs 2 3), (lapE xs 2 4)], [(lapE xs 3 0), (lapE xs 3 1), (lapE xs 3 2), (lapE xs 3 3), (lapE xs 3 4)], [(lapE xs 4 0), (lapE xs 4 1), (lapE xs 4 2), (lapE xs 4 3), (lapE xs 4 4)]] := by
  simp [rowsP, List.range_succ, List.replicate]

theorem solve_4 {xs : List St} (hx : ∀ x ∈ xs, OkSt (4 + 1) x) (hc : trAll (trTo (4 + 1) xs xs.length) = true) (b : List Int) (hb : b.length = 4 + 1) :
    det (4 + 1) (rowsP 4 xs) = (elimTo (rowsS 4 xs b) 4).2 ∧ det (4 + 1) (colSet (rowsP 4 xs) 0 (b.set 0 0)) = 0 ∧
    ∀ j, j < 4 → det (4 + 1) (colSet (rowsP 4 xs) (j + 1) (b.set 0 0)) = ((elimTo (rowsS 4 xs b) 4).1.getD j []).getD 4 0 := by
  obtain ⟨b0, b1, b2, b3, b4, rfl⟩ := len_4 hb
  rw [rowsS_4, rowsP_4, elimAll4 (lead1 (n := 4) (by omega) hx hc (by omega)) (lead2 (n := 4) (by omega) hx hc (by omega)) (lead3 (n := 4) (by omega) hx hc (by omega))]
  refine ⟨det_one4 _ _ _ _ _ _ _ _ _ _ _ _ _ _ _ _ _ _ _ _, ?_, ?_⟩
  · simp only [colSet, List.set_cons_zero, List.zipWith_cons_cons]; exact det_nil4 _
  · intro j hj
    have : j = 0 ∨ j = 1 ∨ j = 2 ∨ j = 3 := by omega
    rcases this with rfl | rfl | rfl | rfl
    all_goals
      simp only [colSet, List.set_cons_zero, List.set_cons_succ, List.zipWith_cons_cons, List.zipWith_nil_left, List.getD_cons_zero, List.getD_cons_succ, Nat.zero_add]
      exact det_one4 _ _ _ _ _ _ _ _ _ _ _ _ _ _ _ _ _ _ _ _

/-- Cramer's rule is what the elimination computes. -/
theorem solve_same {n : Nat} {xs : List St} (hn : n ≤ 4) (h1 : 1 ≤ n) (hx : ∀ x ∈ xs, OkSt (n + 1) x) (hc : trAll (trTo (n + 1) xs xs.length) = true) (b : List Int) (hb : b.length = n + 1) :
    det (n + 1) (rowsP n xs) = (elimTo (rowsS n xs b) n).2 ∧ det (n + 1) (colSet (rowsP n xs) 0 (b.set 0 0)) = 0 ∧
    ∀ j, j < n → det (n + 1) (colSet (rowsP n xs) (j + 1) (b.set 0 0)) = ((elimTo (rowsS n xs b) n).1.getD j []).getD n 0 := by
  have : n = 1 ∨ n = 2 ∨ n = 3 ∨ n = 4 := by omega
  rcases this with rfl | rfl | rfl | rfl
  · exact solve_1 hx hc b hb
  · exact solve_2 hx hc b hb
  · exact solve_3 hx hc b hb
  · exact solve_4 hx hc b hb

theorem gcd_step (a b : Int) (ha : 0 ≤ a) (hb : 0 < b) : Int.gcd a b = Int.gcd b (a.tmod b) := by
  rw [Int.tmod_eq_emod_of_nonneg ha]
  obtain ⟨m, rfl⟩ := Int.eq_ofNat_of_zero_le ha
  obtain ⟨n, rfl⟩ := Int.eq_ofNat_of_zero_le (Int.le_of_lt hb)
  show Nat.gcd m n = Nat.gcd n (m % n)
  rw [Nat.gcd_comm n, ← Nat.gcd_rec n m, Nat.gcd_comm]
def gcdL (d : Int) : List Int → Int
  | [] => d
  | x :: xs => gcdL (Int.gcd d x : Int) xs
theorem gcdL_pos (xs : List Int) : ∀ d : Int, 0 < d → 0 < gcdL d xs := by
  induction xs with
  | nil => intro d h; exact h
  | cons x xs ih =>
    intro d h
    apply ih
    have := Int.gcd_pos_of_ne_zero_left x (show d ≠ 0 by omega)
    omega
theorem gcdL_dvd (xs : List Int) : ∀ d : Int, gcdL d xs ∣ d ∧ ∀ x ∈ xs, gcdL d xs ∣ x := by
  induction xs with
  | nil => intro d; exact ⟨Int.dvd_refl _, by simp⟩
  | cons x xs ih =>
    intro d
    obtain ⟨h1, h2⟩ := ih (Int.gcd d x : Int)
    refine ⟨Int.dvd_trans h1 (Int.gcd_dvd_left ..), fun y hy => ?_⟩
    rcases List.mem_cons.1 hy with rfl | hy
    · exact Int.dvd_trans h1 (Int.gcd_dvd_right ..)
    · exact h2 y hy
end Go.Proofs.YtcmocilojloolaaDoor
