/- The draw of a course. -/
import Derived.Test.YtkdecpnbbpmooacDoorSrc2
import Derived.Test.YtkdecpnbbpmooacDoorSteerM
import Derived.Test.YtkdecpnbbpmooacDoorKit5
import Derived.Test.YtkdecpnbbpmooacDoorSteerN
import Derived.Deep.DeepCutAuto
import Derived.Test.YtkdecpnbbpmooacDoorLimitss
namespace Go.Proofs.YtkdecpnbbpmooacDoor
open Go.ChangeShapes Go.WideShapes Go.ChangeAt Go.RowKit
set_option linter.unusedVariables false
set_option linter.unusedSimpArgs false

set_option maxHeartbeats 1000000 in
theorem b10Long_any (a c : Option Addr) (n m p q : Nat) (b : Bool) (hb : b = (decide (1048576 < n) || decide (1048576 < m))) (w : World) :
    Calls Tryd.prog 7 #[.slice a n p, .slice c m q] w fun e w' => e = .returned (.bool b) ∧ w = w' := by
  by_cases h1 : 1048576 < n
  · obtain rfl : b = true := by simp [hb, h1]
    have h1' : (1048576 : Int) < (n : Int) := by omega
    clear hb
    go_enter Tryd.func7, Tryd.ntmps7
    go_wp2
    go_ret
    exact ⟨rfl, rfl⟩
  · by_cases h2 : 1048576 < m
    · obtain rfl : b = true := by simp [hb, h2]
      have h1' : ¬ (1048576 : Int) < (n : Int) := by omega
      have h2' : (1048576 : Int) < (m : Int) := by omega
      clear hb
      go_enter Tryd.func7, Tryd.ntmps7
      go_wp2
      go_ret
      exact ⟨rfl, rfl⟩
    · obtain rfl : b = false := by simp [hb, h1, h2]
      have h1' : ¬ (1048576 : Int) < (n : Int) := by omega
      have h2' : ¬ (1048576 : Int) < (m : Int) := by omega
      clear hb
      go_enter Tryd.func7, Tryd.ntmps7
      go_wp2
      go_ret
      exact ⟨rfl, rfl⟩

set_option maxHeartbeats 1000000 in
theorem b10At_any (a : Option Addr) (len cap : Nat) (zs : List Int) (w : World) (h : IsRow .u8 w a len cap zs) (lz : len ≤ 1048576) (k : Nat) (hk : k ≤ 1000) (n : Int) (hn : 2 ≤ n) (hn2 : n ≤ 1000000) :
    Calls Tryd.prog 11 #[.slice a len cap, .int .i64 k, .int .i64 n] w fun e w' => ∃ r : Int, e = .returned (.int .i64 r) ∧ 0 ≤ r ∧ r < n ∧ w = w' := by
  have z0 : ¬ n ≤ 1 := by omega
  have z1 : (n == 0) = false := by simp; omega
  have z2 : (0 == n) = false := by simp; omega
  have q0 : IntKind.i64.wrap (len : Int) = (len : Int) := IntWalk.i64_in _ (by omega)
  by_cases hlt : k < len
  · rcases h with ⟨_, h0, _⟩ | ⟨x, rfl, h1, h2, h3, h4, h5⟩
    · omega
    · obtain ⟨d, hd⟩ : ∃ d, zs.getD k 0 = d := ⟨_, rfl⟩
      have c0 := h4 k (by omega)
      have cz := h4 0 (by omega)
      rw [hd] at c0
      have hm : d ∈ zs := by rw [← hd, List.getD_eq_getElem?_getD, List.getElem?_eq_getElem (by omega)]; simp
      have hw := h5 d hm
      have d0 : 0 ≤ d ∧ d ≤ 255 := by
        simp [Lit.wf, IntKind.min, IntKind.max, IntKind.signed, IntKind.bits] at hw
        omega
      have q1 : IntKind.i64.wrap d = d := IntWalk.i64_in _ (by omega)
      have hb := tmod_bd d n (by omega)
      have hp : 0 ≤ d.tmod n := by rw [Int.tmod_eq_emod_of_nonneg d0.1]; exact Int.emod_nonneg _ (by omega)
      have q2 : IntKind.i64.wrap (d.tmod n) = d.tmod n := IntWalk.i64_in _ (by omega)
      have i1 : (0 : Int) ≤ (k : Int) := by omega
      have i2 : (k : Int) < (len : Int) := by omega
      have hr : Hid (0 ≤ d.tmod n ∧ d.tmod n < n) := ⟨hp, hb.2⟩
      obtain ⟨e, he⟩ : ∃ e, d.tmod n = e := ⟨_, rfl⟩
      have q3 : d % n = e := by rw [← he, Int.tmod_eq_emod_of_nonneg d0.1]
      rw [he] at q2 hr
      clear hd hm hw h4 h5 hb hp h3
      obtain ⟨bx, ox, sx⟩ := x
      have hspot : sx = none := by simpa [Addr.add] using World.cell?_spot cz
      subst hspot
      rw [Go.WideShapes.add_plain] at c0
      clear cz
      go_enter Tryd.func11, Tryd.ntmps11
      go_wp2
      go_ret
      first | exact ⟨e, rfl, hr.out.1, hr.out.2, rfl⟩ | exact ⟨_, rfl, by have := hr.out; omega, by have := hr.out; omega, rfl⟩
  · have z3 : ¬ ((k : Int) < (len : Int)) := by omega
    have q1 : IntKind.i64.wrap ((k : Int) * 37) = (k : Int) * 37 := IntWalk.i64_in _ (by omega)
    have q2 : IntKind.i64.wrap ((k : Int) * 37 + 11) = (k : Int) * 37 + 11 := IntWalk.i64_in _ (by omega)
    have hb := tmod_bd ((k : Int) * 37 + 11) n (by omega)
    have hp : 0 ≤ ((k : Int) * 37 + 11).tmod n := by rw [Int.tmod_eq_emod_of_nonneg (by omega)]; exact Int.emod_nonneg _ (by omega)
    have q3 : IntKind.i64.wrap (((k : Int) * 37 + 11).tmod n) = ((k : Int) * 37 + 11).tmod n := IntWalk.i64_in _ (by omega)
    have hr : Hid (0 ≤ ((k : Int) * 37 + 11).tmod n ∧ ((k : Int) * 37 + 11).tmod n < n) := ⟨hp, hb.2⟩
    obtain ⟨e, he⟩ : ∃ e, ((k : Int) * 37 + 11).tmod n = e := ⟨_, rfl⟩
    have q4 : ((k : Int) * 37 + 11) % n = e := by rw [← he, Int.tmod_eq_emod_of_nonneg (by omega)]
    rw [he] at q3 hr
    clear hb hp h
    go_enter Tryd.func11, Tryd.ntmps11
    go_wp2
    go_ret
    first | exact ⟨e, rfl, hr.out.1, hr.out.2, rfl⟩ | exact ⟨_, rfl, by have := hr.out; omega, by have := hr.out; omega, rfl⟩


theorem SrcAt.below {w w' : World} {B g : Nat} {v : Value} {zs : List Int} {n : Nat} (h : SrcAt w g v zs n) (hb : Below B w w') (hg : g < B) (hv : zs ≠ [] → ∀ b, v.ownBlock = some b → b < B) : SrcAt w' g v zs n := by
  obtain ⟨a, b, ⟨s, c, c0, c1⟩, d, e, f, k⟩ := h
  refine ⟨(hb.cell (p := ⟨g, 0, none⟩) hg).trans a, (hb.cell (p := ⟨g, 1, none⟩) hg).trans b, ⟨s, (hb.cell (p := ⟨g, 2, none⟩) hg).trans c, c0, c1⟩, (hb.frozen (p := ⟨g, 1, none⟩) hg).trans d, (hb.frozen (p := ⟨g, 2, none⟩) hg).trans e, f.of_cells (fun hz b o u hbk hc => (hb.cell (p := ⟨b, o, none⟩) (hv hz b hbk)).trans hc), k⟩
theorem rdB_lt {w : World} {v : Value} {zs : List Int} (h : RdB w v zs) (hz : zs ≠ []) (b : Nat) (hb : v.ownBlock = some b) : b < w.heap.size := by
  obtain ⟨a, cap, rfl, h2⟩ := h
  obtain ⟨b', off, rfl, h⟩ := h2.1.resolve_left hz
  obtain ⟨x, zs, rfl⟩ := List.exists_cons_of_ne_nil hz
  have hlt := World.block_lt_of_cell? w _ (h 0 x rfl)
  simp only [Value.ownBlock, Option.some.injEq] at hb
  subst hb
  exact hlt

def noLm : Lm := ⟨0, 0⟩
def DrawnC (c : Co) : Prop := (-12 ≤ c.o ∧ c.o ≤ 12) ∧ (-4 ≤ c.h ∧ c.h ≤ 4) ∧ (-1 ≤ c.t ∧ c.t ≤ 1)
theorem kept_block {a b : World} {g p : Nat} (h : a.grownBy b (some g)) (hp : p < a.heap.size) (hn : p ≠ g) : b.heap[p]? = a.heap[p]? := h.block p hp (by simp; omega)

set_option maxRecDepth 100000 in
set_option maxHeartbeats 8000000 in
theorem b10Course_any (w : World) (v : Value) (zs : List Int) (h : RdB w v zs) (lz : zs.length ≤ 1099511627776) :
    Calls Tryd.prog 8 #[v] w fun e w' => ∃ (l : Lm) (c : Co), e = .returned (.tuple #[(.agg #[.int .i64 l.m, .int .i64 l.c]), (.agg #[.int .i64 c.o, .int .i64 c.h, .int .i64 c.t])]) ∧ Below w.heap.size w w' ∧ DrawnC c := by
  have WW : Hid ((((w.alloc (.cells #[.int .i64 noLm.m, .int .i64 noLm.c] 25)).alloc (.cells #[.int .i64 noC.o, .int .i64 noC.h, .int .i64 noC.t] 27)).heap[w.heap.size]? = some (.cells #[.int .i64 noLm.m, .int .i64 noLm.c] 25 (0, 0)) ∧ ((w.alloc (.cells #[.int .i64 noLm.m, .int .i64 noLm.c] 25)).alloc (.cells #[.int .i64 noC.o, .int .i64 noC.h, .int .i64 noC.t] 27)).heap[w.heap.size + 1]? = some (.cells #[.int .i64 noC.o, .int .i64 noC.h, .int .i64 noC.t] 27 (0, 0))) ∧ ((w.alloc (.cells #[.int .i64 noLm.m, .int .i64 noLm.c] 25)).alloc (.cells #[.int .i64 noC.o, .int .i64 noC.h, .int .i64 noC.t] 27)).heap.size = w.heap.size + 2) := ⟨⟨boxN2_0 w _ _, boxN2_1 w _ _⟩, by simp⟩
  have BU : Hid (Below w.heap.size w ((w.alloc (.cells #[.int .i64 noLm.m, .int .i64 noLm.c] 25)).alloc (.cells #[.int .i64 noC.o, .int .i64 noC.h, .int .i64 noC.t] 27))) := by show Below _ _ _; go_grown
  have RU := Lib.hid (h.later BU.out)
  clear h
  go_enter Tryd.func8, Tryd.ntmps8
  go_upto_region 1 with (fail)
  generalize hu : ((w.alloc (.cells #[.int .i64 noLm.m, .int .i64 noLm.c] 25)).alloc (.cells #[.int .i64 noC.o, .int .i64 noC.h, .int .i64 noC.t] 27)) = u at WW BU RU
  have hu' : ((w.alloc (.cells #[.int .i64 0, .int .i64 0] 25)).alloc (.cells #[.int .i64 0, .int .i64 0, .int .i64 0] 27)) = u := hu
  try rw [hu']
  clear hu hu'
  obtain ⟨⟨nl, nc⟩, sue⟩ := WW.out
  have NL := Lib.hid nl
  have NC := Lib.hid nc
  obtain ⟨g, hg⟩ : ∃ g, g = u.heap.size := ⟨_, rfl⟩
  have HG := Lib.hid hg
  have gs : g = w.heap.size + 2 := by omega
  have GS := Lib.hid gs
  clear WW nl nc sue hg gs
  go_wp2_with fail
  refine (from_any u v zs RU.out).mono ?_
  rintro e w0 ⟨rfl, s0, b0⟩
  have S0 := Lib.hid s0
  have B0 := Lib.hid b0
  rw [← HG.out] at S0 B0
  rw [← HG.out]
  clear s0 b0 RU
  go_wp2_with fail
  refine (pick_any w0 g v zs 0 3 S0.out (by omega) lz (by omega) (by omega)).mono ?_
  rintro e w1 ⟨x1, m1, rfl, p1, q1, -, l1, u1, s1, g1⟩
  have S1 := Lib.hid s1
  have Q1 := q1 (by omega)
  have B1 : Hid (Below g u w1) := B0.out.grown g1 (by have := B0.out.size; have := HG.out; omega) (fun k hk => by cases hk; exact Nat.le_refl _)
  clear s1 g1 q1 S0 B0
  have d1 : IntKind.i64.wrap (1 + x1) = 1 + x1 := IntWalk.i64_in _ (by omega)
  go_wp2_with fail
  refine (pick_any w1 g v zs m1 5 S1.out (by omega) lz (by omega) (by omega)).mono ?_
  rintro e w2 ⟨x2, m2, rfl, p2, q2, -, l2, u2, s2, g2⟩
  have S2 := Lib.hid s2
  have Q2 := q2 (by omega)
  have B2 : Hid (Below g u w2) := B1.out.grown g2 (by have := B1.out.size; have := HG.out; omega) (fun k hk => by cases hk; exact Nat.le_refl _)
  clear s2 g2 q2 S1 B1
  have d2 : IntKind.i64.wrap (1 + x2) = 1 + x2 := IntWalk.i64_in _ (by omega)
  have sg2 : g < w2.heap.size := S2.out.lt
  have S2' : Hid (SrcAt (w2.alloc (.cells #[.int .i64 (⟨1 + x1, 1 + x2⟩ : Lm).m, .int .i64 (⟨1 + x1, 1 + x2⟩ : Lm).c] 25)) g v zs m2) := S2.out.later ((Below.refl _ _).alloc (Nat.le_refl _) _) sg2
  have B2' : Hid (Below g u (w2.alloc (.cells #[.int .i64 (⟨1 + x1, 1 + x2⟩ : Lm).m, .int .i64 (⟨1 + x1, 1 + x2⟩ : Lm).c] 25))) := B2.out.alloc (by omega) _
  have N5 : Hid ((w2.alloc (.cells #[.int .i64 (⟨1 + x1, 1 + x2⟩ : Lm).m, .int .i64 (⟨1 + x1, 1 + x2⟩ : Lm).c] 25)).heap[w2.heap.size]? = some (.cells #[.int .i64 (⟨1 + x1, 1 + x2⟩ : Lm).m, .int .i64 (⟨1 + x1, 1 + x2⟩ : Lm).c] 25 (0, 0))) := heap_alloc_new w2 _
  obtain ⟨p5, hp5⟩ : ∃ p, p = w2.heap.size := ⟨_, rfl⟩
  go_wp2_with fail
  generalize hv2 : (w2.alloc (.cells #[.int .i64 (⟨1 + x1, 1 + x2⟩ : Lm).m, .int .i64 (⟨1 + x1, 1 + x2⟩ : Lm).c] 25)) = v2 at S2' B2' N5
  have hv2' : (w2.alloc (.cells #[.int .i64 (1 + x1), .int .i64 (1 + x2)] 25)) = v2 := hv2
  try rw [hv2']
  rw [← hp5] at N5 sg2
  rw [← hp5]
  clear hv2 hv2' hp5 S2 B2
  have ng5 : p5 ≠ g := by omega
  have lt5 := box_lt N5.out
  refine (pick_any v2 g v zs m2 25 S2'.out (by omega) lz (by omega) (by omega)).mono ?_
  rintro e w3 ⟨x3, m3, rfl, p3, q3, -, l3, u3, s3, g3⟩
  have S3 := Lib.hid s3
  have Q3 := q3 (by omega)
  have B3 : Hid (Below g u w3) := B2'.out.grown g3 (by have := B2'.out.size; have := HG.out; omega) (fun k hk => by cases hk; exact Nat.le_refl _)
  have N53 := Lib.hid ((kept_block g3 lt5 ng5).trans N5.out)
  clear s3 g3 q3 S2' B2' N5 lt5
  have lt5 := box_lt N53.out
  have d3 : IntKind.i64.wrap (x3 - 12) = x3 - 12 := IntWalk.i64_in _ (by omega)
  go_wp2_with fail
  refine (pick_any w3 g v zs m3 9 S3.out (by omega) lz (by omega) (by omega)).mono ?_
  rintro e w4 ⟨x4, m4, rfl, p4, q4, -, l4, u4, s4, g4⟩
  have S4 := Lib.hid s4
  have Q4 := q4 (by omega)
  have B4 : Hid (Below g u w4) := B3.out.grown g4 (by have := B3.out.size; have := HG.out; omega) (fun k hk => by cases hk; exact Nat.le_refl _)
  have N54 := Lib.hid ((kept_block g4 lt5 ng5).trans N53.out)
  clear s4 g4 q4 S3 B3 N53 lt5
  have lt5 := box_lt N54.out
  have d4 : IntKind.i64.wrap (x4 - 4) = x4 - 4 := IntWalk.i64_in _ (by omega)
  go_wp2_with fail
  refine (pick_any w4 g v zs m4 3 S4.out (by omega) lz (by omega) (by omega)).mono ?_
  rintro e w5 ⟨x5, m5, rfl, p6, q5, -, l5, u5, s5, g5⟩
  have S5 := Lib.hid s5
  have Q5 := q5 (by omega)
  have B5 : Hid (Below g u w5) := B4.out.grown g5 (by have := B4.out.size; have := HG.out; omega) (fun k hk => by cases hk; exact Nat.le_refl _)
  have N55 := Lib.hid ((kept_block g5 lt5 ng5).trans N54.out)
  clear s5 g5 q5 S4 B4 N54 lt5 S5
  have lt5 := box_lt N55.out
  have d5 : IntKind.i64.wrap (x5 - 1) = x5 - 1 := IntWalk.i64_in _ (by omega)
  obtain ⟨L, hL⟩ : ∃ L : Lm, L = ⟨1 + x1, 1 + x2⟩ := ⟨_, rfl⟩
  obtain ⟨C, hC⟩ : ∃ C : Co, C = ⟨x3 - 12, x4 - 4, x5 - 1⟩ := ⟨_, rfl⟩
  have DC : Hid (DrawnC C) := by show DrawnC C; rw [hC]; unfold DrawnC; dsimp only; omega
  have eo : x3 - 12 = C.o := by rw [hC]
  have eh : x4 - 4 = C.h := by rw [hC]
  have et : x5 - 1 = C.t := by rw [hC]
  have em : 1 + x1 = L.m := by rw [hL]
  have ec : 1 + x2 = L.c := by rw [hL]
  try dsimp only at N55
  rw [em, ec] at N55
  rw [eo] at d3
  rw [eh] at d4
  rw [et] at d5
  rw [em, ec, eo, eh]
  clear d1 d2 hL hC em ec Q1 Q2 Q3 Q4 Q5 l1 l2 l3 l4 l5 u1 u2 u3 u4 u5 p1 p2 p3 p4 p6
  have nl5 := (B5.out.block _ (show w.heap.size < g by have := GS.out; omega)).trans NL.out
  have nc5 := (B5.out.block _ (show w.heap.size + 1 < g by have := GS.out; omega)).trans NC.out
  have B6 : Hid (Below g u (w5.alloc (.cells #[.int .i64 C.o, .int .i64 C.h, .int .i64 C.t] 27))) := B5.out.alloc (by have := B5.out.size; have := HG.out; omega) _
  have N6 : Hid ((w5.alloc (.cells #[.int .i64 C.o, .int .i64 C.h, .int .i64 C.t] 27)).heap[w5.heap.size]? = some (.cells #[.int .i64 C.o, .int .i64 C.h, .int .i64 C.t] 27 (0, 0))) := heap_alloc_new w5 _
  have N56 : Hid ((w5.alloc (.cells #[.int .i64 C.o, .int .i64 C.h, .int .i64 C.t] 27)).heap[p5]? = some (.cells #[.int .i64 L.m, .int .i64 L.c] 25 (0, 0))) := (Below.heap_alloc _ _ _ lt5).trans N55.out
  have NL6 : Hid ((w5.alloc (.cells #[.int .i64 C.o, .int .i64 C.h, .int .i64 C.t] 27)).heap[w.heap.size]? = some (.cells #[.int .i64 noLm.m, .int .i64 noLm.c] 25 (0, 0))) := (Below.heap_alloc _ _ _ (box_lt nl5)).trans nl5
  have NC6 : Hid ((w5.alloc (.cells #[.int .i64 C.o, .int .i64 C.h, .int .i64 C.t] 27)).heap[w.heap.size + 1]? = some (.cells #[.int .i64 noC.o, .int .i64 noC.h, .int .i64 noC.t] 27 (0, 0))) := (Below.heap_alloc _ _ _ (box_lt nc5)).trans nc5
  obtain ⟨p6, hp6⟩ : ∃ p, p = w5.heap.size := ⟨_, rfl⟩
  have sg5 : g ≤ w5.heap.size := by have := B5.out.size; have := HG.out; omega
  go_upto_region 4 with (fail)
  try rw [et]
  generalize hz : (w5.alloc (.cells #[.int .i64 C.o, .int .i64 C.h, .int .i64 C.t] 27)) = z at B6 N6 N56 NL6 NC6
  have hz' : (w5.alloc (.cells #[.int .i64 C.o, .int .i64 C.h, .int .i64 C.t] 27)) = z := hz
  try rw [hz']
  rw [← hp6] at N6 sg5
  rw [← hp6]
  clear hz hz' hp6 nl5 nc5 N55 B5 NL NC d3 d4 d5 lt5
  obtain ⟨⟨a0, a1⟩, -⟩ := boxLm_at (q := L) N56.out
  obtain ⟨⟨c0, c1, c2⟩, -⟩ := boxCo_at (q := C) N6.out
  obtain ⟨⟨r0, r1⟩, ⟨f0, f1⟩, -⟩ := boxLm_at (q := noLm) NL6.out
  obtain ⟨⟨s0, s1, s2⟩, ⟨h0, h1, h2⟩, -⟩ := boxCo_at (q := noC) NC6.out
  have RA := boxLm_put (q := noLm) NL6.out L
  have RB := boxCo_put (q := noC) ((boxLm_other (w := z) (g := w.heap.size) L (w.heap.size + 1) (by omega)).trans NC6.out) C
  have RA2 := Lib.hid ((boxCo_other (g := w.heap.size + 1) C (w.heap.size) (by omega)).trans RA)
  have RB2 := Lib.hid RB
  have e1 : ¬ p5 = w.heap.size := by have := GS.out; omega
  have e2 : ¬ p5 = w.heap.size + 1 := by have := GS.out; omega
  have e3 : ¬ p6 = w.heap.size := by have := GS.out; omega
  have e4 : ¬ p6 = w.heap.size + 1 := by have := GS.out; omega
  clear RA RB N6 N56 NL6 NC6 sg5
  trace_state
  go_wp2
  go_region
  all_goals go_wp2
  all_goals
    obtain ⟨⟨m0, m1⟩, -⟩ := boxLm_at (q := L) RA2.out
    obtain ⟨⟨n0, n1, n2⟩, -⟩ := boxCo_at (q := C) RB2.out
    have B := B6.out
    have BB := BU.out
    have sz := B.size
    refine bodyPost_ret (v := .tuple #[(.agg #[.int .i64 L.m, .int .i64 L.c]), (.agg #[.int .i64 C.o, .int .i64 C.h, .int .i64 C.t])]) (by simp [results, Tryd.results8, go_sem, m0, m1, n0, n1, n2]; try rfl) rfl ⟨L, C, rfl, ?_, DC.out⟩
    have BZ : Below w.heap.size w z := BB.trans (B.mono (by have := GS.out; omega))
    go_grown
end Go.Proofs.YtkdecpnbbpmooacDoor
