/- The walk of the specification's 'is an axis valid'. -/
import Derived.Test.YthhnnkgfnhggbaaAxM
import Derived.Test.YthhnnkgfnhggbaaNext
namespace Go.Proofs.Ythhnnkgfnhggbaa
open Go.ChangeShapes Go.WideShapes Go.ChangeAt Go.RowKit
set_option linter.unusedVariables false
set_option linter.unusedSimpArgs false

theorem bool_false {b : Bool} {P : Prop} (h : b = true ↔ P) (n : ¬ P) : b = false := by
  cases b with | false => rfl | true => exact absurd (h.mp rfl) n

set_option maxRecDepth 100000 in
set_option maxHeartbeats 4000000 in
theorem l02Is_main (A : Nat) (t : TypeId) (q : Ps) (a : Option Addr) (cap : Nat) (cs : List Cv) (w : World) (hA : w.heap[A]? = some (.cells #[.int .i64 q.s, .int .i64 q.h, .int .i64 q.y, .int .i64 q.p, .slice a cs.length cap] t (0, 0)))
    (hc : RdS 3 encCv w (.slice a cs.length cap) cs) (b : Bool) (hb : b = true ↔ OkRest q 0 cs) (h1 : OkP q) (h2 : 1 ≤ (cs.length : Int) ∧ (cs.length : Int) ≤ 8) :
    Calls Try.prog 64 #[.pointer (some ⟨A, 0, none⟩)] w fun e w' => e = .returned (.bool b) ∧ Below w.heap.size w w' := by
  obtain ⟨⟨a0, a1, a2, a3, a4⟩, lA⟩ := boxA_at hA
  have c1 := Lib.hid (fun w => l02Pose_any q true ⟨fun _ => h1, fun _ => rfl⟩ w)
  have c2 := Lib.hid (fun w => in_any cs.length 1 8 true ⟨fun _ => h2, fun _ => rfl⟩ w)
  have HC := Lib.hid hc
  have HB := Lib.hid hb
  have H1 := Lib.hid h1
  obtain ⟨n, hn⟩ : ∃ n, n = cs.length := ⟨_, rfl⟩
  clear hA
  rw [← hn] at a4 hc h2 c2
  have HN := Lib.hid hn
  have hn8 : n ≤ 8 := by omega
  have A0 := Lib.hid (And.intro a0 (And.intro a1 (And.intro a2 (And.intro a3 a4))))
  clear hc hb h1 h2 hn
  go_enter Try.func64, Try.ntmps64
  go_wp2_with fail
  refine (c1.out _).mono ?_
  rintro e w1 ⟨rfl, rfl⟩
  go_wp2_with fail
  refine (c2.out _).mono ?_
  rintro e w1 ⟨rfl, rfl⟩
  go_wp2_with fail
  have P0 : Hid (((w.alloc (.cells #[.int .i64 q.s, .int .i64 q.h, .int .i64 q.y, .int .i64 q.p] 25)).alloc (.cells #[.int .i64 q.s, .int .i64 q.h, .int .i64 q.y, .int .i64 q.p] 25)).heap[w.heap.size + 1]? = some (.cells #[.int .i64 q.s, .int .i64 q.h, .int .i64 q.y, .int .i64 q.p] 25 (0, 0))) := heap_alloc2_new w _ _
  have B0 : Hid (Below w.heap.size w ((w.alloc (.cells #[.int .i64 q.s, .int .i64 q.h, .int .i64 q.y, .int .i64 q.p] 25)).alloc (.cells #[.int .i64 q.s, .int .i64 q.h, .int .i64 q.y, .int .i64 q.p] 25))) := by show Below _ _ _; go_grown
  clear a0 a1 a2 a3 a4 c1 c2
  go_loopw [3, 5] (fun rg i wr => ∃ (k : Nat) (m : Int) (p : Ps), k ≤ n ∧ i = .int .i64 k ∧ rg = .int .i64 m ∧ 0 ≤ m ∧ m ≤ 60 ∧ Hid (OkP p) ∧ Hid (b = true ↔ OkRest p m (cs.drop k)) ∧ Hid (Below w.heap.size w wr) ∧ Hid (wr.heap[w.heap.size + 1]? = some (.cells #[.int .i64 p.s, .int .i64 p.h, .int .i64 p.y, .int .i64 p.p] 25 (0, 0)))) (fun _ i _ => n - (intOf i).toNat)
  case atStart => exact ⟨0, 0, q, by omega, rfl, rfl, by omega, by omega, H1, HB, B0, P0⟩
  case round =>
    obtain ⟨k, m, p, hk, rfl, rfl, m0, m1, OP, HR, B, PP⟩ := hrel
    clear B0 P0 H1 HB
    obtain ⟨a0', a1', a2', a3', a4'⟩ := A0.out
    have a4 := (B.out.cell (p := ⟨A, 4, none⟩) lA).trans a4'
    clear a0' a1' a2' a3' a4'
    by_cases hlt : k < n
    · obtain ⟨c, hx⟩ : ∃ x, cs[k]? = some x := ⟨_, List.getElem?_eq_getElem (by have := HN.out; omega)⟩
      obtain ⟨ba, oa, rfl, e0, e1, e2⟩ := (HC.out.later B.out).at3 k c hx
      have hd : cs.drop k = c :: cs.drop (k + 1) := by
        have hl : k < cs.length := by have := HN.out; omega
        rw [List.drop_eq_getElem_cons hl]
        rw [List.getElem?_eq_getElem hl] at hx
        rw [Option.some.inj hx]
      have HR' : Hid (b = true ↔ OkRest p m (c :: cs.drop (k + 1))) := by rw [← hd]; exact HR
      obtain ⟨⟨p0, p1, p2, p3⟩, ⟨z0, z1, z2, z3⟩, lP⟩ := boxPs_at PP.out
      have q1 : IntKind.i64.wrap (60 - m) = 60 - m := IntWalk.i64_in _ (by omega)
      have hsz := B.out.size
      clear hx hd HR
      by_cases g1 : 1 ≤ c.r ∧ c.r ≤ 60 - m
      · have d1 := Lib.hid (fun w => in_any c.r 1 (60 - m) true ⟨fun _ => g1, fun _ => rfl⟩ w)
        by_cases g2 : OkTurn c.b ∧ OkTurn c.s
        · have d2 := Lib.hid (fun w => l02Turn_any c.b c.s true ⟨fun _ => g2, fun _ => rfl⟩ w)
          have q2 : IntKind.i64.wrap (m + c.r) = m + c.r := IntWalk.i64_in _ (by omega)
          have r0 : 0 ≤ m + c.r := by omega
          have r1 : m + c.r ≤ 60 := by omega
          have G2 := Lib.hid g2
          obtain ⟨g11, g12⟩ := g1
          clear g2
          go_wp2_with fail
          refine (d1.out _).mono ?_
          rintro e w3 ⟨rfl, rfl⟩
          go_wp2_with fail
          refine (d2.out _).mono ?_
          rintro e w3 ⟨rfl, rfl⟩
          go_wp2_with fail
          have CC : Hid ((wr.alloc (.cells #[.int .i64 c.r, .int .i64 c.b, .int .i64 c.s] 46)).heap[wr.heap.size]? = some (.cells #[.int .i64 c.r, .int .i64 c.b, .int .i64 c.s] 46 (0, 0))) := heap_alloc_new wr _
          have PP1 : Hid ((wr.alloc (.cells #[.int .i64 c.r, .int .i64 c.b, .int .i64 c.s] 46)).heap[w.heap.size + 1]? = some (.cells #[.int .i64 p.s, .int .i64 p.h, .int .i64 p.y, .int .i64 p.p] 25 (0, 0))) := (Below.heap_alloc wr _ _ lP).trans PP.out
          have B1 : Hid (Below w.heap.size w (wr.alloc (.cells #[.int .i64 c.r, .int .i64 c.b, .int .i64 c.s] 46))) := B.out.alloc hsz _
          obtain ⟨r, hr⟩ : ∃ r : Nat, c.r = r := ⟨c.r.toNat, by omega⟩
          have HR1 : Hid (b = true ↔ OkRun p c.b c.s r ∧ OkRest (runsP p c.b c.s r) (m + c.r) (cs.drop (k + 1))) := by
            show _ ↔ _
            rw [HR'.out]
            have e : c.r.toNat = r := by rw [hr]; rfl
            constructor
            · rintro ⟨_, _, u, v⟩
              rw [e] at u v
              exact ⟨u, v⟩
            · rintro ⟨u, v⟩
              refine ⟨⟨g11, g12⟩, G2.out, ?_, ?_⟩
              · rw [e]; exact u
              · rw [e]; exact v
          obtain ⟨wo, hwo⟩ : ∃ x, x = wr := ⟨_, rfl⟩
          subst hwo
          rw [hr] at g11 g12 q2 r0 r1 CC PP1 B1 HR1 d1
          rw [hr]
          clear e0 e1 e2 p0 p1 p2 p3 z0 z1 z2 z3 d1 d2 a4 HR' q1 q2
          go_loopw [7] (fun j w2 => ∃ (l : Nat) (p' : Ps), l ≤ r ∧ j = .int .i64 l ∧ Hid (OkP p') ∧ Hid (b = true ↔ OkRun p' c.b c.s (r - l) ∧ OkRest (runsP p' c.b c.s (r - l)) (m + r) (cs.drop (k + 1))) ∧ Hid (Below w.heap.size w w2) ∧ Hid (w2.heap[wo.heap.size]? = some (.cells #[.int .i64 r, .int .i64 c.b, .int .i64 c.s] 46 (0, 0))) ∧ Hid (w2.heap[w.heap.size + 1]? = some (.cells #[.int .i64 p'.s, .int .i64 p'.h, .int .i64 p'.y, .int .i64 p'.p] 25 (0, 0)))) (fun j _ => r - (intOf j).toNat)
          case atStart => exact ⟨0, p, by omega, rfl, OP, HR1, B1, CC, PP1⟩
          case round =>
            obtain ⟨l, p', hl, rfl, OP', HL, B2, C2, P2⟩ := hrel
            clear CC PP1 B1 HR1 OP
            obtain ⟨⟨p0, p1, p2, p3⟩, ⟨z0, z1, z2, z3⟩, lP2⟩ := boxPs_at P2.out
            obtain ⟨⟨e0, e1, e2⟩, -, lC2⟩ := boxCv_at (q := ⟨r, c.b, c.s⟩) C2.out
            have n1 : ¬ w.heap.size + 1 = wo.heap.size := by omega
            by_cases hlt2 : l < r
            · have d1 := Lib.hid (fun w => l02Next_any p' c.b c.s (OP'.out.room G2.out.1 G2.out.2) w)
              obtain ⟨p2', hp2⟩ : ∃ x, x = stepP p' c.b c.s := ⟨_, rfl⟩
              rw [← hp2] at d1
              have HP2 := Lib.hid hp2
              clear hp2
              have lt3 : (l : Int) < r := by omega
              have sz2 := B2.out.size
              go_wp2_with fail
              refine (d1.out _).mono ?_
              rintro e w3 ⟨rfl, hw3⟩
              have b3 : Below wr.heap.size wr w3 := by rw [hw3]; go_grown
              have PQ := (b3.block _ lP2).trans P2.out
              have CQ := (b3.block _ lC2).trans C2.out
              have B3 : Hid (Below w.heap.size w w3) := B2.out.trans (b3.mono sz2)
              have sz3 := b3.size
              clear hw3 b3 p0 p1 p2 p3 z0 z1 z2 z3 e0 e1 e2 P2 C2 B2
              obtain ⟨⟨p0, p1, p2, p3⟩, ⟨z0, z1, z2, z3⟩, lP3⟩ := boxPs_at PQ
              have P3 : Hid (((((w3.setCell ⟨w.heap.size + 1, 0, none⟩ (.int .i64 p2'.s)).setCell ⟨w.heap.size + 1, 1, none⟩ (.int .i64 p2'.h)).setCell ⟨w.heap.size + 1, 2, none⟩ (.int .i64 p2'.y)).setCell ⟨w.heap.size + 1, 3, none⟩ (.int .i64 p2'.p)).heap[w.heap.size + 1]? = some (.cells #[.int .i64 p2'.s, .int .i64 p2'.h, .int .i64 p2'.y, .int .i64 p2'.p] 25 (0, 0))) := boxPs_put PQ p2'
              have C3 : Hid (((((w3.setCell ⟨w.heap.size + 1, 0, none⟩ (.int .i64 p2'.s)).setCell ⟨w.heap.size + 1, 1, none⟩ (.int .i64 p2'.h)).setCell ⟨w.heap.size + 1, 2, none⟩ (.int .i64 p2'.y)).setCell ⟨w.heap.size + 1, 3, none⟩ (.int .i64 p2'.p)).heap[wo.heap.size]? = some (.cells #[.int .i64 r, .int .i64 c.b, .int .i64 c.s] 46 (0, 0))) := (boxPs_other p2' _ (by omega)).trans CQ
              have B4 : Hid (Below w.heap.size w ((((w3.setCell ⟨w.heap.size + 1, 0, none⟩ (.int .i64 p2'.s)).setCell ⟨w.heap.size + 1, 1, none⟩ (.int .i64 p2'.h)).setCell ⟨w.heap.size + 1, 2, none⟩ (.int .i64 p2'.y)).setCell ⟨w.heap.size + 1, 3, none⟩ (.int .i64 p2'.p))) := by have := B3.out; show Below _ _ _; go_grown
              clear PQ CQ B3
              have sz4 : ((((w3.setCell ⟨w.heap.size + 1, 0, none⟩ (.int .i64 p2'.s)).setCell ⟨w.heap.size + 1, 1, none⟩ (.int .i64 p2'.h)).setCell ⟨w.heap.size + 1, 2, none⟩ (.int .i64 p2'.y)).setCell ⟨w.heap.size + 1, 3, none⟩ (.int .i64 p2'.p)).heap.size = w3.heap.size := by simp
              by_cases g3 : OkP p2'
              · have d2 := Lib.hid (fun w => l02Pose_any p2' true ⟨fun _ => g3, fun _ => rfl⟩ w)
                have G3 := Lib.hid g3
                have HL3 : Hid (b = true ↔ OkRun p2' c.b c.s (r - (l + 1)) ∧ OkRest (runsP p2' c.b c.s (r - (l + 1))) (m + r) (cs.drop (k + 1))) := by
                  show _ ↔ _
                  have := HL.out
                  rw [show r - l = (r - (l + 1)) + 1 by omega] at this
                  simp only [OkRun, runsP] at this
                  rw [← HP2.out] at this
                  rw [this]
                  simp only [g3, true_and]
                clear g3 HL
                go_wp2_with fail
                refine (d2.out _).mono ?_
                rintro e w4 ⟨rfl, hw4⟩
                have b4 : Below w3.heap.size ((((w3.setCell ⟨w.heap.size + 1, 0, none⟩ (.int .i64 p2'.s)).setCell ⟨w.heap.size + 1, 1, none⟩ (.int .i64 p2'.h)).setCell ⟨w.heap.size + 1, 2, none⟩ (.int .i64 p2'.y)).setCell ⟨w.heap.size + 1, 3, none⟩ (.int .i64 p2'.p)) w4 := by rw [hw4]; exact (Below.refl _ _).alloc (by rw [sz4]; exact Nat.le_refl _) _
                have P5 : Hid (w4.heap[w.heap.size + 1]? = some (.cells #[.int .i64 p2'.s, .int .i64 p2'.h, .int .i64 p2'.y, .int .i64 p2'.p] 25 (0, 0))) := (b4.block _ lP3).trans P3.out
                have C5 : Hid (w4.heap[wo.heap.size]? = some (.cells #[.int .i64 r, .int .i64 c.b, .int .i64 c.s] 46 (0, 0))) := (b4.block _ (by omega)).trans C3.out
                have B5 : Hid (Below w.heap.size w w4) := B4.out.trans (b4.mono (by omega))
                clear hw4 b4 P3 C3 B4 p0 p1 p2 p3 z0 z1 z2 z3 sz4
                go_wp2
                exact ⟨⟨l + 1, p2', by omega, by go_num, G3, HL3, B5, C5, P5⟩, by simp only [intOf]; omega⟩
              · have d2 := Lib.hid (fun w => l02Pose_any p2' false ⟨fun h => (by cases h), fun h => absurd h g3⟩ w)
                obtain rfl : b = false := bool_false HL.out (by
                  rw [show r - l = (r - (l + 1)) + 1 by omega]
                  simp only [OkRun]
                  rw [← HP2.out]
                  exact fun h => g3 h.1.1)
                clear g3 HL
                go_wp2_with fail
                refine (d2.out _).mono ?_
                rintro e w4 ⟨rfl, hw4⟩
                have B5 : Hid (Below w.heap.size w w4) := B4.out.trans (by rw [hw4]; exact (Below.refl _ _).alloc (by rw [sz4]; omega) _)
                clear hw4 P3 C3 B4 p0 p1 p2 p3 z0 z1 z2 z3 sz4
                go_wp2
                go_ret
                exact ⟨rfl, B5.out⟩
            · obtain rfl : l = r := by omega
              have HE : Hid (b = true ↔ OkRest p' (m + l) (cs.drop (k + 1))) := by
                have := HL.out
                simp only [Nat.sub_self, OkRun, runsP, true_and] at this
                exact this
              clear HL e1 e2 p0 p1 p2 p3 z0 z1 z2 z3
              go_wp2
              exact ⟨⟨k + 1, m + l, p', by omega, by go_num, rfl, by omega, by omega, OP', HE, B2, P2⟩, by simp only [intOf]; omega⟩
        · have d2 := Lib.hid (fun w => l02Turn_any c.b c.s false ⟨fun h => (by cases h), fun h => absurd h g2⟩ w)
          obtain rfl : b = false := bool_false HR'.out (fun h => g2 h.2.1)
          clear g1 g2 HR'
          go_wp2_with fail
          refine (d1.out _).mono ?_
          rintro e w3 ⟨rfl, rfl⟩
          go_wp2_with fail
          refine (d2.out _).mono ?_
          rintro e w3 ⟨rfl, rfl⟩
          go_wp2
          go_ret
          exact ⟨rfl, B.out.alloc hsz _⟩
      · have d1 := Lib.hid (fun w => in_any c.r 1 (60 - m) false ⟨fun h => (by cases h), fun h => absurd h g1⟩ w)
        obtain rfl : b = false := bool_false HR'.out (fun h => g1 h.1)
        clear g1 HR'
        go_wp2_with fail
        refine (d1.out _).mono ?_
        rintro e w3 ⟨rfl, rfl⟩
        go_wp2
        go_ret
        exact ⟨rfl, B.out.alloc hsz _⟩
    · obtain rfl : k = n := by omega
      obtain rfl : b = true := HR.out.mpr (by rw [List.drop_of_length_le (by have := HN.out; omega)]; trivial)
      go_wp2
      go_ret
      exact ⟨rfl, B.out⟩

set_option maxRecDepth 100000 in
set_option maxHeartbeats 1000000 in
theorem l02Is_no (A : Nat) (t : TypeId) (q : Ps) (a : Option Addr) (cap n : Nat) (w : World) (hA : w.heap[A]? = some (.cells #[.int .i64 q.s, .int .i64 q.h, .int .i64 q.y, .int .i64 q.p, .slice a n cap] t (0, 0)))
    (hn : n ≤ 1048576) (h : OkP q → ¬ (1 ≤ (n : Int) ∧ (n : Int) ≤ 8)) :
    Calls Try.prog 64 #[.pointer (some ⟨A, 0, none⟩)] w fun e w' => e = .returned (.bool false) ∧ Below w.heap.size w w' := by
  obtain ⟨⟨a0, a1, a2, a3, a4⟩, lA⟩ := boxA_at hA
  clear hA
  by_cases h1 : OkP q
  · have c1 := Lib.hid (fun w => l02Pose_any q true ⟨fun _ => h1, fun _ => rfl⟩ w)
    have c2 := Lib.hid (fun w => in_any n 1 8 false ⟨fun e => (by cases e), fun e => absurd e (h h1)⟩ w)
    clear h1 h
    go_enter Try.func64, Try.ntmps64
    go_wp2_with fail
    refine (c1.out _).mono ?_
    rintro e w1 ⟨rfl, rfl⟩
    go_wp2_with fail
    refine (c2.out _).mono ?_
    rintro e w1 ⟨rfl, rfl⟩
    go_wp2
    go_ret
    exact ⟨rfl, by go_grown⟩
  · have c1 := Lib.hid (fun w => l02Pose_any q false ⟨fun e => (by cases e), fun e => absurd e h1⟩ w)
    clear h1 h
    go_enter Try.func64, Try.ntmps64
    go_wp2_with fail
    refine (c1.out _).mono ?_
    rintro e w1 ⟨rfl, rfl⟩
    go_wp2
    go_ret
    exact ⟨rfl, by go_grown⟩

theorem l02Is_any (A : Nat) (t : TypeId) (q : Ps) (a : Option Addr) (cap : Nat) (cs : List Cv) (w : World) (hA : w.heap[A]? = some (.cells #[.int .i64 q.s, .int .i64 q.h, .int .i64 q.y, .int .i64 q.p, .slice a cs.length cap] t (0, 0)))
    (hc : RdS 3 encCv w (.slice a cs.length cap) cs) (lz : cs.length ≤ 1048576) (b : Bool) (hb : b = true ↔ OkA q cs) :
    Calls Try.prog 64 #[.pointer (some ⟨A, 0, none⟩)] w fun e w' => e = .returned (.bool b) ∧ Below w.heap.size w w' := by
  by_cases h : OkP q ∧ (1 ≤ (cs.length : Int) ∧ (cs.length : Int) ≤ 8)
  · exact l02Is_main A t q a cap cs w hA hc b (by rw [hb]; unfold OkA; simp only [h.1, h.2, true_and, and_self]) h.1 h.2
  · obtain rfl : b = false := bool_false hb fun e => h ⟨e.1, e.2.1⟩
    exact l02Is_no A t q a cap cs.length w hA lz fun h1 h2 => h ⟨h1, h2⟩

end Go.Proofs.Ythhnnkgfnhggbaa
