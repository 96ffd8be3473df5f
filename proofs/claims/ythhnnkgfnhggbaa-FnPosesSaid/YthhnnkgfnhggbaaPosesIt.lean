/- The program's iterator over the poses of an axis. -/
import Derived.Test.YthhnnkgfnhggbaaImplIt
import Derived.Test.YthhnnkgfnhggbaaIter
import Derived.OwnWalkIn
import Derived.TacticsInMore
import Derived.LoopNIn
import Derived.LoopIn
namespace Go.Proofs.Ythhnnkgfnhggbaa
open Go.ChangeShapes Go.WideShapes Go.ChangeAt Go.RowKit Go.Shelf
set_option linter.unusedVariables false
set_option linter.unusedSimpArgs false
attribute [local go_sem] Oper.semAt_some

/-- The poses of rings with the same turn, with their numbers. -/
def seqP (m : Int) (p : Ps) (b s : Int) : Nat → List (Int × Ps)
  | 0 => []
  | n + 1 => (m + 1, stepP p b s) :: seqP (m + 1) (stepP p b s) b s n
def restP (m : Int) (p : Ps) : List Cv → List (Int × Ps)
  | [] => []
  | c :: cs => seqP m p c.b c.s c.r.toNat ++ restP (m + c.r) (runsP p c.b c.s c.r.toNat) cs
def allP (q : Ps) (cs : List Cv) : List (Int × Ps) := (0, q) :: restP 0 q cs
def encNP (x : Int × Ps) : Array Value := #[.int .i64 x.1, (.agg #[.int .i64 x.2.s, .int .i64 x.2.h, .int .i64 x.2.y, .int .i64 x.2.p])]

theorem Rest.cell {Wr : Nat → Prop} {a b : World} (h : Rest Wr a b) {p : Addr} (hp : p.block < a.heap.size) (hn : ¬ Wr p.block) : b.cell? p = a.cell? p := World.cell?_of_block (w := a) (h.block p.block hp hn)

theorem Rest.onto {Wr : Nat → Prop} {a b c : World} (h : Rest Wr a b) (k : Below a.heap.size b c) : Rest Wr a c :=
  ⟨k.os.trans h.os, k.tape.trans h.tape, k.output.trans h.output, Nat.le_trans h.size k.size, fun i hi hn => (k.block i hi).trans (h.block i hi hn)⟩

theorem seqP_succ (m : Int) (p : Ps) (b s : Int) (n : Nat) : seqP m p b s (n + 1) = (m + 1, stepP p b s) :: seqP (m + 1) (stepP p b s) b s n := rfl

set_option maxRecDepth 100000 in
set_option maxHeartbeats 4000000 in
theorem poses_gives (n : Nat) (hn : 1 ≤ n) (l A : Nat) (t : TypeId) (Wr : Nat → Prop) (q : Ps) (a : Option Addr) (cap : Nat) (cs : List Cv) (lz : cs.length ≤ 8) (hall : ∀ c ∈ cs, OkCv c) (J Jx : List (Int × Ps) → World → Prop) (W : World)
    (hWr : ∀ k, Wr k → k < W.heap.size) (hA : W.heap[A]? = some (.cells #[.int .i64 q.s, .int .i64 q.h, .int .i64 q.y, .int .i64 q.p, .slice a cs.length cap] t (0, 0))) (hAW : ¬ Wr A)
    (hc : RdS 3 encCv W (.slice a cs.length cap) cs) (hcW : ∀ x, a = some x → ¬ Wr x.block)
    (hOk : ∀ s A, J s A → ∀ y ∈ s, OkP y.2) (hJ : ∀ s A B, J s A → Below W.heap.size A B → J s B) (hJx : ∀ s A B, Jx s A → Below W.heap.size A B → Jx s B)
    (hY : ∀ pre x W2, J pre W2 → pre ++ [x] <+: allP q cs → YieldAt Fence.wide (n - 1) Try.prog l (encNP x) W2 fun e W' =>
      (e = .returned (.bool true) ∧ J (pre ++ [x]) W' ∧ Rest Wr W2 W') ∨ (e = .returned (.bool false) ∧ Jx (pre ++ [x]) W'))
    (h0 : J [] W) :
    CallsIn Fence.wide n Try.prog 85 (#[.func (.yield l) #[] #[]] ++ #[.pointer (some ⟨A, 0, none⟩)]) W fun e W' => (∃ v, e = .returned v) ∧ (J (allP q cs) W' ∨ ∃ pre, pre <+: allP q cs ∧ Jx pre W') := by
  obtain ⟨⟨a0, a1, a2, a3, a4⟩, lA⟩ := boxA_at hA
  refine callsIn_of_wp Try.func85 rfl trivial ?_ rfl
  simp only [Try.ntmps85, List.size_toArray, List.length_cons, List.length_nil, Nat.reduceAdd, Nat.reduceSub, Array.replicate_succ, Array.replicate_zero, List.push_toArray, List.append_toArray, List.nil_append, List.cons_append]
  have hJ1 := hJ _ _ (W.alloc (.cells #[.int .i64 q.s, .int .i64 q.h, .int .i64 q.y, .int .i64 q.p] 25)) h0 (by go_grown)
  obtain ⟨fn, tmps, assign, body, hy, hR⟩ := hY [] (0, q) _ hJ1 ⟨restP 0 q cs, rfl⟩
  simp only [encNP] at hy
  have HA := Lib.hid hA
  have HC := Lib.hid hc
  have HY := Lib.hid hY
  have HJ := Lib.hid hJ
  have HX := Lib.hid hJx
  have HO := Lib.hid hOk
  have HW := Lib.hid hWr
  have HAll := Lib.hid hall
  have HcW := Lib.hid hcW
  have HAW := Lib.hid hAW
  clear hA hc hY hJ hJx hOk hWr hall hcW hAW h0 hJ1
  gi_wp2
  refine hR.mono ?_
  clear hR hy
  rintro e W3 (⟨rfl, hJ3, hk3⟩ | ⟨rfl, hJx3⟩)
  · have P3 : Hid (W3.heap[W.heap.size]? = some (.cells #[.int .i64 q.s, .int .i64 q.h, .int .i64 q.y, .int .i64 q.p] 25 (0, 0))) := (hk3.block _ (by simp) (fun h => absurd (HW.out _ h) (by omega))).trans (heap_alloc_new W _)
    have R3 : Hid (Rest Wr W W3) := ((Rest.refl Wr W).alloc _).trans hk3
    have A3 := (R3.out.cell (p := ⟨A, 4, none⟩) lA HAW.out).trans a4
    have l3 : W.heap.size < W3.heap.size := by have := hk3.size; simp at this; omega
    have O3 : Hid (OkP q) := HO.out _ _ hJ3 (0, q) (by simp)
    have J3 : Hid (J [(0, q)] W3) := hJ3
    clear hJ3 hk3 a0 a1 a2 a3 a4
    obtain ⟨N, hN⟩ : ∃ N, N = cs.length := ⟨_, rfl⟩
    rw [← hN] at A3 lz HC
    have HN := Lib.hid hN
    clear hN
    gi_wp2
    gi_loopw [17, 4] (fun i mv wr => ∃ (k : Nat) (m : Int) (p : Ps) (pre : List (Int × Ps)), k ≤ N ∧ i = .int .i64 k ∧ mv = .int .i64 m ∧ 0 ≤ m ∧ m ≤ 60 * k ∧ Hid (OkP p) ∧ Hid (allP q cs = pre ++ restP m p (cs.drop k)) ∧ Hid (J pre wr) ∧ Hid (Rest Wr W wr) ∧ W.heap.size < wr.heap.size ∧ Hid (wr.heap[W.heap.size]? = some (.cells #[.int .i64 p.s, .int .i64 p.h, .int .i64 p.y, .int .i64 p.p] 25 (0, 0)))) (fun i _ _ => N - (intOf i).toNat)
    case atStart => exact ⟨0, 0, q, [(0, q)], by omega, rfl, rfl, by omega, by omega, O3, rfl, J3, R3, l3, P3⟩
    case round =>
      obtain ⟨k, m, p, pre, hk, rfl, rfl, m0, m1, OP, HP, HJp, R, lt, PP⟩ := hrel
      clear J3 R3 P3 O3 l3
      by_cases hlt : k < N
      · obtain ⟨c, hx⟩ : ∃ x, cs[k]? = some x := ⟨_, List.getElem?_eq_getElem (by have := HN.out; omega)⟩
        obtain ⟨ba, oa, rfl, e0', e1', e2'⟩ := HC.out.at3 k c hx
        have la := block_lt_of_cell e0'
        have hw : ¬ Wr ba := HcW.out ⟨ba, oa, none⟩ rfl
        have e0 := (R.out.cell (p := ⟨ba, oa + k * 3, none⟩) la hw).trans e0'
        have e1 := (R.out.cell (p := ⟨ba, oa + k * 3 + 1, none⟩) la hw).trans e1'
        have e2 := (R.out.cell (p := ⟨ba, oa + k * 3 + 2, none⟩) la hw).trans e2'
        have hd : cs.drop k = c :: cs.drop (k + 1) := by
          have hl : k < cs.length := by have := HN.out; omega
          rw [List.drop_eq_getElem_cons hl]
          rw [List.getElem?_eq_getElem hl] at hx
          rw [Option.some.inj hx]
        have OC := Lib.hid (HAll.out c (List.mem_of_getElem? hx))
        obtain ⟨r, hr⟩ : ∃ r : Nat, c.r = r := ⟨c.r.toNat, by have := OC.out.1; omega⟩
        have r1 : 1 ≤ r := by have := OC.out.1; omega
        have r2 : r ≤ 60 := by have := OC.out.1; omega
        have HP' : Hid (allP q cs = pre ++ (seqP m p c.b c.s r ++ restP (m + r) (runsP p c.b c.s r) (cs.drop (k + 1)))) := by
          have := HP.out
          rw [hd] at this
          simp only [restP, hr, Int.toNat_natCast] at this
          exact this
        rw [hr] at e0
        clear hx hd e0' e1' e2' HP la hw
        gi_wp2
        have CC : Hid ((wr.alloc (.cells #[.int .i64 r, .int .i64 c.b, .int .i64 c.s] 46)).heap[wr.heap.size]? = some (.cells #[.int .i64 r, .int .i64 c.b, .int .i64 c.s] 46 (0, 0))) := heap_alloc_new wr _
        have PP1 : Hid ((wr.alloc (.cells #[.int .i64 r, .int .i64 c.b, .int .i64 c.s] 46)).heap[W.heap.size]? = some (.cells #[.int .i64 p.s, .int .i64 p.h, .int .i64 p.y, .int .i64 p.p] 25 (0, 0))) := (Below.heap_alloc wr _ _ lt).trans PP.out
        have R1 : Hid (Rest Wr W (wr.alloc (.cells #[.int .i64 r, .int .i64 c.b, .int .i64 c.s] 46))) := R.out.alloc _
        have J1 : Hid (J pre (wr.alloc (.cells #[.int .i64 r, .int .i64 c.b, .int .i64 c.s] 46))) := HJ.out _ _ _ HJp.out ((Below.refl _ _).alloc (by omega) _)
        obtain ⟨wo, hwo⟩ : ∃ x, x = wr := ⟨_, rfl⟩
        subst hwo
        clear PP HJp R e0 e1 e2
        gi_loopw [23, 4] (fun jv mv w2 => ∃ (j : Nat) (p' : Ps) (pre' : List (Int × Ps)), j ≤ r ∧ jv = .int .i64 j ∧ mv = .int .i64 (m + j) ∧ Hid (OkP p') ∧ Hid (allP q cs = pre' ++ (seqP (m + j) p' c.b c.s (r - j) ++ restP (m + r) (runsP p' c.b c.s (r - j)) (cs.drop (k + 1)))) ∧ Hid (J pre' w2) ∧ Hid (Rest Wr W w2) ∧ wo.heap.size < w2.heap.size ∧ Hid (w2.heap[W.heap.size]? = some (.cells #[.int .i64 p'.s, .int .i64 p'.h, .int .i64 p'.y, .int .i64 p'.p] 25 (0, 0))) ∧ Hid (w2.heap[wo.heap.size]? = some (.cells #[.int .i64 r, .int .i64 c.b, .int .i64 c.s] 46 (0, 0)))) (fun jv _ _ => r - (intOf jv).toNat)
        case atStart => exact ⟨0, p, pre, by omega, rfl, by simp, OP, by simpa using HP', J1, R1, by simp, PP1, CC⟩
        case round =>
          obtain ⟨j, p', pre', hj, rfl, rfl, OP', HL, JL, RL, lt2, P2, C2⟩ := hrel
          clear CC PP1 R1 J1 OP HP'
          obtain ⟨⟨p0, p1, p2c, p3⟩, ⟨z0, z1, z2, z3⟩, lP2⟩ := boxPs_at P2.out
          obtain ⟨⟨e0, e1, e2⟩, -, lC2⟩ := boxCv_at (q := ⟨r, c.b, c.s⟩) C2.out
          have n1 : ¬ W.heap.size = wo.heap.size := by omega
          by_cases hlt2 : j < r
          · have d1 := Lib.hid (fun (i : Nat) w => callsIn_wide (n := i).2 (next_any p' c.b c.s (OP'.out.room OC.out.2.1 OC.out.2.2) w))
            obtain ⟨p2, hp2⟩ : ∃ x, x = stepP p' c.b c.s := ⟨_, rfl⟩
            rw [← hp2] at d1
            have HP2 := Lib.hid hp2
            clear hp2
            have lt3 : (j : Int) < r := by omega
            have q1 : IntKind.i64.wrap (m + j + 1) = m + j + 1 := IntWalk.i64_in _ (by omega)
            gi_wp2_with fail
            refine ⟨trivial, (d1.out _ _).mono ?_⟩
            rintro e w3 ⟨rfl, hw3⟩
            have b3 : Below wr.heap.size wr w3 := by rw [hw3]; go_grown
            have PQ := (b3.block _ lP2).trans P2.out
            have CQ := (b3.block _ lC2).trans C2.out
            have sz3 := b3.size
            have b5 : Below W.heap.size wr ((((w3.setCell ⟨W.heap.size, 0, none⟩ (.int .i64 p2.s)).setCell ⟨W.heap.size, 1, none⟩ (.int .i64 p2.h)).setCell ⟨W.heap.size, 2, none⟩ (.int .i64 p2.y)).setCell ⟨W.heap.size, 3, none⟩ (.int .i64 p2.p)) := by have := b3.mono (show W.heap.size ≤ wr.heap.size by omega); go_grown
            have J4 := HJ.out _ _ _ JL.out b5
            have R4 := Lib.hid (RL.out.onto b5)
            have P4 : Hid (((((w3.setCell ⟨W.heap.size, 0, none⟩ (.int .i64 p2.s)).setCell ⟨W.heap.size, 1, none⟩ (.int .i64 p2.h)).setCell ⟨W.heap.size, 2, none⟩ (.int .i64 p2.y)).setCell ⟨W.heap.size, 3, none⟩ (.int .i64 p2.p)).heap[W.heap.size]? = some (.cells #[.int .i64 p2.s, .int .i64 p2.h, .int .i64 p2.y, .int .i64 p2.p] 25 (0, 0))) := boxPs_put PQ p2
            have C4 : Hid (((((w3.setCell ⟨W.heap.size, 0, none⟩ (.int .i64 p2.s)).setCell ⟨W.heap.size, 1, none⟩ (.int .i64 p2.h)).setCell ⟨W.heap.size, 2, none⟩ (.int .i64 p2.y)).setCell ⟨W.heap.size, 3, none⟩ (.int .i64 p2.p)).heap[wo.heap.size]? = some (.cells #[.int .i64 r, .int .i64 c.b, .int .i64 c.s] 46 (0, 0))) := (boxPs_other p2 _ (by omega)).trans CQ
            have sz5 : ((((w3.setCell ⟨W.heap.size, 0, none⟩ (.int .i64 p2.s)).setCell ⟨W.heap.size, 1, none⟩ (.int .i64 p2.h)).setCell ⟨W.heap.size, 2, none⟩ (.int .i64 p2.y)).setCell ⟨W.heap.size, 3, none⟩ (.int .i64 p2.p)).heap.size = w3.heap.size := by simp
            have HL4 : Hid (allP q cs = (pre' ++ [(m + j + 1, p2)]) ++ (seqP (m + j + 1) p2 c.b c.s (r - (j + 1)) ++ restP (m + r) (runsP p2 c.b c.s (r - (j + 1))) (cs.drop (k + 1)))) := by
              have := HL.out
              rw [show r - j = (r - (j + 1)) + 1 by omega] at this
              simp only [seqP, runsP] at this
              rw [← HP2.out] at this
              rw [List.append_assoc]
              exact this
            obtain ⟨fn, tmps, assign, body, hy, hR⟩ := HY.out pre' (m + j + 1, p2) _ J4 ⟨_, HL4.out.symm⟩
            simp only [encNP] at hy
            obtain ⟨⟨p0, p1, p2c, p3⟩, ⟨z0, z1, z2, z3⟩, lP3⟩ := boxPs_at PQ
            clear hw3 b3 b5 J4 PQ CQ P2 C2 e0 e1 e2 HL JL
            gi_wp2
            refine hR.mono ?_
            clear hR hy
            rintro e W4 (⟨rfl, hJ6, hk6⟩ | ⟨rfl, hJx6⟩)
            · have n4 : ¬ Wr W.heap.size := fun h => absurd (HW.out _ h) (by omega)
              have n5 : ¬ Wr wo.heap.size := fun h => absurd (HW.out _ h) (by omega)
              have P6 : Hid (W4.heap[W.heap.size]? = some (.cells #[.int .i64 p2.s, .int .i64 p2.h, .int .i64 p2.y, .int .i64 p2.p] 25 (0, 0))) := (hk6.block _ (by omega) n4).trans P4.out
              have C6 : Hid (W4.heap[wo.heap.size]? = some (.cells #[.int .i64 r, .int .i64 c.b, .int .i64 c.s] 46 (0, 0))) := (hk6.block _ (by omega) n5).trans C4.out
              have R6 : Hid (Rest Wr W W4) := R4.out.trans hk6
              have l6 : wo.heap.size < W4.heap.size := by have := hk6.size; omega
              have O6 : Hid (OkP p2) := HO.out _ _ hJ6 (m + j + 1, p2) (by simp)
              have J6 : Hid (J (pre' ++ [(m + j + 1, p2)]) W4) := hJ6
              have e4 : m + ((j + 1 : Nat) : Int) = m + j + 1 := by omega
              have HL6 : Hid (allP q cs = (pre' ++ [(m + j + 1, p2)]) ++ (seqP (m + ((j + 1 : Nat) : Int)) p2 c.b c.s (r - (j + 1)) ++ restP (m + r) (runsP p2 c.b c.s (r - (j + 1))) (cs.drop (k + 1)))) := by rw [e4]; exact HL4
              clear hJ6 hk6 n4 n5 P4 C4 R4 sz5 p0 p1 p2c p3 z0 z1 z2 z3 HL4
              gi_wp2
              exact ⟨⟨j + 1, p2, pre' ++ [(m + j + 1, p2)], by omega, by go_num, by rw [e4], O6, HL6, J6, R6, l6, P6, C6⟩, by simp only [intOf]; omega⟩
            · have X6 : Hid (Jx (pre' ++ [(m + j + 1, p2)]) W4) := hJx6
              clear hJx6 p0 p1 p2c p3 z0 z1 z2 z3
              gi_wp2
              refine bodyPost_ret (results_none rfl _ _ _) rfl ?_
              exact ⟨⟨_, rfl⟩, .inr ⟨_, ⟨_, HL4.out.symm⟩, X6.out⟩⟩
          · obtain rfl : j = r := by omega
            have HE : Hid (allP q cs = pre' ++ restP (m + j) p' (cs.drop (k + 1))) := by
              have := HL.out
              simp only [Nat.sub_self, seqP, runsP, List.nil_append] at this
              exact this
            clear HL e1 e2 p0 p1 p2c p3 z0 z1 z2 z3
            gi_wp2
            exact ⟨⟨k + 1, m + j, p', pre', by omega, by go_num, rfl, by omega, by push_cast; omega, OP', HE, JL, RL, by omega, P2⟩, by simp only [intOf]; omega⟩
      · obtain rfl : k = N := by omega
        have hall : pre = allP q cs := by
          rw [HP.out, List.drop_of_length_le (by have := HN.out; omega)]
          simp [restP]
        have HJ2 := HJp.out
        rw [hall] at HJ2
        have HJ3 := Lib.hid HJ2
        clear HJ2 hall HP HJp
        gi_wp2
        go_end0
        exact ⟨⟨_, rfl⟩, .inl HJ3.out⟩
  · have X3 : Hid (Jx [(0, q)] W3) := hJx3
    clear hJx3
    gi_wp2
    refine bodyPost_ret (results_none rfl _ _ _) rfl ?_
    exact ⟨⟨_, rfl⟩, .inr ⟨_, ⟨restP 0 q cs, rfl⟩, X3.out⟩⟩
end Go.Proofs.Ythhnnkgfnhggbaa
