/- The walk of the program's poses of an axis. -/
import Derived.Test.YthhnnkgfnhggbaaSpecPoW
import Derived.OwnWalkIn
namespace Go.Proofs.Ythhnnkgfnhggbaa
open Go.ChangeShapes Go.WideShapes Go.ChangeAt Go.RowKit Go.Shelf
set_option linter.unusedVariables false
set_option linter.unusedSimpArgs false
attribute [local go_sem] Oper.semAt_some

theorem wpListIn_make_whole {F : Fence} {n : Nat} {P : Program} (w : World) {ops : Array Oper} {rest : List Oper} {o : Oper} {a : Act} {Q : Exit → Act → World → Prop}
    (hg : o.guard = none) (l c : Operand) (t : TypeId) (hop : o.op = Op.makeSlice t l c)
    (base : Nat) (e : TypeId) (i : TypeInfo) (z : Value) (size : Nat) (h1 : P.underlying t = some (.slice e)) (h2 : P.info? e = some i) (h3 : i.zero = some z) (h4 : i.size = size)
    (kl kc : IntKind) (L C : Int) (m : Nat) (hl : a.eval l = .int kl L) (hc : a.eval c = .int kc C) (hL : L = (m : Int)) (hC : C = (m : Int)) (b2 : i.bytes * m ≤ 281474976710656) (b3 : m ≤ maxLen) (b4 : base ≤ w.heap.size)
    (hK : ∀ w', w'.ownsRow base e size (.slice (some ⟨w.heap.size, 0, none⟩) m m) m (madeCells z.cells (m * size)).toList → w.grownBy w' none → wpListIn F n P ops Q rest (a.put o.dst (.slice (some ⟨w.heap.size, 0, none⟩) m m)) w') :
    wpListIn F n P ops Q (o :: rest) a w := by
  refine wpListIn_plain hg fun K hK' => ?_
  subst hL
  subst hC
  obtain ⟨w', hrun, r1, r2⟩ := run_make_full (P := P) w base t e i z size h1 h2 h3 h4 kl kc m b2 b3 b4
  unfold Oper.wpIn
  constructor
  · simp [Oper.about, hop]
  · rw [Oper.semAt_plain F _ _ (by rw [hop]; intro c hc'; cases hc')]
    simp [execOp, hop, hl, hc, hrun, Result.andThen]
    exact hK' _ _ (hK w' r1 r2)

theorem restP_length (cs : List Cv) : ∀ (m : Int) (p : Ps), (restP m p cs).length = (turnsC cs).length := by
  induction cs with
  | nil => intro m p; rfl
  | cons c cs ih =>
    intro m p
    have e : turnsC (c :: cs) = List.replicate c.r.toNat ⟨1, c.b, c.s⟩ ++ turnsC cs := by simp [turnsC]
    rw [e, restP, List.length_append, List.length_append, seqP_length, List.length_replicate, ih]
theorem allP_length (q : Ps) (cs : List Cv) : (allP q cs).length = (turnsC cs).length + 1 := by rw [allP, List.length_cons, restP_length]

/-- A pose is written whole into an own slice. -/
theorem OwnS.putPs {t : TypeId} {w : World} {B g cap n : Nat} {xs : List Ps} (hn : n = xs.length) (h : OwnS t 4 encPs w B (.slice (some ⟨g, 0, none⟩) n cap) xs) (i : Nat) (z : Ps) (hz : xs[i]? = some z) (x : Ps) :
    OwnS t 4 encPs ((((w.setCell ⟨g, i * 4, none⟩ (.int .i64 x.s)).setCell ⟨g, i * 4 + 1, none⟩ (.int .i64 x.h)).setCell ⟨g, i * 4 + 2, none⟩ (.int .i64 x.y)).setCell ⟨g, i * 4 + 3, none⟩ (.int .i64 x.p)) B (.slice (some ⟨g, 0, none⟩) n cap) (xs.set i x) := by
  have hi : i < xs.length := (List.getElem?_eq_some_iff.1 hz).1
  have s0 := h.stored1 encPs_len hn i 0 z ⟨x.s, z.h, z.y, z.p⟩ (.int .i64 x.s) hz (by omega) rfl
  have s1 := s0.stored1 encPs_len (by rw [List.length_set]; exact hn) i 1 ⟨x.s, z.h, z.y, z.p⟩ ⟨x.s, x.h, z.y, z.p⟩ (.int .i64 x.h) (by rw [List.getElem?_set_self hi]) (by omega) rfl
  rw [List.set_set] at s1
  have s2 := s1.stored1 encPs_len (by rw [List.length_set]; exact hn) i 2 ⟨x.s, x.h, z.y, z.p⟩ ⟨x.s, x.h, x.y, z.p⟩ (.int .i64 x.y) (by rw [List.getElem?_set_self hi]) (by omega) rfl
  rw [List.set_set] at s2
  have s3 := s2.stored1 encPs_len (by rw [List.length_set]; exact hn) i 3 ⟨x.s, x.h, x.y, z.p⟩ x (.int .i64 x.p) (by rw [List.getElem?_set_self hi]) (by omega) rfl
  rw [List.set_set] at s3
  exact s3

def zPs : Ps := ⟨0, 0, 0, 0⟩

set_option maxRecDepth 100000 in
set_option maxHeartbeats 4000000 in
theorem implPoses_yes (q : Ps) (v : Value) (cs : List Cv) (w : World) (hc : RdS 3 encCv w v cs) (lz : cs.length ≤ 1048576) (h : OkA q cs) :
    Calls Try.prog 14 #[(.agg #[.int .i64 q.s, .int .i64 q.h, .int .i64 q.y, .int .i64 q.p, v])] w fun e w' => ∃ v', e = .returned (.tuple #[v', .bool true]) ∧ OwnS 25 4 encPs w' w.heap.size v' (posesTo q (turnsC cs) ((turnsC cs).length + 1)) ∧ Below w.heap.size w w' := by
  obtain ⟨i0, hi, hz0, hz1, hz2⟩ := info_parts info_Ps'
  have HC := Lib.hid hc
  obtain ⟨a, cap, rfl, _⟩ := hc
  have H := Lib.hid h
  have hp := h.parts
  have HP := Lib.hid hp
  have tl := turnsC_len cs hp.2.2.1
  have c1 := Lib.hid (fun (i : Nat) w (hr : RdS 3 encCv w (.slice a cs.length cap) cs) => callsIn_wide (n := i).2 (implRingsOf_any q _ cs w hr lz _ true ⟨fun _ => h, fun _ => rfl⟩ rfl))
  rw [if_pos rfl] at c1
  obtain ⟨T, hT⟩ : ∃ T, T = (turnsC cs).length := ⟨_, rfl⟩
  rw [← hT] at tl
  rw [← tl] at c1
  have HT := Lib.hid hT
  have t60 : T ≤ 60 := by omega
  clear h hp tl hT
  refine (callsIn_wide (n := 5)).1 ?_
  refine callsIn_of_wp_marks Try.func14 rfl trivial ?_ rfl
  simp only [Try.ntmps14, List.size_toArray, List.length_cons, List.length_nil, Nat.reduceAdd, Nat.reduceSub, Array.replicate_succ, Array.replicate_zero, List.push_toArray, List.append_toArray, List.nil_append, List.cons_append]
  gi_wp2_with fail
  refine ⟨trivial, (c1.out _ _ (HC.out.later (by go_grown))).mono ?_⟩
  rintro e w1 ⟨rfl, b1⟩
  have n1 := (b1.block w.heap.size (by simp only [World.size_alloc]; omega)).trans (heap_alloc_new w _)
  have B1 : Below w.heap.size w w1 := Below.trans (by go_grown) (b1.mono (by simp only [World.size_alloc]; omega))
  have z1 := b1.size
  simp only [World.size_alloc] at z1
  have q1 : IntKind.i64.wrap ((T : Int) + 1) = (T : Int) + 1 := IntWalk.i64_in _ (by omega)
  clear b1 c1
  gi_wp2_with (gi_at_make; refine wpListIn_make_whole _ rfl _ _ _ rfl w1.heap.size 25 i0 _ 4 Try.underlying32 hi hz0 hz1 .i64 .i64 _ _ (T + 1) rfl rfl (by omega) (by omega) ?b2 ?b3 (Nat.le_refl _) ?_)
  case b2 => rw [hz2]; omega
  case b3 => unfold maxLen; omega
  intro w2 hown hg
  have n2 := (hg.block w.heap.size (by omega) (by simp)).trans n1
  have B2 : Below w.heap.size w w2 := B1.grown hg (by omega) (fun k e => by cases e)
  rw [made_flat (enc := encPs) encPs_len (by omega) zPs #[.int .i64 0, .int .i64 0, .int .i64 0, .int .i64 0] rfl] at hown
  have O2 : OwnS 25 4 encPs w2 w1.heap.size (.slice (some ⟨w1.heap.size, 0, none⟩) (T + 1) (T + 1)) (List.replicate (T + 1) zPs) := by unfold OwnS; rw [List.length_replicate]; exact hown
  have z2 := (O2.lt w1.heap.size rfl).2
  obtain ⟨⟨a0, a1, a2, a3, a4⟩, l2⟩ := boxA_at n2
  have HO2 := Lib.hid O2
  have HB2 := Lib.hid B2
  clear hown hg n1 B1 O2 B2 n2
  gi_wp2_with fail
  refine ⟨trivial, (callsIn_wide.2 (poses_any q _ _)).mono ?_⟩
  rintro e w3 ⟨rfl, hw3⟩
  rw [World.size_alloc]
  have x3 : w3.heap[w2.heap.size]? = some (.cells #[.slice (some ⟨w1.heap.size, 0, none⟩) (T + 1) (T + 1)] 32) := by rw [hw3]; exact heap_alloc2_old w2 _ _
  have A3 : w3.heap[w2.heap.size + 1]? = some (.cells #[.int .i64 q.s, .int .i64 q.h, .int .i64 q.y, .int .i64 q.p, .slice a cs.length cap] 28) := by rw [hw3]; exact heap_alloc2_new w2 _ _
  have B3 : Below w.heap.size w w3 := by rw [hw3]; have := HB2.out; go_grown
  have O3 : OwnS 25 4 encPs w3 w1.heap.size (.slice (some ⟨w1.heap.size, 0, none⟩) (T + 1) (T + 1)) (List.replicate (T + 1) zPs) := by rw [hw3]; exact (HO2.out.alloc _).alloc _
  have z3 : w3.heap.size = w2.heap.size + 1 + 1 := by rw [hw3]; simp
  obtain ⟨c, hx⟩ : ∃ x, cs[0]? = some x := ⟨_, List.getElem?_eq_getElem (by have := HP.out.1; omega)⟩
  obtain ⟨ba, oa, rfl, e0', e1', e2'⟩ := HC.out.at3 0 c hx
  have la' : ba < w.heap.size := block_lt_of_cell e0'
  clear a0 a1 a2 a3 a4 hw3 HO2 HB2 e0' e1' e2' hx
  gi_wp2_with fail
  refine range_law (F := Fence.wide) rfl (by omega) (gf := 85) (lb := #[.pointer (some ⟨w2.heap.size + 1, 0, none⟩)]) rfl trivial (enters_of Try.func85 (by kernel_rfl) rfl) (encs := encNP) (fun _ => rfl) (allP q cs) (fun s => ∀ y ∈ s, OkP y.2) (fun k => k = w1.heap.size) (fun k e => by omega) ?seq
    (fun s W => s <+: allP q cs ∧ OwnS 25 4 encPs W w1.heap.size (.slice (some ⟨w1.heap.size, 0, none⟩) (T + 1) (T + 1)) (posesTo q (turnsC cs) s.length ++ List.replicate (T + 1 - s.length) zPs) ∧ W.heap[w2.heap.size]? = some (.cells #[.slice (some ⟨w1.heap.size, 0, none⟩) (T + 1) (T + 1)] 32) ∧ Below w.heap.size w W)
    (fun _ _ => False)
    (fun s A h y hy => ((okA_iff q cs).mp H.out).2 y (h.1.subset hy)) ?hI (fun _ _ _ h _ => h) ⟨List.nil_prefix, by simpa [posesTo] using O3, x3, B3⟩ ?round ?done (fun _ _ _ _ _ h _ => h.elim)
  case seq =>
    intro l J Jx W1 hb hl hl2 hOk hJ hJx hY h0
    have := hb.size
    exact poses_gives _ (by omega) l (w2.heap.size + 1) _ (fun k => k = w1.heap.size ∨ k = l) q _ cap cs HP.out.2.1 HP.out.2.2.1 J Jx W1 (fun k e => by omega) ((hb.block _ (by omega)).trans A3) (by omega) ((HC.out.later B3).later hb) (fun x e => by cases e; show ¬ (ba = _ ∨ ba = l); omega) hOk hJ hJx hY h0
  case hI =>
    rintro s A B ⟨h1, h2, h3, h4⟩ hb
    exact ⟨h1, h2.below hb (fun b e => by have : w1.heap.size = b := Option.some.inj e; omega), (hb.block _ (by omega)).trans h3, h4.trans (hb.mono (by omega))⟩
  case round =>
    rintro l pre ⟨x, p⟩ W hl hl2 ⟨i1, i2, i3, i4⟩ hpre
    simp only [encNP]
    gi_wp2
    refine ⟨(Rest.refl _ _).alloc _, fun W2 r2 => ?_⟩
    obtain ⟨k, hk⟩ : ∃ k, k = pre.length := ⟨_, rfl⟩
    have hlen : k + 1 ≤ T + 1 := by
      have := hpre.length_le
      rw [allP_length, List.length_append, List.length_singleton, ← HT.out, ← hk] at this
      exact this
    have hxp : x = (k : Int) ∧ p = poseN q ((turnsC cs).take k) := by
      obtain ⟨rest, hr⟩ := hpre
      have e1 : (allP q cs)[k]? = some (x, p) := by
        rw [← hr, hk, List.append_assoc, List.getElem?_append_right (Nat.le_refl _), Nat.sub_self]
        rfl
      have e2 := allP_get q cs HP.out.2.2.1 k (by have := HT.out; omega)
      rw [e1] at e2
      have e3 := Option.some.inj e2
      exact ⟨congrArg Prod.fst e3, congrArg Prod.snd e3⟩
    obtain ⟨rfl, hp⟩ := hxp
    have bW : Below w3.heap.size W W2 := (((Below.refl _ W).alloc (by omega) _).trans (r2.below (by rw [World.size_alloc]; omega) (fun k e => by omega)))
    have PB := (r2.block W.heap.size (by simp) (by omega)).trans (heap_alloc_new W _)
    obtain ⟨⟨p0, p1, p2, p3⟩, -, lP⟩ := boxPs_at PB
    have x4 := (bW.block w2.heap.size (by omega)).trans i3
    have y0 : W2.cell? ⟨w2.heap.size, 0, none⟩ = some (.slice (some ⟨w1.heap.size, 0, none⟩) (T + 1) (T + 1)) := cell_of_row W2 _ 0 _ _ _ x4
    have O4 : OwnS 25 4 encPs W2 w1.heap.size (.slice (some ⟨w1.heap.size, 0, none⟩) (T + 1) (T + 1)) (posesTo q (turnsC cs) k ++ List.replicate (T + 1 - k) zPs) := by rw [hk]; exact i2.below bW (fun b e => by have : w1.heap.size = b := Option.some.inj e; omega)
    have B4 : Below w.heap.size w W2 := i4.trans (bW.mono (by omega))
    have ln : T + 1 = (posesTo q (turnsC cs) k ++ List.replicate (T + 1 - k) zPs).length := by rw [List.length_append, posesTo_length, List.length_replicate]; omega
    have gz : (posesTo q (turnsC cs) k ++ List.replicate (T + 1 - k) zPs)[k]? = some zPs := by
      rw [List.getElem?_append_right (by rw [posesTo_length]; omega), posesTo_length, Nat.sub_self, List.getElem?_replicate, if_pos (by omega)]
    have c0 : W2.cell? ⟨w1.heap.size, k * 4, none⟩ = some (.int .i64 0) := O4.cellAt encPs_len ln k _ gz 0 _ rfl
    have c1 : W2.cell? ⟨w1.heap.size, k * 4 + 1, none⟩ = some (.int .i64 0) := O4.cellAt encPs_len ln k _ gz 1 _ rfl
    have c2 : W2.cell? ⟨w1.heap.size, k * 4 + 2, none⟩ = some (.int .i64 0) := O4.cellAt encPs_len ln k _ gz 2 _ rfl
    have c3 : W2.cell? ⟨w1.heap.size, k * 4 + 3, none⟩ = some (.int .i64 0) := O4.cellAt encPs_len ln k _ gz 3 _ rfl
    have f0 : W2.frozen? ⟨w1.heap.size, k * 4, none⟩ = false := O4.frozenAt ln _
    have f1 : W2.frozen? ⟨w1.heap.size, k * 4 + 1, none⟩ = false := O4.frozenAt ln _
    have f2 : W2.frozen? ⟨w1.heap.size, k * 4 + 2, none⟩ = false := O4.frozenAt ln _
    have f3 : W2.frozen? ⟨w1.heap.size, k * 4 + 3, none⟩ = false := O4.frozenAt ln _
    have O5 : Hid (OwnS 25 4 encPs ((((W2.setCell ⟨w1.heap.size, k * 4, none⟩ (.int .i64 p.s)).setCell ⟨w1.heap.size, k * 4 + 1, none⟩ (.int .i64 p.h)).setCell ⟨w1.heap.size, k * 4 + 2, none⟩ (.int .i64 p.y)).setCell ⟨w1.heap.size, k * 4 + 3, none⟩ (.int .i64 p.p)) w1.heap.size (.slice (some ⟨w1.heap.size, 0, none⟩) (T + 1) (T + 1)) (posesTo q (turnsC cs) (k + 1) ++ List.replicate (T + 1 - (k + 1)) zPs)) := by
      have e := O4.putPs ln k zPs gz p
      rw [List.set_append_right _ _ (by rw [posesTo_length]; omega), posesTo_length, Nat.sub_self, show T + 1 - k = (T + 1 - (k + 1)) + 1 by omega, List.replicate_succ, List.set_cons_zero] at e
      show OwnS _ _ _ _ _ _ _
      rw [posesTo_succ, ← hp, List.append_assoc]
      exact e
    have R5 : Hid (Rest (fun k => k = w1.heap.size) W2 ((((W2.setCell ⟨w1.heap.size, k * 4, none⟩ (.int .i64 p.s)).setCell ⟨w1.heap.size, k * 4 + 1, none⟩ (.int .i64 p.h)).setCell ⟨w1.heap.size, k * 4 + 2, none⟩ (.int .i64 p.y)).setCell ⟨w1.heap.size, k * 4 + 3, none⟩ (.int .i64 p.p))) := ((((Rest.refl (fun k => k = w1.heap.size) W2).setCell (p := ⟨w1.heap.size, k * 4, none⟩) rfl _).setCell (p := ⟨w1.heap.size, k * 4 + 1, none⟩) rfl _).setCell (p := ⟨w1.heap.size, k * 4 + 2, none⟩) rfl _).setCell (p := ⟨w1.heap.size, k * 4 + 3, none⟩) rfl _
    have X5 : Hid (((((W2.setCell ⟨w1.heap.size, k * 4, none⟩ (.int .i64 p.s)).setCell ⟨w1.heap.size, k * 4 + 1, none⟩ (.int .i64 p.h)).setCell ⟨w1.heap.size, k * 4 + 2, none⟩ (.int .i64 p.y)).setCell ⟨w1.heap.size, k * 4 + 3, none⟩ (.int .i64 p.p)).heap[w2.heap.size]? = some (.cells #[.slice (some ⟨w1.heap.size, 0, none⟩) (T + 1) (T + 1)] 32)) := (R5.out.block _ (by have := bW.size; omega) (by omega)).trans x4
    have B5 : Hid (Below w.heap.size w ((((W2.setCell ⟨w1.heap.size, k * 4, none⟩ (.int .i64 p.s)).setCell ⟨w1.heap.size, k * 4 + 1, none⟩ (.int .i64 p.h)).setCell ⟨w1.heap.size, k * 4 + 2, none⟩ (.int .i64 p.y)).setCell ⟨w1.heap.size, k * 4 + 3, none⟩ (.int .i64 p.p))) := B4.trans (R5.out.below (by have := B4.size; omega) (fun k e => by omega))
    have lk : (k : Int) < ((T + 1 : Nat) : Int) := by omega
    have lk2 : (k : Int) < (T : Int) + 1 := by omega
    have lk3 : k < T + 1 := by omega
    have HPre := Lib.hid hpre
    have HK := Lib.hid hk
    clear PB x4 O4 B4 ln gz i1 i2 i3 i4 r2 bW hpre hk hp hlen
    gi_wp2
    refine ⟨R5.out, HPre.out, ?_, X5.out, B5.out⟩
    rw [List.length_append, List.length_singleton, ← HK.out]
    exact O5.out
  case done =>
    rintro D W hD ⟨i1, i2, i3, i4⟩ hK
    have y0 : W.cell? ⟨w2.heap.size, 0, none⟩ = some (.slice (some ⟨w1.heap.size, 0, none⟩) (T + 1) (T + 1)) := cell_of_row W _ 0 _ _ _ i3
    have O6 : Hid (OwnS 25 4 encPs W w1.heap.size (.slice (some ⟨w1.heap.size, 0, none⟩) (T + 1) (T + 1)) (posesTo q (turnsC cs) ((turnsC cs).length + 1))) := by
      rw [allP_length, ← HT.out, Nat.sub_self, List.replicate_zero, List.append_nil] at i2
      rw [← HT.out]
      exact i2
    clear i1 i2 i3
    gi_wp2
    refine ⟨by simp, .inl ⟨_, _, rfl, run_takeDeferred hK, ?_⟩⟩
    have rD : Rest (fun k => k = D) W (W.putObj D (.deferred none)) := Rest.putObj (Wr := fun k => k = D) (Rest.refl _ _) rfl _
    refine ⟨_, results_tmp2 rfl _ _ _, _, rfl, ?_, i4.trans (rD.below i4.size (fun k e => by omega))⟩
    refine OwnS.mono ?_ (show w.heap.size ≤ w1.heap.size by omega)
    exact O6.out.below (rD.below (B := D) (Nat.le_of_lt (Array.getElem?_eq_some_iff.1 hK).1) (fun k e => by omega)) (fun b e => by have : w1.heap.size = b := Option.some.inj e; omega)
end Go.Proofs.Ythhnnkgfnhggbaa
