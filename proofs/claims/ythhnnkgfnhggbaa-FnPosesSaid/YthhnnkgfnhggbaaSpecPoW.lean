/- The walk of the specification's poses of an axis. -/
import Derived.Test.YthhnnkgfnhggbaaGrown
import Derived.Test.YthhnnkgfnhggbaaSpecPos
import Derived.Deep.RegionHeld3
import Derived.WalkSpells
namespace Go.Proofs.Ythhnnkgfnhggbaa
open Go.ChangeShapes Go.WideShapes Go.ChangeAt Go.RowKit
set_option linter.unusedVariables false
set_option linter.unusedSimpArgs false

theorem info_Ps' : (Try.prog.info? 25).map (fun i => (i.zero, i.size, i.bytes)) = some (some (.agg #[.int .i64 0, .int .i64 0, .int .i64 0, .int .i64 0]), 4, 32) := by kernel_rfl

set_option maxRecDepth 100000 in
set_option maxHeartbeats 4000000 in
theorem l02Poses_any (A : Nat) (t : TypeId) (q : Ps) (v : Value) (cs : List Cv) (w : World) (hA : w.heap[A]? = some (.cells #[.int .i64 q.s, .int .i64 q.h, .int .i64 q.y, .int .i64 q.p, v] t (0, 0)))
    (hc : RdS 3 encCv w v cs) (h : OkA q cs) :
    Calls Try.prog 72 #[.pointer (some ⟨A, 0, none⟩)] w fun e w' => ∃ v', e = .returned v' ∧ OwnS 25 4 encPs w' w.heap.size v' (posesTo q (turnsC cs) ((turnsC cs).length + 1)) ∧ Below w.heap.size w w' := by
  obtain ⟨i0, hi, hz0, hz1, hz2⟩ := info_parts info_Ps'
  obtain ⟨⟨a0, a1, a2, a3, a4⟩, lA⟩ := boxA_at hA
  have hp := h.parts
  have HC := Lib.hid hc
  have HA := Lib.hid hA
  have PO := Lib.hid (fun i (hi : i ≤ (turnsC cs).length) => h.pose i hi)
  have TO := Lib.hid (turnsC_turn cs hp.2.2.1)
  have HL := Lib.hid (turnsC_len cs hp.2.2.1)
  have c1 := Lib.hid (fun w' (hA' : w'.heap[A]? = some (.cells #[.int .i64 q.s, .int .i64 q.h, .int .i64 q.y, .int .i64 q.p, v] t (0, 0))) (hc' : RdS 3 encCv w' v cs) => l02Turns_any A t q v cs w' hA' hc' hp.2.1 hp.2.2.1)
  have l60 : (turnsC cs).length ≤ 60 := by have := HL.out; omega
  generalize turnsC cs = ts at *
  clear hA hc h hp
  go_enter Try.func72, Try.ntmps72
  go_wp2_with fail
  refine (c1.out _ ((Below.heap_alloc w _ A lA).trans HA.out) (HC.out.later (by go_grown))).mono ?_
  rintro e w1 ⟨vt, rfl, o1, b1⟩
  have O1 : Hid (OwnS 25 4 encPs w1 w.heap.size (.slice (some ⟨w.heap.size, 0, none⟩) 1 1) (posesTo q ts (0 + 1))) := by
    have e0 : OwnS 25 4 encPs (w.alloc (.cells #[.int .i64 q.s, .int .i64 q.h, .int .i64 q.y, .int .i64 q.p] 25)) w.heap.size (.slice (some ⟨w.heap.size, 0, none⟩) 1 1) (posesTo q ts (0 + 1)) :=
      World.ownsRow_lit (e := 25) (size := 4) w #[.int .i64 q.s, .int .i64 q.h, .int .i64 q.y, .int .i64 q.p] 1 (Nat.le_refl _) (by decide) rfl
    exact e0.below b1 (fun b e => by have : w.heap.size = b := Option.some.inj e; rw [World.size_alloc]; omega)
  have B1 : Hid (Below w.heap.size w w1) := Below.trans (by go_grown) (b1.mono (by simp))
  have lt1 := o1.lt
  have RT := Lib.hid (o1.rd encCv_len)
  obtain ⟨at', capt, rfl⟩ := o1.form
  obtain ⟨T, hT⟩ : ∃ T, T = ts.length := ⟨_, rfl⟩
  rw [← hT] at l60 RT lt1
  rw [← hT]
  have HT := Lib.hid hT
  have AB : Hid (∀ b, (Value.slice at' T capt).ownBlock = some b → w.heap.size + 1 ≤ b) := by
    intro b e
    have := (lt1 b e).1
    rw [World.size_alloc] at this
    exact this
  clear b1 o1 hT lt1 a0 a1 a2 a3 a4
  go_wp2
  go_loopw [3, 5] (fun u i wr => ∃ (k g cap : Nat), k ≤ T ∧ i = .int .i64 k ∧ u = .slice (some ⟨g, 0, none⟩) (k + 1) cap ∧ Hid (OwnS 25 4 encPs wr w.heap.size u (posesTo q ts (k + 1))) ∧ Hid (Below w.heap.size w wr) ∧ Hid (RdS 3 encCv wr (.slice at' T capt) ts) ∧ Hid (∀ b, (Value.slice at' T capt).ownBlock = some b → g ≠ b)) (fun _ i _ => T - (intOf i).toNat)
  case atStart => exact ⟨0, w.heap.size, 1, by omega, rfl, rfl, O1, B1, RT, fun b e => by have := AB.out b e; omega⟩
  case round =>
    obtain ⟨k, g, cap, hk, rfl, rfl, ho, B, R, NE⟩ := hrel
    clear O1 B1 RT AB
    by_cases hlt : k < T
    · obtain ⟨x, hx⟩ : ∃ x, ts[k]? = some x := ⟨_, List.getElem?_eq_getElem (by have := HT.out; omega)⟩
      obtain ⟨bt, ot, rfl, d0, d1, d2⟩ := R.out.at3 k x hx
      have lbt := block_lt_of_cell d0
      have hpl : k + 1 = (posesTo q ts (k + 1)).length := (posesTo_length _ _ _).symm
      obtain ⟨p, hp⟩ : ∃ p, p = poseN q (ts.take k) := ⟨_, rfl⟩
      have gp : (posesTo q ts (k + 1))[k]? = some p := by rw [hp]; exact posesTo_get q ts (k + 1) k (by omega)
      have OP := Lib.hid (PO.out k (by have := HT.out; omega))
      rw [← hp] at OP
      have hp2 := poseN_succ q ts k x hx
      rw [← hp] at hp2
      have OT := Lib.hid (TO.out x (List.mem_of_getElem? hx))
      have u0 : wr.cell? ⟨g, k * 4, none⟩ = some (.int .i64 p.s) := ho.out.cellAt encPs_len hpl k p gp 0 _ rfl
      have u1 : wr.cell? ⟨g, k * 4 + 1, none⟩ = some (.int .i64 p.h) := ho.out.cellAt encPs_len hpl k p gp 1 _ rfl
      have u2 : wr.cell? ⟨g, k * 4 + 2, none⟩ = some (.int .i64 p.y) := ho.out.cellAt encPs_len hpl k p gp 2 _ rfl
      have u3 : wr.cell? ⟨g, k * 4 + 3, none⟩ = some (.int .i64 p.p) := ho.out.cellAt encPs_len hpl k p gp 3 _ rfl
      have lg := (ho.out.lt g rfl).2
      have wg := (ho.out.lt g rfl).1
      have own := ho.out
      unfold OwnS at own
      rw [posesTo_length] at own
      have OWN : Hid (∀ w', Below wr.heap.size wr w' → w'.ownsRow w.heap.size 25 4 (.slice (some ⟨g, 0, none⟩) (k + 1) cap) (k + 1) ((posesTo q ts (k + 1)).flatMap encPs)) := by
        intro w' hb
        have e := OwnS.later ho.out hb
        unfold OwnS at e
        rw [posesTo_length] at e
        exact e
      have hsz := B.out.size
      have nx := Lib.hid (fun w => l02Next_any p x.b x.s (OP.out.room OT.out.1 OT.out.2) w)
      obtain ⟨p2, hq2⟩ : ∃ y, y = stepP p x.b x.s := ⟨_, rfl⟩
      rw [← hq2] at nx hp2
      have HP2 := Lib.hid hp2
      have KS : Hid (∀ w', Below wr.heap.size wr w' → (w'.cell? ⟨g, k * 4, none⟩ = some (.int .i64 p.s) ∧ w'.cell? ⟨g, k * 4 + 1, none⟩ = some (.int .i64 p.h) ∧ w'.cell? ⟨g, k * 4 + 2, none⟩ = some (.int .i64 p.y) ∧ w'.cell? ⟨g, k * 4 + 3, none⟩ = some (.int .i64 p.p) ∧ w'.cell? ⟨bt, ot + k * 3 + 1, none⟩ = some (.int .i64 x.b) ∧ w'.cell? ⟨bt, ot + k * 3 + 2, none⟩ = some (.int .i64 x.s))) := by
        intro w' hb
        exact ⟨(hb.cell (p := ⟨g, k * 4, none⟩) lg).trans u0, (hb.cell (p := ⟨g, k * 4 + 1, none⟩) lg).trans u1, (hb.cell (p := ⟨g, k * 4 + 2, none⟩) lg).trans u2, (hb.cell (p := ⟨g, k * 4 + 3, none⟩) lg).trans u3, (hb.cell (p := ⟨bt, ot + k * 3 + 1, none⟩) lbt).trans d1, (hb.cell (p := ⟨bt, ot + k * 3 + 2, none⟩) lbt).trans d2⟩
      have FL : Hid (∀ (j : Nat) u, (encPs p)[j]? = some u → ((posesTo q ts (k + 1)).flatMap encPs)[k * 4 + j]? = some u) := fun j u hu => flat_get encPs_len _ k p gp j u hu
      clear own hpl gp hp hp2 hq2 hx d0
      go_wp2
      clear u0 u1 u2 u3 d1 d2
      have NB : Hid (g ≠ bt) := NE.out bt rfl
      have i1 : (0 : Int) ≤ (k : Int) := by omega
      have i2 : (k : Int) < (k : Int) + 1 := by omega
      have i3 : (k : Int) < ((k + 1 : Nat) : Int) := by omega
      have i4 : (k : Int) < (T : Int) := by omega
      have i5 : k < k + 1 := by omega
      go_region_held3 (fun w' => (w'.cell? ⟨g, k * 4, none⟩ = some (.int .i64 p.s) ∧ w'.cell? ⟨g, k * 4 + 1, none⟩ = some (.int .i64 p.h) ∧ w'.cell? ⟨g, k * 4 + 2, none⟩ = some (.int .i64 p.y) ∧ w'.cell? ⟨g, k * 4 + 3, none⟩ = some (.int .i64 p.p) ∧ w'.cell? ⟨bt, ot + k * 3 + 1, none⟩ = some (.int .i64 x.b) ∧ w'.cell? ⟨bt, ot + k * 3 + 2, none⟩ = some (.int .i64 x.s)))
        (first | exact KS.out _ (Below.refl _ _).drew | exact KA.out | exact KS.out _ B7.out | exact KS.out _ (B7.out.alloc B7.out.size _))
        (first
          | (go_at_call 62; refine (nx.out _).mono ?_; rintro e w7 ⟨rfl, hw7⟩; have B7 : Hid (Below wr.heap.size wr w7) := (by rw [hw7]; exact (((Below.refl _ _).drew).alloc (Nat.le_refl _) _).alloc (by simp) _); clear hw7)
          | (refine step_append_kept (by rfl) _ _ _ (by rfl) w.heap.size 25 i0 _ 4 32 Try.underlying32 hi hz0 hz1 hz2 rfl (by omega) g (k + 1) cap _ (by rfl) (World.ownsRow.alloc (OWN.out _ B7.out) _) ⟨w7.heap.size, 0, none⟩ 1 1 [.int .i64 p2.s, .int .i64 p2.h, .int .i64 p2.y, .int .i64 p2.p] (by rfl) (by rfl) (World.news_of_block (cs := #[.int .i64 p2.s, .int .i64 p2.h, .int .i64 p2.y, .int .i64 p2.p]) (t := 25) (fr := (0, 0)) (heap_alloc_new w7 _)) (by simp [Value.oneCell']) (by omega) (by unfold maxLen; omega) (by omega) (by have := B7.out.size; simp; omega) ?_; intro gg cap1 w8 hown1 hgrow hat hlt' hkept; have KA : Hid (w8.cell? ⟨g, k * 4, none⟩ = some (.int .i64 p.s) ∧ w8.cell? ⟨g, k * 4 + 1, none⟩ = some (.int .i64 p.h) ∧ w8.cell? ⟨g, k * 4 + 2, none⟩ = some (.int .i64 p.y) ∧ w8.cell? ⟨g, k * 4 + 3, none⟩ = some (.int .i64 p.p) ∧ w8.cell? ⟨bt, ot + k * 3 + 1, none⟩ = some (.int .i64 x.b) ∧ w8.cell? ⟨bt, ot + k * 3 + 2, none⟩ = some (.int .i64 x.s)) := (by
              have hb := Hid.out B7
              obtain ⟨u0, u1, u2, u3, d1, d2⟩ := KS.out _ hb
              have gb : w7.grownBy w8 (some g) := grownBy_trans' (World.grownBy_alloc w7 _ _) hgrow
              have bl := gb.block bt (by have := hb.size; omega) (fun e => NB.out (Option.some.inj e).symm)
              refine ⟨hkept _ _ (FL.out 0 _ rfl), hkept _ _ (FL.out 1 _ rfl), hkept _ _ (FL.out 2 _ rfl), hkept _ _ (FL.out 3 _ rfl), ?_, ?_⟩
              · exact (World.cell?_of_block (w := w7) (a := ⟨bt, ot + k * 3 + 1, none⟩) bl).trans d1
              · exact (World.cell?_of_block (w := w7) (a := ⟨bt, ot + k * 3 + 2, none⟩) bl).trans d2)))
      have s1 : Hid (OwnS 25 4 encPs w8 w.heap.size (.slice (some ⟨gg, 0, none⟩) (k + 1 + 1) cap1) (posesTo q ts (k + 1 + 1))) := by
        show OwnS _ _ _ _ _ _ _
        unfold OwnS
        rw [posesTo_length, posesTo_succ, HP2.out, List.flatMap_append]
        exact hown1
      have s7 := B7.out.size
      have gb : w7.grownBy w8 (some g) := grownBy_trans' (World.grownBy_alloc w7 _ _) hgrow
      have BW : Hid (Below w.heap.size w w8) := (B.out.trans (B7.out.mono hsz)).grown gb (by omega) (fun j e => by cases e; exact wg)
      have RW : Hid (RdS 3 encCv w8 (.slice (some ⟨bt, ot, none⟩) T capt) ts) := (R.out.later B7.out).grown gb (fun b e e2 => NE.out b e (Option.some.inj e2))
      have NW : Hid (∀ b, (Value.slice (some ⟨bt, ot, none⟩) T capt).ownBlock = some b → gg ≠ b) := by
        intro b e
        rcases hat with h | h
        · rw [h]; exact NE.out b e
        · have e' : bt = b := Option.some.inj e
          rw [h, World.size_alloc]
          omega
      clear hown1 hgrow hat hlt' hkept KA s7 gb OWN ho B R NE KS FL B7 hsz
      go_wp2
      exact ⟨⟨k + 1, gg, cap1, by omega, by go_num, rfl, s1, BW, RW, NW⟩, by simp only [intOf]; omega⟩
    · obtain rfl : k = T := by omega
      have HO : Hid (OwnS 25 4 encPs wr w.heap.size (.slice (some ⟨g, 0, none⟩) (k + 1) cap) (posesTo q ts (ts.length + 1))) := by rw [← HT.out]; exact ho
      clear ho
      go_wp2
      go_ret
      exact ⟨_, rfl, HO.out, B.out⟩
end Go.Proofs.Ythhnnkgfnhggbaa
