/- Grounds: how they are read, what a call owns of them, and what the laws' own helpers do with them. -/
import Derived.Test.YtobfephcmiolbabHoles3
namespace Go.Proofs.Ytobfephcmiolbab
open Go.ChangeShapes Go.WideShapes Go.ChangeAt Go.RowKit
set_option linter.unusedVariables false
set_option linter.unusedSimpArgs false

/-- A ground as it lies in memory: where its densities and its holes are. -/
structure Gu where
  da : Option Addr
  dc : Nat
  d : List Int
  ha : Option Addr
  hc : Nat
  xs : List Hu

def Gu.dv (g : Gu) : Value := .slice g.da g.d.length g.dc
def Gu.hv (g : Gu) : Value := .slice g.ha g.xs.length g.hc
def Gu.tot (g : Gu) : Nat := g.d.length + (g.xs.length + sumT g.xs)
def Gu.same (g k : Gu) : Prop := g.d = k.d ∧ g.xs.map Hu.ho = k.xs.map Hu.ho

theorem Gu.same_refl (g : Gu) : g.same g := ⟨rfl, rfl⟩
theorem Gu.same_symm {g k : Gu} (h : g.same k) : k.same g := ⟨h.1.symm, h.2.symm⟩
theorem Gu.same_trans {g k l : Gu} (h : g.same k) (h' : k.same l) : g.same l := ⟨h.1.trans h'.1, h.2.trans h'.2⟩

theorem sumT_ho {xs ys : List Hu} (h : xs.map Hu.ho = ys.map Hu.ho) : sumT xs = sumT ys := by
  have e : ∀ xs : List Hu, sumT xs = ((xs.map Hu.ho).map fun h => h.t.length).sum := by intro xs; unfold sumT; rw [List.map_map]; rfl
  rw [e, e, h]

theorem Gu.same_tot {g k : Gu} (h : g.same k) : g.tot = k.tot := by
  unfold Gu.tot; rw [h.1, map_ho_len h.2, sumT_ho h.2]

theorem sumT_mem {xs : List Hu} {x : Hu} (h : x ∈ xs) : x.t.length ≤ sumT xs := by
  induction xs with
  | nil => simp at h
  | cons y ys ih =>
    have e : sumT (y :: ys) = y.t.length + sumT ys := by simp [sumT]
    rcases List.mem_cons.mp h with rfl | h
    · omega
    · have := ih h; omega

structure RdG (w : World) (g : Gu) : Prop where
  dens : RdI w g.dv g.d
  holes : RdH w g.hv g.xs

theorem RdG.later {w w' : World} {g : Gu} (h : RdG w g) (hb : Below w.heap.size w w') : RdG w' g := ⟨h.dens.later hb, h.holes.later hb⟩

/-- A ground of the call's own, in the blocks from B to C. -/
structure OwnG (w : World) (B C : Nat) (g : Gu) : Prop where
  dens : OwnI w B g.dv g.d
  db : ∀ k, g.dv.ownBlock = some k → k < C
  holes : OwnH w B C g.hv g.xs
  apart : ∀ x ∈ g.xs, ∀ k, g.dv.ownBlock = some k → x.u.ownBlock ≠ some k

theorem OwnG.rd {w : World} {B C : Nat} {g : Gu} (h : OwnG w B C g) : RdG w g := ⟨h.dens.rd, h.holes.rd⟩
theorem OwnG.of_blocks {w w' : World} {B C : Nat} {g : Gu} (h : OwnG w B C g) (hs : w.heap.size ≤ w'.heap.size) (hb : ∀ k, B ≤ k → k < C → w'.heap[k]? = w.heap[k]?) : OwnG w' B C g :=
  ⟨h.dens.of_block fun k e => hb k (h.dens.lt k e).1 (h.db k e), h.db, h.holes.of_blocks hs hb, h.apart⟩
theorem OwnG.later {w w' : World} {B C : Nat} {g : Gu} (h : OwnG w B C g) (hb : Below w.heap.size w w') : OwnG w' B C g :=
  h.of_blocks hb.size fun k _ hk => hb.block k (by have := h.holes.cb; omega)
theorem OwnG.chg {w w' : World} {B C B' C' : Nat} {g : Gu} (h : OwnG w B C g) (hb : Chg B' C' w w') (hd : C ≤ B' ∨ C' ≤ B) : OwnG w' B C g :=
  h.of_blocks hb.size fun k _ hk => hb.block k (by have := h.holes.cb; omega) (by omega)
theorem OwnG.mono {w : World} {B C B' : Nat} {g : Gu} (h : OwnG w B C g) (hB : B' ≤ B) : OwnG w B' C g :=
  ⟨h.dens.mono hB, h.db, ⟨h.holes.rows.mono hB, h.holes.rb, fun x hx => (h.holes.tops x hx).mono hB, h.holes.tb, h.holes.apart, h.holes.cb⟩, h.apart⟩

theorem OwnH.kept {w w' : World} {B C : Nat} {v : Value} {xs : List Hu} {row : Option Nat} (h : OwnH w B C v xs) (hg : w.grownBy w' row) (h1 : ∀ k, row = some k → v.ownBlock ≠ some k) (h2 : ∀ x ∈ xs, ∀ k, row = some k → x.u.ownBlock ≠ some k) : OwnH w' B C v xs :=
  ⟨h.rows.of_block fun k e => hg.block k (h.rows.lt k e).2 (fun c => h1 k c.symm e), h.rb, fun x hx => (h.tops x hx).of_block fun k e => hg.block k ((h.tops x hx).lt k e).2 (fun c => h2 x hx k c.symm e), h.tb, h.apart, Nat.le_trans h.cb hg.size⟩

theorem szGround_any (g : Gu) (left : Int) (hl : 0 ≤ left) (hl2 : left ≤ 1099511627776) (w : World) (h : RdG w g) (hd : g.d.length ≤ maxLen) (hn : g.xs.length ≤ maxLen) (ht : ∀ x ∈ g.xs, x.t.length ≤ maxLen) (R : Int) (hR : R = if (g.tot : Int) ≤ left then left - g.tot else -1) :
    Calls Try.prog 11 #[.agg #[.slice g.da g.d.length g.dc, .slice g.ha g.xs.length g.hc], .int .i64 left] w fun e w' => e = .returned (.int .i64 R) ∧ Below w.heap.size w w' := by
  have H := Lib.hid h
  have HD := Lib.hid hd
  have HR := Lib.hid hR
  obtain ⟨n, en⟩ : ∃ n, n = g.d.length := ⟨_, rfl⟩
  have C1 := Lib.hid (fun w => szInt64S_any g.da g.d.length g.dc left hl hl2 (by have := HD.out; unfold maxLen at this; omega) w)
  have C2 := Lib.hid (fun (l : Int) l0 l1 w h R hR => szHoleS_any (.slice g.ha g.xs.length g.hc) g.xs l l0 l1 w h hn ht R hR)
  obtain ⟨n2, en2⟩ : ∃ n, n = g.xs.length := ⟨_, rfl⟩
  have RH := Lib.hid h.holes
  unfold Gu.hv at RH
  rw [← en2] at RH
  rw [← en] at C1
  have EN := Lib.hid en
  have EN2 := Lib.hid en2
  unfold Gu.tot at HR
  rw [← en, ← en2] at HR
  rw [← en, ← en2]
  have C2' : Hid (∀ (l : Int), 0 ≤ l → l ≤ 1099511627776 → ∀ w, RdH w (.slice g.ha n2 g.hc) g.xs → ∀ R, R = (if ((n2 + sumT g.xs : Nat) : Int) ≤ l then l - (n2 + sumT g.xs : Nat) else -1) → Calls Try.prog 48 #[.slice g.ha n2 g.hc, .int .i64 l] w fun e w' => e = .returned (.int .i64 R) ∧ Below w.heap.size w w') := by
    rw [en2]; exact C2
  clear h hd hn ht hR en en2 C2 H HD
  by_cases h1 : (n : Int) ≤ left
  · rw [if_pos h1] at C1
    have q1 : ¬ left - (n : Int) < 0 := by omega
    have LR : Hid (R = if ((n2 + sumT g.xs : Nat) : Int) ≤ left - n then left - n - (n2 + sumT g.xs : Nat) else -1) := by
      show _ = _
      rw [HR.out]
      by_cases c : ((n2 + sumT g.xs : Nat) : Int) ≤ left - n
      · rw [if_pos c, if_pos (by push_cast at c ⊢; omega)]; push_cast; omega
      · rw [if_neg c, if_neg (by push_cast at c ⊢; omega)]
    have C3 := Lib.hid (fun w h => C2'.out (left - n) (by omega) (by omega) w h R LR.out)
    have e1 : R = -1 ∨ 0 ≤ R := by
      rw [LR.out]
      by_cases c : ((n2 + sumT g.xs : Nat) : Int) ≤ left - n
      · rw [if_pos c]; right; omega
      · rw [if_neg c]; exact .inl rfl
    clear C2' HR LR
    by_cases hneg : R < 0
    · obtain rfl : R = -1 := by omega
      clear e1 hneg
      go_enter Try.func11, Try.ntmps11
      go_wp2_with fail
      refine (C1.out _).mono ?_
      rintro e w' ⟨rfl, rfl⟩
      go_wp2_with fail
      refine (C3.out _ (RH.out.later (by go_grown))).mono ?_
      rintro e w2 ⟨rfl, b2⟩
      have B2 : Hid (Below w.heap.size w w2) := Below.trans (by go_grown) (b2.mono (by simp))
      clear b2
      go_wp2
      go_ret
      exact ⟨rfl, B2.out⟩
    · go_enter Try.func11, Try.ntmps11
      go_wp2_with fail
      refine (C1.out _).mono ?_
      rintro e w' ⟨rfl, rfl⟩
      go_wp2_with fail
      refine (C3.out _ (RH.out.later (by go_grown))).mono ?_
      rintro e w2 ⟨rfl, b2⟩
      have B2 : Hid (Below w.heap.size w w2) := Below.trans (by go_grown) (b2.mono (by simp))
      clear b2
      go_wp2
      go_ret
      exact ⟨rfl, B2.out⟩
  · rw [if_neg h1] at C1
    obtain rfl : R = -1 := by rw [HR.out, if_neg (by push_cast; omega)]
    go_enter Try.func11, Try.ntmps11
    go_wp2_with fail
    refine (C1.out _).mono ?_
    rintro e w' ⟨rfl, rfl⟩
    go_wp2
    go_ret
    exact ⟨rfl, by go_grown⟩

set_option maxRecDepth 100000 in
set_option maxHeartbeats 4000000 in
theorem toGround_any (g : Gu) (w : World) (h : RdG w g) (lt : g.tot ≤ 1048576) :
    Calls Try.prog 13 #[.agg #[.slice g.da g.d.length g.dc, .slice g.ha g.xs.length g.hc]] w fun e w' => ∃ k : Gu, e = .returned (.agg #[.slice k.da g.d.length k.dc, .slice k.ha g.xs.length k.hc]) ∧ k.same g ∧ OwnG w' w.heap.size w'.heap.size k ∧ Below w.heap.size w w' := by
  have C1 := Lib.hid (fun w h => toInts_any g.dv g.d w h (by unfold Gu.tot at lt; omega))
  have C2 := Lib.hid (fun w h => toHoleS_any g.hv g.xs w h (by unfold Gu.tot at lt; omega) (fun x hx => by have := sumT_mem hx; unfold Gu.tot at lt; omega))
  have H := Lib.hid h
  unfold Gu.dv at C1
  unfold Gu.hv at C2
  obtain ⟨n, hn⟩ : ∃ n, n = g.d.length := ⟨_, rfl⟩
  obtain ⟨n2, hn2⟩ : ∃ n, n = g.xs.length := ⟨_, rfl⟩
  have RD := Lib.hid h.dens
  have RH := Lib.hid h.holes
  unfold Gu.dv at RD
  unfold Gu.hv at RH
  rw [← hn] at C1 RD
  rw [← hn2] at C2 RH
  rw [← hn, ← hn2]
  have HN := Lib.hid hn
  have HN2 := Lib.hid hn2
  clear h lt hn hn2 H
  go_enter Try.func13, Try.ntmps13
  go_wp2_with fail
  refine (C1.out _ (RD.out.later (by go_grown))).mono ?_
  rintro e w2 ⟨v', rfl, o2, b2⟩
  obtain ⟨a2, c2, rfl⟩ := o2.fit
  rw [← HN.out] at o2 ⊢
  have t0 := b2.cell (p := ⟨w.heap.size, 1, none⟩) (by simp; omega)
  have e0 := b2.cell (p := ⟨w.heap.size + 1 + 1, 0, none⟩) (by simp)
  have e1 := b2.cell (p := ⟨w.heap.size + 1 + 1, 1, none⟩) (by simp)
  have g0 := b2.cell (p := ⟨w.heap.size + 1, 0, none⟩) (by simp)
  have g1 := b2.cell (p := ⟨w.heap.size + 1, 1, none⟩) (by simp)
  have f0 := b2.frozen (p := ⟨w.heap.size + 1 + 1, 0, none⟩) (by simp)
  have f1 := b2.frozen (p := ⟨w.heap.size + 1 + 1, 1, none⟩) (by simp)
  have k0 := b2.frozen (p := ⟨w.heap.size + 1, 0, none⟩) (by simp)
  have k1 := b2.frozen (p := ⟨w.heap.size + 1, 1, none⟩) (by simp)
  simp [go_sem] at t0 e0 e1 f0 f1 g0 g1 k0 k1
  have hs := b2.size
  simp at hs
  simp only [World.size_alloc] at o2
  have B2 : Below w.heap.size w w2 := Below.trans (by go_grown) (b2.mono (by simp; omega))
  have ch : ∀ k, k ≠ w.heap.size + 1 + 1 → (w2.setCell ⟨w.heap.size + 1 + 1, 0, none⟩ (.slice a2 n c2)).heap[k]? = w2.heap[k]? := fun k hk => Below.heap_setCell _ _ _ _ hk
  have BZ : Hid (Below w.heap.size w (w2.setCell ⟨w.heap.size + 1 + 1, 0, none⟩ (.slice a2 n c2))) := B2.setCell (p := ⟨w.heap.size + 1 + 1, 0, none⟩) (by show w.heap.size ≤ w.heap.size + 1 + 1; omega) _
  have OZ : Hid (OwnI (w2.setCell ⟨w.heap.size + 1 + 1, 0, none⟩ (.slice a2 n c2)) (w.heap.size + 1 + 1 + 1) (.slice a2 n c2) g.d) := o2.of_block fun k hk => ch k (by have := (o2.lt k hk).1; omega)
  have y1 : Hid ((w2.setCell ⟨w.heap.size + 1 + 1, 0, none⟩ (.slice a2 n c2)).cell? ⟨w.heap.size + 1 + 1, 0, none⟩ = some (.slice a2 n c2)) := World.cell?_setCell_same _ _ _ e0
  have y2 : Hid ((w2.setCell ⟨w.heap.size + 1 + 1, 0, none⟩ (.slice a2 n c2)).cell? ⟨w.heap.size + 1 + 1, 1, none⟩ = some (.slice none 0 0)) := (World.cell?_setCell_other _ _ _ _ (by simp)).trans e1
  have y3 : Hid ((w2.setCell ⟨w.heap.size + 1 + 1, 0, none⟩ (.slice a2 n c2)).cell? ⟨w.heap.size + 1, 0, none⟩ = some (.slice none 0 0)) := (World.cell?_setCell_other _ _ _ _ (by simp)).trans g0
  have y4 : Hid ((w2.setCell ⟨w.heap.size + 1 + 1, 0, none⟩ (.slice a2 n c2)).cell? ⟨w.heap.size + 1, 1, none⟩ = some (.slice none 0 0)) := (World.cell?_setCell_other _ _ _ _ (by simp)).trans g1
  have y5 : Hid ((w2.setCell ⟨w.heap.size + 1 + 1, 0, none⟩ (.slice a2 n c2)).frozen? ⟨w.heap.size + 1 + 1, 1, none⟩ = false) := (World.frozen?_setCell ..).trans f1
  have y6 : Hid ((w2.setCell ⟨w.heap.size + 1 + 1, 0, none⟩ (.slice a2 n c2)).frozen? ⟨w.heap.size + 1, 0, none⟩ = false) := (World.frozen?_setCell ..).trans k0
  have y7 : Hid ((w2.setCell ⟨w.heap.size + 1 + 1, 0, none⟩ (.slice a2 n c2)).frozen? ⟨w.heap.size + 1, 1, none⟩ = false) := (World.frozen?_setCell ..).trans k1
  have zz : w.heap.size + 1 + 1 + 1 ≤ (w2.setCell ⟨w.heap.size + 1 + 1, 0, none⟩ (.slice a2 n c2)).heap.size := by simp [World.setCell]; omega
  clear b2 o2 B2 ch
  go_wp2_with fail
  generalize w2.setCell ⟨w.heap.size + 1 + 1, 0, none⟩ (.slice a2 n c2) = w3 at *
  clear t0 e0 e1 f0 f1 g0 g1 k0 k1 hs
  refine (C2.out _ (RH.out.later BZ.out)).mono ?_
  rintro e w4 ⟨a3, c3, ys, rfl, ym, o3, b3⟩
  have e0 := (b3.cell (p := ⟨w.heap.size + 1 + 1, 0, none⟩) (by show w.heap.size + 1 + 1 < _; omega)).trans y1.out
  have e1 := (b3.cell (p := ⟨w.heap.size + 1 + 1, 1, none⟩) (by show w.heap.size + 1 + 1 < _; omega)).trans y2.out
  have g0 := (b3.cell (p := ⟨w.heap.size + 1, 0, none⟩) (by show w.heap.size + 1 < _; omega)).trans y3.out
  have g1 := (b3.cell (p := ⟨w.heap.size + 1, 1, none⟩) (by show w.heap.size + 1 < _; omega)).trans y4.out
  have f1 := (b3.frozen (p := ⟨w.heap.size + 1 + 1, 1, none⟩) (by show w.heap.size + 1 + 1 < _; omega)).trans y5.out
  have k0 := (b3.frozen (p := ⟨w.heap.size + 1, 0, none⟩) (by show w.heap.size + 1 < _; omega)).trans y6.out
  have k1 := (b3.frozen (p := ⟨w.heap.size + 1, 1, none⟩) (by show w.heap.size + 1 < _; omega)).trans y7.out
  have z4 := b3.size
  have O3 := Lib.hid o3
  have O2 := Lib.hid (OZ.out.later b3)
  have LT := Lib.hid (fun k hk => (OZ.out.lt k hk).2)
  have B4 : Hid (Below w.heap.size w w4) := BZ.out.trans (b3.mono BZ.out.size)
  have YM := Lib.hid ym
  clear o3 b3 y1 y2 y3 y4 y5 y6 y7 BZ OZ ym C1 C2 RD RH
  go_wp2
  refine bodyPost_ret (v := .agg #[.slice a2 n c2, .slice a3 n2 c3]) (by simp [results, Try.results13, go_sem, g0, g1]; try rfl) rfl ?_
  have ln : n2 = ys.length := by rw [HN2.out, map_ho_len YM.out]
  obtain ⟨wE, hE⟩ : ∃ wE, wE = ((w4.setCell ⟨w.heap.size + 1 + 1, 1, none⟩ (.slice a3 n2 c3)).setCell ⟨w.heap.size + 1, 0, none⟩ (.slice a2 n c2)).setCell ⟨w.heap.size + 1, 1, none⟩ (.slice a3 n2 c3) := ⟨_, rfl⟩
  have hh : ∀ k, w.heap.size + 1 + 1 < k → wE.heap[k]? = w4.heap[k]? := fun k hk => by
    rw [hE, Below.heap_setCell _ _ _ _ (by show k ≠ w.heap.size + 1; omega), Below.heap_setCell _ _ _ _ (by show k ≠ w.heap.size + 1; omega), Below.heap_setCell _ _ _ _ (by show k ≠ w.heap.size + 1 + 1; omega)]
  have hsz : wE.heap.size = w4.heap.size := by rw [hE]; simp [World.setCell]
  have BE : Below w.heap.size w wE := by
    have e := B4.out
    rw [hE]
    exact ((e.setCell (p := ⟨w.heap.size + 1 + 1, 1, none⟩) (by show w.heap.size ≤ w.heap.size + 1 + 1; omega) _).setCell (p := ⟨w.heap.size + 1, 0, none⟩) (by show w.heap.size ≤ w.heap.size + 1; omega) _).setCell (p := ⟨w.heap.size + 1, 1, none⟩) (by show w.heap.size ≤ w.heap.size + 1; omega) _
  have HO : OwnH wE w.heap.size w4.heap.size (.slice a3 n2 c3) ys := by
    have o := O3.out.of_blocks (w' := wE) (by omega) (fun k h1 h2 => hh k (by omega))
    exact ⟨o.rows.mono (by omega), o.rb, fun x hx => (o.tops x hx).mono (by omega), o.tb, o.apart, o.cb⟩
  have DO : OwnI wE w.heap.size (.slice a2 n c2) g.d := (O2.out.of_block fun k hk => hh k (by have := (O2.out.lt k hk).1; omega)).mono (by omega)
  refine ⟨⟨a2, c2, g.d, a3, c3, ys⟩, rfl, ⟨rfl, YM.out⟩, ?_, ?_⟩
  · rw [← hE, hsz]
    refine ⟨?_, fun k hk => ?_, ?_, fun x hx k hk hk2 => ?_⟩
    · show OwnI _ _ (.slice a2 g.d.length c2) _
      rw [← HN.out]; exact DO
    · have hk' : (Value.slice a2 n c2).ownBlock = some k := by rw [HN.out]; exact hk
      have := LT.out k hk'
      omega
    · show OwnH _ _ _ (.slice a3 ys.length c3) _
      rw [← ln]; exact HO
    · have hk' : (Value.slice a2 n c2).ownBlock = some k := by rw [HN.out]; exact hk
      have h1 := LT.out k hk'
      have h2 := ((O3.out.tops x hx).lt k hk2).1
      omega
  · rw [← hE]; exact BE

set_option maxHeartbeats 2000000 in
theorem eqGround_same (g k : Gu) (w : World) (hg : RdG w g) (hk : RdG w k) (hs : g.same k) (lt : g.tot ≤ 1048576) :
    Calls Try.prog 15 #[.agg #[.slice g.da g.d.length g.dc, .slice g.ha g.xs.length g.hc], .agg #[.slice k.da k.d.length k.dc, .slice k.ha k.xs.length k.hc]] w fun e w' => e = .returned (.bool true) ∧ Below w.heap.size w w' := by
  have C1 := Lib.hid (fun w (h1 : RdI w g.dv g.d) (h2 : RdI w k.dv g.d) => eqInt64S_same g.dv k.dv g.d w h1 h2 (by unfold Gu.tot at lt; omega))
  have C2 := Lib.hid (fun w h1 h2 => eqHoleS_same g.hv k.hv g.xs k.xs w h1 h2 hs.2 (by unfold Gu.tot at lt; omega) (fun x hx => by have := sumT_mem hx; unfold Gu.tot at lt; omega))
  have G1 := Lib.hid hg.dens
  have K1 := Lib.hid hk.dens
  rw [← hs.1] at K1
  have G2 := Lib.hid hg.holes
  have K2 := Lib.hid hk.holes
  have e1 := hs.1
  have e2 := map_ho_len hs.2
  unfold Gu.dv at C1 G1 K1
  unfold Gu.hv at C2 G2 K2
  rw [← e1] at C1 K1
  rw [← e2] at C2 K2
  rw [← e1, ← e2]
  generalize g.d.length = n at *
  generalize g.xs.length = m at *
  clear hg hk hs lt e1 e2
  go_enter Try.func15, Try.ntmps15
  go_wp2_with fail
  refine (C1.out _ (G1.out.later (by go_grown)) (K1.out.later (by go_grown))).mono ?_
  rintro e w2 ⟨rfl, b2⟩
  have B2 : Hid (Below w.heap.size w w2) := Below.trans (by go_grown) (b2.mono (by simp; omega))
  have t0 := b2.cell (p := ⟨w.heap.size, 1, none⟩) (by simp; omega)
  have t1 := b2.cell (p := ⟨w.heap.size + 1, 1, none⟩) (by simp)
  simp [go_sem] at t0 t1
  have sz := B2.out.size
  clear b2
  go_wp2_with fail
  refine (C2.out _ (G2.out.later B2.out) (K2.out.later B2.out)).mono ?_
  rintro e w3 ⟨rfl, b3⟩
  have B3 : Hid (Below w.heap.size w w3) := B2.out.trans (b3.mono sz)
  clear b3 B2 t0 t1
  go_wp2
  go_ret
  exact ⟨rfl, B3.out⟩

/-- A ground that is marked from q on. -/
def mkG (q : Int) (g : Gu) : Gu := ⟨g.da, g.dc, upFrom q g.d.length, g.ha, g.hc, mkH (q + g.d.length) g.xs⟩

theorem mkH_u {q : Int} {xs : List Hu} {x : Hu} (h : x ∈ mkH q xs) : ∃ y ∈ xs, x.u = y.u := by
  induction xs generalizing q with
  | nil => simp [mkH] at h
  | cons y ys ih =>
    rw [mkH] at h
    rcases List.mem_cons.mp h with rfl | h
    · exact ⟨y, by simp, by simp [Hu.u, upFrom_length]⟩
    · obtain ⟨z, hz, e⟩ := ih h
      exact ⟨z, by simp [hz], e⟩

set_option maxHeartbeats 2000000 in
theorem markGround_any (g : Gu) (w : World) (B C : Nat) (h : OwnG w B C g) (lt : g.tot ≤ 1048576) (q : Int) (hq : 0 ≤ q) (hq2 : q ≤ 536870912) :
    Calls Try.prog 19 #[.agg #[.slice g.da g.d.length g.dc, .slice g.ha g.xs.length g.hc], .int .i64 q] w fun e w' => e = .returned (.int .i64 (q + g.tot)) ∧ OwnG w' B C (mkG q g) ∧ Chg B C w w' := by
  have H := Lib.hid h
  have LT := Lib.hid lt
  have C1 := Lib.hid (fun w h => markInts_any g.dv g.d w B h (by unfold Gu.tot at lt; omega) q hq (by omega))
  have C2 := Lib.hid (fun w h => markHoleS_any g.hv g.xs w B C h (by unfold Gu.tot at lt; omega) (by unfold Gu.tot at lt; omega) (q + g.d.length) (by omega) (by unfold Gu.tot at lt; omega))
  obtain ⟨R, hR⟩ : ∃ R : Int, R = q + g.tot := ⟨_, rfl⟩
  rw [← hR]
  have HR : Hid (R = q + g.d.length + (g.xs.length + sumT g.xs : Nat)) := by show _ = _; rw [hR]; unfold Gu.tot; push_cast; omega
  rw [← HR.out] at C2
  obtain ⟨n, hn⟩ : ∃ n, n = g.d.length := ⟨_, rfl⟩
  obtain ⟨m, hm⟩ : ∃ n, n = g.xs.length := ⟨_, rfl⟩
  have ED : Hid (g.dv = .slice g.da n g.dc) := by show _ = _; unfold Gu.dv; rw [hn]
  have EH : Hid (g.hv = .slice g.ha m g.hc) := by show _ = _; unfold Gu.hv; rw [hm]
  rw [ED.out, ← hn] at C1
  rw [EH.out, ← hn] at C2
  rw [← hn, ← hm]
  have HN := Lib.hid hn
  have HM := Lib.hid hm
  have ln : n ≤ 1048576 := by unfold Gu.tot at lt; omega
  clear h lt hn hm hR
  go_enter Try.func19, Try.ntmps19
  go_wp2_with fail
  have o0 : OwnG (w.alloc (.cells #[.slice g.da n g.dc, .slice g.ha m g.hc] 30)) B C g := H.out.later (by go_grown)
  have cg0 : Chg B C w (w.alloc (.cells #[.slice g.da n g.dc, .slice g.ha m g.hc] 30)) := Chg.of_below (by go_grown)
  have cb := H.out.holes.cb
  have t0 := cell_of_row (w.alloc (.cells #[.slice g.da n g.dc, .slice g.ha m g.hc] 30)) w.heap.size 1 _ 30 (0, 0) (heap_alloc_new w _)
  have s0 : w.heap.size < (w.alloc (.cells #[.slice g.da n g.dc, .slice g.ha m g.hc] 30)).heap.size := by simp
  generalize (w.alloc (.cells #[.slice g.da n g.dc, .slice g.ha m g.hc] 30)) = w1 at *
  have T0 := Lib.hid t0
  have O0 := Lib.hid o0
  have CG0 := Lib.hid cg0
  clear t0 o0 cg0
  refine (C1.out _ (by have e := O0.out.dens; rw [ED.out] at e; exact e)).mono ?_
  rintro e w2 ⟨rfl, o2, g2⟩
  have rowk : ∀ k, (Value.slice g.da n g.dc).ownBlock = some k → B ≤ k ∧ k < C := fun k hk => by
    have hk' : g.dv.ownBlock = some k := by rw [ED.out]; exact hk
    exact ⟨(O0.out.dens.lt k hk').1, O0.out.db k hk'⟩
  have HO : OwnH w2 B C g.hv g.xs := O0.out.holes.kept g2 (fun k e1 e2 => by
      have hk' : g.dv.ownBlock = some k := by rw [ED.out]; exact e1
      exact own_types O0.out.holes.rows O0.out.dens e2 hk' rfl) (fun x hx k e1 e2 => by
      have hk' : g.dv.ownBlock = some k := by rw [ED.out]; exact e1
      exact O0.out.apart x hx k hk' e2)
  have CG2 : Chg B C w w2 := CG0.out.trans (Chg.of_grown g2 rowk)
  have t2 : w2.cell? ⟨w.heap.size, 1, none⟩ = some (.slice g.ha m g.hc) := by
    have e := g2.block w.heap.size s0 (fun c => by have := rowk _ c.symm; omega)
    unfold World.cell? at *
    have := T0.out
    simp only [e]
    exact this
  have O2 := Lib.hid o2
  have HO2 := Lib.hid HO
  have CG := Lib.hid CG2
  have s2 := g2.size
  clear o2 g2 HO CG2 rowk C1 O0 CG0 T0
  go_wp2_with fail
  refine (C2.out _ (by have e := HO2.out; rw [EH.out] at e; exact e)).mono ?_
  rintro e w3 ⟨rfl, o3, cg3, k3⟩
  have DO : OwnI w3 B (.slice g.da n g.dc) (upFrom q n) := O2.out.of_block fun k hk => k3 k (by have := (O2.out.lt k hk).2; omega) (fun c => by
      have c' : g.hv.ownBlock = some k := by rw [EH.out]; exact c
      exact own_types HO2.out.rows O2.out c' hk rfl) (fun x hx c => by
      have hk' : g.dv.ownBlock = some k := by rw [ED.out]; exact hk
      exact H.out.apart x hx k hk' c)
  have DO2 := Lib.hid DO
  have O3 := Lib.hid o3
  have CG3 : Hid (Chg B C w w3) := CG.out.trans cg3
  clear DO o3 cg3 k3 O2 HO2 CG C2 t2
  go_wp2
  go_ret
  refine ⟨rfl, ⟨?_, fun k hk => ?_, ?_, fun x hx k hk c => ?_⟩, CG3.out⟩
  · show OwnI w3 B (.slice g.da (upFrom q g.d.length).length g.dc) (upFrom q g.d.length)
    rw [upFrom_length, ← HN.out]; exact DO2.out
  · have hk' : g.dv.ownBlock = some k := by
      have e : (mkG q g).dv = g.dv := by unfold Gu.dv mkG; simp [upFrom_length]
      rw [← e]; exact hk
    exact H.out.db k hk'
  · show OwnH w3 B C (.slice g.ha (mkH (q + g.d.length) g.xs).length g.hc) (mkH (q + g.d.length) g.xs)
    rw [mkH_length, ← HM.out, ← HN.out]; exact O3.out
  · have hk' : g.dv.ownBlock = some k := by
      have e : (mkG q g).dv = g.dv := by unfold Gu.dv mkG; simp [upFrom_length]
      rw [← e]; exact hk
    obtain ⟨y, hy, e⟩ := mkH_u hx
    rw [e] at c
    exact H.out.apart y hy k hk' c
end Go.Proofs.Ytobfephcmiolbab
