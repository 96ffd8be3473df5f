/- Connected surveys: of the specification. -/
import Derived.Test.YthfmmlpbflfpaaaDoorTreeS
import Derived.Test.YthfmmlpbflfpaaaDoorAppI
import Derived.Test.YthfmmlpbflfpaaaDoorErrW
import Derived.Deep.RegionLaw
namespace Go.Proofs.YthfmmlpbflfpaaaDoor
open Go.ChangeShapes Go.WideShapes Go.ChangeAt Go.RowKit
set_option linter.unusedVariables false
set_option linter.unusedSimpArgs false

/-- The tree of a survey, as the specification makes it. -/
def trOf (g : Sv) : Tr := trTo g.p.toNat g.x g.x.length
/-- A valid, connected survey. -/
def Con (g : Sv) : Prop := OkSv g ∧ trAll (trOf g) = true
theorem con_same {g k : Sv} (e : g.same k) : Con g ↔ Con k := by
  unfold Con trOf
  rw [okSv_same e, e.1, e.2]
theorem trOf_same {g k : Sv} (e : g.same k) : trOf g = trOf k := by unfold trOf; rw [e.1, e.2]
theorem OkSv.sts {g : Sv} (h : OkSv g) : ∀ x ∈ g.x, OkSt g.p.toNat x := fun x hx => (h.x0 x hx).ok (by have := h.p0; omega)

set_option maxRecDepth 100000 in
set_option maxHeartbeats 4000000 in
theorem l10Whole_any (G : Nat) (ty : TypeId) (g : Sv) (n0 : Nat) (w : World) (hG : w.heap[G]? = some (.cells #[.int .i64 g.p, .slice g.xa n0 g.xc] ty (0, 0))) (hr : RdSv w n0 g) (l0 : n0 ≤ 1048576) (b : Bool) (hb : b = true ↔ Con g) :
    Calls Tryd.prog 32 #[.pointer (some ⟨G, 0, none⟩)] w fun e w' => e = .returned (.bool b) ∧ Below w.heap.size w w' := by
  obtain ⟨b1, h1⟩ := bool_ofV (OkSv g)
  have e0 := hr.len
  have C1 := Lib.hid (l10Is_any G ty g n0 w hG hr l0 b1 h1)
  have lG : G < w.heap.size := (Array.getElem?_eq_some_iff.1 hG).1
  have C2 : Hid (∀ w1, OkSv g → Below w.heap.size w w1 → Calls Tryd.prog 36 #[.pointer (some ⟨G, 0, none⟩)] w1 fun e w' => Below w1.heap.size w1 w' ∧
      ((trAll (trOf g) = false ∧ e = .returned (.tuple #[.slice none 0 0, .slice none 0 0, .bool false])) ∨
       (trAll (trOf g) = true ∧ ∃ u v, e = .returned (.tuple #[u, v, .bool true]) ∧ OwnI w' w1.heap.size u (trOf g).o ∧ OwnI w' w1.heap.size v (trOf g).h))) := by
    intro w1 ok bl
    have hp : g.p = (g.p.toNat : Int) := by have := ok.p0; omega
    have hG1 := (bl.block G lG).trans hG
    rw [hp] at hG1
    have := l10Tree_any G ty g.p.toNat n0 g.xa g.xc g.x w1 hG1 (hr.r0.later bl) e0 (by have := ok.n0; omega) (by have := ok.p0; omega) ok.sts
    unfold trOf
    rw [← e0]
    exact this
  have H1 := Lib.hid h1
  have HB := Lib.hid hb
  clear hG hr h1 hb e0
  go_enter Tryd.func32, Tryd.ntmps32
  go_wp2_with fail
  refine C1.out.mono ?_
  rintro e w1 ⟨rfl, b1'⟩
  have B1 := Lib.hid b1'
  clear b1'
  cases b1 with
  | false =>
    obtain rfl : b = false := b_false HB.out (fun h => by have := H1.out.mpr h.1; simp at this)
    go_wp2
    go_ret
    exact ⟨rfl, B1.out⟩
  | true =>
    have ok := H1.out.mp (by trivial)
    have C3 := Lib.hid (C2.out w1 ok B1.out)
    have OKH := Lib.hid ok
    clear C2 C1 ok
    go_wp2_with fail
    refine C3.out.mono ?_
    rintro e w2 ⟨b2, h | h⟩
    · obtain ⟨hf, rfl⟩ := h
      obtain rfl : b = false := b_false HB.out (fun h => by have := h.2; rw [hf] at this; cases this)
      have B2 : Hid (Below w.heap.size w w2) := B1.out.trans (b2.mono B1.out.size)
      clear b2 hf HB C3
      go_wp2
      go_ret
      exact ⟨rfl, B2.out⟩
    · obtain ⟨hf, u, v, rfl, -, -⟩ := h
      obtain rfl : b = true := HB.out.mpr ⟨OKH.out, hf⟩
      have B2 : Hid (Below w.heap.size w w2) := B1.out.trans (b2.mono B1.out.size)
      clear b2 hf HB C3
      go_wp2
      go_ret
      exact ⟨rfl, B2.out⟩

/-- The tree, where the survey is connected. -/
theorem l10Tree_con (G : Nat) (ty : TypeId) (g : Sv) (n0 : Nat) (w : World) (hG : w.heap[G]? = some (.cells #[.int .i64 g.p, .slice g.xa n0 g.xc] ty (0, 0))) (hr : RdSv w n0 g) (hc : Con g) :
    Calls Tryd.prog 36 #[.pointer (some ⟨G, 0, none⟩)] w fun e w' => ∃ u v, e = .returned (.tuple #[u, v, .bool true]) ∧ OwnI w' w.heap.size u (trOf g).o ∧ OwnI w' w.heap.size v (trOf g).h ∧ Below w.heap.size w w' := by
  obtain ⟨ok, ha⟩ := hc
  have e0 := hr.len
  have hp : g.p = (g.p.toNat : Int) := by have := ok.p0; omega
  rw [hp] at hG
  have := l10Tree_any G ty g.p.toNat n0 g.xa g.xc g.x w hG hr.r0 e0 (by have := ok.n0; omega) (by have := ok.p0; omega) ok.sts
  unfold trOf at ha ⊢
  rw [← e0] at ha ⊢
  refine this.mono ?_
  rintro e w' ⟨bl, h | h⟩
  · rw [h.1] at ha; cases ha
  · obtain ⟨-, u, v, rfl, o1, o2⟩ := h
    exact ⟨u, v, rfl, o1, o2, bl⟩

theorem specConn_any (g : Sv) (n0 : Nat) (w : World) (h : RdSv w n0 g) (l0 : n0 ≤ 1048576) (b : Bool) (hb : b = true ↔ Con g) :
    Calls Tryd.prog 10 #[(.agg #[.int .i64 g.p, .slice g.xa n0 g.xc])] w fun e w' => e = .returned (.bool b) ∧ Below w.heap.size w w' := by
  have C := Lib.hid (fun h hr => l10Whole_any w.heap.size 29 g n0 (w.alloc (.cells #[.int .i64 g.p, .slice g.xa n0 g.xc] 29)) h hr l0 b hb)
  have H := Lib.hid h
  clear h hb
  go_enter Tryd.func10, Tryd.ntmps10
  go_wp2_with fail
  refine (C.out (heap_alloc_new w _) (H.out.later (by go_grown))).mono ?_
  rintro e w2 ⟨rfl, b2⟩
  have B2 : Hid (Below w.heap.size w w2) := Below.trans (by go_grown) (b2.mono (by simp only [World.size_alloc]; omega))
  clear b2
  go_wp2
  go_ret
  exact ⟨rfl, B2.out⟩

set_option maxRecDepth 100000 in
set_option maxHeartbeats 4000000 in
theorem specTreeS_any (g : Sv) (n0 : Nat) (w : World) (h : RdSv w n0 g) (l0 : n0 ≤ 1048576) (b : Bool) (hb : b = true ↔ Con g) (ys : List Int) (hy : ys = if b = true then (trOf g).o else []) :
    Calls Tryd.prog 14 #[(.agg #[.int .i64 g.p, .slice g.xa n0 g.xc])] w fun e w' => ∃ u, e = .returned (.tuple #[u, .bool b]) ∧ OwnIC w' w.heap.size w'.heap.size u ys ∧ Below w.heap.size w w' := by
  have W1 : Hid ((w.alloc (.cells #[.int .i64 g.p, .slice g.xa n0 g.xc] 29)).heap[w.heap.size]? = some (.cells #[.int .i64 g.p, .slice g.xa n0 g.xc] 29 (0, 0))) := heap_alloc_new w _
  have W2 : Hid (Below w.heap.size w (w.alloc (.cells #[.int .i64 g.p, .slice g.xa n0 g.xc] 29))) := by show Below _ _ _; go_grown
  have W3 : (w.alloc (.cells #[.int .i64 g.p, .slice g.xa n0 g.xc] 29)).heap.size = w.heap.size + 1 := by simp
  have C := Lib.hid (l10Whole_any w.heap.size 29 g n0 (w.alloc (.cells #[.int .i64 g.p, .slice g.xa n0 g.xc] 29)) W1.out (h.later W2.out) l0 b hb)
  have H := Lib.hid h
  have HB := Lib.hid hb
  have HY := Lib.hid hy
  clear h hb hy
  go_enter Tryd.func14, Tryd.ntmps14
  go_wp2_with fail
  refine C.out.mono ?_
  rintro e w2 ⟨rfl, b2⟩
  have B2 : Hid (Below w.heap.size w w2) := W2.out.trans (b2.mono (by omega))
  have V1 := Lib.hid ((b2.block w.heap.size (by omega)).trans W1.out)
  clear b2 W1 W2 W3 C
  cases b with
  | false =>
    obtain rfl : ys = [] := by rw [HY.out]; simp
    go_wp2
    go_returns
    exact ⟨_, rfl, ⟨World.ownsRow_nil _ _ _ _, fun k e => by simp [Value.ownBlock] at e, Nat.le_refl _⟩, B2.out⟩
  | true =>
    have C2 := Lib.hid (l10Tree_con w.heap.size 29 g n0 w2 V1.out (H.out.later B2.out) (HB.out.mp (by trivial)))
    obtain rfl : ys = (trOf g).o := by rw [HY.out]; simp
    go_wp2_with fail
    refine C2.out.mono ?_
    rintro e w3 ⟨u, v, rfl, o1, -, b3⟩
    have B3 : Hid (Below w.heap.size w w3) := B2.out.trans (b3.mono B2.out.size)
    have O3 : Hid (OwnIC w3 w.heap.size w3.heap.size u (trOf g).o) := (OwnIC.of o1).mono B2.out.size
    clear b3 o1 C2 V1
    go_wp2
    go_returns
    exact ⟨_, rfl, O3.out, B3.out⟩
set_option maxRecDepth 100000 in
set_option maxHeartbeats 4000000 in
theorem specTreeH_any (g : Sv) (n0 : Nat) (w : World) (h : RdSv w n0 g) (l0 : n0 ≤ 1048576) (b : Bool) (hb : b = true ↔ Con g) (ys : List Int) (hy : ys = if b = true then (trOf g).h else []) :
    Calls Tryd.prog 20 #[(.agg #[.int .i64 g.p, .slice g.xa n0 g.xc])] w fun e w' => ∃ u, e = .returned (.tuple #[u, .bool b]) ∧ OwnIC w' w.heap.size w'.heap.size u ys ∧ Below w.heap.size w w' := by
  have W1 : Hid ((w.alloc (.cells #[.int .i64 g.p, .slice g.xa n0 g.xc] 29)).heap[w.heap.size]? = some (.cells #[.int .i64 g.p, .slice g.xa n0 g.xc] 29 (0, 0))) := heap_alloc_new w _
  have W2 : Hid (Below w.heap.size w (w.alloc (.cells #[.int .i64 g.p, .slice g.xa n0 g.xc] 29))) := by show Below _ _ _; go_grown
  have W3 : (w.alloc (.cells #[.int .i64 g.p, .slice g.xa n0 g.xc] 29)).heap.size = w.heap.size + 1 := by simp
  have C := Lib.hid (l10Whole_any w.heap.size 29 g n0 (w.alloc (.cells #[.int .i64 g.p, .slice g.xa n0 g.xc] 29)) W1.out (h.later W2.out) l0 b hb)
  have H := Lib.hid h
  have HB := Lib.hid hb
  have HY := Lib.hid hy
  clear h hb hy
  go_enter Tryd.func20, Tryd.ntmps20
  go_wp2_with fail
  refine C.out.mono ?_
  rintro e w2 ⟨rfl, b2⟩
  have B2 : Hid (Below w.heap.size w w2) := W2.out.trans (b2.mono (by omega))
  have V1 := Lib.hid ((b2.block w.heap.size (by omega)).trans W1.out)
  clear b2 W1 W2 W3 C
  cases b with
  | false =>
    obtain rfl : ys = [] := by rw [HY.out]; simp
    go_wp2
    go_returns
    exact ⟨_, rfl, ⟨World.ownsRow_nil _ _ _ _, fun k e => by simp [Value.ownBlock] at e, Nat.le_refl _⟩, B2.out⟩
  | true =>
    have C2 := Lib.hid (l10Tree_con w.heap.size 29 g n0 w2 V1.out (H.out.later B2.out) (HB.out.mp (by trivial)))
    obtain rfl : ys = (trOf g).h := by rw [HY.out]; simp
    go_wp2_with fail
    refine C2.out.mono ?_
    rintro e w3 ⟨v, u, rfl, -, o1, b3⟩
    have B3 : Hid (Below w.heap.size w w3) := B2.out.trans (b3.mono B2.out.size)
    have O3 : Hid (OwnIC w3 w.heap.size w3.heap.size u (trOf g).h) := (OwnIC.of o1).mono B2.out.size
    clear b3 o1 C2 V1
    go_wp2
    go_returns
    exact ⟨_, rfl, O3.out, B3.out⟩
theorem grown_drewS (w : World) (row : Option Nat) : w.grownBy w.drew row := ⟨rfl, rfl, rfl, Nat.le_refl _, fun _ _ _ => rfl⟩

theorem trOf_h {g : Sv} (ok : OkSv g) : (trOf g).h.length = g.p.toNat ∧ ∀ x ∈ (trOf g).h, -1000000 ≤ x ∧ x ≤ 1000000 := by
  have h := trTo_ok ok.sts g.x.length
  have tbi := tb_le8 (k := g.x.length) (by have := ok.n0; omega)
  refine ⟨h.lh, fun x hx => ?_⟩
  obtain ⟨k, hk, rfl⟩ := List.mem_iff_getElem.1 hx
  have b0 := h.b0 k (by have := h.lh; unfold trOf at hk; omega)
  have b1 := h.b1 k (by have := h.lh; unfold trOf at hk; omega)
  have e : (trTo g.p.toNat g.x g.x.length).h.getD k 0 = (trOf g).h[k] := by unfold trOf at hk ⊢; simp [hk]
  rw [e] at b0 b1
  omega

set_option maxRecDepth 100000 in
set_option maxHeartbeats 8000000 in
theorem specLoop_any (g : Sv) (n0 : Nat) (w : World) (h : RdSv w n0 g) (l0 : n0 ≤ 1048576) (b : Bool) (hb : b = true ↔ Con g) (ys : List Int) (hy : ys = if b = true then errL 1 (trOf g).h g.x else []) :
    Calls Tryd.prog 22 #[(.agg #[.int .i64 g.p, .slice g.xa n0 g.xc])] w fun e w' => ∃ u, e = .returned (.tuple #[u, .bool b]) ∧ OwnIC w' w.heap.size w'.heap.size u ys ∧ Below w.heap.size w w' := by
  obtain ⟨i0, hi, hz0, hz1, hz2⟩ := info_parts info_i64
  have W1 : Hid ((w.alloc (.cells #[.int .i64 g.p, .slice g.xa n0 g.xc] 29)).heap[w.heap.size]? = some (.cells #[.int .i64 g.p, .slice g.xa n0 g.xc] 29 (0, 0))) := heap_alloc_new w _
  have W2 : Hid (Below w.heap.size w (w.alloc (.cells #[.int .i64 g.p, .slice g.xa n0 g.xc] 29))) := by show Below _ _ _; go_grown
  have W3 : (w.alloc (.cells #[.int .i64 g.p, .slice g.xa n0 g.xc] 29)).heap.size = w.heap.size + 1 := by simp
  have C := Lib.hid (l10Whole_any w.heap.size 29 g n0 (w.alloc (.cells #[.int .i64 g.p, .slice g.xa n0 g.xc] 29)) W1.out (h.later W2.out) l0 b hb)
  have H := Lib.hid h
  have HB := Lib.hid hb
  have HY := Lib.hid hy
  clear h hb hy
  go_enter Tryd.func22, Tryd.ntmps22
  go_wp2_with fail
  refine C.out.mono ?_
  rintro e w2 ⟨rfl, b2⟩
  have B2 : Hid (Below w.heap.size w w2) := W2.out.trans (b2.mono (by omega))
  have V1 := Lib.hid ((b2.block w.heap.size (by omega)).trans W1.out)
  clear b2 W1 W2 W3 C
  cases b with
  | false =>
    obtain rfl : ys = [] := by rw [HY.out]; simp
    go_wp2
    go_returns
    exact ⟨_, rfl, ⟨World.ownsRow_nil _ _ _ _, fun k e => by simp [Value.ownBlock] at e, Nat.le_refl _⟩, B2.out⟩
  | true =>
    have hc := HB.out.mp (by trivial)
    have C2 := Lib.hid (l10Tree_con w.heap.size 29 g n0 w2 V1.out (H.out.later B2.out) hc)
    have l8 : n0 ≤ 8 := by have := hc.1.n0; have := H.out.len; omega
    have HH := Lib.hid (trOf_h hc.1)
    have OK := Lib.hid hc.1.sts
    have PB2 : Hid (2 ≤ g.p.toNat) := by have := hc.1.p0; show 2 ≤ _; omega
    have hys : ys = errL 1 (trOf g).h g.x := by rw [HY.out]; simp
    obtain ⟨hs, hhs⟩ : ∃ hs, hs = (trOf g).h := ⟨_, rfl⟩
    rw [← hhs] at C2 HH hys
    obtain ⟨L, hL⟩ : ∃ L, L = errL 1 hs g.x := ⟨_, rfl⟩
    rw [← hL] at hys
    have HYS := Lib.hid hys
    clear hys
    have EG : Hid (∀ (k : Nat) x, g.x[k]? = some x → L[k]? = some (x.r - hs.getD x.t.toNat 0 + hs.getD x.f.toNat 0)) := fun k x hx => by rw [hL, errL_get hx]; simp [errOf]
    have LN : Hid (L.length = n0) := by show _ = _; rw [hL, errL_len]; exact H.out.len.symm
    have E0 := Lib.hid H.out.len
    clear hc HB HY hhs hL
    go_wp2_with fail
    refine C2.out.mono ?_
    rintro e w3 ⟨u, v, rfl, -, o1, b3⟩
    have B3 : Hid (Below w.heap.size w w3) := B2.out.trans (b3.mono B2.out.size)
    have V3 := Lib.hid ((b3.block w.heap.size (by have := (Array.getElem?_eq_some_iff.1 V1.out).1; exact this)).trans V1.out)
    obtain ⟨va, vc, rfl⟩ := o1.fit
    obtain ⟨y0, hy0⟩ : ∃ y, hs[0]? = some y := ⟨_, List.getElem?_eq_getElem (by have := HH.out.1; have := PB2.out; omega)⟩
    obtain ⟨bh, oh, rfl, -⟩ := o1.rd.atV 0 y0 hy0
    clear hy0 y0
    have RV := Lib.hid o1.rd
    have z3 := b3.size
    have lV : w.heap.size < w3.heap.size := (Array.getElem?_eq_some_iff.1 V3.out).1
    have VL : Hid (∀ k, (Value.slice (some ⟨bh, oh, none⟩) hs.length vc).ownBlock = some k → k < w3.heap.size) := fun k hk => (o1.lt k hk).2
    have S0 : Hid (OwnI (w3.alloc (.cells #[] 2)) w3.heap.size (.slice (some ⟨w3.heap.size, 0, none⟩) 0 0) (L.take 0)) := own_built w3 w3.heap.size L rfl
    have B4 : Hid (Below w.heap.size w (w3.alloc (.cells #[] 2))) := B3.out.alloc (by omega) _
    have X4 : Hid (Below w3.heap.size w3 (w3.alloc (.cells #[] 2))) := by show Below _ _ _; go_grown
    clear b3 o1 C2 V1
    obtain ⟨nh, hnh⟩ : ∃ nh, nh = hs.length := ⟨_, rfl⟩
    have NH : Hid (nh = g.p.toNat) := by show _ = _; rw [hnh]; exact HH.out.1
    have NL := Lib.hid hnh
    rw [← hnh] at RV VL ⊢
    clear hnh B3 z3
    obtain ⟨⟨p0, p1⟩, -, -⟩ := boxedSv_at ((X4.out.block w.heap.size lV).trans V3.out)
    go_upto_region 5 with (fail)
    obtain ⟨sb, hsb⟩ : ∃ sb, sb = w3.heap.size := ⟨_, rfl⟩
    have zsb : sb ≤ (w3.alloc (.cells #[] 2)).heap.size := by simp; omega
    have zsw : w.heap.size ≤ sb := by omega
    rw [← hsb] at S0 VL lV X4 ⊢
    generalize w3.alloc (.cells #[] 2) = w4 at *
    have RV0 : Hid (∀ w', Below sb w4 w' → RdI w' (.slice (some ⟨bh, oh, none⟩) nh vc) hs) := fun w' bl => RV.out.below VL.out (X4.out.trans (bl.mono (Nat.le_refl _)))
    have GB0 : Hid (∀ w', Below sb w4 w' → w'.heap[w.heap.size]? = some (.cells #[.int .i64 g.p, .slice g.xa n0 g.xc] 29 (0, 0))) := fun w' bl => ((bl.block _ lV).trans (X4.out.block _ lV)).trans V3.out
    clear hsb RV V3 X4
    go_wp2
    go_loopw [7, 8] (fun ov iv wr => ∃ (i c1 : Nat) (ad : Option Addr), i ≤ n0 ∧ iv = .int .i64 i ∧ ov = .slice ad i c1 ∧ Hid (OwnI wr sb (.slice ad i c1) (L.take i)) ∧ Hid (Below w.heap.size w wr) ∧ Hid (Below sb w4 wr)) (fun _ iv _ => n0 - (intOf iv).toNat)
    case atStart => exact ⟨0, 0, _, by omega, rfl, rfl, S0.out, B4.out, Below.refl _ _⟩
    case round =>
      obtain ⟨i, c1, ad, hi', rfl, rfl, ho, B, X⟩ := hrel
      clear S0 B4 p0 p1
      have hsz := X.out.size
      obtain ⟨⟨p0, p1⟩, -, -⟩ := boxedSv_at (GB0.out wr X.out)
      by_cases hlt : i < n0
      · obtain ⟨x, hx⟩ : ∃ x, g.x[i]? = some x := ⟨_, List.getElem?_eq_getElem (by have := E0.out; omega)⟩
        have okx := OK.out x (List.mem_of_getElem? hx)
        obtain ⟨ba, oa, ea, u0, u1, u2, u3⟩ := (H.out.r0.later B.out).at4g i x hx _ _ _ _ rfl
        have EGX := EG.out i x hx
        obtain ⟨f, t, r, v⟩ := x
        obtain ⟨F, hf⟩ : ∃ F : Nat, f = F := ⟨f.toNat, by have := okx.f0; simp only at this; omega⟩
        obtain ⟨T, ht⟩ : ∃ T : Nat, t = T := ⟨t.toNat, by have := okx.t0; simp only at this; omega⟩
        subst hf
        subst ht
        have Fn : F < nh := by have := okx.f1; simp only at this; have := NH.out; omega
        have Tn : T < nh := by have := okx.t1; simp only at this; have := NH.out; omega
        have r0 : -100 ≤ r := okx.r0
        have r1 : r ≤ 100 := okx.r1
        simp only at u0 u1 u2 u3
        obtain ⟨y, hy⟩ : ∃ y, hs[T]? = some y := ⟨_, List.getElem?_eq_getElem (by have := NL.out; omega)⟩
        obtain ⟨z, hz⟩ : ∃ z, hs[F]? = some z := ⟨_, List.getElem?_eq_getElem (by have := NL.out; omega)⟩
        have ey := HH.out.2 y (List.mem_of_getElem? hy)
        have ez := HH.out.2 z (List.mem_of_getElem? hz)
        have LV : Hid (L[i]? = some (r - y + z)) := by
          show _ = _
          rw [EGX]; simp [hy, hz]
        have q2 : IntKind.i64.wrap (r - y) = r - y := IntWalk.i64_in _ (by omega)
        have q3 : IntKind.i64.wrap (r - y + z) = r - y + z := IntWalk.i64_in _ (by omega)
        rw [ea] at p1
        have HY2 := Lib.hid hy
        have HZ2 := Lib.hid hz
        have own : Hid ((wr.alloc (.cells #[.int .i64 F, .int .i64 T, .int .i64 r, .int .i64 v] 45)).ownsRow sb 2 1 (.slice ad i c1) i ((L.take i).map (Value.int .i64))) := World.ownsRow.alloc (own_take LN.out (by omega) ho.out) _
        have X1 : Hid (Below sb w4 (wr.alloc (.cells #[.int .i64 F, .int .i64 T, .int .i64 r, .int .i64 v] 45))) := X.out.alloc (by omega) _
        have B1 : Hid (Below w.heap.size w (wr.alloc (.cells #[.int .i64 F, .int .i64 T, .int .i64 r, .int .i64 v] 45))) := B.out.alloc (by have := B.out.size; omega) _
        have XB : Hid ((wr.alloc (.cells #[.int .i64 F, .int .i64 T, .int .i64 r, .int .i64 v] 45)).heap[wr.heap.size]? = some (.cells #[.int .i64 F, .int .i64 T, .int .i64 r, .int .i64 v] 45 (0, 0))) := heap_alloc_new _ _
        have AB : Hid (∀ b, (Value.slice ad i c1).ownBlock = some b → b < wr.heap.size) := fun b hb => (ho.out.lt b hb).2
        clear hx okx EGX hy hz ey ez ho X B
        go_upto_region 9 with (fail)
        obtain ⟨xb, hxb⟩ : ∃ xb, xb = wr.heap.size := ⟨_, rfl⟩
        rw [← hxb] at XB AB ⊢
        clear hxb u0 u1 u2 u3 ea p0 p1
        generalize wr.alloc (.cells #[.int .i64 F, .int .i64 T, .int .i64 r, .int .i64 v] 45) = w1 at *
        have lg5 := own.out.lt
        have hs1 := X1.out.size
        obtain ⟨bh', oh', eh, c0⟩ := (RV0.out w1 X1.out).atV T y HY2.out
        obtain ⟨bh2, oh2, eh', c1'⟩ := (RV0.out w1 X1.out).atV F z HZ2.out
        simp only [Option.some.injEq, Addr.mk.injEq, and_true] at eh eh'
        obtain ⟨rfl, rfl⟩ := eh
        obtain ⟨rfl, rfl⟩ := eh'
        have lbh : bh < sb := VL.out bh rfl
        have lxb := (Array.getElem?_eq_some_iff.1 XB.out).1
        have KS : Hid (∀ w', w1.grownBy w' ((Value.slice ad i c1).ownBlock) → ((w'.cell? ⟨xb, 0, none⟩ = some (.int .i64 F) ∧ w'.cell? ⟨xb, 1, none⟩ = some (.int .i64 T) ∧ w'.cell? ⟨xb, 2, none⟩ = some (.int .i64 r)) ∧ w'.cell? ⟨bh, oh + T, none⟩ = some (.int .i64 y) ∧ w'.cell? ⟨bh, oh + F, none⟩ = some (.int .i64 z))) := fun w' b => by
          have hx := (b.block xb lxb (fun e => by have := AB.out _ e.symm; omega)).trans XB.out
          have hb : w'.heap[bh]? = w1.heap[bh]? := b.block bh (by omega) (fun e => by have := (lg5 _ e.symm).1; omega)
          obtain ⟨k0, k1, k2, -⟩ := boxSt_fourS hx
          refine ⟨⟨k0, k1, k2⟩, ?_, ?_⟩
          · rw [← c0]; simp only [World.cell?, hb]
          · rw [← c1']; simp only [World.cell?, hb]
        clear c0 c1'
        have ownD : Hid ((w1.alloc (.cells #[.int .i64 (r - y + z)] 2)).drew.ownsRow sb 2 1 (.slice ad i c1) i ((L.take i).map (Value.int .i64))) := own.out.alloc _
        have newD : Hid (∀ (j : Nat) (u : Value), ([.int .i64 (r - y + z)] : List Value)[j]? = some u → (w1.alloc (.cells #[.int .i64 (r - y + z)] 2)).drew.cell? ((⟨w1.heap.size, 0, none⟩ : Addr).add j) = some u) := World.news_of_block (cs := #[.int .i64 (r - y + z)]) (t := 2) (fr := (0, 0)) (heap_alloc_new w1 _)
        go_wp2_with fail
        go_region_held3 (fun w' => (w'.cell? ⟨xb, 0, none⟩ = some (.int .i64 F) ∧ w'.cell? ⟨xb, 1, none⟩ = some (.int .i64 T) ∧ w'.cell? ⟨xb, 2, none⟩ = some (.int .i64 r)) ∧ w'.cell? ⟨bh, oh + T, none⟩ = some (.int .i64 y) ∧ w'.cell? ⟨bh, oh + F, none⟩ = some (.int .i64 z))
          (first | exact S6.out | exact KS.out _ (grown_drewS _ _) | exact KS.out _ (grownBy_trans' (World.grownBy_alloc w1 _ _) (grown_drewS _ _)) | exact KS.out _ (World.grownBy_alloc w1 _ _))
          ((refine step_append_lies _ (by rfl) _ _ _ (by rfl) sb 2 i0 _ 1 8 Tryd.underlying33 hi hz0 hz1 hz2 rfl (by omega) _ _ _ (by rfl) ownD.out ⟨w1.heap.size, 0, none⟩ 1 1 [.int .i64 (r - y + z)] (by rfl) (by rfl) newD.out (by simp [Value.oneCell']) (by omega) (by unfold maxLen; omega) (by omega) (by simp; omega) (w1.heap.size + 1) (by simp) ?_; intro gg cap1 w6 hown1 hgrow hat hlt'; have gb : w1.grownBy w6 _ := grownBy_trans' (grownBy_trans' (World.grownBy_alloc w1 _ _) (grown_drewS _ _)) hgrow; have S6 := Lib.hid (KS.out _ gb)))
        rename_i hHeld
        clear hHeld
        all_goals
          have O6 : Hid (OwnI w6 sb (.slice (some ⟨gg, 0, none⟩) (i + 1) cap1) (L.take (i + 1))) := own_next2 LV.out (by first | exact hown1 | (rw [List.map_take]; exact hown1) | (rw [List.map_take] at hown1; exact hown1))
          have X6 : Hid (Below sb w4 w6) := X1.out.grown gb (by omega) (fun j e => (lg5 j e).1)
          have B6 : Hid (Below w.heap.size w w6) := B1.out.grown gb (by have := B1.out.size; omega) (fun j e => by have := (lg5 j e).1; omega)
          clear hown1 hgrow hat hlt' gb own ownD newD X1 B1 KS XB lg5 hs1 LV S6 AB q2 q3
          go_wp2
          exact ⟨⟨i + 1, cap1, _, by omega, by go_num, rfl, O6.out, B6.out, X6.out⟩, by simp only [intOf]; omega⟩
      · obtain rfl : i = n0 := by omega
        have O7 := Lib.hid (own_all LN.out ho.out)
        clear ho
        go_wp2
        go_returns
        refine ⟨_, rfl, ?_, B.out⟩
        rw [HYS.out]
        exact (OwnIC.of O7.out).mono zsw
end Go.Proofs.YthfmmlpbflfpaaaDoor
