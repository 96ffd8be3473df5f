/- Connected surveys: of the specification. -/
import Derived.Test.YtcmocilojloolaaDoorTreeS
import Derived.Test.YtcmocilojloolaaDoorAppI
import Derived.Test.YtcmocilojloolaaDoorErrW
import Derived.Deep.RegionLaw
namespace Go.Proofs.YtcmocilojloolaaDoor
open Go.ChangeShapes Go.WideShapes Go.ChangeAt Go.RowKit
set_option linter.unusedVariables false
set_option linter.unusedSimpArgs false

/-- The tree of a survey, as the specification makes it. -/
def trOf (g : Sv) : Tr := trTo g.p.toNat g.x g.x.length
/-- A valid, connected survey. -/
def Con (g : Sv) : Prop := OkSv g ∧ trAll (trOf g) = true
theorem con_same {g k : Sv} (e : g.same k) : Con g ↔ Con k := by
  unfold Con trOf
  rw [okSv_same e, e.1, e.2]
theorem trOf_same {g k : Sv} (e : g.same k) : trOf g = trOf k := by unfold trOf; rw [e.1, e.2]
theorem OkSv.sts {g : Sv} (h : OkSv g) : ∀ x ∈ g.x, OkSt g.p.toNat x := fun x hx => (h.x0 x hx).ok (by have := h.p0; omega)

set_option maxRecDepth 100000 in
set_option maxHeartbeats 4000000 in
theorem l10Whole_any (G : Nat) (ty : TypeId) (g : Sv) (n0 : Nat) (w : World) (hG : w.heap[G]? = some (.cells #[.int .i64 g.p, .slice g.xa n0 g.xc] ty (0, 0))) (hr : RdSv w n0 g) (l0 : n0 ≤ 1048576) (b : Bool) (hb : b = true ↔ Con g) :
    Calls Tryd.prog 44 #[.pointer (some ⟨G, 0, none⟩)] w fun e w' => e = .returned (.bool b) ∧ Below w.heap.size w w' := by
  obtain ⟨b1, h1⟩ := bool_ofV (OkSv g)
  have e0 := hr.len
  have C1 := Lib.hid (l10Is_any G ty g n0 w hG hr l0 b1 h1)
  have lG : G < w.heap.size := (Array.getElem?_eq_some_iff.1 hG).1
  have C2 : Hid (∀ w1, OkSv g → Below w.heap.size w w1 → Calls Tryd.prog 80 #[.pointer (some ⟨G, 0, none⟩)] w1 fun e w' => Below w1.heap.size w1 w' ∧
      ((trAll (trOf g) = false ∧ e = .returned (.tuple #[.slice none 0 0, .slice none 0 0, .bool false])) ∨
       (trAll (trOf g) = true ∧ ∃ u v, e = .returned (.tuple #[u, v, .bool true]) ∧ OwnI w' w1.heap.size u (trOf g).o ∧ OwnI w' w1.heap.size v (trOf g).h))) := by
    intro w1 ok bl
    have hp : g.p = (g.p.toNat : Int) := by have := ok.p0; omega
    have hG1 := (bl.block G lG).trans hG
    rw [hp] at hG1
    have := l10Tree_any G ty g.p.toNat n0 g.xa g.xc g.x w1 hG1 (hr.r0.later bl) e0 (by have := ok.n0; omega) (by have := ok.p0; omega) ok.sts
    unfold trOf
    rw [← e0]
    exact this
  have H1 := Lib.hid h1
  have HB := Lib.hid hb
  clear hG hr h1 hb e0
  go_enter Tryd.func44, Tryd.ntmps44
  go_wp2_with fail
  refine C1.out.mono ?_
  rintro e w1 ⟨rfl, b1'⟩
  have B1 := Lib.hid b1'
  clear b1'
  cases b1 with
  | false =>
    obtain rfl : b = false := b_false HB.out (fun h => by have := H1.out.mpr h.1; simp at this)
    go_wp2
    go_ret
    exact ⟨rfl, B1.out⟩
  | true =>
    have ok := H1.out.mp (by trivial)
    have C3 := Lib.hid (C2.out w1 ok B1.out)
    have OKH := Lib.hid ok
    clear C2 C1 ok
    go_wp2_with fail
    refine C3.out.mono ?_
    rintro e w2 ⟨b2, h | h⟩
    · obtain ⟨hf, rfl⟩ := h
      obtain rfl : b = false := b_false HB.out (fun h => by have := h.2; rw [hf] at this; cases this)
      have B2 : Hid (Below w.heap.size w w2) := B1.out.trans (b2.mono B1.out.size)
      clear b2 hf HB C3
      go_wp2
      go_ret
      exact ⟨rfl, B2.out⟩
    · obtain ⟨hf, u, v, rfl, -, -⟩ := h
      obtain rfl : b = true := HB.out.mpr ⟨OKH.out, hf⟩
      have B2 : Hid (Below w.heap.size w w2) := B1.out.trans (b2.mono B1.out.size)
      clear b2 hf HB C3
      go_wp2
      go_ret
      exact ⟨rfl, B2.out⟩

/-- The tree, where the survey is connected. -/
theorem l10Tree_con (G : Nat) (ty : TypeId) (g : Sv) (n0 : Nat) (w : World) (hG : w.heap[G]? = some (.cells #[.int .i64 g.p, .slice g.xa n0 g.xc] ty (0, 0))) (hr : RdSv w n0 g) (hc : Con g) :
    Calls Tryd.prog 80 #[.pointer (some ⟨G, 0, none⟩)] w fun e w' => ∃ u v, e = .returned (.tuple #[u, v, .bool true]) ∧ OwnI w' w.heap.size u (trOf g).o ∧ OwnI w' w.heap.size v (trOf g).h ∧ Below w.heap.size w w' := by
  obtain ⟨ok, ha⟩ := hc
  have e0 := hr.len
  have hp : g.p = (g.p.toNat : Int) := by have := ok.p0; omega
  rw [hp] at hG
  have := l10Tree_any G ty g.p.toNat n0 g.xa g.xc g.x w hG hr.r0 e0 (by have := ok.n0; omega) (by have := ok.p0; omega) ok.sts
  unfold trOf at ha ⊢
  rw [← e0] at ha ⊢
  refine this.mono ?_
  rintro e w' ⟨bl, h | h⟩
  · rw [h.1] at ha; cases ha
  · obtain ⟨-, u, v, rfl, o1, o2⟩ := h
    exact ⟨u, v, rfl, o1, o2, bl⟩


theorem grown_drewS (w : World) (row : Option Nat) : w.grownBy w.drew row := ⟨rfl, rfl, rfl, Nat.le_refl _, fun _ _ _ => rfl⟩

theorem trOf_h {g : Sv} (ok : OkSv g) : (trOf g).h.length = g.p.toNat ∧ ∀ x ∈ (trOf g).h, -1000000 ≤ x ∧ x ≤ 1000000 := by
  have h := trTo_ok ok.sts g.x.length
  have tbi := tb_le8 (k := g.x.length) (by have := ok.n0; omega)
  refine ⟨h.lh, fun x hx => ?_⟩
  obtain ⟨k, hk, rfl⟩ := List.mem_iff_getElem.1 hx
  have b0 := h.b0 k (by have := h.lh; unfold trOf at hk; omega)
  have b1 := h.b1 k (by have := h.lh; unfold trOf at hk; omega)
  have e : (trTo g.p.toNat g.x g.x.length).h.getD k 0 = (trOf g).h[k] := by unfold trOf at hk ⊢; simp [hk]
  rw [e] at b0 b1
  omega

end Go.Proofs.YtcmocilojloolaaDoor
