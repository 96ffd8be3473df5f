/- Groups of points: the program's union-find. -/
import Derived.Test.YtcmocilojloolaaDoorSurvM
import Derived.Deep.RegionLaw
import Derived.Deep.DeepCutAuto
namespace Go.Proofs.YtcmocilojloolaaDoor
open Go.ChangeShapes Go.WideShapes Go.ChangeAt Go.RowKit
set_option linter.unusedVariables false
set_option linter.unusedSimpArgs false

/-- Groups of the call's own, in block gb. -/
abbrev OwnLk (w : World) (B gb n : Nat) (g : List Lk) : Prop := OwnS 110 2 encLk w B (.slice (some ⟨gb, 0, none⟩) n n) g

theorem OwnLk.at {w : World} {B gb n : Nat} {g : List Lk} (h : OwnLk w B gb n g) (hn : g.length = n) (p : Nat) (x : Lk) (hx : g[p]? = some x) :
    (w.cell? ⟨gb, p * 2, none⟩ = some (.int .i64 x.p) ∧ w.cell? ⟨gb, p * 2 + 1, none⟩ = some (.int .i64 x.r)) ∧ (w.frozen? ⟨gb, p * 2, none⟩ = false ∧ w.frozen? ⟨gb, p * 2 + 1, none⟩ = false) ∧ B ≤ gb ∧ gb < w.heap.size :=
  ⟨⟨h.cellAt encLk_len hn.symm p x hx 0 _ rfl, h.cellAt encLk_len hn.symm p x hx 1 _ rfl⟩, ⟨h.frozenAt hn.symm _, h.frozenAt hn.symm _⟩, h.lt gb rfl⟩

theorem OwnLk.put {w : World} {B gb n : Nat} {g : List Lk} (h : OwnLk w B gb n g) (hn : g.length = n) (p : Nat) (x y : Lk) (hx : g[p]? = some x) :
    OwnLk ((w.setCell ⟨gb, p * 2, none⟩ (.int .i64 y.p)).setCell ⟨gb, p * 2 + 1, none⟩ (.int .i64 y.r)) B gb n (g.set p y) := by
  have hp : p < g.length := (List.getElem?_eq_some_iff.1 hx).1
  have e := h.stored1 encLk_len hn.symm p 0 x ⟨y.p, x.r⟩ (.int .i64 y.p) hx (by omega) rfl
  have e2 := e.stored1 encLk_len (by rw [List.length_set]; exact hn.symm) p 1 ⟨y.p, x.r⟩ y (.int .i64 y.r) (by rw [List.getElem?_set_self hp]) (by omega) rfl
  rw [List.set_set] at e2
  exact e2

theorem grown_own {w w' : World} {B gb n : Nat} {g : List Lk} {row : Option Nat} (h : OwnLk w B gb n g) (hg : w.grownBy w' row) (hr : row ≠ some gb) : OwnLk w' B gb n g :=
  h.kept hg (Or.inr (fun e => hr e.symm))

theorem boxLk_kept {w w' : World} {b gb : Nat} {u v : Value} {t : TypeId} (hg : w.grownBy w' (some gb)) (hb : b ≠ gb) (hl : b < w.heap.size) (h : w.heap[b]? = some (.cells #[u, v] t (0, 0))) : w'.heap[b]? = some (.cells #[u, v] t (0, 0)) :=
  (hg.block b hl (fun e => hb (Option.some.inj e.symm).symm)).trans h

theorem boxed2_at {w : World} {g : Nat} {t : TypeId} {a b : Value} (h : w.heap[g]? = some (.cells #[a, b] t (0, 0))) :
    (w.cell? ⟨g, 0, none⟩ = some a ∧ w.cell? ⟨g, 1, none⟩ = some b) ∧ (w.frozen? ⟨g, 0, none⟩ = false ∧ w.frozen? ⟨g, 1, none⟩ = false) ∧ g < w.heap.size :=
  ⟨⟨cell_of_row w g 0 _ t _ h, cell_of_row w g 1 _ t _ h⟩, ⟨frozen_of_row w g 0 _ t h, frozen_of_row w g 1 _ t h⟩, (Array.getElem?_eq_some_iff.1 h).1⟩

def isStructT : TypeDesc → Bool
  | .struct _ => true
  | _ => false
theorem und_link : ∃ F, Tryd.prog.underlying 110 = some (.struct F) := by
  have h : (Tryd.prog.underlying 110).map isStructT = some true := by kernel_rfl
  cases e : Tryd.prog.underlying 110 with
  | none => rw [e] at h; simp at h
  | some d =>
    rw [e] at h
    cases d <;> first | exact ⟨_, rfl⟩ | (simp [isStructT] at h)
theorem info_link : (Tryd.prog.info? 110).map (fun i => i.size) = some 2 := by kernel_rfl

theorem grown_alloc0 (w : World) (o : Obj) (row : Option Nat) : w.grownBy (w.alloc o) row := (World.grownBy_alloc w o row)

set_option maxRecDepth 100000 in
set_option maxHeartbeats 8000000 in
theorem root_self (n gb B : Nat) (R : Nat → Nat) (S : Nat → Int) (D : Nat → Nat) (hn : n ≤ 8) (p : Nat) (hp : p < n) (hr : R p = p) (g : List Lk) (w : World) (hF : Forest n g R S D) (ho : OwnLk w B gb n g) :
    Calls Tryd.prog 85 #[.slice (some ⟨gb, 0, none⟩) n n, .int .i64 p] w fun e w' => ∃ g' : List Lk, e = .returned (.agg #[.int .i64 (R p : Nat), .int .i64 (S p)]) ∧ Forest n g' R S D ∧ OwnLk w' B gb n g' ∧ w.grownBy w' (some gb) := by
  obtain ⟨-, hz, hx⟩ := hF.zero p hp hr
  obtain ⟨⟨c0, c1⟩, -, -, lg⟩ := ho.at hF.len p _ hx
  have e1 : ((p : Int) == (p : Int)) = true := by simp
  have OO : Hid (OwnLk ((w.alloc (.cells #[.int .i64 p, .int .i64 0] 110)).alloc (.cells #[.int .i64 p, .int .i64 0] 110)) B gb n g) := (ho.alloc _).alloc _
  have GG : Hid (w.grownBy ((w.alloc (.cells #[.int .i64 p, .int .i64 0] 110)).alloc (.cells #[.int .i64 p, .int .i64 0] 110)) (some gb)) := grownBy_alloc' (grown_alloc0 _ _ _) _
  have NN : Hid (((w.alloc (.cells #[.int .i64 p, .int .i64 0] 110)).alloc (.cells #[.int .i64 p, .int .i64 0] 110)).heap[w.heap.size]? = some (.cells #[.int .i64 p, .int .i64 0] 110 (0, 0))) := box2_0 w _ _
  obtain ⟨F, hu⟩ := und_link
  have HF := Lib.hid hF
  have HZ := Lib.hid hz
  have HR := Lib.hid hr
  clear hF ho hz hx hr
  rw [HZ.out, HR.out]
  go_enter Tryd.func85, Tryd.ntmps85
  go_wp2
  refine bodyPost_ret (results_cell_row Tryd.results85 _ _ w.heap.size 110 #[.int .i64 p, .int .i64 0] (0, 0) (.struct F) rfl NN.out hu rfl info_link) rfl ?_
  exact ⟨rfl, g, HF.out, OO.out, GG.out⟩

set_option maxRecDepth 100000 in
set_option maxHeartbeats 8000000 in
theorem root_any (n gb B : Nat) (R : Nat → Nat) (S : Nat → Int) (D : Nat → Nat) (hn : n ≤ 8) (hS : ∀ q, q < n → -1099511627776 ≤ S q ∧ S q ≤ 1099511627776) : ∀ (d p : Nat), p < n → D p ≤ d → ∀ (g : List Lk) (w : World), Forest n g R S D → OwnLk w B gb n g →
    Calls Tryd.prog 85 #[.slice (some ⟨gb, 0, none⟩) n n, .int .i64 p] w fun e w' => ∃ g' : List Lk, e = .returned (.agg #[.int .i64 (R p : Nat), .int .i64 (S p)]) ∧ Forest n g' R S D ∧ OwnLk w' B gb n g' ∧ w.grownBy w' (some gb) := by
  intro d
  induction d with
  | zero =>
    intro p hp hd g w hF ho
    have hr : R p = p := by
      by_cases h : R p = p
      · exact h
      · obtain ⟨q, _, _, _, _, _, _, hD⟩ := hF.step p hp h; omega
    exact root_self n gb B R S D hn p hp hr g w hF ho
  | succ d ih =>
    intro p hp hd g w hF ho
    by_cases hr : R p = p
    · exact root_self n gb B R S D hn p hp hr g w hF ho
    obtain ⟨q, x, hq, hqp, hx, hR, hSx, hD⟩ := hF.step p hp hr
    obtain ⟨⟨c0, c1⟩, -, -, lg⟩ := ho.at hF.len p _ hx
    have e1 : ((q : Int) == (p : Int)) = false := by simp; omega
    have W0 : Hid (((w.alloc (.cells #[.int .i64 0, .int .i64 0] 110)).alloc (.cells #[.int .i64 q, .int .i64 x] 110)).heap[w.heap.size]? = some (.cells #[.int .i64 0, .int .i64 0] 110 (0, 0))) := box2_0 w _ _
    have W1 : Hid (((w.alloc (.cells #[.int .i64 0, .int .i64 0] 110)).alloc (.cells #[.int .i64 q, .int .i64 x] 110)).heap[w.heap.size + 1]? = some (.cells #[.int .i64 q, .int .i64 x] 110 (0, 0))) := box2_1 w _ _
    have OO : Hid (OwnLk ((w.alloc (.cells #[.int .i64 0, .int .i64 0] 110)).alloc (.cells #[.int .i64 q, .int .i64 x] 110)) B gb n g) := (ho.alloc _).alloc _
    have GG : Hid (w.grownBy ((w.alloc (.cells #[.int .i64 0, .int .i64 0] 110)).alloc (.cells #[.int .i64 q, .int .i64 x] 110)) (some gb)) := grownBy_alloc' (grown_alloc0 _ _ _) _
    have zz : w.heap.size + 2 ≤ ((w.alloc (.cells #[.int .i64 0, .int .i64 0] 110)).alloc (.cells #[.int .i64 q, .int .i64 x] 110)).heap.size := by simp
    have C := Lib.hid (fun w ho => ih q hq (by omega) g w hF ho)
    have qs : IntKind.i64.wrap (S q + x) = S p := by rw [hSx, Int.add_comm]; exact IntWalk.i64_in _ (by have := hS p hp; rw [hSx] at this; omega)
    have HF := Lib.hid hF
    have HR := Lib.hid hR
    have HN := Lib.hid hr
    obtain ⟨F, hu⟩ := und_link
    clear hF ho hx hSx hr hD hd hS ih hR
    go_enter Tryd.func85, Tryd.ntmps85
    go_wp2_with fail
    refine (C.out _ OO.out).mono ?_
    rintro e w3 ⟨g3, rfl, hF3, ho3, hg3⟩
    rw [HR.out]
    have V0 := Lib.hid (boxLk_kept hg3 (by omega) (by omega) W0.out)
    have V1 := Lib.hid (boxLk_kept hg3 (by omega) (by omega) W1.out)
    have G3 : Hid (w.grownBy w3 (some gb)) := grownBy_trans' GG.out hg3
    have z3 : w.heap.size + 2 ≤ w3.heap.size := by have := hg3.size; omega
    have HF3 := Lib.hid hF3
    have HO3 := Lib.hid ho3
    clear hF3 ho3 hg3 W0 W1 OO GG zz C c0 c1
    obtain ⟨⟨a0, a1⟩, ⟨f0, f1⟩, l0⟩ := boxed2_at V0.out
    obtain ⟨⟨b0, b1⟩, -, l1⟩ := boxed2_at V1.out
    obtain ⟨y, hy⟩ : ∃ y, g3[p]? = some y := ⟨_, List.getElem?_eq_getElem (by have := HF3.out.len; omega)⟩
    obtain ⟨⟨d0, d1⟩, ⟨h0, h1⟩, -, lg3⟩ := HO3.out.at HF3.out.len p y hy
    have hy' := Lib.hid hy
    clear hy
    go_wp2
    have HP := Lib.hid (HO3.out.put HF3.out.len p y ⟨(R p : Nat), S p⟩ hy'.out)
    have N1 : Hid (((w3.setCell ⟨gb, p * 2, none⟩ (.int .i64 (R p : Nat))).setCell ⟨gb, p * 2 + 1, none⟩ (.int .i64 (S p))).heap[w.heap.size]? = some (.cells #[.int .i64 0, .int .i64 0] 110 (0, 0))) := by
      show _ = _
      rw [Below.heap_setCell _ _ _ _ (by show w.heap.size ≠ gb; omega), Below.heap_setCell _ _ _ _ (by show w.heap.size ≠ gb; omega)]
      exact V0.out
    have G1 : Hid (w.grownBy ((w3.setCell ⟨gb, p * 2, none⟩ (.int .i64 (R p : Nat))).setCell ⟨gb, p * 2 + 1, none⟩ (.int .i64 (S p))) (some gb)) :=
      grownBy_trans' (grownBy_trans' G3.out (grownBy_setCell' _ _ _)) (grownBy_setCell' _ _ _)
    have s1 : ((w3.setCell ⟨gb, p * 2, none⟩ (.int .i64 (R p : Nat))).setCell ⟨gb, p * 2 + 1, none⟩ (.int .i64 (S p))).heap.size = w3.heap.size := by simp
    have hF5 := Lib.hid (HF3.out.short p hp HN.out)
    clear a0 a1 f0 f1 b0 b1 d0 d1 h0 h1 hy' V0 V1 G3 HO3 HF3
    generalize (w3.setCell ⟨gb, p * 2, none⟩ (.int .i64 (R p : Nat))).setCell ⟨gb, p * 2 + 1, none⟩ (.int .i64 (S p)) = w5 at *
    have N2 : Hid (((w5.setCell ⟨w.heap.size, 0, none⟩ (.int .i64 (R p : Nat))).setCell ⟨w.heap.size, 1, none⟩ (.int .i64 (S p))).heap[w.heap.size]? = some (.cells #[.int .i64 (R p : Nat), .int .i64 (S p)] 110 (0, 0))) := boxLk_put (q := ⟨0, 0⟩) N1.out ⟨(R p : Nat), S p⟩
    have O2 : Hid (OwnLk ((w5.setCell ⟨w.heap.size, 0, none⟩ (.int .i64 (R p : Nat))).setCell ⟨w.heap.size, 1, none⟩ (.int .i64 (S p))) B gb n (g3.set p ⟨(R p : Nat), S p⟩)) := HP.out.of_block fun k hk => by
      have : gb = k := by simpa [Value.ownBlock] using hk
      rw [Below.heap_setCell _ _ _ _ (by show k ≠ w.heap.size; omega), Below.heap_setCell _ _ _ _ (by show k ≠ w.heap.size; omega)]
    have G2 : Hid (w.grownBy ((w5.setCell ⟨w.heap.size, 0, none⟩ (.int .i64 (R p : Nat))).setCell ⟨w.heap.size, 1, none⟩ (.int .i64 (S p))) (some gb)) :=
      ⟨G1.out.os, G1.out.tape, G1.out.output, by have := G1.out.size; simpa using this, fun k hk hne => by
        rw [Below.heap_setCell _ _ _ _ (by show k ≠ w.heap.size; omega), Below.heap_setCell _ _ _ _ (by show k ≠ w.heap.size; omega)]
        exact G1.out.block k hk hne⟩
    have l2 : w.heap.size < ((w5.setCell ⟨w.heap.size, 0, none⟩ (.int .i64 (R p : Nat))).setCell ⟨w.heap.size, 1, none⟩ (.int .i64 (S p))).heap.size := by simp; omega
    clear HP N1 G1 s1
    generalize (w5.setCell ⟨w.heap.size, 0, none⟩ (.int .i64 (R p : Nat))).setCell ⟨w.heap.size, 1, none⟩ (.int .i64 (S p)) = w6 at *
    have NE : Hid ((w6.alloc (.cells #[.int .i64 (R p : Nat), .int .i64 (S p)] 110)).heap[w.heap.size]? = some (.cells #[.int .i64 (R p : Nat), .int .i64 (S p)] 110 (0, 0))) := (Below.heap_alloc _ _ _ l2).trans N2.out
    refine bodyPost_ret (results_cell_row Tryd.results85 _ _ w.heap.size 110 #[.int .i64 (R p : Nat), .int .i64 (S p)] (0, 0) (.struct F) rfl NE.out hu rfl info_link) rfl ?_
    exact ⟨_, rfl, hF5.out, O2.out.alloc _, grownBy_alloc' G2.out _⟩
end Go.Proofs.YtcmocilojloolaaDoor
