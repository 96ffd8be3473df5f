/- The turns that can be taken: the program; both sides together. -/
import Derived.Test.YtkdecpnbbpmooaaSteerT
namespace Go.Proofs.Ytkdecpnbbpmooaa
open Go.ChangeShapes Go.WideShapes Go.ChangeAt Go.RowKit
set_option linter.unusedVariables false
set_option linter.unusedSimpArgs false

theorem follows_len (l : Lm) (c : Co) (P : Int → Bool) (N : Nat) : (follows l c P N).length ≤ N := by
  unfold follows; rw [List.length_map]; exact goodL_len _ _ _
theorem follows_turns (l : Lm) (c : Co) (P : Int → Bool) (N : Nat) : (follows l c P N).map (·.t) = goodL (-l.m) P N := by
  unfold follows
  rw [List.map_map]
  exact List.map_id' _

/-- The turns of the first courses. -/
def turnsTo (xs : List Co) (k : Nat) : List Int := (xs.take k).map (·.t)

set_option maxRecDepth 100000 in
set_option maxHeartbeats 4000000 in
theorem implTurns_yes (l : Lm) (c : Co) (ok : OkC l c) (P : Int → Bool) (hP : ∀ t, P t = true ↔ Goes l c t) (N : Nat) (hN : (N : Int) = 2 * l.m + 1) (w : World) :
    Calls Try.prog 22 #[(.agg #[.int .i64 l.m, .int .i64 l.c]), (.agg #[.int .i64 c.o, .int .i64 c.h, .int .i64 c.t])] w fun e w' => ∃ v, e = .returned (.tuple #[v, .bool true]) ∧ OwnI w' w.heap.size v (goodL (-l.m) P N) ∧ Below w.heap.size w w' := by
  obtain ⟨i0, hi, hz0, hz1, hz2⟩ := info_parts info_i64'
  have lN : N ≤ 7 := by have := ok.1.1; omega
  have C1 := Lib.hid (fun w => implCourse_any l c true ⟨fun _ => ok, fun _ => rfl⟩ w)
  have C2 := Lib.hid (fun w => nextCourses_any l c ok P hP N hN w)
  rw [← follows_turns l c P N]
  have lx := follows_len l c P N
  obtain ⟨xs, hxs⟩ : ∃ xs, xs = follows l c P N := ⟨_, rfl⟩
  rw [← hxs] at lx C2 ⊢
  clear ok hP hN hxs
  go_enter Try.func22, Try.ntmps22
  go_wp2_with fail
  refine (C1.out _).mono ?_
  rintro e u1 ⟨rfl, b1⟩
  have su1 : w.heap.size + 2 ≤ u1.heap.size := by have := b1.size; simp only [World.size_alloc] at this; omega
  have BU1 : Hid (Below w.heap.size w u1) := Below.trans (by go_grown) (b1.mono (by simp only [World.size_alloc]; omega))
  obtain ⟨⟨k0, k1⟩, -⟩ := boxLm_at ((b1.block (w.heap.size) (by simp only [World.size_alloc]; omega)).trans (boxN2_0 w _ _))
  obtain ⟨⟨j0, j1, j2⟩, -⟩ := boxCo_at ((b1.block (w.heap.size + 1) (by simp only [World.size_alloc]; omega)).trans (boxN2_1 w _ _))
  clear b1 C1
  go_wp2_with fail
  refine (C2.out _).mono ?_
  rintro e u ⟨v0, rfl, o2, b2⟩
  have su : w.heap.size + 2 ≤ u.heap.size := by have := b2.size; omega
  have BU : Hid (Below w.heap.size w u) := BU1.out.trans (b2.mono (by omega))
  have lt0 := Lib.hid o2.lt
  obtain ⟨a0, cap0, rfl, rd0⟩ := o2.rd encCo_len
  have RD := Lib.hid rd0
  have LT := Lib.hid (fun b (h : (Value.slice a0 xs.length cap0).ownBlock = some b) => (lt0.out b h).2)
  obtain ⟨n, hn⟩ : ∃ n, n = xs.length := ⟨_, rfl⟩
  rw [← hn] at lx LT ⊢
  have HNN := Lib.hid hn
  clear b2 C2 k0 k1 j0 j1 j2 o2 rd0 hn BU1 lt0
  have own0 : Hid (OwnI u u.heap.size (.slice none 0 0) (turnsTo xs 0)) := World.ownsRow_nil _ _ _ _
  have B0 : Hid (Below u.heap.size u u) := Below.refl _ _
  go_wp2
  go_loopw [6, 17] (fun v i wr => ∃ k : Nat, k ≤ n ∧ i = .int .i64 (k : Int) ∧ Hid (OwnI wr u.heap.size v (turnsTo xs k)) ∧ Hid (Below u.heap.size u wr)) (fun _ i _ => n - (intOf i).toNat)
  case atStart => exact ⟨0, by omega, by simp, own0, B0⟩
  case round =>
    obtain ⟨k, hk, rfl, OK, BK⟩ := hrel
    clear own0 B0
    obtain ⟨a1, cap1, rfl, -⟩ := OK.out.rd
    obtain ⟨L, hL⟩ : ∃ L, L = (turnsTo xs k).length := ⟨_, rfl⟩
    have lL : L ≤ 100 := by rw [hL, turnsTo, List.length_map, List.length_take]; omega
    rw [← hL] at OK ⊢
    have HL := Lib.hid hL
    clear hL
    have sz := BK.out.size
    by_cases hlt : k < n
    · obtain ⟨x, hx⟩ : ∃ x, xs[k]? = some x := ⟨_, List.getElem?_eq_getElem (by have := HNN.out; omega)⟩
      obtain ⟨ba, oa, rfl, ca'⟩ := RD.out.resolve_left (by intro h; have := HNN.out; rw [h] at this; simp at this; omega)
      have q1 : IntKind.i64.wrap ((k : Int) + 1) = ((k + 1 : Nat) : Int) := by push_cast; exact IntWalk.i64_in _ (by omega)
      have la : ba < u.heap.size := LT.out ba rfl
      have c1 := ca' k x hx
      have e0 : wr.cell? ⟨ba, oa + k * 3, none⟩ = some (.int .i64 x.o) := (BK.out.cell (p := ⟨ba, oa + (k * 3 + 0), none⟩) la).trans (c1 0 _ rfl)
      have e1 : wr.cell? ⟨ba, oa + k * 3 + 1, none⟩ = some (.int .i64 x.h) := (BK.out.cell (p := ⟨ba, oa + (k * 3 + 1), none⟩) la).trans (c1 1 _ rfl)
      have e2 : wr.cell? ⟨ba, oa + k * 3 + 2, none⟩ = some (.int .i64 x.t) := (BK.out.cell (p := ⟨ba, oa + (k * 3 + 2), none⟩) la).trans (c1 2 _ rfl)
      have GS : Hid (turnsTo xs (k + 1) = turnsTo xs k ++ [x.t]) := by show _ = _; unfold turnsTo; rw [List.take_add_one, hx]; simp
      have ne : ¬ ba = wr.heap.size := by omega
      have nl : ba < wr.heap.size := by omega
      have own := OK.out
      unfold OwnI at own
      rw [← HL.out] at own
      have OWN := Lib.hid own
      clear ca' c1 hx own
      go_wp2_with (at_builtin; refine wpList_append_lies _ rfl _ _ _ rfl u.heap.size 2 i0 _ 1 8 Try.underlying38 hi hz0 hz1 hz2 rfl (by omega) _ _ _ rfl ((OWN.out.alloc _).alloc _) ⟨wr.heap.size + 1, 0, none⟩ 1 1 [.int .i64 x.t] rfl rfl (World.news_of_block (cs := #[.int .i64 x.t]) (t := 2) (fr := (0, 0)) (cbox2 wr _ _)) (by simp [Value.oneCell']) (by omega) (by unfold maxLen; omega) (by omega) (by simp only [World.size_alloc]; omega) _ rfl ?_)
      intro gg cap1 w5 hown1 hgrow hat hlt'
      have O5 : Hid (OwnI w5 u.heap.size (.slice (some ⟨gg, 0, none⟩) (L + 1) cap1) (turnsTo xs (k + 1))) := by
        show OwnI _ _ _ _
        unfold OwnI
        rw [GS.out, List.length_append, ← HL.out, List.map_append]
        exact hown1
      have gr := grownBy_trans' (grownBy_trans' (World.grownBy_alloc wr _ _) (World.grownBy_alloc _ _ _)) hgrow
      have B5 : Hid (Below u.heap.size u w5) := BK.out.grown gr (by omega) (fun j e => (OK.out.lt j e).1)
      clear hown1 hgrow hat hlt' OWN OK BK gr e0 e1 e2
      go_wp2
      exact ⟨⟨k + 1, by omega, by push_cast; rfl, O5, B5⟩, by simp only [intOf]; omega⟩
    · obtain rfl : k = n := by omega
      have FIN : Hid (turnsTo xs k = xs.map (·.t)) := by show _ = _; unfold turnsTo; rw [HNN.out, List.take_length]
      rw [FIN.out] at OK
      clear FIN
      go_wp2
      go_ret2
      exact ⟨_, rfl, OK.out.mono (by omega), BU.out.trans (BK.out.mono (by omega))⟩

set_option maxHeartbeats 2000000 in
theorem implTurns_no (l : Lm) (c : Co) (ok : ¬ OkC l c) (w : World) :
    Calls Try.prog 22 #[(.agg #[.int .i64 l.m, .int .i64 l.c]), (.agg #[.int .i64 c.o, .int .i64 c.h, .int .i64 c.t])] w fun e w' => ∃ v, e = .returned (.tuple #[v, .bool false]) ∧ OwnI w' w.heap.size v [] ∧ Below w.heap.size w w' := by
  have C1 := Lib.hid (fun w => implCourse_any l c false ⟨(fun e => by cases e), (fun e => absurd e ok)⟩ w)
  clear ok
  go_enter Try.func22, Try.ntmps22
  go_wp2_with fail
  refine (C1.out _).mono ?_
  rintro e u ⟨rfl, b1⟩
  have BU : Hid (Below w.heap.size w u) := Below.trans (by go_grown) (b1.mono (by simp only [World.size_alloc]; omega))
  clear b1 C1
  go_wp2
  go_ret2
  exact ⟨_, rfl, World.ownsRow_nil _ _ _ _, BU.out⟩

theorem exTurnsFrom (l : Lm) (c : Co) : ∃ (ys : List Int) (b : Bool), ys.length ≤ 1048576 ∧
    Hid (∀ (w : World), (fun _ => True) w → Calls Try.prog 21 #[(.agg #[.int .i64 l.m, .int .i64 l.c]), (.agg #[.int .i64 c.o, .int .i64 c.h, .int .i64 c.t])] w fun e w' => ∃ v, e = .returned (.tuple #[v, .bool b]) ∧ OwnI w' w.heap.size v ys ∧ Below w.heap.size w w') ∧
    Hid (∀ (w : World), (fun _ => True) w → Calls Try.prog 22 #[(.agg #[.int .i64 l.m, .int .i64 l.c]), (.agg #[.int .i64 c.o, .int .i64 c.h, .int .i64 c.t])] w fun e w' => ∃ v, e = .returned (.tuple #[v, .bool b]) ∧ OwnI w' w.heap.size v ys ∧ Below w.heap.size w w') := by
  by_cases ok : OkC l c
  · obtain ⟨P, hP⟩ := goes_dec l c
    have hm := ok.1.1
    obtain ⟨N, hN⟩ : ∃ N : Nat, (N : Int) = 2 * l.m + 1 := ⟨(2 * l.m + 1).toNat, by omega⟩
    exact ⟨_, true, Nat.le_trans (goodL_len (-l.m) P N) (by omega), fun w _ => specTurns_yes l c ok P hP N hN w, fun w _ => implTurns_yes l c ok P hP N hN w⟩
  · exact ⟨[], false, by simp, fun w _ => specTurns_no l c ok w, fun w _ => implTurns_no l c ok w⟩
end Go.Proofs.Ytkdecpnbbpmooaa
