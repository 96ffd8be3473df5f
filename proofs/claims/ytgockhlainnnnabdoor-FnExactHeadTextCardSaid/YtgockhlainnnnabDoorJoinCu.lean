/- Joined texts of Cutters. (Written by tools/joins.py.) -/
import Derived.Test.YtgockhlainnnnabDoorJoinG
import Derived.Test.YtgockhlainnnnabDoorCutters
import Derived.Test.YtgockhlainnnnabDoorDec2
namespace Go.Proofs.YtgockhlainnnnabDoor
open Go.ChangeShapes Go.WideShapes Go.ChangeAt Go.RowKit
set_option linter.unusedVariables false
set_option linter.unusedSimpArgs false

set_option maxRecDepth 100000 in
set_option maxHeartbeats 8000000 in
theorem joinCu_any (tx : Cu → List UInt8) (v : Value) (xs : List Cu) (sep : List UInt8) (hs : sep.length ≤ 4) (w : World) (hr : RdS 2 encCu w v xs) (lx : xs.length ≤ 1048576) (M : Nat) (hM : M ≤ 1000) (hx : ∀ x ∈ xs, (tx x).length ≤ M) (T : World → Prop) (hlat : ∀ w w', T w → Below w.heap.size w w' → T w') (hT : T w)
    (hC : ∀ x ∈ xs, ∀ w, T w → Calls Tryd.prog 45 #[(.agg #[.int .i64 x.k, .int .i64 x.l])] w fun e w' => e = .returned (.string ⟨(tx x).toArray⟩) ∧ Below w.heap.size w w') :
    Calls Tryd.prog 44 #[v, .string ⟨sep.toArray⟩, .func (.func 45) #[] #[]] w fun e w' => e = .returned (.string ⟨(joinG sep (xs.map tx) xs.length).toArray⟩) ∧ Below w.heap.size w w' := by
  have HR := Lib.hid hr
  obtain ⟨a, cap, rfl, rd⟩ := hr
  have HX := Lib.hid hx
  have HC := Lib.hid hC
  have HT := Lib.hid hT
  have HL := Lib.hid hlat
  have JL := Lib.hid (joinG_len sep hs (xs.map tx) M (fun t ht => by obtain ⟨x, hx1, rfl⟩ := List.mem_map.1 ht; exact hx x hx1))
  obtain ⟨n, hn⟩ : ∃ n, n = xs.length := ⟨_, rfl⟩
  rw [List.length_map, ← hn] at JL
  rw [← hn] at lx ⊢
  have HN := Lib.hid hn
  have I0 : Hid (Bld w.heap.size w.heap.size (joinG sep (xs.map tx) 0) (w.alloc (.cells #[.pointer none, .slice none 0 0] 132))) := Lib.IsBuilderF.of (Lib.fresh_isBuilder _ _ w)
  have B0 : Hid (Below w.heap.size w (w.alloc (.cells #[.pointer none, .slice none 0 0] 132))) := by show Below _ _ _; go_grown
  have RDS : Hid (∀ w', Below w.heap.size w w' → ∀ k x, xs[k]? = some x → 0 < n → ∃ ba oa, a = some ⟨ba, oa, none⟩ ∧ w'.cell? ⟨ba, oa + k * 2, none⟩ = some (.int .i64 x.k) ∧ w'.cell? ⟨ba, oa + k * 2 + 1, none⟩ = some (.int .i64 x.l)) := by
    intro w' hb k x hk hn0
    obtain ⟨a', c', hv, h⟩ := HR.out.later hb
    simp only [Value.slice.injEq] at hv
    obtain ⟨rfl, -, -⟩ := hv
    obtain ⟨ba, oa, e, h2⟩ := h.resolve_left (by intro e; rw [e] at hk; simp at hk)
    exact ⟨ba, oa, e, h2 k x hk 0 _ rfl, h2 k x hk 1 _ rfl⟩
  clear hn hx hT hC hlat rd
  go_enter Tryd.func44, Tryd.ntmps44
  go_wp2
  go_loopw [12] (fun i wr => ∃ k : Nat, k ≤ n ∧ i = .int .i64 (k : Int) ∧ Hid (Bld w.heap.size w.heap.size (joinG sep (xs.map tx) k) wr) ∧ Hid (Below w.heap.size w wr)) (fun i _ => n - (intOf i).toNat)
  case atStart => exact ⟨0, by omega, by simp, I0, B0⟩
  case round =>
    obtain ⟨k, hk, rfl, I, B⟩ := hrel
    clear I0 B0
    have sz := B.out.size
    have lw : w.heap.size < wr.heap.size := by rcases I.out with h | h <;> exact h.lt
    by_cases hlt : k < n
    · obtain ⟨x, hxk⟩ : ∃ x, xs[k]? = some x := ⟨_, List.getElem?_eq_getElem (by have := HN.out; omega)⟩
      obtain ⟨ba, oa, rfl, c0, c1⟩ := RDS.out wr B.out k x hxk (by omega)
      have q1 : IntKind.i64.wrap ((k : Int) + 1) = ((k + 1 : Nat) : Int) := by push_cast; exact IntWalk.i64_in _ (by omega)
      have hgd : (xs.map tx).getD k [] = tx x := by simp [List.getD, hxk]
      have JLk := JL.out k hk
      have jl : (joinG sep (xs.map tx) k).length ≤ 1073741824 := Nat.le_trans JLk (Nat.le_trans (Nat.mul_le_mul (show M + 4 ≤ 1024 by omega) (show k ≤ 1048576 by omega)) (by decide))
      have ll : (tx x).length ≤ M := HX.out x (List.mem_of_getElem? hxk)
      have JS : Hid (joinG sep (xs.map tx) (k + 1) = joinG sep (xs.map tx) k ++ ((if k = 0 then [] else sep) ++ tx x)) := by show _ = _; simp only [joinG, hgd]
      have C := Lib.hid (HC.out x (List.mem_of_getElem? hxk))
      clear hxk hgd JLk
      by_cases k0 : k = 0
      · subst k0
        have z0 : wr.cell? ⟨ba, oa, none⟩ = some (.int .i64 x.k) := by simpa using c0
        have z1 : wr.cell? ⟨ba, oa + 1, none⟩ = some (.int .i64 x.l) := by simpa using c1
        clear c0 c1
        go_wp2_with fail
        generalize hx1 : wr.alloc (.cells #[.int .i64 x.k, .int .i64 x.l] 77) = w1
        have bb1 : Below wr.heap.size wr w1 := by rw [← hx1]; go_grown
        have nb1 : w1.heap[wr.heap.size]? = some (.cells #[.int .i64 x.k, .int .i64 x.l] 77 (0, 0)) := by rw [← hx1]; exact heap_alloc_new _ _
        have B1 : Hid (Below w.heap.size w w1) := B.out.trans (bb1.mono sz)
        have I1 := Lib.hid (I.out.later bb1)
        clear hx1 bb1 z0 z1 I B
        obtain ⟨⟨u0, u1⟩, -, -⟩ := boxCu_at nb1
        go_wp2_with fail
        refine (C.out _ (HL.out _ _ HT.out B1.out)).mono ?_
        rintro e w2 ⟨rfl, b2⟩
        have I2 := I1.out.later b2
        have B2 : Hid (Below w.heap.size w w2) := B1.out.trans (b2.mono B1.out.size)
        have W := Lib.hid (writeString_any w.heap.size w.heap.size _ ⟨(tx x).toArray⟩ w2 I2 (by show _ + (tx x).toArray.size ≤ _; rw [List.size_toArray]; omega) B2.out.size)
        clear b2 I2 C u0 u1 nb1 I1 B1
        go_wp2_with fail
        refine W.out.mono ?_
        rintro e w3 ⟨rfl, i3, b3, -⟩
        have I3 : Hid (Bld w.heap.size w.heap.size (joinG sep (xs.map tx) (0 + 1)) w3) := by
          show Bld _ _ _ _
          rw [JS.out]
          exact i3
        have B3 : Hid (Below w.heap.size w w3) := B2.out.trans b3
        clear i3 b3 B2 W JS
        go_wp2
        exact ⟨⟨0 + 1, by omega, by push_cast; rfl, I3, B3⟩, by simp only [intOf]; omega⟩
      · have kp : 0 < k := by omega
        go_wp2_with fail
        generalize hx1 : wr.alloc (.cells #[.int .i64 x.k, .int .i64 x.l] 77) = w1
        have bb1 : Below wr.heap.size wr w1 := by rw [← hx1]; go_grown
        have nb1 : w1.heap[wr.heap.size]? = some (.cells #[.int .i64 x.k, .int .i64 x.l] 77 (0, 0)) := by rw [← hx1]; exact heap_alloc_new _ _
        have lb1 : wr.heap.size < w1.heap.size := (Array.getElem?_eq_some_iff.1 nb1).1
        have B1 : Hid (Below w.heap.size w w1) := B.out.trans (bb1.mono sz)
        have I1 := I.out.later bb1
        have W1 := Lib.hid (writeString_any w.heap.size w.heap.size _ ⟨sep.toArray⟩ w1 I1 (by show _ + sep.toArray.size ≤ _; rw [List.size_toArray]; omega) B1.out.size)
        have NB1 := Lib.hid nb1
        clear hx1 bb1 c0 c1 I B I1 nb1
        refine W1.out.mono ?_
        rintro e w2 ⟨rfl, i2, b2, g2⟩
        have nb2 := g2 _ _ NB1.out (fun e => by have e2 := Option.some.inj e; omega) (fun c fz h => by injection h with _ h2; exact absurd h2 (by decide))
        have B2 : Hid (Below w.heap.size w w2) := B1.out.trans b2
        have I2 := Lib.hid i2
        clear i2 b2 g2 NB1 W1 B1
        obtain ⟨⟨u0, u1⟩, -, -⟩ := boxCu_at nb2
        clear nb2
        go_wp2_with fail
        refine (C.out _ (HL.out _ _ HT.out B2.out)).mono ?_
        rintro e w3 ⟨rfl, b3⟩
        have I3 := I2.out.later b3
        have B3 : Hid (Below w.heap.size w w3) := B2.out.trans (b3.mono B2.out.size)
        have W := Lib.hid (writeString_any w.heap.size w.heap.size _ ⟨(tx x).toArray⟩ w3 I3 (by show (_ ++ sep.toArray.toList).length + (tx x).toArray.size ≤ _; rw [List.size_toArray, List.length_append, List.toList_toArray]; omega) B3.out.size)
        clear b3 I3 C u0 u1 I2 B2
        go_wp2_with fail
        refine W.out.mono ?_
        rintro e w4 ⟨rfl, i4, b4, -⟩
        have I4 : Hid (Bld w.heap.size w.heap.size (joinG sep (xs.map tx) (k + 1)) w4) := by
          show Bld _ _ _ _
          rw [JS.out, if_neg k0, ← List.append_assoc]
          exact i4
        have B4 : Hid (Below w.heap.size w w4) := B3.out.trans b4
        clear i4 b4 B3 W JS
        go_wp2
        exact ⟨⟨k + 1, by omega, by push_cast; rfl, I4, B4⟩, by simp only [intOf]; omega⟩
    · obtain rfl : k = n := by omega
      have jl : (joinG sep (xs.map tx) k).length ≤ 1073741824 := Nat.le_trans (JL.out k hk) (Nat.le_trans (Nat.mul_le_mul (show M + 4 ≤ 1024 by omega) (show k ≤ 1048576 by omega)) (by decide))
      have W := Lib.hid (Tryd.Builder_String_any_k w.heap.size w.heap.size _ wr I.out sz)
      clear I
      go_wp2_with fail
      refine W.out.mono ?_
      rintro e w1 ⟨rfl, -, b1, -⟩
      have B1 : Hid (Below w.heap.size w w1) := B.out.trans b1
      clear b1 W B
      go_wp2
      go_ret
      exact ⟨rfl, B1.out⟩
end Go.Proofs.YtgockhlainnnnabDoor
