/- Texts of lists of numbers: the program's joined texts. -/
import Derived.Test.YtgockhlainnnnabDoorDec2
import Derived.Test.YtgockhlainnnnabDoorBld
import Derived.Test.YtgockhlainnnnabDoorInts
import Derived.LoopTactic
namespace Go.Proofs.YtgockhlainnnnabDoor
open Go.ChangeShapes Go.WideShapes Go.ChangeAt Go.RowKit
set_option linter.unusedVariables false
set_option linter.unusedSimpArgs false

theorem Bld.later {B b : Nat} {l : List UInt8} {w w' : World} (h : Bld B b l w) (hb : Below w.heap.size w w') : Bld B b l w' := by
  have go : ∀ p, Lib.BuilderAtF 132 5 B b p (Lib.byteCells l) w → Lib.BuilderAtF 132 5 B b p (Lib.byteCells l) w' := by
    intro p h
    have hl := h.lt
    obtain ⟨hB, v, hk, ho, hn⟩ := h
    exact ⟨hB, v, (hb.block b hl).trans hk, ho.kept (row := none) ⟨hb.os, hb.tape, hb.output, hb.size, fun k hk _ => hb.block k hk⟩ (by cases v.ownBlock <;> simp), hn⟩
  exact h.imp (go _) (go _)

/-- What has been written behind k numbers. -/
def joinTo (sep : List UInt8) (xs : List Int) : Nat → List UInt8
  | 0 => []
  | k + 1 => joinTo sep xs k ++ ((if k = 0 then [] else sep) ++ Lib.itoa (xs.getD k 0))
theorem joinTo_len (sep : List UInt8) (hs : sep.length ≤ 1) (xs : List Int) (hx : ∀ x ∈ xs, -9223372036854775808 ≤ x ∧ x ≤ 9223372036854775807) : ∀ k, k ≤ xs.length → (joinTo sep xs k).length ≤ 22 * k := by
  intro k
  induction k with
  | zero => intro _; simp [joinTo]
  | succ k ih =>
    intro hk
    have h1 := ih (by omega)
    obtain ⟨x, hxk⟩ : ∃ x, xs[k]? = some x := ⟨_, List.getElem?_eq_getElem (by omega)⟩
    have h2 := hx x (List.mem_of_getElem? hxk)
    have h3 := Lib.itoa_length_le x h2.1 h2.2
    have e : xs.getD k 0 = x := by simp [List.getD, hxk]
    have h4 : (if k = 0 then [] else sep).length ≤ 1 := by split <;> simp [hs]
    simp only [joinTo, List.length_append, e]
    omega

set_option maxRecDepth 100000 in
set_option maxHeartbeats 8000000 in
theorem joinInts_any (v : Value) (xs : List Int) (sep : List UInt8) (hs : sep.length ≤ 1) (w : World) (hr : RdI w v xs) (lx : xs.length ≤ 1048576) (hx : ∀ x ∈ xs, -9223372036854775808 ≤ x ∧ x ≤ 9223372036854775807) (hT : TDec w) :
    Calls Tryd.prog 46 #[v, .string ⟨sep.toArray⟩, .func (.func 47) #[] #[]] w fun e w' => e = .returned (.string ⟨(joinTo sep xs xs.length).toArray⟩) ∧ Below w.heap.size w w' := by
  obtain ⟨a, cap, rfl, rd⟩ := hr
  have LTv : Hid (∀ b off, a = some ⟨b, off, none⟩ → xs ≠ [] → b < w.heap.size) := by
    intro b off e hne
    obtain ⟨b', off', h1, h2⟩ := rd.resolve_left hne
    rw [e] at h1
    cases h1
    obtain ⟨x, r, rfl⟩ := List.exists_cons_of_ne_nil hne
    exact World.block_lt_of_cell? w _ (h2 0 x rfl)
  have RD := Lib.hid rd
  have HX := Lib.hid hx
  have HT := Lib.hid hT
  have JL := Lib.hid (joinTo_len sep hs xs hx)
  obtain ⟨n, hn⟩ : ∃ n, n = xs.length := ⟨_, rfl⟩
  rw [← hn] at lx JL ⊢
  have HN := Lib.hid hn
  have I0 : Hid (Bld w.heap.size w.heap.size (joinTo sep xs 0) (w.alloc (.cells #[.pointer none, .slice none 0 0] 132))) := Lib.IsBuilderF.of (Lib.fresh_isBuilder _ _ w)
  have B0 : Hid (Below w.heap.size w (w.alloc (.cells #[.pointer none, .slice none 0 0] 132))) := by show Below _ _ _; go_grown
  clear hn hx hT rd
  go_enter Tryd.func46, Tryd.ntmps46
  go_wp2
  go_loopw [12] (fun i wr => ∃ k : Nat, k ≤ n ∧ i = .int .i64 (k : Int) ∧ Hid (Bld w.heap.size w.heap.size (joinTo sep xs k) wr) ∧ Hid (Below w.heap.size w wr)) (fun i _ => n - (intOf i).toNat)
  case atStart => exact ⟨0, by omega, by simp, I0, B0⟩
  case round =>
    obtain ⟨k, hk, rfl, I, B⟩ := hrel
    clear I0 B0
    have sz := B.out.size
    by_cases hlt : k < n
    · obtain ⟨x, hxk⟩ : ∃ x, xs[k]? = some x := ⟨_, List.getElem?_eq_getElem (by have := HN.out; omega)⟩
      obtain ⟨ba, oa, rfl, ca⟩ := RD.out.resolve_left (by intro h; have := HN.out; rw [h] at this; simp at this; omega)
      have hxx := HX.out x (List.mem_of_getElem? hxk)
      have c0 : wr.cell? ⟨ba, oa + k, none⟩ = some (.int .i64 x) := (B.out.cell (p := ⟨ba, oa + k, none⟩) (LTv.out ba oa rfl (by intro h; have := HN.out; rw [h] at this; simp at this; omega))).trans (ca k x hxk)
      have q1 : IntKind.i64.wrap ((k : Int) + 1) = ((k + 1 : Nat) : Int) := by push_cast; exact IntWalk.i64_in _ (by omega)
      have hgd : xs.getD k 0 = x := by simp [List.getD, hxk]
      have jl := JL.out k hk
      have ll := Lib.itoa_length_le x hxx.1 hxx.2
      have JS : Hid (joinTo sep xs (k + 1) = joinTo sep xs k ++ ((if k = 0 then [] else sep) ++ Lib.itoa x)) := by show _ = _; simp only [joinTo, hgd]
      have C := Lib.hid (fun w hT => decimal_any x hxx.1 hxx.2 w hT)
      clear ca hxk hgd hxx
      by_cases k0 : k = 0
      · subst k0
        have c00 : wr.cell? ⟨ba, oa, none⟩ = some (.int .i64 x) := c0
        clear c0
        go_wp2_with fail
        refine (C.out _ (HT.out.later B.out)).mono ?_
        rintro e w2 ⟨rfl, b2⟩
        have I2 := I.out.later b2
        have B2 : Hid (Below w.heap.size w w2) := B.out.trans (b2.mono sz)
        have W := Lib.hid (writeString_any w.heap.size w.heap.size _ ⟨(Lib.itoa x).toArray⟩ w2 I2 (by show _ + (Lib.itoa x).toArray.size ≤ _; rw [List.size_toArray]; omega) B2.out.size)
        clear b2 I2 C c00 I B
        go_wp2_with fail
        refine W.out.mono ?_
        rintro e w3 ⟨rfl, i3, b3, -⟩
        have I3 : Hid (Bld w.heap.size w.heap.size (joinTo sep xs (0 + 1)) w3) := by
          show Bld _ _ _ _
          rw [JS.out]
          exact i3
        have B3 : Hid (Below w.heap.size w w3) := B2.out.trans b3
        clear i3 b3 B2 W JS
        go_wp2
        exact ⟨⟨0 + 1, by omega, by push_cast; rfl, I3, B3⟩, by simp only [intOf]; omega⟩
      · have kp : 0 < k := by omega
        have W1 := Lib.hid (writeString_any w.heap.size w.heap.size _ ⟨sep.toArray⟩ wr I.out (by show _ + sep.toArray.size ≤ _; rw [List.size_toArray]; omega) sz)
        go_wp2_with fail
        refine W1.out.mono ?_
        rintro e w1 ⟨rfl, i1, b1, -⟩
        have B1 : Hid (Below w.heap.size w w1) := B.out.trans b1
        have I1 := Lib.hid i1
        clear i1 b1 W1 I B c0
        go_wp2_with fail
        refine (C.out _ (HT.out.later B1.out)).mono ?_
        rintro e w2 ⟨rfl, b2⟩
        have I2 := I1.out.later b2
        have B2 : Hid (Below w.heap.size w w2) := B1.out.trans (b2.mono B1.out.size)
        have W := Lib.hid (writeString_any w.heap.size w.heap.size _ ⟨(Lib.itoa x).toArray⟩ w2 I2 (by show (_ ++ sep.toArray.toList).length + (Lib.itoa x).toArray.size ≤ _; rw [List.size_toArray, List.length_append, List.toList_toArray]; omega) B2.out.size)
        clear b2 I2 C I1 B1
        go_wp2_with fail
        refine W.out.mono ?_
        rintro e w3 ⟨rfl, i3, b3, -⟩
        have I3 : Hid (Bld w.heap.size w.heap.size (joinTo sep xs (k + 1)) w3) := by
          show Bld _ _ _ _
          rw [JS.out, if_neg k0, ← List.append_assoc]
          exact i3
        have B3 : Hid (Below w.heap.size w w3) := B2.out.trans b3
        clear i3 b3 B2 W JS
        go_wp2
        exact ⟨⟨k + 1, by omega, by push_cast; rfl, I3, B3⟩, by simp only [intOf]; omega⟩
    · obtain rfl : k = n := by omega
      have W := Lib.hid (Tryd.Builder_String_any_k w.heap.size w.heap.size _ wr I.out sz)
      clear I
      go_wp2_with fail
      refine W.out.mono ?_
      rintro e w1 ⟨rfl, -, b1, -⟩
      have B1 : Hid (Below w.heap.size w w1) := B.out.trans b1
      clear b1 W B
      go_wp2
      go_ret
      exact ⟨rfl, B1.out⟩
end Go.Proofs.YtgockhlainnnnabDoor
