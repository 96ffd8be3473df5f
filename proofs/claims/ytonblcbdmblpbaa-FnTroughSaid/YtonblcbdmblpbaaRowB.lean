/- The row of Pascal's triangle below another one, of the program. -/
import Derived.Test.YtonblcbdmblpbaaTrS
import Derived.Lib.LazyBuf
namespace Go.Proofs.Ytonblcbdmblpbaa
open Go.ChangeShapes Go.WideShapes Go.ChangeAt Go.RowKit
set_option linter.unusedVariables false
set_option linter.unusedSimpArgs false

theorem info_int : (Try.prog.info? 2).map (fun i => (i.zero, i.size, i.bytes)) = some (some (.int .i64 0), 1, 8) := by kernel_rfl
theorem infoI_parts : ∃ i : TypeInfo, Try.prog.info? 2 = some i ∧ i.zero = some (.int .i64 0) ∧ i.size = 1 ∧ i.bytes = 8 := by
  have h := info_int
  match e : Try.prog.info? 2 with
  | none => rw [e] at h; cases h
  | some i => rw [e] at h; simp at h; exact ⟨i, rfl, h.1, h.2.1, h.2.2⟩

/-- A slice literal of integers. -/
theorem ownI_lit (w : World) (zs : List Int) (hz : zs.length ≤ 100) : OwnI (w.alloc (.cells (zs.map (Value.int .i64)).toArray 2)) w.heap.size (.slice (some ⟨w.heap.size, 0, none⟩) zs.length zs.length) zs := by
  refine ⟨by simp, .inr ⟨w.heap.size, zs.length, _, rfl, Nat.le_refl _, heap_alloc_new w _, Nat.le_refl _, by unfold maxLen; omega, by simp, by rw [Nat.mul_one]; exact List.take_of_length_le (by simp)⟩⟩

set_option maxRecDepth 100000 in
set_option maxHeartbeats 2000000 in
theorem clone_any (a : Option Addr) (cap n : Nat) (zs : List Int) (w : World) (hn : n = zs.length) (h0 : 0 < n) (hn2 : n ≤ 1000000) (hr : RdI w (.slice a n cap) zs) :
    Calls Try.prog 72 #[.slice a n cap] w fun e w' => ∃ v, e = .returned v ∧ OwnI w' w.heap.size v zs ∧ Below w.heap.size w w' := by
  obtain ⟨a', cap', e, hc⟩ := hr
  simp only [Value.slice.injEq] at e
  obtain ⟨rfl, -, rfl⟩ := e
  obtain ⟨b, off, rfl, hc1⟩ := hc.resolve_left (by intro h; rw [h] at hn; simp at hn; omega)
  have HC := Lib.hid hc1
  have HN := Lib.hid hn
  have own : (w.alloc (.cells #[] 2)).ownsRow w.heap.size 2 1 (.slice (some ⟨w.heap.size, 0, none⟩) 0 0) 0 [] := ownI_lit w [] (by simp)
  clear hc hc1 hn
  have hnews : ∀ (j : Nat) (u : Value), (zs.map (Value.int .i64))[j]? = some u → (w.alloc (.cells #[] 2)).cell? ((⟨b, off, none⟩ : Addr).add j) = some u := by
    intro j u hu
    rw [List.getElem?_map] at hu
    obtain ⟨y, hy, rfl⟩ := Option.map_eq_some_iff.1 hu
    have c := HC.out j y hy
    have hb := World.block_lt_of_cell? w _ c
    rw [Go.WideShapes.add_plain]
    exact ((Below.alloc (Below.refl w.heap.size w) (Nat.le_refl _) _).cell (p := ⟨b, off + j, none⟩) hb).trans c
  have HNW := Lib.hid hnews
  have OWN := Lib.hid own
  clear hnews own
  have hl : (zs.map (Value.int .i64)).length = n * 1 := by rw [List.length_map, HN.out, Nat.mul_one]
  have HL := Lib.hid hl
  clear hl
  obtain ⟨i0, hi, hz0, hz1, hz2⟩ := infoI_parts
  have q22 : ∀ (w : World) (a : Addr) (n c : Nat), (binOp .eql 25 (.slice (some a) n c) (.slice none 0 0)).run Try.prog w = .ok (.bool false) w := fun w a n c => Go.run_eql_slice_nil w _ _ (some a) n c Try.underlying25
  go_enter Try.func72, Try.ntmps72
  go_wp2_with (at_builtin; refine wpList_append_lies _ rfl _ _ _ rfl w.heap.size 2 i0 _ 1 8 Try.underlying25 hi hz0 hz1 hz2 rfl (by omega) _ _ _ rfl OWN.out ⟨b, off, none⟩ n cap (zs.map (Value.int .i64)) rfl HL.out HNW.out (by simp [Value.oneCell']) (by omega) (by unfold maxLen; omega) (by omega) (by simp) _ rfl ?_)
  intro gg cap1 w5 hown1 hgrow hat hlt'
  have B5 : Below w.heap.size w w5 := (Below.alloc (Below.refl w.heap.size w) (Nat.le_refl _) _).grown hgrow (by simp) (fun j e => by cases e; exact Nat.le_refl _)
  have B := Lib.hid B5
  have O5 : Hid (OwnI w5 w.heap.size (.slice (some ⟨gg, 0, none⟩) n cap1) zs) := by
    show OwnI _ _ _ _
    unfold OwnI
    rw [← HN.out]
    have h := hown1
    exact h
  clear hown1 hgrow hat hlt' B5
  go_wp2
  go_ret
  exact ⟨_, rfl, by simpa using O5.out, B.out⟩


/-- The row below, as far as it is filled. -/
def belL (r : List Int) (k : Nat) : List Int := (nextRow r).take (k + 1) ++ (r ++ [0]).drop (k + 1)
theorem belL_len (r : List Int) (k : Nat) (hk : k ≤ r.length) : (belL r k).length = r.length + 1 := by simp [belL, nextRow_len]; omega
theorem belL_zero {r : List Int} (h : 0 < r.length) : belL r 0 = r ++ [0] := by
  cases r with
  | nil => simp at h
  | cons a r => simp [belL, nextRow]
theorem belL_all (r : List Int) : belL r r.length = nextRow r := by
  unfold belL
  rw [List.take_of_length_le (by rw [nextRow_len]; omega), List.drop_of_length_le (by simp), List.append_nil]
theorem belL_get {r : List Int} {k : Nat} (hk : k < r.length) {x : Int} (hx : (r ++ [0])[k + 1]? = some x) : (belL r k)[k + 1]? = some x := by
  have e : ((nextRow r).take (k + 1)).length = k + 1 := by rw [List.length_take, nextRow_len]; omega
  unfold belL
  rw [List.getElem?_append_right (by omega), e, Nat.sub_self, List.getElem?_drop]
  exact hx
theorem belL_set {r : List Int} {k : Nat} {x y : Int} (hx : (r ++ [0])[k + 1]? = some x) (hy : r[k]? = some y) : (belL r k).set (k + 1) (x + y) = belL r (k + 1) := by
  have hk : k < r.length := (List.getElem?_eq_some_iff.1 hy).1
  have e : ((nextRow r).take (k + 1)).length = k + 1 := by rw [List.length_take, nextRow_len]; omega
  have hl : k + 1 < (r ++ [0]).length := by simp; omega
  unfold belL
  rw [List.set_append_right _ _ (by omega), e, Nat.sub_self, List.drop_eq_getElem_cons hl, List.set_cons_zero, List.take_add_one (i := k + 1), nextRow_get hx hy]
  simp

set_option maxRecDepth 100000 in
set_option maxHeartbeats 4000000 in
theorem rowBelow_any (v : Value) (r : List Int) (w : World) (h : RdI w v r) (h0 : 0 < r.length) (h1 : r.length ≤ 100) (hr : AllIn 0 1000000 r) :
    Calls Try.prog 95 #[v] w fun e w' => ∃ u, e = .returned u ∧ OwnI w' w.heap.size u (nextRow r) ∧ Below w.heap.size w w' := by
  obtain ⟨i0, hi, hz0, hz1, hz2⟩ := infoI_parts
  obtain ⟨a, cap, rfl, ra⟩ := h
  obtain ⟨n, hn⟩ : ∃ n, n = r.length := ⟨_, rfl⟩
  have C1 := Lib.hid (clone_any a cap n r w hn (by omega) (by omega) (by rw [hn]; exact ⟨a, cap, rfl, ra⟩))
  rw [← hn] at h0 h1 ⊢
  have RA := Lib.hid ra
  have HN := Lib.hid hn
  have HR := Lib.hid hr
  clear hn ra hr
  go_enter Try.func95, Try.ntmps95
  go_wp2_with fail
  refine C1.out.mono ?_
  rintro e w1 ⟨v, rfl, o1, b1⟩
  obtain ⟨g, c, rfl, -, -⟩ := o1.formed HN.out.symm h0
  have z1 := b1.size
  have own : Hid (w1.ownsRow w.heap.size 2 1 (.slice (some ⟨g, 0, none⟩) n c) n (r.map (Value.int .i64))) := by
    have e := o1
    unfold OwnI at e
    rwa [← HN.out] at e
  have lgz := own.out.lt
  have B1 := Lib.hid b1
  clear o1 b1 C1
  go_wp2_with (at_builtin; refine wpList_append_lies _ rfl _ _ _ rfl w.heap.size 2 i0 _ 1 8 Try.underlying25 hi hz0 hz1 hz2 rfl (by omega) _ _ _ rfl (own.out.alloc _) ⟨w1.heap.size, 0, none⟩ 1 1 [.int .i64 0] rfl rfl (World.news_of_block (cs := #[.int .i64 0]) (t := 2) (fr := (0, 0)) (heap_alloc_new w1 _)) (by simp [Value.oneCell']) (by omega) (by unfold maxLen; omega) (by omega) (by simp only [World.size_alloc]; omega) _ rfl ?_)
  intro gg cap1 w5 hown1 hgrow hat hlt'
  obtain ⟨m, hm⟩ : ∃ m, m = n + 1 := ⟨_, rfl⟩
  have O5 : Hid (OwnI w5 w.heap.size (.slice (some ⟨gg, 0, none⟩) m cap1) (belL r 0)) := by
    show OwnI _ _ _ _
    rw [belL_zero (by have := HN.out; omega), hm]
    unfold OwnI
    rw [List.length_append, ← HN.out, List.map_append]
    exact hown1
  have B5 : Hid (Below w.heap.size w w5) := B1.out.grown (grownBy_trans (World.grownBy_alloc w1 _ _) hgrow) (by omega) (fun j e => (lgz j e).1)
  rw [← hm]
  have HM := Lib.hid hm
  clear hown1 hgrow hat hlt' own lgz B1 hm
  go_wp2
  go_loopw [12] (fun i wr => ∃ k : Nat, k ≤ n ∧ i = .int .i64 k ∧ Hid (OwnI wr w.heap.size (.slice (some ⟨gg, 0, none⟩) m cap1) (belL r k)) ∧ Hid (Below w.heap.size w wr)) (fun i _ => n - (intOf i).toNat)
  case atStart => exact ⟨0, by omega, rfl, O5, B5⟩
  case round =>
    obtain ⟨k, hk, rfl, ho, hbl⟩ := hrel
    clear O5 B5
    by_cases hlt : k < n
    · obtain ⟨y, hy⟩ : ∃ x, r[k]? = some x := ⟨_, List.getElem?_eq_getElem (by have := HN.out; omega)⟩
      obtain ⟨ba, oa, rfl, ca'⟩ := RA.out.resolve_left (by intro h; have := HN.out; rw [h] at this; simp at this; omega)
      have la : ba < w.heap.size := World.block_lt_of_cell? w _ (ca' k y hy)
      have c1 := (hbl.out.cell (p := ⟨ba, oa + k, none⟩) la).trans (ca' k y hy)
      obtain ⟨x, hx⟩ : ∃ x, (r ++ [0])[k + 1]? = some x := ⟨_, List.getElem?_eq_getElem (by have := HN.out; simp; omega)⟩
      have bx : 0 ≤ x ∧ x ≤ 1000000 := by
        have := List.mem_of_getElem? hx
        rw [List.mem_append] at this
        rcases this with h | h
        · exact HR.out x h
        · simp at h; omega
      have by_ := HR.out.at hy
      have hg := belL_get (by have := HN.out; omega) hx
      have c2 := ho.out.rd.cellAt hg
      have hl : m = (belL r k).length := by rw [belL_len r k (by have := HN.out; omega), HM.out, HN.out]
      have own2 := ho.out
      unfold OwnI at own2
      have f2 : wr.frozen? ⟨gg, k + 1, none⟩ = false := by
        rw [← hl] at own2
        exact own2.frozenAt (k + 1)
      have s1 : Hid (OwnI (wr.setCell ⟨gg, k + 1, none⟩ (.int .i64 (x + y))) w.heap.size (.slice (some ⟨gg, 0, none⟩) m cap1) (belL r (k + 1))) := by
        have e := ho.out.stored hl (k + 1) (x + y) (by rw [← hl]; have := HM.out; omega)
        rwa [belL_set hx hy] at e
      have gL := (ho.out.lt gg rfl).1
      have s2 : Hid (Below w.heap.size w (wr.setCell ⟨gg, k + 1, none⟩ (.int .i64 (x + y)))) := hbl.out.setCell gL _
      obtain ⟨p, hp⟩ : ∃ p, p = k + 1 := ⟨_, rfl⟩
      have k1 : p < m := by have := HM.out; omega
      have q4 : IntKind.i64.wrap ((k : Int) + 1) = (p : Int) := by rw [IntWalk.i64_in _ (by omega)]; omega
      have q5 : IntKind.i64.wrap (x + y) = x + y := IntWalk.i64_in _ (by omega)
      rw [← hp] at c2 f2 s1 s2
      have HP := Lib.hid hp
      clear hp hx hy hg ca' ho hbl own2 hl bx by_
      go_wp2
      exact ⟨⟨p, by have := HP.out; omega, rfl, s1, s2⟩, by have := HP.out; simp only [intOf]; omega⟩
    · obtain rfl : k = n := by omega
      have HO : Hid (OwnI wr w.heap.size (.slice (some ⟨gg, 0, none⟩) m cap1) (nextRow r)) := by have := ho.out; rwa [HN.out, belL_all] at this
      clear ho
      go_wp2
      go_ret
      exact ⟨_, rfl, HO.out, hbl.out⟩
end Go.Proofs.Ytonblcbdmblpbaa
