/- The next lot is taken off: the specification's walk. (ShortS, TakeM, TakeS merged.) -/
import Derived.Test.YthfmmlpbflfpaacPushS
import Derived.Test.YthfmmlpbflfpaacNextD
import Derived.BigRegion
namespace Go.Proofs.Ythfmmlpbflfpaac
open Go.ChangeShapes Go.WideShapes Go.ChangeAt Go.RowKit
set_option linter.unusedVariables false
set_option linter.unusedSimpArgs false

theorem OwnI.shorter {w : World} {B n k c : Nat} {a : Option Addr} {t : List Int} (h : OwnI w B (.slice a n c) t) (hk : k ≤ t.length) : OwnI w B (.slice a k c) (t.take k) := by
  have lk : (t.take k).length = k := by rw [List.length_take]; omega
  obtain ⟨h1, h2 | ⟨g, cap, cur, hv, h3, h4, h5, h6, h7, h8⟩⟩ := h
  · obtain ⟨hv, hn⟩ := h2
    have k0 : k = 0 := by omega
    subst k0
    simp only [Value.slice.injEq] at hv
    obtain ⟨rfl, -, rfl⟩ := hv
    exact ⟨by simp, .inl ⟨rfl, by simp⟩⟩
  · simp only [Value.slice.injEq] at hv
    obtain ⟨rfl, hn, rfl⟩ := hv
    refine ⟨by simp, .inr ⟨g, c, cur, ?_, h3, h4, by omega, h6, h7, ?_⟩⟩
    · rw [lk]
    · rw [lk, Nat.mul_one, List.map_take, ← h8, List.take_take, Nat.mul_one, Nat.min_eq_left hk]

theorem ownBlock_len (a : Option Addr) (n k c : Nat) : (Value.slice a n c).ownBlock = (Value.slice a k c).ownBlock := by cases a <;> rfl

theorem ownSS_short {w : World} {B C g cap n i k : Nat} {xs : List Sl} {x : Sl} (hn : n = xs.length) (own : OwnSS w B C (.slice (some ⟨g, 0, none⟩) n cap) xs) (hx : xs[i]? = some x) (hk : k ≤ x.t.length) :
    OwnSS (w.setCell ⟨g, i, none⟩ (.slice x.a k x.c)) B C (.slice (some ⟨g, 0, none⟩) n cap) (xs.set i ⟨x.a, x.c, x.t.take k⟩) := by
  have lk : (x.t.take k).length = k := by rw [List.length_take]; omega
  have hi := (List.getElem?_eq_some_iff.1 hx).1
  have rows := OwnS.stored1 encSl_len hn own.rows i 0 x ⟨x.a, x.c, x.t.take k⟩ (.slice x.a k x.c) hx (by omega) (by simp [encSl, lk])
  rw [Nat.mul_one, Nat.add_zero] at rows
  have keep : ∀ y : Sl, OwnI w B y.u y.t → OwnI (w.setCell ⟨g, i, none⟩ (.slice x.a k x.c)) B y.u y.t := fun y oy => oy.of_blockS fun b hb => Below.heap_setCell _ _ _ _ (fun e => own_typesS own.rows oy rfl hb e)
  have nu : ∀ b, (⟨x.a, x.c, x.t.take k⟩ : Sl).u.ownBlock = some b → x.u.ownBlock = some b := fun b hb => by
    have := ownBlock_len x.a x.t.length (x.t.take k).length x.c
    show (Value.slice x.a x.t.length x.c).ownBlock = some b
    rw [this]; exact hb
  have mem : ∀ y ∈ xs.set i ⟨x.a, x.c, x.t.take k⟩, y ∈ xs ∨ y = ⟨x.a, x.c, x.t.take k⟩ := fun y hy => List.mem_or_eq_of_mem_set hy
  have at' : ∀ (j : Nat) y b, (xs.set i ⟨x.a, x.c, x.t.take k⟩)[j]? = some y → y.u.ownBlock = some b → ∃ z, xs[j]? = some z ∧ z.u.ownBlock = some b := by
    intro j y b hy hb
    by_cases e : i = j
    · subst e
      rw [List.getElem?_set_self hi] at hy
      have := Option.some.inj hy
      subst this
      exact ⟨x, hx, nu b hb⟩
    · rw [List.getElem?_set_ne e] at hy
      exact ⟨y, hy, hb⟩
  have xm := List.mem_of_getElem? hx
  refine ⟨rows, fun b e => own.rb b e, fun y hy => ?_, fun y hy b hb => ?_, fun j l y z b hj hl hy hz => ?_, by simpa using own.cb⟩
  · rcases mem y hy with h | h
    · exact keep y (own.tops y h)
    · subst h
      show OwnI _ _ (.slice x.a (x.t.take k).length x.c) _
      rw [lk]
      exact (keep x (own.tops x xm)).shorter hk
  · rcases mem y hy with h | h
    · exact own.tb y h b hb
    · subst h; exact own.tb x xm b (nu b hb)
  · obtain ⟨y', h1, h2⟩ := at' j y b hj hy
    obtain ⟨z', h3, h4⟩ := at' l z b hl hz
    exact own.apart j l y' z' b h1 h3 h2 h4


/-- What is known of the least lot so far. -/
def NxOk (t : Nat → List Int) (n : Nat) (s : Int × Int) : Prop := (s = (100, -1) ∧ ∀ i, i < n → t i = []) ∨ ∃ i, i < n ∧ s.2 = (i : Int) ∧ s.1 ∈ t i ∧ s.1 ≤ 99 ∧ ∀ j, j < n → ∀ y ∈ t j, s.1 ≤ y
theorem nxT_ok (k : Int) (l : List Int) (hl : ∀ z ∈ l, z ≤ 99) : ∀ s : Int × Int, s.1 ≤ 100 → (l.foldl (fun s z => if z < s.1 then (z, k) else s) s = s ∧ (∀ y ∈ l, s.1 ≤ y)) ∨ ∃ z, l.foldl (fun s z => if z < s.1 then (z, k) else s) s = (z, k) ∧ z ∈ l ∧ z < s.1 ∧ ∀ y ∈ l, z ≤ y := by
  induction l with
  | nil => intro s _; exact .inl ⟨rfl, by simp⟩
  | cons z l ih =>
    intro s hs
    have hz := hl z (by simp)
    have hl' : ∀ z ∈ l, z ≤ 99 := fun y hy => hl y (List.mem_cons_of_mem _ hy)
    by_cases g : z < s.1
    · have e : (z :: l).foldl (fun s z => if z < s.1 then (z, k) else s) s = l.foldl (fun s z => if z < s.1 then (z, k) else s) (z, k) := by simp [g]
      rw [e]
      rcases ih hl' (z, k) (by show z ≤ 100; omega) with ⟨h1, h2⟩ | ⟨y, h1, h2, h3, h4⟩
      · exact .inr ⟨z, h1, by simp, g, fun y hy => by rcases List.mem_cons.1 hy with q | q; omega; exact h2 y q⟩
      · have h3' : y < z := h3
        exact .inr ⟨y, h1, List.mem_cons_of_mem _ h2, by omega, fun x hx => by rcases List.mem_cons.1 hx with q | q; omega; exact h4 x q⟩
    · have e : (z :: l).foldl (fun s z => if z < s.1 then (z, k) else s) s = l.foldl (fun s z => if z < s.1 then (z, k) else s) s := by simp [g]
      rw [e]
      rcases ih hl' s hs with ⟨h1, h2⟩ | ⟨y, h1, h2, h3, h4⟩
      · exact .inl ⟨h1, fun y hy => by rcases List.mem_cons.1 hy with q | q; omega; exact h2 y q⟩
      · exact .inr ⟨y, h1, List.mem_cons_of_mem _ h2, h3, fun x hx => by rcases List.mem_cons.1 hx with q | q; omega; exact h4 x q⟩
theorem nxS_ok (t : Nat → List Int) (n : Nat) (h : ∀ i, i < n → ∀ z ∈ t i, z ≤ 99) : NxOk t n (nxS t n) := by
  induction n with
  | zero => exact .inl ⟨rfl, fun i hi => by omega⟩
  | succ n ih =>
    have e : nxS t (n + 1) = (t n).foldl (fun s z => if z < s.1 then (z, (n : Int)) else s) (nxS t n) := by
      show nxT _ _ _ _ = _
      unfold nxT; rw [List.take_length]
    have ih := ih fun i hi => h i (by omega)
    have b : (nxS t n).1 ≤ 100 := by
      rcases ih with ⟨q, -⟩ | ⟨i, -, -, -, q, -⟩
      · rw [q]; decide
      · omega
    rw [e]
    rcases nxT_ok (n : Int) (t n) (h n (by omega)) (nxS t n) b with ⟨h1, h2⟩ | ⟨z, h1, h2, h3, h4⟩
    · rw [h1]
      rcases ih with ⟨q1, q2⟩ | ⟨i, q1, q2, q3, q4, q5⟩
      · refine .inl ⟨q1, fun i hi => ?_⟩
        by_cases e : i = n
        · subst e
          cases ht : t i with
          | nil => rfl
          | cons z l => have := h2 z (by rw [ht]; simp); have := h i (by omega) z (by rw [ht]; simp); rw [q1] at *; simp at *; omega
        · exact q2 i (by omega)
      · refine .inr ⟨i, by omega, q2, q3, q4, fun j hj y hy => ?_⟩
        by_cases e : j = n
        · subst e; exact h2 y hy
        · exact q5 j (by omega) y hy
    · rw [h1]
      refine .inr ⟨n, by omega, rfl, h2, h n (by omega) z h2, fun j hj y hy => ?_⟩
      by_cases e : j = n
      · subst e; exact h4 y hy
      · rcases ih with ⟨q1, q2⟩ | ⟨i, q1, q2, q3, q4, q5⟩
        · rw [q2 j (by omega)] at hy; simp at hy
        · have := q5 j (by omega) y hy
          show z ≤ y
          omega


/-- The topmost lot of stack i is its least. -/
def Least (t : List Int) : Prop := ∀ (j : Nat) (a b : Int), j + 1 < t.length → t[j]? = some a → t[t.length - 1]? = some b → b ≤ a
/-- The yard without the topmost lot of stack i. -/
def cutAt (u : Yd) (i : Nat) (x : Sl) : Yd := ⟨u.h, u.xa, u.xc, u.x.set i ⟨x.a, x.c, x.t.take (x.t.length - 1)⟩⟩
/-- What taking does. -/
def TakeRes (u : Yd) (b : Bool) (v : Yd) : Prop := ((nxS (tt u) u.x.length).2 < 0 ∧ b = false ∧ v = u) ∨ ∃ (i : Nat) (x : Sl), u.x[i]? = some x ∧ (nxS (tt u) u.x.length).2 = (i : Int) ∧ 0 < x.t.length ∧ ((¬ Least x.t ∧ b = false ∧ v = u) ∨ (Least x.t ∧ b = true ∧ v = cutAt u i x))

theorem tt_bd {u : Yd} (ok : OkYd u) : ∀ i, ∀ z ∈ tt u i, 0 ≤ z ∧ z ≤ 99 := by
  intro i z hz
  cases h : u.x[i]? with
  | none => rw [tt_past (List.getElem?_eq_none_iff.1 h)] at hz; simp at hz
  | some x =>
    rw [tt_get h] at hz
    exact ok.l1.1 z (List.mem_flatMap.2 ⟨x, List.mem_of_getElem? h, hz⟩)
theorem next_at {u : Yd} (ok : OkYd u) : (nxS (tt u) u.x.length).2 < 0 ∨ ∃ (i : Nat) (x : Sl), u.x[i]? = some x ∧ (nxS (tt u) u.x.length).2 = (i : Int) ∧ 0 < x.t.length := by
  rcases nxS_ok (tt u) u.x.length (fun i _ z hz => (tt_bd ok i z hz).2) with ⟨h, -⟩ | ⟨i, h1, h2, h3, -, -⟩
  · rw [h]; exact .inl (by decide)
  · obtain ⟨x, hx⟩ : ∃ x, u.x[i]? = some x := ⟨_, List.getElem?_eq_getElem h1⟩
    rw [tt_get hx] at h3
    exact .inr ⟨i, x, hx, h2, List.length_pos_of_mem h3⟩

set_option maxRecDepth 100000 in
set_option maxHeartbeats 16000000 in
theorem l09Take_any (G : Nat) (ty : TypeId) (u : Yd) (n0 K C : Nat) (w : World) (hG : w.heap[G]? = some (.cells #[.int .i64 u.h, .slice u.xa n0 u.xc] ty (0, 0))) (ho : OwnYd w K C n0 u) (hGB : G < K ∨ C ≤ G) (ok : OkYd u) :
    Calls Try.prog 14 #[.pointer (some ⟨G, 0, none⟩)] w fun e w' => ∃ b v, TakeRes u b v ∧ e = .returned (.bool b) ∧ w'.heap[G]? = some (.cells #[.int .i64 v.h, .slice v.xa n0 v.xc] ty (0, 0)) ∧ OwnYd w' K C n0 v ∧ ChgS K C w w' := by
  have hr := ho.rd
  have e0 := hr.len
  obtain ⟨⟨k0, k1⟩, -, lG⟩ := boxedYd_at hG
  have C1 := Lib.hid (l09Next_any G ty u n0 w hG hr ok)
  have NA := next_at ok
  rw [← e0] at NA
  have OK := Lib.hid ok
  have HG := Lib.hid hG
  have HO := Lib.hid ho
  have H := Lib.hid hr.r0
  have E0 := Lib.hid e0
  have n4 : n0 ≤ 4 := by have := ok.n0; omega
  obtain ⟨s, hs⟩ : ∃ s, s = (nxS (tt u) n0).2 := ⟨_, rfl⟩
  rw [← hs] at C1 NA
  have HS := Lib.hid hs
  clear hG ho hr ok hs e0
  go_enter Try.func14, Try.ntmps14
  go_wp2_with fail
  refine C1.out.mono ?_
  rintro e w9 ⟨rfl, hw⟩
  obtain rfl : w = w9 := hw
  clear C1
  by_cases s0 : s < 0
  · clear NA
    go_wp2
    go_ret
    exact ⟨false, u, .inl ⟨by rw [← E0.out, ← HS.out]; exact s0, rfl, rfl⟩, rfl, HG.out, HO.out, ChgS.refl _ _ _⟩
  obtain ⟨i, x, hx, rfl, hp⟩ := NA.resolve_left s0
  have HX := Lib.hid hx
  obtain ⟨ba, oa, EA, e1, rt, la⟩ := H.out.at hx
  obtain rfl : oa = 0 := by
    rcases HO.out.o0.rows.forms with ⟨-, h⟩ | ⟨g, c, h⟩
    · rw [h] at hx; simp at hx
    · simp only [Value.slice.injEq] at h
      rw [EA] at h
      simpa using (Addr.mk.inj (Option.some.inj h.1)).2.1
  rw [Nat.zero_add] at e1
  have xc : x.t.length ≤ x.c := by
    have := HO.out.o0.tops x (List.mem_of_getElem? hx)
    exact ownsRow_cap this
  have li : i < n0 := by have := (List.getElem?_eq_some_iff.1 hx).1; have := E0.out; omega
  have l4 : x.t.length ≤ 4 := by have := OK.out.t0 x (List.mem_of_getElem? hx); have := OK.out.h0; omega
  obtain ⟨p, hpp⟩ : ∃ p, x.t.length = p + 1 := ⟨x.t.length - 1, by omega⟩
  have HP := Lib.hid hpp
  rw [hpp] at e1 rt l4 xc
  obtain ⟨zl, hzl⟩ : ∃ z, x.t[p]? = some z := ⟨_, List.getElem?_eq_getElem (by omega)⟩
  obtain ⟨bz, oz, ez, f3⟩ := rt.at1 p zl hzl
  have HZL := Lib.hid hzl
  have RT := Lib.hid rt
  rw [EA] at k1
  rw [ez] at e1
  have q1 : IntKind.i64.wrap (((p + 1 : Nat) : Int) - 1) = (p : Int) := by rw [IntWalk.i64_in _ (by omega)]; omega
  clear hx hp hpp hzl rt s0 OK
  have L0 : Hid (∀ (j : Nat) (a : Int), j < 0 → x.t[j]? = some a → zl ≤ a) := fun j a h => by omega
  have KS : Hid (∀ w', Below w.heap.size w w' → (w'.cell? ⟨G, 0, none⟩ = some (.int .i64 u.h) ∧ w'.cell? ⟨G, 1, none⟩ = some (.slice (some ⟨ba, 0, none⟩) n0 u.xc)) ∧ w'.cell? ⟨ba, i, none⟩ = some (.slice (some ⟨bz, oz, none⟩) (p + 1) x.c) ∧ w'.cell? ⟨bz, oz + p, none⟩ = some (.int .i64 zl) ∧ w'.frozen? ⟨ba, i, none⟩ = false) := by
    intro w' b
    have lz := block_lt_of_cell f3
    refine ⟨⟨(b.cell (p := ⟨G, 0, none⟩) lG).trans k0, (b.cell (p := ⟨G, 1, none⟩) lG).trans k1⟩, (b.cell (p := ⟨ba, i, none⟩) la).trans e1, (b.cell (p := ⟨bz, oz + p, none⟩) lz).trans f3, ?_⟩
    have o := (HO.out.later b).o0.rows
    rw [EA] at o
    exact OwnS.frozenAt E0.out o i
  have b0 := Lib.hid (Below.refl w.heap.size w)
  go_wp2
  clear k0 k1 e1 f3
  go_loopw [5] (fun jv wr => ∃ (j : Nat), j ≤ p ∧ jv = .int .i64 j ∧ Hid (∀ (j' : Nat) (a : Int), j' < j → x.t[j']? = some a → zl ≤ a) ∧ Hid (Below w.heap.size w wr)) (fun jv _ => p - (intOf jv).toNat)
  case atStart => exact ⟨0, by omega, rfl, L0.out, b0.out⟩
  case round =>
    obtain ⟨j, hj, rfl, hl, B⟩ := hrel
    clear L0 b0
    obtain ⟨⟨k0, k1⟩, e1, f3, fz⟩ := KS.out _ B.out
    by_cases hlt : j < p
    · obtain ⟨z, hzz⟩ : ∃ z, x.t[j]? = some z := ⟨_, List.getElem?_eq_getElem (by have := HP.out; omega)⟩
      obtain ⟨bz', oz', ez', f4⟩ := (RT.out.later B.out).at1 j z hzz
      rw [ez] at ez'
      simp only [Option.some.injEq, Addr.mk.injEq, and_true] at ez'
      obtain ⟨rfl, rfl⟩ := ez'
      have HZ := Lib.hid hzz
      clear hzz
      by_cases hz : z < zl
      · have NL : Hid (¬ Least x.t) := fun h => by have := h j z zl (by have := HP.out; omega) HZ.out (by rw [HP.out]; exact HZL.out); omega
        go_wp2
        go_quiet (fail)
        go_wp2
        go_ret
        exact ⟨false, u, .inr ⟨i, x, HX.out, by rw [← E0.out, ← HS.out], by have := HP.out; omega, .inl ⟨NL.out, rfl, rfl⟩⟩, rfl, (below_drewN B.out _).block G lG |>.trans HG.out, HO.out.later (below_drewN B.out _), ChgS.of_below (below_drewN B.out _)⟩
      · have L2 : Hid (∀ (j' : Nat) (a : Int), j' < j + 1 → x.t[j']? = some a → zl ≤ a) := fun j' a h1 h2 => by
          by_cases e : j' = j
          · subst e; rw [HZ.out] at h2; obtain rfl := Option.some.inj h2; omega
          · exact hl.out j' a (by omega) h2
        go_wp2
        go_quiet (fail)
        have B2 : Hid (Below w.heap.size w (wr.drewN nq)) := below_drewN B.out _
        clear B k0 k1 e1 f3 f4 fz hl
        generalize wr.drewN nq = wz at *
        go_wp2
        exact ⟨⟨j + 1, by omega, by go_num, L2, B2⟩, by simp only [intOf]; omega⟩
    · obtain rfl : j = p := by omega
      have LS : Hid (Least x.t) := by
        intro j' a b h1 h2 h3
        rw [HP.out, Nat.add_sub_cancel, HZL.out] at h3
        obtain rfl := Option.some.inj h3
        exact hl.out j' a (by have := HP.out; omega) h2
      have q2 : (0 : Int) ≤ (j : Int) := by omega
      have q3 : (j : Int) ≤ (x.c : Int) := by omega
      have q4 : ¬ x.c = 0 := by omega
      clear hl
      go_wp2
      go_region
      all_goals
        have ob : K ≤ ba ∧ ba < C := by
          have e : (Value.slice u.xa n0 u.xc).ownBlock = some ba := by rw [EA]; rfl
          exact ⟨(HO.out.o0.rows.lt ba e).1, HO.out.o0.rb ba e⟩
        have lG2 : G ≠ ba := by omega
        have O6 : Hid (OwnSS (wr.setCell ⟨ba, i, none⟩ (.slice (some ⟨bz, oz, none⟩) j x.c)).drew K C (.slice u.xa n0 u.xc) (u.x.set i ⟨x.a, x.c, x.t.take (x.t.length - 1)⟩)) := by
          have o := (HO.out.later B.out).o0
          rw [EA] at o
          have o2 := ownSS_short E0.out o HX.out (show j ≤ x.t.length by have := HP.out; omega)
          rw [ez] at o2
          have e : x.t.length - 1 = j := by have := HP.out; omega
          show OwnSS _ _ _ _ _
          rw [e, EA, ez]
          exact o2.of_blocks (Nat.le_refl _) fun _ _ _ => rfl
        have G6 : Hid ((wr.setCell ⟨ba, i, none⟩ (.slice (some ⟨bz, oz, none⟩) j x.c)).drew.heap[G]? = some (.cells #[.int .i64 u.h, .slice u.xa n0 u.xc] ty (0, 0))) := by
          show (wr.setCell ⟨ba, i, none⟩ (.slice (some ⟨bz, oz, none⟩) j x.c)).heap[G]? = _
          rw [Below.heap_setCell _ _ _ _ (by show G ≠ ba; exact lG2)]
          exact (B.out.block G lG).trans HG.out
        have X6 : Hid (ChgS K C w (wr.setCell ⟨ba, i, none⟩ (.slice (some ⟨bz, oz, none⟩) j x.c)).drew) := (ChgS.of_below B.out).trans ⟨rfl, rfl, rfl, by simp, fun k hk hn => by
          show (wr.setCell ⟨ba, i, none⟩ (.slice (some ⟨bz, oz, none⟩) j x.c)).heap[k]? = _
          exact Below.heap_setCell _ _ _ _ (by show k ≠ ba; omega)⟩
        clear k0 k1 e1 f3 fz B KS
        go_wp2
        go_ret
        exact ⟨true, cutAt u i x, .inr ⟨i, x, HX.out, by rw [← E0.out, ← HS.out], by have := HP.out; omega, .inr ⟨LS.out, rfl, rfl⟩⟩, rfl, G6.out, ⟨O6.out⟩, X6.out⟩

end Go.Proofs.Ythfmmlpbflfpaac
