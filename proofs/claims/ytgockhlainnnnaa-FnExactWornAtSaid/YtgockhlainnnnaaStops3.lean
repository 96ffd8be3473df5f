/- Stops that are compared, marked and held. -/
import Derived.Test.YtgockhlainnnnaaStops2
import Derived.Deep.RegionHeld3
namespace Go.Proofs.Ytgockhlainnnnaa
open Go.ChangeShapes Go.WideShapes Go.ChangeAt Go.RowKit
set_option linter.unusedVariables false
set_option linter.unusedSimpArgs false

theorem map_so_get {xs ys : List Su} (h : xs.map Su.so = ys.map Su.so) {i : Nat} {x : Su} (hx : xs[i]? = some x) : ∃ y, ys[i]? = some y ∧ y.r = x.r ∧ y.t = x.t := by
  have e : (xs.map Su.so)[i]? = some x.so := by rw [List.getElem?_map, hx]; rfl
  rw [h, List.getElem?_map] at e
  cases hy : ys[i]? with
  | none => rw [hy] at e; simp at e
  | some y =>
    rw [hy] at e
    simp only [Option.map_some, Option.some.injEq] at e
    exact ⟨y, rfl, congrArg So.r e, congrArg So.t e⟩

theorem map_so_len {xs ys : List Su} (h : xs.map Su.so = ys.map Su.so) : xs.length = ys.length := by
  have := congrArg List.length h
  simpa using this

set_option maxRecDepth 100000 in
set_option maxHeartbeats 4000000 in
theorem eqStopS_same (a b : Value) (xs ys : List Su) (w : World) (ha : RdSt w a xs) (hb : RdSt w b ys) (he : xs.map Su.so = ys.map Su.so) (lx : xs.length ≤ 1048576) (lt : ∀ x ∈ xs, x.t.length ≤ 1048576) :
    Calls Try.prog 17 #[a, b] w fun e w' => e = .returned (.bool true) ∧ Below w.heap.size w w' := by
  have HA := Lib.hid ha
  have HB := Lib.hid hb
  obtain ⟨aa, ca, rfl, -⟩ := id ha.rows
  obtain ⟨ab, cb, rfl, -⟩ := id hb.rows
  have le := map_so_len he
  obtain ⟨n, hn⟩ : ∃ n, n = xs.length := ⟨_, rfl⟩
  rw [← le, ← hn] at HB
  rw [← hn] at HA lx
  rw [← le, ← hn]
  have d1 : ((n : Int) != n) = false := by simp
  have HN := Lib.hid hn
  have HE := Lib.hid he
  have LT := Lib.hid lt
  clear ha hb le hn he lt
  go_enter Try.func17, Try.ntmps17
  go_wp2
  go_loopw [5] (fun i wr => ∃ k : Nat, k ≤ n ∧ i = .int .i64 k ∧ Hid (Below w.heap.size w wr)) (fun i _ => n - (intOf i).toNat)
  case atStart => exact ⟨0, by omega, rfl, Below.refl _ _⟩
  case round =>
    obtain ⟨k, hk, rfl, B⟩ := hrel
    have sz := B.out.size
    by_cases hlt : k < n
    · obtain ⟨x, hx⟩ : ∃ x, xs[k]? = some x := ⟨_, List.getElem?_eq_getElem (by have := HN.out; omega)⟩
      obtain ⟨y, hy, yr, yt⟩ := map_so_get HE.out hx
      obtain ⟨ba, oa, rfl, a0, a1, ra, la⟩ := (HA.out.later B.out).at hx
      obtain ⟨bb, ob, rfl, b0, b1, rb, lb⟩ := (HB.out.later B.out).at hy
      have tl := LT.out x (List.mem_of_getElem? hx)
      rw [yt] at rb b1
      rw [yr] at b0
      have C := Lib.hid (fun w (h1 : RdI w (.slice x.a x.t.length x.c) x.t) (h2 : RdI w (.slice y.a x.t.length y.c) x.t) => eqStop_same x.r _ _ x.t w h1 h2 (by omega))
      have R1 := Lib.hid ra
      have R2 := Lib.hid rb
      obtain ⟨m, hm⟩ : ∃ m, m = x.t.length := ⟨_, rfl⟩
      rw [← hm] at a1 b1 C R1 R2
      have KS : Hid (∀ w', Below wr.heap.size wr w' → (w'.cell? ⟨ba, oa + k * 2, none⟩ = some (.int .i64 x.r) ∧ w'.cell? ⟨ba, oa + k * 2 + 1, none⟩ = some (.slice x.a m x.c) ∧ w'.cell? ⟨bb, ob + k * 2, none⟩ = some (.int .i64 x.r) ∧ w'.cell? ⟨bb, ob + k * 2 + 1, none⟩ = some (.slice y.a m y.c))) :=
        fun w' b => ⟨(b.cell (p := ⟨ba, oa + k * 2, none⟩) la).trans a0, (b.cell (p := ⟨ba, oa + k * 2 + 1, none⟩) la).trans a1, (b.cell (p := ⟨bb, ob + k * 2, none⟩) lb).trans b0, (b.cell (p := ⟨bb, ob + k * 2 + 1, none⟩) lb).trans b1⟩
      clear hx hy yr yt ra rb tl hm a0 a1 b0 b1 la lb
      go_wp2
      go_region_held3 (fun w' => (w'.cell? ⟨ba, oa + k * 2, none⟩ = some (.int .i64 x.r) ∧ w'.cell? ⟨ba, oa + k * 2 + 1, none⟩ = some (.slice x.a m x.c) ∧ w'.cell? ⟨bb, ob + k * 2, none⟩ = some (.int .i64 x.r) ∧ w'.cell? ⟨bb, ob + k * 2 + 1, none⟩ = some (.slice y.a m y.c)))
        (first | exact KS.out _ D1.out | exact KS.out _ (Below.refl _ _).drew)
        ((go_at_call 50; refine (C.out _ (R1.out.later (Below.refl _ _).drew) (R2.out.later (Below.refl _ _).drew)).mono ?_; rintro e w1 ⟨rfl, b1⟩; have D1 : Hid (Below wr.heap.size wr w1) := (Below.refl _ _).drew.trans b1))
      rename_i hHeld
      have B2 : Hid (Below w.heap.size w w1) := B.out.trans (D1.out.mono sz)
      clear hHeld D1 KS C R1 R2 B b1
      go_wp2
      exact ⟨⟨k + 1, by omega, by go_num, B2⟩, by simp only [intOf]; omega⟩
    · obtain rfl : k = n := by omega
      go_wp2
      go_ret
      exact ⟨rfl, B.out⟩

theorem sumSt_so {xs ys : List Su} (h : xs.map Su.so = ys.map Su.so) : sumSt xs = sumSt ys := by
  have e : ∀ xs : List Su, sumSt xs = ((xs.map Su.so).map fun h => h.t.length).sum := by intro xs; unfold sumSt; rw [List.map_map]; rfl
  rw [e, e, h]

theorem sumSt_mem {xs : List Su} {x : Su} (h : x ∈ xs) : x.t.length ≤ sumSt xs := by
  induction xs with
  | nil => simp at h
  | cons y ys ih =>
    have e : sumSt (y :: ys) = y.t.length + sumSt ys := by simp [sumSt]
    rcases List.mem_cons.mp h with rfl | h
    · omega
    · have := ih h; omega

/-- Stops that are marked from q on. -/
def mkSt (q : Int) : List Su → List Su
  | [] => []
  | x :: xs => ⟨q, x.a, x.c, upFrom (q + 1) x.t.length⟩ :: mkSt (q + 1 + x.t.length) xs

theorem mkSt_length (q : Int) (xs : List Su) : (mkSt q xs).length = xs.length := by
  induction xs generalizing q with
  | nil => rfl
  | cons x xs ih => simp [mkSt, ih]

theorem mkSt_snoc (q : Int) (xs : List Su) (x : Su) : mkSt q (xs ++ [x]) = mkSt q xs ++ [⟨q + (xs.length + sumSt xs : Nat), x.a, x.c, upFrom (q + (xs.length + sumSt xs : Nat) + 1) x.t.length⟩] := by
  induction xs generalizing q with
  | nil => simp [mkSt, sumSt]
  | cons y ys ih =>
    have e : q + 1 + (y.t.length : Int) + ((ys.length + sumSt ys : Nat) : Int) = q + (((y :: ys).length + sumSt (y :: ys) : Nat) : Int) := by simp [sumSt]; omega
    rw [List.cons_append, mkSt, ih, mkSt, List.cons_append, e]

theorem mkSt_get (q : Int) (xs : List Su) (k : Nat) (x : Su) (hx : xs[k]? = some x) : (mkSt q xs)[k]? = some ⟨q + (k + sumSt (xs.take k) : Nat), x.a, x.c, upFrom (q + (k + sumSt (xs.take k) : Nat) + 1) x.t.length⟩ := by
  have hk : k < xs.length := (List.getElem?_eq_some_iff.1 hx).1
  have e : xs = xs.take (k + 1) ++ xs.drop (k + 1) := (List.take_append_drop _ _).symm
  have gen : ∀ (q : Int) (ys bs : List Su), ∃ cs, mkSt q (ys ++ bs) = mkSt q ys ++ cs := by
    intro q ys
    induction ys generalizing q with
    | nil => intro bs; exact ⟨mkSt q bs, by simp [mkSt]⟩
    | cons a ys ih => intro bs; obtain ⟨cs, h⟩ := ih (q + 1 + a.t.length) bs; exact ⟨cs, by rw [List.cons_append, mkSt, h, mkSt, List.cons_append]⟩
  obtain ⟨cs, hc⟩ := gen q (xs.take (k + 1)) (xs.drop (k + 1))
  rw [← e, List.take_add_one, hx] at hc
  have lt : (xs.take k).length = k := by rw [List.length_take]; omega
  rw [hc, Option.toList_some, mkSt_snoc, lt, List.getElem?_append_left (by rw [List.length_append, mkSt_length, lt]; simp), List.getElem?_append_right (by rw [mkSt_length, lt]; exact Nat.le_refl _), mkSt_length, lt, Nat.sub_self]
  rfl

/-- Two own slices with the same block, one of integers and one of stops: there are none. -/
theorem own_typesSt {w : World} {B B' : Nat} {v u : Value} {xs : List Su} {zs : List Int} (h : OwnS 70 2 encSu w B v xs) (h' : OwnI w B' u zs) {b b' : Nat} (e : v.ownBlock = some b) (e' : u.ownBlock = some b') : b' ≠ b := by
  obtain ⟨-, h2 | ⟨g, cap, cur, rfl, h3, h4, h5⟩⟩ := h
  · rw [h2.1] at e; simp [Value.ownBlock] at e
  · obtain ⟨-, k2 | ⟨g', cap', cur', rfl, k3, k4, k5⟩⟩ := h'
    · rw [k2.1] at e'; simp [Value.ownBlock] at e'
    · simp only [Value.ownBlock, Option.some.injEq] at e e'
      intro c
      rw [e', c, ← e, h4] at k4
      simp at k4

set_option maxRecDepth 100000 in
set_option maxHeartbeats 8000000 in
theorem markStopS_any (v : Value) (xs : List Su) (w : World) (B C : Nat) (h : OwnSt w B C v xs) (lz : xs.length ≤ 1048576) (ls : sumSt xs ≤ 1048576) (q : Int) (hq : 0 ≤ q) (hq2 : q ≤ 1073741824) :
    Calls Try.prog 24 #[v, .int .i64 q] w fun e w' => e = .returned (.int .i64 (q + (xs.length + sumSt xs : Nat))) ∧ OwnSt w' B C v (mkSt q xs) ∧ Chg B C w w' ∧ (∀ b, b < w.heap.size → v.ownBlock ≠ some b → (∀ x ∈ xs, x.u.ownBlock ≠ some b) → w'.heap[b]? = w.heap[b]?) := by
  obtain ⟨n, hn⟩ : ∃ n, n = xs.length := ⟨_, rfl⟩
  rw [← hn] at lz
  rw [← hn]
  obtain ⟨R, hR⟩ : ∃ R : Int, R = q + (n + sumSt xs : Nat) := ⟨_, rfl⟩
  rw [← hR]
  have HR := Lib.hid hR
  clear hR
  rcases h.rows.forms with ⟨rfl, hx0⟩ | ⟨g, cap, rfl⟩
  · subst hx0
    obtain rfl : n = 0 := hn
    have H := Lib.hid h
    have RQ : Hid (R = q) := by show _ = _; rw [HR.out]; simp [sumSt]
    clear h
    go_enter Try.func24, Try.ntmps24
    go_wp2
    refine wp_loop_rounds 1 ?_
    rw [rounds_succ]
    go_wp2
    go_ret
    exact ⟨by rw [RQ.out]; rfl, H.out, Chg.refl _ _ _, fun _ _ _ _ => rfl⟩
  · rw [← hn] at h
    have H := Lib.hid h
    have HN := Lib.hid hn
    have HS := Lib.hid ls
    have gB := (h.rows.lt g rfl).1
    have gC := h.rb g rfl
    rw [← hn]
    clear h hn ls
    have H0 : Hid (OwnSt w B C (.slice (some ⟨g, 0, none⟩) n cap) (mkSt q (xs.take 0) ++ xs.drop 0)) := by simpa [mkSt] using H
    go_enter Try.func24, Try.ntmps24
    go_wp2
    go_loopw [1, 5] (fun p i wr => ∃ (k : Nat) (l : Int), k ≤ n ∧ q ≤ l ∧ l ≤ q + 2097152 ∧ i = .int .i64 k ∧ p = .int .i64 l ∧ Hid (l = q + (k + sumSt (xs.take k) : Nat)) ∧ Hid (OwnSt wr B C (.slice (some ⟨g, 0, none⟩) n cap) (mkSt q (xs.take k) ++ xs.drop k)) ∧ Hid (Chg B C w wr) ∧ Hid (∀ b, b < w.heap.size → b ≠ g → (∀ x ∈ xs, x.u.ownBlock ≠ some b) → wr.heap[b]? = w.heap[b]?)) (fun _ i _ => n - (intOf i).toNat)
    case atStart => exact ⟨0, q, by omega, by omega, by omega, rfl, rfl, by show _ = _; simp [sumSt], H0, Chg.refl _ _ _, fun _ _ _ _ => rfl⟩
    case round =>
      obtain ⟨k, l, hk, l0, l1, rfl, rfl, hl, ho, hg, hf⟩ := hrel
      clear H0
      have tk : (xs.take k).length = k := by rw [List.length_take]; have := HN.out; omega
      by_cases hlt : k < n
      · obtain ⟨x, hx⟩ : ∃ x, xs[k]? = some x := ⟨_, List.getElem?_eq_getElem (by have := HN.out; omega)⟩
        obtain ⟨zs, hzs⟩ : ∃ zs, zs = mkSt q (xs.take k) ++ xs.drop k := ⟨_, rfl⟩
        have zl : n = zs.length := by rw [hzs, List.length_append, mkSt_length, tk, List.length_drop]; have := HN.out; omega
        have zx : zs[k]? = some x := by rw [hzs, List.getElem?_append_right (by rw [mkSt_length, tk]; exact Nat.le_refl _), mkSt_length, tk, Nat.sub_self, List.getElem?_drop]; simpa using hx
        rw [← hzs] at ho
        have own := ho.out
        have c0 : wr.cell? ⟨g, k * 2, none⟩ = some (.int .i64 x.r) := own.rows.cellAt encSu_len zl k x zx 0 _ rfl
        have c1 : wr.cell? ⟨g, k * 2 + 1, none⟩ = some (.slice x.a x.t.length x.c) := own.rows.cellAt encSu_len zl k x zx 1 _ rfl
        have f0 : wr.frozen? ⟨g, k * 2, none⟩ = false := own.rows.frozenAt zl _
        have s0 := own.rows.stored1 encSu_len zl k 0 x ⟨l, x.a, x.c, x.t⟩ (.int .i64 l) zx (by omega) rfl
        rw [Nat.add_zero] at s0
        have xt := own.tops x (List.mem_of_getElem? zx)
        have xb := own.tb x (List.mem_of_getElem? zx)
        have st := sumSt_take_succ hx
        have sl := sumSt_take_le xs (k + 1)
        obtain ⟨m, hm⟩ : ∃ m, m = x.t.length := ⟨_, rfl⟩
        rw [← hm] at st c1
        have nb : ∀ (w2 : World) (B2 : Nat) (u : Value) (ts : List Int) (b : Nat), u.ownBlock = some b → OwnI wr B2 u ts → b ≠ g := fun w2 B2 u ts b e o => own_typesSt own.rows o rfl e
        have xo : OwnI (wr.setCell ⟨g, k * 2, none⟩ (.int .i64 l)) B x.u x.t := xt.of_block fun b hb => Below.heap_setCell _ _ _ _ (nb wr B x.u x.t b hb xt)
        have ml : m ≤ 1048576 := by have := HS.out; omega
        have MK := Lib.hid (markInts_any x.u x.t _ B xo (by rw [← hm]; omega) (l + 1) (by omega) (by omega))
        have eu : x.u = .slice x.a m x.c := by rw [hm]; rfl
        rw [← hm, eu] at MK
        have HL1 : Hid (l + 1 + (m : Int) = q + ((k + 1) + sumSt (xs.take (k + 1)) : Nat)) := by show _ = _; have := hl.out; omega
        have lb : l + 1 + (m : Int) ≤ q + 2097152 := by have := HL1.out; have := HS.out; omega
        have KEEP : Hid (∀ w2, OwnI w2 B (.slice x.a m x.c) (upFrom (l + 1) m) → (wr.setCell ⟨g, k * 2, none⟩ (.int .i64 l)).grownBy w2 (Value.slice x.a m x.c).ownBlock → OwnSt w2 B C (.slice (some ⟨g, 0, none⟩) n cap) (mkSt q (xs.take (k + 1)) ++ xs.drop (k + 1)) ∧ Chg B C w w2 ∧ (∀ b, b < w.heap.size → b ≠ g → (∀ x ∈ xs, x.u.ownBlock ≠ some b) → w2.heap[b]? = w.heap[b]?)) := by
          intro w2 o2 g2
          rw [← eu] at o2 g2
          have e2 : zs.set k ⟨l, x.a, x.c, upFrom (l + 1) m⟩ = mkSt q (xs.take (k + 1)) ++ xs.drop (k + 1) := by
            rw [hzs, List.set_append_right _ _ (by rw [mkSt_length, tk]; exact Nat.le_refl _), mkSt_length, tk, Nat.sub_self, List.drop_eq_getElem_cons (by have := HN.out; omega), List.set_cons_zero, List.take_add_one, hx, Option.toList_some, mkSt_snoc, tk, ← hl.out, hm, List.append_assoc]
            rfl
          have hsz : wr.heap.size ≤ w2.heap.size := by have := g2.size; simpa [World.setCell] using this
          have CG : Chg B C wr w2 := (Chg.of_grown (grownBy_setCell' wr ⟨g, k * 2, none⟩ (.int .i64 l)) (fun b e => by have e1 : g = b := Option.some.inj e; omega)).trans (Chg.of_grown g2 (fun b e => ⟨(xt.lt b e).1, xb b e⟩))
          have row2 : OwnS 70 2 encSu w2 B (.slice (some ⟨g, 0, none⟩) n cap) (zs.set k ⟨l, x.a, x.c, x.t⟩) := s0.kept g2 (by
            cases hv : x.u.ownBlock with
            | none => exact .inr (by simp [Value.ownBlock])
            | some b => exact .inr (fun c => nb wr B x.u x.t b hv xt (by simpa [Value.ownBlock] using c.symm)))
          have row3 : OwnS 70 2 encSu w2 B (.slice (some ⟨g, 0, none⟩) n cap) (zs.set k ⟨l, x.a, x.c, upFrom (l + 1) m⟩) := by
            have e3 : (zs.set k ⟨l, x.a, x.c, x.t⟩).flatMap encSu = (zs.set k ⟨l, x.a, x.c, upFrom (l + 1) m⟩).flatMap encSu := by
              have f1 := flat_set1 encSu_len zs k 0 x ⟨l, x.a, x.c, x.t⟩ (.int .i64 l) zx (by omega) rfl
              have f2 := flat_set1 encSu_len zs k 0 x ⟨l, x.a, x.c, upFrom (l + 1) m⟩ (.int .i64 l) zx (by omega) (by simp [encSu, upFrom_length, hm])
              rw [← f1, ← f2]
            unfold OwnS at row2 ⊢
            rw [List.length_set] at row2 ⊢
            rw [← e3]; exact row2
          have other : ∀ (j : Nat) y, j ≠ k → zs[j]? = some y → OwnI w2 B y.u y.t := by
            intro j y hj hy
            have oy := own.tops y (List.mem_of_getElem? hy)
            refine oy.of_block fun b hb => ?_
            rw [g2.block b (by have := (oy.lt b hb).2; simpa [World.setCell] using this) (fun c => hj (own.apart j k y x b hy zx hb c.symm))]
            exact Below.heap_setCell _ _ _ _ (nb wr B y.u y.t b hb oy)
          refine ⟨?_, hg.out.trans CG, fun b h1 h2 h3 => ?_⟩
          rotate_left
          · rw [g2.block b (by have := hg.out.size; simp [World.setCell]; omega) (fun c => h3 x (List.mem_of_getElem? hx) c.symm), Below.heap_setCell _ _ _ _ h2]
            exact hf.out b h1 h2 h3
          rw [← e2]
          refine ⟨row3, own.rb, fun y hy => ?_, fun y hy b hb => ?_, fun i j y z b hi hj hb hc => ?_, Nat.le_trans own.cb hsz⟩
          · obtain ⟨j, hj, rfl⟩ := List.mem_iff_getElem.1 hy
            have hj' : j < zs.length := by simpa using hj
            by_cases e : j = k
            · subst e
              rw [List.getElem_set_self]
              have : (⟨l, x.a, x.c, upFrom (l + 1) m⟩ : Su).u = x.u := by rw [eu]; simp [Su.u, upFrom_length]
              rw [this]; exact o2
            · rw [List.getElem_set_ne (by omega)]
              exact other j _ e (List.getElem?_eq_getElem hj')
          · obtain ⟨j, hj, rfl⟩ := List.mem_iff_getElem.1 hy
            have hj' : j < zs.length := by simpa using hj
            by_cases e : j = k
            · subst e
              rw [List.getElem_set_self] at hb
              exact xb b (by rw [eu]; simpa [Su.u, upFrom_length] using hb)
            · rw [List.getElem_set_ne (by omega)] at hb
              exact own.tb _ (List.getElem_mem hj') b hb
          · have key : ∀ (i : Nat) y b, (zs.set k ⟨l, x.a, x.c, upFrom (l + 1) m⟩)[i]? = some y → y.u.ownBlock = some b → ∃ z, zs[i]? = some z ∧ z.u.ownBlock = some b := by
              intro i y b hi hb
              have hi' : i < zs.length := by have := (List.getElem?_eq_some_iff.1 hi).1; simpa using this
              by_cases e : i = k
              · subst e
                rw [List.getElem?_set_self hi'] at hi
                have := Option.some.inj hi
                subst this
                exact ⟨x, zx, by rw [eu]; simpa [Su.u, upFrom_length] using hb⟩
              · rw [List.getElem?_set_ne (by omega)] at hi
                exact ⟨y, hi, hb⟩
            obtain ⟨y', hy', by'⟩ := key i y b hi hb
            obtain ⟨z', hz', bz'⟩ := key j z b hj hc
            exact own.apart i j y' z' b hy' hz' by' bz'
        clear hx hzs zl zx own s0 xt xb st sl hm nb xo eu ho hg hl tk hf
        go_wp2_with fail
        refine MK.out.mono ?_
        rintro e w2 ⟨rfl, o2, g2⟩
        have KK := KEEP.out w2 o2 g2
        have K1 := Lib.hid KK.1
        have K2 := Lib.hid KK.2.1
        have K3 := Lib.hid KK.2.2
        clear KK o2 g2 KEEP MK c0 c1 f0
        go_wp2
        exact ⟨⟨k + 1, _, by omega, by omega, by omega, by go_num, rfl, HL1, K1, K2, K3⟩, by simp only [intOf]; omega⟩
      · obtain rfl : k = n := by omega
        have ho' := ho.out
        have te : xs.take k = xs := List.take_of_length_le (by have := HN.out; omega)
        rw [te, List.drop_of_length_le (by have := HN.out; omega), List.append_nil] at ho'
        have HO := Lib.hid ho'
        have LR : Hid (l = R) := by show _ = _; rw [HR.out, hl.out, te]
        clear ho ho' te hl tk
        go_wp2
        go_ret
        exact ⟨by rw [LR.out]; rfl, HO.out, hg.out, fun b h1 h2 h3 => hf.out b h1 (fun c => h2 (by rw [c]; rfl)) h3⟩
end Go.Proofs.Ytgockhlainnnnaa
