/- The law of courses. -/
import Derived.Test.YtkdecpnbbpmooacDoorB10C
import Derived.Test.YtkdecpnbbpmooacDoorCText
import Derived.Test.YtkdecpnbbpmooacDoorReadC2
import Derived.Test.YtkdecpnbbpmooacDoorSteerM2
import Derived.Test.YtkdecpnbbpmooacDoorSteerC
import Derived.Deep.RegionHeld3
namespace Go.Proofs.YtkdecpnbbpmooacDoor
open Go.ChangeShapes Go.WideShapes Go.ChangeAt Go.RowKit
set_option linter.unusedVariables false
set_option linter.unusedSimpArgs false

theorem joinTo_step {sep : List UInt8} {xs : List Int} {k : Nat} {x : Int} (hk : 1 ≤ k) (hx : xs[k]? = some x) : joinTo sep xs (k + 1) = joinTo sep xs k ++ (sep ++ Lib.itoa x) := by
  simp only [joinTo]
  rw [if_neg (by omega)]
  simp [List.getD, hx]

theorem wordsL_split (c : UInt8) (b : List UInt8) : ∀ a : List UInt8, wordsL c (a ++ c :: b) = wordsL c a ++ wordsL c b := by
  intro a
  induction a with
  | nil => show wordsL c (c :: b) = [] :: wordsL c b; rw [wordsL, if_pos (by simp)]
  | cons x a ih =>
    show wordsL c (x :: (a ++ c :: b)) = _
    by_cases hx : (x == c) = true
    · rw [wordsL, if_pos hx, ih, wordsL, if_pos hx]; rfl
    · rw [wordsL, if_neg hx, ih, wordsL, if_neg hx]
      obtain ⟨w, ws, e⟩ := List.exists_cons_of_ne_nil (wordsL_ne c a)
      rw [e]
      rfl
theorem no47 (m : Int) : (47 : UInt8) ∉ Lib.itoa m := by
  intro h
  by_cases hm : m < 0
  · have e : Lib.itoa m = 45 :: Lib.decDigits m.natAbs := by unfold Lib.itoa; rw [if_pos hm]
    rw [e, List.mem_cons] at h
    rcases h with h | h
    · cases h
    · have := decDigits_digit _ _ h; simp at this
  · have e : Lib.itoa m = Lib.decDigits m.toNat := by unfold Lib.itoa; rw [if_neg hm]
    rw [e] at h
    have := decDigits_digit _ _ h; simp at this
theorem words_join (xs : List Int) : ∀ k, 1 ≤ k → k ≤ xs.length → wordsL 47 (joinTo [47] xs k) = (xs.take k).map Lib.itoa := by
  intro k
  induction k with
  | zero => intro h _; omega
  | succ k ih =>
    intro _ hk
    obtain ⟨x, hx⟩ : ∃ x, xs[k]? = some x := ⟨_, List.getElem?_eq_getElem (by omega)⟩
    rw [List.take_add_one, hx, List.map_append]
    by_cases k0 : k = 0
    · subst k0
      have e : joinTo [47] xs 1 = Lib.itoa x := by simp [joinTo, List.getD, hx]
      rw [e, wordsL_none 47 _ (no47 x)]
      rfl
    · rw [joinTo_step (by omega) hx, List.singleton_append, wordsL_split, ih (by omega) (by omega), wordsL_none 47 _ (no47 x)]
      rfl
theorem readsMap {xs : List Int} (h : ∀ x ∈ xs, ValI x) : Reads (xs.map Lib.itoa) xs := by
  refine ⟨by simp, fun i w x hw hx => ?_⟩
  rw [List.getElem?_map, hx] at hw
  simp only [Option.map_some, Option.some.injEq] at hw
  exact ⟨h x (List.mem_of_getElem? hx), hw.symm⟩
theorem IsRow.laterB {k : IntKind} {w w' : World} {a : Option Addr} {len cap : Nat} {zs : List Int} (h : IsRow k w a len cap zs) (hb : Below w.heap.size w w') : IsRow k w' a len cap zs := by
  rcases h with h | ⟨x, h0, h1, h2, h3, h4, h5⟩
  · exact .inl h
  · exact .inr ⟨x, h0, h1, h2, h3, fun i hi => (hb.cell (World.block_lt_of_cell? w _ (h4 i hi))).trans (h4 i hi), h5⟩

theorem drawn_small {c : Co} (h : DrawnC c) : SmallC c := by
  obtain ⟨⟨h1, h2⟩, ⟨h3, h4⟩, h5, h6⟩ := h
  exact ⟨⟨⟨by omega, by omega⟩, ⟨by omega, by omega⟩⟩, ⟨by omega, by omega⟩⟩
theorem readCourse_of {c : Co} (h : DrawnC c) : CourseRes (textC c) c true := by
  refine .inl ⟨?_, drawn_small h, rfl⟩
  have e : wordsL 47 (textC c) = [c.o, c.h, c.t].map Lib.itoa := by
    show wordsL 47 (joinTo [47] [c.o, c.h, c.t] 3) = _
    rw [words_join [c.o, c.h, c.t] 3 (by omega) (by simp)]
    rfl
  rw [e]
  obtain ⟨⟨h1, h2⟩, ⟨h3, h4⟩, h5, h6⟩ := h
  refine readsMap (fun x hx => ?_)
  simp only [List.mem_cons, List.not_mem_nil, or_false] at hx
  unfold ValI
  rcases hx with rfl | rfl | rfl <;> omega
theorem textC_len {c : Co} (h : DrawnC c) : (textC c).length ≤ 66 := by
  obtain ⟨⟨h1, h2⟩, ⟨h3, h4⟩, h5, h6⟩ := h
  exact joinTo_len [47] (by simp) [c.o, c.h, c.t] (fun x hx => by
    simp only [List.mem_cons, List.not_mem_nil, or_false] at hx
    rcases hx with rfl | rfl | rfl <;> omega) 3 (by simp)
theorem mir_mir (c : Co) : mirC (mirC c) = c := by unfold mirC; simp
theorem small_mir {c : Co} (h : SmallC c) : SmallC (mirC c) := by
  obtain ⟨⟨⟨x1, x2⟩, ⟨x3, x4⟩⟩, ⟨x5, x6⟩⟩ := h
  unfold mirC
  exact ⟨⟨⟨by simp only; omega, by simp only; omega⟩, ⟨by simp only; omega, by simp only; omega⟩⟩, ⟨by simp only; omega, by simp only; omega⟩⟩
set_option maxRecDepth 100000 in
set_option maxHeartbeats 8000000 in
theorem courses_law (w : World) (a0 : Option Addr) (len0 cap0 : Nat) (z0 : List Int) (w0 : IsRow .u8 w a0 len0 cap0 z0) (a1 : Option Addr) (len1 cap1 : Nat) (z1 : List Int) (w1 : IsRow .u8 w a1 len1 cap1 z1) (T : TSp w) (l0 : len0 ≤ 1048576) (l1 : len1 ≤ 1048576) :
    Calls Tryd.prog 3 #[.slice a0 len0 cap0, .slice a1 len1 cap1] w fun e w' => e = .returned (.bool true) ∧ Below w.heap.size w w' := by
  have HT := Lib.hid T
  have cl := Lib.hid (fun w => b10Long_any a0 a1 len0 len1 cap0 cap1 false (by simp; omega) w)
  obtain ⟨rb, rl⟩ := w0.rdB
  have CB := Lib.hid (b10Course_any w _ _ rb (by omega))
  have A0 := Lib.hid (fun w h => b10At_any a1 len1 cap1 z1 w h l1 0 (by omega) 200 (by omega) (by omega))
  have A1 := Lib.hid (fun w h => b10At_any a1 len1 cap1 z1 w h l1 1 (by omega) 200 (by omega) (by omega))
  have A2 := Lib.hid (fun w h => b10At_any a1 len1 cap1 z1 w h l1 2 (by omega) 200 (by omega) (by omega))
  have A3 := Lib.hid (fun w h => b10At_any a1 len1 cap1 z1 w h l1 3 (by omega) 200 (by omega) (by omega))
  have W1 := Lib.hid w1
  clear T w0 w1 l0 l1 rb rl
  go_enter Tryd.func3, Tryd.ntmps3
  go_wp2_with fail
  refine (cl.out _).mono ?_
  rintro e w' ⟨rfl, rfl⟩
  go_wp2_with fail
  refine CB.out.mono ?_
  rintro e x1 ⟨L, c, rfl, b1, dr⟩
  have B1 := Lib.hid b1
  have sm := drawn_small dr
  have CT := Lib.hid (fun w hT => implCText_any c (textC c) (.inl ⟨sm, rfl⟩) w hT)
  have CR := Lib.hid (fun w hT => implReadC_any ⟨(textC c).toArray⟩ (by show (textC c).toArray.size ≤ _; rw [List.size_toArray]; have := textC_len dr; omega) c true (readCourse_of dr) w hT)
  obtain ⟨A, hA⟩ : ∃ A : ByteArray, A = ⟨(textC c).toArray⟩ := ⟨_, rfl⟩
  rw [← hA] at CT CR
  have SM := Lib.hid sm
  have DR := Lib.hid dr
  clear b1 CB cl hA dr sm
  have BX : Hid (Below w.heap.size w ((x1.alloc (.cells #[.int .i64 L.m, .int .i64 L.c] 25)).alloc (.cells #[.int .i64 c.o, .int .i64 c.h, .int .i64 c.t] 27))) := (B1.out.alloc B1.out.size _).alloc (by have := B1.out.size; simp only [World.size_alloc]; omega) _
  have NX : Hid (((x1.alloc (.cells #[.int .i64 L.m, .int .i64 L.c] 25)).alloc (.cells #[.int .i64 c.o, .int .i64 c.h, .int .i64 c.t] 27)).heap[x1.heap.size + 1]? = some (.cells #[.int .i64 c.o, .int .i64 c.h, .int .i64 c.t] 27 (0, 0))) := boxN2_1 x1 _ _
  go_wp2_with fail
  have lx := B1.out.size
  generalize hu : ((x1.alloc (.cells #[.int .i64 L.m, .int .i64 L.c] 25)).alloc (.cells #[.int .i64 c.o, .int .i64 c.h, .int .i64 c.t] 27)) = u at BX NX
  try rw [hu]
  obtain ⟨p6, hp6⟩ : ∃ p, p = x1.heap.size + 1 := ⟨_, rfl⟩
  rw [← hp6] at NX ⊢
  clear hu hp6 B1 lx
  refine (CT.out _ (HT.out.1.1.later BX.out)).mono ?_
  rintro e x2 ⟨rfl, b2⟩
  have B2 := Lib.hid (BX.out.trans (b2.mono BX.out.size))
  have N2 := Lib.hid ((b2.block _ (box_lt NX.out)).trans NX.out)
  clear b2 BX NX CT
  go_wp2_with fail
  refine (CR.out _ (HT.out.later B2.out)).mono ?_
  rintro e x3 ⟨rfl, b3⟩
  have B3 := Lib.hid (B2.out.trans (b3.mono B2.out.size))
  have N3 := Lib.hid ((b3.block _ (box_lt N2.out)).trans N2.out)
  clear b3 B2 N2 CR
  have BX : Hid (Below w.heap.size w (x3.alloc (.cells #[.int .i64 c.o, .int .i64 c.h, .int .i64 c.t] 27))) := B3.out.alloc B3.out.size _
  have N6 : Hid ((x3.alloc (.cells #[.int .i64 c.o, .int .i64 c.h, .int .i64 c.t] 27)).heap[p6]? = some (.cells #[.int .i64 c.o, .int .i64 c.h, .int .i64 c.t] 27 (0, 0))) := (Below.heap_alloc _ _ _ (box_lt N3.out)).trans N3.out
  have N7 : Hid ((x3.alloc (.cells #[.int .i64 c.o, .int .i64 c.h, .int .i64 c.t] 27)).heap[x3.heap.size]? = some (.cells #[.int .i64 c.o, .int .i64 c.h, .int .i64 c.t] 27 (0, 0))) := heap_alloc_new x3 _
  go_wp2_with fail
  generalize hu : (x3.alloc (.cells #[.int .i64 c.o, .int .i64 c.h, .int .i64 c.t] 27)) = u3 at BX N6 N7
  try rw [hu]
  obtain ⟨p7, hp7⟩ : ∃ p, p = x3.heap.size := ⟨_, rfl⟩
  rw [← hp7] at N7 ⊢
  clear hu hp7 B3 N3
  have W3 := Lib.hid (W1.out.laterB BX.out)
  refine (A0.out _ W3.out).mono ?_
  rintro e w' ⟨ps, rfl, s0, s1, rfl⟩
  go_wp2_with fail
  refine (A1.out _ W3.out).mono ?_
  rintro e w' ⟨ph, rfl, h0, h1, rfl⟩
  go_wp2_with fail
  refine (A2.out _ W3.out).mono ?_
  rintro e w' ⟨py, rfl, y0, y1, rfl⟩
  go_wp2_with fail
  refine (A3.out _ W3.out).mono ?_
  rintro e w' ⟨pp, rfl, t0, t1, rfl⟩
  clear A0 A1 A2 A3 W3
  have D0 := DR.out
  obtain ⟨⟨d1, d2⟩, ⟨d3, d4⟩, d5, d6⟩ := D0
  have q1 : IntKind.i64.wrap (ps + c.o) = ps + c.o := IntWalk.i64_in _ (by omega)
  have q2 : IntKind.i64.wrap (py + c.h) = py + c.h := IntWalk.i64_in _ (by omega)
  have KC : Hid (∀ w, Calls Tryd.prog 12 #[(.agg #[.int .i64 (⟨ps + c.o, ph, py + c.h, pp⟩ : Ps).s, .int .i64 (⟨ps + c.o, ph, py + c.h, pp⟩ : Ps).h, .int .i64 (⟨ps + c.o, ph, py + c.h, pp⟩ : Ps).y, .int .i64 (⟨ps + c.o, ph, py + c.h, pp⟩ : Ps).p]), (.agg #[.int .i64 (⟨ps, ph, py, pp⟩ : Ps).s, .int .i64 (⟨ps, ph, py, pp⟩ : Ps).h, .int .i64 (⟨ps, ph, py, pp⟩ : Ps).y, .int .i64 (⟨ps, ph, py, pp⟩ : Ps).p])] w fun e w' => e = .returned (.tuple #[(.agg #[.int .i64 (⟨c.o, c.h, 0⟩ : Co).o, .int .i64 (⟨c.o, c.h, 0⟩ : Co).h, .int .i64 (⟨c.o, c.h, 0⟩ : Co).t]), (.agg #[.int .i64 (⟨0, 0, 0⟩ : Co).o, .int .i64 (⟨0, 0, 0⟩ : Co).h, .int .i64 (⟨0, 0, 0⟩ : Co).t]), .bool true]) ∧ Below w.heap.size w w') := fun w =>
    implCof_any ⟨ps + c.o, ph, py + c.h, pp⟩ ⟨ps, ph, py, pp⟩ ⟨c.o, c.h, 0⟩ ⟨0, 0, 0⟩ true (.inl ⟨by
      unfold CofOk sideC highC NearC OkP OkOff OkHead
      dsimp only
      omega, Co.eq (show c.o = ps + c.o - ps by omega) (show c.h = py + c.h - py by omega) rfl, Co.eq (show (0 : Int) = ph - ph by omega) (show (0 : Int) = pp - pp by omega) rfl, rfl⟩) w
  have l6 := box_lt N6.out
  have l7 := box_lt N7.out
  have n6 : ¬ p6 = u3.heap.size := by omega
  obtain ⟨⟨k0, k1, k2⟩, -⟩ := boxCo_at (q := c) N6.out
  have BX4 : Hid (Below w.heap.size w ((u3.alloc (.cells #[.int .i64 (⟨ps, ph, py, pp⟩ : Ps).s, .int .i64 (⟨ps, ph, py, pp⟩ : Ps).h, .int .i64 (⟨ps, ph, py, pp⟩ : Ps).y, .int .i64 (⟨ps, ph, py, pp⟩ : Ps).p] 35)).alloc (.cells #[.int .i64 (⟨ps + c.o, ph, py + c.h, pp⟩ : Ps).s, .int .i64 (⟨ps + c.o, ph, py + c.h, pp⟩ : Ps).h, .int .i64 (⟨ps + c.o, ph, py + c.h, pp⟩ : Ps).y, .int .i64 (⟨ps + c.o, ph, py + c.h, pp⟩ : Ps).p] 35))) := (BX.out.alloc BX.out.size _).alloc (by have := BX.out.size; simp only [World.size_alloc]; omega) _
  have N64 : Hid (((u3.alloc (.cells #[.int .i64 (⟨ps, ph, py, pp⟩ : Ps).s, .int .i64 (⟨ps, ph, py, pp⟩ : Ps).h, .int .i64 (⟨ps, ph, py, pp⟩ : Ps).y, .int .i64 (⟨ps, ph, py, pp⟩ : Ps).p] 35)).alloc (.cells #[.int .i64 (⟨ps + c.o, ph, py + c.h, pp⟩ : Ps).s, .int .i64 (⟨ps + c.o, ph, py + c.h, pp⟩ : Ps).h, .int .i64 (⟨ps + c.o, ph, py + c.h, pp⟩ : Ps).y, .int .i64 (⟨ps + c.o, ph, py + c.h, pp⟩ : Ps).p] 35)).heap[p6]? = some (.cells #[.int .i64 c.o, .int .i64 c.h, .int .i64 c.t] 27 (0, 0))) := (Below.heap_alloc _ _ _ (by simp only [World.size_alloc]; omega)).trans ((Below.heap_alloc _ _ _ l6).trans N6.out)
  have N74 : Hid (((u3.alloc (.cells #[.int .i64 (⟨ps, ph, py, pp⟩ : Ps).s, .int .i64 (⟨ps, ph, py, pp⟩ : Ps).h, .int .i64 (⟨ps, ph, py, pp⟩ : Ps).y, .int .i64 (⟨ps, ph, py, pp⟩ : Ps).p] 35)).alloc (.cells #[.int .i64 (⟨ps + c.o, ph, py + c.h, pp⟩ : Ps).s, .int .i64 (⟨ps + c.o, ph, py + c.h, pp⟩ : Ps).h, .int .i64 (⟨ps + c.o, ph, py + c.h, pp⟩ : Ps).y, .int .i64 (⟨ps + c.o, ph, py + c.h, pp⟩ : Ps).p] 35)).heap[p7]? = some (.cells #[.int .i64 c.o, .int .i64 c.h, .int .i64 c.t] 27 (0, 0))) := (Below.heap_alloc _ _ _ (by simp only [World.size_alloc]; omega)).trans ((Below.heap_alloc _ _ _ l7).trans N7.out)
  dsimp only at BX4 N64 N74
  clear N6 N7 BX
  go_wp2_with fail
  generalize hu : ((u3.alloc (.cells #[.int .i64 (⟨ps, ph, py, pp⟩ : Ps).s, .int .i64 (⟨ps, ph, py, pp⟩ : Ps).h, .int .i64 (⟨ps, ph, py, pp⟩ : Ps).y, .int .i64 (⟨ps, ph, py, pp⟩ : Ps).p] 35)).alloc (.cells #[.int .i64 (⟨ps + c.o, ph, py + c.h, pp⟩ : Ps).s, .int .i64 (⟨ps + c.o, ph, py + c.h, pp⟩ : Ps).h, .int .i64 (⟨ps + c.o, ph, py + c.h, pp⟩ : Ps).y, .int .i64 (⟨ps + c.o, ph, py + c.h, pp⟩ : Ps).p] 35)) = u4 at BX4 N64 N74
  dsimp only at hu
  try rw [hu]
  clear hu k0 k1 k2 n6 q1 q2 l6 l7
  refine (KC.out _).mono ?_
  rintro e x5 ⟨rfl, b5⟩
  have B5 := Lib.hid (BX4.out.trans (b5.mono BX4.out.size))
  have N65 := Lib.hid ((b5.block _ (box_lt N64.out)).trans N64.out)
  have N75 := Lib.hid ((b5.block _ (box_lt N74.out)).trans N74.out)
  clear b5 KC BX4 N64 N74
  have BX6 : Hid (Below w.heap.size w ((x5.alloc (.cells #[.int .i64 (⟨c.o, c.h, 0⟩ : Co).o, .int .i64 (⟨c.o, c.h, 0⟩ : Co).h, .int .i64 (⟨c.o, c.h, 0⟩ : Co).t] 27)).alloc (.cells #[.int .i64 (⟨0, 0, 0⟩ : Co).o, .int .i64 (⟨0, 0, 0⟩ : Co).h, .int .i64 (⟨0, 0, 0⟩ : Co).t] 27))) := (B5.out.alloc B5.out.size _).alloc (by have := B5.out.size; simp only [World.size_alloc]; omega) _
  have N66 : Hid (((x5.alloc (.cells #[.int .i64 (⟨c.o, c.h, 0⟩ : Co).o, .int .i64 (⟨c.o, c.h, 0⟩ : Co).h, .int .i64 (⟨c.o, c.h, 0⟩ : Co).t] 27)).alloc (.cells #[.int .i64 (⟨0, 0, 0⟩ : Co).o, .int .i64 (⟨0, 0, 0⟩ : Co).h, .int .i64 (⟨0, 0, 0⟩ : Co).t] 27)).heap[p6]? = some (.cells #[.int .i64 c.o, .int .i64 c.h, .int .i64 c.t] 27 (0, 0))) := (Below.heap_alloc _ _ _ (by have := box_lt N65.out; simp only [World.size_alloc]; omega)).trans ((Below.heap_alloc _ _ _ (box_lt N65.out)).trans N65.out)
  have N76 : Hid (((x5.alloc (.cells #[.int .i64 (⟨c.o, c.h, 0⟩ : Co).o, .int .i64 (⟨c.o, c.h, 0⟩ : Co).h, .int .i64 (⟨c.o, c.h, 0⟩ : Co).t] 27)).alloc (.cells #[.int .i64 (⟨0, 0, 0⟩ : Co).o, .int .i64 (⟨0, 0, 0⟩ : Co).h, .int .i64 (⟨0, 0, 0⟩ : Co).t] 27)).heap[p7]? = some (.cells #[.int .i64 c.o, .int .i64 c.h, .int .i64 c.t] 27 (0, 0))) := (Below.heap_alloc _ _ _ (by have := box_lt N75.out; simp only [World.size_alloc]; omega)).trans ((Below.heap_alloc _ _ _ (box_lt N75.out)).trans N75.out)
  have N11 : Hid (((x5.alloc (.cells #[.int .i64 (⟨c.o, c.h, 0⟩ : Co).o, .int .i64 (⟨c.o, c.h, 0⟩ : Co).h, .int .i64 (⟨c.o, c.h, 0⟩ : Co).t] 27)).alloc (.cells #[.int .i64 (⟨0, 0, 0⟩ : Co).o, .int .i64 (⟨0, 0, 0⟩ : Co).h, .int .i64 (⟨0, 0, 0⟩ : Co).t] 27)).heap[x5.heap.size]? = some (.cells #[.int .i64 (⟨c.o, c.h, 0⟩ : Co).o, .int .i64 (⟨c.o, c.h, 0⟩ : Co).h, .int .i64 (⟨c.o, c.h, 0⟩ : Co).t] 27 (0, 0))) := boxN2_0 x5 _ _
  have N12 : Hid (((x5.alloc (.cells #[.int .i64 (⟨c.o, c.h, 0⟩ : Co).o, .int .i64 (⟨c.o, c.h, 0⟩ : Co).h, .int .i64 (⟨c.o, c.h, 0⟩ : Co).t] 27)).alloc (.cells #[.int .i64 (⟨0, 0, 0⟩ : Co).o, .int .i64 (⟨0, 0, 0⟩ : Co).h, .int .i64 (⟨0, 0, 0⟩ : Co).t] 27)).heap[x5.heap.size + 1]? = some (.cells #[.int .i64 (⟨0, 0, 0⟩ : Co).o, .int .i64 (⟨0, 0, 0⟩ : Co).h, .int .i64 (⟨0, 0, 0⟩ : Co).t] 27 (0, 0))) := boxN2_1 x5 _ _
  dsimp only at BX6 N66 N76 N11 N12
  go_upto_region 8 with (fail)
  generalize hu : ((x5.alloc (.cells #[.int .i64 (⟨c.o, c.h, 0⟩ : Co).o, .int .i64 (⟨c.o, c.h, 0⟩ : Co).h, .int .i64 (⟨c.o, c.h, 0⟩ : Co).t] 27)).alloc (.cells #[.int .i64 (⟨0, 0, 0⟩ : Co).o, .int .i64 (⟨0, 0, 0⟩ : Co).h, .int .i64 (⟨0, 0, 0⟩ : Co).t] 27)) = u6 at BX6 N66 N76 N11 N12
  dsimp only at hu
  try rw [hu]
  obtain ⟨p11, hp11⟩ : ∃ p, p = x5.heap.size := ⟨_, rfl⟩
  rw [← hp11] at N11 N12 ⊢
  obtain ⟨p12, hp12⟩ : ∃ p, p = p11 + 1 := ⟨_, rfl⟩
  rw [← hp12] at N12 ⊢
  clear hu hp11 hp12 B5 N65 N75
  have KS : Hid (∀ w', Below u6.heap.size u6 w' → (w'.cell? ⟨p7, 0, none⟩ = some (.int .i64 c.o) ∧ w'.cell? ⟨p7, 1, none⟩ = some (.int .i64 c.h) ∧ w'.cell? ⟨p7, 2, none⟩ = some (.int .i64 c.t) ∧ w'.cell? ⟨p6, 0, none⟩ = some (.int .i64 c.o) ∧ w'.cell? ⟨p6, 1, none⟩ = some (.int .i64 c.h) ∧ w'.cell? ⟨p6, 2, none⟩ = some (.int .i64 c.t) ∧ w'.cell? ⟨p11, 0, none⟩ = some (.int .i64 c.o) ∧ w'.cell? ⟨p11, 1, none⟩ = some (.int .i64 c.h) ∧ w'.cell? ⟨p11, 2, none⟩ = some (.int .i64 0) ∧ w'.cell? ⟨p12, 0, none⟩ = some (.int .i64 0) ∧ w'.cell? ⟨p12, 1, none⟩ = some (.int .i64 0) ∧ w'.cell? ⟨p12, 2, none⟩ = some (.int .i64 0))) := by
    intro w' b
    obtain ⟨⟨e1, e2, e3⟩, -⟩ := boxCo_at (q := c) ((b.block _ (box_lt N76.out)).trans N76.out)
    obtain ⟨⟨e4, e5, e6⟩, -⟩ := boxCo_at (q := c) ((b.block _ (box_lt N66.out)).trans N66.out)
    obtain ⟨⟨e7, e8, e9⟩, -⟩ := boxCo_at (q := ⟨c.o, c.h, 0⟩) ((b.block _ (box_lt N11.out)).trans N11.out)
    obtain ⟨⟨f1, f2, f3⟩, -⟩ := boxCo_at (q := ⟨0, 0, 0⟩) ((b.block _ (box_lt N12.out)).trans N12.out)
    exact ⟨e1, e2, e3, e4, e5, e6, e7, e8, e9, f1, f2, f3⟩
  obtain ⟨mc, hmc⟩ : ∃ m, m = mirC c := ⟨_, rfl⟩
  have M1 : Hid (∀ w, Calls Tryd.prog 13 #[(.agg #[.int .i64 c.o, .int .i64 c.h, .int .i64 c.t])] w fun e w' => e = .returned (.agg #[.int .i64 mc.o, .int .i64 mc.h, .int .i64 mc.t]) ∧ Below w.heap.size w w') := fun w => by
    rw [hmc]; exact implMirrorC_any c (mirC c) (.inl ⟨SM.out, rfl⟩) w
  have M2 : Hid (∀ w, Calls Tryd.prog 13 #[(.agg #[.int .i64 mc.o, .int .i64 mc.h, .int .i64 mc.t])] w fun e w' => e = .returned (.agg #[.int .i64 c.o, .int .i64 c.h, .int .i64 c.t]) ∧ Below w.heap.size w w') := fun w => by
    rw [hmc]; exact implMirrorC_any (mirC c) c (.inl ⟨small_mir SM.out, (mir_mir c).symm⟩) w
  clear hmc N66 N76 N11 N12 d1 d2 d3 d4 d5 d6 s0 s1 h0 h1 y0 y1 t0 t1
  go_wp2_with fail
  go_region_held3 (fun w' => (w'.cell? ⟨p7, 0, none⟩ = some (.int .i64 c.o) ∧ w'.cell? ⟨p7, 1, none⟩ = some (.int .i64 c.h) ∧ w'.cell? ⟨p7, 2, none⟩ = some (.int .i64 c.t) ∧ w'.cell? ⟨p6, 0, none⟩ = some (.int .i64 c.o) ∧ w'.cell? ⟨p6, 1, none⟩ = some (.int .i64 c.h) ∧ w'.cell? ⟨p6, 2, none⟩ = some (.int .i64 c.t) ∧ w'.cell? ⟨p11, 0, none⟩ = some (.int .i64 c.o) ∧ w'.cell? ⟨p11, 1, none⟩ = some (.int .i64 c.h) ∧ w'.cell? ⟨p11, 2, none⟩ = some (.int .i64 0) ∧ w'.cell? ⟨p12, 0, none⟩ = some (.int .i64 0) ∧ w'.cell? ⟨p12, 1, none⟩ = some (.int .i64 0) ∧ w'.cell? ⟨p12, 2, none⟩ = some (.int .i64 0)))
    (first | exact KS.out _ D2.out | exact KS.out _ D1.out | exact KS.out _ (Below.refl _ _).drew)
    (first
      | (go_at_call 13; (with_reducible refine (M1.out _).mono ?_); rintro e w1 ⟨rfl, b1⟩; have D1 : Hid (Below u6.heap.size u6 w1) := (Below.refl _ _).drew.trans b1)
      | (go_at_call 13; (with_reducible refine (M2.out _).mono ?_); rintro e w2 ⟨rfl, b2⟩; have D2 : Hid (Below u6.heap.size u6 w2) := D1.out.trans (b2.mono D1.out.size)))
  have BE : Hid (Below w.heap.size w w2) := BX6.out.trans (D2.out.mono BX6.out.size)
  go_wp2
  go_ret
  exact ⟨rfl, BE.out⟩
theorem walkFnCourses (w : World) (a0 : Option Addr) (len0 cap0 : Nat) (z0 : List Int) (w0 : IsRow .u8 w a0 len0 cap0 z0) (a1 : Option Addr) (len1 cap1 : Nat) (z1 : List Int) (w1 : IsRow .u8 w a1 len1 cap1 z1) (T : TSp w) :
    Calls Tryd.prog 3 #[.slice a0 len0 cap0, .slice a1 len1 cap1] w fun e w' => e = .returned (.bool true) ∧ Below w.heap.size w w' := by
  by_cases l0 : len0 ≤ 1048576 ∧ len1 ≤ 1048576
  · exact courses_law w a0 len0 cap0 z0 w0 a1 len1 cap1 z1 w1 T l0.1 l0.2
  · have cl := Lib.hid (fun w => b10Long_any a0 a1 len0 len1 cap0 cap1 true (by simp; omega) w)
    clear T w0 w1 l0
    go_enter Tryd.func3, Tryd.ntmps3
    go_wp2_with fail
    refine (cl.out _).mono ?_
    rintro e w' ⟨rfl, rfl⟩
    go_wp2
    go_ret
    exact ⟨rfl, Below.refl _ _⟩
end Go.Proofs.YtkdecpnbbpmooacDoor
