/- Courses read from their texts: the program. -/
import Derived.Test.YtkdecpnbbpmooacDoorSplit2
import Derived.Test.YtkdecpnbbpmooacDoorSteerM
import Derived.Test.YtkdecpnbbpmooacDoorRd2
namespace Go.Proofs.YtkdecpnbbpmooacDoor
open Go.ChangeShapes Go.WideShapes Go.ChangeAt Go.RowKit
set_option linter.unusedVariables false
set_option linter.unusedSimpArgs false

/-- The course of a text, if the text is one's. -/
def CourseRes (l : List UInt8) (c : Co) (b : Bool) : Prop :=
  (Reads (wordsL 47 l) [c.o, c.h, c.t] ∧ SmallC c ∧ b = true) ∨ ((∀ d : Co, Reads (wordsL 47 l) [d.o, d.h, d.t] → ¬ SmallC d) ∧ c = noC ∧ b = false)
theorem courseRes_of (l : List UInt8) : ∃ c b, CourseRes l c b := by
  by_cases h : ∃ d : Co, Reads (wordsL 47 l) [d.o, d.h, d.t] ∧ SmallC d
  · obtain ⟨d, h1, h2⟩ := h
    exact ⟨d, true, .inl ⟨h1, h2, rfl⟩⟩
  · exact ⟨noC, false, .inr ⟨fun d h1 h2 => h ⟨d, h1, h2⟩, rfl, rfl⟩⟩
theorem courseRes_no {l : List UInt8} {c : Co} {b : Bool} (h : CourseRes l c b) (n : ∀ d : Co, Reads (wordsL 47 l) [d.o, d.h, d.t] → ¬ SmallC d) : c = noC ∧ b = false := by
  rcases h with h | h
  · exact absurd h.2.1 (n c h.1)
  · exact h.2
theorem courseRes_yes {l : List UInt8} {c d : Co} {b : Bool} (h : CourseRes l c b) (r : Reads (wordsL 47 l) [d.o, d.h, d.t]) (s : SmallC d) : c = d ∧ b = true := by
  rcases h with h | h
  · have e := h.1.uniq r
    simp only [List.cons.injEq, and_true] at e
    refine ⟨?_, h.2.2⟩
    cases c; cases d
    simp only at e
    obtain ⟨e1, e2, e3⟩ := e
    subst e1; subst e2; subst e3
    rfl
  · exact absurd s (h.1 d r)
/-- What three numbers say of a course. -/
theorem courseRes_small {l : List UInt8} {c d : Co} {b v : Bool} (h : CourseRes l c b) (r : Reads (wordsL 47 l) [d.o, d.h, d.t]) (hv : v = true ↔ SmallC d) : (v = true → c = d ∧ b = true) ∧ (v = false → c = noC ∧ b = false) := by
  constructor
  · intro e; exact courseRes_yes h r (hv.mp e)
  · intro e
    refine courseRes_no h (fun x hx hs => ?_)
    have e2 := hx.uniq r
    simp only [List.cons.injEq, and_true] at e2
    obtain ⟨e3, e4, e5⟩ := e2
    have : SmallC d := by unfold SmallC at hs ⊢; rw [e3, e4, e5] at hs; exact hs
    have := hv.mpr this
    rw [e] at this; cases this
theorem box_ltR {w : World} {p : Nat} {o : Obj} (h : w.heap[p]? = some o) : p < w.heap.size := (Array.getElem?_eq_some_iff.1 h).1
/-- The numbers of a text of three words at most. -/
theorem three_of {xs : List Int} (h : xs.length = 3) : ∃ d : Co, xs = [d.o, d.h, d.t] := by
  match xs, h with
  | [a, b, c], _ => exact ⟨⟨a, b, c⟩, rfl⟩

theorem lt_of_cell {w : World} {b o : Nat} {v : Value} (h : w.cell? ⟨b, o, none⟩ = some v) : b < w.heap.size := World.block_lt_of_cell? w _ h
/-- What is read of a list of three. -/
theorem rd3 {w : World} {v : Value} {d : Co} (h : RdI w v [d.o, d.h, d.t]) : ∃ b o cap, v = .slice (some ⟨b, o, none⟩) 3 cap ∧ w.cell? ⟨b, o, none⟩ = some (.int .i64 d.o) ∧ w.cell? ⟨b, o + 1, none⟩ = some (.int .i64 d.h) ∧ w.cell? ⟨b, o + 2, none⟩ = some (.int .i64 d.t) ∧ b < w.heap.size := by
  obtain ⟨a, cap, rfl, h | ⟨b, off, rfl, h⟩⟩ := h
  · simp at h
  · exact ⟨b, off, cap, rfl, h 0 _ rfl, h 1 _ rfl, h 2 _ rfl, lt_of_cell (h 0 _ rfl)⟩
theorem rdLen {w : World} {v : Value} {xs : List Int} (h : RdI w v xs) : ∃ a cap, v = .slice a xs.length cap := by
  obtain ⟨a, cap, rfl, -⟩ := h
  exact ⟨a, cap, rfl⟩
set_option maxRecDepth 100000 in
set_option maxHeartbeats 8000000 in
theorem implReadC_any (s : ByteArray) (hs : s.size ≤ 1048576) (c : Co) (b : Bool) (h : CourseRes s.data.toList c b) (w : World) (hT : TSp w) :
    Calls Tryd.prog 9 #[.string s] w fun e w' => e = .returned (.tuple #[(.agg #[.int .i64 c.o, .int .i64 c.h, .int .i64 c.t]), .bool b]) ∧ Below w.heap.size w w' := by
  obtain ⟨xs, v, hv⟩ := splitRes_of 47 3 s.data.toList
  have C1 := Lib.hid (fun w hT => splitInts_any s hs 47 3 (by omega) (by omega) xs v hv w hT)
  have H := Lib.hid h
  have HV := Lib.hid hv
  have BU : Hid (Below w.heap.size w (w.alloc (.cells #[.int .i64 noC.o, .int .i64 noC.h, .int .i64 noC.t] 27))) := by show Below _ _ _; go_grown
  have NU : Hid ((w.alloc (.cells #[.int .i64 noC.o, .int .i64 noC.h, .int .i64 noC.t] 27)).heap[w.heap.size]? = some (.cells #[.int .i64 noC.o, .int .i64 noC.h, .int .i64 noC.t] 27 (0, 0))) := heap_alloc_new w _
  have TU := Lib.hid (hT.later BU.out)
  clear h hv hT
  go_enter Tryd.func9, Tryd.ntmps9
  go_upto_region 1 with (fail)
  generalize hu : (w.alloc (.cells #[.int .i64 noC.o, .int .i64 noC.h, .int .i64 noC.t] 27)) = u at BU NU TU
  have hu' : (w.alloc (.cells #[.int .i64 0, .int .i64 0, .int .i64 0] 27)) = u := hu
  rw [hu']
  clear hu hu'
  have su := box_ltR NU.out
  go_wp2_with fail
  refine (C1.out _ TU.out).mono ?_
  rintro e w1 ⟨v1, rfl, own, b1⟩
  have OW := Lib.hid own
  have B1 := Lib.hid (BU.out.trans (b1.mono (by omega)))
  have N1 := Lib.hid ((b1.block _ su).trans NU.out)
  clear own b1 BU NU TU C1
  obtain ⟨a1, p1, rfl⟩ := rdLen OW.out.rd
  cases v with
  | false =>
    obtain ⟨rfl, rfl⟩ : c = noC ∧ b = false := by
      rcases HV.out with ⟨-, -, g⟩ | ⟨g, -, -⟩
      · cases g
      · refine courseRes_no H.out (fun d hd _ => g ⟨?_, _, hd⟩)
        have := hd.1
        simp at this; omega
    clear H HV OW
    obtain ⟨⟨f0, f1, f2⟩, ⟨y0, y1, y2⟩, -⟩ := boxCo_at (q := noC) N1.out
    have RA := Lib.hid (boxCo_put (q := noC) N1.out noC)
    clear N1
    go_wp2
    obtain ⟨⟨m0, m1, m2⟩, -⟩ := boxCo_at (q := noC) RA.out
    try dsimp only [noC] at m0 m1 m2
    have B := B1.out
    have sz := B.size
    refine bodyPost_ret (v := .tuple #[(.agg #[.int .i64 noC.o, .int .i64 noC.h, .int .i64 noC.t]), .bool false]) (by simp [results, Tryd.results9, go_sem, m0, m1, m2, noC]; try rfl) rfl ⟨rfl, ?_⟩
    go_grown
  | true =>
    obtain ⟨WL, RX⟩ : (wordsL 47 s.data.toList).length ≤ 3 ∧ Hid (Reads (wordsL 47 s.data.toList) xs) := by
      rcases HV.out with ⟨g1, g2, -⟩ | ⟨-, -, g⟩
      · exact ⟨g1, g2⟩
      · cases g
    obtain ⟨n, hn⟩ : ∃ n, n = xs.length := ⟨_, rfl⟩
    have LX : n ≤ 3 := by rw [hn, ← RX.out.1]; exact WL
    have HN := Lib.hid hn
    rw [← hn]
    clear WL HV hn
    by_cases h3 : n = 3
    · subst h3
      obtain ⟨d, rfl⟩ := three_of HN.out.symm
      obtain ⟨ba, oa, cap, hv1, c0, c1, c2, lb⟩ := rd3 OW.out.rd
      simp only [Value.slice.injEq] at hv1
      obtain ⟨rfl, -, -⟩ := hv1
      have nw := box_ltR N1.out
      obtain ⟨z, hz⟩ := bool_of (SmallC d)
      have HZ := Lib.hid (courseRes_small H.out RX.out hz)
      have C2 := Lib.hid (fun w => isSmall_any d z hz w)
      have nb : ¬ ba = w1.heap.size := by omega
      clear hz H RX HN OW LX
      go_wp2
      go_region
      all_goals
        have B2 : Hid (Below w.heap.size w (w1.alloc (.cells #[.int .i64 d.o, .int .i64 d.h, .int .i64 d.t] 27)).drew) := B1.out.trans (((Below.refl _ _).alloc (Nat.le_refl _) _).drew.mono B1.out.size)
        have N2 : Hid ((w1.alloc (.cells #[.int .i64 d.o, .int .i64 d.h, .int .i64 d.t] 27)).drew.heap[w.heap.size]? = some (.cells #[.int .i64 noC.o, .int .i64 noC.h, .int .i64 noC.t] 27 (0, 0))) := (Below.heap_alloc _ _ _ nw).trans N1.out
        have D2 : Hid ((w1.alloc (.cells #[.int .i64 d.o, .int .i64 d.h, .int .i64 d.t] 27)).drew.heap[w1.heap.size]? = some (.cells #[.int .i64 d.o, .int .i64 d.h, .int .i64 d.t] 27 (0, 0))) := heap_alloc_new w1 _
        obtain ⟨p, hp⟩ : ∃ p, p = w1.heap.size := ⟨_, rfl⟩
        generalize hu : (w1.alloc (.cells #[.int .i64 d.o, .int .i64 d.h, .int .i64 d.t] 27)).drew = u2 at B2 N2 D2
        have hu' : (w1.alloc (.cells #[.int .i64 d.o, .int .i64 d.h, .int .i64 d.t] 27)).drew = u2 := hu
        try rw [hu']
        rw [← hp] at D2 nw
        rw [← hp]
        have np : ¬ p = w.heap.size := by omega
        clear hu hu' hp N1 B1 c0 c1 c2 lb nb
        have lp := box_ltR D2.out
        obtain ⟨⟨k0, k1, k2⟩, -⟩ := boxCo_at (q := d) D2.out
        go_wp2_with fail
        refine (C2.out _).mono ?_
        rintro e u3 ⟨rfl, b3⟩
        have N3 := Lib.hid ((b3.block _ (by omega)).trans N2.out)
        have D3 := Lib.hid ((b3.block _ lp).trans D2.out)
        have B3 := Lib.hid (B2.out.trans (b3.mono B2.out.size))
        clear b3 N2 D2 B2 C2 k0 k1 k2
        cases z with
        | false =>
          obtain ⟨rfl, rfl⟩ := HZ.out.2 rfl
          clear HZ D3
          obtain ⟨⟨f0, f1, f2⟩, ⟨y0, y1, y2⟩, -⟩ := boxCo_at (q := noC) N3.out
          have RA := Lib.hid (boxCo_put (q := noC) N3.out noC)
          clear N3
          go_wp2
          obtain ⟨⟨m0, m1, m2⟩, -⟩ := boxCo_at (q := noC) RA.out
          try dsimp only [noC] at m0 m1 m2
          have B := B3.out
          have sz := B.size
          refine bodyPost_ret (v := .tuple #[(.agg #[.int .i64 noC.o, .int .i64 noC.h, .int .i64 noC.t]), .bool false]) (by simp [results, Tryd.results9, go_sem, m0, m1, m2, noC]; try rfl) rfl ⟨rfl, ?_⟩
          go_grown
        | true =>
          obtain ⟨rfl, rfl⟩ := HZ.out.1 rfl
          clear HZ
          obtain ⟨⟨k0, k1, k2⟩, -⟩ := boxCo_at (q := c) D3.out
          clear D3
          obtain ⟨⟨f0, f1, f2⟩, ⟨y0, y1, y2⟩, -⟩ := boxCo_at (q := noC) N3.out
          have RA := Lib.hid (boxCo_put (q := noC) N3.out c)
          clear N3
          go_wp2
          obtain ⟨⟨m0, m1, m2⟩, -⟩ := boxCo_at (q := c) RA.out
          try dsimp only [noC] at m0 m1 m2
          have B := B3.out
          have sz := B.size
          refine bodyPost_ret (v := .tuple #[(.agg #[.int .i64 c.o, .int .i64 c.h, .int .i64 c.t]), .bool true]) (by simp [results, Tryd.results9, go_sem, m0, m1, m2, noC]; try rfl) rfl ⟨rfl, ?_⟩
          go_grown
    · obtain ⟨rfl, rfl⟩ : c = noC ∧ b = false := by
        refine courseRes_no H.out (fun d hd _ => ?_)
        have e := congrArg List.length (RX.out.uniq hd)
        rw [← HN.out] at e
        exact h3 (by simpa using e)
      have g3 : ((n : Int) == 3) = false := by simp; omega
      clear H OW RX HN
      obtain ⟨⟨f0, f1, f2⟩, ⟨y0, y1, y2⟩, -⟩ := boxCo_at (q := noC) N1.out
      have RA := Lib.hid (boxCo_put (q := noC) N1.out noC)
      clear N1
      go_wp2
      obtain ⟨⟨m0, m1, m2⟩, -⟩ := boxCo_at (q := noC) RA.out
      try dsimp only [noC] at m0 m1 m2
      have B := B1.out
      have sz := B.size
      refine bodyPost_ret (v := .tuple #[(.agg #[.int .i64 noC.o, .int .i64 noC.h, .int .i64 noC.t]), .bool false]) (by simp [results, Tryd.results9, go_sem, m0, m1, m2, noC]; try rfl) rfl ⟨rfl, ?_⟩
      go_grown
end Go.Proofs.YtkdecpnbbpmooacDoor
