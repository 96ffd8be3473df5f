/- A communication as the first operation of a region, for the ordinary walk: a select of one case with a default, in one goroutine. -/
import Derived.Conc.LoneSelect
import Derived.Calls
import Derived.Tactics
namespace Go.Proofs.Ythhnnkgfnhggbab
open Go.Conc Go.RowKit
set_option linter.unusedVariables false
set_option linter.unusedSimpArgs false

theorem stepG_comm_any {P : Program} {main : Bool} {b : Frame} {a : Act} {k : List Item} {cs : List Frame} {w w' : World} {ops : Array Oper} {i : Nat} {rest : List Nat} {o : Oper} {cases : Array CommCase} {blocking : Bool} {shape : CommShape}
    (ho : ops[i]? = some o) (hw : Region.wanted o (yielded ops a.tmps) = true) (hr : (execOp a.eval o).run P w = .ok (.comm cases blocking shape) w') :
    ∃ es, stepG P main (G (b.at a (.inRegion ops (i :: rest) :: k)) cs) w = .comm (G (b.at a (.inRegion ops (i :: rest) :: k)) cs) cases blocking shape w' es := by
  rw [stepG_oper ho hw]
  cases hk : (b.kind == CallKind.early) <;> simp [stepG.apply, hr, G, Frame.at, hk, GStep.after]

/-- The region's first operation is a communication that yields v and leaves w'. -/
theorem wp_region_comm {P : Program} {id : Nat} {ops : Array Oper} {Q : Exit → Act → World → Prop} {a : Act} {w w₁ w' : World} {o : Oper} {l : List Oper} {cases : Array CommCase} {blocking : Bool} {shape : CommShape} {v : Value}
    (hl : ops.toList = o :: l) (hw : Region.wanted o (yielded ops a.tmps) = true) (hr : (execOp a.eval o).run P w = .ok (.comm cases blocking shape) w₁)
    (hs : ∀ (fr : Frame) (cs : List Frame) (es : Array Event), stepG P true (G fr cs) w = .comm (G fr cs) cases blocking shape w₁ es → step P (solo (G fr cs) w) = .next (solo (G (fr.finish v) cs) w'))
    (h : wpList P ops Q l (a.put o.dst v) w') : (Code.region id ops false).wp P Q a w := by
  have hget : ∀ j, ops[j]? = (o :: l)[j]? := fun j => by rw [← hl, Array.getElem?_toList]
  have ho : ops[0]? = some o := by rw [hget]; rfl
  have hsz : ops.size = l.length + 1 := by rw [← Array.length_toList, hl]; rfl
  have hrg : List.range ops.size = 0 :: List.range' 1 l.length := by rw [hsz, List.range_eq_range', List.range'_succ]
  rw [← wpOps_eq_wpList l 1 (fun j => by rw [hget, Nat.add_comm]; rfl)] at h
  intro b k cs
  obtain ⟨e, a', w2, q, r⟩ := wp_ops _ _ _ h b k cs
  refine ⟨e, a', w2, q, .of_steps (.one step_region) ?_⟩
  rw [hrg]
  obtain ⟨es, he⟩ := stepG_comm_any (P := P) (main := true) (b := b) (k := k) (cs := cs) (rest := List.range' 1 l.length) ho hw hr
  have s1 := hs _ _ _ he
  rw [Frame.finish_at, ho] at s1
  exact .of_steps (.one s1) r

section
variable {P : Program} {id : Nat} {ops : Array Oper} {Q : Exit → Act → World → Prop} {a : Act} {w : World} {o : Oper} {l : List Oper} {c cap s r : Nat} {buf : Array Value} {z v : Value} {tm closed : Bool}

theorem wp_sel_send_room (hl : ops.toList = o :: l) (hw : Region.wanted o (yielded ops a.tmps) = true) (hr : (execOp a.eval o).run P w = .ok (.comm #[scase c v z] false .select) w)
    (hc : w.heap[c]? = some (.chan cap buf false s r tm)) (hroom : buf.size < cap) (h : wpList P ops Q l (a.put o.dst (.tuple #[goInt 0, .bool false])) (w.setChan c cap (buf.push v) false (s + 1) r tm)) : (Code.region id ops false).wp P Q a w :=
  wp_region_comm hl hw hr (fun _ _ _ h => step_lone_select_send_room h hc hroom) h

theorem wp_sel_send_full (hl : ops.toList = o :: l) (hw : Region.wanted o (yielded ops a.tmps) = true) (hr : (execOp a.eval o).run P w = .ok (.comm #[scase c v z] false .select) w)
    (hc : w.heap[c]? = some (.chan cap buf false s r tm)) (hfull : cap ≤ buf.size) (h : wpList P ops Q l (a.put o.dst (.tuple #[goInt (-1), .bool false])) w) : (Code.region id ops false).wp P Q a w :=
  wp_region_comm hl hw hr (fun _ _ _ h => step_lone_select_send_full h hc hfull) h

theorem wp_sel_recv_buf (hl : ops.toList = o :: l) (hw : Region.wanted o (yielded ops a.tmps) = true) (hr : (execOp a.eval o).run P w = .ok (.comm #[rcase c z] false .select) w)
    (hc : w.heap[c]? = some (.chan cap buf closed s r tm)) (hsome : 0 < buf.size) (h : wpList P ops Q l (a.put o.dst (.tuple #[goInt 0, .bool true, buf.getD 0 undef])) (w.setChan c cap (buf.extract 1 buf.size) closed s (r + 1) tm)) : (Code.region id ops false).wp P Q a w :=
  wp_region_comm hl hw hr (fun _ _ _ h => step_lone_select_recv_buf h hc hsome) h

theorem wp_sel_recv_none (hl : ops.toList = o :: l) (hw : Region.wanted o (yielded ops a.tmps) = true) (hr : (execOp a.eval o).run P w = .ok (.comm #[rcase c z] false .select) w)
    (hc : w.heap[c]? = some (.chan cap #[] false s r tm)) (h : wpList P ops Q l (a.put o.dst (.tuple #[goInt (-1), .bool false, z])) w) : (Code.region id ops false).wp P Q a w :=
  wp_region_comm hl hw hr (fun _ _ _ h => step_lone_select_default h hc) h
end
end Go.Proofs.Ythhnnkgfnhggbab
