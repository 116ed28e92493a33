/- The iterator over the things of several parts, one after the other: its contract at every loop body that keeps what lay. -/
import Derived.RangeFuncNested
import Derived.RangeFuncBound
import Derived.RangeFuncBox
import Derived.RangeFuncCalls
import Derived.RangeFuncLeaves
import Derived.Shelf.Abstract
import Derived.Shelf.RegionOpen
import Derived.WalkKit
import Derived.OwnWalkIn
import Derived.TacticsInMore
import Derived.LoopNIn
import Derived.LoopIn
import Derived.Deep.MidRow
import Derived.Test.YtflfnekaiaplfaaGreatUn
import Derived.Test.YtflfnekaiaplfaaGreatUc
import Derived.Test.YtflfnekaiaplfaaGreatGd
namespace Go.Proofs.YtflfnekaiaplfaaGreat.it
open mem un
open Go.ChangeShapes Go.WideShapes Go.ChangeAt Go.RowKit Go.Lib Go.Shelf
set_option linter.unusedVariables false
set_option maxRecDepth 8000
set_option linter.unusedSimpArgs false
attribute [local go_sem] Oper.semAt_some

/-- 'wpList_load_mid' inside a fence. -/
theorem wpListIn_load_mid {F : Fence} {n : Nat} {P : Program} {ops : Array Oper} {rest : List Oper} {op : Oper} {a : Act} {w : World} {Q : Exit → Act → World → Prop} (hgd : op.guard = none) (ty : TypeId) (x : Operand) (ho : op.op = .load ty x)
    (b o : Nat) (hx : a.eval x = .pointer (some ⟨b, o, none⟩)) (cs : List Value) (d : TypeDesc) (hc : w.rangeAt b o cs)
    (hu : P.underlying ty = some d) (hd : d.isRow = true) (hi : (P.info? ty).map (·.size) = some cs.length)
    (h : wpListIn F n P ops Q rest (a.put op.dst (.agg cs.toArray)) w) : wpListIn F n P ops Q (op :: rest) a w := by
  refine wpListIn_plain hgd fun K hK => ?_
  unfold Oper.wpIn
  refine ⟨by simp [Oper.about, ho], ?_⟩
  rw [Oper.semAt_plain F _ _ (by rw [ho]; intro c hc'; cases hc')]
  simp only [execOp, ho, hx, Instr.loadAt, Instr.sureAddr, Sem.run_bind, Sem.run_pure, Result.andThen_ok, run_loadVar_mid w b o ty cs d hc hu hd hi]
  exact hK _ _ h

/-- a thing by its data and its cells, which lies in wT. -/
def Th (B : Nat → Prop) (n : Nat) (wT : World) (G : List DC → Prop) : Type := { p : List DC × List Value // Cells B n wT shThing_ p.1 p.2 ∧ G p.1 }
/-- block g is o, which holds the parts' slices; the things lie in wT. -/
structure Parts {B : Nat → Prop} {n : Nat} {wT : World} {G : List DC → Prop} (g : Nat) (o : Obj) (ps : List (List (Th B n wT G))) : Prop where
  many : ps.length ≤ maxLen
  part : ∀ i (h : i < ps.length), ∃ A c, (∀ W : World, W.heap[g]? = some o → W.cell? ⟨g, i, none⟩ = some (.slice A ps[i].length c)) ∧ ps[i].length ≤ maxLen ∧ ∀ k (hk : k < ps[i].length), ∃ b o, A = some ⟨b, o, none⟩ ∧ b < wT.heap.size ∧ wT.rangeAt b (o + k * 8) ps[i][k].1.2
/-- what a round keeps: all that lay in wT; block g. -/
def Kp (N g : Nat) (W W' : World) : Prop := Below N W W' ∧ W'.heap[g]? = W.heap[g]?
theorem kp_t {N g : Nat} {A B C : World} (h : Kp N g A B) (k : Kp N g B C) : Kp N g A C := ⟨h.1.trans k.1, k.2.trans h.2⟩
theorem kp_b {N g : Nat} {w : World} (hn : N ≤ w.heap.size) (hg : g < w.heap.size) (W : World) (l : Nat) (o o' : Obj) (hl : w.heap.size ≤ l) (h : W.heap[l]? = some o) (h1 : o.isCells = false) (h2 : o.isWalk = false) : Kp N g W (W.putObj l o') :=
  ⟨belowK_b hn W l o o' hl h h1 h2, World.putObj_heap_other (by omega)⟩
theorem kp_of {N g : Nat} {W W' : World} (h : Below W.heap.size W W') (hN : N ≤ W.heap.size) (hg : g < W.heap.size) : Kp N g W W' := ⟨h.mono hN, h.block g hg⟩
theorem keeps_of {b : Nat} {W W' : World} (h : Below W.heap.size W W') : KeepsFrom b W W' := ⟨h.size, fun k o _ hk _ => (h.block k (Array.getElem?_eq_some_iff.1 hk).1).trans hk⟩

theorem flat_at {α : Type} (ps : List (List α)) (p : Nat) (h : p < ps.length) : ps.flatten = (ps.take p).flatten ++ (ps[p] ++ (ps.drop (p + 1)).flatten) := by
  have e : ps = ps.take p ++ (ps[p] :: ps.drop (p + 1)) := by rw [← List.drop_eq_getElem_cons h, List.take_append_drop]
  have e2 := congrArg List.flatten e
  rw [List.flatten_append, List.flatten_cons] at e2
  exact e2
theorem flat_len {α : Type} (ps : List (List α)) (p q : Nat) (h : p < ps.length) (hq : q < ps[p].length) : ((ps.take p).flatten ++ ps[p].take q).length < ps.flatten.length := by
  rw [flat_at ps p h]
  simp only [List.length_append, List.length_take]
  omega
theorem flat_pre {α : Type} (ps : List (List α)) (p q : Nat) (h : p < ps.length) (hq : q < ps[p].length) : (ps.take p).flatten ++ ps[p].take q ++ [ps[p][q]] <+: ps.flatten := by
  rw [flat_at ps p h, List.append_assoc, ← List.take_succ_eq_append_getElem hq]
  exact List.prefix_append_right_inj _ |>.2 ((List.take_prefix _ _).trans (List.prefix_append _ _))
theorem flat_snoc {α : Type} (ps : List (List α)) (p q : Nat) (h : p < ps.length) (hq : q < ps[p].length) : (ps.take p).flatten ++ ps[p].take q ++ [ps[p][q]] = (ps.take p).flatten ++ ps[p].take (q + 1) := by
  rw [List.append_assoc, ← List.take_succ_eq_append_getElem hq]
theorem flat_next {α : Type} (ps : List (List α)) (p : Nat) (h : p < ps.length) : (ps.take p).flatten ++ ps[p].take ps[p].length = (ps.take (p + 1)).flatten := by
  rw [List.take_length, List.take_succ_eq_append_getElem h, List.flatten_append, List.flatten_cons, List.flatten_nil, List.append_nil]

set_option maxRecDepth 100000 in
set_option maxHeartbeats 2000000 in
theorem things1_in (m : Nat) (hm : 1 ≤ m) (l Bn g cap : Nat) {B : Nat → Prop} {n : Nat} {w0 : World} {G : List DC → Prop} {ob : Obj} (ps : List (List (Th B n w0 G))) (J Jx : List (Th B n w0 G) → World → Prop) (hL : Parts g ob ps) (W : World) (hb : Below w0.heap.size w0 W) (hBn : W.cell? ⟨Bn, 0, none⟩ = some (.slice (some ⟨g, 0, none⟩) ps.length cap)) (hg : W.heap[g]? = some ob) (hJ : AbidesFrom W.heap.size J)
    (hY : ∀ pre x W, J pre W → pre.length < ps.flatten.length → YieldAt Fence.wide (m - 1) Tryz.prog l #[.agg x.1.2.toArray] W fun e W' =>
      (e = .returned (.bool true) ∧ J (pre ++ [x]) W' ∧ Kp w0.heap.size g W W') ∨ (e = .returned (.bool false) ∧ Jx (pre ++ [x]) W'))
    (h0 : J [] W) :
    CallsIn Fence.wide m Tryz.prog 60 #[.func (.yield l) #[] #[], .pointer (some ⟨Bn, 0, none⟩)] W fun e W' => (∃ v, e = .returned v) ∧
      ((∃ ys, ys = ps.flatten ∧ J ys W') ∨ (∃ pre, pre <+: ps.flatten ∧ Jx pre W')) := by
  have hN := hL.many
  unfold maxLen at hN
  have hN' : (ps.length : Int) ≤ 9223372036854775807 := by omega
  have HL := Lib.hid hL
  have HB := Lib.hid (And.intro hb hg)
  clear hL hb hg
  refine callsIn_of_wp Tryz.func60 rfl trivial ?_ rfl
  simp only [Tryz.ntmps60, List.size_toArray, List.length_cons, List.length_nil, Nat.reduceAdd, Nat.reduceSub, Array.replicate_succ, Array.replicate_zero, List.push_toArray, List.append_toArray, List.nil_append, List.cons_append]
  gi_wp2
  gi_loopw [9] (fun i wr => ∃ p : Nat, p ≤ ps.length ∧ i = .int .i64 p ∧ J (ps.take p).flatten wr ∧ (Below w0.heap.size w0 wr ∧ wr.heap[g]? = some ob)) (fun i _ => ps.length - (RowKit.intOf i).toNat)
  case atStart => exact ⟨0, Nat.zero_le _, rfl, by simpa using h0, HB.out⟩
  case round =>
    obtain ⟨p, hp, rfl, hJp, hbp⟩ := hrel
    by_cases hlt : p < ps.length
    · obtain ⟨A, c, hc, hlen, hit⟩ := HL.out.part p hlt
      have hcp := hc _ hbp.2
      have hpI : (p : Int) < ps.length := by omega
      have hM' : (ps[p].length : Int) ≤ 9223372036854775807 := by unfold maxLen at hlen; omega
      have HIT := Lib.hid hit
      have HBP := Lib.hid hbp
      clear hc hit hlen hbp
      gi_wp2
      gi_loopw [15] (fun i wr => ∃ q : Nat, q ≤ ps[p].length ∧ i = .int .i64 q ∧ J ((ps.take p).flatten ++ ps[p].take q) wr ∧ (Below w0.heap.size w0 wr ∧ wr.heap[g]? = some ob)) (fun i _ => ps[p].length - (RowKit.intOf i).toNat)
      case atStart => exact ⟨0, Nat.zero_le _, rfl, by simpa using hJp, HBP.out⟩
      case round =>
        obtain ⟨q, hq, rfl, hJq, hbq⟩ := hrel
        by_cases hlt2 : q < ps[p].length
        · obtain ⟨b, o, rfl, hbl, hr⟩ := HIT.out q hlt2
          have hr2 : wr.rangeAt b (o + q * 8) ps[p][q].1.2 := fun j v hv => (hbq.1.cell (p := ⟨b, o + q * 8 + j, none⟩) hbl).trans (hr j v hv)
          have hqI : (q : Int) < ps[p].length := by omega
          have HSN := Lib.hid (flat_snoc ps p q hlt hlt2)
          have HFL := Lib.hid (flat_len ps p q hlt hlt2)
          have HFP := Lib.hid (flat_pre ps p q hlt hlt2)
          have HBQ := Lib.hid hbq
          clear hr hbq
          obtain ⟨x, hxe⟩ : ∃ x, ps[p][q] = x := ⟨_, rfl⟩
          rw [hxe] at hr2 HSN HFP
          clear hxe
          obtain ⟨⟨ds, vs⟩, hcx⟩ := x
          dsimp only at hr2
          obtain ⟨lq0, sq1, sq2, xq3, xq4, sq5, lq6, lq7, Aq0, cq0, Aq6, cq6, Aq7, cq7, rfl, rfl, -⟩ := open_Thing hcx.1
          have HR := Lib.hid hr2
          clear hr2
          obtain ⟨fn, tmps, assign, body, hy, hR⟩ := hY ((ps.take p).flatten ++ ps[p].take q) ⟨(_, _), hcx⟩ (wr.alloc (.cells #[.slice Aq0 lq0.length cq0, .string sq1, .string sq2, .int .i64 xq3, .int .i64 xq4, .string sq5, .slice Aq6 lq6.length cq6, .slice Aq7 lq7.length cq7] 41)) (hJ _ _ _ none hJq (World.grownBy_alloc wr _ none) (fun r e => by cases e)) HFL.out
          dsimp only at hy
          gi_wp2_with (refine wpListIn_load_mid rfl 41 (.tmp 17) rfl b (o + q * 8) rfl _ _ HR.out Tryz.underlying41 rfl (by kernel_rfl) ?_)
          refine hR.mono ?_
          rintro e W3 (⟨rfl, hJ3, hk3⟩ | ⟨rfl, hJx3⟩)
          · have hJ4 := hJ3
            rw [HSN.out] at hJ4
            gi_wp2
            go_roundw
            case rel => exact ⟨q + 1, hlt2, by go_num, hJ4, ⟨(HBQ.out.1.alloc (HBQ.out.1.size) _).trans hk3.1, hk3.2.trans (((below_a1 wr _).block g (Array.getElem?_eq_some_iff.1 HBQ.out.2).1).trans HBQ.out.2)⟩⟩
            case measure => simp [RowKit.intOf]; omega
          · gi_wp2
            refine bodyPost_ret (results_none rfl _ _ _) rfl ?_
            exact ⟨⟨_, rfl⟩, .inr ⟨_, HFP.out, hJx3⟩⟩
        · obtain rfl : q = ps[p].length := by omega
          have hnx := flat_next ps p hlt
          rw [hnx] at hJq
          gi_wp2
          go_roundw
          case rel => exact ⟨p + 1, hlt, by go_num, hJq, hbq⟩
          case measure => simp [RowKit.intOf]; omega
    · obtain rfl : p = ps.length := by omega
      rw [List.take_length] at hJp
      gi_wp2
      go_end0
      exact ⟨⟨_, rfl⟩, .inl ⟨_, rfl, hJp⟩⟩
/-- 'l = append(l, ..)' in a round, behind a call: what the round owes. -/
theorem collect {W w5 w6 : World} {N L0 C g : Nat} {t e : TypeId} {v v' : Value} {size k m : Nat} {xs ys : List Value} {o : Obj} (hv : Boxed w5 L0 t v) (hte : t ≠ e) (bb5 : Below W.heap.size W w5) (hrow : w5.ownsRow C e size v k xs)
    (hN : N ≤ L0) (hL : L0 < C) (hgC : g < C) (hgL : g ≠ L0) (hC : C ≤ W.heap.size) (hown6 : w6.ownsRow C e size v' m ys) (hg6 : (w5.alloc o).grownBy w6 v.ownBlock) (b : Nat) :
    KeepsFrom b W (w6.setCell ⟨L0, 0, none⟩ v') ∧ Kp N g W (w6.setCell ⟨L0, 0, none⟩ v') ∧ Boxed (w6.setCell ⟨L0, 0, none⟩ v') L0 t v' ∧ (w6.setCell ⟨L0, 0, none⟩ v').ownsRow C e size v' m ys ∧ W.heap.size ≤ (w6.setCell ⟨L0, 0, none⟩ v').heap.size := by
  have hv6 : Boxed w6 L0 t v := (hv.alloc o).kept hg6 ((hv.alloc o).not_row hte (hrow.alloc o))
  have hcell : ∀ j (p : Obj), v.ownBlock = some j → (w5.alloc o).heap[j]? = some p → p.isCells = true := fun j p ej hj => by
    rcases (hrow.alloc o).2 with ⟨rfl, _⟩ | ⟨g', cap, cur, rfl, _, hgb, _⟩
    · simp [Value.ownBlock] at ej
    · obtain rfl : g' = j := by simpa [Value.ownBlock] using ej
      rw [hgb] at hj; cases hj; rfl
  have hrw : ∀ j, v.ownBlock = some j → C ≤ j := fun j hj => (hrow.lt j hj).1
  have s5 := bb5.size
  have s6 := hg6.size
  have sS : (w6.setCell ⟨L0, 0, none⟩ v').heap.size = w6.heap.size := by simp [World.setCell]
  simp only [World.size_alloc] at s6
  refine ⟨(((keeps_of bb5).trans ((KeepsOthers.alloc w5 o).from b)).trans ((KeepsOthers.of_grownBy hg6 hcell).from b)).trans ((KeepsOthers.setCell _ _ _).from b), ⟨?_, ?_⟩, hv6.set v', hown6.kept (grownBy_setCell' w6 L0 v') (.inr (hv6.not_row hte hown6).symm), by rw [sS]; omega⟩
  · refine Below.setCell (p := ⟨L0, 0, none⟩) ?_ hN v'
    exact ((bb5.mono (by omega)).alloc (by omega) o).grown hg6 (by simp; omega) (fun j hj => by have := hrw j hj; omega)
  · have h1 : (w6.setCell ⟨L0, 0, none⟩ v').heap[g]? = w6.heap[g]? := Below.heap_setCell _ _ _ g hgL
    have h2 : w6.heap[g]? = (w5.alloc o).heap[g]? := hg6.block g (by simp; omega) (fun e => by have := hrw g e.symm; omega)
    have h3 : (w5.alloc o).heap[g]? = w5.heap[g]? := (below_a1 w5 o).block g (by omega)
    exact h1.trans (h2.trans (h3.trans (bb5.block g (by omega))))
theorem things_list {B : Nat → Prop} {n c : Nat} {w : World} {xs : List (List DC)} {A : Option Addr} {G : List DC → Prop} (hG : ∀ i (h : i < xs.length), G xs[i]) (h : Cell B n w (.l 8) (.l xs) (.slice A xs.length c)) :
    ∃ l : List (Th B (n - 1) w G), l.map (fun x => x.1.1) = xs ∧ l.length = xs.length ∧ ∀ k (hk : k < l.length), ∃ b o, A = some ⟨b, o, none⟩ ∧ b < w.heap.size ∧ w.rangeAt b (o + k * 8) l[k].1.2 := by
  have hE : ∀ i : Fin xs.length, ∃ x : Th B (n - 1) w G, x.1.1 = xs[i.1] ∧ ∃ b o, A = some ⟨b, o, none⟩ ∧ b < w.heap.size ∧ w.rangeAt b (o + i.1 * 8) x.1.2 := fun i => by
    obtain ⟨m', b, o, us, hm, e, _, hbl, hr, hin⟩ := h.item i.1 i.2
    obtain rfl : m' = n - 1 := by omega
    exact ⟨⟨(_, us), hin, hG i.1 i.2⟩, rfl, b, o, e, hbl, hr⟩
  obtain ⟨f, hf⟩ := Classical.axiomOfChoice hE
  refine ⟨List.ofFn f, ?_, by simp, fun k hk => ?_⟩
  · apply List.ext_getElem (by simp)
    intro i h1 h2
    simp only [List.getElem_map, List.getElem_ofFn]
    exact (hf ⟨i, by simpa using h1⟩).1
  · simp only [List.getElem_ofFn]
    exact (hf ⟨k, by simpa using hk⟩).2
theorem one_part {B : Nat → Prop} {n : Nat} {wT : World} {G : List DC → Prop} {g c : Nat} {A : Option Addr} {T : TypeId} (l : List (Th B n wT G)) (hm : l.length ≤ maxLen) (hla : ∀ k (hk : k < l.length), ∃ b o, A = some ⟨b, o, none⟩ ∧ b < wT.heap.size ∧ wT.rangeAt b (o + k * 8) l[k].1.2) :
    Parts g (.cells #[.slice A l.length c] T (0, 0)) [l] := ⟨by simp [maxLen], fun i h => by
  obtain rfl : i = 0 := by simpa using h
  exact ⟨A, c, fun W hW => by simp [World.cell?, hW], hm, hla⟩⟩
theorem things_stops (m : Nat) (hm : 1 ≤ m) (Bn g cap : Nat) {B : Nat → Prop} {n : Nat} {wT w0 : World} {G : List DC → Prop} {ob : Obj} (ps : List (List (Th B n wT G))) (hL : Parts g ob ps) (hb : Below wT.heap.size wT w0) (hBn : w0.cell? ⟨Bn, 0, none⟩ = some (.slice (some ⟨g, 0, none⟩) ps.length cap)) (hBl : Bn < w0.heap.size) (hg : w0.heap[g]? = some ob) :
    SeqStopsK Fence.wide m Tryz.prog 60 #[.pointer (some ⟨Bn, 0, none⟩)] (fun x : Th B n wT G => #[.agg x.1.2.toArray]) (Kp wT.heap.size g) (fun ys => ys = ps.flatten) (fun pre => pre <+: ps.flatten) ps.flatten.length w0 := fun l J Jx W hW hJ _ hY h0 =>
  things1_in m hm l Bn g cap ps J Jx hL W (hb.trans (hW.mono hb.size)) ((hW.cell (p := ⟨Bn, 0, none⟩) hBl).trans hBn) ((hW.block g (Array.getElem?_eq_some_iff.1 hg).1).trans hg) hJ hY h0
set_option maxHeartbeats 1000000 in
theorem thingsOf_in (A : Option Addr) (n c : Nat) (w : World) :
    Calls Tryz.prog 32 #[.slice A n c] w fun e w' => e = .returned (.func (.func 60) #[] #[.pointer (some ⟨w.heap.size, 0, none⟩)]) ∧ w' = w.alloc (.cells #[.slice A n c] 92) := by
  go_enter Tryz.func32, Tryz.ntmps32
  go_wp2
  go_ret
  exact ⟨rfl, rfl⟩
end Go.Proofs.YtflfnekaiaplfaaGreat.it
