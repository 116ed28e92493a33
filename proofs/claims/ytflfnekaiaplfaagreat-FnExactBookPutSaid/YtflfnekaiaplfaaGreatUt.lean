/- The laws' own helpers: data copied in; the copy owns its memory. -/
import Derived.Test.YtflfnekaiaplfaaGreatUo
import Derived.Test.YtflfnekaiaplfaaGreatUe
import Derived.Deep.RegionHeld3
namespace Go.Proofs.YtflfnekaiaplfaaGreat.un
open mem
open Go.ChangeShapes Go.WideShapes Go.ChangeAt Go.RowKit Go.Lib
set_option linter.unusedVariables false
set_option maxRecDepth 8000
set_option linter.unusedSimpArgs false

/-- a new struct, a new cell: it owns its memory. -/
def NewS (n : Nat) (ks : List CK) (ds : List DC) (w : World) (e : Ending) (w' : World) : Prop := ∃ us, e = .returned (.agg us.toArray) ∧ Owns n w' (Rg w.heap.size w'.heap.size) ks ds us ∧ Below w.heap.size w w'
def NewC (n : Nat) (k : CK) (d : DC) (w : World) (e : Ending) (w' : World) : Prop := ∃ u, e = .returned u ∧ Own n w' (Rg w.heap.size w'.heap.size) k d u ∧ Below w.heap.size w w'
theorem Cell.one {B : Nat → Prop} {n : Nat} {w : World} {k : CK} {d : DC} {v : Value} (h : Cell B n w k d v) : v.oneCell' = true := by
  cases k with
  | i => obtain ⟨x, _, rfl, _⟩ := h.int; rfl
  | s => obtain ⟨x, _, rfl, _⟩ := h.str; rfl
  | l e => obtain ⟨xs, A, c, _, rfl, _⟩ := h.lst; rfl
theorem _root_.Go.Proofs.YtflfnekaiaplfaaGreat.un.All3.ones {B : Nat → Prop} {n : Nat} {w : World} : ∀ {ks : List CK} {ds : List DC} {vs : List Value}, Cells B n w ks ds vs → vs.toArray.all (·.oneCell') = true
  | [], [], [], _ => by simp
  | k :: ks, d :: ds, v :: vs, h => by
    have h1 := Cell.one h.1
    have h2 := All3.ones h.2
    simp at h2 ⊢
    exact ⟨h1, h2⟩
  | [], [], _ :: _, hh => hh.elim
  | [], _ :: _, _, hh => hh.elim
  | _ :: _, [], _, hh => hh.elim
  | _ :: _, _ :: _, [], hh => hh.elim
theorem seg_12_1_3 {w : World} {g : Nat} {T : TypeId} {c0 c1 c2 c3 c4 c5 c6 c7 c8 c9 c10 c11 : Value} (h : Blk w g T #[c0, c1, c2, c3, c4, c5, c6, c7, c8, c9, c10, c11]) (a1 a2 a3 : Value) : Blk (((w.setCell ⟨g, 1, none⟩ a1).setCell ⟨g, 2, none⟩ a2).setCell ⟨g, 3, none⟩ a3) g T #[c0, a1, a2, a3, c4, c5, c6, c7, c8, c9, c10, c11] := by
  have := (Blk.put (Blk.put (Blk.put h 1 a1) 2 a2) 3 a3)
  simpa using this
theorem seg_12_4_10 {w : World} {g : Nat} {T : TypeId} {c0 c1 c2 c3 c4 c5 c6 c7 c8 c9 c10 c11 : Value} (h : Blk w g T #[c0, c1, c2, c3, c4, c5, c6, c7, c8, c9, c10, c11]) (a4 a5 a6 a7 a8 a9 a10 : Value) : Blk (((((((w.setCell ⟨g, 4, none⟩ a4).setCell ⟨g, 5, none⟩ a5).setCell ⟨g, 6, none⟩ a6).setCell ⟨g, 7, none⟩ a7).setCell ⟨g, 8, none⟩ a8).setCell ⟨g, 9, none⟩ a9).setCell ⟨g, 10, none⟩ a10) g T #[c0, c1, c2, c3, a4, a5, a6, a7, a8, a9, a10, c11] := by
  have := (Blk.put (Blk.put (Blk.put (Blk.put (Blk.put (Blk.put (Blk.put h 4 a4) 5 a5) 6 a6) 7 a7) 8 a8) 9 a9) 10 a10)
  simpa using this
theorem seg_9_0_6 {w : World} {g : Nat} {T : TypeId} {c0 c1 c2 c3 c4 c5 c6 c7 c8 : Value} (h : Blk w g T #[c0, c1, c2, c3, c4, c5, c6, c7, c8]) (a0 a1 a2 a3 a4 a5 a6 : Value) : Blk (((((((w.setCell ⟨g, 0, none⟩ a0).setCell ⟨g, 1, none⟩ a1).setCell ⟨g, 2, none⟩ a2).setCell ⟨g, 3, none⟩ a3).setCell ⟨g, 4, none⟩ a4).setCell ⟨g, 5, none⟩ a5).setCell ⟨g, 6, none⟩ a6) g T #[a0, a1, a2, a3, a4, a5, a6, c7, c8] := by
  have := (Blk.put (Blk.put (Blk.put (Blk.put (Blk.put (Blk.put (Blk.put h 0 a0) 1 a1) 2 a2) 3 a3) 4 a4) 5 a5) 6 a6)
  simpa using this
theorem seg_9_7_7 {w : World} {g : Nat} {T : TypeId} {c0 c1 c2 c3 c4 c5 c6 c7 c8 : Value} (h : Blk w g T #[c0, c1, c2, c3, c4, c5, c6, c7, c8]) (a7 : Value) : Blk (w.setCell ⟨g, 7, none⟩ a7) g T #[c0, c1, c2, c3, c4, c5, c6, a7, c8] := by
  have := (Blk.put h 7 a7)
  simpa using this
theorem seg_13_1_6 {w : World} {g : Nat} {T : TypeId} {c0 c1 c2 c3 c4 c5 c6 c7 c8 c9 c10 c11 c12 : Value} (h : Blk w g T #[c0, c1, c2, c3, c4, c5, c6, c7, c8, c9, c10, c11, c12]) (a1 a2 a3 a4 a5 a6 : Value) : Blk ((((((w.setCell ⟨g, 1, none⟩ a1).setCell ⟨g, 2, none⟩ a2).setCell ⟨g, 3, none⟩ a3).setCell ⟨g, 4, none⟩ a4).setCell ⟨g, 5, none⟩ a5).setCell ⟨g, 6, none⟩ a6) g T #[c0, a1, a2, a3, a4, a5, a6, c7, c8, c9, c10, c11, c12] := by
  have := (Blk.put (Blk.put (Blk.put (Blk.put (Blk.put (Blk.put h 1 a1) 2 a2) 3 a3) 4 a4) 5 a5) 6 a6)
  simpa using this
theorem seg_2_0_0 {w : World} {g : Nat} {T : TypeId} {c0 c1 : Value} (h : Blk w g T #[c0, c1]) (a0 : Value) : Blk (w.setCell ⟨g, 0, none⟩ a0) g T #[a0, c1] := by
  have := (Blk.put h 0 a0)
  simpa using this
theorem seg_8_0_5 {w : World} {g : Nat} {T : TypeId} {c0 c1 c2 c3 c4 c5 c6 c7 : Value} (h : Blk w g T #[c0, c1, c2, c3, c4, c5, c6, c7]) (a0 a1 a2 a3 a4 a5 : Value) : Blk ((((((w.setCell ⟨g, 0, none⟩ a0).setCell ⟨g, 1, none⟩ a1).setCell ⟨g, 2, none⟩ a2).setCell ⟨g, 3, none⟩ a3).setCell ⟨g, 4, none⟩ a4).setCell ⟨g, 5, none⟩ a5) g T #[a0, a1, a2, a3, a4, a5, c6, c7] := by
  have := (Blk.put (Blk.put (Blk.put (Blk.put (Blk.put (Blk.put h 0 a0) 1 a1) 2 a2) 3 a3) 4 a4) 5 a5)
  simpa using this
theorem seg_8_6_6 {w : World} {g : Nat} {T : TypeId} {c0 c1 c2 c3 c4 c5 c6 c7 : Value} (h : Blk w g T #[c0, c1, c2, c3, c4, c5, c6, c7]) (a6 : Value) : Blk (w.setCell ⟨g, 6, none⟩ a6) g T #[c0, c1, c2, c3, c4, c5, a6, c7] := by
  have := (Blk.put h 6 a6)
  simpa using this
theorem seg_4_0_0 {w : World} {g : Nat} {T : TypeId} {c0 c1 c2 c3 : Value} (h : Blk w g T #[c0, c1, c2, c3]) (a0 : Value) : Blk (w.setCell ⟨g, 0, none⟩ a0) g T #[a0, c1, c2, c3] := by
  have := (Blk.put h 0 a0)
  simpa using this
theorem seg_4_1_1 {w : World} {g : Nat} {T : TypeId} {c0 c1 c2 c3 : Value} (h : Blk w g T #[c0, c1, c2, c3]) (a1 : Value) : Blk (w.setCell ⟨g, 1, none⟩ a1) g T #[c0, a1, c2, c3] := by
  have := (Blk.put h 1 a1)
  simpa using this
theorem seg_5_3_3 {w : World} {g : Nat} {T : TypeId} {c0 c1 c2 c3 c4 : Value} (h : Blk w g T #[c0, c1, c2, c3, c4]) (a3 : Value) : Blk (w.setCell ⟨g, 3, none⟩ a3) g T #[c0, c1, c2, a3, c4] := by
  have := (Blk.put h 3 a3)
  simpa using this
theorem seg_3_0_0 {w : World} {g : Nat} {T : TypeId} {c0 c1 c2 : Value} (h : Blk w g T #[c0, c1, c2]) (a0 : Value) : Blk (w.setCell ⟨g, 0, none⟩ a0) g T #[a0, c1, c2] := by
  have := (Blk.put h 0 a0)
  simpa using this
def ToStringS (n : Nat) : Prop := ∀ (B : Nat → Prop) (d : DC) (v : Value) (w : World), Cell B n w (.l 0) d v → cC d ≤ 1048576 →
    Calls Tryz.prog 50 #[v] w (NewC n (.l 0) d w)
def ToAddr (n : Nat) : Prop := ∀ (B : Nat → Prop) (ds : List DC) (vs : List Value) (w : World), Cells B n w shAddr_ ds vs → cCs ds ≤ 1048576 →
    Calls Tryz.prog 24 #[.agg vs.toArray] w (NewS n shAddr_ ds w)
def ToValue (n : Nat) : Prop := ∀ (B : Nat → Prop) (ds : List DC) (vs : List Value) (w : World), Cells B n w shValue_ ds vs → cCs ds ≤ 1048576 →
    Calls Tryz.prog 73 #[.agg vs.toArray] w (NewS n shValue_ ds w)
def ToAddrS (n : Nat) : Prop := ∀ (B : Nat → Prop) (d : DC) (v : Value) (w : World), Cell B n w (.l 2) d v → cC d ≤ 1048576 →
    Calls Tryz.prog 26 #[v] w (NewC n (.l 2) d w)
def ToPair (n : Nat) : Prop := ∀ (B : Nat → Prop) (ds : List DC) (vs : List Value) (w : World), Cells B n w shPair_ ds vs → cCs ds ≤ 1048576 →
    Calls Tryz.prog 51 #[.agg vs.toArray] w (NewS n shPair_ ds w)
def ToPairS (n : Nat) : Prop := ∀ (B : Nat → Prop) (d : DC) (v : Value) (w : World), Cell B n w (.l 7) d v → cC d ≤ 1048576 →
    Calls Tryz.prog 25 #[v] w (NewC n (.l 7) d w)
def ToThing (n : Nat) : Prop := ∀ (B : Nat → Prop) (ds : List DC) (vs : List Value) (w : World), Cells B n w shThing_ ds vs → cCs ds ≤ 1048576 →
    Calls Tryz.prog 8 #[.agg vs.toArray] w (NewS n shThing_ ds w)
def ToThingS (n : Nat) : Prop := ∀ (B : Nat → Prop) (d : DC) (v : Value) (w : World), Cell B n w (.l 8) d v → cC d ≤ 1048576 →
    Calls Tryz.prog 7 #[v] w (NewC n (.l 8) d w)
theorem make_StringS (n : Nat) (hn : n ≤ 1048576) (w : World) : ∃ cs : Array Value, cs.size = n * 1 ∧ (Instr.makeSlice 23 (.int .i64 n) (.int .i64 n)).run Tryz.prog w = .ok (.slice (some ⟨w.heap.size, 0, none⟩) n n) (w.alloc (.cells cs 9)) := by
  obtain ⟨i, hi, hz0, hz1, hz2⟩ := info_parts (show (Tryz.prog.info? 9).map (fun i => (i.zero, i.size, i.bytes)) = some (some (.string ByteArray.empty), 1, 16) by kernel_rfl)
  have h := run_make (P := Tryz.prog) w 23 9 i _ Tryz.underlying23 hi hz0 .i64 .i64 n n (by omega) (by omega) (by rw [hz2]; omega) (by omega)
  refine ⟨_, ?_, h⟩
  simp [madeCells, hz1]
set_option maxHeartbeats 2000000 in
theorem toStringS_of {n : Nat} : ToStringS n := fun B d v w h hc => by
  obtain ⟨xs, A, c, rfl, rfl, hl⟩ := h.lst
  have H := Lib.hid h
  have HC : Hid (xs.length + cL xs ≤ 1048576) := by (simp only [cC] at hc; exact hc)
  have hl2 : xs.length ≤ 1048576 := by have := HC.out; omega
  unfold maxLen at hl
  obtain ⟨cs, hcs, hmk⟩ := make_StringS xs.length hl2 w
  have HT : Hid ((w.alloc (.cells cs 9)).there w.heap.size 0 (xs.length * 1)) := blk_there (Blk.new w _ _) (by omega)
  clear h hc hcs
  go_enter Tryz.func50, Tryz.ntmps50
  go_wp2
  clear hmk
  go_loopw [4] (fun i wr => ∃ k : Nat, k ≤ xs.length ∧ i = .int .i64 k ∧ Own n wr (Rg w.heap.size wr.heap.size) (.l 0) (.l (xs.take k)) (.slice (some ⟨w.heap.size, 0, none⟩) k xs.length) ∧ wr.there w.heap.size 0 (xs.length * 1) ∧ w.heap.size < wr.heap.size ∧ Below w.heap.size w wr) (fun i _ => xs.length - (intOf i).toNat)
  case atStart => exact ⟨0, Nat.zero_le _, rfl, by rw [List.take_zero]; exact Own.mkN, HT.out, by simp, below_a1 _ _⟩
  case round =>
    clear HT
    obtain ⟨k, hk, rfl, ho, ht, hz, hb⟩ := hrel
    have HO := Lib.hid ho
    have HT := Lib.hid ht
    have HB := Lib.hid hb
    clear ho ht hb
    by_cases hlt : k < xs.length
    · obtain ⟨m, b, o, us, hm, rfl, _, hbl, hr, hin⟩ := (H.out.below HB.out).item k hlt
      subst hm
      have HS := Lib.hid (cL_at hlt)
      have HTK : Hid (xs.take (k + 1) = xs.take k ++ [xs[k]]) := List.take_succ_eq_append_getElem hlt
      have hkl : (xs.take k).length = k := by simp; omega
      have HKL := Lib.hid hkl
      clear hkl
      obtain ⟨d0, ds0, v0, vs0, ed, rfl, h1, h2⟩ := All3.cons hin
      obtain ⟨rfl, rfl⟩ := All3.nil h2
      obtain ⟨s, rfl, rfl, hs⟩ := h1.str
      have hc : wr.cell? ⟨b, o + k, none⟩ = some (.string s) := by have := hr 0 _ rfl; simpa [sh] using this
      have HSZ := Lib.hid hs
      have HED := Lib.hid ed
      have hst := HT.out k (by omega)
      rw [Nat.zero_add] at hst
      obtain ⟨hs1, hf⟩ := hst
      obtain ⟨y, hy⟩ := Option.isSome_iff_exists.1 hs1
      clear hr hin h1 h2 ed hs hs1
      go_wp2
      go_roundw
      case rel =>
        refine ⟨k + 1, hlt, by go_num, ?_, ?_, ?_, ?_⟩
        · have h0 := Own.snoc (X := xs.take k) (ds := [.s s]) (us := [.string s]) (F := Rg w.heap.size wr.heap.size) (F2 := Rg wr.heap.size wr.heap.size) (b := w.heap.size) (o := 0) (e := 0) (n := m) (cap := xs.length) (by rw [HKL.out]; exact HO.out) ⟨Nat.le_refl _, hz⟩ hz (by rw [HKL.out]; unfold maxLen; omega) (by rw [HKL.out]; intro q hq; exact HT.out q (Nat.lt_of_lt_of_le hq (Nat.mul_le_mul_right 1 hlt))) (Owns.s HSZ.out (Owns.nil _ _ _)) (fun x hx hy => by (have := hx.2; have := hy.1; omega))
          rw [HKL.out, Nat.zero_add] at h0
          rw [HTK.out, HED.out]
          refine Own.mono (w := wr.setCell ⟨w.heap.size, k, none⟩ (.string s)) (by first | exact h0 | simpa [sh, World.setCells] using h0) (fun x hx => ?_)
          rcases hx with hx | hx
          · exact ⟨hx.1, by (have := hx.2; (try simp only [size_cells, World.size_setCell]); omega)⟩
          · exact ⟨by (have := hx.1; omega), by (have := hx.2; (try simp only [size_cells, World.size_setCell]); omega)⟩
        · exact there_set HT.out
        · simpa using hz
        · exact HB.out.setCell (p := ⟨w.heap.size, k, none⟩) (Nat.le_refl _) _
      case measure => simp [intOf]; omega
    · obtain rfl : k = xs.length := by omega
      have HO3 : Hid (Own n wr (Rg w.heap.size wr.heap.size) (.l 0) (.l xs) (.slice (some ⟨w.heap.size, 0, none⟩) xs.length xs.length)) := by (have := HO.out; rw [List.take_length] at this; exact this)
      clear HO
      go_wp2
      go_ret
      exact ⟨_, rfl, HO3.out, HB.out⟩
theorem toStringS_all (n : Nat) : ToStringS n := toStringS_of
set_option maxHeartbeats 2000000 in
theorem toAddr_of {n : Nat} (KStringS : ToStringS n) : ToAddr n := fun B ds vs w h hc => by
  obtain ⟨l0, s1, s2, x3, x4, s5, A0, c0, rfl, rfl, k0, k1, k2, k3, k4, k5⟩ := open_Addr h
  have H0 := Lib.hid k0
  have H1 := Lib.hid k1
  have H2 := Lib.hid k2
  have H3 := Lib.hid k3
  have H4 := Lib.hid k4
  have H5 := Lib.hid k5
  have HKStringS := Lib.hid KStringS
  have HC := Lib.hid hc
  clear h hc k0 k1 k2 k3 k4 k5 KStringS
  go_enter Tryz.func24, Tryz.ntmps24
  go_wp2_with fail
  refine (HKStringS.out B (.l l0) (.slice A0 l0.length c0) _ (H0.out.below (below_a3 _ _ _ _)) (by have := HC.out; simp only [cCs, cC] at this ⊢; omega)).mono ?_
  rintro _ w1 ⟨u, rfl, hown, hb⟩
  obtain ⟨_, B0, e0, el, rfl, _⟩ := hown.cell.lst
  injection el with el
  subst el
  have Z1 : Hid (w.heap.size + 1 + 1 + 1 ≤ w1.heap.size) := by (have hz := hb.size; (try simp at hz); show _ ≤ _; omega)
  have E1 := Lib.hid (below_then (below_a3 _ _ _ _) hb (Nat.le_refl _))
  have P1 := Lib.hid (((Blk.new w _ _).alloc _ |>.alloc _).step hb)
  have R1 := Lib.hid ((((Blk.new1 w _ _ _).alloc _)).step hb)
  have O1 := Lib.hid ((Blk.new2 w _ _ _ _).step hb)
  have U1_1 : Hid (Own n w1 (Rg (w.heap.size + 1 + 1 + 1) w1.heap.size) _ _ _) := hown.mono (fun x hx => ⟨by (have h1 := hx.1; (try simp at h1); omega), hx.2⟩)
  have p1 := P1.out.cell
  have r1 := R1.out.cell
  have o1 := O1.out.cell
  have f1 := O1.out.free
  have g1 := R1.out.free
  have z1 : w.heap.size + 1 + 1 < w1.heap.size := O1.out.lt
  clear hb hown
  go_wp2
  refine bodyPost_ret (v := .agg #[.slice B0 l0.length e0, .string s1, .string s2, .int .i64 x3, .int .i64 x4, .string s5]) (by simp [results, Tryz.results24, go_sem, o1, f1, r1, g1, z1]) rfl ⟨[.slice B0 l0.length e0, .string s1, .string s2, .int .i64 x3, .int .i64 x4, .string s5], rfl, ?_, ?_⟩
  · refine Owns.monoF (F := Rg (w.heap.size + 1 + 1 + 1) (w1.heap.size)) ?_ (fun x hx => ⟨by (have := hx.1; omega), by (have := hx.2; (try simp); omega)⟩)
    refine Owns.agree (w := w1) ?_ (by (have := Z1.out; repeat (with_reducible refine Agree.set ?_ (Rg.lo (by simp <;> omega)) _)); exact Agree.refl _ _)
    have a6 : Owns n w1 (Rg (w1.heap.size) (w1.heap.size)) [] [] [] := Owns.nil _ _ _
    have a5 : Owns n w1 (Rg (w1.heap.size) (w1.heap.size)) [.s] [.s s5] [.string s5] := Owns.s H5.out a6
    have a4 : Owns n w1 (Rg (w1.heap.size) (w1.heap.size)) [.i, .s] [.i x4, .s s5] [.int .i64 x4, .string s5] := Owns.i H4.out a5
    have a3 : Owns n w1 (Rg (w1.heap.size) (w1.heap.size)) [.i, .i, .s] [.i x3, .i x4, .s s5] [.int .i64 x3, .int .i64 x4, .string s5] := Owns.i H3.out a4
    have a2 : Owns n w1 (Rg (w1.heap.size) (w1.heap.size)) [.s, .i, .i, .s] [.s s2, .i x3, .i x4, .s s5] [.string s2, .int .i64 x3, .int .i64 x4, .string s5] := Owns.s H2.out a3
    have a1 : Owns n w1 (Rg (w1.heap.size) (w1.heap.size)) [.s, .s, .i, .i, .s] [.s s1, .s s2, .i x3, .i x4, .s s5] [.string s1, .string s2, .int .i64 x3, .int .i64 x4, .string s5] := Owns.s H1.out a2
    have a0 : Owns n w1 (Rg (w.heap.size + 1 + 1 + 1) (w1.heap.size)) [.l 0, .s, .s, .i, .i, .s] [.l l0, .s s1, .s s2, .i x3, .i x4, .s s5] [.slice B0 l0.length e0, .string s1, .string s2, .int .i64 x3, .int .i64 x4, .string s5] := Owns.cons U1_1.out a1 (fun x hx => ⟨hx.1, by (have := Z1.out; have := hx.2; omega)⟩) (fun x hx => ⟨by (have := Z1.out; have := hx.1; omega), hx.2⟩) (fun x hx hy => by (have := hx.2; have := hy.1; omega))
    exact a0
  · repeat (with_reducible refine Below.setCell ?_ (by simp <;> omega) _)
    exact E1.out
theorem toAddr_all (n : Nat) : ToAddr n := toAddr_of (toStringS_all n)
set_option maxHeartbeats 2000000 in
theorem toValue_of {n : Nat} : ToValue n := fun B ds vs w h hc => by
  obtain ⟨x0, x1, s2, rfl, rfl, k0, k1, k2⟩ := open_Value h
  have H0 := Lib.hid k0
  have H1 := Lib.hid k1
  have H2 := Lib.hid k2
  have HC := Lib.hid hc
  clear h hc k0 k1 k2
  go_enter Tryz.func73, Tryz.ntmps73
  go_wp2
  refine bodyPost_ret (v := .agg #[.int .i64 x0, .int .i64 x1, .string s2]) (by simp [results, Tryz.results73, go_sem]) rfl ⟨[.int .i64 x0, .int .i64 x1, .string s2], rfl, (Owns.i H0.out (Owns.i H1.out (Owns.s H2.out (Owns.nil _ _ _)))), ?_⟩
  repeat (refine Below.setCell ?_ (by simp <;> omega) _)
  first | exact below_a3 _ _ _ _ | exact below_a2 _ _ _
theorem toValue_all (n : Nat) : ToValue n := toValue_of
theorem make_AddrS (n : Nat) (hn : n ≤ 1048576) (w : World) : ∃ cs : Array Value, cs.size = n * 6 ∧ (Instr.makeSlice 39 (.int .i64 n) (.int .i64 n)).run Tryz.prog w = .ok (.slice (some ⟨w.heap.size, 0, none⟩) n n) (w.alloc (.cells cs 37)) := by
  obtain ⟨i, hi, hz0, hz1, hz2⟩ := info_parts (show (Tryz.prog.info? 37).map (fun i => (i.zero, i.size, i.bytes)) = some (some (.agg #[.slice none 0 0, .string ByteArray.empty, .string ByteArray.empty, .int .i64 0, .int .i64 0, .string ByteArray.empty]), 6, 88) by kernel_rfl)
  have h := run_make (P := Tryz.prog) w 39 37 i _ Tryz.underlying39 hi hz0 .i64 .i64 n n (by omega) (by omega) (by rw [hz2]; omega) (by omega)
  refine ⟨_, ?_, h⟩
  simp [madeCells, hz1]
set_option maxHeartbeats 2000000 in
theorem toAddrS_of {n : Nat} (K : ∀ m, m < n → ToAddr m) : ToAddrS n := fun B d v w h hc => by
  obtain ⟨xs, A, c, rfl, rfl, hl⟩ := h.lst
  have H := Lib.hid h
  have HC : Hid (xs.length + cL xs ≤ 1048576) := by (simp only [cC] at hc; exact hc)
  have hl2 : xs.length ≤ 1048576 := by have := HC.out; omega
  unfold maxLen at hl
  have HK := Lib.hid K
  obtain ⟨cs, hcs, hmk⟩ := make_AddrS xs.length hl2 w
  have HT : Hid ((w.alloc (.cells cs 37)).there w.heap.size 0 (xs.length * 6)) := blk_there (Blk.new w _ _) (by omega)
  clear h hc hcs K
  go_enter Tryz.func26, Tryz.ntmps26
  go_wp2
  clear hmk
  go_loopw [4] (fun i wr => ∃ k : Nat, k ≤ xs.length ∧ i = .int .i64 k ∧ Own n wr (Rg w.heap.size wr.heap.size) (.l 2) (.l (xs.take k)) (.slice (some ⟨w.heap.size, 0, none⟩) k xs.length) ∧ wr.there w.heap.size 0 (xs.length * 6) ∧ w.heap.size < wr.heap.size ∧ Below w.heap.size w wr) (fun i _ => xs.length - (intOf i).toNat)
  case atStart => exact ⟨0, Nat.zero_le _, rfl, by rw [List.take_zero]; exact Own.mkN, HT.out, by simp, below_a1 _ _⟩
  case round =>
    clear HT
    obtain ⟨k, hk, rfl, ho, ht, hz, hb⟩ := hrel
    have HO := Lib.hid ho
    have HT := Lib.hid ht
    have HB := Lib.hid hb
    clear ho ht hb
    by_cases hlt : k < xs.length
    · obtain ⟨m, b, o, us, hm, rfl, _, hbl, hr, hin⟩ := (H.out.below HB.out).item k hlt
      subst hm
      have HS := Lib.hid (cL_at hlt)
      have HTK : Hid (xs.take (k + 1) = xs.take k ++ [xs[k]]) := List.take_succ_eq_append_getElem hlt
      have hkl : (xs.take k).length = k := by simp; omega
      have HKL := Lib.hid hkl
      clear hkl
      have hus := hin.len.2
      have HR := Lib.hid hr
      have HIN := Lib.hid hin
      clear hr hin
      go_wp2_with (refine wpList_load_mid rfl 25 (.tmp 18) rfl b (o + k * 6) rfl us _ HR.out Tryz.underlying25 rfl (by rw [hus]; kernel_rfl) ?_)
      go_wp2_with fail
      refine (HK.out m (by omega) B xs[k] us _ HIN.out (by have := HS.out; have := HC.out; omega)).mono ?_
      rintro _ w2 ⟨ws, rfl, hown, hb⟩
      have HO2 := Lib.hid (HO.out.below hb)
      have HT2 := Lib.hid (there_same HT.out (hb.block _ hz))
      have E2 := Lib.hid (below_then HB.out hb (Nat.le_refl _))
      have HN := Lib.hid hown
      have hz2 : wr.heap.size ≤ w2.heap.size := hb.size
      have hws : ws.length = 6 := hown.2.1
      have H1 := Lib.hid hown.cells.ones
      have HTT : Hid (w2.there w.heap.size (k * 6) 6) := by (intro q hq; have := HT2.out (k * 6 + q) (by omega); rwa [Nat.zero_add] at this)
      have HWS := Lib.hid hws
      clear hb hown HO HT hws
      have hws2 : ws.toArray.size = 6 := by simpa using HWS.out
      have HW2 := Lib.hid hws2
      clear hws2
      go_wp2_with (refine wpList_store_mid rfl 37 (.tmp 21) (.tmp 20) rfl w.heap.size (k * 6) ws.toArray rfl rfl (by rw [HW2.out]; exact HTT.out) (by rw [HW2.out]; kernel_rfl) H1.out ?_)
      go_wp2
      go_roundw
      case rel =>
        show ∃ _, _
        refine ⟨k + 1, hlt, by go_num, ?_, ?_, ?_, ?_⟩
        · have h0 := Own.snoc (X := xs.take k) (ds := xs[k]) (us := ws) (F := Rg w.heap.size wr.heap.size) (F2 := Rg wr.heap.size w2.heap.size) (b := w.heap.size) (o := 0) (e := 2) (n := m) (cap := xs.length) (by rw [HKL.out]; exact HO2.out) ⟨Nat.le_refl _, hz⟩ (by omega) (by rw [HKL.out]; unfold maxLen; omega) (by rw [HKL.out]; intro q hq; exact HT2.out q (Nat.lt_of_lt_of_le hq (Nat.mul_le_mul_right 6 hlt))) HN.out (fun x hx hy => by (have := hx.2; have := hy.1; omega))
          rw [HKL.out, Nat.zero_add] at h0
          rw [HTK.out]
          refine Own.mono (w := w2.setCells w.heap.size (k * 6) ws) (by first | exact h0 | simpa [sh, World.setCells] using h0) (fun x hx => ?_)
          rcases hx with hx | hx
          · exact ⟨hx.1, by (have := hx.2; (try simp only [size_cells, World.size_setCell]); omega)⟩
          · exact ⟨by (have := hx.1; omega), by (have := hx.2; (try simp only [size_cells, World.size_setCell]); omega)⟩
        · exact World.there_setCells HT2.out _ _ _
        · (show _ < (w2.setCells w.heap.size (k * 6) ws).heap.size); rw [size_cells]; omega
        · exact Below.cells (Nat.le_refl _) _ _ E2.out
      case measure => simp [intOf]; omega
    · obtain rfl : k = xs.length := by omega
      have HO3 : Hid (Own n wr (Rg w.heap.size wr.heap.size) (.l 2) (.l xs) (.slice (some ⟨w.heap.size, 0, none⟩) xs.length xs.length)) := by (have := HO.out; rw [List.take_length] at this; exact this)
      clear HO
      go_wp2
      go_ret
      exact ⟨_, rfl, HO3.out, HB.out⟩
theorem toAddrS_all (n : Nat) : ToAddrS n := toAddrS_of (fun m _ => toAddr_all m)
set_option maxHeartbeats 2000000 in
theorem toPair_of {n : Nat} (KValue : ToValue n) : ToPair n := fun B ds vs w h hc => by
  obtain ⟨s0, x1, x2, s3, rfl, rfl, k0, k1, k2, k3⟩ := open_Pair h
  have H0 := Lib.hid k0
  have H1 := Lib.hid k1
  have H2 := Lib.hid k2
  have H3 := Lib.hid k3
  have HKValue := Lib.hid KValue
  have HC := Lib.hid hc
  clear h hc k0 k1 k2 k3 KValue
  go_enter Tryz.func51, Tryz.ntmps51
  go_wp2_with fail
  refine (HKValue.out B [.i x1, .i x2, .s s3] [.int .i64 x1, .int .i64 x2, .string s3] _ ⟨Cell.mkI H1.out, Cell.mkI H2.out, Cell.mkS H3.out, trivial⟩ (by have := HC.out; simp only [cCs, cC] at this ⊢; omega)).mono ?_
  rintro _ w1 ⟨us, rfl, hown, hb⟩
  obtain ⟨rfl, _, _, _⟩ := openv_Value hown.cells
  have Z1 : Hid (w.heap.size + 1 + 1 + 1 ≤ w1.heap.size) := by (have hz := hb.size; (try simp at hz); show _ ≤ _; omega)
  have E1 := Lib.hid (below_then (below_a3 _ _ _ _) hb (Nat.le_refl _))
  have P1 := Lib.hid (((Blk.new w _ _).alloc _ |>.alloc _).step hb)
  have R1 := Lib.hid ((((Blk.new1 w _ _ _).alloc _)).step hb)
  have O1 := Lib.hid ((Blk.new2 w _ _ _ _).step hb)
  have U1_1 : Hid (Owns n w1 (Rg (w.heap.size + 1 + 1 + 1) w1.heap.size) _ _ _) := hown.monoF (fun x hx => ⟨by (have h1 := hx.1; (try simp at h1); omega), hx.2⟩)
  have p1 := P1.out.cell
  have r1 := R1.out.cell
  have o1 := O1.out.cell
  have f1 := O1.out.free
  have g1 := R1.out.free
  have z1 : w.heap.size + 1 + 1 < w1.heap.size := O1.out.lt
  clear hb hown
  go_wp2
  refine bodyPost_ret (v := .agg #[.string s0, .int .i64 x1, .int .i64 x2, .string s3]) (by simp [results, Tryz.results51, go_sem, o1, f1, r1, g1, z1]) rfl ⟨[.string s0, .int .i64 x1, .int .i64 x2, .string s3], rfl, ?_, ?_⟩
  · refine Owns.monoF (F := Rg (w.heap.size + 1 + 1 + 1) (w1.heap.size)) ?_ (fun x hx => ⟨by (have := hx.1; omega), by (have := hx.2; (try simp); omega)⟩)
    refine Owns.agree (w := w1) ?_ (by (have := Z1.out; repeat (with_reducible refine Agree.set ?_ (Rg.lo (by simp <;> omega)) _)); exact Agree.refl _ _)
    have a2 : Owns n w1 (Rg (w1.heap.size) (w1.heap.size)) [] [] [] := Owns.nil _ _ _
    have a1 : Owns n w1 (Rg (w.heap.size + 1 + 1 + 1) (w1.heap.size)) [.i, .i, .s] [.i x1, .i x2, .s s3] [.int .i64 x1, .int .i64 x2, .string s3] := Owns.app (fun x hx => ⟨hx.1, by (have := Z1.out; have := hx.2; omega)⟩) (fun x hx => ⟨by (have := Z1.out; have := hx.1; omega), hx.2⟩) (fun x hx hy => by (have := hx.2; have := hy.1; omega)) a2 U1_1.out
    have a0 : Owns n w1 (Rg (w.heap.size + 1 + 1 + 1) (w1.heap.size)) [.s, .i, .i, .s] [.s s0, .i x1, .i x2, .s s3] [.string s0, .int .i64 x1, .int .i64 x2, .string s3] := Owns.s H0.out a1
    exact a0
  · repeat (with_reducible refine Below.setCell ?_ (by simp <;> omega) _)
    exact E1.out
theorem toPair_all (n : Nat) : ToPair n := toPair_of (toValue_all n)
theorem make_PairS (n : Nat) (hn : n ≤ 1048576) (w : World) : ∃ cs : Array Value, cs.size = n * 4 ∧ (Instr.makeSlice 38 (.int .i64 n) (.int .i64 n)).run Tryz.prog w = .ok (.slice (some ⟨w.heap.size, 0, none⟩) n n) (w.alloc (.cells cs 86)) := by
  obtain ⟨i, hi, hz0, hz1, hz2⟩ := info_parts (show (Tryz.prog.info? 86).map (fun i => (i.zero, i.size, i.bytes)) = some (some (.agg #[.string ByteArray.empty, .int .i64 0, .int .i64 0, .string ByteArray.empty]), 4, 48) by kernel_rfl)
  have h := run_make (P := Tryz.prog) w 38 86 i _ Tryz.underlying38 hi hz0 .i64 .i64 n n (by omega) (by omega) (by rw [hz2]; omega) (by omega)
  refine ⟨_, ?_, h⟩
  simp [madeCells, hz1]
set_option maxHeartbeats 2000000 in
theorem toPairS_of {n : Nat} (K : ∀ m, m < n → ToPair m) : ToPairS n := fun B d v w h hc => by
  obtain ⟨xs, A, c, rfl, rfl, hl⟩ := h.lst
  have H := Lib.hid h
  have HC : Hid (xs.length + cL xs ≤ 1048576) := by (simp only [cC] at hc; exact hc)
  have hl2 : xs.length ≤ 1048576 := by have := HC.out; omega
  unfold maxLen at hl
  have HK := Lib.hid K
  obtain ⟨cs, hcs, hmk⟩ := make_PairS xs.length hl2 w
  have HT : Hid ((w.alloc (.cells cs 86)).there w.heap.size 0 (xs.length * 4)) := blk_there (Blk.new w _ _) (by omega)
  clear h hc hcs K
  go_enter Tryz.func25, Tryz.ntmps25
  go_wp2
  clear hmk
  go_loopw [4] (fun i wr => ∃ k : Nat, k ≤ xs.length ∧ i = .int .i64 k ∧ Own n wr (Rg w.heap.size wr.heap.size) (.l 7) (.l (xs.take k)) (.slice (some ⟨w.heap.size, 0, none⟩) k xs.length) ∧ wr.there w.heap.size 0 (xs.length * 4) ∧ w.heap.size < wr.heap.size ∧ Below w.heap.size w wr) (fun i _ => xs.length - (intOf i).toNat)
  case atStart => exact ⟨0, Nat.zero_le _, rfl, by rw [List.take_zero]; exact Own.mkN, HT.out, by simp, below_a1 _ _⟩
  case round =>
    clear HT
    obtain ⟨k, hk, rfl, ho, ht, hz, hb⟩ := hrel
    have HO := Lib.hid ho
    have HT := Lib.hid ht
    have HB := Lib.hid hb
    clear ho ht hb
    by_cases hlt : k < xs.length
    · obtain ⟨m, b, o, us, hm, rfl, _, hbl, hr, hin⟩ := (H.out.below HB.out).item k hlt
      subst hm
      have HS := Lib.hid (cL_at hlt)
      have HTK : Hid (xs.take (k + 1) = xs.take k ++ [xs[k]]) := List.take_succ_eq_append_getElem hlt
      have hkl : (xs.take k).length = k := by simp; omega
      have HKL := Lib.hid hkl
      clear hkl
      have hus := hin.len.2
      have HR := Lib.hid hr
      have HIN := Lib.hid hin
      clear hr hin
      go_wp2_with (refine wpList_load_mid rfl 78 (.tmp 18) rfl b (o + k * 4) rfl us _ HR.out Tryz.underlying78 rfl (by rw [hus]; kernel_rfl) ?_)
      go_wp2_with fail
      refine (HK.out m (by omega) B xs[k] us _ HIN.out (by have := HS.out; have := HC.out; omega)).mono ?_
      rintro _ w2 ⟨ws, rfl, hown, hb⟩
      have HO2 := Lib.hid (HO.out.below hb)
      have HT2 := Lib.hid (there_same HT.out (hb.block _ hz))
      have E2 := Lib.hid (below_then HB.out hb (Nat.le_refl _))
      have HN := Lib.hid hown
      have hz2 : wr.heap.size ≤ w2.heap.size := hb.size
      have hws : ws.length = 4 := hown.2.1
      have H1 := Lib.hid hown.cells.ones
      have HTT : Hid (w2.there w.heap.size (k * 4) 4) := by (intro q hq; have := HT2.out (k * 4 + q) (by omega); rwa [Nat.zero_add] at this)
      have HWS := Lib.hid hws
      clear hb hown HO HT hws
      have hws2 : ws.toArray.size = 4 := by simpa using HWS.out
      have HW2 := Lib.hid hws2
      clear hws2
      go_wp2_with (refine wpList_store_mid rfl 86 (.tmp 21) (.tmp 20) rfl w.heap.size (k * 4) ws.toArray rfl rfl (by rw [HW2.out]; exact HTT.out) (by rw [HW2.out]; kernel_rfl) H1.out ?_)
      go_wp2
      go_roundw
      case rel =>
        show ∃ _, _
        refine ⟨k + 1, hlt, by go_num, ?_, ?_, ?_, ?_⟩
        · have h0 := Own.snoc (X := xs.take k) (ds := xs[k]) (us := ws) (F := Rg w.heap.size wr.heap.size) (F2 := Rg wr.heap.size w2.heap.size) (b := w.heap.size) (o := 0) (e := 7) (n := m) (cap := xs.length) (by rw [HKL.out]; exact HO2.out) ⟨Nat.le_refl _, hz⟩ (by omega) (by rw [HKL.out]; unfold maxLen; omega) (by rw [HKL.out]; intro q hq; exact HT2.out q (Nat.lt_of_lt_of_le hq (Nat.mul_le_mul_right 4 hlt))) HN.out (fun x hx hy => by (have := hx.2; have := hy.1; omega))
          rw [HKL.out, Nat.zero_add] at h0
          rw [HTK.out]
          refine Own.mono (w := w2.setCells w.heap.size (k * 4) ws) (by first | exact h0 | simpa [sh, World.setCells] using h0) (fun x hx => ?_)
          rcases hx with hx | hx
          · exact ⟨hx.1, by (have := hx.2; (try simp only [size_cells, World.size_setCell]); omega)⟩
          · exact ⟨by (have := hx.1; omega), by (have := hx.2; (try simp only [size_cells, World.size_setCell]); omega)⟩
        · exact World.there_setCells HT2.out _ _ _
        · (show _ < (w2.setCells w.heap.size (k * 4) ws).heap.size); rw [size_cells]; omega
        · exact Below.cells (Nat.le_refl _) _ _ E2.out
      case measure => simp [intOf]; omega
    · obtain rfl : k = xs.length := by omega
      have HO3 : Hid (Own n wr (Rg w.heap.size wr.heap.size) (.l 7) (.l xs) (.slice (some ⟨w.heap.size, 0, none⟩) xs.length xs.length)) := by (have := HO.out; rw [List.take_length] at this; exact this)
      clear HO
      go_wp2
      go_ret
      exact ⟨_, rfl, HO3.out, HB.out⟩
theorem toPairS_all (n : Nat) : ToPairS n := toPairS_of (fun m _ => toPair_all m)
set_option maxHeartbeats 2000000 in
theorem toThing_of {n : Nat} (KAddr : ToAddr n) (KAddrS : ToAddrS n) (KPairS : ToPairS n) : ToThing n := fun B ds vs w h hc => by
  obtain ⟨l0, s1, s2, x3, x4, s5, l6, l7, A0, c0, A6, c6, A7, c7, rfl, rfl, k0, k1, k2, k3, k4, k5, k6, k7⟩ := open_Thing h
  have H0 := Lib.hid k0
  have H1 := Lib.hid k1
  have H2 := Lib.hid k2
  have H3 := Lib.hid k3
  have H4 := Lib.hid k4
  have H5 := Lib.hid k5
  have H6 := Lib.hid k6
  have H7 := Lib.hid k7
  have HKAddr := Lib.hid KAddr
  have HKAddrS := Lib.hid KAddrS
  have HKPairS := Lib.hid KPairS
  have HC := Lib.hid hc
  clear h hc k0 k1 k2 k3 k4 k5 k6 k7 KAddr KAddrS KPairS
  go_enter Tryz.func8, Tryz.ntmps8
  go_wp2_with fail
  refine (HKAddr.out B [.l l0, .s s1, .s s2, .i x3, .i x4, .s s5] [.slice A0 l0.length c0, .string s1, .string s2, .int .i64 x3, .int .i64 x4, .string s5] _ ⟨H0.out.below (below_a3 _ _ _ _), Cell.mkS H1.out, Cell.mkS H2.out, Cell.mkI H3.out, Cell.mkI H4.out, Cell.mkS H5.out, trivial⟩ (by have := HC.out; simp only [cCs, cC] at this ⊢; omega)).mono ?_
  rintro _ w1 ⟨us, rfl, hown, hb⟩
  obtain ⟨B0, e0, rfl, _, _, _, _, _, _⟩ := openv_Addr hown.cells
  have Z1 : Hid (w.heap.size + 1 + 1 + 1 ≤ w1.heap.size) := by (have hz := hb.size; (try simp at hz); show _ ≤ _; omega)
  have E1 := Lib.hid (below_then (below_a3 _ _ _ _) hb (Nat.le_refl _))
  have P1 := Lib.hid (((Blk.new w _ _).alloc _ |>.alloc _).step hb)
  have R1 := Lib.hid ((((Blk.new1 w _ _ _).alloc _)).step hb)
  have O1 := Lib.hid ((Blk.new2 w _ _ _ _).step hb)
  have U1_1 : Hid (Owns n w1 (Rg (w.heap.size + 1 + 1 + 1) w1.heap.size) _ _ _) := hown.monoF (fun x hx => ⟨by (have h1 := hx.1; (try simp at h1); omega), hx.2⟩)
  have p1 := P1.out.cell
  have r1 := R1.out.cell
  have o1 := O1.out.cell
  have f1 := O1.out.free
  have g1 := R1.out.free
  have z1 : w.heap.size + 1 + 1 < w1.heap.size := O1.out.lt
  clear hb hown
  go_wp2_with fail
  refine (HKPairS.out B (.l l6) (.slice A6 l6.length c6) _ (H6.out.below (Below.setCell (Below.setCell (Below.setCell (Below.setCell (Below.setCell (Below.setCell E1.out (p := ⟨w.heap.size + 1 + 1, 0, none⟩) (by show _ ≤ w.heap.size + 1 + 1; omega) _) (p := ⟨w.heap.size + 1 + 1, 1, none⟩) (by show _ ≤ w.heap.size + 1 + 1; omega) _) (p := ⟨w.heap.size + 1 + 1, 2, none⟩) (by show _ ≤ w.heap.size + 1 + 1; omega) _) (p := ⟨w.heap.size + 1 + 1, 3, none⟩) (by show _ ≤ w.heap.size + 1 + 1; omega) _) (p := ⟨w.heap.size + 1 + 1, 4, none⟩) (by show _ ≤ w.heap.size + 1 + 1; omega) _) (p := ⟨w.heap.size + 1 + 1, 5, none⟩) (by show _ ≤ w.heap.size + 1 + 1; omega) _)) (by have := HC.out; simp only [cCs, cC] at this ⊢; omega)).mono ?_
  rintro _ w2 ⟨u, rfl, hown, hb⟩
  obtain ⟨_, B6, e6, el, rfl, _⟩ := hown.cell.lst
  injection el with el
  subst el
  have Z2 : Hid (w1.heap.size ≤ w2.heap.size) := by (have hz := hb.size; (try simp at hz); show _ ≤ _; omega)
  have E2 := Lib.hid (below_then (Below.setCell (Below.setCell (Below.setCell (Below.setCell (Below.setCell (Below.setCell E1.out (p := ⟨w.heap.size + 1 + 1, 0, none⟩) (by show _ ≤ w.heap.size + 1 + 1; omega) _) (p := ⟨w.heap.size + 1 + 1, 1, none⟩) (by show _ ≤ w.heap.size + 1 + 1; omega) _) (p := ⟨w.heap.size + 1 + 1, 2, none⟩) (by show _ ≤ w.heap.size + 1 + 1; omega) _) (p := ⟨w.heap.size + 1 + 1, 3, none⟩) (by show _ ≤ w.heap.size + 1 + 1; omega) _) (p := ⟨w.heap.size + 1 + 1, 4, none⟩) (by show _ ≤ w.heap.size + 1 + 1; omega) _) (p := ⟨w.heap.size + 1 + 1, 5, none⟩) (by show _ ≤ w.heap.size + 1 + 1; omega) _) hb (Nat.le_refl _))
  have P2 := Lib.hid (Blk.step (Blk.far (Blk.far (Blk.far (Blk.far (Blk.far (Blk.far P1.out (p := ⟨w.heap.size + 1 + 1, 0, none⟩) (by show _ ≠ w.heap.size + 1 + 1; omega) _) (p := ⟨w.heap.size + 1 + 1, 1, none⟩) (by show _ ≠ w.heap.size + 1 + 1; omega) _) (p := ⟨w.heap.size + 1 + 1, 2, none⟩) (by show _ ≠ w.heap.size + 1 + 1; omega) _) (p := ⟨w.heap.size + 1 + 1, 3, none⟩) (by show _ ≠ w.heap.size + 1 + 1; omega) _) (p := ⟨w.heap.size + 1 + 1, 4, none⟩) (by show _ ≠ w.heap.size + 1 + 1; omega) _) (p := ⟨w.heap.size + 1 + 1, 5, none⟩) (by show _ ≠ w.heap.size + 1 + 1; omega) _) hb)
  have R2 := Lib.hid (Blk.step (Blk.far (Blk.far (Blk.far (Blk.far (Blk.far (Blk.far R1.out (p := ⟨w.heap.size + 1 + 1, 0, none⟩) (by show _ ≠ w.heap.size + 1 + 1; omega) _) (p := ⟨w.heap.size + 1 + 1, 1, none⟩) (by show _ ≠ w.heap.size + 1 + 1; omega) _) (p := ⟨w.heap.size + 1 + 1, 2, none⟩) (by show _ ≠ w.heap.size + 1 + 1; omega) _) (p := ⟨w.heap.size + 1 + 1, 3, none⟩) (by show _ ≠ w.heap.size + 1 + 1; omega) _) (p := ⟨w.heap.size + 1 + 1, 4, none⟩) (by show _ ≠ w.heap.size + 1 + 1; omega) _) (p := ⟨w.heap.size + 1 + 1, 5, none⟩) (by show _ ≠ w.heap.size + 1 + 1; omega) _) hb)
  have O2 := Lib.hid (Blk.step (seg_8_0_5 O1.out _ _ _ _ _ _) hb)
  have U1_2 := Lib.hid ((U1_1.out.agree (Agree.set (Agree.set (Agree.set (Agree.set (Agree.set (Agree.set (Agree.refl _ _) (p := ⟨w.heap.size + 1 + 1, 0, none⟩) (Rg.lo (by have := Z1.out; have := Z2.out; show w.heap.size + 1 + 1 < _; omega)) _) (p := ⟨w.heap.size + 1 + 1, 1, none⟩) (Rg.lo (by have := Z1.out; have := Z2.out; show w.heap.size + 1 + 1 < _; omega)) _) (p := ⟨w.heap.size + 1 + 1, 2, none⟩) (Rg.lo (by have := Z1.out; have := Z2.out; show w.heap.size + 1 + 1 < _; omega)) _) (p := ⟨w.heap.size + 1 + 1, 3, none⟩) (Rg.lo (by have := Z1.out; have := Z2.out; show w.heap.size + 1 + 1 < _; omega)) _) (p := ⟨w.heap.size + 1 + 1, 4, none⟩) (Rg.lo (by have := Z1.out; have := Z2.out; show w.heap.size + 1 + 1 < _; omega)) _) (p := ⟨w.heap.size + 1 + 1, 5, none⟩) (Rg.lo (by have := Z1.out; have := Z2.out; show w.heap.size + 1 + 1 < _; omega)) _)).below hb)
  have U2_2 : Hid (Own n w2 (Rg (w1.heap.size) w2.heap.size) _ _ _) := hown.mono (fun x hx => ⟨by (have h1 := hx.1; (try simp at h1); omega), hx.2⟩)
  have p2 := P2.out.cell
  have r2 := R2.out.cell
  have o2 := O2.out.cell
  have f2 := O2.out.free
  have g2 := R2.out.free
  have z2 : w.heap.size + 1 + 1 < w2.heap.size := O2.out.lt
  clear hb hown p1 r1 o1 f1 g1 z1 P1 R1 O1 U1_1
  go_wp2_with fail
  refine (HKAddrS.out B (.l l7) (.slice A7 l7.length c7) _ (H7.out.below (Below.setCell E2.out (p := ⟨w.heap.size + 1 + 1, 6, none⟩) (by show _ ≤ w.heap.size + 1 + 1; omega) _)) (by have := HC.out; simp only [cCs, cC] at this ⊢; omega)).mono ?_
  rintro _ w3 ⟨u, rfl, hown, hb⟩
  obtain ⟨_, B7, e7, el, rfl, _⟩ := hown.cell.lst
  injection el with el
  subst el
  have Z3 : Hid (w2.heap.size ≤ w3.heap.size) := by (have hz := hb.size; (try simp at hz); show _ ≤ _; omega)
  have E3 := Lib.hid (below_then (Below.setCell E2.out (p := ⟨w.heap.size + 1 + 1, 6, none⟩) (by show _ ≤ w.heap.size + 1 + 1; omega) _) hb (Nat.le_refl _))
  have P3 := Lib.hid (Blk.step (Blk.far P2.out (p := ⟨w.heap.size + 1 + 1, 6, none⟩) (by show _ ≠ w.heap.size + 1 + 1; omega) _) hb)
  have R3 := Lib.hid (Blk.step (Blk.far R2.out (p := ⟨w.heap.size + 1 + 1, 6, none⟩) (by show _ ≠ w.heap.size + 1 + 1; omega) _) hb)
  have O3 := Lib.hid (Blk.step (seg_8_6_6 O2.out _) hb)
  have U1_3 := Lib.hid ((U1_2.out.agree (Agree.set (Agree.refl _ _) (p := ⟨w.heap.size + 1 + 1, 6, none⟩) (Rg.lo (by have := Z1.out; have := Z2.out; have := Z3.out; show w.heap.size + 1 + 1 < _; omega)) _)).below hb)
  have U2_3 := Lib.hid ((U2_2.out.agree (Agree.set (Agree.refl _ _) (p := ⟨w.heap.size + 1 + 1, 6, none⟩) (Rg.lo (by have := Z1.out; have := Z2.out; have := Z3.out; show w.heap.size + 1 + 1 < _; omega)) _)).below hb)
  have U3_3 : Hid (Own n w3 (Rg (w2.heap.size) w3.heap.size) _ _ _) := hown.mono (fun x hx => ⟨by (have h1 := hx.1; (try simp at h1); omega), hx.2⟩)
  have p3 := P3.out.cell
  have r3 := R3.out.cell
  have o3 := O3.out.cell
  have f3 := O3.out.free
  have g3 := R3.out.free
  have z3 : w.heap.size + 1 + 1 < w3.heap.size := O3.out.lt
  clear hb hown p2 r2 o2 f2 g2 z2 P2 R2 O2 U1_2 U2_2
  go_wp2
  refine bodyPost_ret (v := .agg #[.slice B0 l0.length e0, .string s1, .string s2, .int .i64 x3, .int .i64 x4, .string s5, .slice B6 l6.length e6, .slice B7 l7.length e7]) (by simp [results, Tryz.results8, go_sem, o3, f3, r3, g3, z3]) rfl ⟨[.slice B0 l0.length e0, .string s1, .string s2, .int .i64 x3, .int .i64 x4, .string s5, .slice B6 l6.length e6, .slice B7 l7.length e7], rfl, ?_, ?_⟩
  · refine Owns.monoF (F := Rg (w.heap.size + 1 + 1 + 1) (w3.heap.size)) ?_ (fun x hx => ⟨by (have := hx.1; omega), by (have := hx.2; (try simp); omega)⟩)
    refine Owns.agree (w := w3) ?_ (by (have := Z1.out; have := Z2.out; have := Z3.out; repeat (with_reducible refine Agree.set ?_ (Rg.lo (by simp <;> omega)) _)); exact Agree.refl _ _)
    have a3 : Owns n w3 (Rg (w3.heap.size) (w3.heap.size)) [] [] [] := Owns.nil _ _ _
    have a2 : Owns n w3 (Rg (w2.heap.size) (w3.heap.size)) [.l 2] [.l l7] [.slice B7 l7.length e7] := Owns.cons U3_3.out a3 (fun x hx => ⟨hx.1, by (have := Z1.out; have := Z2.out; have := Z3.out; have := hx.2; omega)⟩) (fun x hx => ⟨by (have := Z1.out; have := Z2.out; have := Z3.out; have := hx.1; omega), hx.2⟩) (fun x hx hy => by (have := hx.2; have := hy.1; omega))
    have a1 : Owns n w3 (Rg (w1.heap.size) (w3.heap.size)) [.l 7, .l 2] [.l l6, .l l7] [.slice B6 l6.length e6, .slice B7 l7.length e7] := Owns.cons U2_3.out a2 (fun x hx => ⟨hx.1, by (have := Z1.out; have := Z2.out; have := Z3.out; have := hx.2; omega)⟩) (fun x hx => ⟨by (have := Z1.out; have := Z2.out; have := Z3.out; have := hx.1; omega), hx.2⟩) (fun x hx hy => by (have := hx.2; have := hy.1; omega))
    have a0 : Owns n w3 (Rg (w.heap.size + 1 + 1 + 1) (w3.heap.size)) [.l 0, .s, .s, .i, .i, .s, .l 7, .l 2] [.l l0, .s s1, .s s2, .i x3, .i x4, .s s5, .l l6, .l l7] [.slice B0 l0.length e0, .string s1, .string s2, .int .i64 x3, .int .i64 x4, .string s5, .slice B6 l6.length e6, .slice B7 l7.length e7] := Owns.app (fun x hx => ⟨hx.1, by (have := Z1.out; have := Z2.out; have := Z3.out; have := hx.2; omega)⟩) (fun x hx => ⟨by (have := Z1.out; have := Z2.out; have := Z3.out; have := hx.1; omega), hx.2⟩) (fun x hx hy => by (have := hx.2; have := hy.1; omega)) a1 U1_3.out
    exact a0
  · repeat (with_reducible refine Below.setCell ?_ (by simp <;> omega) _)
    exact E3.out
theorem toThing_all (n : Nat) : ToThing n := toThing_of (toAddr_all n) (toAddrS_all n) (toPairS_all n)
theorem make_ThingS (n : Nat) (hn : n ≤ 1048576) (w : World) : ∃ cs : Array Value, cs.size = n * 8 ∧ (Instr.makeSlice 32 (.int .i64 n) (.int .i64 n)).run Tryz.prog w = .ok (.slice (some ⟨w.heap.size, 0, none⟩) n n) (w.alloc (.cells cs 41)) := by
  obtain ⟨i, hi, hz0, hz1, hz2⟩ := info_parts (show (Tryz.prog.info? 41).map (fun i => (i.zero, i.size, i.bytes)) = some (some (.agg #[.slice none 0 0, .string ByteArray.empty, .string ByteArray.empty, .int .i64 0, .int .i64 0, .string ByteArray.empty, .slice none 0 0, .slice none 0 0]), 8, 136) by kernel_rfl)
  have h := run_make (P := Tryz.prog) w 32 41 i _ Tryz.underlying32 hi hz0 .i64 .i64 n n (by omega) (by omega) (by rw [hz2]; omega) (by omega)
  refine ⟨_, ?_, h⟩
  simp [madeCells, hz1]
set_option maxHeartbeats 2000000 in
theorem toThingS_of {n : Nat} (K : ∀ m, m < n → ToThing m) : ToThingS n := fun B d v w h hc => by
  obtain ⟨xs, A, c, rfl, rfl, hl⟩ := h.lst
  have H := Lib.hid h
  have HC : Hid (xs.length + cL xs ≤ 1048576) := by (simp only [cC] at hc; exact hc)
  have hl2 : xs.length ≤ 1048576 := by have := HC.out; omega
  unfold maxLen at hl
  have HK := Lib.hid K
  obtain ⟨cs, hcs, hmk⟩ := make_ThingS xs.length hl2 w
  have HT : Hid ((w.alloc (.cells cs 41)).there w.heap.size 0 (xs.length * 8)) := blk_there (Blk.new w _ _) (by omega)
  clear h hc hcs K
  go_enter Tryz.func7, Tryz.ntmps7
  go_wp2
  clear hmk
  go_loopw [4] (fun i wr => ∃ k : Nat, k ≤ xs.length ∧ i = .int .i64 k ∧ Own n wr (Rg w.heap.size wr.heap.size) (.l 8) (.l (xs.take k)) (.slice (some ⟨w.heap.size, 0, none⟩) k xs.length) ∧ wr.there w.heap.size 0 (xs.length * 8) ∧ w.heap.size < wr.heap.size ∧ Below w.heap.size w wr) (fun i _ => xs.length - (intOf i).toNat)
  case atStart => exact ⟨0, Nat.zero_le _, rfl, by rw [List.take_zero]; exact Own.mkN, HT.out, by simp, below_a1 _ _⟩
  case round =>
    clear HT
    obtain ⟨k, hk, rfl, ho, ht, hz, hb⟩ := hrel
    have HO := Lib.hid ho
    have HT := Lib.hid ht
    have HB := Lib.hid hb
    clear ho ht hb
    by_cases hlt : k < xs.length
    · obtain ⟨m, b, o, us, hm, rfl, _, hbl, hr, hin⟩ := (H.out.below HB.out).item k hlt
      subst hm
      have HS := Lib.hid (cL_at hlt)
      have HTK : Hid (xs.take (k + 1) = xs.take k ++ [xs[k]]) := List.take_succ_eq_append_getElem hlt
      have hkl : (xs.take k).length = k := by simp; omega
      have HKL := Lib.hid hkl
      clear hkl
      have hus := hin.len.2
      have HR := Lib.hid hr
      have HIN := Lib.hid hin
      clear hr hin
      go_wp2_with (refine wpList_load_mid rfl 29 (.tmp 18) rfl b (o + k * 8) rfl us _ HR.out Tryz.underlying29 rfl (by rw [hus]; kernel_rfl) ?_)
      go_wp2_with fail
      refine (HK.out m (by omega) B xs[k] us _ HIN.out (by have := HS.out; have := HC.out; omega)).mono ?_
      rintro _ w2 ⟨ws, rfl, hown, hb⟩
      have HO2 := Lib.hid (HO.out.below hb)
      have HT2 := Lib.hid (there_same HT.out (hb.block _ hz))
      have E2 := Lib.hid (below_then HB.out hb (Nat.le_refl _))
      have HN := Lib.hid hown
      have hz2 : wr.heap.size ≤ w2.heap.size := hb.size
      have hws : ws.length = 8 := hown.2.1
      have H1 := Lib.hid hown.cells.ones
      have HTT : Hid (w2.there w.heap.size (k * 8) 8) := by (intro q hq; have := HT2.out (k * 8 + q) (by omega); rwa [Nat.zero_add] at this)
      have HWS := Lib.hid hws
      clear hb hown HO HT hws
      have hws2 : ws.toArray.size = 8 := by simpa using HWS.out
      have HW2 := Lib.hid hws2
      clear hws2
      go_wp2_with (refine wpList_store_mid rfl 41 (.tmp 21) (.tmp 20) rfl w.heap.size (k * 8) ws.toArray rfl rfl (by rw [HW2.out]; exact HTT.out) (by rw [HW2.out]; kernel_rfl) H1.out ?_)
      go_wp2
      go_roundw
      case rel =>
        show ∃ _, _
        refine ⟨k + 1, hlt, by go_num, ?_, ?_, ?_, ?_⟩
        · have h0 := Own.snoc (X := xs.take k) (ds := xs[k]) (us := ws) (F := Rg w.heap.size wr.heap.size) (F2 := Rg wr.heap.size w2.heap.size) (b := w.heap.size) (o := 0) (e := 8) (n := m) (cap := xs.length) (by rw [HKL.out]; exact HO2.out) ⟨Nat.le_refl _, hz⟩ (by omega) (by rw [HKL.out]; unfold maxLen; omega) (by rw [HKL.out]; intro q hq; exact HT2.out q (Nat.lt_of_lt_of_le hq (Nat.mul_le_mul_right 8 hlt))) HN.out (fun x hx hy => by (have := hx.2; have := hy.1; omega))
          rw [HKL.out, Nat.zero_add] at h0
          rw [HTK.out]
          refine Own.mono (w := w2.setCells w.heap.size (k * 8) ws) (by first | exact h0 | simpa [sh, World.setCells] using h0) (fun x hx => ?_)
          rcases hx with hx | hx
          · exact ⟨hx.1, by (have := hx.2; (try simp only [size_cells, World.size_setCell]); omega)⟩
          · exact ⟨by (have := hx.1; omega), by (have := hx.2; (try simp only [size_cells, World.size_setCell]); omega)⟩
        · exact World.there_setCells HT2.out _ _ _
        · (show _ < (w2.setCells w.heap.size (k * 8) ws).heap.size); rw [size_cells]; omega
        · exact Below.cells (Nat.le_refl _) _ _ E2.out
      case measure => simp [intOf]; omega
    · obtain rfl : k = xs.length := by omega
      have HO3 : Hid (Own n wr (Rg w.heap.size wr.heap.size) (.l 8) (.l xs) (.slice (some ⟨w.heap.size, 0, none⟩) xs.length xs.length)) := by (have := HO.out; rw [List.take_length] at this; exact this)
      clear HO
      go_wp2
      go_ret
      exact ⟨_, rfl, HO3.out, HB.out⟩
theorem toThingS_all (n : Nat) : ToThingS n := toThingS_of (fun m _ => toThing_all m)
end Go.Proofs.YtflfnekaiaplfaaGreat.un
