/- The laws' own helpers: data copied in; the copy owns its memory. -/
import Derived.Test.YtflfnekaiaplfaaUo
import Derived.Test.YtflfnekaiaplfaaUe
import Derived.Deep.RegionHeld3
namespace Go.Proofs.Ytflfnekaiaplfaa.un
open mem
open Go.ChangeShapes Go.WideShapes Go.ChangeAt Go.RowKit Go.Lib
set_option linter.unusedVariables false
set_option maxRecDepth 8000
set_option linter.unusedSimpArgs false

/-- a new struct, a new cell: it owns its memory. -/
def NewS (n : Nat) (ks : List CK) (ds : List DC) (w : World) (e : Ending) (w' : World) : Prop := ∃ us, e = .returned (.agg us.toArray) ∧ Owns n w' (Rg w.heap.size w'.heap.size) ks ds us ∧ Below w.heap.size w w'
def NewC (n : Nat) (k : CK) (d : DC) (w : World) (e : Ending) (w' : World) : Prop := ∃ u, e = .returned u ∧ Own n w' (Rg w.heap.size w'.heap.size) k d u ∧ Below w.heap.size w w'
theorem Cell.one {B : Nat → Prop} {n : Nat} {w : World} {k : CK} {d : DC} {v : Value} (h : Cell B n w k d v) : v.oneCell' = true := by
  cases k with
  | i => obtain ⟨x, _, rfl, _⟩ := h.int; rfl
  | s => obtain ⟨x, _, rfl, _⟩ := h.str; rfl
  | l e => obtain ⟨xs, A, c, _, rfl, _⟩ := h.lst; rfl
theorem _root_.Go.Proofs.Ytflfnekaiaplfaa.un.All3.ones {B : Nat → Prop} {n : Nat} {w : World} : ∀ {ks : List CK} {ds : List DC} {vs : List Value}, Cells B n w ks ds vs → vs.toArray.all (·.oneCell') = true
  | [], [], [], _ => by simp
  | k :: ks, d :: ds, v :: vs, h => by
    have h1 := Cell.one h.1
    have h2 := All3.ones h.2
    simp at h2 ⊢
    exact ⟨h1, h2⟩
  | [], [], _ :: _, hh => hh.elim
  | [], _ :: _, _, hh => hh.elim
  | _ :: _, [], _, hh => hh.elim
  | _ :: _, _ :: _, [], hh => hh.elim
theorem seg_12_1_3 {w : World} {g : Nat} {T : TypeId} {c0 c1 c2 c3 c4 c5 c6 c7 c8 c9 c10 c11 : Value} (h : Blk w g T #[c0, c1, c2, c3, c4, c5, c6, c7, c8, c9, c10, c11]) (a1 a2 a3 : Value) : Blk (((w.setCell ⟨g, 1, none⟩ a1).setCell ⟨g, 2, none⟩ a2).setCell ⟨g, 3, none⟩ a3) g T #[c0, a1, a2, a3, c4, c5, c6, c7, c8, c9, c10, c11] := by
  have := (Blk.put (Blk.put (Blk.put h 1 a1) 2 a2) 3 a3)
  simpa using this
theorem seg_12_4_10 {w : World} {g : Nat} {T : TypeId} {c0 c1 c2 c3 c4 c5 c6 c7 c8 c9 c10 c11 : Value} (h : Blk w g T #[c0, c1, c2, c3, c4, c5, c6, c7, c8, c9, c10, c11]) (a4 a5 a6 a7 a8 a9 a10 : Value) : Blk (((((((w.setCell ⟨g, 4, none⟩ a4).setCell ⟨g, 5, none⟩ a5).setCell ⟨g, 6, none⟩ a6).setCell ⟨g, 7, none⟩ a7).setCell ⟨g, 8, none⟩ a8).setCell ⟨g, 9, none⟩ a9).setCell ⟨g, 10, none⟩ a10) g T #[c0, c1, c2, c3, a4, a5, a6, a7, a8, a9, a10, c11] := by
  have := (Blk.put (Blk.put (Blk.put (Blk.put (Blk.put (Blk.put (Blk.put h 4 a4) 5 a5) 6 a6) 7 a7) 8 a8) 9 a9) 10 a10)
  simpa using this
theorem seg_9_0_6 {w : World} {g : Nat} {T : TypeId} {c0 c1 c2 c3 c4 c5 c6 c7 c8 : Value} (h : Blk w g T #[c0, c1, c2, c3, c4, c5, c6, c7, c8]) (a0 a1 a2 a3 a4 a5 a6 : Value) : Blk (((((((w.setCell ⟨g, 0, none⟩ a0).setCell ⟨g, 1, none⟩ a1).setCell ⟨g, 2, none⟩ a2).setCell ⟨g, 3, none⟩ a3).setCell ⟨g, 4, none⟩ a4).setCell ⟨g, 5, none⟩ a5).setCell ⟨g, 6, none⟩ a6) g T #[a0, a1, a2, a3, a4, a5, a6, c7, c8] := by
  have := (Blk.put (Blk.put (Blk.put (Blk.put (Blk.put (Blk.put (Blk.put h 0 a0) 1 a1) 2 a2) 3 a3) 4 a4) 5 a5) 6 a6)
  simpa using this
theorem seg_9_7_7 {w : World} {g : Nat} {T : TypeId} {c0 c1 c2 c3 c4 c5 c6 c7 c8 : Value} (h : Blk w g T #[c0, c1, c2, c3, c4, c5, c6, c7, c8]) (a7 : Value) : Blk (w.setCell ⟨g, 7, none⟩ a7) g T #[c0, c1, c2, c3, c4, c5, c6, a7, c8] := by
  have := (Blk.put h 7 a7)
  simpa using this
theorem seg_13_1_6 {w : World} {g : Nat} {T : TypeId} {c0 c1 c2 c3 c4 c5 c6 c7 c8 c9 c10 c11 c12 : Value} (h : Blk w g T #[c0, c1, c2, c3, c4, c5, c6, c7, c8, c9, c10, c11, c12]) (a1 a2 a3 a4 a5 a6 : Value) : Blk ((((((w.setCell ⟨g, 1, none⟩ a1).setCell ⟨g, 2, none⟩ a2).setCell ⟨g, 3, none⟩ a3).setCell ⟨g, 4, none⟩ a4).setCell ⟨g, 5, none⟩ a5).setCell ⟨g, 6, none⟩ a6) g T #[c0, a1, a2, a3, a4, a5, a6, c7, c8, c9, c10, c11, c12] := by
  have := (Blk.put (Blk.put (Blk.put (Blk.put (Blk.put (Blk.put h 1 a1) 2 a2) 3 a3) 4 a4) 5 a5) 6 a6)
  simpa using this
theorem seg_2_0_0 {w : World} {g : Nat} {T : TypeId} {c0 c1 : Value} (h : Blk w g T #[c0, c1]) (a0 : Value) : Blk (w.setCell ⟨g, 0, none⟩ a0) g T #[a0, c1] := by
  have := (Blk.put h 0 a0)
  simpa using this
theorem seg_8_0_5 {w : World} {g : Nat} {T : TypeId} {c0 c1 c2 c3 c4 c5 c6 c7 : Value} (h : Blk w g T #[c0, c1, c2, c3, c4, c5, c6, c7]) (a0 a1 a2 a3 a4 a5 : Value) : Blk ((((((w.setCell ⟨g, 0, none⟩ a0).setCell ⟨g, 1, none⟩ a1).setCell ⟨g, 2, none⟩ a2).setCell ⟨g, 3, none⟩ a3).setCell ⟨g, 4, none⟩ a4).setCell ⟨g, 5, none⟩ a5) g T #[a0, a1, a2, a3, a4, a5, c6, c7] := by
  have := (Blk.put (Blk.put (Blk.put (Blk.put (Blk.put (Blk.put h 0 a0) 1 a1) 2 a2) 3 a3) 4 a4) 5 a5)
  simpa using this
theorem seg_8_6_6 {w : World} {g : Nat} {T : TypeId} {c0 c1 c2 c3 c4 c5 c6 c7 : Value} (h : Blk w g T #[c0, c1, c2, c3, c4, c5, c6, c7]) (a6 : Value) : Blk (w.setCell ⟨g, 6, none⟩ a6) g T #[c0, c1, c2, c3, c4, c5, a6, c7] := by
  have := (Blk.put h 6 a6)
  simpa using this
theorem seg_4_0_0 {w : World} {g : Nat} {T : TypeId} {c0 c1 c2 c3 : Value} (h : Blk w g T #[c0, c1, c2, c3]) (a0 : Value) : Blk (w.setCell ⟨g, 0, none⟩ a0) g T #[a0, c1, c2, c3] := by
  have := (Blk.put h 0 a0)
  simpa using this
theorem seg_4_1_1 {w : World} {g : Nat} {T : TypeId} {c0 c1 c2 c3 : Value} (h : Blk w g T #[c0, c1, c2, c3]) (a1 : Value) : Blk (w.setCell ⟨g, 1, none⟩ a1) g T #[c0, a1, c2, c3] := by
  have := (Blk.put h 1 a1)
  simpa using this
theorem seg_5_3_3 {w : World} {g : Nat} {T : TypeId} {c0 c1 c2 c3 c4 : Value} (h : Blk w g T #[c0, c1, c2, c3, c4]) (a3 : Value) : Blk (w.setCell ⟨g, 3, none⟩ a3) g T #[c0, c1, c2, a3, c4] := by
  have := (Blk.put h 3 a3)
  simpa using this
theorem seg_3_0_0 {w : World} {g : Nat} {T : TypeId} {c0 c1 c2 : Value} (h : Blk w g T #[c0, c1, c2]) (a0 : Value) : Blk (w.setCell ⟨g, 0, none⟩ a0) g T #[a0, c1, c2] := by
  have := (Blk.put h 0 a0)
  simpa using this
def ToStringS (n : Nat) : Prop := ∀ (B : Nat → Prop) (d : DC) (v : Value) (w : World), Cell B n w (.l 0) d v → cC d ≤ 1048576 →
    Calls Try.prog 24 #[v] w (NewC n (.l 0) d w)
def ToAddr (n : Nat) : Prop := ∀ (B : Nat → Prop) (ds : List DC) (vs : List Value) (w : World), Cells B n w shAddr_ ds vs → cCs ds ≤ 1048576 →
    Calls Try.prog 9 #[.agg vs.toArray] w (NewS n shAddr_ ds w)
def ToMove (n : Nat) : Prop := ∀ (B : Nat → Prop) (ds : List DC) (vs : List Value) (w : World), Cells B n w shMove_ ds vs → cCs ds ≤ 1048576 →
    Calls Try.prog 8 #[.agg vs.toArray] w (NewS n shMove_ ds w)
theorem make_StringS (n : Nat) (hn : n ≤ 1048576) (w : World) : ∃ cs : Array Value, cs.size = n * 1 ∧ (Instr.makeSlice 22 (.int .i64 n) (.int .i64 n)).run Try.prog w = .ok (.slice (some ⟨w.heap.size, 0, none⟩) n n) (w.alloc (.cells cs 9)) := by
  obtain ⟨i, hi, hz0, hz1, hz2⟩ := info_parts (show (Try.prog.info? 9).map (fun i => (i.zero, i.size, i.bytes)) = some (some (.string ByteArray.empty), 1, 16) by kernel_rfl)
  have h := run_make (P := Try.prog) w 22 9 i _ Try.underlying22 hi hz0 .i64 .i64 n n (by omega) (by omega) (by rw [hz2]; omega) (by omega)
  refine ⟨_, ?_, h⟩
  simp [madeCells, hz1]
set_option maxHeartbeats 2000000 in
theorem toStringS_of {n : Nat} : ToStringS n := fun B d v w h hc => by
  obtain ⟨xs, A, c, rfl, rfl, hl⟩ := h.lst
  have H := Lib.hid h
  have HC : Hid (xs.length + cL xs ≤ 1048576) := by (simp only [cC] at hc; exact hc)
  have hl2 : xs.length ≤ 1048576 := by have := HC.out; omega
  unfold maxLen at hl
  obtain ⟨cs, hcs, hmk⟩ := make_StringS xs.length hl2 w
  have HT : Hid ((w.alloc (.cells cs 9)).there w.heap.size 0 (xs.length * 1)) := blk_there (Blk.new w _ _) (by omega)
  clear h hc hcs
  go_enter Try.func24, Try.ntmps24
  go_wp2
  clear hmk
  go_loopw [4] (fun i wr => ∃ k : Nat, k ≤ xs.length ∧ i = .int .i64 k ∧ Own n wr (Rg w.heap.size wr.heap.size) (.l 0) (.l (xs.take k)) (.slice (some ⟨w.heap.size, 0, none⟩) k xs.length) ∧ wr.there w.heap.size 0 (xs.length * 1) ∧ w.heap.size < wr.heap.size ∧ Below w.heap.size w wr) (fun i _ => xs.length - (intOf i).toNat)
  case atStart => exact ⟨0, Nat.zero_le _, rfl, by rw [List.take_zero]; exact Own.mkN, HT.out, by simp, below_a1 _ _⟩
  case round =>
    clear HT
    obtain ⟨k, hk, rfl, ho, ht, hz, hb⟩ := hrel
    have HO := Lib.hid ho
    have HT := Lib.hid ht
    have HB := Lib.hid hb
    clear ho ht hb
    by_cases hlt : k < xs.length
    · obtain ⟨m, b, o, us, hm, rfl, _, hbl, hr, hin⟩ := (H.out.below HB.out).item k hlt
      subst hm
      have HS := Lib.hid (cL_at hlt)
      have HTK : Hid (xs.take (k + 1) = xs.take k ++ [xs[k]]) := List.take_succ_eq_append_getElem hlt
      have hkl : (xs.take k).length = k := by simp; omega
      have HKL := Lib.hid hkl
      clear hkl
      obtain ⟨d0, ds0, v0, vs0, ed, rfl, h1, h2⟩ := All3.cons hin
      obtain ⟨rfl, rfl⟩ := All3.nil h2
      obtain ⟨s, rfl, rfl, hs⟩ := h1.str
      have hc : wr.cell? ⟨b, o + k, none⟩ = some (.string s) := by have := hr 0 _ rfl; simpa [sh] using this
      have HSZ := Lib.hid hs
      have HED := Lib.hid ed
      have hst := HT.out k (by omega)
      rw [Nat.zero_add] at hst
      obtain ⟨hs1, hf⟩ := hst
      obtain ⟨y, hy⟩ := Option.isSome_iff_exists.1 hs1
      clear hr hin h1 h2 ed hs hs1
      go_wp2
      go_roundw
      case rel =>
        refine ⟨k + 1, hlt, by go_num, ?_, ?_, ?_, ?_⟩
        · have h0 := Own.snoc (X := xs.take k) (ds := [.s s]) (us := [.string s]) (F := Rg w.heap.size wr.heap.size) (F2 := Rg wr.heap.size wr.heap.size) (b := w.heap.size) (o := 0) (e := 0) (n := m) (cap := xs.length) (by rw [HKL.out]; exact HO.out) ⟨Nat.le_refl _, hz⟩ hz (by rw [HKL.out]; unfold maxLen; omega) (by rw [HKL.out]; intro q hq; exact HT.out q (Nat.lt_of_lt_of_le hq (Nat.mul_le_mul_right 1 hlt))) (Owns.s HSZ.out (Owns.nil _ _ _)) (fun x hx hy => by (have := hx.2; have := hy.1; omega))
          rw [HKL.out, Nat.zero_add] at h0
          rw [HTK.out, HED.out]
          refine Own.mono (w := wr.setCell ⟨w.heap.size, k, none⟩ (.string s)) (by first | exact h0 | simpa [sh, World.setCells] using h0) (fun x hx => ?_)
          rcases hx with hx | hx
          · exact ⟨hx.1, by (have := hx.2; (try simp only [size_cells, World.size_setCell]); omega)⟩
          · exact ⟨by (have := hx.1; omega), by (have := hx.2; (try simp only [size_cells, World.size_setCell]); omega)⟩
        · exact there_set HT.out
        · simpa using hz
        · exact HB.out.setCell (p := ⟨w.heap.size, k, none⟩) (Nat.le_refl _) _
      case measure => simp [intOf]; omega
    · obtain rfl : k = xs.length := by omega
      have HO3 : Hid (Own n wr (Rg w.heap.size wr.heap.size) (.l 0) (.l xs) (.slice (some ⟨w.heap.size, 0, none⟩) xs.length xs.length)) := by (have := HO.out; rw [List.take_length] at this; exact this)
      clear HO
      go_wp2
      go_ret
      exact ⟨_, rfl, HO3.out, HB.out⟩
theorem toStringS_all (n : Nat) : ToStringS n := toStringS_of
set_option maxHeartbeats 2000000 in
theorem toAddr_of {n : Nat} (KStringS : ToStringS n) : ToAddr n := fun B ds vs w h hc => by
  obtain ⟨l0, s1, s2, x3, x4, s5, A0, c0, rfl, rfl, k0, k1, k2, k3, k4, k5⟩ := open_Addr h
  have H0 := Lib.hid k0
  have H1 := Lib.hid k1
  have H2 := Lib.hid k2
  have H3 := Lib.hid k3
  have H4 := Lib.hid k4
  have H5 := Lib.hid k5
  have HKStringS := Lib.hid KStringS
  have HC := Lib.hid hc
  clear h hc k0 k1 k2 k3 k4 k5 KStringS
  go_enter Try.func9, Try.ntmps9
  go_wp2_with fail
  refine (HKStringS.out B (.l l0) (.slice A0 l0.length c0) _ (H0.out.below (below_a3 _ _ _ _)) (by have := HC.out; simp only [cCs, cC] at this ⊢; omega)).mono ?_
  rintro _ w1 ⟨u, rfl, hown, hb⟩
  obtain ⟨_, B0, e0, el, rfl, _⟩ := hown.cell.lst
  injection el with el
  subst el
  have Z1 : Hid (w.heap.size + 1 + 1 + 1 ≤ w1.heap.size) := by (have hz := hb.size; (try simp at hz); show _ ≤ _; omega)
  have E1 := Lib.hid (below_then (below_a3 _ _ _ _) hb (Nat.le_refl _))
  have P1 := Lib.hid (((Blk.new w _ _).alloc _ |>.alloc _).step hb)
  have R1 := Lib.hid ((((Blk.new1 w _ _ _).alloc _)).step hb)
  have O1 := Lib.hid ((Blk.new2 w _ _ _ _).step hb)
  have U1_1 : Hid (Own n w1 (Rg (w.heap.size + 1 + 1 + 1) w1.heap.size) _ _ _) := hown.mono (fun x hx => ⟨by (have h1 := hx.1; (try simp at h1); omega), hx.2⟩)
  have p1 := P1.out.cell
  have r1 := R1.out.cell
  have o1 := O1.out.cell
  have f1 := O1.out.free
  have g1 := R1.out.free
  have z1 : w.heap.size + 1 + 1 < w1.heap.size := O1.out.lt
  clear hb hown
  go_wp2
  refine bodyPost_ret (v := .agg #[.slice B0 l0.length e0, .string s1, .string s2, .int .i64 x3, .int .i64 x4, .string s5]) (by simp [results, Try.results9, go_sem, o1, f1, r1, g1, z1]) rfl ⟨[.slice B0 l0.length e0, .string s1, .string s2, .int .i64 x3, .int .i64 x4, .string s5], rfl, ?_, ?_⟩
  · refine Owns.monoF (F := Rg (w.heap.size + 1 + 1 + 1) (w1.heap.size)) ?_ (fun x hx => ⟨by (have := hx.1; omega), by (have := hx.2; (try simp); omega)⟩)
    refine Owns.agree (w := w1) ?_ (by (have := Z1.out; repeat (with_reducible refine Agree.set ?_ (Rg.lo (by simp <;> omega)) _)); exact Agree.refl _ _)
    have a6 : Owns n w1 (Rg (w1.heap.size) (w1.heap.size)) [] [] [] := Owns.nil _ _ _
    have a5 : Owns n w1 (Rg (w1.heap.size) (w1.heap.size)) [.s] [.s s5] [.string s5] := Owns.s H5.out a6
    have a4 : Owns n w1 (Rg (w1.heap.size) (w1.heap.size)) [.i, .s] [.i x4, .s s5] [.int .i64 x4, .string s5] := Owns.i H4.out a5
    have a3 : Owns n w1 (Rg (w1.heap.size) (w1.heap.size)) [.i, .i, .s] [.i x3, .i x4, .s s5] [.int .i64 x3, .int .i64 x4, .string s5] := Owns.i H3.out a4
    have a2 : Owns n w1 (Rg (w1.heap.size) (w1.heap.size)) [.s, .i, .i, .s] [.s s2, .i x3, .i x4, .s s5] [.string s2, .int .i64 x3, .int .i64 x4, .string s5] := Owns.s H2.out a3
    have a1 : Owns n w1 (Rg (w1.heap.size) (w1.heap.size)) [.s, .s, .i, .i, .s] [.s s1, .s s2, .i x3, .i x4, .s s5] [.string s1, .string s2, .int .i64 x3, .int .i64 x4, .string s5] := Owns.s H1.out a2
    have a0 : Owns n w1 (Rg (w.heap.size + 1 + 1 + 1) (w1.heap.size)) [.l 0, .s, .s, .i, .i, .s] [.l l0, .s s1, .s s2, .i x3, .i x4, .s s5] [.slice B0 l0.length e0, .string s1, .string s2, .int .i64 x3, .int .i64 x4, .string s5] := Owns.cons U1_1.out a1 (fun x hx => ⟨hx.1, by (have := Z1.out; have := hx.2; omega)⟩) (fun x hx => ⟨by (have := Z1.out; have := hx.1; omega), hx.2⟩) (fun x hx hy => by (have := hx.2; have := hy.1; omega))
    exact a0
  · repeat (with_reducible refine Below.setCell ?_ (by simp <;> omega) _)
    exact E1.out
theorem toAddr_all (n : Nat) : ToAddr n := toAddr_of (toStringS_all n)
set_option maxHeartbeats 2000000 in
theorem toMove_of {n : Nat} (KAddr : ToAddr n) : ToMove n := fun B ds vs w h hc => by
  obtain ⟨x0, l1, s2, s3, x4, x5, s6, l7, s8, s9, x10, x11, s12, A1, c1, A7, c7, rfl, rfl, k0, k1, k2, k3, k4, k5, k6, k7, k8, k9, k10, k11, k12⟩ := open_Move h
  have H0 := Lib.hid k0
  have H1 := Lib.hid k1
  have H2 := Lib.hid k2
  have H3 := Lib.hid k3
  have H4 := Lib.hid k4
  have H5 := Lib.hid k5
  have H6 := Lib.hid k6
  have H7 := Lib.hid k7
  have H8 := Lib.hid k8
  have H9 := Lib.hid k9
  have H10 := Lib.hid k10
  have H11 := Lib.hid k11
  have H12 := Lib.hid k12
  have HKAddr := Lib.hid KAddr
  have HC := Lib.hid hc
  clear h hc k0 k1 k2 k3 k4 k5 k6 k7 k8 k9 k10 k11 k12 KAddr
  go_enter Try.func8, Try.ntmps8
  go_wp2_with fail
  refine (HKAddr.out B [.l l1, .s s2, .s s3, .i x4, .i x5, .s s6] [.slice A1 l1.length c1, .string s2, .string s3, .int .i64 x4, .int .i64 x5, .string s6] _ ⟨H1.out.below (below_a3 _ _ _ _), Cell.mkS H2.out, Cell.mkS H3.out, Cell.mkI H4.out, Cell.mkI H5.out, Cell.mkS H6.out, trivial⟩ (by have := HC.out; simp only [cCs, cC] at this ⊢; omega)).mono ?_
  rintro _ w1 ⟨us, rfl, hown, hb⟩
  obtain ⟨B1, e1, rfl, _, _, _, _, _, _⟩ := openv_Addr hown.cells
  have Z1 : Hid (w.heap.size + 1 + 1 + 1 ≤ w1.heap.size) := by (have hz := hb.size; (try simp at hz); show _ ≤ _; omega)
  have E1 := Lib.hid (below_then (below_a3 _ _ _ _) hb (Nat.le_refl _))
  have P1 := Lib.hid (((Blk.new w _ _).alloc _ |>.alloc _).step hb)
  have R1 := Lib.hid ((((Blk.new1 w _ _ _).alloc _)).step hb)
  have O1 := Lib.hid ((Blk.new2 w _ _ _ _).step hb)
  have U1_1 : Hid (Owns n w1 (Rg (w.heap.size + 1 + 1 + 1) w1.heap.size) _ _ _) := hown.monoF (fun x hx => ⟨by (have h1 := hx.1; (try simp at h1); omega), hx.2⟩)
  have p1 := P1.out.cell
  have r1 := R1.out.cell
  have o1 := O1.out.cell
  have f1 := O1.out.free
  have g1 := R1.out.free
  have z1 : w.heap.size + 1 + 1 < w1.heap.size := O1.out.lt
  clear hb hown
  go_wp2_with fail
  refine (HKAddr.out B [.l l7, .s s8, .s s9, .i x10, .i x11, .s s12] [.slice A7 l7.length c7, .string s8, .string s9, .int .i64 x10, .int .i64 x11, .string s12] _ ⟨H7.out.below (Below.setCell (Below.setCell (Below.setCell (Below.setCell (Below.setCell (Below.setCell E1.out (p := ⟨w.heap.size + 1 + 1, 1, none⟩) (by show _ ≤ w.heap.size + 1 + 1; omega) _) (p := ⟨w.heap.size + 1 + 1, 2, none⟩) (by show _ ≤ w.heap.size + 1 + 1; omega) _) (p := ⟨w.heap.size + 1 + 1, 3, none⟩) (by show _ ≤ w.heap.size + 1 + 1; omega) _) (p := ⟨w.heap.size + 1 + 1, 4, none⟩) (by show _ ≤ w.heap.size + 1 + 1; omega) _) (p := ⟨w.heap.size + 1 + 1, 5, none⟩) (by show _ ≤ w.heap.size + 1 + 1; omega) _) (p := ⟨w.heap.size + 1 + 1, 6, none⟩) (by show _ ≤ w.heap.size + 1 + 1; omega) _), Cell.mkS H8.out, Cell.mkS H9.out, Cell.mkI H10.out, Cell.mkI H11.out, Cell.mkS H12.out, trivial⟩ (by have := HC.out; simp only [cCs, cC] at this ⊢; omega)).mono ?_
  rintro _ w2 ⟨us, rfl, hown, hb⟩
  obtain ⟨B7, e7, rfl, _, _, _, _, _, _⟩ := openv_Addr hown.cells
  have Z2 : Hid (w1.heap.size ≤ w2.heap.size) := by (have hz := hb.size; (try simp at hz); show _ ≤ _; omega)
  have E2 := Lib.hid (below_then (Below.setCell (Below.setCell (Below.setCell (Below.setCell (Below.setCell (Below.setCell E1.out (p := ⟨w.heap.size + 1 + 1, 1, none⟩) (by show _ ≤ w.heap.size + 1 + 1; omega) _) (p := ⟨w.heap.size + 1 + 1, 2, none⟩) (by show _ ≤ w.heap.size + 1 + 1; omega) _) (p := ⟨w.heap.size + 1 + 1, 3, none⟩) (by show _ ≤ w.heap.size + 1 + 1; omega) _) (p := ⟨w.heap.size + 1 + 1, 4, none⟩) (by show _ ≤ w.heap.size + 1 + 1; omega) _) (p := ⟨w.heap.size + 1 + 1, 5, none⟩) (by show _ ≤ w.heap.size + 1 + 1; omega) _) (p := ⟨w.heap.size + 1 + 1, 6, none⟩) (by show _ ≤ w.heap.size + 1 + 1; omega) _) hb (Nat.le_refl _))
  have P2 := Lib.hid (Blk.step (Blk.far (Blk.far (Blk.far (Blk.far (Blk.far (Blk.far P1.out (p := ⟨w.heap.size + 1 + 1, 1, none⟩) (by show _ ≠ w.heap.size + 1 + 1; omega) _) (p := ⟨w.heap.size + 1 + 1, 2, none⟩) (by show _ ≠ w.heap.size + 1 + 1; omega) _) (p := ⟨w.heap.size + 1 + 1, 3, none⟩) (by show _ ≠ w.heap.size + 1 + 1; omega) _) (p := ⟨w.heap.size + 1 + 1, 4, none⟩) (by show _ ≠ w.heap.size + 1 + 1; omega) _) (p := ⟨w.heap.size + 1 + 1, 5, none⟩) (by show _ ≠ w.heap.size + 1 + 1; omega) _) (p := ⟨w.heap.size + 1 + 1, 6, none⟩) (by show _ ≠ w.heap.size + 1 + 1; omega) _) hb)
  have R2 := Lib.hid (Blk.step (Blk.far (Blk.far (Blk.far (Blk.far (Blk.far (Blk.far R1.out (p := ⟨w.heap.size + 1 + 1, 1, none⟩) (by show _ ≠ w.heap.size + 1 + 1; omega) _) (p := ⟨w.heap.size + 1 + 1, 2, none⟩) (by show _ ≠ w.heap.size + 1 + 1; omega) _) (p := ⟨w.heap.size + 1 + 1, 3, none⟩) (by show _ ≠ w.heap.size + 1 + 1; omega) _) (p := ⟨w.heap.size + 1 + 1, 4, none⟩) (by show _ ≠ w.heap.size + 1 + 1; omega) _) (p := ⟨w.heap.size + 1 + 1, 5, none⟩) (by show _ ≠ w.heap.size + 1 + 1; omega) _) (p := ⟨w.heap.size + 1 + 1, 6, none⟩) (by show _ ≠ w.heap.size + 1 + 1; omega) _) hb)
  have O2 := Lib.hid (Blk.step (seg_13_1_6 O1.out _ _ _ _ _ _) hb)
  have U1_2 := Lib.hid ((U1_1.out.agree (Agree.set (Agree.set (Agree.set (Agree.set (Agree.set (Agree.set (Agree.refl _ _) (p := ⟨w.heap.size + 1 + 1, 1, none⟩) (Rg.lo (by have := Z1.out; have := Z2.out; show w.heap.size + 1 + 1 < _; omega)) _) (p := ⟨w.heap.size + 1 + 1, 2, none⟩) (Rg.lo (by have := Z1.out; have := Z2.out; show w.heap.size + 1 + 1 < _; omega)) _) (p := ⟨w.heap.size + 1 + 1, 3, none⟩) (Rg.lo (by have := Z1.out; have := Z2.out; show w.heap.size + 1 + 1 < _; omega)) _) (p := ⟨w.heap.size + 1 + 1, 4, none⟩) (Rg.lo (by have := Z1.out; have := Z2.out; show w.heap.size + 1 + 1 < _; omega)) _) (p := ⟨w.heap.size + 1 + 1, 5, none⟩) (Rg.lo (by have := Z1.out; have := Z2.out; show w.heap.size + 1 + 1 < _; omega)) _) (p := ⟨w.heap.size + 1 + 1, 6, none⟩) (Rg.lo (by have := Z1.out; have := Z2.out; show w.heap.size + 1 + 1 < _; omega)) _)).below hb)
  have U2_2 : Hid (Owns n w2 (Rg (w1.heap.size) w2.heap.size) _ _ _) := hown.monoF (fun x hx => ⟨by (have h1 := hx.1; (try simp at h1); omega), hx.2⟩)
  have p2 := P2.out.cell
  have r2 := R2.out.cell
  have o2 := O2.out.cell
  have f2 := O2.out.free
  have g2 := R2.out.free
  have z2 : w.heap.size + 1 + 1 < w2.heap.size := O2.out.lt
  clear hb hown p1 r1 o1 f1 g1 z1 P1 R1 O1 U1_1
  go_wp2
  refine bodyPost_ret (v := .agg #[.int .i64 x0, .slice B1 l1.length e1, .string s2, .string s3, .int .i64 x4, .int .i64 x5, .string s6, .slice B7 l7.length e7, .string s8, .string s9, .int .i64 x10, .int .i64 x11, .string s12]) (by simp [results, Try.results8, go_sem, o2, f2, r2, g2, z2]) rfl ⟨[.int .i64 x0, .slice B1 l1.length e1, .string s2, .string s3, .int .i64 x4, .int .i64 x5, .string s6, .slice B7 l7.length e7, .string s8, .string s9, .int .i64 x10, .int .i64 x11, .string s12], rfl, ?_, ?_⟩
  · refine Owns.monoF (F := Rg (w.heap.size + 1 + 1 + 1) (w2.heap.size)) ?_ (fun x hx => ⟨by (have := hx.1; omega), by (have := hx.2; (try simp); omega)⟩)
    refine Owns.agree (w := w2) ?_ (by (have := Z1.out; have := Z2.out; repeat (with_reducible refine Agree.set ?_ (Rg.lo (by simp <;> omega)) _)); exact Agree.refl _ _)
    have a3 : Owns n w2 (Rg (w2.heap.size) (w2.heap.size)) [] [] [] := Owns.nil _ _ _
    have a2 : Owns n w2 (Rg (w1.heap.size) (w2.heap.size)) [.l 0, .s, .s, .i, .i, .s] [.l l7, .s s8, .s s9, .i x10, .i x11, .s s12] [.slice B7 l7.length e7, .string s8, .string s9, .int .i64 x10, .int .i64 x11, .string s12] := Owns.app (fun x hx => ⟨hx.1, by (have := Z1.out; have := Z2.out; have := hx.2; omega)⟩) (fun x hx => ⟨by (have := Z1.out; have := Z2.out; have := hx.1; omega), hx.2⟩) (fun x hx hy => by (have := hx.2; have := hy.1; omega)) a3 U2_2.out
    have a1 : Owns n w2 (Rg (w.heap.size + 1 + 1 + 1) (w2.heap.size)) [.l 0, .s, .s, .i, .i, .s, .l 0, .s, .s, .i, .i, .s] [.l l1, .s s2, .s s3, .i x4, .i x5, .s s6, .l l7, .s s8, .s s9, .i x10, .i x11, .s s12] [.slice B1 l1.length e1, .string s2, .string s3, .int .i64 x4, .int .i64 x5, .string s6, .slice B7 l7.length e7, .string s8, .string s9, .int .i64 x10, .int .i64 x11, .string s12] := Owns.app (fun x hx => ⟨hx.1, by (have := Z1.out; have := Z2.out; have := hx.2; omega)⟩) (fun x hx => ⟨by (have := Z1.out; have := Z2.out; have := hx.1; omega), hx.2⟩) (fun x hx hy => by (have := hx.2; have := hy.1; omega)) a2 U1_2.out
    have a0 : Owns n w2 (Rg (w.heap.size + 1 + 1 + 1) (w2.heap.size)) [.i, .l 0, .s, .s, .i, .i, .s, .l 0, .s, .s, .i, .i, .s] [.i x0, .l l1, .s s2, .s s3, .i x4, .i x5, .s s6, .l l7, .s s8, .s s9, .i x10, .i x11, .s s12] [.int .i64 x0, .slice B1 l1.length e1, .string s2, .string s3, .int .i64 x4, .int .i64 x5, .string s6, .slice B7 l7.length e7, .string s8, .string s9, .int .i64 x10, .int .i64 x11, .string s12] := Owns.i H0.out a1
    exact a0
  · repeat (with_reducible refine Below.setCell ?_ (by simp <;> omega) _)
    exact E2.out
theorem toMove_all (n : Nat) : ToMove n := toMove_of (toAddr_all n)
end Go.Proofs.Ytflfnekaiaplfaa.un
