/- Rehome of the program. -/
import Derived.Test.YtflfnekaiaplfaaBareS
import Derived.Test.YtflfnekaiaplfaaUnd
import Derived.Test.YtflfnekaiaplfaaCat
namespace Go.Proofs.Ytflfnekaiaplfaa.reh
open ad mem own bare
open Go.ChangeShapes Go.WideShapes Go.ChangeAt Go.RowKit Go.Lib
set_option linter.unusedVariables false
set_option linter.unusedSimpArgs false

/-- an address of the call's own, with a code. -/
def MadeO (w : World) (d : AddrD) (code : Int) (e : Ending) (w' : World) : Prop := ∃ A c, e = .returned (.agg #[.slice A d.path.length c, .string d.typ, .string d.nam, .int .i64 d.kind, .int .i64 d.n, .string d.key, .int .i64 code]) ∧ Own w' w.heap.size (.slice A d.path.length c) d.path ∧ Below w.heap.size w w'
def pathR (d : AddrD) (f t : List ByteArray) : List ByteArray := t ++ d.path.drop f.length
noncomputable def codeR (d : AddrD) (f t : List ByteArray) : Int :=
  if 400 < f.length ∨ 400 < t.length then 2 else if ¬ (addrB d = true ∧ pathB f = true ∧ pathB t = true) then 1 else if cm.pre d.path f ≠ f.length then 6 else if 2 < (pathR d f t).length then 9 else 0
noncomputable def dataR (d : AddrD) (f t : List ByteArray) : AddrD := if codeR d f t = 0 then ⟨pathR d f t, d.typ, d.nam, d.kind, d.n, d.key⟩ else zeroD

theorem Strs_drop {w : World} {b o : Nat} {l : List ByteArray} (h : Strs w (some ⟨b, o, none⟩) l) (k : Nat) : Strs w (some ⟨b, o + k, none⟩) (l.drop k) := fun j hj => by
  have hj' : k + j < l.length := by simp at hj; omega
  obtain ⟨b', o', e, h1, h2, h3⟩ := h (k + j) hj'
  have e2 : b = b' ∧ o = o' := by injection e with e; injection e with e1 e2; exact ⟨e1, e2⟩
  obtain ⟨rfl, rfl⟩ := e2
  refine ⟨b, o + k, rfl, h1, ?_, ?_⟩
  · rw [List.getElem_drop, Nat.add_assoc]; exact h2
  · rw [List.getElem_drop]; exact h3


theorem code_full {d : AddrD} {f t : List ByteArray} (hf : f.length ≤ 2) (ht : t.length ≤ 2) (h1 : addrB d = true) (h2 : pathB f = true) (h3 : pathB t = true) (hu : cm.pre d.path f = f.length) (h : 2 < (pathR d f t).length) : codeR d f t = 9 := by
  unfold codeR; rw [if_neg (by omega), if_neg (by simp [h1, h2, h3]), if_neg (by simp [hu]), if_pos h]
theorem code_ok {d : AddrD} {f t : List ByteArray} (hf : f.length ≤ 2) (ht : t.length ≤ 2) (h1 : addrB d = true) (h2 : pathB f = true) (h3 : pathB t = true) (hu : cm.pre d.path f = f.length) (h : ¬ 2 < (pathR d f t).length) : codeR d f t = 0 := by
  unfold codeR; rw [if_neg (by omega), if_neg (by simp [h1, h2, h3]), if_neg (by simp [hu]), if_neg h]
theorem data_no {d : AddrD} {f t : List ByteArray} (h : codeR d f t ≠ 0) : dataR d f t = zeroD := by unfold dataR; rw [if_neg h]
theorem data_ok {d : AddrD} {f t : List ByteArray} (h : codeR d f t = 0) : dataR d f t = ⟨pathR d f t, d.typ, d.nam, d.kind, d.n, d.key⟩ := by unfold dataR; rw [if_pos h]

theorem concat2 (g c : Nat) (A B : Option Addr) (ca cb nB : Nat) (l m : List ByteArray) (w : World) (hg : Blk w g 22 #[.slice A l.length ca, .slice B nB cb]) (hB : nB = m.length) (hl : Strs w A l) (hm : Strs w B m) (hf : l.length + m.length ≤ 1000000) :
    Calls Try.prog 81 #[.slice (some ⟨g, 0, none⟩) 2 c] w (cat.MadeL w (l ++ m)) := by
  subst hB
  have e : cat.flat [(A, ca, l), (B, cb, m)] = l ++ m := by simp [cat.flat]
  have := cat.concat_any g c [(A, ca, l), (B, cb, m)] w ⟨hg.lt, fun k hk => by
    match k, hk with
    | 0, _ => exact ⟨by rw [hg.cell]; rfl, hl⟩
    | 1, _ => exact ⟨by rw [hg.cell]; rfl, hm⟩⟩ (by simp) (by rw [e, List.length_append]; exact hf)
  rw [e] at this
  exact this

theorem concat2R (g c : Nat) (A B : Option Addr) (ca cb nB : Nat) (d : AddrD) (f t : List ByteArray) (w : World) (hg : Blk w g 22 #[.slice A t.length ca, .slice B nB cb]) (hB : nB = (d.path.drop f.length).length) (hl : Strs w A t) (hm : Strs w B (d.path.drop f.length)) (hf : t.length + (d.path.drop f.length).length ≤ 1000000) :
    Calls Try.prog 81 #[.slice (some ⟨g, 0, none⟩) 2 c] w (cat.MadeL w (pathR d f t)) := concat2 g c A B ca cb nB t (d.path.drop f.length) w hg hB hl hm hf

set_option maxHeartbeats 4000000 in
theorem tail_some (b o : Nat) (c : Nat) (B : Option Addr) (c' : Nat) (C : Option Addr) (c'' : Nat) (d : AddrD) (f t : List ByteArray) (w : World) (h : Strs w (some ⟨b, o, none⟩) d.path) (hf : Strs w B f) (ht : Strs w C t) (hp : d.path.length ≤ 2) (hcap : d.path.length ≤ c) (hc1 : c ≤ maxLen) (hfl : f.length ≤ 2) (htl : t.length ≤ 2)
    (hr : addrB d = true) (hpf : pathB f = true) (hpt : pathB t = true) (hu : cm.pre d.path f = f.length) (z1 : d.typ.size ≤ 8) (z2 : d.nam.size ≤ 8) (z3 : d.key.size ≤ 8) (hw : ∀ s ∈ d.path, s.size ≤ 8) (hw2 : ∀ s ∈ t, s.size ≤ 8) (hle : f.length ≤ d.path.length) (hcond : f.length < c) :
    Calls Try.prog 79 #[.agg #[.slice (some ⟨b, o, none⟩) d.path.length c, .string d.typ, .string d.nam, .int .i64 d.kind, .int .i64 d.n, .string d.key], .slice B f.length c', .slice C t.length c''] w (MadeO w (dataR d f t) (codeR d f t)) := by
  skip
  have H := Lib.hid h
  have HF := Lib.hid hf
  have HT := Lib.hid ht
  have hx1 : (f.length : Int) ≤ 2 := by omega
  have hx2 : (t.length : Int) ≤ 2 := by omega
  have hx3 : (d.path.length : Int) ≤ 2 := by omega
  have hx6 : (f.length : Int) ≤ d.path.length := by omega
  have hx4 : (d.path.length : Int) ≤ c := by omega
  have hx5 : (f.length : Int) < c := by omega
  have hne : ¬ (c = f.length) := by omega
  have KR := Lib.hid (fun W h => hr ▸ adr.right_impl (some ⟨b, o, none⟩) c d W h (by unfold maxLen; omega) (by unfold maxLen; omega) (by unfold maxLen; omega) (by unfold maxLen; omega))
  have KF := Lib.hid (fun W h => hpf ▸ adr.path_impl B c' f W h (by unfold maxLen; omega))
  have KT := Lib.hid (fun W h => hpt ▸ adr.path_impl C c'' t W h (by unfold maxLen; omega))
  have eu : cm.underB d f = true := by simp [cm.underB, hr, hu]
  have KU := Lib.hid (fun W h h' => eu ▸ cm.under_impl (some ⟨b, o, none⟩) B c c' d f W h h' (by unfold maxLen; omega) (by unfold maxLen; omega) (by unfold maxLen; omega) (by unfold maxLen; omega) (by unfold maxLen; omega))
  have HFull := Lib.hid (fun h => code_full (d := d) (f := f) (t := t) hfl htl hr hpf hpt hu h)
  have HOk := Lib.hid (fun h => code_ok (d := d) (f := f) (t := t) hfl htl hr hpf hpt hu h)
  have HSZ : Hid (∀ k (h : k < (pathR d f t).length), (pathR d f t)[k].size ≤ 281474976710656) := by
    intro k hk
    have hm : (pathR d f t)[k] ∈ t ++ d.path.drop f.length := List.getElem_mem hk
    rcases List.mem_append.1 hm with h1 | h1
    · have := hw2 _ h1; omega
    · have := hw _ (List.mem_of_mem_drop h1); omega
  have hlen : (pathR d f t).length = t.length + (d.path.length - f.length) := by simp [pathR]
  have HLEN := Lib.hid hlen
  have hll : (pathR d f t).length ≤ 4 := by omega
  have hlb : t.length + (d.path.drop f.length).length ≤ 1000000 := by simp; omega
  have HLB := Lib.hid hlb
  unfold maxLen at hc1
  clear h hf ht hr hpf hpt hu eu hlen hw hw2 hlb
  go_enter Try.func79, Try.ntmps79
  go_wp2_with fail
  refine (KR.out _ (H.out.below (below_a2 _ _ _))).mono ?_
  rintro _ w1 ⟨rfl, hb⟩
  have E1 := Lib.hid (below_then (below_a2 _ _ _) hb (Nat.le_refl _))
  have Q1 := Lib.hid (((Blk.new w _ _).alloc _).step hb)
  have P1 := Lib.hid ((Blk.new1 w _ _ _).step hb)
  have q1 := Q1.out.cell
  clear hb
  go_wp2_with fail
  refine (KF.out _ (HF.out.below E1.out)).mono ?_
  rintro _ _ ⟨rfl, rfl⟩
  go_wp2_with fail
  refine (KT.out _ (HT.out.below E1.out)).mono ?_
  rintro _ _ ⟨rfl, rfl⟩
  go_wp2_with fail
  refine (KU.out _ (H.out.below E1.out) (HF.out.below E1.out)).mono ?_
  rintro _ w2 ⟨rfl, hb⟩
  have E2 := Lib.hid (below_then E1.out hb (Nat.le_refl _))
  have Q2 := Lib.hid (Q1.out.step hb)
  have P2 := Lib.hid (P1.out.step hb)
  have q2 := Q2.out.cell
  clear hb q1
  go_wp2_with fail
  refine (concat2R _ _ C (some ⟨b, o + f.length, none⟩) _ _ _ d f t _ (Blk.new w2 _ _) (by simp <;> omega) (HT.out.below (below_da E2.out (by simp) _)) ((Strs_drop (H.out) f.length).below (below_da E2.out (by simp) _)) HLB.out).mono ?_
  rintro _ w3 ⟨V, cv, rfl, ho, hb⟩
  have E3 := Lib.hid (below_then (below_da E2.out (Nat.le_refl _) _) hb (Nat.le_refl _))
  have Q3 := Lib.hid ((Q2.out.alloc _).step hb)
  have P3 := Lib.hid ((P2.out.alloc _).step hb)
  have q3 := Q3.out.cell
  have f3 := Q3.out.free
  have hz3 := P3.out.lt
  have hzz : w.heap.size + 1 + 1 ≤ w2.heap.size := P2.out.lt
  have O3 : Hid (Own w3 (w.heap.size + 1 + 1) (.slice V (pathR d f t).length cv) (pathR d f t)) := Own.mono ho (by simp; omega)
  have hlI : ((pathR d f t).length : Int) ≤ 4 := by omega
  clear hb ho q2
  by_cases hfull : 2 < (pathR d f t).length
  · have hfI : (2 : Int) < (pathR d f t).length := by omega
    have e1 := HFull.out hfull
    have e2 := data_no (d := d) (f := f) (t := t) (by rw [e1]; decide)
    have HE := Lib.hid (And.intro e1 e2)
    have p3 := P3.out.cell
    have g3 := P3.out.free
    clear e1 e2
    go_wp2
    refine bodyPost_ret (v := .agg #[.slice none 0 0, .string ByteArray.empty, .string ByteArray.empty, .int .i64 0, .int .i64 0, .string ByteArray.empty, .int .i64 9]) (by simp [results, Try.results79, go_sem, p3, g3]; try rfl) rfl ⟨none, 0, by rw [HE.out.1, HE.out.2]; rfl, by rw [HE.out.2]; exact Own.nil _ _, ?_⟩
    repeat (refine Below.setCell ?_ (by simp <;> omega) _)
    exact E3.out
  · have hfI : ¬ (2 : Int) < (pathR d f t).length := by omega
    have e1 := HOk.out hfull
    have e2 := data_ok e1
    have HE := Lib.hid (And.intro e1 e2)
    clear e1 e2 hfull
    have KC := fun (W : World) (h : Strs W V (pathR d f t)) => Lib.hid (copy_impl V cv ⟨pathR d f t, d.typ, d.nam, d.kind, d.n, d.key⟩ W h (show (pathR d f t).length ≤ 1000000 by omega) (show d.typ.size ≤ 281474976710656 by omega) (show d.nam.size ≤ 281474976710656 by omega) (show d.key.size ≤ 281474976710656 by omega) HSZ.out)
    have S3 := Lib.hid (Own.strs O3.out (fun k hk => Nat.le_trans (HSZ.out k hk) (by decide)))
    go_wp2_with fail
    refine (KC _ ?_).out.mono ?_
    · exact Own.strs (c := cv) (Own.far O3.out (p := ⟨w.heap.size, 0, none⟩) (by simp <;> omega) _) (fun k hk => Nat.le_trans (HSZ.out k hk) (by decide))
    rintro _ w4 ⟨V4, c4, rfl, ho, hb⟩
    have E4 := Lib.hid (below_then (E3.out.setCell (p := ⟨w.heap.size, 0, none⟩) (Nat.le_refl _) _) hb (Nat.le_refl _))
    have P4 := Lib.hid ((P3.out.far (p := ⟨w.heap.size, 0, none⟩) (by simp) _).step hb)
    have O4 : Hid (Own w4 (w.heap.size + 1 + 1) (.slice V4 (pathR d f t).length c4) (pathR d f t)) := Own.mono ho (by simp; omega)
    have p4 := P4.out.cell
    have g4 := P4.out.free
    clear hb ho
    go_wp2
    refine bodyPost_ret (v := .agg #[.slice V4 (pathR d f t).length c4, .string d.typ, .string d.nam, .int .i64 d.kind, .int .i64 d.n, .string d.key, .int .i64 0]) (by simp [results, Try.results79, go_sem, p4, g4]; try rfl) rfl ⟨V4, c4, by rw [HE.out.1, HE.out.2], ?_, ?_⟩
    · rw [HE.out.2]
      show Own _ _ (.slice V4 (pathR d f t).length c4) (pathR d f t)
      refine Own.mono (base := w.heap.size + 1 + 1) ?_ (by omega)
      iterate 7 refine Own.far ?_ (by simp <;> omega) _
      exact O4.out
    repeat (refine Below.setCell ?_ (by simp <;> omega) _)
    exact E4.out

set_option maxHeartbeats 4000000 in
theorem tail_same (A : Option Addr) (c : Nat) (B : Option Addr) (c' : Nat) (C : Option Addr) (c'' : Nat) (d : AddrD) (f t : List ByteArray) (w : World) (h : Strs w A d.path) (hf : Strs w B f) (ht : Strs w C t) (hp : d.path.length ≤ 2) (hcap : d.path.length ≤ c) (hc1 : c ≤ maxLen) (hfl : f.length ≤ 2) (htl : t.length ≤ 2)
    (hr : addrB d = true) (hpf : pathB f = true) (hpt : pathB t = true) (hu : cm.pre d.path f = f.length) (z1 : d.typ.size ≤ 8) (z2 : d.nam.size ≤ 8) (z3 : d.key.size ≤ 8) (hw : ∀ s ∈ d.path, s.size ≤ 8) (hw2 : ∀ s ∈ t, s.size ≤ 8) (hle : f.length ≤ d.path.length) (hcond : c = f.length) :
    Calls Try.prog 79 #[.agg #[.slice A d.path.length c, .string d.typ, .string d.nam, .int .i64 d.kind, .int .i64 d.n, .string d.key], .slice B f.length c', .slice C t.length c''] w (MadeO w (dataR d f t) (codeR d f t)) := by
  subst hcond
  have H := Lib.hid h
  have HF := Lib.hid hf
  have HT := Lib.hid ht
  have hx1 : (f.length : Int) ≤ 2 := by omega
  have hx2 : (t.length : Int) ≤ 2 := by omega
  have hx3 : (d.path.length : Int) ≤ 2 := by omega
  have hx6 : (f.length : Int) ≤ d.path.length := by omega
  have hx4 : (d.path.length : Int) ≤ f.length := by omega
  have KR := Lib.hid (fun W h => hr ▸ adr.right_impl A f.length d W h (by unfold maxLen; omega) (by unfold maxLen; omega) (by unfold maxLen; omega) (by unfold maxLen; omega))
  have KF := Lib.hid (fun W h => hpf ▸ adr.path_impl B c' f W h (by unfold maxLen; omega))
  have KT := Lib.hid (fun W h => hpt ▸ adr.path_impl C c'' t W h (by unfold maxLen; omega))
  have eu : cm.underB d f = true := by simp [cm.underB, hr, hu]
  have KU := Lib.hid (fun W h h' => eu ▸ cm.under_impl A B f.length c' d f W h h' (by unfold maxLen; omega) (by unfold maxLen; omega) (by unfold maxLen; omega) (by unfold maxLen; omega) (by unfold maxLen; omega))
  have HFull := Lib.hid (fun h => code_full (d := d) (f := f) (t := t) hfl htl hr hpf hpt hu h)
  have HOk := Lib.hid (fun h => code_ok (d := d) (f := f) (t := t) hfl htl hr hpf hpt hu h)
  have HSZ : Hid (∀ k (h : k < (pathR d f t).length), (pathR d f t)[k].size ≤ 281474976710656) := by
    intro k hk
    have hm : (pathR d f t)[k] ∈ t ++ d.path.drop f.length := List.getElem_mem hk
    rcases List.mem_append.1 hm with h1 | h1
    · have := hw2 _ h1; omega
    · have := hw _ (List.mem_of_mem_drop h1); omega
  have hlen : (pathR d f t).length = t.length + (d.path.length - f.length) := by simp [pathR]
  have HLEN := Lib.hid hlen
  have hll : (pathR d f t).length ≤ 4 := by omega
  have hlb : t.length + (d.path.drop f.length).length ≤ 1000000 := by simp; omega
  have HLB := Lib.hid hlb
  unfold maxLen at hc1
  clear h hf ht hr hpf hpt hu eu hlen hw hw2 hlb
  go_enter Try.func79, Try.ntmps79
  go_wp2_with fail
  refine (KR.out _ (H.out.below (below_a2 _ _ _))).mono ?_
  rintro _ w1 ⟨rfl, hb⟩
  have E1 := Lib.hid (below_then (below_a2 _ _ _) hb (Nat.le_refl _))
  have Q1 := Lib.hid (((Blk.new w _ _).alloc _).step hb)
  have P1 := Lib.hid ((Blk.new1 w _ _ _).step hb)
  have q1 := Q1.out.cell
  clear hb
  go_wp2_with fail
  refine (KF.out _ (HF.out.below E1.out)).mono ?_
  rintro _ _ ⟨rfl, rfl⟩
  go_wp2_with fail
  refine (KT.out _ (HT.out.below E1.out)).mono ?_
  rintro _ _ ⟨rfl, rfl⟩
  go_wp2_with fail
  refine (KU.out _ (H.out.below E1.out) (HF.out.below E1.out)).mono ?_
  rintro _ w2 ⟨rfl, hb⟩
  have E2 := Lib.hid (below_then E1.out hb (Nat.le_refl _))
  have Q2 := Lib.hid (Q1.out.step hb)
  have P2 := Lib.hid (P1.out.step hb)
  have q2 := Q2.out.cell
  clear hb q1
  go_wp2_with fail
  refine (concat2R _ _ C A _ _ _ d f t _ (Blk.new w2 _ _) (by simp <;> omega) (HT.out.below (below_da E2.out (by simp) _)) (fun k hk => absurd hk (by simp; omega)) HLB.out).mono ?_
  rintro _ w3 ⟨V, cv, rfl, ho, hb⟩
  have E3 := Lib.hid (below_then (below_da E2.out (Nat.le_refl _) _) hb (Nat.le_refl _))
  have Q3 := Lib.hid ((Q2.out.alloc _).step hb)
  have P3 := Lib.hid ((P2.out.alloc _).step hb)
  have q3 := Q3.out.cell
  have f3 := Q3.out.free
  have hz3 := P3.out.lt
  have hzz : w.heap.size + 1 + 1 ≤ w2.heap.size := P2.out.lt
  have O3 : Hid (Own w3 (w.heap.size + 1 + 1) (.slice V (pathR d f t).length cv) (pathR d f t)) := Own.mono ho (by simp; omega)
  have hlI : ((pathR d f t).length : Int) ≤ 4 := by omega
  clear hb ho q2
  by_cases hfull : 2 < (pathR d f t).length
  · have hfI : (2 : Int) < (pathR d f t).length := by omega
    have e1 := HFull.out hfull
    have e2 := data_no (d := d) (f := f) (t := t) (by rw [e1]; decide)
    have HE := Lib.hid (And.intro e1 e2)
    have p3 := P3.out.cell
    have g3 := P3.out.free
    clear e1 e2
    go_wp2
    refine bodyPost_ret (v := .agg #[.slice none 0 0, .string ByteArray.empty, .string ByteArray.empty, .int .i64 0, .int .i64 0, .string ByteArray.empty, .int .i64 9]) (by simp [results, Try.results79, go_sem, p3, g3]; try rfl) rfl ⟨none, 0, by rw [HE.out.1, HE.out.2]; rfl, by rw [HE.out.2]; exact Own.nil _ _, ?_⟩
    repeat (refine Below.setCell ?_ (by simp <;> omega) _)
    exact E3.out
  · have hfI : ¬ (2 : Int) < (pathR d f t).length := by omega
    have e1 := HOk.out hfull
    have e2 := data_ok e1
    have HE := Lib.hid (And.intro e1 e2)
    clear e1 e2 hfull
    have KC := fun (W : World) (h : Strs W V (pathR d f t)) => Lib.hid (copy_impl V cv ⟨pathR d f t, d.typ, d.nam, d.kind, d.n, d.key⟩ W h (show (pathR d f t).length ≤ 1000000 by omega) (show d.typ.size ≤ 281474976710656 by omega) (show d.nam.size ≤ 281474976710656 by omega) (show d.key.size ≤ 281474976710656 by omega) HSZ.out)
    have S3 := Lib.hid (Own.strs O3.out (fun k hk => Nat.le_trans (HSZ.out k hk) (by decide)))
    go_wp2_with fail
    refine (KC _ ?_).out.mono ?_
    · exact Own.strs (c := cv) (Own.far O3.out (p := ⟨w.heap.size, 0, none⟩) (by simp <;> omega) _) (fun k hk => Nat.le_trans (HSZ.out k hk) (by decide))
    rintro _ w4 ⟨V4, c4, rfl, ho, hb⟩
    have E4 := Lib.hid (below_then (E3.out.setCell (p := ⟨w.heap.size, 0, none⟩) (Nat.le_refl _) _) hb (Nat.le_refl _))
    have P4 := Lib.hid ((P3.out.far (p := ⟨w.heap.size, 0, none⟩) (by simp) _).step hb)
    have O4 : Hid (Own w4 (w.heap.size + 1 + 1) (.slice V4 (pathR d f t).length c4) (pathR d f t)) := Own.mono ho (by simp; omega)
    have p4 := P4.out.cell
    have g4 := P4.out.free
    clear hb ho
    go_wp2
    refine bodyPost_ret (v := .agg #[.slice V4 (pathR d f t).length c4, .string d.typ, .string d.nam, .int .i64 d.kind, .int .i64 d.n, .string d.key, .int .i64 0]) (by simp [results, Try.results79, go_sem, p4, g4]; try rfl) rfl ⟨V4, c4, by rw [HE.out.1, HE.out.2], ?_, ?_⟩
    · rw [HE.out.2]
      show Own _ _ (.slice V4 (pathR d f t).length c4) (pathR d f t)
      refine Own.mono (base := w.heap.size + 1 + 1) ?_ (by omega)
      iterate 7 refine Own.far ?_ (by simp <;> omega) _
      exact O4.out
    repeat (refine Below.setCell ?_ (by simp <;> omega) _)
    exact E4.out

set_option maxHeartbeats 2000000 in
theorem impl_long1 (A : Option Addr) (c : Nat) (B : Option Addr) (c' : Nat) (C : Option Addr) (c'' : Nat) (d : AddrD) (f t : List ByteArray) (w : World) (h : Strs w A d.path) (hf : Strs w B f) (ht : Strs w C t) (hl1 : d.path.length ≤ maxLen) (hl2 : f.length ≤ maxLen) (hl3 : t.length ≤ maxLen) (z1 : d.typ.size ≤ maxLen) (z2 : d.nam.size ≤ maxLen) (z3 : d.key.size ≤ maxLen) (hc0 : d.path.length ≤ c) (hc1 : c ≤ maxLen) (hc : 400 < f.length) :
    Calls Try.prog 79 #[.agg #[.slice A d.path.length c, .string d.typ, .string d.nam, .int .i64 d.kind, .int .i64 d.n, .string d.key], .slice B f.length c', .slice C t.length c''] w (MadeO w zeroD 2) := by
  have H := Lib.hid h
  have HF := Lib.hid hf
  have HT := Lib.hid ht
  have hx : (400 : Int) < f.length := by omega
  clear hc
  clear h hf ht
  go_enter Try.func79, Try.ntmps79
  go_wp2
  refine bodyPost_ret (v := .agg #[.slice none 0 0, .string ByteArray.empty, .string ByteArray.empty, .int .i64 0, .int .i64 0, .string ByteArray.empty, .int .i64 2]) (by simp [results, Try.results79, go_sem]; try rfl) rfl ⟨none, 0, rfl, Own.nil _ _, ?_⟩
  first | exact below_a2 _ _ _ | (repeat (refine Below.setCell ?_ (by simp <;> omega) _); exact below_a2 _ _ _)

set_option maxHeartbeats 2000000 in
theorem impl_long2 (A : Option Addr) (c : Nat) (B : Option Addr) (c' : Nat) (C : Option Addr) (c'' : Nat) (d : AddrD) (f t : List ByteArray) (w : World) (h : Strs w A d.path) (hf : Strs w B f) (ht : Strs w C t) (hl1 : d.path.length ≤ maxLen) (hl2 : f.length ≤ maxLen) (hl3 : t.length ≤ maxLen) (z1 : d.typ.size ≤ maxLen) (z2 : d.nam.size ≤ maxLen) (z3 : d.key.size ≤ maxLen) (hc0 : d.path.length ≤ c) (hc1 : c ≤ maxLen) (hc0' : f.length ≤ 400) (hc : 400 < t.length) :
    Calls Try.prog 79 #[.agg #[.slice A d.path.length c, .string d.typ, .string d.nam, .int .i64 d.kind, .int .i64 d.n, .string d.key], .slice B f.length c', .slice C t.length c''] w (MadeO w zeroD 2) := by
  have H := Lib.hid h
  have HF := Lib.hid hf
  have HT := Lib.hid ht
  have hx1 : (f.length : Int) ≤ 400 := by omega
  have hx : (400 : Int) < t.length := by omega
  clear hc hc0'
  clear h hf ht
  go_enter Try.func79, Try.ntmps79
  go_wp2
  refine bodyPost_ret (v := .agg #[.slice none 0 0, .string ByteArray.empty, .string ByteArray.empty, .int .i64 0, .int .i64 0, .string ByteArray.empty, .int .i64 2]) (by simp [results, Try.results79, go_sem]; try rfl) rfl ⟨none, 0, rfl, Own.nil _ _, ?_⟩
  first | exact below_a2 _ _ _ | (repeat (refine Below.setCell ?_ (by simp <;> omega) _); exact below_a2 _ _ _)

set_option maxHeartbeats 2000000 in
theorem impl_bad1 (A : Option Addr) (c : Nat) (B : Option Addr) (c' : Nat) (C : Option Addr) (c'' : Nat) (d : AddrD) (f t : List ByteArray) (w : World) (h : Strs w A d.path) (hf : Strs w B f) (ht : Strs w C t) (hl1 : d.path.length ≤ maxLen) (hl2 : f.length ≤ maxLen) (hl3 : t.length ≤ maxLen) (z1 : d.typ.size ≤ maxLen) (z2 : d.nam.size ≤ maxLen) (z3 : d.key.size ≤ maxLen) (hc0 : d.path.length ≤ c) (hc1 : c ≤ maxLen) (k1 : f.length ≤ 400) (k2 : t.length ≤ 400) (hr : addrB d = false) :
    Calls Try.prog 79 #[.agg #[.slice A d.path.length c, .string d.typ, .string d.nam, .int .i64 d.kind, .int .i64 d.n, .string d.key], .slice B f.length c', .slice C t.length c''] w (MadeO w zeroD 1) := by
  have H := Lib.hid h
  have HF := Lib.hid hf
  have HT := Lib.hid ht
  have hx1 : (f.length : Int) ≤ 400 := by omega
  have hx2 : (t.length : Int) ≤ 400 := by omega
  have KR := Lib.hid (fun W h => hr ▸ adr.right_impl A c d W h hl1 z1 z2 z3)
  clear hr k1 k2
  clear h hf ht
  go_enter Try.func79, Try.ntmps79
  go_wp2_with fail
  refine (KR.out _ (H.out.below (below_a2 _ _ _))).mono ?_
  rintro _ w1 ⟨rfl, hb⟩
  have E1 := Lib.hid (below_then (below_a2 _ _ _) hb (Nat.le_refl _))
  have Q1 := Lib.hid (((Blk.new w _ _).alloc _).step hb)
  have P1 := Lib.hid ((Blk.new1 w _ _ _).step hb)
  have q1 := Q1.out.cell
  have p1 := P1.out.cell
  have g1 := P1.out.free
  clear hb
  go_wp2
  refine bodyPost_ret (v := .agg #[.slice none 0 0, .string ByteArray.empty, .string ByteArray.empty, .int .i64 0, .int .i64 0, .string ByteArray.empty, .int .i64 1]) (by simp [results, Try.results79, go_sem, p1, g1]; try rfl) rfl ⟨none, 0, rfl, Own.nil _ _, ?_⟩
  repeat (refine Below.setCell ?_ (by simp <;> omega) _)
  exact E1.out

set_option maxHeartbeats 2000000 in
theorem impl_bad2 (A : Option Addr) (c : Nat) (B : Option Addr) (c' : Nat) (C : Option Addr) (c'' : Nat) (d : AddrD) (f t : List ByteArray) (w : World) (h : Strs w A d.path) (hf : Strs w B f) (ht : Strs w C t) (hl1 : d.path.length ≤ maxLen) (hl2 : f.length ≤ maxLen) (hl3 : t.length ≤ maxLen) (z1 : d.typ.size ≤ maxLen) (z2 : d.nam.size ≤ maxLen) (z3 : d.key.size ≤ maxLen) (hc0 : d.path.length ≤ c) (hc1 : c ≤ maxLen) (k1 : f.length ≤ 400) (k2 : t.length ≤ 400) (hr : addrB d = true) (hpf : pathB f = false) :
    Calls Try.prog 79 #[.agg #[.slice A d.path.length c, .string d.typ, .string d.nam, .int .i64 d.kind, .int .i64 d.n, .string d.key], .slice B f.length c', .slice C t.length c''] w (MadeO w zeroD 1) := by
  have H := Lib.hid h
  have HF := Lib.hid hf
  have HT := Lib.hid ht
  have hx1 : (f.length : Int) ≤ 400 := by omega
  have hx2 : (t.length : Int) ≤ 400 := by omega
  have KR := Lib.hid (fun W h => hr ▸ adr.right_impl A c d W h hl1 z1 z2 z3)
  have KF := Lib.hid (fun W h => hpf ▸ adr.path_impl B c' f W h hl2)
  clear hr hpf k1 k2
  clear h hf ht
  go_enter Try.func79, Try.ntmps79
  go_wp2_with fail
  refine (KR.out _ (H.out.below (below_a2 _ _ _))).mono ?_
  rintro _ w1 ⟨rfl, hb⟩
  have E1 := Lib.hid (below_then (below_a2 _ _ _) hb (Nat.le_refl _))
  have Q1 := Lib.hid (((Blk.new w _ _).alloc _).step hb)
  have P1 := Lib.hid ((Blk.new1 w _ _ _).step hb)
  have q1 := Q1.out.cell
  have p1 := P1.out.cell
  have g1 := P1.out.free
  clear hb
  go_wp2_with fail
  refine (KF.out _ (HF.out.below E1.out)).mono ?_
  rintro _ _ ⟨rfl, rfl⟩
  go_wp2
  refine bodyPost_ret (v := .agg #[.slice none 0 0, .string ByteArray.empty, .string ByteArray.empty, .int .i64 0, .int .i64 0, .string ByteArray.empty, .int .i64 1]) (by simp [results, Try.results79, go_sem, p1, g1]; try rfl) rfl ⟨none, 0, rfl, Own.nil _ _, ?_⟩
  repeat (refine Below.setCell ?_ (by simp <;> omega) _)
  exact E1.out

set_option maxHeartbeats 2000000 in
theorem impl_bad3 (A : Option Addr) (c : Nat) (B : Option Addr) (c' : Nat) (C : Option Addr) (c'' : Nat) (d : AddrD) (f t : List ByteArray) (w : World) (h : Strs w A d.path) (hf : Strs w B f) (ht : Strs w C t) (hl1 : d.path.length ≤ maxLen) (hl2 : f.length ≤ maxLen) (hl3 : t.length ≤ maxLen) (z1 : d.typ.size ≤ maxLen) (z2 : d.nam.size ≤ maxLen) (z3 : d.key.size ≤ maxLen) (hc0 : d.path.length ≤ c) (hc1 : c ≤ maxLen) (k1 : f.length ≤ 400) (k2 : t.length ≤ 400) (hr : addrB d = true) (hpf : pathB f = true) (hpt : pathB t = false) :
    Calls Try.prog 79 #[.agg #[.slice A d.path.length c, .string d.typ, .string d.nam, .int .i64 d.kind, .int .i64 d.n, .string d.key], .slice B f.length c', .slice C t.length c''] w (MadeO w zeroD 1) := by
  have H := Lib.hid h
  have HF := Lib.hid hf
  have HT := Lib.hid ht
  have hx1 : (f.length : Int) ≤ 400 := by omega
  have hx2 : (t.length : Int) ≤ 400 := by omega
  have KR := Lib.hid (fun W h => hr ▸ adr.right_impl A c d W h hl1 z1 z2 z3)
  have KF := Lib.hid (fun W h => hpf ▸ adr.path_impl B c' f W h hl2)
  have KT := Lib.hid (fun W h => hpt ▸ adr.path_impl C c'' t W h hl3)
  clear hr hpf hpt k1 k2
  clear h hf ht
  go_enter Try.func79, Try.ntmps79
  go_wp2_with fail
  refine (KR.out _ (H.out.below (below_a2 _ _ _))).mono ?_
  rintro _ w1 ⟨rfl, hb⟩
  have E1 := Lib.hid (below_then (below_a2 _ _ _) hb (Nat.le_refl _))
  have Q1 := Lib.hid (((Blk.new w _ _).alloc _).step hb)
  have P1 := Lib.hid ((Blk.new1 w _ _ _).step hb)
  have q1 := Q1.out.cell
  have p1 := P1.out.cell
  have g1 := P1.out.free
  clear hb
  go_wp2_with fail
  refine (KF.out _ (HF.out.below E1.out)).mono ?_
  rintro _ _ ⟨rfl, rfl⟩
  go_wp2_with fail
  refine (KT.out _ (HT.out.below E1.out)).mono ?_
  rintro _ _ ⟨rfl, rfl⟩
  go_wp2
  refine bodyPost_ret (v := .agg #[.slice none 0 0, .string ByteArray.empty, .string ByteArray.empty, .int .i64 0, .int .i64 0, .string ByteArray.empty, .int .i64 1]) (by simp [results, Try.results79, go_sem, p1, g1]; try rfl) rfl ⟨none, 0, rfl, Own.nil _ _, ?_⟩
  repeat (refine Below.setCell ?_ (by simp <;> omega) _)
  exact E1.out

set_option maxHeartbeats 2000000 in
theorem impl_apart (A : Option Addr) (c : Nat) (B : Option Addr) (c' : Nat) (C : Option Addr) (c'' : Nat) (d : AddrD) (f t : List ByteArray) (w : World) (h : Strs w A d.path) (hf : Strs w B f) (ht : Strs w C t) (hl1 : d.path.length ≤ maxLen) (hl2 : f.length ≤ maxLen) (hl3 : t.length ≤ maxLen) (z1 : d.typ.size ≤ maxLen) (z2 : d.nam.size ≤ maxLen) (z3 : d.key.size ≤ maxLen) (hc0 : d.path.length ≤ c) (hc1 : c ≤ maxLen) (k1 : f.length ≤ 400) (k2 : t.length ≤ 400) (hr : addrB d = true) (hpf : pathB f = true) (hpt : pathB t = true) (hu : cm.underB d f = false) :
    Calls Try.prog 79 #[.agg #[.slice A d.path.length c, .string d.typ, .string d.nam, .int .i64 d.kind, .int .i64 d.n, .string d.key], .slice B f.length c', .slice C t.length c''] w (MadeO w zeroD 6) := by
  have H := Lib.hid h
  have HF := Lib.hid hf
  have HT := Lib.hid ht
  have hx1 : (f.length : Int) ≤ 400 := by omega
  have hx2 : (t.length : Int) ≤ 400 := by omega
  have KR := Lib.hid (fun W h => hr ▸ adr.right_impl A c d W h hl1 z1 z2 z3)
  have KF := Lib.hid (fun W h => hpf ▸ adr.path_impl B c' f W h hl2)
  have KT := Lib.hid (fun W h => hpt ▸ adr.path_impl C c'' t W h hl3)
  have KU := Lib.hid (fun W h h' => hu ▸ cm.under_impl A B c c' d f W h h' hl1 hl2 z1 z2 z3)
  clear hr hpf hpt hu k1 k2
  clear h hf ht
  go_enter Try.func79, Try.ntmps79
  go_wp2_with fail
  refine (KR.out _ (H.out.below (below_a2 _ _ _))).mono ?_
  rintro _ w1 ⟨rfl, hb⟩
  have E1 := Lib.hid (below_then (below_a2 _ _ _) hb (Nat.le_refl _))
  have Q1 := Lib.hid (((Blk.new w _ _).alloc _).step hb)
  have P1 := Lib.hid ((Blk.new1 w _ _ _).step hb)
  have q1 := Q1.out.cell
  have p1 := P1.out.cell
  have g1 := P1.out.free
  clear hb
  go_wp2_with fail
  refine (KF.out _ (HF.out.below E1.out)).mono ?_
  rintro _ _ ⟨rfl, rfl⟩
  go_wp2_with fail
  refine (KT.out _ (HT.out.below E1.out)).mono ?_
  rintro _ _ ⟨rfl, rfl⟩
  go_wp2_with fail
  refine (KU.out _ (H.out.below E1.out) (HF.out.below E1.out)).mono ?_
  rintro _ w2 ⟨rfl, hb⟩
  have E2 := Lib.hid (below_then E1.out hb (Nat.le_refl _))
  have Q2 := Lib.hid (Q1.out.step hb)
  have P2 := Lib.hid (P1.out.step hb)
  have q2 := Q2.out.cell
  have p2 := P2.out.cell
  have g2 := P2.out.free
  clear hb q1 p1 g1
  go_wp2
  refine bodyPost_ret (v := .agg #[.slice none 0 0, .string ByteArray.empty, .string ByteArray.empty, .int .i64 0, .int .i64 0, .string ByteArray.empty, .int .i64 6]) (by simp [results, Try.results79, go_sem, p2, g2]; try rfl) rfl ⟨none, 0, rfl, Own.nil _ _, ?_⟩
  repeat (refine Below.setCell ?_ (by simp <;> omega) _)
  exact E2.out

theorem rights {d : AddrD} {f t : List ByteArray} (h1 : addrB d = true) (h2 : pathB f = true) (h3 : pathB t = true) : d.path.length ≤ 2 ∧ f.length ≤ 2 ∧ t.length ≤ 2 ∧ d.typ.size ≤ 8 ∧ d.nam.size ≤ 8 ∧ d.key.size ≤ 8 ∧ (∀ s ∈ d.path, s.size ≤ 8) ∧ (∀ s ∈ t, s.size ≤ 8) := by
  obtain ⟨hp, a1, a2, a3⟩ := txt.addr_parts h1
  obtain ⟨b1, b2⟩ := txt.path_words hp
  obtain ⟨c1, _⟩ := txt.path_words h2
  obtain ⟨e1, e2⟩ := txt.path_words h3
  refine ⟨b1, c1, e1, txt.word_size a1, txt.word_size a2, ?_, fun s hs => txt.word_size (b2 s hs), fun s hs => txt.word_size (e2 s hs)⟩
  simp only [keyB, Bool.or_eq_true, Bool.and_eq_true, beq_iff_eq, decide_eq_true_eq] at a3
  rcases a3 with (⟨⟨k0, k1⟩, k2⟩ | ⟨⟨⟨k0, k1⟩, k2⟩, k3⟩) | ⟨⟨k0, k1⟩, k2⟩
  · omega
  · omega
  · exact txt.word_size k2
theorem code_two {d : AddrD} {f t : List ByteArray} (h : 400 < f.length ∨ 400 < t.length) : codeR d f t = 2 := by unfold codeR; rw [if_pos h]
theorem code_one {d : AddrD} {f t : List ByteArray} (h1 : f.length ≤ 400) (h2 : t.length ≤ 400) (h : ¬ (addrB d = true ∧ pathB f = true ∧ pathB t = true)) : codeR d f t = 1 := by unfold codeR; rw [if_neg (by omega), if_pos h]
theorem code_six {d : AddrD} {f t : List ByteArray} (h1 : f.length ≤ 400) (h2 : t.length ≤ 400) (h : addrB d = true ∧ pathB f = true ∧ pathB t = true) (hu : cm.pre d.path f ≠ f.length) : codeR d f t = 6 := by unfold codeR; rw [if_neg (by omega), if_neg (fun g => g h), if_pos hu]
theorem reh_of {w : World} {d : AddrD} {f t : List ByteArray} {P : (Ending → World → Prop) → Prop} {n : Int} (h : P (MadeO w zeroD n)) (hn : codeR d f t = n) (h0 : n ≠ 0) : P (MadeO w (dataR d f t) (codeR d f t)) := by
  rw [data_no (by rw [hn]; exact h0), hn]; exact h

theorem reh_impl (A : Option Addr) (c : Nat) (B : Option Addr) (c' : Nat) (C : Option Addr) (c'' : Nat) (d : AddrD) (f t : List ByteArray) (w : World) (h : Strs w A d.path) (hf : Strs w B f) (ht : Strs w C t) (hl1 : d.path.length ≤ maxLen) (hl2 : f.length ≤ maxLen) (hl3 : t.length ≤ maxLen) (z1 : d.typ.size ≤ maxLen) (z2 : d.nam.size ≤ maxLen) (z3 : d.key.size ≤ maxLen) (hc0 : d.path.length ≤ c) (hc1 : c ≤ maxLen) (hA : (∃ b o, A = some ⟨b, o, none⟩) ∨ (A = none ∧ c = 0)) :
    Calls Try.prog 79 #[.agg #[.slice A d.path.length c, .string d.typ, .string d.nam, .int .i64 d.kind, .int .i64 d.n, .string d.key], .slice B f.length c', .slice C t.length c''] w (MadeO w (dataR d f t) (codeR d f t)) := by
  by_cases k1 : 400 < f.length
  · exact reh_of (impl_long1 A c B c' C c'' d f t w h hf ht hl1 hl2 hl3 z1 z2 z3 hc0 hc1 k1) (code_two (.inl k1)) (by decide)
  by_cases k2 : 400 < t.length
  · exact reh_of (impl_long2 A c B c' C c'' d f t w h hf ht hl1 hl2 hl3 z1 z2 z3 hc0 hc1 (by omega) k2) (code_two (.inr k2)) (by decide)
  have k1' : f.length ≤ 400 := by omega
  have k2' : t.length ≤ 400 := by omega
  cases hr : addrB d
  · exact reh_of (impl_bad1 A c B c' C c'' d f t w h hf ht hl1 hl2 hl3 z1 z2 z3 hc0 hc1 k1' k2' hr) (code_one k1' k2' (by simp [hr])) (by decide)
  cases hpf : pathB f
  · exact reh_of (impl_bad2 A c B c' C c'' d f t w h hf ht hl1 hl2 hl3 z1 z2 z3 hc0 hc1 k1' k2' hr hpf) (code_one k1' k2' (by simp [hpf])) (by decide)
  cases hpt : pathB t
  · exact reh_of (impl_bad3 A c B c' C c'' d f t w h hf ht hl1 hl2 hl3 z1 z2 z3 hc0 hc1 k1' k2' hr hpf hpt) (code_one k1' k2' (by simp [hpt])) (by decide)
  by_cases hu : cm.pre d.path f = f.length
  · obtain ⟨s1, s2, s3, s4, s5, s6, s7, s8⟩ := rights hr hpf hpt
    have hle : f.length ≤ d.path.length := by have := cm.pre_le_l d.path f; omega
    by_cases hcf : c = f.length
    · exact tail_same A c B c' C c'' d f t w h hf ht s1 hc0 hc1 s2 s3 hr hpf hpt hu s4 s5 s6 s7 s8 hle hcf
    · rcases hA with ⟨b, o, rfl⟩ | ⟨rfl, h0⟩
      · exact tail_some b o c B c' C c'' d f t w h hf ht s1 hc0 hc1 s2 s3 hr hpf hpt hu s4 s5 s6 s7 s8 hle (by omega)
      · omega
  · exact reh_of (impl_apart A c B c' C c'' d f t w h hf ht hl1 hl2 hl3 z1 z2 z3 hc0 hc1 k1' k2' hr hpf hpt (by simp [cm.underB, hr, hu])) (code_six k1' k2' ⟨hr, hpf, hpt⟩ hu) (by decide)
end Go.Proofs.Ytflfnekaiaplfaa.reh
