/- Under, of the program and of the model. -/
import Derived.Test.YtflfnekaiaplfaaCmpB
namespace Go.Proofs.Ytflfnekaiaplfaa.cm
open ad mem
open Go.ChangeShapes Go.WideShapes Go.ChangeAt Go.RowKit Go.Lib
set_option linter.unusedVariables false
set_option linter.unusedSimpArgs false

noncomputable def underB (d : AddrD) (p : List ByteArray) : Bool := addrB d && decide (pre d.path p = p.length)

theorem take_pre : ∀ (l m : List ByteArray), l.take m.length = m ↔ pre l m = m.length
  | [], [] => by simp [pre]
  | [], _ :: _ => by simp [pre]
  | _ :: _, [] => by simp [pre]
  | x :: xs, y :: ys => by
    by_cases e : x = y
    · rw [pre_yes e]; subst e; simpa using take_pre xs ys
    · rw [pre_no e]; simp [e]
theorem take_words {l m : List ByteArray} : (wordsI (l.take m.length) m == 0) = decide (pre l m = m.length) := by
  rw [Bool.eq_iff_iff, beq_iff_eq, words_zero, decide_eq_true_iff, take_pre]
theorem pre_short {l m : List ByteArray} (h : l.length < m.length) : decide (pre l m = m.length) = false := by
  have := pre_le_l l m; simp; omega

theorem Strs_take {w : World} {A : Option Addr} {l : List ByteArray} (h : Strs w A l) (n : Nat) : Strs w A (l.take n) := fun k hk => by
  have hk' : k < l.length := by simp at hk; omega
  obtain ⟨b, o, e, h1, h2, h3⟩ := h k hk'
  exact ⟨b, o, e, h1, by rw [List.getElem_take]; exact h2, by rw [List.getElem_take]; exact h3⟩

set_option maxHeartbeats 1000000 in
theorem l02Under_any (A B : Option Addr) (c c' : Nat) (d : AddrD) (p : List ByteArray) (w : World) (h : Strs w A d.path) (h' : Strs w B p) (hl : d.path.length ≤ maxLen) (hm : p.length ≤ maxLen) (hcap : d.path.length ≤ c) (hcm : c ≤ maxLen) :
    Calls Try.prog 52 #[.agg #[.slice A d.path.length c, .string d.typ, .string d.nam, .int .i64 d.kind, .int .i64 d.n, .string d.key], .slice B p.length c'] w (Told w (.bool (decide (pre d.path p = p.length)))) := by
  by_cases hle : p.length ≤ d.path.length
  · have K : ∀ W, Strs W A d.path → Strs W B p → Calls Try.prog 51 #[.slice A p.length c, .slice B p.length c'] W (Quiet W (.int .i64 (wordsI (d.path.take p.length) p))) := fun W h h' => by
      have := words_spec A B c c' (d.path.take p.length) p W (Strs_take h _) h' (by simp; omega) hm
      rwa [List.length_take, Nat.min_eq_left hle] at this
    have HK := Lib.hid K
    have H := Lib.hid h
    have H' := Lib.hid h'
    have hle' : (p.length : Int) ≤ d.path.length := by omega
    have hpc : p.length ≤ c := by omega
    have hpc' : (p.length : Int) ≤ c := by omega
    have HT := Lib.hid (take_words (l := d.path) (m := p))
    unfold maxLen at hl hm hcm
    clear h h' K hle
    go_enter Try.func52, Try.ntmps52
    go_wp2_with (go_at_call 51; refine (HK.out _ (H.out.alloc _) (H'.out.alloc _)).mono ?_; rintro _ _ ⟨rfl, n, rfl⟩)
    all_goals go_ret
    all_goals exact ⟨ret_bool (by rw [← HT.out]), below_dn (below_a1 _ _) _⟩
  · have HT := Lib.hid (pre_short (l := d.path) (m := p) (by omega))
    have hle' : ¬ (p.length : Int) ≤ d.path.length := by omega
    clear h h'
    go_enter Try.func52, Try.ntmps52
    go_wp2
    go_ret
    exact ⟨ret_bool HT.out.symm, below_a1 _ _⟩

set_option maxHeartbeats 1000000 in
theorem under_impl (A B : Option Addr) (c c' : Nat) (d : AddrD) (p : List ByteArray) (w : World) (h : Strs w A d.path) (h' : Strs w B p) (hl : d.path.length ≤ maxLen) (hm : p.length ≤ maxLen) (ht : d.typ.size ≤ maxLen) (hn : d.nam.size ≤ maxLen) (hk : d.key.size ≤ maxLen) :
    Calls Try.prog 80 #[.agg #[.slice A d.path.length c, .string d.typ, .string d.nam, .int .i64 d.kind, .int .i64 d.n, .string d.key], .slice B p.length c'] w (Told w (.bool (underB d p))) := by
  have H := Lib.hid h
  have H' := Lib.hid h'
  have HA := Lib.hid (And.intro hl hm)
  clear h h' hl hm
  go_enter Try.func80, Try.ntmps80
  go_wp2_with fail
  refine (adr.right_impl A c d _ (H.out.alloc _) HA.out.1 ht hn hk).mono ?_
  rintro _ w1 ⟨rfl, hb⟩
  have E1 := Lib.hid (below_then (below_a1 _ _) hb (Nat.le_refl _))
  have Q1 := Lib.hid ((Blk.new w _ _).step hb)
  have r1 := Q1.out.cell
  clear hb
  go_wp2_with (go_at_call 55; refine (alike_any A B c c' d.path p _ (H.out.below E1.out) (H'.out.below E1.out) HA.out.1 HA.out.2).mono ?_; rintro _ _ ⟨rfl, n, rfl⟩)
  all_goals go_ret
  all_goals refine ⟨ret_bool ?_, by first | exact below_dn E1.out _ | exact E1.out⟩
  all_goals clear H H' HA E1 Q1 r1
  all_goals simp_all [underB]
  all_goals (rw [Bool.eq_iff_iff]; simp; try omega)
end Go.Proofs.Ytflfnekaiaplfaa.cm
