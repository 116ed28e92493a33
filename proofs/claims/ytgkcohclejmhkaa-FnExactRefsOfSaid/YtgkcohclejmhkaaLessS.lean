/- AddrLess of the model. -/
import Derived.Test.YtgkcohclejmhkaaLess
namespace Go.Proofs.Ytgkcohclejmhkaa.cm
open ad mem
open Go.ChangeShapes Go.WideShapes Go.ChangeAt Go.RowKit Go.Lib
set_option linter.unusedVariables false
set_option linter.unusedSimpArgs false

theorem cmpI_neg {a b : Int} : cmpI a b < 0 ↔ a < b := by
  unfold cmpI; split
  · omega
  · split <;> omega
theorem bneI {a b : Int} : (a != b) = true ↔ a ≠ b := by simp

set_option maxHeartbeats 2000000 in
theorem l02Less_any (A B : Option Addr) (c c' : Nat) (d e : AddrD) (w : World) (h : Strs w A d.path) (h' : Strs w B e.path) (hl : d.path.length ≤ maxLen) (hm : e.path.length ≤ maxLen) :
    Calls Try.prog 55 #[.agg #[.slice A d.path.length c, .string d.typ, .string d.nam, .int .i64 d.kind, .int .i64 d.n, .string d.key], .agg #[.slice B e.path.length c', .string e.typ, .string e.nam, .int .i64 e.kind, .int .i64 e.n, .string e.key]] w (Told w (.bool (decide (orI (looks d e) < 0)))) := by
  have H := Lib.hid h
  have H' := Lib.hid h'
  have HA := Lib.hid (And.intro hl hm)
  clear h h' hl hm
  go_enter Try.func55, Try.ntmps55
  go_wp2_with (go_at_call 91; refine (words_spec A B c c' d.path e.path _ (H.out.below (below_a2 _ _ _)) (H'.out.below (below_a2 _ _ _)) HA.out.1 HA.out.2).mono ?_; rintro _ _ ⟨rfl, n, rfl⟩)
  all_goals go_ret
  all_goals refine ⟨ret_bool ?_, below_dn (below_a2 _ _ _) _⟩
  all_goals clear H H' HA
  all_goals rw [Bool.eq_iff_iff, decide_eq_true_iff]
  all_goals (simp only [bless, tl_beq, Bool.not_eq_true', Bool.not_eq_false', decide_eq_true_eq, decide_eq_false_iff_not, Decidable.not_not, bne_iff_ne, bne_eq_false_iff_eq] at *)
  all_goals (simp_all [looks, orI, cmpS_zero, cmpS_neg, cmpI_zero, cmpI_neg])
  all_goals (split <;> simp_all [lt_irr, cmpS_neg])

end Go.Proofs.Ytgkcohclejmhkaa.cm
