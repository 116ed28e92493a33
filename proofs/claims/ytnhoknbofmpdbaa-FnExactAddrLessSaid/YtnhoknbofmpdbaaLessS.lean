/- AddrLess of the model. -/
import Derived.Test.YtnhoknbofmpdbaaLess
namespace Go.Proofs.Ytnhoknbofmpdbaa.cm
open ad mem
open Go.ChangeShapes Go.WideShapes Go.ChangeAt Go.RowKit Go.Lib
set_option linter.unusedVariables false
set_option linter.unusedSimpArgs false

theorem cmpI_neg {a b : Int} : cmpI a b < 0 ↔ a < b := by
  unfold cmpI; split
  · omega
  · split <;> omega
theorem bneI {a b : Int} : (a != b) = true ↔ a ≠ b := by simp

set_option maxHeartbeats 2000000 in
theorem l02Less_any (A B : Option Addr) (c c' : Nat) (d e : AddrD) (w : World) (h : Strs w A d.path) (h' : Strs w B e.path) (hl : d.path.length ≤ maxLen) (hm : e.path.length ≤ maxLen) :
    Calls Try.prog 33 #[.agg #[.slice A d.path.length c, .string d.typ, .string d.nam, .int .i64 d.kind, .int .i64 d.n, .string d.key], .agg #[.slice B e.path.length c', .string e.typ, .string e.nam, .int .i64 e.kind, .int .i64 e.n, .string e.key]] w (Told w (.bool (decide (orI (looks d e) < 0)))) := by
  have H := Lib.hid h
  have H' := Lib.hid h'
  have HA := Lib.hid (And.intro hl hm)
  clear h h' hl hm
  go_enter Try.func33, Try.ntmps33
  go_wp2_with (go_at_call 58; refine (words_spec A B c c' d.path e.path _ (H.out.below (below_a2 _ _ _)) (H'.out.below (below_a2 _ _ _)) HA.out.1 HA.out.2).mono ?_; rintro _ _ ⟨rfl, n, rfl⟩)
  all_goals go_ret
  all_goals refine ⟨ret_bool ?_, below_dn (below_a2 _ _ _) _⟩
  all_goals clear H H' HA
  all_goals rw [Bool.eq_iff_iff, decide_eq_true_iff]
  all_goals (simp only [bless, tl_beq, Bool.not_eq_true', Bool.not_eq_false', decide_eq_true_eq, decide_eq_false_iff_not, Decidable.not_not, bne_iff_ne, bne_eq_false_iff_eq] at *)
  all_goals (simp_all [looks, orI, cmpS_zero, cmpS_neg, cmpI_zero, cmpI_neg])
  all_goals (split <;> simp_all [lt_irr, cmpS_neg])

set_option maxHeartbeats 2000000 in
theorem less_spec (A B : Option Addr) (c c' : Nat) (d e : AddrD) (w : World) (h : Strs w A d.path) (h' : Strs w B e.path) (hl : d.path.length ≤ maxLen) (hm : e.path.length ≤ maxLen) (ht : d.typ.size ≤ maxLen) (hn : d.nam.size ≤ maxLen) (hk : d.key.size ≤ maxLen) (ht' : e.typ.size ≤ maxLen) (hn' : e.nam.size ≤ maxLen) (hk' : e.key.size ≤ maxLen) :
    Calls Try.prog 9 #[.agg #[.slice A d.path.length c, .string d.typ, .string d.nam, .int .i64 d.kind, .int .i64 d.n, .string d.key], .agg #[.slice B e.path.length c', .string e.typ, .string e.nam, .int .i64 e.kind, .int .i64 e.n, .string e.key]] w (Told w (.bool (lessB d e))) := by
  have H := Lib.hid h
  have H' := Lib.hid h'
  have HA := Lib.hid (And.intro hl hm)
  clear h h' hl hm
  cases hr : addrB d
  · have K := Lib.hid (fun W h => hr ▸ adr.right_spec A c d W h HA.out.1 ht hn hk)
    have HR := Lib.hid hr
    clear hr
    go_enter Try.func9, Try.ntmps9
    go_wp2_with (go_at_call 32; refine (K.out _ (H.out.below (below_a2 _ _ _))).mono ?_; rintro _ w1 ⟨rfl, hb⟩; have E1 := Lib.hid (below_then (below_a2 _ _ _) hb (Nat.le_refl _)); clear hb)
    go_ret
    exact ⟨ret_bool (by simp [lessB, HR.out]), E1.out⟩
  have K := Lib.hid (fun W h => hr ▸ adr.right_spec A c d W h HA.out.1 ht hn hk)
  have HR := Lib.hid hr
  clear hr
  cases hr : addrB e
  · have K' := Lib.hid (fun W h => hr ▸ adr.right_spec B c' e W h HA.out.2 ht' hn' hk')
    have HR' := Lib.hid hr
    clear hr
    go_enter Try.func9, Try.ntmps9
    go_wp2_with fail
    refine (K.out _ (H.out.below (below_a2 _ _ _))).mono ?_
    rintro _ w1 ⟨rfl, hb⟩
    have E1 := Lib.hid (below_then (below_a2 _ _ _) hb (Nat.le_refl _))
    have q1 := (((Blk.new1 w _ _ _).step hb)).cell
    have q0 := ((((Blk.new w _ _).alloc _).step hb)).cell
    clear hb
    go_wp2_with fail
    refine (K'.out _ (H'.out.below E1.out)).mono ?_
    rintro _ w2 ⟨rfl, hb⟩
    have E2 := Lib.hid (below_then E1.out hb (Nat.le_refl _))
    clear hb q0 q1
    go_wp2
    go_ret
    exact ⟨ret_bool (by simp [lessB, HR'.out]), E2.out⟩
  have K' := Lib.hid (fun W h => hr ▸ adr.right_spec B c' e W h HA.out.2 ht' hn' hk')
  have HR' := Lib.hid hr
  clear hr
  go_enter Try.func9, Try.ntmps9
  go_wp2_with fail
  refine (K.out _ (H.out.below (below_a2 _ _ _))).mono ?_
  rintro _ w1 ⟨rfl, hb⟩
  have E1 := Lib.hid (below_then (below_a2 _ _ _) hb (Nat.le_refl _))
  have Q1 := Lib.hid (((Blk.new1 w _ _ _).step hb))
  have Q0 := Lib.hid ((((Blk.new w _ _).alloc _).step hb))
  have q1 := Q1.out.cell
  have q0 := Q0.out.cell
  clear hb
  go_wp2_with fail
  refine (K'.out _ (H'.out.below E1.out)).mono ?_
  rintro _ w2 ⟨rfl, hb⟩
  have E2 := Lib.hid (below_then E1.out hb (Nat.le_refl _))
  have r1 := (Q1.out.step hb).cell
  have r0 := (Q0.out.step hb).cell
  clear hb q0 q1
  go_wp2_with fail
  refine (l02Less_any A B c c' d e _ (H.out.below E2.out) (H'.out.below E2.out) HA.out.1 HA.out.2).mono ?_
  rintro _ w3 ⟨rfl, hb⟩
  have E3 := Lib.hid (below_then E2.out hb (Nat.le_refl _))
  clear hb
  go_wp2
  go_ret
  exact ⟨ret_bool (by simp only [lessB, HR.out, HR'.out, Bool.true_and]), E3.out⟩
end Go.Proofs.Ytnhoknbofmpdbaa.cm
