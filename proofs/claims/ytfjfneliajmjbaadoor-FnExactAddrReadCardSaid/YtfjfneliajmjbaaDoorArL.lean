/- Addresses with a code: compared, marked, asked by the laws (without Rehome). -/
import Derived.Test.YtfjfneliajmjbaaDoorMark
import Derived.Test.YtfjfneliajmjbaaDoorArK
namespace Go.Proofs.YtfjfneliajmjbaaDoor.arl
open ad mem dig own
open Go.ChangeShapes Go.WideShapes Go.ChangeAt Go.RowKit Go.Lib
set_option linter.unusedVariables false
set_option linter.unusedSimpArgs false

theorem ars_ret {a b : Bool} (h : a = b) : Ending.returned (.bool a) = .returned (.bool b) := by rw [h]
set_option maxHeartbeats 1000000 in
theorem eq_out (A B : Option Addr) (c c' : Nat) (d : AddrD) (x : Int) (w : World) (h : Strs w A d.path) (h' : Strs w B d.path) (hl : d.path.length ≤ 1048576) :
    Calls Tryd.prog 6 #[.agg #[.slice A d.path.length c, .string d.typ, .string d.nam, .int .i64 d.kind, .int .i64 d.n, .string d.key, .int .i64 x], .agg #[.slice B d.path.length c', .string d.typ, .string d.nam, .int .i64 d.kind, .int .i64 d.n, .string d.key, .int .i64 x]] w (dig.Told w (.bool true)) := by
  have H := Lib.hid h
  have H' := Lib.hid h'
  clear h h'
  go_enter Tryd.func6, Tryd.ntmps6
  go_wp2_with fail
  refine (adl.eq_same A B c c' d _ (H.out.below (below_a2 _ _ _)) (H'.out.below (below_a2 _ _ _)) hl).mono ?_
  rintro _ w1 ⟨rfl, hb⟩
  have E := Lib.hid (below_then (below_a2 _ _ _) hb (Nat.le_refl _))
  have q0 := (((Blk.new w _ _).alloc _).step hb).cell
  have q1 := ((Blk.new1 w _ _ _).step hb).cell
  clear hb
  go_wp2
  go_ret
  exact ⟨ars_ret (by simp), E.out⟩

set_option maxHeartbeats 1000000 in
theorem mark_out (A : Option Addr) (c base : Nat) (d : AddrD) (x : Int) (a : Int) (k : Nat) (w : World) (h : Own w base (.slice A d.path.length c) d.path) (ha : (k : Int) = a) (hl : d.path.length ≤ 1048576) (hk1 : 1 ≤ k) (hk : k ≤ 10000000) :
    Calls Tryd.prog 7 #[.agg #[.slice A d.path.length c, .string d.typ, .string d.nam, .int .i64 d.kind, .int .i64 d.n, .string d.key, .int .i64 x], .int .i64 a] w (MarkedI w base (.slice A d.path.length c) a k d.path.length) := by
  have H := Lib.hid h
  clear h
  have HA := Lib.hid ha
  clear ha
  go_enter Tryd.func7, Tryd.ntmps7
  go_wp2_with fail
  refine (mark_addrI A c base d a k _ (H.out.alloc _) HA.out hl hk1 hk).mono ?_
  rintro _ w1 ⟨rfl, ho, hg⟩
  have HO := Lib.hid ho
  have HG := Lib.hid (grown_then (below_a1 _ _) hg)
  clear ho hg
  go_wp2
  go_ret
  exact ⟨rfl, HO.out, HG.out⟩

set_option maxHeartbeats 1000000 in
theorem held_out (A : Option Addr) (c n : Nat) (T N K : ByteArray) (kd i x : Int) (a : Int) (k : Nat) (w : World) (h : Strs w A (marks k n)) (ha : (k : Int) = a) (hl : n ≤ 1048576) (hk1 : 1 ≤ k) (hk : k ≤ 10000000) :
    Calls Tryd.prog 8 #[.agg #[.slice A n c, .string T, .string N, .int .i64 kd, .int .i64 i, .string K, .int .i64 x], .int .i64 a] w (dig.Told w (.int .i64 (a + n))) := by
  have H := Lib.hid h
  have HA := Lib.hid ha
  have ha0 : 0 ≤ a := by omega
  clear h ha
  go_enter Tryd.func8, Tryd.ntmps8
  go_wp2_with fail
  refine (held_addrI A c n T N K kd i a k _ (H.out.alloc _) HA.out hl hk1 hk).mono ?_
  rintro _ w1 ⟨rfl, hb⟩
  have E := Lib.hid (below_then (below_a1 _ _) hb (Nat.le_refl _))
  clear hb
  go_wp2
  go_ret
  exact ⟨rfl, E.out⟩


/-- what the law wants of the library's variables. -/
structure Met3 (w : World) : Prop where
  errs : par.Errs w
  mx : ari.Mx w
theorem Met3.below {w w' : World} (h : Met3 w) (hb : Below w.heap.size w w') : Met3 w' := ⟨h.errs.below hb, h.mx.below hb⟩
theorem ans_small (s : ByteArray) : (rda.ansA s).1.path.length ≤ 1048576 ∧ ∀ k (h : k < (rda.ansA s).1.path.length), (rda.ansA s).1.path[k].size ≤ maxLen := by
  by_cases h8 : 8000 < s.size
  · rw [rda.ansA_long h8]; exact ⟨by decide, fun k h => absurd h (by show ¬ k < 0; omega)⟩
  · by_cases h : ∃ d, rda.HasA s d
    · obtain ⟨d, hd⟩ := h
      rw [rda.ansA_yes h8 (fun u hu => (ari.cutI_is hd).symm.trans (ari.cutI_is hu)) hd]
      have hp := ard.path_words (ard.key_parts hd.1).1
      exact ⟨Nat.le_trans hp.1 (by decide), fun k hk => Nat.le_trans (wordB_iff.1 (hp.2 _ (List.getElem_mem hk))).2.1 (by decide)⟩
    · rw [rda.ansA_no h8 h]; exact ⟨by decide, fun k h => absurd h (by show ¬ k < 0; omega)⟩
end Go.Proofs.YtfjfneliajmjbaaDoor.arl
