/- slices.Concat of lists of texts. -/
import Derived.Test.YtflfnekaiaplfaaOwn
import Derived.Lib.AppendZerosOnto
import Derived.Deep.DeepAppendWide
import Derived.Outline
namespace Go.Proofs.Ytflfnekaiaplfaa.cat
open ad mem own
open Go.ChangeShapes Go.WideShapes Go.ChangeAt Go.RowKit Go.Lib
set_option linter.unusedVariables false
set_option linter.unusedSimpArgs false

/-- a list of the call's own. -/
def MadeL (w : World) (l : List ByteArray) (e : Ending) (w' : World) : Prop := ∃ A c, e = .returned (.slice A l.length c) ∧ Own w' w.heap.size (.slice A l.length c) l ∧ Below w.heap.size w w'

set_option maxHeartbeats 1000000 in
theorem grow_nil (n : Nat) (w : World) (hn : n ≤ 1000000) :
    Calls Try.prog 82 #[.slice none 0 0, .int .i64 n] w (MadeL w []) := by
  obtain ⟨i0, hi, hz0, hz1, hz2⟩ := info_parts info_str
  by_cases h0 : n = 0
  · subst h0
    go_enter Try.func82, Try.ntmps82
    go_wp2
    go_ret
    exact ⟨none, 0, rfl, Own.nil _ _, Below.refl _ _⟩
  · have hpos : 0 < n := by omega
    have hposI : (0 : Int) < n := by omega
    have hge := grownCap_ge w n 0 9
    have hle := grownCap_le_maxLen w n 0 9 (by unfold maxLen; omega)
    have eb : (Try.t9).bytes = 16 := by kernel_rfl
    have h1 : ¬ (281474976710656 < (n : Int) * ((Try.t9).bytes : Int)) := by rw [eb]; omega
    have h2 : ¬ (281474976710656 < Builtin.nextslicecap n 0 * (Try.t9).bytes) := by rw [eb]; have := growslice_fits_wide (need := n) (old := 0) (bytes := 16) (by omega) (by omega); omega
    have HGE := Lib.hid hge
    have HLE := Lib.hid hle
    have hG : (grownCap w n 0 9 : Int) ≤ 9223372036854775807 := by unfold maxLen at hle; omega
    have hnn : ¬ (n = 0) := h0
    clear h0 hge hle eb
    go_enter Try.func82, Try.ntmps82
    go_wp2
    go_ret
    refine ⟨some ⟨w.heap.size, 0, none⟩, grownCap w n 0 9, rfl, ⟨rfl, .inr ⟨w.heap.size, _, _, rfl, Nat.le_refl _, heap_alloc_new w.drew _, Nat.zero_le _, HLE.out, ?_, by simp⟩⟩, (Below.refl _ _).drew.alloc (Nat.le_refl _) _⟩
    have := HGE.out
    have e : grownCap w n 0 9 = (Question.appendCap n 0 9).cut (w.tape w.drawn (Question.appendCap n 0 9)) := rfl
    simp only [e] at *
    simp [size_zeroCells]
    omega

/-- a list of lists of texts that stands in a block. -/
def Vss (w : World) (g : Nat) (L : List (Option Addr × Nat × List ByteArray)) : Prop :=
  g < w.heap.size ∧ ∀ k (h : k < L.length), w.cell? ⟨g, k, none⟩ = some (.slice L[k].1 L[k].2.2.length L[k].2.1) ∧ Strs w L[k].1 L[k].2.2
theorem Vss.step {w w' : World} {g : Nat} {L : List (Option Addr × Nat × List ByteArray)} (h : Vss w g L) (hb : Below w.heap.size w w') : Vss w' g L :=
  ⟨Nat.lt_of_lt_of_le h.1 hb.size, fun k hk => ⟨by rw [hb.cell (p := ⟨g, k, none⟩) h.1]; exact (h.2 k hk).1, (h.2 k hk).2.below hb⟩⟩
def flat (L : List (Option Addr × Nat × List ByteArray)) : List ByteArray := L.flatMap (·.2.2)
theorem flat_snoc (L : List (Option Addr × Nat × List ByteArray)) (k : Nat) (h : k < L.length) : flat (L.take (k + 1)) = flat (L.take k) ++ L[k].2.2 := by
  unfold flat; rw [List.take_succ_eq_append_getElem h, List.flatMap_append]; simp
theorem flat_le (L : List (Option Addr × Nat × List ByteArray)) (k : Nat) : (flat (L.take k)).length ≤ (flat L).length := by
  have e : flat L = flat (L.take k) ++ flat (L.drop k) := by unfold flat; rw [← List.flatMap_append, List.take_append_drop]
  rw [e, List.length_append]; omega

set_option maxHeartbeats 2000000 in
theorem concat_any (g c : Nat) (L : List (Option Addr × Nat × List ByteArray)) (w : World) (h : Vss w g L) (hl : L.length ≤ 1000) (hf : (flat L).length ≤ 1000000) :
    Calls Try.prog 81 #[.slice (some ⟨g, 0, none⟩) L.length c] w (MadeL w (flat L)) := by
  have H := Lib.hid h
  clear h
  go_enter Try.func81, Try.ntmps81
  go_wp2
  go_loop [3, 11] (fun s i => ∃ k n : Nat, k ≤ L.length ∧ n = (flat (L.take k)).length ∧ i = .int .i64 k ∧ s = .int .i64 n) (fun _ i => L.length - (RowKit.intOf i).toNat)
  case atStart => exact ⟨0, 0, Nat.zero_le _, rfl, rfl, rfl⟩
  case round =>
    obtain ⟨k, n, hk, hn, rfl, rfl⟩ := hrel
    have hnb : n ≤ 1000000 := by rw [hn]; exact Nat.le_trans (flat_le L k) hf
    have HN := Lib.hid hn
    clear hn
    by_cases hlt : k < L.length
    · have hc := (H.out.2 k hlt).1
      have e := flat_snoc L k hlt
      have hle := flat_le L (k + 1)
      have hlb : L[k].2.2.length ≤ 1000000 := by rw [e, List.length_append] at hle; omega
      have HE := Lib.hid e
      have hsum : n + L[k].2.2.length ≤ 1000000 := by rw [e, List.length_append, ← HN.out] at hle; omega
      clear e hle
      go_wp2
      go_round
      case rel => exact ⟨k + 1, n + L[k].2.2.length, hlt, by rw [HE.out, List.length_append, HN.out], by go_num, by go_num⟩
      case measure => simp [RowKit.intOf]; omega
    · obtain rfl : k = L.length := by omega
      go_wp2_with fail
      refine (grow_nil n _ hnb).mono ?_
      rintro _ w1 ⟨A, cp, rfl, ho, hb⟩
      have HO := Lib.hid ho
      have E1 := Lib.hid hb
      clear ho hb
      go_wp2
      go_loopw [6, 27] (fun v i wr => ∃ k : Nat, k ≤ L.length ∧ i = .int .i64 k ∧ Own wr w.heap.size v (flat (L.take k)) ∧ Below w.heap.size w wr) (fun _ i _ => L.length - (RowKit.intOf i).toNat)
      case atStart => exact ⟨0, Nat.zero_le _, rfl, HO.out, E1.out⟩
      case round =>
        clear HO E1 HN
        obtain ⟨k, hk, rfl, ho, hb⟩ := hrel
        have HO := Lib.hid ho
        have E := Lib.hid hb
        have V := Lib.hid (H.out.step hb)
        have hzz := hb.size
        clear ho hb
        by_cases hlt : k < L.length
        · have hc := (V.out.2 k hlt).1
          have e := flat_snoc L k hlt
          have hle := flat_le L (k + 1)
          have hsum : (flat (L.take k)).length + L[k].2.2.length ≤ 2000000 := by rw [e, List.length_append] at hle; omega
          have HS := Lib.hid hsum
          have HE := Lib.hid e
          clear e hle hsum
          go_wp2_with (at_builtin; refine wpList_append rfl (.tmp 31) (.tmp 32) rfl w.heap.size _ (flat (L.take k)) rfl HO.out L[k].1 L[k].2.1 L[k].2.2 rfl (V.out.2 k hlt).2 HS.out hzz ?_)
          intro v' w3 ho hg
          have hr := HO.out.row
          have E3 := Lib.hid (E.out.grown hg hzz (fun q hq => (hr q hq).1))
          have HO3 : Hid (Own w3 w.heap.size v' (flat (L.take (k + 1)))) := by
            show Own _ _ _ _
            rw [HE.out]; exact ho
          clear ho hg hr
          go_wp2
          go_roundw
          case rel => exact ⟨k + 1, hlt, by go_num, HO3.out, E3.out⟩
          case measure => simp [RowKit.intOf]; omega
        · obtain rfl : k = L.length := by omega
          rw [List.take_length] at HO
          obtain ⟨B, cp, rfl⟩ := HO.out.form
          go_wp2
          go_ret
          exact ⟨B, cp, rfl, HO.out, E.out⟩
end Go.Proofs.Ytflfnekaiaplfaa.cat
