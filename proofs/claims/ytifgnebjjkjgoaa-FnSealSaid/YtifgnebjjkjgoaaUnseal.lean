/- Unseal, the program's and the model's, of any text. No condition. -/
import Derived.Test.YtifgnebjjkjgoaaRows
import Derived.Test.YtifgnebjjkjgoaaSealA
import Derived.WalkKit
import Derived.Lib.Hide
import Derived.ProofKit
import Derived.WalkSpells
import Derived.Handy
import Derived.Deep.RegionWith
namespace Go.Proofs.Ytifgnebjjkjgoaa.seal
open Go.ChangeShapes Go.WideShapes Go.ChangeAt Go.RowKit Go.Lib
set_option linter.unusedVariables false
set_option linter.unusedSimpArgs false

def textOut (t : ByteArray) (at' code : Int) : Value := .agg #[.string t, .int .i64 at', .int .i64 code]

/-- the text ahead of the last four bytes, and these. -/
def ahead (s : ByteArray) : ByteArray := s.extract 0 (s.size - 4)
def behind (s : ByteArray) : ByteArray := s.extract (s.size - 4) s.size
theorem ahead_list (s : ByteArray) : (ahead s).data.toList = s.data.toList.take (s.size - 4) := by unfold ahead; rw [extract_data]; simp
theorem behind_list (s : ByteArray) : (behind s).data.toList = s.data.toList.drop (s.size - 4) := by unfold behind; rw [extract_data, List.take_of_length_le (by rw [List.length_drop, ← size_eq]; omega)]
theorem ahead_size (s : ByteArray) : (ahead s).size = s.size - 4 := by rw [size_eq, ahead_list, List.length_take, ← size_eq]; omega
theorem bytes_eq {a b : ByteArray} (h : a.data.toList = b.data.toList) : a = b := by apply ByteArray.ext; exact Array.toList_inj.1 h
theorem list_eq (a b : ByteArray) : (a.toList == b.toList) = decide (a = b) := by
  rw [toList_data, toList_data]
  by_cases h : a = b
  · subst h; simp
  · rw [decide_eq_false h]
    exact beq_eq_false_iff_ne.2 (fun e => h (bytes_eq e))

/-- what both tell of a text. -/
noncomputable def told (s : ByteArray) : Value :=
  if 8000 < s.size then textOut ByteArray.empty 0 2 else if s.size < 4 then textOut ByteArray.empty 0 4
  else @ite _ (sealOf (ahead s) = s) (Classical.propDecidable _) (textOut (ahead s) 0 0) (textOut ByteArray.empty 0 5)
theorem told_size {s : ByteArray} (h : 8000 < s.size) : told s = textOut ByteArray.empty 0 2 := if_pos h
theorem told_short {s : ByteArray} (h : s.size ≤ 8000) (h4 : s.size < 4) : told s = textOut ByteArray.empty 0 4 := by unfold told; rw [if_neg (by omega), if_pos h4]
theorem told_ok {s : ByteArray} (h : s.size ≤ 8000) (h4 : 4 ≤ s.size) (hq : sealOf (ahead s) = s) : told s = textOut (ahead s) 0 0 := by
  unfold told; rw [if_neg (by omega), if_neg (by omega)]; exact if_pos hq
theorem told_sum {s : ByteArray} (h : s.size ≤ 8000) (h4 : 4 ≤ s.size) (hq : ¬ sealOf (ahead s) = s) : told s = textOut ByteArray.empty 0 5 := by
  unfold told; rw [if_neg (by omega), if_neg (by omega)]; exact if_neg hq

theorem four_iff {s : ByteArray} (h : s.size ≤ 8000) (h4 : 4 ≤ s.size) : four (crc.moreOf 0 (ahead s)) = behind s ↔ sealOf (ahead s) = s := by
  rw [sealOf_yes (by rw [ahead_size]; omega)]
  have e : s.data.toList = (ahead s).data.toList ++ (behind s).data.toList := by rw [ahead_list, behind_list, List.take_append_drop]
  constructor
  · intro hf
    apply bytes_eq
    unfold sealed
    rw [hf, e]
  · intro hs
    apply bytes_eq
    have e2 : (sealed (ahead s)).data.toList = (ahead s).data.toList ++ (four (crc.moreOf 0 (ahead s))).data.toList := rfl
    rw [hs, e] at e2
    exact (List.append_cancel_left e2).symm

/-- a cell of the answer, told again in a later world. -/
theorem cells_later {w w2 : World} {t x : Value} {y : Value} {T : TypeId} (hb : Below (w.alloc (.cells #[t, x, y] T)).heap.size (w.alloc (.cells #[t, x, y] T)) w2) :
    (w2.cell? ⟨w.heap.size, 0, none⟩ = some t ∧ w2.cell? ⟨w.heap.size, 1, none⟩ = some x ∧ w2.cell? ⟨w.heap.size, 2, none⟩ = some y) ∧
    (∀ j, w2.frozen? ⟨w.heap.size, j, none⟩ = false) ∧ w.heap.size < w2.heap.size := by
  have hrow : w2.heap[w.heap.size]? = some (.cells #[t, x, y] T (0, 0)) := by
    rw [hb.block _ (by simp)]; exact heap_alloc_new _ _
  refine ⟨⟨?_, ?_, ?_⟩, fun j => frozen_of_row _ _ _ _ _ hrow, ?_⟩
  · rw [cell_of_row _ _ _ _ _ _ hrow]; rfl
  · rw [cell_of_row _ _ _ _ _ _ hrow]; rfl
  · rw [cell_of_row _ _ _ _ _ _ hrow]; rfl
  · have := hb.size; simp at this; omega

set_option maxHeartbeats 1000000 in
theorem unseal_any (s : ByteArray) (w : World) :
    Calls Try.prog 15 #[.string s] w fun e w' => e = .returned (told s) ∧ Below w.heap.size w w' := by
  by_cases h : (8000 : Int) < s.size
  · have HV := Lib.hid (told_size (s := s) (by omega))
    go_enter Try.func15, Try.ntmps15
    go_wp2
    exact bodyPost_ret (v := textOut ByteArray.empty 0 2) (by simp [results, Try.results15, go_sem]; rfl) rfl ⟨by rw [HV.out], by go_grown⟩
  have h' : (s.size : Int) ≤ 8000 := by omega
  clear h
  by_cases h4 : (s.size : Int) < 4
  · have HV := Lib.hid (told_short (s := s) (by omega) (by omega))
    go_enter Try.func15, Try.ntmps15
    go_wp2
    exact bodyPost_ret (v := textOut ByteArray.empty 0 4) (by simp [results, Try.results15, go_sem]; rfl) rfl ⟨by rw [HV.out], by go_grown⟩
  have h4' : 4 ≤ (s.size : Int) := by omega
  clear h4
  have hz : ((ahead s).size : Int) ≤ 7996 := by rw [ahead_size]; omega
  by_cases hq : sealOf (ahead s) = s
  · have HV := Lib.hid (told_ok (s := s) (by omega) (by omega) hq)
    have hl : ((sealOf (s.extract 0 (s.size - 4))).toList == s.toList) = true := by rw [list_eq]; exact decide_eq_true hq
    clear hq
    go_enter Try.func15, Try.ntmps15
    go_wp2_with fail
    refine (seal_any _ _).mono ?_
    rintro e w2 ⟨rfl, hb⟩
    obtain ⟨⟨c0, c1, c2⟩, hf, hn⟩ := cells_later hb
    have f0 := hf 0
    have f1 := hf 1
    have f2 := hf 2
    clear hf
    go_wp2_with fail
    refine (str.join_any [s.extract 0 (s.size - 4)] w2.heap.size _ ?_ (by simp) ?_ (by simp)).mono ?_
    · intro k hk
      rw [World.cell?_alloc_at _ _ _ _ rfl]
      match k, hk with
      | 0, _ => rfl
    · rw [cat1]
      have e' : (s.extract 0 (s.size - 4)).data.toList.length = (ahead s).size := rfl
      omega
    rintro e w3 ⟨rfl, hb3⟩
    have hb' := hb.trans (((Below.refl w2.heap.size w2).alloc (Nat.le_refl _) (.cells #[Value.string (s.extract 0 (s.size - 4))] 9)).trans (hb3.mono (by simp)) |>.mono hb.size)
    clear c0 c1 c2 f0 f1 f2 hn hb3 hb
    obtain ⟨⟨c0, c1, c2⟩, hf, hn⟩ := cells_later hb'
    have hbw : Below w.heap.size w w3 := ((Below.refl w.heap.size w).alloc (Nat.le_refl _) _).trans (hb'.mono (by simp))
    have f0 := hf 0
    have f1 := hf 1
    have f2 := hf 2
    clear hf
    go_wp2_with fail
    refine bodyPost_ret (v := textOut (ahead s) 0 0) ?_ rfl ⟨by rw [HV.out], ?_⟩
    · simp [results, Try.results15, go_sem, c0, c1, c2]
      rw [cat1]; rfl
    · go_grown
  · have HV := Lib.hid (told_sum (s := s) (by omega) (by omega) hq)
    have hl : ((sealOf (s.extract 0 (s.size - 4))).toList == s.toList) = false := by rw [list_eq]; exact decide_eq_false hq
    clear hq
    go_enter Try.func15, Try.ntmps15
    go_wp2_with fail
    refine (seal_any _ _).mono ?_
    rintro e w2 ⟨rfl, hb⟩
    obtain ⟨⟨c0, c1, c2⟩, hf, hn⟩ := cells_later hb
    have f0 := hf 0
    have f1 := hf 1
    have f2 := hf 2
    clear hf
    have hbw : Below w.heap.size w w2 := ((Below.refl w.heap.size w).alloc (Nat.le_refl _) _).trans (hb.mono (by simp))
    go_wp2_with fail
    refine bodyPost_ret (v := textOut ByteArray.empty 0 5) ?_ rfl ⟨by rw [HV.out], ?_⟩
    · simp [results, Try.results15, go_sem, c0, c1, c2]
      rfl
    · go_grown
end Go.Proofs.Ytifgnebjjkjgoaa.seal
