/- What is read of the bytes of a text, whole and cut. No condition. -/
import Derived.Test.YtifgnebjjkjgoaaDoorNumT
import Derived.Lib.PathFns
import Derived.WalkKit
namespace Go.Proofs.YtifgnebjjkjgoaaDoor.rd
open Go.RowKit Go.Lib
set_option linter.unusedVariables false
set_option linter.unusedSimpArgs false

theorem len_size (t : ByteArray) : t.data.toList.length = t.size := rfl
theorem bytes_eq {a b : ByteArray} (h : a.data.toList = b.data.toList) : a = b := by apply ByteArray.ext; exact Array.toList_inj.1 h
theorem textB_list (u : ByteArray) : (num.textB u).data.toList = (num.numB u.size).data.toList ++ u.data.toList := rfl
theorem textB_size (u : ByteArray) : (num.textB u).size = (num.numB u.size).size + u.size := by
  rw [← len_size, textB_list, List.length_append, len_size, len_size]

theorem tres_back {s u : ByteArray} {i : Int} {rest : List UInt8} (hu : u.size ≤ 8000) (hs : s.size ≤ 8000) (hi : 0 ≤ i) (hl : s.data.toList.drop i.toNat = (num.textB u).data.toList ++ rest) :
    tres s i = .ok (u, i + ((num.textB u).size : Int)) := by
  have hr := res_back (n := u.size) (rest := u.data.toList ++ rest) (by omega) (by omega) hs hi (by rw [hl, textB_list, List.append_assoc])
  have hlen : s.size = i.toNat + ((num.textB u).size + rest.length) ∨ s.size ≤ i.toNat := by
    have := congrArg List.length hl
    rw [List.length_drop, len_size, List.length_append, len_size] at this
    omega
  have hpos : 0 < (num.numB u.size).size := num.enc_pos _
  have hts := textB_size u
  have hlen2 : s.size = i.toNat + ((num.textB u).size + rest.length) := by
    rcases hlen with h | h
    · exact h
    · have := congrArg List.length hl
      rw [List.length_drop, len_size, List.length_append, len_size] at this
      omega
  have hn : numOf (num.zz u.size).toNat = (u.size : Int) := num_zz
  have h3 := tres_ok hr (by simp only [hn]; omega) (by simp only [hn]; omega)
  rw [h3]
  simp only [hn]
  have hx : s.extract (i + ((num.numB u.size).size : Int)).toNat (i + ((num.numB u.size).size : Int) + (u.size : Int)).toNat = u := by
    apply bytes_eq
    rw [extract_data, show (i + ((num.numB u.size).size : Int)).toNat = i.toNat + (num.numB u.size).size from by omega, ← List.drop_drop, hl, textB_list, List.append_assoc,
      List.drop_append_of_le_length (by rw [len_size]; omega), List.drop_of_length_le (by rw [len_size]; omega), List.nil_append,
      List.take_append_of_le_length (by rw [len_size]; omega), List.take_of_length_le (by rw [len_size]; omega)]
  rw [hx, show i + ((num.numB u.size).size : Int) + (u.size : Int) = i + ((num.textB u).size : Int) from by omega]

theorem tres_cut {s u : ByteArray} (hu : u.size ≤ 8000) (hs : s.size ≤ 8000) (hl : s.data.toList = (num.textB u).data.toList.dropLast) : tres s 0 = .error 4 := by
  by_cases h0 : u.size = 0
  · have hnil : u.data.toList = [] := List.eq_nil_of_length_eq_zero h0
    rw [textB_list, hnil, List.append_nil] at hl
    exact tres_err (res_cut (n := u.size) (by omega) (by omega) hl hs)
  · have hne : u.data.toList ≠ [] := fun e => by have := len_size u; rw [e] at this; simp at this; omega
    rw [textB_list, List.dropLast_append_of_ne_nil hne] at hl
    have hr := res_back (s := s) (n := u.size) (i := 0) (rest := u.data.toList.dropLast) (by omega) (by omega) hs (by omega) (by simpa using hl)
    have hlen := congrArg List.length hl
    rw [len_size, List.length_append, len_size, List.length_dropLast, len_size] at hlen
    have hn : numOf (num.zz u.size).toNat = (u.size : Int) := num_zz
    exact tres_short hr (by simp only [hn]; omega) (by simp only [hn]; omega)
end Go.Proofs.YtifgnebjjkjgoaaDoor.rd
