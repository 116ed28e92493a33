/- What Unseal tells of a seal, and of one with a byte turned; a text made into bytes. No condition. -/
import Derived.Test.YtifgnebjjkjgoaaCrcI
import Derived.Test.YtifgnebjjkjgoaaDrawD
import Derived.WalkKit
import Derived.Lib.Hide
import Derived.Laws.IdiomStrings
namespace Go.Proofs.Ytifgnebjjkjgoaa.seal
open Go.RowKit Go.Lib
set_option linter.unusedVariables false
set_option linter.unusedSimpArgs false

theorem sealed_list (t : ByteArray) : (sealed t).data.toList = t.data.toList ++ (four (crc.moreOf 0 t)).data.toList := rfl
theorem four_len (n : Int) : (four n).data.toList.length = 4 := four_size n
theorem list_len (t : ByteArray) : t.data.toList.length = t.size := rfl
theorem ahead_sealed (t : ByteArray) : ahead (sealed t) = t := by
  apply bytes_eq
  rw [ahead_list, sealed_size, sealed_list, List.take_append_of_le_length (by rw [list_len]; omega), List.take_of_length_le (by rw [list_len]; omega)]
theorem told_sealed {t : ByteArray} (h : t.size ≤ 7996) : told (sealed t) = textOut t 0 0 := by
  have := told_ok (s := sealed t) (by rw [sealed_size]; omega) (by rw [sealed_size]; omega) (by rw [ahead_sealed, sealOf_yes h])
  rw [ahead_sealed] at this; exact this

theorem four_inj {n m : Int} (hn : crc.In n) (hm : crc.In m) (h : four n = four m) : n = m := by
  have h1 : (four n).data.toList = (four m).data.toList := by rw [h]
  have e : ∀ x, (four x).data.toList = [UInt8.ofNat (x % 256).toNat, UInt8.ofNat (x / 256 % 256).toNat, UInt8.ofNat (x / 65536 % 256).toNat, UInt8.ofNat (x / 16777216).toNat] := fun x => rfl
  rw [e, e] at h1
  simp only [List.cons.injEq, and_true] at h1
  obtain ⟨a, b, c, d⟩ := h1
  have u : ∀ x y : Int, 0 ≤ x → x < 256 → 0 ≤ y → y < 256 → UInt8.ofNat x.toNat = UInt8.ofNat y.toNat → x = y := fun x y hx0 hx hy0 hy h => by
    have h2 := congrArg UInt8.toNat h
    rw [UInt8.toNat_ofNat_of_lt' (by change _ < 256; omega), UInt8.toNat_ofNat_of_lt' (by change _ < 256; omega)] at h2
    omega
  have h0 := hn.1; have h1 := hn.2; have h2 := hm.1; have h3 := hm.2
  have ea := u _ _ (by omega) (by omega) (by omega) (by omega) a
  have eb := u _ _ (by omega) (by omega) (by omega) (by omega) b
  have ec := u _ _ (by omega) (by omega) (by omega) (by omega) c
  have ed := u _ _ (by omega) (by omega) (by omega) (by omega) d
  omega

/-- with one byte turned it is refused. -/
theorem told_turned {t b : ByteArray} {k : Nat} {x : UInt8} (h : t.size ≤ 7996) (hk : k < (sealed t).size) (hb : b.data.toList = (sealed t).data.toList.set k x) (hx : (sealed t).data.toList[k]? ≠ some x) :
    told b = textOut ByteArray.empty 0 5 := by
  have hsz : b.size = t.size + 4 := by rw [size_eq, hb, List.length_set, list_len, sealed_size]
  refine told_sum (by omega) (by omega) (fun hq => ?_)
  rw [← four_iff (by omega) (by omega)] at hq
  have hal := ahead_list b
  have hbl := behind_list b
  rw [hb, hsz, show t.size + 4 - 4 = t.size from by omega] at hal hbl
  rw [sealed_size] at hk
  have hct : crc.moreOf 0 t = crc.crcOf 0 t.data.toList := crc.moreOf_yes (by omega) (by omega) (by omega)
  by_cases hlt : k < t.size
  · have e1 : (sealed t).data.toList.set k x = t.data.toList.set k x ++ (four (crc.moreOf 0 t)).data.toList := by
      rw [sealed_list, List.set_append_left _ _ (by rw [list_len]; exact hlt)]
    have e2 : (ahead b).data.toList = t.data.toList.set k x := by
      rw [hal, e1, List.take_append_of_le_length (by rw [List.length_set, list_len]; omega), List.take_of_length_le (by rw [List.length_set, list_len]; omega)]
    have e3 : behind b = four (crc.moreOf 0 t) := by
      apply bytes_eq
      rw [hbl, e1, List.drop_append, List.drop_of_length_le (by rw [List.length_set, list_len]; omega), List.length_set, list_len, Nat.sub_self, List.drop_zero, List.nil_append]
    have has : (ahead b).size = t.size := by rw [size_eq, e2, List.length_set, list_len]
    rw [e3] at hq
    have e4 := four_inj (crc_in _) (crc_in _) hq
    rw [hct, crc.moreOf_yes (by omega) (by omega) (by omega), e2] at e4
    have hkl : k < t.data.toList.length := by rw [list_len]; exact hlt
    have e5 : t.data.toList = t.data.toList.take k ++ t.data.toList[k] :: t.data.toList.drop (k + 1) := by
      rw [List.getElem_cons_drop, List.take_append_drop]
    have e6 : t.data.toList.set k x = t.data.toList.take k ++ x :: t.data.toList.drop (k + 1) := List.set_eq_take_append_cons_drop.trans (if_pos hkl)
    rw [e6] at e4
    have e7 : crc.crcOf 0 t.data.toList = crc.crcOf 0 (t.data.toList.take k ++ t.data.toList[k] :: t.data.toList.drop (k + 1)) := congrArg _ e5
    rw [e7] at e4
    refine crc.crc_turned ⟨by omega, by omega⟩ _ _ (fun hc => hx ?_) e4
    rw [sealed_list, List.getElem?_append_left hkl, List.getElem?_eq_getElem hkl, hc]
  · have hge : t.size ≤ k := by omega
    have e1 : (sealed t).data.toList.set k x = t.data.toList ++ (four (crc.moreOf 0 t)).data.toList.set (k - t.size) x := by
      rw [sealed_list, List.set_append_right _ _ (by rw [list_len]; exact hge), list_len]
    have e2 : ahead b = t := by
      apply bytes_eq
      rw [hal, e1, List.take_append_of_le_length (by rw [list_len]; omega), List.take_of_length_le (by rw [list_len]; omega)]
    have e3 : (behind b).data.toList = (four (crc.moreOf 0 t)).data.toList.set (k - t.size) x := by
      rw [hbl, e1, List.drop_append, List.drop_of_length_le (by rw [list_len]; omega), list_len, Nat.sub_self, List.drop_zero, List.nil_append]
    rw [e2] at hq
    rw [← hq] at e3
    apply hx
    rw [sealed_list, List.getElem?_append_right (by rw [list_len]; exact hge), list_len, e3, List.getElem?_set_self (by rw [four_len]; omega)]
end Go.Proofs.Ytifgnebjjkjgoaa.seal
