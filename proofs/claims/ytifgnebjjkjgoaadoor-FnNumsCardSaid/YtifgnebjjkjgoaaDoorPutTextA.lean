/- PutText, the program's and the model's, of any text. No condition. -/
import Derived.Test.YtifgnebjjkjgoaaDoorRows
import Derived.Test.YtifgnebjjkjgoaaDoorJoin
import Derived.Test.YtifgnebjjkjgoaaDoorPutNumA
import Derived.WalkKit
import Derived.Lib.Hide
import Derived.ProofKit
import Derived.WalkSpells
import Derived.Handy
namespace Go.Proofs.YtifgnebjjkjgoaaDoor.num
open Go.ChangeShapes Go.WideShapes Go.ChangeAt Go.RowKit Go.Lib
set_option linter.unusedVariables false
set_option linter.unusedSimpArgs false

/-- the bytes of a number. -/
def numB (n : Int) : ByteArray := ⟨(enc (zz n).toNat).toArray⟩
theorem numB_size {n : Int} (h0 : -9223372036854775808 ≤ n) (h1 : n ≤ 9223372036854775807) : (numB n).size ≤ 10 := by
  have h := zz_in h0 h1
  have : (numB n).size = (enc (zz n).toNat).length := rfl
  rw [this]; exact enc_ten (by omega)
def textB (t : ByteArray) : ByteArray := ⟨((numB t.size).data.toList ++ t.data.toList).toArray⟩
/-- what both tell of a text. -/
def putOf (t : ByteArray) : ByteArray := if t.size ≤ 8000 then textB t else ByteArray.empty
theorem putOf_yes {t : ByteArray} (h : t.size ≤ 8000) : putOf t = textB t := if_pos h
theorem putOf_no {t : ByteArray} (h : 8000 < t.size) : putOf t = ByteArray.empty := if_neg (by omega)
theorem cat2 (a b : ByteArray) : str.cat [a, b] = a.data.toList ++ b.data.toList := by simp [str.cat]

set_option maxHeartbeats 1000000 in
theorem text_impl (t : ByteArray) (w : World) :
    Calls Tryd.prog 11 #[.string t] w fun e w' => e = .returned (.string (putOf t)) ∧ Below w.heap.size w w' := by
  by_cases h : (8000 : Int) < t.size
  · have HV := Lib.hid (putOf_no (t := t) (by omega))
    go_enter Tryd.func11, Tryd.ntmps11
    go_wp2
    go_ret
    exact ⟨ret_str HV.out.symm, Below.refl _ _⟩
  have h' : (t.size : Int) ≤ 8000 := by omega
  clear h
  have HV := Lib.hid (putOf_yes (t := t) (by omega))
  have hsz := numB_size (n := t.size) (by omega) (by omega)
  have k := fun w => put_impl t.size w (by omega) (by omega)
  have K : Hid (∀ w, Calls Tryd.prog 7 #[.int .i64 t.size] w fun e w' => e = .returned (.string (numB t.size)) ∧ Below w.heap.size w w') := Lib.hid k
  clear k
  have HT : Hid (textB t = ⟨((numB t.size).data.toList ++ t.data.toList).toArray⟩) := Lib.hid rfl
  generalize numB t.size = b at *
  go_enter Tryd.func11, Tryd.ntmps11
  go_wp2_with fail
  refine (K.out _).mono ?_
  rintro e w1 ⟨rfl, hb1⟩
  go_wp2_with fail
  refine (str.join_any [b, t] w1.heap.size _ ?_ (by simp) ?_ (by simp)).mono ?_
  · intro k hk
    rw [World.cell?_alloc_at _ _ _ _ rfl]
    match k, hk with
    | 0, _ => rfl
    | 1, _ => rfl
  · rw [cat2, List.length_append]
    have e : b.data.toList.length = b.size := rfl
    have e' : t.data.toList.length = t.size := rfl
    omega
  rintro e w2 ⟨rfl, hb2⟩
  have g : Below w.heap.size w w2 := (hb1.alloc hb1.size _).trans (hb2.mono (by have := hb1.size; simp; omega))
  clear hb2
  go_wp2
  go_ret
  exact ⟨ret_str (by rw [HV.out, HT.out, cat2]), g⟩

set_option maxHeartbeats 1000000 in
theorem text_spec (t : ByteArray) (w : World) :
    Calls Tryd.prog 12 #[.string t] w fun e w' => e = .returned (.string (putOf t)) ∧ Below w.heap.size w w' := by
  by_cases h : (8000 : Int) < t.size
  · have HV := Lib.hid (putOf_no (t := t) (by omega))
    go_enter Tryd.func12, Tryd.ntmps12
    go_wp2
    go_ret
    exact ⟨ret_str HV.out.symm, Below.refl _ _⟩
  have h' : (t.size : Int) ≤ 8000 := by omega
  clear h
  have HV := Lib.hid (putOf_yes (t := t) (by omega))
  have hsz := numB_size (n := t.size) (by omega) (by omega)
  have k := fun w => put_spec t.size w (by omega) (by omega)
  have K : Hid (∀ w, Calls Tryd.prog 8 #[.int .i64 t.size] w fun e w' => e = .returned (.string (numB t.size)) ∧ Below w.heap.size w w') := Lib.hid k
  clear k
  have HT : Hid (textB t = ⟨((numB t.size).data.toList ++ t.data.toList).toArray⟩) := Lib.hid rfl
  generalize numB t.size = b at *
  have hadd : b.size + t.size ≤ 9223372036854775807 := by omega
  go_enter Tryd.func12, Tryd.ntmps12
  go_wp2_with fail
  refine (K.out _).mono ?_
  rintro e w1 ⟨rfl, hb1⟩
  go_wp2
  go_ret
  refine ⟨ret_str ?_, hb1⟩
  rw [HV.out, HT.out]
  apply ByteArray.ext
  simp [ByteArray.data_append]
end Go.Proofs.YtifgnebjjkjgoaaDoor.num
