/- AddrText, of the program and of the model. -/
import Derived.Test.YtnjpddbpnmgcpaaGreatDoorAdJ
import Derived.Test.YtnjpddbpnmgcpaaGreatDoorJoin
import Derived.Test.YtnjpddbpnmgcpaaGreatDoorDig
import Derived.Test.YtnjpddbpnmgcpaaGreatDoorShelf
import Derived.OwnWalk
namespace Go.Proofs.YtnjpddbpnmgcpaaGreatDoor.txt
open ad mem dig
open Go.ChangeShapes Go.WideShapes Go.ChangeAt Go.RowKit Go.Lib
set_option linter.unusedVariables false
set_option linter.unusedSimpArgs false

abbrev Told (w : World) (v : Value) (e : Ending) (w' : World) : Prop := adr.Told w v e w'

theorem join3 (a b c : ByteArray) (k : Nat) (w : World) (g : Nat) (h : Blk w g 9 #[.string a, .string b, .string c]) (hs : a.size + b.size + c.size ≤ 1000000000) :
    Calls Tryz.prog 23 #[.slice (some ⟨g, 0, none⟩) 3 k] w (Told w (.string (bs (a.data.toList ++ (b.data.toList ++ c.data.toList))))) := by
  have := str.join_c [a, b, c] g k w (fun j hj => by
    rw [h.cell]
    match j, hj with
    | 0, _ => rfl
    | 1, _ => rfl
    | 2, _ => rfl) (by simp) (by simp [str.cat]; omega) h.lt
  have e : str.cat [a, b, c] = a.data.toList ++ (b.data.toList ++ c.data.toList) := by simp [str.cat]
  rw [e] at this
  exact this

theorem bs_data (l : List UInt8) : (bs l).data.toList = l := rfl

theorem text_none (w : World) : Calls Tryz.prog 199 #[.agg #[]] w (Told w (.string (bs []))) := by
  have e : bs [] = ⟨#[]⟩ := rfl
  rw [e]
  go_enter Tryz.func199, Tryz.ntmps199
  go_wp2
  go_ret
  exact ⟨rfl, below_a1 _ _⟩

set_option maxHeartbeats 1000000 in
theorem text_num (i : Nat) (hi : i < 100) (w : World) : Calls Tryz.prog 195 #[.int .i64 i] w (Told w (.string (bs (91 :: (decDigits i ++ [93]))))) := by
  have hd := dec_len i
  go_enter Tryz.func195, Tryz.ntmps195
  go_wp2_with fail
  refine (Tryz.strconv_FormatInt_10_small i hi _).mono ?_
  rintro _ _ ⟨rfl, rfl⟩
  go_wp2_with fail
  refine (join3 ⟨#[91]⟩ (bs (decDigits i)) ⟨#[93]⟩ _ _ _ (Blk.new _ _ _) ?_).mono ?_
  · rw [bs_size]; show 1 + _ + 1 ≤ _; omega
  rintro _ w1 ⟨rfl, hb⟩
  have E := Lib.hid (below_then (below_a1 _ _) hb (Nat.le_refl _))
  clear hb
  go_wp2
  go_ret
  exact ⟨rfl, E.out⟩

set_option maxHeartbeats 1000000 in
theorem text_word (s : ByteArray) (hs : s.size ≤ 100) (w : World) : Calls Tryz.prog 197 #[.string s] w (Told w (.string (bs (91 :: (s.data.toList ++ [93]))))) := by
  go_enter Tryz.func197, Tryz.ntmps197
  go_wp2_with fail
  refine (join3 ⟨#[91]⟩ s ⟨#[93]⟩ _ _ _ (Blk.new _ _ _) ?_).mono ?_
  · show 1 + _ + 1 ≤ _; omega
  rintro _ w1 ⟨rfl, hb⟩
  have E := Lib.hid (below_then (below_a1 _ _) hb (Nat.le_refl _))
  clear hb
  go_wp2
  go_ret
  exact ⟨rfl, E.out⟩
end Go.Proofs.YtnjpddbpnmgcpaaGreatDoor.txt
