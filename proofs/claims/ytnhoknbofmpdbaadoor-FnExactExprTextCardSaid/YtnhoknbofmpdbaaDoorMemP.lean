/- Helpers that some seats lack. -/
import Derived.Test.YtnhoknbofmpdbaaDoorMem
import Derived.Test.YtnhoknbofmpdbaaDoorRows
import Derived.Test.YtnhoknbofmpdbaaDoorAd
import Derived.WalkKit
import Derived.Lib.Hide
import Derived.ProofKit
import Derived.WalkSpells
import Derived.Below
import Derived.Laws.OwnMore
import Derived.OwnWalk
import Derived.OneCell
import Derived.Deep.Draws
namespace Go.Proofs.YtnhoknbofmpdbaaDoor.mem
open ad
open Go.ChangeShapes Go.WideShapes Go.ChangeAt Go.RowKit Go.Lib
set_option linter.unusedVariables false
set_option linter.unusedSimpArgs false
set_option maxRecDepth 8000

set_option maxHeartbeats 1000000 in
theorem toStringS_any (A : Option Addr) (c : Nat) (l : List ByteArray) (w : World) (h : Strs w A l) (hl : l.length ≤ 1048576) :
    Calls Tryd.prog 75 #[.slice A l.length c] w (NewRow w l) := by
  obtain ⟨i0, hi, hz0, hz1, hz2⟩ := info_parts info_str
  have H := Lib.hid h
  clear h
  go_enter Tryd.func75, Tryd.ntmps75
  go_wp2_with (at_make; refine wpList_make_full _ rfl (.tmp 6) (.tmp 6) 22 rfl w.heap.size 9 i0 (.string ByteArray.empty) 1 Tryd.underlying22 hi hz0 hz1 .i64 .i64 _ _ l.length rfl rfl rfl rfl ?b2 ?b3 ?b4 ?_)
  case b2 => rw [hz2]; omega
  case b3 => unfold maxLen; omega
  case b4 => exact Nat.le_refl _
  intro w1 hown hgrow
  have hrow := Lib.hid (made_strs hown)
  have hbl : Below w.heap.size w w1 := (Below.refl _ _).grown hgrow (Nat.le_refl _) (by simp)
  clear hown hgrow
  go_wp2
  go_loopw [4] (fun i wr => ∃ k : Nat, k ≤ l.length ∧ i = .int .i64 k ∧ wr.heap[w.heap.size]? = some (.cells (fillL l k).toArray 9 (0, 0)) ∧ Below w.heap.size w wr) (fun i _ => l.length - (intOf i).toNat)
  case atStart => exact ⟨0, Nat.zero_le _, rfl, by rw [fillL_zero]; exact hrow.out, hbl⟩
  case round =>
    clear hrow hbl
    obtain ⟨k, hk, rfl, hrow, hbl⟩ := hrel
    have HR := Lib.hid hrow
    clear hrow
    by_cases hlt : k < l.length
    · obtain ⟨b, o, rfl, hbg, hc, hsz⟩ := H.out k hlt
      have hcr : wr.cell? ⟨b, o + k, none⟩ = some (.string l[k]) := by rw [hbl.cell (p := ⟨b, o + k, none⟩) hbg]; exact hc
      have hf := frozen_of_row _ _ k _ _ HR.out
      obtain ⟨x, hx⟩ : ∃ x, wr.cell? ⟨w.heap.size, k, none⟩ = some x := by
        rw [cell_of_row _ _ _ _ _ _ HR.out]
        exact ⟨_, Array.getElem?_eq_getElem (by simp [fillL_len l k hk, hlt])⟩
      clear hc
      go_wp2
      go_roundw
      case rel => exact ⟨k + 1, by omega, by go_num, by rw [← fillL_set l k hlt]; exact row_set HR.out, hbl.setCell (p := ⟨w.heap.size, k, none⟩) (Nat.le_refl _) _⟩
      case measure => simp [intOf]; omega
    · obtain rfl : k = l.length := by omega
      go_wp2
      go_ret
      exact ⟨w.heap.size, rfl, Nat.le_refl _, by unfold Row; rw [HR.out, fillL_all], hbl⟩
end Go.Proofs.YtnhoknbofmpdbaaDoor.mem
