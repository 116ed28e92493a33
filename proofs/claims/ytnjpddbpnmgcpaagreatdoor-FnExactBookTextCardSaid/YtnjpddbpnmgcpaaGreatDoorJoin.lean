/- The program's 'join': of any texts that stand in a block, it tells them one behind the other. Conditions: together at most 2^40 bytes, at most 2^40 texts. */ -/
import Derived.Test.YtnjpddbpnmgcpaaGreatDoorRows
import Derived.Test.YtnjpddbpnmgcpaaGreatDoorStrM
import Derived.WalkKit
import Derived.Lib.Hide
import Derived.ProofKit
import Derived.WalkSpells
namespace Go.Proofs.YtnjpddbpnmgcpaaGreatDoor.str
open Go.ChangeShapes Go.WideShapes Go.ChangeAt Go.RowKit Go.Lib
set_option linter.unusedVariables false
set_option linter.unusedSimpArgs false

theorem info_u8 : (Tryz.prog.info? 5).map (fun i => (i.zero, i.size, i.bytes)) = some (some (.int .u8 0), 1, 1) := by kernel_rfl

set_option maxHeartbeats 1000000 in
theorem join_c (ss : List ByteArray) (b c : Nat) (w : World) (hc : ∀ k (h : k < ss.length), w.cell? ⟨b, k, none⟩ = some (.string ss[k])) (hn : ss.length ≤ 1099511627776) (hsz : (cat ss).length ≤ 1099511627776) (hbw : b < w.heap.size) :
    Calls Tryz.prog 23 #[.slice (some ⟨b, 0, none⟩) ss.length c] w fun e w' => e = .returned (.string ⟨(cat ss).toArray⟩) ∧ Below w.heap.size w w' := by
  obtain ⟨i0, hi, hz0, hz1, hz2⟩ := info_parts info_u8
  have hone : (Tryz.prog.info? 5).map (·.size) = some 1 := by rw [hi, Option.map_some, hz1]
  have HC := Lib.hid hc
  clear hc
  go_enter Tryz.func23, Tryz.ntmps23
  go_wp2
  go_loop [3, 12] (fun n i => ∃ k : Nat, k ≤ ss.length ∧ i = .int .i64 k ∧ n = .int .i64 (cat (ss.take k)).length) (fun _ i => ss.length - (intOf i).toNat)
  case atStart => exact ⟨0, Nat.zero_le _, rfl, rfl⟩
  case round =>
    obtain ⟨k, hk, rfl, rfl⟩ := hrel
    by_cases hlt : k < ss.length
    · have hcell := HC.out k hlt
      have hl1 := cat_le ss k
      have hl2 := cat_le ss (k + 1)
      have hl3 := cat_len ss k hlt
      have H3 := Lib.hid hl3
      have hb1 : ss[k].size ≤ 1099511627776 := by omega
      clear hl3
      go_wp2
      go_round
      case rel => exact ⟨k + 1, by omega, by go_num, by rw [H3.out]; go_num⟩
      case measure => simp [intOf]; omega
    · obtain rfl : k = ss.length := by omega
      have hl1 : (cat (ss.take ss.length)).length = (cat ss).length := by rw [cat_all ss _ (Nat.le_refl _)]
      have H1 := Lib.hid hl1
      clear hl1
      rw [H1.out] 
      go_wp2_with (at_make; refine wpList_make_full _ rfl (.tmp 21) (.tmp 21) 44 rfl w.heap.size 5 i0 (.int .u8 0) 1 Tryz.underlying44 hi hz0 hz1 .i64 .i64 _ _ (cat ss).length rfl rfl rfl rfl ?b2 ?b3 ?b4 ?_)
      case b2 => omega
      case b3 => unfold maxLen; omega
      intro w1 hown hgrow
      have hrow := Lib.hid (made_row hown)
      have hbl : Below w.heap.size w w1 := (Below.refl _ _).grown hgrow (Nat.le_refl _) (by simp)
      clear hown hgrow
      go_wp2
      go_loopw [7, 25] (fun n i wr => ∃ k A : Nat, k ≤ ss.length ∧ i = .int .i64 k ∧ n = .int .i64 A ∧ A = (cat (ss.take k)).length ∧ wr.heap[w.heap.size]? = some (.cells (rowOf (cat (ss.take k)) (cat ss).length).toArray 5 (0, 0)) ∧ Below w.heap.size w wr) (fun _ i _ => ss.length - (intOf i).toNat)
      case atStart => exact ⟨0, 0, Nat.zero_le _, rfl, rfl, rfl, hrow.out, hbl⟩
      case round =>
        clear hrow hbl
        obtain ⟨k, A, hk, rfl, rfl, hA, hrow, hbl⟩ := hrel
        have hrow := Lib.hid hrow
        have hAN : A ≤ (cat ss).length := by rw [hA]; exact cat_le ss k
        by_cases hlt : k < ss.length
        · have hcell : wr.cell? ⟨b, k, none⟩ = some (.string ss[k]) := by rw [hbl.cell (p := ⟨b, k, none⟩) hbw]; exact HC.out k hlt
          have hl2 := cat_le ss (k + 1)
          have hl3 := cat_len ss k hlt
          have hb1 : ss[k].size ≤ 1099511627776 := by omega
          have hAs : A + ss[k].size ≤ (cat ss).length := by omega
          have HA := Lib.hid hA
          have H3 := Lib.hid hl3
          clear hl3 hA hl2
          rcases Nat.lt_or_ge A (cat ss).length with hlt2 | hge2
          · go_wp2_with (refine wpList_copy_str rfl (.tmp 32) (.tmp 33) 44 9 rfl 5 Tryz.underlying44 hone _ _ _ _ rfl rfl w.heap.size A (rowOf (cat (ss.take k)) (cat ss).length) 5 hrow.out ?c1 ?c2 ?c3 w.heap.size w hbl (Nat.le_refl _) ?_)
            case c1 => omega
            case c3 => rw [rowOf_len _ _ (by rw [← HA.out]; omega)]; omega
            intro w1 hrow1 hbl1
            have hrow2 : Hid (w1.heap[w.heap.size]? = some (.cells (rowOf (cat (ss.take (k + 1))) (cat ss).length).toArray 5 (0, 0))) := by
              have h := hrow1.out
              rw [HA.out, rowOf_splice _ _ _ (by rw [← HA.out]; exact hAs), ← cat_take ss k hlt] at h
              exact Lib.hid h
            clear hrow1 hrow hbl hcell
            go_wp2
            go_roundw
            case rel => exact ⟨k + 1, A + ss[k].size, by omega, by go_num, by go_num, by rw [H3.out, HA.out], hrow2.out, hbl1⟩
            case measure => simp [intOf]; omega
          · go_wp2_with (refine wpList_copy_str rfl (.tmp 32) (.tmp 33) 44 9 rfl 5 Tryz.underlying44 hone _ _ _ _ rfl rfl w.heap.size A (rowOf (cat (ss.take k)) (cat ss).length) 5 hrow.out ?d1 ?d2 ?d3 w.heap.size w hbl (Nat.le_refl _) ?_)
            case d1 => omega
            case d2 => intro h; omega
            case d3 => rw [rowOf_len _ _ (by rw [← HA.out]; omega)]; omega
            intro w1 hrow1 hbl1
            have hrow2 : Hid (w1.heap[w.heap.size]? = some (.cells (rowOf (cat (ss.take (k + 1))) (cat ss).length).toArray 5 (0, 0))) := by
              have h := hrow1.out
              rw [HA.out, rowOf_splice _ _ _ (by rw [← HA.out]; exact hAs), ← cat_take ss k hlt] at h
              exact Lib.hid h
            clear hrow1 hrow hbl hcell
            go_wp2
            go_roundw
            case rel => exact ⟨k + 1, A + ss[k].size, by omega, by go_num, by go_num, by rw [H3.out, HA.out], hrow2.out, hbl1⟩
            case measure => simp [intOf]; omega
        · obtain rfl : k = ss.length := by omega
          have hrow2 : wr.heap[w.heap.size]? = some (.cells (byteCells (cat ss)).toArray 5 (0, 0)) := by
            have h := hrow.out
            rw [cat_all ss _ (Nat.le_refl _), rowOf_full] at h
            exact h
          have hstr : ∀ c, (convert 44 9 (.slice (some ⟨w.heap.size, 0, none⟩) (cat ss).length c)).run Tryz.prog wr = .ok (.string ⟨(cat ss).toArray⟩) wr := fun c =>
            run_convert_bytes_back wr _ _ 5 ⟨w.heap.size, 0, none⟩ c (cat ss) Tryz.underlying44 Tryz.underlying5 Tryz.underlying9 (fun j hj => by
              have e : (⟨w.heap.size, 0, none⟩ : Addr).add j = ⟨w.heap.size, j, none⟩ := by simp [Addr.add]; exact fun h => h.symm
              rw [e, cell_of_row _ _ _ _ _ _ hrow2]
              simp [byteCells, hj])
          have hs := hstr (cat ss).length
          clear hrow2 hrow hstr hA
          go_wp2
          go_ret
          exact ⟨rfl, hbl⟩

theorem join_any (ss : List ByteArray) (b : Nat) (w : World) (hc : ∀ k (h : k < ss.length), w.cell? ⟨b, k, none⟩ = some (.string ss[k])) (hn : ss.length ≤ 1099511627776) (hsz : (cat ss).length ≤ 1099511627776) (hbw : b < w.heap.size) :
    Calls Tryz.prog 23 #[.slice (some ⟨b, 0, none⟩) ss.length ss.length] w fun e w' => e = .returned (.string ⟨(cat ss).toArray⟩) ∧ Below w.heap.size w w' := join_c ss b ss.length w hc hn hsz hbw
end Go.Proofs.YtnjpddbpnmgcpaaGreatDoor.str
