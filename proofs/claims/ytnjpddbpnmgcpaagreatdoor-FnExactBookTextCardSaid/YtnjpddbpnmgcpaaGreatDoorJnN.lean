/- join of no texts. -/
import Derived.Test.YtnjpddbpnmgcpaaGreatDoorJoin
namespace Go.Proofs.YtnjpddbpnmgcpaaGreatDoor.str
open Go.ChangeShapes Go.WideShapes Go.ChangeAt Go.RowKit Go.Lib
set_option linter.unusedVariables false
set_option linter.unusedSimpArgs false

set_option maxHeartbeats 1000000 in
theorem join_nil0 (ss : List ByteArray) (h0 : ss.length = 0) (w : World) (hsz : (cat ss).length ≤ 1099511627776) :
    Calls Tryz.prog 23 #[.slice none ss.length 0] w fun e w' => e = .returned (.string ⟨(cat ss).toArray⟩) ∧ Below w.heap.size w w' := by
  obtain ⟨i0, hi, hz0, hz1, hz2⟩ := info_parts info_u8
  have hone : (Tryz.prog.info? 5).map (·.size) = some 1 := by rw [hi, Option.map_some, hz1]
  have H0 := Lib.hid h0
  have hn0 : ss.length ≤ 100 := by omega
  clear h0
  go_enter Tryz.func23, Tryz.ntmps23
  go_wp2
  go_loop [3, 12] (fun n i => ∃ k : Nat, k ≤ ss.length ∧ i = .int .i64 k ∧ n = .int .i64 (cat (ss.take k)).length) (fun _ i => ss.length - (intOf i).toNat)
  case atStart => exact ⟨0, Nat.zero_le _, rfl, rfl⟩
  case round =>
    obtain ⟨k, hk, rfl, rfl⟩ := hrel
    by_cases hlt : k < ss.length
    · exact absurd hlt (by have := H0.out; omega)
    · obtain rfl : k = ss.length := by omega
      have hl1 : (cat (ss.take ss.length)).length = (cat ss).length := by rw [cat_all ss _ (Nat.le_refl _)]
      have H1 := Lib.hid hl1
      clear hl1
      rw [H1.out] 
      go_wp2_with (at_make; refine wpList_make_full _ rfl (.tmp 21) (.tmp 21) 44 rfl w.heap.size 5 i0 (.int .u8 0) 1 Tryz.underlying44 hi hz0 hz1 .i64 .i64 _ _ (cat ss).length rfl rfl rfl rfl ?b2 ?b3 ?b4 ?_)
      case b2 => omega
      case b3 => unfold maxLen; omega
      intro w1 hown hgrow
      have hrow := Lib.hid (made_row hown)
      have hbl : Below w.heap.size w w1 := (Below.refl _ _).grown hgrow (Nat.le_refl _) (by simp)
      clear hown hgrow
      go_wp2
      go_loopw [7, 25] (fun n i wr => ∃ k A : Nat, k ≤ ss.length ∧ i = .int .i64 k ∧ n = .int .i64 A ∧ A = (cat (ss.take k)).length ∧ wr.heap[w.heap.size]? = some (.cells (rowOf (cat (ss.take k)) (cat ss).length).toArray 5 (0, 0)) ∧ Below w.heap.size w wr) (fun _ i _ => ss.length - (intOf i).toNat)
      case atStart => exact ⟨0, 0, Nat.zero_le _, rfl, rfl, rfl, hrow.out, hbl⟩
      case round =>
        clear hrow hbl
        obtain ⟨k, A, hk, rfl, rfl, hA, hrow, hbl⟩ := hrel
        have hrow := Lib.hid hrow
        have hAN : A ≤ (cat ss).length := by rw [hA]; exact cat_le ss k
        by_cases hlt : k < ss.length
        · exact absurd hlt (by have := H0.out; omega)
        · obtain rfl : k = ss.length := by omega
          have hrow2 : wr.heap[w.heap.size]? = some (.cells (byteCells (cat ss)).toArray 5 (0, 0)) := by
            have h := hrow.out
            rw [cat_all ss _ (Nat.le_refl _), rowOf_full] at h
            exact h
          have hstr : ∀ c, (convert 44 9 (.slice (some ⟨w.heap.size, 0, none⟩) (cat ss).length c)).run Tryz.prog wr = .ok (.string ⟨(cat ss).toArray⟩) wr := fun c =>
            run_convert_bytes_back wr _ _ 5 ⟨w.heap.size, 0, none⟩ c (cat ss) Tryz.underlying44 Tryz.underlying5 Tryz.underlying9 (fun j hj => by
              have e : (⟨w.heap.size, 0, none⟩ : Addr).add j = ⟨w.heap.size, j, none⟩ := by simp [Addr.add]; exact fun h => h.symm
              rw [e, cell_of_row _ _ _ _ _ _ hrow2]
              simp [byteCells, hj])
          have hs := hstr (cat ss).length
          clear hrow2 hrow hstr hA
          go_wp2
          go_ret
          exact ⟨rfl, hbl⟩

theorem join_nil (w : World) : Calls Tryz.prog 23 #[.slice none 0 0] w fun e w' => e = .returned (.string ⟨#[]⟩) ∧ Below w.heap.size w w' := join_nil0 [] rfl w (by simp [cat])
end Go.Proofs.YtnjpddbpnmgcpaaGreatDoor.str
