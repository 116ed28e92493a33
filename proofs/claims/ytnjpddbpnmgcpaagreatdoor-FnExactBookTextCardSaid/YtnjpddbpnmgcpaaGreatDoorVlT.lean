/- ValueText, of the program and of the model. -/
import Derived.Test.YtnjpddbpnmgcpaaGreatDoorVlI
import Derived.Test.YtnjpddbpnmgcpaaGreatDoorDigN
import Derived.Test.YtnjpddbpnmgcpaaGreatDoorTxt
import Derived.Lib.ItoaMem
import Derived.Lib.AppendIntMem
import Derived.Lib.SmallJoins
import Derived.Lib.LaidTab
namespace Go.Proofs.YtnjpddbpnmgcpaaGreatDoor.vl
open ad mem dig
open Go.ChangeShapes Go.WideShapes Go.ChangeAt Go.RowKit Go.Lib
set_option linter.unusedVariables false
set_option maxRecDepth 8000
set_option linter.unusedSimpArgs false

/-- the table of powers that the digits are written by. -/
def Tab (w : World) : Prop := Lib.TabIs Tryz.prog w "internal/strconv.uint64pow10" .u64 Lib.pow10Tab
theorem Tab.below {w w' : World} (h : Tab w) (hb : Below w.heap.size w w') : Tab w' := by
  obtain ⟨g, hg⟩ : ∃ g, Tryz.prog.globalNamed "internal/strconv.uint64pow10" = some g := by
    unfold Tab Lib.TabIs World.var? at h
    cases hg : Tryz.prog.globalNamed "internal/strconv.uint64pow10" with
    | none => simp [hg] at h
    | some g => exact ⟨g, rfl⟩
  exact Go.Joins.tab_stays hg h hb (Nat.le_refl _)
theorem fmt_any (n : Int) (w : World) (h0 : -9223372036854775808 ≤ n) (h1 : n ≤ 9223372036854775807) (ht : Tab w) :
    Calls Tryz.prog 80 #[.int .i64 n, .int .i64 10] w (vl.Told w (.string (bs (itoa n)))) := by
  refine (Tryz.strconv_FormatInt_10 n h0 h1 w ht).mono ?_
  rintro _ _ ⟨rfl, k, os, rfl⟩
  exact ⟨rfl, below_grow _ _ (Nat.le_refl _) k os⟩
theorem text8 {v : ValD} (h : valB v = true) (hk : v.kind ≠ 1) : v.text.size ≤ 8 := by
  simp only [valB, Bool.or_eq_true, Bool.and_eq_true, beq_iff_eq, decide_eq_true_eq] at h
  rcases h with ⟨⟨⟨h, _⟩, _⟩, _⟩ | ⟨⟨_, _⟩, h⟩
  · exact absurd h hk
  · exact (tB_iff.1 h).1
theorem num_le {v : ValD} (h : valB v = true) (k : v.kind = 1) : -1000000 ≤ v.n ∧ v.n ≤ 1000000 := by
  simp only [valB, k, Bool.or_eq_true, Bool.and_eq_true, beq_iff_eq, decide_eq_true_eq] at h
  rcases h with ⟨⟨⟨_, h1⟩, h2⟩, _⟩ | ⟨⟨h, _⟩, _⟩
  · exact ⟨h1, h2⟩
  · omega
theorem valT_no {v : ValD} (h : valB v = false) : valT v = [] := by simp [valT, h]
theorem valT_num {v : ValD} (h : valB v = true) (k : v.kind = 1) : valT v = itoa v.n := by simp [valT, h, rawV, k]
theorem valT_text {v : ValD} (h : valB v = true) (k : v.kind ≠ 1) : valT v = 34 :: (v.text.data.toList ++ [34]) := by simp [valT, h, rawV, k]

set_option maxHeartbeats 1000000 in
theorem textV_impl (v : ValD) (w : World) (hs : v.text.size ≤ maxLen) (ht : Tab w) :
    Calls Tryz.prog 45 #[.agg #[.int .i64 v.kind, .int .i64 v.n, .string v.text]] w (vl.Told w (.string (bs (valT v)))) := by
  have HS := Lib.hid hs
  have HT := Lib.hid ht
  clear hs ht
  cases hr : valB v
  · have K := Lib.hid (fun W => hr ▸ right_impl v W HS.out)
    rw [valT_no hr]
    clear hr
    go_enter Tryz.func45, Tryz.ntmps45
    go_wp2_with fail
    refine (K.out _).mono ?_
    rintro _ w1 ⟨rfl, hb⟩
    have E1 := Lib.hid (below_then (below_a1 _ _) hb (Nat.le_refl _))
    clear hb
    go_wp2
    go_ret
    exact ⟨rfl, E1.out⟩
  have K := Lib.hid (fun W => hr ▸ right_impl v W HS.out)
  by_cases h1 : v.kind = 1
  · have hk : (v.kind == 1) = true := by simp [h1]
    obtain ⟨n0, n1⟩ := num_le hr h1
    rw [valT_num hr h1]
    clear h1 hr
    go_enter Tryz.func45, Tryz.ntmps45
    go_wp2_with fail
    refine (K.out _).mono ?_
    rintro _ w1 ⟨rfl, hb⟩
    have E1 := Lib.hid (below_then (below_a1 _ _) hb (Nat.le_refl _))
    have B1 := Lib.hid ((Blk.new w _ _).step hb)
    have b1 := B1.out.cell
    clear hb
    go_wp2_with fail
    refine (fmt_any v.n _ (by omega) (by omega) (HT.out.below E1.out)).mono ?_
    rintro _ w2 ⟨rfl, hb⟩
    have E2 := Lib.hid (below_then E1.out hb (Nat.le_refl _))
    clear hb b1
    go_wp2
    go_ret
    exact ⟨rfl, E2.out⟩
  · have hk : (v.kind == 1) = false := by simp [h1]
    have h8 := text8 hr h1
    rw [valT_text hr h1]
    clear h1 hr
    go_enter Tryz.func45, Tryz.ntmps45
    go_wp2_with fail
    refine (K.out _).mono ?_
    rintro _ w1 ⟨rfl, hb⟩
    have E1 := Lib.hid (below_then (below_a1 _ _) hb (Nat.le_refl _))
    have B1 := Lib.hid ((Blk.new w _ _).step hb)
    have b1 := B1.out.cell
    clear hb
    go_wp2_with fail
    refine (txt.join3 ⟨#[34]⟩ v.text ⟨#[34]⟩ _ _ _ (Blk.new _ _ _) ?_).mono ?_
    · show 1 + _ + 1 ≤ _; omega
    rintro _ w2 ⟨rfl, hb⟩
    have E2 := Lib.hid (below_then (below_da E1.out (Nat.le_refl _) _) hb (Nat.le_refl _))
    clear hb b1
    go_wp2
    go_ret
    exact ⟨rfl, E2.out⟩

set_option maxHeartbeats 1000000 in
theorem l03Text_any (v : ValD) (w : World) (hr : valB v = true) :
    Calls Tryz.prog 18 #[.agg #[.int .i64 v.kind, .int .i64 v.n, .string v.text]] w (vl.Told w (.string (bs (rawV v)))) := by
  by_cases h1 : v.kind = 1
  · have hk : (v.kind == 1) = true := by simp [h1]
    obtain ⟨n0, n1⟩ := num_le hr h1
    have e : rawV v = itoa v.n := by simp [rawV, h1]
    rw [e]
    clear h1 hr e
    go_enter Tryz.func18, Tryz.ntmps18
    go_wp2_with fail
    refine (dec_int v.n _ (by omega) (by omega)).mono ?_
    rintro _ w1 ⟨rfl, hb⟩
    have E1 := Lib.hid (below_then (below_a1 _ _) hb (Nat.le_refl _))
    clear hb
    go_wp2
    go_ret
    exact ⟨rfl, E1.out⟩
  · have hk : (v.kind == 1) = false := by simp [h1]
    have h8 := text8 hr h1
    have e : rawV v = 34 :: (v.text.data.toList ++ [34]) := by simp [rawV, h1]
    have HE := Lib.hid e
    clear h1 hr e
    go_enter Tryz.func18, Tryz.ntmps18
    go_wp2
    go_ret
    refine ⟨ret_str ?_, below_a1 _ _⟩
    rw [HE.out]
    exact ByteArray.ext (by simp [bs, ByteArray.data_append])

set_option maxHeartbeats 1000000 in
theorem textV_spec (v : ValD) (w : World) (hs : v.text.size ≤ maxLen) :
    Calls Tryz.prog 52 #[.agg #[.int .i64 v.kind, .int .i64 v.n, .string v.text]] w (vl.Told w (.string (bs (valT v)))) := by
  have HS := Lib.hid hs
  clear hs
  cases hr : valB v
  · have K := Lib.hid (fun W => hr ▸ right_spec v W HS.out)
    rw [valT_no hr]
    clear hr
    go_enter Tryz.func52, Tryz.ntmps52
    go_wp2_with fail
    refine (K.out _).mono ?_
    rintro _ w1 ⟨rfl, hb⟩
    have E1 := Lib.hid (below_then (below_a1 _ _) hb (Nat.le_refl _))
    clear hb
    go_wp2
    go_ret
    exact ⟨rfl, E1.out⟩
  · have K := Lib.hid (fun W => hr ▸ right_spec v W HS.out)
    have e : valT v = rawV v := by simp [valT, hr]
    have KL := Lib.hid (fun W => l03Text_any v W hr)
    rw [e]
    clear hr e
    go_enter Tryz.func52, Tryz.ntmps52
    go_wp2_with fail
    refine (K.out _).mono ?_
    rintro _ w1 ⟨rfl, hb⟩
    have E1 := Lib.hid (below_then (below_a1 _ _) hb (Nat.le_refl _))
    have B1 := Lib.hid ((Blk.new w _ _).step hb)
    have b1 := B1.out.cell
    clear hb
    go_wp2_with fail
    refine (KL.out _).mono ?_
    rintro _ w2 ⟨rfl, hb⟩
    have E2 := Lib.hid (below_then E1.out hb (Nat.le_refl _))
    clear hb b1
    go_wp2
    go_ret
    exact ⟨rfl, E2.out⟩
end Go.Proofs.YtnjpddbpnmgcpaaGreatDoor.vl
