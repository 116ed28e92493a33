/- What DrawSeal, DrawCrcMore and lwAt draw: any text, any number. No condition but the bytes that came in. -/
import Derived.Test.YtifgnebjjkjgoaaRows
import Derived.Test.YtifgnebjjkjgoaaDrawC
import Derived.Test.YtifgnebjjkjgoaaCrcA
import Derived.Test.YtifgnebjjkjgoaaSealA
import Derived.WalkKit
import Derived.Lib.Hide
import Derived.ProofKit
import Derived.WalkSpells
import Derived.Handy
import Derived.WalkSmall
namespace Go.Proofs.Ytifgnebjjkjgoaa.drw
open Go.ChangeShapes Go.WideShapes Go.ChangeAt Go.RowKit Go.Lib
set_option linter.unusedVariables false
set_option linter.unusedSimpArgs false

def ToldT (n : Nat) (w : World) (e : Ending) (w' : World) : Prop := ∃ s : ByteArray, e = .returned (.string s) ∧ s.size ≤ n ∧ Below w.heap.size w w'

theorem made_bytes (N : Nat) : (madeCells #[Value.int .u8 0] N).toList = byteCells (List.replicate N 0) := by
  simp [byteCells, madeCells, Nat.mod_one]
  exact List.ext_getElem (by simp) (by intro i h1 h2; simp)

set_option maxHeartbeats 1000000 in
theorem drawSeal_any (a : Option Addr) (len cap : Nat) (w : World) (hl : len ≤ 1048576) (hb : Bytes w a len) :
    Calls Try.prog 11 #[.slice a len cap] w (ToldT 20000 w) := by
  obtain ⟨i0, hi, hz0, hz1, hz2⟩ := info_parts str.info_u8
  have K := Lib.hid (source_any a len cap w hl hb)
  clear hb
  go_enter Try.func11, Try.ntmps11
  go_wp2_with fail
  refine K.out.mono ?_
  rintro e w1 ⟨g, rfl, hg, hs, hb1⟩
  have HS := Lib.hid hs
  clear hs
  go_wp2_with fail
  refine (one_any g 30 _ (by omega) HS.out).mono ?_
  rintro e w2 ⟨b, rfl, hs2, ho2⟩
  have hb2 := ho2.below hb1 hg
  have HS2 := Lib.hid hs2
  clear hs2 ho2 HS hb1
  cases b
  · go_wp2_with fail
    refine (n_any g 20 _ (by omega) HS2.out).mono ?_
    rintro e w3 ⟨r, rfl, hr0, hr1, _, hs3, ho3⟩
    have hr : r < 20 := hr1 (by omega)
    have hb3 := ho3.below hb2 hg
    have HS3 := Lib.hid hs3
    clear hs3 ho3 hr1
    go_wp2_with fail
    refine (bytes_any g r _ hr0 (by omega) HS3.out).mono ?_
    rintro e w4 ⟨s, rfl, hsz, hs4, hg4⟩
    have hb4 := hg4.below hb3 hg hb3.size
    clear hs4 hg4
    go_wp2
    go_ret
    exact ⟨s, rfl, by omega, hb4⟩
  · go_wp2_with fail
    refine (n_any g 3 _ (by omega) HS2.out).mono ?_
    rintro e w3 ⟨r, rfl, hr0, hr1, _, hs3, ho3⟩
    have hr : r < 3 := hr1 (by omega)
    have hb3 := ho3.below hb2 hg
    clear hs3 ho3 hr1
    obtain ⟨N, hN⟩ := Int.eq_ofNat_of_zero_le hr0
    subst hN
    go_wp2_with (at_make; refine wpList_make_full _ rfl (.tmp 10) (.tmp 10) 22 rfl w3.heap.size 5 i0 (.int .u8 0) 1 Try.underlying22 hi hz0 hz1 .i64 .i64 _ _ (19995 + N) rfl rfl ?b0 ?b1 ?b2 ?b3 ?b4 ?_)
    case b0 => omega
    case b1 => omega
    case b2 => rw [hz2]; omega
    case b3 => unfold maxLen; omega
    case b4 => exact Nat.le_refl _
    intro w4 hown hgrow
    have hb4 : Below w.heap.size w w4 := hb3.grown hgrow hb3.size (by simp)
    have hown2 : w4.ownsRow w3.heap.size 5 1 (.slice (some ⟨w3.heap.size, 0, none⟩) (List.replicate (19995 + N) (0 : UInt8)).length (19995 + N)) (List.replicate (19995 + N) (0 : UInt8)).length (byteCells (List.replicate (19995 + N) 0)) := by
      rw [← made_bytes, List.length_replicate]; exact hown
    have hstr := num.own_string hown2
    rw [List.length_replicate] at hstr
    generalize hq : (⟨(List.replicate (19995 + N) (0 : UInt8)).toArray⟩ : ByteArray) = q at *
    have hqs : q.size ≤ 20000 := by rw [← hq]; show (List.replicate (19995 + N) (0 : UInt8)).toArray.size ≤ _; simp; omega
    have HQ := Lib.hid hqs
    clear hown hgrow hown2 hq hqs
    go_wp2
    go_ret
    exact ⟨q, rfl, HQ.out, hb4⟩

/-- a number that is less than 'most', or 0. -/
def ToldL (most : Int) (w : World) (e : Ending) (w' : World) : Prop := ∃ r, e = .returned (.int .i64 r) ∧ 0 ≤ r ∧ (1 < most → r < most) ∧ w = w'
set_option maxHeartbeats 1000000 in
theorem lwAt_any (a : Option Addr) (len cap : Nat) (i most : Int) (w : World) (hl : len ≤ 1048576) (hi0 : 0 ≤ i) (hi1 : i ≤ 1000) (hm : most ≤ 9223372036854775807) (hb : Bytes w a len) :
    Calls Try.prog 14 #[.slice a len cap, .int .i64 i, .int .i64 most] w (ToldL most w) := by
  have HB := Lib.hid hb
  clear hb
  by_cases h1 : most ≤ 1
  · go_enter Try.func14, Try.ntmps14
    go_wp2
    go_ret
    exact ⟨0, rfl, Int.le_refl _, by omega, rfl⟩
  have h1' : 1 < most := by omega
  clear h1
  by_cases h0 : len = 0
  · have hz : ((len : Int) == 0) = true := by simp [h0]
    clear h0
    go_enter Try.func14, Try.ntmps14
    go_wp2
    go_ret
    exact ⟨0, rfl, Int.le_refl _, by omega, rfl⟩
  · have hz : ((len : Int) == 0) = false := by simp; omega
    have hlp : (0 : Int) < (len : Int) := by omega
    have hne : ¬ (len : Int) = 0 := by omega
    have hmod0 : 0 ≤ i % (len : Int) := Int.emod_nonneg _ (by omega)
    have hmod1 : i % (len : Int) < (len : Int) := Int.emod_lt_of_pos _ (by omega)
    obtain ⟨b, off, z, rfl, hbg, hcell, hz0, hz1⟩ := HB.out (i % (len : Int)).toNat (by omega)
    clear h0
    go_enter Try.func14, Try.ntmps14
    go_wp2
    go_ret
    exact ⟨_, rfl, Int.emod_nonneg _ (by omega), fun _ => Int.emod_lt_of_pos _ (by omega), rfl⟩

def ToldN (w : World) (e : Ending) (w' : World) : Prop := ∃ (r : Int) (s : ByteArray), e = .returned (.tuple #[.int .i64 r, .string s]) ∧ -9223372036854775808 ≤ r ∧ r ≤ 9223372036854775807 ∧ s.size ≤ 9 ∧ Below w.heap.size w w'
set_option maxHeartbeats 1000000 in
theorem drawMore_any (a : Option Addr) (len cap : Nat) (w : World) (hl : len ≤ 1048576) (hb : Bytes w a len) :
    Calls Try.prog 16 #[.slice a len cap] w (ToldN w) := by
  have K := Lib.hid (source_any a len cap w hl hb)
  clear hb
  go_enter Try.func16, Try.ntmps16
  go_wp2_with fail
  refine K.out.mono ?_
  rintro e w1 ⟨g, rfl, hg, hs, hb1⟩
  have HS := Lib.hid hs
  clear hs
  go_wp2_with fail
  refine (n_any g 9 _ (by omega) HS.out).mono ?_
  rintro e w2 ⟨r, rfl, hr0, hr1, _, hs2, ho2⟩
  have hr : r < 9 := hr1 (by omega)
  have hb2 := ho2.below hb1 hg
  have HS2 := Lib.hid hs2
  clear hs2 ho2 hr1 hb1 HS
  go_wp2_with fail
  refine (bytes_any g r _ hr0 (by omega) HS2.out).mono ?_
  rintro e w3 ⟨s, rfl, hsz, hs3, hg3⟩
  have hb3 := hg3.below hb2 hg hb2.size
  have hsz9 : s.size ≤ 9 := by omega
  have HS3 := Lib.hid hs3
  clear hs3 hg3 hb2 HS2 hsz hr0 hr
  go_wp2_with fail
  refine (one_any g 5 _ (by omega) HS3.out).mono ?_
  rintro e w4 ⟨b, rfl, hs4, ho4⟩
  have hb4 := ho4.below hb3 hg
  have HS4 := Lib.hid hs4
  clear hs4 ho4 HS3 hb3
  cases b
  · go_wp2_with fail
    refine (n_any g 9 _ (by omega) HS4.out).mono ?_
    rintro e w5 ⟨q, rfl, hq0, hq1, _, hs5, ho5⟩
    have hq : q < 9 := hq1 (by omega)
    have hb5 := ho5.below hb4 hg
    have HS5 := Lib.hid hs5
    clear hs5 ho5 hq1 hb4 HS4
    go_wp2_with fail
    refine (bytes_any g q _ hq0 (by omega) HS5.out).mono ?_
    rintro e w6 ⟨u, rfl, husz, hs6, hg6⟩
    have hb6 := hg6.below hb5 hg hb5.size
    clear hs6 hg6 hb5 HS5
    go_wp2_with fail
    refine (crc.spec_crc0 _ _).mono ?_
    rintro e w7 ⟨rfl, rfl⟩
    have hin := seal.crc_in u
    generalize crc.moreOf 0 u = m at *
    go_wp2
    go_ret2
    exact ⟨m, s, rfl, by omega, by omega, hsz9, hb6⟩
  · go_wp2_with fail
    refine (edge_any g _ HS4.out).mono ?_
    rintro e w5 ⟨q, rfl, hq0, hq1, hs5, hg5⟩
    have hb5 := hg5.below hb4 hg hb4.size
    clear hs5 hg5 hb4 HS4
    go_wp2
    go_ret2
    exact ⟨q, s, rfl, hq0, hq1, hsz9, hb5⟩
end Go.Proofs.Ytifgnebjjkjgoaa.drw
