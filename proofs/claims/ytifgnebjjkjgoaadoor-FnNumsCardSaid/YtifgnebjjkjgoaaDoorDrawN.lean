/- What DrawPutNum and DrawPutText draw: any number, any text. No condition but the bytes that came in. -/
import Derived.Test.YtifgnebjjkjgoaaDoorRows
import Derived.Test.YtifgnebjjkjgoaaDoorDrawC
import Derived.WalkKit
import Derived.Lib.Hide
import Derived.ProofKit
import Derived.WalkSpells
import Derived.Handy
import Derived.WalkSmall
namespace Go.Proofs.YtifgnebjjkjgoaaDoor.drw
open Go.ChangeShapes Go.WideShapes Go.ChangeAt Go.RowKit Go.Lib
set_option linter.unusedVariables false
set_option linter.unusedSimpArgs false

def ToldT (n : Nat) (w : World) (e : Ending) (w' : World) : Prop := ∃ s : ByteArray, e = .returned (.string s) ∧ s.size ≤ n ∧ Below w.heap.size w w'

theorem made_bytes (N : Nat) : (madeCells #[Value.int .u8 0] N).toList = byteCells (List.replicate N 0) := by
  simp [byteCells, madeCells, Nat.mod_one]
  exact List.ext_getElem (by simp) (by intro i h1 h2; simp)

set_option maxHeartbeats 1000000 in
theorem drawText_any (a : Option Addr) (len cap : Nat) (w : World) (hl : len ≤ 1048576) (hb : Bytes w a len) :
    Calls Tryd.prog 10 #[.slice a len cap] w (ToldT 20002 w) := by
  obtain ⟨i0, hi, hz0, hz1, hz2⟩ := info_parts str.info_u8
  have K := Lib.hid (source_any a len cap w hl hb)
  clear hb
  go_enter Tryd.func10, Tryd.ntmps10
  go_wp2_with fail
  refine K.out.mono ?_
  rintro e w1 ⟨g, rfl, hg, hs, hb1⟩
  have HS := Lib.hid hs
  clear hs
  go_wp2_with fail
  refine (one_any g 8 _ (by omega) HS.out).mono ?_
  rintro e w2 ⟨b, rfl, hs2, ho2⟩
  have hb2 := ho2.below hb1 hg
  have HS2 := Lib.hid hs2
  clear hs2 ho2 HS hb1
  cases b
  · go_wp2_with fail
    refine (n_any g 20 _ (by omega) HS2.out).mono ?_
    rintro e w3 ⟨r, rfl, hr0, hr1, _, hs3, ho3⟩
    have hr : r < 20 := hr1 (by omega)
    have hb3 := ho3.below hb2 hg
    have HS3 := Lib.hid hs3
    clear hs3 ho3 hr1
    go_wp2_with fail
    refine (bytes_any g r _ hr0 (by omega) HS3.out).mono ?_
    rintro e w4 ⟨s, rfl, hsz, hs4, hg4⟩
    have hb4 := hg4.below hb3 hg hb3.size
    clear hs4 hg4
    go_wp2
    go_ret
    exact ⟨s, rfl, by omega, hb4⟩
  · go_wp2_with fail
    refine (n_any g 3 _ (by omega) HS2.out).mono ?_
    rintro e w3 ⟨r, rfl, hr0, hr1, _, hs3, ho3⟩
    have hr : r < 3 := hr1 (by omega)
    have hb3 := ho3.below hb2 hg
    clear hs3 ho3 hr1
    obtain ⟨N, hN⟩ := Int.eq_ofNat_of_zero_le hr0
    subst hN
    go_wp2_with (at_make; refine wpList_make_full _ rfl (.tmp 10) (.tmp 10) 22 rfl w3.heap.size 5 i0 (.int .u8 0) 1 Tryd.underlying22 hi hz0 hz1 .i64 .i64 _ _ (19999 + N) rfl rfl ?b0 ?b1 ?b2 ?b3 ?b4 ?_)
    case b0 => omega
    case b1 => omega
    case b2 => rw [hz2]; omega
    case b3 => unfold maxLen; omega
    case b4 => exact Nat.le_refl _
    intro w4 hown hgrow
    have hb4 : Below w.heap.size w w4 := hb3.grown hgrow hb3.size (by simp)
    have hown2 : w4.ownsRow w3.heap.size 5 1 (.slice (some ⟨w3.heap.size, 0, none⟩) (List.replicate (19999 + N) (0 : UInt8)).length (19999 + N)) (List.replicate (19999 + N) (0 : UInt8)).length (byteCells (List.replicate (19999 + N) 0)) := by
      rw [← made_bytes, List.length_replicate]; exact hown
    have hstr := num.own_string hown2
    rw [List.length_replicate] at hstr
    generalize hq : (⟨(List.replicate (19999 + N) (0 : UInt8)).toArray⟩ : ByteArray) = q at *
    have hqs : q.size ≤ 20002 := by rw [← hq]; show (List.replicate (19999 + N) (0 : UInt8)).toArray.size ≤ _; simp; omega
    have HQ := Lib.hid hqs
    clear hown hgrow hown2 hq hqs
    go_wp2
    go_ret
    exact ⟨q, rfl, HQ.out, hb4⟩

def ToldZ (w : World) (e : Ending) (w' : World) : Prop := ∃ r : Int, e = .returned (.int .i64 r) ∧ -9223372036854775808 ≤ r ∧ r ≤ 9223372036854775807 ∧ Below w.heap.size w w'
set_option maxHeartbeats 1000000 in
theorem any_any (g : Nat) (w : World) (hs : HasSrc g w) :
    Calls Tryd.prog 19 #[.pointer (some ⟨g, 0, none⟩)] w (ToldI g w) := by
  have K := Lib.hid (one_any g 4 w (by omega) hs)
  clear hs
  go_enter Tryd.func19, Tryd.ntmps19
  go_wp2_with fail
  refine K.out.mono ?_
  rintro e w2 ⟨b, rfl, hs2, ho⟩
  have HS := Lib.hid hs2
  clear hs2
  cases b
  · go_wp2_with fail
    refine (n_any g 1099511627776 _ (by omega) HS.out).mono ?_
    rintro e w3 ⟨r, rfl, h0, h1, _, hs3, ho3⟩
    have hr : r < 1099511627776 := h1 (by omega)
    have HS3 := Lib.hid hs3
    clear hs3 h1 HS
    go_wp2
    go_ret
    exact ⟨r - 1048576, rfl, by omega, by omega, HS3.out, (ho.trans ho3).grw⟩
  · go_wp2_with fail
    refine (edge_any g _ HS.out).mono ?_
    rintro e w3 ⟨r, rfl, h0, h1, hs3, hg3⟩
    have HS3 := Lib.hid hs3
    clear hs3 HS
    go_wp2
    go_ret
    exact ⟨r, rfl, h0, h1, HS3.out, ho.grw.trans hg3⟩
set_option maxHeartbeats 1000000 in
theorem drawNum_any (a : Option Addr) (len cap : Nat) (w : World) (hl : len ≤ 1048576) (hb : Bytes w a len) :
    Calls Tryd.prog 6 #[.slice a len cap] w (ToldZ w) := by
  have K := Lib.hid (source_any a len cap w hl hb)
  clear hb
  go_enter Tryd.func6, Tryd.ntmps6
  go_wp2_with fail
  refine K.out.mono ?_
  rintro e w1 ⟨g, rfl, hg, hs, hb1⟩
  have HS := Lib.hid hs
  clear hs
  go_wp2_with fail
  refine (any_any g _ HS.out).mono ?_
  rintro e w2 ⟨r, rfl, h0, h1, hs2, hg2⟩
  have hb2 := hg2.below hb1 hg hb1.size
  clear hs2 hg2 HS hb1
  go_wp2
  go_ret
  exact ⟨r, rfl, h0, h1, hb2⟩
end Go.Proofs.YtifgnebjjkjgoaaDoor.drw
