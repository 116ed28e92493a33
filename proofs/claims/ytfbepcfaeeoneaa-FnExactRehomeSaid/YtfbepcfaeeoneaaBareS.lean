/- Bare of the model; two addresses of the call's own compared. -/
import Derived.Test.YtfbepcfaeeoneaaBareB
namespace Go.Proofs.Ytfbepcfaeeoneaa.bare
open ad mem own
open Go.ChangeShapes Go.WideShapes Go.ChangeAt Go.RowKit Go.Lib
set_option linter.unusedVariables false
set_option linter.unusedSimpArgs false

set_option maxHeartbeats 2000000 in
theorem bare_spec (A : Option Addr) (c : Nat) (d : AddrD) (w : World) (h : Strs w A d.path) (hl : d.path.length ≤ 1048576) (ht : d.typ.size ≤ maxLen) (hn : d.nam.size ≤ maxLen) (hk : d.key.size ≤ maxLen) :
    Calls Try.prog 24 #[.agg #[.slice A d.path.length c, .string d.typ, .string d.nam, .int .i64 d.kind, .int .i64 d.n, .string d.key]] w (Made w (bareD d)) := by
  have hlm : d.path.length ≤ maxLen := by unfold maxLen; omega
  cases hr : addrB d
  · rw [bare_no hr]
    have H := Lib.hid h
    have K := Lib.hid (fun W h => hr ▸ adr.right_spec A c d W h hlm ht hn hk)
    clear hr h hl hlm
    go_enter Try.func24, Try.ntmps24
    go_wp2_with fail
    refine (K.out _ (H.out.below (below_a2 _ _ _))).mono ?_
    rintro _ w1 ⟨rfl, hb⟩
    have E1 := Lib.hid (below_then (below_a2 _ _ _) hb (Nat.le_refl _))
    have P1 := Lib.hid ((Blk.new1 w _ _ _).step hb)
    have p1 := P1.out.cell
    have g1 := P1.out.free
    clear hb
    go_wp2
    refine bodyPost_ret (v := .agg #[.slice none 0 0, .string ByteArray.empty, .string ByteArray.empty, .int .i64 0, .int .i64 0, .string ByteArray.empty]) (by simp [results, Try.results24, go_sem, p1, g1]; try rfl) rfl ⟨none, 0, rfl, Own.nil _ _, ?_⟩
    repeat (refine Below.setCell ?_ (by simp <;> omega) _)
    exact E1.out
  · rw [bare_yes hr]
    have H := Lib.hid h
    have K := Lib.hid (fun W h => hr ▸ adr.right_spec A c d W h hlm ht hn hk)
    obtain ⟨hp, _, _, _⟩ := txt.addr_parts hr
    obtain ⟨hp1, _⟩ := txt.path_words hp
    have KC := Lib.hid (fun W h => l02Bare_any A c d W h (by omega))
    clear hr h hl hlm hp
    go_enter Try.func24, Try.ntmps24
    go_wp2_with fail
    refine (K.out _ (H.out.below (below_a2 _ _ _))).mono ?_
    rintro _ w1 ⟨rfl, hb⟩
    have E1 := Lib.hid (below_then (below_a2 _ _ _) hb (Nat.le_refl _))
    have Q1 := Lib.hid (((Blk.new w _ _).alloc _).step hb)
    have P1 := Lib.hid ((Blk.new1 w _ _ _).step hb)
    have q1 := Q1.out.cell
    clear hb
    go_wp2_with fail
    refine (KC.out _ (H.out.below E1.out)).mono ?_
    rintro _ w2 ⟨B, cp, rfl, ho, hb⟩
    have E2 := Lib.hid (below_then E1.out hb (Nat.le_refl _))
    have P2 := Lib.hid (P1.out.step hb)
    have O2 := Lib.hid (ho.mono (show w.heap.size + 1 + 1 ≤ w1.heap.size from P1.out.lt))
    have p2 := P2.out.cell
    have g2 := P2.out.free
    clear hb ho q1
    go_wp2
    refine bodyPost_ret (v := .agg #[.slice B d.path.length cp, .string d.typ, .string d.nam, .int .i64 0, .int .i64 0, .string ByteArray.empty]) (by simp [results, Try.results24, go_sem, p2, g2]; try rfl) rfl ⟨B, cp, rfl, ?_, ?_⟩
    · refine Own.mono (base := w.heap.size + 1 + 1) ?_ (by omega)
      iterate 6 refine Own.far ?_ (by simp <;> omega) _
      exact O2.out
    · repeat (refine Below.setCell ?_ (by simp <;> omega) _)
      exact E2.out

theorem bare_sizes {d : AddrD} (h : ∀ k (h : k < d.path.length), d.path[k].size ≤ maxLen) : ∀ k (h : k < (bareD d).path.length), (bareD d).path[k].size ≤ maxLen := by
  cases hr : addrB d
  · rw [bare_no hr]; intro k hk; simp [zeroD] at hk
  · rw [bare_yes hr]; exact h
theorem bare_len {d : AddrD} {n : Nat} (h : d.path.length ≤ n) : (bareD d).path.length ≤ n := by
  cases hr : addrB d
  · rw [bare_no hr]; simp [zeroD]
  · rw [bare_yes hr]; exact h
end Go.Proofs.Ytfbepcfaeeoneaa.bare
