/- Helpers that some seats lack. -/
import Derived.Test.YtnhoknbofmpdbaaDoorAdL
import Derived.Test.YtnhoknbofmpdbaaDoorMemP
import Derived.Test.YtnhoknbofmpdbaaDoorMem
import Derived.BigQuiet
import Derived.BigRegion
import Derived.Deep.QuietTactic
import Derived.Outline
namespace Go.Proofs.YtnhoknbofmpdbaaDoor.adl
open ad mem
open Go.ChangeShapes Go.WideShapes Go.ChangeAt Go.RowKit Go.Lib
set_option linter.unusedVariables false
set_option linter.unusedSimpArgs false
set_option maxRecDepth 8000

set_option maxHeartbeats 1000000 in
theorem toAddr_any (A : Option Addr) (c : Nat) (d : AddrD) (w : World) (h : Strs w A d.path) (hl : d.path.length ≤ 1048576) :
    Calls Tryd.prog 48 #[.agg #[.slice A d.path.length c, .string d.typ, .string d.nam, .int .i64 d.kind, .int .i64 d.n, .string d.key]] w (NewAddr w d) := by
  have H := Lib.hid h
  clear h
  go_enter Tryd.func48, Tryd.ntmps48
  go_wp2_with fail
  refine (toStringS_any A c d.path _ (H.out.below (below_a3 _ _ _ _)) hl).mono ?_
  rintro e w1 ⟨g, rfl, hg, hrow, hb⟩
  obtain ⟨hc, hf⟩ := bcell hb
  have hz := hb.size
  simp at hz hg
  have HR := Lib.hid hrow
  have hbw := (below_a3 _ _ _ _).trans (hb.mono (by simp; omega))
  have HB := Lib.hid hbw
  clear hrow hb hbw
  go_wp2
  refine bodyPost_ret (v := .agg #[.slice (some ⟨g, 0, none⟩) d.path.length d.path.length, .string d.typ, .string d.nam, .int .i64 d.kind, .int .i64 d.n, .string d.key]) (by simp [results, Tryd.results48, go_sem, hz, hc, hf]) rfl ⟨g, rfl, by omega, ?_, ?_⟩
  · repeat (refine Row.far ?_ (by simp; omega) _)
    exact HR.out
  · repeat (refine Below.setCell ?_ (by simp <;> omega) _)
    exact HB.out


set_option maxHeartbeats 1000000 in
theorem szStringS_any (A : Option Addr) (c : Nat) (l : List ByteArray) (a : Int) (w : World) (h : Strs w A l) (h0 : 0 ≤ a) (h1 : a ≤ 1048576) (hl : l.length ≤ maxLen) :
    Calls Tryd.prog 73 #[.slice A l.length c, .int .i64 a] w fun e w' => e = .returned (.int .i64 (leftI a (cntL l))) ∧ w = w' := by
  unfold maxLen at hl
  have H := Lib.hid h
  clear h
  by_cases hn : a - (l.length : Int) < 0
  · go_enter Tryd.func73, Tryd.ntmps73
    go_wp2
    go_ret
    exact ⟨ret_i (by unfold leftI cntL; rw [if_neg (by omega)]), rfl⟩
  · go_enter Tryd.func73, Tryd.ntmps73
    go_wp2
    go_loop [1, 5] (fun s i => ∃ k : Nat, ∃ x : Int, k ≤ l.length ∧ i = .int .i64 k ∧ s = .int .i64 x ∧ 0 ≤ x ∧ x ≤ 1048576 ∧ x = a - l.length - sumTo l k) (fun _ i => l.length - (intOf i).toNat)
    case atStart => exact ⟨0, _, Nat.zero_le _, rfl, rfl, by omega, by omega, by simp [sumTo]⟩
    case round =>
      obtain ⟨k, x, hk, rfl, rfl, hx0, hx1, hx⟩ := hrel
      have HX := Lib.hid hx
      clear hx
      by_cases hlt : k < l.length
      · obtain ⟨b, o, rfl, hbg, hc, hsz⟩ := H.out k hlt
        unfold maxLen at hsz
        have HS := Lib.hid (sumTo_succ l k hlt)
        have HT := Lib.hid (sumTo_le l (k + 1))
        by_cases hneg : x - (l[k].size : Int) < 0
        · go_wp2
          go_ret
          exact ⟨ret_i (by unfold leftI cntL; have := HX.out; have := HS.out; have := HT.out; rw [if_neg (by omega)]), rfl⟩
        · go_wp2
          go_round
          case rel => exact ⟨k + 1, x - (l[k].size : Int), by omega, by go_num, rfl, by omega, by omega, by have := HX.out; have := HS.out; omega⟩
          case measure => simp [intOf]; omega
      · obtain rfl : k = l.length := by omega
        have HT := Lib.hid (sumTo_all l)
        go_wp2
        go_ret
        exact ⟨ret_i (by unfold leftI cntL; have := HX.out; have := HT.out; rw [if_pos (by omega)]; omega), rfl⟩

set_option maxHeartbeats 1000000 in
theorem szAddr_any (A : Option Addr) (c : Nat) (d : AddrD) (a : Int) (w : World) (h : Strs w A d.path) (h0 : 0 ≤ a) (h1 : a ≤ 1048576) (hl : d.path.length ≤ maxLen) (ht : d.typ.size ≤ maxLen) (hn : d.nam.size ≤ maxLen) (hk : d.key.size ≤ maxLen) :
    Calls Tryd.prog 44 #[.agg #[.slice A d.path.length c, .string d.typ, .string d.nam, .int .i64 d.kind, .int .i64 d.n, .string d.key], .int .i64 a] w (Told w (.int .i64 (leftI a (cntA d)))) := by
  have H := Lib.hid h
  have HL := Lib.hid hl
  unfold maxLen at ht hn hk
  clear h hl
  by_cases hp : (cntL d.path : Int) ≤ a
  · have e1 : leftI a (cntL d.path) = a - cntL d.path := by unfold leftI; rw [if_pos hp]
    have K := fun w h => e1 ▸ szStringS_any A c d.path a w h h0 h1 HL.out
    have K := Lib.hid K
    clear e1
    by_cases h2 : a - (cntL d.path : Int) - (d.typ.size : Int) < 0
    · go_enter Tryd.func44, Tryd.ntmps44
      go_wp2_with (go_at_call 73; refine (K.out _ (H.out.alloc _)).mono ?_; rintro _ _ ⟨rfl, rfl⟩)
      go_ret
      exact ⟨ret_i (by unfold leftI cntA; rw [if_neg (by omega)]), below_a1 _ _⟩
    · by_cases h3 : a - (cntL d.path : Int) - (d.typ.size : Int) - (d.nam.size : Int) < 0
      · go_enter Tryd.func44, Tryd.ntmps44
        go_wp2_with (go_at_call 73; refine (K.out _ (H.out.alloc _)).mono ?_; rintro _ _ ⟨rfl, rfl⟩)
        go_ret
        exact ⟨ret_i (by unfold leftI cntA; rw [if_neg (by omega)]), below_a1 _ _⟩
      · by_cases h4 : a - (cntL d.path : Int) - (d.typ.size : Int) - (d.nam.size : Int) - (d.key.size : Int) < 0
        · go_enter Tryd.func44, Tryd.ntmps44
          go_wp2_with (go_at_call 73; refine (K.out _ (H.out.alloc _)).mono ?_; rintro _ _ ⟨rfl, rfl⟩)
          go_ret
          exact ⟨ret_i (by unfold leftI cntA; rw [if_neg (by omega)]), below_a1 _ _⟩
        · go_enter Tryd.func44, Tryd.ntmps44
          go_wp2_with (go_at_call 73; refine (K.out _ (H.out.alloc _)).mono ?_; rintro _ _ ⟨rfl, rfl⟩)
          go_ret
          exact ⟨ret_i (by unfold leftI cntA; rw [if_pos (by omega)]; omega), below_a1 _ _⟩
  · have e1 : leftI a (cntL d.path) = -1 := by unfold leftI; rw [if_neg hp]
    have K := fun w h => e1 ▸ szStringS_any A c d.path a w h h0 h1 HL.out
    have K := Lib.hid K
    clear e1
    go_enter Tryd.func44, Tryd.ntmps44
    go_wp2_with (go_at_call 73; refine (K.out _ (H.out.alloc _)).mono ?_; rintro _ _ ⟨rfl, rfl⟩)
    go_ret
    exact ⟨ret_i (by unfold leftI cntA; rw [if_neg (by omega)]), below_a1 _ _⟩

theorem sz_ok (A : Option Addr) (c : Nat) (d : AddrD) (a : Int) (w : World) (h : Strs w A d.path) (h0 : 0 ≤ a) (h1 : a ≤ 1048576) (hl : d.path.length ≤ maxLen) (ht : d.typ.size ≤ maxLen) (hn : d.nam.size ≤ maxLen) (hk : d.key.size ≤ maxLen) (hc : (cntA d : Int) ≤ a) :
    Calls Tryd.prog 44 #[.agg #[.slice A d.path.length c, .string d.typ, .string d.nam, .int .i64 d.kind, .int .i64 d.n, .string d.key], .int .i64 a] w (Told w (.int .i64 (a - cntA d))) := by
  have := szAddr_any A c d a w h h0 h1 hl ht hn hk
  unfold leftI at this; rw [if_pos hc] at this; exact this
theorem sz_no (A : Option Addr) (c : Nat) (d : AddrD) (a : Int) (w : World) (h : Strs w A d.path) (h0 : 0 ≤ a) (h1 : a ≤ 1048576) (hl : d.path.length ≤ maxLen) (ht : d.typ.size ≤ maxLen) (hn : d.nam.size ≤ maxLen) (hk : d.key.size ≤ maxLen) (hc : a < (cntA d : Int)) :
    Calls Tryd.prog 44 #[.agg #[.slice A d.path.length c, .string d.typ, .string d.nam, .int .i64 d.kind, .int .i64 d.n, .string d.key], .int .i64 a] w (Told w (.int .i64 (-1))) := by
  have := szAddr_any A c d a w h h0 h1 hl ht hn hk
  unfold leftI at this; rw [if_neg (by omega)] at this; exact this

theorem sz_okL (A : Option Addr) (c : Nat) (l : List ByteArray) (a : Int) (w : World) (h : Strs w A l) (h0 : 0 ≤ a) (h1 : a ≤ 1048576) (hl : l.length ≤ maxLen) (hc : (cntL l : Int) ≤ a) :
    Calls Tryd.prog 73 #[.slice A l.length c, .int .i64 a] w (Told w (.int .i64 (a - cntL l))) := by
  have := szStringS_any A c l a w h h0 h1 hl
  unfold leftI at this; rw [if_pos hc] at this; exact this.mono fun _ _ ⟨he, hw⟩ => ⟨he, hw ▸ Below.refl _ _⟩
theorem sz_noL (A : Option Addr) (c : Nat) (l : List ByteArray) (a : Int) (w : World) (h : Strs w A l) (h0 : 0 ≤ a) (h1 : a ≤ 1048576) (hl : l.length ≤ maxLen) (hc : a < (cntL l : Int)) :
    Calls Tryd.prog 73 #[.slice A l.length c, .int .i64 a] w (Told w (.int .i64 (-1))) := by
  have := szStringS_any A c l a w h h0 h1 hl
  unfold leftI at this; rw [if_neg (by omega)] at this; exact this.mono fun _ _ ⟨he, hw⟩ => ⟨he, hw ▸ Below.refl _ _⟩
end Go.Proofs.YtnhoknbofmpdbaaDoor.adl
