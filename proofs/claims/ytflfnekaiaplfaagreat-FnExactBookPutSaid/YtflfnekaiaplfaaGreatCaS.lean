/- Copies of many things, of the model. -/
import Derived.Test.YtflfnekaiaplfaaGreatBdS
namespace Go.Proofs.YtflfnekaiaplfaaGreat.cf
open ad mem vl ex un cm
open Go.ChangeShapes Go.WideShapes Go.ChangeAt Go.RowKit Go.Lib
set_option linter.unusedVariables false
set_option maxRecDepth 8000
set_option linter.unusedSimpArgs false


set_option maxHeartbeats 8000000 in
theorem l05CopyAll_pack {B : Nat → Prop} {n c : Nat} {w : World} {xs : List (List DC)} {A : Option Addr} (hT : ∀ i (h : i < xs.length), thB xs[i] = true) (hxl : xs.length ≤ 1000000) (h : Cell B n w (.l 8) (.l xs) (.slice A xs.length c)) :
    Calls Tryz.prog 48 #[.slice A xs.length c] w fun e w' => ∃ v, e = .returned v ∧ Pack w.heap.size 2 w' w.heap.size 41 8 v xs ∧ Below w.heap.size w w' := by
  have hlen := h.len.2
  unfold maxLen at hlen
  have H := Lib.hid (Gd.of1 h)
  have HTT := Lib.hid hT
  clear h hT
  go_enter Tryz.func48, Tryz.ntmps48
  go_wp2
  go_loopw [3, 4] (fun v i wr => ∃ k : Nat, k ≤ xs.length ∧ i = .int .i64 k ∧ Pack w.heap.size 2 wr w.heap.size 41 8 v (xs.take k) ∧ w.heap.size < wr.heap.size ∧ Below w.heap.size w wr) (fun _ i _ => xs.length - (RowKit.intOf i).toNat)
  case atStart => exact ⟨0, Nat.zero_le _, rfl, Pack.empty (Nat.le_refl _), by simp, below_a1 _ _⟩
  case round =>
    obtain ⟨k, hk, rfl, hpk, hzr, hb⟩ := hrel
    have HP := Lib.hid hpk
    have E1 := Lib.hid hb
    clear hpk hb
    by_cases hlt : k < xs.length
    · obtain ⟨m', b, o, us, hm, rfl, _, hbl, hr, hin⟩ := (H.out.below E1.out).now.item k hlt
      obtain rfl : m' = n - 1 := by omega
      have hthk := HTT.out k hlt
      have HXX := Lib.hid (Gd.ofC hin)
      obtain ⟨lq0, sq1, sq2, xq3, xq4, sq5, lq6, lq7, Aq0, cq0, Aq6, cq6, Aq7, cq7, ed, rfl, -⟩ := open_Thing hin
      have HR := Lib.hid (show wr.rangeAt b (o + k * 8) _ from hr)
      have hkI : (k : Int) < xs.length := by omega
      have HTK := Lib.hid (List.take_succ_eq_append_getElem hlt)
      rw [ed] at hthk
      have HX8 : Hid (Gd (fun w => Cells B (n - 1) w shThing_ [.l lq0, .s sq1, .s sq2, .i xq3, .i xq4, .s sq5, .l lq6, .l lq7] [.slice Aq0 lq0.length cq0, .string sq1, .string sq2, .int .i64 xq3, .int .i64 xq4, .string sq5, .slice Aq6 lq6.length cq6, .slice Aq7 lq7.length cq7]) wr) := by have := HXX.out; rw [ed] at this; exact this
      have K9 := Lib.hid (l05Copy_spec hthk HX8.out.now)
      have HED := Lib.hid ed
      have HPL : Hid ((xs.take k).length ≤ 1000000) := by show _ ≤ _; rw [List.length_take]; omega
      clear hr hin hm ed hthk
      go_wp2_with (refine wpList_load_mid rfl 41 (.tmp 15) rfl b (o + k * 8) rfl _ _ HR.out Tryz.underlying41 rfl (by kernel_rfl) ?_)
      refine K9.out.mono ?_
      clear K9
      rintro _ w2 ⟨A1, c1, A6, c6, A7, c7, rfl, ho, hb⟩
      have HB2 := Lib.hid hb
      have E3 := Lib.hid (below_then E1.out hb (Nat.le_refl _))
      have HO := Lib.hid ho
      have HRW := Lib.hid HP.out.row
      have z9 := E1.out.size
      have z29 := hb.size
      clear hb ho
      go_wp2_with (at_builtin; refine wpList_pack1 rfl inf_thing (.tmp 12) (.tmp 18) rfl (w := wr) (w1 := w2) (base := w.heap.size) (us := [.slice A1 lq0.length c1, .string sq1, .string sq2, .int .i64 xq3, .int .i64 xq4, .string sq5, .slice A6 lq6.length c6, .slice A7 lq7.length c7]) (ds := [.l lq0, .s sq1, .s sq2, .i xq3, .i xq4, .s sq5, .l lq6, .l lq7]) rfl HP.out ?hb z9 rfl ?hg ?hown ?hsm ?_)
      case hg => simp
      case hsm => exact HPL.out
      case hb => exact HB2.out
      case hown => exact Cells.monoB HO.out (fun x h1 h2 => ⟨by omega, fun e => by have := (HRW.out x e).2; omega⟩)
      intro v' w3 hpk' hg
      have E4 := Lib.hid (grown_below (below_da E3.out (Nat.le_refl _) _) hg (by simp <;> omega) (fun q hq => by have := (HRW.out q hq).1; omega))
      have z3 := hg.size
      simp only [World.size_alloc] at z3
      have P4 : Hid (Pack w.heap.size 2 w3 w.heap.size 41 8 v' (xs.take (k + 1))) := by
        show Pack _ _ _ _ _ _ _ _
        rw [HTK.out, HED.out]
        exact hpk'
      clear hpk' hg
      go_wp2
      go_roundw
      case rel => exact ⟨k + 1, by omega, by go_num, P4.out, by omega, E4.out⟩
      case measure => simp [RowKit.intOf]; omega
    · obtain rfl : k = xs.length := by omega
      have HP' := HP
      rw [List.take_length] at HP'
      go_wp2
      go_ret
      exact ⟨_, rfl, HP'.out, E1.out⟩
end Go.Proofs.YtflfnekaiaplfaaGreat.cf
