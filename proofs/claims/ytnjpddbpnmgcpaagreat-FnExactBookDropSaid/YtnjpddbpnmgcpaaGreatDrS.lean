/- What is dropped from a book, of the model. -/
import Derived.Test.YtnjpddbpnmgcpaaGreatCtS
import Derived.Test.YtnjpddbpnmgcpaaGreatPkS
import Derived.Test.YtnjpddbpnmgcpaaGreatBoA
import Derived.Test.YtnjpddbpnmgcpaaGreatBfI
namespace Go.Proofs.YtnjpddbpnmgcpaaGreat.cf
open ad mem vl ex un cm
open Go.ChangeShapes Go.WideShapes Go.ChangeAt Go.RowKit Go.Lib
set_option linter.unusedVariables false
set_option maxRecDepth 8000
set_option linter.unusedSimpArgs false


/-- a book without the things of an address. -/
def dropX (xs : List (List DC)) (a : AddrD) : List (List DC) := xs.filter fun x => !adl.eqA (bA x) a
theorem dropX_succ {xs : List (List DC)} {a : AddrD} {k : Nat} (h : k < xs.length) (r : Bool) (hr : adl.eqA (bA xs[k]) a = r) : dropX (xs.take (k + 1)) a = dropX (xs.take k) a ++ (if r then [] else [xs[k]]) := by
  unfold dropX
  rw [List.take_succ_eq_append_getElem h, List.filter_append]
  cases r <;> simp [hr]
theorem dropX_len {xs : List (List DC)} {a : AddrD} (k : Nat) : (dropX (xs.take k) a).length ≤ xs.length := by
  unfold dropX
  refine Nat.le_trans (List.length_filter_le _ _) ?_
  rw [List.length_take]; omega
set_option maxHeartbeats 8000000 in
theorem l06Drop_spec {B B' : Nat → Prop} {n m c : Nat} {w : World} {xs : List (List DC)} {A : Option Addr} {ds : List DC} {vs : List Value} {a : AddrD} (hD : bA ds = a) (hT : ∀ i (h : i < xs.length), thB xs[i] = true) (hxl : xs.length ≤ 1000000) (h : Cell B n w (.l 8) (.l xs) (.slice A xs.length c)) (h' : Cells B' m w shAddr_ ds vs) :
    Calls Tryz.prog 58 #[.slice A xs.length c, .agg vs.toArray] w fun e w' => ∃ v, e = .returned v ∧ Cell (fun x => w.heap.size ≤ x) 3 w' (.l 8) (.l (dropX xs a)) v ∧ Below w.heap.size w w' := by
  have hlen := h.len.2
  unfold maxLen at hlen
  have H := Lib.hid (Gd.of1 h)
  have HA := Lib.hid (Gd.ofC h')
  have HTT := Lib.hid hT
  obtain ⟨la0, sa1, sa2, xa3, xa4, sa5, Aa0, ca0, hdd, rfl, -⟩ := open_Addr h'
  clear h h' hT hdd
  go_enter Tryz.func58, Tryz.ntmps58
  go_wp2
  go_loopw [5, 6] (fun v i wr => ∃ k : Nat, k ≤ xs.length ∧ i = .int .i64 k ∧ Pack w.heap.size 2 wr (w.heap.size + 1) 32 8 v (dropX (xs.take k) a) ∧ Blk wr w.heap.size 28 #[.slice Aa0 la0.length ca0, .string sa1, .string sa2, .int .i64 xa3, .int .i64 xa4, .string sa5] ∧ Below w.heap.size w wr) (fun _ i _ => xs.length - (RowKit.intOf i).toNat)
  case atStart =>
    refine ⟨0, Nat.zero_le _, rfl, ?_, (Blk.new w _ _).alloc _, below_a2 _ _ _⟩
    have h := Pack.empty (N := w.heap.size) (n := 2) (w := w.alloc (.cells #[.slice Aa0 la0.length ca0, .string sa1, .string sa2, .int .i64 xa3, .int .i64 xa4, .string sa5] 28)) (base := w.heap.size + 1) (T := 32) (e := 8) (by simp)
    simp only [World.size_alloc] at h
    exact h
  case round =>
    obtain ⟨k, hk, rfl, hpk, hB, hb⟩ := hrel
    have HP := Lib.hid hpk
    have E1 := Lib.hid hb
    have B1 := Lib.hid hB
    have b1 := hB.cell
    have l1 := hB.lt
    clear hpk hB hb
    by_cases hlt : k < xs.length
    · obtain ⟨m', b, o, us, hm, rfl, _, hbl, hr, hin⟩ := (H.out.below E1.out).now.item k hlt
      obtain rfl : m' = n - 1 := by omega
      have hthk := HTT.out k hlt
      have HXX := Lib.hid (Gd.ofC hin)
      obtain ⟨lq0, sq1, sq2, xq3, xq4, sq5, lq6, lq7, Aq0, cq0, Aq6, cq6, Aq7, cq7, ed, rfl, kq0, kq1, kq2, kq3, kq4, kq5, -⟩ := open_Thing hin
      have HI := Lib.hid (Gd.ofC (show Cells B (n - 1) wr shAddr_ [.l lq0, .s sq1, .s sq2, .i xq3, .i xq4, .s sq5] [.slice Aq0 lq0.length cq0, .string sq1, .string sq2, .int .i64 xq3, .int .i64 xq4, .string sq5] from ⟨kq0, Cell.mkS kq1, Cell.mkS kq2, Cell.mkI kq3, Cell.mkI kq4, Cell.mkS kq5, trivial⟩))
      have he : bA [.l lq0, .s sq1, .s sq2, .i xq3, .i xq4, .s sq5] = bA xs[k] := by rw [ed]; rfl
      have HR := Lib.hid (show wr.rangeAt b (o + k * 8) _ from hr)
      have hkI : (k : Int) < xs.length := by omega
      obtain ⟨r, hrr⟩ : ∃ r, adl.eqA (bA xs[k]) a = r := ⟨_, rfl⟩
      have KS := fun (W' : World) (h : Below wr.heap.size wr W') => sameAddr_spec he hD hrr (HI.out.below h).now (HA.out.below (below_then E1.out h (Nat.le_refl _))).now
      have HDX := Lib.hid (dropX_succ hlt r hrr)
      rw [ed] at hthk
      have HX8 : Hid (Gd (fun w => Cells B (n - 1) w shThing_ [.l lq0, .s sq1, .s sq2, .i xq3, .i xq4, .s sq5, .l lq6, .l lq7] [.slice Aq0 lq0.length cq0, .string sq1, .string sq2, .int .i64 xq3, .int .i64 xq4, .string sq5, .slice Aq6 lq6.length cq6, .slice Aq7 lq7.length cq7]) wr) := by have := HXX.out; rw [ed] at this; exact this
      have KC := fun (W' : World) (h : Below wr.heap.size wr W') => Lib.hid (l05Copy_spec hthk (HX8.out.below h).now)
      have HED := Lib.hid ed
      have hpl : (dropX (xs.take k) a).length ≤ 1000000 := Nat.le_trans (dropX_len k) hxl
      have HPL := Lib.hid hpl
      clear hr hin hm ed he hrr kq0 kq1 kq2 kq3 kq4 kq5 hthk hpl
      have q0 := later_cell (b := b) (o := o + k * 8) hbl (by simpa using HR.out 0 _ rfl)
      have q1 := later_cell (b := b) (o := o + k * 8 + 1) hbl (by simpa using HR.out 1 _ rfl)
      have q2 := later_cell (b := b) (o := o + k * 8 + 2) hbl (by simpa using HR.out 2 _ rfl)
      have q3 := later_cell (b := b) (o := o + k * 8 + 3) hbl (by simpa using HR.out 3 _ rfl)
      have q4 := later_cell (b := b) (o := o + k * 8 + 4) hbl (by simpa using HR.out 4 _ rfl)
      have q5 := later_cell (b := b) (o := o + k * 8 + 5) hbl (by simpa using HR.out 5 _ rfl)
      have qb0 := later_cell (b := w.heap.size) (o := 0) l1 (by rw [b1]; rfl)
      have qb1 := later_cell (b := w.heap.size) (o := 1) l1 (by rw [b1]; rfl)
      have qb2 := later_cell (b := w.heap.size) (o := 2) l1 (by rw [b1]; rfl)
      have qb3 := later_cell (b := w.heap.size) (o := 3) l1 (by rw [b1]; rfl)
      have qb4 := later_cell (b := w.heap.size) (o := 4) l1 (by rw [b1]; rfl)
      have qb5 := later_cell (b := w.heap.size) (o := 5) l1 (by rw [b1]; rfl)
      cases r
      all_goals
        go_wp2_with fail
        refine wp_region_later (by kernel_rfl) (by kernel_rfl) ?_
        repeat (go_big_quiet_step ((go_at_call 59; exact later_call (KS _ (later_below _)))))
        refine wpQuiet_nil ?_
        rintro _ ⟨u9, rfl⟩
        have EB9 := Lib.hid (later_below (W := wr) u9)
        have E2 := Lib.hid (below_then E1.out (later_below u9) (Nat.le_refl _))
        have B2 := Lib.hid (B1.out.step (later_below u9))
        have P2 := Lib.hid (HP.out.below (later_below u9))
        generalize later wr u9 = w9 at E2 B2 P2 EB9 ⊢
        clear q0 q1 q2 q3 q4 q5 qb0 qb1 qb2 qb3 qb4 qb5 KS B1 E1 b1 l1
      · have K9 := KC _ EB9.out
        have HR9 := Lib.hid (show w9.rangeAt b (o + k * 8) _ from fun j v hv => (EB9.out.cell (p := ⟨b, o + k * 8 + j, none⟩) hbl).trans (HR.out j v hv))
        go_wp2_with (refine wpList_load_mid rfl 32 (.tmp 25) rfl b (o + k * 8) rfl _ _ HR9.out Tryz.underlying32 rfl (by kernel_rfl) ?_)
        refine K9.out.mono ?_
        clear K9 KC
        rintro _ w2 ⟨A1, c1, A6, c6, A7, c7, rfl, ho, hb⟩
        have HB2 := Lib.hid hb
        have E3 := Lib.hid (below_then E2.out hb (Nat.le_refl _))
        have B3 := Lib.hid (B2.out.step hb)
        have HO := Lib.hid ho
        have HRW := Lib.hid P2.out.row
        have z9 := E2.out.size
        have z29 := hb.size
        have hz2 : w.heap.size + 1 ≤ w9.heap.size := B2.out.lt
        clear hb ho
        go_wp2_with (at_builtin; refine wpList_pack1 rfl inf_thing (.tmp 22) (.tmp 28) rfl (w := w9) (w1 := w2) (base := w.heap.size + 1) (us := [.slice A1 lq0.length c1, .string sq1, .string sq2, .int .i64 xq3, .int .i64 xq4, .string sq5, .slice A6 lq6.length c6, .slice A7 lq7.length c7]) (ds := [.l lq0, .s sq1, .s sq2, .i xq3, .i xq4, .s sq5, .l lq6, .l lq7]) rfl P2.out ?hb hz2 rfl ?hg ?hown ?hsm ?_)
        case hg => simp
        case hsm => exact HPL.out
        case hb => exact HB2.out
        case hown => exact Cells.monoB HO.out (fun x h1 h2 => ⟨by omega, fun e => by have := (HRW.out x e).2; omega⟩)
        intro v' w3 hpk' hg
        have E4 := Lib.hid (grown_below (below_da E3.out (Nat.le_refl _) _) hg (by simp <;> omega) (fun q hq => by have := (HRW.out q hq).1; omega))
        have B4 := Lib.hid (grown_blk (B3.out.alloc _) hg (fun e => by have := (HRW.out _ e).1; omega))
        have P4 : Hid (Pack w.heap.size 2 w3 (w.heap.size + 1) 32 8 v' (dropX (xs.take (k + 1)) a)) := by
          show Pack _ _ _ _ _ _ _ _
          rw [HDX.out, HED.out]
          exact hpk'
        clear hpk' hg
        go_wp2
        go_roundw
        case rel => exact ⟨k + 1, by omega, by go_num, P4.out, B4.out, E4.out⟩
        case measure => simp [RowKit.intOf]; omega
      · go_wp2
        go_roundw
        case rel => exact ⟨k + 1, by omega, by go_num, by rw [HDX.out]; simpa using P2.out, B2.out, E2.out⟩
        case measure => simp [RowKit.intOf]; omega
    · obtain rfl : k = xs.length := by omega
      have HP' := HP
      rw [List.take_length] at HP'
      go_wp2
      go_ret
      exact ⟨_, rfl, HP'.out.done (by omega), E1.out⟩
end Go.Proofs.YtnjpddbpnmgcpaaGreat.cf
