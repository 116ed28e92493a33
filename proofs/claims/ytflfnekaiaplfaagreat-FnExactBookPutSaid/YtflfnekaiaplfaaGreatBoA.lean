/- Where a thing of an address stands, of the model. -/
import Derived.Test.YtflfnekaiaplfaaGreatThS
namespace Go.Proofs.YtflfnekaiaplfaaGreat.cf
open ad mem vl ex un cm
open Go.ChangeShapes Go.WideShapes Go.ChangeAt Go.RowKit Go.Lib
set_option linter.unusedVariables false
set_option maxRecDepth 8000
set_option linter.unusedSimpArgs false

/-- where a thing of an address stands, or -1. -/
def atI (l : List (List DC)) (a : AddrD) : Int := match l.findIdx? (fun ds => adl.eqA (bA ds) a) with | some k => (k : Int) | none => -1
theorem atI_some {l : List (List DC)} {a : AddrD} (k : Nat) (hk : k < l.length) (h : adl.eqA (bA l[k]) a = true) (hn : ∀ j (hj : j < l.length), j < k → adl.eqA (bA l[j]) a = false) : atI l a = k := by
  have : l.findIdx? (fun ds => adl.eqA (bA ds) a) = some k := List.findIdx?_eq_some_iff_getElem.2 ⟨hk, h, fun j hj => by rw [hn j (by omega) hj]; decide⟩
  unfold atI; rw [this]
theorem atI_none {l : List (List DC)} {a : AddrD} (hn : ∀ j (hj : j < l.length), adl.eqA (bA l[j]) a = false) : atI l a = -1 := by
  have : l.findIdx? (fun ds => adl.eqA (bA ds) a) = none := List.findIdx?_eq_none_iff.2 fun x hx => by
    obtain ⟨j, hj, rfl⟩ := List.getElem_of_mem hx
    exact hn j hj
  unfold atI; rw [this]
set_option maxHeartbeats 8000000 in
theorem at_spec {B B' : Nat → Prop} {n m c : Nat} {w : World} {xs : List (List DC)} {A : Option Addr} {ds : List DC} {vs : List Value} {a : AddrD} {r : Int} (hD : bA ds = a) (hr : atI xs a = r) (h : Cell B n w (.l 8) (.l xs) (.slice A xs.length c)) (h' : Cells B' m w shAddr_ ds vs) :
    Calls Tryz.prog 22 #[.slice A xs.length c, .agg vs.toArray] w (un.Told w (.int .i64 r)) := by
  subst hr
  have hlen := h.len.2
  unfold maxLen at hlen
  have H := Lib.hid (Gd.of1 h)
  have HA := Lib.hid (Gd.ofC h')
  obtain ⟨la0, sa1, sa2, xa3, xa4, sa5, Aa0, ca0, rfl, rfl, -⟩ := open_Addr h'
  clear h h'
  go_enter Tryz.func22, Tryz.ntmps22
  go_wp2
  go_loopw [5] (fun i wr => ∃ k : Nat, k ≤ xs.length ∧ i = .int .i64 k ∧ (∀ j (h : j < xs.length), j < k → adl.eqA (bA xs[j]) a = false) ∧ Blk wr w.heap.size 37 #[.slice Aa0 la0.length ca0, .string sa1, .string sa2, .int .i64 xa3, .int .i64 xa4, .string sa5] ∧ Below w.heap.size w wr) (fun i _ => xs.length - (RowKit.intOf i).toNat)
  case atStart => exact ⟨0, Nat.zero_le _, rfl, fun j _ hj => absurd hj (by omega), Blk.new w _ _, below_a1 _ _⟩
  case round =>
    obtain ⟨k, hk, rfl, hok, hB, hb⟩ := hrel
    have HOK := Lib.hid hok
    have E1 := Lib.hid hb
    have B1 := Lib.hid hB
    have b1 := hB.cell
    have l1 := hB.lt
    clear hok hB hb
    by_cases hlt : k < xs.length
    · obtain ⟨m', b, o, us, hm, rfl, _, hbl, hr, hin⟩ := (H.out.below E1.out).now.item k hlt
      obtain rfl : m' = n - 1 := by omega
      obtain ⟨lq0, sq1, sq2, xq3, xq4, sq5, lq6, lq7, Aq0, cq0, Aq6, cq6, Aq7, cq7, ed, rfl, kq0, kq1, kq2, kq3, kq4, kq5, -⟩ := open_Thing hin
      have HI := Lib.hid (Gd.ofC (show Cells B (n - 1) wr shAddr_ [.l lq0, .s sq1, .s sq2, .i xq3, .i xq4, .s sq5] [.slice Aq0 lq0.length cq0, .string sq1, .string sq2, .int .i64 xq3, .int .i64 xq4, .string sq5] from ⟨kq0, Cell.mkS kq1, Cell.mkS kq2, Cell.mkI kq3, Cell.mkI kq4, Cell.mkS kq5, trivial⟩))
      have he : bA [.l lq0, .s sq1, .s sq2, .i xq3, .i xq4, .s sq5] = bA xs[k] := by rw [ed]; rfl
      have HR := Lib.hid (show wr.rangeAt b (o + k * 8) _ from hr)
      have hkI : (k : Int) < xs.length := by omega
      obtain ⟨r, hrr⟩ : ∃ r, adl.eqA (bA xs[k]) a = r := ⟨_, rfl⟩
      have KS := fun (W' : World) (h : Below wr.heap.size wr W') => sameAddr_spec he hD hrr (HI.out.below h).now (HA.out.below (below_then E1.out h (Nat.le_refl _))).now
      have HRR := Lib.hid hrr
      clear hr hin hm ed he hrr kq0 kq1 kq2 kq3 kq4 kq5
      have q0 := later_cell (b := b) (o := o + k * 8) hbl (by simpa using HR.out 0 _ rfl)
      have q1 := later_cell (b := b) (o := o + k * 8 + 1) hbl (by simpa using HR.out 1 _ rfl)
      have q2 := later_cell (b := b) (o := o + k * 8 + 2) hbl (by simpa using HR.out 2 _ rfl)
      have q3 := later_cell (b := b) (o := o + k * 8 + 3) hbl (by simpa using HR.out 3 _ rfl)
      have q4 := later_cell (b := b) (o := o + k * 8 + 4) hbl (by simpa using HR.out 4 _ rfl)
      have q5 := later_cell (b := b) (o := o + k * 8 + 5) hbl (by simpa using HR.out 5 _ rfl)
      have qb0 := later_cell (b := w.heap.size) (o := 0) l1 (by rw [b1]; rfl)
      have qb1 := later_cell (b := w.heap.size) (o := 1) l1 (by rw [b1]; rfl)
      have qb2 := later_cell (b := w.heap.size) (o := 2) l1 (by rw [b1]; rfl)
      have qb3 := later_cell (b := w.heap.size) (o := 3) l1 (by rw [b1]; rfl)
      have qb4 := later_cell (b := w.heap.size) (o := 4) l1 (by rw [b1]; rfl)
      have qb5 := later_cell (b := w.heap.size) (o := 5) l1 (by rw [b1]; rfl)
      cases r
      all_goals
        go_wp2_with fail
        refine wp_region_later (by kernel_rfl) (by kernel_rfl) ?_
        repeat (go_big_quiet_step ((go_at_call 47; exact later_call (KS _ (later_below _)))))
        refine wpQuiet_nil ?_
        rintro _ ⟨u9, rfl⟩
        have E2 := Lib.hid (below_then E1.out (later_below u9) (Nat.le_refl _))
        have B2 := Lib.hid (B1.out.step (later_below u9))
        generalize later wr u9 = w9 at E2 B2 ⊢
        clear q0 q1 q2 q3 q4 q5 qb0 qb1 qb2 qb3 qb4 qb5 KS B1 E1 b1 l1
        have b2 := B2.out.cell
        have l2 := B2.out.lt
        go_wp2
      · go_roundw
        case rel => exact ⟨k + 1, by omega, by go_num, fun j h hj => by
          by_cases e : j = k
          · subst e; exact HRR.out
          · exact HOK.out j h (by omega), B2.out, E2.out⟩
        case measure => simp [RowKit.intOf]; omega
      · go_ret
        exact ⟨by rw [atI_some k hlt HRR.out (fun j h hj => HOK.out j h hj)]; rfl, E2.out⟩
    · go_wp2
      go_ret
      exact ⟨by rw [atI_none (fun j h => HOK.out j h (by omega))]; rfl, E1.out⟩
end Go.Proofs.YtflfnekaiaplfaaGreat.cf
