/- What is put into a book, of the model. BookPut of the model. -/
import Derived.Test.YtflfnekaiaplfaaGreatCaS
import Derived.Test.YtflfnekaiaplfaaGreatPkS
import Derived.Test.YtflfnekaiaplfaaGreatCtL
import Derived.Deep.CutBlock
import Derived.Test.YtflfnekaiaplfaaGreatBdS
namespace Go.Proofs.YtflfnekaiaplfaaGreat.cf
open ad mem vl ex un
open Go.ChangeShapes Go.WideShapes Go.ChangeAt Go.RowKit Go.Lib
set_option linter.unusedVariables false
set_option maxRecDepth 8000
set_option linter.unusedSimpArgs false


/-- a thing is put in. -/
def putX (xs : List (List DC)) (td : List DC) (k : Nat) (there : Bool) : List (List DC) := xs.take k ++ [td] ++ xs.drop (k + (if there then 1 else 0))
theorem cut_put {xs : List (List DC)} {td : List DC} {k : Nat} {a : AddrD} (hD : bA td = a) (hs : ∀ i (h : i + 1 < xs.length), aheadA (bA xs[i]) (bA xs[i + 1])) (hk : k ≤ xs.length) (hok : ∀ j (h : j < xs.length), j < k → aheadA (bA xs[j]) a) (hno : ∀ h : k < xs.length, ¬ aheadA (bA xs[k]) a) (there : Bool)
    (h1 : there = true → ∃ h : k < xs.length, adl.eqA (bA xs[k]) a = true) (h0 : there = false → ∀ h : k < xs.length, adl.eqA (bA xs[k]) a = false) : Cut xs td k there := by
  subst hD
  refine ⟨hk, hok, fun i hi hki => ?_, fun h => ?_, fun h hkl e => ?_⟩
  · refine Int.not_lt.1 fun hlt => ?_
    exact hno (by omega) (rise_mono (ds := td) hs k i (by omega) hi hki hlt)
  · obtain ⟨h2, h3⟩ := h1 h
    exact ⟨h2, eqA_cf.1 h3⟩
  · have := h0 h hkl
    rw [eqA_cf.2 e] at this
    cases this
theorem _root_.Go.Proofs.YtflfnekaiaplfaaGreat.un.Cell.src' {B : Nat → Prop} {n e : Nat} {w : World} {Y : List (List DC)} {v : Value} (h : Cell B (n + 1) w (.l e) (.l Y) v) (A : Option Addr) (c : Nat) (hv : v = .slice A Y.length c) : Src B n w e A Y := by subst hv; exact h.src
set_option maxHeartbeats 8000000 in
theorem l06Put_spec {B B' : Nat → Prop} {n m c : Nat} {w : World} {xs : List (List DC)} {A : Option Addr} {td : List DC} {vs : List Value} (hs : ∀ i (h : i + 1 < xs.length), aheadA (bA xs[i]) (bA xs[i + 1])) (hT : ∀ i (h : i < xs.length), thB xs[i] = true) (ht : thB td = true) (hxl : xs.length ≤ 400) (h : Cell B (n + 1) w (.l 8) (.l xs) (.slice A xs.length c)) (h' : Cells B' m w shThing_ td vs) (hcap : xs.length ≤ c) (hcm : c ≤ maxLen) :
    Calls Tryz.prog 23 #[.slice A xs.length c, .agg vs.toArray] w fun e w' => ∃ (v : Value) (k : Nat) (there : Bool), e = .returned v ∧ Cut xs td k there ∧ Cell (fun x => w.heap.size ≤ x) 3 w' (.l 8) (.l (putX xs td k there)) v ∧ Below w.heap.size w w' := by
  unfold maxLen at hcm
  have H := Lib.hid (Gd.of1 h)
  have HTT := Lib.hid hT
  have HSS := Lib.hid hs
  have HTD := Lib.hid ht
  obtain ⟨a, ha⟩ : ∃ a, bA td = a := ⟨_, rfl⟩
  obtain ⟨lp0, sp1, sp2, xp3, xp4, sp5, lp6, lp7, Ap0, cp0, Ap6, cp6, Ap7, cp7, rfl, rfl, kp0, kp1, kp2, kp3, kp4, kp5, kp6, kp7⟩ := open_Thing h'
  have HT8 := Lib.hid (Gd.ofC h')
  have HA := Lib.hid (Gd.ofC (show Cells B' m w shAddr_ [.l lp0, .s sp1, .s sp2, .i xp3, .i xp4, .s sp5] [.slice Ap0 lp0.length cp0, .string sp1, .string sp2, .int .i64 xp3, .int .i64 xp4, .string sp5] from ⟨kp0, Cell.mkS kp1, Cell.mkS kp2, Cell.mkI kp3, Cell.mkI kp4, Cell.mkS kp5, trivial⟩))
  have hD : bA [.l lp0, .s sp1, .s sp2, .i xp3, .i xp4, .s sp5] = a := ha
  have HD := Lib.hid ha
  have hA : xs.length = 0 ∨ ∃ b o, A = some ⟨b, o, none⟩ := by
    rcases Nat.eq_zero_or_pos xs.length with e | e
    · exact .inl e
    · obtain ⟨_, b, o, _, _, e2, _⟩ := h.item 0 e
      exact .inr ⟨b, o, e2⟩
  clear h h' hT hs ht ha kp0 kp1 kp2 kp3 kp4 kp5 kp6 kp7
  go_enter Tryz.func23, Tryz.ntmps23
  go_upto_block 0 with fail
  go_cut [5] (fun s5 wx => ∃ k : Nat, s5 = .int .i64 k ∧ k ≤ xs.length ∧ (∀ j (h : j < xs.length), j < k → aheadA (bA xs[j]) a) ∧ (∀ h : k < xs.length, ¬ aheadA (bA xs[k]) a) ∧ Blk wx w.heap.size 41 #[.slice Ap0 lp0.length cp0, .string sp1, .string sp2, .int .i64 xp3, .int .i64 xp4, .string sp5, .slice Ap6 lp6.length cp6, .slice Ap7 lp7.length cp7] ∧ Below w.heap.size w wx)
  case first =>
    go_wp2_with fail
    go_loopw [5] (fun i wr => ∃ k : Nat, k ≤ xs.length ∧ i = .int .i64 k ∧ (∀ j (h : j < xs.length), j < k → aheadA (bA xs[j]) a) ∧ Blk wr w.heap.size 41 #[.slice Ap0 lp0.length cp0, .string sp1, .string sp2, .int .i64 xp3, .int .i64 xp4, .string sp5, .slice Ap6 lp6.length cp6, .slice Ap7 lp7.length cp7] ∧ Below w.heap.size w wr) (fun i _ => xs.length - (RowKit.intOf i).toNat)
    case atStart => exact ⟨0, Nat.zero_le _, rfl, fun j _ hj => absurd hj (by omega), Blk.new w _ _, below_a1 _ _⟩
    case round =>
      obtain ⟨k, hk, rfl, hok, hB, hb⟩ := hrel
      have HOK := Lib.hid hok
      have E1 := Lib.hid hb
      have B1 := Lib.hid hB
      have b1 := hB.cell
      have l1 := hB.lt
      clear hok hB hb
      by_cases hlt : k < xs.length
      · obtain ⟨m', b, o, us, hm, rfl, _, hbl, hr, hin⟩ := (H.out.below E1.out).now.item k hlt
        obtain rfl : m' = n := by omega
        obtain ⟨lq0, sq1, sq2, xq3, xq4, sq5, lq6, lq7, Aq0, cq0, Aq6, cq6, Aq7, cq7, ed, rfl, kq0, kq1, kq2, kq3, kq4, kq5, -⟩ := open_Thing hin
        have HI := Lib.hid (Gd.ofC (show Cells B m' wr shAddr_ [.l lq0, .s sq1, .s sq2, .i xq3, .i xq4, .s sq5] [.slice Aq0 lq0.length cq0, .string sq1, .string sq2, .int .i64 xq3, .int .i64 xq4, .string sq5] from ⟨kq0, Cell.mkS kq1, Cell.mkS kq2, Cell.mkI kq3, Cell.mkI kq4, Cell.mkS kq5, trivial⟩))
        have he : bA [.l lq0, .s sq1, .s sq2, .i xq3, .i xq4, .s sq5] = bA xs[k] := by rw [ed]; rfl
        have HR := Lib.hid (show wr.rangeAt b (o + k * 8) _ from hr)
        have hkI : (k : Int) < xs.length := by omega
        have hd : decide ((k : Int) < (xs.length : Int)) = true := by simp; omega
        obtain ⟨r, hrr⟩ : ∃ r, @decide (aheadA (bA xs[k]) a) (Classical.propDecidable _) = r := ⟨_, rfl⟩
        have KL := fun (W' : World) (h : Below wr.heap.size wr W') => (by have := less_spec (HI.out.below h).now (HA.out.below (below_then E1.out h (Nat.le_refl _))).now; rw [he, hD, hrr] at this; exact this : Calls Tryz.prog 44 #[.agg [.slice Aq0 lq0.length cq0, .string sq1, .string sq2, .int .i64 xq3, .int .i64 xq4, .string sq5].toArray, .agg [.slice Ap0 lp0.length cp0, .string sp1, .string sp2, .int .i64 xp3, .int .i64 xp4, .string sp5].toArray] W' (un.Told W' (.bool r)))
        have HRR := Lib.hid hrr
        clear hr hin ed he hrr kq0 kq1 kq2 kq3 kq4 kq5
        have q0 := later_cell (b := b) (o := o + k * 8) hbl (by simpa using HR.out 0 _ rfl)
        have q1 := later_cell (b := b) (o := o + k * 8 + 1) hbl (by simpa using HR.out 1 _ rfl)
        have q2 := later_cell (b := b) (o := o + k * 8 + 2) hbl (by simpa using HR.out 2 _ rfl)
        have q3 := later_cell (b := b) (o := o + k * 8 + 3) hbl (by simpa using HR.out 3 _ rfl)
        have q4 := later_cell (b := b) (o := o + k * 8 + 4) hbl (by simpa using HR.out 4 _ rfl)
        have q5 := later_cell (b := b) (o := o + k * 8 + 5) hbl (by simpa using HR.out 5 _ rfl)
        have qb0 := later_cell (b := w.heap.size) (o := 0) l1 (by rw [b1]; rfl)
        have qb1 := later_cell (b := w.heap.size) (o := 1) l1 (by rw [b1]; rfl)
        have qb2 := later_cell (b := w.heap.size) (o := 2) l1 (by rw [b1]; rfl)
        have qb3 := later_cell (b := w.heap.size) (o := 3) l1 (by rw [b1]; rfl)
        have qb4 := later_cell (b := w.heap.size) (o := 4) l1 (by rw [b1]; rfl)
        have qb5 := later_cell (b := w.heap.size) (o := 5) l1 (by rw [b1]; rfl)
        cases r
        · go_wp2_with fail
          refine wp_region_later (by kernel_rfl) (by kernel_rfl) ?_
          repeat (go_big_quiet_step ((go_at_call 44; exact later_call (KL _ (later_below _)))))
          refine wpQuiet_nil ?_
          rintro _ ⟨u9, rfl⟩
          have E2 := Lib.hid (below_then E1.out (later_below u9) (Nat.le_refl _))
          have B2 := Lib.hid (B1.out.step (later_below u9))
          generalize later wr u9 = w9 at E2 B2 ⊢
          clear q0 qb0 q1 qb1 q2 qb2 q3 qb3 q4 qb4 q5 qb5 KL B1 E1 b1 l1
          go_wp2
          go_meet
          exact ⟨k, rfl, hk, HOK.out, fun _ => @of_decide_eq_false _ (Classical.propDecidable _) HRR.out, B2.out, E2.out⟩
        · go_wp2_with fail
          refine wp_region_later (by kernel_rfl) (by kernel_rfl) ?_
          repeat (go_big_quiet_step ((go_at_call 44; exact later_call (KL _ (later_below _)))))
          refine wpQuiet_nil ?_
          rintro _ ⟨u9, rfl⟩
          have E2 := Lib.hid (below_then E1.out (later_below u9) (Nat.le_refl _))
          have B2 := Lib.hid (B1.out.step (later_below u9))
          generalize later wr u9 = w9 at E2 B2 ⊢
          clear q0 qb0 q1 qb1 q2 qb2 q3 qb3 q4 qb4 q5 qb5 KL B1 E1 b1 l1
          go_wp2
          go_roundw
          case rel => exact ⟨k + 1, by omega, by go_num, fun j h hj => by
            by_cases e : j = k
            · subst e; exact @of_decide_eq_true _ (Classical.propDecidable _) HRR.out
            · exact HOK.out j h (by omega), B2.out, E2.out⟩
          case measure => simp [RowKit.intOf]; omega
      · have hd : decide ((k : Int) < (xs.length : Int)) = false := by simp; omega
        go_wp2_with fail
        refine wp_region_later (by kernel_rfl) (by kernel_rfl) ?_
        repeat (go_big_quiet_step (fail))
        refine wpQuiet_nil ?_
        rintro _ ⟨u9, rfl⟩
        have E2 := Lib.hid (below_then E1.out (later_below u9) (Nat.le_refl _))
        have B2 := Lib.hid (B1.out.step (later_below u9))
        generalize later wr u9 = w9 at E2 B2 ⊢
        go_wp2
        go_meet
        exact ⟨k, rfl, hk, HOK.out, fun h => absurd h hlt, B2.out, E2.out⟩
  case rest =>
    obtain ⟨k, rfl, hk, hok, hno, hB, hb⟩ := hcut
    rename World => w1
    have E1 := Lib.hid hb
    have B1 := Lib.hid hB
    have HOK := Lib.hid hok
    have HNO := Lib.hid hno
    have b1 := hB.cell
    have l1 := hB.lt
    have z01 : w.heap.size < w1.heap.size := hB.lt
    have hlk : (xs.take k).length = k := by rw [List.length_take]; omega
    have hkc : k ≤ c := by omega
    have hkI : (k : Int) ≤ (c : Int) := by omega
    have hkI2 : (k : Int) ≤ (xs.length : Int) := by omega
    have KA : Hid _ := Lib.hid (l05CopyAll_pack (xs := xs.take k) (fun i hi => by rw [List.getElem_take]; exact HTT.out i (by rw [hlk] at hi; omega)) (by omega) ((H.out.below hb).now.takeL (c' := c) k))
    rw [hlk] at KA
    clear hok hno hB hb
    go_wp2_with fail
    refine KA.out.mono ?_
    clear KA
    rintro _ w2 ⟨v2, rfl, hpk, hb⟩
    have HP := Lib.hid hpk
    have E2 := Lib.hid (below_then E1.out hb (Nat.le_refl _))
    have B2 := Lib.hid (B1.out.step hb)
    have z12 := hb.size
    have KC := Lib.hid (l05Copy_spec HTD.out (HT8.out.below E2.out).now)
    have b2 := B2.out.cell
    have l2 := B2.out.lt
    clear hpk hb b1 l1
    go_wp2_with fail
    refine KC.out.mono ?_
    clear KC
    rintro _ w3 ⟨A1, c1, A6, c6, A7, c7, rfl, ho, hb⟩
    have HB3 := Lib.hid hb
    have E3 := Lib.hid (below_then E2.out hb (Nat.le_refl _))
    have B3 := Lib.hid (B2.out.step hb)
    have HO := Lib.hid ho
    have HRW := Lib.hid HP.out.row
    have z23 := hb.size
    have HPL : Hid ((xs.take k).length ≤ 1000000) := by show _ ≤ _; omega
    clear hb ho b2
    go_wp2_with (at_builtin; refine wpList_pack1 rfl inf_thing (.tmp 27) (.tmp 30) rfl (w := w2) (w1 := w3) (base := w1.heap.size) (us := [.slice A1 lp0.length c1, .string sp1, .string sp2, .int .i64 xp3, .int .i64 xp4, .string sp5, .slice A6 lp6.length c6, .slice A7 lp7.length c7]) (ds := [.l lp0, .s sp1, .s sp2, .i xp3, .i xp4, .s sp5, .l lp6, .l lp7]) rfl HP.out ?hb z12 rfl ?hg ?hown ?hsm ?_)
    case hg => simp
    case hsm => exact HPL.out
    case hb => exact HB3.out
    case hown => exact Cells.monoB HO.out (fun x h1 h2 => ⟨by omega, fun e => by have := (HRW.out x e).2; omega⟩)
    intro v4 w4 hpk4 hg
    have E4 := Lib.hid (grown_below (below_da E3.out (Nat.le_refl _) _) hg (by simp <;> omega) (fun q hq => by have := (HRW.out q hq).1; omega))
    have B4 := Lib.hid (grown_blk (B3.out.alloc _) hg (fun e => by have := (HRW.out _ e).1; omega))
    have P4 := Lib.hid hpk4
    have z4 := hg.size
    simp only [World.size_alloc] at z4
    have b4 := B4.out.cell
    have l4 := B4.out.lt
    clear hpk4 hg
    have z14 : w1.heap.size ≤ w4.heap.size := by omega
    have HR4 := Lib.hid P4.out.row
    by_cases hlt : k < xs.length
    · obtain ⟨m', b, o, us, hm, rfl, _, hbl, hr, hin⟩ := (H.out.below E4.out).now.item k hlt
      obtain rfl : m' = n := by omega
      obtain ⟨lq0, sq1, sq2, xq3, xq4, sq5, lq6, lq7, Aq0, cq0, Aq6, cq6, Aq7, cq7, ed, rfl, kq0, kq1, kq2, kq3, kq4, kq5, -⟩ := open_Thing hin
      have HI := Lib.hid (Gd.ofC (show Cells B m' w4 shAddr_ [.l lq0, .s sq1, .s sq2, .i xq3, .i xq4, .s sq5] [.slice Aq0 lq0.length cq0, .string sq1, .string sq2, .int .i64 xq3, .int .i64 xq4, .string sq5] from ⟨kq0, Cell.mkS kq1, Cell.mkS kq2, Cell.mkI kq3, Cell.mkI kq4, Cell.mkS kq5, trivial⟩))
      have he : bA [.l lq0, .s sq1, .s sq2, .i xq3, .i xq4, .s sq5] = bA xs[k] := by rw [ed]; rfl
      have HR := Lib.hid (show w4.rangeAt b (o + k * 8) _ from hr)
      have hkI : (k : Int) < xs.length := by omega
      have hd : decide ((k : Int) < (xs.length : Int)) = true := by simp; omega
      obtain ⟨r, hrr⟩ : ∃ r, adl.eqA (bA xs[k]) a = r := ⟨_, rfl⟩
      have KS := fun (W' : World) (h : Below w4.heap.size w4 W') => sameAddr_spec he hD hrr (HI.out.below h).now (HA.out.below (below_then E4.out h (Nat.le_refl _))).now
      have HRR := Lib.hid hrr
      clear hr hin ed he hrr kq0 kq1 kq2 kq3 kq4 kq5
      have q0 := later_cell (b := b) (o := o + k * 8) hbl (by simpa using HR.out 0 _ rfl)
      have q1 := later_cell (b := b) (o := o + k * 8 + 1) hbl (by simpa using HR.out 1 _ rfl)
      have q2 := later_cell (b := b) (o := o + k * 8 + 2) hbl (by simpa using HR.out 2 _ rfl)
      have q3 := later_cell (b := b) (o := o + k * 8 + 3) hbl (by simpa using HR.out 3 _ rfl)
      have q4 := later_cell (b := b) (o := o + k * 8 + 4) hbl (by simpa using HR.out 4 _ rfl)
      have q5 := later_cell (b := b) (o := o + k * 8 + 5) hbl (by simpa using HR.out 5 _ rfl)
      have qb0 := later_cell (b := w.heap.size) (o := 0) l4 (by rw [b4]; rfl)
      have qb1 := later_cell (b := w.heap.size) (o := 1) l4 (by rw [b4]; rfl)
      have qb2 := later_cell (b := w.heap.size) (o := 2) l4 (by rw [b4]; rfl)
      have qb3 := later_cell (b := w.heap.size) (o := 3) l4 (by rw [b4]; rfl)
      have qb4 := later_cell (b := w.heap.size) (o := 4) l4 (by rw [b4]; rfl)
      have qb5 := later_cell (b := w.heap.size) (o := 5) l4 (by rw [b4]; rfl)
      cases r
      · go_wp2_with fail
        refine wp_region_later (by kernel_rfl) (by kernel_rfl) ?_
        repeat (go_big_quiet_step ((go_at_call 47; exact later_call (KS _ (later_below _)))))
        refine wpQuiet_nil ?_
        rintro _ ⟨u9, rfl⟩
        have E5 := Lib.hid (below_then E4.out (later_below u9) (Nat.le_refl _))
        have P5 := Lib.hid (P4.out.below (later_below u9))
        have z45 := (later_below (W := w4) u9).size
        generalize later w4 u9 = w5 at E5 P5 z45 ⊢
        have hck : k ≤ c := by omega
        have hckI : ((k : Nat) : Int) ≤ (c : Int) := by omega
        have hckI2 : ((k : Nat) : Int) ≤ (xs.length : Int) := by omega
        try simp only [Int.natCast_add, Int.natCast_one] at hckI hckI2
        have hld : (xs.drop (k)).length = xs.length - (k) := by rw [List.length_drop]
        have KA : ∀ (A2 : Option Addr) (c2 : Nat), (k < xs.length → ∀ b9 o9, (some (⟨b, o, none⟩ : Addr)) = some ⟨b9, o9, none⟩ → A2 = some ⟨b9, o9 + (k) * (sh 8).length, none⟩) → Calls Tryz.prog 48 #[.slice A2 (xs.length - (k)) c2] w5 fun e w' => ∃ v, e = .returned v ∧ Pack w5.heap.size 2 w' w5.heap.size 41 8 v (xs.drop (k)) ∧ Below w5.heap.size w5 w' := fun A2 c2 hA2 => by
          have := l05CopyAll_pack (xs := xs.drop (k)) (fun i hi => by rw [List.getElem_drop]; exact HTT.out _ (by rw [hld] at hi; omega)) (by omega) ((H.out.below E5.out).now.dropL (c' := c2) (k) hA2)
          rw [hld] at this
          exact this
        have HPX : Hid (putX xs [.l lp0, .s sp1, .s sp2, .i xp3, .i xp4, .s sp5, .l lp6, .l lp7] k false = xs.take k ++ ([.l lp0, .s sp1, .s sp2, .i xp3, .i xp4, .s sp5, .l lp6, .l lp7] :: xs.drop (k))) := by show _ = _; simp [putX]
        have HC9 := Lib.hid (cut_put HD.out HSS.out hk HOK.out HNO.out false (fun h => by cases h) (fun _ _ => HRR.out))
        go_wp2_with fail
        all_goals
          refine (KA _ _ (by
            intro h b' o' e
            first
              | omega
              | (injection e with e; injection e with e1 e2 _; subst e1 e2; rfl)
              | (subst e; rfl)
              | (injection e with e; subst e; simp [un.addr_add, sh]))).mono ?_
          rintro _ w6 ⟨v6, rfl, hpk6, hb6⟩
          have E6 := Lib.hid (below_then E5.out hb6 (Nat.le_refl _))
          have P6 := Lib.hid (P5.out.below hb6)
          have z56 := hb6.size
          have HY := Lib.hid (fun (A9 : Option Addr) (c9 : Nat) (hv : v6 = .slice A9 (xs.drop (k)).length c9) => Src.mono (C' := fun x => w1.heap.size ≤ x ∧ v4.ownBlock ≠ some x) ((hpk6.done (Nat.le_refl _)).src' A9 c9 hv) (fun b hb _ => ⟨by omega, fun e => by have := (HR4.out b e).2; omega⟩))
          obtain ⟨A9, c9, rfl, -⟩ := hpk6.form
          clear hpk6 hb6 KA
          go_wp2_with (at_builtin; refine wpList_packN rfl inf_thing (.tmp 48) (.tmp 52) rfl (base := w1.heap.size) (v := v4) (X := xs.take k ++ [[.l lp0, .s sp1, .s sp2, .i xp3, .i xp4, .s sp5, .l lp6, .l lp7]]) (Y := xs.drop (k)) rfl P6.out (by omega) rfl (by first | rfl | exact hld.symm | simp) (HY.out _ _ rfl) ?hsm ?_)
          case hsm => (have h1 := HPL.out); simp only [List.length_append, List.length_singleton]; omega
          intro v7 w7 hpk7 hg7
          have E7 := Lib.hid (grown_below E6.out hg7 (by omega) (fun q hq => by have := (HR4.out q hq).1; omega))
          have hdn : Hid (Cell (fun x => w1.heap.size ≤ x) 3 w7 (.l 8) (.l (putX xs [.l lp0, .s sp1, .s sp2, .i xp3, .i xp4, .s sp5, .l lp6, .l lp7] k false)) v7) := by (have := hpk7.done (Nat.le_refl _)); show Cell _ _ _ _ _ _; rw [HPX.out]; simpa using this
          clear hpk7 hg7
          go_wp2
          go_ret
          refine ⟨v7, k, false, rfl, HC9.out, ?_, E7.out⟩
          exact hdn.out.mono (fun x hx _ => by omega)
      · go_wp2_with fail
        refine wp_region_later (by kernel_rfl) (by kernel_rfl) ?_
        repeat (go_big_quiet_step ((go_at_call 47; exact later_call (KS _ (later_below _)))))
        refine wpQuiet_nil ?_
        rintro _ ⟨u9, rfl⟩
        have E5 := Lib.hid (below_then E4.out (later_below u9) (Nat.le_refl _))
        have P5 := Lib.hid (P4.out.below (later_below u9))
        have z45 := (later_below (W := w4) u9).size
        generalize later w4 u9 = w5 at E5 P5 z45 ⊢
        have hck : k + 1 ≤ c := by omega
        have hckI : ((k + 1 : Nat) : Int) ≤ (c : Int) := by omega
        have hckI2 : ((k + 1 : Nat) : Int) ≤ (xs.length : Int) := by omega
        try simp only [Int.natCast_add, Int.natCast_one] at hckI hckI2
        have hld : (xs.drop (k + 1)).length = xs.length - (k + 1) := by rw [List.length_drop]
        have KA : ∀ (A2 : Option Addr) (c2 : Nat), (k + 1 < xs.length → ∀ b9 o9, (some (⟨b, o, none⟩ : Addr)) = some ⟨b9, o9, none⟩ → A2 = some ⟨b9, o9 + (k + 1) * (sh 8).length, none⟩) → Calls Tryz.prog 48 #[.slice A2 (xs.length - (k + 1)) c2] w5 fun e w' => ∃ v, e = .returned v ∧ Pack w5.heap.size 2 w' w5.heap.size 41 8 v (xs.drop (k + 1)) ∧ Below w5.heap.size w5 w' := fun A2 c2 hA2 => by
          have := l05CopyAll_pack (xs := xs.drop (k + 1)) (fun i hi => by rw [List.getElem_drop]; exact HTT.out _ (by rw [hld] at hi; omega)) (by omega) ((H.out.below E5.out).now.dropL (c' := c2) (k + 1) hA2)
          rw [hld] at this
          exact this
        have HPX : Hid (putX xs [.l lp0, .s sp1, .s sp2, .i xp3, .i xp4, .s sp5, .l lp6, .l lp7] k true = xs.take k ++ ([.l lp0, .s sp1, .s sp2, .i xp3, .i xp4, .s sp5, .l lp6, .l lp7] :: xs.drop (k + 1))) := by show _ = _; simp [putX]
        have HC9 := Lib.hid (cut_put HD.out HSS.out hk HOK.out HNO.out true (fun h => ⟨hlt, HRR.out⟩) (fun h => by cases h))
        go_wp2_with fail
        all_goals
          refine (KA _ _ (by
            intro h b' o' e
            first
              | omega
              | (injection e with e; injection e with e1 e2 _; subst e1 e2; rfl)
              | (subst e; rfl)
              | (injection e with e; subst e; simp [un.addr_add, sh]))).mono ?_
          rintro _ w6 ⟨v6, rfl, hpk6, hb6⟩
          have E6 := Lib.hid (below_then E5.out hb6 (Nat.le_refl _))
          have P6 := Lib.hid (P5.out.below hb6)
          have z56 := hb6.size
          have HY := Lib.hid (fun (A9 : Option Addr) (c9 : Nat) (hv : v6 = .slice A9 (xs.drop (k + 1)).length c9) => Src.mono (C' := fun x => w1.heap.size ≤ x ∧ v4.ownBlock ≠ some x) ((hpk6.done (Nat.le_refl _)).src' A9 c9 hv) (fun b hb _ => ⟨by omega, fun e => by have := (HR4.out b e).2; omega⟩))
          obtain ⟨A9, c9, rfl, -⟩ := hpk6.form
          clear hpk6 hb6 KA
          go_wp2_with (at_builtin; refine wpList_packN rfl inf_thing (.tmp 48) (.tmp 52) rfl (base := w1.heap.size) (v := v4) (X := xs.take k ++ [[.l lp0, .s sp1, .s sp2, .i xp3, .i xp4, .s sp5, .l lp6, .l lp7]]) (Y := xs.drop (k + 1)) rfl P6.out (by omega) rfl (by first | rfl | exact hld.symm | simp) (HY.out _ _ rfl) ?hsm ?_)
          case hsm => (have h1 := HPL.out); simp only [List.length_append, List.length_singleton]; omega
          intro v7 w7 hpk7 hg7
          have E7 := Lib.hid (grown_below E6.out hg7 (by omega) (fun q hq => by have := (HR4.out q hq).1; omega))
          have hdn : Hid (Cell (fun x => w1.heap.size ≤ x) 3 w7 (.l 8) (.l (putX xs [.l lp0, .s sp1, .s sp2, .i xp3, .i xp4, .s sp5, .l lp6, .l lp7] k true)) v7) := by (have := hpk7.done (Nat.le_refl _)); show Cell _ _ _ _ _ _; rw [HPX.out]; simpa using this
          clear hpk7 hg7
          go_wp2
          go_ret
          refine ⟨v7, k, true, rfl, HC9.out, ?_, E7.out⟩
          exact hdn.out.mono (fun x hx _ => by omega)
    · have hd : decide ((k : Int) < (xs.length : Int)) = false := by simp; omega
      go_wp2_with fail
      refine wp_region_later (by kernel_rfl) (by kernel_rfl) ?_
      repeat (go_big_quiet_step (fail))
      refine wpQuiet_nil ?_
      rintro _ ⟨u9, rfl⟩
      have E5 := Lib.hid (below_then E4.out (later_below u9) (Nat.le_refl _))
      have P5 := Lib.hid (P4.out.below (later_below u9))
      have z45 := (later_below (W := w4) u9).size
      generalize later w4 u9 = w5 at E5 P5 z45 ⊢
      have hck : k ≤ c := by omega
      have hckI : ((k : Nat) : Int) ≤ (c : Int) := by omega
      have hckI2 : ((k : Nat) : Int) ≤ (xs.length : Int) := by omega
      try simp only [Int.natCast_add, Int.natCast_one] at hckI hckI2
      have hld : (xs.drop (k)).length = xs.length - (k) := by rw [List.length_drop]
      have KA : ∀ (A2 : Option Addr) (c2 : Nat), (k < xs.length → ∀ b9 o9, A = some ⟨b9, o9, none⟩ → A2 = some ⟨b9, o9 + (k) * (sh 8).length, none⟩) → Calls Tryz.prog 48 #[.slice A2 (xs.length - (k)) c2] w5 fun e w' => ∃ v, e = .returned v ∧ Pack w5.heap.size 2 w' w5.heap.size 41 8 v (xs.drop (k)) ∧ Below w5.heap.size w5 w' := fun A2 c2 hA2 => by
        have := l05CopyAll_pack (xs := xs.drop (k)) (fun i hi => by rw [List.getElem_drop]; exact HTT.out _ (by rw [hld] at hi; omega)) (by omega) ((H.out.below E5.out).now.dropL (c' := c2) (k) hA2)
        rw [hld] at this
        exact this
      have HPX : Hid (putX xs [.l lp0, .s sp1, .s sp2, .i xp3, .i xp4, .s sp5, .l lp6, .l lp7] k false = xs.take k ++ ([.l lp0, .s sp1, .s sp2, .i xp3, .i xp4, .s sp5, .l lp6, .l lp7] :: xs.drop (k))) := by show _ = _; simp [putX]
      have HC9 := Lib.hid (cut_put HD.out HSS.out hk HOK.out HNO.out false (fun h => by cases h) (fun _ h => absurd h hlt))
      go_wp2_with fail
      all_goals
        refine (KA _ _ (by
          intro h b' o' e
          first
            | omega
            | (injection e with e; injection e with e1 e2 _; subst e1 e2; rfl)
            | (subst e; rfl)
            | (injection e with e; subst e; simp [un.addr_add, sh]))).mono ?_
        rintro _ w6 ⟨v6, rfl, hpk6, hb6⟩
        have E6 := Lib.hid (below_then E5.out hb6 (Nat.le_refl _))
        have P6 := Lib.hid (P5.out.below hb6)
        have z56 := hb6.size
        have HY := Lib.hid (fun (A9 : Option Addr) (c9 : Nat) (hv : v6 = .slice A9 (xs.drop (k)).length c9) => Src.mono (C' := fun x => w1.heap.size ≤ x ∧ v4.ownBlock ≠ some x) ((hpk6.done (Nat.le_refl _)).src' A9 c9 hv) (fun b hb _ => ⟨by omega, fun e => by have := (HR4.out b e).2; omega⟩))
        obtain ⟨A9, c9, rfl, -⟩ := hpk6.form
        clear hpk6 hb6 KA
        go_wp2_with (at_builtin; refine wpList_packN rfl inf_thing (.tmp 48) (.tmp 52) rfl (base := w1.heap.size) (v := v4) (X := xs.take k ++ [[.l lp0, .s sp1, .s sp2, .i xp3, .i xp4, .s sp5, .l lp6, .l lp7]]) (Y := xs.drop (k)) rfl P6.out (by omega) rfl (by first | rfl | exact hld.symm | simp) (HY.out _ _ rfl) ?hsm ?_)
        case hsm => (have h1 := HPL.out); simp only [List.length_append, List.length_singleton]; omega
        intro v7 w7 hpk7 hg7
        have E7 := Lib.hid (grown_below E6.out hg7 (by omega) (fun q hq => by have := (HR4.out q hq).1; omega))
        have hdn : Hid (Cell (fun x => w1.heap.size ≤ x) 3 w7 (.l 8) (.l (putX xs [.l lp0, .s sp1, .s sp2, .i xp3, .i xp4, .s sp5, .l lp6, .l lp7] k false)) v7) := by (have := hpk7.done (Nat.le_refl _)); show Cell _ _ _ _ _ _; rw [HPX.out]; simpa using this
        clear hpk7 hg7
        go_wp2
        go_ret
        refine ⟨v7, k, false, rfl, HC9.out, ?_, E7.out⟩
        exact hdn.out.mono (fun x hx _ => by omega)
end Go.Proofs.YtflfnekaiaplfaaGreat.cf
namespace Go.Proofs.YtflfnekaiaplfaaGreat.cf
open ad mem vl ex un
open Go.ChangeShapes Go.WideShapes Go.ChangeAt Go.RowKit Go.Lib
set_option linter.unusedVariables false
set_option maxRecDepth 8000
set_option linter.unusedSimpArgs false


theorem cut_one {xs : List (List DC)} {td : List DC} {k k' : Nat} {t t' : Bool} (h : Cut xs td k t) (h' : Cut xs td k' t') : k = k' ∧ t = t' := by
  have e : k = k' := by
    rcases Nat.lt_trichotomy k k' with hlt | e | hlt
    · have hl : k < xs.length := Nat.lt_of_lt_of_le hlt h'.le
      have h1 := h'.low k hl hlt; have h2 := h.high k hl (Nat.le_refl _); omega
    · exact e
    · have hl : k' < xs.length := Nat.lt_of_lt_of_le hlt h.le
      have h1 := h.low k' hl hlt; have h2 := h'.high k' hl (Nat.le_refl _); omega
  subst e
  refine ⟨rfl, ?_⟩
  cases t <;> cases t'
  · rfl
  · obtain ⟨h1, h2⟩ := h'.yes rfl; exact absurd h2 (h.no rfl h1)
  · obtain ⟨h1, h2⟩ := h.yes rfl; exact absurd h2 (h'.no rfl h1)
  · rfl
open Classical in
noncomputable def cutK (xs : List (List DC)) (td : List DC) : Nat × Bool := if h : ∃ p : Nat × Bool, Cut xs td p.1 p.2 then Classical.choose h else (0, false)
theorem cutK_eq {xs : List (List DC)} {td : List DC} {k : Nat} {t : Bool} (h : Cut xs td k t) : cutK xs td = (k, t) := by
  have hx : ∃ p : Nat × Bool, Cut xs td p.1 p.2 := ⟨(k, t), h⟩
  unfold cutK
  rw [dif_pos hx]
  obtain ⟨e1, e2⟩ := cut_one (Classical.choose_spec hx) h
  exact Prod.ext e1 e2
/-- what BookPut answers. -/
noncomputable def putOut (xs : List (List DC)) (td : List DC) : List DC := if 400 < xs.length ∨ 400 < (bL (td.getD 6 z)).length ∨ 400 < (bL (td.getD 7 z)).length then [.l [], .i 2] else if bookB xs = false ∨ thB td = false then [.l [], .i 1] else if 40 ≤ xs.length ∧ atI xs (bA td) < 0 then [.l [], .i 9] else [.l (putX xs td (cutK xs td).1 (cutK xs td).2), .i 0]
set_option maxHeartbeats 8000000 in
theorem bookPut_spec {B B' : Nat → Prop} {n m c : Nat} {w : World} {xs : List (List DC)} {A : Option Addr} {td : List DC} {vs : List Value} {X : List DC} (hX : putOut xs td = X) (h : Cell B (n + 1) w (.l 8) (.l xs) (.slice A xs.length c)) (h' : Cells B' m w shThing_ td vs) (hcap : xs.length ≤ c) (hcm : c ≤ maxLen) :
    Calls Tryz.prog 6 #[.slice A xs.length c, .agg vs.toArray] w (fun e w' => ∃ us : List Value, e = .returned (.agg us.toArray) ∧ Cells (fun x => w.heap.size ≤ x) 3 w' shBookOut_ X us ∧ Below w.heap.size w w') := by
  subst hX
  have hxl := h.len.2
  unfold maxLen at hxl
  have hxI : (xs.length : Int) ≤ 9223372036854775807 := by omega
  have H := Lib.hid (Gd.of1 h)
  have HT8 := Lib.hid (Gd.ofC h')
  obtain ⟨a, ha⟩ : ∃ a, bA td = a := ⟨_, rfl⟩
  obtain ⟨lp0, sp1, sp2, xp3, xp4, sp5, lp6, lp7, Ap0, cp0, Ap6, cp6, Ap7, cp7, rfl, rfl, kp0, kp1, kp2, kp3, kp4, kp5, kp6, kp7⟩ := open_Thing h'
  have HA := Lib.hid (Gd.ofC (show Cells B' m w shAddr_ [.l lp0, .s sp1, .s sp2, .i xp3, .i xp4, .s sp5] [.slice Ap0 lp0.length cp0, .string sp1, .string sp2, .int .i64 xp3, .int .i64 xp4, .string sp5] from ⟨kp0, Cell.mkS kp1, Cell.mkS kp2, Cell.mkI kp3, Cell.mkI kp4, Cell.mkS kp5, trivial⟩))
  have HD : Hid (bA [.l lp0, .s sp1, .s sp2, .i xp3, .i xp4, .s sp5] = a) := ha
  have HD8 := Lib.hid ha
  have HPU : Hid (putOut xs [.l lp0, .s sp1, .s sp2, .i xp3, .i xp4, .s sp5, .l lp6, .l lp7] = if 400 < xs.length ∨ 400 < lp6.length ∨ 400 < lp7.length then [.l [], .i 2] else if bookB xs = false ∨ thB [.l lp0, .s sp1, .s sp2, .i xp3, .i xp4, .s sp5, .l lp6, .l lp7] = false then [.l [], .i 1] else if 40 ≤ xs.length ∧ atI xs a < 0 then [.l [], .i 9] else [.l (putX xs [.l lp0, .s sp1, .s sp2, .i xp3, .i xp4, .s sp5, .l lp6, .l lp7] (cutK xs [.l lp0, .s sp1, .s sp2, .i xp3, .i xp4, .s sp5, .l lp6, .l lp7]).1 (cutK xs [.l lp0, .s sp1, .s sp2, .i xp3, .i xp4, .s sp5, .l lp6, .l lp7]).2), .i 0]) := by show _ = _; rw [← ha]; rfl
  have E0 := Lib.hid (below_a2 w (.cells #[.slice Ap0 lp0.length cp0, .string sp1, .string sp2, .int .i64 xp3, .int .i64 xp4, .string sp5, .slice Ap6 lp6.length cp6, .slice Ap7 lp7.length cp7] 41) (.cells #[.slice none 0 0, .int .i64 0] 34))
  have P0 := Lib.hid (Blk.new1 w (.cells #[.slice Ap0 lp0.length cp0, .string sp1, .string sp2, .int .i64 xp3, .int .i64 xp4, .string sp5, .slice Ap6 lp6.length cp6, .slice Ap7 lp7.length cp7] 41) 34 #[.slice none 0 0, .int .i64 0])
  have B0 := Lib.hid ((Blk.new w 41 #[.slice Ap0 lp0.length cp0, .string sp1, .string sp2, .int .i64 xp3, .int .i64 xp4, .string sp5, .slice Ap6 lp6.length cp6, .slice Ap7 lp7.length cp7]).alloc (.cells #[.slice none 0 0, .int .i64 0] 34))
  have KC := fun (W : World) (hW : Below w.heap.size w W) (r : Int) (hr : atI xs a = r) => Lib.hid (at_spec HD.out hr (H.out.below hW).now (HA.out.below hW).now)
  have KB := fun (W : World) (hW : Below w.heap.size w W) (r : Bool) (hr : bookB xs = r) => Lib.hid (book_spec hr (H.out.below hW).now)
  have KT := fun (W : World) (hW : Below w.heap.size w W) (r : Bool) (hr : thB [.l lp0, .s sp1, .s sp2, .i xp3, .i xp4, .s sp5, .l lp6, .l lp7] = r) => Lib.hid (thing_spec hr (HT8.out.below hW).now)
  clear h h' ha kp0 kp1 kp2 kp3 kp4 kp5 kp6 kp7
  by_cases h4 : 400 < xs.length
  · have HX : Hid (putOut xs [.l lp0, .s sp1, .s sp2, .i xp3, .i xp4, .s sp5, .l lp6, .l lp7] = [.l [], .i 2]) := by show _ = _; rw [HPU.out, if_pos (.inl h4)]
    have h4I : (400 : Int) < xs.length := by omega
    go_enter Tryz.func6, Tryz.ntmps6
    have p9 := P0.out.cell
    have f9 := P0.out.free
    have z9 := P0.out.lt
    go_wp2
    refine bodyPost_ret (v := .agg #[.slice none 0 0, .int .i64 2]) (by simp [results, Tryz.results6, go_sem, p9, f9]; try rfl) rfl ⟨[.slice none 0 0, .int .i64 2], rfl, ?_, ?_⟩
    · rw [HX.out]
      exact Cells.monoB (none_owns 3 _ (fun _ => False) _ (by unfold R64; omega)).cells (fun _ h _ => h.elim)
    · first
        | exact below_a2 _ _ _
        | (iterate 2 refine Below.setCell ?_ (Nat.le_succ _) _
           exact E0.out)
  have h4I : ¬ (400 : Int) < xs.length := by omega
  by_cases h6 : 400 < lp6.length
  · have HX : Hid (putOut xs [.l lp0, .s sp1, .s sp2, .i xp3, .i xp4, .s sp5, .l lp6, .l lp7] = [.l [], .i 2]) := by show _ = _; rw [HPU.out, if_pos (.inr (.inl h6))]
    have h6I : (400 : Int) < lp6.length := by omega
    go_enter Tryz.func6, Tryz.ntmps6
    have p9 := P0.out.cell
    have f9 := P0.out.free
    have z9 := P0.out.lt
    go_wp2
    refine bodyPost_ret (v := .agg #[.slice none 0 0, .int .i64 2]) (by simp [results, Tryz.results6, go_sem, p9, f9]; try rfl) rfl ⟨[.slice none 0 0, .int .i64 2], rfl, ?_, ?_⟩
    · rw [HX.out]
      exact Cells.monoB (none_owns 3 _ (fun _ => False) _ (by unfold R64; omega)).cells (fun _ h _ => h.elim)
    · first
        | exact below_a2 _ _ _
        | (iterate 2 refine Below.setCell ?_ (Nat.le_succ _) _
           exact E0.out)
  have h6I : ¬ (400 : Int) < lp6.length := by omega
  by_cases h7 : 400 < lp7.length
  · have HX : Hid (putOut xs [.l lp0, .s sp1, .s sp2, .i xp3, .i xp4, .s sp5, .l lp6, .l lp7] = [.l [], .i 2]) := by show _ = _; rw [HPU.out, if_pos (.inr (.inr h7))]
    have h7I : (400 : Int) < lp7.length := by omega
    go_enter Tryz.func6, Tryz.ntmps6
    have p9 := P0.out.cell
    have f9 := P0.out.free
    have z9 := P0.out.lt
    go_wp2
    refine bodyPost_ret (v := .agg #[.slice none 0 0, .int .i64 2]) (by simp [results, Tryz.results6, go_sem, p9, f9]; try rfl) rfl ⟨[.slice none 0 0, .int .i64 2], rfl, ?_, ?_⟩
    · rw [HX.out]
      exact Cells.monoB (none_owns 3 _ (fun _ => False) _ (by unfold R64; omega)).cells (fun _ h _ => h.elim)
    · first
        | exact below_a2 _ _ _
        | (iterate 2 refine Below.setCell ?_ (Nat.le_succ _) _
           exact E0.out)
  have h7I : ¬ (400 : Int) < lp7.length := by omega
  cases hbk : bookB xs
  · have HX : Hid (putOut xs [.l lp0, .s sp1, .s sp2, .i xp3, .i xp4, .s sp5, .l lp6, .l lp7] = [.l [], .i 1]) := by show _ = _; rw [HPU.out, if_neg (by omega), if_pos (.inl hbk)]
    go_enter Tryz.func6, Tryz.ntmps6
    go_wp2_with fail
    refine (KB _ E0.out _ hbk).out.mono ?_
    rintro _ w1 ⟨rfl, hb⟩
    have E1 := Lib.hid (below_then E0.out hb (Nat.le_refl _))
    have P1 := Lib.hid (P0.out.step hb)
    have B1 := Lib.hid (B0.out.step hb)
    have b1 := B1.out.cell
    clear hb
    have p9 := P1.out.cell
    have f9 := P1.out.free
    have z9 := P1.out.lt
    go_wp2
    refine bodyPost_ret (v := .agg #[.slice none 0 0, .int .i64 1]) (by simp [results, Tryz.results6, go_sem, p9, f9]; try rfl) rfl ⟨[.slice none 0 0, .int .i64 1], rfl, ?_, ?_⟩
    · rw [HX.out]
      exact Cells.monoB (none_owns 3 _ (fun _ => False) _ (by unfold R64; omega)).cells (fun _ h _ => h.elim)
    · first
        | exact below_a2 _ _ _
        | (iterate 2 refine Below.setCell ?_ (Nat.le_succ _) _
           exact E1.out)
  cases htb : thB [.l lp0, .s sp1, .s sp2, .i xp3, .i xp4, .s sp5, .l lp6, .l lp7]
  · have HX : Hid (putOut xs [.l lp0, .s sp1, .s sp2, .i xp3, .i xp4, .s sp5, .l lp6, .l lp7] = [.l [], .i 1]) := by show _ = _; rw [HPU.out, if_neg (by omega), if_pos (.inr htb)]
    go_enter Tryz.func6, Tryz.ntmps6
    go_wp2_with fail
    refine (KB _ E0.out _ hbk).out.mono ?_
    rintro _ w1 ⟨rfl, hb⟩
    have E1 := Lib.hid (below_then E0.out hb (Nat.le_refl _))
    have P1 := Lib.hid (P0.out.step hb)
    have B1 := Lib.hid (B0.out.step hb)
    have b1 := B1.out.cell
    clear hb
    go_wp2_with fail
    refine (KT _ E1.out _ htb).out.mono ?_
    rintro _ w2 ⟨rfl, hb⟩
    have E2 := Lib.hid (below_then E1.out hb (Nat.le_refl _))
    have P2 := Lib.hid (P1.out.step hb)
    have B2 := Lib.hid (B1.out.step hb)
    have b2 := B2.out.cell
    clear hb
    have p9 := P2.out.cell
    have f9 := P2.out.free
    have z9 := P2.out.lt
    go_wp2
    refine bodyPost_ret (v := .agg #[.slice none 0 0, .int .i64 1]) (by simp [results, Tryz.results6, go_sem, p9, f9]; try rfl) rfl ⟨[.slice none 0 0, .int .i64 1], rfl, ?_, ?_⟩
    · rw [HX.out]
      exact Cells.monoB (none_owns 3 _ (fun _ => False) _ (by unfold R64; omega)).cells (fun _ h _ => h.elim)
    · first
        | exact below_a2 _ _ _
        | (iterate 2 refine Below.setCell ?_ (Nat.le_succ _) _
           exact E2.out)
  obtain ⟨hok1, hok2, hok3⟩ := bookB_iff.1 hbk
  have HOK := Lib.hid hok2
  have HTB := Lib.hid htb
  by_cases h40 : 40 ≤ xs.length
  · have h40I : (40 : Int) ≤ xs.length := by omega
    have h40D : decide ((40 : Int) ≤ (xs.length : Int)) = true := by simp; omega
    obtain ⟨r, hr⟩ : ∃ r, atI xs a = r := ⟨_, rfl⟩
    by_cases hneg : r < 0
    · have HX : Hid (putOut xs [.l lp0, .s sp1, .s sp2, .i xp3, .i xp4, .s sp5, .l lp6, .l lp7] = [.l [], .i 9]) := by show _ = _; rw [HPU.out, if_neg (by omega), if_neg (by simp [hbk, htb]), if_pos ⟨h40, by omega⟩]
      go_enter Tryz.func6, Tryz.ntmps6
      go_wp2_with fail
      refine (KB _ E0.out _ hbk).out.mono ?_
      rintro _ w1 ⟨rfl, hb⟩
      have E1 := Lib.hid (below_then E0.out hb (Nat.le_refl _))
      have P1 := Lib.hid (P0.out.step hb)
      have B1 := Lib.hid (B0.out.step hb)
      have b1 := B1.out.cell
      clear hb
      go_wp2_with fail
      refine (KT _ E1.out _ htb).out.mono ?_
      rintro _ w2 ⟨rfl, hb⟩
      have E2 := Lib.hid (below_then E1.out hb (Nat.le_refl _))
      have P2 := Lib.hid (P1.out.step hb)
      have B2 := Lib.hid (B1.out.step hb)
      have b2 := B2.out.cell
      clear hb
      go_wp2_with fail
      refine (KC _ E2.out _ hr).out.mono ?_
      rintro _ w3 ⟨rfl, hb⟩
      have E3 := Lib.hid (below_then E2.out hb (Nat.le_refl _))
      have P3 := Lib.hid (P2.out.step hb)
      have B3 := Lib.hid (B2.out.step hb)
      have b3 := B3.out.cell
      clear hb
      have p9 := P3.out.cell
      have f9 := P3.out.free
      have z9 := P3.out.lt
      go_wp2
      refine bodyPost_ret (v := .agg #[.slice none 0 0, .int .i64 9]) (by simp [results, Tryz.results6, go_sem, p9, f9]; try rfl) rfl ⟨[.slice none 0 0, .int .i64 9], rfl, ?_, ?_⟩
      · rw [HX.out]
        exact Cells.monoB (none_owns 3 _ (fun _ => False) _ (by unfold R64; omega)).cells (fun _ h _ => h.elim)
      · first
          | exact below_a2 _ _ _
          | (iterate 2 refine Below.setCell ?_ (Nat.le_succ _) _
             exact E3.out)
    · have HPO : Hid (putOut xs [.l lp0, .s sp1, .s sp2, .i xp3, .i xp4, .s sp5, .l lp6, .l lp7] = [.l (putX xs [.l lp0, .s sp1, .s sp2, .i xp3, .i xp4, .s sp5, .l lp6, .l lp7] (cutK xs [.l lp0, .s sp1, .s sp2, .i xp3, .i xp4, .s sp5, .l lp6, .l lp7]).1 (cutK xs [.l lp0, .s sp1, .s sp2, .i xp3, .i xp4, .s sp5, .l lp6, .l lp7]).2), .i 0]) := by show _ = _; rw [HPU.out, if_neg (by omega), if_neg (by simp [hbk, htb]), if_neg (by omega)]
      go_enter Tryz.func6, Tryz.ntmps6
      go_wp2_with fail
      refine (KB _ E0.out _ hbk).out.mono ?_
      rintro _ w1 ⟨rfl, hb⟩
      have E1 := Lib.hid (below_then E0.out hb (Nat.le_refl _))
      have P1 := Lib.hid (P0.out.step hb)
      have B1 := Lib.hid (B0.out.step hb)
      have b1 := B1.out.cell
      clear hb
      go_wp2_with fail
      refine (KT _ E1.out _ htb).out.mono ?_
      rintro _ w2 ⟨rfl, hb⟩
      have E2 := Lib.hid (below_then E1.out hb (Nat.le_refl _))
      have P2 := Lib.hid (P1.out.step hb)
      have B2 := Lib.hid (B1.out.step hb)
      have b2 := B2.out.cell
      clear hb
      go_wp2_with fail
      refine (KC _ E2.out _ hr).out.mono ?_
      rintro _ w3 ⟨rfl, hb⟩
      have E3 := Lib.hid (below_then E2.out hb (Nat.le_refl _))
      have P3 := Lib.hid (P2.out.step hb)
      have B3 := Lib.hid (B2.out.step hb)
      have b3 := B3.out.cell
      clear hb
      have KD := Lib.hid (l06Put_spec hok3 HOK.out HTB.out (by omega) (H.out.below E3.out).now (HT8.out.below E3.out).now hcap hcm)
      go_wp2_with fail
      refine KD.out.mono ?_
      rintro _ w9 ⟨v9, k, there, rfl, hcut, ho, hb⟩
      have E9 := Lib.hid (below_then E3.out hb (Nat.le_refl _))
      have P9 := Lib.hid (P3.out.step hb)
      have s2 := E3.out.size
      have q2 := P3.out.lt
      have HO := Lib.hid ho
      have hck := cutK_eq hcut
      have HX : Hid (putOut xs [.l lp0, .s sp1, .s sp2, .i xp3, .i xp4, .s sp5, .l lp6, .l lp7] = [.l (putX xs [.l lp0, .s sp1, .s sp2, .i xp3, .i xp4, .s sp5, .l lp6, .l lp7] k there), .i 0]) := by show _ = _; rw [HPO.out, hck]
      clear hb ho hck
      obtain ⟨xs3, A3, c3, e3, rfl, -⟩ := HO.out.lst
      have p9 := P9.out.cell
      have f9 := P9.out.free
      have z9 := P9.out.lt
      have HAG := Lib.hid (agree2 (w := w9) (g := w.heap.size + 1) (.slice A3 xs3.length c3) (.int .i64 0))
      go_wp2
      refine bodyPost_ret (v := .agg #[.slice A3 xs3.length c3, .int .i64 0]) (by simp [results, Tryz.results6, go_sem, p9, f9]; try rfl) rfl ⟨[.slice A3 xs3.length c3, .int .i64 0], rfl, ?_, ?_⟩
      · rw [HX.out]
        have hag := HAG.out
        obtain ⟨W9, hW9⟩ : ∃ W9, ((w9.setCell ⟨w.heap.size + 1, 0, none⟩ (.slice A3 xs3.length c3)).setCell ⟨w.heap.size + 1, 1, none⟩ (.int .i64 0)) = W9 := ⟨_, rfl⟩
        rw [hW9] at hag ⊢
        have h1 : Cells (fun x => w3.heap.size ≤ x) 3 w9 shBookOut_ [.l (putX xs [.l lp0, .s sp1, .s sp2, .i xp3, .i xp4, .s sp5, .l lp6, .l lp7] k there), .i 0] [.slice A3 xs3.length c3, .int .i64 0] := ⟨HO.out, Cell.mkI (by unfold R64; omega), trivial⟩
        exact Cells.monoB (Cells.agree h1 (hag.mono fun b hb => by omega)) (fun b h1 _ => by omega)
      · iterate 2 refine Below.setCell ?_ (Nat.le_succ _) _
        exact E9.out
  · have h40I : ¬ (40 : Int) ≤ xs.length := by omega
    have h40D : decide ((40 : Int) ≤ (xs.length : Int)) = false := by simp; omega
    have HPO : Hid (putOut xs [.l lp0, .s sp1, .s sp2, .i xp3, .i xp4, .s sp5, .l lp6, .l lp7] = [.l (putX xs [.l lp0, .s sp1, .s sp2, .i xp3, .i xp4, .s sp5, .l lp6, .l lp7] (cutK xs [.l lp0, .s sp1, .s sp2, .i xp3, .i xp4, .s sp5, .l lp6, .l lp7]).1 (cutK xs [.l lp0, .s sp1, .s sp2, .i xp3, .i xp4, .s sp5, .l lp6, .l lp7]).2), .i 0]) := by show _ = _; rw [HPU.out, if_neg (by omega), if_neg (by simp [hbk, htb]), if_neg (by omega)]
    go_enter Tryz.func6, Tryz.ntmps6
    go_wp2_with fail
    refine (KB _ E0.out _ hbk).out.mono ?_
    rintro _ w1 ⟨rfl, hb⟩
    have E1 := Lib.hid (below_then E0.out hb (Nat.le_refl _))
    have P1 := Lib.hid (P0.out.step hb)
    have B1 := Lib.hid (B0.out.step hb)
    have b1 := B1.out.cell
    clear hb
    go_wp2_with fail
    refine (KT _ E1.out _ htb).out.mono ?_
    rintro _ w2 ⟨rfl, hb⟩
    have E2 := Lib.hid (below_then E1.out hb (Nat.le_refl _))
    have P2 := Lib.hid (P1.out.step hb)
    have B2 := Lib.hid (B1.out.step hb)
    have b2 := B2.out.cell
    clear hb
    have KD := Lib.hid (l06Put_spec hok3 HOK.out HTB.out (by omega) (H.out.below E2.out).now (HT8.out.below E2.out).now hcap hcm)
    go_wp2_with fail
    refine KD.out.mono ?_
    rintro _ w9 ⟨v9, k, there, rfl, hcut, ho, hb⟩
    have E9 := Lib.hid (below_then E2.out hb (Nat.le_refl _))
    have P9 := Lib.hid (P2.out.step hb)
    have s2 := E2.out.size
    have q2 := P2.out.lt
    have HO := Lib.hid ho
    have hck := cutK_eq hcut
    have HX : Hid (putOut xs [.l lp0, .s sp1, .s sp2, .i xp3, .i xp4, .s sp5, .l lp6, .l lp7] = [.l (putX xs [.l lp0, .s sp1, .s sp2, .i xp3, .i xp4, .s sp5, .l lp6, .l lp7] k there), .i 0]) := by show _ = _; rw [HPO.out, hck]
    clear hb ho hck
    obtain ⟨xs3, A3, c3, e3, rfl, -⟩ := HO.out.lst
    have p9 := P9.out.cell
    have f9 := P9.out.free
    have z9 := P9.out.lt
    have HAG := Lib.hid (agree2 (w := w9) (g := w.heap.size + 1) (.slice A3 xs3.length c3) (.int .i64 0))
    go_wp2
    refine bodyPost_ret (v := .agg #[.slice A3 xs3.length c3, .int .i64 0]) (by simp [results, Tryz.results6, go_sem, p9, f9]; try rfl) rfl ⟨[.slice A3 xs3.length c3, .int .i64 0], rfl, ?_, ?_⟩
    · rw [HX.out]
      have hag := HAG.out
      obtain ⟨W9, hW9⟩ : ∃ W9, ((w9.setCell ⟨w.heap.size + 1, 0, none⟩ (.slice A3 xs3.length c3)).setCell ⟨w.heap.size + 1, 1, none⟩ (.int .i64 0)) = W9 := ⟨_, rfl⟩
      rw [hW9] at hag ⊢
      have h1 : Cells (fun x => w2.heap.size ≤ x) 3 w9 shBookOut_ [.l (putX xs [.l lp0, .s sp1, .s sp2, .i xp3, .i xp4, .s sp5, .l lp6, .l lp7] k there), .i 0] [.slice A3 xs3.length c3, .int .i64 0] := ⟨HO.out, Cell.mkI (by unfold R64; omega), trivial⟩
      exact Cells.monoB (Cells.agree h1 (hag.mono fun b hb => by omega)) (fun b h1 _ => by omega)
    · iterate 2 refine Below.setCell ?_ (Nat.le_succ _) _
      exact E9.out
end Go.Proofs.YtflfnekaiaplfaaGreat.cf
