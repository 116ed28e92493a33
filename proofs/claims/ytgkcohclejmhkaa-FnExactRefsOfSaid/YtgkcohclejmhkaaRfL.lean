/- RefsOf of the model. sortAddrs, gatherRefs. RefsOf: what its exact law asks of both. -/
import Derived.Test.YtgkcohclejmhkaaSoP
import Derived.Test.YtgkcohclejmhkaaSoC
import Derived.Test.YtgkcohclejmhkaaRfP
import Derived.Test.YtgkcohclejmhkaaUsS
import Derived.Test.YtgkcohclejmhkaaLt
import Derived.Test.YtgkcohclejmhkaaSoS
import Derived.Test.YtgkcohclejmhkaaGd
import Derived.Test.YtgkcohclejmhkaaKp
import Derived.Test.YtgkcohclejmhkaaUt
namespace Go.Proofs.Ytgkcohclejmhkaa.cf
open ad mem vl ex un cm bare
open Go.ChangeShapes Go.WideShapes Go.ChangeAt Go.RowKit Go.Lib
set_option linter.unusedVariables false
set_option maxRecDepth 8000
set_option linter.unusedSimpArgs false
theorem sack_cap {n : Nat} {w : World} {base : Nat} {T : TypeId} {e m c : Nat} {A : Option Addr} {X : List (List DC)} (h : Sack n w base T e (.slice A m c) X) : m ≤ c ∧ c ≤ maxLen ∧ (A = none → m = 0 ∧ c = 0) := by
  obtain ⟨rows, ho, _⟩ := h.go
  rcases ho.2 with ⟨e1, h0⟩ | ⟨g, cap, cur, e1, _, _, h1, h2, _⟩
  · injection e1 with e1 e2 e3; subst e1 e2 e3; exact ⟨Nat.le_refl _, by simp [maxLen], fun _ => ⟨rfl, rfl⟩⟩
  · injection e1 with e1 e2 e3; subst e1 e2 e3; exact ⟨h1, h2, fun h => by cases h⟩
theorem sack_at {n : Nat} {w : World} {base : Nat} {T : TypeId} {e m c : Nat} {ad : Addr} {X : List (List DC)} (h : Sack n w base T e (.slice (some ad) m c) X) : ∃ g, ad = ⟨g, 0, none⟩ := by
  obtain ⟨rows, ho, _⟩ := h.go
  rcases ho.2 with ⟨e1, h0⟩ | ⟨g, cap, cur, e1, _⟩
  · cases e1
  · injection e1 with e1; injection e1 with e1; exact ⟨g, e1⟩
theorem sack_lower {n : Nat} {w : World} {base base' : Nat} {T : TypeId} {e : Nat} {v : Value} {X : List (List DC)} (h : Sack n w base T e v X) (hb : base' ≤ base) : Sack n w base' T e v X := by
  obtain ⟨rows, h1, hl, hh⟩ := h.go
  exact ⟨rows, own_base h1 hb, hl, hh⟩
theorem src_nil (C : Nat → Prop) (n : Nat) (w : World) (e : Nat) (A : Option Addr) : Src C n w e A [] := ⟨[], rfl, fun j h => absurd h (by simp), fun j h => absurd h (by simp)⟩
set_option maxHeartbeats 8000000 in
theorem putAddr_any {B : Nat → Prop} {n : Nat} {w : World} {ds : List DC} {vs : List Value} {base : Nat} {v : Value} {L : List AddrD} {a : AddrD} (hD : bA ds = a) (h : Cells B n w shAddr_ ds vs) (hbag : Sack 1 w base 34 2 v (L.map dA)) (hbase : base ≤ w.heap.size) (hpl : a.path.length ≤ 1000000) (hsm : L.length ≤ 100000) :
    Calls Try.prog 79 #[v, .agg vs.toArray] w fun e w' => ∃ v', e = .returned v' ∧ Sack 1 w' base 34 2 v' ((rf.put L a).map dA) ∧ Below w.heap.size w w' := by
  obtain ⟨A, c, hv, _⟩ := hbag.form
  rw [List.length_map] at hv
  subst hv
  obtain ⟨hcap, hcm, hAn⟩ := sack_cap hbag
  unfold maxLen at hcm
  have HAN := Lib.hid hAn
  have HS0 := Lib.hid hbag
  have hcell : Cell Any 2 w (.l 2) (.l (L.map dA)) (.slice A (L.map dA).length c) := by rw [List.length_map]; exact hbag.done
  have HC := Lib.hid (Gd.of1 hcell)
  have HSRC : Hid (Src (Lw w.heap.size) 1 w 2 A (L.map dA)) := (Cell.src hcell).mono fun b _ hb => hb
  have HA := Lib.hid (Gd.ofC h)
  have HSZ : Hid (Sz a) := hD ▸ sz_of h
  have HPL := Lib.hid hpl
  have HBS := Lib.hid hbase
  obtain ⟨la0, sa1, sa2, xa3, xa4, sa5, Aa0, ca0, rfl, rfl, -⟩ := open_Addr h
  clear h hbag hcell hAn hpl hbase
  go_enter Try.func79, Try.ntmps79
  go_wp2
  go_loopw [5] (fun i wr => ∃ k : Nat, k ≤ L.length ∧ i = .int .i64 k ∧ (∀ j (h : j < L.length), j < k → rf.cmpA L[j] a < 0) ∧ Blk wr w.heap.size 34 #[.slice Aa0 la0.length ca0, .string sa1, .string sa2, .int .i64 xa3, .int .i64 xa4, .string sa5] ∧ Below w.heap.size w wr) (fun i _ => L.length - (RowKit.intOf i).toNat)
  case atStart => exact ⟨0, Nat.zero_le _, rfl, fun j _ hj => absurd hj (by omega), Blk.new w _ _, below_a1 _ _⟩
  case round =>
    obtain ⟨k, hk, rfl, hok, hB, hb⟩ := hrel
    have HOK := Lib.hid hok
    have E1 := Lib.hid hb
    have B1 := Lib.hid hB
    have b1 := hB.cell
    have l1 := hB.lt
    clear hok hB hb
    by_cases hlt : k < L.length
    · obtain ⟨m', b, o, us, hm, rfl, _, hbl, hr, hin⟩ := (HC.out.below E1.out).now.item k (by simpa using hlt)
      obtain rfl : m' = 1 := by omega
      have hin' : Cells Any 1 wr shAddr_ (dA L[k]) us := by rw [List.getElem_map] at hin; exact hin
      have HI := Lib.hid (Gd.ofC hin')
      obtain ⟨lq0, sq1, sq2, xq3, xq4, sq5, Aq0, cq0, ed, rfl, -⟩ := open_Addr hin'
      have HED := Lib.hid ed
      have HR := Lib.hid (show wr.rangeAt b (o + k * 6) _ from hr)
      have hkI : (k : Int) < L.length := by omega
      clear hr hin hin' ed hm
      have q0 := later_cell (b := b) (o := o + k * 6) hbl (by simpa using HR.out 0 _ rfl)
      have q1 := later_cell (b := b) (o := o + k * 6 + 1) hbl (by simpa using HR.out 1 _ rfl)
      have q2 := later_cell (b := b) (o := o + k * 6 + 2) hbl (by simpa using HR.out 2 _ rfl)
      have q3 := later_cell (b := b) (o := o + k * 6 + 3) hbl (by simpa using HR.out 3 _ rfl)
      have q4 := later_cell (b := b) (o := o + k * 6 + 4) hbl (by simpa using HR.out 4 _ rfl)
      have q5 := later_cell (b := b) (o := o + k * 6 + 5) hbl (by simpa using HR.out 5 _ rfl)
      have qb0 := later_cell (b := w.heap.size) (o := 0) l1 (by rw [b1]; rfl)
      have qb1 := later_cell (b := w.heap.size) (o := 1) l1 (by rw [b1]; rfl)
      have qb2 := later_cell (b := w.heap.size) (o := 2) l1 (by rw [b1]; rfl)
      have qb3 := later_cell (b := w.heap.size) (o := 3) l1 (by rw [b1]; rfl)
      have qb4 := later_cell (b := w.heap.size) (o := 4) l1 (by rw [b1]; rfl)
      have qb5 := later_cell (b := w.heap.size) (o := 5) l1 (by rw [b1]; rfl)
      have KL := fun (r : Bool) (hr : (@decide (rf.cmpA L[k] a < 0) (Classical.propDecidable _)) = r) (W' : World) (h : Below wr.heap.size wr W') => (show Calls _ _ _ _ _ from hr ▸ hD ▸ bA_dA L[k] ▸ cf.less_spec (HI.out.below h).now (HA.out.below (below_then E1.out h (Nat.le_refl _))).now)
      by_cases hls : rf.cmpA L[k] a < 0
      · replace KL := KL true (by simp [hls])
        have HLS := Lib.hid hls
        clear hls
        go_wp2_with fail
        refine wp_region_later (by kernel_rfl) (by kernel_rfl) ?_
        repeat (go_big_quiet_step ((go_at_call 55; exact later_call (KL _ (later_below _)))))
        refine wpQuiet_nil ?_
        rintro _ ⟨u9, rfl⟩
        have E2 := Lib.hid (below_then E1.out (later_below u9) (Nat.le_refl _))
        have B2 := Lib.hid (B1.out.step (later_below u9))
        have HR2 := Lib.hid (range_same HR.out ((later_below u9).block b hbl))
        have hbl2 : b < (later wr u9).heap.size := Nat.lt_of_lt_of_le hbl (later_below u9).size
        have HI2 := Lib.hid (HI.out.below (later_below u9))
        generalize later wr u9 = w9 at E2 B2 HR2 hbl2 HI2 ⊢
        clear q0 q1 q2 q3 q4 q5 qb0 qb1 qb2 qb3 qb4 qb5 KL B1 E1 b1 l1
        have b2 := B2.out.cell
        have l2 := B2.out.lt
        go_wp2
        go_roundw
        case rel => exact ⟨k + 1, by omega, by go_num, fun j h hj => by
          by_cases e : j = k
          · subst e; exact HLS.out
          · exact HOK.out j h (by omega), B2.out, E2.out⟩
        case measure => simp [RowKit.intOf]; omega
      · replace KL := KL false (by simp [hls])
        have HLS := Lib.hid hls
        clear hls
        go_wp2_with fail
        refine wp_region_later (by kernel_rfl) (by kernel_rfl) ?_
        repeat (go_big_quiet_step ((go_at_call 55; exact later_call (KL _ (later_below _)))))
        refine wpQuiet_nil ?_
        rintro _ ⟨u9, rfl⟩
        have E2 := Lib.hid (below_then E1.out (later_below u9) (Nat.le_refl _))
        have B2 := Lib.hid (B1.out.step (later_below u9))
        have HR2 := Lib.hid (range_same HR.out ((later_below u9).block b hbl))
        have hbl2 : b < (later wr u9).heap.size := Nat.lt_of_lt_of_le hbl (later_below u9).size
        have HI2 := Lib.hid (HI.out.below (later_below u9))
        generalize later wr u9 = w9 at E2 B2 HR2 hbl2 HI2 ⊢
        clear q0 q1 q2 q3 q4 q5 qb0 qb1 qb2 qb3 qb4 qb5 KL B1 E1 b1 l1
        have b2 := B2.out.cell
        have l2 := B2.out.lt
        have hke : ¬ k = L.length := by omega
        have hck : ¬ c = k := by omega
        have HPUTQ : Hid (rf.put L a = if ∃ h : k < L.length, rf.cmpA L[k] a = 0 then L else L.take k ++ a :: L.drop k) := rf.put_at (Nat.le_of_lt hlt) (fun j h hj => HOK.out j h hj) (fun _ => by have := HLS.out; omega)
        obtain ⟨r, hr⟩ : ∃ r, adl.eqA L[k] a = r := ⟨_, rfl⟩
        have q0 := later_cell (b := b) (o := o + k * 6) hbl2 (by simpa using HR2.out 0 _ rfl)
        have q1 := later_cell (b := b) (o := o + k * 6 + 1) hbl2 (by simpa using HR2.out 1 _ rfl)
        have q2 := later_cell (b := b) (o := o + k * 6 + 2) hbl2 (by simpa using HR2.out 2 _ rfl)
        have q3 := later_cell (b := b) (o := o + k * 6 + 3) hbl2 (by simpa using HR2.out 3 _ rfl)
        have q4 := later_cell (b := b) (o := o + k * 6 + 4) hbl2 (by simpa using HR2.out 4 _ rfl)
        have q5 := later_cell (b := b) (o := o + k * 6 + 5) hbl2 (by simpa using HR2.out 5 _ rfl)
        have qb0 := later_cell (b := w.heap.size) (o := 0) l2 (by rw [b2]; rfl)
        have qb1 := later_cell (b := w.heap.size) (o := 1) l2 (by rw [b2]; rfl)
        have qb2 := later_cell (b := w.heap.size) (o := 2) l2 (by rw [b2]; rfl)
        have qb3 := later_cell (b := w.heap.size) (o := 3) l2 (by rw [b2]; rfl)
        have qb4 := later_cell (b := w.heap.size) (o := 4) l2 (by rw [b2]; rfl)
        have qb5 := later_cell (b := w.heap.size) (o := 5) l2 (by rw [b2]; rfl)
        have KS := fun (W' : World) (h : Below w9.heap.size w9 W') => sameAddr_spec (bA_dA L[k]) hD hr (HI2.out.below h).now (HA.out.below (below_then E2.out h (Nat.le_refl _))).now
        have HRR := Lib.hid hr
        clear hr HOK HLS
        cases r
        rotate_left
        · go_wp2_with fail
          refine wp_region_later (by kernel_rfl) (by kernel_rfl) ?_
          repeat (go_big_quiet_step ((go_at_call 54; exact later_call (KS _ (later_below _)))))
          refine wpQuiet_nil ?_
          rintro _ ⟨u9, rfl⟩
          have E3 := Lib.hid (below_then E2.out (later_below u9) (Nat.le_refl _))
          have B3 := Lib.hid (B2.out.step (later_below u9))
          generalize later w9 u9 = w10 at E3 B3 ⊢
          clear q0 q1 q2 q3 q4 q5 qb0 qb1 qb2 qb3 qb4 qb5 KS B2 E2 b2 l2 HR2 hbl2 HI2
          have b3 := B3.out.cell
          have l3 := B3.out.lt
          go_wp2
          go_ret
          exact ⟨_, rfl, (by rw [HPUTQ.out, if_pos ⟨hlt, rf.cmpA_zero.2 (eqA_is.1 HRR.out)⟩]; exact HS0.out.below E3.out), E3.out⟩
        · have HPUT : Hid (rf.put L a = L.take k ++ a :: L.drop k) := by
            show _ = _
            rw [HPUTQ.out, if_neg (fun hh => by obtain ⟨h1, h2⟩ := hh; have := eqA_is.2 (rf.cmpA_zero.1 h2); rw [HRR.out] at this; cases this)]
          go_wp2_with fail
          refine wp_region_later (by kernel_rfl) (by kernel_rfl) ?_
          repeat (go_big_quiet_step ((go_at_call 54; exact later_call (KS _ (later_below _)))))
          refine wpQuiet_nil ?_
          rintro _ ⟨u9, rfl⟩
          have E3 := Lib.hid (below_then E2.out (later_below u9) (Nat.le_refl _))
          have B3 := Lib.hid (B2.out.step (later_below u9))
          generalize later w9 u9 = w10 at E3 B3 ⊢
          clear q0 q1 q2 q3 q4 q5 qb0 qb1 qb2 qb3 qb4 qb5 KS B2 E2 b2 l2 HR2 hbl2 HI2
          have b3 := B3.out.cell
          have l3 := B3.out.lt
          clear HPUTQ HRR
          -- the new row
          have hzW : w.heap.size + 1 ≤ w10.heap.size := B3.out.lt
          have HT := Lib.hid ((HSRC.out.below E3.out).take k)
          have hlt1 : ((L.map dA).take k).length = k := by simp; omega
          have HNE : ∀ b, Lw w.heap.size b → (Value.slice (some (⟨w10.heap.size, 0, none⟩ : Addr)) 0 0).ownBlock ≠ some b := fun b hb e2 => by
            have e3 : w10.heap.size = b := by simpa [Value.ownBlock] using e2
            have : b < w.heap.size := hb
            omega
          go_wp2_with (at_builtin; refine wpList_sackN rfl inf_addr (.tmp 34) (.tmp 37) rfl (base := w.heap.size + 1) (X := []) (Y := (L.map dA).take k) rfl (Sack.empty hzW) (by simp; omega) rfl hlt1.symm ((HT.out.below (below_a1 _ _)).mono (fun b hb _ => HNE _ hb)) (by simp; omega) ?_)
          intro v1 w11 hs1 hg1
          have HR1 := Lib.hid hs1.row
          have E4 := Lib.hid (grown_below (below_da E3.out (Nat.le_refl _) _) hg1 (by simp; omega) (fun q hq => by
            have e3 : w10.heap.size = q := by simpa [Value.ownBlock] using hq
            omega))
          have B4 := Lib.hid (grown_blk (B3.out.alloc _) hg1 (fun e2 => by
            have e3 : w10.heap.size = w.heap.size := by simpa [Value.ownBlock] using e2
            omega))
          have S4 : Hid (Sack 1 w11 (w.heap.size + 1) 34 2 v1 ((L.map dA).take k)) := (by (show Sack _ _ _ _ _ _ _); simpa using hs1)
          have b4 := B4.out.cell
          have l4 := B4.out.lt
          clear hs1 hg1 HT HNE E3 B3
          go_wp2_with fail
          refine (copy_spec hD (HA.out.below E4.out).now HPL.out).mono ?_
          rintro _ w12 ⟨A', c', rfl, ho, hb⟩
          have HB2 := Lib.hid hb
          have E5 := Lib.hid (below_then E4.out hb (Nat.le_refl _))
          have B5 := Lib.hid (B4.out.step hb)
          have b5 := B5.out.cell
          have l5 := B5.out.lt
          have HO := Lib.hid ho
          have hz5 : w.heap.size + 1 ≤ w12.heap.size := by omega
          clear hb ho b4 l4
          go_wp2_with (at_builtin; refine wpList_sack1 rfl inf_addr (.tmp 39) (.tmp 42) rfl (w := w12) (base := w.heap.size + 1) (us := [.slice A' a.path.length c', .string a.typ, .string a.nam, .int .i64 a.kind, .int .i64 a.n, .string a.key]) (ds := dA a) rfl (S4.out.below HB2.out) (Below.refl _ _) hz5 rfl rfl (made_cells HO.out HSZ.out (Below.refl _ _) (fun q hq => (HR1.out q hq).2)) (by rw [hlt1]; omega) ?_)
          intro v2 w13 hs2 hg2
          have E6 := Lib.hid (grown_below (below_da E5.out (Nat.le_refl _) _) hg2 (by simp; omega) (fun q hq => by have := (HR1.out q hq).1; omega))
          have HR2 := Lib.hid hs2.row
          have S6 := Lib.hid hs2
          have hz6 : w.heap.size + 1 ≤ w13.heap.size := by have := hg2.size; simp at this; omega
          clear hs2 hg2 HR1 S4 HO E4 E5 B4 B5 b5 l5
          have hlt2 : (L.drop k).length = L.length - k := by simp
          have hlY : ((L.map dA).drop k).length = L.length - k := by simp
          go_wp2_with (at_builtin; refine wpList_sackN rfl inf_addr (.tmp 44) (.tmp 47) rfl (base := w.heap.size + 1) (Y := (L.map dA).drop k) rfl S6.out hz6 rfl (by rw [hlY]; try omega) (((HSRC.out.below E6.out).drop k (fun _ _ => rfl)).mono (fun b hb _ => (fun e2 => by have h9 := (HR2.out _ e2).1; have : b < w.heap.size := hb; omega))) (by rw [hlY]; simp; omega) ?_)
          intro v3 w14 hs3 hg3
          have E7 := Lib.hid (grown_below E6.out hg3 (by omega) (fun q hq => by have := (HR2.out q hq).1; omega))
          have S7 := Lib.hid hs3
          clear hs3 hg3
          go_wp2
          go_ret
          exact ⟨_, rfl, (by rw [HPUT.out]; have := sack_lower (base' := base) S7.out (by have := HBS.out; omega); simpa [List.map_take, List.map_drop, List.append_assoc] using this), E7.out⟩
    · have hke : k = L.length := by omega
      have HKE := Lib.hid hke
      have hd : decide ((k : Int) < (L.length : Int)) = false := by (simp; omega)
      have hnI : ¬ ((k : Int) < (L.length : Int)) := by omega
      have HPUT : Hid (rf.put L a = L.take k ++ a :: L.drop k) := by
        show _ = _
        rw [rf.put_at (k := k) hk (fun j h hj => HOK.out j h hj) (fun h => absurd h (by omega)), if_neg (fun hh => absurd hh.1 (by omega))]
      clear hke HOK
      go_wp2_with fail
      refine wp_region_later (by kernel_rfl) (by kernel_rfl) ?_
      repeat (go_big_quiet_step (fail))
      refine wpQuiet_nil ?_
      rintro _ ⟨u9, rfl⟩
      have E2 := Lib.hid (below_then E1.out (later_below u9) (Nat.le_refl _))
      have B2 := Lib.hid (B1.out.step (later_below u9))
      generalize later wr u9 = w9 at E2 B2 ⊢
      clear B1 E1 b1 l1
      have b2 := B2.out.cell
      have l2 := B2.out.lt
      go_wp2_with fail
      refine wp_region_later (by kernel_rfl) (by kernel_rfl) ?_
      repeat (go_big_quiet_step (fail))
      refine wpQuiet_nil ?_
      rintro _ ⟨u9, rfl⟩
      have E3 := Lib.hid (below_then E2.out (later_below u9) (Nat.le_refl _))
      have B3 := Lib.hid (B2.out.step (later_below u9))
      generalize later w9 u9 = w10 at E3 B3 ⊢
      clear B2 E2 b2 l2
      have b3 := B3.out.cell
      have l3 := B3.out.lt
      by_cases hck : c = k
      · -- the new row
        have hzW : w.heap.size + 1 ≤ w10.heap.size := B3.out.lt
        have HT := Lib.hid ((HSRC.out.below E3.out).take k)
        have hlt1 : ((L.map dA).take k).length = k := by simp; omega
        have HNE : ∀ b, Lw w.heap.size b → (Value.slice (some (⟨w10.heap.size, 0, none⟩ : Addr)) 0 0).ownBlock ≠ some b := fun b hb e2 => by
          have e3 : w10.heap.size = b := by simpa [Value.ownBlock] using e2
          have : b < w.heap.size := hb
          omega
        go_wp2_with (at_builtin; refine wpList_sackN rfl inf_addr (.tmp 34) (.tmp 37) rfl (base := w.heap.size + 1) (X := []) (Y := (L.map dA).take k) rfl (Sack.empty hzW) (by simp; omega) rfl hlt1.symm ((HT.out.below (below_a1 _ _)).mono (fun b hb _ => HNE _ hb)) (by simp; omega) ?_)
        intro v1 w11 hs1 hg1
        have HR1 := Lib.hid hs1.row
        have E4 := Lib.hid (grown_below (below_da E3.out (Nat.le_refl _) _) hg1 (by simp; omega) (fun q hq => by
          have e3 : w10.heap.size = q := by simpa [Value.ownBlock] using hq
          omega))
        have B4 := Lib.hid (grown_blk (B3.out.alloc _) hg1 (fun e2 => by
          have e3 : w10.heap.size = w.heap.size := by simpa [Value.ownBlock] using e2
          omega))
        have S4 : Hid (Sack 1 w11 (w.heap.size + 1) 34 2 v1 ((L.map dA).take k)) := (by (show Sack _ _ _ _ _ _ _); simpa using hs1)
        have b4 := B4.out.cell
        have l4 := B4.out.lt
        clear hs1 hg1 HT HNE E3 B3
        go_wp2_with fail
        refine (copy_spec hD (HA.out.below E4.out).now HPL.out).mono ?_
        rintro _ w12 ⟨A', c', rfl, ho, hb⟩
        have HB2 := Lib.hid hb
        have E5 := Lib.hid (below_then E4.out hb (Nat.le_refl _))
        have B5 := Lib.hid (B4.out.step hb)
        have b5 := B5.out.cell
        have l5 := B5.out.lt
        have HO := Lib.hid ho
        have hz5 : w.heap.size + 1 ≤ w12.heap.size := by omega
        clear hb ho b4 l4
        go_wp2_with (at_builtin; refine wpList_sack1 rfl inf_addr (.tmp 39) (.tmp 42) rfl (w := w12) (base := w.heap.size + 1) (us := [.slice A' a.path.length c', .string a.typ, .string a.nam, .int .i64 a.kind, .int .i64 a.n, .string a.key]) (ds := dA a) rfl (S4.out.below HB2.out) (Below.refl _ _) hz5 rfl rfl (made_cells HO.out HSZ.out (Below.refl _ _) (fun q hq => (HR1.out q hq).2)) (by rw [hlt1]; omega) ?_)
        intro v2 w13 hs2 hg2
        have E6 := Lib.hid (grown_below (below_da E5.out (Nat.le_refl _) _) hg2 (by simp; omega) (fun q hq => by have := (HR1.out q hq).1; omega))
        have HR2 := Lib.hid hs2.row
        have S6 := Lib.hid hs2
        have hz6 : w.heap.size + 1 ≤ w13.heap.size := by have := hg2.size; simp at this; omega
        clear hs2 hg2 HR1 S4 HO E4 E5 B4 B5 b5 l5
        have hlt2 : (L.drop k).length = L.length - k := by simp
        have hlY : ((L.map dA).drop k).length = L.length - k := by simp
        go_wp2_with (at_builtin; refine wpList_sackN rfl inf_addr (.tmp 44) (.tmp 47) rfl (base := w.heap.size + 1) (Y := (L.map dA).drop k) rfl S6.out hz6 rfl (by rw [hlY]; try omega) (by rw [List.drop_eq_nil_of_le (by simp; omega)]; exact src_nil _ _ _ _ _) (by rw [hlY]; simp; omega) ?_)
        intro v3 w14 hs3 hg3
        have E7 := Lib.hid (grown_below E6.out hg3 (by omega) (fun q hq => by have := (HR2.out q hq).1; omega))
        have S7 := Lib.hid hs3
        clear hs3 hg3
        go_wp2
        go_ret
        exact ⟨_, rfl, (by rw [HPUT.out]; have := sack_lower (base' := base) S7.out (by have := HBS.out; omega); simpa [List.map_take, List.map_drop, List.append_assoc] using this), E7.out⟩
      · have hAs : A ≠ none := fun e => by have := HAN.out e; have := HKE.out; omega
        obtain ⟨ad, rfl⟩ := Option.ne_none_iff_exists'.1 hAs
        obtain ⟨g, rfl⟩ := sack_at HS0.out
        clear hAs
        -- the new row
        have hzW : w.heap.size + 1 ≤ w10.heap.size := B3.out.lt
        have HT := Lib.hid ((HSRC.out.below E3.out).take k)
        have hlt1 : ((L.map dA).take k).length = k := by simp; omega
        have HNE : ∀ b, Lw w.heap.size b → (Value.slice (some (⟨w10.heap.size, 0, none⟩ : Addr)) 0 0).ownBlock ≠ some b := fun b hb e2 => by
          have e3 : w10.heap.size = b := by simpa [Value.ownBlock] using e2
          have : b < w.heap.size := hb
          omega
        go_wp2_with (at_builtin; refine wpList_sackN rfl inf_addr (.tmp 34) (.tmp 37) rfl (base := w.heap.size + 1) (X := []) (Y := (L.map dA).take k) rfl (Sack.empty hzW) (by simp; omega) rfl hlt1.symm ((HT.out.below (below_a1 _ _)).mono (fun b hb _ => HNE _ hb)) (by simp; omega) ?_)
        intro v1 w11 hs1 hg1
        have HR1 := Lib.hid hs1.row
        have E4 := Lib.hid (grown_below (below_da E3.out (Nat.le_refl _) _) hg1 (by simp; omega) (fun q hq => by
          have e3 : w10.heap.size = q := by simpa [Value.ownBlock] using hq
          omega))
        have B4 := Lib.hid (grown_blk (B3.out.alloc _) hg1 (fun e2 => by
          have e3 : w10.heap.size = w.heap.size := by simpa [Value.ownBlock] using e2
          omega))
        have S4 : Hid (Sack 1 w11 (w.heap.size + 1) 34 2 v1 ((L.map dA).take k)) := (by (show Sack _ _ _ _ _ _ _); simpa using hs1)
        have b4 := B4.out.cell
        have l4 := B4.out.lt
        clear hs1 hg1 HT HNE E3 B3
        go_wp2_with fail
        refine (copy_spec hD (HA.out.below E4.out).now HPL.out).mono ?_
        rintro _ w12 ⟨A', c', rfl, ho, hb⟩
        have HB2 := Lib.hid hb
        have E5 := Lib.hid (below_then E4.out hb (Nat.le_refl _))
        have B5 := Lib.hid (B4.out.step hb)
        have b5 := B5.out.cell
        have l5 := B5.out.lt
        have HO := Lib.hid ho
        have hz5 : w.heap.size + 1 ≤ w12.heap.size := by omega
        clear hb ho b4 l4
        go_wp2_with (at_builtin; refine wpList_sack1 rfl inf_addr (.tmp 39) (.tmp 42) rfl (w := w12) (base := w.heap.size + 1) (us := [.slice A' a.path.length c', .string a.typ, .string a.nam, .int .i64 a.kind, .int .i64 a.n, .string a.key]) (ds := dA a) rfl (S4.out.below HB2.out) (Below.refl _ _) hz5 rfl rfl (made_cells HO.out HSZ.out (Below.refl _ _) (fun q hq => (HR1.out q hq).2)) (by rw [hlt1]; omega) ?_)
        intro v2 w13 hs2 hg2
        have E6 := Lib.hid (grown_below (below_da E5.out (Nat.le_refl _) _) hg2 (by simp; omega) (fun q hq => by have := (HR1.out q hq).1; omega))
        have HR2 := Lib.hid hs2.row
        have S6 := Lib.hid hs2
        have hz6 : w.heap.size + 1 ≤ w13.heap.size := by have := hg2.size; simp at this; omega
        clear hs2 hg2 HR1 S4 HO E4 E5 B4 B5 b5 l5
        have hlt2 : (L.drop k).length = L.length - k := by simp
        have hlY : ((L.map dA).drop k).length = L.length - k := by simp
        go_wp2_with (at_builtin; refine wpList_sackN rfl inf_addr (.tmp 44) (.tmp 47) rfl (base := w.heap.size + 1) (Y := (L.map dA).drop k) rfl S6.out hz6 rfl (by rw [hlY]; try omega) (by rw [List.drop_eq_nil_of_le (by simp; omega)]; exact src_nil _ _ _ _ _) (by rw [hlY]; simp; omega) ?_)
        intro v3 w14 hs3 hg3
        have E7 := Lib.hid (grown_below E6.out hg3 (by omega) (fun q hq => by have := (HR2.out q hq).1; omega))
        have S7 := Lib.hid hs3
        clear hs3 hg3
        go_wp2
        go_ret
        exact ⟨_, rfl, (by rw [HPUT.out]; have := sack_lower (base' := base) S7.out (by have := HBS.out; omega); simpa [List.map_take, List.map_drop, List.append_assoc] using this), E7.out⟩
theorem bE_addr (n : Nat) (ds : List DC) : (bE n ds).addr = bA (ds.drop 4) := by cases n <;> rfl
theorem gatL_pre (l : List ExprD) (j : Nat) : (rf.gatL (l.take j)).length ≤ (rf.gatL l).length := by
  have e : rf.gatL l = rf.gatL (l.take j) ++ rf.gatL (l.drop j) := by rw [← rf.gatL_app, List.take_append_drop]
  rw [e]; simp
theorem gatL_sub {l : List ExprD} {e : ExprD} {a : AddrD} : e ∈ l → a ∈ rf.gat e → a ∈ rf.gatL l := by
  induction l with
  | nil => intro h; simp at h
  | cons x l ih =>
    intro h ha
    simp only [rf.gatL, List.mem_append]
    rcases List.mem_cons.1 h with rfl | h
    · exact .inl ha
    · exact .inr (ih h ha)
set_option maxHeartbeats 8000000 in
theorem refs_any : ∀ (n : Nat) {B : Nat → Prop} {w : World} {ds : List DC} {vs : List Value} {base : Nat} {v : Value} {L : List AddrD}, Cells B n w shExpr_ ds vs → Sack 1 w base 34 2 v (L.map dA) → base ≤ w.heap.size → (∀ a ∈ rf.gat (bE n ds), a.path.length ≤ 1000000) → L.length + (rf.gat (bE n ds)).length ≤ 100000 →
    Calls Try.prog 34 #[.agg vs.toArray, v] w fun e w' => ∃ v', e = .returned v' ∧ Sack 1 w' base 34 2 v' ((rf.puts L (rf.gat (bE n ds))).map dA) ∧ Below w.heap.size w w' := fun n => by
  induction n using Nat.strongRecOn with
  | ind n ih =>
    intro B w ds vs base v L h hbag hbase hsz hsm
    have hEA := bE_addr n ds
    obtain ⟨xe0, xe1, xe2, se3, le4, se5, se6, xe7, xe8, se9, se10, le11, Ae4, ce4, Ae11, ce11, rfl, rfl, ke0, ke1, ke2, ke3, ke4, ke5, ke6, ke7, ke8, ke9, ke10, ke11⟩ := open_Expr h
    have hlen := ke11.len.2
    unfold maxLen at hlen
    have HAD := Lib.hid (Gd.ofC (show Cells B n w shAddr_ [.l le4, .s se5, .s se6, .i xe7, .i xe8, .s se9] [.slice Ae4 le4.length ce4, .string se5, .string se6, .int .i64 xe7, .int .i64 xe8, .string se9] from ⟨ke4, Cell.mkS ke5, Cell.mkS ke6, Cell.mkI ke7, Cell.mkI ke8, Cell.mkS ke9, trivial⟩))
    have H := Lib.hid (Gd.of1 ke11)
    have hargs := bE_args (x0 := xe0) (x1 := xe1) (x2 := xe2) (x7 := xe7) (x8 := xe8) (s3 := se3) (s5 := se5) (s6 := se6) (s9 := se9) (s10 := se10) (l4 := le4) ke11
    have hkind := bE_kind n (x0 := xe0) (x1 := xe1) (x2 := xe2) (x7 := xe7) (x8 := xe8) (s3 := se3) (s5 := se5) (s6 := se6) (s9 := se9) (s10 := se10) (l4 := le4) (l11 := le11)
    have hgat := rf.gat_eq (bE n [.i xe0, .i xe1, .i xe2, .s se3, .l le4, .s se5, .s se6, .i xe7, .i xe8, .s se9, .s se10, .l le11])
    rw [hargs, hkind, hEA] at hgat
    obtain ⟨d, hd⟩ : ∃ d, bA [.l le4, .s se5, .s se6, .i xe7, .i xe8, .s se9] = d := ⟨_, rfl⟩
    have hgat' : rf.gat (bE n [.i xe0, .i xe1, .i xe2, .s se3, .l le4, .s se5, .s se6, .i xe7, .i xe8, .s se9, .s se10, .l le11]) = (if xe0 = 2 then [d] else []) ++ rf.gatL (le11.map (bE (n - 1))) := by rw [hgat, ← hd]; rfl
    rw [hgat'] at hsz hsm ⊢
    have HSZ := Lib.hid hsz
    have HBS := Lib.hid hbase
    have HSM := Lib.hid hsm
    have IH := Lib.hid ih
    have HS0 := Lib.hid hbag
    clear h hbag hsz hbase hsm ih hargs hkind hgat hgat' hEA ke0 ke1 ke2 ke3 ke4 ke5 ke6 ke7 ke8 ke9 ke10 ke11
    -- the loop, from a list that is there
    have HLOOP : True := trivial
    by_cases hk2 : xe0 = 2
    · subst hk2
      rw [if_pos rfl] at HSZ HSM ⊢
      go_enter Try.func34, Try.ntmps34
      go_wp2_with fail
      refine (putAddr_any hd ((HAD.out.alloc _).now) (HS0.out.alloc _) (by (have := HBS.out; simp; omega)) (HSZ.out d (by simp)) (by (have := HSM.out; simp at this; omega))).mono ?_
      rintro _ w1 ⟨v1, rfl, hs1, hb⟩
      have E1 := Lib.hid (below_then (below_a1 _ _) hb (Nat.le_refl _))
      have B1 := Lib.hid ((Blk.new w _ _).step hb)
      have b1 := B1.out.cell
      have l1 := B1.out.lt
      have S1 := Lib.hid hs1
      have HPL := Lib.hid (rf.put_len L d)
      have HPE : Hid (rf.puts L ([d] ++ rf.gatL (le11.map (bE (n - 1)))) = rf.puts (rf.put L d) (rf.gatL (le11.map (bE (n - 1))))) := rfl
      have HSZ2 : Hid (∀ a ∈ rf.gatL (le11.map (bE (n - 1))), a.path.length ≤ 1000000) := fun a ha => HSZ.out a (by simp [ha])
      have HSM2 : Hid ((rf.put L d).length + (rf.gatL (le11.map (bE (n - 1)))).length ≤ 100000) := by (have := HSM.out; have := HPL.out; simp at *; show _ ≤ _; omega)
      clear hs1 hb HSZ HSM HPL HS0
      obtain ⟨L1, hL1⟩ : ∃ L1, rf.put L d = L1 := ⟨_, rfl⟩
      rw [hL1] at HPE S1 HSM2
      clear hL1
      go_wp2
      go_loopw [1, 5] (fun v i wr => ∃ j : Nat, j ≤ le11.length ∧ i = .int .i64 j ∧ Sack 1 wr base 34 2 v ((rf.puts L1 (rf.gatL ((le11.map (bE (n - 1))).take j))).map dA) ∧ Blk wr w.heap.size 37 #[.int .i64 2, .int .i64 xe1, .int .i64 xe2, .string se3, .slice Ae4 le4.length ce4, .string se5, .string se6, .int .i64 xe7, .int .i64 xe8, .string se9, .string se10, .slice Ae11 le11.length ce11] ∧ Below w.heap.size w wr) (fun _ i _ => le11.length - (RowKit.intOf i).toNat)
      case atStart => exact ⟨0, Nat.zero_le _, rfl, S1.out, B1.out, E1.out⟩
      case round =>
        clear S1 B1 E1 b1 l1
        obtain ⟨j, hj, rfl, hs, hB, hb⟩ := hrel
        have S1 := Lib.hid hs
        have E1 := Lib.hid hb
        have B1 := Lib.hid hB
        have b1 := hB.cell
        have l1 := hB.lt
        clear hs hB hb
        by_cases hlt : j < le11.length
        · obtain ⟨m, b, o, us, hm, rfl, _, hbl, hr, hin⟩ := (H.out.below E1.out).now.item j hlt
          obtain rfl : m = n - 1 := by omega
          have hus := Cells.length hin
          have HR := Lib.hid hr
          have HIN := Lib.hid (Gd.ofC hin)
          have hjm : j < (le11.map (bE (n - 1))).length := by simpa using hlt
          have HGT := Lib.hid (rf.gatL_take (le11.map (bE (n - 1))) j hjm)
          have hitem : (le11.map (bE (n - 1)))[j] = bE (n - 1) le11[j] := by simp
          have HSZJ : Hid (∀ a ∈ rf.gat (bE (n - 1) le11[j]), a.path.length ≤ 1000000) := fun a ha => HSZ2.out a (gatL_sub (e := bE (n - 1) le11[j]) (by rw [← hitem]; exact List.getElem_mem hjm) ha)
          have HSMJ : Hid ((rf.puts L1 (rf.gatL ((le11.map (bE (n - 1))).take j))).length + (rf.gat (bE (n - 1) le11[j])).length ≤ 100000) := by
            show _ ≤ _
            have h1 := rf.puts_len (rf.gatL ((le11.map (bE (n - 1))).take j)) L1
            have h2 := gatL_pre (le11.map (bE (n - 1))) (j + 1)
            rw [HGT.out, hitem, List.length_append] at h2
            have h3 := HSM2.out
            omega
          have HBS1 : Hid (base ≤ wr.heap.size) := Nat.le_trans HBS.out (Nat.le_trans (Nat.le_of_lt l1) (Nat.le_refl _))
          have hn1 : n - 1 < n := by omega
          have hjI : (j : Int) < le11.length := by omega
          have HIT := Lib.hid hitem
          clear hr hin hm hitem
          go_wp2_with (refine wpList_load_mid rfl 37 (.tmp 23) rfl b (o + j * 12) rfl us _ HR.out Try.underlying37 rfl (by rw [hus]; kernel_rfl) ?_)
          go_wp2_with fail
          refine (IH.out (n - 1) hn1 HIN.out.now S1.out HBS1.out HSZJ.out HSMJ.out).mono ?_
          rintro _ w2 ⟨v2, rfl, hs2, hb⟩
          have E2 := Lib.hid (below_then E1.out hb (Nat.le_refl _))
          have B2 := Lib.hid (B1.out.step hb)
          have b2 := B2.out.cell
          have l2 := B2.out.lt
          have S2 : Hid (Sack 1 w2 base 34 2 v2 ((rf.puts L1 (rf.gatL ((le11.map (bE (n - 1))).take (j + 1)))).map dA)) := by
            show Sack _ _ _ _ _ _ _
            rw [HGT.out, HIT.out, rf.puts_app]; exact hs2
          clear hb hs2 B1 b1 l1 S1 E1 hus
          go_wp2
          go_roundw
          case rel => exact ⟨j + 1, by omega, by go_num, S2.out, B2.out, E2.out⟩
          case measure => simp [RowKit.intOf]; omega
        · obtain rfl : j = le11.length := by omega
          have S2 := S1
          rw [show (le11.map (bE (n - 1))).take le11.length = le11.map (bE (n - 1)) from List.take_of_length_le (by simp)] at S2
          clear S1 hlt
          go_wp2
          go_ret
          exact ⟨_, rfl, (by first | (rw [HPE.out]; exact S2.out) | (have h9 := HPE.out; simp only [List.cons_append, List.nil_append] at h9; rw [h9]; exact S2.out)), E1.out⟩
    · rw [if_neg hk2] at HSZ HSM ⊢
      have HK := Lib.hid hk2
      have hkb : (xe0 == 2) = false := by rw [beq_eq_false_iff_ne]; exact hk2
      clear hk2
      rw [List.nil_append] at HSZ HSM ⊢
      go_enter Try.func34, Try.ntmps34
      go_wp2
      have E1 := Lib.hid (below_a1 w (.cells #[.int .i64 xe0, .int .i64 xe1, .int .i64 xe2, .string se3, .slice Ae4 le4.length ce4, .string se5, .string se6, .int .i64 xe7, .int .i64 xe8, .string se9, .string se10, .slice Ae11 le11.length ce11] 37))
      have B1 := Lib.hid (Blk.new w 37 #[.int .i64 xe0, .int .i64 xe1, .int .i64 xe2, .string se3, .slice Ae4 le4.length ce4, .string se5, .string se6, .int .i64 xe7, .int .i64 xe8, .string se9, .string se10, .slice Ae11 le11.length ce11])
      have S1 := Lib.hid (HS0.out.alloc (.cells #[.int .i64 xe0, .int .i64 xe1, .int .i64 xe2, .string se3, .slice Ae4 le4.length ce4, .string se5, .string se6, .int .i64 xe7, .int .i64 xe8, .string se9, .string se10, .slice Ae11 le11.length ce11] 37))
      generalize w.alloc (.cells #[.int .i64 xe0, .int .i64 xe1, .int .i64 xe2, .string se3, .slice Ae4 le4.length ce4, .string se5, .string se6, .int .i64 xe7, .int .i64 xe8, .string se9, .string se10, .slice Ae11 le11.length ce11] 37) = w1 at E1 B1 S1 ⊢
      have b1 := B1.out.cell
      have l1 := B1.out.lt
      have HSZ2 := HSZ
      have HSM2 := HSM
      clear HSZ HSM HS0
      obtain ⟨L1, hL1⟩ : ∃ L1, L = L1 := ⟨_, rfl⟩
      rw [hL1] at S1 HSM2
      have HPE : Hid (rf.puts L (rf.gatL (le11.map (bE (n - 1)))) = rf.puts L1 (rf.gatL (le11.map (bE (n - 1))))) := by (show _ = _; rw [hL1])
      clear hL1
      go_loopw [1, 5] (fun v i wr => ∃ j : Nat, j ≤ le11.length ∧ i = .int .i64 j ∧ Sack 1 wr base 34 2 v ((rf.puts L1 (rf.gatL ((le11.map (bE (n - 1))).take j))).map dA) ∧ Blk wr w.heap.size 37 #[.int .i64 xe0, .int .i64 xe1, .int .i64 xe2, .string se3, .slice Ae4 le4.length ce4, .string se5, .string se6, .int .i64 xe7, .int .i64 xe8, .string se9, .string se10, .slice Ae11 le11.length ce11] ∧ Below w.heap.size w wr) (fun _ i _ => le11.length - (RowKit.intOf i).toNat)
      case atStart => exact ⟨0, Nat.zero_le _, rfl, S1.out, B1.out, E1.out⟩
      case round =>
        clear S1 B1 E1 b1 l1
        obtain ⟨j, hj, rfl, hs, hB, hb⟩ := hrel
        have S1 := Lib.hid hs
        have E1 := Lib.hid hb
        have B1 := Lib.hid hB
        have b1 := hB.cell
        have l1 := hB.lt
        clear hs hB hb
        by_cases hlt : j < le11.length
        · obtain ⟨m, b, o, us, hm, rfl, _, hbl, hr, hin⟩ := (H.out.below E1.out).now.item j hlt
          obtain rfl : m = n - 1 := by omega
          have hus := Cells.length hin
          have HR := Lib.hid hr
          have HIN := Lib.hid (Gd.ofC hin)
          have hjm : j < (le11.map (bE (n - 1))).length := by simpa using hlt
          have HGT := Lib.hid (rf.gatL_take (le11.map (bE (n - 1))) j hjm)
          have hitem : (le11.map (bE (n - 1)))[j] = bE (n - 1) le11[j] := by simp
          have HSZJ : Hid (∀ a ∈ rf.gat (bE (n - 1) le11[j]), a.path.length ≤ 1000000) := fun a ha => HSZ2.out a (gatL_sub (e := bE (n - 1) le11[j]) (by rw [← hitem]; exact List.getElem_mem hjm) ha)
          have HSMJ : Hid ((rf.puts L1 (rf.gatL ((le11.map (bE (n - 1))).take j))).length + (rf.gat (bE (n - 1) le11[j])).length ≤ 100000) := by
            show _ ≤ _
            have h1 := rf.puts_len (rf.gatL ((le11.map (bE (n - 1))).take j)) L1
            have h2 := gatL_pre (le11.map (bE (n - 1))) (j + 1)
            rw [HGT.out, hitem, List.length_append] at h2
            have h3 := HSM2.out
            omega
          have HBS1 : Hid (base ≤ wr.heap.size) := Nat.le_trans HBS.out (Nat.le_trans (Nat.le_of_lt l1) (Nat.le_refl _))
          have hn1 : n - 1 < n := by omega
          have hjI : (j : Int) < le11.length := by omega
          have HIT := Lib.hid hitem
          clear hr hin hm hitem
          go_wp2_with (refine wpList_load_mid rfl 37 (.tmp 23) rfl b (o + j * 12) rfl us _ HR.out Try.underlying37 rfl (by rw [hus]; kernel_rfl) ?_)
          go_wp2_with fail
          refine (IH.out (n - 1) hn1 HIN.out.now S1.out HBS1.out HSZJ.out HSMJ.out).mono ?_
          rintro _ w2 ⟨v2, rfl, hs2, hb⟩
          have E2 := Lib.hid (below_then E1.out hb (Nat.le_refl _))
          have B2 := Lib.hid (B1.out.step hb)
          have b2 := B2.out.cell
          have l2 := B2.out.lt
          have S2 : Hid (Sack 1 w2 base 34 2 v2 ((rf.puts L1 (rf.gatL ((le11.map (bE (n - 1))).take (j + 1)))).map dA)) := by
            show Sack _ _ _ _ _ _ _
            rw [HGT.out, HIT.out, rf.puts_app]; exact hs2
          clear hb hs2 B1 b1 l1 S1 E1 hus
          go_wp2
          go_roundw
          case rel => exact ⟨j + 1, by omega, by go_num, S2.out, B2.out, E2.out⟩
          case measure => simp [RowKit.intOf]; omega
        · obtain rfl : j = le11.length := by omega
          have S2 := S1
          rw [show (le11.map (bE (n - 1))).take le11.length = le11.map (bE (n - 1)) from List.take_of_length_le (by simp)] at S2
          clear S1 hlt
          go_wp2
          go_ret
          exact ⟨_, rfl, (by first | (rw [HPE.out]; exact S2.out) | (have h9 := HPE.out; simp only [List.cons_append, List.nil_append] at h9; rw [h9]; exact S2.out)), E1.out⟩
end Go.Proofs.Ytgkcohclejmhkaa.cf
namespace Go.Proofs.Ytgkcohclejmhkaa.cf
open ad mem vl ex un cm bare
open Go.ChangeShapes Go.WideShapes Go.ChangeAt Go.RowKit Go.Lib
set_option linter.unusedVariables false
set_option maxRecDepth 8000
set_option linter.unusedSimpArgs false
set_option maxHeartbeats 1000000 in
theorem ins_none (A : Option Addr) (c : Nat) (fv : Value) (w : World) : Calls Try.prog 133 #[.slice A 0 c, .int .i64 0, .int .i64 0, fv] w fun e w' => e = .returned (.tuple #[]) ∧ w' = w := by
  go_enter Try.func133, Try.ntmps133
  go_wp2
  refine wp_loop_rounds 1 ?_
  rw [rounds_succ]
  go_wp2
  go_end0
  exact ⟨rfl, rfl⟩
theorem len_zero (w : World) : Calls Try.prog 118 #[.int .u64 0] w fun e w' => e = .returned (.int .i64 (Lib.bitLen 0 : Nat)) ∧ w' = w :=
  Any.bits_Len (SlLaysF0.n15.bits { Try.sortSoA with }) 0 w (by omega) (by omega)
set_option maxHeartbeats 1000000 in
theorem pdq_none (A : Option Addr) (c : Nat) (lim : Int) (fv : Value) (w : World) : Calls Try.prog 117 #[.slice A 0 c, .int .i64 0, .int .i64 0, .int .i64 lim, fv] w fun e w' => e = .returned (.tuple #[]) ∧ w' = w := by
  go_enter Try.func117, Try.ntmps117
  go_wp2
  refine wp_loop_rounds 1 ?_
  rw [rounds_succ]
  go_wp2_with (go_at_call 133; refine (ins_none _ _ _ _).mono ?_; rintro _ _ ⟨rfl, rfl⟩)
  (try simp only [Exit.inBlock, Exit.then])
  first | go_end0 | (refine bodyPost_ret (results_none rfl _ _ _) rfl ?_)
  exact ⟨rfl, rfl⟩
set_option maxHeartbeats 1000000 in
theorem sort_none (A : Option Addr) (c : Nat) (fv : Value) (w : World) : Calls Try.prog 82 #[.slice A 0 c, fv] w fun e w' => e = .returned (.tuple #[]) ∧ w' = w := by
  go_enter Try.func82, Try.ntmps82
  go_wp2_with (first | (go_at_call 118; refine (len_zero _).mono ?_; rintro _ _ ⟨rfl, rfl⟩) | (go_at_call 117; refine (pdq_none _ _ _ _ _).mono ?_; rintro _ _ ⟨rfl, rfl⟩))
  go_end0
  exact ⟨rfl, rfl⟩
theorem compact_none (A : Option Addr) (c : Nat) (fv : Value) (w : World) : Calls Try.prog 84 #[.slice A 0 c, fv] w fun e w' => e = .returned (.slice A 0 c) ∧ w' = w := by
  go_enter Try.func84, Try.ntmps84
  go_wp2
  go_ret
  exact ⟨rfl, rfl⟩
theorem bag_base {n : Nat} {w : World} {base : Nat} {T : TypeId} {e : Nat} {v : Value} {X : List (List DC)} (h : Bag n w base T e v X) (hb : base ≤ w.heap.size) {w' : World} {g : Nat} (hv : v.ownBlock = some g) (hO : Only (fun b => b = g) w w') : Below base w w' :=
  Below.only (Below.refl base w) hO hb (fun b hbg => by subst hbg; exact (h.row _ hv).1)
set_option maxHeartbeats 2000000 in
theorem sortAddrs_any {w : World} {base : Nat} {v : Value} {L : List AddrD} (hbag : Bag 1 w base 34 2 v (L.map dA)) (hbase : base ≤ w.heap.size) (hsm : L.length ≤ 1000000) :
    Calls Try.prog 41 #[v] w fun e w' => ∃ v', e = .returned v' ∧ Bag 1 w' base 34 2 v' ((rf.puts [] L).map dA) ∧ Below base w w' := by
  by_cases h0 : L = []
  · subst h0
    obtain ⟨A, c, hv, _⟩ := hbag.form
    have hv' : v = .slice A 0 c := hv
    subst hv'
    have HB := Lib.hid hbag
    clear hbag hv
    go_enter Try.func41, Try.ntmps41
    go_wp2_with (first | (go_at_call 82; refine (sort_none _ _ _ _).mono ?_; rintro _ _ ⟨rfl, rfl⟩) | (go_at_call 84; refine (compact_none _ _ _ _).mono ?_; rintro _ _ ⟨rfl, rfl⟩))
    go_ret
    exact ⟨_, rfl, HB.out, Below.refl _ _⟩
  · have hn : 0 < L.length := List.length_pos_iff.2 h0
    obtain ⟨g, cap, rfl⟩ : ∃ g cap, v = .slice (some ⟨g, 0, none⟩) L.length cap := by
      obtain ⟨rows, ho, _⟩ := hbag.go
      rcases ho.2 with ⟨_, h1⟩ | ⟨g, cap, cur, hv, _⟩
      · rw [List.length_map] at h1; omega
      · exact ⟨g, cap, by rw [hv, List.length_map]⟩
    have HB := Lib.hid hbag
    have HBS := Lib.hid hbase
    clear hbag h0 hbase
    go_enter Try.func41, Try.ntmps41
    go_wp2_with fail
    refine (sort_bag HB.out hn hsm).mono ?_
    rintro _ w1 ⟨rfl, L', hlen, hmem, hpw, hb1, hO1⟩
    have HB1 := Lib.hid hb1
    have HO1 := Lib.hid hO1
    have HM := Lib.hid hmem
    have HPW := Lib.hid hpw
    have HLEN := Lib.hid hlen
    clear hb1 hO1 hmem hpw
    rw [← hlen]
    rw [← hlen] at HB1
    clear hlen
    go_wp2_with fail
    refine (compact_bag (o := 0) rfl HB1.out HPW.out (by rw [HLEN.out]; exact hn) (by rw [HLEN.out]; exact hsm)).mono ?_
    rintro _ w2 ⟨L'', rfl, hris, hmem2, hb2, hO2⟩
    have HB2 := Lib.hid hb2
    have HO2 := Lib.hid hO2
    have HRS := Lib.hid hris
    have HM2 := Lib.hid hmem2
    clear hb2 hO2 hris hmem2
    go_wp2
    go_ret
    have e1 : rf.puts [] L = L'' := rf.ris_one (rf.puts_ris L (by simp [rf.Ris])) HRS.out (fun a => by rw [rf.puts_mem, HM2.out, HM.out]; simp)
    refine ⟨_, rfl, by rw [e1]; exact HB2.out, ?_⟩
    have k1 := bag_base HB.out HBS.out (g := g) rfl HO1.out
    have k2 := bag_base HB1.out (Nat.le_trans HBS.out HO1.out.size) (g := g) rfl HO2.out
    exact k1.trans k2
/-- the references of an expression, each with all its cells, in the text's order. -/
def gatX : Nat → List DC → List (List DC)
  | 0, ds => if bI (ds.getD 0 z) = 2 then [ds] else []
  | n + 1, ds => if bI (ds.getD 0 z) = 2 then [ds] else (bL (ds.getD 11 z)).flatMap (gatX n)
def refA (ds : List DC) : AddrD := bA (ds.drop 4)
theorem gatX_eq {B : Nat → Prop} {n : Nat} {w : World} {ds : List DC} {v : Value} {l11 : List (List DC)} (h : Cell B n w (.l 3) (.l l11) v) (h11 : bL (ds.getD 11 z) = l11) : gatX n ds = if bI (ds.getD 0 z) = 2 then [ds] else l11.flatMap (gatX (n - 1)) := by
  cases n with
  | zero => obtain ⟨_, rfl⟩ := h; rw [gatX]; simp
  | succ n => rw [gatX, h11]; rfl
theorem flat_pre {α β : Type} (f : α → List β) (l : List α) (j : Nat) : ((l.take j).flatMap f).length ≤ (l.flatMap f).length := by
  have e : l.flatMap f = (l.take j).flatMap f ++ (l.drop j).flatMap f := by rw [← List.flatMap_append, List.take_append_drop]
  rw [e]; simp
theorem flat_succ {α β : Type} (f : α → List β) (l : List α) (j : Nat) (h : j < l.length) : (l.take (j + 1)).flatMap f = (l.take j).flatMap f ++ f l[j] := by
  rw [List.take_succ_eq_append_getElem h, List.flatMap_append]; simp
theorem Src.ups {C : Nat → Prop} {n m : Nat} {w : World} {e : Nat} {A : Option Addr} {Y : List (List DC)} (h : Src C n w e A Y) (hm : n ≤ m) : Src C m w e A Y := by
  obtain ⟨us, u1, u2, u3⟩ := h.go
  exact ⟨us, u1, u2, fun j h1 h2 => Cells.ups (u3 j h1 h2) hm⟩
theorem info_expr : (Try.prog.info? 37).map (fun i => (i.zero, i.size, i.bytes)) = some (some (.agg #[.int .i64 0, .int .i64 0, .int .i64 0, .string ByteArray.empty, .slice none 0 0, .string ByteArray.empty, .string ByteArray.empty, .int .i64 0, .int .i64 0, .string ByteArray.empty, .string ByteArray.empty, .slice none 0 0]), 12, 168) := by kernel_rfl
theorem inf_expr : Inf Try.prog 35 37 (sh 3).length := by
  obtain ⟨i0, hi, hz0, hz1, hz2⟩ := info_parts info_expr
  exact ⟨Try.underlying35, i0, _, 168, hi, hz0, hz1, hz2, rfl, by decide, by omega⟩
set_option maxHeartbeats 8000000 in
theorem gather_any : ∀ (n : Nat) {b0 : Nat} {w : World} {ds : List DC} {vs : List Value}, Cells (Lw b0) n w shExpr_ ds vs → b0 ≤ w.heap.size → (gatX n ds).length ≤ 100000 →
    Calls Try.prog 39 #[.agg vs.toArray] w fun e w' => ∃ v, e = .returned v ∧ SackC b0 n w' w.heap.size 37 3 v (gatX n ds) ∧ Below w.heap.size w w' := fun n => by
  induction n using Nat.strongRecOn with
  | ind n ih =>
    intro b0 w ds vs h hb0 hsm
    have HW := Lib.hid (Gd.ofC h)
    obtain ⟨xe0, xe1, xe2, se3, le4, se5, se6, xe7, xe8, se9, se10, le11, Ae4, ce4, Ae11, ce11, rfl, rfl, ke0, ke1, ke2, ke3, ke4, ke5, ke6, ke7, ke8, ke9, ke10, ke11⟩ := open_Expr h
    have hlen := ke11.len.2
    unfold maxLen at hlen
    have H := Lib.hid (Gd.of1 ke11)
    have hgx : gatX n [.i xe0, .i xe1, .i xe2, .s se3, .l le4, .s se5, .s se6, .i xe7, .i xe8, .s se9, .s se10, .l le11] = if xe0 = 2 then [[.i xe0, .i xe1, .i xe2, .s se3, .l le4, .s se5, .s se6, .i xe7, .i xe8, .s se9, .s se10, .l le11]] else le11.flatMap (gatX (n - 1)) := gatX_eq ke11 rfl
    rw [hgx] at hsm ⊢
    have HB0 := Lib.hid hb0
    have HSM := Lib.hid hsm
    have IH := Lib.hid ih
    clear h hb0 hsm ih hgx ke0 ke1 ke2 ke3 ke4 ke5 ke6 ke7 ke8 ke9 ke10 ke11
    by_cases hk2 : xe0 = 2
    · subst hk2
      rw [if_pos rfl]
      go_enter Try.func39, Try.ntmps39
      go_wp2
      go_ret
      refine ⟨_, rfl, ?_, below_a2 _ _ _⟩
      have := SackC.single (T := 37) (e := 3) (base := w.heap.size) (HW.out.alloc (.cells #[.int .i64 2, .int .i64 xe1, .int .i64 xe2, .string se3, .slice Ae4 le4.length ce4, .string se5, .string se6, .int .i64 xe7, .int .i64 xe8, .string se9, .string se10, .slice Ae11 le11.length ce11] 37)).now (by simp)
      simpa using this
    · rw [if_neg hk2] at HSM ⊢
      have hkb : (xe0 == 2) = false := by rw [beq_eq_false_iff_ne]; exact hk2
      clear hk2
      go_enter Try.func39, Try.ntmps39
      go_wp2
      go_loopw [3, 14] (fun v i wr => ∃ j : Nat, j ≤ le11.length ∧ i = .int .i64 j ∧ SackC b0 n wr (w.heap.size + 1) 37 3 v ((le11.take j).flatMap (gatX (n - 1))) ∧ Blk wr w.heap.size 37 #[.int .i64 xe0, .int .i64 xe1, .int .i64 xe2, .string se3, .slice Ae4 le4.length ce4, .string se5, .string se6, .int .i64 xe7, .int .i64 xe8, .string se9, .string se10, .slice Ae11 le11.length ce11] ∧ Below w.heap.size w wr) (fun _ i _ => le11.length - (RowKit.intOf i).toNat)
      case atStart => exact ⟨0, Nat.zero_le _, rfl, SackC.nil _ _ _ _ _ _, Blk.new w _ _, below_a1 _ _⟩
      case round =>
        obtain ⟨j, hj, rfl, hs, hB, hb⟩ := hrel
        have S1 := Lib.hid hs
        have E1 := Lib.hid hb
        have B1 := Lib.hid hB
        have b1 := hB.cell
        have l1 := hB.lt
        clear hs hB hb
        by_cases hlt : j < le11.length
        · obtain ⟨m, b, o, us, hm, rfl, _, hbl, hr, hin⟩ := (H.out.below E1.out).now.item j hlt
          obtain rfl : m = n - 1 := by omega
          have HR := Lib.hid hr
          have HIN := Lib.hid (Gd.ofC hin)
          obtain ⟨xq0, xq1, xq2, sq3, lq4, sq5, sq6, xq7, xq8, sq9, sq10, lq11, Aq4, cq4, Aq11, cq11, ed, rfl, -⟩ := open_Expr hin
          have HED := Lib.hid ed
          have HFS := Lib.hid (flat_succ (gatX (n - 1)) le11 j hlt)
          have HPR := Lib.hid (flat_pre (gatX (n - 1)) le11 (j + 1))
          have hn1 : n - 1 < n := by omega
          have hjI : (j : Int) < le11.length := by omega
          have HSJ : Hid ((gatX (n - 1) le11[j]).length ≤ 100000) := by
            show _ ≤ _
            have h1 := HPR.out
            rw [HFS.out, List.length_append] at h1
            have := HSM.out; omega
          have HSJ2 : Hid (((le11.take j).flatMap (gatX (n - 1))).length + (gatX (n - 1) le11[j]).length ≤ 1000000) := by
            show _ ≤ _
            have h1 := HPR.out
            rw [HFS.out, List.length_append] at h1
            have := HSM.out; omega
          have HB1 : Hid (b0 ≤ (wr.alloc (.cells #[.int .i64 xq0, .int .i64 xq1, .int .i64 xq2, .string sq3, .slice Aq4 lq4.length cq4, .string sq5, .string sq6, .int .i64 xq7, .int .i64 xq8, .string sq9, .string sq10, .slice Aq11 lq11.length cq11] 37)).heap.size) := by
            show _ ≤ _
            have := HB0.out
            simp; omega
          have HSR := Lib.hid S1.out.row
          clear hr hin hm ed
          go_wp2_with (refine wpList_load_mid rfl 37 (.tmp 16) rfl b (o + j * 12) rfl _ _ HR.out Try.underlying37 rfl (by kernel_rfl) ?_)
          go_wp2_with fail
          refine (IH.out (n - 1) hn1 ((HIN.out.alloc _).now) HB1.out HSJ.out).mono ?_
          rintro _ w2 ⟨v2, rfl, hs2, hb⟩
          have HBB := Lib.hid hb
          have E2 := Lib.hid (below_then (below_da E1.out (Nat.le_refl _) _) hb (Nat.le_refl _))
          have B2 := Lib.hid ((B1.out.alloc _).step hb)
          have S2 : Hid (SackC b0 n w2 (w.heap.size + 1) 37 3 _ ((le11.take j).flatMap (gatX (n - 1)))) := (S1.out.below (below_then (below_a1 _ _) hb (Nat.le_refl _)))
          have b2 := B2.out.cell
          have l2 := B2.out.lt
          obtain ⟨A2, c2, hv2, _⟩ := hs2.form
          subst hv2
          have SR2 := Lib.hid (Src.ups hs2.src (Nat.le_of_lt hn1))
          have hz2 : w.heap.size + 1 ≤ w2.heap.size := l2
          clear hb hs2 b1 B1 E1 S1
          go_wp2_with (at_builtin; refine wpList_sackC rfl inf_expr (.tmp 18) (.tmp 20) rfl (Y := gatX (n - 1) le11[j]) rfl S2.out hz2 (by (have := HB0.out; omega)) rfl rfl SR2.out HSJ2.out ?_)
          intro v3 w3 hs3 hg3
          have E3 := Lib.hid (grown_below E2.out hg3 (by omega) (fun q hq => by have := (HSR.out q hq).1; omega))
          have B3 := Lib.hid (grown_blk B2.out hg3 (fun e2 => by have := (HSR.out _ e2).1; omega))
          have S3 : Hid (SackC b0 n w3 (w.heap.size + 1) 37 3 v3 ((le11.take (j + 1)).flatMap (gatX (n - 1)))) := by
            show SackC _ _ _ _ _ _ _ _
            rw [HFS.out]; exact hs3
          have b3 := B3.out.cell
          have l3 := B3.out.lt
          clear hs3 hg3 b2 l2
          go_wp2
          go_roundw
          case rel => exact ⟨j + 1, by omega, by go_num, S3.out, B3.out, E3.out⟩
          case measure => simp [RowKit.intOf]; omega
        · obtain rfl : j = le11.length := by omega
          have S2 := S1
          rw [List.take_length] at S2
          clear S1 hlt
          go_wp2
          go_ret
          exact ⟨_, rfl, S2.out.lower (by omega), E1.out⟩
end Go.Proofs.Ytgkcohclejmhkaa.cf
namespace Go.Proofs.Ytgkcohclejmhkaa.cf
open ad mem vl ex un cm bare
open Go.ChangeShapes Go.WideShapes Go.ChangeAt Go.RowKit Go.Lib
set_option linter.unusedVariables false
set_option maxRecDepth 8000
set_option linter.unusedSimpArgs false

/-- what RefsOf tells. -/
noncomputable def refsX (n : Nat) (ds : List DC) : List (List DC) := if exprB 4 (bE n ds) then (rf.puts [] (rf.gat (bE n ds))).map dA else []
theorem refsX_no {n : Nat} {ds : List DC} (h : exprB 4 (bE n ds) = false) : refsX n ds = [] := by unfold refsX; rw [h]; rfl
theorem refsX_yes {n : Nat} {ds : List DC} (h : exprB 4 (bE n ds) = true) : refsX n ds = (rf.puts [] (rf.gat (bE n ds))).map dA := by unfold refsX; rw [h]; rfl
theorem refs_bound {n : Nat} {ds : List DC} : 1 + nL (refsX n ds) ≤ 100000000 := by
  cases h : exprB 4 (bE n ds)
  · rw [refsX_no h]; simp [nL]
  · rw [refsX_yes h]
    have h1 := rf.puts_len (rf.gat (bE n ds)) []
    have h2 := rf.gat_len 3 h
    have h3 := nL_addrs (l := rf.puts [] (rf.gat (bE n ds))) (fun d hd => by
      rw [rf.puts_mem] at hd
      rcases hd with hd | hd
      · exact (small_of (rf.gat_right 3 h d hd)).len
      · simp at hd)
    simp at h1 h2
    omega
theorem gat_map : ∀ (n m : Nat) {B : Nat → Prop} {w : World} {ds : List DC} {vs : List Value}, Cells B n w shExpr_ ds vs → exprB (m + 1) (bE n ds) = true → (gatX n ds).map refA = rf.gat (bE n ds) := fun n => by
  induction n using Nat.strongRecOn with
  | ind n ih =>
    intro m B w ds vs h hr
    have hEA := bE_addr n ds
    obtain ⟨xe0, xe1, xe2, se3, le4, se5, se6, xe7, xe8, se9, se10, le11, Ae4, ce4, Ae11, ce11, rfl, rfl, ke0, ke1, ke2, ke3, ke4, ke5, ke6, ke7, ke8, ke9, ke10, ke11⟩ := open_Expr h
    have hargs := bE_args (x0 := xe0) (x1 := xe1) (x2 := xe2) (x7 := xe7) (x8 := xe8) (s3 := se3) (s5 := se5) (s6 := se6) (s9 := se9) (s10 := se10) (l4 := le4) ke11
    have hkind := bE_kind n (x0 := xe0) (x1 := xe1) (x2 := xe2) (x7 := xe7) (x8 := xe8) (s3 := se3) (s5 := se5) (s6 := se6) (s9 := se9) (s10 := se10) (l4 := le4) (l11 := le11)
    have hgx : gatX n [.i xe0, .i xe1, .i xe2, .s se3, .l le4, .s se5, .s se6, .i xe7, .i xe8, .s se9, .s se10, .l le11] = if xe0 = 2 then [[.i xe0, .i xe1, .i xe2, .s se3, .l le4, .s se5, .s se6, .i xe7, .i xe8, .s se9, .s se10, .l le11]] else le11.flatMap (gatX (n - 1)) := gatX_eq ke11 rfl
    have hgat := rf.gat_eq (bE n [.i xe0, .i xe1, .i xe2, .s se3, .l le4, .s se5, .s se6, .i xe7, .i xe8, .s se9, .s se10, .l le11])
    rw [hkind, hEA, hargs] at hgat
    rw [hgx, hgat]
    by_cases h2 : xe0 = 2
    · have ha := rf.right_args hr (by rw [hkind, h2]; decide)
      rw [hargs] at ha
      rw [if_pos h2, if_pos h2, ha]
      rfl
    · rw [if_neg h2, if_neg h2, List.nil_append]
      by_cases h5 : xe0 = 5
      · obtain ⟨x, y, hxy, hx, hy⟩ := rf.right_two hr (by rw [hkind, h5])
        rw [hargs] at hxy
        have hall : ∀ j (hj : j < le11.length), exprB m (bE (n - 1) le11[j]) = true := fun j hj => by
          have e1 : bE (n - 1) le11[j] = (le11.map (bE (n - 1)))[j]'(by simpa using hj) := by simp
          have hm0 : ∀ q ∈ le11.map (bE (n - 1)), q ∈ [x, y] := fun q hq => by rwa [hxy] at hq
          have hm := hm0 _ (List.getElem_mem (l := le11.map (bE (n - 1))) (n := j) (by simpa using hj))
          rw [e1]
          rcases List.mem_cons.1 hm with hm | hm
          · rw [hm]; exact hx
          · rw [List.mem_singleton.1 hm]; exact hy
        have key : ∀ k, k ≤ le11.length → ((le11.take k).flatMap (gatX (n - 1))).map refA = rf.gatL ((le11.map (bE (n - 1))).take k) := fun k => by
          induction k with
          | zero => intro _; simp [rf.gatL]
          | succ k ihk =>
            intro hk
            obtain ⟨q, b, o, us, hq, _, _, _, _, hin⟩ := ke11.item k (by omega)
            obtain rfl : q = n - 1 := by omega
            have hr' := hall k (by omega)
            obtain ⟨m', rfl⟩ : ∃ m', m = m' + 1 := by
              cases m with
              | zero => simp [exprB] at hr'
              | succ m' => exact ⟨m', rfl⟩
            rw [flat_succ _ _ _ (by omega), List.map_append, ihk (by omega), rf.gatL_take _ k (by rw [List.length_map]; omega), ih (n - 1) (by omega) m' hin hr']
            simp
        have := key le11.length (Nat.le_refl _)
        rw [List.take_length, List.take_of_length_le (by simp)] at this
        exact this
      · have ha := rf.right_args hr (by rw [hkind]; exact h5)
        rw [hargs] at ha
        have h0 : le11 = [] := by simpa using ha
        rw [ha, h0]
        rfl
set_option maxHeartbeats 2000000 in
theorem refs_spec {B : Nat → Prop} {n : Nat} {w : World} {ds : List DC} {vs : List Value} {X : List (List DC)} (hX : refsX n ds = X) (h : Cells B n w shExpr_ ds vs) :
    Calls Try.prog 8 #[.agg vs.toArray] w (AnsC 2 (.l 2) (.l X) w) := by
  have HW := Lib.hid (Gd.ofC h)
  obtain ⟨xe0, xe1, xe2, se3, le4, se5, se6, xe7, xe8, se9, se10, le11, Ae4, ce4, Ae11, ce11, rfl, rfl, -⟩ := open_Expr h
  clear h
  obtain ⟨E, hE⟩ : ∃ E, bE n [.i xe0, .i xe1, .i xe2, .s se3, .l le4, .s se5, .s se6, .i xe7, .i xe8, .s se9, .s se10, .l le11] = E := ⟨_, rfl⟩
  go_enter Try.func8, Try.ntmps8
  cases hr : exprB 4 E
  · go_wp2_with fail
    refine (exprRight_spec hE hr (HW.out.alloc _).now).mono ?_
    rintro _ w1 ⟨rfl, hb⟩
    have E1 := Lib.hid (below_then (below_a1 _ _) hb (Nat.le_refl _))
    have Be1 := Lib.hid ((Blk.new w _ _).step hb)
    have re1 := Be1.out.cell
    have be1 := Be1.out.lt
    have SE1 := Lib.hid ((HW.out.alloc _).below hb)
    clear hb HW
    go_wp2
    go_ret
    rw [refsX_no (by rw [hE]; exact hr)] at hX
    subst hX
    exact ⟨_, rfl, (Sack.empty (n := 1) (base := 0) (T := 34) (Nat.zero_le _)).done, below_da E1.out (Nat.le_refl _) _⟩
  go_wp2_with fail
  refine (exprRight_spec hE hr (HW.out.alloc _).now).mono ?_
  rintro _ w1 ⟨rfl, hb⟩
  have E1 := Lib.hid (below_then (below_a1 _ _) hb (Nat.le_refl _))
  have Be1 := Lib.hid ((Blk.new w _ _).step hb)
  have re1 := Be1.out.cell
  have be1 := Be1.out.lt
  have SE1 := Lib.hid ((HW.out.alloc _).below hb)
  clear hb HW
  have hr4 : exprB 4 (bE n [.i xe0, .i xe1, .i xe2, .s se3, .l le4, .s se5, .s se6, .i xe7, .i xe8, .s se9, .s se10, .l le11]) = true := by rw [hE]; exact hr
  rw [refsX_yes hr4] at hX
  have HX := Lib.hid hX
  have HL := Lib.hid (rf.gat_len 3 hr4)
  have HG := Lib.hid (rf.gat_right 3 hr4)
  clear hX hr4 hE hr
  go_wp2_with fail
  refine (refs_any n (v := .slice (some ⟨w1.heap.size, 0, none⟩) 0 0) (L := []) (base := w.heap.size) ((SE1.out).now.below (below_a1 _ _)) (Sack.empty (by (have := E1.out.size; omega))) (by (have := E1.out.size; simp; omega)) (fun a ha => by have := (small_of (HG.out a ha)).len; omega) (by (have := HL.out; simp at this ⊢; omega))).mono ?_
  rintro _ w2 ⟨v, rfl, hsk, hb'⟩
  have E2 := Lib.hid (below_then (below_da E1.out (Nat.le_refl _) _) hb' (Nat.le_refl _))
  have HS := Lib.hid hsk
  clear hsk hb'
  go_wp2
  go_ret
  exact ⟨_, rfl, HX.out ▸ HS.out.done, E2.out⟩
set_option maxHeartbeats 8000000 in
theorem refs_impl {B : Nat → Prop} {n : Nat} {w : World} {ds : List DC} {vs : List Value} {X : List (List DC)} (hX : refsX n ds = X) (h : Cells B n w shExpr_ ds vs) :
    Calls Try.prog 10 #[.agg vs.toArray] w (NewC 2 (.l 2) (.l X) w) := by
  have HW := Lib.hid (Gd.ofC h)
  have hh := h
  obtain ⟨xe0, xe1, xe2, se3, le4, se5, se6, xe7, xe8, se9, se10, le11, Ae4, ce4, Ae11, ce11, rfl, rfl, -⟩ := open_Expr h
  clear h
  obtain ⟨E, hE⟩ : ∃ E, bE n [.i xe0, .i xe1, .i xe2, .s se3, .l le4, .s se5, .s se6, .i xe7, .i xe8, .s se9, .s se10, .l le11] = E := ⟨_, rfl⟩
  go_enter Try.func10, Try.ntmps10
  cases hr : exprB 4 E
  · go_wp2_with fail
    refine (exprRight_impl hE hr (HW.out.alloc _).now).mono ?_
    rintro _ w1 ⟨rfl, hb⟩
    have E1 := Lib.hid (below_then (below_a1 _ _) hb (Nat.le_refl _))
    have Be1 := Lib.hid ((Blk.new w _ _).step hb)
    have re1 := Be1.out.cell
    have be1 := Be1.out.lt
    have SE1 := Lib.hid ((HW.out.alloc _).below hb)
    clear hb HW
    go_wp2
    go_ret
    rw [refsX_no (by rw [hE]; exact hr)] at hX
    subst hX
    exact ⟨_, rfl, (Bag.nil 1 _ _ 34 2).done, E1.out⟩
  go_wp2_with fail
  refine (exprRight_impl hE hr (HW.out.alloc _).now).mono ?_
  rintro _ w1 ⟨rfl, hb⟩
  have E1 := Lib.hid (below_then (below_a1 _ _) hb (Nat.le_refl _))
  have Be1 := Lib.hid ((Blk.new w _ _).step hb)
  have re1 := Be1.out.cell
  have be1 := Be1.out.lt
  have SE1 := Lib.hid ((HW.out.alloc _).below hb)
  clear hb HW
  have hr4 : exprB 4 (bE n [.i xe0, .i xe1, .i xe2, .s se3, .l le4, .s se5, .s se6, .i xe7, .i xe8, .s se9, .s se10, .l le11]) = true := by rw [hE]; exact hr
  rw [refsX_yes hr4] at hX
  have HX := Lib.hid hX
  have HGM := Lib.hid (gat_map n 3 hh hr4)
  obtain ⟨L, hL⟩ : ∃ L, rf.gat (bE n [.i xe0, .i xe1, .i xe2, .s se3, .l le4, .s se5, .s se6, .i xe7, .i xe8, .s se9, .s se10, .l le11]) = L := ⟨_, rfl⟩
  have HL : Hid (L.length ≤ 8) := by (have := rf.gat_len 3 hr4; rw [hL] at this; show _ ≤ _; simpa using this)
  have HG : Hid (∀ a ∈ L, addrB a = true) := fun a ha => rf.gat_right 3 hr4 a (by rw [hL]; exact ha)
  rw [hL] at HGM HX
  obtain ⟨R, hR⟩ : ∃ R, gatX n [.i xe0, .i xe1, .i xe2, .s se3, .l le4, .s se5, .s se6, .i xe7, .i xe8, .s se9, .s se10, .l le11] = R := ⟨_, rfl⟩
  rw [hR] at HGM
  have HRL : Hid (R.length = L.length) := by (show _ = _; rw [← HGM.out, List.length_map])
  have HLW := Lib.hid (Cells.lw (SE1.out).now)
  have HRB : Hid ((gatX n [.i xe0, .i xe1, .i xe2, .s se3, .l le4, .s se5, .s se6, .i xe7, .i xe8, .s se9, .s se10, .l le11]).length ≤ 100000) := by (have := HL.out; have := HRL.out; show _ ≤ _; rw [hR]; omega)
  have HR := Lib.hid hR
  clear hX hr4 hE hr hh hL hR
  go_wp2_with fail
  refine (gather_any n HLW.out (Nat.le_refl _) HRB.out).mono ?_
  rintro _ w2 ⟨v1, rfl, hs1, hb⟩
  rw [HR.out] at hs1
  have E2 := Lib.hid (below_then E1.out hb (Nat.le_refl _))
  obtain ⟨A1, c1, hv1, _⟩ := hs1.form
  subst hv1
  have HSR := Lib.hid hs1.src
  have hl2 : R.length ≤ 8 := by (have := HL.out; have := HRL.out; omega)
  have hz2 : w.heap.size + 1 ≤ w2.heap.size := Nat.le_trans (by (have := E1.out.size; have := Be1.out.lt; omega)) hb.size
  clear hs1 hb HLW HRB HR re1
  go_wp2
  go_loopw [3, 12] (fun v i wr => ∃ j : Nat, j ≤ R.length ∧ i = .int .i64 j ∧ Bag 1 wr w2.heap.size 34 2 v ((L.take j).map dA) ∧ Below w2.heap.size w2 wr) (fun _ i _ => R.length - (RowKit.intOf i).toNat)
  case atStart => exact ⟨0, Nat.zero_le _, rfl, Bag.nil _ _ _ _ _, Below.refl _ _⟩
  case round =>
    obtain ⟨j, hj, rfl, hbag, hb⟩ := hrel
    have G1 := Lib.hid hbag
    have E1 := Lib.hid hb
    have hz1 : w2.heap.size ≤ wr.heap.size := hb.size
    clear hbag hb
    by_cases hlt : j < R.length
    · obtain ⟨b, o, us, rfl, hbl, hr, hin⟩ := (HSR.out.below E1.out).at_ j hlt
      have HR := Lib.hid (show wr.rangeAt b (o + j * 12) us from hr)
      have hin' : Cells (Lw (w1).heap.size) n wr shExpr_ R[j] us := hin
      obtain ⟨xq0, xq1, xq2, sq3, lq4, sq5, sq6, xq7, xq8, sq9, sq10, lq11, Aq4, cq4, Aq11, cq11, ed, rfl, kq0, kq1, kq2, kq3, kq4, kq5, kq6, kq7, kq8, kq9, -⟩ := open_Expr hin'
      have HA := Lib.hid (Gd.ofC (show Cells _ n wr shAddr_ [.l lq4, .s sq5, .s sq6, .i xq7, .i xq8, .s sq9] [.slice Aq4 lq4.length cq4, .string sq5, .string sq6, .int .i64 xq7, .int .i64 xq8, .string sq9] from ⟨kq4, Cell.mkS kq5, Cell.mkS kq6, Cell.mkI kq7, Cell.mkI kq8, Cell.mkS kq9, trivial⟩))
      have hjL : j < L.length := by rw [← HRL.out]; exact hlt
      have hd : bA [.l lq4, .s sq5, .s sq6, .i xq7, .i xq8, .s sq9] = L[j] := by
        have e1 : (R.map refA)[j]? = L[j]? := by rw [HGM.out]
        rw [List.getElem?_map, List.getElem?_eq_getElem hlt, List.getElem?_eq_getElem hjL] at e1
        have e2 : refA R[j] = L[j] := by simpa using e1
        rw [← e2, ed]; rfl
      have hsm := small_of (HG.out L[j] (List.getElem_mem hjL))
      have HSM := Lib.hid hsm
      have HSZ : Hid (Sz L[j]) := hd ▸ sz_of HA.out.now
      have HD := Lib.hid hd
      have hjI : (j : Int) < R.length := by omega
      have HRW := Lib.hid G1.out.row
      have HTK := Lib.hid (show (L.take (j + 1)).map dA = (L.take j).map dA ++ [dA L[j]] from by rw [List.take_succ_eq_append_getElem hjL, List.map_append]; rfl)
      obtain ⟨a, ha⟩ : ∃ a, L[j] = a := ⟨_, rfl⟩
      rw [ha] at HSM HSZ HD HTK
      clear hr hin hin' ed hsm hd ha kq0 kq1 kq2 kq3 kq4 kq5 kq6 kq7 kq8 kq9
      go_wp2_with (refine wpList_load_mid rfl 37 (.tmp 14) rfl b (o + j * 12) rfl _ _ HR.out Try.underlying37 rfl (by kernel_rfl) ?_)
      go_wp2_with fail
      refine (copy_prog HD.out ((HA.out.alloc _).now) (by (have := HSM.out.len; omega)) (by (have := HSM.out.typ; omega)) (by (have := HSM.out.nam; omega)) (by (have := HSM.out.key; omega)) (fun k hk => by have := HSM.out.path k hk; omega)).mono ?_
      rintro _ w3 ⟨A', c', rfl, ho, hb⟩
      have HO := Lib.hid ho
      have HB3 := Lib.hid (below_then (below_a1 wr (.cells #[.int .i64 xq0, .int .i64 xq1, .int .i64 xq2, .string sq3, .slice Aq4 lq4.length cq4, .string sq5, .string sq6, .int .i64 xq7, .int .i64 xq8, .string sq9, .string sq10, .slice Aq11 lq11.length cq11] 37)) hb (Nat.le_refl _))
      have E3 := Lib.hid (below_then E1.out HB3.out (Nat.le_refl _))
      have hz3 : w2.heap.size ≤ w3.heap.size := Nat.le_trans hz1 HB3.out.size
      have hzb : wr.heap.size < (wr.alloc (.cells #[.int .i64 xq0, .int .i64 xq1, .int .i64 xq2, .string sq3, .slice Aq4 lq4.length cq4, .string sq5, .string sq6, .int .i64 xq7, .int .i64 xq8, .string sq9, .string sq10, .slice Aq11 lq11.length cq11] 37)).heap.size := by simp
      have HZB := Lib.hid hzb
      clear hb ho hzb
      go_wp2_with (at_builtin; refine wpList_bag1 rfl inf_addr (.tmp 16) (.tmp 20) rfl (w := wr) (w1 := w3) (base := w2.heap.size) (F2 := Rg (wr.alloc (.cells #[.int .i64 xq0, .int .i64 xq1, .int .i64 xq2, .string sq3, .slice Aq4 lq4.length cq4, .string sq5, .string sq6, .int .i64 xq7, .int .i64 xq8, .string sq9, .string sq10, .slice Aq11 lq11.length cq11] 37)).heap.size w3.heap.size) (us := [.slice A' a.path.length c', .string a.typ, .string a.nam, .int .i64 a.kind, .int .i64 a.n, .string a.key]) (ds := dA a) rfl G1.out HB3.out hz1 rfl rfl (own_addr HO.out HSZ.out) (fun x hx => ⟨by (have := hx.1; have := HZB.out; omega), hx.2⟩) (by simp; omega) ?_)
      intro v' w4 hbag' hg
      have E4 := Lib.hid (grown_below (below_da E3.out (Nat.le_refl _) _) hg (by (have := E3.out.size; simp; omega)) (fun q hq => (HRW.out q hq).1))
      have G4 : Hid (Bag 1 w4 w2.heap.size 34 2 v' ((L.take (j + 1)).map dA)) := by
        show Bag _ _ _ _ _ _ _
        rw [HTK.out, List.map_take]; exact hbag'
      clear hbag' hg
      go_wp2
      go_roundw
      case rel => exact ⟨j + 1, by omega, by go_num, G4.out, E4.out⟩
      case measure => simp [RowKit.intOf]; omega
    · obtain rfl : j = R.length := by omega
      have G2 := G1
      rw [HRL.out, List.take_length] at G2
      clear G1 hlt
      go_wp2_with fail
      refine (sortAddrs_any G2.out hz1 (by (have := HL.out; omega))).mono ?_
      rintro _ w3 ⟨v3, rfl, hb3, hbl3⟩
      have G3 := Lib.hid hb3
      have E3 := Lib.hid hbl3
      clear hb3 hbl3
      go_wp2
      go_ret
      have k1 : Below w.heap.size w wr := below_then E2.out E1.out (Nat.le_refl _)
      exact ⟨_, rfl, HX.out ▸ G3.out.done.mono (fun x hx => ⟨by have := hx.1; omega, hx.2⟩), k1.trans (E3.out.mono (by omega))⟩
end Go.Proofs.Ytgkcohclejmhkaa.cf
