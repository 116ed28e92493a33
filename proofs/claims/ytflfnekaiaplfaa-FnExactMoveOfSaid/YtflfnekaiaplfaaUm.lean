/- The laws' own helpers: data marked. -/
import Derived.Test.YtflfnekaiaplfaaUo
import Derived.Test.YtflfnekaiaplfaaUe
import Derived.Test.YtflfnekaiaplfaaDigN
import Derived.Deep.RegionHeld3
namespace Go.Proofs.Ytflfnekaiaplfaa.un
open mem
open Go.ChangeShapes Go.WideShapes Go.ChangeAt Go.RowKit Go.Lib
set_option linter.unusedVariables false
set_option maxRecDepth 8000
set_option linter.unusedSimpArgs false

theorem mark_text (k : Nat) (a : Int) (w : World) (h : (k : Int) = a) (h1 : 1 ≤ k) (h2 : k ≤ 1000000000) : Calls Try.prog 48 #[.int .i64 a] w (Told w (.string (markT k))) := by
  subst h; exact dig.mark_any k w h1 h2
theorem mark_sz (k : Nat) (h : k ≤ 1000000000) : (markT k).size ≤ maxLen := dig.mark_size k h
theorem Own.lcell {n e e' cap b o L N j : Nat} {w : World} {F : Nat → Prop} {Y : List (List DC)} {ds : List DC} {l : List (List DC)} (h : Own n w F (.l e) (.l (Y.set j ds)) (.slice (some ⟨b, o, none⟩) L cap)) (hN : (sh e).length = N) (hj : j < Y.length) (c : Nat) (hc : (sh e)[c]? = some (.l e')) (hd : ds[c]? = some (.l l)) :
    ∃ A' c', w.cell? ⟨b, o + j * N + c, none⟩ = some (.slice A' l.length c') := by
  subst hN
  obtain ⟨eL, _⟩ := h.cell.len
  rw [eL] at h
  obtain ⟨m, b', o', us, _, eA, _, _, hr, hin⟩ := h.cell.item j (by simpa using hj)
  injection eA with eA; injection eA with e1 e2 _
  subst e1 e2
  rw [set_at] at hin
  obtain ⟨hc1, hc2⟩ := List.getElem?_eq_some_iff.1 hc
  obtain ⟨hd1, hd2⟩ := List.getElem?_eq_some_iff.1 hd
  have h3 : c < us.length := by rw [hin.len.2]; exact hc1
  have := hin.at c hc1 hd1 h3
  rw [hc2, hd2] at this
  obtain ⟨xs, A', c', e3, e4, _⟩ := this.lst
  injection e3 with e3
  subst e3
  exact ⟨A', c', by rw [← e4]; exact hr c us[c] (List.getElem?_eq_getElem h3)⟩
def MkStringS (n : Nat) : Prop := ∀ (F : Nat → Prop) (xs : List (List DC)) (v : Value) (a : Int) (k : Nat) (w : World), Own n w F (.l 0) (.l xs) v → (k : Int) = a → 1 ≤ k → k + nL xs ≤ 100000000 →
    Calls Try.prog 30 #[v, .int .i64 a] w (fun e w' => ∃ z : Int, e = .returned (.int .i64 z) ∧ ((k + nL xs : Nat) : Int) = z ∧ Own n w' F (.l 0) (.l (mL k xs)) v ∧ Only F w w')
def MkAddr (n : Nat) : Prop := ∀ (F : Nat → Prop) (ds : List DC) (vs : List Value) (a : Int) (k : Nat) (w : World), Owns n w F shAddr_ ds vs → (∀ x, F x → x < w.heap.size) → (k : Int) = a → 1 ≤ k → k + nV ds ≤ 100000000 →
    Calls Try.prog 15 #[.agg vs.toArray, .int .i64 a] w (fun e w' => ∃ z : Int, e = .returned (.int .i64 z) ∧ ((k + nV ds : Nat) : Int) = z ∧ Owns n w' F shAddr_ (mV k ds) vs ∧ Only F w w')
def MkMove (n : Nat) : Prop := ∀ (F : Nat → Prop) (ds : List DC) (vs : List Value) (a : Int) (k : Nat) (w : World), Owns n w F shMove_ ds vs → (∀ x, F x → x < w.heap.size) → (k : Int) = a → 1 ≤ k → k + nV ds ≤ 100000000 →
    Calls Try.prog 14 #[.agg vs.toArray, .int .i64 a] w (fun e w' => ∃ z : Int, e = .returned (.int .i64 z) ∧ ((k + nV ds : Nat) : Int) = z ∧ Owns n w' F shMove_ (mV k ds) vs ∧ Only F w w')
def MkAddrOut (n : Nat) : Prop := ∀ (F : Nat → Prop) (ds : List DC) (vs : List Value) (a : Int) (k : Nat) (w : World), Owns n w F shAddrOut_ ds vs → (∀ x, F x → x < w.heap.size) → (k : Int) = a → 1 ≤ k → k + nV ds ≤ 100000000 →
    Calls Try.prog 16 #[.agg vs.toArray, .int .i64 a] w (fun e w' => ∃ z : Int, e = .returned (.int .i64 z) ∧ ((k + nV ds : Nat) : Int) = z ∧ Owns n w' F shAddrOut_ (mV k ds) vs ∧ Only F w w')
set_option maxHeartbeats 4000000 in
theorem mkStringS_of {n : Nat} : MkStringS n := fun F xs v a k w h ha hk1 hk => by
  obtain ⟨_, A, c, el, rfl, hl⟩ := h.cell.lst
  injection el with el
  subst el
  have H := Lib.hid h
  have HA := Lib.hid ha
  have HK := Lib.hid hk
  unfold maxLen at hl
  clear h ha hk
  go_enter Try.func30, Try.ntmps30
  go_wp2
  go_loopw [1, 5] (fun q i wr => ∃ (j m : Nat) (z : Int), j ≤ xs.length ∧ i = .int .i64 j ∧ q = .int .i64 z ∧ (m : Int) = z ∧ m = k + nL (xs.take j) ∧ Own n wr F (.l 0) (.l (mixL k j xs)) (.slice A xs.length c) ∧ Only F w wr) (fun _ i _ => xs.length - (intOf i).toNat)
  case atStart => exact ⟨0, k, a, Nat.zero_le _, rfl, rfl, HA.out, by simp [nL], by rw [mix_zero]; exact H.out, Only.refl _ _⟩
  case round =>
    obtain ⟨j, m, z, hj, rfl, rfl, hmz, hm, ho, hon⟩ := hrel
    have HZ := Lib.hid hmz
    have HM := Lib.hid hm
    have HO := Lib.hid ho
    have ON := Lib.hid hon
    have HT1 := Lib.hid (nL_le xs j)
    have hz1 : 1 ≤ z := by have := HM.out; omega
    have hz2 : z ≤ 100000000 := by have := HM.out; have := HK.out; have := HT1.out; omega
    clear hmz hm ho hon
    by_cases hlt : j < xs.length
    · have eL := mix_len k j xs hj
      have hjl : j < (mixL k j xs).length := by rw [eL]; exact hlt
      have hin0 := (Own.cell (show Own n wr F (.l 0) (.l (mixL k j xs)) (.slice A (mixL k j xs).length c) from by rw [eL]; exact HO.out)).item j hjl
      obtain ⟨m0, b, o, us, hm0, rfl, _, hbl, hr, hin⟩ := hin0
      rw [mix_at k j xs hlt hjl] at hin
      obtain ⟨d0, ds0, v0, vs0, ed, rfl, h1, h2⟩ := All3.cons hin
      obtain ⟨rfl, rfl⟩ := All3.nil h2
      obtain ⟨s0, rfl, rfl, k0⟩ := h1.str
      clear h1 h2
      obtain ⟨Y, hY⟩ : ∃ Y, Y = mixL k j xs := ⟨_, rfl⟩
      have hjY : j < Y.length := by rw [hY]; exact hjl
      have O0 := Lib.hid (show Own n wr F (.l 0) (.l (Y.set j [.s s0])) (.slice (some ⟨b, o, none⟩) xs.length c) from by
        have e0 : Y.set j [.s s0] = mixL k j xs := by rw [← ed, ← mix_at k j xs hlt hjl, hY]; exact self_set hjl
        rw [e0]; exact HO.out)
      have hn := nL_take xs j hlt
      rw [ed] at hn
      simp only [nCs, nC] at hn
      have HN := Lib.hid hn
      have HT := Lib.hid (nL_le xs (j + 1))
      have HS : Hid (m + (1) ≤ 100000000) := by (show _ ≤ _; have := HM.out; have := HK.out; have := HT.out; omega)
      have HY := Lib.hid hY
      have HED := Lib.hid ed
      have HJ := Lib.hid hjY
      have hjI : (j : Int) < xs.length := by omega
      have hj0 : (0 : Int) ≤ j := by omega
      clear hY ed hn hjY hr hin hjl eL HO hm0 k0
      go_wp2_with fail
      refine named fun W1 hW1 => ?_
      have O1 := Lib.hid (show Own n W1 F (.l 0) (.l (Y.set j [.s s0])) (.slice (some ⟨b, o, none⟩) xs.length c) from by (rw [← hW1]; exact O0.out))
      have ON1 := Lib.hid (show Only F w W1 from by (rw [← hW1]; exact ON.out))
      clear hW1 
      refine (mark_text (m) _ _ (by have := HZ.out; have := HS.out; omega) (by have := HZ.out; have := HS.out; omega) (by have := HZ.out; have := HS.out; omega)).mono ?_
      rintro _ v1 ⟨rfl, hb⟩
      have P1 := Lib.hid (O1.out.below hb)
      have PN1 := Lib.hid (ON1.out.trans (Only.of_below hb))
      clear hb O1 ON1
      obtain ⟨y0, hy0, hf0⟩ := (P1.out.thereat (N := 1) rfl HJ.out).2.2 0 (by omega)
      simp only [Nat.mul_one, Nat.add_zero] at hy0 hf0
      go_wp2
      go_roundw
      case rel =>
        refine ⟨j + 1, m + 1, _, hlt, by go_num, rfl, by have := HZ.out; have := HS.out; omega, by (have := HN.out; have := HM.out; omega), ?_, ?_⟩
        · have e9 : mixL k (j + 1) xs = Y.set j [.s (markT (m))] := by
            rw [← mix_set k j xs hlt, HED.out, HY.out, ← HM.out]
            simp only [mCs, mC, nC]
          rw [e9]
          simpa only [Nat.mul_one, Nat.add_zero, List.set_cons_zero] using (Own.putat P1.out (N := 1) rfl HJ.out 0 .s rfl (fun _ h => by cases h) (.s (markT (m))) _ (Own.mkS (mark_sz _ (by have := HZ.out; have := HS.out; omega))))
        · exact (Only.setCell PN1.out (p := ⟨b, _, none⟩) (show F b from (O0.out.thereat (N := 1) rfl HJ.out).1) _)
      case measure => simp [intOf]; omega
    · obtain rfl : j = xs.length := by omega
      have e9 := mix_all k xs
      have HE9 := Lib.hid e9
      clear e9
      go_wp2
      go_ret
      exact ⟨z, rfl, by (have := HZ.out; have h8 := HM.out; rw [List.take_length] at h8; omega), by (have := HO.out; rw [HE9.out] at this; exact this), ON.out⟩
theorem mkStringS_all (n : Nat) : MkStringS n := mkStringS_of
set_option maxHeartbeats 4000000 in
theorem mkAddr_of {n : Nat} (KStringS : MkStringS n) : MkAddr n := fun F ds vs a k w h hF ha hk1 hk => by
  obtain ⟨l0, s1, s2, x3, x4, s5, A0, c0, rfl, rfl, _, _, _, _, _, _⟩ := open_Addr h.cells
  have H := Lib.hid h
  have HF := Lib.hid hF
  have HA := Lib.hid ha
  simp only [nV] at hk
  have HK := Lib.hid hk
  have hz1 : 1 ≤ a := by omega
  have hz2 : a ≤ 100000000 := by omega
  have HKStringS := Lib.hid KStringS
  clear h hF ha hk KStringS
  go_enter Try.func15, Try.ntmps15
  go_wp2_with fail
  refine named fun W1 hW1 => ?_
  have O1 := Lib.hid (show Owns n W1 F shAddr_ [.l l0, .s s1, .s s2, .i x3, .i x4, .s s5] [.slice A0 l0.length c0, .string s1, .string s2, .int .i64 x3, .int .i64 x4, .string s5] from by (rw [← hW1]; exact H.out.below (below_a1 _ _)))
  have E1 := Lib.hid (show Only F w W1 from by (rw [← hW1]; exact Only.of_below (below_a1 _ _)))
  have B1 := Lib.hid (show Blk W1 w.heap.size 29 #[.slice A0 l0.length c0, .string s1, .string s2, .int .i64 x3, .int .i64 x4, .string s5] from by (rw [← hW1]; exact Blk.new _ _ _))
  obtain ⟨F1, hF1, hs1, hcl1⟩ := Owns.part (ks1 := []) (ks2 := [.l 0]) (ks3 := [.s, .s, .i, .i, .s]) (ds1 := []) (ds2 := [.l l0]) (ds3 := [.s s1, .s s2, .i x3, .i x4, .s s5]) (vs1 := []) (vs2 := [.slice A0 l0.length c0]) (vs3 := [.string s1, .string s2, .int .i64 x3, .int .i64 x4, .string s5]) O1.out rfl rfl rfl rfl
  have HCL1 := Lib.hid hcl1
  have HSS1 := Lib.hid hs1
  have HG1 := Lib.hid hF1
  clear hW1 hcl1 hs1 hF1
  refine (HKStringS.out F1 l0 _ _ (k) _ (Owns.to1 HSS1.out) (by have := HA.out; have := HK.out; omega) (by have := HA.out; have := HK.out; omega) (by have := HA.out; have := HK.out; omega)).mono ?_
  rintro _ v1 ⟨z1, rfl, hz1, ho, hon⟩
  have P1 := Lib.hid (HCL1.out v1 _ hon (Owns.of1 ho))
  have PN1 := Lib.hid (E1.out.trans (hon.mono HG1.out))
  have C1 : Hid (Blk v1 w.heap.size 29 #[.slice A0 l0.length c0, .string s1, .string s2, .int .i64 x3, .int .i64 x4, .string s5]) := by (show Blk _ _ _ _; unfold Blk; rw [hon.block _ B1.out.lt (fun hx => by (have := HF.out _ (HG1.out _ hx); omega))]; exact B1.out)
  have cq1 := C1.out.cell
  have HZ1 := Lib.hid hz1
  have hz1a : 1 ≤ z1 := by (have := HA.out; have := HK.out; omega)
  have hz1b : z1 ≤ 100000000 := by (have := HA.out; have := HK.out; omega)
  clear ho hon hz1 O1 E1 B1 HCL1 HSS1 HG1
  go_wp2
  go_ret
  exact ⟨z1, rfl, by (simp only [nV]; have := HA.out; have := HZ1.out; have := HK.out; omega), by (simp only [mV]; exact P1.out), PN1.out⟩
theorem mkAddr_all (n : Nat) : MkAddr n := mkAddr_of (mkStringS_all n)
set_option maxHeartbeats 4000000 in
theorem mkMove_of {n : Nat} (KAddr : MkAddr n) : MkMove n := fun F ds vs a k w h hF ha hk1 hk => by
  obtain ⟨x0, l1, s2, s3, x4, x5, s6, l7, s8, s9, x10, x11, s12, A1, c1, A7, c7, rfl, rfl, _, _, _, _, _, _, _, _, _, _, _, _, _⟩ := open_Move h.cells
  have H := Lib.hid h
  have HF := Lib.hid hF
  have HA := Lib.hid ha
  simp only [nV] at hk
  have HK := Lib.hid hk
  have hz1 : 1 ≤ a := by omega
  have hz2 : a ≤ 100000000 := by omega
  have HKAddr := Lib.hid KAddr
  clear h hF ha hk KAddr
  go_enter Try.func14, Try.ntmps14
  go_wp2_with fail
  refine named fun W1 hW1 => ?_
  have O1 := Lib.hid (show Owns n W1 F shMove_ [.i x0, .l l1, .s s2, .s s3, .i x4, .i x5, .s s6, .l l7, .s s8, .s s9, .i x10, .i x11, .s s12] [.int .i64 x0, .slice A1 l1.length c1, .string s2, .string s3, .int .i64 x4, .int .i64 x5, .string s6, .slice A7 l7.length c7, .string s8, .string s9, .int .i64 x10, .int .i64 x11, .string s12] from by (rw [← hW1]; exact H.out.below (below_a1 _ _)))
  have E1 := Lib.hid (show Only F w W1 from by (rw [← hW1]; exact Only.of_below (below_a1 _ _)))
  have B1 := Lib.hid (show Blk W1 w.heap.size 34 #[.int .i64 x0, .slice A1 l1.length c1, .string s2, .string s3, .int .i64 x4, .int .i64 x5, .string s6, .slice A7 l7.length c7, .string s8, .string s9, .int .i64 x10, .int .i64 x11, .string s12] from by (rw [← hW1]; exact Blk.new _ _ _))
  obtain ⟨F1, hF1, hs1, hcl1⟩ := Owns.part (ks1 := [.i]) (ks2 := [.l 0, .s, .s, .i, .i, .s]) (ks3 := [.l 0, .s, .s, .i, .i, .s]) (ds1 := [.i x0]) (ds2 := [.l l1, .s s2, .s s3, .i x4, .i x5, .s s6]) (ds3 := [.l l7, .s s8, .s s9, .i x10, .i x11, .s s12]) (vs1 := [.int .i64 x0]) (vs2 := [.slice A1 l1.length c1, .string s2, .string s3, .int .i64 x4, .int .i64 x5, .string s6]) (vs3 := [.slice A7 l7.length c7, .string s8, .string s9, .int .i64 x10, .int .i64 x11, .string s12]) O1.out rfl rfl rfl rfl
  have HCL1 := Lib.hid hcl1
  have HSS1 := Lib.hid hs1
  have HG1 := Lib.hid hF1
  clear hW1 hcl1 hs1 hF1
  refine (HKAddr.out F1 [.l l1, .s s2, .s s3, .i x4, .i x5, .s s6] [.slice A1 l1.length c1, .string s2, .string s3, .int .i64 x4, .int .i64 x5, .string s6] _ (k) _ HSS1.out (fun x hx => Nat.lt_of_lt_of_le (HF.out x (HG1.out x hx)) E1.out.size) (by have := HA.out; have := HK.out; omega) (by have := HA.out; have := HK.out; omega) (by (try simp only [nV]); have := HA.out; have := HK.out; omega)).mono ?_
  rintro _ v1 ⟨z1, rfl, hz1, ho, hon⟩
  simp only [nV, mV] at hz1 ho
  have P1 := Lib.hid (HCL1.out v1 _ hon ho)
  have PN1 := Lib.hid (E1.out.trans (hon.mono HG1.out))
  have C1 : Hid (Blk v1 w.heap.size 34 #[.int .i64 x0, .slice A1 l1.length c1, .string s2, .string s3, .int .i64 x4, .int .i64 x5, .string s6, .slice A7 l7.length c7, .string s8, .string s9, .int .i64 x10, .int .i64 x11, .string s12]) := by (show Blk _ _ _ _; unfold Blk; rw [hon.block _ B1.out.lt (fun hx => by (have := HF.out _ (HG1.out _ hx); omega))]; exact B1.out)
  have cq1 := C1.out.cell
  have HZ1 := Lib.hid hz1
  have hz1a : 1 ≤ z1 := by (have := HA.out; have := HK.out; omega)
  have hz1b : z1 ≤ 100000000 := by (have := HA.out; have := HK.out; omega)
  clear ho hon hz1 O1 E1 B1 HCL1 HSS1 HG1
  go_wp2_with fail
  refine named fun W2 hW2 => ?_
  have O2 := Lib.hid (show Owns n W2 F shMove_ [.i x0, .l (mL (k) l1), .s s2, .s s3, .i x4, .i x5, .s s6, .l l7, .s s8, .s s9, .i x10, .i x11, .s s12] [.int .i64 x0, .slice A1 l1.length c1, .string s2, .string s3, .int .i64 x4, .int .i64 x5, .string s6, .slice A7 l7.length c7, .string s8, .string s9, .int .i64 x10, .int .i64 x11, .string s12] from by (rw [← hW2]; exact P1.out))
  have E2 := Lib.hid (show Only F w W2 from by (rw [← hW2]; exact PN1.out))
  have B2 := Lib.hid (show Blk W2 w.heap.size 34 #[.int .i64 x0, .slice A1 l1.length c1, .string s2, .string s3, .int .i64 x4, .int .i64 x5, .string s6, .slice A7 l7.length c7, .string s8, .string s9, .int .i64 x10, .int .i64 x11, .string s12] from by (rw [← hW2]; exact C1.out))
  obtain ⟨F2, hF2, hs2, hcl2⟩ := Owns.part (ks1 := [.i, .l 0, .s, .s, .i, .i, .s]) (ks2 := [.l 0, .s, .s, .i, .i, .s]) (ks3 := []) (ds1 := [.i x0, .l (mL (k) l1), .s s2, .s s3, .i x4, .i x5, .s s6]) (ds2 := [.l l7, .s s8, .s s9, .i x10, .i x11, .s s12]) (ds3 := []) (vs1 := [.int .i64 x0, .slice A1 l1.length c1, .string s2, .string s3, .int .i64 x4, .int .i64 x5, .string s6]) (vs2 := [.slice A7 l7.length c7, .string s8, .string s9, .int .i64 x10, .int .i64 x11, .string s12]) (vs3 := []) O2.out rfl rfl rfl rfl
  have HCL2 := Lib.hid hcl2
  have HSS2 := Lib.hid hs2
  have HG2 := Lib.hid hF2
  clear hW2 hcl2 hs2 hF2 cq1 C1
  refine (HKAddr.out F2 [.l l7, .s s8, .s s9, .i x10, .i x11, .s s12] [.slice A7 l7.length c7, .string s8, .string s9, .int .i64 x10, .int .i64 x11, .string s12] _ (k + nL l1) _ HSS2.out (fun x hx => Nat.lt_of_lt_of_le (HF.out x (HG2.out x hx)) E2.out.size) (by have := HA.out; have := HZ1.out; have := HK.out; omega) (by have := HA.out; have := HZ1.out; have := HK.out; omega) (by (try simp only [nV]); have := HA.out; have := HZ1.out; have := HK.out; omega)).mono ?_
  rintro _ v2 ⟨z2, rfl, hz2, ho, hon⟩
  simp only [nV, mV] at hz2 ho
  have P2 := Lib.hid (HCL2.out v2 _ hon ho)
  have PN2 := Lib.hid (E2.out.trans (hon.mono HG2.out))
  have C2 : Hid (Blk v2 w.heap.size 34 #[.int .i64 x0, .slice A1 l1.length c1, .string s2, .string s3, .int .i64 x4, .int .i64 x5, .string s6, .slice A7 l7.length c7, .string s8, .string s9, .int .i64 x10, .int .i64 x11, .string s12]) := by (show Blk _ _ _ _; unfold Blk; rw [hon.block _ B2.out.lt (fun hx => by (have := HF.out _ (HG2.out _ hx); omega))]; exact B2.out)
  have cq2 := C2.out.cell
  have HZ2 := Lib.hid hz2
  have hz2a : 1 ≤ z2 := by (have := HA.out; have := HZ1.out; have := HK.out; omega)
  have hz2b : z2 ≤ 100000000 := by (have := HA.out; have := HZ1.out; have := HK.out; omega)
  clear ho hon hz2 O2 E2 B2 HCL2 HSS2 HG2
  go_wp2
  go_ret
  exact ⟨z2, rfl, by (simp only [nV]; have := HA.out; have := HZ1.out; have := HZ2.out; have := HK.out; omega), by (simp only [mV]; exact P2.out), PN2.out⟩
theorem mkMove_all (n : Nat) : MkMove n := mkMove_of (mkAddr_all n)
set_option maxHeartbeats 4000000 in
theorem mkAddrOut_of {n : Nat} (KAddr : MkAddr n) : MkAddrOut n := fun F ds vs a k w h hF ha hk1 hk => by
  obtain ⟨l0, s1, s2, x3, x4, s5, x6, A0, c0, rfl, rfl, _, _, _, _, _, _, _⟩ := open_AddrOut h.cells
  have H := Lib.hid h
  have HF := Lib.hid hF
  have HA := Lib.hid ha
  simp only [nV] at hk
  have HK := Lib.hid hk
  have hz1 : 1 ≤ a := by omega
  have hz2 : a ≤ 100000000 := by omega
  have HKAddr := Lib.hid KAddr
  clear h hF ha hk KAddr
  go_enter Try.func16, Try.ntmps16
  go_wp2_with fail
  refine named fun W1 hW1 => ?_
  have O1 := Lib.hid (show Owns n W1 F shAddrOut_ [.l l0, .s s1, .s s2, .i x3, .i x4, .s s5, .i x6] [.slice A0 l0.length c0, .string s1, .string s2, .int .i64 x3, .int .i64 x4, .string s5, .int .i64 x6] from by (rw [← hW1]; exact H.out.below (below_a1 _ _)))
  have E1 := Lib.hid (show Only F w W1 from by (rw [← hW1]; exact Only.of_below (below_a1 _ _)))
  have B1 := Lib.hid (show Blk W1 w.heap.size 31 #[.slice A0 l0.length c0, .string s1, .string s2, .int .i64 x3, .int .i64 x4, .string s5, .int .i64 x6] from by (rw [← hW1]; exact Blk.new _ _ _))
  obtain ⟨F1, hF1, hs1, hcl1⟩ := Owns.part (ks1 := []) (ks2 := [.l 0, .s, .s, .i, .i, .s]) (ks3 := [.i]) (ds1 := []) (ds2 := [.l l0, .s s1, .s s2, .i x3, .i x4, .s s5]) (ds3 := [.i x6]) (vs1 := []) (vs2 := [.slice A0 l0.length c0, .string s1, .string s2, .int .i64 x3, .int .i64 x4, .string s5]) (vs3 := [.int .i64 x6]) O1.out rfl rfl rfl rfl
  have HCL1 := Lib.hid hcl1
  have HSS1 := Lib.hid hs1
  have HG1 := Lib.hid hF1
  clear hW1 hcl1 hs1 hF1
  refine (HKAddr.out F1 [.l l0, .s s1, .s s2, .i x3, .i x4, .s s5] [.slice A0 l0.length c0, .string s1, .string s2, .int .i64 x3, .int .i64 x4, .string s5] _ (k) _ HSS1.out (fun x hx => Nat.lt_of_lt_of_le (HF.out x (HG1.out x hx)) E1.out.size) (by have := HA.out; have := HK.out; omega) (by have := HA.out; have := HK.out; omega) (by (try simp only [nV]); have := HA.out; have := HK.out; omega)).mono ?_
  rintro _ v1 ⟨z1, rfl, hz1, ho, hon⟩
  simp only [nV, mV] at hz1 ho
  have P1 := Lib.hid (HCL1.out v1 _ hon ho)
  have PN1 := Lib.hid (E1.out.trans (hon.mono HG1.out))
  have C1 : Hid (Blk v1 w.heap.size 31 #[.slice A0 l0.length c0, .string s1, .string s2, .int .i64 x3, .int .i64 x4, .string s5, .int .i64 x6]) := by (show Blk _ _ _ _; unfold Blk; rw [hon.block _ B1.out.lt (fun hx => by (have := HF.out _ (HG1.out _ hx); omega))]; exact B1.out)
  have cq1 := C1.out.cell
  have HZ1 := Lib.hid hz1
  have hz1a : 1 ≤ z1 := by (have := HA.out; have := HK.out; omega)
  have hz1b : z1 ≤ 100000000 := by (have := HA.out; have := HK.out; omega)
  clear ho hon hz1 O1 E1 B1 HCL1 HSS1 HG1
  go_wp2
  go_ret
  exact ⟨z1, rfl, by (simp only [nV]; have := HA.out; have := HZ1.out; have := HK.out; omega), by (simp only [mV]; exact P1.out), PN1.out⟩
theorem mkAddrOut_all (n : Nat) : MkAddrOut n := mkAddrOut_of (mkAddr_all n)
end Go.Proofs.Ytflfnekaiaplfaa.un
