/- The laws' own helpers: data marked. -/
import Derived.Test.YtflfnekaiaplfaaGreatUo
import Derived.Test.YtflfnekaiaplfaaGreatUe
import Derived.Test.YtflfnekaiaplfaaGreatDigN
import Derived.Deep.RegionHeld3
namespace Go.Proofs.YtflfnekaiaplfaaGreat.un
open mem
open Go.ChangeShapes Go.WideShapes Go.ChangeAt Go.RowKit Go.Lib
set_option linter.unusedVariables false
set_option maxRecDepth 8000
set_option linter.unusedSimpArgs false

theorem mark_text (k : Nat) (a : Int) (w : World) (h : (k : Int) = a) (h1 : 1 ≤ k) (h2 : k ≤ 1000000000) : Calls Tryz.prog 37 #[.int .i64 a] w (Told w (.string (markT k))) := by
  subst h; exact dig.mark_any k w h1 h2
theorem mark_sz (k : Nat) (h : k ≤ 1000000000) : (markT k).size ≤ maxLen := dig.mark_size k h
theorem Own.lcell {n e e' cap b o L N j : Nat} {w : World} {F : Nat → Prop} {Y : List (List DC)} {ds : List DC} {l : List (List DC)} (h : Own n w F (.l e) (.l (Y.set j ds)) (.slice (some ⟨b, o, none⟩) L cap)) (hN : (sh e).length = N) (hj : j < Y.length) (c : Nat) (hc : (sh e)[c]? = some (.l e')) (hd : ds[c]? = some (.l l)) :
    ∃ A' c', w.cell? ⟨b, o + j * N + c, none⟩ = some (.slice A' l.length c') := by
  subst hN
  obtain ⟨eL, _⟩ := h.cell.len
  rw [eL] at h
  obtain ⟨m, b', o', us, _, eA, _, _, hr, hin⟩ := h.cell.item j (by simpa using hj)
  injection eA with eA; injection eA with e1 e2 _
  subst e1 e2
  rw [set_at] at hin
  obtain ⟨hc1, hc2⟩ := List.getElem?_eq_some_iff.1 hc
  obtain ⟨hd1, hd2⟩ := List.getElem?_eq_some_iff.1 hd
  have h3 : c < us.length := by rw [hin.len.2]; exact hc1
  have := hin.at c hc1 hd1 h3
  rw [hc2, hd2] at this
  obtain ⟨xs, A', c', e3, e4, _⟩ := this.lst
  injection e3 with e3
  subst e3
  exact ⟨A', c', by rw [← e4]; exact hr c us[c] (List.getElem?_eq_getElem h3)⟩
def MkStringS (n : Nat) : Prop := ∀ (F : Nat → Prop) (xs : List (List DC)) (v : Value) (a : Int) (k : Nat) (w : World), Own n w F (.l 0) (.l xs) v → (k : Int) = a → 1 ≤ k → k + nL xs ≤ 100000000 →
    Calls Tryz.prog 36 #[v, .int .i64 a] w (fun e w' => ∃ z : Int, e = .returned (.int .i64 z) ∧ ((k + nL xs : Nat) : Int) = z ∧ Own n w' F (.l 0) (.l (mL k xs)) v ∧ Only F w w')
def MkAddr (n : Nat) : Prop := ∀ (F : Nat → Prop) (ds : List DC) (vs : List Value) (a : Int) (k : Nat) (w : World), Owns n w F shAddr_ ds vs → (∀ x, F x → x < w.heap.size) → (k : Int) = a → 1 ≤ k → k + nV ds ≤ 100000000 →
    Calls Tryz.prog 40 #[.agg vs.toArray, .int .i64 a] w (fun e w' => ∃ z : Int, e = .returned (.int .i64 z) ∧ ((k + nV ds : Nat) : Int) = z ∧ Owns n w' F shAddr_ (mV k ds) vs ∧ Only F w w')
def MkAddrS (n : Nat) : Prop := ∀ (F : Nat → Prop) (xs : List (List DC)) (v : Value) (a : Int) (k : Nat) (w : World), Own n w F (.l 2) (.l xs) v → (k : Int) = a → 1 ≤ k → k + nL xs ≤ 100000000 →
    Calls Tryz.prog 39 #[v, .int .i64 a] w (fun e w' => ∃ z : Int, e = .returned (.int .i64 z) ∧ ((k + nL xs : Nat) : Int) = z ∧ Own n w' F (.l 2) (.l (mL k xs)) v ∧ Only F w w')
def MkPairS (n : Nat) : Prop := ∀ (F : Nat → Prop) (xs : List (List DC)) (v : Value) (a : Int) (k : Nat) (w : World), Own n w F (.l 7) (.l xs) v → (k : Int) = a → 1 ≤ k → k + nL xs ≤ 100000000 →
    Calls Tryz.prog 38 #[v, .int .i64 a] w (fun e w' => ∃ z : Int, e = .returned (.int .i64 z) ∧ ((k + nL xs : Nat) : Int) = z ∧ Own n w' F (.l 7) (.l (mL k xs)) v ∧ Only F w w')
def MkThing (n : Nat) : Prop := ∀ (F : Nat → Prop) (ds : List DC) (vs : List Value) (a : Int) (k : Nat) (w : World), Owns n w F shThing_ ds vs → (∀ x, F x → x < w.heap.size) → (k : Int) = a → 1 ≤ k → k + nV ds ≤ 100000000 →
    Calls Tryz.prog 14 #[.agg vs.toArray, .int .i64 a] w (fun e w' => ∃ z : Int, e = .returned (.int .i64 z) ∧ ((k + nV ds : Nat) : Int) = z ∧ Owns n w' F shThing_ (mV k ds) vs ∧ Only F w w')
def MkThingS (n : Nat) : Prop := ∀ (F : Nat → Prop) (xs : List (List DC)) (v : Value) (a : Int) (k : Nat) (w : World), Own n w F (.l 8) (.l xs) v → (k : Int) = a → 1 ≤ k → k + nL xs ≤ 100000000 →
    Calls Tryz.prog 13 #[v, .int .i64 a] w (fun e w' => ∃ z : Int, e = .returned (.int .i64 z) ∧ ((k + nL xs : Nat) : Int) = z ∧ Own n w' F (.l 8) (.l (mL k xs)) v ∧ Only F w w')
def MkBookOut (n : Nat) : Prop := ∀ (F : Nat → Prop) (ds : List DC) (vs : List Value) (a : Int) (k : Nat) (w : World), Owns n w F shBookOut_ ds vs → (∀ x, F x → x < w.heap.size) → (k : Int) = a → 1 ≤ k → k + nV ds ≤ 100000000 →
    Calls Tryz.prog 15 #[.agg vs.toArray, .int .i64 a] w (fun e w' => ∃ z : Int, e = .returned (.int .i64 z) ∧ ((k + nV ds : Nat) : Int) = z ∧ Owns n w' F shBookOut_ (mV k ds) vs ∧ Only F w w')
set_option maxHeartbeats 4000000 in
theorem mkStringS_of {n : Nat} : MkStringS n := fun F xs v a k w h ha hk1 hk => by
  obtain ⟨_, A, c, el, rfl, hl⟩ := h.cell.lst
  injection el with el
  subst el
  have H := Lib.hid h
  have HA := Lib.hid ha
  have HK := Lib.hid hk
  unfold maxLen at hl
  clear h ha hk
  go_enter Tryz.func36, Tryz.ntmps36
  go_wp2
  go_loopw [1, 5] (fun q i wr => ∃ (j m : Nat) (z : Int), j ≤ xs.length ∧ i = .int .i64 j ∧ q = .int .i64 z ∧ (m : Int) = z ∧ m = k + nL (xs.take j) ∧ Own n wr F (.l 0) (.l (mixL k j xs)) (.slice A xs.length c) ∧ Only F w wr) (fun _ i _ => xs.length - (intOf i).toNat)
  case atStart => exact ⟨0, k, a, Nat.zero_le _, rfl, rfl, HA.out, by simp [nL], by rw [mix_zero]; exact H.out, Only.refl _ _⟩
  case round =>
    obtain ⟨j, m, z, hj, rfl, rfl, hmz, hm, ho, hon⟩ := hrel
    have HZ := Lib.hid hmz
    have HM := Lib.hid hm
    have HO := Lib.hid ho
    have ON := Lib.hid hon
    have HT1 := Lib.hid (nL_le xs j)
    have hz1 : 1 ≤ z := by have := HM.out; omega
    have hz2 : z ≤ 100000000 := by have := HM.out; have := HK.out; have := HT1.out; omega
    clear hmz hm ho hon
    by_cases hlt : j < xs.length
    · have eL := mix_len k j xs hj
      have hjl : j < (mixL k j xs).length := by rw [eL]; exact hlt
      have hin0 := (Own.cell (show Own n wr F (.l 0) (.l (mixL k j xs)) (.slice A (mixL k j xs).length c) from by rw [eL]; exact HO.out)).item j hjl
      obtain ⟨m0, b, o, us, hm0, rfl, _, hbl, hr, hin⟩ := hin0
      rw [mix_at k j xs hlt hjl] at hin
      obtain ⟨d0, ds0, v0, vs0, ed, rfl, h1, h2⟩ := All3.cons hin
      obtain ⟨rfl, rfl⟩ := All3.nil h2
      obtain ⟨s0, rfl, rfl, k0⟩ := h1.str
      clear h1 h2
      obtain ⟨Y, hY⟩ : ∃ Y, Y = mixL k j xs := ⟨_, rfl⟩
      have hjY : j < Y.length := by rw [hY]; exact hjl
      have O0 := Lib.hid (show Own n wr F (.l 0) (.l (Y.set j [.s s0])) (.slice (some ⟨b, o, none⟩) xs.length c) from by
        have e0 : Y.set j [.s s0] = mixL k j xs := by rw [← ed, ← mix_at k j xs hlt hjl, hY]; exact self_set hjl
        rw [e0]; exact HO.out)
      have hn := nL_take xs j hlt
      rw [ed] at hn
      simp only [nCs, nC] at hn
      have HN := Lib.hid hn
      have HT := Lib.hid (nL_le xs (j + 1))
      have HS : Hid (m + (1) ≤ 100000000) := by (show _ ≤ _; have := HM.out; have := HK.out; have := HT.out; omega)
      have HY := Lib.hid hY
      have HED := Lib.hid ed
      have HJ := Lib.hid hjY
      have hjI : (j : Int) < xs.length := by omega
      have hj0 : (0 : Int) ≤ j := by omega
      clear hY ed hn hjY hr hin hjl eL HO hm0 k0
      go_wp2_with fail
      refine named fun W1 hW1 => ?_
      have O1 := Lib.hid (show Own n W1 F (.l 0) (.l (Y.set j [.s s0])) (.slice (some ⟨b, o, none⟩) xs.length c) from by (rw [← hW1]; exact O0.out))
      have ON1 := Lib.hid (show Only F w W1 from by (rw [← hW1]; exact ON.out))
      clear hW1 
      refine (mark_text (m) _ _ (by have := HZ.out; have := HS.out; omega) (by have := HZ.out; have := HS.out; omega) (by have := HZ.out; have := HS.out; omega)).mono ?_
      rintro _ v1 ⟨rfl, hb⟩
      have P1 := Lib.hid (O1.out.below hb)
      have PN1 := Lib.hid (ON1.out.trans (Only.of_below hb))
      clear hb O1 ON1
      obtain ⟨y0, hy0, hf0⟩ := (P1.out.thereat (N := 1) rfl HJ.out).2.2 0 (by omega)
      simp only [Nat.mul_one, Nat.add_zero] at hy0 hf0
      go_wp2
      go_roundw
      case rel =>
        refine ⟨j + 1, m + 1, _, hlt, by go_num, rfl, by have := HZ.out; have := HS.out; omega, by (have := HN.out; have := HM.out; omega), ?_, ?_⟩
        · have e9 : mixL k (j + 1) xs = Y.set j [.s (markT (m))] := by
            rw [← mix_set k j xs hlt, HED.out, HY.out, ← HM.out]
            simp only [mCs, mC, nC]
          rw [e9]
          simpa only [Nat.mul_one, Nat.add_zero, List.set_cons_zero] using (Own.putat P1.out (N := 1) rfl HJ.out 0 .s rfl (fun _ h => by cases h) (.s (markT (m))) _ (Own.mkS (mark_sz _ (by have := HZ.out; have := HS.out; omega))))
        · exact (Only.setCell PN1.out (p := ⟨b, _, none⟩) (show F b from (O0.out.thereat (N := 1) rfl HJ.out).1) _)
      case measure => simp [intOf]; omega
    · obtain rfl : j = xs.length := by omega
      have e9 := mix_all k xs
      have HE9 := Lib.hid e9
      clear e9
      go_wp2
      go_ret
      exact ⟨z, rfl, by (have := HZ.out; have h8 := HM.out; rw [List.take_length] at h8; omega), by (have := HO.out; rw [HE9.out] at this; exact this), ON.out⟩
theorem mkStringS_all (n : Nat) : MkStringS n := mkStringS_of
set_option maxHeartbeats 4000000 in
theorem mkAddr_of {n : Nat} (KStringS : MkStringS n) : MkAddr n := fun F ds vs a k w h hF ha hk1 hk => by
  obtain ⟨l0, s1, s2, x3, x4, s5, A0, c0, rfl, rfl, _, _, _, _, _, _⟩ := open_Addr h.cells
  have H := Lib.hid h
  have HF := Lib.hid hF
  have HA := Lib.hid ha
  simp only [nV] at hk
  have HK := Lib.hid hk
  have hz1 : 1 ≤ a := by omega
  have hz2 : a ≤ 100000000 := by omega
  have HKStringS := Lib.hid KStringS
  clear h hF ha hk KStringS
  go_enter Tryz.func40, Tryz.ntmps40
  go_wp2_with fail
  refine named fun W1 hW1 => ?_
  have O1 := Lib.hid (show Owns n W1 F shAddr_ [.l l0, .s s1, .s s2, .i x3, .i x4, .s s5] [.slice A0 l0.length c0, .string s1, .string s2, .int .i64 x3, .int .i64 x4, .string s5] from by (rw [← hW1]; exact H.out.below (below_a1 _ _)))
  have E1 := Lib.hid (show Only F w W1 from by (rw [← hW1]; exact Only.of_below (below_a1 _ _)))
  have B1 := Lib.hid (show Blk W1 w.heap.size 37 #[.slice A0 l0.length c0, .string s1, .string s2, .int .i64 x3, .int .i64 x4, .string s5] from by (rw [← hW1]; exact Blk.new _ _ _))
  obtain ⟨F1, hF1, hs1, hcl1⟩ := Owns.part (ks1 := []) (ks2 := [.l 0]) (ks3 := [.s, .s, .i, .i, .s]) (ds1 := []) (ds2 := [.l l0]) (ds3 := [.s s1, .s s2, .i x3, .i x4, .s s5]) (vs1 := []) (vs2 := [.slice A0 l0.length c0]) (vs3 := [.string s1, .string s2, .int .i64 x3, .int .i64 x4, .string s5]) O1.out rfl rfl rfl rfl
  have HCL1 := Lib.hid hcl1
  have HSS1 := Lib.hid hs1
  have HG1 := Lib.hid hF1
  clear hW1 hcl1 hs1 hF1
  refine (HKStringS.out F1 l0 _ _ (k) _ (Owns.to1 HSS1.out) (by have := HA.out; have := HK.out; omega) (by have := HA.out; have := HK.out; omega) (by have := HA.out; have := HK.out; omega)).mono ?_
  rintro _ v1 ⟨z1, rfl, hz1, ho, hon⟩
  have P1 := Lib.hid (HCL1.out v1 _ hon (Owns.of1 ho))
  have PN1 := Lib.hid (E1.out.trans (hon.mono HG1.out))
  have C1 : Hid (Blk v1 w.heap.size 37 #[.slice A0 l0.length c0, .string s1, .string s2, .int .i64 x3, .int .i64 x4, .string s5]) := by (show Blk _ _ _ _; unfold Blk; rw [hon.block _ B1.out.lt (fun hx => by (have := HF.out _ (HG1.out _ hx); omega))]; exact B1.out)
  have cq1 := C1.out.cell
  have HZ1 := Lib.hid hz1
  have hz1a : 1 ≤ z1 := by (have := HA.out; have := HK.out; omega)
  have hz1b : z1 ≤ 100000000 := by (have := HA.out; have := HK.out; omega)
  clear ho hon hz1 O1 E1 B1 HCL1 HSS1 HG1
  go_wp2
  go_ret
  exact ⟨z1, rfl, by (simp only [nV]; have := HA.out; have := HZ1.out; have := HK.out; omega), by (simp only [mV]; exact P1.out), PN1.out⟩
theorem mkAddr_all (n : Nat) : MkAddr n := mkAddr_of (mkStringS_all n)
set_option maxHeartbeats 4000000 in
theorem mkAddrS_of {n : Nat} (KStringS : ∀ m, m < n → MkStringS m) : MkAddrS n := fun F xs v a k w h ha hk1 hk => by
  obtain ⟨_, A, c, el, rfl, hl⟩ := h.cell.lst
  injection el with el
  subst el
  have H := Lib.hid h
  have HA := Lib.hid ha
  have HK := Lib.hid hk
  unfold maxLen at hl
  have HKStringS := Lib.hid KStringS
  clear h ha hk KStringS
  go_enter Tryz.func39, Tryz.ntmps39
  go_wp2
  go_loopw [1, 5] (fun q i wr => ∃ (j m : Nat) (z : Int), j ≤ xs.length ∧ i = .int .i64 j ∧ q = .int .i64 z ∧ (m : Int) = z ∧ m = k + nL (xs.take j) ∧ Own n wr F (.l 2) (.l (mixL k j xs)) (.slice A xs.length c) ∧ Only F w wr) (fun _ i _ => xs.length - (intOf i).toNat)
  case atStart => exact ⟨0, k, a, Nat.zero_le _, rfl, rfl, HA.out, by simp [nL], by rw [mix_zero]; exact H.out, Only.refl _ _⟩
  case round =>
    obtain ⟨j, m, z, hj, rfl, rfl, hmz, hm, ho, hon⟩ := hrel
    have HZ := Lib.hid hmz
    have HM := Lib.hid hm
    have HO := Lib.hid ho
    have ON := Lib.hid hon
    have HT1 := Lib.hid (nL_le xs j)
    have hz1 : 1 ≤ z := by have := HM.out; omega
    have hz2 : z ≤ 100000000 := by have := HM.out; have := HK.out; have := HT1.out; omega
    clear hmz hm ho hon
    by_cases hlt : j < xs.length
    · have eL := mix_len k j xs hj
      have hjl : j < (mixL k j xs).length := by rw [eL]; exact hlt
      have hin0 := (Own.cell (show Own n wr F (.l 2) (.l (mixL k j xs)) (.slice A (mixL k j xs).length c) from by rw [eL]; exact HO.out)).item j hjl
      obtain ⟨m0, b, o, us, hm0, rfl, _, hbl, hr, hin⟩ := hin0
      rw [mix_at k j xs hlt hjl] at hin
      obtain ⟨l0, s1, s2, x3, x4, s5, A0, c0, ed, rfl, k0, k1, k2, k3, k4, k5⟩ := open_Addr hin
      obtain ⟨Y, hY⟩ : ∃ Y, Y = mixL k j xs := ⟨_, rfl⟩
      have hjY : j < Y.length := by rw [hY]; exact hjl
      have O0 := Lib.hid (show Own n wr F (.l 2) (.l (Y.set j [.l l0, .s s1, .s s2, .i x3, .i x4, .s s5])) (.slice (some ⟨b, o, none⟩) xs.length c) from by
        have e0 : Y.set j [.l l0, .s s1, .s s2, .i x3, .i x4, .s s5] = mixL k j xs := by rw [← ed, ← mix_at k j xs hlt hjl, hY]; exact self_set hjl
        rw [e0]; exact HO.out)
      have hn := nL_take xs j hlt
      rw [ed] at hn
      simp only [nCs, nC] at hn
      have HN := Lib.hid hn
      have HT := Lib.hid (nL_le xs (j + 1))
      have HS : Hid (m + (nL l0 + 1 + 1 + 1 + 1 + 1) ≤ 100000000) := by (show _ ≤ _; have := HM.out; have := HK.out; have := HT.out; omega)
      have HY := Lib.hid hY
      have HED := Lib.hid ed
      have HJ := Lib.hid hjY
      have hjI : (j : Int) < xs.length := by omega
      have hj0 : (0 : Int) ≤ j := by omega
      clear hY ed hn hjY hr hin hjl eL HO hm0 k0 k1 k2 k3 k4 k5
      obtain ⟨A0', c0', hc0⟩ := Own.lcell (N := 6) O0.out rfl HJ.out 0 rfl rfl
      rw [Nat.add_zero] at hc0
      go_wp2_with fail
      refine named fun W1 hW1 => ?_
      have O1 := Lib.hid (show Own n W1 F (.l 2) (.l (Y.set j [.l l0, .s s1, .s s2, .i x3, .i x4, .s s5])) (.slice (some ⟨b, o, none⟩) xs.length c) from by (rw [← hW1]; exact O0.out))
      have ON1 := Lib.hid (show Only F w W1 from by (rw [← hW1]; exact ON.out))
      have hd0 : W1.cell? ⟨b, o + j * 6, none⟩ = some (.slice A0' l0.length c0') := by (rw [← hW1]; first | exact hc0 | simp [go_sem, hc0])
      obtain ⟨q1, G1, hq1, hG1, hs1, hcl1⟩ := O1.out.cellat (N := 6) rfl HJ.out 0 rfl rfl (by first | exact hd0 | simpa using hd0)
      have HCL1 := Lib.hid hcl1
      have HSS1 := Lib.hid hs1
      have HG1 := Lib.hid hG1
      clear hW1 hd0 hcl1 hs1 hG1 hc0
      refine (HKStringS.out q1 (by omega) G1 l0 _ _ (m) _ HSS1.out (by have := HZ.out; have := HS.out; omega) (by have := HZ.out; have := HS.out; omega) (by have := HZ.out; have := HS.out; omega)).mono ?_
      rintro _ v1 ⟨z1, rfl, hz1, ho, hon⟩
      have P1 := Lib.hid (HCL1.out v1 _ hon ho)
      have PN1 := Lib.hid (ON1.out.trans (hon.mono HG1.out))
      have HZ1 := Lib.hid hz1
      have hz1a : 1 ≤ z1 := by (have := HZ.out; have := HS.out; omega)
      have hz1b : z1 ≤ 100000000 := by (have := HZ.out; have := HS.out; omega)
      clear ho hon hz1 O1 ON1 HCL1 HSS1 HG1 hq1
      go_wp2_with fail
      refine named fun W2 hW2 => ?_
      have O2 := Lib.hid (show Own n W2 F (.l 2) (.l (Y.set j [.l (mL (m) l0), .s s1, .s s2, .i x3, .i x4, .s s5])) (.slice (some ⟨b, o, none⟩) xs.length c) from by (rw [← hW2]; exact P1.out))
      have ON2 := Lib.hid (show Only F w W2 from by (rw [← hW2]; exact PN1.out))
      clear hW2 
      refine (mark_text (m + nL l0) _ _ (by have := HZ.out; have := HZ1.out; have := HS.out; omega) (by have := HZ.out; have := HZ1.out; have := HS.out; omega) (by have := HZ.out; have := HZ1.out; have := HS.out; omega)).mono ?_
      rintro _ v2 ⟨rfl, hb⟩
      have P2 := Lib.hid (O2.out.below hb)
      have PN2 := Lib.hid (ON2.out.trans (Only.of_below hb))
      clear hb O2 ON2
      obtain ⟨y1, hy1, hf1⟩ := (P2.out.thereat (N := 6) rfl HJ.out).2.2 1 (by omega)
      go_wp2_with fail
      refine named fun W3 hW3 => ?_
      have O3 := Lib.hid (show Own n W3 F (.l 2) (.l (Y.set j [.l (mL (m) l0), .s (markT (m + nL l0)), .s s2, .i x3, .i x4, .s s5])) (.slice (some ⟨b, o, none⟩) xs.length c) from by (rw [← hW3]; exact (Own.putat P2.out (N := 6) rfl HJ.out 1 .s rfl (fun _ h => by cases h) (.s (markT (m + nL l0))) _ (Own.mkS (mark_sz _ (by have := HZ.out; have := HZ1.out; have := HS.out; omega))))))
      have ON3 := Lib.hid (show Only F w W3 from by (rw [← hW3]; exact (Only.setCell PN2.out (p := ⟨b, _, none⟩) (show F b from (O0.out.thereat (N := 6) rfl HJ.out).1) _)))
      clear hW3 hy1 hf1
      refine (mark_text (m + nL l0 + 1) _ _ (by have := HZ.out; have := HZ1.out; have := HS.out; omega) (by have := HZ.out; have := HZ1.out; have := HS.out; omega) (by have := HZ.out; have := HZ1.out; have := HS.out; omega)).mono ?_
      rintro _ v3 ⟨rfl, hb⟩
      have P3 := Lib.hid (O3.out.below hb)
      have PN3 := Lib.hid (ON3.out.trans (Only.of_below hb))
      clear hb O3 ON3
      obtain ⟨y2, hy2, hf2⟩ := (P3.out.thereat (N := 6) rfl HJ.out).2.2 2 (by omega)
      obtain ⟨y3, hy3, hf3⟩ := (P3.out.thereat (N := 6) rfl HJ.out).2.2 3 (by omega)
      obtain ⟨y4, hy4, hf4⟩ := (P3.out.thereat (N := 6) rfl HJ.out).2.2 4 (by omega)
      go_wp2_with fail
      refine named fun W4 hW4 => ?_
      have O4 := Lib.hid (show Own n W4 F (.l 2) (.l (Y.set j [.l (mL (m) l0), .s (markT (m + nL l0)), .s (markT (m + nL l0 + 1)), .i ((m + nL l0 + 1 + 1 : Nat) : Int), .i ((m + nL l0 + 1 + 1 + 1 : Nat) : Int), .s s5])) (.slice (some ⟨b, o, none⟩) xs.length c) from by (rw [← hW4]; exact (Own.putat (Own.putat (Own.putat P3.out (N := 6) rfl HJ.out 2 .s rfl (fun _ h => by cases h) (.s (markT (m + nL l0 + 1))) _ (Own.mkS (mark_sz _ (by have := HZ.out; have := HZ1.out; have := HS.out; omega)))) (N := 6) rfl HJ.out 3 .i rfl (fun _ h => by cases h) (.i ((m + nL l0 + 1 + 1 : Nat) : Int)) _ (show Own 0 _ F .i (.i ((m + nL l0 + 1 + 1 : Nat) : Int)) _ from ⟨by (congr 1; have := HZ.out; have := HZ1.out; have := HS.out; omega), by (constructor <;> (have := HZ.out; have := HZ1.out; have := HS.out; omega))⟩)) (N := 6) rfl HJ.out 4 .i rfl (fun _ h => by cases h) (.i ((m + nL l0 + 1 + 1 + 1 : Nat) : Int)) _ (show Own 0 _ F .i (.i ((m + nL l0 + 1 + 1 + 1 : Nat) : Int)) _ from ⟨by (congr 1; have := HZ.out; have := HZ1.out; have := HS.out; omega), by (constructor <;> (have := HZ.out; have := HZ1.out; have := HS.out; omega))⟩))))
      have ON4 := Lib.hid (show Only F w W4 from by (rw [← hW4]; exact (Only.setCell (Only.setCell (Only.setCell PN3.out (p := ⟨b, _, none⟩) (show F b from (O0.out.thereat (N := 6) rfl HJ.out).1) _) (p := ⟨b, _, none⟩) (show F b from (O0.out.thereat (N := 6) rfl HJ.out).1) _) (p := ⟨b, _, none⟩) (show F b from (O0.out.thereat (N := 6) rfl HJ.out).1) _)))
      clear hW4 hy2 hf2 hy3 hf3 hy4 hf4
      refine (mark_text (m + nL l0 + 1 + 1 + 1 + 1) _ _ (by have := HZ.out; have := HZ1.out; have := HS.out; omega) (by have := HZ.out; have := HZ1.out; have := HS.out; omega) (by have := HZ.out; have := HZ1.out; have := HS.out; omega)).mono ?_
      rintro _ v4 ⟨rfl, hb⟩
      have P4 := Lib.hid (O4.out.below hb)
      have PN4 := Lib.hid (ON4.out.trans (Only.of_below hb))
      clear hb O4 ON4
      obtain ⟨y5, hy5, hf5⟩ := (P4.out.thereat (N := 6) rfl HJ.out).2.2 5 (by omega)
      go_wp2
      go_roundw
      case rel =>
        refine ⟨j + 1, m + nL l0 + 1 + 1 + 1 + 1 + 1, _, hlt, by go_num, rfl, by have := HZ.out; have := HZ1.out; have := HS.out; omega, by (have := HN.out; have := HM.out; omega), ?_, ?_⟩
        · have e9 : mixL k (j + 1) xs = Y.set j [.l (mL (m) l0), .s (markT (m + nL l0)), .s (markT (m + nL l0 + 1)), .i ((m + nL l0 + 1 + 1 : Nat) : Int), .i ((m + nL l0 + 1 + 1 + 1 : Nat) : Int), .s (markT (m + nL l0 + 1 + 1 + 1 + 1))] := by
            rw [← mix_set k j xs hlt, HED.out, HY.out, ← HM.out]
            simp only [mCs, mC, nC]
          rw [e9]
          exact (Own.putat P4.out (N := 6) rfl HJ.out 5 .s rfl (fun _ h => by cases h) (.s (markT (m + nL l0 + 1 + 1 + 1 + 1))) _ (Own.mkS (mark_sz _ (by have := HZ.out; have := HZ1.out; have := HS.out; omega))))
        · exact (Only.setCell PN4.out (p := ⟨b, _, none⟩) (show F b from (O0.out.thereat (N := 6) rfl HJ.out).1) _)
      case measure => simp [intOf]; omega
    · obtain rfl : j = xs.length := by omega
      have e9 := mix_all k xs
      have HE9 := Lib.hid e9
      clear e9
      go_wp2
      go_ret
      exact ⟨z, rfl, by (have := HZ.out; have h8 := HM.out; rw [List.take_length] at h8; omega), by (have := HO.out; rw [HE9.out] at this; exact this), ON.out⟩
theorem mkAddrS_all (n : Nat) : MkAddrS n := mkAddrS_of (fun m _ => mkStringS_all m)
set_option maxHeartbeats 4000000 in
theorem mkPairS_of {n : Nat} : MkPairS n := fun F xs v a k w h ha hk1 hk => by
  obtain ⟨_, A, c, el, rfl, hl⟩ := h.cell.lst
  injection el with el
  subst el
  have H := Lib.hid h
  have HA := Lib.hid ha
  have HK := Lib.hid hk
  unfold maxLen at hl
  clear h ha hk
  go_enter Tryz.func38, Tryz.ntmps38
  go_wp2
  go_loopw [1, 5] (fun q i wr => ∃ (j m : Nat) (z : Int), j ≤ xs.length ∧ i = .int .i64 j ∧ q = .int .i64 z ∧ (m : Int) = z ∧ m = k + nL (xs.take j) ∧ Own n wr F (.l 7) (.l (mixL k j xs)) (.slice A xs.length c) ∧ Only F w wr) (fun _ i _ => xs.length - (intOf i).toNat)
  case atStart => exact ⟨0, k, a, Nat.zero_le _, rfl, rfl, HA.out, by simp [nL], by rw [mix_zero]; exact H.out, Only.refl _ _⟩
  case round =>
    obtain ⟨j, m, z, hj, rfl, rfl, hmz, hm, ho, hon⟩ := hrel
    have HZ := Lib.hid hmz
    have HM := Lib.hid hm
    have HO := Lib.hid ho
    have ON := Lib.hid hon
    have HT1 := Lib.hid (nL_le xs j)
    have hz1 : 1 ≤ z := by have := HM.out; omega
    have hz2 : z ≤ 100000000 := by have := HM.out; have := HK.out; have := HT1.out; omega
    clear hmz hm ho hon
    by_cases hlt : j < xs.length
    · have eL := mix_len k j xs hj
      have hjl : j < (mixL k j xs).length := by rw [eL]; exact hlt
      have hin0 := (Own.cell (show Own n wr F (.l 7) (.l (mixL k j xs)) (.slice A (mixL k j xs).length c) from by rw [eL]; exact HO.out)).item j hjl
      obtain ⟨m0, b, o, us, hm0, rfl, _, hbl, hr, hin⟩ := hin0
      rw [mix_at k j xs hlt hjl] at hin
      obtain ⟨s0, x1, x2, s3, ed, rfl, k0, k1, k2, k3⟩ := open_Pair hin
      obtain ⟨Y, hY⟩ : ∃ Y, Y = mixL k j xs := ⟨_, rfl⟩
      have hjY : j < Y.length := by rw [hY]; exact hjl
      have O0 := Lib.hid (show Own n wr F (.l 7) (.l (Y.set j [.s s0, .i x1, .i x2, .s s3])) (.slice (some ⟨b, o, none⟩) xs.length c) from by
        have e0 : Y.set j [.s s0, .i x1, .i x2, .s s3] = mixL k j xs := by rw [← ed, ← mix_at k j xs hlt hjl, hY]; exact self_set hjl
        rw [e0]; exact HO.out)
      have hn := nL_take xs j hlt
      rw [ed] at hn
      simp only [nCs, nC] at hn
      have HN := Lib.hid hn
      have HT := Lib.hid (nL_le xs (j + 1))
      have HS : Hid (m + (1 + 1 + 1 + 1) ≤ 100000000) := by (show _ ≤ _; have := HM.out; have := HK.out; have := HT.out; omega)
      have HY := Lib.hid hY
      have HED := Lib.hid ed
      have HJ := Lib.hid hjY
      have hjI : (j : Int) < xs.length := by omega
      have hj0 : (0 : Int) ≤ j := by omega
      clear hY ed hn hjY hr hin hjl eL HO hm0 k0 k1 k2 k3
      go_wp2_with fail
      refine named fun W1 hW1 => ?_
      have O1 := Lib.hid (show Own n W1 F (.l 7) (.l (Y.set j [.s s0, .i x1, .i x2, .s s3])) (.slice (some ⟨b, o, none⟩) xs.length c) from by (rw [← hW1]; exact O0.out))
      have ON1 := Lib.hid (show Only F w W1 from by (rw [← hW1]; exact ON.out))
      clear hW1 
      refine (mark_text (m) _ _ (by have := HZ.out; have := HS.out; omega) (by have := HZ.out; have := HS.out; omega) (by have := HZ.out; have := HS.out; omega)).mono ?_
      rintro _ v1 ⟨rfl, hb⟩
      have P1 := Lib.hid (O1.out.below hb)
      have PN1 := Lib.hid (ON1.out.trans (Only.of_below hb))
      clear hb O1 ON1
      obtain ⟨y0, hy0, hf0⟩ := (P1.out.thereat (N := 4) rfl HJ.out).2.2 0 (by omega)
      rw [Nat.add_zero] at hy0 hf0
      obtain ⟨y1, hy1, hf1⟩ := (P1.out.thereat (N := 4) rfl HJ.out).2.2 1 (by omega)
      obtain ⟨y2, hy2, hf2⟩ := (P1.out.thereat (N := 4) rfl HJ.out).2.2 2 (by omega)
      go_wp2_with fail
      refine named fun W2 hW2 => ?_
      have O2 := Lib.hid (show Own n W2 F (.l 7) (.l (Y.set j [.s (markT (m)), .i ((m + 1 : Nat) : Int), .i ((m + 1 + 1 : Nat) : Int), .s s3])) (.slice (some ⟨b, o, none⟩) xs.length c) from by (rw [← hW2]; exact (Own.putat (Own.putat (Own.putat P1.out (N := 4) rfl HJ.out 0 .s rfl (fun _ h => by cases h) (.s (markT (m))) _ (Own.mkS (mark_sz _ (by have := HZ.out; have := HS.out; omega)))) (N := 4) rfl HJ.out 1 .i rfl (fun _ h => by cases h) (.i ((m + 1 : Nat) : Int)) _ (show Own 0 _ F .i (.i ((m + 1 : Nat) : Int)) _ from ⟨by (congr 1; have := HZ.out; have := HS.out; omega), by (constructor <;> (have := HZ.out; have := HS.out; omega))⟩)) (N := 4) rfl HJ.out 2 .i rfl (fun _ h => by cases h) (.i ((m + 1 + 1 : Nat) : Int)) _ (show Own 0 _ F .i (.i ((m + 1 + 1 : Nat) : Int)) _ from ⟨by (congr 1; have := HZ.out; have := HS.out; omega), by (constructor <;> (have := HZ.out; have := HS.out; omega))⟩))))
      have ON2 := Lib.hid (show Only F w W2 from by (rw [← hW2]; exact (Only.setCell (Only.setCell (Only.setCell PN1.out (p := ⟨b, _, none⟩) (show F b from (O0.out.thereat (N := 4) rfl HJ.out).1) _) (p := ⟨b, _, none⟩) (show F b from (O0.out.thereat (N := 4) rfl HJ.out).1) _) (p := ⟨b, _, none⟩) (show F b from (O0.out.thereat (N := 4) rfl HJ.out).1) _)))
      clear hW2 hy0 hf0 hy1 hf1 hy2 hf2
      refine (mark_text (m + 1 + 1 + 1) _ _ (by have := HZ.out; have := HS.out; omega) (by have := HZ.out; have := HS.out; omega) (by have := HZ.out; have := HS.out; omega)).mono ?_
      rintro _ v2 ⟨rfl, hb⟩
      have P2 := Lib.hid (O2.out.below hb)
      have PN2 := Lib.hid (ON2.out.trans (Only.of_below hb))
      clear hb O2 ON2
      obtain ⟨y3, hy3, hf3⟩ := (P2.out.thereat (N := 4) rfl HJ.out).2.2 3 (by omega)
      go_wp2
      go_roundw
      case rel =>
        refine ⟨j + 1, m + 1 + 1 + 1 + 1, _, hlt, by go_num, rfl, by have := HZ.out; have := HS.out; omega, by (have := HN.out; have := HM.out; omega), ?_, ?_⟩
        · have e9 : mixL k (j + 1) xs = Y.set j [.s (markT (m)), .i ((m + 1 : Nat) : Int), .i ((m + 1 + 1 : Nat) : Int), .s (markT (m + 1 + 1 + 1))] := by
            rw [← mix_set k j xs hlt, HED.out, HY.out, ← HM.out]
            simp only [mCs, mC, nC]
          rw [e9]
          exact (Own.putat P2.out (N := 4) rfl HJ.out 3 .s rfl (fun _ h => by cases h) (.s (markT (m + 1 + 1 + 1))) _ (Own.mkS (mark_sz _ (by have := HZ.out; have := HS.out; omega))))
        · exact (Only.setCell PN2.out (p := ⟨b, _, none⟩) (show F b from (O0.out.thereat (N := 4) rfl HJ.out).1) _)
      case measure => simp [intOf]; omega
    · obtain rfl : j = xs.length := by omega
      have e9 := mix_all k xs
      have HE9 := Lib.hid e9
      clear e9
      go_wp2
      go_ret
      exact ⟨z, rfl, by (have := HZ.out; have h8 := HM.out; rw [List.take_length] at h8; omega), by (have := HO.out; rw [HE9.out] at this; exact this), ON.out⟩
theorem mkPairS_all (n : Nat) : MkPairS n := mkPairS_of
set_option maxHeartbeats 4000000 in
theorem mkThing_of {n : Nat} (KAddr : MkAddr n) (KAddrS : MkAddrS n) (KPairS : MkPairS n) : MkThing n := fun F ds vs a k w h hF ha hk1 hk => by
  obtain ⟨l0, s1, s2, x3, x4, s5, l6, l7, A0, c0, A6, c6, A7, c7, rfl, rfl, _, _, _, _, _, _, _, _⟩ := open_Thing h.cells
  have H := Lib.hid h
  have HF := Lib.hid hF
  have HA := Lib.hid ha
  simp only [nV] at hk
  have HK := Lib.hid hk
  have hz1 : 1 ≤ a := by omega
  have hz2 : a ≤ 100000000 := by omega
  have HKAddr := Lib.hid KAddr
  have HKAddrS := Lib.hid KAddrS
  have HKPairS := Lib.hid KPairS
  clear h hF ha hk KAddr KAddrS KPairS
  go_enter Tryz.func14, Tryz.ntmps14
  go_wp2_with fail
  refine named fun W1 hW1 => ?_
  have O1 := Lib.hid (show Owns n W1 F shThing_ [.l l0, .s s1, .s s2, .i x3, .i x4, .s s5, .l l6, .l l7] [.slice A0 l0.length c0, .string s1, .string s2, .int .i64 x3, .int .i64 x4, .string s5, .slice A6 l6.length c6, .slice A7 l7.length c7] from by (rw [← hW1]; exact H.out.below (below_a1 _ _)))
  have E1 := Lib.hid (show Only F w W1 from by (rw [← hW1]; exact Only.of_below (below_a1 _ _)))
  have B1 := Lib.hid (show Blk W1 w.heap.size 41 #[.slice A0 l0.length c0, .string s1, .string s2, .int .i64 x3, .int .i64 x4, .string s5, .slice A6 l6.length c6, .slice A7 l7.length c7] from by (rw [← hW1]; exact Blk.new _ _ _))
  obtain ⟨F1, hF1, hs1, hcl1⟩ := Owns.part (ks1 := []) (ks2 := [.l 0, .s, .s, .i, .i, .s]) (ks3 := [.l 7, .l 2]) (ds1 := []) (ds2 := [.l l0, .s s1, .s s2, .i x3, .i x4, .s s5]) (ds3 := [.l l6, .l l7]) (vs1 := []) (vs2 := [.slice A0 l0.length c0, .string s1, .string s2, .int .i64 x3, .int .i64 x4, .string s5]) (vs3 := [.slice A6 l6.length c6, .slice A7 l7.length c7]) O1.out rfl rfl rfl rfl
  have HCL1 := Lib.hid hcl1
  have HSS1 := Lib.hid hs1
  have HG1 := Lib.hid hF1
  clear hW1 hcl1 hs1 hF1
  refine (HKAddr.out F1 [.l l0, .s s1, .s s2, .i x3, .i x4, .s s5] [.slice A0 l0.length c0, .string s1, .string s2, .int .i64 x3, .int .i64 x4, .string s5] _ (k) _ HSS1.out (fun x hx => Nat.lt_of_lt_of_le (HF.out x (HG1.out x hx)) E1.out.size) (by have := HA.out; have := HK.out; omega) (by have := HA.out; have := HK.out; omega) (by (try simp only [nV]); have := HA.out; have := HK.out; omega)).mono ?_
  rintro _ v1 ⟨z1, rfl, hz1, ho, hon⟩
  simp only [nV, mV] at hz1 ho
  have P1 := Lib.hid (HCL1.out v1 _ hon ho)
  have PN1 := Lib.hid (E1.out.trans (hon.mono HG1.out))
  have C1 : Hid (Blk v1 w.heap.size 41 #[.slice A0 l0.length c0, .string s1, .string s2, .int .i64 x3, .int .i64 x4, .string s5, .slice A6 l6.length c6, .slice A7 l7.length c7]) := by (show Blk _ _ _ _; unfold Blk; rw [hon.block _ B1.out.lt (fun hx => by (have := HF.out _ (HG1.out _ hx); omega))]; exact B1.out)
  have cq1 := C1.out.cell
  have HZ1 := Lib.hid hz1
  have hz1a : 1 ≤ z1 := by (have := HA.out; have := HK.out; omega)
  have hz1b : z1 ≤ 100000000 := by (have := HA.out; have := HK.out; omega)
  clear ho hon hz1 O1 E1 B1 HCL1 HSS1 HG1
  go_wp2_with fail
  refine named fun W2 hW2 => ?_
  have O2 := Lib.hid (show Owns n W2 F shThing_ [.l (mL (k) l0), .s s1, .s s2, .i x3, .i x4, .s s5, .l l6, .l l7] [.slice A0 l0.length c0, .string s1, .string s2, .int .i64 x3, .int .i64 x4, .string s5, .slice A6 l6.length c6, .slice A7 l7.length c7] from by (rw [← hW2]; exact P1.out))
  have E2 := Lib.hid (show Only F w W2 from by (rw [← hW2]; exact PN1.out))
  have B2 := Lib.hid (show Blk W2 w.heap.size 41 #[.slice A0 l0.length c0, .string s1, .string s2, .int .i64 x3, .int .i64 x4, .string s5, .slice A6 l6.length c6, .slice A7 l7.length c7] from by (rw [← hW2]; exact C1.out))
  obtain ⟨F2, hF2, hs2, hcl2⟩ := Owns.part (ks1 := [.l 0, .s, .s, .i, .i, .s]) (ks2 := [.l 7]) (ks3 := [.l 2]) (ds1 := [.l (mL (k) l0), .s s1, .s s2, .i x3, .i x4, .s s5]) (ds2 := [.l l6]) (ds3 := [.l l7]) (vs1 := [.slice A0 l0.length c0, .string s1, .string s2, .int .i64 x3, .int .i64 x4, .string s5]) (vs2 := [.slice A6 l6.length c6]) (vs3 := [.slice A7 l7.length c7]) O2.out rfl rfl rfl rfl
  have HCL2 := Lib.hid hcl2
  have HSS2 := Lib.hid hs2
  have HG2 := Lib.hid hF2
  clear hW2 hcl2 hs2 hF2 cq1 C1
  refine (HKPairS.out F2 l6 _ _ (k + nL l0) _ (Owns.to1 HSS2.out) (by have := HA.out; have := HZ1.out; have := HK.out; omega) (by have := HA.out; have := HZ1.out; have := HK.out; omega) (by have := HA.out; have := HZ1.out; have := HK.out; omega)).mono ?_
  rintro _ v2 ⟨z2, rfl, hz2, ho, hon⟩
  have P2 := Lib.hid (HCL2.out v2 _ hon (Owns.of1 ho))
  have PN2 := Lib.hid (E2.out.trans (hon.mono HG2.out))
  have C2 : Hid (Blk v2 w.heap.size 41 #[.slice A0 l0.length c0, .string s1, .string s2, .int .i64 x3, .int .i64 x4, .string s5, .slice A6 l6.length c6, .slice A7 l7.length c7]) := by (show Blk _ _ _ _; unfold Blk; rw [hon.block _ B2.out.lt (fun hx => by (have := HF.out _ (HG2.out _ hx); omega))]; exact B2.out)
  have cq2 := C2.out.cell
  have HZ2 := Lib.hid hz2
  have hz2a : 1 ≤ z2 := by (have := HA.out; have := HZ1.out; have := HK.out; omega)
  have hz2b : z2 ≤ 100000000 := by (have := HA.out; have := HZ1.out; have := HK.out; omega)
  clear ho hon hz2 O2 E2 B2 HCL2 HSS2 HG2
  go_wp2_with fail
  refine named fun W3 hW3 => ?_
  have O3 := Lib.hid (show Owns n W3 F shThing_ [.l (mL (k) l0), .s s1, .s s2, .i x3, .i x4, .s s5, .l (mL (k + nL l0) l6), .l l7] [.slice A0 l0.length c0, .string s1, .string s2, .int .i64 x3, .int .i64 x4, .string s5, .slice A6 l6.length c6, .slice A7 l7.length c7] from by (rw [← hW3]; exact P2.out))
  have E3 := Lib.hid (show Only F w W3 from by (rw [← hW3]; exact PN2.out))
  have B3 := Lib.hid (show Blk W3 w.heap.size 41 #[.slice A0 l0.length c0, .string s1, .string s2, .int .i64 x3, .int .i64 x4, .string s5, .slice A6 l6.length c6, .slice A7 l7.length c7] from by (rw [← hW3]; exact C2.out))
  obtain ⟨F3, hF3, hs3, hcl3⟩ := Owns.part (ks1 := [.l 0, .s, .s, .i, .i, .s, .l 7]) (ks2 := [.l 2]) (ks3 := []) (ds1 := [.l (mL (k) l0), .s s1, .s s2, .i x3, .i x4, .s s5, .l (mL (k + nL l0) l6)]) (ds2 := [.l l7]) (ds3 := []) (vs1 := [.slice A0 l0.length c0, .string s1, .string s2, .int .i64 x3, .int .i64 x4, .string s5, .slice A6 l6.length c6]) (vs2 := [.slice A7 l7.length c7]) (vs3 := []) O3.out rfl rfl rfl rfl
  have HCL3 := Lib.hid hcl3
  have HSS3 := Lib.hid hs3
  have HG3 := Lib.hid hF3
  clear hW3 hcl3 hs3 hF3 cq2 C2
  refine (HKAddrS.out F3 l7 _ _ (k + nL l0 + nL l6) _ (Owns.to1 HSS3.out) (by have := HA.out; have := HZ1.out; have := HZ2.out; have := HK.out; omega) (by have := HA.out; have := HZ1.out; have := HZ2.out; have := HK.out; omega) (by have := HA.out; have := HZ1.out; have := HZ2.out; have := HK.out; omega)).mono ?_
  rintro _ v3 ⟨z3, rfl, hz3, ho, hon⟩
  have P3 := Lib.hid (HCL3.out v3 _ hon (Owns.of1 ho))
  have PN3 := Lib.hid (E3.out.trans (hon.mono HG3.out))
  have C3 : Hid (Blk v3 w.heap.size 41 #[.slice A0 l0.length c0, .string s1, .string s2, .int .i64 x3, .int .i64 x4, .string s5, .slice A6 l6.length c6, .slice A7 l7.length c7]) := by (show Blk _ _ _ _; unfold Blk; rw [hon.block _ B3.out.lt (fun hx => by (have := HF.out _ (HG3.out _ hx); omega))]; exact B3.out)
  have cq3 := C3.out.cell
  have HZ3 := Lib.hid hz3
  have hz3a : 1 ≤ z3 := by (have := HA.out; have := HZ1.out; have := HZ2.out; have := HK.out; omega)
  have hz3b : z3 ≤ 100000000 := by (have := HA.out; have := HZ1.out; have := HZ2.out; have := HK.out; omega)
  clear ho hon hz3 O3 E3 B3 HCL3 HSS3 HG3
  go_wp2
  go_ret
  exact ⟨z3, rfl, by (simp only [nV]; have := HA.out; have := HZ1.out; have := HZ2.out; have := HZ3.out; have := HK.out; omega), by (simp only [mV]; exact P3.out), PN3.out⟩
theorem mkThing_all (n : Nat) : MkThing n := mkThing_of (mkAddr_all n) (mkAddrS_all n) (mkPairS_all n)
set_option maxHeartbeats 4000000 in
theorem mkThingS_of {n : Nat} (KAddrS : ∀ m, m < n → MkAddrS m) (KPairS : ∀ m, m < n → MkPairS m) (KStringS : ∀ m, m < n → MkStringS m) : MkThingS n := fun F xs v a k w h ha hk1 hk => by
  obtain ⟨_, A, c, el, rfl, hl⟩ := h.cell.lst
  injection el with el
  subst el
  have H := Lib.hid h
  have HA := Lib.hid ha
  have HK := Lib.hid hk
  unfold maxLen at hl
  have HKAddrS := Lib.hid KAddrS
  have HKPairS := Lib.hid KPairS
  have HKStringS := Lib.hid KStringS
  clear h ha hk KAddrS KPairS KStringS
  go_enter Tryz.func13, Tryz.ntmps13
  go_wp2
  go_loopw [1, 5] (fun q i wr => ∃ (j m : Nat) (z : Int), j ≤ xs.length ∧ i = .int .i64 j ∧ q = .int .i64 z ∧ (m : Int) = z ∧ m = k + nL (xs.take j) ∧ Own n wr F (.l 8) (.l (mixL k j xs)) (.slice A xs.length c) ∧ Only F w wr) (fun _ i _ => xs.length - (intOf i).toNat)
  case atStart => exact ⟨0, k, a, Nat.zero_le _, rfl, rfl, HA.out, by simp [nL], by rw [mix_zero]; exact H.out, Only.refl _ _⟩
  case round =>
    obtain ⟨j, m, z, hj, rfl, rfl, hmz, hm, ho, hon⟩ := hrel
    have HZ := Lib.hid hmz
    have HM := Lib.hid hm
    have HO := Lib.hid ho
    have ON := Lib.hid hon
    have HT1 := Lib.hid (nL_le xs j)
    have hz1 : 1 ≤ z := by have := HM.out; omega
    have hz2 : z ≤ 100000000 := by have := HM.out; have := HK.out; have := HT1.out; omega
    clear hmz hm ho hon
    by_cases hlt : j < xs.length
    · have eL := mix_len k j xs hj
      have hjl : j < (mixL k j xs).length := by rw [eL]; exact hlt
      have hin0 := (Own.cell (show Own n wr F (.l 8) (.l (mixL k j xs)) (.slice A (mixL k j xs).length c) from by rw [eL]; exact HO.out)).item j hjl
      obtain ⟨m0, b, o, us, hm0, rfl, _, hbl, hr, hin⟩ := hin0
      rw [mix_at k j xs hlt hjl] at hin
      obtain ⟨l0, s1, s2, x3, x4, s5, l6, l7, A0, c0, A6, c6, A7, c7, ed, rfl, k0, k1, k2, k3, k4, k5, k6, k7⟩ := open_Thing hin
      obtain ⟨Y, hY⟩ : ∃ Y, Y = mixL k j xs := ⟨_, rfl⟩
      have hjY : j < Y.length := by rw [hY]; exact hjl
      have O0 := Lib.hid (show Own n wr F (.l 8) (.l (Y.set j [.l l0, .s s1, .s s2, .i x3, .i x4, .s s5, .l l6, .l l7])) (.slice (some ⟨b, o, none⟩) xs.length c) from by
        have e0 : Y.set j [.l l0, .s s1, .s s2, .i x3, .i x4, .s s5, .l l6, .l l7] = mixL k j xs := by rw [← ed, ← mix_at k j xs hlt hjl, hY]; exact self_set hjl
        rw [e0]; exact HO.out)
      have hn := nL_take xs j hlt
      rw [ed] at hn
      simp only [nCs, nC] at hn
      have HN := Lib.hid hn
      have HT := Lib.hid (nL_le xs (j + 1))
      have HS : Hid (m + (nL l0 + 1 + 1 + 1 + 1 + 1 + nL l6 + nL l7) ≤ 100000000) := by (show _ ≤ _; have := HM.out; have := HK.out; have := HT.out; omega)
      have HY := Lib.hid hY
      have HED := Lib.hid ed
      have HJ := Lib.hid hjY
      have hjI : (j : Int) < xs.length := by omega
      have hj0 : (0 : Int) ≤ j := by omega
      clear hY ed hn hjY hr hin hjl eL HO hm0 k0 k1 k2 k3 k4 k5 k6 k7
      obtain ⟨A0', c0', hc0⟩ := Own.lcell (N := 8) O0.out rfl HJ.out 0 rfl rfl
      rw [Nat.add_zero] at hc0
      go_wp2_with fail
      refine named fun W1 hW1 => ?_
      have O1 := Lib.hid (show Own n W1 F (.l 8) (.l (Y.set j [.l l0, .s s1, .s s2, .i x3, .i x4, .s s5, .l l6, .l l7])) (.slice (some ⟨b, o, none⟩) xs.length c) from by (rw [← hW1]; exact O0.out))
      have ON1 := Lib.hid (show Only F w W1 from by (rw [← hW1]; exact ON.out))
      have hd0 : W1.cell? ⟨b, o + j * 8, none⟩ = some (.slice A0' l0.length c0') := by (rw [← hW1]; first | exact hc0 | simp [go_sem, hc0])
      obtain ⟨q1, G1, hq1, hG1, hs1, hcl1⟩ := O1.out.cellat (N := 8) rfl HJ.out 0 rfl rfl (by first | exact hd0 | simpa using hd0)
      have HCL1 := Lib.hid hcl1
      have HSS1 := Lib.hid hs1
      have HG1 := Lib.hid hG1
      clear hW1 hd0 hcl1 hs1 hG1 hc0
      refine (HKStringS.out q1 (by omega) G1 l0 _ _ (m) _ HSS1.out (by have := HZ.out; have := HS.out; omega) (by have := HZ.out; have := HS.out; omega) (by have := HZ.out; have := HS.out; omega)).mono ?_
      rintro _ v1 ⟨z1, rfl, hz1, ho, hon⟩
      have P1 := Lib.hid (HCL1.out v1 _ hon ho)
      have PN1 := Lib.hid (ON1.out.trans (hon.mono HG1.out))
      have HZ1 := Lib.hid hz1
      have hz1a : 1 ≤ z1 := by (have := HZ.out; have := HS.out; omega)
      have hz1b : z1 ≤ 100000000 := by (have := HZ.out; have := HS.out; omega)
      clear ho hon hz1 O1 ON1 HCL1 HSS1 HG1 hq1
      go_wp2_with fail
      refine named fun W2 hW2 => ?_
      have O2 := Lib.hid (show Own n W2 F (.l 8) (.l (Y.set j [.l (mL (m) l0), .s s1, .s s2, .i x3, .i x4, .s s5, .l l6, .l l7])) (.slice (some ⟨b, o, none⟩) xs.length c) from by (rw [← hW2]; exact P1.out))
      have ON2 := Lib.hid (show Only F w W2 from by (rw [← hW2]; exact PN1.out))
      clear hW2 
      refine (mark_text (m + nL l0) _ _ (by have := HZ.out; have := HZ1.out; have := HS.out; omega) (by have := HZ.out; have := HZ1.out; have := HS.out; omega) (by have := HZ.out; have := HZ1.out; have := HS.out; omega)).mono ?_
      rintro _ v2 ⟨rfl, hb⟩
      have P2 := Lib.hid (O2.out.below hb)
      have PN2 := Lib.hid (ON2.out.trans (Only.of_below hb))
      clear hb O2 ON2
      obtain ⟨y1, hy1, hf1⟩ := (P2.out.thereat (N := 8) rfl HJ.out).2.2 1 (by omega)
      go_wp2_with fail
      refine named fun W3 hW3 => ?_
      have O3 := Lib.hid (show Own n W3 F (.l 8) (.l (Y.set j [.l (mL (m) l0), .s (markT (m + nL l0)), .s s2, .i x3, .i x4, .s s5, .l l6, .l l7])) (.slice (some ⟨b, o, none⟩) xs.length c) from by (rw [← hW3]; exact (Own.putat P2.out (N := 8) rfl HJ.out 1 .s rfl (fun _ h => by cases h) (.s (markT (m + nL l0))) _ (Own.mkS (mark_sz _ (by have := HZ.out; have := HZ1.out; have := HS.out; omega))))))
      have ON3 := Lib.hid (show Only F w W3 from by (rw [← hW3]; exact (Only.setCell PN2.out (p := ⟨b, _, none⟩) (show F b from (O0.out.thereat (N := 8) rfl HJ.out).1) _)))
      clear hW3 hy1 hf1
      refine (mark_text (m + nL l0 + 1) _ _ (by have := HZ.out; have := HZ1.out; have := HS.out; omega) (by have := HZ.out; have := HZ1.out; have := HS.out; omega) (by have := HZ.out; have := HZ1.out; have := HS.out; omega)).mono ?_
      rintro _ v3 ⟨rfl, hb⟩
      have P3 := Lib.hid (O3.out.below hb)
      have PN3 := Lib.hid (ON3.out.trans (Only.of_below hb))
      clear hb O3 ON3
      obtain ⟨y2, hy2, hf2⟩ := (P3.out.thereat (N := 8) rfl HJ.out).2.2 2 (by omega)
      obtain ⟨y3, hy3, hf3⟩ := (P3.out.thereat (N := 8) rfl HJ.out).2.2 3 (by omega)
      obtain ⟨y4, hy4, hf4⟩ := (P3.out.thereat (N := 8) rfl HJ.out).2.2 4 (by omega)
      go_wp2_with fail
      refine named fun W4 hW4 => ?_
      have O4 := Lib.hid (show Own n W4 F (.l 8) (.l (Y.set j [.l (mL (m) l0), .s (markT (m + nL l0)), .s (markT (m + nL l0 + 1)), .i ((m + nL l0 + 1 + 1 : Nat) : Int), .i ((m + nL l0 + 1 + 1 + 1 : Nat) : Int), .s s5, .l l6, .l l7])) (.slice (some ⟨b, o, none⟩) xs.length c) from by (rw [← hW4]; exact (Own.putat (Own.putat (Own.putat P3.out (N := 8) rfl HJ.out 2 .s rfl (fun _ h => by cases h) (.s (markT (m + nL l0 + 1))) _ (Own.mkS (mark_sz _ (by have := HZ.out; have := HZ1.out; have := HS.out; omega)))) (N := 8) rfl HJ.out 3 .i rfl (fun _ h => by cases h) (.i ((m + nL l0 + 1 + 1 : Nat) : Int)) _ (show Own 0 _ F .i (.i ((m + nL l0 + 1 + 1 : Nat) : Int)) _ from ⟨by (congr 1; have := HZ.out; have := HZ1.out; have := HS.out; omega), by (constructor <;> (have := HZ.out; have := HZ1.out; have := HS.out; omega))⟩)) (N := 8) rfl HJ.out 4 .i rfl (fun _ h => by cases h) (.i ((m + nL l0 + 1 + 1 + 1 : Nat) : Int)) _ (show Own 0 _ F .i (.i ((m + nL l0 + 1 + 1 + 1 : Nat) : Int)) _ from ⟨by (congr 1; have := HZ.out; have := HZ1.out; have := HS.out; omega), by (constructor <;> (have := HZ.out; have := HZ1.out; have := HS.out; omega))⟩))))
      have ON4 := Lib.hid (show Only F w W4 from by (rw [← hW4]; exact (Only.setCell (Only.setCell (Only.setCell PN3.out (p := ⟨b, _, none⟩) (show F b from (O0.out.thereat (N := 8) rfl HJ.out).1) _) (p := ⟨b, _, none⟩) (show F b from (O0.out.thereat (N := 8) rfl HJ.out).1) _) (p := ⟨b, _, none⟩) (show F b from (O0.out.thereat (N := 8) rfl HJ.out).1) _)))
      clear hW4 hy2 hf2 hy3 hf3 hy4 hf4
      refine (mark_text (m + nL l0 + 1 + 1 + 1 + 1) _ _ (by have := HZ.out; have := HZ1.out; have := HS.out; omega) (by have := HZ.out; have := HZ1.out; have := HS.out; omega) (by have := HZ.out; have := HZ1.out; have := HS.out; omega)).mono ?_
      rintro _ v4 ⟨rfl, hb⟩
      have P4 := Lib.hid (O4.out.below hb)
      have PN4 := Lib.hid (ON4.out.trans (Only.of_below hb))
      clear hb O4 ON4
      obtain ⟨y5, hy5, hf5⟩ := (P4.out.thereat (N := 8) rfl HJ.out).2.2 5 (by omega)
      obtain ⟨A6', c6', hc6⟩ := Own.lcell (N := 8) P4.out rfl HJ.out 6 rfl rfl
      go_wp2_with fail
      refine named fun W5 hW5 => ?_
      have O5 := Lib.hid (show Own n W5 F (.l 8) (.l (Y.set j [.l (mL (m) l0), .s (markT (m + nL l0)), .s (markT (m + nL l0 + 1)), .i ((m + nL l0 + 1 + 1 : Nat) : Int), .i ((m + nL l0 + 1 + 1 + 1 : Nat) : Int), .s (markT (m + nL l0 + 1 + 1 + 1 + 1)), .l l6, .l l7])) (.slice (some ⟨b, o, none⟩) xs.length c) from by (rw [← hW5]; exact (Own.putat P4.out (N := 8) rfl HJ.out 5 .s rfl (fun _ h => by cases h) (.s (markT (m + nL l0 + 1 + 1 + 1 + 1))) _ (Own.mkS (mark_sz _ (by have := HZ.out; have := HZ1.out; have := HS.out; omega))))))
      have ON5 := Lib.hid (show Only F w W5 from by (rw [← hW5]; exact (Only.setCell PN4.out (p := ⟨b, _, none⟩) (show F b from (O0.out.thereat (N := 8) rfl HJ.out).1) _)))
      have hd6 : W5.cell? ⟨b, o + j * 8 + 6, none⟩ = some (.slice A6' l6.length c6') := by (rw [← hW5]; first | exact hc6 | simp [go_sem, hc6])
      obtain ⟨q5, G5, hq5, hG5, hs5, hcl5⟩ := O5.out.cellat (N := 8) rfl HJ.out 6 rfl rfl hd6
      have HCL5 := Lib.hid hcl5
      have HSS5 := Lib.hid hs5
      have HG5 := Lib.hid hG5
      clear hW5 hd6 hcl5 hs5 hG5 hy5 hf5 hc6
      refine (HKPairS.out q5 (by omega) G5 l6 _ _ (m + nL l0 + 1 + 1 + 1 + 1 + 1) _ HSS5.out (by have := HZ.out; have := HZ1.out; have := HS.out; omega) (by have := HZ.out; have := HZ1.out; have := HS.out; omega) (by have := HZ.out; have := HZ1.out; have := HS.out; omega)).mono ?_
      rintro _ v5 ⟨z5, rfl, hz5, ho, hon⟩
      have P5 := Lib.hid (HCL5.out v5 _ hon ho)
      have PN5 := Lib.hid (ON5.out.trans (hon.mono HG5.out))
      have HZ5 := Lib.hid hz5
      have hz5a : 1 ≤ z5 := by (have := HZ.out; have := HZ1.out; have := HS.out; omega)
      have hz5b : z5 ≤ 100000000 := by (have := HZ.out; have := HZ1.out; have := HS.out; omega)
      clear ho hon hz5 O5 ON5 HCL5 HSS5 HG5 hq5
      obtain ⟨A7', c7', hc7⟩ := Own.lcell (N := 8) P5.out rfl HJ.out 7 rfl rfl
      go_wp2_with fail
      refine named fun W6 hW6 => ?_
      have O6 := Lib.hid (show Own n W6 F (.l 8) (.l (Y.set j [.l (mL (m) l0), .s (markT (m + nL l0)), .s (markT (m + nL l0 + 1)), .i ((m + nL l0 + 1 + 1 : Nat) : Int), .i ((m + nL l0 + 1 + 1 + 1 : Nat) : Int), .s (markT (m + nL l0 + 1 + 1 + 1 + 1)), .l (mL (m + nL l0 + 1 + 1 + 1 + 1 + 1) l6), .l l7])) (.slice (some ⟨b, o, none⟩) xs.length c) from by (rw [← hW6]; exact P5.out))
      have ON6 := Lib.hid (show Only F w W6 from by (rw [← hW6]; exact PN5.out))
      have hd7 : W6.cell? ⟨b, o + j * 8 + 7, none⟩ = some (.slice A7' l7.length c7') := by (rw [← hW6]; first | exact hc7 | simp [go_sem, hc7])
      obtain ⟨q6, G6, hq6, hG6, hs6, hcl6⟩ := O6.out.cellat (N := 8) rfl HJ.out 7 rfl rfl hd7
      have HCL6 := Lib.hid hcl6
      have HSS6 := Lib.hid hs6
      have HG6 := Lib.hid hG6
      clear hW6 hd7 hcl6 hs6 hG6 hc7
      refine (HKAddrS.out q6 (by omega) G6 l7 _ _ (m + nL l0 + 1 + 1 + 1 + 1 + 1 + nL l6) _ HSS6.out (by have := HZ.out; have := HZ1.out; have := HZ5.out; have := HS.out; omega) (by have := HZ.out; have := HZ1.out; have := HZ5.out; have := HS.out; omega) (by have := HZ.out; have := HZ1.out; have := HZ5.out; have := HS.out; omega)).mono ?_
      rintro _ v6 ⟨z6, rfl, hz6, ho, hon⟩
      have P6 := Lib.hid (HCL6.out v6 _ hon ho)
      have PN6 := Lib.hid (ON6.out.trans (hon.mono HG6.out))
      have HZ6 := Lib.hid hz6
      have hz6a : 1 ≤ z6 := by (have := HZ.out; have := HZ1.out; have := HZ5.out; have := HS.out; omega)
      have hz6b : z6 ≤ 100000000 := by (have := HZ.out; have := HZ1.out; have := HZ5.out; have := HS.out; omega)
      clear ho hon hz6 O6 ON6 HCL6 HSS6 HG6 hq6
      go_wp2
      go_roundw
      case rel =>
        refine ⟨j + 1, m + nL l0 + 1 + 1 + 1 + 1 + 1 + nL l6 + nL l7, _, hlt, by go_num, rfl, by have := HZ.out; have := HZ1.out; have := HZ5.out; have := HZ6.out; have := HS.out; omega, by (have := HN.out; have := HM.out; omega), ?_, ?_⟩
        · have e9 : mixL k (j + 1) xs = Y.set j [.l (mL (m) l0), .s (markT (m + nL l0)), .s (markT (m + nL l0 + 1)), .i ((m + nL l0 + 1 + 1 : Nat) : Int), .i ((m + nL l0 + 1 + 1 + 1 : Nat) : Int), .s (markT (m + nL l0 + 1 + 1 + 1 + 1)), .l (mL (m + nL l0 + 1 + 1 + 1 + 1 + 1) l6), .l (mL (m + nL l0 + 1 + 1 + 1 + 1 + 1 + nL l6) l7)] := by
            rw [← mix_set k j xs hlt, HED.out, HY.out, ← HM.out]
            simp only [mCs, mC, nC]
          rw [e9]
          exact P6.out
        · exact PN6.out
      case measure => simp [intOf]; omega
    · obtain rfl : j = xs.length := by omega
      have e9 := mix_all k xs
      have HE9 := Lib.hid e9
      clear e9
      go_wp2
      go_ret
      exact ⟨z, rfl, by (have := HZ.out; have h8 := HM.out; rw [List.take_length] at h8; omega), by (have := HO.out; rw [HE9.out] at this; exact this), ON.out⟩
theorem mkThingS_all (n : Nat) : MkThingS n := mkThingS_of (fun m _ => mkAddrS_all m) (fun m _ => mkPairS_all m) (fun m _ => mkStringS_all m)
set_option maxHeartbeats 4000000 in
theorem mkBookOut_of {n : Nat} (KThingS : MkThingS n) : MkBookOut n := fun F ds vs a k w h hF ha hk1 hk => by
  obtain ⟨l0, x1, A0, c0, rfl, rfl, _, _⟩ := open_BookOut h.cells
  have H := Lib.hid h
  have HF := Lib.hid hF
  have HA := Lib.hid ha
  simp only [nV] at hk
  have HK := Lib.hid hk
  have hz1 : 1 ≤ a := by omega
  have hz2 : a ≤ 100000000 := by omega
  have HKThingS := Lib.hid KThingS
  clear h hF ha hk KThingS
  go_enter Tryz.func15, Tryz.ntmps15
  go_wp2_with fail
  refine named fun W1 hW1 => ?_
  have O1 := Lib.hid (show Owns n W1 F shBookOut_ [.l l0, .i x1] [.slice A0 l0.length c0, .int .i64 x1] from by (rw [← hW1]; exact H.out.below (below_a1 _ _)))
  have E1 := Lib.hid (show Only F w W1 from by (rw [← hW1]; exact Only.of_below (below_a1 _ _)))
  have B1 := Lib.hid (show Blk W1 w.heap.size 34 #[.slice A0 l0.length c0, .int .i64 x1] from by (rw [← hW1]; exact Blk.new _ _ _))
  obtain ⟨F1, hF1, hs1, hcl1⟩ := Owns.part (ks1 := []) (ks2 := [.l 8]) (ks3 := [.i]) (ds1 := []) (ds2 := [.l l0]) (ds3 := [.i x1]) (vs1 := []) (vs2 := [.slice A0 l0.length c0]) (vs3 := [.int .i64 x1]) O1.out rfl rfl rfl rfl
  have HCL1 := Lib.hid hcl1
  have HSS1 := Lib.hid hs1
  have HG1 := Lib.hid hF1
  clear hW1 hcl1 hs1 hF1
  refine (HKThingS.out F1 l0 _ _ (k) _ (Owns.to1 HSS1.out) (by have := HA.out; have := HK.out; omega) (by have := HA.out; have := HK.out; omega) (by have := HA.out; have := HK.out; omega)).mono ?_
  rintro _ v1 ⟨z1, rfl, hz1, ho, hon⟩
  have P1 := Lib.hid (HCL1.out v1 _ hon (Owns.of1 ho))
  have PN1 := Lib.hid (E1.out.trans (hon.mono HG1.out))
  have C1 : Hid (Blk v1 w.heap.size 34 #[.slice A0 l0.length c0, .int .i64 x1]) := by (show Blk _ _ _ _; unfold Blk; rw [hon.block _ B1.out.lt (fun hx => by (have := HF.out _ (HG1.out _ hx); omega))]; exact B1.out)
  have cq1 := C1.out.cell
  have HZ1 := Lib.hid hz1
  have hz1a : 1 ≤ z1 := by (have := HA.out; have := HK.out; omega)
  have hz1b : z1 ≤ 100000000 := by (have := HA.out; have := HK.out; omega)
  clear ho hon hz1 O1 E1 B1 HCL1 HSS1 HG1
  go_wp2
  go_ret
  exact ⟨z1, rfl, by (simp only [nV]; have := HA.out; have := HZ1.out; have := HK.out; omega), by (simp only [mV]; exact P1.out), PN1.out⟩
theorem mkBookOut_all (n : Nat) : MkBookOut n := mkBookOut_of (mkThingS_all n)
end Go.Proofs.YtflfnekaiaplfaaGreat.un
