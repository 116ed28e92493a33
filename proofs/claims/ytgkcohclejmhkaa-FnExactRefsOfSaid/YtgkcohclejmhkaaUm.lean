/- The laws' own helpers: data marked. -/
import Derived.Test.YtgkcohclejmhkaaUp
import Derived.Test.YtgkcohclejmhkaaUe
import Derived.Test.YtgkcohclejmhkaaDig
import Derived.Deep.RegionHeld3
namespace Go.Proofs.Ytgkcohclejmhkaa.un
open mem
open Go.ChangeShapes Go.WideShapes Go.ChangeAt Go.RowKit Go.Lib
set_option linter.unusedVariables false
set_option maxRecDepth 8000
set_option linter.unusedSimpArgs false

theorem mark_text (k : Nat) (a : Int) (w : World) (h : (k : Int) = a) (h1 : 1 ≤ k) (h2 : k ≤ 1000000000) : Calls Try.prog 48 #[.int .i64 a] w (Told w (.string (markT k))) := by
  subst h; exact dig.mark_any k w h1 h2
theorem mark_sz (k : Nat) (h : k ≤ 1000000000) : (markT k).size ≤ maxLen := dig.mark_size k h
theorem Own.lcell {n e e' cap b o L N j : Nat} {w : World} {F : Nat → Prop} {Y : List (List DC)} {ds : List DC} {l : List (List DC)} (h : Own n w F (.l e) (.l (Y.set j ds)) (.slice (some ⟨b, o, none⟩) L cap)) (hN : (sh e).length = N) (hj : j < Y.length) (c : Nat) (hc : (sh e)[c]? = some (.l e')) (hd : ds[c]? = some (.l l)) :
    ∃ A' c', w.cell? ⟨b, o + j * N + c, none⟩ = some (.slice A' l.length c') := by
  subst hN
  obtain ⟨eL, _⟩ := h.cell.len
  rw [eL] at h
  obtain ⟨m, b', o', us, _, eA, _, _, hr, hin⟩ := h.cell.item j (by simpa using hj)
  injection eA with eA; injection eA with e1 e2 _
  subst e1 e2
  rw [set_at] at hin
  obtain ⟨hc1, hc2⟩ := List.getElem?_eq_some_iff.1 hc
  obtain ⟨hd1, hd2⟩ := List.getElem?_eq_some_iff.1 hd
  have h3 : c < us.length := by rw [hin.len.2]; exact hc1
  have := hin.at c hc1 hd1 h3
  rw [hc2, hd2] at this
  obtain ⟨xs, A', c', e3, e4, _⟩ := this.lst
  injection e3 with e3
  subst e3
  exact ⟨A', c', by rw [← e4]; exact hr c us[c] (List.getElem?_eq_getElem h3)⟩
def MkStringS (n : Nat) : Prop := ∀ (F : Nat → Prop) (xs : List (List DC)) (v : Value) (a : Int) (k : Nat) (w : World), Own n w F (.l 0) (.l xs) v → (k : Int) = a → 1 ≤ k → k + nL xs ≤ 100000000 →
    Calls Try.prog 47 #[v, .int .i64 a] w (fun e w' => ∃ z : Int, e = .returned (.int .i64 z) ∧ ((k + nL xs : Nat) : Int) = z ∧ Own n w' F (.l 0) (.l (mL k xs)) v ∧ Only F w w')
def MkAddr (n : Nat) : Prop := ∀ (F : Nat → Prop) (ds : List DC) (vs : List Value) (a : Int) (k : Nat) (w : World), Owns n w F shAddr_ ds vs → (∀ x, F x → x < w.heap.size) → (k : Int) = a → 1 ≤ k → k + nV ds ≤ 100000000 →
    Calls Try.prog 45 #[.agg vs.toArray, .int .i64 a] w (fun e w' => ∃ z : Int, e = .returned (.int .i64 z) ∧ ((k + nV ds : Nat) : Int) = z ∧ Owns n w' F shAddr_ (mV k ds) vs ∧ Only F w w')
def MkExprS (n : Nat) : Prop := ∀ (F : Nat → Prop) (xs : List (List DC)) (v : Value) (a : Int) (k : Nat) (w : World), Own n w F (.l 3) (.l xs) v → (k : Int) = a → 1 ≤ k → k + nL xs ≤ 100000000 →
    Calls Try.prog 46 #[v, .int .i64 a] w (fun e w' => ∃ z : Int, e = .returned (.int .i64 z) ∧ ((k + nL xs : Nat) : Int) = z ∧ Own n w' F (.l 3) (.l (mL k xs)) v ∧ Only F w w')
def MkExpr (n : Nat) : Prop := ∀ (F : Nat → Prop) (ds : List DC) (vs : List Value) (a : Int) (k : Nat) (w : World), Owns n w F shExpr_ ds vs → (∀ x, F x → x < w.heap.size) → (k : Int) = a → 1 ≤ k → k + nV ds ≤ 100000000 →
    Calls Try.prog 13 #[.agg vs.toArray, .int .i64 a] w (fun e w' => ∃ z : Int, e = .returned (.int .i64 z) ∧ ((k + nV ds : Nat) : Int) = z ∧ Owns n w' F shExpr_ (mV k ds) vs ∧ Only F w w')
def MkAddrS (n : Nat) : Prop := ∀ (F : Nat → Prop) (xs : List (List DC)) (v : Value) (a : Int) (k : Nat) (w : World), Own n w F (.l 2) (.l xs) v → (k : Int) = a → 1 ≤ k → k + nL xs ≤ 100000000 →
    Calls Try.prog 14 #[v, .int .i64 a] w (fun e w' => ∃ z : Int, e = .returned (.int .i64 z) ∧ ((k + nL xs : Nat) : Int) = z ∧ Own n w' F (.l 2) (.l (mL k xs)) v ∧ Only F w w')
def MkPropS (n : Nat) : Prop := ∀ (F : Nat → Prop) (xs : List (List DC)) (v : Value) (a : Int) (k : Nat) (w : World), Own n w F (.l 4) (.l xs) v → (k : Int) = a → 1 ≤ k → k + nL xs ≤ 100000000 →
    Calls Try.prog 75 #[v, .int .i64 a] w (fun e w' => ∃ z : Int, e = .returned (.int .i64 z) ∧ ((k + nL xs : Nat) : Int) = z ∧ Own n w' F (.l 4) (.l (mL k xs)) v ∧ Only F w w')
def MkBlock (n : Nat) : Prop := ∀ (F : Nat → Prop) (ds : List DC) (vs : List Value) (a : Int) (k : Nat) (w : World), Owns n w F shBlock_ ds vs → (∀ x, F x → x < w.heap.size) → (k : Int) = a → 1 ≤ k → k + nV ds ≤ 100000000 →
    Calls Try.prog 26 #[.agg vs.toArray, .int .i64 a] w (fun e w' => ∃ z : Int, e = .returned (.int .i64 z) ∧ ((k + nV ds : Nat) : Int) = z ∧ Owns n w' F shBlock_ (mV k ds) vs ∧ Only F w w')
set_option maxHeartbeats 4000000 in
theorem mkStringS_of {n : Nat} : MkStringS n := fun F xs v a k w h ha hk1 hk => by
  obtain ⟨_, A, c, el, rfl, hl⟩ := h.cell.lst
  injection el with el
  subst el
  have H := Lib.hid h
  have HA := Lib.hid ha
  have HK := Lib.hid hk
  unfold maxLen at hl
  clear h ha hk
  go_enter Try.func47, Try.ntmps47
  go_wp2
  go_loopw [1, 5] (fun q i wr => ∃ (j m : Nat) (z : Int), j ≤ xs.length ∧ i = .int .i64 j ∧ q = .int .i64 z ∧ (m : Int) = z ∧ m = k + nL (xs.take j) ∧ Own n wr F (.l 0) (.l (mixL k j xs)) (.slice A xs.length c) ∧ Only F w wr) (fun _ i _ => xs.length - (intOf i).toNat)
  case atStart => exact ⟨0, k, a, Nat.zero_le _, rfl, rfl, HA.out, by simp [nL], by rw [mix_zero]; exact H.out, Only.refl _ _⟩
  case round =>
    obtain ⟨j, m, z, hj, rfl, rfl, hmz, hm, ho, hon⟩ := hrel
    have HZ := Lib.hid hmz
    have HM := Lib.hid hm
    have HO := Lib.hid ho
    have ON := Lib.hid hon
    have HT1 := Lib.hid (nL_le xs j)
    have hz1 : 1 ≤ z := by have := HM.out; omega
    have hz2 : z ≤ 100000000 := by have := HM.out; have := HK.out; have := HT1.out; omega
    clear hmz hm ho hon
    by_cases hlt : j < xs.length
    · have eL := mix_len k j xs hj
      have hjl : j < (mixL k j xs).length := by rw [eL]; exact hlt
      have hin0 := (Own.cell (show Own n wr F (.l 0) (.l (mixL k j xs)) (.slice A (mixL k j xs).length c) from by rw [eL]; exact HO.out)).item j hjl
      obtain ⟨m0, b, o, us, hm0, rfl, _, hbl, hr, hin⟩ := hin0
      rw [mix_at k j xs hlt hjl] at hin
      obtain ⟨d0, ds0, v0, vs0, ed, rfl, h1, h2⟩ := All3.cons hin
      obtain ⟨rfl, rfl⟩ := All3.nil h2
      obtain ⟨s0, rfl, rfl, k0⟩ := h1.str
      clear h1 h2
      obtain ⟨Y, hY⟩ : ∃ Y, Y = mixL k j xs := ⟨_, rfl⟩
      have hjY : j < Y.length := by rw [hY]; exact hjl
      have O0 := Lib.hid (show Own n wr F (.l 0) (.l (Y.set j [.s s0])) (.slice (some ⟨b, o, none⟩) xs.length c) from by
        have e0 : Y.set j [.s s0] = mixL k j xs := by rw [← ed, ← mix_at k j xs hlt hjl, hY]; exact self_set hjl
        rw [e0]; exact HO.out)
      have hn := nL_take xs j hlt
      rw [ed] at hn
      simp only [nCs, nC] at hn
      have HN := Lib.hid hn
      have HT := Lib.hid (nL_le xs (j + 1))
      have HS : Hid (m + (1) ≤ 100000000) := by (show _ ≤ _; have := HM.out; have := HK.out; have := HT.out; omega)
      have HY := Lib.hid hY
      have HED := Lib.hid ed
      have HJ := Lib.hid hjY
      have hjI : (j : Int) < xs.length := by omega
      have hj0 : (0 : Int) ≤ j := by omega
      clear hY ed hn hjY hr hin hjl eL HO hm0 k0
      go_wp2_with fail
      refine named fun W1 hW1 => ?_
      have O1 := Lib.hid (show Own n W1 F (.l 0) (.l (Y.set j [.s s0])) (.slice (some ⟨b, o, none⟩) xs.length c) from by (rw [← hW1]; exact O0.out))
      have ON1 := Lib.hid (show Only F w W1 from by (rw [← hW1]; exact ON.out))
      clear hW1 
      refine (mark_text (m) _ _ (by have := HZ.out; have := HS.out; omega) (by have := HZ.out; have := HS.out; omega) (by have := HZ.out; have := HS.out; omega)).mono ?_
      rintro _ v1 ⟨rfl, hb⟩
      have P1 := Lib.hid (O1.out.below hb)
      have PN1 := Lib.hid (ON1.out.trans (Only.of_below hb))
      clear hb O1 ON1
      obtain ⟨y0, hy0, hf0⟩ := (P1.out.thereat (N := 1) rfl HJ.out).2.2 0 (by omega)
      simp only [Nat.mul_one, Nat.add_zero] at hy0 hf0
      go_wp2
      go_roundw
      case rel =>
        refine ⟨j + 1, m + 1, _, hlt, by go_num, rfl, by have := HZ.out; have := HS.out; omega, by (have := HN.out; have := HM.out; omega), ?_, ?_⟩
        · have e9 : mixL k (j + 1) xs = Y.set j [.s (markT (m))] := by
            rw [← mix_set k j xs hlt, HED.out, HY.out, ← HM.out]
            simp only [mCs, mC, nC]
          rw [e9]
          simpa only [Nat.mul_one, Nat.add_zero, List.set_cons_zero] using (Own.putat P1.out (N := 1) rfl HJ.out 0 .s rfl (fun _ h => by cases h) (.s (markT (m))) _ (Own.mkS (mark_sz _ (by have := HZ.out; have := HS.out; omega))))
        · exact (Only.setCell PN1.out (p := ⟨b, _, none⟩) (show F b from (O0.out.thereat (N := 1) rfl HJ.out).1) _)
      case measure => simp [intOf]; omega
    · obtain rfl : j = xs.length := by omega
      have e9 := mix_all k xs
      have HE9 := Lib.hid e9
      clear e9
      go_wp2
      go_ret
      exact ⟨z, rfl, by (have := HZ.out; have h8 := HM.out; rw [List.take_length] at h8; omega), by (have := HO.out; rw [HE9.out] at this; exact this), ON.out⟩
theorem mkStringS_all (n : Nat) : MkStringS n := mkStringS_of
set_option maxHeartbeats 4000000 in
theorem mkAddr_of {n : Nat} (KStringS : MkStringS n) : MkAddr n := fun F ds vs a k w h hF ha hk1 hk => by
  obtain ⟨l0, s1, s2, x3, x4, s5, A0, c0, rfl, rfl, _, _, _, _, _, _⟩ := open_Addr h.cells
  have H := Lib.hid h
  have HF := Lib.hid hF
  have HA := Lib.hid ha
  simp only [nV] at hk
  have HK := Lib.hid hk
  have hz1 : 1 ≤ a := by omega
  have hz2 : a ≤ 100000000 := by omega
  have HKStringS := Lib.hid KStringS
  clear h hF ha hk KStringS
  go_enter Try.func45, Try.ntmps45
  go_wp2_with fail
  refine named fun W1 hW1 => ?_
  have O1 := Lib.hid (show Owns n W1 F shAddr_ [.l l0, .s s1, .s s2, .i x3, .i x4, .s s5] [.slice A0 l0.length c0, .string s1, .string s2, .int .i64 x3, .int .i64 x4, .string s5] from by (rw [← hW1]; exact H.out.below (below_a1 _ _)))
  have E1 := Lib.hid (show Only F w W1 from by (rw [← hW1]; exact Only.of_below (below_a1 _ _)))
  have B1 := Lib.hid (show Blk W1 w.heap.size 34 #[.slice A0 l0.length c0, .string s1, .string s2, .int .i64 x3, .int .i64 x4, .string s5] from by (rw [← hW1]; exact Blk.new _ _ _))
  obtain ⟨F1, hF1, hs1, hcl1⟩ := Owns.part (ks1 := []) (ks2 := [.l 0]) (ks3 := [.s, .s, .i, .i, .s]) (ds1 := []) (ds2 := [.l l0]) (ds3 := [.s s1, .s s2, .i x3, .i x4, .s s5]) (vs1 := []) (vs2 := [.slice A0 l0.length c0]) (vs3 := [.string s1, .string s2, .int .i64 x3, .int .i64 x4, .string s5]) O1.out rfl rfl rfl rfl
  have HCL1 := Lib.hid hcl1
  have HSS1 := Lib.hid hs1
  have HG1 := Lib.hid hF1
  clear hW1 hcl1 hs1 hF1
  refine (HKStringS.out F1 l0 _ _ (k) _ (Owns.to1 HSS1.out) (by have := HA.out; have := HK.out; omega) (by have := HA.out; have := HK.out; omega) (by have := HA.out; have := HK.out; omega)).mono ?_
  rintro _ v1 ⟨z1, rfl, hz1, ho, hon⟩
  have P1 := Lib.hid (HCL1.out v1 _ hon (Owns.of1 ho))
  have PN1 := Lib.hid (E1.out.trans (hon.mono HG1.out))
  have C1 : Hid (Blk v1 w.heap.size 34 #[.slice A0 l0.length c0, .string s1, .string s2, .int .i64 x3, .int .i64 x4, .string s5]) := by (show Blk _ _ _ _; unfold Blk; rw [hon.block _ B1.out.lt (fun hx => by (have := HF.out _ (HG1.out _ hx); omega))]; exact B1.out)
  have c1 := C1.out.cell
  have HZ1 := Lib.hid hz1
  have hz1a : 1 ≤ z1 := by (have := HA.out; have := HK.out; omega)
  have hz1b : z1 ≤ 100000000 := by (have := HA.out; have := HK.out; omega)
  clear ho hon hz1 O1 E1 B1 HCL1 HSS1 HG1
  go_wp2
  go_ret
  exact ⟨z1, rfl, by (simp only [nV]; have := HA.out; have := HZ1.out; have := HK.out; omega), by (simp only [mV]; exact P1.out), PN1.out⟩
theorem mkAddr_all (n : Nat) : MkAddr n := mkAddr_of (mkStringS_all n)
set_option maxHeartbeats 4000000 in
theorem mkExprS_of {n : Nat} (KExprS : ∀ m, m < n → MkExprS m) (KStringS : ∀ m, m < n → MkStringS m) : MkExprS n := fun F xs v a k w h ha hk1 hk => by
  obtain ⟨_, A, c, el, rfl, hl⟩ := h.cell.lst
  injection el with el
  subst el
  have H := Lib.hid h
  have HA := Lib.hid ha
  have HK := Lib.hid hk
  unfold maxLen at hl
  have HKExprS := Lib.hid KExprS
  have HKStringS := Lib.hid KStringS
  clear h ha hk KExprS KStringS
  go_enter Try.func46, Try.ntmps46
  go_wp2
  go_loopw [1, 5] (fun q i wr => ∃ (j m : Nat) (z : Int), j ≤ xs.length ∧ i = .int .i64 j ∧ q = .int .i64 z ∧ (m : Int) = z ∧ m = k + nL (xs.take j) ∧ Own n wr F (.l 3) (.l (mixL k j xs)) (.slice A xs.length c) ∧ Only F w wr) (fun _ i _ => xs.length - (intOf i).toNat)
  case atStart => exact ⟨0, k, a, Nat.zero_le _, rfl, rfl, HA.out, by simp [nL], by rw [mix_zero]; exact H.out, Only.refl _ _⟩
  case round =>
    obtain ⟨j, m, z, hj, rfl, rfl, hmz, hm, ho, hon⟩ := hrel
    have HZ := Lib.hid hmz
    have HM := Lib.hid hm
    have HO := Lib.hid ho
    have ON := Lib.hid hon
    have HT1 := Lib.hid (nL_le xs j)
    have hz1 : 1 ≤ z := by have := HM.out; omega
    have hz2 : z ≤ 100000000 := by have := HM.out; have := HK.out; have := HT1.out; omega
    clear hmz hm ho hon
    by_cases hlt : j < xs.length
    · have eL := mix_len k j xs hj
      have hjl : j < (mixL k j xs).length := by rw [eL]; exact hlt
      have hin0 := (Own.cell (show Own n wr F (.l 3) (.l (mixL k j xs)) (.slice A (mixL k j xs).length c) from by rw [eL]; exact HO.out)).item j hjl
      obtain ⟨m0, b, o, us, hm0, rfl, _, hbl, hr, hin⟩ := hin0
      rw [mix_at k j xs hlt hjl] at hin
      obtain ⟨x0, x1, x2, s3, l4, s5, s6, x7, x8, s9, s10, l11, A4, c4, A11, c11, ed, rfl, k0, k1, k2, k3, k4, k5, k6, k7, k8, k9, k10, k11⟩ := open_Expr hin
      obtain ⟨Y, hY⟩ : ∃ Y, Y = mixL k j xs := ⟨_, rfl⟩
      have hjY : j < Y.length := by rw [hY]; exact hjl
      have O0 := Lib.hid (show Own n wr F (.l 3) (.l (Y.set j [.i x0, .i x1, .i x2, .s s3, .l l4, .s s5, .s s6, .i x7, .i x8, .s s9, .s s10, .l l11])) (.slice (some ⟨b, o, none⟩) xs.length c) from by
        have e0 : Y.set j [.i x0, .i x1, .i x2, .s s3, .l l4, .s s5, .s s6, .i x7, .i x8, .s s9, .s s10, .l l11] = mixL k j xs := by rw [← ed, ← mix_at k j xs hlt hjl, hY]; exact self_set hjl
        rw [e0]; exact HO.out)
      have hn := nL_take xs j hlt
      rw [ed] at hn
      simp only [nCs, nC] at hn
      have HN := Lib.hid hn
      have HT := Lib.hid (nL_le xs (j + 1))
      have HS : Hid (m + (1 + 1 + 1 + 1 + nL l4 + 1 + 1 + 1 + 1 + 1 + 1 + nL l11) ≤ 100000000) := by (show _ ≤ _; have := HM.out; have := HK.out; have := HT.out; omega)
      have HY := Lib.hid hY
      have HED := Lib.hid ed
      have HJ := Lib.hid hjY
      have hjI : (j : Int) < xs.length := by omega
      have hj0 : (0 : Int) ≤ j := by omega
      clear hY ed hn hjY hr hin hjl eL HO hm0 k0 k1 k2 k3 k4 k5 k6 k7 k8 k9 k10 k11
      obtain ⟨y0, hy0, hf0⟩ := (O0.out.thereat (N := 12) rfl HJ.out).2.2 0 (by omega)
      rw [Nat.add_zero] at hy0 hf0
      obtain ⟨y1, hy1, hf1⟩ := (O0.out.thereat (N := 12) rfl HJ.out).2.2 1 (by omega)
      obtain ⟨y2, hy2, hf2⟩ := (O0.out.thereat (N := 12) rfl HJ.out).2.2 2 (by omega)
      go_wp2_with fail
      refine named fun W1 hW1 => ?_
      have O1 := Lib.hid (show Own n W1 F (.l 3) (.l (Y.set j [.i ((m : Nat) : Int), .i ((m + 1 : Nat) : Int), .i ((m + 1 + 1 : Nat) : Int), .s s3, .l l4, .s s5, .s s6, .i x7, .i x8, .s s9, .s s10, .l l11])) (.slice (some ⟨b, o, none⟩) xs.length c) from by (rw [← hW1]; exact (Own.putat (Own.putat (Own.putat O0.out (N := 12) rfl HJ.out 0 .i rfl (fun _ h => by cases h) (.i ((m : Nat) : Int)) _ (show Own 0 _ F .i (.i ((m : Nat) : Int)) _ from ⟨by (congr 1; have := HZ.out; have := HS.out; omega), by (constructor <;> (have := HZ.out; have := HS.out; omega))⟩)) (N := 12) rfl HJ.out 1 .i rfl (fun _ h => by cases h) (.i ((m + 1 : Nat) : Int)) _ (show Own 0 _ F .i (.i ((m + 1 : Nat) : Int)) _ from ⟨by (congr 1; have := HZ.out; have := HS.out; omega), by (constructor <;> (have := HZ.out; have := HS.out; omega))⟩)) (N := 12) rfl HJ.out 2 .i rfl (fun _ h => by cases h) (.i ((m + 1 + 1 : Nat) : Int)) _ (show Own 0 _ F .i (.i ((m + 1 + 1 : Nat) : Int)) _ from ⟨by (congr 1; have := HZ.out; have := HS.out; omega), by (constructor <;> (have := HZ.out; have := HS.out; omega))⟩))))
      have ON1 := Lib.hid (show Only F w W1 from by (rw [← hW1]; exact (Only.setCell (Only.setCell (Only.setCell ON.out (p := ⟨b, _, none⟩) (show F b from (O0.out.thereat (N := 12) rfl HJ.out).1) _) (p := ⟨b, _, none⟩) (show F b from (O0.out.thereat (N := 12) rfl HJ.out).1) _) (p := ⟨b, _, none⟩) (show F b from (O0.out.thereat (N := 12) rfl HJ.out).1) _)))
      clear hW1 hy0 hf0 hy1 hf1 hy2 hf2
      refine (mark_text (m + 1 + 1 + 1) _ _ (by have := HZ.out; have := HS.out; omega) (by have := HZ.out; have := HS.out; omega) (by have := HZ.out; have := HS.out; omega)).mono ?_
      rintro _ v1 ⟨rfl, hb⟩
      have P1 := Lib.hid (O1.out.below hb)
      have PN1 := Lib.hid (ON1.out.trans (Only.of_below hb))
      clear hb O1 ON1
      obtain ⟨y3, hy3, hf3⟩ := (P1.out.thereat (N := 12) rfl HJ.out).2.2 3 (by omega)
      obtain ⟨A4', c4', hc4⟩ := Own.lcell (N := 12) P1.out rfl HJ.out 4 rfl rfl
      go_wp2_with fail
      refine named fun W2 hW2 => ?_
      have O2 := Lib.hid (show Own n W2 F (.l 3) (.l (Y.set j [.i ((m : Nat) : Int), .i ((m + 1 : Nat) : Int), .i ((m + 1 + 1 : Nat) : Int), .s (markT (m + 1 + 1 + 1)), .l l4, .s s5, .s s6, .i x7, .i x8, .s s9, .s s10, .l l11])) (.slice (some ⟨b, o, none⟩) xs.length c) from by (rw [← hW2]; exact (Own.putat P1.out (N := 12) rfl HJ.out 3 .s rfl (fun _ h => by cases h) (.s (markT (m + 1 + 1 + 1))) _ (Own.mkS (mark_sz _ (by have := HZ.out; have := HS.out; omega))))))
      have ON2 := Lib.hid (show Only F w W2 from by (rw [← hW2]; exact (Only.setCell PN1.out (p := ⟨b, _, none⟩) (show F b from (O0.out.thereat (N := 12) rfl HJ.out).1) _)))
      have hd4 : W2.cell? ⟨b, o + j * 12 + 4, none⟩ = some (.slice A4' l4.length c4') := by (rw [← hW2]; first | exact hc4 | simp [go_sem, hc4])
      obtain ⟨q2, G2, hq2, hG2, hs2, hcl2⟩ := O2.out.cellat (N := 12) rfl HJ.out 4 rfl rfl hd4
      have HCL2 := Lib.hid hcl2
      have HSS2 := Lib.hid hs2
      have HG2 := Lib.hid hG2
      clear hW2 hd4 hcl2 hs2 hG2 hy3 hf3 hc4
      refine (HKStringS.out q2 (by omega) G2 l4 _ _ (m + 1 + 1 + 1 + 1) _ HSS2.out (by have := HZ.out; have := HS.out; omega) (by have := HZ.out; have := HS.out; omega) (by have := HZ.out; have := HS.out; omega)).mono ?_
      rintro _ v2 ⟨z2, rfl, hz2, ho, hon⟩
      have P2 := Lib.hid (HCL2.out v2 _ hon ho)
      have PN2 := Lib.hid (ON2.out.trans (hon.mono HG2.out))
      have HZ2 := Lib.hid hz2
      have hz2a : 1 ≤ z2 := by (have := HZ.out; have := HS.out; omega)
      have hz2b : z2 ≤ 100000000 := by (have := HZ.out; have := HS.out; omega)
      clear ho hon hz2 O2 ON2 HCL2 HSS2 HG2 hq2
      go_wp2_with fail
      refine named fun W3 hW3 => ?_
      have O3 := Lib.hid (show Own n W3 F (.l 3) (.l (Y.set j [.i ((m : Nat) : Int), .i ((m + 1 : Nat) : Int), .i ((m + 1 + 1 : Nat) : Int), .s (markT (m + 1 + 1 + 1)), .l (mL (m + 1 + 1 + 1 + 1) l4), .s s5, .s s6, .i x7, .i x8, .s s9, .s s10, .l l11])) (.slice (some ⟨b, o, none⟩) xs.length c) from by (rw [← hW3]; exact P2.out))
      have ON3 := Lib.hid (show Only F w W3 from by (rw [← hW3]; exact PN2.out))
      clear hW3 
      refine (mark_text (m + 1 + 1 + 1 + 1 + nL l4) _ _ (by have := HZ.out; have := HZ2.out; have := HS.out; omega) (by have := HZ.out; have := HZ2.out; have := HS.out; omega) (by have := HZ.out; have := HZ2.out; have := HS.out; omega)).mono ?_
      rintro _ v3 ⟨rfl, hb⟩
      have P3 := Lib.hid (O3.out.below hb)
      have PN3 := Lib.hid (ON3.out.trans (Only.of_below hb))
      clear hb O3 ON3
      obtain ⟨y5, hy5, hf5⟩ := (P3.out.thereat (N := 12) rfl HJ.out).2.2 5 (by omega)
      go_wp2_with fail
      refine named fun W4 hW4 => ?_
      have O4 := Lib.hid (show Own n W4 F (.l 3) (.l (Y.set j [.i ((m : Nat) : Int), .i ((m + 1 : Nat) : Int), .i ((m + 1 + 1 : Nat) : Int), .s (markT (m + 1 + 1 + 1)), .l (mL (m + 1 + 1 + 1 + 1) l4), .s (markT (m + 1 + 1 + 1 + 1 + nL l4)), .s s6, .i x7, .i x8, .s s9, .s s10, .l l11])) (.slice (some ⟨b, o, none⟩) xs.length c) from by (rw [← hW4]; exact (Own.putat P3.out (N := 12) rfl HJ.out 5 .s rfl (fun _ h => by cases h) (.s (markT (m + 1 + 1 + 1 + 1 + nL l4))) _ (Own.mkS (mark_sz _ (by have := HZ.out; have := HZ2.out; have := HS.out; omega))))))
      have ON4 := Lib.hid (show Only F w W4 from by (rw [← hW4]; exact (Only.setCell PN3.out (p := ⟨b, _, none⟩) (show F b from (O0.out.thereat (N := 12) rfl HJ.out).1) _)))
      clear hW4 hy5 hf5
      refine (mark_text (m + 1 + 1 + 1 + 1 + nL l4 + 1) _ _ (by have := HZ.out; have := HZ2.out; have := HS.out; omega) (by have := HZ.out; have := HZ2.out; have := HS.out; omega) (by have := HZ.out; have := HZ2.out; have := HS.out; omega)).mono ?_
      rintro _ v4 ⟨rfl, hb⟩
      have P4 := Lib.hid (O4.out.below hb)
      have PN4 := Lib.hid (ON4.out.trans (Only.of_below hb))
      clear hb O4 ON4
      obtain ⟨y6, hy6, hf6⟩ := (P4.out.thereat (N := 12) rfl HJ.out).2.2 6 (by omega)
      obtain ⟨y7, hy7, hf7⟩ := (P4.out.thereat (N := 12) rfl HJ.out).2.2 7 (by omega)
      obtain ⟨y8, hy8, hf8⟩ := (P4.out.thereat (N := 12) rfl HJ.out).2.2 8 (by omega)
      go_wp2_with fail
      refine named fun W5 hW5 => ?_
      have O5 := Lib.hid (show Own n W5 F (.l 3) (.l (Y.set j [.i ((m : Nat) : Int), .i ((m + 1 : Nat) : Int), .i ((m + 1 + 1 : Nat) : Int), .s (markT (m + 1 + 1 + 1)), .l (mL (m + 1 + 1 + 1 + 1) l4), .s (markT (m + 1 + 1 + 1 + 1 + nL l4)), .s (markT (m + 1 + 1 + 1 + 1 + nL l4 + 1)), .i ((m + 1 + 1 + 1 + 1 + nL l4 + 1 + 1 : Nat) : Int), .i ((m + 1 + 1 + 1 + 1 + nL l4 + 1 + 1 + 1 : Nat) : Int), .s s9, .s s10, .l l11])) (.slice (some ⟨b, o, none⟩) xs.length c) from by (rw [← hW5]; exact (Own.putat (Own.putat (Own.putat P4.out (N := 12) rfl HJ.out 6 .s rfl (fun _ h => by cases h) (.s (markT (m + 1 + 1 + 1 + 1 + nL l4 + 1))) _ (Own.mkS (mark_sz _ (by have := HZ.out; have := HZ2.out; have := HS.out; omega)))) (N := 12) rfl HJ.out 7 .i rfl (fun _ h => by cases h) (.i ((m + 1 + 1 + 1 + 1 + nL l4 + 1 + 1 : Nat) : Int)) _ (show Own 0 _ F .i (.i ((m + 1 + 1 + 1 + 1 + nL l4 + 1 + 1 : Nat) : Int)) _ from ⟨by (congr 1; have := HZ.out; have := HZ2.out; have := HS.out; omega), by (constructor <;> (have := HZ.out; have := HZ2.out; have := HS.out; omega))⟩)) (N := 12) rfl HJ.out 8 .i rfl (fun _ h => by cases h) (.i ((m + 1 + 1 + 1 + 1 + nL l4 + 1 + 1 + 1 : Nat) : Int)) _ (show Own 0 _ F .i (.i ((m + 1 + 1 + 1 + 1 + nL l4 + 1 + 1 + 1 : Nat) : Int)) _ from ⟨by (congr 1; have := HZ.out; have := HZ2.out; have := HS.out; omega), by (constructor <;> (have := HZ.out; have := HZ2.out; have := HS.out; omega))⟩))))
      have ON5 := Lib.hid (show Only F w W5 from by (rw [← hW5]; exact (Only.setCell (Only.setCell (Only.setCell PN4.out (p := ⟨b, _, none⟩) (show F b from (O0.out.thereat (N := 12) rfl HJ.out).1) _) (p := ⟨b, _, none⟩) (show F b from (O0.out.thereat (N := 12) rfl HJ.out).1) _) (p := ⟨b, _, none⟩) (show F b from (O0.out.thereat (N := 12) rfl HJ.out).1) _)))
      clear hW5 hy6 hf6 hy7 hf7 hy8 hf8
      refine (mark_text (m + 1 + 1 + 1 + 1 + nL l4 + 1 + 1 + 1 + 1) _ _ (by have := HZ.out; have := HZ2.out; have := HS.out; omega) (by have := HZ.out; have := HZ2.out; have := HS.out; omega) (by have := HZ.out; have := HZ2.out; have := HS.out; omega)).mono ?_
      rintro _ v5 ⟨rfl, hb⟩
      have P5 := Lib.hid (O5.out.below hb)
      have PN5 := Lib.hid (ON5.out.trans (Only.of_below hb))
      clear hb O5 ON5
      obtain ⟨y9, hy9, hf9⟩ := (P5.out.thereat (N := 12) rfl HJ.out).2.2 9 (by omega)
      go_wp2_with fail
      refine named fun W6 hW6 => ?_
      have O6 := Lib.hid (show Own n W6 F (.l 3) (.l (Y.set j [.i ((m : Nat) : Int), .i ((m + 1 : Nat) : Int), .i ((m + 1 + 1 : Nat) : Int), .s (markT (m + 1 + 1 + 1)), .l (mL (m + 1 + 1 + 1 + 1) l4), .s (markT (m + 1 + 1 + 1 + 1 + nL l4)), .s (markT (m + 1 + 1 + 1 + 1 + nL l4 + 1)), .i ((m + 1 + 1 + 1 + 1 + nL l4 + 1 + 1 : Nat) : Int), .i ((m + 1 + 1 + 1 + 1 + nL l4 + 1 + 1 + 1 : Nat) : Int), .s (markT (m + 1 + 1 + 1 + 1 + nL l4 + 1 + 1 + 1 + 1)), .s s10, .l l11])) (.slice (some ⟨b, o, none⟩) xs.length c) from by (rw [← hW6]; exact (Own.putat P5.out (N := 12) rfl HJ.out 9 .s rfl (fun _ h => by cases h) (.s (markT (m + 1 + 1 + 1 + 1 + nL l4 + 1 + 1 + 1 + 1))) _ (Own.mkS (mark_sz _ (by have := HZ.out; have := HZ2.out; have := HS.out; omega))))))
      have ON6 := Lib.hid (show Only F w W6 from by (rw [← hW6]; exact (Only.setCell PN5.out (p := ⟨b, _, none⟩) (show F b from (O0.out.thereat (N := 12) rfl HJ.out).1) _)))
      clear hW6 hy9 hf9
      refine (mark_text (m + 1 + 1 + 1 + 1 + nL l4 + 1 + 1 + 1 + 1 + 1) _ _ (by have := HZ.out; have := HZ2.out; have := HS.out; omega) (by have := HZ.out; have := HZ2.out; have := HS.out; omega) (by have := HZ.out; have := HZ2.out; have := HS.out; omega)).mono ?_
      rintro _ v6 ⟨rfl, hb⟩
      have P6 := Lib.hid (O6.out.below hb)
      have PN6 := Lib.hid (ON6.out.trans (Only.of_below hb))
      clear hb O6 ON6
      obtain ⟨y10, hy10, hf10⟩ := (P6.out.thereat (N := 12) rfl HJ.out).2.2 10 (by omega)
      obtain ⟨A11', c11', hc11⟩ := Own.lcell (N := 12) P6.out rfl HJ.out 11 rfl rfl
      go_wp2_with fail
      refine named fun W7 hW7 => ?_
      have O7 := Lib.hid (show Own n W7 F (.l 3) (.l (Y.set j [.i ((m : Nat) : Int), .i ((m + 1 : Nat) : Int), .i ((m + 1 + 1 : Nat) : Int), .s (markT (m + 1 + 1 + 1)), .l (mL (m + 1 + 1 + 1 + 1) l4), .s (markT (m + 1 + 1 + 1 + 1 + nL l4)), .s (markT (m + 1 + 1 + 1 + 1 + nL l4 + 1)), .i ((m + 1 + 1 + 1 + 1 + nL l4 + 1 + 1 : Nat) : Int), .i ((m + 1 + 1 + 1 + 1 + nL l4 + 1 + 1 + 1 : Nat) : Int), .s (markT (m + 1 + 1 + 1 + 1 + nL l4 + 1 + 1 + 1 + 1)), .s (markT (m + 1 + 1 + 1 + 1 + nL l4 + 1 + 1 + 1 + 1 + 1)), .l l11])) (.slice (some ⟨b, o, none⟩) xs.length c) from by (rw [← hW7]; exact (Own.putat P6.out (N := 12) rfl HJ.out 10 .s rfl (fun _ h => by cases h) (.s (markT (m + 1 + 1 + 1 + 1 + nL l4 + 1 + 1 + 1 + 1 + 1))) _ (Own.mkS (mark_sz _ (by have := HZ.out; have := HZ2.out; have := HS.out; omega))))))
      have ON7 := Lib.hid (show Only F w W7 from by (rw [← hW7]; exact (Only.setCell PN6.out (p := ⟨b, _, none⟩) (show F b from (O0.out.thereat (N := 12) rfl HJ.out).1) _)))
      have hd11 : W7.cell? ⟨b, o + j * 12 + 11, none⟩ = some (.slice A11' l11.length c11') := by (rw [← hW7]; first | exact hc11 | simp [go_sem, hc11])
      obtain ⟨q7, G7, hq7, hG7, hs7, hcl7⟩ := O7.out.cellat (N := 12) rfl HJ.out 11 rfl rfl hd11
      have HCL7 := Lib.hid hcl7
      have HSS7 := Lib.hid hs7
      have HG7 := Lib.hid hG7
      clear hW7 hd11 hcl7 hs7 hG7 hy10 hf10 hc11
      refine (HKExprS.out q7 (by omega) G7 l11 _ _ (m + 1 + 1 + 1 + 1 + nL l4 + 1 + 1 + 1 + 1 + 1 + 1) _ HSS7.out (by have := HZ.out; have := HZ2.out; have := HS.out; omega) (by have := HZ.out; have := HZ2.out; have := HS.out; omega) (by have := HZ.out; have := HZ2.out; have := HS.out; omega)).mono ?_
      rintro _ v7 ⟨z7, rfl, hz7, ho, hon⟩
      have P7 := Lib.hid (HCL7.out v7 _ hon ho)
      have PN7 := Lib.hid (ON7.out.trans (hon.mono HG7.out))
      have HZ7 := Lib.hid hz7
      have hz7a : 1 ≤ z7 := by (have := HZ.out; have := HZ2.out; have := HS.out; omega)
      have hz7b : z7 ≤ 100000000 := by (have := HZ.out; have := HZ2.out; have := HS.out; omega)
      clear ho hon hz7 O7 ON7 HCL7 HSS7 HG7 hq7
      go_wp2
      go_roundw
      case rel =>
        refine ⟨j + 1, m + 1 + 1 + 1 + 1 + nL l4 + 1 + 1 + 1 + 1 + 1 + 1 + nL l11, _, hlt, by go_num, rfl, by have := HZ.out; have := HZ2.out; have := HZ7.out; have := HS.out; omega, by (have := HN.out; have := HM.out; omega), ?_, ?_⟩
        · have e9 : mixL k (j + 1) xs = Y.set j [.i ((m : Nat) : Int), .i ((m + 1 : Nat) : Int), .i ((m + 1 + 1 : Nat) : Int), .s (markT (m + 1 + 1 + 1)), .l (mL (m + 1 + 1 + 1 + 1) l4), .s (markT (m + 1 + 1 + 1 + 1 + nL l4)), .s (markT (m + 1 + 1 + 1 + 1 + nL l4 + 1)), .i ((m + 1 + 1 + 1 + 1 + nL l4 + 1 + 1 : Nat) : Int), .i ((m + 1 + 1 + 1 + 1 + nL l4 + 1 + 1 + 1 : Nat) : Int), .s (markT (m + 1 + 1 + 1 + 1 + nL l4 + 1 + 1 + 1 + 1)), .s (markT (m + 1 + 1 + 1 + 1 + nL l4 + 1 + 1 + 1 + 1 + 1)), .l (mL (m + 1 + 1 + 1 + 1 + nL l4 + 1 + 1 + 1 + 1 + 1 + 1) l11)] := by
            rw [← mix_set k j xs hlt, HED.out, HY.out, ← HM.out]
            simp only [mCs, mC, nC]
          rw [e9]
          exact P7.out
        · exact PN7.out
      case measure => simp [intOf]; omega
    · obtain rfl : j = xs.length := by omega
      have e9 := mix_all k xs
      have HE9 := Lib.hid e9
      clear e9
      go_wp2
      go_ret
      exact ⟨z, rfl, by (have := HZ.out; have h8 := HM.out; rw [List.take_length] at h8; omega), by (have := HO.out; rw [HE9.out] at this; exact this), ON.out⟩
theorem mkExprS_all (n : Nat) : MkExprS n := by
  induction n using Nat.strongRecOn with
  | ind n ih => exact mkExprS_of ih (fun m _ => mkStringS_all m)
set_option maxHeartbeats 4000000 in
theorem mkExpr_of {n : Nat} (KAddr : MkAddr n) (KExprS : MkExprS n) : MkExpr n := fun F ds vs a k w h hF ha hk1 hk => by
  obtain ⟨x0, x1, x2, s3, l4, s5, s6, x7, x8, s9, s10, l11, A4, c4, A11, c11, rfl, rfl, _, _, _, _, _, _, _, _, _, _, _, _⟩ := open_Expr h.cells
  have H := Lib.hid h
  have HF := Lib.hid hF
  have HA := Lib.hid ha
  simp only [nV] at hk
  have HK := Lib.hid hk
  have hz1 : 1 ≤ a := by omega
  have hz2 : a ≤ 100000000 := by omega
  have HKAddr := Lib.hid KAddr
  have HKExprS := Lib.hid KExprS
  clear h hF ha hk KAddr KExprS
  go_enter Try.func13, Try.ntmps13
  go_wp2_with fail
  refine named fun W1 hW1 => ?_
  have O1 := Lib.hid (show Owns n W1 F shExpr_ [.i x0, .i x1, .i x2, .s s3, .l l4, .s s5, .s s6, .i x7, .i x8, .s s9, .s s10, .l l11] [.int .i64 x0, .int .i64 x1, .int .i64 x2, .string s3, .slice A4 l4.length c4, .string s5, .string s6, .int .i64 x7, .int .i64 x8, .string s9, .string s10, .slice A11 l11.length c11] from by (rw [← hW1]; exact H.out.below (below_a1 _ _)))
  have E1 := Lib.hid (show Only F w W1 from by (rw [← hW1]; exact Only.of_below (below_a1 _ _)))
  have B1 := Lib.hid (show Blk W1 w.heap.size 37 #[.int .i64 x0, .int .i64 x1, .int .i64 x2, .string s3, .slice A4 l4.length c4, .string s5, .string s6, .int .i64 x7, .int .i64 x8, .string s9, .string s10, .slice A11 l11.length c11] from by (rw [← hW1]; exact Blk.new _ _ _))
  obtain ⟨F1, hF1, hs1, hcl1⟩ := Owns.part (ks1 := [.i, .i, .i, .s]) (ks2 := [.l 0, .s, .s, .i, .i, .s]) (ks3 := [.s, .l 3]) (ds1 := [.i x0, .i x1, .i x2, .s s3]) (ds2 := [.l l4, .s s5, .s s6, .i x7, .i x8, .s s9]) (ds3 := [.s s10, .l l11]) (vs1 := [.int .i64 x0, .int .i64 x1, .int .i64 x2, .string s3]) (vs2 := [.slice A4 l4.length c4, .string s5, .string s6, .int .i64 x7, .int .i64 x8, .string s9]) (vs3 := [.string s10, .slice A11 l11.length c11]) O1.out rfl rfl rfl rfl
  have HCL1 := Lib.hid hcl1
  have HSS1 := Lib.hid hs1
  have HG1 := Lib.hid hF1
  clear hW1 hcl1 hs1 hF1
  refine (HKAddr.out F1 [.l l4, .s s5, .s s6, .i x7, .i x8, .s s9] [.slice A4 l4.length c4, .string s5, .string s6, .int .i64 x7, .int .i64 x8, .string s9] _ (k) _ HSS1.out (fun x hx => Nat.lt_of_lt_of_le (HF.out x (HG1.out x hx)) E1.out.size) (by have := HA.out; have := HK.out; omega) (by have := HA.out; have := HK.out; omega) (by (try simp only [nV]); have := HA.out; have := HK.out; omega)).mono ?_
  rintro _ v1 ⟨z1, rfl, hz1, ho, hon⟩
  simp only [nV, mV] at hz1 ho
  have P1 := Lib.hid (HCL1.out v1 _ hon ho)
  have PN1 := Lib.hid (E1.out.trans (hon.mono HG1.out))
  have C1 : Hid (Blk v1 w.heap.size 37 #[.int .i64 x0, .int .i64 x1, .int .i64 x2, .string s3, .slice A4 l4.length c4, .string s5, .string s6, .int .i64 x7, .int .i64 x8, .string s9, .string s10, .slice A11 l11.length c11]) := by (show Blk _ _ _ _; unfold Blk; rw [hon.block _ B1.out.lt (fun hx => by (have := HF.out _ (HG1.out _ hx); omega))]; exact B1.out)
  have c1 := C1.out.cell
  have HZ1 := Lib.hid hz1
  have hz1a : 1 ≤ z1 := by (have := HA.out; have := HK.out; omega)
  have hz1b : z1 ≤ 100000000 := by (have := HA.out; have := HK.out; omega)
  clear ho hon hz1 O1 E1 B1 HCL1 HSS1 HG1
  go_wp2_with fail
  refine named fun W2 hW2 => ?_
  have O2 := Lib.hid (show Owns n W2 F shExpr_ [.i x0, .i x1, .i x2, .s s3, .l (mL (k) l4), .s s5, .s s6, .i x7, .i x8, .s s9, .s s10, .l l11] [.int .i64 x0, .int .i64 x1, .int .i64 x2, .string s3, .slice A4 l4.length c4, .string s5, .string s6, .int .i64 x7, .int .i64 x8, .string s9, .string s10, .slice A11 l11.length c11] from by (rw [← hW2]; exact P1.out))
  have E2 := Lib.hid (show Only F w W2 from by (rw [← hW2]; exact PN1.out))
  have B2 := Lib.hid (show Blk W2 w.heap.size 37 #[.int .i64 x0, .int .i64 x1, .int .i64 x2, .string s3, .slice A4 l4.length c4, .string s5, .string s6, .int .i64 x7, .int .i64 x8, .string s9, .string s10, .slice A11 l11.length c11] from by (rw [← hW2]; exact C1.out))
  obtain ⟨F2, hF2, hs2, hcl2⟩ := Owns.part (ks1 := [.i, .i, .i, .s, .l 0, .s, .s, .i, .i, .s, .s]) (ks2 := [.l 3]) (ks3 := []) (ds1 := [.i x0, .i x1, .i x2, .s s3, .l (mL (k) l4), .s s5, .s s6, .i x7, .i x8, .s s9, .s s10]) (ds2 := [.l l11]) (ds3 := []) (vs1 := [.int .i64 x0, .int .i64 x1, .int .i64 x2, .string s3, .slice A4 l4.length c4, .string s5, .string s6, .int .i64 x7, .int .i64 x8, .string s9, .string s10]) (vs2 := [.slice A11 l11.length c11]) (vs3 := []) O2.out rfl rfl rfl rfl
  have HCL2 := Lib.hid hcl2
  have HSS2 := Lib.hid hs2
  have HG2 := Lib.hid hF2
  clear hW2 hcl2 hs2 hF2 c1 C1
  refine (HKExprS.out F2 l11 _ _ (k + nL l4) _ (Owns.to1 HSS2.out) (by have := HA.out; have := HZ1.out; have := HK.out; omega) (by have := HA.out; have := HZ1.out; have := HK.out; omega) (by have := HA.out; have := HZ1.out; have := HK.out; omega)).mono ?_
  rintro _ v2 ⟨z2, rfl, hz2, ho, hon⟩
  have P2 := Lib.hid (HCL2.out v2 _ hon (Owns.of1 ho))
  have PN2 := Lib.hid (E2.out.trans (hon.mono HG2.out))
  have C2 : Hid (Blk v2 w.heap.size 37 #[.int .i64 x0, .int .i64 x1, .int .i64 x2, .string s3, .slice A4 l4.length c4, .string s5, .string s6, .int .i64 x7, .int .i64 x8, .string s9, .string s10, .slice A11 l11.length c11]) := by (show Blk _ _ _ _; unfold Blk; rw [hon.block _ B2.out.lt (fun hx => by (have := HF.out _ (HG2.out _ hx); omega))]; exact B2.out)
  have c2 := C2.out.cell
  have HZ2 := Lib.hid hz2
  have hz2a : 1 ≤ z2 := by (have := HA.out; have := HZ1.out; have := HK.out; omega)
  have hz2b : z2 ≤ 100000000 := by (have := HA.out; have := HZ1.out; have := HK.out; omega)
  clear ho hon hz2 O2 E2 B2 HCL2 HSS2 HG2
  go_wp2
  go_ret
  exact ⟨z2, rfl, by (simp only [nV]; have := HA.out; have := HZ1.out; have := HZ2.out; have := HK.out; omega), by (simp only [mV]; exact P2.out), PN2.out⟩
theorem mkExpr_all (n : Nat) : MkExpr n := mkExpr_of (mkAddr_all n) (mkExprS_all n)
set_option maxHeartbeats 4000000 in
theorem mkAddrS_of {n : Nat} (KStringS : ∀ m, m < n → MkStringS m) : MkAddrS n := fun F xs v a k w h ha hk1 hk => by
  obtain ⟨_, A, c, el, rfl, hl⟩ := h.cell.lst
  injection el with el
  subst el
  have H := Lib.hid h
  have HA := Lib.hid ha
  have HK := Lib.hid hk
  unfold maxLen at hl
  have HKStringS := Lib.hid KStringS
  clear h ha hk KStringS
  go_enter Try.func14, Try.ntmps14
  go_wp2
  go_loopw [1, 5] (fun q i wr => ∃ (j m : Nat) (z : Int), j ≤ xs.length ∧ i = .int .i64 j ∧ q = .int .i64 z ∧ (m : Int) = z ∧ m = k + nL (xs.take j) ∧ Own n wr F (.l 2) (.l (mixL k j xs)) (.slice A xs.length c) ∧ Only F w wr) (fun _ i _ => xs.length - (intOf i).toNat)
  case atStart => exact ⟨0, k, a, Nat.zero_le _, rfl, rfl, HA.out, by simp [nL], by rw [mix_zero]; exact H.out, Only.refl _ _⟩
  case round =>
    obtain ⟨j, m, z, hj, rfl, rfl, hmz, hm, ho, hon⟩ := hrel
    have HZ := Lib.hid hmz
    have HM := Lib.hid hm
    have HO := Lib.hid ho
    have ON := Lib.hid hon
    have HT1 := Lib.hid (nL_le xs j)
    have hz1 : 1 ≤ z := by have := HM.out; omega
    have hz2 : z ≤ 100000000 := by have := HM.out; have := HK.out; have := HT1.out; omega
    clear hmz hm ho hon
    by_cases hlt : j < xs.length
    · have eL := mix_len k j xs hj
      have hjl : j < (mixL k j xs).length := by rw [eL]; exact hlt
      have hin0 := (Own.cell (show Own n wr F (.l 2) (.l (mixL k j xs)) (.slice A (mixL k j xs).length c) from by rw [eL]; exact HO.out)).item j hjl
      obtain ⟨m0, b, o, us, hm0, rfl, _, hbl, hr, hin⟩ := hin0
      rw [mix_at k j xs hlt hjl] at hin
      obtain ⟨l0, s1, s2, x3, x4, s5, A0, c0, ed, rfl, k0, k1, k2, k3, k4, k5⟩ := open_Addr hin
      obtain ⟨Y, hY⟩ : ∃ Y, Y = mixL k j xs := ⟨_, rfl⟩
      have hjY : j < Y.length := by rw [hY]; exact hjl
      have O0 := Lib.hid (show Own n wr F (.l 2) (.l (Y.set j [.l l0, .s s1, .s s2, .i x3, .i x4, .s s5])) (.slice (some ⟨b, o, none⟩) xs.length c) from by
        have e0 : Y.set j [.l l0, .s s1, .s s2, .i x3, .i x4, .s s5] = mixL k j xs := by rw [← ed, ← mix_at k j xs hlt hjl, hY]; exact self_set hjl
        rw [e0]; exact HO.out)
      have hn := nL_take xs j hlt
      rw [ed] at hn
      simp only [nCs, nC] at hn
      have HN := Lib.hid hn
      have HT := Lib.hid (nL_le xs (j + 1))
      have HS : Hid (m + (nL l0 + 1 + 1 + 1 + 1 + 1) ≤ 100000000) := by (show _ ≤ _; have := HM.out; have := HK.out; have := HT.out; omega)
      have HY := Lib.hid hY
      have HED := Lib.hid ed
      have HJ := Lib.hid hjY
      have hjI : (j : Int) < xs.length := by omega
      have hj0 : (0 : Int) ≤ j := by omega
      clear hY ed hn hjY hr hin hjl eL HO hm0 k0 k1 k2 k3 k4 k5
      obtain ⟨A0', c0', hc0⟩ := Own.lcell (N := 6) O0.out rfl HJ.out 0 rfl rfl
      rw [Nat.add_zero] at hc0
      go_wp2_with fail
      refine named fun W1 hW1 => ?_
      have O1 := Lib.hid (show Own n W1 F (.l 2) (.l (Y.set j [.l l0, .s s1, .s s2, .i x3, .i x4, .s s5])) (.slice (some ⟨b, o, none⟩) xs.length c) from by (rw [← hW1]; exact O0.out))
      have ON1 := Lib.hid (show Only F w W1 from by (rw [← hW1]; exact ON.out))
      have hd0 : W1.cell? ⟨b, o + j * 6, none⟩ = some (.slice A0' l0.length c0') := by (rw [← hW1]; first | exact hc0 | simp [go_sem, hc0])
      obtain ⟨q1, G1, hq1, hG1, hs1, hcl1⟩ := O1.out.cellat (N := 6) rfl HJ.out 0 rfl rfl (by first | exact hd0 | simpa using hd0)
      have HCL1 := Lib.hid hcl1
      have HSS1 := Lib.hid hs1
      have HG1 := Lib.hid hG1
      clear hW1 hd0 hcl1 hs1 hG1 hc0
      refine (HKStringS.out q1 (by omega) G1 l0 _ _ (m) _ HSS1.out (by have := HZ.out; have := HS.out; omega) (by have := HZ.out; have := HS.out; omega) (by have := HZ.out; have := HS.out; omega)).mono ?_
      rintro _ v1 ⟨z1, rfl, hz1, ho, hon⟩
      have P1 := Lib.hid (HCL1.out v1 _ hon ho)
      have PN1 := Lib.hid (ON1.out.trans (hon.mono HG1.out))
      have HZ1 := Lib.hid hz1
      have hz1a : 1 ≤ z1 := by (have := HZ.out; have := HS.out; omega)
      have hz1b : z1 ≤ 100000000 := by (have := HZ.out; have := HS.out; omega)
      clear ho hon hz1 O1 ON1 HCL1 HSS1 HG1 hq1
      go_wp2_with fail
      refine named fun W2 hW2 => ?_
      have O2 := Lib.hid (show Own n W2 F (.l 2) (.l (Y.set j [.l (mL (m) l0), .s s1, .s s2, .i x3, .i x4, .s s5])) (.slice (some ⟨b, o, none⟩) xs.length c) from by (rw [← hW2]; exact P1.out))
      have ON2 := Lib.hid (show Only F w W2 from by (rw [← hW2]; exact PN1.out))
      clear hW2 
      refine (mark_text (m + nL l0) _ _ (by have := HZ.out; have := HZ1.out; have := HS.out; omega) (by have := HZ.out; have := HZ1.out; have := HS.out; omega) (by have := HZ.out; have := HZ1.out; have := HS.out; omega)).mono ?_
      rintro _ v2 ⟨rfl, hb⟩
      have P2 := Lib.hid (O2.out.below hb)
      have PN2 := Lib.hid (ON2.out.trans (Only.of_below hb))
      clear hb O2 ON2
      obtain ⟨y1, hy1, hf1⟩ := (P2.out.thereat (N := 6) rfl HJ.out).2.2 1 (by omega)
      go_wp2_with fail
      refine named fun W3 hW3 => ?_
      have O3 := Lib.hid (show Own n W3 F (.l 2) (.l (Y.set j [.l (mL (m) l0), .s (markT (m + nL l0)), .s s2, .i x3, .i x4, .s s5])) (.slice (some ⟨b, o, none⟩) xs.length c) from by (rw [← hW3]; exact (Own.putat P2.out (N := 6) rfl HJ.out 1 .s rfl (fun _ h => by cases h) (.s (markT (m + nL l0))) _ (Own.mkS (mark_sz _ (by have := HZ.out; have := HZ1.out; have := HS.out; omega))))))
      have ON3 := Lib.hid (show Only F w W3 from by (rw [← hW3]; exact (Only.setCell PN2.out (p := ⟨b, _, none⟩) (show F b from (O0.out.thereat (N := 6) rfl HJ.out).1) _)))
      clear hW3 hy1 hf1
      refine (mark_text (m + nL l0 + 1) _ _ (by have := HZ.out; have := HZ1.out; have := HS.out; omega) (by have := HZ.out; have := HZ1.out; have := HS.out; omega) (by have := HZ.out; have := HZ1.out; have := HS.out; omega)).mono ?_
      rintro _ v3 ⟨rfl, hb⟩
      have P3 := Lib.hid (O3.out.below hb)
      have PN3 := Lib.hid (ON3.out.trans (Only.of_below hb))
      clear hb O3 ON3
      obtain ⟨y2, hy2, hf2⟩ := (P3.out.thereat (N := 6) rfl HJ.out).2.2 2 (by omega)
      obtain ⟨y3, hy3, hf3⟩ := (P3.out.thereat (N := 6) rfl HJ.out).2.2 3 (by omega)
      obtain ⟨y4, hy4, hf4⟩ := (P3.out.thereat (N := 6) rfl HJ.out).2.2 4 (by omega)
      go_wp2_with fail
      refine named fun W4 hW4 => ?_
      have O4 := Lib.hid (show Own n W4 F (.l 2) (.l (Y.set j [.l (mL (m) l0), .s (markT (m + nL l0)), .s (markT (m + nL l0 + 1)), .i ((m + nL l0 + 1 + 1 : Nat) : Int), .i ((m + nL l0 + 1 + 1 + 1 : Nat) : Int), .s s5])) (.slice (some ⟨b, o, none⟩) xs.length c) from by (rw [← hW4]; exact (Own.putat (Own.putat (Own.putat P3.out (N := 6) rfl HJ.out 2 .s rfl (fun _ h => by cases h) (.s (markT (m + nL l0 + 1))) _ (Own.mkS (mark_sz _ (by have := HZ.out; have := HZ1.out; have := HS.out; omega)))) (N := 6) rfl HJ.out 3 .i rfl (fun _ h => by cases h) (.i ((m + nL l0 + 1 + 1 : Nat) : Int)) _ (show Own 0 _ F .i (.i ((m + nL l0 + 1 + 1 : Nat) : Int)) _ from ⟨by (congr 1; have := HZ.out; have := HZ1.out; have := HS.out; omega), by (constructor <;> (have := HZ.out; have := HZ1.out; have := HS.out; omega))⟩)) (N := 6) rfl HJ.out 4 .i rfl (fun _ h => by cases h) (.i ((m + nL l0 + 1 + 1 + 1 : Nat) : Int)) _ (show Own 0 _ F .i (.i ((m + nL l0 + 1 + 1 + 1 : Nat) : Int)) _ from ⟨by (congr 1; have := HZ.out; have := HZ1.out; have := HS.out; omega), by (constructor <;> (have := HZ.out; have := HZ1.out; have := HS.out; omega))⟩))))
      have ON4 := Lib.hid (show Only F w W4 from by (rw [← hW4]; exact (Only.setCell (Only.setCell (Only.setCell PN3.out (p := ⟨b, _, none⟩) (show F b from (O0.out.thereat (N := 6) rfl HJ.out).1) _) (p := ⟨b, _, none⟩) (show F b from (O0.out.thereat (N := 6) rfl HJ.out).1) _) (p := ⟨b, _, none⟩) (show F b from (O0.out.thereat (N := 6) rfl HJ.out).1) _)))
      clear hW4 hy2 hf2 hy3 hf3 hy4 hf4
      refine (mark_text (m + nL l0 + 1 + 1 + 1 + 1) _ _ (by have := HZ.out; have := HZ1.out; have := HS.out; omega) (by have := HZ.out; have := HZ1.out; have := HS.out; omega) (by have := HZ.out; have := HZ1.out; have := HS.out; omega)).mono ?_
      rintro _ v4 ⟨rfl, hb⟩
      have P4 := Lib.hid (O4.out.below hb)
      have PN4 := Lib.hid (ON4.out.trans (Only.of_below hb))
      clear hb O4 ON4
      obtain ⟨y5, hy5, hf5⟩ := (P4.out.thereat (N := 6) rfl HJ.out).2.2 5 (by omega)
      go_wp2
      go_roundw
      case rel =>
        refine ⟨j + 1, m + nL l0 + 1 + 1 + 1 + 1 + 1, _, hlt, by go_num, rfl, by have := HZ.out; have := HZ1.out; have := HS.out; omega, by (have := HN.out; have := HM.out; omega), ?_, ?_⟩
        · have e9 : mixL k (j + 1) xs = Y.set j [.l (mL (m) l0), .s (markT (m + nL l0)), .s (markT (m + nL l0 + 1)), .i ((m + nL l0 + 1 + 1 : Nat) : Int), .i ((m + nL l0 + 1 + 1 + 1 : Nat) : Int), .s (markT (m + nL l0 + 1 + 1 + 1 + 1))] := by
            rw [← mix_set k j xs hlt, HED.out, HY.out, ← HM.out]
            simp only [mCs, mC, nC]
          rw [e9]
          exact (Own.putat P4.out (N := 6) rfl HJ.out 5 .s rfl (fun _ h => by cases h) (.s (markT (m + nL l0 + 1 + 1 + 1 + 1))) _ (Own.mkS (mark_sz _ (by have := HZ.out; have := HZ1.out; have := HS.out; omega))))
        · exact (Only.setCell PN4.out (p := ⟨b, _, none⟩) (show F b from (O0.out.thereat (N := 6) rfl HJ.out).1) _)
      case measure => simp [intOf]; omega
    · obtain rfl : j = xs.length := by omega
      have e9 := mix_all k xs
      have HE9 := Lib.hid e9
      clear e9
      go_wp2
      go_ret
      exact ⟨z, rfl, by (have := HZ.out; have h8 := HM.out; rw [List.take_length] at h8; omega), by (have := HO.out; rw [HE9.out] at this; exact this), ON.out⟩
theorem mkAddrS_all (n : Nat) : MkAddrS n := mkAddrS_of (fun m _ => mkStringS_all m)
set_option maxHeartbeats 4000000 in
theorem mkPropS_of {n : Nat} (KExprS : ∀ m, m < n → MkExprS m) (KStringS : ∀ m, m < n → MkStringS m) : MkPropS n := fun F xs v a k w h ha hk1 hk => by
  obtain ⟨_, A, c, el, rfl, hl⟩ := h.cell.lst
  injection el with el
  subst el
  have H := Lib.hid h
  have HA := Lib.hid ha
  have HK := Lib.hid hk
  unfold maxLen at hl
  have HKExprS := Lib.hid KExprS
  have HKStringS := Lib.hid KStringS
  clear h ha hk KExprS KStringS
  go_enter Try.func75, Try.ntmps75
  go_wp2
  go_loopw [1, 5] (fun q i wr => ∃ (j m : Nat) (z : Int), j ≤ xs.length ∧ i = .int .i64 j ∧ q = .int .i64 z ∧ (m : Int) = z ∧ m = k + nL (xs.take j) ∧ Own n wr F (.l 4) (.l (mixL k j xs)) (.slice A xs.length c) ∧ Only F w wr) (fun _ i _ => xs.length - (intOf i).toNat)
  case atStart => exact ⟨0, k, a, Nat.zero_le _, rfl, rfl, HA.out, by simp [nL], by rw [mix_zero]; exact H.out, Only.refl _ _⟩
  case round =>
    obtain ⟨j, m, z, hj, rfl, rfl, hmz, hm, ho, hon⟩ := hrel
    have HZ := Lib.hid hmz
    have HM := Lib.hid hm
    have HO := Lib.hid ho
    have ON := Lib.hid hon
    have HT1 := Lib.hid (nL_le xs j)
    have hz1 : 1 ≤ z := by have := HM.out; omega
    have hz2 : z ≤ 100000000 := by have := HM.out; have := HK.out; have := HT1.out; omega
    clear hmz hm ho hon
    by_cases hlt : j < xs.length
    · have eL := mix_len k j xs hj
      have hjl : j < (mixL k j xs).length := by rw [eL]; exact hlt
      have hin0 := (Own.cell (show Own n wr F (.l 4) (.l (mixL k j xs)) (.slice A (mixL k j xs).length c) from by rw [eL]; exact HO.out)).item j hjl
      obtain ⟨m0, b, o, us, hm0, rfl, _, hbl, hr, hin⟩ := hin0
      rw [mix_at k j xs hlt hjl] at hin
      obtain ⟨s0, x1, x2, x3, s4, l5, s6, s7, x8, x9, s10, s11, l12, A5, c5, A12, c12, ed, rfl, k0, k1, k2, k3, k4, k5, k6, k7, k8, k9, k10, k11, k12⟩ := open_Prop hin
      obtain ⟨Y, hY⟩ : ∃ Y, Y = mixL k j xs := ⟨_, rfl⟩
      have hjY : j < Y.length := by rw [hY]; exact hjl
      have O0 := Lib.hid (show Own n wr F (.l 4) (.l (Y.set j [.s s0, .i x1, .i x2, .i x3, .s s4, .l l5, .s s6, .s s7, .i x8, .i x9, .s s10, .s s11, .l l12])) (.slice (some ⟨b, o, none⟩) xs.length c) from by
        have e0 : Y.set j [.s s0, .i x1, .i x2, .i x3, .s s4, .l l5, .s s6, .s s7, .i x8, .i x9, .s s10, .s s11, .l l12] = mixL k j xs := by rw [← ed, ← mix_at k j xs hlt hjl, hY]; exact self_set hjl
        rw [e0]; exact HO.out)
      have hn := nL_take xs j hlt
      rw [ed] at hn
      simp only [nCs, nC] at hn
      have HN := Lib.hid hn
      have HT := Lib.hid (nL_le xs (j + 1))
      have HS : Hid (m + (1 + 1 + 1 + 1 + 1 + nL l5 + 1 + 1 + 1 + 1 + 1 + 1 + nL l12) ≤ 100000000) := by (show _ ≤ _; have := HM.out; have := HK.out; have := HT.out; omega)
      have HY := Lib.hid hY
      have HED := Lib.hid ed
      have HJ := Lib.hid hjY
      have hjI : (j : Int) < xs.length := by omega
      have hj0 : (0 : Int) ≤ j := by omega
      clear hY ed hn hjY hr hin hjl eL HO hm0 k0 k1 k2 k3 k4 k5 k6 k7 k8 k9 k10 k11 k12
      go_wp2_with fail
      refine named fun W1 hW1 => ?_
      have O1 := Lib.hid (show Own n W1 F (.l 4) (.l (Y.set j [.s s0, .i x1, .i x2, .i x3, .s s4, .l l5, .s s6, .s s7, .i x8, .i x9, .s s10, .s s11, .l l12])) (.slice (some ⟨b, o, none⟩) xs.length c) from by (rw [← hW1]; exact O0.out))
      have ON1 := Lib.hid (show Only F w W1 from by (rw [← hW1]; exact ON.out))
      clear hW1 
      refine (mark_text (m) _ _ (by have := HZ.out; have := HS.out; omega) (by have := HZ.out; have := HS.out; omega) (by have := HZ.out; have := HS.out; omega)).mono ?_
      rintro _ v1 ⟨rfl, hb⟩
      have P1 := Lib.hid (O1.out.below hb)
      have PN1 := Lib.hid (ON1.out.trans (Only.of_below hb))
      clear hb O1 ON1
      obtain ⟨y0, hy0, hf0⟩ := (P1.out.thereat (N := 13) rfl HJ.out).2.2 0 (by omega)
      rw [Nat.add_zero] at hy0 hf0
      obtain ⟨y1, hy1, hf1⟩ := (P1.out.thereat (N := 13) rfl HJ.out).2.2 1 (by omega)
      obtain ⟨y2, hy2, hf2⟩ := (P1.out.thereat (N := 13) rfl HJ.out).2.2 2 (by omega)
      obtain ⟨y3, hy3, hf3⟩ := (P1.out.thereat (N := 13) rfl HJ.out).2.2 3 (by omega)
      go_wp2_with fail
      refine named fun W2 hW2 => ?_
      have O2 := Lib.hid (show Own n W2 F (.l 4) (.l (Y.set j [.s (markT (m)), .i ((m + 1 : Nat) : Int), .i ((m + 1 + 1 : Nat) : Int), .i ((m + 1 + 1 + 1 : Nat) : Int), .s s4, .l l5, .s s6, .s s7, .i x8, .i x9, .s s10, .s s11, .l l12])) (.slice (some ⟨b, o, none⟩) xs.length c) from by (rw [← hW2]; exact (Own.putat (Own.putat (Own.putat (Own.putat P1.out (N := 13) rfl HJ.out 0 .s rfl (fun _ h => by cases h) (.s (markT (m))) _ (Own.mkS (mark_sz _ (by have := HZ.out; have := HS.out; omega)))) (N := 13) rfl HJ.out 1 .i rfl (fun _ h => by cases h) (.i ((m + 1 : Nat) : Int)) _ (show Own 0 _ F .i (.i ((m + 1 : Nat) : Int)) _ from ⟨by (congr 1; have := HZ.out; have := HS.out; omega), by (constructor <;> (have := HZ.out; have := HS.out; omega))⟩)) (N := 13) rfl HJ.out 2 .i rfl (fun _ h => by cases h) (.i ((m + 1 + 1 : Nat) : Int)) _ (show Own 0 _ F .i (.i ((m + 1 + 1 : Nat) : Int)) _ from ⟨by (congr 1; have := HZ.out; have := HS.out; omega), by (constructor <;> (have := HZ.out; have := HS.out; omega))⟩)) (N := 13) rfl HJ.out 3 .i rfl (fun _ h => by cases h) (.i ((m + 1 + 1 + 1 : Nat) : Int)) _ (show Own 0 _ F .i (.i ((m + 1 + 1 + 1 : Nat) : Int)) _ from ⟨by (congr 1; have := HZ.out; have := HS.out; omega), by (constructor <;> (have := HZ.out; have := HS.out; omega))⟩))))
      have ON2 := Lib.hid (show Only F w W2 from by (rw [← hW2]; exact (Only.setCell (Only.setCell (Only.setCell (Only.setCell PN1.out (p := ⟨b, _, none⟩) (show F b from (O0.out.thereat (N := 13) rfl HJ.out).1) _) (p := ⟨b, _, none⟩) (show F b from (O0.out.thereat (N := 13) rfl HJ.out).1) _) (p := ⟨b, _, none⟩) (show F b from (O0.out.thereat (N := 13) rfl HJ.out).1) _) (p := ⟨b, _, none⟩) (show F b from (O0.out.thereat (N := 13) rfl HJ.out).1) _)))
      clear hW2 hy0 hf0 hy1 hf1 hy2 hf2 hy3 hf3
      refine (mark_text (m + 1 + 1 + 1 + 1) _ _ (by have := HZ.out; have := HS.out; omega) (by have := HZ.out; have := HS.out; omega) (by have := HZ.out; have := HS.out; omega)).mono ?_
      rintro _ v2 ⟨rfl, hb⟩
      have P2 := Lib.hid (O2.out.below hb)
      have PN2 := Lib.hid (ON2.out.trans (Only.of_below hb))
      clear hb O2 ON2
      obtain ⟨y4, hy4, hf4⟩ := (P2.out.thereat (N := 13) rfl HJ.out).2.2 4 (by omega)
      obtain ⟨A5', c5', hc5⟩ := Own.lcell (N := 13) P2.out rfl HJ.out 5 rfl rfl
      go_wp2_with fail
      refine named fun W3 hW3 => ?_
      have O3 := Lib.hid (show Own n W3 F (.l 4) (.l (Y.set j [.s (markT (m)), .i ((m + 1 : Nat) : Int), .i ((m + 1 + 1 : Nat) : Int), .i ((m + 1 + 1 + 1 : Nat) : Int), .s (markT (m + 1 + 1 + 1 + 1)), .l l5, .s s6, .s s7, .i x8, .i x9, .s s10, .s s11, .l l12])) (.slice (some ⟨b, o, none⟩) xs.length c) from by (rw [← hW3]; exact (Own.putat P2.out (N := 13) rfl HJ.out 4 .s rfl (fun _ h => by cases h) (.s (markT (m + 1 + 1 + 1 + 1))) _ (Own.mkS (mark_sz _ (by have := HZ.out; have := HS.out; omega))))))
      have ON3 := Lib.hid (show Only F w W3 from by (rw [← hW3]; exact (Only.setCell PN2.out (p := ⟨b, _, none⟩) (show F b from (O0.out.thereat (N := 13) rfl HJ.out).1) _)))
      have hd5 : W3.cell? ⟨b, o + j * 13 + 5, none⟩ = some (.slice A5' l5.length c5') := by (rw [← hW3]; first | exact hc5 | simp [go_sem, hc5])
      obtain ⟨q3, G3, hq3, hG3, hs3, hcl3⟩ := O3.out.cellat (N := 13) rfl HJ.out 5 rfl rfl hd5
      have HCL3 := Lib.hid hcl3
      have HSS3 := Lib.hid hs3
      have HG3 := Lib.hid hG3
      clear hW3 hd5 hcl3 hs3 hG3 hy4 hf4 hc5
      refine (HKStringS.out q3 (by omega) G3 l5 _ _ (m + 1 + 1 + 1 + 1 + 1) _ HSS3.out (by have := HZ.out; have := HS.out; omega) (by have := HZ.out; have := HS.out; omega) (by have := HZ.out; have := HS.out; omega)).mono ?_
      rintro _ v3 ⟨z3, rfl, hz3, ho, hon⟩
      have P3 := Lib.hid (HCL3.out v3 _ hon ho)
      have PN3 := Lib.hid (ON3.out.trans (hon.mono HG3.out))
      have HZ3 := Lib.hid hz3
      have hz3a : 1 ≤ z3 := by (have := HZ.out; have := HS.out; omega)
      have hz3b : z3 ≤ 100000000 := by (have := HZ.out; have := HS.out; omega)
      clear ho hon hz3 O3 ON3 HCL3 HSS3 HG3 hq3
      go_wp2_with fail
      refine named fun W4 hW4 => ?_
      have O4 := Lib.hid (show Own n W4 F (.l 4) (.l (Y.set j [.s (markT (m)), .i ((m + 1 : Nat) : Int), .i ((m + 1 + 1 : Nat) : Int), .i ((m + 1 + 1 + 1 : Nat) : Int), .s (markT (m + 1 + 1 + 1 + 1)), .l (mL (m + 1 + 1 + 1 + 1 + 1) l5), .s s6, .s s7, .i x8, .i x9, .s s10, .s s11, .l l12])) (.slice (some ⟨b, o, none⟩) xs.length c) from by (rw [← hW4]; exact P3.out))
      have ON4 := Lib.hid (show Only F w W4 from by (rw [← hW4]; exact PN3.out))
      clear hW4 
      refine (mark_text (m + 1 + 1 + 1 + 1 + 1 + nL l5) _ _ (by have := HZ.out; have := HZ3.out; have := HS.out; omega) (by have := HZ.out; have := HZ3.out; have := HS.out; omega) (by have := HZ.out; have := HZ3.out; have := HS.out; omega)).mono ?_
      rintro _ v4 ⟨rfl, hb⟩
      have P4 := Lib.hid (O4.out.below hb)
      have PN4 := Lib.hid (ON4.out.trans (Only.of_below hb))
      clear hb O4 ON4
      obtain ⟨y6, hy6, hf6⟩ := (P4.out.thereat (N := 13) rfl HJ.out).2.2 6 (by omega)
      go_wp2_with fail
      refine named fun W5 hW5 => ?_
      have O5 := Lib.hid (show Own n W5 F (.l 4) (.l (Y.set j [.s (markT (m)), .i ((m + 1 : Nat) : Int), .i ((m + 1 + 1 : Nat) : Int), .i ((m + 1 + 1 + 1 : Nat) : Int), .s (markT (m + 1 + 1 + 1 + 1)), .l (mL (m + 1 + 1 + 1 + 1 + 1) l5), .s (markT (m + 1 + 1 + 1 + 1 + 1 + nL l5)), .s s7, .i x8, .i x9, .s s10, .s s11, .l l12])) (.slice (some ⟨b, o, none⟩) xs.length c) from by (rw [← hW5]; exact (Own.putat P4.out (N := 13) rfl HJ.out 6 .s rfl (fun _ h => by cases h) (.s (markT (m + 1 + 1 + 1 + 1 + 1 + nL l5))) _ (Own.mkS (mark_sz _ (by have := HZ.out; have := HZ3.out; have := HS.out; omega))))))
      have ON5 := Lib.hid (show Only F w W5 from by (rw [← hW5]; exact (Only.setCell PN4.out (p := ⟨b, _, none⟩) (show F b from (O0.out.thereat (N := 13) rfl HJ.out).1) _)))
      clear hW5 hy6 hf6
      refine (mark_text (m + 1 + 1 + 1 + 1 + 1 + nL l5 + 1) _ _ (by have := HZ.out; have := HZ3.out; have := HS.out; omega) (by have := HZ.out; have := HZ3.out; have := HS.out; omega) (by have := HZ.out; have := HZ3.out; have := HS.out; omega)).mono ?_
      rintro _ v5 ⟨rfl, hb⟩
      have P5 := Lib.hid (O5.out.below hb)
      have PN5 := Lib.hid (ON5.out.trans (Only.of_below hb))
      clear hb O5 ON5
      obtain ⟨y7, hy7, hf7⟩ := (P5.out.thereat (N := 13) rfl HJ.out).2.2 7 (by omega)
      obtain ⟨y8, hy8, hf8⟩ := (P5.out.thereat (N := 13) rfl HJ.out).2.2 8 (by omega)
      obtain ⟨y9, hy9, hf9⟩ := (P5.out.thereat (N := 13) rfl HJ.out).2.2 9 (by omega)
      go_wp2_with fail
      refine named fun W6 hW6 => ?_
      have O6 := Lib.hid (show Own n W6 F (.l 4) (.l (Y.set j [.s (markT (m)), .i ((m + 1 : Nat) : Int), .i ((m + 1 + 1 : Nat) : Int), .i ((m + 1 + 1 + 1 : Nat) : Int), .s (markT (m + 1 + 1 + 1 + 1)), .l (mL (m + 1 + 1 + 1 + 1 + 1) l5), .s (markT (m + 1 + 1 + 1 + 1 + 1 + nL l5)), .s (markT (m + 1 + 1 + 1 + 1 + 1 + nL l5 + 1)), .i ((m + 1 + 1 + 1 + 1 + 1 + nL l5 + 1 + 1 : Nat) : Int), .i ((m + 1 + 1 + 1 + 1 + 1 + nL l5 + 1 + 1 + 1 : Nat) : Int), .s s10, .s s11, .l l12])) (.slice (some ⟨b, o, none⟩) xs.length c) from by (rw [← hW6]; exact (Own.putat (Own.putat (Own.putat P5.out (N := 13) rfl HJ.out 7 .s rfl (fun _ h => by cases h) (.s (markT (m + 1 + 1 + 1 + 1 + 1 + nL l5 + 1))) _ (Own.mkS (mark_sz _ (by have := HZ.out; have := HZ3.out; have := HS.out; omega)))) (N := 13) rfl HJ.out 8 .i rfl (fun _ h => by cases h) (.i ((m + 1 + 1 + 1 + 1 + 1 + nL l5 + 1 + 1 : Nat) : Int)) _ (show Own 0 _ F .i (.i ((m + 1 + 1 + 1 + 1 + 1 + nL l5 + 1 + 1 : Nat) : Int)) _ from ⟨by (congr 1; have := HZ.out; have := HZ3.out; have := HS.out; omega), by (constructor <;> (have := HZ.out; have := HZ3.out; have := HS.out; omega))⟩)) (N := 13) rfl HJ.out 9 .i rfl (fun _ h => by cases h) (.i ((m + 1 + 1 + 1 + 1 + 1 + nL l5 + 1 + 1 + 1 : Nat) : Int)) _ (show Own 0 _ F .i (.i ((m + 1 + 1 + 1 + 1 + 1 + nL l5 + 1 + 1 + 1 : Nat) : Int)) _ from ⟨by (congr 1; have := HZ.out; have := HZ3.out; have := HS.out; omega), by (constructor <;> (have := HZ.out; have := HZ3.out; have := HS.out; omega))⟩))))
      have ON6 := Lib.hid (show Only F w W6 from by (rw [← hW6]; exact (Only.setCell (Only.setCell (Only.setCell PN5.out (p := ⟨b, _, none⟩) (show F b from (O0.out.thereat (N := 13) rfl HJ.out).1) _) (p := ⟨b, _, none⟩) (show F b from (O0.out.thereat (N := 13) rfl HJ.out).1) _) (p := ⟨b, _, none⟩) (show F b from (O0.out.thereat (N := 13) rfl HJ.out).1) _)))
      clear hW6 hy7 hf7 hy8 hf8 hy9 hf9
      refine (mark_text (m + 1 + 1 + 1 + 1 + 1 + nL l5 + 1 + 1 + 1 + 1) _ _ (by have := HZ.out; have := HZ3.out; have := HS.out; omega) (by have := HZ.out; have := HZ3.out; have := HS.out; omega) (by have := HZ.out; have := HZ3.out; have := HS.out; omega)).mono ?_
      rintro _ v6 ⟨rfl, hb⟩
      have P6 := Lib.hid (O6.out.below hb)
      have PN6 := Lib.hid (ON6.out.trans (Only.of_below hb))
      clear hb O6 ON6
      obtain ⟨y10, hy10, hf10⟩ := (P6.out.thereat (N := 13) rfl HJ.out).2.2 10 (by omega)
      go_wp2_with fail
      refine named fun W7 hW7 => ?_
      have O7 := Lib.hid (show Own n W7 F (.l 4) (.l (Y.set j [.s (markT (m)), .i ((m + 1 : Nat) : Int), .i ((m + 1 + 1 : Nat) : Int), .i ((m + 1 + 1 + 1 : Nat) : Int), .s (markT (m + 1 + 1 + 1 + 1)), .l (mL (m + 1 + 1 + 1 + 1 + 1) l5), .s (markT (m + 1 + 1 + 1 + 1 + 1 + nL l5)), .s (markT (m + 1 + 1 + 1 + 1 + 1 + nL l5 + 1)), .i ((m + 1 + 1 + 1 + 1 + 1 + nL l5 + 1 + 1 : Nat) : Int), .i ((m + 1 + 1 + 1 + 1 + 1 + nL l5 + 1 + 1 + 1 : Nat) : Int), .s (markT (m + 1 + 1 + 1 + 1 + 1 + nL l5 + 1 + 1 + 1 + 1)), .s s11, .l l12])) (.slice (some ⟨b, o, none⟩) xs.length c) from by (rw [← hW7]; exact (Own.putat P6.out (N := 13) rfl HJ.out 10 .s rfl (fun _ h => by cases h) (.s (markT (m + 1 + 1 + 1 + 1 + 1 + nL l5 + 1 + 1 + 1 + 1))) _ (Own.mkS (mark_sz _ (by have := HZ.out; have := HZ3.out; have := HS.out; omega))))))
      have ON7 := Lib.hid (show Only F w W7 from by (rw [← hW7]; exact (Only.setCell PN6.out (p := ⟨b, _, none⟩) (show F b from (O0.out.thereat (N := 13) rfl HJ.out).1) _)))
      clear hW7 hy10 hf10
      refine (mark_text (m + 1 + 1 + 1 + 1 + 1 + nL l5 + 1 + 1 + 1 + 1 + 1) _ _ (by have := HZ.out; have := HZ3.out; have := HS.out; omega) (by have := HZ.out; have := HZ3.out; have := HS.out; omega) (by have := HZ.out; have := HZ3.out; have := HS.out; omega)).mono ?_
      rintro _ v7 ⟨rfl, hb⟩
      have P7 := Lib.hid (O7.out.below hb)
      have PN7 := Lib.hid (ON7.out.trans (Only.of_below hb))
      clear hb O7 ON7
      obtain ⟨y11, hy11, hf11⟩ := (P7.out.thereat (N := 13) rfl HJ.out).2.2 11 (by omega)
      obtain ⟨A12', c12', hc12⟩ := Own.lcell (N := 13) P7.out rfl HJ.out 12 rfl rfl
      go_wp2_with fail
      refine named fun W8 hW8 => ?_
      have O8 := Lib.hid (show Own n W8 F (.l 4) (.l (Y.set j [.s (markT (m)), .i ((m + 1 : Nat) : Int), .i ((m + 1 + 1 : Nat) : Int), .i ((m + 1 + 1 + 1 : Nat) : Int), .s (markT (m + 1 + 1 + 1 + 1)), .l (mL (m + 1 + 1 + 1 + 1 + 1) l5), .s (markT (m + 1 + 1 + 1 + 1 + 1 + nL l5)), .s (markT (m + 1 + 1 + 1 + 1 + 1 + nL l5 + 1)), .i ((m + 1 + 1 + 1 + 1 + 1 + nL l5 + 1 + 1 : Nat) : Int), .i ((m + 1 + 1 + 1 + 1 + 1 + nL l5 + 1 + 1 + 1 : Nat) : Int), .s (markT (m + 1 + 1 + 1 + 1 + 1 + nL l5 + 1 + 1 + 1 + 1)), .s (markT (m + 1 + 1 + 1 + 1 + 1 + nL l5 + 1 + 1 + 1 + 1 + 1)), .l l12])) (.slice (some ⟨b, o, none⟩) xs.length c) from by (rw [← hW8]; exact (Own.putat P7.out (N := 13) rfl HJ.out 11 .s rfl (fun _ h => by cases h) (.s (markT (m + 1 + 1 + 1 + 1 + 1 + nL l5 + 1 + 1 + 1 + 1 + 1))) _ (Own.mkS (mark_sz _ (by have := HZ.out; have := HZ3.out; have := HS.out; omega))))))
      have ON8 := Lib.hid (show Only F w W8 from by (rw [← hW8]; exact (Only.setCell PN7.out (p := ⟨b, _, none⟩) (show F b from (O0.out.thereat (N := 13) rfl HJ.out).1) _)))
      have hd12 : W8.cell? ⟨b, o + j * 13 + 12, none⟩ = some (.slice A12' l12.length c12') := by (rw [← hW8]; first | exact hc12 | simp [go_sem, hc12])
      obtain ⟨q8, G8, hq8, hG8, hs8, hcl8⟩ := O8.out.cellat (N := 13) rfl HJ.out 12 rfl rfl hd12
      have HCL8 := Lib.hid hcl8
      have HSS8 := Lib.hid hs8
      have HG8 := Lib.hid hG8
      clear hW8 hd12 hcl8 hs8 hG8 hy11 hf11 hc12
      refine (HKExprS.out q8 (by omega) G8 l12 _ _ (m + 1 + 1 + 1 + 1 + 1 + nL l5 + 1 + 1 + 1 + 1 + 1 + 1) _ HSS8.out (by have := HZ.out; have := HZ3.out; have := HS.out; omega) (by have := HZ.out; have := HZ3.out; have := HS.out; omega) (by have := HZ.out; have := HZ3.out; have := HS.out; omega)).mono ?_
      rintro _ v8 ⟨z8, rfl, hz8, ho, hon⟩
      have P8 := Lib.hid (HCL8.out v8 _ hon ho)
      have PN8 := Lib.hid (ON8.out.trans (hon.mono HG8.out))
      have HZ8 := Lib.hid hz8
      have hz8a : 1 ≤ z8 := by (have := HZ.out; have := HZ3.out; have := HS.out; omega)
      have hz8b : z8 ≤ 100000000 := by (have := HZ.out; have := HZ3.out; have := HS.out; omega)
      clear ho hon hz8 O8 ON8 HCL8 HSS8 HG8 hq8
      go_wp2
      go_roundw
      case rel =>
        refine ⟨j + 1, m + 1 + 1 + 1 + 1 + 1 + nL l5 + 1 + 1 + 1 + 1 + 1 + 1 + nL l12, _, hlt, by go_num, rfl, by have := HZ.out; have := HZ3.out; have := HZ8.out; have := HS.out; omega, by (have := HN.out; have := HM.out; omega), ?_, ?_⟩
        · have e9 : mixL k (j + 1) xs = Y.set j [.s (markT (m)), .i ((m + 1 : Nat) : Int), .i ((m + 1 + 1 : Nat) : Int), .i ((m + 1 + 1 + 1 : Nat) : Int), .s (markT (m + 1 + 1 + 1 + 1)), .l (mL (m + 1 + 1 + 1 + 1 + 1) l5), .s (markT (m + 1 + 1 + 1 + 1 + 1 + nL l5)), .s (markT (m + 1 + 1 + 1 + 1 + 1 + nL l5 + 1)), .i ((m + 1 + 1 + 1 + 1 + 1 + nL l5 + 1 + 1 : Nat) : Int), .i ((m + 1 + 1 + 1 + 1 + 1 + nL l5 + 1 + 1 + 1 : Nat) : Int), .s (markT (m + 1 + 1 + 1 + 1 + 1 + nL l5 + 1 + 1 + 1 + 1)), .s (markT (m + 1 + 1 + 1 + 1 + 1 + nL l5 + 1 + 1 + 1 + 1 + 1)), .l (mL (m + 1 + 1 + 1 + 1 + 1 + nL l5 + 1 + 1 + 1 + 1 + 1 + 1) l12)] := by
            rw [← mix_set k j xs hlt, HED.out, HY.out, ← HM.out]
            simp only [mCs, mC, nC]
          rw [e9]
          exact P8.out
        · exact PN8.out
      case measure => simp [intOf]; omega
    · obtain rfl : j = xs.length := by omega
      have e9 := mix_all k xs
      have HE9 := Lib.hid e9
      clear e9
      go_wp2
      go_ret
      exact ⟨z, rfl, by (have := HZ.out; have h8 := HM.out; rw [List.take_length] at h8; omega), by (have := HO.out; rw [HE9.out] at this; exact this), ON.out⟩
theorem mkPropS_all (n : Nat) : MkPropS n := mkPropS_of (fun m _ => mkExprS_all m) (fun m _ => mkStringS_all m)
set_option maxHeartbeats 4000000 in
theorem mkBlock_of {n : Nat} (KAddr : MkAddr n) (KPropS : MkPropS n) (KStringS : MkStringS n) : MkBlock n := fun F ds vs a k w h hF ha hk1 hk => by
  obtain ⟨l0, s1, s2, x3, x4, s5, x6, l7, l8, A0, c0, A7, c7, A8, c8, rfl, rfl, _, _, _, _, _, _, _, _, _⟩ := open_Block h.cells
  have H := Lib.hid h
  have HF := Lib.hid hF
  have HA := Lib.hid ha
  simp only [nV] at hk
  have HK := Lib.hid hk
  have hz1 : 1 ≤ a := by omega
  have hz2 : a ≤ 100000000 := by omega
  have HKAddr := Lib.hid KAddr
  have HKPropS := Lib.hid KPropS
  have HKStringS := Lib.hid KStringS
  clear h hF ha hk KAddr KPropS KStringS
  go_enter Try.func26, Try.ntmps26
  go_wp2_with fail
  refine named fun W1 hW1 => ?_
  have O1 := Lib.hid (show Owns n W1 F shBlock_ [.l l0, .s s1, .s s2, .i x3, .i x4, .s s5, .i x6, .l l7, .l l8] [.slice A0 l0.length c0, .string s1, .string s2, .int .i64 x3, .int .i64 x4, .string s5, .int .i64 x6, .slice A7 l7.length c7, .slice A8 l8.length c8] from by (rw [← hW1]; exact H.out.below (below_a1 _ _)))
  have E1 := Lib.hid (show Only F w W1 from by (rw [← hW1]; exact Only.of_below (below_a1 _ _)))
  have B1 := Lib.hid (show Blk W1 w.heap.size 63 #[.slice A0 l0.length c0, .string s1, .string s2, .int .i64 x3, .int .i64 x4, .string s5, .int .i64 x6, .slice A7 l7.length c7, .slice A8 l8.length c8] from by (rw [← hW1]; exact Blk.new _ _ _))
  obtain ⟨F1, hF1, hs1, hcl1⟩ := Owns.part (ks1 := []) (ks2 := [.l 0, .s, .s, .i, .i, .s]) (ks3 := [.i, .l 0, .l 4]) (ds1 := []) (ds2 := [.l l0, .s s1, .s s2, .i x3, .i x4, .s s5]) (ds3 := [.i x6, .l l7, .l l8]) (vs1 := []) (vs2 := [.slice A0 l0.length c0, .string s1, .string s2, .int .i64 x3, .int .i64 x4, .string s5]) (vs3 := [.int .i64 x6, .slice A7 l7.length c7, .slice A8 l8.length c8]) O1.out rfl rfl rfl rfl
  have HCL1 := Lib.hid hcl1
  have HSS1 := Lib.hid hs1
  have HG1 := Lib.hid hF1
  clear hW1 hcl1 hs1 hF1
  refine (HKAddr.out F1 [.l l0, .s s1, .s s2, .i x3, .i x4, .s s5] [.slice A0 l0.length c0, .string s1, .string s2, .int .i64 x3, .int .i64 x4, .string s5] _ (k) _ HSS1.out (fun x hx => Nat.lt_of_lt_of_le (HF.out x (HG1.out x hx)) E1.out.size) (by have := HA.out; have := HK.out; omega) (by have := HA.out; have := HK.out; omega) (by (try simp only [nV]); have := HA.out; have := HK.out; omega)).mono ?_
  rintro _ v1 ⟨z1, rfl, hz1, ho, hon⟩
  simp only [nV, mV] at hz1 ho
  have P1 := Lib.hid (HCL1.out v1 _ hon ho)
  have PN1 := Lib.hid (E1.out.trans (hon.mono HG1.out))
  have C1 : Hid (Blk v1 w.heap.size 63 #[.slice A0 l0.length c0, .string s1, .string s2, .int .i64 x3, .int .i64 x4, .string s5, .int .i64 x6, .slice A7 l7.length c7, .slice A8 l8.length c8]) := by (show Blk _ _ _ _; unfold Blk; rw [hon.block _ B1.out.lt (fun hx => by (have := HF.out _ (HG1.out _ hx); omega))]; exact B1.out)
  have c1 := C1.out.cell
  have HZ1 := Lib.hid hz1
  have hz1a : 1 ≤ z1 := by (have := HA.out; have := HK.out; omega)
  have hz1b : z1 ≤ 100000000 := by (have := HA.out; have := HK.out; omega)
  clear ho hon hz1 O1 E1 B1 HCL1 HSS1 HG1
  go_wp2_with fail
  refine named fun W2 hW2 => ?_
  have O2 := Lib.hid (show Owns n W2 F shBlock_ [.l (mL (k) l0), .s s1, .s s2, .i x3, .i x4, .s s5, .i x6, .l l7, .l l8] [.slice A0 l0.length c0, .string s1, .string s2, .int .i64 x3, .int .i64 x4, .string s5, .int .i64 x6, .slice A7 l7.length c7, .slice A8 l8.length c8] from by (rw [← hW2]; exact P1.out))
  have E2 := Lib.hid (show Only F w W2 from by (rw [← hW2]; exact PN1.out))
  have B2 := Lib.hid (show Blk W2 w.heap.size 63 #[.slice A0 l0.length c0, .string s1, .string s2, .int .i64 x3, .int .i64 x4, .string s5, .int .i64 x6, .slice A7 l7.length c7, .slice A8 l8.length c8] from by (rw [← hW2]; exact C1.out))
  obtain ⟨F2, hF2, hs2, hcl2⟩ := Owns.part (ks1 := [.l 0, .s, .s, .i, .i, .s, .i]) (ks2 := [.l 0]) (ks3 := [.l 4]) (ds1 := [.l (mL (k) l0), .s s1, .s s2, .i x3, .i x4, .s s5, .i x6]) (ds2 := [.l l7]) (ds3 := [.l l8]) (vs1 := [.slice A0 l0.length c0, .string s1, .string s2, .int .i64 x3, .int .i64 x4, .string s5, .int .i64 x6]) (vs2 := [.slice A7 l7.length c7]) (vs3 := [.slice A8 l8.length c8]) O2.out rfl rfl rfl rfl
  have HCL2 := Lib.hid hcl2
  have HSS2 := Lib.hid hs2
  have HG2 := Lib.hid hF2
  clear hW2 hcl2 hs2 hF2 c1 C1
  refine (HKStringS.out F2 l7 _ _ (k + nL l0) _ (Owns.to1 HSS2.out) (by have := HA.out; have := HZ1.out; have := HK.out; omega) (by have := HA.out; have := HZ1.out; have := HK.out; omega) (by have := HA.out; have := HZ1.out; have := HK.out; omega)).mono ?_
  rintro _ v2 ⟨z2, rfl, hz2, ho, hon⟩
  have P2 := Lib.hid (HCL2.out v2 _ hon (Owns.of1 ho))
  have PN2 := Lib.hid (E2.out.trans (hon.mono HG2.out))
  have C2 : Hid (Blk v2 w.heap.size 63 #[.slice A0 l0.length c0, .string s1, .string s2, .int .i64 x3, .int .i64 x4, .string s5, .int .i64 x6, .slice A7 l7.length c7, .slice A8 l8.length c8]) := by (show Blk _ _ _ _; unfold Blk; rw [hon.block _ B2.out.lt (fun hx => by (have := HF.out _ (HG2.out _ hx); omega))]; exact B2.out)
  have c2 := C2.out.cell
  have HZ2 := Lib.hid hz2
  have hz2a : 1 ≤ z2 := by (have := HA.out; have := HZ1.out; have := HK.out; omega)
  have hz2b : z2 ≤ 100000000 := by (have := HA.out; have := HZ1.out; have := HK.out; omega)
  clear ho hon hz2 O2 E2 B2 HCL2 HSS2 HG2
  go_wp2_with fail
  refine named fun W3 hW3 => ?_
  have O3 := Lib.hid (show Owns n W3 F shBlock_ [.l (mL (k) l0), .s s1, .s s2, .i x3, .i x4, .s s5, .i x6, .l (mL (k + nL l0) l7), .l l8] [.slice A0 l0.length c0, .string s1, .string s2, .int .i64 x3, .int .i64 x4, .string s5, .int .i64 x6, .slice A7 l7.length c7, .slice A8 l8.length c8] from by (rw [← hW3]; exact P2.out))
  have E3 := Lib.hid (show Only F w W3 from by (rw [← hW3]; exact PN2.out))
  have B3 := Lib.hid (show Blk W3 w.heap.size 63 #[.slice A0 l0.length c0, .string s1, .string s2, .int .i64 x3, .int .i64 x4, .string s5, .int .i64 x6, .slice A7 l7.length c7, .slice A8 l8.length c8] from by (rw [← hW3]; exact C2.out))
  obtain ⟨F3, hF3, hs3, hcl3⟩ := Owns.part (ks1 := [.l 0, .s, .s, .i, .i, .s, .i, .l 0]) (ks2 := [.l 4]) (ks3 := []) (ds1 := [.l (mL (k) l0), .s s1, .s s2, .i x3, .i x4, .s s5, .i x6, .l (mL (k + nL l0) l7)]) (ds2 := [.l l8]) (ds3 := []) (vs1 := [.slice A0 l0.length c0, .string s1, .string s2, .int .i64 x3, .int .i64 x4, .string s5, .int .i64 x6, .slice A7 l7.length c7]) (vs2 := [.slice A8 l8.length c8]) (vs3 := []) O3.out rfl rfl rfl rfl
  have HCL3 := Lib.hid hcl3
  have HSS3 := Lib.hid hs3
  have HG3 := Lib.hid hF3
  clear hW3 hcl3 hs3 hF3 c2 C2
  refine (HKPropS.out F3 l8 _ _ (k + nL l0 + nL l7) _ (Owns.to1 HSS3.out) (by have := HA.out; have := HZ1.out; have := HZ2.out; have := HK.out; omega) (by have := HA.out; have := HZ1.out; have := HZ2.out; have := HK.out; omega) (by have := HA.out; have := HZ1.out; have := HZ2.out; have := HK.out; omega)).mono ?_
  rintro _ v3 ⟨z3, rfl, hz3, ho, hon⟩
  have P3 := Lib.hid (HCL3.out v3 _ hon (Owns.of1 ho))
  have PN3 := Lib.hid (E3.out.trans (hon.mono HG3.out))
  have C3 : Hid (Blk v3 w.heap.size 63 #[.slice A0 l0.length c0, .string s1, .string s2, .int .i64 x3, .int .i64 x4, .string s5, .int .i64 x6, .slice A7 l7.length c7, .slice A8 l8.length c8]) := by (show Blk _ _ _ _; unfold Blk; rw [hon.block _ B3.out.lt (fun hx => by (have := HF.out _ (HG3.out _ hx); omega))]; exact B3.out)
  have c3 := C3.out.cell
  have HZ3 := Lib.hid hz3
  have hz3a : 1 ≤ z3 := by (have := HA.out; have := HZ1.out; have := HZ2.out; have := HK.out; omega)
  have hz3b : z3 ≤ 100000000 := by (have := HA.out; have := HZ1.out; have := HZ2.out; have := HK.out; omega)
  clear ho hon hz3 O3 E3 B3 HCL3 HSS3 HG3
  go_wp2
  go_ret
  exact ⟨z3, rfl, by (simp only [nV]; have := HA.out; have := HZ1.out; have := HZ2.out; have := HZ3.out; have := HK.out; omega), by (simp only [mV]; exact P3.out), PN3.out⟩
theorem mkBlock_all (n : Nat) : MkBlock n := mkBlock_of (mkAddr_all n) (mkPropS_all n) (mkStringS_all n)
end Go.Proofs.Ytgkcohclejmhkaa.un
