/- AddrRead of the model. -/
import Derived.Test.YtfjfneliajmjbaaDoorRdA
import Derived.Test.YtfjfneliajmjbaaDoorTxtS
import Derived.Test.YtfjfneliajmjbaaDoorVTold
import Derived.Deep.RegionLaw
import Derived.Deep.DeepCutAuto
import Derived.KernelRfl
import Derived.Test.YtfjfneliajmjbaaDoorBare
namespace Go.Proofs.YtfjfneliajmjbaaDoor.ars
open ad mem own bare ard nump rda dig
open Go.ChangeShapes Go.WideShapes Go.ChangeAt Go.RowKit Go.Lib
set_option linter.unusedVariables false
set_option maxRecDepth 8000
set_option linter.unusedSimpArgs false

/-- an answer of the call's own. -/
def MadeR (w : World) (d : AddrD) (code : Int) (e : Ending) (w' : World) : Prop := ∃ A c, e = .returned (.agg #[.slice A d.path.length c, .string d.typ, .string d.nam, .int .i64 d.kind, .int .i64 d.n, .string d.key, .int .i64 code]) ∧ Own w' w.heap.size (.slice A d.path.length c) d.path ∧ Below w.heap.size w w'

theorem row_at {w1 wr : World} {A : Option Addr} {L : List ByteArray} (HS : Strs w1 A L) (hb : Below w1.heap.size w1 wr) (k : Nat) (hk : k < L.length) : ∃ b o, A = some ⟨b, o, none⟩ ∧ b < w1.heap.size ∧ wr.cell? ⟨b, o + k, none⟩ = some (.string L[k]) := by
  obtain ⟨b, o, rfl, hbg, hc, _⟩ := HS k hk
  exact ⟨b, o, rfl, hbg, by rw [hb.cell (p := ⟨b, o + k, none⟩) hbg]; exact hc⟩
theorem own_take {w : World} {base k : Nat} {v : Value} {L : List ByteArray} (hk : k < L.length) (h : Own w base v (L.take k ++ [L[k]])) : Own w base v (L.take (k + 1)) := by rw [List.take_succ_eq_append_getElem hk]; exact h
theorem own_form {w : World} {base n : Nat} {v : Value} {l : List ByteArray} (hn : l.length = n) (h : Own w base v l) : ∃ A c, v = .slice A n c := by
  obtain ⟨A, c, e⟩ := h.form
  exact ⟨A, c, by rw [e, hn]⟩
theorem blk_dn {w : World} {g : Nat} {T : TypeId} {cs : Array Value} (h : Blk w g T cs) (n : Nat) : Blk (w.drewN n) g T cs := h
theorem own_dn {w : World} {base : Nat} {v : Value} {l : List ByteArray} (h : Own w base v l) (n : Nat) : Own (w.drewN n) base v l := h
theorem set0 {w : World} {g : Nat} {T : TypeId} {a b c d e f : Value} (h : Blk w g T #[a, b, c, d, e, f]) (u : Value) : Blk (w.setCell ⟨g, 0, none⟩ u) g T #[u, b, c, d, e, f] := Blk.set_ h 0 u
theorem set1 {w : World} {g : Nat} {T : TypeId} {a b c d e f : Value} (h : Blk w g T #[a, b, c, d, e, f]) (u : Value) : Blk (w.setCell ⟨g, 1, none⟩ u) g T #[a, u, c, d, e, f] := Blk.set_ h 1 u
theorem set2 {w : World} {g : Nat} {T : TypeId} {a b c d e f : Value} (h : Blk w g T #[a, b, c, d, e, f]) (u : Value) : Blk (w.setCell ⟨g, 2, none⟩ u) g T #[a, b, u, d, e, f] := Blk.set_ h 2 u
theorem set3 {w : World} {g : Nat} {T : TypeId} {a b c d e f : Value} (h : Blk w g T #[a, b, c, d, e, f]) (u : Value) : Blk (w.setCell ⟨g, 3, none⟩ u) g T #[a, b, c, u, e, f] := Blk.set_ h 3 u
theorem set4 {w : World} {g : Nat} {T : TypeId} {a b c d e f : Value} (h : Blk w g T #[a, b, c, d, e, f]) (u : Value) : Blk (w.setCell ⟨g, 4, none⟩ u) g T #[a, b, c, d, u, f] := Blk.set_ h 4 u
theorem set5 {w : World} {g : Nat} {T : TypeId} {a b c d e f : Value} (h : Blk w g T #[a, b, c, d, e, f]) (u : Value) : Blk (w.setCell ⟨g, 5, none⟩ u) g T #[a, b, c, d, e, u] := Blk.set_ h 5 u
theorem take_cut {L : List ByteArray} {k : Nat} (h4 : k ≤ 4) (hk : k < L.length) (h : k = L.length - 1 ∨ k = 4) : L.take k = L.dropLast.take 4 := by
  rw [List.dropLast_eq_take, List.take_take]
  congr 1
  omega
theorem last_cut {L : List ByteArray} (h : 0 < L.length) : L = L.dropLast ++ [L[L.length - 1]'(by omega)] := by
  have hne : L ≠ [] := List.length_pos_iff.1 h
  rw [← List.getLast_eq_getElem hne, List.dropLast_concat_getLast hne]
theorem cut_size {s x y : ByteArray} {b : Nat} (h : scut.CutAt s b x y) : x.size ≤ s.size ∧ y.size ≤ s.size := by
  have e (a c : Nat) : (s.extract a c).size = ((s.data.toList.drop a).take (c - a)).length := by rw [← Lib.extract_data]; rfl
  have e0 : s.size = s.data.toList.length := rfl
  rcases h with ⟨k, hk, _, _, rfl, rfl⟩ | ⟨_, rfl, rfl⟩
  · rw [e, e]; simp; omega
  · exact ⟨Nat.le_refl _, Nat.zero_le _⟩
theorem one_strs (W : World) (x : ByteArray) (hx : x.size ≤ maxLen) : Strs (W.alloc (.cells #[Value.string x] 9)) (some ⟨W.heap.size, 0, none⟩) [x] :=
  (show Row (W.alloc (.cells #[Value.string x] 9)) W.heap.size [x] from Blk.new W 9 #[Value.string x]).strs (fun j hj => by
    have : j = 0 := by simpa using hj
    subst this; exact hx)

set_option maxHeartbeats 4000000 in
theorem read_spec (s : ByteArray) (w : World) (hs : s.size ≤ 1000000000) :
    Calls Tryd.prog 4 #[.string s] w (MadeR w (ansA s).1 (ansA s).2) := by
  by_cases h8 : 8000 < s.size
  · have h8I : 8000 < (s.size : Int) := by omega
    rw [ansA_long h8]
    clear h8
    go_enter Tryd.func4, Tryd.ntmps4
    go_wp2
    refine bodyPost_ret (v := .agg #[.slice none 0 0, .string ByteArray.empty, .string ByteArray.empty, .int .i64 0, .int .i64 0, .string ByteArray.empty, .int .i64 2]) (by simp [results, Tryd.results4, go_sem]; try rfl) rfl ⟨none, 0, rfl, Own.nil _ _, ?_⟩
    repeat (first | exact below_a1 _ _ | with_reducible refine Below.setCell ?_ (by simp <;> omega) _)
  · have h8I : (s.size : Int) ≤ 8000 := by omega
    have h8N : s.size ≤ 8000 := by omega
    have K1 := fun (W : World) => Lib.hid (ssplit.split_any s W h8N)
    have K2 : ∀ (x : ByteArray) (W : World), x.size ≤ 8000 → Hid (Calls Tryd.prog 10 #[.string x, .int .u8 91] W fun e w' => ∃ x' y, scut.CutAt x 91 x' y ∧ e = .returned (.tuple #[.string x', .string y]) ∧ ∃ n, w' = W.drewN n) := fun x W h => Lib.hid (scut.spec_any x 91 W (by omega) (Nat.le_trans h (by unfold maxLen; omega)))
    have K3 : ∀ (x : ByteArray) (W : World), x.size ≤ 8000 → Hid (Calls Tryd.prog 10 #[.string x, .int .u8 46] W fun e w' => ∃ x' y, scut.CutAt x 46 x' y ∧ e = .returned (.tuple #[.string x', .string y]) ∧ ∃ n, w' = W.drewN n) := fun x W h => Lib.hid (scut.spec_any x 46 W (by omega) (Nat.le_trans h (by unfold maxLen; omega)))
    have K4 := fun (x : ByteArray) (W : World) (h : x.size ≤ 8000) => Lib.hid (snum.spec_any x W (Nat.le_trans h (by unfold maxLen; omega)))
    have H8 := Lib.hid h8
    clear h8
    go_enter Tryd.func4, Tryd.ntmps4
    go_wp2_with fail
    refine (K1 _).out.mono ?_
    rintro _ w1 ⟨A, c, L, rfl, HP, hown, HZ, hb⟩
    have E1 := Lib.hid (below_then (below_a1 w _) hb (Nat.le_refl _))
    have G1 := Lib.hid ((Blk.new w _ _).step hb)
    have HS : Hid (Strs w1 A L) := Lib.hid (hown.strs (fun k hk => Nat.le_trans (HZ.out.2 k hk) (by unfold maxLen; omega)))
    have hpos : 0 < L.length := List.length_pos_iff.2 (pieces_ne HP.out)
    have hlen : L.length ≤ 8001 := by have := HZ.out.1; omega
    have hzg : w.heap.size < w1.heap.size := G1.out.lt
    clear hb hown K1
    go_wp2_with fail
    -- LOOP
    go_loopw [5] (fun i wr => ∃ (k : Nat) (v : Value), k ≤ 4 ∧ k < L.length ∧ i = .int .i64 k ∧ Own wr (w1.heap.size + 1) v (L.take k) ∧ Blk wr w1.heap.size 24 #[v, .string ByteArray.empty, .string ByteArray.empty, .int .i64 0, .int .i64 0, .string ByteArray.empty] ∧ Below w1.heap.size w1 wr) (fun i _ => 5 - (RowKit.intOf i).toNat)
    case atStart => exact ⟨0, .slice none 0 0, by omega, hpos, rfl, Own.nil _ _, Blk.new w1 _ _, below_a1 _ _⟩
    case round =>
      obtain ⟨k, v, hk4, hkl, rfl, hown, hq, hb⟩ := hrel
      have HO := Lib.hid hown
      have HQ := Lib.hid hq
      have HB := Lib.hid hb
      clear hown hq hb
      by_cases hlt : (k : Int) < (L.length : Int) - 1
      · by_cases h4 : (k : Int) < 4
        · obtain ⟨b, o, rfl, hbg, hc⟩ := row_at HS.out HB.out k hkl
          have hcw : w1.cell? ⟨b, o + k, none⟩ = some (.string L[k]) := by rw [← HB.out.cell (p := ⟨b, o + k, none⟩) hbg]; exact hc
          have q0 := HQ.out.cell 0
          have f0 := HQ.out.free
          have qs := HQ.out.lt
          have z1 := Lib.hid (HZ.out.2 k hkl)
          have SN := Lib.hid (one_strs wr L[k] (Nat.le_trans z1.out (by unfold maxLen; omega)))
          have HO2 := Lib.hid (HO.out.alloc (.cells #[Value.string L[k]] 9))
          have E2 := Lib.hid (below_da HB.out (Nat.le_refl _) (.cells #[Value.string L[k]] 9))
          have Q2 := Lib.hid (HQ.out.alloc (.cells #[Value.string L[k]] 9))
          have hr := Lib.hid (HO2.out.row)
          simp only [List.getElem?_toArray, List.getElem?_cons_zero] at q0
          -- TEST
          go_wp2_with fail
          -- REGION
          go_region_law
            (first
            | (refine step_append (by rfl) _ _ (by rfl) (w1.heap.size + 1) v (L.take k) (by rfl) ?_ (some ⟨wr.heap.size, 0, none⟩) 1 [L[k]] (by rfl) ?_ ?_ ?_ ?_; exact HO2.out; exact SN.out; (simp; omega); (simp; omega); intro v' w3 ho0 hg; have ho : Own w3 (w1.heap.size + 1) v' (L.take (k + 1)) := own_take hkl ho0; obtain ⟨V, cv, rfl⟩ := own_form (n := k + 1) (by simp; omega) ho; have E3 : Hid (Below w1.heap.size w1 w3) := (by first | exact E2.out.grown hg E2.out.size (fun q hq => Nat.le_trans (by omega) (hr.out q hq).1) | exact E2.out.drew.grown hg E2.out.size (fun q hq => Nat.le_trans (by omega) (hr.out q hq).1)); have Q3 : Hid (Blk w3 w1.heap.size 24 #[v, .string ByteArray.empty, .string ByteArray.empty, .int .i64 0, .int .i64 0, .string ByteArray.empty]) := (by first | exact blk_grown Q2.out hg (fun e => by have := (hr.out _ e).1; omega) | exact blk_grown (Blk.drew Q2.out) hg (fun e => by have := (hr.out _ e).1; omega)); have q3 : w3.cell? ⟨w1.heap.size, 0, none⟩ = some v := Q3.out.cell 0; have f3 := Q3.out.free; have c3 : w3.cell? ⟨b, o + k, none⟩ = some (.string L[k]) := (E3.out.cell (p := ⟨b, o + k, none⟩) hbg).trans hcw; have O3 := Lib.hid ho; clear ho ho0 hg))
          -- BEHIND
          all_goals (try go_wp2)
          all_goals (refine ⟨⟨k + 1, .slice V (k + 1) cv, by omega, by omega, by go_num, O3.out.far (by simp) _, set0 Q3.out _, E3.out.setCell (by simp) _⟩, ?_⟩; simp [RowKit.intOf]; omega)
        · have hpk : L.take k = L.dropLast.take 4 := take_cut (by omega) hkl (by omega)
          have hxe : L = L.dropLast ++ [L[L.length - 1]'(by omega)] := last_cut hpos
          have z0 : (L[L.length - 1]'(by omega)).size ≤ 8000 := Nat.le_trans (HZ.out.2 _ _) h8N
          have hps : ∀ j (h : j < (L.take k).length), (L.take k)[j].size ≤ maxLen := fun j h => by
            rw [List.getElem_take]
            exact Nat.le_trans (HZ.out.2 j (by simp at h; omega)) (by unfold maxLen; omega)
          obtain ⟨b, o, rfl, hbg, hc⟩ := row_at HS.out HB.out (L.length - 1) (by omega)
          have HPp : Hid (ssplit.Pieces s 47 (L.dropLast ++ [L[L.length - 1]'(by omega)])) := Lib.hid (by rw [← hxe]; exact HP.out)
          have HPS := Lib.hid hps
          obtain ⟨V, cv, rfl⟩ := HO.out.form
          have hpl : (L.take k).length ≤ 8001 := by simp; omega
          have HPL := Lib.hid hpl
          have HPK := Lib.hid hpk
          generalize L.take k = p at *
          generalize L[L.length - 1]'(by omega) = x0 at *
          generalize L.dropLast = pre at *
          have q0 := HQ.out.cell
          have f0 := HQ.out.free
          have qs := HQ.out.lt
          have hL1 : ((L.length : Int) - 1).toNat = L.length - 1 := by omega
          have hL2 : 0 ≤ (L.length : Int) - 1 := by omega
          have hL3 : (L.length : Int) - 1 < L.length := by omega
          have hc' : wr.cell? ⟨b, o + ((L.length : Int) - 1).toNat, none⟩ = some (.string x0) := by rw [hL1]; exact hc
          clear hps hpl hpk hxe
          go_wp2_with fail
          refine (K2 x0 _ z0).out.mono ?_
          rintro _ _ ⟨x1, y1, hc91, rfl, n1, rfl⟩
          have H91 := Lib.hid hc91
          have S1 := Lib.hid (cut_size hc91)
          clear hc91
          -- SECOND
          go_wp2_with fail
          refine (K3 x1 _ (Nat.le_trans S1.out.1 z0)).out.mono ?_
          rintro _ _ ⟨x2, y2, hc46, rfl, n2, rfl⟩
          have H46 := Lib.hid hc46
          have S2 := Lib.hid (cut_size hc46)
          clear hc46
          -- UPTO
          go_upto_if 53 with (fail)
          go_cut [7] (fun s7 wx => ∃ (kd nn : Int) (key : ByteArray), Hid (keyS y1 = (kd, nn, key)) ∧ key.size ≤ 8000 ∧ Blk wx w1.heap.size 24 #[.slice V p.length cv, .string x2, .string y2, .int .i64 kd, .int .i64 nn, .string key] ∧ Own wx (w1.heap.size + 1) (.slice V p.length cv) p ∧ Below w1.heap.size w1 wx)
          case first =>
            have zy : y1.size ≤ 8000 := Nat.le_trans S1.out.2 z0
            by_cases hy : y1.size = 0
            · have hye : y1 = ByteArray.empty := ByteArray.size_eq_zero_iff.1 hy
              have e3 : y1.toList.isEmpty = true := by rw [tl_empty, hye]; rfl
              have e3n : (!y1.toList.isEmpty) = false := by rw [e3]; rfl
              have KK : Hid (keyS y1 = (0, 0, ByteArray.empty)) := Lib.hid (by unfold keyS; rw [if_pos hy])
              go_wp2_with fail
              all_goals first | (exfalso; have h9 : (!y1.toList.isEmpty) = true := (by assumption); rw [e3n] at h9; exact absurd h9 (by decide)) | skip
              go_meet
              refine ⟨0, 0, ByteArray.empty, KK, by decide, set2 (set1 (blk_dn HQ.out _) _) _, ?_, ?_⟩
              · repeat (first | with_reducible exact HO.out | with_reducible refine own_dn ?_ _ | with_reducible refine Own.far ?_ (by simp) _)
              · repeat (first | with_reducible exact HB.out | with_reducible refine below_dn ?_ _ | with_reducible refine Below.setCell ?_ (by simp) _)
            · have e3 : y1.toList.isEmpty = false := by
                rw [tl_empty]; simpa using hy
              have e3n : (!y1.toList.isEmpty) = true := by rw [e3]; rfl
              have y1p : 1 ≤ (y1.size : Int) := by omega
              have y1q : (y1.size : Int) ≤ 8000 := by omega
              have hsl : ∀ w : World, (Instr.slice 9 (.string y1) none (some (.int .i64 ((y1.size : Int) - 1))) none).run Tryd.prog w = .ok (.string (y1.extract 0 (y1.size - 1))) w := fun w => by
                have := Go.run_slice_string_h (P := Tryd.prog) (w := w) (t := 9) (s := y1) Tryd.underlying9 .i64 ((y1.size : Int) - 1) (by omega) (by omega)
                rw [this]; congr 2; congr 1; omega
              have zt : (y1.extract 0 (y1.size - 1)).size ≤ 8000 := by
                have e : (y1.extract 0 (y1.size - 1)).size = ((y1.data.toList.drop 0).take (y1.size - 1 - 0)).length := by rw [← Lib.extract_data]; rfl
                rw [e]; simp; omega
              by_cases hn : 0 ≤ snum.numZ (y1.extract 0 (y1.size - 1))
              · have KK : Hid (keyS y1 = (1, snum.numZ (y1.extract 0 (y1.size - 1)), ByteArray.empty)) := Lib.hid (by unfold keyS; rw [if_neg hy, if_pos hn])
                have K4' := fun W => K4 (y1.extract 0 (y1.size - 1)) W zt
                generalize y1.extract 0 (y1.size - 1) = T at *
                generalize snum.numZ T = z at *
                go_wp2_with fail
                all_goals first | (exfalso; have h9 : (!y1.toList.isEmpty) = false := (by assumption); rw [e3n] at h9; exact absurd h9 (by decide)) | skip
                refine (K4' _).out.mono ?_
                rintro _ _ ⟨rfl, n3, rfl⟩
                go_wp2_with fail
                refine (K4' _).out.mono ?_
                rintro _ _ ⟨rfl, n4, rfl⟩
                go_wp2_with fail
                go_meet
                refine ⟨1, z, ByteArray.empty, KK, by decide, set5 (set4 (blk_dn (set3 (blk_dn (set5 (set3 (set2 (set1 (blk_dn HQ.out _) _) _) _) _) n3) _) n4) _) _, ?_, ?_⟩
                · repeat (first | with_reducible exact HO.out | with_reducible refine own_dn ?_ _ | with_reducible refine Own.far ?_ (by simp) _)
                · repeat (first | with_reducible exact HB.out | with_reducible refine below_dn ?_ _ | with_reducible refine Below.setCell ?_ (by simp) _)
              · have KK : Hid (keyS y1 = (2, 0, y1.extract 0 (y1.size - 1))) := Lib.hid (by unfold keyS; rw [if_neg hy, if_neg hn])
                have K4' := fun W => K4 (y1.extract 0 (y1.size - 1)) W zt
                generalize y1.extract 0 (y1.size - 1) = T at *
                generalize snum.numZ T = z at *
                go_wp2_with fail
                all_goals first | (exfalso; have h9 : (!y1.toList.isEmpty) = false := (by assumption); rw [e3n] at h9; exact absurd h9 (by decide)) | skip
                refine (K4' _).out.mono ?_
                rintro _ _ ⟨rfl, n3, rfl⟩
                go_wp2_with fail
                go_meet
                refine ⟨2, 0, T, KK, zt, blk_dn (set5 (set3 (set2 (set1 (blk_dn HQ.out _) _) _) _) _) n3, ?_, ?_⟩
                · repeat (first | with_reducible exact HO.out | with_reducible refine own_dn ?_ _ | with_reducible refine Own.far ?_ (by simp) _)
                · repeat (first | with_reducible exact HB.out | with_reducible refine below_dn ?_ _ | with_reducible refine Below.setCell ?_ (by simp) _)
          case rest =>
            obtain ⟨kd, nn, key, hk, hks, hq, ho, hb⟩ := hcut
            have QC := Lib.hid hq
            have OC := Lib.hid ho
            have BC := Lib.hid hb
            have KT := fun (W : World) h => Lib.hid (txt.text_spec V cv ⟨p, x2, y2, kd, nn, key⟩ W h (Nat.le_trans HPL.out (by unfold maxLen; omega)) (Nat.le_trans S2.out.1 (by have := S1.out.1; unfold maxLen; omega)) (Nat.le_trans S2.out.2 (by have := S1.out.1; unfold maxLen; omega)) (Nat.le_trans hks (by unfold maxLen; omega)))
            have HU : Hid (∀ u, HasA s u → (⟨p, x2, y2, kd, nn, key⟩ : AddrD) = u) := Lib.hid (fun u hu => by
              have := cutS_is HPp.out H91.out H46.out hu
              rw [hk.out] at this
              rw [← this, HPK.out])
            have qc := QC.out.cell
            have fc := QC.out.free
            have qz := QC.out.lt
            clear hq ho hb q0 f0 hc hc'
            -- REST
            by_cases hv : HasA s ⟨p, x2, y2, kd, nn, key⟩
            · have hne := has_neA hv
              have e2 : bs (addrT ⟨p, x2, y2, kd, nn, key⟩) = s := by
                have := (hasA_iff hne).1 hv
                rw [this]; rfl
              have e3 : s.toList.isEmpty = false := by
                rw [tl_empty]; simp; intro h0; exact hne (by rw [h0]; rfl)
              have EA := Lib.hid (ansA_yes H8.out HU.out hv)
              rw [e2] at KT
              clear hv hne e2
              go_wp2_with fail
              refine (KT _ (OC.out.strs HPS.out)).out.mono ?_
              rintro _ w2 ⟨rfl, hb⟩
              have O2 := Lib.hid (OC.out.step hb)
              have E2 := Lib.hid (below_then BC.out hb (Nat.le_refl _))
              have Q2 := Lib.hid (QC.out.step hb)
              have G2 := Lib.hid (G1.out.step E2.out)
              have F2 := Lib.hid (below_then E1.out E2.out (Nat.le_refl _))
              have q2 := Q2.out.cell
              have f2 := Q2.out.free
              have g2 := G2.out.cell
              have fg2 := G2.out.free
              have z2 := G2.out.lt
              have z3 := Q2.out.lt
              clear hb qc fc
              go_wp2
              refine bodyPost_ret (v := .agg #[.slice V p.length cv, .string x2, .string y2, .int .i64 kd, .int .i64 nn, .string key, .int .i64 0]) (by simp [results, Tryd.results4, go_sem, q2, f2, g2, fg2, z2]; try rfl) rfl ?_
              show MadeR w (ansA s).1 (ansA s).2 _ _
              rw [EA.out]
              refine ⟨V, cv, rfl, ?_, ?_⟩
              · show Own _ _ (.slice V p.length cv) p
                refine Own.mono (base := w1.heap.size + 1) ?_ (by omega)
                repeat (first | with_reducible exact O2.out | with_reducible refine Own.far ?_ (by simp <;> omega) _)
              · repeat (first | with_reducible exact F2.out | with_reducible refine Below.setCell ?_ (by simp <;> omega) _)
            · have hno := noA_of HU.out hv
              have EA := Lib.hid (ansA_no H8.out hno)
              have hc0 : ((bs (addrT ⟨p, x2, y2, kd, nn, key⟩)).toList == s.toList) = false ∨ (((bs (addrT ⟨p, x2, y2, kd, nn, key⟩)).toList == s.toList) = true ∧ s.toList.isEmpty = true) := by
                by_cases he : addrT ⟨p, x2, y2, kd, nn, key⟩ = s.data.toList
                · refine .inr ⟨?_, ?_⟩
                  · rw [tl_beq]; simp; rw [he]; rfl
                  · rw [tl_empty]; simp
                    by_cases h0 : s.data.toList = []
                    · exact ByteArray.ext (Array.toList_inj.1 h0)
                    · exact absurd ((hasA_iff h0).2 he) hv
                · refine .inl ?_
                  rw [tl_beq]; simp
                  intro e; exact he (congrArg (fun x : ByteArray => x.data.toList) e)
              have KN := fun (W : World) => Lib.hid (KT W)
              generalize bs (addrT ⟨p, x2, y2, kd, nn, key⟩) = T at *
              clear hv hno
              rcases hc0 with hc0 | ⟨hc0, hd0⟩
              all_goals
                go_wp2_with fail
                refine (KT _ (OC.out.strs HPS.out)).out.mono ?_
                rintro _ w2 ⟨rfl, hb⟩
                have E2 := Lib.hid (below_then BC.out hb (Nat.le_refl _))
                have G2 := Lib.hid (G1.out.step E2.out)
                have F2 := Lib.hid (below_then E1.out E2.out (Nat.le_refl _))
                have g2 := G2.out.cell
                have fg2 := G2.out.free
                have z2 := G2.out.lt
                clear hb qc fc
                go_wp2
                refine bodyPost_ret (v := .agg #[.slice none 0 0, .string ByteArray.empty, .string ByteArray.empty, .int .i64 0, .int .i64 0, .string ByteArray.empty, .int .i64 3]) (by simp [results, Tryd.results4, go_sem, g2, fg2, z2]; try rfl) rfl ?_
                show MadeR w (ansA s).1 (ansA s).2 _ _
                rw [EA.out]
                refine ⟨none, 0, rfl, Own.nil _ _, ?_⟩
                repeat (first | with_reducible exact F2.out | with_reducible refine Below.setCell ?_ (by simp <;> omega) _)
      · have hpk : L.take k = L.dropLast.take 4 := take_cut (by omega) hkl (by omega)
        have hxe : L = L.dropLast ++ [L[L.length - 1]'(by omega)] := last_cut hpos
        have z0 : (L[L.length - 1]'(by omega)).size ≤ 8000 := Nat.le_trans (HZ.out.2 _ _) h8N
        have hps : ∀ j (h : j < (L.take k).length), (L.take k)[j].size ≤ maxLen := fun j h => by
          rw [List.getElem_take]
          exact Nat.le_trans (HZ.out.2 j (by simp at h; omega)) (by unfold maxLen; omega)
        obtain ⟨b, o, rfl, hbg, hc⟩ := row_at HS.out HB.out (L.length - 1) (by omega)
        have HPp : Hid (ssplit.Pieces s 47 (L.dropLast ++ [L[L.length - 1]'(by omega)])) := Lib.hid (by rw [← hxe]; exact HP.out)
        have HPS := Lib.hid hps
        obtain ⟨V, cv, rfl⟩ := HO.out.form
        have hpl : (L.take k).length ≤ 8001 := by simp; omega
        have HPL := Lib.hid hpl
        have HPK := Lib.hid hpk
        generalize L.take k = p at *
        generalize L[L.length - 1]'(by omega) = x0 at *
        generalize L.dropLast = pre at *
        have q0 := HQ.out.cell
        have f0 := HQ.out.free
        have qs := HQ.out.lt
        have hL1 : ((L.length : Int) - 1).toNat = L.length - 1 := by omega
        have hL2 : 0 ≤ (L.length : Int) - 1 := by omega
        have hL3 : (L.length : Int) - 1 < L.length := by omega
        have hc' : wr.cell? ⟨b, o + ((L.length : Int) - 1).toNat, none⟩ = some (.string x0) := by rw [hL1]; exact hc
        clear hps hpl hpk hxe
        go_wp2_with fail
        refine (K2 x0 _ z0).out.mono ?_
        rintro _ _ ⟨x1, y1, hc91, rfl, n1, rfl⟩
        have H91 := Lib.hid hc91
        have S1 := Lib.hid (cut_size hc91)
        clear hc91
        -- SECOND
        go_wp2_with fail
        refine (K3 x1 _ (Nat.le_trans S1.out.1 z0)).out.mono ?_
        rintro _ _ ⟨x2, y2, hc46, rfl, n2, rfl⟩
        have H46 := Lib.hid hc46
        have S2 := Lib.hid (cut_size hc46)
        clear hc46
        -- UPTO
        go_upto_if 53 with (fail)
        go_cut [7] (fun s7 wx => ∃ (kd nn : Int) (key : ByteArray), Hid (keyS y1 = (kd, nn, key)) ∧ key.size ≤ 8000 ∧ Blk wx w1.heap.size 24 #[.slice V p.length cv, .string x2, .string y2, .int .i64 kd, .int .i64 nn, .string key] ∧ Own wx (w1.heap.size + 1) (.slice V p.length cv) p ∧ Below w1.heap.size w1 wx)
        case first =>
          have zy : y1.size ≤ 8000 := Nat.le_trans S1.out.2 z0
          by_cases hy : y1.size = 0
          · have hye : y1 = ByteArray.empty := ByteArray.size_eq_zero_iff.1 hy
            have e3 : y1.toList.isEmpty = true := by rw [tl_empty, hye]; rfl
            have e3n : (!y1.toList.isEmpty) = false := by rw [e3]; rfl
            have KK : Hid (keyS y1 = (0, 0, ByteArray.empty)) := Lib.hid (by unfold keyS; rw [if_pos hy])
            go_wp2_with fail
            all_goals first | (exfalso; have h9 : (!y1.toList.isEmpty) = true := (by assumption); rw [e3n] at h9; exact absurd h9 (by decide)) | skip
            go_meet
            refine ⟨0, 0, ByteArray.empty, KK, by decide, set2 (set1 (blk_dn HQ.out _) _) _, ?_, ?_⟩
            · repeat (first | with_reducible exact HO.out | with_reducible refine own_dn ?_ _ | with_reducible refine Own.far ?_ (by simp) _)
            · repeat (first | with_reducible exact HB.out | with_reducible refine below_dn ?_ _ | with_reducible refine Below.setCell ?_ (by simp) _)
          · have e3 : y1.toList.isEmpty = false := by
              rw [tl_empty]; simpa using hy
            have e3n : (!y1.toList.isEmpty) = true := by rw [e3]; rfl
            have y1p : 1 ≤ (y1.size : Int) := by omega
            have y1q : (y1.size : Int) ≤ 8000 := by omega
            have hsl : ∀ w : World, (Instr.slice 9 (.string y1) none (some (.int .i64 ((y1.size : Int) - 1))) none).run Tryd.prog w = .ok (.string (y1.extract 0 (y1.size - 1))) w := fun w => by
              have := Go.run_slice_string_h (P := Tryd.prog) (w := w) (t := 9) (s := y1) Tryd.underlying9 .i64 ((y1.size : Int) - 1) (by omega) (by omega)
              rw [this]; congr 2; congr 1; omega
            have zt : (y1.extract 0 (y1.size - 1)).size ≤ 8000 := by
              have e : (y1.extract 0 (y1.size - 1)).size = ((y1.data.toList.drop 0).take (y1.size - 1 - 0)).length := by rw [← Lib.extract_data]; rfl
              rw [e]; simp; omega
            by_cases hn : 0 ≤ snum.numZ (y1.extract 0 (y1.size - 1))
            · have KK : Hid (keyS y1 = (1, snum.numZ (y1.extract 0 (y1.size - 1)), ByteArray.empty)) := Lib.hid (by unfold keyS; rw [if_neg hy, if_pos hn])
              have K4' := fun W => K4 (y1.extract 0 (y1.size - 1)) W zt
              generalize y1.extract 0 (y1.size - 1) = T at *
              generalize snum.numZ T = z at *
              go_wp2_with fail
              all_goals first | (exfalso; have h9 : (!y1.toList.isEmpty) = false := (by assumption); rw [e3n] at h9; exact absurd h9 (by decide)) | skip
              refine (K4' _).out.mono ?_
              rintro _ _ ⟨rfl, n3, rfl⟩
              go_wp2_with fail
              refine (K4' _).out.mono ?_
              rintro _ _ ⟨rfl, n4, rfl⟩
              go_wp2_with fail
              go_meet
              refine ⟨1, z, ByteArray.empty, KK, by decide, set5 (set4 (blk_dn (set3 (blk_dn (set5 (set3 (set2 (set1 (blk_dn HQ.out _) _) _) _) _) n3) _) n4) _) _, ?_, ?_⟩
              · repeat (first | with_reducible exact HO.out | with_reducible refine own_dn ?_ _ | with_reducible refine Own.far ?_ (by simp) _)
              · repeat (first | with_reducible exact HB.out | with_reducible refine below_dn ?_ _ | with_reducible refine Below.setCell ?_ (by simp) _)
            · have KK : Hid (keyS y1 = (2, 0, y1.extract 0 (y1.size - 1))) := Lib.hid (by unfold keyS; rw [if_neg hy, if_neg hn])
              have K4' := fun W => K4 (y1.extract 0 (y1.size - 1)) W zt
              generalize y1.extract 0 (y1.size - 1) = T at *
              generalize snum.numZ T = z at *
              go_wp2_with fail
              all_goals first | (exfalso; have h9 : (!y1.toList.isEmpty) = false := (by assumption); rw [e3n] at h9; exact absurd h9 (by decide)) | skip
              refine (K4' _).out.mono ?_
              rintro _ _ ⟨rfl, n3, rfl⟩
              go_wp2_with fail
              go_meet
              refine ⟨2, 0, T, KK, zt, blk_dn (set5 (set3 (set2 (set1 (blk_dn HQ.out _) _) _) _) _) n3, ?_, ?_⟩
              · repeat (first | with_reducible exact HO.out | with_reducible refine own_dn ?_ _ | with_reducible refine Own.far ?_ (by simp) _)
              · repeat (first | with_reducible exact HB.out | with_reducible refine below_dn ?_ _ | with_reducible refine Below.setCell ?_ (by simp) _)
        case rest =>
          obtain ⟨kd, nn, key, hk, hks, hq, ho, hb⟩ := hcut
          have QC := Lib.hid hq
          have OC := Lib.hid ho
          have BC := Lib.hid hb
          have KT := fun (W : World) h => Lib.hid (txt.text_spec V cv ⟨p, x2, y2, kd, nn, key⟩ W h (Nat.le_trans HPL.out (by unfold maxLen; omega)) (Nat.le_trans S2.out.1 (by have := S1.out.1; unfold maxLen; omega)) (Nat.le_trans S2.out.2 (by have := S1.out.1; unfold maxLen; omega)) (Nat.le_trans hks (by unfold maxLen; omega)))
          have HU : Hid (∀ u, HasA s u → (⟨p, x2, y2, kd, nn, key⟩ : AddrD) = u) := Lib.hid (fun u hu => by
            have := cutS_is HPp.out H91.out H46.out hu
            rw [hk.out] at this
            rw [← this, HPK.out])
          have qc := QC.out.cell
          have fc := QC.out.free
          have qz := QC.out.lt
          clear hq ho hb q0 f0 hc hc'
          -- REST
          by_cases hv : HasA s ⟨p, x2, y2, kd, nn, key⟩
          · have hne := has_neA hv
            have e2 : bs (addrT ⟨p, x2, y2, kd, nn, key⟩) = s := by
              have := (hasA_iff hne).1 hv
              rw [this]; rfl
            have e3 : s.toList.isEmpty = false := by
              rw [tl_empty]; simp; intro h0; exact hne (by rw [h0]; rfl)
            have EA := Lib.hid (ansA_yes H8.out HU.out hv)
            rw [e2] at KT
            clear hv hne e2
            go_wp2_with fail
            refine (KT _ (OC.out.strs HPS.out)).out.mono ?_
            rintro _ w2 ⟨rfl, hb⟩
            have O2 := Lib.hid (OC.out.step hb)
            have E2 := Lib.hid (below_then BC.out hb (Nat.le_refl _))
            have Q2 := Lib.hid (QC.out.step hb)
            have G2 := Lib.hid (G1.out.step E2.out)
            have F2 := Lib.hid (below_then E1.out E2.out (Nat.le_refl _))
            have q2 := Q2.out.cell
            have f2 := Q2.out.free
            have g2 := G2.out.cell
            have fg2 := G2.out.free
            have z2 := G2.out.lt
            have z3 := Q2.out.lt
            clear hb qc fc
            go_wp2
            refine bodyPost_ret (v := .agg #[.slice V p.length cv, .string x2, .string y2, .int .i64 kd, .int .i64 nn, .string key, .int .i64 0]) (by simp [results, Tryd.results4, go_sem, q2, f2, g2, fg2, z2]; try rfl) rfl ?_
            show MadeR w (ansA s).1 (ansA s).2 _ _
            rw [EA.out]
            refine ⟨V, cv, rfl, ?_, ?_⟩
            · show Own _ _ (.slice V p.length cv) p
              refine Own.mono (base := w1.heap.size + 1) ?_ (by omega)
              repeat (first | with_reducible exact O2.out | with_reducible refine Own.far ?_ (by simp <;> omega) _)
            · repeat (first | with_reducible exact F2.out | with_reducible refine Below.setCell ?_ (by simp <;> omega) _)
          · have hno := noA_of HU.out hv
            have EA := Lib.hid (ansA_no H8.out hno)
            have hc0 : ((bs (addrT ⟨p, x2, y2, kd, nn, key⟩)).toList == s.toList) = false ∨ (((bs (addrT ⟨p, x2, y2, kd, nn, key⟩)).toList == s.toList) = true ∧ s.toList.isEmpty = true) := by
              by_cases he : addrT ⟨p, x2, y2, kd, nn, key⟩ = s.data.toList
              · refine .inr ⟨?_, ?_⟩
                · rw [tl_beq]; simp; rw [he]; rfl
                · rw [tl_empty]; simp
                  by_cases h0 : s.data.toList = []
                  · exact ByteArray.ext (Array.toList_inj.1 h0)
                  · exact absurd ((hasA_iff h0).2 he) hv
              · refine .inl ?_
                rw [tl_beq]; simp
                intro e; exact he (congrArg (fun x : ByteArray => x.data.toList) e)
            have KN := fun (W : World) => Lib.hid (KT W)
            generalize bs (addrT ⟨p, x2, y2, kd, nn, key⟩) = T at *
            clear hv hno
            rcases hc0 with hc0 | ⟨hc0, hd0⟩
            all_goals
              go_wp2_with fail
              refine (KT _ (OC.out.strs HPS.out)).out.mono ?_
              rintro _ w2 ⟨rfl, hb⟩
              have E2 := Lib.hid (below_then BC.out hb (Nat.le_refl _))
              have G2 := Lib.hid (G1.out.step E2.out)
              have F2 := Lib.hid (below_then E1.out E2.out (Nat.le_refl _))
              have g2 := G2.out.cell
              have fg2 := G2.out.free
              have z2 := G2.out.lt
              clear hb qc fc
              go_wp2
              refine bodyPost_ret (v := .agg #[.slice none 0 0, .string ByteArray.empty, .string ByteArray.empty, .int .i64 0, .int .i64 0, .string ByteArray.empty, .int .i64 3]) (by simp [results, Tryd.results4, go_sem, g2, fg2, z2]; try rfl) rfl ?_
              show MadeR w (ansA s).1 (ansA s).2 _ _
              rw [EA.out]
              refine ⟨none, 0, rfl, Own.nil _ _, ?_⟩
              repeat (first | with_reducible exact F2.out | with_reducible refine Below.setCell ?_ (by simp <;> omega) _)
end Go.Proofs.YtfjfneliajmjbaaDoor.ars
