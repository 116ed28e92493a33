/- ValueRead of the model. -/
import Derived.Test.YtnhoknbofmpdbaaDoorNumP
import Derived.Test.YtnhoknbofmpdbaaDoorVlT
import Derived.Test.YtnhoknbofmpdbaaDoorSNum
import Derived.BigRegion
namespace Go.Proofs.YtnhoknbofmpdbaaDoor.vr
open ad mem vl dig nump
open Go.ChangeShapes Go.WideShapes Go.ChangeAt Go.RowKit Go.Lib
set_option linter.unusedVariables false
set_option maxRecDepth 8000
set_option linter.unusedSimpArgs false

theorem at_eq (s : ByteArray) (k : Nat) (h : k < s.size) : s[k] = s.data.toList[k]'(by simpa using h) := rfl
theorem head_eq {s : ByteArray} {c : UInt8} {r : List UInt8} (h : s.data.toList = c :: r) (h0 : 0 < s.size) : s[0] = c := by
  rw [at_eq]; simp [h]
theorem size_len (s : ByteArray) : s.size = s.data.toList.length := rfl
theorem numZ_dec {s : ByteArray} {n : Nat} (h : s.data.toList = decDigits n) (hn : n ≤ 1000000) : snum.numZ s = n := by
  have hl : s.size ≤ 7 := by rw [size_len, h]; exact nump.dec_len 6 n (by omega)
  have h0 : 0 < s.size := by rw [size_len, h]; exact List.length_pos_iff.2 (nump.dec_ne n)
  have hd : snum.digTo s s.size := fun j hj hs => by
    rw [at_eq]
    exact nump.digs_dec n _ (by rw [← h]; exact List.getElem_mem _)
  rw [snum.numZ_yes (by omega) (by omega) (fun h1 => ?_) hd]
  · have e : snum.valTo s s.size = spell 0 s.data.toList := by
      unfold snum.valTo spell
      rw [List.take_of_length_le (by rw [size_len]; exact Nat.le_refl _)]
    rw [e, h, spell_dec]
  · cases hc : decDigits n with
    | nil => exact absurd hc (nump.dec_ne n)
    | cons c r =>
      rw [head_eq (h.trans hc) h0]
      by_cases hn0 : n = 0
      · subst hn0
        have : s.size = 1 := by rw [size_len, h, Lib.decDigits]; rfl
        omega
      · exact nump.dec_head n (by omega) c r hc

/-- what the model takes a text for. -/
noncomputable def cutS (s : ByteArray) : ValD :=
  if 2 ≤ s.size ∧ s.data.toList.head? = some 34 then ⟨2, 0, s.extract 1 (s.size - 1)⟩
  else if 2 ≤ s.size ∧ s.data.toList.head? = some 45 then ⟨1, -snum.numZ (s.extract 1 s.size), ByteArray.empty⟩ else ⟨1, snum.numZ s, ByteArray.empty⟩
theorem head_at {s : ByteArray} (h : 0 < s.size) (b : UInt8) : s.data.toList.head? = some b ↔ s[0] = b := by
  cases hc : s.data.toList with
  | nil => rw [size_len, hc] at h; simp at h
  | cons c r => rw [head_eq hc h]; simp
theorem extract_mid (s : ByteArray) : (s.extract 1 (s.size - 1)).data.toList = (s.data.toList.drop 1).take (s.size - 2) := by
  rw [Lib.extract_data]; congr 1
theorem extract_tail (s : ByteArray) : (s.extract 1 s.size).data.toList = s.data.toList.drop 1 := by
  rw [Lib.extract_data, List.take_of_length_le (by simp)]
theorem val_ext {k n : Int} {t : ByteArray} {v : ValD} (h1 : v.kind = k) (h2 : v.n = n) (h3 : v.text = t) : (⟨k, n, t⟩ : ValD) = v := by
  obtain ⟨a, b, c⟩ := v; subst h1 h2 h3; rfl
theorem cutS_is {s : ByteArray} {v : ValD} (h : HasV s v) : cutS s = v := by
  by_cases hq : ∃ r, s.data.toList = 34 :: r
  · obtain ⟨r, hr⟩ := hq
    obtain ⟨k, n, e⟩ := quote_cut r hr h
    have hl : s.size = v.text.data.toList.length + 2 := by rw [size_len, hr, e]; simp
    unfold cutS
    rw [if_pos ⟨by omega, by rw [hr]; rfl⟩]
    refine val_ext k n ?_
    apply ByteArray.ext; apply Array.toList_inj.1
    rw [extract_mid, hr, e, hl]; simp
  · have hq' : ∀ r, s.data.toList ≠ 34 :: r := fun r hr => hq ⟨r, hr⟩
    obtain ⟨k, ht, n0, n1, e⟩ := num_cut hq' h
    have h34 : ¬ s.data.toList.head? = some 34 := by
      intro hh
      cases hc : s.data.toList with
      | nil => rw [hc] at hh; cases hh
      | cons c r => rw [hc] at hh; simp at hh; subst hh; exact hq' r hc
    unfold cutS
    rw [if_neg (fun hh => h34 hh.2)]
    by_cases hneg : v.n < 0
    · have e2 : s.data.toList = 45 :: decDigits v.n.natAbs := by rw [e]; unfold itoa; rw [if_pos hneg]
      have hp : 0 < (decDigits v.n.natAbs).length := List.length_pos_iff.2 (nump.dec_ne _)
      have hl : s.size = (decDigits v.n.natAbs).length + 1 := by rw [size_len, e2]; simp
      rw [if_pos ⟨by omega, by rw [e2]; rfl⟩]
      refine val_ext k ?_ ht
      rw [numZ_dec (n := v.n.natAbs) (by rw [extract_tail, e2]; rfl) (by omega)]
      omega
    · have e2 : s.data.toList = decDigits v.n.toNat := by rw [e]; unfold itoa; rw [if_neg hneg]
      have h45 : ¬ s.data.toList.head? = some 45 := by
        rw [e2]
        cases hc : decDigits v.n.toNat with
        | nil => simp
        | cons c r =>
          have := ard.dec_dig v.n.toNat c (by rw [hc]; simp)
          simp only [List.head?_cons, Option.some.injEq]
          intro hh; subst hh; exact absurd this.1 (by decide)
      rw [if_neg (fun hh => h45 hh.2)]
      refine val_ext k ?_ ht
      rw [numZ_dec e2 (by omega)]
      omega
theorem cutS_text (s : ByteArray) : (cutS s).text.size ≤ s.size := by
  unfold cutS
  split
  · rw [size_len, extract_mid]; simp; omega
  · split <;> exact Nat.zero_le _

theorem numZ_in (s : ByteArray) : -1 ≤ snum.numZ s ∧ snum.numZ s ≤ 1000000000 := by
  unfold snum.numZ
  split
  · rename_i h
    have := snum.valTo_le (s := s) (k := s.size) (Nat.le_refl _) h.2.2.2
    have h9 : 10 ^ s.size ≤ 10 ^ 9 := Nat.pow_le_pow_right (by omega) h.2.1
    have e9 : 10 ^ 9 = 1000000000 := rfl
    omega
  · omega

set_option maxHeartbeats 1000000 in
theorem l03Read_any (s : ByteArray) (w : World) (hs : s.size ≤ 1000000000) :
    Calls Tryd.prog 40 #[.string s] w (vl.Told w (.agg #[.int .i64 (cutS s).kind, .int .i64 (cutS s).n, .string (cutS s).text])) := by
  have hml : s.size ≤ maxLen := by unfold maxLen; omega
  by_cases h2 : 2 ≤ s.size
  · have h2I : 2 ≤ (s.size : Int) := by omega
    have h0 : 0 < s.size := by omega
    by_cases hq : s[0] = 34
    · have e : cutS s = ⟨2, 0, s.extract 1 (s.size - 1)⟩ := by unfold cutS; rw [if_pos ⟨h2, (head_at h0 34).2 hq⟩]
      rw [e]
      have hqb : ((s[0].toNat : Int) == 34) = true := by rw [hq]; rfl
      have hsl : ∀ w : World, (Instr.slice 9 (.string s) (some (.int .i64 1)) (some (.int .i64 ((s.size : Int) - 1))) none).run Tryd.prog w = .ok (.string (s.extract 1 (s.size - 1))) w := fun w => by
        have := Go.run_slice_string (P := Tryd.prog) (w := w) 9 s .i64 .i64 1 ((s.size : Int) - 1) Tryd.underlying9 (by omega) (by omega) (by omega)
        rw [this]; congr 2; congr 1; omega
      clear hq e
      go_enter Tryd.func40, Tryd.ntmps40
      go_wp2
      refine bodyPost_ret (v := .agg #[.int .i64 2, .int .i64 0, .string (s.extract 1 (s.size - 1))]) (by simp [results, Tryd.results40, go_sem]) rfl ⟨rfl, ?_⟩
      repeat (with_reducible refine Below.setCell ?_ (by simp <;> omega) _)
      exact below_a1 _ _
    · have hqb : ((s[0].toNat : Int) == 34) = false := by
        have : s[0].toNat ≠ 34 := fun e => hq (UInt8.toNat_inj.1 e)
        simp; omega
      have n34 : ¬ (2 ≤ s.size ∧ s.data.toList.head? = some 34) := fun h => hq ((head_at h0 34).1 h.2)
      by_cases hm : s[0] = 45
      · have hmb : ((s[0].toNat : Int) == 45) = true := by rw [hm]; rfl
        have e : cutS s = ⟨1, -snum.numZ (s.extract 1 s.size), ByteArray.empty⟩ := by unfold cutS; rw [if_neg n34, if_pos ⟨h2, (head_at h0 45).2 hm⟩]
        rw [e]
        have hsl : ∀ w : World, (Instr.slice 9 (.string s) (some (.int .i64 1)) none none).run Tryd.prog w = .ok (.string (s.extract 1 s.size)) w := fun w => by
          have := Go.run_slice_string_l (P := Tryd.prog) (w := w) (t := 9) (s := s) Tryd.underlying9 .i64 1 (by omega) (by omega)
          simpa using this
        have K1 := fun (W : World) => Lib.hid (snum.spec_any s W hml)
        have K2 := fun (W : World) => Lib.hid (snum.spec_any (s.extract 1 s.size) W (by have : (s.extract 1 s.size).size ≤ s.size := by rw [size_len, extract_tail]; simp
                                                                                        omega))
        obtain ⟨z0, z1⟩ := numZ_in (s.extract 1 s.size)
        generalize snum.numZ (s.extract 1 s.size) = z at *
        generalize snum.numZ s = y at K1
        clear hq hm e n34 hml
        go_enter Tryd.func40, Tryd.ntmps40
        go_wp2_with fail
        refine (K1 _).out.mono ?_
        rintro _ _ ⟨rfl, n1, rfl⟩
        go_wp2_with fail
        refine (K2 _).out.mono ?_
        rintro _ _ ⟨rfl, n2, rfl⟩
        go_wp2
        refine bodyPost_ret (v := .agg #[.int .i64 1, .int .i64 (-z), .string ByteArray.empty]) (by simp [results, Tryd.results40, go_sem]; try rfl) rfl ⟨rfl, ?_⟩
        repeat (first | exact below_a1 _ _ | exact below_a2 _ _ _ | with_reducible refine Below.setCell ?_ (by simp <;> omega) _ | with_reducible refine below_dn ?_ _ | with_reducible refine Below.drew ?_ | with_reducible refine below_da ?_ (Nat.le_refl _) _)
      · have hmb : ((s[0].toNat : Int) == 45) = false := by
          have : s[0].toNat ≠ 45 := fun e => hm (UInt8.toNat_inj.1 e)
          simp; omega
        have e : cutS s = ⟨1, snum.numZ s, ByteArray.empty⟩ := by unfold cutS; rw [if_neg n34, if_neg (fun h => hm ((head_at h0 45).1 h.2))]
        rw [e]
        have K1 := fun (W : World) => Lib.hid (snum.spec_any s W hml)
        generalize snum.numZ s = y at *
        clear hq hm e n34 hml
        go_enter Tryd.func40, Tryd.ntmps40
        go_wp2_with fail
        refine (K1 _).out.mono ?_
        rintro _ _ ⟨rfl, n1, rfl⟩
        go_wp2
        refine bodyPost_ret (v := .agg #[.int .i64 1, .int .i64 y, .string ByteArray.empty]) (by simp [results, Tryd.results40, go_sem]; try rfl) rfl ⟨rfl, ?_⟩
        repeat (first | exact below_a1 _ _ | exact below_a2 _ _ _ | with_reducible refine Below.setCell ?_ (by simp <;> omega) _ | with_reducible refine below_dn ?_ _ | with_reducible refine Below.drew ?_ | with_reducible refine below_da ?_ (Nat.le_refl _) _)
  · have h2I : (s.size : Int) < 2 := by omega
    have h1I : (s.size : Int) ≤ 1 := by omega
    have e : cutS s = ⟨1, snum.numZ s, ByteArray.empty⟩ := by unfold cutS; rw [if_neg (fun h => h2 h.1), if_neg (fun h => h2 h.1)]
    rw [e]
    have K1 := fun (W : World) => Lib.hid (snum.spec_any s W hml)
    generalize snum.numZ s = y at *
    clear e hml h2
    go_enter Tryd.func40, Tryd.ntmps40
    go_wp2_with fail
    refine (K1 _).out.mono ?_
    rintro _ _ ⟨rfl, n1, rfl⟩
    go_wp2
    refine bodyPost_ret (v := .agg #[.int .i64 1, .int .i64 y, .string ByteArray.empty]) (by simp [results, Tryd.results40, go_sem]; try rfl) rfl ⟨rfl, ?_⟩
    repeat (first | exact below_a1 _ _ | exact below_a2 _ _ _ | with_reducible refine Below.setCell ?_ (by simp <;> omega) _ | with_reducible refine below_dn ?_ _ | with_reducible refine Below.drew ?_ | with_reducible refine below_da ?_ (Nat.le_refl _) _)

theorem valT_len {v : ValD} : (valT v).length ≤ 2000000 := by
  unfold valT
  split
  · rename_i h
    unfold rawV
    split
    · rename_i k
      have hn := num_le h k
      have : (itoa v.n).length ≤ 1000002 := by
        unfold itoa
        split
        · have := dig.dec_len v.n.natAbs; simp; omega
        · have := dig.dec_len v.n.toNat; omega
      omega
    · rename_i k
      have := text8 h k
      have e : v.text.data.toList.length = v.text.size := rfl
      simp [e]; omega
  · simp

set_option maxHeartbeats 2000000 in
theorem read_spec (s : ByteArray) (w : World) (hs : s.size ≤ 1000000000) :
    Calls Tryd.prog 16 #[.string s] w (vl.Told w (.agg #[.int .i64 (ans s).1.kind, .int .i64 (ans s).1.n, .string (ans s).1.text, .int .i64 (ans s).2])) := by
  by_cases h8 : 8000 < s.size
  · have h8I : 8000 < (s.size : Int) := by omega
    rw [ans_long h8]
    clear h8
    go_enter Tryd.func16, Tryd.ntmps16
    go_wp2
    refine bodyPost_ret (v := .agg #[.int .i64 0, .int .i64 0, .string ByteArray.empty, .int .i64 2]) (by simp [results, Tryd.results16, go_sem]; try rfl) rfl ⟨rfl, ?_⟩
    repeat (first | exact below_a1 _ _ | with_reducible refine Below.setCell ?_ (by simp <;> omega) _)
  · have h8I : (s.size : Int) ≤ 8000 := by omega
    have hu : ∀ u, HasV s u → cutS s = u := fun u h => cutS_is h
    have hml : (cutS s).text.size ≤ maxLen := by have := cutS_text s; unfold maxLen; omega
    have K1 := fun (W : World) => Lib.hid (l03Read_any s W hs)
    have K2 := fun (W : World) => Lib.hid (textV_spec (cutS s) W hml)
    by_cases hv : HasV s (cutS s)
    · have hne := has_ne hv
      have e2 : bs (valT (cutS s)) = s := by
        have := (has_iff hne).1 hv
        rw [this]; rfl
      have e3 : s.toList.isEmpty = false := by
        rw [tl_empty]; simp; intro h0; exact hne (by rw [h0]; rfl)
      rw [e2] at K2
      rw [ans_yes h8 hu hv]
      generalize cutS s = v at *
      clear hu hv hne e2 h8 hml
      go_enter Tryd.func16, Tryd.ntmps16
      go_wp2_with fail
      refine (K1 _).out.mono ?_
      rintro _ w1 ⟨rfl, hb⟩
      have E1 := Lib.hid (below_then (below_a1 _ _) hb (Nat.le_refl _))
      have R1 := Lib.hid ((Blk.new w _ _).step hb)
      clear hb
      go_wp2_with fail
      refine (K2 _).out.mono ?_
      rintro _ w2 ⟨rfl, hb⟩
      have E2 := Lib.hid (below_then (below_da E1.out (Nat.le_refl _) _) hb (Nat.le_refl _))
      have R2 := Lib.hid ((R1.out.alloc _).step hb)
      have V2 := Lib.hid ((Blk.new w1 _ _).step hb)
      have r2 := R2.out.cell
      have f2 := R2.out.free
      have v2 := V2.out.cell
      have z2 := R2.out.lt
      have n2 : ¬ w.heap.size = w1.heap.size := by have := R1.out.lt; omega
      clear hb
      go_wp2
      refine bodyPost_ret (v := .agg #[.int .i64 v.kind, .int .i64 v.n, .string v.text, .int .i64 0]) (by simp [results, Tryd.results16, go_sem, r2, f2, z2]; try rfl) rfl ⟨rfl, ?_⟩
      repeat (first | exact E2.out | with_reducible refine Below.setCell ?_ (by simp <;> omega) _)
    · have hno := no_of hu hv
      rw [ans_no h8 hno]
      have hz : (bs (valT (cutS s))).size ≤ 2000000 := by rw [bs_size]; exact valT_len
      have hc : ((bs (valT (cutS s))).toList == s.toList) = false ∨ (((bs (valT (cutS s))).toList == s.toList) = true ∧ s.toList.isEmpty = true) := by
        by_cases he : valT (cutS s) = s.data.toList
        · refine .inr ⟨?_, ?_⟩
          · rw [tl_beq]; simp; rw [he]; rfl
          · rw [tl_empty]; simp
            by_cases h0 : s.data.toList = []
            · exact ByteArray.ext (Array.toList_inj.1 h0)
            · exact absurd ((has_iff h0).2 he) hv
        · refine .inl ?_
          rw [tl_beq]; simp
          intro e; exact he (congrArg (fun x : ByteArray => x.data.toList) e)
      generalize bs (valT (cutS s)) = T at *
      generalize cutS s = v at *
      clear hu hv hno h8 hml
      rcases hc with hc | ⟨hc, hd⟩
      all_goals
        go_enter Tryd.func16, Tryd.ntmps16
        go_wp2_with fail
        refine (K1 _).out.mono ?_
        rintro _ w1 ⟨rfl, hb⟩
        have E1 := Lib.hid (below_then (below_a1 _ _) hb (Nat.le_refl _))
        have R1 := Lib.hid ((Blk.new w _ _).step hb)
        clear hb
        go_wp2_with fail
        refine (K2 _).out.mono ?_
        rintro _ w2 ⟨rfl, hb⟩
        have E2 := Lib.hid (below_then (below_da E1.out (Nat.le_refl _) _) hb (Nat.le_refl _))
        have R2 := Lib.hid ((R1.out.alloc _).step hb)
        have r2 := R2.out.cell
        have f2 := R2.out.free
        have z2 := R2.out.lt
        clear hb
        go_wp2
        refine bodyPost_ret (v := .agg #[.int .i64 0, .int .i64 0, .string ByteArray.empty, .int .i64 3]) (by simp [results, Tryd.results16, go_sem, r2, f2, z2]; try rfl) rfl ⟨rfl, ?_⟩
        repeat (first | exact E2.out | with_reducible refine Below.setCell ?_ (by simp <;> omega) _)
end Go.Proofs.YtnhoknbofmpdbaaDoor.vr
