/- GetText, the program's and the model's, at any text and place. Condition of the program's: the library's variable errorType holds its handle. -/
import Derived.Test.YtifgnebjjkjgoaaDoorRows
import Derived.Test.YtifgnebjjkjgoaaDoorText
import Derived.Test.YtifgnebjjkjgoaaDoorGetNumS
import Derived.WalkKit
import Derived.Lib.Hide
import Derived.ProofKit
import Derived.WalkSpells
import Derived.Handy
import Derived.BigRegion
namespace Go.Proofs.YtifgnebjjkjgoaaDoor.rd
open Go.ChangeShapes Go.WideShapes Go.ChangeAt Go.RowKit Go.Lib
set_option linter.unusedVariables false
set_option linter.unusedSimpArgs false

theorem dec_code {l : List UInt8} : ∀ {k u : Nat} {c : Int}, dec k u l = .error c → 3 ≤ c := by
  induction l with
  | nil => intro k u c h; simp [dec] at h; omega
  | cons b r ih =>
    intro k u c h
    rw [dec] at h
    split at h
    · cases h; omega
    · split at h
      · split at h
        · cases h; omega
        · cases h
      · exact ih h
theorem res_code {s : ByteArray} {i c : Int} (h : res s i = .error c) : 1 ≤ c := by
  unfold res at h
  split at h
  · cases h; omega
  · split at h
    · cases h; omega
    · have := dec_code h; omega

def textOut (t : ByteArray) (at' code : Int) : Value := .agg #[.string t, .int .i64 at', .int .i64 code]

theorem tcode_any (R : Except Int (ByteArray × Int)) (w : World) (hL : as.Laid w) :
    Calls Tryd.prog 23 #[terr R] w fun e w' => e = .returned (.int .i64 (tcode R)) ∧ Below w.heap.size w w' := by
  cases R with
  | error c => exact code_hit c w hL
  | ok p => exact code_nil w

set_option maxHeartbeats 1000000 in
theorem gtext_impl (s : ByteArray) (i : Int) (w : World) (hi2 : i ≤ 9223372036854775807) (hL : as.Laid w) :
    Calls Tryd.prog 13 #[.string s, .int .i64 i] w fun e w' => e = .returned (textOut (ttext (tres s i)) (tat (tres s i)) (tcode (tres s i))) ∧ Below w.heap.size w w' := by
  have hp := as.laid_pos hL
  have k := fun w => text_any s i w hi2
  generalize tres s i = R at *
  have K := Lib.hid k
  clear k
  have hlw := as.laid_below hL ((Below.refl w.heap.size w).alloc (Nat.le_refl _) (.cells #[Value.string ByteArray.empty, .int .i64 0, .int .i64 0] 31)) hp
  go_enter Tryd.func13, Tryd.ntmps13
  go_wp2_with fail
  refine (K.out _).mono ?_
  rintro e w2 ⟨rfl, hb⟩
  have hL2 := Lib.hid (as.laid_below hlw hb (by simp))
  go_wp2_with fail
  refine (tcode_any R _ hL2.out).mono ?_
  rintro e w3 ⟨rfl, hb3⟩
  have hb' := hb.trans (hb3.mono hb.size)
  clear hb3 hL2
  obtain ⟨⟨c0, c1, c2⟩, ⟨f0, f1, f2⟩, hlt⟩ := cells_later hb'
  have hbw : Below w.heap.size w w3 := ((Below.refl w.heap.size w).alloc (Nat.le_refl _) _).trans (hb'.mono (by simp))
  clear hb hb'
  go_wp2
  refine bodyPost_ret (v := textOut (ttext R) (tat R) (tcode R)) ?_ rfl ⟨rfl, ?_⟩
  · simp [results, Tryd.results13, go_sem, c0, c1, c2, hlt]
    rfl
  · go_grown

set_option maxHeartbeats 1000000 in
theorem eq_text (a : ByteArray) (b c : Int) (w : World) :
    Calls Tryd.prog 17 #[textOut a b c, textOut a b c] w fun e w' => e = .returned (.bool true) ∧ Below w.heap.size w w' := by
  unfold textOut
  go_enter Tryd.func17, Tryd.ntmps17
  go_wp2
  all_goals go_ret
  all_goals exact ⟨rfl, by go_grown⟩

set_option maxHeartbeats 2000000 in
theorem gtext_spec (s : ByteArray) (i : Int) (w : World) (hs0 : (s.size : Int) ≤ 1048576) (hi1 : -9223372036854775808 ≤ i) (hi2 : i ≤ 9223372036854775807) :
    Calls Tryd.prog 16 #[.string s, .int .i64 i] w fun e w' => e = .returned (textOut (ttext (tres s i)) (tat (tres s i)) (tcode (tres s i))) ∧ Below w.heap.size w w' := by
  have k := fun w => get_spec s i w hs0 hi1 hi2
  unfold numOutS at k
  cases hR : res s i with
  | error c =>
    have HV := Lib.hid (tres_err hR)
    have hc : (c == 0) = false := by
      have := res_code hR
      simp; omega
    rw [hR] at k
    simp only [numV, atV, codeV] at k
    have K := Lib.hid k
    clear k hR
    go_enter Tryd.func16, Tryd.ntmps16
    go_wp2_with fail
    refine (K.out _).mono ?_
    rintro e w2 ⟨rfl, hb⟩
    obtain ⟨⟨c0, c1, c2⟩, ⟨f0, f1, f2⟩, hlt⟩ := cells_later hb
    have hbw : Below w.heap.size w w2 := ((Below.refl w.heap.size w).alloc (Nat.le_refl _) _).trans (hb.mono (by simp))
    have hsz := hbw.size
    clear hb
    go_wp2
    refine bodyPost_ret (v := textOut ByteArray.empty 0 c) ?_ rfl ⟨by rw [HV.out]; rfl, ?_⟩
    · simp [results, Tryd.results16, go_sem, c0, c1, c2, hlt]
      rfl
    · go_grown
  | ok p =>
    obtain ⟨hi0, hat, hp, hs⟩ := res_ok hR
    obtain ⟨U, c⟩ := p
    rw [hR] at k
    simp only [numV, atV, codeV] at k
    have v1 : numOf U < 0 ∨ 8000 < numOf U → tres s i = .error 3 := tres_syn hR
    have v2 := tres_short hR
    have v3 := tres_ok hR
    simp only at hat hp v2 v3
    have V1 := Lib.hid v1
    have V2 := Lib.hid v2
    have V3 := Lib.hid v3
    clear v1 v2 v3 hR
    generalize numOf U = n at *
    obtain ⟨p, hpe⟩ : ∃ p, i + (c : Int) = p := ⟨_, rfl⟩
    rw [hpe] at k V2 V3 hat
    have hp0 : 0 ≤ p := by omega
    have K := Lib.hid k
    clear k hpe
    by_cases hn : n < 0 ∨ 8000 < n
    · have HV := Lib.hid (V1.out hn)
      clear V1 V2 V3
      have hn' : n < 0 ∨ 0 ≤ n ∧ 8000 < n := by omega
      clear hn
      rcases hn' with hn | ⟨hn, hn2⟩
      all_goals
        go_enter Tryd.func16, Tryd.ntmps16
        go_wp2_with fail
        refine (K.out _).mono ?_
        rintro e w2 ⟨rfl, hb⟩
        obtain ⟨⟨c0, c1, c2⟩, ⟨f0, f1, f2⟩, hlt⟩ := cells_later hb
        have hbw : Below w.heap.size w w2 := ((Below.refl w.heap.size w).alloc (Nat.le_refl _) _).trans (hb.mono (by simp))
        have hsz := hbw.size
        clear hb
        go_wp2
        refine bodyPost_ret (v := textOut ByteArray.empty 0 3) ?_ rfl ⟨by rw [HV.out]; rfl, ?_⟩
        · simp [results, Tryd.results16, go_sem, c0, c1, c2, hlt]
          rfl
        · go_grown
    · by_cases hsh : (s.size : Int) - p < n
      · have HV := Lib.hid (V2.out hn hsh)
        have hn1 : 0 ≤ n := by omega
        have hn2 : n ≤ 8000 := by omega
        have hsh2 : (s.size : Int) - n < p := by omega
        clear V1 V2 V3 hn
        go_enter Tryd.func16, Tryd.ntmps16
        go_wp2_with fail
        refine (K.out _).mono ?_
        rintro e w2 ⟨rfl, hb⟩
        obtain ⟨⟨c0, c1, c2⟩, ⟨f0, f1, f2⟩, hlt⟩ := cells_later hb
        have hbw : Below w.heap.size w w2 := ((Below.refl w.heap.size w).alloc (Nat.le_refl _) _).trans (hb.mono (by simp))
        have hsz := hbw.size
        clear hb
        go_wp2
        refine bodyPost_ret (v := textOut ByteArray.empty 0 4) ?_ rfl ⟨by rw [HV.out]; rfl, ?_⟩
        · simp [results, Tryd.results16, go_sem, c0, c1, c2, hlt]
          rfl
        · go_grown
      · have HV := Lib.hid (V3.out hn hsh)
        have hn1 : 0 ≤ n := by omega
        have hn2 : n ≤ 8000 := by omega
        have hsh2 : p ≤ (s.size : Int) - n := by omega
        have hsl : p + n ≤ (s.size : Int) := by omega
        have hpn : p ≤ p + n := by omega
        clear V1 V2 V3 hn hsh
        generalize hext : s.extract p.toNat (p + n).toNat = x at *
        have HX := Lib.hid hext
        have hslc : ∀ w : World, (Instr.slice 9 (.string s) (some (.int .i64 p)) (some (.int .i64 (p + n))) none).run Tryd.prog w = .ok (.string x) w := fun w => by
          rw [Go.run_slice_string w 9 s .i64 .i64 p (p + n) Tryd.underlying9 hp0 hpn hsl, HX.out]
        go_enter Tryd.func16, Tryd.ntmps16
        go_wp2_with fail
        refine (K.out _).mono ?_
        rintro e w2 ⟨rfl, hb⟩
        obtain ⟨⟨c0, c1, c2⟩, ⟨f0, f1, f2⟩, hlt⟩ := cells_later hb
        have hbw : Below w.heap.size w w2 := ((Below.refl w.heap.size w).alloc (Nat.le_refl _) _).trans (hb.mono (by simp))
        have hsz := hbw.size
        clear hb
        go_wp2
        have hwr : IntKind.i64.wrap (p + n) = p + n := IntWalk.i64_in _ (by omega)
        go_region
        clear hwr hslc
        go_wp2
        refine bodyPost_ret (v := textOut x (p + n) 0) ?_ rfl ⟨by rw [HV.out]; rfl, ?_⟩
        · simp [results, Tryd.results16, go_sem, c0, c1, c2, hlt]
          rfl
        · go_grown
end Go.Proofs.YtifgnebjjkjgoaaDoor.rd
