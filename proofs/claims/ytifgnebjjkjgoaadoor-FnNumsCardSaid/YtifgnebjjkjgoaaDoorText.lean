/- readText and GetText, the program's, at any text and place. Condition: the library's variable errorType holds its handle. -/
import Derived.Test.YtifgnebjjkjgoaaDoorRows
import Derived.Test.YtifgnebjjkjgoaaDoorGetNum
import Derived.Test.YtifgnebjjkjgoaaDoorJoin
import Derived.WalkKit
import Derived.Lib.Hide
import Derived.ProofKit
import Derived.WalkSpells
import Derived.Handy
import Derived.WalkSmall
namespace Go.Proofs.YtifgnebjjkjgoaaDoor.rd
open Go.ChangeShapes Go.WideShapes Go.ChangeAt Go.RowKit Go.Lib
set_option linter.unusedVariables false
set_option linter.unusedSimpArgs false

theorem dec_ok {l : List UInt8} : ∀ {k u : Nat} {p : Nat × Nat}, dec k u l = .ok p → k < p.2 ∧ p.2 ≤ k + l.length := by
  induction l with
  | nil => intro k u p h; simp [dec] at h
  | cons c r ih =>
    intro k u p h
    rw [dec] at h
    split at h
    · cases h
    · split at h
      · split at h
        · cases h
        · cases h; simp
      · have := ih h; simp; omega
theorem res_ok {s : ByteArray} {i : Int} {p : Nat × Nat} (h : res s i = .ok p) : 0 ≤ i ∧ i + (p.2 : Int) ≤ (s.size : Int) ∧ 0 < p.2 ∧ s.size ≤ 8000 := by
  unfold res at h
  split at h
  · cases h
  · split at h
    · cases h
    · have hd := dec_ok h
      rw [List.length_drop, ← size_eq] at hd
      omega

/-- what is told of a text and a place at which a text stands. -/
def tres (s : ByteArray) (i : Int) : Except Int (ByteArray × Int) :=
  match res s i with
  | .error c => .error c
  | .ok p => if numOf p.1 < 0 ∨ 8000 < numOf p.1 then .error 3 else if (s.size : Int) - (i + (p.2 : Int)) < numOf p.1 then .error 4
    else .ok (s.extract (i + (p.2 : Int)).toNat (i + (p.2 : Int) + numOf p.1).toNat, i + (p.2 : Int) + numOf p.1)
def tcode (r : Except Int (ByteArray × Int)) : Int := match r with | .error c => c | .ok _ => 0
def ttext (r : Except Int (ByteArray × Int)) : ByteArray := match r with | .error _ => ByteArray.empty | .ok p => p.1
def tat (r : Except Int (ByteArray × Int)) : Int := match r with | .error _ => 0 | .ok p => p.2
def terr (r : Except Int (ByteArray × Int)) : Value := match r with | .error c => .iface 56 (.agg #[.int .i64 c]) | .ok _ => .nilIface
theorem tres_err {s : ByteArray} {i c : Int} (h : res s i = .error c) : tres s i = .error c := by simp only [tres, h]
theorem tres_syn {s : ByteArray} {i : Int} {p : Nat × Nat} (h : res s i = .ok p) (hn : numOf p.1 < 0 ∨ 8000 < numOf p.1) : tres s i = .error 3 := by simp only [tres, h]; exact if_pos hn
theorem tres_short {s : ByteArray} {i : Int} {p : Nat × Nat} (h : res s i = .ok p) (hn : ¬ (numOf p.1 < 0 ∨ 8000 < numOf p.1)) (hs : (s.size : Int) - (i + (p.2 : Int)) < numOf p.1) : tres s i = .error 4 := by
  simp only [tres, h]; rw [if_neg hn, if_pos hs]
theorem tres_ok {s : ByteArray} {i : Int} {p : Nat × Nat} (h : res s i = .ok p) (hn : ¬ (numOf p.1 < 0 ∨ 8000 < numOf p.1)) (hs : ¬ (s.size : Int) - (i + (p.2 : Int)) < numOf p.1) :
    tres s i = .ok (s.extract (i + (p.2 : Int)).toNat (i + (p.2 : Int) + numOf p.1).toNat, i + (p.2 : Int) + numOf p.1) := by
  simp only [tres, h]; rw [if_neg hn, if_neg hs]

theorem cat1 (a : ByteArray) : str.cat [a] = a.data.toList := by simp [str.cat]

set_option maxHeartbeats 2000000 in
theorem text_any (s : ByteArray) (i : Int) (w : World) (hi2 : i ≤ 9223372036854775807) :
    Calls Tryd.prog 28 #[.string s, .int .i64 i] w fun e w' => e = .returned (.tuple #[.string (ttext (tres s i)), .int .i64 (tat (tres s i)), terr (tres s i)]) ∧ Below w.heap.size w w' := by
  have k := read_any s i w hi2
  cases hR : res s i with
  | error c =>
    have HV := Lib.hid (tres_err hR)
    rw [hR] at k
    have K : Hid (Calls Tryd.prog 22 #[.string s, .int .i64 i] w fun e w' => e = .returned (.tuple #[.int .i64 0, .int .i64 0, .iface 56 (.agg #[.int .i64 c])]) ∧ Below w.heap.size w w') := Lib.hid k
    clear k hR
    go_enter Tryd.func28, Tryd.ntmps28
    go_wp2_with fail
    refine K.out.mono ?_
    rintro e w2 ⟨rfl, hb⟩
    go_wp2
    go_ret3
    exact ⟨by rw [HV.out]; rfl, hb⟩
  | ok p =>
    obtain ⟨hi0, hat, hp, hs⟩ := res_ok hR
    obtain ⟨U, c⟩ := p
    rw [hR] at k
    have K : Hid (Calls Tryd.prog 22 #[.string s, .int .i64 i] w fun e w' => e = .returned (.tuple #[.int .i64 (numOf U), .int .i64 (i + (c : Int)), .nilIface]) ∧ Below w.heap.size w w') := Lib.hid k
    clear k
    have v1 : numOf U < 0 ∨ 8000 < numOf U → tres s i = .error 3 := tres_syn hR
    have v2 := tres_short hR
    have v3 := tres_ok hR
    simp only at hat hp v2 v3
    have V1 := Lib.hid v1
    have V2 := Lib.hid v2
    have V3 := Lib.hid v3
    clear v1 v2 v3 hR
    generalize numOf U = n at *
    obtain ⟨p, hpe⟩ : ∃ p, i + (c : Int) = p := ⟨_, rfl⟩
    rw [hpe] at K V2 V3 hat
    have hp0 : 0 ≤ p := by omega
    clear hpe
    by_cases hn : n < 0 ∨ 8000 < n
    · have HV := Lib.hid (V1.out hn)
      clear V1 V2 V3
      have hn' : n < 0 ∨ 0 ≤ n ∧ 8000 < n := by omega
      clear hn
      rcases hn' with hn | ⟨hn, hn2⟩
      all_goals
        go_enter Tryd.func28, Tryd.ntmps28
        go_wp2_with fail
        refine K.out.mono ?_
        rintro e w2 ⟨rfl, hb⟩
        go_wp2
        go_ret3
        exact ⟨by rw [HV.out]; rfl, hb⟩
    · by_cases hsh : (s.size : Int) - p < n
      · have HV := Lib.hid (V2.out hn hsh)
        have hn1 : 0 ≤ n := by omega
        have hn2 : n ≤ 8000 := by omega
        clear V1 V2 V3 hn
        go_enter Tryd.func28, Tryd.ntmps28
        go_wp2_with fail
        refine K.out.mono ?_
        rintro e w2 ⟨rfl, hb⟩
        go_wp2
        go_ret3
        exact ⟨by rw [HV.out]; rfl, hb⟩
      · have HV := Lib.hid (V3.out hn hsh)
        have hn1 : 0 ≤ n := by omega
        have hn2 : n ≤ 8000 := by omega
        have hsh2 : n ≤ (s.size : Int) - p := by omega
        have hsl : p + n ≤ (s.size : Int) := by omega
        have hpn : p ≤ p + n := by omega
        clear V1 V2 V3 hn hsh
        have hx : (s.extract p.toNat (p + n).toNat).size ≤ 8000 := by rw [ByteArray.size_extract]; omega
        generalize hext : s.extract p.toNat (p + n).toNat = x at *
        have HX := Lib.hid hext
        go_enter Tryd.func28, Tryd.ntmps28
        go_wp2_with fail
        refine K.out.mono ?_
        rintro e w2 ⟨rfl, hb⟩
        go_wp2_with fail
        refine (str.join_any [x] w2.heap.size _ ?_ (by simp) ?_ (by simp)).mono ?_
        · intro k hk
          rw [World.cell?_alloc_at _ _ _ _ rfl]
          match k, hk with
          | 0, _ => rfl
        · rw [cat1]
          have e' : x.data.toList.length = x.size := rfl
          omega
        rintro e w3 ⟨rfl, hb3⟩
        have g : Below w.heap.size w w3 := (hb.alloc hb.size _).trans (hb3.mono (by have := hb.size; simp; omega))
        clear hb3
        go_wp2
        go_ret3
        refine ⟨?_, g⟩
        rw [HV.out, cat1]; rfl
end Go.Proofs.YtifgnebjjkjgoaaDoor.rd
