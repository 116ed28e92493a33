/- cutBook of the program. -/
import Derived.Test.YtnjpddbpnmgcpaaGreatBsI
namespace Go.Proofs.YtnjpddbpnmgcpaaGreat.cf
open ad mem vl ex un cm Go.Shelf
open Go.ChangeShapes Go.WideShapes Go.ChangeAt Go.RowKit Go.Lib
set_option linter.unusedVariables false
set_option maxRecDepth 8000
set_option linter.unusedSimpArgs false


def CutRes (A : Option Addr) (xs : List (List DC)) (ds : List DC) (e : Ending) : Prop := ∃ (k : Nat) (there : Bool) (A1 A2 A3 : Option Addr) (n2 c2 c3 to : Nat), e = .returned (.tuple #[.slice A1 k k, .slice A2 n2 c2, .slice A3 (xs.length - to) c3]) ∧ (n2 = 0 ↔ there = false) ∧ to = k + (if there then 1 else 0) ∧ to ≤ xs.length ∧ (0 < k → A1 = A) ∧ (to < xs.length → ∃ b o, A = some ⟨b, o, none⟩ ∧ A3 = some ⟨b, o + to * 8, none⟩) ∧ Cut xs ds k there
set_option maxHeartbeats 4000000 in
theorem cutBook_impl {B B' : Nat → Prop} {n m c : Nat} {w : World} {xs : List (List DC)} {A : Option Addr} {ds : List DC} {vs : List Value} (h : Cell B n w (.l 8) (.l xs) (.slice A xs.length c)) (h' : Cells B' m w shAddr_ ds vs) (hxl : xs.length ≤ 1000) (hcap : xs.length ≤ c) (hcm : c ≤ maxLen)
    (hmono : ∀ i j (hi : i < xs.length) (hj : j < xs.length), i ≤ j → cf ds xs[j] < 0 → cf ds xs[i] < 0) :
    Calls Tryz.prog 55 #[.slice A xs.length c, .agg vs.toArray] w fun e w' => CutRes A xs ds e ∧ Below w.heap.size w w' := by
  have HX := Lib.hid (Gd.of1 h)
  have HA := Lib.hid (Gd.ofC h')
  have HM := Lib.hid hmono
  obtain ⟨lr0, sr1, sr2, xr3, xr4, sr5, Ar0, cr0, hds, rfl, -⟩ := open_Addr h'
  clear h' hmono hds
  unfold maxLen at hcm
  have E0 := Lib.hid (below_a1 w (.cells #[.slice Ar0 lr0.length cr0, .string sr1, .string sr2, .int .i64 xr3, .int .i64 xr4, .string sr5] 28))
  have hA : xs.length = 0 ∨ ∃ b o, A = some ⟨b, o, none⟩ := by
    rcases Nat.eq_zero_or_pos xs.length with e | e
    · exact .inl e
    · obtain ⟨_, b, o, _, _, e2, _⟩ := h.item 0 e
      exact .inr ⟨b, o, e2⟩
  clear h
  go_enter Tryz.func55, Tryz.ntmps55
  go_wp2_with fail
  refine (bsearch (HX.out.alloc _).now (HA.out.alloc _).now hxl HM.out).mono ?_
  rintro _ w1 ⟨⟨k, there, rfl, hcut⟩, hb⟩
  have HC := Lib.hid hcut
  have E1 := Lib.hid (below_then E0.out hb (Nat.le_refl _))
  have hk := hcut.le
  clear hcut hb
  have hkc : k ≤ c := by omega
  have hkI : (k : Int) ≤ (xs.length : Int) := by omega
  have hkC : (k : Int) ≤ (c : Int) := by omega
  have hcI : (xs.length : Int) ≤ (c : Int) := by omega
  cases there
  · cases A with
    | none =>
      go_wp2_with fail
      refine wp_region_later (by kernel_rfl) (by kernel_rfl) ?_
      repeat (go_big_quiet_step (fail))
      refine wpQuiet_nil ?_
      rintro _ ⟨u9, rfl⟩
      have E2 := Lib.hid (below_then E1.out (later_below u9) (Nat.le_refl _))
      generalize later w1 u9 = w9 at E2 ⊢
      go_wp2
      all_goals go_ret3
      have h0 : xs.length = 0 := by
        rcases hA with h | ⟨b, o, h⟩
        · exact h
        · cases h
      exact ⟨⟨k, false, none, none, none, 0, 0, xs.length - k, k, rfl, by simp, by simp, hk, fun _ => rfl, fun h => by omega, HC.out⟩, E2.out⟩
    | some ad =>
      go_wp2_with fail
      refine wp_region_later (by kernel_rfl) (by kernel_rfl) ?_
      repeat (go_big_quiet_step (fail))
      refine wpQuiet_nil ?_
      rintro _ ⟨u9, rfl⟩
      have E2 := Lib.hid (below_then E1.out (later_below u9) (Nat.le_refl _))
      generalize later w1 u9 = w9 at E2 ⊢
      go_wp2
      all_goals go_ret3
      all_goals first
        | exact ⟨⟨k, false, some ad, some ad, some (ad.add (k * 8)), 0, 0, xs.length - k, k, rfl, by simp, by simp, hk, fun _ => rfl, fun h => by
            rcases hA with h0 | ⟨b, o, h0⟩
            · omega
            · injection h0 with h0; subst h0; exact ⟨b, o, rfl, by rw [un.addr_add]⟩, HC.out⟩, E2.out⟩
        | exact ⟨⟨k, false, some ad, some ad, some ad, 0, 0, 0, k, by rw [show xs.length - k = 0 by omega]; rfl, by simp, by simp, hk, fun _ => rfl, fun h => by omega, HC.out⟩, E2.out⟩
  · have hk1 : k < xs.length := (HC.out.yes rfl).1
    have hkI1 : (k : Int) + 1 ≤ (xs.length : Int) := by omega
    have hkC1 : (k : Int) + 1 ≤ (c : Int) := by omega
    obtain ⟨b, o, rfl⟩ : ∃ b o, A = some ⟨b, o, none⟩ := by
      rcases hA with h0 | h0
      · omega
      · exact h0
    go_wp2_with fail
    refine wp_region_later (by kernel_rfl) (by kernel_rfl) ?_
    repeat (go_big_quiet_step (fail))
    refine wpQuiet_nil ?_
    rintro _ ⟨u9, rfl⟩
    have E2 := Lib.hid (below_then E1.out (later_below u9) (Nat.le_refl _))
    generalize later w1 u9 = w9 at E2 ⊢
    go_wp2
    all_goals go_ret3
    all_goals first
      | exact ⟨⟨k, true, some ⟨b, o, none⟩, some ⟨b, o + k * 8, none⟩, some ⟨b, o + (k + 1) * 8, none⟩, 1, 1, xs.length - (k + 1), k + 1, rfl, by simp, by simp, by omega, fun _ => rfl, fun h => ⟨b, o, rfl, rfl⟩, HC.out⟩, E2.out⟩
      | exact ⟨⟨k, true, some ⟨b, o, none⟩, some ⟨b, o + k * 8, none⟩, some ⟨b, o, none⟩, 1, 1, 0, k + 1, by rw [show xs.length - (k + 1) = 0 by omega]; rfl, by simp, by simp, by omega, fun _ => rfl, fun h => by omega, HC.out⟩, E2.out⟩
end Go.Proofs.YtnjpddbpnmgcpaaGreat.cf
