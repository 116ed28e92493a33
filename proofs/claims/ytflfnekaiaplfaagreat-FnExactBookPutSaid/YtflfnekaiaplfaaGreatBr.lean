/- The contracts of what stands below, over data of any shape. -/
import Derived.Test.YtflfnekaiaplfaaGreatCf
import Derived.Test.YtflfnekaiaplfaaGreatAdJ
import Derived.Test.YtflfnekaiaplfaaGreatLess
import Derived.Test.YtflfnekaiaplfaaGreatExRi
namespace Go.Proofs.YtflfnekaiaplfaaGreat.cf
open ad mem vl ex un
open Go.ChangeShapes Go.WideShapes Go.ChangeAt Go.RowKit Go.Lib
set_option linter.unusedVariables false
set_option linter.unusedSimpArgs false

theorem addr_in {B : Nat → Prop} {n : Nat} {w : World} {ds : List DC} {vs : List Value} (h : Cells B n w shAddr_ ds vs) :
    ∃ A c, vs = [.slice A (bA ds).path.length c, .string (bA ds).typ, .string (bA ds).nam, .int .i64 (bA ds).kind, .int .i64 (bA ds).n, .string (bA ds).key] ∧ Strs w A (bA ds).path ∧ (bA ds).path.length ≤ maxLen ∧ (bA ds).typ.size ≤ maxLen ∧ (bA ds).nam.size ≤ maxLen ∧ (bA ds).key.size ≤ maxLen := by
  obtain ⟨l0, s1, s2, x3, x4, s5, A0, c0, rfl, rfl, k0, k1, k2, k3, k4, k5⟩ := open_Addr h
  have hl := k0.len.2
  exact ⟨A0, c0, by simp [bA, bI, bS, bL, bStrs], strs_of k0, by simpa [bA, bL, bStrs] using hl, k1, k2, k5⟩
theorem addrRight_spec {B : Nat → Prop} {n : Nat} {w : World} {ds : List DC} {vs : List Value} {D : AddrD} {r : Bool} (hD : bA ds = D) (hr : addrB D = r) (h : Cells B n w shAddr_ ds vs) :
    Calls Tryz.prog 45 #[.agg vs.toArray] w (un.Told w (.bool r)) := by
  subst hD hr
  obtain ⟨A, c, rfl, h1, h2, h3, h4, h5⟩ := addr_in h
  exact adr.right_spec A c _ w h1 h2 h3 h4 h5
theorem addrRight_impl {B : Nat → Prop} {n : Nat} {w : World} {ds : List DC} {vs : List Value} {D : AddrD} {r : Bool} (hD : bA ds = D) (hr : addrB D = r) (h : Cells B n w shAddr_ ds vs) :
    Calls Tryz.prog 53 #[.agg vs.toArray] w (un.Told w (.bool r)) := by
  subst hD hr
  obtain ⟨A, c, rfl, h1, h2, h3, h4, h5⟩ := addr_in h
  exact adr.right_impl A c _ w h1 h2 h3 h4 h5
theorem sameAddr_spec {B B' : Nat → Prop} {n n' : Nat} {w : World} {ds ds' : List DC} {vs vs' : List Value} {D D' : AddrD} {r : Bool} (hD : bA ds = D) (hD' : bA ds' = D') (hr : adl.eqA D D' = r) (h : Cells B n w shAddr_ ds vs) (h' : Cells B' n' w shAddr_ ds' vs') :
    Calls Tryz.prog 47 #[.agg vs.toArray, .agg vs'.toArray] w (un.Told w (.bool r)) := by
  subst hD hD' hr
  obtain ⟨A, c, rfl, h1, h2, h3, h4, h5⟩ := addr_in h
  obtain ⟨A', c', rfl, g1, g2, g3, g4, g5⟩ := addr_in h'
  exact cm.same_spec A A' c c' _ _ w h1 g1 h2 g2
theorem sameAddr_impl {B B' : Nat → Prop} {n n' : Nat} {w : World} {ds ds' : List DC} {vs vs' : List Value} {D D' : AddrD} {r : Bool} (hD : bA ds = D) (hD' : bA ds' = D') (hr : adl.eqA D D' = r) (h : Cells B n w shAddr_ ds vs) (h' : Cells B' n' w shAddr_ ds' vs') :
    Calls Tryz.prog 86 #[.agg vs.toArray, .agg vs'.toArray] w (un.Told w (.bool r)) := by
  subst hD hD' hr
  obtain ⟨A, c, rfl, h1, h2, h3, h4, h5⟩ := addr_in h
  obtain ⟨A', c', rfl, g1, g2, g3, g4, g5⟩ := addr_in h'
  exact cm.same_impl A A' c c' _ _ w h1 g1 h2 g2
/-- which address is ahead. -/
noncomputable def aheadA (d e : AddrD) : Prop := cm.orI (cm.looks d e) < 0
theorem less_spec {B B' : Nat → Prop} {n n' : Nat} {w : World} {ds ds' : List DC} {vs vs' : List Value} (h : Cells B n w shAddr_ ds vs) (h' : Cells B' n' w shAddr_ ds' vs') :
    Calls Tryz.prog 44 #[.agg vs.toArray, .agg vs'.toArray] w (un.Told w (.bool (@decide (aheadA (bA ds) (bA ds')) (Classical.propDecidable _)))) := by
  obtain ⟨A, c, rfl, h1, h2, h3, h4, h5⟩ := addr_in h
  obtain ⟨A', c', rfl, g1, g2, g3, g4, g5⟩ := addr_in h'
  refine (cm.l02Less_any A A' c c' _ _ w h1 g1 h2 g2).mono fun e w' h => ⟨h.1.trans ?_, h.2⟩
  simp only [aheadA]
  congr
theorem compare_impl {B B' : Nat → Prop} {n n' : Nat} {w : World} {ds ds' : List DC} {vs vs' : List Value} (h : Cells B n w shAddr_ ds vs) (h' : Cells B' n' w shAddr_ ds' vs') :
    Calls Tryz.prog 57 #[.agg vs.toArray, .agg vs'.toArray] w (un.Told w (.int .i64 (cm.orI (cm.looks (bA ds) (bA ds'))))) := by
  obtain ⟨A, c, rfl, h1, h2, h3, h4, h5⟩ := addr_in h
  obtain ⟨A', c', rfl, g1, g2, g3, g4, g5⟩ := addr_in h'
  exact cm.compare_any A A' c c' _ _ w h1 g1 h2 g2
theorem pathRight_spec {B : Nat → Prop} {n c : Nat} {w : World} {xs : List (List DC)} {A : Option Addr} {r : Bool} (hr : pathB (bStrs xs) = r) (h : Cell B n w (.l 0) (.l xs) (.slice A xs.length c)) :
    Calls Tryz.prog 68 #[.slice A xs.length c] w (un.Told w (.bool r)) := by
  subst hr
  have hl := h.len.2
  have := adr.path_spec A c (bStrs xs) w (strs_of h) (by rw [bStrs_len]; exact hl)
  rw [bStrs_len] at this
  exact this.mono fun e w' h => ⟨h.1, h.2 ▸ Below.refl _ _⟩
theorem pathRight_impl {B : Nat → Prop} {n c : Nat} {w : World} {xs : List (List DC)} {A : Option Addr} {r : Bool} (hr : pathB (bStrs xs) = r) (h : Cell B n w (.l 0) (.l xs) (.slice A xs.length c)) :
    Calls Tryz.prog 79 #[.slice A xs.length c] w (un.Told w (.bool r)) := by
  subst hr
  have hl := h.len.2
  have := adr.path_impl A c (bStrs xs) w (strs_of h) (by rw [bStrs_len]; exact hl)
  rw [bStrs_len] at this
  exact this.mono fun e w' h => ⟨h.1, h.2 ▸ Below.refl _ _⟩
theorem word_spec {s : ByteArray} {r : Bool} {w : World} (hr : wordB s = r) (hs : s.size ≤ maxLen) : Calls Tryz.prog 69 #[.string s] w fun e w' => e = .returned (.bool r) ∧ w = w' := by
  subst hr; exact wd.spec_any s w hs
theorem word_impl {s : ByteArray} {r : Bool} {w : World} (hr : wordB s = r) (hs : s.size ≤ maxLen) : Calls Tryz.prog 80 #[.string s] w fun e w' => e = .returned (.bool r) ∧ w = w' := by
  subst hr; exact wd.impl_any s w hs
end Go.Proofs.YtflfnekaiaplfaaGreat.cf
