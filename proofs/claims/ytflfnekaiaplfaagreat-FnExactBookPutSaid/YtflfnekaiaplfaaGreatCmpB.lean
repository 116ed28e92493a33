/- Paths compared; SameAddr, Under. -/
import Derived.Test.YtflfnekaiaplfaaGreatCmpA
import Derived.Test.YtflfnekaiaplfaaGreatAdL
import Derived.Test.YtflfnekaiaplfaaGreatAdJ
namespace Go.Proofs.YtflfnekaiaplfaaGreat.cm
open ad mem
open Go.ChangeShapes Go.WideShapes Go.ChangeAt Go.RowKit Go.Lib
set_option linter.unusedVariables false
set_option linter.unusedSimpArgs false

def QuietI (w : World) (P : Int → Prop) (e : Ending) (w' : World) : Prop := ∃ x, e = .returned (.int .i64 x) ∧ P x ∧ ∃ n, w' = w.drewN n

theorem cmpI_is {a b x : Int} (h : (a < b ∧ x = -1) ∨ (¬ a < b ∧ b < a ∧ x = 1) ∨ (¬ a < b ∧ ¬ b < a ∧ x = 0)) : x = cmpI a b := by
  unfold cmpI
  split
  · omega
  · split <;> omega
set_option maxHeartbeats 1000000 in
theorem words_spec (A B : Option Addr) (c c' : Nat) (l m : List ByteArray) (w : World) (h : Strs w A l) (h' : Strs w B m) (hl : l.length ≤ maxLen) (hm : m.length ≤ maxLen) :
    Calls Tryz.prog 67 #[.slice A l.length c, .slice B m.length c'] w (Quiet w (.int .i64 (wordsI l m))) := by
  unfold maxLen at hl hm
  have H := Lib.hid h
  have H' := Lib.hid h'
  clear h h'
  go_enter Tryz.func67, Tryz.ntmps67
  go_wp2
  go_loopw [5] (fun i wr => ∃ k q : Nat, k ≤ l.length ∧ k ≤ m.length ∧ i = .int .i64 k ∧ wr = w.drewN q ∧ ∀ j (h1 : j < l.length) (h2 : j < m.length), j < k → l[j] = m[j]) (fun i _ => l.length - (RowKit.intOf i).toNat)
  case atStart => exact ⟨0, 0, Nat.zero_le _, Nat.zero_le _, rfl, rfl, fun j _ _ hj => absurd hj (by omega)⟩
  case round =>
    obtain ⟨k, q, hk, hk', rfl, rfl, hok⟩ := hrel
    have HOK := Lib.hid hok
    clear hok
    by_cases hlt1 : k < l.length
    · by_cases hlt2 : k < m.length
      · obtain ⟨b, o, rfl, hbg, hc, hsz⟩ := H.out k hlt1
        obtain ⟨b', o', rfl, hbg', hc', hsz'⟩ := H'.out k hlt2
        go_wp2
        go_quiet (fail)
        go_wp2
        · have hb : (!l[k].toList == m[k].toList) = true := by assumption
          have HP := Lib.hid (words_at (pre_at l m k hlt1 hlt2 HOK.out (tl_ne hb)) hlt1 hlt2)
          go_quiet (fail)
          go_wp2
          · have hb2 : Op.bytesLess l[k].toList m[k].toList = true := by assumption
            go_ret
            exact ⟨ret_i (by rw [bless] at hb2; rw [HP.out, cmpS_lt (by simpa using hb2)]), _, by rw [World.drewN_drewN, World.drewN_drewN]⟩
          · have hb2 : Op.bytesLess l[k].toList m[k].toList = false := by assumption
            go_ret
            exact ⟨ret_i (by rw [bless] at hb2; have h2 : ¬ ltS l[k] m[k] := by simpa using hb2
                             rw [HP.out, cmpS_gt h2 (lt_tri (tl_ne hb) h2)]), _, by rw [World.drewN_drewN, World.drewN_drewN]⟩
        · have hb : (!l[k].toList == m[k].toList) = false := by assumption
          go_roundw
          case rel => exact ⟨k + 1, _, by omega, by omega, by go_num, rfl, fun j h1 h2 hj => by
            by_cases e : j = k
            · subst e; exact tl_eq hb
            · exact HOK.out j h1 h2 (by omega)⟩
          case measure => simp [RowKit.intOf]; omega
      · have HP := Lib.hid (words_min (pre_all l m (fun j h1 h2 => HOK.out j h1 h2 (by omega))))
        rcases (by omega : (l.length : Int) < m.length ∨ (¬ (l.length : Int) < m.length ∧ (m.length : Int) < l.length) ∨ (¬ (l.length : Int) < m.length ∧ ¬ (m.length : Int) < l.length)) with h | ⟨h, h'⟩ | ⟨h, h'⟩
        all_goals
          go_wp2
          go_ret
          exact ⟨ret_i (by rw [HP.out]; exact cmpI_is (by omega)), _, rfl⟩
    · have HP := Lib.hid (words_min (pre_all l m (fun j h1 h2 => HOK.out j h1 h2 (by omega))))
      rcases (by omega : (l.length : Int) < m.length ∨ (¬ (l.length : Int) < m.length ∧ (m.length : Int) < l.length) ∨ (¬ (l.length : Int) < m.length ∧ ¬ (m.length : Int) < l.length)) with h | ⟨h, h'⟩ | ⟨h, h'⟩
      all_goals
        go_wp2
        go_ret
        exact ⟨ret_i (by rw [HP.out]; exact cmpI_is (by omega)), _, rfl⟩

theorem same_iff {l m : List ByteArray} : adl.eqL l m = true ↔ (l.length = m.length ∧ pre l m = l.length) := by
  unfold adl.eqL
  rw [decide_eq_true_iff]
  exact ⟨fun h => by subst h; exact ⟨rfl, pre_self _⟩, fun h => pre_full _ _ h.2 h.1⟩

set_option maxHeartbeats 1000000 in
theorem samePath_any (A B : Option Addr) (c c' : Nat) (l m : List ByteArray) (w : World) (h : Strs w A l) (h' : Strs w B m) (hl : l.length ≤ maxLen) (hm : m.length ≤ maxLen) :
    Calls Tryz.prog 99 #[.slice A l.length c, .slice B m.length c'] w (Quiet w (.bool (adl.eqL l m))) := by
  have HK := Lib.hid (alike_any A B c c' l m w h h' hl hm)
  clear h h'
  unfold maxLen at hl hm
  go_enter Tryz.func99, Tryz.ntmps99
  go_wp2_with (go_at_call 100; refine HK.out.mono ?_; rintro _ _ ⟨rfl, n, rfl⟩)
  all_goals go_ret
  all_goals refine ⟨ret_bool ?_, by first | exact ⟨_, rfl⟩ | exact ⟨0, rfl⟩⟩
  all_goals rw [Bool.eq_iff_iff, same_iff]
  all_goals (simp_all; try omega)

theorem eqA_iff {d e : AddrD} : adl.eqA d e = true ↔ (adl.eqL d.path e.path = true ∧ d.typ = e.typ ∧ d.nam = e.nam ∧ d.kind = e.kind ∧ d.n = e.n ∧ d.key = e.key) := by
  unfold adl.eqA; simp [and_assoc]
theorem words_eq (l m : List ByteArray) : (wordsI l m == 0) = adl.eqL l m := by
  rw [Bool.eq_iff_iff, beq_iff_eq, words_zero]; simp [adl.eqL]

def Told (w : World) (v : Value) (e : Ending) (w' : World) : Prop := e = .returned v ∧ Below w.heap.size w w'

set_option maxHeartbeats 2000000 in
theorem same_spec (A B : Option Addr) (c c' : Nat) (d e : AddrD) (w : World) (h : Strs w A d.path) (h' : Strs w B e.path) (hl : d.path.length ≤ maxLen) (hm : e.path.length ≤ maxLen) :
    Calls Tryz.prog 47 #[.agg #[.slice A d.path.length c, .string d.typ, .string d.nam, .int .i64 d.kind, .int .i64 d.n, .string d.key], .agg #[.slice B e.path.length c', .string e.typ, .string e.nam, .int .i64 e.kind, .int .i64 e.n, .string e.key]] w (Told w (.bool (adl.eqA d e))) := by
  have H := Lib.hid h
  have H' := Lib.hid h'
  have HL := Lib.hid hl
  have HM := Lib.hid hm
  clear h h' hl hm
  go_enter Tryz.func47, Tryz.ntmps47
  go_wp2_with (go_at_call 67; refine (words_spec A B c c' d.path e.path _ (H.out.below (below_a2 _ _ _)) (H'.out.below (below_a2 _ _ _)) HL.out HM.out).mono ?_; rintro _ _ ⟨rfl, n, rfl⟩)
  all_goals go_ret
  all_goals refine ⟨ret_bool ?_, below_dn (below_a2 _ _ _) _⟩
  all_goals clear H H' HL HM
  all_goals rw [Bool.eq_iff_iff, eqA_iff]
  all_goals simp_all [adl.eqL, words_zero, tl_iff]

set_option maxHeartbeats 2000000 in
theorem same_impl (A B : Option Addr) (c c' : Nat) (d e : AddrD) (w : World) (h : Strs w A d.path) (h' : Strs w B e.path) (hl : d.path.length ≤ maxLen) (hm : e.path.length ≤ maxLen) :
    Calls Tryz.prog 86 #[.agg #[.slice A d.path.length c, .string d.typ, .string d.nam, .int .i64 d.kind, .int .i64 d.n, .string d.key], .agg #[.slice B e.path.length c', .string e.typ, .string e.nam, .int .i64 e.kind, .int .i64 e.n, .string e.key]] w (Told w (.bool (adl.eqA d e))) := by
  have H := Lib.hid h
  have H' := Lib.hid h'
  have HL := Lib.hid hl
  have HM := Lib.hid hm
  clear h h' hl hm
  go_enter Tryz.func86, Tryz.ntmps86
  go_wp2_with (go_at_call 99; refine (samePath_any A B c c' d.path e.path _ (H.out.below (below_a2 _ _ _)) (H'.out.below (below_a2 _ _ _)) HL.out HM.out).mono ?_; rintro _ _ ⟨rfl, n, rfl⟩)
  all_goals go_ret
  all_goals refine ⟨ret_bool ?_, below_dn (below_a2 _ _ _) _⟩
  all_goals clear H H' HL HM
  all_goals rw [Bool.eq_iff_iff, eqA_iff]
  all_goals simp_all [adl.eqL, tl_iff]
end Go.Proofs.YtflfnekaiaplfaaGreat.cm

