/- AddrLess, of the program and of the model. AddrLess of the model. -/
import Derived.Test.YtflfnekaiaplfaaGreatCmpB
import Derived.Deep.RegionHeld3
namespace Go.Proofs.YtflfnekaiaplfaaGreat.cm
open ad mem
open Go.ChangeShapes Go.WideShapes Go.ChangeAt Go.RowKit Go.Lib
set_option linter.unusedVariables false
set_option linter.unusedSimpArgs false

/-- the first number that is not 0. -/
def orI : List Int → Int
  | [] => 0
  | x :: xs => if x = 0 then orI xs else x
theorem or_at : ∀ (l : List Int) (k : Nat) (h : k < l.length), (∀ j (h : j < l.length), j < k → l[j] = 0) → l[k] ≠ 0 → orI l = l[k]
  | [], k, h, _, _ => by simp at h
  | x :: xs, 0, _, _, hne => by rw [orI, if_neg (by simpa using hne)]; rfl
  | x :: xs, k + 1, h, hall, hne => by
    have e : x = 0 := hall 0 (by simp) (by omega)
    unfold orI; rw [if_pos e]
    exact or_at xs k (by simpa using h) (fun j h hj => hall (j + 1) (by simp; omega) (by omega)) hne
theorem or_all : ∀ (l : List Int), (∀ j (h : j < l.length), l[j] = 0) → orI l = 0
  | [], _ => rfl
  | x :: xs, hall => by
    have e : x = 0 := hall 0 (by simp)
    unfold orI; rw [if_pos e]
    exact or_all xs (fun j h => hall (j + 1) (by simp; omega))

set_option maxHeartbeats 1000000 in
theorem or_any (g c : Nat) (l : List Int) (w : World) (h : ∀ k (h : k < l.length), w.cell? ⟨g, k, none⟩ = some (.int .i64 l[k])) (hl : l.length ≤ maxLen) :
    Calls Tryz.prog 89 #[.slice (some ⟨g, 0, none⟩) l.length c] w fun e w' => e = .returned (.int .i64 (orI l)) ∧ w = w' := by
  unfold maxLen at hl
  have H := Lib.hid h
  clear h
  go_enter Tryz.func89, Tryz.ntmps89
  go_wp2
  go_loop [8] (fun i => ∃ k : Nat, k ≤ l.length ∧ i = .int .i64 k ∧ ∀ j (h : j < l.length), j < k → l[j] = 0) (fun i => l.length - (RowKit.intOf i).toNat)
  case atStart => exact ⟨0, Nat.zero_le _, rfl, fun j _ hj => absurd hj (by omega)⟩
  case round =>
    obtain ⟨k, hk, rfl, hok⟩ := hrel
    have HOK := Lib.hid hok
    clear hok
    by_cases hlt : k < l.length
    · have hc := H.out k hlt
      by_cases hz : l[k] = 0
      · have hzb : (l[k] != 0) = false := by simp [hz]
        have HZ := Lib.hid hz
        clear hz
        go_wp2
        go_round
        case rel => exact ⟨k + 1, by omega, by go_num, fun j h hj => by
          by_cases e : j = k
          · subst e; exact HZ.out
          · exact HOK.out j h (by omega)⟩
        case measure => simp [RowKit.intOf]; omega
      · have hzb : (l[k] != 0) = true := by simp [hz]
        have HZ := Lib.hid hz
        clear hz
        go_wp2
        go_ret
        exact ⟨ret_i (or_at l k hlt HOK.out HZ.out).symm, rfl⟩
    · go_wp2
      go_ret
      exact ⟨ret_i (or_all l (fun j h => HOK.out j h (by omega))).symm, rfl⟩

/-- the six looks of one address ahead of another. -/
noncomputable def looks (d e : AddrD) : List Int := [wordsI d.path e.path, cmpS d.typ e.typ, cmpS d.nam e.nam, cmpI d.kind e.kind, cmpI d.n e.n, cmpS d.key e.key]
noncomputable def lessB (d e : AddrD) : Bool := addrB d && addrB e && decide (orI (looks d e) < 0)

set_option maxHeartbeats 1000000 in
theorem comparePaths_any (A B : Option Addr) (c c' : Nat) (l m : List ByteArray) (w : World) (h : Strs w A l) (h' : Strs w B m) (hl : l.length ≤ maxLen) (hm : m.length ≤ maxLen) :
    Calls Tryz.prog 90 #[.slice A l.length c, .slice B m.length c'] w (Quiet w (.int .i64 (wordsI l m))) := by
  have HK := Lib.hid (alike_any A B c c' l m w h h' hl hm)
  have H := Lib.hid h
  have H' := Lib.hid h'
  have h1 := pre_le_l l m
  have h2 := pre_le_r l m
  unfold maxLen at hl hm
  clear h h'
  by_cases hlt1 : pre l m < l.length
  · by_cases hlt2 : pre l m < m.length
    · obtain ⟨b, o, rfl, hbg, hc, hsz⟩ := H.out _ hlt1
      obtain ⟨b', o', rfl, hbg', hc', hsz'⟩ := H'.out _ hlt2
      have HW := Lib.hid (words_at (a := l) (b := m) rfl hlt1 hlt2)
      have e1 : ((pre l m : Int) == (l.length : Int)) = false := by simp; omega
      have e2 : ((pre l m : Int) == (m.length : Int)) = false := by simp; omega
      have hI1 : (pre l m : Int) < l.length := by omega
      have hI2 : (pre l m : Int) < m.length := by omega
      have hI0 : (0 : Int) ≤ pre l m := by omega
      go_enter Tryz.func90, Tryz.ntmps90
      go_wp2_with fail
      refine HK.out.mono ?_
      rintro _ w2 ⟨rfl, hq⟩
      have hc2 : w2.cell? ⟨b, o + pre l m, none⟩ = some (.string l[pre l m]) := by obtain ⟨n, rfl⟩ := hq; exact hc
      have hc2' : w2.cell? ⟨b', o' + pre l m, none⟩ = some (.string m[pre l m]) := by obtain ⟨n, rfl⟩ := hq; exact hc'
      have HQ := Lib.hid hq
      clear hq hc hc'
      go_wp2_with fail
      go_quiet ((go_at_call 91; exact Calls.quiet_of_same ((cmp_s _ _ _).mono fun _ _ ⟨a, b⟩ => ⟨a, b.symm⟩)))
      go_wp2
      go_ret
      exact ⟨ret_i HW.out.symm, by obtain ⟨n, rfl⟩ := HQ.out; exact ⟨_, by rw [World.drewN_drewN]⟩⟩
    · have e2 : ((pre l m : Int) == (m.length : Int)) = true := by simp; omega
      have e1 : ((pre l m : Int) == (l.length : Int)) = false := by simp; omega
      have HW := Lib.hid (words_end (a := l) (b := m) (by omega))
      go_enter Tryz.func90, Tryz.ntmps90
      go_wp2_with (first | (go_at_call 100; refine HK.out.mono ?_; rintro _ _ ⟨rfl, n, rfl⟩) | (go_at_call 101; refine (cmp_n _ _ _).mono ?_; rintro _ _ ⟨rfl, rfl⟩))
      go_ret
      exact ⟨ret_i HW.out.symm, _, rfl⟩
  · have e1 : ((pre l m : Int) == (l.length : Int)) = true := by simp; omega
    have HW := Lib.hid (words_end (a := l) (b := m) (by omega))
    go_enter Tryz.func90, Tryz.ntmps90
    go_wp2_with (first | (go_at_call 100; refine HK.out.mono ?_; rintro _ _ ⟨rfl, n, rfl⟩) | (go_at_call 101; refine (cmp_n _ _ _).mono ?_; rintro _ _ ⟨rfl, rfl⟩))
    go_ret
    exact ⟨ret_i HW.out.symm, _, rfl⟩

theorem or6 (g c : Nat) (a0 a1 a2 a3 a4 a5 : Int) (w : World) (h0 : w.cell? ⟨g, 0, none⟩ = some (.int .i64 a0)) (h1 : w.cell? ⟨g, 1, none⟩ = some (.int .i64 a1)) (h2 : w.cell? ⟨g, 2, none⟩ = some (.int .i64 a2)) (h3 : w.cell? ⟨g, 3, none⟩ = some (.int .i64 a3)) (h4 : w.cell? ⟨g, 4, none⟩ = some (.int .i64 a4)) (h5 : w.cell? ⟨g, 5, none⟩ = some (.int .i64 a5)) :
    Calls Tryz.prog 89 #[.slice (some ⟨g, 0, none⟩) 6 c] w fun e w' => e = .returned (.int .i64 (orI [a0, a1, a2, a3, a4, a5])) ∧ w = w' :=
  or_any g c [a0, a1, a2, a3, a4, a5] w (fun k hk => by
    match k, hk with
    | 0, _ => exact h0
    | 1, _ => exact h1
    | 2, _ => exact h2
    | 3, _ => exact h3
    | 4, _ => exact h4
    | 5, _ => exact h5) (by simp [maxLen])

theorem cell_new {W : World} {T : TypeId} {cs : Array Value} {g k : Nat} (h : g = W.heap.size) : (W.alloc (.cells cs T)).cell? ⟨g, k, none⟩ = cs[k]? := by
  subst h; exact (Blk.new W T cs).cell k

set_option maxHeartbeats 4000000 in
theorem compare_any (A B : Option Addr) (c c' : Nat) (d e : AddrD) (w : World) (h : Strs w A d.path) (h' : Strs w B e.path) (hl : d.path.length ≤ maxLen) (hm : e.path.length ≤ maxLen) :
    Calls Tryz.prog 57 #[.agg #[.slice A d.path.length c, .string d.typ, .string d.nam, .int .i64 d.kind, .int .i64 d.n, .string d.key], .agg #[.slice B e.path.length c', .string e.typ, .string e.nam, .int .i64 e.kind, .int .i64 e.n, .string e.key]] w (Told w (.int .i64 (orI (looks d e)))) := by
  have H := Lib.hid h
  have H' := Lib.hid h'
  have HA := Lib.hid (And.intro hl hm)
  clear h h' hl hm
  go_enter Tryz.func57, Tryz.ntmps57
  go_wp2_with fail
  have KC := fun (W : World) (hb : Below w.heap.size w W) => Lib.hid (comparePaths_any A B c c' d.path e.path W (H.out.below hb) (H'.out.below hb) HA.out.1 HA.out.2)
  go_region_held3 (fun w' => w'.cell? ⟨w.heap.size, 0, none⟩ = some (.slice A d.path.length c) ∧ w'.cell? ⟨w.heap.size, 1, none⟩ = some (.string d.typ) ∧ w'.cell? ⟨w.heap.size, 2, none⟩ = some (.string d.nam) ∧ w'.cell? ⟨w.heap.size, 3, none⟩ = some (.int .i64 d.kind) ∧ w'.cell? ⟨w.heap.size, 4, none⟩ = some (.int .i64 d.n) ∧ w'.cell? ⟨w.heap.size, 5, none⟩ = some (.string d.key) ∧ w'.cell? ⟨w.heap.size + 1, 0, none⟩ = some (.slice B e.path.length c') ∧ w'.cell? ⟨w.heap.size + 1, 1, none⟩ = some (.string e.typ) ∧ w'.cell? ⟨w.heap.size + 1, 2, none⟩ = some (.string e.nam) ∧ w'.cell? ⟨w.heap.size + 1, 3, none⟩ = some (.int .i64 e.kind) ∧ w'.cell? ⟨w.heap.size + 1, 4, none⟩ = some (.int .i64 e.n) ∧ w'.cell? ⟨w.heap.size + 1, 5, none⟩ = some (.string e.key)) (go_keep)
    (first
    | (go_at_call 90; refine (KC _ ?_).out.mono ?_; exact below_dn (below_a2 _ _ _) _; rintro _ _ ⟨rfl, nn, rfl⟩)
    | (go_at_call 91; refine (cmp_s _ _ _).mono ?_; rintro _ _ ⟨rfl, rfl⟩)
    | (go_at_call 92; refine (cmp_i _ _ _).mono ?_; rintro _ _ ⟨rfl, rfl⟩)
    | (go_at_call 89; refine (or6 _ _ (wordsI d.path e.path) (cmpS d.typ e.typ) (cmpS d.nam e.nam) (cmpI d.kind e.kind) (cmpI d.n e.n) (cmpS d.key e.key) _ ?_ ?_ ?_ ?_ ?_ ?_).mono ?_; exact cell_new (k := 0) (by simp); exact cell_new (k := 1) (by simp); exact cell_new (k := 2) (by simp); exact cell_new (k := 3) (by simp); exact cell_new (k := 4) (by simp); exact cell_new (k := 5) (by simp); rintro _ _ ⟨rfl, rfl⟩))
  all_goals (try go_wp2)
  go_ret
  refine ⟨rfl, ?_⟩
  have hz := (below_a2 w (.cells #[] 0) (.cells #[] 0)).size
  repeat (first | exact below_a2 _ _ _ | refine below_dn ?_ _ | refine Below.drew ?_ | refine Below.alloc ?_ (by simp; omega) _)

end Go.Proofs.YtflfnekaiaplfaaGreat.cm
namespace Go.Proofs.YtflfnekaiaplfaaGreat.cm
open ad mem
open Go.ChangeShapes Go.WideShapes Go.ChangeAt Go.RowKit Go.Lib
set_option linter.unusedVariables false
set_option linter.unusedSimpArgs false

theorem cmpI_neg {a b : Int} : cmpI a b < 0 ↔ a < b := by
  unfold cmpI; split
  · omega
  · split <;> omega
theorem bneI {a b : Int} : (a != b) = true ↔ a ≠ b := by simp

set_option maxHeartbeats 2000000 in
theorem l02Less_any (A B : Option Addr) (c c' : Nat) (d e : AddrD) (w : World) (h : Strs w A d.path) (h' : Strs w B e.path) (hl : d.path.length ≤ maxLen) (hm : e.path.length ≤ maxLen) :
    Calls Tryz.prog 44 #[.agg #[.slice A d.path.length c, .string d.typ, .string d.nam, .int .i64 d.kind, .int .i64 d.n, .string d.key], .agg #[.slice B e.path.length c', .string e.typ, .string e.nam, .int .i64 e.kind, .int .i64 e.n, .string e.key]] w (Told w (.bool (decide (orI (looks d e) < 0)))) := by
  have H := Lib.hid h
  have H' := Lib.hid h'
  have HA := Lib.hid (And.intro hl hm)
  clear h h' hl hm
  go_enter Tryz.func44, Tryz.ntmps44
  go_wp2_with (go_at_call 67; refine (words_spec A B c c' d.path e.path _ (H.out.below (below_a2 _ _ _)) (H'.out.below (below_a2 _ _ _)) HA.out.1 HA.out.2).mono ?_; rintro _ _ ⟨rfl, n, rfl⟩)
  all_goals go_ret
  all_goals refine ⟨ret_bool ?_, below_dn (below_a2 _ _ _) _⟩
  all_goals clear H H' HA
  all_goals rw [Bool.eq_iff_iff, decide_eq_true_iff]
  all_goals (simp only [bless, tl_beq, Bool.not_eq_true', Bool.not_eq_false', decide_eq_true_eq, decide_eq_false_iff_not, Decidable.not_not, bne_iff_ne, bne_eq_false_iff_eq] at *)
  all_goals (simp_all [looks, orI, cmpS_zero, cmpS_neg, cmpI_zero, cmpI_neg])
  all_goals (split <;> simp_all [lt_irr, cmpS_neg])

end Go.Proofs.YtflfnekaiaplfaaGreat.cm
