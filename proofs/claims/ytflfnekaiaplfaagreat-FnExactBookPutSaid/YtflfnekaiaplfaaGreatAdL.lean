/- The laws' own helpers on addresses: copied in, sized, compared. -/
import Derived.Test.YtflfnekaiaplfaaGreatMem
import Derived.BigQuiet
import Derived.BigRegion
import Derived.Deep.QuietTactic
import Derived.Outline
namespace Go.Proofs.YtflfnekaiaplfaaGreat.adl
open ad mem
open Go.ChangeShapes Go.WideShapes Go.ChangeAt Go.RowKit Go.Lib
set_option linter.unusedVariables false
set_option linter.unusedSimpArgs false

/-- the new address of toAddr. -/
def NewAddr (w : World) (d : AddrD) (e : Ending) (w' : World) : Prop := ∃ g, e = .returned (.agg #[.slice (some ⟨g, 0, none⟩) d.path.length d.path.length, .string d.typ, .string d.nam, .int .i64 d.kind, .int .i64 d.n, .string d.key]) ∧ w.heap.size ≤ g ∧ Row w' g d.path ∧ Below w.heap.size w w'

-- [PLAIN
set_option maxHeartbeats 1000000 in
theorem toAddr_any (A : Option Addr) (c : Nat) (d : AddrD) (w : World) (h : Strs w A d.path) (hl : d.path.length ≤ 1048576) :
    Calls Tryz.prog 24 #[.agg #[.slice A d.path.length c, .string d.typ, .string d.nam, .int .i64 d.kind, .int .i64 d.n, .string d.key]] w (NewAddr w d) := by
  have H := Lib.hid h
  clear h
  go_enter Tryz.func24, Tryz.ntmps24
  go_wp2_with fail
  refine (toStringS_any A c d.path _ (H.out.below (below_a3 _ _ _ _)) hl).mono ?_
  rintro e w1 ⟨g, rfl, hg, hrow, hb⟩
  obtain ⟨hc, hf⟩ := bcell hb
  have hz := hb.size
  simp at hz hg
  have HR := Lib.hid hrow
  have hbw := (below_a3 _ _ _ _).trans (hb.mono (by simp; omega))
  have HB := Lib.hid hbw
  clear hrow hb hbw
  go_wp2
  refine bodyPost_ret (v := .agg #[.slice (some ⟨g, 0, none⟩) d.path.length d.path.length, .string d.typ, .string d.nam, .int .i64 d.kind, .int .i64 d.n, .string d.key]) (by simp [results, Tryz.results24, go_sem, hz, hc, hf]) rfl ⟨g, rfl, by omega, ?_, ?_⟩
  · repeat (refine Row.far ?_ (by simp; omega) _)
    exact HR.out
  · repeat (refine Below.setCell ?_ (by simp <;> omega) _)
    exact HB.out

-- PLAIN]
def eqL (l m : List ByteArray) : Bool := decide (l = m)
theorem eqL_len {l m : List ByteArray} (h : l.length ≠ m.length) : eqL l m = false := by
  unfold eqL; exact decide_eq_false (fun e => h (by rw [e]))
theorem eqL_at {l m : List ByteArray} (k : Nat) (h1 : k < l.length) (h2 : k < m.length) (h : l[k] ≠ m[k]) : eqL l m = false := by
  unfold eqL; exact decide_eq_false (fun e => h (by subst e; rfl))
theorem eqL_all {l m : List ByteArray} (h0 : l.length = m.length) (h : ∀ k (h1 : k < l.length) (h2 : k < m.length), l[k] = m[k]) : eqL l m = true := by
  unfold eqL; exact decide_eq_true (List.ext_getElem h0 h)

def Quiet (w : World) (v : Value) (e : Ending) (w' : World) : Prop := e = .returned v ∧ ∃ n, w' = w.drewN n

set_option maxHeartbeats 1000000 in
theorem eqStringS_any (A B : Option Addr) (c c' : Nat) (l m : List ByteArray) (w : World) (h : Strs w A l) (h' : Strs w B m) (hl : l.length ≤ 1048576) (hm : m.length ≤ 1048576) :
    Calls Tryz.prog 61 #[.slice A l.length c, .slice B m.length c'] w (Quiet w (.bool (eqL l m))) := by
  have H := Lib.hid h
  have H' := Lib.hid h'
  clear h h'
  by_cases hlen : l.length = m.length
  · have HL := Lib.hid hlen
    have hne : ((l.length : Int) != (m.length : Int)) = false := by simp; omega
    clear hlen
    go_enter Tryz.func61, Tryz.ntmps61
    go_wp2
    go_loopw [5] (fun i wr => ∃ k q : Nat, k ≤ l.length ∧ i = .int .i64 k ∧ wr = w.drewN q ∧ ∀ j (h1 : j < l.length) (h2 : j < m.length), j < k → l[j] = m[j]) (fun i _ => l.length - (intOf i).toNat)
    case atStart => exact ⟨0, 0, Nat.zero_le _, rfl, rfl, fun j _ _ hj => absurd hj (by omega)⟩
    case round =>
      obtain ⟨k, q, hk, rfl, rfl, hok⟩ := hrel
      have HOK := Lib.hid hok
      clear hok
      by_cases hlt : k < l.length
      · have hlt' : k < m.length := by rw [← HL.out]; exact hlt
        obtain ⟨b, o, rfl, hbg, hc, hsz⟩ := H.out k hlt
        obtain ⟨b', o', rfl, hbg', hc', hsz'⟩ := H'.out k hlt'
        go_wp2
        go_quiet (fail)
        go_wp2
        · have hb : (!l[k].toList == m[k].toList) = true := by assumption
          go_ret
          exact ⟨ret_bool (eqL_at k hlt hlt' (tl_ne hb)).symm, q + nq, World.drewN_drewN _ _ _⟩
        · have hb : (!l[k].toList == m[k].toList) = false := by assumption
          go_roundw
          case rel => exact ⟨k + 1, _, by omega, by go_num, rfl, fun j h1 h2 hj => by
            by_cases e : j = k
            · subst e; exact tl_eq hb
            · exact HOK.out j h1 h2 (by omega)⟩
          case measure => simp [intOf]; omega
      · go_wp2
        go_ret
        exact ⟨ret_bool (eqL_all HL.out (fun j h1 h2 => HOK.out j h1 h2 (by omega))).symm, _, rfl⟩
  · have hne : ((l.length : Int) != (m.length : Int)) = true := by simp; omega
    have HB := Lib.hid (eqL_len hlen)
    clear hlen
    go_enter Tryz.func61, Tryz.ntmps61
    go_wp2
    go_ret
    exact ⟨ret_bool HB.out.symm, 0, rfl⟩

def eqA (d e : AddrD) : Bool := eqL d.path e.path && decide (d.typ = e.typ) && decide (d.nam = e.nam) && decide (d.kind = e.kind) && decide (d.n = e.n) && decide (d.key = e.key)
theorem eqA_refl (d : AddrD) : eqA d d = true := by simp [eqA, eqL]

def Told (w : World) (v : Value) (e : Ending) (w' : World) : Prop := e = .returned v ∧ Below w.heap.size w w'

set_option maxHeartbeats 1000000 in
theorem eqAddr_any (A B : Option Addr) (c c' : Nat) (d e : AddrD) (w : World) (h : Strs w A d.path) (h' : Strs w B e.path) (hl : d.path.length ≤ 1048576) (hm : e.path.length ≤ 1048576) :
    Calls Tryz.prog 33 #[.agg #[.slice A d.path.length c, .string d.typ, .string d.nam, .int .i64 d.kind, .int .i64 d.n, .string d.key], .agg #[.slice B e.path.length c', .string e.typ, .string e.nam, .int .i64 e.kind, .int .i64 e.n, .string e.key]] w (Told w (.bool (eqA d e))) := by
  have H := Lib.hid h
  have H' := Lib.hid h'
  clear h h'
  go_enter Tryz.func33, Tryz.ntmps33
  go_wp2_with (go_at_call 61; refine (eqStringS_any A B c c' d.path e.path _ (H.out.below (below_a2 _ _ _)) (H'.out.below (below_a2 _ _ _)) hl hm).mono ?_; rintro _ _ ⟨rfl, n, rfl⟩)
  all_goals go_ret
  all_goals refine ⟨ret_bool ?_, below_dn (below_a2 _ _ _) _⟩
  all_goals clear H H'
  all_goals (try simp only [tl_beq] at *)
  all_goals simp_all [eqA]

/-- how much a list of texts counts. -/
def cntL (l : List ByteArray) : Nat := l.length + (l.map (·.size)).sum
def cntA (d : AddrD) : Nat := cntL d.path + d.typ.size + d.nam.size + d.key.size
/-- what is left of a number. -/
def leftI (a : Int) (n : Nat) : Int := if (n : Int) ≤ a then a - n else -1
def sumTo (l : List ByteArray) (k : Nat) : Nat := ((l.take k).map (·.size)).sum
theorem sumTo_succ (l : List ByteArray) (k : Nat) (h : k < l.length) : sumTo l (k + 1) = sumTo l k + l[k].size := by
  unfold sumTo; rw [List.take_succ_eq_append_getElem h, List.map_append, List.sum_append]; rfl
theorem sumTo_all (l : List ByteArray) : sumTo l l.length = (l.map (·.size)).sum := by simp [sumTo]
theorem sumTo_le (l : List ByteArray) (k : Nat) : sumTo l k ≤ (l.map (·.size)).sum := by
  have e : (l.map (·.size)).sum = ((l.take k).map (·.size)).sum + ((l.drop k).map (·.size)).sum := by rw [← List.sum_append, ← List.map_append, List.take_append_drop]
  unfold sumTo; omega
theorem ret_i {a b : Int} (h : a = b) : Ending.returned (.int .i64 a) = .returned (.int .i64 b) := by rw [h]

-- [PLAIN
set_option maxHeartbeats 1000000 in
theorem szStringS_any (A : Option Addr) (c : Nat) (l : List ByteArray) (a : Int) (w : World) (h : Strs w A l) (h0 : 0 ≤ a) (h1 : a ≤ 1048576) (hl : l.length ≤ maxLen) :
    Calls Tryz.prog 42 #[.slice A l.length c, .int .i64 a] w fun e w' => e = .returned (.int .i64 (leftI a (cntL l))) ∧ w = w' := by
  unfold maxLen at hl
  have H := Lib.hid h
  clear h
  by_cases hn : a - (l.length : Int) < 0
  · go_enter Tryz.func42, Tryz.ntmps42
    go_wp2
    go_ret
    exact ⟨ret_i (by unfold leftI cntL; rw [if_neg (by omega)]), rfl⟩
  · go_enter Tryz.func42, Tryz.ntmps42
    go_wp2
    go_loop [1, 5] (fun s i => ∃ k : Nat, ∃ x : Int, k ≤ l.length ∧ i = .int .i64 k ∧ s = .int .i64 x ∧ 0 ≤ x ∧ x ≤ 1048576 ∧ x = a - l.length - sumTo l k) (fun _ i => l.length - (intOf i).toNat)
    case atStart => exact ⟨0, _, Nat.zero_le _, rfl, rfl, by omega, by omega, by simp [sumTo]⟩
    case round =>
      obtain ⟨k, x, hk, rfl, rfl, hx0, hx1, hx⟩ := hrel
      have HX := Lib.hid hx
      clear hx
      by_cases hlt : k < l.length
      · obtain ⟨b, o, rfl, hbg, hc, hsz⟩ := H.out k hlt
        unfold maxLen at hsz
        have HS := Lib.hid (sumTo_succ l k hlt)
        have HT := Lib.hid (sumTo_le l (k + 1))
        by_cases hneg : x - (l[k].size : Int) < 0
        · go_wp2
          go_ret
          exact ⟨ret_i (by unfold leftI cntL; have := HX.out; have := HS.out; have := HT.out; rw [if_neg (by omega)]), rfl⟩
        · go_wp2
          go_round
          case rel => exact ⟨k + 1, x - (l[k].size : Int), by omega, by go_num, rfl, by omega, by omega, by have := HX.out; have := HS.out; omega⟩
          case measure => simp [intOf]; omega
      · obtain rfl : k = l.length := by omega
        have HT := Lib.hid (sumTo_all l)
        go_wp2
        go_ret
        exact ⟨ret_i (by unfold leftI cntL; have := HX.out; have := HT.out; rw [if_pos (by omega)]; omega), rfl⟩

set_option maxHeartbeats 1000000 in
theorem szAddr_any (A : Option Addr) (c : Nat) (d : AddrD) (a : Int) (w : World) (h : Strs w A d.path) (h0 : 0 ≤ a) (h1 : a ≤ 1048576) (hl : d.path.length ≤ maxLen) (ht : d.typ.size ≤ maxLen) (hn : d.nam.size ≤ maxLen) (hk : d.key.size ≤ maxLen) :
    Calls Tryz.prog 17 #[.agg #[.slice A d.path.length c, .string d.typ, .string d.nam, .int .i64 d.kind, .int .i64 d.n, .string d.key], .int .i64 a] w (Told w (.int .i64 (leftI a (cntA d)))) := by
  have H := Lib.hid h
  have HL := Lib.hid hl
  unfold maxLen at ht hn hk
  clear h hl
  by_cases hp : (cntL d.path : Int) ≤ a
  · have e1 : leftI a (cntL d.path) = a - cntL d.path := by unfold leftI; rw [if_pos hp]
    have K := fun w h => e1 ▸ szStringS_any A c d.path a w h h0 h1 HL.out
    have K := Lib.hid K
    clear e1
    by_cases h2 : a - (cntL d.path : Int) - (d.typ.size : Int) < 0
    · go_enter Tryz.func17, Tryz.ntmps17
      go_wp2_with (go_at_call 42; refine (K.out _ (H.out.alloc _)).mono ?_; rintro _ _ ⟨rfl, rfl⟩)
      go_ret
      exact ⟨ret_i (by unfold leftI cntA; rw [if_neg (by omega)]), below_a1 _ _⟩
    · by_cases h3 : a - (cntL d.path : Int) - (d.typ.size : Int) - (d.nam.size : Int) < 0
      · go_enter Tryz.func17, Tryz.ntmps17
        go_wp2_with (go_at_call 42; refine (K.out _ (H.out.alloc _)).mono ?_; rintro _ _ ⟨rfl, rfl⟩)
        go_ret
        exact ⟨ret_i (by unfold leftI cntA; rw [if_neg (by omega)]), below_a1 _ _⟩
      · by_cases h4 : a - (cntL d.path : Int) - (d.typ.size : Int) - (d.nam.size : Int) - (d.key.size : Int) < 0
        · go_enter Tryz.func17, Tryz.ntmps17
          go_wp2_with (go_at_call 42; refine (K.out _ (H.out.alloc _)).mono ?_; rintro _ _ ⟨rfl, rfl⟩)
          go_ret
          exact ⟨ret_i (by unfold leftI cntA; rw [if_neg (by omega)]), below_a1 _ _⟩
        · go_enter Tryz.func17, Tryz.ntmps17
          go_wp2_with (go_at_call 42; refine (K.out _ (H.out.alloc _)).mono ?_; rintro _ _ ⟨rfl, rfl⟩)
          go_ret
          exact ⟨ret_i (by unfold leftI cntA; rw [if_pos (by omega)]; omega), below_a1 _ _⟩
  · have e1 : leftI a (cntL d.path) = -1 := by unfold leftI; rw [if_neg hp]
    have K := fun w h => e1 ▸ szStringS_any A c d.path a w h h0 h1 HL.out
    have K := Lib.hid K
    clear e1
    go_enter Tryz.func17, Tryz.ntmps17
    go_wp2_with (go_at_call 42; refine (K.out _ (H.out.alloc _)).mono ?_; rintro _ _ ⟨rfl, rfl⟩)
    go_ret
    exact ⟨ret_i (by unfold leftI cntA; rw [if_neg (by omega)]), below_a1 _ _⟩

theorem sz_ok (A : Option Addr) (c : Nat) (d : AddrD) (a : Int) (w : World) (h : Strs w A d.path) (h0 : 0 ≤ a) (h1 : a ≤ 1048576) (hl : d.path.length ≤ maxLen) (ht : d.typ.size ≤ maxLen) (hn : d.nam.size ≤ maxLen) (hk : d.key.size ≤ maxLen) (hc : (cntA d : Int) ≤ a) :
    Calls Tryz.prog 17 #[.agg #[.slice A d.path.length c, .string d.typ, .string d.nam, .int .i64 d.kind, .int .i64 d.n, .string d.key], .int .i64 a] w (Told w (.int .i64 (a - cntA d))) := by
  have := szAddr_any A c d a w h h0 h1 hl ht hn hk
  unfold leftI at this; rw [if_pos hc] at this; exact this
theorem sz_no (A : Option Addr) (c : Nat) (d : AddrD) (a : Int) (w : World) (h : Strs w A d.path) (h0 : 0 ≤ a) (h1 : a ≤ 1048576) (hl : d.path.length ≤ maxLen) (ht : d.typ.size ≤ maxLen) (hn : d.nam.size ≤ maxLen) (hk : d.key.size ≤ maxLen) (hc : a < (cntA d : Int)) :
    Calls Tryz.prog 17 #[.agg #[.slice A d.path.length c, .string d.typ, .string d.nam, .int .i64 d.kind, .int .i64 d.n, .string d.key], .int .i64 a] w (Told w (.int .i64 (-1))) := by
  have := szAddr_any A c d a w h h0 h1 hl ht hn hk
  unfold leftI at this; rw [if_neg (by omega)] at this; exact this
-- PLAIN]
theorem len_le {d : AddrD} {a : Int} (h : (cntA d : Int) ≤ a) (ha : a ≤ 1048576) : d.path.length ≤ 1048576 := by unfold cntA cntL at h; omega

theorem eq_same (A B : Option Addr) (c c' : Nat) (d : AddrD) (w : World) (h : Strs w A d.path) (h' : Strs w B d.path) (hl : d.path.length ≤ 1048576) :
    Calls Tryz.prog 33 #[.agg #[.slice A d.path.length c, .string d.typ, .string d.nam, .int .i64 d.kind, .int .i64 d.n, .string d.key], .agg #[.slice B d.path.length c', .string d.typ, .string d.nam, .int .i64 d.kind, .int .i64 d.n, .string d.key]] w (Told w (.bool true)) := by
  have := eqAddr_any A B c c' d d w h h' hl hl
  rw [eqA_refl] at this; exact this

-- [PLAIN
theorem sz_okL (A : Option Addr) (c : Nat) (l : List ByteArray) (a : Int) (w : World) (h : Strs w A l) (h0 : 0 ≤ a) (h1 : a ≤ 1048576) (hl : l.length ≤ maxLen) (hc : (cntL l : Int) ≤ a) :
    Calls Tryz.prog 42 #[.slice A l.length c, .int .i64 a] w (Told w (.int .i64 (a - cntL l))) := by
  have := szStringS_any A c l a w h h0 h1 hl
  unfold leftI at this; rw [if_pos hc] at this; exact this.mono fun _ _ ⟨he, hw⟩ => ⟨he, hw ▸ Below.refl _ _⟩
theorem sz_noL (A : Option Addr) (c : Nat) (l : List ByteArray) (a : Int) (w : World) (h : Strs w A l) (h0 : 0 ≤ a) (h1 : a ≤ 1048576) (hl : l.length ≤ maxLen) (hc : a < (cntL l : Int)) :
    Calls Tryz.prog 42 #[.slice A l.length c, .int .i64 a] w (Told w (.int .i64 (-1))) := by
  have := szStringS_any A c l a w h h0 h1 hl
  unfold leftI at this; rw [if_neg (by omega)] at this; exact this.mono fun _ _ ⟨he, hw⟩ => ⟨he, hw ▸ Below.refl _ _⟩
-- PLAIN]
theorem len_leL {l : List ByteArray} {a : Int} (h : (cntL l : Int) ≤ a) (ha : a ≤ 1048576) : l.length ≤ 1048576 := by unfold cntL at h; omega
theorem eqL_same (A B : Option Addr) (c c' : Nat) (l : List ByteArray) (w : World) (h : Strs w A l) (h' : Strs w B l) (hl : l.length ≤ 1048576) :
    Calls Tryz.prog 61 #[.slice A l.length c, .slice B l.length c'] w (Told w (.bool true)) := by
  have := eqStringS_any A B c c' l l w h h' hl hl
  have e : eqL l l = true := by simp [eqL]
  rw [e] at this
  refine this.mono ?_
  rintro _ _ ⟨rfl, n, rfl⟩
  exact ⟨rfl, below_d _ _⟩
end Go.Proofs.YtflfnekaiaplfaaGreat.adl
