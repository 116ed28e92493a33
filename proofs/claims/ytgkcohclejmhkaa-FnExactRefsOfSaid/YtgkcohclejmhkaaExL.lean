/- The laws' own helpers on expressions: sized, copied in, compared. -/
import Derived.Test.YtgkcohclejmhkaaEx
import Derived.Test.YtgkcohclejmhkaaVlL
import Derived.Deep.RegionHeld3
namespace Go.Proofs.Ytgkcohclejmhkaa.ex
open ad mem vl
open Go.ChangeShapes Go.WideShapes Go.ChangeAt Go.RowKit Go.Lib
set_option linter.unusedVariables false
set_option maxRecDepth 8000
set_option linter.unusedSimpArgs false


-- [PLAIN
/-- a size told: what is left, or -1. -/
def Left1 (w : World) (a : Int) (n : Nat) (e : Ending) (w' : World) : Prop := ∃ x : Int, e = .returned (.int .i64 x) ∧ Hid (x = adl.leftI a n) ∧ -1 ≤ x ∧ x ≤ 1048576 ∧ Below w.heap.size w w'
theorem left1 {w : World} {a : Int} {n : Nat} {e : Ending} {w' : World} (h0 : 0 ≤ a) (h1 : a ≤ 1048576) (h : e = .returned (.int .i64 (adl.leftI a n)) ∧ Below w.heap.size w w') : Left1 w a n e w' :=
  ⟨_, h.1, Lib.hid rfl, by unfold adl.leftI; split <;> omega, by unfold adl.leftI; split <;> omega, h.2⟩
theorem left_is {a : Int} {n : Nat} (h0 : 0 ≤ a) (h1 : a ≤ 1048576) : -1 ≤ adl.leftI a n ∧ adl.leftI a n ≤ 1048576 := by unfold adl.leftI; split <;> omega

def SzS (n : Nat) : Prop := ∀ (A : Option Addr) (c : Nat) (l : List ExprD) (a : Int) (w : World), Ar n 0 w A l → l.length ≤ maxLen → 0 ≤ a → a ≤ 1048576 →
    Calls Try.prog 32 #[.slice A l.length c, .int .i64 a] w (Left1 w a (l.length + cntEs l))

set_option maxHeartbeats 2000000 in
theorem szExpr_of {n : Nat} (ih : SzS n) (pa aa : Option Addr) (pc ac : Nat) (e : ExprD) (a : Int) (w : World) (h : In 0 n w pa aa e) (h0 : 0 ≤ a) (h1 : a ≤ 1048576) :
    Calls Try.prog 7 #[.agg #[.int .i64 e.kind, .int .i64 e.val.kind, .int .i64 e.val.n, .string e.val.text, .slice pa e.addr.path.length pc, .string e.addr.typ, .string e.addr.nam, .int .i64 e.addr.kind, .int .i64 e.addr.n, .string e.addr.key, .string e.prop, .slice aa e.args.length ac], .int .i64 a] w (Left1 w a (cntE e)) := by
  have HI := Lib.hid h
  have hp := h.sz.prop
  have IH := Lib.hid ih
  unfold maxLen at hp
  clear h ih
  go_enter Try.func7, Try.ntmps7
  go_wp2_with fail
  refine ((sz_val e.val a _ h0 h1 HI.out.sz.text).mono fun _ _ h => left1 h0 h1 h).mono ?_
  rintro _ w1 ⟨x1, rfl, HX1, lo1, hi1, hb⟩
  have E1 := Lib.hid (below_then (below_a1 _ _) hb (Nat.le_refl _))
  have B1 := Lib.hid ((Blk.new w _ _).step hb)
  have b1 := B1.out.cell
  clear hb
  by_cases n1 : x1 < 0
  · go_wp2
    go_ret
    refine ⟨-1, rfl, Lib.hid ?_, by omega, by omega, E1.out⟩
    have q1 := HX1.out
    rw [cntE_eq]; unfold adl.leftI at q1 ⊢
    split at q1
    · omega
    · rw [if_neg (by omega)]
  have p1 : 0 ≤ x1 := by omega
  clear n1
  go_wp2_with fail
  refine ((adl.szAddr_any pa pc e.addr x1 _ (HI.out.strs.below E1.out) p1 hi1 HI.out.sz.path HI.out.sz.typ HI.out.sz.nam HI.out.sz.key).mono fun _ _ h => left1 p1 hi1 h).mono ?_
  rintro _ w2 ⟨x2, rfl, HX2, lo2, hi2, hb⟩
  have E2 := Lib.hid (below_then E1.out hb (Nat.le_refl _))
  have B2 := Lib.hid (B1.out.step hb)
  have b2 := B2.out.cell
  clear hb b1 B1 E1
  by_cases n2 : x2 < 0
  · go_wp2
    go_ret
    refine ⟨-1, rfl, Lib.hid ?_, by omega, by omega, E2.out⟩
    have q1 := HX1.out
    have q2 := HX2.out
    rw [cntE_eq]; unfold adl.leftI at q1 q2 ⊢
    split at q1 <;> split at q2
    · omega
    · rw [if_neg (by omega)]
    · omega
    · rw [if_neg (by omega)]
  have p2 : 0 ≤ x2 := by omega
  clear n2
  by_cases n3 : x2 - (e.prop.size : Int) < 0
  · go_wp2
    go_ret
    refine ⟨-1, rfl, Lib.hid ?_, by omega, by omega, E2.out⟩
    have q1 := HX1.out
    have q2 := HX2.out
    rw [cntE_eq]; unfold adl.leftI at q1 q2 ⊢
    split at q1 <;> split at q2
    · rw [if_neg (by omega)]
    · rw [if_neg (by omega)]
    · omega
    · rw [if_neg (by omega)]
  have p3 : 0 ≤ x2 - (e.prop.size : Int) := by omega
  have k3 : x2 - (e.prop.size : Int) ≤ 1048576 := by omega
  clear n3
  go_wp2_with fail
  refine (IH.out aa ac e.args (x2 - (e.prop.size : Int)) _ (HI.out.args.below E2.out) HI.out.sz.args p3 k3).mono ?_
  rintro _ w3 ⟨x3, rfl, HX3, lo3, hi3, hb⟩
  have E3 := Lib.hid (below_then E2.out hb (Nat.le_refl _))
  clear hb b2 B2 E2
  by_cases n4 : x3 < 0
  · go_wp2
    go_ret
    refine ⟨-1, rfl, Lib.hid ?_, by omega, by omega, E3.out⟩
    have q1 := HX1.out
    have q2 := HX2.out
    have q3 := HX3.out
    rw [cntE_eq]; unfold adl.leftI at q1 q2 q3 ⊢
    split at q1 <;> split at q2 <;> split at q3 <;> first | omega | (rw [if_neg (by omega)])
  · have p4 : 0 ≤ x3 := by omega
    clear n4
    go_wp2
    go_ret
    refine ⟨x3, rfl, Lib.hid ?_, by omega, by omega, E3.out⟩
    have q1 := HX1.out
    have q2 := HX2.out
    have q3 := HX3.out
    rw [cntE_eq]; unfold adl.leftI at q1 q2 q3 ⊢
    split at q1 <;> split at q2 <;> split at q3 <;> first | omega | (rw [if_pos (by omega)]; omega)

theorem isz : (Try.prog.info? 29).map (·.size) = some 12 := by kernel_rfl
theorem cells_len (e : ExprD) (pa : Option Addr) (pc : Nat) (aa : Option Addr) (ac : Nat) : (cellsE e pa pc aa ac).length = 12 := rfl

set_option maxHeartbeats 2000000 in
theorem szS_zero : SzS 0 := fun A c l a w h hl h0 h1 => by
  obtain rfl : l = [] := h
  go_enter Try.func32, Try.ntmps32
  go_wp2
  go_loop [1, 5] (fun s i => i = .int .i64 0 ∧ s = .int .i64 a) (fun _ i => 1)
  case atStart => exact ⟨rfl, rfl⟩
  case round =>
    obtain ⟨rfl, rfl⟩ := hrel
    go_wp2
    go_ret
    refine ⟨a, rfl, Lib.hid ?_, by omega, by omega, Below.refl _ _⟩
    unfold adl.leftI; simp [cntEs]; omega

set_option maxHeartbeats 2000000 in
theorem szS_succ {n : Nat} (ih : SzS n) : SzS (n + 1) := fun A c l a w h hl h0 h1 => by
  have H := Lib.hid h
  have IH := Lib.hid ih
  unfold maxLen at hl
  clear h ih
  by_cases hn : a - (l.length : Int) < 0
  · go_enter Try.func32, Try.ntmps32
    go_wp2
    go_ret
    exact ⟨-1, rfl, Lib.hid (by unfold adl.leftI; rw [if_neg (by omega)]), by omega, by omega, Below.refl _ _⟩
  · go_enter Try.func32, Try.ntmps32
    go_wp2
    go_loopw [1, 5] (fun s i wr => ∃ k : Nat, ∃ x : Int, k ≤ l.length ∧ i = .int .i64 k ∧ s = .int .i64 x ∧ 0 ≤ x ∧ x ≤ 1048576 ∧ x = a - l.length - cntEs (l.take k) ∧ Below w.heap.size w wr) (fun _ i _ => l.length - (intOf i).toNat)
    case atStart => exact ⟨0, _, Nat.zero_le _, rfl, rfl, by omega, by omega, by simp [cntEs], Below.refl _ _⟩
    case round =>
      obtain ⟨k, x, hk, rfl, rfl, hx0, hx1, hx, hb⟩ := hrel
      have HX := Lib.hid hx
      have HB := Lib.hid hb
      clear hx hb
      by_cases hlt : k < l.length
      · obtain ⟨b, o, pa, pc, aa, ac, rfl, _, hbl, hr, hin⟩ := (H.out.below HB.out).at k hlt
        have HR := Lib.hid hr
        have HIN := Lib.hid hin
        have HS := Lib.hid (cntEs_take l k hlt)
        have HT := Lib.hid (cntEs_le l (k + 1))
        clear hr hin
        go_wp2_with (refine wpList_load_mid rfl 29 (.tmp 20) rfl b (o + k * 12) rfl (cellsE l[k] pa pc aa ac) _ HR.out Try.underlying29 rfl isz ?_)
        go_wp2_with fail
        refine (szExpr_of IH.out pa aa pc ac l[k] x _ HIN.out hx0 hx1).mono ?_
        rintro _ w2 ⟨y, rfl, HY, lo, hi, hb⟩
        have E2 := Lib.hid (below_then HB.out hb (Nat.le_refl _))
        clear hb
        by_cases hy : y < 0
        · go_wp2
          go_ret
          refine ⟨-1, rfl, Lib.hid ?_, by omega, by omega, E2.out⟩
          have q1 := HX.out
          have q2 := HS.out
          have q3 := HT.out
          have q4 := HY.out
          unfold adl.leftI at q4 ⊢
          split at q4
          · omega
          · rw [if_neg (by omega)]
        · have hy0 : 0 ≤ y := by omega
          clear hy
          go_wp2
          go_roundw
          case rel => exact ⟨k + 1, y, hlt, by go_num, rfl, hy0, hi, by
            have q1 := HX.out
            have q2 := HS.out
            have q4 := HY.out
            unfold adl.leftI at q4
            split at q4 <;> omega, E2.out⟩
          case measure => simp [intOf]; omega
      · obtain rfl : k = l.length := by omega
        go_wp2
        go_ret
        refine ⟨x, rfl, Lib.hid ?_, by omega, by omega, HB.out⟩
        have q1 := HX.out
        rw [List.take_length] at q1
        unfold adl.leftI
        rw [if_pos (by omega)]; omega
theorem szS_all : ∀ n, SzS n
  | 0 => szS_zero
  | n + 1 => szS_succ (szS_all n)
-- PLAIN]
end Go.Proofs.Ytgkcohclejmhkaa.ex
