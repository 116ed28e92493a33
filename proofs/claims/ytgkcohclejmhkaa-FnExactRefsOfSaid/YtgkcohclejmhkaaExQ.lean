/- The laws' own helpers on expressions: compared. -/
import Derived.Test.YtgkcohclejmhkaaExTs
import Derived.Deep.RegionHeld3
namespace Go.Proofs.Ytgkcohclejmhkaa.ex
open ad mem vl
open Go.ChangeShapes Go.WideShapes Go.ChangeAt Go.RowKit Go.Lib
set_option linter.unusedVariables false
set_option maxRecDepth 8000
set_option linter.unusedSimpArgs false


def EqS (n : Nat) : Prop := ∀ (lo lo' : Nat) (A B : Option Addr) (c c' : Nat) (l : List ExprD) (w : World), Ar n lo w A l → Ar n lo' w B l → l.length + cntEs l ≤ 1048576 →
    Calls Try.prog 44 #[.slice A l.length c, .slice B l.length c'] w (vl.Told w (.bool true))

set_option maxHeartbeats 1000000 in
theorem eqExpr_of {n : Nat} (ih : EqS n) (lo lo' : Nat) (pa aa pb ab : Option Addr) (pc ac pc' ac' : Nat) (e : ExprD) (w : World) (h : In lo n w pa aa e) (h' : In lo' n w pb ab e) (hc : cntE e ≤ 1048576) :
    Calls Try.prog 12 #[.agg #[.int .i64 e.kind, .int .i64 e.val.kind, .int .i64 e.val.n, .string e.val.text, .slice pa e.addr.path.length pc, .string e.addr.typ, .string e.addr.nam, .int .i64 e.addr.kind, .int .i64 e.addr.n, .string e.addr.key, .string e.prop, .slice aa e.args.length ac], .agg #[.int .i64 e.kind, .int .i64 e.val.kind, .int .i64 e.val.n, .string e.val.text, .slice pb e.addr.path.length pc', .string e.addr.typ, .string e.addr.nam, .int .i64 e.addr.kind, .int .i64 e.addr.n, .string e.addr.key, .string e.prop, .slice ab e.args.length ac']] w (vl.Told w (.bool true)) := by
  have HI := Lib.hid h
  have HJ := Lib.hid h'
  have IH := Lib.hid ih
  have HC : Hid (e.addr.path.length ≤ 1048576 ∧ e.args.length + cntEs e.args ≤ 1048576) := by
    show _ ∧ _
    rw [cntE_eq] at hc; unfold adl.cntA adl.cntL at hc; omega
  clear h h' ih hc
  go_enter Try.func12, Try.ntmps12
  go_wp2_with fail
  refine (eq_val e.val _).mono ?_
  rintro _ w1 ⟨rfl, hb⟩
  have E1 := Lib.hid (below_then (below_a2 _ _ _) hb (Nat.le_refl _))
  have P1 := Lib.hid (((Blk.new w _ _).alloc _).step hb)
  have R1 := Lib.hid ((Blk.new1 w _ _ _).step hb)
  have p1 := P1.out.cell
  have r1 := R1.out.cell
  clear hb
  go_wp2_with fail
  refine (adl.eq_same pa pb pc pc' e.addr _ (HI.out.strs.below E1.out) (HJ.out.strs.below E1.out) HC.out.1).mono ?_
  rintro _ w2 ⟨rfl, hb⟩
  have E2 := Lib.hid (below_then E1.out hb (Nat.le_refl _))
  have P2 := Lib.hid (P1.out.step hb)
  have R2 := Lib.hid (R1.out.step hb)
  have p2 := P2.out.cell
  have r2 := R2.out.cell
  clear hb p1 r1 P1 R1 E1
  go_wp2_with fail
  refine (IH.out lo lo' aa ab ac ac' e.args _ (HI.out.args.below E2.out) (HJ.out.args.below E2.out) HC.out.2).mono ?_
  rintro _ w3 ⟨rfl, hb⟩
  have E3 := Lib.hid (below_then E2.out hb (Nat.le_refl _))
  clear hb p2 r2 P2 R2 E2
  go_wp2
  go_ret
  exact ⟨rfl, E3.out⟩

set_option maxHeartbeats 1000000 in
theorem eqS_zero : EqS 0 := fun lo lo' A B c c' l w h h' hc => by
  have H := Lib.hid (show l = [] from h)
  have hl0 : (l.length : Int) ≤ 0 := by rw [H.out]; simp
  clear h h' hc
  go_enter Try.func44, Try.ntmps44
  go_wp2
  go_loop [5] (fun i => ∃ k : Nat, k ≤ l.length ∧ i = .int .i64 k) (fun i => l.length - (intOf i).toNat)
  case atStart => exact ⟨0, Nat.zero_le _, rfl⟩
  case round =>
    obtain ⟨k, hk, rfl⟩ := hrel
    obtain rfl : k = l.length := by omega
    go_wp2
    go_ret
    exact ⟨rfl, Below.refl _ _⟩

theorem range12 {w : World} {b o : Nat} {e : ExprD} {pa aa : Option Addr} {pc ac : Nat} (h : w.rangeAt b o (cellsE e pa pc aa ac)) :
    w.cell? ⟨b, o, none⟩ = some (.int .i64 e.kind) ∧ w.cell? ⟨b, o + 1, none⟩ = some (.int .i64 e.val.kind) ∧ w.cell? ⟨b, o + 2, none⟩ = some (.int .i64 e.val.n) ∧ w.cell? ⟨b, o + 3, none⟩ = some (.string e.val.text) ∧ w.cell? ⟨b, o + 4, none⟩ = some (.slice pa e.addr.path.length pc) ∧ w.cell? ⟨b, o + 5, none⟩ = some (.string e.addr.typ) ∧ w.cell? ⟨b, o + 6, none⟩ = some (.string e.addr.nam) ∧ w.cell? ⟨b, o + 7, none⟩ = some (.int .i64 e.addr.kind) ∧ w.cell? ⟨b, o + 8, none⟩ = some (.int .i64 e.addr.n) ∧ w.cell? ⟨b, o + 9, none⟩ = some (.string e.addr.key) ∧ w.cell? ⟨b, o + 10, none⟩ = some (.string e.prop) ∧ w.cell? ⟨b, o + 11, none⟩ = some (.slice aa e.args.length ac) :=
  ⟨h 0 _ rfl, h 1 _ rfl, h 2 _ rfl, h 3 _ rfl, h 4 _ rfl, h 5 _ rfl, h 6 _ rfl, h 7 _ rfl, h 8 _ rfl, h 9 _ rfl, h 10 _ rfl, h 11 _ rfl⟩

set_option maxHeartbeats 1000000 in
theorem eqS_succ {n : Nat} (ih : EqS n) : EqS (n + 1) := fun lo lo' A B c c' l w h h' hc => by
  have H := Lib.hid h
  have H' := Lib.hid h'
  have IH := Lib.hid ih
  have HC := Lib.hid hc
  have hl : l.length ≤ 1048576 := by omega
  clear h h' ih hc
  go_enter Try.func44, Try.ntmps44
  go_wp2
  go_loopw [5] (fun i wr => ∃ k : Nat, k ≤ l.length ∧ i = .int .i64 k ∧ Below w.heap.size w wr) (fun i _ => l.length - (intOf i).toNat)
  case atStart => exact ⟨0, Nat.zero_le _, rfl, Below.refl _ _⟩
  case round =>
    obtain ⟨k, hk, rfl, hb⟩ := hrel
    have HB := Lib.hid hb
    clear hb
    by_cases hlt : k < l.length
    · obtain ⟨b, o, pa, pc, aa, ac, rfl, _, hbl, hr, hin⟩ := (H.out.below HB.out).at k hlt
      obtain ⟨b', o', pb, pc', ab, ac', rfl, _, hbl', hr', hin'⟩ := (H'.out.below HB.out).at k hlt
      have HR := Lib.hid hr
      have HR' := Lib.hid hr'
      obtain ⟨r0, r1, r2, r3, r4, r5, r6, r7, r8, r9, r10, r11⟩ := range12 hr
      obtain ⟨s0, s1, s2, s3, s4, s5, s6, s7, s8, s9, s10, s11⟩ := range12 hr'
      have HIN := Lib.hid hin
      have HIN' := Lib.hid hin'
      have HS := Lib.hid (cntEs_at hlt)
      have hkI : (k : Int) < l.length := by omega
      have hk0 : (0 : Int) ≤ k := by omega
      have KE := fun (W : World) (hW : Below wr.heap.size wr W) => Lib.hid (eqExpr_of IH.out lo lo' pa aa pb ab pc ac pc' ac' l[k] W (HIN.out.below hW) (HIN'.out.below hW) (by have := HS.out; have := HC.out; omega))
      clear hin hin' hr hr'
      go_wp2_with fail
      go_region_held3 (fun w' => w'.cell? ⟨b, o + k * 12, none⟩ = some (.int .i64 l[k].kind) ∧ w'.cell? ⟨b, o + k * 12 + 1, none⟩ = some (.int .i64 l[k].val.kind) ∧ w'.cell? ⟨b, o + k * 12 + 2, none⟩ = some (.int .i64 l[k].val.n) ∧ w'.cell? ⟨b, o + k * 12 + 3, none⟩ = some (.string l[k].val.text) ∧ w'.cell? ⟨b, o + k * 12 + 4, none⟩ = some (.slice pa l[k].addr.path.length pc) ∧ w'.cell? ⟨b, o + k * 12 + 5, none⟩ = some (.string l[k].addr.typ) ∧ w'.cell? ⟨b, o + k * 12 + 6, none⟩ = some (.string l[k].addr.nam) ∧ w'.cell? ⟨b, o + k * 12 + 7, none⟩ = some (.int .i64 l[k].addr.kind) ∧ w'.cell? ⟨b, o + k * 12 + 8, none⟩ = some (.int .i64 l[k].addr.n) ∧ w'.cell? ⟨b, o + k * 12 + 9, none⟩ = some (.string l[k].addr.key) ∧ w'.cell? ⟨b, o + k * 12 + 10, none⟩ = some (.string l[k].prop) ∧ w'.cell? ⟨b, o + k * 12 + 11, none⟩ = some (.slice aa l[k].args.length ac) ∧ w'.cell? ⟨b', o' + k * 12, none⟩ = some (.int .i64 l[k].kind) ∧ w'.cell? ⟨b', o' + k * 12 + 1, none⟩ = some (.int .i64 l[k].val.kind) ∧ w'.cell? ⟨b', o' + k * 12 + 2, none⟩ = some (.int .i64 l[k].val.n) ∧ w'.cell? ⟨b', o' + k * 12 + 3, none⟩ = some (.string l[k].val.text) ∧ w'.cell? ⟨b', o' + k * 12 + 4, none⟩ = some (.slice pb l[k].addr.path.length pc') ∧ w'.cell? ⟨b', o' + k * 12 + 5, none⟩ = some (.string l[k].addr.typ) ∧ w'.cell? ⟨b', o' + k * 12 + 6, none⟩ = some (.string l[k].addr.nam) ∧ w'.cell? ⟨b', o' + k * 12 + 7, none⟩ = some (.int .i64 l[k].addr.kind) ∧ w'.cell? ⟨b', o' + k * 12 + 8, none⟩ = some (.int .i64 l[k].addr.n) ∧ w'.cell? ⟨b', o' + k * 12 + 9, none⟩ = some (.string l[k].addr.key) ∧ w'.cell? ⟨b', o' + k * 12 + 10, none⟩ = some (.string l[k].prop) ∧ w'.cell? ⟨b', o' + k * 12 + 11, none⟩ = some (.slice ab l[k].args.length ac')) (go_keep)
        (first
        | (go_at_call 12; refine (KE _ ?_).out.mono ?_; exact below_d wr _; rintro _ w2 ⟨rfl, hb⟩; have hbb := below_then (below_d wr _) hb (Nat.le_refl _); have E2 := Lib.hid (below_then HB.out hbb (Nat.le_refl _)); have q1 := range12 (range_below HR.out hbb hbl); have q2 := range12 (range_below HR'.out hbb hbl'); clear hb hbb))
      clear KE
      go_wp2
      go_roundw
      case rel => exact ⟨k + 1, hlt, by go_num, E2.out⟩
      case measure => simp [intOf]; omega
    · obtain rfl : k = l.length := by omega
      go_wp2
      go_ret
      exact ⟨rfl, HB.out⟩
theorem eqS_all : ∀ n, EqS n
  | 0 => eqS_zero
  | n + 1 => eqS_succ (eqS_all n)
end Go.Proofs.Ytgkcohclejmhkaa.ex
