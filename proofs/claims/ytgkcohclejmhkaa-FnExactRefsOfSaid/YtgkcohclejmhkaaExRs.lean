/- ExprRight of the model. -/
import Derived.Test.YtgkcohclejmhkaaExR
import Derived.Test.YtgkcohclejmhkaaExQ
namespace Go.Proofs.Ytgkcohclejmhkaa.ex
open ad mem vl
open Go.ChangeShapes Go.WideShapes Go.ChangeAt Go.RowKit Go.Lib
set_option linter.unusedVariables false
set_option maxRecDepth 8000
set_option linter.unusedSimpArgs false

def RecS (d : Nat) : Prop := ∀ (n lo : Nat) (pa aa : Option Addr) (pc ac : Nat) (e : ExprD) (w : World), In lo n w pa aa e →
    Calls Try.prog 78 #[.agg #[.int .i64 e.kind, .int .i64 e.val.kind, .int .i64 e.val.n, .string e.val.text, .slice pa e.addr.path.length pc, .string e.addr.typ, .string e.addr.nam, .int .i64 e.addr.kind, .int .i64 e.addr.n, .string e.addr.key, .string e.prop, .slice aa e.args.length ac], .int .i64 (d : Int)] w (vl.Told w (.bool (exprB d e)))
theorem recS_zero : RecS 0 := fun n lo pa aa pc ac e w h => by
  clear h
  go_enter Try.func78, Try.ntmps78
  go_wp2
  go_ret
  exact ⟨rfl, below_a1 _ _⟩

set_option maxHeartbeats 2000000 in
theorem specE_k1 (d : Nat) (hd : d ≤ 100) (n lo : Nat) (pa aa : Option Addr) (pc ac : Nat) (e : ExprD) (w : World) (h : In lo n w pa aa e) (hk : e.kind = 1) :
    Calls Try.prog 78 #[.agg #[.int .i64 e.kind, .int .i64 e.val.kind, .int .i64 e.val.n, .string e.val.text, .slice pa e.addr.path.length pc, .string e.addr.typ, .string e.addr.nam, .int .i64 e.addr.kind, .int .i64 e.addr.n, .string e.addr.key, .string e.prop, .slice aa e.args.length ac], .int .i64 (d + 1 : Int)] w (vl.Told w (.bool (exprB (d + 1) e))) := by
  have HI := Lib.hid h
  have KN := fun (W : World) (hW : Below w.heap.size w W) => Lib.hid (noAddr_any pa pc e.addr W (HI.out.strs.below hW) HI.out.sz.path)
  have hq : Hid (adl.eqA e.addr zeroA = adl.eqA e.addr zeroA) := Lib.hid rfl
  have hz : ((d : Int) + 1 == 0) = false := by simp; omega
  have bq1 : (e.kind == 1) = true := by simp [hk]
  have bn1 : (e.kind != 1) = false := by simp [hk]
  have bq2 : (e.kind == 2) = false := by simp [hk]
  have bn2 : (e.kind != 2) = true := by simp [hk]
  have bq3 : (e.kind == 3) = false := by simp [hk]
  have bn3 : (e.kind != 3) = true := by simp [hk]
  have bq4 : (e.kind == 4) = false := by simp [hk]
  have bn4 : (e.kind != 4) = true := by simp [hk]
  have bq5 : (e.kind == 5) = false := by simp [hk]
  have bn5 : (e.kind != 5) = true := by simp [hk]
  have HK := Lib.hid hk
  clear hk h
  go_enter Try.func78, Try.ntmps78
  go_wp2_with (first
    | (go_at_call 112; refine (KN _ (below_a1 _ _)).out.mono ?_; rintro _ w1 ⟨rfl, hb⟩; have E1 := Lib.hid (below_then (below_a1 _ _) hb (Nat.le_refl _)); have B1 := Lib.hid ((Blk.new w _ _).step hb); have q1 := B1.out.cell; clear hb)
    | (go_at_call 90; refine (vl.right_spec e.val _ HI.out.sz.text).mono ?_; rintro _ w2 ⟨rfl, hb⟩; (first | (have E2 := Lib.hid (below_then E1.out hb (Nat.le_refl _))) | (have E2 := Lib.hid (below_then (below_a1 _ _) hb (Nat.le_refl _)))); clear hb)
    | (go_at_call 52; refine (adr.right_spec pa pc e.addr _ (HI.out.strs.below (by first | exact E1.out | exact below_a1 _ _)) HI.out.sz.path HI.out.sz.typ HI.out.sz.nam HI.out.sz.key).mono ?_; rintro _ w2 ⟨rfl, hb⟩; (first | (have E2 := Lib.hid (below_then E1.out hb (Nat.le_refl _))) | (have E2 := Lib.hid (below_then (below_a1 _ _) hb (Nat.le_refl _)))); (first | (have q2 := (B1.out.step hb).cell) | (have q2 := ((Blk.new w _ _).step hb).cell)); clear hb)
    | (go_at_call 88; refine (wd.spec_any e.prop _ HI.out.sz.prop).mono ?_; rintro _ _ ⟨rfl, rfl⟩))
  all_goals go_ret
  all_goals refine ⟨ret_bool ?_, by first | exact E2.out | exact E1.out | exact below_a1 _ _⟩
  all_goals clear HI KN
  all_goals (try simp only [tl_empty, tl_nil] at *)
  all_goals (simp_all [exprB, val0, len_empty])
  all_goals (try (cases hl : e.args <;> simp_all))
  all_goals (try omega)

set_option maxHeartbeats 2000000 in
theorem specE_k2 (d : Nat) (hd : d ≤ 100) (n lo : Nat) (pa aa : Option Addr) (pc ac : Nat) (e : ExprD) (w : World) (h : In lo n w pa aa e) (hk : e.kind = 2) :
    Calls Try.prog 78 #[.agg #[.int .i64 e.kind, .int .i64 e.val.kind, .int .i64 e.val.n, .string e.val.text, .slice pa e.addr.path.length pc, .string e.addr.typ, .string e.addr.nam, .int .i64 e.addr.kind, .int .i64 e.addr.n, .string e.addr.key, .string e.prop, .slice aa e.args.length ac], .int .i64 (d + 1 : Int)] w (vl.Told w (.bool (exprB (d + 1) e))) := by
  have HI := Lib.hid h
  have KN := fun (W : World) (hW : Below w.heap.size w W) => Lib.hid (noAddr_any pa pc e.addr W (HI.out.strs.below hW) HI.out.sz.path)
  have hq : Hid (adl.eqA e.addr zeroA = adl.eqA e.addr zeroA) := Lib.hid rfl
  have hz : ((d : Int) + 1 == 0) = false := by simp; omega
  have bq1 : (e.kind == 1) = false := by simp [hk]
  have bn1 : (e.kind != 1) = true := by simp [hk]
  have bq2 : (e.kind == 2) = true := by simp [hk]
  have bn2 : (e.kind != 2) = false := by simp [hk]
  have bq3 : (e.kind == 3) = false := by simp [hk]
  have bn3 : (e.kind != 3) = true := by simp [hk]
  have bq4 : (e.kind == 4) = false := by simp [hk]
  have bn4 : (e.kind != 4) = true := by simp [hk]
  have bq5 : (e.kind == 5) = false := by simp [hk]
  have bn5 : (e.kind != 5) = true := by simp [hk]
  have HK := Lib.hid hk
  clear hk h
  go_enter Try.func78, Try.ntmps78
  go_wp2_with (first
    | (go_at_call 112; refine (KN _ (below_a1 _ _)).out.mono ?_; rintro _ w1 ⟨rfl, hb⟩; have E1 := Lib.hid (below_then (below_a1 _ _) hb (Nat.le_refl _)); have B1 := Lib.hid ((Blk.new w _ _).step hb); have q1 := B1.out.cell; clear hb)
    | (go_at_call 90; refine (vl.right_spec e.val _ HI.out.sz.text).mono ?_; rintro _ w2 ⟨rfl, hb⟩; (first | (have E2 := Lib.hid (below_then E1.out hb (Nat.le_refl _))) | (have E2 := Lib.hid (below_then (below_a1 _ _) hb (Nat.le_refl _)))); clear hb)
    | (go_at_call 52; refine (adr.right_spec pa pc e.addr _ (HI.out.strs.below (by first | exact E1.out | exact below_a1 _ _)) HI.out.sz.path HI.out.sz.typ HI.out.sz.nam HI.out.sz.key).mono ?_; rintro _ w2 ⟨rfl, hb⟩; (first | (have E2 := Lib.hid (below_then E1.out hb (Nat.le_refl _))) | (have E2 := Lib.hid (below_then (below_a1 _ _) hb (Nat.le_refl _)))); (first | (have q2 := (B1.out.step hb).cell) | (have q2 := ((Blk.new w _ _).step hb).cell)); clear hb)
    | (go_at_call 88; refine (wd.spec_any e.prop _ HI.out.sz.prop).mono ?_; rintro _ _ ⟨rfl, rfl⟩))
  all_goals go_ret
  all_goals refine ⟨ret_bool ?_, by first | exact E2.out | exact E1.out | exact below_a1 _ _⟩
  all_goals clear HI KN
  all_goals (try simp only [tl_empty, tl_nil] at *)
  all_goals (simp_all [exprB, val0, len_empty])
  all_goals (try (cases hl : e.args <;> simp_all))
  all_goals (try omega)

set_option maxHeartbeats 2000000 in
theorem specE_k3 (d : Nat) (hd : d ≤ 100) (n lo : Nat) (pa aa : Option Addr) (pc ac : Nat) (e : ExprD) (w : World) (h : In lo n w pa aa e) (hk : e.kind = 3) :
    Calls Try.prog 78 #[.agg #[.int .i64 e.kind, .int .i64 e.val.kind, .int .i64 e.val.n, .string e.val.text, .slice pa e.addr.path.length pc, .string e.addr.typ, .string e.addr.nam, .int .i64 e.addr.kind, .int .i64 e.addr.n, .string e.addr.key, .string e.prop, .slice aa e.args.length ac], .int .i64 (d + 1 : Int)] w (vl.Told w (.bool (exprB (d + 1) e))) := by
  have HI := Lib.hid h
  have KN := fun (W : World) (hW : Below w.heap.size w W) => Lib.hid (noAddr_any pa pc e.addr W (HI.out.strs.below hW) HI.out.sz.path)
  have hq : Hid (adl.eqA e.addr zeroA = adl.eqA e.addr zeroA) := Lib.hid rfl
  have hz : ((d : Int) + 1 == 0) = false := by simp; omega
  have bq1 : (e.kind == 1) = false := by simp [hk]
  have bn1 : (e.kind != 1) = true := by simp [hk]
  have bq2 : (e.kind == 2) = false := by simp [hk]
  have bn2 : (e.kind != 2) = true := by simp [hk]
  have bq3 : (e.kind == 3) = true := by simp [hk]
  have bn3 : (e.kind != 3) = false := by simp [hk]
  have bq4 : (e.kind == 4) = false := by simp [hk]
  have bn4 : (e.kind != 4) = true := by simp [hk]
  have bq5 : (e.kind == 5) = false := by simp [hk]
  have bn5 : (e.kind != 5) = true := by simp [hk]
  have HK := Lib.hid hk
  clear hk h
  go_enter Try.func78, Try.ntmps78
  go_wp2_with (first
    | (go_at_call 112; refine (KN _ (below_a1 _ _)).out.mono ?_; rintro _ w1 ⟨rfl, hb⟩; have E1 := Lib.hid (below_then (below_a1 _ _) hb (Nat.le_refl _)); have B1 := Lib.hid ((Blk.new w _ _).step hb); have q1 := B1.out.cell; clear hb)
    | (go_at_call 90; refine (vl.right_spec e.val _ HI.out.sz.text).mono ?_; rintro _ w2 ⟨rfl, hb⟩; (first | (have E2 := Lib.hid (below_then E1.out hb (Nat.le_refl _))) | (have E2 := Lib.hid (below_then (below_a1 _ _) hb (Nat.le_refl _)))); clear hb)
    | (go_at_call 52; refine (adr.right_spec pa pc e.addr _ (HI.out.strs.below (by first | exact E1.out | exact below_a1 _ _)) HI.out.sz.path HI.out.sz.typ HI.out.sz.nam HI.out.sz.key).mono ?_; rintro _ w2 ⟨rfl, hb⟩; (first | (have E2 := Lib.hid (below_then E1.out hb (Nat.le_refl _))) | (have E2 := Lib.hid (below_then (below_a1 _ _) hb (Nat.le_refl _)))); (first | (have q2 := (B1.out.step hb).cell) | (have q2 := ((Blk.new w _ _).step hb).cell)); clear hb)
    | (go_at_call 88; refine (wd.spec_any e.prop _ HI.out.sz.prop).mono ?_; rintro _ _ ⟨rfl, rfl⟩))
  all_goals go_ret
  all_goals refine ⟨ret_bool ?_, by first | exact E2.out | exact E1.out | exact below_a1 _ _⟩
  all_goals clear HI KN
  all_goals (try simp only [tl_empty, tl_nil] at *)
  all_goals (simp_all [exprB, val0, len_empty])
  all_goals (try (cases hl : e.args <;> simp_all))
  all_goals (try omega)

set_option maxHeartbeats 2000000 in
theorem specE_k4 (d : Nat) (hd : d ≤ 100) (n lo : Nat) (pa aa : Option Addr) (pc ac : Nat) (e : ExprD) (w : World) (h : In lo n w pa aa e) (hk : e.kind = 4) :
    Calls Try.prog 78 #[.agg #[.int .i64 e.kind, .int .i64 e.val.kind, .int .i64 e.val.n, .string e.val.text, .slice pa e.addr.path.length pc, .string e.addr.typ, .string e.addr.nam, .int .i64 e.addr.kind, .int .i64 e.addr.n, .string e.addr.key, .string e.prop, .slice aa e.args.length ac], .int .i64 (d + 1 : Int)] w (vl.Told w (.bool (exprB (d + 1) e))) := by
  have HI := Lib.hid h
  have KN := fun (W : World) (hW : Below w.heap.size w W) => Lib.hid (noAddr_any pa pc e.addr W (HI.out.strs.below hW) HI.out.sz.path)
  have hq : Hid (adl.eqA e.addr zeroA = adl.eqA e.addr zeroA) := Lib.hid rfl
  have hz : ((d : Int) + 1 == 0) = false := by simp; omega
  have bq1 : (e.kind == 1) = false := by simp [hk]
  have bn1 : (e.kind != 1) = true := by simp [hk]
  have bq2 : (e.kind == 2) = false := by simp [hk]
  have bn2 : (e.kind != 2) = true := by simp [hk]
  have bq3 : (e.kind == 3) = false := by simp [hk]
  have bn3 : (e.kind != 3) = true := by simp [hk]
  have bq4 : (e.kind == 4) = true := by simp [hk]
  have bn4 : (e.kind != 4) = false := by simp [hk]
  have bq5 : (e.kind == 5) = false := by simp [hk]
  have bn5 : (e.kind != 5) = true := by simp [hk]
  have HK := Lib.hid hk
  clear hk h
  go_enter Try.func78, Try.ntmps78
  go_wp2_with (first
    | (go_at_call 112; refine (KN _ (below_a1 _ _)).out.mono ?_; rintro _ w1 ⟨rfl, hb⟩; have E1 := Lib.hid (below_then (below_a1 _ _) hb (Nat.le_refl _)); have B1 := Lib.hid ((Blk.new w _ _).step hb); have q1 := B1.out.cell; clear hb)
    | (go_at_call 90; refine (vl.right_spec e.val _ HI.out.sz.text).mono ?_; rintro _ w2 ⟨rfl, hb⟩; (first | (have E2 := Lib.hid (below_then E1.out hb (Nat.le_refl _))) | (have E2 := Lib.hid (below_then (below_a1 _ _) hb (Nat.le_refl _)))); clear hb)
    | (go_at_call 52; refine (adr.right_spec pa pc e.addr _ (HI.out.strs.below (by first | exact E1.out | exact below_a1 _ _)) HI.out.sz.path HI.out.sz.typ HI.out.sz.nam HI.out.sz.key).mono ?_; rintro _ w2 ⟨rfl, hb⟩; (first | (have E2 := Lib.hid (below_then E1.out hb (Nat.le_refl _))) | (have E2 := Lib.hid (below_then (below_a1 _ _) hb (Nat.le_refl _)))); (first | (have q2 := (B1.out.step hb).cell) | (have q2 := ((Blk.new w _ _).step hb).cell)); clear hb)
    | (go_at_call 88; refine (wd.spec_any e.prop _ HI.out.sz.prop).mono ?_; rintro _ _ ⟨rfl, rfl⟩))
  all_goals go_ret
  all_goals refine ⟨ret_bool ?_, by first | exact E2.out | exact E1.out | exact below_a1 _ _⟩
  all_goals clear HI KN
  all_goals (try simp only [tl_empty, tl_nil] at *)
  all_goals (simp_all [exprB, val0, len_empty])
  all_goals (try (cases hl : e.args <;> simp_all))
  all_goals (try omega)

set_option maxHeartbeats 2000000 in
theorem specE_kx (d : Nat) (hd : d ≤ 100) (n lo : Nat) (pa aa : Option Addr) (pc ac : Nat) (e : ExprD) (w : World) (h : In lo n w pa aa e) (h1 : e.kind ≠ 1) (h2 : e.kind ≠ 2) (h3 : e.kind ≠ 3) (h4 : e.kind ≠ 4) (h5 : e.kind ≠ 5) :
    Calls Try.prog 78 #[.agg #[.int .i64 e.kind, .int .i64 e.val.kind, .int .i64 e.val.n, .string e.val.text, .slice pa e.addr.path.length pc, .string e.addr.typ, .string e.addr.nam, .int .i64 e.addr.kind, .int .i64 e.addr.n, .string e.addr.key, .string e.prop, .slice aa e.args.length ac], .int .i64 (d + 1 : Int)] w (vl.Told w (.bool (exprB (d + 1) e))) := by
  have HI := Lib.hid h
  have KN := fun (W : World) (hW : Below w.heap.size w W) => Lib.hid (noAddr_any pa pc e.addr W (HI.out.strs.below hW) HI.out.sz.path)
  have hq : Hid (adl.eqA e.addr zeroA = adl.eqA e.addr zeroA) := Lib.hid rfl
  have hz : ((d : Int) + 1 == 0) = false := by simp; omega
  have bq1 : (e.kind == 1) = false := by simp [h1]
  have bn1 : (e.kind != 1) = true := by simp [h1]
  have bq2 : (e.kind == 2) = false := by simp [h2]
  have bn2 : (e.kind != 2) = true := by simp [h2]
  have bq3 : (e.kind == 3) = false := by simp [h3]
  have bn3 : (e.kind != 3) = true := by simp [h3]
  have bq4 : (e.kind == 4) = false := by simp [h4]
  have bn4 : (e.kind != 4) = true := by simp [h4]
  have bq5 : (e.kind == 5) = false := by simp [h5]
  have bn5 : (e.kind != 5) = true := by simp [h5]
  clear h1 h2 h3 h4 h5 h
  go_enter Try.func78, Try.ntmps78
  go_wp2_with (first
    | (go_at_call 112; refine (KN _ (below_a1 _ _)).out.mono ?_; rintro _ w1 ⟨rfl, hb⟩; have E1 := Lib.hid (below_then (below_a1 _ _) hb (Nat.le_refl _)); have B1 := Lib.hid ((Blk.new w _ _).step hb); have q1 := B1.out.cell; clear hb)
    | (go_at_call 90; refine (vl.right_spec e.val _ HI.out.sz.text).mono ?_; rintro _ w2 ⟨rfl, hb⟩; (first | (have E2 := Lib.hid (below_then E1.out hb (Nat.le_refl _))) | (have E2 := Lib.hid (below_then (below_a1 _ _) hb (Nat.le_refl _)))); clear hb)
    | (go_at_call 52; refine (adr.right_spec pa pc e.addr _ (HI.out.strs.below (by first | exact E1.out | exact below_a1 _ _)) HI.out.sz.path HI.out.sz.typ HI.out.sz.nam HI.out.sz.key).mono ?_; rintro _ w2 ⟨rfl, hb⟩; (first | (have E2 := Lib.hid (below_then E1.out hb (Nat.le_refl _))) | (have E2 := Lib.hid (below_then (below_a1 _ _) hb (Nat.le_refl _)))); (first | (have q2 := (B1.out.step hb).cell) | (have q2 := ((Blk.new w _ _).step hb).cell)); clear hb)
    | (go_at_call 88; refine (wd.spec_any e.prop _ HI.out.sz.prop).mono ?_; rintro _ _ ⟨rfl, rfl⟩))
  all_goals go_ret
  all_goals refine ⟨ret_bool ?_, by first | exact E2.out | exact E1.out | exact below_a1 _ _⟩
  all_goals clear HI KN
  all_goals (try simp only [tl_empty, tl_nil] at *)
  all_goals (simp_all [exprB, val0, len_empty])
  all_goals (try (cases hl : e.args <;> simp_all))
  all_goals (try omega)

end Go.Proofs.Ytgkcohclejmhkaa.ex
