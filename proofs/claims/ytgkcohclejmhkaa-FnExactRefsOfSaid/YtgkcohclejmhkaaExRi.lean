/- ExprRight of the program. -/
import Derived.Test.YtgkcohclejmhkaaExRt
import Derived.Test.YtgkcohclejmhkaaVlI
namespace Go.Proofs.Ytgkcohclejmhkaa.ex
open ad mem vl
open Go.ChangeShapes Go.WideShapes Go.ChangeAt Go.RowKit Go.Lib
set_option linter.unusedVariables false
set_option maxRecDepth 8000
set_option linter.unusedSimpArgs false

theorem mk_val (k : Int) (v : ValD) (a : AddrD) (p : ByteArray) (l : List ExprD) : (ExprD.mk k v a p l).val = v := rfl
theorem mk_addr (k : Int) (v : ValD) (a : AddrD) (p : ByteArray) (l : List ExprD) : (ExprD.mk k v a p l).addr = a := rfl
theorem mk_prop (k : Int) (v : ValD) (a : AddrD) (p : ByteArray) (l : List ExprD) : (ExprD.mk k v a p l).prop = p := rfl
theorem mk_args (k : Int) (v : ValD) (a : AddrD) (p : ByteArray) (l : List ExprD) : (ExprD.mk k v a p l).args = l := rfl
theorem eq_zero : adl.eqA zeroA zeroA = true := adl.eqA_refl _
def RecI (d : Nat) : Prop := ∀ (n lo : Nat) (pa aa : Option Addr) (pc ac : Nat) (e : ExprD) (w : World), In lo n w pa aa e →
    Calls Try.prog 80 #[.agg #[.int .i64 e.kind, .int .i64 e.val.kind, .int .i64 e.val.n, .string e.val.text, .slice pa e.addr.path.length pc, .string e.addr.typ, .string e.addr.nam, .int .i64 e.addr.kind, .int .i64 e.addr.n, .string e.addr.key, .string e.prop, .slice aa e.args.length ac], .int .i64 (d : Int)] w (vl.Told w (.bool (exprB d e)))
theorem recI_zero : RecI 0 := fun n lo pa aa pc ac e w h => by
  clear h
  go_enter Try.func80, Try.ntmps80
  go_wp2
  go_ret
  exact ⟨rfl, below_a1 _ _⟩
def ArgsI (d : Nat) : Prop := ∀ (n lo : Nat) (A : Option Addr) (c : Nat) (l : List ExprD) (w : World), Ar n lo w A l → l.length ≤ maxLen →
    Calls Try.prog 114 #[.slice A l.length c, .int .i64 (d : Int)] w (vl.Told w (.bool (two (exprB d) l)))

theorem argsI_no (d : Nat) (A : Option Addr) (c : Nat) (l : List ExprD) (w : World) (hl : l.length ≠ 2) :
    Calls Try.prog 114 #[.slice A l.length c, .int .i64 (d : Int)] w (vl.Told w (.bool (two (exprB d) l))) := by
  have ht : two (exprB d) l = false := by
    match l, hl with
    | [], _ => rfl
    | [_], _ => rfl
    | [_, _], h => simp at h
    | _ :: _ :: _ :: _, _ => rfl
  have hlb : ((l.length : Int) == 2) = false := by simp; omega
  rw [ht]
  clear hl ht
  go_enter Try.func114, Try.ntmps114
  go_wp2
  go_ret
  exact ⟨rfl, Below.refl _ _⟩
set_option maxHeartbeats 1000000 in
theorem argsI_yes (d : Nat) (ih : RecI d) (n lo : Nat) (A : Option Addr) (c : Nat) (x y : ExprD) (w : World) (h : Ar n lo w A [x, y]) :
    Calls Try.prog 114 #[.slice A 2 c, .int .i64 (d : Int)] w (vl.Told w (.bool (exprB d x && exprB d y))) := by
  obtain ⟨m, b, o, qa, qc, qaa, qac, ra, rc, raa, rac, rfl, rfl, hbl, hr, hin, hr', hin'⟩ := two_at h rfl
  have KX := fun (W : World) (hW : Below w.heap.size w W) => Lib.hid (ih m lo qa qaa qc qac x W (hin.below hW))
  have KY := fun (W : World) (hW : Below w.heap.size w W) => Lib.hid (ih m lo ra raa rc rac y W (hin'.below hW))
  have HR' := Lib.hid hr'
  obtain ⟨r0, r1, r2, r3, r4, r5, r6, r7, r8, r9, r10, r11⟩ := first12 hr
  clear h ih hin hin' hr hr'
  go_enter Try.func114, Try.ntmps114
  go_wp2_with (first
    | (go_at_call 80; (with_reducible refine (KX _ (Below.refl _ _)).out.mono ?_); rintro _ w2 ⟨rfl, hb⟩; have E2 := Lib.hid hb; obtain ⟨s0, s1, s2, s3, s4, s5, s6, s7, s8, s9, s10, s11⟩ := second12 (range_below HR'.out E2.out hbl); clear hb)
    | (go_at_call 80; (with_reducible refine (KY _ E2.out).out.mono ?_); rintro _ w3 ⟨rfl, hb⟩; have E3 := Lib.hid (below_then E2.out hb (Nat.le_refl _)); clear hb))
  all_goals go_ret
  all_goals refine ⟨ret_bool ?_, by first | exact E3.out | exact E2.out⟩
  all_goals simp_all
theorem argsI_of {d : Nat} (ih : RecI d) : ArgsI d := fun n lo A c l w h hl => by
  by_cases h2 : l.length = 2
  · match l, h2 with
    | [x, y], _ => exact argsI_yes d ih n lo A c x y w h
  · exact argsI_no d A c l w h2

set_option maxHeartbeats 1000000 in
theorem implE_k1 (d : Nat) (hd : d ≤ 100) (n lo : Nat) (pa aa : Option Addr) (pc ac : Nat) (e : ExprD) (w : World) (h : In lo n w pa aa e) (hk : e.kind = 1) :
    Calls Try.prog 80 #[.agg #[.int .i64 e.kind, .int .i64 e.val.kind, .int .i64 e.val.n, .string e.val.text, .slice pa e.addr.path.length pc, .string e.addr.typ, .string e.addr.nam, .int .i64 e.addr.kind, .int .i64 e.addr.n, .string e.addr.key, .string e.prop, .slice aa e.args.length ac], .int .i64 (d + 1 : Int)] w (vl.Told w (.bool (exprB (d + 1) e))) := by
  have HI := Lib.hid h
  have KF := fun (W : World) (hW : Below w.heap.size w W) => Lib.hid (noFields_any n lo pa aa pc ac (.mk e.kind zeroV e.addr e.prop e.args) W ⟨HI.out.strs.below hW, HI.out.far, HI.out.args.below hW, ⟨Nat.zero_le _, HI.out.sz.path, HI.out.sz.typ, HI.out.sz.nam, HI.out.sz.key, HI.out.sz.prop, HI.out.sz.args⟩⟩)
  have hz : ¬ ((d : Int) + 1 < 1) := by omega
  have bq1 : (e.kind == 1) = true := by simp [hk]
  have bq2 : (e.kind == 2) = false := by simp [hk]
  have bq3 : (e.kind == 3) = false := by simp [hk]
  have bq4 : (e.kind == 4) = false := by simp [hk]
  have bq5 : (e.kind == 5) = false := by simp [hk]
  have HK := Lib.hid hk
  clear hk h
  go_enter Try.func80, Try.ntmps80
  go_wp2_with (first
    | (go_at_call 113; refine (vl.right_impl e.val _ HI.out.sz.text).mono ?_; rintro _ w1 ⟨rfl, hb⟩; have E1 := Lib.hid (below_then (below_a2 _ _ _) hb (Nat.le_refl _)); have q0 := (((Blk.new w _ _).alloc _).step hb).cell; have q1 := ((Blk.new1 w _ _ _).step hb).cell; clear hb)
    | (go_at_call 115; refine (KF _ (by first | exact E1.out | exact below_a2 _ _ _)).out.mono ?_; rintro _ w3 ⟨rfl, hb⟩; (first | (have E3 := Lib.hid (below_then E1.out hb (Nat.le_refl _))) | (have E3 := Lib.hid (below_then (below_a2 _ _ _) hb (Nat.le_refl _)))); clear hb))
  all_goals go_ret
  all_goals refine ⟨ret_bool ?_, by first | exact E3.out | exact E1.out | exact below_a2 _ _ _⟩
  all_goals clear HI KF
  all_goals have hk := HK.out
  all_goals (simp_all [exprB, val0, zeroV, len_empty, mk_val, mk_addr, mk_prop, mk_args, eq_zero, Bool.and_assoc])

set_option maxHeartbeats 1000000 in
theorem implE_k2 (d : Nat) (hd : d ≤ 100) (n lo : Nat) (pa aa : Option Addr) (pc ac : Nat) (e : ExprD) (w : World) (h : In lo n w pa aa e) (hk : e.kind = 2) :
    Calls Try.prog 80 #[.agg #[.int .i64 e.kind, .int .i64 e.val.kind, .int .i64 e.val.n, .string e.val.text, .slice pa e.addr.path.length pc, .string e.addr.typ, .string e.addr.nam, .int .i64 e.addr.kind, .int .i64 e.addr.n, .string e.addr.key, .string e.prop, .slice aa e.args.length ac], .int .i64 (d + 1 : Int)] w (vl.Told w (.bool (exprB (d + 1) e))) := by
  have HI := Lib.hid h
  have KF := fun (W : World) (hW : Below w.heap.size w W) => Lib.hid (noFields_any n lo none aa 0 ac (.mk e.kind e.val zeroA ByteArray.empty e.args) W ⟨Strs.nil _ _, (fun _ h => by cases h), HI.out.args.below hW, ⟨HI.out.sz.text, Nat.zero_le _, Nat.zero_le _, Nat.zero_le _, Nat.zero_le _, Nat.zero_le _, HI.out.sz.args⟩⟩)
  have hz : ¬ ((d : Int) + 1 < 1) := by omega
  have bq1 : (e.kind == 1) = false := by simp [hk]
  have bq2 : (e.kind == 2) = true := by simp [hk]
  have bq3 : (e.kind == 3) = false := by simp [hk]
  have bq4 : (e.kind == 4) = false := by simp [hk]
  have bq5 : (e.kind == 5) = false := by simp [hk]
  have HK := Lib.hid hk
  clear hk h
  go_enter Try.func80, Try.ntmps80
  go_wp2_with (first
    | (go_at_call 58; refine (adr.right_impl pa pc e.addr _ (HI.out.strs.below (below_a2 _ _ _)) HI.out.sz.path HI.out.sz.typ HI.out.sz.nam HI.out.sz.key).mono ?_; rintro _ w1 ⟨rfl, hb⟩; have E1 := Lib.hid (below_then (below_a2 _ _ _) hb (Nat.le_refl _)); have q0 := (((Blk.new w _ _).alloc _).step hb).cell; have q1 := ((Blk.new1 w _ _ _).step hb).cell; clear hb)
    | (go_at_call 95; refine (wd.impl_any e.prop _ HI.out.sz.prop).mono ?_; rintro _ _ ⟨rfl, rfl⟩)
    | (go_at_call 115; refine (KF _ (by first | exact E1.out | exact below_a2 _ _ _)).out.mono ?_; rintro _ w3 ⟨rfl, hb⟩; (first | (have E3 := Lib.hid (below_then E1.out hb (Nat.le_refl _))) | (have E3 := Lib.hid (below_then (below_a2 _ _ _) hb (Nat.le_refl _)))); clear hb))
  all_goals go_ret
  all_goals refine ⟨ret_bool ?_, by first | exact E3.out | exact E1.out | exact below_a2 _ _ _⟩
  all_goals clear HI KF
  all_goals have hk := HK.out
  all_goals (simp_all [exprB, val0, zeroV, len_empty, mk_val, mk_addr, mk_prop, mk_args, eq_zero, Bool.and_assoc])

set_option maxHeartbeats 1000000 in
theorem implE_k3 (d : Nat) (hd : d ≤ 100) (n lo : Nat) (pa aa : Option Addr) (pc ac : Nat) (e : ExprD) (w : World) (h : In lo n w pa aa e) (hk : e.kind = 3) :
    Calls Try.prog 80 #[.agg #[.int .i64 e.kind, .int .i64 e.val.kind, .int .i64 e.val.n, .string e.val.text, .slice pa e.addr.path.length pc, .string e.addr.typ, .string e.addr.nam, .int .i64 e.addr.kind, .int .i64 e.addr.n, .string e.addr.key, .string e.prop, .slice aa e.args.length ac], .int .i64 (d + 1 : Int)] w (vl.Told w (.bool (exprB (d + 1) e))) := by
  have HI := Lib.hid h
  have KF := fun (W : World) (hW : Below w.heap.size w W) => Lib.hid (noFields_any n lo pa aa pc ac e W (HI.out.below hW))
  have hz : ¬ ((d : Int) + 1 < 1) := by omega
  have bq1 : (e.kind == 1) = false := by simp [hk]
  have bq2 : (e.kind == 2) = false := by simp [hk]
  have bq3 : (e.kind == 3) = true := by simp [hk]
  have bq4 : (e.kind == 4) = false := by simp [hk]
  have bq5 : (e.kind == 5) = false := by simp [hk]
  have HK := Lib.hid hk
  clear hk h
  go_enter Try.func80, Try.ntmps80
  go_wp2_with (first
    | (go_at_call 115; refine (KF _ (by first | exact E1.out | exact below_a2 _ _ _)).out.mono ?_; rintro _ w3 ⟨rfl, hb⟩; (first | (have E3 := Lib.hid (below_then E1.out hb (Nat.le_refl _))) | (have E3 := Lib.hid (below_then (below_a2 _ _ _) hb (Nat.le_refl _)))); clear hb))
  all_goals go_ret
  all_goals refine ⟨ret_bool ?_, by first | exact E3.out | exact E1.out | exact below_a2 _ _ _⟩
  all_goals clear HI KF
  all_goals have hk := HK.out
  all_goals (simp_all [exprB, val0, zeroV, len_empty, mk_val, mk_addr, mk_prop, mk_args, eq_zero, Bool.and_assoc])

set_option maxHeartbeats 1000000 in
theorem implE_k4 (d : Nat) (hd : d ≤ 100) (n lo : Nat) (pa aa : Option Addr) (pc ac : Nat) (e : ExprD) (w : World) (h : In lo n w pa aa e) (hk : e.kind = 4) :
    Calls Try.prog 80 #[.agg #[.int .i64 e.kind, .int .i64 e.val.kind, .int .i64 e.val.n, .string e.val.text, .slice pa e.addr.path.length pc, .string e.addr.typ, .string e.addr.nam, .int .i64 e.addr.kind, .int .i64 e.addr.n, .string e.addr.key, .string e.prop, .slice aa e.args.length ac], .int .i64 (d + 1 : Int)] w (vl.Told w (.bool (exprB (d + 1) e))) := by
  have HI := Lib.hid h
  have KF := fun (W : World) (hW : Below w.heap.size w W) => Lib.hid (noFields_any n lo pa aa pc ac e W (HI.out.below hW))
  have hz : ¬ ((d : Int) + 1 < 1) := by omega
  have bq1 : (e.kind == 1) = false := by simp [hk]
  have bq2 : (e.kind == 2) = false := by simp [hk]
  have bq3 : (e.kind == 3) = false := by simp [hk]
  have bq4 : (e.kind == 4) = true := by simp [hk]
  have bq5 : (e.kind == 5) = false := by simp [hk]
  have HK := Lib.hid hk
  clear hk h
  go_enter Try.func80, Try.ntmps80
  go_wp2_with (first
    | (go_at_call 115; refine (KF _ (by first | exact E1.out | exact below_a2 _ _ _)).out.mono ?_; rintro _ w3 ⟨rfl, hb⟩; (first | (have E3 := Lib.hid (below_then E1.out hb (Nat.le_refl _))) | (have E3 := Lib.hid (below_then (below_a2 _ _ _) hb (Nat.le_refl _)))); clear hb))
  all_goals go_ret
  all_goals refine ⟨ret_bool ?_, by first | exact E3.out | exact E1.out | exact below_a2 _ _ _⟩
  all_goals clear HI KF
  all_goals have hk := HK.out
  all_goals (simp_all [exprB, val0, zeroV, len_empty, mk_val, mk_addr, mk_prop, mk_args, eq_zero, Bool.and_assoc])

set_option maxHeartbeats 1000000 in
theorem implE_k5 (d : Nat) (hd : d ≤ 100) (ih : ArgsI d) (n lo : Nat) (pa aa : Option Addr) (pc ac : Nat) (e : ExprD) (w : World) (h : In lo n w pa aa e) (hk : e.kind = 5) :
    Calls Try.prog 80 #[.agg #[.int .i64 e.kind, .int .i64 e.val.kind, .int .i64 e.val.n, .string e.val.text, .slice pa e.addr.path.length pc, .string e.addr.typ, .string e.addr.nam, .int .i64 e.addr.kind, .int .i64 e.addr.n, .string e.addr.key, .string e.prop, .slice aa e.args.length ac], .int .i64 (d + 1 : Int)] w (vl.Told w (.bool (exprB (d + 1) e))) := by
  have HI := Lib.hid h
  have KF := fun (W : World) (hW : Below w.heap.size w W) => Lib.hid (noFields_any n lo pa none pc 0 (.mk e.kind e.val e.addr e.prop []) W ⟨HI.out.strs.below hW, HI.out.far, Ar.nil _ _ _ _, ⟨HI.out.sz.text, HI.out.sz.path, HI.out.sz.typ, HI.out.sz.nam, HI.out.sz.key, HI.out.sz.prop, Nat.zero_le _⟩⟩)
  have hz : ¬ ((d : Int) + 1 < 1) := by omega
  have bq1 : (e.kind == 1) = false := by simp [hk]
  have bq2 : (e.kind == 2) = false := by simp [hk]
  have bq3 : (e.kind == 3) = false := by simp [hk]
  have bq4 : (e.kind == 4) = false := by simp [hk]
  have bq5 : (e.kind == 5) = true := by simp [hk]
  have IHA := Lib.hid ih
  clear ih
  have HK := Lib.hid hk
  clear hk h
  go_enter Try.func80, Try.ntmps80
  go_wp2_with (first
    | (go_at_call 114; refine (IHA.out n lo aa ac e.args _ (HI.out.args.below (below_a2 _ _ _)) HI.out.sz.args).mono ?_; rintro _ w1 ⟨rfl, hb⟩; have E1 := Lib.hid (below_then (below_a2 _ _ _) hb (Nat.le_refl _)); have q0 := (((Blk.new w _ _).alloc _).step hb).cell; have q1 := ((Blk.new1 w _ _ _).step hb).cell; clear hb)
    | (go_at_call 115; refine (KF _ (by first | exact E1.out | exact below_a2 _ _ _)).out.mono ?_; rintro _ w3 ⟨rfl, hb⟩; (first | (have E3 := Lib.hid (below_then E1.out hb (Nat.le_refl _))) | (have E3 := Lib.hid (below_then (below_a2 _ _ _) hb (Nat.le_refl _)))); clear hb))
  all_goals go_ret
  all_goals refine ⟨ret_bool ?_, by first | exact E3.out | exact E1.out | exact below_a2 _ _ _⟩
  all_goals clear HI KF
  all_goals have hk := HK.out
  all_goals (simp_all [exprB, val0, zeroV, len_empty, mk_val, mk_addr, mk_prop, mk_args, eq_zero, Bool.and_assoc])

set_option maxHeartbeats 1000000 in
theorem implE_kx (d : Nat) (hd : d ≤ 100) (n lo : Nat) (pa aa : Option Addr) (pc ac : Nat) (e : ExprD) (w : World) (h : In lo n w pa aa e) (h1 : e.kind ≠ 1) (h2 : e.kind ≠ 2) (h3 : e.kind ≠ 3) (h4 : e.kind ≠ 4) (h5 : e.kind ≠ 5) :
    Calls Try.prog 80 #[.agg #[.int .i64 e.kind, .int .i64 e.val.kind, .int .i64 e.val.n, .string e.val.text, .slice pa e.addr.path.length pc, .string e.addr.typ, .string e.addr.nam, .int .i64 e.addr.kind, .int .i64 e.addr.n, .string e.addr.key, .string e.prop, .slice aa e.args.length ac], .int .i64 (d + 1 : Int)] w (vl.Told w (.bool (exprB (d + 1) e))) := by
  have HI := Lib.hid h
  have KF := fun (W : World) (hW : Below w.heap.size w W) => Lib.hid (noFields_any n lo pa aa pc ac e W (HI.out.below hW))
  have hz : ¬ ((d : Int) + 1 < 1) := by omega
  have bq1 : (e.kind == 1) = false := by simp [h1]
  have bq2 : (e.kind == 2) = false := by simp [h2]
  have bq3 : (e.kind == 3) = false := by simp [h3]
  have bq4 : (e.kind == 4) = false := by simp [h4]
  have bq5 : (e.kind == 5) = false := by simp [h5]
  clear h1 h2 h3 h4 h5 h
  go_enter Try.func80, Try.ntmps80
  go_wp2_with (first
    | (go_at_call 115; refine (KF _ (by first | exact E1.out | exact below_a2 _ _ _)).out.mono ?_; rintro _ w3 ⟨rfl, hb⟩; (first | (have E3 := Lib.hid (below_then E1.out hb (Nat.le_refl _))) | (have E3 := Lib.hid (below_then (below_a2 _ _ _) hb (Nat.le_refl _)))); clear hb))
  all_goals go_ret
  all_goals refine ⟨ret_bool ?_, by first | exact E3.out | exact E1.out | exact below_a2 _ _ _⟩
  all_goals clear HI KF
  all_goals (simp_all [exprB, val0, zeroV, len_empty, mk_val, mk_addr, mk_prop, mk_args, eq_zero, Bool.and_assoc])

theorem recI_succ {d : Nat} (hd : d ≤ 100) (ih : RecI d) : RecI (d + 1) := fun n lo pa aa pc ac e w h => by
  have e1 : (((d + 1 : Nat) : Int)) = (d : Int) + 1 := by omega
  rw [e1]
  by_cases h1 : e.kind = 1
  · exact implE_k1 d hd n lo pa aa pc ac e w h h1
  by_cases h2 : e.kind = 2
  · exact implE_k2 d hd n lo pa aa pc ac e w h h2
  by_cases h3 : e.kind = 3
  · exact implE_k3 d hd n lo pa aa pc ac e w h h3
  by_cases h4 : e.kind = 4
  · exact implE_k4 d hd n lo pa aa pc ac e w h h4
  by_cases h5 : e.kind = 5
  · exact implE_k5 d hd (argsI_of ih) n lo pa aa pc ac e w h h5
  · exact implE_kx d hd n lo pa aa pc ac e w h h1 h2 h3 h4 h5
theorem recI_4 : RecI 4 := recI_succ (by omega) (recI_succ (by omega) (recI_succ (by omega) (recI_succ (by omega) recI_zero)))
set_option maxHeartbeats 400000 in
theorem right_impl (n lo : Nat) (pa aa : Option Addr) (pc ac : Nat) (e : ExprD) (w : World) (h : In lo n w pa aa e) :
    Calls Try.prog 38 #[.agg #[.int .i64 e.kind, .int .i64 e.val.kind, .int .i64 e.val.n, .string e.val.text, .slice pa e.addr.path.length pc, .string e.addr.typ, .string e.addr.nam, .int .i64 e.addr.kind, .int .i64 e.addr.n, .string e.addr.key, .string e.prop, .slice aa e.args.length ac]] w (vl.Told w (.bool (exprB 4 e))) := by
  have K := fun (W : World) (hW : Below w.heap.size w W) => Lib.hid (recI_4 n lo pa aa pc ac e W (h.below hW))
  clear h
  go_enter Try.func38, Try.ntmps38
  go_wp2_with fail
  refine (K _ (below_a1 _ _)).out.mono ?_
  rintro _ w1 ⟨rfl, hb⟩
  have E1 := Lib.hid (below_then (below_a1 _ _) hb (Nat.le_refl _))
  clear hb
  go_wp2
  go_ret
  exact ⟨rfl, E1.out⟩
end Go.Proofs.Ytgkcohclejmhkaa.ex
