/- ExprRight of the model: sums. -/
import Derived.Test.YtgkcohclejmhkaaExRs
namespace Go.Proofs.Ytgkcohclejmhkaa.ex
open ad mem vl
open Go.ChangeShapes Go.WideShapes Go.ChangeAt Go.RowKit Go.Lib
set_option linter.unusedVariables false
set_option maxRecDepth 8000
set_option linter.unusedSimpArgs false

theorem two_at {n lo : Nat} {w : World} {aa : Option Addr} {l : List ExprD} {x y : ExprD} (h : Ar n lo w aa l) (hl : l = [x, y]) :
    ∃ m b o qa qc qaa qac ra rc raa rac, n = m + 1 ∧ aa = some ⟨b, o, none⟩ ∧ b < w.heap.size ∧ w.rangeAt b o (cellsE x qa qc qaa qac) ∧ In lo m w qa qaa x ∧ w.rangeAt b (o + 12) (cellsE y ra rc raa rac) ∧ In lo m w ra raa y := by
  subst hl
  cases n with
  | zero => exact absurd (show [x, y] = [] from h) (by simp)
  | succ m =>
    obtain ⟨b, o, qa, qc, qaa, qac, e1, _, hb, hr, hin⟩ := h.at 0 (by simp)
    obtain ⟨b', o', ra, rc, raa, rac, e2, _, _, hr', hin'⟩ := h.at 1 (by simp)
    rw [e1] at e2
    simp only [Option.some.injEq, Addr.mk.injEq, and_true] at e2
    obtain ⟨rfl, rfl⟩ := e2
    exact ⟨m, b, o, qa, qc, qaa, qac, ra, rc, raa, rac, rfl, e1, hb, by simpa using hr, hin, by simpa using hr', hin'⟩
theorem first12 {w : World} {b o : Nat} {e : ExprD} {pa aa : Option Addr} {pc ac : Nat} (h : w.rangeAt b o (cellsE e pa pc aa ac)) :
    w.cell? ⟨b, o, none⟩ = some (.int .i64 e.kind) ∧ w.cell? ⟨b, o + 1, none⟩ = some (.int .i64 e.val.kind) ∧ w.cell? ⟨b, o + 2, none⟩ = some (.int .i64 e.val.n) ∧ w.cell? ⟨b, o + 3, none⟩ = some (.string e.val.text) ∧ w.cell? ⟨b, o + 4, none⟩ = some (.slice pa e.addr.path.length pc) ∧ w.cell? ⟨b, o + 5, none⟩ = some (.string e.addr.typ) ∧ w.cell? ⟨b, o + 6, none⟩ = some (.string e.addr.nam) ∧ w.cell? ⟨b, o + 7, none⟩ = some (.int .i64 e.addr.kind) ∧ w.cell? ⟨b, o + 8, none⟩ = some (.int .i64 e.addr.n) ∧ w.cell? ⟨b, o + 9, none⟩ = some (.string e.addr.key) ∧ w.cell? ⟨b, o + 10, none⟩ = some (.string e.prop) ∧ w.cell? ⟨b, o + 11, none⟩ = some (.slice aa e.args.length ac) :=
  ⟨h 0 _ rfl, h 1 _ rfl, h 2 _ rfl, h 3 _ rfl, h 4 _ rfl, h 5 _ rfl, h 6 _ rfl, h 7 _ rfl, h 8 _ rfl, h 9 _ rfl, h 10 _ rfl, h 11 _ rfl⟩
theorem second12 {w : World} {b o : Nat} {e : ExprD} {pa aa : Option Addr} {pc ac : Nat} (h : w.rangeAt b (o + 12) (cellsE e pa pc aa ac)) :
    w.cell? ⟨b, o + 12, none⟩ = some (.int .i64 e.kind) ∧ w.cell? ⟨b, o + 13, none⟩ = some (.int .i64 e.val.kind) ∧ w.cell? ⟨b, o + 14, none⟩ = some (.int .i64 e.val.n) ∧ w.cell? ⟨b, o + 15, none⟩ = some (.string e.val.text) ∧ w.cell? ⟨b, o + 16, none⟩ = some (.slice pa e.addr.path.length pc) ∧ w.cell? ⟨b, o + 17, none⟩ = some (.string e.addr.typ) ∧ w.cell? ⟨b, o + 18, none⟩ = some (.string e.addr.nam) ∧ w.cell? ⟨b, o + 19, none⟩ = some (.int .i64 e.addr.kind) ∧ w.cell? ⟨b, o + 20, none⟩ = some (.int .i64 e.addr.n) ∧ w.cell? ⟨b, o + 21, none⟩ = some (.string e.addr.key) ∧ w.cell? ⟨b, o + 22, none⟩ = some (.string e.prop) ∧ w.cell? ⟨b, o + 23, none⟩ = some (.slice aa e.args.length ac) :=
  ⟨h 0 _ rfl, h 1 _ rfl, h 2 _ rfl, h 3 _ rfl, h 4 _ rfl, h 5 _ rfl, h 6 _ rfl, h 7 _ rfl, h 8 _ rfl, h 9 _ rfl, h 10 _ rfl, h 11 _ rfl⟩

set_option maxHeartbeats 2000000 in
theorem specE_k5n (d : Nat) (hd : d ≤ 100) (n lo : Nat) (pa aa : Option Addr) (pc ac : Nat) (e : ExprD) (w : World) (h : In lo n w pa aa e) (hk : e.kind = 5) (hl : e.args.length ≠ 2) :
    Calls Try.prog 78 #[.agg #[.int .i64 e.kind, .int .i64 e.val.kind, .int .i64 e.val.n, .string e.val.text, .slice pa e.addr.path.length pc, .string e.addr.typ, .string e.addr.nam, .int .i64 e.addr.kind, .int .i64 e.addr.n, .string e.addr.key, .string e.prop, .slice aa e.args.length ac], .int .i64 (d + 1 : Int)] w (vl.Told w (.bool (exprB (d + 1) e))) := by
  have ht : two (exprB d) e.args = false := by
    match hm : e.args with
    | [] => rfl
    | [_] => rfl
    | [_, _] => rw [hm] at hl; simp at hl
    | _ :: _ :: _ :: _ => rfl
  have hlb : ((e.args.length : Int) == 2) = false := by simp; omega
  have HI := Lib.hid h
  have KN := fun (W : World) (hW : Below w.heap.size w W) => Lib.hid (noAddr_any pa pc e.addr W (HI.out.strs.below hW) HI.out.sz.path)
  have hz : ((d : Int) + 1 == 0) = false := by simp; omega
  have bq1 : (e.kind == 1) = false := by simp [hk]
  have bn1 : (e.kind != 1) = true := by simp [hk]
  have bq2 : (e.kind == 2) = false := by simp [hk]
  have bn2 : (e.kind != 2) = true := by simp [hk]
  have bq3 : (e.kind == 3) = false := by simp [hk]
  have bn3 : (e.kind != 3) = true := by simp [hk]
  have bq4 : (e.kind == 4) = false := by simp [hk]
  have bn4 : (e.kind != 4) = true := by simp [hk]
  have bq5 : (e.kind == 5) = true := by simp [hk]
  have bn5 : (e.kind != 5) = false := by simp [hk]
  have HT := Lib.hid ht
  have HK := Lib.hid hk
  clear hk h hl ht
  go_enter Try.func78, Try.ntmps78
  go_wp2_with (go_at_call 112; refine (KN _ (below_a1 _ _)).out.mono ?_; rintro _ w1 ⟨rfl, hb⟩; have E1 := Lib.hid (below_then (below_a1 _ _) hb (Nat.le_refl _)); have B1 := Lib.hid ((Blk.new w _ _).step hb); have q1 := B1.out.cell; clear hb)
  all_goals have ht := HT.out
  all_goals go_ret
  all_goals refine ⟨ret_bool ?_, by first | exact E3.out | exact E2.out | exact E1.out | exact below_a1 _ _⟩
  all_goals clear HI KN
  all_goals (try simp only [tl_empty, tl_nil] at *)
  all_goals (simp_all [exprB, val0, len_empty, two])

set_option maxHeartbeats 4000000 in
theorem specE_k5y (d : Nat) (hd : d ≤ 100) (ih : RecS d) (n lo : Nat) (pa aa : Option Addr) (pc ac : Nat) (e x y : ExprD) (w : World) (h : In lo n w pa aa e) (hk : e.kind = 5) (hl : e.args = [x, y]) :
    Calls Try.prog 78 #[.agg #[.int .i64 e.kind, .int .i64 e.val.kind, .int .i64 e.val.n, .string e.val.text, .slice pa e.addr.path.length pc, .string e.addr.typ, .string e.addr.nam, .int .i64 e.addr.kind, .int .i64 e.addr.n, .string e.addr.key, .string e.prop, .slice aa e.args.length ac], .int .i64 (d + 1 : Int)] w (vl.Told w (.bool (exprB (d + 1) e))) := by
  have HI := Lib.hid h
  have KN := fun (W : World) (hW : Below w.heap.size w W) => Lib.hid (noAddr_any pa pc e.addr W (HI.out.strs.below hW) HI.out.sz.path)
  have hz : ((d : Int) + 1 == 0) = false := by simp; omega
  have bq1 : (e.kind == 1) = false := by simp [hk]
  have bn1 : (e.kind != 1) = true := by simp [hk]
  have bq2 : (e.kind == 2) = false := by simp [hk]
  have bn2 : (e.kind != 2) = true := by simp [hk]
  have bq3 : (e.kind == 3) = false := by simp [hk]
  have bn3 : (e.kind != 3) = true := by simp [hk]
  have bq4 : (e.kind == 4) = false := by simp [hk]
  have bn4 : (e.kind != 4) = true := by simp [hk]
  have bq5 : (e.kind == 5) = true := by simp [hk]
  have bn5 : (e.kind != 5) = false := by simp [hk]
  obtain ⟨m, b, o, qa, qc, qaa, qac, ra, rc, raa, rac, rfl, rfl, hbl, hr, hin, hr', hin'⟩ := two_at h.args hl
  have KX := fun (W : World) (hW : Below w.heap.size w W) => Lib.hid (ih m lo qa qaa qc qac x W (hin.below hW))
  have KY := fun (W : World) (hW : Below w.heap.size w W) => Lib.hid (ih m lo ra raa rc rac y W (hin'.below hW))
  have HR := Lib.hid hr
  have HR' := Lib.hid hr'
  have hlen : e.args.length = 2 := by rw [hl]; rfl
  have HL := Lib.hid hl
  have HK := Lib.hid hk
  obtain ⟨r0, r1, r2, r3, r4, r5, r6, r7, r8, r9, r10, r11⟩ := first12 (range_below hr (below_a1 w (.cells #[.int .i64 e.kind, .int .i64 e.val.kind, .int .i64 e.val.n, .string e.val.text, .slice pa e.addr.path.length pc, .string e.addr.typ, .string e.addr.nam, .int .i64 e.addr.kind, .int .i64 e.addr.n, .string e.addr.key, .string e.prop, .slice (some ⟨b, o, none⟩) 2 ac] 37)) hbl)
  rw [hlen]
  clear hk h hl hlen ih hin hin' hr hr' r0 r1 r2 r3 r4 r5 r6 r7 r8 r9 r10 r11
  go_enter Try.func78, Try.ntmps78
  go_wp2_with (first
    | (go_at_call 112; refine (KN _ (below_a1 _ _)).out.mono ?_; rintro _ w1 ⟨rfl, hb⟩; have E1 := Lib.hid (below_then (below_a1 _ _) hb (Nat.le_refl _)); have B1 := Lib.hid ((Blk.new w _ _).step hb); have q1 := B1.out.cell; obtain ⟨t0, t1, t2, t3, t4, t5, t6, t7, t8, t9, t10, t11⟩ := first12 (range_below HR.out E1.out hbl); clear hb)
    | (go_at_call 78; (with_reducible refine (KX _ E1.out).out.mono ?_); rintro _ w2 ⟨rfl, hb⟩; have E2 := Lib.hid (below_then E1.out hb (Nat.le_refl _)); have B2 := Lib.hid (B1.out.step hb); have q2 := B2.out.cell; obtain ⟨s0, s1, s2, s3, s4, s5, s6, s7, s8, s9, s10, s11⟩ := second12 (range_below HR'.out E2.out hbl); clear hb)
    | (go_at_call 78; (with_reducible refine (KY _ E2.out).out.mono ?_); rintro _ w3 ⟨rfl, hb⟩; have E3 := Lib.hid (below_then E2.out hb (Nat.le_refl _)); clear hb))
  all_goals have hl := HL.out
  all_goals go_ret
  all_goals refine ⟨ret_bool ?_, by first | exact E3.out | exact E2.out | exact E1.out | exact below_a1 _ _⟩
  all_goals clear HI KN KX KY
  all_goals (try simp only [tl_empty, tl_nil] at *)
  all_goals (simp_all [exprB, val0, len_empty, two])

theorem recS_succ {d : Nat} (hd : d ≤ 100) (ih : RecS d) : RecS (d + 1) := fun n lo pa aa pc ac e w h => by
  have e1 : (((d + 1 : Nat) : Int)) = (d : Int) + 1 := by omega
  rw [e1]
  by_cases h1 : e.kind = 1
  · exact specE_k1 d hd n lo pa aa pc ac e w h h1
  by_cases h2 : e.kind = 2
  · exact specE_k2 d hd n lo pa aa pc ac e w h h2
  by_cases h3 : e.kind = 3
  · exact specE_k3 d hd n lo pa aa pc ac e w h h3
  by_cases h4 : e.kind = 4
  · exact specE_k4 d hd n lo pa aa pc ac e w h h4
  by_cases h5 : e.kind = 5
  · by_cases hl : e.args.length = 2
    · obtain ⟨x, y, hxy⟩ : ∃ x y, e.args = [x, y] := by
        match hm : e.args, hl with
        | [x, y], _ => exact ⟨x, y, rfl⟩
      exact specE_k5y d hd ih n lo pa aa pc ac e x y w h h5 hxy
    · exact specE_k5n d hd n lo pa aa pc ac e w h h5 hl
  · exact specE_kx d hd n lo pa aa pc ac e w h h1 h2 h3 h4 h5
theorem recS_4 : RecS 4 := recS_succ (by omega) (recS_succ (by omega) (recS_succ (by omega) (recS_succ (by omega) recS_zero)))
set_option maxHeartbeats 400000 in
theorem right_spec (n lo : Nat) (pa aa : Option Addr) (pc ac : Nat) (e : ExprD) (w : World) (h : In lo n w pa aa e) :
    Calls Try.prog 33 #[.agg #[.int .i64 e.kind, .int .i64 e.val.kind, .int .i64 e.val.n, .string e.val.text, .slice pa e.addr.path.length pc, .string e.addr.typ, .string e.addr.nam, .int .i64 e.addr.kind, .int .i64 e.addr.n, .string e.addr.key, .string e.prop, .slice aa e.args.length ac]] w (vl.Told w (.bool (exprB 4 e))) := by
  have K := fun (W : World) (hW : Below w.heap.size w W) => Lib.hid (recS_4 n lo pa aa pc ac e W (h.below hW))
  clear h
  go_enter Try.func33, Try.ntmps33
  go_wp2_with fail
  refine (K _ (below_a1 _ _)).out.mono ?_
  rintro _ w1 ⟨rfl, hb⟩
  have E1 := Lib.hid (below_then (below_a1 _ _) hb (Nat.le_refl _))
  clear hb
  go_wp2
  go_ret
  exact ⟨rfl, E1.out⟩
end Go.Proofs.Ytgkcohclejmhkaa.ex
