/- ExprText of the model. -/
import Derived.Test.YtnhoknbofmpdbaaDoorExX
import Derived.Deep.RegionHeld3
namespace Go.Proofs.YtnhoknbofmpdbaaDoor.ex
open ad mem vl dig
open Go.ChangeShapes Go.WideShapes Go.ChangeAt Go.RowKit Go.Lib
set_option linter.unusedVariables false
set_option maxRecDepth 8000
set_option linter.unusedSimpArgs false

theorem l02T (A : Option Addr) (c : Nat) (d : AddrD) (w : World) (h : Strs w A d.path) (hr : addrB d = true) :
    Calls Tryd.prog 54 #[.agg #[.slice A d.path.length c, .string d.typ, .string d.nam, .int .i64 d.kind, .int .i64 d.n, .string d.key]] w (vl.Told w (.string (bs (rawT d)))) := by
  obtain ⟨hp, h1, h2, h3⟩ := txt.addr_parts hr
  obtain ⟨hp1, hp2⟩ := txt.path_words hp
  have z1 := txt.word_size h1
  have z2 := txt.word_size h2
  have h3' := h3
  simp only [keyB, Bool.or_eq_true, Bool.and_eq_true, beq_iff_eq, decide_eq_true_eq] at h3'
  have z3 : d.key.size ≤ 8 := by
    rcases h3' with (⟨⟨k0, k1⟩, k2⟩ | ⟨⟨⟨k0, k1⟩, k2⟩, k3⟩) | ⟨⟨k0, k1⟩, k2⟩
    · omega
    · omega
    · exact txt.word_size k2
  have z4 : d.kind = 1 → 0 ≤ d.n ∧ d.n ≤ 99 := by
    intro e; rcases h3' with (⟨⟨k0, k1⟩, k2⟩ | ⟨⟨⟨k0, k1⟩, k2⟩, k3⟩) | ⟨⟨k0, k1⟩, k2⟩ <;> omega
  exact txt.l02Text_any A c d w h hp1 z1 z2 z3 hp2 z4
def SayS (d : Nat) : Prop := ∀ (n lo : Nat) (pa aa : Option Addr) (pc ac : Nat) (e : ExprD) (w : World), In lo n w pa aa e → exprB d e = true →
    Calls Tryd.prog 47 #[.agg #[.int .i64 e.kind, .int .i64 e.val.kind, .int .i64 e.val.n, .string e.val.text, .slice pa e.addr.path.length pc, .string e.addr.typ, .string e.addr.nam, .int .i64 e.addr.kind, .int .i64 e.addr.n, .string e.addr.key, .string e.prop, .slice aa e.args.length ac]] w (vl.Told w (.string (bs (rawE d e))))

set_option maxHeartbeats 1000000 in
theorem say1 (d n lo : Nat) (pa aa : Option Addr) (pc ac : Nat) (e : ExprD) (w : World) (hk : e.kind = 1) (hv : valB e.val = true) :
    Calls Tryd.prog 47 #[.agg #[.int .i64 e.kind, .int .i64 e.val.kind, .int .i64 e.val.n, .string e.val.text, .slice pa e.addr.path.length pc, .string e.addr.typ, .string e.addr.nam, .int .i64 e.addr.kind, .int .i64 e.addr.n, .string e.addr.key, .string e.prop, .slice aa e.args.length ac]] w (vl.Told w (.string (bs (rawE (d + 1) e)))) := by
  have bq1 : (e.kind == 1) = true := by simp [hk]
  have bq2 : (e.kind == 2) = false := by simp [hk]
  have bq3 : (e.kind == 3) = false := by simp [hk]
  have bq4 : (e.kind == 4) = false := by simp [hk]
  rw [raw1 hk]
  clear hk
  go_enter Tryd.func47, Tryd.ntmps47
  go_wp2_with fail
  refine (l03Text_any e.val _ hv).mono ?_
  rintro _ w1 ⟨rfl, hb⟩
  have E1 := Lib.hid (below_then (below_a1 _ _) hb (Nat.le_refl _))
  clear hb
  go_wp2
  go_ret
  exact ⟨rfl, E1.out⟩
set_option maxHeartbeats 1000000 in
theorem say2 (d n lo : Nat) (pa aa : Option Addr) (pc ac : Nat) (e : ExprD) (w : World) (h : In lo n w pa aa e) (hk : e.kind = 2) (ha : addrB e.addr = true) (hw : wordB e.prop = true) :
    Calls Tryd.prog 47 #[.agg #[.int .i64 e.kind, .int .i64 e.val.kind, .int .i64 e.val.n, .string e.val.text, .slice pa e.addr.path.length pc, .string e.addr.typ, .string e.addr.nam, .int .i64 e.addr.kind, .int .i64 e.addr.n, .string e.addr.key, .string e.prop, .slice aa e.args.length ac]] w (vl.Told w (.string (bs (rawE (d + 1) e)))) := by
  have bq1 : (e.kind == 1) = false := by simp [hk]
  have bq2 : (e.kind == 2) = true := by simp [hk]
  have bq3 : (e.kind == 3) = false := by simp [hk]
  have bq4 : (e.kind == 4) = false := by simp [hk]
  rw [raw2 hk]
  have KT := fun (W : World) (hW : Below w.heap.size w W) => Lib.hid (l02T pa pc e.addr W (h.strs.below hW) ha)
  have hs1 : (bs (rawT e.addr)).size ≤ 1000 := by rw [bs_size]; exact rawT_len ha
  have hs2 := txt.word_size hw
  have z0 : (⟨#[64]⟩ : ByteArray).size = 1 := rfl
  have z3 : (⟨#[58]⟩ : ByteArray).size = 1 := rfl
  have a1 := fun (W : World) => run_string_add_sum (P := Tryd.prog) (w := W) ⟨#[64]⟩ (bs (rawT e.addr)) (by omega)
  have a2 := fun (W : World) => run_string_add_sum (P := Tryd.prog) (w := W) (⟨#[64]⟩ ++ bs (rawT e.addr)) ⟨#[58]⟩ (by rw [ByteArray.size_append]; omega)
  have a3 := fun (W : World) => run_string_add_sum (P := Tryd.prog) (w := W) (⟨#[64]⟩ ++ bs (rawT e.addr) ++ ⟨#[58]⟩) e.prop (by rw [ByteArray.size_append, ByteArray.size_append]; omega)
  clear hk h ha hw z0 z3
  go_enter Tryd.func47, Tryd.ntmps47
  go_wp2_with fail
  go_region_held3 (fun w' => w'.cell? ⟨w.heap.size, 0, none⟩ = some (.int .i64 e.kind) ∧ w'.cell? ⟨w.heap.size, 1, none⟩ = some (.int .i64 e.val.kind) ∧ w'.cell? ⟨w.heap.size, 2, none⟩ = some (.int .i64 e.val.n) ∧ w'.cell? ⟨w.heap.size, 3, none⟩ = some (.string e.val.text) ∧ w'.cell? ⟨w.heap.size, 4, none⟩ = some (.slice pa e.addr.path.length pc) ∧ w'.cell? ⟨w.heap.size, 5, none⟩ = some (.string e.addr.typ) ∧ w'.cell? ⟨w.heap.size, 6, none⟩ = some (.string e.addr.nam) ∧ w'.cell? ⟨w.heap.size, 7, none⟩ = some (.int .i64 e.addr.kind) ∧ w'.cell? ⟨w.heap.size, 8, none⟩ = some (.int .i64 e.addr.n) ∧ w'.cell? ⟨w.heap.size, 9, none⟩ = some (.string e.addr.key) ∧ w'.cell? ⟨w.heap.size, 10, none⟩ = some (.string e.prop) ∧ w'.cell? ⟨w.heap.size, 11, none⟩ = some (.slice aa e.args.length ac)) (go_keep)
    (first
    | (go_at_call 54; refine (KT _ ?_).out.mono ?_; exact below_dn (below_a1 _ _) _; rintro _ w1 ⟨rfl, hb⟩; have hbb := below_then (below_d (w.alloc _) _) hb (Nat.le_refl _); have E1 := Lib.hid (below_then (below_a1 _ _) hbb (Nat.le_refl _)); have q1 := ((Blk.new w _ _).step hbb).cell; clear hb hbb))
  clear KT
  all_goals (try go_wp2)
  go_ret
  refine ⟨ret_str ?_, ?_⟩
  · exact ByteArray.ext (by simp [bs, ByteArray.data_append])
  · repeat (first | exact E1.out | refine below_dn ?_ _ | refine Below.drew ?_)
theorem say3 (d : Nat) (pa aa : Option Addr) (pc ac : Nat) (e : ExprD) (w : World) (hk : e.kind = 3) :
    Calls Tryd.prog 47 #[.agg #[.int .i64 e.kind, .int .i64 e.val.kind, .int .i64 e.val.n, .string e.val.text, .slice pa e.addr.path.length pc, .string e.addr.typ, .string e.addr.nam, .int .i64 e.addr.kind, .int .i64 e.addr.n, .string e.addr.key, .string e.prop, .slice aa e.args.length ac]] w (vl.Told w (.string (bs (rawE (d + 1) e)))) := by
  have bq1 : (e.kind == 1) = false := by simp [hk]
  have bq2 : (e.kind == 2) = false := by simp [hk]
  have bq3 : (e.kind == 3) = true := by simp [hk]
  have bq4 : (e.kind == 4) = false := by simp [hk]
  rw [raw3 hk]
  clear hk
  go_enter Tryd.func47, Tryd.ntmps47
  go_wp2
  go_ret
  exact ⟨rfl, below_a1 _ _⟩
theorem say4 (d : Nat) (pa aa : Option Addr) (pc ac : Nat) (e : ExprD) (w : World) (hk : e.kind = 4) :
    Calls Tryd.prog 47 #[.agg #[.int .i64 e.kind, .int .i64 e.val.kind, .int .i64 e.val.n, .string e.val.text, .slice pa e.addr.path.length pc, .string e.addr.typ, .string e.addr.nam, .int .i64 e.addr.kind, .int .i64 e.addr.n, .string e.addr.key, .string e.prop, .slice aa e.args.length ac]] w (vl.Told w (.string (bs (rawE (d + 1) e)))) := by
  have bq1 : (e.kind == 1) = false := by simp [hk]
  have bq2 : (e.kind == 2) = false := by simp [hk]
  have bq3 : (e.kind == 3) = false := by simp [hk]
  have bq4 : (e.kind == 4) = true := by simp [hk]
  rw [raw4 hk]
  clear hk
  go_enter Tryd.func47, Tryd.ntmps47
  go_wp2
  go_ret
  exact ⟨rfl, below_a1 _ _⟩
set_option maxHeartbeats 4000000 in
theorem say5 (d : Nat) (hd : d ≤ 4) (ih : SayS d) (n lo : Nat) (pa aa : Option Addr) (pc ac : Nat) (e x y : ExprD) (w : World) (h : In lo n w pa aa e) (hk : e.kind = 5) (hl : e.args = [x, y]) (hx : exprB d x = true) (hy : exprB d y = true) :
    Calls Tryd.prog 47 #[.agg #[.int .i64 e.kind, .int .i64 e.val.kind, .int .i64 e.val.n, .string e.val.text, .slice pa e.addr.path.length pc, .string e.addr.typ, .string e.addr.nam, .int .i64 e.addr.kind, .int .i64 e.addr.n, .string e.addr.key, .string e.prop, .slice aa e.args.length ac]] w (vl.Told w (.string (bs (rawE (d + 1) e)))) := by
  have bq1 : (e.kind == 1) = false := by simp [hk]
  have bq2 : (e.kind == 2) = false := by simp [hk]
  have bq3 : (e.kind == 3) = false := by simp [hk]
  have bq4 : (e.kind == 4) = false := by simp [hk]
  rw [raw5 hk hl]
  obtain ⟨m, b, o, qa, qc, qaa, qac, ra, rc, raa, rac, rfl, rfl, hbl, hr, hin, hr', hin'⟩ := two_at h.args hl
  have KX := fun (W : World) (hW : Below w.heap.size w W) => Lib.hid (ih m lo qa qaa qc qac x W (hin.below hW) hx)
  have KY := fun (W : World) (hW : Below w.heap.size w W) => Lib.hid (ih m lo ra raa rc rac y W (hin'.below hW) hy)
  have HR := Lib.hid hr
  have HR' := Lib.hid hr'
  have hlen : e.args.length = 2 := by rw [hl]; rfl
  rw [hlen]
  have zx : (bs (rawE d x)).size ≤ 40000000 := by rw [bs_size]; exact rawE_4 hd hx
  have zy : (bs (rawE d y)).size ≤ 40000000 := by rw [bs_size]; exact rawE_4 hd hy
  have z0 : (⟨#[40]⟩ : ByteArray).size = 1 := rfl
  have z3 : (⟨#[32, 43, 32]⟩ : ByteArray).size = 3 := rfl
  have z4 : (⟨#[41]⟩ : ByteArray).size = 1 := rfl
  have a1 := fun (W : World) => run_string_add_sum (P := Tryd.prog) (w := W) ⟨#[40]⟩ (bs (rawE d x)) (by omega)
  have a2 := fun (W : World) => run_string_add_sum (P := Tryd.prog) (w := W) (⟨#[40]⟩ ++ bs (rawE d x)) ⟨#[32, 43, 32]⟩ (by rw [ByteArray.size_append]; omega)
  have a3 := fun (W : World) => run_string_add_sum (P := Tryd.prog) (w := W) (⟨#[40]⟩ ++ bs (rawE d x) ++ ⟨#[32, 43, 32]⟩) (bs (rawE d y)) (by rw [ByteArray.size_append, ByteArray.size_append]; omega)
  have a4 := fun (W : World) => run_string_add_sum (P := Tryd.prog) (w := W) (⟨#[40]⟩ ++ bs (rawE d x) ++ ⟨#[32, 43, 32]⟩ ++ bs (rawE d y)) ⟨#[41]⟩ (by rw [ByteArray.size_append, ByteArray.size_append, ByteArray.size_append]; omega)
  clear z0 z3 z4
  clear hk h hl hlen ih hin hin' hr hr' hx hy hd
  go_enter Tryd.func47, Tryd.ntmps47
  go_wp2_with fail
  have E0 := Lib.hid (below_a1 w (.cells #[.int .i64 e.kind, .int .i64 e.val.kind, .int .i64 e.val.n, .string e.val.text, .slice pa e.addr.path.length pc, .string e.addr.typ, .string e.addr.nam, .int .i64 e.addr.kind, .int .i64 e.addr.n, .string e.addr.key, .string e.prop, .slice (some ⟨b, o, none⟩) 2 ac] 50))
  have t0 := first12 (range_below HR.out E0.out hbl)
  have s0 := second12 (range_below HR'.out E0.out hbl)
  go_split_ands
  go_region_held3 (fun w' => w'.cell? ⟨w.heap.size, 0, none⟩ = some (.int .i64 e.kind) ∧ w'.cell? ⟨w.heap.size, 1, none⟩ = some (.int .i64 e.val.kind) ∧ w'.cell? ⟨w.heap.size, 2, none⟩ = some (.int .i64 e.val.n) ∧ w'.cell? ⟨w.heap.size, 3, none⟩ = some (.string e.val.text) ∧ w'.cell? ⟨w.heap.size, 4, none⟩ = some (.slice pa e.addr.path.length pc) ∧ w'.cell? ⟨w.heap.size, 5, none⟩ = some (.string e.addr.typ) ∧ w'.cell? ⟨w.heap.size, 6, none⟩ = some (.string e.addr.nam) ∧ w'.cell? ⟨w.heap.size, 7, none⟩ = some (.int .i64 e.addr.kind) ∧ w'.cell? ⟨w.heap.size, 8, none⟩ = some (.int .i64 e.addr.n) ∧ w'.cell? ⟨w.heap.size, 9, none⟩ = some (.string e.addr.key) ∧ w'.cell? ⟨w.heap.size, 10, none⟩ = some (.string e.prop) ∧ w'.cell? ⟨w.heap.size, 11, none⟩ = some (.slice (some ⟨b, o, none⟩) 2 ac) ∧ w'.cell? ⟨b, o, none⟩ = some (.int .i64 x.kind) ∧ w'.cell? ⟨b, o + 1, none⟩ = some (.int .i64 x.val.kind) ∧ w'.cell? ⟨b, o + 2, none⟩ = some (.int .i64 x.val.n) ∧ w'.cell? ⟨b, o + 3, none⟩ = some (.string x.val.text) ∧ w'.cell? ⟨b, o + 4, none⟩ = some (.slice qa x.addr.path.length qc) ∧ w'.cell? ⟨b, o + 5, none⟩ = some (.string x.addr.typ) ∧ w'.cell? ⟨b, o + 6, none⟩ = some (.string x.addr.nam) ∧ w'.cell? ⟨b, o + 7, none⟩ = some (.int .i64 x.addr.kind) ∧ w'.cell? ⟨b, o + 8, none⟩ = some (.int .i64 x.addr.n) ∧ w'.cell? ⟨b, o + 9, none⟩ = some (.string x.addr.key) ∧ w'.cell? ⟨b, o + 10, none⟩ = some (.string x.prop) ∧ w'.cell? ⟨b, o + 11, none⟩ = some (.slice qaa x.args.length qac) ∧ w'.cell? ⟨b, o + 12, none⟩ = some (.int .i64 y.kind) ∧ w'.cell? ⟨b, o + 13, none⟩ = some (.int .i64 y.val.kind) ∧ w'.cell? ⟨b, o + 14, none⟩ = some (.int .i64 y.val.n) ∧ w'.cell? ⟨b, o + 15, none⟩ = some (.string y.val.text) ∧ w'.cell? ⟨b, o + 16, none⟩ = some (.slice ra y.addr.path.length rc) ∧ w'.cell? ⟨b, o + 17, none⟩ = some (.string y.addr.typ) ∧ w'.cell? ⟨b, o + 18, none⟩ = some (.string y.addr.nam) ∧ w'.cell? ⟨b, o + 19, none⟩ = some (.int .i64 y.addr.kind) ∧ w'.cell? ⟨b, o + 20, none⟩ = some (.int .i64 y.addr.n) ∧ w'.cell? ⟨b, o + 21, none⟩ = some (.string y.addr.key) ∧ w'.cell? ⟨b, o + 22, none⟩ = some (.string y.prop) ∧ w'.cell? ⟨b, o + 23, none⟩ = some (.slice raa y.args.length rac)) (go_keep)
    (first
    | (go_at_call 47; (with_reducible refine (KX _ ?_).out.mono ?_); exact below_dn E0.out _; rintro _ w1 ⟨rfl, hb⟩; have hbb := below_then (below_d (w.alloc _) _) hb (Nat.le_refl _); have E1 := Lib.hid (below_then E0.out hbb (Nat.le_refl _)); have B1 := Lib.hid ((Blk.new w _ _).step hbb); have q1 := (B1.out).cell; have t1 := first12 (range_below HR.out E1.out hbl); have s1 := second12 (range_below HR'.out E1.out hbl); clear hb hbb)
    | (go_at_call 47; (with_reducible refine (KY _ E1.out).out.mono ?_); rintro _ w2 ⟨rfl, hb⟩; have E2 := Lib.hid (below_then E1.out hb (Nat.le_refl _)); have B2 := Lib.hid (B1.out.step hb); have q2 := (B2.out).cell; have t2 := first12 (range_below HR.out E2.out hbl); have s2 := second12 (range_below HR'.out E2.out hbl); clear hb))
  clear KX KY
  all_goals (try go_wp2)
  go_ret
  refine ⟨ret_str ?_, ?_⟩
  · exact ByteArray.ext (by simp [bs, ByteArray.data_append])
  · repeat (first | exact E2.out | refine below_dn ?_ _ | refine Below.drew ?_)
theorem sayS_succ {d : Nat} (hd : d ≤ 3) (ih : SayS d) : SayS (d + 1) := fun n lo pa aa pc ac e w h hr => by
  rcases right_parts hr with ⟨k, hv⟩ | ⟨k, ha, hw⟩ | k | k | ⟨k, x, y, hl, hx, hy⟩
  · exact say1 d n lo pa aa pc ac e w k hv
  · exact say2 d n lo pa aa pc ac e w h k ha hw
  · exact say3 d pa aa pc ac e w k
  · exact say4 d pa aa pc ac e w k
  · exact say5 d (by omega) ih n lo pa aa pc ac e x y w h k hl hx hy
theorem sayS_zero : SayS 0 := fun n lo pa aa pc ac e w h hr => by simp [exprB] at hr
theorem sayS_4 : SayS 4 := sayS_succ (by omega) (sayS_succ (by omega) (sayS_succ (by omega) (sayS_succ (by omega) sayS_zero)))
set_option maxHeartbeats 1000000 in
theorem text_spec (n lo : Nat) (pa aa : Option Addr) (pc ac : Nat) (e : ExprD) (w : World) (h : In lo n w pa aa e) :
    Calls Tryd.prog 20 #[.agg #[.int .i64 e.kind, .int .i64 e.val.kind, .int .i64 e.val.n, .string e.val.text, .slice pa e.addr.path.length pc, .string e.addr.typ, .string e.addr.nam, .int .i64 e.addr.kind, .int .i64 e.addr.n, .string e.addr.key, .string e.prop, .slice aa e.args.length ac]] w (vl.Told w (.string (bs (exprT e)))) := by
  cases hr : exprB 4 e
  · have K := fun (W : World) (hW : Below w.heap.size w W) => Lib.hid (hr ▸ right_spec n lo pa aa pc ac e W (h.below hW))
    have e0 : exprT e = [] := by simp [exprT, hr]
    rw [e0]
    clear h hr e0
    go_enter Tryd.func20, Tryd.ntmps20
    go_wp2_with fail
    refine (K _ (below_a1 _ _)).out.mono ?_
    rintro _ w1 ⟨rfl, hb⟩
    have E1 := Lib.hid (below_then (below_a1 _ _) hb (Nat.le_refl _))
    clear hb K
    go_wp2
    go_ret
    exact ⟨rfl, E1.out⟩
  · have K := fun (W : World) (hW : Below w.heap.size w W) => Lib.hid (hr ▸ right_spec n lo pa aa pc ac e W (h.below hW))
    have KS := fun (W : World) (hW : Below w.heap.size w W) => Lib.hid (sayS_4 n lo pa aa pc ac e W (h.below hW) hr)
    have e0 : exprT e = rawE 4 e := by simp [exprT, hr]
    rw [e0]
    clear h hr e0
    go_enter Tryd.func20, Tryd.ntmps20
    go_wp2_with fail
    refine (K _ (below_a1 _ _)).out.mono ?_
    rintro _ w1 ⟨rfl, hb⟩
    have E1 := Lib.hid (below_then (below_a1 _ _) hb (Nat.le_refl _))
    have b1 := ((Blk.new w _ _).step hb).cell
    clear hb K
    go_wp2_with fail
    refine (KS _ E1.out).out.mono ?_
    rintro _ w2 ⟨rfl, hb⟩
    have E2 := Lib.hid (below_then E1.out hb (Nat.le_refl _))
    clear hb KS
    go_wp2
    go_ret
    exact ⟨rfl, E2.out⟩
end Go.Proofs.YtnhoknbofmpdbaaDoor.ex
