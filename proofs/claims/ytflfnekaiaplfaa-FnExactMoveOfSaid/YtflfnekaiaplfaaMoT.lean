/- Where a move of the model puts the instances of a name. -/
import Derived.Test.YtflfnekaiaplfaaMoR
namespace Go.Proofs.Ytflfnekaiaplfaa.cf
open ad mem vl ex un
open Go.ChangeShapes Go.WideShapes Go.ChangeAt Go.RowKit Go.Lib
set_option linter.unusedVariables false
set_option maxRecDepth 8000
set_option linter.unusedSimpArgs false

set_option maxHeartbeats 8000000 in
theorem of2 (M : MoveD) (D : AddrD) (A1 A7 A : Option Addr) (c1 c7 c : Nat) (w : World) (h1 : Strs w A1 M.src.path) (h7 : Strs w A7 M.dst.path) (h : Strs w A D.path) (hM : MvOk M) (hD : addrB D = true) (z1 : Sz M.src) (z7 : Sz M.dst) (zD : Sz D) (l1 : M.src.path.length ≤ 1000000) (l7 : M.dst.path.length ≤ 1000000) (l0 : D.path.length ≤ 1000000) (hr : D.path.length ≤ c ∧ c ≤ maxLen ∧ ((∃ b o, A = some ⟨b, o, none⟩) ∨ (A = none ∧ c = 0))) (k : M.kind = 2) :
    Calls Try.prog 23 #[.agg #[.int .i64 M.kind, .slice A1 M.src.path.length c1, .string M.src.typ, .string M.src.nam, .int .i64 M.src.kind, .int .i64 M.src.n, .string M.src.key, .slice A7 M.dst.path.length c7, .string M.dst.typ, .string M.dst.nam, .int .i64 M.dst.kind, .int .i64 M.dst.n, .string M.dst.key], .agg #[.slice A D.path.length c, .string D.typ, .string D.nam, .int .i64 D.kind, .int .i64 D.n, .string D.key]] w (OfO w (goesTo M D) (goesB M D)) := by
  have e1 : goesTo M D = ⟨M.dst.path, M.dst.typ, M.dst.nam, D.kind, D.n, D.key⟩ := by simp [goesTo, k]
  obtain ⟨r, e2⟩ : ∃ r, goesB M D = r := ⟨_, rfl⟩
  have hq : adl.eqA M.src (kBare D) = r := by rw [← e2]; simp [goesB, k]
  rw [e1, e2, k]
  have K1 := Lib.hid (fun (W : World) (hb : Below w.heap.size w W) => l02Copy_any A7 c7 M.dst W (h7.below hb) l7)
  have K2 := Lib.hid (fun (W : World) (hb : Below w.heap.size w W) => bare.l02Bare_any A c D W (h.below hb) l0)
  have K3 := Lib.hid (fun (A9 : Option Addr) (c9 : Nat) (W : World) (hb : Below w.heap.size w W) (s : Strs W A9 D.path) => hq ▸ cm.same_spec A1 A9 c1 c9 M.src (kBare D) W (h1.below hb) s (by unfold maxLen; omega) (show D.path.length ≤ maxLen by unfold maxLen; omega))
  have ZP := Lib.hid zD.path
  clear e1 e2 hq h1 h7 h hM hD z1 z7 zD l1 l7 l0 hr
  go_enter Try.func23, Try.ntmps23
  go_wp2_with fail
  have E0 := Lib.hid (below_a3 w (.cells #[.int .i64 2, .slice A1 M.src.path.length c1, .string M.src.typ, .string M.src.nam, .int .i64 M.src.kind, .int .i64 M.src.n, .string M.src.key, .slice A7 M.dst.path.length c7, .string M.dst.typ, .string M.dst.nam, .int .i64 M.dst.kind, .int .i64 M.dst.n, .string M.dst.key] 34) (.cells #[.slice A D.path.length c, .string D.typ, .string D.nam, .int .i64 D.kind, .int .i64 D.n, .string D.key] 29) (.cells #[.slice none 0 0, .string ⟨#[]⟩, .string ⟨#[]⟩, .int .i64 0, .int .i64 0, .string ⟨#[]⟩] 29))
  have P0 := Lib.hid (Blk.new2 w (.cells #[.int .i64 2, .slice A1 M.src.path.length c1, .string M.src.typ, .string M.src.nam, .int .i64 M.src.kind, .int .i64 M.src.n, .string M.src.key, .slice A7 M.dst.path.length c7, .string M.dst.typ, .string M.dst.nam, .int .i64 M.dst.kind, .int .i64 M.dst.n, .string M.dst.key] 34) (.cells #[.slice A D.path.length c, .string D.typ, .string D.nam, .int .i64 D.kind, .int .i64 D.n, .string D.key] 29) 29 #[.slice none 0 0, .string ⟨#[]⟩, .string ⟨#[]⟩, .int .i64 0, .int .i64 0, .string ⟨#[]⟩])
  have BA := (Blk.new w 34 #[.int .i64 2, .slice A1 M.src.path.length c1, .string M.src.typ, .string M.src.nam, .int .i64 M.src.kind, .int .i64 M.src.n, .string M.src.key, .slice A7 M.dst.path.length c7, .string M.dst.typ, .string M.dst.nam, .int .i64 M.dst.kind, .int .i64 M.dst.n, .string M.dst.key]).alloc (.cells #[.slice A D.path.length c, .string D.typ, .string D.nam, .int .i64 D.kind, .int .i64 D.n, .string D.key] 29) |>.alloc (.cells #[.slice none 0 0, .string ⟨#[]⟩, .string ⟨#[]⟩, .int .i64 0, .int .i64 0, .string ⟨#[]⟩] 29)
  have BB := (Blk.new1 w (.cells #[.int .i64 2, .slice A1 M.src.path.length c1, .string M.src.typ, .string M.src.nam, .int .i64 M.src.kind, .int .i64 M.src.n, .string M.src.key, .slice A7 M.dst.path.length c7, .string M.dst.typ, .string M.dst.nam, .int .i64 M.dst.kind, .int .i64 M.dst.n, .string M.dst.key] 34) 29 #[.slice A D.path.length c, .string D.typ, .string D.nam, .int .i64 D.kind, .int .i64 D.n, .string D.key]).alloc (.cells #[.slice none 0 0, .string ⟨#[]⟩, .string ⟨#[]⟩, .int .i64 0, .int .i64 0, .string ⟨#[]⟩] 29)
  refine (K1.out _ E0.out).mono ?_
  rintro _ w1 ⟨B, cp, rfl, ho, hb⟩
  have E1 := Lib.hid (below_then E0.out hb (Nat.le_refl _))
  have P1 := Lib.hid (P0.out.step hb)
  have BA1 := Lib.hid (BA.step hb)
  have BB1 := Lib.hid (BB.step hb)
  have O1 : Hid (own.Own w1 (w.heap.size + 1 + 1 + 1) (.slice B M.dst.path.length cp) M.dst.path) := own.Own.mono ho (by simp)
  have ra1 := BA1.out.cell
  have rb1 := BB1.out.cell
  have la1 := BA1.out.lt
  have lb1 := BB1.out.lt
  have lp1 := P1.out.lt
  clear hb ho BA BB E0 P0
  go_wp2_with fail
  have E3 := Lib.hid (below_da E1.out (Nat.le_refl _) (.cells #[.slice B M.dst.path.length cp, .string M.dst.typ, .string M.dst.nam, .int .i64 D.kind, .int .i64 D.n, .string D.key] 29))
  have P3 := Lib.hid (P1.out.alloc (.cells #[.slice B M.dst.path.length cp, .string M.dst.typ, .string M.dst.nam, .int .i64 D.kind, .int .i64 D.n, .string D.key] 29))
  have BA3 := Lib.hid (BA1.out.alloc (.cells #[.slice B M.dst.path.length cp, .string M.dst.typ, .string M.dst.nam, .int .i64 D.kind, .int .i64 D.n, .string D.key] 29))
  have BB3 := Lib.hid (BB1.out.alloc (.cells #[.slice B M.dst.path.length cp, .string M.dst.typ, .string M.dst.nam, .int .i64 D.kind, .int .i64 D.n, .string D.key] 29))
  have O3 := Lib.hid (O1.out.alloc (.cells #[.slice B M.dst.path.length cp, .string M.dst.typ, .string M.dst.nam, .int .i64 D.kind, .int .i64 D.n, .string D.key] 29))
  have BO3 := Lib.hid (Blk.new w1 29 #[.slice B M.dst.path.length cp, .string M.dst.typ, .string M.dst.nam, .int .i64 D.kind, .int .i64 D.n, .string D.key])
  generalize hW : World.alloc _ _ = w3 at E3 P3 BA3 BB3 O3 BO3 ⊢
  have ra3 := BA3.out.cell
  have rb3 := BB3.out.cell
  have ro3 := BO3.out.cell
  have la3 := BA3.out.lt
  have lb3 := BB3.out.lt
  have lo3 := BO3.out.lt
  have u1 : ¬ w.heap.size = w.heap.size + 1 + 1 := by omega
  have u2 : ¬ w.heap.size + 1 + 1 = w.heap.size := by omega
  have u3 : ¬ w1.heap.size = w.heap.size + 1 + 1 := by omega
  have u4 : ¬ w.heap.size + 1 + 1 = w1.heap.size := by omega
  clear hW ra1 rb1 la1 lb1
  go_region_held3 (fun w' => w'.cell? ⟨w.heap.size, 1, none⟩ = some (.slice A1 M.src.path.length c1) ∧ w'.cell? ⟨w.heap.size, 2, none⟩ = some (.string M.src.typ) ∧ w'.cell? ⟨w.heap.size, 3, none⟩ = some (.string M.src.nam) ∧ w'.cell? ⟨w.heap.size, 4, none⟩ = some (.int .i64 M.src.kind) ∧ w'.cell? ⟨w.heap.size, 5, none⟩ = some (.int .i64 M.src.n) ∧ w'.cell? ⟨w.heap.size, 6, none⟩ = some (.string M.src.key) ∧ w'.cell? ⟨w.heap.size + 1, 0, none⟩ = some (.slice A D.path.length c) ∧ w'.cell? ⟨w.heap.size + 1, 1, none⟩ = some (.string D.typ) ∧ w'.cell? ⟨w.heap.size + 1, 2, none⟩ = some (.string D.nam) ∧ w'.cell? ⟨w.heap.size + 1, 3, none⟩ = some (.int .i64 D.kind) ∧ w'.cell? ⟨w.heap.size + 1, 4, none⟩ = some (.int .i64 D.n) ∧ w'.cell? ⟨w.heap.size + 1, 5, none⟩ = some (.string D.key) ∧ w'.cell? ⟨w1.heap.size, 0, none⟩ = some (.slice B M.dst.path.length cp) ∧ w'.cell? ⟨w1.heap.size, 1, none⟩ = some (.string M.dst.typ) ∧ w'.cell? ⟨w1.heap.size, 2, none⟩ = some (.string M.dst.nam) ∧ w'.cell? ⟨w1.heap.size, 3, none⟩ = some (.int .i64 D.kind) ∧ w'.cell? ⟨w1.heap.size, 4, none⟩ = some (.int .i64 D.n) ∧ w'.cell? ⟨w1.heap.size, 5, none⟩ = some (.string D.key)) (go_keep)
    (first
    | (go_at_call 39; refine (K2.out _ ?_).mono ?_; exact below_dn E3.out _; rintro _ w4 ⟨A9, c9, rfl, ho, hb⟩; have S9 := Lib.hid (Gd.ofStrs (own.Own.strs (c := c9) ho ZP.out)); have hbb := below_then (below_d w3 _) hb (Nat.le_refl _); have E4 := Lib.hid (below_then E3.out hbb (Nat.le_refl _)); have P4 := Lib.hid (P3.out.step hbb); have BO4 := Lib.hid (BO3.out.step hbb); have ra4 := (BA3.out.step hbb).cell; have rb4 := (BB3.out.step hbb).cell; have ro4 := BO4.out.cell; have O4 := Lib.hid (O3.out.step hbb); clear hb hbb ho)
    | (go_at_call 33; refine (K3.out A9 c9 _ E4.out S9.out.now).mono ?_; rintro _ w5 ⟨rfl, hb⟩; have E5 := Lib.hid (below_then E4.out hb (Nat.le_refl _)); have P5 := Lib.hid (P4.out.step hb); have p5 := P5.out.cell; have g5 := P5.out.free; have z5 := P5.out.lt; have O5 := Lib.hid (O4.out.step hb); have ra5 : ∀ o, w5.cell? ⟨w.heap.size, o, none⟩ = w4.cell? ⟨w.heap.size, o, none⟩ := (fun o => hb.cell (p := ⟨w.heap.size, o, none⟩) (show w.heap.size < w4.heap.size by (have := (P4.out).lt; have := BO4.out.lt; omega))); have rb5 : ∀ o, w5.cell? ⟨w.heap.size + 1, o, none⟩ = w4.cell? ⟨w.heap.size + 1, o, none⟩ := (fun o => hb.cell (p := ⟨w.heap.size + 1, o, none⟩) (show w.heap.size + 1 < w4.heap.size by (have := (P4.out).lt; have := BO4.out.lt; omega))); have ro5 : ∀ o, w5.cell? ⟨w1.heap.size, o, none⟩ = w4.cell? ⟨w1.heap.size, o, none⟩ := (fun o => hb.cell (p := ⟨w1.heap.size, o, none⟩) (show w1.heap.size < w4.heap.size by (have := (P4.out).lt; have := BO4.out.lt; omega))); clear hb))
  go_wp2
  refine ret6 P5.out (u := .tuple #[.agg #[.slice B M.dst.path.length cp, .string M.dst.typ, .string M.dst.nam, .int .i64 D.kind, .int .i64 D.n, .string D.key], .bool r]) ?_ ?_ ?_
  · intro W hW; have p9 := hW.cell; have f9 := hW.free; simp [results, Try.results23, go_sem, p9, f9]
  · rfl
  refine ⟨B, cp, rfl, ?_, ?_⟩
  · refine own.Own.mono (base := w.heap.size + 1 + 1 + 1) ?_ (by omega)
    iterate 6 refine own.Own.far ?_ (by simp <;> omega) _
    exact O5.out
  · repeat (refine Below.setCell ?_ (by simp <;> omega) _)
    exact E5.out
end Go.Proofs.Ytflfnekaiaplfaa.cf
