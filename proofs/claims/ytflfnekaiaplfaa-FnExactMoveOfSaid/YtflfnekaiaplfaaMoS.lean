/- Where a move of the model puts an address. -/
import Derived.Test.YtflfnekaiaplfaaMoP
import Derived.Test.YtflfnekaiaplfaaRehS
import Derived.Deep.RegionHeld3
namespace Go.Proofs.Ytflfnekaiaplfaa.cf
open ad mem vl ex un
open Go.ChangeShapes Go.WideShapes Go.ChangeAt Go.RowKit Go.Lib
set_option linter.unusedVariables false
set_option maxRecDepth 8000
set_option linter.unusedSimpArgs false

/-- where a move puts an address, and whether it does. -/
def OfO (w : World) (G : AddrD) (r : Bool) (e : Ending) (w' : World) : Prop := ∃ A c, e = .returned (.tuple #[.agg #[.slice A G.path.length c, .string G.typ, .string G.nam, .int .i64 G.kind, .int .i64 G.n, .string G.key], .bool r]) ∧ own.Own w' w.heap.size (.slice A G.path.length c) G.path ∧ Below w.heap.size w w'
set_option maxHeartbeats 4000000 in
theorem of1 (M : MoveD) (D : AddrD) (A1 A7 A : Option Addr) (c1 c7 c : Nat) (w : World) (h1 : Strs w A1 M.src.path) (h7 : Strs w A7 M.dst.path) (h : Strs w A D.path) (hM : MvOk M) (hD : addrB D = true) (z1 : Sz M.src) (z7 : Sz M.dst) (zD : Sz D) (l1 : M.src.path.length ≤ 1000000) (l7 : M.dst.path.length ≤ 1000000) (l0 : D.path.length ≤ 1000000) (hr : D.path.length ≤ c ∧ c ≤ maxLen ∧ ((∃ b o, A = some ⟨b, o, none⟩) ∨ (A = none ∧ c = 0))) (k : M.kind = 1) :
    Calls Try.prog 23 #[.agg #[.int .i64 M.kind, .slice A1 M.src.path.length c1, .string M.src.typ, .string M.src.nam, .int .i64 M.src.kind, .int .i64 M.src.n, .string M.src.key, .slice A7 M.dst.path.length c7, .string M.dst.typ, .string M.dst.nam, .int .i64 M.dst.kind, .int .i64 M.dst.n, .string M.dst.key], .agg #[.slice A D.path.length c, .string D.typ, .string D.nam, .int .i64 D.kind, .int .i64 D.n, .string D.key]] w (OfO w (goesTo M D) (goesB M D)) := by
  have e1 : goesTo M D = M.dst := by simp [goesTo, k]
  obtain ⟨r, e2⟩ : ∃ r, goesB M D = r := ⟨_, rfl⟩
  have hq : adl.eqA M.src D = r := by rw [← e2]; simp [goesB, k]
  rw [e1, e2, k]
  have K1 := Lib.hid (fun (W : World) (hb : Below w.heap.size w W) => l02Copy_any A7 c7 M.dst W (h7.below hb) l7)
  have K2 := Lib.hid (fun (W : World) (hb : Below w.heap.size w W) => hq ▸ cm.same_spec A1 A c1 c M.src D W (h1.below hb) (h.below hb) (by unfold maxLen; omega) (by unfold maxLen; omega))
  clear e1 e2 hq h1 h7 h hM hD z1 z7 zD l1 l7 l0 hr
  go_enter Try.func23, Try.ntmps23
  go_wp2_with fail
  have E0 := Lib.hid (below_a3 w (.cells #[.int .i64 1, .slice A1 M.src.path.length c1, .string M.src.typ, .string M.src.nam, .int .i64 M.src.kind, .int .i64 M.src.n, .string M.src.key, .slice A7 M.dst.path.length c7, .string M.dst.typ, .string M.dst.nam, .int .i64 M.dst.kind, .int .i64 M.dst.n, .string M.dst.key] 34) (.cells #[.slice A D.path.length c, .string D.typ, .string D.nam, .int .i64 D.kind, .int .i64 D.n, .string D.key] 29) (.cells #[.slice none 0 0, .string ⟨#[]⟩, .string ⟨#[]⟩, .int .i64 0, .int .i64 0, .string ⟨#[]⟩] 29))
  have P0 := Lib.hid (Blk.new2 w (.cells #[.int .i64 1, .slice A1 M.src.path.length c1, .string M.src.typ, .string M.src.nam, .int .i64 M.src.kind, .int .i64 M.src.n, .string M.src.key, .slice A7 M.dst.path.length c7, .string M.dst.typ, .string M.dst.nam, .int .i64 M.dst.kind, .int .i64 M.dst.n, .string M.dst.key] 34) (.cells #[.slice A D.path.length c, .string D.typ, .string D.nam, .int .i64 D.kind, .int .i64 D.n, .string D.key] 29) 29 #[.slice none 0 0, .string ⟨#[]⟩, .string ⟨#[]⟩, .int .i64 0, .int .i64 0, .string ⟨#[]⟩])
  have BA := (Blk.new w 34 #[.int .i64 1, .slice A1 M.src.path.length c1, .string M.src.typ, .string M.src.nam, .int .i64 M.src.kind, .int .i64 M.src.n, .string M.src.key, .slice A7 M.dst.path.length c7, .string M.dst.typ, .string M.dst.nam, .int .i64 M.dst.kind, .int .i64 M.dst.n, .string M.dst.key]).alloc (.cells #[.slice A D.path.length c, .string D.typ, .string D.nam, .int .i64 D.kind, .int .i64 D.n, .string D.key] 29) |>.alloc (.cells #[.slice none 0 0, .string ⟨#[]⟩, .string ⟨#[]⟩, .int .i64 0, .int .i64 0, .string ⟨#[]⟩] 29)
  have BB := (Blk.new1 w (.cells #[.int .i64 1, .slice A1 M.src.path.length c1, .string M.src.typ, .string M.src.nam, .int .i64 M.src.kind, .int .i64 M.src.n, .string M.src.key, .slice A7 M.dst.path.length c7, .string M.dst.typ, .string M.dst.nam, .int .i64 M.dst.kind, .int .i64 M.dst.n, .string M.dst.key] 34) 29 #[.slice A D.path.length c, .string D.typ, .string D.nam, .int .i64 D.kind, .int .i64 D.n, .string D.key]).alloc (.cells #[.slice none 0 0, .string ⟨#[]⟩, .string ⟨#[]⟩, .int .i64 0, .int .i64 0, .string ⟨#[]⟩] 29)
  generalize hW : World.alloc _ _ = w0 at *
  have ra := BA.cell
  have rb := BB.cell
  have la := BA.lt
  have lb := BB.lt
  have u1 : ¬ w.heap.size = w.heap.size + 1 + 1 := by omega
  have u2 : ¬ w.heap.size + 1 + 1 = w.heap.size := by omega
  clear hW
  go_region_held3 (fun w' => w'.cell? ⟨w.heap.size, 1, none⟩ = some (.slice A1 M.src.path.length c1) ∧ w'.cell? ⟨w.heap.size, 2, none⟩ = some (.string M.src.typ) ∧ w'.cell? ⟨w.heap.size, 3, none⟩ = some (.string M.src.nam) ∧ w'.cell? ⟨w.heap.size, 4, none⟩ = some (.int .i64 M.src.kind) ∧ w'.cell? ⟨w.heap.size, 5, none⟩ = some (.int .i64 M.src.n) ∧ w'.cell? ⟨w.heap.size, 6, none⟩ = some (.string M.src.key) ∧ w'.cell? ⟨w.heap.size, 7, none⟩ = some (.slice A7 M.dst.path.length c7) ∧ w'.cell? ⟨w.heap.size, 8, none⟩ = some (.string M.dst.typ) ∧ w'.cell? ⟨w.heap.size, 9, none⟩ = some (.string M.dst.nam) ∧ w'.cell? ⟨w.heap.size, 10, none⟩ = some (.int .i64 M.dst.kind) ∧ w'.cell? ⟨w.heap.size, 11, none⟩ = some (.int .i64 M.dst.n) ∧ w'.cell? ⟨w.heap.size, 12, none⟩ = some (.string M.dst.key) ∧ w'.cell? ⟨w.heap.size + 1, 0, none⟩ = some (.slice A D.path.length c) ∧ w'.cell? ⟨w.heap.size + 1, 1, none⟩ = some (.string D.typ) ∧ w'.cell? ⟨w.heap.size + 1, 2, none⟩ = some (.string D.nam) ∧ w'.cell? ⟨w.heap.size + 1, 3, none⟩ = some (.int .i64 D.kind) ∧ w'.cell? ⟨w.heap.size + 1, 4, none⟩ = some (.int .i64 D.n) ∧ w'.cell? ⟨w.heap.size + 1, 5, none⟩ = some (.string D.key)) (go_keep)
    (first
    | (go_at_call 38; refine (K1.out _ ?_).mono ?_; exact below_dn E0.out _; rintro _ w1 ⟨A9, c9, rfl, ho, hb⟩; have hbb := below_then (below_d w0 _) hb (Nat.le_refl _); have E1 := Lib.hid (below_then E0.out hbb (Nat.le_refl _)); have P1 := Lib.hid (P0.out.step hbb); have ra1 := (BA.step hbb).cell; have rb1 := (BB.step hbb).cell; have O1 := Lib.hid (own.Own.mono ho (show w.heap.size + 1 + 1 + 1 ≤ w0.heap.size from P0.out.lt)); clear hb hbb ho)
    | (go_at_call 33; refine (K2.out _ E1.out).mono ?_; rintro _ w2 ⟨rfl, hb⟩; have E2 := Lib.hid (below_then E1.out hb (Nat.le_refl _)); have P2 := Lib.hid (P1.out.step hb); have p2 := P2.out.cell; have g2 := P2.out.free; have z2 := P2.out.lt; have O2 := Lib.hid (O1.out.step hb); have ra2 : ∀ o, w2.cell? ⟨w.heap.size, o, none⟩ = w1.cell? ⟨w.heap.size, o, none⟩ := (fun o => hb.cell (p := ⟨w.heap.size, o, none⟩) (show w.heap.size < _ by have := (P1.out).lt; omega)); have rb2 : ∀ o, w2.cell? ⟨w.heap.size + 1, o, none⟩ = w1.cell? ⟨w.heap.size + 1, o, none⟩ := (fun o => hb.cell (p := ⟨w.heap.size + 1, o, none⟩) (show w.heap.size + 1 < _ by have := (P1.out).lt; omega)); clear hb))
  go_wp2
  refine bodyPost_ret (v := .tuple #[.agg #[.slice A9 M.dst.path.length c9, .string M.dst.typ, .string M.dst.nam, .int .i64 M.dst.kind, .int .i64 M.dst.n, .string M.dst.key], .bool r]) (by simp [results, Try.results23, go_sem, p2, g2, z2]) rfl ⟨A9, c9, rfl, ?_, ?_⟩
  · refine own.Own.mono (base := w.heap.size + 1 + 1 + 1) ?_ (by omega)
    iterate 6 refine own.Own.far ?_ (by simp <;> omega) _
    exact O2.out
  · repeat (refine Below.setCell ?_ (by simp <;> omega) _)
    exact E2.out
end Go.Proofs.Ytflfnekaiaplfaa.cf
