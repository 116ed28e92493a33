/- ExprRight of the model. ExprRight of the model: sums. ExprRight of the program. -/
import Derived.Test.YtflfnekaiaplfaaGreatExR
import Derived.Test.YtflfnekaiaplfaaGreatExQ
import Derived.Test.YtflfnekaiaplfaaGreatVlI
namespace Go.Proofs.YtflfnekaiaplfaaGreat.ex
open ad mem vl
open Go.ChangeShapes Go.WideShapes Go.ChangeAt Go.RowKit Go.Lib
set_option linter.unusedVariables false
set_option maxRecDepth 8000
set_option linter.unusedSimpArgs false

end Go.Proofs.YtflfnekaiaplfaaGreat.ex
namespace Go.Proofs.YtflfnekaiaplfaaGreat.ex
open ad mem vl
open Go.ChangeShapes Go.WideShapes Go.ChangeAt Go.RowKit Go.Lib
set_option linter.unusedVariables false
set_option maxRecDepth 8000
set_option linter.unusedSimpArgs false

theorem two_at {n lo : Nat} {w : World} {aa : Option Addr} {l : List ExprD} {x y : ExprD} (h : Ar n lo w aa l) (hl : l = [x, y]) :
    ∃ m b o qa qc qaa qac ra rc raa rac, n = m + 1 ∧ aa = some ⟨b, o, none⟩ ∧ b < w.heap.size ∧ w.rangeAt b o (cellsE x qa qc qaa qac) ∧ In lo m w qa qaa x ∧ w.rangeAt b (o + 12) (cellsE y ra rc raa rac) ∧ In lo m w ra raa y := by
  subst hl
  cases n with
  | zero => exact absurd (show [x, y] = [] from h) (by simp)
  | succ m =>
    obtain ⟨b, o, qa, qc, qaa, qac, e1, _, hb, hr, hin⟩ := h.at 0 (by simp)
    obtain ⟨b', o', ra, rc, raa, rac, e2, _, _, hr', hin'⟩ := h.at 1 (by simp)
    rw [e1] at e2
    simp only [Option.some.injEq, Addr.mk.injEq, and_true] at e2
    obtain ⟨rfl, rfl⟩ := e2
    exact ⟨m, b, o, qa, qc, qaa, qac, ra, rc, raa, rac, rfl, e1, hb, by simpa using hr, hin, by simpa using hr', hin'⟩
theorem first12 {w : World} {b o : Nat} {e : ExprD} {pa aa : Option Addr} {pc ac : Nat} (h : w.rangeAt b o (cellsE e pa pc aa ac)) :
    w.cell? ⟨b, o, none⟩ = some (.int .i64 e.kind) ∧ w.cell? ⟨b, o + 1, none⟩ = some (.int .i64 e.val.kind) ∧ w.cell? ⟨b, o + 2, none⟩ = some (.int .i64 e.val.n) ∧ w.cell? ⟨b, o + 3, none⟩ = some (.string e.val.text) ∧ w.cell? ⟨b, o + 4, none⟩ = some (.slice pa e.addr.path.length pc) ∧ w.cell? ⟨b, o + 5, none⟩ = some (.string e.addr.typ) ∧ w.cell? ⟨b, o + 6, none⟩ = some (.string e.addr.nam) ∧ w.cell? ⟨b, o + 7, none⟩ = some (.int .i64 e.addr.kind) ∧ w.cell? ⟨b, o + 8, none⟩ = some (.int .i64 e.addr.n) ∧ w.cell? ⟨b, o + 9, none⟩ = some (.string e.addr.key) ∧ w.cell? ⟨b, o + 10, none⟩ = some (.string e.prop) ∧ w.cell? ⟨b, o + 11, none⟩ = some (.slice aa e.args.length ac) :=
  ⟨h 0 _ rfl, h 1 _ rfl, h 2 _ rfl, h 3 _ rfl, h 4 _ rfl, h 5 _ rfl, h 6 _ rfl, h 7 _ rfl, h 8 _ rfl, h 9 _ rfl, h 10 _ rfl, h 11 _ rfl⟩
theorem second12 {w : World} {b o : Nat} {e : ExprD} {pa aa : Option Addr} {pc ac : Nat} (h : w.rangeAt b (o + 12) (cellsE e pa pc aa ac)) :
    w.cell? ⟨b, o + 12, none⟩ = some (.int .i64 e.kind) ∧ w.cell? ⟨b, o + 13, none⟩ = some (.int .i64 e.val.kind) ∧ w.cell? ⟨b, o + 14, none⟩ = some (.int .i64 e.val.n) ∧ w.cell? ⟨b, o + 15, none⟩ = some (.string e.val.text) ∧ w.cell? ⟨b, o + 16, none⟩ = some (.slice pa e.addr.path.length pc) ∧ w.cell? ⟨b, o + 17, none⟩ = some (.string e.addr.typ) ∧ w.cell? ⟨b, o + 18, none⟩ = some (.string e.addr.nam) ∧ w.cell? ⟨b, o + 19, none⟩ = some (.int .i64 e.addr.kind) ∧ w.cell? ⟨b, o + 20, none⟩ = some (.int .i64 e.addr.n) ∧ w.cell? ⟨b, o + 21, none⟩ = some (.string e.addr.key) ∧ w.cell? ⟨b, o + 22, none⟩ = some (.string e.prop) ∧ w.cell? ⟨b, o + 23, none⟩ = some (.slice aa e.args.length ac) :=
  ⟨h 0 _ rfl, h 1 _ rfl, h 2 _ rfl, h 3 _ rfl, h 4 _ rfl, h 5 _ rfl, h 6 _ rfl, h 7 _ rfl, h 8 _ rfl, h 9 _ rfl, h 10 _ rfl, h 11 _ rfl⟩

end Go.Proofs.YtflfnekaiaplfaaGreat.ex
namespace Go.Proofs.YtflfnekaiaplfaaGreat.ex
open ad mem vl
open Go.ChangeShapes Go.WideShapes Go.ChangeAt Go.RowKit Go.Lib
set_option linter.unusedVariables false
set_option maxRecDepth 8000
set_option linter.unusedSimpArgs false

theorem mk_val (k : Int) (v : ValD) (a : AddrD) (p : ByteArray) (l : List ExprD) : (ExprD.mk k v a p l).val = v := rfl
theorem mk_addr (k : Int) (v : ValD) (a : AddrD) (p : ByteArray) (l : List ExprD) : (ExprD.mk k v a p l).addr = a := rfl
theorem mk_prop (k : Int) (v : ValD) (a : AddrD) (p : ByteArray) (l : List ExprD) : (ExprD.mk k v a p l).prop = p := rfl
theorem mk_args (k : Int) (v : ValD) (a : AddrD) (p : ByteArray) (l : List ExprD) : (ExprD.mk k v a p l).args = l := rfl
theorem eq_zero : adl.eqA zeroA zeroA = true := adl.eqA_refl _
end Go.Proofs.YtflfnekaiaplfaaGreat.ex
