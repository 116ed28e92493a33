/- The two errors of the library, out of a card's list. -/
import Derived.Test.YtfjfneliajmjbaaDoorRows
import Derived.Test.YtfjfneliajmjbaaDoorPar
import Derived.MakeChecks
import Derived.LaidMore
import Derived.LaidHandle
namespace Go.Proofs.YtfjfneliajmjbaaDoor.laide
open Go.ChangeShapes Go.WideShapes Go.ChangeAt Go.RowKit Go.Lib
set_option linter.unusedVariables false
set_option maxRecDepth 8000

/-- a variable that reads as an error holds an interface value. -/
theorem iface_of {w : World} {fuel : Nat} {t : TypeId} {ms : Array (String × TypeId)} {cs : List Value} {nm : String} {d : DataW Unit} {p : List MemPlace} (ht : Tryd.prog.underlying t = some (.interface ms))
    (h : DataW.trod (fun _ => ()) Tryd.prog w 0 (fun _ => true) false fuel t cs = some (.iface nm d, p)) : ∃ u v, cs = [.iface u v] := by
  cases fuel with
  | zero => simp [DataW.trod] at h
  | succ n =>
    unfold DataW.trod at h
    rw [ht] at h
    split at h <;> simp_all
theorem gS : Tryd.prog.globalNamed "strconv.ErrSyntax" = some 1 := by kernel_rfl
theorem gR : Tryd.prog.globalNamed "strconv.ErrRange" = some 2 := by kernel_rfl
theorem tS : (Tryd.prog.globals[1]?).map (·.type) = some 63 := by kernel_rfl
theorem tR : (Tryd.prog.globals[2]?).map (·.type) = some 63 := by kernel_rfl
theorem cell_of {w : World} {name : String} {g : Nat} {cs : Array Value} {u : TypeId} {v : Value} (hg : Tryd.prog.globalNamed name = some g) (hv : w.var? Tryd.prog name = some cs) (h : cs.toList = [.iface u v]) : w.cell? ⟨g, 0, none⟩ = some (.iface u v) := by
  have := World.var?_cell hg hv 0
  rw [Array.eq_one_of_toList h] at this
  simpa using this
theorem errs_at {W : World} {n1 n2 : String} {d1 d2 : DataW Unit} {rest : List (String × DataW Unit)} {ps : List MemPlace} (h : DataW.LaidVars Tryd.prog W (("strconv.ErrRange", .iface n1 d1) :: ("strconv.ErrSyntax", .iface n2 d2) :: rest) ps) : par.Errs W := by
  obtain ⟨g, t, cs, fuel, p, q, hg, ht, hvar, hd, ⟨g', t', cs', fuel', p', q', hg', ht', hvar', hd', _, _⟩, _⟩ := h
  obtain rfl := Option.some.inj (gR.symm.trans hg)
  obtain rfl := Option.some.inj (tR.symm.trans ht)
  obtain rfl := Option.some.inj (gS.symm.trans hg')
  obtain rfl := Option.some.inj (tS.symm.trans ht')
  obtain ⟨u, v, e⟩ := iface_of Tryd.underlying63 hd
  obtain ⟨u', v', e'⟩ := iface_of Tryd.underlying63 hd'
  exact ⟨⟨u', v', cell_of gS hvar' e'⟩, ⟨u, v, cell_of gR hvar e⟩⟩
end Go.Proofs.YtfjfneliajmjbaaDoor.laide
