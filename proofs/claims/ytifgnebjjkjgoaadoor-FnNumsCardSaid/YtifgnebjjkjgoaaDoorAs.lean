/- errors.As at the program's own kind of fault: of no error it tells no; of a fault it tells yes, and the target has it. Condition: the library's variable errorType holds the handle of the type error. -/
import Derived.Test.YtifgnebjjkjgoaaDoorRows
import Derived.WalkKit
import Derived.LaidEql
import Derived.Stop.Asserts
import Derived.RowKitTokens
namespace Go.Proofs.YtifgnebjjkjgoaaDoor.as
open Go.RowKit Go.Extern.Stop Go.Stop Go.Extern
set_option linter.unusedVariables false
set_option linter.unusedSimpArgs false

/-- the handles of the three types, and the two Values that the library makes of them. -/
abbrev hE : Value := .pointer (some ⟨1, 56, none⟩)
abbrev hP : Value := .pointer (some ⟨1, 59, none⟩)
abbrev hR : Value := .pointer (some ⟨1, 44, none⟩)
abbrev vP (a : Addr) : Value := .agg #[.pointer (some ⟨1, 59, none⟩), .pointer (some a), .int .u64 150]
abbrev vE (a : Addr) : Value := .agg #[.pointer (some ⟨1, 56, none⟩), .pointer (some a), .int .u64 153]
abbrev vA (a : Addr) : Value := .agg #[.pointer (some ⟨1, 56, none⟩), .pointer (some a), .int .u64 409]

theorem as_nil (t : Value) (w : World) :
    Calls Tryd.prog 31 #[.nilIface, t] w fun e w' => e = .returned (.bool false) ∧ w = w' := by
  go_enter Tryd.func31, Tryd.ntmps31
  go_wp2
  go_ret
  exact ⟨rfl, rfl⟩

theorem unpackP (t : Addr) (w : World) : (ReflectliteValue.unpack (.iface 59 (.pointer (some t)))).run Tryd.prog w = .ok (vP ⟨w.heap.size, 0, none⟩) (w.alloc (.cells #[.pointer (some t)] 59)) := by kernel_rfl
theorem unpackE (e : Int) (w : World) : (ReflectliteValue.unpack (.iface 56 (.agg #[.int .i64 e]))).run Tryd.prog w = .ok (vE ⟨w.heap.size, 0, none⟩) (w.alloc (.cells #[.int .i64 e] 56)) := by kernel_rfl
theorem typeP (a : Addr) (w : World) : (ReflectliteValue.methodAny (ReflectliteValue.valueError "reflectlite.Value.Type" 0) (fun t _ _ _ => ReflectliteType.toType t) #[vP a]).run Tryd.prog w = .ok (.iface 76 (.agg #[hP])) w := by kernel_rfl
theorem mKind (h : Value) (w : World) : (Go.method 219 76 (.agg #[h]) "Kind").run Tryd.prog w = .ok (53, h) w := by kernel_rfl
theorem mElem (h : Value) (w : World) : (Go.method 219 76 (.agg #[h]) "Elem").run Tryd.prog w = .ok (63, .agg #[h]) w := by kernel_rfl
theorem mImpl (h : Value) (w : World) : (Go.method 219 76 (.agg #[h]) "Implements").run Tryd.prog w = .ok (64, .agg #[h]) w := by kernel_rfl
theorem mAsgn (h : Value) (w : World) : (Go.method 219 76 (.agg #[h]) "AssignableTo").run Tryd.prog w = .ok (61, .agg #[h]) w := by kernel_rfl
theorem kindP (w : World) : ((ReflectliteType.abiMethod fun t => (fun a : Nat => Value.int IntKind.u8 (a : Int)) <$> Rtype.kind t) #[hP]).run Tryd.prog w = .ok (.int .u8 22) w := by kernel_rfl
theorem kindE (w : World) : ((ReflectliteType.abiMethod fun t => (fun a : Nat => Value.int IntKind.u8 (a : Int)) <$> Rtype.kind t) #[hE]).run Tryd.prog w = .ok (.int .u8 25) w := by kernel_rfl
theorem elemP (w : World) : (ReflectliteType.method ReflectliteType.elem #[.agg #[hP]]).run Tryd.prog w = .ok (.iface 76 (.agg #[hE])) w := by kernel_rfl
theorem implE (w : World) : (ReflectliteType.relation "Implements" ReflectliteType.implements_ #[.agg #[hE], .iface 76 (.agg #[hR])]).run Tryd.prog w = .ok (.bool true) w := by kernel_rfl
theorem typeOfE (v : Value) (w : World) : (ReflectliteType.typeOf #[.iface 56 v]).run Tryd.prog w = .ok (.iface 76 (.agg #[hE])) w := by kernel_rfl
theorem asgnE (w : World) : (ReflectliteType.relation "AssignableTo" ReflectliteType.assignableTo #[.agg #[hE], .iface 76 (.agg #[hE])]).run Tryd.prog w = .ok (.bool true) w := by kernel_rfl
theorem partsP (a : Addr) (w : World) : (ReflectliteValue.parts (vP a)).run Tryd.prog w = .ok (some (59, a, 150)) w := by kernel_rfl
theorem partsE (a : Addr) (w : World) : (ReflectliteValue.parts (vE a)).run Tryd.prog w = .ok (some (56, a, 153)) w := by kernel_rfl
theorem partsA (a : Addr) (w : World) : (ReflectliteValue.parts (vA a)).run Tryd.prog w = .ok (some (56, a, 409)) w := by kernel_rfl
theorem elem?P (w : World) : (Rtype.elem? 59).run Tryd.prog w = .ok (some 56) w := by kernel_rfl
theorem mkA (p : Addr) (w : World) : (ReflectliteValue.mk 56 p ReflectliteValue.flagAddr).run Tryd.prog w = .ok (vA p) w := by kernel_rfl
theorem directE (w : World) : (Rtype.directlyAssignable 56 56).run Tryd.prog w = .ok true w := by kernel_rfl

/-- (Value).IsNil of a pointer that is none. -/
theorem isNilP (a p : Addr) (W : World) (ha : W.cell? a = some (.pointer (some p))) :
    (ReflectliteValue.method (ReflectliteValue.valueError "reflectlite.Value.IsNil" 0) ReflectliteValue.isNil #[vP a]).run Tryd.prog W = .ok (.bool false) W := by
  change Sem.run _ (bind (ReflectliteValue.parts (vP a)) _) _ = _
  simp only [Sem.run_bind, partsP, Result.andThen]
  simp [ReflectliteValue.isNil, loadVar, isAgg, underlying, Tryd.underlying59, ha, Result.andThen]
/-- (Value).Elem of it: the variable that it points to. -/
theorem elemVP (a p : Addr) (W : World) (ha : W.cell? a = some (.pointer (some p))) :
    (ReflectliteValue.method (ReflectliteValue.valueError "reflectlite.Value.Elem" 0) ReflectliteValue.elem #[vP a]).run Tryd.prog W = .ok (vA p) W := by
  change Sem.run _ (bind (ReflectliteValue.parts (vP a)) _) _ = _
  simp only [Sem.run_bind, partsP, Result.andThen]
  simp [ReflectliteValue.elem, loadVar, isAgg, underlying, Tryd.underlying59, ha, Result.andThen, elem?P, mkA]
/-- (Value).Set: the variable at 'p' of block 'tb' gets the fault that the Value's own variable has. -/
theorem setE (tb bb : Nat) (e : Int) (old : Value) (W : World) (hb : W.cell? ⟨bb, 0, none⟩ = some (.int .i64 e)) (ht : W.cell? ⟨tb, 0, none⟩ = some old) (hf : W.frozen? ⟨tb, 0, none⟩ = false) :
    (ReflectliteValue.set #[vA ⟨tb, 0, none⟩, vE ⟨bb, 0, none⟩]).run Tryd.prog W = .ok (.tuple #[]) (W.setCell ⟨tb, 0, none⟩ (.int .i64 e)) := by
  change Sem.run _ (bind (ReflectliteValue.parts (vA ⟨tb, 0, none⟩)) fun r => bind (ReflectliteValue.parts (vE ⟨bb, 0, none⟩)) _) _ = _
  simp only [Sem.run_bind, partsA, partsE, Result.andThen]
  simp [ReflectliteValue.flagAddr, loadVar, isAgg, underlying, Tryd.underlying56, hb, Result.andThen, directE, storeVar, Value.cells, storeCells, Addr.add]
  have hl : (loadCells ⟨bb, 0, none⟩ 1).run Tryd.prog W = .ok #[.int .i64 e] W := run_loadCells_list (P := Tryd.prog) W ⟨bb, 0, none⟩ [.int .i64 e] (fun j v hj => by
    have h0 : j = 0 := by have := (List.getElem?_eq_some_iff.1 hj).1; simpa using this
    subst h0
    simp at hj
    rw [← hj]; simpa [Addr.add] using hb)
  rw [hl]
  simp [storeCells, Addr.add]
  rw [run_store Tryd.prog W ⟨tb, 0, none⟩ _ _ (by rfl)]
  simp [ht, hf]

/-- the cell of the library's variable. -/
def Laid (w : World) : Prop := w.cell? ⟨0, 0, none⟩ = some (.iface 76 (.agg #[hR]))
theorem laid_pos {w : World} (h : Laid w) : 0 < w.heap.size := by
  rcases Nat.eq_zero_or_pos w.heap.size with h0 | h1
  · simp [Laid, World.cell?, h0] at h
  · exact h1
theorem laid_below {B : Nat} {w w' : World} (h : Laid w) (hb : Below B w w') (hB : 0 < B) : Laid w' := by
  unfold Laid; rw [hb.cell (p := ⟨0, 0, none⟩) hB]; exact h

set_option maxHeartbeats 4000000 in
theorem as_hit (e : Int) (w : World) (hg : Laid w) :
    Calls Tryd.prog 31 #[.iface 56 (.agg #[.int .i64 e]), .iface 59 (.pointer (some ⟨w.heap.size, 0, none⟩))] (w.alloc (.cells #[.int .i64 0] 56)) fun ev w' => ev = .returned (.bool true) ∧ ∃ x y z u,
      w' = (((((w.alloc (.cells #[.int .i64 e] 56)).alloc x).alloc y).alloc z).alloc u) := by
  have h6 := @run_callFunc_extern Tryd.prog 32 _ (fun args => ReflectliteValue.unpack (args.getD 0 (.tuple #[]))) Tryd.func32 (by kernel_rfl) (by kernel_rfl) (by kernel_rfl) (by kernel_rfl)
  have h7 := @run_callFunc_extern Tryd.prog 33 _ (ReflectliteValue.methodAny (ReflectliteValue.valueError "reflectlite.Value.Type" 0) (fun t _ _ _ => ReflectliteType.toType t)) Tryd.func33 (by kernel_rfl) (by kernel_rfl) (by kernel_rfl) (by kernel_rfl)
  have h8 := @run_callFunc_extern Tryd.prog 34 _ (ReflectliteValue.method (ReflectliteValue.valueError "reflectlite.Value.IsNil" 0) ReflectliteValue.isNil) Tryd.func34 (by kernel_rfl) (by kernel_rfl) (by kernel_rfl) (by kernel_rfl)
  have h27 := @run_callFunc_extern Tryd.prog 53 _ (ReflectliteType.abiMethod fun t => do pure (.int .u8 (← Rtype.kind t))) Tryd.func53 (by kernel_rfl) (by kernel_rfl) (by kernel_rfl) (by kernel_rfl)
  have h37 := @run_callFunc_extern Tryd.prog 63 _ (ReflectliteType.method ReflectliteType.elem) Tryd.func63 (by kernel_rfl) (by kernel_rfl) (by kernel_rfl) (by kernel_rfl)
  have h38 := @run_callFunc_extern Tryd.prog 64 _ (ReflectliteType.relation "Implements" ReflectliteType.implements_) Tryd.func64 (by kernel_rfl) (by kernel_rfl) (by kernel_rfl) (by kernel_rfl)
  have h10 := @run_callFunc_extern Tryd.prog 36 _ ReflectliteType.typeOf Tryd.func36 (by kernel_rfl) (by kernel_rfl) (by kernel_rfl) (by kernel_rfl)
  have h35 := @run_callFunc_extern Tryd.prog 61 _ (ReflectliteType.relation "AssignableTo" ReflectliteType.assignableTo) Tryd.func61 (by kernel_rfl) (by kernel_rfl) (by kernel_rfl) (by kernel_rfl)
  have h11 := @run_callFunc_extern Tryd.prog 37 _ (ReflectliteValue.method (ReflectliteValue.valueError "reflectlite.Value.Elem" 0) ReflectliteValue.elem) Tryd.func37 (by kernel_rfl) (by kernel_rfl) (by kernel_rfl) (by kernel_rfl)
  have h12 := @run_callFunc_extern Tryd.prog 38 _ ReflectliteValue.set Tryd.func38 (by kernel_rfl) (by kernel_rfl) (by kernel_rfl) (by kernel_rfl)
  have tO := typeOfE
  have mA := mAsgn
  have aE := asgnE
  have uE := unpackE
  have uP := unpackP
  have tP := typeP
  have mK := mKind
  have mE := mElem
  have mI := mImpl
  have kP := kindP
  have kE := kindE
  have eP := elemP
  have iE := implE
  have hlt := laid_pos hg
  have n8 := isNilP ⟨w.heap.size + 1, 0, none⟩ ⟨w.heap.size, 0, none⟩ (((w.alloc (.cells #[.int .i64 0] 56)).alloc (.cells #[.pointer (some ⟨w.heap.size, 0, none⟩)] 59)).alloc (.cells #[hP, .pointer (some ⟨w.heap.size + 1, 0, none⟩), .int .u64 150] 65)) (by rw [World.cell?_alloc_past _ _ _ (by simp), World.cell?_alloc_at _ _ _ _ (by simp)]; rfl)
  have hg2 : (((w.alloc (.cells #[.int .i64 0] 56)).alloc (.cells #[.pointer (some ⟨w.heap.size, 0, none⟩)] 59)).alloc (.cells #[hP, .pointer (some ⟨w.heap.size + 1, 0, none⟩), .int .u64 150] 65)).cell? ⟨0, 0, none⟩ = some (.iface 76 (.agg #[hR])) := by
    rw [World.cell?_alloc_lt _ _ ⟨0, 0, none⟩ (by simp), World.cell?_alloc_lt _ _ ⟨0, 0, none⟩ (by simp), World.cell?_alloc_lt _ _ ⟨0, 0, none⟩ hlt]; exact hg
  have el := elemVP ⟨w.heap.size + 1, 0, none⟩ ⟨w.heap.size, 0, none⟩ ((((w.alloc (.cells #[.int .i64 0] 56)).alloc (.cells #[.pointer (some ⟨w.heap.size, 0, none⟩)] 59)).alloc (.cells #[hP, .pointer (some ⟨w.heap.size + 1, 0, none⟩), .int .u64 150] 65)).alloc (.cells #[hP, .pointer (some ⟨w.heap.size + 1, 0, none⟩), .int .u64 150] 65)) (by rw [World.cell?_alloc_past _ _ _ (by simp), World.cell?_alloc_past _ _ _ (by simp), World.cell?_alloc_at _ _ _ _ (by simp)]; rfl)
  have st := setE w.heap.size (w.heap.size + 1 + 1 + 1 + 1) e (.int .i64 0) (((((w.alloc (.cells #[.int .i64 0] 56)).alloc (.cells #[.pointer (some ⟨w.heap.size, 0, none⟩)] 59)).alloc (.cells #[hP, .pointer (some ⟨w.heap.size + 1, 0, none⟩), .int .u64 150] 65)).alloc (.cells #[hP, .pointer (some ⟨w.heap.size + 1, 0, none⟩), .int .u64 150] 65)).alloc (.cells #[.int .i64 e] 56))
    (by rw [World.cell?_alloc_at _ _ _ _ (by simp <;> omega)]; rfl)
    (by rw [World.cell?_alloc_past _ _ _ (by simp <;> omega), World.cell?_alloc_past _ _ _ (by simp <;> omega), World.cell?_alloc_past _ _ _ (by simp <;> omega), World.cell?_alloc_past _ _ _ (by simp <;> omega), World.cell?_alloc_at _ _ _ _ rfl]; rfl)
    (by rw [World.frozen?_alloc_past _ _ _ (by simp <;> omega), World.frozen?_alloc_past _ _ _ (by simp <;> omega), World.frozen?_alloc_past _ _ _ (by simp <;> omega), World.frozen?_alloc_past _ _ _ (by simp <;> omega), World.frozen?_alloc_at _ _ _ _ rfl])
  go_enter Tryd.func31, Tryd.ntmps31
  go_wp2
  refine wp_loop_rounds 1 ?_
  rw [rounds_succ]
  go_wp2
  go_ret
  exact ⟨rfl, _, _, _, _, rfl⟩
end Go.Proofs.YtifgnebjjkjgoaaDoor.as
