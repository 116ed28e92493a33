/- The program's movers. -/
import Derived.Test.YtflfnekaiaplfaaMwP
import Derived.Test.YtflfnekaiaplfaaMvI
import Derived.BigQuiet
import Derived.BigRegion
import Derived.Deep.QuietTactic
import Derived.Outline
namespace Go.Proofs.Ytflfnekaiaplfaa.cf
open ad mem vl ex un
open Go.ChangeShapes Go.WideShapes Go.ChangeAt Go.RowKit Go.Lib
set_option linter.unusedVariables false
set_option maxRecDepth 8000
set_option linter.unusedSimpArgs false

theorem alike_told {A B : Option Addr} {c c' : Nat} {l m : List ByteArray} {w : World} (h : Strs w A l) (h' : Strs w B m) (hl : l.length ≤ maxLen) (hm : m.length ≤ maxLen) :
    Calls Try.prog 55 #[.slice A l.length c, .slice B m.length c'] w (un.Told w (.int .i64 (cm.pre l m))) :=
  (cm.alike_any A B c c' l m w h h' hl hm).mono fun e w' h => ⟨h.1, by obtain ⟨n, rfl⟩ := h.2; exact below_d _ _⟩
theorem nil1_source (f0 f1 f2 f3 f4 f5 t0 t1 t2 t3 t4 t5 : Value) (w : World) : (nilAhead 202 70 (.agg #[f0, f1, f2, f3, f4, f5, t0, t1, t2, t3, t4, t5]) "loop.example/g00770/impl.source").run Try.prog w = .ok (some false) w := by kernel_rfl
theorem met1_source (f0 f1 f2 f3 f4 f5 t0 t1 t2 t3 t4 t5 : Value) (w : World) : (method 202 70 (.agg #[f0, f1, f2, f3, f4, f5, t0, t1, t2, t3, t4, t5]) "loop.example/g00770/impl.source").run Try.prog w = .ok (73, .agg #[f0, f1, f2, f3, f4, f5, t0, t1, t2, t3, t4, t5]) w := by kernel_rfl
theorem nil1_target (f0 f1 f2 f3 f4 f5 t0 t1 t2 t3 t4 t5 : Value) (w : World) : (nilAhead 202 70 (.agg #[f0, f1, f2, f3, f4, f5, t0, t1, t2, t3, t4, t5]) "loop.example/g00770/impl.target").run Try.prog w = .ok (some false) w := by kernel_rfl
theorem met1_target (f0 f1 f2 f3 f4 f5 t0 t1 t2 t3 t4 t5 : Value) (w : World) : (method 202 70 (.agg #[f0, f1, f2, f3, f4, f5, t0, t1, t2, t3, t4, t5]) "loop.example/g00770/impl.target").run Try.prog w = .ok (74, .agg #[f0, f1, f2, f3, f4, f5, t0, t1, t2, t3, t4, t5]) w := by kernel_rfl
theorem nil1_holds (f0 f1 f2 f3 f4 f5 t0 t1 t2 t3 t4 t5 : Value) (w : World) : (nilAhead 202 70 (.agg #[f0, f1, f2, f3, f4, f5, t0, t1, t2, t3, t4, t5]) "loop.example/g00770/impl.holds").run Try.prog w = .ok (some false) w := by kernel_rfl
theorem met1_holds (f0 f1 f2 f3 f4 f5 t0 t1 t2 t3 t4 t5 : Value) (w : World) : (method 202 70 (.agg #[f0, f1, f2, f3, f4, f5, t0, t1, t2, t3, t4, t5]) "loop.example/g00770/impl.holds").run Try.prog w = .ok (71, .agg #[f0, f1, f2, f3, f4, f5, t0, t1, t2, t3, t4, t5]) w := by kernel_rfl
theorem nil1_place (f0 f1 f2 f3 f4 f5 t0 t1 t2 t3 t4 t5 : Value) (w : World) : (nilAhead 202 70 (.agg #[f0, f1, f2, f3, f4, f5, t0, t1, t2, t3, t4, t5]) "loop.example/g00770/impl.place").run Try.prog w = .ok (some false) w := by kernel_rfl
theorem met1_place (f0 f1 f2 f3 f4 f5 t0 t1 t2 t3 t4 t5 : Value) (w : World) : (method 202 70 (.agg #[f0, f1, f2, f3, f4, f5, t0, t1, t2, t3, t4, t5]) "loop.example/g00770/impl.place").run Try.prog w = .ok (72, .agg #[f0, f1, f2, f3, f4, f5, t0, t1, t2, t3, t4, t5]) w := by kernel_rfl
theorem nil2_source (f0 f1 f2 f3 f4 f5 t0 t1 t2 t3 t4 t5 : Value) (w : World) : (nilAhead 202 71 (.agg #[f0, f1, f2, f3, f4, f5, t0, t1, t2, t3, t4, t5]) "loop.example/g00770/impl.source").run Try.prog w = .ok (some false) w := by kernel_rfl
theorem met2_source (f0 f1 f2 f3 f4 f5 t0 t1 t2 t3 t4 t5 : Value) (w : World) : (method 202 71 (.agg #[f0, f1, f2, f3, f4, f5, t0, t1, t2, t3, t4, t5]) "loop.example/g00770/impl.source").run Try.prog w = .ok (73, .agg #[f0, f1, f2, f3, f4, f5, t0, t1, t2, t3, t4, t5]) w := by kernel_rfl
theorem nil2_target (f0 f1 f2 f3 f4 f5 t0 t1 t2 t3 t4 t5 : Value) (w : World) : (nilAhead 202 71 (.agg #[f0, f1, f2, f3, f4, f5, t0, t1, t2, t3, t4, t5]) "loop.example/g00770/impl.target").run Try.prog w = .ok (some false) w := by kernel_rfl
theorem met2_target (f0 f1 f2 f3 f4 f5 t0 t1 t2 t3 t4 t5 : Value) (w : World) : (method 202 71 (.agg #[f0, f1, f2, f3, f4, f5, t0, t1, t2, t3, t4, t5]) "loop.example/g00770/impl.target").run Try.prog w = .ok (74, .agg #[f0, f1, f2, f3, f4, f5, t0, t1, t2, t3, t4, t5]) w := by kernel_rfl
theorem nil2_holds (f0 f1 f2 f3 f4 f5 t0 t1 t2 t3 t4 t5 : Value) (w : World) : (nilAhead 202 71 (.agg #[f0, f1, f2, f3, f4, f5, t0, t1, t2, t3, t4, t5]) "loop.example/g00770/impl.holds").run Try.prog w = .ok (some false) w := by kernel_rfl
theorem met2_holds (f0 f1 f2 f3 f4 f5 t0 t1 t2 t3 t4 t5 : Value) (w : World) : (method 202 71 (.agg #[f0, f1, f2, f3, f4, f5, t0, t1, t2, t3, t4, t5]) "loop.example/g00770/impl.holds").run Try.prog w = .ok (75, .agg #[f0, f1, f2, f3, f4, f5, t0, t1, t2, t3, t4, t5]) w := by kernel_rfl
theorem nil2_place (f0 f1 f2 f3 f4 f5 t0 t1 t2 t3 t4 t5 : Value) (w : World) : (nilAhead 202 71 (.agg #[f0, f1, f2, f3, f4, f5, t0, t1, t2, t3, t4, t5]) "loop.example/g00770/impl.place").run Try.prog w = .ok (some false) w := by kernel_rfl
theorem met2_place (f0 f1 f2 f3 f4 f5 t0 t1 t2 t3 t4 t5 : Value) (w : World) : (method 202 71 (.agg #[f0, f1, f2, f3, f4, f5, t0, t1, t2, t3, t4, t5]) "loop.example/g00770/impl.place").run Try.prog w = .ok (76, .agg #[f0, f1, f2, f3, f4, f5, t0, t1, t2, t3, t4, t5]) w := by kernel_rfl
theorem nil3_source (f0 f1 f2 f3 f4 f5 t0 t1 t2 t3 t4 t5 : Value) (w : World) : (nilAhead 202 72 (.agg #[f0, f1, f2, f3, f4, f5, t0, t1, t2, t3, t4, t5]) "loop.example/g00770/impl.source").run Try.prog w = .ok (some false) w := by kernel_rfl
theorem met3_source (f0 f1 f2 f3 f4 f5 t0 t1 t2 t3 t4 t5 : Value) (w : World) : (method 202 72 (.agg #[f0, f1, f2, f3, f4, f5, t0, t1, t2, t3, t4, t5]) "loop.example/g00770/impl.source").run Try.prog w = .ok (73, .agg #[f0, f1, f2, f3, f4, f5, t0, t1, t2, t3, t4, t5]) w := by kernel_rfl
theorem nil3_target (f0 f1 f2 f3 f4 f5 t0 t1 t2 t3 t4 t5 : Value) (w : World) : (nilAhead 202 72 (.agg #[f0, f1, f2, f3, f4, f5, t0, t1, t2, t3, t4, t5]) "loop.example/g00770/impl.target").run Try.prog w = .ok (some false) w := by kernel_rfl
theorem met3_target (f0 f1 f2 f3 f4 f5 t0 t1 t2 t3 t4 t5 : Value) (w : World) : (method 202 72 (.agg #[f0, f1, f2, f3, f4, f5, t0, t1, t2, t3, t4, t5]) "loop.example/g00770/impl.target").run Try.prog w = .ok (74, .agg #[f0, f1, f2, f3, f4, f5, t0, t1, t2, t3, t4, t5]) w := by kernel_rfl
theorem nil3_holds (f0 f1 f2 f3 f4 f5 t0 t1 t2 t3 t4 t5 : Value) (w : World) : (nilAhead 202 72 (.agg #[f0, f1, f2, f3, f4, f5, t0, t1, t2, t3, t4, t5]) "loop.example/g00770/impl.holds").run Try.prog w = .ok (some false) w := by kernel_rfl
theorem met3_holds (f0 f1 f2 f3 f4 f5 t0 t1 t2 t3 t4 t5 : Value) (w : World) : (method 202 72 (.agg #[f0, f1, f2, f3, f4, f5, t0, t1, t2, t3, t4, t5]) "loop.example/g00770/impl.holds").run Try.prog w = .ok (77, .agg #[f0, f1, f2, f3, f4, f5, t0, t1, t2, t3, t4, t5]) w := by kernel_rfl
theorem nil3_place (f0 f1 f2 f3 f4 f5 t0 t1 t2 t3 t4 t5 : Value) (w : World) : (nilAhead 202 72 (.agg #[f0, f1, f2, f3, f4, f5, t0, t1, t2, t3, t4, t5]) "loop.example/g00770/impl.place").run Try.prog w = .ok (some false) w := by kernel_rfl
theorem met3_place (f0 f1 f2 f3 f4 f5 t0 t1 t2 t3 t4 t5 : Value) (w : World) : (method 202 72 (.agg #[f0, f1, f2, f3, f4, f5, t0, t1, t2, t3, t4, t5]) "loop.example/g00770/impl.place").run Try.prog w = .ok (78, .agg #[f0, f1, f2, f3, f4, f5, t0, t1, t2, t3, t4, t5]) w := by kernel_rfl
/-- the type of a move's mover. -/
def movT (k : Int) : TypeId := if k = 1 then 70 else if k = 2 then 71 else 72
set_option maxHeartbeats 1000000 in
theorem moverOf_any (x0 x4 x5 x10 x11 : Int) (s2 s3 s6 s8 s9 s12 : ByteArray) (A1 A7 : Option Addr) (n1 n7 c1 c7 : Nat) (w : World) :
    Calls Try.prog 27 #[.agg #[.int .i64 x0, .slice A1 n1 c1, .string s2, .string s3, .int .i64 x4, .int .i64 x5, .string s6, .slice A7 n7 c7, .string s8, .string s9, .int .i64 x10, .int .i64 x11, .string s12]] w (un.Told w (.iface (movT x0) (.agg #[.slice A1 n1 c1, .string s2, .string s3, .int .i64 x4, .int .i64 x5, .string s6, .slice A7 n7 c7, .string s8, .string s9, .int .i64 x10, .int .i64 x11, .string s12]))) := by
  go_enter Try.func27, Try.ntmps27
  go_wp2
  all_goals go_ret
  all_goals refine ⟨?_, by repeat (first | exact Below.refl _ _ | exact below_a1 _ _ | exact below_a2 _ _ _ | refine Below.setCell ?_ (by simp <;> omega) _)⟩
  all_goals (simp_all [movT])
set_option maxHeartbeats 1000000 in
theorem end_source (x4 x5 x10 x11 : Int) (s2 s3 s6 s8 s9 s12 : ByteArray) (A1 A7 : Option Addr) (n1 n7 c1 c7 : Nat) (w : World) :
    Calls Try.prog 73 #[.agg #[.slice A1 n1 c1, .string s2, .string s3, .int .i64 x4, .int .i64 x5, .string s6, .slice A7 n7 c7, .string s8, .string s9, .int .i64 x10, .int .i64 x11, .string s12]] w (un.Told w (.agg #[.slice A1 n1 c1, .string s2, .string s3, .int .i64 x4, .int .i64 x5, .string s6])) := by
  go_enter Try.func73, Try.ntmps73
  go_wp2
  refine bodyPost_ret (v := .agg #[.slice A1 n1 c1, .string s2, .string s3, .int .i64 x4, .int .i64 x5, .string s6]) (by simp [results, Try.results73, go_sem]; try rfl) rfl ⟨rfl, ?_⟩
  repeat (first | exact below_a1 _ _ | exact below_a2 _ _ _ | refine Below.setCell ?_ (by simp <;> omega) _)
set_option maxHeartbeats 1000000 in
theorem end_target (x4 x5 x10 x11 : Int) (s2 s3 s6 s8 s9 s12 : ByteArray) (A1 A7 : Option Addr) (n1 n7 c1 c7 : Nat) (w : World) :
    Calls Try.prog 74 #[.agg #[.slice A1 n1 c1, .string s2, .string s3, .int .i64 x4, .int .i64 x5, .string s6, .slice A7 n7 c7, .string s8, .string s9, .int .i64 x10, .int .i64 x11, .string s12]] w (un.Told w (.agg #[.slice A7 n7 c7, .string s8, .string s9, .int .i64 x10, .int .i64 x11, .string s12])) := by
  go_enter Try.func74, Try.ntmps74
  go_wp2
  refine bodyPost_ret (v := .agg #[.slice A7 n7 c7, .string s8, .string s9, .int .i64 x10, .int .i64 x11, .string s12]) (by simp [results, Try.results74, go_sem]; try rfl) rfl ⟨rfl, ?_⟩
  repeat (first | exact below_a1 _ _ | exact below_a2 _ _ _ | refine Below.setCell ?_ (by simp <;> omega) _)
set_option maxHeartbeats 2000000 in
theorem hold1 (f0 f1 f2 f3 f4 f5 t0 t1 t2 t3 t4 t5 : Value) {B B' : Nat → Prop} {n n' : Nat} {w : World} {ds ds' : List DC} {vs vs' : List Value} (h : Cells B n w shAddr_ ds vs) (h' : Cells B' n' w shAddr_ ds' vs') :
    Calls Try.prog 71 #[.agg #[f0, f1, f2, f3, f4, f5, t0, t1, t2, t3, t4, t5], .agg vs.toArray, .agg vs'.toArray] w (un.Told w (.bool (holdB 1 (bA ds) (bA ds')))) := by
  have H := Lib.hid (Gd.ofC h)
  have H' := Lib.hid (Gd.ofC h')
  have e2 : ∀ e a : AddrD, holdB 1 e a = adl.eqA e a := fun e a => rfl
  rw [e2]
  obtain ⟨D, hD⟩ : ∃ D, bA ds = D := ⟨_, rfl⟩
  obtain ⟨D', hD'⟩ : ∃ D, bA ds' = D := ⟨_, rfl⟩
  rw [hD, hD']
  obtain ⟨la0, sa1, sa2, xa3, xa4, sa5, Aa0, ca0, rfl, rfl, k0, k1, k2, k3, k4, k5⟩ := open_Addr h
  obtain ⟨lb0, sb1, sb2, xb3, xb4, sb5, Ab0, cb0, rfl, rfl, j0, j1, j2, j3, j4, j5⟩ := open_Addr h'
  clear h h' k0 k1 k2 k3 k4 k5 j0 j1 j2 j3 j4 j5 e2
  go_enter Try.func71, Try.ntmps71
  go_wp2_with fail
  refine (sameAddr_impl hD hD' rfl (H.out.below (below_a3 _ _ _ _)).now (H'.out.below (below_a3 _ _ _ _)).now).mono ?_
  rintro _ w1 ⟨rfl, hb⟩
  have E1 := Lib.hid (below_then (below_a3 _ _ _ _) hb (Nat.le_refl _))
  clear hb H H'
  go_wp2
  go_ret
  exact ⟨rfl, E1.out⟩
set_option maxHeartbeats 2000000 in
theorem hold2 (f0 f1 f2 f3 f4 f5 t0 t1 t2 t3 t4 t5 : Value) {B B' : Nat → Prop} {n n' : Nat} {w : World} {ds ds' : List DC} {vs vs' : List Value} (h : Cells B n w shAddr_ ds vs) (h' : Cells B' n' w shAddr_ ds' vs') :
    Calls Try.prog 75 #[.agg #[f0, f1, f2, f3, f4, f5, t0, t1, t2, t3, t4, t5], .agg vs.toArray, .agg vs'.toArray] w (un.Told w (.bool (holdB 2 (bA ds) (bA ds')))) := by
  have H := Lib.hid (Gd.ofC h)
  have H' := Lib.hid (Gd.ofC h')
  have e2 : ∀ e a : AddrD, holdB 2 e a = adl.eqA e (kBare a) := fun e a => rfl
  rw [e2]
  obtain ⟨D, hD⟩ : ∃ D, bA ds = D := ⟨_, rfl⟩
  obtain ⟨D', hD'⟩ : ∃ D, bA ds' = D := ⟨_, rfl⟩
  rw [hD, hD']
  obtain ⟨la0, sa1, sa2, xa3, xa4, sa5, Aa0, ca0, rfl, rfl, k0, k1, k2, k3, k4, k5⟩ := open_Addr h
  obtain ⟨lb0, sb1, sb2, xb3, xb4, sb5, Ab0, cb0, rfl, rfl, j0, j1, j2, j3, j4, j5⟩ := open_Addr h'
  have HZ := Lib.hid (Gd.ofC (show Cells B' n' w shAddr_ [.l lb0, .s sb1, .s sb2, .i 0, .i 0, .s ByteArray.empty] [.slice Ab0 lb0.length cb0, .string sb1, .string sb2, .int .i64 0, .int .i64 0, .string ByteArray.empty] from ⟨j0, Cell.mkS j1, Cell.mkS j2, Cell.mkI (by unfold R64; omega), Cell.mkI (by unfold R64; omega), Cell.mkS (by simp [maxLen]), trivial⟩))
  have hZ : bA [.l lb0, .s sb1, .s sb2, .i 0, .i 0, .s ByteArray.empty] = kBare D' := by rw [← hD']; rfl
  clear h h' k0 k1 k2 k3 k4 k5 j0 j1 j2 j3 j4 j5 e2
  go_enter Try.func75, Try.ntmps75
  go_wp2_with fail
  have BA := Blk.alloc (Blk.new1 w (.cells #[f0, f1, f2, f3, f4, f5, t0, t1, t2, t3, t4, t5] 71) 29 #[.slice Aa0 la0.length ca0, .string sa1, .string sa2, .int .i64 xa3, .int .i64 xa4, .string sa5]) (.cells #[.slice Ab0 lb0.length cb0, .string sb1, .string sb2, .int .i64 xb3, .int .i64 xb4, .string sb5] 29)
  have BB := Blk.new2 w (.cells #[f0, f1, f2, f3, f4, f5, t0, t1, t2, t3, t4, t5] 71) (.cells #[.slice Aa0 la0.length ca0, .string sa1, .string sa2, .int .i64 xa3, .int .i64 xa4, .string sa5] 29) 29 #[.slice Ab0 lb0.length cb0, .string sb1, .string sb2, .int .i64 xb3, .int .i64 xb4, .string sb5]
  have EW := below_a3 w (.cells #[f0, f1, f2, f3, f4, f5, t0, t1, t2, t3, t4, t5] 71) (.cells #[.slice Aa0 la0.length ca0, .string sa1, .string sa2, .int .i64 xa3, .int .i64 xa4, .string sa5] 29) (.cells #[.slice Ab0 lb0.length cb0, .string sb1, .string sb2, .int .i64 xb3, .int .i64 xb4, .string sb5] 29)
  generalize hW : World.alloc _ _ = W at *
  have HW := Lib.hid (H.out.below EW)
  have HZW := Lib.hid (HZ.out.below EW)
  have HEW := Lib.hid EW
  have qa0 := later_cell BA.lt (BA.cell 0)
  have qa1 := later_cell BA.lt (BA.cell 1)
  have qa2 := later_cell BA.lt (BA.cell 2)
  have qa3 := later_cell BA.lt (BA.cell 3)
  have qa4 := later_cell BA.lt (BA.cell 4)
  have qa5 := later_cell BA.lt (BA.cell 5)
  have qb0 := later_cell BB.lt (BB.cell 0)
  have qb1 := later_cell BB.lt (BB.cell 1)
  have qb2 := later_cell BB.lt (BB.cell 2)
  have qb3 := later_cell BB.lt (BB.cell 3)
  have qb4 := later_cell BB.lt (BB.cell 4)
  have qb5 := later_cell BB.lt (BB.cell 5)
  clear EW hW H H' HZ
  refine wp_region_later (by kernel_rfl) (by kernel_rfl) ?_
  repeat (go_big_quiet_step (first
    | (go_at_call 44; exact later_call (adr.withKey_no _ _ _ _ _ _ _ _ _))
    | (go_at_call 41; exact later_call (sameAddr_impl hD hZ rfl ((HW.out.below (later_below _)).now) ((HZW.out.below (later_below _)).now)))))
  refine wpQuiet_nil ?_
  rintro _ ⟨u9, rfl⟩
  have E9 := Lib.hid (below_then HEW.out (later_below u9) (Nat.le_refl _))
  generalize later W u9 = w9 at *
  go_wp2
  go_ret
  exact ⟨rfl, E9.out⟩
set_option maxHeartbeats 2000000 in
theorem hold3 (f0 f1 f2 f3 f4 f5 t0 t1 t2 t3 t4 t5 : Value) {B B' : Nat → Prop} {n n' : Nat} {w : World} {ds ds' : List DC} {vs vs' : List Value} (h : Cells B n w shAddr_ ds vs) (h' : Cells B' n' w shAddr_ ds' vs') :
    Calls Try.prog 77 #[.agg #[f0, f1, f2, f3, f4, f5, t0, t1, t2, t3, t4, t5], .agg vs.toArray, .agg vs'.toArray] w (un.Told w (.bool (holdB 3 (bA ds) (bA ds')))) := by
  have H := Lib.hid (Gd.ofC h)
  have H' := Lib.hid (Gd.ofC h')
  obtain ⟨D, hD⟩ : ∃ D, bA ds = D := ⟨_, rfl⟩
  obtain ⟨D', hD'⟩ : ∃ D, bA ds' = D := ⟨_, rfl⟩
  rw [hD, hD']
  obtain ⟨A, c, rfl, h1, h2, h3, h4, h5⟩ := addr_in h
  obtain ⟨A', c', rfl, g1, g2, g3, g4, g5⟩ := addr_in h'
  rw [hD] at h1 h2 h3 h4 h5 H ⊢
  rw [hD'] at g1 g2 g3 g4 g5 H' ⊢
  have S1 := Lib.hid h1
  have S2 := Lib.hid g1
  have HL := Lib.hid (And.intro h2 g2)
  have hq : holdB 3 D D' = decide ((cm.pre D.path D'.path : Int) = D.path.length) := by
    simp only [holdB, begB]; rw [pre_swap]; simp; omega
  rw [hq]
  unfold maxLen at h2 g2
  clear h h' h1 g1 hq h3 h4 h5 g3 g4 g5 hD hD' H H'
  go_enter Try.func77, Try.ntmps77
  go_wp2_with fail
  have BA := Blk.alloc (Blk.new1 w (.cells #[f0, f1, f2, f3, f4, f5, t0, t1, t2, t3, t4, t5] 72) 29 #[.slice A D.path.length c, .string D.typ, .string D.nam, .int .i64 D.kind, .int .i64 D.n, .string D.key]) (.cells #[.slice A' D'.path.length c', .string D'.typ, .string D'.nam, .int .i64 D'.kind, .int .i64 D'.n, .string D'.key] 29)
  have BB := Blk.new2 w (.cells #[f0, f1, f2, f3, f4, f5, t0, t1, t2, t3, t4, t5] 72) (.cells #[.slice A D.path.length c, .string D.typ, .string D.nam, .int .i64 D.kind, .int .i64 D.n, .string D.key] 29) 29 #[.slice A' D'.path.length c', .string D'.typ, .string D'.nam, .int .i64 D'.kind, .int .i64 D'.n, .string D'.key]
  have EW := below_a3 w (.cells #[f0, f1, f2, f3, f4, f5, t0, t1, t2, t3, t4, t5] 72) (.cells #[.slice A D.path.length c, .string D.typ, .string D.nam, .int .i64 D.kind, .int .i64 D.n, .string D.key] 29) (.cells #[.slice A' D'.path.length c', .string D'.typ, .string D'.nam, .int .i64 D'.kind, .int .i64 D'.n, .string D'.key] 29)
  generalize hW : World.alloc _ _ = W at *
  have S1W := Lib.hid (S1.out.below EW)
  have S2W := Lib.hid (S2.out.below EW)
  have HEW := Lib.hid EW
  have q1 := later_cell BA.lt (BA.cell 0)
  have q2 := later_cell BB.lt (BB.cell 0)
  clear EW hW S1 S2
  refine wp_region_later (by kernel_rfl) (by kernel_rfl) ?_
  repeat (go_big_quiet_step ((go_at_call 55; exact later_call (alike_told (S1W.out.below (later_below _)) (S2W.out.below (later_below _)) HL.out.1 HL.out.2))))
  refine wpQuiet_nil ?_
  rintro _ ⟨u9, rfl⟩
  have E9 := Lib.hid (below_then HEW.out (later_below u9) (Nat.le_refl _))
  generalize later W u9 = w9 at *
  go_wp2
  go_ret
  exact ⟨rfl, E9.out⟩
end Go.Proofs.Ytflfnekaiaplfaa.cf
