/- The program's keys and AddrRight. -/
import Derived.Test.YtgkcohclejmhkaaAdR
import Derived.Deep.RegionWith
namespace Go.Proofs.Ytgkcohclejmhkaa.adr
open ad mem
open Go.ChangeShapes Go.WideShapes Go.ChangeAt Go.RowKit Go.Lib
set_option linter.unusedVariables false
set_option linter.unusedSimpArgs false

/-- the key that keyOf tells. -/
def keyV (kind n : Int) (key : ByteArray) : Value :=
  if kind = 1 then .iface 147 (.int .i64 n) else if kind = 2 then .iface 148 (.string key) else .iface 150 (.agg #[])

set_option maxHeartbeats 1000000 in
theorem keyOf_any (A : Option Addr) (c : Nat) (d : AddrD) (w : World) :
    Calls Try.prog 93 #[.agg #[.slice A d.path.length c, .string d.typ, .string d.nam, .int .i64 d.kind, .int .i64 d.n, .string d.key]] w (Told w (keyV d.kind d.n d.key)) := by
  go_enter Try.func93, Try.ntmps93
  go_wp2
  all_goals go_ret
  all_goals refine ⟨?_, below_a1 _ _⟩
  all_goals simp_all [keyV]

theorem as_num_num (x : Int) (w : World) : (Instr.typeAssert (.iface 147 (.int .i64 x)) 103 147 true).run Try.prog w = .ok (.tuple #[.int .i64 x, .bool true]) w := by kernel_rfl
theorem as_num_word (x : Int) (w : World) : (Instr.typeAssert (.iface 147 (.int .i64 x)) 103 148 true).run Try.prog w = .ok (.tuple #[.string ByteArray.empty, .bool false]) w := by kernel_rfl
theorem as_word_num (x : ByteArray) (w : World) : (Instr.typeAssert (.iface 148 (.string x)) 103 147 true).run Try.prog w = .ok (.tuple #[.int .i64 0, .bool false]) w := by kernel_rfl
theorem as_word_word (x : ByteArray) (w : World) : (Instr.typeAssert (.iface 148 (.string x)) 103 148 true).run Try.prog w = .ok (.tuple #[.string x, .bool true]) w := by kernel_rfl
theorem as_no_num (w : World) : (Instr.typeAssert (.iface 150 (.agg #[])) 103 147 true).run Try.prog w = .ok (.tuple #[.int .i64 0, .bool false]) w := by kernel_rfl
theorem as_no_word (w : World) : (Instr.typeAssert (.iface 150 (.agg #[])) 103 148 true).run Try.prog w = .ok (.tuple #[.string ByteArray.empty, .bool false]) w := by kernel_rfl

set_option maxHeartbeats 1000000 in
theorem withKey_no (A : Option Addr) (n c : Nat) (T N K : ByteArray) (k i : Int) (w : World) :
    Calls Try.prog 70 #[.agg #[.slice A n c, .string T, .string N, .int .i64 k, .int .i64 i, .string K], .iface 150 (.agg #[])] w (Told w (.agg #[.slice A n c, .string T, .string N, .int .i64 0, .int .i64 0, .string ByteArray.empty])) := by
  have f1 := as_no_num
  have f2 := as_no_word
  go_enter Try.func70, Try.ntmps70
  go_wp2
  refine bodyPost_ret (v := .agg #[.slice A n c, .string T, .string N, .int .i64 0, .int .i64 0, .string ByteArray.empty]) (by simp [results, Try.results70, go_sem]; rfl) rfl ⟨rfl, ?_⟩
  exact below_a2 _ _ _

set_option maxHeartbeats 1000000 in
theorem withKey_num (A : Option Addr) (n c : Nat) (T N K : ByteArray) (k i : Int) (x : Int) (w : World) :
    Calls Try.prog 70 #[.agg #[.slice A n c, .string T, .string N, .int .i64 k, .int .i64 i, .string K], .iface 147 (.int .i64 x)] w (Told w (.agg #[.slice A n c, .string T, .string N, .int .i64 1, .int .i64 x, .string ByteArray.empty])) := by
  have f1 := as_num_num
  have f2 := as_num_word
  go_enter Try.func70, Try.ntmps70
  go_wp2
  refine bodyPost_ret (v := .agg #[.slice A n c, .string T, .string N, .int .i64 1, .int .i64 x, .string ByteArray.empty]) (by simp [results, Try.results70, go_sem]; rfl) rfl ⟨rfl, ?_⟩
  exact below_a2 _ _ _

set_option maxHeartbeats 1000000 in
theorem withKey_word (A : Option Addr) (n c : Nat) (T N K : ByteArray) (k i : Int) (x : ByteArray) (w : World) :
    Calls Try.prog 70 #[.agg #[.slice A n c, .string T, .string N, .int .i64 k, .int .i64 i, .string K], .iface 148 (.string x)] w (Told w (.agg #[.slice A n c, .string T, .string N, .int .i64 2, .int .i64 0, .string x])) := by
  have f1 := as_word_num
  have f2 := as_word_word
  go_enter Try.func70, Try.ntmps70
  go_wp2
  refine bodyPost_ret (v := .agg #[.slice A n c, .string T, .string N, .int .i64 2, .int .i64 0, .string x]) (by simp [results, Try.results70, go_sem]) rfl ⟨rfl, ?_⟩
  exact below_a2 _ _ _

theorem nil_no (w : World) : (nilAhead 308 150 (.agg #[]) "loop.example/g00770/impl.right").run Try.prog w = .ok (some false) w := by kernel_rfl
theorem nil_num (x : Int) (w : World) : (nilAhead 308 147 (.int .i64 x) "loop.example/g00770/impl.right").run Try.prog w = .ok (some false) w := by kernel_rfl
theorem nil_word (x : ByteArray) (w : World) : (nilAhead 308 148 (.string x) "loop.example/g00770/impl.right").run Try.prog w = .ok (some false) w := by kernel_rfl
theorem met_no (w : World) : (method 308 150 (.agg #[]) "loop.example/g00770/impl.right").run Try.prog w = .ok (177, .agg #[]) w := by kernel_rfl
theorem met_num (x : Int) (w : World) : (method 308 147 (.int .i64 x) "loop.example/g00770/impl.right").run Try.prog w = .ok (173, .int .i64 x) w := by kernel_rfl
theorem met_word (x : ByteArray) (w : World) : (method 308 148 (.string x) "loop.example/g00770/impl.right").run Try.prog w = .ok (175, .string x) w := by kernel_rfl

theorem right_no (w : World) : Calls Try.prog 177 #[.agg #[]] w fun e w' => e = .returned (.bool true) ∧ Below w.heap.size w w' := by
  go_enter Try.func177, Try.ntmps177
  go_wp2
  go_ret
  exact ⟨rfl, by first | exact Below.refl _ _ | exact below_a1 _ _⟩
theorem right_num (x : Int) (w : World) : Calls Try.prog 173 #[.int .i64 x] w fun e w' => e = .returned (.bool (decide (0 ≤ x) && decide (x ≤ 99))) ∧ w = w' := by
  by_cases h1 : 0 ≤ x <;> by_cases h2 : x ≤ 99
  all_goals
    go_enter Try.func173, Try.ntmps173
    go_wp2
    go_ret
    exact ⟨ret_bool (by first | (simp; done) | (simp; omega)), rfl⟩
theorem right_word (x : ByteArray) (w : World) (hx : x.size ≤ maxLen) : Calls Try.prog 175 #[.string x] w fun e w' => e = .returned (.bool (wordB x)) ∧ w = w' := by
  go_enter Try.func175, Try.ntmps175
  go_wp2_with (go_at_call 95; refine (wd.impl_any _ _ hx).mono ?_; rintro e w' ⟨rfl, rfl⟩)
  go_ret
  exact ⟨rfl, rfl⟩
end Go.Proofs.Ytgkcohclejmhkaa.adr
