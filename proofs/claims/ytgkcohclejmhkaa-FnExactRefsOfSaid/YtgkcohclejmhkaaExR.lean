/- ExprRight, of the program and of the model. -/
import Derived.Test.YtgkcohclejmhkaaEx
import Derived.Test.YtgkcohclejmhkaaVlI
import Derived.Test.YtgkcohclejmhkaaCmpB
import Derived.Test.YtgkcohclejmhkaaAdJ
import Derived.Outline
namespace Go.Proofs.Ytgkcohclejmhkaa.ex
open ad mem vl
open Go.ChangeShapes Go.WideShapes Go.ChangeAt Go.RowKit Go.Lib
set_option linter.unusedVariables false
set_option maxRecDepth 8000
set_option linter.unusedSimpArgs false

set_option maxHeartbeats 400000 in
theorem noAddr_any (A : Option Addr) (c : Nat) (d : AddrD) (w : World) (h : Strs w A d.path) (hl : d.path.length ≤ maxLen) :
    Calls Try.prog 112 #[.agg #[.slice A d.path.length c, .string d.typ, .string d.nam, .int .i64 d.kind, .int .i64 d.n, .string d.key]] w (vl.Told w (.bool (adl.eqA d zeroA))) := by
  have H := Lib.hid h
  clear h
  go_enter Try.func112, Try.ntmps112
  go_wp2_with fail
  refine (cm.same_spec A none c 0 d zeroA _ (H.out.alloc _) (Strs.nil _ _) hl (Nat.zero_le _)).mono ?_
  rintro _ w1 ⟨rfl, hb⟩
  have E1 := Lib.hid (below_then (below_a1 _ _) hb (Nat.le_refl _))
  clear hb
  go_wp2
  go_ret
  exact ⟨rfl, E1.out⟩

theorem len_empty {α : Type} (l : List α) : ((l.length : Int) == 0) = l.isEmpty := by cases l <;> simp <;> omega
set_option maxHeartbeats 1000000 in
theorem noFields_any (n lo : Nat) (pa aa : Option Addr) (pc ac : Nat) (e : ExprD) (w : World) (h : In lo n w pa aa e) :
    Calls Try.prog 115 #[.agg #[.int .i64 e.kind, .int .i64 e.val.kind, .int .i64 e.val.n, .string e.val.text, .slice pa e.addr.path.length pc, .string e.addr.typ, .string e.addr.nam, .int .i64 e.addr.kind, .int .i64 e.addr.n, .string e.addr.key, .string e.prop, .slice aa e.args.length ac]] w (vl.Told w (.bool (val0 e.val && adl.eqA e.addr zeroA && decide (e.prop = ByteArray.empty) && e.args.isEmpty))) := by
  have HI := Lib.hid h
  have KS := fun (W : World) (hW : Below w.heap.size w W) => Lib.hid (cm.same_impl pa none pc 0 e.addr zeroA W (HI.out.strs.below hW) (Strs.nil _ _) HI.out.sz.path (Nat.zero_le _))
  generalize hq : adl.eqA e.addr zeroA = q at KS ⊢
  clear h hq
  go_enter Try.func115, Try.ntmps115
  go_wp2_with (go_at_call 85; refine (KS _ (below_a1 _ _)).out.mono ?_; rintro _ w1 ⟨rfl, hb⟩; have E1 := Lib.hid (below_then (below_a1 _ _) hb (Nat.le_refl _)); have q1 := ((Blk.new w _ _).step hb).cell; clear hb)
  all_goals go_ret
  all_goals refine ⟨ret_bool ?_, by first | exact E1.out | exact below_a1 _ _⟩
  all_goals clear HI KS
  all_goals (try simp only [tl_empty, tl_nil] at *)
  all_goals simp_all [val0, len_empty]
end Go.Proofs.Ytgkcohclejmhkaa.ex
