/- ExprText of the model. -/
import Derived.Test.YtnjpddbpnmgcpaaGreatDoorExX
import Derived.Deep.RegionHeld3
namespace Go.Proofs.YtnjpddbpnmgcpaaGreatDoor.ex
open ad mem vl dig
open Go.ChangeShapes Go.WideShapes Go.ChangeAt Go.RowKit Go.Lib
set_option linter.unusedVariables false
set_option maxRecDepth 8000
set_option linter.unusedSimpArgs false

theorem l02T (A : Option Addr) (c : Nat) (d : AddrD) (w : World) (h : Strs w A d.path) (hr : addrB d = true) :
    Calls Tryz.prog 17 #[.agg #[.slice A d.path.length c, .string d.typ, .string d.nam, .int .i64 d.kind, .int .i64 d.n, .string d.key]] w (vl.Told w (.string (bs (rawT d)))) := by
  obtain ⟨hp, h1, h2, h3⟩ := txt.addr_parts hr
  obtain ⟨hp1, hp2⟩ := txt.path_words hp
  have z1 := txt.word_size h1
  have z2 := txt.word_size h2
  have h3' := h3
  simp only [keyB, Bool.or_eq_true, Bool.and_eq_true, beq_iff_eq, decide_eq_true_eq] at h3'
  have z3 : d.key.size ≤ 8 := by
    rcases h3' with (⟨⟨k0, k1⟩, k2⟩ | ⟨⟨⟨k0, k1⟩, k2⟩, k3⟩) | ⟨⟨k0, k1⟩, k2⟩
    · omega
    · omega
    · exact txt.word_size k2
  have z4 : d.kind = 1 → 0 ≤ d.n ∧ d.n ≤ 99 := by
    intro e; rcases h3' with (⟨⟨k0, k1⟩, k2⟩ | ⟨⟨⟨k0, k1⟩, k2⟩, k3⟩) | ⟨⟨k0, k1⟩, k2⟩ <;> omega
  exact txt.l02Text_any A c d w h hp1 z1 z2 z3 hp2 z4
end Go.Proofs.YtnjpddbpnmgcpaaGreatDoor.ex
