/- strconv.ParseInt at every text: a number, or an error. -/
import Derived.Test.YtfjfneliajmjbaaDoorNumP
import Derived.Test.YtfjfneliajmjbaaDoorDig
import Derived.Test.YtfjfneliajmjbaaDoorVTold
import Derived.Test.YtfjfneliajmjbaaDoorShelf
import Derived.Lib.SmallJoins
import Derived.Lib.AtoiErrMem
namespace Go.Proofs.YtfjfneliajmjbaaDoor.par
open ad mem vl dig nump
open Go.ChangeShapes Go.WideShapes Go.ChangeAt Go.RowKit Go.Lib
set_option linter.unusedVariables false
set_option maxRecDepth 8000
set_option linter.unusedSimpArgs false

/-- the library's two errors are there. -/
structure Errs (w : World) : Prop where
  s : ∃ t p, w.cell? ⟨1, 0, none⟩ = some (.iface t p)
  r : ∃ t p, w.cell? ⟨2, 0, none⟩ = some (.iface t p)
theorem Errs.below {w w' : World} (h : Errs w) (hb : Below w.heap.size w w') : Errs w' := by
  obtain ⟨⟨t, p, h1⟩, ⟨t', p', h2⟩⟩ := h
  have l1 := World.block_lt_of_cell? _ _ h1
  have l2 := World.block_lt_of_cell? _ _ h2
  exact ⟨⟨t, p, by rw [hb.cell (p := ⟨_, 0, none⟩) l1]; exact h1⟩, ⟨t', p', by rw [hb.cell (p := ⟨_, 0, none⟩) l2]; exact h2⟩⟩

theorem parse_ok (s : ByteArray) (v : Int) (h : Lib.parseIntB 64 s.data.toList = .ok v) (hs : s.size ≤ 1000000000) (w : World) :
    Calls Tryd.prog 41 #[.string s, .int .i64 10, .int .i64 64] w (vl.Told w (.tuple #[.int .i64 v, .nilIface])) := by
  refine (Tryd.strconv_ParseInt_10_at64_ok s (by omega) v h w).mono ?_
  rintro _ w' ⟨rfl, hw⟩
  refine ⟨rfl, ?_⟩
  rcases hw with rfl | ⟨t, rfl⟩
  · exact Below.refl _ _
  · exact bytesWorld_below _ _ _

def Bad (w : World) (e : Ending) (w' : World) : Prop := ∃ n t p, e = .returned (.tuple #[.int .i64 n, .iface t p]) ∧ Below w.heap.size w w'
theorem parse_bad (s : ByteArray) (h : ∀ v, Lib.parseIntB 64 s.data.toList ≠ .ok v) (hs : s.size ≤ 1000000000) (w : World) (hE : Errs w) :
    Calls Tryd.prog 41 #[.string s, .int .i64 10, .int .i64 64] w (Bad w) := by
  obtain ⟨⟨ts, p1, h1⟩, ⟨tr, p2, h2⟩⟩ := hE
  cases hp : Lib.parseIntB 64 s.data.toList with
  | ok v => exact absurd hp (h v)
  | range =>
    refine (Any.strconv_ParseInt_10_at64_range Tryd.laysC174 s (by omega) hp _ w h2 (.inr ⟨_, _, rfl⟩)).mono ?_
    rintro _ w' ⟨N, rfl, _, _, hb⟩
    exact ⟨_, _, _, rfl, hb⟩
  | _ =>
    refine (Any.strconv_ParseInt_10_at64_syntax Tryd.laysC174 s (by omega) hp _ w h1 (.inr ⟨_, _, rfl⟩)).mono ?_
    rintro _ w' ⟨N, rfl, _, _, hb⟩
    exact ⟨_, _, _, rfl, hb⟩
end Go.Proofs.YtfjfneliajmjbaaDoor.par
