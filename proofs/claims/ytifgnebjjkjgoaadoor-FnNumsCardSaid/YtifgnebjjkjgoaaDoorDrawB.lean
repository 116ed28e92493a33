/- The source of draws: how it is made; a choice; a number at a limit. -/
import Derived.Test.YtifgnebjjkjgoaaDoorRows
import Derived.Test.YtifgnebjjkjgoaaDoorDraw
import Derived.WalkKit
import Derived.Lib.Hide
import Derived.ProofKit
import Derived.WalkSpells
import Derived.Handy
import Derived.WalkSmall
import Derived.BigQuiet
import Derived.BigRegion
import Derived.Deep.QuietTactic
namespace Go.Proofs.YtifgnebjjkjgoaaDoor.drw
open Go.ChangeShapes Go.WideShapes Go.ChangeAt Go.RowKit
set_option linter.unusedVariables false
set_option linter.unusedSimpArgs false

/-- of what was there only block g may have changed. -/
structure Grw (g : Nat) (w w' : World) : Prop where
  os : w'.os = w.os
  tape : w'.tape = w.tape
  output : w'.output = w.output
  size : w.heap.size ≤ w'.heap.size
  block : ∀ k, k < w.heap.size → k ≠ g → w'.heap[k]? = w.heap[k]?
theorem Grw.refl (g : Nat) (w : World) : Grw g w w := ⟨rfl, rfl, rfl, Nat.le_refl _, fun _ _ _ => rfl⟩
theorem Grw.trans {g : Nat} {a b c : World} (h : Grw g a b) (k : Grw g b c) : Grw g a c :=
  ⟨k.os.trans h.os, k.tape.trans h.tape, k.output.trans h.output, Nat.le_trans h.size k.size, fun i hi hg => (k.block i (Nat.lt_of_lt_of_le hi h.size) hg).trans (h.block i hi hg)⟩
theorem Only.grw {g : Nat} {w w' : World} (h : Only g w w') : Grw g w w' := ⟨h.os, h.tape, h.output, Nat.le_of_eq h.size.symm, fun k _ hg => h.block k hg⟩
theorem Grw.of_below {g : Nat} {w w' : World} (h : Below w.heap.size w w') : Grw g w w' := ⟨h.os, h.tape, h.output, h.size, fun k hk _ => h.block k hk⟩
theorem Grw.alloc {g : Nat} {w w' : World} (h : Grw g w w') (o : Obj) : Grw g w (w'.alloc o) :=
  h.trans (Grw.of_below ((Below.refl _ _).alloc (Nat.le_refl _) o))
theorem Grw.drewN {g : Nat} {w w' : World} (h : Grw g w w') (n : Nat) : Grw g w (w'.drewN n) := ⟨h.os, h.tape, h.output, h.size, h.block⟩
theorem Grw.drew {g : Nat} {w w' : World} (h : Grw g w w') : Grw g w w'.drew := ⟨h.os, h.tape, h.output, h.size, h.block⟩
theorem Grw.below {g B : Nat} {w0 w w' : World} (hb : Below B w0 w) (h : Grw g w w') (hg : B ≤ g) (hB : B ≤ w.heap.size) : Below B w0 w' :=
  hb.trans ⟨h.os, h.tape, h.output, h.size, fun k hk => h.block k (by omega) (by omega)⟩

theorem has_lt {g : Nat} {w : World} (h : HasSrc g w) : g < w.heap.size := by
  obtain ⟨a, len, cap, at', mix, size, hs⟩ := h
  exact (Array.getElem?_eq_some_iff.1 hs.row).1
/-- the source in a world in which neither its block nor an older one has changed. -/
theorem has_below {g : Nat} {w w' : World} (h : HasSrc g w) (hb : Below w.heap.size w w') : HasSrc g w' := by
  obtain ⟨a, len, cap, at', mix, size, hs⟩ := h
  refine ⟨a, len, cap, at', mix, size, ?_, hs.lo, hs.hi, hs.small, fun j hj => ?_⟩
  · rw [hb.block _ (has_lt ⟨a, len, cap, at', mix, size, hs⟩)]; exact hs.row
  · obtain ⟨b, off, z, e1, e2, e3, e4⟩ := hs.bytes j hj
    refine ⟨b, off, z, e1, e2, ?_, e4⟩
    rw [hb.cell (p := ⟨b, off + j, none⟩) (block_lt_of_cell e3)]; exact e3
theorem has_alloc {g : Nat} {w : World} (h : HasSrc g w) (o : Obj) : HasSrc g (w.alloc o) := has_below h ((Below.refl _ _).alloc (Nat.le_refl _) o)

def ToldB (g : Nat) (w : World) (e : Ending) (w' : World) : Prop := ∃ b, e = .returned (.bool b) ∧ HasSrc g w' ∧ Only g w w'
set_option maxHeartbeats 1000000 in
theorem one_any (g : Nat) (of : Int) (w : World) (hm2 : of ≤ 9223372036854775807) (hs : HasSrc g w) :
    Calls Tryd.prog 24 #[.pointer (some ⟨g, 0, none⟩), .int .i64 of] w (ToldB g w) := by
  have K := Lib.hid (n_any g of w hm2 hs)
  clear hs
  go_enter Tryd.func24, Tryd.ntmps24
  go_wp2_with fail
  refine K.out.mono ?_
  rintro e w2 ⟨r, rfl, h0, _, _, hs2, ho⟩
  have HS := Lib.hid hs2
  clear hs2
  go_wp2
  go_ret
  exact ⟨_, rfl, HS.out, ho⟩

def ToldI (g : Nat) (w : World) (e : Ending) (w' : World) : Prop := ∃ r, e = .returned (.int .i64 r) ∧ -9223372036854775808 ≤ r ∧ r ≤ 9223372036854775807 ∧ HasSrc g w' ∧ Grw g w w'
theorem edge_cells (cs : Array Value) (r : Nat) (hr : r < cs.size) (hall : ∀ i (h : i < cs.size), ∃ x, cs[i] = .int .i64 x ∧ -9223372036854775808 ≤ x ∧ x ≤ 9223372036854775807) :
    ∃ x, cs[r]? = some (.int .i64 x) ∧ -9223372036854775808 ≤ x ∧ x ≤ 9223372036854775807 := by
  obtain ⟨x, e, h⟩ := hall r hr
  exact ⟨x, by rw [Array.getElem?_eq_getElem hr, e], h⟩
set_option maxHeartbeats 1000000 in
theorem edge_any (g : Nat) (w : World) (hs : HasSrc g w) :
    Calls Tryd.prog 29 #[.pointer (some ⟨g, 0, none⟩)] w (ToldI g w) := by
  have hg := has_lt hs
  have HS := Lib.hid hs
  clear hs
  go_enter Tryd.func29, Tryd.ntmps29
  go_wp2_with fail
  refine (n_any g 14 _ (by omega) (has_alloc HS.out _)).mono ?_
  rintro e w2 ⟨r, rfl, h0, h1, _, hs2, ho⟩
  have hr : r < 14 := h1 (by omega)
  have HS2 := Lib.hid hs2
  clear hs2 h1
  have hc : ∃ x, w2.cell? ⟨w.heap.size, r.toNat, none⟩ = some (.int .i64 x) ∧ -9223372036854775808 ≤ x ∧ x ≤ 9223372036854775807 := by
    rw [ho.cell (by omega), World.cell?_alloc_at _ _ _ _ rfl]
    refine edge_cells _ _ (by simp; omega) ?_
    intro i hi
    match i, hi with
    | 0, _ | 1, _ | 2, _ | 3, _ | 4, _ | 5, _ | 6, _ | 7, _ | 8, _ | 9, _ | 10, _ | 11, _ | 12, _ | 13, _ => exact ⟨_, rfl, by omega, by omega⟩
  obtain ⟨x, hx, hx0, hx1⟩ := hc
  have hr0 : r < ((14 : Nat) : Int) := by omega
  go_wp2
  go_ret
  exact ⟨x, rfl, hx0, hx1, HS2.out, ((Grw.refl _ _).alloc _).trans ho.grw⟩
end Go.Proofs.YtifgnebjjkjgoaaDoor.drw
