/- The source of draws: its numbers. -/
import Derived.Test.YtifgnebjjkjgoaaDoorRows
import Derived.WalkKit
import Derived.Lib.Hide
import Derived.ProofKit
import Derived.WalkSpells
import Derived.Handy
import Derived.WalkSmall
import Derived.BigQuiet
import Derived.BigRegion
import Derived.Deep.QuietTactic
namespace Go.Proofs.YtifgnebjjkjgoaaDoor.drw
open Go.ChangeShapes Go.WideShapes Go.ChangeAt Go.RowKit
set_option linter.unusedVariables false
set_option linter.unusedSimpArgs false

theorem setCell_twice (W : World) (a : Addr) (v1 v2 : Value) : (W.setCell a v1).setCell a v2 = W.setCell a v2 := by
  simp only [World.setCell]
  congr 1
  apply Array.ext
  · simp
  · intro i h1 h2
    simp only [Array.getElem_modify]
    by_cases h : a.block = i
    · subst h
      simp only [if_true]
      have hb : a.block < W.heap.size := by simpa using h2
      generalize W.heap[a.block]'hb = o
      cases o <;> simp
      split <;> simp
    · simp [h]

/-- a source of draws: its block, and the bytes that it draws from, which lie in another one. -/
structure Src (g : Nat) (w : World) (a : Option Addr) (len cap : Nat) (at' mix size : Int) : Prop where
  row : w.heap[g]? = some (.cells #[.slice a len cap, .int .i64 at', .int .u64 mix, .int .i64 size] 54 (0, 0))
  lo : 0 ≤ at'
  hi : at' ≤ (len : Int)
  small : len ≤ 1048576
  bytes : ∀ j, j < len → ∃ b off z, a = some ⟨b, off, none⟩ ∧ b < g ∧ w.cell? ⟨b, off + j, none⟩ = some (.int .u8 z) ∧ 0 ≤ z ∧ z ≤ 255
def HasSrc (g : Nat) (w : World) : Prop := ∃ a len cap at' mix size, Src g w a len cap at' mix size

/-- only block g has changed. -/
structure Only (g : Nat) (w w' : World) : Prop where
  os : w'.os = w.os
  tape : w'.tape = w.tape
  output : w'.output = w.output
  size : w'.heap.size = w.heap.size
  block : ∀ k, k ≠ g → w'.heap[k]? = w.heap[k]?
theorem Only.refl (g : Nat) (w : World) : Only g w w := ⟨rfl, rfl, rfl, rfl, fun _ _ => rfl⟩
theorem Only.trans {g : Nat} {a b c : World} (h : Only g a b) (k : Only g b c) : Only g a c :=
  ⟨k.os.trans h.os, k.tape.trans h.tape, k.output.trans h.output, k.size.trans h.size, fun i hi => (k.block i hi).trans (h.block i hi)⟩
theorem Only.cell {g : Nat} {w w' : World} (h : Only g w w') {b o : Nat} (hb : b ≠ g) : w'.cell? ⟨b, o, none⟩ = w.cell? ⟨b, o, none⟩ := by
  unfold World.cell?; rw [h.block b hb]
theorem Only.drewN {g : Nat} {w w' : World} (h : Only g w w') (n : Nat) : Only g w (w'.drewN n) := ⟨h.os, h.tape, h.output, h.size, h.block⟩
theorem Only.drew {g : Nat} {w w' : World} (h : Only g w w') : Only g w w'.drew := ⟨h.os, h.tape, h.output, h.size, h.block⟩
theorem Only.set {g : Nat} {w w' : World} (h : Only g w w') (i : Nat) (v : Value) : Only g w (w'.setCell ⟨g, i, none⟩ v) :=
  h.trans ⟨rfl, rfl, rfl, by simp [World.setCell], fun k hk => Below.heap_setCell _ _ _ _ hk⟩
theorem Only.below {g B : Nat} {w0 w w' : World} (hb : Below B w0 w) (h : Only g w w') (hg : B ≤ g) : Below B w0 w' :=
  hb.trans ⟨h.os, h.tape, h.output, Nat.le_of_eq h.size.symm, fun k hk => h.block k (by omega)⟩

/-- the source behind two stores. -/
theorem src_set {g : Nat} {w : World} {a : Option Addr} {len cap : Nat} {at' mix size x y : Int} (h : Src g w a len cap at' mix size) (h0 : 0 ≤ x) (h1 : x ≤ (len : Int)) {w' : World}
    (ho : Only g w w') (hr : w'.heap[g]? = some (.cells #[.slice a len cap, .int .i64 x, .int .u64 y, .int .i64 size] 54 (0, 0))) : Src g w' a len cap x y size :=
  ⟨hr, h0, h1, h.small, fun j hj => by
    obtain ⟨b, off, z, e1, e2, e3, e4⟩ := h.bytes j hj
    exact ⟨b, off, z, e1, e2, by rw [ho.cell (Nat.ne_of_lt e2)]; exact e3, e4⟩⟩

theorem mod_in (X most : Int) (h0 : 0 ≤ X) (hm : 1 < most) (hm2 : most ≤ 9223372036854775807) : 0 ≤ wrap64 (X.tmod most) ∧ wrap64 (X.tmod most) < most := by
  have h1 := Int.tmod_lt_of_pos X (show 0 < most by omega)
  have h2 := Int.tmod_nonneg most h0
  rw [IntWalk.wrap64_in _ ⟨by omega, by omega⟩]
  exact ⟨h2, h1⟩
theorem u64_pos (X : Int) : 0 ≤ IntKind.u64.wrap X := by rw [IntKind.wrap_u64]; omega

theorem row1 {w : World} {g : Nat} {s a b c v : Value} {T : TypeId} (h : w.heap[g]? = some (.cells #[s, a, b, c] T (0, 0))) (_x : Value) : (w.setCell ⟨g, 2, none⟩ v).heap[g]? = some (.cells #[s, a, v, c] T (0, 0)) := by
  rw [heap_setCell_same _ _ _ _ _ _ h]; rfl
theorem row2 {w : World} {g : Nat} {s a b c u v : Value} {T : TypeId} (h : w.heap[g]? = some (.cells #[s, a, b, c] T (0, 0))) (_x _y : Value) : ((w.setCell ⟨g, 1, none⟩ u).setCell ⟨g, 2, none⟩ v).heap[g]? = some (.cells #[s, u, v, c] T (0, 0)) := by
  have h1 := heap_setCell_same _ _ 1 _ _ u h
  rw [heap_setCell_same _ _ _ _ _ _ h1]; rfl

/-- what 'n' tells: a number below most, or 0. -/
def Told (g : Nat) (most : Int) (w : World) (e : Ending) (w' : World) : Prop := ∃ r, e = .returned (.int .i64 r) ∧ 0 ≤ r ∧ (1 < most → r < most) ∧ (most ≤ 1 → r = 0) ∧ HasSrc g w' ∧ Only g w w'

set_option maxHeartbeats 2000000 in
theorem n_any (g : Nat) (most : Int) (w : World) (hm2 : most ≤ 9223372036854775807) (hs : HasSrc g w) :
    Calls Tryd.prog 25 #[.pointer (some ⟨g, 0, none⟩), .int .i64 most] w (Told g most w) := by
  obtain ⟨a, len, cap, at', mix, size, hs⟩ := hs
  by_cases hm : most ≤ 1
  · have HS := Lib.hid hs
    clear hs
    go_enter Tryd.func25, Tryd.ntmps25
    go_wp2
    go_ret
    exact ⟨0, rfl, Int.le_refl _, by omega, fun _ => rfl, ⟨a, len, cap, at', mix, size, HS.out⟩, Only.refl _ _⟩
  have hm1 : 1 < most := by omega
  clear hm
  have c0 : w.cell? ⟨g, 0, none⟩ = some (.slice a len cap) := by rw [cell_of_row _ _ _ _ _ _ hs.row]; rfl
  have c1 : w.cell? ⟨g, 1, none⟩ = some (.int .i64 at') := by rw [cell_of_row _ _ _ _ _ _ hs.row]; rfl
  have c2 : w.cell? ⟨g, 2, none⟩ = some (.int .u64 mix) := by rw [cell_of_row _ _ _ _ _ _ hs.row]; rfl
  have f1 := frozen_of_row _ _ 1 _ _ hs.row
  have f2 := frozen_of_row _ _ 2 _ _ hs.row
  have hcol := fun W v1 v2 => setCell_twice W ⟨g, 2, none⟩ v1 v2
  have hlo := hs.lo
  have hsm := hs.small
  by_cases hlt : at' < (len : Int)
  · obtain ⟨b, off, z, rfl, hbg0, hz, hz0, hz1⟩ := hs.bytes at'.toNat (by omega)
    have hbg : b ≠ g := Nat.ne_of_lt hbg0
    clear hbg0
    have HS := Lib.hid hs
    clear hs
    go_enter Tryd.func25, Tryd.ntmps25
    go_wp2
    go_quiet (fail)
    go_wp2
    go_quiet (fail)
    go_wp2
    go_region
    generalize bits .xor .u64 mix (IntKind.u64.wrap (mix * 8192)) = m1
    go_wp2
    go_region
    go_wp2
    go_region
    go_wp2
    go_ret
    obtain ⟨r0, r1⟩ := mod_in _ most (u64_pos _) hm1 hm2
    refine ⟨_, rfl, r0, fun _ => r1, fun h => by omega, ⟨_, len, cap, at' + 1, _, size, src_set HS.out (by omega) (by omega) ((((((Only.refl g w).drewN _).set 1 _).set 2 _).drew.drew).drew) (row2 (w := w.drewN _) HS.out.row undef undef)⟩, ((((((Only.refl g w).drewN _).set 1 _).set 2 _).drew.drew).drew)⟩
  · have HS := Lib.hid hs
    have hge : (len : Int) ≤ at' := by omega
    clear hs hlt
    go_enter Tryd.func25, Tryd.ntmps25
    go_wp2
    go_quiet (fail)
    go_wp2
    go_region
    generalize bits .xor .u64 mix (IntKind.u64.wrap (mix * 8192)) = m1
    go_wp2
    go_region
    go_wp2
    go_region
    go_wp2
    go_ret
    obtain ⟨r0, r1⟩ := mod_in _ most (u64_pos _) hm1 hm2
    refine ⟨_, rfl, r0, fun _ => r1, fun h => by omega, ⟨_, len, cap, at', _, size, src_set HS.out (by omega) (by have := HS.out.hi; omega) ((((Only.refl g w).drewN _).set 2 _).drew.drew) (row1 (w := w.drewN _) HS.out.row undef)⟩, ((((Only.refl g w).drewN _).set 2 _).drew.drew)⟩
end Go.Proofs.YtifgnebjjkjgoaaDoor.drw
