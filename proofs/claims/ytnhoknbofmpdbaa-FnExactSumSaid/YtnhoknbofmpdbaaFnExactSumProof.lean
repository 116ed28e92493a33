/- Sum, called with any two values, tells what its model tells, and changes nothing. No condition. -/
import Derived.Test.YtnhoknbofmpdbaaRows
import Derived.WalkKit
import Derived.ProofKit
import Derived.OpenShut
import Derived.ShutString
import Derived.ChangeOld
import Derived.Below
import Derived.Lib.Hide
import Derived.Test.YtnhoknbofmpdbaaOpV
import Derived.Test.YtnhoknbofmpdbaaSum
import Derived.Deep.RegionHeld3
import Derived.Deep.DeepCutAuto
namespace Go.Proofs.Ytnhoknbofmpdbaa.fnExactSum
open Go.ChangeShapes Go.WideShapes Go.ChangeAt Go.RowKit
open Go.ChangeMaps (open_string shut_string)
set_option linter.unusedVariables false
set_option linter.unusedSimpArgs false

theorem own : ownKnob Try.prog.godebug = none := by kernel_rfl
theorem laidOut : laidOutB Try.prog = true := by kernel_rfl

open vl mem
theorem Blk.set_ {w : World} {g : Nat} {T : TypeId} {cs : Array Value} (h : Blk w g T cs) (i : Nat) (u : Value) : Blk (w.setCell ⟨g, i, none⟩ u) g T (cs.setIfInBounds i u) := by
  unfold Blk at h ⊢
  simp [World.setCell, Array.getElem?_modify, h]
theorem blk4 {w : World} {g : Nat} {T : TypeId} {x y z v : Value} (h : Blk w g T #[x, y, z, v]) (a b c d : Value) : Blk ((((w.setCell ⟨g, 0, none⟩ a).setCell ⟨g, 1, none⟩ b).setCell ⟨g, 2, none⟩ c).setCell ⟨g, 3, none⟩ d) g T #[a, b, c, d] := (Blk.set_ (Blk.set_ (Blk.set_ (Blk.set_ h 0 a) 1 b) 2 c) 3 d)
theorem below4 {B : Nat} {a w : World} (h : Below B a w) {g : Nat} (hg : B ≤ g) (x y z v : Value) : Below B a ((((w.setCell ⟨g, 0, none⟩ x).setCell ⟨g, 1, none⟩ y).setCell ⟨g, 2, none⟩ z).setCell ⟨g, 3, none⟩ v) :=
  Below.setCell (Below.setCell (Below.setCell (Below.setCell h (p := ⟨g, 0, none⟩) hg x) (p := ⟨g, 1, none⟩) hg y) (p := ⟨g, 2, none⟩) hg z) (p := ⟨g, 3, none⟩) hg v
theorem far4 {w : World} {g g' : Nat} {T : TypeId} {cs : Array Value} (h : Blk w g T cs) (hg : ¬ g = g') (x y z v : Value) : Blk ((((w.setCell ⟨g', 0, none⟩ x).setCell ⟨g', 1, none⟩ y).setCell ⟨g', 2, none⟩ z).setCell ⟨g', 3, none⟩ v) g T cs :=
  Blk.far (Blk.far (Blk.far (Blk.far h (p := ⟨g', 0, none⟩) hg x) (p := ⟨g', 1, none⟩) hg y) (p := ⟨g', 2, none⟩) hg z) (p := ⟨g', 3, none⟩) hg v
theorem blk_dn {w : World} {g : Nat} {T : TypeId} {cs : Array Value} (h : Blk w g T cs) (n : Nat) : Blk (w.drewN n) g T cs := h

set_option maxHeartbeats 4000000 in
set_option maxRecDepth 100000 in
theorem walk (D0 : vl.ValD) (D1 : vl.ValD) (w : World) (w0 : opv.ValIn D0) (w1 : opv.ValIn D1) :
    Calls Try.prog 5 #[.agg #[.int .i64 D0.kind, .int .i64 D0.n, .string D0.text], .agg #[.int .i64 D1.kind, .int .i64 D1.n, .string D1.text]] w fun e w' => e = .returned (.bool true) ∧ Below w.heap.size w w' := by
  have hs0 := w0.text
  have hs1 := w1.text
  clear w0 w1
  have HS := Lib.hid (And.intro hs0 hs1)
  clear hs0 hs1
  by_cases hc : (D0.text.size : Int) ≤ 1048576
  · have HC := Lib.hid hc
    have hx0 : (0 : Int) ≤ 1048576 - D0.text.size := by omega
    have hx1 : (1048576 : Int) - D0.text.size ≤ 1048576 := by omega
    clear hc
    by_cases hd : (D1.text.size : Int) ≤ 1048576 - D0.text.size
    · have HD := Lib.hid hd
      have hy0 : (0 : Int) ≤ 1048576 - D0.text.size - D1.text.size := by omega
      clear hd
      have KS := fun W => Lib.hid (sumA_spec D0 D1 W HS.out.1 HS.out.2)
      have KI := fun W => Lib.hid (sumA_impl D0 D1 W HS.out.1 HS.out.2)
      generalize sumK D0 D1 = K at KS KI
      generalize sumN D0 D1 = N at KS KI
      generalize sumC D0 D1 = C at KS KI
      generalize ByteArray.empty = T at KS KI
      go_enter Try.func5, Try.ntmps5
      go_wp2_with fail
      refine (sz_val_ok D0 1048576 _ (by omega) (by omega) HS.out.1 HC.out).mono ?_
      rintro _ w1' ⟨rfl, hb⟩
      have E1 := Lib.hid (below_then (below_a2 _ _ _) hb (Nat.le_refl _))
      have A1 := Lib.hid (((Blk.new w _ _).alloc _).step hb)
      have B1 := Lib.hid ((Blk.new1 w _ _ _).step hb)
      have a1 := A1.out.cell
      have b1 := B1.out.cell
      clear hb
      go_wp2_with fail
      refine (sz_val_ok D1 (1048576 - D0.text.size) _ hx0 hx1 HS.out.2 HD.out).mono ?_
      rintro _ w2' ⟨rfl, hb⟩
      have E2 := Lib.hid (below_then E1.out hb (Nat.le_refl _))
      have A2 := Lib.hid (A1.out.step hb)
      have B2 := Lib.hid (B1.out.step hb)
      have a2 := A2.out.cell
      have b2 := B2.out.cell
      clear hb a1 b1 A1 B1 E1
      go_wp2_with fail
      go_cut [6] (fun s6 wx => ∃ h, s6 = .pointer (some ⟨h, 0, none⟩) ∧ Blk wx h 38 #[.int .i64 K, .int .i64 N, .string T, .int .i64 C] ∧ Below w.heap.size w wx ∧ Blk wx w.heap.size 31 #[.int .i64 D0.kind, .int .i64 D0.n, .string D0.text] ∧ Blk wx (w.heap.size + 1) 31 #[.int .i64 D1.kind, .int .i64 D1.n, .string D1.text])
      case first =>
        have u2a : ¬ w2'.heap.size = w.heap.size := (by have := A2.out.lt; omega)
        have u2b : ¬ w2'.heap.size = w.heap.size + 1 := (by have := B2.out.lt; omega)
        have u2c : ¬ w.heap.size = w2'.heap.size := (by have := A2.out.lt; omega)
        have u2d : ¬ w.heap.size + 1 = w2'.heap.size := (by have := B2.out.lt; omega)
        go_region_held3 (fun w' => w'.cell? ⟨w.heap.size, 0, none⟩ = some (.int .i64 D0.kind) ∧ w'.cell? ⟨w.heap.size, 1, none⟩ = some (.int .i64 D0.n) ∧ w'.cell? ⟨w.heap.size, 2, none⟩ = some (.string D0.text) ∧ w'.cell? ⟨w.heap.size + 1, 0, none⟩ = some (.int .i64 D1.kind) ∧ w'.cell? ⟨w.heap.size + 1, 1, none⟩ = some (.int .i64 D1.n) ∧ w'.cell? ⟨w.heap.size + 1, 2, none⟩ = some (.string D1.text)) (go_keep)
          (first
          | (go_at_call_of 15 (Value.string D0.text); refine (to_val D0 _).mono ?_; rintro _ w3' ⟨rfl, hb⟩; have hbb : Below w2'.heap.size w2' w3' := (by (refine below_then ?_ hb (Nat.le_refl _); repeat (first | exact Below.refl _ _ | refine below_dn ?_ _ | refine Below.drew ?_ | refine below_da ?_ (Nat.le_refl _) _))); have E3 := Lib.hid (below_then E2.out hbb (Nat.le_refl _)); have A3 := Lib.hid (A2.out.step hbb); have a3 := A3.out.cell; have B3 := Lib.hid (B2.out.step hbb); have b3 := B3.out.cell; (try (have N3 := Lib.hid (N2.out.step hbb); have n3 := N3.out.cell; have nf3 := N3.out.free; have nz3 := N3.out.lt; clear n2 nf2 nz2)); (try (have N3 : Hid (Blk w3' w2'.heap.size 38 _) := (by (show Blk _ _ _ _; exact (Blk.new w2' 38 _).step hb)); have n3 := N3.out.cell; have nf3 := N3.out.free; have nz3 := N3.out.lt)); (try (have N3 : Hid (Blk w3' w2'.heap.size 38 _) := (by (show Blk _ _ _ _; exact (blk_dn (Blk.new w2' 38 _) _).step hb)); have n3 := N3.out.cell; have nf3 := N3.out.free; have nz3 := N3.out.lt)); (try (have N3 : Hid (Blk w3' w2'.heap.size 38 _) := (by (show Blk _ _ _ _; exact (Blk.new (w2'.drewN _) 38 _).step hb)); have n3 := N3.out.cell; have nf3 := N3.out.free; have nz3 := N3.out.lt)); have u3a : ¬ w3'.heap.size = w.heap.size := (by have := A3.out.lt; omega); have u3b : ¬ w3'.heap.size = w.heap.size + 1 := (by have := B3.out.lt; omega); have u3c : ¬ w.heap.size = w3'.heap.size := (by have := A3.out.lt; omega); have u3d : ¬ w.heap.size + 1 = w3'.heap.size := (by have := B3.out.lt; omega); clear hb hbb)
          | (go_at_call_of 15 (Value.string D1.text); refine (to_val D1 _).mono ?_; rintro _ w4' ⟨rfl, hb⟩; have hbb : Below w3'.heap.size w3' w4' := (by (refine below_then ?_ hb (Nat.le_refl _); repeat (first | exact Below.refl _ _ | refine below_dn ?_ _ | refine Below.drew ?_ | refine below_da ?_ (Nat.le_refl _) _))); have E4 := Lib.hid (below_then E3.out hbb (Nat.le_refl _)); have A4 := Lib.hid (A3.out.step hbb); have a4 := A4.out.cell; have B4 := Lib.hid (B3.out.step hbb); have b4 := B4.out.cell; (try (have N4 := Lib.hid (N3.out.step hbb); have n4 := N4.out.cell; have nf4 := N4.out.free; have nz4 := N4.out.lt; clear n3 nf3 nz3)); (try (have N4 : Hid (Blk w4' w3'.heap.size 38 _) := (by (show Blk _ _ _ _; exact (Blk.new w3' 38 _).step hb)); have n4 := N4.out.cell; have nf4 := N4.out.free; have nz4 := N4.out.lt)); (try (have N4 : Hid (Blk w4' w3'.heap.size 38 _) := (by (show Blk _ _ _ _; exact (blk_dn (Blk.new w3' 38 _) _).step hb)); have n4 := N4.out.cell; have nf4 := N4.out.free; have nz4 := N4.out.lt)); (try (have N4 : Hid (Blk w4' w3'.heap.size 38 _) := (by (show Blk _ _ _ _; exact (Blk.new (w3'.drewN _) 38 _).step hb)); have n4 := N4.out.cell; have nf4 := N4.out.free; have nz4 := N4.out.lt)); have u4a : ¬ w4'.heap.size = w.heap.size := (by have := A4.out.lt; omega); have u4b : ¬ w4'.heap.size = w.heap.size + 1 := (by have := B4.out.lt; omega); have u4c : ¬ w.heap.size = w4'.heap.size := (by have := A4.out.lt; omega); have u4d : ¬ w.heap.size + 1 = w4'.heap.size := (by have := B4.out.lt; omega); clear hb hbb)
          | (go_at_call 17; refine ((KS _).out).mono ?_; rintro _ w5' ⟨rfl, hb⟩; have hbb : Below w4'.heap.size w4' w5' := (by (refine below_then ?_ hb (Nat.le_refl _); repeat (first | exact Below.refl _ _ | refine below_dn ?_ _ | refine Below.drew ?_ | refine below_da ?_ (Nat.le_refl _) _))); have E5 := Lib.hid (below_then E4.out hbb (Nat.le_refl _)); have A5 := Lib.hid (A4.out.step hbb); have a5 := A5.out.cell; have B5 := Lib.hid (B4.out.step hbb); have b5 := B5.out.cell; (try (have N5 := Lib.hid (N4.out.step hbb); have n5 := N5.out.cell; have nf5 := N5.out.free; have nz5 := N5.out.lt; clear n4 nf4 nz4)); (try (have N5 : Hid (Blk w5' w4'.heap.size 38 _) := (by (show Blk _ _ _ _; exact (Blk.new w4' 38 _).step hb)); have n5 := N5.out.cell; have nf5 := N5.out.free; have nz5 := N5.out.lt)); (try (have N5 : Hid (Blk w5' w4'.heap.size 38 _) := (by (show Blk _ _ _ _; exact (blk_dn (Blk.new w4' 38 _) _).step hb)); have n5 := N5.out.cell; have nf5 := N5.out.free; have nz5 := N5.out.lt)); (try (have N5 : Hid (Blk w5' w4'.heap.size 38 _) := (by (show Blk _ _ _ _; exact (Blk.new (w4'.drewN _) 38 _).step hb)); have n5 := N5.out.cell; have nf5 := N5.out.free; have nz5 := N5.out.lt)); have u5a : ¬ w5'.heap.size = w.heap.size := (by have := A5.out.lt; omega); have u5b : ¬ w5'.heap.size = w.heap.size + 1 := (by have := B5.out.lt; omega); have u5c : ¬ w.heap.size = w5'.heap.size := (by have := A5.out.lt; omega); have u5d : ¬ w.heap.size + 1 = w5'.heap.size := (by have := B5.out.lt; omega); clear hb hbb))
        all_goals (go_wp2_with fail; go_meet; refine ⟨_, rfl, ?_, ?_, ?_, ?_⟩)
        iterate 4
          · (first | with_reducible exact Blk.new _ _ _ | with_reducible exact blk4 N5.out _ _ _ _)
          · (first | with_reducible exact below_da E5.out (Nat.le_refl _) _ | with_reducible exact below4 E5.out E4.out.size _ _ _ _ | with_reducible exact below4 E5.out E3.out.size _ _ _ _ | with_reducible exact below4 E5.out E2.out.size _ _ _ _)
          · (first | with_reducible exact A5.out.alloc _ | with_reducible exact far4 A5.out u4c _ _ _ _ | with_reducible exact far4 A5.out u3c _ _ _ _ | with_reducible exact far4 A5.out u2c _ _ _ _)
          · (first | with_reducible exact B5.out.alloc _ | with_reducible exact far4 B5.out u4d _ _ _ _ | with_reducible exact far4 B5.out u3d _ _ _ _ | with_reducible exact far4 B5.out u2d _ _ _ _)
      case rest =>
        obtain ⟨g, rfl, hg, hbw, ha, hb⟩ := hcut
        have E10 := Lib.hid hbw
        have A10 := Lib.hid ha
        have B10 := Lib.hid hb
        have G10 := Lib.hid hg
        have a10 := A10.out.cell
        have b10 := B10.out.cell
        clear hbw ha hb hg
        go_wp2_with fail
        go_cut [7] (fun s7 wx => ∃ h, s7 = .pointer (some ⟨h, 0, none⟩) ∧ Blk wx h 38 #[.int .i64 K, .int .i64 N, .string T, .int .i64 C] ∧ Below w.heap.size w wx ∧ Blk wx w.heap.size 31 #[.int .i64 D0.kind, .int .i64 D0.n, .string D0.text] ∧ Blk wx (w.heap.size + 1) 31 #[.int .i64 D1.kind, .int .i64 D1.n, .string D1.text] ∧ Blk wx g 38 #[.int .i64 K, .int .i64 N, .string T, .int .i64 C])
        case first =>
          have u10a : ¬ wc.heap.size = w.heap.size := (by have := A10.out.lt; omega)
          have u10b : ¬ wc.heap.size = w.heap.size + 1 := (by have := B10.out.lt; omega)
          have u10c : ¬ w.heap.size = wc.heap.size := (by have := A10.out.lt; omega)
          have u10d : ¬ w.heap.size + 1 = wc.heap.size := (by have := B10.out.lt; omega)
          have u10e : ¬ wc.heap.size = g := (by have := G10.out.lt; omega)
          have u10f : ¬ g = wc.heap.size := (by have := G10.out.lt; omega)
          go_region_held3 (fun w' => w'.cell? ⟨w.heap.size, 0, none⟩ = some (.int .i64 D0.kind) ∧ w'.cell? ⟨w.heap.size, 1, none⟩ = some (.int .i64 D0.n) ∧ w'.cell? ⟨w.heap.size, 2, none⟩ = some (.string D0.text) ∧ w'.cell? ⟨w.heap.size + 1, 0, none⟩ = some (.int .i64 D1.kind) ∧ w'.cell? ⟨w.heap.size + 1, 1, none⟩ = some (.int .i64 D1.n) ∧ w'.cell? ⟨w.heap.size + 1, 2, none⟩ = some (.string D1.text)) (go_keep)
            (first
            | (go_at_call_of 15 (Value.string D0.text); refine (to_val D0 _).mono ?_; rintro _ w11' ⟨rfl, hb⟩; have hbb : Below wc.heap.size wc w11' := (by (refine below_then ?_ hb (Nat.le_refl _); repeat (first | exact Below.refl _ _ | refine below_dn ?_ _ | refine Below.drew ?_ | refine below_da ?_ (Nat.le_refl _) _))); have E11 := Lib.hid (below_then E10.out hbb (Nat.le_refl _)); have A11 := Lib.hid (A10.out.step hbb); have a11 := A11.out.cell; have B11 := Lib.hid (B10.out.step hbb); have b11 := B11.out.cell; have G11 := Lib.hid (G10.out.step hbb); have g11 := G11.out.cell; (try (have N11 := Lib.hid (N10.out.step hbb); have n11 := N11.out.cell; have nf11 := N11.out.free; have nz11 := N11.out.lt; clear n10 nf10 nz10)); (try (have N11 : Hid (Blk w11' wc.heap.size 38 _) := (by (show Blk _ _ _ _; exact (Blk.new wc 38 _).step hb)); have n11 := N11.out.cell; have nf11 := N11.out.free; have nz11 := N11.out.lt)); (try (have N11 : Hid (Blk w11' wc.heap.size 38 _) := (by (show Blk _ _ _ _; exact (blk_dn (Blk.new wc 38 _) _).step hb)); have n11 := N11.out.cell; have nf11 := N11.out.free; have nz11 := N11.out.lt)); (try (have N11 : Hid (Blk w11' wc.heap.size 38 _) := (by (show Blk _ _ _ _; exact (Blk.new (wc.drewN _) 38 _).step hb)); have n11 := N11.out.cell; have nf11 := N11.out.free; have nz11 := N11.out.lt)); have u11a : ¬ w11'.heap.size = w.heap.size := (by have := A11.out.lt; omega); have u11b : ¬ w11'.heap.size = w.heap.size + 1 := (by have := B11.out.lt; omega); have u11c : ¬ w.heap.size = w11'.heap.size := (by have := A11.out.lt; omega); have u11d : ¬ w.heap.size + 1 = w11'.heap.size := (by have := B11.out.lt; omega); have u11e : ¬ w11'.heap.size = g := (by have := G11.out.lt; omega); have u11f : ¬ g = w11'.heap.size := (by have := G11.out.lt; omega); clear hb hbb)
            | (go_at_call_of 15 (Value.string D1.text); refine (to_val D1 _).mono ?_; rintro _ w12' ⟨rfl, hb⟩; have hbb : Below w11'.heap.size w11' w12' := (by (refine below_then ?_ hb (Nat.le_refl _); repeat (first | exact Below.refl _ _ | refine below_dn ?_ _ | refine Below.drew ?_ | refine below_da ?_ (Nat.le_refl _) _))); have E12 := Lib.hid (below_then E11.out hbb (Nat.le_refl _)); have A12 := Lib.hid (A11.out.step hbb); have a12 := A12.out.cell; have B12 := Lib.hid (B11.out.step hbb); have b12 := B12.out.cell; have G12 := Lib.hid (G11.out.step hbb); have g12 := G12.out.cell; (try (have N12 := Lib.hid (N11.out.step hbb); have n12 := N12.out.cell; have nf12 := N12.out.free; have nz12 := N12.out.lt; clear n11 nf11 nz11)); (try (have N12 : Hid (Blk w12' w11'.heap.size 38 _) := (by (show Blk _ _ _ _; exact (Blk.new w11' 38 _).step hb)); have n12 := N12.out.cell; have nf12 := N12.out.free; have nz12 := N12.out.lt)); (try (have N12 : Hid (Blk w12' w11'.heap.size 38 _) := (by (show Blk _ _ _ _; exact (blk_dn (Blk.new w11' 38 _) _).step hb)); have n12 := N12.out.cell; have nf12 := N12.out.free; have nz12 := N12.out.lt)); (try (have N12 : Hid (Blk w12' w11'.heap.size 38 _) := (by (show Blk _ _ _ _; exact (Blk.new (w11'.drewN _) 38 _).step hb)); have n12 := N12.out.cell; have nf12 := N12.out.free; have nz12 := N12.out.lt)); have u12a : ¬ w12'.heap.size = w.heap.size := (by have := A12.out.lt; omega); have u12b : ¬ w12'.heap.size = w.heap.size + 1 := (by have := B12.out.lt; omega); have u12c : ¬ w.heap.size = w12'.heap.size := (by have := A12.out.lt; omega); have u12d : ¬ w.heap.size + 1 = w12'.heap.size := (by have := B12.out.lt; omega); have u12e : ¬ w12'.heap.size = g := (by have := G12.out.lt; omega); have u12f : ¬ g = w12'.heap.size := (by have := G12.out.lt; omega); clear hb hbb)
            | (go_at_call 18; refine ((KI _).out).mono ?_; rintro _ w13' ⟨rfl, hb⟩; have hbb : Below w12'.heap.size w12' w13' := (by (refine below_then ?_ hb (Nat.le_refl _); repeat (first | exact Below.refl _ _ | refine below_dn ?_ _ | refine Below.drew ?_ | refine below_da ?_ (Nat.le_refl _) _))); have E13 := Lib.hid (below_then E12.out hbb (Nat.le_refl _)); have A13 := Lib.hid (A12.out.step hbb); have a13 := A13.out.cell; have B13 := Lib.hid (B12.out.step hbb); have b13 := B13.out.cell; have G13 := Lib.hid (G12.out.step hbb); have g13 := G13.out.cell; (try (have N13 := Lib.hid (N12.out.step hbb); have n13 := N13.out.cell; have nf13 := N13.out.free; have nz13 := N13.out.lt; clear n12 nf12 nz12)); (try (have N13 : Hid (Blk w13' w12'.heap.size 38 _) := (by (show Blk _ _ _ _; exact (Blk.new w12' 38 _).step hb)); have n13 := N13.out.cell; have nf13 := N13.out.free; have nz13 := N13.out.lt)); (try (have N13 : Hid (Blk w13' w12'.heap.size 38 _) := (by (show Blk _ _ _ _; exact (blk_dn (Blk.new w12' 38 _) _).step hb)); have n13 := N13.out.cell; have nf13 := N13.out.free; have nz13 := N13.out.lt)); (try (have N13 : Hid (Blk w13' w12'.heap.size 38 _) := (by (show Blk _ _ _ _; exact (Blk.new (w12'.drewN _) 38 _).step hb)); have n13 := N13.out.cell; have nf13 := N13.out.free; have nz13 := N13.out.lt)); have u13a : ¬ w13'.heap.size = w.heap.size := (by have := A13.out.lt; omega); have u13b : ¬ w13'.heap.size = w.heap.size + 1 := (by have := B13.out.lt; omega); have u13c : ¬ w.heap.size = w13'.heap.size := (by have := A13.out.lt; omega); have u13d : ¬ w.heap.size + 1 = w13'.heap.size := (by have := B13.out.lt; omega); have u13e : ¬ w13'.heap.size = g := (by have := G13.out.lt; omega); have u13f : ¬ g = w13'.heap.size := (by have := G13.out.lt; omega); clear hb hbb))
          all_goals (go_wp2_with fail; go_meet; refine ⟨_, rfl, ?_, ?_, ?_, ?_, ?_⟩)
          iterate 4
            · (first | with_reducible exact Blk.new _ _ _ | with_reducible exact blk4 N13.out _ _ _ _)
            · (first | with_reducible exact below_da E13.out (Nat.le_refl _) _ | with_reducible exact below4 E13.out E12.out.size _ _ _ _ | with_reducible exact below4 E13.out E11.out.size _ _ _ _ | with_reducible exact below4 E13.out E10.out.size _ _ _ _)
            · (first | with_reducible exact A13.out.alloc _ | with_reducible exact far4 A13.out u12c _ _ _ _ | with_reducible exact far4 A13.out u11c _ _ _ _ | with_reducible exact far4 A13.out u10c _ _ _ _)
            · (first | with_reducible exact B13.out.alloc _ | with_reducible exact far4 B13.out u12d _ _ _ _ | with_reducible exact far4 B13.out u11d _ _ _ _ | with_reducible exact far4 B13.out u10d _ _ _ _)
            · (first | with_reducible exact G13.out.alloc _ | with_reducible exact far4 G13.out u12f _ _ _ _ | with_reducible exact far4 G13.out u11f _ _ _ _ | with_reducible exact far4 G13.out u10f _ _ _ _)
        case rest =>
          obtain ⟨g2, rfl, hg2, hbw, ha, hb, hg⟩ := hcut
          have E20 := Lib.hid hbw
          have G20 := Lib.hid hg
          have H20 := Lib.hid hg2
          have r20 := G20.out.cell
          have s20 := H20.out.cell
          clear hbw ha hb hg hg2
          go_wp2_with fail
          refine (eq_out ⟨K, N, T⟩ C _).mono ?_
          rintro _ w21 ⟨rfl, hb⟩
          have E21 := Lib.hid (below_then E20.out hb (Nat.le_refl _))
          clear hb
          go_wp2
          go_ret
          exact ⟨rfl, E21.out⟩
    · have hd' : (1048576 : Int) - D0.text.size < D1.text.size := by omega
      have HD := Lib.hid hd'
      clear hd hd'
      go_enter Try.func5, Try.ntmps5
      go_wp2_with fail
      refine (sz_val_ok D0 1048576 _ (by omega) (by omega) HS.out.1 HC.out).mono ?_
      rintro _ w1' ⟨rfl, hb⟩
      have E1 := Lib.hid (below_then (below_a2 _ _ _) hb (Nat.le_refl _))
      have A1 := Lib.hid (((Blk.new w _ _).alloc _).step hb)
      have B1 := Lib.hid ((Blk.new1 w _ _ _).step hb)
      have a1 := A1.out.cell
      have b1 := B1.out.cell
      clear hb
      go_wp2_with fail
      refine (sz_val_no D1 (1048576 - D0.text.size) _ hx0 hx1 HS.out.2 HD.out).mono ?_
      rintro _ w2' ⟨rfl, hb⟩
      have E2 := Lib.hid (below_then E1.out hb (Nat.le_refl _))
      have A2 := Lib.hid (A1.out.step hb)
      have B2 := Lib.hid (B1.out.step hb)
      have a2 := A2.out.cell
      have b2 := B2.out.cell
      clear hb a1 b1 A1 B1 E1
      go_wp2
      go_ret
      exact ⟨rfl, E2.out⟩
  · have hc' : (1048576 : Int) < D0.text.size := by omega
    have HC := Lib.hid hc'
    clear hc hc'
    go_enter Try.func5, Try.ntmps5
    go_wp2_with fail
    refine (sz_val_no D0 1048576 _ (by omega) (by omega) HS.out.1 HC.out).mono ?_
    rintro _ w1' ⟨rfl, hb⟩
    have E1 := Lib.hid (below_then (below_a2 _ _ _) hb (Nat.le_refl _))
    have A1 := Lib.hid (((Blk.new w _ _).alloc _).step hb)
    have B1 := Lib.hid ((Blk.new1 w _ _ _).step hb)
    have a1 := A1.out.cell
    have b1 := B1.out.cell
    clear hb
    go_wp2
    go_ret
    exact ⟨rfl, E1.out⟩

set_option maxRecDepth 100000 in
theorem lifted (os : Os) (started : os.Started) (H : Type) (enc : TypeId × Value → H) :
    ReturnsInHanded {} Try.checked os 5 .any (Rows.fnExactSumSpec.pre6 enc Try.prog Try.f5 Rows.fnExactSumRow.domain false) (Rows.fnExactSumSpec.post enc Try.prog Try.f5 false true false false) := by
  refine returnsInHanded_of_change (C := Try.checked) own started (by kernel_rfl) Try.func5
    (ChangeSpec.witness6 (enc := enc) (C := Try.checked) false ⟨#[], #[.agg #[.int .i64 0, .int .i64 0, .string ByteArray.empty], .agg #[.int .i64 0, .int .i64 0, .string ByteArray.empty]], []⟩ 8 (by kernel_rfl) (by kernel_rfl) (by kernel_rfl) (by kernel_rfl)) ?_
  intro W base args ds gs before hval0 hW hcnd _
  have hval : ∀ (j : Nat) t v, Try.f5.params[j]? = some t → args[j]? = some v → Value.okWide Try.prog W .any base t v := hval0
  have hW' := hW
  obtain ⟨p, q, hA0, hV, rfl, hfz, hnd⟩ := hW
  have hA : DataW.TrodAll enc Try.prog W 0 (fun _ => true) true Try.f5.params.toList args.toList ds p := hA0
  rw [Try.params5] at hA hval
  obtain ⟨v0, vs0, d0, ds0, p0, q0, hargs, rfl, rfl, h0, r0⟩ := trodAll_cons hA
  obtain ⟨v1, vs1, d1, ds1, p1, q1, rfl, rfl, rfl, h1, r1⟩ := trodAll_cons r0
  obtain ⟨rfl, rfl, rfl⟩ := trodAll_nil r1
  obtain rfl : args = #[v0, v1] := by cases args; simp_all
  obtain ⟨rfl, rfl⟩ := trodVars_none hV
  have k0 := h0
  have lt0 : ∀ x ∈ p0, x.block < W.heap.size := by obtain ⟨m, hm⟩ := k0; exact DataW.trod_lt m _ _ _ hm
  obtain ⟨D0, rfl, w0⟩ := opv.open_val (hval 0 31 v0 rfl rfl) h0
  have k1 := h1
  have lt1 : ∀ x ∈ p1, x.block < W.heap.size := by obtain ⟨m, hm⟩ := k1; exact DataW.trod_lt m _ _ _ hm
  obtain ⟨D1, rfl, w1⟩ := opv.open_val (hval 1 31 v1 rfl rfl) h1
  clear hA0 hval0
  refine (walk D0 D1 W w0 w1).mono fun e W' ⟨he, bel⟩ => ?_
  subst he
  exact ⟨_, rfl, _, _, _, [], _, [], hW', trodAll_mk1 (shut_bool Try.underlying4 _), (trodAll_cons_mk (Below.trod laidOut (by kernel_rfl) (of_decide_eq_true (by kernel_rfl)) k0 bel lt0) (trodAll_cons_mk (Below.trod laidOut (by kernel_rfl) (of_decide_eq_true (by kernel_rfl)) k1 bel lt1) trodAll_mk0)), rfl, bel.frame _, fun h => by cases h⟩

theorem over : Rows.fnExactSumRow.holds Try.pinned (OpenSpec.ofChange Rows.fnExactSumSpec) :=
  OpenClaim.holds_of_wide 5 Try.f5 rfl rfl rfl rfl rfl rfl rfl ⟨rfl, rfl, rfl, rfl, rfl⟩ rfl rfl rfl rfl rfl (by kernel_rfl) Try.func5 (by kernel_rfl)
    (of_decide_eq_true (by kernel_rfl)) (by unfold Func.isWrapper; first | (rw [if_pos (by decide +kernel)]; kernel_rfl) | (rw [if_neg (by decide +kernel)]; exact ⟨rfl, rfl⟩))
    (fun os started H enc _ => lifted os started H enc)

/-- the statement -/
theorem proved : Rows.FnExactSumSaid := over
end Go.Proofs.Ytnhoknbofmpdbaa.fnExactSum
