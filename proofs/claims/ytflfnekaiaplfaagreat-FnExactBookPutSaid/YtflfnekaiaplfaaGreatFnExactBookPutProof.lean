/- BookPut, called with any list of things and any thing, tells what its model tells, changes nothing, and its answer owns its memory. No condition. -/
import Derived.Test.YtflfnekaiaplfaaGreatRows
import Derived.WalkKit
import Derived.ProofKit
import Derived.OpenShut
import Derived.ShutString
import Derived.ChangeOld
import Derived.Below
import Derived.Lib.Hide
import Derived.Test.YtflfnekaiaplfaaGreatUi
import Derived.Test.YtflfnekaiaplfaaGreatGd
import Derived.Test.YtflfnekaiaplfaaGreatUz
import Derived.Test.YtflfnekaiaplfaaGreatUt
import Derived.Test.YtflfnekaiaplfaaGreatUe
import Derived.Test.YtflfnekaiaplfaaGreatUm
import Derived.Test.YtflfnekaiaplfaaGreatUh
import Derived.Test.YtflfnekaiaplfaaGreatUo
import Derived.Test.YtflfnekaiaplfaaGreatBdL
import Derived.Test.YtflfnekaiaplfaaGreatBpI
import Derived.Deep.RegionHeld3
import Derived.Deep.DeepCutAuto
namespace Go.Proofs.YtflfnekaiaplfaaGreat.fnExactBookPut
open Go.ChangeShapes Go.WideShapes Go.ChangeAt Go.RowKit
open Go.ChangeMaps (open_string shut_string)
set_option linter.unusedVariables false
set_option linter.unusedSimpArgs false

theorem own : ownKnob Tryz.prog.godebug = none := by kernel_rfl
theorem laidOut : laidOutB Tryz.prog = true := by kernel_rfl

open vl mem ex un cf

set_option maxHeartbeats 16000000 in
set_option maxRecDepth 100000 in
theorem walk (n0 : Nat) (xs0 : List (List un.DC)) (A0 : Option Addr) (c0 : Nat) (n1 : Nat) (ds1 : List un.DC) (vs1 : List Value) (w : World) (w0 : un.Cell un.Any n0 w (.l 8) (.l xs0) (.slice A0 xs0.length c0)) (w1 : un.Cells un.Any n1 w un.shThing_ ds1 vs1) :
    Calls Tryz.prog 3 #[.slice A0 xs0.length c0, .agg vs1.toArray] w fun e w' => e = .returned (.bool true) ∧ Below w.heap.size w w' := by
  have HS0 := Lib.hid (Gd.of1 w0)
  obtain ⟨lb0, sb1, sb2, xb3, xb4, sb5, lb6, lb7, Ab0, cb0, Ab6, cb6, Ab7, cb7, rfl, rfl, -⟩ := open_Thing w1
  have HS1 := Lib.hid (Gd.ofC w1)
  clear w0 w1
  obtain ⟨X, hX⟩ : ∃ X, cf.putOut xs0 [.l lb0, .s sb1, .s sb2, .i xb3, .i xb4, .s sb5, .l lb6, .l lb7] = X := ⟨_, rfl⟩
  go_enter Tryz.func3, Tryz.ntmps3
  go_wp2_with fail
  refine (szThingS_all n0 Any _ _ (1048576) _ ((HS0.out.below (below_a1 _ _))).now (by omega) (by omega)).mono ?_
  rintro _ w1 ⟨x0, rfl, HX0, lo0, hi0, hb⟩
  have E1 := Lib.hid (below_then (below_a1 _ _) hb (Nat.le_refl _))
  have M1 : Hid (w.heap.size + 1 ≤ w1.heap.size) := (by (have hx := hb.size; (try simp at hx); show _ ≤ _; omega))
  have Bp11 := Lib.hid ((Kp.ofB (Blk.new w _ _)).below hb)
  have rp11 := Bp11.out.now.cell
  have lp11 := Bp11.out.now.lt
  clear hb 
  by_cases hx0 : x0 < 0
  · go_wp2
    go_ret
    exact ⟨rfl, E1.out⟩
  have HC0 : Hid (cC (.l xs0) ≤ 1048576) := by
    have q := HX0.out
    unfold leftI at q
    show _ ≤ _
    split at q <;> omega
  have hx0' : 0 ≤ x0 := by omega
  clear hx0 HX0
  have HNB0 : Hid (nL xs0 ≤ 13631488) := by (have := nL_le13 n0 HS0.out.now; have := HC0.out; simp only [cC] at this; show _ ≤ _; omega)
  have KT0 := fun (W : World) (h : Below w.heap.size w W) => Lib.hid (toThingS_cap n0 Any (.l xs0) (.slice A0 xs0.length c0) W (HS0.out.below h).now HC0.out)
  go_wp2_with fail
  refine (szThing_all n1 Any _ _ (x0) _ ((HS1.out.below E1.out)).now hx0' hi0).mono ?_
  rintro _ w2 ⟨x1, rfl, HX1, lo1, hi1, hb⟩
  have E2 := Lib.hid (below_then E1.out hb (Nat.le_refl _))
  have M2 : Hid (w1.heap.size ≤ w2.heap.size) := (by (have hx := hb.size; (try simp at hx); show _ ≤ _; omega))
  have Bp12 := Lib.hid ((Bp11.out).below hb)
  have rp12 := Bp12.out.now.cell
  have lp12 := Bp12.out.now.lt
  clear hb Bp11 rp11 E1 lp11
  by_cases hx1 : x1 < 0
  · go_wp2
    go_ret
    exact ⟨rfl, E2.out⟩
  have HC1 : Hid (cCs [.l lb0, .s sb1, .s sb2, .i xb3, .i xb4, .s sb5, .l lb6, .l lb7] ≤ 1048576) := by
    have q := HX1.out
    unfold leftI at q
    show _ ≤ _
    split at q <;> omega
  have hx1' : 0 ≤ x1 := by omega
  clear hx1 HX1
  have HNB1 : Hid (nV [.l lb0, .s sb1, .s sb2, .i xb3, .i xb4, .s sb5, .l lb6, .l lb7] ≤ 13631488) := by (have := nV_le HS1.out.now; have := HC1.out; show _ ≤ _; omega)
  have KT1 := fun (W : World) (h : Below w.heap.size w W) => Lib.hid (toThing_all n1 Any [.l lb0, .s sb1, .s sb2, .i xb3, .i xb4, .s sb5, .l lb6, .l lb7] [.slice Ab0 lb0.length cb0, .string sb1, .string sb2, .int .i64 xb3, .int .i64 xb4, .string sb5, .slice Ab6 lb6.length cb6, .slice Ab7 lb7.length cb7] W (HS1.out.below h).now HC1.out)
  go_wp2_with fail
  go_cut [6] (fun s6 wx => ∃ (g : Nat) (v0 v1 : Value), s6 = .pointer (some ⟨g, 0, none⟩) ∧ w2.heap.size ≤ g ∧ Blk wx g 34 #[v0, v1] ∧ Cells Any 3 wx shBookOut_ X [v0, v1] ∧ Below w2.heap.size w2 wx)
  case first =>
    refine wp_region_held_drew (S := fun w' => Blk w' w.heap.size 29 #[.slice Ab0 lb0.length cb0, .string sb1, .string sb2, .int .i64 xb3, .int .i64 xb4, .string sb5, .slice Ab6 lb6.length cb6, .slice Ab7 lb7.length cb7]) (by kernel_rfl) ((Bp12.out.below (below_d w2 1)).now) (fun _ => ?_)
    have hb := below_d w2 1
    have hdr : w2.drew = w2.drewN 1 := rfl
    rw [hdr]
    obtain ⟨w3, hWd⟩ : ∃ W, w2.drewN 1 = W := ⟨_, rfl⟩
    rw [hWd] at hb ⊢
    have R3 := Lib.hid hb
    have E3 := Lib.hid (below_then E2.out hb (Nat.le_refl _))
    have M3 : Hid (w2.heap.size ≤ w3.heap.size) := (by (have hx := hb.size; (try simp at hx); show _ ≤ _; omega))
    have Bp13 := Lib.hid ((Bp12.out).below hb)
    have rp13 := Bp13.out.now.cell
    have lp13 := Bp13.out.now.lt
    clear hb hWd hdr
    refine wpAnyH_take (i := 0) (v := .slice A0 xs0.length c0) rfl (by kernel_rfl) (by kernel_rfl) (by kernel_rfl) (fun _ _ _ h => h) (Or.inl ⟨by rfl, ?_⟩) Bp13.out.now ?_
    · intro w' hSw
      go_simp
    try simp only [Act.put, List.setIfInBounds_toArray, List.set_cons_zero, List.set_cons_succ]
    refine wpAnyH_take (i := 2) (v := .agg #[.slice Ab0 lb0.length cb0, .string sb1, .string sb2, .int .i64 xb3, .int .i64 xb4, .string sb5, .slice Ab6 lb6.length cb6, .slice Ab7 lb7.length cb7]) rfl (by kernel_rfl) (by kernel_rfl) (by kernel_rfl) (fun _ _ _ h => h) (Or.inl ⟨by rfl, ?_⟩) Bp13.out.now ?_
    · intro w' hSw
      have hc := Blk.cell hSw
      go_simp
    try simp only [Act.put, List.setIfInBounds_toArray, List.set_cons_zero, List.set_cons_succ]
    refine wpAnyH_ready (rs := [1, 5]) (by kernel_rfl) (by simp) ?_
    refine AllReadyH.cons rfl (fun K hK => ?_) ?_
    · go_simp
      refine ((KT0 _ E3.out).out).mono ?_
      rintro _ w4 ⟨us, rfl, hk, ho, hb⟩
      obtain ⟨X', Aua, cua, e', rfl, _⟩ := ho.cell.lst
      injection e' with e'; subst e'
      have hku := hk _ _ _ rfl
      clear hk
      replace ho := Kp.ofO (n := n0) ho
      have E4 := Lib.hid (below_then E3.out hb (Nat.le_refl _))
      have M4 : Hid (w3.heap.size ≤ w4.heap.size) := (by (have hx := hb.size; (try simp at hx); show _ ≤ _; omega))
      have Bp14 := Lib.hid ((Bp13.out).below hb)
      have rp14 := Bp14.out.now.cell
      have lp14 := Bp14.out.now.lt
      have R4 := Lib.hid (below_then R3.out hb (Nat.le_refl _))
      have Su04 := Lib.hid ho
      clear ho hb
      try go_wp2_with fail
      refine hK.out _ _ Bp14.out.now (fun _ => ?_)
      clear hK K
      try simp only [Act.put, List.setIfInBounds_toArray, List.set_cons_zero, List.set_cons_succ]
      refine wpAnyH_ready (rs := [3, 5]) (by kernel_rfl) (by simp) ?_
      refine AllReadyH.cons rfl (fun K hK => ?_) ?_
      · go_simp
        refine ((KT1 _ E4.out).out).mono ?_
        rintro _ w5 ⟨us, rfl, ho, hb⟩
        have hc := ho.cells
        obtain ⟨Aub0, cub0, Aub6, cub6, Aub7, cub7, rfl, -⟩ := openv_Thing hc
        clear hc
        replace ho := Kp.ofS ho
        have E5 := Lib.hid (below_then E4.out hb (Nat.le_refl _))
        have M5 : Hid (w4.heap.size ≤ w5.heap.size) := (by (have hx := hb.size; (try simp at hx); show _ ≤ _; omega))
        have Bp15 := Lib.hid ((Bp14.out).below hb)
        have rp15 := Bp15.out.now.cell
        have Su05 := Lib.hid ((Su04.out).below hb)
        have lp15 := Bp15.out.now.lt
        have R5 := Lib.hid (below_then R4.out hb (Nat.le_refl _))
        have Su15 := Lib.hid ho
        clear ho hb
        try go_wp2_with fail
        refine hK.out _ _ Bp15.out.now (fun _ => ?_)
        clear hK K
        try simp only [Act.put, List.setIfInBounds_toArray, List.set_cons_zero, List.set_cons_succ]
        refine wpAnyH_ready (rs := [4, 5]) (by kernel_rfl) (by simp) ?_
        refine AllReadyH.cons rfl (fun K hK => ?_) ?_
        · go_simp
          refine (cf.bookPut_spec (n := n0) hX (((Su05.out).now.cell).ups (Nat.le_succ n0)) (Su15.out).now.cells hku.1 hku.2).mono ?_
          rintro _ w6 ⟨us, rfl, ho, hb⟩
          have hq : Cells _ _ _ shBookOut_ X us := ho
          obtain ⟨lW0, xW1, AW0, cW0, rfl, rfl, -⟩ := open_BookOut hq
          clear hq
          replace ho := Kp.ofC (Cells.monoB (B' := fun x => w5.heap.size ≤ x ∧ x < w6.heap.size) ho (fun b h1 h2 => ⟨h1, h2⟩))
          have E6 := Lib.hid (below_then E5.out hb (Nat.le_refl _))
          have M6 : Hid (w5.heap.size ≤ w6.heap.size) := (by (have hx := hb.size; (try simp at hx); show _ ≤ _; omega))
          have Bp16 := Lib.hid ((Bp15.out).below hb)
          have rp16 := Bp16.out.now.cell
          have Su06 := Lib.hid ((Su05.out).below hb)
          have Su16 := Lib.hid ((Su15.out).below hb)
          have lp16 := Bp16.out.now.lt
          have R6 := Lib.hid (below_then R5.out hb (Nat.le_refl _))
          have SW6 := Lib.hid ho
          clear ho hb
          try go_wp2_with fail
          refine hK.out _ _ Bp16.out.now (fun _ => ?_)
          clear hK K
          try simp only [Act.put, List.setIfInBounds_toArray, List.set_cons_zero, List.set_cons_succ]
          refine wpAnyH_ready (rs := [5]) (by kernel_rfl) (by simp) ?_
          refine AllReadyH.cons rfl (fun K hK => ?_) ?_
          · go_simp
            have hb := below_a1 w6 (.cells #[.slice none 0 0, .int .i64 0] 34)
            have N0 := Blk.new w6 34 #[.slice none 0 0, .int .i64 0]
            obtain ⟨w7, hW⟩ : ∃ W, w6.alloc (.cells #[.slice none 0 0, .int .i64 0] 34) = W := ⟨_, rfl⟩
            rw [hW] at hb N0 ⊢
            have E7 := Lib.hid (below_then E6.out hb (Nat.le_refl _))
            have M7 : Hid (w6.heap.size ≤ w7.heap.size) := (by (have hx := hb.size; (try simp at hx); show _ ≤ _; omega))
            have Bp17 := Lib.hid ((Bp16.out).below hb)
            have rp17 := Bp17.out.now.cell
            have Su07 := Lib.hid ((Su06.out).below hb)
            have Su17 := Lib.hid ((Su16.out).below hb)
            have SW7 := Lib.hid ((SW6.out).below hb)
            have lp17 := Bp17.out.now.lt
            have R7 := Lib.hid (below_then R6.out hb (Nat.le_refl _))
            have BN7 := Lib.hid (Kp.ofB N0)
            have rN7 := BN7.out.now.cell
            have LN := Lib.hid R6.out.size
            have LA := Lib.hid BN7.out.now.lt
            clear hb hW N0
            refine hK.out _ _ Bp17.out.now (fun _ => ?_)
            clear hK K
            try simp only [Act.put, List.setIfInBounds_toArray, List.set_cons_zero, List.set_cons_succ]
            refine wpAnyH_ready (rs := [6]) (by kernel_rfl) (by simp) ?_
            refine AllReadyH.cons rfl (fun K hK => ?_) ?_
            · have pN := BN7.out.now.cell
              have fN := BN7.out.now.free
              have lN := BN7.out.now.lt
              go_simp
              refine hK.out _ _ (far2 Bp17.out.now (by have := LN.out; have := Bp12.out.now.lt; omega) _ _) (fun _ => ?_)
              clear hK K
              try simp only [Act.put, List.setIfInBounds_toArray, List.set_cons_zero, List.set_cons_succ]
              refine wpAnyH_done (by kernel_rfl) ?_ _
              go_wp2_with fail
              go_meet
              have hl := LN.out
              refine ⟨w6.heap.size, _, _, rfl, hl, blk2 BN7.out.now _ _, ?_, ?_⟩
              · exact cells_far2 (Cells.monoB (B' := fun x => x ≠ w6.heap.size) SW7.out.now (fun b h1 _ => by have a1 := h1.1; have a2 := h1.2; have := LA.out; have := M1.out; have := M2.out; have := M3.out; have := M4.out; have := M5.out; have := M6.out; have := M7.out; omega)) _ _
              · iterate 2 refine Below.setCell ?_ (by exact hl) _
                exact R7.out
            exact AllReadyH.nil
          exact AllReadyH.nil
        refine AllReadyH.cons rfl (fun K hK => ?_) ?_
        · go_simp
          have hb := below_a1 w5 (.cells #[.slice none 0 0, .int .i64 0] 34)
          have N0 := Blk.new w5 34 #[.slice none 0 0, .int .i64 0]
          obtain ⟨w6, hW⟩ : ∃ W, w5.alloc (.cells #[.slice none 0 0, .int .i64 0] 34) = W := ⟨_, rfl⟩
          rw [hW] at hb N0 ⊢
          have E6 := Lib.hid (below_then E5.out hb (Nat.le_refl _))
          have M6 : Hid (w5.heap.size ≤ w6.heap.size) := (by (have hx := hb.size; (try simp at hx); show _ ≤ _; omega))
          have Bp16 := Lib.hid ((Bp15.out).below hb)
          have rp16 := Bp16.out.now.cell
          have Su06 := Lib.hid ((Su05.out).below hb)
          have Su16 := Lib.hid ((Su15.out).below hb)
          have lp16 := Bp16.out.now.lt
          have R6 := Lib.hid (below_then R5.out hb (Nat.le_refl _))
          have BN6 := Lib.hid (Kp.ofB N0)
          have rN6 := BN6.out.now.cell
          have LN := Lib.hid R5.out.size
          have LA := Lib.hid BN6.out.now.lt
          clear hb hW N0
          refine hK.out _ _ Bp16.out.now (fun _ => ?_)
          clear hK K
          try simp only [Act.put, List.setIfInBounds_toArray, List.set_cons_zero, List.set_cons_succ]
          refine wpAnyH_ready (rs := [4]) (by kernel_rfl) (by simp) ?_
          refine AllReadyH.cons rfl (fun K hK => ?_) ?_
          · go_simp
            refine (cf.bookPut_spec (n := n0) hX (((Su06.out).now.cell).ups (Nat.le_succ n0)) (Su16.out).now.cells hku.1 hku.2).mono ?_
            rintro _ w7 ⟨us, rfl, ho, hb⟩
            have hq : Cells _ _ _ shBookOut_ X us := ho
            obtain ⟨lW0, xW1, AW0, cW0, rfl, rfl, -⟩ := open_BookOut hq
            clear hq
            replace ho := Kp.ofC (Cells.monoB (B' := fun x => w6.heap.size ≤ x ∧ x < w7.heap.size) ho (fun b h1 h2 => ⟨h1, h2⟩))
            have E7 := Lib.hid (below_then E6.out hb (Nat.le_refl _))
            have M7 : Hid (w6.heap.size ≤ w7.heap.size) := (by (have hx := hb.size; (try simp at hx); show _ ≤ _; omega))
            have Bp17 := Lib.hid ((Bp16.out).below hb)
            have rp17 := Bp17.out.now.cell
            have BN7 := Lib.hid ((BN6.out).below hb)
            have rN7 := BN7.out.now.cell
            have Su07 := Lib.hid ((Su06.out).below hb)
            have Su17 := Lib.hid ((Su16.out).below hb)
            have lp17 := Bp17.out.now.lt
            have lN7 := BN7.out.now.lt
            have R7 := Lib.hid (below_then R6.out hb (Nat.le_refl _))
            have SW7 := Lib.hid ho
            clear ho hb
            try go_wp2_with fail
            refine hK.out _ _ Bp17.out.now (fun _ => ?_)
            clear hK K
            try simp only [Act.put, List.setIfInBounds_toArray, List.set_cons_zero, List.set_cons_succ]
            refine wpAnyH_ready (rs := [6]) (by kernel_rfl) (by simp) ?_
            refine AllReadyH.cons rfl (fun K hK => ?_) ?_
            · have pN := BN7.out.now.cell
              have fN := BN7.out.now.free
              have lN := BN7.out.now.lt
              go_simp
              refine hK.out _ _ (far2 Bp17.out.now (by have := LN.out; have := Bp12.out.now.lt; omega) _ _) (fun _ => ?_)
              clear hK K
              try simp only [Act.put, List.setIfInBounds_toArray, List.set_cons_zero, List.set_cons_succ]
              refine wpAnyH_done (by kernel_rfl) ?_ _
              go_wp2_with fail
              go_meet
              have hl := LN.out
              refine ⟨w5.heap.size, _, _, rfl, hl, blk2 BN7.out.now _ _, ?_, ?_⟩
              · exact cells_far2 (Cells.monoB (B' := fun x => x ≠ w5.heap.size) SW7.out.now (fun b h1 _ => by have a1 := h1.1; have a2 := h1.2; have := LA.out; have := M1.out; have := M2.out; have := M3.out; have := M4.out; have := M5.out; have := M6.out; have := M7.out; omega)) _ _
              · iterate 2 refine Below.setCell ?_ (by exact hl) _
                exact R7.out
            exact AllReadyH.nil
          exact AllReadyH.nil
        exact AllReadyH.nil
      refine AllReadyH.cons rfl (fun K hK => ?_) ?_
      · go_simp
        have hb := below_a1 w4 (.cells #[.slice none 0 0, .int .i64 0] 34)
        have N0 := Blk.new w4 34 #[.slice none 0 0, .int .i64 0]
        obtain ⟨w5, hW⟩ : ∃ W, w4.alloc (.cells #[.slice none 0 0, .int .i64 0] 34) = W := ⟨_, rfl⟩
        rw [hW] at hb N0 ⊢
        have E5 := Lib.hid (below_then E4.out hb (Nat.le_refl _))
        have M5 : Hid (w4.heap.size ≤ w5.heap.size) := (by (have hx := hb.size; (try simp at hx); show _ ≤ _; omega))
        have Bp15 := Lib.hid ((Bp14.out).below hb)
        have rp15 := Bp15.out.now.cell
        have Su05 := Lib.hid ((Su04.out).below hb)
        have lp15 := Bp15.out.now.lt
        have R5 := Lib.hid (below_then R4.out hb (Nat.le_refl _))
        have BN5 := Lib.hid (Kp.ofB N0)
        have rN5 := BN5.out.now.cell
        have LN := Lib.hid R4.out.size
        have LA := Lib.hid BN5.out.now.lt
        clear hb hW N0
        refine hK.out _ _ Bp15.out.now (fun _ => ?_)
        clear hK K
        try simp only [Act.put, List.setIfInBounds_toArray, List.set_cons_zero, List.set_cons_succ]
        refine wpAnyH_ready (rs := [3]) (by kernel_rfl) (by simp) ?_
        refine AllReadyH.cons rfl (fun K hK => ?_) ?_
        · go_simp
          refine ((KT1 _ E5.out).out).mono ?_
          rintro _ w6 ⟨us, rfl, ho, hb⟩
          have hc := ho.cells
          obtain ⟨Aub0, cub0, Aub6, cub6, Aub7, cub7, rfl, -⟩ := openv_Thing hc
          clear hc
          replace ho := Kp.ofS ho
          have E6 := Lib.hid (below_then E5.out hb (Nat.le_refl _))
          have M6 : Hid (w5.heap.size ≤ w6.heap.size) := (by (have hx := hb.size; (try simp at hx); show _ ≤ _; omega))
          have Bp16 := Lib.hid ((Bp15.out).below hb)
          have rp16 := Bp16.out.now.cell
          have BN6 := Lib.hid ((BN5.out).below hb)
          have rN6 := BN6.out.now.cell
          have Su06 := Lib.hid ((Su05.out).below hb)
          have lp16 := Bp16.out.now.lt
          have lN6 := BN6.out.now.lt
          have R6 := Lib.hid (below_then R5.out hb (Nat.le_refl _))
          have Su16 := Lib.hid ho
          clear ho hb
          try go_wp2_with fail
          refine hK.out _ _ Bp16.out.now (fun _ => ?_)
          clear hK K
          try simp only [Act.put, List.setIfInBounds_toArray, List.set_cons_zero, List.set_cons_succ]
          refine wpAnyH_ready (rs := [4]) (by kernel_rfl) (by simp) ?_
          refine AllReadyH.cons rfl (fun K hK => ?_) ?_
          · go_simp
            refine (cf.bookPut_spec (n := n0) hX (((Su06.out).now.cell).ups (Nat.le_succ n0)) (Su16.out).now.cells hku.1 hku.2).mono ?_
            rintro _ w7 ⟨us, rfl, ho, hb⟩
            have hq : Cells _ _ _ shBookOut_ X us := ho
            obtain ⟨lW0, xW1, AW0, cW0, rfl, rfl, -⟩ := open_BookOut hq
            clear hq
            replace ho := Kp.ofC (Cells.monoB (B' := fun x => w6.heap.size ≤ x ∧ x < w7.heap.size) ho (fun b h1 h2 => ⟨h1, h2⟩))
            have E7 := Lib.hid (below_then E6.out hb (Nat.le_refl _))
            have M7 : Hid (w6.heap.size ≤ w7.heap.size) := (by (have hx := hb.size; (try simp at hx); show _ ≤ _; omega))
            have Bp17 := Lib.hid ((Bp16.out).below hb)
            have rp17 := Bp17.out.now.cell
            have BN7 := Lib.hid ((BN6.out).below hb)
            have rN7 := BN7.out.now.cell
            have Su07 := Lib.hid ((Su06.out).below hb)
            have Su17 := Lib.hid ((Su16.out).below hb)
            have lp17 := Bp17.out.now.lt
            have lN7 := BN7.out.now.lt
            have R7 := Lib.hid (below_then R6.out hb (Nat.le_refl _))
            have SW7 := Lib.hid ho
            clear ho hb
            try go_wp2_with fail
            refine hK.out _ _ Bp17.out.now (fun _ => ?_)
            clear hK K
            try simp only [Act.put, List.setIfInBounds_toArray, List.set_cons_zero, List.set_cons_succ]
            refine wpAnyH_ready (rs := [6]) (by kernel_rfl) (by simp) ?_
            refine AllReadyH.cons rfl (fun K hK => ?_) ?_
            · have pN := BN7.out.now.cell
              have fN := BN7.out.now.free
              have lN := BN7.out.now.lt
              go_simp
              refine hK.out _ _ (far2 Bp17.out.now (by have := LN.out; have := Bp12.out.now.lt; omega) _ _) (fun _ => ?_)
              clear hK K
              try simp only [Act.put, List.setIfInBounds_toArray, List.set_cons_zero, List.set_cons_succ]
              refine wpAnyH_done (by kernel_rfl) ?_ _
              go_wp2_with fail
              go_meet
              have hl := LN.out
              refine ⟨w4.heap.size, _, _, rfl, hl, blk2 BN7.out.now _ _, ?_, ?_⟩
              · exact cells_far2 (Cells.monoB (B' := fun x => x ≠ w4.heap.size) SW7.out.now (fun b h1 _ => by have a1 := h1.1; have a2 := h1.2; have := LA.out; have := M1.out; have := M2.out; have := M3.out; have := M4.out; have := M5.out; have := M6.out; have := M7.out; omega)) _ _
              · iterate 2 refine Below.setCell ?_ (by exact hl) _
                exact R7.out
            exact AllReadyH.nil
          exact AllReadyH.nil
        exact AllReadyH.nil
      exact AllReadyH.nil
    refine AllReadyH.cons rfl (fun K hK => ?_) ?_
    · go_simp
      have hb := below_a1 w3 (.cells #[.slice none 0 0, .int .i64 0] 34)
      have N0 := Blk.new w3 34 #[.slice none 0 0, .int .i64 0]
      obtain ⟨w4, hW⟩ : ∃ W, w3.alloc (.cells #[.slice none 0 0, .int .i64 0] 34) = W := ⟨_, rfl⟩
      rw [hW] at hb N0 ⊢
      have E4 := Lib.hid (below_then E3.out hb (Nat.le_refl _))
      have M4 : Hid (w3.heap.size ≤ w4.heap.size) := (by (have hx := hb.size; (try simp at hx); show _ ≤ _; omega))
      have Bp14 := Lib.hid ((Bp13.out).below hb)
      have rp14 := Bp14.out.now.cell
      have lp14 := Bp14.out.now.lt
      have R4 := Lib.hid (below_then R3.out hb (Nat.le_refl _))
      have BN4 := Lib.hid (Kp.ofB N0)
      have rN4 := BN4.out.now.cell
      have LN := Lib.hid R3.out.size
      have LA := Lib.hid BN4.out.now.lt
      clear hb hW N0
      refine hK.out _ _ Bp14.out.now (fun _ => ?_)
      clear hK K
      try simp only [Act.put, List.setIfInBounds_toArray, List.set_cons_zero, List.set_cons_succ]
      refine wpAnyH_ready (rs := [1]) (by kernel_rfl) (by simp) ?_
      refine AllReadyH.cons rfl (fun K hK => ?_) ?_
      · go_simp
        refine ((KT0 _ E4.out).out).mono ?_
        rintro _ w5 ⟨us, rfl, hk, ho, hb⟩
        obtain ⟨X', Aua, cua, e', rfl, _⟩ := ho.cell.lst
        injection e' with e'; subst e'
        have hku := hk _ _ _ rfl
        clear hk
        replace ho := Kp.ofO (n := n0) ho
        have E5 := Lib.hid (below_then E4.out hb (Nat.le_refl _))
        have M5 : Hid (w4.heap.size ≤ w5.heap.size) := (by (have hx := hb.size; (try simp at hx); show _ ≤ _; omega))
        have Bp15 := Lib.hid ((Bp14.out).below hb)
        have rp15 := Bp15.out.now.cell
        have BN5 := Lib.hid ((BN4.out).below hb)
        have rN5 := BN5.out.now.cell
        have lp15 := Bp15.out.now.lt
        have lN5 := BN5.out.now.lt
        have R5 := Lib.hid (below_then R4.out hb (Nat.le_refl _))
        have Su05 := Lib.hid ho
        clear ho hb
        try go_wp2_with fail
        refine hK.out _ _ Bp15.out.now (fun _ => ?_)
        clear hK K
        try simp only [Act.put, List.setIfInBounds_toArray, List.set_cons_zero, List.set_cons_succ]
        refine wpAnyH_ready (rs := [3]) (by kernel_rfl) (by simp) ?_
        refine AllReadyH.cons rfl (fun K hK => ?_) ?_
        · go_simp
          refine ((KT1 _ E5.out).out).mono ?_
          rintro _ w6 ⟨us, rfl, ho, hb⟩
          have hc := ho.cells
          obtain ⟨Aub0, cub0, Aub6, cub6, Aub7, cub7, rfl, -⟩ := openv_Thing hc
          clear hc
          replace ho := Kp.ofS ho
          have E6 := Lib.hid (below_then E5.out hb (Nat.le_refl _))
          have M6 : Hid (w5.heap.size ≤ w6.heap.size) := (by (have hx := hb.size; (try simp at hx); show _ ≤ _; omega))
          have Bp16 := Lib.hid ((Bp15.out).below hb)
          have rp16 := Bp16.out.now.cell
          have BN6 := Lib.hid ((BN5.out).below hb)
          have rN6 := BN6.out.now.cell
          have Su06 := Lib.hid ((Su05.out).below hb)
          have lp16 := Bp16.out.now.lt
          have lN6 := BN6.out.now.lt
          have R6 := Lib.hid (below_then R5.out hb (Nat.le_refl _))
          have Su16 := Lib.hid ho
          clear ho hb
          try go_wp2_with fail
          refine hK.out _ _ Bp16.out.now (fun _ => ?_)
          clear hK K
          try simp only [Act.put, List.setIfInBounds_toArray, List.set_cons_zero, List.set_cons_succ]
          refine wpAnyH_ready (rs := [4]) (by kernel_rfl) (by simp) ?_
          refine AllReadyH.cons rfl (fun K hK => ?_) ?_
          · go_simp
            refine (cf.bookPut_spec (n := n0) hX (((Su06.out).now.cell).ups (Nat.le_succ n0)) (Su16.out).now.cells hku.1 hku.2).mono ?_
            rintro _ w7 ⟨us, rfl, ho, hb⟩
            have hq : Cells _ _ _ shBookOut_ X us := ho
            obtain ⟨lW0, xW1, AW0, cW0, rfl, rfl, -⟩ := open_BookOut hq
            clear hq
            replace ho := Kp.ofC (Cells.monoB (B' := fun x => w6.heap.size ≤ x ∧ x < w7.heap.size) ho (fun b h1 h2 => ⟨h1, h2⟩))
            have E7 := Lib.hid (below_then E6.out hb (Nat.le_refl _))
            have M7 : Hid (w6.heap.size ≤ w7.heap.size) := (by (have hx := hb.size; (try simp at hx); show _ ≤ _; omega))
            have Bp17 := Lib.hid ((Bp16.out).below hb)
            have rp17 := Bp17.out.now.cell
            have BN7 := Lib.hid ((BN6.out).below hb)
            have rN7 := BN7.out.now.cell
            have Su07 := Lib.hid ((Su06.out).below hb)
            have Su17 := Lib.hid ((Su16.out).below hb)
            have lp17 := Bp17.out.now.lt
            have lN7 := BN7.out.now.lt
            have R7 := Lib.hid (below_then R6.out hb (Nat.le_refl _))
            have SW7 := Lib.hid ho
            clear ho hb
            try go_wp2_with fail
            refine hK.out _ _ Bp17.out.now (fun _ => ?_)
            clear hK K
            try simp only [Act.put, List.setIfInBounds_toArray, List.set_cons_zero, List.set_cons_succ]
            refine wpAnyH_ready (rs := [6]) (by kernel_rfl) (by simp) ?_
            refine AllReadyH.cons rfl (fun K hK => ?_) ?_
            · have pN := BN7.out.now.cell
              have fN := BN7.out.now.free
              have lN := BN7.out.now.lt
              go_simp
              refine hK.out _ _ (far2 Bp17.out.now (by have := LN.out; have := Bp12.out.now.lt; omega) _ _) (fun _ => ?_)
              clear hK K
              try simp only [Act.put, List.setIfInBounds_toArray, List.set_cons_zero, List.set_cons_succ]
              refine wpAnyH_done (by kernel_rfl) ?_ _
              go_wp2_with fail
              go_meet
              have hl := LN.out
              refine ⟨w3.heap.size, _, _, rfl, hl, blk2 BN7.out.now _ _, ?_, ?_⟩
              · exact cells_far2 (Cells.monoB (B' := fun x => x ≠ w3.heap.size) SW7.out.now (fun b h1 _ => by have a1 := h1.1; have a2 := h1.2; have := LA.out; have := M1.out; have := M2.out; have := M3.out; have := M4.out; have := M5.out; have := M6.out; have := M7.out; omega)) _ _
              · iterate 2 refine Below.setCell ?_ (by exact hl) _
                exact R7.out
            exact AllReadyH.nil
          exact AllReadyH.nil
        exact AllReadyH.nil
      exact AllReadyH.nil
    exact AllReadyH.nil
  case rest =>
    obtain ⟨g, v0, v1, rfl, hgl, hN, hC, hb⟩ := hcut
    rename World => w3
    obtain ⟨lW0, xW1, AW0, cW0, rfl, ev, -⟩ := open_BookOut hC
    simp only [List.cons.injEq, and_true] at ev
    obtain ⟨rfl, rfl⟩ := ev
    have ho := Kp.ofC (Cells.lw hC)
    have E3 := Lib.hid (below_then E2.out hb (Nat.le_refl _))
    have M3 : Hid (w2.heap.size ≤ w3.heap.size) := (by (have hx := hb.size; (try simp at hx); show _ ≤ _; omega))
    have Bp13 := Lib.hid ((Bp12.out).below hb)
    have rp13 := Bp13.out.now.cell
    have lp13 := Bp13.out.now.lt
    have SW3 := Lib.hid ho
    have BWbox3 := Lib.hid (Kp.ofB hN)
    have rWbox3 := BWbox3.out.now.cell
    have LWW := Lib.hid hgl
    have LVW := Lib.hid BWbox3.out.now.lt
    have lWbox3 := BWbox3.out.now.lt
    clear ho hb hC hN hgl Bp12 rp12 E2 lp12
    have HSP := Lib.hid SW3.out.now
    go_wp2_with fail
    refine ((KT0 _ E3.out).out).mono ?_
    rintro _ w4 ⟨us, rfl, hk, ho, hb⟩
    obtain ⟨X', Axa, cxa, e', rfl, _⟩ := ho.cell.lst
    injection e' with e'; subst e'
    have hkx := hk _ _ _ rfl
    clear hk
    replace ho := Kp.ofO (n := n0) ho
    have E4 := Lib.hid (below_then E3.out hb (Nat.le_refl _))
    have M4 : Hid (w3.heap.size ≤ w4.heap.size) := (by (have hx := hb.size; (try simp at hx); show _ ≤ _; omega))
    have Bp14 := Lib.hid ((Bp13.out).below hb)
    have rp14 := Bp14.out.now.cell
    have BWbox4 := Lib.hid ((BWbox3.out).below hb)
    have rWbox4 := BWbox4.out.now.cell
    have SW4 := Lib.hid ((SW3.out).below hb)
    have lp14 := Bp14.out.now.lt
    have lWbox4 := BWbox4.out.now.lt
    have Sx04 := Lib.hid ho
    clear ho hb Bp13 rp13 BWbox3 rWbox3 SW3 E3 lp13 lWbox3
    go_wp2_with fail
    refine ((KT1 _ E4.out).out).mono ?_
    rintro _ w5 ⟨us, rfl, ho, hb⟩
    have hc := ho.cells
    obtain ⟨Axb0, cxb0, Axb6, cxb6, Axb7, cxb7, rfl, -⟩ := openv_Thing hc
    clear hc
    replace ho := Kp.ofS ho
    have E5 := Lib.hid (below_then E4.out hb (Nat.le_refl _))
    have M5 : Hid (w4.heap.size ≤ w5.heap.size) := (by (have hx := hb.size; (try simp at hx); show _ ≤ _; omega))
    have Bp15 := Lib.hid ((Bp14.out).below hb)
    have rp15 := Bp15.out.now.cell
    have BWbox5 := Lib.hid ((BWbox4.out).below hb)
    have rWbox5 := BWbox5.out.now.cell
    have SW5 := Lib.hid ((SW4.out).below hb)
    have Sx05 := Lib.hid ((Sx04.out).below hb)
    have lp15 := Bp15.out.now.lt
    have lWbox5 := BWbox5.out.now.lt
    have Sx15 := Lib.hid ho
    clear ho hb Bp14 rp14 BWbox4 rWbox4 SW4 Sx04 E4 lp14 lWbox4
    go_wp2_with fail
    refine (cf.bookPut_impl hX ((Sx05.out).alloc _).now.cell ((Sx15.out).alloc _).now.cells hkx.1 hkx.2).mono ?_
    rintro _ w6 ⟨us, rfl, ho, hb⟩
    have hq : Cells _ _ _ shBookOut_ [.l lW0, .i xW1] us := ho.cells
    obtain ⟨AG0, cG0, rfl, -⟩ := openv_BookOut hq
    clear hq
    replace ho := Kp.ofS ho
    have E6 := Lib.hid (below_then (below_da E5.out (Nat.le_refl _) _) hb (Nat.le_refl _))
    have M6 : Hid (w5.heap.size + 1 ≤ w6.heap.size) := (by (have hx := hb.size; (try simp at hx); show _ ≤ _; omega))
    have Bp16 := Lib.hid (((Bp15.out).alloc _).below hb)
    have rp16 := Bp16.out.now.cell
    have BWbox6 := Lib.hid (((BWbox5.out).alloc _).below hb)
    have rWbox6 := BWbox6.out.now.cell
    have Bx16 := Lib.hid ((Kp.ofB (Blk.new w5 _ _)).below hb)
    have rx16 := Bx16.out.now.cell
    have SW6 := Lib.hid (((SW5.out).alloc _).below hb)
    have Sx06 := Lib.hid (((Sx05.out).alloc _).below hb)
    have Sx16 := Lib.hid (((Sx15.out).alloc _).below hb)
    have lp16 := Bp16.out.now.lt
    have lWbox6 := BWbox6.out.now.lt
    have lx16 := Bx16.out.now.lt
    have SG6 := Lib.hid ho
    clear ho hb Bp15 rp15 BWbox5 rWbox5 SW5 Sx05 Sx15 E5 lp15 lWbox5
    go_wp2_with fail
    refine (eqBookOut_all 3 _ _ _ _ _ _ ((SG6.out).alloc _).now.cells ((SW6.out).alloc _).now).mono ?_
    rintro _ w7 ⟨rfl, hb⟩
    have E7 := Lib.hid (below_then (below_da E6.out (Nat.le_refl _) _) hb (Nat.le_refl _))
    have M7 : Hid (w6.heap.size + 1 ≤ w7.heap.size) := (by (have hx := hb.size; (try simp at hx); show _ ≤ _; omega))
    have Bp17 := Lib.hid (((Bp16.out).alloc _).below hb)
    have rp17 := Bp17.out.now.cell
    have BWbox7 := Lib.hid (((BWbox6.out).alloc _).below hb)
    have rWbox7 := BWbox7.out.now.cell
    have Bx17 := Lib.hid (((Bx16.out).alloc _).below hb)
    have rx17 := Bx17.out.now.cell
    have BGbox7 := Lib.hid ((Kp.ofB (Blk.new w6 _ _)).below hb)
    have rGbox7 := BGbox7.out.now.cell
    have SW7 := Lib.hid (((SW6.out).alloc _).below hb)
    have Sx07 := Lib.hid (((Sx06.out).alloc _).below hb)
    have Sx17 := Lib.hid (((Sx16.out).alloc _).below hb)
    have SG7 := Lib.hid (((SG6.out).alloc _).below hb)
    have lp17 := Bp17.out.now.lt
    have lWbox7 := BWbox7.out.now.lt
    have lx17 := Bx17.out.now.lt
    have lGbox7 := BGbox7.out.now.lt
    clear hb Bp16 rp16 BWbox6 rWbox6 Bx16 rx16 SW6 Sx06 Sx16 SG6 E6 lp16 lWbox6 lx16
    go_wp2_with fail
    refine ((KT0 _ E7.out).out).mono ?_
    rintro _ w8 ⟨us, rfl, hk, ho, hb⟩
    obtain ⟨X', Aqa, cqa, e', rfl, _⟩ := ho.cell.lst
    injection e' with e'; subst e'
    clear hk
    replace ho := Kp.ofO (n := n0) ho
    have E8 := Lib.hid (below_then E7.out hb (Nat.le_refl _))
    have M8 : Hid (w7.heap.size ≤ w8.heap.size) := (by (have hx := hb.size; (try simp at hx); show _ ≤ _; omega))
    have Bp18 := Lib.hid ((Bp17.out).below hb)
    have rp18 := Bp18.out.now.cell
    have BWbox8 := Lib.hid ((BWbox7.out).below hb)
    have rWbox8 := BWbox8.out.now.cell
    have Bx18 := Lib.hid ((Bx17.out).below hb)
    have rx18 := Bx18.out.now.cell
    have BGbox8 := Lib.hid ((BGbox7.out).below hb)
    have rGbox8 := BGbox8.out.now.cell
    have SW8 := Lib.hid ((SW7.out).below hb)
    have Sx08 := Lib.hid ((Sx07.out).below hb)
    have Sx18 := Lib.hid ((Sx17.out).below hb)
    have SG8 := Lib.hid ((SG7.out).below hb)
    have lp18 := Bp18.out.now.lt
    have lWbox8 := BWbox8.out.now.lt
    have lx18 := Bx18.out.now.lt
    have lGbox8 := BGbox8.out.now.lt
    have Sq08 := Lib.hid ho
    clear ho hb Bp17 rp17 BWbox7 rWbox7 Bx17 rx17 BGbox7 rGbox7 SW7 Sx07 Sx17 SG7 E7 lp17 lWbox7 lx17 lGbox7
    go_wp2_with fail
    refine (eqThingS_all n0 _ _ (.l xs0) _ _ _ (Sx08.out).now.cell (Sq08.out).now.cell).mono ?_
    rintro _ w9 ⟨rfl, hb⟩
    have E9 := Lib.hid (below_then E8.out hb (Nat.le_refl _))
    have M9 : Hid (w8.heap.size ≤ w9.heap.size) := (by (have hx := hb.size; (try simp at hx); show _ ≤ _; omega))
    have Bp19 := Lib.hid ((Bp18.out).below hb)
    have rp19 := Bp19.out.now.cell
    have BWbox9 := Lib.hid ((BWbox8.out).below hb)
    have rWbox9 := BWbox9.out.now.cell
    have Bx19 := Lib.hid ((Bx18.out).below hb)
    have rx19 := Bx19.out.now.cell
    have BGbox9 := Lib.hid ((BGbox8.out).below hb)
    have rGbox9 := BGbox9.out.now.cell
    have SW9 := Lib.hid ((SW8.out).below hb)
    have Sx09 := Lib.hid ((Sx08.out).below hb)
    have Sx19 := Lib.hid ((Sx18.out).below hb)
    have SG9 := Lib.hid ((SG8.out).below hb)
    have Sq09 := Lib.hid ((Sq08.out).below hb)
    have lp19 := Bp19.out.now.lt
    have lWbox9 := BWbox9.out.now.lt
    have lx19 := Bx19.out.now.lt
    have lGbox9 := BGbox9.out.now.lt
    clear hb Bp18 rp18 BWbox8 rWbox8 Bx18 rx18 BGbox8 rGbox8 SW8 Sx08 Sx18 SG8 Sq08 E8 lp18 lWbox8 lx18 lGbox8
    clear Sq09
    go_wp2_with fail
    go_region_held3 (fun w' => w'.cell? ⟨w5.heap.size, 0, none⟩ = some (.slice Axb0 lb0.length cxb0) ∧ w'.cell? ⟨w5.heap.size, 1, none⟩ = some (.string sb1) ∧ w'.cell? ⟨w5.heap.size, 2, none⟩ = some (.string sb2) ∧ w'.cell? ⟨w5.heap.size, 3, none⟩ = some (.int .i64 xb3) ∧ w'.cell? ⟨w5.heap.size, 4, none⟩ = some (.int .i64 xb4) ∧ w'.cell? ⟨w5.heap.size, 5, none⟩ = some (.string sb5) ∧ w'.cell? ⟨w5.heap.size, 6, none⟩ = some (.slice Axb6 lb6.length cxb6) ∧ w'.cell? ⟨w5.heap.size, 7, none⟩ = some (.slice Axb7 lb7.length cxb7) ∧ w'.cell? ⟨w.heap.size, 0, none⟩ = some (.slice Ab0 lb0.length cb0) ∧ w'.cell? ⟨w.heap.size, 1, none⟩ = some (.string sb1) ∧ w'.cell? ⟨w.heap.size, 2, none⟩ = some (.string sb2) ∧ w'.cell? ⟨w.heap.size, 3, none⟩ = some (.int .i64 xb3) ∧ w'.cell? ⟨w.heap.size, 4, none⟩ = some (.int .i64 xb4) ∧ w'.cell? ⟨w.heap.size, 5, none⟩ = some (.string sb5) ∧ w'.cell? ⟨w.heap.size, 6, none⟩ = some (.slice Ab6 lb6.length cb6) ∧ w'.cell? ⟨w.heap.size, 7, none⟩ = some (.slice Ab7 lb7.length cb7)) (go_keep)
      (first
      | (go_at_call 8; refine (KT1 _ ?_).out.mono ?_; exact below_dn E9.out _; rintro _ w10 ⟨us, rfl, ho, hb⟩; have hbb := below_then (below_d w9 _) hb (Nat.le_refl _); have hc := ho.cells; clear ho; obtain ⟨Aqb0, cqb0, Aqb6, cqb6, Aqb7, cqb7, rfl, -⟩ := openv_Thing hc; have E10 := Lib.hid (below_then E9.out hbb (Nat.le_refl _)); have M10 : Hid (w9.heap.size ≤ w10.heap.size) := (by (have hx := hbb.size; (try simp at hx); show _ ≤ _; omega)); have Bp110 := Lib.hid ((Bp19.out).below hbb); have rp110 := Bp110.out.now.cell; have BWbox10 := Lib.hid ((BWbox9.out).below hbb); have rWbox10 := BWbox10.out.now.cell; have Bx110 := Lib.hid ((Bx19.out).below hbb); have rx110 := Bx110.out.now.cell; have BGbox10 := Lib.hid ((BGbox9.out).below hbb); have rGbox10 := BGbox10.out.now.cell; have SW10 := Lib.hid ((SW9.out).below hbb); have Sx010 := Lib.hid ((Sx09.out).below hbb); have Sx110 := Lib.hid ((Sx19.out).below hbb); have SG10 := Lib.hid ((SG9.out).below hbb); have lp110 := Bp110.out.now.lt; have lWbox10 := BWbox10.out.now.lt; have lx110 := Bx110.out.now.lt; have lGbox10 := BGbox10.out.now.lt; have Sq10 := Lib.hid (Kp.ofC hc); clear hb hbb hc)
      | (go_at_call 12; refine (eqThing_all n1 _ _ _ _ _ _ Sx110.out.now.cells Sq10.out.now).mono ?_; rintro _ w11 ⟨rfl, hb⟩; have E11 := Lib.hid (below_then E10.out hb (Nat.le_refl _)); have M11 : Hid (w10.heap.size ≤ w11.heap.size) := (by (have hx := hb.size; (try simp at hx); show _ ≤ _; omega)); have Bp111 := Lib.hid ((Bp110.out).below hb); have rp111 := Bp111.out.now.cell; have BWbox11 := Lib.hid ((BWbox10.out).below hb); have rWbox11 := BWbox11.out.now.cell; have Bx111 := Lib.hid ((Bx110.out).below hb); have rx111 := Bx111.out.now.cell; have BGbox11 := Lib.hid ((BGbox10.out).below hb); have rGbox11 := BGbox11.out.now.cell; have SW11 := Lib.hid ((SW10.out).below hb); have Sx011 := Lib.hid ((Sx010.out).below hb); have Sx111 := Lib.hid ((Sx110.out).below hb); have SG11 := Lib.hid ((SG10.out).below hb); have Sq11 := Lib.hid ((Sq10.out).below hb); have lp111 := Bp111.out.now.lt; have lWbox11 := BWbox11.out.now.lt; have lx111 := Bx111.out.now.lt; have lGbox11 := BGbox11.out.now.lt; clear hb))
    go_split_ands
    clear Sq11
    clear Bp19 rp19 BWbox9 rWbox9 Bx19 rx19 BGbox9 rGbox9 SW9 Sx09 Sx19 SG9 E9 lp19 lWbox9 lx19 lGbox9 Bp110 rp110 BWbox10 rWbox10 Bx110 rx110 BGbox10 rGbox10 SW10 Sx010 Sx110 SG10 E10 lp110 lWbox10 lx110 lGbox10
    clear Sq10
    go_wp2_with fail
    refine (mkThingS_all n0 _ xs0 _ (1) 1 _ (Sx011.out).now rfl (by omega) (by (have := HNB0.out; omega))).mono ?_
    rintro _ w12 ⟨z12, rfl, hz12, hown, ho⟩
    have M12 : Hid (w11.heap.size ≤ w12.heap.size) := ho.size
    have E12 := Lib.hid (Below.only E11.out ho E11.out.size (fun b hb => by have := M1.out; have := M2.out; have := M3.out; have := LWW.out; have := LVW.out; have := M4.out; have := M5.out; have := M6.out; have := M7.out; have := M8.out; have := M9.out; have := M10.out; have := M11.out; simp [Rg] at hb; omega))
    have Bp112 := Lib.hid (Bp111.out.only ho (fun b h1 h2 h3 => by have := M1.out; have := M2.out; have := M3.out; have := LWW.out; have := LVW.out; have := M4.out; have := M5.out; have := M6.out; have := M7.out; have := M8.out; have := M9.out; have := M10.out; have := M11.out; simp [Rg] at h3; omega))
    have rp112 := Bp112.out.now.cell
    have BWbox12 := Lib.hid (BWbox11.out.only ho (fun b h1 h2 h3 => by have := M1.out; have := M2.out; have := M3.out; have := LWW.out; have := LVW.out; have := M4.out; have := M5.out; have := M6.out; have := M7.out; have := M8.out; have := M9.out; have := M10.out; have := M11.out; simp [Rg] at h3; omega))
    have rWbox12 := BWbox12.out.now.cell
    have Bx112 := Lib.hid (Bx111.out.only ho (fun b h1 h2 h3 => by have := M1.out; have := M2.out; have := M3.out; have := LWW.out; have := LVW.out; have := M4.out; have := M5.out; have := M6.out; have := M7.out; have := M8.out; have := M9.out; have := M10.out; have := M11.out; simp [Rg] at h3; omega))
    have rx112 := Bx112.out.now.cell
    have BGbox12 := Lib.hid (BGbox11.out.only ho (fun b h1 h2 h3 => by have := M1.out; have := M2.out; have := M3.out; have := LWW.out; have := LVW.out; have := M4.out; have := M5.out; have := M6.out; have := M7.out; have := M8.out; have := M9.out; have := M10.out; have := M11.out; simp [Rg] at h3; omega))
    have rGbox12 := BGbox12.out.now.cell
    have SW12 := Lib.hid (SW11.out.only ho (fun b h1 h2 h3 => by have := M1.out; have := M2.out; have := M3.out; have := LWW.out; have := LVW.out; have := M4.out; have := M5.out; have := M6.out; have := M7.out; have := M8.out; have := M9.out; have := M10.out; have := M11.out; (try simp [Rg, Lw] at h1); simp [Rg] at h3; omega))
    have Sx112 := Lib.hid (Sx111.out.only ho (fun b h1 h2 h3 => by have := M1.out; have := M2.out; have := M3.out; have := LWW.out; have := LVW.out; have := M4.out; have := M5.out; have := M6.out; have := M7.out; have := M8.out; have := M9.out; have := M10.out; have := M11.out; (try simp [Rg, Lw] at h1); simp [Rg] at h3; omega))
    have SG12 := Lib.hid (SG11.out.only ho (fun b h1 h2 h3 => by have := M1.out; have := M2.out; have := M3.out; have := LWW.out; have := LVW.out; have := M4.out; have := M5.out; have := M6.out; have := M7.out; have := M8.out; have := M9.out; have := M10.out; have := M11.out; (try simp [Rg, Lw] at h1); simp [Rg] at h3; omega))
    have Sx012 := Lib.hid (Kp.ofO hown)
    clear hown ho E11 Bp111 rp111 BWbox11 rWbox11 Bx111 rx111 BGbox11 rGbox11 SW11 Sx011 Sx111 SG11
    have lp112 := Bp112.out.now.lt
    have lWbox12 := BWbox12.out.now.lt
    have lx112 := Bx112.out.now.lt
    have lGbox12 := BGbox12.out.now.lt
    clear lp111 lWbox11 lx111 lGbox11
    have HZ12 := Lib.hid hz12
    have hz12' : 0 ≤ z12 := by omega
    clear hz12
    go_wp2_with fail
    refine (mkThing_all n1 _ [.l lb0, .s sb1, .s sb2, .i xb3, .i xb4, .s sb5, .l lb6, .l lb7] _ (z12) (1 + nL xs0) _ (Sx112.out).now (fun b hb => by have := M1.out; have := M2.out; have := M3.out; have := LWW.out; have := LVW.out; have := M4.out; have := M5.out; have := M6.out; have := M7.out; have := M8.out; have := M9.out; have := M10.out; have := M11.out; have := M12.out; simp [Rg] at hb; omega) HZ12.out (by omega) (by (have := HNB0.out; have := HNB1.out; omega))).mono ?_
    rintro _ w13 ⟨z13, rfl, hz13, hown, ho⟩
    have M13 : Hid (w12.heap.size ≤ w13.heap.size) := ho.size
    have E13 := Lib.hid (Below.only E12.out ho E12.out.size (fun b hb => by have := M1.out; have := M2.out; have := M3.out; have := LWW.out; have := LVW.out; have := M4.out; have := M5.out; have := M6.out; have := M7.out; have := M8.out; have := M9.out; have := M10.out; have := M11.out; have := M12.out; simp [Rg] at hb; omega))
    have Bp113 := Lib.hid (Bp112.out.only ho (fun b h1 h2 h3 => by have := M1.out; have := M2.out; have := M3.out; have := LWW.out; have := LVW.out; have := M4.out; have := M5.out; have := M6.out; have := M7.out; have := M8.out; have := M9.out; have := M10.out; have := M11.out; have := M12.out; simp [Rg] at h3; omega))
    have rp113 := Bp113.out.now.cell
    have BWbox13 := Lib.hid (BWbox12.out.only ho (fun b h1 h2 h3 => by have := M1.out; have := M2.out; have := M3.out; have := LWW.out; have := LVW.out; have := M4.out; have := M5.out; have := M6.out; have := M7.out; have := M8.out; have := M9.out; have := M10.out; have := M11.out; have := M12.out; simp [Rg] at h3; omega))
    have rWbox13 := BWbox13.out.now.cell
    have Bx113 := Lib.hid (Bx112.out.only ho (fun b h1 h2 h3 => by have := M1.out; have := M2.out; have := M3.out; have := LWW.out; have := LVW.out; have := M4.out; have := M5.out; have := M6.out; have := M7.out; have := M8.out; have := M9.out; have := M10.out; have := M11.out; have := M12.out; simp [Rg] at h3; omega))
    have rx113 := Bx113.out.now.cell
    have BGbox13 := Lib.hid (BGbox12.out.only ho (fun b h1 h2 h3 => by have := M1.out; have := M2.out; have := M3.out; have := LWW.out; have := LVW.out; have := M4.out; have := M5.out; have := M6.out; have := M7.out; have := M8.out; have := M9.out; have := M10.out; have := M11.out; have := M12.out; simp [Rg] at h3; omega))
    have rGbox13 := BGbox13.out.now.cell
    have SW13 := Lib.hid (SW12.out.only ho (fun b h1 h2 h3 => by have := M1.out; have := M2.out; have := M3.out; have := LWW.out; have := LVW.out; have := M4.out; have := M5.out; have := M6.out; have := M7.out; have := M8.out; have := M9.out; have := M10.out; have := M11.out; have := M12.out; (try simp [Rg, Lw] at h1); simp [Rg] at h3; omega))
    have SG13 := Lib.hid (SG12.out.only ho (fun b h1 h2 h3 => by have := M1.out; have := M2.out; have := M3.out; have := LWW.out; have := LVW.out; have := M4.out; have := M5.out; have := M6.out; have := M7.out; have := M8.out; have := M9.out; have := M10.out; have := M11.out; have := M12.out; (try simp [Rg, Lw] at h1); simp [Rg] at h3; omega))
    have Sx013 := Lib.hid (Sx012.out.only ho (fun b h1 h2 h3 => by have := M1.out; have := M2.out; have := M3.out; have := LWW.out; have := LVW.out; have := M4.out; have := M5.out; have := M6.out; have := M7.out; have := M8.out; have := M9.out; have := M10.out; have := M11.out; have := M12.out; (try simp [Rg, Lw] at h1); simp [Rg] at h3; omega))
    have Sx113 := Lib.hid (Kp.ofS hown)
    clear hown ho E12 Bp112 rp112 BWbox12 rWbox12 Bx112 rx112 BGbox12 rGbox12 SW12 Sx112 SG12 Sx012
    have lp113 := Bp113.out.now.lt
    have lWbox13 := BWbox13.out.now.lt
    have lx113 := Bx113.out.now.lt
    have lGbox13 := BGbox13.out.now.lt
    clear lp112 lWbox12 lx112 lGbox12
    have hz13' : 0 ≤ z13 := by omega
    clear hz13
    go_wp2_with fail
    refine (eqBookOut_all 3 _ _ _ _ _ _ (SG13.out).now.cells (SW13.out).now).mono ?_
    rintro _ w14 ⟨rfl, hb⟩
    have E14 := Lib.hid (below_then E13.out hb (Nat.le_refl _))
    have M14 : Hid (w13.heap.size ≤ w14.heap.size) := (by (have hx := hb.size; (try simp at hx); show _ ≤ _; omega))
    have Bp114 := Lib.hid ((Bp113.out).below hb)
    have rp114 := Bp114.out.now.cell
    have BWbox14 := Lib.hid ((BWbox13.out).below hb)
    have rWbox14 := BWbox14.out.now.cell
    have Bx114 := Lib.hid ((Bx113.out).below hb)
    have rx114 := Bx114.out.now.cell
    have BGbox14 := Lib.hid ((BGbox13.out).below hb)
    have rGbox14 := BGbox14.out.now.cell
    have SW14 := Lib.hid ((SW13.out).below hb)
    have SG14 := Lib.hid ((SG13.out).below hb)
    have Sx014 := Lib.hid ((Sx013.out).below hb)
    have Sx114 := Lib.hid ((Sx113.out).below hb)
    have lp114 := Bp114.out.now.lt
    have lWbox14 := BWbox14.out.now.lt
    have lx114 := Bx114.out.now.lt
    have lGbox14 := BGbox14.out.now.lt
    clear hb Bp113 rp113 BWbox13 rWbox13 Bx113 rx113 BGbox13 rGbox13 SW13 SG13 Sx013 Sx113 E13 lp113 lWbox13 lx113 lGbox13
    clear Sx014
    clear Sx114
    go_wp2_with fail
    refine (mkBookOut_all 3 _ [.l lW0, .i xW1] _ 1 1 _ (SG14.out).now (fun b hb => by have := M1.out; have := M2.out; have := M3.out; have := LWW.out; have := LVW.out; have := M4.out; have := M5.out; have := M6.out; have := M7.out; have := M8.out; have := M9.out; have := M10.out; have := M11.out; have := M12.out; have := M13.out; have := M14.out; simp [Rg] at hb; omega) rfl (by omega) ((by (have := cf.put_bound xs0 [.l lb0, .s sb1, .s sb2, .i xb3, .i xb4, .s sb5, .l lb6, .l lb7]; have e : nCs [.l lb0, .s sb1, .s sb2, .i xb3, .i xb4, .s sb5, .l lb6, .l lb7] = nV [.l lb0, .s sb1, .s sb2, .i xb3, .i xb4, .s sb5, .l lb6, .l lb7] + 5 := (by simp only [nCs, nC, nV]; omega); rw [hX] at this; have := HNB0.out; have := HNB1.out; omega)))).mono ?_
    rintro _ w15 ⟨z15, rfl, hz15, hown, ho⟩
    have M15 : Hid (w14.heap.size ≤ w15.heap.size) := ho.size
    have E15 := Lib.hid (Below.only E14.out ho E14.out.size (fun b hb => by have := M1.out; have := M2.out; have := M3.out; have := LWW.out; have := LVW.out; have := M4.out; have := M5.out; have := M6.out; have := M7.out; have := M8.out; have := M9.out; have := M10.out; have := M11.out; have := M12.out; have := M13.out; have := M14.out; simp [Rg] at hb; omega))
    have Bp115 := Lib.hid (Bp114.out.only ho (fun b h1 h2 h3 => by have := M1.out; have := M2.out; have := M3.out; have := LWW.out; have := LVW.out; have := M4.out; have := M5.out; have := M6.out; have := M7.out; have := M8.out; have := M9.out; have := M10.out; have := M11.out; have := M12.out; have := M13.out; have := M14.out; simp [Rg] at h3; omega))
    have rp115 := Bp115.out.now.cell
    have BWbox15 := Lib.hid (BWbox14.out.only ho (fun b h1 h2 h3 => by have := M1.out; have := M2.out; have := M3.out; have := LWW.out; have := LVW.out; have := M4.out; have := M5.out; have := M6.out; have := M7.out; have := M8.out; have := M9.out; have := M10.out; have := M11.out; have := M12.out; have := M13.out; have := M14.out; simp [Rg] at h3; omega))
    have rWbox15 := BWbox15.out.now.cell
    have Bx115 := Lib.hid (Bx114.out.only ho (fun b h1 h2 h3 => by have := M1.out; have := M2.out; have := M3.out; have := LWW.out; have := LVW.out; have := M4.out; have := M5.out; have := M6.out; have := M7.out; have := M8.out; have := M9.out; have := M10.out; have := M11.out; have := M12.out; have := M13.out; have := M14.out; simp [Rg] at h3; omega))
    have rx115 := Bx115.out.now.cell
    have BGbox15 := Lib.hid (BGbox14.out.only ho (fun b h1 h2 h3 => by have := M1.out; have := M2.out; have := M3.out; have := LWW.out; have := LVW.out; have := M4.out; have := M5.out; have := M6.out; have := M7.out; have := M8.out; have := M9.out; have := M10.out; have := M11.out; have := M12.out; have := M13.out; have := M14.out; simp [Rg] at h3; omega))
    have rGbox15 := BGbox15.out.now.cell
    have SW15 := Lib.hid (SW14.out.only ho (fun b h1 h2 h3 => by have := M1.out; have := M2.out; have := M3.out; have := LWW.out; have := LVW.out; have := M4.out; have := M5.out; have := M6.out; have := M7.out; have := M8.out; have := M9.out; have := M10.out; have := M11.out; have := M12.out; have := M13.out; have := M14.out; (try simp [Rg, Lw] at h1); simp [Rg] at h3; omega))
    have SG15 := Lib.hid (Kp.ofS hown)
    clear hown ho E14 Bp114 rp114 BWbox14 rWbox14 Bx114 rx114 BGbox14 rGbox14 SW14 SG14
    have lp115 := Bp115.out.now.lt
    have lWbox15 := BWbox15.out.now.lt
    have lx115 := Bx115.out.now.lt
    have lGbox15 := BGbox15.out.now.lt
    clear lp114 lWbox14 lx114 lGbox14
    go_wp2_with fail
    refine (hdBookOut_all 3 _ _ _ _ _ [.l lW0, .i xW1] _ 1 1 _ HSP.out (SG15.out).now.cells rfl (by omega) ((by (have := cf.put_bound xs0 [.l lb0, .s sb1, .s sb2, .i xb3, .i xb4, .s sb5, .l lb6, .l lb7]; have e : nCs [.l lb0, .s sb1, .s sb2, .i xb3, .i xb4, .s sb5, .l lb6, .l lb7] = nV [.l lb0, .s sb1, .s sb2, .i xb3, .i xb4, .s sb5, .l lb6, .l lb7] + 5 := (by simp only [nCs, nC, nV]; omega); rw [hX] at this; have := HNB0.out; have := HNB1.out; omega)))).mono ?_
    rintro _ w16 ⟨y16, rfl, hy16, hb⟩
    have E16 := Lib.hid (below_then E15.out hb (Nat.le_refl _))
    have M16 : Hid (w15.heap.size ≤ w16.heap.size) := (by (have hx := hb.size; (try simp at hx); show _ ≤ _; omega))
    have Bp116 := Lib.hid ((Bp115.out).below hb)
    have rp116 := Bp116.out.now.cell
    have BWbox16 := Lib.hid ((BWbox15.out).below hb)
    have rWbox16 := BWbox16.out.now.cell
    have Bx116 := Lib.hid ((Bx115.out).below hb)
    have rx116 := Bx116.out.now.cell
    have BGbox16 := Lib.hid ((BGbox15.out).below hb)
    have rGbox16 := BGbox16.out.now.cell
    have SW16 := Lib.hid ((SW15.out).below hb)
    have SG16 := Lib.hid ((SG15.out).below hb)
    have lp116 := Bp116.out.now.lt
    have lWbox16 := BWbox16.out.now.lt
    have lx116 := Bx116.out.now.lt
    have lGbox16 := BGbox16.out.now.lt
    clear hb Bp115 rp115 BWbox15 rWbox15 Bx115 rx115 BGbox15 rGbox15 SW15 SG15 E15 lp115 lWbox15 lx115 lGbox15
    obtain rfl : y16 = z15 := by omega
    have hy0 : 0 ≤ y16 := by omega
    go_wp2_with fail
    go_cut [13] (fun s13 wx => ∃ (g : Nat) (v0 v1 : Value), s13 = .pointer (some ⟨g, 0, none⟩) ∧ w16.heap.size ≤ g ∧ Blk wx g 34 #[v0, v1] ∧ Cells Any 3 wx shBookOut_ [.l lW0, .i xW1] [v0, v1] ∧ Below w16.heap.size w16 wx)
    case first =>
      refine wp_region_held_drew (S := fun w' => Blk w' w.heap.size 29 #[.slice Ab0 lb0.length cb0, .string sb1, .string sb2, .int .i64 xb3, .int .i64 xb4, .string sb5, .slice Ab6 lb6.length cb6, .slice Ab7 lb7.length cb7]) (by kernel_rfl) ((Bp116.out.below (below_d w16 1)).now) (fun _ => ?_)
      have hb := below_d w16 1
      have hdr : w16.drew = w16.drewN 1 := rfl
      rw [hdr]
      obtain ⟨w17, hWd⟩ : ∃ W, w16.drewN 1 = W := ⟨_, rfl⟩
      rw [hWd] at hb ⊢
      have R17 := Lib.hid hb
      have E17 := Lib.hid (below_then E16.out hb (Nat.le_refl _))
      have M17 : Hid (w16.heap.size ≤ w17.heap.size) := (by (have hx := hb.size; (try simp at hx); show _ ≤ _; omega))
      have Bp117 := Lib.hid ((Bp116.out).below hb)
      have rp117 := Bp117.out.now.cell
      have BWbox17 := Lib.hid ((BWbox16.out).below hb)
      have rWbox17 := BWbox17.out.now.cell
      have Bx117 := Lib.hid ((Bx116.out).below hb)
      have rx117 := Bx117.out.now.cell
      have BGbox17 := Lib.hid ((BGbox16.out).below hb)
      have rGbox17 := BGbox17.out.now.cell
      have SW17 := Lib.hid ((SW16.out).below hb)
      have SG17 := Lib.hid ((SG16.out).below hb)
      have lp117 := Bp117.out.now.lt
      have lWbox17 := BWbox17.out.now.lt
      have lx117 := Bx117.out.now.lt
      have lGbox17 := BGbox17.out.now.lt
      clear hb hWd hdr
      refine wpAnyH_take (i := 0) (v := .slice A0 xs0.length c0) rfl (by kernel_rfl) (by kernel_rfl) (by kernel_rfl) (fun _ _ _ h => h) (Or.inl ⟨by rfl, ?_⟩) Bp117.out.now ?_
      · intro w' hSw
        go_simp
      try simp only [Act.put, List.setIfInBounds_toArray, List.set_cons_zero, List.set_cons_succ]
      refine wpAnyH_take (i := 2) (v := .agg #[.slice Ab0 lb0.length cb0, .string sb1, .string sb2, .int .i64 xb3, .int .i64 xb4, .string sb5, .slice Ab6 lb6.length cb6, .slice Ab7 lb7.length cb7]) rfl (by kernel_rfl) (by kernel_rfl) (by kernel_rfl) (fun _ _ _ h => h) (Or.inl ⟨by rfl, ?_⟩) Bp117.out.now ?_
      · intro w' hSw
        have hc := Blk.cell hSw
        go_simp
      try simp only [Act.put, List.setIfInBounds_toArray, List.set_cons_zero, List.set_cons_succ]
      refine wpAnyH_ready (rs := [1, 5]) (by kernel_rfl) (by simp) ?_
      refine AllReadyH.cons rfl (fun K hK => ?_) ?_
      · go_simp
        refine ((KT0 _ E17.out).out).mono ?_
        rintro _ w18 ⟨us, rfl, hk, ho, hb⟩
        obtain ⟨X', Aua, cua, e', rfl, _⟩ := ho.cell.lst
        injection e' with e'; subst e'
        have hku := hk _ _ _ rfl
        clear hk
        replace ho := Kp.ofO (n := n0) ho
        have E18 := Lib.hid (below_then E17.out hb (Nat.le_refl _))
        have M18 : Hid (w17.heap.size ≤ w18.heap.size) := (by (have hx := hb.size; (try simp at hx); show _ ≤ _; omega))
        have Bp118 := Lib.hid ((Bp117.out).below hb)
        have rp118 := Bp118.out.now.cell
        have BWbox18 := Lib.hid ((BWbox17.out).below hb)
        have rWbox18 := BWbox18.out.now.cell
        have Bx118 := Lib.hid ((Bx117.out).below hb)
        have rx118 := Bx118.out.now.cell
        have BGbox18 := Lib.hid ((BGbox17.out).below hb)
        have rGbox18 := BGbox18.out.now.cell
        have SW18 := Lib.hid ((SW17.out).below hb)
        have SG18 := Lib.hid ((SG17.out).below hb)
        have lp118 := Bp118.out.now.lt
        have lWbox18 := BWbox18.out.now.lt
        have lx118 := Bx118.out.now.lt
        have lGbox18 := BGbox18.out.now.lt
        have R18 := Lib.hid (below_then R17.out hb (Nat.le_refl _))
        have Su018 := Lib.hid ho
        clear ho hb
        try go_wp2_with fail
        refine hK.out _ _ Bp118.out.now (fun _ => ?_)
        clear hK K
        try simp only [Act.put, List.setIfInBounds_toArray, List.set_cons_zero, List.set_cons_succ]
        refine wpAnyH_ready (rs := [3, 5]) (by kernel_rfl) (by simp) ?_
        refine AllReadyH.cons rfl (fun K hK => ?_) ?_
        · go_simp
          refine ((KT1 _ E18.out).out).mono ?_
          rintro _ w19 ⟨us, rfl, ho, hb⟩
          have hc := ho.cells
          obtain ⟨Aub0, cub0, Aub6, cub6, Aub7, cub7, rfl, -⟩ := openv_Thing hc
          clear hc
          replace ho := Kp.ofS ho
          have E19 := Lib.hid (below_then E18.out hb (Nat.le_refl _))
          have M19 : Hid (w18.heap.size ≤ w19.heap.size) := (by (have hx := hb.size; (try simp at hx); show _ ≤ _; omega))
          have Bp119 := Lib.hid ((Bp118.out).below hb)
          have rp119 := Bp119.out.now.cell
          have BWbox19 := Lib.hid ((BWbox18.out).below hb)
          have rWbox19 := BWbox19.out.now.cell
          have Bx119 := Lib.hid ((Bx118.out).below hb)
          have rx119 := Bx119.out.now.cell
          have BGbox19 := Lib.hid ((BGbox18.out).below hb)
          have rGbox19 := BGbox19.out.now.cell
          have SW19 := Lib.hid ((SW18.out).below hb)
          have SG19 := Lib.hid ((SG18.out).below hb)
          have Su019 := Lib.hid ((Su018.out).below hb)
          have lp119 := Bp119.out.now.lt
          have lWbox19 := BWbox19.out.now.lt
          have lx119 := Bx119.out.now.lt
          have lGbox19 := BGbox19.out.now.lt
          have R19 := Lib.hid (below_then R18.out hb (Nat.le_refl _))
          have Su119 := Lib.hid ho
          clear ho hb
          try go_wp2_with fail
          refine hK.out _ _ Bp119.out.now (fun _ => ?_)
          clear hK K
          try simp only [Act.put, List.setIfInBounds_toArray, List.set_cons_zero, List.set_cons_succ]
          refine wpAnyH_ready (rs := [4, 5]) (by kernel_rfl) (by simp) ?_
          refine AllReadyH.cons rfl (fun K hK => ?_) ?_
          · go_simp
            refine (cf.bookPut_impl hX (Su019.out).now.cell (Su119.out).now.cells hku.1 hku.2).mono ?_
            rintro _ w20 ⟨us, rfl, ho, hb⟩
            have hq : Cells _ _ _ shBookOut_ [.l lW0, .i xW1] us := ho.cells
            obtain ⟨AH0, cH0, rfl, -⟩ := openv_BookOut hq
            clear hq
            replace ho := Kp.ofC (Cells.monoB (B' := fun x => w19.heap.size ≤ x ∧ x < w20.heap.size) ho.cells (fun b h1 h2 => ⟨h1.1, h2⟩))
            have E20 := Lib.hid (below_then E19.out hb (Nat.le_refl _))
            have M20 : Hid (w19.heap.size ≤ w20.heap.size) := (by (have hx := hb.size; (try simp at hx); show _ ≤ _; omega))
            have Bp120 := Lib.hid ((Bp119.out).below hb)
            have rp120 := Bp120.out.now.cell
            have BWbox20 := Lib.hid ((BWbox19.out).below hb)
            have rWbox20 := BWbox20.out.now.cell
            have Bx120 := Lib.hid ((Bx119.out).below hb)
            have rx120 := Bx120.out.now.cell
            have BGbox20 := Lib.hid ((BGbox19.out).below hb)
            have rGbox20 := BGbox20.out.now.cell
            have SW20 := Lib.hid ((SW19.out).below hb)
            have SG20 := Lib.hid ((SG19.out).below hb)
            have Su020 := Lib.hid ((Su019.out).below hb)
            have Su120 := Lib.hid ((Su119.out).below hb)
            have lp120 := Bp120.out.now.lt
            have lWbox20 := BWbox20.out.now.lt
            have lx120 := Bx120.out.now.lt
            have lGbox20 := BGbox20.out.now.lt
            have R20 := Lib.hid (below_then R19.out hb (Nat.le_refl _))
            have SH20 := Lib.hid ho
            clear ho hb
            try go_wp2_with fail
            refine hK.out _ _ Bp120.out.now (fun _ => ?_)
            clear hK K
            try simp only [Act.put, List.setIfInBounds_toArray, List.set_cons_zero, List.set_cons_succ]
            refine wpAnyH_ready (rs := [5]) (by kernel_rfl) (by simp) ?_
            refine AllReadyH.cons rfl (fun K hK => ?_) ?_
            · go_simp
              have hb := below_a1 w20 (.cells #[.slice none 0 0, .int .i64 0] 34)
              have N0 := Blk.new w20 34 #[.slice none 0 0, .int .i64 0]
              obtain ⟨w21, hW⟩ : ∃ W, w20.alloc (.cells #[.slice none 0 0, .int .i64 0] 34) = W := ⟨_, rfl⟩
              rw [hW] at hb N0 ⊢
              have E21 := Lib.hid (below_then E20.out hb (Nat.le_refl _))
              have M21 : Hid (w20.heap.size ≤ w21.heap.size) := (by (have hx := hb.size; (try simp at hx); show _ ≤ _; omega))
              have Bp121 := Lib.hid ((Bp120.out).below hb)
              have rp121 := Bp121.out.now.cell
              have BWbox21 := Lib.hid ((BWbox20.out).below hb)
              have rWbox21 := BWbox21.out.now.cell
              have Bx121 := Lib.hid ((Bx120.out).below hb)
              have rx121 := Bx121.out.now.cell
              have BGbox21 := Lib.hid ((BGbox20.out).below hb)
              have rGbox21 := BGbox21.out.now.cell
              have SW21 := Lib.hid ((SW20.out).below hb)
              have SG21 := Lib.hid ((SG20.out).below hb)
              have Su021 := Lib.hid ((Su020.out).below hb)
              have Su121 := Lib.hid ((Su120.out).below hb)
              have SH21 := Lib.hid ((SH20.out).below hb)
              have lp121 := Bp121.out.now.lt
              have lWbox21 := BWbox21.out.now.lt
              have lx121 := Bx121.out.now.lt
              have lGbox21 := BGbox21.out.now.lt
              have R21 := Lib.hid (below_then R20.out hb (Nat.le_refl _))
              have BN21 := Lib.hid (Kp.ofB N0)
              have rN21 := BN21.out.now.cell
              have LN := Lib.hid R20.out.size
              have LA := Lib.hid BN21.out.now.lt
              clear hb hW N0
              refine hK.out _ _ Bp121.out.now (fun _ => ?_)
              clear hK K
              try simp only [Act.put, List.setIfInBounds_toArray, List.set_cons_zero, List.set_cons_succ]
              refine wpAnyH_ready (rs := [6]) (by kernel_rfl) (by simp) ?_
              refine AllReadyH.cons rfl (fun K hK => ?_) ?_
              · have pN := BN21.out.now.cell
                have fN := BN21.out.now.free
                have lN := BN21.out.now.lt
                go_simp
                refine hK.out _ _ (far2 Bp121.out.now (by have := LN.out; have := Bp116.out.now.lt; omega) _ _) (fun _ => ?_)
                clear hK K
                try simp only [Act.put, List.setIfInBounds_toArray, List.set_cons_zero, List.set_cons_succ]
                refine wpAnyH_done (by kernel_rfl) ?_ _
                go_wp2_with fail
                go_meet
                have hl := LN.out
                refine ⟨w20.heap.size, _, _, rfl, hl, blk2 BN21.out.now _ _, ?_, ?_⟩
                · exact cells_far2 (Cells.monoB (B' := fun x => x ≠ w20.heap.size) SH21.out.now (fun b h1 _ => by have a1 := h1.1; have a2 := h1.2; have := LA.out; have := M1.out; have := M2.out; have := M3.out; have := LWW.out; have := LVW.out; have := M4.out; have := M5.out; have := M6.out; have := M7.out; have := M8.out; have := M9.out; have := M10.out; have := M11.out; have := M12.out; have := M13.out; have := M14.out; have := M15.out; have := M16.out; have := M17.out; have := M18.out; have := M19.out; have := M20.out; have := M21.out; omega)) _ _
                · iterate 2 refine Below.setCell ?_ (by exact hl) _
                  exact R21.out
              exact AllReadyH.nil
            exact AllReadyH.nil
          refine AllReadyH.cons rfl (fun K hK => ?_) ?_
          · go_simp
            have hb := below_a1 w19 (.cells #[.slice none 0 0, .int .i64 0] 34)
            have N0 := Blk.new w19 34 #[.slice none 0 0, .int .i64 0]
            obtain ⟨w20, hW⟩ : ∃ W, w19.alloc (.cells #[.slice none 0 0, .int .i64 0] 34) = W := ⟨_, rfl⟩
            rw [hW] at hb N0 ⊢
            have E20 := Lib.hid (below_then E19.out hb (Nat.le_refl _))
            have M20 : Hid (w19.heap.size ≤ w20.heap.size) := (by (have hx := hb.size; (try simp at hx); show _ ≤ _; omega))
            have Bp120 := Lib.hid ((Bp119.out).below hb)
            have rp120 := Bp120.out.now.cell
            have BWbox20 := Lib.hid ((BWbox19.out).below hb)
            have rWbox20 := BWbox20.out.now.cell
            have Bx120 := Lib.hid ((Bx119.out).below hb)
            have rx120 := Bx120.out.now.cell
            have BGbox20 := Lib.hid ((BGbox19.out).below hb)
            have rGbox20 := BGbox20.out.now.cell
            have SW20 := Lib.hid ((SW19.out).below hb)
            have SG20 := Lib.hid ((SG19.out).below hb)
            have Su020 := Lib.hid ((Su019.out).below hb)
            have Su120 := Lib.hid ((Su119.out).below hb)
            have lp120 := Bp120.out.now.lt
            have lWbox20 := BWbox20.out.now.lt
            have lx120 := Bx120.out.now.lt
            have lGbox20 := BGbox20.out.now.lt
            have R20 := Lib.hid (below_then R19.out hb (Nat.le_refl _))
            have BN20 := Lib.hid (Kp.ofB N0)
            have rN20 := BN20.out.now.cell
            have LN := Lib.hid R19.out.size
            have LA := Lib.hid BN20.out.now.lt
            clear hb hW N0
            refine hK.out _ _ Bp120.out.now (fun _ => ?_)
            clear hK K
            try simp only [Act.put, List.setIfInBounds_toArray, List.set_cons_zero, List.set_cons_succ]
            refine wpAnyH_ready (rs := [4]) (by kernel_rfl) (by simp) ?_
            refine AllReadyH.cons rfl (fun K hK => ?_) ?_
            · go_simp
              refine (cf.bookPut_impl hX (Su020.out).now.cell (Su120.out).now.cells hku.1 hku.2).mono ?_
              rintro _ w21 ⟨us, rfl, ho, hb⟩
              have hq : Cells _ _ _ shBookOut_ [.l lW0, .i xW1] us := ho.cells
              obtain ⟨AH0, cH0, rfl, -⟩ := openv_BookOut hq
              clear hq
              replace ho := Kp.ofC (Cells.monoB (B' := fun x => w20.heap.size ≤ x ∧ x < w21.heap.size) ho.cells (fun b h1 h2 => ⟨h1.1, h2⟩))
              have E21 := Lib.hid (below_then E20.out hb (Nat.le_refl _))
              have M21 : Hid (w20.heap.size ≤ w21.heap.size) := (by (have hx := hb.size; (try simp at hx); show _ ≤ _; omega))
              have Bp121 := Lib.hid ((Bp120.out).below hb)
              have rp121 := Bp121.out.now.cell
              have BWbox21 := Lib.hid ((BWbox20.out).below hb)
              have rWbox21 := BWbox21.out.now.cell
              have Bx121 := Lib.hid ((Bx120.out).below hb)
              have rx121 := Bx121.out.now.cell
              have BGbox21 := Lib.hid ((BGbox20.out).below hb)
              have rGbox21 := BGbox21.out.now.cell
              have BN21 := Lib.hid ((BN20.out).below hb)
              have rN21 := BN21.out.now.cell
              have SW21 := Lib.hid ((SW20.out).below hb)
              have SG21 := Lib.hid ((SG20.out).below hb)
              have Su021 := Lib.hid ((Su020.out).below hb)
              have Su121 := Lib.hid ((Su120.out).below hb)
              have lp121 := Bp121.out.now.lt
              have lWbox21 := BWbox21.out.now.lt
              have lx121 := Bx121.out.now.lt
              have lGbox21 := BGbox21.out.now.lt
              have lN21 := BN21.out.now.lt
              have R21 := Lib.hid (below_then R20.out hb (Nat.le_refl _))
              have SH21 := Lib.hid ho
              clear ho hb
              try go_wp2_with fail
              refine hK.out _ _ Bp121.out.now (fun _ => ?_)
              clear hK K
              try simp only [Act.put, List.setIfInBounds_toArray, List.set_cons_zero, List.set_cons_succ]
              refine wpAnyH_ready (rs := [6]) (by kernel_rfl) (by simp) ?_
              refine AllReadyH.cons rfl (fun K hK => ?_) ?_
              · have pN := BN21.out.now.cell
                have fN := BN21.out.now.free
                have lN := BN21.out.now.lt
                go_simp
                refine hK.out _ _ (far2 Bp121.out.now (by have := LN.out; have := Bp116.out.now.lt; omega) _ _) (fun _ => ?_)
                clear hK K
                try simp only [Act.put, List.setIfInBounds_toArray, List.set_cons_zero, List.set_cons_succ]
                refine wpAnyH_done (by kernel_rfl) ?_ _
                go_wp2_with fail
                go_meet
                have hl := LN.out
                refine ⟨w19.heap.size, _, _, rfl, hl, blk2 BN21.out.now _ _, ?_, ?_⟩
                · exact cells_far2 (Cells.monoB (B' := fun x => x ≠ w19.heap.size) SH21.out.now (fun b h1 _ => by have a1 := h1.1; have a2 := h1.2; have := LA.out; have := M1.out; have := M2.out; have := M3.out; have := LWW.out; have := LVW.out; have := M4.out; have := M5.out; have := M6.out; have := M7.out; have := M8.out; have := M9.out; have := M10.out; have := M11.out; have := M12.out; have := M13.out; have := M14.out; have := M15.out; have := M16.out; have := M17.out; have := M18.out; have := M19.out; have := M20.out; have := M21.out; omega)) _ _
                · iterate 2 refine Below.setCell ?_ (by exact hl) _
                  exact R21.out
              exact AllReadyH.nil
            exact AllReadyH.nil
          exact AllReadyH.nil
        refine AllReadyH.cons rfl (fun K hK => ?_) ?_
        · go_simp
          have hb := below_a1 w18 (.cells #[.slice none 0 0, .int .i64 0] 34)
          have N0 := Blk.new w18 34 #[.slice none 0 0, .int .i64 0]
          obtain ⟨w19, hW⟩ : ∃ W, w18.alloc (.cells #[.slice none 0 0, .int .i64 0] 34) = W := ⟨_, rfl⟩
          rw [hW] at hb N0 ⊢
          have E19 := Lib.hid (below_then E18.out hb (Nat.le_refl _))
          have M19 : Hid (w18.heap.size ≤ w19.heap.size) := (by (have hx := hb.size; (try simp at hx); show _ ≤ _; omega))
          have Bp119 := Lib.hid ((Bp118.out).below hb)
          have rp119 := Bp119.out.now.cell
          have BWbox19 := Lib.hid ((BWbox18.out).below hb)
          have rWbox19 := BWbox19.out.now.cell
          have Bx119 := Lib.hid ((Bx118.out).below hb)
          have rx119 := Bx119.out.now.cell
          have BGbox19 := Lib.hid ((BGbox18.out).below hb)
          have rGbox19 := BGbox19.out.now.cell
          have SW19 := Lib.hid ((SW18.out).below hb)
          have SG19 := Lib.hid ((SG18.out).below hb)
          have Su019 := Lib.hid ((Su018.out).below hb)
          have lp119 := Bp119.out.now.lt
          have lWbox19 := BWbox19.out.now.lt
          have lx119 := Bx119.out.now.lt
          have lGbox19 := BGbox19.out.now.lt
          have R19 := Lib.hid (below_then R18.out hb (Nat.le_refl _))
          have BN19 := Lib.hid (Kp.ofB N0)
          have rN19 := BN19.out.now.cell
          have LN := Lib.hid R18.out.size
          have LA := Lib.hid BN19.out.now.lt
          clear hb hW N0
          refine hK.out _ _ Bp119.out.now (fun _ => ?_)
          clear hK K
          try simp only [Act.put, List.setIfInBounds_toArray, List.set_cons_zero, List.set_cons_succ]
          refine wpAnyH_ready (rs := [3]) (by kernel_rfl) (by simp) ?_
          refine AllReadyH.cons rfl (fun K hK => ?_) ?_
          · go_simp
            refine ((KT1 _ E19.out).out).mono ?_
            rintro _ w20 ⟨us, rfl, ho, hb⟩
            have hc := ho.cells
            obtain ⟨Aub0, cub0, Aub6, cub6, Aub7, cub7, rfl, -⟩ := openv_Thing hc
            clear hc
            replace ho := Kp.ofS ho
            have E20 := Lib.hid (below_then E19.out hb (Nat.le_refl _))
            have M20 : Hid (w19.heap.size ≤ w20.heap.size) := (by (have hx := hb.size; (try simp at hx); show _ ≤ _; omega))
            have Bp120 := Lib.hid ((Bp119.out).below hb)
            have rp120 := Bp120.out.now.cell
            have BWbox20 := Lib.hid ((BWbox19.out).below hb)
            have rWbox20 := BWbox20.out.now.cell
            have Bx120 := Lib.hid ((Bx119.out).below hb)
            have rx120 := Bx120.out.now.cell
            have BGbox20 := Lib.hid ((BGbox19.out).below hb)
            have rGbox20 := BGbox20.out.now.cell
            have BN20 := Lib.hid ((BN19.out).below hb)
            have rN20 := BN20.out.now.cell
            have SW20 := Lib.hid ((SW19.out).below hb)
            have SG20 := Lib.hid ((SG19.out).below hb)
            have Su020 := Lib.hid ((Su019.out).below hb)
            have lp120 := Bp120.out.now.lt
            have lWbox20 := BWbox20.out.now.lt
            have lx120 := Bx120.out.now.lt
            have lGbox20 := BGbox20.out.now.lt
            have lN20 := BN20.out.now.lt
            have R20 := Lib.hid (below_then R19.out hb (Nat.le_refl _))
            have Su120 := Lib.hid ho
            clear ho hb
            try go_wp2_with fail
            refine hK.out _ _ Bp120.out.now (fun _ => ?_)
            clear hK K
            try simp only [Act.put, List.setIfInBounds_toArray, List.set_cons_zero, List.set_cons_succ]
            refine wpAnyH_ready (rs := [4]) (by kernel_rfl) (by simp) ?_
            refine AllReadyH.cons rfl (fun K hK => ?_) ?_
            · go_simp
              refine (cf.bookPut_impl hX (Su020.out).now.cell (Su120.out).now.cells hku.1 hku.2).mono ?_
              rintro _ w21 ⟨us, rfl, ho, hb⟩
              have hq : Cells _ _ _ shBookOut_ [.l lW0, .i xW1] us := ho.cells
              obtain ⟨AH0, cH0, rfl, -⟩ := openv_BookOut hq
              clear hq
              replace ho := Kp.ofC (Cells.monoB (B' := fun x => w20.heap.size ≤ x ∧ x < w21.heap.size) ho.cells (fun b h1 h2 => ⟨h1.1, h2⟩))
              have E21 := Lib.hid (below_then E20.out hb (Nat.le_refl _))
              have M21 : Hid (w20.heap.size ≤ w21.heap.size) := (by (have hx := hb.size; (try simp at hx); show _ ≤ _; omega))
              have Bp121 := Lib.hid ((Bp120.out).below hb)
              have rp121 := Bp121.out.now.cell
              have BWbox21 := Lib.hid ((BWbox20.out).below hb)
              have rWbox21 := BWbox21.out.now.cell
              have Bx121 := Lib.hid ((Bx120.out).below hb)
              have rx121 := Bx121.out.now.cell
              have BGbox21 := Lib.hid ((BGbox20.out).below hb)
              have rGbox21 := BGbox21.out.now.cell
              have BN21 := Lib.hid ((BN20.out).below hb)
              have rN21 := BN21.out.now.cell
              have SW21 := Lib.hid ((SW20.out).below hb)
              have SG21 := Lib.hid ((SG20.out).below hb)
              have Su021 := Lib.hid ((Su020.out).below hb)
              have Su121 := Lib.hid ((Su120.out).below hb)
              have lp121 := Bp121.out.now.lt
              have lWbox21 := BWbox21.out.now.lt
              have lx121 := Bx121.out.now.lt
              have lGbox21 := BGbox21.out.now.lt
              have lN21 := BN21.out.now.lt
              have R21 := Lib.hid (below_then R20.out hb (Nat.le_refl _))
              have SH21 := Lib.hid ho
              clear ho hb
              try go_wp2_with fail
              refine hK.out _ _ Bp121.out.now (fun _ => ?_)
              clear hK K
              try simp only [Act.put, List.setIfInBounds_toArray, List.set_cons_zero, List.set_cons_succ]
              refine wpAnyH_ready (rs := [6]) (by kernel_rfl) (by simp) ?_
              refine AllReadyH.cons rfl (fun K hK => ?_) ?_
              · have pN := BN21.out.now.cell
                have fN := BN21.out.now.free
                have lN := BN21.out.now.lt
                go_simp
                refine hK.out _ _ (far2 Bp121.out.now (by have := LN.out; have := Bp116.out.now.lt; omega) _ _) (fun _ => ?_)
                clear hK K
                try simp only [Act.put, List.setIfInBounds_toArray, List.set_cons_zero, List.set_cons_succ]
                refine wpAnyH_done (by kernel_rfl) ?_ _
                go_wp2_with fail
                go_meet
                have hl := LN.out
                refine ⟨w18.heap.size, _, _, rfl, hl, blk2 BN21.out.now _ _, ?_, ?_⟩
                · exact cells_far2 (Cells.monoB (B' := fun x => x ≠ w18.heap.size) SH21.out.now (fun b h1 _ => by have a1 := h1.1; have a2 := h1.2; have := LA.out; have := M1.out; have := M2.out; have := M3.out; have := LWW.out; have := LVW.out; have := M4.out; have := M5.out; have := M6.out; have := M7.out; have := M8.out; have := M9.out; have := M10.out; have := M11.out; have := M12.out; have := M13.out; have := M14.out; have := M15.out; have := M16.out; have := M17.out; have := M18.out; have := M19.out; have := M20.out; have := M21.out; omega)) _ _
                · iterate 2 refine Below.setCell ?_ (by exact hl) _
                  exact R21.out
              exact AllReadyH.nil
            exact AllReadyH.nil
          exact AllReadyH.nil
        exact AllReadyH.nil
      refine AllReadyH.cons rfl (fun K hK => ?_) ?_
      · go_simp
        have hb := below_a1 w17 (.cells #[.slice none 0 0, .int .i64 0] 34)
        have N0 := Blk.new w17 34 #[.slice none 0 0, .int .i64 0]
        obtain ⟨w18, hW⟩ : ∃ W, w17.alloc (.cells #[.slice none 0 0, .int .i64 0] 34) = W := ⟨_, rfl⟩
        rw [hW] at hb N0 ⊢
        have E18 := Lib.hid (below_then E17.out hb (Nat.le_refl _))
        have M18 : Hid (w17.heap.size ≤ w18.heap.size) := (by (have hx := hb.size; (try simp at hx); show _ ≤ _; omega))
        have Bp118 := Lib.hid ((Bp117.out).below hb)
        have rp118 := Bp118.out.now.cell
        have BWbox18 := Lib.hid ((BWbox17.out).below hb)
        have rWbox18 := BWbox18.out.now.cell
        have Bx118 := Lib.hid ((Bx117.out).below hb)
        have rx118 := Bx118.out.now.cell
        have BGbox18 := Lib.hid ((BGbox17.out).below hb)
        have rGbox18 := BGbox18.out.now.cell
        have SW18 := Lib.hid ((SW17.out).below hb)
        have SG18 := Lib.hid ((SG17.out).below hb)
        have lp118 := Bp118.out.now.lt
        have lWbox18 := BWbox18.out.now.lt
        have lx118 := Bx118.out.now.lt
        have lGbox18 := BGbox18.out.now.lt
        have R18 := Lib.hid (below_then R17.out hb (Nat.le_refl _))
        have BN18 := Lib.hid (Kp.ofB N0)
        have rN18 := BN18.out.now.cell
        have LN := Lib.hid R17.out.size
        have LA := Lib.hid BN18.out.now.lt
        clear hb hW N0
        refine hK.out _ _ Bp118.out.now (fun _ => ?_)
        clear hK K
        try simp only [Act.put, List.setIfInBounds_toArray, List.set_cons_zero, List.set_cons_succ]
        refine wpAnyH_ready (rs := [1]) (by kernel_rfl) (by simp) ?_
        refine AllReadyH.cons rfl (fun K hK => ?_) ?_
        · go_simp
          refine ((KT0 _ E18.out).out).mono ?_
          rintro _ w19 ⟨us, rfl, hk, ho, hb⟩
          obtain ⟨X', Aua, cua, e', rfl, _⟩ := ho.cell.lst
          injection e' with e'; subst e'
          have hku := hk _ _ _ rfl
          clear hk
          replace ho := Kp.ofO (n := n0) ho
          have E19 := Lib.hid (below_then E18.out hb (Nat.le_refl _))
          have M19 : Hid (w18.heap.size ≤ w19.heap.size) := (by (have hx := hb.size; (try simp at hx); show _ ≤ _; omega))
          have Bp119 := Lib.hid ((Bp118.out).below hb)
          have rp119 := Bp119.out.now.cell
          have BWbox19 := Lib.hid ((BWbox18.out).below hb)
          have rWbox19 := BWbox19.out.now.cell
          have Bx119 := Lib.hid ((Bx118.out).below hb)
          have rx119 := Bx119.out.now.cell
          have BGbox19 := Lib.hid ((BGbox18.out).below hb)
          have rGbox19 := BGbox19.out.now.cell
          have BN19 := Lib.hid ((BN18.out).below hb)
          have rN19 := BN19.out.now.cell
          have SW19 := Lib.hid ((SW18.out).below hb)
          have SG19 := Lib.hid ((SG18.out).below hb)
          have lp119 := Bp119.out.now.lt
          have lWbox19 := BWbox19.out.now.lt
          have lx119 := Bx119.out.now.lt
          have lGbox19 := BGbox19.out.now.lt
          have lN19 := BN19.out.now.lt
          have R19 := Lib.hid (below_then R18.out hb (Nat.le_refl _))
          have Su019 := Lib.hid ho
          clear ho hb
          try go_wp2_with fail
          refine hK.out _ _ Bp119.out.now (fun _ => ?_)
          clear hK K
          try simp only [Act.put, List.setIfInBounds_toArray, List.set_cons_zero, List.set_cons_succ]
          refine wpAnyH_ready (rs := [3]) (by kernel_rfl) (by simp) ?_
          refine AllReadyH.cons rfl (fun K hK => ?_) ?_
          · go_simp
            refine ((KT1 _ E19.out).out).mono ?_
            rintro _ w20 ⟨us, rfl, ho, hb⟩
            have hc := ho.cells
            obtain ⟨Aub0, cub0, Aub6, cub6, Aub7, cub7, rfl, -⟩ := openv_Thing hc
            clear hc
            replace ho := Kp.ofS ho
            have E20 := Lib.hid (below_then E19.out hb (Nat.le_refl _))
            have M20 : Hid (w19.heap.size ≤ w20.heap.size) := (by (have hx := hb.size; (try simp at hx); show _ ≤ _; omega))
            have Bp120 := Lib.hid ((Bp119.out).below hb)
            have rp120 := Bp120.out.now.cell
            have BWbox20 := Lib.hid ((BWbox19.out).below hb)
            have rWbox20 := BWbox20.out.now.cell
            have Bx120 := Lib.hid ((Bx119.out).below hb)
            have rx120 := Bx120.out.now.cell
            have BGbox20 := Lib.hid ((BGbox19.out).below hb)
            have rGbox20 := BGbox20.out.now.cell
            have BN20 := Lib.hid ((BN19.out).below hb)
            have rN20 := BN20.out.now.cell
            have SW20 := Lib.hid ((SW19.out).below hb)
            have SG20 := Lib.hid ((SG19.out).below hb)
            have Su020 := Lib.hid ((Su019.out).below hb)
            have lp120 := Bp120.out.now.lt
            have lWbox20 := BWbox20.out.now.lt
            have lx120 := Bx120.out.now.lt
            have lGbox20 := BGbox20.out.now.lt
            have lN20 := BN20.out.now.lt
            have R20 := Lib.hid (below_then R19.out hb (Nat.le_refl _))
            have Su120 := Lib.hid ho
            clear ho hb
            try go_wp2_with fail
            refine hK.out _ _ Bp120.out.now (fun _ => ?_)
            clear hK K
            try simp only [Act.put, List.setIfInBounds_toArray, List.set_cons_zero, List.set_cons_succ]
            refine wpAnyH_ready (rs := [4]) (by kernel_rfl) (by simp) ?_
            refine AllReadyH.cons rfl (fun K hK => ?_) ?_
            · go_simp
              refine (cf.bookPut_impl hX (Su020.out).now.cell (Su120.out).now.cells hku.1 hku.2).mono ?_
              rintro _ w21 ⟨us, rfl, ho, hb⟩
              have hq : Cells _ _ _ shBookOut_ [.l lW0, .i xW1] us := ho.cells
              obtain ⟨AH0, cH0, rfl, -⟩ := openv_BookOut hq
              clear hq
              replace ho := Kp.ofC (Cells.monoB (B' := fun x => w20.heap.size ≤ x ∧ x < w21.heap.size) ho.cells (fun b h1 h2 => ⟨h1.1, h2⟩))
              have E21 := Lib.hid (below_then E20.out hb (Nat.le_refl _))
              have M21 : Hid (w20.heap.size ≤ w21.heap.size) := (by (have hx := hb.size; (try simp at hx); show _ ≤ _; omega))
              have Bp121 := Lib.hid ((Bp120.out).below hb)
              have rp121 := Bp121.out.now.cell
              have BWbox21 := Lib.hid ((BWbox20.out).below hb)
              have rWbox21 := BWbox21.out.now.cell
              have Bx121 := Lib.hid ((Bx120.out).below hb)
              have rx121 := Bx121.out.now.cell
              have BGbox21 := Lib.hid ((BGbox20.out).below hb)
              have rGbox21 := BGbox21.out.now.cell
              have BN21 := Lib.hid ((BN20.out).below hb)
              have rN21 := BN21.out.now.cell
              have SW21 := Lib.hid ((SW20.out).below hb)
              have SG21 := Lib.hid ((SG20.out).below hb)
              have Su021 := Lib.hid ((Su020.out).below hb)
              have Su121 := Lib.hid ((Su120.out).below hb)
              have lp121 := Bp121.out.now.lt
              have lWbox21 := BWbox21.out.now.lt
              have lx121 := Bx121.out.now.lt
              have lGbox21 := BGbox21.out.now.lt
              have lN21 := BN21.out.now.lt
              have R21 := Lib.hid (below_then R20.out hb (Nat.le_refl _))
              have SH21 := Lib.hid ho
              clear ho hb
              try go_wp2_with fail
              refine hK.out _ _ Bp121.out.now (fun _ => ?_)
              clear hK K
              try simp only [Act.put, List.setIfInBounds_toArray, List.set_cons_zero, List.set_cons_succ]
              refine wpAnyH_ready (rs := [6]) (by kernel_rfl) (by simp) ?_
              refine AllReadyH.cons rfl (fun K hK => ?_) ?_
              · have pN := BN21.out.now.cell
                have fN := BN21.out.now.free
                have lN := BN21.out.now.lt
                go_simp
                refine hK.out _ _ (far2 Bp121.out.now (by have := LN.out; have := Bp116.out.now.lt; omega) _ _) (fun _ => ?_)
                clear hK K
                try simp only [Act.put, List.setIfInBounds_toArray, List.set_cons_zero, List.set_cons_succ]
                refine wpAnyH_done (by kernel_rfl) ?_ _
                go_wp2_with fail
                go_meet
                have hl := LN.out
                refine ⟨w17.heap.size, _, _, rfl, hl, blk2 BN21.out.now _ _, ?_, ?_⟩
                · exact cells_far2 (Cells.monoB (B' := fun x => x ≠ w17.heap.size) SH21.out.now (fun b h1 _ => by have a1 := h1.1; have a2 := h1.2; have := LA.out; have := M1.out; have := M2.out; have := M3.out; have := LWW.out; have := LVW.out; have := M4.out; have := M5.out; have := M6.out; have := M7.out; have := M8.out; have := M9.out; have := M10.out; have := M11.out; have := M12.out; have := M13.out; have := M14.out; have := M15.out; have := M16.out; have := M17.out; have := M18.out; have := M19.out; have := M20.out; have := M21.out; omega)) _ _
                · iterate 2 refine Below.setCell ?_ (by exact hl) _
                  exact R21.out
              exact AllReadyH.nil
            exact AllReadyH.nil
          exact AllReadyH.nil
        exact AllReadyH.nil
      exact AllReadyH.nil
    case rest =>
      obtain ⟨g, v0, v1, rfl, hgl, hN, hC, hb⟩ := hcut
      rename World => w17
      obtain ⟨AH0, cH0, ev, -⟩ := openv_BookOut hC
      simp only [List.cons.injEq, and_true] at ev
      obtain ⟨rfl, rfl⟩ := ev
      have ho := Kp.ofC (Cells.lw hC)
      have E17 := Lib.hid (below_then E16.out hb (Nat.le_refl _))
      have M17 : Hid (w16.heap.size ≤ w17.heap.size) := (by (have hx := hb.size; (try simp at hx); show _ ≤ _; omega))
      have Bp117 := Lib.hid ((Bp116.out).below hb)
      have rp117 := Bp117.out.now.cell
      have BWbox17 := Lib.hid ((BWbox16.out).below hb)
      have rWbox17 := BWbox17.out.now.cell
      have Bx117 := Lib.hid ((Bx116.out).below hb)
      have rx117 := Bx117.out.now.cell
      have BGbox17 := Lib.hid ((BGbox16.out).below hb)
      have rGbox17 := BGbox17.out.now.cell
      have SW17 := Lib.hid ((SW16.out).below hb)
      have SG17 := Lib.hid ((SG16.out).below hb)
      have lp117 := Bp117.out.now.lt
      have lWbox17 := BWbox17.out.now.lt
      have lx117 := Bx117.out.now.lt
      have lGbox17 := BGbox17.out.now.lt
      have SH17 := Lib.hid ho
      have BHbox17 := Lib.hid (Kp.ofB hN)
      have rHbox17 := BHbox17.out.now.cell
      have LWH := Lib.hid hgl
      have LVH := Lib.hid BHbox17.out.now.lt
      have lHbox17 := BHbox17.out.now.lt
      clear ho hb hC hN hgl Bp116 rp116 BWbox16 rWbox16 Bx116 rx116 BGbox16 rGbox16 SW16 SG16 E16 lp116 lWbox16 lx116 lGbox16
      go_wp2_with fail
      refine (eqBookOut_all 3 _ _ _ _ _ _ (SH17.out).now (SW17.out).now).mono ?_
      rintro _ w18 ⟨rfl, hb⟩
      have E18 := Lib.hid (below_then E17.out hb (Nat.le_refl _))
      have M18 : Hid (w17.heap.size ≤ w18.heap.size) := (by (have hx := hb.size; (try simp at hx); show _ ≤ _; omega))
      have Bp118 := Lib.hid ((Bp117.out).below hb)
      have rp118 := Bp118.out.now.cell
      have BWbox18 := Lib.hid ((BWbox17.out).below hb)
      have rWbox18 := BWbox18.out.now.cell
      have Bx118 := Lib.hid ((Bx117.out).below hb)
      have rx118 := Bx118.out.now.cell
      have BGbox18 := Lib.hid ((BGbox17.out).below hb)
      have rGbox18 := BGbox18.out.now.cell
      have BHbox18 := Lib.hid ((BHbox17.out).below hb)
      have rHbox18 := BHbox18.out.now.cell
      have SW18 := Lib.hid ((SW17.out).below hb)
      have SG18 := Lib.hid ((SG17.out).below hb)
      have SH18 := Lib.hid ((SH17.out).below hb)
      have lp118 := Bp118.out.now.lt
      have lWbox18 := BWbox18.out.now.lt
      have lx118 := Bx118.out.now.lt
      have lGbox18 := BGbox18.out.now.lt
      have lHbox18 := BHbox18.out.now.lt
      clear hb Bp117 rp117 BWbox17 rWbox17 Bx117 rx117 BGbox17 rGbox17 BHbox17 rHbox17 SW17 SG17 SH17 E17 lp117 lWbox17 lx117 lGbox17 lHbox17
      go_wp2_with fail
      refine (hdBookOut_all 3 _ _ _ _ _ [.l lW0, .i xW1] _ 1 1 _ HSP.out (SG18.out).now.cells rfl (by omega) ((by (have := cf.put_bound xs0 [.l lb0, .s sb1, .s sb2, .i xb3, .i xb4, .s sb5, .l lb6, .l lb7]; have e : nCs [.l lb0, .s sb1, .s sb2, .i xb3, .i xb4, .s sb5, .l lb6, .l lb7] = nV [.l lb0, .s sb1, .s sb2, .i xb3, .i xb4, .s sb5, .l lb6, .l lb7] + 5 := (by simp only [nCs, nC, nV]; omega); rw [hX] at this; have := HNB0.out; have := HNB1.out; omega)))).mono ?_
      rintro _ w19 ⟨y19, rfl, hy19, hb⟩
      have E19 := Lib.hid (below_then E18.out hb (Nat.le_refl _))
      have M19 : Hid (w18.heap.size ≤ w19.heap.size) := (by (have hx := hb.size; (try simp at hx); show _ ≤ _; omega))
      have Bp119 := Lib.hid ((Bp118.out).below hb)
      have rp119 := Bp119.out.now.cell
      have BWbox19 := Lib.hid ((BWbox18.out).below hb)
      have rWbox19 := BWbox19.out.now.cell
      have Bx119 := Lib.hid ((Bx118.out).below hb)
      have rx119 := Bx119.out.now.cell
      have BGbox19 := Lib.hid ((BGbox18.out).below hb)
      have rGbox19 := BGbox19.out.now.cell
      have BHbox19 := Lib.hid ((BHbox18.out).below hb)
      have rHbox19 := BHbox19.out.now.cell
      have SW19 := Lib.hid ((SW18.out).below hb)
      have SG19 := Lib.hid ((SG18.out).below hb)
      have SH19 := Lib.hid ((SH18.out).below hb)
      have lp119 := Bp119.out.now.lt
      have lWbox19 := BWbox19.out.now.lt
      have lx119 := Bx119.out.now.lt
      have lGbox19 := BGbox19.out.now.lt
      have lHbox19 := BHbox19.out.now.lt
      clear hb Bp118 rp118 BWbox18 rWbox18 Bx118 rx118 BGbox18 rGbox18 BHbox18 rHbox18 SW18 SG18 SH18 E18 lp118 lWbox18 lx118 lGbox18 lHbox18
      obtain rfl : y19 = y16 := by omega
      clear KT0 KT1
      go_wp2
      go_ret
      exact ⟨rfl, E19.out⟩

set_option maxRecDepth 100000 in
theorem lifted (os : Os) (started : os.Started) (H : Type) (enc : TypeId × Value → H) :
    ReturnsInHanded {} Tryz.checked os 3 .any (Rows.fnExactBookPutSpec.pre6 enc Tryz.prog Tryz.f3 Rows.fnExactBookPutRow.domain false) (Rows.fnExactBookPutSpec.post enc Tryz.prog Tryz.f3 false true false false) := by
  refine returnsInHanded_of_change (C := Tryz.checked) own started (by kernel_rfl) Tryz.func3
    (ChangeSpec.witness6 (enc := enc) (C := Tryz.checked) false ⟨#[], #[.slice none 0 0, .agg #[.slice none 0 0, .string ByteArray.empty, .string ByteArray.empty, .int .i64 0, .int .i64 0, .string ByteArray.empty, .slice none 0 0, .slice none 0 0]], []⟩ 8 (by kernel_rfl) (by kernel_rfl) (by kernel_rfl) (by kernel_rfl)) ?_
  intro W base args ds gs before hval0 hW hcnd _
  have hval : ∀ (j : Nat) t v, Tryz.f3.params[j]? = some t → args[j]? = some v → Value.okWide Tryz.prog W .any base t v := hval0
  have hW' := hW
  obtain ⟨p, q, hA0, hV, rfl, hfz, hnd⟩ := hW
  have hA : DataW.TrodAll enc Tryz.prog W 0 (fun _ => true) true Tryz.f3.params.toList args.toList ds p := hA0
  rw [Tryz.params3] at hA hval
  obtain ⟨v0, vs0, d0, ds0, p0, q0, hargs, rfl, rfl, h0, r0⟩ := trodAll_cons hA
  obtain ⟨v1, vs1, d1, ds1, p1, q1, rfl, rfl, rfl, h1, r1⟩ := trodAll_cons r0
  obtain ⟨rfl, rfl, rfl⟩ := trodAll_nil r1
  obtain rfl : args = #[v0, v1] := by cases args; simp_all
  obtain ⟨rfl, rfl⟩ := trodVars_none hV
  have k0 := h0
  have lt0 : ∀ x ∈ p0, x.block < W.heap.size := by obtain ⟨m, hm⟩ := k0; exact DataW.trod_lt m _ _ _ hm
  obtain ⟨n0, xs0, A0, c0, rfl, w0⟩ := un.open_lst (n := 0) Tryz.underlying22 (fun _ => un.in_ThingS) (hval 0 22 v0 rfl rfl) h0
  have k1 := h1
  have lt1 : ∀ x ∈ p1, x.block < W.heap.size := by obtain ⟨m, hm⟩ := k1; exact DataW.trod_lt m _ _ _ hm
  obtain ⟨n1, ds1, vs1, rfl, w1⟩ := un.open_str_ Tryz.underlying29 (fun _ => un.in_Thing) (hval 1 29 v1 rfl rfl) h1
  clear hA0 hval0
  refine (walk n0 xs0 A0 c0 n1 ds1 vs1 W w0 w1).mono fun e W' ⟨he, bel⟩ => ?_
  subst he
  exact ⟨_, rfl, _, _, _, [], _, [], hW', trodAll_mk1 (shut_bool Tryz.underlying4 _), (trodAll_cons_mk (Below.trod laidOut (by kernel_rfl) (of_decide_eq_true (by kernel_rfl)) k0 bel lt0) (trodAll_cons_mk (Below.trod laidOut (by kernel_rfl) (of_decide_eq_true (by kernel_rfl)) k1 bel lt1) trodAll_mk0)), rfl, bel.frame _, fun h => by cases h⟩

theorem over : Rows.fnExactBookPutRow.holds Tryz.pinned (OpenSpec.ofChange Rows.fnExactBookPutSpec) :=
  OpenClaim.holds_of_wide 3 Tryz.f3 rfl rfl rfl rfl rfl rfl rfl ⟨rfl, rfl, rfl, rfl, rfl⟩ rfl rfl rfl rfl rfl (by kernel_rfl) Tryz.func3 (by kernel_rfl)
    (of_decide_eq_true (by kernel_rfl)) (by unfold Func.isWrapper; first | (rw [if_pos (by decide +kernel)]; kernel_rfl) | (rw [if_neg (by decide +kernel)]; exact ⟨rfl, rfl⟩))
    (fun os started H enc _ => lifted os started H enc)

/-- the statement -/
theorem proved : Rows.FnExactBookPutSaid := over
end Go.Proofs.YtflfnekaiaplfaaGreat.fnExactBookPut
