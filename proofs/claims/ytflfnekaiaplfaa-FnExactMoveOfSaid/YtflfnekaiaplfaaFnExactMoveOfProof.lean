/- MoveOf, called with any move and any address, tells what its model tells, changes nothing, and its answer owns its memory. No condition. -/
import Derived.Test.YtflfnekaiaplfaaRows
import Derived.WalkKit
import Derived.ProofKit
import Derived.OpenShut
import Derived.ShutString
import Derived.ChangeOld
import Derived.Below
import Derived.Lib.Hide
import Derived.Test.YtflfnekaiaplfaaUi
import Derived.Test.YtflfnekaiaplfaaGd
import Derived.Test.YtflfnekaiaplfaaUz
import Derived.Test.YtflfnekaiaplfaaUt
import Derived.Test.YtflfnekaiaplfaaUe
import Derived.Test.YtflfnekaiaplfaaUm
import Derived.Test.YtflfnekaiaplfaaUh
import Derived.Test.YtflfnekaiaplfaaUo
import Derived.Test.YtflfnekaiaplfaaRm
import Derived.Test.YtflfnekaiaplfaaMoU
import Derived.Deep.RegionHeld3
import Derived.Deep.DeepCutAuto
namespace Go.Proofs.Ytflfnekaiaplfaa.fnExactMoveOf
open Go.ChangeShapes Go.WideShapes Go.ChangeAt Go.RowKit
open Go.ChangeMaps (open_string shut_string)
set_option linter.unusedVariables false
set_option linter.unusedSimpArgs false

theorem own : ownKnob Try.prog.godebug = none := by kernel_rfl
theorem laidOut : laidOutB Try.prog = true := by kernel_rfl

open vl mem ex un cf

set_option maxHeartbeats 16000000 in
set_option maxRecDepth 100000 in
theorem walk (n0 : Nat) (ds0 : List un.DC) (vs0 : List Value) (n1 : Nat) (ds1 : List un.DC) (vs1 : List Value) (w : World) (w0 : un.Cells un.Any n0 w un.shMove_ ds0 vs0) (w1 : un.Cells un.Any n1 w un.shAddr_ ds1 vs1) :
    Calls Try.prog 3 #[.agg vs0.toArray, .agg vs1.toArray] w fun e w' => e = .returned (.bool true) ∧ Below w.heap.size w w' := by
  obtain ⟨xa0, la1, sa2, sa3, xa4, xa5, sa6, la7, sa8, sa9, xa10, xa11, sa12, Aa1, ca1, Aa7, ca7, rfl, rfl, -⟩ := open_Move w0
  have HS0 := Lib.hid (Gd.ofC w0)
  obtain ⟨lb0, sb1, sb2, xb3, xb4, sb5, Ab0, cb0, rfl, rfl, -⟩ := open_Addr w1
  have HS1 := Lib.hid (Gd.ofC w1)
  clear w0 w1
  obtain ⟨X, hX⟩ : ∃ X, cf.moveX (cf.bM [.i xa0, .l la1, .s sa2, .s sa3, .i xa4, .i xa5, .s sa6, .l la7, .s sa8, .s sa9, .i xa10, .i xa11, .s sa12]) (cf.bA [.l lb0, .s sb1, .s sb2, .i xb3, .i xb4, .s sb5]) = X := ⟨_, rfl⟩
  go_enter Try.func3, Try.ntmps3
  go_wp2_with fail
  refine (szMove_all n0 Any _ _ (1048576) _ ((HS0.out.below (below_a2 _ _ _))).now (by omega) (by omega)).mono ?_
  rintro _ w1 ⟨x0, rfl, HX0, lo0, hi0, hb⟩
  have E1 := Lib.hid (below_then (below_a2 _ _ _) hb (Nat.le_refl _))
  have M1 : Hid (w.heap.size + 1 + 1 ≤ w1.heap.size) := (by (have hx := hb.size; (try simp at hx); show _ ≤ _; omega))
  have Bp01 := Lib.hid (((Kp.ofB (Blk.new w _ _)).alloc _).below hb)
  have rp01 := Bp01.out.now.cell
  have Bp11 := Lib.hid ((Kp.ofB (Blk.new1 w _ _ _)).below hb)
  have rp11 := Bp11.out.now.cell
  have lp01 := Bp01.out.now.lt
  have lp11 := Bp11.out.now.lt
  clear hb 
  by_cases hx0 : x0 < 0
  · go_wp2
    go_ret
    exact ⟨rfl, E1.out⟩
  have HC0 : Hid (cCs [.i xa0, .l la1, .s sa2, .s sa3, .i xa4, .i xa5, .s sa6, .l la7, .s sa8, .s sa9, .i xa10, .i xa11, .s sa12] ≤ 1048576) := by
    have q := HX0.out
    unfold leftI at q
    show _ ≤ _
    split at q <;> omega
  have hx0' : 0 ≤ x0 := by omega
  clear hx0 HX0
  have HNB0 : Hid (nV [.i xa0, .l la1, .s sa2, .s sa3, .i xa4, .i xa5, .s sa6, .l la7, .s sa8, .s sa9, .i xa10, .i xa11, .s sa12] ≤ 13631488) := by (have := nV_le HS0.out.now; have := HC0.out; show _ ≤ _; omega)
  have KT0 := fun (W : World) (h : Below w.heap.size w W) => Lib.hid (toMove_room n0 Any [.i xa0, .l la1, .s sa2, .s sa3, .i xa4, .i xa5, .s sa6, .l la7, .s sa8, .s sa9, .i xa10, .i xa11, .s sa12] [.int .i64 xa0, .slice Aa1 la1.length ca1, .string sa2, .string sa3, .int .i64 xa4, .int .i64 xa5, .string sa6, .slice Aa7 la7.length ca7, .string sa8, .string sa9, .int .i64 xa10, .int .i64 xa11, .string sa12] W (HS0.out.below h).now HC0.out)
  go_wp2_with fail
  refine (szAddr_all n1 Any _ _ (x0) _ ((HS1.out.below E1.out)).now hx0' hi0).mono ?_
  rintro _ w2 ⟨x1, rfl, HX1, lo1, hi1, hb⟩
  have E2 := Lib.hid (below_then E1.out hb (Nat.le_refl _))
  have M2 : Hid (w1.heap.size ≤ w2.heap.size) := (by (have hx := hb.size; (try simp at hx); show _ ≤ _; omega))
  have Bp02 := Lib.hid ((Bp01.out).below hb)
  have rp02 := Bp02.out.now.cell
  have Bp12 := Lib.hid ((Bp11.out).below hb)
  have rp12 := Bp12.out.now.cell
  have lp02 := Bp02.out.now.lt
  have lp12 := Bp12.out.now.lt
  clear hb Bp01 rp01 Bp11 rp11 E1 lp01 lp11
  by_cases hx1 : x1 < 0
  · go_wp2
    go_ret
    exact ⟨rfl, E2.out⟩
  have HC1 : Hid (cCs [.l lb0, .s sb1, .s sb2, .i xb3, .i xb4, .s sb5] ≤ 1048576) := by
    have q := HX1.out
    unfold leftI at q
    show _ ≤ _
    split at q <;> omega
  have hx1' : 0 ≤ x1 := by omega
  clear hx1 HX1
  have HNB1 : Hid (nV [.l lb0, .s sb1, .s sb2, .i xb3, .i xb4, .s sb5] ≤ 13631488) := by (have := nV_le HS1.out.now; have := HC1.out; show _ ≤ _; omega)
  have KT1 := fun (W : World) (h : Below w.heap.size w W) => Lib.hid (toAddr_room n1 Any [.l lb0, .s sb1, .s sb2, .i xb3, .i xb4, .s sb5] [.slice Ab0 lb0.length cb0, .string sb1, .string sb2, .int .i64 xb3, .int .i64 xb4, .string sb5] W (HS1.out.below h).now HC1.out)
  go_wp2_with fail
  go_cut [6] (fun s6 wx => ∃ (g : Nat) (v0 v1 v2 v3 v4 v5 v6 : Value), s6 = .pointer (some ⟨g, 0, none⟩) ∧ w2.heap.size ≤ g ∧ Blk wx g 31 #[v0, v1, v2, v3, v4, v5, v6] ∧ Cells Any 1 wx shAddrOut_ X [v0, v1, v2, v3, v4, v5, v6] ∧ Below w2.heap.size w2 wx)
  case first =>
    refine wp_region_held_drew (S := fun w' => Blk w' w.heap.size 26 #[.int .i64 xa0, .slice Aa1 la1.length ca1, .string sa2, .string sa3, .int .i64 xa4, .int .i64 xa5, .string sa6, .slice Aa7 la7.length ca7, .string sa8, .string sa9, .int .i64 xa10, .int .i64 xa11, .string sa12] ∧ Blk w' (w.heap.size + 1) 24 #[.slice Ab0 lb0.length cb0, .string sb1, .string sb2, .int .i64 xb3, .int .i64 xb4, .string sb5]) (by kernel_rfl) ⟨(Bp02.out.below (below_d w2 1)).now, (Bp12.out.below (below_d w2 1)).now⟩ (fun _ => ?_)
    have hb := below_d w2 1
    have hdr : w2.drew = w2.drewN 1 := rfl
    rw [hdr]
    obtain ⟨w3, hWd⟩ : ∃ W, w2.drewN 1 = W := ⟨_, rfl⟩
    rw [hWd] at hb ⊢
    have R3 := Lib.hid hb
    have E3 := Lib.hid (below_then E2.out hb (Nat.le_refl _))
    have M3 : Hid (w2.heap.size ≤ w3.heap.size) := (by (have hx := hb.size; (try simp at hx); show _ ≤ _; omega))
    have Bp03 := Lib.hid ((Bp02.out).below hb)
    have rp03 := Bp03.out.now.cell
    have Bp13 := Lib.hid ((Bp12.out).below hb)
    have rp13 := Bp13.out.now.cell
    have lp03 := Bp03.out.now.lt
    have lp13 := Bp13.out.now.lt
    clear hb hWd hdr
    refine wpAnyH_take (i := 0) (v := .agg #[.int .i64 xa0, .slice Aa1 la1.length ca1, .string sa2, .string sa3, .int .i64 xa4, .int .i64 xa5, .string sa6, .slice Aa7 la7.length ca7, .string sa8, .string sa9, .int .i64 xa10, .int .i64 xa11, .string sa12]) rfl (by kernel_rfl) (by kernel_rfl) (by kernel_rfl) (fun _ _ _ h => h) (Or.inl ⟨by rfl, ?_⟩) ⟨Bp03.out.now, Bp13.out.now⟩ ?_
    · intro w' hSw
      have hc := Blk.cell hSw.1
      go_simp
    try simp only [Act.put, List.setIfInBounds_toArray, List.set_cons_zero, List.set_cons_succ]
    refine wpAnyH_take (i := 2) (v := .agg #[.slice Ab0 lb0.length cb0, .string sb1, .string sb2, .int .i64 xb3, .int .i64 xb4, .string sb5]) rfl (by kernel_rfl) (by kernel_rfl) (by kernel_rfl) (fun _ _ _ h => h) (Or.inl ⟨by rfl, ?_⟩) ⟨Bp03.out.now, Bp13.out.now⟩ ?_
    · intro w' hSw
      have hc := Blk.cell hSw.2
      go_simp
    try simp only [Act.put, List.setIfInBounds_toArray, List.set_cons_zero, List.set_cons_succ]
    refine wpAnyH_ready (rs := [1, 5]) (by kernel_rfl) (by simp) ?_
    refine AllReadyH.cons rfl (fun K hK => ?_) ?_
    · go_simp
      refine ((KT0 _ E3.out).out).mono ?_
      rintro _ w4 ⟨us, rfl, HRu0, ho, hb⟩
      have hc := ho.cells
      obtain ⟨Aua1, cua1, Aua7, cua7, rfl, -⟩ := openv_Move hc
      clear hc
      replace ho := Kp.ofS ho
      have E4 := Lib.hid (below_then E3.out hb (Nat.le_refl _))
      have M4 : Hid (w3.heap.size ≤ w4.heap.size) := (by (have hx := hb.size; (try simp at hx); show _ ≤ _; omega))
      have Bp04 := Lib.hid ((Bp03.out).below hb)
      have rp04 := Bp04.out.now.cell
      have Bp14 := Lib.hid ((Bp13.out).below hb)
      have rp14 := Bp14.out.now.cell
      have lp04 := Bp04.out.now.lt
      have lp14 := Bp14.out.now.lt
      have R4 := Lib.hid (below_then R3.out hb (Nat.le_refl _))
      have Su04 := Lib.hid ho
      clear ho hb
      try go_wp2_with fail
      refine hK.out _ _ ⟨Bp04.out.now, Bp14.out.now⟩ (fun _ => ?_)
      clear hK K
      try simp only [Act.put, List.setIfInBounds_toArray, List.set_cons_zero, List.set_cons_succ]
      refine wpAnyH_ready (rs := [3, 5]) (by kernel_rfl) (by simp) ?_
      refine AllReadyH.cons rfl (fun K hK => ?_) ?_
      · go_simp
        refine ((KT1 _ E4.out).out).mono ?_
        rintro _ w5 ⟨us, rfl, HRu1, ho, hb⟩
        have hc := ho.cells
        obtain ⟨Aub0, cub0, rfl, -⟩ := openv_Addr hc
        clear hc
        replace ho := Kp.ofS ho
        have E5 := Lib.hid (below_then E4.out hb (Nat.le_refl _))
        have M5 : Hid (w4.heap.size ≤ w5.heap.size) := (by (have hx := hb.size; (try simp at hx); show _ ≤ _; omega))
        have Bp05 := Lib.hid ((Bp04.out).below hb)
        have rp05 := Bp05.out.now.cell
        have Bp15 := Lib.hid ((Bp14.out).below hb)
        have rp15 := Bp15.out.now.cell
        have Su05 := Lib.hid ((Su04.out).below hb)
        have lp05 := Bp05.out.now.lt
        have lp15 := Bp15.out.now.lt
        have R5 := Lib.hid (below_then R4.out hb (Nat.le_refl _))
        have Su15 := Lib.hid ho
        clear ho hb
        try go_wp2_with fail
        refine hK.out _ _ ⟨Bp05.out.now, Bp15.out.now⟩ (fun _ => ?_)
        clear hK K
        try simp only [Act.put, List.setIfInBounds_toArray, List.set_cons_zero, List.set_cons_succ]
        refine wpAnyH_ready (rs := [4, 5]) (by kernel_rfl) (by simp) ?_
        refine AllReadyH.cons rfl (fun K hK => ?_) ?_
        · go_simp
          refine (cf.moveOf_spec hX (Su05.out).now.cells (Su15.out).now.cells HRu1.out).mono ?_
          rintro _ w6 ⟨us, rfl, ho, hb⟩
          have hq : Cells _ _ _ shAddrOut_ X us := ho
          obtain ⟨lW0, sW1, sW2, xW3, xW4, sW5, xW6, AW0, cW0, rfl, rfl, -⟩ := open_AddrOut hq
          clear hq
          replace ho := Kp.ofC (Cells.monoB (B' := fun x => w5.heap.size ≤ x ∧ x < w6.heap.size) ho (fun b h1 h2 => ⟨h1, h2⟩))
          have E6 := Lib.hid (below_then E5.out hb (Nat.le_refl _))
          have M6 : Hid (w5.heap.size ≤ w6.heap.size) := (by (have hx := hb.size; (try simp at hx); show _ ≤ _; omega))
          have Bp06 := Lib.hid ((Bp05.out).below hb)
          have rp06 := Bp06.out.now.cell
          have Bp16 := Lib.hid ((Bp15.out).below hb)
          have rp16 := Bp16.out.now.cell
          have Su06 := Lib.hid ((Su05.out).below hb)
          have Su16 := Lib.hid ((Su15.out).below hb)
          have lp06 := Bp06.out.now.lt
          have lp16 := Bp16.out.now.lt
          have R6 := Lib.hid (below_then R5.out hb (Nat.le_refl _))
          have SW6 := Lib.hid ho
          clear ho hb
          try go_wp2_with fail
          refine hK.out _ _ ⟨Bp06.out.now, Bp16.out.now⟩ (fun _ => ?_)
          clear hK K
          try simp only [Act.put, List.setIfInBounds_toArray, List.set_cons_zero, List.set_cons_succ]
          refine wpAnyH_ready (rs := [5]) (by kernel_rfl) (by simp) ?_
          refine AllReadyH.cons rfl (fun K hK => ?_) ?_
          · go_simp
            have hb := below_a1 w6 (.cells #[.slice none 0 0, .string ⟨#[]⟩, .string ⟨#[]⟩, .int .i64 0, .int .i64 0, .string ⟨#[]⟩, .int .i64 0] 31)
            have N0 := Blk.new w6 31 #[.slice none 0 0, .string ⟨#[]⟩, .string ⟨#[]⟩, .int .i64 0, .int .i64 0, .string ⟨#[]⟩, .int .i64 0]
            obtain ⟨w7, hW⟩ : ∃ W, w6.alloc (.cells #[.slice none 0 0, .string ⟨#[]⟩, .string ⟨#[]⟩, .int .i64 0, .int .i64 0, .string ⟨#[]⟩, .int .i64 0] 31) = W := ⟨_, rfl⟩
            rw [hW] at hb N0 ⊢
            have E7 := Lib.hid (below_then E6.out hb (Nat.le_refl _))
            have M7 : Hid (w6.heap.size ≤ w7.heap.size) := (by (have hx := hb.size; (try simp at hx); show _ ≤ _; omega))
            have Bp07 := Lib.hid ((Bp06.out).below hb)
            have rp07 := Bp07.out.now.cell
            have Bp17 := Lib.hid ((Bp16.out).below hb)
            have rp17 := Bp17.out.now.cell
            have Su07 := Lib.hid ((Su06.out).below hb)
            have Su17 := Lib.hid ((Su16.out).below hb)
            have SW7 := Lib.hid ((SW6.out).below hb)
            have lp07 := Bp07.out.now.lt
            have lp17 := Bp17.out.now.lt
            have R7 := Lib.hid (below_then R6.out hb (Nat.le_refl _))
            have BN7 := Lib.hid (Kp.ofB N0)
            have rN7 := BN7.out.now.cell
            have LN := Lib.hid R6.out.size
            have LA := Lib.hid BN7.out.now.lt
            clear hb hW N0
            refine hK.out _ _ ⟨Bp07.out.now, Bp17.out.now⟩ (fun _ => ?_)
            clear hK K
            try simp only [Act.put, List.setIfInBounds_toArray, List.set_cons_zero, List.set_cons_succ]
            refine wpAnyH_ready (rs := [6]) (by kernel_rfl) (by simp) ?_
            refine AllReadyH.cons rfl (fun K hK => ?_) ?_
            · have pN := BN7.out.now.cell
              have fN := BN7.out.now.free
              have lN := BN7.out.now.lt
              go_simp
              refine hK.out _ _ ⟨(far7 Bp07.out.now (by have := LN.out; have := Bp02.out.now.lt; omega) _ _ _ _ _ _ _), (far7 Bp17.out.now (by have := LN.out; have := Bp12.out.now.lt; omega) _ _ _ _ _ _ _)⟩ (fun _ => ?_)
              clear hK K
              try simp only [Act.put, List.setIfInBounds_toArray, List.set_cons_zero, List.set_cons_succ]
              refine wpAnyH_done (by kernel_rfl) ?_ _
              go_wp2_with fail
              go_meet
              have hl := LN.out
              refine ⟨w6.heap.size, _, _, _, _, _, _, _, rfl, hl, blk7 BN7.out.now _ _ _ _ _ _ _, ?_, ?_⟩
              · exact cells_far7 (Cells.monoB (B' := fun x => x ≠ w6.heap.size) SW7.out.now (fun b h1 _ => by have a1 := h1.1; have a2 := h1.2; have := LA.out; have := M1.out; have := M2.out; have := M3.out; have := M4.out; have := M5.out; have := M6.out; have := M7.out; omega)) _ _ _ _ _ _ _
              · iterate 7 refine Below.setCell ?_ (by exact hl) _
                exact R7.out
            exact AllReadyH.nil
          exact AllReadyH.nil
        refine AllReadyH.cons rfl (fun K hK => ?_) ?_
        · go_simp
          have hb := below_a1 w5 (.cells #[.slice none 0 0, .string ⟨#[]⟩, .string ⟨#[]⟩, .int .i64 0, .int .i64 0, .string ⟨#[]⟩, .int .i64 0] 31)
          have N0 := Blk.new w5 31 #[.slice none 0 0, .string ⟨#[]⟩, .string ⟨#[]⟩, .int .i64 0, .int .i64 0, .string ⟨#[]⟩, .int .i64 0]
          obtain ⟨w6, hW⟩ : ∃ W, w5.alloc (.cells #[.slice none 0 0, .string ⟨#[]⟩, .string ⟨#[]⟩, .int .i64 0, .int .i64 0, .string ⟨#[]⟩, .int .i64 0] 31) = W := ⟨_, rfl⟩
          rw [hW] at hb N0 ⊢
          have E6 := Lib.hid (below_then E5.out hb (Nat.le_refl _))
          have M6 : Hid (w5.heap.size ≤ w6.heap.size) := (by (have hx := hb.size; (try simp at hx); show _ ≤ _; omega))
          have Bp06 := Lib.hid ((Bp05.out).below hb)
          have rp06 := Bp06.out.now.cell
          have Bp16 := Lib.hid ((Bp15.out).below hb)
          have rp16 := Bp16.out.now.cell
          have Su06 := Lib.hid ((Su05.out).below hb)
          have Su16 := Lib.hid ((Su15.out).below hb)
          have lp06 := Bp06.out.now.lt
          have lp16 := Bp16.out.now.lt
          have R6 := Lib.hid (below_then R5.out hb (Nat.le_refl _))
          have BN6 := Lib.hid (Kp.ofB N0)
          have rN6 := BN6.out.now.cell
          have LN := Lib.hid R5.out.size
          have LA := Lib.hid BN6.out.now.lt
          clear hb hW N0
          refine hK.out _ _ ⟨Bp06.out.now, Bp16.out.now⟩ (fun _ => ?_)
          clear hK K
          try simp only [Act.put, List.setIfInBounds_toArray, List.set_cons_zero, List.set_cons_succ]
          refine wpAnyH_ready (rs := [4]) (by kernel_rfl) (by simp) ?_
          refine AllReadyH.cons rfl (fun K hK => ?_) ?_
          · go_simp
            refine (cf.moveOf_spec hX (Su06.out).now.cells (Su16.out).now.cells HRu1.out).mono ?_
            rintro _ w7 ⟨us, rfl, ho, hb⟩
            have hq : Cells _ _ _ shAddrOut_ X us := ho
            obtain ⟨lW0, sW1, sW2, xW3, xW4, sW5, xW6, AW0, cW0, rfl, rfl, -⟩ := open_AddrOut hq
            clear hq
            replace ho := Kp.ofC (Cells.monoB (B' := fun x => w6.heap.size ≤ x ∧ x < w7.heap.size) ho (fun b h1 h2 => ⟨h1, h2⟩))
            have E7 := Lib.hid (below_then E6.out hb (Nat.le_refl _))
            have M7 : Hid (w6.heap.size ≤ w7.heap.size) := (by (have hx := hb.size; (try simp at hx); show _ ≤ _; omega))
            have Bp07 := Lib.hid ((Bp06.out).below hb)
            have rp07 := Bp07.out.now.cell
            have Bp17 := Lib.hid ((Bp16.out).below hb)
            have rp17 := Bp17.out.now.cell
            have BN7 := Lib.hid ((BN6.out).below hb)
            have rN7 := BN7.out.now.cell
            have Su07 := Lib.hid ((Su06.out).below hb)
            have Su17 := Lib.hid ((Su16.out).below hb)
            have lp07 := Bp07.out.now.lt
            have lp17 := Bp17.out.now.lt
            have lN7 := BN7.out.now.lt
            have R7 := Lib.hid (below_then R6.out hb (Nat.le_refl _))
            have SW7 := Lib.hid ho
            clear ho hb
            try go_wp2_with fail
            refine hK.out _ _ ⟨Bp07.out.now, Bp17.out.now⟩ (fun _ => ?_)
            clear hK K
            try simp only [Act.put, List.setIfInBounds_toArray, List.set_cons_zero, List.set_cons_succ]
            refine wpAnyH_ready (rs := [6]) (by kernel_rfl) (by simp) ?_
            refine AllReadyH.cons rfl (fun K hK => ?_) ?_
            · have pN := BN7.out.now.cell
              have fN := BN7.out.now.free
              have lN := BN7.out.now.lt
              go_simp
              refine hK.out _ _ ⟨(far7 Bp07.out.now (by have := LN.out; have := Bp02.out.now.lt; omega) _ _ _ _ _ _ _), (far7 Bp17.out.now (by have := LN.out; have := Bp12.out.now.lt; omega) _ _ _ _ _ _ _)⟩ (fun _ => ?_)
              clear hK K
              try simp only [Act.put, List.setIfInBounds_toArray, List.set_cons_zero, List.set_cons_succ]
              refine wpAnyH_done (by kernel_rfl) ?_ _
              go_wp2_with fail
              go_meet
              have hl := LN.out
              refine ⟨w5.heap.size, _, _, _, _, _, _, _, rfl, hl, blk7 BN7.out.now _ _ _ _ _ _ _, ?_, ?_⟩
              · exact cells_far7 (Cells.monoB (B' := fun x => x ≠ w5.heap.size) SW7.out.now (fun b h1 _ => by have a1 := h1.1; have a2 := h1.2; have := LA.out; have := M1.out; have := M2.out; have := M3.out; have := M4.out; have := M5.out; have := M6.out; have := M7.out; omega)) _ _ _ _ _ _ _
              · iterate 7 refine Below.setCell ?_ (by exact hl) _
                exact R7.out
            exact AllReadyH.nil
          exact AllReadyH.nil
        exact AllReadyH.nil
      refine AllReadyH.cons rfl (fun K hK => ?_) ?_
      · go_simp
        have hb := below_a1 w4 (.cells #[.slice none 0 0, .string ⟨#[]⟩, .string ⟨#[]⟩, .int .i64 0, .int .i64 0, .string ⟨#[]⟩, .int .i64 0] 31)
        have N0 := Blk.new w4 31 #[.slice none 0 0, .string ⟨#[]⟩, .string ⟨#[]⟩, .int .i64 0, .int .i64 0, .string ⟨#[]⟩, .int .i64 0]
        obtain ⟨w5, hW⟩ : ∃ W, w4.alloc (.cells #[.slice none 0 0, .string ⟨#[]⟩, .string ⟨#[]⟩, .int .i64 0, .int .i64 0, .string ⟨#[]⟩, .int .i64 0] 31) = W := ⟨_, rfl⟩
        rw [hW] at hb N0 ⊢
        have E5 := Lib.hid (below_then E4.out hb (Nat.le_refl _))
        have M5 : Hid (w4.heap.size ≤ w5.heap.size) := (by (have hx := hb.size; (try simp at hx); show _ ≤ _; omega))
        have Bp05 := Lib.hid ((Bp04.out).below hb)
        have rp05 := Bp05.out.now.cell
        have Bp15 := Lib.hid ((Bp14.out).below hb)
        have rp15 := Bp15.out.now.cell
        have Su05 := Lib.hid ((Su04.out).below hb)
        have lp05 := Bp05.out.now.lt
        have lp15 := Bp15.out.now.lt
        have R5 := Lib.hid (below_then R4.out hb (Nat.le_refl _))
        have BN5 := Lib.hid (Kp.ofB N0)
        have rN5 := BN5.out.now.cell
        have LN := Lib.hid R4.out.size
        have LA := Lib.hid BN5.out.now.lt
        clear hb hW N0
        refine hK.out _ _ ⟨Bp05.out.now, Bp15.out.now⟩ (fun _ => ?_)
        clear hK K
        try simp only [Act.put, List.setIfInBounds_toArray, List.set_cons_zero, List.set_cons_succ]
        refine wpAnyH_ready (rs := [3]) (by kernel_rfl) (by simp) ?_
        refine AllReadyH.cons rfl (fun K hK => ?_) ?_
        · go_simp
          refine ((KT1 _ E5.out).out).mono ?_
          rintro _ w6 ⟨us, rfl, HRu1, ho, hb⟩
          have hc := ho.cells
          obtain ⟨Aub0, cub0, rfl, -⟩ := openv_Addr hc
          clear hc
          replace ho := Kp.ofS ho
          have E6 := Lib.hid (below_then E5.out hb (Nat.le_refl _))
          have M6 : Hid (w5.heap.size ≤ w6.heap.size) := (by (have hx := hb.size; (try simp at hx); show _ ≤ _; omega))
          have Bp06 := Lib.hid ((Bp05.out).below hb)
          have rp06 := Bp06.out.now.cell
          have Bp16 := Lib.hid ((Bp15.out).below hb)
          have rp16 := Bp16.out.now.cell
          have BN6 := Lib.hid ((BN5.out).below hb)
          have rN6 := BN6.out.now.cell
          have Su06 := Lib.hid ((Su05.out).below hb)
          have lp06 := Bp06.out.now.lt
          have lp16 := Bp16.out.now.lt
          have lN6 := BN6.out.now.lt
          have R6 := Lib.hid (below_then R5.out hb (Nat.le_refl _))
          have Su16 := Lib.hid ho
          clear ho hb
          try go_wp2_with fail
          refine hK.out _ _ ⟨Bp06.out.now, Bp16.out.now⟩ (fun _ => ?_)
          clear hK K
          try simp only [Act.put, List.setIfInBounds_toArray, List.set_cons_zero, List.set_cons_succ]
          refine wpAnyH_ready (rs := [4]) (by kernel_rfl) (by simp) ?_
          refine AllReadyH.cons rfl (fun K hK => ?_) ?_
          · go_simp
            refine (cf.moveOf_spec hX (Su06.out).now.cells (Su16.out).now.cells HRu1.out).mono ?_
            rintro _ w7 ⟨us, rfl, ho, hb⟩
            have hq : Cells _ _ _ shAddrOut_ X us := ho
            obtain ⟨lW0, sW1, sW2, xW3, xW4, sW5, xW6, AW0, cW0, rfl, rfl, -⟩ := open_AddrOut hq
            clear hq
            replace ho := Kp.ofC (Cells.monoB (B' := fun x => w6.heap.size ≤ x ∧ x < w7.heap.size) ho (fun b h1 h2 => ⟨h1, h2⟩))
            have E7 := Lib.hid (below_then E6.out hb (Nat.le_refl _))
            have M7 : Hid (w6.heap.size ≤ w7.heap.size) := (by (have hx := hb.size; (try simp at hx); show _ ≤ _; omega))
            have Bp07 := Lib.hid ((Bp06.out).below hb)
            have rp07 := Bp07.out.now.cell
            have Bp17 := Lib.hid ((Bp16.out).below hb)
            have rp17 := Bp17.out.now.cell
            have BN7 := Lib.hid ((BN6.out).below hb)
            have rN7 := BN7.out.now.cell
            have Su07 := Lib.hid ((Su06.out).below hb)
            have Su17 := Lib.hid ((Su16.out).below hb)
            have lp07 := Bp07.out.now.lt
            have lp17 := Bp17.out.now.lt
            have lN7 := BN7.out.now.lt
            have R7 := Lib.hid (below_then R6.out hb (Nat.le_refl _))
            have SW7 := Lib.hid ho
            clear ho hb
            try go_wp2_with fail
            refine hK.out _ _ ⟨Bp07.out.now, Bp17.out.now⟩ (fun _ => ?_)
            clear hK K
            try simp only [Act.put, List.setIfInBounds_toArray, List.set_cons_zero, List.set_cons_succ]
            refine wpAnyH_ready (rs := [6]) (by kernel_rfl) (by simp) ?_
            refine AllReadyH.cons rfl (fun K hK => ?_) ?_
            · have pN := BN7.out.now.cell
              have fN := BN7.out.now.free
              have lN := BN7.out.now.lt
              go_simp
              refine hK.out _ _ ⟨(far7 Bp07.out.now (by have := LN.out; have := Bp02.out.now.lt; omega) _ _ _ _ _ _ _), (far7 Bp17.out.now (by have := LN.out; have := Bp12.out.now.lt; omega) _ _ _ _ _ _ _)⟩ (fun _ => ?_)
              clear hK K
              try simp only [Act.put, List.setIfInBounds_toArray, List.set_cons_zero, List.set_cons_succ]
              refine wpAnyH_done (by kernel_rfl) ?_ _
              go_wp2_with fail
              go_meet
              have hl := LN.out
              refine ⟨w4.heap.size, _, _, _, _, _, _, _, rfl, hl, blk7 BN7.out.now _ _ _ _ _ _ _, ?_, ?_⟩
              · exact cells_far7 (Cells.monoB (B' := fun x => x ≠ w4.heap.size) SW7.out.now (fun b h1 _ => by have a1 := h1.1; have a2 := h1.2; have := LA.out; have := M1.out; have := M2.out; have := M3.out; have := M4.out; have := M5.out; have := M6.out; have := M7.out; omega)) _ _ _ _ _ _ _
              · iterate 7 refine Below.setCell ?_ (by exact hl) _
                exact R7.out
            exact AllReadyH.nil
          exact AllReadyH.nil
        exact AllReadyH.nil
      exact AllReadyH.nil
    refine AllReadyH.cons rfl (fun K hK => ?_) ?_
    · go_simp
      have hb := below_a1 w3 (.cells #[.slice none 0 0, .string ⟨#[]⟩, .string ⟨#[]⟩, .int .i64 0, .int .i64 0, .string ⟨#[]⟩, .int .i64 0] 31)
      have N0 := Blk.new w3 31 #[.slice none 0 0, .string ⟨#[]⟩, .string ⟨#[]⟩, .int .i64 0, .int .i64 0, .string ⟨#[]⟩, .int .i64 0]
      obtain ⟨w4, hW⟩ : ∃ W, w3.alloc (.cells #[.slice none 0 0, .string ⟨#[]⟩, .string ⟨#[]⟩, .int .i64 0, .int .i64 0, .string ⟨#[]⟩, .int .i64 0] 31) = W := ⟨_, rfl⟩
      rw [hW] at hb N0 ⊢
      have E4 := Lib.hid (below_then E3.out hb (Nat.le_refl _))
      have M4 : Hid (w3.heap.size ≤ w4.heap.size) := (by (have hx := hb.size; (try simp at hx); show _ ≤ _; omega))
      have Bp04 := Lib.hid ((Bp03.out).below hb)
      have rp04 := Bp04.out.now.cell
      have Bp14 := Lib.hid ((Bp13.out).below hb)
      have rp14 := Bp14.out.now.cell
      have lp04 := Bp04.out.now.lt
      have lp14 := Bp14.out.now.lt
      have R4 := Lib.hid (below_then R3.out hb (Nat.le_refl _))
      have BN4 := Lib.hid (Kp.ofB N0)
      have rN4 := BN4.out.now.cell
      have LN := Lib.hid R3.out.size
      have LA := Lib.hid BN4.out.now.lt
      clear hb hW N0
      refine hK.out _ _ ⟨Bp04.out.now, Bp14.out.now⟩ (fun _ => ?_)
      clear hK K
      try simp only [Act.put, List.setIfInBounds_toArray, List.set_cons_zero, List.set_cons_succ]
      refine wpAnyH_ready (rs := [1]) (by kernel_rfl) (by simp) ?_
      refine AllReadyH.cons rfl (fun K hK => ?_) ?_
      · go_simp
        refine ((KT0 _ E4.out).out).mono ?_
        rintro _ w5 ⟨us, rfl, HRu0, ho, hb⟩
        have hc := ho.cells
        obtain ⟨Aua1, cua1, Aua7, cua7, rfl, -⟩ := openv_Move hc
        clear hc
        replace ho := Kp.ofS ho
        have E5 := Lib.hid (below_then E4.out hb (Nat.le_refl _))
        have M5 : Hid (w4.heap.size ≤ w5.heap.size) := (by (have hx := hb.size; (try simp at hx); show _ ≤ _; omega))
        have Bp05 := Lib.hid ((Bp04.out).below hb)
        have rp05 := Bp05.out.now.cell
        have Bp15 := Lib.hid ((Bp14.out).below hb)
        have rp15 := Bp15.out.now.cell
        have BN5 := Lib.hid ((BN4.out).below hb)
        have rN5 := BN5.out.now.cell
        have lp05 := Bp05.out.now.lt
        have lp15 := Bp15.out.now.lt
        have lN5 := BN5.out.now.lt
        have R5 := Lib.hid (below_then R4.out hb (Nat.le_refl _))
        have Su05 := Lib.hid ho
        clear ho hb
        try go_wp2_with fail
        refine hK.out _ _ ⟨Bp05.out.now, Bp15.out.now⟩ (fun _ => ?_)
        clear hK K
        try simp only [Act.put, List.setIfInBounds_toArray, List.set_cons_zero, List.set_cons_succ]
        refine wpAnyH_ready (rs := [3]) (by kernel_rfl) (by simp) ?_
        refine AllReadyH.cons rfl (fun K hK => ?_) ?_
        · go_simp
          refine ((KT1 _ E5.out).out).mono ?_
          rintro _ w6 ⟨us, rfl, HRu1, ho, hb⟩
          have hc := ho.cells
          obtain ⟨Aub0, cub0, rfl, -⟩ := openv_Addr hc
          clear hc
          replace ho := Kp.ofS ho
          have E6 := Lib.hid (below_then E5.out hb (Nat.le_refl _))
          have M6 : Hid (w5.heap.size ≤ w6.heap.size) := (by (have hx := hb.size; (try simp at hx); show _ ≤ _; omega))
          have Bp06 := Lib.hid ((Bp05.out).below hb)
          have rp06 := Bp06.out.now.cell
          have Bp16 := Lib.hid ((Bp15.out).below hb)
          have rp16 := Bp16.out.now.cell
          have BN6 := Lib.hid ((BN5.out).below hb)
          have rN6 := BN6.out.now.cell
          have Su06 := Lib.hid ((Su05.out).below hb)
          have lp06 := Bp06.out.now.lt
          have lp16 := Bp16.out.now.lt
          have lN6 := BN6.out.now.lt
          have R6 := Lib.hid (below_then R5.out hb (Nat.le_refl _))
          have Su16 := Lib.hid ho
          clear ho hb
          try go_wp2_with fail
          refine hK.out _ _ ⟨Bp06.out.now, Bp16.out.now⟩ (fun _ => ?_)
          clear hK K
          try simp only [Act.put, List.setIfInBounds_toArray, List.set_cons_zero, List.set_cons_succ]
          refine wpAnyH_ready (rs := [4]) (by kernel_rfl) (by simp) ?_
          refine AllReadyH.cons rfl (fun K hK => ?_) ?_
          · go_simp
            refine (cf.moveOf_spec hX (Su06.out).now.cells (Su16.out).now.cells HRu1.out).mono ?_
            rintro _ w7 ⟨us, rfl, ho, hb⟩
            have hq : Cells _ _ _ shAddrOut_ X us := ho
            obtain ⟨lW0, sW1, sW2, xW3, xW4, sW5, xW6, AW0, cW0, rfl, rfl, -⟩ := open_AddrOut hq
            clear hq
            replace ho := Kp.ofC (Cells.monoB (B' := fun x => w6.heap.size ≤ x ∧ x < w7.heap.size) ho (fun b h1 h2 => ⟨h1, h2⟩))
            have E7 := Lib.hid (below_then E6.out hb (Nat.le_refl _))
            have M7 : Hid (w6.heap.size ≤ w7.heap.size) := (by (have hx := hb.size; (try simp at hx); show _ ≤ _; omega))
            have Bp07 := Lib.hid ((Bp06.out).below hb)
            have rp07 := Bp07.out.now.cell
            have Bp17 := Lib.hid ((Bp16.out).below hb)
            have rp17 := Bp17.out.now.cell
            have BN7 := Lib.hid ((BN6.out).below hb)
            have rN7 := BN7.out.now.cell
            have Su07 := Lib.hid ((Su06.out).below hb)
            have Su17 := Lib.hid ((Su16.out).below hb)
            have lp07 := Bp07.out.now.lt
            have lp17 := Bp17.out.now.lt
            have lN7 := BN7.out.now.lt
            have R7 := Lib.hid (below_then R6.out hb (Nat.le_refl _))
            have SW7 := Lib.hid ho
            clear ho hb
            try go_wp2_with fail
            refine hK.out _ _ ⟨Bp07.out.now, Bp17.out.now⟩ (fun _ => ?_)
            clear hK K
            try simp only [Act.put, List.setIfInBounds_toArray, List.set_cons_zero, List.set_cons_succ]
            refine wpAnyH_ready (rs := [6]) (by kernel_rfl) (by simp) ?_
            refine AllReadyH.cons rfl (fun K hK => ?_) ?_
            · have pN := BN7.out.now.cell
              have fN := BN7.out.now.free
              have lN := BN7.out.now.lt
              go_simp
              refine hK.out _ _ ⟨(far7 Bp07.out.now (by have := LN.out; have := Bp02.out.now.lt; omega) _ _ _ _ _ _ _), (far7 Bp17.out.now (by have := LN.out; have := Bp12.out.now.lt; omega) _ _ _ _ _ _ _)⟩ (fun _ => ?_)
              clear hK K
              try simp only [Act.put, List.setIfInBounds_toArray, List.set_cons_zero, List.set_cons_succ]
              refine wpAnyH_done (by kernel_rfl) ?_ _
              go_wp2_with fail
              go_meet
              have hl := LN.out
              refine ⟨w3.heap.size, _, _, _, _, _, _, _, rfl, hl, blk7 BN7.out.now _ _ _ _ _ _ _, ?_, ?_⟩
              · exact cells_far7 (Cells.monoB (B' := fun x => x ≠ w3.heap.size) SW7.out.now (fun b h1 _ => by have a1 := h1.1; have a2 := h1.2; have := LA.out; have := M1.out; have := M2.out; have := M3.out; have := M4.out; have := M5.out; have := M6.out; have := M7.out; omega)) _ _ _ _ _ _ _
              · iterate 7 refine Below.setCell ?_ (by exact hl) _
                exact R7.out
            exact AllReadyH.nil
          exact AllReadyH.nil
        exact AllReadyH.nil
      exact AllReadyH.nil
    exact AllReadyH.nil
  case rest =>
    obtain ⟨g, v0, v1, v2, v3, v4, v5, v6, rfl, hgl, hN, hC, hb⟩ := hcut
    rename World => w3
    obtain ⟨lW0, sW1, sW2, xW3, xW4, sW5, xW6, AW0, cW0, rfl, ev, -⟩ := open_AddrOut hC
    simp only [List.cons.injEq, and_true] at ev
    obtain ⟨rfl, rfl, rfl, rfl, rfl, rfl, rfl⟩ := ev
    have ho := Kp.ofC (Cells.lw hC)
    have E3 := Lib.hid (below_then E2.out hb (Nat.le_refl _))
    have M3 : Hid (w2.heap.size ≤ w3.heap.size) := (by (have hx := hb.size; (try simp at hx); show _ ≤ _; omega))
    have Bp03 := Lib.hid ((Bp02.out).below hb)
    have rp03 := Bp03.out.now.cell
    have Bp13 := Lib.hid ((Bp12.out).below hb)
    have rp13 := Bp13.out.now.cell
    have lp03 := Bp03.out.now.lt
    have lp13 := Bp13.out.now.lt
    have SW3 := Lib.hid ho
    have BWbox3 := Lib.hid (Kp.ofB hN)
    have rWbox3 := BWbox3.out.now.cell
    have LWW := Lib.hid hgl
    have LVW := Lib.hid BWbox3.out.now.lt
    have lWbox3 := BWbox3.out.now.lt
    clear ho hb hC hN hgl Bp02 rp02 Bp12 rp12 E2 lp02 lp12
    have HSP := Lib.hid SW3.out.now
    go_wp2_with fail
    refine ((KT0 _ E3.out).out).mono ?_
    rintro _ w4 ⟨us, rfl, HRx0, ho, hb⟩
    have hc := ho.cells
    obtain ⟨Axa1, cxa1, Axa7, cxa7, rfl, -⟩ := openv_Move hc
    clear hc
    replace ho := Kp.ofS ho
    have E4 := Lib.hid (below_then E3.out hb (Nat.le_refl _))
    have M4 : Hid (w3.heap.size ≤ w4.heap.size) := (by (have hx := hb.size; (try simp at hx); show _ ≤ _; omega))
    have Bp04 := Lib.hid ((Bp03.out).below hb)
    have rp04 := Bp04.out.now.cell
    have Bp14 := Lib.hid ((Bp13.out).below hb)
    have rp14 := Bp14.out.now.cell
    have BWbox4 := Lib.hid ((BWbox3.out).below hb)
    have rWbox4 := BWbox4.out.now.cell
    have SW4 := Lib.hid ((SW3.out).below hb)
    have lp04 := Bp04.out.now.lt
    have lp14 := Bp14.out.now.lt
    have lWbox4 := BWbox4.out.now.lt
    have Sx04 := Lib.hid ho
    clear ho hb Bp03 rp03 Bp13 rp13 BWbox3 rWbox3 SW3 E3 lp03 lp13 lWbox3
    go_wp2_with fail
    refine ((KT1 _ (below_da E4.out (Nat.le_refl _) _)).out).mono ?_
    rintro _ w5 ⟨us, rfl, HRx1, ho, hb⟩
    have hc := ho.cells
    obtain ⟨Axb0, cxb0, rfl, -⟩ := openv_Addr hc
    clear hc
    replace ho := Kp.ofS ho
    have E5 := Lib.hid (below_then (below_da E4.out (Nat.le_refl _) _) hb (Nat.le_refl _))
    have M5 : Hid (w4.heap.size + 1 ≤ w5.heap.size) := (by (have hx := hb.size; (try simp at hx); show _ ≤ _; omega))
    have Bp05 := Lib.hid (((Bp04.out).alloc _).below hb)
    have rp05 := Bp05.out.now.cell
    have Bp15 := Lib.hid (((Bp14.out).alloc _).below hb)
    have rp15 := Bp15.out.now.cell
    have BWbox5 := Lib.hid (((BWbox4.out).alloc _).below hb)
    have rWbox5 := BWbox5.out.now.cell
    have Bx05 := Lib.hid ((Kp.ofB (Blk.new w4 _ _)).below hb)
    have rx05 := Bx05.out.now.cell
    have SW5 := Lib.hid (((SW4.out).alloc _).below hb)
    have Sx05 := Lib.hid (((Sx04.out).alloc _).below hb)
    have lp05 := Bp05.out.now.lt
    have lp15 := Bp15.out.now.lt
    have lWbox5 := BWbox5.out.now.lt
    have lx05 := Bx05.out.now.lt
    have Sx15 := Lib.hid ho
    clear ho hb Bp04 rp04 Bp14 rp14 BWbox4 rWbox4 SW4 Sx04 E4 lp04 lp14 lWbox4
    go_wp2_with fail
    refine (cf.moveOf_impl hX ((Sx05.out).alloc _).now.cells ((Sx15.out).alloc _).now.cells HRx1.out).mono ?_
    rintro _ w6 ⟨us, rfl, ho, hb⟩
    have hq : Cells _ _ _ shAddrOut_ [.l lW0, .s sW1, .s sW2, .i xW3, .i xW4, .s sW5, .i xW6] us := ho.cells
    obtain ⟨AG0, cG0, rfl, -⟩ := openv_AddrOut hq
    clear hq
    replace ho := Kp.ofS ho
    have E6 := Lib.hid (below_then (below_da E5.out (Nat.le_refl _) _) hb (Nat.le_refl _))
    have M6 : Hid (w5.heap.size + 1 ≤ w6.heap.size) := (by (have hx := hb.size; (try simp at hx); show _ ≤ _; omega))
    have Bp06 := Lib.hid (((Bp05.out).alloc _).below hb)
    have rp06 := Bp06.out.now.cell
    have Bp16 := Lib.hid (((Bp15.out).alloc _).below hb)
    have rp16 := Bp16.out.now.cell
    have BWbox6 := Lib.hid (((BWbox5.out).alloc _).below hb)
    have rWbox6 := BWbox6.out.now.cell
    have Bx06 := Lib.hid (((Bx05.out).alloc _).below hb)
    have rx06 := Bx06.out.now.cell
    have Bx16 := Lib.hid ((Kp.ofB (Blk.new w5 _ _)).below hb)
    have rx16 := Bx16.out.now.cell
    have SW6 := Lib.hid (((SW5.out).alloc _).below hb)
    have Sx06 := Lib.hid (((Sx05.out).alloc _).below hb)
    have Sx16 := Lib.hid (((Sx15.out).alloc _).below hb)
    have lp06 := Bp06.out.now.lt
    have lp16 := Bp16.out.now.lt
    have lWbox6 := BWbox6.out.now.lt
    have lx06 := Bx06.out.now.lt
    have lx16 := Bx16.out.now.lt
    have SG6 := Lib.hid ho
    clear ho hb Bp05 rp05 Bp15 rp15 BWbox5 rWbox5 Bx05 rx05 SW5 Sx05 Sx15 E5 lp05 lp15 lWbox5 lx05
    go_wp2_with fail
    refine (eqAddrOut_all 1 _ _ _ _ _ _ ((SG6.out).alloc _).now.cells ((SW6.out).alloc _).now).mono ?_
    rintro _ w7 ⟨rfl, hb⟩
    have E7 := Lib.hid (below_then (below_da E6.out (Nat.le_refl _) _) hb (Nat.le_refl _))
    have M7 : Hid (w6.heap.size + 1 ≤ w7.heap.size) := (by (have hx := hb.size; (try simp at hx); show _ ≤ _; omega))
    have Bp07 := Lib.hid (((Bp06.out).alloc _).below hb)
    have rp07 := Bp07.out.now.cell
    have Bp17 := Lib.hid (((Bp16.out).alloc _).below hb)
    have rp17 := Bp17.out.now.cell
    have BWbox7 := Lib.hid (((BWbox6.out).alloc _).below hb)
    have rWbox7 := BWbox7.out.now.cell
    have Bx07 := Lib.hid (((Bx06.out).alloc _).below hb)
    have rx07 := Bx07.out.now.cell
    have Bx17 := Lib.hid (((Bx16.out).alloc _).below hb)
    have rx17 := Bx17.out.now.cell
    have BGbox7 := Lib.hid ((Kp.ofB (Blk.new w6 _ _)).below hb)
    have rGbox7 := BGbox7.out.now.cell
    have SW7 := Lib.hid (((SW6.out).alloc _).below hb)
    have Sx07 := Lib.hid (((Sx06.out).alloc _).below hb)
    have Sx17 := Lib.hid (((Sx16.out).alloc _).below hb)
    have SG7 := Lib.hid (((SG6.out).alloc _).below hb)
    have lp07 := Bp07.out.now.lt
    have lp17 := Bp17.out.now.lt
    have lWbox7 := BWbox7.out.now.lt
    have lx07 := Bx07.out.now.lt
    have lx17 := Bx17.out.now.lt
    have lGbox7 := BGbox7.out.now.lt
    clear hb Bp06 rp06 Bp16 rp16 BWbox6 rWbox6 Bx06 rx06 Bx16 rx16 SW6 Sx06 Sx16 SG6 E6 lp06 lp16 lWbox6 lx06 lx16
    go_wp2_with fail
    go_region_held3 (fun w' => w'.cell? ⟨w4.heap.size, 0, none⟩ = some (.int .i64 xa0) ∧ w'.cell? ⟨w4.heap.size, 1, none⟩ = some (.slice Axa1 la1.length cxa1) ∧ w'.cell? ⟨w4.heap.size, 2, none⟩ = some (.string sa2) ∧ w'.cell? ⟨w4.heap.size, 3, none⟩ = some (.string sa3) ∧ w'.cell? ⟨w4.heap.size, 4, none⟩ = some (.int .i64 xa4) ∧ w'.cell? ⟨w4.heap.size, 5, none⟩ = some (.int .i64 xa5) ∧ w'.cell? ⟨w4.heap.size, 6, none⟩ = some (.string sa6) ∧ w'.cell? ⟨w4.heap.size, 7, none⟩ = some (.slice Axa7 la7.length cxa7) ∧ w'.cell? ⟨w4.heap.size, 8, none⟩ = some (.string sa8) ∧ w'.cell? ⟨w4.heap.size, 9, none⟩ = some (.string sa9) ∧ w'.cell? ⟨w4.heap.size, 10, none⟩ = some (.int .i64 xa10) ∧ w'.cell? ⟨w4.heap.size, 11, none⟩ = some (.int .i64 xa11) ∧ w'.cell? ⟨w4.heap.size, 12, none⟩ = some (.string sa12) ∧ w'.cell? ⟨w.heap.size, 0, none⟩ = some (.int .i64 xa0) ∧ w'.cell? ⟨w.heap.size, 1, none⟩ = some (.slice Aa1 la1.length ca1) ∧ w'.cell? ⟨w.heap.size, 2, none⟩ = some (.string sa2) ∧ w'.cell? ⟨w.heap.size, 3, none⟩ = some (.string sa3) ∧ w'.cell? ⟨w.heap.size, 4, none⟩ = some (.int .i64 xa4) ∧ w'.cell? ⟨w.heap.size, 5, none⟩ = some (.int .i64 xa5) ∧ w'.cell? ⟨w.heap.size, 6, none⟩ = some (.string sa6) ∧ w'.cell? ⟨w.heap.size, 7, none⟩ = some (.slice Aa7 la7.length ca7) ∧ w'.cell? ⟨w.heap.size, 8, none⟩ = some (.string sa8) ∧ w'.cell? ⟨w.heap.size, 9, none⟩ = some (.string sa9) ∧ w'.cell? ⟨w.heap.size, 10, none⟩ = some (.int .i64 xa10) ∧ w'.cell? ⟨w.heap.size, 11, none⟩ = some (.int .i64 xa11) ∧ w'.cell? ⟨w.heap.size, 12, none⟩ = some (.string sa12)) (go_keep)
      (first
      | (go_at_call 8; refine (KT0 _ ?_).out.mono ?_; exact below_dn E7.out _; rintro _ w8 ⟨us, rfl, _, ho, hb⟩; have hbb := below_then (below_d w7 _) hb (Nat.le_refl _); have hc := ho.cells; clear ho; obtain ⟨Aqa1, cqa1, Aqa7, cqa7, rfl, -⟩ := openv_Move hc; have E8 := Lib.hid (below_then E7.out hbb (Nat.le_refl _)); have M8 : Hid (w7.heap.size ≤ w8.heap.size) := (by (have hx := hbb.size; (try simp at hx); show _ ≤ _; omega)); have Bp08 := Lib.hid ((Bp07.out).below hbb); have rp08 := Bp08.out.now.cell; have Bp18 := Lib.hid ((Bp17.out).below hbb); have rp18 := Bp18.out.now.cell; have BWbox8 := Lib.hid ((BWbox7.out).below hbb); have rWbox8 := BWbox8.out.now.cell; have Bx08 := Lib.hid ((Bx07.out).below hbb); have rx08 := Bx08.out.now.cell; have Bx18 := Lib.hid ((Bx17.out).below hbb); have rx18 := Bx18.out.now.cell; have BGbox8 := Lib.hid ((BGbox7.out).below hbb); have rGbox8 := BGbox8.out.now.cell; have SW8 := Lib.hid ((SW7.out).below hbb); have Sx08 := Lib.hid ((Sx07.out).below hbb); have Sx18 := Lib.hid ((Sx17.out).below hbb); have SG8 := Lib.hid ((SG7.out).below hbb); have lp08 := Bp08.out.now.lt; have lp18 := Bp18.out.now.lt; have lWbox8 := BWbox8.out.now.lt; have lx08 := Bx08.out.now.lt; have lx18 := Bx18.out.now.lt; have lGbox8 := BGbox8.out.now.lt; have Sq8 := Lib.hid (Kp.ofC hc); clear hb hbb hc)
      | (go_at_call 12; refine (eqMove_all n0 _ _ _ _ _ _ Sx08.out.now.cells Sq8.out.now).mono ?_; rintro _ w9 ⟨rfl, hb⟩; have E9 := Lib.hid (below_then E8.out hb (Nat.le_refl _)); have M9 : Hid (w8.heap.size ≤ w9.heap.size) := (by (have hx := hb.size; (try simp at hx); show _ ≤ _; omega)); have Bp09 := Lib.hid ((Bp08.out).below hb); have rp09 := Bp09.out.now.cell; have Bp19 := Lib.hid ((Bp18.out).below hb); have rp19 := Bp19.out.now.cell; have BWbox9 := Lib.hid ((BWbox8.out).below hb); have rWbox9 := BWbox9.out.now.cell; have Bx09 := Lib.hid ((Bx08.out).below hb); have rx09 := Bx09.out.now.cell; have Bx19 := Lib.hid ((Bx18.out).below hb); have rx19 := Bx19.out.now.cell; have BGbox9 := Lib.hid ((BGbox8.out).below hb); have rGbox9 := BGbox9.out.now.cell; have SW9 := Lib.hid ((SW8.out).below hb); have Sx09 := Lib.hid ((Sx08.out).below hb); have Sx19 := Lib.hid ((Sx18.out).below hb); have SG9 := Lib.hid ((SG8.out).below hb); have Sq9 := Lib.hid ((Sq8.out).below hb); have lp09 := Bp09.out.now.lt; have lp19 := Bp19.out.now.lt; have lWbox9 := BWbox9.out.now.lt; have lx09 := Bx09.out.now.lt; have lx19 := Bx19.out.now.lt; have lGbox9 := BGbox9.out.now.lt; clear hb))
    go_split_ands
    clear Sq9
    clear Bp07 rp07 Bp17 rp17 BWbox7 rWbox7 Bx07 rx07 Bx17 rx17 BGbox7 rGbox7 SW7 Sx07 Sx17 SG7 E7 lp07 lp17 lWbox7 lx07 lx17 lGbox7 Bp08 rp08 Bp18 rp18 BWbox8 rWbox8 Bx08 rx08 Bx18 rx18 BGbox8 rGbox8 SW8 Sx08 Sx18 SG8 E8 lp08 lp18 lWbox8 lx08 lx18 lGbox8
    clear Sq8
    go_wp2_with fail
    go_region_held3 (fun w' => w'.cell? ⟨w5.heap.size, 0, none⟩ = some (.slice Axb0 lb0.length cxb0) ∧ w'.cell? ⟨w5.heap.size, 1, none⟩ = some (.string sb1) ∧ w'.cell? ⟨w5.heap.size, 2, none⟩ = some (.string sb2) ∧ w'.cell? ⟨w5.heap.size, 3, none⟩ = some (.int .i64 xb3) ∧ w'.cell? ⟨w5.heap.size, 4, none⟩ = some (.int .i64 xb4) ∧ w'.cell? ⟨w5.heap.size, 5, none⟩ = some (.string sb5) ∧ w'.cell? ⟨w.heap.size + 1, 0, none⟩ = some (.slice Ab0 lb0.length cb0) ∧ w'.cell? ⟨w.heap.size + 1, 1, none⟩ = some (.string sb1) ∧ w'.cell? ⟨w.heap.size + 1, 2, none⟩ = some (.string sb2) ∧ w'.cell? ⟨w.heap.size + 1, 3, none⟩ = some (.int .i64 xb3) ∧ w'.cell? ⟨w.heap.size + 1, 4, none⟩ = some (.int .i64 xb4) ∧ w'.cell? ⟨w.heap.size + 1, 5, none⟩ = some (.string sb5)) (go_keep)
      (first
      | (go_at_call 9; refine (KT1 _ ?_).out.mono ?_; exact below_dn E9.out _; rintro _ w10 ⟨us, rfl, _, ho, hb⟩; have hbb := below_then (below_d w9 _) hb (Nat.le_refl _); have hc := ho.cells; clear ho; obtain ⟨Aqb0, cqb0, rfl, -⟩ := openv_Addr hc; have E10 := Lib.hid (below_then E9.out hbb (Nat.le_refl _)); have M10 : Hid (w9.heap.size ≤ w10.heap.size) := (by (have hx := hbb.size; (try simp at hx); show _ ≤ _; omega)); have Bp010 := Lib.hid ((Bp09.out).below hbb); have rp010 := Bp010.out.now.cell; have Bp110 := Lib.hid ((Bp19.out).below hbb); have rp110 := Bp110.out.now.cell; have BWbox10 := Lib.hid ((BWbox9.out).below hbb); have rWbox10 := BWbox10.out.now.cell; have Bx010 := Lib.hid ((Bx09.out).below hbb); have rx010 := Bx010.out.now.cell; have Bx110 := Lib.hid ((Bx19.out).below hbb); have rx110 := Bx110.out.now.cell; have BGbox10 := Lib.hid ((BGbox9.out).below hbb); have rGbox10 := BGbox10.out.now.cell; have SW10 := Lib.hid ((SW9.out).below hbb); have Sx010 := Lib.hid ((Sx09.out).below hbb); have Sx110 := Lib.hid ((Sx19.out).below hbb); have SG10 := Lib.hid ((SG9.out).below hbb); have lp010 := Bp010.out.now.lt; have lp110 := Bp110.out.now.lt; have lWbox10 := BWbox10.out.now.lt; have lx010 := Bx010.out.now.lt; have lx110 := Bx110.out.now.lt; have lGbox10 := BGbox10.out.now.lt; have Sq10 := Lib.hid (Kp.ofC hc); clear hb hbb hc)
      | (go_at_call 13; refine (eqAddr_all n1 _ _ _ _ _ _ Sx110.out.now.cells Sq10.out.now).mono ?_; rintro _ w11 ⟨rfl, hb⟩; have E11 := Lib.hid (below_then E10.out hb (Nat.le_refl _)); have M11 : Hid (w10.heap.size ≤ w11.heap.size) := (by (have hx := hb.size; (try simp at hx); show _ ≤ _; omega)); have Bp011 := Lib.hid ((Bp010.out).below hb); have rp011 := Bp011.out.now.cell; have Bp111 := Lib.hid ((Bp110.out).below hb); have rp111 := Bp111.out.now.cell; have BWbox11 := Lib.hid ((BWbox10.out).below hb); have rWbox11 := BWbox11.out.now.cell; have Bx011 := Lib.hid ((Bx010.out).below hb); have rx011 := Bx011.out.now.cell; have Bx111 := Lib.hid ((Bx110.out).below hb); have rx111 := Bx111.out.now.cell; have BGbox11 := Lib.hid ((BGbox10.out).below hb); have rGbox11 := BGbox11.out.now.cell; have SW11 := Lib.hid ((SW10.out).below hb); have Sx011 := Lib.hid ((Sx010.out).below hb); have Sx111 := Lib.hid ((Sx110.out).below hb); have SG11 := Lib.hid ((SG10.out).below hb); have Sq11 := Lib.hid ((Sq10.out).below hb); have lp011 := Bp011.out.now.lt; have lp111 := Bp111.out.now.lt; have lWbox11 := BWbox11.out.now.lt; have lx011 := Bx011.out.now.lt; have lx111 := Bx111.out.now.lt; have lGbox11 := BGbox11.out.now.lt; clear hb))
    go_split_ands
    clear Sq11
    clear Bp09 rp09 Bp19 rp19 BWbox9 rWbox9 Bx09 rx09 Bx19 rx19 BGbox9 rGbox9 SW9 Sx09 Sx19 SG9 E9 lp09 lp19 lWbox9 lx09 lx19 lGbox9 Bp010 rp010 Bp110 rp110 BWbox10 rWbox10 Bx010 rx010 Bx110 rx110 BGbox10 rGbox10 SW10 Sx010 Sx110 SG10 E10 lp010 lp110 lWbox10 lx010 lx110 lGbox10
    clear Sq10
    go_wp2_with fail
    refine (mkMove_all n0 _ [.i xa0, .l la1, .s sa2, .s sa3, .i xa4, .i xa5, .s sa6, .l la7, .s sa8, .s sa9, .i xa10, .i xa11, .s sa12] _ (1) 1 _ (Sx011.out).now (fun b hb => by have := M1.out; have := M2.out; have := M3.out; have := LWW.out; have := LVW.out; have := M4.out; have := M5.out; have := M6.out; have := M7.out; have := M8.out; have := M9.out; have := M10.out; have := M11.out; simp [Rg] at hb; omega) rfl (by omega) (by (have := HNB0.out; omega))).mono ?_
    rintro _ w12 ⟨z12, rfl, hz12, hown, ho⟩
    have M12 : Hid (w11.heap.size ≤ w12.heap.size) := ho.size
    have E12 := Lib.hid (Below.only E11.out ho E11.out.size (fun b hb => by have := M1.out; have := M2.out; have := M3.out; have := LWW.out; have := LVW.out; have := M4.out; have := M5.out; have := M6.out; have := M7.out; have := M8.out; have := M9.out; have := M10.out; have := M11.out; simp [Rg] at hb; omega))
    have Bp012 := Lib.hid (Bp011.out.only ho (fun b h1 h2 h3 => by have := M1.out; have := M2.out; have := M3.out; have := LWW.out; have := LVW.out; have := M4.out; have := M5.out; have := M6.out; have := M7.out; have := M8.out; have := M9.out; have := M10.out; have := M11.out; simp [Rg] at h3; omega))
    have rp012 := Bp012.out.now.cell
    have Bp112 := Lib.hid (Bp111.out.only ho (fun b h1 h2 h3 => by have := M1.out; have := M2.out; have := M3.out; have := LWW.out; have := LVW.out; have := M4.out; have := M5.out; have := M6.out; have := M7.out; have := M8.out; have := M9.out; have := M10.out; have := M11.out; simp [Rg] at h3; omega))
    have rp112 := Bp112.out.now.cell
    have BWbox12 := Lib.hid (BWbox11.out.only ho (fun b h1 h2 h3 => by have := M1.out; have := M2.out; have := M3.out; have := LWW.out; have := LVW.out; have := M4.out; have := M5.out; have := M6.out; have := M7.out; have := M8.out; have := M9.out; have := M10.out; have := M11.out; simp [Rg] at h3; omega))
    have rWbox12 := BWbox12.out.now.cell
    have Bx012 := Lib.hid (Bx011.out.only ho (fun b h1 h2 h3 => by have := M1.out; have := M2.out; have := M3.out; have := LWW.out; have := LVW.out; have := M4.out; have := M5.out; have := M6.out; have := M7.out; have := M8.out; have := M9.out; have := M10.out; have := M11.out; simp [Rg] at h3; omega))
    have rx012 := Bx012.out.now.cell
    have Bx112 := Lib.hid (Bx111.out.only ho (fun b h1 h2 h3 => by have := M1.out; have := M2.out; have := M3.out; have := LWW.out; have := LVW.out; have := M4.out; have := M5.out; have := M6.out; have := M7.out; have := M8.out; have := M9.out; have := M10.out; have := M11.out; simp [Rg] at h3; omega))
    have rx112 := Bx112.out.now.cell
    have BGbox12 := Lib.hid (BGbox11.out.only ho (fun b h1 h2 h3 => by have := M1.out; have := M2.out; have := M3.out; have := LWW.out; have := LVW.out; have := M4.out; have := M5.out; have := M6.out; have := M7.out; have := M8.out; have := M9.out; have := M10.out; have := M11.out; simp [Rg] at h3; omega))
    have rGbox12 := BGbox12.out.now.cell
    have SW12 := Lib.hid (SW11.out.only ho (fun b h1 h2 h3 => by have := M1.out; have := M2.out; have := M3.out; have := LWW.out; have := LVW.out; have := M4.out; have := M5.out; have := M6.out; have := M7.out; have := M8.out; have := M9.out; have := M10.out; have := M11.out; (try simp [Rg, Lw] at h1); simp [Rg] at h3; omega))
    have Sx112 := Lib.hid (Sx111.out.only ho (fun b h1 h2 h3 => by have := M1.out; have := M2.out; have := M3.out; have := LWW.out; have := LVW.out; have := M4.out; have := M5.out; have := M6.out; have := M7.out; have := M8.out; have := M9.out; have := M10.out; have := M11.out; (try simp [Rg, Lw] at h1); simp [Rg] at h3; omega))
    have SG12 := Lib.hid (SG11.out.only ho (fun b h1 h2 h3 => by have := M1.out; have := M2.out; have := M3.out; have := LWW.out; have := LVW.out; have := M4.out; have := M5.out; have := M6.out; have := M7.out; have := M8.out; have := M9.out; have := M10.out; have := M11.out; (try simp [Rg, Lw] at h1); simp [Rg] at h3; omega))
    have Sx012 := Lib.hid (Kp.ofS hown)
    clear hown ho E11 Bp011 rp011 Bp111 rp111 BWbox11 rWbox11 Bx011 rx011 Bx111 rx111 BGbox11 rGbox11 SW11 Sx011 Sx111 SG11
    have lp012 := Bp012.out.now.lt
    have lp112 := Bp112.out.now.lt
    have lWbox12 := BWbox12.out.now.lt
    have lx012 := Bx012.out.now.lt
    have lx112 := Bx112.out.now.lt
    have lGbox12 := BGbox12.out.now.lt
    clear lp011 lp111 lWbox11 lx011 lx111 lGbox11
    have HZ12 := Lib.hid hz12
    have hz12' : 0 ≤ z12 := by omega
    clear hz12
    go_wp2_with fail
    refine (mkAddr_all n1 _ [.l lb0, .s sb1, .s sb2, .i xb3, .i xb4, .s sb5] _ (z12) (1 + nV [.i xa0, .l la1, .s sa2, .s sa3, .i xa4, .i xa5, .s sa6, .l la7, .s sa8, .s sa9, .i xa10, .i xa11, .s sa12]) _ (Sx112.out).now (fun b hb => by have := M1.out; have := M2.out; have := M3.out; have := LWW.out; have := LVW.out; have := M4.out; have := M5.out; have := M6.out; have := M7.out; have := M8.out; have := M9.out; have := M10.out; have := M11.out; have := M12.out; simp [Rg] at hb; omega) HZ12.out (by omega) (by (have := HNB0.out; have := HNB1.out; omega))).mono ?_
    rintro _ w13 ⟨z13, rfl, hz13, hown, ho⟩
    have M13 : Hid (w12.heap.size ≤ w13.heap.size) := ho.size
    have E13 := Lib.hid (Below.only E12.out ho E12.out.size (fun b hb => by have := M1.out; have := M2.out; have := M3.out; have := LWW.out; have := LVW.out; have := M4.out; have := M5.out; have := M6.out; have := M7.out; have := M8.out; have := M9.out; have := M10.out; have := M11.out; have := M12.out; simp [Rg] at hb; omega))
    have Bp013 := Lib.hid (Bp012.out.only ho (fun b h1 h2 h3 => by have := M1.out; have := M2.out; have := M3.out; have := LWW.out; have := LVW.out; have := M4.out; have := M5.out; have := M6.out; have := M7.out; have := M8.out; have := M9.out; have := M10.out; have := M11.out; have := M12.out; simp [Rg] at h3; omega))
    have rp013 := Bp013.out.now.cell
    have Bp113 := Lib.hid (Bp112.out.only ho (fun b h1 h2 h3 => by have := M1.out; have := M2.out; have := M3.out; have := LWW.out; have := LVW.out; have := M4.out; have := M5.out; have := M6.out; have := M7.out; have := M8.out; have := M9.out; have := M10.out; have := M11.out; have := M12.out; simp [Rg] at h3; omega))
    have rp113 := Bp113.out.now.cell
    have BWbox13 := Lib.hid (BWbox12.out.only ho (fun b h1 h2 h3 => by have := M1.out; have := M2.out; have := M3.out; have := LWW.out; have := LVW.out; have := M4.out; have := M5.out; have := M6.out; have := M7.out; have := M8.out; have := M9.out; have := M10.out; have := M11.out; have := M12.out; simp [Rg] at h3; omega))
    have rWbox13 := BWbox13.out.now.cell
    have Bx013 := Lib.hid (Bx012.out.only ho (fun b h1 h2 h3 => by have := M1.out; have := M2.out; have := M3.out; have := LWW.out; have := LVW.out; have := M4.out; have := M5.out; have := M6.out; have := M7.out; have := M8.out; have := M9.out; have := M10.out; have := M11.out; have := M12.out; simp [Rg] at h3; omega))
    have rx013 := Bx013.out.now.cell
    have Bx113 := Lib.hid (Bx112.out.only ho (fun b h1 h2 h3 => by have := M1.out; have := M2.out; have := M3.out; have := LWW.out; have := LVW.out; have := M4.out; have := M5.out; have := M6.out; have := M7.out; have := M8.out; have := M9.out; have := M10.out; have := M11.out; have := M12.out; simp [Rg] at h3; omega))
    have rx113 := Bx113.out.now.cell
    have BGbox13 := Lib.hid (BGbox12.out.only ho (fun b h1 h2 h3 => by have := M1.out; have := M2.out; have := M3.out; have := LWW.out; have := LVW.out; have := M4.out; have := M5.out; have := M6.out; have := M7.out; have := M8.out; have := M9.out; have := M10.out; have := M11.out; have := M12.out; simp [Rg] at h3; omega))
    have rGbox13 := BGbox13.out.now.cell
    have SW13 := Lib.hid (SW12.out.only ho (fun b h1 h2 h3 => by have := M1.out; have := M2.out; have := M3.out; have := LWW.out; have := LVW.out; have := M4.out; have := M5.out; have := M6.out; have := M7.out; have := M8.out; have := M9.out; have := M10.out; have := M11.out; have := M12.out; (try simp [Rg, Lw] at h1); simp [Rg] at h3; omega))
    have SG13 := Lib.hid (SG12.out.only ho (fun b h1 h2 h3 => by have := M1.out; have := M2.out; have := M3.out; have := LWW.out; have := LVW.out; have := M4.out; have := M5.out; have := M6.out; have := M7.out; have := M8.out; have := M9.out; have := M10.out; have := M11.out; have := M12.out; (try simp [Rg, Lw] at h1); simp [Rg] at h3; omega))
    have Sx013 := Lib.hid (Sx012.out.only ho (fun b h1 h2 h3 => by have := M1.out; have := M2.out; have := M3.out; have := LWW.out; have := LVW.out; have := M4.out; have := M5.out; have := M6.out; have := M7.out; have := M8.out; have := M9.out; have := M10.out; have := M11.out; have := M12.out; (try simp [Rg, Lw] at h1); simp [Rg] at h3; omega))
    have Sx113 := Lib.hid (Kp.ofS hown)
    clear hown ho E12 Bp012 rp012 Bp112 rp112 BWbox12 rWbox12 Bx012 rx012 Bx112 rx112 BGbox12 rGbox12 SW12 Sx112 SG12 Sx012
    have lp013 := Bp013.out.now.lt
    have lp113 := Bp113.out.now.lt
    have lWbox13 := BWbox13.out.now.lt
    have lx013 := Bx013.out.now.lt
    have lx113 := Bx113.out.now.lt
    have lGbox13 := BGbox13.out.now.lt
    clear lp012 lp112 lWbox12 lx012 lx112 lGbox12
    have hz13' : 0 ≤ z13 := by omega
    clear hz13
    go_wp2_with fail
    refine (eqAddrOut_all 1 _ _ _ _ _ _ (SG13.out).now.cells (SW13.out).now).mono ?_
    rintro _ w14 ⟨rfl, hb⟩
    have E14 := Lib.hid (below_then E13.out hb (Nat.le_refl _))
    have M14 : Hid (w13.heap.size ≤ w14.heap.size) := (by (have hx := hb.size; (try simp at hx); show _ ≤ _; omega))
    have Bp014 := Lib.hid ((Bp013.out).below hb)
    have rp014 := Bp014.out.now.cell
    have Bp114 := Lib.hid ((Bp113.out).below hb)
    have rp114 := Bp114.out.now.cell
    have BWbox14 := Lib.hid ((BWbox13.out).below hb)
    have rWbox14 := BWbox14.out.now.cell
    have Bx014 := Lib.hid ((Bx013.out).below hb)
    have rx014 := Bx014.out.now.cell
    have Bx114 := Lib.hid ((Bx113.out).below hb)
    have rx114 := Bx114.out.now.cell
    have BGbox14 := Lib.hid ((BGbox13.out).below hb)
    have rGbox14 := BGbox14.out.now.cell
    have SW14 := Lib.hid ((SW13.out).below hb)
    have SG14 := Lib.hid ((SG13.out).below hb)
    have Sx014 := Lib.hid ((Sx013.out).below hb)
    have Sx114 := Lib.hid ((Sx113.out).below hb)
    have lp014 := Bp014.out.now.lt
    have lp114 := Bp114.out.now.lt
    have lWbox14 := BWbox14.out.now.lt
    have lx014 := Bx014.out.now.lt
    have lx114 := Bx114.out.now.lt
    have lGbox14 := BGbox14.out.now.lt
    clear hb Bp013 rp013 Bp113 rp113 BWbox13 rWbox13 Bx013 rx013 Bx113 rx113 BGbox13 rGbox13 SW13 SG13 Sx013 Sx113 E13 lp013 lp113 lWbox13 lx013 lx113 lGbox13
    clear Sx014
    clear Sx114
    go_wp2_with fail
    refine (mkAddrOut_all 1 _ [.l lW0, .s sW1, .s sW2, .i xW3, .i xW4, .s sW5, .i xW6] _ 1 1 _ (SG14.out).now (fun b hb => by have := M1.out; have := M2.out; have := M3.out; have := LWW.out; have := LVW.out; have := M4.out; have := M5.out; have := M6.out; have := M7.out; have := M8.out; have := M9.out; have := M10.out; have := M11.out; have := M12.out; have := M13.out; have := M14.out; simp [Rg] at hb; omega) rfl (by omega) ((by (have := cf.move_nv (cf.bM [.i xa0, .l la1, .s sa2, .s sa3, .i xa4, .i xa5, .s sa6, .l la7, .s sa8, .s sa9, .i xa10, .i xa11, .s sa12]) (cf.bA [.l lb0, .s sb1, .s sb2, .i xb3, .i xb4, .s sb5]); rw [hX] at this; omega)))).mono ?_
    rintro _ w15 ⟨z15, rfl, hz15, hown, ho⟩
    have M15 : Hid (w14.heap.size ≤ w15.heap.size) := ho.size
    have E15 := Lib.hid (Below.only E14.out ho E14.out.size (fun b hb => by have := M1.out; have := M2.out; have := M3.out; have := LWW.out; have := LVW.out; have := M4.out; have := M5.out; have := M6.out; have := M7.out; have := M8.out; have := M9.out; have := M10.out; have := M11.out; have := M12.out; have := M13.out; have := M14.out; simp [Rg] at hb; omega))
    have Bp015 := Lib.hid (Bp014.out.only ho (fun b h1 h2 h3 => by have := M1.out; have := M2.out; have := M3.out; have := LWW.out; have := LVW.out; have := M4.out; have := M5.out; have := M6.out; have := M7.out; have := M8.out; have := M9.out; have := M10.out; have := M11.out; have := M12.out; have := M13.out; have := M14.out; simp [Rg] at h3; omega))
    have rp015 := Bp015.out.now.cell
    have Bp115 := Lib.hid (Bp114.out.only ho (fun b h1 h2 h3 => by have := M1.out; have := M2.out; have := M3.out; have := LWW.out; have := LVW.out; have := M4.out; have := M5.out; have := M6.out; have := M7.out; have := M8.out; have := M9.out; have := M10.out; have := M11.out; have := M12.out; have := M13.out; have := M14.out; simp [Rg] at h3; omega))
    have rp115 := Bp115.out.now.cell
    have BWbox15 := Lib.hid (BWbox14.out.only ho (fun b h1 h2 h3 => by have := M1.out; have := M2.out; have := M3.out; have := LWW.out; have := LVW.out; have := M4.out; have := M5.out; have := M6.out; have := M7.out; have := M8.out; have := M9.out; have := M10.out; have := M11.out; have := M12.out; have := M13.out; have := M14.out; simp [Rg] at h3; omega))
    have rWbox15 := BWbox15.out.now.cell
    have Bx015 := Lib.hid (Bx014.out.only ho (fun b h1 h2 h3 => by have := M1.out; have := M2.out; have := M3.out; have := LWW.out; have := LVW.out; have := M4.out; have := M5.out; have := M6.out; have := M7.out; have := M8.out; have := M9.out; have := M10.out; have := M11.out; have := M12.out; have := M13.out; have := M14.out; simp [Rg] at h3; omega))
    have rx015 := Bx015.out.now.cell
    have Bx115 := Lib.hid (Bx114.out.only ho (fun b h1 h2 h3 => by have := M1.out; have := M2.out; have := M3.out; have := LWW.out; have := LVW.out; have := M4.out; have := M5.out; have := M6.out; have := M7.out; have := M8.out; have := M9.out; have := M10.out; have := M11.out; have := M12.out; have := M13.out; have := M14.out; simp [Rg] at h3; omega))
    have rx115 := Bx115.out.now.cell
    have BGbox15 := Lib.hid (BGbox14.out.only ho (fun b h1 h2 h3 => by have := M1.out; have := M2.out; have := M3.out; have := LWW.out; have := LVW.out; have := M4.out; have := M5.out; have := M6.out; have := M7.out; have := M8.out; have := M9.out; have := M10.out; have := M11.out; have := M12.out; have := M13.out; have := M14.out; simp [Rg] at h3; omega))
    have rGbox15 := BGbox15.out.now.cell
    have SW15 := Lib.hid (SW14.out.only ho (fun b h1 h2 h3 => by have := M1.out; have := M2.out; have := M3.out; have := LWW.out; have := LVW.out; have := M4.out; have := M5.out; have := M6.out; have := M7.out; have := M8.out; have := M9.out; have := M10.out; have := M11.out; have := M12.out; have := M13.out; have := M14.out; (try simp [Rg, Lw] at h1); simp [Rg] at h3; omega))
    have SG15 := Lib.hid (Kp.ofS hown)
    clear hown ho E14 Bp014 rp014 Bp114 rp114 BWbox14 rWbox14 Bx014 rx014 Bx114 rx114 BGbox14 rGbox14 SW14 SG14
    have lp015 := Bp015.out.now.lt
    have lp115 := Bp115.out.now.lt
    have lWbox15 := BWbox15.out.now.lt
    have lx015 := Bx015.out.now.lt
    have lx115 := Bx115.out.now.lt
    have lGbox15 := BGbox15.out.now.lt
    clear lp014 lp114 lWbox14 lx014 lx114 lGbox14
    go_wp2_with fail
    refine (hdAddrOut_all 1 _ _ _ _ _ [.l lW0, .s sW1, .s sW2, .i xW3, .i xW4, .s sW5, .i xW6] _ 1 1 _ HSP.out (SG15.out).now.cells rfl (by omega) ((by (have := cf.move_nv (cf.bM [.i xa0, .l la1, .s sa2, .s sa3, .i xa4, .i xa5, .s sa6, .l la7, .s sa8, .s sa9, .i xa10, .i xa11, .s sa12]) (cf.bA [.l lb0, .s sb1, .s sb2, .i xb3, .i xb4, .s sb5]); rw [hX] at this; omega)))).mono ?_
    rintro _ w16 ⟨y16, rfl, hy16, hb⟩
    have E16 := Lib.hid (below_then E15.out hb (Nat.le_refl _))
    have M16 : Hid (w15.heap.size ≤ w16.heap.size) := (by (have hx := hb.size; (try simp at hx); show _ ≤ _; omega))
    have Bp016 := Lib.hid ((Bp015.out).below hb)
    have rp016 := Bp016.out.now.cell
    have Bp116 := Lib.hid ((Bp115.out).below hb)
    have rp116 := Bp116.out.now.cell
    have BWbox16 := Lib.hid ((BWbox15.out).below hb)
    have rWbox16 := BWbox16.out.now.cell
    have Bx016 := Lib.hid ((Bx015.out).below hb)
    have rx016 := Bx016.out.now.cell
    have Bx116 := Lib.hid ((Bx115.out).below hb)
    have rx116 := Bx116.out.now.cell
    have BGbox16 := Lib.hid ((BGbox15.out).below hb)
    have rGbox16 := BGbox16.out.now.cell
    have SW16 := Lib.hid ((SW15.out).below hb)
    have SG16 := Lib.hid ((SG15.out).below hb)
    have lp016 := Bp016.out.now.lt
    have lp116 := Bp116.out.now.lt
    have lWbox16 := BWbox16.out.now.lt
    have lx016 := Bx016.out.now.lt
    have lx116 := Bx116.out.now.lt
    have lGbox16 := BGbox16.out.now.lt
    clear hb Bp015 rp015 Bp115 rp115 BWbox15 rWbox15 Bx015 rx015 Bx115 rx115 BGbox15 rGbox15 SW15 SG15 E15 lp015 lp115 lWbox15 lx015 lx115 lGbox15
    obtain rfl : y16 = z15 := by omega
    have hy0 : 0 ≤ y16 := by omega
    go_wp2_with fail
    go_cut [13] (fun s13 wx => ∃ (g : Nat) (v0 v1 v2 v3 v4 v5 v6 : Value), s13 = .pointer (some ⟨g, 0, none⟩) ∧ w16.heap.size ≤ g ∧ Blk wx g 31 #[v0, v1, v2, v3, v4, v5, v6] ∧ Cells Any 1 wx shAddrOut_ [.l lW0, .s sW1, .s sW2, .i xW3, .i xW4, .s sW5, .i xW6] [v0, v1, v2, v3, v4, v5, v6] ∧ Below w16.heap.size w16 wx)
    case first =>
      refine wp_region_held_drew (S := fun w' => Blk w' w.heap.size 26 #[.int .i64 xa0, .slice Aa1 la1.length ca1, .string sa2, .string sa3, .int .i64 xa4, .int .i64 xa5, .string sa6, .slice Aa7 la7.length ca7, .string sa8, .string sa9, .int .i64 xa10, .int .i64 xa11, .string sa12] ∧ Blk w' (w.heap.size + 1) 24 #[.slice Ab0 lb0.length cb0, .string sb1, .string sb2, .int .i64 xb3, .int .i64 xb4, .string sb5]) (by kernel_rfl) ⟨(Bp016.out.below (below_d w16 1)).now, (Bp116.out.below (below_d w16 1)).now⟩ (fun _ => ?_)
      have hb := below_d w16 1
      have hdr : w16.drew = w16.drewN 1 := rfl
      rw [hdr]
      obtain ⟨w17, hWd⟩ : ∃ W, w16.drewN 1 = W := ⟨_, rfl⟩
      rw [hWd] at hb ⊢
      have R17 := Lib.hid hb
      have E17 := Lib.hid (below_then E16.out hb (Nat.le_refl _))
      have M17 : Hid (w16.heap.size ≤ w17.heap.size) := (by (have hx := hb.size; (try simp at hx); show _ ≤ _; omega))
      have Bp017 := Lib.hid ((Bp016.out).below hb)
      have rp017 := Bp017.out.now.cell
      have Bp117 := Lib.hid ((Bp116.out).below hb)
      have rp117 := Bp117.out.now.cell
      have BWbox17 := Lib.hid ((BWbox16.out).below hb)
      have rWbox17 := BWbox17.out.now.cell
      have Bx017 := Lib.hid ((Bx016.out).below hb)
      have rx017 := Bx017.out.now.cell
      have Bx117 := Lib.hid ((Bx116.out).below hb)
      have rx117 := Bx117.out.now.cell
      have BGbox17 := Lib.hid ((BGbox16.out).below hb)
      have rGbox17 := BGbox17.out.now.cell
      have SW17 := Lib.hid ((SW16.out).below hb)
      have SG17 := Lib.hid ((SG16.out).below hb)
      have lp017 := Bp017.out.now.lt
      have lp117 := Bp117.out.now.lt
      have lWbox17 := BWbox17.out.now.lt
      have lx017 := Bx017.out.now.lt
      have lx117 := Bx117.out.now.lt
      have lGbox17 := BGbox17.out.now.lt
      clear hb hWd hdr
      refine wpAnyH_take (i := 0) (v := .agg #[.int .i64 xa0, .slice Aa1 la1.length ca1, .string sa2, .string sa3, .int .i64 xa4, .int .i64 xa5, .string sa6, .slice Aa7 la7.length ca7, .string sa8, .string sa9, .int .i64 xa10, .int .i64 xa11, .string sa12]) rfl (by kernel_rfl) (by kernel_rfl) (by kernel_rfl) (fun _ _ _ h => h) (Or.inl ⟨by rfl, ?_⟩) ⟨Bp017.out.now, Bp117.out.now⟩ ?_
      · intro w' hSw
        have hc := Blk.cell hSw.1
        go_simp
      try simp only [Act.put, List.setIfInBounds_toArray, List.set_cons_zero, List.set_cons_succ]
      refine wpAnyH_take (i := 2) (v := .agg #[.slice Ab0 lb0.length cb0, .string sb1, .string sb2, .int .i64 xb3, .int .i64 xb4, .string sb5]) rfl (by kernel_rfl) (by kernel_rfl) (by kernel_rfl) (fun _ _ _ h => h) (Or.inl ⟨by rfl, ?_⟩) ⟨Bp017.out.now, Bp117.out.now⟩ ?_
      · intro w' hSw
        have hc := Blk.cell hSw.2
        go_simp
      try simp only [Act.put, List.setIfInBounds_toArray, List.set_cons_zero, List.set_cons_succ]
      refine wpAnyH_ready (rs := [1, 5]) (by kernel_rfl) (by simp) ?_
      refine AllReadyH.cons rfl (fun K hK => ?_) ?_
      · go_simp
        refine ((KT0 _ E17.out).out).mono ?_
        rintro _ w18 ⟨us, rfl, HRu0, ho, hb⟩
        have hc := ho.cells
        obtain ⟨Aua1, cua1, Aua7, cua7, rfl, -⟩ := openv_Move hc
        clear hc
        replace ho := Kp.ofS ho
        have E18 := Lib.hid (below_then E17.out hb (Nat.le_refl _))
        have M18 : Hid (w17.heap.size ≤ w18.heap.size) := (by (have hx := hb.size; (try simp at hx); show _ ≤ _; omega))
        have Bp018 := Lib.hid ((Bp017.out).below hb)
        have rp018 := Bp018.out.now.cell
        have Bp118 := Lib.hid ((Bp117.out).below hb)
        have rp118 := Bp118.out.now.cell
        have BWbox18 := Lib.hid ((BWbox17.out).below hb)
        have rWbox18 := BWbox18.out.now.cell
        have Bx018 := Lib.hid ((Bx017.out).below hb)
        have rx018 := Bx018.out.now.cell
        have Bx118 := Lib.hid ((Bx117.out).below hb)
        have rx118 := Bx118.out.now.cell
        have BGbox18 := Lib.hid ((BGbox17.out).below hb)
        have rGbox18 := BGbox18.out.now.cell
        have SW18 := Lib.hid ((SW17.out).below hb)
        have SG18 := Lib.hid ((SG17.out).below hb)
        have lp018 := Bp018.out.now.lt
        have lp118 := Bp118.out.now.lt
        have lWbox18 := BWbox18.out.now.lt
        have lx018 := Bx018.out.now.lt
        have lx118 := Bx118.out.now.lt
        have lGbox18 := BGbox18.out.now.lt
        have R18 := Lib.hid (below_then R17.out hb (Nat.le_refl _))
        have Su018 := Lib.hid ho
        clear ho hb
        try go_wp2_with fail
        refine hK.out _ _ ⟨Bp018.out.now, Bp118.out.now⟩ (fun _ => ?_)
        clear hK K
        try simp only [Act.put, List.setIfInBounds_toArray, List.set_cons_zero, List.set_cons_succ]
        refine wpAnyH_ready (rs := [3, 5]) (by kernel_rfl) (by simp) ?_
        refine AllReadyH.cons rfl (fun K hK => ?_) ?_
        · go_simp
          refine ((KT1 _ E18.out).out).mono ?_
          rintro _ w19 ⟨us, rfl, HRu1, ho, hb⟩
          have hc := ho.cells
          obtain ⟨Aub0, cub0, rfl, -⟩ := openv_Addr hc
          clear hc
          replace ho := Kp.ofS ho
          have E19 := Lib.hid (below_then E18.out hb (Nat.le_refl _))
          have M19 : Hid (w18.heap.size ≤ w19.heap.size) := (by (have hx := hb.size; (try simp at hx); show _ ≤ _; omega))
          have Bp019 := Lib.hid ((Bp018.out).below hb)
          have rp019 := Bp019.out.now.cell
          have Bp119 := Lib.hid ((Bp118.out).below hb)
          have rp119 := Bp119.out.now.cell
          have BWbox19 := Lib.hid ((BWbox18.out).below hb)
          have rWbox19 := BWbox19.out.now.cell
          have Bx019 := Lib.hid ((Bx018.out).below hb)
          have rx019 := Bx019.out.now.cell
          have Bx119 := Lib.hid ((Bx118.out).below hb)
          have rx119 := Bx119.out.now.cell
          have BGbox19 := Lib.hid ((BGbox18.out).below hb)
          have rGbox19 := BGbox19.out.now.cell
          have SW19 := Lib.hid ((SW18.out).below hb)
          have SG19 := Lib.hid ((SG18.out).below hb)
          have Su019 := Lib.hid ((Su018.out).below hb)
          have lp019 := Bp019.out.now.lt
          have lp119 := Bp119.out.now.lt
          have lWbox19 := BWbox19.out.now.lt
          have lx019 := Bx019.out.now.lt
          have lx119 := Bx119.out.now.lt
          have lGbox19 := BGbox19.out.now.lt
          have R19 := Lib.hid (below_then R18.out hb (Nat.le_refl _))
          have Su119 := Lib.hid ho
          clear ho hb
          try go_wp2_with fail
          refine hK.out _ _ ⟨Bp019.out.now, Bp119.out.now⟩ (fun _ => ?_)
          clear hK K
          try simp only [Act.put, List.setIfInBounds_toArray, List.set_cons_zero, List.set_cons_succ]
          refine wpAnyH_ready (rs := [4, 5]) (by kernel_rfl) (by simp) ?_
          refine AllReadyH.cons rfl (fun K hK => ?_) ?_
          · go_simp
            refine (cf.moveOf_impl hX (Su019.out).now.cells (Su119.out).now.cells HRu1.out).mono ?_
            rintro _ w20 ⟨us, rfl, ho, hb⟩
            have hq : Cells _ _ _ shAddrOut_ [.l lW0, .s sW1, .s sW2, .i xW3, .i xW4, .s sW5, .i xW6] us := ho.cells
            obtain ⟨AH0, cH0, rfl, -⟩ := openv_AddrOut hq
            clear hq
            replace ho := Kp.ofC (Cells.monoB (B' := fun x => w19.heap.size ≤ x ∧ x < w20.heap.size) ho.cells (fun b h1 h2 => ⟨h1.1, h2⟩))
            have E20 := Lib.hid (below_then E19.out hb (Nat.le_refl _))
            have M20 : Hid (w19.heap.size ≤ w20.heap.size) := (by (have hx := hb.size; (try simp at hx); show _ ≤ _; omega))
            have Bp020 := Lib.hid ((Bp019.out).below hb)
            have rp020 := Bp020.out.now.cell
            have Bp120 := Lib.hid ((Bp119.out).below hb)
            have rp120 := Bp120.out.now.cell
            have BWbox20 := Lib.hid ((BWbox19.out).below hb)
            have rWbox20 := BWbox20.out.now.cell
            have Bx020 := Lib.hid ((Bx019.out).below hb)
            have rx020 := Bx020.out.now.cell
            have Bx120 := Lib.hid ((Bx119.out).below hb)
            have rx120 := Bx120.out.now.cell
            have BGbox20 := Lib.hid ((BGbox19.out).below hb)
            have rGbox20 := BGbox20.out.now.cell
            have SW20 := Lib.hid ((SW19.out).below hb)
            have SG20 := Lib.hid ((SG19.out).below hb)
            have Su020 := Lib.hid ((Su019.out).below hb)
            have Su120 := Lib.hid ((Su119.out).below hb)
            have lp020 := Bp020.out.now.lt
            have lp120 := Bp120.out.now.lt
            have lWbox20 := BWbox20.out.now.lt
            have lx020 := Bx020.out.now.lt
            have lx120 := Bx120.out.now.lt
            have lGbox20 := BGbox20.out.now.lt
            have R20 := Lib.hid (below_then R19.out hb (Nat.le_refl _))
            have SH20 := Lib.hid ho
            clear ho hb
            try go_wp2_with fail
            refine hK.out _ _ ⟨Bp020.out.now, Bp120.out.now⟩ (fun _ => ?_)
            clear hK K
            try simp only [Act.put, List.setIfInBounds_toArray, List.set_cons_zero, List.set_cons_succ]
            refine wpAnyH_ready (rs := [5]) (by kernel_rfl) (by simp) ?_
            refine AllReadyH.cons rfl (fun K hK => ?_) ?_
            · go_simp
              have hb := below_a1 w20 (.cells #[.slice none 0 0, .string ⟨#[]⟩, .string ⟨#[]⟩, .int .i64 0, .int .i64 0, .string ⟨#[]⟩, .int .i64 0] 31)
              have N0 := Blk.new w20 31 #[.slice none 0 0, .string ⟨#[]⟩, .string ⟨#[]⟩, .int .i64 0, .int .i64 0, .string ⟨#[]⟩, .int .i64 0]
              obtain ⟨w21, hW⟩ : ∃ W, w20.alloc (.cells #[.slice none 0 0, .string ⟨#[]⟩, .string ⟨#[]⟩, .int .i64 0, .int .i64 0, .string ⟨#[]⟩, .int .i64 0] 31) = W := ⟨_, rfl⟩
              rw [hW] at hb N0 ⊢
              have E21 := Lib.hid (below_then E20.out hb (Nat.le_refl _))
              have M21 : Hid (w20.heap.size ≤ w21.heap.size) := (by (have hx := hb.size; (try simp at hx); show _ ≤ _; omega))
              have Bp021 := Lib.hid ((Bp020.out).below hb)
              have rp021 := Bp021.out.now.cell
              have Bp121 := Lib.hid ((Bp120.out).below hb)
              have rp121 := Bp121.out.now.cell
              have BWbox21 := Lib.hid ((BWbox20.out).below hb)
              have rWbox21 := BWbox21.out.now.cell
              have Bx021 := Lib.hid ((Bx020.out).below hb)
              have rx021 := Bx021.out.now.cell
              have Bx121 := Lib.hid ((Bx120.out).below hb)
              have rx121 := Bx121.out.now.cell
              have BGbox21 := Lib.hid ((BGbox20.out).below hb)
              have rGbox21 := BGbox21.out.now.cell
              have SW21 := Lib.hid ((SW20.out).below hb)
              have SG21 := Lib.hid ((SG20.out).below hb)
              have Su021 := Lib.hid ((Su020.out).below hb)
              have Su121 := Lib.hid ((Su120.out).below hb)
              have SH21 := Lib.hid ((SH20.out).below hb)
              have lp021 := Bp021.out.now.lt
              have lp121 := Bp121.out.now.lt
              have lWbox21 := BWbox21.out.now.lt
              have lx021 := Bx021.out.now.lt
              have lx121 := Bx121.out.now.lt
              have lGbox21 := BGbox21.out.now.lt
              have R21 := Lib.hid (below_then R20.out hb (Nat.le_refl _))
              have BN21 := Lib.hid (Kp.ofB N0)
              have rN21 := BN21.out.now.cell
              have LN := Lib.hid R20.out.size
              have LA := Lib.hid BN21.out.now.lt
              clear hb hW N0
              refine hK.out _ _ ⟨Bp021.out.now, Bp121.out.now⟩ (fun _ => ?_)
              clear hK K
              try simp only [Act.put, List.setIfInBounds_toArray, List.set_cons_zero, List.set_cons_succ]
              refine wpAnyH_ready (rs := [6]) (by kernel_rfl) (by simp) ?_
              refine AllReadyH.cons rfl (fun K hK => ?_) ?_
              · have pN := BN21.out.now.cell
                have fN := BN21.out.now.free
                have lN := BN21.out.now.lt
                go_simp
                refine hK.out _ _ ⟨(far7 Bp021.out.now (by have := LN.out; have := Bp016.out.now.lt; omega) _ _ _ _ _ _ _), (far7 Bp121.out.now (by have := LN.out; have := Bp116.out.now.lt; omega) _ _ _ _ _ _ _)⟩ (fun _ => ?_)
                clear hK K
                try simp only [Act.put, List.setIfInBounds_toArray, List.set_cons_zero, List.set_cons_succ]
                refine wpAnyH_done (by kernel_rfl) ?_ _
                go_wp2_with fail
                go_meet
                have hl := LN.out
                refine ⟨w20.heap.size, _, _, _, _, _, _, _, rfl, hl, blk7 BN21.out.now _ _ _ _ _ _ _, ?_, ?_⟩
                · exact cells_far7 (Cells.monoB (B' := fun x => x ≠ w20.heap.size) SH21.out.now (fun b h1 _ => by have a1 := h1.1; have a2 := h1.2; have := LA.out; have := M1.out; have := M2.out; have := M3.out; have := LWW.out; have := LVW.out; have := M4.out; have := M5.out; have := M6.out; have := M7.out; have := M8.out; have := M9.out; have := M10.out; have := M11.out; have := M12.out; have := M13.out; have := M14.out; have := M15.out; have := M16.out; have := M17.out; have := M18.out; have := M19.out; have := M20.out; have := M21.out; omega)) _ _ _ _ _ _ _
                · iterate 7 refine Below.setCell ?_ (by exact hl) _
                  exact R21.out
              exact AllReadyH.nil
            exact AllReadyH.nil
          refine AllReadyH.cons rfl (fun K hK => ?_) ?_
          · go_simp
            have hb := below_a1 w19 (.cells #[.slice none 0 0, .string ⟨#[]⟩, .string ⟨#[]⟩, .int .i64 0, .int .i64 0, .string ⟨#[]⟩, .int .i64 0] 31)
            have N0 := Blk.new w19 31 #[.slice none 0 0, .string ⟨#[]⟩, .string ⟨#[]⟩, .int .i64 0, .int .i64 0, .string ⟨#[]⟩, .int .i64 0]
            obtain ⟨w20, hW⟩ : ∃ W, w19.alloc (.cells #[.slice none 0 0, .string ⟨#[]⟩, .string ⟨#[]⟩, .int .i64 0, .int .i64 0, .string ⟨#[]⟩, .int .i64 0] 31) = W := ⟨_, rfl⟩
            rw [hW] at hb N0 ⊢
            have E20 := Lib.hid (below_then E19.out hb (Nat.le_refl _))
            have M20 : Hid (w19.heap.size ≤ w20.heap.size) := (by (have hx := hb.size; (try simp at hx); show _ ≤ _; omega))
            have Bp020 := Lib.hid ((Bp019.out).below hb)
            have rp020 := Bp020.out.now.cell
            have Bp120 := Lib.hid ((Bp119.out).below hb)
            have rp120 := Bp120.out.now.cell
            have BWbox20 := Lib.hid ((BWbox19.out).below hb)
            have rWbox20 := BWbox20.out.now.cell
            have Bx020 := Lib.hid ((Bx019.out).below hb)
            have rx020 := Bx020.out.now.cell
            have Bx120 := Lib.hid ((Bx119.out).below hb)
            have rx120 := Bx120.out.now.cell
            have BGbox20 := Lib.hid ((BGbox19.out).below hb)
            have rGbox20 := BGbox20.out.now.cell
            have SW20 := Lib.hid ((SW19.out).below hb)
            have SG20 := Lib.hid ((SG19.out).below hb)
            have Su020 := Lib.hid ((Su019.out).below hb)
            have Su120 := Lib.hid ((Su119.out).below hb)
            have lp020 := Bp020.out.now.lt
            have lp120 := Bp120.out.now.lt
            have lWbox20 := BWbox20.out.now.lt
            have lx020 := Bx020.out.now.lt
            have lx120 := Bx120.out.now.lt
            have lGbox20 := BGbox20.out.now.lt
            have R20 := Lib.hid (below_then R19.out hb (Nat.le_refl _))
            have BN20 := Lib.hid (Kp.ofB N0)
            have rN20 := BN20.out.now.cell
            have LN := Lib.hid R19.out.size
            have LA := Lib.hid BN20.out.now.lt
            clear hb hW N0
            refine hK.out _ _ ⟨Bp020.out.now, Bp120.out.now⟩ (fun _ => ?_)
            clear hK K
            try simp only [Act.put, List.setIfInBounds_toArray, List.set_cons_zero, List.set_cons_succ]
            refine wpAnyH_ready (rs := [4]) (by kernel_rfl) (by simp) ?_
            refine AllReadyH.cons rfl (fun K hK => ?_) ?_
            · go_simp
              refine (cf.moveOf_impl hX (Su020.out).now.cells (Su120.out).now.cells HRu1.out).mono ?_
              rintro _ w21 ⟨us, rfl, ho, hb⟩
              have hq : Cells _ _ _ shAddrOut_ [.l lW0, .s sW1, .s sW2, .i xW3, .i xW4, .s sW5, .i xW6] us := ho.cells
              obtain ⟨AH0, cH0, rfl, -⟩ := openv_AddrOut hq
              clear hq
              replace ho := Kp.ofC (Cells.monoB (B' := fun x => w20.heap.size ≤ x ∧ x < w21.heap.size) ho.cells (fun b h1 h2 => ⟨h1.1, h2⟩))
              have E21 := Lib.hid (below_then E20.out hb (Nat.le_refl _))
              have M21 : Hid (w20.heap.size ≤ w21.heap.size) := (by (have hx := hb.size; (try simp at hx); show _ ≤ _; omega))
              have Bp021 := Lib.hid ((Bp020.out).below hb)
              have rp021 := Bp021.out.now.cell
              have Bp121 := Lib.hid ((Bp120.out).below hb)
              have rp121 := Bp121.out.now.cell
              have BWbox21 := Lib.hid ((BWbox20.out).below hb)
              have rWbox21 := BWbox21.out.now.cell
              have Bx021 := Lib.hid ((Bx020.out).below hb)
              have rx021 := Bx021.out.now.cell
              have Bx121 := Lib.hid ((Bx120.out).below hb)
              have rx121 := Bx121.out.now.cell
              have BGbox21 := Lib.hid ((BGbox20.out).below hb)
              have rGbox21 := BGbox21.out.now.cell
              have BN21 := Lib.hid ((BN20.out).below hb)
              have rN21 := BN21.out.now.cell
              have SW21 := Lib.hid ((SW20.out).below hb)
              have SG21 := Lib.hid ((SG20.out).below hb)
              have Su021 := Lib.hid ((Su020.out).below hb)
              have Su121 := Lib.hid ((Su120.out).below hb)
              have lp021 := Bp021.out.now.lt
              have lp121 := Bp121.out.now.lt
              have lWbox21 := BWbox21.out.now.lt
              have lx021 := Bx021.out.now.lt
              have lx121 := Bx121.out.now.lt
              have lGbox21 := BGbox21.out.now.lt
              have lN21 := BN21.out.now.lt
              have R21 := Lib.hid (below_then R20.out hb (Nat.le_refl _))
              have SH21 := Lib.hid ho
              clear ho hb
              try go_wp2_with fail
              refine hK.out _ _ ⟨Bp021.out.now, Bp121.out.now⟩ (fun _ => ?_)
              clear hK K
              try simp only [Act.put, List.setIfInBounds_toArray, List.set_cons_zero, List.set_cons_succ]
              refine wpAnyH_ready (rs := [6]) (by kernel_rfl) (by simp) ?_
              refine AllReadyH.cons rfl (fun K hK => ?_) ?_
              · have pN := BN21.out.now.cell
                have fN := BN21.out.now.free
                have lN := BN21.out.now.lt
                go_simp
                refine hK.out _ _ ⟨(far7 Bp021.out.now (by have := LN.out; have := Bp016.out.now.lt; omega) _ _ _ _ _ _ _), (far7 Bp121.out.now (by have := LN.out; have := Bp116.out.now.lt; omega) _ _ _ _ _ _ _)⟩ (fun _ => ?_)
                clear hK K
                try simp only [Act.put, List.setIfInBounds_toArray, List.set_cons_zero, List.set_cons_succ]
                refine wpAnyH_done (by kernel_rfl) ?_ _
                go_wp2_with fail
                go_meet
                have hl := LN.out
                refine ⟨w19.heap.size, _, _, _, _, _, _, _, rfl, hl, blk7 BN21.out.now _ _ _ _ _ _ _, ?_, ?_⟩
                · exact cells_far7 (Cells.monoB (B' := fun x => x ≠ w19.heap.size) SH21.out.now (fun b h1 _ => by have a1 := h1.1; have a2 := h1.2; have := LA.out; have := M1.out; have := M2.out; have := M3.out; have := LWW.out; have := LVW.out; have := M4.out; have := M5.out; have := M6.out; have := M7.out; have := M8.out; have := M9.out; have := M10.out; have := M11.out; have := M12.out; have := M13.out; have := M14.out; have := M15.out; have := M16.out; have := M17.out; have := M18.out; have := M19.out; have := M20.out; have := M21.out; omega)) _ _ _ _ _ _ _
                · iterate 7 refine Below.setCell ?_ (by exact hl) _
                  exact R21.out
              exact AllReadyH.nil
            exact AllReadyH.nil
          exact AllReadyH.nil
        refine AllReadyH.cons rfl (fun K hK => ?_) ?_
        · go_simp
          have hb := below_a1 w18 (.cells #[.slice none 0 0, .string ⟨#[]⟩, .string ⟨#[]⟩, .int .i64 0, .int .i64 0, .string ⟨#[]⟩, .int .i64 0] 31)
          have N0 := Blk.new w18 31 #[.slice none 0 0, .string ⟨#[]⟩, .string ⟨#[]⟩, .int .i64 0, .int .i64 0, .string ⟨#[]⟩, .int .i64 0]
          obtain ⟨w19, hW⟩ : ∃ W, w18.alloc (.cells #[.slice none 0 0, .string ⟨#[]⟩, .string ⟨#[]⟩, .int .i64 0, .int .i64 0, .string ⟨#[]⟩, .int .i64 0] 31) = W := ⟨_, rfl⟩
          rw [hW] at hb N0 ⊢
          have E19 := Lib.hid (below_then E18.out hb (Nat.le_refl _))
          have M19 : Hid (w18.heap.size ≤ w19.heap.size) := (by (have hx := hb.size; (try simp at hx); show _ ≤ _; omega))
          have Bp019 := Lib.hid ((Bp018.out).below hb)
          have rp019 := Bp019.out.now.cell
          have Bp119 := Lib.hid ((Bp118.out).below hb)
          have rp119 := Bp119.out.now.cell
          have BWbox19 := Lib.hid ((BWbox18.out).below hb)
          have rWbox19 := BWbox19.out.now.cell
          have Bx019 := Lib.hid ((Bx018.out).below hb)
          have rx019 := Bx019.out.now.cell
          have Bx119 := Lib.hid ((Bx118.out).below hb)
          have rx119 := Bx119.out.now.cell
          have BGbox19 := Lib.hid ((BGbox18.out).below hb)
          have rGbox19 := BGbox19.out.now.cell
          have SW19 := Lib.hid ((SW18.out).below hb)
          have SG19 := Lib.hid ((SG18.out).below hb)
          have Su019 := Lib.hid ((Su018.out).below hb)
          have lp019 := Bp019.out.now.lt
          have lp119 := Bp119.out.now.lt
          have lWbox19 := BWbox19.out.now.lt
          have lx019 := Bx019.out.now.lt
          have lx119 := Bx119.out.now.lt
          have lGbox19 := BGbox19.out.now.lt
          have R19 := Lib.hid (below_then R18.out hb (Nat.le_refl _))
          have BN19 := Lib.hid (Kp.ofB N0)
          have rN19 := BN19.out.now.cell
          have LN := Lib.hid R18.out.size
          have LA := Lib.hid BN19.out.now.lt
          clear hb hW N0
          refine hK.out _ _ ⟨Bp019.out.now, Bp119.out.now⟩ (fun _ => ?_)
          clear hK K
          try simp only [Act.put, List.setIfInBounds_toArray, List.set_cons_zero, List.set_cons_succ]
          refine wpAnyH_ready (rs := [3]) (by kernel_rfl) (by simp) ?_
          refine AllReadyH.cons rfl (fun K hK => ?_) ?_
          · go_simp
            refine ((KT1 _ E19.out).out).mono ?_
            rintro _ w20 ⟨us, rfl, HRu1, ho, hb⟩
            have hc := ho.cells
            obtain ⟨Aub0, cub0, rfl, -⟩ := openv_Addr hc
            clear hc
            replace ho := Kp.ofS ho
            have E20 := Lib.hid (below_then E19.out hb (Nat.le_refl _))
            have M20 : Hid (w19.heap.size ≤ w20.heap.size) := (by (have hx := hb.size; (try simp at hx); show _ ≤ _; omega))
            have Bp020 := Lib.hid ((Bp019.out).below hb)
            have rp020 := Bp020.out.now.cell
            have Bp120 := Lib.hid ((Bp119.out).below hb)
            have rp120 := Bp120.out.now.cell
            have BWbox20 := Lib.hid ((BWbox19.out).below hb)
            have rWbox20 := BWbox20.out.now.cell
            have Bx020 := Lib.hid ((Bx019.out).below hb)
            have rx020 := Bx020.out.now.cell
            have Bx120 := Lib.hid ((Bx119.out).below hb)
            have rx120 := Bx120.out.now.cell
            have BGbox20 := Lib.hid ((BGbox19.out).below hb)
            have rGbox20 := BGbox20.out.now.cell
            have BN20 := Lib.hid ((BN19.out).below hb)
            have rN20 := BN20.out.now.cell
            have SW20 := Lib.hid ((SW19.out).below hb)
            have SG20 := Lib.hid ((SG19.out).below hb)
            have Su020 := Lib.hid ((Su019.out).below hb)
            have lp020 := Bp020.out.now.lt
            have lp120 := Bp120.out.now.lt
            have lWbox20 := BWbox20.out.now.lt
            have lx020 := Bx020.out.now.lt
            have lx120 := Bx120.out.now.lt
            have lGbox20 := BGbox20.out.now.lt
            have lN20 := BN20.out.now.lt
            have R20 := Lib.hid (below_then R19.out hb (Nat.le_refl _))
            have Su120 := Lib.hid ho
            clear ho hb
            try go_wp2_with fail
            refine hK.out _ _ ⟨Bp020.out.now, Bp120.out.now⟩ (fun _ => ?_)
            clear hK K
            try simp only [Act.put, List.setIfInBounds_toArray, List.set_cons_zero, List.set_cons_succ]
            refine wpAnyH_ready (rs := [4]) (by kernel_rfl) (by simp) ?_
            refine AllReadyH.cons rfl (fun K hK => ?_) ?_
            · go_simp
              refine (cf.moveOf_impl hX (Su020.out).now.cells (Su120.out).now.cells HRu1.out).mono ?_
              rintro _ w21 ⟨us, rfl, ho, hb⟩
              have hq : Cells _ _ _ shAddrOut_ [.l lW0, .s sW1, .s sW2, .i xW3, .i xW4, .s sW5, .i xW6] us := ho.cells
              obtain ⟨AH0, cH0, rfl, -⟩ := openv_AddrOut hq
              clear hq
              replace ho := Kp.ofC (Cells.monoB (B' := fun x => w20.heap.size ≤ x ∧ x < w21.heap.size) ho.cells (fun b h1 h2 => ⟨h1.1, h2⟩))
              have E21 := Lib.hid (below_then E20.out hb (Nat.le_refl _))
              have M21 : Hid (w20.heap.size ≤ w21.heap.size) := (by (have hx := hb.size; (try simp at hx); show _ ≤ _; omega))
              have Bp021 := Lib.hid ((Bp020.out).below hb)
              have rp021 := Bp021.out.now.cell
              have Bp121 := Lib.hid ((Bp120.out).below hb)
              have rp121 := Bp121.out.now.cell
              have BWbox21 := Lib.hid ((BWbox20.out).below hb)
              have rWbox21 := BWbox21.out.now.cell
              have Bx021 := Lib.hid ((Bx020.out).below hb)
              have rx021 := Bx021.out.now.cell
              have Bx121 := Lib.hid ((Bx120.out).below hb)
              have rx121 := Bx121.out.now.cell
              have BGbox21 := Lib.hid ((BGbox20.out).below hb)
              have rGbox21 := BGbox21.out.now.cell
              have BN21 := Lib.hid ((BN20.out).below hb)
              have rN21 := BN21.out.now.cell
              have SW21 := Lib.hid ((SW20.out).below hb)
              have SG21 := Lib.hid ((SG20.out).below hb)
              have Su021 := Lib.hid ((Su020.out).below hb)
              have Su121 := Lib.hid ((Su120.out).below hb)
              have lp021 := Bp021.out.now.lt
              have lp121 := Bp121.out.now.lt
              have lWbox21 := BWbox21.out.now.lt
              have lx021 := Bx021.out.now.lt
              have lx121 := Bx121.out.now.lt
              have lGbox21 := BGbox21.out.now.lt
              have lN21 := BN21.out.now.lt
              have R21 := Lib.hid (below_then R20.out hb (Nat.le_refl _))
              have SH21 := Lib.hid ho
              clear ho hb
              try go_wp2_with fail
              refine hK.out _ _ ⟨Bp021.out.now, Bp121.out.now⟩ (fun _ => ?_)
              clear hK K
              try simp only [Act.put, List.setIfInBounds_toArray, List.set_cons_zero, List.set_cons_succ]
              refine wpAnyH_ready (rs := [6]) (by kernel_rfl) (by simp) ?_
              refine AllReadyH.cons rfl (fun K hK => ?_) ?_
              · have pN := BN21.out.now.cell
                have fN := BN21.out.now.free
                have lN := BN21.out.now.lt
                go_simp
                refine hK.out _ _ ⟨(far7 Bp021.out.now (by have := LN.out; have := Bp016.out.now.lt; omega) _ _ _ _ _ _ _), (far7 Bp121.out.now (by have := LN.out; have := Bp116.out.now.lt; omega) _ _ _ _ _ _ _)⟩ (fun _ => ?_)
                clear hK K
                try simp only [Act.put, List.setIfInBounds_toArray, List.set_cons_zero, List.set_cons_succ]
                refine wpAnyH_done (by kernel_rfl) ?_ _
                go_wp2_with fail
                go_meet
                have hl := LN.out
                refine ⟨w18.heap.size, _, _, _, _, _, _, _, rfl, hl, blk7 BN21.out.now _ _ _ _ _ _ _, ?_, ?_⟩
                · exact cells_far7 (Cells.monoB (B' := fun x => x ≠ w18.heap.size) SH21.out.now (fun b h1 _ => by have a1 := h1.1; have a2 := h1.2; have := LA.out; have := M1.out; have := M2.out; have := M3.out; have := LWW.out; have := LVW.out; have := M4.out; have := M5.out; have := M6.out; have := M7.out; have := M8.out; have := M9.out; have := M10.out; have := M11.out; have := M12.out; have := M13.out; have := M14.out; have := M15.out; have := M16.out; have := M17.out; have := M18.out; have := M19.out; have := M20.out; have := M21.out; omega)) _ _ _ _ _ _ _
                · iterate 7 refine Below.setCell ?_ (by exact hl) _
                  exact R21.out
              exact AllReadyH.nil
            exact AllReadyH.nil
          exact AllReadyH.nil
        exact AllReadyH.nil
      refine AllReadyH.cons rfl (fun K hK => ?_) ?_
      · go_simp
        have hb := below_a1 w17 (.cells #[.slice none 0 0, .string ⟨#[]⟩, .string ⟨#[]⟩, .int .i64 0, .int .i64 0, .string ⟨#[]⟩, .int .i64 0] 31)
        have N0 := Blk.new w17 31 #[.slice none 0 0, .string ⟨#[]⟩, .string ⟨#[]⟩, .int .i64 0, .int .i64 0, .string ⟨#[]⟩, .int .i64 0]
        obtain ⟨w18, hW⟩ : ∃ W, w17.alloc (.cells #[.slice none 0 0, .string ⟨#[]⟩, .string ⟨#[]⟩, .int .i64 0, .int .i64 0, .string ⟨#[]⟩, .int .i64 0] 31) = W := ⟨_, rfl⟩
        rw [hW] at hb N0 ⊢
        have E18 := Lib.hid (below_then E17.out hb (Nat.le_refl _))
        have M18 : Hid (w17.heap.size ≤ w18.heap.size) := (by (have hx := hb.size; (try simp at hx); show _ ≤ _; omega))
        have Bp018 := Lib.hid ((Bp017.out).below hb)
        have rp018 := Bp018.out.now.cell
        have Bp118 := Lib.hid ((Bp117.out).below hb)
        have rp118 := Bp118.out.now.cell
        have BWbox18 := Lib.hid ((BWbox17.out).below hb)
        have rWbox18 := BWbox18.out.now.cell
        have Bx018 := Lib.hid ((Bx017.out).below hb)
        have rx018 := Bx018.out.now.cell
        have Bx118 := Lib.hid ((Bx117.out).below hb)
        have rx118 := Bx118.out.now.cell
        have BGbox18 := Lib.hid ((BGbox17.out).below hb)
        have rGbox18 := BGbox18.out.now.cell
        have SW18 := Lib.hid ((SW17.out).below hb)
        have SG18 := Lib.hid ((SG17.out).below hb)
        have lp018 := Bp018.out.now.lt
        have lp118 := Bp118.out.now.lt
        have lWbox18 := BWbox18.out.now.lt
        have lx018 := Bx018.out.now.lt
        have lx118 := Bx118.out.now.lt
        have lGbox18 := BGbox18.out.now.lt
        have R18 := Lib.hid (below_then R17.out hb (Nat.le_refl _))
        have BN18 := Lib.hid (Kp.ofB N0)
        have rN18 := BN18.out.now.cell
        have LN := Lib.hid R17.out.size
        have LA := Lib.hid BN18.out.now.lt
        clear hb hW N0
        refine hK.out _ _ ⟨Bp018.out.now, Bp118.out.now⟩ (fun _ => ?_)
        clear hK K
        try simp only [Act.put, List.setIfInBounds_toArray, List.set_cons_zero, List.set_cons_succ]
        refine wpAnyH_ready (rs := [1]) (by kernel_rfl) (by simp) ?_
        refine AllReadyH.cons rfl (fun K hK => ?_) ?_
        · go_simp
          refine ((KT0 _ E18.out).out).mono ?_
          rintro _ w19 ⟨us, rfl, HRu0, ho, hb⟩
          have hc := ho.cells
          obtain ⟨Aua1, cua1, Aua7, cua7, rfl, -⟩ := openv_Move hc
          clear hc
          replace ho := Kp.ofS ho
          have E19 := Lib.hid (below_then E18.out hb (Nat.le_refl _))
          have M19 : Hid (w18.heap.size ≤ w19.heap.size) := (by (have hx := hb.size; (try simp at hx); show _ ≤ _; omega))
          have Bp019 := Lib.hid ((Bp018.out).below hb)
          have rp019 := Bp019.out.now.cell
          have Bp119 := Lib.hid ((Bp118.out).below hb)
          have rp119 := Bp119.out.now.cell
          have BWbox19 := Lib.hid ((BWbox18.out).below hb)
          have rWbox19 := BWbox19.out.now.cell
          have Bx019 := Lib.hid ((Bx018.out).below hb)
          have rx019 := Bx019.out.now.cell
          have Bx119 := Lib.hid ((Bx118.out).below hb)
          have rx119 := Bx119.out.now.cell
          have BGbox19 := Lib.hid ((BGbox18.out).below hb)
          have rGbox19 := BGbox19.out.now.cell
          have BN19 := Lib.hid ((BN18.out).below hb)
          have rN19 := BN19.out.now.cell
          have SW19 := Lib.hid ((SW18.out).below hb)
          have SG19 := Lib.hid ((SG18.out).below hb)
          have lp019 := Bp019.out.now.lt
          have lp119 := Bp119.out.now.lt
          have lWbox19 := BWbox19.out.now.lt
          have lx019 := Bx019.out.now.lt
          have lx119 := Bx119.out.now.lt
          have lGbox19 := BGbox19.out.now.lt
          have lN19 := BN19.out.now.lt
          have R19 := Lib.hid (below_then R18.out hb (Nat.le_refl _))
          have Su019 := Lib.hid ho
          clear ho hb
          try go_wp2_with fail
          refine hK.out _ _ ⟨Bp019.out.now, Bp119.out.now⟩ (fun _ => ?_)
          clear hK K
          try simp only [Act.put, List.setIfInBounds_toArray, List.set_cons_zero, List.set_cons_succ]
          refine wpAnyH_ready (rs := [3]) (by kernel_rfl) (by simp) ?_
          refine AllReadyH.cons rfl (fun K hK => ?_) ?_
          · go_simp
            refine ((KT1 _ E19.out).out).mono ?_
            rintro _ w20 ⟨us, rfl, HRu1, ho, hb⟩
            have hc := ho.cells
            obtain ⟨Aub0, cub0, rfl, -⟩ := openv_Addr hc
            clear hc
            replace ho := Kp.ofS ho
            have E20 := Lib.hid (below_then E19.out hb (Nat.le_refl _))
            have M20 : Hid (w19.heap.size ≤ w20.heap.size) := (by (have hx := hb.size; (try simp at hx); show _ ≤ _; omega))
            have Bp020 := Lib.hid ((Bp019.out).below hb)
            have rp020 := Bp020.out.now.cell
            have Bp120 := Lib.hid ((Bp119.out).below hb)
            have rp120 := Bp120.out.now.cell
            have BWbox20 := Lib.hid ((BWbox19.out).below hb)
            have rWbox20 := BWbox20.out.now.cell
            have Bx020 := Lib.hid ((Bx019.out).below hb)
            have rx020 := Bx020.out.now.cell
            have Bx120 := Lib.hid ((Bx119.out).below hb)
            have rx120 := Bx120.out.now.cell
            have BGbox20 := Lib.hid ((BGbox19.out).below hb)
            have rGbox20 := BGbox20.out.now.cell
            have BN20 := Lib.hid ((BN19.out).below hb)
            have rN20 := BN20.out.now.cell
            have SW20 := Lib.hid ((SW19.out).below hb)
            have SG20 := Lib.hid ((SG19.out).below hb)
            have Su020 := Lib.hid ((Su019.out).below hb)
            have lp020 := Bp020.out.now.lt
            have lp120 := Bp120.out.now.lt
            have lWbox20 := BWbox20.out.now.lt
            have lx020 := Bx020.out.now.lt
            have lx120 := Bx120.out.now.lt
            have lGbox20 := BGbox20.out.now.lt
            have lN20 := BN20.out.now.lt
            have R20 := Lib.hid (below_then R19.out hb (Nat.le_refl _))
            have Su120 := Lib.hid ho
            clear ho hb
            try go_wp2_with fail
            refine hK.out _ _ ⟨Bp020.out.now, Bp120.out.now⟩ (fun _ => ?_)
            clear hK K
            try simp only [Act.put, List.setIfInBounds_toArray, List.set_cons_zero, List.set_cons_succ]
            refine wpAnyH_ready (rs := [4]) (by kernel_rfl) (by simp) ?_
            refine AllReadyH.cons rfl (fun K hK => ?_) ?_
            · go_simp
              refine (cf.moveOf_impl hX (Su020.out).now.cells (Su120.out).now.cells HRu1.out).mono ?_
              rintro _ w21 ⟨us, rfl, ho, hb⟩
              have hq : Cells _ _ _ shAddrOut_ [.l lW0, .s sW1, .s sW2, .i xW3, .i xW4, .s sW5, .i xW6] us := ho.cells
              obtain ⟨AH0, cH0, rfl, -⟩ := openv_AddrOut hq
              clear hq
              replace ho := Kp.ofC (Cells.monoB (B' := fun x => w20.heap.size ≤ x ∧ x < w21.heap.size) ho.cells (fun b h1 h2 => ⟨h1.1, h2⟩))
              have E21 := Lib.hid (below_then E20.out hb (Nat.le_refl _))
              have M21 : Hid (w20.heap.size ≤ w21.heap.size) := (by (have hx := hb.size; (try simp at hx); show _ ≤ _; omega))
              have Bp021 := Lib.hid ((Bp020.out).below hb)
              have rp021 := Bp021.out.now.cell
              have Bp121 := Lib.hid ((Bp120.out).below hb)
              have rp121 := Bp121.out.now.cell
              have BWbox21 := Lib.hid ((BWbox20.out).below hb)
              have rWbox21 := BWbox21.out.now.cell
              have Bx021 := Lib.hid ((Bx020.out).below hb)
              have rx021 := Bx021.out.now.cell
              have Bx121 := Lib.hid ((Bx120.out).below hb)
              have rx121 := Bx121.out.now.cell
              have BGbox21 := Lib.hid ((BGbox20.out).below hb)
              have rGbox21 := BGbox21.out.now.cell
              have BN21 := Lib.hid ((BN20.out).below hb)
              have rN21 := BN21.out.now.cell
              have SW21 := Lib.hid ((SW20.out).below hb)
              have SG21 := Lib.hid ((SG20.out).below hb)
              have Su021 := Lib.hid ((Su020.out).below hb)
              have Su121 := Lib.hid ((Su120.out).below hb)
              have lp021 := Bp021.out.now.lt
              have lp121 := Bp121.out.now.lt
              have lWbox21 := BWbox21.out.now.lt
              have lx021 := Bx021.out.now.lt
              have lx121 := Bx121.out.now.lt
              have lGbox21 := BGbox21.out.now.lt
              have lN21 := BN21.out.now.lt
              have R21 := Lib.hid (below_then R20.out hb (Nat.le_refl _))
              have SH21 := Lib.hid ho
              clear ho hb
              try go_wp2_with fail
              refine hK.out _ _ ⟨Bp021.out.now, Bp121.out.now⟩ (fun _ => ?_)
              clear hK K
              try simp only [Act.put, List.setIfInBounds_toArray, List.set_cons_zero, List.set_cons_succ]
              refine wpAnyH_ready (rs := [6]) (by kernel_rfl) (by simp) ?_
              refine AllReadyH.cons rfl (fun K hK => ?_) ?_
              · have pN := BN21.out.now.cell
                have fN := BN21.out.now.free
                have lN := BN21.out.now.lt
                go_simp
                refine hK.out _ _ ⟨(far7 Bp021.out.now (by have := LN.out; have := Bp016.out.now.lt; omega) _ _ _ _ _ _ _), (far7 Bp121.out.now (by have := LN.out; have := Bp116.out.now.lt; omega) _ _ _ _ _ _ _)⟩ (fun _ => ?_)
                clear hK K
                try simp only [Act.put, List.setIfInBounds_toArray, List.set_cons_zero, List.set_cons_succ]
                refine wpAnyH_done (by kernel_rfl) ?_ _
                go_wp2_with fail
                go_meet
                have hl := LN.out
                refine ⟨w17.heap.size, _, _, _, _, _, _, _, rfl, hl, blk7 BN21.out.now _ _ _ _ _ _ _, ?_, ?_⟩
                · exact cells_far7 (Cells.monoB (B' := fun x => x ≠ w17.heap.size) SH21.out.now (fun b h1 _ => by have a1 := h1.1; have a2 := h1.2; have := LA.out; have := M1.out; have := M2.out; have := M3.out; have := LWW.out; have := LVW.out; have := M4.out; have := M5.out; have := M6.out; have := M7.out; have := M8.out; have := M9.out; have := M10.out; have := M11.out; have := M12.out; have := M13.out; have := M14.out; have := M15.out; have := M16.out; have := M17.out; have := M18.out; have := M19.out; have := M20.out; have := M21.out; omega)) _ _ _ _ _ _ _
                · iterate 7 refine Below.setCell ?_ (by exact hl) _
                  exact R21.out
              exact AllReadyH.nil
            exact AllReadyH.nil
          exact AllReadyH.nil
        exact AllReadyH.nil
      exact AllReadyH.nil
    case rest =>
      obtain ⟨g, v0, v1, v2, v3, v4, v5, v6, rfl, hgl, hN, hC, hb⟩ := hcut
      rename World => w17
      obtain ⟨AH0, cH0, ev, -⟩ := openv_AddrOut hC
      simp only [List.cons.injEq, and_true] at ev
      obtain ⟨rfl, rfl, rfl, rfl, rfl, rfl, rfl⟩ := ev
      have ho := Kp.ofC (Cells.lw hC)
      have E17 := Lib.hid (below_then E16.out hb (Nat.le_refl _))
      have M17 : Hid (w16.heap.size ≤ w17.heap.size) := (by (have hx := hb.size; (try simp at hx); show _ ≤ _; omega))
      have Bp017 := Lib.hid ((Bp016.out).below hb)
      have rp017 := Bp017.out.now.cell
      have Bp117 := Lib.hid ((Bp116.out).below hb)
      have rp117 := Bp117.out.now.cell
      have BWbox17 := Lib.hid ((BWbox16.out).below hb)
      have rWbox17 := BWbox17.out.now.cell
      have Bx017 := Lib.hid ((Bx016.out).below hb)
      have rx017 := Bx017.out.now.cell
      have Bx117 := Lib.hid ((Bx116.out).below hb)
      have rx117 := Bx117.out.now.cell
      have BGbox17 := Lib.hid ((BGbox16.out).below hb)
      have rGbox17 := BGbox17.out.now.cell
      have SW17 := Lib.hid ((SW16.out).below hb)
      have SG17 := Lib.hid ((SG16.out).below hb)
      have lp017 := Bp017.out.now.lt
      have lp117 := Bp117.out.now.lt
      have lWbox17 := BWbox17.out.now.lt
      have lx017 := Bx017.out.now.lt
      have lx117 := Bx117.out.now.lt
      have lGbox17 := BGbox17.out.now.lt
      have SH17 := Lib.hid ho
      have BHbox17 := Lib.hid (Kp.ofB hN)
      have rHbox17 := BHbox17.out.now.cell
      have LWH := Lib.hid hgl
      have LVH := Lib.hid BHbox17.out.now.lt
      have lHbox17 := BHbox17.out.now.lt
      clear ho hb hC hN hgl Bp016 rp016 Bp116 rp116 BWbox16 rWbox16 Bx016 rx016 Bx116 rx116 BGbox16 rGbox16 SW16 SG16 E16 lp016 lp116 lWbox16 lx016 lx116 lGbox16
      go_wp2_with fail
      refine (eqAddrOut_all 1 _ _ _ _ _ _ (SH17.out).now (SW17.out).now).mono ?_
      rintro _ w18 ⟨rfl, hb⟩
      have E18 := Lib.hid (below_then E17.out hb (Nat.le_refl _))
      have M18 : Hid (w17.heap.size ≤ w18.heap.size) := (by (have hx := hb.size; (try simp at hx); show _ ≤ _; omega))
      have Bp018 := Lib.hid ((Bp017.out).below hb)
      have rp018 := Bp018.out.now.cell
      have Bp118 := Lib.hid ((Bp117.out).below hb)
      have rp118 := Bp118.out.now.cell
      have BWbox18 := Lib.hid ((BWbox17.out).below hb)
      have rWbox18 := BWbox18.out.now.cell
      have Bx018 := Lib.hid ((Bx017.out).below hb)
      have rx018 := Bx018.out.now.cell
      have Bx118 := Lib.hid ((Bx117.out).below hb)
      have rx118 := Bx118.out.now.cell
      have BGbox18 := Lib.hid ((BGbox17.out).below hb)
      have rGbox18 := BGbox18.out.now.cell
      have BHbox18 := Lib.hid ((BHbox17.out).below hb)
      have rHbox18 := BHbox18.out.now.cell
      have SW18 := Lib.hid ((SW17.out).below hb)
      have SG18 := Lib.hid ((SG17.out).below hb)
      have SH18 := Lib.hid ((SH17.out).below hb)
      have lp018 := Bp018.out.now.lt
      have lp118 := Bp118.out.now.lt
      have lWbox18 := BWbox18.out.now.lt
      have lx018 := Bx018.out.now.lt
      have lx118 := Bx118.out.now.lt
      have lGbox18 := BGbox18.out.now.lt
      have lHbox18 := BHbox18.out.now.lt
      clear hb Bp017 rp017 Bp117 rp117 BWbox17 rWbox17 Bx017 rx017 Bx117 rx117 BGbox17 rGbox17 BHbox17 rHbox17 SW17 SG17 SH17 E17 lp017 lp117 lWbox17 lx017 lx117 lGbox17 lHbox17
      go_wp2_with fail
      refine (hdAddrOut_all 1 _ _ _ _ _ [.l lW0, .s sW1, .s sW2, .i xW3, .i xW4, .s sW5, .i xW6] _ 1 1 _ HSP.out (SG18.out).now.cells rfl (by omega) ((by (have := cf.move_nv (cf.bM [.i xa0, .l la1, .s sa2, .s sa3, .i xa4, .i xa5, .s sa6, .l la7, .s sa8, .s sa9, .i xa10, .i xa11, .s sa12]) (cf.bA [.l lb0, .s sb1, .s sb2, .i xb3, .i xb4, .s sb5]); rw [hX] at this; omega)))).mono ?_
      rintro _ w19 ⟨y19, rfl, hy19, hb⟩
      have E19 := Lib.hid (below_then E18.out hb (Nat.le_refl _))
      have M19 : Hid (w18.heap.size ≤ w19.heap.size) := (by (have hx := hb.size; (try simp at hx); show _ ≤ _; omega))
      have Bp019 := Lib.hid ((Bp018.out).below hb)
      have rp019 := Bp019.out.now.cell
      have Bp119 := Lib.hid ((Bp118.out).below hb)
      have rp119 := Bp119.out.now.cell
      have BWbox19 := Lib.hid ((BWbox18.out).below hb)
      have rWbox19 := BWbox19.out.now.cell
      have Bx019 := Lib.hid ((Bx018.out).below hb)
      have rx019 := Bx019.out.now.cell
      have Bx119 := Lib.hid ((Bx118.out).below hb)
      have rx119 := Bx119.out.now.cell
      have BGbox19 := Lib.hid ((BGbox18.out).below hb)
      have rGbox19 := BGbox19.out.now.cell
      have BHbox19 := Lib.hid ((BHbox18.out).below hb)
      have rHbox19 := BHbox19.out.now.cell
      have SW19 := Lib.hid ((SW18.out).below hb)
      have SG19 := Lib.hid ((SG18.out).below hb)
      have SH19 := Lib.hid ((SH18.out).below hb)
      have lp019 := Bp019.out.now.lt
      have lp119 := Bp119.out.now.lt
      have lWbox19 := BWbox19.out.now.lt
      have lx019 := Bx019.out.now.lt
      have lx119 := Bx119.out.now.lt
      have lGbox19 := BGbox19.out.now.lt
      have lHbox19 := BHbox19.out.now.lt
      clear hb Bp018 rp018 Bp118 rp118 BWbox18 rWbox18 Bx018 rx018 Bx118 rx118 BGbox18 rGbox18 BHbox18 rHbox18 SW18 SG18 SH18 E18 lp018 lp118 lWbox18 lx018 lx118 lGbox18 lHbox18
      obtain rfl : y19 = y16 := by omega
      clear KT0 KT1
      go_wp2
      go_ret
      exact ⟨rfl, E19.out⟩

set_option maxRecDepth 100000 in
theorem lifted (os : Os) (started : os.Started) (H : Type) (enc : TypeId × Value → H) :
    ReturnsInHanded {} Try.checked os 3 .any (Rows.fnExactMoveOfSpec.pre6 enc Try.prog Try.f3 Rows.fnExactMoveOfRow.domain false) (Rows.fnExactMoveOfSpec.post enc Try.prog Try.f3 false true false false) := by
  refine returnsInHanded_of_change (C := Try.checked) own started (by kernel_rfl) Try.func3
    (ChangeSpec.witness6 (enc := enc) (C := Try.checked) false ⟨#[], #[.agg #[.int .i64 0, .slice none 0 0, .string ByteArray.empty, .string ByteArray.empty, .int .i64 0, .int .i64 0, .string ByteArray.empty, .slice none 0 0, .string ByteArray.empty, .string ByteArray.empty, .int .i64 0, .int .i64 0, .string ByteArray.empty], .agg #[.slice none 0 0, .string ByteArray.empty, .string ByteArray.empty, .int .i64 0, .int .i64 0, .string ByteArray.empty]], []⟩ 8 (by kernel_rfl) (by kernel_rfl) (by kernel_rfl) (by kernel_rfl)) ?_
  intro W base args ds gs before hval0 hW hcnd _
  have hval : ∀ (j : Nat) t v, Try.f3.params[j]? = some t → args[j]? = some v → Value.okWide Try.prog W .any base t v := hval0
  have hW' := hW
  obtain ⟨p, q, hA0, hV, rfl, hfz, hnd⟩ := hW
  have hA : DataW.TrodAll enc Try.prog W 0 (fun _ => true) true Try.f3.params.toList args.toList ds p := hA0
  rw [Try.params3] at hA hval
  obtain ⟨v0, vs0, d0, ds0, p0, q0, hargs, rfl, rfl, h0, r0⟩ := trodAll_cons hA
  obtain ⟨v1, vs1, d1, ds1, p1, q1, rfl, rfl, rfl, h1, r1⟩ := trodAll_cons r0
  obtain ⟨rfl, rfl, rfl⟩ := trodAll_nil r1
  obtain rfl : args = #[v0, v1] := by cases args; simp_all
  obtain ⟨rfl, rfl⟩ := trodVars_none hV
  have k0 := h0
  have lt0 : ∀ x ∈ p0, x.block < W.heap.size := by obtain ⟨m, hm⟩ := k0; exact DataW.trod_lt m _ _ _ hm
  obtain ⟨n0, ds0, vs0, rfl, w0⟩ := un.open_str_ Try.underlying26 (fun _ => un.in_Move) (hval 0 26 v0 rfl rfl) h0
  have k1 := h1
  have lt1 : ∀ x ∈ p1, x.block < W.heap.size := by obtain ⟨m, hm⟩ := k1; exact DataW.trod_lt m _ _ _ hm
  obtain ⟨n1, ds1, vs1, rfl, w1⟩ := un.open_str_ Try.underlying24 (fun _ => un.in_Addr) (hval 1 24 v1 rfl rfl) h1
  clear hA0 hval0
  refine (walk n0 ds0 vs0 n1 ds1 vs1 W w0 w1).mono fun e W' ⟨he, bel⟩ => ?_
  subst he
  exact ⟨_, rfl, _, _, _, [], _, [], hW', trodAll_mk1 (shut_bool Try.underlying4 _), (trodAll_cons_mk (Below.trod laidOut (by kernel_rfl) (of_decide_eq_true (by kernel_rfl)) k0 bel lt0) (trodAll_cons_mk (Below.trod laidOut (by kernel_rfl) (of_decide_eq_true (by kernel_rfl)) k1 bel lt1) trodAll_mk0)), rfl, bel.frame _, fun h => by cases h⟩

theorem over : Rows.fnExactMoveOfRow.holds Try.pinned (OpenSpec.ofChange Rows.fnExactMoveOfSpec) :=
  OpenClaim.holds_of_wide 3 Try.f3 rfl rfl rfl rfl rfl rfl rfl ⟨rfl, rfl, rfl, rfl, rfl⟩ rfl rfl rfl rfl rfl (by kernel_rfl) Try.func3 (by kernel_rfl)
    (of_decide_eq_true (by kernel_rfl)) (by unfold Func.isWrapper; first | (rw [if_pos (by decide +kernel)]; kernel_rfl) | (rw [if_neg (by decide +kernel)]; exact ⟨rfl, rfl⟩))
    (fun os started H enc _ => lifted os started H enc)

/-- the statement -/
theorem proved : Rows.FnExactMoveOfSaid := over
end Go.Proofs.Ytflfnekaiaplfaa.fnExactMoveOf
