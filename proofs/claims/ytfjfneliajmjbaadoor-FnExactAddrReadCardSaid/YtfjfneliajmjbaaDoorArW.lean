/- FnExactAddrRead, walked. -/
import Derived.Test.YtfjfneliajmjbaaDoorArL
import Derived.Deep.RegionWith
namespace Go.Proofs.YtfjfneliajmjbaaDoor.arl
open ad mem dig own
open Go.ChangeShapes Go.WideShapes Go.ChangeAt Go.RowKit Go.Lib
set_option linter.unusedVariables false
set_option linter.unusedSimpArgs false

set_option maxHeartbeats 4000000 in
set_option maxRecDepth 100000 in
theorem law_walk (a0 : ByteArray) (w : World) (hL : Met3 w) : Calls Tryd.prog 3 #[.string a0] w fun e w' => e = .returned (.bool true) ∧ Below w.heap.size w w' := by
  by_cases h20 : (1048576 : Int) < a0.size
  · clear hL
    go_enter Tryd.func3, Tryd.ntmps3
    go_wp2
    go_ret
    exact ⟨rfl, Below.refl _ _⟩
  · have hs : a0.size ≤ 1000000000 := by omega
    have hs2 : (a0.size : Int) ≤ 1048576 := by omega
    have HS0 := Lib.hid hL
    obtain ⟨hpb, hsz0⟩ := ans_small a0
    have HSZ := Lib.hid hsz0
    have KS := fun (W : World) => Lib.hid (ars.read_spec a0 W hs)
    have KI := fun (W : World) (h : Met3 W) => Lib.hid (ari.read_impl a0 W hs h.errs h.mx)
    generalize (rda.ansA a0).1 = v at *
    generalize (rda.ansA a0).2 = cd at *
    clear hL h20 hsz0
    go_enter Tryd.func3, Tryd.ntmps3
    go_wp2_with fail
    refine ((KS _).out).mono ?_
    rintro _ w1 ⟨Aw, cw, rfl, ho, hb⟩
    have E1 := Lib.hid (below_then (Below.refl _ _) hb (Nat.le_refl _))
    have M1 : Hid (w.heap.size ≤ w1.heap.size) := (by (have hx := hb.size; (try simp at hx); show _ ≤ _; omega))
    clear hb
    have Ow1 := Lib.hid ho
    have Kw : Hid (∀ k, (Value.slice Aw v.path.length cw).ownBlock = some k → w.heap.size ≤ k ∧ k < w1.heap.size) := by (intro k hk; have hx := ho.row k hk; (try simp at hx); omega)
    have Sw1 := Lib.hid (Own.strs ho HSZ.out)
    clear ho
    go_wp2_with fail
    refine ((KI _ (HS0.out.below (below_da E1.out (Nat.le_refl _) _))).out).mono ?_
    rintro _ w2 ⟨Ag, cg, rfl, ho, hb⟩
    have E2 := Lib.hid (below_then (below_da E1.out (Nat.le_refl _) _) hb (Nat.le_refl _))
    have M2 : Hid (w1.heap.size + 1 ≤ w2.heap.size) := (by (have hx := hb.size; (try simp at hx); show _ ≤ _; omega))
    have Bwbox2 := Lib.hid ((Blk.new w1 _ _).step hb)
    have rwbox2 := Bwbox2.out.cell
    have bwbox2 := Bwbox2.out.lt
    have Sw2 := Lib.hid ((Sw1.out.alloc _).below hb)
    have Ow2 := Lib.hid ((Ow1.out.alloc _).step hb)
    clear hb Sw1 E1 Ow1
    have Og2 := Lib.hid ho
    have Kg : Hid (∀ k, (Value.slice Ag v.path.length cg).ownBlock = some k → w1.heap.size + 1 ≤ k ∧ k < w2.heap.size) := by (intro k hk; have hx := ho.row k hk; (try simp at hx); omega)
    have Sg2 := Lib.hid (Own.strs ho HSZ.out)
    clear ho
    go_wp2_with fail
    refine (eq_out _ _ _ _ v cd _ (Sg2.out.alloc _) (Sw2.out.alloc _) hpb).mono ?_
    rintro _ w3 ⟨rfl, hb⟩
    have E3 := Lib.hid (below_then (below_da E2.out (Nat.le_refl _) _) hb (Nat.le_refl _))
    have M3 : Hid (w2.heap.size + 1 ≤ w3.heap.size) := (by (have hx := hb.size; (try simp at hx); show _ ≤ _; omega))
    have Bwbox3 := Lib.hid ((Bwbox2.out.alloc _).step hb)
    have rwbox3 := Bwbox3.out.cell
    have bwbox3 := Bwbox3.out.lt
    have Bgbox3 := Lib.hid ((Blk.new w2 _ _).step hb)
    have rgbox3 := Bgbox3.out.cell
    have bgbox3 := Bgbox3.out.lt
    have Sw3 := Lib.hid ((Sw2.out.alloc _).below hb)
    have Sg3 := Lib.hid ((Sg2.out.alloc _).below hb)
    have Ow3 := Lib.hid ((Ow2.out.alloc _).step hb)
    have Og3 := Lib.hid ((Og2.out.alloc _).step hb)
    clear hb Bwbox2 rwbox2 bwbox2 Sw2 Sg2 E2 Ow2 Og2
    go_wp2_with fail
    refine (mark_out _ _ _ v cd 1 1 _ Og3.out rfl hpb (by omega) (by omega)).mono ?_
    rintro _ w4 ⟨rfl, ho, hg⟩
    have M4 : Hid (w3.heap.size ≤ w4.heap.size) := hg.size
    have E4 := Lib.hid (Below.grown E3.out hg (by have := M1.out; have := M2.out; have := M3.out; first | omega | exact Nat.le_refl _) (fun k e => by have := M1.out; have := M2.out; have := M3.out; have hy := Kg.out _ e; omega))
    have Bwbox4 := Lib.hid (blk_grown Bwbox3.out hg (fun e => by have := M1.out; have := M2.out; have := M3.out; have hy := Kg.out _ e; omega))
    have rwbox4 := Bwbox4.out.cell
    have bwbox4 := Bwbox4.out.lt
    have Bgbox4 := Lib.hid (blk_grown Bgbox3.out hg (fun e => by have := M1.out; have := M2.out; have := M3.out; have hy := Kg.out _ e; omega))
    have rgbox4 := Bgbox4.out.cell
    have bgbox4 := Bgbox4.out.lt
    have Sw4 := Lib.hid (strs_grown Sw3.out hg (fun b o eA e => by have := M1.out; have := M2.out; have := M3.out; have hy := Kg.out _ e; have hx := Kw.out b (by rw [eA]; rfl); omega))
    have Ow4 := Lib.hid (Own.kept Ow3.out hg (fun k hk e => by have := M1.out; have := M2.out; have := M3.out; have hy := Kg.out _ e; have hx := Kw.out k hk; omega))
    have Sg4 := Lib.hid (Own.marks_strs ho (by omega))
    clear ho hg E3 Bwbox3 rwbox3 bwbox3 Bgbox3 rgbox3 bgbox3 Sw3 Sg3 Ow3 Og3
    go_wp2_with fail
    refine (held_out _ _ _ _ _ _ _ _ _ 1 1 _ (Sg4.out) rfl hpb (by omega) (by omega)).mono ?_
    rintro _ w5 ⟨rfl, hb⟩
    have E5 := Lib.hid (below_then E4.out hb (Nat.le_refl _))
    have M5 : Hid (w4.heap.size ≤ w5.heap.size) := (by (have hx := hb.size; (try simp at hx); show _ ≤ _; omega))
    have Bwbox5 := Lib.hid ((Bwbox4.out).step hb)
    have rwbox5 := Bwbox5.out.cell
    have bwbox5 := Bwbox5.out.lt
    have Bgbox5 := Lib.hid ((Bgbox4.out).step hb)
    have rgbox5 := Bgbox5.out.cell
    have bgbox5 := Bgbox5.out.lt
    have Sw5 := Lib.hid ((Sw4.out).below hb)
    have Sg5 := Lib.hid ((Sg4.out).below hb)
    have Ow5 := Lib.hid ((Ow4.out).step hb)
    clear hb Bwbox4 rwbox4 bwbox4 Bgbox4 rgbox4 bgbox4 Sw4 Sg4 E4 Ow4
    go_wp2_with fail
    refine ((KI _ (HS0.out.below E5.out)).out).mono ?_
    rintro _ w6 ⟨Ah, ch, rfl, ho, hb⟩
    have E6 := Lib.hid (below_then E5.out hb (Nat.le_refl _))
    have M6 : Hid (w5.heap.size ≤ w6.heap.size) := (by (have hx := hb.size; (try simp at hx); show _ ≤ _; omega))
    have Bwbox6 := Lib.hid ((Bwbox5.out).step hb)
    have rwbox6 := Bwbox6.out.cell
    have bwbox6 := Bwbox6.out.lt
    have Bgbox6 := Lib.hid ((Bgbox5.out).step hb)
    have rgbox6 := Bgbox6.out.cell
    have bgbox6 := Bgbox6.out.lt
    have Sw6 := Lib.hid ((Sw5.out).below hb)
    have Sg6 := Lib.hid ((Sg5.out).below hb)
    have Ow6 := Lib.hid ((Ow5.out).step hb)
    clear hb Bwbox5 rwbox5 bwbox5 Bgbox5 rgbox5 bgbox5 Sw5 Sg5 E5 Ow5
    have Oh6 := Lib.hid ho
    have Kh : Hid (∀ k, (Value.slice Ah v.path.length ch).ownBlock = some k → w5.heap.size ≤ k ∧ k < w6.heap.size) := by (intro k hk; have hx := ho.row k hk; (try simp at hx); omega)
    have Sh6 := Lib.hid (Own.strs ho HSZ.out)
    clear ho
    go_wp2_with fail
    refine (eq_out _ _ _ _ v cd _ (Sh6.out.alloc _) (Sw6.out.alloc _) hpb).mono ?_
    rintro _ w7 ⟨rfl, hb⟩
    have E7 := Lib.hid (below_then (below_da E6.out (Nat.le_refl _) _) hb (Nat.le_refl _))
    have M7 : Hid (w6.heap.size + 1 ≤ w7.heap.size) := (by (have hx := hb.size; (try simp at hx); show _ ≤ _; omega))
    have Bwbox7 := Lib.hid ((Bwbox6.out.alloc _).step hb)
    have rwbox7 := Bwbox7.out.cell
    have bwbox7 := Bwbox7.out.lt
    have Bgbox7 := Lib.hid ((Bgbox6.out.alloc _).step hb)
    have rgbox7 := Bgbox7.out.cell
    have bgbox7 := Bgbox7.out.lt
    have Bhbox7 := Lib.hid ((Blk.new w6 _ _).step hb)
    have rhbox7 := Bhbox7.out.cell
    have bhbox7 := Bhbox7.out.lt
    have Sw7 := Lib.hid ((Sw6.out.alloc _).below hb)
    have Sg7 := Lib.hid ((Sg6.out.alloc _).below hb)
    have Sh7 := Lib.hid ((Sh6.out.alloc _).below hb)
    have Ow7 := Lib.hid ((Ow6.out.alloc _).step hb)
    have Oh7 := Lib.hid ((Oh6.out.alloc _).step hb)
    clear hb Bwbox6 rwbox6 bwbox6 Bgbox6 rgbox6 bgbox6 Sw6 Sg6 Sh6 E6 Ow6 Oh6
    go_wp2_with fail
    refine (held_out _ _ _ _ _ _ _ _ _ 1 1 _ (Sg7.out) rfl hpb (by omega) (by omega)).mono ?_
    rintro _ w8 ⟨rfl, hb⟩
    have E8 := Lib.hid (below_then E7.out hb (Nat.le_refl _))
    have M8 : Hid (w7.heap.size ≤ w8.heap.size) := (by (have hx := hb.size; (try simp at hx); show _ ≤ _; omega))
    have Bwbox8 := Lib.hid ((Bwbox7.out).step hb)
    have rwbox8 := Bwbox8.out.cell
    have bwbox8 := Bwbox8.out.lt
    have Bgbox8 := Lib.hid ((Bgbox7.out).step hb)
    have rgbox8 := Bgbox8.out.cell
    have bgbox8 := Bgbox8.out.lt
    have Bhbox8 := Lib.hid ((Bhbox7.out).step hb)
    have rhbox8 := Bhbox8.out.cell
    have bhbox8 := Bhbox8.out.lt
    have Sw8 := Lib.hid ((Sw7.out).below hb)
    have Sg8 := Lib.hid ((Sg7.out).below hb)
    have Sh8 := Lib.hid ((Sh7.out).below hb)
    have Ow8 := Lib.hid ((Ow7.out).step hb)
    have Oh8 := Lib.hid ((Oh7.out).step hb)
    clear hb Bwbox7 rwbox7 bwbox7 Bgbox7 rgbox7 bgbox7 Bhbox7 rhbox7 bhbox7 Sw7 Sg7 Sh7 E7 Ow7 Oh7
    go_wp2
    go_ret
    exact ⟨rfl, E8.out⟩
end Go.Proofs.YtfjfneliajmjbaaDoor.arl
