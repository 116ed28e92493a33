/- bookOf of the program. -/
import Derived.Test.YtflfnekaiaplfaaGreatItC
namespace Go.Proofs.YtflfnekaiaplfaaGreat.cf
open ad mem vl ex un cm Go.Shelf
open Go.ChangeShapes Go.WideShapes Go.ChangeAt Go.RowKit Go.Lib
set_option linter.unusedVariables false
set_option maxRecDepth 8000
set_option linter.unusedSimpArgs false


attribute [local go_sem] Oper.semAt_some
theorem inf_thing : Inf Tryz.prog 32 41 (sh 8).length := by
  obtain ⟨i, h1, h2, h3, h4⟩ := info_parts (show (Tryz.prog.info? 41).map (fun i => (i.zero, i.size, i.bytes)) = some (some (.agg #[.slice none 0 0, .string ByteArray.empty, .string ByteArray.empty, .int .i64 0, .int .i64 0, .string ByteArray.empty, .slice none 0 0, .slice none 0 0]), 8, 136) by kernel_rfl)
  exact ⟨Tryz.underlying32, i, _, _, h1, h2, h3, h4, rfl, by decide, by decide⟩
theorem box_below' {W W' : World} {b : Nat} {t : TypeId} {v : Value} (h : Boxed W b t v) (hb : Below W.heap.size W W') : Boxed W' b t v := (hb.block b h.lt).trans h
set_option maxRecDepth 100000 in
set_option maxHeartbeats 600000 in
theorem bookOf_impl {B : Nat → Prop} {n : Nat} {wT : World} {w : World} (Bn g cap : Nat) {ob : Obj} (ps : List (List (it.Th B n wT (fun d => thB d = true)))) (hL : it.Parts g ob ps) (hb : Below wT.heap.size wT w) (hBn : w.cell? ⟨Bn, 0, none⟩ = some (.slice (some ⟨g, 0, none⟩) ps.length cap)) (hBl : Bn < w.heap.size) (hg : w.heap[g]? = some ob) (hlen : ps.flatten.length ≤ 1000000) {X : List (List DC)} (hX : (ps.flatten.map fun x => x.1.1) = X) :
    Calls Tryz.prog 31 #[.func (.func 60) #[] #[.pointer (some ⟨Bn, 0, none⟩)]] w (un.NewC 3 (.l 8) (.l X) w) := by
  refine (callsIn_wide (n := 9)).1 ?_
  refine callsIn_of_wp_marks Tryz.func31 rfl trivial ?_ rfl
  simp only [Tryz.ntmps31, List.size_toArray, List.length_cons, List.length_nil, Nat.reduceAdd, Nat.reduceSub, Array.replicate_succ, Array.replicate_zero, List.push_toArray, List.append_toArray, List.nil_append, List.cons_append]
  have hgl : g < w.heap.size := (Array.getElem?_eq_some_iff.1 hg).1
  have HLEN := Lib.hid hlen
  have HXX := Lib.hid hX
  have HB0 := Lib.hid hb
  have HL := Lib.hid hL
  have B3 : Below wT.heap.size wT (w.alloc (.cells #[.slice none 0 0] 32)) := hb.alloc hb.size _
  have bL := Boxed.new w 32 (.slice none 0 0)
  have bN : (w.alloc (.cells #[.slice none 0 0] 32)).cell? ⟨Bn, 0, none⟩ = some (.slice (some ⟨g, 0, none⟩) ps.length cap) := ((below_a1 w _).cell (p := ⟨Bn, 0, none⟩) hBl).trans hBn
  have bG : (w.alloc (.cells #[.slice none 0 0] 32)).heap[g]? = some ob := ((below_a1 w _).block g hgl).trans hg
  have bE := below_a1 w (.cells #[.slice none 0 0] 32)
  clear hBn hg hL hlen hX
  gi_wp2
  obtain ⟨W3, hW3⟩ : ∃ W3, w.alloc (.cells #[.slice none 0 0] 32) = W3 := ⟨_, rfl⟩
  have hsz : w.heap.size < W3.heap.size := by rw [← hW3]; simp
  have hs0 := hb.size
  have hle3 : wT.heap.size ≤ W3.heap.size := by omega
  have hlg3 : g < W3.heap.size := by omega
  rw [hW3] at B3 bL bG bN bE ⊢
  clear hW3 hb
  have HBE := Lib.hid bE
  clear bE
  have HS : SeqStopsK Fence.wide 8 Tryz.prog 60 #[.pointer (some ⟨Bn, 0, none⟩)] (fun x : (it.Th B n wT (fun d => thB d = true)) => #[.agg x.1.2.toArray]) (it.Kp wT.heap.size g) (fun ys => ys = ps.flatten) (fun pre => pre <+: ps.flatten) ps.flatten.length W3 :=
    it.things_stops 8 (by omega) Bn g cap ps HL.out B3 bN (by omega) bG
  have HO := own_bag (α := (it.Th B n wT (fun d => thB d = true))) (n := 2) (w1 := w) (t := 32) (T := 41) (e := 8) (fun x => x.1.1) W3.heap.size w.heap.size W3.heap.size (by omega)
  have HE := enters_of (P := Tryz.prog) Tryz.func60 (by kernel_rfl) rfl
  have HK : ∀ (W : World) (l : Nat) (o o' : Obj), W3.heap.size ≤ l → W.heap[l]? = some o → o.isCells = false → o.isWalk = false → it.Kp wT.heap.size g W (W.putObj l o') := it.kp_b hle3 hlg3
  obtain ⟨IV, hIV⟩ : ∃ IV, IV = (fun (pre : List (it.Th B n wT (fun d => thB d = true))) W => ((∃ v, Boxed W w.heap.size 32 v ∧ Bag 2 W W3.heap.size 41 8 v (pre.map fun x => x.1.1)) ∧ Below w.heap.size w W) ∧ W3.heap.size ≤ W.heap.size) := ⟨_, rfl⟩
  rw [← hIV] at HO
  have H0' : IV [] W3 := by rw [hIV]; exact ⟨⟨⟨_, bL, Bag.nil _ _ _ _ _⟩, HBE.out⟩, Nat.le_refl _⟩
  clear bL bG bN
  refine wpIn_rangeFunc_ownH (F := Fence.wide) (n := 9) rfl (by omega) rfl trivial HE HS it.kp_t HK (Below.refl _ _) (fun _ => rfl) IV (fun _ _ _ => False) HO (fun _ _ _ _ _ hs _ _ => hs) H0'
    (fun (x : (it.Th B n wT (fun d => thB d = true))) a' W => ∃ Bx, Blk W Bx 41 x.1.2.toArray ∧ W3.heap.size ≤ Bx ∧ a' = { tmps := #[.func (.func 60) #[] #[.pointer (some ⟨Bn, 0, none⟩)], undef, .slice none 0 0, .pointer (some ⟨w.heap.size, 0, none⟩), .pointer (some ⟨Bx, 0, none⟩), .func (.func 60) #[] #[.pointer (some ⟨Bn, 0, none⟩)], .agg x.1.2.toArray, undef, undef, undef, undef, undef, undef], defers := [] })
    ?hAx ?assign ?body ?done ?stop
  case hAx =>
    rintro x a' s X Y row ⟨Bx, hx, hBx, e⟩ hg hr
    exact ⟨Bx, blk_own hx hg (fun k e => (hr k e).2), hBx, e⟩
  case assign =>
    intro l pre x W K hi hK
    obtain ⟨⟨ds, vs⟩, hcx⟩ := x
    obtain ⟨lq0, sq1, sq2, xq3, xq4, sq5, lq6, lq7, Aq0, cq0, Aq6, cq6, Aq7, cq7, rfl, rfl, -⟩ := open_Thing hcx.1
    dsimp only
    gi_wp2
    have hi2 := hi
    rw [hIV] at hi2
    obtain ⟨⟨_, hB⟩, hW⟩ := hi2
    exact hK _ _ ((KeepsOthers.alloc _ _).from _) ⟨(Below.refl _ _).alloc (by omega) _, (below_a1 W _).block _ (Nat.lt_of_lt_of_le hlg3 hW)⟩ (HO.alloc _ hi) ⟨W.heap.size, Blk.new _ _ _, hW, rfl⟩
  case body =>
    rw [hIV]
    rintro l pre x a' W hl hr ⟨⟨⟨v, hv, hrow⟩, hB⟩, hW⟩ ⟨Bx, hx, hBx, rfl⟩ hlen
    have hmx : Tryz.prog.follows .mixedOrders = true := by kernel_rfl
    obtain ⟨lq0, sq1, sq2, xq3, xq4, sq5, lq6, lq7, Aq0, cq0, Aq6, cq6, Aq7, cq7, e1, e2, -⟩ := open_Thing x.2.1
    have HG : Hid (thB [.l lq0, .s sq1, .s sq2, .i xq3, .i xq4, .s sq5, .l lq6, .l lq7] = true) := by have := x.2.2; rw [e1] at this; exact this
    have HC : Hid (Gd (fun w => Cells B n w shThing_ [.l lq0, .s sq1, .s sq2, .i xq3, .i xq4, .s sq5, .l lq6, .l lq7] [.slice Aq0 lq0.length cq0, .string sq1, .string sq2, .int .i64 xq3, .int .i64 xq4, .string sq5, .slice Aq6 lq6.length cq6, .slice Aq7 lq7.length cq7]) wT) := by have := Gd.ofC x.2.1; rw [e1, e2] at this; exact this
    have HE1 := Lib.hid e1
    have KT : ∀ (W' : World), Below wT.heap.size wT W' → Hid _ := fun W' h => Lib.hid (copyThing_impl HG.out (HC.out.below h).now)
    rw [e2] at hx ⊢
    have hc := hv.cell
    have hf := hv.frozen
    have hxc := hx.cell
    clear e1
    gi_wp2
    have HRow := Lib.hid hrow
    have HPL : Hid (pre.length ≤ 1000000) := by have := HLEN.out; show _ ≤ _; omega
    clear hrow
    have D1 : Below wT.heap.size wT W.drew := (below_then HB0.out hB (Nat.le_refl _)).drew
    have D2 : Below W.heap.size W W.drew := (Below.refl _ _).drew
    refine wpIn_region_any (by assumption) ?_
    try (change wpAnyIn _ _ _ _ _ _ _ _ _ (World.drew _))
    refine wpAnyIn_ready (rs := [0, 1]) (by kernel_rfl) (by simp) ?_
    refine AllReadyIn.cons rfl (fun K hK => ?_) ?_
    · go_simp
      refine hK _ _ ?_; clear hK K
      refine wpAnyIn_ready (rs := [1]) (by kernel_rfl) (by simp) ?_
      refine AllReadyIn.cons rfl (fun K hK => ?_) ?_
      · go_simp
        refine hK _ _ ?_; clear hK K
        refine wpAnyIn_ready (rs := [2]) (by kernel_rfl) (by simp) ?_
        refine AllReadyIn.cons rfl (fun K hK => ?_) ?_
        · go_simp
          refine ⟨trivial, ?_⟩
          refine (CallsIn.inRound l (callsIn_wide.2 (KT _ D1).out)).mono ?_
          rintro _ w5 ⟨A1, c1, A6, c6, A7, c7, rfl, ho5, hb5⟩
          have bb5 : Below W.heap.size W w5 := below_then D2 hb5 (Nat.le_refl _)
          have bx5 := box_below' hv bb5
          have hc5 := bx5.cell
          have hcA := (bx5.alloc (.cells #[.slice A1 lq0.length c1, .string sq1, .string sq2, .int .i64 xq3, .int .i64 xq4, .string sq5, .slice A6 lq6.length c6, .slice A7 lq7.length c7] 41)).cell
          have HO5 := Lib.hid ho5
          have HB5 := Lib.hid bb5
          have hs5 := bb5.size
          clear ho5 hb5
          refine hK _ _ ?_; clear hK K
          refine wpAnyIn_ready (rs := [3]) (by kernel_rfl) (by simp) ?_
          refine AllReadyIn.cons rfl (fun K hK => ?_) ?_
          · go_simp
            refine hK _ _ ?_; clear hK K
            refine wpAnyIn_ready (rs := [4]) (by kernel_rfl) (by simp) ?_
            refine AllReadyIn.cons rfl (fun K hK => ?_) ?_
            · refine stepIn_bag1 rfl inf_thing (.tmp 7) (.tmp 10) rfl (w := W) (w1 := w5) (base := W3.heap.size) (v := v) (c := 1) (F2 := Rg W.heap.size w5.heap.size) (us := [.slice A1 lq0.length c1, .string sq1, .string sq2, .int .i64 xq3, .int .i64 xq4, .string sq5, .slice A6 lq6.length c6, .slice A7 lq7.length c7]) (ds := [.l lq0, .s sq1, .s sq2, .i xq3, .i xq4, .s sq5, .l lq6, .l lq7]) rfl HRow.out HB5.out hW rfl (HO5.out.monoF (fun y hy => ⟨by have := hy.1; simpa using this, hy.2⟩)) (fun x hx => hx) (by simpa using HPL.out) ?_
              intro v' w6 hown6 hg6
              obtain ⟨A8, c8, rfl⟩ : ∃ A c, v' = .slice A (pre.length + 1) c := by
                obtain ⟨A, c, h, -⟩ := hown6.form
                exact ⟨A, c, by rw [h, List.length_append, List.length_map]; rfl⟩
              have bx6 := ((bx5.alloc _).kept hg6 (fun e' => bag_boxed (HRow.out.below HB5.out) bx5 (by omega) e'.symm))
              have hc6 := bx6.cell
              have hf6 := bx6.frozen
              refine hK _ _ ?_; clear hK K
              refine wpAnyIn_ready (rs := [5]) (by kernel_rfl) (by simp) ?_
              refine AllReadyIn.cons rfl (fun K hK => ?_) ?_
              · go_simp
                refine hK _ _ ?_; clear hK K
                refine wpAnyIn_done (by kernel_rfl) ?_ _
                gi_wp2
                obtain ⟨q1, q2, q3, q4, q5⟩ := collectB (C := W3.heap.size) (N := w.heap.size) (g := g) bx5 bb5 (HRow.out.below HB5.out) (Nat.le_refl _) (by omega) hlg3 (by omega) hW hown6 hg6 W3.heap.size
                exact ⟨q1, ⟨q2.1.mono hs0, q2.2⟩, ⟨⟨_, q3, by rw [List.map_append, List.map_singleton, HE1.out]; exact q4⟩, hB.trans q2.1⟩, Nat.le_trans hW q5⟩
              exact AllReadyIn.nil
            exact AllReadyIn.nil
          exact AllReadyIn.nil
        exact AllReadyIn.nil
      exact AllReadyIn.nil
    refine AllReadyIn.cons rfl (fun K hK => ?_) ?_
    · go_simp
      refine hK _ _ ?_; clear hK K
      refine wpAnyIn_ready (rs := [0, 2]) (by kernel_rfl) (by simp) ?_
      refine AllReadyIn.cons rfl (fun K hK => ?_) ?_
      · go_simp
        refine hK _ _ ?_; clear hK K
        refine wpAnyIn_ready (rs := [2]) (by kernel_rfl) (by simp) ?_
        refine AllReadyIn.cons rfl (fun K hK => ?_) ?_
        · go_simp
          refine ⟨trivial, ?_⟩
          refine (CallsIn.inRound l (callsIn_wide.2 (KT _ D1).out)).mono ?_
          rintro _ w5 ⟨A1, c1, A6, c6, A7, c7, rfl, ho5, hb5⟩
          have bb5 : Below W.heap.size W w5 := below_then D2 hb5 (Nat.le_refl _)
          have bx5 := box_below' hv bb5
          have hc5 := bx5.cell
          have hcA := (bx5.alloc (.cells #[.slice A1 lq0.length c1, .string sq1, .string sq2, .int .i64 xq3, .int .i64 xq4, .string sq5, .slice A6 lq6.length c6, .slice A7 lq7.length c7] 41)).cell
          have HO5 := Lib.hid ho5
          have HB5 := Lib.hid bb5
          have hs5 := bb5.size
          clear ho5 hb5
          refine hK _ _ ?_; clear hK K
          refine wpAnyIn_ready (rs := [3]) (by kernel_rfl) (by simp) ?_
          refine AllReadyIn.cons rfl (fun K hK => ?_) ?_
          · go_simp
            refine hK _ _ ?_; clear hK K
            refine wpAnyIn_ready (rs := [4]) (by kernel_rfl) (by simp) ?_
            refine AllReadyIn.cons rfl (fun K hK => ?_) ?_
            · refine stepIn_bag1 rfl inf_thing (.tmp 7) (.tmp 10) rfl (w := W) (w1 := w5) (base := W3.heap.size) (v := v) (c := 1) (F2 := Rg W.heap.size w5.heap.size) (us := [.slice A1 lq0.length c1, .string sq1, .string sq2, .int .i64 xq3, .int .i64 xq4, .string sq5, .slice A6 lq6.length c6, .slice A7 lq7.length c7]) (ds := [.l lq0, .s sq1, .s sq2, .i xq3, .i xq4, .s sq5, .l lq6, .l lq7]) rfl HRow.out HB5.out hW rfl (HO5.out.monoF (fun y hy => ⟨by have := hy.1; simpa using this, hy.2⟩)) (fun x hx => hx) (by simpa using HPL.out) ?_
              intro v' w6 hown6 hg6
              obtain ⟨A8, c8, rfl⟩ : ∃ A c, v' = .slice A (pre.length + 1) c := by
                obtain ⟨A, c, h, -⟩ := hown6.form
                exact ⟨A, c, by rw [h, List.length_append, List.length_map]; rfl⟩
              have bx6 := ((bx5.alloc _).kept hg6 (fun e' => bag_boxed (HRow.out.below HB5.out) bx5 (by omega) e'.symm))
              have hc6 := bx6.cell
              have hf6 := bx6.frozen
              refine hK _ _ ?_; clear hK K
              refine wpAnyIn_ready (rs := [5]) (by kernel_rfl) (by simp) ?_
              refine AllReadyIn.cons rfl (fun K hK => ?_) ?_
              · go_simp
                refine hK _ _ ?_; clear hK K
                refine wpAnyIn_done (by kernel_rfl) ?_ _
                gi_wp2
                obtain ⟨q1, q2, q3, q4, q5⟩ := collectB (C := W3.heap.size) (N := w.heap.size) (g := g) bx5 bb5 (HRow.out.below HB5.out) (Nat.le_refl _) (by omega) hlg3 (by omega) hW hown6 hg6 W3.heap.size
                exact ⟨q1, ⟨q2.1.mono hs0, q2.2⟩, ⟨⟨_, q3, by rw [List.map_append, List.map_singleton, HE1.out]; exact q4⟩, hB.trans q2.1⟩, Nat.le_trans hW q5⟩
              exact AllReadyIn.nil
            exact AllReadyIn.nil
          exact AllReadyIn.nil
        exact AllReadyIn.nil
      refine AllReadyIn.cons rfl (fun K hK => ?_) ?_
      · go_simp
        refine ⟨trivial, ?_⟩
        refine (CallsIn.inRound l (callsIn_wide.2 (KT _ D1).out)).mono ?_
        rintro _ w5 ⟨A1, c1, A6, c6, A7, c7, rfl, ho5, hb5⟩
        have bb5 : Below W.heap.size W w5 := below_then D2 hb5 (Nat.le_refl _)
        have bx5 := box_below' hv bb5
        have hc5 := bx5.cell
        have hcA := (bx5.alloc (.cells #[.slice A1 lq0.length c1, .string sq1, .string sq2, .int .i64 xq3, .int .i64 xq4, .string sq5, .slice A6 lq6.length c6, .slice A7 lq7.length c7] 41)).cell
        have HO5 := Lib.hid ho5
        have HB5 := Lib.hid bb5
        have hs5 := bb5.size
        clear ho5 hb5
        refine hK _ _ ?_; clear hK K
        refine wpAnyIn_ready (rs := [0, 3]) (by kernel_rfl) (by simp) ?_
        refine AllReadyIn.cons rfl (fun K hK => ?_) ?_
        · go_simp
          refine hK _ _ ?_; clear hK K
          refine wpAnyIn_ready (rs := [3]) (by kernel_rfl) (by simp) ?_
          refine AllReadyIn.cons rfl (fun K hK => ?_) ?_
          · go_simp
            refine hK _ _ ?_; clear hK K
            refine wpAnyIn_ready (rs := [4]) (by kernel_rfl) (by simp) ?_
            refine AllReadyIn.cons rfl (fun K hK => ?_) ?_
            · refine stepIn_bag1 rfl inf_thing (.tmp 7) (.tmp 10) rfl (w := W) (w1 := w5) (base := W3.heap.size) (v := v) (c := 1) (F2 := Rg W.heap.size w5.heap.size) (us := [.slice A1 lq0.length c1, .string sq1, .string sq2, .int .i64 xq3, .int .i64 xq4, .string sq5, .slice A6 lq6.length c6, .slice A7 lq7.length c7]) (ds := [.l lq0, .s sq1, .s sq2, .i xq3, .i xq4, .s sq5, .l lq6, .l lq7]) rfl HRow.out HB5.out hW rfl (HO5.out.monoF (fun y hy => ⟨by have := hy.1; simpa using this, hy.2⟩)) (fun x hx => hx) (by simpa using HPL.out) ?_
              intro v' w6 hown6 hg6
              obtain ⟨A8, c8, rfl⟩ : ∃ A c, v' = .slice A (pre.length + 1) c := by
                obtain ⟨A, c, h, -⟩ := hown6.form
                exact ⟨A, c, by rw [h, List.length_append, List.length_map]; rfl⟩
              have bx6 := ((bx5.alloc _).kept hg6 (fun e' => bag_boxed (HRow.out.below HB5.out) bx5 (by omega) e'.symm))
              have hc6 := bx6.cell
              have hf6 := bx6.frozen
              refine hK _ _ ?_; clear hK K
              refine wpAnyIn_ready (rs := [5]) (by kernel_rfl) (by simp) ?_
              refine AllReadyIn.cons rfl (fun K hK => ?_) ?_
              · go_simp
                refine hK _ _ ?_; clear hK K
                refine wpAnyIn_done (by kernel_rfl) ?_ _
                gi_wp2
                obtain ⟨q1, q2, q3, q4, q5⟩ := collectB (C := W3.heap.size) (N := w.heap.size) (g := g) bx5 bb5 (HRow.out.below HB5.out) (Nat.le_refl _) (by omega) hlg3 (by omega) hW hown6 hg6 W3.heap.size
                exact ⟨q1, ⟨q2.1.mono hs0, q2.2⟩, ⟨⟨_, q3, by rw [List.map_append, List.map_singleton, HE1.out]; exact q4⟩, hB.trans q2.1⟩, Nat.le_trans hW q5⟩
              exact AllReadyIn.nil
            exact AllReadyIn.nil
          exact AllReadyIn.nil
        refine AllReadyIn.cons rfl (fun K hK => ?_) ?_
        · go_simp
          refine hK _ _ ?_; clear hK K
          refine wpAnyIn_ready (rs := [0]) (by kernel_rfl) (by simp) ?_
          refine AllReadyIn.cons rfl (fun K hK => ?_) ?_
          · go_simp
            refine hK _ _ ?_; clear hK K
            refine wpAnyIn_ready (rs := [4]) (by kernel_rfl) (by simp) ?_
            refine AllReadyIn.cons rfl (fun K hK => ?_) ?_
            · refine stepIn_bag1 rfl inf_thing (.tmp 7) (.tmp 10) rfl (w := W) (w1 := w5) (base := W3.heap.size) (v := v) (c := 1) (F2 := Rg W.heap.size w5.heap.size) (us := [.slice A1 lq0.length c1, .string sq1, .string sq2, .int .i64 xq3, .int .i64 xq4, .string sq5, .slice A6 lq6.length c6, .slice A7 lq7.length c7]) (ds := [.l lq0, .s sq1, .s sq2, .i xq3, .i xq4, .s sq5, .l lq6, .l lq7]) rfl HRow.out HB5.out hW rfl (HO5.out.monoF (fun y hy => ⟨by have := hy.1; simpa using this, hy.2⟩)) (fun x hx => hx) (by simpa using HPL.out) ?_
              intro v' w6 hown6 hg6
              obtain ⟨A8, c8, rfl⟩ : ∃ A c, v' = .slice A (pre.length + 1) c := by
                obtain ⟨A, c, h, -⟩ := hown6.form
                exact ⟨A, c, by rw [h, List.length_append, List.length_map]; rfl⟩
              have bx6 := ((bx5.alloc _).kept hg6 (fun e' => bag_boxed (HRow.out.below HB5.out) bx5 (by omega) e'.symm))
              have hc6 := bx6.cell
              have hf6 := bx6.frozen
              refine hK _ _ ?_; clear hK K
              refine wpAnyIn_ready (rs := [5]) (by kernel_rfl) (by simp) ?_
              refine AllReadyIn.cons rfl (fun K hK => ?_) ?_
              · go_simp
                refine hK _ _ ?_; clear hK K
                refine wpAnyIn_done (by kernel_rfl) ?_ _
                gi_wp2
                obtain ⟨q1, q2, q3, q4, q5⟩ := collectB (C := W3.heap.size) (N := w.heap.size) (g := g) bx5 bb5 (HRow.out.below HB5.out) (Nat.le_refl _) (by omega) hlg3 (by omega) hW hown6 hg6 W3.heap.size
                exact ⟨q1, ⟨q2.1.mono hs0, q2.2⟩, ⟨⟨_, q3, by rw [List.map_append, List.map_singleton, HE1.out]; exact q4⟩, hB.trans q2.1⟩, Nat.le_trans hW q5⟩
              exact AllReadyIn.nil
            exact AllReadyIn.nil
          exact AllReadyIn.nil
        exact AllReadyIn.nil
      exact AllReadyIn.nil
    exact AllReadyIn.nil
  case done =>
    rw [hIV]
    rintro D ys W hD rfl ⟨⟨⟨v, hv, hrow⟩, hB⟩, hW⟩ hK
    have hc := hv.cell
    have hrow9 := hrow.turn (grownBy_putObj' W D (.deferred none)) (fun k e => by cases e; exact ⟨_, hK, rfl⟩)
    clear hrow
    rw [HXX.out] at hrow9
    gi_wp2
    refine ⟨by simp, .inl ⟨_, _, rfl, run_takeDeferred hK, ?_⟩⟩
    refine ⟨_, results_tmp rfl _ _ _, _, rfl, (hrow9.done).mono ?_, ?_⟩
    · exact fun y hy => ⟨by have := hy.1; omega, hy.2⟩
    · exact hB.trans (belowK_b (w := W3) (by omega) W D _ _ hD hK rfl rfl)
  case stop =>
    rintro D c pre W _ _ h _
    exact h.elim
end Go.Proofs.YtflfnekaiaplfaaGreat.cf
