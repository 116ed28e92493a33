/- Things copied by the model. -/
import Derived.Test.YtflfnekaiaplfaaGreatCtI
import Derived.Test.YtflfnekaiaplfaaGreatSkN
import Derived.Deep.RegionHeld3
import Derived.Deep.DeepCutAuto
namespace Go.Proofs.YtflfnekaiaplfaaGreat.cf
open ad mem vl ex un cm
open Go.ChangeShapes Go.WideShapes Go.ChangeAt Go.RowKit Go.Lib
set_option linter.unusedVariables false
set_option maxRecDepth 8000
set_option linter.unusedSimpArgs false


theorem step_sackN {P : Program} {ops : Array Oper} {o : Oper} {a : Act} {K : Act → World → Prop} {Q : Exit → Act → World → Prop} {E : Prop} (hgd : o.guard = none) {t T : TypeId} {e n : Nat} (hI : Inf P t T (sh e).length) (s x : Operand)
    (ho : o.op = .call { callee := .builtin .append, args := #[s, x], argTypes := #[t, t] })
    {w : World} {base : Nat} {v : Value} {X Y : List (List DC)} {A : Option Addr} {m c : Nat} (hs : a.eval s = v) (hbag : Sack n w base T e v X) (hbase : base ≤ w.heap.size)
    (hx : a.eval x = .slice A m c) (hm : m = Y.length) (hY : Src (fun x => v.ownBlock ≠ some x) n w e A Y) (hsm : X.length + Y.length ≤ 1000000)
    (h : ∀ v' w', Sack n w' base T e v' (X ++ Y) → w.grownBy w' v.ownBlock → (v'.ownBlock = v.ownBlock ∨ v'.ownBlock = some w.heap.size) → K (a.put o.dst v') w') :
    if Region.wanted o (yielded ops a.tmps) = true then Oper.wp P o a w K Q else E := by
  have hw : Region.wanted o (yielded ops a.tmps) = true := by simp [Region.wanted, hgd]
  rw [if_pos hw]
  subst hm
  obtain ⟨rows, hrow, hl, hh⟩ := hbag.go
  obtain ⟨v', w', us, hrun, u1, h2, h3, h4, u3⟩ := run_many (P := P) (ty := o.type) hI hrow c hY hbase hsm
  unfold Oper.wp execOp
  simp only [ho, resolve, invoke, builtin, Sem.run_bind, Sem.run_pure, Result.andThen_ok, List.map_toArray, List.map_cons, List.map_nil, hs, hx, hrun]
  refine h v' w' (Sack.app (w1 := w) (Y := Y) (us := us) hbag (Below.refl _ _) u1 u3 (fun rows' hr' => ?_) h3 h4) h3 h4
  rw [own_flat hr' hrow]; exact h2
theorem far8 {w : World} {g g' : Nat} {T : TypeId} {cs : Array Value} (h : Blk w g T cs) (hg : g ≠ g') (v0 v1 v2 v3 v4 v5 v6 v7 : Value) : Blk ((((((((w.setCell ⟨g', 0, none⟩ v0).setCell ⟨g', 1, none⟩ v1).setCell ⟨g', 2, none⟩ v2).setCell ⟨g', 3, none⟩ v3).setCell ⟨g', 4, none⟩ v4).setCell ⟨g', 5, none⟩ v5).setCell ⟨g', 6, none⟩ v6).setCell ⟨g', 7, none⟩ v7) g T cs := by
  have hh : ((((((((w.setCell ⟨g', 0, none⟩ v0).setCell ⟨g', 1, none⟩ v1).setCell ⟨g', 2, none⟩ v2).setCell ⟨g', 3, none⟩ v3).setCell ⟨g', 4, none⟩ v4).setCell ⟨g', 5, none⟩ v5).setCell ⟨g', 6, none⟩ v6).setCell ⟨g', 7, none⟩ v7).heap[g]? = w.heap[g]? := by
    iterate 8 refine (Below.heap_setCell _ _ _ g (by simpa using hg)).trans ?_
    rfl
  unfold Blk at h ⊢
  exact hh.trans h
theorem agree8 {w : World} {g : Nat} (v0 v1 v2 v3 v4 v5 v6 v7 : Value) : Agree (fun x => x ≠ g) w ((((((((w.setCell ⟨g, 0, none⟩ v0).setCell ⟨g, 1, none⟩ v1).setCell ⟨g, 2, none⟩ v2).setCell ⟨g, 3, none⟩ v3).setCell ⟨g, 4, none⟩ v4).setCell ⟨g, 5, none⟩ v5).setCell ⟨g, 6, none⟩ v6).setCell ⟨g, 7, none⟩ v7) := by
  iterate 8 refine Agree.set ?_ (fun h => h rfl) _
  exact Agree.refl _ _
theorem blk8s {w : World} {g : Nat} {T : TypeId} {a0 a1 a2 a3 a4 a5 a6 a7 : Value} (h : Blk w g T #[a0, a1, a2, a3, a4, a5, a6, a7]) (v0 v1 v2 v3 v4 v5 v6 v7 : Value) :
    Blk ((((((((w.setCell ⟨g, 0, none⟩ v0).setCell ⟨g, 1, none⟩ v1).setCell ⟨g, 2, none⟩ v2).setCell ⟨g, 3, none⟩ v3).setCell ⟨g, 4, none⟩ v4).setCell ⟨g, 5, none⟩ v5).setCell ⟨g, 6, none⟩ v6).setCell ⟨g, 7, none⟩ v7) g T #[v0, v1, v2, v3, v4, v5, v6, v7] := by
  have h0 : Blk _ g T #[v0, a1, a2, a3, a4, a5, a6, a7] := Blk.put h 0 v0
  have h1 : Blk _ g T #[v0, v1, a2, a3, a4, a5, a6, a7] := Blk.put h0 1 v1
  have h2 : Blk _ g T #[v0, v1, v2, a3, a4, a5, a6, a7] := Blk.put h1 2 v2
  have h3 : Blk _ g T #[v0, v1, v2, v3, a4, a5, a6, a7] := Blk.put h2 3 v3
  have h4 : Blk _ g T #[v0, v1, v2, v3, v4, a5, a6, a7] := Blk.put h3 4 v4
  have h5 : Blk _ g T #[v0, v1, v2, v3, v4, v5, a6, a7] := Blk.put h4 5 v5
  have h6 : Blk _ g T #[v0, v1, v2, v3, v4, v5, v6, a7] := Blk.put h5 6 v6
  have h7 : Blk _ g T #[v0, v1, v2, v3, v4, v5, v6, v7] := Blk.put h6 7 v7
  exact h7
theorem step_bag1 {P : Program} {ops : Array Oper} {o : Oper} {a : Act} {K : Act → World → Prop} {Q : Exit → Act → World → Prop} {E : Prop} (hgd : o.guard = none) {t T : TypeId} {e n : Nat} (hI : Inf P t T (sh e).length) (s x : Operand)
    (ho : o.op = .call { callee := .builtin .append, args := #[s, x], argTypes := #[t, t] })
    {w w1 : World} {base : Nat} {v : Value} {X : List (List DC)} {us : List Value} {ds : List DC} {F2 : Nat → Prop} {g c : Nat} (hs : a.eval s = v) (hbag : Bag n w base T e v X) (hb : Below w.heap.size w w1) (hbase : base ≤ w.heap.size)
    (hx : a.eval x = .slice (some ⟨g, 0, none⟩) 1 c) (hgx : g = w1.heap.size) (hown : Owns n w1 F2 (sh e) ds us) (hF : ∀ x, F2 x → w.heap.size ≤ x ∧ x < w1.heap.size) (hsm : X.length ≤ 1000000)
    (h : ∀ v' w', Bag n w' base T e v' (X ++ [ds]) → (w1.alloc (.cells us.toArray T)).grownBy w' v.ownBlock → K (a.put o.dst v') w') :
    if Region.wanted o (yielded ops a.tmps) = true then Oper.wp P o a (w1.alloc (.cells us.toArray T)) K Q else E := by
  have hw : Region.wanted o (yielded ops a.tmps) = true := by simp [Region.wanted, hgd]
  rw [if_pos hw]
  exact wp_bag1 hI s x ho hs hbag hb hbase hx hgx hown hF hsm h
theorem bag_far {n : Nat} {w : World} {base : Nat} {T : TypeId} {e : Nat} {v : Value} {X : List (List DC)} (h : Bag n w base T e v X) {p : Addr} (hp : p.block < base) (u : Value) : Bag n (w.setCell p u) base T e v X := by
  have hrow := h.row
  obtain ⟨rows, ho, hl, G, hG, hD, hh⟩ := h.go
  refine ⟨rows, ?_, hl, G, fun j x hx => ⟨(hG j x hx).1, by simpa using (hG j x hx).2.1, (hG j x hx).2.2⟩, hD, fun j h1 h2 => (hh j h1 h2).agree' (Agree.set (Agree.refl _ _) (fun hx => by have := (hG j _ hx).1; omega) u)⟩
  obtain ⟨h1, h2 | ⟨r, cap, cur, hv, hbr, hr, h3⟩⟩ := ho
  · exact ⟨h1, .inl h2⟩
  · exact ⟨h1, .inr ⟨r, cap, cur, hv, hbr, (Below.heap_setCell w p u r (by omega)).trans hr, h3⟩⟩
theorem pair_flat {B B' : Nat → Prop} {n m : Nat} {w w' : World} {ds : List DC} {us : List Value} (h : Cells B n w shPair_ ds us) : Cells B' m w' shPair_ ds us := by
  obtain ⟨s0, x1, x2, s3, rfl, rfl, g0, g1, g2, g3⟩ := open_Pair h
  exact ⟨Cell.mkS g0, Cell.mkI g1, Cell.mkI g2, Cell.mkS g3, trivial⟩
theorem pairs_src {B : Nat → Prop} {n c : Nat} {w : World} {xs : List (List DC)} {A : Option Addr} (h : Cell B n w (.l 7) (.l xs) (.slice A xs.length c)) (w' : World) (hb : Below w.heap.size w w') (C : Nat → Prop) : Src C 1 w' 7 A xs := by
  have key : ∀ j : Fin xs.length, ∃ us, (∃ b o, A = some ⟨b, o, none⟩ ∧ b < w'.heap.size ∧ w'.rangeAt b (o + j.val * (sh 7).length) us) ∧ Cells C 1 w' (sh 7) xs[j.val] us := fun j => by
    obtain ⟨m, b', o', us, hm, eA, _, hbl, hr, hin⟩ := h.item j.val j.isLt
    exact ⟨us, ⟨b', o', eA, Nat.lt_of_lt_of_le hbl hb.size, range_same hr (hb.block b' hbl)⟩, pair_flat hin⟩
  refine ⟨List.ofFn fun j => Classical.choose (key j), by simp, fun j h2 => ?_, fun j h1 h2 => ?_⟩
  · rw [List.getElem_ofFn]; exact (Classical.choose_spec (key ⟨j, by simpa using h2⟩)).1
  · rw [List.getElem_ofFn]; exact (Classical.choose_spec (key ⟨j, h1⟩)).2
theorem pairs_done {w : World} {base c : Nat} {T : TypeId} {A : Option Addr} {X : List (List DC)} {C : Nat → Prop} (h : Sack 1 w base T 7 (.slice A X.length c) X) (hC : ∀ k, (Value.slice A X.length c).ownBlock = some k → C k) : Cell C 2 w (.l 7) (.l X) (.slice A X.length c) := by
  have hd := h.done
  refine ⟨A, c, rfl, hd.len.2, fun k hk => ?_⟩
  obtain ⟨m, b, o, us, hm, rfl, _, hbl, hr, hin⟩ := hd.item k hk
  exact ⟨b, o, us, rfl, hC b rfl, hbl, hr, pair_flat hin⟩
set_option maxHeartbeats 16000000 in
theorem l05Copy_spec {B : Nat → Prop} {n : Nat} {w : World} {lq0 lq6 lq7 : List (List DC)} {sq1 sq2 sq5 : ByteArray} {xq3 xq4 : Int} {Aq0 Aq6 Aq7 : Option Addr} {cq0 cq6 cq7 : Nat} (hr : thB [.l lq0, .s sq1, .s sq2, .i xq3, .i xq4, .s sq5, .l lq6, .l lq7] = true) (h : Cells B n w shThing_ [.l lq0, .s sq1, .s sq2, .i xq3, .i xq4, .s sq5, .l lq6, .l lq7] [.slice Aq0 lq0.length cq0, .string sq1, .string sq2, .int .i64 xq3, .int .i64 xq4, .string sq5, .slice Aq6 lq6.length cq6, .slice Aq7 lq7.length cq7]) :
    Calls Tryz.prog 49 #[.agg #[.slice Aq0 lq0.length cq0, .string sq1, .string sq2, .int .i64 xq3, .int .i64 xq4, .string sq5, .slice Aq6 lq6.length cq6, .slice Aq7 lq7.length cq7]] w fun e w' => ∃ A1 c1 A6 c6 A7 c7, e = .returned (.agg #[.slice A1 lq0.length c1, .string sq1, .string sq2, .int .i64 xq3, .int .i64 xq4, .string sq5, .slice A6 lq6.length c6, .slice A7 lq7.length c7]) ∧ Cells (fun x => w.heap.size ≤ x) 2 w' shThing_ [.l lq0, .s sq1, .s sq2, .i xq3, .i xq4, .s sq5, .l lq6, .l lq7] [.slice A1 lq0.length c1, .string sq1, .string sq2, .int .i64 xq3, .int .i64 xq4, .string sq5, .slice A6 lq6.length c6, .slice A7 lq7.length c7] ∧ Below w.heap.size w w' := by
  obtain ⟨h1, h2, h3⟩ := th_parts' hr
  obtain ⟨k0, k1, k2, k3, k4, k5, k6, k7, -⟩ := h
  have e6 : bL (([.l lq0, .s sq1, .s sq2, .i xq3, .i xq4, .s sq5, .l lq6, .l lq7]).getD 6 z) = lq6 := rfl
  have e7 : bL (([.l lq0, .s sq1, .s sq2, .i xq3, .i xq4, .s sq5, .l lq6, .l lq7]).getD 7 z) = lq7 := rfl
  have eA : bA [.l lq0, .s sq1, .s sq2, .i xq3, .i xq4, .s sq5, .l lq6, .l lq7] = bA [.l lq0, .s sq1, .s sq2, .i xq3, .i xq4, .s sq5] := rfl
  rw [e6] at h2; rw [e7] at h3; rw [eA] at h1 h3
  have hP4 : lq6.length ≤ 4 := h2.1
  have hN4 : lq7.length ≤ 400 := h3.1
  have hin : Cells B n w shAddr_ [.l lq0, .s sq1, .s sq2, .i xq3, .i xq4, .s sq5] [.slice Aq0 lq0.length cq0, .string sq1, .string sq2, .int .i64 xq3, .int .i64 xq4, .string sq5] := ⟨k0, k1, k2, k3, k4, k5, trivial⟩
  have hcan := dA_bA hin
  have HSZ := Lib.hid (sz_of hin)
  have HA := Lib.hid (Gd.ofC hin)
  obtain ⟨a, ha⟩ : ∃ a, bA [.l lq0, .s sq1, .s sq2, .i xq3, .i xq4, .s sq5] = a := ⟨_, rfl⟩
  rw [ha] at h1 h3 hcan HSZ
  have HCN := Lib.hid hcan
  have KA := fun (W : World) (hW : Below w.heap.size w W) => Lib.hid (l02Copy_r ha h1 (HA.out.below hW).now)
  have HPS := Lib.hid (fun W hW C => pairs_src k6 W hW C)
  have HN := Lib.hid (Gd.of1 k7)
  have HN3 := Lib.hid h3
  clear k0 k1 k2 k3 k4 k5 k6 k7 hin hcan h1 h2 h3 hr e6 e7 eA ha
  go_enter Tryz.func49, Tryz.ntmps49
  go_wp2_with fail
  have E0 := Lib.hid (below_a2 w (.cells #[.slice Aq0 lq0.length cq0, .string sq1, .string sq2, .int .i64 xq3, .int .i64 xq4, .string sq5, .slice Aq6 lq6.length cq6, .slice Aq7 lq7.length cq7] 41) (.cells #[.slice none 0 0, .string ⟨#[]⟩, .string ⟨#[]⟩, .int .i64 0, .int .i64 0, .string ⟨#[]⟩, .slice none 0 0, .slice none 0 0] 41))
  have B0 := Lib.hid ((Blk.new w 41 #[.slice Aq0 lq0.length cq0, .string sq1, .string sq2, .int .i64 xq3, .int .i64 xq4, .string sq5, .slice Aq6 lq6.length cq6, .slice Aq7 lq7.length cq7]).alloc (.cells #[.slice none 0 0, .string ⟨#[]⟩, .string ⟨#[]⟩, .int .i64 0, .int .i64 0, .string ⟨#[]⟩, .slice none 0 0, .slice none 0 0] 41))
  have P0 := Lib.hid (Blk.new1 w (.cells #[.slice Aq0 lq0.length cq0, .string sq1, .string sq2, .int .i64 xq3, .int .i64 xq4, .string sq5, .slice Aq6 lq6.length cq6, .slice Aq7 lq7.length cq7] 41) 41 #[.slice none 0 0, .string ⟨#[]⟩, .string ⟨#[]⟩, .int .i64 0, .int .i64 0, .string ⟨#[]⟩, .slice none 0 0, .slice none 0 0])
  have hz0 : ((w.alloc (.cells #[.slice Aq0 lq0.length cq0, .string sq1, .string sq2, .int .i64 xq3, .int .i64 xq4, .string sq5, .slice Aq6 lq6.length cq6, .slice Aq7 lq7.length cq7] 41)).alloc (.cells #[.slice none 0 0, .string ⟨#[]⟩, .string ⟨#[]⟩, .int .i64 0, .int .i64 0, .string ⟨#[]⟩, .slice none 0 0, .slice none 0 0] 41)).heap.size = w.heap.size + 1 + 1 := by simp
  obtain ⟨W0, hW0⟩ : ∃ W0, (w.alloc (.cells #[.slice Aq0 lq0.length cq0, .string sq1, .string sq2, .int .i64 xq3, .int .i64 xq4, .string sq5, .slice Aq6 lq6.length cq6, .slice Aq7 lq7.length cq7] 41)).alloc (.cells #[.slice none 0 0, .string ⟨#[]⟩, .string ⟨#[]⟩, .int .i64 0, .int .i64 0, .string ⟨#[]⟩, .slice none 0 0, .slice none 0 0] 41) = W0 := ⟨_, rfl⟩
  rw [hW0] at E0 B0 P0 hz0 ⊢
  clear hW0
  go_cut [3] (fun s3 wx => ∃ g A1 c1 A6 c6, s3 = .pointer (some ⟨g, 0, none⟩) ∧ w.heap.size + 1 < g ∧ Blk wx g 41 #[.slice A1 a.path.length c1, .string a.typ, .string a.nam, .int .i64 a.kind, .int .i64 a.n, .string a.key, .slice A6 lq6.length c6, .slice none 0 0] ∧ Cells (fun x => w.heap.size + 1 < x ∧ x ≠ g) 2 wx shAddr_ [.l lq0, .s sq1, .s sq2, .i xq3, .i xq4, .s sq5] [.slice A1 a.path.length c1, .string a.typ, .string a.nam, .int .i64 a.kind, .int .i64 a.n, .string a.key] ∧ Cell (fun x => w.heap.size + 1 < x ∧ x ≠ g) 2 wx (.l 7) (.l lq6) (.slice A6 lq6.length c6) ∧ Blk wx w.heap.size 41 #[.slice Aq0 lq0.length cq0, .string sq1, .string sq2, .int .i64 xq3, .int .i64 xq4, .string sq5, .slice Aq6 lq6.length cq6, .slice Aq7 lq7.length cq7] ∧ Blk wx (w.heap.size + 1) 41 #[.slice none 0 0, .string ⟨#[]⟩, .string ⟨#[]⟩, .int .i64 0, .int .i64 0, .string ⟨#[]⟩, .slice none 0 0, .slice none 0 0] ∧ Below w.heap.size w wx)
  case first =>
    refine wp_region_held_drew (S := fun w' => Blk w' w.heap.size 41 #[.slice Aq0 lq0.length cq0, .string sq1, .string sq2, .int .i64 xq3, .int .i64 xq4, .string sq5, .slice Aq6 lq6.length cq6, .slice Aq7 lq7.length cq7]) (by kernel_rfl) (B0.out.step (below_d W0 1)) (fun _ => ?_)
    have EWd := Lib.hid (below_then E0.out (below_d W0 1) (Nat.le_refl _))
    have Bd := Lib.hid (B0.out.step (below_d W0 1))
    have Pd := Lib.hid (P0.out.step (below_d W0 1))
    have hzd : w.heap.size + 1 < (W0.drewN 1).heap.size := by have : (W0.drewN 1).heap.size = w.heap.size + 1 + 1 := hz0; omega
    have hdr : W0.drew = W0.drewN 1 := rfl
    rw [hdr]
    obtain ⟨Wd, hWd⟩ : ∃ Wd, W0.drewN 1 = Wd := ⟨_, rfl⟩
    rw [hWd] at EWd Bd Pd hzd ⊢
    clear hWd hdr E0 B0 P0 hz0
    refine wpAnyH_take (i := 0) (v := .pointer (some ⟨w.heap.size, 0, none⟩)) rfl (by kernel_rfl) (by kernel_rfl) (by kernel_rfl) (fun _ _ _ h => h) (Or.inl ⟨by rfl, ?_⟩) Bd.out ?_
    · intro w' hSw
      go_simp
    try simp only [Act.put, List.setIfInBounds_toArray, List.set_cons_zero, List.set_cons_succ]
    refine wpAnyH_take (i := 1) (v := .agg #[.slice Aq0 lq0.length cq0, .string sq1, .string sq2, .int .i64 xq3, .int .i64 xq4, .string sq5]) rfl (by kernel_rfl) (by kernel_rfl) (by kernel_rfl) (fun _ _ _ h => h) (Or.inl ⟨by rfl, ?_⟩) Bd.out ?_
    · intro w' hSw
      have hc := Blk.cell hSw
      go_simp
    try simp only [Act.put, List.setIfInBounds_toArray, List.set_cons_zero, List.set_cons_succ]
    refine wpAnyH_take (i := 4) (v := .pointer (some ⟨w.heap.size, 6, none⟩)) rfl (by kernel_rfl) (by kernel_rfl) (by kernel_rfl) (fun _ _ _ h => h) (Or.inl ⟨by rfl, ?_⟩) Bd.out ?_
    · intro w' hSw
      go_simp
    try simp only [Act.put, List.setIfInBounds_toArray, List.set_cons_zero, List.set_cons_succ]
    refine wpAnyH_take (i := 5) (v := .slice Aq6 lq6.length cq6) rfl (by kernel_rfl) (by kernel_rfl) (by kernel_rfl) (fun _ _ _ h => h) (Or.inl ⟨by rfl, ?_⟩) Bd.out ?_
    · intro w' hSw
      have hc := Blk.cell hSw
      go_simp
    try simp only [Act.put, List.setIfInBounds_toArray, List.set_cons_zero, List.set_cons_succ]
    refine wpAnyH_ready (rs := [2, 3, 8]) (by kernel_rfl) (by simp) ?_
    refine AllReadyH.cons rfl (fun K hK => ?_) ?_
    · go_simp
      refine (KA _ EWd.out).out.mono ?_
      rintro _ wc1 ⟨A1, c1, rfl, ho, hb⟩
      have SA0 := Lib.hid (own_addr (base := Wd.heap.size) (d := a) ho HSZ.out)
      have Ewc1 := Lib.hid (below_then EWd.out hb (Nat.le_refl _))
      have Mwc1 := hb.size
      have Bwc1 := Lib.hid (Bd.out.step hb)
      have Pwc1 := Lib.hid (Pd.out.step hb)
      clear ho hb
      try go_wp2_with fail
      refine hK.out _ _ Bwc1.out (fun _ => ?_)
      clear hK K
      try simp only [Act.put, List.setIfInBounds_toArray, List.set_cons_zero, List.set_cons_succ]
      refine wpAnyH_ready (rs := [3, 8]) (by kernel_rfl) (by simp) ?_
      refine AllReadyH.cons rfl (fun K hK => ?_) ?_
      · go_simp
        have hb := below_a1 wc1 (.cells #[] 86)
        have hzws2 : wc1.heap.size < (wc1.alloc (.cells #[] 86)).heap.size := by rw [World.size_alloc]; omega
        have SK0 := Sack.empty (n := 1) (w := wc1) (base := w.heap.size + 2) (T := 86) (e := 7) (by omega)
        obtain ⟨ws2, hW⟩ : ∃ W, wc1.alloc (.cells #[] 86) = W := ⟨_, rfl⟩
        rw [hW] at hb hzws2 SK0 ⊢
        have SK1 := Lib.hid SK0
        have Ews2 := Lib.hid (below_then Ewc1.out hb (Nat.le_refl _))
        have Mws2 := hb.size
        have Bws2 := Lib.hid (Bwc1.out.step hb)
        have Pws2 := Lib.hid (Pwc1.out.step hb)
        have SAws2 := Lib.hid (SA0.out.below hb)
        clear hb hW SK0
        refine hK.out _ _ Bws2.out (fun _ => ?_)
        clear hK K
        try simp only [Act.put, List.setIfInBounds_toArray, List.set_cons_zero, List.set_cons_succ]
        refine wpAnyH_ready (rs := [6, 8]) (by kernel_rfl) (by simp) ?_
        refine AllReadyH.cons rfl (fun K hK => ?_) ?_
        · refine step_sackN rfl inf_pair (.tmp 8) (.tmp 10) rfl (base := w.heap.size + 2) (v := .slice (some ⟨wc1.heap.size, 0, none⟩) 0 0) (X := []) (Y := lq6) rfl SK1.out (by omega) rfl rfl (HPS.out ws2 Ews2.out _) (by simp; omega) ?_
          intro v6 wp3 hs hg hat
          have hg' : ws2.grownBy wp3 (some wc1.heap.size) := hg
          have Mwp3 := hg'.size
          obtain ⟨A6, c6, e6, _⟩ := hs.form
          have SP0 := Lib.hid (And.intro hs hat)
          have RW0 := Lib.hid hs.row
          have Ewp3 := Lib.hid (Ews2.out.grown hg' (by omega) (fun k hk => by cases hk; omega))
          have Bwp3 := Lib.hid (grown_blk Bws2.out hg' (fun e => by injection e with e; omega))
          have Pwp3 := Lib.hid (grown_blk Pws2.out hg' (fun e => by injection e with e; omega))
          have SAwp3 := Lib.hid (SAws2.out.agree' ⟨hg'.size, fun b hb hlt => hg'.block b hlt (fun e => by injection e with e; have h1 := hb.1; have h2 := hb.2; omega)⟩)
          clear hs hg hg' hat
          subst e6
          refine hK.out _ _ Bwp3.out (fun _ => ?_)
          clear hK K
          try simp only [Act.put, List.setIfInBounds_toArray, List.set_cons_zero, List.set_cons_succ]
          refine wpAnyH_take (i := 7) (v := .agg #[.slice A1 a.path.length c1, .string a.typ, .string a.nam, .int .i64 a.kind, .int .i64 a.n, .string a.key, .slice A6 lq6.length c6, .slice none 0 0]) rfl (by kernel_rfl) (by kernel_rfl) (by kernel_rfl) (fun _ _ _ h => h) (Or.inl ⟨by rfl, ?_⟩) Bwp3.out ?_
          · intro w' hSw
            go_simp
          try simp only [Act.put, List.setIfInBounds_toArray, List.set_cons_zero, List.set_cons_succ]
          refine wpAnyH_ready (rs := [8]) (by kernel_rfl) (by simp) ?_
          refine AllReadyH.cons rfl (fun K hK => ?_) ?_
          · go_simp
            have hb := below_a1 wp3 (.cells #[.slice none 0 0, .string ⟨#[]⟩, .string ⟨#[]⟩, .int .i64 0, .int .i64 0, .string ⟨#[]⟩, .slice none 0 0, .slice none 0 0] 41)
            have hzwa4 : wp3.heap.size < (wp3.alloc (.cells #[.slice none 0 0, .string ⟨#[]⟩, .string ⟨#[]⟩, .int .i64 0, .int .i64 0, .string ⟨#[]⟩, .slice none 0 0, .slice none 0 0] 41)).heap.size := by rw [World.size_alloc]; omega
            have N0 := Blk.new wp3 41 #[.slice none 0 0, .string ⟨#[]⟩, .string ⟨#[]⟩, .int .i64 0, .int .i64 0, .string ⟨#[]⟩, .slice none 0 0, .slice none 0 0]
            obtain ⟨wa4, hW⟩ : ∃ W, wp3.alloc (.cells #[.slice none 0 0, .string ⟨#[]⟩, .string ⟨#[]⟩, .int .i64 0, .int .i64 0, .string ⟨#[]⟩, .slice none 0 0, .slice none 0 0] 41) = W := ⟨_, rfl⟩
            rw [hW] at hb hzwa4 N0 ⊢
            have N1 := Lib.hid N0
            have Ewa4 := Lib.hid (below_then Ewp3.out hb (Nat.le_refl _))
            have Mwa4 := hb.size
            have Bwa4 := Lib.hid (Bwp3.out.step hb)
            have Pwa4 := Lib.hid (Pwp3.out.step hb)
            have SAwa4 := Lib.hid (SAwp3.out.below hb)
            have SP1 := Lib.hid (And.intro (SP0.out.1.below hb) SP0.out.2)
            clear hb hW N0
            refine hK.out _ _ Bwa4.out (fun _ => ?_)
            clear hK K
            try simp only [Act.put, List.setIfInBounds_toArray, List.set_cons_zero, List.set_cons_succ]
            refine wpAnyH_ready (rs := [9]) (by kernel_rfl) (by simp) ?_
            refine AllReadyH.cons rfl (fun K hK => ?_) ?_
            · have pN := N1.out.cell
              have fN := N1.out.free
              have lN := N1.out.lt
              go_simp
              refine hK.out _ _ (far8 Bwa4.out (by omega) _ _ _ _ _ _ _ _) (fun _ => ?_)
              clear hK K
              try simp only [Act.put, List.setIfInBounds_toArray, List.set_cons_zero, List.set_cons_succ]
              refine wpAnyH_done (by kernel_rfl) ?_ _
              go_wp2_with fail
              go_meet
              have hC1 : Cells (fun x => w.heap.size + 1 < x ∧ x ≠ wp3.heap.size) 2 wa4 shAddr_ [.l lq0, .s sq1, .s sq2, .i xq3, .i xq4, .s sq5] [.slice A1 a.path.length c1, .string a.typ, .string a.nam, .int .i64 a.kind, .int .i64 a.n, .string a.key] := by
                have h1 := Cells.monoB (B' := fun x => w.heap.size + 1 < x ∧ x ≠ wp3.heap.size) (SAwa4.out.ups (m := 2) (by omega)).cells (fun b hb _ => by have h1 := hb.1; have h2 := hb.2; exact ⟨by omega, by omega⟩)
                rw [HCN.out] at h1; exact h1
              have hC2 : Cell (fun x => w.heap.size + 1 < x ∧ x ≠ wp3.heap.size) 2 wa4 (.l 7) (.l lq6) (.slice A6 lq6.length c6) := pairs_done SP1.out.1 (fun k hk => by
                have hrw := RW0.out k hk
                rcases SP1.out.2 with e | e
                · have e2 : k = wc1.heap.size := by have := hk.symm.trans e; simpa [Value.ownBlock] using this
                  exact ⟨by omega, by omega⟩
                · have e2 : k = ws2.heap.size := by have := hk.symm.trans e; simpa using this
                  exact ⟨by omega, by omega⟩)
              refine ⟨wp3.heap.size, A1, c1, A6, c6, rfl, by omega, blk8s N1.out _ _ _ _ _ _ _ _, Cells.agree hC1 ((agree8 _ _ _ _ _ _ _ _).mono fun b hb => hb.2), hC2.agree ((agree8 _ _ _ _ _ _ _ _).mono fun b hb => hb.2), far8 Bwa4.out (by omega) _ _ _ _ _ _ _ _, far8 Pwa4.out (by omega) _ _ _ _ _ _ _ _, ?_⟩
              iterate 8 refine Below.setCell ?_ (by show w.heap.size ≤ wp3.heap.size; omega) _
              exact Ewa4.out
            exact AllReadyH.nil
          exact AllReadyH.nil
        refine AllReadyH.cons rfl (fun K hK => ?_) ?_
        · go_simp
          have hb := below_a1 ws2 (.cells #[.slice none 0 0, .string ⟨#[]⟩, .string ⟨#[]⟩, .int .i64 0, .int .i64 0, .string ⟨#[]⟩, .slice none 0 0, .slice none 0 0] 41)
          have hzwa6 : ws2.heap.size < (ws2.alloc (.cells #[.slice none 0 0, .string ⟨#[]⟩, .string ⟨#[]⟩, .int .i64 0, .int .i64 0, .string ⟨#[]⟩, .slice none 0 0, .slice none 0 0] 41)).heap.size := by rw [World.size_alloc]; omega
          have N0 := Blk.new ws2 41 #[.slice none 0 0, .string ⟨#[]⟩, .string ⟨#[]⟩, .int .i64 0, .int .i64 0, .string ⟨#[]⟩, .slice none 0 0, .slice none 0 0]
          obtain ⟨wa6, hW⟩ : ∃ W, ws2.alloc (.cells #[.slice none 0 0, .string ⟨#[]⟩, .string ⟨#[]⟩, .int .i64 0, .int .i64 0, .string ⟨#[]⟩, .slice none 0 0, .slice none 0 0] 41) = W := ⟨_, rfl⟩
          rw [hW] at hb hzwa6 N0 ⊢
          have N1 := Lib.hid N0
          have Ewa6 := Lib.hid (below_then Ews2.out hb (Nat.le_refl _))
          have Mwa6 := hb.size
          have Bwa6 := Lib.hid (Bws2.out.step hb)
          have Pwa6 := Lib.hid (Pws2.out.step hb)
          have SAwa6 := Lib.hid (SAws2.out.below hb)
          have SKwa6 := Lib.hid (SK1.out.below hb)
          clear hb hW N0
          refine hK.out _ _ Bwa6.out (fun _ => ?_)
          clear hK K
          try simp only [Act.put, List.setIfInBounds_toArray, List.set_cons_zero, List.set_cons_succ]
          refine wpAnyH_ready (rs := [6]) (by kernel_rfl) (by simp) ?_
          refine AllReadyH.cons rfl (fun K hK => ?_) ?_
          · refine step_sackN rfl inf_pair (.tmp 8) (.tmp 10) rfl (base := w.heap.size + 2) (v := .slice (some ⟨wc1.heap.size, 0, none⟩) 0 0) (X := []) (Y := lq6) rfl SKwa6.out (by omega) rfl rfl (HPS.out wa6 Ewa6.out _) (by simp; omega) ?_
            intro v6 wp7 hs hg hat
            have hg' : wa6.grownBy wp7 (some wc1.heap.size) := hg
            have Mwp7 := hg'.size
            obtain ⟨A6, c6, e6, _⟩ := hs.form
            have SP0 := Lib.hid (And.intro hs hat)
            have RW0 := Lib.hid hs.row
            have Ewp7 := Lib.hid (Ewa6.out.grown hg' (by omega) (fun k hk => by cases hk; omega))
            have Bwp7 := Lib.hid (grown_blk Bwa6.out hg' (fun e => by injection e with e; omega))
            have Pwp7 := Lib.hid (grown_blk Pwa6.out hg' (fun e => by injection e with e; omega))
            have SAwp7 := Lib.hid (SAwa6.out.agree' ⟨hg'.size, fun b hb hlt => hg'.block b hlt (fun e => by injection e with e; have h1 := hb.1; have h2 := hb.2; omega)⟩)
            have Nwp7 := Lib.hid (grown_blk N1.out hg' (fun e => by injection e with e; omega))
            clear hs hg hg' hat
            subst e6
            refine hK.out _ _ Bwp7.out (fun _ => ?_)
            clear hK K
            try simp only [Act.put, List.setIfInBounds_toArray, List.set_cons_zero, List.set_cons_succ]
            refine wpAnyH_take (i := 7) (v := .agg #[.slice A1 a.path.length c1, .string a.typ, .string a.nam, .int .i64 a.kind, .int .i64 a.n, .string a.key, .slice A6 lq6.length c6, .slice none 0 0]) rfl (by kernel_rfl) (by kernel_rfl) (by kernel_rfl) (fun _ _ _ h => h) (Or.inl ⟨by rfl, ?_⟩) Bwp7.out ?_
            · intro w' hSw
              go_simp
            try simp only [Act.put, List.setIfInBounds_toArray, List.set_cons_zero, List.set_cons_succ]
            refine wpAnyH_ready (rs := [9]) (by kernel_rfl) (by simp) ?_
            refine AllReadyH.cons rfl (fun K hK => ?_) ?_
            · have pN := Nwp7.out.cell
              have fN := Nwp7.out.free
              have lN := Nwp7.out.lt
              go_simp
              refine hK.out _ _ (far8 Bwp7.out (by omega) _ _ _ _ _ _ _ _) (fun _ => ?_)
              clear hK K
              try simp only [Act.put, List.setIfInBounds_toArray, List.set_cons_zero, List.set_cons_succ]
              refine wpAnyH_done (by kernel_rfl) ?_ _
              go_wp2_with fail
              go_meet
              have hC1 : Cells (fun x => w.heap.size + 1 < x ∧ x ≠ ws2.heap.size) 2 wp7 shAddr_ [.l lq0, .s sq1, .s sq2, .i xq3, .i xq4, .s sq5] [.slice A1 a.path.length c1, .string a.typ, .string a.nam, .int .i64 a.kind, .int .i64 a.n, .string a.key] := by
                have h1 := Cells.monoB (B' := fun x => w.heap.size + 1 < x ∧ x ≠ ws2.heap.size) (SAwp7.out.ups (m := 2) (by omega)).cells (fun b hb _ => by have h1 := hb.1; have h2 := hb.2; exact ⟨by omega, by omega⟩)
                rw [HCN.out] at h1; exact h1
              have hC2 : Cell (fun x => w.heap.size + 1 < x ∧ x ≠ ws2.heap.size) 2 wp7 (.l 7) (.l lq6) (.slice A6 lq6.length c6) := pairs_done SP0.out.1 (fun k hk => by
                have hrw := RW0.out k hk
                rcases SP0.out.2 with e | e
                · have e2 : k = wc1.heap.size := by have := hk.symm.trans e; simpa [Value.ownBlock] using this
                  exact ⟨by omega, by omega⟩
                · have e2 : k = wa6.heap.size := by have := hk.symm.trans e; simpa using this
                  exact ⟨by omega, by omega⟩)
              refine ⟨ws2.heap.size, A1, c1, A6, c6, rfl, by omega, blk8s Nwp7.out _ _ _ _ _ _ _ _, Cells.agree hC1 ((agree8 _ _ _ _ _ _ _ _).mono fun b hb => hb.2), hC2.agree ((agree8 _ _ _ _ _ _ _ _).mono fun b hb => hb.2), far8 Bwp7.out (by omega) _ _ _ _ _ _ _ _, far8 Pwp7.out (by omega) _ _ _ _ _ _ _ _, ?_⟩
              iterate 8 refine Below.setCell ?_ (by show w.heap.size ≤ ws2.heap.size; omega) _
              exact Ewp7.out
            exact AllReadyH.nil
          exact AllReadyH.nil
        exact AllReadyH.nil
      refine AllReadyH.cons rfl (fun K hK => ?_) ?_
      · go_simp
        have hb := below_a1 wc1 (.cells #[.slice none 0 0, .string ⟨#[]⟩, .string ⟨#[]⟩, .int .i64 0, .int .i64 0, .string ⟨#[]⟩, .slice none 0 0, .slice none 0 0] 41)
        have hzwa9 : wc1.heap.size < (wc1.alloc (.cells #[.slice none 0 0, .string ⟨#[]⟩, .string ⟨#[]⟩, .int .i64 0, .int .i64 0, .string ⟨#[]⟩, .slice none 0 0, .slice none 0 0] 41)).heap.size := by rw [World.size_alloc]; omega
        have N0 := Blk.new wc1 41 #[.slice none 0 0, .string ⟨#[]⟩, .string ⟨#[]⟩, .int .i64 0, .int .i64 0, .string ⟨#[]⟩, .slice none 0 0, .slice none 0 0]
        obtain ⟨wa9, hW⟩ : ∃ W, wc1.alloc (.cells #[.slice none 0 0, .string ⟨#[]⟩, .string ⟨#[]⟩, .int .i64 0, .int .i64 0, .string ⟨#[]⟩, .slice none 0 0, .slice none 0 0] 41) = W := ⟨_, rfl⟩
        rw [hW] at hb hzwa9 N0 ⊢
        have N1 := Lib.hid N0
        have Ewa9 := Lib.hid (below_then Ewc1.out hb (Nat.le_refl _))
        have Mwa9 := hb.size
        have Bwa9 := Lib.hid (Bwc1.out.step hb)
        have Pwa9 := Lib.hid (Pwc1.out.step hb)
        have SAwa9 := Lib.hid (SA0.out.below hb)
        clear hb hW N0
        refine hK.out _ _ Bwa9.out (fun _ => ?_)
        clear hK K
        try simp only [Act.put, List.setIfInBounds_toArray, List.set_cons_zero, List.set_cons_succ]
        refine wpAnyH_ready (rs := [3]) (by kernel_rfl) (by simp) ?_
        refine AllReadyH.cons rfl (fun K hK => ?_) ?_
        · go_simp
          have hb := below_a1 wa9 (.cells #[] 86)
          have hzws10 : wa9.heap.size < (wa9.alloc (.cells #[] 86)).heap.size := by rw [World.size_alloc]; omega
          have SK0 := Sack.empty (n := 1) (w := wa9) (base := w.heap.size + 2) (T := 86) (e := 7) (by omega)
          obtain ⟨ws10, hW⟩ : ∃ W, wa9.alloc (.cells #[] 86) = W := ⟨_, rfl⟩
          rw [hW] at hb hzws10 SK0 ⊢
          have SK1 := Lib.hid SK0
          have Ews10 := Lib.hid (below_then Ewa9.out hb (Nat.le_refl _))
          have Mws10 := hb.size
          have Bws10 := Lib.hid (Bwa9.out.step hb)
          have Pws10 := Lib.hid (Pwa9.out.step hb)
          have SAws10 := Lib.hid (SAwa9.out.below hb)
          have Nws10 := Lib.hid (N1.out.step hb)
          clear hb hW SK0
          refine hK.out _ _ Bws10.out (fun _ => ?_)
          clear hK K
          try simp only [Act.put, List.setIfInBounds_toArray, List.set_cons_zero, List.set_cons_succ]
          refine wpAnyH_ready (rs := [6]) (by kernel_rfl) (by simp) ?_
          refine AllReadyH.cons rfl (fun K hK => ?_) ?_
          · refine step_sackN rfl inf_pair (.tmp 8) (.tmp 10) rfl (base := w.heap.size + 2) (v := .slice (some ⟨wa9.heap.size, 0, none⟩) 0 0) (X := []) (Y := lq6) rfl SK1.out (by omega) rfl rfl (HPS.out ws10 Ews10.out _) (by simp; omega) ?_
            intro v6 wp11 hs hg hat
            have hg' : ws10.grownBy wp11 (some wa9.heap.size) := hg
            have Mwp11 := hg'.size
            obtain ⟨A6, c6, e6, _⟩ := hs.form
            have SP0 := Lib.hid (And.intro hs hat)
            have RW0 := Lib.hid hs.row
            have Ewp11 := Lib.hid (Ews10.out.grown hg' (by omega) (fun k hk => by cases hk; omega))
            have Bwp11 := Lib.hid (grown_blk Bws10.out hg' (fun e => by injection e with e; omega))
            have Pwp11 := Lib.hid (grown_blk Pws10.out hg' (fun e => by injection e with e; omega))
            have SAwp11 := Lib.hid (SAws10.out.agree' ⟨hg'.size, fun b hb hlt => hg'.block b hlt (fun e => by injection e with e; have h1 := hb.1; have h2 := hb.2; omega)⟩)
            have Nwp11 := Lib.hid (grown_blk Nws10.out hg' (fun e => by injection e with e; omega))
            clear hs hg hg' hat
            subst e6
            refine hK.out _ _ Bwp11.out (fun _ => ?_)
            clear hK K
            try simp only [Act.put, List.setIfInBounds_toArray, List.set_cons_zero, List.set_cons_succ]
            refine wpAnyH_take (i := 7) (v := .agg #[.slice A1 a.path.length c1, .string a.typ, .string a.nam, .int .i64 a.kind, .int .i64 a.n, .string a.key, .slice A6 lq6.length c6, .slice none 0 0]) rfl (by kernel_rfl) (by kernel_rfl) (by kernel_rfl) (fun _ _ _ h => h) (Or.inl ⟨by rfl, ?_⟩) Bwp11.out ?_
            · intro w' hSw
              go_simp
            try simp only [Act.put, List.setIfInBounds_toArray, List.set_cons_zero, List.set_cons_succ]
            refine wpAnyH_ready (rs := [9]) (by kernel_rfl) (by simp) ?_
            refine AllReadyH.cons rfl (fun K hK => ?_) ?_
            · have pN := Nwp11.out.cell
              have fN := Nwp11.out.free
              have lN := Nwp11.out.lt
              go_simp
              refine hK.out _ _ (far8 Bwp11.out (by omega) _ _ _ _ _ _ _ _) (fun _ => ?_)
              clear hK K
              try simp only [Act.put, List.setIfInBounds_toArray, List.set_cons_zero, List.set_cons_succ]
              refine wpAnyH_done (by kernel_rfl) ?_ _
              go_wp2_with fail
              go_meet
              have hC1 : Cells (fun x => w.heap.size + 1 < x ∧ x ≠ wc1.heap.size) 2 wp11 shAddr_ [.l lq0, .s sq1, .s sq2, .i xq3, .i xq4, .s sq5] [.slice A1 a.path.length c1, .string a.typ, .string a.nam, .int .i64 a.kind, .int .i64 a.n, .string a.key] := by
                have h1 := Cells.monoB (B' := fun x => w.heap.size + 1 < x ∧ x ≠ wc1.heap.size) (SAwp11.out.ups (m := 2) (by omega)).cells (fun b hb _ => by have h1 := hb.1; have h2 := hb.2; exact ⟨by omega, by omega⟩)
                rw [HCN.out] at h1; exact h1
              have hC2 : Cell (fun x => w.heap.size + 1 < x ∧ x ≠ wc1.heap.size) 2 wp11 (.l 7) (.l lq6) (.slice A6 lq6.length c6) := pairs_done SP0.out.1 (fun k hk => by
                have hrw := RW0.out k hk
                rcases SP0.out.2 with e | e
                · have e2 : k = wa9.heap.size := by have := hk.symm.trans e; simpa [Value.ownBlock] using this
                  exact ⟨by omega, by omega⟩
                · have e2 : k = ws10.heap.size := by have := hk.symm.trans e; simpa using this
                  exact ⟨by omega, by omega⟩)
              refine ⟨wc1.heap.size, A1, c1, A6, c6, rfl, by omega, blk8s Nwp11.out _ _ _ _ _ _ _ _, Cells.agree hC1 ((agree8 _ _ _ _ _ _ _ _).mono fun b hb => hb.2), hC2.agree ((agree8 _ _ _ _ _ _ _ _).mono fun b hb => hb.2), far8 Bwp11.out (by omega) _ _ _ _ _ _ _ _, far8 Pwp11.out (by omega) _ _ _ _ _ _ _ _, ?_⟩
              iterate 8 refine Below.setCell ?_ (by show w.heap.size ≤ wc1.heap.size; omega) _
              exact Ewp11.out
            exact AllReadyH.nil
          exact AllReadyH.nil
        exact AllReadyH.nil
      exact AllReadyH.nil
    refine AllReadyH.cons rfl (fun K hK => ?_) ?_
    · go_simp
      have hb := below_a1 Wd (.cells #[] 86)
      have hzws13 : Wd.heap.size < (Wd.alloc (.cells #[] 86)).heap.size := by rw [World.size_alloc]; omega
      have SK0 := Sack.empty (n := 1) (w := Wd) (base := w.heap.size + 2) (T := 86) (e := 7) (by omega)
      obtain ⟨ws13, hW⟩ : ∃ W, Wd.alloc (.cells #[] 86) = W := ⟨_, rfl⟩
      rw [hW] at hb hzws13 SK0 ⊢
      have SK1 := Lib.hid SK0
      have Ews13 := Lib.hid (below_then EWd.out hb (Nat.le_refl _))
      have Mws13 := hb.size
      have Bws13 := Lib.hid (Bd.out.step hb)
      have Pws13 := Lib.hid (Pd.out.step hb)
      clear hb hW SK0
      refine hK.out _ _ Bws13.out (fun _ => ?_)
      clear hK K
      try simp only [Act.put, List.setIfInBounds_toArray, List.set_cons_zero, List.set_cons_succ]
      refine wpAnyH_ready (rs := [2, 8]) (by kernel_rfl) (by simp) ?_
      refine AllReadyH.cons rfl (fun K hK => ?_) ?_
      · go_simp
        refine (KA _ Ews13.out).out.mono ?_
        rintro _ wc14 ⟨A1, c1, rfl, ho, hb⟩
        have SA0 := Lib.hid (own_addr (base := ws13.heap.size) (d := a) ho HSZ.out)
        have Ewc14 := Lib.hid (below_then Ews13.out hb (Nat.le_refl _))
        have Mwc14 := hb.size
        have Bwc14 := Lib.hid (Bws13.out.step hb)
        have Pwc14 := Lib.hid (Pws13.out.step hb)
        have SKwc14 := Lib.hid (SK1.out.below hb)
        clear ho hb
        try go_wp2_with fail
        refine hK.out _ _ Bwc14.out (fun _ => ?_)
        clear hK K
        try simp only [Act.put, List.setIfInBounds_toArray, List.set_cons_zero, List.set_cons_succ]
        refine wpAnyH_ready (rs := [6, 8]) (by kernel_rfl) (by simp) ?_
        refine AllReadyH.cons rfl (fun K hK => ?_) ?_
        · refine step_sackN rfl inf_pair (.tmp 8) (.tmp 10) rfl (base := w.heap.size + 2) (v := .slice (some ⟨Wd.heap.size, 0, none⟩) 0 0) (X := []) (Y := lq6) rfl SKwc14.out (by omega) rfl rfl (HPS.out wc14 Ewc14.out _) (by simp; omega) ?_
          intro v6 wp15 hs hg hat
          have hg' : wc14.grownBy wp15 (some Wd.heap.size) := hg
          have Mwp15 := hg'.size
          obtain ⟨A6, c6, e6, _⟩ := hs.form
          have SP0 := Lib.hid (And.intro hs hat)
          have RW0 := Lib.hid hs.row
          have Ewp15 := Lib.hid (Ewc14.out.grown hg' (by omega) (fun k hk => by cases hk; omega))
          have Bwp15 := Lib.hid (grown_blk Bwc14.out hg' (fun e => by injection e with e; omega))
          have Pwp15 := Lib.hid (grown_blk Pwc14.out hg' (fun e => by injection e with e; omega))
          have SAwp15 := Lib.hid (SA0.out.agree' ⟨hg'.size, fun b hb hlt => hg'.block b hlt (fun e => by injection e with e; have h1 := hb.1; have h2 := hb.2; omega)⟩)
          clear hs hg hg' hat
          subst e6
          refine hK.out _ _ Bwp15.out (fun _ => ?_)
          clear hK K
          try simp only [Act.put, List.setIfInBounds_toArray, List.set_cons_zero, List.set_cons_succ]
          refine wpAnyH_take (i := 7) (v := .agg #[.slice A1 a.path.length c1, .string a.typ, .string a.nam, .int .i64 a.kind, .int .i64 a.n, .string a.key, .slice A6 lq6.length c6, .slice none 0 0]) rfl (by kernel_rfl) (by kernel_rfl) (by kernel_rfl) (fun _ _ _ h => h) (Or.inl ⟨by rfl, ?_⟩) Bwp15.out ?_
          · intro w' hSw
            go_simp
          try simp only [Act.put, List.setIfInBounds_toArray, List.set_cons_zero, List.set_cons_succ]
          refine wpAnyH_ready (rs := [8]) (by kernel_rfl) (by simp) ?_
          refine AllReadyH.cons rfl (fun K hK => ?_) ?_
          · go_simp
            have hb := below_a1 wp15 (.cells #[.slice none 0 0, .string ⟨#[]⟩, .string ⟨#[]⟩, .int .i64 0, .int .i64 0, .string ⟨#[]⟩, .slice none 0 0, .slice none 0 0] 41)
            have hzwa16 : wp15.heap.size < (wp15.alloc (.cells #[.slice none 0 0, .string ⟨#[]⟩, .string ⟨#[]⟩, .int .i64 0, .int .i64 0, .string ⟨#[]⟩, .slice none 0 0, .slice none 0 0] 41)).heap.size := by rw [World.size_alloc]; omega
            have N0 := Blk.new wp15 41 #[.slice none 0 0, .string ⟨#[]⟩, .string ⟨#[]⟩, .int .i64 0, .int .i64 0, .string ⟨#[]⟩, .slice none 0 0, .slice none 0 0]
            obtain ⟨wa16, hW⟩ : ∃ W, wp15.alloc (.cells #[.slice none 0 0, .string ⟨#[]⟩, .string ⟨#[]⟩, .int .i64 0, .int .i64 0, .string ⟨#[]⟩, .slice none 0 0, .slice none 0 0] 41) = W := ⟨_, rfl⟩
            rw [hW] at hb hzwa16 N0 ⊢
            have N1 := Lib.hid N0
            have Ewa16 := Lib.hid (below_then Ewp15.out hb (Nat.le_refl _))
            have Mwa16 := hb.size
            have Bwa16 := Lib.hid (Bwp15.out.step hb)
            have Pwa16 := Lib.hid (Pwp15.out.step hb)
            have SAwa16 := Lib.hid (SAwp15.out.below hb)
            have SP1 := Lib.hid (And.intro (SP0.out.1.below hb) SP0.out.2)
            clear hb hW N0
            refine hK.out _ _ Bwa16.out (fun _ => ?_)
            clear hK K
            try simp only [Act.put, List.setIfInBounds_toArray, List.set_cons_zero, List.set_cons_succ]
            refine wpAnyH_ready (rs := [9]) (by kernel_rfl) (by simp) ?_
            refine AllReadyH.cons rfl (fun K hK => ?_) ?_
            · have pN := N1.out.cell
              have fN := N1.out.free
              have lN := N1.out.lt
              go_simp
              refine hK.out _ _ (far8 Bwa16.out (by omega) _ _ _ _ _ _ _ _) (fun _ => ?_)
              clear hK K
              try simp only [Act.put, List.setIfInBounds_toArray, List.set_cons_zero, List.set_cons_succ]
              refine wpAnyH_done (by kernel_rfl) ?_ _
              go_wp2_with fail
              go_meet
              have hC1 : Cells (fun x => w.heap.size + 1 < x ∧ x ≠ wp15.heap.size) 2 wa16 shAddr_ [.l lq0, .s sq1, .s sq2, .i xq3, .i xq4, .s sq5] [.slice A1 a.path.length c1, .string a.typ, .string a.nam, .int .i64 a.kind, .int .i64 a.n, .string a.key] := by
                have h1 := Cells.monoB (B' := fun x => w.heap.size + 1 < x ∧ x ≠ wp15.heap.size) (SAwa16.out.ups (m := 2) (by omega)).cells (fun b hb _ => by have h1 := hb.1; have h2 := hb.2; exact ⟨by omega, by omega⟩)
                rw [HCN.out] at h1; exact h1
              have hC2 : Cell (fun x => w.heap.size + 1 < x ∧ x ≠ wp15.heap.size) 2 wa16 (.l 7) (.l lq6) (.slice A6 lq6.length c6) := pairs_done SP1.out.1 (fun k hk => by
                have hrw := RW0.out k hk
                rcases SP1.out.2 with e | e
                · have e2 : k = Wd.heap.size := by have := hk.symm.trans e; simpa [Value.ownBlock] using this
                  exact ⟨by omega, by omega⟩
                · have e2 : k = wc14.heap.size := by have := hk.symm.trans e; simpa using this
                  exact ⟨by omega, by omega⟩)
              refine ⟨wp15.heap.size, A1, c1, A6, c6, rfl, by omega, blk8s N1.out _ _ _ _ _ _ _ _, Cells.agree hC1 ((agree8 _ _ _ _ _ _ _ _).mono fun b hb => hb.2), hC2.agree ((agree8 _ _ _ _ _ _ _ _).mono fun b hb => hb.2), far8 Bwa16.out (by omega) _ _ _ _ _ _ _ _, far8 Pwa16.out (by omega) _ _ _ _ _ _ _ _, ?_⟩
              iterate 8 refine Below.setCell ?_ (by show w.heap.size ≤ wp15.heap.size; omega) _
              exact Ewa16.out
            exact AllReadyH.nil
          exact AllReadyH.nil
        refine AllReadyH.cons rfl (fun K hK => ?_) ?_
        · go_simp
          have hb := below_a1 wc14 (.cells #[.slice none 0 0, .string ⟨#[]⟩, .string ⟨#[]⟩, .int .i64 0, .int .i64 0, .string ⟨#[]⟩, .slice none 0 0, .slice none 0 0] 41)
          have hzwa18 : wc14.heap.size < (wc14.alloc (.cells #[.slice none 0 0, .string ⟨#[]⟩, .string ⟨#[]⟩, .int .i64 0, .int .i64 0, .string ⟨#[]⟩, .slice none 0 0, .slice none 0 0] 41)).heap.size := by rw [World.size_alloc]; omega
          have N0 := Blk.new wc14 41 #[.slice none 0 0, .string ⟨#[]⟩, .string ⟨#[]⟩, .int .i64 0, .int .i64 0, .string ⟨#[]⟩, .slice none 0 0, .slice none 0 0]
          obtain ⟨wa18, hW⟩ : ∃ W, wc14.alloc (.cells #[.slice none 0 0, .string ⟨#[]⟩, .string ⟨#[]⟩, .int .i64 0, .int .i64 0, .string ⟨#[]⟩, .slice none 0 0, .slice none 0 0] 41) = W := ⟨_, rfl⟩
          rw [hW] at hb hzwa18 N0 ⊢
          have N1 := Lib.hid N0
          have Ewa18 := Lib.hid (below_then Ewc14.out hb (Nat.le_refl _))
          have Mwa18 := hb.size
          have Bwa18 := Lib.hid (Bwc14.out.step hb)
          have Pwa18 := Lib.hid (Pwc14.out.step hb)
          have SKwa18 := Lib.hid (SKwc14.out.below hb)
          have SAwa18 := Lib.hid (SA0.out.below hb)
          clear hb hW N0
          refine hK.out _ _ Bwa18.out (fun _ => ?_)
          clear hK K
          try simp only [Act.put, List.setIfInBounds_toArray, List.set_cons_zero, List.set_cons_succ]
          refine wpAnyH_ready (rs := [6]) (by kernel_rfl) (by simp) ?_
          refine AllReadyH.cons rfl (fun K hK => ?_) ?_
          · refine step_sackN rfl inf_pair (.tmp 8) (.tmp 10) rfl (base := w.heap.size + 2) (v := .slice (some ⟨Wd.heap.size, 0, none⟩) 0 0) (X := []) (Y := lq6) rfl SKwa18.out (by omega) rfl rfl (HPS.out wa18 Ewa18.out _) (by simp; omega) ?_
            intro v6 wp19 hs hg hat
            have hg' : wa18.grownBy wp19 (some Wd.heap.size) := hg
            have Mwp19 := hg'.size
            obtain ⟨A6, c6, e6, _⟩ := hs.form
            have SP0 := Lib.hid (And.intro hs hat)
            have RW0 := Lib.hid hs.row
            have Ewp19 := Lib.hid (Ewa18.out.grown hg' (by omega) (fun k hk => by cases hk; omega))
            have Bwp19 := Lib.hid (grown_blk Bwa18.out hg' (fun e => by injection e with e; omega))
            have Pwp19 := Lib.hid (grown_blk Pwa18.out hg' (fun e => by injection e with e; omega))
            have SAwp19 := Lib.hid (SAwa18.out.agree' ⟨hg'.size, fun b hb hlt => hg'.block b hlt (fun e => by injection e with e; have h1 := hb.1; have h2 := hb.2; omega)⟩)
            have Nwp19 := Lib.hid (grown_blk N1.out hg' (fun e => by injection e with e; omega))
            clear hs hg hg' hat
            subst e6
            refine hK.out _ _ Bwp19.out (fun _ => ?_)
            clear hK K
            try simp only [Act.put, List.setIfInBounds_toArray, List.set_cons_zero, List.set_cons_succ]
            refine wpAnyH_take (i := 7) (v := .agg #[.slice A1 a.path.length c1, .string a.typ, .string a.nam, .int .i64 a.kind, .int .i64 a.n, .string a.key, .slice A6 lq6.length c6, .slice none 0 0]) rfl (by kernel_rfl) (by kernel_rfl) (by kernel_rfl) (fun _ _ _ h => h) (Or.inl ⟨by rfl, ?_⟩) Bwp19.out ?_
            · intro w' hSw
              go_simp
            try simp only [Act.put, List.setIfInBounds_toArray, List.set_cons_zero, List.set_cons_succ]
            refine wpAnyH_ready (rs := [9]) (by kernel_rfl) (by simp) ?_
            refine AllReadyH.cons rfl (fun K hK => ?_) ?_
            · have pN := Nwp19.out.cell
              have fN := Nwp19.out.free
              have lN := Nwp19.out.lt
              go_simp
              refine hK.out _ _ (far8 Bwp19.out (by omega) _ _ _ _ _ _ _ _) (fun _ => ?_)
              clear hK K
              try simp only [Act.put, List.setIfInBounds_toArray, List.set_cons_zero, List.set_cons_succ]
              refine wpAnyH_done (by kernel_rfl) ?_ _
              go_wp2_with fail
              go_meet
              have hC1 : Cells (fun x => w.heap.size + 1 < x ∧ x ≠ wc14.heap.size) 2 wp19 shAddr_ [.l lq0, .s sq1, .s sq2, .i xq3, .i xq4, .s sq5] [.slice A1 a.path.length c1, .string a.typ, .string a.nam, .int .i64 a.kind, .int .i64 a.n, .string a.key] := by
                have h1 := Cells.monoB (B' := fun x => w.heap.size + 1 < x ∧ x ≠ wc14.heap.size) (SAwp19.out.ups (m := 2) (by omega)).cells (fun b hb _ => by have h1 := hb.1; have h2 := hb.2; exact ⟨by omega, by omega⟩)
                rw [HCN.out] at h1; exact h1
              have hC2 : Cell (fun x => w.heap.size + 1 < x ∧ x ≠ wc14.heap.size) 2 wp19 (.l 7) (.l lq6) (.slice A6 lq6.length c6) := pairs_done SP0.out.1 (fun k hk => by
                have hrw := RW0.out k hk
                rcases SP0.out.2 with e | e
                · have e2 : k = Wd.heap.size := by have := hk.symm.trans e; simpa [Value.ownBlock] using this
                  exact ⟨by omega, by omega⟩
                · have e2 : k = wa18.heap.size := by have := hk.symm.trans e; simpa using this
                  exact ⟨by omega, by omega⟩)
              refine ⟨wc14.heap.size, A1, c1, A6, c6, rfl, by omega, blk8s Nwp19.out _ _ _ _ _ _ _ _, Cells.agree hC1 ((agree8 _ _ _ _ _ _ _ _).mono fun b hb => hb.2), hC2.agree ((agree8 _ _ _ _ _ _ _ _).mono fun b hb => hb.2), far8 Bwp19.out (by omega) _ _ _ _ _ _ _ _, far8 Pwp19.out (by omega) _ _ _ _ _ _ _ _, ?_⟩
              iterate 8 refine Below.setCell ?_ (by show w.heap.size ≤ wc14.heap.size; omega) _
              exact Ewp19.out
            exact AllReadyH.nil
          exact AllReadyH.nil
        exact AllReadyH.nil
      refine AllReadyH.cons rfl (fun K hK => ?_) ?_
      · go_simp
        have hb := below_a1 ws13 (.cells #[.slice none 0 0, .string ⟨#[]⟩, .string ⟨#[]⟩, .int .i64 0, .int .i64 0, .string ⟨#[]⟩, .slice none 0 0, .slice none 0 0] 41)
        have hzwa21 : ws13.heap.size < (ws13.alloc (.cells #[.slice none 0 0, .string ⟨#[]⟩, .string ⟨#[]⟩, .int .i64 0, .int .i64 0, .string ⟨#[]⟩, .slice none 0 0, .slice none 0 0] 41)).heap.size := by rw [World.size_alloc]; omega
        have N0 := Blk.new ws13 41 #[.slice none 0 0, .string ⟨#[]⟩, .string ⟨#[]⟩, .int .i64 0, .int .i64 0, .string ⟨#[]⟩, .slice none 0 0, .slice none 0 0]
        obtain ⟨wa21, hW⟩ : ∃ W, ws13.alloc (.cells #[.slice none 0 0, .string ⟨#[]⟩, .string ⟨#[]⟩, .int .i64 0, .int .i64 0, .string ⟨#[]⟩, .slice none 0 0, .slice none 0 0] 41) = W := ⟨_, rfl⟩
        rw [hW] at hb hzwa21 N0 ⊢
        have N1 := Lib.hid N0
        have Ewa21 := Lib.hid (below_then Ews13.out hb (Nat.le_refl _))
        have Mwa21 := hb.size
        have Bwa21 := Lib.hid (Bws13.out.step hb)
        have Pwa21 := Lib.hid (Pws13.out.step hb)
        have SKwa21 := Lib.hid (SK1.out.below hb)
        clear hb hW N0
        refine hK.out _ _ Bwa21.out (fun _ => ?_)
        clear hK K
        try simp only [Act.put, List.setIfInBounds_toArray, List.set_cons_zero, List.set_cons_succ]
        refine wpAnyH_ready (rs := [2]) (by kernel_rfl) (by simp) ?_
        refine AllReadyH.cons rfl (fun K hK => ?_) ?_
        · go_simp
          refine (KA _ Ewa21.out).out.mono ?_
          rintro _ wc22 ⟨A1, c1, rfl, ho, hb⟩
          have SA0 := Lib.hid (own_addr (base := wa21.heap.size) (d := a) ho HSZ.out)
          have Ewc22 := Lib.hid (below_then Ewa21.out hb (Nat.le_refl _))
          have Mwc22 := hb.size
          have Bwc22 := Lib.hid (Bwa21.out.step hb)
          have Pwc22 := Lib.hid (Pwa21.out.step hb)
          have SKwc22 := Lib.hid (SKwa21.out.below hb)
          have Nwc22 := Lib.hid (N1.out.step hb)
          clear ho hb
          try go_wp2_with fail
          refine hK.out _ _ Bwc22.out (fun _ => ?_)
          clear hK K
          try simp only [Act.put, List.setIfInBounds_toArray, List.set_cons_zero, List.set_cons_succ]
          refine wpAnyH_ready (rs := [6]) (by kernel_rfl) (by simp) ?_
          refine AllReadyH.cons rfl (fun K hK => ?_) ?_
          · refine step_sackN rfl inf_pair (.tmp 8) (.tmp 10) rfl (base := w.heap.size + 2) (v := .slice (some ⟨Wd.heap.size, 0, none⟩) 0 0) (X := []) (Y := lq6) rfl SKwc22.out (by omega) rfl rfl (HPS.out wc22 Ewc22.out _) (by simp; omega) ?_
            intro v6 wp23 hs hg hat
            have hg' : wc22.grownBy wp23 (some Wd.heap.size) := hg
            have Mwp23 := hg'.size
            obtain ⟨A6, c6, e6, _⟩ := hs.form
            have SP0 := Lib.hid (And.intro hs hat)
            have RW0 := Lib.hid hs.row
            have Ewp23 := Lib.hid (Ewc22.out.grown hg' (by omega) (fun k hk => by cases hk; omega))
            have Bwp23 := Lib.hid (grown_blk Bwc22.out hg' (fun e => by injection e with e; omega))
            have Pwp23 := Lib.hid (grown_blk Pwc22.out hg' (fun e => by injection e with e; omega))
            have Nwp23 := Lib.hid (grown_blk Nwc22.out hg' (fun e => by injection e with e; omega))
            have SAwp23 := Lib.hid (SA0.out.agree' ⟨hg'.size, fun b hb hlt => hg'.block b hlt (fun e => by injection e with e; have h1 := hb.1; have h2 := hb.2; omega)⟩)
            clear hs hg hg' hat
            subst e6
            refine hK.out _ _ Bwp23.out (fun _ => ?_)
            clear hK K
            try simp only [Act.put, List.setIfInBounds_toArray, List.set_cons_zero, List.set_cons_succ]
            refine wpAnyH_take (i := 7) (v := .agg #[.slice A1 a.path.length c1, .string a.typ, .string a.nam, .int .i64 a.kind, .int .i64 a.n, .string a.key, .slice A6 lq6.length c6, .slice none 0 0]) rfl (by kernel_rfl) (by kernel_rfl) (by kernel_rfl) (fun _ _ _ h => h) (Or.inl ⟨by rfl, ?_⟩) Bwp23.out ?_
            · intro w' hSw
              go_simp
            try simp only [Act.put, List.setIfInBounds_toArray, List.set_cons_zero, List.set_cons_succ]
            refine wpAnyH_ready (rs := [9]) (by kernel_rfl) (by simp) ?_
            refine AllReadyH.cons rfl (fun K hK => ?_) ?_
            · have pN := Nwp23.out.cell
              have fN := Nwp23.out.free
              have lN := Nwp23.out.lt
              go_simp
              refine hK.out _ _ (far8 Bwp23.out (by omega) _ _ _ _ _ _ _ _) (fun _ => ?_)
              clear hK K
              try simp only [Act.put, List.setIfInBounds_toArray, List.set_cons_zero, List.set_cons_succ]
              refine wpAnyH_done (by kernel_rfl) ?_ _
              go_wp2_with fail
              go_meet
              have hC1 : Cells (fun x => w.heap.size + 1 < x ∧ x ≠ ws13.heap.size) 2 wp23 shAddr_ [.l lq0, .s sq1, .s sq2, .i xq3, .i xq4, .s sq5] [.slice A1 a.path.length c1, .string a.typ, .string a.nam, .int .i64 a.kind, .int .i64 a.n, .string a.key] := by
                have h1 := Cells.monoB (B' := fun x => w.heap.size + 1 < x ∧ x ≠ ws13.heap.size) (SAwp23.out.ups (m := 2) (by omega)).cells (fun b hb _ => by have h1 := hb.1; have h2 := hb.2; exact ⟨by omega, by omega⟩)
                rw [HCN.out] at h1; exact h1
              have hC2 : Cell (fun x => w.heap.size + 1 < x ∧ x ≠ ws13.heap.size) 2 wp23 (.l 7) (.l lq6) (.slice A6 lq6.length c6) := pairs_done SP0.out.1 (fun k hk => by
                have hrw := RW0.out k hk
                rcases SP0.out.2 with e | e
                · have e2 : k = Wd.heap.size := by have := hk.symm.trans e; simpa [Value.ownBlock] using this
                  exact ⟨by omega, by omega⟩
                · have e2 : k = wc22.heap.size := by have := hk.symm.trans e; simpa using this
                  exact ⟨by omega, by omega⟩)
              refine ⟨ws13.heap.size, A1, c1, A6, c6, rfl, by omega, blk8s Nwp23.out _ _ _ _ _ _ _ _, Cells.agree hC1 ((agree8 _ _ _ _ _ _ _ _).mono fun b hb => hb.2), hC2.agree ((agree8 _ _ _ _ _ _ _ _).mono fun b hb => hb.2), far8 Bwp23.out (by omega) _ _ _ _ _ _ _ _, far8 Pwp23.out (by omega) _ _ _ _ _ _ _ _, ?_⟩
              iterate 8 refine Below.setCell ?_ (by show w.heap.size ≤ ws13.heap.size; omega) _
              exact Ewp23.out
            exact AllReadyH.nil
          exact AllReadyH.nil
        exact AllReadyH.nil
      exact AllReadyH.nil
    refine AllReadyH.cons rfl (fun K hK => ?_) ?_
    · go_simp
      have hb := below_a1 Wd (.cells #[.slice none 0 0, .string ⟨#[]⟩, .string ⟨#[]⟩, .int .i64 0, .int .i64 0, .string ⟨#[]⟩, .slice none 0 0, .slice none 0 0] 41)
      have hzwa25 : Wd.heap.size < (Wd.alloc (.cells #[.slice none 0 0, .string ⟨#[]⟩, .string ⟨#[]⟩, .int .i64 0, .int .i64 0, .string ⟨#[]⟩, .slice none 0 0, .slice none 0 0] 41)).heap.size := by rw [World.size_alloc]; omega
      have N0 := Blk.new Wd 41 #[.slice none 0 0, .string ⟨#[]⟩, .string ⟨#[]⟩, .int .i64 0, .int .i64 0, .string ⟨#[]⟩, .slice none 0 0, .slice none 0 0]
      obtain ⟨wa25, hW⟩ : ∃ W, Wd.alloc (.cells #[.slice none 0 0, .string ⟨#[]⟩, .string ⟨#[]⟩, .int .i64 0, .int .i64 0, .string ⟨#[]⟩, .slice none 0 0, .slice none 0 0] 41) = W := ⟨_, rfl⟩
      rw [hW] at hb hzwa25 N0 ⊢
      have N1 := Lib.hid N0
      have Ewa25 := Lib.hid (below_then EWd.out hb (Nat.le_refl _))
      have Mwa25 := hb.size
      have Bwa25 := Lib.hid (Bd.out.step hb)
      have Pwa25 := Lib.hid (Pd.out.step hb)
      clear hb hW N0
      refine hK.out _ _ Bwa25.out (fun _ => ?_)
      clear hK K
      try simp only [Act.put, List.setIfInBounds_toArray, List.set_cons_zero, List.set_cons_succ]
      refine wpAnyH_ready (rs := [2, 3]) (by kernel_rfl) (by simp) ?_
      refine AllReadyH.cons rfl (fun K hK => ?_) ?_
      · go_simp
        refine (KA _ Ewa25.out).out.mono ?_
        rintro _ wc26 ⟨A1, c1, rfl, ho, hb⟩
        have SA0 := Lib.hid (own_addr (base := wa25.heap.size) (d := a) ho HSZ.out)
        have Ewc26 := Lib.hid (below_then Ewa25.out hb (Nat.le_refl _))
        have Mwc26 := hb.size
        have Bwc26 := Lib.hid (Bwa25.out.step hb)
        have Pwc26 := Lib.hid (Pwa25.out.step hb)
        have Nwc26 := Lib.hid (N1.out.step hb)
        clear ho hb
        try go_wp2_with fail
        refine hK.out _ _ Bwc26.out (fun _ => ?_)
        clear hK K
        try simp only [Act.put, List.setIfInBounds_toArray, List.set_cons_zero, List.set_cons_succ]
        refine wpAnyH_ready (rs := [3]) (by kernel_rfl) (by simp) ?_
        refine AllReadyH.cons rfl (fun K hK => ?_) ?_
        · go_simp
          have hb := below_a1 wc26 (.cells #[] 86)
          have hzws27 : wc26.heap.size < (wc26.alloc (.cells #[] 86)).heap.size := by rw [World.size_alloc]; omega
          have SK0 := Sack.empty (n := 1) (w := wc26) (base := w.heap.size + 2) (T := 86) (e := 7) (by omega)
          obtain ⟨ws27, hW⟩ : ∃ W, wc26.alloc (.cells #[] 86) = W := ⟨_, rfl⟩
          rw [hW] at hb hzws27 SK0 ⊢
          have SK1 := Lib.hid SK0
          have Ews27 := Lib.hid (below_then Ewc26.out hb (Nat.le_refl _))
          have Mws27 := hb.size
          have Bws27 := Lib.hid (Bwc26.out.step hb)
          have Pws27 := Lib.hid (Pwc26.out.step hb)
          have Nws27 := Lib.hid (Nwc26.out.step hb)
          have SAws27 := Lib.hid (SA0.out.below hb)
          clear hb hW SK0
          refine hK.out _ _ Bws27.out (fun _ => ?_)
          clear hK K
          try simp only [Act.put, List.setIfInBounds_toArray, List.set_cons_zero, List.set_cons_succ]
          refine wpAnyH_ready (rs := [6]) (by kernel_rfl) (by simp) ?_
          refine AllReadyH.cons rfl (fun K hK => ?_) ?_
          · refine step_sackN rfl inf_pair (.tmp 8) (.tmp 10) rfl (base := w.heap.size + 2) (v := .slice (some ⟨wc26.heap.size, 0, none⟩) 0 0) (X := []) (Y := lq6) rfl SK1.out (by omega) rfl rfl (HPS.out ws27 Ews27.out _) (by simp; omega) ?_
            intro v6 wp28 hs hg hat
            have hg' : ws27.grownBy wp28 (some wc26.heap.size) := hg
            have Mwp28 := hg'.size
            obtain ⟨A6, c6, e6, _⟩ := hs.form
            have SP0 := Lib.hid (And.intro hs hat)
            have RW0 := Lib.hid hs.row
            have Ewp28 := Lib.hid (Ews27.out.grown hg' (by omega) (fun k hk => by cases hk; omega))
            have Bwp28 := Lib.hid (grown_blk Bws27.out hg' (fun e => by injection e with e; omega))
            have Pwp28 := Lib.hid (grown_blk Pws27.out hg' (fun e => by injection e with e; omega))
            have Nwp28 := Lib.hid (grown_blk Nws27.out hg' (fun e => by injection e with e; omega))
            have SAwp28 := Lib.hid (SAws27.out.agree' ⟨hg'.size, fun b hb hlt => hg'.block b hlt (fun e => by injection e with e; have h1 := hb.1; have h2 := hb.2; omega)⟩)
            clear hs hg hg' hat
            subst e6
            refine hK.out _ _ Bwp28.out (fun _ => ?_)
            clear hK K
            try simp only [Act.put, List.setIfInBounds_toArray, List.set_cons_zero, List.set_cons_succ]
            refine wpAnyH_take (i := 7) (v := .agg #[.slice A1 a.path.length c1, .string a.typ, .string a.nam, .int .i64 a.kind, .int .i64 a.n, .string a.key, .slice A6 lq6.length c6, .slice none 0 0]) rfl (by kernel_rfl) (by kernel_rfl) (by kernel_rfl) (fun _ _ _ h => h) (Or.inl ⟨by rfl, ?_⟩) Bwp28.out ?_
            · intro w' hSw
              go_simp
            try simp only [Act.put, List.setIfInBounds_toArray, List.set_cons_zero, List.set_cons_succ]
            refine wpAnyH_ready (rs := [9]) (by kernel_rfl) (by simp) ?_
            refine AllReadyH.cons rfl (fun K hK => ?_) ?_
            · have pN := Nwp28.out.cell
              have fN := Nwp28.out.free
              have lN := Nwp28.out.lt
              go_simp
              refine hK.out _ _ (far8 Bwp28.out (by omega) _ _ _ _ _ _ _ _) (fun _ => ?_)
              clear hK K
              try simp only [Act.put, List.setIfInBounds_toArray, List.set_cons_zero, List.set_cons_succ]
              refine wpAnyH_done (by kernel_rfl) ?_ _
              go_wp2_with fail
              go_meet
              have hC1 : Cells (fun x => w.heap.size + 1 < x ∧ x ≠ Wd.heap.size) 2 wp28 shAddr_ [.l lq0, .s sq1, .s sq2, .i xq3, .i xq4, .s sq5] [.slice A1 a.path.length c1, .string a.typ, .string a.nam, .int .i64 a.kind, .int .i64 a.n, .string a.key] := by
                have h1 := Cells.monoB (B' := fun x => w.heap.size + 1 < x ∧ x ≠ Wd.heap.size) (SAwp28.out.ups (m := 2) (by omega)).cells (fun b hb _ => by have h1 := hb.1; have h2 := hb.2; exact ⟨by omega, by omega⟩)
                rw [HCN.out] at h1; exact h1
              have hC2 : Cell (fun x => w.heap.size + 1 < x ∧ x ≠ Wd.heap.size) 2 wp28 (.l 7) (.l lq6) (.slice A6 lq6.length c6) := pairs_done SP0.out.1 (fun k hk => by
                have hrw := RW0.out k hk
                rcases SP0.out.2 with e | e
                · have e2 : k = wc26.heap.size := by have := hk.symm.trans e; simpa [Value.ownBlock] using this
                  exact ⟨by omega, by omega⟩
                · have e2 : k = ws27.heap.size := by have := hk.symm.trans e; simpa using this
                  exact ⟨by omega, by omega⟩)
              refine ⟨Wd.heap.size, A1, c1, A6, c6, rfl, by omega, blk8s Nwp28.out _ _ _ _ _ _ _ _, Cells.agree hC1 ((agree8 _ _ _ _ _ _ _ _).mono fun b hb => hb.2), hC2.agree ((agree8 _ _ _ _ _ _ _ _).mono fun b hb => hb.2), far8 Bwp28.out (by omega) _ _ _ _ _ _ _ _, far8 Pwp28.out (by omega) _ _ _ _ _ _ _ _, ?_⟩
              iterate 8 refine Below.setCell ?_ (by show w.heap.size ≤ Wd.heap.size; omega) _
              exact Ewp28.out
            exact AllReadyH.nil
          exact AllReadyH.nil
        exact AllReadyH.nil
      refine AllReadyH.cons rfl (fun K hK => ?_) ?_
      · go_simp
        have hb := below_a1 wa25 (.cells #[] 86)
        have hzws30 : wa25.heap.size < (wa25.alloc (.cells #[] 86)).heap.size := by rw [World.size_alloc]; omega
        have SK0 := Sack.empty (n := 1) (w := wa25) (base := w.heap.size + 2) (T := 86) (e := 7) (by omega)
        obtain ⟨ws30, hW⟩ : ∃ W, wa25.alloc (.cells #[] 86) = W := ⟨_, rfl⟩
        rw [hW] at hb hzws30 SK0 ⊢
        have SK1 := Lib.hid SK0
        have Ews30 := Lib.hid (below_then Ewa25.out hb (Nat.le_refl _))
        have Mws30 := hb.size
        have Bws30 := Lib.hid (Bwa25.out.step hb)
        have Pws30 := Lib.hid (Pwa25.out.step hb)
        have Nws30 := Lib.hid (N1.out.step hb)
        clear hb hW SK0
        refine hK.out _ _ Bws30.out (fun _ => ?_)
        clear hK K
        try simp only [Act.put, List.setIfInBounds_toArray, List.set_cons_zero, List.set_cons_succ]
        refine wpAnyH_ready (rs := [2]) (by kernel_rfl) (by simp) ?_
        refine AllReadyH.cons rfl (fun K hK => ?_) ?_
        · go_simp
          refine (KA _ Ews30.out).out.mono ?_
          rintro _ wc31 ⟨A1, c1, rfl, ho, hb⟩
          have SA0 := Lib.hid (own_addr (base := ws30.heap.size) (d := a) ho HSZ.out)
          have Ewc31 := Lib.hid (below_then Ews30.out hb (Nat.le_refl _))
          have Mwc31 := hb.size
          have Bwc31 := Lib.hid (Bws30.out.step hb)
          have Pwc31 := Lib.hid (Pws30.out.step hb)
          have Nwc31 := Lib.hid (Nws30.out.step hb)
          have SKwc31 := Lib.hid (SK1.out.below hb)
          clear ho hb
          try go_wp2_with fail
          refine hK.out _ _ Bwc31.out (fun _ => ?_)
          clear hK K
          try simp only [Act.put, List.setIfInBounds_toArray, List.set_cons_zero, List.set_cons_succ]
          refine wpAnyH_ready (rs := [6]) (by kernel_rfl) (by simp) ?_
          refine AllReadyH.cons rfl (fun K hK => ?_) ?_
          · refine step_sackN rfl inf_pair (.tmp 8) (.tmp 10) rfl (base := w.heap.size + 2) (v := .slice (some ⟨wa25.heap.size, 0, none⟩) 0 0) (X := []) (Y := lq6) rfl SKwc31.out (by omega) rfl rfl (HPS.out wc31 Ewc31.out _) (by simp; omega) ?_
            intro v6 wp32 hs hg hat
            have hg' : wc31.grownBy wp32 (some wa25.heap.size) := hg
            have Mwp32 := hg'.size
            obtain ⟨A6, c6, e6, _⟩ := hs.form
            have SP0 := Lib.hid (And.intro hs hat)
            have RW0 := Lib.hid hs.row
            have Ewp32 := Lib.hid (Ewc31.out.grown hg' (by omega) (fun k hk => by cases hk; omega))
            have Bwp32 := Lib.hid (grown_blk Bwc31.out hg' (fun e => by injection e with e; omega))
            have Pwp32 := Lib.hid (grown_blk Pwc31.out hg' (fun e => by injection e with e; omega))
            have Nwp32 := Lib.hid (grown_blk Nwc31.out hg' (fun e => by injection e with e; omega))
            have SAwp32 := Lib.hid (SA0.out.agree' ⟨hg'.size, fun b hb hlt => hg'.block b hlt (fun e => by injection e with e; have h1 := hb.1; have h2 := hb.2; omega)⟩)
            clear hs hg hg' hat
            subst e6
            refine hK.out _ _ Bwp32.out (fun _ => ?_)
            clear hK K
            try simp only [Act.put, List.setIfInBounds_toArray, List.set_cons_zero, List.set_cons_succ]
            refine wpAnyH_take (i := 7) (v := .agg #[.slice A1 a.path.length c1, .string a.typ, .string a.nam, .int .i64 a.kind, .int .i64 a.n, .string a.key, .slice A6 lq6.length c6, .slice none 0 0]) rfl (by kernel_rfl) (by kernel_rfl) (by kernel_rfl) (fun _ _ _ h => h) (Or.inl ⟨by rfl, ?_⟩) Bwp32.out ?_
            · intro w' hSw
              go_simp
            try simp only [Act.put, List.setIfInBounds_toArray, List.set_cons_zero, List.set_cons_succ]
            refine wpAnyH_ready (rs := [9]) (by kernel_rfl) (by simp) ?_
            refine AllReadyH.cons rfl (fun K hK => ?_) ?_
            · have pN := Nwp32.out.cell
              have fN := Nwp32.out.free
              have lN := Nwp32.out.lt
              go_simp
              refine hK.out _ _ (far8 Bwp32.out (by omega) _ _ _ _ _ _ _ _) (fun _ => ?_)
              clear hK K
              try simp only [Act.put, List.setIfInBounds_toArray, List.set_cons_zero, List.set_cons_succ]
              refine wpAnyH_done (by kernel_rfl) ?_ _
              go_wp2_with fail
              go_meet
              have hC1 : Cells (fun x => w.heap.size + 1 < x ∧ x ≠ Wd.heap.size) 2 wp32 shAddr_ [.l lq0, .s sq1, .s sq2, .i xq3, .i xq4, .s sq5] [.slice A1 a.path.length c1, .string a.typ, .string a.nam, .int .i64 a.kind, .int .i64 a.n, .string a.key] := by
                have h1 := Cells.monoB (B' := fun x => w.heap.size + 1 < x ∧ x ≠ Wd.heap.size) (SAwp32.out.ups (m := 2) (by omega)).cells (fun b hb _ => by have h1 := hb.1; have h2 := hb.2; exact ⟨by omega, by omega⟩)
                rw [HCN.out] at h1; exact h1
              have hC2 : Cell (fun x => w.heap.size + 1 < x ∧ x ≠ Wd.heap.size) 2 wp32 (.l 7) (.l lq6) (.slice A6 lq6.length c6) := pairs_done SP0.out.1 (fun k hk => by
                have hrw := RW0.out k hk
                rcases SP0.out.2 with e | e
                · have e2 : k = wa25.heap.size := by have := hk.symm.trans e; simpa [Value.ownBlock] using this
                  exact ⟨by omega, by omega⟩
                · have e2 : k = wc31.heap.size := by have := hk.symm.trans e; simpa using this
                  exact ⟨by omega, by omega⟩)
              refine ⟨Wd.heap.size, A1, c1, A6, c6, rfl, by omega, blk8s Nwp32.out _ _ _ _ _ _ _ _, Cells.agree hC1 ((agree8 _ _ _ _ _ _ _ _).mono fun b hb => hb.2), hC2.agree ((agree8 _ _ _ _ _ _ _ _).mono fun b hb => hb.2), far8 Bwp32.out (by omega) _ _ _ _ _ _ _ _, far8 Pwp32.out (by omega) _ _ _ _ _ _ _ _, ?_⟩
              iterate 8 refine Below.setCell ?_ (by show w.heap.size ≤ Wd.heap.size; omega) _
              exact Ewp32.out
            exact AllReadyH.nil
          exact AllReadyH.nil
        exact AllReadyH.nil
      exact AllReadyH.nil
    exact AllReadyH.nil
  case rest =>
    obtain ⟨g, A1, c1, A6, c6, rfl, hg, hN, hA, hP, hB, hR, hb⟩ := hcut
    have HAX := Lib.hid hA
    have HPX := Lib.hid hP
    have HRX := Lib.hid hR
    have HBX := Lib.hid hB
    have zg := hN.lt
    have sx := hb.size
    have hne1 : ¬ g = w.heap.size := by omega
    have hne2 : ¬ w.heap.size = g := by omega
    have HG1 := Lib.hid hg
    clear hA hP hR hB E0 B0 P0
    have HNX := Lib.hid hN
    have HEX := Lib.hid hb
    clear hN hb hz0
    go_wp2
    go_loopw [4] (fun i wr => ∃ (k : Nat) (v : Value), k ≤ lq7.length ∧ i = .int .i64 k ∧ Bag 1 wr wc.heap.size 37 2 v (lq7.take k) ∧ Blk wr g 41 #[.slice A1 a.path.length c1, .string a.typ, .string a.nam, .int .i64 a.kind, .int .i64 a.n, .string a.key, .slice A6 lq6.length c6, v] ∧ Agree (fun x => x ≠ g ∧ x < wc.heap.size) wc wr ∧ Below w.heap.size w wr) (fun i _ => lq7.length - (RowKit.intOf i).toNat)
    case atStart => exact ⟨0, _, Nat.zero_le _, rfl, Bag.nil _ _ _ _ _, HNX.out, Agree.refl _ _, HEX.out⟩
    case round =>
      obtain ⟨k, v, hk, rfl, hbag, hN, hK, hb⟩ := hrel
      have HBG := Lib.hid hbag
      have HNR := Lib.hid hN
      have HKR := Lib.hid hK
      have E1 := Lib.hid hb
      have s1 := hb.size
      have s2 := hK.size
      have hBr : Blk wr w.heap.size 41 #[.slice Aq0 lq0.length cq0, .string sq1, .string sq2, .int .i64 xq3, .int .i64 xq4, .string sq5, .slice Aq6 lq6.length cq6, .slice Aq7 lq7.length cq7] := (hK.block w.heap.size ⟨fun e => hne1 e.symm, HBX.out.lt⟩ HBX.out.lt).trans HBX.out
      have HBR := Lib.hid hBr
      have n1 := hN.cell
      have b1 := hBr.cell
      obtain ⟨A7, c7, e7, _⟩ := hbag.form
      clear hbag hN hK hb hBr
      by_cases hlt : k < lq7.length
      · obtain ⟨m2, b2, o2, us2, hm2, eA, _, hbl2, hr2, hin2⟩ := HN.out.now.item k hlt
        have hrt := need_right' (HN3.out.2.1 k hlt)
        have HTK := Lib.hid (List.take_succ_eq_append_getElem hlt)
        have hkI : (k : Int) < lq7.length := by omega
        obtain ⟨pd, hpd⟩ : ∃ pd, lq7[k] = pd := ⟨_, rfl⟩
        rw [hpd] at hrt hin2 HTK
        have hcan2 := dA_bA hin2
        have hsz2 := sz_of hin2
        have HI := Lib.hid (Gd.ofC hin2)
        obtain ⟨lp0, sp1, sp2, xp3, xp4, sp5, Ap0, cp0, rfl, rfl, -⟩ := open_Addr hin2
        obtain ⟨d, hd⟩ : ∃ d, bA [.l lp0, .s sp1, .s sp2, .i xp3, .i xp4, .s sp5] = d := ⟨_, rfl⟩
        rw [hd] at hrt hcan2 hsz2
        have K2 := fun (W : World) (hW : Below w.heap.size w W) => Lib.hid (l02Copy_r hd hrt (HI.out.below hW).now)
        have HR2 := Lib.hid (show w.rangeAt b2 (o2 + k * 6) _ from hr2)
        have HB2 := Lib.hid hbl2
        have hne3 : ¬ g = b2 := by omega
        have HSZ2 := Lib.hid hsz2
        have HCN2 := Lib.hid hcan2
        have hrw := range_below HR2.out E1.out hbl2
        have p0 : wr.cell? ⟨b2, o2 + k * 6, none⟩ = some (.slice Ap0 lp0.length cp0) := by simpa using hrw 0 _ rfl
        have p1 := hrw 1 _ rfl
        have p2 := hrw 2 _ rfl
        have p3 := hrw 3 _ rfl
        have p4 := hrw 4 _ rfl
        have p5 := hrw 5 _ rfl
        have hlenX : (lq7.take k).length ≤ 400 := by rw [List.length_take]; omega
        subst eA
        clear hr2 hin2 hm2 hpd hsz2 hcan2 hrt HI hd hrw e7
        have HRW := Lib.hid HBG.out.row
        have zc : wc.heap.size ≤ wr.heap.size := s2
        go_wp2_with fail
        refine wp_region_held_drew (S := (fun w' => Blk w' w.heap.size 41 #[.slice Aq0 lq0.length cq0, .string sq1, .string sq2, .int .i64 xq3, .int .i64 xq4, .string sq5, .slice Aq6 lq6.length cq6, .slice (some ⟨b2, o2, none⟩) lq7.length cq7] ∧ w'.rangeAt b2 (o2 + k * 6) [.slice Ap0 lp0.length cp0, .string sp1, .string sp2, .int .i64 xp3, .int .i64 xp4, .string sp5])) (by kernel_rfl) ⟨HBR.out.step (below_d wr 1), range_below HR2.out (below_dn E1.out 1) HB2.out⟩ (fun _ => ?_)
        have hdW := Lib.hid (below_d wr 1)
        have Ed := Lib.hid (below_dn E1.out 1)
        have HBRd := Lib.hid (HBR.out.step hdW.out)
        have HNRd := Lib.hid (HNR.out.step hdW.out)
        have Rd := Lib.hid (range_below HR2.out Ed.out HB2.out)
        have hdS : (wr.drewN 1).heap.size = wr.heap.size := rfl
        have hdr : wr.drew = wr.drewN 1 := rfl
        rw [hdr]
        obtain ⟨Wr, hWr⟩ : ∃ Wr, wr.drewN 1 = Wr := ⟨_, rfl⟩
        rw [hWr] at hdW Ed HBRd HNRd Rd hdS ⊢
        clear hWr hdr p0 p1 p2 p3 p4 p5 n1 b1
        refine wpAnyH_take (i := 0) (v := .pointer (some ⟨g, 7, none⟩)) rfl (by kernel_rfl) (by kernel_rfl) (by kernel_rfl) (fun _ _ _ h => h) (Or.inl ⟨by rfl, ?_⟩) ⟨HBRd.out, Rd.out⟩ ?_
        · intro w' hSw
          go_simp
        try simp only [Act.put, List.setIfInBounds_toArray, List.set_cons_zero, List.set_cons_succ]
        refine wpAnyH_take (i := 2) (v := .pointer (some ⟨w.heap.size, 7, none⟩)) rfl (by kernel_rfl) (by kernel_rfl) (by kernel_rfl) (fun _ _ _ h => h) (Or.inl ⟨by rfl, ?_⟩) ⟨HBRd.out, Rd.out⟩ ?_
        · intro w' hSw
          go_simp
        try simp only [Act.put, List.setIfInBounds_toArray, List.set_cons_zero, List.set_cons_succ]
        refine wpAnyH_take (i := 3) (v := .slice (some ⟨b2, o2, none⟩) lq7.length cq7) rfl (by kernel_rfl) (by kernel_rfl) (by kernel_rfl) (fun _ _ _ h => h) (Or.inl ⟨by rfl, ?_⟩) ⟨HBRd.out, Rd.out⟩ ?_
        · intro w' hSw
          have hc := Blk.cell hSw.1
          go_simp
        try simp only [Act.put, List.setIfInBounds_toArray, List.set_cons_zero, List.set_cons_succ]
        refine wpAnyH_take (i := 4) (v := .int .i64 k) rfl (by kernel_rfl) (by kernel_rfl) (by kernel_rfl) (fun _ _ _ h => h) (Or.inl ⟨by rfl, ?_⟩) ⟨HBRd.out, Rd.out⟩ ?_
        · intro w' hSw
          go_simp
        try simp only [Act.put, List.setIfInBounds_toArray, List.set_cons_zero, List.set_cons_succ]
        refine wpAnyH_take (i := 5) (v := .pointer (some ⟨b2, o2 + k * 6, none⟩)) rfl (by kernel_rfl) (by kernel_rfl) (by kernel_rfl) (fun _ _ _ h => h) (Or.inl ⟨by rfl, ?_⟩) ⟨HBRd.out, Rd.out⟩ ?_
        · intro w' hSw
          go_simp
        try simp only [Act.put, List.setIfInBounds_toArray, List.set_cons_zero, List.set_cons_succ]
        refine wpAnyH_take (i := 6) (v := .agg #[.slice Ap0 lp0.length cp0, .string sp1, .string sp2, .int .i64 xp3, .int .i64 xp4, .string sp5]) rfl (by kernel_rfl) (by kernel_rfl) (by kernel_rfl) (fun _ _ _ h => h) (Or.inl ⟨by rfl, ?_⟩) ⟨HBRd.out, Rd.out⟩ ?_
        · intro w' hSw
          have p0 : w'.cell? ⟨b2, o2 + k * 6, none⟩ = some (.slice Ap0 lp0.length cp0) := by simpa using hSw.2 0 _ rfl
          have p1 := hSw.2 1 _ rfl
          have p2 := hSw.2 2 _ rfl
          have p3 := hSw.2 3 _ rfl
          have p4 := hSw.2 4 _ rfl
          have p5 := hSw.2 5 _ rfl
          go_simp
        try simp only [Act.put, List.setIfInBounds_toArray, List.set_cons_zero, List.set_cons_succ]
        refine wpAnyH_ready (rs := [1, 7]) (by kernel_rfl) (by simp) ?_
        refine AllReadyH.cons rfl (fun K hK => ?_) ?_
        · have nn := Blk.cell HNRd.out
          go_simp
          refine hK.out _ _ ⟨HBRd.out, Rd.out⟩ (fun _ => ?_)
          clear hK K
          try simp only [Act.put, List.setIfInBounds_toArray, List.set_cons_zero, List.set_cons_succ]
          refine wpAnyH_ready (rs := [7]) (by kernel_rfl) (by simp) ?_
          refine AllReadyH.cons rfl (fun K hK => ?_) ?_
          · go_simp
            refine (K2 _ Ed.out).out.mono ?_
            rintro _ w5 ⟨A', c', rfl, ho, hb⟩
            have HB5 := Lib.hid (show Below wr.heap.size wr w5 from below_then hdW.out hb (Nat.le_refl _))
            have E5 := Lib.hid (below_then E1.out HB5.out (Nat.le_refl _))
            have HN5 := Lib.hid (HNR.out.step HB5.out)
            have HBR5 := Lib.hid (HBR.out.step HB5.out)
            have R5 := Lib.hid (range_below HR2.out E5.out HB2.out)
            have s5 := HB5.out.size
            have HO := Lib.hid (show own.Own w5 wr.heap.size _ _ from (hdS ▸ ho))
            clear hb ho
            try go_wp2_with fail
            refine hK.out _ _ ⟨HBR5.out, R5.out⟩ (fun _ => ?_)
            clear hK K
            try simp only [Act.put, List.setIfInBounds_toArray, List.set_cons_zero, List.set_cons_succ]
            refine wpAnyH_ready (rs := [8]) (by kernel_rfl) (by simp) ?_
            refine AllReadyH.cons rfl (fun K hK => ?_) ?_
            · go_simp
              refine hK.out _ _ ⟨HBR5.out.alloc _, range_same R5.out ((below_a1 _ _).block b2 (Nat.lt_of_lt_of_le HB2.out E5.out.size))⟩ (fun _ => ?_)
              clear hK K
              try simp only [Act.put, List.setIfInBounds_toArray, List.set_cons_zero, List.set_cons_succ]
              refine wpAnyH_ready (rs := [9]) (by kernel_rfl) (by simp) ?_
              refine AllReadyH.cons rfl (fun K hK => ?_) ?_
              · refine step_bag1 rfl inf_addr (.tmp 21) (.tmp 28) rfl (w := wr) (w1 := w5) (base := wc.heap.size) (v := v) (F2 := Rg wr.heap.size w5.heap.size) (us := [.slice A' d.path.length c', .string d.typ, .string d.nam, .int .i64 d.kind, .int .i64 d.n, .string d.key]) (ds := dA d) rfl HBG.out HB5.out zc rfl rfl (own_addr HO.out HSZ2.out) (fun x hx => hx) (by omega) ?_
                intro v' w6 hbag6 hg6
                obtain ⟨A7', c7', e7', _⟩ := hbag6.form
                obtain ⟨L, hL⟩ : ∃ L, (List.take k lq7 ++ [dA d]).length = L := ⟨_, rfl⟩
                rw [hL] at e7'
                subst e7'
                have HBG6 := Lib.hid hbag6
                have hrow6 : ∀ q, v.ownBlock = some q → wc.heap.size ≤ q := fun q hq => (HRW.out q hq).1
                have HN6 := Lib.hid (grown_blk (HN5.out.alloc _) hg6 (fun e => by have := hrow6 _ e; omega))
                have HBR6 := Lib.hid (grown_blk (HBR5.out.alloc _) hg6 (fun e => by have := hrow6 _ e; omega))
                have E6 := Lib.hid (grown_below (below_da E5.out (Nat.le_refl _) _) hg6 (by simp <;> omega) (fun q hq => by have := hrow6 q hq; omega))
                have KX6 := Lib.hid (((HKR.out.trans (Agree.of_below HB5.out)).trans (Agree.of_below (below_a1 w5 _))).trans ⟨hg6.size, fun b hb lt => hg6.block b lt (fun e => by have := hrow6 _ e.symm; have := hb.2; omega)⟩)
                have R6 := Lib.hid (range_below HR2.out E6.out HB2.out)
                clear hbag6 hg6 hrow6 hL
                refine hK.out _ _ ⟨HBR6.out, R6.out⟩ (fun _ => ?_)
                clear hK K
                try simp only [Act.put, List.setIfInBounds_toArray, List.set_cons_zero, List.set_cons_succ]
                refine wpAnyH_take (i := 10) (v := .pointer (some ⟨g, 7, none⟩)) rfl (by kernel_rfl) (by kernel_rfl) (by kernel_rfl) (fun _ _ _ h => h) (Or.inl ⟨by rfl, ?_⟩) ⟨HBR6.out, R6.out⟩ ?_
                · intro w' hSw
                  go_simp
                try simp only [Act.put, List.setIfInBounds_toArray, List.set_cons_zero, List.set_cons_succ]
                refine wpAnyH_ready (rs := [11]) (by kernel_rfl) (by simp) ?_
                refine AllReadyH.cons rfl (fun K hK => ?_) ?_
                · have n6 := HN6.out.cell
                  have nf6 := HN6.out.free
                  have nz6 := HN6.out.lt
                  go_simp
                  refine hK.out _ _ ⟨Blk.far HBR6.out (p := ⟨g, 7, none⟩) hne2 _, range_same R6.out (Below.heap_setCell _ _ _ b2 (fun e => hne3 e.symm))⟩ (fun _ => ?_)
                  clear hK K
                  try simp only [Act.put, List.setIfInBounds_toArray, List.set_cons_zero, List.set_cons_succ]
                  refine wpAnyH_done (by kernel_rfl) ?_ _
                  go_wp2
                  go_roundw
                  case rel =>
                    refine ⟨k + 1, _, hlt, by go_num, ?_, Blk.put HN6.out 7 _, KX6.out.set (fun h => h.1 rfl) _, E6.out.setCell (p := ⟨g, 7, none⟩) (by show w.heap.size ≤ g; omega) _⟩
                    have hb7 := bag_far HBG6.out (p := ⟨g, 7, none⟩) zg (.slice A7' L c7')
                    rw [HCN2.out, ← HTK.out] at hb7
                    exact hb7
                  case measure => simp [RowKit.intOf]; omega
                exact AllReadyH.nil
              exact AllReadyH.nil
            exact AllReadyH.nil
          exact AllReadyH.nil
        refine AllReadyH.cons rfl (fun K hK => ?_) ?_
        · go_simp
          refine (K2 _ Ed.out).out.mono ?_
          rintro _ w5 ⟨A', c', rfl, ho, hb⟩
          have HB5 := Lib.hid (show Below wr.heap.size wr w5 from below_then hdW.out hb (Nat.le_refl _))
          have E5 := Lib.hid (below_then E1.out HB5.out (Nat.le_refl _))
          have HN5 := Lib.hid (HNR.out.step HB5.out)
          have HBR5 := Lib.hid (HBR.out.step HB5.out)
          have R5 := Lib.hid (range_below HR2.out E5.out HB2.out)
          have s5 := HB5.out.size
          have HO := Lib.hid (show own.Own w5 wr.heap.size _ _ from (hdS ▸ ho))
          clear hb ho
          try go_wp2_with fail
          refine hK.out _ _ ⟨HBR5.out, R5.out⟩ (fun _ => ?_)
          clear hK K
          try simp only [Act.put, List.setIfInBounds_toArray, List.set_cons_zero, List.set_cons_succ]
          refine wpAnyH_ready (rs := [1, 8]) (by kernel_rfl) (by simp) ?_
          refine AllReadyH.cons rfl (fun K hK => ?_) ?_
          · have nn := Blk.cell HN5.out
            go_simp
            refine hK.out _ _ ⟨HBR5.out, R5.out⟩ (fun _ => ?_)
            clear hK K
            try simp only [Act.put, List.setIfInBounds_toArray, List.set_cons_zero, List.set_cons_succ]
            refine wpAnyH_ready (rs := [8]) (by kernel_rfl) (by simp) ?_
            refine AllReadyH.cons rfl (fun K hK => ?_) ?_
            · go_simp
              refine hK.out _ _ ⟨HBR5.out.alloc _, range_same R5.out ((below_a1 _ _).block b2 (Nat.lt_of_lt_of_le HB2.out E5.out.size))⟩ (fun _ => ?_)
              clear hK K
              try simp only [Act.put, List.setIfInBounds_toArray, List.set_cons_zero, List.set_cons_succ]
              refine wpAnyH_ready (rs := [9]) (by kernel_rfl) (by simp) ?_
              refine AllReadyH.cons rfl (fun K hK => ?_) ?_
              · refine step_bag1 rfl inf_addr (.tmp 21) (.tmp 28) rfl (w := wr) (w1 := w5) (base := wc.heap.size) (v := v) (F2 := Rg wr.heap.size w5.heap.size) (us := [.slice A' d.path.length c', .string d.typ, .string d.nam, .int .i64 d.kind, .int .i64 d.n, .string d.key]) (ds := dA d) rfl HBG.out HB5.out zc rfl rfl (own_addr HO.out HSZ2.out) (fun x hx => hx) (by omega) ?_
                intro v' w6 hbag6 hg6
                obtain ⟨A7', c7', e7', _⟩ := hbag6.form
                obtain ⟨L, hL⟩ : ∃ L, (List.take k lq7 ++ [dA d]).length = L := ⟨_, rfl⟩
                rw [hL] at e7'
                subst e7'
                have HBG6 := Lib.hid hbag6
                have hrow6 : ∀ q, v.ownBlock = some q → wc.heap.size ≤ q := fun q hq => (HRW.out q hq).1
                have HN6 := Lib.hid (grown_blk (HN5.out.alloc _) hg6 (fun e => by have := hrow6 _ e; omega))
                have HBR6 := Lib.hid (grown_blk (HBR5.out.alloc _) hg6 (fun e => by have := hrow6 _ e; omega))
                have E6 := Lib.hid (grown_below (below_da E5.out (Nat.le_refl _) _) hg6 (by simp <;> omega) (fun q hq => by have := hrow6 q hq; omega))
                have KX6 := Lib.hid (((HKR.out.trans (Agree.of_below HB5.out)).trans (Agree.of_below (below_a1 w5 _))).trans ⟨hg6.size, fun b hb lt => hg6.block b lt (fun e => by have := hrow6 _ e.symm; have := hb.2; omega)⟩)
                have R6 := Lib.hid (range_below HR2.out E6.out HB2.out)
                clear hbag6 hg6 hrow6 hL
                refine hK.out _ _ ⟨HBR6.out, R6.out⟩ (fun _ => ?_)
                clear hK K
                try simp only [Act.put, List.setIfInBounds_toArray, List.set_cons_zero, List.set_cons_succ]
                refine wpAnyH_take (i := 10) (v := .pointer (some ⟨g, 7, none⟩)) rfl (by kernel_rfl) (by kernel_rfl) (by kernel_rfl) (fun _ _ _ h => h) (Or.inl ⟨by rfl, ?_⟩) ⟨HBR6.out, R6.out⟩ ?_
                · intro w' hSw
                  go_simp
                try simp only [Act.put, List.setIfInBounds_toArray, List.set_cons_zero, List.set_cons_succ]
                refine wpAnyH_ready (rs := [11]) (by kernel_rfl) (by simp) ?_
                refine AllReadyH.cons rfl (fun K hK => ?_) ?_
                · have n6 := HN6.out.cell
                  have nf6 := HN6.out.free
                  have nz6 := HN6.out.lt
                  go_simp
                  refine hK.out _ _ ⟨Blk.far HBR6.out (p := ⟨g, 7, none⟩) hne2 _, range_same R6.out (Below.heap_setCell _ _ _ b2 (fun e => hne3 e.symm))⟩ (fun _ => ?_)
                  clear hK K
                  try simp only [Act.put, List.setIfInBounds_toArray, List.set_cons_zero, List.set_cons_succ]
                  refine wpAnyH_done (by kernel_rfl) ?_ _
                  go_wp2
                  go_roundw
                  case rel =>
                    refine ⟨k + 1, _, hlt, by go_num, ?_, Blk.put HN6.out 7 _, KX6.out.set (fun h => h.1 rfl) _, E6.out.setCell (p := ⟨g, 7, none⟩) (by show w.heap.size ≤ g; omega) _⟩
                    have hb7 := bag_far HBG6.out (p := ⟨g, 7, none⟩) zg (.slice A7' L c7')
                    rw [HCN2.out, ← HTK.out] at hb7
                    exact hb7
                  case measure => simp [RowKit.intOf]; omega
                exact AllReadyH.nil
              exact AllReadyH.nil
            exact AllReadyH.nil
          refine AllReadyH.cons rfl (fun K hK => ?_) ?_
          · go_simp
            refine hK.out _ _ ⟨HBR5.out.alloc _, range_same R5.out ((below_a1 _ _).block b2 (Nat.lt_of_lt_of_le HB2.out E5.out.size))⟩ (fun _ => ?_)
            clear hK K
            try simp only [Act.put, List.setIfInBounds_toArray, List.set_cons_zero, List.set_cons_succ]
            refine wpAnyH_ready (rs := [1]) (by kernel_rfl) (by simp) ?_
            refine AllReadyH.cons rfl (fun K hK => ?_) ?_
            · have nn := Blk.cell (HN5.out.alloc (.cells #[.slice A' d.path.length c', .string d.typ, .string d.nam, .int .i64 d.kind, .int .i64 d.n, .string d.key] 37))
              go_simp
              refine hK.out _ _ ⟨HBR5.out.alloc _, range_same R5.out ((below_a1 _ _).block b2 (Nat.lt_of_lt_of_le HB2.out E5.out.size))⟩ (fun _ => ?_)
              clear hK K
              try simp only [Act.put, List.setIfInBounds_toArray, List.set_cons_zero, List.set_cons_succ]
              refine wpAnyH_ready (rs := [9]) (by kernel_rfl) (by simp) ?_
              refine AllReadyH.cons rfl (fun K hK => ?_) ?_
              · refine step_bag1 rfl inf_addr (.tmp 21) (.tmp 28) rfl (w := wr) (w1 := w5) (base := wc.heap.size) (v := v) (F2 := Rg wr.heap.size w5.heap.size) (us := [.slice A' d.path.length c', .string d.typ, .string d.nam, .int .i64 d.kind, .int .i64 d.n, .string d.key]) (ds := dA d) rfl HBG.out HB5.out zc rfl rfl (own_addr HO.out HSZ2.out) (fun x hx => hx) (by omega) ?_
                intro v' w6 hbag6 hg6
                obtain ⟨A7', c7', e7', _⟩ := hbag6.form
                obtain ⟨L, hL⟩ : ∃ L, (List.take k lq7 ++ [dA d]).length = L := ⟨_, rfl⟩
                rw [hL] at e7'
                subst e7'
                have HBG6 := Lib.hid hbag6
                have hrow6 : ∀ q, v.ownBlock = some q → wc.heap.size ≤ q := fun q hq => (HRW.out q hq).1
                have HN6 := Lib.hid (grown_blk (HN5.out.alloc _) hg6 (fun e => by have := hrow6 _ e; omega))
                have HBR6 := Lib.hid (grown_blk (HBR5.out.alloc _) hg6 (fun e => by have := hrow6 _ e; omega))
                have E6 := Lib.hid (grown_below (below_da E5.out (Nat.le_refl _) _) hg6 (by simp <;> omega) (fun q hq => by have := hrow6 q hq; omega))
                have KX6 := Lib.hid (((HKR.out.trans (Agree.of_below HB5.out)).trans (Agree.of_below (below_a1 w5 _))).trans ⟨hg6.size, fun b hb lt => hg6.block b lt (fun e => by have := hrow6 _ e.symm; have := hb.2; omega)⟩)
                have R6 := Lib.hid (range_below HR2.out E6.out HB2.out)
                clear hbag6 hg6 hrow6 hL
                refine hK.out _ _ ⟨HBR6.out, R6.out⟩ (fun _ => ?_)
                clear hK K
                try simp only [Act.put, List.setIfInBounds_toArray, List.set_cons_zero, List.set_cons_succ]
                refine wpAnyH_take (i := 10) (v := .pointer (some ⟨g, 7, none⟩)) rfl (by kernel_rfl) (by kernel_rfl) (by kernel_rfl) (fun _ _ _ h => h) (Or.inl ⟨by rfl, ?_⟩) ⟨HBR6.out, R6.out⟩ ?_
                · intro w' hSw
                  go_simp
                try simp only [Act.put, List.setIfInBounds_toArray, List.set_cons_zero, List.set_cons_succ]
                refine wpAnyH_ready (rs := [11]) (by kernel_rfl) (by simp) ?_
                refine AllReadyH.cons rfl (fun K hK => ?_) ?_
                · have n6 := HN6.out.cell
                  have nf6 := HN6.out.free
                  have nz6 := HN6.out.lt
                  go_simp
                  refine hK.out _ _ ⟨Blk.far HBR6.out (p := ⟨g, 7, none⟩) hne2 _, range_same R6.out (Below.heap_setCell _ _ _ b2 (fun e => hne3 e.symm))⟩ (fun _ => ?_)
                  clear hK K
                  try simp only [Act.put, List.setIfInBounds_toArray, List.set_cons_zero, List.set_cons_succ]
                  refine wpAnyH_done (by kernel_rfl) ?_ _
                  go_wp2
                  go_roundw
                  case rel =>
                    refine ⟨k + 1, _, hlt, by go_num, ?_, Blk.put HN6.out 7 _, KX6.out.set (fun h => h.1 rfl) _, E6.out.setCell (p := ⟨g, 7, none⟩) (by show w.heap.size ≤ g; omega) _⟩
                    have hb7 := bag_far HBG6.out (p := ⟨g, 7, none⟩) zg (.slice A7' L c7')
                    rw [HCN2.out, ← HTK.out] at hb7
                    exact hb7
                  case measure => simp [RowKit.intOf]; omega
                exact AllReadyH.nil
              exact AllReadyH.nil
            exact AllReadyH.nil
          exact AllReadyH.nil
        exact AllReadyH.nil
      · obtain rfl : k = lq7.length := by omega
        have HBG' := HBG
        rw [List.take_length] at HBG' e7
        subst e7
        have hPr : Blk wr (w.heap.size + 1) 41 #[.slice none 0 0, .string ⟨#[]⟩, .string ⟨#[]⟩, .int .i64 0, .int .i64 0, .string ⟨#[]⟩, .slice none 0 0, .slice none 0 0] := (HKR.out.block (w.heap.size + 1) ⟨by omega, HRX.out.lt⟩ HRX.out.lt).trans HRX.out
        have p1 := hPr.cell
        have f1 := hPr.free
        have q1 := hPr.lt
        have hA2 : Cells (fun x => w.heap.size + 1 < x) 2 wr shAddr_ [.l lq0, .s sq1, .s sq2, .i xq3, .i xq4, .s sq5] [.slice A1 a.path.length c1, .string a.typ, .string a.nam, .int .i64 a.kind, .int .i64 a.n, .string a.key] := Cells.monoB (Cells.agree (Cells.monoB (B' := fun x => (w.heap.size + 1 < x ∧ x ≠ g) ∧ x < wc.heap.size) HAX.out (fun b h1 h2 => ⟨h1, h2⟩)) (HKR.out.mono fun b hb => ⟨hb.1.2, hb.2⟩)) (fun b h1 _ => h1.1.1)
        have hP2 : Cell (fun x => w.heap.size + 1 < x) 2 wr (.l 7) (.l lq6) (.slice A6 lq6.length c6) := (((HPX.out.mono (B' := fun x => (w.heap.size + 1 < x ∧ x ≠ g) ∧ x < wc.heap.size) (fun b h1 h2 => ⟨h1, h2⟩)).agree (HKR.out.mono fun b hb => ⟨hb.1.2, hb.2⟩)).mono (fun b h1 _ => h1.1.1))
        have hN2 : Cell (fun x => w.heap.size + 1 < x) 2 wr (.l 2) (.l lq7) (.slice A7 lq7.length c7) := HBG'.out.done.cell.mono (fun b h1 _ => by have := h1.1; omega)
        have HA2 := Lib.hid hA2
        have HP2 := Lib.hid hP2
        have HN2 := Lib.hid hN2
        obtain ⟨e0, e1, e2, e3, e4, e5⟩ : dS a.path = lq0 ∧ a.typ = sq1 ∧ a.nam = sq2 ∧ a.kind = xq3 ∧ a.n = xq4 ∧ a.key = sq5 := by have := HCN.out; simpa [dA] using this
        have hln : a.path.length = lq0.length := by rw [← e0]; simp [dS]
        have HAG := Lib.hid (agree8 (w := wr) (g := w.heap.size + 1) (.slice A1 a.path.length c1) (.string a.typ) (.string a.nam) (.int .i64 a.kind) (.int .i64 a.n) (.string a.key) (.slice A6 lq6.length c6) (.slice A7 lq7.length c7))
        have HEQ := Lib.hid (And.intro e1 (And.intro e2 (And.intro e3 (And.intro e4 (And.intro e5 hln)))))
        clear hA2 hP2 hN2 hPr e0 e1 e2 e3 e4 e5 hln
        go_wp2
        refine bodyPost_ret (v := .agg #[.slice A1 a.path.length c1, .string a.typ, .string a.nam, .int .i64 a.kind, .int .i64 a.n, .string a.key, .slice A6 lq6.length c6, .slice A7 lq7.length c7]) (by simp [results, Tryz.results49, go_sem, p1, f1, n1, b1]; try rfl) rfl ⟨A1, c1, A6, c6, A7, c7, ?_, ?_, ?_⟩
        · obtain ⟨e1, e2, e3, e4, e5, hln⟩ := HEQ.out
          rw [hln, e1, e2, e3, e4, e5]
        · obtain ⟨e1, e2, e3, e4, e5, hln⟩ := HEQ.out
          have hag := HAG.out
          obtain ⟨W9, hW9⟩ : ∃ W9, ((((((((wr.setCell ⟨w.heap.size + 1, 0, none⟩ (.slice A1 a.path.length c1)).setCell ⟨w.heap.size + 1, 1, none⟩ (.string a.typ)).setCell ⟨w.heap.size + 1, 2, none⟩ (.string a.nam)).setCell ⟨w.heap.size + 1, 3, none⟩ (.int .i64 a.kind)).setCell ⟨w.heap.size + 1, 4, none⟩ (.int .i64 a.n)).setCell ⟨w.heap.size + 1, 5, none⟩ (.string a.key)).setCell ⟨w.heap.size + 1, 6, none⟩ (.slice A6 lq6.length c6)).setCell ⟨w.heap.size + 1, 7, none⟩ (.slice A7 lq7.length c7)) = W9 := ⟨_, rfl⟩
          rw [hW9] at hag ⊢
          have g1 := Cells.agree HA2.out (hag.mono fun b hb => by omega)
          have g2 := HP2.out.agree (hag.mono fun b hb => by omega)
          have g3 := HN2.out.agree (hag.mono fun b hb => by omega)
          rw [hln, e1, e2, e3, e4, e5] at g1
          obtain ⟨j0, j1, j2, j3, j4, j5, -⟩ := Cells.monoB (B' := fun x => w.heap.size ≤ x) g1 (fun b h1 _ => by omega)
          exact ⟨j0, j1, j2, j3, j4, j5, g2.mono (fun b h1 _ => by omega), g3.mono (fun b h1 _ => by omega), trivial⟩
        · iterate 8 refine Below.setCell ?_ (by simp <;> omega) _
          exact E1.out
end Go.Proofs.YtflfnekaiaplfaaGreat.cf
