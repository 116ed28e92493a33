/- The text of a book, of the program. -/
import Derived.Test.YtnjpddbpnmgcpaaGreatDoorBtI
import Derived.Test.YtnjpddbpnmgcpaaGreatDoorItI
import Derived.Test.YtnjpddbpnmgcpaaGreatDoorJnN
namespace Go.Proofs.YtnjpddbpnmgcpaaGreatDoor.cf
open ad mem vl ex un cm dig Go.Shelf
open Go.ChangeShapes Go.WideShapes Go.ChangeAt Go.RowKit Go.Lib
set_option linter.unusedVariables false
set_option maxRecDepth 8000
set_option linter.unusedSimpArgs false


attribute [local go_sem] Oper.semAt_some
theorem blk_own {W W' : World} {row : Option Nat} {g : Nat} {T : TypeId} {cs : Array Value} (h : Blk W g T cs) (hg : W.grownBy W' row) (hr : ∀ k, row = some k → ∃ o : Obj, W.heap[k]? = some o ∧ o.isCells = false) : Blk W' g T cs := by
  have hlt := h.lt
  unfold Blk at h ⊢
  refine (hg.block g hlt (fun e => ?_)).trans h
  obtain ⟨o, ho, hc⟩ := hr g e.symm
  rw [h] at ho; cases ho; cases hc
theorem box_below {W W' : World} {b : Nat} {t : TypeId} {v : Value} (h : Boxed W b t v) (hb : Below W.heap.size W W') : Boxed W' b t v := (hb.block b h.lt).trans h
theorem stepIn_append {F : Fence} {n : Nat} {P : Program} {ops : Array Oper} {o : Oper} {a : Act} {K : Act → World → Prop} {Q : Exit → Act → World → Prop} {E : Prop} (w : World) (hgd : o.guard = none) (s x : Operand) (t : TypeId)
    (ho : o.op = .call { callee := .builtin .append, args := #[s, x], argTypes := #[t, t] })
    (base : Nat) (e : TypeId) (i : TypeInfo) (z : Value) (size bytes : Nat) (ht : P.underlying t = some (.slice e)) (hi : P.info? e = some i) (hz : i.zero = some z)
    (hsize : i.size = size) (hby : i.bytes = bytes) (hzs : z.cells.size = size) (hsz : 0 < size)
    (v : Value) (k : Nat) (xs : List Value) (hs : a.eval s = v) (hown : w.ownsRow base e size v k xs)
    (ad : Addr) (m c : Nat) (news : List Value) (hx : a.eval x = .slice (some ad) m c) (hl : news.length = m * size) (hnews : ∀ j u, news[j]? = some u → w.cell? (ad.add j) = some u) (h1 : ∀ u ∈ news, u.oneCell' = true)
    (h63 : k + m ≤ maxLen) (hbytes : (k + m) * bytes ≤ 140737488355328) (hbase : base ≤ w.heap.size)
    (h : ∀ v' w', w'.ownsRow base e size v' (k + m) (xs ++ news) → w.grownBy w' v.ownBlock → K (a.put o.dst v') w') :
    if Region.wanted o (yielded ops a.tmps) = true then Oper.wpIn F n P o a w K Q else E := by
  have hw : Region.wanted o (yielded ops a.tmps) = true := by simp [Region.wanted, hgd]
  rw [if_pos hw]
  obtain ⟨v', w', hr, h2, h3, h4, h5⟩ := run_append_own_at (P := P) w base t o.type e i z size bytes ht hi hz hsize hby hzs hsz v k xs hown ad m c news hl hnews h1 h63 hbytes hbase
  unfold Oper.wpIn
  refine ⟨by simp [Oper.about, ho, resolve, Target.leads, Sem.run_pure], ?_⟩
  rw [Oper.semAt_plain F _ _ (by rw [ho]; intro c hc'; cases hc')]
  simp [execOp, ho, resolve, invoke, builtin, hs, hx, hr, Result.andThen]
  exact h v' w' h2 h3
theorem join_own {W : World} {base : Nat} {v : Value} (L : List ByteArray) (h : W.ownsRow base 9 1 v L.length (L.map Value.string)) (hn : L.length ≤ 1099511627776) (hs : (str.cat L).length ≤ 1099511627776) :
    Calls Tryz.prog 23 #[v] W (un.Told W (.string (bs (str.cat L)))) := by
  rcases h.2 with ⟨rfl, h0⟩ | ⟨g, cap, cur, rfl, hb, hg, _⟩
  · obtain rfl : L = [] := List.length_eq_zero_iff.1 h0
    exact str.join_nil W
  · exact str.join_c L g cap W (txt.own_cells h) hn hs (h.lt g rfl).2
noncomputable def tx {B : Nat → Prop} {n : Nat} {wT : World} {G : List DC → Prop} (x : it.Th B n wT G) : Value := .string (bs (thT x.1.1))
theorem own_texts {B : Nat → Prop} {n : Nat} {w1 : World} {G : List DC → Prop} (N L0 C : Nat) (hle : w1.heap.size ≤ C) :
    OwnFrom C (fun (pre : List (it.Th B n w1 G)) W => ((∃ v, Boxed W L0 36 v ∧ W.ownsRow N 9 1 v pre.length (pre.map tx) ∧ True) ∧ Below w1.heap.size w1 W) ∧ N ≤ W.heap.size) := by
  refine OwnFrom.and (OwnFrom.and ?_ ?_) (fun s X Y row hs hg hr => Nat.le_trans hs hg.size)
  · refine Own.from ?_ _
    exact holdsRow_own N L0 36 9 1 (fun (pre : List (it.Th B n w1 G)) => pre.length) (fun (pre : List (it.Th B n w1 G)) => pre.map tx) (fun _ _ => True)
  · exact ownFrom_below (Nat.le_refl _) hle
set_option maxRecDepth 100000 in
set_option maxHeartbeats 600000 in
theorem bookText_impl {B : Nat → Prop} {n c : Nat} {w : World} {xs : List (List DC)} {A : Option Addr} {r : List UInt8} (hT : bookT xs = r) (h : Cell B n w (.l 8) (.l xs) (.slice A xs.length c)) (ht : Tab w) :
    Calls Tryz.prog 8 #[.slice A xs.length c] w (un.Told w (.string (bs r))) := by
  subst hT
  obtain ⟨i0, hi, hz0, hz1, hz2⟩ := info_parts info_str
  have hxl := h.len.2
  have HX := Lib.hid (Gd.of1 h)
  have HT := Lib.hid ht
  clear h ht
  refine (callsIn_wide (n := 9)).1 ?_
  refine callsIn_of_wp_marks Tryz.func8 rfl trivial ?_ rfl
  simp only [Tryz.ntmps8, List.size_toArray, List.length_cons, List.length_nil, Nat.reduceAdd, Nat.reduceSub, Array.replicate_succ, Array.replicate_zero, List.push_toArray, List.append_toArray, List.nil_append, List.cons_append]
  cases hbk : bookB xs
  · gi_wp2
    refine ⟨trivial, ?_⟩
    refine (callsIn_wide.2 (bookRight_impl hbk HX.out.now)).mono ?_
    rintro _ w1 ⟨rfl, hb⟩
    gi_wp2
    exact ⟨_, results_tmp rfl _ _ _, by rw [bookT_no hbk]; rfl, hb⟩
  · obtain ⟨hok1, hok2, _⟩ := bookB_iff.1 hbk
    have HL40 := Lib.hid hok1
    gi_wp2
    refine ⟨trivial, ?_⟩
    refine (callsIn_wide.2 (bookRight_impl hbk HX.out.now)).mono ?_
    rintro _ w1 ⟨rfl, hb⟩
    gi_wp2
    refine ⟨trivial, ?_⟩
    refine (callsIn_wide.2 (it.thingsOf_in _ _ _ _)).mono ?_
    rintro _ w2 ⟨rfl, rfl⟩
    gi_wp2
    obtain ⟨l0, hlm, hll, hla⟩ := it.things_list (G := fun d => thB d = true) hok2 (HX.out.below hb).now
    have PA := it.one_part (g := w1.heap.size + 1) (c := c) (T := 25) l0 (by omega) hla
    have E1 := Lib.hid hb
    have HT1 := Lib.hid (HT.out.below hb)
    have HLM := Lib.hid hlm
    have B3 := ((((Below.refl w1.heap.size w1).alloc (Nat.le_refl _) (.cells #[.slice none 0 0] 36)).alloc (by simp) (.cells #[.slice A xs.length c] 25)).alloc (by simp; omega) (.cells #[.slice (some ⟨w1.heap.size + 1, 0, none⟩) 1 1] 84))
    have bL := ((Boxed.new w1 36 (.slice none 0 0)).alloc (.cells #[.slice A xs.length c] 25)).alloc (.cells #[.slice (some ⟨w1.heap.size + 1, 0, none⟩) 1 1] 84)
    have bG := (Boxed.new (w1.alloc (.cells #[.slice none 0 0] 36)) 25 (.slice A xs.length c)).alloc (.cells #[.slice (some ⟨w1.heap.size + 1, 0, none⟩) 1 1] 84)
    have bN := Boxed.new ((w1.alloc (.cells #[.slice none 0 0] 36)).alloc (.cells #[.slice A xs.length c] 25)) 84 (.slice (some ⟨w1.heap.size + 1, 0, none⟩) 1 1)
    simp only [World.size_alloc] at bG bN
    obtain ⟨W3, hW3⟩ : ∃ W3, ((w1.alloc (.cells #[.slice none 0 0] 36)).alloc (.cells #[.slice A xs.length c] 25)).alloc (.cells #[.slice (some ⟨w1.heap.size + 1, 0, none⟩) 1 1] 84) = W3 := ⟨_, rfl⟩
    have hsz : W3.heap.size = w1.heap.size + 1 + 1 + 1 := by rw [← hW3]; simp
    have hle3 : w1.heap.size ≤ W3.heap.size := by omega
    have hlg3 : w1.heap.size + 1 < W3.heap.size := by omega
    rw [hW3] at B3 bL bG bN ⊢
    rw [hll] at PA
    clear hW3 hb hlm hla
    have HS : SeqStopsK Fence.wide 8 Tryz.prog 43 #[.pointer (some ⟨w1.heap.size + 1 + 1, 0, none⟩)] (fun x : (it.Th B (n - 1) w1 (fun d => thB d = true)) => #[.agg x.1.2.toArray]) (it.Kp w1.heap.size (w1.heap.size + 1)) (fun ys => ys = [l0].flatten) (fun pre => pre <+: [l0].flatten) [l0].flatten.length W3 :=
      it.things_stops 8 (by omega) (w1.heap.size + 1 + 1) (w1.heap.size + 1) 1 [l0] PA B3 bN.cell bN.lt bG
    have HO := own_texts (B := B) (n := n - 1) (G := fun d => thB d = true) W3.heap.size w1.heap.size W3.heap.size hle3
    have HE := enters_of (P := Tryz.prog) Tryz.func43 (by kernel_rfl) rfl
    have HK : ∀ (W : World) (l : Nat) (o o' : Obj), W3.heap.size ≤ l → W.heap[l]? = some o → o.isCells = false → o.isWalk = false → it.Kp w1.heap.size (w1.heap.size + 1) W (W.putObj l o') := it.kp_b hle3 hlg3
    have H0 : ((∃ v, Boxed W3 w1.heap.size 36 v ∧ W3.ownsRow W3.heap.size 9 1 v ([] : List (it.Th B (n - 1) w1 (fun d => thB d = true))).length (([] : List (it.Th B (n - 1) w1 (fun d => thB d = true))).map tx) ∧ True) ∧ Below w1.heap.size w1 W3) ∧ W3.heap.size ≤ W3.heap.size := ⟨⟨⟨_, bL, World.ownsRow_nil _ _ _ _, trivial⟩, B3⟩, Nat.le_refl _⟩
    clear bL bG bN PA
    obtain ⟨IV, hIV⟩ : ∃ IV, IV = (fun (pre : List (it.Th B (n - 1) w1 (fun d => thB d = true))) W => ((∃ v, Boxed W w1.heap.size 36 v ∧ W.ownsRow W3.heap.size 9 1 v pre.length (pre.map tx) ∧ True) ∧ Below w1.heap.size w1 W) ∧ W3.heap.size ≤ W.heap.size) := ⟨_, rfl⟩
    rw [← hIV] at HO
    have H0' : IV [] W3 := by rw [hIV]; exact H0
    refine wpIn_rangeFunc_ownH (F := Fence.wide) (n := 9) rfl (by omega) rfl trivial HE HS it.kp_t HK (Below.refl _ _) (fun _ => rfl) IV (fun _ _ _ => False) HO (fun _ _ _ _ _ hs _ _ => hs) H0'
      (fun (x : (it.Th B (n - 1) w1 (fun d => thB d = true))) a' W => ∃ Bx, Blk W Bx 50 x.1.2.toArray ∧ W3.heap.size ≤ Bx ∧ a' = { tmps := #[.slice A xs.length c, undef, .string ⟨#[]⟩, .pointer (some ⟨w1.heap.size, 0, none⟩), .pointer (some ⟨Bx, 0, none⟩), .slice A xs.length c, .bool true, .bool false, .slice A xs.length c, .slice (some ⟨w1.heap.size + 1, 0, none⟩) 1 1, .func (.func 43) #[] #[.pointer (some ⟨w1.heap.size + 1 + 1, 0, none⟩)], .agg x.1.2.toArray, undef, undef, undef, undef, undef, undef, undef], defers := [] })
      ?hAx ?assign ?body ?done ?stop
    case hAx =>
      rintro x a' s X Y row ⟨Bx, hx, hBx, e⟩ hg hr
      exact ⟨Bx, blk_own hx hg (fun k e => (hr k e).2), hBx, e⟩
    case assign =>
      intro l pre x W K hi hK
      obtain ⟨⟨ds, vs⟩, hcx⟩ := x
      obtain ⟨lq0, sq1, sq2, xq3, xq4, sq5, lq6, lq7, Aq0, cq0, Aq6, cq6, Aq7, cq7, rfl, rfl, -⟩ := open_Thing hcx.1
      dsimp only
      gi_wp2
      have hi2 := hi
      rw [hIV] at hi2
      obtain ⟨⟨_, hB⟩, hW⟩ := hi2
      exact hK _ _ ((KeepsOthers.alloc _ _).from _) ⟨(Below.refl _ _).alloc hB.size _, (below_a1 W _).block _ (Nat.lt_of_lt_of_le hlg3 hW)⟩ (HO.alloc _ hi) ⟨W.heap.size, Blk.new _ _ _, hW, rfl⟩
    case body =>
      rw [hIV]
      rintro l pre x a' W hl hr ⟨⟨⟨v, hv, hrow, _⟩, hB⟩, hW⟩ ⟨Bx, hx, hBx, rfl⟩ hlen
      have hmx : Tryz.prog.follows .mixedOrders = true := by kernel_rfl
      obtain ⟨lq0, sq1, sq2, xq3, xq4, sq5, lq6, lq7, Aq0, cq0, Aq6, cq6, Aq7, cq7, e1, e2, -⟩ := open_Thing x.2.1
      have HC := Lib.hid (Gd.ofC x.2.1)
      have HG := Lib.hid x.2.2
      have KT : ∀ (W' : World), Below w1.heap.size w1 W' → Hid (Calls Tryz.prog 22 #[.agg #[.slice Aq0 lq0.length cq0, .string sq1, .string sq2, .int .i64 xq3, .int .i64 xq4, .string sq5, .slice Aq6 lq6.length cq6, .slice Aq7 lq7.length cq7]] W' (un.Told W' (.string (bs (thT x.1.1))))) := fun W' h => by
        have := thingText_impl rfl HG.out (HC.out.below h).now (HT1.out.below h)
        rw [e2] at this
        exact Lib.hid this
      rw [e2] at hx ⊢
      have hTL := thT_len HG.out
      obtain ⟨T, hT⟩ : ∃ T, thT x.1.1 = T := ⟨_, rfl⟩
      simp only [hT] at KT hTL
      have hc := hv.cell
      have hf := hv.frozen
      have hxc := hx.cell
      gi_wp2
      have hpl : pre.length < l0.length := by simpa using hlen
      have HRow := Lib.hid hrow
      clear hrow
      have D1 : Below w1.heap.size w1 W.drew := hB.drew
      have D2 : Below W.heap.size W W.drew := (Below.refl _ _).drew
      have hAL : ∀ u ∈ [Value.string (bs T)], u.oneCell' = true := by intro u hu; simp at hu; subst hu; rfl
      have hM1 : pre.length + 1 ≤ maxLen := by unfold maxLen; omega
      have hM2 : (pre.length + 1) * 16 ≤ 140737488355328 := by omega
      refine wpIn_region_any (by assumption) ?_
      try (change wpAnyIn _ _ _ _ _ _ _ _ _ (World.drew _))
      refine wpAnyIn_ready (rs := [0, 1]) (by kernel_rfl) (by simp) ?_
      refine AllReadyIn.cons rfl (fun K hK => ?_) ?_
      · go_simp
        refine hK _ _ ?_; clear hK K
        refine wpAnyIn_ready (rs := [1]) (by kernel_rfl) (by simp) ?_
        refine AllReadyIn.cons rfl (fun K hK => ?_) ?_
        · go_simp
          refine hK _ _ ?_; clear hK K
          refine wpAnyIn_ready (rs := [2]) (by kernel_rfl) (by simp) ?_
          refine AllReadyIn.cons rfl (fun K hK => ?_) ?_
          · go_simp
            refine ⟨trivial, ?_⟩
            refine (CallsIn.inRound l (callsIn_wide.2 (KT _ D1).out)).mono ?_
            rintro _ w5 ⟨rfl, hb5⟩
            have bb5 : Below W.heap.size W w5 := below_then D2 hb5 (Nat.le_refl _)
            have bx5 := box_below hv bb5
            have hc5 := bx5.cell
            have hcA := (bx5.alloc (.cells #[.string (bs T)] 9)).cell
            have r5 := Lib.hid (txt.own_step HRow.out bb5)
            have hs5 := bb5.size
            refine hK _ _ ?_; clear hK K
            refine wpAnyIn_ready (rs := [3]) (by kernel_rfl) (by simp) ?_
            refine AllReadyIn.cons rfl (fun K hK => ?_) ?_
            · go_simp
              refine hK _ _ ?_; clear hK K
              refine wpAnyIn_ready (rs := [4]) (by kernel_rfl) (by simp) ?_
              refine AllReadyIn.cons rfl (fun K hK => ?_) ?_
              · refine stepIn_append _ rfl (.tmp 12) (.tmp 15) 36 rfl W3.heap.size 9 i0 (.string ByteArray.empty) 1 16 Tryz.underlying36 hi hz0 hz1 hz2 rfl (by decide) v pre.length (pre.map tx) rfl (r5.out.alloc _) ⟨w5.heap.size, 0, none⟩ 1 1 [.string (bs T)] rfl rfl (news_blk (Blk.new w5 9 #[.string (bs T)])) hAL hM1 hM2 (by simp; omega) ?_
                intro v' w6 hown6 hg6
                obtain ⟨g', cap', rfl⟩ := ownsRow_succ hown6
                have bx6 := ((bx5.alloc _).kept hg6 ((bx5.alloc _).not_row (by decide) (r5.out.alloc (.cells #[.string (bs T)] 9))))
                have hc6 := bx6.cell
                have hf6 := bx6.frozen
                refine hK _ _ ?_; clear hK K
                refine wpAnyIn_ready (rs := [5]) (by kernel_rfl) (by simp) ?_
                refine AllReadyIn.cons rfl (fun K hK => ?_) ?_
                · go_simp
                  refine hK _ _ ?_; clear hK K
                  refine wpAnyIn_done (by kernel_rfl) ?_ _
                  gi_wp2
                  obtain ⟨q1, q2, q3, q4, q5⟩ := it.collect (C := W3.heap.size) (N := w1.heap.size) (g := w1.heap.size + 1) bx5 (by decide) bb5 r5.out (Nat.le_refl _) (by omega) hlg3 (by omega) hW hown6 hg6 W3.heap.size
                  exact ⟨q1, q2, ⟨⟨_, q3, by simpa [tx, hT] using q4, trivial⟩, hB.trans q2.1⟩, Nat.le_trans hW q5⟩
                exact AllReadyIn.nil
              exact AllReadyIn.nil
            exact AllReadyIn.nil
          exact AllReadyIn.nil
        exact AllReadyIn.nil
      refine AllReadyIn.cons rfl (fun K hK => ?_) ?_
      · go_simp
        refine hK _ _ ?_; clear hK K
        refine wpAnyIn_ready (rs := [0, 2]) (by kernel_rfl) (by simp) ?_
        refine AllReadyIn.cons rfl (fun K hK => ?_) ?_
        · go_simp
          refine hK _ _ ?_; clear hK K
          refine wpAnyIn_ready (rs := [2]) (by kernel_rfl) (by simp) ?_
          refine AllReadyIn.cons rfl (fun K hK => ?_) ?_
          · go_simp
            refine ⟨trivial, ?_⟩
            refine (CallsIn.inRound l (callsIn_wide.2 (KT _ D1).out)).mono ?_
            rintro _ w5 ⟨rfl, hb5⟩
            have bb5 : Below W.heap.size W w5 := below_then D2 hb5 (Nat.le_refl _)
            have bx5 := box_below hv bb5
            have hc5 := bx5.cell
            have hcA := (bx5.alloc (.cells #[.string (bs T)] 9)).cell
            have r5 := Lib.hid (txt.own_step HRow.out bb5)
            have hs5 := bb5.size
            refine hK _ _ ?_; clear hK K
            refine wpAnyIn_ready (rs := [3]) (by kernel_rfl) (by simp) ?_
            refine AllReadyIn.cons rfl (fun K hK => ?_) ?_
            · go_simp
              refine hK _ _ ?_; clear hK K
              refine wpAnyIn_ready (rs := [4]) (by kernel_rfl) (by simp) ?_
              refine AllReadyIn.cons rfl (fun K hK => ?_) ?_
              · refine stepIn_append _ rfl (.tmp 12) (.tmp 15) 36 rfl W3.heap.size 9 i0 (.string ByteArray.empty) 1 16 Tryz.underlying36 hi hz0 hz1 hz2 rfl (by decide) v pre.length (pre.map tx) rfl (r5.out.alloc _) ⟨w5.heap.size, 0, none⟩ 1 1 [.string (bs T)] rfl rfl (news_blk (Blk.new w5 9 #[.string (bs T)])) hAL hM1 hM2 (by simp; omega) ?_
                intro v' w6 hown6 hg6
                obtain ⟨g', cap', rfl⟩ := ownsRow_succ hown6
                have bx6 := ((bx5.alloc _).kept hg6 ((bx5.alloc _).not_row (by decide) (r5.out.alloc (.cells #[.string (bs T)] 9))))
                have hc6 := bx6.cell
                have hf6 := bx6.frozen
                refine hK _ _ ?_; clear hK K
                refine wpAnyIn_ready (rs := [5]) (by kernel_rfl) (by simp) ?_
                refine AllReadyIn.cons rfl (fun K hK => ?_) ?_
                · go_simp
                  refine hK _ _ ?_; clear hK K
                  refine wpAnyIn_done (by kernel_rfl) ?_ _
                  gi_wp2
                  obtain ⟨q1, q2, q3, q4, q5⟩ := it.collect (C := W3.heap.size) (N := w1.heap.size) (g := w1.heap.size + 1) bx5 (by decide) bb5 r5.out (Nat.le_refl _) (by omega) hlg3 (by omega) hW hown6 hg6 W3.heap.size
                  exact ⟨q1, q2, ⟨⟨_, q3, by simpa [tx, hT] using q4, trivial⟩, hB.trans q2.1⟩, Nat.le_trans hW q5⟩
                exact AllReadyIn.nil
              exact AllReadyIn.nil
            exact AllReadyIn.nil
          exact AllReadyIn.nil
        refine AllReadyIn.cons rfl (fun K hK => ?_) ?_
        · go_simp
          refine ⟨trivial, ?_⟩
          refine (CallsIn.inRound l (callsIn_wide.2 (KT _ D1).out)).mono ?_
          rintro _ w5 ⟨rfl, hb5⟩
          have bb5 : Below W.heap.size W w5 := below_then D2 hb5 (Nat.le_refl _)
          have bx5 := box_below hv bb5
          have hc5 := bx5.cell
          have hcA := (bx5.alloc (.cells #[.string (bs T)] 9)).cell
          have r5 := Lib.hid (txt.own_step HRow.out bb5)
          have hs5 := bb5.size
          refine hK _ _ ?_; clear hK K
          refine wpAnyIn_ready (rs := [0, 3]) (by kernel_rfl) (by simp) ?_
          refine AllReadyIn.cons rfl (fun K hK => ?_) ?_
          · go_simp
            refine hK _ _ ?_; clear hK K
            refine wpAnyIn_ready (rs := [3]) (by kernel_rfl) (by simp) ?_
            refine AllReadyIn.cons rfl (fun K hK => ?_) ?_
            · go_simp
              refine hK _ _ ?_; clear hK K
              refine wpAnyIn_ready (rs := [4]) (by kernel_rfl) (by simp) ?_
              refine AllReadyIn.cons rfl (fun K hK => ?_) ?_
              · refine stepIn_append _ rfl (.tmp 12) (.tmp 15) 36 rfl W3.heap.size 9 i0 (.string ByteArray.empty) 1 16 Tryz.underlying36 hi hz0 hz1 hz2 rfl (by decide) v pre.length (pre.map tx) rfl (r5.out.alloc _) ⟨w5.heap.size, 0, none⟩ 1 1 [.string (bs T)] rfl rfl (news_blk (Blk.new w5 9 #[.string (bs T)])) hAL hM1 hM2 (by simp; omega) ?_
                intro v' w6 hown6 hg6
                obtain ⟨g', cap', rfl⟩ := ownsRow_succ hown6
                have bx6 := ((bx5.alloc _).kept hg6 ((bx5.alloc _).not_row (by decide) (r5.out.alloc (.cells #[.string (bs T)] 9))))
                have hc6 := bx6.cell
                have hf6 := bx6.frozen
                refine hK _ _ ?_; clear hK K
                refine wpAnyIn_ready (rs := [5]) (by kernel_rfl) (by simp) ?_
                refine AllReadyIn.cons rfl (fun K hK => ?_) ?_
                · go_simp
                  refine hK _ _ ?_; clear hK K
                  refine wpAnyIn_done (by kernel_rfl) ?_ _
                  gi_wp2
                  obtain ⟨q1, q2, q3, q4, q5⟩ := it.collect (C := W3.heap.size) (N := w1.heap.size) (g := w1.heap.size + 1) bx5 (by decide) bb5 r5.out (Nat.le_refl _) (by omega) hlg3 (by omega) hW hown6 hg6 W3.heap.size
                  exact ⟨q1, q2, ⟨⟨_, q3, by simpa [tx, hT] using q4, trivial⟩, hB.trans q2.1⟩, Nat.le_trans hW q5⟩
                exact AllReadyIn.nil
              exact AllReadyIn.nil
            exact AllReadyIn.nil
          refine AllReadyIn.cons rfl (fun K hK => ?_) ?_
          · go_simp
            refine hK _ _ ?_; clear hK K
            refine wpAnyIn_ready (rs := [0]) (by kernel_rfl) (by simp) ?_
            refine AllReadyIn.cons rfl (fun K hK => ?_) ?_
            · go_simp
              refine hK _ _ ?_; clear hK K
              refine wpAnyIn_ready (rs := [4]) (by kernel_rfl) (by simp) ?_
              refine AllReadyIn.cons rfl (fun K hK => ?_) ?_
              · refine stepIn_append _ rfl (.tmp 12) (.tmp 15) 36 rfl W3.heap.size 9 i0 (.string ByteArray.empty) 1 16 Tryz.underlying36 hi hz0 hz1 hz2 rfl (by decide) v pre.length (pre.map tx) rfl (r5.out.alloc _) ⟨w5.heap.size, 0, none⟩ 1 1 [.string (bs T)] rfl rfl (news_blk (Blk.new w5 9 #[.string (bs T)])) hAL hM1 hM2 (by simp; omega) ?_
                intro v' w6 hown6 hg6
                obtain ⟨g', cap', rfl⟩ := ownsRow_succ hown6
                have bx6 := ((bx5.alloc _).kept hg6 ((bx5.alloc _).not_row (by decide) (r5.out.alloc (.cells #[.string (bs T)] 9))))
                have hc6 := bx6.cell
                have hf6 := bx6.frozen
                refine hK _ _ ?_; clear hK K
                refine wpAnyIn_ready (rs := [5]) (by kernel_rfl) (by simp) ?_
                refine AllReadyIn.cons rfl (fun K hK => ?_) ?_
                · go_simp
                  refine hK _ _ ?_; clear hK K
                  refine wpAnyIn_done (by kernel_rfl) ?_ _
                  gi_wp2
                  obtain ⟨q1, q2, q3, q4, q5⟩ := it.collect (C := W3.heap.size) (N := w1.heap.size) (g := w1.heap.size + 1) bx5 (by decide) bb5 r5.out (Nat.le_refl _) (by omega) hlg3 (by omega) hW hown6 hg6 W3.heap.size
                  exact ⟨q1, q2, ⟨⟨_, q3, by simpa [tx, hT] using q4, trivial⟩, hB.trans q2.1⟩, Nat.le_trans hW q5⟩
                exact AllReadyIn.nil
              exact AllReadyIn.nil
            exact AllReadyIn.nil
          exact AllReadyIn.nil
        exact AllReadyIn.nil
      exact AllReadyIn.nil
    case done =>
      rw [hIV]
      rintro D ys W hD rfl ⟨⟨⟨v, hv, hrow, _⟩, hB⟩, hW⟩ hK
      have e0 : [l0].flatten = l0 := by simp
      rw [e0] at hrow
      have eL : l0.map tx = (l0.map fun x => bs (thT x.1.1)).map Value.string := by simp [tx]
      have eC : str.cat (l0.map fun x => bs (thT x.1.1)) = bookT xs := by
        rw [bookT_yes hbk, ← HLM.out]
        simp [str.cat, List.flatMap_map, List.map_map, Function.comp_def, txt.bs_data, List.flatMap]
      have eN : (l0.map fun x => bs (thT x.1.1)).length = l0.length := by simp
      have hBL : (bookT xs).length ≤ 360000000 := by
        have := book_len hbk xs.length
        rw [List.take_length] at this
        rw [bookT_yes hbk]; exact this
      have KJ := join_own (W := W) (base := W3.heap.size) (v := v) (l0.map fun x => bs (thT x.1.1)) (by rw [eN, ← eL]; exact hrow) (by omega) (by rw [eC]; omega)
      rw [eC] at KJ
      have hc := hv.cell
      clear hrow eL eC eN
      gi_wp2
      refine ⟨trivial, ?_⟩
      refine (callsIn_wide.2 KJ).mono ?_
      rintro _ w9 ⟨rfl, hb9⟩
      have hK9 := (hb9.block D (Array.getElem?_eq_some_iff.1 hK).1).trans hK
      have E9 : Below w.heap.size w w9 := below_then (below_then E1.out hB (Nat.le_refl _)) hb9 (Nat.le_refl _)
      have hs1 := E1.out.size
      gi_wp2
      refine ⟨by simp, .inl ⟨_, _, rfl, run_takeDeferred hK9, ?_⟩⟩
      exact ⟨_, results_tmp rfl _ _ _, rfl, E9.trans (belowK_b (w := W3) (by omega) w9 D _ _ hD hK9 rfl rfl)⟩
    case stop =>
      rintro D c pre W _ _ h _
      exact h.elim
end Go.Proofs.YtnjpddbpnmgcpaaGreatDoor.cf
