/- BookAt of the program. -/
import Derived.Test.YtnjpddbpnmgcpaaGreatCtI
import Derived.Test.YtnjpddbpnmgcpaaGreatItI
import Derived.Test.YtnjpddbpnmgcpaaGreatBoA
import Derived.Test.YtnjpddbpnmgcpaaGreatUt
namespace Go.Proofs.YtnjpddbpnmgcpaaGreat.cf
open ad mem vl ex un cm Go.Shelf
open Go.ChangeShapes Go.WideShapes Go.ChangeAt Go.RowKit Go.Lib
set_option linter.unusedVariables false
set_option maxRecDepth 8000
set_option linter.unusedSimpArgs false


attribute [local go_sem] Oper.semAt_some
theorem cells_of_cell {w : World} {b o : Nat} (h : (w.cell? ⟨b, o, none⟩).isSome = true) : ∃ ob : Obj, w.heap[b]? = some ob ∧ ob.isCells = true := by
  unfold World.cell? at h
  cases ho : w.heap[b]? with
  | none => simp [ho] at h
  | some ob => exact ⟨ob, rfl, by cases ob <;> simp_all [Obj.isCells]⟩
theorem _root_.Go.Proofs.YtnjpddbpnmgcpaaGreat.un.Own.keep : ∀ {n : Nat} {w w' : World} {F : Nat → Prop} {k : CK} {d : DC} {v : Value}, un.Own n w F k d v → w.heap.size ≤ w'.heap.size → (∀ b, F b → b < w.heap.size → (∃ ob : Obj, w.heap[b]? = some ob ∧ ob.isCells = true) → w'.heap[b]? = w.heap[b]?) → un.Own n w' F k d v
  | n, w, w', F, .i, d, v, h, _, _ => by cases d <;> cases n <;> first | exact h.elim | exact h
  | n, w, w', F, .s, d, v, h, _, _ => by cases d <;> cases n <;> first | exact h.elim | exact h
  | 0, w, w', F, .l e, d, v, h, _, _ => by cases d <;> first | exact h.elim | exact h
  | n + 1, w, w', F, .l e, d, v, h, hs, ha => by
    cases d with
    | i x => exact h.elim
    | s x => exact h.elim
    | l xs =>
      obtain ⟨A, c, h1, h2, h3⟩ := h
      refine ⟨A, c, h1, h2, ?_⟩
      rcases h3 with rfl | ⟨b, o, h4, h5, h6, h7, G, hG, hD, hh⟩
      · exact .inl rfl
      · by_cases hN : xs.length * (sh e).length = 0
        · refine .inr ⟨b, o, h4, h5, Nat.lt_of_lt_of_le h6 hs, fun j hj => absurd hj (by omega), G, hG, hD, fun j hj => ?_⟩
          obtain ⟨us, h8, h9, h10, h11⟩ := hh j hj
          have hz : (sh e).length = 0 := by rcases Nat.mul_eq_zero.1 hN with h | h <;> omega
          obtain rfl : us = [] := List.length_eq_zero_iff.1 (by omega)
          exact ⟨[], fun j v hv => by simp at hv, h9, h10, fun c k1 k2 k3 => absurd k1 (by omega)⟩
        · have hsame := ha b h5 h6 (cells_of_cell (h7 0 (by omega)).1)
          refine .inr ⟨b, o, h4, h5, Nat.lt_of_lt_of_le h6 hs, there_same h7 hsame, G, hG, hD, fun j hj => ?_⟩
          obtain ⟨us, h8, h9, h10, h11⟩ := hh j hj
          exact ⟨us, range_same h8 hsame, h9, h10, fun c k1 k2 k3 => un.Own.keep (h11 c k1 k2 k3) hs (fun x hx => ha x (hG j c x hx).1)⟩
theorem owns_keep {n : Nat} {w w' : World} {F : Nat → Prop} {ks : List CK} {ds : List DC} {vs : List Value} (h : Owns n w F ks ds vs) (hs : w.heap.size ≤ w'.heap.size) (ha : ∀ b, F b → b < w.heap.size → (∃ ob : Obj, w.heap[b]? = some ob ∧ ob.isCells = true) → w'.heap[b]? = w.heap[b]?) : Owns n w' F ks ds vs := by
  obtain ⟨h1, h2, G, hG, hD, hh⟩ := h
  exact ⟨h1, h2, G, hG, hD, fun c k1 k2 k3 => un.Own.keep (hh c k1 k2 k3) hs (fun x hx => ha x (hG c x hx))⟩
/-- what a struct owns it owns behind the turn of a block that is no cells. -/
theorem owns_turn {n : Nat} {w w' : World} {row : Option Nat} {F : Nat → Prop} {ks : List CK} {ds : List DC} {vs : List Value} (h : Owns n w F ks ds vs) (hg : w.grownBy w' row) (hr : ∀ r, row = some r → ∃ ob : Obj, w.heap[r]? = some ob ∧ ob.isCells = false) : Owns n w' F ks ds vs :=
  owns_keep h hg.size (fun b _ hb ⟨ob, h1, h2⟩ => hg.block b hb (fun e => by
    obtain ⟨o2, h3, h4⟩ := hr b e.symm
    rw [h1] at h3; cases h3; rw [h2] at h4; cases h4))
def zT : List DC := [.l [], .s ByteArray.empty, .s ByteArray.empty, .i 0, .i 0, .s ByteArray.empty, .l [], .l []]
theorem zero_owns (n : Nat) (w : World) (F : Nat → Prop) : Owns n w F shThing_ zT [.slice none 0 0, .string ⟨#[]⟩, .string ⟨#[]⟩, .int .i64 0, .int .i64 0, .string ⟨#[]⟩, .slice none 0 0, .slice none 0 0] := by
  have e : (⟨#[]⟩ : ByteArray).size ≤ maxLen := by simp [maxLen, ByteArray.size]
  have r : R64 0 := by unfold R64; omega
  refine Owns.cons (F1 := fun _ => False) (F2 := fun _ => False) un.Own.mkN ?_ (fun _ h => h.elim) (fun _ h => h.elim) (fun _ h _ => h.elim)
  refine Owns.s e (Owns.s e (Owns.i r (Owns.i r (Owns.s e ?_))))
  exact Owns.cons (F1 := fun _ => False) (F2 := fun _ => False) un.Own.mkN (Owns.of1 un.Own.mkN) (fun _ h => h.elim) (fun _ h => h.elim) (fun _ h _ => h.elim)
theorem blk_own {W W' : World} {row : Option Nat} {g : Nat} {T : TypeId} {cs : Array Value} (h : Blk W g T cs) (hg : W.grownBy W' row) (hr : ∀ k, row = some k → ∃ o : Obj, W.heap[k]? = some o ∧ o.isCells = false) : Blk W' g T cs := by
  have hlt := h.lt
  unfold Blk at h ⊢
  refine (hg.block g hlt (fun e => ?_)).trans h
  obtain ⟨o, ho, hc⟩ := hr g e.symm
  rw [h] at ho; cases ho; cases hc
theorem blk8 {w : World} {g : Nat} {T : TypeId} {a0 a1 a2 a3 a4 a5 a6 a7 : Value} (h : Blk w g T #[a0, a1, a2, a3, a4, a5, a6, a7]) (v0 v1 v2 v3 v4 v5 v6 v7 : Value) :
    Blk ((((((((w.setCell ⟨g, 0, none⟩ v0).setCell ⟨g, 1, none⟩ v1).setCell ⟨g, 2, none⟩ v2).setCell ⟨g, 3, none⟩ v3).setCell ⟨g, 4, none⟩ v4).setCell ⟨g, 5, none⟩ v5).setCell ⟨g, 6, none⟩ v6).setCell ⟨g, 7, none⟩ v7) g T #[v0, v1, v2, v3, v4, v5, v6, v7] := by
  have h0 : Blk _ g T #[v0, a1, a2, a3, a4, a5, a6, a7] := Blk.put h 0 v0
  have h1 : Blk _ g T #[v0, v1, a2, a3, a4, a5, a6, a7] := Blk.put h0 1 v1
  have h2 : Blk _ g T #[v0, v1, v2, a3, a4, a5, a6, a7] := Blk.put h1 2 v2
  have h3 : Blk _ g T #[v0, v1, v2, v3, a4, a5, a6, a7] := Blk.put h2 3 v3
  have h4 : Blk _ g T #[v0, v1, v2, v3, v4, a5, a6, a7] := Blk.put h3 4 v4
  have h5 : Blk _ g T #[v0, v1, v2, v3, v4, v5, a6, a7] := Blk.put h4 5 v5
  have h6 : Blk _ g T #[v0, v1, v2, v3, v4, v5, v6, a7] := Blk.put h5 6 v6
  have h7 : Blk _ g T #[v0, v1, v2, v3, v4, v5, v6, v7] := Blk.put h6 7 v7
  exact h7
noncomputable def atX (xs : List (List DC)) (a : AddrD) : List DC := match xs.find? (fun d => adl.eqA (bA d) a) with | some d => d | none => zT
noncomputable def bookAtX (xs : List (List DC)) (a : AddrD) : List DC := if bookB xs then atX xs a else zT
theorem atX_hit {xs pre : List (List DC)} {x : List DC} {a : AddrD} (h : pre ++ [x] <+: xs) (hp : ∀ y ∈ pre, adl.eqA (bA y) a = false) (hx : adl.eqA (bA x) a = true) : atX xs a = x := by
  obtain ⟨rest, rfl⟩ := h
  unfold atX
  have : ((pre ++ [x]) ++ rest).find? (fun d => adl.eqA (bA d) a) = some x := by
    rw [List.append_assoc, List.find?_append, List.find?_eq_none.2 (fun y hy => by simp [hp y hy])]
    simp [hx]
  rw [this]
theorem atX_miss {xs : List (List DC)} {a : AddrD} (hp : ∀ y ∈ xs, adl.eqA (bA y) a = false) : atX xs a = zT := by
  unfold atX
  rw [List.find?_eq_none.2 (fun y hy => by simp [hp y hy])]
set_option maxRecDepth 100000 in
set_option maxHeartbeats 2000000 in
theorem bookAt_impl {B B' : Nat → Prop} {n m c : Nat} {w : World} {xs : List (List DC)} {A : Option Addr} {ds : List DC} {vs : List Value} {X : List DC} (hX : bookAtX xs (bA ds) = X) (h : Cell B n w (.l 8) (.l xs) (.slice A xs.length c)) (h' : Cells B' m w shAddr_ ds vs) :
    Calls Tryz.prog 11 #[.slice A xs.length c, .agg vs.toArray] w (un.NewS 2 shThing_ X w) := by
  subst hX
  have hxl := h.len.2
  have HX := Lib.hid (Gd.of1 h)
  have HA := Lib.hid (Gd.ofC h')
  obtain ⟨a, ha⟩ : ∃ a, bA ds = a := ⟨_, rfl⟩
  rw [ha]
  obtain ⟨lr0, sr1, sr2, xr3, xr4, sr5, A', c', rfl, rfl, -⟩ := open_Addr h'
  have HD := Lib.hid ha
  clear h h' ha
  refine (callsIn_wide (n := 9)).1 ?_
  refine callsIn_of_wp_marks Tryz.func11 rfl trivial ?_ rfl
  simp only [Tryz.ntmps11, List.size_toArray, List.length_cons, List.length_nil, Nat.reduceAdd, Nat.reduceSub, Array.replicate_succ, Array.replicate_zero, List.push_toArray, List.append_toArray, List.nil_append, List.cons_append]
  have E0 := Lib.hid (below_a2 w (.cells #[.slice A' lr0.length c', .string sr1, .string sr2, .int .i64 xr3, .int .i64 xr4, .string sr5] 28) (.cells #[.slice none 0 0, .string ⟨#[]⟩, .string ⟨#[]⟩, .int .i64 0, .int .i64 0, .string ⟨#[]⟩, .slice none 0 0, .slice none 0 0] 32))
  have B0 := Lib.hid ((Blk.new w 28 #[.slice A' lr0.length c', .string sr1, .string sr2, .int .i64 xr3, .int .i64 xr4, .string sr5]).alloc (.cells #[.slice none 0 0, .string ⟨#[]⟩, .string ⟨#[]⟩, .int .i64 0, .int .i64 0, .string ⟨#[]⟩, .slice none 0 0, .slice none 0 0] 32))
  have P0 := Lib.hid (Blk.new1 w (.cells #[.slice A' lr0.length c', .string sr1, .string sr2, .int .i64 xr3, .int .i64 xr4, .string sr5] 28) 32 #[.slice none 0 0, .string ⟨#[]⟩, .string ⟨#[]⟩, .int .i64 0, .int .i64 0, .string ⟨#[]⟩, .slice none 0 0, .slice none 0 0])
  cases hbk : bookB xs
  · gi_wp2
    refine ⟨trivial, ?_⟩
    refine (callsIn_wide.2 (bookRight_impl hbk (HX.out.below E0.out).now)).mono ?_
    rintro _ w1 ⟨rfl, hb⟩
    have E1 := Lib.hid (below_then E0.out hb (Nat.le_refl _))
    have P1 := Lib.hid (P0.out.step hb)
    have p1 := P1.out.cell
    have f1 := P1.out.free
    have z1 := P1.out.lt
    clear hb
    gi_wp2
    refine ⟨.agg #[.slice none 0 0, .string ⟨#[]⟩, .string ⟨#[]⟩, .int .i64 0, .int .i64 0, .string ⟨#[]⟩, .slice none 0 0, .slice none 0 0], ?_, [.slice none 0 0, .string ⟨#[]⟩, .string ⟨#[]⟩, .int .i64 0, .int .i64 0, .string ⟨#[]⟩, .slice none 0 0, .slice none 0 0], rfl, ?_, ?_⟩
    · simp [results, Tryz.results11, go_sem, p1, f1]; try rfl
    · rw [show bookAtX xs a = zT by simp [bookAtX, hbk]]; exact zero_owns _ _ _
    · iterate 8 refine Below.setCell ?_ (by simp <;> omega) _
      exact E1.out
  · obtain ⟨hok1, hok2, _⟩ := bookB_iff.1 hbk
    have HBX : Hid (bookAtX xs a = atX xs a) := by show _ = _; simp [bookAtX, hbk]
    gi_wp2
    refine ⟨trivial, ?_⟩
    refine (callsIn_wide.2 (bookRight_impl hbk (HX.out.below E0.out).now)).mono ?_
    rintro _ w1 ⟨rfl, hb⟩
    have E1 := Lib.hid (below_then E0.out hb (Nat.le_refl _))
    have B1 := Lib.hid (B0.out.step hb)
    have P1 := Lib.hid (P0.out.step hb)
    have z1 := P1.out.lt
    clear hb
    gi_wp2
    refine ⟨trivial, ?_⟩
    refine (callsIn_wide.2 (it.thingsOf_in _ _ _ _)).mono ?_
    rintro _ w2 ⟨rfl, rfl⟩
    gi_wp2
    obtain ⟨l0, hlm, hll, hla⟩ := it.things_list (G := fun d => thB d = true) hok2 (HX.out.below E1.out).now
    have PA := it.one_part (g := w1.heap.size) (c := c) (T := 34) l0 (by omega) hla
    have HLM := Lib.hid hlm
    have B3 := ((Below.refl w1.heap.size w1).alloc (Nat.le_refl _) (.cells #[.slice A xs.length c] 34)).alloc (by simp) (.cells #[.slice (some ⟨w1.heap.size, 0, none⟩) 1 1] 82)
    have bG := (Boxed.new w1 34 (.slice A xs.length c)).alloc (.cells #[.slice (some ⟨w1.heap.size, 0, none⟩) 1 1] 82)
    have bN := Boxed.new (w1.alloc (.cells #[.slice A xs.length c] 34)) 82 (.slice (some ⟨w1.heap.size, 0, none⟩) 1 1)
    simp only [World.size_alloc] at bN
    obtain ⟨W3, hW3⟩ : ∃ W3, (w1.alloc (.cells #[.slice A xs.length c] 34)).alloc (.cells #[.slice (some ⟨w1.heap.size, 0, none⟩) 1 1] 82) = W3 := ⟨_, rfl⟩
    have hsz : W3.heap.size = w1.heap.size + 1 + 1 := by rw [← hW3]; simp
    have hle3 : w1.heap.size ≤ W3.heap.size := by omega
    have hlg3 : w1.heap.size < W3.heap.size := by omega
    have hls1 : w.heap.size ≤ w1.heap.size := by omega
    rw [hW3] at B3 bG bN ⊢
    rw [hll] at PA
    clear hW3 hlm hla
    have HS : SeqStopsK Fence.wide 8 Tryz.prog 63 #[.pointer (some ⟨w1.heap.size + 1, 0, none⟩)] (fun x : (it.Th B (n - 1) w1 (fun d => thB d = true)) => #[.agg x.1.2.toArray]) (it.Kp w1.heap.size w1.heap.size) (fun ys => ys = [l0].flatten) (fun pre => pre <+: [l0].flatten) [l0].flatten.length W3 :=
      it.things_stops 8 (by omega) (w1.heap.size + 1) w1.heap.size 1 [l0] PA B3 bN.cell bN.lt bG
    have HE := enters_of (P := Tryz.prog) Tryz.func63 (by kernel_rfl) rfl
    have HK : ∀ (W : World) (l : Nat) (o o' : Obj), W3.heap.size ≤ l → W.heap[l]? = some o → o.isCells = false → o.isWalk = false → it.Kp w1.heap.size w1.heap.size W (W.putObj l o') := it.kp_b hle3 hlg3
    obtain ⟨IV, hIV⟩ : ∃ IV, IV = (fun (pre : List (it.Th B (n - 1) w1 (fun d => thB d = true))) W => (∀ y ∈ pre, adl.eqA (bA y.1.1) a = false) ∧ Below w1.heap.size w1 W ∧ W3.heap.size ≤ W.heap.size) := ⟨_, rfl⟩
    have HO : OwnFrom W3.heap.size IV := by
      rw [hIV]
      rintro s X Y row ⟨h1, h2, h3⟩ hg hr
      exact ⟨h1, h2.grown hg h2.size (fun k e => by have := (hr k e).1; omega), Nat.le_trans h3 hg.size⟩
    have H0 : IV [] W3 := by rw [hIV]; exact ⟨fun y hy => (by cases hy), B3, Nat.le_refl _⟩
    obtain ⟨IX, hIX⟩ : ∃ IX, IX = (fun (cd : Code) (pre : List (it.Th B (n - 1) w1 (fun d => thB d = true))) (W : World) => cd = .ret ∧ ∃ (pre' : List (it.Th B (n - 1) w1 (fun d => thB d = true))) (x : (it.Th B (n - 1) w1 (fun d => thB d = true))) (v0 v1 v2 v3 v4 v5 v6 v7 : Value), pre = pre' ++ [x] ∧ (∀ y ∈ pre', adl.eqA (bA y.1.1) a = false) ∧ adl.eqA (bA x.1.1) a = true ∧ Blk W (w.heap.size + 1) 32 #[v0, v1, v2, v3, v4, v5, v6, v7] ∧ Owns 2 W (Rg w1.heap.size W.heap.size) shThing_ x.1.1 [v0, v1, v2, v3, v4, v5, v6, v7] ∧ Below w.heap.size w W) := ⟨_, rfl⟩
    have HOX : ∀ cd, OwnFrom W3.heap.size (IX cd) := by
      rw [hIX]
      rintro cd s X Y row ⟨h1, pre', x, v0, v1, v2, v3, v4, v5, v6, v7, h2, h3, h4, h5, h6, h7⟩ hg hr
      exact ⟨h1, pre', x, v0, v1, v2, v3, v4, v5, v6, v7, h2, h3, h4, blk_own h5 hg (fun k e => (hr k e).2), (owns_turn h6 hg (fun k e => (hr k e).2)).monoF (fun y hy => ⟨hy.1, Nat.lt_of_lt_of_le hy.2 hg.size⟩), h7.grown hg h7.size (fun k e => by have := (hr k e).1; omega)⟩
    clear bG bN PA
    refine wpIn_rangeFunc_ownH (F := Fence.wide) (n := 9) rfl (by omega) rfl trivial HE HS it.kp_t HK (Below.refl _ _) (fun _ => rfl) IV IX HO HOX H0
      (fun (x : (it.Th B (n - 1) w1 (fun d => thB d = true))) a' W => ∃ Bx, Blk W Bx 32 x.1.2.toArray ∧ W3.heap.size ≤ Bx ∧ a' = { tmps := #[.slice A xs.length c, .agg #[.slice A' lr0.length c', .string sr1, .string sr2, .int .i64 xr3, .int .i64 xr4, .string sr5], undef, .pointer (some ⟨w.heap.size, 0, none⟩), .pointer (some ⟨w.heap.size + 1, 0, none⟩), .pointer (some ⟨Bx, 0, none⟩), .slice A xs.length c, .bool true, .bool false, undef, .slice A xs.length c, .slice (some ⟨w1.heap.size, 0, none⟩) 1 1, .func (.func 63) #[] #[.pointer (some ⟨w1.heap.size + 1, 0, none⟩)], .agg x.1.2.toArray, undef, undef, undef, undef, undef, undef, undef], defers := [] })
      ?hAx ?assign ?body ?done ?stop
    case hAx =>
      rintro x a' s X Y row ⟨Bx, hx, hBx, e⟩ hg hr
      exact ⟨Bx, blk_own hx hg (fun k e => (hr k e).2), hBx, e⟩
    case assign =>
      intro l pre x W K hi hK
      obtain ⟨⟨ds, vs⟩, hcx⟩ := x
      obtain ⟨lq0, sq1, sq2, xq3, xq4, sq5, lq6, lq7, Aq0, cq0, Aq6, cq6, Aq7, cq7, rfl, rfl, -⟩ := open_Thing hcx.1
      dsimp only
      gi_wp2
      have hi2 := hi
      rw [hIV] at hi2
      obtain ⟨_, hB, hW⟩ := hi2
      exact hK _ _ ((KeepsOthers.alloc _ _).from _) ⟨(Below.refl _ _).alloc hB.size _, (below_a1 W _).block _ (Nat.lt_of_lt_of_le hlg3 hW)⟩ (HO.alloc _ hi) ⟨W.heap.size, Blk.new _ _ _, hW, rfl⟩
    case body =>
      rintro l pre x a' W hl hr hi ⟨Bx, hx, hBx, rfl⟩ hlen
      rw [hIV] at hi
      obtain ⟨hno, hB, hW⟩ := hi
      obtain ⟨lq0, sq1, sq2, xq3, xq4, sq5, lq6, lq7, Aq0, cq0, Aq6, cq6, Aq7, cq7, e1, e2, kq0, kq1, kq2, kq3, kq4, kq5, -⟩ := open_Thing x.2.1
      have HCA := Lib.hid (Gd.ofC (show Cells B (n - 1) w1 shAddr_ [.l lq0, .s sq1, .s sq2, .i xq3, .i xq4, .s sq5] [.slice Aq0 lq0.length cq0, .string sq1, .string sq2, .int .i64 xq3, .int .i64 xq4, .string sq5] from ⟨kq0, Cell.mkS kq1, Cell.mkS kq2, Cell.mkI kq3, Cell.mkI kq4, Cell.mkS kq5, trivial⟩))
      have hen : bA x.1.1 = bA [.l lq0, .s sq1, .s sq2, .i xq3, .i xq4, .s sq5] := by rw [e1]; rfl
      have HEN := Lib.hid hen
      have HG : Hid (thB [.l lq0, .s sq1, .s sq2, .i xq3, .i xq4, .s sq5, .l lq6, .l lq7] = true) := by have := x.2.2; rw [e1] at this; exact this
      have HC : Hid (Gd (fun w => Cells B (n - 1) w shThing_ [.l lq0, .s sq1, .s sq2, .i xq3, .i xq4, .s sq5, .l lq6, .l lq7] [.slice Aq0 lq0.length cq0, .string sq1, .string sq2, .int .i64 xq3, .int .i64 xq4, .string sq5, .slice Aq6 lq6.length cq6, .slice Aq7 lq7.length cq7]) w1) := by have := Gd.ofC x.2.1; rw [e1, e2] at this; exact this
      have HE1 := Lib.hid e1
      have KT : ∀ (W' : World), Below w1.heap.size w1 W' → Hid _ := fun W' h => Lib.hid (copyThing_impl HG.out (HC.out.below h).now)
      rw [e2] at hx ⊢
      have B4 := B1.out.step (hB)
      have P4 := P1.out.step (hB)
      have b4 := B4.cell
      have p4 := P4.cell
      have f4 := P4.free
      have hxc := hx.cell
      clear hen e1 kq0 kq1 kq2 kq3 kq4 kq5
      cases hq : adl.eqA (bA [.l lq0, .s sq1, .s sq2, .i xq3, .i xq4, .s sq5]) a
      · gi_wp2
        refine ⟨trivial, ?_⟩
        refine (CallsIn.inRound l (callsIn_wide.2 (sameAddr_impl (r := false) rfl HD.out hq (HCA.out.below hB).now (HA.out.below (below_then E1.out hB (Nat.le_refl _))).now))).mono ?_
        rintro _ w5 ⟨rfl, hb5⟩
        gi_wp2
        refine ⟨it.keeps_of hb5, it.kp_of hb5 hB.size (Nat.lt_of_lt_of_le hlg3 hW), ?_⟩
        rw [hIV]
        exact ⟨fun y hy => by
          rcases List.mem_append.1 hy with hy | hy
          · exact hno y hy
          · rw [List.mem_singleton.1 hy, HEN.out]; exact hq, below_then hB hb5 (Nat.le_refl _), Nat.le_trans hW hb5.size⟩
      · gi_wp2
        refine ⟨trivial, ?_⟩
        refine (CallsIn.inRound l (callsIn_wide.2 (sameAddr_impl (r := true) rfl HD.out hq (HCA.out.below hB).now (HA.out.below (below_then E1.out hB (Nat.le_refl _))).now))).mono ?_
        rintro _ w5 ⟨rfl, hb5⟩
        have hx5 := hx.step hb5
        have hxc5 := hx5.cell
        have P5 := P4.step hb5
        have p5 := P5.cell
        have f5 := P5.free
        gi_wp2
        refine ⟨trivial, ?_⟩
        refine (CallsIn.inRound l (callsIn_wide.2 (KT _ (below_then hB hb5 (Nat.le_refl _))).out)).mono ?_
        rintro _ w6 ⟨A1, c1, A6, c6, A7, c7, rfl, ho, hb6⟩
        have P6 := P5.step hb6
        have p6 := P6.cell
        have f6 := P6.free
        have ss5 := hb5.size
        have ss6 := hb6.size
        have sB := hB.size
        have E6 : Below w.heap.size w w6 := below_then (below_then (below_then E1.out hB (Nat.le_refl _)) hb5 (Nat.le_refl _)) hb6 (Nat.le_refl _)
        gi_wp2
        refine ⟨?_, ?_⟩
        · refine ((it.keeps_of hb5).trans (it.keeps_of hb6)).trans ?_
          iterate 7 refine KeepsFrom.trans ?_ ((KeepsOthers.setCell _ _ _).from _)
          exact (KeepsOthers.setCell _ _ _).from _
        · rw [hIX]
          refine ⟨rfl, pre, x, _, _, _, _, _, _, _, _, rfl, hno, by rw [HEN.out]; exact hq, blk8 P6 _ _ _ _ _ _ _ _, ?_, ?_⟩
          · rw [HE1.out]
            refine (ho.agree' ?_).monoF (fun y hy => ⟨by have := hy.1; omega, by have := hy.2; simpa using this⟩)
            iterate 8 refine Agree.set ?_ (fun hx => by have := hx.1; simp at this; omega) _
            exact Agree.refl _ _
          · iterate 8 refine Below.setCell ?_ (by simp <;> omega) _
            exact E6
    case done =>
      rintro D ys W hD rfl hi hK
      rw [hIV] at hi
      obtain ⟨hno, hB, hW⟩ := hi
      have P4 := P1.out.step hB
      have p4 := P4.cell
      have f4 := P4.free
      have sB := hB.size
      have hmiss : atX xs a = zT := atX_miss (fun y hy => by
        rw [← HLM.out] at hy
        obtain ⟨q, hq, rfl⟩ := List.mem_map.1 hy
        exact hno q (by simpa using hq))
      have hKl : D < W.heap.size := (Array.getElem?_eq_some_iff.1 hK).1
      gi_wp2
      have P9 := blk8 P4 (.slice none 0 0) (.string ⟨#[]⟩) (.string ⟨#[]⟩) (.int .i64 0) (.int .i64 0) (.string ⟨#[]⟩) (.slice none 0 0) (.slice none 0 0)
      have hK9 : ((((((((W.setCell ⟨w.heap.size + 1, 0, none⟩ (.slice none 0 0)).setCell ⟨w.heap.size + 1, 1, none⟩ (.string ⟨#[]⟩)).setCell ⟨w.heap.size + 1, 2, none⟩ (.string ⟨#[]⟩)).setCell ⟨w.heap.size + 1, 3, none⟩ (.int .i64 0)).setCell ⟨w.heap.size + 1, 4, none⟩ (.int .i64 0)).setCell ⟨w.heap.size + 1, 5, none⟩ (.string ⟨#[]⟩)).setCell ⟨w.heap.size + 1, 6, none⟩ (.slice none 0 0)).setCell ⟨w.heap.size + 1, 7, none⟩ (.slice none 0 0)).heap[D]? = some (.deferred (some [])) := by
        iterate 8 refine (Below.heap_setCell _ _ _ D (by simp <;> omega)).trans ?_
        exact hK
      have B9 : Below w.heap.size w ((((((((W.setCell ⟨w.heap.size + 1, 0, none⟩ (.slice none 0 0)).setCell ⟨w.heap.size + 1, 1, none⟩ (.string ⟨#[]⟩)).setCell ⟨w.heap.size + 1, 2, none⟩ (.string ⟨#[]⟩)).setCell ⟨w.heap.size + 1, 3, none⟩ (.int .i64 0)).setCell ⟨w.heap.size + 1, 4, none⟩ (.int .i64 0)).setCell ⟨w.heap.size + 1, 5, none⟩ (.string ⟨#[]⟩)).setCell ⟨w.heap.size + 1, 6, none⟩ (.slice none 0 0)).setCell ⟨w.heap.size + 1, 7, none⟩ (.slice none 0 0)) := by
        iterate 8 refine Below.setCell ?_ (by simp <;> omega) _
        exact below_then E1.out hB (Nat.le_refl _)
      obtain ⟨W9, hW9⟩ : ∃ W9, ((((((((W.setCell ⟨w.heap.size + 1, 0, none⟩ (.slice none 0 0)).setCell ⟨w.heap.size + 1, 1, none⟩ (.string ⟨#[]⟩)).setCell ⟨w.heap.size + 1, 2, none⟩ (.string ⟨#[]⟩)).setCell ⟨w.heap.size + 1, 3, none⟩ (.int .i64 0)).setCell ⟨w.heap.size + 1, 4, none⟩ (.int .i64 0)).setCell ⟨w.heap.size + 1, 5, none⟩ (.string ⟨#[]⟩)).setCell ⟨w.heap.size + 1, 6, none⟩ (.slice none 0 0)).setCell ⟨w.heap.size + 1, 7, none⟩ (.slice none 0 0)) = W9 := ⟨_, rfl⟩
      rw [hW9] at P9 hK9 B9 ⊢
      clear hW9
      have P10 := blk_own P9 (grownBy_putObj' W9 D (.deferred none)) (fun k e => by cases e; exact ⟨_, hK9, rfl⟩)
      have p9 := P10.cell
      have f9 := P10.free
      refine ⟨by simp, .inl ⟨_, _, rfl, run_takeDeferred hK9, ?_⟩⟩
      refine ⟨.agg #[.slice none 0 0, .string ⟨#[]⟩, .string ⟨#[]⟩, .int .i64 0, .int .i64 0, .string ⟨#[]⟩, .slice none 0 0, .slice none 0 0], ?_, [.slice none 0 0, .string ⟨#[]⟩, .string ⟨#[]⟩, .int .i64 0, .int .i64 0, .string ⟨#[]⟩, .slice none 0 0, .slice none 0 0], rfl, ?_, ?_⟩
      · simp [results, Tryz.results11, go_sem, p9, f9]; try rfl
      · rw [HBX.out, hmiss]
        exact zero_owns _ _ _
      · exact B9.trans (belowK_b (w := W3) (by omega) W9 D _ _ hD hK9 rfl rfl)
    case stop =>
      rintro D cd pre W hD hSp hi hK
      rw [hIX] at hi
      obtain ⟨rfl, pre', x, v0, v1, v2, v3, v4, v5, v6, v7, rfl, hno, hyes, hblk, ho, hB⟩ := hi
      have hhit : atX xs a = x.1.1 := by
        refine atX_hit (pre := pre'.map fun x => x.1.1) ?_ (fun y hy => by obtain ⟨q, hq, rfl⟩ := List.mem_map.1 hy; exact hno q hq) hyes
        have := List.IsPrefix.map (fun x : (it.Th B (n - 1) w1 (fun d => thB d = true)) => x.1.1) hSp
        simpa [HLM.out] using this
      have hblk2 := blk_own hblk (grownBy_putObj' W D (.deferred none)) (fun k e => by cases e; exact ⟨_, hK, rfl⟩)
      have ho2 := owns_turn ho (grownBy_putObj' W D (.deferred none)) (fun k e => by cases e; exact ⟨_, hK, rfl⟩)
      have p9 := hblk2.cell
      have f9 := hblk2.free
      gi_wp2
      refine ⟨by simp, .inl ⟨_, _, rfl, run_takeDeferred hK, ?_⟩⟩
      refine ⟨.agg #[v0, v1, v2, v3, v4, v5, v6, v7], ?_, [v0, v1, v2, v3, v4, v5, v6, v7], rfl, ?_, ?_⟩
      · simp [results, Tryz.results11, go_sem, p9, f9]; try rfl
      · rw [HBX.out, hhit]
        exact ho2.monoF (fun y hy => ⟨by have := hy.1; omega, by have := hy.2; simpa [World.putObj] using this⟩)
      · exact hB.trans (belowK_b (w := W3) (by omega) W D _ _ hD hK rfl rfl)
end Go.Proofs.YtnjpddbpnmgcpaaGreat.cf
