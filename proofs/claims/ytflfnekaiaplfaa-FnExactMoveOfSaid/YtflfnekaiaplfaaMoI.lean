/- MoveOf of the program. -/
import Derived.Test.YtflfnekaiaplfaaMoP
import Derived.Test.YtflfnekaiaplfaaMwM
import Derived.Deep.RegionHeld3
namespace Go.Proofs.Ytflfnekaiaplfaa.cf
open ad mem vl ex un
open Go.ChangeShapes Go.WideShapes Go.ChangeAt Go.RowKit Go.Lib
set_option linter.unusedVariables false
set_option maxRecDepth 8000
set_option linter.unusedSimpArgs false

theorem blk7 {w : World} {g : Nat} {T : TypeId} {a0 a1 a2 a3 a4 a5 a6 : Value} (h : Blk w g T #[a0, a1, a2, a3, a4, a5, a6]) (v0 v1 v2 v3 v4 v5 v6 : Value) : Blk (((((((w.setCell ⟨g, 0, none⟩ v0).setCell ⟨g, 1, none⟩ v1).setCell ⟨g, 2, none⟩ v2).setCell ⟨g, 3, none⟩ v3).setCell ⟨g, 4, none⟩ v4).setCell ⟨g, 5, none⟩ v5).setCell ⟨g, 6, none⟩ v6) g T #[v0, v1, v2, v3, v4, v5, v6] := by
  have h0 : Blk _ g T #[v0, a1, a2, a3, a4, a5, a6] := Blk.put h 0 v0
  have h1 : Blk _ g T #[v0, v1, a2, a3, a4, a5, a6] := Blk.put h0 1 v1
  have h2 : Blk _ g T #[v0, v1, v2, a3, a4, a5, a6] := Blk.put h1 2 v2
  have h3 : Blk _ g T #[v0, v1, v2, v3, a4, a5, a6] := Blk.put h2 3 v3
  have h4 : Blk _ g T #[v0, v1, v2, v3, v4, a5, a6] := Blk.put h3 4 v4
  have h5 : Blk _ g T #[v0, v1, v2, v3, v4, v5, a6] := Blk.put h4 5 v5
  have h6 : Blk _ g T #[v0, v1, v2, v3, v4, v5, v6] := Blk.put h5 6 v6
  exact h6
theorem ret7 {P : Program} {fn : Func} {R : Ending → World → Prop} {a : Act} {w : World} {g : Nat} {T : TypeId} {a0 a1 a2 a3 a4 a5 a6 v0 v1 v2 v3 v4 v5 v6 : Value} (h : Blk w g T #[a0, a1, a2, a3, a4, a5, a6]) (hr : ∀ W, Blk W g T #[v0, v1, v2, v3, v4, v5, v6] → (results fn a.tmps).run P W = .ok (.agg #[v0, v1, v2, v3, v4, v5, v6]) W) (hd : a.defers = []) (hR : R (.returned (.agg #[v0, v1, v2, v3, v4, v5, v6])) (((((((w.setCell ⟨g, 0, none⟩ v0).setCell ⟨g, 1, none⟩ v1).setCell ⟨g, 2, none⟩ v2).setCell ⟨g, 3, none⟩ v3).setCell ⟨g, 4, none⟩ v4).setCell ⟨g, 5, none⟩ v5).setCell ⟨g, 6, none⟩ v6)) : bodyPost P fn R .ret a (((((((w.setCell ⟨g, 0, none⟩ v0).setCell ⟨g, 1, none⟩ v1).setCell ⟨g, 2, none⟩ v2).setCell ⟨g, 3, none⟩ v3).setCell ⟨g, 4, none⟩ v4).setCell ⟨g, 5, none⟩ v5).setCell ⟨g, 6, none⟩ v6) :=
  bodyPost_ret (hr _ (blk7 h _ _ _ _ _ _ _)) hd hR
theorem ret7a {P : Program} {fn : Func} {R : Ending → World → Prop} {a : Act} {w : World} {g : Nat} {T : TypeId} {a0 a1 a2 a3 a4 a5 a6 v0 v1 v2 v3 v4 v5 v6 : Value} (h : Blk w g T #[a0, a1, a2, a3, a4, a5, a6]) (hr : ∀ W, Blk W g T #[v0, v1, v2, v3, v4, v5, v6] → (results fn a.tmps).run P W = .ok (.agg #[v0, v1, v2, v3, v4, v5, v6]) W) (o : Obj) (hd : a.defers = []) (hR : R (.returned (.agg #[v0, v1, v2, v3, v4, v5, v6])) (World.alloc (((((((w.setCell ⟨g, 0, none⟩ v0).setCell ⟨g, 1, none⟩ v1).setCell ⟨g, 2, none⟩ v2).setCell ⟨g, 3, none⟩ v3).setCell ⟨g, 4, none⟩ v4).setCell ⟨g, 5, none⟩ v5).setCell ⟨g, 6, none⟩ v6) o)) : bodyPost P fn R .ret a (World.alloc (((((((w.setCell ⟨g, 0, none⟩ v0).setCell ⟨g, 1, none⟩ v1).setCell ⟨g, 2, none⟩ v2).setCell ⟨g, 3, none⟩ v3).setCell ⟨g, 4, none⟩ v4).setCell ⟨g, 5, none⟩ v5).setCell ⟨g, 6, none⟩ v6) o) :=
  bodyPost_ret (hr _ ((blk7 h _ _ _ _ _ _ _).alloc o)) hd hR
theorem agree7 {w : World} {g : Nat} (v0 v1 v2 v3 v4 v5 v6 : Value) : Agree (fun x => x ≠ g) w (((((((w.setCell ⟨g, 0, none⟩ v0).setCell ⟨g, 1, none⟩ v1).setCell ⟨g, 2, none⟩ v2).setCell ⟨g, 3, none⟩ v3).setCell ⟨g, 4, none⟩ v4).setCell ⟨g, 5, none⟩ v5).setCell ⟨g, 6, none⟩ v6) := by
  iterate 7 refine Agree.set ?_ (fun hx => hx rfl) _
  exact Agree.refl _ _
theorem far7 {w : World} {g g' : Nat} {T : TypeId} {cs : Array Value} (h : Blk w g T cs) (hg : g ≠ g') (v0 v1 v2 v3 v4 v5 v6 : Value) : Blk (((((((w.setCell ⟨g', 0, none⟩ v0).setCell ⟨g', 1, none⟩ v1).setCell ⟨g', 2, none⟩ v2).setCell ⟨g', 3, none⟩ v3).setCell ⟨g', 4, none⟩ v4).setCell ⟨g', 5, none⟩ v5).setCell ⟨g', 6, none⟩ v6) g T cs := by
  have hh : ((((((((w.setCell ⟨g', 0, none⟩ v0).setCell ⟨g', 1, none⟩ v1).setCell ⟨g', 2, none⟩ v2).setCell ⟨g', 3, none⟩ v3).setCell ⟨g', 4, none⟩ v4).setCell ⟨g', 5, none⟩ v5).setCell ⟨g', 6, none⟩ v6)).heap[g]? = w.heap[g]? := by
    iterate 7 refine (Below.heap_setCell _ _ _ g (by simpa using hg)).trans ?_
    rfl
  unfold Blk at h ⊢
  exact hh.trans h
theorem cells_far7 {g n : Nat} {w : World} {ks : List CK} {ds : List DC} {vs : List Value} (h : Cells (fun x => x ≠ g) n w ks ds vs) (v0 v1 v2 v3 v4 v5 v6 : Value) : Cells Any n (((((((w.setCell ⟨g, 0, none⟩ v0).setCell ⟨g, 1, none⟩ v1).setCell ⟨g, 2, none⟩ v2).setCell ⟨g, 3, none⟩ v3).setCell ⟨g, 4, none⟩ v4).setCell ⟨g, 5, none⟩ v5).setCell ⟨g, 6, none⟩ v6) ks ds vs :=
  Cells.monoB (Cells.agree h (agree7 _ _ _ _ _ _ _ )) (fun _ _ _ => trivial)
/-- what the program's place tells. -/
def PlaceO (w : World) (D : AddrD) (code : Int) (e : Ending) (w' : World) : Prop := ∃ A c, e = .returned (.agg #[.slice A D.path.length c, .string D.typ, .string D.nam, .int .i64 D.kind, .int .i64 D.n, .string D.key, .int .i64 code]) ∧ Strs w' A D.path ∧ Below w.heap.size w w'
set_option maxHeartbeats 2000000 in
theorem place1 (M : MoveD) (D : AddrD) (A1 A7 A : Option Addr) (c1 c7 c : Nat) (w : World) (h7 : Strs w A7 M.dst.path) :
    Calls Try.prog 72 #[.agg #[.slice A1 M.src.path.length c1, .string M.src.typ, .string M.src.nam, .int .i64 M.src.kind, .int .i64 M.src.n, .string M.src.key, .slice A7 M.dst.path.length c7, .string M.dst.typ, .string M.dst.nam, .int .i64 M.dst.kind, .int .i64 M.dst.n, .string M.dst.key], .agg #[.slice A D.path.length c, .string D.typ, .string D.nam, .int .i64 D.kind, .int .i64 D.n, .string D.key]] w (PlaceO w M.dst 0) := by
  have H7 := Lib.hid h7
  clear h7
  go_enter Try.func72, Try.ntmps72
  go_wp2
  refine bodyPost_ret (v := .agg #[.slice A7 M.dst.path.length c7, .string M.dst.typ, .string M.dst.nam, .int .i64 M.dst.kind, .int .i64 M.dst.n, .string M.dst.key, .int .i64 0]) (by simp [results, Try.results72, go_sem]; try rfl) rfl ⟨A7, c7, rfl, ?_, ?_⟩
  · refine H7.out.below ?_
    repeat (first | exact below_a1 _ _ | exact below_a2 _ _ _ | exact below_a3 _ _ _ _ | refine Below.setCell ?_ (by simp <;> omega) _)
  · repeat (first | exact below_a1 _ _ | exact below_a2 _ _ _ | exact below_a3 _ _ _ _ | refine Below.setCell ?_ (by simp <;> omega) _)
theorem withKey_keyed {D : AddrD} (hD : addrB D = true) (A : Option Addr) (n c : Nat) (t m K : ByteArray) (k i : Int) (w : World) :
    Calls Try.prog 44 #[.agg #[.slice A n c, .string t, .string m, .int .i64 k, .int .i64 i, .string K], adr.keyV D.kind D.n D.key] w (un.Told w (.agg #[.slice A n c, .string t, .string m, .int .i64 D.kind, .int .i64 D.n, .string D.key])) := by
  obtain ⟨_, _, _, h3⟩ := txt.addr_parts hD
  simp only [keyB, Bool.or_eq_true, Bool.and_eq_true, beq_iff_eq, decide_eq_true_eq] at h3
  rcases h3 with (⟨⟨k0, k1⟩, k2⟩ | ⟨⟨⟨k0, k1⟩, k2⟩, k3⟩) | ⟨⟨k0, k1⟩, k2⟩
  · have e := empty_of_size k2
    have := (adr.withKey_no A n c t m K k i w).mono (R' := un.Told w _) (fun _ _ h => h)
    simpa [adr.keyV, k0, k1, e] using this
  · have e := empty_of_size k3
    have := (adr.withKey_num A n c t m K k i D.n w).mono (R' := un.Told w _) (fun _ _ h => h)
    simpa [adr.keyV, k0, e] using this
  · have := (adr.withKey_word A n c t m K k i D.key w).mono (R' := un.Told w _) (fun _ _ h => h)
    simpa [adr.keyV, k0, k1] using this
set_option maxHeartbeats 4000000 in
theorem place2 (M : MoveD) (D : AddrD) (A1 A7 A : Option Addr) (c1 c7 c : Nat) (w : World) (hD : addrB D = true) (h7 : Strs w A7 M.dst.path) :
    Calls Try.prog 76 #[.agg #[.slice A1 M.src.path.length c1, .string M.src.typ, .string M.src.nam, .int .i64 M.src.kind, .int .i64 M.src.n, .string M.src.key, .slice A7 M.dst.path.length c7, .string M.dst.typ, .string M.dst.nam, .int .i64 M.dst.kind, .int .i64 M.dst.n, .string M.dst.key], .agg #[.slice A D.path.length c, .string D.typ, .string D.nam, .int .i64 D.kind, .int .i64 D.n, .string D.key]] w (PlaceO w ⟨M.dst.path, M.dst.typ, M.dst.nam, D.kind, D.n, D.key⟩ 0) := by
  have H7 := Lib.hid h7
  have K1 := Lib.hid (fun W : World => adr.keyOf_any A c D W)
  have K2 := Lib.hid (fun W : World => withKey_keyed hD A7 M.dst.path.length c7 M.dst.typ M.dst.nam M.dst.key M.dst.kind M.dst.n W)
  obtain ⟨V, hV⟩ : ∃ V, adr.keyV D.kind D.n D.key = V := ⟨_, rfl⟩
  rw [hV] at K1 K2
  clear h7 hD hV
  go_enter Try.func76, Try.ntmps76
  go_wp2_with fail
  have E0 := Lib.hid (below_a3 w (.cells #[.slice A1 M.src.path.length c1, .string M.src.typ, .string M.src.nam, .int .i64 M.src.kind, .int .i64 M.src.n, .string M.src.key, .slice A7 M.dst.path.length c7, .string M.dst.typ, .string M.dst.nam, .int .i64 M.dst.kind, .int .i64 M.dst.n, .string M.dst.key] 71) (.cells #[.slice A D.path.length c, .string D.typ, .string D.nam, .int .i64 D.kind, .int .i64 D.n, .string D.key] 29) (.cells #[.slice none 0 0, .string ⟨#[]⟩, .string ⟨#[]⟩, .int .i64 0, .int .i64 0, .string ⟨#[]⟩, .int .i64 0] 31))
  have P0 := Lib.hid (Blk.new2 w (.cells #[.slice A1 M.src.path.length c1, .string M.src.typ, .string M.src.nam, .int .i64 M.src.kind, .int .i64 M.src.n, .string M.src.key, .slice A7 M.dst.path.length c7, .string M.dst.typ, .string M.dst.nam, .int .i64 M.dst.kind, .int .i64 M.dst.n, .string M.dst.key] 71) (.cells #[.slice A D.path.length c, .string D.typ, .string D.nam, .int .i64 D.kind, .int .i64 D.n, .string D.key] 29) 31 #[.slice none 0 0, .string ⟨#[]⟩, .string ⟨#[]⟩, .int .i64 0, .int .i64 0, .string ⟨#[]⟩, .int .i64 0])
  have BA := (Blk.new w 71 #[.slice A1 M.src.path.length c1, .string M.src.typ, .string M.src.nam, .int .i64 M.src.kind, .int .i64 M.src.n, .string M.src.key, .slice A7 M.dst.path.length c7, .string M.dst.typ, .string M.dst.nam, .int .i64 M.dst.kind, .int .i64 M.dst.n, .string M.dst.key]).alloc (.cells #[.slice A D.path.length c, .string D.typ, .string D.nam, .int .i64 D.kind, .int .i64 D.n, .string D.key] 29) |>.alloc (.cells #[.slice none 0 0, .string ⟨#[]⟩, .string ⟨#[]⟩, .int .i64 0, .int .i64 0, .string ⟨#[]⟩, .int .i64 0] 31)
  have BB := (Blk.new1 w (.cells #[.slice A1 M.src.path.length c1, .string M.src.typ, .string M.src.nam, .int .i64 M.src.kind, .int .i64 M.src.n, .string M.src.key, .slice A7 M.dst.path.length c7, .string M.dst.typ, .string M.dst.nam, .int .i64 M.dst.kind, .int .i64 M.dst.n, .string M.dst.key] 71) 29 #[.slice A D.path.length c, .string D.typ, .string D.nam, .int .i64 D.kind, .int .i64 D.n, .string D.key]).alloc (.cells #[.slice none 0 0, .string ⟨#[]⟩, .string ⟨#[]⟩, .int .i64 0, .int .i64 0, .string ⟨#[]⟩, .int .i64 0] 31)
  generalize hW : World.alloc _ _ = w0 at *
  have ra := BA.cell
  have rb := BB.cell
  have la := BA.lt
  have lb := BB.lt
  have u1 : ¬ w.heap.size = w.heap.size + 1 + 1 := by omega
  have u2 : ¬ w.heap.size + 1 + 1 = w.heap.size := by omega
  clear hW
  go_region_held3 (fun w' => w'.cell? ⟨w.heap.size, 0, none⟩ = some (.slice A1 M.src.path.length c1) ∧ w'.cell? ⟨w.heap.size, 1, none⟩ = some (.string M.src.typ) ∧ w'.cell? ⟨w.heap.size, 2, none⟩ = some (.string M.src.nam) ∧ w'.cell? ⟨w.heap.size, 3, none⟩ = some (.int .i64 M.src.kind) ∧ w'.cell? ⟨w.heap.size, 4, none⟩ = some (.int .i64 M.src.n) ∧ w'.cell? ⟨w.heap.size, 5, none⟩ = some (.string M.src.key) ∧ w'.cell? ⟨w.heap.size, 6, none⟩ = some (.slice A7 M.dst.path.length c7) ∧ w'.cell? ⟨w.heap.size, 7, none⟩ = some (.string M.dst.typ) ∧ w'.cell? ⟨w.heap.size, 8, none⟩ = some (.string M.dst.nam) ∧ w'.cell? ⟨w.heap.size, 9, none⟩ = some (.int .i64 M.dst.kind) ∧ w'.cell? ⟨w.heap.size, 10, none⟩ = some (.int .i64 M.dst.n) ∧ w'.cell? ⟨w.heap.size, 11, none⟩ = some (.string M.dst.key) ∧ w'.cell? ⟨w.heap.size + 1, 0, none⟩ = some (.slice A D.path.length c) ∧ w'.cell? ⟨w.heap.size + 1, 1, none⟩ = some (.string D.typ) ∧ w'.cell? ⟨w.heap.size + 1, 2, none⟩ = some (.string D.nam) ∧ w'.cell? ⟨w.heap.size + 1, 3, none⟩ = some (.int .i64 D.kind) ∧ w'.cell? ⟨w.heap.size + 1, 4, none⟩ = some (.int .i64 D.n) ∧ w'.cell? ⟨w.heap.size + 1, 5, none⟩ = some (.string D.key)) (go_keep)
    (first
    | (go_at_call 43; refine (K1.out _).mono ?_; rintro _ w1 ⟨rfl, hb⟩; have hbb := below_then (below_d w0 _) hb (Nat.le_refl _); have E1 := Lib.hid (below_then E0.out hbb (Nat.le_refl _)); have P1 := Lib.hid (P0.out.step hbb); have ra1 := (BA.step hbb).cell; have rb1 := (BB.step hbb).cell; clear hb hbb)
    | (go_at_call 44; refine (K2.out _).mono ?_; rintro _ w2 ⟨rfl, hb⟩; have E2 := Lib.hid (below_then E1.out hb (Nat.le_refl _)); have P2 := Lib.hid (P1.out.step hb); have p2 := P2.out.cell; have g2 := P2.out.free; have z2 := P2.out.lt; have ra2 : ∀ o, w2.cell? ⟨w.heap.size, o, none⟩ = w1.cell? ⟨w.heap.size, o, none⟩ := (fun o => hb.cell (p := ⟨w.heap.size, o, none⟩) (show w.heap.size < _ by have := z2; have := (P1.out).lt; omega)); have rb2 : ∀ o, w2.cell? ⟨w.heap.size + 1, o, none⟩ = w1.cell? ⟨w.heap.size + 1, o, none⟩ := (fun o => hb.cell (p := ⟨w.heap.size + 1, o, none⟩) (show w.heap.size + 1 < _ by have := (P1.out).lt; omega)); clear hb))
  go_wp2
  refine bodyPost_ret (v := .agg #[.slice A7 M.dst.path.length c7, .string M.dst.typ, .string M.dst.nam, .int .i64 D.kind, .int .i64 D.n, .string D.key, .int .i64 0]) (by simp [results, Try.results76, go_sem, p2, g2, z2]; try rfl) rfl ⟨A7, c7, rfl, ?_, ?_⟩
  · refine H7.out.below ?_
    repeat (refine Below.setCell ?_ (by simp <;> omega) _)
    exact E2.out
  · repeat (refine Below.setCell ?_ (by simp <;> omega) _)
    exact E2.out
set_option maxHeartbeats 4000000 in
theorem place3 (M : MoveD) (D : AddrD) (A1 A7 A : Option Addr) (c1 c7 c : Nat) (w : World) (h1 : Strs w A1 M.src.path) (h7 : Strs w A7 M.dst.path) (h : Strs w A D.path) (hs : Sz M.src) (ht : Sz M.dst) (hd : Sz D) (l1 : M.src.path.length ≤ maxLen) (l7 : M.dst.path.length ≤ maxLen) (l0 : D.path.length ≤ maxLen) (hk : D.path.length ≤ c ∧ c ≤ maxLen ∧ ((∃ b o, A = some ⟨b, o, none⟩) ∨ (A = none ∧ c = 0))) (hz : Sz (reh.dataR D M.src.path M.dst.path)) :
    Calls Try.prog 78 #[.agg #[.slice A1 M.src.path.length c1, .string M.src.typ, .string M.src.nam, .int .i64 M.src.kind, .int .i64 M.src.n, .string M.src.key, .slice A7 M.dst.path.length c7, .string M.dst.typ, .string M.dst.nam, .int .i64 M.dst.kind, .int .i64 M.dst.n, .string M.dst.key], .agg #[.slice A D.path.length c, .string D.typ, .string D.nam, .int .i64 D.kind, .int .i64 D.n, .string D.key]] w (PlaceO w (reh.dataR D M.src.path M.dst.path) (reh.codeR D M.src.path M.dst.path)) := by
  have K := Lib.hid (fun (W : World) (hb : Below w.heap.size w W) => reh.reh_impl A c A1 c1 A7 c7 D M.src.path M.dst.path W (h.below hb) (h1.below hb) (h7.below hb) l0 l1 l7 hd.typ hd.nam hd.key hk.1 hk.2.1 hk.2.2)
  have HZ := Lib.hid hz
  obtain ⟨X, hX⟩ : ∃ X, reh.dataR D M.src.path M.dst.path = X := ⟨_, rfl⟩
  obtain ⟨C, hC⟩ : ∃ X, reh.codeR D M.src.path M.dst.path = X := ⟨_, rfl⟩
  rw [hX, hC] at K
  rw [hX] at HZ
  rw [hX, hC]
  clear h1 h7 h hs ht hd l1 l7 l0 hk hz hX hC
  go_enter Try.func78, Try.ntmps78
  go_wp2_with fail
  refine (K.out _ (below_a3 _ _ _ _)).mono ?_
  rintro _ w1 ⟨B, cp, rfl, ho, hb⟩
  have O1 : Hid (own.Own w1 (w.heap.size + 1 + 1 + 1) (.slice B X.path.length cp) X.path) := own.Own.mono ho (by simp)
  have E1 := Lib.hid (below_then (below_a3 _ _ _ _) hb (Nat.le_refl _))
  have P1 := Lib.hid ((Blk.new2 w _ _ _ _).step hb)
  have p1 := P1.out.cell
  have g1 := P1.out.free
  have z1 : w.heap.size + 1 + 1 < w1.heap.size := P1.out.lt
  clear hb ho
  go_wp2
  refine bodyPost_ret (v := .agg #[.slice B X.path.length cp, .string X.typ, .string X.nam, .int .i64 X.kind, .int .i64 X.n, .string X.key, .int .i64 C]) (by simp [results, Try.results78, go_sem, p1, g1, z1]; try rfl) rfl ⟨B, cp, rfl, ?_, ?_⟩
  · refine own.Own.strs (base := w.heap.size + 1 + 1 + 1) (c := cp) ?_ HZ.out.path
    iterate 7 refine own.Own.far ?_ (by simp <;> omega) _
    exact O1.out
  · repeat (refine Below.setCell ?_ (by simp <;> omega) _)
    exact E1.out
end Go.Proofs.Ytflfnekaiaplfaa.cf
