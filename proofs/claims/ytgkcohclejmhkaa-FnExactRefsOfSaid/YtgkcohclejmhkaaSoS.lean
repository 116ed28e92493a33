/- compareAddrs: what it leaves of the world: draws, and blocks behind. slices.SortFunc over a row of addresses of the call's own. -/
import Derived.Test.YtgkcohclejmhkaaLess
import Derived.Sort.Grow
import Derived.Shelf.SlSortCmp.WholeK
import Derived.Test.YtgkcohclejmhkaaSoP
import Derived.Test.YtgkcohclejmhkaaRfP
import Derived.Test.YtgkcohclejmhkaaSoA
namespace Go.Proofs.Ytgkcohclejmhkaa.cm
open ad mem
open Go.ChangeShapes Go.WideShapes Go.ChangeAt Go.RowKit Go.Lib Go.Sort
set_option linter.unusedVariables false
set_option maxRecDepth 8000
set_option linter.unusedSimpArgs false

/-- so many draws on, and blocks behind. -/
def Gr (w W : World) : Prop := ∃ (q : Nat) (os : Array Obj), W = Go.Sort.grow (w.drewN q) os
theorem Gr.refl (w : World) : Gr w w := ⟨0, #[], by rw [Go.Sort.grow_empty]; rfl⟩
theorem Gr.drewN {w W : World} (h : Gr w W) (n : Nat) : Gr w (W.drewN n) := by
  obtain ⟨q, os, rfl⟩ := h
  exact ⟨q + n, os, by show _ = Go.Sort.grow (w.drewN (q + n)) os; rw [← World.drewN_drewN]; rfl⟩
theorem Gr.drew {w W : World} (h : Gr w W) : Gr w W.drew := h.drewN 1
theorem Gr.alloc {w W : World} (h : Gr w W) (o : Obj) : Gr w (W.alloc o) := by
  obtain ⟨q, os, rfl⟩ := h
  exact ⟨q, os ++ #[o], by rw [Go.Sort.alloc_eq_grow, Go.Sort.grow_grow]⟩
theorem Gr.below {w W : World} (h : Gr w W) : Below w.heap.size w W := by
  obtain ⟨q, os, rfl⟩ := h
  refine ⟨rfl, rfl, rfl, by show _ ≤ (w.heap ++ os).size; simp, fun k hk => ?_⟩
  show (w.heap ++ os)[k]? = _
  rw [Array.getElem?_append_left hk]

set_option maxHeartbeats 4000000 in
theorem compare_grow (A B : Option Addr) (c c' : Nat) (d e : AddrD) (w : World) (h : Strs w A d.path) (h' : Strs w B e.path) (hl : d.path.length ≤ maxLen) (hm : e.path.length ≤ maxLen) :
    Calls Try.prog 83 #[.agg #[.slice A d.path.length c, .string d.typ, .string d.nam, .int .i64 d.kind, .int .i64 d.n, .string d.key], .agg #[.slice B e.path.length c', .string e.typ, .string e.nam, .int .i64 e.kind, .int .i64 e.n, .string e.key]] w fun en w' => en = .returned (.int .i64 (orI (looks d e))) ∧ Gr w w' := by
  have H := Lib.hid h
  have H' := Lib.hid h'
  have HA := Lib.hid (And.intro hl hm)
  clear h h' hl hm
  go_enter Try.func83, Try.ntmps83
  go_wp2_with fail
  have KC := fun (W : World) (hb : Below w.heap.size w W) => Lib.hid (comparePaths_any A B c c' d.path e.path W (H.out.below hb) (H'.out.below hb) HA.out.1 HA.out.2)
  go_region_held3 (fun w' => w'.cell? ⟨w.heap.size, 0, none⟩ = some (.slice A d.path.length c) ∧ w'.cell? ⟨w.heap.size, 1, none⟩ = some (.string d.typ) ∧ w'.cell? ⟨w.heap.size, 2, none⟩ = some (.string d.nam) ∧ w'.cell? ⟨w.heap.size, 3, none⟩ = some (.int .i64 d.kind) ∧ w'.cell? ⟨w.heap.size, 4, none⟩ = some (.int .i64 d.n) ∧ w'.cell? ⟨w.heap.size, 5, none⟩ = some (.string d.key) ∧ w'.cell? ⟨w.heap.size + 1, 0, none⟩ = some (.slice B e.path.length c') ∧ w'.cell? ⟨w.heap.size + 1, 1, none⟩ = some (.string e.typ) ∧ w'.cell? ⟨w.heap.size + 1, 2, none⟩ = some (.string e.nam) ∧ w'.cell? ⟨w.heap.size + 1, 3, none⟩ = some (.int .i64 e.kind) ∧ w'.cell? ⟨w.heap.size + 1, 4, none⟩ = some (.int .i64 e.n) ∧ w'.cell? ⟨w.heap.size + 1, 5, none⟩ = some (.string e.key)) (go_keep)
    (first
    | (go_at_call 120; refine (KC _ ?_).out.mono ?_; exact below_dn (below_a2 _ _ _) _; rintro _ _ ⟨rfl, nn, rfl⟩)
    | (go_at_call 121; refine (cmp_s _ _ _).mono ?_; rintro _ _ ⟨rfl, rfl⟩)
    | (go_at_call 122; refine (cmp_i _ _ _).mono ?_; rintro _ _ ⟨rfl, rfl⟩)
    | (go_at_call 119; refine (or6 _ _ (wordsI d.path e.path) (cmpS d.typ e.typ) (cmpS d.nam e.nam) (cmpI d.kind e.kind) (cmpI d.n e.n) (cmpS d.key e.key) _ ?_ ?_ ?_ ?_ ?_ ?_).mono ?_; exact cell_new (k := 0) (by simp); exact cell_new (k := 1) (by simp); exact cell_new (k := 2) (by simp); exact cell_new (k := 3) (by simp); exact cell_new (k := 4) (by simp); exact cell_new (k := 5) (by simp); rintro _ _ ⟨rfl, rfl⟩))
  all_goals (try go_wp2)
  go_ret
  refine ⟨rfl, ?_⟩
  repeat (first | exact Gr.refl _ | refine Gr.drewN ?_ _ | refine Gr.drew ?_ | refine Gr.alloc ?_ _)
end Go.Proofs.Ytgkcohclejmhkaa.cm
namespace Go.Proofs.Ytgkcohclejmhkaa.cf
open ad mem vl ex un cm bare
open Go.ChangeShapes Go.WideShapes Go.ChangeAt Go.RowKit Go.Lib
set_option linter.unusedVariables false
set_option maxRecDepth 8000
set_option linter.unusedSimpArgs false
theorem compare_cells {B B' : Nat → Prop} {n n' : Nat} {w : World} {ds ds' : List DC} {vs vs' : List Value} (h : Cells B n w shAddr_ ds vs) (h' : Cells B' n' w shAddr_ ds' vs') :
    Calls Try.prog 83 #[.agg vs.toArray, .agg vs'.toArray] w fun e w' => e = .returned (.int .i64 (rf.cmpA (bA ds) (bA ds'))) ∧ cm.Gr w w' := by
  obtain ⟨A, c, rfl, h1, h2, h3, h4, h5⟩ := addr_in h
  obtain ⟨A', c', rfl, g1, g2, g3, g4, g5⟩ := addr_in h'
  exact cm.compare_grow A A' c c' _ _ w h1 g1 h2 g2
theorem swoA (n : Nat) (L : List AddrD) (z : AddrD) : Go.Sort.SWO (Go.Proofs.ltOf fun x y : Fin n => rf.cmpA (L.getD x.val z) (L.getD y.val z)) := by
  have hl : ∀ x y : Fin n, Go.Proofs.ltOf (fun x y : Fin n => rf.cmpA (L.getD x.val z) (L.getD y.val z)) x y = decide (rf.cmpA (L.getD x.val z) (L.getD y.val z) < 0) := fun _ _ => rfl
  refine ⟨fun x => ?_, fun x y u h1 h2 => ?_, fun x y u h1 h2 => ?_⟩
  · rw [hl, rf.cmpA_zero.2 rfl]; rfl
  · rw [hl] at *
    simp only [decide_eq_true_eq] at *
    exact rf.tpA.lt_le h1 (by omega)
  · rw [hl] at *
    simp only [decide_eq_false_iff_not, Int.not_lt] at *
    have k1 : rf.cmpA (L.getD y.val z) (L.getD x.val z) ≤ 0 := by
      rcases Int.lt_or_le 0 (rf.cmpA (L.getD y.val z) (L.getD x.val z)) with hh | hh
      · have := (rf.tpA.neg (L.getD x.val z) (L.getD y.val z)).2 hh; omega
      · exact hh
    have k2 : rf.cmpA (L.getD u.val z) (L.getD y.val z) ≤ 0 := by
      rcases Int.lt_or_le 0 (rf.cmpA (L.getD u.val z) (L.getD y.val z)) with hh | hh
      · have := (rf.tpA.neg (L.getD y.val z) (L.getD u.val z)).2 hh; omega
      · exact hh
    have k3 := rf.tpA.tr _ _ _ k2 k1
    rcases Int.lt_or_le (rf.cmpA (L.getD x.val z) (L.getD u.val z)) 0 with hh | hh
    · have := (rf.tpA.neg (L.getD x.val z) (L.getD u.val z)).1 hh; omega
    · exact hh
set_option maxHeartbeats 1000000 in
theorem sort_bag {w : World} {base g cap : Nat} {L : List AddrD} (h : Bag 1 w base 34 2 (.slice (some ⟨g, 0, none⟩) L.length cap) (L.map dA)) (hn : 0 < L.length) (hsm : L.length ≤ 1000000) :
    Calls Try.prog 82 #[.slice (some ⟨g, 0, none⟩) L.length cap, .func (.func 83) #[] #[]] w fun e w' =>
      e = .returned (.tuple #[]) ∧ ∃ L' : List AddrD, L'.length = L.length ∧ (∀ x, x ∈ L' ↔ x ∈ L) ∧ L'.Pairwise (fun a b => rf.cmpA a b ≤ 0) ∧ Bag 1 w' base 34 2 (.slice (some ⟨g, 0, none⟩) L.length cap) (L'.map dA) ∧ Only (fun b => b = g) w w' := by
  have hml : (L.map dA).length = L.length := by simp
  have h' := h
  rw [← hml] at h'
  obtain ⟨hbg, hgl, hcm, rows, hl, hN, hR, hC, hre⟩ := Bag.reindex h'
  rw [hml] at hR hl
  haveI : Inhabited (Fin L.length) := ⟨⟨0, hn⟩⟩
  have hz : ∀ q (hq : q < L.length), Cells (fun x => base ≤ x ∧ x < w.heap.size ∧ x ≠ g) 1 w shAddr_ (dA L[q]) (rows.getD q []) := fun q hq => by
    have := hC q (by simpa using hq) (by omega)
    rw [List.getElem_map] at this
    rw [un.getD_at _ _ _ (by omega)]; exact this
  have eg : ∀ args w, (callFunc 83 args).run Try.prog w = .ok (.enter 83 args) w := enters_of Try.func83 (by kernel_rfl) rfl
  have hcmp : Go.Proofs.CmpLays Try.prog 83 #[] (fun i : Fin L.length => rows.getD i.val []) 6 (fun x y : Fin L.length => rf.cmpA (L.getD x.val zeroD) (L.getD y.val zeroD)) g 0 L.length w := fun m os dk hdk x y => by
    have hO := only_sort (fun i : Fin L.length => rows.getD i.val []) 6 w g m dk os
    have hx := Cells.agree (hz x.val x.isLt) (hO.agree fun b hb _ e => hb.2.2 e)
    have hy := Cells.agree (hz y.val y.isLt) (hO.agree fun b hb _ e => hb.2.2 e)
    have := compare_cells hx hy
    rw [bA_dA, bA_dA, ← un.getD_at L x.val zeroD x.isLt, ← un.getD_at L y.val zeroD y.isLt] at this
    simpa [cm.Gr] using this
  have hH := holds_rows hR hl hN
  have hcon := AnyQ.slices_SortFunc Try.sortSoA 6 Try.isAgg34 Try.sizeOf34 (fun i : Fin L.length => rows.getD i.val []) (fun x => Cells.length (hz x.val x.isLt)) (fun x => cells_one (hz x.val x.isLt)) (fun x y : Fin L.length => rf.cmpA (L.getD x.val zeroD) (L.getD y.val zeroD)) (swoA L.length L zeroD) 83 #[] g 0 cap (Array.ofFn (n := L.length) id) w eg (by rw [Array.size_ofFn]; exact hcmp) hH hgl (by rw [Array.size_ofFn]; omega)
  rw [Array.size_ofFn] at hcon
  refine (show Calls _ _ _ _ _ from hcon).mono ?_
  rintro e w' ⟨rfl, d', m, os, ⟨hp1, _, hp3⟩, hs, rfl⟩
  have hd : d'.size = L.length := by rw [hp1]; simp
  have hperm : d'.toList.Perm (List.ofFn (n := L.length) id) := by
    have e1 : (d'.extract 0 L.length) = d' := (congrArg (fun k => d'.extract 0 k) hd.symm).trans (by simp)
    have e2 : ((Array.ofFn (n := L.length) id).extract 0 L.length).toList = List.ofFn (n := L.length) id := by
      have : (Array.ofFn (n := L.length) id).extract 0 L.length = Array.ofFn (n := L.length) id := by
        have e3 := Array.size_ofFn (n := L.length) (f := id)
        exact (congrArg (fun k => (Array.ofFn (n := L.length) id).extract 0 k) e3.symm).trans (by simp)
      rw [this]; simp
    rw [e1, e2] at hp3; exact hp3
  have hmem : ∀ i : Fin L.length, i ∈ d'.toList := fun i => hperm.mem_iff.2 (by rw [List.mem_ofFn]; exact ⟨i, rfl⟩)
  have hnd : (d'.toList.map (·.val)).Nodup := by
    have h1 : (List.ofFn (n := L.length) id).map (fun i : Fin L.length => i.val) = List.range L.length := by
      apply List.ext_getElem <;> simp
    have h2 : (d'.toList.map (fun i : Fin L.length => i.val)).Perm (List.range L.length) := h1 ▸ hperm.map _
    exact h2.nodup_iff.2 List.nodup_range
  have hbag := hre _ (d'.toList.map (·.val)) (only_sort _ 6 w g m d' os) hnd (rows_sort hR hl hN m d' hd os)
  refine ⟨rfl, d'.toList.map fun i => L.getD i.val zeroD, by simp [hd], fun x => ?_, ?_, ?_, only_sort _ 6 w g m d' os⟩
  · simp only [List.mem_map]
    constructor
    · rintro ⟨i, _, rfl⟩
      rw [un.getD_at _ _ _ i.isLt]; exact List.getElem_mem _
    · intro hx
      obtain ⟨j, hj, rfl⟩ := List.getElem_of_mem hx
      exact ⟨⟨j, hj⟩, hmem _, un.getD_at _ _ _ hj⟩
  · rw [List.pairwise_map]
    refine List.pairwise_iff_getElem.2 fun i j hi hj hij => ?_
    have h1 := hs i j (Nat.zero_le _) hij (by simpa [hd] using hj)
    have e1 : d'[i]! = d'.toList[i] := by rw [getElem!_pos d' i (by simpa using hi)]; simp
    have e2 : d'[j]! = d'.toList[j] := by rw [getElem!_pos d' j (by simpa using hj)]; simp
    rw [e1, e2] at h1
    have h2 : ¬ rf.cmpA (L.getD d'.toList[j].val zeroD) (L.getD d'.toList[i].val zeroD) < 0 := of_decide_eq_false h1
    rcases Int.lt_or_le 0 (rf.cmpA (L.getD d'.toList[i].val zeroD) (L.getD d'.toList[j].val zeroD)) with hh | hh
    · exact absurd ((rf.tpA.neg _ _).2 hh) h2
    · exact hh
  · have e1 : ((d'.toList.map (·.val)).map fun q => (L.map dA).getD q []) = (d'.toList.map fun i => L.getD i.val zeroD).map dA := by
      rw [List.map_map, List.map_map]
      refine List.map_congr_left fun i _ => ?_
      exact un.getD_map dA L i.val zeroD [] i.isLt
    have e2 : (d'.toList.map (·.val)).length = L.length := by simp [hd]
    rw [e1, e2] at hbag
    exact hbag
end Go.Proofs.Ytgkcohclejmhkaa.cf
