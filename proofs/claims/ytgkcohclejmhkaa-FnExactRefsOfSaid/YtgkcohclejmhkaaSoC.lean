/- slices.CompactFunc over a row of addresses of the call's own; sortAddrs. -/
import Derived.Test.YtgkcohclejmhkaaSoP
import Derived.Test.YtgkcohclejmhkaaRfP
import Derived.Test.YtgkcohclejmhkaaLt
import Derived.Test.YtgkcohclejmhkaaAdL
namespace Go.Proofs.Ytgkcohclejmhkaa.cf
open ad mem vl ex un cm bare
open Go.ChangeShapes Go.WideShapes Go.ChangeAt Go.RowKit Go.Lib
set_option linter.unusedVariables false
set_option maxRecDepth 8000
set_option linter.unusedSimpArgs false
/-- the row of a compacting: kk items that are done, then those behind. -/
structure Cst (L : List AddrD) (m kk : Nat) (c : List Nat) : Prop where
  len : c.length = kk
  lt : ∀ q ∈ c, q < m
  nd : c.Nodup
  ris : rf.Ris (c.map fun q => L.getD q zeroD)
  mem : ∀ x, x ∈ (c.map fun q => L.getD q zeroD) ↔ x ∈ L.take m
theorem take_mem {L : List AddrD} {m : Nat} {x : AddrD} (hm : m < L.length) : x ∈ L.take (m + 1) ↔ x ∈ L.take m ∨ x = L.getD m zeroD := by
  rw [List.take_succ_eq_append_getElem hm, List.mem_append, List.mem_singleton, un.getD_at _ _ _ hm]
theorem Cst.skip {L : List AddrD} {m kk : Nat} {c : List Nat} (h : Cst L m kk c) (hm : m < L.length) (h1 : 1 ≤ m) (he : L.getD m zeroD = L.getD (m - 1) zeroD) : Cst L (m + 1) kk c := by
  refine ⟨h.len, fun q hq => by have := h.lt q hq; omega, h.nd, h.ris, fun x => ?_⟩
  rw [h.mem, take_mem hm]
  constructor
  · exact .inl
  · rintro (hx | rfl)
    · exact hx
    · rw [he, un.getD_at _ _ _ (by omega), List.mem_take_iff_getElem]; exact ⟨m - 1, by omega, rfl⟩
theorem Cst.keep {L : List AddrD} {m kk : Nat} {c : List Nat} (h : Cst L m kk c) (hs : L.Pairwise fun a b => rf.cmpA a b ≤ 0) (hm : m < L.length) (h1 : 1 ≤ m) (hne : L.getD m zeroD ≠ L.getD (m - 1) zeroD) : Cst L (m + 1) (kk + 1) (c ++ [m]) := by
  have hp := List.pairwise_iff_getElem.1 hs
  have hlt : rf.cmpA (L.getD (m - 1) zeroD) (L.getD m zeroD) < 0 := by
    have h2 := hp (m - 1) m (by omega) hm (by omega)
    rw [un.getD_at _ _ _ hm, un.getD_at _ _ _ (show m - 1 < L.length by omega)] at *
    rcases Int.lt_or_eq_of_le h2 with h3 | h3
    · exact h3
    · exact absurd (rf.cmpA_zero.1 h3).symm hne
  refine ⟨by simp [h.len], fun q hq => ?_, ?_, ?_, fun x => ?_⟩
  · rcases List.mem_append.1 hq with hq | hq
    · have := h.lt q hq; omega
    · have := List.mem_singleton.1 hq; omega
  · refine List.nodup_append.2 ⟨h.nd, by simp, fun a ha b hb => ?_⟩
    have := h.lt a ha
    have := List.mem_singleton.1 hb
    omega
  · rw [List.map_append]
    refine List.pairwise_append.2 ⟨h.ris, by simp, fun a ha b hb => ?_⟩
    obtain rfl : b = L.getD m zeroD := by simpa using hb
    have h3 := (h.mem a).1 ha
    rw [List.mem_take_iff_getElem] at h3
    obtain ⟨j, hj, rfl⟩ := h3
    by_cases e : j = m - 1
    · subst e; rw [un.getD_at _ _ _ (show m - 1 < L.length by omega)] at hlt; exact hlt
    · have h4 := hp j (m - 1) (by omega) (by omega) (by omega)
      rw [un.getD_at _ _ _ (show m - 1 < L.length by omega)] at hlt
      exact rf.tpA.le_lt h4 hlt
  · rw [List.map_append, List.mem_append, h.mem, take_mem hm]
    simp
theorem Cst.all {L : List AddrD} {k : Nat} (hs : L.Pairwise fun a b => rf.cmpA a b ≤ 0) (hk : k ≤ L.length) (hd : ∀ j, j + 1 < k → L.getD j zeroD ≠ L.getD (j + 1) zeroD) : Cst L k k (List.range k) := by
  induction k with
  | zero => exact ⟨rfl, fun q hq => by simp at hq, by simp, by simp [rf.Ris], fun x => by simp⟩
  | succ k ih =>
    have h := ih (by omega) (fun j hj => hd j (by omega))
    rw [List.range_succ]
    by_cases h0 : k = 0
    · subst h0
      refine ⟨rfl, fun q hq => by simp at hq; omega, by simp, by simp [rf.Ris], fun x => ?_⟩
      rw [take_mem (by omega)]
      simp
    · exact h.keep hs (by omega) (by omega) (fun e => hd (k - 1) (by omega) (by rw [show k - 1 + 1 = k by omega]; exact e.symm))
theorem row_set {c : List Nat} {n kk : Nat} (hl : c.length = kk) (hk : kk < n) (q : Nat) : (c ++ (List.range n).drop kk).set kk q = (c ++ [q]) ++ (List.range n).drop (kk + 1) := by
  rw [List.set_append_right _ _ (by omega), hl, Nat.sub_self, List.drop_eq_getElem_cons (by simpa using hk), List.set_cons_zero]
  simp
theorem row_at {c : List Nat} {n kk j : Nat} (hl : c.length = kk) (hj : kk ≤ j) (hn : j < n) (h : j < (c ++ (List.range n).drop kk).length) : (c ++ (List.range n).drop kk)[j] = j := by
  rw [List.getElem_append_right (by omega), List.getElem_drop, List.getElem_range]; omega
theorem sameI {B B' : Nat → Prop} {n n' : Nat} {w : World} {d d' : AddrD} {vs vs' : List Value} {r : Bool} (hr : adl.eqA d d' = r) (h : Cells B n w shAddr_ (dA d) vs) (h' : Cells B' n' w shAddr_ (dA d') vs') :
    Calls Try.prog 85 #[.agg vs.toArray, .agg vs'.toArray] w (un.Told w (.bool r)) := sameAddr_impl (bA_dA d) (bA_dA d') hr h h'
theorem eqA_is {d e : AddrD} : adl.eqA d e = true ↔ d = e := by
  constructor
  · intro h
    obtain ⟨a1, a2, a3, a4, a5, a6⟩ := d
    obtain ⟨b1, b2, b3, b4, b5, b6⟩ := e
    simp [adl.eqA, adl.eqL] at h
    simp [h]
  · rintro rfl; exact adl.eqA_refl _
theorem range_split {n k : Nat} (h : k ≤ n) : List.range k ++ (List.range n).drop k = List.range n := by
  apply List.ext_getElem
  · simp; omega
  · intro i h1 h2
    by_cases hi : i < k
    · rw [List.getElem_append_left (by simpa using hi)]; simp
    · rw [List.getElem_append_right (by simp; omega)]; simp; omega
theorem only_cells {F : Nat → Prop} {g : Nat} : ∀ (us : List Value) (o : Nat) {a w : World}, Only F a w → F g → Only F a (w.setCells g o us)
  | [], _, _, _, h, _ => h
  | u :: us, o, _, _, h, hF => only_cells us (o + 1) (h.setCell (p := ⟨g, o, none⟩) hF u) hF
theorem run_clear_struct {P : Program} {t e : TypeId} {z : Value} {w : World} {N : Nat} (ht : P.underlying t = some (.slice e)) (hv : ∀ w, (zeroValue e).run P w = .ok z w) (hN : z.cells.size = N) (h1 : ∀ v ∈ z.cells.toList, v.oneCell' = true) (b o n c : Nat) (hn : 0 < n) (hth : w.there b o (n * N)) (ty : TypeId) :
    (Builtin.clear_ #[t] ty #[.slice (some ⟨b, o, none⟩) n c]).run P w = .ok (.tuple #[]) (w.setCells b o (Builtin.zeroCells z.cells n).toList) := by
  subst hN
  have hlen : (Builtin.zeroCells z.cells n).toList.length = n * z.cells.size := by simp [Builtin.zeroCells]
  have hst := run_storeCells_cells (P := P) b o (Builtin.zeroCells z.cells n).toList 0 w (fun j hj => (hth j (by omega)).1) (fun j hj => (hth j (by omega)).2) (fun v hv' => by
    simp only [Builtin.zeroCells, Array.toList_map, List.mem_map] at hv'
    obtain ⟨i, hi, rfl⟩ := hv'
    have hi' : i < n * z.cells.size := by simpa using hi
    by_cases h0 : z.cells.size = 0
    · rw [h0] at hi'; omega
    · rw [getElem!_pos z.cells _ (Nat.mod_lt _ (by omega))]; exact h1 _ (by simp))
  simp only [Nat.add_zero] at hst
  obtain ⟨m, rfl⟩ : ∃ m, n = m + 1 := ⟨n - 1, by omega⟩
  simp [Builtin.clear_, run_underlying ht, hv, hst]
set_option maxHeartbeats 8000000 in
theorem compact_bag {w : World} {base g cap o : Nat} {L : List AddrD} (ho : Hid (o = 0)) (h : Bag 1 w base 34 2 (.slice (some ⟨g, 0, none⟩) L.length cap) (L.map dA)) (hs : L.Pairwise fun a b => rf.cmpA a b ≤ 0) (hn : 0 < L.length) (hsm : L.length ≤ 1000000) :
    Calls Try.prog 84 #[.slice (some ⟨g, o, none⟩) L.length cap, .func (.func 85) #[] #[]] w fun e w' =>
      ∃ L' : List AddrD, e = .returned (.slice (some ⟨g, o, none⟩) L'.length cap) ∧ rf.Ris L' ∧ (∀ x, x ∈ L' ↔ x ∈ L) ∧ Bag 1 w' base 34 2 (.slice (some ⟨g, 0, none⟩) L'.length cap) (L'.map dA) ∧ Only (fun b => b = g) w w' := by
  have hml : (L.map dA).length = L.length := by simp
  have h' := h
  rw [← hml] at h'
  obtain ⟨hbg, hgl, hcm, rows, hl, hN, hR, hC, hre⟩ := Bag.reindex h'
  rw [hml] at hR hl
  have hcap : L.length ≤ cap := by have := hR.len; simpa using this
  unfold maxLen at hcm
  have HZ : Hid (∀ q (hq : q < L.length), Cells (fun x => base ≤ x ∧ x < w.heap.size ∧ x ≠ g) 1 w shAddr_ (dA (L.getD q zeroD)) (rows.getD q [])) := fun q hq => by
    have := hC q (by simpa using hq) (by omega)
    rw [List.getElem_map] at this
    rw [un.getD_at rows q [] (by omega), un.getD_at L q zeroD hq]; exact this
  have HRE := Lib.hid hre
  have HR0 := Lib.hid hR
  have HN := Lib.hid hN
  have HS := Lib.hid hs
  have HL := Lib.hid hl
  have HOF := ho
  clear h h' hR hre hN hs hl hC hml
  -- the end
  have HEND : Hid (∀ (w' : World) (c : List Nat), Only (fun b => b = g) w w' → RowI w' g cap 6 34 rows c → Cst L L.length c.length c → ∃ L' : List AddrD, (c.map fun q => L.getD q zeroD).length = L'.length ∧ rf.Ris L' ∧ (∀ x, x ∈ L' ↔ x ∈ L) ∧ Bag 1 w' base 34 2 (.slice (some ⟨g, 0, none⟩) L'.length cap) (L'.map dA)) := fun w' c hO hR hI => by
    refine ⟨c.map fun q => L.getD q zeroD, rfl, hI.ris, fun x => by rw [hI.mem, List.take_length], ?_⟩
    have := HRE.out w' c hO hI.nd hR
    have e1 : (c.map fun q => (L.map dA).getD q []) = (c.map fun q => L.getD q zeroD).map dA := by
      rw [List.map_map]
      refine List.map_congr_left fun q hq => un.getD_map dA L q zeroD [] (hI.lt q hq)
    rw [e1] at this
    rw [List.length_map]
    exact this
  by_cases h1 : L.length < 2
  · have e1 : L.length = 1 := by omega
    go_enter Try.func84, Try.ntmps84
    go_wp2
    go_ret
    refine ⟨L, rfl, ?_, fun x => Iff.rfl, ?_, Only.refl _ _⟩
    · match L, e1 with
      | [a], _ => simp [rf.Ris]
    · obtain ⟨L', h2, h3, h4, h5⟩ := HEND.out w (List.range L.length) (Only.refl _ _) HR0.out (by
        rw [List.length_range]
        exact Cst.all HS.out (Nat.le_refl _) (fun j hj => by omega))
      have : L' = L := by
        have e2 : L'.length = 1 := by rw [← h2]; simp [e1]
        match L, L', e1, e2 with
        | [a], [b], _, _ => have := (h4 b).1 (by simp); simp at this; rw [this]
      rw [this] at h5; exact h5
  have h2 : 2 ≤ L.length := by omega
  clear h1
  go_enter Try.func84, Try.ntmps84
  go_wp2
  go_loopw [5] (fun i wr => ∃ k : Nat, 1 ≤ k ∧ k ≤ L.length ∧ i = .int .i64 k ∧ (∀ j, j + 1 < k → L.getD j zeroD ≠ L.getD (j + 1) zeroD) ∧ RowI wr g cap 6 34 rows (List.range L.length) ∧ Only (fun b => b = g) w wr) (fun i _ => L.length - (RowKit.intOf i).toNat)
  case atStart => exact ⟨1, by omega, by omega, rfl, fun j hj => by omega, HR0.out, Only.refl _ _⟩
  case round =>
    obtain ⟨k, hk1, hk, rfl, hd, hR, hO⟩ := hrel
    have HD0 := Lib.hid hd
    have HR := Lib.hid hR
    have HO := Lib.hid hO
    have hgw := hR.lt
    clear hd hR hO
    by_cases hlt : k < L.length
    · obtain ⟨i, hij⟩ : ∃ i, i + 1 = k := ⟨k - 1, by omega⟩
      have hIk : Cells (fun x => base ≤ x ∧ x < w.heap.size ∧ x ≠ g) 1 w shAddr_ (dA (L.getD (k) zeroD)) (rows.getD (k) []) := HZ.out (k) (by omega)
      obtain ⟨Ak, ck, ek, -⟩ := addr_in hIk
      rw [bA_dA] at ek
      have HIk := Lib.hid (Cells.agree hIk (HO.out.agree fun b hb _ e => hb.2.2 e))
      clear hIk
      obtain ⟨Dk, hDk⟩ : ∃ D, L.getD (k) zeroD = D := ⟨_, rfl⟩
      rw [hDk] at ek HIk
      rw [ek] at HIk
      have HEk := Lib.hid ek
      have HDk := Lib.hid hDk
      clear ek hDk
      have hIi : Cells (fun x => base ≤ x ∧ x < w.heap.size ∧ x ≠ g) 1 w shAddr_ (dA (L.getD (i) zeroD)) (rows.getD (i) []) := HZ.out (i) (by omega)
      obtain ⟨Ai, ci, ei, -⟩ := addr_in hIi
      rw [bA_dA] at ei
      have HIi := Lib.hid (Cells.agree hIi (HO.out.agree fun b hb _ e => hb.2.2 e))
      clear hIi
      obtain ⟨Di, hDi⟩ : ∃ D, L.getD (i) zeroD = D := ⟨_, rfl⟩
      rw [hDi] at ei HIi
      rw [ei] at HIi
      have HEi := Lib.hid ei
      have HDi := Lib.hid hDi
      clear ei hDi
      have hkI : (k : Int) < L.length := by omega
      have hiI : (i : Int) < L.length := by omega
      have ei : (k : Int) - 1 = i := by omega
      have ew : IntKind.i64.wrap ((k : Int) - 1) = i := by rw [IntWalk.i64_left, IntWalk.wrap64_in _ (by omega)]; exact ei
      have hi0 : (0 : Int) ≤ (i : Int) := by omega
      have HRk := Lib.hid (show wr.rangeAt g (k * 6) (rows.getD k []) from (by have := HR.out.at_ k (by simpa using hlt); rwa [List.getElem_range] at this))
      have HRi := Lib.hid (show wr.rangeAt g (i * 6) (rows.getD i []) from (by have := HR.out.at_ i (by simp; omega); rwa [List.getElem_range] at this))
      have q0 := later_cell (b := g) (o := o + k * 6) HR.out.lt (by have := HRk.out 0 _ (by rw [HEk.out]; rfl); rw [HOF.out, show 0 + k * 6 = (k) * 6 + 0 from by omega]; exact this)
      have q1 := later_cell (b := g) (o := o + k * 6 + 1) HR.out.lt (by have := HRk.out 1 _ (by rw [HEk.out]; rfl); rw [HOF.out, show 0 + k * 6 + 1 = (k) * 6 + 1 from by omega]; exact this)
      have q2 := later_cell (b := g) (o := o + k * 6 + 2) HR.out.lt (by have := HRk.out 2 _ (by rw [HEk.out]; rfl); rw [HOF.out, show 0 + k * 6 + 2 = (k) * 6 + 2 from by omega]; exact this)
      have q3 := later_cell (b := g) (o := o + k * 6 + 3) HR.out.lt (by have := HRk.out 3 _ (by rw [HEk.out]; rfl); rw [HOF.out, show 0 + k * 6 + 3 = (k) * 6 + 3 from by omega]; exact this)
      have q4 := later_cell (b := g) (o := o + k * 6 + 4) HR.out.lt (by have := HRk.out 4 _ (by rw [HEk.out]; rfl); rw [HOF.out, show 0 + k * 6 + 4 = (k) * 6 + 4 from by omega]; exact this)
      have q5 := later_cell (b := g) (o := o + k * 6 + 5) HR.out.lt (by have := HRk.out 5 _ (by rw [HEk.out]; rfl); rw [HOF.out, show 0 + k * 6 + 5 = (k) * 6 + 5 from by omega]; exact this)
      have p0 := later_cell (b := g) (o := o + i * 6) HR.out.lt (by have := HRi.out 0 _ (by rw [HEi.out]; rfl); rw [HOF.out, show 0 + i * 6 = (i) * 6 + 0 from by omega]; exact this)
      have p1 := later_cell (b := g) (o := o + i * 6 + 1) HR.out.lt (by have := HRi.out 1 _ (by rw [HEi.out]; rfl); rw [HOF.out, show 0 + i * 6 + 1 = (i) * 6 + 1 from by omega]; exact this)
      have p2 := later_cell (b := g) (o := o + i * 6 + 2) HR.out.lt (by have := HRi.out 2 _ (by rw [HEi.out]; rfl); rw [HOF.out, show 0 + i * 6 + 2 = (i) * 6 + 2 from by omega]; exact this)
      have p3 := later_cell (b := g) (o := o + i * 6 + 3) HR.out.lt (by have := HRi.out 3 _ (by rw [HEi.out]; rfl); rw [HOF.out, show 0 + i * 6 + 3 = (i) * 6 + 3 from by omega]; exact this)
      have p4 := later_cell (b := g) (o := o + i * 6 + 4) HR.out.lt (by have := HRi.out 4 _ (by rw [HEi.out]; rfl); rw [HOF.out, show 0 + i * 6 + 4 = (i) * 6 + 4 from by omega]; exact this)
      have p5 := later_cell (b := g) (o := o + i * 6 + 5) HR.out.lt (by have := HRi.out 5 _ (by rw [HEi.out]; rfl); rw [HOF.out, show 0 + i * 6 + 5 = (i) * 6 + 5 from by omega]; exact this)
      obtain ⟨r, hr⟩ : ∃ r, adl.eqA Dk Di = r := ⟨_, rfl⟩
      have KC := fun (W' : World) (h : Below wr.heap.size wr W') => sameI hr (Cells.below HIk.out h) (Cells.below HIi.out h)
      have HRr := Lib.hid hr
      clear hr
      cases r
      · go_wp2_with fail
        refine wp_region_later (by kernel_rfl) (by kernel_rfl) ?_
        repeat (go_big_quiet_step ((go_at_call 85; exact later_call (KC _ (later_below _)))))
        refine wpQuiet_nil ?_
        rintro _ ⟨u9, rfl⟩
        have HO2 := Lib.hid (HO.out.trans (Only.of_below (later_below u9)))
        have HR2 := Lib.hid (HR.out.below (later_below u9))
        generalize later wr u9 = w9 at HO2 HR2 ⊢
        clear q0 q1 q2 q3 q4 q5 p0 p1 p2 p3 p4 p5 KC HR HO
        go_wp2
        go_roundw
        case rel => exact ⟨k + 1, by omega, by omega, by go_num, fun j hj => by
          by_cases e : j = i
          · subst e
            rw [hij, HDk.out, HDi.out]
            intro e2
            have := eqA_is.2 e2.symm
            rw [HRr.out] at this; cases this
          · exact HD0.out j (by omega), HR2.out, HO2.out⟩
        case measure => simp [RowKit.intOf]; omega
      · have HEQ : Hid (L.getD k zeroD = L.getD (k - 1) zeroD) := by
          show _ = _
          rw [show k - 1 = i by omega, HDk.out, HDi.out]
          exact eqA_is.1 HRr.out
        clear HRr
        go_wp2_with fail
        refine wp_region_later (by kernel_rfl) (by kernel_rfl) ?_
        repeat (go_big_quiet_step ((go_at_call 85; exact later_call (KC _ (later_below _)))))
        refine wpQuiet_nil ?_
        rintro _ ⟨u9, rfl⟩
        have HO2 := Lib.hid (HO.out.trans (Only.of_below (later_below u9)))
        have HR2 := Lib.hid (HR.out.below (later_below u9))
        generalize later wr u9 = w9 at HO2 HR2 ⊢
        clear q0 q1 q2 q3 q4 q5 p0 p1 p2 p3 p4 p5 KC HR HO
        clear HIk HIi HEk HEi HDk HDi HRk HRi
        go_wp2
        go_loopw [5, 7] (fun a b wr => ∃ (kk k2 : Nat) (c : List Nat), a = .int .i64 kk ∧ b = .int .i64 k2 ∧ 1 ≤ k2 ∧ k + k2 ≤ L.length ∧ kk < k + k2 ∧ RowI wr g cap 6 34 rows (c ++ (List.range L.length).drop kk) ∧ Cst L (k + k2) kk c ∧ Only (fun b => b = g) w wr) (fun _ b _ => L.length - k - (RowKit.intOf b).toNat)
        case atStart => exact ⟨k, 1, List.range k, rfl, rfl, Nat.le_refl _, by omega, by omega, (by rw [range_split (by omega)]; exact HR2.out), (Cst.all HS.out (by omega) HD0.out).skip hlt hk1 HEQ.out, HO2.out⟩
        case round =>
          clear HR2 HO2 HD0 HEQ ew ei hi0 hiI
          obtain ⟨kk, k2, c, rfl, rfl, h21, h22, h23, hR, hI, hO⟩ := hrel
          have HR := Lib.hid hR
          have HO := Lib.hid hO
          have HC := Lib.hid hI
          have hgw := hR.lt
          have hcl := hI.len
          have HCL := Lib.hid hcl
          clear hR hO hI hcl
          have hkkn : kk < L.length := by omega
          have hkkI : (kk : Int) < L.length := by omega
          have hkk0 : (0 : Int) ≤ (kk : Int) := by omega
          have hgl2 : (c ++ (List.range L.length).drop kk).length = L.length := by have := HCL.out; simp; omega
          by_cases hlt2 : k + k2 < L.length
          · obtain ⟨i2, hij2⟩ : ∃ i, i + 1 = k2 := ⟨k2 - 1, by omega⟩
            have hIm : Cells (fun x => base ≤ x ∧ x < w.heap.size ∧ x ≠ g) 1 w shAddr_ (dA (L.getD (k + k2) zeroD)) (rows.getD (k + k2) []) := HZ.out (k + k2) (by omega)
            obtain ⟨Am, cm, em, -⟩ := addr_in hIm
            rw [bA_dA] at em
            have HIm := Lib.hid (Cells.agree hIm (HO.out.agree fun b hb _ e => hb.2.2 e))
            clear hIm
            obtain ⟨Dm, hDm⟩ : ∃ D, L.getD (k + k2) zeroD = D := ⟨_, rfl⟩
            rw [hDm] at em HIm
            rw [em] at HIm
            have HEm := Lib.hid em
            have HDm := Lib.hid hDm
            clear em hDm
            have hIi : Cells (fun x => base ≤ x ∧ x < w.heap.size ∧ x ≠ g) 1 w shAddr_ (dA (L.getD (k + i2) zeroD)) (rows.getD (k + i2) []) := HZ.out (k + i2) (by omega)
            obtain ⟨Ai, ci, ei, -⟩ := addr_in hIi
            rw [bA_dA] at ei
            have HIi := Lib.hid (Cells.agree hIi (HO.out.agree fun b hb _ e => hb.2.2 e))
            clear hIi
            obtain ⟨Di, hDi⟩ : ∃ D, L.getD (k + i2) zeroD = D := ⟨_, rfl⟩
            rw [hDi] at ei HIi
            rw [ei] at HIi
            have HEi := Lib.hid ei
            have HDi := Lib.hid hDi
            clear ei hDi
            have hkI : (k2 : Int) < (L.length : Int) - (k : Int) := by omega
            have hkN : k2 < L.length - k := by omega
            have hiN : i2 < L.length - k := by omega
            have hiI : (i2 : Int) < (L.length : Int) - (k : Int) := by omega
            have ei : (k2 : Int) - 1 = i2 := by omega
            have ew : IntKind.i64.wrap ((k2 : Int) - 1) = i2 := by rw [IntWalk.i64_left, IntWalk.wrap64_in _ (by omega)]; exact ei
            have hi0 : (0 : Int) ≤ (i2 : Int) := by omega
            have HRm := Lib.hid (show wr.rangeAt g ((k + k2) * 6) (rows.getD (k + k2) []) from (by have := HR.out.at_ (k + k2) (by rw [hgl2]; exact hlt2); rwa [row_at HCL.out (by omega) hlt2] at this))
            have HRi := Lib.hid (show wr.rangeAt g ((k + i2) * 6) (rows.getD (k + i2) []) from (by have := HR.out.at_ (k + i2) (by rw [hgl2]; omega); rwa [row_at HCL.out (by omega) (by omega)] at this))
            have q0 := later_cell (b := g) (o := o + k * 6 + k2 * 6) HR.out.lt (by have := HRm.out 0 _ (by rw [HEm.out]; rfl); rw [HOF.out, show 0 + k * 6 + k2 * 6 = (k + k2) * 6 + 0 from by omega]; exact this)
            have q1 := later_cell (b := g) (o := o + k * 6 + k2 * 6 + 1) HR.out.lt (by have := HRm.out 1 _ (by rw [HEm.out]; rfl); rw [HOF.out, show 0 + k * 6 + k2 * 6 + 1 = (k + k2) * 6 + 1 from by omega]; exact this)
            have q2 := later_cell (b := g) (o := o + k * 6 + k2 * 6 + 2) HR.out.lt (by have := HRm.out 2 _ (by rw [HEm.out]; rfl); rw [HOF.out, show 0 + k * 6 + k2 * 6 + 2 = (k + k2) * 6 + 2 from by omega]; exact this)
            have q3 := later_cell (b := g) (o := o + k * 6 + k2 * 6 + 3) HR.out.lt (by have := HRm.out 3 _ (by rw [HEm.out]; rfl); rw [HOF.out, show 0 + k * 6 + k2 * 6 + 3 = (k + k2) * 6 + 3 from by omega]; exact this)
            have q4 := later_cell (b := g) (o := o + k * 6 + k2 * 6 + 4) HR.out.lt (by have := HRm.out 4 _ (by rw [HEm.out]; rfl); rw [HOF.out, show 0 + k * 6 + k2 * 6 + 4 = (k + k2) * 6 + 4 from by omega]; exact this)
            have q5 := later_cell (b := g) (o := o + k * 6 + k2 * 6 + 5) HR.out.lt (by have := HRm.out 5 _ (by rw [HEm.out]; rfl); rw [HOF.out, show 0 + k * 6 + k2 * 6 + 5 = (k + k2) * 6 + 5 from by omega]; exact this)
            have p0 := later_cell (b := g) (o := o + k * 6 + i2 * 6) HR.out.lt (by have := HRi.out 0 _ (by rw [HEi.out]; rfl); rw [HOF.out, show 0 + k * 6 + i2 * 6 = (k + i2) * 6 + 0 from by omega]; exact this)
            have p1 := later_cell (b := g) (o := o + k * 6 + i2 * 6 + 1) HR.out.lt (by have := HRi.out 1 _ (by rw [HEi.out]; rfl); rw [HOF.out, show 0 + k * 6 + i2 * 6 + 1 = (k + i2) * 6 + 1 from by omega]; exact this)
            have p2 := later_cell (b := g) (o := o + k * 6 + i2 * 6 + 2) HR.out.lt (by have := HRi.out 2 _ (by rw [HEi.out]; rfl); rw [HOF.out, show 0 + k * 6 + i2 * 6 + 2 = (k + i2) * 6 + 2 from by omega]; exact this)
            have p3 := later_cell (b := g) (o := o + k * 6 + i2 * 6 + 3) HR.out.lt (by have := HRi.out 3 _ (by rw [HEi.out]; rfl); rw [HOF.out, show 0 + k * 6 + i2 * 6 + 3 = (k + i2) * 6 + 3 from by omega]; exact this)
            have p4 := later_cell (b := g) (o := o + k * 6 + i2 * 6 + 4) HR.out.lt (by have := HRi.out 4 _ (by rw [HEi.out]; rfl); rw [HOF.out, show 0 + k * 6 + i2 * 6 + 4 = (k + i2) * 6 + 4 from by omega]; exact this)
            have p5 := later_cell (b := g) (o := o + k * 6 + i2 * 6 + 5) HR.out.lt (by have := HRi.out 5 _ (by rw [HEi.out]; rfl); rw [HOF.out, show 0 + k * 6 + i2 * 6 + 5 = (k + i2) * 6 + 5 from by omega]; exact this)
            obtain ⟨r, hr⟩ : ∃ r, adl.eqA Dm Di = r := ⟨_, rfl⟩
            have KC := fun (W' : World) (h : Below wr.heap.size wr W') => sameI hr (Cells.below HIm.out h) (Cells.below HIi.out h)
            have HRr := Lib.hid hr
            clear hr
            have HEQ : Hid ((L.getD (k + k2) zeroD = L.getD (k + k2 - 1) zeroD) ↔ r = true) := by
              show _ ↔ _
              rw [show k + k2 - 1 = k + i2 by omega, HDm.out, HDi.out, ← HRr.out]
              exact eqA_is.symm
            clear HRr
            cases r
            · go_wp2_with fail
              refine wp_region_later (by kernel_rfl) (by kernel_rfl) ?_
              repeat (go_big_quiet_step ((go_at_call 85; exact later_call (KC _ (later_below _)))))
              refine wpQuiet_nil ?_
              rintro _ ⟨u9, rfl⟩
              have HO2 := Lib.hid (HO.out.trans (Only.of_below (later_below u9)))
              have HR2 := Lib.hid (HR.out.below (later_below u9))
              generalize later wr u9 = w9 at HO2 HR2 ⊢
              clear q0 q1 q2 q3 q4 q5 p0 p1 p2 p3 p4 p5 KC HR HO
              obtain ⟨us, hus⟩ : ∃ us, rows.getD (k + k2) [] = us := ⟨_, rfl⟩
              have HUS := Lib.hid hus
              have HX9 : Hid (w9.rangeAt g (o + k * 6 + k2 * 6) us) := by
                have := HR2.out.at_ (k + k2) (by rw [hgl2]; exact hlt2)
                rw [row_at HCL.out (by omega) hlt2, hus] at this
                show World.rangeAt _ _ _ _
                rw [HOF.out, show 0 + k * 6 + k2 * 6 = (k + k2) * 6 from by omega]; exact this
              have HUL : Hid (us.length = 6) := by
                show _ = _
                rw [← hus, HEm.out]; rfl
              have HU1 : Hid (∀ v ∈ us, v.oneCell' = true) := cells_one (show Cells _ _ _ _ _ us from by rw [← hus, HEm.out]; exact HIm.out)
              have HSZ : Hid (us.toArray.size = 6) := by (show _ = _; simpa using HUL.out)
              have hth : Hid (w9.there g (o + kk * 6) 6) := by
                have := HR2.out.there (o := 0 + kk * 6) (m := 6) (by omega)
                rw [← HOF.out] at this; exact this
              clear hus
              go_wp2_with (first
                | (refine wpList_load_mid rfl 34 (.tmp 54) rfl g (o + k * 6 + k2 * 6) rfl us _ HX9.out Try.underlying34 rfl (by rw [HUL.out]; kernel_rfl) ?_)
                | (refine wpList_store_mid rfl 34 (.tmp 56) (.tmp 55) rfl g (o + kk * 6) us.toArray rfl rfl (by rw [HSZ.out]; exact hth.out) (by rw [HSZ.out]; kernel_rfl) (all_oneCell_toArray HU1.out) ?_))
              go_wp2
              have HO3 : Hid (Only (fun b => b = g) w (w9.setCells g (o + kk * 6) us)) := only_cells _ _ HO2.out rfl
              have HR3 : Hid (RowI (w9.setCells g (o + kk * 6) us) g cap 6 34 rows ((c ++ [k + k2]) ++ (List.range L.length).drop (kk + 1))) := by
                show RowI _ _ _ _ _ _ _
                rw [← row_set HCL.out hkkn (k + k2), HOF.out, Nat.zero_add, ← HUS.out]
                exact HR2.out.set HN.out kk (k + k2) (by rw [hgl2]; exact hkkn) (by rw [HL.out]; exact hlt2)
              have HC3 := Lib.hid (HC.out.keep HS.out hlt2 (by omega) (fun e => by have := HEQ.out.1 e; cases this))
              go_roundw
              case rel => exact ⟨kk + 1, k2 + 1, c ++ [k + k2], by go_num, by go_num, by omega, by omega, by omega, HR3.out, HC3.out, HO3.out⟩
              case measure => simp [RowKit.intOf]; omega
            · go_wp2_with fail
              refine wp_region_later (by kernel_rfl) (by kernel_rfl) ?_
              repeat (go_big_quiet_step ((go_at_call 85; exact later_call (KC _ (later_below _)))))
              refine wpQuiet_nil ?_
              rintro _ ⟨u9, rfl⟩
              have HO2 := Lib.hid (HO.out.trans (Only.of_below (later_below u9)))
              have HR2 := Lib.hid (HR.out.below (later_below u9))
              generalize later wr u9 = w9 at HO2 HR2 ⊢
              clear q0 q1 q2 q3 q4 q5 p0 p1 p2 p3 p4 p5 KC HR HO
              have HC3 := Lib.hid (HC.out.skip hlt2 (by omega) (HEQ.out.2 (by simp)))
              clear HIm HIi HEm HEi HDm HDi HRm HRi HEQ HC
              go_wp2
              go_roundw
              case rel => exact ⟨kk, k2 + 1, c, rfl, by go_num, by omega, by omega, by omega, HR2.out, HC3.out, HO2.out⟩
              case measure => simp [RowKit.intOf]; omega
          · have hend : k + k2 = L.length := by omega
            have hk2e : ¬ ((k2 : Int) < (L.length : Int) - (k : Int)) := by omega
            have hk2n : k2 = L.length - k := by omega
            obtain ⟨zs, hcl⟩ : ∃ zs : List Value, ∀ ty, (Builtin.clear_ #[31] ty #[.slice (some ⟨g, o + kk * 6, none⟩) (L.length - kk) (cap - kk)]).run Try.prog wr = .ok (.tuple #[]) (wr.setCells g (o + kk * 6) zs) :=
              ⟨_, fun ty => run_clear_struct (N := 6) Try.underlying31 Try.zeroValue34 rfl (by decide) g (o + kk * 6) _ _ (by omega) (by rw [HOF.out]; exact HR.out.there (by omega)) ty⟩
            have HR3 : Hid (RowI (wr.setCells g (o + kk * 6) zs) g cap 6 34 rows c) := by
              have := HR.out.cut HN.out kk (o + kk * 6) zs (by omega)
              rw [List.take_left' HCL.out] at this
              exact this
            have HO3 := Lib.hid (only_cells zs (o + kk * 6) HO.out rfl)
            have HC3 : Hid (Cst L L.length c.length c) := by
              show Cst _ _ _ _
              have := HC.out
              rw [hend, ← HCL.out] at this; exact this
            go_wp2
            go_ret
            obtain ⟨L', k1, k2', k3, k4⟩ := HEND.out _ c HO3.out HR3.out HC3.out
            rw [List.length_map] at k1
            exact ⟨L', by rw [← k1, HCL.out]; rfl, k2', k3, k4, HO3.out⟩
    · obtain rfl : k = L.length := by omega
      clear hlt
      go_wp2
      go_ret
      obtain ⟨L', k1, k2', k3, k4⟩ := HEND.out _ (List.range L.length) HO.out HR.out (by rw [List.length_range]; exact Cst.all HS.out (Nat.le_refl _) HD0.out)
      rw [List.length_map, List.length_range] at k1
      exact ⟨L', by rw [← k1]; rfl, k2', k3, k4, HO.out⟩
end Go.Proofs.Ytgkcohclejmhkaa.cf
