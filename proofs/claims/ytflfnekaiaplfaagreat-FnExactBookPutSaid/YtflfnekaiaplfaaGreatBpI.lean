/- append of one struct to a full slice, whoever's it is: it makes a new row. BookPut of the program. -/
import Derived.Test.YtflfnekaiaplfaaGreatSkN
import Derived.ArgAppend
import Derived.Test.YtflfnekaiaplfaaGreatBdI
import Derived.Test.YtflfnekaiaplfaaGreatBpS
namespace Go.Proofs.YtflfnekaiaplfaaGreat.un
open mem
open Go.ChangeShapes Go.WideShapes Go.ChangeAt Go.RowKit Go.Lib
set_option linter.unusedVariables false
set_option maxRecDepth 8000
set_option linter.unusedSimpArgs false
theorem flat_read {w : World} {N k : Nat} (hN : 0 < N) {rows : List (List Value)} (hl : ∀ r ∈ rows, r.length = N) {b o : Nat} (hr : ∀ j (h : j < rows.length), w.rangeAt b (o + j * N) rows[j]) : ∀ j u, rows.flatten[j]? = some u → w.cell? ⟨b, o + j, none⟩ = some u := fun j u hj => by
  have hjl := (List.getElem?_eq_some_iff.1 hj).1
  rw [flat_len rows hl] at hjl
  have hq : j / N < rows.length := by rw [Nat.div_lt_iff_lt_mul hN]; exact hjl
  have hc : j % N < N := Nat.mod_lt _ hN
  have ej : j / N * N + j % N = j := by have := Nat.div_add_mod j N; rw [Nat.mul_comm] at this; omega
  have h5 := flat_at rows hl _ hq _ hc
  rw [ej, hj] at h5
  have h6 := hr _ hq _ u h5.symm
  rw [Nat.add_assoc, ej] at h6
  exact h6
theorem wpList_full1 {P : Program} {ops : Array Oper} {rest : List Oper} {o : Oper} {a : Act} {Q : Exit → Act → World → Prop} (hgd : o.guard = none) {t T : TypeId} {e : Nat} (hI : Inf P t T (sh e).length) (s x : Operand)
    (ho : o.op = .call { callee := .builtin .append, args := #[s, x], argTypes := #[t, t] })
    {w1 : World} {A : Option Addr} {k g c : Nat} {rows : List (List Value)} {us : List Value} (hs : a.eval s = .slice A k k) (hk : rows.length = k) (hl : ∀ r ∈ rows, r.length = (sh e).length)
    (hA : ∀ j (h : j < rows.length), ∃ b o, A = some ⟨b, o, none⟩ ∧ b < w1.heap.size ∧ w1.rangeAt b (o + j * (sh e).length) rows[j])
    (hx : a.eval x = .slice (some ⟨g, 0, none⟩) 1 c) (hgx : g = w1.heap.size) (hu : us.length = (sh e).length) (hones : ∀ u ∈ us, u.oneCell' = true) (hsm : k ≤ 1000000)
    (h : ∀ v' w', w'.ownsRow (w1.alloc (.cells us.toArray T)).heap.size T (sh e).length v' (k + 1) (rows.flatten ++ us) → (w1.alloc (.cells us.toArray T)).grownBy w' none → wpList P ops Q rest (a.put o.dst v') w') : wpList P ops Q (o :: rest) a (w1.alloc (.cells us.toArray T)) := by
  subst hgx
  obtain ⟨ht, i, z, bytes, hi, hz, hN, hby, hzs, hpos, hbl⟩ := hI.go
  have hbt : (k + 1) * bytes ≤ 1000001 * 4096 := Nat.mul_le_mul (by omega) hbl
  cases A with
  | none =>
    have h0 : k = 0 := by
      rcases Nat.eq_zero_or_pos k with e | e
      · exact e
      · obtain ⟨_, _, e1, _⟩ := hA 0 (by omega); cases e1
    subst h0
    have hr0 : rows = [] := List.eq_nil_of_length_eq_zero hk
    subst hr0
    exact wpList_append_grows (P := P) (w1.alloc (.cells us.toArray T)) hgd s x t ho T i z (sh e).length bytes ht hi hz hN hby hzs hpos none 0 0 [] hs (fun _ => ⟨rfl, rfl⟩) (by simp) (fun b hb => by cases hb) ⟨w1.heap.size, 0, none⟩ 1 c us hx (by rw [hu, Nat.one_mul]) new_cells hones (by omega) (by unfold maxLen; omega) (by omega) (by simpa using h)
  | some ad =>
    have hrd : ∀ j u, rows.flatten[j]? = some u → (w1.alloc (.cells us.toArray T)).cell? (ad.add j) = some u := fun j u hj => by
      have hjl := (List.getElem?_eq_some_iff.1 hj).1
      rw [flat_len rows hl] at hjl
      have hp : 0 < rows.length := by rcases Nat.eq_zero_or_pos rows.length with e | e; · rw [e] at hjl; omega
                                      · exact e
      obtain ⟨b, o, e1, hb, _⟩ := hA 0 hp
      injection e1 with e1; subst e1
      have h2 := flat_read (w := w1) (k := 0) hpos hl (b := b) (o := o) (fun q hq => by obtain ⟨b', o', e2, _, e3⟩ := hA q hq; injection e2 with e2; injection e2 with e2 e4; subst e2 e4; exact e3) j u hj
      rw [un.addr_add, (below_a1 w1 (.cells us.toArray T)).cell (p := ⟨b, o + j, none⟩) hb]
      exact h2
    exact wpList_append_grows (P := P) (w1.alloc (.cells us.toArray T)) hgd s x t ho T i z (sh e).length bytes ht hi hz hN hby hzs hpos (some ad) k k rows.flatten hs (fun e => by cases e) (by rw [flat_len rows hl, hk]) (fun b hb j u hj => by injection hb with hb; subst hb; exact hrd j u hj) ⟨w1.heap.size, 0, none⟩ 1 c us hx (by rw [hu, Nat.one_mul]) new_cells hones (by omega) (by unfold maxLen; omega) (by omega) h
end Go.Proofs.YtflfnekaiaplfaaGreat.un
namespace Go.Proofs.YtflfnekaiaplfaaGreat.cf
open ad mem vl ex un cm
open Go.ChangeShapes Go.WideShapes Go.ChangeAt Go.RowKit Go.Lib
set_option linter.unusedVariables false
set_option maxRecDepth 8000
set_option linter.unusedSimpArgs false

theorem row_parts {w : World} {base n N : Nat} {T : TypeId} {v : Value} {rows : List (List Value)} (hl : ∀ r ∈ rows, r.length = N) (hn : rows.length = n) (h0 : 0 < n) (hrow : w.ownsRow base T N v n rows.flatten) :
    ∃ g c, v = .slice (some ⟨g, 0, none⟩) n c ∧ base ≤ g ∧ g < w.heap.size ∧ ∀ q (hq : q < rows.length), w.rangeAt g (0 + q * N) rows[q] := by
  have hrow' := hrow
  rcases hrow.2 with ⟨_, e⟩ | ⟨g, cap, cur, hv, hb, hr, _, _, _, ht⟩
  · omega
  subst hv
  refine ⟨g, cap, rfl, hb, (Array.getElem?_eq_some_iff.1 hr).1, fun q hq j u hj => ?_⟩
  have hjl : j < N := by
    have := (List.getElem?_eq_some_iff.1 hj).1
    have h2 := hl _ (List.getElem_mem hq)
    omega
  have h1 := own_cell hrow' (q * N + j) (by
    have : (q + 1) * N ≤ n * N := Nat.mul_le_mul_right N (by omega)
    rw [Nat.add_mul] at this; omega)
  rw [flat_at rows hl q hq j hjl, hj] at h1
  rw [Nat.zero_add]
  exact h1
def liftT {B : Nat → Prop} {n : Nat} {w w' : World} {G : List DC → Prop} (hb : Below w.heap.size w w') (N : Nat) (hN : n ≤ N) (x : it.Th B n w G) : it.Th Any N w' G := ⟨x.1, Cells.monoB ((Cells.below x.2.1 hb).ups hN) (fun _ _ _ => trivial), x.2.2⟩
theorem nL_split : ∀ (xs : List (List DC)) (k : Nat), nL (xs.take k) + nL (xs.drop k) = nL xs
  | [], k => by simp [nL]
  | x :: xs, 0 => by simp [nL]
  | x :: xs, k + 1 => by have := nL_split xs k; simp only [List.take_succ_cons, List.drop_succ_cons, nL]; omega
theorem nL_app : ∀ (xs ys : List (List DC)), nL (xs ++ ys) = nL xs + nL ys
  | [], ys => by simp [nL]
  | x :: xs, ys => by have := nL_app xs ys; simp only [List.cons_append, nL]; omega
theorem put_bound (xs : List (List DC)) (td : List DC) : nV (putOut xs td) ≤ nL xs + nCs td := by
  unfold putOut
  split
  · simp [nV, nL]
  split
  · simp [nV, nL]
  split
  · simp [nV, nL]
  simp only [nV]
  generalize (cutK xs td).1 = k
  generalize (cutK xs td).2 = t
  have h1 := nL_split xs k
  have h2 : nL (xs.drop (k + if t = true then 1 else 0)) ≤ nL (xs.drop k) := by
    have h3 := nL_split (xs.drop k) (if t = true then 1 else 0)
    rw [List.drop_drop] at h3
    omega
  unfold putX
  rw [nL_app, nL_app]
  simp only [nL]
  omega
theorem fits_impl {B : Nat → Prop} {n : Nat} {w : World} {lt0 lt6 lt7 : List (List DC)} {At0 At6 At7 : Option Addr} {ct0 ct6 ct7 : Nat} {st1 st2 st5 : ByteArray} {xt3 xt4 : Int} {r : Bool} (hr : (decide (lt6.length ≤ 400) && decide (lt7.length ≤ 400)) = r) :
    Calls Tryz.prog 27 #[.agg #[.slice At0 lt0.length ct0, .string st1, .string st2, .int .i64 xt3, .int .i64 xt4, .string st5, .slice At6 lt6.length ct6, .slice At7 lt7.length ct7]] w (un.Told w (.bool r)) := by
  by_cases h6 : lt6.length ≤ 400
  · have h6I : (lt6.length : Int) ≤ 400 := by omega
    by_cases h7 : lt7.length ≤ 400
    · have h7I : (lt7.length : Int) ≤ 400 := by omega
      go_enter Tryz.func27, Tryz.ntmps27
      go_wp2
      go_ret
      exact ⟨ret_bool (by rw [← hr]; simp [h6, h7]), below_a1 _ _⟩
    · have h7I : ¬ (lt7.length : Int) ≤ 400 := by omega
      go_enter Tryz.func27, Tryz.ntmps27
      go_wp2
      go_ret
      exact ⟨ret_bool (by rw [← hr]; simp [h6, h7]), below_a1 _ _⟩
  · have h6I : ¬ (lt6.length : Int) ≤ 400 := by omega
    go_enter Tryz.func27, Tryz.ntmps27
    go_wp2
    go_ret
    exact ⟨ret_bool (by rw [← hr]; simp [h6]), below_a1 _ _⟩
set_option maxHeartbeats 8000000 in
theorem bookPut_impl {B B' : Nat → Prop} {n m c : Nat} {w : World} {xs : List (List DC)} {A : Option Addr} {td : List DC} {vs : List Value} {X : List DC} (hX : putOut xs td = X) (h : Cell B n w (.l 8) (.l xs) (.slice A xs.length c)) (h' : Cells B' m w shThing_ td vs) (hcap : xs.length ≤ c) (hcm : c ≤ maxLen) :
    Calls Tryz.prog 9 #[.slice A xs.length c, .agg vs.toArray] w (un.NewS 3 shBookOut_ X w) := by
  subst hX
  have hxl := h.len.2
  unfold maxLen at hxl
  have hxI : (xs.length : Int) ≤ 9223372036854775807 := by omega
  have H := Lib.hid (Gd.of1 h)
  have HT := Lib.hid (Gd.ofC h')
  obtain ⟨lt0, st1, st2, xt3, xt4, st5, lt6, lt7, At0, ct0, At6, ct6, At7, ct7, rfl, rfl, k0, k1, k2, k3, k4, k5, k6, k7⟩ := open_Thing h'
  have HA := Lib.hid (Gd.ofC (show Cells B' m w shAddr_ [.l lt0, .s st1, .s st2, .i xt3, .i xt4, .s st5] [.slice At0 lt0.length ct0, .string st1, .string st2, .int .i64 xt3, .int .i64 xt4, .string st5] from ⟨k0, Cell.mkS k1, Cell.mkS k2, Cell.mkI k3, Cell.mkI k4, Cell.mkS k5, trivial⟩))
  have HP : Hid (putOut xs [.l lt0, .s st1, .s st2, .i xt3, .i xt4, .s st5, .l lt6, .l lt7] = if 400 < xs.length ∨ 400 < lt6.length ∨ 400 < lt7.length then [.l [], .i 2] else if bookB xs = false ∨ thB [.l lt0, .s st1, .s st2, .i xt3, .i xt4, .s st5, .l lt6, .l lt7] = false then [.l [], .i 1] else if 40 ≤ xs.length ∧ atI xs (bA [.l lt0, .s st1, .s st2, .i xt3, .i xt4, .s st5, .l lt6, .l lt7]) < 0 then [.l [], .i 9] else [.l (putX xs [.l lt0, .s st1, .s st2, .i xt3, .i xt4, .s st5, .l lt6, .l lt7] (cutK xs [.l lt0, .s st1, .s st2, .i xt3, .i xt4, .s st5, .l lt6, .l lt7]).1 (cutK xs [.l lt0, .s st1, .s st2, .i xt3, .i xt4, .s st5, .l lt6, .l lt7]).2), .i 0]) := rfl
  have hcut6 : ∀ {k : Nat} {t : Bool}, Cut xs [.l lt0, .s st1, .s st2, .i xt3, .i xt4, .s st5] k t → Cut xs [.l lt0, .s st1, .s st2, .i xt3, .i xt4, .s st5, .l lt6, .l lt7] k t := fun h => ⟨h.le, h.low, h.high, h.yes, h.no⟩
  obtain ⟨td, hTD⟩ : ∃ td : List DC, [.l lt0, .s st1, .s st2, .i xt3, .i xt4, .s st5, .l lt6, .l lt7] = td := ⟨_, rfl⟩
  rw [hTD] at HT HP hcut6 ⊢
  have HCUT6 : Hid (∀ {k : Nat} {t : Bool}, Cut xs [.l lt0, .s st1, .s st2, .i xt3, .i xt4, .s st5] k t → Cut xs td k t) := hcut6
  have E0 := Lib.hid (below_a2 w (.cells #[.slice At0 lt0.length ct0, .string st1, .string st2, .int .i64 xt3, .int .i64 xt4, .string st5, .slice At6 lt6.length ct6, .slice At7 lt7.length ct7] 41) (.cells #[.slice none 0 0, .int .i64 0] 34))
  have P0 := Lib.hid (Blk.new1 w (.cells #[.slice At0 lt0.length ct0, .string st1, .string st2, .int .i64 xt3, .int .i64 xt4, .string st5, .slice At6 lt6.length ct6, .slice At7 lt7.length ct7] 41) 34 #[.slice none 0 0, .int .i64 0])
  have B0 := Lib.hid ((Blk.new w 41 #[.slice At0 lt0.length ct0, .string st1, .string st2, .int .i64 xt3, .int .i64 xt4, .string st5, .slice At6 lt6.length ct6, .slice At7 lt7.length ct7]).alloc (.cells #[.slice none 0 0, .int .i64 0] 34))
  have KB := fun (W : World) (hW : Below w.heap.size w W) (r : Bool) (hr : bookB xs = r) => Lib.hid (bookRight_impl hr (H.out.below hW).now)
  have KR := fun (W : World) (hW : Below w.heap.size w W) (r : Bool) (hr : thB td = r) => Lib.hid (thing_impl hr (HT.out.below hW).now)
  clear h h' k0 k1 k2 k3 k4 k5 k6 k7 hTD hcut6
  by_cases h4 : 400 < xs.length
  · have HX : Hid (putOut xs td = [.l [], .i 2]) := by show _ = _; rw [HP.out, if_pos (.inl h4)]
    have h4I : (400 : Int) < xs.length := by omega
    go_enter Tryz.func9, Tryz.ntmps9
    have p9 := P0.out.cell
    have f9 := P0.out.free
    have z9 := P0.out.lt
    go_wp2
    refine bodyPost_ret (v := .agg #[.slice none 0 0, .int .i64 2]) (by simp [results, Tryz.results9, go_sem, p9, f9]; try rfl) rfl ⟨[.slice none 0 0, .int .i64 2], rfl, ?_, ?_⟩
    · rw [HX.out]
      exact none_owns 3 _ _ _ (by unfold R64; omega)
    · first
        | exact below_a2 _ _ _
        | (iterate 2 refine Below.setCell ?_ (Nat.le_succ _) _
           exact E0.out)
  have h4I : ¬ (400 : Int) < xs.length := by omega
  cases hf : (decide (lt6.length ≤ 400) && decide (lt7.length ≤ 400))
  · have HX : Hid (putOut xs td = [.l [], .i 2]) := by show _ = _; rw [HP.out, if_pos (by simp at hf; omega)]
    go_enter Tryz.func9, Tryz.ntmps9
    go_wp2_with fail
    refine (fits_impl (B := B') (n := m) hf).mono ?_
    rintro _ w1 ⟨rfl, hb⟩
    have E1 := Lib.hid (below_then E0.out hb (Nat.le_refl _))
    have P1 := Lib.hid (P0.out.step hb)
    have B1 := Lib.hid (B0.out.step hb)
    have b1 := B1.out.cell
    clear hb
    have p9 := P1.out.cell
    have f9 := P1.out.free
    have z9 := P1.out.lt
    go_wp2
    refine bodyPost_ret (v := .agg #[.slice none 0 0, .int .i64 2]) (by simp [results, Tryz.results9, go_sem, p9, f9]; try rfl) rfl ⟨[.slice none 0 0, .int .i64 2], rfl, ?_, ?_⟩
    · rw [HX.out]
      exact none_owns 3 _ _ _ (by unfold R64; omega)
    · first
        | exact below_a2 _ _ _
        | (iterate 2 refine Below.setCell ?_ (Nat.le_succ _) _
           exact E1.out)
  have hfit : ¬ (400 < xs.length ∨ 400 < lt6.length ∨ 400 < lt7.length) := by simp at hf; omega
  cases hbk : bookB xs
  · have HX : Hid (putOut xs td = [.l [], .i 1]) := by show _ = _; rw [HP.out, if_neg hfit, if_pos (.inl hbk)]
    go_enter Tryz.func9, Tryz.ntmps9
    go_wp2_with fail
    refine (fits_impl (B := B') (n := m) hf).mono ?_
    rintro _ w1 ⟨rfl, hb⟩
    have E1 := Lib.hid (below_then E0.out hb (Nat.le_refl _))
    have P1 := Lib.hid (P0.out.step hb)
    have B1 := Lib.hid (B0.out.step hb)
    have b1 := B1.out.cell
    clear hb
    go_wp2_with fail
    refine ((KB _ E1.out _ hbk).out).mono ?_
    rintro _ w2 ⟨rfl, hb⟩
    have E2 := Lib.hid (below_then E1.out hb (Nat.le_refl _))
    have P2 := Lib.hid (P1.out.step hb)
    have B2 := Lib.hid (B1.out.step hb)
    have b2 := B2.out.cell
    clear hb b1
    have p9 := P2.out.cell
    have f9 := P2.out.free
    have z9 := P2.out.lt
    go_wp2
    refine bodyPost_ret (v := .agg #[.slice none 0 0, .int .i64 1]) (by simp [results, Tryz.results9, go_sem, p9, f9]; try rfl) rfl ⟨[.slice none 0 0, .int .i64 1], rfl, ?_, ?_⟩
    · rw [HX.out]
      exact none_owns 3 _ _ _ (by unfold R64; omega)
    · first
        | exact below_a2 _ _ _
        | (iterate 2 refine Below.setCell ?_ (Nat.le_succ _) _
           exact E2.out)
  cases htk : thB td
  · have HX : Hid (putOut xs td = [.l [], .i 1]) := by show _ = _; rw [HP.out, if_neg hfit, if_pos (.inr htk)]
    go_enter Tryz.func9, Tryz.ntmps9
    go_wp2_with fail
    refine (fits_impl (B := B') (n := m) hf).mono ?_
    rintro _ w1 ⟨rfl, hb⟩
    have E1 := Lib.hid (below_then E0.out hb (Nat.le_refl _))
    have P1 := Lib.hid (P0.out.step hb)
    have B1 := Lib.hid (B0.out.step hb)
    have b1 := B1.out.cell
    clear hb
    go_wp2_with fail
    refine ((KB _ E1.out _ hbk).out).mono ?_
    rintro _ w2 ⟨rfl, hb⟩
    have E2 := Lib.hid (below_then E1.out hb (Nat.le_refl _))
    have P2 := Lib.hid (P1.out.step hb)
    have B2 := Lib.hid (B1.out.step hb)
    have b2 := B2.out.cell
    clear hb b1
    go_wp2_with fail
    refine ((KR _ E2.out _ htk).out).mono ?_
    rintro _ w3 ⟨rfl, hb⟩
    have E3 := Lib.hid (below_then E2.out hb (Nat.le_refl _))
    have P3 := Lib.hid (P2.out.step hb)
    have B3 := Lib.hid (B2.out.step hb)
    have b3 := B3.out.cell
    clear hb b2
    have p9 := P3.out.cell
    have f9 := P3.out.free
    have z9 := P3.out.lt
    go_wp2
    refine bodyPost_ret (v := .agg #[.slice none 0 0, .int .i64 1]) (by simp [results, Tryz.results9, go_sem, p9, f9]; try rfl) rfl ⟨[.slice none 0 0, .int .i64 1], rfl, ?_, ?_⟩
    · rw [HX.out]
      exact none_owns 3 _ _ _ (by unfold R64; omega)
    · first
        | exact below_a2 _ _ _
        | (iterate 2 refine Below.setCell ?_ (Nat.le_succ _) _
           exact E3.out)
  obtain ⟨hok1, hok2, hok3⟩ := bookB_iff.1 hbk
  have HOK := Lib.hid hok2
  have HRI := Lib.hid hok3
  have HDO : Hid (putOut xs td = if 40 ≤ xs.length ∧ atI xs (bA td) < 0 then [.l [], .i 9] else [.l (putX xs td (cutK xs td).1 (cutK xs td).2), .i 0]) := by show _ = _; rw [HP.out, if_neg hfit, if_neg (by rw [hbk, htk]; simp)]
  have KC := fun (W : World) (hW : Below w.heap.size w W) => Lib.hid (cutBook_impl (H.out.below hW).now (HA.out.below hW).now (by omega) hcap hcm (rise_mono hok3))
  go_enter Tryz.func9, Tryz.ntmps9
  go_wp2_with fail
  refine (fits_impl (B := B') (n := m) hf).mono ?_
  rintro _ w1 ⟨rfl, hb⟩
  have E1 := Lib.hid (below_then E0.out hb (Nat.le_refl _))
  have P1 := Lib.hid (P0.out.step hb)
  have B1 := Lib.hid (B0.out.step hb)
  have b1 := B1.out.cell
  clear hb
  go_wp2_with fail
  refine ((KB _ E1.out _ hbk).out).mono ?_
  rintro _ w2 ⟨rfl, hb⟩
  have E2 := Lib.hid (below_then E1.out hb (Nat.le_refl _))
  have P2 := Lib.hid (P1.out.step hb)
  have B2 := Lib.hid (B1.out.step hb)
  have b2 := B2.out.cell
  clear hb b1
  go_wp2_with fail
  refine ((KR _ E2.out _ htk).out).mono ?_
  rintro _ w3 ⟨rfl, hb⟩
  have E3 := Lib.hid (below_then E2.out hb (Nat.le_refl _))
  have P3 := Lib.hid (P2.out.step hb)
  have B3 := Lib.hid (B2.out.step hb)
  have b3 := B3.out.cell
  clear hb b2
  go_wp2_with fail
  refine ((KC _ E3.out).out).mono ?_
  rintro _ w4 ⟨hcr, hb⟩
  have E4 := Lib.hid (below_then E3.out hb (Nat.le_refl _))
  have P4 := Lib.hid (P3.out.step hb)
  have B4 := Lib.hid (B3.out.step hb)
  have b4 := B4.out.cell
  clear hb b3
  obtain ⟨k, there, A1, A2, A3, n2, c2, c3, tt, rfl, hn2, hto, htl, hA1, hA3, hcut0⟩ := hcr
  have HCUT := Lib.hid (HCUT6.out hcut0)
  have HA1 := Lib.hid hA1
  have HA3 := Lib.hid hA3
  have hkl := hcut0.le
  clear hcut0 hA1 hA3
  by_cases hfull : xs.length = 40 ∧ there = false
  · skip
    have HX : Hid (putOut xs td = [.l [], .i 9]) := by
      show _ = _
      have hc := HCUT.out
      rw [hfull.2] at hc
      rw [HDO.out, if_pos ⟨by omega, cut_no HRI.out hc⟩]
    obtain rfl : n2 = 0 := hn2.2 hfull.2
    have h40 : ((xs.length : Int) == 40) = true := by simp; omega
    clear hn2 hto hfull
    have p9 := P4.out.cell
    have f9 := P4.out.free
    have z9 := P4.out.lt
    go_wp2
    refine bodyPost_ret (v := .agg #[.slice none 0 0, .int .i64 9]) (by simp [results, Tryz.results9, go_sem, p9, f9]; try rfl) rfl ⟨[.slice none 0 0, .int .i64 9], rfl, ?_, ?_⟩
    · rw [HX.out]
      exact none_owns 3 _ _ _ (by unfold R64; omega)
    · first
        | exact below_a2 _ _ _
        | (iterate 2 refine Below.setCell ?_ (Nat.le_succ _) _
           exact E4.out)
  have HX : Hid (putOut xs td = [.l (putX xs td k there), .i 0]) := by
    show _ = _
    rw [HDO.out, cutK_eq HCUT.out, if_neg]
    rintro ⟨h1, h2⟩
    cases ht : there
    · exact hfull ⟨by omega, ht⟩
    · have hc := HCUT.out
      rw [ht] at hc
      exact (cut_yes HRI.out hc).1 h2
  have hgate : ((xs.length : Int) == 40) = false ∨ (((xs.length : Int) == 40) = true ∧ ((n2 : Int) == 0) = false) := by
    by_cases h1 : xs.length = 40
    · refine .inr ⟨by simp; omega, ?_⟩
      have h3 : n2 ≠ 0 := fun e => hfull ⟨h1, hn2.1 e⟩
      simp [h3]
    · exact .inl (by simp; omega)
  clear hn2 hfull
  obtain ⟨l0, hlm, hll, hla⟩ := it.things_list (G := fun d => thB d = true) HOK.out (H.out.below E4.out).now
  have hl1 : (l0.take k).length = k := by rw [List.length_take]; omega
  have hl2 : (l0.drop tt).length = xs.length - tt := by rw [List.length_drop, hll]
  have hp1 : ∀ q (hq : q < (l0.take k).length), ∃ b o, A1 = some ⟨b, o, none⟩ ∧ b < w4.heap.size ∧ w4.rangeAt b (o + q * 8) (l0.take k)[q].1.2 := fun q hq => by
    rw [HA1.out (by omega)]
    exact part_take l0 k hla q hq
  have hp2 : ∀ q (hq : q < (l0.drop tt).length), ∃ b o, A3 = some ⟨b, o, none⟩ ∧ b < w4.heap.size ∧ w4.rangeAt b (o + q * 8) (l0.drop tt)[q].1.2 := fun q hq => by
    obtain ⟨b, o, e1, e2⟩ := HA3.out (by omega)
    rw [e2]
    exact part_drop l0 tt (by rw [← e1]; exact hla) q hq
  have hrl : ∀ r ∈ (l0.take k).map (fun x => x.1.2), r.length = 8 := fun r hr => by
    obtain ⟨x, _, rfl⟩ := List.mem_map.1 hr
    exact Cells.length x.2.1
  have hrr : ∀ j (h : j < ((l0.take k).map (fun x => x.1.2)).length), ∃ b o, A1 = some ⟨b, o, none⟩ ∧ b < w4.heap.size ∧ w4.rangeAt b (o + j * 8) ((l0.take k).map (fun x => x.1.2))[j] := fun j hj => by
    rw [List.getElem_map]
    exact hp1 j (by simpa using hj)
  have HP2 := Lib.hid hp2
  have HRL := Lib.hid hrl
  have HRR := Lib.hid hrr
  have HLM := Lib.hid hlm
  have HT4 := Lib.hid (HT.out.below E4.out).now
  have HKL : Hid (((l0.take k).map (fun x => x.1.2)).length = k) := by show _ = _; rw [List.length_map, hl1]
  have HTO := Lib.hid hto
  clear hlm hla hp1 hp2 hrl hrr hto
  rcases hgate with hg0 | ⟨hg0, hg1⟩
  all_goals
    go_wp2_with (at_builtin; refine wpList_full1 rfl inf_thing (.tmp 43) (.tmp 45) rfl (w1 := w4) (A := A1) (k := k) (rows := (l0.take k).map (fun x => x.1.2)) (us := [.slice At0 lt0.length ct0, .string st1, .string st2, .int .i64 xt3, .int .i64 xt4, .string st5, .slice At6 lt6.length ct6, .slice At7 lt7.length ct7]) rfl HKL.out HRL.out HRR.out rfl rfl rfl (cells_one HT4.out) (by omega) ?_)
    intro v' w5 hrow hg
    have hbg : Below w4.heap.size w4 w5 := (below_a1 w4 _).grown hg (by simp) (fun q hq => by cases hq)
    have E5 := Lib.hid (below_then E4.out hbg (Nat.le_refl _))
    have P5 := Lib.hid (P4.out.step hbg)
    have hrow2 : w5.ownsRow (w4.alloc (.cells ([.slice At0 lt0.length ct0, .string st1, .string st2, .int .i64 xt3, .int .i64 xt4, .string st5, .slice At6 lt6.length ct6, .slice At7 lt7.length ct7] : List Value).toArray 41)).heap.size 41 8 v' (k + 1) ((l0.take k).map (fun x => x.1.2) ++ ([[.slice At0 lt0.length ct0, .string st1, .string st2, .int .i64 xt3, .int .i64 xt4, .string st5, .slice At6 lt6.length ct6, .slice At7 lt7.length ct7]] : List (List Value))).flatten := by
      rw [List.flatten_append, List.flatten_cons, List.flatten_nil, List.append_nil, World.size_alloc, List.map_take]; exact hrow
    obtain ⟨g5, c5, rfl, hg5, hg5l, hr5⟩ := row_parts (fun r hr => by
      rcases List.mem_append.1 hr with h1 | h1
      · exact HRL.out r h1
      · obtain rfl : r = _ := by simpa using h1
        rfl) (by rw [List.length_append, HKL.out]; rfl) (by omega) hrow2
    obtain ⟨N, hN1, hN2⟩ : ∃ N, n - 1 ≤ N ∧ m ≤ N := ⟨max (n - 1) m, Nat.le_max_left _ _, Nat.le_max_right _ _⟩
    obtain ⟨tx, htx⟩ : ∃ tx : it.Th Any N w5 (fun d => thB d = true), tx.1 = (td, [.slice At0 lt0.length ct0, .string st1, .string st2, .int .i64 xt3, .int .i64 xt4, .string st5, .slice At6 lt6.length ct6, .slice At7 lt7.length ct7]) := ⟨⟨(td, [.slice At0 lt0.length ct0, .string st1, .string st2, .int .i64 xt3, .int .i64 xt4, .string st5, .slice At6 lt6.length ct6, .slice At7 lt7.length ct7]), Cells.monoB ((Cells.below HT4.out hbg).ups hN2) (fun _ _ _ => trivial), htk⟩, rfl⟩
    obtain ⟨L1, hL1⟩ : ∃ L1 : List (it.Th Any N w5 (fun d => thB d = true)), (l0.take k).map (liftT hbg N hN1) ++ [tx] = L1 := ⟨_, rfl⟩
    obtain ⟨L2, hL2⟩ : ∃ L2 : List (it.Th Any N w5 (fun d => thB d = true)), (l0.drop tt).map (liftT hbg N hN1) = L2 := ⟨_, rfl⟩
    have q1 : L1.length = k + 1 := by rw [← hL1, List.length_append, List.length_map, hl1]; rfl
    have q2 : L2.length = xs.length - tt := by rw [← hL2, List.length_map, hl2]
    have e1 : L1.map (fun x => x.1.2) = (l0.take k).map (fun x => x.1.2) ++ ([[.slice At0 lt0.length ct0, .string st1, .string st2, .int .i64 xt3, .int .i64 xt4, .string st5, .slice At6 lt6.length ct6, .slice At7 lt7.length ct7]] : List (List Value)) := by
      rw [← hL1, List.map_append, List.map_map, List.map_cons, List.map_nil, htx]; rfl
    have e2 : L1.map (fun x => x.1.1) = xs.take k ++ [td] := by
      rw [← hL1, List.map_append, List.map_map, List.map_cons, List.map_nil, htx]
      have e3 : (l0.take k).map ((fun x : it.Th Any N w5 (fun d => thB d = true) => x.1.1) ∘ liftT hbg N hN1) = (l0.take k).map (fun x => x.1.1) := rfl
      rw [e3, List.map_take, HLM.out]
    have e4 : L2.map (fun x => x.1.1) = xs.drop tt := by
      rw [← hL2, List.map_map]
      have e3 : (l0.drop tt).map ((fun x : it.Th Any N w5 (fun d => thB d = true) => x.1.1) ∘ liftT hbg N hN1) = (l0.drop tt).map (fun x => x.1.1) := rfl
      rw [e3, List.map_drop, HLM.out]
    have hs1 : ∀ q (hq : q < L1.length), ∃ b o, (some ⟨g5, 0, none⟩ : Option Addr) = some ⟨b, o, none⟩ ∧ b < w5.heap.size ∧ w5.rangeAt b (o + q * 8) L1[q].1.2 := fun q hq => by
      have h1 := hr5 q (by rw [← e1, List.length_map]; exact hq)
      have h2 : ((l0.take k).map (fun x => x.1.2) ++ ([[.slice At0 lt0.length ct0, .string st1, .string st2, .int .i64 xt3, .int .i64 xt4, .string st5, .slice At6 lt6.length ct6, .slice At7 lt7.length ct7]] : List (List Value)))[q]'(by rw [← e1, List.length_map]; exact hq) = L1[q].1.2 := by
        have := List.getElem_map (f := fun x : it.Th Any N w5 (fun d => thB d = true) => x.1.2) (l := L1) (i := q) (h := by rw [List.length_map]; exact hq)
        rw [← this]
        congr 1
        exact e1.symm
      rw [h2] at h1
      exact ⟨g5, 0, rfl, hg5l, h1⟩
    have hs2 : ∀ q (hq : q < L2.length), ∃ b o, A3 = some ⟨b, o, none⟩ ∧ b < w5.heap.size ∧ w5.rangeAt b (o + q * 8) L2[q].1.2 := fun q hq => by
      have hq2 : q < (l0.drop tt).length := by rw [q2] at hq; rw [hl2]; exact hq
      obtain ⟨b, o, h1, h2, h3⟩ := HP2.out q hq2
      subst hL2
      refine ⟨b, o, h1, Nat.lt_of_lt_of_le h2 hbg.size, ?_⟩
      rw [List.getElem_map]
      intro j u hj
      rw [hbg.cell (p := ⟨b, o + q * 8 + j, none⟩) h2]
      exact h3 j u hj
    have PA := two_parts (g := w5.heap.size) (c1 := c5) (c2 := c3) (T := 32) L1 L2 (by rw [q1]; unfold maxLen; omega) (by rw [q2]; unfold maxLen; omega) hs1 hs2
    rw [q1, q2] at PA
    have hfl : [L1, L2].flatten = L1 ++ L2 := by simp
    have hmap : ([L1, L2].flatten.map fun x => x.1.1) = putX xs td k there := by
      rw [hfl, List.map_append, e2, e4, putX, HTO.out]
    have hfn : [L1, L2].flatten.length ≤ 1000000 := by
      rw [hfl, List.length_append, q1, q2]; omega
    have HMAP := Lib.hid hmap
    have HFN := Lib.hid hfn
    have HPA := Lib.hid PA
    clear hs1 hs2 e1 e2 e4 hr5 hrow hrow2 hg PA hfl hmap hfn htx hL1 hL2
    go_wp2_with fail
    refine (it.thingsOf_in _ _ _ _).mono ?_
    rintro _ w6 ⟨rfl, rfl⟩
    have bG := (Blk.new w5 32 #[.slice (some ⟨g5, 0, none⟩) (k + 1) c5, .slice A3 (xs.length - tt) c3]).alloc (.cells #[.slice (some ⟨w5.heap.size, 0, none⟩) 2 2] 92)
    have bN := Blk.new1 w5 (.cells #[.slice (some ⟨g5, 0, none⟩) (k + 1) c5, .slice A3 (xs.length - tt) c3] 32) 92 #[.slice (some ⟨w5.heap.size, 0, none⟩) 2 2]
    have K5 := Lib.hid (bookOf_impl (w5.heap.size + 1) w5.heap.size 2 [L1, L2] HPA.out (below_a2 w5 _ _) (bN.cell 0) bN.lt bG HFN.out HMAP.out)
    have P6 := Lib.hid ((P5.out.alloc (.cells #[.slice (some ⟨g5, 0, none⟩) (k + 1) c5, .slice A3 (xs.length - tt) c3] 32)).alloc (.cells #[.slice (some ⟨w5.heap.size, 0, none⟩) 2 2] 92))
    have E6 := Lib.hid (below_then E5.out (below_a2 w5 (.cells #[.slice (some ⟨g5, 0, none⟩) (k + 1) c5, .slice A3 (xs.length - tt) c3] 32) (.cells #[.slice (some ⟨w5.heap.size, 0, none⟩) 2 2] 92)) (Nat.le_refl _))
    clear bG bN
    go_wp2_with fail
    try simp only [World.size_alloc]
    refine K5.out.mono ?_
    rintro _ w7 ⟨v5, rfl, ho, hb⟩
    have E7 := Lib.hid (below_then E6.out hb (Nat.le_refl _))
    have P7 := Lib.hid (P6.out.step hb)
    have q5 := P5.out.lt
    have s5 := E5.out.size
    have s7 := hb.size
    have HO := Lib.hid ho
    clear hb ho K5
    obtain ⟨xs5, A5, c55, e5, rfl, -⟩ := HO.out.cell.lst
    have p9 := P7.out.cell
    have f9 := P7.out.free
    have z9 := P7.out.lt
    have HAG := Lib.hid (agree2 (w := w7) (g := w.heap.size + 1) (.slice A5 xs5.length c55) (.int .i64 0))
    go_wp2
    refine bodyPost_ret (v := .agg #[.slice A5 xs5.length c55, .int .i64 0]) (by simp [results, Tryz.results9, go_sem, p9, f9]; try rfl) rfl ⟨[.slice A5 xs5.length c55, .int .i64 0], rfl, ?_, ?_⟩
    · rw [HX.out]
      have hag := HAG.out
      obtain ⟨W9, hW9⟩ : ∃ W9, ((w7.setCell ⟨w.heap.size + 1, 0, none⟩ (.slice A5 xs5.length c55)).setCell ⟨w.heap.size + 1, 1, none⟩ (.int .i64 0)) = W9 := ⟨_, rfl⟩
      rw [hW9] at hag ⊢
      have s9 := hag.size
      simp only [World.size_alloc] at s7
      have h1 : Owns 3 w7 (Rg (w5.heap.size + 1 + 1) w7.heap.size) shBookOut_ [.l (putX xs td k there), .i 0] [.slice A5 xs5.length c55, .int .i64 0] :=
        Owns.cons (F1 := Rg (w5.heap.size + 1 + 1) w7.heap.size) (F2 := fun _ => False) (by have := HO.out; simp only [World.size_alloc] at this; exact this) (Owns.i (by unfold R64; omega) (Owns.nil _ _ _)) (fun _ h => h) (fun _ h => h.elim) (fun _ _ h => h.elim)
      exact (h1.agree' (hag.mono fun x hx => by have := hx.1; omega)).monoF (fun x hx => ⟨by have := hx.1; omega, by have := hx.2; omega⟩)
    · iterate 2 refine Below.setCell ?_ (Nat.le_succ _) _
      exact E7.out
end Go.Proofs.YtflfnekaiaplfaaGreat.cf
