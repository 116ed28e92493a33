/- AddrText of the program. -/
import Derived.Test.YtnjpddbpnmgcpaaGreatDoorTxt
import Derived.Test.YtnjpddbpnmgcpaaGreatDoorAdJ
import Derived.Deep.RegionHeld3
import Derived.Deep.AppendLies
namespace Go.Proofs.YtnjpddbpnmgcpaaGreatDoor.txt
open ad mem dig
open Go.ChangeShapes Go.WideShapes Go.ChangeAt Go.RowKit Go.Lib
set_option linter.unusedVariables false
set_option maxRecDepth 8000
set_option linter.unusedSimpArgs false

def slash : ByteArray := ⟨#[47]⟩
def parts (l : List ByteArray) : List ByteArray := l.flatMap fun s => [s, slash]
theorem parts_snoc (l : List ByteArray) (k : Nat) (h : k < l.length) : parts (l.take (k + 1)) = parts (l.take k) ++ [l[k], slash] := by
  unfold parts; rw [List.take_succ_eq_append_getElem h, List.flatMap_append]; simp
theorem parts_len (l : List ByteArray) : (parts l).length = 2 * l.length := by
  unfold parts; induction l with
  | nil => rfl
  | cons x xs ih => simp at ih ⊢; omega
theorem parts_cat (l : List ByteArray) : str.cat (parts l) = pathT l := by
  unfold parts str.cat pathT; induction l with
  | nil => rfl
  | cons x xs ih => simp at ih ⊢; rw [ih]; simp [slash]
theorem cat_app (a b : List ByteArray) : str.cat (a ++ b) = str.cat a ++ str.cat b := by simp [str.cat]
theorem path_size : ∀ (l : List ByteArray), (∀ s ∈ l, wordB s = true) → (pathT l).length ≤ 9 * l.length
  | [], _ => by simp [pathT]
  | x :: xs, h => by
    have h1 := word_size (h x (by simp))
    have h2 := path_size xs (fun s hs => h s (by simp [hs]))
    have e : x.data.toList.length = x.size := rfl
    have hp : pathT (x :: xs) = x.data.toList ++ [47] ++ pathT xs := by simp [pathT]
    rw [hp]; simp only [List.length_append, List.length_cons, List.length_nil, e]; omega

theorem own_step {w w' : World} {base : Nat} {e : TypeId} {v : Value} {n : Nat} {xs : List Value} (h : w.ownsRow base e 1 v n xs) (hb : Below w.heap.size w w') : w'.ownsRow base e 1 v n xs := by
  obtain ⟨h1, h2 | ⟨r, cap, cur, hv, hbr, hr, h3⟩⟩ := h
  · exact ⟨h1, .inl h2⟩
  · exact ⟨h1, .inr ⟨r, cap, cur, hv, hbr, by rw [hb.block r (Array.getElem?_eq_some_iff.1 hr).1]; exact hr, h3⟩⟩
theorem own_row {w : World} {base : Nat} {e : TypeId} {v : Value} {n : Nat} {xs : List Value} (h : w.ownsRow base e 1 v n xs) : ∀ k, v.ownBlock = some k → base ≤ k := fun k hk => (h.lt k hk).1
theorem blk_grown {w w' : World} {row : Option Nat} {g : Nat} {T : TypeId} {cs : Array Value} (h : Blk w g T cs) (hg : w.grownBy w' row) (hr : ∀ k, row = some k → g < k) : Blk w' g T cs := by
  unfold Blk; rw [hg.block g h.lt (fun e => by have := hr g e.symm; omega)]; exact h
theorem own_cells {w : World} {base : Nat} {e : TypeId} {L : List ByteArray} {g n cap : Nat} (h : w.ownsRow base e 1 (.slice (some ⟨g, 0, none⟩) n cap) L.length (L.map Value.string)) : ∀ k (hk : k < L.length), w.cell? ⟨g, k, none⟩ = some (.string L[k]) := fun k hk => by
  have := h.cells (g := g) rfl k (.string L[k]) (by simp [hk])
  have e : (⟨g, 0, none⟩ : Addr).add k = ⟨g, k, none⟩ := by unfold Addr.add; split <;> simp_all
  rwa [e] at this

theorem text_numI (x : Int) (h0 : 0 ≤ x) (h1 : x ≤ 99) (w : World) : Calls Tryz.prog 195 #[.int .i64 x] w (Told w (.string (bs (91 :: (decT x ++ [93]))))) := by
  obtain ⟨i, rfl⟩ : ∃ i : Nat, x = i := ⟨x.toNat, by omega⟩
  exact text_num i (by omega) w

theorem nilt_no (w : World) : (nilAhead 320 140 (.agg #[]) "loop.example/g00770/impl.text").run Tryz.prog w = .ok (some false) w := by kernel_rfl
theorem nilt_num (x : Int) (w : World) : (nilAhead 320 137 (.int .i64 x) "loop.example/g00770/impl.text").run Tryz.prog w = .ok (some false) w := by kernel_rfl
theorem nilt_word (x : ByteArray) (w : World) : (nilAhead 320 138 (.string x) "loop.example/g00770/impl.text").run Tryz.prog w = .ok (some false) w := by kernel_rfl
theorem mett_no (w : World) : (method 320 140 (.agg #[]) "loop.example/g00770/impl.text").run Tryz.prog w = .ok (199, .agg #[]) w := by kernel_rfl
theorem mett_num (x : Int) (w : World) : (method 320 137 (.int .i64 x) "loop.example/g00770/impl.text").run Tryz.prog w = .ok (195, .int .i64 x) w := by kernel_rfl
theorem mett_word (x : ByteArray) (w : World) : (method 320 138 (.string x) "loop.example/g00770/impl.text").run Tryz.prog w = .ok (197, .string x) w := by kernel_rfl

set_option maxHeartbeats 4000000 in
theorem text_numK (A : Option Addr) (c : Nat) (d : AddrD) (w : World) (h : Strs w A d.path) (hl : d.path.length ≤ 2) (ht : d.typ.size ≤ 8) (hn : d.nam.size ≤ 8) (hk : d.key.size ≤ 8) (hw : ∀ s ∈ d.path, wordB s = true) (hr : addrB d = true) (hkind : d.kind = 1) (h0 : 0 ≤ d.n) (h1 : d.n ≤ 99) :
    Calls Tryz.prog 44 #[.agg #[.slice A d.path.length c, .string d.typ, .string d.nam, .int .i64 d.kind, .int .i64 d.n, .string d.key]] w (Told w (.string (bs (rawT d)))) := by
  obtain ⟨i0, hi, hz0, hz1, hz2⟩ := info_parts info_str
  have H := Lib.hid h
  have HL := Lib.hid hl
  have hl2 : (d.path.length : Int) ≤ 2 := by omega
  have e1 : adr.keyV d.kind d.n d.key = .iface 137 (.int .i64 d.n) := by simp [adr.keyV, hkind]
  have e2 : keyT d.kind d.n d.key = 91 :: (decT d.n ++ [93]) := by simp [keyT, hkind]
  have K1 := Lib.hid (fun w => e1 ▸ adr.keyOf_any A c d w)
  have HK := Lib.hid e2
  have K0 := Lib.hid (fun W h => hr ▸ adr.right_impl A c d W h (by unfold maxLen; omega) (by unfold maxLen; omega) (by unfold maxLen; omega) (by unfold maxLen; omega))
  have f1 := nilt_num d.n
  have f2 := mett_num d.n
  have HP := Lib.hid (path_size d.path hw)
  have HKL : Hid ((keyT d.kind d.n d.key).length ≤ 1000) := by
    show _ ≤ _
    rw [e2]; have := dec_len d.n.toNat; simp [decT]; omega
  clear h hl e1 e2 hkind hr hw
  go_enter Tryz.func44, Tryz.ntmps44
  go_wp2_with fail
  refine (K0.out _ (H.out.alloc _)).mono ?_
  rintro _ w1 ⟨rfl, hb⟩
  have E1 := Lib.hid (below_then (below_a1 _ _) hb (Nat.le_refl _))
  have Q1 := Lib.hid ((Blk.new w _ _).step hb)
  have q1 := Q1.out.cell
  clear hb
  go_wp2
  go_loopw [3, 12] (fun v i wr => ∃ (k : Nat) (L : List ByteArray), k ≤ d.path.length ∧ i = .int .i64 k ∧ L = parts (d.path.take k) ∧ wr.ownsRow (w.heap.size + 1) 9 1 v L.length (L.map Value.string) ∧ Below w.heap.size w wr ∧ Blk wr w.heap.size 46 #[.slice A d.path.length c, .string d.typ, .string d.nam, .int .i64 d.kind, .int .i64 d.n, .string d.key]) (fun _ i _ => d.path.length - (RowKit.intOf i).toNat)
  case atStart => exact ⟨0, [], Nat.zero_le _, rfl, rfl, World.ownsRow_nil _ _ _ _, E1.out, Q1.out⟩
  case round =>
    clear q1 Q1 E1
    obtain ⟨k, L, hk, rfl, hL, hown, hb, hq⟩ := hrel
    have HLL := Lib.hid hL
    have hll : L.length ≤ 4 := by rw [hL, parts_len]; simp; have := HL.out; omega
    have E2 := Lib.hid hb
    have Q2 := Lib.hid hq
    have q2 := Q2.out.cell
    have hzz := hb.size
    have hlt2 := hq.lt
    clear hL hb hq
    by_cases hlt : k < d.path.length
    · obtain ⟨b, o, rfl, hbg, hc, hsz⟩ := H.out k hlt
      have hcr : wr.cell? ⟨b, o + k, none⟩ = some (.string d.path[k]) := by rw [E2.out.cell (p := ⟨b, o + k, none⟩) hbg]; exact hc
      clear hc
      go_wp2_with (at_builtin; refine wpList_append_own _ rfl (.tmp 16) (.tmp 18) 36 rfl (w.heap.size + 1) 9 i0 (.string ByteArray.empty) 1 16 Tryz.underlying36 hi hz0 hz1 hz2 rfl (by decide) _ _ _ rfl (hown.alloc _) ⟨wr.heap.size, 0, none⟩ 2 2 [.string d.path[k], .string slash] rfl rfl ?c1 ?c2 ?c3 ?c4 ?c5 ?_)
      case c1 =>
        intro j u hj
        have hn := (Blk.new wr 9 #[.string d.path[k], .string slash]).cell j
        have e : (⟨wr.heap.size, 0, none⟩ : Addr).add j = ⟨wr.heap.size, j, none⟩ := by unfold Addr.add; split <;> simp_all
        rw [e]
        exact hn.trans (by simpa using hj)
      case c2 => intro u hu; simp at hu; rcases hu with rfl | rfl <;> rfl
      case c3 => unfold maxLen; omega
      case c4 => omega
      case c5 => simp; omega
      intro v' w3 hown1 hgrow _
      have hrow := own_row hown
      have E3 := Lib.hid ((E2.out.alloc hzz (.cells #[Value.string d.path[k], Value.string slash] 9)).grown hgrow (by simp; omega) (fun k hk => by have := hrow k hk; omega))
      have Q3 := Lib.hid (blk_grown (Q2.out.alloc (.cells #[Value.string d.path[k], Value.string slash] 9)) hgrow (fun k hk => by have := hrow k hk; omega))
      have hown2 : w3.ownsRow (w.heap.size + 1) 9 1 v' (L ++ [d.path[k], slash]).length ((L ++ [d.path[k], slash]).map Value.string) := by simpa using hown1
      clear hown1 hgrow hrow hown q2
      go_wp2
      go_roundw
      case rel => exact ⟨k + 1, L ++ [d.path[k], slash], hlt, by go_num, by rw [HLL.out, parts_snoc _ _ hlt], hown2, E3.out, Q3.out⟩
      case measure => simp [RowKit.intOf]; omega
    · obtain rfl : k = d.path.length := by omega
      rw [List.take_length] at HLL
      have hlx : L.length = 2 * d.path.length := by rw [HLL.out, parts_len]
      have HX := Lib.hid hlx
      clear hlx
      go_wp2_with fail
      have HO1 : Hid (∀ u ∈ [Value.string d.typ, Value.string ⟨#[46]⟩, Value.string d.nam, Value.string (bs (91 :: (decT d.n ++ [93])))], u.oneCell' = true) := by
        intro u hu
        simp only [List.mem_cons, List.not_mem_nil, or_false] at hu
        rcases hu with rfl | rfl | rfl | rfl <;> rfl
      have HO2 : Hid (L.length + 4 ≤ maxLen) := by show _ ≤ _; unfold maxLen; omega
      have HO3 : Hid ((L.length + 4) * 16 ≤ 140737488355328) := by show _ ≤ _; omega
      have KJ : ∀ (g cap : Nat) (W : World), W.ownsRow (w.heap.size + 1) 9 1 (.slice (some ⟨g, 0, none⟩) (L.length + 4) cap) (L.length + 4) (L.map Value.string ++ [Value.string d.typ, Value.string ⟨#[46]⟩, Value.string d.nam, Value.string (bs (91 :: (decT d.n ++ [93])))]) → g < W.heap.size → Hid (Calls Tryz.prog 23 #[.slice (some ⟨g, 0, none⟩) (L.length + 4) cap] W (Told W (.string (bs (rawT d))))) := fun g cap W ho hg => by
        have hlen : (L ++ [d.typ, ⟨#[46]⟩, d.nam, (bs (91 :: (decT d.n ++ [93])))]).length = L.length + 4 := by simp
        have hcat : str.cat (L ++ [d.typ, ⟨#[46]⟩, d.nam, (bs (91 :: (decT d.n ++ [93])))]) = rawT d := by
          rw [cat_app, HLL.out, parts_cat]; simp [str.cat, rawT, HK.out]; rfl
        have hsz : (rawT d).length ≤ 1099511627776 := by
          have h1 := HP.out
          have h2 := HKL.out
          have e1 : d.typ.data.toList.length = d.typ.size := rfl
          have e2 : d.nam.data.toList.length = d.nam.size := rfl
          simp only [rawT, List.length_append, List.length_cons, List.length_nil, e1, e2]; omega
        have := str.join_c (L ++ [d.typ, ⟨#[46]⟩, d.nam, (bs (91 :: (decT d.n ++ [93])))]) g cap W (own_cells (n := L.length + 4) (cap := cap) (base := w.heap.size + 1) (e := 9) (by rw [hlen]; simpa using ho)) (by rw [hlen]; omega) (by rw [hcat]; exact hsz) hg
        rw [hlen, hcat] at this
        exact this
      have KK := fun (W : World) => Lib.hid (K1.out W)
      go_region_held3 (fun w' => w'.cell? ⟨w.heap.size, 0, none⟩ = some (.slice A d.path.length c) ∧ w'.cell? ⟨w.heap.size, 1, none⟩ = some (.string d.typ) ∧ w'.cell? ⟨w.heap.size, 2, none⟩ = some (.string d.nam) ∧ w'.cell? ⟨w.heap.size, 3, none⟩ = some (.int .i64 d.kind) ∧ w'.cell? ⟨w.heap.size, 4, none⟩ = some (.int .i64 d.n) ∧ w'.cell? ⟨w.heap.size, 5, none⟩ = some (.string d.key)) (go_keep)
        (first
        | (go_at_call 78; refine (KK _).out.mono ?_; rintro _ w4 ⟨rfl, hb⟩; have hbb := below_then (below_d wr _) hb (Nat.le_refl _); have E4 := Lib.hid (below_then E2.out hbb (Nat.le_refl _)); have Q4 := Lib.hid (Q2.out.step hbb); have q4 := Q4.out.cell; have O4 := Lib.hid (own_step hown hbb); clear hb hbb)
        | (go_at_call 195; refine (text_numI d.n h0 h1 _).mono ?_; rintro _ w5 ⟨rfl, hb⟩; have E5 := Lib.hid (below_then E4.out hb (Nat.le_refl _)); have Q5 := Lib.hid (Q4.out.step hb); have q5 := Q5.out.cell; have z5 := Q5.out.lt; have O5 := Lib.hid (own_step O4.out hb); clear hb)
        | (go_at_call 23; refine (KJ gg cap w6 hown6 hlt6).out.mono ?_; rintro _ w7 ⟨rfl, hb⟩; have E7 := Lib.hid (below_then E6.out hb (Nat.le_refl _)); have q7 := (Q6.out.step hb).cell; clear hb)
        | (refine step_append_lies _ (by rfl) _ _ _ (by rfl) (w.heap.size + 1) 9 i0 _ 1 16 Tryz.underlying36 hi hz0 hz1 hz2 rfl (by omega) _ _ _ (by rfl) (O5.out.alloc _) ⟨w5.heap.size, 0, none⟩ 4 4 [.string d.typ, .string ⟨#[46]⟩, .string d.nam, .string (bs (91 :: (decT d.n ++ [93])))] (by rfl) (by rfl) (World.news_of_block (cs := #[.string d.typ, .string ⟨#[46]⟩, .string d.nam, .string (bs (91 :: (decT d.n ++ [93])))]) (t := 9) (fr := (0, 0)) (heap_alloc_new w5 _)) HO1.out (by omega) HO2.out HO3.out ?hbase (w5.heap.size + 1) ?hH ?_; (case hbase => simp; omega); (case hH => simp); intro gg cap w6 hown6 hg6 hat6 hlt6; have hrow := own_row O5.out; have E6 := Lib.hid (((below_da E5.out (Nat.le_refl _) _).grown hg6 (by simp; omega) (fun k hk => by have := hrow k hk; omega))); have Q6 := Lib.hid (blk_grown (Q5.out.alloc _) hg6 (fun k hk => by have := hrow k hk; omega)); have q6 := Q6.out.cell; clear hat6 hg6 hrow))
      go_wp2
      go_ret
      exact ⟨rfl, E7.out⟩

set_option maxHeartbeats 4000000 in
theorem text_wordK (A : Option Addr) (c : Nat) (d : AddrD) (w : World) (h : Strs w A d.path) (hl : d.path.length ≤ 2) (ht : d.typ.size ≤ 8) (hn : d.nam.size ≤ 8) (hk : d.key.size ≤ 8) (hw : ∀ s ∈ d.path, wordB s = true) (hr : addrB d = true) (hkind : d.kind = 2) :
    Calls Tryz.prog 44 #[.agg #[.slice A d.path.length c, .string d.typ, .string d.nam, .int .i64 d.kind, .int .i64 d.n, .string d.key]] w (Told w (.string (bs (rawT d)))) := by
  obtain ⟨i0, hi, hz0, hz1, hz2⟩ := info_parts info_str
  have H := Lib.hid h
  have HL := Lib.hid hl
  have hl2 : (d.path.length : Int) ≤ 2 := by omega
  have e1 : adr.keyV d.kind d.n d.key = .iface 138 (.string d.key) := by simp [adr.keyV, hkind]
  have e2 : keyT d.kind d.n d.key = 91 :: (d.key.data.toList ++ [93]) := by simp [keyT, hkind]
  have K1 := Lib.hid (fun w => e1 ▸ adr.keyOf_any A c d w)
  have HK := Lib.hid e2
  have K0 := Lib.hid (fun W h => hr ▸ adr.right_impl A c d W h (by unfold maxLen; omega) (by unfold maxLen; omega) (by unfold maxLen; omega) (by unfold maxLen; omega))
  have f1 := nilt_word d.key
  have f2 := mett_word d.key
  have HP := Lib.hid (path_size d.path hw)
  have HKL : Hid ((keyT d.kind d.n d.key).length ≤ 1000) := by
    show _ ≤ _
    rw [e2]; have e : d.key.data.toList.length = d.key.size := rfl; simp only [List.length_append, List.length_cons, List.length_nil, e]; omega
  clear h hl e1 e2 hkind hr hw
  go_enter Tryz.func44, Tryz.ntmps44
  go_wp2_with fail
  refine (K0.out _ (H.out.alloc _)).mono ?_
  rintro _ w1 ⟨rfl, hb⟩
  have E1 := Lib.hid (below_then (below_a1 _ _) hb (Nat.le_refl _))
  have Q1 := Lib.hid ((Blk.new w _ _).step hb)
  have q1 := Q1.out.cell
  clear hb
  go_wp2
  go_loopw [3, 12] (fun v i wr => ∃ (k : Nat) (L : List ByteArray), k ≤ d.path.length ∧ i = .int .i64 k ∧ L = parts (d.path.take k) ∧ wr.ownsRow (w.heap.size + 1) 9 1 v L.length (L.map Value.string) ∧ Below w.heap.size w wr ∧ Blk wr w.heap.size 46 #[.slice A d.path.length c, .string d.typ, .string d.nam, .int .i64 d.kind, .int .i64 d.n, .string d.key]) (fun _ i _ => d.path.length - (RowKit.intOf i).toNat)
  case atStart => exact ⟨0, [], Nat.zero_le _, rfl, rfl, World.ownsRow_nil _ _ _ _, E1.out, Q1.out⟩
  case round =>
    clear q1 Q1 E1
    obtain ⟨k, L, hk, rfl, hL, hown, hb, hq⟩ := hrel
    have HLL := Lib.hid hL
    have hll : L.length ≤ 4 := by rw [hL, parts_len]; simp; have := HL.out; omega
    have E2 := Lib.hid hb
    have Q2 := Lib.hid hq
    have q2 := Q2.out.cell
    have hzz := hb.size
    have hlt2 := hq.lt
    clear hL hb hq
    by_cases hlt : k < d.path.length
    · obtain ⟨b, o, rfl, hbg, hc, hsz⟩ := H.out k hlt
      have hcr : wr.cell? ⟨b, o + k, none⟩ = some (.string d.path[k]) := by rw [E2.out.cell (p := ⟨b, o + k, none⟩) hbg]; exact hc
      clear hc
      go_wp2_with (at_builtin; refine wpList_append_own _ rfl (.tmp 16) (.tmp 18) 36 rfl (w.heap.size + 1) 9 i0 (.string ByteArray.empty) 1 16 Tryz.underlying36 hi hz0 hz1 hz2 rfl (by decide) _ _ _ rfl (hown.alloc _) ⟨wr.heap.size, 0, none⟩ 2 2 [.string d.path[k], .string slash] rfl rfl ?c1 ?c2 ?c3 ?c4 ?c5 ?_)
      case c1 =>
        intro j u hj
        have hn := (Blk.new wr 9 #[.string d.path[k], .string slash]).cell j
        have e : (⟨wr.heap.size, 0, none⟩ : Addr).add j = ⟨wr.heap.size, j, none⟩ := by unfold Addr.add; split <;> simp_all
        rw [e]
        exact hn.trans (by simpa using hj)
      case c2 => intro u hu; simp at hu; rcases hu with rfl | rfl <;> rfl
      case c3 => unfold maxLen; omega
      case c4 => omega
      case c5 => simp; omega
      intro v' w3 hown1 hgrow _
      have hrow := own_row hown
      have E3 := Lib.hid ((E2.out.alloc hzz (.cells #[Value.string d.path[k], Value.string slash] 9)).grown hgrow (by simp; omega) (fun k hk => by have := hrow k hk; omega))
      have Q3 := Lib.hid (blk_grown (Q2.out.alloc (.cells #[Value.string d.path[k], Value.string slash] 9)) hgrow (fun k hk => by have := hrow k hk; omega))
      have hown2 : w3.ownsRow (w.heap.size + 1) 9 1 v' (L ++ [d.path[k], slash]).length ((L ++ [d.path[k], slash]).map Value.string) := by simpa using hown1
      clear hown1 hgrow hrow hown q2
      go_wp2
      go_roundw
      case rel => exact ⟨k + 1, L ++ [d.path[k], slash], hlt, by go_num, by rw [HLL.out, parts_snoc _ _ hlt], hown2, E3.out, Q3.out⟩
      case measure => simp [RowKit.intOf]; omega
    · obtain rfl : k = d.path.length := by omega
      rw [List.take_length] at HLL
      have hlx : L.length = 2 * d.path.length := by rw [HLL.out, parts_len]
      have HX := Lib.hid hlx
      clear hlx
      go_wp2_with fail
      have HO1 : Hid (∀ u ∈ [Value.string d.typ, Value.string ⟨#[46]⟩, Value.string d.nam, Value.string (bs (91 :: (d.key.data.toList ++ [93])))], u.oneCell' = true) := by
        intro u hu
        simp only [List.mem_cons, List.not_mem_nil, or_false] at hu
        rcases hu with rfl | rfl | rfl | rfl <;> rfl
      have HO2 : Hid (L.length + 4 ≤ maxLen) := by show _ ≤ _; unfold maxLen; omega
      have HO3 : Hid ((L.length + 4) * 16 ≤ 140737488355328) := by show _ ≤ _; omega
      have KJ : ∀ (g cap : Nat) (W : World), W.ownsRow (w.heap.size + 1) 9 1 (.slice (some ⟨g, 0, none⟩) (L.length + 4) cap) (L.length + 4) (L.map Value.string ++ [Value.string d.typ, Value.string ⟨#[46]⟩, Value.string d.nam, Value.string (bs (91 :: (d.key.data.toList ++ [93])))]) → g < W.heap.size → Hid (Calls Tryz.prog 23 #[.slice (some ⟨g, 0, none⟩) (L.length + 4) cap] W (Told W (.string (bs (rawT d))))) := fun g cap W ho hg => by
        have hlen : (L ++ [d.typ, ⟨#[46]⟩, d.nam, (bs (91 :: (d.key.data.toList ++ [93])))]).length = L.length + 4 := by simp
        have hcat : str.cat (L ++ [d.typ, ⟨#[46]⟩, d.nam, (bs (91 :: (d.key.data.toList ++ [93])))]) = rawT d := by
          rw [cat_app, HLL.out, parts_cat]; simp [str.cat, rawT, HK.out]; rfl
        have hsz : (rawT d).length ≤ 1099511627776 := by
          have h1 := HP.out
          have h2 := HKL.out
          have e1 : d.typ.data.toList.length = d.typ.size := rfl
          have e2 : d.nam.data.toList.length = d.nam.size := rfl
          simp only [rawT, List.length_append, List.length_cons, List.length_nil, e1, e2]; omega
        have := str.join_c (L ++ [d.typ, ⟨#[46]⟩, d.nam, (bs (91 :: (d.key.data.toList ++ [93])))]) g cap W (own_cells (n := L.length + 4) (cap := cap) (base := w.heap.size + 1) (e := 9) (by rw [hlen]; simpa using ho)) (by rw [hlen]; omega) (by rw [hcat]; exact hsz) hg
        rw [hlen, hcat] at this
        exact this
      have KK := fun (W : World) => Lib.hid (K1.out W)
      go_region_held3 (fun w' => w'.cell? ⟨w.heap.size, 0, none⟩ = some (.slice A d.path.length c) ∧ w'.cell? ⟨w.heap.size, 1, none⟩ = some (.string d.typ) ∧ w'.cell? ⟨w.heap.size, 2, none⟩ = some (.string d.nam) ∧ w'.cell? ⟨w.heap.size, 3, none⟩ = some (.int .i64 d.kind) ∧ w'.cell? ⟨w.heap.size, 4, none⟩ = some (.int .i64 d.n) ∧ w'.cell? ⟨w.heap.size, 5, none⟩ = some (.string d.key)) (go_keep)
        (first
        | (go_at_call 78; refine (KK _).out.mono ?_; rintro _ w4 ⟨rfl, hb⟩; have hbb := below_then (below_d wr _) hb (Nat.le_refl _); have E4 := Lib.hid (below_then E2.out hbb (Nat.le_refl _)); have Q4 := Lib.hid (Q2.out.step hbb); have q4 := Q4.out.cell; have O4 := Lib.hid (own_step hown hbb); clear hb hbb)
        | (go_at_call 197; refine (text_word d.key (by omega) _).mono ?_; rintro _ w5 ⟨rfl, hb⟩; have E5 := Lib.hid (below_then E4.out hb (Nat.le_refl _)); have Q5 := Lib.hid (Q4.out.step hb); have q5 := Q5.out.cell; have z5 := Q5.out.lt; have O5 := Lib.hid (own_step O4.out hb); clear hb)
        | (go_at_call 23; refine (KJ gg cap w6 hown6 hlt6).out.mono ?_; rintro _ w7 ⟨rfl, hb⟩; have E7 := Lib.hid (below_then E6.out hb (Nat.le_refl _)); have q7 := (Q6.out.step hb).cell; clear hb)
        | (refine step_append_lies _ (by rfl) _ _ _ (by rfl) (w.heap.size + 1) 9 i0 _ 1 16 Tryz.underlying36 hi hz0 hz1 hz2 rfl (by omega) _ _ _ (by rfl) (O5.out.alloc _) ⟨w5.heap.size, 0, none⟩ 4 4 [.string d.typ, .string ⟨#[46]⟩, .string d.nam, .string (bs (91 :: (d.key.data.toList ++ [93])))] (by rfl) (by rfl) (World.news_of_block (cs := #[.string d.typ, .string ⟨#[46]⟩, .string d.nam, .string (bs (91 :: (d.key.data.toList ++ [93])))]) (t := 9) (fr := (0, 0)) (heap_alloc_new w5 _)) HO1.out (by omega) HO2.out HO3.out ?hbase (w5.heap.size + 1) ?hH ?_; (case hbase => simp; omega); (case hH => simp); intro gg cap w6 hown6 hg6 hat6 hlt6; have hrow := own_row O5.out; have E6 := Lib.hid (((below_da E5.out (Nat.le_refl _) _).grown hg6 (by simp; omega) (fun k hk => by have := hrow k hk; omega))); have Q6 := Lib.hid (blk_grown (Q5.out.alloc _) hg6 (fun k hk => by have := hrow k hk; omega)); have q6 := Q6.out.cell; clear hat6 hg6 hrow))
      go_wp2
      go_ret
      exact ⟨rfl, E7.out⟩

set_option maxHeartbeats 4000000 in
theorem text_noK (A : Option Addr) (c : Nat) (d : AddrD) (w : World) (h : Strs w A d.path) (hl : d.path.length ≤ 2) (ht : d.typ.size ≤ 8) (hn : d.nam.size ≤ 8) (hk : d.key.size ≤ 8) (hw : ∀ s ∈ d.path, wordB s = true) (hr : addrB d = true) (hkind : d.kind ≠ 1 ∧ d.kind ≠ 2) :
    Calls Tryz.prog 44 #[.agg #[.slice A d.path.length c, .string d.typ, .string d.nam, .int .i64 d.kind, .int .i64 d.n, .string d.key]] w (Told w (.string (bs (rawT d)))) := by
  obtain ⟨i0, hi, hz0, hz1, hz2⟩ := info_parts info_str
  have H := Lib.hid h
  have HL := Lib.hid hl
  have hl2 : (d.path.length : Int) ≤ 2 := by omega
  have e1 : adr.keyV d.kind d.n d.key = .iface 140 (.agg #[]) := by simp [adr.keyV, hkind]
  have e2 : keyT d.kind d.n d.key = [] := by simp [keyT, hkind]
  have K1 := Lib.hid (fun w => e1 ▸ adr.keyOf_any A c d w)
  have HK := Lib.hid e2
  have K0 := Lib.hid (fun W h => hr ▸ adr.right_impl A c d W h (by unfold maxLen; omega) (by unfold maxLen; omega) (by unfold maxLen; omega) (by unfold maxLen; omega))
  have f1 := nilt_no
  have f2 := mett_no
  have HP := Lib.hid (path_size d.path hw)
  have HKL : Hid ((keyT d.kind d.n d.key).length ≤ 1000) := by
    show _ ≤ _
    rw [e2]; simp
  clear h hl e1 e2 hkind hr hw
  go_enter Tryz.func44, Tryz.ntmps44
  go_wp2_with fail
  refine (K0.out _ (H.out.alloc _)).mono ?_
  rintro _ w1 ⟨rfl, hb⟩
  have E1 := Lib.hid (below_then (below_a1 _ _) hb (Nat.le_refl _))
  have Q1 := Lib.hid ((Blk.new w _ _).step hb)
  have q1 := Q1.out.cell
  clear hb
  go_wp2
  go_loopw [3, 12] (fun v i wr => ∃ (k : Nat) (L : List ByteArray), k ≤ d.path.length ∧ i = .int .i64 k ∧ L = parts (d.path.take k) ∧ wr.ownsRow (w.heap.size + 1) 9 1 v L.length (L.map Value.string) ∧ Below w.heap.size w wr ∧ Blk wr w.heap.size 46 #[.slice A d.path.length c, .string d.typ, .string d.nam, .int .i64 d.kind, .int .i64 d.n, .string d.key]) (fun _ i _ => d.path.length - (RowKit.intOf i).toNat)
  case atStart => exact ⟨0, [], Nat.zero_le _, rfl, rfl, World.ownsRow_nil _ _ _ _, E1.out, Q1.out⟩
  case round =>
    clear q1 Q1 E1
    obtain ⟨k, L, hk, rfl, hL, hown, hb, hq⟩ := hrel
    have HLL := Lib.hid hL
    have hll : L.length ≤ 4 := by rw [hL, parts_len]; simp; have := HL.out; omega
    have E2 := Lib.hid hb
    have Q2 := Lib.hid hq
    have q2 := Q2.out.cell
    have hzz := hb.size
    have hlt2 := hq.lt
    clear hL hb hq
    by_cases hlt : k < d.path.length
    · obtain ⟨b, o, rfl, hbg, hc, hsz⟩ := H.out k hlt
      have hcr : wr.cell? ⟨b, o + k, none⟩ = some (.string d.path[k]) := by rw [E2.out.cell (p := ⟨b, o + k, none⟩) hbg]; exact hc
      clear hc
      go_wp2_with (at_builtin; refine wpList_append_own _ rfl (.tmp 16) (.tmp 18) 36 rfl (w.heap.size + 1) 9 i0 (.string ByteArray.empty) 1 16 Tryz.underlying36 hi hz0 hz1 hz2 rfl (by decide) _ _ _ rfl (hown.alloc _) ⟨wr.heap.size, 0, none⟩ 2 2 [.string d.path[k], .string slash] rfl rfl ?c1 ?c2 ?c3 ?c4 ?c5 ?_)
      case c1 =>
        intro j u hj
        have hn := (Blk.new wr 9 #[.string d.path[k], .string slash]).cell j
        have e : (⟨wr.heap.size, 0, none⟩ : Addr).add j = ⟨wr.heap.size, j, none⟩ := by unfold Addr.add; split <;> simp_all
        rw [e]
        exact hn.trans (by simpa using hj)
      case c2 => intro u hu; simp at hu; rcases hu with rfl | rfl <;> rfl
      case c3 => unfold maxLen; omega
      case c4 => omega
      case c5 => simp; omega
      intro v' w3 hown1 hgrow _
      have hrow := own_row hown
      have E3 := Lib.hid ((E2.out.alloc hzz (.cells #[Value.string d.path[k], Value.string slash] 9)).grown hgrow (by simp; omega) (fun k hk => by have := hrow k hk; omega))
      have Q3 := Lib.hid (blk_grown (Q2.out.alloc (.cells #[Value.string d.path[k], Value.string slash] 9)) hgrow (fun k hk => by have := hrow k hk; omega))
      have hown2 : w3.ownsRow (w.heap.size + 1) 9 1 v' (L ++ [d.path[k], slash]).length ((L ++ [d.path[k], slash]).map Value.string) := by simpa using hown1
      clear hown1 hgrow hrow hown q2
      go_wp2
      go_roundw
      case rel => exact ⟨k + 1, L ++ [d.path[k], slash], hlt, by go_num, by rw [HLL.out, parts_snoc _ _ hlt], hown2, E3.out, Q3.out⟩
      case measure => simp [RowKit.intOf]; omega
    · obtain rfl : k = d.path.length := by omega
      rw [List.take_length] at HLL
      have hlx : L.length = 2 * d.path.length := by rw [HLL.out, parts_len]
      have HX := Lib.hid hlx
      clear hlx
      go_wp2_with fail
      have HO1 : Hid (∀ u ∈ [Value.string d.typ, Value.string ⟨#[46]⟩, Value.string d.nam, Value.string (bs [])], u.oneCell' = true) := by
        intro u hu
        simp only [List.mem_cons, List.not_mem_nil, or_false] at hu
        rcases hu with rfl | rfl | rfl | rfl <;> rfl
      have HO2 : Hid (L.length + 4 ≤ maxLen) := by show _ ≤ _; unfold maxLen; omega
      have HO3 : Hid ((L.length + 4) * 16 ≤ 140737488355328) := by show _ ≤ _; omega
      have KJ : ∀ (g cap : Nat) (W : World), W.ownsRow (w.heap.size + 1) 9 1 (.slice (some ⟨g, 0, none⟩) (L.length + 4) cap) (L.length + 4) (L.map Value.string ++ [Value.string d.typ, Value.string ⟨#[46]⟩, Value.string d.nam, Value.string (bs [])]) → g < W.heap.size → Hid (Calls Tryz.prog 23 #[.slice (some ⟨g, 0, none⟩) (L.length + 4) cap] W (Told W (.string (bs (rawT d))))) := fun g cap W ho hg => by
        have hlen : (L ++ [d.typ, ⟨#[46]⟩, d.nam, (bs [])]).length = L.length + 4 := by simp
        have hcat : str.cat (L ++ [d.typ, ⟨#[46]⟩, d.nam, (bs [])]) = rawT d := by
          rw [cat_app, HLL.out, parts_cat]; simp [str.cat, rawT, HK.out]; rfl
        have hsz : (rawT d).length ≤ 1099511627776 := by
          have h1 := HP.out
          have h2 := HKL.out
          have e1 : d.typ.data.toList.length = d.typ.size := rfl
          have e2 : d.nam.data.toList.length = d.nam.size := rfl
          simp only [rawT, List.length_append, List.length_cons, List.length_nil, e1, e2]; omega
        have := str.join_c (L ++ [d.typ, ⟨#[46]⟩, d.nam, (bs [])]) g cap W (own_cells (n := L.length + 4) (cap := cap) (base := w.heap.size + 1) (e := 9) (by rw [hlen]; simpa using ho)) (by rw [hlen]; omega) (by rw [hcat]; exact hsz) hg
        rw [hlen, hcat] at this
        exact this
      have KK := fun (W : World) => Lib.hid (K1.out W)
      go_region_held3 (fun w' => w'.cell? ⟨w.heap.size, 0, none⟩ = some (.slice A d.path.length c) ∧ w'.cell? ⟨w.heap.size, 1, none⟩ = some (.string d.typ) ∧ w'.cell? ⟨w.heap.size, 2, none⟩ = some (.string d.nam) ∧ w'.cell? ⟨w.heap.size, 3, none⟩ = some (.int .i64 d.kind) ∧ w'.cell? ⟨w.heap.size, 4, none⟩ = some (.int .i64 d.n) ∧ w'.cell? ⟨w.heap.size, 5, none⟩ = some (.string d.key)) (go_keep)
        (first
        | (go_at_call 78; refine (KK _).out.mono ?_; rintro _ w4 ⟨rfl, hb⟩; have hbb := below_then (below_d wr _) hb (Nat.le_refl _); have E4 := Lib.hid (below_then E2.out hbb (Nat.le_refl _)); have Q4 := Lib.hid (Q2.out.step hbb); have q4 := Q4.out.cell; have O4 := Lib.hid (own_step hown hbb); clear hb hbb)
        | (go_at_call 199; refine (text_none _).mono ?_; rintro _ w5 ⟨rfl, hb⟩; have E5 := Lib.hid (below_then E4.out hb (Nat.le_refl _)); have Q5 := Lib.hid (Q4.out.step hb); have q5 := Q5.out.cell; have z5 := Q5.out.lt; have O5 := Lib.hid (own_step O4.out hb); clear hb)
        | (go_at_call 23; refine (KJ gg cap w6 hown6 hlt6).out.mono ?_; rintro _ w7 ⟨rfl, hb⟩; have E7 := Lib.hid (below_then E6.out hb (Nat.le_refl _)); have q7 := (Q6.out.step hb).cell; clear hb)
        | (refine step_append_lies _ (by rfl) _ _ _ (by rfl) (w.heap.size + 1) 9 i0 _ 1 16 Tryz.underlying36 hi hz0 hz1 hz2 rfl (by omega) _ _ _ (by rfl) (O5.out.alloc _) ⟨w5.heap.size, 0, none⟩ 4 4 [.string d.typ, .string ⟨#[46]⟩, .string d.nam, .string (bs [])] (by rfl) (by rfl) (World.news_of_block (cs := #[.string d.typ, .string ⟨#[46]⟩, .string d.nam, .string (bs [])]) (t := 9) (fr := (0, 0)) (heap_alloc_new w5 _)) HO1.out (by omega) HO2.out HO3.out ?hbase (w5.heap.size + 1) ?hH ?_; (case hbase => simp; omega); (case hH => simp); intro gg cap w6 hown6 hg6 hat6 hlt6; have hrow := own_row O5.out; have E6 := Lib.hid (((below_da E5.out (Nat.le_refl _) _).grown hg6 (by simp; omega) (fun k hk => by have := hrow k hk; omega))); have Q6 := Lib.hid (blk_grown (Q5.out.alloc _) hg6 (fun k hk => by have := hrow k hk; omega)); have q6 := Q6.out.cell; clear hat6 hg6 hrow))
      go_wp2
      go_ret
      exact ⟨rfl, E7.out⟩


set_option maxHeartbeats 1000000 in
theorem text_impl (A : Option Addr) (c : Nat) (d : AddrD) (w : World) (h : Strs w A d.path) (hl : d.path.length ≤ maxLen) (ht : d.typ.size ≤ maxLen) (hn : d.nam.size ≤ maxLen) (hk : d.key.size ≤ maxLen) :
    Calls Tryz.prog 44 #[.agg #[.slice A d.path.length c, .string d.typ, .string d.nam, .int .i64 d.kind, .int .i64 d.n, .string d.key]] w (Told w (.string (bs (addrT d)))) := by
  cases hr : addrB d
  · have e : addrT d = [] := by simp [addrT, hr]
    rw [e]
    have H := Lib.hid h
    have K := Lib.hid (fun W h => hr ▸ adr.right_impl A c d W h hl ht hn hk)
    clear hr h e hl
    go_enter Tryz.func44, Tryz.ntmps44
    go_wp2_with fail
    refine (K.out _ (H.out.alloc _)).mono ?_
    rintro _ w1 ⟨rfl, hb⟩
    have E1 := Lib.hid (below_then (below_a1 _ _) hb (Nat.le_refl _))
    clear hb
    go_wp2
    go_ret
    exact ⟨rfl, E1.out⟩
  · have e : addrT d = rawT d := by simp [addrT, hr]
    rw [e]
    obtain ⟨hp, h1, h2, h3⟩ := addr_parts hr
    obtain ⟨hp1, hp2⟩ := path_words hp
    have z1 := word_size h1
    have z2 := word_size h2
    have h3' := h3
    simp only [keyB, Bool.or_eq_true, Bool.and_eq_true, beq_iff_eq, decide_eq_true_eq] at h3'
    rcases h3' with (⟨⟨k0, k1⟩, k2⟩ | ⟨⟨⟨k0, k1⟩, k2⟩, k3⟩) | ⟨⟨k0, k1⟩, k2⟩
    · exact text_noK A c d w h hp1 z1 z2 (by omega) hp2 hr (by omega)
    · exact text_numK A c d w h hp1 z1 z2 (by omega) hp2 hr k0 k1 k2
    · exact text_wordK A c d w h hp1 z1 z2 (word_size k2) hp2 hr k0
end Go.Proofs.YtnjpddbpnmgcpaaGreatDoor.txt
