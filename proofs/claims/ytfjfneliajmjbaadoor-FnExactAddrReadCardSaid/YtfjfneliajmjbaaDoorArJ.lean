/- cutAddr, AddrRead of the program. -/
import Derived.Test.YtfjfneliajmjbaaDoorArI
import Derived.Deep.RegionLaw
namespace Go.Proofs.YtfjfneliajmjbaaDoor.ari
open ad mem own bare ard nump rda dig ars
open Go.ChangeShapes Go.WideShapes Go.ChangeAt Go.RowKit Go.Lib
set_option linter.unusedVariables false
set_option maxRecDepth 8000
set_option linter.unusedSimpArgs false

/-- the longest text that the library's search takes at once. -/
def Mx (w : World) : Prop := ∃ m, w.cell? ⟨0, 0, none⟩ = some (.int .i64 m)
theorem Mx.below {w w' : World} (h : Mx w) (hb : Below w.heap.size w w') : Mx w' := by
  obtain ⟨m, h⟩ := h
  have l := World.block_lt_of_cell? _ _ h
  exact ⟨m, by rw [hb.cell (p := ⟨_, 0, none⟩) l]; exact h⟩
theorem Mx.alloc {w : World} (h : Mx w) (o : Obj) : Mx (w.alloc o) := h.below (below_a1 w o)

theorem withKey_any (A : Option Addr) (n c : Nat) (T N K : ByteArray) (k i : Int) (t : ByteArray) (w : World) :
    Calls Tryd.prog 24 #[.agg #[.slice A n c, .string T, .string N, .int .i64 k, .int .i64 i, .string K], adr.keyV (keyR t).1 (keyR t).2.1 (keyR t).2.2] w (vl.Told w (.agg #[.slice A n c, .string T, .string N, .int .i64 (keyR t).1, .int .i64 (keyR t).2.1, .string (keyR t).2.2])) := by
  cases hw : wordB t
  · by_cases hp : ∃ v, Lib.parseIntB 64 t.data.toList = .ok v
    · obtain ⟨v, hv⟩ := hp
      rw [keyR_ok hw hv]
      exact adr.withKey_num A n c T N K k i v w
    · rw [keyR_bad hw (fun v hv => hp ⟨v, hv⟩)]
      exact adr.withKey_no A n c T N K k i w
  · rw [keyR_word hw]
    exact adr.withKey_word A n c T N K k i t w

theorem split_mx (s : ByteArray) (W : World) (hs : s.size ≤ 1000000000) (h : Mx W) :
    Calls Tryd.prog 22 #[.string s, .string ⟨#[47]⟩] W fun e w' => e = .returned (.slice (some ⟨W.heap.size, 0, none⟩) (parts s).length (parts s).length) ∧ w' = W.alloc (.cells ((parts s).map Value.string).toArray 9) := by
  obtain ⟨m, hm⟩ := h
  have e : (parts s).length = Lib.countB s ⟨#[47]⟩ + 1 := Lib.splitB_all ⟨#[47]⟩ (by decide) 0 _ s rfl
  have := Tryd.strings_Split s ⟨#[47]⟩ m W (by omega) hm (by decide)
  rw [e]
  exact this
theorem cut_mx (s : ByteArray) (b : UInt8) (W : World) (hs : s.size ≤ 1000000000) (h : Mx W) :
    Calls Tryd.prog 23 #[.string s, .string ⟨#[b]⟩] W fun e w' => e = .returned (.tuple #[.string (bs (Lib.cut s.data.toList [b]).1), .string (bs (Lib.cut s.data.toList [b]).2.1), .bool (Lib.cut s.data.toList [b]).2.2]) ∧ ∃ n, w' = W.drewN n := by
  obtain ⟨m, hm⟩ := h
  exact Tryd.strings_Cut s ⟨#[b]⟩ m W (by omega) hm

/-- an address whose path lies in a row. -/
def MadeC (w : World) (d : AddrD) (e : Ending) (w' : World) : Prop := ∃ B c, e = .returned (.agg #[.slice B d.path.length c, .string d.typ, .string d.nam, .int .i64 d.kind, .int .i64 d.n, .string d.key]) ∧ Strs w' B d.path ∧ Below w.heap.size w w'
theorem splitL_mem (b : UInt8) : ∀ l, ∀ p ∈ splitL b l, p.length ≤ l.length
  | [], p, hp => by simp [splitL] at hp; simp [hp]
  | c :: cs, p, hp => by
    have ih := splitL_mem b cs
    rw [splitL] at hp
    split at hp
    · rcases List.mem_cons.1 hp with rfl | hp
      · simp
      · have := ih p hp; simp; omega
    · split at hp
      · simp at hp; rw [hp]; simp
      · rename_i x xs e
        rcases List.mem_cons.1 hp with rfl | hp
        · have := ih x (by rw [e]; simp); simp; omega
        · have := ih p (by rw [e]; simp [hp]); simp; omega
theorem parts_size (s : ByteArray) : ∀ x ∈ parts s, x.size ≤ s.size := fun x hx => by
  have h : (parts s).map (fun x : ByteArray => x.data.toList) = splitL 47 s.data.toList := parts_is s
  have : x.data.toList ∈ splitL 47 s.data.toList := by rw [← h]; exact List.mem_map_of_mem hx
  exact splitL_mem 47 _ _ this
theorem splitL_len (b : UInt8) : ∀ l, (splitL b l).length ≤ l.length + 1
  | [] => by simp [splitL]
  | c :: cs => by
    have := splitL_len b cs
    rw [splitL]
    split
    · simp; omega
    · split
      · simp
      · rename_i e; rw [e] at this; simp at this ⊢; omega
theorem parts_len (s : ByteArray) : (parts s).length ≤ s.size + 1 := by
  have h := congrArg List.length (parts_is s)
  rw [List.length_map] at h
  have e : s.size = s.data.toList.length := rfl
  rw [h, e]; exact splitL_len 47 _
theorem parts_cut (s : ByteArray) : ∃ pre x0, parts s = pre ++ [x0] := ⟨_, _, last_cut (List.length_pos_iff.2 (pieces_ne (parts_is s)))⟩
theorem cutI_eq {s : ByteArray} {pre : List ByteArray} {x0 : ByteArray} (h : parts s = pre ++ [x0]) : cutI s = ⟨pre, bs (Lib.cut x0.data.toList [46]).1, bs (Lib.cut (Lib.cut x0.data.toList [46]).2.1 [91]).1, (keyI (Lib.cut (Lib.cut x0.data.toList [46]).2.1 [91]).2.2 (bs (Lib.cut (Lib.cut x0.data.toList [46]).2.1 [91]).2.1)).1, (keyI (Lib.cut (Lib.cut x0.data.toList [46]).2.1 [91]).2.2 (bs (Lib.cut (Lib.cut x0.data.toList [46]).2.1 [91]).2.1)).2.1, (keyI (Lib.cut (Lib.cut x0.data.toList [46]).2.1 [91]).2.2 (bs (Lib.cut (Lib.cut x0.data.toList [46]).2.1 [91]).2.1)).2.2⟩ := by
  unfold cutI
  rw [h]
  simp only [List.getLast?_concat, Option.getD_some, List.dropLast_concat]
theorem strs_take {w : World} {A : Option Addr} {l : List ByteArray} (h : Strs w A l) : Strs w A l.dropLast := fun k hk => by
  have hk' : k < l.length := by simp at hk; omega
  have := h k hk'
  rw [List.getElem_dropLast]
  exact this

theorem strs_init {w : World} {A : Option Addr} {l : List ByteArray} {x : ByteArray} (h : Strs w A (l ++ [x])) : Strs w A l := fun k hk => by
  have := h k (by simp; omega)
  rw [List.getElem_append_left hk] at this
  exact this
theorem strs_dn {w : World} {A : Option Addr} {l : List ByteArray} (h : Strs w A l) (n : Nat) : Strs (w.drewN n) A l := h.below (below_d w n)
theorem strs_far {w : World} {g b : Nat} {l : List ByteArray} (hb : g + 1 ≤ b) (h : Strs w (some ⟨b, 0, none⟩) l) (o : Nat) (u : Value) : Strs (w.setCell ⟨g, o, none⟩ u) (some ⟨b, 0, none⟩) l := fun k hk => by
  obtain ⟨b', o', e, hbg, hc, hr⟩ := h k hk
  have e1 : b = b' := by injection e with e; injection e
  refine ⟨b', o', e, by simpa using hbg, ?_, hr⟩
  rw [World.cell?_setCell_far _ _ _ _ (by show g ≠ b'; omega)]
  exact hc
theorem six_blk {W : World} {g h : Nat} {T : TypeId} {cs : Array Value} (hG : Blk W h T cs) (hne : h ≠ g) (v0 v1 v2 v3 v4 v5 : Value) : Blk ((((((W.setCell ⟨g, 0, none⟩ v0).setCell ⟨g, 1, none⟩ v1).setCell ⟨g, 2, none⟩ v2).setCell ⟨g, 3, none⟩ v3).setCell ⟨g, 4, none⟩ v4).setCell ⟨g, 5, none⟩ v5) h T cs :=
  (((((hG.far (p := ⟨g, 0, none⟩) hne v0).far (p := ⟨g, 1, none⟩) hne v1).far (p := ⟨g, 2, none⟩) hne v2).far (p := ⟨g, 3, none⟩) hne v3).far (p := ⟨g, 4, none⟩) hne v4).far (p := ⟨g, 5, none⟩) hne v5
theorem six_below {B : Nat} {a W : World} {g : Nat} (h : Below B a W) (hB : B ≤ g) (v0 v1 v2 v3 v4 v5 : Value) : Below B a ((((((W.setCell ⟨g, 0, none⟩ v0).setCell ⟨g, 1, none⟩ v1).setCell ⟨g, 2, none⟩ v2).setCell ⟨g, 3, none⟩ v3).setCell ⟨g, 4, none⟩ v4).setCell ⟨g, 5, none⟩ v5) :=
  (((((h.setCell (p := ⟨g, 0, none⟩) hB v0).setCell (p := ⟨g, 1, none⟩) hB v1).setCell (p := ⟨g, 2, none⟩) hB v2).setCell (p := ⟨g, 3, none⟩) hB v3).setCell (p := ⟨g, 4, none⟩) hB v4).setCell (p := ⟨g, 5, none⟩) hB v5
theorem six_strs {W : World} {g b : Nat} {l : List ByteArray} (h : Strs W (some ⟨b, 0, none⟩) l) (hb : g + 1 ≤ b) (v0 v1 v2 v3 v4 v5 : Value) : Strs ((((((W.setCell ⟨g, 0, none⟩ v0).setCell ⟨g, 1, none⟩ v1).setCell ⟨g, 2, none⟩ v2).setCell ⟨g, 3, none⟩ v3).setCell ⟨g, 4, none⟩ v4).setCell ⟨g, 5, none⟩ v5) (some ⟨b, 0, none⟩) l :=
  strs_far hb (strs_far hb (strs_far hb (strs_far hb (strs_far hb (strs_far hb h 0 v0) 1 v1) 2 v2) 3 v3) 4 v4) 5 v5
set_option maxHeartbeats 1500000 in
theorem cut_impl (s : ByteArray) (w : World) (hs : s.size ≤ 8000) (hE : par.Errs w) (hM : Mx w) :
    Calls Tryd.prog 13 #[.string s] w (MadeC w (cutI s)) := by
  obtain ⟨pre, x0, hp⟩ := parts_cut s
  have hlen : pre.length ≤ 8000 := by have := parts_len s; rw [hp] at this; simp at this; omega
  have z0 : x0.size ≤ 8000 := Nat.le_trans (parts_size s x0 (by rw [hp]; simp)) hs
  have PS : Hid (∀ x ∈ pre ++ [x0], x.size ≤ maxLen) := Lib.hid (fun x hx => Nat.le_trans (parts_size s x (by rw [hp]; exact hx)) (by unfold maxLen; omega))
  have KS : ∀ (W : World), Mx W → Hid (Calls Tryd.prog 22 #[.string s, .string ⟨#[47]⟩] W fun e w' => e = .returned (.slice (some ⟨W.heap.size, 0, none⟩) (pre.length + 1) (pre.length + 1)) ∧ w' = W.alloc (.cells ((pre ++ [x0]).map Value.string).toArray 9)) := fun W h => Lib.hid (by
    have := split_mx s W (by omega) h
    rw [hp] at this
    simpa using this)
  rw [cutI_eq hp]
  have K1 := fun (W : World) (h : Mx W) => Lib.hid (cut_mx x0 46 W (by omega) h)
  have l1 := cut_len x0.data.toList 46
  have zx : x0.size = x0.data.toList.length := rfl
  generalize Lib.cut x0.data.toList [46] = C1 at *
  have K2 := fun (W : World) (h : Mx W) => Lib.hid (cut_mx (bs C1.2.1) 91 W (by rw [bs_size]; omega) h)
  have l2 := cut_len C1.2.1 91
  have e2 : (bs C1.2.1).data.toList = C1.2.1 := rfl
  rw [e2] at K2
  generalize Lib.cut C1.2.1 [91] = C2 at *
  obtain ⟨T, R, ok1⟩ := C1
  obtain ⟨N, Y, ok⟩ := C2
  simp only at l1 l2 K1 K2 ⊢
  have KT := fun (W : World) => Lib.hid (Tryd.strings_TrimSuffix (bs Y) ⟨#[93]⟩ W (by rw [bs_size]; omega))
  have M1 := Lib.hid ((hM.alloc (.cells #[.slice none 0 0, .string ⟨#[]⟩, .string ⟨#[]⟩, .int .i64 0, .int .i64 0, .string ⟨#[]⟩] 24)).alloc (.cells #[.slice none 0 0, .string ⟨#[]⟩, .string ⟨#[]⟩, .int .i64 0, .int .i64 0, .string ⟨#[]⟩] 24))
  have HE := Lib.hid hE
  have HM := Lib.hid hM
  have B3 : Hid (Below w.heap.size w (((w.alloc (.cells #[.slice none 0 0, .string ⟨#[]⟩, .string ⟨#[]⟩, .int .i64 0, .int .i64 0, .string ⟨#[]⟩] 24)).alloc (.cells #[.slice (some ⟨w.heap.size + 1 + 1, 0, none⟩) pre.length (pre.length + 1), .string ⟨#[]⟩, .string ⟨#[]⟩, .int .i64 0, .int .i64 0, .string ⟨#[]⟩] 24)).alloc (.cells (List.map Value.string pre ++ [Value.string x0]).toArray 9))) := Lib.hid (below_a3 _ _ _ _)
  have G3 : Hid (Blk (((w.alloc (.cells #[.slice none 0 0, .string ⟨#[]⟩, .string ⟨#[]⟩, .int .i64 0, .int .i64 0, .string ⟨#[]⟩] 24)).alloc (.cells #[.slice (some ⟨w.heap.size + 1 + 1, 0, none⟩) pre.length (pre.length + 1), .string ⟨#[]⟩, .string ⟨#[]⟩, .int .i64 0, .int .i64 0, .string ⟨#[]⟩] 24)).alloc (.cells (List.map Value.string pre ++ [Value.string x0]).toArray 9)) w.heap.size 24 #[.slice none 0 0, .string ⟨#[]⟩, .string ⟨#[]⟩, .int .i64 0, .int .i64 0, .string ⟨#[]⟩]) := Lib.hid (((Blk.new w _ _).alloc _).alloc _)
  have A3 : Hid (Blk (((w.alloc (.cells #[.slice none 0 0, .string ⟨#[]⟩, .string ⟨#[]⟩, .int .i64 0, .int .i64 0, .string ⟨#[]⟩] 24)).alloc (.cells #[.slice (some ⟨w.heap.size + 1 + 1, 0, none⟩) pre.length (pre.length + 1), .string ⟨#[]⟩, .string ⟨#[]⟩, .int .i64 0, .int .i64 0, .string ⟨#[]⟩] 24)).alloc (.cells (List.map Value.string pre ++ [Value.string x0]).toArray 9)) (w.heap.size + 1) 24 #[.slice (some ⟨w.heap.size + 1 + 1, 0, none⟩) pre.length (pre.length + 1), .string ⟨#[]⟩, .string ⟨#[]⟩, .int .i64 0, .int .i64 0, .string ⟨#[]⟩]) := Lib.hid ((Blk.new1 w _ _ _).alloc _)
  have S3 : Hid (Strs (((w.alloc (.cells #[.slice none 0 0, .string ⟨#[]⟩, .string ⟨#[]⟩, .int .i64 0, .int .i64 0, .string ⟨#[]⟩] 24)).alloc (.cells #[.slice (some ⟨w.heap.size + 1 + 1, 0, none⟩) pre.length (pre.length + 1), .string ⟨#[]⟩, .string ⟨#[]⟩, .int .i64 0, .int .i64 0, .string ⟨#[]⟩] 24)).alloc (.cells (List.map Value.string pre ++ [Value.string x0]).toArray 9)) (some ⟨w.heap.size + 1 + 1, 0, none⟩) pre) := Lib.hid (by
    have e : List.map Value.string pre ++ [Value.string x0] = (pre ++ [x0]).map Value.string := by simp
    rw [e]
    exact strs_init (Row.strs (l := pre ++ [x0]) (Blk.new2 w _ _ 9 _) (fun k hk => PS.out _ (List.getElem_mem hk))))
  clear hE hM hp e2
  cases ok
  · have ek : keyI false (bs Y) = (0, 0, ByteArray.empty) := by unfold keyI; rw [if_neg (by decide)]
    rw [ek]
    clear ek
    go_enter Tryd.func13, Tryd.ntmps13
    go_wp2_with fail
    refine (KS _ M1.out).out.mono ?_
    rintro _ _ ⟨rfl, rfl⟩
    go_wp2_with fail
    generalize (((w.alloc (.cells #[.slice none 0 0, .string ⟨#[]⟩, .string ⟨#[]⟩, .int .i64 0, .int .i64 0, .string ⟨#[]⟩] 24)).alloc (.cells #[.slice (some ⟨w.heap.size + 1 + 1, 0, none⟩) pre.length (pre.length + 1), .string ⟨#[]⟩, .string ⟨#[]⟩, .int .i64 0, .int .i64 0, .string ⟨#[]⟩] 24)).alloc (.cells (List.map Value.string pre ++ [Value.string x0]).toArray 9)) = W3 at *
    have a3 := A3.out.cell
    have f3 := A3.out.free
    have z3 := A3.out.lt
    refine (K1 _ (HM.out.below B3.out)).out.mono ?_
    rintro _ _ ⟨rfl, n1, rfl⟩
    go_wp2_with fail
    refine (K2 _ (HM.out.below ((below_dn B3.out _).setCell (by simp) _))).out.mono ?_
    rintro _ _ ⟨rfl, n2, rfl⟩
    have A4 := Lib.hid (set2 (blk_dn (set1 (blk_dn A3.out n1) (.string (bs T))) n2) (.string (bs N)))
    have B4 := Lib.hid ((below_dn ((below_dn B3.out n1).setCell (p := ⟨w.heap.size + 1, 1, none⟩) (by simp) (.string (bs T))) n2).setCell (p := ⟨w.heap.size + 1, 2, none⟩) (by simp) (.string (bs N)))
    have G4 := Lib.hid ((blk_dn ((blk_dn G3.out n1).far (p := ⟨w.heap.size + 1, 1, none⟩) (by simp) (.string (bs T))) n2).far (p := ⟨w.heap.size + 1, 2, none⟩) (by simp) (.string (bs N)))
    have S4 := Lib.hid (strs_far (Nat.le_refl _) (strs_dn (strs_far (Nat.le_refl _) (strs_dn S3.out n1) 1 (.string (bs T))) n2) 2 (.string (bs N)))
    have g4 := G4.out.cell
    have h4 := G4.out.free
    go_wp2
    refine bodyPost_ret (v := .agg #[.slice (some ⟨w.heap.size + 1 + 1, 0, none⟩) pre.length (pre.length + 1), .string (bs T), .string (bs N), .int .i64 0, .int .i64 0, .string ByteArray.empty]) (by simp [results, Tryd.results13, go_sem, g4, h4]; try rfl) rfl ⟨some ⟨w.heap.size + 1 + 1, 0, none⟩, pre.length + 1, rfl, ?_, ?_⟩
    · repeat (first | with_reducible exact S4.out | with_reducible refine strs_far (by omega) ?_ _ _)
    · repeat (first | with_reducible exact B4.out | with_reducible refine Below.setCell ?_ (by simp) _)
  · have ek : keyI true (bs Y) = keyR (bs (Lib.trimSuffix Y [93])) := by unfold keyI; rw [if_pos rfl]; rfl
    rw [ek]
    clear ek
    go_enter Tryd.func13, Tryd.ntmps13
    go_wp2_with fail
    refine (KS _ M1.out).out.mono ?_
    rintro _ _ ⟨rfl, rfl⟩
    go_wp2_with fail
    generalize (((w.alloc (.cells #[.slice none 0 0, .string ⟨#[]⟩, .string ⟨#[]⟩, .int .i64 0, .int .i64 0, .string ⟨#[]⟩] 24)).alloc (.cells #[.slice (some ⟨w.heap.size + 1 + 1, 0, none⟩) pre.length (pre.length + 1), .string ⟨#[]⟩, .string ⟨#[]⟩, .int .i64 0, .int .i64 0, .string ⟨#[]⟩] 24)).alloc (.cells (List.map Value.string pre ++ [Value.string x0]).toArray 9)) = W3 at *
    have a3 := A3.out.cell
    have f3 := A3.out.free
    have z3 := A3.out.lt
    refine (K1 _ (HM.out.below B3.out)).out.mono ?_
    rintro _ _ ⟨rfl, n1, rfl⟩
    go_wp2_with fail
    refine (K2 _ (HM.out.below ((below_dn B3.out _).setCell (by simp) _))).out.mono ?_
    rintro _ _ ⟨rfl, n2, rfl⟩
    have A4 := Lib.hid (set2 (blk_dn (set1 (blk_dn A3.out n1) (.string (bs T))) n2) (.string (bs N)))
    have B4 := Lib.hid ((below_dn ((below_dn B3.out n1).setCell (p := ⟨w.heap.size + 1, 1, none⟩) (by simp) (.string (bs T))) n2).setCell (p := ⟨w.heap.size + 1, 2, none⟩) (by simp) (.string (bs N)))
    have G4 := Lib.hid ((blk_dn ((blk_dn G3.out n1).far (p := ⟨w.heap.size + 1, 1, none⟩) (by simp) (.string (bs T))) n2).far (p := ⟨w.heap.size + 1, 2, none⟩) (by simp) (.string (bs N)))
    have S4 := Lib.hid (strs_far (Nat.le_refl _) (strs_dn (strs_far (Nat.le_refl _) (strs_dn S3.out n1) 1 (.string (bs T))) n2) 2 (.string (bs N)))
    -- TRUE
    go_wp2_with fail
    generalize ((((W3.drewN n1).setCell ⟨w.heap.size + 1, 1, none⟩ (.string (bs T))).drewN n2).setCell ⟨w.heap.size + 1, 2, none⟩ (.string (bs N))) = W4 at *
    have a4 := A4.out.cell
    have k4 := A4.out.free
    have KR := fun (W : World) h => Lib.hid (readKey_any (bs (Lib.trimSuffix Y [93])) W (by rw [bs_size]; have := trim_le Y; omega) h)
    have KW := fun (W : World) => Lib.hid (withKey_any (some ⟨w.heap.size + 1 + 1, 0, none⟩) pre.length (pre.length + 1) (bs T) (bs N) ByteArray.empty 0 0 (bs (Lib.trimSuffix Y [93])) W)
    have H4 : Hid (par.Errs W4.drew) := Lib.hid (HE.out.below B4.out.drew)
    have KT2 : ∀ W : World, Hid (Calls Tryd.prog 26 #[.string (bs Y), .string ⟨#[93]⟩] W fun e w' => e = .returned (.string (bs (Lib.trimSuffix Y [93]))) ∧ w' = W) := fun W => Lib.hid (KT W).out
    generalize bs (Lib.trimSuffix Y [93]) = TK at *
    generalize keyR TK = kr at *
    generalize adr.keyV kr.1 kr.2.1 kr.2.2 = kv at KR KW
    -- LAW
    go_region_law (first
      | (go_simp; go_at_call 26; refine (KT2 _).out.mono ?_; rintro _ _ ⟨rfl, rfl⟩)
      | (go_simp; go_at_call 25; refine (KR _ H4.out).out.mono ?_; rintro _ w5 ⟨rfl, hb⟩; have hbb : Hid (Below W4.heap.size W4 w5) := Lib.hid (below_then (Below.refl W4.heap.size W4).drew hb (Nat.le_refl _)); have A5 := Lib.hid (A4.out.step hbb.out); have G5 := Lib.hid (G4.out.step hbb.out); have S5 := Lib.hid (S4.out.below hbb.out); have B5 := Lib.hid (below_then B4.out hbb.out (Nat.le_refl _)); have a5 := A5.out.cell; clear hb)
      | (go_simp; go_at_call 24; refine (KW _).out.mono ?_; rintro _ w6 ⟨rfl, hb⟩; have hbb : Hid (Below w5.heap.size w5 w6) := Lib.hid hb; have A6 := Lib.hid (A5.out.step hbb.out); have G6 := Lib.hid (G5.out.step hbb.out); have S6 := Lib.hid (S5.out.below hbb.out); have B6 := Lib.hid (below_then B5.out hbb.out (Nat.le_refl _)); have a6 := A6.out.cell; have k6 := A6.out.free; have g6 := G6.out.cell; have h6 := G6.out.free; clear hb))
    -- AFTER
    all_goals
      have A7 := Lib.hid (set5 (set4 (set3 (set2 (set1 (set0 A6.out (.slice (some ⟨w.heap.size + 1 + 1, 0, none⟩) pre.length (pre.length + 1))) (.string (bs T))) (.string (bs N))) (.int .i64 kr.1)) (.int .i64 kr.2.1)) (.string kr.2.2))
      have G7 := Lib.hid (six_blk G6.out (g := w.heap.size + 1) (by omega) (.slice (some ⟨w.heap.size + 1 + 1, 0, none⟩) pre.length (pre.length + 1)) (.string (bs T)) (.string (bs N)) (.int .i64 kr.1) (.int .i64 kr.2.1) (.string kr.2.2))
      have S7 := Lib.hid (six_strs S6.out (g := w.heap.size + 1) (Nat.le_refl _) (.slice (some ⟨w.heap.size + 1 + 1, 0, none⟩) pre.length (pre.length + 1)) (.string (bs T)) (.string (bs N)) (.int .i64 kr.1) (.int .i64 kr.2.1) (.string kr.2.2))
      have B7 := Lib.hid (six_below B6.out (g := w.heap.size + 1) (by omega) (.slice (some ⟨w.heap.size + 1 + 1, 0, none⟩) pre.length (pre.length + 1)) (.string (bs T)) (.string (bs N)) (.int .i64 kr.1) (.int .i64 kr.2.1) (.string kr.2.2))
      generalize ((((((w6.setCell ⟨w.heap.size + 1, 0, none⟩ (.slice (some ⟨w.heap.size + 1 + 1, 0, none⟩) pre.length (pre.length + 1))).setCell ⟨w.heap.size + 1, 1, none⟩ (.string (bs T))).setCell ⟨w.heap.size + 1, 2, none⟩ (.string (bs N))).setCell ⟨w.heap.size + 1, 3, none⟩ (.int .i64 kr.1)).setCell ⟨w.heap.size + 1, 4, none⟩ (.int .i64 kr.2.1)).setCell ⟨w.heap.size + 1, 5, none⟩ (.string kr.2.2)) = W7 at *
      have a7 := A7.out.cell
      have g7 := G7.out.cell
      have h7 := G7.out.free
      clear a4 k4 a5 a6 k6 g6 h6
      go_wp2
      refine bodyPost_ret (v := .agg #[.slice (some ⟨w.heap.size + 1 + 1, 0, none⟩) pre.length (pre.length + 1), .string (bs T), .string (bs N), .int .i64 kr.1, .int .i64 kr.2.1, .string kr.2.2]) (by simp [results, Tryd.results13, go_sem, g7, h7]; try rfl) rfl ⟨some ⟨w.heap.size + 1 + 1, 0, none⟩, pre.length + 1, rfl, ?_, ?_⟩
      · repeat (first | with_reducible exact S7.out | with_reducible refine strs_far (by omega) ?_ _ _)
      · repeat (first | with_reducible exact B7.out | with_reducible refine Below.setCell ?_ (by simp) _)
end Go.Proofs.YtfjfneliajmjbaaDoor.ari
