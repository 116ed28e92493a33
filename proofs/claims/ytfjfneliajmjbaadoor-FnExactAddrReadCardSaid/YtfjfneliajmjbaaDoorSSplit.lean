/- The model's split of a text at a byte. -/
import Derived.Test.YtfjfneliajmjbaaDoorOwn
import Derived.Test.YtfjfneliajmjbaaDoorRdP
import Derived.Outline
namespace Go.Proofs.YtfjfneliajmjbaaDoor.ssplit
open ad mem own ard
open Go.ChangeShapes Go.WideShapes Go.ChangeAt Go.RowKit Go.Lib
set_option linter.unusedVariables false
set_option maxRecDepth 8000
set_option linter.unusedSimpArgs false

/-- the pieces of a text, as they lie. -/
def Pieces (s : ByteArray) (b : UInt8) (l : List ByteArray) : Prop := l.map (fun x : ByteArray => x.data.toList) = splitL b s.data.toList
/-- how far it is split: done lie ahead of f, no b stands between f and k. -/
structure Far (s : ByteArray) (b : UInt8) (done : List ByteArray) (f k : Nat) : Prop where
  eq : splitL b s.data.toList = done.map (fun x : ByteArray => x.data.toList) ++ splitL b (s.data.toList.drop f)
  no : ∀ j, f ≤ j → j < k → ∀ h : j < s.data.toList.length, s.data.toList[j] ≠ b
  le : f ≤ k
  len : done.length ≤ f
theorem Far.start (s : ByteArray) (b : UInt8) : Far s b [] 0 0 := ⟨by simp, fun j h1 h2 => absurd h2 (by omega), Nat.le_refl _, by simp⟩
theorem Far.more {s : ByteArray} {b : UInt8} {done : List ByteArray} {f k : Nat} (h : Far s b done f k) (hk : k < s.data.toList.length) (hne : s.data.toList[k] ≠ b) : Far s b done f (k + 1) :=
  ⟨h.eq, fun j h1 h2 hj => by
    by_cases e : j = k
    · subst e; exact hne
    · exact h.no j h1 (by omega) hj, by have := h.le; omega, h.len⟩
theorem piece_no {L : List UInt8} {b : UInt8} {f k : Nat} (h : ∀ j, f ≤ j → j < k → ∀ h : j < L.length, L[j] ≠ b) : b ∉ (L.drop f).take (k - f) := by
  intro hm
  obtain ⟨i, hi, e⟩ := List.getElem_of_mem hm
  simp only [List.length_take, List.length_drop] at hi
  rw [List.getElem_take, List.getElem_drop] at e
  exact h (f + i) (by omega) (by omega) (by omega) e
theorem Far.hit {s : ByteArray} {b : UInt8} {done : List ByteArray} {f k : Nat} (h : Far s b done f k) (hk : k < s.data.toList.length) (he : s.data.toList[k] = b) : Far s b (done ++ [s.extract f k]) (k + 1) (k + 1) := by
  refine ⟨?_, fun j h1 h2 => absurd h2 (by omega), Nat.le_refl _, by have := h.len; have := h.le; simp; omega⟩
  have hle := h.le
  have e : s.data.toList.drop f = (s.data.toList.drop f).take (k - f) ++ b :: s.data.toList.drop (k + 1) := by
    have e1 : (s.data.toList.drop f).drop (k - f) = b :: s.data.toList.drop (k + 1) := by
      rw [List.drop_drop, show f + (k - f) = k by omega, List.drop_eq_getElem_cons hk, he]
    rw [← e1, List.take_append_drop]
  rw [h.eq, List.map_append, List.append_assoc]
  congr 1
  rw [e, splitL_app (piece_no h.no), List.map_cons, List.map_nil, Lib.extract_data]
  rfl
theorem Far.done {s : ByteArray} {b : UInt8} {done : List ByteArray} {f : Nat} (h : Far s b done f s.size) : Pieces s b (done ++ [s.extract f s.size]) := by
  unfold Pieces
  have hle := h.le
  have hs : s.size = s.data.toList.length := rfl
  have e : (s.data.toList.drop f).take (s.size - f) = s.data.toList.drop f := List.take_of_length_le (by simp)
  have hn := piece_no h.no
  rw [e] at hn
  rw [h.eq, splitL_none hn, List.map_append, List.map_cons, List.map_nil, Lib.extract_data, e]

def Split (w : World) (s : ByteArray) (b : UInt8) (e : Ending) (w' : World) : Prop := ∃ A c l, e = .returned (.slice A l.length c) ∧ Hid (Pieces s b l) ∧ Own w' w.heap.size (.slice A l.length c) l ∧ Hid (l.length ≤ s.size + 1 ∧ ∀ k (h : k < l.length), l[k].size ≤ s.size) ∧ Below w.heap.size w w'
def Small (s : ByteArray) (l : List ByteArray) : Prop := ∀ k (h : k < l.length), l[k].size ≤ s.size
theorem Small.snoc {s : ByteArray} {l : List ByteArray} (h : Small s l) (a b : Nat) : Small s (l ++ [s.extract a b]) := fun k hk => by
  by_cases e : k < l.length
  · rw [List.getElem_append_left e]; exact h k e
  · have : k = l.length := by simp at hk; omega
    subst this
    rw [List.getElem_append_right (Nat.le_refl _)]
    have h1 : (s.extract a b).size = ((s.data.toList.drop a).take (b - a)).length := by rw [← Lib.extract_data]; rfl
    have h2 : s.size = s.data.toList.length := rfl
    simp [h1]; omega

set_option maxHeartbeats 2000000 in
theorem split_any (s : ByteArray) (w : World) (hs : s.size ≤ 8000) :
    Calls Tryd.prog 9 #[.string s, .int .u8 47] w (Split w s 47) := by
  have hsI : (s.size : Int) ≤ 8000 := by omega
  go_enter Tryd.func9, Tryd.ntmps9
  go_wp2
  go_loopw [5, 6, 7] (fun v f i wr => ∃ (k j : Nat) (l : List ByteArray), k ≤ s.size ∧ j ≤ k ∧ i = .int .i64 k ∧ f = .int .i64 j ∧ Own wr w.heap.size v l ∧ Far s 47 l j k ∧ Small s l ∧ Below w.heap.size w wr) (fun _ _ i _ => s.size - (RowKit.intOf i).toNat)
  case atStart => exact ⟨0, 0, [], Nat.zero_le _, Nat.le_refl _, rfl, rfl, row_own (show Row _ _ [] from Blk.new w 9 #[]) (Nat.le_refl _) (by simp), Far.start s 47, fun k hk => by simp at hk, below_a1 _ _⟩
  case round =>
    obtain ⟨k, j, l, hk, hjk, rfl, rfl, hown, hfar, hsm, hb⟩ := hrel
    have HO := Lib.hid hown
    have HF := Lib.hid hfar
    have HS := Lib.hid hsm
    have HB := Lib.hid hb
    have hlen := hfar.len
    have hzz := hb.size
    clear hown hfar hsm hb
    by_cases hlt : k < s.size
    · by_cases he : s[k] = 47
      · have heb : ((s[k].toNat : Int) == 47) = true := by rw [he]; rfl
        have hsl : ∀ w : World, (Instr.slice 9 (.string s) (some (.int .i64 j)) (some (.int .i64 k)) none).run Tryd.prog w = .ok (.string (s.extract j k)) w := fun w => by
          have := Go.run_slice_string (P := Tryd.prog) (w := w) 9 s .i64 .i64 j k Tryd.underlying9 (by omega) (by omega) (by omega)
          simpa using this
        have HE := Lib.hid he
        have SN := Lib.hid ((show Row (wr.alloc (.cells #[Value.string (s.extract j k)] 9)) wr.heap.size [s.extract j k] from Blk.new wr 9 #[Value.string (s.extract j k)]).strs (fun i hi => by
          have : i = 0 := by simpa using hi
          subst this
          have h1 : (s.extract j k).size = ((s.data.toList.drop j).take (k - j)).length := by rw [← Lib.extract_data]; rfl
          have h2 : s.size = s.data.toList.length := rfl
          show (s.extract j k).size ≤ maxLen
          unfold maxLen
          simp [h1]; omega))
        have HO2 := Lib.hid (HO.out.alloc (.cells #[Value.string (s.extract j k)] 9))
        clear he
        go_wp2_with (at_builtin; refine wpList_append rfl (.tmp 20) (.tmp 25) rfl w.heap.size _ l rfl HO2.out (some ⟨wr.heap.size, 0, none⟩) 1 [s.extract j k] rfl SN.out ?c1 ?c2 ?_)
        case c1 => simp; omega
        case c2 => simp; omega
        intro v' w3 ho hg
        have hr := HO2.out.row
        have E3 := Lib.hid ((below_da HB.out (Nat.le_refl _) _).grown hg (by simp; omega) (fun q hq => by have := (hr q hq).1; omega))
        have HO3 := Lib.hid ho
        clear ho hg hr hsl
        go_wp2
        go_roundw
        case rel => exact ⟨k + 1, k + 1, l ++ [s.extract j k], hlt, Nat.le_refl _, by go_num, by go_num, HO3.out, HF.out.hit (by simpa using hlt) HE.out, HS.out.snoc j k, E3.out⟩
        case measure => simp [RowKit.intOf]; omega
      · have heb : ((s[k].toNat : Int) == 47) = false := by
          have : s[k].toNat ≠ 47 := fun e => he (UInt8.toNat_inj.1 e)
          simp; omega
        have HE := Lib.hid he
        clear he
        go_wp2
        go_roundw
        case rel => exact ⟨k + 1, j, l, hlt, by omega, by go_num, rfl, HO.out, HF.out.more (by simpa using hlt) HE.out, HS.out, HB.out⟩
        case measure => simp [RowKit.intOf]; omega
    · obtain rfl : k = s.size := by omega
      have hsl : ∀ w : World, (Instr.slice 9 (.string s) (some (.int .i64 j)) none none).run Tryd.prog w = .ok (.string (s.extract j s.size)) w := fun w => by
        have := Go.run_slice_string_l (P := Tryd.prog) (w := w) (t := 9) (s := s) Tryd.underlying9 .i64 j (by omega) (by omega)
        simpa using this
      have SN := Lib.hid ((show Row (wr.alloc (.cells #[Value.string (s.extract j s.size)] 9)) wr.heap.size [s.extract j s.size] from Blk.new wr 9 #[Value.string (s.extract j s.size)]).strs (fun i hi => by
        have : i = 0 := by simpa using hi
        subst this
        have h1 : (s.extract j s.size).size = ((s.data.toList.drop j).take (s.size - j)).length := by rw [← Lib.extract_data]; rfl
        have h2 : s.size = s.data.toList.length := rfl
        show (s.extract j s.size).size ≤ maxLen
        unfold maxLen
        simp [h1]; omega))
      have HO2 := Lib.hid (HO.out.alloc (.cells #[Value.string (s.extract j s.size)] 9))
      go_wp2_with (at_builtin; refine wpList_append rfl (.tmp 29) (.tmp 33) rfl w.heap.size _ l rfl HO2.out (some ⟨wr.heap.size, 0, none⟩) 1 [s.extract j s.size] rfl SN.out ?d1 ?d2 ?_)
      case d1 => simp; omega
      case d2 => simp; omega
      intro v' w3 ho hg
      have hr := HO2.out.row
      have E3 := Lib.hid ((below_da HB.out (Nat.le_refl _) _).grown hg (by simp; omega) (fun q hq => by have := (hr q hq).1; omega))
      obtain ⟨A, c, rfl⟩ := ho.form
      have HO3 := Lib.hid ho
      have HL : Hid ((l ++ [s.extract j s.size]).length ≤ s.size + 1 ∧ ∀ k (h : k < (l ++ [s.extract j s.size]).length), (l ++ [s.extract j s.size])[k].size ≤ s.size) := by
        refine ⟨by simp; omega, HS.out.snoc j s.size⟩
      clear ho hg hr hsl
      go_wp2
      go_ret
      exact ⟨A, c, l ++ [s.extract j s.size], rfl, Lib.hid HF.out.done, HO3.out, HL, E3.out⟩
end Go.Proofs.YtfjfneliajmjbaaDoor.ssplit
