/- Texts of expressions, plainly; join of four and of five. -/
import Derived.Test.YtnjpddbpnmgcpaaGreatDoorExRi
import Derived.Test.YtnjpddbpnmgcpaaGreatDoorVlT
import Derived.Test.YtnjpddbpnmgcpaaGreatDoorTxtS
namespace Go.Proofs.YtnjpddbpnmgcpaaGreatDoor.ex
open ad mem vl dig
open Go.ChangeShapes Go.WideShapes Go.ChangeAt Go.RowKit Go.Lib
set_option linter.unusedVariables false
set_option maxRecDepth 8000
set_option linter.unusedSimpArgs false

theorem itoa_len (x : Int) (h0 : -1000000 ≤ x) (h1 : x ≤ 1000000) : (itoa x).length ≤ 1000002 := by
  unfold itoa
  split
  · have := dec_len x.natAbs; simp; omega
  · have := dec_len x.toNat; omega
theorem rawV_len {v : ValD} (h : valB v = true) : (rawV v).length ≤ 2000000 := by
  unfold rawV
  split
  · rename_i k
    have := num_le h k
    have := itoa_len v.n this.1 this.2
    omega
  · rename_i k
    have := text8 h k
    have e : v.text.data.toList.length = v.text.size := rfl
    simp [e]; omega
theorem rawT_len {d : AddrD} (h : addrB d = true) : (rawT d).length ≤ 1000 := by
  obtain ⟨hp, h2, h3, h4⟩ := txt.addr_parts h
  have hw := txt.path_size d.path (txt.path_words hp).2
  have h0 := (txt.path_words hp).1
  have z2 := txt.word_size h2
  have z3 := txt.word_size h3
  have e2 : d.typ.data.toList.length = d.typ.size := rfl
  have e3 : d.nam.data.toList.length = d.nam.size := rfl
  have hk : (keyT d.kind d.n d.key).length ≤ 110 := by
    simp only [keyB, Bool.or_eq_true, Bool.and_eq_true, beq_iff_eq, decide_eq_true_eq] at h4
    unfold keyT
    rcases h4 with (⟨⟨a, b⟩, c⟩ | ⟨⟨⟨a, b⟩, c⟩, e⟩) | ⟨⟨a, b⟩, c⟩
    · simp [a]
    · have := dec_len d.n.toNat
      simp [a, decT]; omega
    · have := txt.word_size c
      have e4 : d.key.data.toList.length = d.key.size := rfl
      simp [a, e4]; omega
  unfold rawT
  simp only [List.length_append, e2, e3]
  simp; omega
theorem rawE_len : ∀ (d : Nat) (e : ExprD), exprB d e = true → (rawE d e).length + 5 ≤ 2500000 * 2 ^ d := fun d => by
  induction d with
  | zero => intro e h; simp [exprB] at h
  | succ d ih =>
    intro e h
    have hp : 2 ^ (d + 1) = 2 * 2 ^ d := by rw [Nat.pow_succ]; omega
    have h1 : 1 ≤ 2 ^ d := Nat.one_le_two_pow
    simp only [exprB, Bool.and_eq_true, Bool.or_eq_true, beq_iff_eq] at h
    obtain ⟨_, h⟩ := h
    unfold rawE
    rcases h with (((⟨k, hv⟩ | ⟨⟨k, ha⟩, hw⟩) | k) | k) | ⟨k, ht⟩
    · rw [if_pos k]
      have := rawV_len hv
      omega
    · have n1 : ¬ e.kind = 1 := by omega
      rw [if_neg n1, if_pos k]
      have := rawT_len ha
      have := txt.word_size hw
      have e3 : e.prop.data.toList.length = e.prop.size := rfl
      simp only [List.length_cons, List.length_append, e3]; omega
    · have n1 : ¬ e.kind = 1 := by omega
      have n2 : ¬ e.kind = 2 := by omega
      rw [if_neg n1, if_neg n2, if_pos k]; simp; omega
    · have n1 : ¬ e.kind = 1 := by omega
      have n2 : ¬ e.kind = 2 := by omega
      have n3 : ¬ e.kind = 3 := by omega
      rw [if_neg n1, if_neg n2, if_neg n3, if_pos k]; simp; omega
    · have n1 : ¬ e.kind = 1 := by omega
      have n2 : ¬ e.kind = 2 := by omega
      have n3 : ¬ e.kind = 3 := by omega
      have n4 : ¬ e.kind = 4 := by omega
      rw [if_neg n1, if_neg n2, if_neg n3, if_neg n4]
      match hm : e.args, ht with
      | [x, y], ht =>
        simp only [two, Bool.and_eq_true] at ht
        have hx := ih x ht.1
        have hy := ih y ht.2
        simp; omega
theorem rawE_4 {d : Nat} (hd : d ≤ 4) {e : ExprD} (h : exprB d e = true) : (rawE d e).length ≤ 40000000 := by
  have h1 := rawE_len d e h
  have h2 : 2 ^ d ≤ 2 ^ 4 := Nat.pow_le_pow_right (by omega) hd
  have : (2 : Nat) ^ 4 = 16 := rfl
  omega

theorem join4 (a b c d : ByteArray) (k : Nat) (w : World) (g : Nat) (h : Blk w g 9 #[.string a, .string b, .string c, .string d]) (hs : a.size + b.size + c.size + d.size ≤ 1000000000) :
    Calls Tryz.prog 23 #[.slice (some ⟨g, 0, none⟩) 4 k] w (vl.Told w (.string (bs (a.data.toList ++ (b.data.toList ++ (c.data.toList ++ d.data.toList)))))) := by
  have := str.join_c [a, b, c, d] g k w (fun j hj => by
    rw [h.cell]
    match j, hj with
    | 0, _ => rfl
    | 1, _ => rfl
    | 2, _ => rfl
    | 3, _ => rfl) (by simp) (by simp [str.cat]; omega) h.lt
  have e : str.cat [a, b, c, d] = a.data.toList ++ (b.data.toList ++ (c.data.toList ++ d.data.toList)) := by simp [str.cat]
  rw [e] at this
  exact this
theorem join5 (a b c d f : ByteArray) (k : Nat) (w : World) (g : Nat) (h : Blk w g 9 #[.string a, .string b, .string c, .string d, .string f]) (hs : a.size + b.size + c.size + d.size + f.size ≤ 1000000000) :
    Calls Tryz.prog 23 #[.slice (some ⟨g, 0, none⟩) 5 k] w (vl.Told w (.string (bs (a.data.toList ++ (b.data.toList ++ (c.data.toList ++ (d.data.toList ++ f.data.toList))))))) := by
  have := str.join_c [a, b, c, d, f] g k w (fun j hj => by
    rw [h.cell]
    match j, hj with
    | 0, _ => rfl
    | 1, _ => rfl
    | 2, _ => rfl
    | 3, _ => rfl
    | 4, _ => rfl) (by simp) (by simp [str.cat]; omega) h.lt
  have e : str.cat [a, b, c, d, f] = a.data.toList ++ (b.data.toList ++ (c.data.toList ++ (d.data.toList ++ f.data.toList))) := by simp [str.cat]
  rw [e] at this
  exact this
/-- what a right expression of a kind is. -/
theorem right_parts {d : Nat} {e : ExprD} (h : exprB (d + 1) e = true) : (e.kind = 1 ∧ valB e.val = true) ∨ (e.kind = 2 ∧ addrB e.addr = true ∧ wordB e.prop = true) ∨ e.kind = 3 ∨ e.kind = 4 ∨ (e.kind = 5 ∧ ∃ x y, e.args = [x, y] ∧ exprB d x = true ∧ exprB d y = true) := by
  simp only [exprB, Bool.and_eq_true, Bool.or_eq_true, beq_iff_eq] at h
  obtain ⟨_, h⟩ := h
  rcases h with (((⟨k, hv⟩ | ⟨⟨k, ha⟩, hw⟩) | k) | k) | ⟨k, ht⟩
  · exact .inl ⟨k, hv⟩
  · exact .inr (.inl ⟨k, ha, hw⟩)
  · exact .inr (.inr (.inl k))
  · exact .inr (.inr (.inr (.inl k)))
  · match hm : e.args, ht with
    | [x, y], ht =>
      simp only [two, Bool.and_eq_true] at ht
      exact .inr (.inr (.inr (.inr ⟨k, x, y, rfl, ht.1, ht.2⟩)))
theorem raw1 {d : Nat} {e : ExprD} (k : e.kind = 1) : rawE (d + 1) e = rawV e.val := by simp [rawE, k]
theorem raw2 {d : Nat} {e : ExprD} (k : e.kind = 2) : rawE (d + 1) e = 64 :: (rawT e.addr ++ (58 :: e.prop.data.toList)) := by simp [rawE, k]
theorem raw3 {d : Nat} {e : ExprD} (k : e.kind = 3) : rawE (d + 1) e = [35] := by simp [rawE, k]
theorem raw4 {d : Nat} {e : ExprD} (k : e.kind = 4) : rawE (d + 1) e = [36] := by simp [rawE, k]
theorem raw5 {d : Nat} {e x y : ExprD} (k : e.kind = 5) (h : e.args = [x, y]) : rawE (d + 1) e = 40 :: (rawE d x ++ ([32, 43, 32] ++ (rawE d y ++ [41]))) := by simp [rawE, k, h]
end Go.Proofs.YtnjpddbpnmgcpaaGreatDoor.ex
