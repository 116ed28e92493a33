/- Numbers written in digits: the model's, and the laws' marks. Numbers written in digits, those below 0 too: the model's. -/
import Derived.Test.YtflfnekaiaplfaaGreatMem
import Derived.Lib.ItoaNum
import Derived.Outline
namespace Go.Proofs.YtflfnekaiaplfaaGreat.dig
open ad mem
open Go.ChangeShapes Go.WideShapes Go.ChangeAt Go.RowKit Go.Lib
set_option linter.unusedVariables false
set_option linter.unusedSimpArgs false

def bs (l : List UInt8) : ByteArray := ⟨l.toArray⟩
theorem bs_inj {l m : List UInt8} (h : bs l = bs m) : l = m := by
  have := congrArg (fun x : ByteArray => x.data.toList) h
  simpa [bs] using this
def Told (w : World) (v : Value) (e : Ending) (w' : World) : Prop := e = .returned v ∧ Below w.heap.size w w'

theorem dec_small {k : Nat} (h : k < 10) : decDigits k = [UInt8.ofNat (48 + k)] := by rw [decDigits, dif_pos h]
theorem dec_big {k : Nat} (h : ¬ k < 10) : decDigits k = decDigits (k / 10) ++ [UInt8.ofNat (48 + k % 10)] := by rw [decDigits, dif_neg h]
theorem dec_ne : ∀ k, decDigits k ≠ [] := fun k => by
  by_cases h : k < 10
  · rw [dec_small h]; simp
  · rw [dec_big h]; simp

/-- how far a number is written: k is left, l is written. -/
def Left (n k : Nat) (l : List UInt8) : Prop := (k = 0 ∧ l = decDigits n) ∨ (0 < k ∧ decDigits n = decDigits k ++ l)
theorem left_start {n : Nat} (h : 0 < n) : Left n n [] := .inr ⟨h, by simp⟩
theorem left_step {n k : Nat} {l : List UInt8} (h : Left n k l) (hk : 0 < k) : Left n (k / 10) (UInt8.ofNat (48 + k % 10) :: l) := by
  rcases h with ⟨h, _⟩ | ⟨_, h⟩
  · omega
  · by_cases hs : k < 10
    · refine .inl ⟨by omega, ?_⟩
      rw [h, dec_small hs, Nat.mod_eq_of_lt hs]; rfl
    · refine .inr ⟨by omega, ?_⟩
      rw [h, dec_big hs]; simp
theorem left_end {n : Nat} {l : List UInt8} (h : Left n 0 l) : l = decDigits n := by
  rcases h with ⟨_, h⟩ | ⟨h, _⟩
  · exact h
  · omega

theorem dec_len : ∀ n, (decDigits n).length ≤ n + 1 := fun n => by
  induction n using Nat.strongRecOn with
  | ind n ih =>
    by_cases h : n < 10
    · rw [dec_small h]; simp
    · rw [dec_big h]
      have := ih (n / 10) (by omega)
      simp; omega
theorem left_len {n k : Nat} {l : List UInt8} (h : Left n k l) : l.length ≤ n + 1 := by
  have := dec_len n
  rcases h with ⟨_, h⟩ | ⟨_, h⟩
  · rw [h]; exact this
  · rw [h] at this; simp at this; omega
theorem bs_app (l m : List UInt8) : bs l ++ bs m = bs (l ++ m) := by
  apply ByteArray.ext; simp [bs, ByteArray.data_append]
theorem bs_cons (b : UInt8) (l : List UInt8) : (⟨#[b]⟩ : ByteArray) ++ bs l = bs (b :: l) := bs_app [b] l
theorem bs_size (l : List UInt8) : (bs l).size = l.length := rfl

theorem conv1 (W : World) (x : Int) (c : Nat) (b : UInt8) (hx : (b.toNat : Int) = x) : (convert 95 9 (.slice (some ⟨W.heap.size, 0, none⟩) 1 c)).run Tryz.prog (W.alloc (.cells #[.int .u8 x] 5)) = .ok (.string ⟨#[b]⟩) (W.alloc (.cells #[.int .u8 x] 5)) := by
  subst hx
  have := run_convert_bytes_back (P := Tryz.prog) (W.alloc (.cells #[.int .u8 (b.toNat : Int)] 5)) 95 9 5 ⟨W.heap.size, 0, none⟩ c [b] Tryz.underlying95 Tryz.underlying5 Tryz.underlying9 (fun j hj => by
    obtain rfl : j = 0 := by simpa using hj
    simp [Addr.add])
  simpa using this
theorem digit_nat (k : Nat) : ((UInt8.ofNat (48 + k % 10)).toNat : Int) = 48 + (k : Int) % 10 := by
  rw [UInt8.toNat_ofNat_of_lt' (by change _ < 256; omega)]; omega

/-- the laws' mark of a number. -/
def markB (n : Nat) : ByteArray := bs (109 :: decDigits n)
theorem dec_inj : ∀ (a b : Nat), decDigits a = decDigits b → a = b := fun a => by
  induction a using Nat.strongRecOn with
  | ind a ih =>
    intro b h
    have hd : ∀ x y : Nat, x < 10 → y < 10 → UInt8.ofNat (48 + x) = UInt8.ofNat (48 + y) → x = y := fun x y hx hy e => by
      have e' := congrArg UInt8.toNat e
      rw [UInt8.toNat_ofNat_of_lt' (by change _ < 256; omega), UInt8.toNat_ofNat_of_lt' (by change _ < 256; omega)] at e'
      omega
    by_cases ha : a < 10
    · by_cases hb : b < 10
      · rw [dec_small ha, dec_small hb] at h
        exact hd a b ha hb (by simpa using h)
      · rw [dec_small ha, dec_big hb] at h
        have := congrArg List.length h
        have h2 := dec_ne (b / 10)
        have h3 : 0 < (decDigits (b / 10)).length := List.length_pos_iff.2 h2
        simp only [List.length_append, List.length_cons, List.length_nil] at this; omega
    · by_cases hb : b < 10
      · rw [dec_big ha, dec_small hb] at h
        have := congrArg List.length h
        have h2 := dec_ne (a / 10)
        have h3 : 0 < (decDigits (a / 10)).length := List.length_pos_iff.2 h2
        simp only [List.length_append, List.length_cons, List.length_nil] at this; omega
      · rw [dec_big ha, dec_big hb] at h
        obtain ⟨h1, h2⟩ := List.append_inj' h rfl
        have e1 := ih (a / 10) (by omega) (b / 10) h1
        have e2 := hd (a % 10) (b % 10) (by omega) (by omega) (by simpa using h2)
        omega

set_option maxHeartbeats 1000000 in
theorem mark_any (n : Nat) (w : World) (h1 : 1 ≤ n) (hn : n ≤ 1000000000) :
    Calls Tryz.prog 37 #[.int .i64 n] w (Told w (.string (markB n))) := by
  have hlt : ¬ (n : Int) ≤ 0 := by omega
  have hpos : 0 < n := by omega
  clear h1
  go_enter Tryz.func37, Tryz.ntmps37
  go_wp2
  go_loopw [0, 3] (fun a s wr => ∃ (k : Nat) (l : List UInt8), k ≤ 1000000000 ∧ a = .int .i64 k ∧ s = .string (bs l) ∧ Left n k l ∧ Below w.heap.size w wr) (fun a _ _ => (RowKit.intOf a).toNat)
  case atStart => exact ⟨n, [], hn, rfl, rfl, left_start hpos, Below.refl _ _⟩
  case round =>
    obtain ⟨k, l, hk, rfl, rfl, hL, hb⟩ := hrel
    have HL := Lib.hid hL
    have HB := Lib.hid hb
    clear hL hb
    have hsz : (bs l).size ≤ 1000000001 := by have := left_len HL.out; rw [bs_size]; omega
    by_cases hk0 : k = 0
    · subst hk0
      have HE := Lib.hid (left_end HL.out)
      go_wp2
      go_ret
      exact ⟨ret_str (by rw [HE.out]; exact bs_cons 109 _), HB.out⟩
    · have hkb : 0 < (k : Int) := by omega
      have hkp : 0 < k := by omega
      clear hk0
      have hq : ((k / 10 : Nat) : Int) = (k : Int) / 10 := by omega
      have HQ := Lib.hid hq
      obtain ⟨b, hbd⟩ : ∃ b : UInt8, b = UInt8.ofNat (48 + k % 10) := ⟨_, rfl⟩
      have hcv := fun (W : World) (c : Nat) => conv1 W (48 + (k : Int) % 10) c b (by rw [hbd]; exact digit_nat k)
      have HBD := Lib.hid hbd
      clear hq hbd
      go_wp2
      go_roundw
      case rel => exact ⟨k / 10, b :: l, by omega, by rw [HQ.out], by rw [bs_cons], by rw [HBD.out]; exact left_step HL.out hkp, HB.out.alloc HB.out.size _⟩
      case measure => simp [RowKit.intOf]; omega
theorem mark_inj {a b : Nat} (h : markB a = markB b) : a = b := dec_inj a b (by simpa using bs_inj h)
theorem mark_size (n : Nat) (hn : n ≤ 1000000000) : (markB n).size ≤ maxLen := by
  have := dec_len n
  unfold markB maxLen; rw [bs_size]; simp; omega
end Go.Proofs.YtflfnekaiaplfaaGreat.dig
namespace Go.Proofs.YtflfnekaiaplfaaGreat.dig
open ad mem
open Go.ChangeShapes Go.WideShapes Go.ChangeAt Go.RowKit Go.Lib
set_option linter.unusedVariables false
set_option linter.unusedSimpArgs false

end Go.Proofs.YtflfnekaiaplfaaGreat.dig
