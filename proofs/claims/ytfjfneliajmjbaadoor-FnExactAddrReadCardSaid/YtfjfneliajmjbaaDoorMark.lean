/- The laws' marks, at whatever number they begin. -/
import Derived.Test.YtfjfneliajmjbaaDoorOwn
namespace Go.Proofs.YtfjfneliajmjbaaDoor.own
open ad mem dig
open Go.ChangeShapes Go.WideShapes Go.ChangeAt Go.RowKit Go.Lib
set_option linter.unusedVariables false
set_option linter.unusedSimpArgs false

def MarkedI (w : World) (base : Nat) (v : Value) (a : Int) (k n : Nat) (e : Ending) (w' : World) : Prop := e = .returned (.int .i64 (a + n)) ∧ Own w' base v (marks k n) ∧ w.grownBy w' v.ownBlock
theorem cast_sum (k n : Nat) : ((k + n : Nat) : Int) = (k : Int) + n := by omega
theorem mark_listI (A : Option Addr) (c base : Nat) (l : List ByteArray) (a : Int) (k : Nat) (w : World) (h : Own w base (.slice A l.length c) l) (ha : (k : Int) = a) (hl : l.length ≤ 1048576) (hk1 : 1 ≤ k) (hk : k ≤ 10000000) :
    Calls Tryd.prog 33 #[.slice A l.length c, .int .i64 a] w (MarkedI w base (.slice A l.length c) a k l.length) := by
  subst ha
  refine (mark_list A c base l k w h hl hk1 hk).mono ?_
  rintro _ _ ⟨rfl, h1, h2⟩
  exact ⟨by rw [cast_sum], h1, h2⟩
theorem mark_addrI (A : Option Addr) (c base : Nat) (d : AddrD) (a : Int) (k : Nat) (w : World) (h : Own w base (.slice A d.path.length c) d.path) (ha : (k : Int) = a) (hl : d.path.length ≤ 1048576) (hk1 : 1 ≤ k) (hk : k ≤ 10000000) :
    Calls Tryd.prog 18 #[.agg #[.slice A d.path.length c, .string d.typ, .string d.nam, .int .i64 d.kind, .int .i64 d.n, .string d.key], .int .i64 a] w (MarkedI w base (.slice A d.path.length c) a k d.path.length) := by
  subst ha
  refine (mark_addr A c base d k w h hl hk1 hk).mono ?_
  rintro _ _ ⟨rfl, h1, h2⟩
  exact ⟨by rw [cast_sum], h1, h2⟩
theorem held_addrI (A : Option Addr) (c n : Nat) (T N K : ByteArray) (kd i : Int) (a : Int) (k : Nat) (w : World) (h : Strs w A (marks k n)) (ha : (k : Int) = a) (hl : n ≤ 1048576) (hk1 : 1 ≤ k) (hk : k ≤ 10000000) :
    Calls Tryd.prog 19 #[.agg #[.slice A n c, .string T, .string N, .int .i64 kd, .int .i64 i, .string K], .int .i64 a] w (dig.Told w (.int .i64 (a + n))) := by
  subst ha
  refine (held_addr A c n T N K kd i k w h hl hk1 hk).mono ?_
  rintro _ _ ⟨rfl, h1⟩
  exact ⟨by rw [cast_sum], h1⟩
theorem marks_sizes (k n : Nat) (hk : k + n ≤ 100000000) : ∀ j (h : j < (marks k n).length), (marks k n)[j].size ≤ maxLen := fun j hj => by
  rw [marks_at]; rw [marks_len] at hj; exact mark_size _ (by omega)
theorem Own.marks_strs {w : World} {base c k n : Nat} {A : Option Addr} (h : Own w base (.slice A n c) (marks k n)) (hk : k + n ≤ 100000000) : Strs w A (marks k n) :=
  Own.strs (c := c) (by rw [marks_len]; exact h) (marks_sizes k n hk)
theorem own_some (g n c : Nat) : (Value.slice (some (⟨g, 0, none⟩ : Addr)) n c).ownBlock = some g := rfl
end Go.Proofs.YtfjfneliajmjbaaDoor.own
