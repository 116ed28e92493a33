/- A law that the library lacks: a scope in which the run jumps to several labels. What holds at each jump to label l with the ghost n; each pass from a label jumps with a lesser ghost, or leaves. No condition. -/
import Derived.ScopeJumps
import Derived.WalkMore
import Derived.WalkKit
namespace Go.Proofs.YtifgnebjjkjgoaaDoor.scp
set_option linter.unusedVariables false

/-- As Q; by a goto to label l: J at l and a ghost below n. -/
def jumpM (J : Nat → Nat → Act → World → Prop) (n : Nat) (Q : Exit → Act → World → Prop) : Exit → Act → World → Prop
  | .goto l, a, w => ∃ m, m < n ∧ J l m a w
  | e, a, w => Q e a w

section
variable {P : Program} {a : Act} {w : World} {Q : Exit → Act → World → Prop} {J : Nat → Nat → Act → World → Prop} {n : Nat}
@[go_sem] theorem jumpM_normal : jumpM J n Q .normal a w = Q .normal a w := rfl
@[go_sem] theorem jumpM_exit (id : Nat) : jumpM J n Q (.exit id) a w = Q (.exit id) a w := rfl
@[go_sem] theorem jumpM_ret : jumpM J n Q .ret a w = Q .ret a w := rfl
@[go_sem] theorem jumpM_panic (ch : List PanicEntry) : jumpM J n Q (.panic ch) a w = Q (.panic ch) a w := rfl

theorem wp_scope_many {c : Code} (J : Nat → Nat → Act → World → Prop)
    (pass : ∀ l n a w, J l n a w → ∃ rest, findLabel c l = some (.seq .skip rest) ∧ rest.wp P (jumpM J n Q) a w)
    (first : (∀ l n a w rest, J l n a w → findLabel c l = some (.seq .skip rest) → rest.wp P (jumpM J n Q) a w) → ∃ n, c.wp P (jumpM J n Q) a w) : (Code.scope c).wp P Q a w := by
  intro b k cs
  obtain ⟨n0, first⟩ := first (fun l n a w rest hJ hf => by
    obtain ⟨r, hr, hw⟩ := pass l n a w hJ
    rw [hf] at hr; cases hr; exact hw)
  have key : ∀ n l a w, J l n a w → ∀ rest, findLabel c l = some rest → ∃ e a' w', Q e a' w' ∧ Arrives P (lone (b.at a (.code rest :: .inScope c :: k)) cs w) b k cs e a' w' := by
    intro n
    induction n using Nat.strongRecOn with
    | _ n ih =>
      intro l a w hJ rest hf
      obtain ⟨r, hr, hw'⟩ := pass l n a w hJ
      rw [hf] at hr
      cases hr
      have hw : (Code.seq .skip r).wp P (jumpM J n Q) a w := wp_seq (wp_skip hw')
      obtain ⟨e, a₁, w₁, hq, harr⟩ := hw b (.inScope c :: k) cs
      cases e with
      | normal => exact ⟨.normal, a₁, w₁, hq, Steps.trans harr (.one step_inScope)⟩
      | exit id => exact ⟨.exit id, a₁, w₁, hq, fun k' hk => harr k' (by simp [exitTo, hk])⟩
      | goto l' =>
        obtain ⟨m, hlt, hJ'⟩ := hq
        obtain ⟨r', hf', _⟩ := pass l' m a₁ w₁ hJ'
        have hg : gotoIn l' (.inScope c :: k) = some (.code (.seq .skip r') :: .inScope c :: k) := by simp [gotoIn, hf']
        obtain ⟨e₂, a₂, w₂, hq₂, harr₂⟩ := ih m hlt l' a₁ w₁ hJ' _ hf'
        exact ⟨e₂, a₂, w₂, hq₂, .of_steps (harr _ hg) harr₂⟩
      | ret => exact ⟨_, a₁, w₁, hq, harr⟩
      | panic ch => exact ⟨_, a₁, w₁, hq, harr⟩
      | outgrown => exact ⟨_, a₁, w₁, hq, harr⟩
  obtain ⟨e, a₁, w₁, hq, harr⟩ := first b (.inScope c :: k) cs
  cases e with
  | normal => exact ⟨.normal, a₁, w₁, hq, .head step_scope (Steps.trans harr (.one step_inScope))⟩
  | exit id => exact ⟨.exit id, a₁, w₁, hq, fun k' hk => .head step_scope (harr k' (by simp [exitTo, hk]))⟩
  | goto l' =>
    obtain ⟨m, hlt, hJ'⟩ := hq
    obtain ⟨r', hf', _⟩ := pass l' m a₁ w₁ hJ'
    have hg : gotoIn l' (.inScope c :: k) = some (.code (.seq .skip r') :: .inScope c :: k) := by simp [gotoIn, hf']
    obtain ⟨e₂, a₂, w₂, hq₂, harr₂⟩ := key m l' a₁ w₁ hJ' _ hf'
    exact ⟨e₂, a₂, w₂, hq₂, .of_steps (.head step_scope (harr _ hg)) harr₂⟩
  | ret => exact ⟨_, a₁, w₁, hq, .of_steps (.one step_scope) harr⟩
  | panic ch => exact ⟨_, a₁, w₁, hq, .of_steps (.one step_scope) harr⟩
  | outgrown => exact ⟨_, a₁, w₁, hq, .of_steps (.one step_scope) harr⟩
end
end Go.Proofs.YtifgnebjjkjgoaaDoor.scp
