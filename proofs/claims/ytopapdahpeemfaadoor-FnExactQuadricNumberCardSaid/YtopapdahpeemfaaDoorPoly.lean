/- Division of lists, and cyclotomic polynomials, of the program and of the model. -/
import Derived.Test.YtopapdahpeemfaaDoorCopy
import Derived.ScopeJumps
import Derived.WalkMore
namespace Go.Proofs.YtopapdahpeemfaaDoor
open Go.RowKit Go.ChangeShapes Go.Sort

/-- One step of the division: the number at k + d, times the polynomial's numbers below its degree d, is taken off. -/
def stepD (g : Nat → Int) (d k : Nat) (L : Nat → Int) : Nat → Int :=
  if L (k + d) = 0 then L else fun j => if k ≤ j ∧ j < k + d then wrap64 (L j - wrap64 (L (k + d) * g (j - k))) else L j
/-- The division from the top on, k steps. -/
def divL (g : Nat → Int) (d : Nat) : Nat → (Nat → Int) → Nat → Int
  | 0, L => L
  | k + 1, L => divL g d k (stepD g d k L)

theorem stepD_inR {g : Nat → Int} {d k n : Nat} {L : Nat → Int} (h : ∀ j, j < n → inR (L j)) : ∀ j, j < n → inR (stepD g d k L j) := by
  intro j hj
  unfold stepD
  split
  · exact h j hj
  · dsimp only
    split
    · exact inR_wrap _
    · exact h j hj

section
variable {P : Program} {a : Act} {w : World} {Q : Exit → Act → World → Prop}
/-- A scope with jumps back to one label: what holds at every jump is proved once, from the label on. -/
theorem wp_scope_label {c rest : Code} (l : Nat) (J : Act → World → Prop) (μ : Act → World → Nat) (hf : findLabel c l = some (.seq .skip rest))
    (pass : ∀ a w, J a w → rest.wp P (Exit.jump l (fun a' w' => J a' w' ∧ μ a' w' < μ a w) Q) a w)
    (first : Hid (∀ a w, J a w → rest.wp P (Exit.jump l J Q) a w) → c.wp P (Exit.jump l J Q) a w) : (Code.scope c).wp P Q a w :=
  wp_scope_jumps l J μ hf (first (Lib.hid fun a w hJ => wp_mono (pass a w hJ) (fun e a' w' h => by
    cases e <;> first | exact h | exact ⟨h.1, h.2.1⟩))) (fun a w hJ => wp_seq (wp_skip (pass a w hJ)))
end

theorem divL_succ (g : Nat → Int) (d k : Nat) (L : Nat → Int) : divL g d (k + 1) L = divL g d k (stepD g d k L) := rfl
theorem stepD_zero {g : Nat → Int} {d k : Nat} {L : Nat → Int} (h : L (k + d) = 0) : stepD g d k L = L := if_pos h
theorem stepD_some {g : Nat → Int} {d k : Nat} {L : Nat → Int} (h : ¬ L (k + d) = 0) : stepD g d k L = fun j => if k ≤ j ∧ j < k + d then wrap64 (L j - wrap64 (L (k + d) * g (j - k))) else L j := if_neg h

section
variable {o : Bool} {lo hi lo' hi' : Nat} {n : Nat} {g L : Nat → Int}

/-- What holds at the label. -/
def DivJ (a : Option Addr) (cap : Nat) (a' : Option Addr) (cap' n d lo hi : Nat) (g L : Nat → Int) (w : World) (act : Act) (w' : World) : Prop :=
  ∃ (t : Nat) (M : Nat → Int) (u6 u7 u8 u9 u10 u11 u12 u13 u14 u15 u16 u17 u18 u19 u20 u21 u22 u23 u24 u25 u26 u27 u28 u29 u30 u31 u32 u33 u34 u35 u36 u37 u38 u39 u40 u41 u42 u43 u44 u45 u46 u47 u48 : Value), act = { tmps := #[.slice a n cap, .slice a' (d + 1) cap', undef, undef, .int .i64 d, .int .i64 t, u6, u7, u8, u9, u10, u11, u12, u13, u14, u15, u16, u17, u18, u19, u20, u21, u22, u23, u24, u25, u26, u27, u28, u29, u30, u31, u32, u33, u34, u35, u36, u37, u38, u39, u40, u41, u42, u43, u44, u45, u46, u47, u48], defers := [] } ∧
    t ≤ n ∧ Sl true w' lo hi (.slice a n cap) n M ∧ Frame lo hi w w' ∧ divL g d (t - d) M = divL g d (n - d) L

end
end Go.Proofs.YtopapdahpeemfaaDoor
