/- Division: the common facts. Plain facts, no walk. -/
import Derived.Test.YtloalhcloifgjaaNorm
import Derived.Test.YtloalhcloifgjaaMul
import Derived.Test.YtloalhcloifgjaaZero
import Derived.Test.YtloalhcloifgjaaParts
namespace Go.Proofs.Ytloalhcloifgjaa
open Go.RowKit Go.ChangeShapes Go.Sort
set_option linter.unusedVariables false
set_option linter.unusedSimpArgs false

/-- The product of x and the cofactor of y; the norm of y; whether all keep the limit. -/
def dvZ (n : Nat) (f g : Nat → Int) : Nat → Int := prodZ n (phiN n) f (prI n (phiN n) g 1 (phiN n - 1))
def dvN (n : Nat) (g : Nat → Int) : Int := prI n (phiN n) g 0 (phiN n) 0
def dvOk (n : Nat) (f g : Nat → Int) : Prop := prOk n (phiN n) g 1 (phiN n - 1) ∧ prOk n (phiN n) g 0 (phiN n) ∧ Within (dvZ n f g) (phiN n) 1000000000
theorem off_one {w : World} {base g cap N : Nat} {F : Nat → List Value} {e : TypeId} {sz : Nat} (h : RowE w base e sz g cap N F) :
    ∃ off : Nat, (0 < N - 1 → off = 1 * 12) ∧ (if cap = 1 then (some ⟨g, 0, none⟩ : Option Addr) else some ⟨g, 12, none⟩) = some ⟨g, off, none⟩ := by
  by_cases hc : cap = 1
  · refine ⟨0, fun hN => ?_, by rw [if_pos hc]⟩
    rcases h.2 with ⟨h2, _⟩ | ⟨g', cap', cur, hv, hb, hh, hn, _⟩
    · cases h2
    · cases hv; omega
  · exact ⟨12, fun _ => rfl, by rw [if_neg hc]⟩
theorem dvN_ok {n : Nat} {g : Nat → Int} (h : CyP n (phiN n) g) (hz : zeroB (phiN n) g = false) : dvN n g ≠ 0 :=
  norm_ne (by have := h.2.1; omega) (by have := h.1; omega) h.2.2.2 (zeroB_false hz)
theorem dvN_bd {n : Nat} {g : Nat → Int} (h : CyP n (phiN n) g) (hk : prOk n (phiN n) g 0 (phiN n)) : -1000000000 ≤ dvN n g ∧ dvN n g ≤ 1000000000 :=
  prI_within hk 0 (phi_pos n (by have := h.2.1; omega) (by have := h.1; omega))

end Go.Proofs.Ytloalhcloifgjaa
