/- What the listed variable gives a walk, how it is read again, the witness's world, and the tied card of a law that may start goroutines. -/
import Derived.Test.YtacffobbbcfbcaaDoorEqA
import Derived.Test.YtacffobbbcfbcaaDoorLeave
import Derived.Test.YtacffobbbcfbcaaDoorCards
import Derived.Test.YtacffobbbcfbcaaDoorTie
import Derived.ChangeSame
import Derived.ChangeVars
import Derived.JoinedOf
import Derived.RowKitTokens
import Derived.LaidLaws
import Derived.LaidMore
import Derived.LaidHandle
import Derived.MakeChecks
import Derived.Stop.LaidErr
import Derived.Stop.Joined
import Derived.SevenTiedAt
namespace Go.Proofs.YtacffobbbcfbcaaDoor
open Go.RowKit Go.ChangeShapes Go.Sort Go.WideShapes Go.ChangeAt
set_option linter.unusedVariables false
set_option linter.unusedSimpArgs false

/-- The variable holds what init laid. -/
def Gv (w : World) : Prop := ∃ ad, Gat w ad
theorem Gv.keep {w w' : World} (h : Gv w) (hb : Below w.heap.size w w') : Gv w' := by
  obtain ⟨ad, h⟩ := h
  exact ⟨ad, h.keep hb⟩
/-- What is listed. -/
def LD : List (String × DataW Unit) := [("loop.example/g01313/impl.errNoEquation", Rows.laid_loop_example_g01313_impl_errNoEquation)]
theorem gE : Tryd.prog.globalNamed "loop.example/g01313/impl.errNoEquation" = some 0 := by kernel_rfl
theorem gT : (Tryd.prog.globals[0]?).map (·.type) = some 90 := by kernel_rfl
theorem starE : "*" ++ "errors.errorString" = "*errors.errorString" := by decide
theorem rowE (u : TypeId) (h : Tryd.prog.typeName? 3 u = some "*errors.errorString") : u = 113 :=
  typeName_ptr_named (nm := "errors.errorString") (by rw [starE]; kernel_rfl) (by kernel_rfl) (by decide) u (by rw [starE]; exact h)
theorem var_of_laid {W : World} (h : laidMetH Tryd.prog LD W) : ∃ ad : Addr, W.var? Tryd.prog "loop.example/g01313/impl.errNoEquation" = some #[.iface 113 (.pointer (some ad))] := by
  rw [MakeChecks.laidMetH_plain _ _ _ (by kernel_rfl)] at h
  obtain ⟨a0, s0, hv0, _⟩ := laid_sentinel h gE gT Tryd.underlying90 rowE Tryd.underlying113 Tryd.underlying135 rfl rfl Tryd.underlying9 (by kernel_rfl) (by kernel_rfl)
  exact ⟨a0, hv0⟩
theorem gv_of_var {W : World} {ad : Addr} (h : W.var? Tryd.prog "loop.example/g01313/impl.errNoEquation" = some #[.iface 113 (.pointer (some ad))]) : Gv W :=
  ⟨ad, by unfold Gat; simpa using World.var?_cell gE h 0⟩
theorem var_below {W W' : World} {cs : Array Value} (hv : W.var? Tryd.prog "loop.example/g01313/impl.errNoEquation" = some cs) (hb : Below W.heap.size W W') : W'.var? Tryd.prog "loop.example/g01313/impl.errNoEquation" = some cs := by
  unfold World.var? at hv ⊢
  rw [gE] at hv ⊢
  simp only [Option.bind_some] at hv ⊢
  have hlt : 0 < W.heap.size := by
    rcases Nat.lt_or_ge 0 W.heap.size with h' | h'
    · exact h'
    · simp [Array.getElem?_eq_none h'] at hv
  rw [hb.block _ hlt]
  exact hv
theorem door_met (os : Os) (args : Array Value) : laidMetH Tryd.prog LD ((World.doorLaid Tryd.prog 400 os).forCall (fun _ _ => 0) ⟨#[], args, []⟩).memory :=
  laidMetH_of_parts3 (fuel := 8) (laidMet_of_run' 8 (by kernel_rfl) (by kernel_rfl)) (by kernel_rfl) (by kernel_rfl)
/-- A tied card of a law that may start goroutines. -/
theorem tied_goes (Lk : Looks) {p : Pinned} {s : OpenSpec} {c : OpenClaim} (kinds : List LaidKind) (tests : Bool) (har : Bool × String) (lk : Bool)
    (hc : c.holds p s) (hw : c.wfByText s = true) (htie : c.laidByTextAt Lk p kinds tests)
    (hst : c.start = .entering) (hnb : c.noBlocks = false ∧ c.again = false) (hm : p.checked.prog.mainIs = some (har.1, har.2.toList)) (hn : (!har.1 && har.2.isEmpty && !lk) = false)
    (hl : ∀ f fn, p.checked.prog.funcNamed c.func = some f → p.checked.prog.funcs[f]? = some fn → lk = p.checked.prog.looks [] ∧ ∀ (j : Nat) t, fn.params[j]? = some t → p.checked.prog.wantsStandIn t = false)
    (hg : true = c.goesBy p.checked.prog) :
    Claim7.holds p (.plain s) { stood := { row := c, standIns := [], harness := har, looks := lk }, kinds := [], alts := [], goes := true, laidByText := true, laidKinds := kinds, laidTests := tests, laidLooks := Lk } := by
  have h6 : ∀ r : OpenClaim, Claim7.isSixth { stood := { row := r, standIns := [], harness := har, looks := lk }, kinds := [] } = false := fun r => by simpa [Claim7.isSixth] using hn
  exact ⟨Claim7.tied_new_at Lk kinds tests (Claim7.new_of_sixth hc har lk hst hnb hm (h6 c) hl) hw, (fun D hD => by cases hD), htie, (fun h => by cases h), hg⟩
end Go.Proofs.YtacffobbbcfbcaaDoor
