/-
  No cell of these rows narrows 'for every input' (looked for: loops, veiled, ifaces, maps, wideKeys, modest, calm, conditions, laid).
  DERIVED. THE GIVEN ROWS OF THIS SEAT. 11 by the template 'for every input the law returns true; each argument reads behind the call as it read before'; 0 by the template 'total and deterministic' (their statements: YtnhpodlcgkgpbaaTotals.lean).
  GIVEN WITH THE SEED: the statements are not yours to turn. If you find one false, say at which input.
  Laid BY PROGRAM, IN A SANDBOX (cutbox-rows.mjs): the forced cells as the released guide's own fill.sh prints them over the translation 78d408a582868982… (all of the seat's roots in one cut). By AI agents, Wed Nov 11 2026. No macro, syntax, notation, axiom, sorry.
-/
import Derived.Test.YtnhpodlcgkgpbaaChecked
import GoSem.Claim
import GoSem.ClaimJoined
import GoSem.ClaimMapViews
import Derived.JoinedTies
import Derived.KernelRfl
namespace Go.Proofs.Ytnhpodlcgkgpbaa
/- THE CELL 'sum', in the pinned program and in every row, IS THE sha256 OF THE DUMP (.gsa) THAT YtnhpodlcgkgpbaaProg.lean LOADS. Nothing in Lean hashes anything: it is a label: what it is worth is what the hold of that sum in a sandbox is worth. -/
noncomputable def Try.pinned : Pinned := { name := "ytnhpodlcgkgpbaa", sum := "78d408a582868982293285001e7c99474ccfa985bf36fd6cb526f11054d8bc3a", checked := Try.checked }
namespace Rows
def none {H : Type} : Left H := { results := [], args := [] }

/-- 'laws.FnExactNewDesk': WHATEVER THE INPUT: true; the input reads as it did. -/
def fnExactNewDeskSpec : ChangeSpec := { name := "fnExactNewDesk", fn := fun _ => fun
  | [] => { results := [.lit (.bool true)], args := [] }
  | _ => none }
def fnExactNewDeskRow : OpenClaim := { program := "ytnhpodlcgkgpbaa", sum := "78d408a582868982293285001e7c99474ccfa985bf36fd6cb526f11054d8bc3a", func := "loop.example/g01313/laws.FnExactNewDesk", spec := "fnExactNewDesk", apart := false }
def FnExactNewDeskSaid : Prop := fnExactNewDeskRow.holds Try.pinned (OpenSpec.ofChange fnExactNewDeskSpec)

/-- ITS FALSE NEIGHBOUR: 'it returns false'. Refute it at one input. -/
def fnExactNewDeskWrong : ChangeSpec := { name := "fnExactNewDesk", fn := fun _ => fun
  | [] => { results := [.lit (.bool false)], args := [] }
  | _ => none }
def FnExactNewDeskWrongFalsely : Prop := fnExactNewDeskRow.holds Try.pinned (OpenSpec.ofChange fnExactNewDeskWrong)

/-- 'laws.FnExactIsDesk': WHATEVER THE INPUT: true; the input reads as it did. -/
def fnExactIsDeskSpec : ChangeSpec := { name := "fnExactIsDesk", fn := fun _ => fun
  | [d] => { results := [.lit (.bool true)], args := [d] }
  | _ => none }
def fnExactIsDeskRow : OpenClaim := { program := "ytnhpodlcgkgpbaa", sum := "78d408a582868982293285001e7c99474ccfa985bf36fd6cb526f11054d8bc3a", func := "loop.example/g01313/laws.FnExactIsDesk", spec := "fnExactIsDesk", apart := false }
def FnExactIsDeskSaid : Prop := fnExactIsDeskRow.holds Try.pinned (OpenSpec.ofChange fnExactIsDeskSpec)

/-- ITS FALSE NEIGHBOUR: 'it returns false'. Refute it at one input. -/
def fnExactIsDeskWrong : ChangeSpec := { name := "fnExactIsDesk", fn := fun _ => fun
  | [d] => { results := [.lit (.bool false)], args := [d] }
  | _ => none }
def FnExactIsDeskWrongFalsely : Prop := fnExactIsDeskRow.holds Try.pinned (OpenSpec.ofChange fnExactIsDeskWrong)

/-- 'laws.FnRings': WHATEVER THE INPUT: true; the input reads as it did. -/
def fnRingsSpec : ChangeSpec := { name := "fnRings", fn := fun _ => fun
  | [d] => { results := [.lit (.bool true)], args := [d] }
  | _ => none }
def fnRingsRow : OpenClaim := { program := "ytnhpodlcgkgpbaa", sum := "78d408a582868982293285001e7c99474ccfa985bf36fd6cb526f11054d8bc3a", func := "loop.example/g01313/laws.FnRings", spec := "fnRings", apart := false }
def FnRingsSaid : Prop := fnRingsRow.holds Try.pinned (OpenSpec.ofChange fnRingsSpec)

/-- ITS FALSE NEIGHBOUR: 'it returns false'. Refute it at one input. -/
def fnRingsWrong : ChangeSpec := { name := "fnRings", fn := fun _ => fun
  | [d] => { results := [.lit (.bool false)], args := [d] }
  | _ => none }
def FnRingsWrongFalsely : Prop := fnRingsRow.holds Try.pinned (OpenSpec.ofChange fnRingsWrong)

/-- 'laws.FnStickelberger': WHATEVER THE INPUT: true; the input reads as it did. -/
def fnStickelbergerSpec : ChangeSpec := { name := "fnStickelberger", fn := fun _ => fun
  | [d] => { results := [.lit (.bool true)], args := [d] }
  | _ => none }
def fnStickelbergerRow : OpenClaim := { program := "ytnhpodlcgkgpbaa", sum := "78d408a582868982293285001e7c99474ccfa985bf36fd6cb526f11054d8bc3a", func := "loop.example/g01313/laws.FnStickelberger", spec := "fnStickelberger", unfollowed := true, recurses := true, apart := false }
def FnStickelbergerSaid : Prop := fnStickelbergerRow.holds Try.pinned (OpenSpec.ofChange fnStickelbergerSpec)

/-- ITS FALSE NEIGHBOUR: 'it returns false'. Refute it at one input. -/
def fnStickelbergerWrong : ChangeSpec := { name := "fnStickelberger", fn := fun _ => fun
  | [d] => { results := [.lit (.bool false)], args := [d] }
  | _ => none }
def FnStickelbergerWrongFalsely : Prop := fnStickelbergerRow.holds Try.pinned (OpenSpec.ofChange fnStickelbergerWrong)

/-- 'laws.FnBernoulli': WHATEVER THE INPUT: true; the input reads as it did. -/
def fnBernoulliSpec : ChangeSpec := { name := "fnBernoulli", fn := fun _ => fun
  | [d] => { results := [.lit (.bool true)], args := [d] }
  | _ => none }
def fnBernoulliRow : OpenClaim := { program := "ytnhpodlcgkgpbaa", sum := "78d408a582868982293285001e7c99474ccfa985bf36fd6cb526f11054d8bc3a", func := "loop.example/g01313/laws.FnBernoulli", spec := "fnBernoulli", unfollowed := true, recurses := true, apart := false }
def FnBernoulliSaid : Prop := fnBernoulliRow.holds Try.pinned (OpenSpec.ofChange fnBernoulliSpec)

/-- ITS FALSE NEIGHBOUR: 'it returns false'. Refute it at one input. -/
def fnBernoulliWrong : ChangeSpec := { name := "fnBernoulli", fn := fun _ => fun
  | [d] => { results := [.lit (.bool false)], args := [d] }
  | _ => none }
def FnBernoulliWrongFalsely : Prop := fnBernoulliRow.holds Try.pinned (OpenSpec.ofChange fnBernoulliWrong)

/-- 'laws.FnExactDivideCubic': WHATEVER THE INPUT: true; the input reads as it did. -/
def fnExactDivideCubicSpec : ChangeSpec := { name := "fnExactDivideCubic", fn := fun _ => fun
  | [d1, d2] => { results := [.lit (.bool true)], args := [d1, d2] }
  | _ => none }
def fnExactDivideCubicRow : OpenClaim := { program := "ytnhpodlcgkgpbaa", sum := "78d408a582868982293285001e7c99474ccfa985bf36fd6cb526f11054d8bc3a", func := "loop.example/g01313/laws.FnExactDivideCubic", spec := "fnExactDivideCubic", unfollowed := true, recurses := true, apart := false }
def FnExactDivideCubicSaid : Prop := fnExactDivideCubicRow.holds Try.pinned (OpenSpec.ofChange fnExactDivideCubicSpec)

/-- ITS FALSE NEIGHBOUR: 'it returns false'. Refute it at one input. -/
def fnExactDivideCubicWrong : ChangeSpec := { name := "fnExactDivideCubic", fn := fun _ => fun
  | [d1, d2] => { results := [.lit (.bool false)], args := [d1, d2] }
  | _ => none }
def FnExactDivideCubicWrongFalsely : Prop := fnExactDivideCubicRow.holds Try.pinned (OpenSpec.ofChange fnExactDivideCubicWrong)

/-- 'laws.FnExactPrimesOfNorm': WHATEVER THE INPUT: true; the input reads as it did. -/
def fnExactPrimesOfNormSpec : ChangeSpec := { name := "fnExactPrimesOfNorm", fn := fun _ => fun
  | [d] => { results := [.lit (.bool true)], args := [d] }
  | _ => none }
def fnExactPrimesOfNormRow : OpenClaim := { program := "ytnhpodlcgkgpbaa", sum := "78d408a582868982293285001e7c99474ccfa985bf36fd6cb526f11054d8bc3a", func := "loop.example/g01313/laws.FnExactPrimesOfNorm", spec := "fnExactPrimesOfNorm", unfollowed := true, recurses := true, apart := false }
def FnExactPrimesOfNormSaid : Prop := fnExactPrimesOfNormRow.holds Try.pinned (OpenSpec.ofChange fnExactPrimesOfNormSpec)

/-- ITS FALSE NEIGHBOUR: 'it returns false'. Refute it at one input. -/
def fnExactPrimesOfNormWrong : ChangeSpec := { name := "fnExactPrimesOfNorm", fn := fun _ => fun
  | [d] => { results := [.lit (.bool false)], args := [d] }
  | _ => none }
def FnExactPrimesOfNormWrongFalsely : Prop := fnExactPrimesOfNormRow.holds Try.pinned (OpenSpec.ofChange fnExactPrimesOfNormWrong)

/-- 'laws.FnExactReducedStickelberger': WHATEVER THE INPUT: true; the input reads as it did. -/
def fnExactReducedStickelbergerSpec : ChangeSpec := { name := "fnExactReducedStickelberger", fn := fun _ => fun
  | [d1, d2] => { results := [.lit (.bool true)], args := [d1, d2] }
  | _ => none }
def fnExactReducedStickelbergerRow : OpenClaim := { program := "ytnhpodlcgkgpbaa", sum := "78d408a582868982293285001e7c99474ccfa985bf36fd6cb526f11054d8bc3a", func := "loop.example/g01313/laws.FnExactReducedStickelberger", spec := "fnExactReducedStickelberger", unfollowed := true, recurses := true, apart := false }
def FnExactReducedStickelbergerSaid : Prop := fnExactReducedStickelbergerRow.holds Try.pinned (OpenSpec.ofChange fnExactReducedStickelbergerSpec)

/-- ITS FALSE NEIGHBOUR: 'it returns false'. Refute it at one input. -/
def fnExactReducedStickelbergerWrong : ChangeSpec := { name := "fnExactReducedStickelberger", fn := fun _ => fun
  | [d1, d2] => { results := [.lit (.bool false)], args := [d1, d2] }
  | _ => none }
def FnExactReducedStickelbergerWrongFalsely : Prop := fnExactReducedStickelbergerRow.holds Try.pinned (OpenSpec.ofChange fnExactReducedStickelbergerWrong)

/-- 'laws.FnExactActOnCyclo': WHATEVER THE INPUT: true; the input reads as it did. -/
def fnExactActOnCycloSpec : ChangeSpec := { name := "fnExactActOnCyclo", fn := fun _ => fun
  | [d1, d2] => { results := [.lit (.bool true)], args := [d1, d2] }
  | _ => none }
def fnExactActOnCycloRow : OpenClaim := { program := "ytnhpodlcgkgpbaa", sum := "78d408a582868982293285001e7c99474ccfa985bf36fd6cb526f11054d8bc3a", func := "loop.example/g01313/laws.FnExactActOnCyclo", spec := "fnExactActOnCyclo", recurses := true, apart := false }
def FnExactActOnCycloSaid : Prop := fnExactActOnCycloRow.holds Try.pinned (OpenSpec.ofChange fnExactActOnCycloSpec)

/-- ITS FALSE NEIGHBOUR: 'it returns false'. Refute it at one input. -/
def fnExactActOnCycloWrong : ChangeSpec := { name := "fnExactActOnCyclo", fn := fun _ => fun
  | [d1, d2] => { results := [.lit (.bool false)], args := [d1, d2] }
  | _ => none }
def FnExactActOnCycloWrongFalsely : Prop := fnExactActOnCycloRow.holds Try.pinned (OpenSpec.ofChange fnExactActOnCycloWrong)

/-- 'laws.FnExactBernoulliOf': WHATEVER THE INPUT: true; the input reads as it did. -/
def fnExactBernoulliOfSpec : ChangeSpec := { name := "fnExactBernoulliOf", fn := fun _ => fun
  | [d] => { results := [.lit (.bool true)], args := [d] }
  | _ => none }
def fnExactBernoulliOfRow : OpenClaim := { program := "ytnhpodlcgkgpbaa", sum := "78d408a582868982293285001e7c99474ccfa985bf36fd6cb526f11054d8bc3a", func := "loop.example/g01313/laws.FnExactBernoulliOf", spec := "fnExactBernoulliOf", unfollowed := true, recurses := true, apart := false }
def FnExactBernoulliOfSaid : Prop := fnExactBernoulliOfRow.holds Try.pinned (OpenSpec.ofChange fnExactBernoulliOfSpec)

/-- ITS FALSE NEIGHBOUR: 'it returns false'. Refute it at one input. -/
def fnExactBernoulliOfWrong : ChangeSpec := { name := "fnExactBernoulliOf", fn := fun _ => fun
  | [d] => { results := [.lit (.bool false)], args := [d] }
  | _ => none }
def FnExactBernoulliOfWrongFalsely : Prop := fnExactBernoulliOfRow.holds Try.pinned (OpenSpec.ofChange fnExactBernoulliOfWrong)

/-- 'laws.FnExactCyclotomicUnit': WHATEVER THE INPUT: true; the input reads as it did. -/
def fnExactCyclotomicUnitSpec : ChangeSpec := { name := "fnExactCyclotomicUnit", fn := fun _ => fun
  | [d1, d2] => { results := [.lit (.bool true)], args := [d1, d2] }
  | _ => none }
def fnExactCyclotomicUnitRow : OpenClaim := { program := "ytnhpodlcgkgpbaa", sum := "78d408a582868982293285001e7c99474ccfa985bf36fd6cb526f11054d8bc3a", func := "loop.example/g01313/laws.FnExactCyclotomicUnit", spec := "fnExactCyclotomicUnit", recurses := true, apart := false }
def FnExactCyclotomicUnitSaid : Prop := fnExactCyclotomicUnitRow.holds Try.pinned (OpenSpec.ofChange fnExactCyclotomicUnitSpec)

/-- ITS FALSE NEIGHBOUR: 'it returns false'. Refute it at one input. -/
def fnExactCyclotomicUnitWrong : ChangeSpec := { name := "fnExactCyclotomicUnit", fn := fun _ => fun
  | [d1, d2] => { results := [.lit (.bool false)], args := [d1, d2] }
  | _ => none }
def FnExactCyclotomicUnitWrongFalsely : Prop := fnExactCyclotomicUnitRow.holds Try.pinned (OpenSpec.ofChange fnExactCyclotomicUnitWrong)

/- THE SECOND FORM. 'bulk': how many values and letters a reading holds, each counted each time it is reached (what is shared counts as often as it is met; a slice's spare places count too). A statement '..UptoSaid' is the law's where the arguments, and the package variables that the reading takes, are together of bulk at most 1048576: NARROWER than '..Said'. Prove '..Said' where nothing that the law and all that it calls make is longer than what came in: it says more and counts as full. Else prove '..UptoSaid'. A law counts once. -/
mutual
def uptoBulk {H : Type} : DataW H → Nat
  | .lit (.string bytes) => bytes.length + 1
  | .lit _ => 1
  | .nil => 1
  | .ptr d => uptoBulk d + 1
  | .slice elems spare => uptoBulkAll elems + uptoBulkAll spare + 1
  | .agg parts => uptoBulkAll parts + 1
  | .iface _ d => uptoBulk d + 1
  | .map entries => uptoBulkEntries entries + 1
  | .held _ => 1
def uptoBulkAll {H : Type} : List (DataW H) → Nat
  | [] => 0
  | d :: r => uptoBulk d + uptoBulkAll r
def uptoBulkEntries {H : Type} : List (Lit × DataW H) → Nat
  | [] => 0
  | x :: r => uptoBulkEntry x + uptoBulkEntries r
def uptoBulkEntry {H : Type} : Lit × DataW H → Nat
  | (.string bytes, d) => bytes.length + uptoBulk d + 1
  | (_, d) => uptoBulk d + 1
 end
def uptoSmall : (H : Type) → List (DataW H) → Bool := fun _ ds => decide (uptoBulkAll ds ≤ 1048576)
def OpenSpec.upto (s : _root_.Go.ChangeSpec) : _root_.Go.OpenSpec := { _root_.Go.OpenSpec.ofChange s with cond := some uptoSmall }

/-- 'laws.FnExactNewDesk', WHERE WHAT IT READS IS OF BULK AT MOST 1048576: true; the input reads as it did. -/
def fnExactNewDeskUptoRow : OpenClaim := { program := "ytnhpodlcgkgpbaa", sum := "78d408a582868982293285001e7c99474ccfa985bf36fd6cb526f11054d8bc3a", func := "loop.example/g01313/laws.FnExactNewDesk", spec := "fnExactNewDesk", apart := false, narrowed := true }
def FnExactNewDeskUptoSaid : Prop := fnExactNewDeskUptoRow.holds Try.pinned (OpenSpec.upto fnExactNewDeskSpec)

/-- 'laws.FnExactIsDesk', WHERE WHAT IT READS IS OF BULK AT MOST 1048576: true; the input reads as it did. -/
def fnExactIsDeskUptoRow : OpenClaim := { program := "ytnhpodlcgkgpbaa", sum := "78d408a582868982293285001e7c99474ccfa985bf36fd6cb526f11054d8bc3a", func := "loop.example/g01313/laws.FnExactIsDesk", spec := "fnExactIsDesk", apart := false, narrowed := true }
def FnExactIsDeskUptoSaid : Prop := fnExactIsDeskUptoRow.holds Try.pinned (OpenSpec.upto fnExactIsDeskSpec)

/-- 'laws.FnRings', WHERE WHAT IT READS IS OF BULK AT MOST 1048576: true; the input reads as it did. -/
def fnRingsUptoRow : OpenClaim := { program := "ytnhpodlcgkgpbaa", sum := "78d408a582868982293285001e7c99474ccfa985bf36fd6cb526f11054d8bc3a", func := "loop.example/g01313/laws.FnRings", spec := "fnRings", apart := false, narrowed := true }
def FnRingsUptoSaid : Prop := fnRingsUptoRow.holds Try.pinned (OpenSpec.upto fnRingsSpec)

/-- 'laws.FnStickelberger', WHERE WHAT IT READS IS OF BULK AT MOST 1048576: true; the input reads as it did. -/
def fnStickelbergerUptoRow : OpenClaim := { program := "ytnhpodlcgkgpbaa", sum := "78d408a582868982293285001e7c99474ccfa985bf36fd6cb526f11054d8bc3a", func := "loop.example/g01313/laws.FnStickelberger", spec := "fnStickelberger", unfollowed := true, recurses := true, apart := false, narrowed := true }
def FnStickelbergerUptoSaid : Prop := fnStickelbergerUptoRow.holds Try.pinned (OpenSpec.upto fnStickelbergerSpec)

/-- 'laws.FnBernoulli', WHERE WHAT IT READS IS OF BULK AT MOST 1048576: true; the input reads as it did. -/
def fnBernoulliUptoRow : OpenClaim := { program := "ytnhpodlcgkgpbaa", sum := "78d408a582868982293285001e7c99474ccfa985bf36fd6cb526f11054d8bc3a", func := "loop.example/g01313/laws.FnBernoulli", spec := "fnBernoulli", unfollowed := true, recurses := true, apart := false, narrowed := true }
def FnBernoulliUptoSaid : Prop := fnBernoulliUptoRow.holds Try.pinned (OpenSpec.upto fnBernoulliSpec)

/-- 'laws.FnExactDivideCubic', WHERE WHAT IT READS IS OF BULK AT MOST 1048576: true; the input reads as it did. -/
def fnExactDivideCubicUptoRow : OpenClaim := { program := "ytnhpodlcgkgpbaa", sum := "78d408a582868982293285001e7c99474ccfa985bf36fd6cb526f11054d8bc3a", func := "loop.example/g01313/laws.FnExactDivideCubic", spec := "fnExactDivideCubic", unfollowed := true, recurses := true, apart := false, narrowed := true }
def FnExactDivideCubicUptoSaid : Prop := fnExactDivideCubicUptoRow.holds Try.pinned (OpenSpec.upto fnExactDivideCubicSpec)

/-- 'laws.FnExactPrimesOfNorm', WHERE WHAT IT READS IS OF BULK AT MOST 1048576: true; the input reads as it did. -/
def fnExactPrimesOfNormUptoRow : OpenClaim := { program := "ytnhpodlcgkgpbaa", sum := "78d408a582868982293285001e7c99474ccfa985bf36fd6cb526f11054d8bc3a", func := "loop.example/g01313/laws.FnExactPrimesOfNorm", spec := "fnExactPrimesOfNorm", unfollowed := true, recurses := true, apart := false, narrowed := true }
def FnExactPrimesOfNormUptoSaid : Prop := fnExactPrimesOfNormUptoRow.holds Try.pinned (OpenSpec.upto fnExactPrimesOfNormSpec)

/-- 'laws.FnExactReducedStickelberger', WHERE WHAT IT READS IS OF BULK AT MOST 1048576: true; the input reads as it did. -/
def fnExactReducedStickelbergerUptoRow : OpenClaim := { program := "ytnhpodlcgkgpbaa", sum := "78d408a582868982293285001e7c99474ccfa985bf36fd6cb526f11054d8bc3a", func := "loop.example/g01313/laws.FnExactReducedStickelberger", spec := "fnExactReducedStickelberger", unfollowed := true, recurses := true, apart := false, narrowed := true }
def FnExactReducedStickelbergerUptoSaid : Prop := fnExactReducedStickelbergerUptoRow.holds Try.pinned (OpenSpec.upto fnExactReducedStickelbergerSpec)

/-- 'laws.FnExactActOnCyclo', WHERE WHAT IT READS IS OF BULK AT MOST 1048576: true; the input reads as it did. -/
def fnExactActOnCycloUptoRow : OpenClaim := { program := "ytnhpodlcgkgpbaa", sum := "78d408a582868982293285001e7c99474ccfa985bf36fd6cb526f11054d8bc3a", func := "loop.example/g01313/laws.FnExactActOnCyclo", spec := "fnExactActOnCyclo", recurses := true, apart := false, narrowed := true }
def FnExactActOnCycloUptoSaid : Prop := fnExactActOnCycloUptoRow.holds Try.pinned (OpenSpec.upto fnExactActOnCycloSpec)

/-- 'laws.FnExactBernoulliOf', WHERE WHAT IT READS IS OF BULK AT MOST 1048576: true; the input reads as it did. -/
def fnExactBernoulliOfUptoRow : OpenClaim := { program := "ytnhpodlcgkgpbaa", sum := "78d408a582868982293285001e7c99474ccfa985bf36fd6cb526f11054d8bc3a", func := "loop.example/g01313/laws.FnExactBernoulliOf", spec := "fnExactBernoulliOf", unfollowed := true, recurses := true, apart := false, narrowed := true }
def FnExactBernoulliOfUptoSaid : Prop := fnExactBernoulliOfUptoRow.holds Try.pinned (OpenSpec.upto fnExactBernoulliOfSpec)

/-- 'laws.FnExactCyclotomicUnit', WHERE WHAT IT READS IS OF BULK AT MOST 1048576: true; the input reads as it did. -/
def fnExactCyclotomicUnitUptoRow : OpenClaim := { program := "ytnhpodlcgkgpbaa", sum := "78d408a582868982293285001e7c99474ccfa985bf36fd6cb526f11054d8bc3a", func := "loop.example/g01313/laws.FnExactCyclotomicUnit", spec := "fnExactCyclotomicUnit", recurses := true, apart := false, narrowed := true }
def FnExactCyclotomicUnitUptoSaid : Prop := fnExactCyclotomicUnitUptoRow.holds Try.pinned (OpenSpec.upto fnExactCyclotomicUnitSpec)

end Rows
end Go.Proofs.Ytnhpodlcgkgpbaa
