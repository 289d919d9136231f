/-
  No cell of these rows narrows 'for every input' (looked for: loops, veiled, ifaces, maps, wideKeys, modest, calm, conditions, laid).
  DERIVED. THE GIVEN ROWS OF THIS SEAT. 8 by the template 'for every input the law returns true; each argument reads behind the call as it read before'; 0 by the template 'total and deterministic' (their statements: YtdalahgfpbdilaaTotals.lean).
  GIVEN WITH THE SEED: the statements are not yours to turn. If you find one false, say at which input.
  Laid BY PROGRAM, IN A SANDBOX (cutbox-rows.mjs): the forced cells as the released guide's own fill.sh prints them over the translation 62718cc48c23f8a9… (all of the seat's roots in one cut). By AI agents, Wed Nov 11 2026. No macro, syntax, notation, axiom, sorry.
-/
import Derived.Test.YtdalahgfpbdilaaChecked
import GoSem.Claim
import GoSem.ClaimJoined
import GoSem.ClaimMapViews
import Derived.JoinedTies
import Derived.KernelRfl
namespace Go.Proofs.Ytdalahgfpbdilaa
/- THE CELL 'sum', in the pinned program and in every row, IS THE sha256 OF THE DUMP (.gsa) THAT YtdalahgfpbdilaaProg.lean LOADS. Nothing in Lean hashes anything: it is a label: what it is worth is what the hold of that sum in a sandbox is worth. -/
noncomputable def Try.pinned : Pinned := { name := "ytdalahgfpbdilaa", sum := "62718cc48c23f8a9ed9acd970fb6b747b1f58dfff8b48db12cd251e8126698a0", checked := Try.checked }
namespace Rows
def none {H : Type} : Left H := { results := [], args := [] }

/-- 'laws.FnExactCharacteristicOf': WHATEVER THE INPUT: true; the input reads as it did. -/
def fnExactCharacteristicOfSpec : ChangeSpec := { name := "fnExactCharacteristicOf", fn := fun _ => fun
  | [d] => { results := [.lit (.bool true)], args := [d] }
  | _ => none }
def fnExactCharacteristicOfRow : OpenClaim := { program := "ytdalahgfpbdilaa", sum := "62718cc48c23f8a9ed9acd970fb6b747b1f58dfff8b48db12cd251e8126698a0", func := "loop.example/g01313/laws.FnExactCharacteristicOf", spec := "fnExactCharacteristicOf", recurses := true, plainKeys := false, apart := false }
def FnExactCharacteristicOfSaid : Prop := fnExactCharacteristicOfRow.holds Try.pinned (OpenSpec.ofChange fnExactCharacteristicOfSpec)

/-- ITS FALSE NEIGHBOUR: 'it returns false'. Refute it at one input. -/
def fnExactCharacteristicOfWrong : ChangeSpec := { name := "fnExactCharacteristicOf", fn := fun _ => fun
  | [d] => { results := [.lit (.bool false)], args := [d] }
  | _ => none }
def FnExactCharacteristicOfWrongFalsely : Prop := fnExactCharacteristicOfRow.holds Try.pinned (OpenSpec.ofChange fnExactCharacteristicOfWrong)

/-- 'laws.FnExactMinimalOf': WHATEVER THE INPUT: true; the input reads as it did. -/
def fnExactMinimalOfSpec : ChangeSpec := { name := "fnExactMinimalOf", fn := fun _ => fun
  | [d] => { results := [.lit (.bool true)], args := [d] }
  | _ => none }
def fnExactMinimalOfRow : OpenClaim := { program := "ytdalahgfpbdilaa", sum := "62718cc48c23f8a9ed9acd970fb6b747b1f58dfff8b48db12cd251e8126698a0", func := "loop.example/g01313/laws.FnExactMinimalOf", spec := "fnExactMinimalOf", recurses := true, plainKeys := false, apart := false }
def FnExactMinimalOfSaid : Prop := fnExactMinimalOfRow.holds Try.pinned (OpenSpec.ofChange fnExactMinimalOfSpec)

/-- ITS FALSE NEIGHBOUR: 'it returns false'. Refute it at one input. -/
def fnExactMinimalOfWrong : ChangeSpec := { name := "fnExactMinimalOf", fn := fun _ => fun
  | [d] => { results := [.lit (.bool false)], args := [d] }
  | _ => none }
def FnExactMinimalOfWrongFalsely : Prop := fnExactMinimalOfRow.holds Try.pinned (OpenSpec.ofChange fnExactMinimalOfWrong)

/-- 'laws.FnCharacters': WHATEVER THE INPUT: true; the input reads as it did. -/
def fnCharactersSpec : ChangeSpec := { name := "fnCharacters", fn := fun _ => fun
  | [d] => { results := [.lit (.bool true)], args := [d] }
  | _ => none }
def fnCharactersRow : OpenClaim := { program := "ytdalahgfpbdilaa", sum := "62718cc48c23f8a9ed9acd970fb6b747b1f58dfff8b48db12cd251e8126698a0", func := "loop.example/g01313/laws.FnCharacters", spec := "fnCharacters", unfollowed := true, recurses := true, plainKeys := false, apart := false }
def FnCharactersSaid : Prop := fnCharactersRow.holds Try.pinned (OpenSpec.ofChange fnCharactersSpec)

/-- ITS FALSE NEIGHBOUR: 'it returns false'. Refute it at one input. -/
def fnCharactersWrong : ChangeSpec := { name := "fnCharacters", fn := fun _ => fun
  | [d] => { results := [.lit (.bool false)], args := [d] }
  | _ => none }
def FnCharactersWrongFalsely : Prop := fnCharactersRow.holds Try.pinned (OpenSpec.ofChange fnCharactersWrong)

/-- 'laws.FnCharacterSums': WHATEVER THE INPUT: true; the input reads as it did. -/
def fnCharacterSumsSpec : ChangeSpec := { name := "fnCharacterSums", fn := fun _ => fun
  | [d] => { results := [.lit (.bool true)], args := [d] }
  | _ => none }
def fnCharacterSumsRow : OpenClaim := { program := "ytdalahgfpbdilaa", sum := "62718cc48c23f8a9ed9acd970fb6b747b1f58dfff8b48db12cd251e8126698a0", func := "loop.example/g01313/laws.FnCharacterSums", spec := "fnCharacterSums", unfollowed := true, recurses := true, plainKeys := false, apart := false }
def FnCharacterSumsSaid : Prop := fnCharacterSumsRow.holds Try.pinned (OpenSpec.ofChange fnCharacterSumsSpec)

/-- ITS FALSE NEIGHBOUR: 'it returns false'. Refute it at one input. -/
def fnCharacterSumsWrong : ChangeSpec := { name := "fnCharacterSums", fn := fun _ => fun
  | [d] => { results := [.lit (.bool false)], args := [d] }
  | _ => none }
def FnCharacterSumsWrongFalsely : Prop := fnCharacterSumsRow.holds Try.pinned (OpenSpec.ofChange fnCharacterSumsWrong)

/-- 'laws.FnNorms': WHATEVER THE INPUT: true; the input reads as it did. -/
def fnNormsSpec : ChangeSpec := { name := "fnNorms", fn := fun _ => fun
  | [d] => { results := [.lit (.bool true)], args := [d] }
  | _ => none }
def fnNormsRow : OpenClaim := { program := "ytdalahgfpbdilaa", sum := "62718cc48c23f8a9ed9acd970fb6b747b1f58dfff8b48db12cd251e8126698a0", func := "loop.example/g01313/laws.FnNorms", spec := "fnNorms", recurses := true, plainKeys := false, apart := false }
def FnNormsSaid : Prop := fnNormsRow.holds Try.pinned (OpenSpec.ofChange fnNormsSpec)

/-- ITS FALSE NEIGHBOUR: 'it returns false'. Refute it at one input. -/
def fnNormsWrong : ChangeSpec := { name := "fnNorms", fn := fun _ => fun
  | [d] => { results := [.lit (.bool false)], args := [d] }
  | _ => none }
def FnNormsWrongFalsely : Prop := fnNormsRow.holds Try.pinned (OpenSpec.ofChange fnNormsWrong)

/-- 'laws.FnMinimal': WHATEVER THE INPUT: true; the input reads as it did. -/
def fnMinimalSpec : ChangeSpec := { name := "fnMinimal", fn := fun _ => fun
  | [d] => { results := [.lit (.bool true)], args := [d] }
  | _ => none }
def fnMinimalRow : OpenClaim := { program := "ytdalahgfpbdilaa", sum := "62718cc48c23f8a9ed9acd970fb6b747b1f58dfff8b48db12cd251e8126698a0", func := "loop.example/g01313/laws.FnMinimal", spec := "fnMinimal", recurses := true, plainKeys := false, apart := false }
def FnMinimalSaid : Prop := fnMinimalRow.holds Try.pinned (OpenSpec.ofChange fnMinimalSpec)

/-- ITS FALSE NEIGHBOUR: 'it returns false'. Refute it at one input. -/
def fnMinimalWrong : ChangeSpec := { name := "fnMinimal", fn := fun _ => fun
  | [d] => { results := [.lit (.bool false)], args := [d] }
  | _ => none }
def FnMinimalWrongFalsely : Prop := fnMinimalRow.holds Try.pinned (OpenSpec.ofChange fnMinimalWrong)

/-- 'laws.FnDivision': WHATEVER THE INPUT: true; the input reads as it did. -/
def fnDivisionSpec : ChangeSpec := { name := "fnDivision", fn := fun _ => fun
  | [d] => { results := [.lit (.bool true)], args := [d] }
  | _ => none }
def fnDivisionRow : OpenClaim := { program := "ytdalahgfpbdilaa", sum := "62718cc48c23f8a9ed9acd970fb6b747b1f58dfff8b48db12cd251e8126698a0", func := "loop.example/g01313/laws.FnDivision", spec := "fnDivision", recurses := true, plainKeys := false, apart := false }
def FnDivisionSaid : Prop := fnDivisionRow.holds Try.pinned (OpenSpec.ofChange fnDivisionSpec)

/-- ITS FALSE NEIGHBOUR: 'it returns false'. Refute it at one input. -/
def fnDivisionWrong : ChangeSpec := { name := "fnDivision", fn := fun _ => fun
  | [d] => { results := [.lit (.bool false)], args := [d] }
  | _ => none }
def FnDivisionWrongFalsely : Prop := fnDivisionRow.holds Try.pinned (OpenSpec.ofChange fnDivisionWrong)

/-- 'laws.FnGalois': WHATEVER THE INPUT: true; the input reads as it did. -/
def fnGaloisSpec : ChangeSpec := { name := "fnGalois", fn := fun _ => fun
  | [d] => { results := [.lit (.bool true)], args := [d] }
  | _ => none }
def fnGaloisRow : OpenClaim := { program := "ytdalahgfpbdilaa", sum := "62718cc48c23f8a9ed9acd970fb6b747b1f58dfff8b48db12cd251e8126698a0", func := "loop.example/g01313/laws.FnGalois", spec := "fnGalois", recurses := true, plainKeys := false, apart := false }
def FnGaloisSaid : Prop := fnGaloisRow.holds Try.pinned (OpenSpec.ofChange fnGaloisSpec)

/-- ITS FALSE NEIGHBOUR: 'it returns false'. Refute it at one input. -/
def fnGaloisWrong : ChangeSpec := { name := "fnGalois", fn := fun _ => fun
  | [d] => { results := [.lit (.bool false)], args := [d] }
  | _ => none }
def FnGaloisWrongFalsely : Prop := fnGaloisRow.holds Try.pinned (OpenSpec.ofChange fnGaloisWrong)

/- THE SECOND FORM. 'bulk': how many values and letters a reading holds, each counted each time it is reached (what is shared counts as often as it is met; a slice's spare places count too). A statement '..UptoSaid' is the law's where the arguments, and the package variables that the reading takes, are together of bulk at most 1048576: NARROWER than '..Said'. Prove '..Said' where nothing that the law and all that it calls make is longer than what came in: it says more and counts as full. Else prove '..UptoSaid'. A law counts once. -/
mutual
def uptoBulk {H : Type} : DataW H → Nat
  | .lit (.string bytes) => bytes.length + 1
  | .lit _ => 1
  | .nil => 1
  | .ptr d => uptoBulk d + 1
  | .slice elems spare => uptoBulkAll elems + uptoBulkAll spare + 1
  | .agg parts => uptoBulkAll parts + 1
  | .iface _ d => uptoBulk d + 1
  | .map entries => uptoBulkEntries entries + 1
  | .held _ => 1
def uptoBulkAll {H : Type} : List (DataW H) → Nat
  | [] => 0
  | d :: r => uptoBulk d + uptoBulkAll r
def uptoBulkEntries {H : Type} : List (Lit × DataW H) → Nat
  | [] => 0
  | x :: r => uptoBulkEntry x + uptoBulkEntries r
def uptoBulkEntry {H : Type} : Lit × DataW H → Nat
  | (.string bytes, d) => bytes.length + uptoBulk d + 1
  | (_, d) => uptoBulk d + 1
 end
def uptoSmall : (H : Type) → List (DataW H) → Bool := fun _ ds => decide (uptoBulkAll ds ≤ 1048576)
def OpenSpec.upto (s : _root_.Go.ChangeSpec) : _root_.Go.OpenSpec := { _root_.Go.OpenSpec.ofChange s with cond := some uptoSmall }

/-- 'laws.FnExactCharacteristicOf', WHERE WHAT IT READS IS OF BULK AT MOST 1048576: true; the input reads as it did. -/
def fnExactCharacteristicOfUptoRow : OpenClaim := { program := "ytdalahgfpbdilaa", sum := "62718cc48c23f8a9ed9acd970fb6b747b1f58dfff8b48db12cd251e8126698a0", func := "loop.example/g01313/laws.FnExactCharacteristicOf", spec := "fnExactCharacteristicOf", recurses := true, plainKeys := false, apart := false, narrowed := true }
def FnExactCharacteristicOfUptoSaid : Prop := fnExactCharacteristicOfUptoRow.holds Try.pinned (OpenSpec.upto fnExactCharacteristicOfSpec)

/-- 'laws.FnExactMinimalOf', WHERE WHAT IT READS IS OF BULK AT MOST 1048576: true; the input reads as it did. -/
def fnExactMinimalOfUptoRow : OpenClaim := { program := "ytdalahgfpbdilaa", sum := "62718cc48c23f8a9ed9acd970fb6b747b1f58dfff8b48db12cd251e8126698a0", func := "loop.example/g01313/laws.FnExactMinimalOf", spec := "fnExactMinimalOf", recurses := true, plainKeys := false, apart := false, narrowed := true }
def FnExactMinimalOfUptoSaid : Prop := fnExactMinimalOfUptoRow.holds Try.pinned (OpenSpec.upto fnExactMinimalOfSpec)

/-- 'laws.FnCharacters', WHERE WHAT IT READS IS OF BULK AT MOST 1048576: true; the input reads as it did. -/
def fnCharactersUptoRow : OpenClaim := { program := "ytdalahgfpbdilaa", sum := "62718cc48c23f8a9ed9acd970fb6b747b1f58dfff8b48db12cd251e8126698a0", func := "loop.example/g01313/laws.FnCharacters", spec := "fnCharacters", unfollowed := true, recurses := true, plainKeys := false, apart := false, narrowed := true }
def FnCharactersUptoSaid : Prop := fnCharactersUptoRow.holds Try.pinned (OpenSpec.upto fnCharactersSpec)

/-- 'laws.FnCharacterSums', WHERE WHAT IT READS IS OF BULK AT MOST 1048576: true; the input reads as it did. -/
def fnCharacterSumsUptoRow : OpenClaim := { program := "ytdalahgfpbdilaa", sum := "62718cc48c23f8a9ed9acd970fb6b747b1f58dfff8b48db12cd251e8126698a0", func := "loop.example/g01313/laws.FnCharacterSums", spec := "fnCharacterSums", unfollowed := true, recurses := true, plainKeys := false, apart := false, narrowed := true }
def FnCharacterSumsUptoSaid : Prop := fnCharacterSumsUptoRow.holds Try.pinned (OpenSpec.upto fnCharacterSumsSpec)

/-- 'laws.FnNorms', WHERE WHAT IT READS IS OF BULK AT MOST 1048576: true; the input reads as it did. -/
def fnNormsUptoRow : OpenClaim := { program := "ytdalahgfpbdilaa", sum := "62718cc48c23f8a9ed9acd970fb6b747b1f58dfff8b48db12cd251e8126698a0", func := "loop.example/g01313/laws.FnNorms", spec := "fnNorms", recurses := true, plainKeys := false, apart := false, narrowed := true }
def FnNormsUptoSaid : Prop := fnNormsUptoRow.holds Try.pinned (OpenSpec.upto fnNormsSpec)

/-- 'laws.FnMinimal', WHERE WHAT IT READS IS OF BULK AT MOST 1048576: true; the input reads as it did. -/
def fnMinimalUptoRow : OpenClaim := { program := "ytdalahgfpbdilaa", sum := "62718cc48c23f8a9ed9acd970fb6b747b1f58dfff8b48db12cd251e8126698a0", func := "loop.example/g01313/laws.FnMinimal", spec := "fnMinimal", recurses := true, plainKeys := false, apart := false, narrowed := true }
def FnMinimalUptoSaid : Prop := fnMinimalUptoRow.holds Try.pinned (OpenSpec.upto fnMinimalSpec)

/-- 'laws.FnDivision', WHERE WHAT IT READS IS OF BULK AT MOST 1048576: true; the input reads as it did. -/
def fnDivisionUptoRow : OpenClaim := { program := "ytdalahgfpbdilaa", sum := "62718cc48c23f8a9ed9acd970fb6b747b1f58dfff8b48db12cd251e8126698a0", func := "loop.example/g01313/laws.FnDivision", spec := "fnDivision", recurses := true, plainKeys := false, apart := false, narrowed := true }
def FnDivisionUptoSaid : Prop := fnDivisionUptoRow.holds Try.pinned (OpenSpec.upto fnDivisionSpec)

/-- 'laws.FnGalois', WHERE WHAT IT READS IS OF BULK AT MOST 1048576: true; the input reads as it did. -/
def fnGaloisUptoRow : OpenClaim := { program := "ytdalahgfpbdilaa", sum := "62718cc48c23f8a9ed9acd970fb6b747b1f58dfff8b48db12cd251e8126698a0", func := "loop.example/g01313/laws.FnGalois", spec := "fnGalois", recurses := true, plainKeys := false, apart := false, narrowed := true }
def FnGaloisUptoSaid : Prop := fnGaloisUptoRow.holds Try.pinned (OpenSpec.upto fnGaloisSpec)

end Rows
end Go.Proofs.Ytdalahgfpbdilaa
