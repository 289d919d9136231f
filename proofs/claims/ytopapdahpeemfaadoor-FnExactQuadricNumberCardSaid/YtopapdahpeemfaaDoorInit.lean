/- The program's word on its start, letter by letter. Plain facts, no walk. -/
import Derived.Test.YtopapdahpeemfaaDoorGcd
import Derived.JoinedOf
namespace Go.Proofs.YtopapdahpeemfaaDoor
open Go
theorem and_tt {a b : Bool} (h : a = true) (h' : b = true) : (a && b) = true := by rw [h, h']; rfl
def initChars : List Char := [Char.ofNat 104, Char.ofNat 97, Char.ofNat 114, Char.ofNat 110, Char.ofNat 101, Char.ofNat 115, Char.ofNat 115, Char.ofNat 32, Char.ofNat 54, Char.ofNat 49, Char.ofNat 54, Char.ofNat 55, Char.ofNat 52, Char.ofNat 55, Char.ofNat 51, Char.ofNat 98, Char.ofNat 57, Char.ofNat 48, Char.ofNat 50, Char.ofNat 54, Char.ofNat 102, Char.ofNat 102, Char.ofNat 51, Char.ofNat 56, Char.ofNat 99, Char.ofNat 97, Char.ofNat 52, Char.ofNat 100, Char.ofNat 101, Char.ofNat 56, Char.ofNat 54, Char.ofNat 55, Char.ofNat 50, Char.ofNat 56, Char.ofNat 57, Char.ofNat 54, Char.ofNat 48, Char.ofNat 101, Char.ofNat 48, Char.ofNat 101, Char.ofNat 55, Char.ofNat 97, Char.ofNat 56, Char.ofNat 102, Char.ofNat 49, Char.ofNat 101, Char.ofNat 52, Char.ofNat 48, Char.ofNat 55, Char.ofNat 51, Char.ofNat 100, Char.ofNat 99, Char.ofNat 48, Char.ofNat 48, Char.ofNat 97, Char.ofNat 53, Char.ofNat 51, Char.ofNat 97, Char.ofNat 97, Char.ofNat 56, Char.ofNat 54, Char.ofNat 53, Char.ofNat 51, Char.ofNat 56, Char.ofNat 48, Char.ofNat 97, Char.ofNat 98, Char.ofNat 99, Char.ofNat 55, Char.ofNat 55, Char.ofNat 49, Char.ofNat 98, Char.ofNat 32, Char.ofNat 99, Char.ofNat 117, Char.ofNat 116, Char.ofNat 32, Char.ofNat 97, Char.ofNat 116, Char.ofNat 32, Char.ofNat 108, Char.ofNat 111, Char.ofNat 111, Char.ofNat 112, Char.ofNat 46, Char.ofNat 101, Char.ofNat 120, Char.ofNat 97, Char.ofNat 109, Char.ofNat 112, Char.ofNat 108, Char.ofNat 101, Char.ofNat 47, Char.ofNat 103, Char.ofNat 48, Char.ofNat 49, Char.ofNat 51, Char.ofNat 49, Char.ofNat 51, Char.ofNat 47, Char.ofNat 108, Char.ofNat 97, Char.ofNat 119, Char.ofNat 115, Char.ofNat 46, Char.ofNat 70, Char.ofNat 110, Char.ofNat 69, Char.ofNat 120, Char.ofNat 97, Char.ofNat 99, Char.ofNat 116, Char.ofNat 81, Char.ofNat 117, Char.ofNat 97, Char.ofNat 100, Char.ofNat 114, Char.ofNat 105, Char.ofNat 99, Char.ofNat 78, Char.ofNat 117, Char.ofNat 109, Char.ofNat 98, Char.ofNat 101, Char.ofNat 114]
set_option maxRecDepth 100000 in
theorem init_word : Tryd.prog.initOrder = String.ofList initChars := by kernel_rfl
theorem init_list : Tryd.prog.initOrder.toList = initChars := by rw [init_word, String.toList_ofList]
set_option maxRecDepth 100000
theorem init_head : (behindMainWord (wordsSigns initChars)).head? = some [Char.ofNat 99, Char.ofNat 117, Char.ofNat 116] := by kernel_rfl
theorem init_r1 : (stripLifts liftWords (behindMainWord (wordsSigns initChars))).1 = [] := by kernel_rfl
theorem init_r2 : ((stripLifts liftWords (behindMainWord (wordsSigns initChars))).2.head? == some "cut".toList) = true := by kernel_rfl
theorem init_r3 : Tryd.prog.laysLater = false := by kernel_rfl
theorem init_r4 : Tryd.prog.bearsReflect = false := by kernel_rfl
theorem init_r5 : Tryd.prog.doorFits [] = true := by kernel_rfl
theorem init_lifts : Tryd.prog.liftsFinal = false := by unfold Program.liftsFinal Program.headLifts; rw [init_list]; kernel_rfl
theorem init_cons : ∃ rest, behindMainWord (wordsSigns initChars) = [Char.ofNat 99, Char.ofNat 117, Char.ofNat 116] :: rest := by
  have h := init_head
  cases hb : behindMainWord (wordsSigns initChars) with
  | nil => rw [hb] at h; cases h
  | cons c rest => rw [hb] at h; injection h with h; subst h; exact ⟨rest, rfl⟩
theorem init_g : ([Char.ofNat 99, Char.ofNat 117, Char.ofNat 116] == "gc".toList) = false := by kernel_rfl
theorem init_s : ([Char.ofNat 99, Char.ofNat 117, Char.ofNat 116] == "spec".toList) = false := by kernel_rfl
theorem init_c : ([Char.ofNat 99, Char.ofNat 117, Char.ofNat 116] == "cut".toList) = true := by kernel_rfl
theorem make_of {P : Program} {rest : List (List Char)} (h : behindMainWord (wordsSigns P.initOrder.toList) = [Char.ofNat 99, Char.ofNat 117, Char.ofNat 116] :: rest) : P.make = some .cut := by
  unfold Program.make
  rw [h]
  simp only [init_g, init_s, init_c, Bool.or_self, Bool.true_or, Bool.false_eq_true, if_false, if_true]
theorem enter_of {P : Program} {rest : List (List Char)} (h : behindMainWord (wordsSigns P.initOrder.toList) = [Char.ofNat 99, Char.ofNat 117, Char.ofNat 116] :: rest)
    (h1 : (stripLifts liftWords ([Char.ofNat 99, Char.ofNat 117, Char.ofNat 116] :: rest)).1 = []) (h2 : ((stripLifts liftWords ([Char.ofNat 99, Char.ofNat 117, Char.ofNat 116] :: rest)).2.head? == some "cut".toList) = true)
    (h3 : P.laysLater = false) (h4 : P.bearsReflect = false) (h5 : P.doorFits [] = true) : P.mayEnter = true := by
  unfold Program.mayEnter
  rw [h]
  simp only [h1, h2, h3, h4, h5, List.contains_nil, Bool.not_false, Bool.or_true, Bool.and_true]
theorem init_make : Tryd.prog.make = some .cut := by
  obtain ⟨rest, hr⟩ := init_cons
  exact make_of (rest := rest) (by rw [init_list]; exact hr)
theorem init_enter : Tryd.prog.mayEnter = true := by
  have h1 := init_r1
  have h2 := init_r2
  obtain ⟨rest, hr⟩ := init_cons
  rw [hr] at h1 h2
  exact enter_of (rest := rest) (by rw [init_list]; exact hr) h1 h2 init_r3 init_r4 init_r5
theorem tt_lifts {P : Program} {c : Bool} (h : P.liftsFinal = false) (hc : c = false) : (c == P.liftsFinal) = true := by rw [h, hc]; rfl
theorem tt_make {P : Program} {c : Make} (h : P.make = some .cut) (hc : c = .cut) : (P.make == some c) = true := by rw [h, hc]; rfl
end Go.Proofs.YtopapdahpeemfaaDoor
