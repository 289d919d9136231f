/- Chapter 7: symbols, by reckoning. Plain facts. -/
import Derived.Test.YthookppmclimkaaDoorPlcN
namespace Go.Proofs.YthookppmclimkaaDoor
set_option linter.unusedVariables false

def symChk (l n : Nat) : Bool := fNL ((List.range (l - 1)).map (fun x => pwr l (x + 1) ((l - 1) / n))) fun Y =>
  (roots n l).all fun r => fNL ((List.range n).map (pwr l r)) fun X =>
    Y.all (fun y => X.any (fun z => decide (z = y))) && (List.range n).all (fun i => (List.range i).all (fun j => decide (X.getD i 0 ≠ X.getD j 0)))
set_option maxRecDepth 10000 in
theorem sym_all : pairsChk symChk = true := by decide +kernel
theorem sym_ok {l n r x : Nat} (hl : primeN l = true) (h1 : 1 ≤ n) (h2 : n ≤ 16) (hf : fullN l n = true) (hr : r ∈ roots n l) (hx1 : 1 ≤ x) (hx2 : x < l) :
    ∃ k, k < n ∧ pwr l r k = pwr l x ((l - 1) / n) ∧ ∀ j, j < n → pwr l r j = pwr l x ((l - 1) / n) → j = k := by
  have h := pair_of sym_all hl h1 h2 hf
  unfold symChk at h
  rw [fNL_eq] at h
  have h := List.all_eq_true.1 h r hr
  rw [fNL_eq] at h
  simp only [Bool.and_eq_true] at h
  obtain ⟨ha, hb⟩ := h
  have hg : ∀ i, i < n → ((List.range n).map (pwr l r)).getD i 0 = pwr l r i := fun i hi => by
    rw [List.getD_eq_getElem?_getD, List.getElem?_map, List.getElem?_range hi]; rfl
  have hd : ∀ i j, i < n → j < i → pwr l r i ≠ pwr l r j := fun i j hi hj => by
    have := all_range (all_range hb i hi) j hj
    simp only [decide_eq_true_eq] at this
    rwa [hg i hi, hg j (by omega)] at this
  have hm : pwr l x ((l - 1) / n) ∈ (List.range (l - 1)).map (fun x => pwr l (x + 1) ((l - 1) / n)) :=
    List.mem_map.2 ⟨x - 1, List.mem_range.2 (by omega), by rw [show x - 1 + 1 = x by omega]⟩
  have := List.all_eq_true.1 ha _ hm
  obtain ⟨z, hz, he⟩ := List.any_eq_true.1 this
  simp only [decide_eq_true_eq] at he
  obtain ⟨k, hk, rfl⟩ := List.mem_map.1 hz
  have hk := List.mem_range.1 hk
  refine ⟨k, hk, he, fun j hj hje => ?_⟩
  rcases Nat.lt_trichotomy j k with h | h | h
  · exact absurd (he.trans hje.symm) (hd k j hk h)
  · exact h
  · exact absurd (hje.trans he.symm) (hd j k hj h)
/-- The symbol of x. -/
def symN (l n r x : Nat) : Nat := ((List.range n).find? (fun k => decide (pwr l r k = pwr l x ((l - 1) / n)))).getD 0
theorem symN_ok {l n r x : Nat} (hl : primeN l = true) (h1 : 1 ≤ n) (h2 : n ≤ 16) (hf : fullN l n = true) (hr : r ∈ roots n l) (hx1 : 1 ≤ x) (hx2 : x < l) :
    symN l n r x < n ∧ pwr l r (symN l n r x) = pwr l x ((l - 1) / n) ∧ ∀ j, j < n → pwr l r j = pwr l x ((l - 1) / n) → j = symN l n r x := by
  obtain ⟨k, hk, he, hu⟩ := sym_ok hl h1 h2 hf hr hx1 hx2
  have : symN l n r x = k := by
    unfold symN
    cases hfd : (List.range n).find? (fun k => decide (pwr l r k = pwr l x ((l - 1) / n))) with
    | none =>
      have := List.find?_eq_none.1 hfd k (List.mem_range.2 hk)
      simp [he] at this
    | some j =>
      have h1 := List.find?_some hfd
      have h2 := List.mem_range.1 (List.mem_of_find?_eq_some hfd)
      exact hu j h2 (by simpa using h1)
  rw [this]
  exact ⟨hk, he, hu⟩
end Go.Proofs.YthookppmclimkaaDoor
