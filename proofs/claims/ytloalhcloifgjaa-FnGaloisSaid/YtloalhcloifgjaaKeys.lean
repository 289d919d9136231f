/- A map whose keys are arrays of twelve numbers: whether it has one entry. -/
import Derived.Test.YtloalhcloifgjaaReal
import Derived.Maps.OwnSet
import Derived.Maps.Range
import Derived.DeepKeys4
namespace Go.Proofs.Ytloalhcloifgjaa
open Go.RowKit Go.ChangeShapes Go.Sort Go.Maps Go.WideMaps
set_option linter.unusedVariables false
set_option linter.unusedSimpArgs false

theorem keys_laid : laidOutB Try.prog = true := by kernel_rfl
theorem keys_row : (128 : TypeId) < Try.prog.types.size := of_decide_eq_true (by kernel_rfl)
theorem keys_wide : (match Try.prog.underlying 128 with | some (.array _ _) | some (.struct _) => true | _ => false) = true := by rw [Try.underlying128]
set_option maxRecDepth 100000 in
theorem keys_law : KeyLaw Try.prog 128 := deep_law_laid keys_laid (m := 2) (by omega) keys_row (by kernel_rfl) keys_wide
theorem keys_keyed : Keyed Try.prog 128 := Keyed.of_law keys_law
theorem keys_cells : Try.prog.cellsOf 128 = 12 := by kernel_rfl
theorem keys_cells1 : Try.prog.cellsOf 2 = 1 := by kernel_rfl
theorem keys_type : Try.prog.keyType 128 = true := by kernel_rfl
theorem keys_size : ∃ d, Try.prog.types.size + 1 = d + 2 := ⟨Try.prog.types.size - 1, by have : 1 ≤ Try.prog.types.size := of_decide_eq_true (by kernel_rfl); omega⟩
theorem wf_int {x : Int} (h : inR x) : (Lit.int .i64 x).wf = true := by
  unfold inR at h
  have h1 : IntKind.i64.min = -9223372036854775808 := by decide
  have h2 : IntKind.i64.max = 9223372036854775807 := by decide
  simp only [Lit.wf, h1, h2, Bool.and_eq_true, decide_eq_true_eq]
  exact h
/-- An array of numbers is a key. -/
theorem key_arr (F : Nat → Int) (h : ∀ j, j < 12 → inR (F j)) : ∃ l, keyOf Try.prog 128 (arrV F) = some l := by
  obtain ⟨d, hd⟩ := keys_size
  have hl : ∃ ls, Try.prog.keyLits (d + 2) 128 (arrC F).toList = some ls := by
    have hone : ∀ i, i < 12 → Try.prog.keyLits (d + 1) 2 (((arrC F).toList.drop (i * Try.prog.cellsOf 2)).take (Try.prog.cellsOf 2)) = some [.int .i64 (F i)] := by
      intro i hi
      rw [keys_cells1]
      have e : ((arrC F).toList.drop (i * 1)).take 1 = [.int .i64 (F i)] := by
        have : i = 0 ∨ i = 1 ∨ i = 2 ∨ i = 3 ∨ i = 4 ∨ i = 5 ∨ i = 6 ∨ i = 7 ∨ i = 8 ∨ i = 9 ∨ i = 10 ∨ i = 11 := by omega
        rcases this with rfl | rfl | rfl | rfl | rfl | rfl | rfl | rfl | rfl | rfl | rfl | rfl <;> rfl
      rw [e]
      simp only [Program.keyLits, Try.underlying2]
      first | rw [if_pos ⟨trivial, wf_int (h i hi)⟩] | rw [if_pos (wf_int (h i hi))] | simp [wf_int (h i hi)]
    refine ⟨((List.range 12).map (fun i => [Lit.int .i64 (F i)])).flatten, ?_⟩
    unfold Program.keyLits
    simp only [Try.underlying128]
    rw [if_pos (by rw [keys_cells]; rfl)]
    have hm : (List.range 12).mapM (fun i => Try.prog.keyLits (d + 1) 2 (((arrC F).toList.drop (i * Try.prog.cellsOf 2)).take (Try.prog.cellsOf 2))) = some ((List.range 12).map (fun i => [Lit.int .i64 (F i)])) := by
      rw [show (List.range 12) = [0, 1, 2, 3, 4, 5, 6, 7, 8, 9, 10, 11] from rfl]
      simp only [List.mapM_cons, List.mapM_nil, hone 0 (by omega), hone 1 (by omega), hone 2 (by omega), hone 3 (by omega), hone 4 (by omega), hone 5 (by omega), hone 6 (by omega), hone 7 (by omega), hone 8 (by omega), hone 9 (by omega), hone 10 (by omega), hone 11 (by omega)]
      rfl
    rw [hm]
    rfl
  obtain ⟨ls, hls⟩ := hl
  refine ⟨.string (keyBytes ls), ?_⟩
  unfold keyOf
  simp only [Try.underlying128]
  rw [if_pos (by rw [keys_type]; show (true && (Value.agg (arrC F)).formed Try.prog 128) = true; simp [Value.formed, Try.underlying128, keys_cells, arrC])]
  rw [hd]
  show Option.map _ (Try.prog.keyLits (d + 2) 128 (arrC F).toList) = _
  rw [hls]
  rfl
theorem arrV_inj {F G : Nat → Int} (h : arrV F = arrV G) : ∀ j, j < 12 → F j = G j := by
  intro j hj
  have h2 : arrC F = arrC G := by unfold arrV at h; unfold arrC; injection h
  have h3 := congrArg (fun a => a[j]?) h2
  simp only [arrC_get _ _ hj] at h3
  injection h3 with h4
  injection h4

section
variable {H : Type}
/-- Two keys that differ. -/
def Many (es : List (Lit × DataW H)) : Prop := ∃ p ∈ es, ∃ q ∈ es, p.1 ≠ q.1
theorem same_str {a b : Lit} (ha : ∃ s, a = .string s) (hb : ∃ s, b = .string s) : a.sameKey b = true ↔ a = b := by
  obtain ⟨s, rfl⟩ := ha
  obtain ⟨t, rfl⟩ := hb
  simp [Lit.sameKey]
theorem many_size {es : List (Lit × DataW H)} (h : Many es) : es.length ≠ 1 := by
  obtain ⟨p, hp, q, hq, hne⟩ := h
  intro e
  match es, e with
  | [x], _ =>
    simp only [List.mem_singleton] at hp hq
    subst hp; subst hq
    exact hne rfl
theorem mem_put {k : Lit} {d : DataW H} {es : List (Lit × DataW H)} {p : Lit × DataW H} : p ∈ DataW.insert (k, d) (es.filter fun p => !p.1.sameKey k) ↔ p = (k, d) ∨ (p ∈ es ∧ p.1.sameKey k = false) := by
  rw [ChangeMaps.mem_insert_iff]
  simp [List.mem_filter]
theorem many_put {k : Lit} {d : DataW H} {es : List (Lit × DataW H)} (hk : ∃ s, k = .string s) (hs : ∀ p ∈ es, ∃ s, p.1 = .string s) (h : Many es) : Many (DataW.insert (k, d) (es.filter fun p => !p.1.sameKey k)) := by
  obtain ⟨p, hp, q, hq, hne⟩ := h
  by_cases hpk : p.1 = k
  · refine ⟨q, mem_put.2 (.inr ⟨hq, ?_⟩), (k, d), mem_put.2 (.inl rfl), fun e => hne (by rw [hpk]; exact e.symm)⟩
    rw [Bool.eq_false_iff]
    exact fun e => hne (by rw [hpk]; exact ((same_str (hs q hq) hk).1 e).symm)
  · refine ⟨p, mem_put.2 (.inr ⟨hp, ?_⟩), (k, d), mem_put.2 (.inl rfl), hpk⟩
    rw [Bool.eq_false_iff]
    exact fun e => hpk ((same_str (hs p hp) hk).1 e)
theorem one_put {k k0 : Lit} {d d0 : DataW H} (hk : ∃ s, k = .string s) (hk0 : ∃ s, k0 = .string s) (hne : k0 ≠ k) : Many (DataW.insert (k, d) ([(k0, d0)].filter fun p => !p.1.sameKey k)) := by
  refine ⟨(k0, d0), mem_put.2 (.inr ⟨List.mem_singleton.2 rfl, ?_⟩), (k, d), mem_put.2 (.inl rfl), hne⟩
  rw [Bool.eq_false_iff]
  exact fun e => hne ((same_str hk0 hk).1 e)
theorem one_again {k : Lit} {d d0 : DataW H} (hk : ∃ s, k = .string s) : DataW.insert (k, d) ([(k, d0)].filter fun p => !p.1.sameKey k) = [(k, d)] := by
  have : k.sameKey k = true := (same_str hk hk).2 rfl
  simp [this, DataW.insert]
theorem none_put {k : Lit} {d : DataW H} : DataW.insert (k, d) (([] : List (Lit × DataW H)).filter fun p => !p.1.sameKey k) = [(k, d)] := by
  simp [DataW.insert]
theorem owns_str {w : World} {b n : Nat} {es : List (Lit × DataW H)} {R : Value → Option (DataW H × List MemPlace)} (h : w.ownsMap Try.prog 128 R b n (.map es)) : ∀ p ∈ es, ∃ s, p.1 = .string s := by
  intro p hp
  obtain ⟨es2, clock, hb, F, hs, e⟩ := h
  injection e with e
  subst e
  have hp2 : p ∈ es2.toList.map (WideElems.rg Try.prog 128 R) := by
    have key : ∀ (l : List (Lit × DataW H)), p ∈ l.foldr DataW.insert [] → p ∈ l := by
      intro l
      induction l with
      | nil => intro h; simp at h
      | cons x l ih =>
        intro h
        rw [List.foldr_cons, ChangeMaps.mem_insert_iff] at h
        rcases h with rfl | h
        · exact List.mem_cons_self
        · exact List.mem_cons_of_mem _ (ih h)
    exact key _ hp
  obtain ⟨v, hv⟩ := Maps.fit_keys F p hp2
  exact keys_law.str hv
end
end Go.Proofs.Ytloalhcloifgjaa
