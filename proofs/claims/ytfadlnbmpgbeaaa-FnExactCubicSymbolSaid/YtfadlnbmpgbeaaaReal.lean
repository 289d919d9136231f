/- IsReal of the program and of the model. -/
import Derived.Test.YtfadlnbmpgbeaaaConj
import Derived.Laws.StructEq
import Derived.Lib.QuietBelow
import Derived.KernelRfl
namespace Go.Proofs.Ytfadlnbmpgbeaaa
open Go.RowKit Go.ChangeShapes Go.Sort
set_option linter.unusedVariables false
set_option linter.unusedSimpArgs false

/-- What == says of two arrays of int64. -/
theorem run_equalIn_ints {P : Program} (w : World) (d n : Nat) (t e : TypeId) (xs ys : Array Value) (f g : Nat → Int) (ht : P.underlying t = some (.array n e)) (he : P.underlying e = some (.int .i64)) (hsz : ∀ w, (sizeOf e).run P w = .ok 1 w)
    (hx : ∀ i, i < n → xs[i]? = some (.int .i64 (f i))) (hy : ∀ i, i < n → ys[i]? = some (.int .i64 (g i))) :
    (Op.equalIn (d + 2) t (.agg xs) (.agg ys)).run P w = .ok ((List.range' 0 n 1).all fun i => f i == g i) w := by
  rw [Op.equalIn]
  simp only [Sem.run_bind, run_underlying ht, Result.andThen_ok, hsz, Std.Legacy.Range.forIn_eq_forIn_range', Std.Legacy.Range.size, Nat.sub_zero, Nat.add_sub_cancel, Nat.div_one]
  have hl : ∀ i ∈ List.range' 0 n 1, i < n := fun i hi => by simpa using (List.mem_range'_1.1 hi).2
  generalize List.range' 0 n 1 = l at hl ⊢
  induction l with
  | nil => simp
  | cons i l ih =>
    have hi : i < n := hl i (by simp)
    have px : (part e xs (i * 1)).run P w = .ok (.int .i64 (f i)) w := by
      simp [part, isAgg, run_underlying he, hx i hi]
    have py : (part e ys (i * 1)).run P w = .ok (.int .i64 (g i)) w := by
      simp [part, isAgg, run_underlying he, hy i hi]
    have pe : (Op.equalIn (d + 1) e (.int .i64 (f i)) (.int .i64 (g i))).run P w = .ok (f i == g i) w := run_equalIn_int w d e .i64 .i64 _ _ he
    simp only [List.forIn_cons, Sem.run_bind, px, py, pe, Result.andThen_ok, List.all_cons]
    cases hb : (f i == g i)
    · simp
    · simp only [Bool.not_true, Bool.false_eq_true, if_false, Sem.run_pure, Result.andThen_ok, Bool.true_and]
      exact ih fun j hj => hl j (by simp [hj])
/-- Whether two lists agree on their first m places. -/
def eqB (m : Nat) (f g : Nat → Int) : Bool := decide (∀ j, j < m → f j = g j)
theorem eqB_iff {m : Nat} {f g : Nat → Int} : eqB m f g = true ↔ ∀ j, j < m → f j = g j := by unfold eqB; exact decide_eq_true_iff
/-- Whether a number is real. -/
def realB (n L : Nat) (f : Nat → Int) : Bool := eqB L (imgP n (n - 1) L f) f
theorem realB_arr (n L : Nat) (f : Nat → Int) (hL : L = phiN n) (h12 : L ≤ 12) : eqB 12 (cut (phiN n) (imgP n (n - 1) L f)) (cut L f) = realB n L f := by
  unfold realB
  rw [← hL, Bool.eq_iff_iff, eqB_iff, eqB_iff]
  constructor
  · intro h j hj
    have := h j (by omega)
    unfold cut at this
    rwa [if_pos hj, if_pos hj] at this
  · intro h j hj
    unfold cut
    by_cases e : j < L
    · rw [if_pos e, if_pos e]; exact h j e
    · rw [if_neg e, if_neg e]
/-- A failure of a function that answers yes or no. -/
def noV (c : Int) : Value := .tuple #[.bool false, .int .i64 c]

section
variable {o : Bool} {lo hi L : Nat} {v : Value} {f : Nat → Int}
variable {o' : Bool} {lo' hi' : Nat} {v' : Value} {f' : Nat → Int}
set_option maxRecDepth 100000 in
set_option maxHeartbeats 1000000 in
theorem l01Same_yes (x : Int) (w : World) (hs : Sl o w lo hi v L f) (ht : Sl o' w lo' hi' v' L f') (he : ∀ j, j < L → f j = f' j) :
    Calls Try.prog 81 #[.agg #[.int .i64 x, v], .agg #[.int .i64 x, v']] w fun e w' => e = .returned (.bool true) ∧ Below w.heap.size w w' := by
  obtain ⟨a, cap, rfl⟩ := hs.shape
  obtain ⟨a', cap', rfl⟩ := ht.shape
  have hm := hs.len
  unfold maxLen at hm
  have hh := hs.size
  have hh' := ht.size
  have st0 := (((((St.start w).addSl ⟨o, lo, hi, .slice a L cap, L, f⟩ hs).addSl ⟨o', lo', hi', .slice a' L cap', L, f'⟩ ht).alloc (.cells #[.int .i64 x, .slice a L cap] 27)).addBox w.heap.size [.int .i64 x, .slice a L cap] (Box.made _ _ _ _ (fun j v h => by simpa using h)))
  replace st0 := (st0.alloc (.cells #[.int .i64 x, .slice a' L cap'] 27)).addBox _ [.int .i64 x, .slice a' L cap'] (Box.made _ _ _ _ (fun j v h => by simpa using h))
  simp only [World.size_alloc] at st0
  have HT0 := Lib.hid st0
  have HE := Lib.hid he
  clear st0 hs ht he
  obtain ⟨c0, c1⟩ := (HT0.out.box 1 (w.heap.size, [.int .i64 x, .slice a L cap]) rfl).cell2
  obtain ⟨d0, d1⟩ := (HT0.out.box 0 (w.heap.size + 1, [.int .i64 x, .slice a' L cap']) rfl).cell2
  go_enter Try.func81, Try.ntmps81
  go_wp2
  clear c0 c1 d0 d1
  go_loopw [5] (fun i wr => ∃ k : Nat, k ≤ L ∧ i = .int .i64 k ∧ St w wr [(w.heap.size + 1, [.int .i64 x, .slice a' L cap']), (w.heap.size, [.int .i64 x, .slice a L cap])] [⟨o', lo', hi', .slice a' L cap', L, f'⟩, ⟨o, lo, hi, .slice a L cap, L, f⟩]) (fun i _ => L - (intOf i).toNat)
  case atStart => exact ⟨0, Nat.zero_le _, rfl, HT0.out⟩
  case round =>
    obtain ⟨k, hk, rfl, hst⟩ := hrel
    have HT := Lib.hid hst; clear hst
    obtain ⟨c0, c1⟩ := (HT.out.box 1 (w.heap.size, [.int .i64 x, .slice a L cap]) rfl).cell2
    obtain ⟨d0, d1⟩ := (HT.out.box 0 (w.heap.size + 1, [.int .i64 x, .slice a' L cap']) rfl).cell2
    by_cases hlt : k < L
    · have qa := HT.out.sl 1 ⟨o, lo, hi, .slice a L cap, L, f⟩ rfl
      have qb := HT.out.sl 0 ⟨o', lo', hi', .slice a' L cap', L, f'⟩ rfl
      dsimp only at qa qb
      obtain ⟨g, off, c1', hv, _, _, _, _, hc, _⟩ := qa.at (by omega)
      obtain ⟨rfl, rfl⟩ : a = some ⟨g, off, none⟩ ∧ cap = c1' := by cases hv; exact ⟨rfl, rfl⟩
      obtain ⟨g', off', c2', hv', _, _, _, _, hc', _⟩ := qb.at (by omega)
      obtain ⟨rfl, rfl⟩ : a' = some ⟨g', off', none⟩ ∧ cap' = c2' := by cases hv'; exact ⟨rfl, rfl⟩
      have hck := hc k hlt
      have hck' := hc' k hlt
      clear hv hc qa hv' hc' qb
      rw [← HE.out k hlt] at hck'
      go_wp2
      go_quiet (fail)
      go_wp2
      go_roundw
      case rel => exact ⟨k + 1, by omega, by go_num, HT.out.drewN _⟩
      case measure => simp [intOf]; omega
    · go_wp2
      go_ret
      exact ⟨rfl, HT.out.1⟩

set_option maxRecDepth 100000 in
set_option maxHeartbeats 1000000 in
theorem l01Same_no (x : Int) (w : World) (hs : Sl o w lo hi v L f) (ht : Sl o' w lo' hi' v' L f') (he : ¬ ∀ j, j < L → f j = f' j) :
    Calls Try.prog 81 #[.agg #[.int .i64 x, v], .agg #[.int .i64 x, v']] w fun e w' => e = .returned (.bool false) ∧ Below w.heap.size w w' := by
  obtain ⟨a, cap, rfl⟩ := hs.shape
  obtain ⟨a', cap', rfl⟩ := ht.shape
  have hm := hs.len
  unfold maxLen at hm
  have hh := hs.size
  have hh' := ht.size
  have st0 := (((((St.start w).addSl ⟨o, lo, hi, .slice a L cap, L, f⟩ hs).addSl ⟨o', lo', hi', .slice a' L cap', L, f'⟩ ht).alloc (.cells #[.int .i64 x, .slice a L cap] 27)).addBox w.heap.size [.int .i64 x, .slice a L cap] (Box.made _ _ _ _ (fun j v h => by simpa using h)))
  replace st0 := (st0.alloc (.cells #[.int .i64 x, .slice a' L cap'] 27)).addBox _ [.int .i64 x, .slice a' L cap'] (Box.made _ _ _ _ (fun j v h => by simpa using h))
  simp only [World.size_alloc] at st0
  have HT0 := Lib.hid st0
  have HE := Lib.hid he
  clear st0 hs ht he
  obtain ⟨c0, c1⟩ := (HT0.out.box 1 (w.heap.size, [.int .i64 x, .slice a L cap]) rfl).cell2
  obtain ⟨d0, d1⟩ := (HT0.out.box 0 (w.heap.size + 1, [.int .i64 x, .slice a' L cap']) rfl).cell2
  go_enter Try.func81, Try.ntmps81
  go_wp2
  clear c0 c1 d0 d1
  go_loopw [5] (fun i wr => ∃ k : Nat, k ≤ L ∧ i = .int .i64 k ∧ St w wr [(w.heap.size + 1, [.int .i64 x, .slice a' L cap']), (w.heap.size, [.int .i64 x, .slice a L cap])] [⟨o', lo', hi', .slice a' L cap', L, f'⟩, ⟨o, lo, hi, .slice a L cap, L, f⟩] ∧ (∀ j, j < k → f j = f' j)) (fun i _ => L - (intOf i).toNat)
  case atStart => exact ⟨0, Nat.zero_le _, rfl, HT0.out, fun j hj => absurd hj (Nat.not_lt_zero _)⟩
  case round =>
    obtain ⟨k, hk, rfl, hst, hke⟩ := hrel
    have HT := Lib.hid hst; clear hst
    have HK := Lib.hid hke; clear hke
    obtain ⟨c0, c1⟩ := (HT.out.box 1 (w.heap.size, [.int .i64 x, .slice a L cap]) rfl).cell2
    obtain ⟨d0, d1⟩ := (HT.out.box 0 (w.heap.size + 1, [.int .i64 x, .slice a' L cap']) rfl).cell2
    by_cases hlt : k < L
    · have qa := HT.out.sl 1 ⟨o, lo, hi, .slice a L cap, L, f⟩ rfl
      have qb := HT.out.sl 0 ⟨o', lo', hi', .slice a' L cap', L, f'⟩ rfl
      dsimp only at qa qb
      obtain ⟨g, off, c1', hv, _, _, _, _, hc, _⟩ := qa.at (by omega)
      obtain ⟨rfl, rfl⟩ : a = some ⟨g, off, none⟩ ∧ cap = c1' := by cases hv; exact ⟨rfl, rfl⟩
      obtain ⟨g', off', c2', hv', _, _, _, _, hc', _⟩ := qb.at (by omega)
      obtain ⟨rfl, rfl⟩ : a' = some ⟨g', off', none⟩ ∧ cap' = c2' := by cases hv'; exact ⟨rfl, rfl⟩
      have hck := hc k hlt
      have hck' := hc' k hlt
      clear hv hc qa hv' hc' qb
      by_cases heq : f k = f' k
      · rw [← heq] at hck'
        have HQ := Lib.hid heq; clear heq
        go_wp2
        go_quiet (fail)
        go_wp2
        go_roundw
        case rel => exact ⟨k + 1, by omega, by go_num, HT.out.drewN _, fun j hj => by
          by_cases e : j = k
          · subst e; exact HQ.out
          · exact HK.out j (by omega)⟩
        case measure => simp [intOf]; omega
      · go_wp2
        go_quiet (fail)
        go_wp2
        go_ret
        exact ⟨rfl, (HT.out.drewN _).1⟩
    · exact absurd (show ∀ j, j < L → f j = f' j from fun j hj => HK.out j (by omega)) HE.out

theorem l01Same_any (x : Int) (w : World) (hs : Sl o w lo hi v L f) (ht : Sl o' w lo' hi' v' L f') :
    Calls Try.prog 81 #[.agg #[.int .i64 x, v], .agg #[.int .i64 x, v']] w fun e w' => e = .returned (.bool (eqB L f f')) ∧ Below w.heap.size w w' := by
  by_cases h : ∀ j, j < L → f j = f' j
  · rw [eqB_iff.2 h]; exact l01Same_yes x w hs ht h
  · rw [show eqB L f f' = false from decide_eq_false h]; exact l01Same_no x w hs ht h

end
end Go.Proofs.Ytfadlnbmpgbeaaa
