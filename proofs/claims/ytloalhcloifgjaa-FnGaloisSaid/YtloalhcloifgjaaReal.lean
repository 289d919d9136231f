/- IsReal of the program and of the model. -/
import Derived.Test.YtloalhcloifgjaaConj
import Derived.Laws.StructEq
import Derived.Lib.QuietBelow
import Derived.KernelRfl
namespace Go.Proofs.Ytloalhcloifgjaa
open Go.RowKit Go.ChangeShapes Go.Sort
set_option linter.unusedVariables false
set_option linter.unusedSimpArgs false

/-- What == says of two arrays of int64. -/
theorem run_equalIn_ints {P : Program} (w : World) (d n : Nat) (t e : TypeId) (xs ys : Array Value) (f g : Nat → Int) (ht : P.underlying t = some (.array n e)) (he : P.underlying e = some (.int .i64)) (hsz : ∀ w, (sizeOf e).run P w = .ok 1 w)
    (hx : ∀ i, i < n → xs[i]? = some (.int .i64 (f i))) (hy : ∀ i, i < n → ys[i]? = some (.int .i64 (g i))) :
    (Op.equalIn (d + 2) t (.agg xs) (.agg ys)).run P w = .ok ((List.range' 0 n 1).all fun i => f i == g i) w := by
  rw [Op.equalIn]
  simp only [Sem.run_bind, run_underlying ht, Result.andThen_ok, hsz, Std.Legacy.Range.forIn_eq_forIn_range', Std.Legacy.Range.size, Nat.sub_zero, Nat.add_sub_cancel, Nat.div_one]
  have hl : ∀ i ∈ List.range' 0 n 1, i < n := fun i hi => by simpa using (List.mem_range'_1.1 hi).2
  generalize List.range' 0 n 1 = l at hl ⊢
  induction l with
  | nil => simp
  | cons i l ih =>
    have hi : i < n := hl i (by simp)
    have px : (part e xs (i * 1)).run P w = .ok (.int .i64 (f i)) w := by
      simp [part, isAgg, run_underlying he, hx i hi]
    have py : (part e ys (i * 1)).run P w = .ok (.int .i64 (g i)) w := by
      simp [part, isAgg, run_underlying he, hy i hi]
    have pe : (Op.equalIn (d + 1) e (.int .i64 (f i)) (.int .i64 (g i))).run P w = .ok (f i == g i) w := run_equalIn_int w d e .i64 .i64 _ _ he
    simp only [List.forIn_cons, Sem.run_bind, px, py, pe, Result.andThen_ok, List.all_cons]
    cases hb : (f i == g i)
    · simp
    · simp only [Bool.not_true, Bool.false_eq_true, if_false, Sem.run_pure, Result.andThen_ok, Bool.true_and]
      exact ih fun j hj => hl j (by simp [hj])
/-- Whether two lists agree on their first m places. -/
def eqB (m : Nat) (f g : Nat → Int) : Bool := decide (∀ j, j < m → f j = g j)
theorem eqB_iff {m : Nat} {f g : Nat → Int} : eqB m f g = true ↔ ∀ j, j < m → f j = g j := by unfold eqB; exact decide_eq_true_iff
theorem arr_eq (F G : Nat → Int) : ∃ A1 A2, arrV F = .agg A1 ∧ arrV G = .agg A2 ∧ ∀ w, (Op.equalIn 10000 128 (.agg A1) (.agg A2)).run Try.prog w = .ok (eqB 12 F G) w := by
  refine ⟨arrC F, arrC G, rfl, rfl, fun w => ?_⟩
  rw [show (10000 : Nat) = 9998 + 2 from rfl, run_equalIn_ints w 9998 12 128 2 _ _ F G Try.underlying128 Try.underlying2 (fun w => Try.sizeOf2 w) (arrC_get F) (arrC_get G)]
  congr 1
  rw [Bool.eq_iff_iff]
  rw [eqB_iff]
  simp only [List.all_eq_true, List.mem_range'_1, beq_iff_eq]
  exact ⟨fun h j hj => h j ⟨Nat.zero_le _, by omega⟩, fun h j hj => h j (by omega)⟩
theorem parr_guard : Try.prog.eqGuardType Try.prog.depth 128 = false := by kernel_rfl
/-- Whether a number is real. -/
def realB (n L : Nat) (f : Nat → Int) : Bool := eqB L (imgP n (n - 1) L f) f
theorem realB_arr (n L : Nat) (f : Nat → Int) (hL : L = phiN n) (h12 : L ≤ 12) : eqB 12 (cut (phiN n) (imgP n (n - 1) L f)) (cut L f) = realB n L f := by
  unfold realB
  rw [← hL, Bool.eq_iff_iff, eqB_iff, eqB_iff]
  constructor
  · intro h j hj
    have := h j (by omega)
    unfold cut at this
    rwa [if_pos hj, if_pos hj] at this
  · intro h j hj
    unfold cut
    by_cases e : j < L
    · rw [if_pos e, if_pos e]; exact h j e
    · rw [if_neg e, if_neg e]
/-- A failure of a function that answers yes or no. -/
def noV (c : Int) : Value := .tuple #[.bool false, .int .i64 c]

section
variable {o : Bool} {lo hi L : Nat} {v : Value} {f : Nat → Int}
variable {o' : Bool} {lo' hi' : Nat} {v' : Value} {f' : Nat → Int}
set_option maxRecDepth 100000 in
set_option maxHeartbeats 1000000 in
theorem l01Same_yes (x : Int) (w : World) (hs : Sl o w lo hi v L f) (ht : Sl o' w lo' hi' v' L f') (he : ∀ j, j < L → f j = f' j) :
    Calls Try.prog 182 #[.agg #[.int .i64 x, v], .agg #[.int .i64 x, v']] w fun e w' => e = .returned (.bool true) ∧ Below w.heap.size w w' := by
  obtain ⟨a, cap, rfl⟩ := hs.shape
  obtain ⟨a', cap', rfl⟩ := ht.shape
  have hm := hs.len
  unfold maxLen at hm
  have hh := hs.size
  have hh' := ht.size
  have st0 := (((((St.start w).addSl ⟨o, lo, hi, .slice a L cap, L, f⟩ hs).addSl ⟨o', lo', hi', .slice a' L cap', L, f'⟩ ht).alloc (.cells #[.int .i64 x, .slice a L cap] 26)).addBox w.heap.size [.int .i64 x, .slice a L cap] (Box.made _ _ _ _ (fun j v h => by simpa using h)))
  replace st0 := (st0.alloc (.cells #[.int .i64 x, .slice a' L cap'] 26)).addBox _ [.int .i64 x, .slice a' L cap'] (Box.made _ _ _ _ (fun j v h => by simpa using h))
  simp only [World.size_alloc] at st0
  have HT0 := Lib.hid st0
  have HE := Lib.hid he
  clear st0 hs ht he
  obtain ⟨c0, c1⟩ := (HT0.out.box 1 (w.heap.size, [.int .i64 x, .slice a L cap]) rfl).cell2
  obtain ⟨d0, d1⟩ := (HT0.out.box 0 (w.heap.size + 1, [.int .i64 x, .slice a' L cap']) rfl).cell2
  go_enter Try.func182, Try.ntmps182
  go_wp2
  clear c0 c1 d0 d1
  go_loopw [5] (fun i wr => ∃ k : Nat, k ≤ L ∧ i = .int .i64 k ∧ St w wr [(w.heap.size + 1, [.int .i64 x, .slice a' L cap']), (w.heap.size, [.int .i64 x, .slice a L cap])] [⟨o', lo', hi', .slice a' L cap', L, f'⟩, ⟨o, lo, hi, .slice a L cap, L, f⟩]) (fun i _ => L - (intOf i).toNat)
  case atStart => exact ⟨0, Nat.zero_le _, rfl, HT0.out⟩
  case round =>
    obtain ⟨k, hk, rfl, hst⟩ := hrel
    have HT := Lib.hid hst; clear hst
    obtain ⟨c0, c1⟩ := (HT.out.box 1 (w.heap.size, [.int .i64 x, .slice a L cap]) rfl).cell2
    obtain ⟨d0, d1⟩ := (HT.out.box 0 (w.heap.size + 1, [.int .i64 x, .slice a' L cap']) rfl).cell2
    by_cases hlt : k < L
    · have qa := HT.out.sl 1 ⟨o, lo, hi, .slice a L cap, L, f⟩ rfl
      have qb := HT.out.sl 0 ⟨o', lo', hi', .slice a' L cap', L, f'⟩ rfl
      dsimp only at qa qb
      obtain ⟨g, off, c1', hv, _, _, _, _, hc, _⟩ := qa.at (by omega)
      obtain ⟨rfl, rfl⟩ : a = some ⟨g, off, none⟩ ∧ cap = c1' := by cases hv; exact ⟨rfl, rfl⟩
      obtain ⟨g', off', c2', hv', _, _, _, _, hc', _⟩ := qb.at (by omega)
      obtain ⟨rfl, rfl⟩ : a' = some ⟨g', off', none⟩ ∧ cap' = c2' := by cases hv'; exact ⟨rfl, rfl⟩
      have hck := hc k hlt
      have hck' := hc' k hlt
      clear hv hc qa hv' hc' qb
      rw [← HE.out k hlt] at hck'
      go_wp2
      go_quiet (fail)
      go_wp2
      go_roundw
      case rel => exact ⟨k + 1, by omega, by go_num, HT.out.drewN _⟩
      case measure => simp [intOf]; omega
    · go_wp2
      go_ret
      exact ⟨rfl, HT.out.1⟩

set_option maxRecDepth 100000 in
set_option maxHeartbeats 1000000 in
theorem l01Same_no (x : Int) (w : World) (hs : Sl o w lo hi v L f) (ht : Sl o' w lo' hi' v' L f') (he : ¬ ∀ j, j < L → f j = f' j) :
    Calls Try.prog 182 #[.agg #[.int .i64 x, v], .agg #[.int .i64 x, v']] w fun e w' => e = .returned (.bool false) ∧ Below w.heap.size w w' := by
  obtain ⟨a, cap, rfl⟩ := hs.shape
  obtain ⟨a', cap', rfl⟩ := ht.shape
  have hm := hs.len
  unfold maxLen at hm
  have hh := hs.size
  have hh' := ht.size
  have st0 := (((((St.start w).addSl ⟨o, lo, hi, .slice a L cap, L, f⟩ hs).addSl ⟨o', lo', hi', .slice a' L cap', L, f'⟩ ht).alloc (.cells #[.int .i64 x, .slice a L cap] 26)).addBox w.heap.size [.int .i64 x, .slice a L cap] (Box.made _ _ _ _ (fun j v h => by simpa using h)))
  replace st0 := (st0.alloc (.cells #[.int .i64 x, .slice a' L cap'] 26)).addBox _ [.int .i64 x, .slice a' L cap'] (Box.made _ _ _ _ (fun j v h => by simpa using h))
  simp only [World.size_alloc] at st0
  have HT0 := Lib.hid st0
  have HE := Lib.hid he
  clear st0 hs ht he
  obtain ⟨c0, c1⟩ := (HT0.out.box 1 (w.heap.size, [.int .i64 x, .slice a L cap]) rfl).cell2
  obtain ⟨d0, d1⟩ := (HT0.out.box 0 (w.heap.size + 1, [.int .i64 x, .slice a' L cap']) rfl).cell2
  go_enter Try.func182, Try.ntmps182
  go_wp2
  clear c0 c1 d0 d1
  go_loopw [5] (fun i wr => ∃ k : Nat, k ≤ L ∧ i = .int .i64 k ∧ St w wr [(w.heap.size + 1, [.int .i64 x, .slice a' L cap']), (w.heap.size, [.int .i64 x, .slice a L cap])] [⟨o', lo', hi', .slice a' L cap', L, f'⟩, ⟨o, lo, hi, .slice a L cap, L, f⟩] ∧ (∀ j, j < k → f j = f' j)) (fun i _ => L - (intOf i).toNat)
  case atStart => exact ⟨0, Nat.zero_le _, rfl, HT0.out, fun j hj => absurd hj (Nat.not_lt_zero _)⟩
  case round =>
    obtain ⟨k, hk, rfl, hst, hke⟩ := hrel
    have HT := Lib.hid hst; clear hst
    have HK := Lib.hid hke; clear hke
    obtain ⟨c0, c1⟩ := (HT.out.box 1 (w.heap.size, [.int .i64 x, .slice a L cap]) rfl).cell2
    obtain ⟨d0, d1⟩ := (HT.out.box 0 (w.heap.size + 1, [.int .i64 x, .slice a' L cap']) rfl).cell2
    by_cases hlt : k < L
    · have qa := HT.out.sl 1 ⟨o, lo, hi, .slice a L cap, L, f⟩ rfl
      have qb := HT.out.sl 0 ⟨o', lo', hi', .slice a' L cap', L, f'⟩ rfl
      dsimp only at qa qb
      obtain ⟨g, off, c1', hv, _, _, _, _, hc, _⟩ := qa.at (by omega)
      obtain ⟨rfl, rfl⟩ : a = some ⟨g, off, none⟩ ∧ cap = c1' := by cases hv; exact ⟨rfl, rfl⟩
      obtain ⟨g', off', c2', hv', _, _, _, _, hc', _⟩ := qb.at (by omega)
      obtain ⟨rfl, rfl⟩ : a' = some ⟨g', off', none⟩ ∧ cap' = c2' := by cases hv'; exact ⟨rfl, rfl⟩
      have hck := hc k hlt
      have hck' := hc' k hlt
      clear hv hc qa hv' hc' qb
      by_cases heq : f k = f' k
      · rw [← heq] at hck'
        have HQ := Lib.hid heq; clear heq
        go_wp2
        go_quiet (fail)
        go_wp2
        go_roundw
        case rel => exact ⟨k + 1, by omega, by go_num, HT.out.drewN _, fun j hj => by
          by_cases e : j = k
          · subst e; exact HQ.out
          · exact HK.out j (by omega)⟩
        case measure => simp [intOf]; omega
      · go_wp2
        go_quiet (fail)
        go_wp2
        go_ret
        exact ⟨rfl, (HT.out.drewN _).1⟩
    · exact absurd (show ∀ j, j < L → f j = f' j from fun j hj => HK.out j (by omega)) HE.out

theorem l01Same_any (x : Int) (w : World) (hs : Sl o w lo hi v L f) (ht : Sl o' w lo' hi' v' L f') :
    Calls Try.prog 182 #[.agg #[.int .i64 x, v], .agg #[.int .i64 x, v']] w fun e w' => e = .returned (.bool (eqB L f f')) ∧ Below w.heap.size w w' := by
  by_cases h : ∀ j, j < L → f j = f' j
  · rw [eqB_iff.2 h]; exact l01Same_yes x w hs ht h
  · rw [show eqB L f f' = false from decide_eq_false h]; exact l01Same_no x w hs ht h

theorem IsReal_impl_bad (x : Int) (w : World) (hs : Sl o w lo hi v L f) (h : ¬ CyP x L f) :
    Calls Try.prog 111 #[.agg #[.int .i64 x, v]] w fun e w' => e = .returned (noV 1) ∧ Below w.heap.size w w' := by
  obtain ⟨av, cap, rfl⟩ := hs.shape
  have st0 := ((((St.start w).addSl ⟨o, lo, hi, .slice av L cap, L, f⟩ hs).alloc (.cells #[.int .i64 x, .slice av L cap] 26)).addBox w.heap.size [.int .i64 x, .slice av L cap] (Box.made _ _ _ _ (fun j v h => by simpa using h)))
  have q0 := st0.sl 0 ⟨o, lo, hi, .slice av L cap, L, f⟩ rfl
  dsimp only at q0
  have HC := Lib.hid h
  clear h hs
  go_enter Try.func111, Try.ntmps111
  go_wp2_with fail
  refine (IsCyclo_no _ _ q0 HC.out).mono ?_
  rintro e w1 ⟨rfl, b1⟩
  clear q0
  have st1 := st0.keep b1
  have hz_w1 := b1.size
  try simp only [World.size_alloc] at hz_w1
  clear st0 b1
  have BB := st1.1
  go_wp2
  refine bodyPost_ret (v := noV 1) (by simp [results, Try.results111, go_sem, noV]) rfl ?_
  exact ⟨rfl, BB⟩

theorem IsReal_spec_bad (x : Int) (w : World) (hs : Sl o w lo hi v L f) (h : ¬ CyP x L f) :
    Calls Try.prog 119 #[.agg #[.int .i64 x, v]] w fun e w' => e = .returned (noV 1) ∧ Below w.heap.size w w' := by
  obtain ⟨av, cap, rfl⟩ := hs.shape
  have st0 := ((((St.start w).addSl ⟨o, lo, hi, .slice av L cap, L, f⟩ hs).alloc (.cells #[.int .i64 x, .slice av L cap] 26)).addBox w.heap.size [.int .i64 x, .slice av L cap] (Box.made _ _ _ _ (fun j v h => by simpa using h)))
  have q0 := st0.sl 0 ⟨o, lo, hi, .slice av L cap, L, f⟩ rfl
  dsimp only at q0
  have HC := Lib.hid h
  clear h hs
  go_enter Try.func119, Try.ntmps119
  go_wp2_with fail
  refine (l01Is_no _ _ q0 HC.out).mono ?_
  rintro e w1 ⟨rfl, b1⟩
  clear q0
  have st1 := st0.keep b1
  have hz_w1 := b1.size
  try simp only [World.size_alloc] at hz_w1
  clear st0 b1
  have BB := st1.1
  go_wp2
  refine bodyPost_ret (v := noV 1) (by simp [results, Try.results119, go_sem, noV]) rfl ?_
  exact ⟨rfl, BB⟩

set_option maxRecDepth 100000 in
set_option maxHeartbeats 1000000 in
theorem IsReal_impl_ok (n : Nat) (w : World) (hs : Sl o w lo hi v L f) (h : CyP n L f) :
    Calls Try.prog 111 #[.agg #[.int .i64 (n : Int), v]] w fun e w' => e = .returned (.tuple #[.bool (realB n L f), .int .i64 0]) ∧ Below w.heap.size w w' := by
  obtain ⟨av, cap, rfl⟩ := hs.shape
  have hn1 : 1 ≤ n := by have := h.1; omega
  have hn2 : n ≤ 16 := by have := h.2.1; omega
  have hp := phi_le12 n hn2 hn1
  have hL : L ≤ 12 := by have e : L = phiN n := h.2.2.1; omega
  have hreal := realB_arr n L f h.2.2.1 hL
  have hpos : 0 < L := by have e : L = phiN n := h.2.2.1; have := phiN_pos n (by omega) hn1; omega
  obtain ⟨A1, A2, hA1, hA2, hEq⟩ := arr_eq (cut (phiN n) (imgP n (n - 1) L f)) (cut L f)
  rw [hreal] at hEq
  have HA1 := Lib.hid hA1
  have HA2 := Lib.hid hA2
  clear hA1 hA2 hreal
  have hgd := parr_guard
  have HSUB := Lib.hid (show IntKind.i64.wrap ((n : Int) - 1) = ((n - 1 : Nat) : Int) from by rw [IntWalk.i64_in _ (by omega)]; omega)
  generalize realB n L f = B at *
  have st0 := ((((St.start w).addSl ⟨o, lo, hi, .slice av L cap, L, f⟩ hs).alloc (.cells #[.int .i64 (n : Int), .slice av L cap] 26)).addBox w.heap.size [.int .i64 (n : Int), .slice av L cap] (Box.made _ _ _ _ (fun j v h => by simpa using h)))
  have q0 := st0.sl 0 ⟨o, lo, hi, .slice av L cap, L, f⟩ rfl
  dsimp only at q0
  have HC := Lib.hid h
  clear h hs
  go_enter Try.func111, Try.ntmps111
  go_wp2_with fail
  refine (IsCyclo_yes _ _ q0 HC.out).mono ?_
  rintro e w1 ⟨rfl, b1⟩
  clear q0
  have st1 := st0.keep b1
  have hz_w1 := b1.size
  try simp only [World.size_alloc] at hz_w1
  clear st0 b1
  obtain ⟨c0, c1⟩ := (st1.box 0 (w.heap.size, [.int .i64 (n : Int), .slice av L cap]) rfl).cell2
  go_wp2_with fail
  go_region_held3 (fun w' => w'.cell? ⟨w.heap.size, 0, none⟩ = some (.int .i64 (n : Int)) ∧ w'.cell? ⟨w.heap.size, 1, none⟩ = some (.slice av L cap))
    (first | exact ⟨c0, c1⟩ | exact ⟨cell_later b6 c0, cell_later b6 c1⟩ | exact ⟨cell_later b7 c0, cell_later b7 c1⟩ | exact ⟨cell_later b7 (cell_later b6 c0), cell_later b7 (cell_later b6 c1)⟩ | exact ⟨cell_later b6 (cell_later b7 c0), cell_later b6 (cell_later b7 c1)⟩)
    (first
      | (go_at_call 159; rw [HSUB.out]; refine (imageParts_any n (n - 1) (by omega) (by omega) (by omega) _ (by first | exact st1.drew.sl 0 ⟨o, lo, hi, .slice av L cap, L, f⟩ rfl | exact (st1.drew.keep b7).sl 0 ⟨o, lo, hi, .slice av L cap, L, f⟩ rfl) (Nat.le_trans hL (by decide))).mono ?_; rw [HA1.out]; rintro e w6 ⟨rfl, b6⟩)
      | (go_at_call 186; refine (arrayOf_any _ (by first | exact st1.drew.sl 0 ⟨o, lo, hi, .slice av L cap, L, f⟩ rfl | exact (st1.drew.keep b6).sl 0 ⟨o, lo, hi, .slice av L cap, L, f⟩ rfl) hpos hL).mono ?_; rw [HA2.out]; rintro e w7 ⟨rfl, b7⟩))
  all_goals
    go_wp2
    refine bodyPost_ret (v := .tuple #[.bool B, .int .i64 0]) (by simp [results, Try.results111, go_sem]) rfl ?_
    first
      | exact ⟨rfl, ((st1.drew.keep b6).keep b7).1⟩
      | exact ⟨rfl, ((st1.drew.keep b7).keep b6).1⟩

set_option maxRecDepth 100000 in
set_option maxHeartbeats 1000000 in
theorem IsReal_spec_ok (n : Nat) (w : World) (hs : Sl o w lo hi v L f) (h : CyP n L f) :
    Calls Try.prog 119 #[.agg #[.int .i64 (n : Int), v]] w fun e w' => e = .returned (.tuple #[.bool (realB n L f), .int .i64 0]) ∧ Below w.heap.size w w' := by
  have eL : L = phiN n := h.2.2.1
  have hLn : L ≤ n := by have := phiI_le (n : Int); unfold phiN at eL; omega
  obtain ⟨av, cap, rfl⟩ := hs.shape
  have hn1 : 1 ≤ n := by have := h.1; omega
  have hn2 : n ≤ 16 := by have := h.2.1; omega
  have hp := phi_le12 n hn2 hn1
  have hL : L ≤ 12 := by have e : L = phiN n := h.2.2.1; omega
  subst eL
  have HR := Lib.hid (show eqB (phiN n) (imgP n (n - 1) (phiN n) f) f = realB n (phiN n) f from rfl)
  generalize realB n (phiN n) f = B at *
  have st0 := ((((St.start w).addSl ⟨o, lo, hi, .slice av (phiN n) cap, phiN n, f⟩ hs).alloc (.cells #[.int .i64 (n : Int), .slice av (phiN n) cap] 26)).addBox w.heap.size [.int .i64 (n : Int), .slice av (phiN n) cap] (Box.made _ _ _ _ (fun j v h => by simpa using h)))
  have q0 := st0.sl 0 ⟨o, lo, hi, .slice av (phiN n) cap, phiN n, f⟩ rfl
  dsimp only at q0
  have HC := Lib.hid h
  clear h hs
  go_enter Try.func119, Try.ntmps119
  go_wp2_with fail
  refine (l01Is_yes _ _ q0 HC.out).mono ?_
  rintro e w1 ⟨rfl, b1⟩
  clear q0
  have st1 := st0.keep b1
  have hz_w1 := b1.size
  try simp only [World.size_alloc] at hz_w1
  clear st0 b1
  obtain ⟨c0, c1⟩ := (st1.box 0 (w.heap.size, [.int .i64 (n : Int), .slice av (phiN n) cap]) rfl).cell2
  go_wp2_with fail
  go_region_held3 (fun w' => w'.cell? ⟨w.heap.size, 0, none⟩ = some (.int .i64 (n : Int)) ∧ w'.cell? ⟨w.heap.size, 1, none⟩ = some (.slice av (phiN n) cap))
    (first | exact ⟨c0, c1⟩ | exact ⟨cell_later b6 c0, cell_later b6 c1⟩ | exact ⟨cell_later b7 (cell_later b6 c0), cell_later b7 (cell_later b6 c1)⟩)
    (first
      | (go_at_call 132; refine (l01Bar_any n hn1 hn2 _ (st1.drew.sl 0 ⟨o, lo, hi, .slice av (phiN n) cap, phiN n, f⟩ rfl) hLn).mono ?_; rintro e w6 ⟨a6, k6, rfl, s6, b6⟩)
      | (go_at_call 182; refine (l01Same_any _ _ s6 ((st1.drew.keep b6).sl 0 ⟨o, lo, hi, .slice av (phiN n) cap, phiN n, f⟩ rfl)).mono ?_; rw [HR.out]; rintro e w7 ⟨rfl, b7⟩))
  all_goals
    go_wp2
    refine bodyPost_ret (v := .tuple #[.bool B, .int .i64 0]) (by simp [results, Try.results119, go_sem]) rfl ?_
    exact ⟨rfl, ((st1.drew.keep b6).keep (b7.mono (by have := b6.size; simp only [World.size_drew] at this; omega))).1⟩
end
end Go.Proofs.Ytloalhcloifgjaa
