/- Fractions of the program: lowestTerms, plus, times, over. Bernoulli numbers as fractions: bernoulliNumbers and BernoulliOf of the program. BernoulliOf of the model. Prime tests of the program and of the model; periods, primitive roots and indices of the model. The powers of a residue as an iterator: powersModulo, countPowers, primitiveRoot, residuesByIndex of the program. primitiveRoot, residuesByIndex of the program; PrimitiveRoot and IndexOf of the program and of the model. Rests, powers and values of polynomials modulo a number, of the program and of the model. Numbers modulo primes of the program: plus, times, over. Bernoulli numbers modulo primes: bernoulliNumbers of the program. Elements of group rings: cut, isWithin of the program. Elements of group rings: total, plus, scaled of the program. Residues up to 40: residuesOf of the program, l10Residues of the model; places; inverses. Elements of group rings: moved, turned of the program; Stickelberger elements. Elements told: openRing of the program. Elements told: ringWithin of the program. Chapter 8 by reckoning: counts of values, sums of forms, points of curves of powers. Plain facts. Chapter 8 of the model: codes, values, counts of solutions. Bernoulli numbers modulo primes: l10Bernoulli of the model. BernoulliModulo and IrregularOf of the program and of the model. IrregularOf of the program and of the model. -/
import Derived.Test.YtnhpodlcgkgpbaaRgB
import Derived.Test.YtnhpodlcgkgpbaaRgE
import Derived.Test.YtnhpodlcgkgpbaaState
import Derived.Deep.RegionLaw
import Derived.Deep.RegionHeld3
import Derived.Test.YtnhpodlcgkgpbaaRow
import Derived.Handy
import Derived.Test.YtnhpodlcgkgpbaaIdx
import Derived.RangeFuncNested
import Derived.RangeFuncBound
import Derived.RangeFuncCalls
import Derived.RangeFuncLeaves
import Derived.Shelf.Abstract
import Derived.Shelf.RegionOpen
import Derived.WalkKit
import Derived.OwnWalkIn
import Derived.TacticsInMore
import Derived.LoopNIn
import Derived.LoopIn
import Derived.Test.YtnhpodlcgkgpbaaPlcF
import Derived.Test.YtnhpodlcgkgpbaaReal
import Derived.Test.YtnhpodlcgkgpbaaLeaf
import Derived.Test.YtnhpodlcgkgpbaaRgF
import Derived.Test.YtnhpodlcgkgpbaaIs
import Derived.BigRegion
namespace Go.Proofs.Ytnhpodlcgkgpbaa
set_option linter.unusedVariables false
set_option linter.unusedSimpArgs false
section
open Go.RowKit Go.ChangeShapes Go.Sort
set_option linter.unusedVariables false
set_option linter.unusedSimpArgs false
set_option maxRecDepth 100000
set_option maxHeartbeats 2000000
theorem tdiv_bd {a g M : Int} (hg : 1 ≤ g) (h1 : -M ≤ a) (h2 : a ≤ M) : -M ≤ a.tdiv g ∧ a.tdiv g ≤ M := by
  by_cases h : 0 ≤ a
  · rw [Int.tdiv_eq_ediv_of_nonneg h]
    have e1 := Int.ediv_nonneg h (show 0 ≤ g by omega)
    have e2 := Int.ediv_le_self g h
    omega
  · have e : a.tdiv g = -((-a) / g) := by rw [← Int.tdiv_eq_ediv_of_nonneg (show 0 ≤ -a by omega), Int.neg_tdiv, Int.neg_neg]
    have e1 := Int.ediv_nonneg (show 0 ≤ -a by omega) (show 0 ≤ g by omega)
    have e2 := Int.ediv_le_self g (show 0 ≤ -a by omega)
    omega
theorem gcdI_one {a b : Int} (hb : 1 ≤ b) : 1 ≤ gcdI a b ∧ gcdI a b ≤ b := by
  unfold gcdI
  have h1 : 0 < Nat.gcd a.toNat b.toNat := Nat.gcd_pos_of_pos_right _ (by omega)
  have h2 : Nat.gcd a.toNat b.toNat ≤ b.toNat := Nat.gcd_le_right _ (by omega)
  omega
theorem inB_iff {x : Int} : inB x = true ↔ -4000000000000000000 ≤ x ∧ x ≤ 4000000000000000000 := by unfold inB; simp
theorem inP_iff {x : Int} : inP x = true ↔ 1 ≤ x ∧ x ≤ 4000000000000000000 := by unfold inP; simp
theorem lowestTerms_any (a b : Int) (ha : inB a = true) (hb : inP b = true) (w : World) :
    Calls Try.prog 233 #[.int .i64 a, .int .i64 b] w fun e w' => e = .returned (.agg #[.int .i64 (ltF a b).1, .int .i64 (ltF a b).2]) ∧ Below w.heap.size w w' := by
  rw [inB_iff] at ha
  rw [inP_iff] at hb
  obtain ⟨ha1, ha2⟩ := ha
  obtain ⟨hb1, hb2⟩ := hb
  obtain ⟨M, hM⟩ : ∃ M, max a (-a) = M := ⟨_, rfl⟩
  have hM0 : 0 ≤ M ∧ M ≤ 4000000000000000000 := by omega
  obtain ⟨g, hg⟩ : ∃ g, gcdI M b = g := ⟨_, rfl⟩
  have hgb := gcdI_one (a := M) hb1
  rw [hg] at hgb
  obtain ⟨hg1, hg2⟩ := hgb
  have HC := Lib.hid (fun w' => commonDivisor_any M b w' (by omega) (by omega) (by omega) (by omega))
  rw [hg] at HC
  obtain ⟨q1, hq1⟩ : ∃ q, a.tdiv g = q := ⟨_, rfl⟩
  obtain ⟨q2, hq2⟩ : ∃ q, b.tdiv g = q := ⟨_, rfl⟩
  have e : ltF a b = (q1, q2) := by unfold ltF; rw [hM, hg, hq1, hq2]
  rw [e]
  clear e hg
  dsimp only
  have hb1' := tdiv_bd hg1 ha1 ha2
  have hb2' := tdiv_bd (M := 4000000000000000000) hg1 (show -4000000000000000000 ≤ b by omega) hb2
  rw [hq1] at hb1'
  rw [hq2] at hb2'
  have hq2e : b / g = q2 := by rw [← Int.tdiv_eq_ediv_of_nonneg (by omega)]; exact hq2
  have hgn : ¬ g = 0 := by omega
  have hgb : (g == 0) = false := beq_eq_false_iff_ne.2 hgn
  have st := ((St.start w).alloc (.cells #[.int .i64 0, .int .i64 0] 145)).addBox w.heap.size [.int .i64 0, .int .i64 0] (Box.made _ _ _ _ (fun j v h => by simpa using h))
  obtain ⟨z0, z1⟩ := (st.box 0 (w.heap.size, [.int .i64 0, .int .i64 0]) rfl).cell2
  have zz := (st.box 0 (w.heap.size, [.int .i64 0, .int .i64 0]) rfl).2.2
  have BB := st.1
  dsimp only at z0 z1 zz
  go_enter Try.func233, Try.ntmps233
  go_wp2_with (go_at_call 173; (first
      | ((have e : M = -a := by omega); rw [e] at HC; refine (HC.out _).mono ?_; rintro e w2 ⟨rfl, m2, rfl⟩)
      | ((have e : M = a := by omega); rw [e] at HC; refine (HC.out _).mono ?_; rintro e w2 ⟨rfl, m2, rfl⟩)))
  all_goals
    clear HC hM hM0
    go_region
    go_wp2
    refine bodyPost_ret (v := .agg #[.int .i64 q1, .int .i64 q2]) (by simp [results, Try.results233, go_sem, z0, z1]) rfl ⟨rfl, ?_⟩
    have BD := below_drewN BB (m2 + 1)
    go_grown
theorem plusQ_any (x1 x2 y1 y2 : Int) (h : okP (x1, x2) (y1, y2) = true) (w : World) :
    Calls Try.prog 231 #[.agg #[.int .i64 x1, .int .i64 x2], .agg #[.int .i64 y1, .int .i64 y2]] w fun e w' => e = .returned (.agg #[.int .i64 (plF (x1, x2) (y1, y2)).1, .int .i64 (plF (x1, x2) (y1, y2)).2]) ∧ Below w.heap.size w w' := by
  have st := ((St.start w).alloc (.cells #[.int .i64 x1, .int .i64 x2] 145)).addBox _ [.int .i64 x1, .int .i64 x2] (Box.made _ _ _ _ (fun j v h => by simpa using h))
  replace st := (st.alloc (.cells #[.int .i64 y1, .int .i64 y2] 145)).addBox _ [.int .i64 y1, .int .i64 y2] (Box.made _ _ _ _ (fun j v h => by simpa using h))
  replace st := (st.alloc (.cells #[.int .i64 0, .int .i64 0] 145)).addBox _ [.int .i64 0, .int .i64 0] (Box.made _ _ _ _ (fun j v h => by simpa using h))
  simp only [World.size_alloc] at st
  unfold okP at h
  simp only [Bool.and_eq_true, inB_iff, inP_iff] at h
  obtain ⟨⟨⟨⟨h1, h1'⟩, h2, h2'⟩, h3, h3'⟩, h4, h4'⟩ := h
  have HL := Lib.hid (fun w' => lowestTerms_any (x1 * y2 + y1 * x2) (x2 * y2) (inB_iff.2 (by omega)) (inP_iff.2 (by omega)) w')
  have eV : ltF (x1 * y2 + y1 * x2) (x2 * y2) = plF (x1, x2) (y1, y2) := rfl
  rw [eV] at HL
  clear eV
  obtain ⟨q1, hq1⟩ : ∃ q, (plF (x1, x2) (y1, y2)).1 = q := ⟨_, rfl⟩
  obtain ⟨q2, hq2⟩ : ∃ q, (plF (x1, x2) (y1, y2)).2 = q := ⟨_, rfl⟩
  rw [hq1, hq2] at HL
  rw [hq1, hq2]
  clear hq1 hq2
  obtain ⟨xa, xb⟩ := (st.box 2 (w.heap.size, [.int .i64 x1, .int .i64 x2]) rfl).cell2
  dsimp only at xa xb
  obtain ⟨ya, yb⟩ := (st.box 1 (w.heap.size + 1, [.int .i64 y1, .int .i64 y2]) rfl).cell2
  dsimp only at ya yb
  go_enter Try.func231, Try.ntmps231
  go_wp2_with (first
    | (go_at_call 233; refine (HL.out _).mono ?_; rintro e w2 ⟨rfl, b2⟩
       replace st := st.keep b2
       obtain ⟨z0, z1⟩ := (st.box 0 (w.heap.size + 1 + 1, [.int .i64 0, .int .i64 0]) rfl).cell2
       have zz := (st.box 0 (w.heap.size + 1 + 1, [.int .i64 0, .int .i64 0]) rfl).2.2
       have hz2 := b2.size
       simp only [World.size_alloc] at hz2
       dsimp only at z0 z1 zz))
  have BB := st.1
  refine bodyPost_ret (v := .agg #[.int .i64 q1, .int .i64 q2]) (by simp [results, Try.results231, go_sem, z0, z1]) rfl ⟨rfl, ?_⟩
  go_grown
theorem timesQ_any (x1 x2 k : Int) (h : okT (x1, x2) k = true) (w : World) :
    Calls Try.prog 232 #[.agg #[.int .i64 x1, .int .i64 x2], .int .i64 k] w fun e w' => e = .returned (.agg #[.int .i64 (tiF (x1, x2) k).1, .int .i64 (tiF (x1, x2) k).2]) ∧ Below w.heap.size w w' := by
  have st := ((St.start w).alloc (.cells #[.int .i64 x1, .int .i64 x2] 145)).addBox _ [.int .i64 x1, .int .i64 x2] (Box.made _ _ _ _ (fun j v h => by simpa using h))
  replace st := (st.alloc (.cells #[.int .i64 0, .int .i64 0] 145)).addBox _ [.int .i64 0, .int .i64 0] (Box.made _ _ _ _ (fun j v h => by simpa using h))
  simp only [World.size_alloc] at st
  unfold okT at h
  simp only [Bool.and_eq_true, inB_iff, inP_iff] at h
  obtain ⟨⟨h1, h1'⟩, h2, h2'⟩ := h
  have HL := Lib.hid (fun w' => lowestTerms_any (x1 * k) (x2) (inB_iff.2 (by omega)) (inP_iff.2 (by omega)) w')
  have eV : ltF (x1 * k) (x2) = tiF (x1, x2) k := rfl
  rw [eV] at HL
  clear eV
  obtain ⟨q1, hq1⟩ : ∃ q, (tiF (x1, x2) k).1 = q := ⟨_, rfl⟩
  obtain ⟨q2, hq2⟩ : ∃ q, (tiF (x1, x2) k).2 = q := ⟨_, rfl⟩
  rw [hq1, hq2] at HL
  rw [hq1, hq2]
  clear hq1 hq2
  obtain ⟨xa, xb⟩ := (st.box 1 (w.heap.size, [.int .i64 x1, .int .i64 x2]) rfl).cell2
  dsimp only at xa xb
  go_enter Try.func232, Try.ntmps232
  go_wp2_with (first
    | (go_at_call 233; refine (HL.out _).mono ?_; rintro e w2 ⟨rfl, b2⟩
       replace st := st.keep b2
       obtain ⟨z0, z1⟩ := (st.box 0 (w.heap.size + 1, [.int .i64 0, .int .i64 0]) rfl).cell2
       have zz := (st.box 0 (w.heap.size + 1, [.int .i64 0, .int .i64 0]) rfl).2.2
       have hz2 := b2.size
       simp only [World.size_alloc] at hz2
       dsimp only at z0 z1 zz))
  have BB := st.1
  refine bodyPost_ret (v := .agg #[.int .i64 q1, .int .i64 q2]) (by simp [results, Try.results232, go_sem, z0, z1]) rfl ⟨rfl, ?_⟩
  go_grown
theorem overQ_any (x1 x2 k : Int) (h : okO (x1, x2) k = true) (w : World) :
    Calls Try.prog 230 #[.agg #[.int .i64 x1, .int .i64 x2], .int .i64 k] w fun e w' => e = .returned (.agg #[.int .i64 (ovF (x1, x2) k).1, .int .i64 (ovF (x1, x2) k).2]) ∧ Below w.heap.size w w' := by
  have st := ((St.start w).alloc (.cells #[.int .i64 x1, .int .i64 x2] 145)).addBox _ [.int .i64 x1, .int .i64 x2] (Box.made _ _ _ _ (fun j v h => by simpa using h))
  replace st := (st.alloc (.cells #[.int .i64 0, .int .i64 0] 145)).addBox _ [.int .i64 0, .int .i64 0] (Box.made _ _ _ _ (fun j v h => by simpa using h))
  simp only [World.size_alloc] at st
  unfold okO at h
  simp only [Bool.and_eq_true, inB_iff, inP_iff] at h
  obtain ⟨⟨h1, h1'⟩, h2, h2'⟩ := h
  have HL := Lib.hid (fun w' => lowestTerms_any (x1) (x2 * k) (inB_iff.2 (by omega)) (inP_iff.2 (by omega)) w')
  have eV : ltF (x1) (x2 * k) = ovF (x1, x2) k := rfl
  rw [eV] at HL
  clear eV
  obtain ⟨q1, hq1⟩ : ∃ q, (ovF (x1, x2) k).1 = q := ⟨_, rfl⟩
  obtain ⟨q2, hq2⟩ : ∃ q, (ovF (x1, x2) k).2 = q := ⟨_, rfl⟩
  rw [hq1, hq2] at HL
  rw [hq1, hq2]
  clear hq1 hq2
  obtain ⟨xa, xb⟩ := (st.box 1 (w.heap.size, [.int .i64 x1, .int .i64 x2]) rfl).cell2
  dsimp only at xa xb
  go_enter Try.func230, Try.ntmps230
  go_wp2_with (first
    | (go_at_call 233; refine (HL.out _).mono ?_; rintro e w2 ⟨rfl, b2⟩
       replace st := st.keep b2
       obtain ⟨z0, z1⟩ := (st.box 0 (w.heap.size + 1, [.int .i64 0, .int .i64 0]) rfl).cell2
       have zz := (st.box 0 (w.heap.size + 1, [.int .i64 0, .int .i64 0]) rfl).2.2
       have hz2 := b2.size
       simp only [World.size_alloc] at hz2
       dsimp only at z0 z1 zz))
  have BB := st.1
  refine bodyPost_ret (v := .agg #[.int .i64 q1, .int .i64 q2]) (by simp [results, Try.results230, go_sem, z0, z1]) rfl ⟨rfl, ?_⟩
  go_grown
theorem l10Choose_any (m i : Nat) (hm : m < 22) (hi : i < m) (w : World) :
    Calls Try.prog 134 #[.int .i64 (m : Int), .int .i64 (i : Int)] w fun e w' => e = .returned (.int .i64 (chC m i : Int)) ∧ w = w' := by
  go_enter Try.func134, Try.ntmps134
  go_wp2
  go_loopw [5, 6] (fun s5 s6 wr => ∃ k : Nat, k ≤ i ∧ s6 = .int .i64 (k : Int) ∧ s5 = .int .i64 (chC m k : Int) ∧ wr = w) (fun _ s6 _ => i - (intOf s6).toNat)
  case atStart => exact ⟨0, Nat.zero_le _, rfl, rfl, rfl⟩
  case round =>
    obtain ⟨k, hk, rfl, rfl, hwr⟩ := hrel
    subst hwr
    by_cases hlt : k < i
    · have hki : (k : Int) < (i : Int) := by omega
      have hb := chC_bd m hm k (by omega)
      have hcm : ((chC m k * (m - k) : Nat) : Int) = (chC m k : Int) * ((m : Int) - (k : Int)) := by
        rw [Int.natCast_mul, Int.natCast_sub (by omega)]
      have hm0 : 0 ≤ (chC m k : Int) * ((m : Int) - (k : Int)) := by rw [← hcm]; omega
      have hm1 : (chC m k : Int) * ((m : Int) - (k : Int)) ≤ 100000000 := by rw [← hcm]; omega
      have HC2 := Lib.hid (show ((chC m (k + 1) : Nat) : Int) = (chC m k : Int) * ((m : Int) - (k : Int)) / ((k : Int) + 1) by
        rw [← hcm, show ((k : Int) + 1) = ((k + 1 : Nat) : Int) by omega, ← Int.natCast_ediv]; rfl)
      obtain ⟨C, hC⟩ : ∃ C, chC m k = C := ⟨_, rfl⟩
      rw [hC] at hb hm0 hm1 HC2
      rw [hC]
      clear hC hcm
      have hd := Int.ediv_nonneg (a := (C : Int) * ((m : Int) - (k : Int))) (b := (k : Int) + 1) hm0 (by omega)
      have hd2 := Int.ediv_le_self ((k : Int) + 1) hm0
      go_wp2
      go_roundw
      case rel => exact ⟨k + 1, by omega, by go_num, by rw [HC2.out], by first | rfl | trivial⟩
      case measure => simp [intOf] <;> omega
    · obtain rfl : k = i := by omega
      go_wp2
      go_ret
      exact ⟨rfl, by first | rfl | trivial⟩
end

section
open Go.RowKit Go.ChangeShapes Go.Sort
set_option linter.unusedVariables false
set_option linter.unusedSimpArgs false
set_option maxRecDepth 100000
set_option maxHeartbeats 4000000

theorem infoFq : (Try.prog.info? 145).map (fun i => (i.zero, i.size, i.bytes)) = some (some (.agg #[.int .i64 0, .int .i64 0]), 2, 16) := by kernel_rfl
theorem RowE.oneFq (w : World) (base : Nat) (a b : Value) (F : Nat → List Value) (hb : base ≤ w.heap.size) (hF : F 0 = [a, b]) : RowE (w.alloc (.cells #[a, b] 145)) base 145 2 w.heap.size 1 1 F := by
  unfold RowE
  have e : (List.range 1).flatMap F = [a, b] := by simp [List.range_succ, hF]
  rw [e]
  exact ⟨by simp, .inr ⟨w.heap.size, 1, #[a, b], rfl, hb, heap_alloc_new w _, Nat.le_refl _, by decide, by simp, by simp⟩⟩
theorem wpList_pushFq {w : World} {ops : Array Oper} {rest : List Oper} {o : Oper} {a : Act} {Q : Exit → Act → World → Prop} (hgd : o.guard = none) (s x : Operand)
    (ho : o.op = .call { callee := .builtin .append, args := #[s, x], argTypes := #[146, 146] })
    (hty : o.type = 146) (base g cap n : Nat) (F : Nat → List Value) (hs : a.eval s = .slice (some ⟨g, 0, none⟩) n cap) (hown : RowE w base 145 2 g cap n F) (B : Nat) (y u : Int) (hx : a.eval x = .slice (some ⟨B, 0, none⟩) 1 1)
    (hb : w.heap[B]? = some (.cells #[.int .i64 y, .int .i64 u] 145 (0, 0))) (hn : n + 1 ≤ 1048576)
    (h : ∀ g' cap' w', RowE w' base 145 2 g' cap' (n + 1) (fun i => if i < n then F i else [.int .i64 y, .int .i64 u]) → w.grownBy w' (some g) → (g' = g ∨ g' = w.heap.size) → g' < w'.heap.size → wpList Try.prog ops Q rest (a.put o.dst (.slice (some ⟨g', 0, none⟩) (n + 1) cap')) w') : wpList Try.prog ops Q (o :: rest) a w := by
  obtain ⟨i0, hi, hz0, hz1, hz2⟩ := info_parts infoFq
  refine wpList_append_lies w hgd s x 146 ho base 145 i0 (.agg #[.int .i64 0, .int .i64 0]) 2 16 Try.underlying146 hi hz0 hz1 hz2 rfl (by decide) _ n _ hs hown ⟨B, 0, none⟩ 1 1 [.int .i64 y, .int .i64 u] hx rfl (World.news_of_block hb) (by intro v hv; simp only [List.mem_cons, List.not_mem_nil, or_false] at hv; rcases hv with rfl | rfl <;> rfl) (by decide) (by unfold maxLen; omega) (by omega) (Nat.le_trans hown.lt.1 (Nat.le_of_lt hown.lt.2)) _ rfl ?_
  intro g' cap' w' h1 h2 h3 h4
  refine h g' cap' w' ?_ h2 (h3.imp (fun e => (Option.some.inj e).symm) id) h4
  unfold RowE
  rw [List.range_succ, List.flatMap_append]
  have e1 : (List.range n).flatMap (fun i => if i < n then F i else [.int .i64 y, .int .i64 u]) = (List.range n).flatMap F := by
    rw [List.flatMap_def, List.flatMap_def]
    exact congrArg List.flatten (List.map_congr_left (fun j hj => by rw [if_pos (List.mem_range.1 hj)]))
  rw [e1]
  simpa using h1
theorem Box.set2Q {w : World} {b : Nat} {v0 v1 u0 u1 : Value} (h : Box w b [v0, v1]) : Box ((w.setCell ⟨b, 0, none⟩ u0).setCell ⟨b, 1, none⟩ u1) b [u0, u1] := by
  obtain ⟨h1, h2, h3⟩ := h
  have c0 := h2 0 _ rfl
  have c1 := h2 1 _ rfl
  refine ⟨by simpa using h1, ?_, ?_⟩
  · intro j v hj
    rcases j with _ | _ | j
    · simp only [List.getElem?_cons_zero, Option.some.injEq] at hj
      subst hj
      rw [setCell_ne _ _ _ _ _ (by decide)]
      exact World.cell?_setCell_same _ _ _ c0
    · simp only [List.getElem?_cons_succ, List.getElem?_cons_zero, Option.some.injEq] at hj
      subst hj
      exact World.cell?_setCell_same _ _ _ (by rw [setCell_ne _ _ _ _ _ (by decide)]; exact c1)
    · simp at hj
  · intro j
    simpa using h3 j
theorem bernQ_any (K : Nat) (hK : K ≤ 20) (w : World) :
    Calls Try.prog 133 #[.agg #[.int .i64 1, .int .i64 1], .int .i64 (K : Int)] w fun e w' => ∃ (g cap : Nat), e = .returned (.slice (some ⟨g, 0, none⟩) (K + 1) cap) ∧ RowE w' (w.heap.size + 1) 145 2 g cap (K + 1) (fun i => [.int .i64 (beQ i).1, .int .i64 (beQ i).2]) ∧ Below w.heap.size w w' := by
  have hK20 := hK
  clear hK
  have st := ((St.start w).alloc (.cells #[.int .i64 1, .int .i64 1] 145)).addBox w.heap.size [.int .i64 1, .int .i64 1] (Box.made _ _ _ _ (fun j v h => by simpa using h))
  obtain ⟨x0, x1⟩ := (st.box 0 (w.heap.size, [.int .i64 1, .int .i64 1]) rfl).cell2
  have r0 := RowE.oneFq (w.alloc (.cells #[.int .i64 1, .int .i64 1] 145)) (w.heap.size + 1) (.int .i64 1) (.int .i64 1) (fun i => [.int .i64 (beQ i).1, .int .i64 (beQ i).2]) (by simp) (by rfl)
  simp only [World.size_alloc] at r0
  have HR := Lib.hid r0
  have HST := Lib.hid (st.alloc (.cells #[.int .i64 1, .int .i64 1] 145))
  clear st r0
  go_enter Try.func133, Try.ntmps133
  go_wp2
  clear x0 x1
  go_loopw [5, 6] (fun s5 s6 wr => ∃ (j g cap : Nat), j ≤ K ∧ s5 = .slice (some ⟨g, 0, none⟩) (j + 1) cap ∧ s6 = .int .i64 ((j : Int) + 2) ∧ RowE wr (w.heap.size + 1) 145 2 g cap (j + 1) (fun i => [.int .i64 (beQ i).1, .int .i64 (beQ i).2]) ∧ St w wr [(w.heap.size, [.int .i64 1, .int .i64 1])] []) (fun _ s6 _ => K + 2 - (intOf s6).toNat)
  case atStart => exact ⟨0, _, _, Nat.zero_le _, rfl, rfl, HR.out, HST.out⟩
  case round =>
    clear HR HST
    rename World => wo
    obtain ⟨j, g, cap, hj, rfl, rfl, hr, st⟩ := hrel
    have R1 := Lib.hid hr
    have hgl := hr.lt
    have hwo := (st.box 0 (w.heap.size, [.int .i64 1, .int .i64 1]) rfl).1
    dsimp only at hwo
    clear hr
    by_cases hlt : j < K
    · obtain ⟨x0, x1⟩ := (st.box 0 (w.heap.size, [.int .i64 1, .int .i64 1]) rfl).cell2
      have hc1 : (j : Int) + 2 ≤ (K : Int) + 1 := by omega
      have st2 := (st.alloc (.cells #[.int .i64 1, .int .i64 1] 145)).addBox wo.heap.size [.int .i64 1, .int .i64 1] (Box.made _ _ _ _ (fun j v h => by simpa using h))
      have HS2 := Lib.hid st2
      have HR2 := Lib.hid (R1.out.alloc (.cells #[.int .i64 1, .int .i64 1] 145))
      clear st st2 R1
      go_wp2
      clear x0 x1
      go_loopw [8, 9] (fun s8 s9 wr => ∃ t : Nat, t ≤ j ∧ s9 = .int .i64 ((t : Int) + 1) ∧ s8 = .int .i64 ((chB (j + 2) t : Int)) ∧ RowE wr (w.heap.size + 1) 145 2 g cap (j + 1) (fun i => [.int .i64 (beQ i).1, .int .i64 (beQ i).2]) ∧ St w wr [(wo.heap.size, [.int .i64 (smQ (blQ j) (j + 2) t).1, .int .i64 (smQ (blQ j) (j + 2) t).2]), (w.heap.size, [.int .i64 1, .int .i64 1])] []) (fun _ s9 _ => j + 1 - (intOf s9).toNat)
      case atStart => exact ⟨0, Nat.zero_le _, rfl, rfl, HR2.out, HS2.out⟩
      case round =>
        clear HS2 HR2
        obtain ⟨t, ht, rfl, rfl, hr, st⟩ := hrel
        have R1 := Lib.hid hr
        have hgl2 := hr.lt
        clear hr
        have hsl := (st.box 0 (wo.heap.size, [.int .i64 (smQ (blQ j) (j + 2) t).1, .int .i64 (smQ (blQ j) (j + 2) t).2]) rfl).1
        dsimp only at hsl
        by_cases htj : t < j
        · have htji : (t : Int) + 1 < (j : Int) + 1 := by omega
          have htp : (0 : Int) ≤ (t : Int) + 1 := by omega
          have htn : ¬ (t : Int) + 1 < 0 := by omega
          have hchb := ch_bd (j + 2) (by omega) t (by omega)
          have HST := Lib.hid ((beQ_all (k := j) (by omega)).st t htj)
          rw [blQ_get j (t + 1) (by omega)] at HST
          have HC1 := Lib.hid (show smQ (blQ j) (j + 2) (t + 1) = plF (smQ (blQ j) (j + 2) t) (tiF (beQ (t + 1)) (chB (j + 2) t : Nat)) by rw [← blQ_get j (t + 1) (by omega)]; rfl)
          have HC2 := Lib.hid (show ((chB (j + 2) (t + 1) : Nat) : Int) = ((chB (j + 2) t : Nat) : Int) * ((j : Int) + 2 - ((t : Int) + 1)) / ((t : Int) + 1 + 1) by
            have e : ((j : Int) + 2 - ((t : Int) + 1)) = ((j + 2 - (t + 1) : Nat) : Int) := by omega
            have e2 : ((t : Int) + 1 + 1) = ((t + 2 : Nat) : Int) := by omega
            rw [e, e2, ← Int.natCast_mul, ← Int.natCast_ediv]; rfl)
          have hcm : ((chB (j + 2) t * (j + 2 - (t + 1)) : Nat) : Int) = ((chB (j + 2) t : Nat) : Int) * ((j : Int) + 2 - ((t : Int) + 1)) := by
            have e : ((j : Int) + 2 - ((t : Int) + 1)) = ((j + 2 - (t + 1) : Nat) : Int) := by omega
            rw [e, Int.natCast_mul]
          have hm0 : 0 ≤ ((chB (j + 2) t : Nat) : Int) * ((j : Int) + 2 - ((t : Int) + 1)) := by rw [← hcm]; omega
          have hm1 : ((chB (j + 2) t : Nat) : Int) * ((j : Int) + 2 - ((t : Int) + 1)) ≤ 2000000000000000000 := by rw [← hcm]; omega
          clear hcm
          obtain ⟨C, hC⟩ : ∃ C, chB (j + 2) t = C := ⟨_, rfl⟩
          rw [hC] at hchb HC1 HC2 hm0 hm1 HST
          rw [hC]
          clear hC
          obtain ⟨B1, B2, hB⟩ : ∃ B1 B2, beQ (t + 1) = (B1, B2) := ⟨_, _, rfl⟩
          obtain ⟨Y1, Y2, hY⟩ : ∃ Y1 Y2, smQ (blQ j) (j + 2) t = (Y1, Y2) := ⟨_, _, rfl⟩
          rw [hB] at HC1 HST
          rw [hY] at HC1 HST st
          have HBB := Lib.hid (show (beQ (t + 1)).1 = B1 ∧ (beQ (t + 1)).2 = B2 from by rw [hB]; exact ⟨rfl, rfl⟩)
          clear hB hY
          dsimp only at st
          have HT := Lib.hid (fun w' => timesQ_any B1 B2 (C : Int) HST.out.1 w')
          obtain ⟨U1, U2, hU⟩ : ∃ U1 U2, tiF (B1, B2) (C : Int) = (U1, U2) := ⟨_, _, rfl⟩
          rw [hU] at HT HC1 HST
          dsimp only at HT
          have HP := Lib.hid (fun w' => plusQ_any Y1 Y2 U1 U2 HST.out.2 w')
          rw [← HC1.out] at HP
          obtain ⟨V1, V2, hV⟩ : ∃ V1 V2, smQ (blQ j) (j + 2) (t + 1) = (V1, V2) := ⟨_, _, rfl⟩
          rw [hV] at HP
          dsimp only at HP
          have HY2 := Lib.hid hV
          clear hU hV HC1 HST
          have hd := Int.ediv_nonneg (a := (C : Int) * ((j : Int) + 2 - ((t : Int) + 1))) (b := (t : Int) + 1 + 1) hm0 (by omega)
          have hd2 := Int.ediv_le_self ((t : Int) + 1 + 1) hm0
          go_wp2_with fail
          replace st := st.drew
          have R2 := Lib.hid (R1.out.drewN 1)
          clear R1
          refine wp_region_held_drew (S := fun wy => RowE wy (w.heap.size + 1) 145 2 g cap (j + 1) (fun i => [.int .i64 (beQ i).1, .int .i64 (beQ i).2]) ∧ St w wy [(w.heap.size, [.int .i64 1, .int .i64 1])] []) (by kernel_rfl) (⟨R2.out, st.subR (fun b hb => List.mem_cons_of_mem _ hb) (fun _ h => h)⟩) (fun hHeld => ?_)
          refine wpAnyH_take (i := 2) (v := .slice (some ⟨g, 0, none⟩) (j + 1) cap) rfl (by kernel_rfl) (by kernel_rfl) (by kernel_rfl) (fun _ _ _ h => h) (Or.inl ⟨by rfl, ?_⟩) hHeld ?_
          · intro wy hy; go_simp
          (try simp only [Act.put, List.getElem_toArray, List.getElem_cons_zero, List.getElem_cons_succ, List.setIfInBounds_toArray, List.set_cons_zero, List.set_cons_succ])
          refine wpAnyH_take (i := 3) (v := .int .i64 ((t : Int) + 1)) rfl (by kernel_rfl) (by kernel_rfl) (by kernel_rfl) (fun _ _ _ h => h) (Or.inl ⟨by rfl, ?_⟩) hHeld ?_
          · intro wy hy; go_simp
          (try simp only [Act.put, List.getElem_toArray, List.getElem_cons_zero, List.getElem_cons_succ, List.setIfInBounds_toArray, List.set_cons_zero, List.set_cons_succ])
          refine wpAnyH_take (i := 4) (v := .pointer (some ⟨g, (t + 1) * 2, none⟩)) rfl (by kernel_rfl) (by kernel_rfl) (by kernel_rfl) (fun _ _ _ h => h) (Or.inl ⟨by rfl, ?_⟩) hHeld ?_
          · intro wy hy; go_simp
          (try simp only [Act.put, List.getElem_toArray, List.getElem_cons_zero, List.getElem_cons_succ, List.setIfInBounds_toArray, List.set_cons_zero, List.set_cons_succ])
          refine wpAnyH_take (i := 5) (v := .agg #[.int .i64 B1, .int .i64 B2]) rfl (by kernel_rfl) (by kernel_rfl) (by kernel_rfl) (fun _ _ _ h => h) (Or.inl ⟨by rfl, ?_⟩) hHeld ?_
          · intro wy hy; have hq0 := hy.1.cell (fun _ => rfl) (show t + 1 < j + 1 by omega) (show 0 < 2 by omega); have hq1 := hy.1.cell (fun _ => rfl) (show t + 1 < j + 1 by omega) (show 1 < 2 by omega); (try simp only [Nat.add_zero, List.getElem?_cons_zero, List.getElem?_cons_succ] at hq0 hq1); rw [HBB.out.1] at hq0; rw [HBB.out.2] at hq1; go_simp
          (try simp only [Act.put, List.getElem_toArray, List.getElem_cons_zero, List.getElem_cons_succ, List.setIfInBounds_toArray, List.set_cons_zero, List.set_cons_succ])
          refine wpAnyH_take (i := 6) (v := .iface 145 (.agg #[.int .i64 B1, .int .i64 B2])) rfl (by kernel_rfl) (by kernel_rfl) (by kernel_rfl) (fun _ _ _ h => h) (Or.inl ⟨by rfl, ?_⟩) hHeld ?_
          · intro wy hy; go_simp
          (try simp only [Act.put, List.getElem_toArray, List.getElem_cons_zero, List.getElem_cons_succ, List.setIfInBounds_toArray, List.set_cons_zero, List.set_cons_succ])
          refine wpAnyH_take (i := 7) (v := .int .i64 (C : Int)) rfl (by kernel_rfl) (by kernel_rfl) (by kernel_rfl) (fun _ _ _ h => h) (Or.inl ⟨by rfl, ?_⟩) hHeld ?_
          · intro wy hy; go_simp
          (try simp only [Act.put, List.getElem_toArray, List.getElem_cons_zero, List.getElem_cons_succ, List.setIfInBounds_toArray, List.set_cons_zero, List.set_cons_succ])
          refine wpAnyH_ready (rs := [0, 8]) (by kernel_rfl) (by simp) ?_
          refine AllReadyH.cons rfl (fun K hK => ?_) (AllReadyH.cons rfl (fun K hK => ?_) AllReadyH.nil)
          · rw [if_pos (by rfl)]
            (try simp only [List.getElem_toArray, List.getElem_cons_zero, List.getElem_cons_succ])
            obtain ⟨q0, q1⟩ := (st.box 0 (wo.heap.size, [.int .i64 Y1, .int .i64 Y2]) rfl).cell2
            dsimp only at q0 q1
            go_simp
            refine hK.out _ _ hHeld (fun hHeld => ?_)
            clear hK K
            (try simp only [Act.put, List.getElem_toArray, List.getElem_cons_zero, List.getElem_cons_succ, List.setIfInBounds_toArray, List.set_cons_zero, List.set_cons_succ])
            refine wpAnyH_take (i := 1) (v := .iface 145 (.agg #[.int .i64 Y1, .int .i64 Y2])) rfl (by kernel_rfl) (by kernel_rfl) (by kernel_rfl) (fun _ _ _ h => h) (Or.inl ⟨by rfl, ?_⟩) hHeld ?_
            · intro wy hy; go_simp
            (try simp only [Act.put, List.getElem_toArray, List.getElem_cons_zero, List.getElem_cons_succ, List.setIfInBounds_toArray, List.set_cons_zero, List.set_cons_succ])
            refine wpAnyH_ready (rs := [8]) (by kernel_rfl) (by simp) ?_
            refine AllReadyH.cons rfl (fun K hK => ?_) AllReadyH.nil
            rw [if_pos (by rfl)]
            (try simp only [List.getElem_toArray, List.getElem_cons_zero, List.getElem_cons_succ])
            go_wp2_with (go_at_call 232; refine (HT.out _).mono ?_; rintro e w6 ⟨rfl, b6⟩)
            replace st := st.keep b6
            refine hK.out _ _ ⟨hHeld.1.keep b6 (Nat.le_refl _), hHeld.2.keep b6⟩ (fun hHeld => ?_)
            clear b6
            clear hK K
            (try simp only [Act.put, List.getElem_toArray, List.getElem_cons_zero, List.getElem_cons_succ, List.setIfInBounds_toArray, List.set_cons_zero, List.set_cons_succ])
            refine wpAnyH_ready (rs := [9]) (by kernel_rfl) (by simp) ?_
            refine AllReadyH.cons rfl (fun K hK => ?_) AllReadyH.nil
            rw [if_pos (by rfl)]
            (try simp only [List.getElem_toArray, List.getElem_cons_zero, List.getElem_cons_succ])
            go_wp2_with (go_at_call 231; refine (HP.out _).mono ?_; rintro e w7 ⟨rfl, b7⟩)
            replace st := st.keep b7
            refine hK.out _ _ ⟨hHeld.1.keep b7 (Nat.le_refl _), hHeld.2.keep b7⟩ (fun hHeld => ?_)
            clear b7
            clear hK K
            (try simp only [Act.put, List.getElem_toArray, List.getElem_cons_zero, List.getElem_cons_succ, List.setIfInBounds_toArray, List.set_cons_zero, List.set_cons_succ])
            refine wpAnyH_ready (rs := [10]) (by kernel_rfl) (by simp) ?_
            refine AllReadyH.cons rfl (fun K hK => ?_) AllReadyH.nil
            rw [if_pos (by rfl)]
            (try simp only [List.getElem_toArray, List.getElem_cons_zero, List.getElem_cons_succ])
            have R9 := hHeld.1
            obtain ⟨q0, q1⟩ := (st.box 0 (wo.heap.size, [.int .i64 Y1, .int .i64 Y2]) rfl).cell2
            have qz := (st.box 0 (wo.heap.size, [.int .i64 Y1, .int .i64 Y2]) rfl).2.2
            dsimp only at q0 q1 qz
            go_simp
            have F9 := ((Frame.refl wo.heap.size (wo.heap.size + 1) w7).setCell (p := ⟨wo.heap.size, 0, none⟩) (Nat.le_refl _) (Nat.lt_succ_self _) (.int .i64 V1)).setCell (p := ⟨wo.heap.size, 1, none⟩) (Nat.le_refl _) (Nat.lt_succ_self _) (.int .i64 V2)
            replace st := st.headR ((st.box 0 (wo.heap.size, [.int .i64 Y1, .int .i64 Y2]) rfl).set2Q (u0 := .int .i64 V1) (u1 := .int .i64 V2)) F9 (by omega) (by intro q hq; simp only [List.mem_cons, List.not_mem_nil, or_false] at hq; rcases hq with rfl <;> dsimp only <;> omega) (by intro q hq; cases hq)
            refine hK.out _ _ ⟨R9.keepF F9 (by omega), st.subR (fun b hb => List.mem_cons_of_mem _ hb) (fun _ h => h)⟩ (fun hHeld => ?_)
            clear hK K
            (try simp only [Act.put, List.getElem_toArray, List.getElem_cons_zero, List.getElem_cons_succ, List.setIfInBounds_toArray, List.set_cons_zero, List.set_cons_succ])
            refine wpAnyH_done (by kernel_rfl) ?_ _
            have R9 := Lib.hid hHeld.1
            clear hHeld
            go_wp2
            go_roundw
            case rel =>
              refine ⟨t + 1, by omega, by go_num, by rw [HC2.out], R9.out, ?_⟩
              rw [HY2.out]
              exact st
            case measure => simp [intOf] <;> omega
          · rw [if_pos (by rfl)]
            (try simp only [List.getElem_toArray, List.getElem_cons_zero, List.getElem_cons_succ])
            go_wp2_with (go_at_call 232; refine (HT.out _).mono ?_; rintro e w6 ⟨rfl, b6⟩)
            replace st := st.keep b6
            refine hK.out _ _ ⟨hHeld.1.keep b6 (Nat.le_refl _), hHeld.2.keep b6⟩ (fun hHeld => ?_)
            clear b6
            clear hK K
            (try simp only [Act.put, List.getElem_toArray, List.getElem_cons_zero, List.getElem_cons_succ, List.setIfInBounds_toArray, List.set_cons_zero, List.set_cons_succ])
            refine wpAnyH_ready (rs := [0]) (by kernel_rfl) (by simp) ?_
            refine AllReadyH.cons rfl (fun K hK => ?_) AllReadyH.nil
            rw [if_pos (by rfl)]
            (try simp only [List.getElem_toArray, List.getElem_cons_zero, List.getElem_cons_succ])
            obtain ⟨q0, q1⟩ := (st.box 0 (wo.heap.size, [.int .i64 Y1, .int .i64 Y2]) rfl).cell2
            dsimp only at q0 q1
            go_simp
            refine hK.out _ _ hHeld (fun hHeld => ?_)
            clear hK K
            (try simp only [Act.put, List.getElem_toArray, List.getElem_cons_zero, List.getElem_cons_succ, List.setIfInBounds_toArray, List.set_cons_zero, List.set_cons_succ])
            refine wpAnyH_take (i := 1) (v := .iface 145 (.agg #[.int .i64 Y1, .int .i64 Y2])) rfl (by kernel_rfl) (by kernel_rfl) (by kernel_rfl) (fun _ _ _ h => h) (Or.inl ⟨by rfl, ?_⟩) hHeld ?_
            · intro wy hy; go_simp
            (try simp only [Act.put, List.getElem_toArray, List.getElem_cons_zero, List.getElem_cons_succ, List.setIfInBounds_toArray, List.set_cons_zero, List.set_cons_succ])
            refine wpAnyH_ready (rs := [9]) (by kernel_rfl) (by simp) ?_
            refine AllReadyH.cons rfl (fun K hK => ?_) AllReadyH.nil
            rw [if_pos (by rfl)]
            (try simp only [List.getElem_toArray, List.getElem_cons_zero, List.getElem_cons_succ])
            go_wp2_with (go_at_call 231; refine (HP.out _).mono ?_; rintro e w7 ⟨rfl, b7⟩)
            replace st := st.keep b7
            refine hK.out _ _ ⟨hHeld.1.keep b7 (Nat.le_refl _), hHeld.2.keep b7⟩ (fun hHeld => ?_)
            clear b7
            clear hK K
            (try simp only [Act.put, List.getElem_toArray, List.getElem_cons_zero, List.getElem_cons_succ, List.setIfInBounds_toArray, List.set_cons_zero, List.set_cons_succ])
            refine wpAnyH_ready (rs := [10]) (by kernel_rfl) (by simp) ?_
            refine AllReadyH.cons rfl (fun K hK => ?_) AllReadyH.nil
            rw [if_pos (by rfl)]
            (try simp only [List.getElem_toArray, List.getElem_cons_zero, List.getElem_cons_succ])
            have R9 := hHeld.1
            obtain ⟨q0, q1⟩ := (st.box 0 (wo.heap.size, [.int .i64 Y1, .int .i64 Y2]) rfl).cell2
            have qz := (st.box 0 (wo.heap.size, [.int .i64 Y1, .int .i64 Y2]) rfl).2.2
            dsimp only at q0 q1 qz
            go_simp
            have F9 := ((Frame.refl wo.heap.size (wo.heap.size + 1) w7).setCell (p := ⟨wo.heap.size, 0, none⟩) (Nat.le_refl _) (Nat.lt_succ_self _) (.int .i64 V1)).setCell (p := ⟨wo.heap.size, 1, none⟩) (Nat.le_refl _) (Nat.lt_succ_self _) (.int .i64 V2)
            replace st := st.headR ((st.box 0 (wo.heap.size, [.int .i64 Y1, .int .i64 Y2]) rfl).set2Q (u0 := .int .i64 V1) (u1 := .int .i64 V2)) F9 (by omega) (by intro q hq; simp only [List.mem_cons, List.not_mem_nil, or_false] at hq; rcases hq with rfl <;> dsimp only <;> omega) (by intro q hq; cases hq)
            refine hK.out _ _ ⟨R9.keepF F9 (by omega), st.subR (fun b hb => List.mem_cons_of_mem _ hb) (fun _ h => h)⟩ (fun hHeld => ?_)
            clear hK K
            (try simp only [Act.put, List.getElem_toArray, List.getElem_cons_zero, List.getElem_cons_succ, List.setIfInBounds_toArray, List.set_cons_zero, List.set_cons_succ])
            refine wpAnyH_done (by kernel_rfl) ?_ _
            have R9 := Lib.hid hHeld.1
            clear hHeld
            go_wp2
            go_roundw
            case rel =>
              refine ⟨t + 1, by omega, by go_num, by rw [HC2.out], R9.out, ?_⟩
              rw [HY2.out]
              exact st
            case measure => simp [intOf] <;> omega
        · obtain rfl : t = j := by omega
          have BQ := beQ_all (k := t) (by omega)
          have HNEG := Lib.hid BQ.neg
          have HOV := Lib.hid BQ.ov
          have HE0 := Lib.hid (beQ_succ t)
          clear BQ
          obtain ⟨Y1, Y2, hY⟩ : ∃ Y1 Y2, smQ (blQ t) (t + 2) t = (Y1, Y2) := ⟨_, _, rfl⟩
          have HN := Lib.hid (show nxQ (blQ t) (t + 2) = ovF (tiF (smQ (blQ t) (t + 2) t) (-1)) (t + 2 : Nat) from rfl)
          rw [hY] at HNEG HOV HN st
          clear hY
          dsimp only at st
          have HT := Lib.hid (fun w' => timesQ_any Y1 Y2 (-1) HNEG.out w')
          obtain ⟨U1, U2, hU⟩ : ∃ U1 U2, tiF (Y1, Y2) (-1) = (U1, U2) := ⟨_, _, rfl⟩
          rw [hU] at HT HOV HN
          dsimp only at HT
          have HO := Lib.hid (fun w' => overQ_any U1 U2 (t + 2 : Nat) HOV.out w')
          rw [← HN.out, ← HE0.out] at HO
          obtain ⟨E1, E2, hE⟩ : ∃ E1 E2, beQ (t + 1) = (E1, E2) := ⟨_, _, rfl⟩
          rw [hE] at HO
          have HE := Lib.hid hE
          have e2 : ((t + 2 : Nat) : Int) = (t : Int) + 2 := by omega
          rw [e2] at HO
          dsimp only at HO
          clear hU hE e2 HNEG HOV HE0 HN
          obtain ⟨q0, q1⟩ := (st.box 0 (wo.heap.size, [.int .i64 Y1, .int .i64 Y2]) rfl).cell2
          dsimp only at q0 q1
          go_wp2_with (first
            | (go_at_call 232; refine (HT.out _).mono ?_; rintro e w6 ⟨rfl, b6⟩
               replace st := st.keep b6
               have R2 := Lib.hid (R1.out.keep b6 (Nat.le_refl _))
               clear b6 q0 q1 R1)
            | (go_at_call 230; refine (HO.out _).mono ?_; rintro e w7 ⟨rfl, b7⟩
               replace st := st.keep b7
               have R3 := Lib.hid ((R2.out.keep b7 (Nat.le_refl _)))
               have hb7 := b7.size
               clear b7 R2)
            | (at_builtin; refine wpList_pushFq rfl (.tmp 44) (.tmp 51) rfl rfl (w.heap.size + 1) g cap (t + 1) (fun i => [.int .i64 (beQ i).1, .int .i64 (beQ i).2]) rfl (R3.out.alloc _) w7.heap.size E1 E2 rfl (heap_alloc_new w7 _) (by omega) ?_; intro gA kA wA rowA grA orA ltA
               have stA := Lib.hid ((st.alloc (.cells #[.int .i64 E1, .int .i64 E2] 145)).write (Frame.ofGrown grA) (by omega) (by intro q hq; simp only [List.mem_cons, List.not_mem_nil, or_false] at hq; rcases hq with rfl | rfl <;> dsimp only <;> omega) (by intro s hs'; cases hs'))
               have RA := Lib.hid rowA
               clear rowA grA))
          go_roundw
          case rel =>
            refine ⟨t + 1, gA, kA, by omega, rfl, by go_num, RA.out.congr (fun i hi => ?_), stA.out.subR (fun b hb => by simp only [List.mem_cons, List.not_mem_nil, or_false] at hb ⊢; exact .inr hb) (fun _ h => h)⟩
            by_cases e : i < t + 1
            · rw [if_pos e]
            · obtain rfl : i = t + 1 := by omega
              rw [if_neg e]; rw [HE.out]
          case measure => simp [intOf] <;> omega
    · obtain rfl : j = K := by omega
      have BB := st.1
      have hc1 : ¬ (j : Int) + 2 ≤ (j : Int) + 1 := by omega
      go_wp2
      go_ret
      exact ⟨g, cap, rfl, R1.out, BB⟩
theorem BernoulliOf_impl_no (k : Int) (h : k < 0 ∨ 20 < k) (w : World) :
    Calls Try.prog 57 #[.int .i64 k] w fun e w' => e = .returned (.tuple #[.int .i64 0, .int .i64 0, .int .i64 2]) ∧ Below w.heap.size w w' := by
  by_cases h0 : k < 0
  · clear h
    go_enter Try.func57, Try.ntmps57
    go_wp2
    go_returns
    exact ⟨rfl, Below.refl _ _⟩
  · have h20 : 20 < k := by omega
    clear h
    go_enter Try.func57, Try.ntmps57
    go_wp2
    go_returns
    exact ⟨rfl, Below.refl _ _⟩
theorem BernoulliOf_impl_ok (K : Nat) (hK : K ≤ 20) (w : World) :
    Calls Try.prog 57 #[.int .i64 (K : Int)] w fun e w' => e = .returned (.tuple #[.int .i64 (beQ K).1, .int .i64 (beQ K).2, .int .i64 0]) ∧ Below w.heap.size w w' := by
  have HB := Lib.hid (fun w' => bernQ_any K hK w')
  go_enter Try.func57, Try.ntmps57
  go_wp2_with (first
    | (go_at_call 133; refine (HB.out _).mono ?_; rintro e w2 ⟨g, cap, rfl, r2, b2⟩
       have q0 := r2.cell (fun _ => rfl) (show K < K + 1 by omega) (show 0 < 2 by omega)
       have q1 := r2.cell (fun _ => rfl) (show K < K + 1 by omega) (show 1 < 2 by omega)
       simp only [Nat.add_zero, List.getElem?_cons_zero, List.getElem?_cons_succ] at q0 q1
       have hz2 := b2.size
       clear r2))
  go_region
  go_wp2
  go_returns
  exact ⟨rfl, by go_grown⟩
end

section
open Go.RowKit Go.ChangeShapes Go.Sort
set_option linter.unusedVariables false
set_option linter.unusedSimpArgs false
set_option maxRecDepth 100000
set_option maxHeartbeats 4000000
theorem BernoulliOf_spec_no (k : Int) (h : k < 0 ∨ 20 < k) (w : World) :
    Calls Try.prog 58 #[.int .i64 k] w fun e w' => e = .returned (.tuple #[.int .i64 0, .int .i64 0, .int .i64 2]) ∧ Below w.heap.size w w' := by
  have H := Lib.hid h
  clear h
  go_enter Try.func58, Try.ntmps58
  go_wp2_with (go_at_call 101; refine (l01In_no _ _ _ _ H.out).mono ?_; rintro e w' ⟨rfl, rfl⟩)
  go_returns
  exact ⟨rfl, Below.refl _ _⟩
theorem maxI_two (P M : Int) (h : max P (-P) = M) : 0 ≤ M ∧ (P < -P → M = -P) ∧ (¬ P < -P → M = P) := by omega
theorem row_cell {w : World} {base g cap n : Nat} {F : Nat → Int} (h : Row w base g cap n F) (hF : ∀ i, i < n → inR (F i)) (hn : n ≤ 1000) {t : Nat} (ht : t < n) : w.cell? ⟨g, t, none⟩ = some (.int .i64 (F t)) := by
  have := (Sl.ofRowF h hF (by unfold maxLen; omega)).known (by omega)
  have := this.2.2.2.1 t ht
  rwa [Nat.zero_add] at this
theorem beQ_in (k : Nat) (h : k < 21) : inR (beQ k).1 ∧ inR (beQ k).2 := by
  obtain ⟨h1, h2⟩ := beQ_bd k h
  rw [inB_iff] at h1
  rw [inP_iff] at h2
  unfold inR
  omega
theorem row_first (w : World) (base : Nat) (x : Int) (F : Nat → Int) (hb : base ≤ w.heap.size) (hF : F 0 = x) : Row (w.alloc (.cells #[.int .i64 x] 2)) base w.heap.size 1 1 F :=
  ⟨by simp, .inr ⟨w.heap.size, 1, #[.int .i64 x], rfl, hb, heap_alloc_new w _, Nat.le_refl _, by decide, by simp, by simp [hF]⟩⟩
theorem BernoulliOf_spec_ok (K : Nat) (hK : K ≤ 20) (w : World) :
    Calls Try.prog 58 #[.int .i64 (K : Int)] w fun e w' => e = .returned (.tuple #[.int .i64 (beQ K).1, .int .i64 (beQ K).2, .int .i64 0]) ∧ Below w.heap.size w w' := by
  have R0 := row_first w w.heap.size 1 (fun i => (beQ i).1) (Nat.le_refl _) rfl
  have R0' := row_first (w.alloc (.cells #[.int .i64 1] 2)) w.heap.size 1 (fun i => (beQ i).2) (by simp) rfl
  simp only [World.size_alloc] at R0'
  have HRA := Lib.hid (R0.alloc (.cells #[.int .i64 1] 2))
  have HRB := Lib.hid R0'
  have HST := Lib.hid (((St.start w).alloc (.cells #[.int .i64 1] 2)).alloc (.cells #[.int .i64 1] 2))
  clear R0 R0'
  go_enter Try.func58, Try.ntmps58
  go_wp2_with (first
    | (go_at_call 101; refine (l01In_yes _ _ _ _ (by omega) (by omega)).mono ?_; rintro e w' ⟨rfl, rfl⟩))
  go_loopw [5, 6, 7] (fun s5 s6 s7 wr => ∃ (j gA cA gB cB : Nat), j ≤ K ∧ s5 = .slice (some ⟨gA, 0, none⟩) (j + 1) cA ∧ s6 = .slice (some ⟨gB, 0, none⟩) (j + 1) cB ∧ s7 = .int .i64 ((j : Int) + 1) ∧ gA ≠ gB ∧ Row wr w.heap.size gA cA (j + 1) (fun i => (beQ i).1) ∧ Row wr w.heap.size gB cB (j + 1) (fun i => (beQ i).2) ∧ St w wr [] []) (fun _ _ s7 _ => K + 2 - (intOf s7).toNat)
  case atStart => exact ⟨0, _, _, _, _, Nat.zero_le _, rfl, rfl, rfl, by omega, HRA.out, HRB.out, HST.out⟩
  case round =>
    clear HRA HRB HST
    rename World => wo
    obtain ⟨j, gA, cA, gB, cB, hj, rfl, rfl, rfl, hne, hra, hrb, st⟩ := hrel
    have RA1 := Lib.hid hra
    have RB1 := Lib.hid hrb
    have HNE := Lib.hid hne
    clear hra hrb hne
    by_cases hlt : j < K
    · have hc1 : (j : Int) + 1 ≤ (K : Int) := by omega
      have HST := Lib.hid st
      have BQ := Lib.hid (beQ_all (k := j) (by omega))
      clear st
      go_wp2
      go_loopw [8, 9, 10] (fun s8 s9 s10 wr => ∃ t : Nat, t ≤ j + 1 ∧ s10 = .int .i64 (t : Int) ∧ s8 = .int .i64 (smD (blQ j) (j + 1) t).1 ∧ s9 = .int .i64 (smD (blQ j) (j + 1) t).2 ∧ Row wr w.heap.size gA cA (j + 1) (fun i => (beQ i).1) ∧ Row wr w.heap.size gB cB (j + 1) (fun i => (beQ i).2) ∧ St w wr [] []) (fun _ _ s10 _ => j + 1 - (intOf s10).toNat)
      case atStart => exact ⟨0, Nat.zero_le _, rfl, rfl, rfl, RA1.out, RB1.out, HST.out⟩
      case round =>
        clear HST RA1 RB1
        obtain ⟨t, ht, rfl, rfl, rfl, hra, hrb, st⟩ := hrel
        have RA1 := Lib.hid hra
        have RB1 := Lib.hid hrb
        clear hra hrb
        by_cases htj : t < j + 1
        · have htji : (t : Int) < (j : Int) + 1 := by omega
          have cA1 := row_cell RA1.out (fun i hi => (beQ_in i (by omega)).1) (by omega) htj
          have cB1 := row_cell RB1.out (fun i hi => (beQ_in i (by omega)).2) (by omega) htj
          have HOK := BQ.out.md t htj
          rw [blQ_get j t (by omega)] at HOK
          have HSM := Lib.hid (show smD (blQ j) (j + 1) (t + 1) = ltF (mdP (smD (blQ j) (j + 1) t) (chC (j + 1 + 1) t) (beQ t)) (mdQ (smD (blQ j) (j + 1) t) (beQ t)) by rw [← blQ_get j t (by omega)]; rfl)
          have HCH := Lib.hid (fun w' => l10Choose_any (j + 1 + 1) t (by omega) (by omega) w')
          rw [show ((j + 1 + 1 : Nat) : Int) = (j : Int) + 1 + 1 by omega] at HCH
          obtain ⟨C, hC⟩ : ∃ C : Int, (chC (j + 1 + 1) t : Int) = C := ⟨_, rfl⟩
          obtain ⟨B1, B2, hB⟩ : ∃ B1 B2, beQ t = (B1, B2) := ⟨_, _, rfl⟩
          obtain ⟨X1, X2, hX⟩ : ∃ X1 X2, smD (blQ j) (j + 1) t = (X1, X2) := ⟨_, _, rfl⟩
          rw [hC] at HOK HSM HCH
          rw [hB] at HOK HSM cA1 cB1
          rw [hX] at HOK HSM
          rw [hX]
          clear hC hB hX
          unfold okD at HOK
          unfold mdP mdQ at HOK HSM
          simp only [Bool.and_eq_true, inB_iff, inP_iff] at HOK
          dsimp only at HOK HSM cA1 cB1 ⊢
          obtain ⟨⟨⟨⟨⟨⟨⟨⟨h1, h2⟩, h3⟩, h4⟩, h5⟩, h6⟩, h7⟩, h8⟩, h9⟩ := HOK
          have hgG := gcdI_one (a := X2) h2.1
          have HG := Lib.hid (fun w' => l01Gcd_any X2 B2 w' (by omega) (by omega) (by omega) (by omega))
          obtain ⟨G, hG⟩ : ∃ G, gcdI X2 B2 = G := ⟨_, rfl⟩
          rw [hG] at hgG HG h5 h7 h8 h9 HSM
          clear hG
          have hD := tdiv_bd (M := 4000000000000000000) hgG.1 (show -4000000000000000000 ≤ B2 by omega) h2.2
          have hE := tdiv_bd (M := 4000000000000000000) hgG.1 (show -4000000000000000000 ≤ X2 by omega) h1.2
          obtain ⟨D, hDe⟩ : ∃ D, B2.tdiv G = D := ⟨_, rfl⟩
          obtain ⟨E, hEe⟩ : ∃ E, X2.tdiv G = E := ⟨_, rfl⟩
          have hDe2 : B2 / G = D := by rw [← Int.tdiv_eq_ediv_of_nonneg (by omega)]; exact hDe
          have hEe2 : X2 / G = E := by rw [← Int.tdiv_eq_ediv_of_nonneg (by omega)]; exact hEe
          rw [hDe] at hD h5 h8 HSM
          rw [hEe] at hE h7 h8 h9 HSM
          obtain ⟨P, hP⟩ : ∃ P, X1 * D + C * B1 * E = P := ⟨_, rfl⟩
          obtain ⟨Q, hQ⟩ : ∃ Q, E * B2 = Q := ⟨_, rfl⟩
          rw [hP] at h8 HSM
          rw [hQ] at h9 HSM
          obtain ⟨M, hM⟩ : ∃ M, max P (-P) = M := ⟨_, rfl⟩
          obtain ⟨hM0, hM1, hM2⟩ := maxI_two P M hM
          have hMb : M ≤ 4000000000000000000 := by omega
          have hgH := gcdI_one (a := M) h9.1
          have HH := Lib.hid (fun w' => l01Gcd_any M Q w' (by omega) (by omega) (by omega) (by omega))
          unfold ltF at HSM
          rw [hM] at HSM
          obtain ⟨g, hg⟩ : ∃ g, gcdI M Q = g := ⟨_, rfl⟩
          rw [hg] at hgH HH HSM
          have HM := Lib.hid hM
          clear hg hM
          have hU := tdiv_bd (M := 4000000000000000000) hgH.1 h8.1 h8.2
          have hV := tdiv_bd (M := 4000000000000000000) hgH.1 (show -4000000000000000000 ≤ Q by omega) h9.2
          obtain ⟨U, hUe⟩ : ∃ U, P.tdiv g = U := ⟨_, rfl⟩
          obtain ⟨V, hVe⟩ : ∃ V, Q.tdiv g = V := ⟨_, rfl⟩
          have hVe2 : Q / g = V := by rw [← Int.tdiv_eq_ediv_of_nonneg (by omega)]; exact hVe
          rw [hUe] at hU HSM
          rw [hVe] at hV HSM
          have hGn : ¬ G = 0 := by omega
          have hgn : ¬ g = 0 := by omega
          have HM1 := Lib.hid hM1
          have HM2 := Lib.hid hM2
          clear hM1 hM2
          have st2 := Lib.hid st
          clear st
          go_wp2_with (first
            | (go_at_call 134; refine (HCH.out _).mono ?_; rintro e w' ⟨rfl, rfl⟩)
            | (go_at_call 124; refine (HG.out _).mono ?_; rintro e w' ⟨rfl, rfl⟩))
          go_region
          go_wp2
          go_region
          go_wp2_with (go_at_call 124; (first
              | ((have e : M = -P := HM1.out (by assumption)); rw [e] at HH; refine (HH.out _).mono ?_; rintro e w' ⟨rfl, rfl⟩)
              | ((have e : M = P := HM2.out (by assumption)); rw [e] at HH; refine (HH.out _).mono ?_; rintro e w' ⟨rfl, rfl⟩)))
          all_goals
            go_roundw
            case rel => exact ⟨t + 1, by omega, by go_num, by rw [HSM.out], by rw [HSM.out], RA1.out, RB1.out, (st2.out.drew).drew⟩
            case measure => simp [intOf] <;> omega
        · obtain rfl : t = j + 1 := by omega
          have HA0 := BQ.out.a
          have HB0 := BQ.out.b
          have HE0 := Lib.hid ((beQ_succ j).trans BQ.out.eq)
          obtain ⟨X1, X2, hX⟩ : ∃ X1 X2, smD (blQ j) (j + 1) (j + 1) = (X1, X2) := ⟨_, _, rfl⟩
          have HE1 := Lib.hid (show nxD (blQ j) (j + 1) = ((-(smD (blQ j) (j + 1) (j + 1)).1).tdiv (gcdI (max (smD (blQ j) (j + 1) (j + 1)).1 (-(smD (blQ j) (j + 1) (j + 1)).1)) ((smD (blQ j) (j + 1) (j + 1)).2 * ((j : Int) + 1 + 1))), ((smD (blQ j) (j + 1) (j + 1)).2 * ((j : Int) + 1 + 1)).tdiv (gcdI (max (smD (blQ j) (j + 1) (j + 1)).1 (-(smD (blQ j) (j + 1) (j + 1)).1)) ((smD (blQ j) (j + 1) (j + 1)).2 * ((j : Int) + 1 + 1)))) from rfl)
          rw [hX] at HA0 HB0 HE1
          rw [hX]
          dsimp only at HA0 HB0 HE1 ⊢
          rw [inB_iff] at HA0
          rw [inP_iff] at HB0
          clear hX
          obtain ⟨Q, hQ⟩ : ∃ Q, X2 * ((j : Int) + 1 + 1) = Q := ⟨_, rfl⟩
          rw [hQ] at HB0 HE1
          obtain ⟨M, hM⟩ : ∃ M, max X1 (-X1) = M := ⟨_, rfl⟩
          obtain ⟨hM0, hM1, hM2⟩ := maxI_two X1 M hM
          have hMb : M ≤ 4000000000000000000 := by omega
          have hgH := gcdI_one (a := M) HB0.1
          have HH := Lib.hid (fun w' => l01Gcd_any M Q w' (by omega) (by omega) (by omega) (by omega))
          rw [hM] at HE1
          obtain ⟨g, hg⟩ : ∃ g, gcdI M Q = g := ⟨_, rfl⟩
          rw [hg] at hgH HH HE1
          clear hg hM
          have hU := tdiv_bd (M := 4000000000000000000) hgH.1 (show -4000000000000000000 ≤ -X1 by omega) (show -X1 ≤ 4000000000000000000 by omega)
          have hV := tdiv_bd (M := 4000000000000000000) hgH.1 (show -4000000000000000000 ≤ Q by omega) HB0.2
          obtain ⟨U, hUe⟩ : ∃ U, (-X1).tdiv g = U := ⟨_, rfl⟩
          obtain ⟨V, hVe⟩ : ∃ V, Q.tdiv g = V := ⟨_, rfl⟩
          have hVe2 : Q / g = V := by rw [← Int.tdiv_eq_ediv_of_nonneg (by omega)]; exact hVe
          rw [hUe] at hU HE1
          rw [hVe] at hV HE1
          have hgn : ¬ g = 0 := by omega
          have HM1 := Lib.hid hM1
          have HM2 := Lib.hid hM2
          have hlA := RA1.out.lt
          have hlB := RB1.out.lt
          have HSTB := Lib.hid st
          clear hM1 hM2 st
          go_wp2_with (first
            | (go_at_call 124; (first
              | ((have e : M = -X1 := HM1.out (by assumption)); rw [e] at HH; refine (HH.out _).mono ?_; rintro e w' ⟨rfl, rfl⟩)
              | ((have e : M = X1 := HM2.out (by assumption)); rw [e] at HH; refine (HH.out _).mono ?_; rintro e w' ⟨rfl, rfl⟩)))
            | ((fail_if_success (have _g := RA2)); at_builtin; refine wpList_push rfl (.tmp 89) (.tmp 94) rfl rfl w.heap.size gA cA (j + 1) (fun i => (beQ i).1) rfl (RA1.out.alloc _) wr.heap.size U rfl (heap_alloc_new wr _) (by omega) ?_; intro gA2 kA wA rowA grA orA ltA
               have stA := Lib.hid ((HSTB.out.alloc (.cells #[.int .i64 U] 2)).write (Frame.ofGrown grA) (by omega) (by intro q hq; cases hq) (by intro s hs'; cases hs'))
               have RA2 := Lib.hid rowA
               have RB2 := Lib.hid ((RB1.out.alloc (.cells #[.int .i64 U] 2)).kept grA (fun e => HNE.out e.symm))
               have hzA := grA.size
               have hneA : gA2 = gA ∨ gA2 = wr.heap.size + 1 := by simpa using orA
               have hzA2 : wr.heap.size + 1 ≤ wA.heap.size := by simpa using hzA
               clear rowA grA RB1 RA1 orA hzA)
            | ((have _g := RA2); at_builtin; refine wpList_push rfl (.tmp 96) (.tmp 100) rfl rfl w.heap.size gB cB (j + 1) (fun i => (beQ i).2) rfl (RB2.out.alloc _) wA.heap.size V rfl (heap_alloc_new wA _) (by omega) ?_; intro gB2 kB wB rowB grB orB ltB
               have stB := Lib.hid ((stA.out.alloc (.cells #[.int .i64 V] 2)).write (Frame.ofGrown grB) (by omega) (by intro q hq; cases hq) (by intro s hs'; cases hs'))
               have RB3 := Lib.hid rowB
               have hne2 : gA2 ≠ gB := by have := HNE.out; omega
               have RA3 := Lib.hid ((RA2.out.alloc (.cells #[.int .i64 V] 2)).kept grB hne2)
               have hneB : gB2 = gB ∨ gB2 = wA.heap.size + 1 := by simpa using orB
               clear rowB grB orB))
          all_goals
            go_roundw
            case rel =>
              refine ⟨j + 1, gA2, kA, gB2, kB, by omega, rfl, rfl, by go_num, by omega, RA3.out.congr (fun i hi => ?_), RB3.out.congr (fun i hi => ?_), stB.out⟩
              · by_cases e : i < j + 1
                · rw [if_pos e]
                · obtain rfl : i = j + 1 := by omega
                  rw [if_neg e, HE0.out, HE1.out]
              · by_cases e : i < j + 1
                · rw [if_pos e]
                · obtain rfl : i = j + 1 := by omega
                  rw [if_neg e, HE0.out, HE1.out]
            case measure => simp [intOf] <;> omega
    · obtain rfl : j = K := by omega
      have BB := st.1
      have cA1 := row_cell RA1.out (fun i hi => (beQ_in i (by omega)).1) (by omega) (Nat.lt_succ_self j)
      have cB1 := row_cell RB1.out (fun i hi => (beQ_in i (by omega)).2) (by omega) (Nat.lt_succ_self j)
      go_wp2
      go_region
      go_wp2
      go_returns
      exact ⟨rfl, by go_grown⟩
end

section
open Go.RowKit Go.ChangeShapes
set_option linter.unusedVariables false
set_option linter.unusedSimpArgs false

/-- p is a prime in the range. -/
def PrP (p : Int) : Prop := 0 ≤ p ∧ primeN p.toNat = true
theorem prime_div {p : Nat} (h : primeN p = true) (k : Nat) (h2 : 2 ≤ k) (hk : k * k ≤ p) : ¬ p % k = 0 := by
  have hb := primeN_bd h
  have hk7 : k ≤ 7 := by
    rcases Nat.lt_or_ge k 8 with h8 | h8
    · omega
    · have := Nat.mul_le_mul h8 h8; omega
  unfold primeN at h
  simp only [Bool.and_eq_true, decide_eq_true_eq] at h
  have := all_range h.2 (k - 2) (by omega)
  rw [show k - 2 + 2 = k by omega] at this
  simp only [Bool.or_eq_true, decide_eq_true_eq] at this
  rcases this with h | h
  · omega
  · exact h
theorem prime_of_div {p k : Nat} (h3 : 3 ≤ p) (h61 : p ≤ 61) (hk : p < k * k) (h : ∀ j, 2 ≤ j → j < k → ¬ p % j = 0) : primeN p = true := by
  unfold primeN
  simp only [Bool.and_eq_true, decide_eq_true_eq]
  refine ⟨⟨h3, h61⟩, List.all_eq_true.2 (fun d hd => ?_)⟩
  simp only [Bool.or_eq_true, decide_eq_true_eq]
  rcases Nat.lt_or_ge p ((d + 2) * (d + 2)) with h1 | h1
  · exact .inl h1
  · refine .inr (h (d + 2) (by omega) ?_)
    rcases Nat.lt_or_ge (d + 2) k with h5 | h5
    · exact h5
    · have := Nat.mul_le_mul h5 h5; omega
theorem sq_le {p k : Nat} (h61 : p ≤ 61) (hk : k * k ≤ p) : k ≤ 7 := by
  rcases Nat.lt_or_ge k 8 with h8 | h8
  · omega
  · have := Nat.mul_le_mul h8 h8; omega

theorem isOddPrime_yes (p : Nat) (hp : primeN p = true) (w : World) :
    Calls Try.prog 136 #[.int .i64 (p : Int)] w fun e w' => e = .returned (.bool true) ∧ ∃ m, w' = w.drewN m := by
  have hb := primeN_bd hp
  have HP := Lib.hid hp; clear hp
  go_enter Try.func136, Try.ntmps136
  go_wp2
  go_loopw [3] (fun s3 wr => ∃ k : Nat, 2 ≤ k ∧ k ≤ 8 ∧ s3 = .int .i64 (k : Int) ∧ ∃ m, wr = w.drewN m) (fun s3 _ => 9 - (intOf s3).toNat)
  case atStart => exact ⟨2, by omega, by omega, rfl, 0, rfl⟩
  case round =>
    obtain ⟨k, hk2, hk8, rfl, m, rfl⟩ := hrel
    have hkk0 : 0 ≤ (k : Int) * (k : Int) := Int.mul_nonneg (by omega) (by omega)
    have hkk1 : (k : Int) * (k : Int) ≤ 64 := Int.mul_le_mul (c := 8) (d := 8) (by omega) (by omega) (by omega) (by omega)
    by_cases hle : k * k ≤ p
    · have hk7 := sq_le (by omega) hle
      have hm := prime_div HP.out k hk2 hle
      have hle2 : (k : Int) * (k : Int) ≤ (p : Int) := by have := Int.ofNat_le.2 hle; rwa [Int.natCast_mul] at this
      have hk0 : ¬ k = 0 := by omega
      have hm2 : (((p : Int) % (k : Int)) == 0) = false := beq_eq_false_iff_ne.2 (fun e => hm (by rw [← Int.natCast_emod] at e; omega))
      clear hm hle
      go_wp2
      go_roundw
      case rel => exact ⟨k + 1, by omega, by omega, by go_num, _, rfl⟩
      case measure => simp [intOf]; omega
    · have hle2 : (p : Int) < (k : Int) * (k : Int) := by have := Int.ofNat_lt.2 (Nat.not_le.1 hle); rwa [Int.natCast_mul] at this
      clear hle
      go_wp2
      go_ret
      exact ⟨rfl, m, rfl⟩
theorem isOddPrime_no (p : Int) (hp : ¬ PrP p) (w : World) :
    Calls Try.prog 136 #[.int .i64 p] w fun e w' => e = .returned (.bool false) ∧ ∃ m, w' = w.drewN m := by
  by_cases hr : 3 ≤ p ∧ p ≤ 61
  · obtain ⟨h3, h61⟩ := hr
    obtain ⟨P, rfl⟩ := Int.eq_ofNat_of_zero_le (show 0 ≤ p by omega)
    have HP := Lib.hid (show ¬ primeN P = true from fun h => hp ⟨by omega, by rwa [Int.toNat_natCast]⟩)
    clear hp
    go_enter Try.func136, Try.ntmps136
    go_wp2
    go_loopw [3] (fun s3 wr => ∃ k : Nat, 2 ≤ k ∧ k ≤ 8 ∧ s3 = .int .i64 (k : Int) ∧ (∀ j, 2 ≤ j → j < k → ¬ P % j = 0) ∧ ∃ m, wr = w.drewN m) (fun s3 _ => 9 - (intOf s3).toNat)
    case atStart => exact ⟨2, by omega, by omega, rfl, fun j h1 h2 => by omega, 0, rfl⟩
    case round =>
      obtain ⟨k, hk2, hk8, rfl, hno, m, rfl⟩ := hrel
      have HN := Lib.hid hno; clear hno
      have hkk0 : 0 ≤ (k : Int) * (k : Int) := Int.mul_nonneg (by omega) (by omega)
      have hkk1 : (k : Int) * (k : Int) ≤ 64 := Int.mul_le_mul (c := 8) (d := 8) (by omega) (by omega) (by omega) (by omega)
      have hle : k * k ≤ P := by
        rcases Nat.lt_or_ge P (k * k) with h | h
        · exact absurd (prime_of_div (by omega) (by omega) h HN.out) HP.out
        · exact h
      have hk7 := sq_le (by omega) hle
      have hle2 : (k : Int) * (k : Int) ≤ (P : Int) := by have := Int.ofNat_le.2 hle; rwa [Int.natCast_mul] at this
      have hk0 : ¬ k = 0 := by omega
      clear hle
      by_cases hm : P % k = 0
      · have hm2 : (((P : Int) % (k : Int)) == 0) = true := by rw [← Int.natCast_emod, hm]; rfl
        clear hm
        go_wp2
        go_ret
        exact ⟨rfl, m, rfl⟩
      · have hm2 : (((P : Int) % (k : Int)) == 0) = false := beq_eq_false_iff_ne.2 (fun e => hm (by rw [← Int.natCast_emod] at e; omega))
        have HM := Lib.hid hm
        clear hm
        go_wp2
        go_roundw
        case rel => exact ⟨k + 1, by omega, by omega, by go_num, fun j h1 h2 => by
          rcases Nat.lt_or_ge j k with h | h
          · exact HN.out j h1 h
          · obtain rfl : j = k := by omega
            exact HM.out, _, rfl⟩
        case measure => simp [intOf]; omega
  · clear hp
    by_cases h3 : p < 3
    · clear hr
      go_enter Try.func136, Try.ntmps136
      go_wp2
      go_ret
      exact ⟨rfl, 0, rfl⟩
    · have h3' : 3 ≤ p := by omega
      have h61 : 61 < p := by omega
      clear hr h3
      go_enter Try.func136, Try.ntmps136
      go_wp2
      go_ret
      exact ⟨rfl, 0, rfl⟩

theorem l03Prime_yes (p : Nat) (hp : primeN p = true) (w : World) :
    Calls Try.prog 165 #[.int .i64 (p : Int)] w fun e w' => e = .returned (.bool true) ∧ ∃ m, w' = w.drewN m := by
  have hb := primeN_bd hp
  have HP := Lib.hid hp; clear hp
  go_enter Try.func165, Try.ntmps165
  go_wp2_with (go_at_call 101; refine (l01In_yes _ _ _ _ (by omega) (by omega)).mono ?_; rintro e w' ⟨rfl, rfl⟩)
  go_loopw [3] (fun s3 wr => ∃ k : Nat, 2 ≤ k ∧ k ≤ 8 ∧ s3 = .int .i64 (k : Int) ∧ ∃ m, wr = w.drewN m) (fun s3 _ => 9 - (intOf s3).toNat)
  case atStart => exact ⟨2, by omega, by omega, rfl, 0, rfl⟩
  case round =>
    obtain ⟨k, hk2, hk8, rfl, m, rfl⟩ := hrel
    have hkk0 : 0 ≤ (k : Int) * (k : Int) := Int.mul_nonneg (by omega) (by omega)
    have hkk1 : (k : Int) * (k : Int) ≤ 64 := Int.mul_le_mul (c := 8) (d := 8) (by omega) (by omega) (by omega) (by omega)
    by_cases hle : k * k ≤ p
    · have hk7 := sq_le (by omega) hle
      have hm := prime_div HP.out k hk2 hle
      have hle2 : (k : Int) * (k : Int) ≤ (p : Int) := by have := Int.ofNat_le.2 hle; rwa [Int.natCast_mul] at this
      have hk0 : ¬ k = 0 := by omega
      have hm2 : (((p : Int) % (k : Int)) == 0) = false := beq_eq_false_iff_ne.2 (fun e => hm (by rw [← Int.natCast_emod] at e; omega))
      clear hm hle
      go_wp2
      go_roundw
      case rel => exact ⟨k + 1, by omega, by omega, by go_num, _, rfl⟩
      case measure => simp [intOf]; omega
    · have hle2 : (p : Int) < (k : Int) * (k : Int) := by have := Int.ofNat_lt.2 (Nat.not_le.1 hle); rwa [Int.natCast_mul] at this
      clear hle
      go_wp2
      go_ret
      exact ⟨rfl, m, rfl⟩
theorem l03Prime_no (p : Int) (hp : ¬ PrP p) (w : World) :
    Calls Try.prog 165 #[.int .i64 p] w fun e w' => e = .returned (.bool false) ∧ ∃ m, w' = w.drewN m := by
  by_cases hr : 3 ≤ p ∧ p ≤ 61
  · obtain ⟨h3, h61⟩ := hr
    obtain ⟨P, rfl⟩ := Int.eq_ofNat_of_zero_le (show 0 ≤ p by omega)
    have HP := Lib.hid (show ¬ primeN P = true from fun h => hp ⟨by omega, by rwa [Int.toNat_natCast]⟩)
    clear hp
    go_enter Try.func165, Try.ntmps165
    go_wp2_with (go_at_call 101; refine (l01In_yes _ _ _ _ (by omega) (by omega)).mono ?_; rintro e w' ⟨rfl, rfl⟩)
    go_loopw [3] (fun s3 wr => ∃ k : Nat, 2 ≤ k ∧ k ≤ 8 ∧ s3 = .int .i64 (k : Int) ∧ (∀ j, 2 ≤ j → j < k → ¬ P % j = 0) ∧ ∃ m, wr = w.drewN m) (fun s3 _ => 9 - (intOf s3).toNat)
    case atStart => exact ⟨2, by omega, by omega, rfl, fun j h1 h2 => by omega, 0, rfl⟩
    case round =>
      obtain ⟨k, hk2, hk8, rfl, hno, m, rfl⟩ := hrel
      have HN := Lib.hid hno; clear hno
      have hkk0 : 0 ≤ (k : Int) * (k : Int) := Int.mul_nonneg (by omega) (by omega)
      have hkk1 : (k : Int) * (k : Int) ≤ 64 := Int.mul_le_mul (c := 8) (d := 8) (by omega) (by omega) (by omega) (by omega)
      have hle : k * k ≤ P := by
        rcases Nat.lt_or_ge P (k * k) with h | h
        · exact absurd (prime_of_div (by omega) (by omega) h HN.out) HP.out
        · exact h
      have hk7 := sq_le (by omega) hle
      have hle2 : (k : Int) * (k : Int) ≤ (P : Int) := by have := Int.ofNat_le.2 hle; rwa [Int.natCast_mul] at this
      have hk0 : ¬ k = 0 := by omega
      clear hle
      by_cases hm : P % k = 0
      · have hm2 : (((P : Int) % (k : Int)) == 0) = true := by rw [← Int.natCast_emod, hm]; rfl
        clear hm
        go_wp2
        go_ret
        exact ⟨rfl, m, rfl⟩
      · have hm2 : (((P : Int) % (k : Int)) == 0) = false := beq_eq_false_iff_ne.2 (fun e => hm (by rw [← Int.natCast_emod] at e; omega))
        have HM := Lib.hid hm
        clear hm
        go_wp2
        go_roundw
        case rel => exact ⟨k + 1, by omega, by omega, by go_num, fun j h1 h2 => by
          rcases Nat.lt_or_ge j k with h | h
          · exact HN.out j h1 h
          · obtain rfl : j = k := by omega
            exact HM.out, _, rfl⟩
        case measure => simp [intOf]; omega
  · have H := Lib.hid (show p < 3 ∨ 61 < p by omega)
    clear hp hr
    go_enter Try.func165, Try.ntmps165
    go_wp2_with (go_at_call 101; refine (l01In_no _ _ _ _ H.out).mono ?_; rintro e w' ⟨rfl, rfl⟩)
    go_ret
    exact ⟨rfl, 0, rfl⟩

theorem pwr_succ (p g k : Nat) : pwr p g (k + 1) = pwr p g k * g % p := rfl
theorem pwr_one {p g : Nat} (h : g < p) : pwr p g 1 = g := by show 1 * g % p = g; rw [Nat.one_mul, Nat.mod_eq_of_lt h]
theorem pwr_step {p g k : Nat} (hp : 3 ≤ p) : ((pwr p g k : Nat) : Int) * (g : Int) % (p : Int) = ((pwr p g (k + 1) : Nat) : Int) := by
  rw [pwr_succ, ← Int.natCast_mul, ← Int.natCast_emod]
/-- The rest of x by p, as a number. -/
def restN (p : Nat) (x : Int) : Nat := ((x.tmod p + p) % p).toNat
theorem restN_eq (p : Nat) (h : 1 ≤ p) (x : Int) : (x.tmod p + p) % p = (restN p x : Int) ∧ restN p x < p ∧ -(p : Int) < x.tmod p ∧ x.tmod p < p := by
  have h2 := Int.emod_nonneg (x.tmod p + p) (b := (p : Int)) (by omega)
  have h3 := Int.emod_lt_of_pos (x.tmod p + p) (b := (p : Int)) (by omega)
  have h4 := Int.tmod_lt_of_pos x (b := (p : Int)) (by omega)
  have h5 := Int.lt_tmod_of_pos x (b := (p : Int)) (by omega)
  unfold restN
  omega
theorem restN_nat {p x : Nat} (h : x < p) : restN p (x : Int) = x := by
  unfold restN
  rw [Int.tmod_eq_emod_of_nonneg (by omega)]
  have e : (((x : Int) % (p : Int)) + (p : Int)) % (p : Int) = (x : Int) := by
    rw [Int.emod_eq_of_lt (a := (x : Int)) (by omega) (by omega)]
    rw [Int.add_emod_right, Int.emod_eq_of_lt (by omega) (by omega)]
  rw [e]; simp
theorem restN_zero {p : Nat} (h : 1 ≤ p) (x : Int) : restN p x = 0 ↔ x.tmod p = 0 := by
  obtain ⟨h1, h2, h3, h4⟩ := restN_eq p h x
  constructor
  · intro e
    rw [e] at h1
    obtain ⟨q, hq⟩ := Int.dvd_of_emod_eq_zero h1
    have : q = 1 := by
      have ha : 0 < (p : Int) * q := by omega
      have hb : (p : Int) * q < (p : Int) * 2 := by omega
      have h5 : q < 2 := Int.lt_of_mul_lt_mul_left hb (by omega)
      have h6 : 0 < q := by
        rcases Int.lt_or_le 0 q with h | h
        · exact h
        · have := Int.mul_nonpos_of_nonneg_of_nonpos (show 0 ≤ (p : Int) by omega) h; omega
      omega
    subst this
    omega
  · intro e
    rw [e, Int.zero_add, Int.emod_self] at h1
    omega
end

section
open Go.RowKit Go.ChangeShapes Go.Shelf
set_option linter.unusedVariables false
set_option linter.unusedSimpArgs false
attribute [local go_sem] Oper.semAt_some

/-- The pair that comes at the place i. -/
abbrev encP (p g m : Nat) (i : Fin m) : Array Value := #[.int .i64 (i.1 : Int), .int .i64 (pwr p g i.1 : Nat)]

/-- Two blocks lie as they lay. -/
def Keeps2 (a b : Nat) (W W' : World) : Prop := W'.heap[a]? = W.heap[a]? ∧ W'.heap[b]? = W.heap[b]?
theorem Keeps2.refl (a b : Nat) (W : World) : Keeps2 a b W W := ⟨rfl, rfl⟩
theorem Keeps2.trans {a b : Nat} {X Y Z : World} (h : Keeps2 a b X Y) (k : Keeps2 a b Y Z) : Keeps2 a b X Z := ⟨k.1.trans h.1, k.2.trans h.2⟩
theorem Keeps2.below {a b B : Nat} {W W' : World} (h : Below B W W') (ha : a < B) (hb : b < B) : Keeps2 a b W W' := ⟨h.block a ha, h.block b hb⟩
theorem Keeps2.setCell {a b : Nat} {W : World} {q : Addr} (u : Value) (ha : a ≠ q.block) (hb : b ≠ q.block) : Keeps2 a b W (W.setCell q u) := ⟨Below.heap_setCell _ _ _ _ (by omega), Below.heap_setCell _ _ _ _ (by omega)⟩
theorem Keeps2.put {a b : Nat} {W : World} {l : Nat} (o' : Obj) (ha : a ≠ l) (hb : b ≠ l) : Keeps2 a b W (W.putObj l o') := ⟨World.putObj_heap_other (by omega), World.putObj_heap_other (by omega)⟩
theorem Keeps2.at {a b n₀ : Nat} (ha : a < n₀) (hb : b < n₀) (W : World) (l : Nat) (o o' : Obj) (hl : n₀ ≤ l) (h : W.heap[l]? = some o) (_ : o.isCells = false) (_ : o.isWalk = false) : Keeps2 a b W (W.putObj l o') := Keeps2.put o' (by omega) (by omega)

/-- A new variable of one cell. -/
theorem var_new (W : World) (v : Value) (t : TypeId) : (W.alloc (.cells #[v] t)).cell? ⟨W.heap.size, 0, none⟩ = some v ∧ (W.alloc (.cells #[v] t)).frozen? ⟨W.heap.size, 0, none⟩ = false := by
  have h := Box.made W #[v] t [v] (fun j u h => by simpa using h)
  exact ⟨h.2.1 0 v rfl, h.2.2 0⟩
theorem var_cell {W : World} {b k : Nat} {v : Value} (o : Obj) (h : W.cell? ⟨b, k, none⟩ = some v) : (W.alloc o).cell? ⟨b, k, none⟩ = some v := ((Below.refl W.heap.size W).alloc (Nat.le_refl _) o).cell (p := ⟨b, k, none⟩) (World.block_lt_of_cell? _ _ h) |>.trans h
theorem var_free {W : World} {b k : Nat} {v : Value} (o : Obj) (h : W.cell? ⟨b, k, none⟩ = some v) (hf : W.frozen? ⟨b, k, none⟩ = false) : (W.alloc o).frozen? ⟨b, k, none⟩ = false := ((Below.refl W.heap.size W).alloc (Nat.le_refl _) o).frozen (p := ⟨b, k, none⟩) (World.block_lt_of_cell? _ _ h) |>.trans hf

end

section
open Go.RowKit Go.ChangeShapes Go.Shelf
set_option linter.unusedVariables false
set_option linter.unusedSimpArgs false
attribute [local go_sem] Oper.semAt_some

theorem Box.keepB {w w' : World} {b B : Nat} {vs : List Value} (h : Box w b vs) (hb : Below B w w') (hB : b < B) : Box w' b vs :=
  ⟨Nat.lt_of_lt_of_le h.1 hb.size, fun j v hv => (hb.cell (p := ⟨b, j, none⟩) hB).trans (h.2.1 j v hv), fun k => (hb.frozen (p := ⟨b, k, none⟩) hB).trans (h.2.2 k)⟩
theorem Box.set1 {w : World} {b : Nat} {v : Value} (h : Box w b [v]) (u : Value) : Box (w.setCell ⟨b, 0, none⟩ u) b [u] :=
  ⟨by simpa using h.1, fun j x hx => by
    rcases j with _ | j
    · simp only [List.getElem?_cons_zero, Option.some.injEq] at hx
      subst hx
      exact World.cell?_setCell_same _ _ _ (h.2.1 0 v rfl)
    · simp at hx, fun k => by simpa using h.2.2 k⟩
theorem Box.other {w : World} {b : Nat} {vs : List Value} (h : Box w b vs) (q : Addr) (u : Value) (hq : b ≠ q.block) : Box (w.setCell q u) b vs :=
  h.keepF ((Frame.refl q.block (q.block + 1) w).setCell (Nat.le_refl _) (Nat.lt_succ_self _) u) (by omega)
theorem grown_below {B : Nat} {A A' : World} {row : Option Nat} (hg : A.grownBy A' row) (hr : ∀ r, row = some r → B ≤ r ∧ ∃ o : Obj, A.heap[r]? = some o ∧ o.isCells = false) (hB : B ≤ A.heap.size) : Below B A A' :=
  ⟨hg.os, hg.tape, hg.output, hg.size, fun k hk => hg.block k (by omega) (fun e => by have := (hr k e.symm).1; omega)⟩

end

section
open Go.RowKit Go.ChangeShapes Go.Shelf
set_option linter.unusedVariables false
set_option linter.unusedSimpArgs false
set_option maxRecDepth 100000
attribute [local go_sem] Oper.semAt_some

theorem restBy_any (x q : Int) (h1 : 1 ≤ q) (h2 : q ≤ 1000000000) (hx : -2000000000000000000 ≤ x) (hx' : x ≤ 2000000000000000000) (w : World) :
    Calls Try.prog 211 #[.int .i64 x, .int .i64 q] w fun r w' => r = .returned (.int .i64 (x % q)) ∧ w = w' := by
  have e1 := Int.tmod_lt_of_pos x (b := q) (by omega)
  have e2 := Int.lt_tmod_of_pos x (b := q) (by omega)
  have e3 : (x.tmod q + q) % q = x % q := by
    rw [Int.add_emod_right, Int.tmod_def, Int.sub_emod, Int.mul_emod_right, Int.sub_zero, Int.emod_emod]
  have e4 := Int.emod_nonneg x (b := q) (by omega)
  have e5 := Int.emod_lt_of_pos x (b := q) (by omega)
  have hq : ¬ q = 0 := by omega
  have E3 := Lib.hid e3
  clear e3
  go_enter Try.func211, Try.ntmps211
  go_wp2
  go_ret
  exact ⟨by rw [E3.out]; rfl, rfl⟩

theorem pwr_lt {p g : Nat} (h : 2 ≤ p) : ∀ k, pwr p g k < p
  | 0 => by show 1 < p; omega
  | k + 1 => Nat.mod_lt _ (by omega)
theorem powerModulo_any (l x k : Nat) (hl : 2 ≤ l) (hl2 : l ≤ 61) (hx : x < l) (hk : k ≤ 100) (w : World) :
    Calls Try.prog 237 #[.int .i64 (x : Int), .int .i64 (k : Int), .int .i64 (l : Int)] w fun r w' => r = .returned (.int .i64 (pwr l x k : Nat)) ∧ ∃ m, w' = w.drewN m := by
  go_enter Try.func237, Try.ntmps237
  go_wp2
  go_loopw [7, 9] (fun s7 s9 wr => ∃ i : Nat, i ≤ k ∧ s7 = .int .i64 (pwr l x i : Nat) ∧ s9 = .int .i64 (i : Int) ∧ ∃ m, wr = w.drewN m) (fun _ s9 _ => k - (intOf s9).toNat)
  case atStart => exact ⟨0, by omega, rfl, rfl, 0, rfl⟩
  case round =>
    obtain ⟨i, hi, rfl, rfl, m, rfl⟩ := hrel
    by_cases hlt : i < k
    · have hb := pwr_lt (p := l) (g := x) (by omega) i
      have hp0 : 0 ≤ ((pwr l x i : Nat) : Int) * (x : Int) := Int.mul_nonneg (by omega) (by omega)
      have hp1 : ((pwr l x i : Nat) : Int) * (x : Int) ≤ 61 * 61 := Int.mul_le_mul (by omega) (by omega) (by omega) (by omega)
      have hl0 : ¬ l = 0 := by omega
      have HS := Lib.hid (show ((pwr l x i : Nat) : Int) * (x : Int) % (l : Int) = ((pwr l x (i + 1) : Nat) : Int) by rw [pwr_succ, ← Int.natCast_mul, ← Int.natCast_emod])
      go_wp2
      go_roundw
      case rel => exact ⟨i + 1, by omega, by rw [← HS.out], by go_num, _, rfl⟩
      case measure => simp [intOf]; omega
    · obtain rfl : i = k := by omega
      go_wp2
      go_ret
      exact ⟨rfl, m, rfl⟩
/-! ### Values -/
theorem step_mod {v h x c q : Int} (e : v % q = h % q) : (v * x + c) % q = (h * x + c) % q := by
  rw [Int.add_emod, Int.mul_emod, e, ← Int.mul_emod, ← Int.add_emod]
theorem tmod_mod (a q : Int) : a.tmod q % q = a % q := by
  rw [Int.tmod_def, Int.sub_emod, Int.mul_emod_right, Int.sub_zero, Int.emod_emod]
section
variable {o : Bool} {lo hi : Nat} {v : Value} {n : Nat} {f : Nat → Int}
end

theorem mul_in {a b A B : Int} (ha : -A ≤ a) (ha' : a ≤ A) (hb : 0 ≤ b) (hb' : b ≤ B) : -(A * B) ≤ a * b ∧ a * b ≤ A * B := by
  have hA : 0 ≤ A := by omega
  constructor
  · have h1 : (-A) * B ≤ (-A) * b := Int.mul_le_mul_of_nonpos_left (by omega) hb'
    have h2 : (-A) * b ≤ a * b := Int.mul_le_mul_of_nonneg_right ha hb
    have h3 : (-A) * B = -(A * B) := Int.neg_mul A B
    omega
  · have h1 : a * b ≤ A * b := Int.mul_le_mul_of_nonneg_right ha' hb
    have h2 : A * b ≤ A * B := Int.mul_le_mul_of_nonneg_left hb' hA
    omega
/-! ### slices.Backward -/
/-- The pair that comes at the place i: from the last number to the first. -/
abbrev encB (n : Nat) (f : Nat → Int) (i : Fin n) : Array Value := #[.int .i64 ((n - 1 - i.1 : Nat) : Int), .int .i64 (f (n - 1 - i.1))]

end

section
open Go.RowKit Go.ChangeShapes Go.Sort
set_option linter.unusedVariables false
set_option linter.unusedSimpArgs false
set_option maxRecDepth 100000
set_option maxHeartbeats 2000000

theorem plusR_any (p v v' : Nat) (h2 : 2 ≤ p) (h61 : p ≤ 61) (hv : v < p) (hv' : v' < p) (w : World) :
    Calls Try.prog 235 #[.agg #[.int .i64 (v : Int), .int .i64 (p : Int)], .agg #[.int .i64 (v' : Int), .int .i64 (p : Int)]] w fun e w' => e = .returned (.agg #[.int .i64 (((v + v') % p : Nat) : Int), .int .i64 (p : Int)]) ∧ Below w.heap.size w w' := by
  have st := ((St.start w).alloc (.cells #[.int .i64 (v : Int), .int .i64 (p : Int)] 150)).addBox _ [.int .i64 (v : Int), .int .i64 (p : Int)] (Box.made _ _ _ _ (fun j v h => by simpa using h))
  replace st := (st.alloc (.cells #[.int .i64 (v' : Int), .int .i64 (p : Int)] 150)).addBox _ [.int .i64 (v' : Int), .int .i64 (p : Int)] (Box.made _ _ _ _ (fun j v h => by simpa using h))
  replace st := (st.alloc (.cells #[.int .i64 0, .int .i64 0] 150)).addBox _ [.int .i64 0, .int .i64 0] (Box.made _ _ _ _ (fun j v h => by simpa using h))
  simp only [World.size_alloc] at st
  have hq : ((v : Int) + (v' : Int)) % (p : Int) = (((v + v') % p : Nat) : Int) := by rw [Int.natCast_emod, Int.natCast_add]
  obtain ⟨q, hqe⟩ : ∃ q, (v + v') % p = q := ⟨_, rfl⟩
  rw [hqe] at hq ⊢
  clear hqe
  obtain ⟨x0, x1⟩ := (st.box 2 (w.heap.size, [.int .i64 (v : Int), .int .i64 (p : Int)]) rfl).cell2
  obtain ⟨y0, y1⟩ := (st.box 1 (w.heap.size + 1, [.int .i64 (v' : Int), .int .i64 (p : Int)]) rfl).cell2
  obtain ⟨z0, z1⟩ := (st.box 0 (w.heap.size + 1 + 1, [.int .i64 0, .int .i64 0]) rfl).cell2
  have zz := (st.box 0 (w.heap.size + 1 + 1, [.int .i64 0, .int .i64 0]) rfl).2.2
  have BB := st.1
  dsimp only at x0 x1 y0 y1 z0 z1 zz
  have hs0 : (0 : Int) ≤ (v : Int) + v' := by omega
  have hqt : ((v : Int) + (v' : Int)).tmod (p : Int) = (q : Int) := by rw [Int.tmod_eq_emod_of_nonneg hs0, hq]
  have hs1 : (v : Int) + v' ≤ 200 := by omega
  have hsw : IntKind.i64.wrap ((v : Int) + v') = (v : Int) + v' := by rw [IntKind.wrap_i64]; omega
  have hp0 : ¬ (p : Int) = 0 := by omega
  have hp0n : ¬ p = 0 := by omega
  go_enter Try.func235, Try.ntmps235
  go_wp2
  go_region
  go_wp2
  refine bodyPost_ret (v := .agg #[.int .i64 (q : Int), .int .i64 (p : Int)]) (by simp [results, Try.results235, go_sem, z0, z1]) rfl ⟨rfl, ?_⟩
  go_grown
theorem timesR_any (p v r : Nat) (x : Int) (h2 : 2 ≤ p) (h61 : p ≤ 61) (hv : v < p) (hx : -2000000000000000000 ≤ x) (hx' : x ≤ 2000000000000000000) (hr : x % (p : Int) = (r : Int)) (w : World) :
    Calls Try.prog 236 #[.agg #[.int .i64 (v : Int), .int .i64 (p : Int)], .int .i64 x] w fun e w' => e = .returned (.agg #[.int .i64 ((v * r % p : Nat) : Int), .int .i64 (p : Int)]) ∧ Below w.heap.size w w' := by
  have hr61 : r < p := by have := Int.emod_lt_of_pos x (show (0 : Int) < p by omega); omega
  have HRB := Lib.hid (fun w' => restBy_any x p (by omega) (by omega) hx hx' w')
  rw [hr] at HRB
  have hm2 : ((v * r : Nat) : Int) = (v : Int) * r := Int.natCast_mul _ _
  have hm1 : v * r ≤ 3721 := Nat.le_trans (Nat.mul_le_mul (show v ≤ 61 by omega) (show r ≤ 61 by omega)) (by omega)
  have hq : (v : Int) * (r : Int) % (p : Int) = ((v * r % p : Nat) : Int) := by rw [Int.natCast_emod, hm2]
  have hs0 : (0 : Int) ≤ (v : Int) * r := by omega
  have hs1 : (v : Int) * r ≤ 3721 := by omega
  clear hm1 hm2 hr
  obtain ⟨q, hqe⟩ : ∃ q, v * r % p = q := ⟨_, rfl⟩
  rw [hqe] at hq ⊢
  clear hqe
  have hqt : ((v : Int) * (r : Int)).tmod (p : Int) = (q : Int) := by rw [Int.tmod_eq_emod_of_nonneg hs0, hq]
  have hsw : IntKind.i64.wrap ((v : Int) * r) = (v : Int) * r := by rw [IntKind.wrap_i64]; omega
  have hp0 : ¬ (p : Int) = 0 := by omega
  have hp0n : ¬ p = 0 := by omega
  have st := ((St.start w).alloc (.cells #[.int .i64 (v : Int), .int .i64 (p : Int)] 150)).addBox _ [.int .i64 (v : Int), .int .i64 (p : Int)] (Box.made _ _ _ _ (fun j v h => by simpa using h))
  replace st := (st.alloc (.cells #[.int .i64 0, .int .i64 0] 150)).addBox _ [.int .i64 0, .int .i64 0] (Box.made _ _ _ _ (fun j v h => by simpa using h))
  simp only [World.size_alloc] at st
  obtain ⟨x0, x1⟩ := (st.box 1 (w.heap.size, [.int .i64 (v : Int), .int .i64 (p : Int)]) rfl).cell2
  obtain ⟨z0, z1⟩ := (st.box 0 (w.heap.size + 1, [.int .i64 0, .int .i64 0]) rfl).cell2
  have zz := (st.box 0 (w.heap.size + 1, [.int .i64 0, .int .i64 0]) rfl).2.2
  have BB := st.1
  dsimp only at x0 x1 z0 z1 zz
  go_enter Try.func236, Try.ntmps236
  go_wp2_with fail
  go_region_law (first
    | (go_simp; go_at_call 211; refine (HRB.out _).mono ?_; rintro e w6 ⟨rfl, rfl⟩))
  all_goals
    go_wp2
    refine bodyPost_ret (v := .agg #[.int .i64 (q : Int), .int .i64 (p : Int)]) (by simp [results, Try.results236, go_sem, z0, z1]) rfl ⟨rfl, ?_⟩
    go_grown
theorem overR_any (p v x : Nat) (h2 : 2 ≤ p) (h61 : p ≤ 61) (hv : v < p) (hx : x < p) (w : World) :
    Calls Try.prog 234 #[.agg #[.int .i64 (v : Int), .int .i64 (p : Int)], .int .i64 (x : Int)] w fun e w' => e = .returned (.agg #[.int .i64 ((v * pwr p x (p - 2) % p : Nat) : Int), .int .i64 (p : Int)]) ∧ Below w.heap.size w w' := by
  have hrp : ∀ k, pwr p x k < p := fun k => by
    cases k with
    | zero => show 1 < p; omega
    | succ k => exact Nat.mod_lt _ (by omega)
  have HRB := Lib.hid (fun w' => restBy_any (x : Int) p (by omega) (by omega) (by omega) (by omega) w')
  have hxp : (x : Int) % (p : Int) = (x : Int) := Int.emod_eq_of_lt (by omega) (by omega)
  rw [hxp] at HRB
  have HPM := Lib.hid (show ∀ w' : World, Calls Try.prog 237 #[.int .i64 (x : Int), .int .i64 ((p - 2 : Nat) : Int), .int .i64 (p : Int)] w' fun e w'' => e = .returned (.int .i64 (pwr p x (p - 2) : Nat)) ∧ Below w'.heap.size w' w'' from fun w' => (powerModulo_any p x (p - 2) h2 h61 hx (by omega) w').mono fun _ _ ⟨he, m, hw⟩ => ⟨he, hw ▸ below_drewN (Below.refl _ _) m⟩)
  have hpp := hrp (p - 2)
  obtain ⟨u, hu⟩ : ∃ u, pwr p x (p - 2) = u := ⟨_, rfl⟩
  rw [hu] at HPM hpp ⊢
  have HT := Lib.hid (fun w' => timesR_any p v u (u : Int) h2 h61 hv (by omega) (by omega) (Int.emod_eq_of_lt (by omega) (by omega)) w')
  clear hu hxp hrp
  have hsub : ((p - 2 : Nat) : Int) = (p : Int) - 2 := by omega
  rw [hsub] at HPM
  have hsw : IntKind.i64.wrap ((p : Int) - 2) = (p : Int) - 2 := by rw [IntKind.wrap_i64]; omega
  have st := ((St.start w).alloc (.cells #[.int .i64 (v : Int), .int .i64 (p : Int)] 150)).addBox _ [.int .i64 (v : Int), .int .i64 (p : Int)] (Box.made _ _ _ _ (fun j v h => by simpa using h))
  replace st := (st.alloc (.cells #[.int .i64 0, .int .i64 0] 150)).addBox _ [.int .i64 0, .int .i64 0] (Box.made _ _ _ _ (fun j v h => by simpa using h))
  simp only [World.size_alloc] at st
  obtain ⟨x0, x1⟩ := (st.box 1 (w.heap.size, [.int .i64 (v : Int), .int .i64 (p : Int)]) rfl).cell2
  obtain ⟨z0, z1⟩ := (st.box 0 (w.heap.size + 1, [.int .i64 0, .int .i64 0]) rfl).cell2
  have zz := (st.box 0 (w.heap.size + 1, [.int .i64 0, .int .i64 0]) rfl).2.2
  dsimp only at x0 x1 z0 z1 zz
  go_enter Try.func234, Try.ntmps234
  go_wp2_with fail
  go_region_held3 (fun w' => w'.cell? ⟨w.heap.size, 0, none⟩ = some (.int .i64 (v : Int)) ∧ w'.cell? ⟨w.heap.size, 1, none⟩ = some (.int .i64 (p : Int)))
    (first | exact ⟨x0, x1⟩ | exact ⟨cell_later (Below.refl _ _).drew x0, cell_later (Below.refl _ _).drew x1⟩ | go_keep)
    (first
    | (go_at_call 211; refine (HRB.out _).mono ?_; rintro e w6 ⟨rfl, rfl⟩)
    | (go_at_call 237; refine (HPM.out _).mono ?_; rintro e w7 ⟨rfl, b7⟩; (first | replace st := st.keep b7 | replace st := st.drew.keep b7); clear b7 x0 x1 z0 z1 zz; obtain ⟨x0, x1⟩ := (st.box 1 (w.heap.size, [.int .i64 (v : Int), .int .i64 (p : Int)]) rfl).cell2; obtain ⟨z0, z1⟩ := (st.box 0 (w.heap.size + 1, [.int .i64 0, .int .i64 0]) rfl).cell2; have zz := (st.box 0 (w.heap.size + 1, [.int .i64 0, .int .i64 0]) rfl).2.2; (try dsimp only at x0 x1 z0 z1 zz))
    | (go_at_call 236; refine (HT.out _).mono ?_; rintro e w8 ⟨rfl, b8⟩; (first | replace st := st.keep b8 | replace st := st.drew.keep b8); clear b8 x0 x1 z0 z1 zz; obtain ⟨x0, x1⟩ := (st.box 1 (w.heap.size, [.int .i64 (v : Int), .int .i64 (p : Int)]) rfl).cell2; obtain ⟨z0, z1⟩ := (st.box 0 (w.heap.size + 1, [.int .i64 0, .int .i64 0]) rfl).cell2; have zz := (st.box 0 (w.heap.size + 1, [.int .i64 0, .int .i64 0]) rfl).2.2; (try dsimp only at x0 x1 z0 z1 zz)))
  all_goals
    have BB := st.1
    go_wp2
    refine bodyPost_ret (v := .agg #[.int .i64 ((v * u % p : Nat) : Int), .int .i64 (p : Int)]) (by simp [results, Try.results234, go_sem, z0, z1]) rfl ⟨rfl, ?_⟩
    go_grown
end

section
open Go.RowKit Go.ChangeShapes Go.Sort
set_option linter.unusedVariables false
set_option linter.unusedSimpArgs false
set_option maxRecDepth 100000
set_option maxHeartbeats 4000000

theorem infoPr : (Try.prog.info? 150).map (fun i => (i.zero, i.size, i.bytes)) = some (some (.agg #[.int .i64 0, .int .i64 0]), 2, 16) := by kernel_rfl
theorem RowE.onePr (w : World) (base : Nat) (a b : Value) (F : Nat → List Value) (hb : base ≤ w.heap.size) (hF : F 0 = [a, b]) : RowE (w.alloc (.cells #[a, b] 150)) base 150 2 w.heap.size 1 1 F := by
  unfold RowE
  have e : (List.range 1).flatMap F = [a, b] := by simp [List.range_succ, hF]
  rw [e]
  exact ⟨by simp, .inr ⟨w.heap.size, 1, #[a, b], rfl, hb, heap_alloc_new w _, Nat.le_refl _, by decide, by simp, by simp⟩⟩
theorem wpList_pushPr {w : World} {ops : Array Oper} {rest : List Oper} {o : Oper} {a : Act} {Q : Exit → Act → World → Prop} (hgd : o.guard = none) (s x : Operand)
    (ho : o.op = .call { callee := .builtin .append, args := #[s, x], argTypes := #[151, 151] })
    (hty : o.type = 151) (base g cap n : Nat) (F : Nat → List Value) (hs : a.eval s = .slice (some ⟨g, 0, none⟩) n cap) (hown : RowE w base 150 2 g cap n F) (B : Nat) (y u : Int) (hx : a.eval x = .slice (some ⟨B, 0, none⟩) 1 1)
    (hb : w.heap[B]? = some (.cells #[.int .i64 y, .int .i64 u] 150 (0, 0))) (hn : n + 1 ≤ 1048576)
    (h : ∀ g' cap' w', RowE w' base 150 2 g' cap' (n + 1) (fun i => if i < n then F i else [.int .i64 y, .int .i64 u]) → w.grownBy w' (some g) → (g' = g ∨ g' = w.heap.size) → g' < w'.heap.size → wpList Try.prog ops Q rest (a.put o.dst (.slice (some ⟨g', 0, none⟩) (n + 1) cap')) w') : wpList Try.prog ops Q (o :: rest) a w := by
  obtain ⟨i0, hi, hz0, hz1, hz2⟩ := info_parts infoPr
  refine wpList_append_lies w hgd s x 151 ho base 150 i0 (.agg #[.int .i64 0, .int .i64 0]) 2 16 Try.underlying151 hi hz0 hz1 hz2 rfl (by decide) _ n _ hs hown ⟨B, 0, none⟩ 1 1 [.int .i64 y, .int .i64 u] hx rfl (World.news_of_block hb) (by intro v hv; simp only [List.mem_cons, List.not_mem_nil, or_false] at hv; rcases hv with rfl | rfl <;> rfl) (by decide) (by unfold maxLen; omega) (by omega) (Nat.le_trans hown.lt.1 (Nat.le_of_lt hown.lt.2)) _ rfl ?_
  intro g' cap' w' h1 h2 h3 h4
  refine h g' cap' w' ?_ h2 (h3.imp (fun e => (Option.some.inj e).symm) id) h4
  unfold RowE
  rw [List.range_succ, List.flatMap_append]
  have e1 : (List.range n).flatMap (fun i => if i < n then F i else [.int .i64 y, .int .i64 u]) = (List.range n).flatMap F := by
    rw [List.flatMap_def, List.flatMap_def]
    exact congrArg List.flatten (List.map_congr_left (fun j hj => by rw [if_pos (List.mem_range.1 hj)]))
  rw [e1]
  simpa using h1
theorem Box.set2R {w : World} {b : Nat} {v0 v1 u0 u1 : Value} (h : Box w b [v0, v1]) : Box ((w.setCell ⟨b, 0, none⟩ u0).setCell ⟨b, 1, none⟩ u1) b [u0, u1] := by
  obtain ⟨h1, h2, h3⟩ := h
  have c0 := h2 0 _ rfl
  have c1 := h2 1 _ rfl
  refine ⟨by simpa using h1, ?_, ?_⟩
  · intro j v hj
    rcases j with _ | _ | j
    · simp only [List.getElem?_cons_zero, Option.some.injEq] at hj
      subst hj
      rw [setCell_ne _ _ _ _ _ (by decide)]
      exact World.cell?_setCell_same _ _ _ c0
    · simp only [List.getElem?_cons_succ, List.getElem?_cons_zero, Option.some.injEq] at hj
      subst hj
      exact World.cell?_setCell_same _ _ _ (by rw [setCell_ne _ _ _ _ _ (by decide)]; exact c1)
    · simp at hj
  · intro j
    simpa using h3 j
theorem bernR_any (p K : Nat) (hp : primeN p = true) (hKp : K + 3 = p) (w : World) :
    Calls Try.prog 183 #[.agg #[.int .i64 1, .int .i64 (p : Int)], .int .i64 (K : Int)] w fun e w' => ∃ (g cap : Nat), e = .returned (.slice (some ⟨g, 0, none⟩) (K + 1) cap) ∧ RowE w' (w.heap.size + 1) 150 2 g cap (K + 1) (fun i => [.int .i64 (beR p i : Int), .int .i64 (p : Int)]) ∧ Below w.heap.size w w' := by
  have hbd := primeN_bd hp
  have hK58 : K + 3 = p := hKp
  clear hKp
  have st := ((St.start w).alloc (.cells #[.int .i64 1, .int .i64 (p : Int)] 150)).addBox w.heap.size [.int .i64 1, .int .i64 (p : Int)] (Box.made _ _ _ _ (fun j v h => by simpa using h))
  obtain ⟨x0, x1⟩ := (st.box 0 (w.heap.size, [.int .i64 1, .int .i64 (p : Int)]) rfl).cell2
  have r0 := RowE.onePr (w.alloc (.cells #[.int .i64 1, .int .i64 (p : Int)] 150)) (w.heap.size + 1) (.int .i64 1) (.int .i64 (p : Int)) (fun i => [.int .i64 (beR p i : Int), .int .i64 (p : Int)]) (by simp) (by rfl)
  simp only [World.size_alloc] at r0
  have HR := Lib.hid r0
  have HST := Lib.hid (st.alloc (.cells #[.int .i64 1, .int .i64 (p : Int)] 150))
  clear st r0
  go_enter Try.func183, Try.ntmps183
  go_wp2
  clear x0 x1
  go_loopw [5, 6] (fun s5 s6 wr => ∃ (j g cap : Nat), j ≤ K ∧ s5 = .slice (some ⟨g, 0, none⟩) (j + 1) cap ∧ s6 = .int .i64 ((j : Int) + 2) ∧ RowE wr (w.heap.size + 1) 150 2 g cap (j + 1) (fun i => [.int .i64 (beR p i : Int), .int .i64 (p : Int)]) ∧ St w wr [(w.heap.size, [.int .i64 1, .int .i64 (p : Int)])] []) (fun _ s6 _ => K + 2 - (intOf s6).toNat)
  case atStart => exact ⟨0, _, _, Nat.zero_le _, rfl, rfl, HR.out, HST.out⟩
  case round =>
    clear HR HST
    rename World => wo
    obtain ⟨j, g, cap, hj, rfl, rfl, hr, st⟩ := hrel
    have R1 := Lib.hid hr
    have hgl := hr.lt
    have hwo := (st.box 0 (w.heap.size, [.int .i64 1, .int .i64 (p : Int)]) rfl).1
    dsimp only at hwo
    clear hr
    by_cases hlt : j < K
    · obtain ⟨x0, x1⟩ := (st.box 0 (w.heap.size, [.int .i64 1, .int .i64 (p : Int)]) rfl).cell2
      have hc1 : (j : Int) + 2 ≤ (K : Int) + 1 := by omega
      have st2 := (st.alloc (.cells #[.int .i64 1, .int .i64 (p : Int)] 150)).addBox wo.heap.size [.int .i64 1, .int .i64 (p : Int)] (Box.made _ _ _ _ (fun j v h => by simpa using h))
      have HS2 := Lib.hid st2
      have HR2 := Lib.hid (R1.out.alloc (.cells #[.int .i64 1, .int .i64 (p : Int)] 150))
      clear st st2 R1
      go_wp2
      clear x0 x1
      go_loopw [8, 9] (fun s8 s9 wr => ∃ t : Nat, t ≤ j ∧ s9 = .int .i64 ((t : Int) + 1) ∧ s8 = .int .i64 ((chB (j + 2) t : Int)) ∧ RowE wr (w.heap.size + 1) 150 2 g cap (j + 1) (fun i => [.int .i64 (beR p i : Int), .int .i64 (p : Int)]) ∧ St w wr [(wo.heap.size, [.int .i64 (smP p (blP p j) (j + 2) t : Int), .int .i64 (p : Int)]), (w.heap.size, [.int .i64 1, .int .i64 (p : Int)])] []) (fun _ s9 _ => j + 1 - (intOf s9).toNat)
      case atStart => exact ⟨0, Nat.zero_le _, rfl, rfl, HR2.out, HS2.out⟩
      case round =>
        clear HS2 HR2
        obtain ⟨t, ht, rfl, rfl, hr, st⟩ := hrel
        have R1 := Lib.hid hr
        have hgl2 := hr.lt
        clear hr
        have hsl := (st.box 0 (wo.heap.size, [.int .i64 (smP p (blP p j) (j + 2) t : Int), .int .i64 (p : Int)]) rfl).1
        dsimp only at hsl
        by_cases htj : t < j
        · have htji : (t : Int) + 1 < (j : Int) + 1 := by omega
          have htp : (0 : Int) ≤ (t : Int) + 1 := by omega
          have htn : ¬ (t : Int) + 1 < 0 := by omega
          have hchb := ch_bd (j + 2) (by omega) t (by omega)
          have HEL := Lib.hid (bl_get p j (t + 1) (by omega))
          have hb1 := be_lt (p := p) (by omega) (t + 1)
          have hb2 := smP_lt (p := p) (by omega) (blP p j) (j + 2) t
          have HC1 := Lib.hid (show smP p (blP p j) (j + 2) (t + 1) = (smP p (blP p j) (j + 2) t + beR p (t + 1) * (chB (j + 2) t % p) % p) % p by rw [← HEL.out]; rfl)
          have HC2 := Lib.hid (show ((chB (j + 2) (t + 1) : Nat) : Int) = ((chB (j + 2) t : Nat) : Int) * ((j : Int) + 2 - ((t : Int) + 1)) / ((t : Int) + 1 + 1) by
            have e : ((j : Int) + 2 - ((t : Int) + 1)) = ((j + 2 - (t + 1) : Nat) : Int) := by omega
            have e2 : ((t : Int) + 1 + 1) = ((t + 2 : Nat) : Int) := by omega
            rw [e, e2, ← Int.natCast_mul, ← Int.natCast_ediv]; rfl)
          have hcm : ((chB (j + 2) t * (j + 2 - (t + 1)) : Nat) : Int) = ((chB (j + 2) t : Nat) : Int) * ((j : Int) + 2 - ((t : Int) + 1)) := by
            have e : ((j : Int) + 2 - ((t : Int) + 1)) = ((j + 2 - (t + 1) : Nat) : Int) := by omega
            rw [e, Int.natCast_mul]
          have hm0 : 0 ≤ ((chB (j + 2) t : Nat) : Int) * ((j : Int) + 2 - ((t : Int) + 1)) := by rw [← hcm]; omega
          have hm1 : ((chB (j + 2) t : Nat) : Int) * ((j : Int) + 2 - ((t : Int) + 1)) ≤ 2000000000000000000 := by rw [← hcm]; omega
          clear hcm HEL
          obtain ⟨C, hC⟩ : ∃ C, chB (j + 2) t = C := ⟨_, rfl⟩
          obtain ⟨B, hB⟩ : ∃ B, beR p (t + 1) = B := ⟨_, rfl⟩
          obtain ⟨Y, hY⟩ : ∃ Y, smP p (blP p j) (j + 2) t = Y := ⟨_, rfl⟩
          rw [hC] at hchb HC1 HC2 hm0 hm1
          rw [hB] at hb1 HC1
          rw [hY] at hb2 HC1 st
          have HBB := Lib.hid hB
          rw [hC]
          clear hC hB hY
          have HT := Lib.hid (fun w' => timesR_any p B (C % p) (C : Int) (by omega) (by omega) hb1 (by omega) (by omega) (by rw [Int.natCast_emod]) w')
          have HP := Lib.hid (fun w' => plusR_any p Y (B * (C % p) % p) (by omega) (by omega) hb2 (Nat.mod_lt _ (by omega)) w')
          rw [← HC1.out] at HP
          obtain ⟨R, hR⟩ : ∃ R, B * (C % p) % p = R := ⟨_, rfl⟩
          rw [hR] at HT HP
          obtain ⟨Y2, hY2⟩ : ∃ Y2, smP p (blP p j) (j + 2) (t + 1) = Y2 := ⟨_, rfl⟩
          rw [hY2] at HP
          have HY2 := Lib.hid hY2
          clear hR hY2 HC1
          have hd := Int.ediv_nonneg (a := (C : Int) * ((j : Int) + 2 - ((t : Int) + 1))) (b := (t : Int) + 1 + 1) hm0 (by omega)
          have hd2 := Int.ediv_le_self ((t : Int) + 1 + 1) hm0
          go_wp2_with fail
          replace st := st.drew
          have R2 := Lib.hid (R1.out.drewN 1)
          clear R1
          refine wp_region_held_drew (S := fun wy => RowE wy (w.heap.size + 1) 150 2 g cap (j + 1) (fun i => [.int .i64 (beR p i : Int), .int .i64 (p : Int)]) ∧ St w wy [(w.heap.size, [.int .i64 1, .int .i64 (p : Int)])] []) (by kernel_rfl) (⟨R2.out, st.subR (fun b hb => List.mem_cons_of_mem _ hb) (fun _ h => h)⟩) (fun hHeld => ?_)
          refine wpAnyH_take (i := 2) (v := .slice (some ⟨g, 0, none⟩) (j + 1) cap) rfl (by kernel_rfl) (by kernel_rfl) (by kernel_rfl) (fun _ _ _ h => h) (Or.inl ⟨by rfl, ?_⟩) hHeld ?_
          · intro wy hy; go_simp
          (try simp only [Act.put, List.getElem_toArray, List.getElem_cons_zero, List.getElem_cons_succ, List.setIfInBounds_toArray, List.set_cons_zero, List.set_cons_succ])
          refine wpAnyH_take (i := 3) (v := .int .i64 ((t : Int) + 1)) rfl (by kernel_rfl) (by kernel_rfl) (by kernel_rfl) (fun _ _ _ h => h) (Or.inl ⟨by rfl, ?_⟩) hHeld ?_
          · intro wy hy; go_simp
          (try simp only [Act.put, List.getElem_toArray, List.getElem_cons_zero, List.getElem_cons_succ, List.setIfInBounds_toArray, List.set_cons_zero, List.set_cons_succ])
          refine wpAnyH_take (i := 4) (v := .pointer (some ⟨g, (t + 1) * 2, none⟩)) rfl (by kernel_rfl) (by kernel_rfl) (by kernel_rfl) (fun _ _ _ h => h) (Or.inl ⟨by rfl, ?_⟩) hHeld ?_
          · intro wy hy; go_simp
          (try simp only [Act.put, List.getElem_toArray, List.getElem_cons_zero, List.getElem_cons_succ, List.setIfInBounds_toArray, List.set_cons_zero, List.set_cons_succ])
          refine wpAnyH_take (i := 5) (v := .agg #[.int .i64 (B : Int), .int .i64 (p : Int)]) rfl (by kernel_rfl) (by kernel_rfl) (by kernel_rfl) (fun _ _ _ h => h) (Or.inl ⟨by rfl, ?_⟩) hHeld ?_
          · intro wy hy; have hq0 := hy.1.cell (fun _ => rfl) (show t + 1 < j + 1 by omega) (show 0 < 2 by omega); have hq1 := hy.1.cell (fun _ => rfl) (show t + 1 < j + 1 by omega) (show 1 < 2 by omega); (try simp only [Nat.add_zero, List.getElem?_cons_zero, List.getElem?_cons_succ] at hq0 hq1); rw [HBB.out] at hq0; go_simp
          (try simp only [Act.put, List.getElem_toArray, List.getElem_cons_zero, List.getElem_cons_succ, List.setIfInBounds_toArray, List.set_cons_zero, List.set_cons_succ])
          refine wpAnyH_take (i := 6) (v := .iface 150 (.agg #[.int .i64 (B : Int), .int .i64 (p : Int)])) rfl (by kernel_rfl) (by kernel_rfl) (by kernel_rfl) (fun _ _ _ h => h) (Or.inl ⟨by rfl, ?_⟩) hHeld ?_
          · intro wy hy; go_simp
          (try simp only [Act.put, List.getElem_toArray, List.getElem_cons_zero, List.getElem_cons_succ, List.setIfInBounds_toArray, List.set_cons_zero, List.set_cons_succ])
          refine wpAnyH_take (i := 7) (v := .int .i64 (C : Int)) rfl (by kernel_rfl) (by kernel_rfl) (by kernel_rfl) (fun _ _ _ h => h) (Or.inl ⟨by rfl, ?_⟩) hHeld ?_
          · intro wy hy; go_simp
          (try simp only [Act.put, List.getElem_toArray, List.getElem_cons_zero, List.getElem_cons_succ, List.setIfInBounds_toArray, List.set_cons_zero, List.set_cons_succ])
          refine wpAnyH_ready (rs := [0, 8]) (by kernel_rfl) (by simp) ?_
          refine AllReadyH.cons rfl (fun K hK => ?_) (AllReadyH.cons rfl (fun K hK => ?_) AllReadyH.nil)
          · rw [if_pos (by rfl)]
            (try simp only [List.getElem_toArray, List.getElem_cons_zero, List.getElem_cons_succ])
            obtain ⟨q0, q1⟩ := (st.box 0 (wo.heap.size, [.int .i64 (Y : Int), .int .i64 (p : Int)]) rfl).cell2
            dsimp only at q0 q1
            go_simp
            refine hK.out _ _ hHeld (fun hHeld => ?_)
            clear hK K
            (try simp only [Act.put, List.getElem_toArray, List.getElem_cons_zero, List.getElem_cons_succ, List.setIfInBounds_toArray, List.set_cons_zero, List.set_cons_succ])
            refine wpAnyH_take (i := 1) (v := .iface 150 (.agg #[.int .i64 (Y : Int), .int .i64 (p : Int)])) rfl (by kernel_rfl) (by kernel_rfl) (by kernel_rfl) (fun _ _ _ h => h) (Or.inl ⟨by rfl, ?_⟩) hHeld ?_
            · intro wy hy; go_simp
            (try simp only [Act.put, List.getElem_toArray, List.getElem_cons_zero, List.getElem_cons_succ, List.setIfInBounds_toArray, List.set_cons_zero, List.set_cons_succ])
            refine wpAnyH_ready (rs := [8]) (by kernel_rfl) (by simp) ?_
            refine AllReadyH.cons rfl (fun K hK => ?_) AllReadyH.nil
            rw [if_pos (by rfl)]
            (try simp only [List.getElem_toArray, List.getElem_cons_zero, List.getElem_cons_succ])
            go_wp2_with (go_at_call 236; refine (HT.out _).mono ?_; rintro e w6 ⟨rfl, b6⟩)
            replace st := st.keep b6
            refine hK.out _ _ ⟨hHeld.1.keep b6 (Nat.le_refl _), hHeld.2.keep b6⟩ (fun hHeld => ?_)
            clear b6
            clear hK K
            (try simp only [Act.put, List.getElem_toArray, List.getElem_cons_zero, List.getElem_cons_succ, List.setIfInBounds_toArray, List.set_cons_zero, List.set_cons_succ])
            refine wpAnyH_ready (rs := [9]) (by kernel_rfl) (by simp) ?_
            refine AllReadyH.cons rfl (fun K hK => ?_) AllReadyH.nil
            rw [if_pos (by rfl)]
            (try simp only [List.getElem_toArray, List.getElem_cons_zero, List.getElem_cons_succ])
            go_wp2_with (go_at_call 235; refine (HP.out _).mono ?_; rintro e w7 ⟨rfl, b7⟩)
            replace st := st.keep b7
            refine hK.out _ _ ⟨hHeld.1.keep b7 (Nat.le_refl _), hHeld.2.keep b7⟩ (fun hHeld => ?_)
            clear b7
            clear hK K
            (try simp only [Act.put, List.getElem_toArray, List.getElem_cons_zero, List.getElem_cons_succ, List.setIfInBounds_toArray, List.set_cons_zero, List.set_cons_succ])
            refine wpAnyH_ready (rs := [10]) (by kernel_rfl) (by simp) ?_
            refine AllReadyH.cons rfl (fun K hK => ?_) AllReadyH.nil
            rw [if_pos (by rfl)]
            (try simp only [List.getElem_toArray, List.getElem_cons_zero, List.getElem_cons_succ])
            have R9 := hHeld.1
            obtain ⟨q0, q1⟩ := (st.box 0 (wo.heap.size, [.int .i64 (Y : Int), .int .i64 (p : Int)]) rfl).cell2
            have qz := (st.box 0 (wo.heap.size, [.int .i64 (Y : Int), .int .i64 (p : Int)]) rfl).2.2
            dsimp only at q0 q1 qz
            go_simp
            have F9 := ((Frame.refl wo.heap.size (wo.heap.size + 1) w7).setCell (p := ⟨wo.heap.size, 0, none⟩) (Nat.le_refl _) (Nat.lt_succ_self _) (.int .i64 (Y2 : Int))).setCell (p := ⟨wo.heap.size, 1, none⟩) (Nat.le_refl _) (Nat.lt_succ_self _) (.int .i64 (p : Int))
            replace st := st.headR ((st.box 0 (wo.heap.size, [.int .i64 (Y : Int), .int .i64 (p : Int)]) rfl).set2R (u0 := .int .i64 (Y2 : Int)) (u1 := .int .i64 (p : Int))) F9 (by omega) (by intro q hq; simp only [List.mem_cons, List.not_mem_nil, or_false] at hq; rcases hq with rfl <;> dsimp only <;> omega) (by intro q hq; cases hq)
            refine hK.out _ _ ⟨R9.keepF F9 (by omega), st.subR (fun b hb => List.mem_cons_of_mem _ hb) (fun _ h => h)⟩ (fun hHeld => ?_)
            clear hK K
            (try simp only [Act.put, List.getElem_toArray, List.getElem_cons_zero, List.getElem_cons_succ, List.setIfInBounds_toArray, List.set_cons_zero, List.set_cons_succ])
            refine wpAnyH_done (by kernel_rfl) ?_ _
            have R9 := Lib.hid hHeld.1
            clear hHeld
            go_wp2
            go_roundw
            case rel =>
              refine ⟨t + 1, by omega, by go_num, by rw [HC2.out], R9.out, ?_⟩
              rw [HY2.out]
              exact st
            case measure => simp [intOf] <;> omega
          · rw [if_pos (by rfl)]
            (try simp only [List.getElem_toArray, List.getElem_cons_zero, List.getElem_cons_succ])
            go_wp2_with (go_at_call 236; refine (HT.out _).mono ?_; rintro e w6 ⟨rfl, b6⟩)
            replace st := st.keep b6
            refine hK.out _ _ ⟨hHeld.1.keep b6 (Nat.le_refl _), hHeld.2.keep b6⟩ (fun hHeld => ?_)
            clear b6
            clear hK K
            (try simp only [Act.put, List.getElem_toArray, List.getElem_cons_zero, List.getElem_cons_succ, List.setIfInBounds_toArray, List.set_cons_zero, List.set_cons_succ])
            refine wpAnyH_ready (rs := [0]) (by kernel_rfl) (by simp) ?_
            refine AllReadyH.cons rfl (fun K hK => ?_) AllReadyH.nil
            rw [if_pos (by rfl)]
            (try simp only [List.getElem_toArray, List.getElem_cons_zero, List.getElem_cons_succ])
            obtain ⟨q0, q1⟩ := (st.box 0 (wo.heap.size, [.int .i64 (Y : Int), .int .i64 (p : Int)]) rfl).cell2
            dsimp only at q0 q1
            go_simp
            refine hK.out _ _ hHeld (fun hHeld => ?_)
            clear hK K
            (try simp only [Act.put, List.getElem_toArray, List.getElem_cons_zero, List.getElem_cons_succ, List.setIfInBounds_toArray, List.set_cons_zero, List.set_cons_succ])
            refine wpAnyH_take (i := 1) (v := .iface 150 (.agg #[.int .i64 (Y : Int), .int .i64 (p : Int)])) rfl (by kernel_rfl) (by kernel_rfl) (by kernel_rfl) (fun _ _ _ h => h) (Or.inl ⟨by rfl, ?_⟩) hHeld ?_
            · intro wy hy; go_simp
            (try simp only [Act.put, List.getElem_toArray, List.getElem_cons_zero, List.getElem_cons_succ, List.setIfInBounds_toArray, List.set_cons_zero, List.set_cons_succ])
            refine wpAnyH_ready (rs := [9]) (by kernel_rfl) (by simp) ?_
            refine AllReadyH.cons rfl (fun K hK => ?_) AllReadyH.nil
            rw [if_pos (by rfl)]
            (try simp only [List.getElem_toArray, List.getElem_cons_zero, List.getElem_cons_succ])
            go_wp2_with (go_at_call 235; refine (HP.out _).mono ?_; rintro e w7 ⟨rfl, b7⟩)
            replace st := st.keep b7
            refine hK.out _ _ ⟨hHeld.1.keep b7 (Nat.le_refl _), hHeld.2.keep b7⟩ (fun hHeld => ?_)
            clear b7
            clear hK K
            (try simp only [Act.put, List.getElem_toArray, List.getElem_cons_zero, List.getElem_cons_succ, List.setIfInBounds_toArray, List.set_cons_zero, List.set_cons_succ])
            refine wpAnyH_ready (rs := [10]) (by kernel_rfl) (by simp) ?_
            refine AllReadyH.cons rfl (fun K hK => ?_) AllReadyH.nil
            rw [if_pos (by rfl)]
            (try simp only [List.getElem_toArray, List.getElem_cons_zero, List.getElem_cons_succ])
            have R9 := hHeld.1
            obtain ⟨q0, q1⟩ := (st.box 0 (wo.heap.size, [.int .i64 (Y : Int), .int .i64 (p : Int)]) rfl).cell2
            have qz := (st.box 0 (wo.heap.size, [.int .i64 (Y : Int), .int .i64 (p : Int)]) rfl).2.2
            dsimp only at q0 q1 qz
            go_simp
            have F9 := ((Frame.refl wo.heap.size (wo.heap.size + 1) w7).setCell (p := ⟨wo.heap.size, 0, none⟩) (Nat.le_refl _) (Nat.lt_succ_self _) (.int .i64 (Y2 : Int))).setCell (p := ⟨wo.heap.size, 1, none⟩) (Nat.le_refl _) (Nat.lt_succ_self _) (.int .i64 (p : Int))
            replace st := st.headR ((st.box 0 (wo.heap.size, [.int .i64 (Y : Int), .int .i64 (p : Int)]) rfl).set2R (u0 := .int .i64 (Y2 : Int)) (u1 := .int .i64 (p : Int))) F9 (by omega) (by intro q hq; simp only [List.mem_cons, List.not_mem_nil, or_false] at hq; rcases hq with rfl <;> dsimp only <;> omega) (by intro q hq; cases hq)
            refine hK.out _ _ ⟨R9.keepF F9 (by omega), st.subR (fun b hb => List.mem_cons_of_mem _ hb) (fun _ h => h)⟩ (fun hHeld => ?_)
            clear hK K
            (try simp only [Act.put, List.getElem_toArray, List.getElem_cons_zero, List.getElem_cons_succ, List.setIfInBounds_toArray, List.set_cons_zero, List.set_cons_succ])
            refine wpAnyH_done (by kernel_rfl) ?_ _
            have R9 := Lib.hid hHeld.1
            clear hHeld
            go_wp2
            go_roundw
            case rel =>
              refine ⟨t + 1, by omega, by go_num, by rw [HC2.out], R9.out, ?_⟩
              rw [HY2.out]
              exact st
            case measure => simp [intOf] <;> omega
        · obtain rfl : t = j := by omega
          have hb2 := smP_lt (p := p) (by omega) (blP p t) (t + 2) t
          have HT := Lib.hid (fun w' => timesR_any p (smP p (blP p t) (t + 2) t) (p - 1) (-1) (by omega) (by omega) hb2 (by omega) (by omega) (by rw [show ((-1 : Int) % (p : Int)) = (p : Int) - 1 from by rw [show (-1 : Int) = ((p : Int) - 1) + (p : Int) * (-1) by omega, Int.add_mul_emod_self_left, Int.emod_eq_of_lt (by omega) (by omega)]]; omega) w')
          have HO := Lib.hid (fun w' => overR_any p (smP p (blP p t) (t + 2) t * (p - 1) % p) (t + 2) (by omega) (by omega) (Nat.mod_lt _ (by omega)) (by omega) w')
          have eN : smP p (blP p t) (t + 2) t * (p - 1) % p * pwr p (t + 2) (p - 2) % p = beR p (t + 1) := by rw [be_succ]; rfl
          rw [eN] at HO
          obtain ⟨R, hR⟩ : ∃ R, smP p (blP p t) (t + 2) t * (p - 1) % p = R := ⟨_, rfl⟩
          rw [hR] at HT HO
          obtain ⟨Y, hY⟩ : ∃ Y, smP p (blP p t) (t + 2) t = Y := ⟨_, rfl⟩
          rw [hY] at HT st
          obtain ⟨E, hE⟩ : ∃ E, beR p (t + 1) = E := ⟨_, rfl⟩
          rw [hE] at HO
          have HE := Lib.hid hE
          have e2 : ((t + 2 : Nat) : Int) = (t : Int) + 2 := by omega
          rw [e2] at HO
          clear eN hR hY hE e2 hb2
          obtain ⟨q0, q1⟩ := (st.box 0 (wo.heap.size, [.int .i64 (Y : Int), .int .i64 (p : Int)]) rfl).cell2
          dsimp only at q0 q1
          go_wp2_with (first
            | (go_at_call 236; refine (HT.out _).mono ?_; rintro e w6 ⟨rfl, b6⟩
               replace st := st.keep b6
               have R2 := Lib.hid (R1.out.keep b6 (Nat.le_refl _))
               clear b6 q0 q1 R1)
            | (go_at_call 234; refine (HO.out _).mono ?_; rintro e w7 ⟨rfl, b7⟩
               replace st := st.keep b7
               have R3 := Lib.hid ((R2.out.keep b7 (Nat.le_refl _)))
               have hb7 := b7.size
               clear b7 R2)
            | (at_builtin; refine wpList_pushPr rfl (.tmp 44) (.tmp 51) rfl rfl (w.heap.size + 1) g cap (t + 1) (fun i => [.int .i64 (beR p i : Int), .int .i64 (p : Int)]) rfl (R3.out.alloc _) w7.heap.size (E : Int) (p : Int) rfl (heap_alloc_new w7 _) (by omega) ?_; intro gA kA wA rowA grA orA ltA
               have stA := Lib.hid ((st.alloc (.cells #[.int .i64 (E : Int), .int .i64 (p : Int)] 150)).write (Frame.ofGrown grA) (by omega) (by intro q hq; simp only [List.mem_cons, List.not_mem_nil, or_false] at hq; rcases hq with rfl | rfl <;> dsimp only <;> omega) (by intro s hs'; cases hs'))
               have RA := Lib.hid rowA
               clear rowA grA))
          go_roundw
          case rel =>
            refine ⟨t + 1, gA, kA, by omega, rfl, by go_num, RA.out.congr (fun i hi => ?_), stA.out.subR (fun b hb => by simp only [List.mem_cons, List.not_mem_nil, or_false] at hb ⊢; exact .inr hb) (fun _ h => h)⟩
            by_cases e : i < t + 1
            · rw [if_pos e]
            · obtain rfl : i = t + 1 := by omega
              rw [if_neg e]; rw [HE.out]
          case measure => simp [intOf] <;> omega
    · obtain rfl : j = K := by omega
      have BB := st.1
      have hc1 : ¬ (j : Int) + 2 ≤ (j : Int) + 1 := by omega
      go_wp2
      go_ret
      exact ⟨g, cap, rfl, R1.out, BB⟩
end

section
open Go.RowKit Go.ChangeShapes Go.Sort
set_option linter.unusedVariables false
set_option linter.unusedSimpArgs false
set_option maxRecDepth 100000
set_option maxHeartbeats 2000000
def cutT (F : Nat → Int) (a b : Int) (k : Nat) : Nat → Int := fun j => if j < k then min (max (F j) a) b else F j
theorem cl_eq (x a b : Int) : (if b < if x < a then a else x then b else if x < a then a else x) = min (max x a) b := by
  simp only [Int.min_def, Int.max_def]
  by_cases h : x < a
  · rw [if_pos h]; by_cases h2 : x ≤ a
    · rw [if_pos h2]; by_cases h3 : b < a
      · rw [if_pos h3, if_neg (by omega)]
      · rw [if_neg h3, if_pos (by omega)]
    · omega
  · rw [if_neg h]; by_cases h2 : x ≤ a
    · obtain rfl : x = a := by omega
      rw [if_pos h2]; by_cases h3 : b < x
      · rw [if_pos h3, if_neg (by omega)]
      · rw [if_neg h3, if_pos (by omega)]
    · rw [if_neg h2]; by_cases h3 : b < x
      · rw [if_pos h3, if_neg (by omega)]
      · rw [if_neg h3, if_pos (by omega)]
theorem cut_any (F : Nat → Int) (a b : Int) (w : World) (hF : ∀ j, j < 40 → inR (F j)) (ha : inR a) (hb : inR b) :
    Calls Try.prog 171 #[.agg (ptC F), .int .i64 a, .int .i64 b] w fun e w' => e = .returned (.agg (ptC (fun j => min (max (F j) a) b))) ∧ Below w.heap.size w w' := by
  go_enter Try.func171, Try.ntmps171
  go_wp2_with (first
    | (refine wpList_boxPP rfl _ rfl (F := F) rfl ?_; intro w1 x1 b1 z1
       have st := ((St.start w).keep b1).addBox _ _ x1
       have Z1 := Lib.hid z1
       clear x1 b1 z1)
    | (refine wpList_allocPP rfl rfl ?_; intro w2 x2 b2 z2
       replace st := (st.keep b2).addBox _ _ x2
       have Z2 := Lib.hid z2
       clear x2 b2 z2)
    | (refine wpList_loadPP rfl _ rfl w.heap.size rfl (st.box 1 _ rfl) ?_))
  have sz := Lib.hid (show w.heap.size < w1.heap.size by have := Z1.out; omega)
  replace st := st.subR (bs' := [(w.heap.size, ptL F), (w1.heap.size, ptL (fun _ => 0))]) (ss' := []) (by intro q hq; simp only [List.mem_cons, List.not_mem_nil, or_false] at hq ⊢; rcases hq with rfl | rfl <;> simp) (by intro s hs; cases hs)
  go_loopw [10] (fun s10 wr => ∃ k : Nat, k ≤ 40 ∧ s10 = .int .i64 (k : Int) ∧ St w wr [(w.heap.size, ptL (cutT F a b k)), (w1.heap.size, ptL (fun _ => 0))] []) (fun s10 _ => 40 - (intOf s10).toNat)
  case atStart => exact ⟨0, by omega, rfl, st⟩
  case round =>
    clear st
    obtain ⟨k, hk, rfl, st⟩ := hrel
    by_cases hlt : k < 40
    · have hki : (k : Int) < 40 := by omega
      have HI := run_index_ints (P := Try.prog) wr Try.underlying105 Try.underlying2 (fun w => Try.sizeOf2 w) hlt (ptC_get (F := F) hlt)
      have c0 := (st.box 0 (w.heap.size, ptL (cutT F a b k)) rfl).ppart hlt
      have cz := (st.box 0 (w.heap.size, ptL (cutT F a b k)) rfl).2.2
      dsimp only at c0 cz
      have hFk := hF k hlt
      unfold inR at hFk ha hb
      go_wp2
      go_roundw
      case rel =>
        refine ⟨k + 1, by omega, by go_num, ?_⟩
        have q := st.ppartR (x := min (max (F k) a) b) hlt (Nat.le_refl _) (by have := sz.out; intro q hq; simp only [List.mem_cons, List.not_mem_nil, or_false] at hq; rcases hq with rfl; dsimp only; omega) (by intro s hs; cases hs)
        rw [cl_eq]
        exact q.ptCongr (fun j hj => by
          unfold cutT
          by_cases e : j = k
          · subst e; rw [if_pos rfl, if_pos (by omega)]
          · rw [if_neg e]; by_cases e2 : j < k
            · rw [if_pos e2, if_pos (by omega)]
            · rw [if_neg e2, if_neg (by omega)])
      case measure => simp [intOf] <;> omega
    · obtain rfl : k = 40 := by omega
      have e40 : ptL (cutT F a b 40) = ptL (fun j => min (max (F j) a) b) := ptL_congr (fun j hj => by unfold cutT; rw [if_pos hj])
      rw [e40] at st
      have B0 := st.box 0 (w.heap.size, ptL (fun j => min (max (F j) a) b)) rfl
      have B1 := st.box 1 (w1.heap.size, ptL (fun _ => 0)) rfl
      dsimp only at B0 B1
      go_wp2_with (refine wpList_loadPP rfl _ rfl w.heap.size rfl B0 ?_; refine wpList_storePP rfl _ _ rfl w1.heap.size rfl rfl B1 ptL_len ?_; intro w3 x3 f3)
      refine bodyPost_ret (v := .agg (ptC (fun j => min (max (F j) a) b))) (resPP (b := w1.heap.size) rfl rfl x3) rfl ⟨rfl, ?_⟩
      exact st.1.trans (f3.below (Nat.le_of_lt sz.out) st.1.size)
/-- All forty Parts are in a range. -/
def inC (F : Nat → Int) (a b : Int) : Bool := eqB 40 F (fun j => min (max (F j) a) b)
theorem inC_iff {F : Nat → Int} {a b : Int} (hab : a ≤ b) : inC F a b = true ↔ ∀ j, j < 40 → a ≤ F j ∧ F j ≤ b := by
  unfold inC
  rw [eqB_iff]
  constructor
  · intro h j hj
    have := h j hj
    omega
  · intro h j hj
    have := h j hj
    omega
theorem pt_eq (F G : Nat → Int) (w : World) : (Op.equalIn 10000 105 (.agg (ptC F)) (.agg (ptC G))).run Try.prog w = .ok (eqB 40 F G) w := by
  rw [show (10000 : Nat) = 9998 + 2 from rfl, run_equalIn_ints w 9998 40 105 2 _ _ F G Try.underlying105 Try.underlying2 (fun w => Try.sizeOf2 w) (fun i hi => ptC_get hi) (fun i hi => ptC_get hi)]
  congr 1
  rw [Bool.eq_iff_iff]
  rw [eqB_iff]
  simp only [List.all_eq_true, List.mem_range'_1, beq_iff_eq]
  exact ⟨fun h j hj => h j ⟨Nat.zero_le _, by omega⟩, fun h j hj => h j (by omega)⟩
theorem pt_guard : Try.prog.eqGuardType Try.prog.depth 105 = false := by kernel_rfl
theorem isWithinE_any (m : Int) (F : Nat → Int) (a b : Int) (w : World) (hF : ∀ j, j < 40 → inR (F j)) (ha : inR a) (hb : inR b) :
    Calls Try.prog 97 #[.agg (elC m F), .int .i64 a, .int .i64 b] w fun e w' => e = .returned (.bool (inC F a b)) ∧ Below w.heap.size w w' := by
  have hgd := pt_guard
  have hEq := pt_eq F (fun j => min (max (F j) a) b)
  have hB : eqB 40 F (fun j => min (max (F j) a) b) = inC F a b := rfl
  rw [hB] at hEq
  generalize inC F a b = B at *
  clear hB
  have HF := Lib.hid hF
  have HA := Lib.hid ha
  have HB := Lib.hid hb
  clear hF ha hb
  go_enter Try.func97, Try.ntmps97
  go_wp2_with (first
    | (refine wpList_boxE rfl _ rfl (m := m) (F := F) rfl ?_; intro w1 x1 b1 z1
       have st := ((St.start w).keep b1).addBox _ _ x1
       clear x1 b1 z1)
    | fail)
  have HBX : ∀ w', (∃ p : Regrown, w' = grow (redrawn w1 p.d) p.os) → Box w' w.heap.size (elL m F) := fun w' ⟨p, hp⟩ => by
    rw [hp]; exact (st.box 0 (w.heap.size, elL m F) rfl).keep (below_regrown w1 p.d p.os)
  refine wp_region_quiet_below (by kernel_rfl) (by kernel_rfl) ?_
  repeat (first
    | (refine wpQuiet_loadP (by rfl) _ rfl w.heap.size rfl HBX ?_; simp only [Act.put, List.setIfInBounds_toArray, List.set_cons_zero, List.set_cons_succ])
    | go_big_quiet_step (first | (go_at_call 171; exact Calls.regrown_of (cut_any F a b _ HF.out HA.out HB.out))))
  refine wpQuiet_nil ?_
  intro _ hw'
  obtain ⟨⟨dq, osq⟩, hw''⟩ := hw'
  subst hw''
  go_wp2
  go_ret
  exact ⟨rfl, st.1.trans ((below_regrown _ _ _).mono st.1.size)⟩
end

section
open Go.RowKit Go.ChangeShapes Go.Sort
set_option linter.unusedVariables false
set_option linter.unusedSimpArgs false
set_option maxRecDepth 100000
set_option maxHeartbeats 2000000

theorem total_any (m : Int) (F : Nat → Int) (w : World) (hF : ∀ j, j < 40 → -1000000000 ≤ F j ∧ F j ≤ 1000000000) :
    Calls Try.prog 115 #[.agg (elC m F)] w fun e w' => e = .returned (.int .i64 (sumN 40 F)) ∧ Below w.heap.size w w' := by
  go_enter Try.func115, Try.ntmps115
  go_wp2_with (first
    | (refine wpList_boxE rfl _ rfl (m := m) (F := F) rfl ?_; intro w1 x1 b1 z1
       have st := ((St.start w).keep b1).addBox _ _ x1
       have B0 := st.box 0 (w.heap.size, elL m F) rfl
       dsimp only at B0
       clear x1 b1 z1)
    | (refine wpList_loadP rfl _ rfl w.heap.size rfl B0 ?_))
  clear B0
  go_loop [3, 8] (fun s3 s8 => ∃ k : Nat, k ≤ 40 ∧ s8 = .int .i64 (k : Int) ∧ s3 = .int .i64 (sumN k F)) (fun _ s8 => 40 - (intOf s8).toNat)
  case atStart => exact ⟨0, by omega, rfl, rfl⟩
  case round =>
    obtain ⟨k, hk, rfl, rfl⟩ := hrel
    by_cases hlt : k < 40
    · have hki : (k : Int) < 40 := by omega
      have HI := run_index_ints (P := Try.prog) w1 Try.underlying105 Try.underlying2 (fun w => Try.sizeOf2 w) hlt (ptC_get (F := F) hlt)
      have hFk := hF k hlt
      have hs := sumR_bd (F := F) (M := 1000000000) (m := k) (fun i hi => hF i (by omega))
      have hs1 : -40000000000 ≤ sumN k F := by omega
      have hs2 : sumN k F ≤ 40000000000 := by omega
      have HS := Lib.hid (show sumN (k + 1) F = sumN k F + F k from rfl)
      clear hs
      go_wp2
      go_round
      case rel => exact ⟨k + 1, by omega, by go_num, by rw [HS.out]⟩
      case measure => simp [intOf] <;> omega
    · obtain rfl : k = 40 := by omega
      have BB := st.1
      go_wp2
      go_ret
      exact ⟨rfl, BB⟩

/-- The first k Parts of k times the second added. -/
def plT (F G : Nat → Int) (c : Int) (k : Nat) : Nat → Int := fun j => if j < k then F j + c * G j else F j
theorem plus_any (m m' : Int) (F G : Nat → Int) (c : Int) (w : World) (hF : ∀ j, j < 40 → -1000000000000000000 ≤ F j ∧ F j ≤ 1000000000000000000) (hG : ∀ j, j < 40 → inR (G j)) (hcG : ∀ j, j < 40 → -1000000000000000000 ≤ c * G j ∧ c * G j ≤ 1000000000000000000) :
    Calls Try.prog 108 #[.agg (elC m F), .agg (elC m' G), .int .i64 c] w fun e w' => e = .returned (.agg (elC m (fun j => F j + c * G j))) ∧ Below w.heap.size w w' := by
  go_enter Try.func108, Try.ntmps108
  go_wp2_with (first
    | (refine wpList_boxE rfl (.tmp 0) rfl (m := m) (F := F) rfl ?_; intro w1 x1 b1 z1
       have st := ((St.start w).keep b1).addBox _ _ x1
       have Z1 := Lib.hid z1
       clear x1 b1 z1)
    | (refine wpList_boxE rfl (.tmp 1) rfl (m := m') (F := G) rfl ?_; intro w2 x2 b2 z2
       replace st := (st.keep b2).addBox _ _ x2
       have Z2 := Lib.hid z2
       clear x2 b2 z2)
    | (refine wpList_allocE rfl rfl ?_; intro w3 x3 b3 z3
       replace st := (st.keep b3).addBox _ _ x3
       have Z3 := Lib.hid z3
       have B1 := st.box 1 (w1.heap.size, elL m' G) rfl
       dsimp only at B1
       clear x3 b3 z3)
    | (refine wpList_loadP rfl _ rfl w1.heap.size rfl B1 ?_))
  clear B1
  have sz := Lib.hid (show w.heap.size < w1.heap.size ∧ w1.heap.size < w2.heap.size by have := Z1.out; have := Z2.out; omega)
  replace st := st.subR (bs' := [(w.heap.size, elL m F), (w2.heap.size, elL 0 (fun _ => 0))]) (ss' := []) (by intro q hq; simp only [List.mem_cons, List.not_mem_nil, or_false] at hq ⊢; rcases hq with rfl | rfl <;> simp) (by intro s hs; cases hs)
  go_loopw [11] (fun s11 wr => ∃ k : Nat, k ≤ 40 ∧ s11 = .int .i64 (k : Int) ∧ St w wr [(w.heap.size, elL m (plT F G c k)), (w2.heap.size, elL 0 (fun _ => 0))] []) (fun s11 _ => 40 - (intOf s11).toNat)
  case atStart => exact ⟨0, by omega, rfl, st⟩
  case round =>
    clear st
    obtain ⟨k, hk, rfl, st⟩ := hrel
    by_cases hlt : k < 40
    · have hki : (k : Int) < 40 := by omega
      have HI := run_index_ints (P := Try.prog) wr Try.underlying105 Try.underlying2 (fun w => Try.sizeOf2 w) hlt (ptC_get (F := G) hlt)
      have c0 := (st.box 0 (w.heap.size, elL m (plT F G c k)) rfl).part hlt
      have cz := (st.box 0 (w.heap.size, elL m (plT F G c k)) rfl).2.2
      dsimp only at c0 cz
      have e0 : plT F G c k k = F k := by unfold plT; rw [if_neg (by omega)]
      rw [e0] at c0
      clear e0
      have hFk := hF k hlt
      have hGk := hG k hlt
      have hck := hcG k hlt
      unfold inR at hGk
      go_wp2
      go_roundw
      case rel =>
        refine ⟨k + 1, by omega, by go_num, ?_⟩
        have q := st.partR (x := F k + c * G k) hlt (Nat.le_refl _) (by have := sz.out; intro q hq; simp only [List.mem_cons, List.not_mem_nil, or_false] at hq; rcases hq with rfl; dsimp only; omega) (by intro s hs; cases hs)
        exact q.elCongr (fun j hj => by
          unfold plT
          by_cases e : j = k
          · subst e; rw [if_pos rfl, if_pos (by omega)]
          · rw [if_neg e]; by_cases e2 : j < k
            · rw [if_pos e2, if_pos (by omega)]
            · rw [if_neg e2, if_neg (by omega)])
      case measure => simp [intOf] <;> omega
    · obtain rfl : k = 40 := by omega
      have e40 : elL m (plT F G c 40) = elL m (fun j => F j + c * G j) := elL_congr (fun j hj => by unfold plT; rw [if_pos hj])
      rw [e40] at st
      have B0 := st.box 0 (w.heap.size, elL m (fun j => F j + c * G j)) rfl
      have B1 := st.box 1 (w2.heap.size, elL 0 (fun _ => 0)) rfl
      dsimp only at B0 B1
      go_wp2_with (refine wpList_loadE rfl _ rfl w.heap.size rfl B0 ?_; refine wpList_storeE rfl _ _ rfl w2.heap.size rfl rfl B1 elL_len ?_; intro w4 x4 f4)
      refine bodyPost_ret (v := .agg (elC m (fun j => F j + c * G j))) (resE (b := w2.heap.size) rfl rfl x4) rfl ⟨rfl, ?_⟩
      exact st.1.trans (f4.below (by have := sz.out; omega) st.1.size)

theorem scaled_any (m : Int) (F : Nat → Int) (c : Int) (w : World) (hF : ∀ j, j < 40 → inR (F j)) (hcF : ∀ j, j < 40 → -1000000000000000000 ≤ c * F j ∧ c * F j ≤ 1000000000000000000) :
    Calls Try.prog 121 #[.agg (elC m F), .int .i64 c] w fun e w' => e = .returned (.agg (elC m (fun j => c * F j))) ∧ Below w.heap.size w w' := by
  have HP := Lib.hid (fun w' => plus_any m m (fun _ => 0) F c w' (fun j hj => by omega) hF hcF)
  have eP : elC m (fun j => 0 + c * F j) = elC m (fun j => c * F j) := elC_congr (fun j hj => by omega)
  rw [eP] at HP
  clear eP
  go_enter Try.func121, Try.ntmps121
  go_wp2_with (first
    | (refine wpList_boxE rfl (.tmp 0) rfl (m := m) (F := F) rfl ?_; intro w1 x1 b1 z1
       have st := ((St.start w).keep b1).addBox _ _ x1
       have Z1 := Lib.hid z1
       clear x1 b1 z1)
    | (refine wpList_allocE rfl rfl ?_; intro w3 x3 b3 z3
       replace st := (st.keep b3).addBox _ _ x3
       have B0 := st.box 0 (w1.heap.size, elL 0 (fun _ => 0)) rfl
       have B1 := st.box 1 (w.heap.size, elL m F) rfl
       have c1 := B1.mod
       dsimp only at B0 B1 c1
       clear x3 b3 z3)
    | (refine wpList_buildE rfl _ rfl (m := m) rfl ?_)
    | (refine wpList_loadE rfl _ rfl w.heap.size rfl B1 ?_)
    | (go_at_call 108; refine (HP.out _).mono ?_; rintro e w4 ⟨rfl, b4⟩
       replace st := st.keep b4
       clear b4 B0 B1 c1
       have B2 := st.box 0 (w1.heap.size, elL 0 (fun _ => 0)) rfl
       dsimp only at B2)
    | (refine wpList_storeE rfl _ _ rfl w1.heap.size rfl rfl B2 elL_len ?_; intro w5 x5 f5))
  refine bodyPost_ret (v := .agg (elC m (fun j => c * F j))) (resE (b := w1.heap.size) rfl rfl x5) rfl ⟨rfl, ?_⟩
  exact st.1.trans (f5.below (by have := Z1.out; omega) st.1.size)
end

section
open Go.RowKit Go.ChangeShapes Go.Sort
set_option linter.unusedVariables false
set_option linter.unusedSimpArgs false

set_option maxRecDepth 100000 in
set_option maxHeartbeats 1000000 in
theorem residuesOf40 (n : Nat) (h1 : 1 ≤ n) (h2 : n ≤ 40) (w : World) :
    Calls Try.prog 118 #[.int .i64 (n : Int)] w fun e w' => ∃ (g cap : Nat), e = .returned (.slice (some ⟨g, 0, none⟩) (phiN n) cap) ∧ Sl true w' w.heap.size w'.heap.size (.slice (some ⟨g, 0, none⟩) (phiN n) cap) (phiN n) (fun k => (res n k : Int)) ∧ Below w.heap.size w w' := by
  have R1 := Row.made w w.heap.size (fun k => (res n k : Int)) (Nat.le_refl _)
  have st0 := (St.start w).alloc (.cells #[] 2)
  have HR1 := Lib.hid R1
  have HST := Lib.hid st0
  clear R1 st0
  go_enter Try.func118, Try.ntmps118
  go_wp2
  go_loopw [3, 4] (fun s3 s4 wr => ∃ (k g cap : Nat), k ≤ n ∧ s3 = .slice (some ⟨g, 0, none⟩) (phiTo n k) cap ∧ s4 = .int .i64 ((k : Int) + 1) ∧ Row wr w.heap.size g cap (phiTo n k) (fun k => (res n k : Int)) ∧ St w wr [] []) (fun _ s4 _ => n + 1 - (intOf s4).toNat)
  case atStart => exact ⟨0, _, _, Nat.zero_le _, rfl, rfl, HR1.out, HST.out⟩
  case round =>
    clear HR1 HST
    obtain ⟨k, g, cap, hk, rfl, rfl, hr, hst⟩ := hrel
    have R1 := Lib.hid hr; clear hr
    have HT := Lib.hid hst; clear hst
    obtain ⟨hl, hl'⟩ := R1.out.lt
    have hle := phiTo_le (n : Int) k
    by_cases hlt : k < n
    · by_cases hg : gcdI ((k : Int) + 1) n = 1
      · have hb : (gcdI ((k : Int) + 1) n == 1) = true := beq_iff_eq.2 hg
        have HS := Lib.hid (phiTo_yes (n : Int) k hg)
        have HA := Lib.hid (res_at40 n (by omega) h1 k hlt hg)
        clear hg
        go_wp2_with (first
          | (go_at_call 173; refine (commonDivisor_any _ _ _ (by omega) (by omega) (by omega) (by omega)).mono ?_; rintro e w' ⟨rfl, m', rfl⟩)
          | (at_builtin; refine wpList_push rfl (.tmp 15) (.tmp 17) rfl rfl w.heap.size g cap (phiTo n k) (fun k => (res n k : Int)) rfl ((show Row (wr.drewN m') w.heap.size g cap (phiTo n k) (fun k => (res n k : Int)) from R1.out).alloc _) wr.heap.size ((k : Int) + 1) rfl (heap_alloc_new (wr.drewN m') _) (by omega) ?_; intro gA kA wA rowA grA orA ltA
             have stA := Lib.hid (((HT.out.drewN m').alloc (.cells #[.int .i64 ((k : Int) + 1)] 2)).write (Frame.ofGrown grA) (by omega) (by intro b hb; cases hb) (by intro s hs'; cases hs'))
             have RA := Lib.hid rowA
             clear rowA grA))
        go_roundw
        case rel =>
          refine ⟨k + 1, gA, kA, by omega, by rw [HS.out], by go_num, ?_, stA.out⟩
          rw [HS.out]
          exact RA.out.congr (fun j hj => by
            by_cases e : j < phiTo n k
            · rw [if_pos e]
            · rw [if_neg e, show j = phiTo n k by omega, HA.out]; simp)
        case measure => simp [intOf] <;> omega
      · have hb : (gcdI ((k : Int) + 1) n == 1) = false := beq_eq_false_iff_ne.2 hg
        have HS := Lib.hid (phiTo_no (n : Int) k hg)
        clear hg
        go_wp2_with (first
          | (go_at_call 173; refine (commonDivisor_any _ _ _ (by omega) (by omega) (by omega) (by omega)).mono ?_; rintro e w' ⟨rfl, m', rfl⟩))
        go_roundw
        case rel => exact ⟨k + 1, g, cap, by omega, by rw [HS.out], by go_num, by rw [HS.out]; exact R1.out, HT.out.drewN _⟩
        case measure => simp [intOf] <;> omega
    · obtain rfl : k = n := by omega
      have HP := Lib.hid (phiTo_all k)
      go_wp2
      go_ret
      refine ⟨g, cap, by rw [HP.out]; rfl, ?_, HT.out.1⟩
      rw [← HP.out]
      exact Sl.ofRowF R1.out (fun j hj => by have := res_ok40 k (by omega) h1 j (by rw [← HP.out]; exact hj); unfold inR; omega) (by unfold maxLen; omega)

set_option maxRecDepth 100000 in
set_option maxHeartbeats 1000000 in
theorem l10Residues_any (n : Nat) (h1 : 1 ≤ n) (h2 : n ≤ 40) (w : World) :
    Calls Try.prog 112 #[.int .i64 (n : Int)] w fun e w' => ∃ (g cap : Nat), e = .returned (.slice (some ⟨g, 0, none⟩) (phiN n) cap) ∧ Sl true w' w.heap.size w'.heap.size (.slice (some ⟨g, 0, none⟩) (phiN n) cap) (phiN n) (fun k => (res n k : Int)) ∧ Below w.heap.size w w' := by
  have R1 := Row.made w w.heap.size (fun k => (res n k : Int)) (Nat.le_refl _)
  have st0 := (St.start w).alloc (.cells #[] 2)
  have HR1 := Lib.hid R1
  have HST := Lib.hid st0
  clear R1 st0
  go_enter Try.func112, Try.ntmps112
  go_wp2
  go_loopw [3, 4] (fun s3 s4 wr => ∃ (k g cap : Nat), k ≤ n ∧ s3 = .slice (some ⟨g, 0, none⟩) (phiTo n k) cap ∧ s4 = .int .i64 ((k : Int) + 1) ∧ Row wr w.heap.size g cap (phiTo n k) (fun k => (res n k : Int)) ∧ St w wr [] []) (fun _ s4 _ => n + 1 - (intOf s4).toNat)
  case atStart => exact ⟨0, _, _, Nat.zero_le _, rfl, rfl, HR1.out, HST.out⟩
  case round =>
    clear HR1 HST
    obtain ⟨k, g, cap, hk, rfl, rfl, hr, hst⟩ := hrel
    have R1 := Lib.hid hr; clear hr
    have HT := Lib.hid hst; clear hst
    obtain ⟨hl, hl'⟩ := R1.out.lt
    have hle := phiTo_le (n : Int) k
    by_cases hlt : k < n
    · by_cases hg : gcdI ((k : Int) + 1) n = 1
      · have hb : (gcdI ((k : Int) + 1) n == 1) = true := beq_iff_eq.2 hg
        have HS := Lib.hid (phiTo_yes (n : Int) k hg)
        have HA := Lib.hid (res_at40 n (by omega) h1 k hlt hg)
        clear hg
        go_wp2_with (first
          | (go_at_call 124; refine (l01Gcd_any _ _ _ (by omega) (by omega) (by omega) (by omega)).mono ?_; rintro e w' ⟨rfl, rfl⟩)
          | (at_builtin; refine wpList_push rfl (.tmp 15) (.tmp 17) rfl rfl w.heap.size g cap (phiTo n k) (fun k => (res n k : Int)) rfl ((show Row wr w.heap.size g cap (phiTo n k) (fun k => (res n k : Int)) from R1.out).alloc _) wr.heap.size ((k : Int) + 1) rfl (heap_alloc_new wr _) (by omega) ?_; intro gA kA wA rowA grA orA ltA
             have stA := Lib.hid (((HT.out).alloc (.cells #[.int .i64 ((k : Int) + 1)] 2)).write (Frame.ofGrown grA) (by omega) (by intro b hb; cases hb) (by intro s hs'; cases hs'))
             have RA := Lib.hid rowA
             clear rowA grA))
        go_roundw
        case rel =>
          refine ⟨k + 1, gA, kA, by omega, by rw [HS.out], by go_num, ?_, stA.out⟩
          rw [HS.out]
          exact RA.out.congr (fun j hj => by
            by_cases e : j < phiTo n k
            · rw [if_pos e]
            · rw [if_neg e, show j = phiTo n k by omega, HA.out]; simp)
        case measure => simp [intOf] <;> omega
      · have hb : (gcdI ((k : Int) + 1) n == 1) = false := beq_eq_false_iff_ne.2 hg
        have HS := Lib.hid (phiTo_no (n : Int) k hg)
        clear hg
        go_wp2_with (first
          | (go_at_call 124; refine (l01Gcd_any _ _ _ (by omega) (by omega) (by omega) (by omega)).mono ?_; rintro e w' ⟨rfl, rfl⟩))
        go_roundw
        case rel => exact ⟨k + 1, g, cap, by omega, by rw [HS.out], by go_num, by rw [HS.out]; exact R1.out, HT.out⟩
        case measure => simp [intOf] <;> omega
    · obtain rfl : k = n := by omega
      have HP := Lib.hid (phiTo_all k)
      go_wp2
      go_ret
      refine ⟨g, cap, by rw [HP.out]; rfl, ?_, HT.out.1⟩
      rw [← HP.out]
      exact Sl.ofRowF R1.out (fun j hj => by have := res_ok40 k (by omega) h1 j (by rw [← HP.out]; exact hj); unfold inR; omega) (by unfold maxLen; omega)

set_option maxRecDepth 100000 in
theorem l10Place_any (n k : Nat) (h2 : 2 ≤ n) (h40 : n ≤ 40) (hk : k < phiN n) (w : World) {lo hi : Nat} {v : Value} (hs : Sl true w lo hi v (phiN n) (fun k => (res n k : Int))) :
    Calls Try.prog 113 #[v, .int .i64 (res n k : Int)] w fun e w' => e = .returned (.int .i64 (k : Int)) ∧ w = w' := by
  obtain ⟨g, off, cap, rfl, _, _, _, _, hc, _⟩ := hs.at (by omega)
  have hp := phi_le40 n (by omega)
  have HC := Lib.hid hc; clear hc hs
  have HI := Lib.hid (fun j (hj : j < phiN n) (e : res n j = res n k) => res_inj40 (n := n) (by omega) h2 hj hk e)
  go_enter Try.func113, Try.ntmps113
  go_wp2
  go_loop [5] (fun i => ∃ j : Nat, j ≤ k ∧ i = .int .i64 j) (fun i => phiN n - (intOf i).toNat)
  case atStart => exact ⟨0, Nat.zero_le _, rfl⟩
  case round =>
    obtain ⟨j, hj, rfl⟩ := hrel
    have hcj := HC.out j (by omega)
    have hjn : (j : Int) < (phiN n : Int) := by omega
    by_cases e : j = k
    · subst e
      have hb : (((res n j : Nat) : Int) == ((res n j : Nat) : Int)) = true := beq_self_eq_true _
      go_wp2
      go_ret
      exact ⟨rfl, rfl⟩
    · have hb : (((res n j : Nat) : Int) == ((res n k : Nat) : Int)) = false := beq_eq_false_iff_ne.2 (fun g => e (HI.out j (by omega) (by omega)))
      go_wp2
      go_round
      case rel => exact ⟨j + 1, by omega, by go_num⟩
      case measure => simp [intOf]; omega

set_option maxRecDepth 100000 in
theorem inverseResidue_any (n k : Nat) (h2 : 2 ≤ n) (h40 : n ≤ 40) (hk : k < phiN n) (w : World) :
    Calls Try.prog 172 #[.int .i64 (res n k : Int), .int .i64 (n : Int)] w fun e w' => e = .returned (.int .i64 (invR n (res n k) : Int)) ∧ ∃ m, w' = w.drewN m := by
  have hi := inv_ok40 n (by omega) h2 k hk
  have HF := Lib.hid (inv_first40 n (by omega) h2 k hk)
  have hr := (res_lt40 (n := n) (by omega) h2 hk).2.1
  have HI1 := Lib.hid hi.1
  obtain ⟨_, hi2, hi3⟩ := hi
  generalize invR n (res n k) = q at *
  generalize res n k = r at *
  go_enter Try.func172, Try.ntmps172
  go_wp2
  go_loopw [5] (fun s5 wr => ∃ j : Nat, 1 ≤ j ∧ j ≤ q ∧ s5 = .int .i64 (j : Int) ∧ ∃ m, wr = w.drewN m) (fun s5 _ => n - (intOf s5).toNat)
  case atStart => exact ⟨1, by omega, by omega, rfl, 0, rfl⟩
  case round =>
    obtain ⟨j, hj1, hj, rfl, m, rfl⟩ := hrel
    have hjn : (j : Int) < (n : Int) := by omega
    have hm1 : r * j ≤ 1600 := Nat.le_trans (Nat.mul_le_mul (show r ≤ 40 by omega) (show j ≤ 40 by omega)) (by omega)
    have hm2 : ((r * j : Nat) : Int) = (r : Int) * j := Int.natCast_mul _ _
    have hm3 : ((r * j % n : Nat) : Int) = (r : Int) * j % n := by rw [Int.natCast_emod, hm2]
    have hm4 : ((r : Int) * j).tmod n = (r : Int) * j % n := Int.tmod_eq_emod_of_nonneg (by rw [← hm2]; omega)
    have hb0 : 0 ≤ (r : Int) * j := by omega
    have hb1 : (r : Int) * j ≤ 1600 := by omega
    by_cases e : j = q
    · have hx : (r : Int) * j % n = 1 := by rw [← hm3, e, HI1.out]; rfl
      have hy := hm4.trans hx
      have hb : ((r : Int) * j % n == 1) = true := by rw [hx]; rfl
      have hb' : (((r : Int) * j).tmod n == 1) = true := by rw [hy]; rfl
      have HE := Lib.hid e
      clear e hm3 hm4 hm2 hx hy
      go_wp2
      go_ret
      exact ⟨by rw [HE.out]; rfl, _, rfl⟩
    · have hne : ¬ (r : Int) * j % n = 1 := by
        rw [← hm3]
        have := HF.out j (by omega)
        omega
      have hb : ((r : Int) * j % n == 1) = false := beq_eq_false_iff_ne.2 hne
      have hb' : (((r : Int) * j).tmod n == 1) = false := by rw [hm4]; exact hb
      clear hm3 hm4 hm2
      go_wp2
      go_roundw
      case rel => exact ⟨j + 1, by omega, by omega, by go_num, _, rfl⟩
      case measure => simp [intOf] <;> omega

set_option maxRecDepth 100000 in
theorem l10Inverse_any (n k : Nat) (h2 : 2 ≤ n) (h40 : n ≤ 40) (hk : k < phiN n) (w : World) :
    Calls Try.prog 114 #[.int .i64 (n : Int), .int .i64 (res n k : Int)] w fun e w' => e = .returned (.int .i64 (invR n (res n k) : Int)) ∧ ∃ m, w' = w.drewN m := by
  have hi := inv_ok40 n (by omega) h2 k hk
  have HF := Lib.hid (inv_first40 n (by omega) h2 k hk)
  have hr := (res_lt40 (n := n) (by omega) h2 hk).2.1
  have HI1 := Lib.hid hi.1
  obtain ⟨_, hi2, hi3⟩ := hi
  generalize invR n (res n k) = q at *
  generalize res n k = r at *
  go_enter Try.func114, Try.ntmps114
  go_wp2
  go_loopw [5] (fun s5 wr => ∃ j : Nat, 1 ≤ j ∧ j ≤ q ∧ s5 = .int .i64 (j : Int) ∧ ∃ m, wr = w.drewN m) (fun s5 _ => n - (intOf s5).toNat)
  case atStart => exact ⟨1, by omega, by omega, rfl, 0, rfl⟩
  case round =>
    obtain ⟨j, hj1, hj, rfl, m, rfl⟩ := hrel
    have hjn : (j : Int) < (n : Int) := by omega
    have hm1 : r * j ≤ 1600 := Nat.le_trans (Nat.mul_le_mul (show r ≤ 40 by omega) (show j ≤ 40 by omega)) (by omega)
    have hm2 : ((r * j : Nat) : Int) = (r : Int) * j := Int.natCast_mul _ _
    have hm3 : ((r * j % n : Nat) : Int) = (r : Int) * j % n := by rw [Int.natCast_emod, hm2]
    have hm4 : ((r : Int) * j).tmod n = (r : Int) * j % n := Int.tmod_eq_emod_of_nonneg (by rw [← hm2]; omega)
    have hb0 : 0 ≤ (r : Int) * j := by omega
    have hb1 : (r : Int) * j ≤ 1600 := by omega
    by_cases e : j = q
    · have hx : (r : Int) * j % n = 1 := by rw [← hm3, e, HI1.out]; rfl
      have hy := hm4.trans hx
      have hb : ((r : Int) * j % n == 1) = true := by rw [hx]; rfl
      have hb' : (((r : Int) * j).tmod n == 1) = true := by rw [hy]; rfl
      have HE := Lib.hid e
      clear e hm3 hm4 hm2 hx hy
      go_wp2
      go_ret
      exact ⟨by rw [HE.out]; rfl, _, rfl⟩
    · have hne : ¬ (r : Int) * j % n = 1 := by
        rw [← hm3]
        have := HF.out j (by omega)
        omega
      have hb : ((r : Int) * j % n == 1) = false := beq_eq_false_iff_ne.2 hne
      have hb' : (((r : Int) * j).tmod n == 1) = false := by rw [hm4]; exact hb
      clear hm3 hm4 hm2
      go_wp2
      go_roundw
      case rel => exact ⟨j + 1, by omega, by omega, by go_num, _, rfl⟩
      case measure => simp [intOf] <;> omega

theorem isModulus_yes (x : Int) (w : World) (h : 2 ≤ x) (h' : x ≤ 40) :
    Calls Try.prog 117 #[.int .i64 x] w fun e w' => e = .returned (.bool true) ∧ w = w' := by
  go_enter Try.func117, Try.ntmps117
  go_wp2
  go_ret
  exact ⟨rfl, rfl⟩
theorem isModulus_no (x : Int) (w : World) (h : x < 2 ∨ 40 < x) :
    Calls Try.prog 117 #[.int .i64 x] w fun e w' => e = .returned (.bool false) ∧ w = w' := by
  by_cases h1 : x < 2
  · clear h
    go_enter Try.func117, Try.ntmps117
    go_wp2
    go_ret
    exact ⟨rfl, rfl⟩
  · have h2 : 40 < x := by omega
    have h3 : 2 ≤ x := by omega
    clear h h1
    go_enter Try.func117, Try.ntmps117
    go_wp2
    go_ret
    exact ⟨by simp; omega, rfl⟩
end

section
open Go.RowKit Go.ChangeShapes Go.Sort
set_option linter.unusedVariables false
set_option linter.unusedSimpArgs false
set_option maxRecDepth 100000
set_option maxHeartbeats 2000000

theorem moved_any (n c : Nat) (f : Nat → Int) (h2 : 2 ≤ n) (h40 : n ≤ 40) (hc : c < phiN n) (w : World) :
    Calls Try.prog 122 #[.agg (elC n (opR n f (phiN n))), .int .i64 (res n c : Int)] w fun e w' => e = .returned (.agg (elC n (opR n (fun j => f (kxR n c j)) (phiN n)))) ∧ Below w.heap.size w w' := by
  have hp := phi_le40 n (by omega)
  have HALL := Lib.hid (mvR_all (n := n) (by omega) h2 (f := f) hc)
  have HAT := Lib.hid (fun k (hk : k < phiN n) => opR_at (n := n) (by omega) h2 (f := f) (L := phiN n) (Nat.le_refl _) hk)
  have hcr := res_lt40 (n := n) (by omega) h2 hc
  have HC := Lib.hid hc
  clear hc
  obtain ⟨F, hF⟩ : ∃ F, opR n f (phiN n) = F := ⟨_, rfl⟩
  rw [hF] at HAT ⊢
  clear hF
  obtain ⟨c', hc'⟩ : ∃ c', res n c = c' := ⟨_, rfl⟩
  rw [hc'] at hcr ⊢
  have HCC := Lib.hid hc'
  clear hc'
  obtain ⟨hc1, hc2, _⟩ := hcr
  go_enter Try.func122, Try.ntmps122
  go_wp2_with (first
    | (refine wpList_boxE rfl _ rfl (m := n) (F := F) rfl ?_; intro w1 x1 b1 z1
       have st := ((St.start w).keep b1).addBox _ _ x1
       have Z1 := Lib.hid z1
       have cx := (st.box 0 (w.heap.size, elL n F) rfl).mod
       dsimp only at cx
       clear x1 b1 z1)
    | ((fail_if_success (have _g := Z2)); refine wpList_allocE rfl rfl ?_; intro w2 x2 b2 z2
       replace st := (st.keep b2).addBox _ _ x2
       have Z2 := Lib.hid z2
       replace cx := (st.box 1 (w.heap.size, elL n F) rfl).mod
       dsimp only at cx
       clear x2 b2 z2)
    | (refine wpList_buildE rfl _ rfl (m := n) rfl ?_)
    | ((fail_if_success (have _g := Z3)); refine wpList_allocE rfl rfl ?_; intro w3 x3 b3 z3
       replace st := (st.keep b3).addBox _ _ x3
       have Z3 := Lib.hid z3
       have B3 := st.box 0 (w2.heap.size, elL 0 (fun _ => 0)) rfl
       dsimp only at B3
       clear x3 b3 z3)
    | (refine wpList_storeE rfl _ _ rfl w2.heap.size rfl (m := n) (F := (fun _ => 0)) rfl B3 elL_len ?_; intro w5 x5 f5
       have sz := Lib.hid (show w.heap.size < w1.heap.size ∧ w1.heap.size < w2.heap.size ∧ w2.heap.size < w5.heap.size from by have := Z1.out; have := Z2.out; have := Z3.out; have := f5.size; omega)
       replace st := st.headR x5 f5 (by have := sz.out; omega) (by have := sz.out; intro q hq; simp only [List.mem_cons, List.not_mem_nil, or_false] at hq; rcases hq with rfl | rfl <;> dsimp only <;> omega) (by intro s hs; cases hs)
       clear B3 x5 f5
       have cx := (st.box 2 (w.heap.size, elL n F) rfl).mod
       dsimp only at cx)
    | (go_at_call 118; refine (residuesOf40 n (by omega) h40 _).mono ?_; rintro e w6 ⟨gr, kr, rfl, s6, b6⟩
       have sz6 := Lib.hid (show w5.heap.size ≤ w6.heap.size from b6.size)
       replace st := (st.keep b6).addSl ⟨true, w5.heap.size, w6.heap.size, .slice (some ⟨gr, 0, none⟩) (phiN n) kr, phiN n, fun k => (res n k : Int)⟩ s6
       clear s6 b6))
  go_loopw [15] (fun s15 wr => ∃ k : Nat, k ≤ phiN n ∧ s15 = .int .i64 (k : Int) ∧ St w wr [(w2.heap.size, elL n (mvR n f c k)), (w1.heap.size, elL 0 (fun _ => 0)), (w.heap.size, elL n F)] [⟨true, w5.heap.size, w6.heap.size, .slice (some ⟨gr, 0, none⟩) (phiN n) kr, phiN n, fun k => (res n k : Int)⟩]) (fun s15 _ => phiN n - (intOf s15).toNat)
  case atStart => exact ⟨0, by omega, rfl, st⟩
  case round =>
    clear st cx
    obtain ⟨k, hk, rfl, st⟩ := hrel
    have cx := (st.box 2 (w.heap.size, elL n F) rfl).mod
    dsimp only at cx
    by_cases hlt : k < phiN n
    · have hki : (k : Int) < (phiN n : Int) := by omega
      have hrk := (st.sl 0 ⟨true, w5.heap.size, w6.heap.size, .slice (some ⟨gr, 0, none⟩) (phiN n) kr, phiN n, fun k => (res n k : Int)⟩ rfl).known (by show 0 < phiN n; omega)
      replace hrk := hrk.2.2.2.1 k hlt
      dsimp only at hrk
      rw [Nat.zero_add] at hrk
      have hra := res_lt40 (n := n) (by omega) h2 hlt
      have HATk := Lib.hid (HAT.out k hlt)
      have HQ := Lib.hid (show ∀ i, mvR n f c (k + 1) i = if i = res n k * res n c % n then f k else mvR n f c k i from fun i => rfl)
      rw [HCC.out] at HQ
      obtain ⟨a, ha⟩ : ∃ a, res n k = a := ⟨_, rfl⟩
      rw [ha] at hra hrk HQ HATk
      clear ha
      obtain ⟨ha1, ha2, _⟩ := hra
      have hm1 : a * c' ≤ 1600 := Nat.le_trans (Nat.mul_le_mul (show a ≤ 40 by omega) (show c' ≤ 40 by omega)) (by omega)
      have hm2 : ((a * c' : Nat) : Int) = (a : Int) * c' := Int.natCast_mul _ _
      obtain ⟨q, hq⟩ : ∃ q, a * c' % n = q := ⟨_, rfl⟩
      have hq40 : q < n := by rw [← hq]; exact Nat.mod_lt _ (by omega)
      rw [hq] at HQ
      have hb0 : 0 ≤ (a : Int) * c' := by omega
      have hb1 : (a : Int) * c' ≤ 1600 := by omega
      have hm3 : (a : Int) * c' % (n : Int) = (q : Int) := by rw [← hm2, ← hq, Int.natCast_emod]
      clear hm2 hq hm1
      have c0 := (st.box 2 (w.heap.size, elL n F) rfl).part (j := a) (by omega)
      have c1 := (st.box 0 (w2.heap.size, elL n (mvR n f c k)) rfl).part (j := q) (by omega)
      have cz := (st.box 0 (w2.heap.size, elL n (mvR n f c k)) rfl).2.2
      dsimp only at c0 c1 cz
      rw [HATk.out] at c0
      go_wp2
      go_region
      go_wp2
      go_roundw
      case rel =>
        refine ⟨k + 1, by omega, by go_num, ?_⟩
        have qq := st.partR (x := f k) (j := q) (by omega) (by have := sz.out; omega) (by have := sz.out; intro q hq; simp only [List.mem_cons, List.not_mem_nil, or_false] at hq; rcases hq with rfl | rfl <;> dsimp only <;> omega) (by have := sz.out; intro q hq; simp only [List.mem_cons, List.not_mem_nil, or_false] at hq; rcases hq with rfl <;> dsimp only <;> omega)
        replace qq := qq.drew
        have e : elL (n : Int) (fun i => if i = q then f k else mvR n f c k i) = elL n (mvR n f c (k + 1)) := elL_congr (fun j hj => (HQ.out j).symm)
        rw [e] at qq
        exact qq
      case measure => simp [intOf] <;> omega
    · obtain rfl : k = phiN n := by omega
      rw [HALL.out] at st
      have B0 := st.box 0 (w2.heap.size, elL n (opR n (fun j => f (kxR n c j)) (phiN n))) rfl
      have B1 := st.box 1 (w1.heap.size, elL 0 (fun _ => 0)) rfl
      dsimp only at B0 B1
      go_wp2_with (refine wpList_loadE rfl _ rfl w2.heap.size rfl B0 ?_; refine wpList_storeE rfl _ _ rfl w1.heap.size rfl rfl B1 elL_len ?_; intro w7 x7 f7)
      refine bodyPost_ret (v := .agg (elC n (opR n (fun j => f (kxR n c j)) (phiN n)))) (resE (b := w1.heap.size) rfl rfl x7) rfl ⟨rfl, ?_⟩
      exact st.1.trans (f7.below (by have := sz.out; omega) st.1.size)

theorem turned_any (n : Nat) (f : Nat → Int) (h2 : 2 ≤ n) (h40 : n ≤ 40) (w : World) :
    Calls Try.prog 111 #[.agg (elC n (opR n f (phiN n)))] w fun e w' => e = .returned (.agg (elC n (opR n (fun j => f (ivR n j)) (phiN n)))) ∧ Below w.heap.size w w' := by
  have hp := phi_le40 n (by omega)
  have HAT := Lib.hid (fun k (hk : k < phiN n) => opR_at (n := n) (by omega) h2 (f := f) (L := phiN n) (Nat.le_refl _) hk)
  obtain ⟨F, hF⟩ : ∃ F, opR n f (phiN n) = F := ⟨_, rfl⟩
  rw [hF] at HAT ⊢
  clear hF
  go_enter Try.func111, Try.ntmps111
  go_wp2_with (first
    | (refine wpList_boxE rfl _ rfl (m := n) (F := F) rfl ?_; intro w1 x1 b1 z1
       have st := ((St.start w).keep b1).addBox _ _ x1
       have Z1 := Lib.hid z1
       have cx := (st.box 0 (w.heap.size, elL n F) rfl).mod
       dsimp only at cx
       clear x1 b1 z1)
    | ((fail_if_success (have _g := Z2)); refine wpList_allocE rfl rfl ?_; intro w2 x2 b2 z2
       replace st := (st.keep b2).addBox _ _ x2
       have Z2 := Lib.hid z2
       replace cx := (st.box 1 (w.heap.size, elL n F) rfl).mod
       dsimp only at cx
       clear x2 b2 z2)
    | (refine wpList_buildE rfl _ rfl (m := n) rfl ?_)
    | ((fail_if_success (have _g := Z3)); refine wpList_allocE rfl rfl ?_; intro w3 x3 b3 z3
       replace st := (st.keep b3).addBox _ _ x3
       have Z3 := Lib.hid z3
       have B3 := st.box 0 (w2.heap.size, elL 0 (fun _ => 0)) rfl
       dsimp only at B3
       clear x3 b3 z3)
    | (refine wpList_storeE rfl _ _ rfl w2.heap.size rfl (m := n) (F := (fun _ => 0)) rfl B3 elL_len ?_; intro w5 x5 f5
       have sz := Lib.hid (show w.heap.size < w1.heap.size ∧ w1.heap.size < w2.heap.size ∧ w2.heap.size < w5.heap.size from by have := Z1.out; have := Z2.out; have := Z3.out; have := f5.size; omega)
       replace st := st.headR x5 f5 (by have := sz.out; omega) (by have := sz.out; intro q hq; simp only [List.mem_cons, List.not_mem_nil, or_false] at hq; rcases hq with rfl | rfl <;> dsimp only <;> omega) (by intro s hs; cases hs)
       clear B3 x5 f5
       have cx := (st.box 2 (w.heap.size, elL n F) rfl).mod
       dsimp only at cx)
    | (go_at_call 118; refine (residuesOf40 n (by omega) h40 _).mono ?_; rintro e w6 ⟨gr, kr, rfl, s6, b6⟩
       have sz6 := Lib.hid (show w5.heap.size ≤ w6.heap.size from b6.size)
       replace st := (st.keep b6).addSl ⟨true, w5.heap.size, w6.heap.size, .slice (some ⟨gr, 0, none⟩) (phiN n) kr, phiN n, fun k => (res n k : Int)⟩ s6
       clear s6 b6))
  go_loopw [13] (fun s15 wr => ∃ k : Nat, k ≤ phiN n ∧ s15 = .int .i64 (k : Int) ∧ St w wr [(w2.heap.size, elL n (opR n (fun j => f (ivR n j)) k)), (w1.heap.size, elL 0 (fun _ => 0)), (w.heap.size, elL n F)] [⟨true, w5.heap.size, w6.heap.size, .slice (some ⟨gr, 0, none⟩) (phiN n) kr, phiN n, fun k => (res n k : Int)⟩]) (fun s15 _ => phiN n - (intOf s15).toNat)
  case atStart => exact ⟨0, by omega, rfl, st⟩
  case round =>
    clear st cx
    obtain ⟨k, hk, rfl, st⟩ := hrel
    have cx := (st.box 2 (w.heap.size, elL n F) rfl).mod
    dsimp only at cx
    by_cases hlt : k < phiN n
    · have hki : (k : Int) < (phiN n : Int) := by omega
      have hrk := (st.sl 0 ⟨true, w5.heap.size, w6.heap.size, .slice (some ⟨gr, 0, none⟩) (phiN n) kr, phiN n, fun k => (res n k : Int)⟩ rfl).known (by show 0 < phiN n; omega)
      replace hrk := hrk.2.2.2.1 k hlt
      dsimp only at hrk
      rw [Nat.zero_add] at hrk
      have hra := res_lt40 (n := n) (by omega) h2 hlt
      have hv := iv_ok (n := n) (by omega) h2 hlt
      have HATk := Lib.hid (HAT.out _ hv.1)
      have HINV := Lib.hid (fun w' => inverseResidue_any n k h2 h40 hlt w')
      rw [← hv.2] at HINV
      have hvb := (res_lt40 (n := n) (by omega) h2 hv.1).2.1
      have HQ := Lib.hid (show ∀ i, opR n (fun j => f (ivR n j)) (k + 1) i = if i = res n k then f (ivR n k) else opR n (fun j => f (ivR n j)) k i from fun i => rfl)
      clear hv
      obtain ⟨v, hv⟩ : ∃ v, res n (ivR n k) = v := ⟨_, rfl⟩
      rw [hv] at hvb HATk HINV
      clear hv
      obtain ⟨a, ha⟩ : ∃ a, res n k = a := ⟨_, rfl⟩
      rw [ha] at hra hrk HQ HINV
      clear ha
      obtain ⟨ha1, ha2, _⟩ := hra
      have c0 := (st.box 2 (w.heap.size, elL n F) rfl).part (j := v) (by omega)
      have c1 := (st.box 0 (w2.heap.size, elL n (opR n (fun j => f (ivR n j)) k)) rfl).part (j := a) (by omega)
      have cz := (st.box 0 (w2.heap.size, elL n (opR n (fun j => f (ivR n j)) k)) rfl).2.2
      dsimp only at c0 c1 cz
      rw [HATk.out] at c0
      go_wp2_with (go_at_call 172; refine (HINV.out _).mono ?_; rintro e w' ⟨rfl, m', rfl⟩)
      go_roundw
      case rel =>
        refine ⟨k + 1, by omega, by go_num, ?_⟩
        have qq := (st.drewN m').partR (x := f (ivR n k)) (j := a) (by omega) (by have := sz.out; omega) (by have := sz.out; intro q hq; simp only [List.mem_cons, List.not_mem_nil, or_false] at hq; rcases hq with rfl | rfl <;> dsimp only <;> omega) (by have := sz.out; intro q hq; simp only [List.mem_cons, List.not_mem_nil, or_false] at hq; rcases hq with rfl <;> dsimp only <;> omega)
        have e : elL (n : Int) (fun i => if i = a then f (ivR n k) else opR n (fun j => f (ivR n j)) k i) = elL n (opR n (fun j => f (ivR n j)) (k + 1)) := elL_congr (fun j hj => (HQ.out j).symm)
        rw [e] at qq
        exact qq
      case measure => simp [intOf] <;> omega
    · obtain rfl : k = phiN n := by omega
      have B0 := st.box 0 (w2.heap.size, elL n (opR n (fun j => f (ivR n j)) (phiN n))) rfl
      have B1 := st.box 1 (w1.heap.size, elL 0 (fun _ => 0)) rfl
      dsimp only at B0 B1
      go_wp2_with (refine wpList_loadE rfl _ rfl w2.heap.size rfl B0 ?_; refine wpList_storeE rfl _ _ rfl w1.heap.size rfl rfl B1 elL_len ?_; intro w7 x7 f7)
      refine bodyPost_ret (v := .agg (elC n (opR n (fun j => f (ivR n j)) (phiN n)))) (resE (b := w1.heap.size) rfl rfl x7) rfl ⟨rfl, ?_⟩
      exact st.1.trans (f7.below (by have := sz.out; omega) st.1.size)

theorem stick_any (n : Nat) (h2 : 2 ≤ n) (h40 : n ≤ 40) (w : World) :
    Calls Try.prog 123 #[.int .i64 (n : Int)] w fun e w' => e = .returned (.agg (elC n (opR n (fun j => (res n (ivR n j) : Int)) (phiN n)))) ∧ Below w.heap.size w w' := by
  have hp := phi_le40 n (by omega)
  go_enter Try.func123, Try.ntmps123
  go_wp2_with (first
    | ((fail_if_success (have _g := Z2)); refine wpList_allocE rfl rfl ?_; intro w2 x2 b2 z2
       have st := ((St.start w).keep b2).addBox _ _ x2
       have Z2 := Lib.hid z2
       clear x2 b2 z2)
    | (refine wpList_buildE rfl _ rfl (m := n) rfl ?_)
    | ((fail_if_success (have _g := Z3)); refine wpList_allocE rfl rfl ?_; intro w3 x3 b3 z3
       replace st := (st.keep b3).addBox _ _ x3
       have Z3 := Lib.hid z3
       have B3 := st.box 0 (w2.heap.size, elL 0 (fun _ => 0)) rfl
       dsimp only at B3
       clear x3 b3 z3)
    | (refine wpList_storeE rfl _ _ rfl w2.heap.size rfl (m := n) (F := (fun _ => 0)) rfl B3 elL_len ?_; intro w5 x5 f5
       have sz := Lib.hid (show w.heap.size < w2.heap.size ∧ w2.heap.size < w5.heap.size from by have := Z2.out; have := Z3.out; have := f5.size; omega)
       replace st := st.headR x5 f5 (by have := sz.out; omega) (by have := sz.out; intro q hq; simp only [List.mem_cons, List.not_mem_nil, or_false] at hq; rcases hq with rfl <;> dsimp only <;> omega) (by intro s hs; cases hs)
       clear B3 x5 f5)
    | (go_at_call 118; refine (residuesOf40 n (by omega) h40 _).mono ?_; rintro e w6 ⟨gr, kr, rfl, s6, b6⟩
       have sz6 := Lib.hid (show w5.heap.size ≤ w6.heap.size from b6.size)
       replace st := (st.keep b6).addSl ⟨true, w5.heap.size, w6.heap.size, .slice (some ⟨gr, 0, none⟩) (phiN n) kr, phiN n, fun k => (res n k : Int)⟩ s6
       clear s6 b6))
  go_loopw [11] (fun s15 wr => ∃ k : Nat, k ≤ phiN n ∧ s15 = .int .i64 (k : Int) ∧ St w wr [(w2.heap.size, elL n (opR n (fun j => (res n j : Int)) k)), (w.heap.size, elL 0 (fun _ => 0))] [⟨true, w5.heap.size, w6.heap.size, .slice (some ⟨gr, 0, none⟩) (phiN n) kr, phiN n, fun k => (res n k : Int)⟩]) (fun s15 _ => phiN n - (intOf s15).toNat)
  case atStart => exact ⟨0, by omega, rfl, st⟩
  case round =>
    clear st
    obtain ⟨k, hk, rfl, st⟩ := hrel
    by_cases hlt : k < phiN n
    · have hki : (k : Int) < (phiN n : Int) := by omega
      have hrk := (st.sl 0 ⟨true, w5.heap.size, w6.heap.size, .slice (some ⟨gr, 0, none⟩) (phiN n) kr, phiN n, fun k => (res n k : Int)⟩ rfl).known (by show 0 < phiN n; omega)
      replace hrk := hrk.2.2.2.1 k hlt
      dsimp only at hrk
      rw [Nat.zero_add] at hrk
      have hra := res_lt40 (n := n) (by omega) h2 hlt
      have HQ := Lib.hid (show ∀ i, opR n (fun j => (res n j : Int)) (k + 1) i = if i = res n k then (res n k : Int) else opR n (fun j => (res n j : Int)) k i from fun i => rfl)
      obtain ⟨a, ha⟩ : ∃ a, res n k = a := ⟨_, rfl⟩
      rw [ha] at hra hrk HQ
      clear ha
      obtain ⟨ha1, ha2, _⟩ := hra
      have c1 := (st.box 0 (w2.heap.size, elL n (opR n (fun j => (res n j : Int)) k)) rfl).part (j := a) (by omega)
      have cz := (st.box 0 (w2.heap.size, elL n (opR n (fun j => (res n j : Int)) k)) rfl).2.2
      dsimp only at c1 cz
      go_wp2
      go_roundw
      case rel =>
        refine ⟨k + 1, by omega, by go_num, ?_⟩
        have qq := st.partR (x := (a : Int)) (j := a) (by omega) (by have := sz.out; omega) (by have := sz.out; intro q hq; simp only [List.mem_cons, List.not_mem_nil, or_false] at hq; rcases hq with rfl <;> dsimp only <;> omega) (by have := sz.out; intro q hq; simp only [List.mem_cons, List.not_mem_nil, or_false] at hq; rcases hq with rfl <;> dsimp only <;> omega)
        have e : elL (n : Int) (fun i => if i = a then (a : Int) else opR n (fun j => (res n j : Int)) k i) = elL n (opR n (fun j => (res n j : Int)) (k + 1)) := elL_congr (fun j hj => (HQ.out j).symm)
        rw [e] at qq
        exact qq
      case measure => simp [intOf] <;> omega
    · obtain rfl : k = phiN n := by omega
      have B0 := st.box 0 (w2.heap.size, elL n (opR n (fun j => (res n j : Int)) (phiN n))) rfl
      dsimp only at B0
      have HT := Lib.hid (fun w' => turned_any n (fun j => (res n j : Int)) h2 h40 w')
      go_wp2_with (first
        | (refine wpList_loadE rfl _ rfl w2.heap.size rfl B0 ?_)
        | (go_at_call 111; refine (HT.out _).mono ?_; rintro e w8 ⟨rfl, b8⟩
           replace st := st.keep b8
           have B1 := st.box 1 (w.heap.size, elL 0 (fun _ => 0)) rfl
           dsimp only at B1)
        | (refine wpList_storeE rfl _ _ rfl w.heap.size rfl rfl B1 elL_len ?_; intro w7 x7 f7))
      refine bodyPost_ret (v := .agg (elC n (opR n (fun j => (res n (ivR n j) : Int)) (phiN n)))) (resE (b := w.heap.size) rfl rfl x7) rfl ⟨rfl, ?_⟩
      exact st.1.trans (f7.below (Nat.le_refl _) st.1.size)
end

section
open Go.RowKit Go.ChangeShapes Go.Sort
set_option linter.unusedVariables false
set_option linter.unusedSimpArgs false
set_option maxRecDepth 100000
set_option maxHeartbeats 2000000

def RgP (x : Int) (n : Nat) (f : Nat → Int) : Prop := 2 ≤ x ∧ x ≤ 40 ∧ n = phiI x ∧ Within f n 1000000000
section
variable {o : Bool} {lo hi n : Nat} {v : Value} {f : Nat → Int}
theorem openRing_noMod (x : Int) (w : World) (hs : Sl o w lo hi v n f) (h : x < 2 ∨ 40 < x) :
    Calls Try.prog 104 #[.agg #[.int .i64 x, v]] w fun e w' => e = .returned (.tuple #[.agg (elC 0 (fun _ => 0)), .int .i64 1]) ∧ Below w.heap.size w w' := by
  have hm := hs.len
  unfold maxLen at hm
  obtain ⟨a, cap, rfl⟩ := hs.shape
  have st := ((St.start w).addSl ⟨o, lo, hi, .slice a n cap, n, f⟩ hs)
  have hhs := hs.size
  replace st := (st.alloc (.cells #[.int .i64 x, .slice a n cap] 28)).addBox w.heap.size [.int .i64 x, .slice a n cap] (Box.made _ _ _ _ (fun j v h => by simpa using h))
  have HX := Lib.hid h
  clear h hs
  go_enter Try.func104, Try.ntmps104
  go_wp2_with (first
    | ((fail_if_success (have _g := Z1)); refine wpList_allocE rfl rfl ?_; intro w1 x1 b1 z1
       have Z1 := Lib.hid (show w1.heap.size = w.heap.size + 2 by rw [z1]; simp)
       replace st := (st.keep b1).addBox _ _ x1
       simp only [World.size_alloc] at st
       clear x1 b1 z1)
    | fail)
  have k0 := cell_regrown (st.box 1 (w.heap.size, [.int .i64 x, .slice a n cap]) rfl).cell2.1
  have k1 := cell_regrown (st.box 1 (w.heap.size, [.int .i64 x, .slice a n cap]) rfl).cell2.2
  refine wp_region_quiet_below (by kernel_rfl) (by kernel_rfl) ?_
  repeat (go_big_quiet_step (first
    | (go_at_call 117; exact regrown_same (isModulus_no _ _ HX.out))))
  refine wpQuiet_nil ?_
  intro w2 hw2
  have b2 : Below w1.heap.size w1 w2 := by obtain ⟨p, rfl⟩ := hw2; exact below_regrown _ _ _
  clear hw2 k0 k1
  replace st := st.keep b2
  clear b2
  have B0 := st.box 0 (w.heap.size + 1, elL 0 (fun _ => 0)) rfl
  dsimp only at B0
  go_wp2_with (first
    | (refine wpList_buildE0 rfl rfl ?_)
    | (refine wpList_storeE rfl _ _ rfl (w.heap.size + 1) rfl (m := 0) (F := (fun _ => 0)) rfl B0 elL_len ?_; intro w5 x5 f5))
  refine bodyPost_ret (v := .tuple #[.agg (elC 0 (fun _ => 0)), .int .i64 1]) (resE1 (b := w.heap.size + 1) rfl rfl rfl x5) rfl ⟨rfl, ?_⟩
  exact st.1.trans (f5.below (by omega) st.1.size)
theorem openRing_noLen (x : Int) (w : World) (hs : Sl o w lo hi v n f) (h2 : 2 ≤ x) (h40 : x ≤ 40) (hn : n ≠ phiI x) :
    Calls Try.prog 104 #[.agg #[.int .i64 x, v]] w fun e w' => e = .returned (.tuple #[.agg (elC 0 (fun _ => 0)), .int .i64 1]) ∧ Below w.heap.size w w' := by
  have hm := hs.len
  unfold maxLen at hm
  obtain ⟨a, cap, rfl⟩ := hs.shape
  have st := ((St.start w).addSl ⟨o, lo, hi, .slice a n cap, n, f⟩ hs)
  have hhs := hs.size
  replace st := (st.alloc (.cells #[.int .i64 x, .slice a n cap] 28)).addBox w.heap.size [.int .i64 x, .slice a n cap] (Box.made _ _ _ _ (fun j v h => by simpa using h))
  have hb : ((n : Int) != ((phiI x : Nat) : Int)) = true := by rw [bne_iff_ne]; omega
  have hb' : ((n : Int) == ((phiI x : Nat) : Int)) = false := by rw [beq_eq_false_iff_ne]; omega
  clear hs hn
  go_enter Try.func104, Try.ntmps104
  go_wp2_with (first
    | ((fail_if_success (have _g := Z1)); refine wpList_allocE rfl rfl ?_; intro w1 x1 b1 z1
       have Z1 := Lib.hid (show w1.heap.size = w.heap.size + 2 by rw [z1]; simp)
       replace st := (st.keep b1).addBox _ _ x1
       simp only [World.size_alloc] at st
       clear x1 b1 z1)
    | fail)
  have k0 := cell_regrown (st.box 1 (w.heap.size, [.int .i64 x, .slice a n cap]) rfl).cell2.1
  have k1 := cell_regrown (st.box 1 (w.heap.size, [.int .i64 x, .slice a n cap]) rfl).cell2.2
  refine wp_region_quiet_below (by kernel_rfl) (by kernel_rfl) ?_
  repeat (go_big_quiet_step (first
    | (go_at_call 117; exact regrown_same (isModulus_yes _ _ h2 h40))
    | (go_at_call 119; exact regrown_drewN (totient_any _ _ (by omega)))))
  refine wpQuiet_nil ?_
  intro w2 hw2
  have b2 : Below w1.heap.size w1 w2 := by obtain ⟨p, rfl⟩ := hw2; exact below_regrown _ _ _
  clear hw2 k0 k1
  replace st := st.keep b2
  clear b2
  have B0 := st.box 0 (w.heap.size + 1, elL 0 (fun _ => 0)) rfl
  dsimp only at B0
  go_wp2_with (first
    | (refine wpList_buildE0 rfl rfl ?_)
    | (refine wpList_storeE rfl _ _ rfl (w.heap.size + 1) rfl (m := 0) (F := (fun _ => 0)) rfl B0 elL_len ?_; intro w5 x5 f5))
  refine bodyPost_ret (v := .tuple #[.agg (elC 0 (fun _ => 0)), .int .i64 1]) (resE1 (b := w.heap.size + 1) rfl rfl rfl x5) rfl ⟨rfl, ?_⟩
  exact st.1.trans (f5.below (by omega) st.1.size)
theorem openRing_len (N : Nat) (B : Bool) (w : World) (hs : Sl o w lo hi v n f) (h2 : 2 ≤ N) (h40 : N ≤ 40) (hn : n = phiN N) (hB : inC (opR N f (phiN N)) (-1000000000) 1000000000 = B) :
    Calls Try.prog 104 #[.agg #[.int .i64 (N : Int), v]] w fun e w' => e = .returned (if B = true then .tuple #[.agg (elC N (opR N f (phiN N))), .int .i64 0] else .tuple #[.agg (elC 0 (fun _ => 0)), .int .i64 1]) ∧ Below w.heap.size w w' := by
  have hp := phi_le40 N (by omega)
  have hp0 := phi_pos40 N (by omega) (by omega)
  have HFR := Lib.hid hs.bd
  have hm := hs.len
  unfold maxLen at hm
  obtain ⟨a, cap, rfl⟩ := hs.shape
  have st := ((St.start w).addSl ⟨o, lo, hi, .slice a n cap, n, f⟩ hs)
  have hhs := hs.size
  replace st := (st.alloc (.cells #[.int .i64 (N : Int), .slice a n cap] 28)).addBox w.heap.size [.int .i64 (N : Int), .slice a n cap] (Box.made _ _ _ _ (fun j v h => by simpa using h))
  have hb : ((n : Int) != ((phiI (N : Int) : Nat) : Int)) = false := by
    have e : n = phiI (N : Int) := hn
    rw [e]; simp
  have HIW := Lib.hid (fun w' => isWithinE_any (N : Int) (opR N f (phiN N)) (-1000000000) 1000000000 w' (fun j _ => opR_in (fun i hi => HFR.out i (by omega)) j) (by unfold inR; omega) (by unfold inR; omega))
  rw [hB] at HIW
  have HN := Lib.hid hn
  clear hs hn hB
  go_enter Try.func104, Try.ntmps104
  go_wp2_with (first
    | ((fail_if_success (have _g := Z1)); refine wpList_allocE rfl rfl ?_; intro w1 x1 b1 z1
       have Z1 := Lib.hid (show w1.heap.size = w.heap.size + 2 by rw [z1]; simp)
       replace st := (st.keep b1).addBox _ _ x1
       simp only [World.size_alloc] at st
       clear x1 b1 z1)
    | fail)
  have k0 := cell_regrown (st.box 1 (w.heap.size, [.int .i64 (N : Int), .slice a n cap]) rfl).cell2.1
  have k1 := cell_regrown (st.box 1 (w.heap.size, [.int .i64 (N : Int), .slice a n cap]) rfl).cell2.2
  refine wp_region_quiet_below (by kernel_rfl) (by kernel_rfl) ?_
  repeat (go_big_quiet_step (first
    | (go_at_call 117; exact regrown_same (isModulus_yes _ _ (by omega) (by omega)))
    | (go_at_call 119; exact regrown_drewN (totient_any _ _ (by omega)))))
  refine wpQuiet_nil ?_
  intro w2 hw2
  have b2 : Below w1.heap.size w1 w2 := by obtain ⟨p, rfl⟩ := hw2; exact below_regrown _ _ _
  have Z2 := Lib.hid b2.size
  clear hw2 k0 k1
  replace st := st.keep b2
  clear b2
  obtain ⟨c0, c1⟩ := (st.box 1 (w.heap.size, [.int .i64 (N : Int), .slice a n cap]) rfl).cell2
  go_wp2_with (first
    | (refine wpList_buildE rfl _ rfl (m := N) rfl ?_)
    | (refine wpList_allocE rfl rfl ?_; intro w4 x4 b4 z4
       have Z4 := Lib.hid z4
       replace st := (st.keep b4).addBox _ _ x4
       have B4 := st.box 0 (w2.heap.size, elL 0 (fun _ => 0)) rfl
       dsimp only at B4
       clear x4 b4 z4)
    | (refine wpList_storeE rfl _ _ rfl w2.heap.size rfl (m := N) (F := (fun _ => 0)) rfl B4 elL_len ?_; intro w5 x5 f5
       have sz := Lib.hid (show w.heap.size + 1 < w2.heap.size ∧ w2.heap.size < w5.heap.size ∧ hi ≤ w.heap.size from by have := Z1.out; have := Z2.out; have := Z4.out; have := f5.size; omega)
       replace st := st.headR x5 f5 (by have := sz.out; omega) (by have := sz.out; intro q hq; simp only [List.mem_cons, List.not_mem_nil, or_false] at hq; rcases hq with rfl | rfl <;> dsimp only <;> omega) (by have := sz.out; intro q hq; simp only [List.mem_cons, List.not_mem_nil, or_false] at hq; rcases hq with rfl <;> dsimp only <;> omega)
       clear B4 x5 f5
       obtain ⟨c0, c1⟩ := (st.box 2 (w.heap.size, [.int .i64 (N : Int), .slice a n cap]) rfl).cell2)
    | (go_at_call 118; refine (residuesOf40 N (by omega) h40 _).mono ?_; rintro e w6 ⟨gr, kr, rfl, s6, b6⟩
       have sz6 := Lib.hid (show w5.heap.size ≤ w6.heap.size from b6.size)
       replace st := (st.keep b6).addSl ⟨true, w5.heap.size, w6.heap.size, .slice (some ⟨gr, 0, none⟩) (phiN N) kr, phiN N, fun k => (res N k : Int)⟩ s6
       clear s6 b6))
  go_loopw [28] (fun s15 wr => ∃ k : Nat, k ≤ phiN N ∧ s15 = .int .i64 (k : Int) ∧ St w wr [(w2.heap.size, elL N (opR N f k)), (w.heap.size + 1, elL 0 (fun _ => 0)), (w.heap.size, [.int .i64 (N : Int), .slice a n cap])] [⟨true, w5.heap.size, w6.heap.size, .slice (some ⟨gr, 0, none⟩) (phiN N) kr, phiN N, fun k => (res N k : Int)⟩, ⟨o, lo, hi, .slice a n cap, n, f⟩]) (fun s15 _ => phiN N - (intOf s15).toNat)
  case atStart => exact ⟨0, by omega, rfl, st⟩
  case round =>
    clear st c0 c1
    obtain ⟨k, hk, rfl, st⟩ := hrel
    by_cases hlt : k < phiN N
    · have hki : (k : Int) < (phiN N : Int) := by omega
      have hkn : (k : Int) < (n : Int) := by have := HN.out; omega
      obtain ⟨c0, c1⟩ := (st.box 2 (w.heap.size, [.int .i64 (N : Int), .slice a n cap]) rfl).cell2
      have hrk := (st.sl 0 ⟨true, w5.heap.size, w6.heap.size, .slice (some ⟨gr, 0, none⟩) (phiN N) kr, phiN N, fun k => (res N k : Int)⟩ rfl).known (by show 0 < phiN N; omega)
      replace hrk := hrk.2.2.2.1 k hlt
      dsimp only at hrk
      rw [Nat.zero_add] at hrk
      have qa := st.sl 1 ⟨o, lo, hi, .slice a n cap, n, f⟩ rfl
      dsimp only at qa
      obtain ⟨b, off, c1', hv, _, _, _, _, hc, _⟩ := qa.at (by omega)
      obtain ⟨rfl, rfl⟩ : a = some ⟨b, off, none⟩ ∧ cap = c1' := by cases hv; exact ⟨rfl, rfl⟩
      have hck := hc k (by omega)
      clear hv hc qa
      have hra := res_lt40 (n := N) (by omega) h2 hlt
      have HQ := Lib.hid (show ∀ i, opR N f (k + 1) i = if i = res N k then f k else opR N f k i from fun i => rfl)
      obtain ⟨r, ha⟩ : ∃ r, res N k = r := ⟨_, rfl⟩
      rw [ha] at hra hrk HQ
      clear ha
      obtain ⟨ha1, ha2, _⟩ := hra
      have d0 := (st.box 0 (w2.heap.size, elL N (opR N f k)) rfl).part (j := r) (by omega)
      have dz := (st.box 0 (w2.heap.size, elL N (opR N f k)) rfl).2.2
      dsimp only at d0 dz
      go_wp2
      go_roundw
      case rel =>
        refine ⟨k + 1, by omega, by go_num, ?_⟩
        have qq := st.partR (x := f k) (j := r) (by omega) (by have := sz.out; omega) (by have := sz.out; intro q hq; simp only [List.mem_cons, List.not_mem_nil, or_false] at hq; rcases hq with rfl | rfl <;> dsimp only <;> omega) (by have := sz.out; have := sz6.out; intro q hq; simp only [List.mem_cons, List.not_mem_nil, or_false] at hq; rcases hq with rfl | rfl <;> dsimp only <;> omega)
        have e : elL (N : Int) (fun i => if i = r then f k else opR N f k i) = elL N (opR N f (k + 1)) := elL_congr (fun j hj => (HQ.out j).symm)
        rw [e] at qq
        exact qq
      case measure => simp [intOf] <;> omega
    · obtain rfl : k = phiN N := by omega
      have B0 := st.box 0 (w2.heap.size, elL N (opR N f (phiN N))) rfl
      dsimp only at B0
      cases B with
      | true =>
        go_wp2_with (first
          | (refine wpList_loadE rfl _ rfl w2.heap.size rfl B0 ?_)
          | (go_at_call 97; refine (HIW.out _).mono ?_; rintro e w7 ⟨rfl, b7⟩
             replace st := st.keep b7
             clear b7 B0
             have B0 := st.box 0 (w2.heap.size, elL N (opR N f (phiN N))) rfl
             have B1 := st.box 1 (w.heap.size + 1, elL 0 (fun _ => 0)) rfl
             dsimp only at B0 B1)
          | (refine wpList_storeE rfl _ _ rfl (w.heap.size + 1) rfl rfl B1 elL_len ?_; intro w8 x8 f8))
        refine bodyPost_ret (v := .tuple #[.agg (elC N (opR N f (phiN N))), .int .i64 0]) (resE1 (b := w.heap.size + 1) rfl rfl rfl x8) rfl ⟨rfl, ?_⟩
        exact st.1.trans (f8.below (by omega) st.1.size)
      | false =>
        go_wp2_with (first
          | (refine wpList_loadE rfl _ rfl w2.heap.size rfl B0 ?_)
          | (refine wpList_buildE0 rfl rfl ?_)
          | (go_at_call 97; refine (HIW.out _).mono ?_; rintro e w7 ⟨rfl, b7⟩
             replace st := st.keep b7
             clear b7 B0
             have B1 := st.box 1 (w.heap.size + 1, elL 0 (fun _ => 0)) rfl
             dsimp only at B1)
          | (refine wpList_storeE rfl _ _ rfl (w.heap.size + 1) rfl rfl B1 elL_len ?_; intro w8 x8 f8))
        refine bodyPost_ret (v := .tuple #[.agg (elC 0 (fun _ => 0)), .int .i64 1]) (resE1 (b := w.heap.size + 1) rfl rfl rfl x8) rfl ⟨rfl, ?_⟩
        exact st.1.trans (f8.below (by omega) st.1.size)
theorem opW_iff {N : Nat} (h2 : 2 ≤ N) (h40 : N ≤ 40) : inC (opR N f (phiN N)) (-1000000000) 1000000000 = true ↔ Within f (phiN N) 1000000000 := by
  rw [inC_iff (by omega)]
  constructor
  · intro h j hj
    have := h (res N j) (by have := (res_lt40 (n := N) (by omega) h2 hj).2.1; omega)
    rwa [opR_at (by omega) h2 (Nat.le_refl _) hj] at this
  · intro h j _
    exact opR_bd (by omega) h j
theorem openRing_ok (N : Nat) (w : World) (hs : Sl o w lo hi v n f) (h : RgP N n f) :
    Calls Try.prog 104 #[.agg #[.int .i64 (N : Int), v]] w fun e w' => e = .returned (.tuple #[.agg (elC N (opR N f (phiN N))), .int .i64 0]) ∧ Below w.heap.size w w' := by
  obtain ⟨h2, h40, hn, hw⟩ := h
  have hn' : n = phiN N := hn
  rw [hn'] at hw
  exact openRing_len N true w hs (by omega) (by omega) hn (by rw [opW_iff (by omega) (by omega)]; exact hw)
theorem openRing_bad (x : Int) (w : World) (hs : Sl o w lo hi v n f) (h : ¬ RgP x n f) :
    Calls Try.prog 104 #[.agg #[.int .i64 x, v]] w fun e w' => e = .returned (.tuple #[.agg (elC 0 (fun _ => 0)), .int .i64 1]) ∧ Below w.heap.size w w' := by
  by_cases h1 : x < 2 ∨ 40 < x
  · exact openRing_noMod x w hs h1
  · by_cases h2 : n = phiI x
    · obtain ⟨N, rfl⟩ := Int.eq_ofNat_of_zero_le (show 0 ≤ x by omega)
      have hf : inC (opR N f (phiN N)) (-1000000000) 1000000000 = false := by
        cases hb : inC (opR N f (phiN N)) (-1000000000) 1000000000 with
        | false => rfl
        | true =>
          rw [opW_iff (by omega) (by omega)] at hb
          have e : phiN N = n := h2.symm
          rw [e] at hb
          exact absurd ⟨by omega, by omega, h2, hb⟩ h
      exact openRing_len N false w hs (by omega) (by omega) h2 hf
    · exact openRing_noLen x w hs (by omega) (by omega) h2
end
end

section
open Go.RowKit Go.ChangeShapes Go.Sort
set_option linter.unusedVariables false
set_option linter.unusedSimpArgs false
set_option maxRecDepth 100000
set_option maxHeartbeats 2000000

theorem step_pushR {w : World} {ops : Array Oper} {o : Oper} {a : Act} {K : Act → World → Prop} {Q : Exit → Act → World → Prop} {E : Prop} (hgd : o.guard = none) (s x : Operand)
    (ho : o.op = .call { callee := .builtin .append, args := #[s, x], argTypes := #[22, 22] })
    (base n : Nat) (v : Value) (f : Nat → Int) (hs : a.eval s = v) (hown : w.ownsRow base 2 1 v n (ints n f)) (hbase : base ≤ w.heap.size) (B : Nat) (y : Int) (hx : a.eval x = .slice (some ⟨B, 0, none⟩) 1 1)
    (hb : w.heap[B]? = some (.cells #[.int .i64 y] 2 (0, 0))) (hn : n + 1 ≤ 1048576)
    (h : ∀ g' cap' w', Row w' base g' cap' (n + 1) (fun j => if j < n then f j else y) → w.grownBy w' v.ownBlock → (v.ownBlock = some g' ∨ g' = w.heap.size) → g' < w'.heap.size → K (a.put o.dst (.slice (some ⟨g', 0, none⟩) (n + 1) cap')) w') :
    if Region.wanted o (yielded ops a.tmps) = true then Oper.wp Try.prog o a w K Q else E := by
  obtain ⟨i0, hi, hz0, hz1, hz2⟩ := info_parts Try.info2
  refine step_append_lies w hgd s x 22 ho base 2 i0 (.int .i64 0) 1 8 Try.underlying22 hi hz0 hz1 hz2 rfl (by decide) v n _ hs hown ⟨B, 0, none⟩ 1 1 [.int .i64 y] hx rfl (World.news_of_block hb) (by simp [Value.oneCell']) (by decide) (by unfold maxLen; omega) (by omega) hbase _ rfl ?_
  intro g' cap' w' h1 h2 h3 h4
  refine h g' cap' w' ?_ h2 h3 h4
  unfold Row
  rw [List.range_succ, List.map_append]
  have e1 : (List.range n).map (fun j => Value.int .i64 (if j < n then f j else y)) = ints n f := List.map_congr_left (fun j hj => by rw [if_pos (List.mem_range.1 hj)])
  rw [e1]
  simpa using h1
theorem own_lowR {w : World} {base n : Nat} {v : Value} {xs : List Value} {e : TypeId} (h : w.ownsRow base e 1 v n xs) (hb : base ≤ w.heap.size) : base ≤ v.ownBlock.getD w.heap.size := by
  rcases h.2 with ⟨rfl, _⟩ | ⟨g, cap, cur, rfl, hg, _⟩
  · exact hb
  · exact hg
theorem Frame.ofGrownR {w w' : World} {row : Option Nat} (hg : w.grownBy w' row) : Frame (row.getD w.heap.size) (row.getD w.heap.size + 1) w w' :=
  ⟨hg.os, hg.tape, hg.output, hg.size, fun k hk hne => hg.block k hk (fun e => by rw [← e] at hne; simp at hne; omega)⟩
theorem Row.keepR {w w' : World} {base g cap n lo hi : Nat} {f : Nat → Int} (h : Row w base g cap n f) (hf : Frame lo hi w w') (hd : g < lo ∨ hi ≤ g) : Row w' base g cap n f := by
  have hl := h.lt
  refine ⟨h.1, ?_⟩
  rcases h.2 with h2 | ⟨g', cap', cur, hv, hb, hh, r⟩
  · exact .inl h2
  · refine .inr ⟨g', cap', cur, hv, hb, ?_, r⟩
    cases hv
    rw [hf.block g hl.2 hd]; exact hh
theorem rg_zero (w : World) : (zeroValue 28).run Try.prog w = .ok (.agg #[.int .i64 0, .slice none 0 0]) w := by kernel_rfl
section
variable {ops : Array Oper} {rest : List Oper} {op : Oper} {a : Act} {w : World} {Q : Exit → Act → World → Prop}
theorem wpList_allocR (hgd : op.guard = none) (ho : op.op = .alloc 28)
    (h : ∀ w', Box w' w.heap.size [.int .i64 0, .slice none 0 0] → Below w.heap.size w w' → w'.heap.size = w.heap.size + 1 → wpList Try.prog ops Q rest (a.put op.dst (.pointer (some ⟨w.heap.size, 0, none⟩))) w') : wpList Try.prog ops Q (op :: rest) a w := by
  refine wpList_plain hgd fun K hK => ?_
  unfold Oper.wp execOp
  have := hK _ _ (h _ (Box.boxed w 28 _) ((Below.refl _ _).alloc (Nat.le_refl _) _) (by simp))
  simp only [ho, Instr.alloc, Sem.run_bind, Sem.run_pure, Result.andThen_ok, rg_zero, run_newVar _ _ _ (show ¬ (#[Value.int .i64 0, Value.slice none 0 0] : Array Value) = #[] from by simp)]
  exact this
theorem wpList_boxR (hgd : op.guard = none) (x : Operand) (ho : op.op = .box 28 x) {v0 v1 : Value} (hx : a.eval x = .agg #[v0, v1])
    (h : ∀ w', Box w' w.heap.size [v0, v1] → Below w.heap.size w w' → w'.heap.size = w.heap.size + 1 → wpList Try.prog ops Q rest (a.put op.dst (.pointer (some ⟨w.heap.size, 0, none⟩))) w') : wpList Try.prog ops Q (op :: rest) a w := by
  refine wpList_plain hgd fun K hK => ?_
  unfold Oper.wp execOp
  have := hK _ _ (h _ (Box.boxed w 28 _) ((Below.refl _ _).alloc (Nat.le_refl _) _) (by simp))
  simp only [ho, hx, Instr.box, Sem.run_bind, Sem.run_pure, Result.andThen_ok, run_newVar _ _ _ (show ¬ (#[v0, v1] : Array Value) = #[] from by simp)]
  exact this
theorem wpList_storeR (hgd : op.guard = none) (x y : Operand) (ho : op.op = .store 28 x y) (b : Nat) (hx : a.eval x = .pointer (some ⟨b, 0, none⟩)) {v0 v1 u0 u1 : Value} (hy : a.eval y = .agg #[v0, v1]) (h0 : v0.oneCell' = true) (h1 : v1.oneCell' = true) (hb : Box w b [u0, u1])
    (h : ∀ w', Box w' b [v0, v1] → Frame b (b + 1) w w' → wpList Try.prog ops Q rest (a.put op.dst undef) w') : wpList Try.prog ops Q (op :: rest) a w := by
  refine wpList_store_mid hgd _ x y ho b 0 #[v0, v1] hx hy (hb.there rfl) (by kernel_rfl) (all_oneCell_toArray (cs := [v0, v1]) (fun v hv => by
    simp only [List.mem_cons, List.not_mem_nil, or_false] at hv
    rcases hv with rfl | rfl
    · exact h0
    · exact h1)) ?_
  exact h _ (hb.setAll rfl) (Frame.setCells (Nat.le_refl _) (Nat.lt_succ_self _) _ 0 _ _ (Frame.refl _ _ _))
end
theorem Box.set1R {w : World} {b : Nat} {v0 v1 u : Value} (h : Box w b [v0, v1]) : Box (w.setCell ⟨b, 1, none⟩ u) b [v0, u] := by
  refine ⟨by simpa [World.setCell] using h.1, fun j v hv => ?_, fun k => (World.frozen?_setCell _ _ _ _).trans (h.2.2 k)⟩
  match j, hv with
  | 0, hv => rw [setCell_ne _ _ _ _ _ (by omega)]; exact h.2.1 0 v (by simpa using hv)
  | 1, hv => have e : u = v := by simpa using hv
             subst e; exact World.cell?_setCell_same _ _ _ (h.2.1 1 v1 rfl)
  | k + 2, hv => simp at hv
section
variable {f : Nat → Int}
theorem ringWithin_bad (n : Nat) (h2 : 2 ≤ n) (h40 : n ≤ 40) (hf : ∀ j, j < phiN n → inR (f j)) (hw : ¬ Within f (phiN n) 1000000000) (w : World) :
    Calls Try.prog 98 #[.agg (elC n (opR n f (phiN n)))] w fun e w' => e = .returned (.tuple #[.agg #[.int .i64 0, .slice none 0 0], .int .i64 3]) ∧ Below w.heap.size w w' := by
  have HIW := Lib.hid (fun w' => isWithinE_any (n : Int) (opR n f (phiN n)) (-1000000000) 1000000000 w' (fun j _ => opR_in hf j) (by unfold inR; omega) (by unfold inR; omega))
  have hb : inC (opR n f (phiN n)) (-1000000000) 1000000000 = false := by
    cases hb : inC (opR n f (phiN n)) (-1000000000) 1000000000 with
    | false => rfl
    | true => rw [opW_iff h2 h40] at hb; exact absurd hb hw
  rw [hb] at HIW
  clear hb hw hf
  obtain ⟨F, hF⟩ : ∃ F, opR n f (phiN n) = F := ⟨_, rfl⟩
  rw [hF] at HIW ⊢
  clear hF
  go_enter Try.func98, Try.ntmps98
  go_wp2_with (first
    | (refine wpList_boxE rfl _ rfl (m := n) (F := F) rfl ?_; intro w1 x1 b1 z1
       have st := ((St.start w).keep b1).addBox _ _ x1
       have Z1 := Lib.hid z1
       clear x1 b1 z1)
    | ((fail_if_success (have _g := Z2)); refine wpList_allocR rfl rfl ?_; intro w2' x2 b2 z2
       replace st := (st.keep b2).addBox _ _ x2
       have Z2 := Lib.hid z2
       have BX := st.box 1 (w.heap.size, elL n F) rfl
       dsimp only at BX
       clear x2 b2 z2)
    | (refine wpList_loadE rfl _ rfl w.heap.size rfl BX ?_)
    | (go_at_call 97; refine (HIW.out _).mono ?_; rintro e w2 ⟨rfl, b2⟩
       have Z3 := Lib.hid b2.size
       replace st := st.keep b2
       have BR := st.box 0 (w1.heap.size, [.int .i64 0, .slice none 0 0]) rfl
       have cx := (st.box 1 (w.heap.size, elL n F) rfl).mod
       dsimp only at BR cx
       clear b2 BX)
    | (refine wpList_storeR rfl _ _ rfl w1.heap.size rfl (v0 := .int .i64 0) (v1 := .slice none 0 0) rfl rfl rfl BR ?_; intro w5 x5 f5
       obtain ⟨d0, d1⟩ := x5.cell2))
  refine bodyPost_ret (v := .tuple #[.agg #[.int .i64 0, .slice none 0 0], .int .i64 3]) (by simp [results, Try.results98, go_sem, d0, d1]) rfl ⟨rfl, ?_⟩
  exact st.1.trans (f5.below (by have := Z1.out; omega) st.1.size)
theorem ringWithin_ok (n : Nat) (h2 : 2 ≤ n) (h40 : n ≤ 40) (hw : Within f (phiN n) 1000000000) (w : World) :
    Calls Try.prog 98 #[.agg (elC n (opR n f (phiN n)))] w fun e w' => ∃ a k, e = .returned (.tuple #[.agg #[.int .i64 (n : Int), .slice a (phiN n) k], .int .i64 0]) ∧ Sl true w' w.heap.size w'.heap.size (.slice a (phiN n) k) (phiN n) f ∧ Below w.heap.size w w' := by
  have hp := phi_le40 n (by omega)
  have HAT := Lib.hid (fun k (hk : k < phiN n) => opR_at (n := n) (by omega) h2 (f := f) (L := phiN n) (Nat.le_refl _) hk)
  have HIW := Lib.hid (fun w' => isWithinE_any (n : Int) (opR n f (phiN n)) (-1000000000) 1000000000 w' (fun j _ => opR_in (fun i hi => by have := hw i hi; unfold inR; omega) j) (by unfold inR; omega) (by unfold inR; omega))
  have hb : inC (opR n f (phiN n)) (-1000000000) 1000000000 = true := by rw [opW_iff h2 h40]; exact hw
  rw [hb] at HIW
  have HW := Lib.hid hw
  clear hb hw
  obtain ⟨F, hF⟩ : ∃ F, opR n f (phiN n) = F := ⟨_, rfl⟩
  rw [hF] at HIW HAT ⊢
  clear hF
  go_enter Try.func98, Try.ntmps98
  go_wp2_with (first
    | (refine wpList_boxE rfl _ rfl (m := n) (F := F) rfl ?_; intro w1 x1 b1 z1
       have st := ((St.start w).keep b1).addBox _ _ x1
       have Z1 := Lib.hid z1
       clear x1 b1 z1)
    | ((fail_if_success (have _g := Z2)); refine wpList_allocR rfl rfl ?_; intro w2' x2 b2 z2
       replace st := (st.keep b2).addBox _ _ x2
       have Z2 := Lib.hid z2
       have BX := st.box 1 (w.heap.size, elL n F) rfl
       dsimp only at BX
       clear x2 b2 z2)
    | (refine wpList_loadE rfl _ rfl w.heap.size rfl BX ?_)
    | (go_at_call 97; refine (HIW.out _).mono ?_; rintro e w2 ⟨rfl, b2⟩
       have Z3 := Lib.hid b2.size
       replace st := st.keep b2
       have BR := st.box 0 (w1.heap.size, [.int .i64 0, .slice none 0 0]) rfl
       have cx := (st.box 1 (w.heap.size, elL n F) rfl).mod
       dsimp only at BR cx
       clear b2 BX)
    | (refine wpList_allocR rfl rfl ?_; intro w4 x4 b4 z4
       replace st := (st.keep b4).addBox _ _ x4
       have Z4 := Lib.hid z4
       have B4 := st.box 0 (w2.heap.size, [.int .i64 0, .slice none 0 0]) rfl
       dsimp only at B4
       clear x4 b4 z4 BR cx)
    | (refine wpList_storeR rfl _ _ rfl w2.heap.size rfl (v0 := .int .i64 (n : Int)) (v1 := .slice none 0 0) rfl rfl rfl B4 ?_; intro w5 x5 f5
       have sz := Lib.hid (show w.heap.size < w1.heap.size ∧ w1.heap.size < w2.heap.size ∧ w2.heap.size < w5.heap.size from by have := Z1.out; have := Z2.out; have := Z3.out; have := Z4.out; have := f5.size; omega)
       replace st := st.headR x5 f5 (by have := sz.out; omega) (by have := sz.out; intro q hq; simp only [List.mem_cons, List.not_mem_nil, or_false] at hq; rcases hq with rfl | rfl <;> dsimp only <;> omega) (by intro s hs; cases hs)
       clear B4 x5 f5
       have cx := (st.box 2 (w.heap.size, elL n F) rfl).mod
       dsimp only at cx)
    | (go_at_call 118; refine (residuesOf40 n (by omega) h40 _).mono ?_; rintro e w6 ⟨gr, kr, rfl, s6, b6⟩
       have sz6 := Lib.hid (show w5.heap.size ≤ w6.heap.size from b6.size)
       replace st := (st.keep b6).addSl ⟨true, w5.heap.size, w6.heap.size, .slice (some ⟨gr, 0, none⟩) (phiN n) kr, phiN n, fun k => (res n k : Int)⟩ s6
       clear s6 b6))
  have HO0 : w6.ownsRow w6.heap.size 2 1 (.slice none 0 0) 0 (ints 0 f) := ⟨by simp [ints], .inl ⟨rfl, rfl⟩⟩
  go_loopw [18] (fun s18 wr => ∃ (k : Nat) (aq : Option Addr) (kq : Nat), k ≤ phiN n ∧ s18 = .int .i64 (k : Int) ∧ wr.ownsRow w6.heap.size 2 1 (.slice aq k kq) k (ints k f) ∧ St w wr [(w2.heap.size, [.int .i64 (n : Int), .slice aq k kq]), (w1.heap.size, [.int .i64 0, .slice none 0 0]), (w.heap.size, elL n F)] [⟨true, w5.heap.size, w6.heap.size, .slice (some ⟨gr, 0, none⟩) (phiN n) kr, phiN n, fun k => (res n k : Int)⟩]) (fun s18 _ => phiN n - (intOf s18).toNat)
  case atStart => exact ⟨0, none, 0, by omega, rfl, HO0, st⟩
  case round =>
    clear st cx HO0
    obtain ⟨k, aq, kq, hk, rfl, ho, st⟩ := hrel
    have HO := Lib.hid ho
    have hsl := (st.sl 0 ⟨true, w5.heap.size, w6.heap.size, .slice (some ⟨gr, 0, none⟩) (phiN n) kr, phiN n, fun k => (res n k : Int)⟩ rfl).size
    dsimp only at hsl
    clear ho
    have q0 := (st.box 0 (w2.heap.size, [.int .i64 (n : Int), .slice aq k kq]) rfl).cell2
    have qz := (st.box 0 (w2.heap.size, [.int .i64 (n : Int), .slice aq k kq]) rfl).2.2
    have BTB := st.box 0 (w2.heap.size, [.int .i64 (n : Int), .slice aq k kq]) rfl
    have ql := (st.box 0 (w2.heap.size, [.int .i64 (n : Int), .slice aq k kq]) rfl).1
    have cl := (st.box 2 (w.heap.size, elL n F) rfl).1
    dsimp only at q0 qz ql cl
    obtain ⟨q0, q1⟩ := q0
    by_cases hlt : k < phiN n
    · have hki : (k : Int) < (phiN n : Int) := by omega
      have hrk := (st.sl 0 ⟨true, w5.heap.size, w6.heap.size, .slice (some ⟨gr, 0, none⟩) (phiN n) kr, phiN n, fun k => (res n k : Int)⟩ rfl).known (by show 0 < phiN n; omega)
      replace hrk := hrk.2.2.2.1 k hlt
      dsimp only at hrk
      rw [Nat.zero_add] at hrk
      have hra := res_lt40 (n := n) (by omega) h2 hlt
      have HATk := Lib.hid (HAT.out k hlt)
      obtain ⟨r, ha⟩ : ∃ r, res n k = r := ⟨_, rfl⟩
      rw [ha] at hra hrk HATk
      clear ha
      obtain ⟨ha1, ha2, _⟩ := hra
      have hr40 : (r : Int) < 40 := by omega
      have c0 := (st.box 2 (w.heap.size, elL n F) rfl).part (j := r) (by omega)
      dsimp only at c0
      rw [HATk.out] at c0
      go_wp2_with fail
      go_region_law (first
        | (refine step_pushR rfl (.tmp 23) (.tmp 28) rfl w6.heap.size k (.slice aq k kq) f rfl (World.ownsRow.alloc HO.out _) (by simp only [World.size_alloc, World.size_drew]; omega) wr.heap.size (f k) rfl (heap_alloc_new wr _) (by omega) ?_; intro gA kA wA rowA grA orA ltA
           have hlow := own_lowR (World.ownsRow.alloc HO.out (.cells #[.int .i64 (f k)] 2)) (by simp only [World.size_alloc]; omega)
           have frA := Frame.ofGrownR grA
           have hlo2 : w6.heap.size ≤ (Value.slice aq k kq).ownBlock.getD (wr.alloc (.cells #[.int .i64 (f k)] 2)).drew.heap.size := hlow
           generalize (Value.slice aq k kq).ownBlock.getD (wr.alloc (.cells #[.int .i64 (f k)] 2)).drew.heap.size = R at frA hlo2
           have sts := sz6.out
           have stA := (st.alloc (.cells #[.int .i64 (f k)] 2)).drew.write frA (by have := sz.out; omega) (by have := sz.out; intro b hb; simp only [List.mem_cons, List.not_mem_nil, or_false] at hb; rcases hb with rfl | rfl | rfl <;> dsimp only <;> omega) (by intro s hs'; simp only [List.mem_cons, List.not_mem_nil, or_false] at hs'; rcases hs' with rfl <;> dsimp only <;> omega)
           have bA := stA.box 0 (w2.heap.size, [.int .i64 (n : Int), .slice aq k kq]) rfl
           obtain ⟨r0, r1⟩ := bA.cell2
           have rz := bA.2.2
           dsimp only at r0 r1 rz))
      all_goals
        have F1 := (Frame.refl w2.heap.size (w2.heap.size + 1) wA).setCell (Nat.le_refl _) (Nat.lt_succ_self _) (.slice (some ⟨gA, 0, none⟩) (k + 1) kA) (p := ⟨w2.heap.size, 1, none⟩)
        have STN := Lib.hid (stA.headR (bA.set1R (u := .slice (some ⟨gA, 0, none⟩) (k + 1) kA)) F1 (by have := sz.out; omega) (by have := sz.out; intro q hq; simp only [List.mem_cons, List.not_mem_nil, or_false] at hq; rcases hq with rfl | rfl <;> dsimp only <;> omega) (by have := sz.out; have := sz6.out; intro s hs'; simp only [List.mem_cons, List.not_mem_nil, or_false] at hs'; rcases hs' with rfl <;> dsimp only <;> omega))
        have RN := Lib.hid ((Row.keepR rowA F1 (by have := rowA.lt.1; have := sz.out; have := sz6.out; omega)).congr (f' := f) (fun j hj => by
          by_cases e : j < k
          · rw [if_pos e]
          · rw [if_neg e, show j = k by omega]))
        clear stA bA r0 r1 rz rowA grA frA F1
        go_wp2
        go_roundw
        case rel => exact ⟨k + 1, some ⟨gA, 0, none⟩, kA, by omega, by go_num, RN.out, STN.out⟩
        case measure => simp [intOf] <;> omega
    · obtain rfl : k = phiN n := by omega
      have BRB := st.box 1 (w1.heap.size, [.int .i64 0, .slice none 0 0]) rfl
      dsimp only at BRB
      have HOS := Lib.hid (Sl.ofRowF HO.out (fun j hj => by have := HW.out j hj; unfold inR; omega) (by unfold maxLen; omega))
      go_wp2_with (refine wpList_storeR rfl _ _ rfl w1.heap.size rfl (v0 := .int .i64 (n : Int)) (v1 := .slice aq (phiN n) kq) rfl rfl rfl BRB ?_; intro w7 x7 f7; obtain ⟨d0, d1⟩ := x7.cell2)
      refine bodyPost_ret (v := .tuple #[.agg #[.int .i64 (n : Int), .slice aq (phiN n) kq], .int .i64 0]) (by simp [results, Try.results98, go_sem, d0, d1]) rfl ⟨aq, kq, rfl, ?_, ?_⟩
      · exact (HOS.out.keepF f7 (.inr (by have := sz.out; have := sz6.out; omega))).wide (by have := sz.out; have := sz6.out; omega) f7.size (Nat.le_refl _)
      · exact st.1.trans (f7.below (by have := sz.out; omega) st.1.size)
end
end

section
set_option linter.unusedVariables false
set_option linter.unusedSimpArgs false

/-! ### Sums -/
/-- F 0 + .. + F (m - 1). -/
def smN : Nat → (Nat → Int) → Int
  | 0, _ => 0
  | m + 1, F => smN m F + F m
theorem smN_congr {F G : Nat → Int} : ∀ {m}, (∀ i, i < m → F i = G i) → smN m F = smN m G
  | 0, _ => rfl
  | m + 1, h => by simp only [smN]; rw [smN_congr (fun i hi => h i (Nat.lt_succ_of_lt hi)), h m (Nat.lt_succ_self m)]
theorem smN_add (F G : Nat → Int) : ∀ m, smN m (fun i => F i + G i) = smN m F + smN m G
  | 0 => rfl
  | m + 1 => by simp only [smN]; rw [smN_add F G m]; omega
theorem smN_mul (a : Int) (F : Nat → Int) : ∀ m, smN m (fun i => a * F i) = a * smN m F
  | 0 => by simp [smN]
  | m + 1 => by simp only [smN]; rw [smN_mul a F m, Int.mul_add]
theorem smN_mulr (a : Int) (F : Nat → Int) (m : Nat) : smN m (fun i => F i * a) = smN m F * a := by
  rw [Int.mul_comm, ← smN_mul]
  exact smN_congr (fun i _ => Int.mul_comm _ _)
theorem smN_zero : ∀ m, smN m (fun _ => 0) = 0
  | 0 => rfl
  | m + 1 => by simp only [smN]; rw [smN_zero m]; rfl
theorem smN_swap (F : Nat → Nat → Int) (m : Nat) : ∀ n, smN m (fun i => smN n (fun j => F i j)) = smN n (fun j => smN m (fun i => F i j))
  | 0 => by simp only [smN]; exact smN_zero m
  | n + 1 => by
    simp only [smN]
    rw [smN_add, smN_swap F m n]
theorem smN_single {m k : Nat} (a : Int) : smN m (fun i => if i = k then a else 0) = if k < m then a else 0 := by
  induction m with
  | zero => simp [smN]
  | succ m ih =>
    simp only [smN]
    rw [ih]
    by_cases h : k < m
    · rw [if_pos h, if_neg (by omega), if_pos (by omega)]; omega
    · by_cases e : m = k
      · rw [if_neg h, if_pos e, if_pos (by omega)]; omega
      · rw [if_neg h, if_neg e, if_neg (by omega)]; rfl
theorem smN_ite {m k : Nat} (F : Nat → Int) : smN m (fun i => if i = k then F i else 0) = if k < m then F k else 0 := by
  rw [← smN_single (F k)]
  exact smN_congr (fun i _ => by by_cases e : i = k <;> simp [e])
theorem smN_nonneg {F : Nat → Int} : ∀ {m}, (∀ i, i < m → 0 ≤ F i) → 0 ≤ smN m F
  | 0, _ => Int.le_refl _
  | m + 1, h => by
    have h1 := smN_nonneg (fun i hi => h i (Nat.lt_succ_of_lt hi))
    have h2 := h m (Nat.lt_succ_self m)
    simp only [smN]; omega
theorem smN_le {F : Nat → Int} {B : Int} : ∀ {m}, (∀ i, i < m → F i ≤ B) → smN m F ≤ (m : Int) * B
  | 0, _ => by simp [smN]
  | m + 1, h => by
    have h1 := smN_le (fun i hi => h i (Nat.lt_succ_of_lt hi))
    have h2 := h m (Nat.lt_succ_self m)
    have e1 : ((m + 1 : Nat) : Int) * B = (m : Int) * B + B := by rw [Int.natCast_add, Int.add_mul]; simp
    simp only [smN]; omega
theorem smN_ge {F : Nat → Int} : ∀ {m k}, k < m → (∀ i, i < m → 0 ≤ F i) → F k ≤ smN m F
  | 0, k, hk, _ => absurd hk (Nat.not_lt_zero _)
  | m + 1, k, hk, h => by
    have h1 := smN_nonneg (m := m) (F := F) (fun i hi => h i (Nat.lt_succ_of_lt hi))
    have h2 := h m (Nat.lt_succ_self m)
    simp only [smN]
    rcases Nat.lt_succ_iff_lt_or_eq.1 hk with g | g
    · have := smN_ge g (fun i hi => h i (Nat.lt_succ_of_lt hi)); omega
    · subst g; omega
theorem smN_ite0 {m : Nat} {P : Prop} [Decidable P] (F : Nat → Int) : smN m (fun i => if P then F i else 0) = if P then smN m F else 0 := by
  by_cases h : P
  · simp only [if_pos h]
  · simp only [if_neg h]; exact smN_zero m

/-! ### Rows that turn -/
theorem md2 {p a : Nat} (h : a < p + p) : a % p = if a < p then a else a - p := by
  split
  · rename_i g; exact Nat.mod_eq_of_lt g
  · rename_i g
    rw [Nat.mod_eq_sub_mod (by omega), Nat.mod_eq_of_lt (by omega)]
theorem rot_iff {p e t j : Nat} (he : e < p) (ht : t < p) (hj : j < p) : (t + e) % p = j ↔ t = (j + (p - e)) % p := by
  by_cases e0 : e = 0
  · subst e0
    rw [Nat.add_zero, Nat.sub_zero, Nat.add_mod_right, Nat.mod_eq_of_lt ht, Nat.mod_eq_of_lt hj]
  · rw [md2 (show t + e < p + p by omega), md2 (show j + (p - e) < p + p by omega)]
    split <;> split <;> omega
/-- What the first m numbers of a row add at j, turned by e. -/
def trT (p e : Nat) (r : Nat → Int) (m j : Nat) : Int := smN m (fun t => if (t + e) % p = j then r t else 0)
theorem trT_zero (p e : Nat) (r : Nat → Int) (j : Nat) : trT p e r 0 j = 0 := rfl
theorem trT_succ (p e : Nat) (r : Nat → Int) (m j : Nat) : trT p e r (m + 1) j = if (m + e) % p = j then trT p e r m j + r m else trT p e r m j := by
  unfold trT
  simp only [smN]
  split
  · rfl
  · omega
theorem trT_bd {p e : Nat} {r : Nat → Int} {B : Int} (hB : 0 ≤ B) (j : Nat) {m : Nat} (h : ∀ t, t < m → 0 ≤ r t ∧ r t ≤ B) : 0 ≤ trT p e r m j ∧ trT p e r m j ≤ (m : Int) * B := by
  unfold trT
  refine ⟨smN_nonneg (fun i hi => ?_), smN_le (fun i hi => ?_)⟩
  · split
    · exact (h i hi).1
    · omega
  · split
    · exact (h i hi).2
    · exact hB
theorem trT_congr {p e : Nat} {r r' : Nat → Int} {m : Nat} (h : ∀ t, t < m → r t = r' t) (j : Nat) : trT p e r m j = trT p e r' m j := by
  unfold trT
  exact smN_congr (fun t ht => by rw [h t ht])
theorem trT_eq {p e j : Nat} (r : Nat → Int) (he : e < p) (hj : j < p) : trT p e r p j = r ((j + (p - e)) % p) := by
  unfold trT
  rw [show (r ((j + (p - e)) % p)) = if (j + (p - e)) % p < p then r ((j + (p - e)) % p) else 0 from (if_pos (Nat.mod_lt _ (by omega))).symm, ← smN_ite]
  refine smN_congr (fun t ht => ?_)
  by_cases h : (t + e) % p = j
  · rw [if_pos h, if_pos ((rot_iff he ht hj).1 h)]
  · rw [if_neg h, if_neg (fun g => h ((rot_iff he ht hj).2 g))]

/-! ### Sums of forms -/
/-- .. a form's values at f, .., m - 1 added to what is counted. -/
def wfT (p : Nat) (v : Nat → Nat) (c : Nat → Int) (f m b : Nat) : Int := smN m (fun x => if f ≤ x then trT p (v x) c p b else 0)
theorem wfT_succ {p : Nat} {v : Nat → Nat} {c : Nat → Int} {f m b : Nat} (h : f ≤ m) : wfT p v c f (m + 1) b = wfT p v c f m b + trT p (v m) c p b := by
  unfold wfT
  simp only [smN]
  rw [if_pos h]
theorem wfT_start {p : Nat} {v : Nat → Nat} {c : Nat → Int} {f b : Nat} : wfT p v c f f b = 0 := by
  unfold wfT
  refine (smN_congr (fun i hi => ?_)).trans (smN_zero f)
  exact if_neg (Nat.not_le.2 hi)
theorem wfT_bd {p : Nat} {v : Nat → Nat} {c : Nat → Int} {B : Int} (hB : 0 ≤ B) (h : ∀ t, t < p → 0 ≤ c t ∧ c t ≤ B) (f m b : Nat) (hv : ∀ x, x < m → v x < p) (hb : b < p) : 0 ≤ wfT p v c f m b ∧ wfT p v c f m b ≤ (m : Int) * B := by
  unfold wfT
  refine ⟨smN_nonneg (fun i hi => ?_), smN_le (fun i hi => ?_)⟩
  · split
    · rw [trT_eq _ (hv i hi) hb]; exact (h _ (Nat.mod_lt _ (by omega))).1
    · omega
  · split
    · rw [trT_eq _ (hv i hi) hb]; exact (h _ (Nat.mod_lt _ (by omega))).2
    · exact hB
theorem wfT_congr {p : Nat} {v v' : Nat → Nat} {c c' : Nat → Int} (hv : ∀ x, x < p → v x = v' x) (hc : ∀ t, t < p → c t = c' t) {f m b : Nat} (hm : m ≤ p) : wfT p v c f m b = wfT p v' c' f m b := by
  unfold wfT
  refine smN_congr (fun x hx => ?_)
  rw [hv x (by omega)]
  split
  · exact trT_congr hc b
  · rfl
/-- One way to be 0. -/
def e0Z (j : Nat) : Int := if j = 0 then 1 else 0
/-- How many x in f, .., m - 1 have the value b. -/
def cnT (v : Nat → Nat) (f m b : Nat) : Int := smN m (fun x => if f ≤ x ∧ v x = b then 1 else 0)
theorem cnT_zero (v : Nat → Nat) (f b : Nat) : cnT v f 0 b = 0 := rfl
theorem cnT_succ (v : Nat → Nat) (m b : Nat) : cnT v 0 (m + 1) b = if b = v m then cnT v 0 m b + 1 else cnT v 0 m b := by
  unfold cnT
  simp only [smN]
  by_cases e : b = v m
  · rw [if_pos e, if_pos ⟨Nat.zero_le _, e.symm⟩]
  · rw [if_neg e, if_neg (fun h => e h.2.symm)]; omega
theorem cnT_bd (v : Nat → Nat) (f m b : Nat) : 0 ≤ cnT v f m b ∧ cnT v f m b ≤ m := by
  unfold cnT
  refine ⟨smN_nonneg (fun i hi => by split <;> omega), ?_⟩
  have := smN_le (m := m) (B := 1) (F := fun x => if f ≤ x ∧ v x = b then 1 else 0) (fun i hi => by split <;> omega)
  omega
/-- Counts without the number 0. -/
theorem cnT_full {v : Nat → Nat} {m b : Nat} (h : 1 ≤ m) (h0 : v 0 = 0) : cnT v 1 m b = if b = 0 then cnT v 0 m b - 1 else cnT v 0 m b := by
  have e : cnT v 0 m b = cnT v 1 m b + smN m (fun x => if x = 0 then (if b = 0 then 1 else 0) else 0) := by
    unfold cnT
    rw [← smN_add]
    refine smN_congr (fun x hx => ?_)
    by_cases hx0 : x = 0
    · subst hx0
      rw [h0]
      by_cases hb : b = 0
      · subst hb; simp
      · rw [if_neg (fun g => hb g.2.symm), if_neg (fun g => hb g.2.symm), if_pos rfl, if_neg hb]; rfl
    · rw [if_neg hx0]
      by_cases hv : v x = b
      · rw [if_pos ⟨Nat.zero_le _, hv⟩, if_pos ⟨by omega, hv⟩]; rfl
      · rw [if_neg (fun g => hv g.2), if_neg (fun g => hv g.2)]; rfl
  rw [smN_single, if_pos (by omega)] at e
  by_cases hb : b = 0
  · rw [if_pos hb] at e ⊢; omega
  · rw [if_neg hb] at e ⊢; omega
theorem count_eq {p : Nat} {v : Nat → Nat} (hv : ∀ x, x < p → v x < p) (f : Nat) {m b : Nat} (hm : m ≤ p) (hb : b < p) : wfT p v e0Z f m b = cnT v f m b := by
  unfold wfT cnT
  refine smN_congr (fun x hx => ?_)
  have hvx := hv x (by omega)
  by_cases hf : f ≤ x
  · rw [if_pos hf, trT_eq _ hvx hb]
    unfold e0Z
    have hz := rot_iff hvx (show 0 < p by omega) hb
    rw [Nat.zero_add, Nat.mod_eq_of_lt hvx] at hz
    by_cases e : v x = b
    · rw [if_pos (show f ≤ x ∧ v x = b from ⟨hf, e⟩), if_pos (hz.1 e).symm]
    · rw [if_neg (show ¬ (f ≤ x ∧ v x = b) from fun g => e g.2), if_neg (fun g => e (hz.2 g.symm))]
  · rw [if_neg hf, if_neg (show ¬ (f ≤ x ∧ v x = b) from fun g => hf g.1)]

/-! ### Products of counts, as the model makes them -/
def cvR (p : Nat) (c own : Nat → Int) (x y b : Nat) : Int := smN y (fun t => if (x + t) % p = b then c x * own t else 0)
def cvT (p : Nat) (c own : Nat → Int) (x b : Nat) : Int := smN x (fun s => cvR p c own s p b)
theorem cvR_succ (p : Nat) (c own : Nat → Int) (x y b : Nat) : cvR p c own x (y + 1) b = if b = (x + y) % p then cvR p c own x y b + c x * own y else cvR p c own x y b := by
  unfold cvR
  simp only [smN]
  by_cases e : b = (x + y) % p
  · rw [if_pos e, if_pos e.symm]
  · rw [if_neg e, if_neg (fun h => e h.symm)]; omega
theorem cvT_succ (p : Nat) (c own : Nat → Int) (x b : Nat) : cvT p c own (x + 1) b = cvT p c own x b + cvR p c own x p b := rfl
theorem conv_eq {p : Nat} {v : Nat → Nat} (c : Nat → Int) (hv : ∀ x, x < p → v x < p) (f b : Nat) : cvT p c (cnT v f p) p b = wfT p v c f p b := by
  have e1 : cvT p c (cnT v f p) p b = smN p (fun s => smN p (fun x => if f ≤ x then (if (s + v x) % p = b then c s else 0) else 0)) := by
    unfold cvT
    refine smN_congr (fun s hs => ?_)
    unfold cvR
    have : ∀ t, t < p → (if (s + t) % p = b then c s * cnT v f p t else 0) = smN p (fun x => if t = v x then (if f ≤ x ∧ (s + t) % p = b then c s else 0) else 0) := fun t ht => by
      by_cases g : (s + t) % p = b
      · rw [if_pos g]
        unfold cnT
        rw [← smN_mul]
        refine smN_congr (fun x hx => ?_)
        by_cases k1 : t = v x
        · rw [if_pos k1]
          by_cases k2 : f ≤ x
          · rw [if_pos ⟨k2, k1.symm⟩, if_pos ⟨k2, g⟩, Int.mul_one]
          · rw [if_neg (fun k => k2 k.1), if_neg (fun k => k2 k.1), Int.mul_zero]
        · rw [if_neg k1, if_neg (fun k => k1 k.2.symm), Int.mul_zero]
      · rw [if_neg g]
        refine (smN_zero p).symm.trans (smN_congr (fun x hx => ?_))
        rw [if_neg (show ¬ (f ≤ x ∧ (s + t) % p = b) from fun k => g k.2)]; simp
    rw [smN_congr this, smN_swap]
    refine smN_congr (fun x hx => ?_)
    rw [smN_ite (fun t => if f ≤ x ∧ (s + t) % p = b then c s else 0), if_pos (hv x hx)]
    by_cases k2 : f ≤ x
    · rw [if_pos k2]
      by_cases k3 : (s + v x) % p = b
      · rw [if_pos ⟨k2, k3⟩, if_pos k3]
      · rw [if_neg (fun k => k3 k.2), if_neg k3]
    · rw [if_neg k2, if_neg (fun k => k2 k.1)]
  rw [e1, smN_swap]
  unfold wfT trT
  refine smN_congr (fun x hx => ?_)
  exact smN_ite0 _
/-- Sums over counted values are sums over the numbers. -/
theorem over_values {p : Nat} {v : Nat → Nat} (r : Nat → Int) (hv : ∀ x, x < p → v x < p) : smN p (fun b => cnT v 0 p b * r b) = smN p (fun x => r (v x)) := by
  have e : ∀ b, b < p → cnT v 0 p b * r b = smN p (fun x => if b = v x then r b else 0) := fun b _ => by
    unfold cnT
    rw [← smN_mulr]
    refine smN_congr (fun x hx => ?_)
    by_cases k : b = v x
    · rw [if_pos k, if_pos ⟨Nat.zero_le _, k.symm⟩, Int.one_mul]
    · rw [if_neg k, if_neg (fun g => k g.2.symm), Int.zero_mul]
  rw [smN_congr e, smN_swap]
  refine smN_congr (fun x hx => ?_)
  rw [smN_ite, if_pos (hv x hx)]

/-! ### Powers -/
/-- The value of a x^k. -/
def vN (p a k x : Nat) : Nat := a * pwr p x k % p
theorem vN_lt {p : Nat} (h : 1 ≤ p) (a k x : Nat) : vN p a k x < p := Nat.mod_lt _ (by omega)
theorem pwr_bd {p g : Nat} (h : 2 ≤ p) : ∀ k, pwr p g k < p
  | 0 => by show 1 < p; omega
  | k + 1 => Nat.mod_lt _ (by omega)
theorem pwr_z {p k : Nat} (hk : 1 ≤ k) : pwr p 0 k = 0 := by
  cases k with
  | zero => omega
  | succ k => show pwr p 0 k * 0 % p = 0; rw [Nat.mul_zero, Nat.zero_mod]
theorem pwr_1 {p : Nat} (h : 2 ≤ p) : ∀ k, pwr p 1 k = 1
  | 0 => rfl
  | k + 1 => by show pwr p 1 k * 1 % p = 1; rw [pwr_1 h k, Nat.one_mul, Nat.mod_eq_of_lt (by omega)]
theorem vN_zero {p a k : Nat} (hk : 1 ≤ k) : vN p a k 0 = 0 := by unfold vN; rw [pwr_z hk, Nat.mul_zero, Nat.zero_mod]
theorem vN_one {p k x : Nat} (h : 2 ≤ p) : vN p 1 k x = pwr p x k := by unfold vN; rw [Nat.one_mul, Nat.mod_eq_of_lt (pwr_bd h k)]
theorem pwr_mul {p x y : Nat} (h : 2 ≤ p) : ∀ k, pwr p (x * y % p) k = pwr p x k * pwr p y k % p
  | 0 => by show 1 = 1 * 1 % p; rw [Nat.one_mul, Nat.mod_eq_of_lt (by omega)]
  | k + 1 => by
    show pwr p (x * y % p) k * (x * y % p) % p = (pwr p x k * x % p) * (pwr p y k * y % p) % p
    rw [pwr_mul h k, ← Nat.mul_mod, ← Nat.mul_mod]
    congr 1
    simp only [Nat.mul_assoc, Nat.mul_left_comm, Nat.mul_comm]
/-- The inverse. -/
def invP (p z : Nat) : Nat := pwr p z (p - 2)
theorem inv_all : ((List.range 62).all fun p => !primeN p || (List.range p).all fun z => decide (z = 0) || decide (z * invP p z % p = 1)) = true := by decide +kernel
theorem inv_ok {p z : Nat} (hp : primeN p = true) (h1 : 1 ≤ z) (h2 : z < p) : z * invP p z % p = 1 := by
  have h := all_range (prime_of inv_all hp) z h2
  have e : decide (z = 0) = false := decide_eq_false (by omega)
  simpa only [e, Bool.false_or, decide_eq_true_eq] using h
theorem mul_back {p z z' x : Nat} (h : z * z' % p = 1) (hx : x < p) : z' * (z * x % p) % p = x := by
  rw [Nat.mul_mod, Nat.mod_mod, ← Nat.mul_mod, ← Nat.mul_assoc, Nat.mul_comm z' z, Nat.mul_mod, h, Nat.one_mul, Nat.mod_mod, Nat.mod_eq_of_lt hx]
/-- Times a number other than 0 all numbers come again. -/
theorem smN_times {p z : Nat} (hp : primeN p = true) (h1 : 1 ≤ z) (h2 : z < p) (F : Nat → Int) : smN p (fun x => F (z * x % p)) = smN p F := by
  have hb := primeN_bd hp
  have hi := inv_ok hp h1 h2
  have e : ∀ x, x < p → F (z * x % p) = smN p (fun t => if x = invP p z * t % p then F t else 0) := fun x hx => by
    have e2 : ∀ t, t < p → (if x = invP p z * t % p then F t else 0) = if t = z * x % p then F t else 0 := fun t ht => by
      by_cases k : t = z * x % p
      · rw [if_pos k, if_pos (by rw [k, mul_back hi hx])]
      · rw [if_neg k, if_neg]
        intro g
        apply k
        rw [g, mul_back (by rw [Nat.mul_comm]; exact hi) ht]
    rw [smN_congr e2, smN_ite, if_pos (Nat.mod_lt _ (by omega))]
  rw [smN_congr e, smN_swap]
  refine smN_congr (fun t ht => ?_)
  rw [smN_single, if_pos (Nat.mod_lt _ (by omega))]
theorem pwr_ne {p z k : Nat} (hp : primeN p = true) (h1 : 1 ≤ z) (h2 : z < p) : 1 ≤ pwr p z k := by
  have hb := primeN_bd hp
  have h := pwr_mul (p := p) (x := z) (y := invP p z) (by omega) k
  rw [inv_ok hp h1 h2, pwr_1 (by omega)] at h
  rcases Nat.eq_zero_or_pos (pwr p z k) with g | g
  · rw [g, Nat.zero_mul, Nat.zero_mod] at h; omega
  · exact g

/-! ### Solutions -/
/-- How many solutions the first n parts have. -/
def solT (p : Nat) (fa fe : Nat → Int) (f : Nat) : Nat → Nat → Int
  | 0 => e0Z
  | n + 1 => fun b => wfT p (vN p (fa n).toNat (fe n).toNat) (solT p fa fe f n) f p b
theorem solT_congr {p : Nat} {fa fe fa' fe' : Nat → Int} {f : Nat} : ∀ {n}, (∀ i, i < n → fa i = fa' i ∧ fe i = fe' i) → solT p fa fe f n = solT p fa' fe' f n
  | 0, _ => rfl
  | n + 1, h => by
    show (fun b => wfT p _ (solT p fa fe f n) f p b) = fun b => wfT p _ (solT p fa' fe' f n) f p b
    rw [solT_congr (fun i hi => h i (by omega)), (h n (by omega)).1, (h n (by omega)).2]
theorem solT_bd {p : Nat} (h1 : 1 ≤ p) (h2 : p ≤ 61) (fa fe : Nat → Int) (f : Nat) : ∀ n b, b < p → 0 ≤ solT p fa fe f n b ∧ solT p fa fe f n b ≤ ((61 ^ n : Nat) : Int)
  | 0, b, _ => by show 0 ≤ e0Z b ∧ e0Z b ≤ 1; unfold e0Z; split <;> omega
  | n + 1, b, hb => by
    have h := wfT_bd (p := p) (v := vN p (fa n).toNat (fe n).toNat) (B := ((61 ^ n : Nat) : Int)) (Int.natCast_nonneg _) (fun t ht => solT_bd h1 h2 fa fe f n t ht) f p b (fun x _ => vN_lt h1 _ _ _) hb
    refine ⟨h.1, Int.le_trans h.2 ?_⟩
    have : (p : Int) * ((61 ^ n : Nat) : Int) ≤ 61 * ((61 ^ n : Nat) : Int) := Int.mul_le_mul_of_nonneg_right (by omega) (Int.natCast_nonneg _)
    have e : ((61 ^ (n + 1) : Nat) : Int) = 61 * ((61 ^ n : Nat) : Int) := by rw [Nat.pow_succ, Nat.mul_comm, Int.natCast_mul]; rfl
    rw [e]; exact this
theorem solT_bd4 {p : Nat} (h1 : 1 ≤ p) (h2 : p ≤ 61) (fa fe : Nat → Int) (f : Nat) {n b : Nat} (hn : n ≤ 4) (hb : b < p) : 0 ≤ solT p fa fe f n b ∧ solT p fa fe f n b ≤ 13845841 := by
  have h := solT_bd h1 h2 fa fe f n b hb
  refine ⟨h.1, Int.le_trans h.2 ?_⟩
  have : 61 ^ n ≤ 61 ^ 4 := Nat.pow_le_pow_right (by omega) hn
  omega

/-! ### Curves -/
/-- Ways to make b of two powers. -/
def twoT (p m b : Nat) : Int := smN p (fun x => smN p (fun y => if (pwr p x m + pwr p y m) % p = b then 1 else 0))
theorem mod_scale {p s a c : Nat} (hp : primeN p = true) (h1 : 1 ≤ s) (h2 : s < p) (ha : a < p) (hc : c < p) : s * a % p = s * c % p ↔ a = c := by
  constructor
  · intro h
    have hi := inv_ok hp h1 h2
    rw [← mul_back hi ha, ← mul_back hi hc, h]
  · intro h; rw [h]
theorem two_scale {p m z b : Nat} (hp : primeN p = true) (h1 : 1 ≤ z) (h2 : z < p) (hb : b < p) : twoT p m (pwr p z m * b % p) = twoT p m b := by
  have hbd := primeN_bd hp
  have hs := pwr_ne (k := m) hp h1 h2
  have hs2 := pwr_bd (p := p) (g := z) (by omega) m
  unfold twoT
  rw [← smN_times hp h1 h2 (fun x => smN p (fun y => if (pwr p x m + pwr p y m) % p = pwr p z m * b % p then 1 else 0))]
  refine smN_congr (fun x hx => ?_)
  rw [← smN_times hp h1 h2 (fun y => if (pwr p (z * x % p) m + pwr p y m) % p = pwr p z m * b % p then 1 else 0)]
  refine smN_congr (fun y hy => ?_)
  rw [pwr_mul (by omega), pwr_mul (by omega), ← Nat.add_mod, ← Nat.mul_add]
  have e := mod_scale (a := (pwr p x m + pwr p y m) % p) hp hs hs2 (Nat.mod_lt _ (by omega)) hb
  rw [Nat.mul_mod, Nat.mod_mod, ← Nat.mul_mod] at e
  by_cases g : (pwr p x m + pwr p y m) % p = b
  · rw [if_pos g, if_pos (e.2 g)]
  · rw [if_neg g, if_neg (fun k => g (e.1 k))]
/-- How many x have the power p - 1. -/
def minT (p m : Nat) : Int := smN p (fun x => if (pwr p x m + 1) % p = 0 then 1 else 0)
theorem smN_first {F : Nat → Int} : ∀ m, smN (m + 1) F = F 0 + smN m (fun i => F (i + 1))
  | 0 => by simp only [smN]; omega
  | m + 1 => by
    show smN (m + 1) F + F (m + 1) = F 0 + (smN m (fun i => F (i + 1)) + F (m + 1))
    rw [smN_first m]; omega
theorem smN_const {a : Int} : ∀ m, smN m (fun _ => a) = (m : Int) * a
  | 0 => by simp [smN]
  | m + 1 => by
    have e1 : ((m + 1 : Nat) : Int) * a = (m : Int) * a + a := by rw [Int.natCast_add, Int.add_mul]; simp
    simp only [smN]; rw [smN_const m, e1]
theorem two_zero {p m : Nat} (hp : primeN p = true) (hm : 1 ≤ m) : twoT p m 0 = 1 + ((p - 1 : Nat) : Int) * minT p m := by
  have hbd := primeN_bd hp
  obtain ⟨q, rfl⟩ : ∃ q, p = q + 1 := ⟨p - 1, by omega⟩
  unfold twoT
  rw [smN_first]
  have e0 : smN (q + 1) (fun y => if (pwr (q + 1) 0 m + pwr (q + 1) y m) % (q + 1) = 0 then (1 : Int) else 0) = 1 := by
    have : ∀ y, y < q + 1 → (if (pwr (q + 1) 0 m + pwr (q + 1) y m) % (q + 1) = 0 then (1 : Int) else 0) = if y = 0 then 1 else 0 := fun y hy => by
      rw [pwr_z hm, Nat.zero_add, Nat.mod_eq_of_lt (pwr_bd (by omega) m)]
      by_cases g : y = 0
      · subst g; rw [pwr_z hm, if_pos rfl]
      · rw [if_neg g, if_neg (by have := pwr_ne (k := m) hp (show 1 ≤ y by omega) hy; omega)]
    rw [smN_congr this, smN_single, if_pos (by omega)]
  have e1 : ∀ i, i < q → smN (q + 1) (fun y => if (pwr (q + 1) (i + 1) m + pwr (q + 1) y m) % (q + 1) = 0 then (1 : Int) else 0) = minT (q + 1) m := fun i hi => by
    have hs := pwr_ne (k := m) hp (show 1 ≤ i + 1 by omega) (show i + 1 < q + 1 by omega)
    have hs2 := pwr_bd (p := q + 1) (g := i + 1) (by omega) m
    rw [← smN_times hp (show 1 ≤ i + 1 by omega) (show i + 1 < q + 1 by omega)]
    unfold minT
    refine smN_congr (fun y hy => ?_)
    rw [pwr_mul (by omega), Nat.add_mod, Nat.mod_mod, ← Nat.add_mod]
    have e := mod_scale (a := (pwr (q + 1) y m + 1) % (q + 1)) (c := 0) hp hs hs2 (Nat.mod_lt _ (by omega)) (by omega)
    rw [Nat.mul_mod, Nat.mod_mod, ← Nat.mul_mod, Nat.mul_zero, Nat.zero_mod, Nat.mul_add, Nat.mul_one, Nat.add_comm (_ * _)] at e
    by_cases g : (pwr (q + 1) y m + 1) % (q + 1) = 0
    · rw [if_pos g, if_pos (e.2 g)]
    · rw [if_neg g, if_neg (fun k => g (e.1 k))]
  rw [e0, smN_congr e1, smN_const]
  rfl
/-- A third power beside two. -/
theorem three_eq {p m : Nat} (hp : primeN p = true) (hm : 1 ≤ m) : smN p (fun z => twoT p m (pwr p z m)) = 1 + ((p - 1 : Nat) : Int) * (twoT p m 1 + minT p m) := by
  have hbd := primeN_bd hp
  have h0 := two_zero hp hm
  obtain ⟨q, rfl⟩ : ∃ q, p = q + 1 := ⟨p - 1, by omega⟩
  rw [smN_first, pwr_z hm, h0]
  have e : ∀ i, i < q → twoT (q + 1) m (pwr (q + 1) (i + 1) m) = twoT (q + 1) m 1 := fun i hi => by
    have := two_scale (m := m) (b := 1) hp (show 1 ≤ i + 1 by omega) (show i + 1 < q + 1 by omega) (by omega)
    rwa [Nat.mul_one, Nat.mod_eq_of_lt (pwr_bd (by omega) m)] at this
  rw [smN_congr e, smN_const, Nat.add_sub_cancel, Int.mul_add]
  omega
theorem sol_two {p m b : Nat} (hp : primeN p = true) (hb : b < p) (fa : Nat → Int) (h0 : fa 0 = 1) (h1 : fa 1 = 1) : solT p fa (fun _ => (m : Int)) 0 2 b = twoT p m b := by
  have hbd := primeN_bd hp
  show wfT p (vN p (fa 1).toNat (m : Int).toNat) (fun t => wfT p (vN p (fa 0).toNat (m : Int).toNat) e0Z 0 p t) 0 p b = _
  rw [h0, h1, Int.toNat_natCast]
  show wfT p (vN p 1 m) (fun t => wfT p (vN p 1 m) e0Z 0 p t) 0 p b = _
  rw [wfT_congr (c' := cnT (vN p 1 m) 0 p) (v' := vN p 1 m) (fun _ _ => rfl) (fun t ht => count_eq (fun x hx => vN_lt (by omega) _ _ _) 0 (Nat.le_refl _) ht) (Nat.le_refl _)]
  unfold wfT twoT
  refine smN_congr (fun x hx => ?_)
  have hvx := pwr_bd (p := p) (g := x) (by omega) m
  rw [if_pos (Nat.zero_le _), vN_one (by omega), trT_eq _ hvx hb]
  unfold cnT
  refine smN_congr (fun y hy => ?_)
  have hvy := pwr_bd (p := p) (g := y) (by omega) m
  rw [vN_one (by omega), Nat.add_comm (pwr p x m)]
  have hr := rot_iff hvx hvy hb
  by_cases g : (pwr p y m + pwr p x m) % p = b
  · rw [if_pos g, if_pos ⟨Nat.zero_le _, hr.1 g⟩]
  · rw [if_neg g, if_neg (fun k => g (hr.2 k.2))]
theorem neg_val {p y : Nat} (h : 2 ≤ p) (hy : y < p) : (p - (p - 1) * y % p) % p = y := by
  by_cases g : y = 0
  · subst g; rw [Nat.mul_zero, Nat.zero_mod, Nat.sub_zero, Nat.mod_self]
  · have e : (p - 1) * y % p = p - y := by
      have : (p - 1) * y = p - y + p * (y - 1) := by
        obtain ⟨q, rfl⟩ : ∃ q, p = q + 1 := ⟨p - 1, by omega⟩
        obtain ⟨z, rfl⟩ : ∃ z, y = z + 1 := ⟨y - 1, by omega⟩
        simp only [Nat.add_sub_cancel, Nat.mul_add, Nat.add_mul]
        omega
      rw [this, Nat.add_mul_mod_self_left, Nat.mod_eq_of_lt (by omega)]
    rw [e, show p - (p - y) = y by omega, Nat.mod_eq_of_lt hy]
theorem sol_three {p m : Nat} (hp : primeN p = true) (fa : Nat → Int) (h0 : fa 0 = 1) (h1 : fa 1 = 1) (h2 : fa 2 = (p : Int) - 1) : solT p fa (fun _ => (m : Int)) 0 3 0 = smN p (fun z => twoT p m (pwr p z m)) := by
  have hbd := primeN_bd hp
  show wfT p (vN p (fa 2).toNat (m : Int).toNat) (solT p fa (fun _ => (m : Int)) 0 2) 0 p 0 = _
  rw [h2, Int.toNat_natCast, show ((p : Int) - 1).toNat = p - 1 by omega]
  rw [wfT_congr (c' := twoT p m) (v' := vN p (p - 1) m) (fun _ _ => rfl) (fun t ht => sol_two hp ht fa h0 h1) (Nat.le_refl _)]
  unfold wfT
  refine smN_congr (fun z hz => ?_)
  rw [if_pos (Nat.zero_le _), trT_eq _ (vN_lt (by omega) _ _ _) (by omega), Nat.zero_add]
  unfold vN
  rw [neg_val (by omega) (pwr_bd (by omega) m)]
/-- The points of a curve of powers, both ways. -/
theorem curve_eq {p m : Nat} (hp : primeN p = true) (hm : 1 ≤ m) (fa : Nat → Int) (h0 : fa 0 = 1) (h1 : fa 1 = 1) (h2 : fa 2 = (p : Int) - 1) (fb : Nat → Int) (g0 : fb 0 = 1) (g1 : fb 1 = 1) :
    (solT p fa (fun _ => (m : Int)) 0 3 0 - 1).tdiv ((p : Int) - 1) = solT p fb (fun _ => (m : Int)) 0 2 1 + minT p m := by
  have hbd := primeN_bd hp
  rw [sol_three hp fa h0 h1 h2, three_eq hp hm, sol_two hp (by omega) fb g0 g1]
  rw [show ((p : Int) - 1) = ((p - 1 : Nat) : Int) by omega, Int.add_comm, Int.add_sub_cancel]
  exact Int.mul_tdiv_cancel_left _ (by omega)
end

section
open Go.RowKit Go.ChangeShapes Go.Sort
set_option linter.unusedVariables false
set_option linter.unusedSimpArgs false
set_option maxRecDepth 100000

theorem l06Prime_yes (p : Nat) (hp : primeN p = true) (w : World) :
    Calls Try.prog 138 #[.int .i64 (p : Int)] w fun e w' => e = .returned (.bool true) ∧ ∃ m, w' = w.drewN m := by
  have hb := primeN_bd hp
  have HP := Lib.hid hp; clear hp
  go_enter Try.func138, Try.ntmps138
  go_wp2_with (go_at_call 101; refine (l01In_yes _ _ _ _ (by omega) (by omega)).mono ?_; rintro e w' ⟨rfl, rfl⟩)
  go_loopw [3] (fun s3 wr => ∃ k : Nat, 2 ≤ k ∧ k ≤ 8 ∧ s3 = .int .i64 (k : Int) ∧ ∃ m, wr = w.drewN m) (fun s3 _ => 9 - (intOf s3).toNat)
  case atStart => exact ⟨2, by omega, by omega, rfl, 0, rfl⟩
  case round =>
    obtain ⟨k, hk2, hk8, rfl, m, rfl⟩ := hrel
    have hkk0 : 0 ≤ (k : Int) * (k : Int) := Int.mul_nonneg (by omega) (by omega)
    have hkk1 : (k : Int) * (k : Int) ≤ 64 := Int.mul_le_mul (c := 8) (d := 8) (by omega) (by omega) (by omega) (by omega)
    by_cases hle : k * k ≤ p
    · have hk7 := sq_le (by omega) hle
      have hm := prime_div HP.out k hk2 hle
      have hle2 : (k : Int) * (k : Int) ≤ (p : Int) := by have := Int.ofNat_le.2 hle; rwa [Int.natCast_mul] at this
      have hk0 : ¬ k = 0 := by omega
      have hm2 : (((p : Int) % (k : Int)) == 0) = false := beq_eq_false_iff_ne.2 (fun e => hm (by rw [← Int.natCast_emod] at e; omega))
      clear hm hle
      go_wp2
      go_roundw
      case rel => exact ⟨k + 1, by omega, by omega, by go_num, _, rfl⟩
      case measure => simp [intOf]; omega
    · have hle2 : (p : Int) < (k : Int) * (k : Int) := by have := Int.ofNat_lt.2 (Nat.not_le.1 hle); rwa [Int.natCast_mul] at this
      clear hle
      go_wp2
      go_ret
      exact ⟨rfl, m, rfl⟩
theorem l06Prime_no (p : Int) (hp : ¬ PrP p) (w : World) :
    Calls Try.prog 138 #[.int .i64 p] w fun e w' => e = .returned (.bool false) ∧ ∃ m, w' = w.drewN m := by
  by_cases hr : 3 ≤ p ∧ p ≤ 61
  · obtain ⟨h3, h61⟩ := hr
    obtain ⟨P, rfl⟩ := Int.eq_ofNat_of_zero_le (show 0 ≤ p by omega)
    have HP := Lib.hid (show ¬ primeN P = true from fun h => hp ⟨by omega, by rwa [Int.toNat_natCast]⟩)
    clear hp
    go_enter Try.func138, Try.ntmps138
    go_wp2_with (go_at_call 101; refine (l01In_yes _ _ _ _ (by omega) (by omega)).mono ?_; rintro e w' ⟨rfl, rfl⟩)
    go_loopw [3] (fun s3 wr => ∃ k : Nat, 2 ≤ k ∧ k ≤ 8 ∧ s3 = .int .i64 (k : Int) ∧ (∀ j, 2 ≤ j → j < k → ¬ P % j = 0) ∧ ∃ m, wr = w.drewN m) (fun s3 _ => 9 - (intOf s3).toNat)
    case atStart => exact ⟨2, by omega, by omega, rfl, fun j h1 h2 => by omega, 0, rfl⟩
    case round =>
      obtain ⟨k, hk2, hk8, rfl, hno, m, rfl⟩ := hrel
      have HN := Lib.hid hno; clear hno
      have hkk0 : 0 ≤ (k : Int) * (k : Int) := Int.mul_nonneg (by omega) (by omega)
      have hkk1 : (k : Int) * (k : Int) ≤ 64 := Int.mul_le_mul (c := 8) (d := 8) (by omega) (by omega) (by omega) (by omega)
      have hle : k * k ≤ P := by
        rcases Nat.lt_or_ge P (k * k) with h | h
        · exact absurd (prime_of_div (by omega) (by omega) h HN.out) HP.out
        · exact h
      have hk7 := sq_le (by omega) hle
      have hle2 : (k : Int) * (k : Int) ≤ (P : Int) := by have := Int.ofNat_le.2 hle; rwa [Int.natCast_mul] at this
      have hk0 : ¬ k = 0 := by omega
      clear hle
      by_cases hm : P % k = 0
      · have hm2 : (((P : Int) % (k : Int)) == 0) = true := by rw [← Int.natCast_emod, hm]; rfl
        clear hm
        go_wp2
        go_ret
        exact ⟨rfl, m, rfl⟩
      · have hm2 : (((P : Int) % (k : Int)) == 0) = false := beq_eq_false_iff_ne.2 (fun e => hm (by rw [← Int.natCast_emod] at e; omega))
        have HM := Lib.hid hm
        clear hm
        go_wp2
        go_roundw
        case rel => exact ⟨k + 1, by omega, by omega, by go_num, fun j h1 h2 => by
          rcases Nat.lt_or_ge j k with h | h
          · exact HN.out j h1 h
          · obtain rfl : j = k := by omega
            exact HM.out, _, rfl⟩
        case measure => simp [intOf]; omega
  · have H := Lib.hid (show p < 3 ∨ 61 < p by omega)
    clear hp hr
    go_enter Try.func138, Try.ntmps138
    go_wp2_with (go_at_call 101; refine (l01In_no _ _ _ _ H.out).mono ?_; rintro e w' ⟨rfl, rfl⟩)
    go_ret
    exact ⟨rfl, 0, rfl⟩


theorem l08Power_any (l x k : Nat) (hl : 2 ≤ l) (hl2 : l ≤ 61) (hx : x < l) (hk : k ≤ 100) (w : World) :
    Calls Try.prog 184 #[.int .i64 (l : Int), .int .i64 (x : Int), .int .i64 (k : Int)] w fun r w' => r = .returned (.int .i64 (pwr l x k : Nat)) ∧ ∃ m, w' = w.drewN m := by
  go_enter Try.func184, Try.ntmps184
  go_wp2
  go_loopw [2, 7] (fun s2 s7 wr => ∃ i : Nat, i ≤ k ∧ s7 = .int .i64 (pwr l x i : Nat) ∧ s2 = .int .i64 ((k - i : Nat) : Int) ∧ ∃ m, wr = w.drewN m) (fun s2 _ _ => (intOf s2).toNat)
  case atStart => exact ⟨0, by omega, rfl, rfl, 0, rfl⟩
  case round =>
    obtain ⟨i, hi, rfl, rfl, m, rfl⟩ := hrel
    by_cases hlt : i < k
    · have hb := pwr_lt (p := l) (g := x) (by omega) i
      have hp0 : 0 ≤ ((pwr l x i : Nat) : Int) * (x : Int) := Int.mul_nonneg (by omega) (by omega)
      have hp1 : ((pwr l x i : Nat) : Int) * (x : Int) ≤ 61 * 61 := Int.mul_le_mul (by omega) (by omega) (by omega) (by omega)
      have hl0 : ¬ l = 0 := by omega
      have HS := Lib.hid (show ((pwr l x i : Nat) : Int) * (x : Int) % (l : Int) = ((pwr l x (i + 1) : Nat) : Int) by rw [pwr_succ, ← Int.natCast_mul, ← Int.natCast_emod])
      have hki : ((k - i : Nat) : Int) = ((k - (i + 1) : Nat) : Int) + 1 := by omega
      rw [hki]
      clear hki
      go_wp2
      go_roundw
      case rel => exact ⟨i + 1, by omega, by rw [← HS.out], by first | rfl | go_num, _, rfl⟩
      case measure => simp [intOf] <;> omega
    · obtain rfl : i = k := by omega
      rw [Nat.sub_self]
      go_wp2
      go_ret
      exact ⟨rfl, m, rfl⟩

theorem one_madeS (w : World) (x : Int) (hx : inR x) (t : TypeId) (ht : t = 2) : Sl true (w.alloc (.cells #[.int .i64 x] t)) w.heap.size (w.heap.size + 1) (.slice (some ⟨w.heap.size, 0, none⟩) 1 1) 1 (fun _ => x) := by
  subst ht
  exact Sl.made w #[.int .i64 x] 2 1 1 (fun _ => x) (Nat.le_refl _) (by unfold maxLen; omega) (fun j hj => hx) (fun j hj => by have hj' : j < 1 := hj; obtain rfl : j = 0 := (by omega); rfl)
/-- Exponents are as told. -/
def ExP (f : Nat → Int) (n : Nat) : Prop := ∀ i, i < n → 1 ≤ f i ∧ f i ≤ 60
section
variable {o : Bool} {lo hi : Nat} {v : Value} {n : Nat} {f : Nat → Int}
end
end

section
open Go.RowKit Go.ChangeShapes Go.Sort
set_option linter.unusedVariables false
set_option linter.unusedSimpArgs false
set_option maxRecDepth 100000
set_option maxHeartbeats 4000000

theorem pw_below (p x : Nat) (h2 : 2 ≤ p) (h61 : p ≤ 61) (hx : x < p) (w' : World) : Calls Try.prog 184 #[.int .i64 (p : Int), .int .i64 (x : Int), .int .i64 ((p : Int) - 2)] w' fun e w'' => e = .returned (.int .i64 (pwr p x (p - 2) : Nat)) ∧ Below w'.heap.size w' w'' := by
  have h := (l08Power_any p x (p - 2) h2 h61 hx (by omega) w')
  have e : ((p - 2 : Nat) : Int) = (p : Int) - 2 := by omega
  rw [e] at h
  exact h.mono fun _ _ ⟨he, m, hw⟩ => ⟨he, hw ▸ below_drewN (Below.refl _ _) m⟩
theorem pw_lt (p x k : Nat) (h2 : 2 ≤ p) : pwr p x k < p := by
  cases k with
  | zero => show 1 < p; omega
  | succ k => exact Nat.mod_lt _ (by omega)
theorem mulC {a b p : Nat} (ha : a < p) (hb : b < p) (h61 : p ≤ 61) : 0 ≤ (a : Int) * b ∧ (a : Int) * b ≤ 3721 ∧ (a : Int) * b % (p : Int) = ((a * b % p : Nat) : Int) ∧ ((a : Int) * b).tmod (p : Int) = ((a * b % p : Nat) : Int) := by
  have h := Nat.mul_le_mul (show a ≤ 61 by omega) (show b ≤ 61 by omega)
  have e : ((a * b : Nat) : Int) = (a : Int) * b := Int.natCast_mul _ _
  have h0 : 0 ≤ (a : Int) * b := by omega
  have e2 : (a : Int) * b % (p : Int) = ((a * b % p : Nat) : Int) := by rw [Int.natCast_emod, e]
  exact ⟨h0, by omega, e2, by rw [Int.tmod_eq_emod_of_nonneg h0, e2]⟩
theorem l10Bernoulli_any (p K : Nat) (hp : primeN p = true) (hKp : K + 3 = p) (w : World) :
    Calls Try.prog 139 #[.int .i64 (p : Int)] w fun e w' => ∃ (g cap : Nat), e = .returned (.slice (some ⟨g, 0, none⟩) (K + 1) cap) ∧ Sl true w' w.heap.size w'.heap.size (.slice (some ⟨g, 0, none⟩) (K + 1) cap) (K + 1) (fun i => (beR p i : Int)) ∧ Below w.heap.size w w' := by
  have hbd := primeN_bd hp
  have hpp : ¬ p = 0 := by omega
  have hpi : ¬ (p : Int) = 0 := by omega
  have hw3 : (p : Int) - 3 = (K : Int) := by omega
  have HW3 := Lib.hid hw3
  clear hw3
  have R0 : Row (w.alloc (.cells #[.int .i64 1] 2)) w.heap.size w.heap.size 1 1 (fun i => (beR p i : Int)) :=
    ⟨by simp, .inr ⟨w.heap.size, 1, #[.int .i64 1], rfl, Nat.le_refl _, heap_alloc_new w _, Nat.le_refl _, by decide, by simp, by simp [beR, blP]⟩⟩
  have HR := Lib.hid R0
  have HST := Lib.hid ((St.start w).alloc (.cells #[.int .i64 1] 2))
  clear R0
  go_enter Try.func139, Try.ntmps139
  go_wp2
  go_loopw [3, 4] (fun s3 s4 wr => ∃ (j g cap : Nat), j ≤ K ∧ s3 = .slice (some ⟨g, 0, none⟩) (j + 1) cap ∧ s4 = .int .i64 ((j : Int) + 1) ∧ Row wr w.heap.size g cap (j + 1) (fun i => (beR p i : Int)) ∧ St w wr [] []) (fun _ s4 _ => K + 2 - (intOf s4).toNat)
  case atStart => exact ⟨0, _, _, Nat.zero_le _, rfl, rfl, HR.out, HST.out⟩
  case round =>
    clear HR HST
    rename World => wo
    obtain ⟨j, g, cap, hj, rfl, rfl, hr, st⟩ := hrel
    have R1 := Lib.hid hr
    clear hr
    by_cases hlt : j < K
    · have hc1 : (j : Int) + 1 ≤ (p : Int) - 3 := by omega
      have HST := Lib.hid st
      clear st
      go_wp2
      go_loopw [5, 6, 7] (fun s5 s6 s7 wr => ∃ t : Nat, t ≤ j + 1 ∧ s7 = .int .i64 (t : Int) ∧ s5 = .int .i64 (((smM p (blP p j) (j + 1) t).1 : Nat) : Int) ∧ s6 = .int .i64 (((smM p (blP p j) (j + 1) t).2 : Nat) : Int) ∧ Row wr w.heap.size g cap (j + 1) (fun i => (beR p i : Int)) ∧ St w wr [] []) (fun _ _ s7 _ => j + 1 - (intOf s7).toNat)
      case atStart => exact ⟨0, Nat.zero_le _, rfl, rfl, rfl, R1.out, HST.out⟩
      case round =>
        clear HST R1
        obtain ⟨t, ht, rfl, rfl, rfl, hr, st⟩ := hrel
        have hsm := smM_lt (p := p) (by omega) (blP p j) (j + 1) t
        have R1 := Lib.hid hr
        clear hr
        by_cases htj : t < j + 1
        · have htji : (t : Int) < (j : Int) + 1 := by omega
          have hck : wr.cell? ⟨g, t, none⟩ = some (.int .i64 (beR p t : Int)) := by
            have := (Sl.ofRowF R1.out (fun i _ => by have := be_lt (p := p) (by omega) i; unfold inR; omega) (by unfold maxLen; omega)).known (by omega)
            have := this.2.2.2.1 t htj
            rwa [Nat.zero_add] at this
          have hbe := be_lt (p := p) (by omega) t
          have HE := Lib.hid (show (smM p (blP p j) (j + 1) (t + 1)).1 = ((smM p (blP p j) (j + 1) t).1 + (smM p (blP p j) (j + 1) t).2 * beR p t) % p ∧ (smM p (blP p j) (j + 1) (t + 1)).2 = (smM p (blP p j) (j + 1) t).2 * ((j + 2 - t) % p) % p * pwr p (t + 1) (p - 2) % p from by rw [← bl_get p j t (by omega)]; exact ⟨rfl, rfl⟩)
          obtain ⟨A, hA⟩ : ∃ A, (smM p (blP p j) (j + 1) t).1 = A := ⟨_, rfl⟩
          obtain ⟨C, hC⟩ : ∃ C, (smM p (blP p j) (j + 1) t).2 = C := ⟨_, rfl⟩
          obtain ⟨B, hB⟩ : ∃ B, beR p t = B := ⟨_, rfl⟩
          rw [hA, hC] at hsm HE
          rw [hA, hC]
          rw [hB] at hbe HE hck
          obtain ⟨P, hP⟩ : ∃ P, pwr p (t + 1) (p - 2) = P := ⟨_, rfl⟩
          have hPl : P < p := by rw [← hP]; exact pw_lt p (t + 1) (p - 2) (by omega)
          have HPW := Lib.hid (pw_below p (t + 1) (by omega) (by omega) (by omega))
          rw [hP] at HPW HE
          have ecast : ((t + 1 : Nat) : Int) = (t : Int) + 1 := by omega
          rw [ecast] at HPW
          obtain ⟨D, hD⟩ : ∃ D, (j + 2 - t) % p = D := ⟨_, rfl⟩
          have hDl : D < p := by rw [← hD]; exact Nat.mod_lt _ (by omega)
          have hDm : ((j : Int) + 1 + 1 - (t : Int)).tmod (p : Int) = (D : Int) := by
            rw [Int.tmod_eq_emod_of_nonneg (by omega), ← hD, Int.natCast_emod]
            congr 1; omega
          obtain ⟨m1, m2, m3, m4⟩ := mulC hsm.2 hbe hbd.2
          have hA1 : ((A : Int) + C * B) % (p : Int) = (((A + C * B) % p : Nat) : Int) := by rw [Int.natCast_emod, Int.natCast_add, Int.natCast_mul]
          have hA2 : ((A : Int) + C * B).tmod (p : Int) = (((A + C * B) % p : Nat) : Int) := by rw [Int.tmod_eq_emod_of_nonneg (by omega), hA1]
          obtain ⟨A2, hA3⟩ : ∃ A2, (A + C * B) % p = A2 := ⟨_, rfl⟩
          rw [hA3] at hA1 hA2
          have hs0 : 0 ≤ (A : Int) + C * B := by omega
          have hs1 : (A : Int) + C * B ≤ 10000 := by omega
          obtain ⟨n1, n2, n3, n4⟩ := mulC hsm.2 hDl hbd.2
          obtain ⟨E, hE⟩ : ∃ E, C * D % p = E := ⟨_, rfl⟩
          have hEl : E < p := by rw [← hE]; exact Nat.mod_lt _ (by omega)
          rw [hE] at n3 n4
          obtain ⟨q1, q2, q3, q4⟩ := mulC hEl hPl hbd.2
          obtain ⟨F, hF⟩ : ∃ F, E * P % p = F := ⟨_, rfl⟩
          rw [hF] at q3 q4
          have HF2 := Lib.hid (show (smM p (blP p j) (j + 1) (t + 1)).1 = A2 ∧ (smM p (blP p j) (j + 1) (t + 1)).2 = F from by rw [HE.out.1, HE.out.2, hA3, hD, hE, hF]; exact ⟨rfl, rfl⟩)
          have wa := (show IntKind.i64.wrap ((j : Int) + 1 + 1) = (j : Int) + 1 + 1 from by rw [IntKind.wrap_i64]; omega)
          have wb := (show IntKind.i64.wrap ((j : Int) + 1 + 1 - t) = (j : Int) + 1 + 1 - t from by rw [IntKind.wrap_i64]; omega)
          have wc := (show IntKind.i64.wrap ((C : Int) * D) = (C : Int) * D from by rw [IntKind.wrap_i64]; omega)
          have wd := (show IntKind.i64.wrap ((t : Int) + 1) = (t : Int) + 1 from by rw [IntKind.wrap_i64]; omega)
          have we := (show IntKind.i64.wrap ((p : Int) - 2) = (p : Int) - 2 from by rw [IntKind.wrap_i64]; omega)
          have wf := (show IntKind.i64.wrap ((E : Int) * P) = (E : Int) * P from by rw [IntKind.wrap_i64]; omega)
          clear HE hA3 hE hF hD hP ecast
          go_wp2
          replace st := st.drew
          have R2 := Lib.hid (show Row wr.drew w.heap.size g cap (j + 1) (fun i => (beR p i : Int)) from R1.out)
          clear R1
          refine wp_region_held_drew (S := fun _ => True) (by kernel_rfl) (trivial) (fun hHeld => ?_)
          refine wpAnyH_take (i := 0) (v := .int .i64 (C : Int)) rfl (by kernel_rfl) (by kernel_rfl) (by kernel_rfl) (fun _ _ _ h => h) (Or.inl ⟨by rfl, ?_⟩) hHeld ?_
          · intro wy hy; go_simp
          (try simp only [Act.put, List.getElem_toArray, List.getElem_cons_zero, List.getElem_cons_succ, List.setIfInBounds_toArray, List.set_cons_zero, List.set_cons_succ])
          refine wpAnyH_take (i := 1) (v := .int .i64 ((j : Int) + 1 : Int)) rfl (by kernel_rfl) (by kernel_rfl) (by kernel_rfl) (fun _ _ _ h => h) (Or.inl ⟨by rfl, ?_⟩) hHeld ?_
          · intro wy hy; go_simp
          (try simp only [Act.put, List.getElem_toArray, List.getElem_cons_zero, List.getElem_cons_succ, List.setIfInBounds_toArray, List.set_cons_zero, List.set_cons_succ])
          refine wpAnyH_take (i := 2) (v := .int .i64 ((j : Int) + 1 + 1 : Int)) rfl (by kernel_rfl) (by kernel_rfl) (by kernel_rfl) (fun _ _ _ h => h) (Or.inl ⟨by rfl, ?_⟩) hHeld ?_
          · intro wy hy; go_simp
          (try simp only [Act.put, List.getElem_toArray, List.getElem_cons_zero, List.getElem_cons_succ, List.setIfInBounds_toArray, List.set_cons_zero, List.set_cons_succ])
          refine wpAnyH_take (i := 3) (v := .int .i64 (t : Int)) rfl (by kernel_rfl) (by kernel_rfl) (by kernel_rfl) (fun _ _ _ h => h) (Or.inl ⟨by rfl, ?_⟩) hHeld ?_
          · intro wy hy; go_simp
          (try simp only [Act.put, List.getElem_toArray, List.getElem_cons_zero, List.getElem_cons_succ, List.setIfInBounds_toArray, List.set_cons_zero, List.set_cons_succ])
          refine wpAnyH_take (i := 4) (v := .int .i64 ((j : Int) + 1 + 1 - t : Int)) rfl (by kernel_rfl) (by kernel_rfl) (by kernel_rfl) (fun _ _ _ h => h) (Or.inl ⟨by rfl, ?_⟩) hHeld ?_
          · intro wy hy; go_simp
          (try simp only [Act.put, List.getElem_toArray, List.getElem_cons_zero, List.getElem_cons_succ, List.setIfInBounds_toArray, List.set_cons_zero, List.set_cons_succ])
          refine wpAnyH_take (i := 5) (v := .int .i64 (p : Int)) rfl (by kernel_rfl) (by kernel_rfl) (by kernel_rfl) (fun _ _ _ h => h) (Or.inl ⟨by rfl, ?_⟩) hHeld ?_
          · intro wy hy; go_simp
          (try simp only [Act.put, List.getElem_toArray, List.getElem_cons_zero, List.getElem_cons_succ, List.setIfInBounds_toArray, List.set_cons_zero, List.set_cons_succ])
          refine wpAnyH_take (i := 6) (v := .int .i64 (D : Int)) rfl (by kernel_rfl) (by kernel_rfl) (by kernel_rfl) (fun _ _ _ h => h) (Or.inl ⟨by rfl, ?_⟩) hHeld ?_
          · intro wy hy; go_simp
          (try simp only [Act.put, List.getElem_toArray, List.getElem_cons_zero, List.getElem_cons_succ, List.setIfInBounds_toArray, List.set_cons_zero, List.set_cons_succ])
          refine wpAnyH_take (i := 7) (v := .int .i64 (C * D : Int)) rfl (by kernel_rfl) (by kernel_rfl) (by kernel_rfl) (fun _ _ _ h => h) (Or.inl ⟨by rfl, ?_⟩) hHeld ?_
          · intro wy hy; go_simp
          (try simp only [Act.put, List.getElem_toArray, List.getElem_cons_zero, List.getElem_cons_succ, List.setIfInBounds_toArray, List.set_cons_zero, List.set_cons_succ])
          refine wpAnyH_take (i := 8) (v := .int .i64 (p : Int)) rfl (by kernel_rfl) (by kernel_rfl) (by kernel_rfl) (fun _ _ _ h => h) (Or.inl ⟨by rfl, ?_⟩) hHeld ?_
          · intro wy hy; go_simp
          (try simp only [Act.put, List.getElem_toArray, List.getElem_cons_zero, List.getElem_cons_succ, List.setIfInBounds_toArray, List.set_cons_zero, List.set_cons_succ])
          refine wpAnyH_take (i := 9) (v := .int .i64 (E : Int)) rfl (by kernel_rfl) (by kernel_rfl) (by kernel_rfl) (fun _ _ _ h => h) (Or.inl ⟨by rfl, ?_⟩) hHeld ?_
          · intro wy hy; go_simp
          (try simp only [Act.put, List.getElem_toArray, List.getElem_cons_zero, List.getElem_cons_succ, List.setIfInBounds_toArray, List.set_cons_zero, List.set_cons_succ])
          refine wpAnyH_take (i := 10) (v := .int .i64 (p : Int)) rfl (by kernel_rfl) (by kernel_rfl) (by kernel_rfl) (fun _ _ _ h => h) (Or.inl ⟨by rfl, ?_⟩) hHeld ?_
          · intro wy hy; go_simp
          (try simp only [Act.put, List.getElem_toArray, List.getElem_cons_zero, List.getElem_cons_succ, List.setIfInBounds_toArray, List.set_cons_zero, List.set_cons_succ])
          refine wpAnyH_take (i := 11) (v := .int .i64 (t : Int)) rfl (by kernel_rfl) (by kernel_rfl) (by kernel_rfl) (fun _ _ _ h => h) (Or.inl ⟨by rfl, ?_⟩) hHeld ?_
          · intro wy hy; go_simp
          (try simp only [Act.put, List.getElem_toArray, List.getElem_cons_zero, List.getElem_cons_succ, List.setIfInBounds_toArray, List.set_cons_zero, List.set_cons_succ])
          refine wpAnyH_take (i := 12) (v := .int .i64 ((t : Int) + 1 : Int)) rfl (by kernel_rfl) (by kernel_rfl) (by kernel_rfl) (fun _ _ _ h => h) (Or.inl ⟨by rfl, ?_⟩) hHeld ?_
          · intro wy hy; go_simp
          (try simp only [Act.put, List.getElem_toArray, List.getElem_cons_zero, List.getElem_cons_succ, List.setIfInBounds_toArray, List.set_cons_zero, List.set_cons_succ])
          refine wpAnyH_take (i := 13) (v := .int .i64 (p : Int)) rfl (by kernel_rfl) (by kernel_rfl) (by kernel_rfl) (fun _ _ _ h => h) (Or.inl ⟨by rfl, ?_⟩) hHeld ?_
          · intro wy hy; go_simp
          (try simp only [Act.put, List.getElem_toArray, List.getElem_cons_zero, List.getElem_cons_succ, List.setIfInBounds_toArray, List.set_cons_zero, List.set_cons_succ])
          refine wpAnyH_take (i := 14) (v := .int .i64 ((p : Int) - 2 : Int)) rfl (by kernel_rfl) (by kernel_rfl) (by kernel_rfl) (fun _ _ _ h => h) (Or.inl ⟨by rfl, ?_⟩) hHeld ?_
          · intro wy hy; go_simp
          (try simp only [Act.put, List.getElem_toArray, List.getElem_cons_zero, List.getElem_cons_succ, List.setIfInBounds_toArray, List.set_cons_zero, List.set_cons_succ])
          refine wpAnyH_take (i := 17) (v := .int .i64 (p : Int)) rfl (by kernel_rfl) (by kernel_rfl) (by kernel_rfl) (fun _ _ _ h => h) (Or.inl ⟨by rfl, ?_⟩) hHeld ?_
          · intro wy hy; go_simp
          (try simp only [Act.put, List.getElem_toArray, List.getElem_cons_zero, List.getElem_cons_succ, List.setIfInBounds_toArray, List.set_cons_zero, List.set_cons_succ])
          refine wpAnyH_ready (rs := [15]) (by kernel_rfl) (by simp) ?_
          refine AllReadyH.cons rfl (fun K hK => ?_) AllReadyH.nil
          rw [if_pos (by rfl)]
          (try simp only [List.getElem_toArray, List.getElem_cons_zero, List.getElem_cons_succ])
          go_simp
          go_at_call 184
          refine (HPW.out _).mono ?_
          rintro e w6 ⟨rfl, b6⟩
          replace st := st.keep b6
          have R3 := Lib.hid (R2.out.keepR (Frame.of_below (lo := w6.heap.size + g + 1) (hi := 0) b6 (Nat.le_refl _)) (by omega))
          refine hK.out _ _ trivial (fun hHeld => ?_)
          clear hK K
          (try simp only [Act.put, List.getElem_toArray, List.getElem_cons_zero, List.getElem_cons_succ, List.setIfInBounds_toArray, List.set_cons_zero, List.set_cons_succ])
          refine wpAnyH_take (i := 16) (v := .int .i64 (E * P : Int)) rfl (by kernel_rfl) (by kernel_rfl) (by kernel_rfl) (fun _ _ _ h => h) (Or.inl ⟨by rfl, ?_⟩) hHeld ?_
          · intro wy hy; go_simp
          (try simp only [Act.put, List.getElem_toArray, List.getElem_cons_zero, List.getElem_cons_succ, List.setIfInBounds_toArray, List.set_cons_zero, List.set_cons_succ])
          refine wpAnyH_take (i := 18) (v := .int .i64 (F : Int)) rfl (by kernel_rfl) (by kernel_rfl) (by kernel_rfl) (fun _ _ _ h => h) (Or.inl ⟨by rfl, ?_⟩) hHeld ?_
          · intro wy hy; go_simp
          (try simp only [Act.put, List.getElem_toArray, List.getElem_cons_zero, List.getElem_cons_succ, List.setIfInBounds_toArray, List.set_cons_zero, List.set_cons_succ])
          refine wpAnyH_take (i := 19) (v := .int .i64 (F : Int)) rfl (by kernel_rfl) (by kernel_rfl) (by kernel_rfl) (fun _ _ _ h => h) (Or.inl ⟨by rfl, ?_⟩) hHeld ?_
          · intro wy hy; go_simp
          (try simp only [Act.put, List.getElem_toArray, List.getElem_cons_zero, List.getElem_cons_succ, List.setIfInBounds_toArray, List.set_cons_zero, List.set_cons_succ])
          refine wpAnyH_done (by kernel_rfl) ?_ _
          go_wp2
          go_roundw
          case rel => exact ⟨t + 1, by omega, by go_num, by rw [HF2.out.1], by rw [HF2.out.2], R3.out, st⟩
          case measure => simp [intOf] <;> omega
        · obtain rfl : t = j + 1 := by omega
          have hc2 : ¬ ((j + 1 : Nat) : Int) < (j : Int) + 1 := by omega
          have HN := Lib.hid (show nxM p (blP p j) (j + 1) = beR p (j + 1) from by rw [be_succ, be_model hp (by omega)])
          obtain ⟨A, hA⟩ : ∃ A, (smM p (blP p j) (j + 1) (j + 1)).1 = A := ⟨_, rfl⟩
          obtain ⟨P, hP⟩ : ∃ P, pwr p (j + 1 + 1) (p - 2) = P := ⟨_, rfl⟩
          have HN2 := Lib.hid (show (p - A) % p * P % p = beR p (j + 1) from by rw [← HN.out, ← hA, ← hP]; rfl)
          rw [hA] at hsm
          rw [hA]
          have hPl : P < p := by rw [← hP]; exact pw_lt p (j + 1 + 1) (p - 2) (by omega)
          have HPW := Lib.hid (pw_below p (j + 1 + 1) (by omega) (by omega) (by omega))
          rw [hP] at HPW
          have ecast : ((j + 1 + 1 : Nat) : Int) = (j : Int) + 1 + 1 := by omega
          rw [ecast] at HPW
          obtain ⟨D, hD⟩ : ∃ D, (p - A) % p = D := ⟨_, rfl⟩
          have hDl : D < p := by rw [← hD]; exact Nat.mod_lt _ (by omega)
          have hDm : ((p : Int) - (A : Int)).tmod (p : Int) = (D : Int) := by
            rw [Int.tmod_eq_emod_of_nonneg (by omega), ← hD, Int.natCast_emod]
            congr 1; omega
          rw [hD] at HN2
          obtain ⟨q1, q2, q3, q4⟩ := mulC hDl hPl hbd.2
          rw [HN2.out] at q3 q4
          obtain ⟨F, hF⟩ : ∃ F, beR p (j + 1) = F := ⟨_, rfl⟩
          rw [hF] at q3 q4
          have HF := Lib.hid hF
          have wa := (show IntKind.i64.wrap ((p : Int) - A) = (p : Int) - A from by rw [IntKind.wrap_i64]; omega)
          have wb := (show IntKind.i64.wrap ((j : Int) + 1 + 1) = (j : Int) + 1 + 1 from by rw [IntKind.wrap_i64]; omega)
          have we := (show IntKind.i64.wrap ((p : Int) - 2) = (p : Int) - 2 from by rw [IntKind.wrap_i64]; omega)
          have wf := (show IntKind.i64.wrap ((D : Int) * P) = (D : Int) * P from by rw [IntKind.wrap_i64]; omega)
          clear HN hF hD hP ecast hA
          go_wp2
          replace st := st.drew
          have R2 := Lib.hid (show Row wr.drew w.heap.size g cap (j + 1) (fun i => (beR p i : Int)) from R1.out)
          clear R1
          refine wp_region_held_drew (S := fun _ => True) (by kernel_rfl) (trivial) (fun hHeld => ?_)
          refine wpAnyH_take (i := 0) (v := .slice (some ⟨g, 0, none⟩) (j + 1) cap) rfl (by kernel_rfl) (by kernel_rfl) (by kernel_rfl) (fun _ _ _ h => h) (Or.inl ⟨by rfl, ?_⟩) hHeld ?_
          · intro wy hy; go_simp
          (try simp only [Act.put, List.getElem_toArray, List.getElem_cons_zero, List.getElem_cons_succ, List.setIfInBounds_toArray, List.set_cons_zero, List.set_cons_succ])
          refine wpAnyH_take (i := 1) (v := .int .i64 (p : Int)) rfl (by kernel_rfl) (by kernel_rfl) (by kernel_rfl) (fun _ _ _ h => h) (Or.inl ⟨by rfl, ?_⟩) hHeld ?_
          · intro wy hy; go_simp
          (try simp only [Act.put, List.getElem_toArray, List.getElem_cons_zero, List.getElem_cons_succ, List.setIfInBounds_toArray, List.set_cons_zero, List.set_cons_succ])
          refine wpAnyH_take (i := 2) (v := .int .i64 (A : Int)) rfl (by kernel_rfl) (by kernel_rfl) (by kernel_rfl) (fun _ _ _ h => h) (Or.inl ⟨by rfl, ?_⟩) hHeld ?_
          · intro wy hy; go_simp
          (try simp only [Act.put, List.getElem_toArray, List.getElem_cons_zero, List.getElem_cons_succ, List.setIfInBounds_toArray, List.set_cons_zero, List.set_cons_succ])
          refine wpAnyH_take (i := 3) (v := .int .i64 ((p : Int) - A : Int)) rfl (by kernel_rfl) (by kernel_rfl) (by kernel_rfl) (fun _ _ _ h => h) (Or.inl ⟨by rfl, ?_⟩) hHeld ?_
          · intro wy hy; go_simp
          (try simp only [Act.put, List.getElem_toArray, List.getElem_cons_zero, List.getElem_cons_succ, List.setIfInBounds_toArray, List.set_cons_zero, List.set_cons_succ])
          refine wpAnyH_take (i := 4) (v := .int .i64 (p : Int)) rfl (by kernel_rfl) (by kernel_rfl) (by kernel_rfl) (fun _ _ _ h => h) (Or.inl ⟨by rfl, ?_⟩) hHeld ?_
          · intro wy hy; go_simp
          (try simp only [Act.put, List.getElem_toArray, List.getElem_cons_zero, List.getElem_cons_succ, List.setIfInBounds_toArray, List.set_cons_zero, List.set_cons_succ])
          refine wpAnyH_take (i := 5) (v := .int .i64 (D : Int)) rfl (by kernel_rfl) (by kernel_rfl) (by kernel_rfl) (fun _ _ _ h => h) (Or.inl ⟨by rfl, ?_⟩) hHeld ?_
          · intro wy hy; go_simp
          (try simp only [Act.put, List.getElem_toArray, List.getElem_cons_zero, List.getElem_cons_succ, List.setIfInBounds_toArray, List.set_cons_zero, List.set_cons_succ])
          refine wpAnyH_take (i := 6) (v := .int .i64 (p : Int)) rfl (by kernel_rfl) (by kernel_rfl) (by kernel_rfl) (fun _ _ _ h => h) (Or.inl ⟨by rfl, ?_⟩) hHeld ?_
          · intro wy hy; go_simp
          (try simp only [Act.put, List.getElem_toArray, List.getElem_cons_zero, List.getElem_cons_succ, List.setIfInBounds_toArray, List.set_cons_zero, List.set_cons_succ])
          refine wpAnyH_take (i := 7) (v := .int .i64 ((j : Int) + 1 : Int)) rfl (by kernel_rfl) (by kernel_rfl) (by kernel_rfl) (fun _ _ _ h => h) (Or.inl ⟨by rfl, ?_⟩) hHeld ?_
          · intro wy hy; go_simp
          (try simp only [Act.put, List.getElem_toArray, List.getElem_cons_zero, List.getElem_cons_succ, List.setIfInBounds_toArray, List.set_cons_zero, List.set_cons_succ])
          refine wpAnyH_take (i := 8) (v := .int .i64 ((j : Int) + 1 + 1 : Int)) rfl (by kernel_rfl) (by kernel_rfl) (by kernel_rfl) (fun _ _ _ h => h) (Or.inl ⟨by rfl, ?_⟩) hHeld ?_
          · intro wy hy; go_simp
          (try simp only [Act.put, List.getElem_toArray, List.getElem_cons_zero, List.getElem_cons_succ, List.setIfInBounds_toArray, List.set_cons_zero, List.set_cons_succ])
          refine wpAnyH_take (i := 9) (v := .int .i64 (p : Int)) rfl (by kernel_rfl) (by kernel_rfl) (by kernel_rfl) (fun _ _ _ h => h) (Or.inl ⟨by rfl, ?_⟩) hHeld ?_
          · intro wy hy; go_simp
          (try simp only [Act.put, List.getElem_toArray, List.getElem_cons_zero, List.getElem_cons_succ, List.setIfInBounds_toArray, List.set_cons_zero, List.set_cons_succ])
          refine wpAnyH_take (i := 10) (v := .int .i64 ((p : Int) - 2 : Int)) rfl (by kernel_rfl) (by kernel_rfl) (by kernel_rfl) (fun _ _ _ h => h) (Or.inl ⟨by rfl, ?_⟩) hHeld ?_
          · intro wy hy; go_simp
          (try simp only [Act.put, List.getElem_toArray, List.getElem_cons_zero, List.getElem_cons_succ, List.setIfInBounds_toArray, List.set_cons_zero, List.set_cons_succ])
          refine wpAnyH_take (i := 13) (v := .int .i64 (p : Int)) rfl (by kernel_rfl) (by kernel_rfl) (by kernel_rfl) (fun _ _ _ h => h) (Or.inl ⟨by rfl, ?_⟩) hHeld ?_
          · intro wy hy; go_simp
          (try simp only [Act.put, List.getElem_toArray, List.getElem_cons_zero, List.getElem_cons_succ, List.setIfInBounds_toArray, List.set_cons_zero, List.set_cons_succ])
          refine wpAnyH_ready (rs := [11]) (by kernel_rfl) (by simp) ?_
          refine AllReadyH.cons rfl (fun K hK => ?_) AllReadyH.nil
          rw [if_pos (by rfl)]
          (try simp only [List.getElem_toArray, List.getElem_cons_zero, List.getElem_cons_succ])
          go_simp
          go_at_call 184
          refine (HPW.out _).mono ?_
          rintro e w6 ⟨rfl, b6⟩
          replace st := st.keep b6
          have R3 := Lib.hid (R2.out.keepR (Frame.of_below (lo := w6.heap.size + g + 1) (hi := 0) b6 (Nat.le_refl _)) (by omega))
          refine hK.out _ _ trivial (fun hHeld => ?_)
          clear hK K
          (try simp only [Act.put, List.getElem_toArray, List.getElem_cons_zero, List.getElem_cons_succ, List.setIfInBounds_toArray, List.set_cons_zero, List.set_cons_succ])
          refine wpAnyH_take (i := 12) (v := .int .i64 (D * P : Int)) rfl (by kernel_rfl) (by kernel_rfl) (by kernel_rfl) (fun _ _ _ h => h) (Or.inl ⟨by rfl, ?_⟩) hHeld ?_
          · intro wy hy; go_simp
          (try simp only [Act.put, List.getElem_toArray, List.getElem_cons_zero, List.getElem_cons_succ, List.setIfInBounds_toArray, List.set_cons_zero, List.set_cons_succ])
          refine wpAnyH_take (i := 14) (v := .int .i64 (F : Int)) rfl (by kernel_rfl) (by kernel_rfl) (by kernel_rfl) (fun _ _ _ h => h) (Or.inl ⟨by rfl, ?_⟩) hHeld ?_
          · intro wy hy; go_simp
          (try simp only [Act.put, List.getElem_toArray, List.getElem_cons_zero, List.getElem_cons_succ, List.setIfInBounds_toArray, List.set_cons_zero, List.set_cons_succ])
          refine wpAnyH_ready (rs := [15]) (by kernel_rfl) (by simp) ?_
          refine AllReadyH.cons rfl (fun K hK => ?_) AllReadyH.nil
          rw [if_pos (by rfl)]
          (try simp only [List.getElem_toArray, List.getElem_cons_zero, List.getElem_cons_succ])
          go_simp
          refine hK.out _ _ trivial (fun hHeld => ?_)
          clear hK K
          (try simp only [Act.put, List.getElem_toArray, List.getElem_cons_zero, List.getElem_cons_succ, List.setIfInBounds_toArray, List.set_cons_zero, List.set_cons_succ])
          have hgl := R3.out.lt
          refine wpAnyH_ready (rs := [16]) (by kernel_rfl) (by simp) ?_
          refine AllReadyH.cons rfl (fun K hK => ?_) AllReadyH.nil
          refine step_pushR rfl (.tmp 49) (.tmp 64) rfl w.heap.size (j + 1) (.slice (some ⟨g, 0, none⟩) (j + 1) cap) (fun i => (beR p i : Int)) rfl (World.ownsRow.alloc R3.out _) (by simp only [World.size_alloc]; omega) w6.heap.size (F : Int) rfl (heap_alloc_new w6 _) (by omega) ?_
          intro gA kA wA rowA grA orA ltA
          have stA := (st.alloc (.cells #[.int .i64 (F : Int)] 2)).write (Frame.ofGrown (row := g) grA) (by omega) (by intro q hq; cases hq) (by intro q hq; cases hq)
          refine hK.out _ _ trivial (fun hHeld => ?_)
          clear hK K
          (try simp only [Act.put, List.getElem_toArray, List.getElem_cons_zero, List.getElem_cons_succ, List.setIfInBounds_toArray, List.set_cons_zero, List.set_cons_succ])
          refine wpAnyH_take (i := 17) (v := .slice (some ⟨gA, 0, none⟩) (j + 1 + 1) kA) rfl (by kernel_rfl) (by kernel_rfl) (by kernel_rfl) (fun _ _ _ h => h) (Or.inl ⟨by rfl, ?_⟩) hHeld ?_
          · intro wy hy; go_simp
          (try simp only [Act.put, List.getElem_toArray, List.getElem_cons_zero, List.getElem_cons_succ, List.setIfInBounds_toArray, List.set_cons_zero, List.set_cons_succ])
          refine wpAnyH_done (by kernel_rfl) ?_ _
          have RA := Lib.hid rowA
          clear rowA grA
          go_wp2
          go_roundw
          case rel =>
            refine ⟨j + 1, gA, kA, by omega, rfl, by go_num, RA.out.congr (fun i hi => ?_), stA⟩
            by_cases e : i < j + 1
            · rw [if_pos e]
            · obtain rfl : i = j + 1 := by omega
              rw [if_neg e, HF.out]
          case measure => simp [intOf] <;> omega
    · obtain rfl : j = K := by omega
      have BB := st.1
      have hc1 : ¬ (j : Int) + 1 ≤ (p : Int) - 3 := by omega
      go_wp2
      go_ret
      exact ⟨g, cap, rfl, Sl.ofRowF R1.out (fun i _ => by have := be_lt (p := p) (by omega) i; unfold inR; omega) (by unfold maxLen; omega), BB⟩
end

section
open Go.RowKit Go.ChangeShapes Go.Sort
set_option linter.unusedVariables false
set_option linter.unusedSimpArgs false
set_option maxRecDepth 100000
set_option maxHeartbeats 4000000

theorem bernoulliResidues_any (p K : Nat) (hp : primeN p = true) (hKp : K + 3 = p) (w : World) :
    Calls Try.prog 137 #[.int .i64 (p : Int)] w fun e w' => ∃ (g cap : Nat), e = .returned (.slice (some ⟨g, 0, none⟩) (K + 1) cap) ∧ RowE w' (w.heap.size + 1) 150 2 g cap (K + 1) (fun i => [.int .i64 (beR p i : Int), .int .i64 (p : Int)]) ∧ Below w.heap.size w w' := by
  have hbd := primeN_bd hp
  have hw3 : (p : Int) - 3 = (K : Int) := by omega
  have HB := Lib.hid (fun w' => bernR_any p K hp hKp w')
  go_enter Try.func137, Try.ntmps137
  go_wp2_with (go_at_call 183; refine (HB.out _).mono ?_; rintro e w2 ⟨g, cap, rfl, r2, b2⟩)
  go_ret
  exact ⟨g, cap, rfl, r2, b2⟩
def OkM (p k : Int) : Prop := PrP p ∧ 2 ≤ k ∧ k ≤ p - 3 ∧ k % 2 = 0
theorem BernoulliModulo_impl_np (p k : Int) (hp : ¬ PrP p) (w : World) :
    Calls Try.prog 60 #[.int .i64 p, .int .i64 k] w fun e w' => e = .returned (.tuple #[.int .i64 0, .int .i64 2]) ∧ Below w.heap.size w w' := by
  have HP := Lib.hid hp
  clear hp
  go_enter Try.func60, Try.ntmps60
  go_wp2_with (first
    | (go_at_call 136; refine (isOddPrime_no p HP.out _).mono ?_; rintro e w1 ⟨rfl, m1, rfl⟩)
    | fail)
  go_returns
  exact ⟨rfl, below_drewN (Below.refl _ _) _⟩
theorem BernoulliModulo_impl_lo (p : Nat) (k : Int) (hp : primeN p = true) (hk : inR k) (h : k < 2) (w : World) :
    Calls Try.prog 60 #[.int .i64 (p : Int), .int .i64 k] w fun e w' => e = .returned (.tuple #[.int .i64 0, .int .i64 2]) ∧ Below w.heap.size w w' := by
  have hbd := primeN_bd hp
  have HP := Lib.hid hp
  clear hp
  have wq : IntKind.i64.wrap ((p : Int) - 3) = (p : Int) - 3 := by rw [IntKind.wrap_i64]; omega
  go_enter Try.func60, Try.ntmps60
  go_wp2_with (first
    | (go_at_call 136; refine (isOddPrime_yes p HP.out _).mono ?_; rintro e w1 ⟨rfl, m1, rfl⟩)
    | fail)
  go_returns
  exact ⟨rfl, below_drewN (Below.refl _ _) _⟩
theorem BernoulliModulo_impl_hi (p : Nat) (k : Int) (hp : primeN p = true) (hk : inR k) (h2 : 2 ≤ k) (h : (p : Int) - 3 < k) (w : World) :
    Calls Try.prog 60 #[.int .i64 (p : Int), .int .i64 k] w fun e w' => e = .returned (.tuple #[.int .i64 0, .int .i64 2]) ∧ Below w.heap.size w w' := by
  have hbd := primeN_bd hp
  have HP := Lib.hid hp
  clear hp
  have wq : IntKind.i64.wrap ((p : Int) - 3) = (p : Int) - 3 := by rw [IntKind.wrap_i64]; omega
  go_enter Try.func60, Try.ntmps60
  go_wp2_with (first
    | (go_at_call 136; refine (isOddPrime_yes p HP.out _).mono ?_; rintro e w1 ⟨rfl, m1, rfl⟩)
    | fail)
  go_returns
  exact ⟨rfl, below_drewN (Below.refl _ _) _⟩
theorem BernoulliModulo_impl_od (p : Nat) (k : Int) (hp : primeN p = true) (h2 : 2 ≤ k) (h : k ≤ (p : Int) - 3) (ho : k % 2 = 1) (w : World) :
    Calls Try.prog 60 #[.int .i64 (p : Int), .int .i64 k] w fun e w' => e = .returned (.tuple #[.int .i64 0, .int .i64 2]) ∧ Below w.heap.size w w' := by
  have hbd := primeN_bd hp
  have HP := Lib.hid hp
  clear hp
  have wq : IntKind.i64.wrap ((p : Int) - 3) = (p : Int) - 3 := by rw [IntKind.wrap_i64]; omega
  have hm : k.tmod 2 = 1 := by rw [Int.tmod_eq_emod_of_nonneg (by omega)]; exact ho
  have hb : (k % 2 != 0) = true := by rw [ho]; rfl
  have hb2 : (k.tmod 2 != 0) = true := by rw [hm]; rfl
  clear hm ho
  go_enter Try.func60, Try.ntmps60
  go_wp2_with (first
    | (go_at_call 136; refine (isOddPrime_yes p HP.out _).mono ?_; rintro e w1 ⟨rfl, m1, rfl⟩)
    | fail)
  go_returns
  exact ⟨rfl, below_drewN (Below.refl _ _) _⟩
theorem BernoulliModulo_spec_np (p k : Int) (hp : ¬ PrP p) (w : World) :
    Calls Try.prog 61 #[.int .i64 p, .int .i64 k] w fun e w' => e = .returned (.tuple #[.int .i64 0, .int .i64 2]) ∧ Below w.heap.size w w' := by
  have HP := Lib.hid hp
  clear hp
  go_enter Try.func61, Try.ntmps61
  go_wp2_with (first
    | (go_at_call 138; refine (l06Prime_no p HP.out _).mono ?_; rintro e w1 ⟨rfl, m1, rfl⟩)
    | fail)
  go_returns
  exact ⟨rfl, below_drewN (Below.refl _ _) _⟩
theorem BernoulliModulo_spec_out (p : Nat) (k : Int) (hp : primeN p = true) (hk : inR k) (h : k < 2 ∨ (p : Int) - 3 < k) (w : World) :
    Calls Try.prog 61 #[.int .i64 (p : Int), .int .i64 k] w fun e w' => e = .returned (.tuple #[.int .i64 0, .int .i64 2]) ∧ Below w.heap.size w w' := by
  have hbd := primeN_bd hp
  have HP := Lib.hid hp
  clear hp
  have wq : IntKind.i64.wrap ((p : Int) - 3) = (p : Int) - 3 := by rw [IntKind.wrap_i64]; omega
  have HX := Lib.hid h
  clear h
  go_enter Try.func61, Try.ntmps61
  go_wp2_with (first
    | (go_at_call 138; refine (l06Prime_yes p HP.out _).mono ?_; rintro e w1 ⟨rfl, m1, rfl⟩)
    | (go_at_call 101; refine (l01In_no _ _ _ _ HX.out).mono ?_; rintro e w' ⟨rfl, rfl⟩))
  go_returns
  exact ⟨rfl, below_drewN (Below.refl _ _) _⟩
theorem BernoulliModulo_spec_od (p : Nat) (k : Int) (hp : primeN p = true) (h2 : 2 ≤ k) (h : k ≤ (p : Int) - 3) (ho : k % 2 = 1) (w : World) :
    Calls Try.prog 61 #[.int .i64 (p : Int), .int .i64 k] w fun e w' => e = .returned (.tuple #[.int .i64 0, .int .i64 2]) ∧ Below w.heap.size w w' := by
  have hbd := primeN_bd hp
  have HP := Lib.hid hp
  clear hp
  have wq : IntKind.i64.wrap ((p : Int) - 3) = (p : Int) - 3 := by rw [IntKind.wrap_i64]; omega
  have hm : k.tmod 2 = 1 := by rw [Int.tmod_eq_emod_of_nonneg (by omega)]; exact ho
  have hb : (k % 2 == 1) = true := by rw [ho]; rfl
  have hb2 : (k.tmod 2 == 1) = true := by rw [hm]; rfl
  clear hm ho
  go_enter Try.func61, Try.ntmps61
  go_wp2_with (first
    | (go_at_call 138; refine (l06Prime_yes p HP.out _).mono ?_; rintro e w1 ⟨rfl, m1, rfl⟩)
    | (go_at_call 101; refine (l01In_yes _ _ _ _ h2 h).mono ?_; rintro e w' ⟨rfl, rfl⟩))
  go_returns
  exact ⟨rfl, below_drewN (Below.refl _ _) _⟩
theorem BernoulliModulo_impl_ok (p : Nat) (k : Int) (hp : primeN p = true) (h2 : 2 ≤ k) (h : k ≤ (p : Int) - 3) (ho : k % 2 = 0) (w : World) :
    Calls Try.prog 60 #[.int .i64 (p : Int), .int .i64 k] w fun e w' => e = .returned (.tuple #[.int .i64 (beR p k.toNat : Int), .int .i64 0]) ∧ Below w.heap.size w w' := by
  have hbd := primeN_bd hp
  have HP := Lib.hid hp
  have hq1 : k.tmod 2 = 0 := by rw [Int.tmod_eq_emod_of_nonneg (by omega)]; exact ho
  obtain ⟨q, rfl⟩ := Int.eq_ofNat_of_zero_le (show 0 ≤ k by omega)
  obtain ⟨K, hK⟩ : ∃ K, K + 3 = p := ⟨p - 3, by omega⟩
  have hqK : q < K + 1 := by omega
  have hqi : (q : Int) < ((K : Int) + 1) := by omega
  have wq : IntKind.i64.wrap ((p : Int) - 3) = (p : Int) - 3 := by rw [IntKind.wrap_i64]; omega
  have hb : ((q : Int) % 2 != 0) = false := by rw [ho]; rfl
  have hb2 : ((q : Int).tmod 2 != 0) = false := by rw [hq1]; rfl
  clear hq1 ho
  go_enter Try.func60, Try.ntmps60
  go_wp2_with (first
    | (go_at_call 136; refine (isOddPrime_yes p HP.out _).mono ?_; rintro e w1 ⟨rfl, m1, rfl⟩)
    | (go_at_call 137; refine (bernoulliResidues_any p K HP.out hK _).mono ?_; rintro e w2 ⟨g, cap, rfl, r2, b2⟩
       have hq0 := r2.cell (fun _ => rfl) hqK (show 0 < 2 by omega)
       simp only [Nat.add_zero, List.getElem?_cons_zero] at hq0))
  go_returns
  exact ⟨by rw [Int.toNat_natCast]; rfl, (below_drewN (Below.refl _ _) m1).trans b2⟩
theorem BernoulliModulo_spec_ok (p : Nat) (k : Int) (hp : primeN p = true) (h2 : 2 ≤ k) (h : k ≤ (p : Int) - 3) (ho : k % 2 = 0) (w : World) :
    Calls Try.prog 61 #[.int .i64 (p : Int), .int .i64 k] w fun e w' => e = .returned (.tuple #[.int .i64 (beR p k.toNat : Int), .int .i64 0]) ∧ Below w.heap.size w w' := by
  have hbd := primeN_bd hp
  have HP := Lib.hid hp
  have hq1 : k.tmod 2 = 0 := by rw [Int.tmod_eq_emod_of_nonneg (by omega)]; exact ho
  obtain ⟨q, rfl⟩ := Int.eq_ofNat_of_zero_le (show 0 ≤ k by omega)
  obtain ⟨K, hK⟩ : ∃ K, K + 3 = p := ⟨p - 3, by omega⟩
  have hqK : q < K + 1 := by omega
  have hqi : (q : Int) < ((K : Int) + 1) := by omega
  have wq : IntKind.i64.wrap ((p : Int) - 3) = (p : Int) - 3 := by rw [IntKind.wrap_i64]; omega
  have hb : ((q : Int) % 2 == 1) = false := by rw [ho]; rfl
  have hb2 : ((q : Int).tmod 2 == 1) = false := by rw [hq1]; rfl
  clear hq1 ho
  go_enter Try.func61, Try.ntmps61
  go_wp2_with (first
    | (go_at_call 138; refine (l06Prime_yes p HP.out _).mono ?_; rintro e w1 ⟨rfl, m1, rfl⟩)
    | (go_at_call 101; refine (l01In_yes _ _ _ _ h2 h).mono ?_; rintro e w' ⟨rfl, rfl⟩)
    | (go_at_call 139; refine (l10Bernoulli_any p K HP.out hK _).mono ?_; rintro e w2 ⟨g, cap, rfl, s2, b2⟩
       have hq0 := s2.known (by omega)
       replace hq0 := hq0.2.2.2.1 q hqK
       rw [Nat.zero_add] at hq0))
  go_returns
  exact ⟨by rw [Int.toNat_natCast]; rfl, (below_drewN (Below.refl _ _) m1).trans b2⟩
end

section
open Go.RowKit Go.ChangeShapes Go.Sort
set_option linter.unusedVariables false
set_option linter.unusedSimpArgs false
set_option maxRecDepth 100000
set_option maxHeartbeats 4000000

theorem szN (w : World) (m : Nat) : (w.drewN m).heap.size = w.heap.size := rfl
theorem irN_app {p k m : Nat} {i : Nat} (h : irN p m = irN p k ++ [k]) (hi : i < (irN p m).length) : ((irN p m).getD i 0 : Int) = if i < (irN p k).length then ((irN p k).getD i 0 : Int) else (k : Int) := by
  rw [h] at hi ⊢
  simp only [List.getD_eq_getElem?_getD]
  by_cases e : i < (irN p k).length
  · rw [if_pos e, List.getElem?_append_left e]
  · rw [List.length_append, List.length_singleton] at hi
    obtain rfl : i = (irN p k).length := by omega
    rw [if_neg e, List.getElem?_append_right (Nat.le_refl _)]
    simp
theorem IrregularOf_impl_no (p : Int) (hp : ¬ PrP p) (w : World) :
    Calls Try.prog 63 #[.int .i64 p] w fun e w' => ∃ a k, e = .returned (.tuple #[.slice a 0 k, .int .i64 2]) ∧ Sl true w' w.heap.size w'.heap.size (.slice a 0 k) 0 (fun _ => 0) ∧ Below w.heap.size w w' := by
  have HP := Lib.hid hp
  clear hp
  go_enter Try.func63, Try.ntmps63
  go_wp2_with (go_at_call 136; refine (isOddPrime_no p HP.out _).mono ?_; rintro e w1 ⟨rfl, m1, rfl⟩)
  go_returns
  exact ⟨none, 0, rfl, Sl.nil _ _ _ (Nat.le_refl _) _, below_drewN (Below.refl _ _) _⟩
theorem IrregularOf_spec_no (p : Int) (hp : ¬ PrP p) (w : World) :
    Calls Try.prog 64 #[.int .i64 p] w fun e w' => ∃ a k, e = .returned (.tuple #[.slice a 0 k, .int .i64 2]) ∧ Sl true w' w.heap.size w'.heap.size (.slice a 0 k) 0 (fun _ => 0) ∧ Below w.heap.size w w' := by
  have HP := Lib.hid hp
  clear hp
  go_enter Try.func64, Try.ntmps64
  go_wp2_with (go_at_call 138; refine (l06Prime_no p HP.out _).mono ?_; rintro e w1 ⟨rfl, m1, rfl⟩)
  go_returns
  exact ⟨none, 0, rfl, Sl.nil _ _ _ (Nat.le_refl _) _, below_drewN (Below.refl _ _) _⟩
theorem IrregularOf_impl_ok (p K : Nat) (hp : primeN p = true) (hK : K + 3 = p) (w : World) :
    Calls Try.prog 63 #[.int .i64 (p : Int)] w fun e w' => ∃ a k, e = .returned (.tuple #[.slice a (irN p (K + 1)).length k, .int .i64 0]) ∧ Sl true w' w.heap.size w'.heap.size (.slice a (irN p (K + 1)).length k) (irN p (K + 1)).length (fun i => ((irN p (K + 1)).getD i 0 : Int)) ∧ Below w.heap.size w w' := by
  have hbd := primeN_bd hp
  have HP := Lib.hid hp
  have HK := Lib.hid hK
  clear hK
  go_enter Try.func63, Try.ntmps63
  go_wp2_with (first
    | (go_at_call 136; refine (isOddPrime_yes p HP.out _).mono ?_; rintro e w1 ⟨rfl, m1, rfl⟩
       have R0 := Row.made (w.drewN m1) w.heap.size (fun i => ((irN p 0).getD i 0 : Int)) (Nat.le_refl _)
       have st := ((St.start w).drewN m1).alloc (.cells #[] 2))
    | (go_at_call 137; refine (bernoulliResidues_any p K HP.out HK.out _).mono ?_; rintro e w2 ⟨g, cap, rfl, r2, b2⟩
       replace st := st.keep b2
       have R1 := R0.keepR (Frame.of_below (lo := w2.heap.size + w.heap.size + 1) (hi := 0) b2 (Nat.le_refl _)) (by omega)
       have hg2 := r2.lt
       simp only [World.size_alloc, szN] at r2 hg2))
  obtain ⟨B0, hB0⟩ : ∃ B0, w.heap.size + 1 + 1 = B0 := ⟨_, rfl⟩
  rw [hB0] at r2 hg2
  have HB0 := Lib.hid hB0
  clear hB0 R0
  have HR := Lib.hid r2
  have HRR := Lib.hid R1
  have HST := Lib.hid st
  clear r2 R1 st b2
  go_loopw [4, 14] (fun s4 s14 wr => ∃ (k g2 cap2 : Nat), k ≤ K + 1 ∧ s4 = .slice (some ⟨g2, 0, none⟩) (irN p k).length cap2 ∧ s14 = .int .i64 (k : Int) ∧ g2 ≠ g ∧ Row wr w.heap.size g2 cap2 (irN p k).length (fun i => ((irN p k).getD i 0 : Int)) ∧ RowE wr B0 150 2 g cap (K + 1) (fun i => [.int .i64 (beR p i : Int), .int .i64 (p : Int)]) ∧ St w wr [] []) (fun _ s14 _ => K + 1 - (intOf s14).toNat)
  case atStart => exact ⟨0, w.heap.size, _, by omega, rfl, rfl, by have := HB0.out; omega, HRR.out, HR.out, HST.out⟩
  case round =>
    clear HR HRR HST
    obtain ⟨k, g2, cap2, hk, rfl, rfl, hne, hr2, hre, st⟩ := hrel
    have R2 := Lib.hid hr2
    have RE := Lib.hid hre
    have hgl := hr2.lt
    have hgr := hre.lt
    clear hr2 hre
    have hlen := irN_len p k
    have hK61 : K ≤ 58 := by have := HK.out; omega
    by_cases hlt : k < K + 1
    · have hki : (k : Int) < (K : Int) + 1 := by omega
      have hq0 := RE.out.cell (fun _ => rfl) hlt (show 0 < 2 by omega)
      have hq1 := RE.out.cell (fun _ => rfl) hlt (show 1 < 2 by omega)
      simp only [Nat.add_zero, List.getElem?_cons_zero, List.getElem?_cons_succ] at hq0 hq1
      by_cases hyes : 2 ≤ k ∧ k % 2 = 0 ∧ beR p k = 0
      · have HY := Lib.hid (irN_yes hyes)
        obtain ⟨y1, y2, y3⟩ := hyes
        rw [y3] at hq0
        have hk2 : (2 : Int) ≤ (k : Int) := by omega
        have ha1 : (k : Int) % 2 = 0 := by omega
        have ha2 : (k : Int).tmod 2 = 0 := by rw [Int.tmod_eq_emod_of_nonneg (by omega)]; exact ha1
        clear y2 y3
        have hnew : ((wr.alloc (.cells #[.int .i64 0, .int .i64 (p : Int)] 150)).alloc (.cells #[.int .i64 (k : Int)] 2)).heap[wr.heap.size + 1]? = some (.cells #[.int .i64 (k : Int)] 2) := by
          have := heap_alloc_new (wr.alloc (.cells #[.int .i64 0, .int .i64 (p : Int)] 150)) (.cells #[.int .i64 (k : Int)] 2)
          simpa using this
        go_wp2_with (first
          | (at_builtin; refine wpList_push rfl (.tmp 32) (.tmp 34) rfl rfl w.heap.size g2 cap2 (irN p k).length (fun i => ((irN p k).getD i 0 : Int)) rfl ((R2.out.alloc _).alloc _) (wr.heap.size + 1) (k : Int) rfl hnew (by omega) ?_; intro gA kA wA rowA grA orA ltA
             have FA := Frame.ofGrown grA
             have stA := Lib.hid (((st.alloc (.cells #[.int .i64 0, .int .i64 (p : Int)] 150)).alloc (.cells #[.int .i64 (k : Int)] 2)).write FA (by omega) (by intro b hb; cases hb) (by intro s hs'; cases hs'))
             have REA := Lib.hid (((RE.out.alloc (.cells #[.int .i64 0, .int .i64 (p : Int)] 150)).alloc (.cells #[.int .i64 (k : Int)] 2)).keepF FA (by omega))
             have RA := Lib.hid rowA
             simp only [World.size_alloc] at orA
             clear rowA grA FA))
        go_roundw
        case rel =>
          refine ⟨k + 1, gA, kA, by omega, by rw [HY.out, List.length_append, List.length_singleton], by go_num, by omega, ?_, REA.out, stA.out⟩
          have e := RA.out.congr (f' := (fun i => ((irN p (k + 1)).getD i 0 : Int))) (fun i hi => (irN_app HY.out (by rw [HY.out, List.length_append, List.length_singleton]; exact hi)).symm)
          rw [HY.out, List.length_append, List.length_singleton]
          rw [HY.out] at e
          exact e
        case measure => simp [intOf] <;> omega
      · have HY := Lib.hid (irN_no hyes)
        obtain ⟨b, hb⟩ : ∃ b, beR p k = b := ⟨_, rfl⟩
        rw [hb] at hq0 hyes
        clear hb
        have RN := Lib.hid ((R2.out.alloc (.cells #[.int .i64 (b : Int), .int .i64 (p : Int)] 150)).congr (f' := (fun i => ((irN p (k + 1)).getD i 0 : Int))) (fun i hi => by rw [HY.out]))
        have REN := Lib.hid (RE.out.alloc (.cells #[.int .i64 (b : Int), .int .i64 (p : Int)] 150))
        have STN := Lib.hid (st.alloc (.cells #[.int .i64 (b : Int), .int .i64 (p : Int)] 150))
        by_cases h1 : k < 2
        · have hk2 : ¬ (2 : Int) ≤ (k : Int) := by omega
          clear hyes
          go_wp2
          go_roundw
          case rel => exact ⟨k + 1, g2, cap2, by omega, by rw [HY.out], by go_num, hne, by rw [HY.out]; rw [HY.out] at RN; exact RN.out, REN.out, STN.out⟩
          case measure => simp [intOf] <;> omega
        · have hk2 : (2 : Int) ≤ (k : Int) := by omega
          by_cases h3 : k % 2 = 0
          · have hbz : ¬ (b : Int) = 0 := by omega
            have hb0 : ((b : Int) == 0) = false := beq_eq_false_iff_ne.2 hbz
            have ha1 : (k : Int) % 2 = 0 := by omega
            have ha2 : (k : Int).tmod 2 = 0 := by rw [Int.tmod_eq_emod_of_nonneg (by omega)]; exact ha1
            clear hyes h3 h1
            go_wp2
            go_roundw
            case rel => exact ⟨k + 1, g2, cap2, by omega, by rw [HY.out], by go_num, hne, by rw [HY.out]; rw [HY.out] at RN; exact RN.out, REN.out, STN.out⟩
            case measure => simp [intOf] <;> omega
          · have ha1 : (k : Int) % 2 = 1 := by omega
            have ha2 : (k : Int).tmod 2 = 1 := by rw [Int.tmod_eq_emod_of_nonneg (by omega)]; exact ha1
            clear hyes h3 h1
            go_wp2
            go_roundw
            case rel => exact ⟨k + 1, g2, cap2, by omega, by rw [HY.out], by go_num, hne, by rw [HY.out]; rw [HY.out] at RN; exact RN.out, REN.out, STN.out⟩
            case measure => simp [intOf] <;> omega
    · obtain rfl : k = K + 1 := by omega
      have BB := st.1
      have hki : ¬ ((K + 1 : Nat) : Int) < (K : Int) + 1 := by omega
      go_wp2
      go_returns
      exact ⟨_, _, rfl, Sl.ofRowF R2.out (fun i hi => by have h9 := irN_lt (p := p) hi; simp only [List.getD_eq_getElem?_getD] at h9 ⊢; unfold inR; omega) (by unfold maxLen; omega), BB⟩
theorem IrregularOf_spec_ok (p K : Nat) (hp : primeN p = true) (hK : K + 3 = p) (w : World) :
    Calls Try.prog 64 #[.int .i64 (p : Int)] w fun e w' => ∃ a k, e = .returned (.tuple #[.slice a (irN p (K + 1)).length k, .int .i64 0]) ∧ Sl true w' w.heap.size w'.heap.size (.slice a (irN p (K + 1)).length k) (irN p (K + 1)).length (fun i => ((irN p (K + 1)).getD i 0 : Int)) ∧ Below w.heap.size w w' := by
  have hbd := primeN_bd hp
  have HP := Lib.hid hp
  have HK := Lib.hid hK
  have wq : IntKind.i64.wrap ((p : Int) - 3) = (p : Int) - 3 := by rw [IntKind.wrap_i64]; omega
  clear hK
  go_enter Try.func64, Try.ntmps64
  go_wp2_with (first
    | (go_at_call 138; refine (l06Prime_yes p HP.out _).mono ?_; rintro e w1 ⟨rfl, m1, rfl⟩
       have st := ((St.start w).drewN m1))
    | (go_at_call 139; refine (l10Bernoulli_any p K HP.out HK.out _).mono ?_; rintro e w2 ⟨g, cap, rfl, s2, b2⟩
       replace st := st.keep b2
       have R1 := Row.made w2 w.heap.size (fun i => ((irN p 2).getD i 0 : Int)) b2.size
       have hz2 := b2.size
       simp only [szN] at s2 hz2))
  obtain ⟨lo2, hlo2⟩ : ∃ l, w.heap.size = l := ⟨_, rfl⟩
  obtain ⟨hi2, hhi2⟩ : ∃ l, w2.heap.size = l := ⟨_, rfl⟩
  rw [hlo2, hhi2] at s2
  have HL := Lib.hid (show w.heap.size = lo2 ∧ w2.heap.size = hi2 from ⟨hlo2, hhi2⟩)
  have hl2 : (irN p 2).length = 0 := by
    have h0 : irN p 2 = irN p 1 := irN_no (by omega)
    have h1 : irN p 1 = irN p 0 := irN_no (by omega)
    rw [h0, h1]; rfl
  have R1' : Row (w2.alloc (.cells #[] 2)) w.heap.size w2.heap.size 0 (irN p 2).length (fun i => ((irN p 2).getD i 0 : Int)) := by rw [hl2]; exact R1
  have HRR := Lib.hid R1'
  have HST := Lib.hid ((st.addSl ⟨true, lo2, hi2, .slice (some ⟨g, 0, none⟩) (K + 1) cap, K + 1, fun i => (beR p i : Int)⟩ s2).alloc (.cells #[] 2))
  have HL2 := Lib.hid hl2
  clear s2 R1 R1' st b2 hl2 hlo2 hhi2
  go_loopw [5, 6] (fun s5 s6 wr => ∃ (k g2 cap2 : Nat), k % 2 = 0 ∧ 2 ≤ k ∧ k ≤ K + 2 ∧ s5 = .slice (some ⟨g2, 0, none⟩) (irN p k).length cap2 ∧ s6 = .int .i64 (k : Int) ∧ w2.heap.size ≤ g2 ∧ Row wr w.heap.size g2 cap2 (irN p k).length (fun i => ((irN p k).getD i 0 : Int)) ∧ St w wr [] [⟨true, lo2, hi2, .slice (some ⟨g, 0, none⟩) (K + 1) cap, K + 1, fun i => (beR p i : Int)⟩]) (fun _ s6 _ => K + 3 - (intOf s6).toNat)
  case atStart => exact ⟨2, w2.heap.size, _, rfl, by omega, by omega, by rw [HL2.out], rfl, Nat.le_refl _, HRR.out, HST.out⟩
  case round =>
    clear HRR HST HL2
    obtain ⟨k, g2, cap2, hev, hk2, hk, rfl, rfl, hg2, hr2, st⟩ := hrel
    have R2 := Lib.hid hr2
    have hgl := hr2.lt
    clear hr2
    have hlen := irN_len p k
    have HS := Lib.hid (irN_no (p := p) (k := k + 1) (by omega))
    by_cases hlt : k ≤ K
    · have hki : (k : Int) ≤ (p : Int) - 3 := by have := HK.out; omega
      have hki2 : (k : Int) < (K : Int) + 1 := by omega
      have hq0 := (st.sl 0 ⟨true, lo2, hi2, .slice (some ⟨g, 0, none⟩) (K + 1) cap, K + 1, fun i => (beR p i : Int)⟩ rfl).known (by show 0 < K + 1; omega)
      replace hq0 := hq0.2.2.2.1 k (by show k < K + 1; omega)
      dsimp only at hq0
      rw [Nat.zero_add] at hq0
      have hK61 : K ≤ 58 := by have := HK.out; omega
      by_cases hz : beR p k = 0
      · have HY := Lib.hid (irN_yes (p := p) (k := k) ⟨hk2, hev, hz⟩)
        rw [hz] at hq0
        clear hz
        go_wp2_with (first
          | (at_builtin; refine wpList_push rfl (.tmp 24) (.tmp 26) rfl rfl w.heap.size g2 cap2 (irN p k).length (fun i => ((irN p k).getD i 0 : Int)) rfl (R2.out.alloc _) wr.heap.size (k : Int) rfl (heap_alloc_new wr _) (by omega) ?_; intro gA kA wA rowA grA orA ltA
             have FA := Frame.ofGrown grA
             have hsl := (st.sl 0 ⟨true, lo2, hi2, .slice (some ⟨g, 0, none⟩) (K + 1) cap, K + 1, fun i => (beR p i : Int)⟩ rfl).size
             dsimp only at hsl
             have stA := Lib.hid ((st.alloc (.cells #[.int .i64 (k : Int)] 2)).write FA (by omega) (by intro b hb; cases hb) (by have := HL.out; intro s hs'; simp only [List.mem_cons, List.not_mem_nil, or_false] at hs'; rcases hs' with rfl; dsimp only; omega))
             have RA := Lib.hid rowA
             simp only [World.size_alloc] at orA
             clear rowA grA FA))
        go_roundw
        case rel =>
          refine ⟨k + 2, gA, kA, by omega, by omega, by omega, by rw [HS.out, HY.out, List.length_append, List.length_singleton], by go_num, by have := HL.out; omega, ?_, stA.out⟩
          have e := RA.out.congr (f' := (fun i => ((irN p (k + 2)).getD i 0 : Int))) (fun i hi => by rw [HS.out]; exact (irN_app HY.out (by rw [HY.out, List.length_append, List.length_singleton]; exact hi)).symm)
          rw [HS.out, HY.out, List.length_append, List.length_singleton]
          rw [HS.out, HY.out] at e
          exact e
        case measure => simp [intOf] <;> omega
      · have HY := Lib.hid (irN_no (p := p) (k := k) (fun h => hz h.2.2))
        have hbz : ¬ (beR p k : Int) = 0 := by omega
        have hb0 : ((beR p k : Int) == 0) = false := beq_eq_false_iff_ne.2 hbz
        clear hz
        go_wp2
        go_roundw
        case rel =>
          refine ⟨k + 2, g2, cap2, by omega, by omega, by omega, by rw [HS.out, HY.out], by go_num, hg2, ?_, st⟩
          rw [HS.out, HY.out]
          exact R2.out
        case measure => simp [intOf] <;> omega
    · have BB := st.1
      have hki : ¬ (k : Int) ≤ (p : Int) - 3 := by have := HK.out; omega
      have HE := Lib.hid (show irN p k = irN p (K + 1) from by
        by_cases e : k = K + 1
        · rw [e]
        · have : k = K + 2 := by omega
          rw [this]
          exact irN_no (by omega))
      have hK61 : K ≤ 58 := by have := HK.out; omega
      go_wp2
      go_returns
      rw [← HE.out]
      exact ⟨_, _, rfl, Sl.ofRowF R2.out (fun i hi => by have h9 := irN_lt (p := p) hi; simp only [List.getD_eq_getElem?_getD] at h9 ⊢; unfold inR; omega) (by unfold maxLen; omega), BB⟩
end
end Go.Proofs.Ytnhpodlcgkgpbaa
