/- Bernoulli numbers modulo primes: bernoulliNumbers of the program. -/
import Derived.Test.YtonopjbccdpbhaaRgH
import Derived.Test.YtonopjbccdpbhaaRow
import Derived.Test.YtonopjbccdpbhaaRgE
import Derived.Deep.RegionHeld3
import Derived.Handy
namespace Go.Proofs.Ytonopjbccdpbhaa
open Go.RowKit Go.ChangeShapes Go.Sort
set_option linter.unusedVariables false
set_option linter.unusedSimpArgs false
set_option maxRecDepth 100000
set_option maxHeartbeats 4000000

theorem infoPr : (Try.prog.info? 139).map (fun i => (i.zero, i.size, i.bytes)) = some (some (.agg #[.int .i64 0, .int .i64 0]), 2, 16) := by kernel_rfl
theorem RowE.onePr (w : World) (base : Nat) (a b : Value) (F : Nat → List Value) (hb : base ≤ w.heap.size) (hF : F 0 = [a, b]) : RowE (w.alloc (.cells #[a, b] 139)) base 139 2 w.heap.size 1 1 F := by
  unfold RowE
  have e : (List.range 1).flatMap F = [a, b] := by simp [List.range_succ, hF]
  rw [e]
  exact ⟨by simp, .inr ⟨w.heap.size, 1, #[a, b], rfl, hb, heap_alloc_new w _, Nat.le_refl _, by decide, by simp, by simp⟩⟩
theorem wpList_pushPr {w : World} {ops : Array Oper} {rest : List Oper} {o : Oper} {a : Act} {Q : Exit → Act → World → Prop} (hgd : o.guard = none) (s x : Operand)
    (ho : o.op = .call { callee := .builtin .append, args := #[s, x], argTypes := #[140, 140] })
    (hty : o.type = 140) (base g cap n : Nat) (F : Nat → List Value) (hs : a.eval s = .slice (some ⟨g, 0, none⟩) n cap) (hown : RowE w base 139 2 g cap n F) (B : Nat) (y u : Int) (hx : a.eval x = .slice (some ⟨B, 0, none⟩) 1 1)
    (hb : w.heap[B]? = some (.cells #[.int .i64 y, .int .i64 u] 139 (0, 0))) (hn : n + 1 ≤ 1048576)
    (h : ∀ g' cap' w', RowE w' base 139 2 g' cap' (n + 1) (fun i => if i < n then F i else [.int .i64 y, .int .i64 u]) → w.grownBy w' (some g) → (g' = g ∨ g' = w.heap.size) → g' < w'.heap.size → wpList Try.prog ops Q rest (a.put o.dst (.slice (some ⟨g', 0, none⟩) (n + 1) cap')) w') : wpList Try.prog ops Q (o :: rest) a w := by
  obtain ⟨i0, hi, hz0, hz1, hz2⟩ := info_parts infoPr
  refine wpList_append_lies w hgd s x 140 ho base 139 i0 (.agg #[.int .i64 0, .int .i64 0]) 2 16 Try.underlying140 hi hz0 hz1 hz2 rfl (by decide) _ n _ hs hown ⟨B, 0, none⟩ 1 1 [.int .i64 y, .int .i64 u] hx rfl (World.news_of_block hb) (by intro v hv; simp only [List.mem_cons, List.not_mem_nil, or_false] at hv; rcases hv with rfl | rfl <;> rfl) (by decide) (by unfold maxLen; omega) (by omega) (Nat.le_trans hown.lt.1 (Nat.le_of_lt hown.lt.2)) _ rfl ?_
  intro g' cap' w' h1 h2 h3 h4
  refine h g' cap' w' ?_ h2 (h3.imp (fun e => (Option.some.inj e).symm) id) h4
  unfold RowE
  rw [List.range_succ, List.flatMap_append]
  have e1 : (List.range n).flatMap (fun i => if i < n then F i else [.int .i64 y, .int .i64 u]) = (List.range n).flatMap F := by
    rw [List.flatMap_def, List.flatMap_def]
    exact congrArg List.flatten (List.map_congr_left (fun j hj => by rw [if_pos (List.mem_range.1 hj)]))
  rw [e1]
  simpa using h1
theorem Box.set2R {w : World} {b : Nat} {v0 v1 u0 u1 : Value} (h : Box w b [v0, v1]) : Box ((w.setCell ⟨b, 0, none⟩ u0).setCell ⟨b, 1, none⟩ u1) b [u0, u1] := by
  obtain ⟨h1, h2, h3⟩ := h
  have c0 := h2 0 _ rfl
  have c1 := h2 1 _ rfl
  refine ⟨by simpa using h1, ?_, ?_⟩
  · intro j v hj
    rcases j with _ | _ | j
    · simp only [List.getElem?_cons_zero, Option.some.injEq] at hj
      subst hj
      rw [setCell_ne _ _ _ _ _ (by decide)]
      exact World.cell?_setCell_same _ _ _ c0
    · simp only [List.getElem?_cons_succ, List.getElem?_cons_zero, Option.some.injEq] at hj
      subst hj
      exact World.cell?_setCell_same _ _ _ (by rw [setCell_ne _ _ _ _ _ (by decide)]; exact c1)
    · simp at hj
  · intro j
    simpa using h3 j
theorem bernR_any (p K : Nat) (hp : primeN p = true) (hKp : K + 3 = p) (w : World) :
    Calls Try.prog 183 #[.agg #[.int .i64 1, .int .i64 (p : Int)], .int .i64 (K : Int)] w fun e w' => ∃ (g cap : Nat), e = .returned (.slice (some ⟨g, 0, none⟩) (K + 1) cap) ∧ RowE w' (w.heap.size + 1) 139 2 g cap (K + 1) (fun i => [.int .i64 (beR p i : Int), .int .i64 (p : Int)]) ∧ Below w.heap.size w w' := by
  have hbd := primeN_bd hp
  have hK58 : K + 3 = p := hKp
  clear hKp
  have st := ((St.start w).alloc (.cells #[.int .i64 1, .int .i64 (p : Int)] 139)).addBox w.heap.size [.int .i64 1, .int .i64 (p : Int)] (Box.made _ _ _ _ (fun j v h => by simpa using h))
  obtain ⟨x0, x1⟩ := (st.box 0 (w.heap.size, [.int .i64 1, .int .i64 (p : Int)]) rfl).cell2
  have r0 := RowE.onePr (w.alloc (.cells #[.int .i64 1, .int .i64 (p : Int)] 139)) (w.heap.size + 1) (.int .i64 1) (.int .i64 (p : Int)) (fun i => [.int .i64 (beR p i : Int), .int .i64 (p : Int)]) (by simp) (by rfl)
  simp only [World.size_alloc] at r0
  have HR := Lib.hid r0
  have HST := Lib.hid (st.alloc (.cells #[.int .i64 1, .int .i64 (p : Int)] 139))
  clear st r0
  go_enter Try.func183, Try.ntmps183
  go_wp2
  clear x0 x1
  go_loopw [5, 6] (fun s5 s6 wr => ∃ (j g cap : Nat), j ≤ K ∧ s5 = .slice (some ⟨g, 0, none⟩) (j + 1) cap ∧ s6 = .int .i64 ((j : Int) + 2) ∧ RowE wr (w.heap.size + 1) 139 2 g cap (j + 1) (fun i => [.int .i64 (beR p i : Int), .int .i64 (p : Int)]) ∧ St w wr [(w.heap.size, [.int .i64 1, .int .i64 (p : Int)])] []) (fun _ s6 _ => K + 2 - (intOf s6).toNat)
  case atStart => exact ⟨0, _, _, Nat.zero_le _, rfl, rfl, HR.out, HST.out⟩
  case round =>
    clear HR HST
    rename World => wo
    obtain ⟨j, g, cap, hj, rfl, rfl, hr, st⟩ := hrel
    have R1 := Lib.hid hr
    have hgl := hr.lt
    have hwo := (st.box 0 (w.heap.size, [.int .i64 1, .int .i64 (p : Int)]) rfl).1
    dsimp only at hwo
    clear hr
    by_cases hlt : j < K
    · obtain ⟨x0, x1⟩ := (st.box 0 (w.heap.size, [.int .i64 1, .int .i64 (p : Int)]) rfl).cell2
      have hc1 : (j : Int) + 2 ≤ (K : Int) + 1 := by omega
      have st2 := (st.alloc (.cells #[.int .i64 1, .int .i64 (p : Int)] 139)).addBox wo.heap.size [.int .i64 1, .int .i64 (p : Int)] (Box.made _ _ _ _ (fun j v h => by simpa using h))
      have HS2 := Lib.hid st2
      have HR2 := Lib.hid (R1.out.alloc (.cells #[.int .i64 1, .int .i64 (p : Int)] 139))
      clear st st2 R1
      go_wp2
      clear x0 x1
      go_loopw [8, 9] (fun s8 s9 wr => ∃ t : Nat, t ≤ j ∧ s9 = .int .i64 ((t : Int) + 1) ∧ s8 = .int .i64 ((chB (j + 2) t : Int)) ∧ RowE wr (w.heap.size + 1) 139 2 g cap (j + 1) (fun i => [.int .i64 (beR p i : Int), .int .i64 (p : Int)]) ∧ St w wr [(wo.heap.size, [.int .i64 (smP p (blP p j) (j + 2) t : Int), .int .i64 (p : Int)]), (w.heap.size, [.int .i64 1, .int .i64 (p : Int)])] []) (fun _ s9 _ => j + 1 - (intOf s9).toNat)
      case atStart => exact ⟨0, Nat.zero_le _, rfl, rfl, HR2.out, HS2.out⟩
      case round =>
        clear HS2 HR2
        obtain ⟨t, ht, rfl, rfl, hr, st⟩ := hrel
        have R1 := Lib.hid hr
        have hgl2 := hr.lt
        clear hr
        have hsl := (st.box 0 (wo.heap.size, [.int .i64 (smP p (blP p j) (j + 2) t : Int), .int .i64 (p : Int)]) rfl).1
        dsimp only at hsl
        by_cases htj : t < j
        · have htji : (t : Int) + 1 < (j : Int) + 1 := by omega
          have htp : (0 : Int) ≤ (t : Int) + 1 := by omega
          have htn : ¬ (t : Int) + 1 < 0 := by omega
          have hchb := ch_bd (j + 2) (by omega) t (by omega)
          have HEL := Lib.hid (bl_get p j (t + 1) (by omega))
          have hb1 := be_lt (p := p) (by omega) (t + 1)
          have hb2 := smP_lt (p := p) (by omega) (blP p j) (j + 2) t
          have HC1 := Lib.hid (show smP p (blP p j) (j + 2) (t + 1) = (smP p (blP p j) (j + 2) t + beR p (t + 1) * (chB (j + 2) t % p) % p) % p by rw [← HEL.out]; rfl)
          have HC2 := Lib.hid (show ((chB (j + 2) (t + 1) : Nat) : Int) = ((chB (j + 2) t : Nat) : Int) * ((j : Int) + 2 - ((t : Int) + 1)) / ((t : Int) + 1 + 1) by
            have e : ((j : Int) + 2 - ((t : Int) + 1)) = ((j + 2 - (t + 1) : Nat) : Int) := by omega
            have e2 : ((t : Int) + 1 + 1) = ((t + 2 : Nat) : Int) := by omega
            rw [e, e2, ← Int.natCast_mul, ← Int.natCast_ediv]; rfl)
          have hcm : ((chB (j + 2) t * (j + 2 - (t + 1)) : Nat) : Int) = ((chB (j + 2) t : Nat) : Int) * ((j : Int) + 2 - ((t : Int) + 1)) := by
            have e : ((j : Int) + 2 - ((t : Int) + 1)) = ((j + 2 - (t + 1) : Nat) : Int) := by omega
            rw [e, Int.natCast_mul]
          have hm0 : 0 ≤ ((chB (j + 2) t : Nat) : Int) * ((j : Int) + 2 - ((t : Int) + 1)) := by rw [← hcm]; omega
          have hm1 : ((chB (j + 2) t : Nat) : Int) * ((j : Int) + 2 - ((t : Int) + 1)) ≤ 2000000000000000000 := by rw [← hcm]; omega
          clear hcm HEL
          obtain ⟨C, hC⟩ : ∃ C, chB (j + 2) t = C := ⟨_, rfl⟩
          obtain ⟨B, hB⟩ : ∃ B, beR p (t + 1) = B := ⟨_, rfl⟩
          obtain ⟨Y, hY⟩ : ∃ Y, smP p (blP p j) (j + 2) t = Y := ⟨_, rfl⟩
          rw [hC] at hchb HC1 HC2 hm0 hm1
          rw [hB] at hb1 HC1
          rw [hY] at hb2 HC1 st
          have HBB := Lib.hid hB
          rw [hC]
          clear hC hB hY
          have HT := Lib.hid (fun w' => timesR_any p B (C % p) (C : Int) (by omega) (by omega) hb1 (by omega) (by omega) (by rw [Int.natCast_emod]) w')
          have HP := Lib.hid (fun w' => plusR_any p Y (B * (C % p) % p) (by omega) (by omega) hb2 (Nat.mod_lt _ (by omega)) w')
          rw [← HC1.out] at HP
          obtain ⟨R, hR⟩ : ∃ R, B * (C % p) % p = R := ⟨_, rfl⟩
          rw [hR] at HT HP
          obtain ⟨Y2, hY2⟩ : ∃ Y2, smP p (blP p j) (j + 2) (t + 1) = Y2 := ⟨_, rfl⟩
          rw [hY2] at HP
          have HY2 := Lib.hid hY2
          clear hR hY2 HC1
          have hd := Int.ediv_nonneg (a := (C : Int) * ((j : Int) + 2 - ((t : Int) + 1))) (b := (t : Int) + 1 + 1) hm0 (by omega)
          have hd2 := Int.ediv_le_self ((t : Int) + 1 + 1) hm0
          go_wp2_with fail
          replace st := st.drew
          have R2 := Lib.hid (R1.out.drewN 1)
          clear R1
          refine wp_region_held_drew (S := fun wy => RowE wy (w.heap.size + 1) 139 2 g cap (j + 1) (fun i => [.int .i64 (beR p i : Int), .int .i64 (p : Int)]) ∧ St w wy [(w.heap.size, [.int .i64 1, .int .i64 (p : Int)])] []) (by kernel_rfl) (⟨R2.out, st.subR (fun b hb => List.mem_cons_of_mem _ hb) (fun _ h => h)⟩) (fun hHeld => ?_)
          refine wpAnyH_take (i := 2) (v := .slice (some ⟨g, 0, none⟩) (j + 1) cap) rfl (by kernel_rfl) (by kernel_rfl) (by kernel_rfl) (fun _ _ _ h => h) (Or.inl ⟨by rfl, ?_⟩) hHeld ?_
          · intro wy hy; go_simp
          (try simp only [Act.put, List.getElem_toArray, List.getElem_cons_zero, List.getElem_cons_succ, List.setIfInBounds_toArray, List.set_cons_zero, List.set_cons_succ])
          refine wpAnyH_take (i := 3) (v := .int .i64 ((t : Int) + 1)) rfl (by kernel_rfl) (by kernel_rfl) (by kernel_rfl) (fun _ _ _ h => h) (Or.inl ⟨by rfl, ?_⟩) hHeld ?_
          · intro wy hy; go_simp
          (try simp only [Act.put, List.getElem_toArray, List.getElem_cons_zero, List.getElem_cons_succ, List.setIfInBounds_toArray, List.set_cons_zero, List.set_cons_succ])
          refine wpAnyH_take (i := 4) (v := .pointer (some ⟨g, (t + 1) * 2, none⟩)) rfl (by kernel_rfl) (by kernel_rfl) (by kernel_rfl) (fun _ _ _ h => h) (Or.inl ⟨by rfl, ?_⟩) hHeld ?_
          · intro wy hy; go_simp
          (try simp only [Act.put, List.getElem_toArray, List.getElem_cons_zero, List.getElem_cons_succ, List.setIfInBounds_toArray, List.set_cons_zero, List.set_cons_succ])
          refine wpAnyH_take (i := 5) (v := .agg #[.int .i64 (B : Int), .int .i64 (p : Int)]) rfl (by kernel_rfl) (by kernel_rfl) (by kernel_rfl) (fun _ _ _ h => h) (Or.inl ⟨by rfl, ?_⟩) hHeld ?_
          · intro wy hy; have hq0 := hy.1.cell (fun _ => rfl) (show t + 1 < j + 1 by omega) (show 0 < 2 by omega); have hq1 := hy.1.cell (fun _ => rfl) (show t + 1 < j + 1 by omega) (show 1 < 2 by omega); (try simp only [Nat.add_zero, List.getElem?_cons_zero, List.getElem?_cons_succ] at hq0 hq1); rw [HBB.out] at hq0; go_simp
          (try simp only [Act.put, List.getElem_toArray, List.getElem_cons_zero, List.getElem_cons_succ, List.setIfInBounds_toArray, List.set_cons_zero, List.set_cons_succ])
          refine wpAnyH_take (i := 6) (v := .iface 139 (.agg #[.int .i64 (B : Int), .int .i64 (p : Int)])) rfl (by kernel_rfl) (by kernel_rfl) (by kernel_rfl) (fun _ _ _ h => h) (Or.inl ⟨by rfl, ?_⟩) hHeld ?_
          · intro wy hy; go_simp
          (try simp only [Act.put, List.getElem_toArray, List.getElem_cons_zero, List.getElem_cons_succ, List.setIfInBounds_toArray, List.set_cons_zero, List.set_cons_succ])
          refine wpAnyH_take (i := 7) (v := .int .i64 (C : Int)) rfl (by kernel_rfl) (by kernel_rfl) (by kernel_rfl) (fun _ _ _ h => h) (Or.inl ⟨by rfl, ?_⟩) hHeld ?_
          · intro wy hy; go_simp
          (try simp only [Act.put, List.getElem_toArray, List.getElem_cons_zero, List.getElem_cons_succ, List.setIfInBounds_toArray, List.set_cons_zero, List.set_cons_succ])
          refine wpAnyH_ready (rs := [0, 8]) (by kernel_rfl) (by simp) ?_
          refine AllReadyH.cons rfl (fun K hK => ?_) (AllReadyH.cons rfl (fun K hK => ?_) AllReadyH.nil)
          · rw [if_pos (by rfl)]
            (try simp only [List.getElem_toArray, List.getElem_cons_zero, List.getElem_cons_succ])
            obtain ⟨q0, q1⟩ := (st.box 0 (wo.heap.size, [.int .i64 (Y : Int), .int .i64 (p : Int)]) rfl).cell2
            dsimp only at q0 q1
            go_simp
            refine hK.out _ _ hHeld (fun hHeld => ?_)
            clear hK K
            (try simp only [Act.put, List.getElem_toArray, List.getElem_cons_zero, List.getElem_cons_succ, List.setIfInBounds_toArray, List.set_cons_zero, List.set_cons_succ])
            refine wpAnyH_take (i := 1) (v := .iface 139 (.agg #[.int .i64 (Y : Int), .int .i64 (p : Int)])) rfl (by kernel_rfl) (by kernel_rfl) (by kernel_rfl) (fun _ _ _ h => h) (Or.inl ⟨by rfl, ?_⟩) hHeld ?_
            · intro wy hy; go_simp
            (try simp only [Act.put, List.getElem_toArray, List.getElem_cons_zero, List.getElem_cons_succ, List.setIfInBounds_toArray, List.set_cons_zero, List.set_cons_succ])
            refine wpAnyH_ready (rs := [8]) (by kernel_rfl) (by simp) ?_
            refine AllReadyH.cons rfl (fun K hK => ?_) AllReadyH.nil
            rw [if_pos (by rfl)]
            (try simp only [List.getElem_toArray, List.getElem_cons_zero, List.getElem_cons_succ])
            go_wp2_with (go_at_call 243; refine (HT.out _).mono ?_; rintro e w6 ⟨rfl, b6⟩)
            replace st := st.keep b6
            refine hK.out _ _ ⟨hHeld.1.keep b6 (Nat.le_refl _), hHeld.2.keep b6⟩ (fun hHeld => ?_)
            clear b6
            clear hK K
            (try simp only [Act.put, List.getElem_toArray, List.getElem_cons_zero, List.getElem_cons_succ, List.setIfInBounds_toArray, List.set_cons_zero, List.set_cons_succ])
            refine wpAnyH_ready (rs := [9]) (by kernel_rfl) (by simp) ?_
            refine AllReadyH.cons rfl (fun K hK => ?_) AllReadyH.nil
            rw [if_pos (by rfl)]
            (try simp only [List.getElem_toArray, List.getElem_cons_zero, List.getElem_cons_succ])
            go_wp2_with (go_at_call 242; refine (HP.out _).mono ?_; rintro e w7 ⟨rfl, b7⟩)
            replace st := st.keep b7
            refine hK.out _ _ ⟨hHeld.1.keep b7 (Nat.le_refl _), hHeld.2.keep b7⟩ (fun hHeld => ?_)
            clear b7
            clear hK K
            (try simp only [Act.put, List.getElem_toArray, List.getElem_cons_zero, List.getElem_cons_succ, List.setIfInBounds_toArray, List.set_cons_zero, List.set_cons_succ])
            refine wpAnyH_ready (rs := [10]) (by kernel_rfl) (by simp) ?_
            refine AllReadyH.cons rfl (fun K hK => ?_) AllReadyH.nil
            rw [if_pos (by rfl)]
            (try simp only [List.getElem_toArray, List.getElem_cons_zero, List.getElem_cons_succ])
            have R9 := hHeld.1
            obtain ⟨q0, q1⟩ := (st.box 0 (wo.heap.size, [.int .i64 (Y : Int), .int .i64 (p : Int)]) rfl).cell2
            have qz := (st.box 0 (wo.heap.size, [.int .i64 (Y : Int), .int .i64 (p : Int)]) rfl).2.2
            dsimp only at q0 q1 qz
            go_simp
            have F9 := ((Frame.refl wo.heap.size (wo.heap.size + 1) w7).setCell (p := ⟨wo.heap.size, 0, none⟩) (Nat.le_refl _) (Nat.lt_succ_self _) (.int .i64 (Y2 : Int))).setCell (p := ⟨wo.heap.size, 1, none⟩) (Nat.le_refl _) (Nat.lt_succ_self _) (.int .i64 (p : Int))
            replace st := st.headR ((st.box 0 (wo.heap.size, [.int .i64 (Y : Int), .int .i64 (p : Int)]) rfl).set2R (u0 := .int .i64 (Y2 : Int)) (u1 := .int .i64 (p : Int))) F9 (by omega) (by intro q hq; simp only [List.mem_cons, List.not_mem_nil, or_false] at hq; rcases hq with rfl <;> dsimp only <;> omega) (by intro q hq; cases hq)
            refine hK.out _ _ ⟨R9.keepF F9 (by omega), st.subR (fun b hb => List.mem_cons_of_mem _ hb) (fun _ h => h)⟩ (fun hHeld => ?_)
            clear hK K
            (try simp only [Act.put, List.getElem_toArray, List.getElem_cons_zero, List.getElem_cons_succ, List.setIfInBounds_toArray, List.set_cons_zero, List.set_cons_succ])
            refine wpAnyH_done (by kernel_rfl) ?_ _
            have R9 := Lib.hid hHeld.1
            clear hHeld
            go_wp2
            go_roundw
            case rel =>
              refine ⟨t + 1, by omega, by go_num, by rw [HC2.out], R9.out, ?_⟩
              rw [HY2.out]
              exact st
            case measure => simp [intOf] <;> omega
          · rw [if_pos (by rfl)]
            (try simp only [List.getElem_toArray, List.getElem_cons_zero, List.getElem_cons_succ])
            go_wp2_with (go_at_call 243; refine (HT.out _).mono ?_; rintro e w6 ⟨rfl, b6⟩)
            replace st := st.keep b6
            refine hK.out _ _ ⟨hHeld.1.keep b6 (Nat.le_refl _), hHeld.2.keep b6⟩ (fun hHeld => ?_)
            clear b6
            clear hK K
            (try simp only [Act.put, List.getElem_toArray, List.getElem_cons_zero, List.getElem_cons_succ, List.setIfInBounds_toArray, List.set_cons_zero, List.set_cons_succ])
            refine wpAnyH_ready (rs := [0]) (by kernel_rfl) (by simp) ?_
            refine AllReadyH.cons rfl (fun K hK => ?_) AllReadyH.nil
            rw [if_pos (by rfl)]
            (try simp only [List.getElem_toArray, List.getElem_cons_zero, List.getElem_cons_succ])
            obtain ⟨q0, q1⟩ := (st.box 0 (wo.heap.size, [.int .i64 (Y : Int), .int .i64 (p : Int)]) rfl).cell2
            dsimp only at q0 q1
            go_simp
            refine hK.out _ _ hHeld (fun hHeld => ?_)
            clear hK K
            (try simp only [Act.put, List.getElem_toArray, List.getElem_cons_zero, List.getElem_cons_succ, List.setIfInBounds_toArray, List.set_cons_zero, List.set_cons_succ])
            refine wpAnyH_take (i := 1) (v := .iface 139 (.agg #[.int .i64 (Y : Int), .int .i64 (p : Int)])) rfl (by kernel_rfl) (by kernel_rfl) (by kernel_rfl) (fun _ _ _ h => h) (Or.inl ⟨by rfl, ?_⟩) hHeld ?_
            · intro wy hy; go_simp
            (try simp only [Act.put, List.getElem_toArray, List.getElem_cons_zero, List.getElem_cons_succ, List.setIfInBounds_toArray, List.set_cons_zero, List.set_cons_succ])
            refine wpAnyH_ready (rs := [9]) (by kernel_rfl) (by simp) ?_
            refine AllReadyH.cons rfl (fun K hK => ?_) AllReadyH.nil
            rw [if_pos (by rfl)]
            (try simp only [List.getElem_toArray, List.getElem_cons_zero, List.getElem_cons_succ])
            go_wp2_with (go_at_call 242; refine (HP.out _).mono ?_; rintro e w7 ⟨rfl, b7⟩)
            replace st := st.keep b7
            refine hK.out _ _ ⟨hHeld.1.keep b7 (Nat.le_refl _), hHeld.2.keep b7⟩ (fun hHeld => ?_)
            clear b7
            clear hK K
            (try simp only [Act.put, List.getElem_toArray, List.getElem_cons_zero, List.getElem_cons_succ, List.setIfInBounds_toArray, List.set_cons_zero, List.set_cons_succ])
            refine wpAnyH_ready (rs := [10]) (by kernel_rfl) (by simp) ?_
            refine AllReadyH.cons rfl (fun K hK => ?_) AllReadyH.nil
            rw [if_pos (by rfl)]
            (try simp only [List.getElem_toArray, List.getElem_cons_zero, List.getElem_cons_succ])
            have R9 := hHeld.1
            obtain ⟨q0, q1⟩ := (st.box 0 (wo.heap.size, [.int .i64 (Y : Int), .int .i64 (p : Int)]) rfl).cell2
            have qz := (st.box 0 (wo.heap.size, [.int .i64 (Y : Int), .int .i64 (p : Int)]) rfl).2.2
            dsimp only at q0 q1 qz
            go_simp
            have F9 := ((Frame.refl wo.heap.size (wo.heap.size + 1) w7).setCell (p := ⟨wo.heap.size, 0, none⟩) (Nat.le_refl _) (Nat.lt_succ_self _) (.int .i64 (Y2 : Int))).setCell (p := ⟨wo.heap.size, 1, none⟩) (Nat.le_refl _) (Nat.lt_succ_self _) (.int .i64 (p : Int))
            replace st := st.headR ((st.box 0 (wo.heap.size, [.int .i64 (Y : Int), .int .i64 (p : Int)]) rfl).set2R (u0 := .int .i64 (Y2 : Int)) (u1 := .int .i64 (p : Int))) F9 (by omega) (by intro q hq; simp only [List.mem_cons, List.not_mem_nil, or_false] at hq; rcases hq with rfl <;> dsimp only <;> omega) (by intro q hq; cases hq)
            refine hK.out _ _ ⟨R9.keepF F9 (by omega), st.subR (fun b hb => List.mem_cons_of_mem _ hb) (fun _ h => h)⟩ (fun hHeld => ?_)
            clear hK K
            (try simp only [Act.put, List.getElem_toArray, List.getElem_cons_zero, List.getElem_cons_succ, List.setIfInBounds_toArray, List.set_cons_zero, List.set_cons_succ])
            refine wpAnyH_done (by kernel_rfl) ?_ _
            have R9 := Lib.hid hHeld.1
            clear hHeld
            go_wp2
            go_roundw
            case rel =>
              refine ⟨t + 1, by omega, by go_num, by rw [HC2.out], R9.out, ?_⟩
              rw [HY2.out]
              exact st
            case measure => simp [intOf] <;> omega
        · obtain rfl : t = j := by omega
          have hb2 := smP_lt (p := p) (by omega) (blP p t) (t + 2) t
          have HT := Lib.hid (fun w' => timesR_any p (smP p (blP p t) (t + 2) t) (p - 1) (-1) (by omega) (by omega) hb2 (by omega) (by omega) (by rw [show ((-1 : Int) % (p : Int)) = (p : Int) - 1 from by rw [show (-1 : Int) = ((p : Int) - 1) + (p : Int) * (-1) by omega, Int.add_mul_emod_self_left, Int.emod_eq_of_lt (by omega) (by omega)]]; omega) w')
          have HO := Lib.hid (fun w' => overR_any p (smP p (blP p t) (t + 2) t * (p - 1) % p) (t + 2) (by omega) (by omega) (Nat.mod_lt _ (by omega)) (by omega) w')
          have eN : smP p (blP p t) (t + 2) t * (p - 1) % p * pwr p (t + 2) (p - 2) % p = beR p (t + 1) := by rw [be_succ]; rfl
          rw [eN] at HO
          obtain ⟨R, hR⟩ : ∃ R, smP p (blP p t) (t + 2) t * (p - 1) % p = R := ⟨_, rfl⟩
          rw [hR] at HT HO
          obtain ⟨Y, hY⟩ : ∃ Y, smP p (blP p t) (t + 2) t = Y := ⟨_, rfl⟩
          rw [hY] at HT st
          obtain ⟨E, hE⟩ : ∃ E, beR p (t + 1) = E := ⟨_, rfl⟩
          rw [hE] at HO
          have HE := Lib.hid hE
          have e2 : ((t + 2 : Nat) : Int) = (t : Int) + 2 := by omega
          rw [e2] at HO
          clear eN hR hY hE e2 hb2
          obtain ⟨q0, q1⟩ := (st.box 0 (wo.heap.size, [.int .i64 (Y : Int), .int .i64 (p : Int)]) rfl).cell2
          dsimp only at q0 q1
          go_wp2_with (first
            | (go_at_call 243; refine (HT.out _).mono ?_; rintro e w6 ⟨rfl, b6⟩
               replace st := st.keep b6
               have R2 := Lib.hid (R1.out.keep b6 (Nat.le_refl _))
               clear b6 q0 q1 R1)
            | (go_at_call 241; refine (HO.out _).mono ?_; rintro e w7 ⟨rfl, b7⟩
               replace st := st.keep b7
               have R3 := Lib.hid ((R2.out.keep b7 (Nat.le_refl _)))
               have hb7 := b7.size
               clear b7 R2)
            | (at_builtin; refine wpList_pushPr rfl (.tmp 44) (.tmp 51) rfl rfl (w.heap.size + 1) g cap (t + 1) (fun i => [.int .i64 (beR p i : Int), .int .i64 (p : Int)]) rfl (R3.out.alloc _) w7.heap.size (E : Int) (p : Int) rfl (heap_alloc_new w7 _) (by omega) ?_; intro gA kA wA rowA grA orA ltA
               have stA := Lib.hid ((st.alloc (.cells #[.int .i64 (E : Int), .int .i64 (p : Int)] 139)).write (Frame.ofGrown grA) (by omega) (by intro q hq; simp only [List.mem_cons, List.not_mem_nil, or_false] at hq; rcases hq with rfl | rfl <;> dsimp only <;> omega) (by intro s hs'; cases hs'))
               have RA := Lib.hid rowA
               clear rowA grA))
          go_roundw
          case rel =>
            refine ⟨t + 1, gA, kA, by omega, rfl, by go_num, RA.out.congr (fun i hi => ?_), stA.out.subR (fun b hb => by simp only [List.mem_cons, List.not_mem_nil, or_false] at hb ⊢; exact .inr hb) (fun _ h => h)⟩
            by_cases e : i < t + 1
            · rw [if_pos e]
            · obtain rfl : i = t + 1 := by omega
              rw [if_neg e]; rw [HE.out]
          case measure => simp [intOf] <;> omega
    · obtain rfl : j = K := by omega
      have BB := st.1
      have hc1 : ¬ (j : Int) + 2 ≤ (j : Int) + 1 := by omega
      go_wp2
      go_ret
      exact ⟨g, cap, rfl, R1.out, BB⟩
end Go.Proofs.Ytonopjbccdpbhaa
