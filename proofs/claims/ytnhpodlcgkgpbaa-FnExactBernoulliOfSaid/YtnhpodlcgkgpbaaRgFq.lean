/- Bernoulli numbers as fractions: bernoulliNumbers and BernoulliOf of the program. -/
import Derived.Test.YtnhpodlcgkgpbaaRgFr
import Derived.Test.YtnhpodlcgkgpbaaRow
import Derived.Test.YtnhpodlcgkgpbaaRgE
import Derived.Deep.RegionHeld3
import Derived.Handy
namespace Go.Proofs.Ytnhpodlcgkgpbaa
open Go.RowKit Go.ChangeShapes Go.Sort
set_option linter.unusedVariables false
set_option linter.unusedSimpArgs false
set_option maxRecDepth 100000
set_option maxHeartbeats 4000000

theorem infoFq : (Try.prog.info? 145).map (fun i => (i.zero, i.size, i.bytes)) = some (some (.agg #[.int .i64 0, .int .i64 0]), 2, 16) := by kernel_rfl
theorem RowE.oneFq (w : World) (base : Nat) (a b : Value) (F : Nat → List Value) (hb : base ≤ w.heap.size) (hF : F 0 = [a, b]) : RowE (w.alloc (.cells #[a, b] 145)) base 145 2 w.heap.size 1 1 F := by
  unfold RowE
  have e : (List.range 1).flatMap F = [a, b] := by simp [List.range_succ, hF]
  rw [e]
  exact ⟨by simp, .inr ⟨w.heap.size, 1, #[a, b], rfl, hb, heap_alloc_new w _, Nat.le_refl _, by decide, by simp, by simp⟩⟩
theorem wpList_pushFq {w : World} {ops : Array Oper} {rest : List Oper} {o : Oper} {a : Act} {Q : Exit → Act → World → Prop} (hgd : o.guard = none) (s x : Operand)
    (ho : o.op = .call { callee := .builtin .append, args := #[s, x], argTypes := #[146, 146] })
    (hty : o.type = 146) (base g cap n : Nat) (F : Nat → List Value) (hs : a.eval s = .slice (some ⟨g, 0, none⟩) n cap) (hown : RowE w base 145 2 g cap n F) (B : Nat) (y u : Int) (hx : a.eval x = .slice (some ⟨B, 0, none⟩) 1 1)
    (hb : w.heap[B]? = some (.cells #[.int .i64 y, .int .i64 u] 145 (0, 0))) (hn : n + 1 ≤ 1048576)
    (h : ∀ g' cap' w', RowE w' base 145 2 g' cap' (n + 1) (fun i => if i < n then F i else [.int .i64 y, .int .i64 u]) → w.grownBy w' (some g) → (g' = g ∨ g' = w.heap.size) → g' < w'.heap.size → wpList Try.prog ops Q rest (a.put o.dst (.slice (some ⟨g', 0, none⟩) (n + 1) cap')) w') : wpList Try.prog ops Q (o :: rest) a w := by
  obtain ⟨i0, hi, hz0, hz1, hz2⟩ := info_parts infoFq
  refine wpList_append_lies w hgd s x 146 ho base 145 i0 (.agg #[.int .i64 0, .int .i64 0]) 2 16 Try.underlying146 hi hz0 hz1 hz2 rfl (by decide) _ n _ hs hown ⟨B, 0, none⟩ 1 1 [.int .i64 y, .int .i64 u] hx rfl (World.news_of_block hb) (by intro v hv; simp only [List.mem_cons, List.not_mem_nil, or_false] at hv; rcases hv with rfl | rfl <;> rfl) (by decide) (by unfold maxLen; omega) (by omega) (Nat.le_trans hown.lt.1 (Nat.le_of_lt hown.lt.2)) _ rfl ?_
  intro g' cap' w' h1 h2 h3 h4
  refine h g' cap' w' ?_ h2 (h3.imp (fun e => (Option.some.inj e).symm) id) h4
  unfold RowE
  rw [List.range_succ, List.flatMap_append]
  have e1 : (List.range n).flatMap (fun i => if i < n then F i else [.int .i64 y, .int .i64 u]) = (List.range n).flatMap F := by
    rw [List.flatMap_def, List.flatMap_def]
    exact congrArg List.flatten (List.map_congr_left (fun j hj => by rw [if_pos (List.mem_range.1 hj)]))
  rw [e1]
  simpa using h1
theorem Box.set2Q {w : World} {b : Nat} {v0 v1 u0 u1 : Value} (h : Box w b [v0, v1]) : Box ((w.setCell ⟨b, 0, none⟩ u0).setCell ⟨b, 1, none⟩ u1) b [u0, u1] := by
  obtain ⟨h1, h2, h3⟩ := h
  have c0 := h2 0 _ rfl
  have c1 := h2 1 _ rfl
  refine ⟨by simpa using h1, ?_, ?_⟩
  · intro j v hj
    rcases j with _ | _ | j
    · simp only [List.getElem?_cons_zero, Option.some.injEq] at hj
      subst hj
      rw [setCell_ne _ _ _ _ _ (by decide)]
      exact World.cell?_setCell_same _ _ _ c0
    · simp only [List.getElem?_cons_succ, List.getElem?_cons_zero, Option.some.injEq] at hj
      subst hj
      exact World.cell?_setCell_same _ _ _ (by rw [setCell_ne _ _ _ _ _ (by decide)]; exact c1)
    · simp at hj
  · intro j
    simpa using h3 j
theorem bernQ_any (K : Nat) (hK : K ≤ 20) (w : World) :
    Calls Try.prog 133 #[.agg #[.int .i64 1, .int .i64 1], .int .i64 (K : Int)] w fun e w' => ∃ (g cap : Nat), e = .returned (.slice (some ⟨g, 0, none⟩) (K + 1) cap) ∧ RowE w' (w.heap.size + 1) 145 2 g cap (K + 1) (fun i => [.int .i64 (beQ i).1, .int .i64 (beQ i).2]) ∧ Below w.heap.size w w' := by
  have hK20 := hK
  clear hK
  have st := ((St.start w).alloc (.cells #[.int .i64 1, .int .i64 1] 145)).addBox w.heap.size [.int .i64 1, .int .i64 1] (Box.made _ _ _ _ (fun j v h => by simpa using h))
  obtain ⟨x0, x1⟩ := (st.box 0 (w.heap.size, [.int .i64 1, .int .i64 1]) rfl).cell2
  have r0 := RowE.oneFq (w.alloc (.cells #[.int .i64 1, .int .i64 1] 145)) (w.heap.size + 1) (.int .i64 1) (.int .i64 1) (fun i => [.int .i64 (beQ i).1, .int .i64 (beQ i).2]) (by simp) (by rfl)
  simp only [World.size_alloc] at r0
  have HR := Lib.hid r0
  have HST := Lib.hid (st.alloc (.cells #[.int .i64 1, .int .i64 1] 145))
  clear st r0
  go_enter Try.func133, Try.ntmps133
  go_wp2
  clear x0 x1
  go_loopw [5, 6] (fun s5 s6 wr => ∃ (j g cap : Nat), j ≤ K ∧ s5 = .slice (some ⟨g, 0, none⟩) (j + 1) cap ∧ s6 = .int .i64 ((j : Int) + 2) ∧ RowE wr (w.heap.size + 1) 145 2 g cap (j + 1) (fun i => [.int .i64 (beQ i).1, .int .i64 (beQ i).2]) ∧ St w wr [(w.heap.size, [.int .i64 1, .int .i64 1])] []) (fun _ s6 _ => K + 2 - (intOf s6).toNat)
  case atStart => exact ⟨0, _, _, Nat.zero_le _, rfl, rfl, HR.out, HST.out⟩
  case round =>
    clear HR HST
    rename World => wo
    obtain ⟨j, g, cap, hj, rfl, rfl, hr, st⟩ := hrel
    have R1 := Lib.hid hr
    have hgl := hr.lt
    have hwo := (st.box 0 (w.heap.size, [.int .i64 1, .int .i64 1]) rfl).1
    dsimp only at hwo
    clear hr
    by_cases hlt : j < K
    · obtain ⟨x0, x1⟩ := (st.box 0 (w.heap.size, [.int .i64 1, .int .i64 1]) rfl).cell2
      have hc1 : (j : Int) + 2 ≤ (K : Int) + 1 := by omega
      have st2 := (st.alloc (.cells #[.int .i64 1, .int .i64 1] 145)).addBox wo.heap.size [.int .i64 1, .int .i64 1] (Box.made _ _ _ _ (fun j v h => by simpa using h))
      have HS2 := Lib.hid st2
      have HR2 := Lib.hid (R1.out.alloc (.cells #[.int .i64 1, .int .i64 1] 145))
      clear st st2 R1
      go_wp2
      clear x0 x1
      go_loopw [8, 9] (fun s8 s9 wr => ∃ t : Nat, t ≤ j ∧ s9 = .int .i64 ((t : Int) + 1) ∧ s8 = .int .i64 ((chB (j + 2) t : Int)) ∧ RowE wr (w.heap.size + 1) 145 2 g cap (j + 1) (fun i => [.int .i64 (beQ i).1, .int .i64 (beQ i).2]) ∧ St w wr [(wo.heap.size, [.int .i64 (smQ (blQ j) (j + 2) t).1, .int .i64 (smQ (blQ j) (j + 2) t).2]), (w.heap.size, [.int .i64 1, .int .i64 1])] []) (fun _ s9 _ => j + 1 - (intOf s9).toNat)
      case atStart => exact ⟨0, Nat.zero_le _, rfl, rfl, HR2.out, HS2.out⟩
      case round =>
        clear HS2 HR2
        obtain ⟨t, ht, rfl, rfl, hr, st⟩ := hrel
        have R1 := Lib.hid hr
        have hgl2 := hr.lt
        clear hr
        have hsl := (st.box 0 (wo.heap.size, [.int .i64 (smQ (blQ j) (j + 2) t).1, .int .i64 (smQ (blQ j) (j + 2) t).2]) rfl).1
        dsimp only at hsl
        by_cases htj : t < j
        · have htji : (t : Int) + 1 < (j : Int) + 1 := by omega
          have htp : (0 : Int) ≤ (t : Int) + 1 := by omega
          have htn : ¬ (t : Int) + 1 < 0 := by omega
          have hchb := ch_bd (j + 2) (by omega) t (by omega)
          have HST := Lib.hid ((beQ_all (k := j) (by omega)).st t htj)
          rw [blQ_get j (t + 1) (by omega)] at HST
          have HC1 := Lib.hid (show smQ (blQ j) (j + 2) (t + 1) = plF (smQ (blQ j) (j + 2) t) (tiF (beQ (t + 1)) (chB (j + 2) t : Nat)) by rw [← blQ_get j (t + 1) (by omega)]; rfl)
          have HC2 := Lib.hid (show ((chB (j + 2) (t + 1) : Nat) : Int) = ((chB (j + 2) t : Nat) : Int) * ((j : Int) + 2 - ((t : Int) + 1)) / ((t : Int) + 1 + 1) by
            have e : ((j : Int) + 2 - ((t : Int) + 1)) = ((j + 2 - (t + 1) : Nat) : Int) := by omega
            have e2 : ((t : Int) + 1 + 1) = ((t + 2 : Nat) : Int) := by omega
            rw [e, e2, ← Int.natCast_mul, ← Int.natCast_ediv]; rfl)
          have hcm : ((chB (j + 2) t * (j + 2 - (t + 1)) : Nat) : Int) = ((chB (j + 2) t : Nat) : Int) * ((j : Int) + 2 - ((t : Int) + 1)) := by
            have e : ((j : Int) + 2 - ((t : Int) + 1)) = ((j + 2 - (t + 1) : Nat) : Int) := by omega
            rw [e, Int.natCast_mul]
          have hm0 : 0 ≤ ((chB (j + 2) t : Nat) : Int) * ((j : Int) + 2 - ((t : Int) + 1)) := by rw [← hcm]; omega
          have hm1 : ((chB (j + 2) t : Nat) : Int) * ((j : Int) + 2 - ((t : Int) + 1)) ≤ 2000000000000000000 := by rw [← hcm]; omega
          clear hcm
          obtain ⟨C, hC⟩ : ∃ C, chB (j + 2) t = C := ⟨_, rfl⟩
          rw [hC] at hchb HC1 HC2 hm0 hm1 HST
          rw [hC]
          clear hC
          obtain ⟨B1, B2, hB⟩ : ∃ B1 B2, beQ (t + 1) = (B1, B2) := ⟨_, _, rfl⟩
          obtain ⟨Y1, Y2, hY⟩ : ∃ Y1 Y2, smQ (blQ j) (j + 2) t = (Y1, Y2) := ⟨_, _, rfl⟩
          rw [hB] at HC1 HST
          rw [hY] at HC1 HST st
          have HBB := Lib.hid (show (beQ (t + 1)).1 = B1 ∧ (beQ (t + 1)).2 = B2 from by rw [hB]; exact ⟨rfl, rfl⟩)
          clear hB hY
          dsimp only at st
          have HT := Lib.hid (fun w' => timesQ_any B1 B2 (C : Int) HST.out.1 w')
          obtain ⟨U1, U2, hU⟩ : ∃ U1 U2, tiF (B1, B2) (C : Int) = (U1, U2) := ⟨_, _, rfl⟩
          rw [hU] at HT HC1 HST
          dsimp only at HT
          have HP := Lib.hid (fun w' => plusQ_any Y1 Y2 U1 U2 HST.out.2 w')
          rw [← HC1.out] at HP
          obtain ⟨V1, V2, hV⟩ : ∃ V1 V2, smQ (blQ j) (j + 2) (t + 1) = (V1, V2) := ⟨_, _, rfl⟩
          rw [hV] at HP
          dsimp only at HP
          have HY2 := Lib.hid hV
          clear hU hV HC1 HST
          have hd := Int.ediv_nonneg (a := (C : Int) * ((j : Int) + 2 - ((t : Int) + 1))) (b := (t : Int) + 1 + 1) hm0 (by omega)
          have hd2 := Int.ediv_le_self ((t : Int) + 1 + 1) hm0
          go_wp2_with fail
          replace st := st.drew
          have R2 := Lib.hid (R1.out.drewN 1)
          clear R1
          refine wp_region_held_drew (S := fun wy => RowE wy (w.heap.size + 1) 145 2 g cap (j + 1) (fun i => [.int .i64 (beQ i).1, .int .i64 (beQ i).2]) ∧ St w wy [(w.heap.size, [.int .i64 1, .int .i64 1])] []) (by kernel_rfl) (⟨R2.out, st.subR (fun b hb => List.mem_cons_of_mem _ hb) (fun _ h => h)⟩) (fun hHeld => ?_)
          refine wpAnyH_take (i := 2) (v := .slice (some ⟨g, 0, none⟩) (j + 1) cap) rfl (by kernel_rfl) (by kernel_rfl) (by kernel_rfl) (fun _ _ _ h => h) (Or.inl ⟨by rfl, ?_⟩) hHeld ?_
          · intro wy hy; go_simp
          (try simp only [Act.put, List.getElem_toArray, List.getElem_cons_zero, List.getElem_cons_succ, List.setIfInBounds_toArray, List.set_cons_zero, List.set_cons_succ])
          refine wpAnyH_take (i := 3) (v := .int .i64 ((t : Int) + 1)) rfl (by kernel_rfl) (by kernel_rfl) (by kernel_rfl) (fun _ _ _ h => h) (Or.inl ⟨by rfl, ?_⟩) hHeld ?_
          · intro wy hy; go_simp
          (try simp only [Act.put, List.getElem_toArray, List.getElem_cons_zero, List.getElem_cons_succ, List.setIfInBounds_toArray, List.set_cons_zero, List.set_cons_succ])
          refine wpAnyH_take (i := 4) (v := .pointer (some ⟨g, (t + 1) * 2, none⟩)) rfl (by kernel_rfl) (by kernel_rfl) (by kernel_rfl) (fun _ _ _ h => h) (Or.inl ⟨by rfl, ?_⟩) hHeld ?_
          · intro wy hy; go_simp
          (try simp only [Act.put, List.getElem_toArray, List.getElem_cons_zero, List.getElem_cons_succ, List.setIfInBounds_toArray, List.set_cons_zero, List.set_cons_succ])
          refine wpAnyH_take (i := 5) (v := .agg #[.int .i64 B1, .int .i64 B2]) rfl (by kernel_rfl) (by kernel_rfl) (by kernel_rfl) (fun _ _ _ h => h) (Or.inl ⟨by rfl, ?_⟩) hHeld ?_
          · intro wy hy; have hq0 := hy.1.cell (fun _ => rfl) (show t + 1 < j + 1 by omega) (show 0 < 2 by omega); have hq1 := hy.1.cell (fun _ => rfl) (show t + 1 < j + 1 by omega) (show 1 < 2 by omega); (try simp only [Nat.add_zero, List.getElem?_cons_zero, List.getElem?_cons_succ] at hq0 hq1); rw [HBB.out.1] at hq0; rw [HBB.out.2] at hq1; go_simp
          (try simp only [Act.put, List.getElem_toArray, List.getElem_cons_zero, List.getElem_cons_succ, List.setIfInBounds_toArray, List.set_cons_zero, List.set_cons_succ])
          refine wpAnyH_take (i := 6) (v := .iface 145 (.agg #[.int .i64 B1, .int .i64 B2])) rfl (by kernel_rfl) (by kernel_rfl) (by kernel_rfl) (fun _ _ _ h => h) (Or.inl ⟨by rfl, ?_⟩) hHeld ?_
          · intro wy hy; go_simp
          (try simp only [Act.put, List.getElem_toArray, List.getElem_cons_zero, List.getElem_cons_succ, List.setIfInBounds_toArray, List.set_cons_zero, List.set_cons_succ])
          refine wpAnyH_take (i := 7) (v := .int .i64 (C : Int)) rfl (by kernel_rfl) (by kernel_rfl) (by kernel_rfl) (fun _ _ _ h => h) (Or.inl ⟨by rfl, ?_⟩) hHeld ?_
          · intro wy hy; go_simp
          (try simp only [Act.put, List.getElem_toArray, List.getElem_cons_zero, List.getElem_cons_succ, List.setIfInBounds_toArray, List.set_cons_zero, List.set_cons_succ])
          refine wpAnyH_ready (rs := [0, 8]) (by kernel_rfl) (by simp) ?_
          refine AllReadyH.cons rfl (fun K hK => ?_) (AllReadyH.cons rfl (fun K hK => ?_) AllReadyH.nil)
          · rw [if_pos (by rfl)]
            (try simp only [List.getElem_toArray, List.getElem_cons_zero, List.getElem_cons_succ])
            obtain ⟨q0, q1⟩ := (st.box 0 (wo.heap.size, [.int .i64 Y1, .int .i64 Y2]) rfl).cell2
            dsimp only at q0 q1
            go_simp
            refine hK.out _ _ hHeld (fun hHeld => ?_)
            clear hK K
            (try simp only [Act.put, List.getElem_toArray, List.getElem_cons_zero, List.getElem_cons_succ, List.setIfInBounds_toArray, List.set_cons_zero, List.set_cons_succ])
            refine wpAnyH_take (i := 1) (v := .iface 145 (.agg #[.int .i64 Y1, .int .i64 Y2])) rfl (by kernel_rfl) (by kernel_rfl) (by kernel_rfl) (fun _ _ _ h => h) (Or.inl ⟨by rfl, ?_⟩) hHeld ?_
            · intro wy hy; go_simp
            (try simp only [Act.put, List.getElem_toArray, List.getElem_cons_zero, List.getElem_cons_succ, List.setIfInBounds_toArray, List.set_cons_zero, List.set_cons_succ])
            refine wpAnyH_ready (rs := [8]) (by kernel_rfl) (by simp) ?_
            refine AllReadyH.cons rfl (fun K hK => ?_) AllReadyH.nil
            rw [if_pos (by rfl)]
            (try simp only [List.getElem_toArray, List.getElem_cons_zero, List.getElem_cons_succ])
            go_wp2_with (go_at_call 232; refine (HT.out _).mono ?_; rintro e w6 ⟨rfl, b6⟩)
            replace st := st.keep b6
            refine hK.out _ _ ⟨hHeld.1.keep b6 (Nat.le_refl _), hHeld.2.keep b6⟩ (fun hHeld => ?_)
            clear b6
            clear hK K
            (try simp only [Act.put, List.getElem_toArray, List.getElem_cons_zero, List.getElem_cons_succ, List.setIfInBounds_toArray, List.set_cons_zero, List.set_cons_succ])
            refine wpAnyH_ready (rs := [9]) (by kernel_rfl) (by simp) ?_
            refine AllReadyH.cons rfl (fun K hK => ?_) AllReadyH.nil
            rw [if_pos (by rfl)]
            (try simp only [List.getElem_toArray, List.getElem_cons_zero, List.getElem_cons_succ])
            go_wp2_with (go_at_call 231; refine (HP.out _).mono ?_; rintro e w7 ⟨rfl, b7⟩)
            replace st := st.keep b7
            refine hK.out _ _ ⟨hHeld.1.keep b7 (Nat.le_refl _), hHeld.2.keep b7⟩ (fun hHeld => ?_)
            clear b7
            clear hK K
            (try simp only [Act.put, List.getElem_toArray, List.getElem_cons_zero, List.getElem_cons_succ, List.setIfInBounds_toArray, List.set_cons_zero, List.set_cons_succ])
            refine wpAnyH_ready (rs := [10]) (by kernel_rfl) (by simp) ?_
            refine AllReadyH.cons rfl (fun K hK => ?_) AllReadyH.nil
            rw [if_pos (by rfl)]
            (try simp only [List.getElem_toArray, List.getElem_cons_zero, List.getElem_cons_succ])
            have R9 := hHeld.1
            obtain ⟨q0, q1⟩ := (st.box 0 (wo.heap.size, [.int .i64 Y1, .int .i64 Y2]) rfl).cell2
            have qz := (st.box 0 (wo.heap.size, [.int .i64 Y1, .int .i64 Y2]) rfl).2.2
            dsimp only at q0 q1 qz
            go_simp
            have F9 := ((Frame.refl wo.heap.size (wo.heap.size + 1) w7).setCell (p := ⟨wo.heap.size, 0, none⟩) (Nat.le_refl _) (Nat.lt_succ_self _) (.int .i64 V1)).setCell (p := ⟨wo.heap.size, 1, none⟩) (Nat.le_refl _) (Nat.lt_succ_self _) (.int .i64 V2)
            replace st := st.headR ((st.box 0 (wo.heap.size, [.int .i64 Y1, .int .i64 Y2]) rfl).set2Q (u0 := .int .i64 V1) (u1 := .int .i64 V2)) F9 (by omega) (by intro q hq; simp only [List.mem_cons, List.not_mem_nil, or_false] at hq; rcases hq with rfl <;> dsimp only <;> omega) (by intro q hq; cases hq)
            refine hK.out _ _ ⟨R9.keepF F9 (by omega), st.subR (fun b hb => List.mem_cons_of_mem _ hb) (fun _ h => h)⟩ (fun hHeld => ?_)
            clear hK K
            (try simp only [Act.put, List.getElem_toArray, List.getElem_cons_zero, List.getElem_cons_succ, List.setIfInBounds_toArray, List.set_cons_zero, List.set_cons_succ])
            refine wpAnyH_done (by kernel_rfl) ?_ _
            have R9 := Lib.hid hHeld.1
            clear hHeld
            go_wp2
            go_roundw
            case rel =>
              refine ⟨t + 1, by omega, by go_num, by rw [HC2.out], R9.out, ?_⟩
              rw [HY2.out]
              exact st
            case measure => simp [intOf] <;> omega
          · rw [if_pos (by rfl)]
            (try simp only [List.getElem_toArray, List.getElem_cons_zero, List.getElem_cons_succ])
            go_wp2_with (go_at_call 232; refine (HT.out _).mono ?_; rintro e w6 ⟨rfl, b6⟩)
            replace st := st.keep b6
            refine hK.out _ _ ⟨hHeld.1.keep b6 (Nat.le_refl _), hHeld.2.keep b6⟩ (fun hHeld => ?_)
            clear b6
            clear hK K
            (try simp only [Act.put, List.getElem_toArray, List.getElem_cons_zero, List.getElem_cons_succ, List.setIfInBounds_toArray, List.set_cons_zero, List.set_cons_succ])
            refine wpAnyH_ready (rs := [0]) (by kernel_rfl) (by simp) ?_
            refine AllReadyH.cons rfl (fun K hK => ?_) AllReadyH.nil
            rw [if_pos (by rfl)]
            (try simp only [List.getElem_toArray, List.getElem_cons_zero, List.getElem_cons_succ])
            obtain ⟨q0, q1⟩ := (st.box 0 (wo.heap.size, [.int .i64 Y1, .int .i64 Y2]) rfl).cell2
            dsimp only at q0 q1
            go_simp
            refine hK.out _ _ hHeld (fun hHeld => ?_)
            clear hK K
            (try simp only [Act.put, List.getElem_toArray, List.getElem_cons_zero, List.getElem_cons_succ, List.setIfInBounds_toArray, List.set_cons_zero, List.set_cons_succ])
            refine wpAnyH_take (i := 1) (v := .iface 145 (.agg #[.int .i64 Y1, .int .i64 Y2])) rfl (by kernel_rfl) (by kernel_rfl) (by kernel_rfl) (fun _ _ _ h => h) (Or.inl ⟨by rfl, ?_⟩) hHeld ?_
            · intro wy hy; go_simp
            (try simp only [Act.put, List.getElem_toArray, List.getElem_cons_zero, List.getElem_cons_succ, List.setIfInBounds_toArray, List.set_cons_zero, List.set_cons_succ])
            refine wpAnyH_ready (rs := [9]) (by kernel_rfl) (by simp) ?_
            refine AllReadyH.cons rfl (fun K hK => ?_) AllReadyH.nil
            rw [if_pos (by rfl)]
            (try simp only [List.getElem_toArray, List.getElem_cons_zero, List.getElem_cons_succ])
            go_wp2_with (go_at_call 231; refine (HP.out _).mono ?_; rintro e w7 ⟨rfl, b7⟩)
            replace st := st.keep b7
            refine hK.out _ _ ⟨hHeld.1.keep b7 (Nat.le_refl _), hHeld.2.keep b7⟩ (fun hHeld => ?_)
            clear b7
            clear hK K
            (try simp only [Act.put, List.getElem_toArray, List.getElem_cons_zero, List.getElem_cons_succ, List.setIfInBounds_toArray, List.set_cons_zero, List.set_cons_succ])
            refine wpAnyH_ready (rs := [10]) (by kernel_rfl) (by simp) ?_
            refine AllReadyH.cons rfl (fun K hK => ?_) AllReadyH.nil
            rw [if_pos (by rfl)]
            (try simp only [List.getElem_toArray, List.getElem_cons_zero, List.getElem_cons_succ])
            have R9 := hHeld.1
            obtain ⟨q0, q1⟩ := (st.box 0 (wo.heap.size, [.int .i64 Y1, .int .i64 Y2]) rfl).cell2
            have qz := (st.box 0 (wo.heap.size, [.int .i64 Y1, .int .i64 Y2]) rfl).2.2
            dsimp only at q0 q1 qz
            go_simp
            have F9 := ((Frame.refl wo.heap.size (wo.heap.size + 1) w7).setCell (p := ⟨wo.heap.size, 0, none⟩) (Nat.le_refl _) (Nat.lt_succ_self _) (.int .i64 V1)).setCell (p := ⟨wo.heap.size, 1, none⟩) (Nat.le_refl _) (Nat.lt_succ_self _) (.int .i64 V2)
            replace st := st.headR ((st.box 0 (wo.heap.size, [.int .i64 Y1, .int .i64 Y2]) rfl).set2Q (u0 := .int .i64 V1) (u1 := .int .i64 V2)) F9 (by omega) (by intro q hq; simp only [List.mem_cons, List.not_mem_nil, or_false] at hq; rcases hq with rfl <;> dsimp only <;> omega) (by intro q hq; cases hq)
            refine hK.out _ _ ⟨R9.keepF F9 (by omega), st.subR (fun b hb => List.mem_cons_of_mem _ hb) (fun _ h => h)⟩ (fun hHeld => ?_)
            clear hK K
            (try simp only [Act.put, List.getElem_toArray, List.getElem_cons_zero, List.getElem_cons_succ, List.setIfInBounds_toArray, List.set_cons_zero, List.set_cons_succ])
            refine wpAnyH_done (by kernel_rfl) ?_ _
            have R9 := Lib.hid hHeld.1
            clear hHeld
            go_wp2
            go_roundw
            case rel =>
              refine ⟨t + 1, by omega, by go_num, by rw [HC2.out], R9.out, ?_⟩
              rw [HY2.out]
              exact st
            case measure => simp [intOf] <;> omega
        · obtain rfl : t = j := by omega
          have BQ := beQ_all (k := t) (by omega)
          have HNEG := Lib.hid BQ.neg
          have HOV := Lib.hid BQ.ov
          have HE0 := Lib.hid (beQ_succ t)
          clear BQ
          obtain ⟨Y1, Y2, hY⟩ : ∃ Y1 Y2, smQ (blQ t) (t + 2) t = (Y1, Y2) := ⟨_, _, rfl⟩
          have HN := Lib.hid (show nxQ (blQ t) (t + 2) = ovF (tiF (smQ (blQ t) (t + 2) t) (-1)) (t + 2 : Nat) from rfl)
          rw [hY] at HNEG HOV HN st
          clear hY
          dsimp only at st
          have HT := Lib.hid (fun w' => timesQ_any Y1 Y2 (-1) HNEG.out w')
          obtain ⟨U1, U2, hU⟩ : ∃ U1 U2, tiF (Y1, Y2) (-1) = (U1, U2) := ⟨_, _, rfl⟩
          rw [hU] at HT HOV HN
          dsimp only at HT
          have HO := Lib.hid (fun w' => overQ_any U1 U2 (t + 2 : Nat) HOV.out w')
          rw [← HN.out, ← HE0.out] at HO
          obtain ⟨E1, E2, hE⟩ : ∃ E1 E2, beQ (t + 1) = (E1, E2) := ⟨_, _, rfl⟩
          rw [hE] at HO
          have HE := Lib.hid hE
          have e2 : ((t + 2 : Nat) : Int) = (t : Int) + 2 := by omega
          rw [e2] at HO
          dsimp only at HO
          clear hU hE e2 HNEG HOV HE0 HN
          obtain ⟨q0, q1⟩ := (st.box 0 (wo.heap.size, [.int .i64 Y1, .int .i64 Y2]) rfl).cell2
          dsimp only at q0 q1
          go_wp2_with (first
            | (go_at_call 232; refine (HT.out _).mono ?_; rintro e w6 ⟨rfl, b6⟩
               replace st := st.keep b6
               have R2 := Lib.hid (R1.out.keep b6 (Nat.le_refl _))
               clear b6 q0 q1 R1)
            | (go_at_call 230; refine (HO.out _).mono ?_; rintro e w7 ⟨rfl, b7⟩
               replace st := st.keep b7
               have R3 := Lib.hid ((R2.out.keep b7 (Nat.le_refl _)))
               have hb7 := b7.size
               clear b7 R2)
            | (at_builtin; refine wpList_pushFq rfl (.tmp 44) (.tmp 51) rfl rfl (w.heap.size + 1) g cap (t + 1) (fun i => [.int .i64 (beQ i).1, .int .i64 (beQ i).2]) rfl (R3.out.alloc _) w7.heap.size E1 E2 rfl (heap_alloc_new w7 _) (by omega) ?_; intro gA kA wA rowA grA orA ltA
               have stA := Lib.hid ((st.alloc (.cells #[.int .i64 E1, .int .i64 E2] 145)).write (Frame.ofGrown grA) (by omega) (by intro q hq; simp only [List.mem_cons, List.not_mem_nil, or_false] at hq; rcases hq with rfl | rfl <;> dsimp only <;> omega) (by intro s hs'; cases hs'))
               have RA := Lib.hid rowA
               clear rowA grA))
          go_roundw
          case rel =>
            refine ⟨t + 1, gA, kA, by omega, rfl, by go_num, RA.out.congr (fun i hi => ?_), stA.out.subR (fun b hb => by simp only [List.mem_cons, List.not_mem_nil, or_false] at hb ⊢; exact .inr hb) (fun _ h => h)⟩
            by_cases e : i < t + 1
            · rw [if_pos e]
            · obtain rfl : i = t + 1 := by omega
              rw [if_neg e]; rw [HE.out]
          case measure => simp [intOf] <;> omega
    · obtain rfl : j = K := by omega
      have BB := st.1
      have hc1 : ¬ (j : Int) + 2 ≤ (j : Int) + 1 := by omega
      go_wp2
      go_ret
      exact ⟨g, cap, rfl, R1.out, BB⟩
theorem BernoulliOf_impl_no (k : Int) (h : k < 0 ∨ 20 < k) (w : World) :
    Calls Try.prog 57 #[.int .i64 k] w fun e w' => e = .returned (.tuple #[.int .i64 0, .int .i64 0, .int .i64 2]) ∧ Below w.heap.size w w' := by
  by_cases h0 : k < 0
  · clear h
    go_enter Try.func57, Try.ntmps57
    go_wp2
    go_returns
    exact ⟨rfl, Below.refl _ _⟩
  · have h20 : 20 < k := by omega
    clear h
    go_enter Try.func57, Try.ntmps57
    go_wp2
    go_returns
    exact ⟨rfl, Below.refl _ _⟩
theorem BernoulliOf_impl_ok (K : Nat) (hK : K ≤ 20) (w : World) :
    Calls Try.prog 57 #[.int .i64 (K : Int)] w fun e w' => e = .returned (.tuple #[.int .i64 (beQ K).1, .int .i64 (beQ K).2, .int .i64 0]) ∧ Below w.heap.size w w' := by
  have HB := Lib.hid (fun w' => bernQ_any K hK w')
  go_enter Try.func57, Try.ntmps57
  go_wp2_with (first
    | (go_at_call 133; refine (HB.out _).mono ?_; rintro e w2 ⟨g, cap, rfl, r2, b2⟩
       have q0 := r2.cell (fun _ => rfl) (show K < K + 1 by omega) (show 0 < 2 by omega)
       have q1 := r2.cell (fun _ => rfl) (show K < K + 1 by omega) (show 1 < 2 by omega)
       simp only [Nat.add_zero, List.getElem?_cons_zero, List.getElem?_cons_succ] at q0 q1
       have hz2 := b2.size
       clear r2))
  go_region
  go_wp2
  go_returns
  exact ⟨rfl, by go_grown⟩
end Go.Proofs.Ytnhpodlcgkgpbaa
