/- Bernoulli numbers modulo primes: l10Bernoulli of the model. -/
import Derived.Test.YtonopjbccdpbhaaRgB
import Derived.Test.YtonopjbccdpbhaaRow
import Derived.Test.YtonopjbccdpbhaaRgW
import Derived.Test.YtonopjbccdpbhaaEqS
import Derived.Deep.RegionHeld3
namespace Go.Proofs.Ytonopjbccdpbhaa
open Go.RowKit Go.ChangeShapes Go.Sort
set_option linter.unusedVariables false
set_option linter.unusedSimpArgs false
set_option maxRecDepth 100000
set_option maxHeartbeats 4000000

theorem pw_below (p x : Nat) (h2 : 2 ≤ p) (h61 : p ≤ 61) (hx : x < p) (w' : World) : Calls Try.prog 184 #[.int .i64 (p : Int), .int .i64 (x : Int), .int .i64 ((p : Int) - 2)] w' fun e w'' => e = .returned (.int .i64 (pwr p x (p - 2) : Nat)) ∧ Below w'.heap.size w' w'' := by
  have h := (l08Power_any p x (p - 2) h2 h61 hx (by omega) w')
  have e : ((p - 2 : Nat) : Int) = (p : Int) - 2 := by omega
  rw [e] at h
  exact h.mono fun _ _ ⟨he, m, hw⟩ => ⟨he, hw ▸ below_drewN (Below.refl _ _) m⟩
theorem pw_lt (p x k : Nat) (h2 : 2 ≤ p) : pwr p x k < p := by
  cases k with
  | zero => show 1 < p; omega
  | succ k => exact Nat.mod_lt _ (by omega)
theorem mulC {a b p : Nat} (ha : a < p) (hb : b < p) (h61 : p ≤ 61) : 0 ≤ (a : Int) * b ∧ (a : Int) * b ≤ 3721 ∧ (a : Int) * b % (p : Int) = ((a * b % p : Nat) : Int) ∧ ((a : Int) * b).tmod (p : Int) = ((a * b % p : Nat) : Int) := by
  have h := Nat.mul_le_mul (show a ≤ 61 by omega) (show b ≤ 61 by omega)
  have e : ((a * b : Nat) : Int) = (a : Int) * b := Int.natCast_mul _ _
  have h0 : 0 ≤ (a : Int) * b := by omega
  have e2 : (a : Int) * b % (p : Int) = ((a * b % p : Nat) : Int) := by rw [Int.natCast_emod, e]
  exact ⟨h0, by omega, e2, by rw [Int.tmod_eq_emod_of_nonneg h0, e2]⟩
theorem l10Bernoulli_any (p K : Nat) (hp : primeN p = true) (hKp : K + 3 = p) (w : World) :
    Calls Try.prog 141 #[.int .i64 (p : Int)] w fun e w' => ∃ (g cap : Nat), e = .returned (.slice (some ⟨g, 0, none⟩) (K + 1) cap) ∧ Sl true w' w.heap.size w'.heap.size (.slice (some ⟨g, 0, none⟩) (K + 1) cap) (K + 1) (fun i => (beR p i : Int)) ∧ Below w.heap.size w w' := by
  have hbd := primeN_bd hp
  have hpp : ¬ p = 0 := by omega
  have hpi : ¬ (p : Int) = 0 := by omega
  have hw3 : (p : Int) - 3 = (K : Int) := by omega
  have HW3 := Lib.hid hw3
  clear hw3
  have R0 : Row (w.alloc (.cells #[.int .i64 1] 2)) w.heap.size w.heap.size 1 1 (fun i => (beR p i : Int)) :=
    ⟨by simp, .inr ⟨w.heap.size, 1, #[.int .i64 1], rfl, Nat.le_refl _, heap_alloc_new w _, Nat.le_refl _, by decide, by simp, by simp [beR, blP]⟩⟩
  have HR := Lib.hid R0
  have HST := Lib.hid ((St.start w).alloc (.cells #[.int .i64 1] 2))
  clear R0
  go_enter Try.func141, Try.ntmps141
  go_wp2
  go_loopw [3, 4] (fun s3 s4 wr => ∃ (j g cap : Nat), j ≤ K ∧ s3 = .slice (some ⟨g, 0, none⟩) (j + 1) cap ∧ s4 = .int .i64 ((j : Int) + 1) ∧ Row wr w.heap.size g cap (j + 1) (fun i => (beR p i : Int)) ∧ St w wr [] []) (fun _ s4 _ => K + 2 - (intOf s4).toNat)
  case atStart => exact ⟨0, _, _, Nat.zero_le _, rfl, rfl, HR.out, HST.out⟩
  case round =>
    clear HR HST
    rename World => wo
    obtain ⟨j, g, cap, hj, rfl, rfl, hr, st⟩ := hrel
    have R1 := Lib.hid hr
    clear hr
    by_cases hlt : j < K
    · have hc1 : (j : Int) + 1 ≤ (p : Int) - 3 := by omega
      have HST := Lib.hid st
      clear st
      go_wp2
      go_loopw [5, 6, 7] (fun s5 s6 s7 wr => ∃ t : Nat, t ≤ j + 1 ∧ s7 = .int .i64 (t : Int) ∧ s5 = .int .i64 (((smM p (blP p j) (j + 1) t).1 : Nat) : Int) ∧ s6 = .int .i64 (((smM p (blP p j) (j + 1) t).2 : Nat) : Int) ∧ Row wr w.heap.size g cap (j + 1) (fun i => (beR p i : Int)) ∧ St w wr [] []) (fun _ _ s7 _ => j + 1 - (intOf s7).toNat)
      case atStart => exact ⟨0, Nat.zero_le _, rfl, rfl, rfl, R1.out, HST.out⟩
      case round =>
        clear HST R1
        obtain ⟨t, ht, rfl, rfl, rfl, hr, st⟩ := hrel
        have hsm := smM_lt (p := p) (by omega) (blP p j) (j + 1) t
        have R1 := Lib.hid hr
        clear hr
        by_cases htj : t < j + 1
        · have htji : (t : Int) < (j : Int) + 1 := by omega
          have hck : wr.cell? ⟨g, t, none⟩ = some (.int .i64 (beR p t : Int)) := by
            have := (Sl.ofRowF R1.out (fun i _ => by have := be_lt (p := p) (by omega) i; unfold inR; omega) (by unfold maxLen; omega)).known (by omega)
            have := this.2.2.2.1 t htj
            rwa [Nat.zero_add] at this
          have hbe := be_lt (p := p) (by omega) t
          have HE := Lib.hid (show (smM p (blP p j) (j + 1) (t + 1)).1 = ((smM p (blP p j) (j + 1) t).1 + (smM p (blP p j) (j + 1) t).2 * beR p t) % p ∧ (smM p (blP p j) (j + 1) (t + 1)).2 = (smM p (blP p j) (j + 1) t).2 * ((j + 2 - t) % p) % p * pwr p (t + 1) (p - 2) % p from by rw [← bl_get p j t (by omega)]; exact ⟨rfl, rfl⟩)
          obtain ⟨A, hA⟩ : ∃ A, (smM p (blP p j) (j + 1) t).1 = A := ⟨_, rfl⟩
          obtain ⟨C, hC⟩ : ∃ C, (smM p (blP p j) (j + 1) t).2 = C := ⟨_, rfl⟩
          obtain ⟨B, hB⟩ : ∃ B, beR p t = B := ⟨_, rfl⟩
          rw [hA, hC] at hsm HE
          rw [hA, hC]
          rw [hB] at hbe HE hck
          obtain ⟨P, hP⟩ : ∃ P, pwr p (t + 1) (p - 2) = P := ⟨_, rfl⟩
          have hPl : P < p := by rw [← hP]; exact pw_lt p (t + 1) (p - 2) (by omega)
          have HPW := Lib.hid (pw_below p (t + 1) (by omega) (by omega) (by omega))
          rw [hP] at HPW HE
          have ecast : ((t + 1 : Nat) : Int) = (t : Int) + 1 := by omega
          rw [ecast] at HPW
          obtain ⟨D, hD⟩ : ∃ D, (j + 2 - t) % p = D := ⟨_, rfl⟩
          have hDl : D < p := by rw [← hD]; exact Nat.mod_lt _ (by omega)
          have hDm : ((j : Int) + 1 + 1 - (t : Int)).tmod (p : Int) = (D : Int) := by
            rw [Int.tmod_eq_emod_of_nonneg (by omega), ← hD, Int.natCast_emod]
            congr 1; omega
          obtain ⟨m1, m2, m3, m4⟩ := mulC hsm.2 hbe hbd.2
          have hA1 : ((A : Int) + C * B) % (p : Int) = (((A + C * B) % p : Nat) : Int) := by rw [Int.natCast_emod, Int.natCast_add, Int.natCast_mul]
          have hA2 : ((A : Int) + C * B).tmod (p : Int) = (((A + C * B) % p : Nat) : Int) := by rw [Int.tmod_eq_emod_of_nonneg (by omega), hA1]
          obtain ⟨A2, hA3⟩ : ∃ A2, (A + C * B) % p = A2 := ⟨_, rfl⟩
          rw [hA3] at hA1 hA2
          have hs0 : 0 ≤ (A : Int) + C * B := by omega
          have hs1 : (A : Int) + C * B ≤ 10000 := by omega
          obtain ⟨n1, n2, n3, n4⟩ := mulC hsm.2 hDl hbd.2
          obtain ⟨E, hE⟩ : ∃ E, C * D % p = E := ⟨_, rfl⟩
          have hEl : E < p := by rw [← hE]; exact Nat.mod_lt _ (by omega)
          rw [hE] at n3 n4
          obtain ⟨q1, q2, q3, q4⟩ := mulC hEl hPl hbd.2
          obtain ⟨F, hF⟩ : ∃ F, E * P % p = F := ⟨_, rfl⟩
          rw [hF] at q3 q4
          have HF2 := Lib.hid (show (smM p (blP p j) (j + 1) (t + 1)).1 = A2 ∧ (smM p (blP p j) (j + 1) (t + 1)).2 = F from by rw [HE.out.1, HE.out.2, hA3, hD, hE, hF]; exact ⟨rfl, rfl⟩)
          have wa := (show IntKind.i64.wrap ((j : Int) + 1 + 1) = (j : Int) + 1 + 1 from by rw [IntKind.wrap_i64]; omega)
          have wb := (show IntKind.i64.wrap ((j : Int) + 1 + 1 - t) = (j : Int) + 1 + 1 - t from by rw [IntKind.wrap_i64]; omega)
          have wc := (show IntKind.i64.wrap ((C : Int) * D) = (C : Int) * D from by rw [IntKind.wrap_i64]; omega)
          have wd := (show IntKind.i64.wrap ((t : Int) + 1) = (t : Int) + 1 from by rw [IntKind.wrap_i64]; omega)
          have we := (show IntKind.i64.wrap ((p : Int) - 2) = (p : Int) - 2 from by rw [IntKind.wrap_i64]; omega)
          have wf := (show IntKind.i64.wrap ((E : Int) * P) = (E : Int) * P from by rw [IntKind.wrap_i64]; omega)
          clear HE hA3 hE hF hD hP ecast
          go_wp2
          replace st := st.drew
          have R2 := Lib.hid (show Row wr.drew w.heap.size g cap (j + 1) (fun i => (beR p i : Int)) from R1.out)
          clear R1
          refine wp_region_held_drew (S := fun _ => True) (by kernel_rfl) (trivial) (fun hHeld => ?_)
          refine wpAnyH_take (i := 0) (v := .int .i64 (C : Int)) rfl (by kernel_rfl) (by kernel_rfl) (by kernel_rfl) (fun _ _ _ h => h) (Or.inl ⟨by rfl, ?_⟩) hHeld ?_
          · intro wy hy; go_simp
          (try simp only [Act.put, List.getElem_toArray, List.getElem_cons_zero, List.getElem_cons_succ, List.setIfInBounds_toArray, List.set_cons_zero, List.set_cons_succ])
          refine wpAnyH_take (i := 1) (v := .int .i64 ((j : Int) + 1 : Int)) rfl (by kernel_rfl) (by kernel_rfl) (by kernel_rfl) (fun _ _ _ h => h) (Or.inl ⟨by rfl, ?_⟩) hHeld ?_
          · intro wy hy; go_simp
          (try simp only [Act.put, List.getElem_toArray, List.getElem_cons_zero, List.getElem_cons_succ, List.setIfInBounds_toArray, List.set_cons_zero, List.set_cons_succ])
          refine wpAnyH_take (i := 2) (v := .int .i64 ((j : Int) + 1 + 1 : Int)) rfl (by kernel_rfl) (by kernel_rfl) (by kernel_rfl) (fun _ _ _ h => h) (Or.inl ⟨by rfl, ?_⟩) hHeld ?_
          · intro wy hy; go_simp
          (try simp only [Act.put, List.getElem_toArray, List.getElem_cons_zero, List.getElem_cons_succ, List.setIfInBounds_toArray, List.set_cons_zero, List.set_cons_succ])
          refine wpAnyH_take (i := 3) (v := .int .i64 (t : Int)) rfl (by kernel_rfl) (by kernel_rfl) (by kernel_rfl) (fun _ _ _ h => h) (Or.inl ⟨by rfl, ?_⟩) hHeld ?_
          · intro wy hy; go_simp
          (try simp only [Act.put, List.getElem_toArray, List.getElem_cons_zero, List.getElem_cons_succ, List.setIfInBounds_toArray, List.set_cons_zero, List.set_cons_succ])
          refine wpAnyH_take (i := 4) (v := .int .i64 ((j : Int) + 1 + 1 - t : Int)) rfl (by kernel_rfl) (by kernel_rfl) (by kernel_rfl) (fun _ _ _ h => h) (Or.inl ⟨by rfl, ?_⟩) hHeld ?_
          · intro wy hy; go_simp
          (try simp only [Act.put, List.getElem_toArray, List.getElem_cons_zero, List.getElem_cons_succ, List.setIfInBounds_toArray, List.set_cons_zero, List.set_cons_succ])
          refine wpAnyH_take (i := 5) (v := .int .i64 (p : Int)) rfl (by kernel_rfl) (by kernel_rfl) (by kernel_rfl) (fun _ _ _ h => h) (Or.inl ⟨by rfl, ?_⟩) hHeld ?_
          · intro wy hy; go_simp
          (try simp only [Act.put, List.getElem_toArray, List.getElem_cons_zero, List.getElem_cons_succ, List.setIfInBounds_toArray, List.set_cons_zero, List.set_cons_succ])
          refine wpAnyH_take (i := 6) (v := .int .i64 (D : Int)) rfl (by kernel_rfl) (by kernel_rfl) (by kernel_rfl) (fun _ _ _ h => h) (Or.inl ⟨by rfl, ?_⟩) hHeld ?_
          · intro wy hy; go_simp
          (try simp only [Act.put, List.getElem_toArray, List.getElem_cons_zero, List.getElem_cons_succ, List.setIfInBounds_toArray, List.set_cons_zero, List.set_cons_succ])
          refine wpAnyH_take (i := 7) (v := .int .i64 (C * D : Int)) rfl (by kernel_rfl) (by kernel_rfl) (by kernel_rfl) (fun _ _ _ h => h) (Or.inl ⟨by rfl, ?_⟩) hHeld ?_
          · intro wy hy; go_simp
          (try simp only [Act.put, List.getElem_toArray, List.getElem_cons_zero, List.getElem_cons_succ, List.setIfInBounds_toArray, List.set_cons_zero, List.set_cons_succ])
          refine wpAnyH_take (i := 8) (v := .int .i64 (p : Int)) rfl (by kernel_rfl) (by kernel_rfl) (by kernel_rfl) (fun _ _ _ h => h) (Or.inl ⟨by rfl, ?_⟩) hHeld ?_
          · intro wy hy; go_simp
          (try simp only [Act.put, List.getElem_toArray, List.getElem_cons_zero, List.getElem_cons_succ, List.setIfInBounds_toArray, List.set_cons_zero, List.set_cons_succ])
          refine wpAnyH_take (i := 9) (v := .int .i64 (E : Int)) rfl (by kernel_rfl) (by kernel_rfl) (by kernel_rfl) (fun _ _ _ h => h) (Or.inl ⟨by rfl, ?_⟩) hHeld ?_
          · intro wy hy; go_simp
          (try simp only [Act.put, List.getElem_toArray, List.getElem_cons_zero, List.getElem_cons_succ, List.setIfInBounds_toArray, List.set_cons_zero, List.set_cons_succ])
          refine wpAnyH_take (i := 10) (v := .int .i64 (p : Int)) rfl (by kernel_rfl) (by kernel_rfl) (by kernel_rfl) (fun _ _ _ h => h) (Or.inl ⟨by rfl, ?_⟩) hHeld ?_
          · intro wy hy; go_simp
          (try simp only [Act.put, List.getElem_toArray, List.getElem_cons_zero, List.getElem_cons_succ, List.setIfInBounds_toArray, List.set_cons_zero, List.set_cons_succ])
          refine wpAnyH_take (i := 11) (v := .int .i64 (t : Int)) rfl (by kernel_rfl) (by kernel_rfl) (by kernel_rfl) (fun _ _ _ h => h) (Or.inl ⟨by rfl, ?_⟩) hHeld ?_
          · intro wy hy; go_simp
          (try simp only [Act.put, List.getElem_toArray, List.getElem_cons_zero, List.getElem_cons_succ, List.setIfInBounds_toArray, List.set_cons_zero, List.set_cons_succ])
          refine wpAnyH_take (i := 12) (v := .int .i64 ((t : Int) + 1 : Int)) rfl (by kernel_rfl) (by kernel_rfl) (by kernel_rfl) (fun _ _ _ h => h) (Or.inl ⟨by rfl, ?_⟩) hHeld ?_
          · intro wy hy; go_simp
          (try simp only [Act.put, List.getElem_toArray, List.getElem_cons_zero, List.getElem_cons_succ, List.setIfInBounds_toArray, List.set_cons_zero, List.set_cons_succ])
          refine wpAnyH_take (i := 13) (v := .int .i64 (p : Int)) rfl (by kernel_rfl) (by kernel_rfl) (by kernel_rfl) (fun _ _ _ h => h) (Or.inl ⟨by rfl, ?_⟩) hHeld ?_
          · intro wy hy; go_simp
          (try simp only [Act.put, List.getElem_toArray, List.getElem_cons_zero, List.getElem_cons_succ, List.setIfInBounds_toArray, List.set_cons_zero, List.set_cons_succ])
          refine wpAnyH_take (i := 14) (v := .int .i64 ((p : Int) - 2 : Int)) rfl (by kernel_rfl) (by kernel_rfl) (by kernel_rfl) (fun _ _ _ h => h) (Or.inl ⟨by rfl, ?_⟩) hHeld ?_
          · intro wy hy; go_simp
          (try simp only [Act.put, List.getElem_toArray, List.getElem_cons_zero, List.getElem_cons_succ, List.setIfInBounds_toArray, List.set_cons_zero, List.set_cons_succ])
          refine wpAnyH_take (i := 17) (v := .int .i64 (p : Int)) rfl (by kernel_rfl) (by kernel_rfl) (by kernel_rfl) (fun _ _ _ h => h) (Or.inl ⟨by rfl, ?_⟩) hHeld ?_
          · intro wy hy; go_simp
          (try simp only [Act.put, List.getElem_toArray, List.getElem_cons_zero, List.getElem_cons_succ, List.setIfInBounds_toArray, List.set_cons_zero, List.set_cons_succ])
          refine wpAnyH_ready (rs := [15]) (by kernel_rfl) (by simp) ?_
          refine AllReadyH.cons rfl (fun K hK => ?_) AllReadyH.nil
          rw [if_pos (by rfl)]
          (try simp only [List.getElem_toArray, List.getElem_cons_zero, List.getElem_cons_succ])
          go_simp
          go_at_call 184
          refine (HPW.out _).mono ?_
          rintro e w6 ⟨rfl, b6⟩
          replace st := st.keep b6
          have R3 := Lib.hid (R2.out.keepR (Frame.of_below (lo := w6.heap.size + g + 1) (hi := 0) b6 (Nat.le_refl _)) (by omega))
          refine hK.out _ _ trivial (fun hHeld => ?_)
          clear hK K
          (try simp only [Act.put, List.getElem_toArray, List.getElem_cons_zero, List.getElem_cons_succ, List.setIfInBounds_toArray, List.set_cons_zero, List.set_cons_succ])
          refine wpAnyH_take (i := 16) (v := .int .i64 (E * P : Int)) rfl (by kernel_rfl) (by kernel_rfl) (by kernel_rfl) (fun _ _ _ h => h) (Or.inl ⟨by rfl, ?_⟩) hHeld ?_
          · intro wy hy; go_simp
          (try simp only [Act.put, List.getElem_toArray, List.getElem_cons_zero, List.getElem_cons_succ, List.setIfInBounds_toArray, List.set_cons_zero, List.set_cons_succ])
          refine wpAnyH_take (i := 18) (v := .int .i64 (F : Int)) rfl (by kernel_rfl) (by kernel_rfl) (by kernel_rfl) (fun _ _ _ h => h) (Or.inl ⟨by rfl, ?_⟩) hHeld ?_
          · intro wy hy; go_simp
          (try simp only [Act.put, List.getElem_toArray, List.getElem_cons_zero, List.getElem_cons_succ, List.setIfInBounds_toArray, List.set_cons_zero, List.set_cons_succ])
          refine wpAnyH_take (i := 19) (v := .int .i64 (F : Int)) rfl (by kernel_rfl) (by kernel_rfl) (by kernel_rfl) (fun _ _ _ h => h) (Or.inl ⟨by rfl, ?_⟩) hHeld ?_
          · intro wy hy; go_simp
          (try simp only [Act.put, List.getElem_toArray, List.getElem_cons_zero, List.getElem_cons_succ, List.setIfInBounds_toArray, List.set_cons_zero, List.set_cons_succ])
          refine wpAnyH_done (by kernel_rfl) ?_ _
          go_wp2
          go_roundw
          case rel => exact ⟨t + 1, by omega, by go_num, by rw [HF2.out.1], by rw [HF2.out.2], R3.out, st⟩
          case measure => simp [intOf] <;> omega
        · obtain rfl : t = j + 1 := by omega
          have hc2 : ¬ ((j + 1 : Nat) : Int) < (j : Int) + 1 := by omega
          have HN := Lib.hid (show nxM p (blP p j) (j + 1) = beR p (j + 1) from by rw [be_succ, be_model hp (by omega)])
          obtain ⟨A, hA⟩ : ∃ A, (smM p (blP p j) (j + 1) (j + 1)).1 = A := ⟨_, rfl⟩
          obtain ⟨P, hP⟩ : ∃ P, pwr p (j + 1 + 1) (p - 2) = P := ⟨_, rfl⟩
          have HN2 := Lib.hid (show (p - A) % p * P % p = beR p (j + 1) from by rw [← HN.out, ← hA, ← hP]; rfl)
          rw [hA] at hsm
          rw [hA]
          have hPl : P < p := by rw [← hP]; exact pw_lt p (j + 1 + 1) (p - 2) (by omega)
          have HPW := Lib.hid (pw_below p (j + 1 + 1) (by omega) (by omega) (by omega))
          rw [hP] at HPW
          have ecast : ((j + 1 + 1 : Nat) : Int) = (j : Int) + 1 + 1 := by omega
          rw [ecast] at HPW
          obtain ⟨D, hD⟩ : ∃ D, (p - A) % p = D := ⟨_, rfl⟩
          have hDl : D < p := by rw [← hD]; exact Nat.mod_lt _ (by omega)
          have hDm : ((p : Int) - (A : Int)).tmod (p : Int) = (D : Int) := by
            rw [Int.tmod_eq_emod_of_nonneg (by omega), ← hD, Int.natCast_emod]
            congr 1; omega
          rw [hD] at HN2
          obtain ⟨q1, q2, q3, q4⟩ := mulC hDl hPl hbd.2
          rw [HN2.out] at q3 q4
          obtain ⟨F, hF⟩ : ∃ F, beR p (j + 1) = F := ⟨_, rfl⟩
          rw [hF] at q3 q4
          have HF := Lib.hid hF
          have wa := (show IntKind.i64.wrap ((p : Int) - A) = (p : Int) - A from by rw [IntKind.wrap_i64]; omega)
          have wb := (show IntKind.i64.wrap ((j : Int) + 1 + 1) = (j : Int) + 1 + 1 from by rw [IntKind.wrap_i64]; omega)
          have we := (show IntKind.i64.wrap ((p : Int) - 2) = (p : Int) - 2 from by rw [IntKind.wrap_i64]; omega)
          have wf := (show IntKind.i64.wrap ((D : Int) * P) = (D : Int) * P from by rw [IntKind.wrap_i64]; omega)
          clear HN hF hD hP ecast hA
          go_wp2
          replace st := st.drew
          have R2 := Lib.hid (show Row wr.drew w.heap.size g cap (j + 1) (fun i => (beR p i : Int)) from R1.out)
          clear R1
          refine wp_region_held_drew (S := fun _ => True) (by kernel_rfl) (trivial) (fun hHeld => ?_)
          refine wpAnyH_take (i := 0) (v := .slice (some ⟨g, 0, none⟩) (j + 1) cap) rfl (by kernel_rfl) (by kernel_rfl) (by kernel_rfl) (fun _ _ _ h => h) (Or.inl ⟨by rfl, ?_⟩) hHeld ?_
          · intro wy hy; go_simp
          (try simp only [Act.put, List.getElem_toArray, List.getElem_cons_zero, List.getElem_cons_succ, List.setIfInBounds_toArray, List.set_cons_zero, List.set_cons_succ])
          refine wpAnyH_take (i := 1) (v := .int .i64 (p : Int)) rfl (by kernel_rfl) (by kernel_rfl) (by kernel_rfl) (fun _ _ _ h => h) (Or.inl ⟨by rfl, ?_⟩) hHeld ?_
          · intro wy hy; go_simp
          (try simp only [Act.put, List.getElem_toArray, List.getElem_cons_zero, List.getElem_cons_succ, List.setIfInBounds_toArray, List.set_cons_zero, List.set_cons_succ])
          refine wpAnyH_take (i := 2) (v := .int .i64 (A : Int)) rfl (by kernel_rfl) (by kernel_rfl) (by kernel_rfl) (fun _ _ _ h => h) (Or.inl ⟨by rfl, ?_⟩) hHeld ?_
          · intro wy hy; go_simp
          (try simp only [Act.put, List.getElem_toArray, List.getElem_cons_zero, List.getElem_cons_succ, List.setIfInBounds_toArray, List.set_cons_zero, List.set_cons_succ])
          refine wpAnyH_take (i := 3) (v := .int .i64 ((p : Int) - A : Int)) rfl (by kernel_rfl) (by kernel_rfl) (by kernel_rfl) (fun _ _ _ h => h) (Or.inl ⟨by rfl, ?_⟩) hHeld ?_
          · intro wy hy; go_simp
          (try simp only [Act.put, List.getElem_toArray, List.getElem_cons_zero, List.getElem_cons_succ, List.setIfInBounds_toArray, List.set_cons_zero, List.set_cons_succ])
          refine wpAnyH_take (i := 4) (v := .int .i64 (p : Int)) rfl (by kernel_rfl) (by kernel_rfl) (by kernel_rfl) (fun _ _ _ h => h) (Or.inl ⟨by rfl, ?_⟩) hHeld ?_
          · intro wy hy; go_simp
          (try simp only [Act.put, List.getElem_toArray, List.getElem_cons_zero, List.getElem_cons_succ, List.setIfInBounds_toArray, List.set_cons_zero, List.set_cons_succ])
          refine wpAnyH_take (i := 5) (v := .int .i64 (D : Int)) rfl (by kernel_rfl) (by kernel_rfl) (by kernel_rfl) (fun _ _ _ h => h) (Or.inl ⟨by rfl, ?_⟩) hHeld ?_
          · intro wy hy; go_simp
          (try simp only [Act.put, List.getElem_toArray, List.getElem_cons_zero, List.getElem_cons_succ, List.setIfInBounds_toArray, List.set_cons_zero, List.set_cons_succ])
          refine wpAnyH_take (i := 6) (v := .int .i64 (p : Int)) rfl (by kernel_rfl) (by kernel_rfl) (by kernel_rfl) (fun _ _ _ h => h) (Or.inl ⟨by rfl, ?_⟩) hHeld ?_
          · intro wy hy; go_simp
          (try simp only [Act.put, List.getElem_toArray, List.getElem_cons_zero, List.getElem_cons_succ, List.setIfInBounds_toArray, List.set_cons_zero, List.set_cons_succ])
          refine wpAnyH_take (i := 7) (v := .int .i64 ((j : Int) + 1 : Int)) rfl (by kernel_rfl) (by kernel_rfl) (by kernel_rfl) (fun _ _ _ h => h) (Or.inl ⟨by rfl, ?_⟩) hHeld ?_
          · intro wy hy; go_simp
          (try simp only [Act.put, List.getElem_toArray, List.getElem_cons_zero, List.getElem_cons_succ, List.setIfInBounds_toArray, List.set_cons_zero, List.set_cons_succ])
          refine wpAnyH_take (i := 8) (v := .int .i64 ((j : Int) + 1 + 1 : Int)) rfl (by kernel_rfl) (by kernel_rfl) (by kernel_rfl) (fun _ _ _ h => h) (Or.inl ⟨by rfl, ?_⟩) hHeld ?_
          · intro wy hy; go_simp
          (try simp only [Act.put, List.getElem_toArray, List.getElem_cons_zero, List.getElem_cons_succ, List.setIfInBounds_toArray, List.set_cons_zero, List.set_cons_succ])
          refine wpAnyH_take (i := 9) (v := .int .i64 (p : Int)) rfl (by kernel_rfl) (by kernel_rfl) (by kernel_rfl) (fun _ _ _ h => h) (Or.inl ⟨by rfl, ?_⟩) hHeld ?_
          · intro wy hy; go_simp
          (try simp only [Act.put, List.getElem_toArray, List.getElem_cons_zero, List.getElem_cons_succ, List.setIfInBounds_toArray, List.set_cons_zero, List.set_cons_succ])
          refine wpAnyH_take (i := 10) (v := .int .i64 ((p : Int) - 2 : Int)) rfl (by kernel_rfl) (by kernel_rfl) (by kernel_rfl) (fun _ _ _ h => h) (Or.inl ⟨by rfl, ?_⟩) hHeld ?_
          · intro wy hy; go_simp
          (try simp only [Act.put, List.getElem_toArray, List.getElem_cons_zero, List.getElem_cons_succ, List.setIfInBounds_toArray, List.set_cons_zero, List.set_cons_succ])
          refine wpAnyH_take (i := 13) (v := .int .i64 (p : Int)) rfl (by kernel_rfl) (by kernel_rfl) (by kernel_rfl) (fun _ _ _ h => h) (Or.inl ⟨by rfl, ?_⟩) hHeld ?_
          · intro wy hy; go_simp
          (try simp only [Act.put, List.getElem_toArray, List.getElem_cons_zero, List.getElem_cons_succ, List.setIfInBounds_toArray, List.set_cons_zero, List.set_cons_succ])
          refine wpAnyH_ready (rs := [11]) (by kernel_rfl) (by simp) ?_
          refine AllReadyH.cons rfl (fun K hK => ?_) AllReadyH.nil
          rw [if_pos (by rfl)]
          (try simp only [List.getElem_toArray, List.getElem_cons_zero, List.getElem_cons_succ])
          go_simp
          go_at_call 184
          refine (HPW.out _).mono ?_
          rintro e w6 ⟨rfl, b6⟩
          replace st := st.keep b6
          have R3 := Lib.hid (R2.out.keepR (Frame.of_below (lo := w6.heap.size + g + 1) (hi := 0) b6 (Nat.le_refl _)) (by omega))
          refine hK.out _ _ trivial (fun hHeld => ?_)
          clear hK K
          (try simp only [Act.put, List.getElem_toArray, List.getElem_cons_zero, List.getElem_cons_succ, List.setIfInBounds_toArray, List.set_cons_zero, List.set_cons_succ])
          refine wpAnyH_take (i := 12) (v := .int .i64 (D * P : Int)) rfl (by kernel_rfl) (by kernel_rfl) (by kernel_rfl) (fun _ _ _ h => h) (Or.inl ⟨by rfl, ?_⟩) hHeld ?_
          · intro wy hy; go_simp
          (try simp only [Act.put, List.getElem_toArray, List.getElem_cons_zero, List.getElem_cons_succ, List.setIfInBounds_toArray, List.set_cons_zero, List.set_cons_succ])
          refine wpAnyH_take (i := 14) (v := .int .i64 (F : Int)) rfl (by kernel_rfl) (by kernel_rfl) (by kernel_rfl) (fun _ _ _ h => h) (Or.inl ⟨by rfl, ?_⟩) hHeld ?_
          · intro wy hy; go_simp
          (try simp only [Act.put, List.getElem_toArray, List.getElem_cons_zero, List.getElem_cons_succ, List.setIfInBounds_toArray, List.set_cons_zero, List.set_cons_succ])
          refine wpAnyH_ready (rs := [15]) (by kernel_rfl) (by simp) ?_
          refine AllReadyH.cons rfl (fun K hK => ?_) AllReadyH.nil
          rw [if_pos (by rfl)]
          (try simp only [List.getElem_toArray, List.getElem_cons_zero, List.getElem_cons_succ])
          go_simp
          refine hK.out _ _ trivial (fun hHeld => ?_)
          clear hK K
          (try simp only [Act.put, List.getElem_toArray, List.getElem_cons_zero, List.getElem_cons_succ, List.setIfInBounds_toArray, List.set_cons_zero, List.set_cons_succ])
          have hgl := R3.out.lt
          refine wpAnyH_ready (rs := [16]) (by kernel_rfl) (by simp) ?_
          refine AllReadyH.cons rfl (fun K hK => ?_) AllReadyH.nil
          refine step_pushR rfl (.tmp 49) (.tmp 64) rfl w.heap.size (j + 1) (.slice (some ⟨g, 0, none⟩) (j + 1) cap) (fun i => (beR p i : Int)) rfl (World.ownsRow.alloc R3.out _) (by simp only [World.size_alloc]; omega) w6.heap.size (F : Int) rfl (heap_alloc_new w6 _) (by omega) ?_
          intro gA kA wA rowA grA orA ltA
          have stA := (st.alloc (.cells #[.int .i64 (F : Int)] 2)).write (Frame.ofGrown (row := g) grA) (by omega) (by intro q hq; cases hq) (by intro q hq; cases hq)
          refine hK.out _ _ trivial (fun hHeld => ?_)
          clear hK K
          (try simp only [Act.put, List.getElem_toArray, List.getElem_cons_zero, List.getElem_cons_succ, List.setIfInBounds_toArray, List.set_cons_zero, List.set_cons_succ])
          refine wpAnyH_take (i := 17) (v := .slice (some ⟨gA, 0, none⟩) (j + 1 + 1) kA) rfl (by kernel_rfl) (by kernel_rfl) (by kernel_rfl) (fun _ _ _ h => h) (Or.inl ⟨by rfl, ?_⟩) hHeld ?_
          · intro wy hy; go_simp
          (try simp only [Act.put, List.getElem_toArray, List.getElem_cons_zero, List.getElem_cons_succ, List.setIfInBounds_toArray, List.set_cons_zero, List.set_cons_succ])
          refine wpAnyH_done (by kernel_rfl) ?_ _
          have RA := Lib.hid rowA
          clear rowA grA
          go_wp2
          go_roundw
          case rel =>
            refine ⟨j + 1, gA, kA, by omega, rfl, by go_num, RA.out.congr (fun i hi => ?_), stA⟩
            by_cases e : i < j + 1
            · rw [if_pos e]
            · obtain rfl : i = j + 1 := by omega
              rw [if_neg e, HF.out]
          case measure => simp [intOf] <;> omega
    · obtain rfl : j = K := by omega
      have BB := st.1
      have hc1 : ¬ (j : Int) + 1 ≤ (p : Int) - 3 := by omega
      go_wp2
      go_ret
      exact ⟨g, cap, rfl, Sl.ofRowF R1.out (fun i _ => by have := be_lt (p := p) (by omega) i; unfold inR; omega) (by unfold maxLen; omega), BB⟩
end Go.Proofs.Ytonopjbccdpbhaa
