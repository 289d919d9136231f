/- polynomialOf: the cyclotomic polynomial. -/
import Derived.Test.YtnhpodlcgkgpbaaCyc
namespace Go.Proofs.Ytnhpodlcgkgpbaa
open Go.RowKit Go.ChangeShapes Go.Sort

theorem madeCells_size (z : Value) (n : Nat) : (madeCells #[z] n).size = n := by simp [madeCells]

/-- A block that a make with two stores has laid. -/
theorem Sl.base (w : World) (n : Nat) (hm : n + 1 ≤ maxLen) :
    Sl true (w.alloc (.cells (((madeCells #[.int .i64 0] (n + 1)).setIfInBounds 0 (.int .i64 (-1))).setIfInBounds n (.int .i64 1)) 2)) w.heap.size (w.heap.size + 1) (.slice (some ⟨w.heap.size, 0, none⟩) (n + 1) (n + 1)) (n + 1) (cycBase n) := by
  refine Sl.made w _ _ (n + 1) (n + 1) _ (Nat.le_refl _) hm (fun j hj => cycBase_inR n j) (fun j hj => ?_)
  rw [Array.getElem?_setIfInBounds, Array.getElem?_setIfInBounds]
  unfold cycBase
  simp only [Array.size_setIfInBounds, madeCells_size]
  by_cases e : n = j
  · subst e; simp
  · rw [if_neg e, if_neg (Ne.symm e)]
    by_cases e0 : 0 = j
    · subst e0; simp
    · rw [if_neg e0, if_neg (Ne.symm e0)]
      exact madeCells_at _ _ _ hj

set_option maxHeartbeats 1000000 in
theorem polynomialOf_any : ∀ (n : Nat), n < 61 → 1 ≤ n → ∀ (w : World),
    Calls Try.prog 202 #[.int .i64 (n : Int)] w fun e w' => ∃ a' cap', e = .returned (.slice a' (phiN n + 1) cap') ∧ Sl true w' w.heap.size w'.heap.size (.slice a' (phiN n + 1) cap') (phiN n + 1) (cyc n) ∧ Below w.heap.size w w' := by
  intro n
  induction n using Nat.strongRecOn with
  | _ n ih =>
    intro hn h1 w
    have IH := Lib.hid ih; clear ih
    have hmk := run_make_row' (P := Try.prog) 22 2 (.int .i64 0) 8 Try.underlying22 Try.info2 rfl .i64 .i64 (n + 1) (by omega) (by omega)
    have ec : ((n + 1 : Nat) : Int) = (n : Int) + 1 := by omega
    rw [ec] at hmk
    clear ec
    have hq0 := madeCells_at (.int .i64 0) (n + 1) 0 (by omega)
    obtain ⟨v3, hq1⟩ : ∃ v3, ((madeCells #[.int .i64 0] (n + 1)).setIfInBounds 0 (.int .i64 (-1)))[n]? = some v3 :=
      ⟨_, Array.getElem?_eq_getElem (by simp [madeCells_size])⟩
    go_enter Try.func202, Try.ntmps202
    go_wp2
    clear hmk hq0 hq1
    go_loopw [3, 4] (fun s3 s4 wr => ∃ (d off cap : Nat), 1 ≤ d ∧ d ≤ n ∧ s4 = .int .i64 d ∧ s3 = .slice (some ⟨w.heap.size, off, none⟩) (n + 1 - sumPhi n d) cap ∧
        Sl true wr w.heap.size (w.heap.size + 1) (.slice (some ⟨w.heap.size, off, none⟩) (n + 1 - sumPhi n d) cap) (n + 1 - sumPhi n d) (cycTo cyc n d) ∧ Below w.heap.size w wr) (fun _ s4 _ => n - (intOf s4).toNat)
    case atStart => exact ⟨1, 0, n + 1, by omega, h1, rfl, rfl, Sl.base w n (by unfold maxLen; omega), (Below.refl _ _).alloc (Nat.le_refl _) _⟩
    case round =>
      obtain ⟨d, off, cap, hd1, hd2, rfl, rfl, hown, hb⟩ := hrel
      have hlt0 := sumPhi_lt hn h1 hd2
      have HO := Lib.hid hown; clear hown
      by_cases hlt : d < n
      · by_cases hdiv : n % d = 0
        · have hle := sumPhi_le hn h1 hlt hd1 hdiv
          have e1 := sumPhi_div hd1 hdiv
          have e2 := cycTo_div (P := cyc) hd1 hdiv
          have E1 := Lib.hid e1; clear e1
          have E2 := Lib.hid e2; clear e2
          have hbb : ((n : Int) % (d : Int) == 0) = true := by rw [beq_iff_eq]; omega
          have HD := Lib.hid hdiv; clear hdiv
          go_wp2_with fail
          refine (IH.out d hlt (by omega) hd1 _).mono ?_
          rintro e w1 ⟨a1, cap1, rfl, s1, b1⟩
          have HS1 := Lib.hid s1; clear s1
          have HO1 := Lib.hid (HO.out.keep b1 HO.out.size)
          have hz1 := HO.out.size
          go_wp2_with fail
          refine (divideList_any (phiN d) w1 HO1.out HS1.out (.inl hz1)).mono ?_
          rintro e w2 ⟨rfl, s2, f2⟩
          have HS2 := Lib.hid s2; clear s2
          have hcap := (HS2.out.known (by omega)).2.2.1
          have hB2 : Below w.heap.size w w2 := hb.trans ((b1.mono hb.size).trans (f2.below (Nat.le_refl _) (Nat.le_trans hb.size b1.size)))
          go_wp2
          refine ⟨⟨d + 1, off + phiN d, cap - phiN d, by omega, by omega, by go_num, ?_, ?_, hB2⟩, by simp [intOf]; omega⟩
          · rw [E1.out]
            congr 1
            omega
          · rw [E1.out, E2.out, show n + 1 - (sumPhi n d + phiN d) = n + 1 - sumPhi n d - phiN d by omega]
            exact HS2.out.tail (phiN d) (by omega)
        · have e1 := sumPhi_not hdiv
          have e2 := cycTo_not (P := cyc) hdiv
          have E1 := Lib.hid e1; clear e1
          have E2 := Lib.hid e2; clear e2
          have hbb : ((n : Int) % (d : Int) == 0) = false := by rw [beq_eq_false_iff_ne]; omega
          have HD := Lib.hid hdiv; clear hdiv
          go_wp2
          go_roundw
          case rel => exact ⟨d + 1, off, cap, by omega, by omega, by go_num, by rw [E1.out], by rw [E1.out, E2.out]; exact HO.out, hb⟩
          case measure => simp [intOf]; omega
      · have e : d = n := by omega
        subst e
        have hg := gauss d hn h1
        have e1 : d + 1 - sumPhi d d = phiN d + 1 := by omega
        have E1 := Lib.hid e1; clear e1
        have HG := Lib.hid hg; clear hg
        go_wp2
        go_ret
        refine ⟨some ⟨w.heap.size, off, none⟩, cap, by rw [← E1.out]; rfl, ?_, hb⟩
        have h := HO.out
        rw [E1.out, ← cyc_eq d (by omega)] at h
        exact h.wide (Nat.le_refl _) h.size (Nat.le_refl _)
end Go.Proofs.Ytnhpodlcgkgpbaa
