/- CycloAtResidues of the model. -/
import Derived.Test.YthookppmclimkaaPlcK
import Derived.Test.YthookppmclimkaaPlcM
import Derived.Test.YthookppmclimkaaSpecRed
import Derived.BigRegion
namespace Go.Proofs.Ythookppmclimkaa
open Go.RowKit Go.ChangeShapes Go.Sort
set_option linter.unusedVariables false
set_option linter.unusedSimpArgs false
set_option maxRecDepth 100000

section
variable {o : Bool} {lo hi : Nat} {v : Value} {m : Nat} {f : Nat → Int}
set_option maxHeartbeats 2000000 in
theorem CycloAtResidues_spec_bad (n l : Int) (w : World) (hs : Sl o w lo hi v m f) (h : ¬ RsP n l m f) :
    Calls Try.prog 17 #[.int .i64 n, .int .i64 l, v] w fun e w' => ∃ a k, e = .returned (.tuple #[.agg #[.int .i64 0, .slice a 0 k], .int .i64 2]) ∧ Sl true w' w.heap.size w'.heap.size (.slice a 0 k) 0 (fun _ => 0) ∧ Below w.heap.size w w' := by
  obtain ⟨av, cap, rfl⟩ := hs.shape
  have hml := hs.len
  unfold maxLen at hml
  have st0 := ((((St.start w).addSl ⟨o, lo, hi, .slice av m cap, m, f⟩ hs).alloc (.cells #[.int .i64 0, .slice none 0 0] 31)).addBox w.heap.size [.int .i64 0, .slice none 0 0] (Box.made _ _ _ _ (fun j v h => by simpa using h)))
  by_cases hsp : SpP n l
  · obtain ⟨N, L, rfl, rfl, h1, h2, hl⟩ := hsp.nat
    have HL := Lib.hid hl
    have hb := primeN_bd hl
    have hph := phi_bd N (by omega) h1
    cases hfn : fullN L N with
    | false =>
      have HF := Lib.hid hfn
      clear h hsp hl hfn hs
      go_enter Try.func17, Try.ntmps17
      go_wp2_with (first
        | (go_at_call 27; refine (l07Code_yes N L h1 h2 HL.out _).mono ?_; rintro e w1 ⟨rfl, m1, rfl⟩; have st1 := st0.drewN m1; obtain ⟨c01, c11⟩ := (st1.box 0 (w.heap.size, [.int .i64 0, .slice none 0 0]) rfl).cell2; have cz1 := (st1.box 0 (w.heap.size, [.int .i64 0, .slice none 0 0]) rfl).2.2; dsimp only at c01 c11 cz1)
        | (go_at_call 32; refine (l07Fully_any N L h1 h2 HL.out _).mono ?_; rintro e w2 ⟨rfl, rfl⟩; rw [HF.out]))
      have BB := (st1.1.setCell (p := ⟨w.heap.size, 0, none⟩) (Nat.le_refl _) (.int .i64 0)).setCell (p := ⟨w.heap.size, 1, none⟩) (Nat.le_refl _) (.slice none 0 0)
      refine bodyPost_ret (v := .tuple #[.agg #[.int .i64 0, .slice none 0 0], .int .i64 2]) (by simp [results, Try.results17, go_sem, c01, c11]) rfl ?_
      exact ⟨none, 0, rfl, Sl.nil _ _ _ (Nat.le_refl _) _, BB⟩
    | true =>
      have HF := Lib.hid hfn
      have hrl := rt_len hl h1 h2 hfn
      have HRT := Lib.hid (fun w => l07Roots_any N L h1 h2 hl w)
      by_cases hm : m = phiN N
      · have HR := Lib.hid (show ¬ ResP f m L from fun hr => h ⟨⟨hsp, by simpa using hfn⟩, by simpa using hm, hr⟩)
        rw [hrl, ← hm] at HRT
        clear h hsp hl hfn hrl
        go_enter Try.func17, Try.ntmps17
        go_wp2_with (first
          | (go_at_call 27; refine (l07Code_yes N L h1 h2 HL.out _).mono ?_; rintro e w1 ⟨rfl, m1, rfl⟩; have st1 := st0.drewN m1; obtain ⟨c01, c11⟩ := (st1.box 0 (w.heap.size, [.int .i64 0, .slice none 0 0]) rfl).cell2; have cz1 := (st1.box 0 (w.heap.size, [.int .i64 0, .slice none 0 0]) rfl).2.2; dsimp only at c01 c11 cz1)
          | (go_at_call 32; refine (l07Fully_any N L h1 h2 HL.out _).mono ?_; rintro e w2 ⟨rfl, rfl⟩; rw [HF.out])
          | (go_at_call 33; refine (HRT.out _).mono ?_; rintro e w3 ⟨a3, k3, rfl, s3, b3⟩; have st3 := st1.keep b3; obtain ⟨c03, c13⟩ := (st3.box 0 (w.heap.size, [.int .i64 0, .slice none 0 0]) rfl).cell2; have cz3 := (st3.box 0 (w.heap.size, [.int .i64 0, .slice none 0 0]) rfl).2.2; dsimp only at c03 c13 cz3))
        have ST := Lib.hid st3
        clear c01 c11 cz1 c03 c13 cz3 st0 st1 st3 b3 s3 hs
        go_loopw [10] (fun s10 wr => ∃ k : Nat, k ≤ m ∧ s10 = .int .i64 (k : Int) ∧ ResP f k L ∧ wr = w3) (fun s10 _ => m - (intOf s10).toNat)
        case atStart => exact ⟨0, Nat.zero_le _, rfl, fun j hj => absurd hj (Nat.not_lt_zero _), rfl⟩
        case round =>
          obtain ⟨k, hk, rfl, hp, hwr⟩ := hrel
          subst hwr
          have HP := Lib.hid hp
          clear hp
          by_cases hlt : k < m
          · have qx := ST.out.sl 0 ⟨o, lo, hi, .slice av m cap, m, f⟩ rfl
            dsimp only at qx
            obtain ⟨g, off, cap', hv, _, _, _, _, hc, _⟩ := qx.at (by omega)
            obtain ⟨rfl, rfl⟩ : av = some ⟨g, off, none⟩ ∧ cap = cap' := by cases hv; exact ⟨rfl, rfl⟩
            clear hv
            have hck := hc k hlt
            clear hc qx
            by_cases hin : 0 ≤ f k ∧ f k ≤ (L : Int) - 1
            · obtain ⟨hi1, hi2⟩ := hin
              go_wp2_with (go_at_call 36; refine (l01In_yes _ _ _ _ (by omega) (by omega)).mono ?_; rintro e w5 ⟨rfl, rfl⟩)
              go_roundw
              case rel => exact ⟨k + 1, by omega, by go_num, fun j hj => by
                rcases Nat.lt_succ_iff_lt_or_eq.1 hj with h | h
                · exact HP.out j h
                · subst h; exact ⟨by omega, by omega⟩, by first | rfl | trivial⟩
              case measure => simp [intOf] <;> omega
            · have HI := Lib.hid (show f k < 0 ∨ (L : Int) - 1 < f k by omega)
              obtain ⟨c06, c16⟩ := (ST.out.box 0 (w.heap.size, [.int .i64 0, .slice none 0 0]) rfl).cell2
              have cz6 := (ST.out.box 0 (w.heap.size, [.int .i64 0, .slice none 0 0]) rfl).2.2
              dsimp only at c06 c16 cz6
              have BB0 := ST.out.1
              clear hin
              go_wp2_with (go_at_call 36; refine (l01In_no _ _ _ _ HI.out).mono ?_; rintro e w5 ⟨rfl, rfl⟩)
              have BB := (BB0.setCell (p := ⟨w.heap.size, 0, none⟩) (Nat.le_refl _) (.int .i64 0)).setCell (p := ⟨w.heap.size, 1, none⟩) (Nat.le_refl _) (.slice none 0 0)
              refine bodyPost_ret (v := .tuple #[.agg #[.int .i64 0, .slice none 0 0], .int .i64 2]) (by simp [results, Try.results17, go_sem, c06, c16]) rfl ?_
              exact ⟨none, 0, rfl, Sl.nil _ _ _ (Nat.le_refl _) _, BB⟩
          · obtain rfl : k = m := by omega
            exact absurd HP.out HR.out
      · have hmb : ((m : Int) != ((phiN N : Nat) : Int)) = true := by rw [bne_iff_ne]; omega
        rw [hrl] at HRT
        clear h hsp hl hfn hrl hs hm
        go_enter Try.func17, Try.ntmps17
        go_wp2_with (first
          | (go_at_call 27; refine (l07Code_yes N L h1 h2 HL.out _).mono ?_; rintro e w1 ⟨rfl, m1, rfl⟩; have st1 := st0.drewN m1; obtain ⟨c01, c11⟩ := (st1.box 0 (w.heap.size, [.int .i64 0, .slice none 0 0]) rfl).cell2; have cz1 := (st1.box 0 (w.heap.size, [.int .i64 0, .slice none 0 0]) rfl).2.2; dsimp only at c01 c11 cz1)
          | (go_at_call 32; refine (l07Fully_any N L h1 h2 HL.out _).mono ?_; rintro e w2 ⟨rfl, rfl⟩; rw [HF.out])
          | (go_at_call 33; refine (HRT.out _).mono ?_; rintro e w3 ⟨a3, k3, rfl, s3, b3⟩; have st3 := st1.keep b3; obtain ⟨c03, c13⟩ := (st3.box 0 (w.heap.size, [.int .i64 0, .slice none 0 0]) rfl).cell2; have cz3 := (st3.box 0 (w.heap.size, [.int .i64 0, .slice none 0 0]) rfl).2.2; dsimp only at c03 c13 cz3))
        have BB := (st3.1.setCell (p := ⟨w.heap.size, 0, none⟩) (Nat.le_refl _) (.int .i64 0)).setCell (p := ⟨w.heap.size, 1, none⟩) (Nat.le_refl _) (.slice none 0 0)
        refine bodyPost_ret (v := .tuple #[.agg #[.int .i64 0, .slice none 0 0], .int .i64 2]) (by simp [results, Try.results17, go_sem, c03, c13]) rfl ?_
        exact ⟨none, 0, rfl, Sl.nil _ _ _ (Nat.le_refl _) _, BB⟩
  · have H := Lib.hid hsp
    clear h hsp hs
    go_enter Try.func17, Try.ntmps17
    go_wp2_with (go_at_call 27; refine (l07Code_no n l H.out _).mono ?_; rintro e w1 ⟨rfl, m1, rfl⟩; have st1 := st0.drewN m1; obtain ⟨c01, c11⟩ := (st1.box 0 (w.heap.size, [.int .i64 0, .slice none 0 0]) rfl).cell2; have cz1 := (st1.box 0 (w.heap.size, [.int .i64 0, .slice none 0 0]) rfl).2.2; dsimp only at c01 c11 cz1)
    have BB := (st1.1.setCell (p := ⟨w.heap.size, 0, none⟩) (Nat.le_refl _) (.int .i64 0)).setCell (p := ⟨w.heap.size, 1, none⟩) (Nat.le_refl _) (.slice none 0 0)
    refine bodyPost_ret (v := .tuple #[.agg #[.int .i64 0, .slice none 0 0], .int .i64 2]) (by simp [results, Try.results17, go_sem, c01, c11]) rfl ?_
    exact ⟨none, 0, rfl, Sl.nil _ _ _ (Nat.le_refl _) _, BB⟩


end
end Go.Proofs.Ythookppmclimkaa
