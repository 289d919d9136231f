/- CycloAtResidues of the program. -/
import Derived.Test.YthookppmclimkaaPlcE
import Derived.Test.YthookppmclimkaaIs
namespace Go.Proofs.Ythookppmclimkaa
open Go.RowKit Go.ChangeShapes Go.Sort
set_option linter.unusedVariables false
set_option linter.unusedSimpArgs false
set_option maxRecDepth 100000

/-- As many residues as roots of n for l. -/
def RsP (n l : Int) (m : Nat) (f : Nat → Int) : Prop := FuP n l ∧ m = phiN n.toNat ∧ ResP f m l
section
variable {o : Bool} {lo hi : Nat} {v : Value} {m : Nat} {f : Nat → Int}
set_option maxHeartbeats 2000000 in
theorem CycloAtResidues_impl_bad (n l : Int) (w : World) (hs : Sl o w lo hi v m f) (h : ¬ RsP n l m f) :
    Calls Try.prog 19 #[.int .i64 n, .int .i64 l, v] w fun e w' => ∃ a k, e = .returned (.tuple #[.agg #[.int .i64 0, .slice a 0 k], .int .i64 2]) ∧ Sl true w' w.heap.size w'.heap.size (.slice a 0 k) 0 (fun _ => 0) ∧ Below w.heap.size w w' := by
  obtain ⟨av, cap, rfl⟩ := hs.shape
  have hml := hs.len
  unfold maxLen at hml
  have st0 := ((((St.start w).addSl ⟨o, lo, hi, .slice av m cap, m, f⟩ hs).alloc (.cells #[.int .i64 0, .slice none 0 0] 31)).addBox w.heap.size [.int .i64 0, .slice none 0 0] (Box.made _ _ _ _ (fun j v h => by simpa using h)))
  by_cases hf : FuP n l
  · obtain ⟨N, L, rfl, rfl, h1, h2, hl, hfn⟩ := hf.nat
    have HL := Lib.hid hl
    have HF := Lib.hid hfn
    have hb := primeN_bd hl
    have hph := phi_bd N (by omega) h1
    have HT := Lib.hid (fun w => totient_below N w (by omega))
    by_cases hm : m = phiN N
    · have HR := Lib.hid (show ¬ ResP f m L from fun hr => h ⟨hf, by simpa using hm, hr⟩)
      have hmb : ((m : Int) != ((phiN N : Nat) : Int)) = false := by rw [hm]; simp
      clear h hf hl hfn hm hs
      go_enter Try.func19, Try.ntmps19
      go_wp2_with (first
        | (go_at_call 34; refine (haveRoots_yes N L h1 h2 HL.out HF.out _).mono ?_; rintro e w1 ⟨rfl, b1⟩; have st1 := st0.keep b1; obtain ⟨c01, c11⟩ := (st1.box 0 (w.heap.size, [.int .i64 0, .slice none 0 0]) rfl).cell2; have cz1 := (st1.box 0 (w.heap.size, [.int .i64 0, .slice none 0 0]) rfl).2.2; dsimp only at c01 c11 cz1)
        | (go_at_call 31; refine (HT.out _).mono ?_; rintro e w2 ⟨rfl, b2⟩; have st2 := st1.keep b2; obtain ⟨c02, c12⟩ := (st2.box 0 (w.heap.size, [.int .i64 0, .slice none 0 0]) rfl).cell2; have cz2 := (st2.box 0 (w.heap.size, [.int .i64 0, .slice none 0 0]) rfl).2.2; dsimp only at c02 c12 cz2; have q2 := st2.sl 0 ⟨o, lo, hi, .slice av m cap, m, f⟩ rfl; dsimp only at q2)
        | (go_at_call 39; refine (areResidues_no _ _ (by omega) (by omega) q2 HR.out).mono ?_; rintro e w3 ⟨rfl, rfl⟩))
      have BB := (st2.1.setCell (p := ⟨w.heap.size, 0, none⟩) (Nat.le_refl _) (.int .i64 0)).setCell (p := ⟨w.heap.size, 1, none⟩) (Nat.le_refl _) (.slice none 0 0)
      refine bodyPost_ret (v := .tuple #[.agg #[.int .i64 0, .slice none 0 0], .int .i64 2]) (by simp [results, Try.results19, go_sem, c02, c12]) rfl ?_
      exact ⟨none, 0, rfl, Sl.nil _ _ _ (Nat.le_refl _) _, BB⟩
    · have hmb : ((m : Int) != ((phiN N : Nat) : Int)) = true := by rw [bne_iff_ne]; omega
      clear h hf hl hfn hm hs
      go_enter Try.func19, Try.ntmps19
      go_wp2_with (first
        | (go_at_call 34; refine (haveRoots_yes N L h1 h2 HL.out HF.out _).mono ?_; rintro e w1 ⟨rfl, b1⟩; have st1 := st0.keep b1; obtain ⟨c01, c11⟩ := (st1.box 0 (w.heap.size, [.int .i64 0, .slice none 0 0]) rfl).cell2; have cz1 := (st1.box 0 (w.heap.size, [.int .i64 0, .slice none 0 0]) rfl).2.2; dsimp only at c01 c11 cz1)
        | (go_at_call 31; refine (HT.out _).mono ?_; rintro e w2 ⟨rfl, b2⟩; have st2 := st1.keep b2; obtain ⟨c02, c12⟩ := (st2.box 0 (w.heap.size, [.int .i64 0, .slice none 0 0]) rfl).cell2; have cz2 := (st2.box 0 (w.heap.size, [.int .i64 0, .slice none 0 0]) rfl).2.2; dsimp only at c02 c12 cz2))
      have BB := (st2.1.setCell (p := ⟨w.heap.size, 0, none⟩) (Nat.le_refl _) (.int .i64 0)).setCell (p := ⟨w.heap.size, 1, none⟩) (Nat.le_refl _) (.slice none 0 0)
      refine bodyPost_ret (v := .tuple #[.agg #[.int .i64 0, .slice none 0 0], .int .i64 2]) (by simp [results, Try.results19, go_sem, c02, c12]) rfl ?_
      exact ⟨none, 0, rfl, Sl.nil _ _ _ (Nat.le_refl _) _, BB⟩
  · have H := Lib.hid hf
    clear h hf hs
    go_enter Try.func19, Try.ntmps19
    go_wp2_with (go_at_call 34; refine (haveRoots_no n l H.out _).mono ?_; rintro e w1 ⟨rfl, b1⟩; have st1 := st0.keep b1; obtain ⟨c01, c11⟩ := (st1.box 0 (w.heap.size, [.int .i64 0, .slice none 0 0]) rfl).cell2; have cz1 := (st1.box 0 (w.heap.size, [.int .i64 0, .slice none 0 0]) rfl).2.2; dsimp only at c01 c11 cz1)
    have BB := (st1.1.setCell (p := ⟨w.heap.size, 0, none⟩) (Nat.le_refl _) (.int .i64 0)).setCell (p := ⟨w.heap.size, 1, none⟩) (Nat.le_refl _) (.slice none 0 0)
    refine bodyPost_ret (v := .tuple #[.agg #[.int .i64 0, .slice none 0 0], .int .i64 2]) (by simp [results, Try.results19, go_sem, c01, c11]) rfl ?_
    exact ⟨none, 0, rfl, Sl.nil _ _ _ (Nat.le_refl _) _, BB⟩

set_option maxHeartbeats 2000000 in
theorem CycloAtResidues_impl_nw (n l : Nat) (h1 : 1 ≤ n) (h2 : n ≤ 16) (hl : primeN l = true) (hfn : fullN l n = true) (w : World) (hs : Sl o w lo hi v m f) (hm : m = (roots n l).length) (hr : ResP f m l) :
    Calls Try.prog 19 #[.int .i64 (n : Int), .int .i64 (l : Int), v] w fun e w' => ∃ a k, e = .returned (.tuple #[.agg #[.int .i64 (n : Int), .slice a m k], .int .i64 0]) ∧ Sl true w' w.heap.size w'.heap.size (.slice a m k) m (nwF l m (roots n l) f m) ∧ Below w.heap.size w w' := by
  obtain ⟨av, cap, rfl⟩ := hs.shape
  have hml := hs.len
  unfold maxLen at hml
  have st0 := ((((St.start w).addSl ⟨o, lo, hi, .slice av m cap, m, f⟩ hs).alloc (.cells #[.int .i64 0, .slice none 0 0] 31)).addBox w.heap.size [.int .i64 0, .slice none 0 0] (Box.made _ _ _ _ (fun j v h => by simpa using h)))
  have HL := Lib.hid hl
  have HF := Lib.hid hfn
  have hb := primeN_bd hl
  have hrl := rt_len hl h1 h2 hfn
  have hph := phi_bd n (by omega) h1
  have HT := Lib.hid (fun w => totient_below n w (by omega))
  have HR := Lib.hid hr
  have hmb : ((m : Int) != ((phiN n : Nat) : Int)) = false := by rw [hm, hrl]; simp
  have HIN := Lib.hid (fun (o o2 : Bool) (lo hi lo2 hi2 : Nat) (v v2 : Value) (w : World) (h : Sl o w lo hi v m (rtF (roots n l))) (h' : Sl o2 w lo2 hi2 v2 m f) => by
    have := interpolated_any n l h1 h2 hl hfn w (o := o) (lo := lo) (hi := hi) (v := v) (o2 := o2) (lo2 := lo2) (hi2 := hi2) (v2 := v2) (f := f)
    rw [← hm] at this
    exact this h h' hr)
  have HRT := Lib.hid (fun w => rootsFor_any n l h1 h2 hl w)
  rw [← hm] at HRT
  clear hl hfn hr hs hrl hm
  go_enter Try.func19, Try.ntmps19
  go_wp2_with (first
    | (go_at_call 34; refine (haveRoots_yes n l h1 h2 HL.out HF.out _).mono ?_; rintro e w1 ⟨rfl, b1⟩; have st1 := st0.keep b1; obtain ⟨c01, c11⟩ := (st1.box 0 (w.heap.size, [.int .i64 0, .slice none 0 0]) rfl).cell2; have cz1 := (st1.box 0 (w.heap.size, [.int .i64 0, .slice none 0 0]) rfl).2.2; dsimp only at c01 c11 cz1; have hz1 := b1.size)
    | (go_at_call 31; refine (HT.out _).mono ?_; rintro e w2 ⟨rfl, b2⟩; have st2 := st1.keep b2; obtain ⟨c02, c12⟩ := (st2.box 0 (w.heap.size, [.int .i64 0, .slice none 0 0]) rfl).cell2; have cz2 := (st2.box 0 (w.heap.size, [.int .i64 0, .slice none 0 0]) rfl).2.2; dsimp only at c02 c12 cz2; have q2 := st2.sl 0 ⟨o, lo, hi, .slice av m cap, m, f⟩ rfl; dsimp only at q2; have hz2 := b2.size)
    | (go_at_call 39; refine (areResidues_yes _ _ (by omega) (by omega) q2 HR.out).mono ?_; rintro e w3 ⟨rfl, rfl⟩)
    | (go_at_call 35; refine (HRT.out _).mono ?_; rintro e w3 ⟨a3, k3, rfl, s3, b3⟩; have st3 := st2.keep b3; obtain ⟨c03, c13⟩ := (st3.box 0 (w.heap.size, [.int .i64 0, .slice none 0 0]) rfl).cell2; have cz3 := (st3.box 0 (w.heap.size, [.int .i64 0, .slice none 0 0]) rfl).2.2; dsimp only at c03 c13 cz3; have q3 := st3.sl 0 ⟨o, lo, hi, .slice av m cap, m, f⟩ rfl; dsimp only at q3; have hz3 := b3.size)
    | (go_at_call 40; refine (HIN.out _ _ _ _ _ _ _ _ _ s3 q3).mono ?_; rintro e w4 ⟨a4, k4, rfl, s4, b4⟩; have st4 := st3.keep b4; obtain ⟨c04, c14⟩ := (st4.box 0 (w.heap.size, [.int .i64 0, .slice none 0 0]) rfl).cell2; have cz4 := (st4.box 0 (w.heap.size, [.int .i64 0, .slice none 0 0]) rfl).2.2; dsimp only at c04 c14 cz4; have hz4 := b4.size))
  simp only [World.size_alloc] at hz1
  have BB := (st4.1.setCell (p := ⟨w.heap.size, 0, none⟩) (Nat.le_refl _) (.int .i64 (n : Int))).setCell (p := ⟨w.heap.size, 1, none⟩) (Nat.le_refl _) (.slice a4 m k4)
  refine bodyPost_ret (v := .tuple #[.agg #[.int .i64 (n : Int), .slice a4 m k4], .int .i64 0]) (by simp [results, Try.results19, go_sem, c04, c14]) rfl ?_
  exact ⟨a4, k4, rfl, ((s4.setOther (p := ⟨w.heap.size, 0, none⟩) (.inl (by show w.heap.size < w3.heap.size; omega)) (.int .i64 (n : Int))).setOther (p := ⟨w.heap.size, 1, none⟩) (.inl (by show w.heap.size < w3.heap.size; omega)) (.slice a4 m k4)).wide (by omega) (by simp) (Nat.le_refl _), BB⟩
end
end Go.Proofs.Ythookppmclimkaa
