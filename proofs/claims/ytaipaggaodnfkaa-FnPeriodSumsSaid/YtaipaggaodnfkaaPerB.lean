/- RefinePeriods of the program and of the model. -/
import Derived.Test.YtaipaggaodnfkaaPerA
namespace Go.Proofs.Ytaipaggaodnfkaa
open Go.RowKit Go.ChangeShapes Go.Sort
set_option linter.unusedVariables false
set_option linter.unusedSimpArgs false

theorem hc_nil {p e : Int} (h : ¬ HcP p e) : ¬ (HcP p e ∧ ∀ j, j < 0 → 0 ≤ (fun _ => (0 : Int)) j ∧ (fun _ => (0 : Int)) j < e) := fun h' => h h'.1
section
variable {o : Bool} {lo hi : Nat} {v : Value} {n : Nat} {f : Nat → Int}
theorem RefinePeriods_impl_bad (p d e : Int) (w : World) (hs : Sl o w lo hi v n f) (h : ¬ (HcP p e ∧ SumP p d n f ∧ e % d = 0)) :
    Calls Try.prog 47 #[.int .i64 p, .int .i64 d, .int .i64 e, v] w fun r w' => ∃ a' k', r = .returned (.tuple #[.slice a' 0 k', .int .i64 2]) ∧ Sl true w' w.heap.size w'.heap.size (.slice a' 0 k') 0 (fun _ => 0) ∧ Below w.heap.size w w' := by
  obtain ⟨a, cap, rfl⟩ := hs.shape
  have HS := Lib.hid hs
  clear hs
  by_cases hc : HcP p e
  · obtain ⟨P, E, rfl, rfl, c1, c2, c3, c4⟩ := hc.nat
    have HP := Lib.hid c1
    have HD := Lib.hid c4
    by_cases hp : SumP P d n f
    · have hne : ¬ (E : Int) % d = 0 := fun h' => h ⟨hc, hp, h'⟩
      obtain ⟨P', hP', rfl, _, h2, h3, h4, h5⟩ := hp.nat
      obtain rfl : P = P' := by omega
      have HD2 := Lib.hid h4
      have HW := Lib.hid h5
      have hn0 : ¬ n = 0 := by omega
      have hb2 : (((E : Int) % (n : Int)) != 0) = true := by rw [bne_iff_ne]; exact hne
      clear hc hp h c1 c4 h4 h5 hne
      go_enter Try.func47, Try.ntmps47
      go_wp2_with (first
        | (go_at_call 61; refine (haveClasses_yes P E HP.out c2 c3 HD.out _).mono ?_; rintro r w1 ⟨rfl, b1⟩)
        | (go_at_call 74; refine (isPeriodSum_yes P n HP.out h2 h3 HD2.out _ (HS.out.keep b1 HS.out.size) HW.out).mono ?_; rintro r w2 ⟨rfl, b2⟩))
      go_ret2
      exact ⟨none, 0, rfl, Sl.nil _ _ _ (Nat.le_refl _) _, b1.trans (b2.mono b1.size)⟩
    · have H := Lib.hid hp
      clear hc hp h c1 c4
      go_enter Try.func47, Try.ntmps47
      go_wp2_with (first
        | (go_at_call 61; refine (haveClasses_yes P E HP.out c2 c3 HD.out _).mono ?_; rintro r w1 ⟨rfl, b1⟩)
        | (go_at_call 74; refine (isPeriodSum_no P d _ (HS.out.keep b1 HS.out.size) H.out).mono ?_; rintro r w2 ⟨rfl, b2⟩))
      go_ret2
      exact ⟨none, 0, rfl, Sl.nil _ _ _ (Nat.le_refl _) _, b1.trans (b2.mono b1.size)⟩
  · have H := Lib.hid hc
    clear hc h
    go_enter Try.func47, Try.ntmps47
    go_wp2_with (go_at_call 61; refine (haveClasses_no p e H.out _).mono ?_; rintro r w1 ⟨rfl, b1⟩)
    go_ret2
    exact ⟨none, 0, rfl, Sl.nil _ _ _ (Nat.le_refl _) _, b1⟩

theorem RefinePeriods_spec_bad (p d e : Int) (w : World) (hs : Sl o w lo hi v n f) (h : ¬ (HcP p e ∧ SumP p d n f ∧ e % d = 0)) :
    Calls Try.prog 48 #[.int .i64 p, .int .i64 d, .int .i64 e, v] w fun r w' => ∃ a' k', r = .returned (.tuple #[.slice a' 0 k', .int .i64 2]) ∧ Sl true w' w.heap.size w'.heap.size (.slice a' 0 k') 0 (fun _ => 0) ∧ Below w.heap.size w w' := by
  obtain ⟨a, cap, rfl⟩ := hs.shape
  have HS := Lib.hid hs
  clear hs
  by_cases hc : HcP p e
  · obtain ⟨P, E, rfl, rfl, c1, c2, c3, c4⟩ := hc.nat
    have HP := Lib.hid c1
    have HD := Lib.hid c4
    by_cases hd : 1 ≤ d ∧ d ≤ (E : Int)
    · obtain ⟨D, rfl⟩ := Int.eq_ofNat_of_zero_le (show 0 ≤ d by omega)
      have hn0 : ¬ D = 0 := by omega
      by_cases hr : (E : Int) % (D : Int) = 0
      · have H := Lib.hid (sum_one (fun hp => h ⟨hc, hp, hr⟩))
        have hb2 : (((E : Int) % (D : Int)) != 0) = false := by rw [hr]; rfl
        clear hc h c1 c4 hr
        go_enter Try.func48, Try.ntmps48
        go_wp2_with (first
          | (go_at_call 63; refine (l06Code_yes P E HP.out c2 c3 HD.out _ (o := false) (Sl.nil _ 0 0 (Nat.zero_le _) (fun _ => 0)) (fun j hj => absurd hj (Nat.not_lt_zero _))).mono ?_; rintro r w1 ⟨rfl, m1, rfl⟩)
          | (go_at_call 67; refine (l01In_yes _ _ _ _ (by omega) (by omega)).mono ?_; rintro r w2 ⟨rfl, rfl⟩)
          | (go_at_call 77; refine (l06Sum_no _ _ _ (by omega) (Heads.one (HS.out.drewN _) _) H.out).mono ?_; rintro r w3 ⟨rfl, m3, rfl⟩))
        go_ret2
        exact ⟨none, 0, rfl, Sl.nil _ _ _ (Nat.le_refl _) _, below_drewN ((below_drewN (Below.refl w.heap.size w) m1).alloc (by simp) _) _⟩
      · have hb2 : (((E : Int) % (D : Int)) != 0) = true := by rw [bne_iff_ne]; exact hr
        clear hc h c1 c4 hr
        go_enter Try.func48, Try.ntmps48
        go_wp2_with (first
          | (go_at_call 63; refine (l06Code_yes P E HP.out c2 c3 HD.out _ (o := false) (Sl.nil _ 0 0 (Nat.zero_le _) (fun _ => 0)) (fun j hj => absurd hj (Nat.not_lt_zero _))).mono ?_; rintro r w1 ⟨rfl, m1, rfl⟩)
          | (go_at_call 67; refine (l01In_yes _ _ _ _ (by omega) (by omega)).mono ?_; rintro r w2 ⟨rfl, rfl⟩))
        go_ret2
        exact ⟨none, 0, rfl, Sl.nil _ _ _ (Nat.le_refl _) _, below_drewN (Below.refl w.heap.size w) _⟩
    · have HO := Lib.hid (show d < 1 ∨ (E : Int) < d by omega)
      clear hc h c1 c4 hd
      go_enter Try.func48, Try.ntmps48
      go_wp2_with (first
        | (go_at_call 63; refine (l06Code_yes P E HP.out c2 c3 HD.out _ (o := false) (Sl.nil _ 0 0 (Nat.zero_le _) (fun _ => 0)) (fun j hj => absurd hj (Nat.not_lt_zero _))).mono ?_; rintro r w1 ⟨rfl, m1, rfl⟩)
        | (go_at_call 67; refine (l01In_no _ _ _ _ HO.out).mono ?_; rintro r w2 ⟨rfl, rfl⟩))
      go_ret2
      exact ⟨none, 0, rfl, Sl.nil _ _ _ (Nat.le_refl _) _, below_drewN (Below.refl w.heap.size w) _⟩
  · have H := Lib.hid (hc_nil hc)
    clear hc h
    go_enter Try.func48, Try.ntmps48
    go_wp2_with (go_at_call 63; refine (l06Code_no p e _ (o := false) (Sl.nil _ 0 0 (Nat.zero_le _) (fun _ => 0)) H.out).mono ?_; rintro r w1 ⟨rfl, m1, rfl⟩)
    go_ret2
    exact ⟨none, 0, rfl, Sl.nil _ _ _ (Nat.le_refl _) _, below_drewN (Below.refl w.heap.size w) _⟩

set_option maxRecDepth 100000 in
set_option maxHeartbeats 1000000 in
theorem RefinePeriods_impl_ok (p e : Nat) (hp : primeN p = true) (h1 : 1 ≤ n) (h2 : n ≤ 12) (hd : (p - 1) % n = 0) (e1 : 1 ≤ e) (e2 : e ≤ 12) (ed : (p - 1) % e = 0) (hde : (e : Int) % (n : Int) = 0) (w : World) (hs : Sl o w lo hi v n f) (hw : Within f n 1000) :
    Calls Try.prog 47 #[.int .i64 (p : Int), .int .i64 (n : Int), .int .i64 (e : Int), v] w fun r w' => ∃ a' k', r = .returned (.tuple #[.slice a' e k', .int .i64 0]) ∧ Sl true w' w.heap.size w'.heap.size (.slice a' e k') e (fun j => f (j % n)) ∧ Below w.heap.size w w' := by
  have HP := Lib.hid hp
  have HD := Lib.hid hd
  have HE := Lib.hid ed
  have HW := Lib.hid hw
  have hb2 : (((e : Int) % (n : Int)) != 0) = false := by rw [hde]; rfl
  have hn0 : ¬ n = 0 := by omega
  obtain ⟨a, cap, rfl⟩ := hs.shape
  have HS := Lib.hid hs
  clear hp hd hw hs ed hde
  have hmk := run_make_row' (P := Try.prog) 33 2 (.int .i64 0) 8 Try.underlying33 Try.info2 rfl .i64 .i64 e (by omega) (by omega)
  go_enter Try.func47, Try.ntmps47
  go_wp2_with (first
    | (go_at_call 61; refine (haveClasses_yes p e HP.out e1 e2 HE.out _).mono ?_; rintro r w1 ⟨rfl, b1⟩)
    | (go_at_call 74; refine (isPeriodSum_yes p n HP.out h1 h2 HD.out _ (HS.out.keep b1 HS.out.size) HW.out).mono ?_; rintro r w2 ⟨rfl, b2⟩))
  have st1 := (((St.start w).addSl ⟨o, lo, hi, .slice a n cap, n, f⟩ HS.out).keep b1).keep b2
  have q0 := Sl.made w2 (madeCells #[.int .i64 0] e) 2 e e (fun _ => 0) (Nat.le_refl _) (by unfold maxLen; omega) (fun j hj => by simp [inR]) (fun j hj => by simp [madeCells_at _ _ _ hj])
  have hz1 := b1.size
  have hz2 := b2.size
  have Q0 := Lib.hid (q0.congr (f' := fun j => if j < 0 then f (j % n) else 0) (fun j hj => by simp))
  have ST := Lib.hid (st1.alloc (.cells (madeCells #[.int .i64 0] e) 2))
  have hhs := HS.out.size
  clear st1 q0 hmk b1 b2
  go_loopw [32] (fun s32 wr => ∃ i : Nat, i ≤ e ∧ s32 = .int .i64 (i : Int) ∧ Sl true wr w2.heap.size (w2.heap.size + 1) (.slice (some ⟨w2.heap.size, 0, none⟩) e e) e (fun j => if j < i then f (j % n) else 0) ∧ St w wr [] [⟨o, lo, hi, .slice a n cap, n, f⟩]) (fun s32 _ => e - (intOf s32).toNat)
  case atStart => exact ⟨0, Nat.zero_le _, rfl, Q0.out, ST.out⟩
  case round =>
    clear Q0 ST
    obtain ⟨i, hi', rfl, hq, hst⟩ := hrel
    have HQ := Lib.hid hq
    have HT := Lib.hid hst
    clear hq hst
    by_cases hlt : i < e
    · obtain ⟨g, off, cap', hv, _, hg, _, _, hc, _⟩ := (HT.out.sl 0 ⟨o, lo, hi, .slice a n cap, n, f⟩ rfl).at (by show 0 < n; omega)
      dsimp only at hv hc hg
      obtain ⟨rfl, rfl⟩ : a = some ⟨g, off, none⟩ ∧ cap = cap' := by cases hv; exact ⟨rfl, rfl⟩
      clear hv
      obtain ⟨t, ht⟩ : ∃ t, i % n = t := ⟨_, rfl⟩
      have htn : t < n := by rw [← ht]; exact Nat.mod_lt _ (by omega)
      have hidx : (i : Int) % (n : Int) = (t : Int) := by rw [← Int.natCast_emod, ht]
      have hck := hc t htn
      clear hc
      have hct := (HQ.out.known (by omega)).2.2.2.1 i hlt
      rw [Nat.zero_add] at hct
      have hft := (HQ.out.known (by omega)).2.2.2.2 rfl i
      have hwi := HW.out t htn
      have HTT := Lib.hid ht
      clear ht
      go_wp2
      go_roundw
      case rel =>
        refine ⟨i + 1, by omega, by go_num, (HQ.out.store0 hlt (x := f t) (by unfold inR; omega)).congr (fun y hy => ?_), HT.out.write (lo := w2.heap.size) (hi := w2.heap.size + 1) ((Frame.refl _ _ _).setCell (p := ⟨w2.heap.size, i, none⟩) (Nat.le_refl _) (Nat.lt_succ_self _) _) (by omega) (by intro b hb; cases hb) (by intro s hs'; simp only [List.mem_cons, List.not_mem_nil, or_false] at hs'; rcases hs' with rfl; left; show hi ≤ _; omega)⟩
        try dsimp only
        by_cases ey : y = i
        · subst ey; rw [if_pos rfl, if_pos (Nat.lt_succ_self _), HTT.out]
        · rw [if_neg ey]
          by_cases ey2 : y < i
          · rw [if_pos ey2, if_pos (by omega)]
          · rw [if_neg ey2, if_neg (by omega)]
      case measure => simp [intOf]; omega
    · obtain rfl : i = e := by omega
      have BB := HT.out.1
      have hqs := HQ.out.size
      go_wp2
      go_ret2
      exact ⟨_, _, rfl, (HQ.out.congr (fun y hy => by rw [if_pos hy])).wide (by omega) hqs (Nat.le_refl _), BB⟩

set_option maxRecDepth 100000 in
set_option maxHeartbeats 1000000 in
theorem RefinePeriods_spec_ok (p e : Nat) (hp : primeN p = true) (h1 : 1 ≤ n) (h2 : n ≤ 12) (hd : (p - 1) % n = 0) (e1 : 1 ≤ e) (e2 : e ≤ 12) (ed : (p - 1) % e = 0) (hde : (e : Int) % (n : Int) = 0) (w : World) (hs : Sl o w lo hi v n f) (hw : Within f n 1000) :
    Calls Try.prog 48 #[.int .i64 (p : Int), .int .i64 (n : Int), .int .i64 (e : Int), v] w fun r w' => ∃ a' k', r = .returned (.tuple #[.slice a' e k', .int .i64 0]) ∧ Sl true w' w.heap.size w'.heap.size (.slice a' e k') e (fun j => f (j % n)) ∧ Below w.heap.size w w' := by
  have HP := Lib.hid hp
  have HD := Lib.hid hd
  have HE := Lib.hid ed
  have HW := Lib.hid hw
  have hb2 : (((e : Int) % (n : Int)) != 0) = false := by rw [hde]; rfl
  have hn0 : ¬ n = 0 := by omega
  have hle : n ≤ e := by
    rcases Nat.lt_or_ge e n with h' | h'
    · rw [Int.emod_eq_of_lt (by omega) (by omega)] at hde; omega
    · exact h'
  obtain ⟨a, cap, rfl⟩ := hs.shape
  have HS := Lib.hid hs
  clear hp hd hw hs ed hde
  go_enter Try.func48, Try.ntmps48
  go_wp2_with (first
    | (go_at_call 63; refine (l06Code_yes p e HP.out e1 e2 HE.out _ (o := false) (Sl.nil _ 0 0 (Nat.zero_le _) (fun _ => 0)) (fun j hj => absurd hj (Nat.not_lt_zero _))).mono ?_; rintro r w1 ⟨rfl, m1, rfl⟩)
    | (go_at_call 67; refine (l01In_yes _ _ _ _ (by omega) (by omega)).mono ?_; rintro r w2 ⟨rfl, rfl⟩)
    | (go_at_call 77; refine (l06Sum_yes p n HP.out h1 h2 HD.out _ (by omega) (Heads.one (HS.out.drewN _) _) (fun i _ => ⟨rfl, HW.out⟩)).mono ?_; rintro r w3 ⟨rfl, m3, rfl⟩))
  have st1 := ((((St.start w).addSl ⟨o, lo, hi, .slice a n cap, n, f⟩ HS.out).drewN m1).alloc (.cells #[.slice a n cap] 33)).drewN m3
  have r1 := Row.made (((w.drewN m1).alloc (.cells #[.slice a n cap] 33)).drewN m3) (w.heap.size + 1) (fun j => f (j % n)) (by simp)
  rw [show (((w.drewN m1).alloc (.cells #[.slice a n cap] 33)).drewN m3).heap.size = w.heap.size + 1 by simp] at r1
  have R1 := Lib.hid r1
  clear r1
  have ST := Lib.hid (st1.alloc (.cells #[] 2))
  have hhs := HS.out.size
  clear st1
  go_wp2
  go_loopw [11, 12] (fun s11 s12 wr => ∃ (i g cap1 : Nat), i ≤ e ∧ s11 = .slice (some ⟨g, 0, none⟩) i cap1 ∧ s12 = .int .i64 (i : Int) ∧ Row wr (w.heap.size + 1) g cap1 i (fun j => f (j % n)) ∧ St w wr [] [⟨o, lo, hi, .slice a n cap, n, f⟩]) (fun _ s12 _ => e - (intOf s12).toNat)
  case atStart => exact ⟨0, _, _, Nat.zero_le _, rfl, rfl, R1.out, ST.out⟩
  case round =>
    clear R1 ST
    obtain ⟨i, g, cap1, hi', rfl, rfl, hr, hst⟩ := hrel
    have R1 := Lib.hid hr
    have HT := Lib.hid hst
    clear hr hst
    obtain ⟨hl, hl'⟩ := R1.out.lt
    by_cases hlt : i < e
    · obtain ⟨g1, off, cap', hv, _, hg, _, _, hc, _⟩ := (HT.out.sl 0 ⟨o, lo, hi, .slice a n cap, n, f⟩ rfl).at (by show 0 < n; omega)
      dsimp only at hv hc hg
      obtain ⟨rfl, rfl⟩ : a = some ⟨g1, off, none⟩ ∧ cap = cap' := by cases hv; exact ⟨rfl, rfl⟩
      clear hv
      obtain ⟨t, ht⟩ : ∃ t, i % n = t := ⟨_, rfl⟩
      have htn : t < n := by rw [← ht]; exact Nat.mod_lt _ (by omega)
      have hidx : (i : Int) % (n : Int) = (t : Int) := by rw [← Int.natCast_emod, ht]
      have hck := hc t htn
      clear hc
      have HTT := Lib.hid ht
      clear ht
      go_wp2_with (at_builtin; refine wpList_push rfl (.tmp 46) (.tmp 53) rfl rfl (w.heap.size + 1) g cap1 i (fun j => f (j % n)) rfl (R1.out.alloc _) wr.heap.size (f t) rfl (heap_alloc_new wr _) (by omega) ?_; intro gA kA wA rowA grA orA ltA
                   have stA := Lib.hid ((HT.out.alloc (.cells #[.int .i64 (f t)] 2)).write (Frame.ofGrown grA) (by omega) (by intro b hb; cases hb) (by intro s hs'; simp only [List.mem_cons, List.not_mem_nil, or_false] at hs'; rcases hs' with rfl; left; show hi ≤ _; omega))
                   have RA := Lib.hid rowA
                   clear rowA grA)
      go_roundw
      case rel => exact ⟨i + 1, gA, kA, by omega, rfl, by go_num, RA.out.congr (fun j hj => by
          by_cases e : j < i
          · rw [if_pos e]
          · rw [if_neg e, show j = i by omega, HTT.out]), stA.out⟩
      case measure => simp [intOf]; omega
    · obtain rfl : i = e := by omega
      have BB := HT.out.1
      go_wp2
      go_ret2
      refine ⟨_, _, rfl, ?_, BB⟩
      exact (Sl.ofRowF R1.out (fun j hj => by have := HW.out (j % n) (Nat.mod_lt _ (by omega)); unfold inR; omega) (by unfold maxLen; omega)).wide (by omega) (Nat.le_refl _) (Nat.le_refl _)
end
end Go.Proofs.Ytaipaggaodnfkaa
