/- ClassOf and ClassMembers of the model. -/
import Derived.Test.YtaipaggaodnfkaaPerD
namespace Go.Proofs.Ytaipaggaodnfkaa
open Go.RowKit Go.ChangeShapes Go.Sort
set_option linter.unusedVariables false
set_option linter.unusedSimpArgs false

theorem ind_cls {p e x : Nat} (hx : x ≠ 0) : indV p x = (idxN p x : Nat) := by unfold indV; rw [if_neg hx]
theorem ind_mod (p e x : Nat) : ((idxN p x : Nat) : Int) % (e : Int) = ((clsN p e x : Nat) : Int) := by unfold clsN; rw [Int.natCast_emod]
theorem ClassOf_spec_bad (p e x : Int) (h : ¬ (HcP p e ∧ 1 ≤ x ∧ x < p)) (w : World) :
    Calls Try.prog 23 #[.int .i64 p, .int .i64 e, .int .i64 x] w fun r w' => r = .returned (.tuple #[.int .i64 0, .int .i64 2]) ∧ Below w.heap.size w w' := by
  by_cases hc : HcP p e
  · have HX := Lib.hid (show x < 1 ∨ p - 1 < x by
      rcases Int.lt_or_le x 1 with h' | h'
      · exact .inl h'
      · rcases Int.lt_or_le x p with h2 | h2
        · exact absurd ⟨hc, h', h2⟩ h
        · exact .inr (by omega))
    obtain ⟨P, E, rfl, rfl, c1, c2, c3, c4⟩ := hc.nat
    have HP := Lib.hid c1
    have HD := Lib.hid c4
    have hb := primeN_bd c1
    clear hc h c1 c4
    go_enter Try.func23, Try.ntmps23
    go_wp2_with (first
      | (go_at_call 63; refine (l06Code_yes P E HP.out c2 c3 HD.out _ (o := false) (Sl.nil _ 0 0 (Nat.zero_le _) (fun _ => 0)) (fun j hj => absurd hj (Nat.not_lt_zero _))).mono ?_; rintro r w1 ⟨rfl, m1, rfl⟩)
      | (go_at_call 67; refine (l01In_no _ _ _ _ HX.out).mono ?_; rintro r w2 ⟨rfl, rfl⟩))
    refine bodyPost_ret (v := .tuple #[.int .i64 0, .int .i64 2]) (by simp [results, Try.results23, go_sem]) rfl ?_
    exact ⟨rfl, below_drewN (Below.refl w.heap.size w) _⟩
  · have H := Lib.hid (hc_nil hc)
    clear hc h
    go_enter Try.func23, Try.ntmps23
    go_wp2_with (go_at_call 63; refine (l06Code_no p e _ (o := false) (Sl.nil _ 0 0 (Nat.zero_le _) (fun _ => 0)) H.out).mono ?_; rintro r w1 ⟨rfl, m1, rfl⟩)
    refine bodyPost_ret (v := .tuple #[.int .i64 0, .int .i64 2]) (by simp [results, Try.results23, go_sem]) rfl ?_
    exact ⟨rfl, below_drewN (Below.refl w.heap.size w) _⟩
set_option maxHeartbeats 1000000 in
theorem ClassOf_spec_ok (p e x : Nat) (hp : primeN p = true) (h1 : 1 ≤ e) (h2 : e ≤ 12) (hd : (p - 1) % e = 0) (hx1 : 1 ≤ x) (hx2 : x < p) (w : World) :
    Calls Try.prog 23 #[.int .i64 (p : Int), .int .i64 (e : Int), .int .i64 (x : Int)] w fun r w' => r = .returned (.tuple #[.int .i64 (clsN p e x : Nat), .int .i64 0]) ∧ Below w.heap.size w w' := by
  have hb := primeN_bd hp
  have HP := Lib.hid hp
  have HD := Lib.hid hd
  have he0 : ¬ e = 0 := by omega
  clear hp hd
  go_enter Try.func23, Try.ntmps23
  go_wp2_with (first
    | (go_at_call 63; refine (l06Code_yes p e HP.out h1 h2 HD.out _ (o := false) (Sl.nil _ 0 0 (Nat.zero_le _) (fun _ => 0)) (fun j hj => absurd hj (Nat.not_lt_zero _))).mono ?_; rintro r w1 ⟨rfl, m1, rfl⟩)
    | (go_at_call 67; refine (l01In_yes _ _ _ _ (by omega) (by omega)).mono ?_; rintro r w2 ⟨rfl, rfl⟩)
    | (go_at_call 68; refine (l06Indices_any p HP.out _).mono ?_; rintro r w3 ⟨g3, rfl, s3, b3⟩
       have hc3 := (s3.known (by omega)).2.2.2.1 x hx2
       rw [Nat.zero_add, ind_cls (e := e) (by omega)] at hc3))
  have HM := Lib.hid (ind_mod p e x)
  refine bodyPost_ret (v := .tuple #[.int .i64 (clsN p e x : Nat), .int .i64 0]) (by simp [results, Try.results23, go_sem, HM.out]) rfl ?_
  exact ⟨rfl, (below_drewN (Below.refl w.heap.size w) m1).trans (b3.mono (by simp))⟩

theorem class_one {p e i : Int} (h : ¬ (HcP p e ∧ 0 ≤ i ∧ i < e)) : ¬ (HcP p e ∧ ∀ j, j < 1 → 0 ≤ (fun _ => i : Nat → Int) j ∧ (fun _ => i : Nat → Int) j < e) := fun h' => h ⟨h'.1, h'.2 0 (by omega)⟩
theorem Sl.one (w : World) (i : Int) (hi : inR i) : Sl true (w.alloc (.cells #[.int .i64 i] 2)) w.heap.size (w.heap.size + 1) (.slice (some ⟨w.heap.size, 0, none⟩) 1 1) 1 (fun _ => i) :=
  Sl.made w #[.int .i64 i] 2 1 1 (fun _ => i) (Nat.le_refl _) (by decide) (fun j _ => hi) (fun j hj => by
    match j, hj with
    | 0, _ => rfl)
theorem ClassMembers_spec_bad (p e i : Int) (hi : inR i) (h : ¬ (HcP p e ∧ 0 ≤ i ∧ i < e)) (w : World) :
    Calls Try.prog 26 #[.int .i64 p, .int .i64 e, .int .i64 i] w fun r w' => ∃ a' k', r = .returned (.tuple #[.slice a' 0 k', .int .i64 2]) ∧ Sl true w' w.heap.size w'.heap.size (.slice a' 0 k') 0 (fun _ => 0) ∧ Below w.heap.size w w' := by
  have H := Lib.hid (class_one h)
  clear h
  go_enter Try.func26, Try.ntmps26
  go_wp2_with (go_at_call 63; refine (l06Code_no p e _ (Sl.one _ i hi) H.out).mono ?_; rintro r w1 ⟨rfl, m1, rfl⟩)
  go_ret2
  exact ⟨none, 0, rfl, Sl.nil _ _ _ (Nat.le_refl _) _, below_drewN ((Below.refl w.heap.size w).alloc (Nat.le_refl _) _) _⟩
set_option maxRecDepth 100000 in
set_option maxHeartbeats 2000000 in
theorem ClassMembers_spec_ok (p e I : Nat) (hp : primeN p = true) (h1 : 1 ≤ e) (h2 : e ≤ 12) (hd : (p - 1) % e = 0) (hI : I < e) (w : World) :
    Calls Try.prog 26 #[.int .i64 (p : Int), .int .i64 (e : Int), .int .i64 (I : Int)] w fun r w' => ∃ a' k', r = .returned (.tuple #[.slice a' (cmL p e I (List.range (p - 1))).length k', .int .i64 0]) ∧ Sl true w' w.heap.size w'.heap.size (.slice a' (cmL p e I (List.range (p - 1))).length k') (cmL p e I (List.range (p - 1))).length (cmF (cmL p e I (List.range (p - 1)))) ∧ Below w.heap.size w w' := by
  have hb := primeN_bd hp
  obtain ⟨m, hm⟩ : ∃ m, p - 1 = m := ⟨_, rfl⟩
  have HM := Lib.hid hm
  have HP := Lib.hid hp
  have HD := Lib.hid hd
  rw [hm]
  have hm60 : m ≤ 60 := by omega
  have he0 : ¬ e = 0 := by omega
  clear hp hm hd
  go_enter Try.func26, Try.ntmps26
  go_wp2_with (first
    | (go_at_call 63; refine (l06Code_yes p e HP.out h1 h2 HD.out _ (Sl.one _ (I : Int) (by unfold inR; omega)) (fun j hj => ⟨by show (0 : Int) ≤ (I : Int); omega, by show (I : Int) < (e : Int); omega⟩)).mono ?_; rintro r w1 ⟨rfl, m1, rfl⟩)
    | (go_at_call 68; refine (l06Indices_any p HP.out _).mono ?_; rintro r w3 ⟨g3, rfl, s3, b3⟩))
  have hz3 := b3.size
  rw [show ((w.alloc (.cells #[.int .i64 (I : Int)] 2)).drewN m1).heap.size = w.heap.size + 1 by simp] at s3 hz3
  have st1 := ((((St.start w).alloc (.cells #[.int .i64 (I : Int)] 2)).drewN m1).keep b3).addSl ⟨true, w.heap.size + 1, w3.heap.size, .slice (some ⟨g3, 0, none⟩) p p, p, indV p⟩ s3
  have R1 := Lib.hid (Row.made w3 w3.heap.size (cmF (cmL p e I [])) (Nat.le_refl _))
  have ST := Lib.hid (st1.alloc (.cells #[] 2))
  clear st1 s3 b3
  go_wp2
  go_loopw [10, 11] (fun s10 s11 wr => ∃ (k g cap : Nat), k ≤ m ∧ s10 = .slice (some ⟨g, 0, none⟩) (cmL p e I (List.range k)).length cap ∧ s11 = .int .i64 ((k : Int) + 1) ∧ Row wr w3.heap.size g cap (cmL p e I (List.range k)).length (cmF (cmL p e I (List.range k))) ∧ St w wr [] [⟨true, w.heap.size + 1, w3.heap.size, .slice (some ⟨g3, 0, none⟩) p p, p, indV p⟩]) (fun _ s11 _ => p + 1 - (intOf s11).toNat)
  case atStart => exact ⟨0, _, _, by omega, rfl, rfl, R1.out, ST.out⟩
  case round =>
    clear R1 ST
    obtain ⟨k, g, cap, hk, rfl, rfl, hr, hst⟩ := hrel
    have R1 := Lib.hid hr
    have HT := Lib.hid hst
    clear hr hst
    obtain ⟨hl, hl'⟩ := R1.out.lt
    have hkl := cmL_len p e I (List.range k)
    rw [List.length_range] at hkl
    have hpm := HM.out
    by_cases hlt : k < m
    · have hc := ((HT.out.sl 0 ⟨true, w.heap.size + 1, w3.heap.size, .slice (some ⟨g3, 0, none⟩) p p, p, indV p⟩ rfl).known (by show 0 < p; omega)).2.2.2.1 (k + 1) (by show k + 1 < p; omega)
      dsimp only at hc
      rw [Nat.zero_add, ind_cls (e := e) (by omega)] at hc
      have HMD := Lib.hid (ind_mod p e (k + 1))
      have hmodI : ((idxN p (k + 1) : Nat) : Int) % (e : Int) = ((clsN p e (k + 1) : Nat) : Int) := HMD.out
      have hltp : (k : Int) + 1 < (p : Int) := by omega
      by_cases hx : clsN p e (k + 1) = I
      · have hxb : (((clsN p e (k + 1) : Nat) : Int) == (I : Int)) = true := by rw [hx]; simp
        have HL := Lib.hid (show cmL p e I (List.range (k + 1)) = cmL p e I (List.range k) ++ [k + 1] by rw [List.range_succ]; exact cmL_yes _ hx)
        clear hx hpm
        generalize cmL p e I (List.range k) = L at *
        go_wp2_with (at_builtin; refine wpList_push rfl (.tmp 36) (.tmp 38) rfl rfl w3.heap.size g cap L.length (cmF L) rfl (R1.out.alloc _) wr.heap.size ((k : Int) + 1) rfl (heap_alloc_new wr _) (by omega) ?_; intro gA kA wA rowA grA orA ltA
                     have stA := Lib.hid ((HT.out.alloc (.cells #[.int .i64 ((k : Int) + 1)] 2)).write (Frame.ofGrown grA) (by omega) (by intro b hb; cases hb) (by intro s hs'; simp only [List.mem_cons, List.not_mem_nil, or_false] at hs'; rcases hs' with rfl; left; show w3.heap.size ≤ _; omega))
                     have RA := Lib.hid rowA
                     clear rowA grA)
        go_roundw
        case rel =>
          refine ⟨k + 1, gA, kA, by omega, by rw [HL.out, List.length_append]; rfl, by go_num, ?_, stA.out⟩
          rw [HL.out, List.length_append]
          exact RA.out.congr (fun j hj => by rw [cmF_push L (k + 1) j hj]; split <;> simp)
        case measure => simp [intOf] <;> omega
      · have hxb : (((clsN p e (k + 1) : Nat) : Int) == (I : Int)) = false := beq_eq_false_iff_ne.2 (by omega)
        have HL := Lib.hid (show cmL p e I (List.range (k + 1)) = cmL p e I (List.range k) by rw [List.range_succ]; exact cmL_no _ hx)
        clear hx hpm
        go_wp2
        go_roundw
        case rel => exact ⟨k + 1, g, cap, by omega, by rw [HL.out], by go_num, by rw [HL.out]; exact R1.out, HT.out⟩
        case measure => simp [intOf] <;> omega
    · obtain rfl : k = m := by omega
      have hge : ¬ (k : Int) + 1 < (p : Int) := by omega
      have BB := HT.out.1
      clear hpm
      go_wp2
      go_ret2
      refine ⟨_, _, rfl, ?_, BB⟩
      exact (Sl.ofRowF R1.out (fun j hj => cmF_inR hm60) (by unfold maxLen; omega)).wide (by omega) (Nat.le_refl _) (Nat.le_refl _)

theorem ClassOf_impl_ok (p e x : Nat) (hp : primeN p = true) (h1 : 1 ≤ e) (h2 : e ≤ 12) (hd : (p - 1) % e = 0) (hx1 : 1 ≤ x) (hx2 : x < p) (w : World) :
    Calls Try.prog 22 #[.int .i64 (p : Int), .int .i64 (e : Int), .int .i64 (x : Int)] w fun r w' => r = .returned (.tuple #[.int .i64 (clsN p e x : Nat), .int .i64 0]) ∧ Below w.heap.size w w' :=
  (ClassOf_impl_any p e x hp h1 h2 hd w).mono fun r w' ⟨he, hB⟩ => ⟨by
    rcases he with ⟨i, hi, hx, rfl⟩ | ⟨hno, _⟩
    · obtain rfl : x = i + 1 := by omega
      rfl
    · exact absurd (show (x : Int) = ((x - 1 : Nat) : Int) + 1 by omega) (hno (x - 1) (by omega)), hB⟩
theorem ClassOf_impl_out (p e x : Int) (h : ¬ (HcP p e ∧ 1 ≤ x ∧ x < p)) (w : World) :
    Calls Try.prog 22 #[.int .i64 p, .int .i64 e, .int .i64 x] w fun r w' => r = .returned (.tuple #[.int .i64 0, .int .i64 2]) ∧ Below w.heap.size w w' := by
  by_cases hc : HcP p e
  · obtain ⟨P, E, rfl, rfl, c1, c2, c3, c4⟩ := hc.nat
    have hb := primeN_bd c1
    refine (ClassOf_impl_any P E x c1 c2 c3 c4 w).mono fun r w' ⟨he, hB⟩ => ⟨?_, hB⟩
    rcases he with ⟨i, hi, hx, rfl⟩ | ⟨_, rfl⟩
    · exact absurd ⟨hc, by omega, by omega⟩ h
    · rfl
  · exact ClassOf_impl_bad p e x hc w
end Go.Proofs.Ytaipaggaodnfkaa
