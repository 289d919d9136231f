/- IrregularOf of the program and of the model. -/
import Derived.Test.YtonopjbccdpbhaaRgK
namespace Go.Proofs.Ytonopjbccdpbhaa
open Go.RowKit Go.ChangeShapes Go.Sort
set_option linter.unusedVariables false
set_option linter.unusedSimpArgs false
set_option maxRecDepth 100000
set_option maxHeartbeats 4000000

theorem szN (w : World) (m : Nat) : (w.drewN m).heap.size = w.heap.size := rfl
theorem irN_app {p k m : Nat} {i : Nat} (h : irN p m = irN p k ++ [k]) (hi : i < (irN p m).length) : ((irN p m).getD i 0 : Int) = if i < (irN p k).length then ((irN p k).getD i 0 : Int) else (k : Int) := by
  rw [h] at hi ⊢
  simp only [List.getD_eq_getElem?_getD]
  by_cases e : i < (irN p k).length
  · rw [if_pos e, List.getElem?_append_left e]
  · rw [List.length_append, List.length_singleton] at hi
    obtain rfl : i = (irN p k).length := by omega
    rw [if_neg e, List.getElem?_append_right (Nat.le_refl _)]
    simp
theorem IrregularOf_impl_no (p : Int) (hp : ¬ PrP p) (w : World) :
    Calls Try.prog 63 #[.int .i64 p] w fun e w' => ∃ a k, e = .returned (.tuple #[.slice a 0 k, .int .i64 2]) ∧ Sl true w' w.heap.size w'.heap.size (.slice a 0 k) 0 (fun _ => 0) ∧ Below w.heap.size w w' := by
  have HP := Lib.hid hp
  clear hp
  go_enter Try.func63, Try.ntmps63
  go_wp2_with (go_at_call 138; refine (isOddPrime_no p HP.out _).mono ?_; rintro e w1 ⟨rfl, m1, rfl⟩)
  go_returns
  exact ⟨none, 0, rfl, Sl.nil _ _ _ (Nat.le_refl _) _, below_drewN (Below.refl _ _) _⟩
theorem IrregularOf_spec_no (p : Int) (hp : ¬ PrP p) (w : World) :
    Calls Try.prog 64 #[.int .i64 p] w fun e w' => ∃ a k, e = .returned (.tuple #[.slice a 0 k, .int .i64 2]) ∧ Sl true w' w.heap.size w'.heap.size (.slice a 0 k) 0 (fun _ => 0) ∧ Below w.heap.size w w' := by
  have HP := Lib.hid hp
  clear hp
  go_enter Try.func64, Try.ntmps64
  go_wp2_with (go_at_call 140; refine (l06Prime_no p HP.out _).mono ?_; rintro e w1 ⟨rfl, m1, rfl⟩)
  go_returns
  exact ⟨none, 0, rfl, Sl.nil _ _ _ (Nat.le_refl _) _, below_drewN (Below.refl _ _) _⟩
theorem IrregularOf_impl_ok (p K : Nat) (hp : primeN p = true) (hK : K + 3 = p) (w : World) :
    Calls Try.prog 63 #[.int .i64 (p : Int)] w fun e w' => ∃ a k, e = .returned (.tuple #[.slice a (irN p (K + 1)).length k, .int .i64 0]) ∧ Sl true w' w.heap.size w'.heap.size (.slice a (irN p (K + 1)).length k) (irN p (K + 1)).length (fun i => ((irN p (K + 1)).getD i 0 : Int)) ∧ Below w.heap.size w w' := by
  have hbd := primeN_bd hp
  have HP := Lib.hid hp
  have HK := Lib.hid hK
  clear hK
  go_enter Try.func63, Try.ntmps63
  go_wp2_with (first
    | (go_at_call 138; refine (isOddPrime_yes p HP.out _).mono ?_; rintro e w1 ⟨rfl, m1, rfl⟩
       have R0 := Row.made (w.drewN m1) w.heap.size (fun i => ((irN p 0).getD i 0 : Int)) (Nat.le_refl _)
       have st := ((St.start w).drewN m1).alloc (.cells #[] 2))
    | (go_at_call 139; refine (bernoulliResidues_any p K HP.out HK.out _).mono ?_; rintro e w2 ⟨g, cap, rfl, r2, b2⟩
       replace st := st.keep b2
       have R1 := R0.keepR (Frame.of_below (lo := w2.heap.size + w.heap.size + 1) (hi := 0) b2 (Nat.le_refl _)) (by omega)
       have hg2 := r2.lt
       simp only [World.size_alloc, szN] at r2 hg2))
  obtain ⟨B0, hB0⟩ : ∃ B0, w.heap.size + 1 + 1 = B0 := ⟨_, rfl⟩
  rw [hB0] at r2 hg2
  have HB0 := Lib.hid hB0
  clear hB0 R0
  have HR := Lib.hid r2
  have HRR := Lib.hid R1
  have HST := Lib.hid st
  clear r2 R1 st b2
  go_loopw [4, 14] (fun s4 s14 wr => ∃ (k g2 cap2 : Nat), k ≤ K + 1 ∧ s4 = .slice (some ⟨g2, 0, none⟩) (irN p k).length cap2 ∧ s14 = .int .i64 (k : Int) ∧ g2 ≠ g ∧ Row wr w.heap.size g2 cap2 (irN p k).length (fun i => ((irN p k).getD i 0 : Int)) ∧ RowE wr B0 139 2 g cap (K + 1) (fun i => [.int .i64 (beR p i : Int), .int .i64 (p : Int)]) ∧ St w wr [] []) (fun _ s14 _ => K + 1 - (intOf s14).toNat)
  case atStart => exact ⟨0, w.heap.size, _, by omega, rfl, rfl, by have := HB0.out; omega, HRR.out, HR.out, HST.out⟩
  case round =>
    clear HR HRR HST
    obtain ⟨k, g2, cap2, hk, rfl, rfl, hne, hr2, hre, st⟩ := hrel
    have R2 := Lib.hid hr2
    have RE := Lib.hid hre
    have hgl := hr2.lt
    have hgr := hre.lt
    clear hr2 hre
    have hlen := irN_len p k
    have hK61 : K ≤ 58 := by have := HK.out; omega
    by_cases hlt : k < K + 1
    · have hki : (k : Int) < (K : Int) + 1 := by omega
      have hq0 := RE.out.cell (fun _ => rfl) hlt (show 0 < 2 by omega)
      have hq1 := RE.out.cell (fun _ => rfl) hlt (show 1 < 2 by omega)
      simp only [Nat.add_zero, List.getElem?_cons_zero, List.getElem?_cons_succ] at hq0 hq1
      by_cases hyes : 2 ≤ k ∧ k % 2 = 0 ∧ beR p k = 0
      · have HY := Lib.hid (irN_yes hyes)
        obtain ⟨y1, y2, y3⟩ := hyes
        rw [y3] at hq0
        have hk2 : (2 : Int) ≤ (k : Int) := by omega
        have ha1 : (k : Int) % 2 = 0 := by omega
        have ha2 : (k : Int).tmod 2 = 0 := by rw [Int.tmod_eq_emod_of_nonneg (by omega)]; exact ha1
        clear y2 y3
        have hnew : ((wr.alloc (.cells #[.int .i64 0, .int .i64 (p : Int)] 139)).alloc (.cells #[.int .i64 (k : Int)] 2)).heap[wr.heap.size + 1]? = some (.cells #[.int .i64 (k : Int)] 2) := by
          have := heap_alloc_new (wr.alloc (.cells #[.int .i64 0, .int .i64 (p : Int)] 139)) (.cells #[.int .i64 (k : Int)] 2)
          simpa using this
        go_wp2_with (first
          | (at_builtin; refine wpList_push rfl (.tmp 32) (.tmp 34) rfl rfl w.heap.size g2 cap2 (irN p k).length (fun i => ((irN p k).getD i 0 : Int)) rfl ((R2.out.alloc _).alloc _) (wr.heap.size + 1) (k : Int) rfl hnew (by omega) ?_; intro gA kA wA rowA grA orA ltA
             have FA := Frame.ofGrown grA
             have stA := Lib.hid (((st.alloc (.cells #[.int .i64 0, .int .i64 (p : Int)] 139)).alloc (.cells #[.int .i64 (k : Int)] 2)).write FA (by omega) (by intro b hb; cases hb) (by intro s hs'; cases hs'))
             have REA := Lib.hid (((RE.out.alloc (.cells #[.int .i64 0, .int .i64 (p : Int)] 139)).alloc (.cells #[.int .i64 (k : Int)] 2)).keepF FA (by omega))
             have RA := Lib.hid rowA
             simp only [World.size_alloc] at orA
             clear rowA grA FA))
        go_roundw
        case rel =>
          refine ⟨k + 1, gA, kA, by omega, by rw [HY.out, List.length_append, List.length_singleton], by go_num, by omega, ?_, REA.out, stA.out⟩
          have e := RA.out.congr (f' := (fun i => ((irN p (k + 1)).getD i 0 : Int))) (fun i hi => (irN_app HY.out (by rw [HY.out, List.length_append, List.length_singleton]; exact hi)).symm)
          rw [HY.out, List.length_append, List.length_singleton]
          rw [HY.out] at e
          exact e
        case measure => simp [intOf] <;> omega
      · have HY := Lib.hid (irN_no hyes)
        obtain ⟨b, hb⟩ : ∃ b, beR p k = b := ⟨_, rfl⟩
        rw [hb] at hq0 hyes
        clear hb
        have RN := Lib.hid ((R2.out.alloc (.cells #[.int .i64 (b : Int), .int .i64 (p : Int)] 139)).congr (f' := (fun i => ((irN p (k + 1)).getD i 0 : Int))) (fun i hi => by rw [HY.out]))
        have REN := Lib.hid (RE.out.alloc (.cells #[.int .i64 (b : Int), .int .i64 (p : Int)] 139))
        have STN := Lib.hid (st.alloc (.cells #[.int .i64 (b : Int), .int .i64 (p : Int)] 139))
        by_cases h1 : k < 2
        · have hk2 : ¬ (2 : Int) ≤ (k : Int) := by omega
          clear hyes
          go_wp2
          go_roundw
          case rel => exact ⟨k + 1, g2, cap2, by omega, by rw [HY.out], by go_num, hne, by rw [HY.out]; rw [HY.out] at RN; exact RN.out, REN.out, STN.out⟩
          case measure => simp [intOf] <;> omega
        · have hk2 : (2 : Int) ≤ (k : Int) := by omega
          by_cases h3 : k % 2 = 0
          · have hbz : ¬ (b : Int) = 0 := by omega
            have hb0 : ((b : Int) == 0) = false := beq_eq_false_iff_ne.2 hbz
            have ha1 : (k : Int) % 2 = 0 := by omega
            have ha2 : (k : Int).tmod 2 = 0 := by rw [Int.tmod_eq_emod_of_nonneg (by omega)]; exact ha1
            clear hyes h3 h1
            go_wp2
            go_roundw
            case rel => exact ⟨k + 1, g2, cap2, by omega, by rw [HY.out], by go_num, hne, by rw [HY.out]; rw [HY.out] at RN; exact RN.out, REN.out, STN.out⟩
            case measure => simp [intOf] <;> omega
          · have ha1 : (k : Int) % 2 = 1 := by omega
            have ha2 : (k : Int).tmod 2 = 1 := by rw [Int.tmod_eq_emod_of_nonneg (by omega)]; exact ha1
            clear hyes h3 h1
            go_wp2
            go_roundw
            case rel => exact ⟨k + 1, g2, cap2, by omega, by rw [HY.out], by go_num, hne, by rw [HY.out]; rw [HY.out] at RN; exact RN.out, REN.out, STN.out⟩
            case measure => simp [intOf] <;> omega
    · obtain rfl : k = K + 1 := by omega
      have BB := st.1
      have hki : ¬ ((K + 1 : Nat) : Int) < (K : Int) + 1 := by omega
      go_wp2
      go_returns
      exact ⟨_, _, rfl, Sl.ofRowF R2.out (fun i hi => by have h9 := irN_lt (p := p) hi; simp only [List.getD_eq_getElem?_getD] at h9 ⊢; unfold inR; omega) (by unfold maxLen; omega), BB⟩
theorem IrregularOf_spec_ok (p K : Nat) (hp : primeN p = true) (hK : K + 3 = p) (w : World) :
    Calls Try.prog 64 #[.int .i64 (p : Int)] w fun e w' => ∃ a k, e = .returned (.tuple #[.slice a (irN p (K + 1)).length k, .int .i64 0]) ∧ Sl true w' w.heap.size w'.heap.size (.slice a (irN p (K + 1)).length k) (irN p (K + 1)).length (fun i => ((irN p (K + 1)).getD i 0 : Int)) ∧ Below w.heap.size w w' := by
  have hbd := primeN_bd hp
  have HP := Lib.hid hp
  have HK := Lib.hid hK
  have wq : IntKind.i64.wrap ((p : Int) - 3) = (p : Int) - 3 := by rw [IntKind.wrap_i64]; omega
  clear hK
  go_enter Try.func64, Try.ntmps64
  go_wp2_with (first
    | (go_at_call 140; refine (l06Prime_yes p HP.out _).mono ?_; rintro e w1 ⟨rfl, m1, rfl⟩
       have st := ((St.start w).drewN m1))
    | (go_at_call 141; refine (l10Bernoulli_any p K HP.out HK.out _).mono ?_; rintro e w2 ⟨g, cap, rfl, s2, b2⟩
       replace st := st.keep b2
       have R1 := Row.made w2 w.heap.size (fun i => ((irN p 2).getD i 0 : Int)) b2.size
       have hz2 := b2.size
       simp only [szN] at s2 hz2))
  obtain ⟨lo2, hlo2⟩ : ∃ l, w.heap.size = l := ⟨_, rfl⟩
  obtain ⟨hi2, hhi2⟩ : ∃ l, w2.heap.size = l := ⟨_, rfl⟩
  rw [hlo2, hhi2] at s2
  have HL := Lib.hid (show w.heap.size = lo2 ∧ w2.heap.size = hi2 from ⟨hlo2, hhi2⟩)
  have hl2 : (irN p 2).length = 0 := by
    have h0 : irN p 2 = irN p 1 := irN_no (by omega)
    have h1 : irN p 1 = irN p 0 := irN_no (by omega)
    rw [h0, h1]; rfl
  have R1' : Row (w2.alloc (.cells #[] 2)) w.heap.size w2.heap.size 0 (irN p 2).length (fun i => ((irN p 2).getD i 0 : Int)) := by rw [hl2]; exact R1
  have HRR := Lib.hid R1'
  have HST := Lib.hid ((st.addSl ⟨true, lo2, hi2, .slice (some ⟨g, 0, none⟩) (K + 1) cap, K + 1, fun i => (beR p i : Int)⟩ s2).alloc (.cells #[] 2))
  have HL2 := Lib.hid hl2
  clear s2 R1 R1' st b2 hl2 hlo2 hhi2
  go_loopw [5, 6] (fun s5 s6 wr => ∃ (k g2 cap2 : Nat), k % 2 = 0 ∧ 2 ≤ k ∧ k ≤ K + 2 ∧ s5 = .slice (some ⟨g2, 0, none⟩) (irN p k).length cap2 ∧ s6 = .int .i64 (k : Int) ∧ w2.heap.size ≤ g2 ∧ Row wr w.heap.size g2 cap2 (irN p k).length (fun i => ((irN p k).getD i 0 : Int)) ∧ St w wr [] [⟨true, lo2, hi2, .slice (some ⟨g, 0, none⟩) (K + 1) cap, K + 1, fun i => (beR p i : Int)⟩]) (fun _ s6 _ => K + 3 - (intOf s6).toNat)
  case atStart => exact ⟨2, w2.heap.size, _, rfl, by omega, by omega, by rw [HL2.out], rfl, Nat.le_refl _, HRR.out, HST.out⟩
  case round =>
    clear HRR HST HL2
    obtain ⟨k, g2, cap2, hev, hk2, hk, rfl, rfl, hg2, hr2, st⟩ := hrel
    have R2 := Lib.hid hr2
    have hgl := hr2.lt
    clear hr2
    have hlen := irN_len p k
    have HS := Lib.hid (irN_no (p := p) (k := k + 1) (by omega))
    by_cases hlt : k ≤ K
    · have hki : (k : Int) ≤ (p : Int) - 3 := by have := HK.out; omega
      have hki2 : (k : Int) < (K : Int) + 1 := by omega
      have hq0 := (st.sl 0 ⟨true, lo2, hi2, .slice (some ⟨g, 0, none⟩) (K + 1) cap, K + 1, fun i => (beR p i : Int)⟩ rfl).known (by show 0 < K + 1; omega)
      replace hq0 := hq0.2.2.2.1 k (by show k < K + 1; omega)
      dsimp only at hq0
      rw [Nat.zero_add] at hq0
      have hK61 : K ≤ 58 := by have := HK.out; omega
      by_cases hz : beR p k = 0
      · have HY := Lib.hid (irN_yes (p := p) (k := k) ⟨hk2, hev, hz⟩)
        rw [hz] at hq0
        clear hz
        go_wp2_with (first
          | (at_builtin; refine wpList_push rfl (.tmp 24) (.tmp 26) rfl rfl w.heap.size g2 cap2 (irN p k).length (fun i => ((irN p k).getD i 0 : Int)) rfl (R2.out.alloc _) wr.heap.size (k : Int) rfl (heap_alloc_new wr _) (by omega) ?_; intro gA kA wA rowA grA orA ltA
             have FA := Frame.ofGrown grA
             have hsl := (st.sl 0 ⟨true, lo2, hi2, .slice (some ⟨g, 0, none⟩) (K + 1) cap, K + 1, fun i => (beR p i : Int)⟩ rfl).size
             dsimp only at hsl
             have stA := Lib.hid ((st.alloc (.cells #[.int .i64 (k : Int)] 2)).write FA (by omega) (by intro b hb; cases hb) (by have := HL.out; intro s hs'; simp only [List.mem_cons, List.not_mem_nil, or_false] at hs'; rcases hs' with rfl; dsimp only; omega))
             have RA := Lib.hid rowA
             simp only [World.size_alloc] at orA
             clear rowA grA FA))
        go_roundw
        case rel =>
          refine ⟨k + 2, gA, kA, by omega, by omega, by omega, by rw [HS.out, HY.out, List.length_append, List.length_singleton], by go_num, by have := HL.out; omega, ?_, stA.out⟩
          have e := RA.out.congr (f' := (fun i => ((irN p (k + 2)).getD i 0 : Int))) (fun i hi => by rw [HS.out]; exact (irN_app HY.out (by rw [HY.out, List.length_append, List.length_singleton]; exact hi)).symm)
          rw [HS.out, HY.out, List.length_append, List.length_singleton]
          rw [HS.out, HY.out] at e
          exact e
        case measure => simp [intOf] <;> omega
      · have HY := Lib.hid (irN_no (p := p) (k := k) (fun h => hz h.2.2))
        have hbz : ¬ (beR p k : Int) = 0 := by omega
        have hb0 : ((beR p k : Int) == 0) = false := beq_eq_false_iff_ne.2 hbz
        clear hz
        go_wp2
        go_roundw
        case rel =>
          refine ⟨k + 2, g2, cap2, by omega, by omega, by omega, by rw [HS.out, HY.out], by go_num, hg2, ?_, st⟩
          rw [HS.out, HY.out]
          exact R2.out
        case measure => simp [intOf] <;> omega
    · have BB := st.1
      have hki : ¬ (k : Int) ≤ (p : Int) - 3 := by have := HK.out; omega
      have HE := Lib.hid (show irN p k = irN p (K + 1) from by
        by_cases e : k = K + 1
        · rw [e]
        · have : k = K + 2 := by omega
          rw [this]
          exact irN_no (by omega))
      have hK61 : K ≤ 58 := by have := HK.out; omega
      go_wp2
      go_returns
      rw [← HE.out]
      exact ⟨_, _, rfl, Sl.ofRowF R2.out (fun i hi => by have h9 := irN_lt (p := p) hi; simp only [List.getD_eq_getElem?_getD] at h9 ⊢; unfold inR; omega) (by unfold maxLen; omega), BB⟩
end Go.Proofs.Ytonopjbccdpbhaa
