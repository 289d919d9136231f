/- l10Times of the model. -/
import Derived.Test.YtonopjbccdpbhaaRgY
import Derived.Test.YtonopjbccdpbhaaRgT
namespace Go.Proofs.Ytonopjbccdpbhaa
open Go.RowKit Go.ChangeShapes Go.Sort
set_option linter.unusedVariables false
set_option linter.unusedSimpArgs false
set_option maxRecDepth 100000
set_option maxHeartbeats 4000000
theorem prK_bd {n : Nat} {f g : Nat → Int} (h : n < 41) (h2 : 2 ≤ n) (hf : Within f (phiN n) 100000) (hg : Within g (phiN n) 100000) {i k j : Nat} (hi : i < phiN n) (hj : j < phiN n) : -1000000000000 ≤ prK n f g i k j ∧ prK n f g i k j ≤ 1000000000000 := by
  have hp := phi_le40 n h
  have h1 := prR_bd h h2 rfl hf hg hj i (by omega)
  have a := hf i hi
  have b := hg (kxR n i j) (kx_ok h h2 hi hj).1
  have h3 := mulR_bd (A := 100000) (B := 100000) (by omega) (by omega) a.1 a.2 b.1 b.2
  unfold prK
  by_cases e : kxR n i j < k
  · rw [if_pos e]; omega
  · rw [if_neg e]; omega
section
variable {o o' : Bool} {lo hi lo' hi' n : Nat} {v v' : Value} {f g : Nat → Int}
theorem l10Times_any (N : Nat) (w : World) (hs : Sl o w lo hi v n f) (ht : Sl o' w lo' hi' v' n g) (h2 : 2 ≤ N) (h40 : N ≤ 40) (hn : n = phiN N) (hfw : Within f (phiN N) 100000) (hgw : Within g (phiN N) 100000) :
    Calls Try.prog 102 #[.agg #[.int .i64 (N : Int), v], .agg #[.int .i64 (N : Int), v']] w fun e w' => ∃ a' k', e = .returned (.agg #[.int .i64 (N : Int), .slice a' (phiN N) k']) ∧ Sl true w' w.heap.size w'.heap.size (.slice a' (phiN N) k') (phiN N) (fun j => prR N f g (phiN N) j) ∧ Below w.heap.size w w' := by
  have hp := phi_le40 N (by omega)
  have hp0 := phi_pos40 N (by omega) (by omega)
  have HKB := Lib.hid (fun i k j (hi : i < phiN N) (hj : j < phiN N) => prK_bd (n := N) (k := k) (by omega) h2 hfw hgw hi hj)
  have HFB := Lib.hid hfw
  have HGB := Lib.hid hgw
  have HN := Lib.hid hn
  have hnp : 0 < n := by omega
  have hn41 : n ≤ 39 := by omega
  have hhs := hs.size
  have hht := ht.size
  obtain ⟨b, off, cap, rfl, -⟩ := hs.at hnp
  obtain ⟨b', off', cap', rfl, -⟩ := ht.at hnp
  have st := ((St.start w).addSl ⟨o', lo', hi', .slice (some ⟨b', off', none⟩) n cap', n, g⟩ ht).addSl ⟨o, lo, hi, .slice (some ⟨b, off, none⟩) n cap, n, f⟩ hs
  clear hs ht hfw hgw hn
  go_enter Try.func102, Try.ntmps102
  go_wp2_with (first
    | ((fail_if_success (have _g := Z1)); refine wpList_boxR rfl _ rfl (v0 := .int .i64 (N : Int)) (v1 := .slice (some ⟨b, off, none⟩) n cap) rfl ?_; intro w1 x1 b1 z1
       replace st := (st.keep b1).addBox _ _ x1
       have Z1 := Lib.hid z1
       clear x1 b1 z1)
    | (refine wpList_boxR rfl _ rfl (v0 := .int .i64 (N : Int)) (v1 := .slice (some ⟨b', off', none⟩) n cap') rfl ?_; intro w2 x2 b2 z2
       replace st := (st.keep b2).addBox _ _ x2
       have Z2 := Lib.hid z2
       clear x2 b2 z2)
    | ((fail_if_success (have _g := Z3)); refine wpList_allocR rfl rfl ?_; intro w3 x3 b3 z3
       replace st := (st.keep b3).addBox _ _ x3
       have Z3 := Lib.hid z3
       clear x3 b3 z3))
  (try simp only [Act.put, List.getElem_toArray, List.getElem_cons_zero, List.getElem_cons_succ, List.setIfInBounds_toArray, List.set_cons_zero, List.set_cons_succ])
  have hz12 : w.heap.size < w1.heap.size := by have := Z1.out; omega
  have hz23 : w1.heap.size < w2.heap.size := by have := Z2.out; omega
  replace st := st.subR (bs' := [(w2.heap.size, [.int .i64 0, .slice none 0 0]), (w.heap.size, [.int .i64 (N : Int), .slice (some ⟨b, off, none⟩) n cap]), (w1.heap.size, [.int .i64 (N : Int), .slice (some ⟨b', off', none⟩) n cap'])]) (ss' := [⟨o, lo, hi, .slice (some ⟨b, off, none⟩) n cap, n, f⟩, ⟨o', lo', hi', .slice (some ⟨b', off', none⟩) n cap', n, g⟩]) (by intro q hq; simp only [List.mem_cons, List.not_mem_nil, or_false] at hq ⊢; rcases hq with rfl | rfl | rfl <;> simp) (fun _ h => h)
  go_cut [5, 6] (fun s4 s5 wx => ∃ nb lo1 hi1 a1 k1 lo2 hi2 g2 k2, s4 = .pointer (some ⟨nb, 0, none⟩) ∧ s5 = .slice (some ⟨g2, 0, none⟩) (phiN N) k2 ∧ Apart w2.heap.size nb lo1 hi1 lo2 hi2 ∧ St w wx [(nb, [.int .i64 (N : Int), .slice a1 (phiN N) k1]), (w2.heap.size, [.int .i64 0, .slice none 0 0]), (w.heap.size, [.int .i64 (N : Int), .slice (some ⟨b, off, none⟩) n cap]), (w1.heap.size, [.int .i64 (N : Int), .slice (some ⟨b', off', none⟩) n cap'])] [⟨true, lo2, hi2, .slice (some ⟨g2, 0, none⟩) (phiN N) k2, phiN N, fun k => (res N k : Int)⟩, ⟨true, lo1, hi1, .slice a1 (phiN N) k1, phiN N, fun _ => 0⟩, ⟨o, lo, hi, .slice (some ⟨b, off, none⟩) n cap, n, f⟩, ⟨o', lo', hi', .slice (some ⟨b', off', none⟩) n cap', n, g⟩])
  case first =>
    replace st := st.drew
    have szB := st.1.size
    have szR := (st.box 0 (w2.heap.size, [.int .i64 0, .slice none 0 0]) rfl).1
    dsimp only at szR
    simp only [World.size_drew] at szB szR
    refine wp_region_held_drew (S := fun wy => St w wy [(w2.heap.size, [.int .i64 0, .slice none 0 0]), (w.heap.size, [.int .i64 (N : Int), .slice (some ⟨b, off, none⟩) n cap]), (w1.heap.size, [.int .i64 (N : Int), .slice (some ⟨b', off', none⟩) n cap'])] [⟨o, lo, hi, .slice (some ⟨b, off, none⟩) n cap, n, f⟩, ⟨o', lo', hi', .slice (some ⟨b', off', none⟩) n cap', n, g⟩]) (by kernel_rfl) (st) (fun hHeld => ?_)
    refine wpAnyH_take (i := 0) (v := .pointer (some ⟨w.heap.size, 0, none⟩)) rfl (by kernel_rfl) (by kernel_rfl) (by kernel_rfl) (fun _ _ _ h => h) (Or.inl ⟨by rfl, ?_⟩) hHeld ?_
    · intro wy hy; go_simp
    (try simp only [Act.put, List.getElem_toArray, List.getElem_cons_zero, List.getElem_cons_succ, List.setIfInBounds_toArray, List.set_cons_zero, List.set_cons_succ])
    refine wpAnyH_take (i := 3) (v := .pointer (some ⟨w.heap.size, 0, none⟩)) rfl (by kernel_rfl) (by kernel_rfl) (by kernel_rfl) (fun _ _ _ h => h) (Or.inl ⟨by rfl, ?_⟩) hHeld ?_
    · intro wy hy; go_simp
    (try simp only [Act.put, List.getElem_toArray, List.getElem_cons_zero, List.getElem_cons_succ, List.setIfInBounds_toArray, List.set_cons_zero, List.set_cons_succ])
    refine wpAnyH_take (i := 1) (v := .int .i64 (N : Int)) rfl (by kernel_rfl) (by kernel_rfl) (by kernel_rfl) (fun _ _ _ h => h) (Or.inl ⟨by rfl, ?_⟩) hHeld ?_
    · intro wy hy; obtain ⟨c0, c1⟩ := (hy.box 1 (w.heap.size, [.int .i64 (N : Int), .slice (some ⟨b, off, none⟩) n cap]) rfl).cell2; go_simp
    (try simp only [Act.put, List.getElem_toArray, List.getElem_cons_zero, List.getElem_cons_succ, List.setIfInBounds_toArray, List.set_cons_zero, List.set_cons_succ])
    refine wpAnyH_take (i := 4) (v := .int .i64 (N : Int)) rfl (by kernel_rfl) (by kernel_rfl) (by kernel_rfl) (fun _ _ _ h => h) (Or.inl ⟨by rfl, ?_⟩) hHeld ?_
    · intro wy hy; obtain ⟨c0, c1⟩ := (hy.box 1 (w.heap.size, [.int .i64 (N : Int), .slice (some ⟨b, off, none⟩) n cap]) rfl).cell2; go_simp
    (try simp only [Act.put, List.getElem_toArray, List.getElem_cons_zero, List.getElem_cons_succ, List.setIfInBounds_toArray, List.set_cons_zero, List.set_cons_succ])
    refine wpAnyH_ready (rs := [2, 6]) (by kernel_rfl) (by simp) ?_
    refine AllReadyH.cons rfl (fun K hK => ?_) (AllReadyH.cons rfl (fun K hK => ?_) AllReadyH.nil)
    · rw [if_pos (by rfl)]
      (try simp only [List.getElem_toArray, List.getElem_cons_zero, List.getElem_cons_succ])
      go_simp
      go_at_call 109
      refine (l10Zero_let N (by omega) h40 _).mono ?_
      rintro e w6 ⟨l6, h6, a6, k6, rfl, s6, hl6, hh6, b6⟩
      try simp only [World.size_drew] at hl6
      have z6 := b6.size
      try simp only [World.size_drew] at z6
      have zz6 := Lib.hid z6
      skip
      replace st := (st.keep b6).addSl ⟨true, l6, h6, .slice a6 (phiN N) k6, phiN N, fun _ => 0⟩ s6
      try simp only [World.size_drew] at st
      clear s6
      refine hK.out _ _ (hHeld.keep b6) (fun hHeld => ?_)
      clear b6
      clear hK K
      (try simp only [Act.put, List.getElem_toArray, List.getElem_cons_zero, List.getElem_cons_succ, List.setIfInBounds_toArray, List.set_cons_zero, List.set_cons_succ])
      refine wpAnyH_ready (rs := [5, 6]) (by kernel_rfl) (by simp) ?_
      refine AllReadyH.cons rfl (fun K hK => ?_) (AllReadyH.cons rfl (fun K hK => ?_) AllReadyH.nil)
      · rw [if_pos (by rfl)]
        (try simp only [List.getElem_toArray, List.getElem_cons_zero, List.getElem_cons_succ])
        go_simp
        go_at_call 112
        refine (l10Residues_let N (by omega) h40 _).mono ?_
        rintro e w7 ⟨l7, h7, g7, k7, rfl, s7, hl7, hh7, b7⟩
        try simp only [World.size_drew] at hl7
        have z7 := b7.size
        try simp only [World.size_drew] at z7
        replace st := (st.keep b7).addSl ⟨true, l7, h7, .slice (some ⟨g7, 0, none⟩) (phiN N) k7, phiN N, fun k => (res N k : Int)⟩ s7
        clear s7
        refine hK.out _ _ (hHeld.keep b7) (fun hHeld => ?_)
        clear b7
        clear hK K
        (try simp only [Act.put, List.getElem_toArray, List.getElem_cons_zero, List.getElem_cons_succ, List.setIfInBounds_toArray, List.set_cons_zero, List.set_cons_succ])
        refine wpAnyH_ready (rs := [6]) (by kernel_rfl) (by simp) ?_
        refine AllReadyH.cons rfl (fun K hK => ?_) AllReadyH.nil
        rw [if_pos (by rfl)]
        (try simp only [List.getElem_toArray, List.getElem_cons_zero, List.getElem_cons_succ])
        refine wp_allocR rfl ?_
        intro w8 nb x8 b8 hn8 hn8' hn8''
        try simp only [World.size_drew] at hn8
        replace st := (st.keep b8).addBox _ _ x8
        refine hK.out _ _ (hHeld.keep b8) (fun hHeld => ?_)
        clear b8 x8
        clear hK K
        (try simp only [Act.put, List.getElem_toArray, List.getElem_cons_zero, List.getElem_cons_succ, List.setIfInBounds_toArray, List.set_cons_zero, List.set_cons_succ])
        refine wpAnyH_ready (rs := [7]) (by kernel_rfl) (by simp) ?_
        refine AllReadyH.cons rfl (fun K hK => ?_) AllReadyH.nil
        rw [if_pos (by rfl)]
        (try simp only [List.getElem_toArray, List.getElem_cons_zero, List.getElem_cons_succ])
        refine wp_storeR _ _ rfl nb rfl (v0 := .int .i64 (N : Int)) (v1 := .slice a6 (phiN N) k6) rfl rfl rfl (st.box 0 (nb, [.int .i64 0, .slice none 0 0]) rfl) ?_
        intro w9 x9 f9
        replace st := st.headR x9 f9 (by omega) (by intro q hq; simp only [List.mem_cons, List.not_mem_nil, or_false] at hq; rcases hq with rfl | rfl | rfl <;> dsimp only <;> omega) (by intro q hq; simp only [List.mem_cons, List.not_mem_nil, or_false] at hq; rcases hq with rfl | rfl | rfl | rfl <;> dsimp only <;> omega)
        refine hK.out _ _ (st.subR (fun b hb => List.mem_cons_of_mem _ hb) (fun s hs => List.mem_cons_of_mem _ (List.mem_cons_of_mem _ hs))) (fun hHeld => ?_)
        clear x9
        clear hK K
        (try simp only [Act.put, List.getElem_toArray, List.getElem_cons_zero, List.getElem_cons_succ, List.setIfInBounds_toArray, List.set_cons_zero, List.set_cons_succ])
        refine wpAnyH_take (i := 8) (v := .slice (some ⟨g7, 0, none⟩) (phiN N) k7) rfl (by kernel_rfl) (by kernel_rfl) (by kernel_rfl) (fun _ _ _ h => h) (Or.inl ⟨by rfl, ?_⟩) hHeld ?_
        · intro wy hy; go_simp
        (try simp only [Act.put, List.getElem_toArray, List.getElem_cons_zero, List.getElem_cons_succ, List.setIfInBounds_toArray, List.set_cons_zero, List.set_cons_succ])
        refine wpAnyH_done (by kernel_rfl) ?_ _
        go_wp2_with fail
        go_meet
        exact ⟨nb, _, _, a6, k6, _, _, g7, k7, rfl, rfl, ⟨by omega, by omega, by omega, by omega, by omega, by omega⟩, st⟩
      · rw [if_pos (by rfl)]
        (try simp only [List.getElem_toArray, List.getElem_cons_zero, List.getElem_cons_succ])
        refine wp_allocR rfl ?_
        intro w8 nb x8 b8 hn8 hn8' hn8''
        try simp only [World.size_drew] at hn8
        replace st := (st.keep b8).addBox _ _ x8
        refine hK.out _ _ (hHeld.keep b8) (fun hHeld => ?_)
        clear b8 x8
        clear hK K
        (try simp only [Act.put, List.getElem_toArray, List.getElem_cons_zero, List.getElem_cons_succ, List.setIfInBounds_toArray, List.set_cons_zero, List.set_cons_succ])
        refine wpAnyH_ready (rs := [5]) (by kernel_rfl) (by simp) ?_
        refine AllReadyH.cons rfl (fun K hK => ?_) AllReadyH.nil
        rw [if_pos (by rfl)]
        (try simp only [List.getElem_toArray, List.getElem_cons_zero, List.getElem_cons_succ])
        go_simp
        go_at_call 112
        refine (l10Residues_let N (by omega) h40 _).mono ?_
        rintro e w7 ⟨l7, h7, g7, k7, rfl, s7, hl7, hh7, b7⟩
        try simp only [World.size_drew] at hl7
        have z7 := b7.size
        try simp only [World.size_drew] at z7
        replace st := (st.keep b7).addSl ⟨true, l7, h7, .slice (some ⟨g7, 0, none⟩) (phiN N) k7, phiN N, fun k => (res N k : Int)⟩ s7
        clear s7
        refine hK.out _ _ (hHeld.keep b7) (fun hHeld => ?_)
        clear b7
        clear hK K
        (try simp only [Act.put, List.getElem_toArray, List.getElem_cons_zero, List.getElem_cons_succ, List.setIfInBounds_toArray, List.set_cons_zero, List.set_cons_succ])
        refine wpAnyH_ready (rs := [7]) (by kernel_rfl) (by simp) ?_
        refine AllReadyH.cons rfl (fun K hK => ?_) AllReadyH.nil
        rw [if_pos (by rfl)]
        (try simp only [List.getElem_toArray, List.getElem_cons_zero, List.getElem_cons_succ])
        refine wp_storeR _ _ rfl nb rfl (v0 := .int .i64 (N : Int)) (v1 := .slice a6 (phiN N) k6) rfl rfl rfl (st.box 0 (nb, [.int .i64 0, .slice none 0 0]) rfl) ?_
        intro w9 x9 f9
        replace st := st.headR x9 f9 (by omega) (by intro q hq; simp only [List.mem_cons, List.not_mem_nil, or_false] at hq; rcases hq with rfl | rfl | rfl <;> dsimp only <;> omega) (by intro q hq; simp only [List.mem_cons, List.not_mem_nil, or_false] at hq; rcases hq with rfl | rfl | rfl | rfl <;> dsimp only <;> omega)
        refine hK.out _ _ (st.subR (fun b hb => List.mem_cons_of_mem _ hb) (fun s hs => List.mem_cons_of_mem _ (List.mem_cons_of_mem _ hs))) (fun hHeld => ?_)
        clear x9
        clear hK K
        (try simp only [Act.put, List.getElem_toArray, List.getElem_cons_zero, List.getElem_cons_succ, List.setIfInBounds_toArray, List.set_cons_zero, List.set_cons_succ])
        refine wpAnyH_take (i := 8) (v := .slice (some ⟨g7, 0, none⟩) (phiN N) k7) rfl (by kernel_rfl) (by kernel_rfl) (by kernel_rfl) (fun _ _ _ h => h) (Or.inl ⟨by rfl, ?_⟩) hHeld ?_
        · intro wy hy; go_simp
        (try simp only [Act.put, List.getElem_toArray, List.getElem_cons_zero, List.getElem_cons_succ, List.setIfInBounds_toArray, List.set_cons_zero, List.set_cons_succ])
        refine wpAnyH_done (by kernel_rfl) ?_ _
        go_wp2_with fail
        go_meet
        exact ⟨nb, _, _, a6, k6, _, _, g7, k7, rfl, rfl, ⟨by omega, by omega, by omega, by omega, by omega, by omega⟩, st⟩
    · rw [if_pos (by rfl)]
      (try simp only [List.getElem_toArray, List.getElem_cons_zero, List.getElem_cons_succ])
      refine wp_allocR rfl ?_
      intro w8 nb x8 b8 hn8 hn8' hn8''
      try simp only [World.size_drew] at hn8
      replace st := (st.keep b8).addBox _ _ x8
      refine hK.out _ _ (hHeld.keep b8) (fun hHeld => ?_)
      clear b8 x8
      clear hK K
      (try simp only [Act.put, List.getElem_toArray, List.getElem_cons_zero, List.getElem_cons_succ, List.setIfInBounds_toArray, List.set_cons_zero, List.set_cons_succ])
      refine wpAnyH_ready (rs := [2]) (by kernel_rfl) (by simp) ?_
      refine AllReadyH.cons rfl (fun K hK => ?_) AllReadyH.nil
      rw [if_pos (by rfl)]
      (try simp only [List.getElem_toArray, List.getElem_cons_zero, List.getElem_cons_succ])
      go_simp
      go_at_call 109
      refine (l10Zero_let N (by omega) h40 _).mono ?_
      rintro e w6 ⟨l6, h6, a6, k6, rfl, s6, hl6, hh6, b6⟩
      try simp only [World.size_drew] at hl6
      have z6 := b6.size
      try simp only [World.size_drew] at z6
      have zz6 := Lib.hid z6
      skip
      replace st := (st.keep b6).addSl ⟨true, l6, h6, .slice a6 (phiN N) k6, phiN N, fun _ => 0⟩ s6
      try simp only [World.size_drew] at st
      clear s6
      refine hK.out _ _ (hHeld.keep b6) (fun hHeld => ?_)
      clear b6
      clear hK K
      (try simp only [Act.put, List.getElem_toArray, List.getElem_cons_zero, List.getElem_cons_succ, List.setIfInBounds_toArray, List.set_cons_zero, List.set_cons_succ])
      refine wpAnyH_ready (rs := [5]) (by kernel_rfl) (by simp) ?_
      refine AllReadyH.cons rfl (fun K hK => ?_) AllReadyH.nil
      rw [if_pos (by rfl)]
      (try simp only [List.getElem_toArray, List.getElem_cons_zero, List.getElem_cons_succ])
      go_simp
      go_at_call 112
      refine (l10Residues_let N (by omega) h40 _).mono ?_
      rintro e w7 ⟨l7, h7, g7, k7, rfl, s7, hl7, hh7, b7⟩
      try simp only [World.size_drew] at hl7
      have z7 := b7.size
      try simp only [World.size_drew] at z7
      replace st := (st.keep b7).addSl ⟨true, l7, h7, .slice (some ⟨g7, 0, none⟩) (phiN N) k7, phiN N, fun k => (res N k : Int)⟩ s7
      clear s7
      refine hK.out _ _ (hHeld.keep b7) (fun hHeld => ?_)
      clear b7
      clear hK K
      (try simp only [Act.put, List.getElem_toArray, List.getElem_cons_zero, List.getElem_cons_succ, List.setIfInBounds_toArray, List.set_cons_zero, List.set_cons_succ])
      refine wpAnyH_ready (rs := [7]) (by kernel_rfl) (by simp) ?_
      refine AllReadyH.cons rfl (fun K hK => ?_) AllReadyH.nil
      rw [if_pos (by rfl)]
      (try simp only [List.getElem_toArray, List.getElem_cons_zero, List.getElem_cons_succ])
      refine wp_storeR _ _ rfl nb rfl (v0 := .int .i64 (N : Int)) (v1 := .slice a6 (phiN N) k6) rfl rfl rfl (st.box 0 (nb, [.int .i64 0, .slice none 0 0]) rfl) ?_
      intro w9 x9 f9
      replace st := st.headR x9 f9 (by omega) (by intro q hq; simp only [List.mem_cons, List.not_mem_nil, or_false] at hq; rcases hq with rfl | rfl | rfl <;> dsimp only <;> omega) (by intro q hq; simp only [List.mem_cons, List.not_mem_nil, or_false] at hq; rcases hq with rfl | rfl | rfl | rfl <;> dsimp only <;> omega)
      refine hK.out _ _ (st.subR (fun b hb => List.mem_cons_of_mem _ hb) (fun s hs => List.mem_cons_of_mem _ (List.mem_cons_of_mem _ hs))) (fun hHeld => ?_)
      clear x9
      clear hK K
      (try simp only [Act.put, List.getElem_toArray, List.getElem_cons_zero, List.getElem_cons_succ, List.setIfInBounds_toArray, List.set_cons_zero, List.set_cons_succ])
      refine wpAnyH_take (i := 8) (v := .slice (some ⟨g7, 0, none⟩) (phiN N) k7) rfl (by kernel_rfl) (by kernel_rfl) (by kernel_rfl) (fun _ _ _ h => h) (Or.inl ⟨by rfl, ?_⟩) hHeld ?_
      · intro wy hy; go_simp
      (try simp only [Act.put, List.getElem_toArray, List.getElem_cons_zero, List.getElem_cons_succ, List.setIfInBounds_toArray, List.set_cons_zero, List.set_cons_succ])
      refine wpAnyH_done (by kernel_rfl) ?_ _
      go_wp2_with fail
      go_meet
      exact ⟨nb, _, _, a6, k6, _, _, g7, k7, rfl, rfl, ⟨by omega, by omega, by omega, by omega, by omega, by omega⟩, st⟩
  case rest =>
    obtain ⟨nb, lo1, hi1, a1, k1, lo2, hi2, g2, k2, rfl, rfl, hap, st2⟩ := hcut
    clear st
    have st := st2
    clear st2
    have q1 := st.sl 1 ⟨true, lo1, hi1, .slice a1 (phiN N) k1, phiN N, fun _ => 0⟩ rfl
    dsimp only at q1
    obtain ⟨g1, o1, c1', hv1, hg1, hg1', _⟩ := q1.at (by omega)
    obtain ⟨rfl, rfl⟩ : a1 = some ⟨g1, o1, none⟩ ∧ k1 = c1' := by cases hv1; exact ⟨rfl, rfl⟩
    clear hv1 q1
    replace st := st.subR (bs' := [(nb, [.int .i64 (N : Int), .slice (some ⟨g1, o1, none⟩) (phiN N) k1]), (w2.heap.size, [.int .i64 0, .slice none 0 0]), (w.heap.size, [.int .i64 (N : Int), .slice (some ⟨b, off, none⟩) n cap]), (w1.heap.size, [.int .i64 (N : Int), .slice (some ⟨b', off', none⟩) n cap'])]) (ss' := [⟨true, lo1, hi1, .slice (some ⟨g1, o1, none⟩) (phiN N) k1, phiN N, fun _ => 0⟩, ⟨true, lo2, hi2, .slice (some ⟨g2, 0, none⟩) (phiN N) k2, phiN N, fun k => (res N k : Int)⟩, ⟨o, lo, hi, .slice (some ⟨b, off, none⟩) n cap, n, f⟩, ⟨o', lo', hi', .slice (some ⟨b', off', none⟩) n cap', n, g⟩]) (fun _ h => h) (by intro q hq; simp only [List.mem_cons, List.not_mem_nil, or_false] at hq ⊢; rcases hq with rfl | rfl | rfl | rfl <;> simp)
    have HAP := Lib.hid hap
    clear hap
    go_wp2_with fail
    go_loopw [7] (fun s6 wr => ∃ i : Nat, i ≤ phiN N ∧ s6 = .int .i64 (i : Int) ∧ St w wr [(nb, [.int .i64 (N : Int), .slice (some ⟨g1, o1, none⟩) (phiN N) k1]), (w2.heap.size, [.int .i64 0, .slice none 0 0]), (w.heap.size, [.int .i64 (N : Int), .slice (some ⟨b, off, none⟩) n cap]), (w1.heap.size, [.int .i64 (N : Int), .slice (some ⟨b', off', none⟩) n cap'])] [⟨true, lo1, hi1, .slice (some ⟨g1, o1, none⟩) (phiN N) k1, phiN N, fun j => prR N f g i j⟩, ⟨true, lo2, hi2, .slice (some ⟨g2, 0, none⟩) (phiN N) k2, phiN N, fun k => (res N k : Int)⟩, ⟨o, lo, hi, .slice (some ⟨b, off, none⟩) n cap, n, f⟩, ⟨o', lo', hi', .slice (some ⟨b', off', none⟩) n cap', n, g⟩]) (fun s6 _ => phiN N - (intOf s6).toNat)
    case atStart =>
      refine ⟨0, by omega, rfl, ?_⟩
      exact (st.subR (bs' := [(nb, [.int .i64 (N : Int), .slice (some ⟨g1, o1, none⟩) (phiN N) k1]), (w2.heap.size, [.int .i64 0, .slice none 0 0]), (w.heap.size, [.int .i64 (N : Int), .slice (some ⟨b, off, none⟩) n cap]), (w1.heap.size, [.int .i64 (N : Int), .slice (some ⟨b', off', none⟩) n cap'])]) (ss' := [⟨true, lo2, hi2, .slice (some ⟨g2, 0, none⟩) (phiN N) k2, phiN N, fun k => (res N k : Int)⟩, ⟨o, lo, hi, .slice (some ⟨b, off, none⟩) n cap, n, f⟩, ⟨o', lo', hi', .slice (some ⟨b', off', none⟩) n cap', n, g⟩]) (fun _ h => h) (fun _ h => List.mem_cons_of_mem _ h)).addSl ⟨true, lo1, hi1, .slice (some ⟨g1, o1, none⟩) (phiN N) k1, phiN N, fun j => prR N f g 0 j⟩ ((st.sl 0 ⟨true, lo1, hi1, .slice (some ⟨g1, o1, none⟩) (phiN N) k1, phiN N, fun _ => 0⟩ rfl).congr (fun j hj => rfl))
    case round =>
      clear st
      obtain ⟨i, hik, rfl, st⟩ := hrel
      by_cases hil : i < phiN N
      · have hii : (i : Int) < (phiN N : Int) := by omega
        go_wp2_with fail
        go_loopw [8] (fun s8 wr => ∃ k : Nat, k ≤ phiN N ∧ s8 = .int .i64 (k : Int) ∧ St w wr [(nb, [.int .i64 (N : Int), .slice (some ⟨g1, o1, none⟩) (phiN N) k1]), (w2.heap.size, [.int .i64 0, .slice none 0 0]), (w.heap.size, [.int .i64 (N : Int), .slice (some ⟨b, off, none⟩) n cap]), (w1.heap.size, [.int .i64 (N : Int), .slice (some ⟨b', off', none⟩) n cap'])] [⟨true, lo1, hi1, .slice (some ⟨g1, o1, none⟩) (phiN N) k1, phiN N, fun j => prK N f g i k j⟩, ⟨true, lo2, hi2, .slice (some ⟨g2, 0, none⟩) (phiN N) k2, phiN N, fun k => (res N k : Int)⟩, ⟨o, lo, hi, .slice (some ⟨b, off, none⟩) n cap, n, f⟩, ⟨o', lo', hi', .slice (some ⟨b', off', none⟩) n cap', n, g⟩]) (fun s8 _ => phiN N - (intOf s8).toNat)
        case atStart =>
          refine ⟨0, by omega, rfl, ?_⟩
          exact (st.subR (bs' := [(nb, [.int .i64 (N : Int), .slice (some ⟨g1, o1, none⟩) (phiN N) k1]), (w2.heap.size, [.int .i64 0, .slice none 0 0]), (w.heap.size, [.int .i64 (N : Int), .slice (some ⟨b, off, none⟩) n cap]), (w1.heap.size, [.int .i64 (N : Int), .slice (some ⟨b', off', none⟩) n cap'])]) (ss' := [⟨true, lo2, hi2, .slice (some ⟨g2, 0, none⟩) (phiN N) k2, phiN N, fun k => (res N k : Int)⟩, ⟨o, lo, hi, .slice (some ⟨b, off, none⟩) n cap, n, f⟩, ⟨o', lo', hi', .slice (some ⟨b', off', none⟩) n cap', n, g⟩]) (fun _ h => h) (fun _ h => List.mem_cons_of_mem _ h)).addSl ⟨true, lo1, hi1, .slice (some ⟨g1, o1, none⟩) (phiN N) k1, phiN N, fun j => prK N f g i 0 j⟩ ((st.sl 0 ⟨true, lo1, hi1, .slice (some ⟨g1, o1, none⟩) (phiN N) k1, phiN N, fun j => prR N f g i j⟩ rfl).congr (fun j hj => prK_zero f g i j))
        case round =>
          clear st
          obtain ⟨k, hkk, rfl, st⟩ := hrel
          by_cases hkl : k < phiN N
          · have hki : (k : Int) < (phiN N : Int) := by omega
            have hjx := jx_ok (n := N) (by omega) h2 hil hkl
            have HSU := Lib.hid (fun j (hj : j < phiN N) => prK_succ (n := N) (f := f) (g := g) (by omega) h2 hil hkl hj)
            have HPL := Lib.hid (fun (w' : World) (hs : Sl true w' lo2 hi2 (.slice (some ⟨g2, 0, none⟩) (phiN N) k2) (phiN N) (fun k => (res N k : Int))) => l10Place_any N (jxR N i k) h2 h40 hjx.1 w' hs)
            have hpl := hjx.1
            have hmod : res N (jxR N i k) = res N i * res N k % N := by have := hjx.2; first | exact this | exact this.symm | (rw [Nat.mul_comm]; first | exact this | exact this.symm)
            have hri := (res_lt40 (n := N) (by omega) h2 hil).2.1
            have hrk := (res_lt40 (n := N) (by omega) h2 hkl).2.1
            clear hjx
            obtain ⟨p, hpv⟩ : ∃ p, jxR N i k = p := ⟨_, rfl⟩
            rw [hpv] at HPL hpl hmod HSU
            clear hpv
            obtain ⟨ri, hrv⟩ : ∃ r, res N i = r := ⟨_, rfl⟩
            obtain ⟨rk, hrw⟩ : ∃ r, res N k = r := ⟨_, rfl⟩
            obtain ⟨rp, hrp⟩ : ∃ r, res N p = r := ⟨_, rfl⟩
            rw [hrp] at HPL
            rw [hrv, hrw, hrp] at hmod
            rw [hrv] at hri
            rw [hrw] at hrk
            have HRI := Lib.hid hrv
            have HRK := Lib.hid hrw
            clear hrv hrw hrp
            have hmu : ri * rk ≤ 40 * 40 := Nat.mul_le_mul (by omega) (by omega)
            have hmz : ((ri * rk : Nat) : Int) = (ri : Int) * (rk : Int) := by simp
            have wmu : IntKind.i64.wrap ((ri : Int) * (rk : Int)) = (ri : Int) * (rk : Int) := by rw [IntKind.wrap_i64]; omega
            have hem : ((ri : Int) * (rk : Int)) % (N : Int) = (rp : Int) := by rw [hmod]; simp
            have htm : ((ri : Int) * (rk : Int)).tmod (N : Int) = (rp : Int) := by rw [Int.tmod_eq_emod_of_nonneg (Int.mul_nonneg (by omega) (by omega))]; exact hem
            have hrpl : rp < N := by rw [hmod]; exact Nat.mod_lt _ (by omega)
            have hN0 : ((N : Int) == 0) = false := by rw [beq_eq_false_iff_ne]; omega
            have hN1 : ¬ (N : Int) = 0 := by omega
            have hab := HKB.out i k p hil hpl
            obtain ⟨A, hA⟩ : ∃ A, prK N f g i k p = A := ⟨_, rfl⟩
            have HA := Lib.hid hA
            rw [hA] at hab
            clear hA hmod hmu hmz
            have hfi := HFB.out i hil
            have hgk := HGB.out k hkl
            have hfg := mulR_bd (A := 100000) (B := 100000) (by omega) (by omega) hfi.1 hfi.2 hgk.1 hgk.2
            have wk1 : IntKind.i64.wrap (f i * g k) = f i * g k := by rw [IntKind.wrap_i64]; omega
            have wk2 : IntKind.i64.wrap (A + f i * g k) = A + f i * g k := by rw [IntKind.wrap_i64]; omega
            have hin : i < n := by have := HN.out; omega
            have hkn : k < n := by have := HN.out; omega
            have hini : (i : Int) < (n : Int) := by omega
            have hkni : (k : Int) < (n : Int) := by omega
            have hpli : (p : Int) < (phiN N : Int) := by omega
            go_wp2_with fail
            replace st := st.drew
            refine wp_region_held_drew (S := fun wy => St w wy [(nb, [.int .i64 (N : Int), .slice (some ⟨g1, o1, none⟩) (phiN N) k1]), (w2.heap.size, [.int .i64 0, .slice none 0 0]), (w.heap.size, [.int .i64 (N : Int), .slice (some ⟨b, off, none⟩) n cap]), (w1.heap.size, [.int .i64 (N : Int), .slice (some ⟨b', off', none⟩) n cap'])] [⟨true, lo2, hi2, .slice (some ⟨g2, 0, none⟩) (phiN N) k2, phiN N, fun k => (res N k : Int)⟩, ⟨o, lo, hi, .slice (some ⟨b, off, none⟩) n cap, n, f⟩, ⟨o', lo', hi', .slice (some ⟨b', off', none⟩) n cap', n, g⟩]) (by kernel_rfl) (st.subR (fun _ h => h) (fun _ h => List.mem_cons_of_mem _ h)) (fun hHeld => ?_)
            refine wpAnyH_take (i := 0) (v := .slice (some ⟨g2, 0, none⟩) (phiN N) k2) rfl (by kernel_rfl) (by kernel_rfl) (by kernel_rfl) (fun _ _ _ h => h) (Or.inl ⟨by rfl, ?_⟩) hHeld ?_
            · intro wy hy; go_simp
            (try simp only [Act.put, List.getElem_toArray, List.getElem_cons_zero, List.getElem_cons_succ, List.setIfInBounds_toArray, List.set_cons_zero, List.set_cons_succ])
            refine wpAnyH_take (i := 1) (v := .slice (some ⟨g2, 0, none⟩) (phiN N) k2) rfl (by kernel_rfl) (by kernel_rfl) (by kernel_rfl) (fun _ _ _ h => h) (Or.inl ⟨by rfl, ?_⟩) hHeld ?_
            · intro wy hy; go_simp
            (try simp only [Act.put, List.getElem_toArray, List.getElem_cons_zero, List.getElem_cons_succ, List.setIfInBounds_toArray, List.set_cons_zero, List.set_cons_succ])
            refine wpAnyH_take (i := 5) (v := .slice (some ⟨g2, 0, none⟩) (phiN N) k2) rfl (by kernel_rfl) (by kernel_rfl) (by kernel_rfl) (fun _ _ _ h => h) (Or.inl ⟨by rfl, ?_⟩) hHeld ?_
            · intro wy hy; go_simp
            (try simp only [Act.put, List.getElem_toArray, List.getElem_cons_zero, List.getElem_cons_succ, List.setIfInBounds_toArray, List.set_cons_zero, List.set_cons_succ])
            refine wpAnyH_take (i := 2) (v := .int .i64 (i : Int)) rfl (by kernel_rfl) (by kernel_rfl) (by kernel_rfl) (fun _ _ _ h => h) (Or.inl ⟨by rfl, ?_⟩) hHeld ?_
            · intro wy hy; go_simp
            (try simp only [Act.put, List.getElem_toArray, List.getElem_cons_zero, List.getElem_cons_succ, List.setIfInBounds_toArray, List.set_cons_zero, List.set_cons_succ])
            refine wpAnyH_take (i := 6) (v := .int .i64 (k : Int)) rfl (by kernel_rfl) (by kernel_rfl) (by kernel_rfl) (fun _ _ _ h => h) (Or.inl ⟨by rfl, ?_⟩) hHeld ?_
            · intro wy hy; go_simp
            (try simp only [Act.put, List.getElem_toArray, List.getElem_cons_zero, List.getElem_cons_succ, List.setIfInBounds_toArray, List.set_cons_zero, List.set_cons_succ])
            refine wpAnyH_take (i := 3) (v := .pointer (some ⟨g2, i, none⟩)) rfl (by kernel_rfl) (by kernel_rfl) (by kernel_rfl) (fun _ _ _ h => h) (Or.inl ⟨by rfl, ?_⟩) hHeld ?_
            · intro wy hy; go_simp
            (try simp only [Act.put, List.getElem_toArray, List.getElem_cons_zero, List.getElem_cons_succ, List.setIfInBounds_toArray, List.set_cons_zero, List.set_cons_succ])
            refine wpAnyH_take (i := 7) (v := .pointer (some ⟨g2, k, none⟩)) rfl (by kernel_rfl) (by kernel_rfl) (by kernel_rfl) (fun _ _ _ h => h) (Or.inl ⟨by rfl, ?_⟩) hHeld ?_
            · intro wy hy; go_simp
            (try simp only [Act.put, List.getElem_toArray, List.getElem_cons_zero, List.getElem_cons_succ, List.setIfInBounds_toArray, List.set_cons_zero, List.set_cons_succ])
            refine wpAnyH_take (i := 4) (v := .int .i64 (ri : Int)) rfl (by kernel_rfl) (by kernel_rfl) (by kernel_rfl) (fun _ _ _ h => h) (Or.inl ⟨by rfl, ?_⟩) hHeld ?_
            · intro wy hy; have hc := (hy.sl 0 ⟨true, lo2, hi2, .slice (some ⟨g2, 0, none⟩) (phiN N) k2, phiN N, fun k => (res N k : Int)⟩ rfl).known (by show 0 < _; omega); replace hc := hc.2.2.2.1 i (by show _ < _; omega); (try dsimp only at hc); rw [Nat.zero_add, HRI.out] at hc; go_simp
            (try simp only [Act.put, List.getElem_toArray, List.getElem_cons_zero, List.getElem_cons_succ, List.setIfInBounds_toArray, List.set_cons_zero, List.set_cons_succ])
            refine wpAnyH_take (i := 8) (v := .int .i64 (rk : Int)) rfl (by kernel_rfl) (by kernel_rfl) (by kernel_rfl) (fun _ _ _ h => h) (Or.inl ⟨by rfl, ?_⟩) hHeld ?_
            · intro wy hy; have hc := (hy.sl 0 ⟨true, lo2, hi2, .slice (some ⟨g2, 0, none⟩) (phiN N) k2, phiN N, fun k => (res N k : Int)⟩ rfl).known (by show 0 < _; omega); replace hc := hc.2.2.2.1 k (by show _ < _; omega); (try dsimp only at hc); rw [Nat.zero_add, HRK.out] at hc; go_simp
            (try simp only [Act.put, List.getElem_toArray, List.getElem_cons_zero, List.getElem_cons_succ, List.setIfInBounds_toArray, List.set_cons_zero, List.set_cons_succ])
            refine wpAnyH_take (i := 9) (v := .int .i64 ((ri : Int) * (rk : Int))) rfl (by kernel_rfl) (by kernel_rfl) (by kernel_rfl) (fun _ _ _ h => h) (Or.inl ⟨by rfl, ?_⟩) hHeld ?_
            · intro wy hy; go_simp
            (try simp only [Act.put, List.getElem_toArray, List.getElem_cons_zero, List.getElem_cons_succ, List.setIfInBounds_toArray, List.set_cons_zero, List.set_cons_succ])
            refine wpAnyH_take (i := 10) (v := .pointer (some ⟨w.heap.size, 0, none⟩)) rfl (by kernel_rfl) (by kernel_rfl) (by kernel_rfl) (fun _ _ _ h => h) (Or.inl ⟨by rfl, ?_⟩) hHeld ?_
            · intro wy hy; go_simp
            (try simp only [Act.put, List.getElem_toArray, List.getElem_cons_zero, List.getElem_cons_succ, List.setIfInBounds_toArray, List.set_cons_zero, List.set_cons_succ])
            refine wpAnyH_take (i := 11) (v := .int .i64 (N : Int)) rfl (by kernel_rfl) (by kernel_rfl) (by kernel_rfl) (fun _ _ _ h => h) (Or.inl ⟨by rfl, ?_⟩) hHeld ?_
            · intro wy hy; obtain ⟨c0, c1⟩ := (hy.box 2 (w.heap.size, [.int .i64 (N : Int), .slice (some ⟨b, off, none⟩) n cap]) rfl).cell2; go_simp
            (try simp only [Act.put, List.getElem_toArray, List.getElem_cons_zero, List.getElem_cons_succ, List.setIfInBounds_toArray, List.set_cons_zero, List.set_cons_succ])
            refine wpAnyH_take (i := 12) (v := .int .i64 (rp : Int)) rfl (by kernel_rfl) (by kernel_rfl) (by kernel_rfl) (fun _ _ _ h => h) (Or.inl ⟨by rfl, ?_⟩) hHeld ?_
            · intro wy hy; go_simp; omega
            (try simp only [Act.put, List.getElem_toArray, List.getElem_cons_zero, List.getElem_cons_succ, List.setIfInBounds_toArray, List.set_cons_zero, List.set_cons_succ])
            refine wpAnyH_ready (rs := [13]) (by kernel_rfl) (by simp) ?_
            refine AllReadyH.cons rfl (fun K hK => ?_) AllReadyH.nil
            rw [if_pos (by rfl)]
            (try simp only [List.getElem_toArray, List.getElem_cons_zero, List.getElem_cons_succ])
            go_simp
            go_at_call 113
            refine (HPL.out _ (hHeld.sl 0 ⟨true, lo2, hi2, .slice (some ⟨g2, 0, none⟩) (phiN N) k2, phiN N, fun k => (res N k : Int)⟩ rfl)).mono ?_
            rintro e w7 ⟨rfl, rfl⟩
            refine hK.out _ _ hHeld (fun hHeld => ?_)
            clear hK K
            (try simp only [Act.put, List.getElem_toArray, List.getElem_cons_zero, List.getElem_cons_succ, List.setIfInBounds_toArray, List.set_cons_zero, List.set_cons_succ])
            refine wpAnyH_take (i := 14) (v := .int .i64 (p : Int)) rfl (by kernel_rfl) (by kernel_rfl) (by kernel_rfl) (fun _ _ _ h => h) (Or.inl ⟨by rfl, ?_⟩) hHeld ?_
            · intro wy hy; go_simp
            (try simp only [Act.put, List.getElem_toArray, List.getElem_cons_zero, List.getElem_cons_succ, List.setIfInBounds_toArray, List.set_cons_zero, List.set_cons_succ])
            refine wpAnyH_done (by kernel_rfl) ?_ _
            go_wp2_with fail
            replace st := st.drew
            refine wp_region_held_drew (S := fun wy => St w wy [(nb, [.int .i64 (N : Int), .slice (some ⟨g1, o1, none⟩) (phiN N) k1]), (w2.heap.size, [.int .i64 0, .slice none 0 0]), (w.heap.size, [.int .i64 (N : Int), .slice (some ⟨b, off, none⟩) n cap]), (w1.heap.size, [.int .i64 (N : Int), .slice (some ⟨b', off', none⟩) n cap'])] [⟨true, lo2, hi2, .slice (some ⟨g2, 0, none⟩) (phiN N) k2, phiN N, fun k => (res N k : Int)⟩, ⟨o, lo, hi, .slice (some ⟨b, off, none⟩) n cap, n, f⟩, ⟨o', lo', hi', .slice (some ⟨b', off', none⟩) n cap', n, g⟩]) (by kernel_rfl) (st.subR (fun _ h => h) (fun _ h => List.mem_cons_of_mem _ h)) (fun hHeld => ?_)
            refine wpAnyH_take (i := 0) (v := .pointer (some ⟨nb, 1, none⟩)) rfl (by kernel_rfl) (by kernel_rfl) (by kernel_rfl) (fun _ _ _ h => h) (Or.inl ⟨by rfl, ?_⟩) hHeld ?_
            · intro wy hy; go_simp
            (try simp only [Act.put, List.getElem_toArray, List.getElem_cons_zero, List.getElem_cons_succ, List.setIfInBounds_toArray, List.set_cons_zero, List.set_cons_succ])
            refine wpAnyH_take (i := 3) (v := .pointer (some ⟨nb, 1, none⟩)) rfl (by kernel_rfl) (by kernel_rfl) (by kernel_rfl) (fun _ _ _ h => h) (Or.inl ⟨by rfl, ?_⟩) hHeld ?_
            · intro wy hy; go_simp
            (try simp only [Act.put, List.getElem_toArray, List.getElem_cons_zero, List.getElem_cons_succ, List.setIfInBounds_toArray, List.set_cons_zero, List.set_cons_succ])
            refine wpAnyH_take (i := 1) (v := .slice (some ⟨g1, o1, none⟩) (phiN N) k1) rfl (by kernel_rfl) (by kernel_rfl) (by kernel_rfl) (fun _ _ _ h => h) (Or.inl ⟨by rfl, ?_⟩) hHeld ?_
            · intro wy hy; obtain ⟨c0, c1⟩ := (hy.box 0 (nb, [.int .i64 (N : Int), .slice (some ⟨g1, o1, none⟩) (phiN N) k1]) rfl).cell2; go_simp
            (try simp only [Act.put, List.getElem_toArray, List.getElem_cons_zero, List.getElem_cons_succ, List.setIfInBounds_toArray, List.set_cons_zero, List.set_cons_succ])
            refine wpAnyH_take (i := 4) (v := .slice (some ⟨g1, o1, none⟩) (phiN N) k1) rfl (by kernel_rfl) (by kernel_rfl) (by kernel_rfl) (fun _ _ _ h => h) (Or.inl ⟨by rfl, ?_⟩) hHeld ?_
            · intro wy hy; obtain ⟨c0, c1⟩ := (hy.box 0 (nb, [.int .i64 (N : Int), .slice (some ⟨g1, o1, none⟩) (phiN N) k1]) rfl).cell2; go_simp
            (try simp only [Act.put, List.getElem_toArray, List.getElem_cons_zero, List.getElem_cons_succ, List.setIfInBounds_toArray, List.set_cons_zero, List.set_cons_succ])
            refine wpAnyH_take (i := 2) (v := .int .i64 (p : Int)) rfl (by kernel_rfl) (by kernel_rfl) (by kernel_rfl) (fun _ _ _ h => h) (Or.inl ⟨by rfl, ?_⟩) hHeld ?_
            · intro wy hy; go_simp
            (try simp only [Act.put, List.getElem_toArray, List.getElem_cons_zero, List.getElem_cons_succ, List.setIfInBounds_toArray, List.set_cons_zero, List.set_cons_succ])
            refine wpAnyH_take (i := 5) (v := .int .i64 (p : Int)) rfl (by kernel_rfl) (by kernel_rfl) (by kernel_rfl) (fun _ _ _ h => h) (Or.inl ⟨by rfl, ?_⟩) hHeld ?_
            · intro wy hy; go_simp
            (try simp only [Act.put, List.getElem_toArray, List.getElem_cons_zero, List.getElem_cons_succ, List.setIfInBounds_toArray, List.set_cons_zero, List.set_cons_succ])
            refine wpAnyH_take (i := 6) (v := .pointer (some ⟨g1, o1 + p, none⟩)) rfl (by kernel_rfl) (by kernel_rfl) (by kernel_rfl) (fun _ _ _ h => h) (Or.inl ⟨by rfl, ?_⟩) hHeld ?_
            · intro wy hy; go_simp
            (try simp only [Act.put, List.getElem_toArray, List.getElem_cons_zero, List.getElem_cons_succ, List.setIfInBounds_toArray, List.set_cons_zero, List.set_cons_succ])
            refine wpAnyH_take (i := 8) (v := .pointer (some ⟨w.heap.size, 1, none⟩)) rfl (by kernel_rfl) (by kernel_rfl) (by kernel_rfl) (fun _ _ _ h => h) (Or.inl ⟨by rfl, ?_⟩) hHeld ?_
            · intro wy hy; go_simp
            (try simp only [Act.put, List.getElem_toArray, List.getElem_cons_zero, List.getElem_cons_succ, List.setIfInBounds_toArray, List.set_cons_zero, List.set_cons_succ])
            refine wpAnyH_take (i := 9) (v := .slice (some ⟨b, off, none⟩) n cap) rfl (by kernel_rfl) (by kernel_rfl) (by kernel_rfl) (fun _ _ _ h => h) (Or.inl ⟨by rfl, ?_⟩) hHeld ?_
            · intro wy hy; obtain ⟨c0, c1⟩ := (hy.box 2 (w.heap.size, [.int .i64 (N : Int), .slice (some ⟨b, off, none⟩) n cap]) rfl).cell2; go_simp
            (try simp only [Act.put, List.getElem_toArray, List.getElem_cons_zero, List.getElem_cons_succ, List.setIfInBounds_toArray, List.set_cons_zero, List.set_cons_succ])
            refine wpAnyH_take (i := 10) (v := .int .i64 (i : Int)) rfl (by kernel_rfl) (by kernel_rfl) (by kernel_rfl) (fun _ _ _ h => h) (Or.inl ⟨by rfl, ?_⟩) hHeld ?_
            · intro wy hy; go_simp
            (try simp only [Act.put, List.getElem_toArray, List.getElem_cons_zero, List.getElem_cons_succ, List.setIfInBounds_toArray, List.set_cons_zero, List.set_cons_succ])
            refine wpAnyH_take (i := 11) (v := .pointer (some ⟨b, off + i, none⟩)) rfl (by kernel_rfl) (by kernel_rfl) (by kernel_rfl) (fun _ _ _ h => h) (Or.inl ⟨by rfl, ?_⟩) hHeld ?_
            · intro wy hy; go_simp
            (try simp only [Act.put, List.getElem_toArray, List.getElem_cons_zero, List.getElem_cons_succ, List.setIfInBounds_toArray, List.set_cons_zero, List.set_cons_succ])
            refine wpAnyH_take (i := 12) (v := .int .i64 (f i)) rfl (by kernel_rfl) (by kernel_rfl) (by kernel_rfl) (fun _ _ _ h => h) (Or.inl ⟨by rfl, ?_⟩) hHeld ?_
            · intro wy hy; have hc := (hy.sl 1 ⟨o, lo, hi, .slice (some ⟨b, off, none⟩) n cap, n, f⟩ rfl).known (by show 0 < _; omega); replace hc := hc.2.2.2.1 i (by show _ < _; omega); (try dsimp only at hc); go_simp
            (try simp only [Act.put, List.getElem_toArray, List.getElem_cons_zero, List.getElem_cons_succ, List.setIfInBounds_toArray, List.set_cons_zero, List.set_cons_succ])
            refine wpAnyH_take (i := 13) (v := .pointer (some ⟨w1.heap.size, 1, none⟩)) rfl (by kernel_rfl) (by kernel_rfl) (by kernel_rfl) (fun _ _ _ h => h) (Or.inl ⟨by rfl, ?_⟩) hHeld ?_
            · intro wy hy; go_simp
            (try simp only [Act.put, List.getElem_toArray, List.getElem_cons_zero, List.getElem_cons_succ, List.setIfInBounds_toArray, List.set_cons_zero, List.set_cons_succ])
            refine wpAnyH_take (i := 14) (v := .slice (some ⟨b', off', none⟩) n cap') rfl (by kernel_rfl) (by kernel_rfl) (by kernel_rfl) (fun _ _ _ h => h) (Or.inl ⟨by rfl, ?_⟩) hHeld ?_
            · intro wy hy; obtain ⟨c0, c1⟩ := (hy.box 3 (w1.heap.size, [.int .i64 (N : Int), .slice (some ⟨b', off', none⟩) n cap']) rfl).cell2; go_simp
            (try simp only [Act.put, List.getElem_toArray, List.getElem_cons_zero, List.getElem_cons_succ, List.setIfInBounds_toArray, List.set_cons_zero, List.set_cons_succ])
            refine wpAnyH_take (i := 15) (v := .int .i64 (k : Int)) rfl (by kernel_rfl) (by kernel_rfl) (by kernel_rfl) (fun _ _ _ h => h) (Or.inl ⟨by rfl, ?_⟩) hHeld ?_
            · intro wy hy; go_simp
            (try simp only [Act.put, List.getElem_toArray, List.getElem_cons_zero, List.getElem_cons_succ, List.setIfInBounds_toArray, List.set_cons_zero, List.set_cons_succ])
            refine wpAnyH_take (i := 16) (v := .pointer (some ⟨b', off' + k, none⟩)) rfl (by kernel_rfl) (by kernel_rfl) (by kernel_rfl) (fun _ _ _ h => h) (Or.inl ⟨by rfl, ?_⟩) hHeld ?_
            · intro wy hy; go_simp
            (try simp only [Act.put, List.getElem_toArray, List.getElem_cons_zero, List.getElem_cons_succ, List.setIfInBounds_toArray, List.set_cons_zero, List.set_cons_succ])
            refine wpAnyH_take (i := 17) (v := .int .i64 (g k)) rfl (by kernel_rfl) (by kernel_rfl) (by kernel_rfl) (fun _ _ _ h => h) (Or.inl ⟨by rfl, ?_⟩) hHeld ?_
            · intro wy hy; have hc := (hy.sl 2 ⟨o', lo', hi', .slice (some ⟨b', off', none⟩) n cap', n, g⟩ rfl).known (by show 0 < _; omega); replace hc := hc.2.2.2.1 k (by show _ < _; omega); (try dsimp only at hc); go_simp
            (try simp only [Act.put, List.getElem_toArray, List.getElem_cons_zero, List.getElem_cons_succ, List.setIfInBounds_toArray, List.set_cons_zero, List.set_cons_succ])
            refine wpAnyH_take (i := 18) (v := .int .i64 (f i * g k)) rfl (by kernel_rfl) (by kernel_rfl) (by kernel_rfl) (fun _ _ _ h => h) (Or.inl ⟨by rfl, ?_⟩) hHeld ?_
            · intro wy hy; go_simp
            (try simp only [Act.put, List.getElem_toArray, List.getElem_cons_zero, List.getElem_cons_succ, List.setIfInBounds_toArray, List.set_cons_zero, List.set_cons_succ])
            refine wpAnyH_ready (rs := [7]) (by kernel_rfl) (by simp) ?_
            refine AllReadyH.cons rfl (fun K hK => ?_) AllReadyH.nil
            rw [if_pos (by rfl)]
            (try simp only [List.getElem_toArray, List.getElem_cons_zero, List.getElem_cons_succ])
            have hc := (st.sl 0 ⟨true, lo1, hi1, .slice (some ⟨g1, o1, none⟩) (phiN N) k1, phiN N, fun j => prK N f g i k j⟩ rfl).known (by show 0 < phiN N; omega)
            have hfz := hc.2.2.2.2 rfl
            replace hc := hc.2.2.2.1 p hpl
            dsimp only at hc hfz
            rw [HA.out] at hc
            go_simp
            refine hK.out _ _ hHeld (fun hHeld => ?_)
            clear hK K
            (try simp only [Act.put, List.getElem_toArray, List.getElem_cons_zero, List.getElem_cons_succ, List.setIfInBounds_toArray, List.set_cons_zero, List.set_cons_succ])
            refine wpAnyH_take (i := 19) (v := .int .i64 (A + f i * g k)) rfl (by kernel_rfl) (by kernel_rfl) (by kernel_rfl) (fun _ _ _ h => h) (Or.inl ⟨by rfl, ?_⟩) hHeld ?_
            · intro wy hy; go_simp
            (try simp only [Act.put, List.getElem_toArray, List.getElem_cons_zero, List.getElem_cons_succ, List.setIfInBounds_toArray, List.set_cons_zero, List.set_cons_succ])
            refine wpAnyH_take (i := 20) (v := .pointer (some ⟨g1, o1 + p, none⟩)) rfl (by kernel_rfl) (by kernel_rfl) (by kernel_rfl) (fun _ _ _ h => h) (Or.inl ⟨by rfl, ?_⟩) hHeld ?_
            · intro wy hy; go_simp
            (try simp only [Act.put, List.getElem_toArray, List.getElem_cons_zero, List.getElem_cons_succ, List.setIfInBounds_toArray, List.set_cons_zero, List.set_cons_succ])
            refine wpAnyH_ready (rs := [21]) (by kernel_rfl) (by simp) ?_
            refine AllReadyH.cons rfl (fun K hK => ?_) AllReadyH.nil
            rw [if_pos (by rfl)]
            (try simp only [List.getElem_toArray, List.getElem_cons_zero, List.getElem_cons_succ])
            have hc := (st.sl 0 ⟨true, lo1, hi1, .slice (some ⟨g1, o1, none⟩) (phiN N) k1, phiN N, fun j => prK N f g i k j⟩ rfl).known (by show 0 < phiN N; omega)
            have hfz := hc.2.2.2.2 rfl
            replace hc := hc.2.2.2.1 p hpl
            dsimp only at hc hfz
            rw [HA.out] at hc
            go_simp
            refine hK.out _ _ ?_ (fun hHeld => ?_)
            · have ⟨p0, p1, p2, p3, p4, p5⟩ := HAP.out
              exact hHeld.write ((Frame.refl lo1 hi1 _).setCell (p := ⟨g1, o1 + p, none⟩) hg1 hg1' (.int .i64 (A + f i * g k))) (by omega) (by intro q hq; simp only [List.mem_cons, List.not_mem_nil, or_false] at hq; rcases hq with rfl | rfl | rfl | rfl <;> dsimp only <;> omega) (by intro q hq; simp only [List.mem_cons, List.not_mem_nil, or_false] at hq; rcases hq with rfl | rfl | rfl <;> dsimp only <;> omega)
            clear hK K
            (try simp only [Act.put, List.getElem_toArray, List.getElem_cons_zero, List.getElem_cons_succ, List.setIfInBounds_toArray, List.set_cons_zero, List.set_cons_succ])
            refine wpAnyH_done (by kernel_rfl) ?_ _
            go_wp2
            go_roundw
            case rel =>
              refine ⟨k + 1, by omega, by go_num, ?_⟩
              have q := st.sl 0 ⟨true, lo1, hi1, .slice (some ⟨g1, o1, none⟩) (phiN N) k1, phiN N, fun j => prK N f g i k j⟩ rfl
              dsimp only at q
              have qs := q.store (i := p) (x := A + f i * g k) hpl (by unfold inR; omega)
              have ⟨p0, p1, p2, p3, p4, p5⟩ := HAP.out
              exact (((st.subR (bs' := [(nb, [.int .i64 (N : Int), .slice (some ⟨g1, o1, none⟩) (phiN N) k1]), (w2.heap.size, [.int .i64 0, .slice none 0 0]), (w.heap.size, [.int .i64 (N : Int), .slice (some ⟨b, off, none⟩) n cap]), (w1.heap.size, [.int .i64 (N : Int), .slice (some ⟨b', off', none⟩) n cap'])]) (ss' := [⟨true, lo2, hi2, .slice (some ⟨g2, 0, none⟩) (phiN N) k2, phiN N, fun k => (res N k : Int)⟩, ⟨o, lo, hi, .slice (some ⟨b, off, none⟩) n cap, n, f⟩, ⟨o', lo', hi', .slice (some ⟨b', off', none⟩) n cap', n, g⟩]) (fun _ h => h) (fun _ h => List.mem_cons_of_mem _ h)).write ((Frame.refl lo1 hi1 _).setCell (p := ⟨g1, o1 + p, none⟩) hg1 hg1' (.int .i64 (A + f i * g k))) (by omega) (by intro q hq; simp only [List.mem_cons, List.not_mem_nil, or_false] at hq; rcases hq with rfl | rfl | rfl | rfl <;> dsimp only <;> omega) (by intro q hq; simp only [List.mem_cons, List.not_mem_nil, or_false] at hq; rcases hq with rfl | rfl | rfl <;> dsimp only <;> omega))).addSl ⟨true, lo1, hi1, .slice (some ⟨g1, o1, none⟩) (phiN N) k1, phiN N, fun j => prK N f g i (k + 1) j⟩ (qs.congr (fun j hj => by dsimp only; rw [HSU.out j hj, HA.out]))
            case measure => simp [intOf] <;> omega
          · obtain rfl : k = phiN N := by omega
            go_wp2
            go_roundw
            case rel =>
              refine ⟨i + 1, by omega, by go_num, ?_⟩
              exact (st.subR (bs' := [(nb, [.int .i64 (N : Int), .slice (some ⟨g1, o1, none⟩) (phiN N) k1]), (w2.heap.size, [.int .i64 0, .slice none 0 0]), (w.heap.size, [.int .i64 (N : Int), .slice (some ⟨b, off, none⟩) n cap]), (w1.heap.size, [.int .i64 (N : Int), .slice (some ⟨b', off', none⟩) n cap'])]) (ss' := [⟨true, lo2, hi2, .slice (some ⟨g2, 0, none⟩) (phiN N) k2, phiN N, fun k => (res N k : Int)⟩, ⟨o, lo, hi, .slice (some ⟨b, off, none⟩) n cap, n, f⟩, ⟨o', lo', hi', .slice (some ⟨b', off', none⟩) n cap', n, g⟩]) (fun _ h => h) (fun _ h => List.mem_cons_of_mem _ h)).addSl ⟨true, lo1, hi1, .slice (some ⟨g1, o1, none⟩) (phiN N) k1, phiN N, fun j => prR N f g (i + 1) j⟩ ((st.sl 0 ⟨true, lo1, hi1, .slice (some ⟨g1, o1, none⟩) (phiN N) k1, phiN N, fun j => prK N f g i (phiN N) j⟩ rfl).congr (fun j hj => (prK_all (n := N) (f := f) (g := g) (by omega) h2 hil hj).symm))
            case measure => simp [intOf] <;> omega
      · obtain rfl : i = phiN N := by omega
        have BR := st.box 1 (w2.heap.size, [.int .i64 0, .slice none 0 0]) rfl
        obtain ⟨c0, c1⟩ := (st.box 0 (nb, [.int .i64 (N : Int), .slice (some ⟨g1, o1, none⟩) (phiN N) k1]) rfl).cell2
        dsimp only at BR c0 c1
        have q := st.sl 0 ⟨true, lo1, hi1, .slice (some ⟨g1, o1, none⟩) (phiN N) k1, phiN N, fun j => prR N f g (phiN N) j⟩ rfl
        dsimp only at q
        have ⟨p0, p1, p2, p3, p4, p5⟩ := HAP.out
        go_wp2_with (first
          | (refine wpList_storeR rfl _ _ rfl w2.heap.size rfl (v0 := .int .i64 (N : Int)) (v1 := .slice (some ⟨g1, o1, none⟩) (phiN N) k1) rfl rfl rfl BR ?_; intro w9 x9 f9
             obtain ⟨d0, d1⟩ := x9.cell2))
        refine bodyPost_ret (v := .agg #[.int .i64 (N : Int), .slice (some ⟨g1, o1, none⟩) (phiN N) k1]) (by simp [results, Try.results102, go_sem, d0, d1]) rfl ?_
        refine ⟨some ⟨g1, o1, none⟩, k1, rfl, ?_, ?_⟩
        · refine ((q.keepF f9 (.inr (by omega))).wide (by omega) ?_ (Nat.le_refl _))
          have := q.size
          have := f9.size
          omega
        · exact st.1.trans (f9.below (by omega) st.1.size)
end
end Go.Proofs.Ytonopjbccdpbhaa
