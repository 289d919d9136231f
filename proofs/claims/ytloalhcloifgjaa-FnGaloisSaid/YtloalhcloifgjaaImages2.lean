/- The images of a number, all of them: l02Images of the model. -/
import Derived.Test.YtloalhcloifgjaaImages
namespace Go.Proofs.Ytloalhcloifgjaa
open Go.RowKit Go.ChangeShapes Go.Sort
set_option linter.unusedVariables false
set_option linter.unusedSimpArgs false

/-- Slices of the call's own, one for each element of a list, that lie apart from two blocks. -/
def Sls (w : World) (base g g2 m N : Nat) (vs : Nat → Value) (F : Nat → Nat → Int) : Prop :=
  ∀ i, i < m → ∃ lo hi, base ≤ lo ∧ (g < lo ∨ hi ≤ g) ∧ (g2 < lo ∨ hi ≤ g2) ∧ Sl true w lo hi (vs i) N (F i)
section
variable {w w' : World} {base g g2 m N : Nat} {vs : Nat → Value} {F : Nat → Nat → Int}
theorem Sls.keep {B : Nat} (h : Sls w base g g2 m N vs F) (hb : Below B w w') (hB : w.heap.size ≤ B) : Sls w' base g g2 m N vs F := fun i hi => by
  obtain ⟨lo, hi', h1, h2, h3, h4⟩ := h i hi
  exact ⟨lo, hi', h1, h2, h3, h4.keep hb (Nat.le_trans h4.size hB)⟩
theorem Sls.alloc (h : Sls w base g g2 m N vs F) (ob : Obj) : Sls (w.alloc ob) base g g2 m N vs F := h.keep ((Below.refl _ _).alloc (Nat.le_refl _) _) (Nat.le_refl _)
/-- The first list's block is written or moves. -/
theorem Sls.grown1 {g' : Nat} (h : Sls w base g g2 m N vs F) (hg : w.grownBy w' (some g)) (ho : g' = g ∨ g' = w.heap.size) : Sls w' base g' g2 m N vs F := fun i hi => by
  obtain ⟨lo, hi', h1, h2, h3, h4⟩ := h i hi
  have := h4.size
  exact ⟨lo, hi', h1, by omega, h3, h4.keepF (Frame.ofGrown hg) (by omega)⟩
theorem Sls.grown2 {g' : Nat} (h : Sls w base g g2 m N vs F) (hg : w.grownBy w' (some g2)) (ho : g' = g2 ∨ g' = w.heap.size) : Sls w' base g g' m N vs F := fun i hi => by
  obtain ⟨lo, hi', h1, h2, h3, h4⟩ := h i hi
  have := h4.size
  exact ⟨lo, hi', h1, h2, by omega, h4.keepF (Frame.ofGrown hg) (by omega)⟩
theorem Sls.push {lo hi : Nat} {u : Value} (h : Sls w base g g2 m N vs F) (hs : Sl true w lo hi u N (F m)) (h1 : base ≤ lo) (h2 : g < lo ∨ hi ≤ g) (h3 : g2 < lo ∨ hi ≤ g2) : Sls w base g g2 (m + 1) N (fun i => if i < m then vs i else u) F := fun i hi' => by
  by_cases e : i < m
  · obtain ⟨l, h, q⟩ := h i e
    exact ⟨l, h, by dsimp only; rw [if_pos e]; exact q⟩
  · obtain rfl : i = m := by omega
    exact ⟨lo, hi, h1, h2, h3, by dsimp only; rw [if_neg e]; exact hs⟩
end
theorem Row.keepF {w w' : World} {base g cap n lo hi : Nat} {f : Nat → Int} (h : Row w base g cap n f) (hf : Frame lo hi w w') (hd : g < lo ∨ hi ≤ g) : Row w' base g cap n f := by
  have hl := h.lt
  refine ⟨h.1, ?_⟩
  rcases h.2 with h2 | ⟨g', cap', cur, hv, hb, hh, r⟩
  · exact .inl h2
  · refine .inr ⟨g', cap', cur, hv, hb, ?_, r⟩
    cases hv
    rw [hf.block g hl.2 hd]; exact hh
theorem Row.keep {w w' : World} {base g cap n B : Nat} {f : Nat → Int} (h : Row w base g cap n f) (hb : Below B w w') (hB : w.heap.size ≤ B) : Row w' base g cap n f :=
  h.keepF (Frame.of_below (lo := w'.heap.size + g + 1) (hi := 0) hb hB) (by omega)
theorem Row.low {w : World} {base base' g cap n : Nat} {f : Nat → Int} (h : Row w base g cap n f) (hb : base' ≤ base) : Row w base' g cap n f := by
  refine ⟨h.1, ?_⟩
  rcases h.2 with h2 | ⟨g', cap', cur, hv, hb', r⟩
  · exact .inl h2
  · exact .inr ⟨g', cap', cur, hv, by omega, r⟩
theorem RowE.low {w : World} {base base' : Nat} {e : TypeId} {sz g cap m : Nat} {F : Nat → List Value} (h : RowE w base e sz g cap m F) (hb : base' ≤ base) : RowE w base' e sz g cap m F := by
  refine ⟨h.1, ?_⟩
  rcases h.2 with h2 | ⟨g', cap', cur, hv, hb', r⟩
  · exact .inl h2
  · exact .inr ⟨g', cap', cur, hv, by omega, r⟩
section
variable {o : Bool} {lo hi L : Nat} {v : Value} {f : Nat → Int}
theorem fold_nat {n a L : Nat} {f : Nat → Int} (h1 : 1 ≤ n) : redP n (foldP (ixG n (a : Int)) f L) = imgP n a L f := by
  unfold imgP
  rw [foldP_congr (ix' := ixI n a) (f' := f) (fun i _ => ⟨ixG_nat n a i h1, rfl⟩)]
set_option maxRecDepth 100000 in
set_option maxHeartbeats 2000000 in
theorem l02Images_any (n : Nat) (h1 : 1 ≤ n) (h2 : n ≤ 16) (w : World) (hs : Sl o w lo hi v L f) (hL : L ≤ 24) :
    Calls Try.prog 181 #[.agg #[.int .i64 (n : Int), v]] w fun e w' => ∃ (g cap g2 cap2 : Nat) (vs : Nat → Value), e = .returned (.tuple #[.slice (some ⟨g, 0, none⟩) (phiN n) cap, .slice (some ⟨g2, 0, none⟩) (phiN n) cap2]) ∧
      RowE w' w.heap.size 26 2 g cap (phiN n) (fun k => [.int .i64 (n : Int), vs k]) ∧ Sls w' w.heap.size g g2 (phiN n) (phiN n) vs (im n L f) ∧ Row w' w.heap.size g2 cap2 (phiN n) (fun k => (res n k : Int)) ∧ g ≠ g2 ∧ Below w.heap.size w w' := by
  obtain ⟨av, cap0, rfl⟩ := hs.shape
  have hhs := hs.size
  have hp := phi_le12 n h2 h1
  have st0 := (((((St.start w).addSl ⟨o, lo, hi, .slice av L cap0, L, f⟩ hs).alloc (.cells #[.int .i64 (n : Int), .slice av L cap0] 26)).addBox w.heap.size [.int .i64 (n : Int), .slice av L cap0] (Box.made _ _ _ _ (fun j v h => by simpa using h))).alloc (.cells #[] 26)).alloc (.cells #[] 2)
  have r0 := (RowE.made (w.alloc (.cells #[.int .i64 (n : Int), .slice av L cap0] 26)) (w.heap.size + 1) 26 2 (fun k => [.int .i64 (n : Int), .int .i64 0]) (by simp)).alloc (.cells #[] 2)
  have r1 := Row.made ((w.alloc (.cells #[.int .i64 (n : Int), .slice av L cap0] 26)).alloc (.cells #[] 26)) (w.heap.size + 1) (fun k => (res n k : Int)) (by simp)
  simp only [World.size_alloc] at r0 r1
  have HR0 := Lib.hid r0
  have HR1 := Lib.hid r1
  have HST := Lib.hid st0
  clear hs st0 r0 r1
  go_enter Try.func181, Try.ntmps181
  go_wp2
  go_loopw [4, 5, 6] (fun s4 s5 s6 wr => ∃ (k g cap g2 cap2 : Nat) (vs : Nat → Value), k ≤ n ∧ s4 = .slice (some ⟨g, 0, none⟩) (phiTo n k) cap ∧ s5 = .slice (some ⟨g2, 0, none⟩) (phiTo n k) cap2 ∧ s6 = .int .i64 ((k : Int) + 1) ∧
      RowE wr (w.heap.size + 1) 26 2 g cap (phiTo n k) (fun k => [.int .i64 (n : Int), vs k]) ∧ Row wr (w.heap.size + 1) g2 cap2 (phiTo n k) (fun k => (res n k : Int)) ∧ g ≠ g2 ∧ Sls wr (w.heap.size + 1) g g2 (phiTo n k) (phiN n) vs (im n L f) ∧
      St w wr [(w.heap.size, [.int .i64 (n : Int), .slice av L cap0])] [⟨o, lo, hi, .slice av L cap0, L, f⟩]) (fun _ _ s6 _ => n + 1 - (intOf s6).toNat)
  case atStart => exact ⟨0, _, _, _, _, fun _ => .int .i64 0, Nat.zero_le _, rfl, rfl, rfl, HR0.out, HR1.out, by omega, fun i hi => absurd hi (Nat.not_lt_zero _), HST.out⟩
  case round =>
    clear HR0 HR1 HST
    obtain ⟨k, g, cap, g2, cap2, vs, hk, rfl, rfl, rfl, hr, hr2, hne, hsl, hst⟩ := hrel
    have R1 := Lib.hid hr; clear hr
    have R2 := Lib.hid hr2; clear hr2
    have SS := Lib.hid hsl; clear hsl
    have HT := Lib.hid hst; clear hst
    obtain ⟨hl, hl'⟩ := R1.out.lt
    obtain ⟨hm, hm'⟩ := R2.out.lt
    have hle := phiTo_le (n : Int) k
    obtain ⟨x0, x1⟩ := (HT.out.box 0 (w.heap.size, [.int .i64 (n : Int), .slice av L cap0]) rfl).cell2
    by_cases hlt : k < n
    · by_cases hg : gcdI ((k : Int) + 1) n = 1
      · have hb : (gcdI ((k : Int) + 1) n == 1) = true := beq_iff_eq.2 hg
        have HS := Lib.hid (phiTo_yes (n : Int) k hg)
        have HA := Lib.hid (res_at n (by omega) h1 k hlt hg)
        have HIM := Lib.hid (show redP n (foldP (ixG n ((k : Int) + 1)) f L) = im n L f (phiTo n k) from by
          unfold im; rw [HA.out, ← fold_nat h1]; rfl)
        clear hg
        generalize hm0 : phiTo n k = m at *
        have qx := HT.out.sl 0 ⟨o, lo, hi, .slice av L cap0, L, f⟩ rfl
        dsimp only at qx
        go_wp2_with (first
          | (go_at_call 138; refine (l01Gcd_any _ _ _ (by omega) (by omega) (by omega) (by omega)).mono ?_; rintro e w' ⟨rfl, rfl⟩))
        refine (l01Galois_any n ((k : Int) + 1) h1 h2 (by omega) (by omega) _ qx hL).mono ?_
        rw [HIM.out]
        rintro e w2 ⟨a2, k2, rfl, s2, b2⟩
        have hz2 := b2.size
        have ra := R1.out.keep b2 (Nat.le_refl _)
        have rb := R2.out.keep b2 (Nat.le_refl _)
        have sa := SS.out.keep b2 (Nat.le_refl _)
        have ta := HT.out.keep b2
        have RA := Lib.hid ra
        have RB := Lib.hid rb
        have SA := Lib.hid sa
        have TA := Lib.hid ta
        have S2 := Lib.hid s2
        clear ra rb sa ta s2 b2 R1 R2 SS HT qx x0 x1
        go_wp2_with (first
          | (at_builtin; refine wpList_pushC rfl (.tmp 20) (.tmp 24) rfl rfl (w.heap.size + 1) g cap m (fun _ => (n : Int)) vs rfl (RA.out.alloc _) w2.heap.size (n : Int) (.slice a2 (phiN n) k2) rfl rfl (heap_alloc_new w2 _) (by omega) ?_; intro gA kA wA rowA grA orA ltA
             have stA := (TA.out.alloc (.cells #[.int .i64 (n : Int), .slice a2 (phiN n) k2] 26)).write (Frame.ofGrown grA) (by omega) (by intro b hb; simp only [List.mem_cons, List.not_mem_nil, or_false] at hb; rcases hb with rfl <;> dsimp only <;> omega) (by intro s hs'; simp only [List.mem_cons, List.not_mem_nil, or_false] at hs'; rcases hs' with rfl <;> dsimp only <;> omega)
             have rbA := (RB.out.alloc (.cells #[.int .i64 (n : Int), .slice a2 (phiN n) k2] 26)).kept grA (Ne.symm hne)
             have saA := ((SA.out.push S2.out (by omega) (.inl hl') (.inl hm')).alloc (.cells #[.int .i64 (n : Int), .slice a2 (phiN n) k2] 26)).grown1 grA orA
             have hzA := grA.size
             simp only [World.size_alloc] at orA hzA
             have hneA : gA ≠ g2 := by omega
             have STA := Lib.hid stA
             have RBA := Lib.hid rbA
             have SAA := Lib.hid saA
             have RAA := Lib.hid rowA
             clear stA rbA saA rowA grA RA RB SA TA S2)
          | (at_builtin; refine wpList_push rfl (.tmp 26) (.tmp 28) rfl rfl (w.heap.size + 1) g2 cap2 m (fun k => (res n k : Int)) rfl (RBA.out.alloc _) wA.heap.size ((k : Int) + 1) rfl (heap_alloc_new wA _) (by omega) ?_; intro gB kB wB rowB grB orB ltB
             have stB := (STA.out.alloc (.cells #[.int .i64 ((k : Int) + 1)] 2)).write (Frame.ofGrown grB) (by omega) (by intro b hb; simp only [List.mem_cons, List.not_mem_nil, or_false] at hb; rcases hb with rfl <;> dsimp only <;> omega) (by intro s hs'; simp only [List.mem_cons, List.not_mem_nil, or_false] at hs'; rcases hs' with rfl <;> dsimp only <;> omega)
             have raB := (RAA.out.alloc (.cells #[.int .i64 ((k : Int) + 1)] 2)).kept grB hneA
             have saB := (SAA.out.alloc (.cells #[.int .i64 ((k : Int) + 1)] 2)).grown2 grB orB
             have hzB := grB.size
             simp only [World.size_alloc] at orB hzB
             have STB := Lib.hid stB
             have RAB := Lib.hid raB
             have SAB := Lib.hid saB
             have RBB := Lib.hid rowB
             clear stB raB saB rowB grB))
        go_roundw
        case rel =>
          refine ⟨k + 1, gA, kA, gB, kB, fun i => if i < m then vs i else .slice a2 (phiN n) k2, by omega, by rw [HS.out], by rw [HS.out], by go_num, ?_, ?_, by omega, ?_, STB.out⟩
          · rw [HS.out]
            exact RAB.out.congr (fun j hj => by
              by_cases e : j < m
              · rw [if_pos e]; dsimp only; rw [if_pos e]
              · rw [if_neg e]; dsimp only; rw [if_neg e])
          · rw [HS.out]
            exact RBB.out.congr (fun j hj => by
              by_cases e : j < m
              · rw [if_pos e]
              · rw [if_neg e, show j = m by omega, HA.out]; simp)
          · rw [HS.out]; exact SAB.out
        case measure => simp [intOf] <;> omega
      · have hb : (gcdI ((k : Int) + 1) n == 1) = false := beq_eq_false_iff_ne.2 hg
        have HS := Lib.hid (phiTo_no (n : Int) k hg)
        clear hg
        go_wp2_with (first
          | (go_at_call 138; refine (l01Gcd_any _ _ _ (by omega) (by omega) (by omega) (by omega)).mono ?_; rintro e w' ⟨rfl, rfl⟩))
        go_roundw
        case rel => exact ⟨k + 1, g, cap, g2, cap2, vs, by omega, by rw [HS.out], by rw [HS.out], by go_num, by rw [HS.out]; exact R1.out, by rw [HS.out]; exact R2.out, hne, by rw [HS.out]; exact SS.out, HT.out⟩
        case measure => simp [intOf] <;> omega
    · obtain rfl : k = n := by omega
      have HP := Lib.hid (phiTo_all k)
      have BB := HT.out.1
      go_wp2
      go_ret2
      refine ⟨g, cap, g2, cap2, by rw [HP.out]; rfl, vs, ?_, ?_, ?_, hne, BB⟩
      · rw [← HP.out]; exact R1.out.low (by omega)
      · intro i hi
        obtain ⟨lo, hi', q1, q2⟩ := SS.out i (by rw [HP.out]; exact hi)
        exact ⟨lo, hi', by omega, q2⟩
      · rw [← HP.out]; exact R2.out.low (by omega)
end
end Go.Proofs.Ytloalhcloifgjaa
