/- Polynomials with images as roots: l02Polynomial of the model. -/
import Derived.Test.YtdalahgfpbdilaaPlx
namespace Go.Proofs.Ytdalahgfpbdilaa
open Go.RowKit Go.ChangeShapes Go.Sort
set_option linter.unusedVariables false
set_option linter.unusedSimpArgs false

section
variable {o : Bool} {lo hi L : Nat} {v : Value} {f : Nat → Int}
set_option maxRecDepth 100000 in
set_option maxHeartbeats 8000000 in
theorem l02Polynomial_any (n : Nat) (D : Bool) (w : World) (hs : Sl o w lo hi v L f) (h : CyP n L f) :
    Calls Try.prog 123 #[.agg #[.int .i64 (n : Int), v], .bool D] w fun e w' => ((plOk n (rtI n L f D) (cntI n L f D (phiN n)) ∧ ∃ a' k', e = .returned (.tuple #[.slice a' (cntI n L f D (phiN n) + 1) k', .bool true]) ∧ Sl true w' w.heap.size w'.heap.size (.slice a' (cntI n L f D (phiN n) + 1) k') (cntI n L f D (phiN n) + 1) (fun k => plZ n (rtI n L f D) (cntI n L f D (phiN n)) k 0)) ∨ (¬ plOk n (rtI n L f D) (cntI n L f D (phiN n)) ∧ e = .returned (.tuple #[.slice none 0 0, .bool false]))) ∧ Below w.heap.size w w' := by
  obtain ⟨av, cap, rfl⟩ := hs.shape
  have hn1 : 1 ≤ n := by have := h.1; omega
  have hn2 : n ≤ 16 := by have := h.2.1; omega
  have hp := phi_le12 n hn2 hn1
  have hp0 := phiN_pos n (by omega) hn1
  have hL : L ≤ 12 := by have e : L = phiN n := h.2.2.1; omega
  have hhs := hs.size
  have HIM := Lib.hid (fun k => im_big (n := n) (L := L) (f := f) (by omega) hn1 h.2.2.2 hL k)
  have st0 := ((((St.start w).addSl ⟨o, lo, hi, .slice av L cap, L, f⟩ hs).alloc (.cells #[.int .i64 (n : Int), .slice av L cap] 28)).addBox w.heap.size [.int .i64 (n : Int), .slice av L cap] (Box.made _ _ _ _ (fun j v h => by simpa using h)))
  have q0 := st0.sl 0 ⟨o, lo, hi, .slice av L cap, L, f⟩ rfl
  dsimp only at q0
  clear h hs
  go_enter Try.func123, Try.ntmps123
  go_wp2_with fail
  refine (l02Images_any n hn1 hn2 _ q0 (by omega)).mono ?_
  rintro e w2 ⟨g, cap2, g2, cap3, vs, rfl, r2, s2, n2, hne, b2⟩
  have hz2 := b2.size
  simp only [World.size_alloc] at hz2
  have st2 := st0.keep b2
  have CI := Lib.hid (CL.ofRow (bs := []) r2 (fun k hk => by
    obtain ⟨l, h, _, _, _, q⟩ := s2 k hk
    exact ⟨l, h, fun b hb => absurd hb List.not_mem_nil, q.rd⟩))
  clear st0 b2 n2 q0 r2 s2
  obtain ⟨x0, x1⟩ := (st2.box 0 (w.heap.size, [.int .i64 (n : Int), .slice av L cap]) rfl).cell2
  have ST2 := Lib.hid st2
  clear st2
  go_wp2_with fail
  refine (l01One_poly n _ hn1 hn2).mono ?_
  rintro e w3 ⟨a3, k3, rfl, s3, b3⟩
  have hz3 := b3.size
  have C1 := Lib.hid (show CL _ w3.heap.size 1 1 n (phiN n) (fun _ => .slice a3 (phiN n) k3) (plZ n (rtI n L f D) 0) [] from CL.one w3 28 n (phiN n) s3.rd)
  have CI1 := Lib.hid ((CI.out.keep b3 (Nat.le_refl _)).alloc (.cells #[.int .i64 (n : Int), .slice a3 (phiN n) k3] 28))
  have ST3 := Lib.hid ((ST2.out.keep b3).alloc (.cells #[.int .i64 (n : Int), .slice a3 (phiN n) k3] 28))
  clear CI ST2 s3 b3 x0 x1
  have hc0 : cntI n L f D 0 = 0 := by unfold cntI; split <;> rfl
  have HC0 := Lib.hid hc0
  clear hc0
  go_wp2
  go_loopw [8, 9] (fun s8 s9 wr => ∃ (i c g' cap' : Nat) (vl : Nat → Value), i ≤ phiN n ∧ c = cntI n L f D i ∧ s9 = .int .i64 (i : Int) ∧ s8 = .slice (some ⟨g', 0, none⟩) (c + 1) cap' ∧ CL wr g' (c + 1) (c + 1) n (phiN n) vl (plZ n (rtI n L f D) c) [] ∧ plOk n (rtI n L f D) c ∧ CL wr g (phiN n) (phiN n) n (phiN n) vs (im n L f) [] ∧ St w wr [(w.heap.size, [.int .i64 (n : Int), .slice av L cap])] [⟨o, lo, hi, .slice av L cap, L, f⟩]) (fun _ s9 _ => phiN n - (intOf s9).toNat)
  case atStart => exact ⟨0, 0, _, _, _, Nat.zero_le _, HC0.out.symm, rfl, rfl, C1.out, plOk_zero _ _, CI1.out, ST3.out⟩
  case round =>
    clear C1 CI1 ST3 HC0
    obtain ⟨i, c, g', cap', vl, hi9, hc, rfl, rfl, hcl, hok, hci, hst⟩ := hrel
    have HC := Lib.hid hc; clear hc
    have C := Lib.hid hcl; clear hcl
    have HOK := Lib.hid hok; clear hok
    have CI := Lib.hid hci; clear hci
    have HT := Lib.hid hst; clear hst
    have hc12 : c ≤ 12 := by have := cntI_le n L f D i; have := HC.out; omega
    by_cases hlt : i < phiN n
    · have hi2 : (i : Int) < (phiN n : Int) := by omega
      go_wp2
      go_loopw [10, 11] (fun s10 s11 wx => ∃ q : Nat, q ≤ i ∧ s10 = .bool (knownB n L f i q) ∧ s11 = .int .i64 (q : Int) ∧ CL wx g' (c + 1) (c + 1) n (phiN n) vl (plZ n (rtI n L f D) c) [] ∧ CL wx g (phiN n) (phiN n) n (phiN n) vs (im n L f) [] ∧ St w wx [(w.heap.size, [.int .i64 (n : Int), .slice av L cap])] [⟨o, lo, hi, .slice av L cap, L, f⟩]) (fun _ s11 _ => i - (intOf s11).toNat)
      case atStart => exact ⟨0, Nat.zero_le _, rfl, rfl, C.out, CI.out, HT.out⟩
      case round =>
        clear C CI HT
        obtain ⟨q, hq, rfl, rfl, hcl, hci, hst⟩ := hrel
        have C := Lib.hid hcl; clear hcl
        have CI := Lib.hid hci; clear hci
        have HT := Lib.hid hst; clear hst
        by_cases hlq : q < i
        · have hq2 : (q : Int) < (i : Int) := by omega
          have hq3 : (q : Int) < (phiN n : Int) := by omega
          have HKN := Lib.hid (show knownB n L f i (q + 1) = (knownB n L f i q || eqB (phiN n) (im n L f q) (im n L f i)) from rfl)
          cases hk : knownB n L f i q with
          | true =>
            have HK := Lib.hid hk
            clear hk
            go_wp2
            go_quiet (fail)
            go_wp2
            go_roundw
            case rel => exact ⟨q + 1, by omega, by rw [HKN.out, HK.out]; rfl, by go_num, C.out.keep (below_drewN (Below.refl wr.heap.size wr) _) (Nat.le_refl _), CI.out.keep (below_drewN (Below.refl wr.heap.size wr) _) (Nat.le_refl _), HT.out.drewN _⟩
            case measure => simp [intOf] <;> omega
          | false =>
            have HK := Lib.hid hk
            clear hk
            have a0 := CI.out.c0 (k := q) (by omega)
            have a1 := CI.out.c1 (k := q) (by omega)
            have e0 := CI.out.c0 hlt
            have e1 := CI.out.c1 hlt
            obtain ⟨l1, h1, _, hv1⟩ := CI.out.2.2.2 q (by omega)
            obtain ⟨l2, h2, _, hv2⟩ := CI.out.2.2.2 i hlt
            have HSM := Lib.hid (l01Same_any (n : Int) wr.drew hv1.drew hv2.drew)
            clear hv1 hv2
            go_wp2_with fail
            go_region_law (first
              | (go_simp; go_at_call 184; refine HSM.out.mono ?_; rintro e w8 ⟨rfl, b8⟩))
            all_goals
              have hz8 := b8.size
              have C8 := Lib.hid (C.out.drew.keep b8 (Nat.le_refl _))
              have I8 := Lib.hid (CI.out.drew.keep b8 (Nat.le_refl _))
              have T8 := Lib.hid (HT.out.drew.keep b8)
              clear b8 C CI HT a0 a1 e0 e1
              go_wp2
              go_roundw
              case rel => exact ⟨q + 1, by omega, by rw [HKN.out, HK.out]; rfl, by go_num, C8.out, I8.out, T8.out⟩
              case measure => simp [intOf] <;> omega
        · obtain rfl : i = q := by omega
          obtain ⟨wb, hwb⟩ : ∃ x : World, x = wr := ⟨_, rfl⟩
          subst hwb
          obtain ⟨R, hR⟩ : ∃ R, R = rtI n L f D := ⟨_, rfl⟩
          rw [← hR] at HOK C
          have HRQ := Lib.hid hR
          obtain ⟨T, hT⟩ : ∃ T, T = cntI n L f D (phiN n) := ⟨_, rfl⟩
          have HTQ := Lib.hid hT
          have HSKIP := Lib.hid (fun hsk => cntI_skip (n := n) (L := L) (f := f) (D := D) (i := i) hsk)
          have HTAKE := Lib.hid (fun hsk => cntI_take (n := n) (L := L) (f := f) (D := D) (i := i) hsk)
          have HRT := Lib.hid (fun hsk => rtI_at (n := n) (L := L) (f := f) (D := D) (i := i) hsk hlt)
          have HLT := Lib.hid (fun hsk => show cntI n L f D i < T from by rw [hT]; exact cntI_lt (n := n) (L := L) (f := f) (D := D) (i := i) (m := phiN n) hsk hlt)
          clear hR hT
          cases hkn : knownB n L f i i <;> cases D
          case true.true =>
            have HN := Lib.hid (HSKIP.out (by rw [hkn]; rfl))
            clear hkn
            go_wp2_with fail
            go_roundw
            case rel =>
              have hR := HRQ.out
              subst hR
              exact ⟨i + 1, c, g', cap', vl, by omega, by rw [HN.out]; exact HC.out, by go_num, rfl, C.out, HOK.out, CI.out, HT.out⟩
            case measure => simp [intOf] <;> omega
          all_goals
            skip
            have HCN := Lib.hid (HTAKE.out (by rw [hkn]; rfl))
            have HRI := Lib.hid (show R c = im n L f i from by rw [HRQ.out, HC.out]; exact HRT.out (by rw [hkn]; rfl))
            have HCL := Lib.hid (HLT.out (by rw [hkn]; rfl))
            have HBAD := Lib.hid (fun k (hk : k < c + 1) (hno : ¬ nxOk n (plZ n R c) (im n L f i) k) (h : plOk n R T) => hno (by have := h c (by have h1 := HC.out; have h2 := HCL.out; omega) k hk; rwa [HRI.out] at this))
            have HPZ := Lib.hid (plZ_within HOK.out)
            clear hkn HSKIP HTAKE HRT HLT
            have hgi := CI.out.1
            have hgl := C.out.1
            have hzb : w.heap.size < wb.heap.size := (HT.out.box 0 (w.heap.size, [.int .i64 (n : Int), .slice av L cap]) rfl).1
            have R0 := Lib.hid (RowE.made wb wb.heap.size 28 2 (fun k => [.int .i64 (n : Int), vl k]) (Nat.le_refl _))
            have N0 := Lib.hid (show NX (wb.alloc (.cells #[] 28)) [wb.heap.size] 0 (phiN n) vl (nxt n (plZ n R c) (im n L f i) (c + 1)) from fun k hk => absurd hk (Nat.not_lt_zero _))
            have C0 := Lib.hid ((C.out.more (b := wb.heap.size) (Nat.le_refl _)).alloc (.cells #[] 28))
            have I0 := Lib.hid ((CI.out.more (b := wb.heap.size) (Nat.le_refl _)).alloc (.cells #[] 28))
            have T0 := Lib.hid (HT.out.alloc (.cells #[] 28))
            clear C CI HT
            go_wp2_with fail
            go_loopw [12, 13] (fun s12 s13 wx => ∃ (k gn cn : Nat) (vn : Nat → Value), k ≤ c + 2 ∧ s12 = .slice (some ⟨gn, 0, none⟩) k cn ∧ s13 = .int .i64 (k : Int) ∧ RowE wx wb.heap.size 28 2 gn cn k (fun j => [.int .i64 (n : Int), vn j]) ∧ NX wx [gn] k (phiN n) vn (nxt n (plZ n R c) (im n L f i) (c + 1)) ∧ (∀ j, j < k → j < c + 1 → nxOk n (plZ n R c) (im n L f i) j) ∧ CL wx g' (c + 1) (c + 1) n (phiN n) vl (plZ n R c) [gn] ∧ CL wx g (phiN n) (phiN n) n (phiN n) vs (im n L f) [gn] ∧ St w wx [(w.heap.size, [.int .i64 (n : Int), .slice av L cap])] [⟨o, lo, hi, .slice av L cap, L, f⟩]) (fun _ s13 _ => c + 2 - (intOf s13).toNat)
            case atStart => exact ⟨0, _, _, vl, by omega, rfl, rfl, R0.out, N0.out, fun j hj => absurd hj (Nat.not_lt_zero _), C0.out, I0.out, T0.out⟩
            case round =>
              clear R0 N0 C0 I0 T0
              obtain ⟨k, gn, cn, vn, hk, rfl, rfl, hr, hnx, hnk, hcl, hci, hst⟩ := hrel
              have RW := Lib.hid hr; clear hr
              have NW := Lib.hid hnx; clear hnx
              have NK := Lib.hid hnk; clear hnk
              have C := Lib.hid hcl; clear hcl
              have CI := Lib.hid hci; clear hci
              have HT := Lib.hid hst; clear hst
              obtain ⟨hl, hl'⟩ := RW.out.lt
              by_cases hlk : k < c + 2
              · have hk2 : (k : Int) ≤ (c : Int) + 1 := by omega
                obtain ⟨x0, x1⟩ := (HT.out.box 0 (w.heap.size, [.int .i64 (n : Int), .slice av L cap]) rfl).cell2
                dsimp only at x0 x1
                go_wp2_with fail
                refine (l01Zero_any n (by omega) _).mono ?_
                rintro e w4 ⟨a4, k4, rfl, s4, b4⟩
                have hz4 := b4.size
                have hg4 : g' < w4.heap.size := by omega
                have hg5 : g < w4.heap.size := by omega
                have hg6 : gn < w4.heap.size := by omega
                have C4 := Lib.hid ((C.out.keep b4 (Nat.le_refl _)).more (b := w4.heap.size) (Nat.le_refl _))
                have I4 := Lib.hid ((CI.out.keep b4 (Nat.le_refl _)).more (b := w4.heap.size) (Nat.le_refl _))
                have N4 := Lib.hid ((NW.out.keep b4 (Nat.le_refl _)).more (b := w4.heap.size) (Nat.le_refl _))
                have R4 := Lib.hid (RW.out.keep b4 (Nat.le_refl _))
                have T4 := Lib.hid (HT.out.keep b4)
                have S4 := Lib.hid s4
                clear C CI NW RW HT s4 b4 x0 x1
                by_cases hk0 : k = 0
                · subst hk0
                  have hlk1 : 0 < c + 1 := by omega
                  have hk4 : (0 : Int) < (c : Int) + 1 := by omega
                  have C5 := Lib.hid (C4.out.alloc (.cells #[.int .i64 (n : Int), .slice a4 (phiN n) k4] 28))
                  have I5 := Lib.hid (I4.out.alloc (.cells #[.int .i64 (n : Int), .slice a4 (phiN n) k4] 28))
                  have N5 := Lib.hid (N4.out.alloc (.cells #[.int .i64 (n : Int), .slice a4 (phiN n) k4] 28))
                  have R5 := Lib.hid (R4.out.alloc (.cells #[.int .i64 (n : Int), .slice a4 (phiN n) k4] 28))
                  have T5 := Lib.hid (T4.out.boxNew (.int .i64 (n : Int)) (.slice a4 (phiN n) k4) 28)
                  have SO := Lib.hid (show Sl false (w4.alloc (.cells #[.int .i64 (n : Int), .slice a4 (phiN n) k4] 28)) _ _ (.slice a4 (phiN n) k4) (phiN n) (bef (plZ n R c) (0)) from (S4.out.rd.alloc _).congr (fun j hj => by unfold bef; rw [if_pos rfl]))
                  have e0 := I5.out.c0 hlt
                  have e1 := I5.out.c1 hlt
                  have d2 := C5.out.c0 hlk1
                  have d3 := C5.out.c1 hlk1
                  obtain ⟨l1, h1', _, hv1⟩ := I5.out.2.2.2 i hlt
                  obtain ⟨l2, h2', _, hv2⟩ := C5.out.2.2.2 _ hlk1
                  have HPW := Lib.hid (l01Times_any n hn1 hn2 (w4.alloc (.cells #[.int .i64 (n : Int), .slice a4 (phiN n) k4] 28)).drew hv1.drew hv2.drew (HIM.out i) (Within.big (HPZ.out _ hlk1)) hp0 hp)
                  have HPA := Lib.hid (l01Times_any n hn1 hn2 ((w4.alloc (.cells #[.int .i64 (n : Int), .slice a4 (phiN n) k4] 28)).alloc (.cells #[.int .i64 0, .slice none 0 0] 28)).drew (hv1.alloc (.cells #[.int .i64 0, .slice none 0 0] 28)).drew (hv2.alloc (.cells #[.int .i64 0, .slice none 0 0] 28)).drew (HIM.out i) (Within.big (HPZ.out _ hlk1)) hp0 hp)
                  rw [prodZ_comm n (phiN n) (im n L f i)] at HPW HPA
                  have HZB := Lib.hid (Box.made (w4.alloc (.cells #[.int .i64 (n : Int), .slice a4 (phiN n) k4] 28)) #[.int .i64 0, .slice none 0 0] 28 [.int .i64 0, .slice none 0 0] (fun j v h => by simpa using h))
                  clear hv1 hv2 C4 I4 N4 R4 T4
                  go_wp2_with fail
                  go_cut [15, 16] from 62 to 99 (fun s15 s16 wx => ∃ (b15 lo7 hi7 : Nat) (a7 : Option Addr) (k7 : Nat) (b : Bool), s15 = .pointer (some ⟨b15, 0, none⟩) ∧ s16 = .bool b ∧ (b = true ↔ Within (prodZ n (phiN n) (plZ n R c (0)) (im n L f i)) (phiN n) 1000000000) ∧ Below (w4.alloc (.cells #[.int .i64 (n : Int), .slice a4 (phiN n) k4] 28)).heap.size (w4.alloc (.cells #[.int .i64 (n : Int), .slice a4 (phiN n) k4] 28)) wx ∧ Box wx b15 [.int .i64 (n : Int), .slice a7 (phiN n) k7] ∧ (b = true → Sl true wx lo7 hi7 (.slice a7 (phiN n) k7) (phiN n) (prodZ n (phiN n) (plZ n R c (0)) (im n L f i))))
                  case first =>
                    go_region_law (first
                      | (go_simp; go_at_call 165; refine HPW.out.mono ?_; rintro e w7 ⟨a7, k7, b, rfl, hb, s7, b7⟩
                         have s7' := fun hb => (s7 hb).alloc (.cells #[.int .i64 (n : Int), .slice a7 (phiN n) k7] 28)
                         have b7' := ((Below.refl (w4.alloc (.cells #[.int .i64 (n : Int), .slice a4 (phiN n) k4] 28)).heap.size (w4.alloc (.cells #[.int .i64 (n : Int), .slice a4 (phiN n) k4] 28))).drew.trans b7).alloc b7.size (.cells #[.int .i64 (n : Int), .slice a7 (phiN n) k7] 28))
                      | (go_simp; go_at_call 165; refine HPA.out.mono ?_; rintro e w7 ⟨a7, k7, b, rfl, hb, s7, b7⟩
                         have b7' := (Below.refl ((w4.alloc (.cells #[.int .i64 (n : Int), .slice a4 (phiN n) k4] 28)).alloc (.cells #[.int .i64 0, .slice none 0 0] 28)).heap.size ((w4.alloc (.cells #[.int .i64 (n : Int), .slice a4 (phiN n) k4] 28)).alloc (.cells #[.int .i64 0, .slice none 0 0] 28))).drew.trans b7
                         have bx7 := HZB.out.keep b7'
                         simp only [World.size_alloc] at bx7
                         obtain ⟨q0', q1'⟩ := bx7.cell2
                         have qz' := bx7.2.2
                         skip))
                    all_goals
                      go_wp2_with fail
                      go_meet
                      first
                        | exact ⟨w7.heap.size, _, _, a7, k7, b, rfl, rfl, hb, b7', Box.made2 rfl, s7'⟩
                        | exact ⟨_, _, _, a7, k7, b, rfl, rfl, hb, (((((Below.refl (w4.alloc (.cells #[.int .i64 (n : Int), .slice a4 (phiN n) k4] 28)).heap.size (w4.alloc (.cells #[.int .i64 (n : Int), .slice a4 (phiN n) k4] 28))).alloc (Nat.le_refl _) (.cells #[.int .i64 0, .slice none 0 0] 28)).trans (b7'.mono (by simp))).setCell (p := ⟨w4.heap.size + 1, 0, none⟩) (by simp) _).setCell (p := ⟨w4.heap.size + 1, 1, none⟩) (by simp) _), bx7.set2, fun hb => ((s7 hb).setOther (.inl (by simp)) _).setOther (.inl (by simp)) _⟩
                  case rest =>
                    obtain ⟨b15, lo7, hi7, a7, k7, b, rfl, rfl, hb, bel, bx, s7⟩ := hcut
                    have hzc := bel.size
                    simp only [World.size_alloc] at hzc
                    have C6 := Lib.hid (C5.out.keep bel (Nat.le_refl _))
                    have I6 := Lib.hid (I5.out.keep bel (Nat.le_refl _))
                    have N6 := Lib.hid (N5.out.keep bel (Nat.le_refl _))
                    have R6 := Lib.hid (R5.out.keep bel (Nat.le_refl _))
                    have T6 := Lib.hid (T5.out.keep bel)
                    have SO6 := Lib.hid (SO.out.keep bel SO.out.size)
                    have S7 := Lib.hid s7
                    have HB := Lib.hid hb
                    obtain ⟨t0, t1⟩ := bx.cell2
                    clear C5 I5 N5 R5 T5 SO s7 hb bx bel HPW HPA HZB e0 e1 d2 d3
                    cases b with
                    | false =>
                      have HN := Lib.hid (HBAD.out _ hlk1 (fun h => by have := HB.out.2 h.1; cases this))
                      have BB := T6.out.1
                      clear C6 I6 N6 R6 T6 SO6 S7
                      go_wp2_with fail
                      go_ret2
                      have hR := HRQ.out
                      have hT := HTQ.out
                      subst hR
                      subst hT
                      exact ⟨.inr ⟨HN.out, rfl⟩, BB⟩
                    | true =>
                      have HP := Lib.hid (HB.out.1 rfl)
                      obtain ⟨y0, y1⟩ := (T6.out.box 0 (w4.heap.size, [.int .i64 (n : Int), .slice a4 (phiN n) k4]) rfl).cell2
                      dsimp only at y0 y1
                      have HPL := Lib.hid (l01Plus_any (n : Int) (-1) wc SO6.out (S7.out rfl) (by omega) (by omega) (bef_within HPZ.out (by omega)) HP.out (by omega))
                      go_wp2_with fail
                      refine HPL.out.mono ?_
                      rintro e w8 ⟨aw, kw, rfl, sw, b8⟩
                      have hz8 := b8.size
                      have T7 := T6.out.keep b8
                      obtain ⟨y2, y3⟩ := (T7.box 0 (w4.heap.size, [.int .i64 (n : Int), .slice a4 (phiN n) k4]) rfl).cell2
                      have yz := (T7.box 0 (w4.heap.size, [.int .i64 (n : Int), .slice a4 (phiN n) k4]) rfl).2.2
                      dsimp only at y2 y3 yz
                      have C8 := Lib.hid (((C6.out.keep b8 (Nat.le_refl _)).setOther (b := w4.heap.size) (o := 0) (by simp) (by omega) (.int .i64 (n : Int))).setOther (b := w4.heap.size) (o := 1) (by simp) (by omega) (.slice aw (phiN n) kw))
                      have I8 := Lib.hid (((I6.out.keep b8 (Nat.le_refl _)).setOther (b := w4.heap.size) (o := 0) (by simp) (by omega) (.int .i64 (n : Int))).setOther (b := w4.heap.size) (o := 1) (by simp) (by omega) (.slice aw (phiN n) kw))
                      have N8 := Lib.hid ((N6.out.keep b8 (Nat.le_refl _)).frame (((Frame.refl w4.heap.size (w4.heap.size + 1) w8).setCell (Nat.le_refl _) (Nat.lt_succ_self _) (.int .i64 (n : Int)) (p := ⟨w4.heap.size, 0, none⟩)).setCell (Nat.le_refl _) (Nat.lt_succ_self _) (.slice aw (phiN n) kw) (p := ⟨w4.heap.size, 1, none⟩)) (by simp))
                      have R8 := Lib.hid ((R6.out.keep b8 (Nat.le_refl _)).keepF (((Frame.refl w4.heap.size (w4.heap.size + 1) w8).setCell (Nat.le_refl _) (Nat.lt_succ_self _) (.int .i64 (n : Int)) (p := ⟨w4.heap.size, 0, none⟩)).setCell (Nat.le_refl _) (Nat.lt_succ_self _) (.slice aw (phiN n) kw) (p := ⟨w4.heap.size, 1, none⟩)) (by omega))
                      have T8 := Lib.hid (T7.boxSet (u0 := .int .i64 (n : Int)) (u1 := .slice aw (phiN n) kw) (by omega) (by intro b hb; simp only [List.mem_cons, List.not_mem_nil, or_false] at hb; rcases hb with rfl <;> dsimp only <;> omega) (by intro s hs'; simp only [List.mem_cons, List.not_mem_nil, or_false] at hs'; rcases hs' with rfl <;> dsimp only <;> omega))
                      have S8 := Lib.hid (show Sl false ((w8.setCell ⟨w4.heap.size, 0, none⟩ (.int .i64 (n : Int))).setCell ⟨w4.heap.size, 1, none⟩ (.slice aw (phiN n) kw)) wc.heap.size w8.heap.size (.slice aw (phiN n) kw) (phiN n) (nxt n (plZ n R c) (im n L f i) (c + 1) (0)) from by
                        unfold nxt
                        rw [if_pos hlk1]
                        exact ((sw.setOther (.inl (by show w4.heap.size < wc.heap.size; omega)) _).setOther (.inl (by show w4.heap.size < wc.heap.size; omega)) _).rd)
                      have HA := Lib.hid (show ∀ b ∈ [gn], b < wc.heap.size ∨ w8.heap.size ≤ b from by intro b hb; simp only [List.mem_cons, List.not_mem_nil, or_false] at hb; subst hb; omega)
                      clear C6 I6 N6 R6 T6 T7 SO6 S7 sw b8 HPL y0 y1 t0 t1
                      go_wp2_with fail
                      by_cases hS : Within (nxt n (plZ n R c) (im n L f i) (c + 1) (0)) (phiN n) 1000000000
                      · have HNX := Lib.hid (show nxOk n (plZ n R c) (im n L f i) (0) from ⟨HP.out, by unfold nxt at hS; rwa [if_pos hlk1] at hS⟩)
                        refine (l01Fits_yes (n : Int) _ S8.out hS).mono ?_
                        clear hS
                        rintro e w9 ⟨rfl, b9⟩
                        have hz9 := b9.size
                        try simp only [World.size_setCell] at hz9
                        have C9 := Lib.hid (C8.out.keep b9 (Nat.le_refl _))
                        have I9 := Lib.hid (I8.out.keep b9 (Nat.le_refl _))
                        have N9 := Lib.hid (N8.out.keep b9 (Nat.le_refl _))
                        have R9 := Lib.hid (R8.out.keep b9 (Nat.le_refl _))
                        have T9 := Lib.hid (T8.out.keep b9)
                        have S9 := Lib.hid (S8.out.keep b9 S8.out.size)
                        clear C8 I8 N8 R8 T8 S8 b9 y2 y3 yz
                        have HBX := (T9.out.box 0 (w4.heap.size, [.int .i64 (n : Int), .slice aw (phiN n) kw]) rfl).cell2
                        have v0 := HBX.1
                        have v1 := HBX.2
                        dsimp only at v0 v1
                        clear HBX
                        have hgn9 := (R9.out.lt).2
                        go_wp2_with (first
                          | (at_builtin; refine wpList_pushC rfl (.tmp 96) (.tmp 98) rfl rfl wb.heap.size gn cn (0) (fun _ => (n : Int)) vn rfl (R9.out.alloc _) w9.heap.size (n : Int) (.slice aw (phiN n) kw) rfl rfl (heap_alloc_new w9 _) (by omega) ?_; intro gA kA wA rowA grA orA ltA
                             have frA := Frame.ofGrown grA
                             have CA := Lib.hid (((C9.out.sub (bs' := [gn]) (by simp)).alloc (.cells #[.int .i64 (n : Int), .slice aw (phiN n) kw] 28)).grown frA (by omega) orA)
                             have IA := Lib.hid (((I9.out.sub (bs' := [gn]) (by simp)).alloc (.cells #[.int .i64 (n : Int), .slice aw (phiN n) kw] 28)).grown frA (by omega) orA)
                             have NA := Lib.hid ((((N9.out.sub (bs' := [gn]) (by simp)).push S9.out HA.out).alloc (.cells #[.int .i64 (n : Int), .slice aw (phiN n) kw] 28)).grown frA orA)
                             have TA := Lib.hid ((T9.out.tailB.alloc (.cells #[.int .i64 (n : Int), .slice aw (phiN n) kw] 28)).write frA (by omega) (by intro b hb; simp only [List.mem_cons, List.not_mem_nil, or_false] at hb; rcases hb with rfl <;> dsimp only <;> omega) (by intro s hs'; simp only [List.mem_cons, List.not_mem_nil, or_false] at hs'; rcases hs' with rfl <;> dsimp only <;> omega))
                             have RA := Lib.hid rowA
                             simp only [World.size_alloc] at orA
                             clear rowA grA frA C9 I9 N9 R9 T9 S9 v0 v1))
                        go_roundw
                        case rel =>
                          exact ⟨0 + 1, gA, kA, fun j => if j < 0 then vn j else .slice aw (phiN n) kw, by omega, rfl, by go_num, RA.out.congr (fun j hj => by
                              by_cases e : j < 0
                              · rw [if_pos e]; dsimp only; rw [if_pos e]
                              · rw [if_neg e]; dsimp only; rw [if_neg e]), NA.out, (fun j hj hj2 => by
                              by_cases e : j < 0
                              · exact NK.out j e hj2
                              · obtain rfl : j = 0 := by omega
                                exact HNX.out), CA.out, IA.out, TA.out⟩
                        case measure => simp [intOf] <;> omega
                      · have HN := Lib.hid (HBAD.out _ hlk1 (fun h => hS (by unfold nxt; rw [if_pos hlk1]; exact h.2)))
                        refine (l01Fits_no (n : Int) _ S8.out hS).mono ?_
                        clear hS
                        rintro e w9 ⟨rfl, b9⟩
                        have BB := (T8.out.keep b9).1
                        clear C8 I8 N8 R8 T8 S8 b9 y2 y3 yz
                        go_wp2_with fail
                        go_ret2
                        have hR := HRQ.out
                        have hT := HTQ.out
                        subst hR
                        subst hT
                        exact ⟨.inr ⟨HN.out, rfl⟩, BB⟩
                · obtain ⟨m, rfl⟩ : ∃ m, k = m + 1 := ⟨k - 1, by omega⟩
                  have hm2 : (m : Int) < (c : Int) + 1 := by omega
                  have hk3 : ¬ ((m : Int) + 1 ≤ 0) := by omega
                  have d0 := C4.out.c0 (k := m) (by omega)
                  have d1 := C4.out.c1 (k := m) (by omega)
                  obtain ⟨l8, h8, hd8, q8⟩ := C4.out.2.2.2 m (by omega)
                  obtain ⟨a8, k8, hv8⟩ := q8.shape
                  rw [hv8] at d1 q8
                  have S8 := Lib.hid q8
                  clear hv8 q8
                  by_cases hlk1 : m + 1 < c + 1
                  · have hk4 : (m : Int) + 1 < (c : Int) + 1 := by omega
                    have hk5 : (m : Int) < (c : Int) := by omega
                    have hk6 : (0 : Int) ≤ (m : Int) + 1 := by omega
                    have hk7 : ¬ ((m : Int) + 1 < 0) := by omega
                    have hk8 : ((m : Int) + 1).toNat = m + 1 := by omega
                    have C5 := Lib.hid (C4.out.alloc (.cells #[.int .i64 (n : Int), .slice a8 (phiN n) k8] 28))
                    have I5 := Lib.hid (I4.out.alloc (.cells #[.int .i64 (n : Int), .slice a8 (phiN n) k8] 28))
                    have N5 := Lib.hid (N4.out.alloc (.cells #[.int .i64 (n : Int), .slice a8 (phiN n) k8] 28))
                    have R5 := Lib.hid (R4.out.alloc (.cells #[.int .i64 (n : Int), .slice a8 (phiN n) k8] 28))
                    have T5 := Lib.hid (T4.out.boxNew (.int .i64 (n : Int)) (.slice a8 (phiN n) k8) 28)
                    have SO := Lib.hid (show Sl false (w4.alloc (.cells #[.int .i64 (n : Int), .slice a8 (phiN n) k8] 28)) _ _ (.slice a8 (phiN n) k8) (phiN n) (bef (plZ n R c) (m + 1)) from (S8.out.alloc _).congr (fun j hj => by unfold bef; rw [if_neg (Nat.succ_ne_zero _), Nat.add_sub_cancel]))
                    have e0 := I5.out.c0 hlt
                    have e1 := I5.out.c1 hlt
                    have d2 := C5.out.c0 hlk1
                    have d3 := C5.out.c1 hlk1
                    obtain ⟨l1, h1', _, hv1⟩ := I5.out.2.2.2 i hlt
                    obtain ⟨l2, h2', _, hv2⟩ := C5.out.2.2.2 _ hlk1
                    have HPW := Lib.hid (l01Times_any n hn1 hn2 (w4.alloc (.cells #[.int .i64 (n : Int), .slice a8 (phiN n) k8] 28)).drew hv1.drew hv2.drew (HIM.out i) (Within.big (HPZ.out _ hlk1)) hp0 hp)
                    have HPA := Lib.hid (l01Times_any n hn1 hn2 ((w4.alloc (.cells #[.int .i64 (n : Int), .slice a8 (phiN n) k8] 28)).alloc (.cells #[.int .i64 0, .slice none 0 0] 28)).drew (hv1.alloc (.cells #[.int .i64 0, .slice none 0 0] 28)).drew (hv2.alloc (.cells #[.int .i64 0, .slice none 0 0] 28)).drew (HIM.out i) (Within.big (HPZ.out _ hlk1)) hp0 hp)
                    rw [prodZ_comm n (phiN n) (im n L f i)] at HPW HPA
                    have HZB := Lib.hid (Box.made (w4.alloc (.cells #[.int .i64 (n : Int), .slice a8 (phiN n) k8] 28)) #[.int .i64 0, .slice none 0 0] 28 [.int .i64 0, .slice none 0 0] (fun j v h => by simpa using h))
                    clear hv1 hv2 C4 I4 N4 R4 T4
                    go_wp2_with fail
                    go_cut [15, 16] from 62 to 99 (fun s15 s16 wx => ∃ (b15 lo7 hi7 : Nat) (a7 : Option Addr) (k7 : Nat) (b : Bool), s15 = .pointer (some ⟨b15, 0, none⟩) ∧ s16 = .bool b ∧ (b = true ↔ Within (prodZ n (phiN n) (plZ n R c (m + 1)) (im n L f i)) (phiN n) 1000000000) ∧ Below (w4.alloc (.cells #[.int .i64 (n : Int), .slice a8 (phiN n) k8] 28)).heap.size (w4.alloc (.cells #[.int .i64 (n : Int), .slice a8 (phiN n) k8] 28)) wx ∧ Box wx b15 [.int .i64 (n : Int), .slice a7 (phiN n) k7] ∧ (b = true → Sl true wx lo7 hi7 (.slice a7 (phiN n) k7) (phiN n) (prodZ n (phiN n) (plZ n R c (m + 1)) (im n L f i))))
                    case first =>
                      go_region_law (first
                        | (go_simp; go_at_call 165; refine HPW.out.mono ?_; rintro e w7 ⟨a7, k7, b, rfl, hb, s7, b7⟩
                           have s7' := fun hb => (s7 hb).alloc (.cells #[.int .i64 (n : Int), .slice a7 (phiN n) k7] 28)
                           have b7' := ((Below.refl (w4.alloc (.cells #[.int .i64 (n : Int), .slice a8 (phiN n) k8] 28)).heap.size (w4.alloc (.cells #[.int .i64 (n : Int), .slice a8 (phiN n) k8] 28))).drew.trans b7).alloc b7.size (.cells #[.int .i64 (n : Int), .slice a7 (phiN n) k7] 28))
                        | (go_simp; go_at_call 165; refine HPA.out.mono ?_; rintro e w7 ⟨a7, k7, b, rfl, hb, s7, b7⟩
                           have b7' := (Below.refl ((w4.alloc (.cells #[.int .i64 (n : Int), .slice a8 (phiN n) k8] 28)).alloc (.cells #[.int .i64 0, .slice none 0 0] 28)).heap.size ((w4.alloc (.cells #[.int .i64 (n : Int), .slice a8 (phiN n) k8] 28)).alloc (.cells #[.int .i64 0, .slice none 0 0] 28))).drew.trans b7
                           have bx7 := HZB.out.keep b7'
                           simp only [World.size_alloc] at bx7
                           obtain ⟨q0', q1'⟩ := bx7.cell2
                           have qz' := bx7.2.2
                           skip))
                      all_goals
                        go_wp2_with fail
                        go_meet
                        first
                          | exact ⟨w7.heap.size, _, _, a7, k7, b, rfl, rfl, hb, b7', Box.made2 rfl, s7'⟩
                          | exact ⟨_, _, _, a7, k7, b, rfl, rfl, hb, (((((Below.refl (w4.alloc (.cells #[.int .i64 (n : Int), .slice a8 (phiN n) k8] 28)).heap.size (w4.alloc (.cells #[.int .i64 (n : Int), .slice a8 (phiN n) k8] 28))).alloc (Nat.le_refl _) (.cells #[.int .i64 0, .slice none 0 0] 28)).trans (b7'.mono (by simp))).setCell (p := ⟨w4.heap.size + 1, 0, none⟩) (by simp) _).setCell (p := ⟨w4.heap.size + 1, 1, none⟩) (by simp) _), bx7.set2, fun hb => ((s7 hb).setOther (.inl (by simp)) _).setOther (.inl (by simp)) _⟩
                    case rest =>
                      obtain ⟨b15, lo7, hi7, a7, k7, b, rfl, rfl, hb, bel, bx, s7⟩ := hcut
                      have hzc := bel.size
                      simp only [World.size_alloc] at hzc
                      have C6 := Lib.hid (C5.out.keep bel (Nat.le_refl _))
                      have I6 := Lib.hid (I5.out.keep bel (Nat.le_refl _))
                      have N6 := Lib.hid (N5.out.keep bel (Nat.le_refl _))
                      have R6 := Lib.hid (R5.out.keep bel (Nat.le_refl _))
                      have T6 := Lib.hid (T5.out.keep bel)
                      have SO6 := Lib.hid (SO.out.keep bel SO.out.size)
                      have S7 := Lib.hid s7
                      have HB := Lib.hid hb
                      obtain ⟨t0, t1⟩ := bx.cell2
                      clear C5 I5 N5 R5 T5 SO s7 hb bx bel HPW HPA HZB e0 e1 d2 d3
                      cases b with
                      | false =>
                        have HN := Lib.hid (HBAD.out _ hlk1 (fun h => by have := HB.out.2 h.1; cases this))
                        have BB := T6.out.1
                        clear C6 I6 N6 R6 T6 SO6 S7
                        go_wp2_with fail
                        go_ret2
                        have hR := HRQ.out
                        have hT := HTQ.out
                        subst hR
                        subst hT
                        exact ⟨.inr ⟨HN.out, rfl⟩, BB⟩
                      | true =>
                        have HP := Lib.hid (HB.out.1 rfl)
                        obtain ⟨y0, y1⟩ := (T6.out.box 0 (w4.heap.size, [.int .i64 (n : Int), .slice a8 (phiN n) k8]) rfl).cell2
                        dsimp only at y0 y1
                        have HPL := Lib.hid (l01Plus_any (n : Int) (-1) wc SO6.out (S7.out rfl) (by omega) (by omega) (bef_within HPZ.out (by omega)) HP.out (by omega))
                        go_wp2_with fail
                        refine HPL.out.mono ?_
                        rintro e w8 ⟨aw, kw, rfl, sw, b8⟩
                        have hz8 := b8.size
                        have T7 := T6.out.keep b8
                        obtain ⟨y2, y3⟩ := (T7.box 0 (w4.heap.size, [.int .i64 (n : Int), .slice a8 (phiN n) k8]) rfl).cell2
                        have yz := (T7.box 0 (w4.heap.size, [.int .i64 (n : Int), .slice a8 (phiN n) k8]) rfl).2.2
                        dsimp only at y2 y3 yz
                        have C8 := Lib.hid (((C6.out.keep b8 (Nat.le_refl _)).setOther (b := w4.heap.size) (o := 0) (by simp) (by omega) (.int .i64 (n : Int))).setOther (b := w4.heap.size) (o := 1) (by simp) (by omega) (.slice aw (phiN n) kw))
                        have I8 := Lib.hid (((I6.out.keep b8 (Nat.le_refl _)).setOther (b := w4.heap.size) (o := 0) (by simp) (by omega) (.int .i64 (n : Int))).setOther (b := w4.heap.size) (o := 1) (by simp) (by omega) (.slice aw (phiN n) kw))
                        have N8 := Lib.hid ((N6.out.keep b8 (Nat.le_refl _)).frame (((Frame.refl w4.heap.size (w4.heap.size + 1) w8).setCell (Nat.le_refl _) (Nat.lt_succ_self _) (.int .i64 (n : Int)) (p := ⟨w4.heap.size, 0, none⟩)).setCell (Nat.le_refl _) (Nat.lt_succ_self _) (.slice aw (phiN n) kw) (p := ⟨w4.heap.size, 1, none⟩)) (by simp))
                        have R8 := Lib.hid ((R6.out.keep b8 (Nat.le_refl _)).keepF (((Frame.refl w4.heap.size (w4.heap.size + 1) w8).setCell (Nat.le_refl _) (Nat.lt_succ_self _) (.int .i64 (n : Int)) (p := ⟨w4.heap.size, 0, none⟩)).setCell (Nat.le_refl _) (Nat.lt_succ_self _) (.slice aw (phiN n) kw) (p := ⟨w4.heap.size, 1, none⟩)) (by omega))
                        have T8 := Lib.hid (T7.boxSet (u0 := .int .i64 (n : Int)) (u1 := .slice aw (phiN n) kw) (by omega) (by intro b hb; simp only [List.mem_cons, List.not_mem_nil, or_false] at hb; rcases hb with rfl <;> dsimp only <;> omega) (by intro s hs'; simp only [List.mem_cons, List.not_mem_nil, or_false] at hs'; rcases hs' with rfl <;> dsimp only <;> omega))
                        have S8 := Lib.hid (show Sl false ((w8.setCell ⟨w4.heap.size, 0, none⟩ (.int .i64 (n : Int))).setCell ⟨w4.heap.size, 1, none⟩ (.slice aw (phiN n) kw)) wc.heap.size w8.heap.size (.slice aw (phiN n) kw) (phiN n) (nxt n (plZ n R c) (im n L f i) (c + 1) (m + 1)) from by
                          unfold nxt
                          rw [if_pos hlk1]
                          exact ((sw.setOther (.inl (by show w4.heap.size < wc.heap.size; omega)) _).setOther (.inl (by show w4.heap.size < wc.heap.size; omega)) _).rd)
                        have HA := Lib.hid (show ∀ b ∈ [gn], b < wc.heap.size ∨ w8.heap.size ≤ b from by intro b hb; simp only [List.mem_cons, List.not_mem_nil, or_false] at hb; subst hb; omega)
                        clear C6 I6 N6 R6 T6 T7 SO6 S7 sw b8 HPL y0 y1 t0 t1
                        go_wp2_with fail
                        by_cases hS : Within (nxt n (plZ n R c) (im n L f i) (c + 1) (m + 1)) (phiN n) 1000000000
                        · have HNX := Lib.hid (show nxOk n (plZ n R c) (im n L f i) (m + 1) from ⟨HP.out, by unfold nxt at hS; rwa [if_pos hlk1] at hS⟩)
                          refine (l01Fits_yes (n : Int) _ S8.out hS).mono ?_
                          clear hS
                          rintro e w9 ⟨rfl, b9⟩
                          have hz9 := b9.size
                          try simp only [World.size_setCell] at hz9
                          have C9 := Lib.hid (C8.out.keep b9 (Nat.le_refl _))
                          have I9 := Lib.hid (I8.out.keep b9 (Nat.le_refl _))
                          have N9 := Lib.hid (N8.out.keep b9 (Nat.le_refl _))
                          have R9 := Lib.hid (R8.out.keep b9 (Nat.le_refl _))
                          have T9 := Lib.hid (T8.out.keep b9)
                          have S9 := Lib.hid (S8.out.keep b9 S8.out.size)
                          clear C8 I8 N8 R8 T8 S8 b9 y2 y3 yz
                          have HBX := (T9.out.box 0 (w4.heap.size, [.int .i64 (n : Int), .slice aw (phiN n) kw]) rfl).cell2
                          have v0 := HBX.1
                          have v1 := HBX.2
                          dsimp only at v0 v1
                          clear HBX
                          have hgn9 := (R9.out.lt).2
                          go_wp2_with (first
                            | (at_builtin; refine wpList_pushC rfl (.tmp 96) (.tmp 98) rfl rfl wb.heap.size gn cn (m + 1) (fun _ => (n : Int)) vn rfl (R9.out.alloc _) w9.heap.size (n : Int) (.slice aw (phiN n) kw) rfl rfl (heap_alloc_new w9 _) (by omega) ?_; intro gA kA wA rowA grA orA ltA
                               have frA := Frame.ofGrown grA
                               have CA := Lib.hid (((C9.out.sub (bs' := [gn]) (by simp)).alloc (.cells #[.int .i64 (n : Int), .slice aw (phiN n) kw] 28)).grown frA (by omega) orA)
                               have IA := Lib.hid (((I9.out.sub (bs' := [gn]) (by simp)).alloc (.cells #[.int .i64 (n : Int), .slice aw (phiN n) kw] 28)).grown frA (by omega) orA)
                               have NA := Lib.hid ((((N9.out.sub (bs' := [gn]) (by simp)).push S9.out HA.out).alloc (.cells #[.int .i64 (n : Int), .slice aw (phiN n) kw] 28)).grown frA orA)
                               have TA := Lib.hid ((T9.out.tailB.alloc (.cells #[.int .i64 (n : Int), .slice aw (phiN n) kw] 28)).write frA (by omega) (by intro b hb; simp only [List.mem_cons, List.not_mem_nil, or_false] at hb; rcases hb with rfl <;> dsimp only <;> omega) (by intro s hs'; simp only [List.mem_cons, List.not_mem_nil, or_false] at hs'; rcases hs' with rfl <;> dsimp only <;> omega))
                               have RA := Lib.hid rowA
                               simp only [World.size_alloc] at orA
                               clear rowA grA frA C9 I9 N9 R9 T9 S9 v0 v1))
                          go_roundw
                          case rel =>
                            exact ⟨m + 1 + 1, gA, kA, fun j => if j < m + 1 then vn j else .slice aw (phiN n) kw, by omega, rfl, by go_num, RA.out.congr (fun j hj => by
                                by_cases e : j < m + 1
                                · rw [if_pos e]; dsimp only; rw [if_pos e]
                                · rw [if_neg e]; dsimp only; rw [if_neg e]), NA.out, (fun j hj hj2 => by
                                by_cases e : j < m + 1
                                · exact NK.out j e hj2
                                · obtain rfl : j = m + 1 := by omega
                                  exact HNX.out), CA.out, IA.out, TA.out⟩
                          case measure => simp [intOf] <;> omega
                        · have HN := Lib.hid (HBAD.out _ hlk1 (fun h => hS (by unfold nxt; rw [if_pos hlk1]; exact h.2)))
                          refine (l01Fits_no (n : Int) _ S8.out hS).mono ?_
                          clear hS
                          rintro e w9 ⟨rfl, b9⟩
                          have BB := (T8.out.keep b9).1
                          clear C8 I8 N8 R8 T8 S8 b9 y2 y3 yz
                          go_wp2_with fail
                          go_ret2
                          have hR := HRQ.out
                          have hT := HTQ.out
                          subst hR
                          subst hT
                          exact ⟨.inr ⟨HN.out, rfl⟩, BB⟩
                  · have hk4 : ¬ ((m : Int) + 1 < (c : Int) + 1) := by omega
                    have hk5 : ¬ ((m : Int) < (c : Int)) := by omega
                    have hwn : nxt n (plZ n R c) (im n L f i) (c + 1) (m + 1) = plZ n R c m := by
                      unfold nxt bef
                      rw [if_neg hlk1, if_neg (Nat.succ_ne_zero _), Nat.add_sub_cancel]
                    have C5 := Lib.hid (C4.out.alloc (.cells #[.int .i64 (n : Int), .slice a8 (phiN n) k8] 28))
                    have I5 := Lib.hid (I4.out.alloc (.cells #[.int .i64 (n : Int), .slice a8 (phiN n) k8] 28))
                    have N5 := Lib.hid (N4.out.alloc (.cells #[.int .i64 (n : Int), .slice a8 (phiN n) k8] 28))
                    have R5 := Lib.hid (R4.out.alloc (.cells #[.int .i64 (n : Int), .slice a8 (phiN n) k8] 28))
                    have T5 := Lib.hid (T4.out.boxNew (.int .i64 (n : Int)) (.slice a8 (phiN n) k8) 28)
                    have S5 := Lib.hid (show Sl false (w4.alloc (.cells #[.int .i64 (n : Int), .slice a8 (phiN n) k8] 28)) l8 h8 (.slice a8 (phiN n) k8) (phiN n) (nxt n (plZ n R c) (im n L f i) (c + 1) (m + 1)) from by rw [hwn]; exact S8.out.alloc _)
                    have HW := Lib.hid (show Within (nxt n (plZ n R c) (im n L f i) (c + 1) (m + 1)) (phiN n) 1000000000 from by rw [hwn]; exact HPZ.out m (by omega))
                    have HA := Lib.hid (show ∀ b ∈ [gn], b < l8 ∨ h8 ≤ b from by intro b hb; exact hd8 b (by simp only [List.mem_cons, List.not_mem_nil, or_false] at hb ⊢; right; exact hb))
                    clear hwn C4 I4 N4 R4 T4
                    go_wp2_with fail
                    refine (l01Fits_yes (n : Int) _ S5.out HW.out).mono ?_
                    rintro e w9 ⟨rfl, b9⟩
                    have hz9 := b9.size
                    simp only [World.size_alloc] at hz9
                    have C9 := Lib.hid (C5.out.keep b9 (Nat.le_refl _))
                    have I9 := Lib.hid (I5.out.keep b9 (Nat.le_refl _))
                    have N9 := Lib.hid (N5.out.keep b9 (Nat.le_refl _))
                    have R9 := Lib.hid (R5.out.keep b9 (Nat.le_refl _))
                    have T9 := Lib.hid (T5.out.keep b9)
                    have S9 := Lib.hid (S5.out.keep b9 S5.out.size)
                    clear C5 I5 N5 R5 T5 S5 b9
                    have HBX := (T9.out.box 0 (w4.heap.size, [.int .i64 (n : Int), .slice a8 (phiN n) k8]) rfl).cell2
                    have v0 := HBX.1
                    have v1 := HBX.2
                    dsimp only at v0 v1
                    clear HBX
                    have hgn9 := (R9.out.lt).2
                    go_wp2_with (first
                      | (at_builtin; refine wpList_pushC rfl (.tmp 96) (.tmp 98) rfl rfl wb.heap.size gn cn (m + 1) (fun _ => (n : Int)) vn rfl (R9.out.alloc _) w9.heap.size (n : Int) (.slice a8 (phiN n) k8) rfl rfl (heap_alloc_new w9 _) (by omega) ?_; intro gA kA wA rowA grA orA ltA
                         have frA := Frame.ofGrown grA
                         have CA := Lib.hid (((C9.out.sub (bs' := [gn]) (by simp)).alloc (.cells #[.int .i64 (n : Int), .slice a8 (phiN n) k8] 28)).grown frA (by omega) orA)
                         have IA := Lib.hid (((I9.out.sub (bs' := [gn]) (by simp)).alloc (.cells #[.int .i64 (n : Int), .slice a8 (phiN n) k8] 28)).grown frA (by omega) orA)
                         have NA := Lib.hid ((((N9.out.sub (bs' := [gn]) (by simp)).push S9.out HA.out).alloc (.cells #[.int .i64 (n : Int), .slice a8 (phiN n) k8] 28)).grown frA orA)
                         have TA := Lib.hid ((T9.out.tailB.alloc (.cells #[.int .i64 (n : Int), .slice a8 (phiN n) k8] 28)).write frA (by omega) (by intro b hb; simp only [List.mem_cons, List.not_mem_nil, or_false] at hb; rcases hb with rfl <;> dsimp only <;> omega) (by intro s hs'; simp only [List.mem_cons, List.not_mem_nil, or_false] at hs'; rcases hs' with rfl <;> dsimp only <;> omega))
                         have RA := Lib.hid rowA
                         simp only [World.size_alloc] at orA
                         clear rowA grA frA C9 I9 N9 R9 T9 S9 v0 v1))
                    go_roundw
                    case rel =>
                      exact ⟨m + 1 + 1, gA, kA, fun j => if j < m + 1 then vn j else .slice a8 (phiN n) k8, by omega, rfl, by go_num, RA.out.congr (fun j hj => by
                          by_cases e : j < m + 1
                          · rw [if_pos e]; dsimp only; rw [if_pos e]
                          · rw [if_neg e]; dsimp only; rw [if_neg e]), NA.out, (fun j hj hj2 => NK.out j (by omega) hj2), CA.out, IA.out, TA.out⟩
                    case measure => simp [intOf] <;> omega
              · obtain rfl : k = c + 2 := by omega
                go_wp2_with fail
                go_roundw
                case rel =>
                  have hR := HRQ.out
                  subst hR
                  refine ⟨i + 1, c + 1, gn, cn, vn, by omega, by rw [HCN.out, ← HC.out], by go_num, rfl, ?_, plOk_succ HOK.out (by rw [HRI.out]; exact fun j hj => NK.out j (by omega) hj), CI.out.less, HT.out⟩
                  show CL _ _ _ _ _ _ _ (nxt n (plZ n _ c) (_ : Nat → Int) (c + 1)) []
                  rw [HRI.out]
                  exact CL.ofRow (bs := []) RW.out (NX.sub NW.out (fun b hb => absurd hb List.not_mem_nil))
                case measure => simp [intOf] <;> omega
    · obtain rfl : i = phiN n := by omega
      obtain ⟨wb, hwb⟩ : ∃ x : World, x = wr := ⟨_, rfl⟩
      subst hwb
      have HPW := Lib.hid (plZ_within HOK.out)
      have hgw := C.out.1
      have hzb := HT.out.1.size
      have R0 := Lib.hid (Row.made wb wb.heap.size (fun k => plZ n (rtI n L f D) c k 0) (Nat.le_refl _))
      have C0 := Lib.hid ((C.out.more (b := wb.heap.size) (Nat.le_refl _)).alloc (.cells #[] 2))
      have B0 := Lib.hid (HT.out.1.alloc hzb (.cells #[] 2))
      clear C CI HT
      go_wp2_with fail
      go_loopw [17, 18] (fun s17 s18 wx => ∃ (k gn cn : Nat), k ≤ c + 1 ∧ s17 = .slice (some ⟨gn, 0, none⟩) k cn ∧ s18 = .int .i64 (k : Int) ∧ Row wx wb.heap.size gn cn k (fun k => plZ n (rtI n L f D) c k 0) ∧ CL wx g' (c + 1) (c + 1) n (phiN n) vl (plZ n (rtI n L f D) c) [gn] ∧ Below w.heap.size w wx) (fun _ s18 _ => c + 1 - (intOf s18).toNat)
      case atStart => exact ⟨0, _, _, Nat.zero_le _, rfl, rfl, R0.out, C0.out, B0.out⟩
      case round =>
        clear R0 C0 B0
        obtain ⟨k, gn, cn, hk, rfl, rfl, hr, hcl, hB⟩ := hrel
        have R := Lib.hid hr; clear hr
        have C := Lib.hid hcl; clear hcl
        have BB := Lib.hid hB; clear hB
        obtain ⟨hl, hl'⟩ := R.out.lt
        have hbs := BB.out.size
        by_cases hlk : k < c + 1
        · have hk2 : (k : Int) < (c : Int) + 1 := by omega
          have hpi : (0 : Int) < (phiN n : Int) := by omega
          have hpn : 0 < phiN n := by omega
          have d0 := C.out.c0 hlk
          have d1 := C.out.c1 hlk
          obtain ⟨l8, h8, hd8, q8⟩ := C.out.2.2.2 k hlk
          have hpb := HPW.out k hlk 0 hp0
          obtain ⟨g8, o8, c8, hv8, hl8, hg8, _, _, hc8, _⟩ := q8.at (by omega)
          rw [hv8] at d1
          have f0 := hc8 0 (by omega)
          rw [Nat.add_zero] at f0
          clear hv8 hc8 q8
          go_wp2_with (first
            | (at_builtin; refine wpList_push rfl (.tmp 108) (.tmp 116) rfl rfl wb.heap.size gn cn k (fun k => plZ n (rtI n L f D) c k 0) rfl (R.out.alloc _) wr.heap.size (plZ n (rtI n L f D) c k 0) rfl (heap_alloc_new wr _) (by omega) ?_; intro gB kB wB rowB grB orB ltB
               have C2 := Lib.hid ((C.out.alloc (.cells #[.int .i64 (plZ n (rtI n L f D) c k 0)] 2)).grown (Frame.ofGrown grB) (by omega) orB)
               have B2 := Lib.hid ((BB.out.alloc hbs (.cells #[.int .i64 (plZ n (rtI n L f D) c k 0)] 2)).trans ((Frame.ofGrown grB).below (by omega) (by simp only [World.size_alloc]; omega)))
               have R2 := Lib.hid rowB
               clear rowB grB C R BB d0 d1 f0))
          go_roundw
          case rel => exact ⟨k + 1, gB, kB, by omega, rfl, by go_num, R2.out.congr (fun j hj => by
            by_cases e : j < k
            · rw [if_pos e]
            · rw [if_neg e, show j = k by omega]), C2.out, B2.out⟩
          case measure => simp [intOf] <;> omega
        · obtain rfl : k = c + 1 := by omega
          go_wp2_with fail
          go_ret2
          have hc := HC.out
          subst hc
          exact ⟨.inl ⟨HOK.out, _, _, rfl, (Sl.ofRowF R.out (fun j hj => by have := HPW.out j hj 0 hp0; unfold inR; omega) (by unfold maxLen; omega)).wide (by omega) (Nat.le_refl _) (Nat.le_refl _)⟩, BB.out⟩
end
end Go.Proofs.Ytdalahgfpbdilaa
