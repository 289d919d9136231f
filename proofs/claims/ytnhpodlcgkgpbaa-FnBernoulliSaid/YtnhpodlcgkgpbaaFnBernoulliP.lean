/- FnBernoulli holds for every code. No condition. -/
import Derived.Test.YtnhpodlcgkgpbaaPkB
import Derived.Test.YtnhpodlcgkgpbaaInit
import Derived.Test.YtnhpodlcgkgpbaaCopy
import Derived.Deep.RegionHeld3
import Derived.Deep.DeepCutAuto
import Derived.Deep.CutRange
import Derived.ShutString
import Derived.ChangeOld
import Derived.Lib.SmallJoins
namespace Go.Proofs.Ytnhpodlcgkgpbaa
open Go.RowKit Go.ChangeShapes Go.Sort Go.WideShapes Go.ChangeAt
set_option linter.unusedVariables false
set_option linter.unusedSimpArgs false
namespace fnBernoulli
theorem tmod_low (a b : Int) (h : 0 < b) : -b < a.tmod b := by
  by_cases h0 : 0 ≤ a
  · have := Int.tmod_nonneg b h0; omega
  · have e : a.tmod b = -((-a).tmod b) := by rw [Int.neg_tmod, Int.neg_neg]
    have := Int.tmod_lt_of_pos (-a) h
    omega
set_option maxRecDepth 100000 in
set_option maxHeartbeats 8000000 in
theorem walk (w : World) (p : Option Addr) (n q : Nat) (hb : n ≤ 4096 → Bytes w w.heap.size p n) :
    Calls Try.prog 7 #[.slice p n q] w fun e w' => e = .returned (.bool true) ∧ Below w.heap.size w w' := by
  by_cases hn : n ≤ 4096
  case neg =>
    go_enter Try.func7, Try.ntmps7
    go_wp2_with fail
    refine (big_yes _ _ _ _ (by omega)).mono ?_
    rintro e w1 ⟨rfl, b1⟩
    go_wp2
    go_ret
    exact ⟨rfl, b1⟩
  case pos =>
    have st := St.start w
    have HB := Lib.hid (hb hn); clear hb
    go_enter Try.func7, Try.ntmps7
    go_wp2_with fail
    refine (big_no p n q _ (by omega)).mono ?_
    rintro en w1 ⟨rfl, b1⟩
    have hz1 := b1.size
    try simp only [World.size_alloc] at hz1
    replace st := st.keep b1
    clear b1 
    go_wp2_with fail
    refine (DrawBernoulliOf_any w.heap.size p n q _ (HB.out.below st.1) st.1.size).mono ?_
    rintro en w2 ⟨K, rfl, hK1, hK2, b2⟩
    have hz2 := b2.size
    try simp only [World.size_alloc] at hz2
    replace st := st.keep b2
    clear b2 
    obtain ⟨a1, d1, c1, hI1, hS1, hF1⟩ := bo_two K hK1 hK2
    have HF1 := Lib.hid hF1; have HI1 := Lib.hid hI1; have HS1 := Lib.hid hS1; clear hF1 hI1 hS1
    go_wp2_with fail
    refine (HI1.out _).mono ?_
    rintro en w3 ⟨rfl, b3⟩
    have hz3 := b3.size
    try simp only [World.size_alloc] at hz3
    replace st := st.keep b3
    clear b3 
    go_wp2_with fail
    refine (HS1.out _).mono ?_
    rintro en w4 ⟨rfl, b4⟩
    have hz4 := b4.size
    try simp only [World.size_alloc] at hz4
    replace st := st.keep b4
    clear b4 
    go_wp2_with fail
    refine (DrawBernoulliModulo_any w.heap.size p n q _ (HB.out.below st.1) st.1.size).mono ?_
    rintro en w5 ⟨P, M, rfl, hP1, hP2, hM1, hM2, b5⟩
    have hz5 := b5.size
    try simp only [World.size_alloc] at hz5
    replace st := st.keep b5
    clear b5 
    obtain ⟨r2, c2, hI2, hS2, hF2⟩ := bm_two P M hP2 hM1 hM2
    have HF2 := Lib.hid hF2; have HI2 := Lib.hid hI2; have HS2 := Lib.hid hS2; clear hF2 hI2 hS2
    go_wp2_with fail
    refine (HI2.out _).mono ?_
    rintro en w6 ⟨rfl, b6⟩
    have hz6 := b6.size
    try simp only [World.size_alloc] at hz6
    replace st := st.keep b6
    clear b6 
    go_wp2_with fail
    refine (HS2.out _).mono ?_
    rintro en w7 ⟨rfl, b7⟩
    have hz7 := b7.size
    try simp only [World.size_alloc] at hz7
    replace st := st.keep b7
    clear b7 
    go_wp2_with fail
    refine (DrawIrregularOf_any w.heap.size p n q _ (HB.out.below st.1) st.1.size).mono ?_
    rintro en w8 ⟨Q, rfl, hQ1, hQ2, b8⟩
    have hz8 := b8.size
    try simp only [World.size_alloc] at hz8
    replace st := st.keep b8
    clear b8 
    obtain ⟨m3, G3, c3, hI3, hS3, hm3, hF3⟩ := ir_two Q
    have HF3 := Lib.hid hF3; have HI3 := Lib.hid hI3; have HS3 := Lib.hid hS3; clear hF3 hI3 hS3
    go_wp2_with fail
    refine (HI3.out _).mono ?_
    rintro en w9 ⟨a9, k9, rfl, s9, b9⟩
    have hz9 := b9.size
    try simp only [World.size_alloc] at hz9
    replace st := st.keep b9
    try simp only [World.size_alloc] at s9
    replace st := st.addSl ⟨true, w8.heap.size, w9.heap.size, .slice a9 m3 k9, m3, G3⟩ s9
    clear b9 s9
    go_wp2_with fail
    refine (HS3.out _).mono ?_
    rintro en w10 ⟨a10, k10, rfl, s10, b10⟩
    have hz10 := b10.size
    try simp only [World.size_alloc] at hz10
    replace st := st.keep b10
    try simp only [World.size_alloc] at s10
    replace st := st.addSl ⟨true, w9.heap.size, w10.heap.size, .slice a10 m3 k10, m3, G3⟩ s10
    clear b10 s10
    have q1 := st.sl 1 ⟨true, w8.heap.size, w9.heap.size, .slice a9 m3 k9, m3, G3⟩ rfl
    have q2 := st.sl 0 ⟨true, w9.heap.size, w10.heap.size, .slice a10 m3 k10, m3, G3⟩ rfl
    dsimp only at q1 q2
    go_wp2_with fail
    refine (likeInts_yes _ q1 q2 (fun _ _ => rfl)).mono ?_
    rintro en w11 ⟨rfl, b11⟩
    have hz11 := b11.size
    try simp only [World.size_alloc] at hz11
    replace st := st.keep b11
    clear b11 
    clear q1 q2
    replace st := st.subR (bs' := []) (ss' := [⟨true, w8.heap.size, w9.heap.size, .slice a9 m3 k9, m3, G3⟩]) (fun _ h => h) (by intro x hx; simp only [List.mem_cons, List.not_mem_nil, or_false] at hx ⊢; rcases hx with rfl; simp)
    go_wp2_with fail
    refine (DrawCyclotomicUnit_any w.heap.size p n q _ (HB.out.below st.1) st.1.size).mono ?_
    rintro en w12 ⟨N, A, rfl, hN1, hN2, hA1, hA2, b12⟩
    have hz12 := b12.size
    try simp only [World.size_alloc] at hz12
    replace st := st.keep b12
    clear b12 
    obtain ⟨x4, m4, G4, c4, hI4, hS4, hm4, hF4⟩ := cu_two N A
    have HF4 := Lib.hid hF4; have HI4 := Lib.hid hI4; have HS4 := Lib.hid hS4; clear hF4 hI4 hS4 HB
    go_wp2_with fail
    refine (HI4.out _).mono ?_
    rintro en w13 ⟨a13, k13, rfl, s13, b13⟩
    have hz13 := b13.size
    try simp only [World.size_alloc] at hz13
    replace st := st.keep b13
    try simp only [World.size_alloc] at s13
    replace st := st.addSl ⟨true, w12.heap.size, w13.heap.size, .slice a13 m4 k13, m4, G4⟩ s13
    clear b13 s13
    replace st := (st.alloc (.cells #[.int .i64 x4, .slice a13 m4 k13] 24)).addBox _ [.int .i64 x4, .slice a13 m4 k13] (Box.made _ _ _ _ (fun j v h => by simpa using h))
    go_wp2_with fail
    refine (HS4.out _).mono ?_
    rintro en w14 ⟨a14, k14, rfl, s14, b14⟩
    have hz14 := b14.size
    try simp only [World.size_alloc] at hz14
    replace st := st.keep b14
    try simp only [World.size_alloc] at s14
    replace st := st.addSl ⟨true, w13.heap.size + 1, w14.heap.size, .slice a14 m4 k14, m4, G4⟩ s14
    clear b14 s14
    replace st := (st.alloc (.cells #[.int .i64 x4, .slice a14 m4 k14] 24)).addBox _ [.int .i64 x4, .slice a14 m4 k14] (Box.made _ _ _ _ (fun j v h => by simpa using h))
    obtain ⟨u0, u1⟩ := (st.box 1 (w13.heap.size, [.int .i64 x4, .slice a13 m4 k13]) rfl).cell2
    dsimp only at u0 u1
    obtain ⟨v0, v1⟩ := (st.box 0 (w14.heap.size, [.int .i64 x4, .slice a14 m4 k14]) rfl).cell2
    dsimp only at v0 v1
    have q1 := st.sl 1 ⟨true, w12.heap.size, w13.heap.size, .slice a13 m4 k13, m4, G4⟩ rfl
    have q2 := st.sl 0 ⟨true, w13.heap.size + 1, w14.heap.size, .slice a14 m4 k14, m4, G4⟩ rfl
    dsimp only at q1 q2
    go_wp2_with fail
    refine (cyclo9_yes x4 _ q1 q2 (fun _ _ => rfl)).mono ?_
    rintro en w15 ⟨rfl, b15⟩
    have hz15 := b15.size
    try simp only [World.size_alloc] at hz15
    replace st := st.keep b15
    clear b15 
    clear q1 q2 u0 u1 v0 v1
    replace st := st.subR (bs' := [(w13.heap.size, [.int .i64 x4, .slice a13 m4 k13])]) (ss' := [⟨true, w12.heap.size, w13.heap.size, .slice a13 m4 k13, m4, G4⟩, ⟨true, w8.heap.size, w9.heap.size, .slice a9 m3 k9, m3, G3⟩]) (by intro x hx; simp only [List.mem_cons, List.not_mem_nil, or_false] at hx ⊢; rcases hx with rfl; simp) (by intro x hx; simp only [List.mem_cons, List.not_mem_nil, or_false] at hx ⊢; rcases hx with rfl | rfl <;> simp)
    clear HI1 HS1 HI2 HS2 HI3 HS3 HI4 HS4
    go_upto_if 137 with fail
    go_cut [] (fun wx => St w wx [] [⟨true, w8.heap.size, w9.heap.size, .slice a9 m3 k9, m3, G3⟩])
    case first =>
      rcases HF4.out with ⟨n4, a4, e1, e2, e3, e4, rfl, rfl, rfl, rfl⟩ | rfl
      · obtain ⟨y5, c5, hyc, hU⟩ := cu_isunit n4 a4 e1 e2 e3 e4
        have HU := Lib.hid hU; clear hU HF4
        obtain ⟨u0, u1⟩ := (st.box 0 (w13.heap.size, [.int .i64 (n4 : Int), .slice a13 (phiN n4) k13]) rfl).cell2
        dsimp only at u0 u1
        have q1 := st.sl 0 ⟨true, w12.heap.size, w13.heap.size, .slice a13 (phiN n4) k13, (phiN n4), cuF n4 a4⟩ rfl
        dsimp only at q1
        go_wp2_with fail
        refine (HU.out _ _ _ _ q1).mono ?_
        rintro en w16 ⟨rfl, b16⟩
        have hz16 := b16.size
        try simp only [World.size_alloc] at hz16
        replace st := st.keep b16
        clear b16 
        clear u0 u1 q1
        replace st := st.subR (bs' := []) (ss' := [⟨true, w8.heap.size, w9.heap.size, .slice a9 m3 k9, m3, G3⟩]) (by intro x hx; cases hx) (by intro x hx; simp only [List.mem_cons, List.not_mem_nil, or_false] at hx ⊢; rcases hx with rfl; simp)
        rcases hyc with ⟨rfl, rfl⟩ | ⟨rfl, rfl⟩
        · go_wp2_with fail; go_meet; exact st
        · go_wp2_with fail; go_meet; exact st
      · replace st := st.subR (bs' := []) (ss' := [⟨true, w8.heap.size, w9.heap.size, .slice a9 m3 k9, m3, G3⟩]) (by intro x hx; cases hx) (by intro x hx; simp only [List.mem_cons, List.not_mem_nil, or_false] at hx ⊢; rcases hx with rfl; simp)
        go_wp2_with fail; go_meet; exact st
    case rest =>
      clear st HF4
      have st := hcut
      clear hcut
      obtain ⟨wA, hwA⟩ : ∃ z : World, z = wc := ⟨_, rfl⟩
      subst hwA
      go_upto_if 150 with fail
      go_cut [] (fun wx => Below w.heap.size w wx)
      case first =>
        rcases HF3.out with ⟨p0, K0, rfl, hp0, hK0, em3, eG3, rfl⟩ | ⟨rfl, rfl⟩
        · clear HF3
          have hb0 := primeN_bd hp0
          have HGI := Lib.hid (show ∀ i, i < m3 → ∃ z : Nat, G3 i = (z : Int) ∧ 2 ≤ z ∧ z % 2 = 0 ∧ beR p0 z = 0 ∧ z < K0 + 1 from fun i hi => by rw [em3] at hi; exact ⟨_, by rw [eG3], (ir_get hi).1, (ir_get hi).2.1, (ir_get hi).2.2, irN_lt hi⟩)
          have HP0 := Lib.hid hp0
          clear em3 eG3 hp0
          by_cases hz0 : m3 = 0
          · subst hz0
            clear HGI
            replace st := st.subR (bs' := []) (ss' := []) (fun _ h => h) (by intro x hx; cases hx)
            go_wp2_with fail
            go_loopw [29] (fun s29 wr => s29 = .int .i64 0 ∧ St w wr [] []) (fun _ _ => 0)
            case atStart => exact ⟨rfl, st⟩
            case round =>
              clear st
              obtain ⟨rfl, st⟩ := hrel
              have BB := st.1
              go_wp2_with fail; go_meet; exact BB
          · have hsl := st.sl 0 ⟨true, w8.heap.size, w9.heap.size, .slice a9 m3 k9, m3, G3⟩ rfl
            dsimp only at hsl
            obtain ⟨gx, ox, cx, hvx, _⟩ := hsl.at (by omega)
            obtain ⟨rfl, rfl⟩ : a9 = some ⟨gx, ox, none⟩ ∧ k9 = cx := by cases hvx; exact ⟨rfl, rfl⟩
            clear hvx hsl
            go_wp2_with fail
            go_loopw [29] (fun s29 wr => ∃ i : Nat, i ≤ m3 ∧ s29 = .int .i64 (i : Int) ∧ St w wr [] [⟨true, w8.heap.size, w9.heap.size, .slice (some ⟨gx, ox, none⟩) m3 k9, m3, G3⟩]) (fun s29 _ => m3 - (intOf s29).toNat)
            case atStart => exact ⟨0, Nat.zero_le _, rfl, st⟩
            case round =>
              clear st
              obtain ⟨i, hi, rfl, st⟩ := hrel
              by_cases hlt : i < m3
              · have hil : (i : Int) < (m3 : Int) := by omega
                obtain ⟨z, hz, g1, g2, g3, g4⟩ := HGI.out i hlt
                have HBM := Lib.hid (show ∀ w' : World, Calls Try.prog 60 #[.int .i64 (p0 : Int), .int .i64 (z : Int)] w' fun e w'' => e = .returned (.tuple #[.int .i64 0, .int .i64 0]) ∧ Below w'.heap.size w' w'' from fun w' => by
                  have h := BernoulliModulo_impl_ok p0 (z : Int) HP0.out (by omega) (by omega) (by omega) w'
                  rw [Int.toNat_natCast, g3] at h
                  exact h)
                have hsl := st.sl 0 ⟨true, w8.heap.size, w9.heap.size, .slice (some ⟨gx, ox, none⟩) m3 k9, m3, G3⟩ rfl
                dsimp only at hsl
                obtain ⟨gy, oy, cy, hvy, _, _, _, _, hcx, _⟩ := hsl.at (by omega)
                obtain ⟨rfl, rfl, rfl⟩ : gx = gy ∧ ox = oy ∧ k9 = cy := by cases hvy; exact ⟨rfl, rfl, rfl⟩
                have hci := hcx i hlt
                rw [hz] at hci
                clear hvy hcx hz hsl
                go_wp2_with fail
                refine (HBM.out _).mono ?_
                rintro en wq ⟨rfl, bq⟩
                replace st := st.keep bq
                clear bq
                go_wp2
                go_roundw
                case rel => exact ⟨i + 1, by omega, by go_num, st⟩
                case measure => simp [intOf] <;> omega
              · obtain rfl : i = m3 := by omega
                have BB := st.1
                go_wp2_with fail; go_meet; exact BB
        · have BB := st.1
          go_wp2_with fail; go_meet; exact BB
      case rest =>
        clear st HF3
        have BB := Lib.hid hcut
        clear hcut
        obtain ⟨wB, hwB⟩ : ∃ z : World, z = wc := ⟨_, rfl⟩
        subst hwB
        rcases HF2.out with ⟨p2, k2, rfl, rfl, g1, g2, g3, g4, rfl, rfl⟩ | ⟨rfl, rfl⟩
        · clear HF2
          by_cases h20 : k2 ≤ 20
          · have h20i : (k2 : Int) ≤ 20 := by omega
            have hpb := primeN_bd g1
            have hmod := be_mod (p := p2) (k := k2) g1 (by omega) g3 h20 g4
            have hsm := beQ_small (k := k2) (by omega)
            have hrl := be_lt (p := p2) (by omega) k2
            have HBO := Lib.hid (fun w' => BernoulliOf_impl_ok k2 h20 w')
            obtain ⟨R, hR⟩ : ∃ R, beR p2 k2 = R := ⟨_, rfl⟩
            obtain ⟨A2, hA2⟩ : ∃ A2, (beQ k2).1 = A2 := ⟨_, rfl⟩
            obtain ⟨D2, hD2⟩ : ∃ D2, (beQ k2).2 = D2 := ⟨_, rfl⟩
            rw [hR] at hmod hrl
            rw [hA2] at hmod hsm HBO
            rw [hD2] at hmod hsm HBO
            rw [hR]
            clear hR hA2 hD2
            obtain ⟨hm1, hm2⟩ := hmod
            have hrd := Int.mul_le_mul (a := (R : Int)) (b := D2) (c := 61) (d := 2730) (by omega) (by omega) (by omega) (by omega)
            have hrd0 : 0 ≤ (R : Int) * D2 := Int.mul_nonneg (by omega) (by omega)
            obtain ⟨Z, hZ⟩ : ∃ Z, (R : Int) * D2 = Z := ⟨_, rfl⟩
            rw [hZ] at hm2 hrd hrd0
            have hwZ : IntKind.i64.wrap ((R : Int) * D2) = Z := by rw [hZ]; exact IntWalk.i64_in _ (by omega)
            obtain ⟨e1, he1⟩ : ∃ e1, D2.tmod (p2 : Int) = e1 := ⟨_, rfl⟩
            have he1m : D2 % (p2 : Int) = e1 := by rw [← Int.tmod_eq_emod_of_nonneg (by omega)]; exact he1
            rw [he1] at hm1
            have he1b : (e1 == 0) = false := beq_eq_false_iff_ne.2 hm1
            obtain ⟨e2, he2⟩ : ∃ e2, (Z - A2).tmod (p2 : Int) = e2 := ⟨_, rfl⟩
            have hle2 := tmod_low (Z - A2) (p2 : Int) (by omega)
            have hlt2 := Int.tmod_lt_of_pos (Z - A2) (b := (p2 : Int)) (by omega)
            rw [he2] at hm2 hle2 hlt2
            have hm2m : (e2 + (p2 : Int)) % (p2 : Int) = 0 := by rw [← Int.tmod_eq_emod_of_nonneg (by omega)]; exact hm2
            have hpn : ¬ (p2 : Int) = 0 := by omega
            have hpm : ¬ p2 = 0 := by omega
            clear hZ
            go_wp2_with fail
            refine (HBO.out _).mono ?_
            rintro en wq ⟨rfl, bq⟩
            replace BB := Lib.hid (BB.out.trans (bq.mono BB.out.size))
            clear bq HBO
            rcases HF1.out with ⟨k1, rfl, hk1, rfl, rfl, rfl⟩ | ⟨rfl, rfl, rfl⟩
            · have hs1 := beQ_small (k := k1) (by omega)
              have hz1 := fun h1 h2 => be_zero (k := k1) (by omega) h1 h2
              obtain ⟨A1, hA1⟩ : ∃ A1, (beQ k1).1 = A1 := ⟨_, rfl⟩
              obtain ⟨D1, hD1⟩ : ∃ D1, (beQ k1).2 = D1 := ⟨_, rfl⟩
              rw [hA1] at hz1 hs1
              rw [hD1] at hs1
              rw [hA1, hD1]
              clear HF1 hA1 hD1
              have HBB := BB.out
              by_cases ho : k1 % 2 = 0
              · have hom : (k1 : Int) % 2 = 0 := by omega
                have hod : (1 : Int) ≤ D1 := hs1.1
                go_wp2
                go_ret
                exact ⟨rfl, HBB⟩
              · by_cases hk : k1 = 1
                · subst hk
                  have hod : (1 : Int) ≤ D1 := hs1.1
                  go_wp2
                  go_ret
                  exact ⟨rfl, HBB⟩
                · have h0 := hz1 (by omega) hk
                  subst h0
                  have hod : (1 : Int) ≤ D1 := hs1.1
                  have hom : (k1 : Int) % 2 = 1 := by omega
                  have hk1b : ((k1 : Int) == 1) = false := beq_eq_false_iff_ne.2 (by omega)
                  go_wp2
                  go_ret
                  exact ⟨rfl, HBB⟩
            · have HBB := BB.out
              go_wp2
              go_ret
              exact ⟨rfl, HBB⟩
          · have h20i : ¬ (k2 : Int) ≤ 20 := by omega
            rcases HF1.out with ⟨k1, rfl, hk1, rfl, rfl, rfl⟩ | ⟨rfl, rfl, rfl⟩
            · have hs1 := beQ_small (k := k1) (by omega)
              have hz1 := fun h1 h2 => be_zero (k := k1) (by omega) h1 h2
              obtain ⟨A1, hA1⟩ : ∃ A1, (beQ k1).1 = A1 := ⟨_, rfl⟩
              obtain ⟨D1, hD1⟩ : ∃ D1, (beQ k1).2 = D1 := ⟨_, rfl⟩
              rw [hA1] at hz1 hs1
              rw [hD1] at hs1
              rw [hA1, hD1]
              clear HF1 hA1 hD1
              have HBB := BB.out
              by_cases ho : k1 % 2 = 0
              · have hom : (k1 : Int) % 2 = 0 := by omega
                have hod : (1 : Int) ≤ D1 := hs1.1
                go_wp2
                go_ret
                exact ⟨rfl, HBB⟩
              · by_cases hk : k1 = 1
                · subst hk
                  have hod : (1 : Int) ≤ D1 := hs1.1
                  go_wp2
                  go_ret
                  exact ⟨rfl, HBB⟩
                · have h0 := hz1 (by omega) hk
                  subst h0
                  have hod : (1 : Int) ≤ D1 := hs1.1
                  have hom : (k1 : Int) % 2 = 1 := by omega
                  have hk1b : ((k1 : Int) == 1) = false := beq_eq_false_iff_ne.2 (by omega)
                  go_wp2
                  go_ret
                  exact ⟨rfl, HBB⟩
            · have HBB := BB.out
              go_wp2
              go_ret
              exact ⟨rfl, HBB⟩
        · clear HF2
          rcases HF1.out with ⟨k1, rfl, hk1, rfl, rfl, rfl⟩ | ⟨rfl, rfl, rfl⟩
          · have hs1 := beQ_small (k := k1) (by omega)
            have hz1 := fun h1 h2 => be_zero (k := k1) (by omega) h1 h2
            obtain ⟨A1, hA1⟩ : ∃ A1, (beQ k1).1 = A1 := ⟨_, rfl⟩
            obtain ⟨D1, hD1⟩ : ∃ D1, (beQ k1).2 = D1 := ⟨_, rfl⟩
            rw [hA1] at hz1 hs1
            rw [hD1] at hs1
            rw [hA1, hD1]
            clear HF1 hA1 hD1
            have HBB := BB.out
            by_cases ho : k1 % 2 = 0
            · have hom : (k1 : Int) % 2 = 0 := by omega
              have hod : (1 : Int) ≤ D1 := hs1.1
              go_wp2
              go_ret
              exact ⟨rfl, HBB⟩
            · by_cases hk : k1 = 1
              · subst hk
                have hod : (1 : Int) ≤ D1 := hs1.1
                go_wp2
                go_ret
                exact ⟨rfl, HBB⟩
              · have h0 := hz1 (by omega) hk
                subst h0
                have hod : (1 : Int) ≤ D1 := hs1.1
                have hom : (k1 : Int) % 2 = 1 := by omega
                have hk1b : ((k1 : Int) == 1) = false := beq_eq_false_iff_ne.2 (by omega)
                go_wp2
                go_ret
                exact ⟨rfl, HBB⟩
          · have HBB := BB.out
            go_wp2
            go_ret
            exact ⟨rfl, HBB⟩

theorem own : ownKnob Try.prog.godebug = none := by kernel_rfl
theorem laidOut : laidOutB Try.prog = true := by kernel_rfl
set_option maxRecDepth 100000 in
theorem lifted (os : Os) (started : os.Started) (H : Type) (enc : TypeId × Value → H) :
    ReturnsInHanded {} Try.checked os 7 .any (Rows.fnBernoulliSpec.pre6 enc Try.prog Try.f7 Rows.fnBernoulliRow.domain false) (Rows.fnBernoulliSpec.post enc Try.prog Try.f7 false true false false) := by
  refine returnsInHanded_of_change (C := Try.checked) own started (by kernel_rfl) Try.func7
    (ChangeSpec.witness6 (enc := enc) (C := Try.checked) false ⟨#[], #[.slice none 0 0], []⟩ 8 (by kernel_rfl) (by kernel_rfl) (by kernel_rfl) (by kernel_rfl)) ?_
  intro W base args ds gs before hval0 hW hcnd _
  have hval : ∀ (j : Nat) t v, Try.f7.params[j]? = some t → args[j]? = some v → Value.okWide Try.prog W .any base t v := hval0
  have hW' := hW
  obtain ⟨p, q, hA0, hV, rfl, hfz, hnd⟩ := hW
  have hA : DataW.TrodAll enc Try.prog W 0 (fun _ => true) true Try.f7.params.toList args.toList ds p := hA0
  rw [Try.params7] at hA hval
  obtain ⟨v0, vs0, d0, ds0, p0, q0, hargs, rfl, rfl, h0, r0⟩ := trodAll_cons hA
  obtain ⟨rfl, rfl, rfl⟩ := trodAll_nil r0
  obtain rfl : args = #[v0] := by cases args; simp_all
  obtain ⟨rfl, rfl⟩ := trodVars_none hV
  have k0 := h0
  have lt0 : ∀ x ∈ p0, x.block < W.heap.size := by obtain ⟨m, hm⟩ := k0; exact DataW.trod_lt m _ _ _ hm
  obtain ⟨p_0, n_0, q_0, rfl, s0⟩ : ∃ p n q, v0 = .slice p n q ∧ (n ≤ 4096 → Bytes W W.heap.size p n) := by
    obtain ⟨a, len, cap, rfl⟩ := okWide_slice Try.underlying44 (hval 0 44 v0 rfl rfl)
    obtain ⟨fuel, hf⟩ := h0
    exact Bytes.came Try.underlying44 Try.underlying5 (by kernel_rfl) (by simpa [Value.cells] using hf)
  clear hA0 hval0
  refine (walk W p_0 n_0 q_0 s0).mono fun e W' ⟨he, bel⟩ => ?_
  subst he
  exact ⟨_, rfl, _, _, _, [], _, [], hW', trodAll_mk1 (shut_bool Try.underlying4 _), (trodAll_cons_mk (Below.trod laidOut (by kernel_rfl) (of_decide_eq_true (by kernel_rfl)) k0 bel lt0) trodAll_mk0), rfl, bel.frame _, fun h => by cases h⟩

theorem over : Rows.fnBernoulliRow.holds Try.pinned (OpenSpec.ofChange Rows.fnBernoulliSpec) :=
  OpenClaim.holds_of_wide 7 Try.f7 rfl rfl rfl rfl rfl rfl rfl ⟨rfl, rfl, rfl, rfl, rfl⟩ rfl rfl rfl rfl rfl (by kernel_rfl) Try.func7 (by unfold joinedFacts; exact (and_tt (and_tt (and_tt (and_tt (and_tt (and_tt (and_tt (and_tt (and_tt (and_tt (and_tt (and_tt (and_tt (and_tt (and_tt (and_tt (and_tt (and_tt (and_tt (and_tt (and_tt (and_tt (and_tt (and_tt (and_tt (and_tt (and_tt (and_tt (and_tt (and_tt (and_tt (by kernel_rfl) (by kernel_rfl)) (by kernel_rfl)) (by kernel_rfl)) (by kernel_rfl)) (by kernel_rfl)) (by kernel_rfl)) (by kernel_rfl)) (by kernel_rfl)) (by kernel_rfl)) (by kernel_rfl)) (by kernel_rfl)) (by kernel_rfl)) (by kernel_rfl)) (by kernel_rfl)) (by kernel_rfl)) (by kernel_rfl)) (by kernel_rfl)) (by kernel_rfl)) (by kernel_rfl)) (by kernel_rfl)) (by kernel_rfl)) (by kernel_rfl)) (by kernel_rfl)) (by kernel_rfl)) init_enter) (tt_lifts init_lifts rfl)) (tt_make init_make rfl)) (by kernel_rfl)) (by kernel_rfl)) (by kernel_rfl)) (by kernel_rfl)))
    (of_decide_eq_true (by kernel_rfl)) (by unfold Func.isWrapper; first | (rw [if_pos (by decide +kernel)]; kernel_rfl) | (rw [if_neg (by decide +kernel)]; exact ⟨rfl, rfl⟩))
    (fun os started H enc _ => lifted os started H enc)

theorem proved : Rows.FnBernoulliSaid := over
#print axioms proved
end fnBernoulli
end Go.Proofs.Ytnhpodlcgkgpbaa
