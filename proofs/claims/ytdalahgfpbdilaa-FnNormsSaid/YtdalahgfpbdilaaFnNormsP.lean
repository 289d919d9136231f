/- FnNorms. -/
import Derived.Test.YtdalahgfpbdilaaPkB
import Derived.Test.YtdalahgfpbdilaaPkC
import Derived.Test.YtdalahgfpbdilaaInit
import Derived.Test.YtdalahgfpbdilaaCopy
import Derived.Deep.RegionHeld3
import Derived.Deep.DeepCutAuto
import Derived.Deep.CutRange
import Derived.ShutString
import Derived.ChangeOld
import Derived.Lib.SmallJoins
namespace Go.Proofs.Ytdalahgfpbdilaa
open Go.RowKit Go.ChangeShapes Go.Sort Go.WideShapes Go.ChangeAt
set_option linter.unusedVariables false
set_option linter.unusedSimpArgs false
namespace fnNorms
set_option maxRecDepth 100000 in
set_option maxHeartbeats 8000000 in
theorem walk (w : World) (p : Option Addr) (n q : Nat) (hb : n ≤ 4096 → Bytes w w.heap.size p n) :
    Calls Try.prog 7 #[.slice p n q] w fun e w' => e = .returned (.bool true) ∧ Below w.heap.size w w' := by
  by_cases hn : n ≤ 4096
  case neg =>
    go_enter Try.func7, Try.ntmps7
    go_wp2_with fail
    refine (big_yes _ _ _ _ (by omega)).mono ?_
    rintro e w1 ⟨rfl, b1⟩
    go_wp2
    go_ret
    exact ⟨rfl, b1⟩
  have by0 := hb hn
  clear hb
  have st0 := St.start w
  go_enter Try.func7, Try.ntmps7
  go_wp2_with fail
  refine (big_no _ _ _ _ hn).mono ?_
  rintro e w1 ⟨rfl, b_w1⟩
  have hz_w1 := b_w1.size
  try simp only [World.size_alloc] at hz_w1
  have st1 := st0.keep b_w1
  have by1 := by0.below b_w1
  clear st0 by0 b_w1
  go_wp2_with fail
  refine (DrawCharacteristicOf_any _ by1 (by omega)).mono ?_
  rintro e w2 ⟨x_w2, L_w2, a_w2, k_w2, g_w2, lo_w2, hi_w2, rfl, hx_w2, hL0_w2, hL_w2, s_w2, hlo_w2, b_w2⟩
  have hz_w2 := b_w2.size
  try simp only [World.size_alloc] at hz_w2
  have st2 := st1.keep b_w2
  have by2 := by1.below b_w2
  try simp only [World.size_alloc] at s_w2
  replace st2 := st2.addSl ⟨false, lo_w2, hi_w2, .slice a_w2 L_w2 k_w2, L_w2, g_w2⟩ s_w2
  replace st2 := (st2.alloc (.cells #[.int .i64 x_w2, .slice a_w2 L_w2 k_w2] 28)).addBox _ [.int .i64 x_w2, .slice a_w2 L_w2 k_w2] (Box.made _ _ _ _ (fun j v h => by simpa using h))
  replace by2 := by2.below ((Below.refl _ _).alloc (Nat.le_refl _) (.cells #[.int .i64 x_w2, .slice a_w2 L_w2 k_w2] 28))
  clear st1 by1 b_w2 s_w2
  obtain ⟨Nc, Gc, Cc, hS, hI, hNc, hR⟩ := CharacteristicOf_two x_w2 L_w2 g_w2
  have HS := Lib.hid hS; have HI := Lib.hid hI; have HRc := Lib.hid hR; clear hS hI hR
  obtain ⟨c_x_0, c_x_1⟩ := (st2.box 0 (w2.heap.size, [.int .i64 x_w2, .slice a_w2 L_w2 k_w2]) rfl).cell2
  try dsimp only at c_x_0 c_x_1
  have q_x := st2.sl 0 ⟨false, lo_w2, hi_w2, .slice a_w2 L_w2 k_w2, L_w2, g_w2⟩ rfl
  try dsimp only at q_x
  go_wp2_with fail
  refine (HI.out _ _ _ _ _ q_x).mono ?_
  rintro e w3 ⟨a_w3, k_w3, rfl, s_w3, b_w3⟩
  have hz_w3 := b_w3.size
  try simp only [World.size_alloc] at hz_w3
  have st3 := st2.keep b_w3
  have by3 := by2.below b_w3
  try simp only [World.size_alloc] at s_w3
  replace st3 := st3.addSl ⟨true, w2.heap.size + 1, w3.heap.size, .slice a_w3 Nc k_w3, Nc, Gc⟩ s_w3
  clear c_x_0 c_x_1 q_x st2 by2 b_w3 s_w3
  obtain ⟨c_x_0, c_x_1⟩ := (st3.box 0 (w2.heap.size, [.int .i64 x_w2, .slice a_w2 L_w2 k_w2]) rfl).cell2
  try dsimp only at c_x_0 c_x_1
  have q_x := st3.sl 1 ⟨false, lo_w2, hi_w2, .slice a_w2 L_w2 k_w2, L_w2, g_w2⟩ rfl
  try dsimp only at q_x
  go_wp2_with fail
  refine (HS.out _ _ _ _ _ q_x).mono ?_
  rintro e w4 ⟨a_w4, k_w4, rfl, s_w4, b_w4⟩
  have hz_w4 := b_w4.size
  try simp only [World.size_alloc] at hz_w4
  have st4 := st3.keep b_w4
  have by4 := by3.below b_w4
  try simp only [World.size_alloc] at s_w4
  replace st4 := st4.addSl ⟨true, w3.heap.size, w4.heap.size, .slice a_w4 Nc k_w4, Nc, Gc⟩ s_w4
  clear c_x_0 c_x_1 q_x st3 by3 b_w4 s_w4
  clear HS HI
  have q_ch := st4.sl 1 ⟨true, w2.heap.size + 1, w3.heap.size, .slice a_w3 Nc k_w3, Nc, Gc⟩ rfl
  try dsimp only at q_ch
  have q_due := st4.sl 0 ⟨true, w3.heap.size, w4.heap.size, .slice a_w4 Nc k_w4, Nc, Gc⟩ rfl
  try dsimp only at q_due
  go_wp2_with fail
  refine (likeInts_yes _ q_ch q_due (fun _ _ => rfl)).mono ?_
  rintro e w5 ⟨rfl, b_w5⟩
  have hz_w5 := b_w5.size
  try simp only [World.size_alloc] at hz_w5
  have st5 := st4.keep b_w5
  have by5 := by4.below b_w5
  clear q_ch q_due st4 by4 b_w5
  go_wp2_with fail
  refine (DrawNormOf_any _ by5 (by omega)).mono ?_
  rintro e w6 ⟨x_w6, L_w6, a_w6, k_w6, g_w6, lo_w6, hi_w6, rfl, hx_w6, hL0_w6, hL_w6, s_w6, hlo_w6, b_w6⟩
  have hz_w6 := b_w6.size
  try simp only [World.size_alloc] at hz_w6
  have st6 := st5.keep b_w6
  have by6 := by5.below b_w6
  try simp only [World.size_alloc] at s_w6
  replace st6 := st6.addSl ⟨false, lo_w6, hi_w6, .slice a_w6 L_w6 k_w6, L_w6, g_w6⟩ s_w6
  replace st6 := (st6.alloc (.cells #[.int .i64 x_w6, .slice a_w6 L_w6 k_w6] 28)).addBox _ [.int .i64 x_w6, .slice a_w6 L_w6 k_w6] (Box.made _ _ _ _ (fun j v h => by simpa using h))
  replace by6 := by6.below ((Below.refl _ _).alloc (Nat.le_refl _) (.cells #[.int .i64 x_w6, .slice a_w6 L_w6 k_w6] 28))
  clear st5 by5 b_w6 s_w6
  obtain ⟨Cn0, Cn1, hS, hI, hR_n⟩ := NormOf_two x_w6 L_w6 g_w6
  have HS := Lib.hid hS; have HI := Lib.hid hI; have HR_n := Lib.hid hR_n; clear hS hI hR_n
  obtain ⟨c_y_0, c_y_1⟩ := (st6.box 0 (w6.heap.size, [.int .i64 x_w6, .slice a_w6 L_w6 k_w6]) rfl).cell2
  try dsimp only at c_y_0 c_y_1
  have q_y := st6.sl 0 ⟨false, lo_w6, hi_w6, .slice a_w6 L_w6 k_w6, L_w6, g_w6⟩ rfl
  try dsimp only at q_y
  go_wp2_with fail
  refine (HI.out _ _ _ _ _ q_y).mono ?_
  rintro e w7 ⟨rfl, b_w7⟩
  have hz_w7 := b_w7.size
  try simp only [World.size_alloc] at hz_w7
  have st7 := st6.keep b_w7
  have by7 := by6.below b_w7
  clear c_y_0 c_y_1 q_y st6 by6 b_w7
  obtain ⟨c_y_0, c_y_1⟩ := (st7.box 0 (w6.heap.size, [.int .i64 x_w6, .slice a_w6 L_w6 k_w6]) rfl).cell2
  try dsimp only at c_y_0 c_y_1
  have q_y := st7.sl 0 ⟨false, lo_w6, hi_w6, .slice a_w6 L_w6 k_w6, L_w6, g_w6⟩ rfl
  try dsimp only at q_y
  go_wp2_with fail
  refine (HS.out _ _ _ _ _ q_y).mono ?_
  rintro e w8 ⟨rfl, b_w8⟩
  have hz_w8 := b_w8.size
  try simp only [World.size_alloc] at hz_w8
  have st8 := st7.keep b_w8
  have by8 := by7.below b_w8
  clear c_y_0 c_y_1 q_y st7 by7 b_w8
  clear HS HI
  go_wp2_with fail
  refine (DrawTraceOf_any _ by8 (by omega)).mono ?_
  rintro e w9 ⟨x_w9, L_w9, a_w9, k_w9, g_w9, lo_w9, hi_w9, rfl, hx_w9, hL0_w9, hL_w9, s_w9, hlo_w9, b_w9⟩
  have hz_w9 := b_w9.size
  try simp only [World.size_alloc] at hz_w9
  have st9 := st8.keep b_w9
  have by9 := by8.below b_w9
  try simp only [World.size_alloc] at s_w9
  replace st9 := st9.addSl ⟨false, lo_w9, hi_w9, .slice a_w9 L_w9 k_w9, L_w9, g_w9⟩ s_w9
  replace st9 := (st9.alloc (.cells #[.int .i64 x_w9, .slice a_w9 L_w9 k_w9] 28)).addBox _ [.int .i64 x_w9, .slice a_w9 L_w9 k_w9] (Box.made _ _ _ _ (fun j v h => by simpa using h))
  replace by9 := by9.below ((Below.refl _ _).alloc (Nat.le_refl _) (.cells #[.int .i64 x_w9, .slice a_w9 L_w9 k_w9] 28))
  clear st8 by8 b_w9 s_w9
  obtain ⟨Ct0, Ct1, hS, hI, hR_t⟩ := TraceOf_two x_w9 L_w9 g_w9
  have HS := Lib.hid hS; have HI := Lib.hid hI; have HR_t := Lib.hid hR_t; clear hS hI hR_t
  obtain ⟨c_z_0, c_z_1⟩ := (st9.box 0 (w9.heap.size, [.int .i64 x_w9, .slice a_w9 L_w9 k_w9]) rfl).cell2
  try dsimp only at c_z_0 c_z_1
  have q_z := st9.sl 0 ⟨false, lo_w9, hi_w9, .slice a_w9 L_w9 k_w9, L_w9, g_w9⟩ rfl
  try dsimp only at q_z
  go_wp2_with fail
  refine (HI.out _ _ _ _ _ q_z).mono ?_
  rintro e w10 ⟨rfl, b_w10⟩
  have hz_w10 := b_w10.size
  try simp only [World.size_alloc] at hz_w10
  have st10 := st9.keep b_w10
  have by10 := by9.below b_w10
  clear c_z_0 c_z_1 q_z st9 by9 b_w10
  obtain ⟨c_z_0, c_z_1⟩ := (st10.box 0 (w9.heap.size, [.int .i64 x_w9, .slice a_w9 L_w9 k_w9]) rfl).cell2
  try dsimp only at c_z_0 c_z_1
  have q_z := st10.sl 0 ⟨false, lo_w9, hi_w9, .slice a_w9 L_w9 k_w9, L_w9, g_w9⟩ rfl
  try dsimp only at q_z
  go_wp2_with fail
  refine (HS.out _ _ _ _ _ q_z).mono ?_
  rintro e w11 ⟨rfl, b_w11⟩
  have hz_w11 := b_w11.size
  try simp only [World.size_alloc] at hz_w11
  have st11 := st10.keep b_w11
  have by11 := by10.below b_w11
  clear c_z_0 c_z_1 q_z st10 by10 b_w11
  clear HS HI
  go_wp2_with fail
  refine (DrawSizeOf_any _ by11 (by omega)).mono ?_
  rintro e w12 ⟨x_w12, L_w12, a_w12, k_w12, g_w12, lo_w12, hi_w12, rfl, hx_w12, hL0_w12, hL_w12, s_w12, hlo_w12, b_w12⟩
  have hz_w12 := b_w12.size
  try simp only [World.size_alloc] at hz_w12
  have st12 := st11.keep b_w12
  have by12 := by11.below b_w12
  try simp only [World.size_alloc] at s_w12
  replace st12 := st12.addSl ⟨false, lo_w12, hi_w12, .slice a_w12 L_w12 k_w12, L_w12, g_w12⟩ s_w12
  replace st12 := (st12.alloc (.cells #[.int .i64 x_w12, .slice a_w12 L_w12 k_w12] 28)).addBox _ [.int .i64 x_w12, .slice a_w12 L_w12 k_w12] (Box.made _ _ _ _ (fun j v h => by simpa using h))
  replace by12 := by12.below ((Below.refl _ _).alloc (Nat.le_refl _) (.cells #[.int .i64 x_w12, .slice a_w12 L_w12 k_w12] 28))
  clear st11 by11 b_w12 s_w12
  obtain ⟨Cs0, Cs1, hS, hI, hR_s⟩ := SizeOf_two x_w12 L_w12 g_w12
  have HS := Lib.hid hS; have HI := Lib.hid hI; have HR_s := Lib.hid hR_s; clear hS hI hR_s
  obtain ⟨c_u_0, c_u_1⟩ := (st12.box 0 (w12.heap.size, [.int .i64 x_w12, .slice a_w12 L_w12 k_w12]) rfl).cell2
  try dsimp only at c_u_0 c_u_1
  have q_u := st12.sl 0 ⟨false, lo_w12, hi_w12, .slice a_w12 L_w12 k_w12, L_w12, g_w12⟩ rfl
  try dsimp only at q_u
  go_wp2_with fail
  refine (HI.out _ _ _ _ _ q_u).mono ?_
  rintro e w13 ⟨rfl, b_w13⟩
  have hz_w13 := b_w13.size
  try simp only [World.size_alloc] at hz_w13
  have st13 := st12.keep b_w13
  have by13 := by12.below b_w13
  clear c_u_0 c_u_1 q_u st12 by12 b_w13
  obtain ⟨c_u_0, c_u_1⟩ := (st13.box 0 (w12.heap.size, [.int .i64 x_w12, .slice a_w12 L_w12 k_w12]) rfl).cell2
  try dsimp only at c_u_0 c_u_1
  have q_u := st13.sl 0 ⟨false, lo_w12, hi_w12, .slice a_w12 L_w12 k_w12, L_w12, g_w12⟩ rfl
  try dsimp only at q_u
  go_wp2_with fail
  refine (HS.out _ _ _ _ _ q_u).mono ?_
  rintro e w14 ⟨rfl, b_w14⟩
  have hz_w14 := b_w14.size
  try simp only [World.size_alloc] at hz_w14
  have st14 := st13.keep b_w14
  have by14 := by13.below b_w14
  clear c_u_0 c_u_1 q_u st13 by13 b_w14
  clear HS HI
  go_wp2_with fail
  refine (DrawContentOf_any _ by14 (by omega)).mono ?_
  rintro e w15 ⟨x_w15, L_w15, a_w15, k_w15, g_w15, lo_w15, hi_w15, rfl, hx_w15, hL0_w15, hL_w15, s_w15, hlo_w15, b_w15⟩
  have hz_w15 := b_w15.size
  try simp only [World.size_alloc] at hz_w15
  have st15 := st14.keep b_w15
  have by15 := by14.below b_w15
  try simp only [World.size_alloc] at s_w15
  replace st15 := st15.addSl ⟨false, lo_w15, hi_w15, .slice a_w15 L_w15 k_w15, L_w15, g_w15⟩ s_w15
  replace st15 := (st15.alloc (.cells #[.int .i64 x_w15, .slice a_w15 L_w15 k_w15] 28)).addBox _ [.int .i64 x_w15, .slice a_w15 L_w15 k_w15] (Box.made _ _ _ _ (fun j v h => by simpa using h))
  replace by15 := by15.below ((Below.refl _ _).alloc (Nat.le_refl _) (.cells #[.int .i64 x_w15, .slice a_w15 L_w15 k_w15] 28))
  clear st14 by14 b_w15 s_w15
  obtain ⟨Cc0, Cc1, hS, hI, hR_c⟩ := ContentOf_two x_w15 L_w15 g_w15
  have HS := Lib.hid hS; have HI := Lib.hid hI; have HR_c := Lib.hid hR_c; clear hS hI hR_c
  obtain ⟨c_v_0, c_v_1⟩ := (st15.box 0 (w15.heap.size, [.int .i64 x_w15, .slice a_w15 L_w15 k_w15]) rfl).cell2
  try dsimp only at c_v_0 c_v_1
  have q_v := st15.sl 0 ⟨false, lo_w15, hi_w15, .slice a_w15 L_w15 k_w15, L_w15, g_w15⟩ rfl
  try dsimp only at q_v
  go_wp2_with fail
  refine (HI.out _ _ _ _ _ q_v).mono ?_
  rintro e w16 ⟨rfl, b_w16⟩
  have hz_w16 := b_w16.size
  try simp only [World.size_alloc] at hz_w16
  have st16 := st15.keep b_w16
  have by16 := by15.below b_w16
  clear c_v_0 c_v_1 q_v st15 by15 b_w16
  obtain ⟨c_v_0, c_v_1⟩ := (st16.box 0 (w15.heap.size, [.int .i64 x_w15, .slice a_w15 L_w15 k_w15]) rfl).cell2
  try dsimp only at c_v_0 c_v_1
  have q_v := st16.sl 0 ⟨false, lo_w15, hi_w15, .slice a_w15 L_w15 k_w15, L_w15, g_w15⟩ rfl
  try dsimp only at q_v
  go_wp2_with fail
  refine (HS.out _ _ _ _ _ q_v).mono ?_
  rintro e w17 ⟨rfl, b_w17⟩
  have hz_w17 := b_w17.size
  try simp only [World.size_alloc] at hz_w17
  have st17 := st16.keep b_w17
  have by17 := by16.below b_w17
  clear c_v_0 c_v_1 q_v st16 by16 b_w17
  clear HS HI
  have hs0 : decide (Cs0 < 0) = false := decide_eq_false (by have := HR_s.out; omega)
  go_upto_region 28 with fail
  go_cut [146] (fun s wx => s = .bool false ∧ wx = w17)
  case first => as_aux_lemma =>
    by_cases h4 : Cs1 = 0
    · subst h4; go_wp2_with fail; go_meet; exact ⟨rfl, rfl⟩
    · have e4 : (Cs1 == 0) = false := by simpa using h4
      go_wp2_with fail; go_meet; exact ⟨rfl, rfl⟩
  case rest => as_aux_lemma =>
    obtain ⟨rfl, rfl⟩ := hcut
    go_upto_if 148 with fail
    go_cut [] (fun wx => wx = wc)
    case first => as_aux_lemma =>
      by_cases h5 : Cc1 = 0
      case neg =>
        have e5 : (Cc1 == 0) = false := by simpa using h5
        go_wp2_with fail; go_meet; exact rfl
      case pos =>
        have HF := Lib.hid (HR_c.out.2.2 h5)
        have hb1 := HR_c.out.1
        have hb2 := HR_c.out.2.1
        subst h5
        obtain ⟨c_v_0, c_v_1⟩ := (st17.box 0 (w15.heap.size, [.int .i64 x_w15, .slice a_w15 L_w15 k_w15]) rfl).cell2
        try dsimp only at c_v_0 c_v_1
        have q_v := st17.sl 0 ⟨false, lo_w15, hi_w15, .slice a_w15 L_w15 k_w15, L_w15, g_w15⟩ rfl
        try dsimp only at q_v
        obtain ⟨g, off, cap, hv, _, hg, _, _, hc, _⟩ := q_v.at hL0_w15
        obtain ⟨rfl, rfl⟩ : a_w15 = some ⟨g, off, none⟩ ∧ k_w15 = cap := by cases hv; exact ⟨rfl, rfl⟩
        have HC := Lib.hid hc
        have HBD := Lib.hid q_v.bd
        have hlen := q_v.len
        unfold maxLen at hlen
        clear hv hc q_v
        by_cases h0 : Cc0 = 0
        case pos =>
          subst h0
          go_wp2_with fail
          go_loop [28] (fun i => ∃ k : Nat, k ≤ L_w15 ∧ i = .int .i64 k) (fun i => L_w15 - (intOf i).toNat)
          case atStart => exact ⟨0, Nat.zero_le _, rfl⟩
          case round =>
            obtain ⟨k, hk, rfl⟩ := hrel
            by_cases hlt : k < L_w15
            case neg =>
              go_wp2_with fail; go_meet; exact rfl
            case pos =>
              have hck := HC.out k hlt
              rw [(HF.out k hlt).1 (by simp)] at hck
              go_wp2
              go_round
              case rel => exact ⟨k + 1, by omega, by go_num⟩
              case measure => simp [intOf]; omega
        case neg =>
          have e0 : (Cc0 == 0) = false := by simpa using h0
          have e0' : (Cc0 != 0) = true := by simpa using h0
          go_wp2_with fail
          go_loop [28] (fun i => ∃ k : Nat, k ≤ L_w15 ∧ i = .int .i64 k) (fun i => L_w15 - (intOf i).toNat)
          case atStart => exact ⟨0, Nat.zero_le _, rfl⟩
          case round =>
            obtain ⟨k, hk, rfl⟩ := hrel
            by_cases hlt : k < L_w15
            case neg =>
              go_wp2_with fail; go_meet; exact rfl
            case pos =>
              have hck := HC.out k hlt
              have hm := (HF.out k hlt).2
              have hbk := HBD.out k hlt
              unfold inR at hbk
              generalize g_w15 k = y at *
              have em : (y.tmod Cc0 != 0) = false := by rw [hm]; rfl
              have HM := Lib.hid hm; clear hm
              go_wp2
              go_round
              case rel => exact ⟨k + 1, by omega, by go_num⟩
              case measure => simp [intOf]; omega
    case rest => as_aux_lemma =>
      subst hcut
      obtain ⟨w30, hw30⟩ : ∃ z : World, z = wc := ⟨_, rfl⟩
      subst hw30
      go_upto_if 181 with fail
      go_cut [] (fun wx => St w wx [(w15.heap.size, [.int .i64 x_w15, .slice a_w15 L_w15 k_w15]), (w12.heap.size, [.int .i64 x_w12, .slice a_w12 L_w12 k_w12]), (w9.heap.size, [.int .i64 x_w9, .slice a_w9 L_w9 k_w9]), (w6.heap.size, [.int .i64 x_w6, .slice a_w6 L_w6 k_w6]), (w2.heap.size, [.int .i64 x_w2, .slice a_w2 L_w2 k_w2])] [⟨false, lo_w15, hi_w15, .slice a_w15 L_w15 k_w15, L_w15, g_w15⟩, ⟨false, lo_w12, hi_w12, .slice a_w12 L_w12 k_w12, L_w12, g_w12⟩, ⟨false, lo_w9, hi_w9, .slice a_w9 L_w9 k_w9, L_w9, g_w9⟩, ⟨false, lo_w6, hi_w6, .slice a_w6 L_w6 k_w6, L_w6, g_w6⟩, ⟨true, w3.heap.size, w4.heap.size, .slice a_w4 Nc k_w4, Nc, Gc⟩, ⟨true, w2.heap.size + 1, w3.heap.size, .slice a_w3 Nc k_w3, Nc, Gc⟩, ⟨false, lo_w2, hi_w2, .slice a_w2 L_w2 k_w2, L_w2, g_w2⟩] ∧ w30.heap.size ≤ wx.heap.size)
      case first => as_aux_lemma =>
        by_cases h2 : Cn1 = 0
        case neg =>
          have e2 : (Cn1 == 0) = false := by simpa using h2
          go_wp2_with fail; go_meet; exact ⟨st17, Nat.le_refl _⟩
        case pos =>
          rcases HR_n.out with ⟨_, m, hxm, hcy, hC, hb1, hb2⟩ | ⟨h, _⟩
          case inr => exact absurd h2 h
          subst h2
          obtain ⟨R, N, Gq, Cq, hM, hMR⟩ := MultiplyCyclos_one x_w6 L_w6 g_w6 x_w6 L_w6 g_w6
          obtain ⟨K0, K1, hSq, hIq, hRq⟩ := NormOf_two R N Gq
          have HM := Lib.hid hM; have HMR := Lib.hid hMR; have HIq := Lib.hid hIq; have HRq := Lib.hid hRq; have HCY := Lib.hid hcy; have HCN := Lib.hid hC; have HXM := Lib.hid hxm; clear hM hMR hSq hIq hRq hcy hC hxm
          obtain ⟨c_y_0, c_y_1⟩ := (st17.box 3 (w6.heap.size, [.int .i64 x_w6, .slice a_w6 L_w6 k_w6]) rfl).cell2
          try dsimp only at c_y_0 c_y_1
          have q_y := st17.sl 3 ⟨false, lo_w6, hi_w6, .slice a_w6 L_w6 k_w6, L_w6, g_w6⟩ rfl
          try dsimp only at q_y
          go_wp2_with fail
          refine (HM.out _ _ _ _ _ _ _ _ _ q_y q_y).mono ?_
          rintro e w18 ⟨a_w18, k_w18, rfl, s_w18, b_w18⟩
          have hz_w18 := b_w18.size
          try simp only [World.size_alloc] at hz_w18
          have st18 := st17.keep b_w18
          try simp only [World.size_alloc] at s_w18
          replace st18 := st18.addSl ⟨true, w30.heap.size, w18.heap.size, .slice a_w18 N k_w18, N, Gq⟩ s_w18
          replace st18 := (st18.alloc (.cells #[.int .i64 R, .slice a_w18 N k_w18] 28)).addBox _ [.int .i64 R, .slice a_w18 N k_w18] (Box.made _ _ _ _ (fun j v h => by simpa using h))
          clear c_y_0 c_y_1 q_y st17 b_w18 s_w18
          obtain ⟨c_sq_0, c_sq_1⟩ := (st18.box 0 (w18.heap.size, [.int .i64 R, .slice a_w18 N k_w18]) rfl).cell2
          try dsimp only at c_sq_0 c_sq_1
          have q_sq := st18.sl 0 ⟨true, w30.heap.size, w18.heap.size, .slice a_w18 N k_w18, N, Gq⟩ rfl
          try dsimp only at q_sq
          go_wp2_with fail
          refine (HIq.out _ _ _ _ _ q_sq).mono ?_
          rintro e w19 ⟨rfl, b_w19⟩
          have hz_w19 := b_w19.size
          try simp only [World.size_alloc] at hz_w19
          have st19 := st18.keep b_w19
          clear c_sq_0 c_sq_1 q_sq st18 b_w19
          have stz : St w w19 [(w15.heap.size, [.int .i64 x_w15, .slice a_w15 L_w15 k_w15]), (w12.heap.size, [.int .i64 x_w12, .slice a_w12 L_w12 k_w12]), (w9.heap.size, [.int .i64 x_w9, .slice a_w9 L_w9 k_w9]), (w6.heap.size, [.int .i64 x_w6, .slice a_w6 L_w6 k_w6]), (w2.heap.size, [.int .i64 x_w2, .slice a_w2 L_w2 k_w2])] [⟨false, lo_w15, hi_w15, .slice a_w15 L_w15 k_w15, L_w15, g_w15⟩, ⟨false, lo_w12, hi_w12, .slice a_w12 L_w12 k_w12, L_w12, g_w12⟩, ⟨false, lo_w9, hi_w9, .slice a_w9 L_w9 k_w9, L_w9, g_w9⟩, ⟨false, lo_w6, hi_w6, .slice a_w6 L_w6 k_w6, L_w6, g_w6⟩, ⟨true, w3.heap.size, w4.heap.size, .slice a_w4 Nc k_w4, Nc, Gc⟩, ⟨true, w2.heap.size + 1, w3.heap.size, .slice a_w3 Nc k_w3, Nc, Gc⟩, ⟨false, lo_w2, hi_w2, .slice a_w2 L_w2 k_w2, L_w2, g_w2⟩] := ⟨st19.1, fun b hb => st19.2.1 b (List.mem_cons_of_mem _ hb), fun s hs => st19.2.2 s (List.mem_cons_of_mem _ hs)⟩
          by_cases h6 : Cq = 0
          case neg =>
            have e6 : (Cq == 0) = false := by simpa using h6
            go_wp2_with fail; go_meet; exact ⟨stz, by omega⟩
          case pos =>
            by_cases h7 : K1 = 0
            case neg =>
              have e7 : (K1 == 0) = false := by simpa using h7
              subst h6
              go_wp2_with fail; go_meet; exact ⟨stz, by omega⟩
            case pos =>
              have hK : K0 = Cn0 * Cn0 := by
                rcases HMR.out with ⟨_, m', e1, _, e3, hcf, _, eL, _, eN, eG, hw⟩ | h
                case inr => exact absurd h6 h
                rcases HRq.out with ⟨_, m'', e4, _, e5, _, _⟩ | ⟨h, _⟩
                case inr => exact absurd h7 h
                have em : m' = m := by have := HXM.out; omega
                have em2 : m'' = m := by have := HXM.out; omega
                subst em em2
                have hcy := HCY.out
                rw [eL] at hcf
                rw [e5, HCN.out, eG, norm_mul (by have := hcf.2.1; omega) (by have := hcf.1; omega) hcf.2.2.2 hcf.2.2.2 hw]
              have hsq : -1000000000000000000 ≤ Cn0 * Cn0 ∧ Cn0 * Cn0 ≤ 1000000000000000000 := by
                have h1 : (Cn0 * Cn0).natAbs = Cn0.natAbs * Cn0.natAbs := Int.natAbs_mul _ _
                have h2 : Cn0.natAbs * Cn0.natAbs ≤ 1000000000 * 1000000000 := Nat.mul_le_mul (by omega) (by omega)
                omega
              have hwr : IntKind.i64.wrap (Cn0 * Cn0) = Cn0 * Cn0 := IntWalk.i64_in _ (by omega)
              have hwr' : wrap64 (Cn0 * Cn0) = Cn0 * Cn0 := wrap_inR (by unfold inR; omega)
              subst h6 h7
              subst hK
              go_wp2_with fail; go_meet; exact ⟨stz, by omega⟩
      case rest => as_aux_lemma =>
        obtain ⟨stc, hzc⟩ := hcut
        obtain ⟨w31, hw31⟩ : ∃ z : World, z = wc := ⟨_, rfl⟩
        subst hw31
        rcases HRc.out with ⟨h1, m, hxm, hcy, hN, g0, g1, g2⟩ | ⟨h1, hN⟩
        case inr =>
          subst hN
          have e1 : (Cc != 0) = true := by simpa using h1
          have BB := stc.1
          go_wp2
          go_ret
          exact ⟨rfl, BB⟩
        case inl =>
          subst h1 hN hxm
          have eL := cy_len _ _ hcy
          have hm1 : m < 17 := by have := hcy.2.1; omega
          have hm2 : 1 ≤ m := by have := hcy.1; omega
          have hp := phi_le12 m (by omega) hm2
          have hp1 := phi_pos m hm1 hm2
          obtain ⟨T0, T1, hS, hI, hT⟩ := TraceOf_two (m : Int) L_w2 g_w2
          have HI := Lib.hid hI; clear hS hI
          rcases hT with ⟨h1, m', e1, _, eT, hT1, hT2⟩ | ⟨_, h⟩
          case inr => exact absurd hcy h
          obtain rfl : m' = m := by omega
          subst h1
          obtain ⟨M0, M1, hS, hI, hMn⟩ := NormOf_two (m' : Int) L_w2 g_w2
          have HJ := Lib.hid hI; clear hS hI
          have g1' : Gc (L_w2 - 1) = -T0 := by rw [g1, eT]
          have q_ch := stc.sl 5 ⟨true, w2.heap.size + 1, w3.heap.size, .slice a_w3 (L_w2 + 1) k_w3, (L_w2 + 1), Gc⟩ rfl
          try dsimp only at q_ch
          obtain ⟨g, off, cap, hv, _, hg, _, _, hc, _⟩ := q_ch.at (Nat.succ_pos _)
          obtain ⟨rfl, rfl⟩ : a_w3 = some ⟨g, off, none⟩ ∧ k_w3 = cap := by cases hv; exact ⟨rfl, rfl⟩
          clear hv q_ch
          have HG0 := Lib.hid g0; have HG1 := Lib.hid g1'; have HG2 := Lib.hid g2; have HEL := Lib.hid eL; have HCX := Lib.hid hcy; have HMN := Lib.hid hMn; have HCH := Lib.hid hc
          have hLp : 0 < L_w2 := by omega
          have hL12 : L_w2 ≤ 12 := by omega
          clear g0 g1 g1' g2 eL hcy hMn eT e1 hc
          obtain ⟨c_x_0, c_x_1⟩ := (stc.box 4 (w2.heap.size, [.int .i64 (m' : Int), .slice a_w2 L_w2 k_w2]) rfl).cell2
          try dsimp only at c_x_0 c_x_1
          have q_x := stc.sl 6 ⟨false, lo_w2, hi_w2, .slice a_w2 L_w2 k_w2, L_w2, g_w2⟩ rfl
          try dsimp only at q_x
          go_wp2_with fail
          refine (HI.out _ _ _ _ _ q_x).mono ?_
          rintro e w32 ⟨rfl, b_w32⟩
          have hz_w32 := b_w32.size
          try simp only [World.size_alloc] at hz_w32
          have st41 := stc.keep b_w32
          clear c_x_0 c_x_1 q_x stc b_w32
          obtain ⟨c_x_0, c_x_1⟩ := (st41.box 4 (w2.heap.size, [.int .i64 (m' : Int), .slice a_w2 L_w2 k_w2]) rfl).cell2
          try dsimp only at c_x_0 c_x_1
          have q_x := st41.sl 6 ⟨false, lo_w2, hi_w2, .slice a_w2 L_w2 k_w2, L_w2, g_w2⟩ rfl
          try dsimp only at q_x
          go_wp2_with fail
          refine (HJ.out _ _ _ _ _ q_x).mono ?_
          rintro e w33 ⟨rfl, b_w33⟩
          have hz_w33 := b_w33.size
          try simp only [World.size_alloc] at hz_w33
          have st42 := st41.keep b_w33
          clear c_x_0 c_x_1 q_x st41 b_w33
          have q_ch := st42.sl 5 ⟨true, w2.heap.size + 1, w3.heap.size, .slice (some ⟨g, off, none⟩) (L_w2 + 1) k_w3, (L_w2 + 1), Gc⟩ rfl
          try dsimp only at q_ch
          obtain ⟨c_x_0, c_x_1⟩ := (st42.box 4 (w2.heap.size, [.int .i64 (m' : Int), .slice a_w2 L_w2 k_w2]) rfl).cell2
          try dsimp only at c_x_0 c_x_1
          obtain ⟨_, _, _, hcc, _⟩ := q_ch.known (Nat.succ_pos _)
          have cL := hcc L_w2 (by omega)
          rw [HG0.out] at cL
          have cP := hcc (L_w2 - 1) (by omega)
          rw [HG1.out] at cP
          have cZ := hcc 0 (by omega)
          rw [HG2.out, Nat.add_zero] at cZ
          have BB := st42.1
          clear hcc q_ch
          by_cases hM : M1 = 0
          case neg =>
            have eM : (M1 != 0) = true := by simpa using hM
            have eM' : (M1 == 0) = false := by simpa using hM
            clear cZ
            by_cases hpar : L_w2 % 2 = 1
            case pos =>
              have ep : (((L_w2 : Nat) : Int) % 2 == 1) = true := by rw [beq_iff_eq]; omega
              have hpm : -1000000000 ≤ M0 ∧ M0 ≤ 1000000000 := by rcases HMN.out with ⟨_, _, _, _, _, h1, h2⟩ | ⟨_, h⟩ <;> omega
              clear hpar
              go_wp2
              go_ret
              exact ⟨rfl, BB⟩
            case neg =>
              have ep : (((L_w2 : Nat) : Int) % 2 == 1) = false := by rw [beq_eq_false_iff_ne]; omega
              have hpm : -1000000000 ≤ M0 ∧ M0 ≤ 1000000000 := by rcases HMN.out with ⟨_, _, _, _, _, h1, h2⟩ | ⟨_, h⟩ <;> omega
              clear hpar
              go_wp2
              go_ret
              exact ⟨rfl, BB⟩
          case pos =>
            rcases HMN.out with ⟨_, m2, e2, _, eV, hpm1, hpm2⟩ | ⟨h, _⟩
            case inr => exact absurd hM h
            obtain rfl : m' = m2 := by omega
            rw [← eV] at cZ
            subst hM
            clear e2 eV
            by_cases hpar : L_w2 % 2 = 1
            case pos =>
              have ep : (((L_w2 : Nat) : Int) % 2 == 1) = true := by rw [beq_iff_eq]; omega
              have es : sg L_w2 * M0 = -M0 := by unfold sg; rw [if_neg (by omega)]; omega
              rw [es] at cZ
              clear hpar es
              go_wp2
              go_ret
              exact ⟨rfl, BB⟩
            case neg =>
              have ep : (((L_w2 : Nat) : Int) % 2 == 1) = false := by rw [beq_eq_false_iff_ne]; omega
              have es : sg L_w2 * M0 = M0 := by unfold sg; rw [if_pos (by omega)]; omega
              rw [es] at cZ
              clear hpar es
              go_wp2
              go_ret
              exact ⟨rfl, BB⟩

theorem own : ownKnob Try.prog.godebug = none := by kernel_rfl
theorem laidOut : laidOutB Try.prog = true := by kernel_rfl
set_option maxRecDepth 100000 in
theorem lifted (os : Os) (started : os.Started) (H : Type) (enc : TypeId × Value → H) :
    ReturnsInHanded {} Try.checked os 7 .any (Rows.fnNormsSpec.pre6 enc Try.prog Try.f7 Rows.fnNormsRow.domain false) (Rows.fnNormsSpec.post enc Try.prog Try.f7 false true false false) := by
  refine returnsInHanded_of_change (C := Try.checked) own started (by kernel_rfl) Try.func7
    (ChangeSpec.witness6 (enc := enc) (C := Try.checked) false ⟨#[], #[.slice none 0 0], []⟩ 8 (by kernel_rfl) (by kernel_rfl) (by kernel_rfl) (by kernel_rfl)) ?_
  intro W base args ds gs before hval0 hW hcnd _
  have hval : ∀ (j : Nat) t v, Try.f7.params[j]? = some t → args[j]? = some v → Value.okWide Try.prog W .any base t v := hval0
  have hW' := hW
  obtain ⟨p, q, hA0, hV, rfl, hfz, hnd⟩ := hW
  have hA : DataW.TrodAll enc Try.prog W 0 (fun _ => true) true Try.f7.params.toList args.toList ds p := hA0
  rw [Try.params7] at hA hval
  obtain ⟨v0, vs0, d0, ds0, p0, q0, hargs, rfl, rfl, h0, r0⟩ := trodAll_cons hA
  obtain ⟨rfl, rfl, rfl⟩ := trodAll_nil r0
  obtain rfl : args = #[v0] := by cases args; simp_all
  obtain ⟨rfl, rfl⟩ := trodVars_none hV
  have k0 := h0
  have lt0 : ∀ x ∈ p0, x.block < W.heap.size := by obtain ⟨m, hm⟩ := k0; exact DataW.trod_lt m _ _ _ hm
  obtain ⟨p_0, n_0, q_0, rfl, s0⟩ : ∃ p n q, v0 = .slice p n q ∧ (n ≤ 4096 → Bytes W W.heap.size p n) := by
    obtain ⟨a, len, cap, rfl⟩ := okWide_slice Try.underlying35 (hval 0 35 v0 rfl rfl)
    obtain ⟨fuel, hf⟩ := h0
    exact Bytes.came Try.underlying35 Try.underlying5 (by kernel_rfl) (by simpa [Value.cells] using hf)
  clear hA0 hval0
  refine (walk W p_0 n_0 q_0 s0).mono fun e W' ⟨he, bel⟩ => ?_
  subst he
  exact ⟨_, rfl, _, _, _, [], _, [], hW', trodAll_mk1 (shut_bool Try.underlying4 _), (trodAll_cons_mk (Below.trod laidOut (by kernel_rfl) (of_decide_eq_true (by kernel_rfl)) k0 bel lt0) trodAll_mk0), rfl, bel.frame _, fun h => by cases h⟩

theorem over : Rows.fnNormsRow.holds Try.pinned (OpenSpec.ofChange Rows.fnNormsSpec) :=
  OpenClaim.holds_of_wide 7 Try.f7 rfl rfl rfl rfl rfl rfl rfl ⟨rfl, rfl, rfl, rfl, rfl⟩ rfl rfl rfl rfl rfl (by kernel_rfl) Try.func7 (by unfold joinedFacts; exact (and_tt (and_tt (and_tt (and_tt (and_tt (and_tt (and_tt (and_tt (and_tt (and_tt (and_tt (and_tt (and_tt (and_tt (and_tt (and_tt (and_tt (and_tt (and_tt (and_tt (and_tt (and_tt (and_tt (and_tt (and_tt (and_tt (and_tt (and_tt (and_tt (and_tt (and_tt (by kernel_rfl) (by kernel_rfl)) (by kernel_rfl)) (by kernel_rfl)) (by kernel_rfl)) (by kernel_rfl)) (by kernel_rfl)) (by kernel_rfl)) (by kernel_rfl)) (by kernel_rfl)) (by kernel_rfl)) (by kernel_rfl)) (by kernel_rfl)) (by kernel_rfl)) (by kernel_rfl)) (by kernel_rfl)) (by kernel_rfl)) (by kernel_rfl)) (by kernel_rfl)) (by kernel_rfl)) (by kernel_rfl)) (by kernel_rfl)) (by kernel_rfl)) (by kernel_rfl)) (by kernel_rfl)) init_enter) (tt_lifts init_lifts rfl)) (tt_make init_make rfl)) (by kernel_rfl)) (by kernel_rfl)) (by kernel_rfl)) (by kernel_rfl)))
    (of_decide_eq_true (by kernel_rfl)) (by unfold Func.isWrapper; first | (rw [if_pos (by decide +kernel)]; kernel_rfl) | (rw [if_neg (by decide +kernel)]; exact ⟨rfl, rfl⟩))
    (fun os started H enc _ => lifted os started H enc)

theorem proved : Rows.FnNormsSaid := over
#print axioms proved
end fnNorms
end Go.Proofs.Ytdalahgfpbdilaa
