/- FnCharacterSums. -/
import Derived.Test.YtdalahgfpbdilaaPkA
import Derived.Test.YtdalahgfpbdilaaDom
import Derived.Test.YtdalahgfpbdilaaPkB
import Derived.Test.YtdalahgfpbdilaaInit
import Derived.Test.YtdalahgfpbdilaaCopy
import Derived.Deep.RegionHeld3
import Derived.Deep.DeepCutAuto
import Derived.Deep.CutRange
import Derived.ShutString
import Derived.ChangeOld
import Derived.Lib.SmallJoins
namespace Go.Proofs.Ytdalahgfpbdilaa
open Go.RowKit Go.ChangeShapes Go.Sort Go.WideShapes Go.ChangeAt
set_option linter.unusedVariables false
set_option linter.unusedSimpArgs false
namespace fnCharacterSums
theorem odd_all : ((List.range 62).all fun p => !primeN p || decide ((p - 1) % 2 = 0)) = true := by decide +kernel
theorem odd_ok {p : Nat} (hp : primeN p = true) : (p - 1) % 2 = 0 := of_decide_eq_true (prime_of odd_all hp)
theorem sum_any {o : Bool} {lo hi n : Nat} {v : Value} {f : Nat → Int} (w : World) (hs : Sl o w lo hi v n f) (hb : ∀ j, j < n → -1000000 ≤ f j ∧ f j ≤ 1000000) (hn : n ≤ 1000) :
    Calls Try.prog 58 #[v] w fun e w' => e = .returned (.int .i64 (sumN n f)) ∧ Below w.heap.size w w' := by
  obtain ⟨a, cap, rfl⟩ := hs.shape
  have HS := Lib.hid hs; clear hs
  have HB := Lib.hid hb; clear hb
  go_enter Try.func58, Try.ntmps58
  go_wp2
  go_loop [3, 4] (fun s3 s4 => ∃ k : Nat, k ≤ n ∧ s4 = .int .i64 k ∧ s3 = .int .i64 (sumN k f)) (fun _ s4 => n - (intOf s4).toNat)
  case atStart => exact ⟨0, Nat.zero_le _, rfl, rfl⟩
  case round =>
    obtain ⟨k, hk, rfl, rfl⟩ := hrel
    by_cases hlt : k < n
    · obtain ⟨g, off, c1, hv, _, _, _, _, hc, _⟩ := HS.out.at (by omega)
      obtain ⟨rfl, rfl⟩ : a = some ⟨g, off, none⟩ ∧ cap = c1 := by cases hv; exact ⟨rfl, rfl⟩
      have hck := hc k hlt
      have hbk := HB.out k hlt
      have hsb := sumN_bd (F := f) (B := 1000000) (by omega) k (fun i hi => HB.out i (by omega))
      have hE := Lib.hid (show sumN (k + 1) f = sumN k f + f k from rfl)
      clear hv hc
      generalize sumN k f = S at *
      generalize f k = y at *
      go_wp2
      go_round
      case rel => exact ⟨k + 1, by omega, by go_num, by rw [hE.out]⟩
      case measure => simp [intOf]; omega
    · obtain rfl : k = n := by omega
      go_wp2
      go_ret
      exact ⟨rfl, Below.refl _ _⟩
set_option maxRecDepth 100000 in
set_option maxHeartbeats 8000000 in
theorem walk (w : World) (p : Option Addr) (n q : Nat) (hb : n ≤ 4096 → Bytes w w.heap.size p n) :
    Calls Try.prog 6 #[.slice p n q] w fun e w' => e = .returned (.bool true) ∧ Below w.heap.size w w' := by
  by_cases hn : n ≤ 4096
  case neg =>
    go_enter Try.func6, Try.ntmps6
    go_wp2_with fail
    refine (big_yes _ _ _ _ (by omega)).mono ?_
    rintro e w1 ⟨rfl, b1⟩
    go_wp2
    go_ret
    exact ⟨rfl, b1⟩
  have by0 := hb hn
  clear hb
  have st0 := St.start w
  go_enter Try.func6, Try.ntmps6
  go_wp2_with fail
  refine (big_no _ _ _ _ hn).mono ?_
  rintro e w1 ⟨rfl, b_w1⟩
  have hz_w1 := b_w1.size
  try simp only [World.size_alloc] at hz_w1
  have st1 := st0.keep b_w1
  have by1 := by0.below b_w1
  clear st0 by0 b_w1
  go_wp2_with fail
  refine (DrawOrthogonalSum_any _ by1 (by (try simp only [World.size_alloc]); omega)).mono ?_
  rintro e w2 ⟨x_w2, y_w2, z_w2, xx_w2, yy_w2, zz_w2, rfl, hx_w2, hy_w2, hzz_w2, hx2_w2, hy2_w2, hz2_w2, b_w2⟩
  have hz_w2 := b_w2.size
  try simp only [World.size_alloc] at hz_w2
  have st2 := st1.keep b_w2
  have by2 := by1.below b_w2
  replace st2 := (st2.alloc (.cells #[.int .i64 x_w2, .int .i64 y_w2, .int .i64 z_w2] 38)).addBox _ [.int .i64 x_w2, .int .i64 y_w2, .int .i64 z_w2] (Box.made _ _ _ _ (fun j v h => by simpa using h))
  replace by2 := by2.below ((Below.refl _ _).alloc (Nat.le_refl _) (.cells #[.int .i64 x_w2, .int .i64 y_w2, .int .i64 z_w2] 38))
  replace st2 := (st2.alloc (.cells #[.int .i64 xx_w2, .int .i64 yy_w2, .int .i64 zz_w2] 38)).addBox _ [.int .i64 xx_w2, .int .i64 yy_w2, .int .i64 zz_w2] (Box.made _ _ _ _ (fun j v h => by simpa using h))
  simp only [World.size_alloc] at st2
  replace by2 := by2.below ((Below.refl _ _).alloc (Nat.le_refl _) (.cells #[.int .i64 xx_w2, .int .i64 yy_w2, .int .i64 zz_w2] 38))
  clear st1 by1 b_w2
  obtain ⟨Ro, No, Go, Co, hS, hI, hR⟩ := OrthogonalSum_two x_w2 y_w2 z_w2 xx_w2 yy_w2 zz_w2
  have HS := Lib.hid hS; have HI := Lib.hid hI; have HR_o := Lib.hid hR; clear hS hI hR
  obtain ⟨c_c_0, c_c_1, c_c_2⟩ := (st2.box 1 (w2.heap.size, [.int .i64 x_w2, .int .i64 y_w2, .int .i64 z_w2]) rfl).cell3
  try dsimp only at c_c_0 c_c_1 c_c_2
  obtain ⟨c_d_0, c_d_1, c_d_2⟩ := (st2.box 0 (w2.heap.size + 1, [.int .i64 xx_w2, .int .i64 yy_w2, .int .i64 zz_w2]) rfl).cell3
  try dsimp only at c_d_0 c_d_1 c_d_2
  go_wp2_with fail
  refine (HI.out _).mono ?_
  rintro e w3 ⟨a_w3, k_w3, rfl, s_w3, b_w3⟩
  have hz_w3 := b_w3.size
  try simp only [World.size_alloc] at hz_w3
  have st3 := st2.keep b_w3
  have by3 := by2.below b_w3
  try simp only [World.size_alloc] at s_w3
  replace st3 := st3.addSl ⟨true, w2.heap.size + 1 + 1, w3.heap.size, .slice a_w3 No k_w3, No, Go⟩ s_w3
  replace st3 := (st3.alloc (.cells #[.int .i64 Ro, .slice a_w3 No k_w3] 28)).addBox _ [.int .i64 Ro, .slice a_w3 No k_w3] (Box.made _ _ _ _ (fun j v h => by simpa using h))
  replace by3 := by3.below ((Below.refl _ _).alloc (Nat.le_refl _) (.cells #[.int .i64 Ro, .slice a_w3 No k_w3] 28))
  clear c_c_0 c_c_1 c_c_2 c_d_0 c_d_1 c_d_2 st2 by2 b_w3 s_w3
  obtain ⟨c_c_0, c_c_1, c_c_2⟩ := (st3.box 2 (w2.heap.size, [.int .i64 x_w2, .int .i64 y_w2, .int .i64 z_w2]) rfl).cell3
  try dsimp only at c_c_0 c_c_1 c_c_2
  obtain ⟨c_d_0, c_d_1, c_d_2⟩ := (st3.box 1 (w2.heap.size + 1, [.int .i64 xx_w2, .int .i64 yy_w2, .int .i64 zz_w2]) rfl).cell3
  try dsimp only at c_d_0 c_d_1 c_d_2
  go_wp2_with fail
  refine (HS.out _).mono ?_
  rintro e w4 ⟨a_w4, k_w4, rfl, s_w4, b_w4⟩
  have hz_w4 := b_w4.size
  try simp only [World.size_alloc] at hz_w4
  have st4 := st3.keep b_w4
  have by4 := by3.below b_w4
  try simp only [World.size_alloc] at s_w4
  replace st4 := st4.addSl ⟨true, w3.heap.size + 1, w4.heap.size, .slice a_w4 No k_w4, No, Go⟩ s_w4
  replace st4 := (st4.alloc (.cells #[.int .i64 Ro, .slice a_w4 No k_w4] 28)).addBox _ [.int .i64 Ro, .slice a_w4 No k_w4] (Box.made _ _ _ _ (fun j v h => by simpa using h))
  replace by4 := by4.below ((Below.refl _ _).alloc (Nat.le_refl _) (.cells #[.int .i64 Ro, .slice a_w4 No k_w4] 28))
  clear c_c_0 c_c_1 c_c_2 c_d_0 c_d_1 c_d_2 st3 by3 b_w4 s_w4
  clear HS HI
  obtain ⟨c_tot_0, c_tot_1⟩ := (st4.box 1 (w3.heap.size, [.int .i64 Ro, .slice a_w3 No k_w3]) rfl).cell2
  try dsimp only at c_tot_0 c_tot_1
  obtain ⟨c_want_0, c_want_1⟩ := (st4.box 0 (w4.heap.size, [.int .i64 Ro, .slice a_w4 No k_w4]) rfl).cell2
  try dsimp only at c_want_0 c_want_1
  have q_tot := st4.sl 1 ⟨true, w2.heap.size + 1 + 1, w3.heap.size, .slice a_w3 No k_w3, No, Go⟩ rfl
  try dsimp only at q_tot
  have q_want := st4.sl 0 ⟨true, w3.heap.size + 1, w4.heap.size, .slice a_w4 No k_w4, No, Go⟩ rfl
  try dsimp only at q_want
  go_wp2_with fail
  refine (cyclos5_yes _ _ q_tot q_want (fun _ _ => rfl)).mono ?_
  rintro e w5 ⟨rfl, b_w5⟩
  have hz_w5 := b_w5.size
  try simp only [World.size_alloc] at hz_w5
  have st5 := st4.keep b_w5
  have by5 := by4.below b_w5
  clear c_tot_0 c_tot_1 c_want_0 c_want_1 q_tot q_want st4 by4 b_w5
  go_upto_if 74 with fail
  go_cut [] (fun wx => St w wx [(w4.heap.size, [.int .i64 Ro, .slice a_w4 No k_w4]), (w3.heap.size, [.int .i64 Ro, .slice a_w3 No k_w3]), (w2.heap.size + 1, [.int .i64 xx_w2, .int .i64 yy_w2, .int .i64 zz_w2]), (w2.heap.size, [.int .i64 x_w2, .int .i64 y_w2, .int .i64 z_w2])] [⟨true, w3.heap.size + 1, w4.heap.size, .slice a_w4 No k_w4, No, Go⟩, ⟨true, w2.heap.size + 1 + 1, w3.heap.size, .slice a_w3 No k_w3, No, Go⟩] ∧ w5.heap.size ≤ wx.heap.size ∧ Bytes wx w.heap.size p n)
  case first => as_aux_lemma =>
    by_cases h1 : Co = 0
    case neg =>
      have e1 : (Co == 0) = false := by simpa using h1
      go_wp2_with fail; go_meet; exact ⟨st5, Nat.le_refl _, by5⟩
    case pos =>
      rcases HR_o.out with ⟨_, P, M, K, L, ic, id, eR, eN, eG⟩ | h
      case inr => exact absurd h1 h
      obtain ⟨ex, ey, ez, hp, hm1, hm2, hd, hk⟩ := ic
      obtain ⟨ex2, ey2, ez2, _, _, _, _, hl⟩ := id
      have hpb := primeN_bd hp
      have SF := Lib.hid (sf_ok hp hm1 hm2 hd (Nat.mod_lt (K + (M - L) % M) (by omega)))
      have hpp := phi_pos M (by omega) hm1
      have hp12 := phi_le12 M (by omega) hm1
      have hN0 : 0 < No := by omega
      have hN12 : No ≤ 12 := by omega
      have hxb : 3 ≤ x_w2 ∧ x_w2 ≤ 61 := by omega
      obtain ⟨due, hdue, hd1, hd2⟩ : ∃ due : Int, due = (if z_w2 = zz_w2 then x_w2 - 1 else 0) ∧ Go 0 = due ∧ sumN No Go = due := by
        refine ⟨_, rfl, ?_, ?_⟩
        · rw [eG, SF.out.1]; unfold sfW; by_cases e : K = L; (rw [if_pos ((orth_zero hk hl).2 e), if_pos (by omega), ex]); (rw [if_neg (fun h => e ((orth_zero hk hl).1 h)), if_neg (by omega)])
        · rw [eN, eG, SF.out.2.1]; unfold sfW; by_cases e : K = L; (rw [if_pos ((orth_zero hk hl).2 e), if_pos (by omega), ex]); (rw [if_neg (fun h => e ((orth_zero hk hl).1 h)), if_neg (by omega)])
      have HB : Hid (∀ j, j < No → -1000000 ≤ Go j ∧ Go j ≤ 1000000) := Lib.hid (fun j hj => by rw [eG]; have := SF.out.2.2 j (by omega); omega)
      have HD2 := Lib.hid hd2; have HDU := Lib.hid hdue
      have hdb : 0 ≤ due ∧ due ≤ 60 := by rw [hdue]; split <;> omega
      clear eR eN eG ex ey ez ex2 ey2 ez2 hd hp hd2 hdue SF
      obtain ⟨c_c_0, c_c_1, c_c_2⟩ := (st5.box 3 (w2.heap.size, [.int .i64 x_w2, .int .i64 y_w2, .int .i64 z_w2]) rfl).cell3
      try dsimp only at c_c_0 c_c_1 c_c_2
      obtain ⟨c_d_0, c_d_1, c_d_2⟩ := (st5.box 2 (w2.heap.size + 1, [.int .i64 xx_w2, .int .i64 yy_w2, .int .i64 zz_w2]) rfl).cell3
      try dsimp only at c_d_0 c_d_1 c_d_2
      obtain ⟨c_tot_0, c_tot_1⟩ := (st5.box 1 (w3.heap.size, [.int .i64 Ro, .slice a_w3 No k_w3]) rfl).cell2
      try dsimp only at c_tot_0 c_tot_1
      have q_tot := st5.sl 1 ⟨true, w2.heap.size + 1 + 1, w3.heap.size, .slice a_w3 No k_w3, No, Go⟩ rfl
      try dsimp only at q_tot
      obtain ⟨g, off, cap, hv, _, hg, _, _, hc, _⟩ := q_tot.at hN0
      obtain ⟨rfl, rfl⟩ : a_w3 = some ⟨g, off, none⟩ ∧ k_w3 = cap := by cases hv; exact ⟨rfl, rfl⟩
      have cz := hc 0 hN0
      rw [Nat.add_zero, hd1] at cz
      have HQ := Lib.hid q_tot
      clear hv hc hd1 q_tot
      have hNI : (0 : Int) < (No : Int) := by omega
      subst h1
      by_cases hkl : z_w2 = zz_w2
      case pos =>
        have ekl : (z_w2 == zz_w2) = true := by rw [beq_iff_eq]; exact hkl
        have edu : due = x_w2 - 1 := by rw [HDU.out]; rw [if_pos hkl]
        clear hkl
        have HSM := Lib.hid (HD2.out.trans edu)
        subst edu
        go_wp2_with (go_at_call 58; refine (sum_any _ HQ.out HB.out (by omega)).mono ?_; rw [HSM.out]; rintro e w90 ⟨rfl, b90⟩)
        go_meet; exact ⟨st5.keep b90, b90.size, by5.below b90⟩
      case neg =>
        have ekl : (z_w2 == zz_w2) = false := by rw [beq_eq_false_iff_ne]; exact hkl
        have edu : due = 0 := by rw [HDU.out]; rw [if_neg hkl]
        clear hkl
        have HSM := Lib.hid (HD2.out.trans edu)
        subst edu
        go_wp2_with (go_at_call 58; refine (sum_any _ HQ.out HB.out (by omega)).mono ?_; rw [HSM.out]; rintro e w90 ⟨rfl, b90⟩)
        go_meet; exact ⟨st5.keep b90, b90.size, by5.below b90⟩
  case rest => as_aux_lemma =>
    obtain ⟨st100, hz100, by100⟩ := hcut
    obtain ⟨w100, hw100⟩ : ∃ z : World, z = wc := ⟨_, rfl⟩
    subst hw100
    go_wp2_with fail
    refine (DrawSumWith_any _ by100 (by (try simp only [World.size_alloc]); omega)).mono ?_
    rintro e w6 ⟨a_w6, L_w6, k_w6, g_w6, lo_w6, hi_w6, x_w6, y_w6, z_w6, rfl, hL_w6, s_w6, hlo_w6, hx_w6, hy_w6, hzz_w6, b_w6⟩
    have hz_w6 := b_w6.size
    try simp only [World.size_alloc] at hz_w6
    have st106 := st100.keep b_w6
    have by106 := by100.below b_w6
    try simp only [World.size_alloc] at s_w6
    have hsz_t := s_w6.size
    replace st106 := st106.addSl ⟨false, lo_w6, hi_w6, .slice a_w6 L_w6 k_w6, L_w6, g_w6⟩ s_w6
    replace st106 := (st106.alloc (.cells #[.int .i64 x_w6, .int .i64 y_w6, .int .i64 z_w6] 38)).addBox _ [.int .i64 x_w6, .int .i64 y_w6, .int .i64 z_w6] (Box.made _ _ _ _ (fun j v h => by simpa using h))
    replace by106 := by106.below ((Below.refl _ _).alloc (Nat.le_refl _) (.cells #[.int .i64 x_w6, .int .i64 y_w6, .int .i64 z_w6] 38))
    clear st100 by100 b_w6 s_w6
    obtain ⟨Rw, Nw, Gw, Cw, hS, hI, hR⟩ := SumWith_two L_w6 g_w6 x_w6 y_w6 z_w6
    have HS := Lib.hid hS; have HI := Lib.hid hI; have HR_w := Lib.hid hR; clear hS hI hR
    obtain ⟨c_e_0, c_e_1, c_e_2⟩ := (st106.box 0 (w6.heap.size, [.int .i64 x_w6, .int .i64 y_w6, .int .i64 z_w6]) rfl).cell3
    try dsimp only at c_e_0 c_e_1 c_e_2
    have q_t := st106.sl 0 ⟨false, lo_w6, hi_w6, .slice a_w6 L_w6 k_w6, L_w6, g_w6⟩ rfl
    try dsimp only at q_t
    go_wp2_with fail
    refine (HI.out _ _ _ _ _ q_t).mono ?_
    rintro e w7 ⟨a_w7, k_w7, rfl, s_w7, b_w7⟩
    have hz_w7 := b_w7.size
    try simp only [World.size_alloc] at hz_w7
    have st107 := st106.keep b_w7
    have by107 := by106.below b_w7
    try simp only [World.size_alloc] at s_w7
    replace st107 := st107.addSl ⟨true, w6.heap.size + 1, w7.heap.size, .slice a_w7 Nw k_w7, Nw, Gw⟩ s_w7
    replace st107 := (st107.alloc (.cells #[.int .i64 Rw, .slice a_w7 Nw k_w7] 28)).addBox _ [.int .i64 Rw, .slice a_w7 Nw k_w7] (Box.made _ _ _ _ (fun j v h => by simpa using h))
    replace by107 := by107.below ((Below.refl _ _).alloc (Nat.le_refl _) (.cells #[.int .i64 Rw, .slice a_w7 Nw k_w7] 28))
    clear c_e_0 c_e_1 c_e_2 q_t st106 by106 b_w7 s_w7
    obtain ⟨c_e_0, c_e_1, c_e_2⟩ := (st107.box 1 (w6.heap.size, [.int .i64 x_w6, .int .i64 y_w6, .int .i64 z_w6]) rfl).cell3
    try dsimp only at c_e_0 c_e_1 c_e_2
    have q_t := st107.sl 1 ⟨false, lo_w6, hi_w6, .slice a_w6 L_w6 k_w6, L_w6, g_w6⟩ rfl
    try dsimp only at q_t
    go_wp2_with fail
    refine (HS.out _ _ _ _ _ q_t).mono ?_
    rintro e w8 ⟨a_w8, k_w8, rfl, s_w8, b_w8⟩
    have hz_w8 := b_w8.size
    try simp only [World.size_alloc] at hz_w8
    have st108 := st107.keep b_w8
    have by108 := by107.below b_w8
    try simp only [World.size_alloc] at s_w8
    replace st108 := st108.addSl ⟨true, w7.heap.size + 1, w8.heap.size, .slice a_w8 Nw k_w8, Nw, Gw⟩ s_w8
    replace st108 := (st108.alloc (.cells #[.int .i64 Rw, .slice a_w8 Nw k_w8] 28)).addBox _ [.int .i64 Rw, .slice a_w8 Nw k_w8] (Box.made _ _ _ _ (fun j v h => by simpa using h))
    replace by108 := by108.below ((Below.refl _ _).alloc (Nat.le_refl _) (.cells #[.int .i64 Rw, .slice a_w8 Nw k_w8] 28))
    clear c_e_0 c_e_1 c_e_2 q_t st107 by107 b_w8 s_w8
    clear HS HI
    obtain ⟨c_val_0, c_val_1⟩ := (st108.box 1 (w7.heap.size, [.int .i64 Rw, .slice a_w7 Nw k_w7]) rfl).cell2
    try dsimp only at c_val_0 c_val_1
    obtain ⟨c_own_0, c_own_1⟩ := (st108.box 0 (w8.heap.size, [.int .i64 Rw, .slice a_w8 Nw k_w8]) rfl).cell2
    try dsimp only at c_own_0 c_own_1
    have q_val := st108.sl 1 ⟨true, w6.heap.size + 1, w7.heap.size, .slice a_w7 Nw k_w7, Nw, Gw⟩ rfl
    try dsimp only at q_val
    have q_own := st108.sl 0 ⟨true, w7.heap.size + 1, w8.heap.size, .slice a_w8 Nw k_w8, Nw, Gw⟩ rfl
    try dsimp only at q_own
    go_wp2_with fail
    refine (cyclos5_yes _ _ q_val q_own (fun _ _ => rfl)).mono ?_
    rintro e w9 ⟨rfl, b_w9⟩
    have hz_w9 := b_w9.size
    try simp only [World.size_alloc] at hz_w9
    have st109 := st108.keep b_w9
    have by109 := by108.below b_w9
    clear c_val_0 c_val_1 c_own_0 c_own_1 q_val q_own st108 by108 b_w9
    go_upto_if 123 with fail
    go_cut [] (fun wx => St w wx [(w8.heap.size, [.int .i64 Rw, .slice a_w8 Nw k_w8]), (w7.heap.size, [.int .i64 Rw, .slice a_w7 Nw k_w7]), (w6.heap.size, [.int .i64 x_w6, .int .i64 y_w6, .int .i64 z_w6]), (w4.heap.size, [.int .i64 Ro, .slice a_w4 No k_w4]), (w3.heap.size, [.int .i64 Ro, .slice a_w3 No k_w3]), (w2.heap.size + 1, [.int .i64 xx_w2, .int .i64 yy_w2, .int .i64 zz_w2]), (w2.heap.size, [.int .i64 x_w2, .int .i64 y_w2, .int .i64 z_w2])] [⟨true, w7.heap.size + 1, w8.heap.size, .slice a_w8 Nw k_w8, Nw, Gw⟩, ⟨true, w6.heap.size + 1, w7.heap.size, .slice a_w7 Nw k_w7, Nw, Gw⟩, ⟨false, lo_w6, hi_w6, .slice a_w6 L_w6 k_w6, L_w6, g_w6⟩, ⟨true, w3.heap.size + 1, w4.heap.size, .slice a_w4 No k_w4, No, Go⟩, ⟨true, w2.heap.size + 1 + 1, w3.heap.size, .slice a_w3 No k_w3, No, Go⟩] ∧ w9.heap.size ≤ wx.heap.size ∧ Bytes wx w.heap.size p n)
    case first => as_aux_lemma =>
      by_cases h1 : Cw = 0
      case neg =>
        have e1 : (Cw == 0) = false := by simpa using h1
        go_wp2_with fail; go_meet; exact ⟨st109, Nat.le_refl _, by109⟩
      case pos =>
        rcases HR_w.out with ⟨_, P, M, K, ic, eL, eR, eN, eG⟩ | h
        case inr => exact absurd h1 h
        obtain ⟨rfl, rfl, rfl, hp, hm1, hm2, hd, hk⟩ := ic
        subst eL
        have hpb := primeN_bd hp
        have HP := Lib.hid hp; have HD := Lib.hid hd; clear hp hd eR eN eG
        subst h1
        have hmk := run_make_row' (P := Try.prog) 22 2 (.int .i64 0) 8 Try.underlying22 Try.info2 rfl .i64 .i64 L_w6 (by omega) (by omega)
        have q0 := Sl.made w9 (madeCells #[.int .i64 0] L_w6) 2 L_w6 L_w6 (fun _ => 0) (Nat.le_refl _) (by unfold maxLen; omega) (fun j hj => by simp [inR]) (fun j hj => by simp [madeCells_at _ _ _ hj])
        have HQ := Lib.hid q0
        have HST := Lib.hid (st109.alloc (.cells (madeCells #[.int .i64 0] L_w6) 2))
        have HBY := Lib.hid (by109.below ((Below.refl _ _).alloc (Nat.le_refl _) (.cells (madeCells #[.int .i64 0] L_w6) 2)))
        clear q0
        go_wp2
        go_loopw [17] (fun s17 wr => ∃ k : Nat, k ≤ L_w6 ∧ s17 = .int .i64 k ∧ Sl true wr w9.heap.size (w9.heap.size + 1) (.slice (some ⟨w9.heap.size, 0, none⟩) L_w6 L_w6) L_w6 (fun j => if j < k then 1 else 0) ∧ St w wr [(w8.heap.size, [.int .i64 Rw, .slice a_w8 Nw k_w8]), (w7.heap.size, [.int .i64 Rw, .slice a_w7 Nw k_w7]), (w6.heap.size, [.int .i64 (L_w6 : Int), .int .i64 (M : Int), .int .i64 (K : Int)]), (w4.heap.size, [.int .i64 Ro, .slice a_w4 No k_w4]), (w3.heap.size, [.int .i64 Ro, .slice a_w3 No k_w3]), (w2.heap.size + 1, [.int .i64 xx_w2, .int .i64 yy_w2, .int .i64 zz_w2]), (w2.heap.size, [.int .i64 x_w2, .int .i64 y_w2, .int .i64 z_w2])] [⟨true, w7.heap.size + 1, w8.heap.size, .slice a_w8 Nw k_w8, Nw, Gw⟩, ⟨true, w6.heap.size + 1, w7.heap.size, .slice a_w7 Nw k_w7, Nw, Gw⟩, ⟨false, lo_w6, hi_w6, .slice a_w6 L_w6 k_w6, L_w6, g_w6⟩, ⟨true, w3.heap.size + 1, w4.heap.size, .slice a_w4 No k_w4, No, Go⟩, ⟨true, w2.heap.size + 1 + 1, w3.heap.size, .slice a_w3 No k_w3, No, Go⟩] ∧ Bytes wr w.heap.size p n ∧ w9.heap.size + 1 ≤ wr.heap.size) (fun s17 _ => L_w6 - (intOf s17).toNat)
        case atStart => exact ⟨0, Nat.zero_le _, rfl, HQ.out.congr (fun j hj => by simp), HST.out, HBY.out, by simp⟩
        case round =>
          clear HQ HST HBY hmk
          obtain ⟨k, hk', rfl, hsl, hst, hby, hzr⟩ := hrel
          by_cases hlt : k < L_w6
          case pos =>
            have hltI : (k : Int) < (L_w6 : Int) := by omega
            obtain ⟨_, _, _, hcc, hff⟩ := hsl.known (by omega)
            have hck := hcc k hlt
            have hfr := hff rfl k
            rw [Nat.zero_add] at hck
            try dsimp only at hck
            rw [if_neg (Nat.lt_irrefl k)] at hck
            have HSL := Lib.hid hsl; have HT := Lib.hid hst; have HY := Lib.hid hby; clear hcc hff hsl hst hby
            have FR : Frame w9.heap.size (w9.heap.size + 1) wr (wr.setCell ⟨w9.heap.size, k, none⟩ (.int .i64 1)) := (Frame.refl _ _ _).set (Nat.le_refl _) (Nat.lt_succ_self _) _
            have HFR := Lib.hid FR; clear FR
            go_wp2
            go_roundw
            case rel =>
              refine ⟨k + 1, by omega, by go_num, ?_, HT.out.write HFR.out (by omega) (by intro b hb; simp only [List.mem_cons, List.not_mem_nil, or_false] at hb; rcases hb with rfl | rfl | rfl | rfl | rfl | rfl | rfl <;> exact .inl (by dsimp only; omega)) (by intro s hs; simp only [List.mem_cons, List.not_mem_nil, or_false] at hs; rcases hs with rfl | rfl | rfl | rfl | rfl <;> exact .inl (by dsimp only; omega)), HY.out.frameG HFR.out (by omega), by simp only [World.size_setCell]; omega⟩
              exact (HSL.out.store0 (i := k) (x := 1) (by omega) (by unfold inR; omega)).congr (fun j hj => by (try dsimp only); by_cases e : j = k; (subst e; simp); (by_cases e2 : j < k; (rw [if_pos (by omega), if_neg e, if_pos e2]); (rw [if_neg (by omega), if_neg e, if_neg e2])))
            case measure => simp [intOf]; omega
          case neg =>
            obtain rfl : k = L_w6 := by omega
            have hone := hsl.congr (f' := fun _ => 1) (fun j hj => by (try dsimp only); rw [if_pos hj])
            replace hst := hst.addSl ⟨true, w9.heap.size, w9.heap.size + 1, .slice (some ⟨w9.heap.size, 0, none⟩) k k, k, fun _ => 1⟩ hone
            have HS1 := Lib.hid (fun (w : World) (o : Bool) (lo hi : Nat) (v : Value) (hs : Sl o w lo hi v k (fun _ => 1)) => SumWith_impl_ok k M K HP.out hm1 hm2 HD.out hk w hs (fun j _ => by (try dsimp only); omega))
            have HS2 := Lib.hid (fun w => SumOfCharacter_impl_ok k M K HP.out hm1 hm2 HD.out hk w)
            clear hsl hone
            obtain ⟨c_e_0, c_e_1, c_e_2⟩ := (hst.box 2 (w6.heap.size, [.int .i64 (k : Int), .int .i64 (M : Int), .int .i64 (K : Int)]) rfl).cell3
            try dsimp only at c_e_0 c_e_1 c_e_2
            have q_ones := hst.sl 0 ⟨true, w9.heap.size, w9.heap.size + 1, .slice (some ⟨w9.heap.size, 0, none⟩) k k, k, fun _ => 1⟩ rfl
            try dsimp only at q_ones
            go_wp2_with fail
            refine (HS1.out _ _ _ _ _ q_ones).mono ?_
            rintro e w10 ⟨a_w10, k_w10, rfl, s_w10, b_w10⟩
            have hz_w10 := b_w10.size
            try simp only [World.size_alloc] at hz_w10
            have st130 := hst.keep b_w10
            have by130 := hby.below b_w10
            try simp only [World.size_alloc] at s_w10
            replace st130 := st130.addSl ⟨true, wr.heap.size, w10.heap.size, .slice a_w10 (phiN M) k_w10, (phiN M), (sumZ k M K (fun _ => 1) k)⟩ s_w10
            replace st130 := (st130.alloc (.cells #[.int .i64 (M : Int), .slice a_w10 (phiN M) k_w10] 28)).addBox _ [.int .i64 (M : Int), .slice a_w10 (phiN M) k_w10] (Box.made _ _ _ _ (fun j v h => by simpa using h))
            replace by130 := by130.below ((Below.refl _ _).alloc (Nat.le_refl _) (.cells #[.int .i64 (M : Int), .slice a_w10 (phiN M) k_w10] 28))
            clear c_e_0 c_e_1 c_e_2 q_ones hst hby b_w10 s_w10
            obtain ⟨c_e_0, c_e_1, c_e_2⟩ := (st130.box 3 (w6.heap.size, [.int .i64 (k : Int), .int .i64 (M : Int), .int .i64 (K : Int)]) rfl).cell3
            try dsimp only at c_e_0 c_e_1 c_e_2
            go_wp2_with fail
            refine (HS2.out _).mono ?_
            rintro e w11 ⟨a_w11, k_w11, rfl, s_w11, b_w11⟩
            have hz_w11 := b_w11.size
            try simp only [World.size_alloc] at hz_w11
            have st131 := st130.keep b_w11
            have by131 := by130.below b_w11
            try simp only [World.size_alloc] at s_w11
            replace st131 := st131.addSl ⟨true, w10.heap.size + 1, w11.heap.size, .slice a_w11 (phiN M) k_w11, (phiN M), (sumZ k M K (fun _ => 1) k)⟩ s_w11
            replace st131 := (st131.alloc (.cells #[.int .i64 (M : Int), .slice a_w11 (phiN M) k_w11] 28)).addBox _ [.int .i64 (M : Int), .slice a_w11 (phiN M) k_w11] (Box.made _ _ _ _ (fun j v h => by simpa using h))
            replace by131 := by131.below ((Below.refl _ _).alloc (Nat.le_refl _) (.cells #[.int .i64 (M : Int), .slice a_w11 (phiN M) k_w11] 28))
            clear c_e_0 c_e_1 c_e_2 st130 by130 b_w11 s_w11
            obtain ⟨c_one1_0, c_one1_1⟩ := (st131.box 1 (w10.heap.size, [.int .i64 (M : Int), .slice a_w10 (phiN M) k_w10]) rfl).cell2
            try dsimp only at c_one1_0 c_one1_1
            obtain ⟨c_two1_0, c_two1_1⟩ := (st131.box 0 (w11.heap.size, [.int .i64 (M : Int), .slice a_w11 (phiN M) k_w11]) rfl).cell2
            try dsimp only at c_two1_0 c_two1_1
            have q_one1 := st131.sl 1 ⟨true, wr.heap.size, w10.heap.size, .slice a_w10 (phiN M) k_w10, (phiN M), (sumZ k M K (fun _ => 1) k)⟩ rfl
            try dsimp only at q_one1
            have q_two1 := st131.sl 0 ⟨true, w10.heap.size + 1, w11.heap.size, .slice a_w11 (phiN M) k_w11, (phiN M), (sumZ k M K (fun _ => 1) k)⟩ rfl
            try dsimp only at q_two1
            go_wp2_with fail
            refine (cyclos5_yes _ _ q_one1 q_two1 (fun _ _ => rfl)).mono ?_
            rintro e w12 ⟨rfl, b_w12⟩
            have hz_w12 := b_w12.size
            try simp only [World.size_alloc] at hz_w12
            have st132 := st131.keep b_w12
            have by132 := by131.below b_w12
            clear c_one1_0 c_one1_1 c_two1_0 c_two1_1 q_one1 q_two1 st131 by131 b_w12
            have stz : St w w12 [(w8.heap.size, [.int .i64 Rw, .slice a_w8 Nw k_w8]), (w7.heap.size, [.int .i64 Rw, .slice a_w7 Nw k_w7]), (w6.heap.size, [.int .i64 (k : Int), .int .i64 (M : Int), .int .i64 (K : Int)]), (w4.heap.size, [.int .i64 Ro, .slice a_w4 No k_w4]), (w3.heap.size, [.int .i64 Ro, .slice a_w3 No k_w3]), (w2.heap.size + 1, [.int .i64 xx_w2, .int .i64 yy_w2, .int .i64 zz_w2]), (w2.heap.size, [.int .i64 x_w2, .int .i64 y_w2, .int .i64 z_w2])] [⟨true, w7.heap.size + 1, w8.heap.size, .slice a_w8 Nw k_w8, Nw, Gw⟩, ⟨true, w6.heap.size + 1, w7.heap.size, .slice a_w7 Nw k_w7, Nw, Gw⟩, ⟨false, lo_w6, hi_w6, .slice a_w6 k k_w6, k, g_w6⟩, ⟨true, w3.heap.size + 1, w4.heap.size, .slice a_w4 No k_w4, No, Go⟩, ⟨true, w2.heap.size + 1 + 1, w3.heap.size, .slice a_w3 No k_w3, No, Go⟩] := ⟨st132.1, fun b hb => st132.2.1 b (List.mem_cons_of_mem _ (List.mem_cons_of_mem _ hb)), fun s hs => st132.2.2 s (List.mem_cons_of_mem _ (List.mem_cons_of_mem _ (List.mem_cons_of_mem _ hs)))⟩
            go_wp2_with fail; go_meet; exact ⟨stz, by omega, by132⟩
    case rest => as_aux_lemma =>
      obtain ⟨st200, hz200, by200⟩ := hcut
      obtain ⟨w200, hw200⟩ : ∃ z : World, z = wc := ⟨_, rfl⟩
      subst hw200
      go_wp2_with fail
      refine (DrawLegendreSymbol_any _ by200 (by (try simp only [World.size_alloc]); omega)).mono ?_
      rintro e w10 ⟨r_w10, s_w10, rfl, hr_w10, hs_w10, b_w10⟩
      have hz_w10 := b_w10.size
      try simp only [World.size_alloc] at hz_w10
      have st210 := st200.keep b_w10
      have by210 := by200.below b_w10
      clear st200 by200 b_w10
      obtain ⟨Al, Cl, hS, hI, hR⟩ := LegendreSymbol_two r_w10 s_w10
      have HS := Lib.hid hS; have HI := Lib.hid hI; have HR_l := Lib.hid hR; clear hS hI hR
      go_wp2_with fail
      refine (HI.out _).mono ?_
      rintro e w11 ⟨rfl, b_w11⟩
      have hz_w11 := b_w11.size
      try simp only [World.size_alloc] at hz_w11
      have st211 := st210.keep b_w11
      have by211 := by210.below b_w11
      clear st210 by210 b_w11
      go_wp2_with fail
      refine (HS.out _).mono ?_
      rintro e w12 ⟨rfl, b_w12⟩
      have hz_w12 := b_w12.size
      try simp only [World.size_alloc] at hz_w12
      have st212 := st211.keep b_w12
      have by212 := by211.below b_w12
      clear st211 by211 b_w12
      clear HS HI
      go_upto_if 185 with fail
      go_cut [] (fun wx => St w wx [(w8.heap.size, [.int .i64 Rw, .slice a_w8 Nw k_w8]), (w7.heap.size, [.int .i64 Rw, .slice a_w7 Nw k_w7]), (w6.heap.size, [.int .i64 x_w6, .int .i64 y_w6, .int .i64 z_w6]), (w4.heap.size, [.int .i64 Ro, .slice a_w4 No k_w4]), (w3.heap.size, [.int .i64 Ro, .slice a_w3 No k_w3]), (w2.heap.size + 1, [.int .i64 xx_w2, .int .i64 yy_w2, .int .i64 zz_w2]), (w2.heap.size, [.int .i64 x_w2, .int .i64 y_w2, .int .i64 z_w2])] [⟨true, w7.heap.size + 1, w8.heap.size, .slice a_w8 Nw k_w8, Nw, Gw⟩, ⟨true, w6.heap.size + 1, w7.heap.size, .slice a_w7 Nw k_w7, Nw, Gw⟩, ⟨false, lo_w6, hi_w6, .slice a_w6 L_w6 k_w6, L_w6, g_w6⟩, ⟨true, w3.heap.size + 1, w4.heap.size, .slice a_w4 No k_w4, No, Go⟩, ⟨true, w2.heap.size + 1 + 1, w3.heap.size, .slice a_w3 No k_w3, No, Go⟩] ∧ w12.heap.size ≤ wx.heap.size ∧ Bytes wx w.heap.size p n)
      case first => as_aux_lemma =>
        by_cases h1 : Cl = 0
        case neg =>
          have e1 : (Cl == 0) = false := by simpa using h1
          go_wp2_with fail; go_meet; exact ⟨st212, Nat.le_refl _, by212⟩
        case pos =>
          rcases HR_l.out with ⟨_, P, eP, hp, ht1, ht2, eA⟩ | h
          case inr => exact absurd h1 h
          have hpb := primeN_bd hp
          have hrs := (restN_eq P (by omega) s_w10).2.1
          have HA := Lib.hid (eA.trans (leg_at hp hrs))
          have HC := Lib.hid (show ∀ w : World, Calls Try.prog 33 #[.agg #[.int .i64 r_w10, .int .i64 2, .int .i64 1], .int .i64 s_w10] w fun e w' => ∃ a cap, e = .returned (.tuple #[.agg #[.int .i64 2, .slice a (phiN 2) cap], .int .i64 0]) ∧ Sl true w' w.heap.size w'.heap.size (.slice a (phiN 2) cap) (phiN 2) (atP P 2 1 s_w10) ∧ Below w.heap.size w w' from fun w => by rw [eP]; exact CharacterAt_impl_ok P 2 1 s_w10 hp (by omega) (by omega) (odd_ok hp) (by omega) ht1 ht2 w)
          clear eP hp eA hrs
          subst h1
          have h20 : 0 < phiN 2 := by decide +kernel
          go_wp2_with fail
          refine (HC.out _).mono ?_
          rintro e w13 ⟨a_w13, k_w13, rfl, s_w13, b_w13⟩
          have hz_w13 := b_w13.size
          try simp only [World.size_alloc] at hz_w13
          have st213 := st212.keep b_w13
          have by213 := by212.below b_w13
          try simp only [World.size_alloc] at s_w13
          replace st213 := st213.addSl ⟨true, w12.heap.size, w13.heap.size, .slice a_w13 (phiN 2) k_w13, (phiN 2), (atP P 2 1 s_w10)⟩ s_w13
          replace st213 := (st213.alloc (.cells #[.int .i64 2, .slice a_w13 (phiN 2) k_w13] 28)).addBox _ [.int .i64 2, .slice a_w13 (phiN 2) k_w13] (Box.made _ _ _ _ (fun j v h => by simpa using h))
          replace by213 := by213.below ((Below.refl _ _).alloc (Nat.le_refl _) (.cells #[.int .i64 2, .slice a_w13 (phiN 2) k_w13] 28))
          clear st212 by212 b_w13 s_w13
          obtain ⟨c_va_0, c_va_1⟩ := (st213.box 0 (w13.heap.size, [.int .i64 2, .slice a_w13 (phiN 2) k_w13]) rfl).cell2
          try dsimp only at c_va_0 c_va_1
          have q_va := st213.sl 0 ⟨true, w12.heap.size, w13.heap.size, .slice a_w13 (phiN 2) k_w13, (phiN 2), (atP P 2 1 s_w10)⟩ rfl
          try dsimp only at q_va
          obtain ⟨g, off, cap, hv, _, hg, _, _, hc, _⟩ := q_va.at h20
          obtain ⟨rfl, rfl⟩ : a_w13 = some ⟨g, off, none⟩ ∧ k_w13 = cap := by cases hv; exact ⟨rfl, rfl⟩
          have cz := hc 0 h20
          rw [Nat.add_zero, ← HA.out] at cz
          have hNI : (0 : Int) < (phiN 2 : Int) := by omega
          have stz : St w (w13.alloc (.cells #[.int .i64 2, .slice (some ⟨g, off, none⟩) (phiN 2) k_w13] 28)) _ _ := ⟨st213.1, fun b hb => st213.2.1 b (List.mem_cons_of_mem _ hb), fun s hs => st213.2.2 s (List.mem_cons_of_mem _ hs)⟩
          have STZ := Lib.hid stz
          have BYZ := Lib.hid by213
          clear hv hc stz q_va
          go_wp2_with fail; go_meet; exact ⟨STZ.out, by (try simp only [World.size_alloc]); omega, BYZ.out⟩
      case rest => as_aux_lemma =>
        obtain ⟨st300, hz300, by300⟩ := hcut
        obtain ⟨w300, hw300⟩ : ∃ z : World, z = wc := ⟨_, rfl⟩
        subst hw300
        go_wp2_with fail
        refine (DrawSumOfCharacter_any _ by300 (by (try simp only [World.size_alloc]); omega)).mono ?_
        rintro e w13 ⟨x_w13, y_w13, z_w13, rfl, hx_w13, hy_w13, hzz_w13, b_w13⟩
        have hz_w13 := b_w13.size
        try simp only [World.size_alloc] at hz_w13
        have st313 := st300.keep b_w13
        have by313 := by300.below b_w13
        replace st313 := (st313.alloc (.cells #[.int .i64 x_w13, .int .i64 y_w13, .int .i64 z_w13] 38)).addBox _ [.int .i64 x_w13, .int .i64 y_w13, .int .i64 z_w13] (Box.made _ _ _ _ (fun j v h => by simpa using h))
        replace by313 := by313.below ((Below.refl _ _).alloc (Nat.le_refl _) (.cells #[.int .i64 x_w13, .int .i64 y_w13, .int .i64 z_w13] 38))
        clear st300 by300 b_w13
        obtain ⟨Rf, Nf, Gf, Cf, hS, hI, hR⟩ := SumOfCharacter_two x_w13 y_w13 z_w13
        have HS := Lib.hid hS; have HI := Lib.hid hI; have HR_f := Lib.hid hR; clear hS hI hR
        obtain ⟨c_f_0, c_f_1, c_f_2⟩ := (st313.box 0 (w13.heap.size, [.int .i64 x_w13, .int .i64 y_w13, .int .i64 z_w13]) rfl).cell3
        try dsimp only at c_f_0 c_f_1 c_f_2
        go_wp2_with fail
        refine (HI.out _).mono ?_
        rintro e w14 ⟨a_w14, k_w14, rfl, s_w14, b_w14⟩
        have hz_w14 := b_w14.size
        try simp only [World.size_alloc] at hz_w14
        have st314 := st313.keep b_w14
        have by314 := by313.below b_w14
        try simp only [World.size_alloc] at s_w14
        replace st314 := st314.addSl ⟨true, w13.heap.size + 1, w14.heap.size, .slice a_w14 Nf k_w14, Nf, Gf⟩ s_w14
        replace st314 := (st314.alloc (.cells #[.int .i64 Rf, .slice a_w14 Nf k_w14] 28)).addBox _ [.int .i64 Rf, .slice a_w14 Nf k_w14] (Box.made _ _ _ _ (fun j v h => by simpa using h))
        replace by314 := by314.below ((Below.refl _ _).alloc (Nat.le_refl _) (.cells #[.int .i64 Rf, .slice a_w14 Nf k_w14] 28))
        clear c_f_0 c_f_1 c_f_2 st313 by313 b_w14 s_w14
        obtain ⟨c_f_0, c_f_1, c_f_2⟩ := (st314.box 1 (w13.heap.size, [.int .i64 x_w13, .int .i64 y_w13, .int .i64 z_w13]) rfl).cell3
        try dsimp only at c_f_0 c_f_1 c_f_2
        go_wp2_with fail
        refine (HS.out _).mono ?_
        rintro e w15 ⟨a_w15, k_w15, rfl, s_w15, b_w15⟩
        have hz_w15 := b_w15.size
        try simp only [World.size_alloc] at hz_w15
        have st315 := st314.keep b_w15
        have by315 := by314.below b_w15
        try simp only [World.size_alloc] at s_w15
        replace st315 := st315.addSl ⟨true, w14.heap.size + 1, w15.heap.size, .slice a_w15 Nf k_w15, Nf, Gf⟩ s_w15
        replace st315 := (st315.alloc (.cells #[.int .i64 Rf, .slice a_w15 Nf k_w15] 28)).addBox _ [.int .i64 Rf, .slice a_w15 Nf k_w15] (Box.made _ _ _ _ (fun j v h => by simpa using h))
        replace by315 := by315.below ((Below.refl _ _).alloc (Nat.le_refl _) (.cells #[.int .i64 Rf, .slice a_w15 Nf k_w15] 28))
        clear c_f_0 c_f_1 c_f_2 st314 by314 b_w15 s_w15
        clear HS HI
        go_wp2_with fail
        refine (DrawInverseCharacter_any _ by315 (by (try simp only [World.size_alloc]); omega)).mono ?_
        rintro e w16 ⟨x_w16, y_w16, z_w16, rfl, hx_w16, hy_w16, hzz_w16, b_w16⟩
        have hz_w16 := b_w16.size
        try simp only [World.size_alloc] at hz_w16
        have st316 := st315.keep b_w16
        have by316 := by315.below b_w16
        replace st316 := (st316.alloc (.cells #[.int .i64 x_w16, .int .i64 y_w16, .int .i64 z_w16] 38)).addBox _ [.int .i64 x_w16, .int .i64 y_w16, .int .i64 z_w16] (Box.made _ _ _ _ (fun j v h => by simpa using h))
        replace by316 := by316.below ((Below.refl _ _).alloc (Nat.le_refl _) (.cells #[.int .i64 x_w16, .int .i64 y_w16, .int .i64 z_w16] 38))
        clear st315 by315 b_w16
        obtain ⟨Ag, Bg, Dg, Cg, hS, hI, hR⟩ := InverseCharacter_two x_w16 y_w16 z_w16
        have HS := Lib.hid hS; have HI := Lib.hid hI; have HR_g := Lib.hid hR; clear hS hI hR
        obtain ⟨c_g_0, c_g_1, c_g_2⟩ := (st316.box 0 (w16.heap.size, [.int .i64 x_w16, .int .i64 y_w16, .int .i64 z_w16]) rfl).cell3
        try dsimp only at c_g_0 c_g_1 c_g_2
        go_wp2_with fail
        refine (HI.out _).mono ?_
        rintro e w17 ⟨rfl, b_w17⟩
        have hz_w17 := b_w17.size
        try simp only [World.size_alloc] at hz_w17
        have st317 := st316.keep b_w17
        have by317 := by316.below b_w17
        replace st317 := (st317.alloc (.cells #[.int .i64 Ag, .int .i64 Bg, .int .i64 Dg] 38)).addBox _ [.int .i64 Ag, .int .i64 Bg, .int .i64 Dg] (Box.made _ _ _ _ (fun j v h => by simpa using h))
        replace by317 := by317.below ((Below.refl _ _).alloc (Nat.le_refl _) (.cells #[.int .i64 Ag, .int .i64 Bg, .int .i64 Dg] 38))
        clear c_g_0 c_g_1 c_g_2 st316 by316 b_w17
        obtain ⟨c_g_0, c_g_1, c_g_2⟩ := (st317.box 1 (w16.heap.size, [.int .i64 x_w16, .int .i64 y_w16, .int .i64 z_w16]) rfl).cell3
        try dsimp only at c_g_0 c_g_1 c_g_2
        go_wp2_with fail
        refine (HS.out _).mono ?_
        rintro e w18 ⟨rfl, b_w18⟩
        have hz_w18 := b_w18.size
        try simp only [World.size_alloc] at hz_w18
        have st318 := st317.keep b_w18
        have by318 := by317.below b_w18
        replace st318 := (st318.alloc (.cells #[.int .i64 Ag, .int .i64 Bg, .int .i64 Dg] 38)).addBox _ [.int .i64 Ag, .int .i64 Bg, .int .i64 Dg] (Box.made _ _ _ _ (fun j v h => by simpa using h))
        replace by318 := by318.below ((Below.refl _ _).alloc (Nat.le_refl _) (.cells #[.int .i64 Ag, .int .i64 Bg, .int .i64 Dg] 38))
        clear c_g_0 c_g_1 c_g_2 st317 by317 b_w18
        clear HS HI
        go_wp2_with fail
        refine (DrawIsEvenCharacter_any _ by318 (by (try simp only [World.size_alloc]); omega)).mono ?_
        rintro e w19 ⟨x_w19, y_w19, z_w19, rfl, hx_w19, hy_w19, hzz_w19, b_w19⟩
        have hz_w19 := b_w19.size
        try simp only [World.size_alloc] at hz_w19
        have st319 := st318.keep b_w19
        have by319 := by318.below b_w19
        replace st319 := (st319.alloc (.cells #[.int .i64 x_w19, .int .i64 y_w19, .int .i64 z_w19] 38)).addBox _ [.int .i64 x_w19, .int .i64 y_w19, .int .i64 z_w19] (Box.made _ _ _ _ (fun j v h => by simpa using h))
        replace by319 := by319.below ((Below.refl _ _).alloc (Nat.le_refl _) (.cells #[.int .i64 x_w19, .int .i64 y_w19, .int .i64 z_w19] 38))
        clear st318 by318 b_w19
        obtain ⟨Ah, Ch_, hS, hI, hR⟩ := IsEvenCharacter_two x_w19 y_w19 z_w19
        have HS := Lib.hid hS; have HI := Lib.hid hI; have HR_h := Lib.hid hR; clear hS hI hR
        obtain ⟨c_h_0, c_h_1, c_h_2⟩ := (st319.box 0 (w19.heap.size, [.int .i64 x_w19, .int .i64 y_w19, .int .i64 z_w19]) rfl).cell3
        try dsimp only at c_h_0 c_h_1 c_h_2
        go_wp2_with fail
        refine (HI.out _).mono ?_
        rintro e w20 ⟨rfl, b_w20⟩
        have hz_w20 := b_w20.size
        try simp only [World.size_alloc] at hz_w20
        have st320 := st319.keep b_w20
        have by320 := by319.below b_w20
        clear c_h_0 c_h_1 c_h_2 st319 by319 b_w20
        obtain ⟨c_h_0, c_h_1, c_h_2⟩ := (st320.box 0 (w19.heap.size, [.int .i64 x_w19, .int .i64 y_w19, .int .i64 z_w19]) rfl).cell3
        try dsimp only at c_h_0 c_h_1 c_h_2
        go_wp2_with fail
        refine (HS.out _).mono ?_
        rintro e w21 ⟨rfl, b_w21⟩
        have hz_w21 := b_w21.size
        try simp only [World.size_alloc] at hz_w21
        have st321 := st320.keep b_w21
        have by321 := by320.below b_w21
        clear c_h_0 c_h_1 c_h_2 st320 by320 b_w21
        clear HS HI
        obtain ⟨c_inv_0, c_inv_1, c_inv_2⟩ := (st321.box 2 (w17.heap.size, [.int .i64 Ag, .int .i64 Bg, .int .i64 Dg]) rfl).cell3
        try dsimp only at c_inv_0 c_inv_1 c_inv_2
        obtain ⟨c_oth_0, c_oth_1, c_oth_2⟩ := (st321.box 1 (w18.heap.size, [.int .i64 Ag, .int .i64 Bg, .int .i64 Dg]) rfl).cell3
        try dsimp only at c_oth_0 c_oth_1 c_oth_2
        obtain ⟨c_whole_0, c_whole_1⟩ := (st321.box 5 (w14.heap.size, [.int .i64 Rf, .slice a_w14 Nf k_w14]) rfl).cell2
        try dsimp only at c_whole_0 c_whole_1
        obtain ⟨c_all_0, c_all_1⟩ := (st321.box 4 (w15.heap.size, [.int .i64 Rf, .slice a_w15 Nf k_w15]) rfl).cell2
        try dsimp only at c_all_0 c_all_1
        have q_whole := st321.sl 1 ⟨true, w13.heap.size + 1, w14.heap.size, .slice a_w14 Nf k_w14, Nf, Gf⟩ rfl
        try dsimp only at q_whole
        have q_all := st321.sl 0 ⟨true, w14.heap.size + 1, w15.heap.size, .slice a_w15 Nf k_w15, Nf, Gf⟩ rfl
        try dsimp only at q_all
        go_wp2_with fail
        refine (cyclos5_yes _ _ q_whole q_all (fun _ _ => rfl)).mono ?_
        rintro e w22 ⟨rfl, b_w22⟩
        have hz_w22 := b_w22.size
        try simp only [World.size_alloc] at hz_w22
        have st322 := st321.keep b_w22
        have by322 := by321.below b_w22
        clear c_inv_0 c_inv_1 c_inv_2 c_oth_0 c_oth_1 c_oth_2 c_whole_0 c_whole_1 c_all_0 c_all_1 q_whole q_all st321 by321 b_w22
        obtain ⟨c_inv_0, c_inv_1, c_inv_2⟩ := (st322.box 2 (w17.heap.size, [.int .i64 Ag, .int .i64 Bg, .int .i64 Dg]) rfl).cell3
        try dsimp only at c_inv_0 c_inv_1 c_inv_2
        obtain ⟨c_oth_0, c_oth_1, c_oth_2⟩ := (st322.box 1 (w18.heap.size, [.int .i64 Ag, .int .i64 Bg, .int .i64 Dg]) rfl).cell3
        try dsimp only at c_oth_0 c_oth_1 c_oth_2
        have BB := st322.1
        go_wp2
        go_ret
        exact ⟨rfl, BB⟩

theorem own : ownKnob Try.prog.godebug = none := by kernel_rfl
theorem laidOut : laidOutB Try.prog = true := by kernel_rfl
set_option maxRecDepth 100000 in
theorem lifted (os : Os) (started : os.Started) (H : Type) (enc : TypeId × Value → H) :
    ReturnsInHanded {} Try.checked os 6 .any (Rows.fnCharacterSumsSpec.pre6 enc Try.prog Try.f6 Rows.fnCharacterSumsRow.domain false) (Rows.fnCharacterSumsSpec.post enc Try.prog Try.f6 false true false false) := by
  refine returnsInHanded_of_change (C := Try.checked) own started (by kernel_rfl) Try.func6
    (ChangeSpec.witness6 (enc := enc) (C := Try.checked) false ⟨#[], #[.slice none 0 0], []⟩ 8 (by kernel_rfl) (by kernel_rfl) (by kernel_rfl) (by kernel_rfl)) ?_
  intro W base args ds gs before hval0 hW hcnd _
  have hval : ∀ (j : Nat) t v, Try.f6.params[j]? = some t → args[j]? = some v → Value.okWide Try.prog W .any base t v := hval0
  have hW' := hW
  obtain ⟨p, q, hA0, hV, rfl, hfz, hnd⟩ := hW
  have hA : DataW.TrodAll enc Try.prog W 0 (fun _ => true) true Try.f6.params.toList args.toList ds p := hA0
  rw [Try.params6] at hA hval
  obtain ⟨v0, vs0, d0, ds0, p0, q0, hargs, rfl, rfl, h0, r0⟩ := trodAll_cons hA
  obtain ⟨rfl, rfl, rfl⟩ := trodAll_nil r0
  obtain rfl : args = #[v0] := by cases args; simp_all
  obtain ⟨rfl, rfl⟩ := trodVars_none hV
  have k0 := h0
  have lt0 : ∀ x ∈ p0, x.block < W.heap.size := by obtain ⟨m, hm⟩ := k0; exact DataW.trod_lt m _ _ _ hm
  obtain ⟨p_0, n_0, q_0, rfl, s0⟩ : ∃ p n q, v0 = .slice p n q ∧ (n ≤ 4096 → Bytes W W.heap.size p n) := by
    obtain ⟨a, len, cap, rfl⟩ := okWide_slice Try.underlying35 (hval 0 35 v0 rfl rfl)
    obtain ⟨fuel, hf⟩ := h0
    exact Bytes.came Try.underlying35 Try.underlying5 (by kernel_rfl) (by simpa [Value.cells] using hf)
  clear hA0 hval0
  refine (walk W p_0 n_0 q_0 s0).mono fun e W' ⟨he, bel⟩ => ?_
  subst he
  exact ⟨_, rfl, _, _, _, [], _, [], hW', trodAll_mk1 (shut_bool Try.underlying4 _), (trodAll_cons_mk (Below.trod laidOut (by kernel_rfl) (of_decide_eq_true (by kernel_rfl)) k0 bel lt0) trodAll_mk0), rfl, bel.frame _, fun h => by cases h⟩

theorem over : Rows.fnCharacterSumsRow.holds Try.pinned (OpenSpec.ofChange Rows.fnCharacterSumsSpec) :=
  OpenClaim.holds_of_wide 6 Try.f6 rfl rfl rfl rfl rfl rfl rfl ⟨rfl, rfl, rfl, rfl, rfl⟩ rfl rfl rfl rfl rfl (by kernel_rfl) Try.func6 (by unfold joinedFacts; exact (and_tt (and_tt (and_tt (and_tt (and_tt (and_tt (and_tt (and_tt (and_tt (and_tt (and_tt (and_tt (and_tt (and_tt (and_tt (and_tt (and_tt (and_tt (and_tt (and_tt (and_tt (and_tt (and_tt (and_tt (and_tt (and_tt (and_tt (and_tt (and_tt (and_tt (and_tt (by kernel_rfl) (by kernel_rfl)) (by kernel_rfl)) (by kernel_rfl)) (by kernel_rfl)) (by kernel_rfl)) (by kernel_rfl)) (by kernel_rfl)) (by kernel_rfl)) (by kernel_rfl)) (by kernel_rfl)) (by kernel_rfl)) (by kernel_rfl)) (by kernel_rfl)) (by kernel_rfl)) (by kernel_rfl)) (by kernel_rfl)) (by kernel_rfl)) (by kernel_rfl)) (by kernel_rfl)) (by kernel_rfl)) (by kernel_rfl)) (by kernel_rfl)) (by kernel_rfl)) (by kernel_rfl)) init_enter) (tt_lifts init_lifts rfl)) (tt_make init_make rfl)) (by kernel_rfl)) (by kernel_rfl)) (by kernel_rfl)) (by kernel_rfl)))
    (of_decide_eq_true (by kernel_rfl)) (by unfold Func.isWrapper; first | (rw [if_pos (by decide +kernel)]; kernel_rfl) | (rw [if_neg (by decide +kernel)]; exact ⟨rfl, rfl⟩))
    (fun os started H enc _ => lifted os started H enc)

theorem proved : Rows.FnCharacterSumsSaid := over
#print axioms proved
end fnCharacterSums
end Go.Proofs.Ytdalahgfpbdilaa
