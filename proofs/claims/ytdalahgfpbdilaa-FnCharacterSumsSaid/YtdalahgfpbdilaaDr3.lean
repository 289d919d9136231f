/- Drawn primes, orders, characters. -/
import Derived.Test.YtdalahgfpbdilaaBad
import Derived.Test.YtdalahgfpbdilaaInvC
namespace Go.Proofs.Ytdalahgfpbdilaa
open Go.RowKit Go.ChangeShapes Go.Sort
set_option linter.unusedVariables false
set_option linter.unusedSimpArgs false
/-- A character has been drawn. -/
def DrG (b : Nat) (p : Option Addr) (n q : Nat) (w : World) (e : Ending) (w' : World) : Prop :=
  ∃ P N K : Int, e = .returned (.agg #[.int .i64 P, .int .i64 N, .int .i64 K]) ∧ 3 ≤ P ∧ P ≤ 61 ∧ 1 ≤ N ∧ N ≤ 16 ∧ 0 ≤ K ∧ K < N ∧ Src w' b p n q ∧ Frame b (b + 1) w w'
/-- A character, or something that is none. -/
def DrH (b : Nat) (p : Option Addr) (n q : Nat) (w : World) (e : Ending) (w' : World) : Prop :=
  ∃ x y z : Int, e = .returned (.agg #[.int .i64 x, .int .i64 y, .int .i64 z]) ∧ inR x ∧ inR y ∧ inR z ∧ Src w' b p n q ∧ Frame b (b + 1) w w'
section
variable {b B : Nat} {p : Option Addr} {n q : Nat}
set_option maxRecDepth 100000 in
set_option maxHeartbeats 4000000 in
theorem l03DrawPrime_any (w : World) (hs : Src w b p n q) (hb : Bytes w B p n) (hB : B ≤ b) :
    Calls Try.prog 146 #[.pointer (some ⟨b, 0, none⟩)] w (fun e w' => ∃ r : Int, e = .returned (.int .i64 r) ∧ 3 ≤ r ∧ r ≤ 61 ∧ Src w' b p n q ∧ Frame b (b + 1) w w') := by
  have st0 := Ds.start hs hb hB
  have hbz := hs.lt
  clear hs hb
  go_enter Try.func146, Try.ntmps146
  have hl := Sl.list (w) [3, 5, 7, 7, 11, 13, 13, 17, 19, 31, 37, 41, 43, 61] (by intro t ht; simp only [List.mem_cons, List.not_mem_nil, or_false] at ht; unfold inR; rcases ht with rfl | rfl | rfl | rfl | rfl | rfl | rfl | rfl | rfl | rfl | rfl | rfl | rfl | rfl <;> omega) (by simp [maxLen])
  replace st0 := st0.alloc (.cells ([3, 5, 7, 7, 11, 13, 13, 17, 19, 31, 37, 41, 43, 61].map (Value.int .i64)).toArray 2)
  simp only [List.map_cons, List.map_nil, List.length_cons, List.length_nil, World.size_alloc] at hl st0
  have hall : ∀ t ∈ ([3, 5, 7, 7, 11, 13, 13, 17, 19, 31, 37, 41, 43, 61] : List Int), (fun x : Int => 3 ≤ x ∧ x ≤ 61) t := by intro t ht; simp only [List.mem_cons, List.not_mem_nil, or_false] at ht; (try dsimp only); rcases ht with rfl | rfl | rfl | rfl | rfl | rfl | rfl | rfl | rfl | rfl | rfl | rfl | rfl | rfl <;> omega
  have HALL := Lib.hid hall
  clear hall
  go_wp2_with fail
  refine (l01Pick_any _ _ _ _ _ _ st0.src st0.bytes st0.low hl (.inr (by omega)) (by omega) (by omega)).mono ?_
  rintro e w1 ⟨i_w1, hi_w1, rfl, hs_w1, f_w1⟩
  have hz_w1 := f_w1.size
  try simp only [World.size_alloc] at hz_w1
  have st1 := st0.draw hs_w1 f_w1
  clear hl st0 hs_w1 f_w1
  have h_y : (fun x : Int => 3 ≤ x ∧ x ≤ 61) (([3, 5, 7, 7, 11, 13, 13, 17, 19, 31, 37, 41, 43, 61] : List Int).getD i_w1 0) := by
    rw [List.getD_eq_getElem?_getD, List.getElem?_eq_getElem (by simpa using hi_w1)]
    exact HALL.out _ (List.getElem_mem _)
  generalize ([3, 5, 7, 7, 11, 13, 13, 17, 19, 31, 37, 41, 43, 61] : List Int).getD i_w1 0 = y at *
  try dsimp only at h_y
  clear HALL hi_w1
  go_wp2
  go_ret
  exact ⟨y, rfl, h_y.1, h_y.2, st1.src, st1.frame⟩

set_option maxRecDepth 100000 in
set_option maxHeartbeats 4000000 in
theorem l03DrawOrder_any (P : Int) (w : World) (hs : Src w b p n q) (hb : Bytes w B p n) (hB : B ≤ b) (hP1 : 3 ≤ P) (hP2 : P ≤ 61) :
    Calls Try.prog 159 #[.pointer (some ⟨b, 0, none⟩), .int .i64 P] w fun e w' => ∃ r : Int, e = .returned (.int .i64 r) ∧ 1 ≤ r ∧ r ≤ 16 ∧ Src w' b p n q ∧ Frame b (b + 1) w w' := by
  have st0 := Ds.start hs hb hB
  have hbz := hs.lt
  have HR := Lib.hid (Row.made w w.heap.size (fun _ => 0) (Nat.le_refl _))
  have ST := Lib.hid st0
  clear hs hb st0
  go_enter Try.func159, Try.ntmps159
  go_wp2
  go_loopw [5, 6] (fun s5 s6 wr => ∃ (k m g cap : Nat) (f : Nat → Int), 1 ≤ k ∧ k ≤ 17 ∧ s6 = .int .i64 k ∧ s5 = .slice (some ⟨g, 0, none⟩) m cap ∧ m ≤ k - 1 ∧ (2 ≤ k → 1 ≤ m) ∧ (∀ j, j < m → 1 ≤ f j ∧ f j ≤ 16) ∧ Row wr w.heap.size g cap m f ∧ Below w.heap.size w wr) (fun _ s6 _ => 17 - (intOf s6).toNat)
  case atStart => exact ⟨1, 0, w.heap.size, 0, fun _ => 0, by omega, by omega, rfl, rfl, by omega, by omega, fun j hj => absurd hj (Nat.not_lt_zero _), HR.out, (Below.refl _ _).alloc (Nat.le_refl _) _⟩
  case round =>
    clear HR
    obtain ⟨k, m, g, cap, f, hk1, hk2, rfl, rfl, hm, hm1, hf, hrow, hbl⟩ := hrel
    have HF := Lib.hid hf
    have R3 := Lib.hid hrow
    have HB := Lib.hid hbl
    have hg := hrow.lt
    have hzr := hbl.size
    have hk0 : ¬ k = 0 := by omega
    clear hf hrow hbl
    by_cases hlt : k ≤ 16
    · have hltI : (k : Int) ≤ 16 := by omega
      by_cases hd : (P - 1) % (k : Int) = 0
      · have ed : ((P - 1) % (k : Int) == 0) = true := by rw [beq_iff_eq]; exact hd
        clear hd
        have hyk : inR (k : Int) := by unfold inR; omega
        go_wp2_with (at_builtin; refine wpList_push rfl (.tmp 17) (.tmp 19) rfl rfl w.heap.size g cap m f rfl (R3.out.alloc _) wr.heap.size (k : Int) rfl (heap_alloc_new wr _) (by omega) ?_; intro gA kA wA rowA grA orA ltA
                     have hzA := grA.size
                     simp only [World.size_alloc] at hzA
                     have RA := Lib.hid rowA
                     have BA := Lib.hid ((HB.out.alloc hzr (.cells #[.int .i64 (k : Int)] 2)).grown grA (by simp only [World.size_alloc]; omega) (fun i hi => by cases hi; exact hg.1))
                     clear rowA grA orA)
        go_roundw
        case rel =>
          refine ⟨k + 1, m + 1, gA, kA, fun j => if j < m then f j else (k : Int), by omega, by omega, by go_num, rfl, by omega, by omega, fun j hj => ?_, RA.out, BA.out⟩
          dsimp only
          by_cases e : j < m
          · rw [if_pos e]; exact HF.out j e
          · rw [if_neg e]; omega
        case measure => simp [intOf]; omega
      · have ed : ((P - 1) % (k : Int) == 0) = false := by rw [beq_eq_false_iff_ne]; exact hd
        have hk2' : 2 ≤ k := by
          by_cases e : k = 1
          · subst e; exact absurd (Int.emod_one _) hd
          · omega
        clear hd
        go_wp2
        go_roundw
        case rel => exact ⟨k + 1, m, g, cap, f, by omega, by omega, by go_num, rfl, by omega, by omega, HF.out, R3.out, HB.out⟩
        case measure => simp [intOf]; omega
    · have hm2 := hm1 (by omega)
      have st1 := (ST.out.keep HB.out).addSl ⟨true, w.heap.size, wr.heap.size, .slice (some ⟨g, 0, none⟩) m cap, m, f⟩ (R3.out.sl (fun j hj => by have := HF.out j hj; unfold inR; omega) (by unfold maxLen; omega)) (.inr (by dsimp only; omega))
      clear ST
      go_wp2_with fail
      refine (l01Next_any _ _ _ _ _ (m : Int) _ st1.src st1.bytes st1.low (by omega) (by omega)).mono ?_
      rintro e w2 ⟨r, rfl, hr1, hr2, hs2, f2⟩
      obtain ⟨i, rfl⟩ := Int.eq_ofNat_of_zero_le hr1
      have him : i < m := by omega
      have st2 := st1.draw hs2 f2
      obtain ⟨_, _, _, hc, _⟩ := (st2.sl 0 ⟨true, w.heap.size, wr.heap.size, .slice (some ⟨g, 0, none⟩) m cap, m, f⟩ rfl).known (by omega)
      have hci := hc i him
      rw [Nat.zero_add] at hci
      have hb := HF.out i him
      have S2 := Lib.hid st2
      clear hc st1 st2 hs2 f2
      go_wp2
      go_ret
      exact ⟨f i, rfl, hb.1, hb.2, S2.out.src, S2.out.frame⟩


set_option maxRecDepth 100000 in
set_option maxHeartbeats 2000000 in
theorem l03DrawOf_any (P N : Int) (w : World) (hs : Src w b p n q) (hb : Bytes w B p n) (hB : B ≤ b) (hP1 : 3 ≤ P) (hP2 : P ≤ 61) (hN1 : 1 ≤ N) (hN2 : N ≤ 16) :
    Calls Try.prog 210 #[.pointer (some ⟨b, 0, none⟩), .int .i64 P, .int .i64 N] w (DrG b p n q w) := by
  have st0 := Ds.start hs hb hB
  have hbz := hs.lt
  replace st0 := st0.newBox [.int .i64 0, .int .i64 0, .int .i64 0] 38
  clear hs hb
  go_enter Try.func210, Try.ntmps210
  go_wp2_with fail
  refine (l01Next_any _ _ _ _ _ N _ st0.src st0.bytes st0.low (by omega) (by omega)).mono ?_
  rintro e w1 ⟨r, rfl, hr1, hr2, hs_w1, f_w1⟩
  have hz_w1 := f_w1.size
  try simp only [World.size_alloc] at hz_w1
  have st1 := st0.draw hs_w1 f_w1
  clear st0 hs_w1 f_w1
  obtain ⟨c_r_0, c_r_1, c_r_2⟩ := (st1.box 0 (w.heap.size, [.int .i64 0, .int .i64 0, .int .i64 0]) rfl).cell3
  have z_r := (st1.box 0 (w.heap.size, [.int .i64 0, .int .i64 0, .int .i64 0]) rfl).2.2
  dsimp only at c_r_0 c_r_1 c_r_2 z_r
  go_wp2
  refine bodyPost_ret (v := .agg #[.int .i64 P, .int .i64 N, .int .i64 r]) (by simp [results, Try.results210, go_sem, c_r_0 , c_r_1 , c_r_2]) rfl ?_
  have FS : Frame (w.heap.size) (w.heap.size + 1) w1 (((w1.setCell ⟨w.heap.size, 0, none⟩ (.int .i64 P)).setCell ⟨w.heap.size, 1, none⟩ (.int .i64 N)).setCell ⟨w.heap.size, 2, none⟩ (.int .i64 r)) := (((Frame.refl _ _ _).set (by omega) (by omega) _).set (by omega) (by omega) _).set (by omega) (by omega) _
  have stz := st1.write FS (by omega) (by omega) [] [] (fun x hx => by cases hx) (fun s hs => by cases hs)
  exact ⟨P, N, r, rfl, by omega, by omega, by omega, by omega, hr1, hr2, stz.src, stz.frame⟩

set_option maxRecDepth 100000 in
set_option maxHeartbeats 2000000 in
theorem l03Draw_any (w : World) (hs : Src w b p n q) (hb : Bytes w B p n) (hB : B ≤ b) :
    Calls Try.prog 168 #[.pointer (some ⟨b, 0, none⟩)] w (DrG b p n q w) := by
  have st0 := Ds.start hs hb hB
  have hbz := hs.lt
  replace st0 := st0.newBox [.int .i64 0, .int .i64 0, .int .i64 0] 38
  clear hs hb
  go_enter Try.func168, Try.ntmps168
  go_wp2_with fail
  refine (l03DrawPrime_any _ st0.src st0.bytes st0.low).mono ?_
  rintro e w1 ⟨P, rfl, hP1, hP2, hs_w1, f_w1⟩
  have hz_w1 := f_w1.size
  try simp only [World.size_alloc] at hz_w1
  have st1 := st0.draw hs_w1 f_w1
  clear st0 hs_w1 f_w1
  go_wp2_with fail
  refine (l03DrawOrder_any P _ st1.src st1.bytes st1.low hP1 hP2).mono ?_
  rintro e w2 ⟨N, rfl, hN1, hN2, hs_w2, f_w2⟩
  have hz_w2 := f_w2.size
  try simp only [World.size_alloc] at hz_w2
  have st2 := st1.draw hs_w2 f_w2
  clear st1 hs_w2 f_w2
  go_wp2_with fail
  refine (l03DrawOf_any P N _ st2.src st2.bytes st2.low hP1 hP2 hN1 hN2).mono ?_
  rintro e w3 ⟨P_w3, N_w3, K_w3, rfl, hP1_w3, hP2_w3, hN1_w3, hN2_w3, hK1_w3, hK2_w3, hs_w3, f_w3⟩
  have hz_w3 := f_w3.size
  try simp only [World.size_alloc] at hz_w3
  have st3 := st2.draw hs_w3 f_w3
  clear st2 hs_w3 f_w3
  obtain ⟨c_r_0, c_r_1, c_r_2⟩ := (st3.box 0 (w.heap.size, [.int .i64 0, .int .i64 0, .int .i64 0]) rfl).cell3
  have z_r := (st3.box 0 (w.heap.size, [.int .i64 0, .int .i64 0, .int .i64 0]) rfl).2.2
  dsimp only at c_r_0 c_r_1 c_r_2 z_r
  go_wp2
  refine bodyPost_ret (v := .agg #[.int .i64 P_w3, .int .i64 N_w3, .int .i64 K_w3]) (by simp [results, Try.results168, go_sem, c_r_0 , c_r_1 , c_r_2]) rfl ?_
  have FS : Frame (w.heap.size) (w.heap.size + 1) w3 (((w3.setCell ⟨w.heap.size, 0, none⟩ (.int .i64 P_w3)).setCell ⟨w.heap.size, 1, none⟩ (.int .i64 N_w3)).setCell ⟨w.heap.size, 2, none⟩ (.int .i64 K_w3)) := (((Frame.refl _ _ _).set (by omega) (by omega) _).set (by omega) (by omega) _).set (by omega) (by omega) _
  have stz := st3.write FS (by omega) (by omega) [] [] (fun x hx => by cases hx) (fun s hs => by cases hs)
  exact ⟨P_w3, N_w3, K_w3, rfl, hP1_w3, hP2_w3, hN1_w3, hN2_w3, hK1_w3, hK2_w3, stz.src, stz.frame⟩

set_option maxRecDepth 100000 in
set_option maxHeartbeats 4000000 in
theorem l03Bad_any (x y z : Int) (w : World) (hs : Src w b p n q) (hb : Bytes w B p n) (hB : B ≤ b) (hx : inR x) (hy : inR y) (hz : inR z) :
    Calls Try.prog 169 #[.pointer (some ⟨b, 0, none⟩), .agg #[.int .i64 x, .int .i64 y, .int .i64 z]] w (DrH b p n q w) := by
  have st0 := Ds.start hs hb hB
  have hbz := hs.lt
  unfold inR at hx hy hz
  replace st0 := st0.newBox [.int .i64 x, .int .i64 y, .int .i64 z] 38
  replace st0 := st0.newBox [.int .i64 0, .int .i64 0, .int .i64 0] 38
  simp only [World.size_alloc] at st0
  clear hs hb
  go_enter Try.func169, Try.ntmps169
  go_wp2_with fail
  refine (l01Next_any _ _ _ _ _ 50 _ st0.src st0.bytes st0.low (by omega) (by omega)).mono ?_
  rintro e w1 ⟨r, rfl, hr1, hr2, hs_w1, f_w1⟩
  have hz_w1 := f_w1.size
  try simp only [World.size_alloc] at hz_w1
  have st1 := st0.draw hs_w1 f_w1
  clear st0 hs_w1 f_w1
  by_cases h0 : r = 0
  · subst h0
    obtain ⟨c_c_0, c_c_1, c_c_2⟩ := (st1.box 1 (w.heap.size, [.int .i64 x, .int .i64 y, .int .i64 z]) rfl).cell3
    have z_c := (st1.box 1 (w.heap.size, [.int .i64 x, .int .i64 y, .int .i64 z]) rfl).2.2
    dsimp only at c_c_0 c_c_1 c_c_2 z_c
    have hl := Sl.list (w1) [0, 2, 9, 67, 1099511627776] (by intro t ht; simp only [List.mem_cons, List.not_mem_nil, or_false] at ht; unfold inR; rcases ht with rfl | rfl | rfl | rfl | rfl <;> omega) (by simp [maxLen])
    replace st1 := st1.alloc (.cells ([0, 2, 9, 67, 1099511627776].map (Value.int .i64)).toArray 2)
    simp only [List.map_cons, List.map_nil, List.length_cons, List.length_nil, World.size_alloc] at hl st1
    have hall : ∀ t ∈ ([0, 2, 9, 67, 1099511627776] : List Int), (fun x : Int => -9223372036854775808 ≤ x ∧ x ≤ 9223372036854775807) t := by intro t ht; simp only [List.mem_cons, List.not_mem_nil, or_false] at ht; (try dsimp only); rcases ht with rfl | rfl | rfl | rfl | rfl <;> omega
    have HALL := Lib.hid hall
    clear hall
    go_wp2_with fail
    refine (l01Pick_any _ _ _ _ _ _ st1.src st1.bytes st1.low hl (.inr (by omega)) (by omega) (by omega)).mono ?_
    rintro e w2 ⟨i_w2, hi_w2, rfl, hs_w2, f_w2⟩
    have hz_w2 := f_w2.size
    try simp only [World.size_alloc] at hz_w2
    have st2 := st1.draw hs_w2 f_w2
    clear c_c_0 c_c_1 c_c_2 z_c hl st1 hs_w2 f_w2
    have h_t0 : (fun x : Int => -9223372036854775808 ≤ x ∧ x ≤ 9223372036854775807) (([0, 2, 9, 67, 1099511627776] : List Int).getD i_w2 0) := by
      rw [List.getD_eq_getElem?_getD, List.getElem?_eq_getElem (by simpa using hi_w2)]
      exact HALL.out _ (List.getElem_mem _)
    generalize ([0, 2, 9, 67, 1099511627776] : List Int).getD i_w2 0 = t0 at *
    try dsimp only at h_t0
    clear HALL hi_w2
    obtain ⟨c_c_0, c_c_1, c_c_2⟩ := (st2.box 1 (w.heap.size, [.int .i64 x, .int .i64 y, .int .i64 z]) rfl).cell3
    have z_c := (st2.box 1 (w.heap.size, [.int .i64 x, .int .i64 y, .int .i64 z]) rfl).2.2
    dsimp only at c_c_0 c_c_1 c_c_2 z_c
    obtain ⟨c_r_0, c_r_1, c_r_2⟩ := (st2.box 0 (w.heap.size + 1, [.int .i64 0, .int .i64 0, .int .i64 0]) rfl).cell3
    have z_r := (st2.box 0 (w.heap.size + 1, [.int .i64 0, .int .i64 0, .int .i64 0]) rfl).2.2
    dsimp only at c_r_0 c_r_1 c_r_2 z_r
    have ST := Lib.hid st2
    clear st2
    go_wp2
    refine bodyPost_ret (v := .agg #[.int .i64 t0, .int .i64 y, .int .i64 z]) (by simp [results, Try.results169, go_sem, c_r_0, c_r_1, c_r_2]) rfl ?_
    have FS : Frame w.heap.size (w.heap.size + 1 + 1) w2 ((((w2.setCell ⟨w.heap.size, 0, none⟩ (.int .i64 t0)).setCell ⟨w.heap.size + 1, 0, none⟩ (.int .i64 t0)).setCell ⟨w.heap.size + 1, 1, none⟩ (.int .i64 y)).setCell ⟨w.heap.size + 1, 2, none⟩ (.int .i64 z)) := ((((Frame.refl _ _ _).set (by omega) (by omega) _).set (by omega) (by omega) _).set (by omega) (by omega) _).set (by omega) (by omega) _
    have stz := ST.out.write FS (by omega) (by omega) [] [] (fun x hx => by cases hx) (fun s hs => by cases hs)
    exact ⟨t0, y, z, rfl, by unfold inR; omega, by unfold inR; omega, by unfold inR; omega, stz.src, stz.frame⟩
  · have e0 : (r == 0) = false := by simpa using h0
    by_cases h1 : r = 1
    · subst h1
      obtain ⟨c_c_0, c_c_1, c_c_2⟩ := (st1.box 1 (w.heap.size, [.int .i64 x, .int .i64 y, .int .i64 z]) rfl).cell3
      have z_c := (st1.box 1 (w.heap.size, [.int .i64 x, .int .i64 y, .int .i64 z]) rfl).2.2
      dsimp only at c_c_0 c_c_1 c_c_2 z_c
      have hl := Sl.list (w1) [0, 17, x, -1] (by intro t ht; simp only [List.mem_cons, List.not_mem_nil, or_false] at ht; unfold inR; rcases ht with rfl | rfl | rfl | rfl <;> omega) (by simp [maxLen])
      replace st1 := st1.alloc (.cells ([0, 17, x, -1].map (Value.int .i64)).toArray 2)
      simp only [List.map_cons, List.map_nil, List.length_cons, List.length_nil, World.size_alloc] at hl st1
      have hall : ∀ t ∈ ([0, 17, x, -1] : List Int), (fun x : Int => -9223372036854775808 ≤ x ∧ x ≤ 9223372036854775807) t := by intro t ht; simp only [List.mem_cons, List.not_mem_nil, or_false] at ht; (try dsimp only); rcases ht with rfl | rfl | rfl | rfl <;> omega
      have HALL := Lib.hid hall
      clear hall
      go_wp2_with fail
      refine (l01Pick_any _ _ _ _ _ _ st1.src st1.bytes st1.low hl (.inr (by omega)) (by omega) (by omega)).mono ?_
      rintro e w2 ⟨i_w2, hi_w2, rfl, hs_w2, f_w2⟩
      have hz_w2 := f_w2.size
      try simp only [World.size_alloc] at hz_w2
      have st2 := st1.draw hs_w2 f_w2
      clear c_c_0 c_c_1 c_c_2 z_c hl st1 hs_w2 f_w2
      have h_t0 : (fun x : Int => -9223372036854775808 ≤ x ∧ x ≤ 9223372036854775807) (([0, 17, x, -1] : List Int).getD i_w2 0) := by
        rw [List.getD_eq_getElem?_getD, List.getElem?_eq_getElem (by simpa using hi_w2)]
        exact HALL.out _ (List.getElem_mem _)
      generalize ([0, 17, x, -1] : List Int).getD i_w2 0 = t0 at *
      try dsimp only at h_t0
      clear HALL hi_w2
      obtain ⟨c_c_0, c_c_1, c_c_2⟩ := (st2.box 1 (w.heap.size, [.int .i64 x, .int .i64 y, .int .i64 z]) rfl).cell3
      have z_c := (st2.box 1 (w.heap.size, [.int .i64 x, .int .i64 y, .int .i64 z]) rfl).2.2
      dsimp only at c_c_0 c_c_1 c_c_2 z_c
      obtain ⟨c_r_0, c_r_1, c_r_2⟩ := (st2.box 0 (w.heap.size + 1, [.int .i64 0, .int .i64 0, .int .i64 0]) rfl).cell3
      have z_r := (st2.box 0 (w.heap.size + 1, [.int .i64 0, .int .i64 0, .int .i64 0]) rfl).2.2
      dsimp only at c_r_0 c_r_1 c_r_2 z_r
      have ST := Lib.hid st2
      clear st2
      go_wp2
      refine bodyPost_ret (v := .agg #[.int .i64 x, .int .i64 t0, .int .i64 z]) (by simp [results, Try.results169, go_sem, c_r_0, c_r_1, c_r_2]) rfl ?_
      have FS : Frame w.heap.size (w.heap.size + 1 + 1) w2 ((((w2.setCell ⟨w.heap.size, 1, none⟩ (.int .i64 t0)).setCell ⟨w.heap.size + 1, 0, none⟩ (.int .i64 x)).setCell ⟨w.heap.size + 1, 1, none⟩ (.int .i64 t0)).setCell ⟨w.heap.size + 1, 2, none⟩ (.int .i64 z)) := ((((Frame.refl _ _ _).set (by omega) (by omega) _).set (by omega) (by omega) _).set (by omega) (by omega) _).set (by omega) (by omega) _
      have stz := ST.out.write FS (by omega) (by omega) [] [] (fun x hx => by cases hx) (fun s hs => by cases hs)
      exact ⟨x, t0, z, rfl, by unfold inR; omega, by unfold inR; omega, by unfold inR; omega, stz.src, stz.frame⟩
    · have e1 : (r == 1) = false := by simpa using h1
      by_cases h2 : r = 2
      · subst h2
        obtain ⟨c_c_0, c_c_1, c_c_2⟩ := (st1.box 1 (w.heap.size, [.int .i64 x, .int .i64 y, .int .i64 z]) rfl).cell3
        have z_c := (st1.box 1 (w.heap.size, [.int .i64 x, .int .i64 y, .int .i64 z]) rfl).2.2
        dsimp only at c_c_0 c_c_1 c_c_2 z_c
        have hl := Sl.list (w1) [-1, y] (by intro t ht; simp only [List.mem_cons, List.not_mem_nil, or_false] at ht; unfold inR; rcases ht with rfl | rfl <;> omega) (by simp [maxLen])
        replace st1 := st1.alloc (.cells ([-1, y].map (Value.int .i64)).toArray 2)
        simp only [List.map_cons, List.map_nil, List.length_cons, List.length_nil, World.size_alloc] at hl st1
        have hall : ∀ t ∈ ([-1, y] : List Int), (fun x : Int => -9223372036854775808 ≤ x ∧ x ≤ 9223372036854775807) t := by intro t ht; simp only [List.mem_cons, List.not_mem_nil, or_false] at ht; (try dsimp only); rcases ht with rfl | rfl <;> omega
        have HALL := Lib.hid hall
        clear hall
        go_wp2_with fail
        refine (l01Pick_any _ _ _ _ _ _ st1.src st1.bytes st1.low hl (.inr (by omega)) (by omega) (by omega)).mono ?_
        rintro e w2 ⟨i_w2, hi_w2, rfl, hs_w2, f_w2⟩
        have hz_w2 := f_w2.size
        try simp only [World.size_alloc] at hz_w2
        have st2 := st1.draw hs_w2 f_w2
        clear c_c_0 c_c_1 c_c_2 z_c hl st1 hs_w2 f_w2
        have h_t0 : (fun x : Int => -9223372036854775808 ≤ x ∧ x ≤ 9223372036854775807) (([-1, y] : List Int).getD i_w2 0) := by
          rw [List.getD_eq_getElem?_getD, List.getElem?_eq_getElem (by simpa using hi_w2)]
          exact HALL.out _ (List.getElem_mem _)
        generalize ([-1, y] : List Int).getD i_w2 0 = t0 at *
        try dsimp only at h_t0
        clear HALL hi_w2
        obtain ⟨c_c_0, c_c_1, c_c_2⟩ := (st2.box 1 (w.heap.size, [.int .i64 x, .int .i64 y, .int .i64 z]) rfl).cell3
        have z_c := (st2.box 1 (w.heap.size, [.int .i64 x, .int .i64 y, .int .i64 z]) rfl).2.2
        dsimp only at c_c_0 c_c_1 c_c_2 z_c
        obtain ⟨c_r_0, c_r_1, c_r_2⟩ := (st2.box 0 (w.heap.size + 1, [.int .i64 0, .int .i64 0, .int .i64 0]) rfl).cell3
        have z_r := (st2.box 0 (w.heap.size + 1, [.int .i64 0, .int .i64 0, .int .i64 0]) rfl).2.2
        dsimp only at c_r_0 c_r_1 c_r_2 z_r
        have ST := Lib.hid st2
        clear st2
        go_wp2
        refine bodyPost_ret (v := .agg #[.int .i64 x, .int .i64 y, .int .i64 t0]) (by simp [results, Try.results169, go_sem, c_r_0, c_r_1, c_r_2]) rfl ?_
        have FS : Frame w.heap.size (w.heap.size + 1 + 1) w2 ((((w2.setCell ⟨w.heap.size, 2, none⟩ (.int .i64 t0)).setCell ⟨w.heap.size + 1, 0, none⟩ (.int .i64 x)).setCell ⟨w.heap.size + 1, 1, none⟩ (.int .i64 y)).setCell ⟨w.heap.size + 1, 2, none⟩ (.int .i64 t0)) := ((((Frame.refl _ _ _).set (by omega) (by omega) _).set (by omega) (by omega) _).set (by omega) (by omega) _).set (by omega) (by omega) _
        have stz := ST.out.write FS (by omega) (by omega) [] [] (fun x hx => by cases hx) (fun s hs => by cases hs)
        exact ⟨x, y, t0, rfl, by unfold inR; omega, by unfold inR; omega, by unfold inR; omega, stz.src, stz.frame⟩
      · have e2 : (r == 2) = false := by simpa using h2
        obtain ⟨c_c_0, c_c_1, c_c_2⟩ := (st1.box 1 (w.heap.size, [.int .i64 x, .int .i64 y, .int .i64 z]) rfl).cell3
        have z_c := (st1.box 1 (w.heap.size, [.int .i64 x, .int .i64 y, .int .i64 z]) rfl).2.2
        dsimp only at c_c_0 c_c_1 c_c_2 z_c
        obtain ⟨c_r_0, c_r_1, c_r_2⟩ := (st1.box 0 (w.heap.size + 1, [.int .i64 0, .int .i64 0, .int .i64 0]) rfl).cell3
        have z_r := (st1.box 0 (w.heap.size + 1, [.int .i64 0, .int .i64 0, .int .i64 0]) rfl).2.2
        dsimp only at c_r_0 c_r_1 c_r_2 z_r
        go_wp2
        refine bodyPost_ret (v := .agg #[.int .i64 x, .int .i64 y, .int .i64 z]) (by simp [results, Try.results169, go_sem, c_r_0 , c_r_1 , c_r_2]) rfl ?_
        have FS : Frame (w.heap.size + 1) (w.heap.size + 1 + 1) w1 (((w1.setCell ⟨w.heap.size + 1, 0, none⟩ (.int .i64 x)).setCell ⟨w.heap.size + 1, 1, none⟩ (.int .i64 y)).setCell ⟨w.heap.size + 1, 2, none⟩ (.int .i64 z)) := (((Frame.refl _ _ _).set (by omega) (by omega) _).set (by omega) (by omega) _).set (by omega) (by omega) _
        have stz := st1.write FS (by omega) (by omega) [] [] (fun x hx => by cases hx) (fun s hs => by cases hs)
        exact ⟨x, y, z, rfl, by unfold inR; omega, by unfold inR; omega, by unfold inR; omega, stz.src, stz.frame⟩

set_option maxRecDepth 100000 in
set_option maxHeartbeats 2000000 in
theorem l03Spoil_any (w : World) (hs : Src w b p n q) (hb : Bytes w B p n) (hB : B ≤ b) :
    Calls Try.prog 154 #[.pointer (some ⟨b, 0, none⟩)] w (DrH b p n q w) := by
  have st0 := Ds.start hs hb hB
  have hbz := hs.lt
  replace st0 := st0.newBox [.int .i64 0, .int .i64 0, .int .i64 0] 38
  clear hs hb
  go_enter Try.func154, Try.ntmps154
  go_wp2_with fail
  refine (l03Draw_any _ st0.src st0.bytes st0.low).mono ?_
  rintro e w1 ⟨P_w1, N_w1, K_w1, rfl, hP1_w1, hP2_w1, hN1_w1, hN2_w1, hK1_w1, hK2_w1, hs_w1, f_w1⟩
  have hz_w1 := f_w1.size
  try simp only [World.size_alloc] at hz_w1
  have st1 := st0.draw hs_w1 f_w1
  clear st0 hs_w1 f_w1
  go_wp2_with fail
  refine (l03Bad_any P_w1 N_w1 K_w1 _ st1.src st1.bytes st1.low (by unfold inR; omega) (by unfold inR; omega) (by unfold inR; omega)).mono ?_
  rintro e w2 ⟨x_w2, y_w2, z_w2, rfl, hx_w2, hy_w2, hz__w2, hs_w2, f_w2⟩
  have hz_w2 := f_w2.size
  try simp only [World.size_alloc] at hz_w2
  have st2 := st1.draw hs_w2 f_w2
  clear st1 hs_w2 f_w2
  obtain ⟨c_r_0, c_r_1, c_r_2⟩ := (st2.box 0 (w.heap.size, [.int .i64 0, .int .i64 0, .int .i64 0]) rfl).cell3
  have z_r := (st2.box 0 (w.heap.size, [.int .i64 0, .int .i64 0, .int .i64 0]) rfl).2.2
  dsimp only at c_r_0 c_r_1 c_r_2 z_r
  go_wp2
  refine bodyPost_ret (v := .agg #[.int .i64 x_w2, .int .i64 y_w2, .int .i64 z_w2]) (by simp [results, Try.results154, go_sem, c_r_0 , c_r_1 , c_r_2]) rfl ?_
  have FS : Frame (w.heap.size) (w.heap.size + 1) w2 (((w2.setCell ⟨w.heap.size, 0, none⟩ (.int .i64 x_w2)).setCell ⟨w.heap.size, 1, none⟩ (.int .i64 y_w2)).setCell ⟨w.heap.size, 2, none⟩ (.int .i64 z_w2)) := (((Frame.refl _ _ _).set (by omega) (by omega) _).set (by omega) (by omega) _).set (by omega) (by omega) _
  have stz := st2.write FS (by omega) (by omega) [] [] (fun x hx => by cases hx) (fun s hs => by cases hs)
  exact ⟨x_w2, y_w2, z_w2, rfl, hx_w2, hy_w2, hz__w2, stz.src, stz.frame⟩
end
end Go.Proofs.Ytdalahgfpbdilaa
