/- gaussWithRows of the program: each row by a closure. -/
import Derived.Test.YthmhjnholhiohaaGSq
import Derived.Test.YthmhjnholhiohaaTab
namespace Go.Proofs.Ythmhjnholhiohaa
open Go.RowKit Go.ChangeShapes Go.Sort Go.WideShapes
set_option linter.unusedVariables false
set_option linter.unusedSimpArgs false

/-- In every later world the closure tells row i. -/
def RowOk (w : World) (fid : FuncId) (args : Int → Array Value) (N L : Nat) (G : Nat → Nat → Int) (i : Nat) : Prop :=
  ∀ w', Below w.heap.size w w' → Calls Try.prog fid (args i) w' fun e w'' => ∃ a k, e = .returned (.tuple #[.agg #[.int .i64 (N : Int), .slice a L k], .int .i64 0]) ∧ Sl true w'' w'.heap.size w''.heap.size (.slice a L k) L (G i) ∧ Below w'.heap.size w' w''
def RowBad (w : World) (fid : FuncId) (args : Int → Array Value) (c : Int) (i : Nat) : Prop :=
  ∀ w', Below w.heap.size w w' → Calls Try.prog fid (args i) w' fun e w'' => e = .returned (failV c) ∧ Below w'.heap.size w' w''

set_option maxRecDepth 100000 in
set_option maxHeartbeats 4000000 in
theorem gwrAddGauss_ok (p N L : Nat) (K0 K1 K2 : Value) (G : Nat → Nat → Int) (hp1 : 1 ≤ p) (hp2 : p ≤ 61) (h1 : 1 ≤ N) (h2 : N ≤ 16) (hL : L = phiN N) (w : World) (hr : ∀ i, i < p → RowOk w 93 (fun i => #[.int .i64 i, K0, K1, K2]) N L G i) :
    Calls Try.prog 92 #[.int .i64 (p : Int), .int .i64 (N : Int), .func (.func 93) #[] #[K0, K1, K2]] w fun e w' => ∃ a' c', e = .returned (.tuple #[.agg #[.int .i64 (p : Int), .int .i64 (N : Int), .slice a' p c'], .int .i64 0]) ∧ Rw true w' w.heap.size w'.heap.size (.slice a' p c') p (fun _ => L) G ∧ Below w.heap.size w w' := by
  have hphi := phi_le12 N (by omega) h1
  have hphi1 := phiN_pos N (by omega) h1
  rw [← hL] at hphi hphi1
  have HLN := Lib.hid hL
  have HR := Lib.hid hr
  clear hr hL
  have st0 := (StR.start w).boxNew3 (.int .i64 0) (.int .i64 0) (.slice none 0 0) 27
  go_enter Try.func92, Try.ntmps92
  go_wp2_with fail
  refine (totient_below N _ (by omega)).mono ?_
  rintro e w3 ⟨rfl, b3⟩
  rw [← HLN.out]
  have st3 := st0.keep b3
  have hz3 := b3.size
  simp only [World.size_alloc] at hz3
  clear st0 b3
  go_wp2_with fail
  refine (newRows_any p L hp1 hp2 hphi1 (by omega) _).mono ?_
  rintro e w4 ⟨rfl, t4, b4⟩
  have st4 := st3.keep b4
  have hz4 := b4.size
  obtain ⟨T, hT⟩ : ∃ T, w3.heap.size = T := ⟨_, rfl⟩
  rw [hT] at t4 hz3 hz4
  simp only [hT]
  have ts := t4.size
  have HU4 := Lib.hid (t4.rwU (lo := T) hphi1 (by unfold maxLen; omega) (Nat.le_refl _) (Nat.le_succ _))
  obtain ⟨H, hH⟩ : ∃ H, w4.heap.size = H := ⟨_, rfl⟩
  rw [hH] at HU4 ts hz4
  have hHI : H ≤ w4.heap.size := by omega
  have HT4 := Lib.hid st4
  clear st3 st4 b4 t4 hT hH
  go_wp2
  go_loopw [19] (fun s wr => ∃ t : Nat, t ≤ p ∧ s = .int .i64 t ∧ H ≤ wr.heap.size ∧ RwU true wr T H (T + 1) 0 p p (fun i => .slice (some ⟨T, i * L, none⟩) L L) (fun _ => L) (fun i j => if i < t then G i j else 0) ∧ StR w wr [(w.heap.size, [.int .i64 0, .int .i64 0, .slice none 0 0])] [] []) (fun s _ => p - (intOf s).toNat)
  case atStart => exact ⟨0, Nat.zero_le _, rfl, hHI, HU4.out.congr (fun _ _ => rfl) (fun i j _ _ => by rw [if_neg (Nat.not_lt_zero _)]), HT4.out⟩
  case round =>
    clear HU4 HT4
    obtain ⟨t, ht, rfl, hHr, hu, hst⟩ := hrel
    have HU := Lib.hid hu; have HS := Lib.hid hst; clear hu hst
    by_cases hlt : t < p
    · have htp : t < p := by omega
      have cq := HU.out.head htp
      rw [Nat.zero_add] at cq
      have hltI : (t : Int) < (p : Int) := by omega
      go_wp2_with fail
      refine (HR.out t hlt _ HS.out.1).mono ?_
      rintro e w5 ⟨a5, k5, rfl, s5, b5⟩
      have hz5 := b5.size
      have HS5 := Lib.hid ((HS.out.keep b5).alloc (.cells #[.int .i64 (N : Int), .slice a5 L k5] 37))
      have HU5 := Lib.hid ((HU.out.keep b5 hHr).alloc (.cells #[.int .i64 (N : Int), .slice a5 L k5] 37))
      have HX := Lib.hid (HU5.out.row htp)
      have HN := Lib.hid (s5.alloc (.cells #[.int .i64 (N : Int), .slice a5 L k5] 37))
      clear HU HS s5 b5 cq
      go_wp2_with (
        (refine wpList_copyR rfl (.tmp 34) (.tmp 36) rfl HX.out HN.out rfl rfl (by omega) ?_; intro wA oA fA sA
         have UA := Lib.hid (HU5.out.putOnly htp oA sA)
         have SA := Lib.hid (HS5.out.write fA (by omega) (by intro b hb; simp only [List.mem_cons, List.not_mem_nil, or_false] at hb; rcases hb with rfl <;> dsimp only <;> omega) (by intro s hs'; cases hs') (by intro s hs'; cases hs'))
         have zA := fA.size
         simp only [World.size_alloc] at zA
         clear HU5 HS5 oA fA sA))
      go_roundw
      case rel =>
        refine ⟨t + 1, by omega, by go_num, by omega, UA.out.congr (fun _ _ => rfl) (fun y j hy hj => ?_), SA.out⟩
        by_cases e : y = t
        · rw [if_pos e, if_pos (by omega), e]
        · rw [if_neg e]
          by_cases e2 : y < t
          · rw [if_pos e2, if_pos (by omega)]
          · rw [if_neg e2, if_neg (by omega)]
      case measure => simp [intOf]; omega
    · obtain rfl : t = p := by omega
      obtain ⟨d0, d1, d2⟩ := (HS.out.box 0 (w.heap.size, [.int .i64 0, .int .i64 0, .slice none 0 0]) rfl).c3
      have dz := (HS.out.box 0 (w.heap.size, [.int .i64 0, .int .i64 0, .slice none 0 0]) rfl).2.2
      dsimp only at dz
      have BB := HS.out.1
      have hsz := HU.out.size
      go_wp2
      refine bodyPost_ret (v := .tuple #[.agg #[.int .i64 (t : Int), .int .i64 (N : Int), .slice (some ⟨T + 1, 0, none⟩) t t], .int .i64 0]) (by simp [results, Try.results92, go_sem, d0, d1, d2]) rfl ?_
      refine ⟨_, _, rfl, ?_, by go_grown⟩
      exact ((((HU.out.rw.setOther (.inl (by show w.heap.size < _; omega)) _).setOther (.inl (by show w.heap.size < _; omega)) _).setOther (.inl (by show w.heap.size < _; omega)) _).wide (by omega) (by simp; omega) (Nat.le_refl _)).congr (fun _ _ => rfl) (fun i j hi hj => by rw [if_pos hi])

set_option maxRecDepth 100000 in
set_option maxHeartbeats 4000000 in
theorem gwrAddGauss_bad (p N L : Nat) (K0 K1 K2 : Value) (G : Nat → Nat → Int) (hp1 : 1 ≤ p) (hp2 : p ≤ 61) (h1 : 1 ≤ N) (h2 : N ≤ 16) (hL : L = phiN N) (w : World) (c : Int) (hc : ¬ c = 0) (i0 : Nat) (hi0 : i0 < p) (hr : ∀ i, i < i0 → RowOk w 93 (fun i => #[.int .i64 i, K0, K1, K2]) N L G i) (hbad : RowBad w 93 (fun i => #[.int .i64 i, K0, K1, K2]) c i0) :
    Calls Try.prog 92 #[.int .i64 (p : Int), .int .i64 (N : Int), .func (.func 93) #[] #[K0, K1, K2]] w fun e w' => e = .returned (failG c) ∧ Below w.heap.size w w' := by
  have hphi := phi_le12 N (by omega) h1
  have hphi1 := phiN_pos N (by omega) h1
  rw [← hL] at hphi hphi1
  have HLN := Lib.hid hL
  have HR := Lib.hid hr
  clear hr hL
  have HBD := Lib.hid hbad; clear hbad
  have st0 := (StR.start w).boxNew3 (.int .i64 0) (.int .i64 0) (.slice none 0 0) 27
  go_enter Try.func92, Try.ntmps92
  go_wp2_with fail
  refine (totient_below N _ (by omega)).mono ?_
  rintro e w3 ⟨rfl, b3⟩
  rw [← HLN.out]
  have st3 := st0.keep b3
  have hz3 := b3.size
  simp only [World.size_alloc] at hz3
  clear st0 b3
  go_wp2_with fail
  refine (newRows_any p L hp1 hp2 hphi1 (by omega) _).mono ?_
  rintro e w4 ⟨rfl, t4, b4⟩
  have st4 := st3.keep b4
  have hz4 := b4.size
  obtain ⟨T, hT⟩ : ∃ T, w3.heap.size = T := ⟨_, rfl⟩
  rw [hT] at t4 hz3 hz4
  simp only [hT]
  have ts := t4.size
  have HU4 := Lib.hid (t4.rwU (lo := T) hphi1 (by unfold maxLen; omega) (Nat.le_refl _) (Nat.le_succ _))
  obtain ⟨H, hH⟩ : ∃ H, w4.heap.size = H := ⟨_, rfl⟩
  rw [hH] at HU4 ts hz4
  have hHI : H ≤ w4.heap.size := by omega
  have HT4 := Lib.hid st4
  clear st3 st4 b4 t4 hT hH
  go_wp2
  go_loopw [19] (fun s wr => ∃ t : Nat, t ≤ i0 ∧ s = .int .i64 t ∧ H ≤ wr.heap.size ∧ RwU true wr T H (T + 1) 0 p p (fun i => .slice (some ⟨T, i * L, none⟩) L L) (fun _ => L) (fun i j => if i < t then G i j else 0) ∧ StR w wr [(w.heap.size, [.int .i64 0, .int .i64 0, .slice none 0 0])] [] []) (fun s _ => p - (intOf s).toNat)
  case atStart => exact ⟨0, Nat.zero_le _, rfl, hHI, HU4.out.congr (fun _ _ => rfl) (fun i j _ _ => by rw [if_neg (Nat.not_lt_zero _)]), HT4.out⟩
  case round =>
    clear HU4 HT4
    obtain ⟨t, ht, rfl, hHr, hu, hst⟩ := hrel
    have HU := Lib.hid hu; have HS := Lib.hid hst; clear hu hst
    by_cases hlt : t < i0
    · have htp : t < p := by omega
      have cq := HU.out.head htp
      rw [Nat.zero_add] at cq
      have hltI : (t : Int) < (p : Int) := by omega
      go_wp2_with fail
      refine (HR.out t hlt _ HS.out.1).mono ?_
      rintro e w5 ⟨a5, k5, rfl, s5, b5⟩
      have hz5 := b5.size
      have HS5 := Lib.hid ((HS.out.keep b5).alloc (.cells #[.int .i64 (N : Int), .slice a5 L k5] 37))
      have HU5 := Lib.hid ((HU.out.keep b5 hHr).alloc (.cells #[.int .i64 (N : Int), .slice a5 L k5] 37))
      have HX := Lib.hid (HU5.out.row htp)
      have HN := Lib.hid (s5.alloc (.cells #[.int .i64 (N : Int), .slice a5 L k5] 37))
      clear HU HS s5 b5 cq
      go_wp2_with (
        (refine wpList_copyR rfl (.tmp 34) (.tmp 36) rfl HX.out HN.out rfl rfl (by omega) ?_; intro wA oA fA sA
         have UA := Lib.hid (HU5.out.putOnly htp oA sA)
         have SA := Lib.hid (HS5.out.write fA (by omega) (by intro b hb; simp only [List.mem_cons, List.not_mem_nil, or_false] at hb; rcases hb with rfl <;> dsimp only <;> omega) (by intro s hs'; cases hs') (by intro s hs'; cases hs'))
         have zA := fA.size
         simp only [World.size_alloc] at zA
         clear HU5 HS5 oA fA sA))
      go_roundw
      case rel =>
        refine ⟨t + 1, by omega, by go_num, by omega, UA.out.congr (fun _ _ => rfl) (fun y j hy hj => ?_), SA.out⟩
        by_cases e : y = t
        · rw [if_pos e, if_pos (by omega), e]
        · rw [if_neg e]
          by_cases e2 : y < t
          · rw [if_pos e2, if_pos (by omega)]
          · rw [if_neg e2, if_neg (by omega)]
      case measure => simp [intOf]; omega
    · obtain rfl : t = i0 := by omega
      have cq := HU.out.head hi0
      rw [Nat.zero_add] at cq
      have hltI : (t : Int) < (p : Int) := by omega
      go_wp2_with fail
      refine (HBD.out _ HS.out.1).mono ?_
      rintro e w5 ⟨rfl, b5⟩
      have S5 := (HS.out.keep b5).alloc (.cells #[.int .i64 0, .slice none 0 0] 37)
      obtain ⟨d0, d1, d2⟩ := (S5.box 0 (w.heap.size, [.int .i64 0, .int .i64 0, .slice none 0 0]) rfl).c3
      have dz := (S5.box 0 (w.heap.size, [.int .i64 0, .int .i64 0, .slice none 0 0]) rfl).2.2
      dsimp only at dz
      have BB := S5.1
      have hz5 := b5.size
      have hcb : (c != 0) = true := by simpa using hc
      clear HU HS b5 S5 HBD cq
      unfold failV
      go_wp2
      refine bodyPost_ret (v := failG c) (by simp [results, Try.results92, go_sem, failG, d0, d1, d2]) rfl ?_
      exact ⟨rfl, by go_grown⟩

set_option maxRecDepth 100000 in
set_option maxHeartbeats 4000000 in
theorem gwrConjugateGauss_ok (p N L : Nat) (K0 : Value) (G : Nat → Nat → Int) (hp1 : 1 ≤ p) (hp2 : p ≤ 61) (h1 : 1 ≤ N) (h2 : N ≤ 16) (hL : L = phiN N) (w : World) (hr : ∀ i, i < p → RowOk w 96 (fun i => #[.int .i64 i, K0]) N L G i) :
    Calls Try.prog 92 #[.int .i64 (p : Int), .int .i64 (N : Int), .func (.func 96) #[] #[K0]] w fun e w' => ∃ a' c', e = .returned (.tuple #[.agg #[.int .i64 (p : Int), .int .i64 (N : Int), .slice a' p c'], .int .i64 0]) ∧ Rw true w' w.heap.size w'.heap.size (.slice a' p c') p (fun _ => L) G ∧ Below w.heap.size w w' := by
  have hphi := phi_le12 N (by omega) h1
  have hphi1 := phiN_pos N (by omega) h1
  rw [← hL] at hphi hphi1
  have HLN := Lib.hid hL
  have HR := Lib.hid hr
  clear hr hL
  have st0 := (StR.start w).boxNew3 (.int .i64 0) (.int .i64 0) (.slice none 0 0) 27
  go_enter Try.func92, Try.ntmps92
  go_wp2_with fail
  refine (totient_below N _ (by omega)).mono ?_
  rintro e w3 ⟨rfl, b3⟩
  rw [← HLN.out]
  have st3 := st0.keep b3
  have hz3 := b3.size
  simp only [World.size_alloc] at hz3
  clear st0 b3
  go_wp2_with fail
  refine (newRows_any p L hp1 hp2 hphi1 (by omega) _).mono ?_
  rintro e w4 ⟨rfl, t4, b4⟩
  have st4 := st3.keep b4
  have hz4 := b4.size
  obtain ⟨T, hT⟩ : ∃ T, w3.heap.size = T := ⟨_, rfl⟩
  rw [hT] at t4 hz3 hz4
  simp only [hT]
  have ts := t4.size
  have HU4 := Lib.hid (t4.rwU (lo := T) hphi1 (by unfold maxLen; omega) (Nat.le_refl _) (Nat.le_succ _))
  obtain ⟨H, hH⟩ : ∃ H, w4.heap.size = H := ⟨_, rfl⟩
  rw [hH] at HU4 ts hz4
  have hHI : H ≤ w4.heap.size := by omega
  have HT4 := Lib.hid st4
  clear st3 st4 b4 t4 hT hH
  go_wp2
  go_loopw [19] (fun s wr => ∃ t : Nat, t ≤ p ∧ s = .int .i64 t ∧ H ≤ wr.heap.size ∧ RwU true wr T H (T + 1) 0 p p (fun i => .slice (some ⟨T, i * L, none⟩) L L) (fun _ => L) (fun i j => if i < t then G i j else 0) ∧ StR w wr [(w.heap.size, [.int .i64 0, .int .i64 0, .slice none 0 0])] [] []) (fun s _ => p - (intOf s).toNat)
  case atStart => exact ⟨0, Nat.zero_le _, rfl, hHI, HU4.out.congr (fun _ _ => rfl) (fun i j _ _ => by rw [if_neg (Nat.not_lt_zero _)]), HT4.out⟩
  case round =>
    clear HU4 HT4
    obtain ⟨t, ht, rfl, hHr, hu, hst⟩ := hrel
    have HU := Lib.hid hu; have HS := Lib.hid hst; clear hu hst
    by_cases hlt : t < p
    · have htp : t < p := by omega
      have cq := HU.out.head htp
      rw [Nat.zero_add] at cq
      have hltI : (t : Int) < (p : Int) := by omega
      go_wp2_with fail
      refine (HR.out t hlt _ HS.out.1).mono ?_
      rintro e w5 ⟨a5, k5, rfl, s5, b5⟩
      have hz5 := b5.size
      have HS5 := Lib.hid ((HS.out.keep b5).alloc (.cells #[.int .i64 (N : Int), .slice a5 L k5] 37))
      have HU5 := Lib.hid ((HU.out.keep b5 hHr).alloc (.cells #[.int .i64 (N : Int), .slice a5 L k5] 37))
      have HX := Lib.hid (HU5.out.row htp)
      have HN := Lib.hid (s5.alloc (.cells #[.int .i64 (N : Int), .slice a5 L k5] 37))
      clear HU HS s5 b5 cq
      go_wp2_with (
        (refine wpList_copyR rfl (.tmp 34) (.tmp 36) rfl HX.out HN.out rfl rfl (by omega) ?_; intro wA oA fA sA
         have UA := Lib.hid (HU5.out.putOnly htp oA sA)
         have SA := Lib.hid (HS5.out.write fA (by omega) (by intro b hb; simp only [List.mem_cons, List.not_mem_nil, or_false] at hb; rcases hb with rfl <;> dsimp only <;> omega) (by intro s hs'; cases hs') (by intro s hs'; cases hs'))
         have zA := fA.size
         simp only [World.size_alloc] at zA
         clear HU5 HS5 oA fA sA))
      go_roundw
      case rel =>
        refine ⟨t + 1, by omega, by go_num, by omega, UA.out.congr (fun _ _ => rfl) (fun y j hy hj => ?_), SA.out⟩
        by_cases e : y = t
        · rw [if_pos e, if_pos (by omega), e]
        · rw [if_neg e]
          by_cases e2 : y < t
          · rw [if_pos e2, if_pos (by omega)]
          · rw [if_neg e2, if_neg (by omega)]
      case measure => simp [intOf]; omega
    · obtain rfl : t = p := by omega
      obtain ⟨d0, d1, d2⟩ := (HS.out.box 0 (w.heap.size, [.int .i64 0, .int .i64 0, .slice none 0 0]) rfl).c3
      have dz := (HS.out.box 0 (w.heap.size, [.int .i64 0, .int .i64 0, .slice none 0 0]) rfl).2.2
      dsimp only at dz
      have BB := HS.out.1
      have hsz := HU.out.size
      go_wp2
      refine bodyPost_ret (v := .tuple #[.agg #[.int .i64 (t : Int), .int .i64 (N : Int), .slice (some ⟨T + 1, 0, none⟩) t t], .int .i64 0]) (by simp [results, Try.results92, go_sem, d0, d1, d2]) rfl ?_
      refine ⟨_, _, rfl, ?_, by go_grown⟩
      exact ((((HU.out.rw.setOther (.inl (by show w.heap.size < _; omega)) _).setOther (.inl (by show w.heap.size < _; omega)) _).setOther (.inl (by show w.heap.size < _; omega)) _).wide (by omega) (by simp; omega) (Nat.le_refl _)).congr (fun _ _ => rfl) (fun i j hi hj => by rw [if_pos hi])

set_option maxRecDepth 100000 in
set_option maxHeartbeats 4000000 in
theorem gwrConjugateGauss_bad (p N L : Nat) (K0 : Value) (G : Nat → Nat → Int) (hp1 : 1 ≤ p) (hp2 : p ≤ 61) (h1 : 1 ≤ N) (h2 : N ≤ 16) (hL : L = phiN N) (w : World) (c : Int) (hc : ¬ c = 0) (i0 : Nat) (hi0 : i0 < p) (hr : ∀ i, i < i0 → RowOk w 96 (fun i => #[.int .i64 i, K0]) N L G i) (hbad : RowBad w 96 (fun i => #[.int .i64 i, K0]) c i0) :
    Calls Try.prog 92 #[.int .i64 (p : Int), .int .i64 (N : Int), .func (.func 96) #[] #[K0]] w fun e w' => e = .returned (failG c) ∧ Below w.heap.size w w' := by
  have hphi := phi_le12 N (by omega) h1
  have hphi1 := phiN_pos N (by omega) h1
  rw [← hL] at hphi hphi1
  have HLN := Lib.hid hL
  have HR := Lib.hid hr
  clear hr hL
  have HBD := Lib.hid hbad; clear hbad
  have st0 := (StR.start w).boxNew3 (.int .i64 0) (.int .i64 0) (.slice none 0 0) 27
  go_enter Try.func92, Try.ntmps92
  go_wp2_with fail
  refine (totient_below N _ (by omega)).mono ?_
  rintro e w3 ⟨rfl, b3⟩
  rw [← HLN.out]
  have st3 := st0.keep b3
  have hz3 := b3.size
  simp only [World.size_alloc] at hz3
  clear st0 b3
  go_wp2_with fail
  refine (newRows_any p L hp1 hp2 hphi1 (by omega) _).mono ?_
  rintro e w4 ⟨rfl, t4, b4⟩
  have st4 := st3.keep b4
  have hz4 := b4.size
  obtain ⟨T, hT⟩ : ∃ T, w3.heap.size = T := ⟨_, rfl⟩
  rw [hT] at t4 hz3 hz4
  simp only [hT]
  have ts := t4.size
  have HU4 := Lib.hid (t4.rwU (lo := T) hphi1 (by unfold maxLen; omega) (Nat.le_refl _) (Nat.le_succ _))
  obtain ⟨H, hH⟩ : ∃ H, w4.heap.size = H := ⟨_, rfl⟩
  rw [hH] at HU4 ts hz4
  have hHI : H ≤ w4.heap.size := by omega
  have HT4 := Lib.hid st4
  clear st3 st4 b4 t4 hT hH
  go_wp2
  go_loopw [19] (fun s wr => ∃ t : Nat, t ≤ i0 ∧ s = .int .i64 t ∧ H ≤ wr.heap.size ∧ RwU true wr T H (T + 1) 0 p p (fun i => .slice (some ⟨T, i * L, none⟩) L L) (fun _ => L) (fun i j => if i < t then G i j else 0) ∧ StR w wr [(w.heap.size, [.int .i64 0, .int .i64 0, .slice none 0 0])] [] []) (fun s _ => p - (intOf s).toNat)
  case atStart => exact ⟨0, Nat.zero_le _, rfl, hHI, HU4.out.congr (fun _ _ => rfl) (fun i j _ _ => by rw [if_neg (Nat.not_lt_zero _)]), HT4.out⟩
  case round =>
    clear HU4 HT4
    obtain ⟨t, ht, rfl, hHr, hu, hst⟩ := hrel
    have HU := Lib.hid hu; have HS := Lib.hid hst; clear hu hst
    by_cases hlt : t < i0
    · have htp : t < p := by omega
      have cq := HU.out.head htp
      rw [Nat.zero_add] at cq
      have hltI : (t : Int) < (p : Int) := by omega
      go_wp2_with fail
      refine (HR.out t hlt _ HS.out.1).mono ?_
      rintro e w5 ⟨a5, k5, rfl, s5, b5⟩
      have hz5 := b5.size
      have HS5 := Lib.hid ((HS.out.keep b5).alloc (.cells #[.int .i64 (N : Int), .slice a5 L k5] 37))
      have HU5 := Lib.hid ((HU.out.keep b5 hHr).alloc (.cells #[.int .i64 (N : Int), .slice a5 L k5] 37))
      have HX := Lib.hid (HU5.out.row htp)
      have HN := Lib.hid (s5.alloc (.cells #[.int .i64 (N : Int), .slice a5 L k5] 37))
      clear HU HS s5 b5 cq
      go_wp2_with (
        (refine wpList_copyR rfl (.tmp 34) (.tmp 36) rfl HX.out HN.out rfl rfl (by omega) ?_; intro wA oA fA sA
         have UA := Lib.hid (HU5.out.putOnly htp oA sA)
         have SA := Lib.hid (HS5.out.write fA (by omega) (by intro b hb; simp only [List.mem_cons, List.not_mem_nil, or_false] at hb; rcases hb with rfl <;> dsimp only <;> omega) (by intro s hs'; cases hs') (by intro s hs'; cases hs'))
         have zA := fA.size
         simp only [World.size_alloc] at zA
         clear HU5 HS5 oA fA sA))
      go_roundw
      case rel =>
        refine ⟨t + 1, by omega, by go_num, by omega, UA.out.congr (fun _ _ => rfl) (fun y j hy hj => ?_), SA.out⟩
        by_cases e : y = t
        · rw [if_pos e, if_pos (by omega), e]
        · rw [if_neg e]
          by_cases e2 : y < t
          · rw [if_pos e2, if_pos (by omega)]
          · rw [if_neg e2, if_neg (by omega)]
      case measure => simp [intOf]; omega
    · obtain rfl : t = i0 := by omega
      have cq := HU.out.head hi0
      rw [Nat.zero_add] at cq
      have hltI : (t : Int) < (p : Int) := by omega
      go_wp2_with fail
      refine (HBD.out _ HS.out.1).mono ?_
      rintro e w5 ⟨rfl, b5⟩
      have S5 := (HS.out.keep b5).alloc (.cells #[.int .i64 0, .slice none 0 0] 37)
      obtain ⟨d0, d1, d2⟩ := (S5.box 0 (w.heap.size, [.int .i64 0, .int .i64 0, .slice none 0 0]) rfl).c3
      have dz := (S5.box 0 (w.heap.size, [.int .i64 0, .int .i64 0, .slice none 0 0]) rfl).2.2
      dsimp only at dz
      have BB := S5.1
      have hz5 := b5.size
      have hcb : (c != 0) = true := by simpa using hc
      clear HU HS b5 S5 HBD cq
      unfold failV
      go_wp2
      refine bodyPost_ret (v := failG c) (by simp [results, Try.results92, go_sem, failG, d0, d1, d2]) rfl ?_
      exact ⟨rfl, by go_grown⟩

set_option maxRecDepth 100000 in
set_option maxHeartbeats 4000000 in
theorem gwrScaleGauss_ok (p N L : Nat) (K0 K1 : Value) (G : Nat → Nat → Int) (hp1 : 1 ≤ p) (hp2 : p ≤ 61) (h1 : 1 ≤ N) (h2 : N ≤ 16) (hL : L = phiN N) (w : World) (hr : ∀ i, i < p → RowOk w 99 (fun i => #[.int .i64 i, K0, K1]) N L G i) :
    Calls Try.prog 92 #[.int .i64 (p : Int), .int .i64 (N : Int), .func (.func 99) #[] #[K0, K1]] w fun e w' => ∃ a' c', e = .returned (.tuple #[.agg #[.int .i64 (p : Int), .int .i64 (N : Int), .slice a' p c'], .int .i64 0]) ∧ Rw true w' w.heap.size w'.heap.size (.slice a' p c') p (fun _ => L) G ∧ Below w.heap.size w w' := by
  have hphi := phi_le12 N (by omega) h1
  have hphi1 := phiN_pos N (by omega) h1
  rw [← hL] at hphi hphi1
  have HLN := Lib.hid hL
  have HR := Lib.hid hr
  clear hr hL
  have st0 := (StR.start w).boxNew3 (.int .i64 0) (.int .i64 0) (.slice none 0 0) 27
  go_enter Try.func92, Try.ntmps92
  go_wp2_with fail
  refine (totient_below N _ (by omega)).mono ?_
  rintro e w3 ⟨rfl, b3⟩
  rw [← HLN.out]
  have st3 := st0.keep b3
  have hz3 := b3.size
  simp only [World.size_alloc] at hz3
  clear st0 b3
  go_wp2_with fail
  refine (newRows_any p L hp1 hp2 hphi1 (by omega) _).mono ?_
  rintro e w4 ⟨rfl, t4, b4⟩
  have st4 := st3.keep b4
  have hz4 := b4.size
  obtain ⟨T, hT⟩ : ∃ T, w3.heap.size = T := ⟨_, rfl⟩
  rw [hT] at t4 hz3 hz4
  simp only [hT]
  have ts := t4.size
  have HU4 := Lib.hid (t4.rwU (lo := T) hphi1 (by unfold maxLen; omega) (Nat.le_refl _) (Nat.le_succ _))
  obtain ⟨H, hH⟩ : ∃ H, w4.heap.size = H := ⟨_, rfl⟩
  rw [hH] at HU4 ts hz4
  have hHI : H ≤ w4.heap.size := by omega
  have HT4 := Lib.hid st4
  clear st3 st4 b4 t4 hT hH
  go_wp2
  go_loopw [19] (fun s wr => ∃ t : Nat, t ≤ p ∧ s = .int .i64 t ∧ H ≤ wr.heap.size ∧ RwU true wr T H (T + 1) 0 p p (fun i => .slice (some ⟨T, i * L, none⟩) L L) (fun _ => L) (fun i j => if i < t then G i j else 0) ∧ StR w wr [(w.heap.size, [.int .i64 0, .int .i64 0, .slice none 0 0])] [] []) (fun s _ => p - (intOf s).toNat)
  case atStart => exact ⟨0, Nat.zero_le _, rfl, hHI, HU4.out.congr (fun _ _ => rfl) (fun i j _ _ => by rw [if_neg (Nat.not_lt_zero _)]), HT4.out⟩
  case round =>
    clear HU4 HT4
    obtain ⟨t, ht, rfl, hHr, hu, hst⟩ := hrel
    have HU := Lib.hid hu; have HS := Lib.hid hst; clear hu hst
    by_cases hlt : t < p
    · have htp : t < p := by omega
      have cq := HU.out.head htp
      rw [Nat.zero_add] at cq
      have hltI : (t : Int) < (p : Int) := by omega
      go_wp2_with fail
      refine (HR.out t hlt _ HS.out.1).mono ?_
      rintro e w5 ⟨a5, k5, rfl, s5, b5⟩
      have hz5 := b5.size
      have HS5 := Lib.hid ((HS.out.keep b5).alloc (.cells #[.int .i64 (N : Int), .slice a5 L k5] 37))
      have HU5 := Lib.hid ((HU.out.keep b5 hHr).alloc (.cells #[.int .i64 (N : Int), .slice a5 L k5] 37))
      have HX := Lib.hid (HU5.out.row htp)
      have HN := Lib.hid (s5.alloc (.cells #[.int .i64 (N : Int), .slice a5 L k5] 37))
      clear HU HS s5 b5 cq
      go_wp2_with (
        (refine wpList_copyR rfl (.tmp 34) (.tmp 36) rfl HX.out HN.out rfl rfl (by omega) ?_; intro wA oA fA sA
         have UA := Lib.hid (HU5.out.putOnly htp oA sA)
         have SA := Lib.hid (HS5.out.write fA (by omega) (by intro b hb; simp only [List.mem_cons, List.not_mem_nil, or_false] at hb; rcases hb with rfl <;> dsimp only <;> omega) (by intro s hs'; cases hs') (by intro s hs'; cases hs'))
         have zA := fA.size
         simp only [World.size_alloc] at zA
         clear HU5 HS5 oA fA sA))
      go_roundw
      case rel =>
        refine ⟨t + 1, by omega, by go_num, by omega, UA.out.congr (fun _ _ => rfl) (fun y j hy hj => ?_), SA.out⟩
        by_cases e : y = t
        · rw [if_pos e, if_pos (by omega), e]
        · rw [if_neg e]
          by_cases e2 : y < t
          · rw [if_pos e2, if_pos (by omega)]
          · rw [if_neg e2, if_neg (by omega)]
      case measure => simp [intOf]; omega
    · obtain rfl : t = p := by omega
      obtain ⟨d0, d1, d2⟩ := (HS.out.box 0 (w.heap.size, [.int .i64 0, .int .i64 0, .slice none 0 0]) rfl).c3
      have dz := (HS.out.box 0 (w.heap.size, [.int .i64 0, .int .i64 0, .slice none 0 0]) rfl).2.2
      dsimp only at dz
      have BB := HS.out.1
      have hsz := HU.out.size
      go_wp2
      refine bodyPost_ret (v := .tuple #[.agg #[.int .i64 (t : Int), .int .i64 (N : Int), .slice (some ⟨T + 1, 0, none⟩) t t], .int .i64 0]) (by simp [results, Try.results92, go_sem, d0, d1, d2]) rfl ?_
      refine ⟨_, _, rfl, ?_, by go_grown⟩
      exact ((((HU.out.rw.setOther (.inl (by show w.heap.size < _; omega)) _).setOther (.inl (by show w.heap.size < _; omega)) _).setOther (.inl (by show w.heap.size < _; omega)) _).wide (by omega) (by simp; omega) (Nat.le_refl _)).congr (fun _ _ => rfl) (fun i j hi hj => by rw [if_pos hi])

set_option maxRecDepth 100000 in
set_option maxHeartbeats 4000000 in
theorem gwrScaleGauss_bad (p N L : Nat) (K0 K1 : Value) (G : Nat → Nat → Int) (hp1 : 1 ≤ p) (hp2 : p ≤ 61) (h1 : 1 ≤ N) (h2 : N ≤ 16) (hL : L = phiN N) (w : World) (c : Int) (hc : ¬ c = 0) (i0 : Nat) (hi0 : i0 < p) (hr : ∀ i, i < i0 → RowOk w 99 (fun i => #[.int .i64 i, K0, K1]) N L G i) (hbad : RowBad w 99 (fun i => #[.int .i64 i, K0, K1]) c i0) :
    Calls Try.prog 92 #[.int .i64 (p : Int), .int .i64 (N : Int), .func (.func 99) #[] #[K0, K1]] w fun e w' => e = .returned (failG c) ∧ Below w.heap.size w w' := by
  have hphi := phi_le12 N (by omega) h1
  have hphi1 := phiN_pos N (by omega) h1
  rw [← hL] at hphi hphi1
  have HLN := Lib.hid hL
  have HR := Lib.hid hr
  clear hr hL
  have HBD := Lib.hid hbad; clear hbad
  have st0 := (StR.start w).boxNew3 (.int .i64 0) (.int .i64 0) (.slice none 0 0) 27
  go_enter Try.func92, Try.ntmps92
  go_wp2_with fail
  refine (totient_below N _ (by omega)).mono ?_
  rintro e w3 ⟨rfl, b3⟩
  rw [← HLN.out]
  have st3 := st0.keep b3
  have hz3 := b3.size
  simp only [World.size_alloc] at hz3
  clear st0 b3
  go_wp2_with fail
  refine (newRows_any p L hp1 hp2 hphi1 (by omega) _).mono ?_
  rintro e w4 ⟨rfl, t4, b4⟩
  have st4 := st3.keep b4
  have hz4 := b4.size
  obtain ⟨T, hT⟩ : ∃ T, w3.heap.size = T := ⟨_, rfl⟩
  rw [hT] at t4 hz3 hz4
  simp only [hT]
  have ts := t4.size
  have HU4 := Lib.hid (t4.rwU (lo := T) hphi1 (by unfold maxLen; omega) (Nat.le_refl _) (Nat.le_succ _))
  obtain ⟨H, hH⟩ : ∃ H, w4.heap.size = H := ⟨_, rfl⟩
  rw [hH] at HU4 ts hz4
  have hHI : H ≤ w4.heap.size := by omega
  have HT4 := Lib.hid st4
  clear st3 st4 b4 t4 hT hH
  go_wp2
  go_loopw [19] (fun s wr => ∃ t : Nat, t ≤ i0 ∧ s = .int .i64 t ∧ H ≤ wr.heap.size ∧ RwU true wr T H (T + 1) 0 p p (fun i => .slice (some ⟨T, i * L, none⟩) L L) (fun _ => L) (fun i j => if i < t then G i j else 0) ∧ StR w wr [(w.heap.size, [.int .i64 0, .int .i64 0, .slice none 0 0])] [] []) (fun s _ => p - (intOf s).toNat)
  case atStart => exact ⟨0, Nat.zero_le _, rfl, hHI, HU4.out.congr (fun _ _ => rfl) (fun i j _ _ => by rw [if_neg (Nat.not_lt_zero _)]), HT4.out⟩
  case round =>
    clear HU4 HT4
    obtain ⟨t, ht, rfl, hHr, hu, hst⟩ := hrel
    have HU := Lib.hid hu; have HS := Lib.hid hst; clear hu hst
    by_cases hlt : t < i0
    · have htp : t < p := by omega
      have cq := HU.out.head htp
      rw [Nat.zero_add] at cq
      have hltI : (t : Int) < (p : Int) := by omega
      go_wp2_with fail
      refine (HR.out t hlt _ HS.out.1).mono ?_
      rintro e w5 ⟨a5, k5, rfl, s5, b5⟩
      have hz5 := b5.size
      have HS5 := Lib.hid ((HS.out.keep b5).alloc (.cells #[.int .i64 (N : Int), .slice a5 L k5] 37))
      have HU5 := Lib.hid ((HU.out.keep b5 hHr).alloc (.cells #[.int .i64 (N : Int), .slice a5 L k5] 37))
      have HX := Lib.hid (HU5.out.row htp)
      have HN := Lib.hid (s5.alloc (.cells #[.int .i64 (N : Int), .slice a5 L k5] 37))
      clear HU HS s5 b5 cq
      go_wp2_with (
        (refine wpList_copyR rfl (.tmp 34) (.tmp 36) rfl HX.out HN.out rfl rfl (by omega) ?_; intro wA oA fA sA
         have UA := Lib.hid (HU5.out.putOnly htp oA sA)
         have SA := Lib.hid (HS5.out.write fA (by omega) (by intro b hb; simp only [List.mem_cons, List.not_mem_nil, or_false] at hb; rcases hb with rfl <;> dsimp only <;> omega) (by intro s hs'; cases hs') (by intro s hs'; cases hs'))
         have zA := fA.size
         simp only [World.size_alloc] at zA
         clear HU5 HS5 oA fA sA))
      go_roundw
      case rel =>
        refine ⟨t + 1, by omega, by go_num, by omega, UA.out.congr (fun _ _ => rfl) (fun y j hy hj => ?_), SA.out⟩
        by_cases e : y = t
        · rw [if_pos e, if_pos (by omega), e]
        · rw [if_neg e]
          by_cases e2 : y < t
          · rw [if_pos e2, if_pos (by omega)]
          · rw [if_neg e2, if_neg (by omega)]
      case measure => simp [intOf]; omega
    · obtain rfl : t = i0 := by omega
      have cq := HU.out.head hi0
      rw [Nat.zero_add] at cq
      have hltI : (t : Int) < (p : Int) := by omega
      go_wp2_with fail
      refine (HBD.out _ HS.out.1).mono ?_
      rintro e w5 ⟨rfl, b5⟩
      have S5 := (HS.out.keep b5).alloc (.cells #[.int .i64 0, .slice none 0 0] 37)
      obtain ⟨d0, d1, d2⟩ := (S5.box 0 (w.heap.size, [.int .i64 0, .int .i64 0, .slice none 0 0]) rfl).c3
      have dz := (S5.box 0 (w.heap.size, [.int .i64 0, .int .i64 0, .slice none 0 0]) rfl).2.2
      dsimp only at dz
      have BB := S5.1
      have hz5 := b5.size
      have hcb : (c != 0) = true := by simpa using hc
      clear HU HS b5 S5 HBD cq
      unfold failV
      go_wp2
      refine bodyPost_ret (v := failG c) (by simp [results, Try.results92, go_sem, failG, d0, d1, d2]) rfl ?_
      exact ⟨rfl, by go_grown⟩
end Go.Proofs.Ythmhjnholhiohaa
