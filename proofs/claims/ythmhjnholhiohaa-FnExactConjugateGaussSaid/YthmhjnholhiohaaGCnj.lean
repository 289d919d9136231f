/- ConjugateGauss of the program and of the model. -/
import Derived.Test.YthmhjnholhiohaaGTol
import Derived.Test.YthmhjnholhiohaaGWr
import Derived.Test.YthmhjnholhiohaaConj
import Derived.Test.YthmhjnholhiohaaGalZ
import Derived.Deep.RegionHeld3
namespace Go.Proofs.Ythmhjnholhiohaa
open Go.RowKit Go.ChangeShapes Go.Sort Go.WideShapes
set_option linter.unusedVariables false
set_option linter.unusedSimpArgs false

/-- The rows of the conjugate. -/
def cjF (m N L : Nat) (F : Nat → Nat → Int) (i j : Nat) : Int := if i = 0 then 0 else imgP N (N - 1) L (F (m - i)) j
theorem run_partsG (x y : Value) (w : World) : (Instr.field 37 (.agg #[x, y]) 1).run Try.prog w = .ok y w := by kernel_rfl
theorem img_zero {n a L : Nat} {f : Nat → Int} (hn : n < 17) (h1 : 1 ≤ n) (hL : L ≤ 12) (h : ∀ j, j < L → f j = 0) {j : Nat} (hj : j < phiN n) : imgP n a L f j = 0 := by
  rw [imgP_gal hn h1 (fun j hj => by rw [h j hj]; omega) hL hj]
  unfold galZ
  rw [sumN_congr (G := fun _ => 0) (fun p hp => by rw [h p hp, Int.zero_mul])]
  exact sumN_zero L
/-- Row i of the program's. -/
theorem cj_row {m N L : Nat} {F : Nat → Nat → Int} (hn : N < 17) (h1 : 1 ≤ N) (hL : L = phiN N) (hL12 : L ≤ 12) (hz : ∀ j, j < L → F 0 j = 0) {i j : Nat} (hi : i < m) (hj : j < L) : imgP N (N - 1) L (F ((m - i) % m)) j = cjF m N L F i j := by
  unfold cjF
  by_cases e : i = 0
  · subst e
    rw [if_pos rfl, Nat.sub_zero, Nat.mod_self]
    exact img_zero hn h1 hL12 hz (by omega)
  · rw [if_neg e, Nat.mod_eq_of_lt (by omega)]

section
variable {o : Bool} {lo hi : Nat} {V : Value} {m L : Nat} {ln : Nat → Nat} {F : Nat → Nat → Int}


set_option maxRecDepth 100000 in
set_option maxHeartbeats 2000000 in
theorem cjOne_ok (N i b : Nat) (w : World) (hb : Box w b [.int .i64 (m : Int), .int .i64 (N : Int), V]) (hs : Rw o w lo hi V m ln F) (hi' : i < m) (hm : m ≤ 61) (hL : L = phiN N) (hln : ∀ i, i < m → ln i = L) (hcy : ∀ i, i < m → CyP (N : Int) L (F i)) (hw : Within (imgP N (N - 1) L (F ((m - i) % m))) L 1000000000) :
    Calls Try.prog 96 #[.int .i64 (i : Int), .pointer (some ⟨b, 0, none⟩)] w fun e w' => ∃ a k, e = .returned (.tuple #[.agg #[.int .i64 (N : Int), .slice a L k], .int .i64 0]) ∧ Sl true w' w.heap.size w'.heap.size (.slice a L k) L (imgP N (N - 1) L (F ((m - i) % m))) ∧ Below w.heap.size w w' := by
  obtain ⟨a, cap, rfl⟩ := hs.shape
  have hm0 : 0 < m := by omega
  obtain ⟨q, hq⟩ : ∃ q, (m - i) % m = q := ⟨_, rfl⟩
  have hqm : q < m := by rw [← hq]; exact Nat.mod_lt _ hm0
  rw [hq] at hw ⊢
  have hws : IntKind.i64.wrap ((m : Int) - (i : Int)) = ((m - i : Nat) : Int) := by rw [IntWalk.i64_in _ (by omega)]; omega
  have htm : ((m - i : Nat) : Int).tmod (m : Int) = (q : Int) := by rw [Int.tmod_eq_emod_of_nonneg (by omega), ← hq, Int.natCast_emod]
  have hem : ((m - i : Nat) : Int) % (m : Int) = (q : Int) := by rw [← hq, Int.natCast_emod]
  have hm00 : ¬ m = 0 := by omega
  have HCY := Lib.hid (hcy q hqm)
  have HLQ := Lib.hid (hln q hqm)
  have HLN := Lib.hid hL
  have HWI := Lib.hid (show Within (imgP N (N - 1) L (F q)) (phiN N) 1000000000 by rw [← hL]; exact hw)
  clear hw hcy hln hL hq
  generalize hmi : (m - i : Nat) = mi at *
  have hbl := hb.1
  have st0 := (((StR.start w).addRw ⟨o, lo, hi, .slice a m cap, m, ln, F⟩ hs).addBox b [.int .i64 (m : Int), .int .i64 (N : Int), .slice a m cap] hb).boxNew (.int .i64 0) (.slice none 0 0) 37
  clear hs hb hmi
  obtain ⟨c0, c1, c2⟩ := (st0.box 1 (b, [.int .i64 (m : Int), .int .i64 (N : Int), .slice a m cap]) rfl).c3
  go_enter Try.func96, Try.ntmps96
  go_wp2
  go_region_held3 (fun w' => w'.cell? ⟨b, 0, none⟩ = some (.int .i64 (m : Int)) ∧ w'.cell? ⟨b, 1, none⟩ = some (.int .i64 (N : Int)) ∧ w'.cell? ⟨b, 2, none⟩ = some (.slice a m cap))
    (first | exact ⟨c0, c1, c2⟩ | exact ⟨cell_later b6 c0, cell_later b6 c1, cell_later b6 c2⟩ | exact ⟨cell_later b7 (cell_later b6 c0), cell_later b7 (cell_later b6 c1), cell_later b7 (cell_later b6 c2)⟩ | exact ⟨cell_one (cell_one (cell_later b7 (cell_later b6 c0)) (by omega)) (by omega), cell_one (cell_one (cell_later b7 (cell_later b6 c1)) (by omega)) (by omega), cell_one (cell_one (cell_later b7 (cell_later b6 c2)) (by omega)) (by omega)⟩ | go_keep)
    (first
      | (go_at_call 68; refine (rowNumber_any _ _ _ (st0.drew.rw 0 ⟨o, lo, hi, .slice a m cap, m, ln, F⟩ rfl) q hqm).mono ?_; rintro e w6 ⟨u6, rfl, s6, b6⟩
         dsimp only at s6
         rw [HLQ.out] at s6)
      | (go_at_call 97; refine (ConjugateOf_impl_ok N _ s6 HCY.out HWI.out).mono ?_; rintro e w7 ⟨a7, k7, rfl, s7, b7⟩
         have st7 := (st0.drew.keep b6).keep b7
         obtain ⟨d0, d1⟩ := (st7.box 0 (w.heap.size, [.int .i64 0, .slice none 0 0]) rfl).cell2
         have dz := (st7.box 0 (w.heap.size, [.int .i64 0, .slice none 0 0]) rfl).2.2
         dsimp only at dz))
  all_goals
    have hz6 := b6.size
    have hz7 := b7.size
    simp only [World.size_drew, World.size_alloc] at hz6
    have BB := st7.1
    have S7 := Lib.hid s7
    clear b6 b7 s7 st7 s6
    
    go_wp2
    rw [← HLN.out] at S7
    refine bodyPost_ret (v := .tuple #[.agg #[.int .i64 (N : Int), .slice a7 L k7], .int .i64 0]) (by simp [results, Try.results96, go_sem, d0, d1, HLN.out]) rfl ?_
    refine ⟨_, _, rfl, ?_, by go_grown⟩
    exact ((S7.out.setOther (.inl (by show w.heap.size < _; omega)) _).setOther (.inl (by show w.heap.size < _; omega)) _).wide (by omega) (by simp) (Nat.le_refl _)


set_option maxRecDepth 100000 in
set_option maxHeartbeats 2000000 in
theorem cjOne_bad (N i b : Nat) (w : World) (hb : Box w b [.int .i64 (m : Int), .int .i64 (N : Int), V]) (hs : Rw o w lo hi V m ln F) (hi' : i < m) (hm : m ≤ 61) (hL : L = phiN N) (hln : ∀ i, i < m → ln i = L) (hcy : ∀ i, i < m → CyP (N : Int) L (F i)) (hw : ¬ Within (imgP N (N - 1) L (F ((m - i) % m))) L 1000000000) :
    Calls Try.prog 96 #[.int .i64 (i : Int), .pointer (some ⟨b, 0, none⟩)] w fun e w' => e = .returned (failV 3) ∧ Below w.heap.size w w' := by
  obtain ⟨a, cap, rfl⟩ := hs.shape
  have hm0 : 0 < m := by omega
  obtain ⟨q, hq⟩ : ∃ q, (m - i) % m = q := ⟨_, rfl⟩
  have hqm : q < m := by rw [← hq]; exact Nat.mod_lt _ hm0
  rw [hq] at hw
  have hws : IntKind.i64.wrap ((m : Int) - (i : Int)) = ((m - i : Nat) : Int) := by rw [IntWalk.i64_in _ (by omega)]; omega
  have htm : ((m - i : Nat) : Int).tmod (m : Int) = (q : Int) := by rw [Int.tmod_eq_emod_of_nonneg (by omega), ← hq, Int.natCast_emod]
  have hem : ((m - i : Nat) : Int) % (m : Int) = (q : Int) := by rw [← hq, Int.natCast_emod]
  have hm00 : ¬ m = 0 := by omega
  have HCY := Lib.hid (hcy q hqm)
  have HLQ := Lib.hid (hln q hqm)
  have HLN := Lib.hid hL
  have HWI := Lib.hid (show ¬ Within (imgP N (N - 1) L (F q)) (phiN N) 1000000000 by rw [← hL]; exact hw)
  clear hw hcy hln hL hq
  generalize hmi : (m - i : Nat) = mi at *
  have hbl := hb.1
  have st0 := (((StR.start w).addRw ⟨o, lo, hi, .slice a m cap, m, ln, F⟩ hs).addBox b [.int .i64 (m : Int), .int .i64 (N : Int), .slice a m cap] hb).boxNew (.int .i64 0) (.slice none 0 0) 37
  clear hs hb hmi
  obtain ⟨c0, c1, c2⟩ := (st0.box 1 (b, [.int .i64 (m : Int), .int .i64 (N : Int), .slice a m cap]) rfl).c3
  go_enter Try.func96, Try.ntmps96
  go_wp2
  go_region_held3 (fun w' => w'.cell? ⟨b, 0, none⟩ = some (.int .i64 (m : Int)) ∧ w'.cell? ⟨b, 1, none⟩ = some (.int .i64 (N : Int)) ∧ w'.cell? ⟨b, 2, none⟩ = some (.slice a m cap))
    (first | exact ⟨c0, c1, c2⟩ | exact ⟨cell_later b6 c0, cell_later b6 c1, cell_later b6 c2⟩ | exact ⟨cell_later b7 (cell_later b6 c0), cell_later b7 (cell_later b6 c1), cell_later b7 (cell_later b6 c2)⟩ | exact ⟨cell_one (cell_one (cell_later b7 (cell_later b6 c0)) (by omega)) (by omega), cell_one (cell_one (cell_later b7 (cell_later b6 c1)) (by omega)) (by omega), cell_one (cell_one (cell_later b7 (cell_later b6 c2)) (by omega)) (by omega)⟩ | go_keep)
    (first
      | (go_at_call 68; refine (rowNumber_any _ _ _ (st0.drew.rw 0 ⟨o, lo, hi, .slice a m cap, m, ln, F⟩ rfl) q hqm).mono ?_; rintro e w6 ⟨u6, rfl, s6, b6⟩
         dsimp only at s6
         rw [HLQ.out] at s6)
      | (go_at_call 97; refine (ConjugateOf_impl_big N _ s6 HCY.out HWI.out).mono ?_; rintro e w7 ⟨rfl, b7⟩; unfold failV
         have st7 := (st0.drew.keep b6).keep b7
         obtain ⟨d0, d1⟩ := (st7.box 0 (w.heap.size, [.int .i64 0, .slice none 0 0]) rfl).cell2
         have dz := (st7.box 0 (w.heap.size, [.int .i64 0, .slice none 0 0]) rfl).2.2
         dsimp only at dz))
  all_goals
    have hz6 := b6.size
    have hz7 := b7.size
    simp only [World.size_drew, World.size_alloc] at hz6
    have BB := st7.1
    skip
    clear b6 b7 st7 s6
    unfold failV at *
    go_wp2
    refine bodyPost_ret (v := .tuple #[.agg #[.int .i64 0, .slice none 0 0], .int .i64 3]) (by simp [results, Try.results96, go_sem, d0, d1]) rfl ?_
    exact ⟨rfl, by go_grown⟩


set_option maxRecDepth 100000 in
theorem ConjugateGauss_impl_bad (x y : Int) (w : World) (hs : Rw o w lo hi V m ln F) (h : ¬ GsP x y m ln F) :
    Calls Try.prog 36 #[.agg #[.int .i64 x, .int .i64 y, V]] w fun e w' => e = .returned (failG 1) ∧ Below w.heap.size w w' := by
  obtain ⟨a, cap, rfl⟩ := hs.shape
  have hml := hs.len
  unfold maxLen at hml
  have hh := hs.size
  have st0 := ((StR.start w).addRw ⟨o, lo, hi, .slice a m cap, m, ln, F⟩ hs).boxNew3 (.int .i64 x) (.int .i64 y) (.slice a m cap) 27
  replace st0 := st0.boxNew3 (.int .i64 0) (.int .i64 0) (.slice none 0 0) 27
  simp only [World.size_alloc] at st0
  have HG := Lib.hid (gsB_no h)
  clear hs h
  obtain ⟨c0, c1, c2⟩ := (st0.box 1 (w.heap.size, [.int .i64 x, .int .i64 y, .slice a m cap]) rfl).c3
  go_enter Try.func36, Try.ntmps36
  have q0 := st0.rw 0 ⟨o, lo, hi, .slice a m cap, m, ln, F⟩ rfl
  dsimp only at q0
  go_wp2_with fail
  refine (IsGauss_any _ _ _ q0).mono ?_
  rintro e w1 ⟨rfl, b1⟩
  rw [HG.out]
  have st1 := st0.keep b1
  have hz1 := b1.size
  simp only [World.size_alloc] at hz1
  clear st0 b1 q0
  clear c0 c1 c2
  obtain ⟨d0, d1, d2⟩ := (st1.box 0 (w.heap.size + 1, [.int .i64 0, .int .i64 0, .slice none 0 0]) rfl).c3
  have dz := (st1.box 0 (w.heap.size + 1, [.int .i64 0, .int .i64 0, .slice none 0 0]) rfl).2.2
  dsimp only at dz
  have BB := st1.1
  go_wp2
  refine bodyPost_ret (v := failG 1) (by simp [results, Try.results36, go_sem, failG, d0, d1, d2]) rfl ?_
  exact ⟨rfl, by first | exact BB | go_grown⟩


set_option maxRecDepth 100000 in
theorem ConjugateGauss_spec_bad (x y : Int) (w : World) (hs : Rw o w lo hi V m ln F) (h : ¬ GsP x y m ln F) :
    Calls Try.prog 35 #[.agg #[.int .i64 x, .int .i64 y, V]] w fun e w' => e = .returned (failG 1) ∧ Below w.heap.size w w' := by
  obtain ⟨a, cap, rfl⟩ := hs.shape
  have hml := hs.len
  unfold maxLen at hml
  have hh := hs.size
  have st0 := ((StR.start w).addRw ⟨o, lo, hi, .slice a m cap, m, ln, F⟩ hs).boxNew3 (.int .i64 x) (.int .i64 y) (.slice a m cap) 27
  replace st0 := st0.boxNew3 (.int .i64 0) (.int .i64 0) (.slice none 0 0) 27
  simp only [World.size_alloc] at st0
  have HG := Lib.hid (gsB_no h)
  clear hs h
  obtain ⟨c0, c1, c2⟩ := (st0.box 1 (w.heap.size, [.int .i64 x, .int .i64 y, .slice a m cap]) rfl).c3
  go_enter Try.func35, Try.ntmps35
  have q0 := st0.rw 0 ⟨o, lo, hi, .slice a m cap, m, ln, F⟩ rfl
  dsimp only at q0
  go_wp2_with fail
  refine (l05Is_any _ _ _ q0).mono ?_
  rintro e w1 ⟨rfl, b1⟩
  rw [HG.out]
  have st1 := st0.keep b1
  have hz1 := b1.size
  simp only [World.size_alloc] at hz1
  clear st0 b1 q0
  clear c0 c1 c2
  obtain ⟨d0, d1, d2⟩ := (st1.box 0 (w.heap.size + 1, [.int .i64 0, .int .i64 0, .slice none 0 0]) rfl).c3
  have dz := (st1.box 0 (w.heap.size + 1, [.int .i64 0, .int .i64 0, .slice none 0 0]) rfl).2.2
  dsimp only at dz
  have BB := st1.1
  go_wp2
  refine bodyPost_ret (v := failG 1) (by simp [results, Try.results35, go_sem, failG, d0, d1, d2]) rfl ?_
  exact ⟨rfl, by first | exact BB | go_grown⟩


set_option maxRecDepth 100000 in
set_option maxHeartbeats 2000000 in
theorem ConjugateGauss_impl_ok (N : Nat) (w : World) (hs : Rw o w lo hi V m ln F) (h : GsP (m : Int) (N : Int) m ln F) (hfit : ∀ i, i < m → Within (cjF m N (phiN N) F i) (phiN N) 1000000000) :
    Calls Try.prog 36 #[.agg #[.int .i64 (m : Int), .int .i64 (N : Int), V]] w fun e w' => ∃ a' c', e = .returned (.tuple #[.agg #[.int .i64 (m : Int), .int .i64 (N : Int), .slice a' m c'], .int .i64 0]) ∧ Rw true w' w.heap.size w'.heap.size (.slice a' m c') m (fun _ => phiN N) (cjF m N (phiN N) F) ∧ Below w.heap.size w w' := by
  obtain ⟨a, cap, rfl⟩ := hs.shape
  have HG := Lib.hid (gsB_yes h)
  obtain ⟨N', hx, hy, hp, h3, h61, h1, h16, hln, hcy, hwi, hz⟩ := h.nat
  obtain rfl : N' = N := by omega
  have hphi := phi_le12 N' (by omega) h1
  have hphi1 := phiN_pos N' (by omega) h1
  have HLN := Lib.hid hln; have HCY := Lib.hid hcy; have HWI := Lib.hid hwi; have HZ := Lib.hid hz; have HPR := Lib.hid hp
  have hml := hs.len
  unfold maxLen at hml
  have hh := hs.size
  have st0 := ((StR.start w).addRw ⟨o, lo, hi, .slice a m cap, m, ln, F⟩ hs).boxNew3 (.int .i64 (m : Int)) (.int .i64 (N' : Int)) (.slice a m cap) 27
  replace st0 := st0.boxNew3 (.int .i64 0) (.int .i64 0) (.slice none 0 0) 27
  simp only [World.size_alloc] at st0
  clear hs h hp hln hcy hwi hz hx hy
  obtain ⟨c0, c1, c2⟩ := (st0.box 1 (w.heap.size, [.int .i64 (m : Int), .int .i64 (N' : Int), .slice a m cap]) rfl).c3
  have HFIT := Lib.hid hfit; clear hfit
  go_enter Try.func36, Try.ntmps36
  have q0 := st0.rw 0 ⟨o, lo, hi, .slice a m cap, m, ln, F⟩ rfl
  dsimp only at q0
  go_wp2_with fail
  refine (IsGauss_any _ _ _ q0).mono ?_
  rintro e w1 ⟨rfl, b1⟩
  rw [HG.out]
  have st1 := st0.keep b1
  have hz1 := b1.size
  simp only [World.size_alloc] at hz1
  clear st0 b1 q0
  clear c0 c1 c2
  have BX := Lib.hid (st1.box 1 (w.heap.size, [.int .i64 (m : Int), .int .i64 (N' : Int), .slice a m cap]) rfl)
  have RX := Lib.hid (st1.rw 0 ⟨o, lo, hi, .slice a m cap, m, ln, F⟩ rfl)
  obtain ⟨c0, c1, c2⟩ := BX.out.c3
  go_wp2_with fail
  refine (gwrConjugateGauss_ok m N' (phiN N') (.pointer (some ⟨w.heap.size, 0, none⟩)) (cjF m N' (phiN N') F) (by omega) h61 h1 h16 rfl _ (fun i hi w' hb => ?_)).mono ?_
  · have hw : Within (imgP N' (N' - 1) (phiN N') (F ((m - i) % m))) (phiN N') 1000000000 := fun j hj => by rw [cj_row (by omega) h1 rfl hphi HZ.out hi hj]; exact HFIT.out i hi j hj
    refine (cjOne_ok N' i w.heap.size w' (BX.out.keep hb) (RX.out.keep hb RX.out.size) hi h61 rfl HLN.out HCY.out hw).mono ?_
    rintro e w'' ⟨a', k', rfl, s', b'⟩
    exact ⟨a', k', rfl, s'.congr (fun j hj => (cj_row (by omega) h1 rfl hphi HZ.out hi hj).symm), b'⟩
  rintro e w2 ⟨a2, k2, rfl, s2, b2⟩
  have st2 := st1.keep b2
  have hz2 := b2.size
  have S2 := Lib.hid s2
  clear st1 b2 c0 c1 c2 s2
  obtain ⟨d0, d1, d2⟩ := (st2.box 0 (w.heap.size + 1, [.int .i64 0, .int .i64 0, .slice none 0 0]) rfl).c3
  have dz := (st2.box 0 (w.heap.size + 1, [.int .i64 0, .int .i64 0, .slice none 0 0]) rfl).2.2
  dsimp only at dz
  have BB := st2.1
  go_wp2
  refine bodyPost_ret (v := .tuple #[.agg #[.int .i64 (m : Int), .int .i64 (N' : Int), .slice a2 m k2], .int .i64 0]) (by simp [results, Try.results36, go_sem, d0, d1, d2]) rfl ?_
  refine ⟨_, _, rfl, ?_, by go_grown⟩
  exact (((S2.out.setOther (.inl (by show w.heap.size + 1 < _; omega)) _).setOther (.inl (by show w.heap.size + 1 < _; omega)) _).setOther (.inl (by show w.heap.size + 1 < _; omega)) _).wide (by omega) (by simp) (Nat.le_refl _)


set_option maxRecDepth 100000 in
set_option maxHeartbeats 2000000 in
theorem ConjugateGauss_impl_big (N : Nat) (w : World) (hs : Rw o w lo hi V m ln F) (h : GsP (m : Int) (N : Int) m ln F) (hfit : ¬ ∀ i, i < m → Within (cjF m N (phiN N) F i) (phiN N) 1000000000) :
    Calls Try.prog 36 #[.agg #[.int .i64 (m : Int), .int .i64 (N : Int), V]] w fun e w' => e = .returned (failG 3) ∧ Below w.heap.size w w' := by
  obtain ⟨a, cap, rfl⟩ := hs.shape
  have HG := Lib.hid (gsB_yes h)
  obtain ⟨N', hx, hy, hp, h3, h61, h1, h16, hln, hcy, hwi, hz⟩ := h.nat
  obtain rfl : N' = N := by omega
  have hphi := phi_le12 N' (by omega) h1
  have hphi1 := phiN_pos N' (by omega) h1
  have HLN := Lib.hid hln; have HCY := Lib.hid hcy; have HWI := Lib.hid hwi; have HZ := Lib.hid hz; have HPR := Lib.hid hp
  have hml := hs.len
  unfold maxLen at hml
  have hh := hs.size
  have st0 := ((StR.start w).addRw ⟨o, lo, hi, .slice a m cap, m, ln, F⟩ hs).boxNew3 (.int .i64 (m : Int)) (.int .i64 (N' : Int)) (.slice a m cap) 27
  replace st0 := st0.boxNew3 (.int .i64 0) (.int .i64 0) (.slice none 0 0) 27
  simp only [World.size_alloc] at st0
  clear hs h hp hln hcy hwi hz hx hy
  obtain ⟨c0, c1, c2⟩ := (st0.box 1 (w.heap.size, [.int .i64 (m : Int), .int .i64 (N' : Int), .slice a m cap]) rfl).c3
  obtain ⟨i0, hi0, hn0, hfit'⟩ : ∃ i0, i0 < m ∧ ¬ Within (cjF m N' (phiN N') F i0) (phiN N') 1000000000 ∧ ∀ i, i < i0 → Within (cjF m N' (phiN N') F i) (phiN N') 1000000000 := by
    rcases first_fail (P := fun i => Within (cjF m N' (phiN N') F i) (phiN N') 1000000000) m with q | q
    · exact absurd q hfit
    · exact q
  have HFIT := Lib.hid hfit'; have HNF := Lib.hid hn0; clear hfit hfit' hn0
  go_enter Try.func36, Try.ntmps36
  have q0 := st0.rw 0 ⟨o, lo, hi, .slice a m cap, m, ln, F⟩ rfl
  dsimp only at q0
  go_wp2_with fail
  refine (IsGauss_any _ _ _ q0).mono ?_
  rintro e w1 ⟨rfl, b1⟩
  rw [HG.out]
  have st1 := st0.keep b1
  have hz1 := b1.size
  simp only [World.size_alloc] at hz1
  clear st0 b1 q0
  clear c0 c1 c2
  have BX := Lib.hid (st1.box 1 (w.heap.size, [.int .i64 (m : Int), .int .i64 (N' : Int), .slice a m cap]) rfl)
  have RX := Lib.hid (st1.rw 0 ⟨o, lo, hi, .slice a m cap, m, ln, F⟩ rfl)
  obtain ⟨c0, c1, c2⟩ := BX.out.c3
  go_wp2_with fail
  refine (gwrConjugateGauss_bad m N' (phiN N') (.pointer (some ⟨w.heap.size, 0, none⟩)) (cjF m N' (phiN N') F) (by omega) h61 h1 h16 rfl _ 3 (by decide) i0 hi0 (fun i hi w' hb => ?_) (fun w' hb => ?_)).mono ?_
  · have hw : Within (imgP N' (N' - 1) (phiN N') (F ((m - i) % m))) (phiN N') 1000000000 := fun j hj => by rw [cj_row (by omega) h1 rfl hphi HZ.out (by omega) hj]; exact HFIT.out i hi j hj
    refine (cjOne_ok N' i w.heap.size w' (BX.out.keep hb) (RX.out.keep hb RX.out.size) (by omega) h61 rfl HLN.out HCY.out hw).mono ?_
    rintro e w'' ⟨a', k', rfl, s', b'⟩
    exact ⟨a', k', rfl, s'.congr (fun j hj => (cj_row (by omega) h1 rfl hphi HZ.out (by omega) hj).symm), b'⟩
  · have hw : ¬ Within (imgP N' (N' - 1) (phiN N') (F ((m - i0) % m))) (phiN N') 1000000000 := fun h => HNF.out (fun j hj => by rw [← cj_row (by omega) h1 rfl hphi HZ.out hi0 hj]; exact h j hj)
    exact cjOne_bad N' i0 w.heap.size w' (BX.out.keep hb) (RX.out.keep hb RX.out.size) hi0 h61 rfl HLN.out HCY.out hw
  rintro e w2 ⟨rfl, b2⟩
  have st2 := st1.keep b2
  have hz2 := b2.size
  unfold failG
  clear st1 b2 c0 c1 c2
  obtain ⟨d0, d1, d2⟩ := (st2.box 0 (w.heap.size + 1, [.int .i64 0, .int .i64 0, .slice none 0 0]) rfl).c3
  have dz := (st2.box 0 (w.heap.size + 1, [.int .i64 0, .int .i64 0, .slice none 0 0]) rfl).2.2
  dsimp only at dz
  have BB := st2.1
  go_wp2
  refine bodyPost_ret (v := .tuple #[.agg #[.int .i64 0, .int .i64 0, .slice none 0 0], .int .i64 3]) (by simp [results, Try.results36, go_sem, d0, d1, d2]) rfl ?_
  exact ⟨rfl, by go_grown⟩


/-- The model's rows under way: those for the numbers below t of x are there. -/
def cjT (m N L : Nat) (F : Nat → Nat → Int) (t i j : Nat) : Int := if i ≠ 0 ∧ m - i < t then imgP N (N - 1) L (F (m - i)) j else 0
set_option maxRecDepth 100000 in
set_option maxHeartbeats 4000000 in
theorem l05Bar_any (N : Nat) (w : World) (hs : Rw o w lo hi V m ln F) (h : GsP (m : Int) (N : Int) m ln F) :
    Calls Try.prog 95 #[.agg #[.int .i64 (m : Int), .int .i64 (N : Int), V]] w fun e w' => ∃ a' c', e = .returned (.agg #[.int .i64 (m : Int), .int .i64 (N : Int), .slice a' m c']) ∧ Rw true w' w.heap.size w'.heap.size (.slice a' m c') m (fun _ => phiN N) (cjF m N (phiN N) F) ∧ Below w.heap.size w w' := by
  obtain ⟨a, cap, rfl⟩ := hs.shape
  have HG := Lib.hid (gsB_yes h)
  obtain ⟨N', hx, hy, hp, h3, h61, h1, h16, hln, hcy, hwi, hz⟩ := h.nat
  obtain rfl : N' = N := by omega
  have hphi := phi_le12 N' (by omega) h1
  have hphi1 := phiN_pos N' (by omega) h1
  have HLN := Lib.hid hln; have HCY := Lib.hid hcy; have HWI := Lib.hid hwi; have HZ := Lib.hid hz; have HPR := Lib.hid hp
  have hml := hs.len
  unfold maxLen at hml
  have hh := hs.size
  have st0 := ((StR.start w).addRw ⟨o, lo, hi, .slice a m cap, m, ln, F⟩ hs).boxNew3 (.int .i64 (m : Int)) (.int .i64 (N' : Int)) (.slice a m cap) 27
  replace st0 := st0.boxNew3 (.int .i64 0) (.int .i64 0) (.slice none 0 0) 27
  simp only [World.size_alloc] at st0
  clear hs h hp hln hcy hwi hz hx hy
  obtain ⟨c0, c1, c2⟩ := (st0.box 1 (w.heap.size, [.int .i64 (m : Int), .int .i64 (N' : Int), .slice a m cap]) rfl).c3
  clear HG
  obtain ⟨L, hL⟩ : ∃ L, phiN N' = L := ⟨_, rfl⟩
  rw [hL] at HLN HCY HWI HZ hphi hphi1 ⊢
  have HL := Lib.hid hL; clear hL
  go_enter Try.func95, Try.ntmps95
  go_wp2_with fail
  refine (l05Zeros_any m N' h61 h1 h16 _).mono ?_
  rintro e w2 ⟨g, cp, uz, rfl, hz, b2⟩
  rw [HL.out] at hz
  have st2 := st0.keep b2
  have hz2 := b2.size
  simp only [World.size_alloc] at hz2 hz
  have HZR := Lib.hid hz; have HST := Lib.hid st2
  clear st0 hz b2 c0 c1 c2
  have hB2 : w.heap.size + 1 + 1 ≤ w2.heap.size := hz2
  have hm1 : 1 ≤ m := by omega
  go_wp2
  go_loopw [4] (fun s wr => ∃ (t : Nat) (u : Nat → Value), 1 ≤ t ∧ t ≤ m ∧ s = .int .i64 t ∧ w.heap.size + 1 + 1 ≤ wr.heap.size ∧ RwU true wr (w.heap.size + 1 + 1) wr.heap.size g 0 cp m u (fun _ => L) (cjT m N' L F t) ∧ StR w wr [(w.heap.size + 1, [.int .i64 0, .int .i64 0, .slice none 0 0]), (w.heap.size, [.int .i64 (m : Int), .int .i64 (N' : Int), .slice a m cap])] [] [⟨o, lo, hi, .slice a m cap, m, ln, F⟩]) (fun s _ => m - (intOf s).toNat)
  case atStart => exact ⟨1, uz, Nat.le_refl _, hm1, rfl, hB2, HZR.out.congr (fun _ _ => rfl) (fun i j hi _ => by unfold cjT; rw [if_neg (by omega)]), HST.out⟩
  case round =>
    clear HZR HST
    obtain ⟨t, u, ht1, ht, rfl, hBr, hu, hst⟩ := hrel
    have HU := Lib.hid hu; have HS := Lib.hid hst; clear hu hst
    have hgb := HU.out.blk
    obtain ⟨c0, c1, c2⟩ := (HS.out.box 1 (w.heap.size, [.int .i64 (m : Int), .int .i64 (N' : Int), .slice a m cap]) rfl).c3
    by_cases hlt : t < m
    · obtain ⟨g1, off, cp1, ua, hv, hr⟩ := (HS.out.rw 0 ⟨o, lo, hi, .slice a m cap, m, ln, F⟩ rfl).at (show 0 < m by omega)
      dsimp only at hv hr
      have hg1 := hr.blk
      obtain ⟨rfl, rfl⟩ : a = some ⟨g1, off, none⟩ ∧ cap = cp1 := by cases hv; exact ⟨rfl, rfl⟩
      have ck := hr.head hlt
      have hrow := hr.row hlt
      rw [HLN.out t hlt] at hrow
      obtain ⟨a1, k1, hua⟩ := hrow.shape
      rw [hua] at ck hrow
      obtain ⟨q, hq⟩ : ∃ q, m - t = q := ⟨_, rfl⟩
      have hqm : q < m := by omega
      have hws : IntKind.i64.wrap ((m : Int) - (t : Int)) = (q : Int) := by rw [IntWalk.i64_in _ (by omega)]; omega
      have hqI : (q : Int) < (m : Int) := by omega
      have HR := Lib.hid hrow
      have HQ := Lib.hid hq
      have hfl := run_partsG
      have HLL := Lib.hid (show L ≤ N' by rw [← HL.out]; exact phi_le_n)
      clear hv hr hrow hq hua
      go_wp2
      go_region_held3 (fun w' => w'.cell? ⟨w.heap.size, 1, none⟩ = some (.int .i64 (N' : Int)) ∧ w'.cell? ⟨w.heap.size, 2, none⟩ = some (.slice (some ⟨g1, off, none⟩) m cap) ∧ w'.cell? ⟨g1, off + t, none⟩ = some (.slice a1 L k1))
        (first | exact ⟨c1, c2, ck⟩ | exact ⟨cell_later b6 c1, cell_later b6 c2, cell_later b6 ck⟩ | exact ⟨cell_one (cell_later b6 c1) (by omega), cell_one (cell_later b6 c2) (by omega), cell_one (cell_later b6 ck) (by omega)⟩ | go_keep)
        (first
          | (go_at_call 141; refine (l01Bar_any N' h1 h16 _ HR.out.drew HLL.out).mono ?_; rintro e w6 ⟨a6, k6, rfl, s6, b6⟩
             rw [HL.out] at s6
             have hz6 := b6.size
             simp only [World.size_drew] at hz6 s6
             have u6 := HU.out.drew.keep b6 (by simp)
             have cq := u6.head hqm
             have cz := u6.frozen q
             rw [Nat.zero_add] at cq
             have UP := Lib.hid (u6.putRow s6 hz6 hqm)
             have S6 := Lib.hid (HS.out.drew.keep b6)))
      all_goals
        clear b6 s6 u6 HU HS c0 c1 c2 ck
        try rw [HL.out]
        go_wp2
        go_roundw
        case rel =>
          refine ⟨t + 1, fun y => if y = q then .slice a6 L k6 else u y, by omega, by omega, by go_num, by simp; omega, ?_, S6.out.write (lo := g) (hi := g + 1) ((Frame.refl g (g + 1) w6).setCell (Nat.le_refl _) (Nat.lt_succ_self _) _) (by omega) (by intro b hb; simp only [List.mem_cons, List.not_mem_nil, or_false] at hb; rcases hb with rfl | rfl <;> dsimp only <;> omega) (by intro s hs'; cases hs') (by intro s hs'; simp only [List.mem_cons, List.not_mem_nil, or_false] at hs'; rcases hs' with rfl <;> dsimp only <;> omega)⟩
          have hp := UP.out
          rw [Nat.zero_add] at hp
          refine (hp.wide (Nat.le_refl _) (by simp) (Nat.le_refl _)).congr (fun y _ => by split <;> rfl) (fun y j hy hj => ?_)
          have hq' := HQ.out
          show cjT m N' L F (t + 1) y j = _
          by_cases e : y = q
          · rw [if_pos e]
            unfold cjT
            rw [if_pos (by omega), show m - y = t by omega]
          · rw [if_neg e]
            unfold cjT
            by_cases e2 : y ≠ 0 ∧ m - y < t
            · rw [if_pos e2, if_pos (by omega)]
            · rw [if_neg e2, if_neg (by omega)]
        case measure => simp [intOf]; omega
    · obtain rfl : t = m := by omega
      have HB := Lib.hid (show ∀ i j, i < t → j < L → inR (cjT t N' L F t i j) from fun i j hi hj => HU.out.rw.bd hi hj)
      have HZ0 := Lib.hid (show ∀ j, cjT t N' L F t 0 j = 0 from fun j => by unfold cjT; rw [if_neg (by omega)])
      go_wp2_with fail
      refine (l05Normal_any _ _ _ HU.out.rw (by omega) h61 hphi (fun i j hi hj => by have := HB.out i j hi hj; rw [HZ0.out j]; unfold inR at *; omega)).mono ?_
      rintro e w3 ⟨a3, k3, rfl, s3, b3⟩
      have hz3 := b3.size
      have S3 := HS.out.keep b3
      have Q3 := Lib.hid s3
      clear s3 b3 HU HS c0 c1 c2
      obtain ⟨d0, d1, d2⟩ := (S3.box 0 (w.heap.size + 1, [.int .i64 0, .int .i64 0, .slice none 0 0]) rfl).c3
      have dz := (S3.box 0 (w.heap.size + 1, [.int .i64 0, .int .i64 0, .slice none 0 0]) rfl).2.2
      dsimp only at dz
      have BB := S3.1
      go_wp2
      refine bodyPost_ret (v := .agg #[.int .i64 (t : Int), .int .i64 (N' : Int), .slice a3 t k3]) (by simp [results, Try.results95, go_sem, d0, d1, d2]) rfl ?_
      refine ⟨_, _, rfl, ?_, by go_grown⟩
      refine ((((Q3.out.setOther (.inl (by show w.heap.size + 1 < _; omega)) _).setOther (.inl (by show w.heap.size + 1 < _; omega)) _).setOther (.inl (by show w.heap.size + 1 < _; omega)) _).wide (by omega) (by simp) (Nat.le_refl _)).congr (fun _ _ => rfl) (fun i j hi hj => ?_)
      rw [HZ0.out j]
      unfold cjF cjT
      by_cases e : i = 0
      · rw [if_pos e, if_neg (by omega)]; rfl
      · rw [if_neg e, if_pos (by omega)]; omega


set_option maxRecDepth 100000 in
set_option maxHeartbeats 2000000 in
theorem ConjugateGauss_spec_ok (N : Nat) (w : World) (hs : Rw o w lo hi V m ln F) (h : GsP (m : Int) (N : Int) m ln F) (hfit : ∀ i, i < m → Within (cjF m N (phiN N) F i) (phiN N) 1000000000) :
    Calls Try.prog 35 #[.agg #[.int .i64 (m : Int), .int .i64 (N : Int), V]] w fun e w' => ∃ a' c', e = .returned (.tuple #[.agg #[.int .i64 (m : Int), .int .i64 (N : Int), .slice a' m c'], .int .i64 0]) ∧ Rw true w' w.heap.size w'.heap.size (.slice a' m c') m (fun _ => phiN N) (cjF m N (phiN N) F) ∧ Below w.heap.size w w' := by
  have HP0 := Lib.hid h.1
  have HX := Lib.hid h
  obtain ⟨a, cap, rfl⟩ := hs.shape
  have HG := Lib.hid (gsB_yes h)
  obtain ⟨N', hx, hy, hp, h3, h61, h1, h16, hln, hcy, hwi, hz⟩ := h.nat
  obtain rfl : N' = N := by omega
  have hphi := phi_le12 N' (by omega) h1
  have hphi1 := phiN_pos N' (by omega) h1
  have HLN := Lib.hid hln; have HCY := Lib.hid hcy; have HWI := Lib.hid hwi; have HZ := Lib.hid hz; have HPR := Lib.hid hp
  have hml := hs.len
  unfold maxLen at hml
  have hh := hs.size
  have st0 := ((StR.start w).addRw ⟨o, lo, hi, .slice a m cap, m, ln, F⟩ hs).boxNew3 (.int .i64 (m : Int)) (.int .i64 (N' : Int)) (.slice a m cap) 27
  replace st0 := st0.boxNew3 (.int .i64 0) (.int .i64 0) (.slice none 0 0) 27
  simp only [World.size_alloc] at st0
  clear hs h hp hln hcy hwi hz hx hy
  obtain ⟨c0, c1, c2⟩ := (st0.box 1 (w.heap.size, [.int .i64 (m : Int), .int .i64 (N' : Int), .slice a m cap]) rfl).c3
  have HFIT := Lib.hid hfit; clear hfit
  go_enter Try.func35, Try.ntmps35
  have q0 := st0.rw 0 ⟨o, lo, hi, .slice a m cap, m, ln, F⟩ rfl
  dsimp only at q0
  go_wp2_with fail
  refine (l05Is_any _ _ _ q0).mono ?_
  rintro e w1 ⟨rfl, b1⟩
  rw [HG.out]
  have st1 := st0.keep b1
  have hz1 := b1.size
  simp only [World.size_alloc] at hz1
  clear st0 b1 q0
  clear c0 c1 c2
  obtain ⟨c0, c1, c2⟩ := (st1.box 1 (w.heap.size, [.int .i64 (m : Int), .int .i64 (N' : Int), .slice a m cap]) rfl).c3
  have q0 := st1.rw 0 ⟨o, lo, hi, .slice a m cap, m, ln, F⟩ rfl
  dsimp only at q0
  go_wp2_with fail
  refine (l05Bar_any N' _ q0 HX.out).mono ?_
  rintro e w2 ⟨a2, k2, rfl, s2, b2⟩
  have st2 := st1.keep b2
  have hz2 := b2.size
  clear st1 b2 c0 c1 c2 q0
  have HY := Lib.hid (show GsP (m : Int) (N' : Int) m (fun _ => phiN N') (cjF m N' (phiN N') F) from ⟨HP0.out, rfl, fun i hi => ⟨by omega, by omega, rfl, HFIT.out i hi⟩, fun j _ => by unfold cjF; rw [if_pos rfl]⟩)
  go_wp2_with fail
  refine (l05Told_yes _ _ _ s2 HY.out).mono ?_
  rintro e w3 ⟨rfl, b3⟩
  have st3 := (st2.keep b3).alloc (.cells #[.int .i64 (m : Int), .int .i64 (N' : Int), .slice a2 m k2] 27)
  have hz3 := b3.size
  have S3 := Lib.hid ((s2.keep b3 s2.size).alloc (.cells #[.int .i64 (m : Int), .int .i64 (N' : Int), .slice a2 m k2] 27))
  clear st2 b3 s2
  obtain ⟨d0, d1, d2⟩ := (st3.box 0 (w.heap.size + 1, [.int .i64 0, .int .i64 0, .slice none 0 0]) rfl).c3
  have dz := (st3.box 0 (w.heap.size + 1, [.int .i64 0, .int .i64 0, .slice none 0 0]) rfl).2.2
  dsimp only at dz
  have BB := st3.1
  skip
  go_wp2
  refine bodyPost_ret (v := .tuple #[.agg #[.int .i64 (m : Int), .int .i64 (N' : Int), .slice a2 m k2], .int .i64 0]) (by simp [results, Try.results35, go_sem, d0, d1, d2]) rfl ?_
  refine ⟨_, _, rfl, ?_, by go_grown⟩
  exact (((S3.out.setOther (.inl (by show w.heap.size + 1 < _; omega)) _).setOther (.inl (by show w.heap.size + 1 < _; omega)) _).setOther (.inl (by show w.heap.size + 1 < _; omega)) _).wide (by omega) (by simp; omega) (Nat.le_refl _)


set_option maxRecDepth 100000 in
set_option maxHeartbeats 2000000 in
theorem ConjugateGauss_spec_big (N : Nat) (w : World) (hs : Rw o w lo hi V m ln F) (h : GsP (m : Int) (N : Int) m ln F) (hfit : ¬ ∀ i, i < m → Within (cjF m N (phiN N) F i) (phiN N) 1000000000) :
    Calls Try.prog 35 #[.agg #[.int .i64 (m : Int), .int .i64 (N : Int), V]] w fun e w' => e = .returned (failG 3) ∧ Below w.heap.size w w' := by
  have HP0 := Lib.hid h.1
  have HX := Lib.hid h
  obtain ⟨a, cap, rfl⟩ := hs.shape
  have HG := Lib.hid (gsB_yes h)
  obtain ⟨N', hx, hy, hp, h3, h61, h1, h16, hln, hcy, hwi, hz⟩ := h.nat
  obtain rfl : N' = N := by omega
  have hphi := phi_le12 N' (by omega) h1
  have hphi1 := phiN_pos N' (by omega) h1
  have HLN := Lib.hid hln; have HCY := Lib.hid hcy; have HWI := Lib.hid hwi; have HZ := Lib.hid hz; have HPR := Lib.hid hp
  have hml := hs.len
  unfold maxLen at hml
  have hh := hs.size
  have st0 := ((StR.start w).addRw ⟨o, lo, hi, .slice a m cap, m, ln, F⟩ hs).boxNew3 (.int .i64 (m : Int)) (.int .i64 (N' : Int)) (.slice a m cap) 27
  replace st0 := st0.boxNew3 (.int .i64 0) (.int .i64 0) (.slice none 0 0) 27
  simp only [World.size_alloc] at st0
  clear hs h hp hln hcy hwi hz hx hy
  obtain ⟨c0, c1, c2⟩ := (st0.box 1 (w.heap.size, [.int .i64 (m : Int), .int .i64 (N' : Int), .slice a m cap]) rfl).c3
  have HFIT := Lib.hid hfit; clear hfit
  go_enter Try.func35, Try.ntmps35
  have q0 := st0.rw 0 ⟨o, lo, hi, .slice a m cap, m, ln, F⟩ rfl
  dsimp only at q0
  go_wp2_with fail
  refine (l05Is_any _ _ _ q0).mono ?_
  rintro e w1 ⟨rfl, b1⟩
  rw [HG.out]
  have st1 := st0.keep b1
  have hz1 := b1.size
  simp only [World.size_alloc] at hz1
  clear st0 b1 q0
  clear c0 c1 c2
  obtain ⟨c0, c1, c2⟩ := (st1.box 1 (w.heap.size, [.int .i64 (m : Int), .int .i64 (N' : Int), .slice a m cap]) rfl).c3
  have q0 := st1.rw 0 ⟨o, lo, hi, .slice a m cap, m, ln, F⟩ rfl
  dsimp only at q0
  go_wp2_with fail
  refine (l05Bar_any N' _ q0 HX.out).mono ?_
  rintro e w2 ⟨a2, k2, rfl, s2, b2⟩
  have st2 := st1.keep b2
  have hz2 := b2.size
  clear st1 b2 c0 c1 c2 q0
  have HY := Lib.hid (show ¬ GsP (m : Int) (N' : Int) m (fun _ => phiN N') (cjF m N' (phiN N') F) from fun hg => HFIT.out (fun i hi => (hg.2.2.1 i hi).2.2.2))
  go_wp2_with fail
  refine (l05Told_no _ _ _ s2 HY.out).mono ?_
  rintro e w3 ⟨rfl, b3⟩
  have st3 := (st2.keep b3).alloc (.cells #[.int .i64 0, .int .i64 0, .slice none 0 0] 27)
  have hz3 := b3.size
  have S3 := Lib.hid ((s2.keep b3 s2.size).alloc (.cells #[.int .i64 0, .int .i64 0, .slice none 0 0] 27))
  clear st2 b3 s2
  obtain ⟨d0, d1, d2⟩ := (st3.box 0 (w.heap.size + 1, [.int .i64 0, .int .i64 0, .slice none 0 0]) rfl).c3
  have dz := (st3.box 0 (w.heap.size + 1, [.int .i64 0, .int .i64 0, .slice none 0 0]) rfl).2.2
  dsimp only at dz
  have BB := st3.1
  unfold failG
  go_wp2
  refine bodyPost_ret (v := .tuple #[.agg #[.int .i64 0, .int .i64 0, .slice none 0 0], .int .i64 3]) (by simp [results, Try.results35, go_sem, d0, d1, d2]) rfl ?_
  exact ⟨rfl, by go_grown⟩

end
end Go.Proofs.Ythmhjnholhiohaa
