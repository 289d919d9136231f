/- ConstantGauss of the program and of the model; negativesOf. -/
import Derived.Test.YthmhjnholhiohaaGSq
import Derived.Test.YthmhjnholhiohaaTab
namespace Go.Proofs.Ythmhjnholhiohaa
open Go.RowKit Go.ChangeShapes Go.Sort Go.WideShapes
set_option linter.unusedVariables false
set_option linter.unusedSimpArgs false

/-- The rows of a constant. -/
def cnF (f : Nat → Int) (i j : Nat) : Int := if i = 0 then 0 else -f j
def cnT (f : Nat → Int) (t i j : Nat) : Int := if 1 ≤ i ∧ i ≤ t then -f j else 0

section
variable {o : Bool} {lo hi : Nat} {v : Value} {L : Nat} {f : Nat → Int}
set_option maxRecDepth 100000 in
theorem negativesOf_any (w : World) (hs : Sl o w lo hi v L f) (hf : Within f L 1000000000) (hL : L ≤ 1000) :
    Calls Try.prog 78 #[v] w fun e w' => ∃ a' k', e = .returned (.slice a' L k') ∧ Sl true w' w.heap.size w'.heap.size (.slice a' L k') L (fun j => -f j) ∧ Below w.heap.size w w' := by
  obtain ⟨a, cap, rfl⟩ := hs.shape
  have HS := Lib.hid hs; clear hs
  have HF := Lib.hid hf; clear hf
  have hmk := run_make_row' (P := Try.prog) 31 2 (.int .i64 0) 8 Try.underlying31 Try.info2 rfl .i64 .i64 L (by omega) (by omega)
  go_enter Try.func78, Try.ntmps78
  go_wp2
  clear hmk
  go_loopw [11] (fun i wr => ∃ k : Nat, k ≤ L ∧ i = .int .i64 k ∧ Sl true wr w.heap.size (w.heap.size + 1) (.slice (some ⟨w.heap.size, 0, none⟩) L L) L (fun j => if j < k then -f j else 0) ∧ Below w.heap.size w wr) (fun i _ => L - (intOf i).toNat)
  case atStart =>
    refine ⟨0, Nat.zero_le _, rfl, ?_, (Below.refl _ _).alloc (Nat.le_refl _) _⟩
    exact Sl.made w _ _ L L _ (Nat.le_refl _) HS.out.len (fun j hj => by simp [inR]) (fun j hj => by simp [madeCells_at _ _ _ hj])
  case round =>
    obtain ⟨k, hk, rfl, hown, hb⟩ := hrel
    have HO := Lib.hid hown; clear hown
    by_cases hlt : k < L
    · obtain ⟨g, off, cap', hv, _, hg, _, _, hc, _⟩ := HS.out.at (by omega)
      have hgs : g < w.heap.size := Nat.lt_of_lt_of_le hg HS.out.size
      obtain ⟨rfl, rfl⟩ : a = some ⟨g, off, none⟩ ∧ cap = cap' := by cases hv; exact ⟨rfl, rfl⟩
      clear hv hg
      have hck : wr.cell? ⟨g, off + k, none⟩ = some (.int .i64 (f k)) := by rw [hb.cell (p := ⟨g, off + k, none⟩) hgs]; exact hc k hlt
      clear hc
      have hck2 := (HO.out.known (by omega)).2.2.2.1 k hlt
      have hfr := (HO.out.known (by omega)).2.2.2.2 rfl k
      rw [Nat.zero_add] at hck2
      have hfk := HF.out k hlt
      have hwn : IntKind.i64.wrap (-(f k)) = -(f k) := IntWalk.i64_in _ (by omega)
      go_wp2
      go_roundw
      case rel =>
        refine ⟨k + 1, by omega, by go_num, ?_, hb.setCell (Nat.le_refl _) _⟩
        refine (HO.out.store0 hlt (x := -f k) (by unfold inR; omega)).congr (fun j hj => ?_)
        by_cases e : j = k
        · subst e; simp
        · have : (j < k + 1) = (j < k) := by simp; omega
          simp [e, this]
      case measure => simp [intOf]; omega
    · have e : k = L := by omega
      subst e
      go_wp2
      go_ret
      refine ⟨_, _, rfl, ?_, hb⟩
      exact (HO.out.congr (fun j hj => by simp [hj])).wide (Nat.le_refl _) HO.out.size (Nat.le_refl _)

set_option maxRecDepth 100000 in
theorem ConstantGauss_impl_bad (p x : Int) (w : World) (hs : Sl o w lo hi v L f) (h : ¬ CyP x L f) :
    Calls Try.prog 25 #[.int .i64 p, .agg #[.int .i64 x, v]] w fun e w' => e = .returned (failG 1) ∧ Below w.heap.size w w' := by
  obtain ⟨a, cap, rfl⟩ := hs.shape
  have hh := hs.size
  have st0 := ((StR.start w).addSl ⟨o, lo, hi, .slice a L cap, L, f⟩ hs).boxNew (.int .i64 x) (.slice a L cap) 37
  replace st0 := st0.boxNew3 (.int .i64 0) (.int .i64 0) (.slice none 0 0) 27
  simp only [World.size_alloc] at st0
  have HC := Lib.hid h
  clear hs h
  obtain ⟨c0, c1⟩ := (st0.box 1 (w.heap.size, [.int .i64 x, .slice a L cap]) rfl).cell2
  go_enter Try.func25, Try.ntmps25
  have q0 := st0.sl 0 ⟨o, lo, hi, .slice a L cap, L, f⟩ rfl
  dsimp only at q0
  go_wp2_with fail
  refine (IsCyclo_no _ _ q0 HC.out).mono ?_
  rintro e w1 ⟨rfl, b1⟩
  have st1 := st0.keep b1
  have hz1 := b1.size
  simp only [World.size_alloc] at hz1
  clear st0 b1 q0
  clear c0 c1
  obtain ⟨d0, d1, d2⟩ := (st1.box 0 (w.heap.size + 1, [.int .i64 0, .int .i64 0, .slice none 0 0]) rfl).c3
  have dz := (st1.box 0 (w.heap.size + 1, [.int .i64 0, .int .i64 0, .slice none 0 0]) rfl).2.2
  dsimp only at dz
  have BB := st1.1
  go_wp2
  refine bodyPost_ret (v := failG 1) (by simp [results, Try.results25, go_sem, failG, d0, d1, d2]) rfl ?_
  exact ⟨rfl, by first | exact BB | go_grown⟩

set_option maxRecDepth 100000 in
theorem ConstantGauss_impl_out (p x : Int) (w : World) (hs : Sl o w lo hi v L f) (h : CyP x L f) (hp : ¬ PrP p) :
    Calls Try.prog 25 #[.int .i64 p, .agg #[.int .i64 x, v]] w fun e w' => e = .returned (failG 2) ∧ Below w.heap.size w w' := by
  obtain ⟨a, cap, rfl⟩ := hs.shape
  have hh := hs.size
  have st0 := ((StR.start w).addSl ⟨o, lo, hi, .slice a L cap, L, f⟩ hs).boxNew (.int .i64 x) (.slice a L cap) 37
  replace st0 := st0.boxNew3 (.int .i64 0) (.int .i64 0) (.slice none 0 0) 27
  simp only [World.size_alloc] at st0
  have HC := Lib.hid h; have HP := Lib.hid hp
  clear hs h hp
  obtain ⟨c0, c1⟩ := (st0.box 1 (w.heap.size, [.int .i64 x, .slice a L cap]) rfl).cell2
  go_enter Try.func25, Try.ntmps25
  have q0 := st0.sl 0 ⟨o, lo, hi, .slice a L cap, L, f⟩ rfl
  dsimp only at q0
  go_wp2_with fail
  refine (IsCyclo_yes _ _ q0 HC.out).mono ?_
  rintro e w1 ⟨rfl, b1⟩
  have st1 := st0.keep b1
  have hz1 := b1.size
  simp only [World.size_alloc] at hz1
  clear st0 b1 q0
  clear c0 c1
  go_wp2_with fail
  refine (isOddPrime_no p HP.out _).mono ?_
  rintro e w2 ⟨rfl, d, rfl⟩
  have st2 := st1.drewN d
  clear st1
  generalize w1.drewN d = w2 at *
  obtain ⟨d0, d1, d2⟩ := (st2.box 0 (w.heap.size + 1, [.int .i64 0, .int .i64 0, .slice none 0 0]) rfl).c3
  have dz := (st2.box 0 (w.heap.size + 1, [.int .i64 0, .int .i64 0, .slice none 0 0]) rfl).2.2
  dsimp only at dz
  have BB := st2.1
  go_wp2
  refine bodyPost_ret (v := failG 2) (by simp [results, Try.results25, go_sem, failG, d0, d1, d2]) rfl ?_
  exact ⟨rfl, by first | exact BB | go_grown⟩

set_option maxRecDepth 100000 in
theorem ConstantGauss_spec_bad (p x : Int) (w : World) (hs : Sl o w lo hi v L f) (h : ¬ CyP x L f) :
    Calls Try.prog 23 #[.int .i64 p, .agg #[.int .i64 x, v]] w fun e w' => e = .returned (failG 1) ∧ Below w.heap.size w w' := by
  obtain ⟨a, cap, rfl⟩ := hs.shape
  have hh := hs.size
  have st0 := ((StR.start w).addSl ⟨o, lo, hi, .slice a L cap, L, f⟩ hs).boxNew (.int .i64 x) (.slice a L cap) 37
  replace st0 := st0.boxNew3 (.int .i64 0) (.int .i64 0) (.slice none 0 0) 27
  simp only [World.size_alloc] at st0
  have HC := Lib.hid h
  clear hs h
  obtain ⟨c0, c1⟩ := (st0.box 1 (w.heap.size, [.int .i64 x, .slice a L cap]) rfl).cell2
  go_enter Try.func23, Try.ntmps23
  have q0 := st0.sl 0 ⟨o, lo, hi, .slice a L cap, L, f⟩ rfl
  dsimp only at q0
  go_wp2_with fail
  refine (l01Is_no _ _ q0 HC.out).mono ?_
  rintro e w1 ⟨rfl, b1⟩
  have st1 := st0.keep b1
  have hz1 := b1.size
  simp only [World.size_alloc] at hz1
  clear st0 b1 q0
  clear c0 c1
  obtain ⟨d0, d1, d2⟩ := (st1.box 0 (w.heap.size + 1, [.int .i64 0, .int .i64 0, .slice none 0 0]) rfl).c3
  have dz := (st1.box 0 (w.heap.size + 1, [.int .i64 0, .int .i64 0, .slice none 0 0]) rfl).2.2
  dsimp only at dz
  have BB := st1.1
  go_wp2
  refine bodyPost_ret (v := failG 1) (by simp [results, Try.results23, go_sem, failG, d0, d1, d2]) rfl ?_
  exact ⟨rfl, by first | exact BB | go_grown⟩

set_option maxRecDepth 100000 in
theorem ConstantGauss_spec_out (p x : Int) (w : World) (hs : Sl o w lo hi v L f) (h : CyP x L f) (hp : ¬ PrP p) :
    Calls Try.prog 23 #[.int .i64 p, .agg #[.int .i64 x, v]] w fun e w' => e = .returned (failG 2) ∧ Below w.heap.size w w' := by
  obtain ⟨a, cap, rfl⟩ := hs.shape
  have hh := hs.size
  have st0 := ((StR.start w).addSl ⟨o, lo, hi, .slice a L cap, L, f⟩ hs).boxNew (.int .i64 x) (.slice a L cap) 37
  replace st0 := st0.boxNew3 (.int .i64 0) (.int .i64 0) (.slice none 0 0) 27
  simp only [World.size_alloc] at st0
  have HC := Lib.hid h; have HP := Lib.hid hp
  clear hs h hp
  obtain ⟨c0, c1⟩ := (st0.box 1 (w.heap.size, [.int .i64 x, .slice a L cap]) rfl).cell2
  go_enter Try.func23, Try.ntmps23
  have q0 := st0.sl 0 ⟨o, lo, hi, .slice a L cap, L, f⟩ rfl
  dsimp only at q0
  go_wp2_with fail
  refine (l01Is_yes _ _ q0 HC.out).mono ?_
  rintro e w1 ⟨rfl, b1⟩
  have st1 := st0.keep b1
  have hz1 := b1.size
  simp only [World.size_alloc] at hz1
  clear st0 b1 q0
  clear c0 c1
  go_wp2_with fail
  refine (l03Prime_no p HP.out _).mono ?_
  rintro e w2 ⟨rfl, d, rfl⟩
  have st2 := st1.drewN d
  clear st1
  generalize w1.drewN d = w2 at *
  obtain ⟨d0, d1, d2⟩ := (st2.box 0 (w.heap.size + 1, [.int .i64 0, .int .i64 0, .slice none 0 0]) rfl).c3
  have dz := (st2.box 0 (w.heap.size + 1, [.int .i64 0, .int .i64 0, .slice none 0 0]) rfl).2.2
  dsimp only at dz
  have BB := st2.1
  go_wp2
  refine bodyPost_ret (v := failG 2) (by simp [results, Try.results23, go_sem, failG, d0, d1, d2]) rfl ?_
  exact ⟨rfl, by first | exact BB | go_grown⟩


set_option maxRecDepth 100000 in
set_option maxHeartbeats 4000000 in
theorem ConstantGauss_impl_ok (m N : Nat) (w : World) (hs : Sl o w lo hi v L f) (h : CyP (N : Int) L f) (hp : primeN m = true) :
    Calls Try.prog 25 #[.int .i64 (m : Int), .agg #[.int .i64 (N : Int), v]] w fun e w' => ∃ a' c', e = .returned (.tuple #[.agg #[.int .i64 (m : Int), .int .i64 (N : Int), .slice a' m c'], .int .i64 0]) ∧ Rw true w' w.heap.size w'.heap.size (.slice a' m c') m (fun _ => L) (cnF f) ∧ Below w.heap.size w w' := by
  obtain ⟨ML, hML⟩ : ∃ M, phiN N = M := ⟨_, rfl⟩
  have hN1 : 1 ≤ N := by have := h.1; omega
  have hN2 : N ≤ 16 := by have := h.2.1; omega
  have hphi := phi_le12 N (by omega) hN1
  have hphi1 := phiN_pos N (by omega) hN1
  have hLn : L = phiN N := h.2.2.1
  rw [← hLn] at hphi hphi1 hML
  subst hML
  have HLN := Lib.hid hLn
  have HF := Lib.hid h.2.2.2
  have HC := Lib.hid h
  have hb := primeN_bd hp
  have HP := Lib.hid hp
  obtain ⟨a, cap, rfl⟩ := hs.shape
  have hh := hs.size
  have st0 := ((StR.start w).addSl ⟨o, lo, hi, .slice a L cap, L, f⟩ hs).boxNew (.int .i64 (N : Int)) (.slice a L cap) 37
  replace st0 := st0.boxNew3 (.int .i64 0) (.int .i64 0) (.slice none 0 0) 27
  simp only [World.size_alloc] at st0
  clear hs h hLn hp
  obtain ⟨c0, c1⟩ := (st0.box 1 (w.heap.size, [.int .i64 (N : Int), .slice a L cap]) rfl).cell2
  go_enter Try.func25, Try.ntmps25
  have q0 := st0.sl 0 ⟨o, lo, hi, .slice a L cap, L, f⟩ rfl
  dsimp only at q0
  go_wp2_with fail
  refine (IsCyclo_yes _ _ q0 HC.out).mono ?_
  rintro e w1 ⟨rfl, b1⟩
  have st1 := st0.keep b1
  have hz1 := b1.size
  simp only [World.size_alloc] at hz1
  clear st0 b1 q0 c0 c1
  go_wp2_with fail
  refine (isOddPrime_yes m HP.out _).mono ?_
  rintro e w2 ⟨rfl, d, rfl⟩
  have st2 := st1.drewN d
  have hz2 : w.heap.size + 1 + 1 ≤ (w1.drewN d).heap.size := hz1
  clear st1 hz1
  generalize w1.drewN d = w2 at *
  obtain ⟨c0, c1⟩ := (st2.box 1 (w.heap.size, [.int .i64 (N : Int), .slice a L cap]) rfl).cell2
  go_wp2_with fail
  refine (totient_below N _ (by omega)).mono ?_
  rintro e w3 ⟨rfl, b3⟩
  rw [← HLN.out]
  have st3 := st2.keep b3
  have hz3 := b3.size
  clear st2 b3 c0 c1
  go_wp2_with fail
  refine (newRows_any m L (by omega) (by omega) hphi1 (by omega) _).mono ?_
  rintro e w4 ⟨rfl, t4, b4⟩
  have st4 := st3.keep b4
  have hz4 := b4.size
  obtain ⟨T, hT⟩ : ∃ T, w3.heap.size = T := ⟨_, rfl⟩
  rw [hT] at t4 hz3 hz4
  simp only [hT]
  have ts := t4.size
  have HU4 := Lib.hid (t4.rwU (lo := T) hphi1 (by unfold maxLen; omega) (Nat.le_refl _) (Nat.le_succ _))
  obtain ⟨H, hH⟩ : ∃ H, w4.heap.size = H := ⟨_, rfl⟩
  rw [hH] at HU4 ts hz4
  have hHI : H ≤ w4.heap.size := by omega
  have HT4 := Lib.hid st4
  clear st3 st4 b4 t4 hT hH
  have hm1 : (1 : Int) ≤ (m : Int) := by omega
  have hm2 : 1 ≤ m := by omega
  go_wp2
  go_loopw [25] (fun s wr => ∃ t : Nat, t + 1 ≤ m ∧ s = .int .i64 t ∧ H ≤ wr.heap.size ∧ RwU true wr T H (T + 1) 0 m m (fun i => .slice (some ⟨T, i * L, none⟩) L L) (fun _ => L) (cnT f t) ∧ StR w wr [(w.heap.size + 1, [.int .i64 0, .int .i64 0, .slice none 0 0]), (w.heap.size, [.int .i64 (N : Int), .slice a L cap])] [⟨o, lo, hi, .slice a L cap, L, f⟩] []) (fun s _ => m - (intOf s).toNat)
  case atStart => exact ⟨0, by omega, rfl, hHI, HU4.out.congr (fun _ _ => rfl) (fun i j _ _ => by unfold cnT; rw [if_neg (by omega)]), HT4.out⟩
  case round =>
    clear HU4 HT4
    obtain ⟨t, ht, rfl, hHr, hu, hst⟩ := hrel
    have HU := Lib.hid hu; have HS := Lib.hid hst; clear hu hst
    obtain ⟨c0, c1⟩ := (HS.out.box 1 (w.heap.size, [.int .i64 (N : Int), .slice a L cap]) rfl).cell2
    by_cases hlt : t + 1 < m
    · have cq := HU.out.head hlt
      rw [Nat.zero_add, Nat.add_comm t 1] at cq
      have q0 := HS.out.sl 0 ⟨o, lo, hi, .slice a L cap, L, f⟩ rfl
      dsimp only at q0
      have hltI : (t : Int) < (m : Int) - 1 := by omega
      have htm : t < m - 1 := by omega
      go_wp2_with fail
      refine (negativesOf_any _ q0 HF.out (by omega)).mono ?_
      rintro e w5 ⟨a5, k5, rfl, s5, b5⟩
      have S5 := HS.out.keep b5
      have U5 := HU.out.keep b5 hHr
      have hz5 := b5.size
      have HS5 := Lib.hid S5; have HU5 := Lib.hid U5
      have HX := Lib.hid (show Sl true w5 T H (.slice (some ⟨T, (1 + t) * L, none⟩) L L) L (cnT f t (t + 1)) by rw [Nat.add_comm 1 t]; exact U5.row hlt)
      have HR := Lib.hid s5
      clear HU HS q0 s5 b5 S5 U5 c0 c1
      go_wp2_with (
        (refine wpList_copyR rfl (.tmp 29) (.tmp 32) rfl HX.out HR.out rfl rfl (by omega) ?_; intro wA oA fA sA
         rw [Nat.add_comm 1 t] at oA sA
         have UA := Lib.hid (HU5.out.putOnly hlt oA sA)
         have SA := Lib.hid (HS5.out.write fA (by omega) (by intro b hb; simp only [List.mem_cons, List.not_mem_nil, or_false] at hb; rcases hb with rfl | rfl <;> dsimp only <;> omega) (by intro s hs'; simp only [List.mem_cons, List.not_mem_nil, or_false] at hs'; rcases hs' with rfl <;> dsimp only <;> omega) (by intro s hs'; cases hs'))
         have zA := fA.size
         clear HU5 HS5 oA fA sA cq))
      go_roundw
      case rel =>
        refine ⟨t + 1, by omega, by go_num, by omega, UA.out.congr (fun _ _ => rfl) (fun y j hy hj => ?_), SA.out⟩
        show cnT f (t + 1) y j = _
        unfold cnT
        by_cases e : y = t + 1
        · rw [if_pos e, if_pos (by omega)]
        · rw [if_neg e]
          by_cases e2 : 1 ≤ y ∧ y ≤ t
          · rw [if_pos e2, if_pos (by omega)]
          · rw [if_neg e2, if_neg (by omega)]
      case measure => simp [intOf]; omega
    · obtain rfl : t = m - 1 := by omega
      obtain ⟨d0, d1, d2⟩ := (HS.out.box 0 (w.heap.size + 1, [.int .i64 0, .int .i64 0, .slice none 0 0]) rfl).c3
      have dz := (HS.out.box 0 (w.heap.size + 1, [.int .i64 0, .int .i64 0, .slice none 0 0]) rfl).2.2
      dsimp only at dz
      have BB := HS.out.1
      have hsz := HU.out.size
      have hnI : ¬ ((m - 1 : Nat) : Int) < (m : Int) - 1 := by omega
      go_wp2
      refine bodyPost_ret (v := .tuple #[.agg #[.int .i64 (m : Int), .int .i64 (N : Int), .slice (some ⟨T + 1, 0, none⟩) m m], .int .i64 0]) (by simp [results, Try.results25, go_sem, d0, d1, d2]) rfl ?_
      refine ⟨_, _, rfl, ?_, by go_grown⟩
      refine ((((HU.out.rw.setOther (.inl (by show w.heap.size + 1 < _; omega)) _).setOther (.inl (by show w.heap.size + 1 < _; omega)) _).setOther (.inl (by show w.heap.size + 1 < _; omega)) _).wide (by omega) (by simp; omega) (Nat.le_refl _)).congr (fun _ _ => rfl) (fun i j hi hj => ?_)
      unfold cnF cnT
      by_cases e : i = 0
      · rw [if_pos e, if_neg (by omega)]
      · rw [if_neg e, if_pos (by omega)]


set_option maxRecDepth 100000 in
set_option maxHeartbeats 2000000 in
theorem l05Constant_any (m N : Nat) (w : World) (hs : Sl o w lo hi v L f) (h : CyP (N : Int) L f) (hp : primeN m = true) :
    Calls Try.prog 74 #[.int .i64 (m : Int), .agg #[.int .i64 (N : Int), v]] w fun e w' => ∃ a' c', e = .returned (.agg #[.int .i64 (m : Int), .int .i64 (N : Int), .slice a' m c']) ∧ Rw true w' w.heap.size w'.heap.size (.slice a' m c') m (fun _ => L) (cnF f) ∧ Below w.heap.size w w' := by
  obtain ⟨ML, hML⟩ : ∃ M, phiN N = M := ⟨_, rfl⟩
  have hN1 : 1 ≤ N := by have := h.1; omega
  have hN2 : N ≤ 16 := by have := h.2.1; omega
  have hphi := phi_le12 N (by omega) hN1
  have hphi1 := phiN_pos N (by omega) hN1
  have hLn : L = phiN N := h.2.2.1
  rw [← hLn] at hphi hphi1 hML
  subst hML
  have HLN := Lib.hid hLn
  have HF := Lib.hid h.2.2.2
  have HC := Lib.hid h
  have hb := primeN_bd hp
  have HP := Lib.hid hp
  obtain ⟨a, cap, rfl⟩ := hs.shape
  have hh := hs.size
  have st0 := ((StR.start w).addSl ⟨o, lo, hi, .slice a L cap, L, f⟩ hs).boxNew (.int .i64 (N : Int)) (.slice a L cap) 37
  replace st0 := st0.boxNew3 (.int .i64 0) (.int .i64 0) (.slice none 0 0) 27
  simp only [World.size_alloc] at st0
  clear hs h hLn hp
  obtain ⟨c0, c1⟩ := (st0.box 1 (w.heap.size, [.int .i64 (N : Int), .slice a L cap]) rfl).cell2
  go_enter Try.func74, Try.ntmps74
  go_wp2_with fail
  refine (l05Zeros_any m N (by omega) hN1 hN2 _).mono ?_
  rintro e w2 ⟨g, cp, uz, rfl, hz, b2⟩
  rw [← HLN.out] at hz
  have st2 := st0.keep b2
  have hz2 := b2.size
  simp only [World.size_alloc] at hz2 hz
  have HZ := Lib.hid hz; have hg := hz.blk
  clear st0 hz b2 c0 c1
  obtain ⟨c0, c1⟩ := (st2.box 1 (w.heap.size, [.int .i64 (N : Int), .slice a L cap]) rfl).cell2
  have q0 := st2.sl 0 ⟨o, lo, hi, .slice a L cap, L, f⟩ rfl
  dsimp only at q0
  go_wp2_with fail
  refine (l01Own_any _ q0 (by omega)).mono ?_
  rintro e w3 ⟨a3, k3, rfl, s3, b3⟩
  have st3 := st2.keep b3
  have hz3 := b3.size
  have U3 := HZ.out.keep b3 (Nat.le_refl _)
  have cq := U3.head (show 0 < m by omega)
  have cz := U3.frozen 0
  rw [Nat.zero_add] at cq
  have UP := U3.putRow s3 hz3 (show 0 < m by omega)
  rw [Nat.zero_add] at UP
  have S3 := Lib.hid (st3.write (lo := g) (hi := g + 1) ((Frame.refl g (g + 1) w3).setCell (p := ⟨g, 0, none⟩) (Nat.le_refl _) (Nat.lt_succ_self _) (.slice a3 L k3)) (by omega) (by intro b hb; simp only [List.mem_cons, List.not_mem_nil, or_false] at hb; rcases hb with rfl | rfl <;> dsimp only <;> omega) (by intro s hs'; simp only [List.mem_cons, List.not_mem_nil, or_false] at hs'; rcases hs' with rfl <;> dsimp only <;> omega) (by intro s hs'; cases hs'))
  have HU := Lib.hid UP.rw
  have hmI : (0 : Int) < (m : Int) := by omega
  obtain ⟨x0, x1⟩ := (st3.box 1 (w.heap.size, [.int .i64 (N : Int), .slice a L cap]) rfl).cell2
  have hgne : ¬ w.heap.size = g := by omega
  have hgne2 : ¬ g = w.heap.size := by omega
  clear st2 st3 U3 UP s3 b3 HZ q0 c0 c1
  go_wp2_with fail
  refine (l05Normal_any _ _ _ (HU.out.congr (ln' := fun _ => L) (F' := fun i => if i = 0 then f else fun _ => 0) (fun i _ => by split <;> rfl) (fun i j _ _ => by split <;> rfl)) (by omega) (by omega) (by omega) (fun i j hi hj => by
    have := HF.out j hj
    unfold inR
    rw [if_pos rfl]
    by_cases e : i = 0
    · rw [if_pos e]; omega
    · rw [if_neg e]; show -9223372036854775808 ≤ (0 : Int) - f j ∧ (0 : Int) - f j ≤ 9223372036854775807; omega)).mono ?_
  rintro e w4 ⟨a4, k4, rfl, s4, b4⟩
  have st4 := S3.out.keep b4
  have hz4 := b4.size
  simp only [World.size_setCell] at hz4 s4
  have Q4 := Lib.hid s4
  clear s4 b4 HU S3
  obtain ⟨d0, d1, d2⟩ := (st4.box 0 (w.heap.size + 1, [.int .i64 0, .int .i64 0, .slice none 0 0]) rfl).c3
  have dz := (st4.box 0 (w.heap.size + 1, [.int .i64 0, .int .i64 0, .slice none 0 0]) rfl).2.2
  dsimp only at dz
  have BB := st4.1
  go_wp2
  refine bodyPost_ret (v := .agg #[.int .i64 (m : Int), .int .i64 (N : Int), .slice a4 m k4]) (by simp [results, Try.results74, go_sem, d0, d1, d2]) rfl ?_
  refine ⟨_, _, rfl, ?_, by go_grown⟩
  refine ((((Q4.out.setOther (.inl (by show w.heap.size + 1 < _; omega)) _).setOther (.inl (by show w.heap.size + 1 < _; omega)) _).setOther (.inl (by show w.heap.size + 1 < _; omega)) _).wide (by omega) (by simp) (Nat.le_refl _)).congr (fun _ _ => rfl) (fun i j hi hj => ?_)
  unfold cnF
  rw [if_pos trivial]
  by_cases e : i = 0
  · rw [if_pos e, if_pos e]; omega
  · rw [if_neg e, if_neg e]; show -f j = (0 : Int) - f j; omega


set_option maxRecDepth 100000 in
set_option maxHeartbeats 2000000 in
theorem ConstantGauss_spec_ok (m N : Nat) (w : World) (hs : Sl o w lo hi v L f) (h : CyP (N : Int) L f) (hp : primeN m = true) :
    Calls Try.prog 23 #[.int .i64 (m : Int), .agg #[.int .i64 (N : Int), v]] w fun e w' => ∃ a' c', e = .returned (.tuple #[.agg #[.int .i64 (m : Int), .int .i64 (N : Int), .slice a' m c'], .int .i64 0]) ∧ Rw true w' w.heap.size w'.heap.size (.slice a' m c') m (fun _ => L) (cnF f) ∧ Below w.heap.size w w' := by
  obtain ⟨ML, hML⟩ : ∃ M, phiN N = M := ⟨_, rfl⟩
  have hN1 : 1 ≤ N := by have := h.1; omega
  have hN2 : N ≤ 16 := by have := h.2.1; omega
  have hphi := phi_le12 N (by omega) hN1
  have hphi1 := phiN_pos N (by omega) hN1
  have hLn : L = phiN N := h.2.2.1
  rw [← hLn] at hphi hphi1 hML
  subst hML
  have HLN := Lib.hid hLn
  have HF := Lib.hid h.2.2.2
  have HC := Lib.hid h
  have hb := primeN_bd hp
  have HP := Lib.hid hp
  obtain ⟨a, cap, rfl⟩ := hs.shape
  have hh := hs.size
  have st0 := ((StR.start w).addSl ⟨o, lo, hi, .slice a L cap, L, f⟩ hs).boxNew (.int .i64 (N : Int)) (.slice a L cap) 37
  replace st0 := st0.boxNew3 (.int .i64 0) (.int .i64 0) (.slice none 0 0) 27
  simp only [World.size_alloc] at st0
  clear hs h hLn hp
  obtain ⟨c0, c1⟩ := (st0.box 1 (w.heap.size, [.int .i64 (N : Int), .slice a L cap]) rfl).cell2
  go_enter Try.func23, Try.ntmps23
  have q0 := st0.sl 0 ⟨o, lo, hi, .slice a L cap, L, f⟩ rfl
  dsimp only at q0
  go_wp2_with fail
  refine (l01Is_yes _ _ q0 HC.out).mono ?_
  rintro e w1 ⟨rfl, b1⟩
  have st1 := st0.keep b1
  have hz1 := b1.size
  simp only [World.size_alloc] at hz1
  clear st0 b1 q0 c0 c1
  go_wp2_with fail
  refine (l03Prime_yes m HP.out _).mono ?_
  rintro e w2 ⟨rfl, d, rfl⟩
  have st2 := st1.drewN d
  have hz2 : w.heap.size + 1 + 1 ≤ (w1.drewN d).heap.size := hz1
  clear st1 hz1
  generalize w1.drewN d = w2 at *
  obtain ⟨c0, c1⟩ := (st2.box 1 (w.heap.size, [.int .i64 (N : Int), .slice a L cap]) rfl).cell2
  have q0 := st2.sl 0 ⟨o, lo, hi, .slice a L cap, L, f⟩ rfl
  dsimp only at q0
  go_wp2_with fail
  refine (l05Constant_any m N _ q0 HC.out HP.out).mono ?_
  rintro e w3 ⟨a3, k3, rfl, s3, b3⟩
  have st3 := st2.keep b3
  have hz3 := b3.size
  have Q3 := Lib.hid s3
  clear s3 b3 st2 q0 c0 c1
  obtain ⟨d0, d1, d2⟩ := (st3.box 0 (w.heap.size + 1, [.int .i64 0, .int .i64 0, .slice none 0 0]) rfl).c3
  have dz := (st3.box 0 (w.heap.size + 1, [.int .i64 0, .int .i64 0, .slice none 0 0]) rfl).2.2
  dsimp only at dz
  have BB := st3.1
  go_wp2
  refine bodyPost_ret (v := .tuple #[.agg #[.int .i64 (m : Int), .int .i64 (N : Int), .slice a3 m k3], .int .i64 0]) (by simp [results, Try.results23, go_sem, d0, d1, d2]) rfl ?_
  refine ⟨_, _, rfl, ?_, by go_grown⟩
  exact (((Q3.out.setOther (.inl (by show w.heap.size + 1 < _; omega)) _).setOther (.inl (by show w.heap.size + 1 < _; omega)) _).setOther (.inl (by show w.heap.size + 1 < _; omega)) _).wide (by omega) (by simp) (Nat.le_refl _)

end
end Go.Proofs.Ythmhjnholhiohaa
