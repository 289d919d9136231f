/- MoveRoot of the program and of the model. -/
import Derived.Test.YthmhjnholhiohaaGSq
import Derived.Test.YthmhjnholhiohaaTab
import Derived.Deep.RegionHeld3
namespace Go.Proofs.Ythmhjnholhiohaa
open Go.RowKit Go.ChangeShapes Go.Sort Go.WideShapes
set_option linter.unusedVariables false
set_option linter.unusedSimpArgs false

/-- Rows under way: the rows below t have gone to their places. -/
def mvT (p a : Nat) (F : Nat → Nat → Int) : Nat → Nat → Nat → Int
  | 0, _ => fun _ => 0
  | t + 1, s => if s = t * a % p then F t else mvT p a F t s
theorem mvT_succ (p a : Nat) (F : Nat → Nat → Int) (t s j : Nat) : mvT p a F (t + 1) s j = if s = t * a % p then F t j else mvT p a F t s j := by
  rw [mvT]; split <;> rfl
theorem mvT_bd {p a : Nat} {F : Nat → Nat → Int} {L : Nat} {B : Int} (hB : 0 ≤ B) (h : ∀ i j, i < p → j < L → -B ≤ F i j ∧ F i j ≤ B) : ∀ t, t ≤ p → ∀ s j, j < L → -B ≤ mvT p a F t s j ∧ mvT p a F t s j ≤ B
  | 0, _, s, j, hj => by show -B ≤ (0 : Int) ∧ (0 : Int) ≤ B; omega
  | t + 1, ht, s, j, hj => by
    unfold mvT
    split
    · exact h t j (by omega) hj
    · exact mvT_bd hB h t (by omega) s j hj
def mvOk (p : Nat) : Bool := (List.range p).all (fun a => a == 0 || (List.range p).all (fun t => t * a % p != 0 || t == 0))
theorem mv_all : ∀ p, p < 62 → primeN p = true → mvOk p = true := by decide +kernel
theorem mv_tab (p : Nat) (h : p < 62) (hp : primeN p = true) (a : Nat) (ha : a < p) (h1 : 1 ≤ a) (t : Nat) (ht : t < p) (e : t * a % p = 0) : t = 0 := by
  have h0 := mv_all p h hp
  unfold mvOk at h0
  rw [List.all_eq_true] at h0
  have h2 := h0 a (List.mem_range.2 ha)
  rw [Bool.or_eq_true] at h2
  rcases h2 with h2 | h2
  · have := beq_iff_eq.1 h2; omega
  · rw [List.all_eq_true] at h2
    have h3 := h2 t (List.mem_range.2 ht)
    rw [Bool.or_eq_true] at h3
    rcases h3 with h3 | h3
    · rw [e] at h3; simp at h3
    · exact beq_iff_eq.1 h3
/-- The first row stays. -/
theorem mvT_zero {p a : Nat} {F : Nat → Nat → Int} (hp : primeN p = true) (h1 : 1 ≤ a) (h2 : a < p) {j : Nat} (h0 : F 0 j = 0) : ∀ t, t ≤ p → mvT p a F t 0 j = 0
  | 0, _ => rfl
  | t + 1, ht => by
    unfold mvT
    split
    · rename_i e
      have := mv_tab p (by have := primeN_bd hp; omega) hp a h2 h1 t (by omega) e.symm
      subst this; exact h0
    · exact mvT_zero hp h1 h2 h0 t (by omega)

section
variable {o : Bool} {lo hi : Nat} {V : Value} {m : Nat} {ln : Nat → Nat} {F : Nat → Nat → Int}

set_option maxRecDepth 100000 in
theorem MoveRoot_impl_bad (x y k : Int) (w : World) (hs : Rw o w lo hi V m ln F) (h : ¬ GsP x y m ln F) :
    Calls Try.prog 40 #[.agg #[.int .i64 x, .int .i64 y, V], .int .i64 k] w fun e w' => e = .returned (failG 1) ∧ Below w.heap.size w w' := by
  obtain ⟨a, cap, rfl⟩ := hs.shape
  have hml := hs.len
  unfold maxLen at hml
  have hh := hs.size
  have st0 := ((StR.start w).addRw ⟨o, lo, hi, .slice a m cap, m, ln, F⟩ hs).boxNew3 (.int .i64 x) (.int .i64 y) (.slice a m cap) 27
  replace st0 := st0.boxNew3 (.int .i64 0) (.int .i64 0) (.slice none 0 0) 27
  simp only [World.size_alloc] at st0
  have HG := Lib.hid (gsB_no h)
  clear hs h
  obtain ⟨c0, c1, c2⟩ := (st0.box 1 (w.heap.size, [.int .i64 x, .int .i64 y, .slice a m cap]) rfl).c3
  go_enter Try.func40, Try.ntmps40
  have q0 := st0.rw 0 ⟨o, lo, hi, .slice a m cap, m, ln, F⟩ rfl
  dsimp only at q0
  go_wp2_with fail
  refine (IsGauss_any _ _ _ q0).mono ?_
  rintro e w1 ⟨rfl, b1⟩
  rw [HG.out]
  have st1 := st0.keep b1
  have hz1 := b1.size
  simp only [World.size_alloc] at hz1
  clear st0 b1 q0
  clear c0 c1 c2
  obtain ⟨d0, d1, d2⟩ := (st1.box 0 (w.heap.size + 1, [.int .i64 0, .int .i64 0, .slice none 0 0]) rfl).c3
  have dz := (st1.box 0 (w.heap.size + 1, [.int .i64 0, .int .i64 0, .slice none 0 0]) rfl).2.2
  dsimp only at dz
  have BB := st1.1
  go_wp2
  refine bodyPost_ret (v := failG 1) (by simp [results, Try.results40, go_sem, failG, d0, d1, d2]) rfl ?_
  exact ⟨rfl, by first | exact BB | go_grown⟩


set_option maxRecDepth 100000 in
theorem MoveRoot_impl_out (x y k : Int) (w : World) (hs : Rw o w lo hi V m ln F) (h : GsP x y m ln F) (hout : k < 1 ∨ (m : Int) - 1 < k) :
    Calls Try.prog 40 #[.agg #[.int .i64 x, .int .i64 y, V], .int .i64 k] w fun e w' => e = .returned (failG 2) ∧ Below w.heap.size w w' := by
  obtain ⟨a, cap, rfl⟩ := hs.shape
  have HG := Lib.hid (gsB_yes h)
  obtain ⟨N, rfl, rfl, hp, h3, h61, h1, h16, hln, hcy, hwi, hz⟩ := h.nat
  have hml := hs.len
  unfold maxLen at hml
  have hh := hs.size
  have st0 := ((StR.start w).addRw ⟨o, lo, hi, .slice a m cap, m, ln, F⟩ hs).boxNew3 (.int .i64 (m : Int)) (.int .i64 (N : Int)) (.slice a m cap) 27
  replace st0 := st0.boxNew3 (.int .i64 0) (.int .i64 0) (.slice none 0 0) 27
  simp only [World.size_alloc] at st0
  clear hs h hp hln hcy hwi hz
  obtain ⟨c0, c1, c2⟩ := (st0.box 1 (w.heap.size, [.int .i64 (m : Int), .int .i64 (N : Int), .slice a m cap]) rfl).c3
  go_enter Try.func40, Try.ntmps40
  have q0 := st0.rw 0 ⟨o, lo, hi, .slice a m cap, m, ln, F⟩ rfl
  dsimp only at q0
  go_wp2_with fail
  refine (IsGauss_any _ _ _ q0).mono ?_
  rintro e w1 ⟨rfl, b1⟩
  rw [HG.out]
  have st1 := st0.keep b1
  have hz1 := b1.size
  simp only [World.size_alloc] at hz1
  clear st0 b1 q0
  clear c0 c1 c2
  obtain ⟨c0, c1, c2⟩ := (st1.box 1 (w.heap.size, [.int .i64 (m : Int), .int .i64 (N : Int), .slice a m cap]) rfl).c3
  obtain ⟨d0, d1, d2⟩ := (st1.box 0 (w.heap.size + 1, [.int .i64 0, .int .i64 0, .slice none 0 0]) rfl).c3
  have dz := (st1.box 0 (w.heap.size + 1, [.int .i64 0, .int .i64 0, .slice none 0 0]) rfl).2.2
  dsimp only at dz
  have BB := st1.1
  by_cases hk : k < 1
  · go_wp2
    refine bodyPost_ret (v := failG 2) (by simp [results, Try.results40, go_sem, failG, d0, d1, d2]) rfl ?_
    exact ⟨rfl, by first | exact BB | go_grown⟩
  · have hk2 : (m : Int) ≤ k := by omega
    go_wp2
    refine bodyPost_ret (v := failG 2) (by simp [results, Try.results40, go_sem, failG, d0, d1, d2]) rfl ?_
    exact ⟨rfl, by first | exact BB | go_grown⟩

set_option maxRecDepth 100000 in
theorem MoveRoot_spec_bad (x y k : Int) (w : World) (hs : Rw o w lo hi V m ln F) (h : ¬ GsP x y m ln F) :
    Calls Try.prog 39 #[.agg #[.int .i64 x, .int .i64 y, V], .int .i64 k] w fun e w' => e = .returned (failG 1) ∧ Below w.heap.size w w' := by
  obtain ⟨a, cap, rfl⟩ := hs.shape
  have hml := hs.len
  unfold maxLen at hml
  have hh := hs.size
  have st0 := ((StR.start w).addRw ⟨o, lo, hi, .slice a m cap, m, ln, F⟩ hs).boxNew3 (.int .i64 x) (.int .i64 y) (.slice a m cap) 27
  replace st0 := st0.boxNew3 (.int .i64 0) (.int .i64 0) (.slice none 0 0) 27
  simp only [World.size_alloc] at st0
  have HG := Lib.hid (gsB_no h)
  clear hs h
  obtain ⟨c0, c1, c2⟩ := (st0.box 1 (w.heap.size, [.int .i64 x, .int .i64 y, .slice a m cap]) rfl).c3
  go_enter Try.func39, Try.ntmps39
  have q0 := st0.rw 0 ⟨o, lo, hi, .slice a m cap, m, ln, F⟩ rfl
  dsimp only at q0
  go_wp2_with fail
  refine (l05Is_any _ _ _ q0).mono ?_
  rintro e w1 ⟨rfl, b1⟩
  rw [HG.out]
  have st1 := st0.keep b1
  have hz1 := b1.size
  simp only [World.size_alloc] at hz1
  clear st0 b1 q0
  clear c0 c1 c2
  obtain ⟨d0, d1, d2⟩ := (st1.box 0 (w.heap.size + 1, [.int .i64 0, .int .i64 0, .slice none 0 0]) rfl).c3
  have dz := (st1.box 0 (w.heap.size + 1, [.int .i64 0, .int .i64 0, .slice none 0 0]) rfl).2.2
  dsimp only at dz
  have BB := st1.1
  go_wp2
  refine bodyPost_ret (v := failG 1) (by simp [results, Try.results39, go_sem, failG, d0, d1, d2]) rfl ?_
  exact ⟨rfl, by first | exact BB | go_grown⟩


set_option maxRecDepth 100000 in
theorem MoveRoot_spec_out (x y k : Int) (w : World) (hs : Rw o w lo hi V m ln F) (h : GsP x y m ln F) (hout : k < 1 ∨ (m : Int) - 1 < k) :
    Calls Try.prog 39 #[.agg #[.int .i64 x, .int .i64 y, V], .int .i64 k] w fun e w' => e = .returned (failG 2) ∧ Below w.heap.size w w' := by
  obtain ⟨a, cap, rfl⟩ := hs.shape
  have HG := Lib.hid (gsB_yes h)
  obtain ⟨N, rfl, rfl, hp, h3, h61, h1, h16, hln, hcy, hwi, hz⟩ := h.nat
  have hml := hs.len
  unfold maxLen at hml
  have hh := hs.size
  have st0 := ((StR.start w).addRw ⟨o, lo, hi, .slice a m cap, m, ln, F⟩ hs).boxNew3 (.int .i64 (m : Int)) (.int .i64 (N : Int)) (.slice a m cap) 27
  replace st0 := st0.boxNew3 (.int .i64 0) (.int .i64 0) (.slice none 0 0) 27
  simp only [World.size_alloc] at st0
  clear hs h hp hln hcy hwi hz
  obtain ⟨c0, c1, c2⟩ := (st0.box 1 (w.heap.size, [.int .i64 (m : Int), .int .i64 (N : Int), .slice a m cap]) rfl).c3
  go_enter Try.func39, Try.ntmps39
  have q0 := st0.rw 0 ⟨o, lo, hi, .slice a m cap, m, ln, F⟩ rfl
  dsimp only at q0
  go_wp2_with fail
  refine (l05Is_any _ _ _ q0).mono ?_
  rintro e w1 ⟨rfl, b1⟩
  rw [HG.out]
  have st1 := st0.keep b1
  have hz1 := b1.size
  simp only [World.size_alloc] at hz1
  clear st0 b1 q0
  clear c0 c1 c2
  obtain ⟨c0, c1, c2⟩ := (st1.box 1 (w.heap.size, [.int .i64 (m : Int), .int .i64 (N : Int), .slice a m cap]) rfl).c3
  obtain ⟨d0, d1, d2⟩ := (st1.box 0 (w.heap.size + 1, [.int .i64 0, .int .i64 0, .slice none 0 0]) rfl).c3
  have dz := (st1.box 0 (w.heap.size + 1, [.int .i64 0, .int .i64 0, .slice none 0 0]) rfl).2.2
  dsimp only at dz
  have BB := st1.1
  have HK := Lib.hid hout
  have HSUB := Lib.hid (show IntKind.i64.wrap ((m : Int) - 1) = (m : Int) - 1 from IntWalk.i64_in _ (by omega))
  clear hout
  go_wp2_with fail
  try rw [HSUB.out]
  refine (l01In_no _ _ _ _ HK.out).mono ?_
  rintro e w2 ⟨rfl, rfl⟩
  go_wp2
  refine bodyPost_ret (v := failG 2) (by simp [results, Try.results39, go_sem, failG, d0, d1, d2]) rfl ?_
  exact ⟨rfl, by first | exact BB | go_grown⟩


set_option maxRecDepth 100000 in
set_option maxHeartbeats 4000000 in
theorem MoveRoot_impl_ok (N k : Nat) (w : World) (hs : Rw o w lo hi V m ln F) (h : GsP (m : Int) (N : Int) m ln F) (hk1 : 1 ≤ k) (hk2 : k < m) :
    Calls Try.prog 40 #[.agg #[.int .i64 (m : Int), .int .i64 (N : Int), V], .int .i64 (k : Int)] w fun e w' => ∃ a' c', e = .returned (.tuple #[.agg #[.int .i64 (m : Int), .int .i64 (N : Int), .slice a' m c'], .int .i64 0]) ∧ Rw true w' w.heap.size w'.heap.size (.slice a' m c') m (fun _ => phiN N) (mvT m k F m) ∧ Below w.heap.size w w' := by
  obtain ⟨a, cap, rfl⟩ := hs.shape
  have HG := Lib.hid (gsB_yes h)
  obtain ⟨N', hx, hy, hp, h3, h61, h1, h16, hln, hcy, hwi, hz⟩ := h.nat
  obtain rfl : N' = N := by omega
  obtain ⟨L, hL⟩ : ∃ L, phiN N' = L := ⟨_, rfl⟩
  have hphi := phi_le12 N' (by omega) h1
  have hphi1 := phiN_pos N' (by omega) h1
  rw [hL] at hphi hphi1 hln hwi hz ⊢
  have HL := Lib.hid hL
  have HLN := Lib.hid hln; have HWI := Lib.hid hwi; have HZ := Lib.hid hz; have HPR := Lib.hid hp
  have hml := hs.len
  unfold maxLen at hml
  have hh := hs.size
  have st0 := ((StR.start w).addRw ⟨o, lo, hi, .slice a m cap, m, ln, F⟩ hs).boxNew3 (.int .i64 (m : Int)) (.int .i64 (N' : Int)) (.slice a m cap) 27
  replace st0 := st0.boxNew3 (.int .i64 0) (.int .i64 0) (.slice none 0 0) 27
  simp only [World.size_alloc] at st0
  clear hs h hp hln hcy hwi hz hL hx hy
  obtain ⟨c0, c1, c2⟩ := (st0.box 1 (w.heap.size, [.int .i64 (m : Int), .int .i64 (N' : Int), .slice a m cap]) rfl).c3
  go_enter Try.func40, Try.ntmps40
  have q0 := st0.rw 0 ⟨o, lo, hi, .slice a m cap, m, ln, F⟩ rfl
  dsimp only at q0
  go_wp2_with fail
  refine (IsGauss_any _ _ _ q0).mono ?_
  rintro e w1 ⟨rfl, b1⟩
  rw [HG.out]
  have st1 := st0.keep b1
  have hz1 := b1.size
  simp only [World.size_alloc] at hz1
  clear st0 b1 q0
  clear c0 c1 c2
  obtain ⟨c0, c1, c2⟩ := (st1.box 1 (w.heap.size, [.int .i64 (m : Int), .int .i64 (N' : Int), .slice a m cap]) rfl).c3
  have hk1I : ¬ (k : Int) < 1 := by omega
  have hk2I : ¬ (m : Int) ≤ (k : Int) := by omega
  go_wp2
  go_region_held3 (fun w' => w'.cell? ⟨w.heap.size, 0, none⟩ = some (.int .i64 (m : Int)) ∧ w'.cell? ⟨w.heap.size, 1, none⟩ = some (.int .i64 (N' : Int)))
    (first | exact ⟨c0, c1⟩ | exact ⟨cell_later b6 c0, cell_later b6 c1⟩ | exact ⟨cell_later b7 (cell_later b6 c0), cell_later b7 (cell_later b6 c1)⟩ | go_keep)
    (first
      | (go_at_call 77; refine (totient_below N' _ (by omega)).mono ?_; rintro e w6 ⟨rfl, b6⟩)
      | (go_at_call 76; rw [HL.out]; refine (newRows_any m L (by omega) h61 hphi1 (by omega) _).mono ?_; rintro e w7 ⟨rfl, t7, b7⟩))
  all_goals
    have st7 := (st1.drew.keep b6).keep b7
    have hz6 := b6.size
    have hz7 := b7.size
    simp only [World.size_drew] at hz6
    obtain ⟨T, hT⟩ : ∃ T, w6.heap.size = T := ⟨_, rfl⟩
    rw [hT] at t7 hz6 hz7
    have ts := t7.size
    have HU7 := Lib.hid (t7.rwU (lo := T) hphi1 (by unfold maxLen; omega) (Nat.le_refl _) (Nat.le_succ _))
    obtain ⟨H, hH⟩ : ∃ H, w7.heap.size = H := ⟨_, rfl⟩
    rw [hH] at HU7 ts hz7
    clear hH
    have HT7 := Lib.hid st7
    simp only [hT]
    clear st1 st7 b6 b7 t7 c0 c1 c2 hT
    obtain ⟨c0, c1, c2⟩ := (HT7.out.box 1 (w.heap.size, [.int .i64 (m : Int), .int .i64 (N' : Int), .slice a m cap]) rfl).c3
    go_wp2
    clear c0 c1 c2
    go_loopw [31] (fun s wr => ∃ t : Nat, t ≤ m ∧ s = .int .i64 t ∧ RwU true wr T H (T + 1) 0 m m (fun i => .slice (some ⟨T, i * L, none⟩) L L) (fun _ => L) (mvT m k F t) ∧ StR w wr [(w.heap.size + 1, [.int .i64 0, .int .i64 0, .slice none 0 0]), (w.heap.size, [.int .i64 (m : Int), .int .i64 (N' : Int), .slice a m cap])] [] [⟨o, lo, hi, .slice a m cap, m, ln, F⟩]) (fun s _ => m - (intOf s).toNat)
    case atStart => exact ⟨0, Nat.zero_le _, rfl, HU7.out.congr (fun _ _ => rfl) (fun i j _ _ => rfl), HT7.out⟩
    case round =>
      clear HU7 HT7
      obtain ⟨t, ht, rfl, hu, hst⟩ := hrel
      have HU := Lib.hid hu; have HS := Lib.hid hst; clear hu hst
      obtain ⟨c0, c1, c2⟩ := (HS.out.box 1 (w.heap.size, [.int .i64 (m : Int), .int .i64 (N' : Int), .slice a m cap]) rfl).c3
      by_cases hlt : t < m
      · obtain ⟨g, off, cp, u, hv, hr⟩ := (HS.out.rw 0 ⟨o, lo, hi, .slice a m cap, m, ln, F⟩ rfl).at (show 0 < m by omega)
        dsimp only at hv hr
        obtain ⟨rfl, rfl⟩ : a = some ⟨g, off, none⟩ ∧ cap = cp := by cases hv; exact ⟨rfl, rfl⟩
        have ck := hr.head hlt
        have hrow := hr.row hlt
        rw [HLN.out t hlt] at hrow
        obtain ⟨a1, k1, hu⟩ := hrow.shape
        rw [hu] at ck hrow
        obtain ⟨M, hM⟩ : ∃ M, t * k = M := ⟨_, rfl⟩
        have hMb : M ≤ 3721 := by rw [← hM]; exact Nat.le_trans (Nat.mul_le_mul (show t ≤ 61 by omega) (show k ≤ 61 by omega)) (by decide)
        have hwm : IntKind.i64.wrap ((t : Int) * (k : Int)) = (M : Int) := by rw [← hM, ← Int.natCast_mul]; exact IntWalk.i64_in _ (by rw [hM]; omega)
        obtain ⟨q, hq⟩ : ∃ q, M % m = q := ⟨_, rfl⟩
        have hqm : q < m := by rw [← hq]; exact Nat.mod_lt _ (by omega)
        have htm : (M : Int).tmod (m : Int) = (q : Int) := by rw [Int.tmod_eq_emod_of_nonneg (by omega), ← hq, Int.natCast_emod]
        have hem : (M : Int) % (m : Int) = (q : Int) := by rw [← hq, Int.natCast_emod]
        have hm0 : ¬ m = 0 := by omega
        have cq := HU.out.head hqm
        rw [Nat.zero_add] at cq
        have HX := Lib.hid (HU.out.row hqm)
        have HR := Lib.hid hrow
        have HMQ := Lib.hid (show t * k % m = q by rw [hM]; exact hq)
        clear hv hr hu hrow hM hq
        go_wp2_with (
          (refine wpList_copyR rfl (.tmp 44) (.tmp 45) rfl HX.out HR.out rfl rfl (by omega) ?_; intro wA oA fA sA
           have UA := Lib.hid (HU.out.putOnly hqm oA sA)
           have SA := Lib.hid (HS.out.write fA (by omega) (by intro b hb; simp only [List.mem_cons, List.not_mem_nil, or_false] at hb; rcases hb with rfl | rfl <;> dsimp only <;> omega) (by intro s hs'; cases hs') (by intro s hs'; simp only [List.mem_cons, List.not_mem_nil, or_false] at hs'; rcases hs' with rfl <;> dsimp only <;> omega))
           clear HU HS oA fA sA c0 c1 c2 cq ck))
        go_roundw
        case rel =>
          refine ⟨t + 1, by omega, by go_num, UA.out.congr (fun _ _ => rfl) (fun y j hy hj => ?_), SA.out⟩
          show mvT m k F (t + 1) y j = _
          rw [mvT_succ, HMQ.out]
          by_cases e : y = q
          · rw [if_pos e, if_pos e]
          · rw [if_neg e, if_neg e]
        case measure => simp [intOf]; omega
      · obtain rfl : t = m := by omega
        obtain ⟨d0, d1, d2⟩ := (HS.out.box 0 (w.heap.size + 1, [.int .i64 0, .int .i64 0, .slice none 0 0]) rfl).c3
        have dz := (HS.out.box 0 (w.heap.size + 1, [.int .i64 0, .int .i64 0, .slice none 0 0]) rfl).2.2
        dsimp only at dz
        have BB := HS.out.1
        have hsz := HU.out.size
        go_wp2
        refine bodyPost_ret (v := .tuple #[.agg #[.int .i64 (t : Int), .int .i64 (N' : Int), .slice (some ⟨T + 1, 0, none⟩) t t], .int .i64 0]) (by simp [results, Try.results40, go_sem, d0, d1, d2]) rfl ?_
        refine ⟨_, _, rfl, ?_, by go_grown⟩
        exact ((((HU.out.rw.setOther (.inl (by show w.heap.size + 1 < _; omega)) _).setOther (.inl (by show w.heap.size + 1 < _; omega)) _).setOther (.inl (by show w.heap.size + 1 < _; omega)) _).wide (by omega) (by simp; omega) (Nat.le_refl _))


set_option maxRecDepth 100000 in
set_option maxHeartbeats 4000000 in
theorem MoveRoot_spec_ok (N k : Nat) (w : World) (hs : Rw o w lo hi V m ln F) (h : GsP (m : Int) (N : Int) m ln F) (hk1 : 1 ≤ k) (hk2 : k < m) :
    Calls Try.prog 39 #[.agg #[.int .i64 (m : Int), .int .i64 (N : Int), V], .int .i64 (k : Int)] w fun e w' => ∃ a' c', e = .returned (.tuple #[.agg #[.int .i64 (m : Int), .int .i64 (N : Int), .slice a' m c'], .int .i64 0]) ∧ Rw true w' w.heap.size w'.heap.size (.slice a' m c') m (fun _ => phiN N) (mvT m k F m) ∧ Below w.heap.size w w' := by
  obtain ⟨a, cap, rfl⟩ := hs.shape
  have HG := Lib.hid (gsB_yes h)
  obtain ⟨N', hx, hy, hp, h3, h61, h1, h16, hln, hcy, hwi, hz⟩ := h.nat
  obtain rfl : N' = N := by omega
  obtain ⟨L, hL⟩ : ∃ L, phiN N' = L := ⟨_, rfl⟩
  have hphi := phi_le12 N' (by omega) h1
  have hphi1 := phiN_pos N' (by omega) h1
  rw [hL] at hphi hphi1 hln hwi hz ⊢
  have HL := Lib.hid hL
  have HLN := Lib.hid hln; have HWI := Lib.hid hwi; have HZ := Lib.hid hz; have HPR := Lib.hid hp
  have hml := hs.len
  unfold maxLen at hml
  have hh := hs.size
  have st0 := ((StR.start w).addRw ⟨o, lo, hi, .slice a m cap, m, ln, F⟩ hs).boxNew3 (.int .i64 (m : Int)) (.int .i64 (N' : Int)) (.slice a m cap) 27
  replace st0 := st0.boxNew3 (.int .i64 0) (.int .i64 0) (.slice none 0 0) 27
  simp only [World.size_alloc] at st0
  clear hs h hp hln hcy hwi hz hL hx hy
  obtain ⟨c0, c1, c2⟩ := (st0.box 1 (w.heap.size, [.int .i64 (m : Int), .int .i64 (N' : Int), .slice a m cap]) rfl).c3
  go_enter Try.func39, Try.ntmps39
  have q0 := st0.rw 0 ⟨o, lo, hi, .slice a m cap, m, ln, F⟩ rfl
  dsimp only at q0
  go_wp2_with fail
  refine (l05Is_any _ _ _ q0).mono ?_
  rintro e w1 ⟨rfl, b1⟩
  rw [HG.out]
  have st1 := st0.keep b1
  have hz1 := b1.size
  simp only [World.size_alloc] at hz1
  clear st0 b1 q0
  clear c0 c1 c2
  obtain ⟨c0, c1, c2⟩ := (st1.box 1 (w.heap.size, [.int .i64 (m : Int), .int .i64 (N' : Int), .slice a m cap]) rfl).c3
  go_wp2_with fail
  refine (l01In_yes _ _ _ _ (by omega) (by omega)).mono ?_
  rintro e w2 ⟨rfl, rfl⟩
  go_wp2_with fail
  refine (l05Zeros_any m N' h61 h1 h16 _).mono ?_
  rintro e w2 ⟨g, cp, uz, rfl, hz, b2⟩
  rw [HL.out] at hz
  have st2 := st1.keep b2
  have hz2 := b2.size
  obtain ⟨B, hB⟩ : ∃ B, w1.heap.size = B := ⟨_, rfl⟩
  rw [hB] at hz hz1 hz2
  have HZR := Lib.hid hz; have HST := Lib.hid st2
  clear st1 st2 hz b2 c0 c1 c2 hB
  go_wp2
  go_loopw [7] (fun s wr => ∃ (t : Nat) (u : Nat → Value), t ≤ m ∧ s = .int .i64 t ∧ B ≤ wr.heap.size ∧ RwU true wr B wr.heap.size g 0 cp m u (fun _ => L) (mvT m k F t) ∧ StR w wr [(w.heap.size + 1, [.int .i64 0, .int .i64 0, .slice none 0 0]), (w.heap.size, [.int .i64 (m : Int), .int .i64 (N' : Int), .slice a m cap])] [] [⟨o, lo, hi, .slice a m cap, m, ln, F⟩]) (fun s _ => m - (intOf s).toNat)
  case atStart => exact ⟨0, uz, Nat.zero_le _, rfl, hz2, HZR.out.congr (fun _ _ => rfl) (fun i j _ _ => rfl), HST.out⟩
  case round =>
    clear HZR HST
    obtain ⟨t, u, ht, rfl, hBr, hu, hst⟩ := hrel
    have HU := Lib.hid hu; have HS := Lib.hid hst; clear hu hst
    obtain ⟨c0, c1, c2⟩ := (HS.out.box 1 (w.heap.size, [.int .i64 (m : Int), .int .i64 (N' : Int), .slice a m cap]) rfl).c3
    by_cases hlt : t < m
    · obtain ⟨g1, off, cp1, ua, hv, hr⟩ := (HS.out.rw 0 ⟨o, lo, hi, .slice a m cap, m, ln, F⟩ rfl).at (show 0 < m by omega)
      dsimp only at hv hr
      have hg1 := hr.blk
      obtain ⟨rfl, rfl⟩ : a = some ⟨g1, off, none⟩ ∧ cap = cp1 := by cases hv; exact ⟨rfl, rfl⟩
      have ck := hr.head hlt
      have hrow := hr.row hlt
      rw [HLN.out t hlt] at hrow
      obtain ⟨M, hM⟩ : ∃ M, t * k = M := ⟨_, rfl⟩
      have hMb : M ≤ 3721 := by rw [← hM]; exact Nat.le_trans (Nat.mul_le_mul (show t ≤ 61 by omega) (show k ≤ 61 by omega)) (by decide)
      have hwm : IntKind.i64.wrap ((t : Int) * (k : Int)) = (M : Int) := by rw [← hM, ← Int.natCast_mul]; exact IntWalk.i64_in _ (by rw [hM]; omega)
      obtain ⟨q, hq⟩ : ∃ q, M % m = q := ⟨_, rfl⟩
      have hqm : q < m := by rw [← hq]; exact Nat.mod_lt _ (by omega)
      have htm : (M : Int).tmod (m : Int) = (q : Int) := by rw [Int.tmod_eq_emod_of_nonneg (by omega), ← hq, Int.natCast_emod]
      have hem : (M : Int) % (m : Int) = (q : Int) := by rw [← hq, Int.natCast_emod]
      have hm0 : ¬ m = 0 := by omega
      have hqI : (q : Int) < (m : Int) := by omega
      have HR := Lib.hid hrow
      have HMQ := Lib.hid (show t * k % m = q by rw [hM]; exact hq)
      have hgb := HU.out.blk
      clear hv hr hrow hM hq
      go_wp2
      go_region_held3 (fun w' => w'.cell? ⟨w.heap.size, 0, none⟩ = some (.int .i64 (m : Int)) ∧ w'.cell? ⟨w.heap.size, 2, none⟩ = some (.slice (some ⟨g1, off, none⟩) m cap) ∧ w'.cell? ⟨g1, off + t, none⟩ = some (ua t))
        (first | exact ⟨c0, c2, ck⟩ | exact ⟨cell_later b6 c0, cell_later b6 c2, cell_later b6 ck⟩ | exact ⟨cell_one (cell_later b6 c0) (by omega), cell_one (cell_later b6 c2) (by omega), cell_one (cell_later b6 ck) (by omega)⟩ | go_keep)
        (first
          | (go_at_call 101; refine (l01Own_any _ HR.out.drew (by omega)).mono ?_; rintro e w6 ⟨a6, k6, rfl, s6, b6⟩
             have hz6 := b6.size
             simp only [World.size_drew] at hz6 s6
             have u6 := HU.out.drew.keep b6 (by simp)
             have cq := u6.head hqm
             have cz := u6.frozen q
             rw [Nat.zero_add] at cq
             have UP := Lib.hid (u6.putRow s6 hz6 hqm)
             have S6 := Lib.hid (HS.out.drew.keep b6)))
      all_goals
        clear b6 s6 u6 HU HS c0 c1 c2 ck
        go_wp2
        go_roundw
        case rel =>
          refine ⟨t + 1, fun y => if y = q then .slice a6 L k6 else u y, by omega, by go_num, by simp; omega, ?_, S6.out.write (lo := g) (hi := g + 1) ((Frame.refl g (g + 1) w6).setCell (Nat.le_refl _) (Nat.lt_succ_self _) _) (by omega) (by intro b hb; simp only [List.mem_cons, List.not_mem_nil, or_false] at hb; rcases hb with rfl | rfl <;> dsimp only <;> omega) (by intro s hs'; cases hs') (by intro s hs'; simp only [List.mem_cons, List.not_mem_nil, or_false] at hs'; rcases hs' with rfl <;> dsimp only <;> omega)⟩
          have hp := UP.out
          rw [Nat.zero_add] at hp
          refine (hp.wide (Nat.le_refl _) (by simp) (Nat.le_refl _)).congr (fun y _ => by split <;> rfl) (fun y j hy hj => ?_)
          show mvT m k F (t + 1) y j = _
          rw [mvT_succ, HMQ.out]
          by_cases e : y = q
          · rw [if_pos e, if_pos e]
          · rw [if_neg e, if_neg e]
        case measure => simp [intOf]; omega
    · obtain rfl : t = m := by omega
      have HB := Lib.hid (fun i j (hi : i < t) (hj : j < L) => mvT_bd (p := t) (a := k) (F := F) (L := L) (B := 1000000000) (by omega) (fun i j hi hj => HWI.out i hi j hj) t (Nat.le_refl _) i j hj)
      have HZ0 := Lib.hid (fun j (hj : j < L) => mvT_zero (F := F) HPR.out hk1 hk2 (HZ.out j hj) t (Nat.le_refl _))
      go_wp2_with fail
      refine (l05Normal_any _ _ _ HU.out.rw (by omega) h61 hphi (fun i j hi hj => by have := HB.out i j hi hj; rw [HZ0.out j hj]; unfold inR; omega)).mono ?_
      rintro e w3 ⟨a3, k3, rfl, s3, b3⟩
      have hz3 := b3.size
      have S3 := HS.out.keep b3
      have Q3 := Lib.hid s3
      clear s3 b3 HU HS c0 c1 c2
      obtain ⟨d0, d1, d2⟩ := (S3.box 0 (w.heap.size + 1, [.int .i64 0, .int .i64 0, .slice none 0 0]) rfl).c3
      have dz := (S3.box 0 (w.heap.size + 1, [.int .i64 0, .int .i64 0, .slice none 0 0]) rfl).2.2
      dsimp only at dz
      have BB := S3.1
      go_wp2
      refine bodyPost_ret (v := .tuple #[.agg #[.int .i64 (t : Int), .int .i64 (N' : Int), .slice a3 t k3], .int .i64 0]) (by simp [results, Try.results39, go_sem, d0, d1, d2]) rfl ?_
      refine ⟨_, _, rfl, ?_, by go_grown⟩
      refine ((((Q3.out.setOther (.inl (by show w.heap.size + 1 < _; omega)) _).setOther (.inl (by show w.heap.size + 1 < _; omega)) _).setOther (.inl (by show w.heap.size + 1 < _; omega)) _).wide (by omega) (by simp) (Nat.le_refl _)).congr (fun _ _ => rfl) (fun i j hi hj => ?_)
      rw [HZ0.out j hj]; omega

end
end Go.Proofs.Ythmhjnholhiohaa
