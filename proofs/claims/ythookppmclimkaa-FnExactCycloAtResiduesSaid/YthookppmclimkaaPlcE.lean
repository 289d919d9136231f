/- Numbers with given residues, of the program: lists of residues, polynomials times x less a root. -/
import Derived.Test.YthookppmclimkaaPlcC
import Derived.Test.YthookppmclimkaaPlcN
import Derived.Deep.RegionHeld3
import Derived.Deep.RegionLaw
namespace Go.Proofs.Ythookppmclimkaa
open Go.RowKit Go.ChangeShapes Go.Sort
set_option linter.unusedVariables false
set_option linter.unusedSimpArgs false
set_option maxRecDepth 100000

/-- n numbers in 0..l - 1. -/
def ResP (f : Nat → Int) (n : Nat) (l : Int) : Prop := ∀ i, i < n → 0 ≤ f i ∧ f i < l
section
variable {o : Bool} {lo hi : Nat} {v : Value} {n : Nat} {f : Nat → Int}
theorem areResidues_yes (l : Int) (w : World) (hl : 1 ≤ l) (hl' : l ≤ 1000) (hs : Sl o w lo hi v n f) (h : ResP f n l) :
    Calls Try.prog 39 #[v, .int .i64 l] w fun r w' => r = .returned (.bool true) ∧ w = w' := by
  have hm := hs.len
  unfold maxLen at hm
  obtain ⟨a, cap, rfl⟩ := hs.shape
  have HS := Lib.hid hs
  have H := Lib.hid h
  have HBD := Lib.hid hs.bd
  clear hs h
  go_enter Try.func39, Try.ntmps39
  go_wp2
  go_loopw [9] (fun s9 wr => ∃ k : Nat, k ≤ n ∧ s9 = .int .i64 (k : Int) ∧ ResP f k l ∧ wr = w) (fun s9 _ => n - (intOf s9).toNat)
  case atStart => exact ⟨0, Nat.zero_le _, rfl, fun j hj => absurd hj (Nat.not_lt_zero _), rfl⟩
  case round =>
    obtain ⟨k, hk, rfl, hp, hwr⟩ := hrel
    subst hwr
    have HP := Lib.hid hp
    clear hp
    by_cases hlt : k < n
    · obtain ⟨g, off, cap', hv, _, _, _, _, hc, _⟩ := HS.out.at (by omega)
      obtain ⟨rfl, rfl⟩ : a = some ⟨g, off, none⟩ ∧ cap = cap' := by cases hv; exact ⟨rfl, rfl⟩
      clear hv
      have hck := hc k hlt
      clear hc
      have hf0 : 0 ≤ f k := (H.out k hlt).1
      have hf1 : f k < l := (H.out k hlt).2
      go_wp2
      go_roundw
      case rel => exact ⟨k + 1, by omega, by go_num, fun j hj => by
        rcases Nat.lt_succ_iff_lt_or_eq.1 hj with h | h
        · exact HP.out j h
        · subst h; exact ⟨by omega, by omega⟩, by first | rfl | trivial⟩
      case measure => simp [intOf] <;> omega
    · obtain rfl : k = n := by omega
      go_wp2
      go_ret
      exact ⟨rfl, rfl⟩
theorem areResidues_no (l : Int) (w : World) (hl : 1 ≤ l) (hl' : l ≤ 1000) (hs : Sl o w lo hi v n f) (h : ¬ ResP f n l) :
    Calls Try.prog 39 #[v, .int .i64 l] w fun r w' => r = .returned (.bool false) ∧ w = w' := by
  have hm := hs.len
  unfold maxLen at hm
  obtain ⟨a, cap, rfl⟩ := hs.shape
  have HS := Lib.hid hs
  have H := Lib.hid h
  have HBD := Lib.hid hs.bd
  clear hs h
  go_enter Try.func39, Try.ntmps39
  go_wp2
  go_loopw [9] (fun s9 wr => ∃ k : Nat, k ≤ n ∧ s9 = .int .i64 (k : Int) ∧ ResP f k l ∧ wr = w) (fun s9 _ => n - (intOf s9).toNat)
  case atStart => exact ⟨0, Nat.zero_le _, rfl, fun j hj => absurd hj (Nat.not_lt_zero _), rfl⟩
  case round =>
    obtain ⟨k, hk, rfl, hp, hwr⟩ := hrel
    subst hwr
    have HP := Lib.hid hp
    clear hp
    by_cases hlt : k < n
    · obtain ⟨g, off, cap', hv, _, _, _, _, hc, _⟩ := HS.out.at (by omega)
      obtain ⟨rfl, rfl⟩ : a = some ⟨g, off, none⟩ ∧ cap = cap' := by cases hv; exact ⟨rfl, rfl⟩
      clear hv
      have hck := hc k hlt
      clear hc
      by_cases hf0 : f k < 0
      · go_wp2
        go_ret
        exact ⟨rfl, rfl⟩
      · by_cases hf1 : l ≤ f k
        · have hf2 : 0 ≤ f k := by omega
          clear hf0
          go_wp2
          go_ret
          exact ⟨rfl, rfl⟩
        · have hf2 : 0 ≤ f k := by omega
          have hf3 : f k < l := by omega
          clear hf0 hf1
          go_wp2
          go_roundw
          case rel => exact ⟨k + 1, by omega, by go_num, fun j hj => by
            rcases Nat.lt_succ_iff_lt_or_eq.1 hj with h | h
            · exact HP.out j h
            · subst h; exact ⟨by omega, by omega⟩, by first | rfl | trivial⟩
          case measure => simp [intOf] <;> omega
    · obtain rfl : k = n := by omega
      exact absurd HP.out H.out
end

/-! Times x less a root -/
/-- After k rounds. -/
def tmG (l r : Int) (f : Nat → Int) (k j : Nat) : Int := if j < k then ((if j = 0 then 0 else f (j - 1)) - r * f j) % l else if j = k then (if k = 0 then 0 else f (k - 1)) else 0
theorem tmG_bd {l r : Int} {f : Nat → Int} (hl : 1 ≤ l) (hf : ∀ j, 0 ≤ f j ∧ f j < l) (k j : Nat) : 0 ≤ tmG l r f k j ∧ tmG l r f k j < l := by
  unfold tmG
  split
  · exact ⟨Int.emod_nonneg _ (by omega), Int.emod_lt_of_pos _ (by omega)⟩
  · split
    · split
      · omega
      · exact hf _
    · omega
theorem tmG_end {l r : Nat} {P : List Nat} (hl : 1 ≤ l) (hr : r < l) (hP : ∀ j, 0 ≤ nF P j ∧ nF P j < l) (j : Nat) (hj : j < P.length + 1) : tmG l r (nF P) P.length j = nF (tmL l r P) j := by
  have e : nF (tmL l r P) j = (((if j = 0 then 0 else P.getD (j - 1) 0) + (l - r) * P.getD j 0) % l : Nat) := by
    unfold nF tmL
    rw [List.getD_eq_getElem?_getD, List.getElem?_map, List.getElem?_range hj]
    rfl
  rw [e, Int.natCast_emod, Int.natCast_add, Int.natCast_mul]
  have e2 : (((if j = 0 then 0 else P.getD (j - 1) 0 : Nat)) : Int) = if j = 0 then 0 else nF P (j - 1) := by split <;> rfl
  have e3 : ((l - r : Nat) : Int) = (l : Int) - r := by omega
  rw [e2, e3]
  show _ = ((if j = 0 then 0 else nF P (j - 1)) + ((l : Int) - r) * nF P j) % l
  unfold tmG
  by_cases h : j < P.length
  · rw [if_pos h, Int.sub_mul, show ((if j = 0 then 0 else nF P (j - 1)) + ((l : Int) * nF P j - r * nF P j)) = ((if j = 0 then 0 else nF P (j - 1)) - r * nF P j) + (l : Int) * nF P j by omega, Int.add_mul_emod_self_left]
  · obtain rfl : j = P.length := by omega
    rw [if_neg h, if_pos rfl, nF_top (Nat.le_refl _), Int.mul_zero, Int.add_zero]
    split
    · simp
    · exact (Int.emod_eq_of_lt (hP _).1 (hP _).2).symm
section
variable {o : Bool} {lo hi : Nat} {v : Value}
set_option maxHeartbeats 2000000 in
theorem timesRoot_any (l r : Nat) (hl1 : 2 ≤ l) (hl2 : l ≤ 61) (hr : r < l) (P : List Nat) (m : Nat) (hPm : P.length = m) (hP : ∀ j, 0 ≤ nF P j ∧ nF P j < l) (hm : m ≤ 60) (w : World) (hs : Sl o w lo hi v m (nF P)) :
    Calls Try.prog 55 #[v, .int .i64 (r : Int), .int .i64 (l : Int)] w fun e w' => ∃ a k, e = .returned (.slice a (m + 1) k) ∧ Sl true w' w.heap.size w'.heap.size (.slice a (m + 1) k) (m + 1) (nF (tmL l r P)) ∧ Below w.heap.size w w' := by
  subst hPm
  obtain ⟨a, cap, rfl⟩ := hs.shape
  have hsz := hs.size
  have HP := Lib.hid hP
  have HE := Lib.hid (fun j hj => tmG_end (l := l) (r := r) (P := P) (by omega) hr hP j hj)
  have HB := Lib.hid (fun k j => tmG_bd (l := (l : Int)) (r := (r : Int)) (f := nF P) (by omega) hP k j)
  obtain ⟨f, hf⟩ : ∃ f, nF P = f := ⟨_, rfl⟩
  obtain ⟨m, hmm⟩ : ∃ m, P.length = m := ⟨_, rfl⟩
  rw [hf] at hs HP HE HB
  rw [hmm] at hs hm HE ⊢
  clear hP hf hmm
  have hmk := run_make_row' (P := Try.prog) 22 2 (.int .i64 0) 8 Try.underlying22 Try.info2 rfl .i64 .i64 (m + 1) (by omega) (by omega)
  have hmk2 : ∀ w : World, (Instr.makeSlice 22 (.int .i64 ((m : Int) + 1)) (.int .i64 ((m : Int) + 1))).run Try.prog w = .ok (.slice (some ⟨w.heap.size, 0, none⟩) (m + 1) (m + 1)) (w.alloc (.cells (madeCells #[.int .i64 0] (m + 1)) 2)) := fun w => hmk w
  have q0 := Sl.made w (madeCells #[.int .i64 0] (m + 1)) 2 (m + 1) (m + 1) (fun _ => 0) (Nat.le_refl _) (by unfold maxLen; omega) (fun j hj => by simp [inR]) (fun j hj => by simp [madeCells_at _ _ _ hj])
  have st0 := ((((St.start w).addSl ⟨o, lo, hi, .slice a m cap, m, f⟩ hs).alloc (.cells (madeCells #[.int .i64 0] (m + 1)) 2)))
  have Q0 := Lib.hid q0
  have ST := Lib.hid st0
  clear hs q0 st0 hmk
  go_enter Try.func55, Try.ntmps55
  go_wp2
  clear hmk2
  go_loopw [16] (fun s16 wr => ∃ k : Nat, k ≤ m ∧ s16 = .int .i64 (k : Int) ∧ Sl true wr w.heap.size (w.heap.size + 1) (.slice (some ⟨w.heap.size, 0, none⟩) (m + 1) (m + 1)) (m + 1) (tmG l r f k) ∧ St w wr [] [⟨o, lo, hi, .slice a m cap, m, f⟩]) (fun s16 _ => m - (intOf s16).toNat)
  case atStart => exact ⟨0, Nat.zero_le _, rfl, Q0.out.congr (fun j _ => by unfold tmG; rw [if_neg (Nat.not_lt_zero _)]; split <;> simp), ST.out⟩
  case round =>
    clear Q0 ST
    obtain ⟨k, hk, rfl, hq, hst⟩ := hrel
    have HQ := Lib.hid hq
    have HT := Lib.hid hst
    clear hq hst
    by_cases hlt : k < m
    · have qf := HT.out.sl 0 ⟨o, lo, hi, .slice a m cap, m, f⟩ rfl
      dsimp only at qf
      obtain ⟨g, off, cap', hv, _, hg, _, _, hc, _⟩ := qf.at (by omega)
      obtain ⟨rfl, rfl⟩ : a = some ⟨g, off, none⟩ ∧ cap = cap' := by cases hv; exact ⟨rfl, rfl⟩
      clear hv
      have hck := hc k hlt
      clear hc qf
      have u0 := (HQ.out.known (by omega)).2.2.2.1 k (by omega)
      have uz := (HQ.out.known (by omega)).2.2.2.2 rfl k
      have u1 := (HQ.out.known (by omega)).2.2.2.1 (k + 1) (by omega)
      have uz1 := (HQ.out.known (by omega)).2.2.2.2 rfl (k + 1)
      rw [Nat.zero_add] at u0 u1
      have e0 : tmG l r f k k = if k = 0 then 0 else f (k - 1) := by unfold tmG; rw [if_neg (Nat.lt_irrefl _), if_pos rfl]
      have hb0 := HB.out k k
      rw [e0] at u0 hb0
      obtain ⟨y, hy⟩ : ∃ y, (if k = 0 then 0 else f (k - 1)) = y := ⟨_, rfl⟩
      obtain ⟨z, hz⟩ : ∃ z, f k = z := ⟨_, rfl⟩
      have hz2 := HP.out k
      rw [hy] at u0 hb0
      rw [hz] at hck hz2
      have hp0 : 0 ≤ (r : Int) * z := Int.mul_nonneg (by omega) (by omega)
      have hp1 : (r : Int) * z ≤ 61 * 61 := Int.mul_le_mul (by omega) (by omega) (by omega) (by omega)
      have hk3 : (k : Int) < (m : Int) + 1 := by omega
      have hk4 : (k : Int) + 1 < (m : Int) + 1 := by omega
      have hrm := Int.emod_nonneg (y - r * z) (b := (l : Int)) (by omega)
      have hrm2 := Int.emod_lt_of_pos (y - r * z) (b := (l : Int)) (by omega)
      have s1 := HQ.out.store (i := k) (x := (y - r * z) % (l : Int)) (by omega) (by unfold inR; omega)
      rw [Nat.zero_add] at s1
      have s2 := s1.store (i := k + 1) (x := z) (by omega) (by unfold inR; omega)
      rw [Nat.zero_add] at s2
      have S2 := Lib.hid (s2.congr (f' := tmG l r f (k + 1)) (fun j hj => by
        unfold tmG
        by_cases h1 : j = k + 1
        · subst h1; rw [if_neg (Nat.lt_irrefl _), if_pos rfl, if_neg (Nat.succ_ne_zero _), if_pos rfl, Nat.add_sub_cancel, hz]
        · by_cases h2 : j = k
          · subst h2; rw [if_pos (Nat.lt_succ_self _), if_neg h1, if_pos rfl, hy, hz]
          · by_cases h3 : j < k
            · simp only [if_neg h1, if_neg h2, if_pos h3, if_pos (show j < k + 1 by omega)]
            · simp only [if_neg h1, if_neg h2, if_neg h3, if_neg (show ¬ j < k + 1 by omega)]))
      have frm := ((Frame.refl w.heap.size (w.heap.size + 1) wr).setCell (p := ⟨w.heap.size, k, none⟩) (Nat.le_refl _) (Nat.lt_succ_self _) (.int .i64 ((y - r * z) % (l : Int)))).setCell (p := ⟨w.heap.size, k + 1, none⟩) (Nat.le_refl _) (Nat.lt_succ_self _) (.int .i64 z)
      have T2 := Lib.hid (HT.out.write frm (Nat.le_refl _) (by intro b hb; cases hb) (by intro s hs'; simp only [List.mem_cons, List.not_mem_nil, or_false] at hs'; rcases hs' with rfl; left; show hi ≤ _; omega))
      clear s1 s2 frm e0
      go_wp2_with (go_at_call 54; refine (restBy_any (y - r * z) l (by omega) (by omega) (by omega) (by omega) _).mono ?_; rintro e w1 ⟨rfl, rfl⟩)
      go_roundw
      case rel => exact ⟨k + 1, by omega, by go_num, S2.out, T2.out⟩
      case measure => simp [intOf] <;> omega
    · obtain rfl : k = m := by omega
      have BB := HT.out.1
      go_wp2
      go_ret
      exact ⟨_, _, rfl, (HQ.out.congr (fun j hj => (HE.out j hj).symm)).wide (Nat.le_refl _) HQ.out.size (Nat.le_refl _), BB⟩

theorem powerModulo_below (l x k : Nat) (hl : 2 ≤ l) (hl2 : l ≤ 61) (hx : x < l) (hk : k ≤ 100) (w : World) :
    Calls Try.prog 53 #[.int .i64 (x : Int), .int .i64 (k : Int), .int .i64 (l : Int)] w fun r w' => r = .returned (.int .i64 (pwr l x k : Nat)) ∧ Below w.heap.size w w' :=
  (powerModulo_any l x k hl hl2 hx hk w).mono fun _ _ ⟨he, m, hw⟩ => ⟨he, hw ▸ below_drewN (Below.refl _ _) m⟩
/-! Root by root -/
set_option maxHeartbeats 4000000 in
theorem interpolated_any (n l : Nat) (h1 : 1 ≤ n) (h2 : n ≤ 16) (hl : primeN l = true) (hfu : fullN l n = true) {o2 : Bool} {lo2 hi2 : Nat} {v2 : Value} {f : Nat → Int} (w : World)
    (hr : Sl o w lo hi v (roots n l).length (rtF (roots n l))) (hs : Sl o2 w lo2 hi2 v2 (roots n l).length f) (hf : ResP f (roots n l).length l) :
    Calls Try.prog 40 #[v, v2, .int .i64 (l : Int)] w fun e w' => ∃ a k, e = .returned (.slice a (roots n l).length k) ∧ Sl true w' w.heap.size w'.heap.size (.slice a (roots n l).length k) (roots n l).length (nwF l (roots n l).length (roots n l) f (roots n l).length) ∧ Below w.heap.size w w' := by
  have hb := primeN_bd hl
  have hph := phi_bd n (by omega) h1
  have hrl := rt_len hl h1 h2 hfu
  have HNW := Lib.hid (fun i hi => nw_ok hl h1 h2 hfu (i := i) hi)
  have HRM := Lib.hid (roots_le (n := n) hl)
  have HFP := Lib.hid hf
  have HNB := Lib.hid (fun i j => nwF_bd (l := l) (m := (roots n l).length) (by omega) (roots n l) f i j)
  obtain ⟨R, hR⟩ : ∃ R, roots n l = R := ⟨_, rfl⟩
  obtain ⟨m, hm⟩ : ∃ m, R.length = m := ⟨_, rfl⟩
  rw [hR] at HNW HRM HNB hr hs HFP hrl ⊢
  rw [hm] at HNW HNB hr hs HFP hrl ⊢
  have HM := Lib.hid hm
  have hm12 : 1 ≤ m ∧ m ≤ 12 := by omega
  clear hl hfu hf hR hm hrl hph
  obtain ⟨a1, c1, rfl⟩ := hr.shape
  obtain ⟨a2, c2, rfl⟩ := hs.shape
  have hz1 := hr.size
  have hz2 := hs.size
  have hmk := run_make_row' (P := Try.prog) 22 2 (.int .i64 0) 8 Try.underlying22 Try.info2 rfl .i64 .i64 m (by omega) (by omega)
  have q0 := (Sl.made w (madeCells #[.int .i64 0] m) 2 m m (fun _ => 0) (Nat.le_refl _) (by unfold maxLen; omega) (fun j hj => by simp [inR]) (fun j hj => by simp [madeCells_at _ _ _ hj])).alloc (.cells #[.int .i64 1] 2)
  have p0 := Sl.made (w.alloc (.cells (madeCells #[.int .i64 0] m) 2)) #[.int .i64 1] 2 1 1 (nF [1]) (Nat.le_refl _) (by decide) (fun j hj => by have e : j = 0 := (by omega); subst e; simp [inR, nF]) (fun j hj => by have e : j = 0 := (by omega); subst e; rfl)
  simp only [World.size_alloc] at p0
  have st0 := (((((St.start w).addSl ⟨o2, lo2, hi2, .slice a2 m c2, m, f⟩ hs).addSl ⟨o, lo, hi, .slice a1 m c1, m, rtF R⟩ hr).alloc (.cells (madeCells #[.int .i64 0] m) 2)).alloc (.cells #[.int .i64 1] 2))
  have Q0 := Lib.hid q0
  have P0 := Lib.hid p0
  have ST := Lib.hid st0
  clear hr hs q0 p0 st0
  go_enter Try.func40, Try.ntmps40
  go_wp2
  clear hmk
  go_loopw [8, 21] (fun s8 s21 wr => ∃ (i : Nat) (ap : Option Addr) (kp lp hp : Nat), i ≤ m ∧ s8 = .slice ap (i + 1) kp ∧ s21 = .int .i64 (i : Int) ∧ w.heap.size + 1 ≤ lp ∧ hp ≤ wr.heap.size ∧ Sl true wr lp hp (.slice ap (i + 1) kp) (i + 1) (nF (tmP l R i)) ∧ Sl true wr w.heap.size (w.heap.size + 1) (.slice (some ⟨w.heap.size, 0, none⟩) m m) m (nwF l m R f i) ∧ St w wr [] [⟨o, lo, hi, .slice a1 m c1, m, rtF R⟩, ⟨o2, lo2, hi2, .slice a2 m c2, m, f⟩]) (fun _ s21 _ => m - (intOf s21).toNat)
  case atStart => exact ⟨0, _, _, _, _, Nat.zero_le _, rfl, rfl, Nat.le_refl _, by simp, P0.out, Q0.out, ST.out⟩
  case round =>
    clear Q0 P0 ST
    obtain ⟨i, ap, kp, lp, hp, hi', rfl, rfl, hlp, hhp, hpp, hqq, hst⟩ := hrel
    have HP := Lib.hid hpp
    have HQ := Lib.hid hqq
    have HT := Lib.hid hst
    clear hpp hqq hst
    by_cases hlt : i < m
    · have qr := HT.out.sl 0 ⟨o, lo, hi, .slice a1 m c1, m, rtF R⟩ rfl
      have qs := HT.out.sl 1 ⟨o2, lo2, hi2, .slice a2 m c2, m, f⟩ rfl
      dsimp only at qr qs
      obtain ⟨gr, offr, cr, hvr, _, hgr, _, _, hcr, _⟩ := qr.at (by omega)
      obtain ⟨gs, offs, cs, hvs, _, hgs, _, _, hcs, _⟩ := qs.at (by omega)
      cases hvr
      cases hvs
      have ckr := hcr i hlt
      have cks := hcs i hlt
      obtain ⟨r0, hr0⟩ : ∃ r0, R.getD i 0 = r0 := ⟨_, rfl⟩
      rw [show rtF R i = ((r0 : Nat) : Int) by unfold rtF; rw [hr0]] at ckr
      have hrm : r0 < l := (HRM.out r0 (by rw [← hr0, List.getD_eq_getElem?_getD, List.getElem?_eq_getElem (by rw [HM.out]; exact hlt)]; exact List.getElem_mem _)).1
      have hfi := HFP.out i hlt
      have hvb := valN_bd (nwF l m R f i) m (r0 : Int) (q := (l : Int)) (by omega)
      clear hcr hcs qr qs
      have HV1 := Lib.hid (show Within (nwF l m R f i) m 1000000000 from fun j _ => by have := HNB.out i j; omega)
      obtain ⟨np1, np2, np3, u, np4, np5, np6⟩ := HNW.out i hlt
      have HV2 := Lib.hid (show Within (nF (tmP l R i)) (i + 1) 1000000000 from fun j _ => by have := np2 j; omega)
      obtain ⟨V, hV⟩ : ∃ V, valN (nwF l m R f i) m (r0 : Int) (l : Int) = V := ⟨_, rfl⟩
      have hrr : rtF R i = ((r0 : Nat) : Int) := by unfold rtF; rw [hr0]
      rw [hrr] at np4
      have hul : u < l := by have := valN_bd (nF (tmP l R i)) (i + 1) (r0 : Int) (q := (l : Int)) (by omega); omega
      have hpq := pwr_lt (p := l) (g := u) (by omega) (l - 2)
      have hl2 : ((l - 2 : Nat) : Int) = (l : Int) - 2 := by omega
      have HVM := Lib.hid (valueModulo_any wr.drew HQ.out.drew HV1.out (by omega) (by omega) r0 l (by omega) (by omega) (by omega))
      rw [hV] at HVM hvb
      have HN1 := Lib.hid (show ∀ j, nwF l m R f (i + 1) j = if j ≤ i then (nwF l m R f i j + ((f i - V) * (pwr l u (l - 2) : Nat)).tmod l * nF (tmP l R i) j) % l else nwF l m R f i j from fun j => by
        show (if j ≤ i then _ else _) = _
        rw [hrr, np4, hV, Int.toNat_natCast]; rfl)
      have NP2 := Lib.hid np2
      have HU := Lib.hid np4
      have HRR := Lib.hid hrr
      obtain ⟨gp, offp, cp, hvp, hgp1, hgp2, _, _, _⟩ := HP.out.at (by omega)
      cases hvp
      have hzw := HQ.out.size
      have HR0 := Lib.hid hr0
      clear np2 np3 np4 np5 hr0 hV hrr
      go_wp2_with fail
      go_region_held3 (fun w' => w'.cell? ⟨gs, offs + i, none⟩ = some (.int .i64 (f i)))
        (first | exact cks | exact cell_later b6 cks | go_keep)
        (first
          | (go_at_call 45; refine HVM.out.mono ?_; rintro e w6 ⟨rfl, b6⟩))
      all_goals
        have hz6 := b6.size
        simp only [World.size_drew] at hz6
        have T6 := HT.out.drew.keep b6
        have Q6 := HQ.out.drew.keep b6 (by show w.heap.size + 1 ≤ wr.heap.size; omega)
        have P6 := HP.out.drew.keep b6 (by show hp ≤ wr.heap.size; omega)
        clear HVM b6
        have HPM := Lib.hid (fun w => powerModulo_below l u (l - 2) (by omega) (by omega) hul (by omega) w)
        rw [hl2] at HPM
        go_wp2_with (first
          | (go_at_call 45; refine (valueModulo_any _ P6 HV2.out (by omega) (by omega) r0 l (by omega) (by omega) (by omega)).mono ?_; rw [HU.out]; rintro e w7 ⟨rfl, b7⟩)
          | (go_at_call 53; refine (HPM.out _).mono ?_; rintro e w8 ⟨rfl, b8⟩))
        have T8 := Lib.hid ((T6.keep b7).keep b8)
        have Q8 := Lib.hid ((Q6.keep b7 Q6.size).keep b8 (Nat.le_trans Q6.size b7.size))
        have P8 := Lib.hid ((P6.keep b7 P6.size).keep b8 (Nat.le_trans P6.size b7.size))
        have hz8 : wr.heap.size ≤ w8.heap.size := Nat.le_trans hz6 (Nat.le_trans b7.size b8.size)
        clear T6 Q6 P6 b7 b8 HPM
        obtain ⟨wp, hwp⟩ : ∃ x : World, x = w8 := ⟨_, rfl⟩
        subst hwp
        go_loopw [45] (fun s45 wx => ∃ k : Nat, k ≤ i + 1 ∧ s45 = .int .i64 (k : Int) ∧ Sl true wx lp hp (.slice (some ⟨gp, offp, none⟩) (i + 1) kp) (i + 1) (nF (tmP l R i)) ∧ Sl true wx w.heap.size (w.heap.size + 1) (.slice (some ⟨w.heap.size, 0, none⟩) m m) m (fun j => if j < k then nwF l m R f (i + 1) j else nwF l m R f i j) ∧ wp.heap.size ≤ wx.heap.size ∧ St w wx [] [⟨o, lo, hi, .slice (some ⟨gr, offr, none⟩) m c1, m, rtF R⟩, ⟨o2, lo2, hi2, .slice (some ⟨gs, offs, none⟩) m c2, m, f⟩]) (fun s45 _ => i + 1 - (intOf s45).toNat)
        case atStart => exact ⟨0, Nat.zero_le _, rfl, P8.out, Q8.out.congr (fun j _ => by rw [if_neg (Nat.not_lt_zero _)]), Nat.le_refl _, T8.out⟩
        case round =>
          clear P8 Q8 T8 HP HQ HT
          obtain ⟨k, hk, rfl, hpx, hqx, hzx, htx⟩ := hrel
          have HP := Lib.hid hpx
          have HQ := Lib.hid hqx
          have HT := Lib.hid htx
          clear hpx hqx htx
          by_cases hlk : k < i + 1
          · obtain ⟨gp', offp', cp', hvp, _, _, _, _, hcp, _⟩ := HP.out.at (by omega)
            cases hvp
            have ckp := hcp k hlk
            clear hcp
            have u0 := (HQ.out.known (by omega)).2.2.2.1 k (by omega)
            have uz := (HQ.out.known (by omega)).2.2.2.2 rfl k
            rw [Nat.zero_add, if_neg (Nat.lt_irrefl _)] at u0
            have hy := NP2.out k
            have hx0 := HNB.out i k
            have HNK := Lib.hid (HN1.out k)
            rw [if_pos (show k ≤ i by omega)] at HNK
            generalize nF (tmP l R i) k = y at *
            generalize nwF l m R f i k = x0 at *
            have ha : -61 ≤ f i - V ∧ f i - V ≤ 61 := by omega
            generalize f i - V = a at *
            generalize pwr l u (l - 2) = q at *
            have p1 : -(61 * 61) ≤ a * (q : Int) ∧ a * (q : Int) ≤ 61 * 61 := mul_in ha.1 ha.2 (by omega) (by omega)
            have t1 := Int.tmod_lt_of_pos (a * (q : Int)) (b := (l : Int)) (by omega)
            have t2 := Int.lt_tmod_of_pos (a * (q : Int)) (b := (l : Int)) (by omega)
            have p2 : -(61 * 61) ≤ (a * (q : Int)).tmod l * y ∧ (a * (q : Int)).tmod l * y ≤ 61 * 61 := mul_in (by omega) (by omega) (by omega) (by omega)
            have hl0 : ¬ l = 0 := by omega
            have HE2 := Lib.hid (show IntKind.i64.wrap (x0 + IntKind.i64.wrap ((IntKind.i64.wrap (IntKind.i64.wrap a * (q : Int))).tmod (l : Int) * y)) = x0 + (a * (q : Int)).tmod l * y by
              rw [IntWalk.i64_in a (by omega), IntWalk.i64_in (a * (q : Int)) (by omega), IntWalk.i64_in ((a * (q : Int)).tmod l * y) (by omega), IntWalk.i64_in _ (by omega)])
            have rb1 := Int.emod_nonneg (x0 + (a * (q : Int)).tmod l * y) (b := (l : Int)) (by omega)
            have rb2 := Int.emod_lt_of_pos (x0 + (a * (q : Int)).tmod l * y) (b := (l : Int)) (by omega)
            have s2 := HQ.out.store (i := k) (x := (x0 + (a * (q : Int)).tmod l * y) % (l : Int)) (by omega) (by unfold inR; omega)
            rw [Nat.zero_add] at s2
            have S2 := Lib.hid (s2.congr (f' := fun j => if j < k + 1 then nwF l m R f (i + 1) j else nwF l m R f i j) (fun j hj => by
              by_cases h1 : j = k
              · subst h1; rw [if_pos rfl, if_pos (Nat.lt_succ_self _), HNK.out]
              · by_cases h2 : j < k
                · rw [if_neg h1, if_pos h2, if_pos (by omega)]
                · rw [if_neg h1, if_neg h2, if_neg (by omega)]))
            have frm := (Frame.refl w.heap.size (w.heap.size + 1) wr).setCell (p := ⟨w.heap.size, k, none⟩) (Nat.le_refl _) (Nat.lt_succ_self _) (.int .i64 ((x0 + (a * (q : Int)).tmod l * y) % (l : Int)))
            have T2 := Lib.hid (HT.out.write frm (Nat.le_refl _) (by intro b hb; cases hb) (by intro s hs'; simp only [List.mem_cons, List.not_mem_nil, or_false] at hs'; rcases hs' with rfl | rfl <;> (left; dsimp only; omega)))
            have P2 := Lib.hid (HP.out.setOther (p := ⟨w.heap.size, k, none⟩) (.inl (by show w.heap.size < lp; omega)) (.int .i64 ((x0 + (a * (q : Int)).tmod l * y) % (l : Int))))
            have hk5 : (k : Int) < (i : Int) + 1 := by omega
            have hk6 : (k : Int) < (m : Int) := by omega
            clear s2 frm HNK
            go_wp2_with fail
            go_region_law (first
              | (go_simp; go_at_call 54; rw [HE2.out]; refine (restBy_any (x0 + (a * (q : Int)).tmod l * y) l (by omega) (by omega) (by omega) (by omega) _).mono ?_; rintro e w9 ⟨rfl, rfl⟩))
            all_goals
              go_wp2
              go_roundw
              case rel => exact ⟨k + 1, by omega, by go_num, P2.out.drew, S2.out.drew, by simpa using hzx, T2.out.drew⟩
              case measure => simp [intOf] <;> omega
          · obtain rfl : k = i + 1 := by omega
            have hzq := HT.out.1.size
            have Q9 := HQ.out.congr (f' := nwF l m R f (i + 1)) (fun j hj => by
              by_cases h1 : j < i + 1
              · rw [if_pos h1]
              · rw [if_neg h1, HN1.out j, if_neg (by omega)])
            go_wp2_with (go_at_call 55; refine (timesRoot_any l r0 (by omega) (by omega) hrm (tmP l R i) (i + 1) np1 NP2.out (by omega) _ HP.out).mono ?_; rintro e w9 ⟨a9, k9, rfl, s9, b9⟩)
            have T9 := Lib.hid (HT.out.keep b9)
            have QQ := Lib.hid (Q9.keep b9 (by omega))
            have S9 := Lib.hid (show Sl true w9 wr.heap.size w9.heap.size (.slice a9 (i + 1 + 1) k9) (i + 1 + 1) (nF (tmP l R (i + 1))) from by
              show Sl true w9 _ _ _ _ (nF (tmL l (R.getD i 0) (tmP l R i)))
              rw [HR0.out]; exact s9)
            clear s9 b9 Q9
            go_roundw
            case rel => exact ⟨i + 1, a9, k9, _, _, by omega, by first | rfl | go_num, by go_num, by omega, Nat.le_refl _, S9.out, QQ.out, T9.out⟩
            case measure => simp [intOf] <;> omega
    · obtain rfl : i = m := by omega
      have BB := HT.out.1
      go_wp2
      go_ret
      exact ⟨_, _, rfl, HQ.out.wide (Nat.le_refl _) HQ.out.size (Nat.le_refl _), BB⟩
end
end Go.Proofs.Ythookppmclimkaa
