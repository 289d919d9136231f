/- Power numbers, of the model. -/
import Derived.Test.YtacffobbbcfbcaaDoorEqN
import Derived.Test.YtacffobbbcfbcaaDoorEqP
import Derived.Test.YtacffobbbcfbcaaDoorEqU
import Derived.Test.YtacffobbbcfbcaaDoorOwn
namespace Go.Proofs.YtacffobbbcfbcaaDoor
open Go.RowKit Go.ChangeShapes Go.Sort
set_option linter.unusedVariables false
set_option linter.unusedSimpArgs false
set_option maxRecDepth 100000

theorem cnT_pos {v : Nat → Nat} {m b : Nat} : 0 < cnT v 0 m b ↔ ∃ t, t < m ∧ v t = b := by
  have hn : ∀ i, i < m → 0 ≤ (if 0 ≤ i ∧ v i = b then (1 : Int) else 0) := fun i _ => by split <;> omega
  constructor
  · intro h
    apply Classical.byContradiction
    intro g
    have : cnT v 0 m b = 0 := by
      unfold cnT
      refine (smN_congr (fun x hx => ?_)).trans (smN_zero m)
      exact if_neg (fun q => g ⟨x, hx, q.2⟩)
    omega
  · rintro ⟨t, ht, e⟩
    have := smN_ge (F := fun x => if 0 ≤ x ∧ v x = b then (1 : Int) else 0) ht hn
    rw [if_pos ⟨Nat.zero_le _, e⟩] at this
    unfold cnT; omega
/-- Pairs that have come, with the sum b. -/
def ExB (p k : Nat) (f : Nat → Int) (x y b : Nat) : Prop := ∃ x' y', (x' < x ∧ y' < p ∨ x' = x ∧ y' < y) ∧ 0 < f x' ∧ 0 < cnT (vN p 1 k) 0 p y' ∧ (x' + y') % p = b
/-- What is counted at s. -/
def NwP (p k s : Nat) (f : Nat → Int) : Prop := ∀ b, b < p → 0 ≤ f b ∧ f b ≤ 61 ∧ (0 < f b ↔ clN p k s b = 1)
theorem nw_one {p k : Nat} (h : 1 ≤ p) (h2 : p ≤ 61) : NwP p k 1 (cnT (vN p 1 k) 0 p) := fun b hb => by
  have e : clN p k 1 b = min (cnT (vN p 1 k) 0 p b) 1 := by
    show min (wfT p (vN p 1 k) e0Z 0 p b) 1 = _
    rw [count_eq (fun x _ => vN_lt h _ _ _) 0 (Nat.le_refl _) hb]
  have hb2 := cnT_bd (vN p 1 k) 0 p b
  rw [e]
  refine ⟨hb2.1, by omega, ?_⟩
  constructor <;> intro g <;> omega
theorem ex_end {p k s b : Nat} {f : Nat → Int} (h : 1 ≤ p) (hf : NwP p k s f) (hb : b < p) : ExB p k f p 0 b ↔ clN p k (s + 1) b = 1 := by
  constructor
  · rintro ⟨x', y', hxy, hx, hy, e⟩
    have hx' : x' < p := by omega
    obtain ⟨t, ht, et⟩ := cnT_pos.1 hy
    have hvt := vN_lt h 1 k t
    refine clN_pos (x := t) h hb ht ?_
    have hr := (rot_iff hvt hx' hb).1 (by rw [et]; exact e)
    rw [← hr, (hf x' hx').2.2.1 hx]
    decide
  · intro g
    apply Classical.byContradiction
    intro hne
    have : clN p k (s + 1) b = 0 := clN_zero h hb (fun t ht => by
      have hvt := vN_lt h 1 k t
      have hq := Nat.mod_lt (b + (p - vN p 1 k t)) (show 0 < p by omega)
      have hbb := clN_bd (k := k) h s _ hq
      apply Classical.byContradiction
      intro hz
      have h1 : clN p k s ((b + (p - vN p 1 k t)) % p) = 1 := by omega
      exact hne ⟨_, vN p 1 k t, .inl ⟨hq, hvt⟩, (hf _ hq).2.2.2 h1, cnT_pos.2 ⟨t, ht, rfl⟩, (rot_iff hvt hq hb).2 rfl⟩)
    omega
/-- What is laid for the next number. -/
def NxP (p k : Nat) (f : Nat → Int) (x y : Nat) (g : Nat → Int) : Prop := ∀ b, b < p → (g b = 1 ∧ ExB p k f x y b) ∨ (g b = 0 ∧ ¬ ExB p k f x y b)
theorem nx_start {p k : Nat} {f : Nat → Int} : NxP p k f 0 0 (fun _ => 0) := fun b hb => .inr ⟨rfl, fun ⟨x', y', h, _⟩ => by omega⟩
theorem nx_row {p k x : Nat} {f g : Nat → Int} (h : NxP p k f x p g) : NxP p k f (x + 1) 0 g := fun b hb => by
  have e : ExB p k f (x + 1) 0 b ↔ ExB p k f x p b := by
    constructor
    · rintro ⟨x', y', h1, h2⟩; exact ⟨x', y', by omega, h2⟩
    · rintro ⟨x', y', h1, h2⟩; exact ⟨x', y', by omega, h2⟩
  rw [e]; exact h b hb
theorem nx_yes {p k x y q : Nat} {f g : Nat → Int} (h : NxP p k f x y g) (hx : 0 < f x) (hy : 0 < cnT (vN p 1 k) 0 p y) (hq : (x + y) % p = q) : NxP p k f x (y + 1) (fun j => if j = q then 1 else g j) := fun b hb => by
  dsimp only
  by_cases e : b = q
  · rw [if_pos e]
    exact .inl ⟨rfl, x, y, .inr ⟨rfl, by omega⟩, hx, hy, by rw [hq, e]⟩
  · rw [if_neg e]
    have e2 : ExB p k f x (y + 1) b ↔ ExB p k f x y b := by
      constructor
      · rintro ⟨x', y', h1, h2, h3, h4⟩
        refine ⟨x', y', ?_, h2, h3, h4⟩
        rcases h1 with h1 | ⟨rfl, h1⟩
        · exact .inl h1
        · rcases Nat.lt_or_ge y' y with g1 | g1
          · exact .inr ⟨rfl, g1⟩
          · obtain rfl : y' = y := by omega
            exact absurd (h4.symm.trans hq) e
      · rintro ⟨x', y', h1, h2⟩; exact ⟨x', y', by omega, h2⟩
    rw [e2]; exact h b hb
theorem nx_no {p k x y : Nat} {f g : Nat → Int} (h : NxP p k f x y g) (hn : ¬ (0 < f x ∧ 0 < cnT (vN p 1 k) 0 p y)) : NxP p k f x (y + 1) g := fun b hb => by
  have e2 : ExB p k f x (y + 1) b ↔ ExB p k f x y b := by
    constructor
    · rintro ⟨x', y', h1, h2, h3, h4⟩
      refine ⟨x', y', ?_, h2, h3, h4⟩
      rcases h1 with h1 | ⟨rfl, h1⟩
      · exact .inl h1
      · rcases Nat.lt_or_ge y' y with g1 | g1
        · exact .inr ⟨rfl, g1⟩
        · obtain rfl : y' = y := by omega
          exact absurd ⟨h2, h3⟩ hn
    · rintro ⟨x', y', h1, h2⟩; exact ⟨x', y', by omega, h2⟩
  rw [e2]; exact h b hb
theorem nx_end {p k s : Nat} {f g : Nat → Int} (h1 : 1 ≤ p) (hf : NwP p k s f) (h : NxP p k f p 0 g) : NwP p k (s + 1) g := fun b hb => by
  have e := ex_end h1 hf hb
  rcases h b hb with ⟨e1, e2⟩ | ⟨e1, e2⟩
  · exact ⟨by omega, by omega, fun _ => e.1 e2, fun _ => by omega⟩
  · exact ⟨by omega, by omega, fun q => by omega, fun q => absurd (e.2 q) e2⟩
/-- All of the first b numbers are counted. -/
def alB (f : Nat → Int) (b : Nat) : Bool := (List.range b).all (fun j => decide (0 < f j))
theorem alB_succ (f : Nat → Int) (b : Nat) : alB f (b + 1) = (alB f b && decide (0 < f b)) := by
  unfold alB; rw [List.range_succ, List.all_append]; simp
theorem alB_full {p k s : Nat} {f : Nat → Int} (hf : NwP p k s f) : alB f p = true ↔ Full p k s := by
  unfold alB
  rw [List.all_eq_true]
  constructor
  · intro h b hb
    exact (hf b hb).2.2.1 (by simpa using h b (List.mem_range.2 hb))
  · intro h b hb
    have := List.mem_range.1 hb
    simpa using (hf b this).2.2.2 (h b this)
set_option maxHeartbeats 8000000 in
theorem PowerNumber_spec_ok (p k S : Nat) (hp : primeN p = true) (h1 : 1 ≤ k) (h2 : k ≤ 60) (hP : PnP p k S) (w : World) :
    Calls Tryd.prog 46 #[.int .i64 (p : Int), .int .i64 (k : Int)] w fun e w' => e = .returned (.tuple #[.int .i64 (S : Int), .int .i64 0]) ∧ Below w.heap.size w w' := by
  have hbd := primeN_bd hp
  have HP := Lib.hid hp
  have hp0 : ¬ p = 0 := by omega
  obtain ⟨hS1, hS2, hfull, hleast⟩ := hP
  have HFU := Lib.hid hfull
  have HLE := Lib.hid hleast
  have S1 := Lib.hid (one_madeS w (k : Int) (by unfold inR; omega) _ rfl)
  have HX := Lib.hid (ex_one (k := (k : Int)) (by omega) (by omega))
  have hal := alloc_bl w (.cells #[.int .i64 (k : Int)] 2)
  have hmk := run_make_row' (P := Tryd.prog) 24 2 (.int .i64 0) 8 Tryd.underlying24 Tryd.info2 rfl .i64 .i64 p (by omega) (by omega)
  clear hp hfull hleast
  go_enter Tryd.func46, Tryd.ntmps46
  go_wp2_with (first
    | (go_at_call 73; refine (l08Code_yes p HP.out _ S1.out HX.out).mono ?_; rintro e w1 ⟨rfl, b1⟩; have BL1 := hal.trans (b1.mono (show w.heap.size ≤ _ by simp)))
    | (go_at_call 75; refine (l08Values_1 p k (by omega) hbd.2 h2 _).mono ?_; rintro e w2 ⟨rfl, q2, b2, hz2⟩; have HZ2 := Lib.hid hz2; clear hz2)
    | (go_at_call 93; refine (l01Own_any _ q2 (by omega)).mono ?_; rintro e w3 ⟨a3, c3, rfl, q3, b3⟩))
  have hs1 := BL1.size
  have hs2 := b2.size
  have hs3 := b3.size
  have hz2 := HZ2.out
  have BL3 := (BL1.trans (b2.mono hs1)).trans (b3.mono (by omega))
  obtain ⟨A, hA⟩ : ∃ A, w1.heap.size = A := ⟨_, rfl⟩
  have qc := q2.keep b3 (by omega)
  rw [hA] at qc
  try simp only [hA]
  have QC := Lib.hid qc
  obtain ⟨g3, off3, cap3, e3, hg3, hg3', _⟩ := q3.at (by omega)
  obtain ⟨rfl, rfl⟩ : a3 = some ⟨g3, off3, none⟩ ∧ c3 = cap3 := by cases e3; exact ⟨rfl, rfl⟩
  have Q3 := Lib.hid (show ∃ lo hi, A + 1 ≤ lo ∧ w.heap.size ≤ lo ∧ Sl true w3 lo hi (.slice (some ⟨g3, off3, none⟩) p c3) p (cnT (vN p 1 k) 0 p) from ⟨_, _, by omega, by omega, q3⟩)
  have hwA : w.heap.size ≤ A := by omega
  have B3 := Lib.hid BL3
  have hA3 : A + 1 ≤ w3.heap.size := by omega
  clear q2 q3 qc b2 b3 BL1 BL3 e3 hA HZ2 hz2 hs1 hs2 hs3 hg3 hg3' b1 hal
  go_loopw [8, 9] (fun s8 s9 wr => ∃ (s g off cap : Nat) (f : Nat → Int), 1 ≤ s ∧ s ≤ S ∧ s8 = .slice (some ⟨g, off, none⟩) p cap ∧ s9 = .int .i64 (s : Int) ∧ (∃ lo hi, A + 1 ≤ lo ∧ w.heap.size ≤ lo ∧ Sl true wr lo hi (.slice (some ⟨g, off, none⟩) p cap) p f) ∧ NwP p k s f ∧ Sl true wr A (A + 1) (.slice (some ⟨A, 0, none⟩) p p) p (cnT (vN p 1 k) 0 p) ∧ Below w.heap.size w wr) (fun _ s9 _ => S + 1 - (intOf s9).toNat)
  case atStart => exact ⟨1, _, _, _, _, Nat.le_refl _, hS1, rfl, rfl, Q3.out, nw_one (by omega) hbd.2, QC.out, B3.out⟩
  case round =>
    clear Q3 QC B3
    obtain ⟨s, g, off, cap, f, hs1, hsS, rfl, rfl, ⟨lo, hi, hlo, hwlo, hq⟩, hnw, hqc, hbl⟩ := hrel
    have HQ := Lib.hid hq
    have HC := Lib.hid hqc
    have HB := Lib.hid hbl
    have HNW := Lib.hid hnw
    have hqs := hq.size
    have hcs := hqc.size
    obtain ⟨g', off', cap', e', _, _, _, _, hcell, _⟩ := hq.at (by omega)
    obtain ⟨rfl, rfl, rfl⟩ : g = g' ∧ off = off' ∧ cap = cap' := by cases e'; exact ⟨rfl, rfl, rfl⟩
    have HCE := Lib.hid hcell
    clear hq hqc hbl hnw hcell e'
    go_wp2
    go_loopw [10, 11] (fun s10 s11 wa => ∃ b : Nat, b ≤ p ∧ s10 = .bool (alB f b) ∧ s11 = .int .i64 (b : Int) ∧ wa = wr) (fun _ s11 _ => p - (intOf s11).toNat)
    case atStart => exact ⟨0, by omega, rfl, rfl, rfl⟩
    case round =>
      obtain ⟨b, hb, rfl, rfl, rfl⟩ := hrel
      by_cases hbp : b < p
      · have hcb := HCE.out b hbp
        have hnb := HNW.out b hbp
        have HS := Lib.hid (alB_succ f b)
        have hb0 := hnb.1
        have hb6 := hnb.2.1
        clear hnb
        cases hab : alB f b with
        | false =>
          rw [hab] at HS
          go_wp2
          go_roundw
          case rel => exact ⟨b + 1, by omega, by rw [HS.out]; rfl, by go_num, by first | rfl | trivial⟩
          case measure => simp [intOf]; omega
        | true =>
          rw [hab] at HS
          go_wp2
          all_goals go_roundw
          case rel => exact ⟨b + 1, by omega, by rw [HS.out]; first | rfl | simp, by go_num, by first | rfl | trivial⟩
          case measure => simp [intOf]; omega
      · obtain rfl : b = p := by omega
        by_cases hsl : s < S
        · have hall : alB f b = false := by
            cases e : alB f b
            · rfl
            · exact absurd ((alB_full HNW.out).1 e) (HLE.out s hsl)
          rw [hall]
          have N0 := Lib.hid (made0 wr b hbd.2 _ rfl)
          have al := alloc_bl wr (.cells (madeCells #[.int .i64 0] b) 2)
          have HQ2 := Lib.hid (HQ.out.keep al hqs)
          have HC2 := Lib.hid (HC.out.keep al hcs)
          have hBs := HB.out.size
          have HB2 := Lib.hid (HB.out.trans (al.mono hBs))
          go_wp2
          obtain ⟨V, hV⟩ : ∃ V, wr.alloc (.cells (madeCells #[.int .i64 0] b) 2) = V := ⟨_, rfl⟩
          rw [hV] at N0 HQ2 HC2 HB2
          try rw [hV]
          obtain ⟨N, hN⟩ : ∃ N, wr.heap.size = N := ⟨_, rfl⟩
          rw [hN] at N0 hqs hcs hBs
          try simp only [hN]
          clear hV al HQ HC HB HCE hall hN hmk
          go_loopw [13] (fun s13 wx => ∃ (x : Nat) (g2 : Nat → Int), x ≤ b ∧ s13 = .int .i64 (x : Int) ∧ Sl true wx N (N + 1) (.slice (some ⟨N, 0, none⟩) b b) b g2 ∧ NxP b k f x 0 g2 ∧ Frame N (N + 1) V wx) (fun s13 _ => b - (intOf s13).toNat)
          case atStart => exact ⟨0, fun _ => 0, by omega, rfl, N0.out, nx_start, Frame.refl _ _ _⟩
          case round =>
            clear N0
            obtain ⟨x, g2, hx, rfl, hn, hnx, hfr⟩ := hrel
            have HN := Lib.hid hn
            have HNX := Lib.hid hnx
            have HF := Lib.hid hfr
            clear hn hnx hfr
            by_cases hxp : x < b
            · go_wp2
              go_loopw [14] (fun s14 wy => ∃ (y : Nat) (g3 : Nat → Int), y ≤ b ∧ s14 = .int .i64 (y : Int) ∧ Sl true wy N (N + 1) (.slice (some ⟨N, 0, none⟩) b b) b g3 ∧ NxP b k f x y g3 ∧ Frame N (N + 1) V wy) (fun s14 _ => b - (intOf s14).toNat)
              case atStart => exact ⟨0, g2, by omega, rfl, HN.out, HNX.out, HF.out⟩
              case round =>
                clear HN HNX HF
                obtain ⟨y, g3, hy, rfl, hn, hnx, hfr⟩ := hrel
                have HNX := Lib.hid hnx
                have HF := Lib.hid hfr
                have HN := Lib.hid hn
                by_cases hyp : y < b
                · have hcx := ((HQ2.out.keepF hfr (by omega)).known (by omega)).2.2.2.1 x hxp
                  have hcy := ((HC2.out.keepF hfr (by omega)).known (by omega)).2.2.2.1 y hyp
                  rw [Nat.zero_add] at hcy
                  have bx := HNW.out x hxp
                  have bx0 := bx.1
                  have bx1 := bx.2.1
                  have by1 := cnT_bd (vN b 1 k) 0 b y
                  obtain ⟨q, hq⟩ : ∃ q, (x + y) % b = q := ⟨_, rfl⟩
                  have hqp : q < b := by rw [← hq]; exact Nat.mod_lt _ (by omega)
                  have hnq := (hn.known (by omega)).2.2.2.1 q hqp
                  rw [Nat.zero_add] at hnq
                  have hfq := (hn.known (by omega)).2.2.2.2 rfl q
                  have hem : ((x : Int) + (y : Int)) % (b : Int) = (q : Int) := by
                    rw [← hq, Int.natCast_emod, Int.natCast_add]
                  have htm : ((x : Int) + (y : Int)).tmod (b : Int) = (q : Int) := by
                    rw [Int.tmod_eq_emod_of_nonneg (by omega)]; exact hem
                  have HQQ := Lib.hid hq
                  have hqI : (q : Int) < (b : Int) := by omega
                  clear hn hnx hfr bx hq
                  by_cases gx : 0 < f x
                  · by_cases gy : 0 < cnT (vN b 1 k) 0 b y
                    · go_wp2
                      go_roundw
                      case rel => exact ⟨y + 1, _, by omega, by go_num, (HN.out.store0 hqp (x := 1) (by unfold inR; omega)), nx_yes HNX.out gx gy HQQ.out, HF.out.setCell (p := ⟨N, q, none⟩) (Nat.le_refl _) (Nat.lt_succ_self _) _⟩
                      case measure => simp [intOf]; omega
                    · go_wp2
                      go_roundw
                      case rel => exact ⟨y + 1, _, by omega, by go_num, HN.out, nx_no HNX.out (fun h => gy h.2), HF.out⟩
                      case measure => simp [intOf]; omega
                  · go_wp2
                    go_roundw
                    case rel => exact ⟨y + 1, _, by omega, by go_num, HN.out, nx_no HNX.out (fun h => gx h.1), HF.out⟩
                    case measure => simp [intOf]; omega
                · obtain rfl : y = b := by omega
                  clear hn hnx hfr
                  go_wp2
                  go_roundw
                  case rel => exact ⟨x + 1, _, by omega, by go_num, HN.out, nx_row HNX.out, HF.out⟩
                  case measure => simp [intOf]; omega
            · obtain rfl : x = b := by omega
              go_wp2
              go_roundw
              case rel => exact ⟨s + 1, N, 0, x, g2, by omega, by omega, by first | rfl | simp, by go_num, ⟨N, N + 1, by omega, by omega, HN.out⟩, nx_end (by omega) HNW.out HNX.out, HC2.out.keepF HF.out (by omega), HB2.out.trans (HF.out.below (B := w.heap.size) (by omega) HB2.out.size)⟩
              case measure => simp [intOf]; omega
        · obtain rfl : s = S := by omega
          have hall : alB f b = true := (alB_full HNW.out).2 HFU.out
          rw [hall]
          go_wp2
          go_ret2
          exact ⟨rfl, HB.out⟩
theorem PowerNumber_spec_no (p k : Int) (hk : inR k) (h : ¬ PkP p k) (w : World) :
    Calls Tryd.prog 46 #[.int .i64 p, .int .i64 k] w fun e w' => e = .returned (.tuple #[.int .i64 0, .int .i64 2]) ∧ Below w.heap.size w w' := by
  have S1 := Lib.hid (one_madeS w k hk _ rfl)
  have hal := alloc_bl w (.cells #[.int .i64 k] 2)
  have H := Lib.hid (show ¬ (PrP p ∧ ExP (fun _ => k) 1) from fun g => h ⟨g.1, (g.2 0 (by omega)).1, (g.2 0 (by omega)).2⟩)
  clear h
  go_enter Tryd.func46, Tryd.ntmps46
  go_wp2_with (go_at_call 73; refine (l08Code_no p _ S1.out H.out).mono ?_; rintro e w1 ⟨rfl, b1⟩)
  go_ret2
  exact ⟨rfl, hal.trans (b1.mono (by simp))⟩
end Go.Proofs.YtacffobbbcfbcaaDoor
