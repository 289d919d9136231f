/- DegreeOf of the model. -/
import Derived.Test.YtdalahgfpbdilaaImages2
import Derived.Test.YtdalahgfpbdilaaReal
import Derived.Deep.RegionLaw
namespace Go.Proofs.Ytdalahgfpbdilaa
open Go.RowKit Go.ChangeShapes Go.Sort
set_option linter.unusedVariables false
set_option linter.unusedSimpArgs false

/-- Whether one of the first q images is the one at the place i. -/
def knownB (n L : Nat) (f : Nat → Int) (i : Nat) : Nat → Bool
  | 0 => false
  | q + 1 => knownB n L f i q || eqB (phiN n) (im n L f q) (im n L f i)
/-- How many of the first images are there first. -/
def degTo (n L : Nat) (f : Nat → Int) : Nat → Nat
  | 0 => 0
  | i + 1 => degTo n L f i + if knownB n L f i i then 0 else 1
theorem degTo_le (n L : Nat) (f : Nat → Int) : ∀ i, degTo n L f i ≤ i
  | 0 => Nat.le_refl _
  | i + 1 => by have := degTo_le n L f i; show degTo n L f i + _ ≤ i + 1; split <;> omega
theorem degTo_yes {n L : Nat} {f : Nat → Int} {i : Nat} (h : knownB n L f i i = false) : degTo n L f (i + 1) = degTo n L f i + 1 := by show _ + _ = _; rw [h]; rfl
theorem degTo_no {n L : Nat} {f : Nat → Int} {i : Nat} (h : knownB n L f i i = true) : degTo n L f (i + 1) = degTo n L f i := by show _ + _ = _; rw [h]; rfl

section
variable {o : Bool} {lo hi L : Nat} {v : Value} {f : Nat → Int}
theorem DegreeOf_spec_bad (x : Int) (w : World) (hs : Sl o w lo hi v L f) (h : ¬ CyP x L f) :
    Calls Try.prog 88 #[.agg #[.int .i64 x, v]] w fun e w' => e = .returned (.tuple #[.int .i64 0, .int .i64 1]) ∧ Below w.heap.size w w' := by
  obtain ⟨av, cap, rfl⟩ := hs.shape
  have st0 := ((((St.start w).addSl ⟨o, lo, hi, .slice av L cap, L, f⟩ hs).alloc (.cells #[.int .i64 x, .slice av L cap] 28)).addBox w.heap.size [.int .i64 x, .slice av L cap] (Box.made _ _ _ _ (fun j v h => by simpa using h)))
  have q0 := st0.sl 0 ⟨o, lo, hi, .slice av L cap, L, f⟩ rfl
  dsimp only at q0
  have HC := Lib.hid h
  clear h hs
  go_enter Try.func88, Try.ntmps88
  go_wp2_with fail
  refine (l01Is_no _ _ q0 HC.out).mono ?_
  rintro e w1 ⟨rfl, b1⟩
  clear q0
  have st1 := st0.keep b1
  have hz_w1 := b1.size
  try simp only [World.size_alloc] at hz_w1
  clear st0 b1
  have BB := st1.1
  go_wp2
  refine bodyPost_ret (v := .tuple #[.int .i64 0, .int .i64 1]) (by simp [results, Try.results88, go_sem]) rfl ?_
  exact ⟨rfl, BB⟩

set_option maxRecDepth 100000 in
set_option maxHeartbeats 4000000 in
theorem DegreeOf_spec_ok (n : Nat) (w : World) (hs : Sl o w lo hi v L f) (h : CyP n L f) :
    Calls Try.prog 88 #[.agg #[.int .i64 (n : Int), v]] w fun e w' => e = .returned (.tuple #[.int .i64 (degTo n L f (phiN n) : Int), .int .i64 0]) ∧ Below w.heap.size w w' := by
  obtain ⟨av, cap, rfl⟩ := hs.shape
  have hn1 : 1 ≤ n := by have := h.1; omega
  have hn2 : n ≤ 16 := by have := h.2.1; omega
  have hp := phi_le12 n hn2 hn1
  have hL : L ≤ 12 := by have e : L = phiN n := h.2.2.1; omega
  have hpos : 0 < L := by have e : L = phiN n := h.2.2.1; have := phiN_pos n (by omega) hn1; omega
  have hhs := hs.size
  have st0 := ((((St.start w).addSl ⟨o, lo, hi, .slice av L cap, L, f⟩ hs).alloc (.cells #[.int .i64 (n : Int), .slice av L cap] 28)).addBox w.heap.size [.int .i64 (n : Int), .slice av L cap] (Box.made _ _ _ _ (fun j v h => by simpa using h)))
  have q0 := st0.sl 0 ⟨o, lo, hi, .slice av L cap, L, f⟩ rfl
  dsimp only at q0
  have HC := Lib.hid h
  clear h hs
  go_enter Try.func88, Try.ntmps88
  go_wp2_with fail
  refine (l01Is_yes _ _ q0 HC.out).mono ?_
  rintro e w1 ⟨rfl, b1⟩
  clear q0
  have st1 := st0.keep b1
  have hz_w1 := b1.size
  try simp only [World.size_alloc] at hz_w1
  clear st0 b1
  obtain ⟨c0, c1⟩ := (st1.box 0 (w.heap.size, [.int .i64 (n : Int), .slice av L cap]) rfl).cell2
  have q0 := st1.sl 0 ⟨o, lo, hi, .slice av L cap, L, f⟩ rfl
  dsimp only at q0
  go_wp2_with fail
  refine (l02Images_any n hn1 hn2 _ q0 (by omega)).mono ?_
  rintro e w2 ⟨g, cap2, g2, cap3, vs, rfl, r2, s2, n2, hne, b2⟩
  have hz2 := b2.size
  have ST2 := Lib.hid (st1.keep b2)
  have R2 := Lib.hid r2
  have S2 := Lib.hid s2
  clear st1 b2 r2 s2 n2 q0 c0 c1
  go_wp2
  go_loopw [6, 7] (fun s6 s7 wr => ∃ i : Nat, i ≤ phiN n ∧ s6 = .int .i64 (degTo n L f i : Int) ∧ s7 = .int .i64 i ∧ RowE wr w1.heap.size 28 2 g cap2 (phiN n) (fun k => [.int .i64 (n : Int), vs k]) ∧ Sls wr w1.heap.size g g2 (phiN n) (phiN n) vs (im n L f) ∧ St w wr [(w.heap.size, [.int .i64 (n : Int), .slice av L cap])] [⟨o, lo, hi, .slice av L cap, L, f⟩]) (fun _ s7 _ => phiN n - (intOf s7).toNat)
  case atStart => exact ⟨0, Nat.zero_le _, rfl, rfl, R2.out, S2.out, ST2.out⟩
  case round =>
    clear R2 S2 ST2
    obtain ⟨i, hi9, rfl, rfl, hr, hsl, hst⟩ := hrel
    have HT := Lib.hid hst; clear hst
    have R1 := Lib.hid hr; clear hr
    have SS := Lib.hid hsl; clear hsl
    have hdl := degTo_le n L f i
    by_cases hlt : i < phiN n
    · have hi2 : (i : Int) < (phiN n : Int) := by omega
      go_wp2
      go_loopw [8, 9] (fun s8 s9 wx => ∃ q : Nat, q ≤ i ∧ s8 = .bool (knownB n L f i q) ∧ s9 = .int .i64 q ∧ RowE wx w1.heap.size 28 2 g cap2 (phiN n) (fun k => [.int .i64 (n : Int), vs k]) ∧ Sls wx w1.heap.size g g2 (phiN n) (phiN n) vs (im n L f) ∧ St w wx [(w.heap.size, [.int .i64 (n : Int), .slice av L cap])] [⟨o, lo, hi, .slice av L cap, L, f⟩]) (fun _ s9 _ => i - (intOf s9).toNat)
      case atStart => exact ⟨0, Nat.zero_le _, rfl, rfl, R1.out, SS.out, HT.out⟩
      case round =>
        clear R1 SS HT
        obtain ⟨q, hq, rfl, rfl, hr, hsl, hst⟩ := hrel
        have HT := Lib.hid hst; clear hst
        have R1 := Lib.hid hr; clear hr
        have SS := Lib.hid hsl; clear hsl
        by_cases hlq : q < i
        · have hq2 : (q : Int) < (i : Int) := by omega
          have hq3 : (q : Int) < (phiN n : Int) := by omega
          have HKN := Lib.hid (show knownB n L f i (q + 1) = (knownB n L f i q || eqB (phiN n) (im n L f q) (im n L f i)) from rfl)
          cases hk : knownB n L f i q with
          | true =>
            have HK := Lib.hid hk
            clear hk
            go_wp2
            go_quiet (fail)
            go_wp2
            go_roundw
            case rel => exact ⟨q + 1, by omega, by rw [HKN.out, HK.out]; rfl, by go_num, R1.out.drewN _, (SS.out.keep (below_drewN (Below.refl _ _) _) (Nat.le_refl _)), HT.out.drewN _⟩
            case measure => simp [intOf] <;> omega
          | false =>
            have HK := Lib.hid hk
            clear hk
            have a0 := R1.out.cell (fun _ => rfl) (i := q) (j := 0) (by omega) (by omega)
            have a1 := R1.out.cell (fun _ => rfl) (i := q) (j := 1) (by omega) (by omega)
            have e0 := R1.out.cell (fun _ => rfl) (i := i) (j := 0) hlt (by omega)
            have e1 := R1.out.cell (fun _ => rfl) (i := i) (j := 1) hlt (by omega)
            simp only [Nat.add_zero, List.getElem?_cons_zero, List.getElem?_cons_succ] at a0 a1 e0 e1
            obtain ⟨l1, h1, _, _, _, hv1⟩ := SS.out q (by omega)
            obtain ⟨l2, h2, _, _, _, hv2⟩ := SS.out i hlt
            have HSM := Lib.hid (l01Same_any (n : Int) wr.drew hv1.drew hv2.drew)
            clear hv1 hv2
            go_wp2_with fail
            go_region_law (first
              | (go_simp; go_at_call 184; refine HSM.out.mono ?_; rintro e w8 ⟨rfl, b8⟩))
            all_goals
              have hz8 := b8.size
              have R8 := Lib.hid ((R1.out.drewN 1).keep b8 (Nat.le_refl _))
              have S8 := Lib.hid (SS.out.keep ((Below.refl wr.heap.size wr).drew.trans b8) (Nat.le_refl _))
              have T8 := Lib.hid (HT.out.drew.keep b8)
              clear b8 R1 SS HT a0 a1 e0 e1
              go_wp2
              go_roundw
              case rel => exact ⟨q + 1, by omega, by rw [HKN.out, HK.out]; rfl, by go_num, R8.out, S8.out, T8.out⟩
              case measure => simp [intOf] <;> omega
        · obtain rfl : q = i := by omega
          cases hk : knownB n L f q q with
          | true =>
            have HD := Lib.hid (degTo_no hk)
            clear hk
            go_wp2
            go_roundw
            case rel => exact ⟨q + 1, by omega, by rw [HD.out], by go_num, R1.out, SS.out, HT.out⟩
            case measure => simp [intOf] <;> omega
          | false =>
            have HD := Lib.hid (degTo_yes hk)
            clear hk
            go_wp2
            go_roundw
            case rel => exact ⟨q + 1, by omega, by rw [HD.out]; go_num, by go_num, R1.out, SS.out, HT.out⟩
            case measure => simp [intOf] <;> omega
    · obtain rfl : i = phiN n := by omega
      have BB := HT.out.1
      go_wp2
      go_ret2
      exact ⟨rfl, BB⟩

end
end Go.Proofs.Ytdalahgfpbdilaa
