/- ActOnCyclo answers as its model, for every argument. No condition. -/
import Derived.Test.YtnhpodlcgkgpbaaProdI
import Derived.Test.YtnhpodlcgkgpbaaImages
import Derived.Test.YtnhpodlcgkgpbaaRgN
import Derived.Test.YtnhpodlcgkgpbaaRgD
import Derived.Test.YtnhpodlcgkgpbaaIs
import Derived.Test.YtnhpodlcgkgpbaaCycloOf
import Derived.Test.YtnhpodlcgkgpbaaRgM
import Derived.Deep.RegionLaw
import Derived.Test.YtnhpodlcgkgpbaaRgX
import Derived.Deep.RegionHeld3
import Derived.Deep.DeepCutAuto
import Derived.Test.YtnhpodlcgkgpbaaPow
import Derived.Test.YtnhpodlcgkgpbaaMulSpec
import Derived.Test.YtnhpodlcgkgpbaaTimes
import Derived.Test.YtnhpodlcgkgpbaaImages2
import Derived.Test.YtnhpodlcgkgpbaaCopy
import Derived.Test.YtnhpodlcgkgpbaaGcd
import Derived.JoinedOf
import Derived.ShutString
import Derived.ChangeOld
import Derived.Lib.SmallJoins
namespace Go.Proofs.Ytnhpodlcgkgpbaa
set_option linter.unusedVariables false
set_option linter.unusedSimpArgs false
section
open Go.RowKit Go.ChangeShapes Go.Sort
set_option linter.unusedVariables false
set_option linter.unusedSimpArgs false

/-- G s .. G (s + k - 1) multiplied. -/
def prG (n : Nat) (G : Nat → Nat → Int) (s : Nat) : Nat → Nat → Int
  | 0 => one0
  | k + 1 => prodZ n (phiN n) (prG n G s k) (G (s + k))
/-- All products on the way keep the limit. -/
def prGok (n : Nat) (G : Nat → Nat → Int) (s k : Nat) : Prop := ∀ i, i < k → Within (prG n G s (i + 1)) (phiN n) 1000000000
theorem prGok_zero (n : Nat) (G : Nat → Nat → Int) (s : Nat) : prGok n G s 0 := fun i hi => absurd hi (Nat.not_lt_zero _)
theorem prGok_succ {n : Nat} {G : Nat → Nat → Int} {s k : Nat} (h : prGok n G s k) (hw : Within (prG n G s (k + 1)) (phiN n) 1000000000) : prGok n G s (k + 1) := fun i hi => by
  rcases Nat.lt_succ_iff_lt_or_eq.1 hi with h1 | rfl
  · exact h i h1
  · exact hw
theorem prG_within {n : Nat} {G : Nat → Nat → Int} {s : Nat} : ∀ {k : Nat}, prGok n G s k → Within (prG n G s k) (phiN n) 1000000000
  | 0, _ => one0_within _
  | k + 1, h => h k (Nat.lt_succ_self _)
theorem prG_step {n : Nat} {G : Nat → Nat → Int} (s k : Nat) : prodZ n (phiN n) (prG n G s k) (G (s + k)) = prG n G s (k + 1) := rfl

/-- How many images stand ahead of those of the place k; the place of the image t. -/
def cntA (f : Nat → Int) : Nat → Nat
  | 0 => 0
  | k + 1 => cntA f k + (f k).toNat
def sqA (f : Nat → Int) : Nat → Nat → Nat
  | 0, _ => 0
  | k + 1, t => if t < cntA f k then sqA f k t else k
theorem cntA_mono (f : Nat → Int) {k L : Nat} (h : k ≤ L) : cntA f k ≤ cntA f L := by
  induction L with
  | zero => obtain rfl : k = 0 := by omega
            exact Nat.le_refl _
  | succ L ih =>
    by_cases e : k = L + 1
    · subst e; exact Nat.le_refl _
    · exact Nat.le_trans (ih (by omega)) (Nat.le_add_right _ _)
theorem sqA_at {f : Nat → Int} {k r : Nat} (hr : r < (f k).toNat) : ∀ {L : Nat}, k < L → sqA f L (cntA f k + r) = k
  | 0, h => absurd h (Nat.not_lt_zero _)
  | L + 1, h => by
    unfold sqA
    by_cases e : k = L
    · subst e; rw [if_neg (by omega)]
    · have h1 : cntA f (k + 1) ≤ cntA f L := cntA_mono f (by omega)
      have h2 : cntA f (k + 1) = cntA f k + (f k).toNat := rfl
      rw [if_pos (by omega), sqA_at hr (by omega)]
theorem cntA_sum {f : Nat → Int} : ∀ {L : Nat}, (∀ j, j < L → 0 ≤ f j) → ((cntA f L : Nat) : Int) = sumN L f
  | 0, _ => rfl
  | L + 1, h => by
    have := cntA_sum (f := f) (L := L) (fun j hj => h j (by omega))
    have h2 := h L (by omega)
    simp only [cntA, sumN]
    omega

section
variable {G : Nat → Nat → Int}
set_option maxRecDepth 100000 in
set_option maxHeartbeats 4000000 in
theorem productOfImages_gen (n : Nat) (h1 : 1 ≤ n) (h2 : n ≤ 16) (w : World) {base g cap t s m cap2 off : Nat} (hR : RowE w base 136 12 g cap t (fun k => arrL (G k))) (hoff : 0 < m → off = s * 12) (hst : s + m ≤ t) (ht : t ≤ 1000) (hG : ∀ k, Within (G k) 12 12000000000) (hz : ∀ k j, phiN n ≤ j → G k j = 0) :
    Calls Try.prog 128 #[.int .i64 (n : Int), .slice (some ⟨g, off, none⟩) m cap2] w fun e w' => ((prGok n G s m ∧ ∃ a' cap', e = .returned (.tuple #[.agg #[.int .i64 (n : Int), .slice a' (phiN n) cap'], .int .i64 0]) ∧ Sl true w' w.heap.size w'.heap.size (.slice a' (phiN n) cap') (phiN n) (prG n G s m)) ∨ (¬ prGok n G s m ∧ e = .returned (failV 3))) ∧ Below w.heap.size w w' := by
  have hp := phi_le12 n h2 h1
  have hp0 := phiN_pos n (by omega) h1
  have HIM := Lib.hid hG
  have HZ := Lib.hid hz
  have hg := hR.lt.2
  have HR := Lib.hid hR
  have HOFF := Lib.hid hoff
  clear hR hG hz hoff
  have st0 := (St.start w).boxNew (.int .i64 0) (.slice none 0 0) 24
  go_enter Try.func128, Try.ntmps128
  go_wp2_with fail
  refine (oneOf_any n h1 h2 _).mono ?_
  rintro e w2 ⟨a2, k2, rfl, s2, b2⟩
  have hz2 := b2.size
  simp only [World.size_alloc] at hz2 s2
  have HS2 := Lib.hid (s2.alloc (.cells #[.int .i64 (n : Int), .slice a2 (phiN n) k2] 24))
  have ST2 := Lib.hid ((st0.keep b2).boxNew (.int .i64 (n : Int)) (.slice a2 (phiN n) k2) 24)
  have HR2 := Lib.hid (((HR.out.alloc (.cells #[.int .i64 0, .slice none 0 0] 24)).keep b2 (Nat.le_refl _)).alloc (.cells #[.int .i64 (n : Int), .slice a2 (phiN n) k2] 24))
  clear st0 b2 s2 HR
  go_wp2
  go_loopw [7, 8] (fun s7 s8 wr => ∃ i : Nat, i ≤ m ∧ s8 = .int .i64 i ∧ RowE wr base 136 12 g cap t (fun k => arrL (G k)) ∧
      ((prGok n G s i ∧ s7 = .int .i64 0 ∧ ∃ (lo6 hi6 : Nat) (a6 : Option Addr) (k6 : Nat), w.heap.size + 1 ≤ lo6 ∧ (w2.heap.size < lo6 ∨ hi6 ≤ w2.heap.size) ∧ Sl true wr lo6 hi6 (.slice a6 (phiN n) k6) (phiN n) (prG n G s i) ∧ St w wr [(w2.heap.size, [.int .i64 (n : Int), .slice a6 (phiN n) k6]), (w.heap.size, [.int .i64 0, .slice none 0 0])] []) ∨
       (¬ prGok n G s m ∧ s7 = .int .i64 3 ∧ St w wr [(w2.heap.size, [.int .i64 0, .slice none 0 0]), (w.heap.size, [.int .i64 0, .slice none 0 0])] []))) (fun s7 s8 _ => m - (intOf s8).toNat)
  case atStart => exact ⟨0, Nat.zero_le _, rfl, HR2.out, .inl ⟨prGok_zero _ _ _, rfl, _, _, a2, k2, by omega, .inr (Nat.le_refl _), HS2.out, ST2.out⟩⟩
  case round =>
    clear HS2 ST2 HR2
    obtain ⟨i, him, rfl, hrow, hr⟩ := hrel
    have R1 := Lib.hid hrow; clear hrow
    rcases hr with ⟨hok, rfl, lo6, hi6, a6, k6, hl6, hd6, hown, hst6⟩ | ⟨hbad, rfl, hst6⟩
    · have HO := Lib.hid hown; clear hown
      have HT := Lib.hid hst6; clear hst6
      have HOK := Lib.hid hok; clear hok
      obtain ⟨p0, p1⟩ := (HT.out.box 0 (w2.heap.size, [.int .i64 (n : Int), .slice a6 (phiN n) k6]) rfl).cell2
      have pz := (HT.out.box 0 (w2.heap.size, [.int .i64 (n : Int), .slice a6 (phiN n) k6]) rfl).2.2
      have pl := (HT.out.box 0 (w2.heap.size, [.int .i64 (n : Int), .slice a6 (phiN n) k6]) rfl).1
      dsimp only at pz pl
      by_cases hlt : i < m
      · have hi12 : (i : Int) < (m : Int) := by omega
        have hme : m ≤ 1048576 := by omega
        have HE := Lib.hid (show Sl true wr.drew g (g + 1) (.slice (some ⟨g, off + i * 12, none⟩) 12 12) 12 (G (s + i)) from by
          have := (R1.out.elem (k := s + i) (by omega) (fun j hj => by have := HIM.out (s + i) j hj; unfold inR; omega)).drew
          rwa [show off + i * 12 = (s + i) * 12 by have := HOFF.out (by omega); omega])
        by_cases hw : Within (prG n G s (i + 1)) (phiN n) 1000000000
        · have HPW := Lib.hid (productWithin_ok n h1 h2 wr.drew HO.out.drew HE.out (Within.big (prG_within HOK.out)) (HIM.out (s + i)) hp0 hp (Nat.le_refl _) (fun j h3 h4 => HZ.out _ j h3) (by rw [prG_step]; exact hw))
          rw [prG_step] at HPW
          have HN := Lib.hid (prGok_succ HOK.out hw)
          clear hw
          go_wp2_with fail
          go_region_law (first
              | (go_simp; go_at_call 179; refine HPW.out.mono ?_; rintro e w3 ⟨a3, k3, rfl, s3, b3⟩
                 have hz3 := b3.size
                 have st3 := HT.out.drew.keep b3
                 obtain ⟨q0, q1⟩ := (st3.box 0 (w2.heap.size, [.int .i64 (n : Int), .slice a6 (phiN n) k6]) rfl).cell2
                 have qz := (st3.box 0 (w2.heap.size, [.int .i64 (n : Int), .slice a6 (phiN n) k6]) rfl).2.2
                 dsimp only at qz))
          have R3 := (((R1.out.drewN 1).keep b3 (Nat.le_refl _)).keepF (((Frame.refl w2.heap.size (w2.heap.size + 1) w3).setCell (Nat.le_refl _) (Nat.lt_succ_self _) (.int .i64 (n : Int)) (p := ⟨w2.heap.size, 0, none⟩)).setCell (Nat.le_refl _) (Nat.lt_succ_self _) (.slice a3 (phiN n) k3) (p := ⟨w2.heap.size, 1, none⟩)) (by omega))
          have RR3 := Lib.hid R3
          have S3 := Lib.hid s3
          have ST3 := Lib.hid (st3.boxSet (u0 := .int .i64 (n : Int)) (u1 := .slice a3 (phiN n) k3) (by omega) (by intro b hb; simp only [List.mem_cons, List.not_mem_nil, or_false] at hb; rcases hb with rfl <;> dsimp only <;> omega) (by intro s hs'; cases hs'))
          clear st3 b3 s3 R3 HT HO q0 q1 qz
          go_wp2
          go_roundw
          case rel =>
            exact ⟨i + 1, by omega, by go_num, RR3.out, .inl ⟨HN.out, rfl, _, _, a3, k3, by omega, .inl pl, (S3.out.setOther (.inl pl) _).setOther (.inl pl) _, ST3.out⟩⟩
          case measure => simp [intOf] <;> omega
        · have HPW := Lib.hid (productWithin_big n h1 h2 wr.drew HO.out.drew HE.out (Within.big (prG_within HOK.out)) (HIM.out (s + i)) hp0 hp (Nat.le_refl _) (fun j h3 h4 => HZ.out _ j h3) (by rw [prG_step]; exact hw))
          have HN := Lib.hid (show ¬ prGok n G s m from fun h => hw (h i hlt))
          clear hw
          go_wp2_with fail
          go_region_law (first
              | (go_simp; go_at_call 179; refine HPW.out.mono ?_; rintro e w3 ⟨rfl, b3⟩
                 unfold failV
                 have hz3 := b3.size
                 have st3 := HT.out.drew.keep b3
                 obtain ⟨q0, q1⟩ := (st3.box 0 (w2.heap.size, [.int .i64 (n : Int), .slice a6 (phiN n) k6]) rfl).cell2
                 have qz := (st3.box 0 (w2.heap.size, [.int .i64 (n : Int), .slice a6 (phiN n) k6]) rfl).2.2
                 dsimp only at qz))
          have R3 := (((R1.out.drewN 1).keep b3 (Nat.le_refl _)).keepF (((Frame.refl w2.heap.size (w2.heap.size + 1) w3).setCell (Nat.le_refl _) (Nat.lt_succ_self _) (.int .i64 0) (p := ⟨w2.heap.size, 0, none⟩)).setCell (Nat.le_refl _) (Nat.lt_succ_self _) (.slice none 0 0) (p := ⟨w2.heap.size, 1, none⟩)) (by omega))
          have RR3 := Lib.hid R3
          have ST3 := Lib.hid (st3.boxSet (u0 := .int .i64 0) (u1 := .slice none 0 0) (by omega) (by intro b hb; simp only [List.mem_cons, List.not_mem_nil, or_false] at hb; rcases hb with rfl <;> dsimp only <;> omega) (by intro s hs'; cases hs'))
          clear st3 b3 R3 HT HO q0 q1 qz
          go_wp2
          go_roundw
          case rel =>
            exact ⟨i + 1, by omega, by go_num, RR3.out, .inr ⟨HN.out, rfl, ST3.out⟩⟩
          case measure => simp [intOf] <;> omega
      · obtain rfl : i = m := by omega
        obtain ⟨d0, d1⟩ := (HT.out.box 1 (w.heap.size, [.int .i64 0, .slice none 0 0]) rfl).cell2
        have dz := (HT.out.box 1 (w.heap.size, [.int .i64 0, .slice none 0 0]) rfl).2.2
        have BB := HT.out.1
        dsimp only at dz
        clear HT
        go_wp2
        refine bodyPost_ret (v := .tuple #[.agg #[.int .i64 (n : Int), .slice a6 (phiN n) k6], .int .i64 0]) (by simp [results, Try.results128, go_sem, d0, d1]) rfl ?_
        refine ⟨.inl ⟨HOK.out, _, _, rfl, ?_⟩, by go_grown⟩
        exact ((HO.out.setOther (.inl (by show w.heap.size < _; omega)) _).setOther (.inl (by show w.heap.size < _; omega)) _).wide (by omega) (by simpa using HO.out.size) (Nat.le_refl _)
    · obtain ⟨p0, p1⟩ := (hst6.box 0 (w2.heap.size, [.int .i64 0, .slice none 0 0]) rfl).cell2
      obtain ⟨d0, d1⟩ := (hst6.box 1 (w.heap.size, [.int .i64 0, .slice none 0 0]) rfl).cell2
      have dz := (hst6.box 1 (w.heap.size, [.int .i64 0, .slice none 0 0]) rfl).2.2
      have BB := hst6.1
      have HN := Lib.hid hbad
      dsimp only at dz
      clear hst6 hbad
      by_cases hlast : i < m
      · go_wp2
        refine bodyPost_ret (v := failV 3) (by simp [results, Try.results128, go_sem, failV, d0, d1]) rfl ?_
        exact ⟨.inr ⟨HN.out, rfl⟩, by go_grown⟩
      · go_wp2
        refine bodyPost_ret (v := failV 3) (by simp [results, Try.results128, go_sem, failV, d0, d1]) rfl ?_
        exact ⟨.inr ⟨HN.out, rfl⟩, by go_grown⟩
end
end

section
open Go.RowKit Go.ChangeShapes Go.Sort
set_option linter.unusedVariables false
set_option linter.unusedSimpArgs false
set_option maxRecDepth 100000
set_option maxHeartbeats 4000000
theorem wpList_loadE_h {ops : Array Oper} {rest : List Oper} {op : Oper} {a : Act} {w : World} {Q : Exit → Act → World → Prop} (hw : Region.wanted op (yielded ops a.tmps) = true) (x : Operand) (ho : op.op = .load 107 x) (b : Nat) (hx : a.eval x = .pointer (some ⟨b, 0, none⟩)) {m : Int} {F : Nat → Int} (hb : Box w b (elL m F))
    (h : wpList Try.prog ops Q rest (a.put op.dst (.agg (elC m F))) w) : wpList Try.prog ops Q (op :: rest) a w := by
  simp only [wpList]
  rw [if_pos hw]
  exact .inl (wp_loadE x ho b hx hb h)

/-- The image that stands at the place t. -/
def acG (N : Nat) (f g : Nat → Int) (t : Nat) : Nat → Int := imA N (phiN N) g (sqA f (phiN N) t)
theorem inC_pos {N : Nat} {f : Nat → Int} (h2 : 2 ≤ N) (h40 : N ≤ 40) (hw : Within f (phiN N) 1000000000) : inC (opR N f (phiN N)) 0 1000000000 = true ↔ ∀ j, j < phiN N → 0 ≤ f j := by
  rw [inC_iff (by omega)]
  constructor
  · intro h j hj
    have := h (res N j) (by have := res_lt40 (n := N) (by omega) h2 hj; omega)
    rw [opR_at (by omega) h2 (Nat.le_refl _) hj] at this
    exact this.1
  · intro h a ha
    rcases opR_cases (n := N) (f := f) (phiN N) a with ⟨j, hj, rfl⟩ | hoff
    · rw [opR_at (by omega) h2 (Nat.le_refl _) hj]
      exact ⟨h j hj, (hw j hj).2⟩
    · rw [opR_off hoff]; omega
section
variable {o o' : Bool} {lo hi lo' hi' n m c d : Nat} {a b : Option Addr} {f g : Nat → Int}
theorem ActOnCyclo_impl_prod (N : Nat) (w : World) (hs : Sl o w lo hi (.slice a n c) n f) (ht : Sl o' w lo' hi' (.slice b m d) m g) (h : RgP N n f) (h' : CyP N m g) (hpos : ∀ j, j < phiN N → 0 ≤ f j) (h60 : sumN (phiN N) f ≤ 60) :
    Calls Try.prog 52 #[.agg #[.int .i64 (N : Int), .slice a n c], .agg #[.int .i64 (N : Int), .slice b m d]] w fun e w' => ((prGok N (acG N f g) 0 (cntA f (phiN N)) ∧ ∃ a' k', e = .returned (.tuple #[.agg #[.int .i64 (N : Int), .slice a' (phiN N) k'], .int .i64 0]) ∧ Sl true w' w.heap.size w'.heap.size (.slice a' (phiN N) k') (phiN N) (prG N (acG N f g) 0 (cntA f (phiN N)))) ∨ (¬ prGok N (acG N f g) 0 (cntA f (phiN N)) ∧ e = .returned (failV 3))) ∧ Below w.heap.size w w' := by
  have h2 : 2 ≤ N := by have := h.1; omega
  have h16 : N ≤ 16 := by have := h'.2.1; omega
  have hp := phi_le12 N h16 (by omega)
  obtain rfl : m = phiN N := h'.2.2.1
  obtain rfl : n = phiN N := h.2.2.1
  have hwf : Within f (phiN N) 1000000000 := h.2.2.2
  have hwg : Within g (phiN N) 1000000000 := h'.2.2.2
  have HIN := Lib.hid ((inC_pos (N := N) h2 (by omega) hwf).2 hpos)
  have hob := opR_bd (n := N) (f := f) (M := 1000000000) (by omega) hwf
  have HWI := Lib.hid (fun w' => isWithinE_any (N : Int) (opR N f (phiN N)) 0 1000000000 w' (fun j _ => by have := hob j; unfold inR; omega) (by unfold inR; omega) (by unfold inR; omega))
  rw [HIN.out] at HWI
  have HTO := Lib.hid (fun w' => total_any (N : Int) (opR N f (phiN N)) w' (fun j _ => hob j))
  rw [opR_sum (n := N) (by omega) h2 (Nat.le_refl _)] at HTO
  have HCN := Lib.hid (cntA_sum hpos)
  have HPOS := Lib.hid hpos
  obtain ⟨SM, hSM⟩ : ∃ SM, sumN (phiN N) f = SM := ⟨_, rfl⟩
  rw [hSM] at HTO HCN h60
  have hcn60 : cntA f (phiN N) ≤ 60 := by have := HCN.out; omega
  have H := Lib.hid h
  have H' := Lib.hid h'
  have HWG := Lib.hid hwg
  have hOP := Lib.hid (fun j (hj : j < phiN N) => opR_at (n := N) (f := f) (by omega) h2 (Nat.le_refl (phiN N)) hj)
  have HRL := Lib.hid (fun j (hj : j < phiN N) => res_lt40 (n := N) (by omega) h2 hj)
  clear hob hwf hpos hSM h h' hwg
  obtain ⟨OF, hOF⟩ : ∃ OF, opR N f (phiN N) = OF := ⟨_, rfl⟩
  rw [hOF] at HWI HTO hOP
  have HOF := Lib.hid hOF
  clear hOF
  have hhs := hs.size
  have hht := ht.size
  have st := ((((St.start w).addSl ⟨o, lo, hi, .slice a (phiN N) c, phiN N, f⟩ hs).addSl ⟨o', lo', hi', .slice b (phiN N) d, phiN N, g⟩ ht).alloc (.cells #[.int .i64 (N : Int), .slice a (phiN N) c] 28)).addBox w.heap.size [.int .i64 (N : Int), .slice a (phiN N) c] (Box.made _ _ _ _ (fun j v h => by simpa using h))
  replace st := (st.alloc (.cells #[.int .i64 (N : Int), .slice b (phiN N) d] 24)).addBox _ [.int .i64 (N : Int), .slice b (phiN N) d] (Box.made _ _ _ _ (fun j v h => by simpa using h))
  replace st := (st.alloc (.cells #[.int .i64 0, .slice none 0 0] 24)).addBox _ [.int .i64 0, .slice none 0 0] (Box.made _ _ _ _ (fun j v h => by simpa using h))
  simp only [World.size_alloc] at st
  obtain ⟨r0, r1⟩ := (st.box 2 (w.heap.size, [.int .i64 (N : Int), .slice a (phiN N) c]) rfl).cell2
  dsimp only at r0 r1
  clear hs ht
  go_enter Try.func52, Try.ntmps52
  go_wp2_with (first
    | (go_at_call 104; refine (openRing_ok N _ (st.sl 1 ⟨o, lo, hi, .slice a (phiN N) c, phiN N, f⟩ rfl) H.out).mono ?_; rintro e w1 ⟨rfl, b1⟩
       have hz1 := Lib.hid (show w.heap.size + 1 + 1 + 1 ≤ w1.heap.size from by have := b1.size; simp only [World.size_alloc] at this; omega)
       replace st := st.keep b1
       clear b1 r0 r1)
    | (refine wpList_allocE rfl rfl ?_; intro w2 x2 b2 z2
       replace st := (st.keep b2).addBox _ _ x2
       have B2 := st.box 0 (w1.heap.size, elL 0 (fun _ => 0)) rfl
       dsimp only at B2
       clear x2 b2 z2)
    | (refine wpList_storeE rfl _ _ rfl w1.heap.size rfl (m := N) (F := (opR N f (phiN N))) rfl B2 elL_len ?_; intro w3 x3 f3
       replace st := st.headR x3 f3 (by have := hz1.out; omega) (by have := hz1.out; intro q hq; simp only [List.mem_cons, List.not_mem_nil, or_false] at hq; rcases hq with rfl | rfl | rfl <;> dsimp only <;> omega) (by have := hz1.out; intro q hq; simp only [List.mem_cons, List.not_mem_nil, or_false] at hq; rcases hq with rfl | rfl <;> dsimp only <;> omega)
       rw [HOF.out] at st
       obtain ⟨y0, y1⟩ := (st.box 2 (w.heap.size + 1, [.int .i64 (N : Int), .slice b (phiN N) d]) rfl).cell2
       dsimp only at y0 y1
       clear x3 f3 B2))
  refine (IsCyclo_yes _ _ (st.sl 0 ⟨o', lo', hi', .slice b (phiN N) d, phiN N, g⟩ rfl) H'.out).mono ?_
  rintro e w4 ⟨rfl, b4⟩
  replace st := st.keep b4
  clear b4 y0 y1
  have BE := st.box 0 (w1.heap.size, elL N OF) rfl
  dsimp only at BE
  obtain ⟨x0, x1⟩ := (st.box 3 (w.heap.size, [.int .i64 (N : Int), .slice a (phiN N) c]) rfl).cell2
  obtain ⟨y0, y1⟩ := (st.box 2 (w.heap.size + 1, [.int .i64 (N : Int), .slice b (phiN N) d]) rfl).cell2
  dsimp only at x0 x1 y0 y1
  go_wp2_with (first
    | (refine wpList_loadE_h (by rfl) _ rfl w1.heap.size rfl BE ?_)
    | (go_at_call 97; refine (HWI.out _).mono ?_; rintro e w5 ⟨rfl, b5⟩
       replace st := st.keep b5
       clear b5 BE x0 x1 y0 y1
       have BE := st.box 0 (w1.heap.size, elL N OF) rfl
       dsimp only at BE)
    | (go_at_call 115; refine (HTO.out _).mono ?_; rintro e w6 ⟨rfl, b6⟩
       replace st := st.keep b6
       clear b6 BE
       have h60b : ¬ (60 < SM) := by omega
       have hzE := Lib.hid (st.box 0 (w1.heap.size, elL N OF) rfl).1
       obtain ⟨y0, y1⟩ := (st.box 2 (w.heap.size + 1, [.int .i64 (N : Int), .slice b (phiN N) d]) rfl).cell2
       have yl := (st.box 2 (w.heap.size + 1, [.int .i64 (N : Int), .slice b (phiN N) d]) rfl).1
       dsimp only at y0 y1 yl))
  refine (residuesOf_any N (by omega) h16 _).mono ?_
  rintro e w7 ⟨gr, kr, rfl, s7, b7⟩
  have hz7 := b7.size
  simp only [World.size_alloc] at hz7 s7
  replace st := ((st.alloc (.cells #[] 136)).keep b7).addSl ⟨true, w6.heap.size + 1, w7.heap.size, .slice (some ⟨gr, 0, none⟩) (phiN N) kr, phiN N, fun k => (res N k : Int)⟩ s7
  have HR7 := Lib.hid (((RowE.made w6 w6.heap.size 136 12 (fun t => arrL (acG N f g t)) (Nat.le_refl _)).keep b7 (Nat.le_refl _)))
  have hw6 := Lib.hid (show w1.heap.size < w6.heap.size from hzE.out)
  clear s7 b7 y0 y1 yl
  obtain ⟨nE, hnE⟩ : ∃ nE, w1.heap.size = nE := ⟨_, rfl⟩
  rw [hnE] at st hz1 hw6
  rw [hnE]
  clear hnE
  replace st := st.subR (bs' := [(nE, elL N OF), (w.heap.size + 1 + 1, [.int .i64 0, .slice none 0 0]), (w.heap.size + 1, [.int .i64 (N : Int), .slice b (phiN N) d])]) (ss' := [⟨true, w6.heap.size + 1, w7.heap.size, .slice (some ⟨gr, 0, none⟩) (phiN N) kr, phiN N, fun k => (res N k : Int)⟩, ⟨o', lo', hi', .slice b (phiN N) d, phiN N, g⟩]) (by intro q hq; simp only [List.mem_cons, List.not_mem_nil, or_false] at hq ⊢; rcases hq with rfl | rfl | rfl <;> simp) (by intro q hq; simp only [List.mem_cons, List.not_mem_nil, or_false] at hq ⊢; rcases hq with rfl | rfl <;> simp)
  have HM := Lib.hid (show ∀ k, k < phiN N → cntA f k ≤ 60 from fun k hk => Nat.le_trans (cntA_mono f (by omega)) hcn60)
  go_wp2
  go_loopw [8, 45] (fun s8 s45 wr => ∃ (k gi cap : Nat), k ≤ phiN N ∧ s8 = .slice (some ⟨gi, 0, none⟩) (cntA f k) cap ∧ s45 = .int .i64 (k : Int) ∧ RowE wr w6.heap.size 136 12 gi cap (cntA f k) (fun t => arrL (acG N f g t)) ∧ (gi < w6.heap.size + 1 ∨ w7.heap.size ≤ gi) ∧ St w wr [(nE, elL N OF), (w.heap.size + 1 + 1, [.int .i64 0, .slice none 0 0]), (w.heap.size + 1, [.int .i64 (N : Int), .slice b (phiN N) d])] [⟨true, w6.heap.size + 1, w7.heap.size, .slice (some ⟨gr, 0, none⟩) (phiN N) kr, phiN N, fun k => (res N k : Int)⟩, ⟨o', lo', hi', .slice b (phiN N) d, phiN N, g⟩]) (fun _ s45 _ => phiN N - (intOf s45).toNat)
  case atStart => exact ⟨0, _, _, Nat.zero_le _, rfl, rfl, HR7.out, .inl (by omega), st⟩
  case round =>
    clear HR7 st
    obtain ⟨k, gi, cap, hk, rfl, rfl, hr, hd, st⟩ := hrel
    have R1 := Lib.hid hr; clear hr
    by_cases hlt : k < phiN N
    · have hki : (k : Int) < (phiN N : Int) := by omega
      have hrk := ((st.sl 0 ⟨true, w6.heap.size + 1, w7.heap.size, .slice (some ⟨gr, 0, none⟩) (phiN N) kr, phiN N, fun k => (res N k : Int)⟩ rfl).known (by show 0 < phiN N; omega)).2.2.2.1 k hlt
      dsimp only at hrk
      rw [Nat.zero_add] at hrk
      have hra := res_ok N (by omega) (by omega) k hlt
      have hrl := HRL.out k hlt
      have hpc := (st.box 0 (nE, elL N OF) rfl).part (j := res N k) (by omega)
      dsimp only at hpc
      rw [hOP.out k hlt] at hpc
      obtain ⟨fk, hfk⟩ : ∃ fk : Nat, f k = (fk : Int) := Int.eq_ofNat_of_zero_le (HPOS.out k hlt)
      rw [hfk] at hpc
      have HFK := Lib.hid (show (f k).toNat = fk by rw [hfk]; rfl)
      have hck : cntA f k + fk ≤ 60 := by
        have h1 : cntA f (k + 1) ≤ cntA f (phiN N) := cntA_mono f (by omega)
        have h3 : cntA f (k + 1) = cntA f k + (f k).toNat := rfl
        rw [hfk] at h3
        have h4 : ((fk : Int)).toNat = fk := rfl
        omega
      have HSQ := Lib.hid (show ∀ r, r < fk → acG N f g (cntA f k + r) = imA N (phiN N) g k from fun r hr => by unfold acG; rw [sqA_at (by rw [hfk]; exact hr) hlt])
      have HCS := Lib.hid (show cntA f (k + 1) = cntA f k + fk from by show cntA f k + (f k).toNat = _; rw [hfk]; rfl)
      clear hfk
      obtain ⟨R, hR⟩ : ∃ R, res N k = R := ⟨_, rfl⟩
      rw [hR] at hrk hpc hra hrl
      have HI := Lib.hid (fun (w' : World) (hs : Sl o' w' lo' hi' (.slice b (phiN N) d) (phiN N) g) => imageParts_any N R (by omega) h16 (by omega) w' hs (by omega))
      have hiA : cut (phiN N) (imgP N R (phiN N) g) = imA N (phiN N) g k := by rw [← hR]; rfl
      rw [hiA] at HI
      clear hiA hR
      obtain ⟨G, hG⟩ : ∃ G, imA N (phiN N) g k = G := ⟨_, rfl⟩
      rw [hG] at HI HSQ
      clear hG
      unfold arrV at HI
      obtain ⟨C, hC⟩ : ∃ C, cntA f k = C := ⟨_, rfl⟩
      rw [hC] at R1 HSQ hck HCS
      rw [hC]
      clear hC
      go_wp2
      clear hrk hpc
      go_loopw [8, 53] (fun s8 s53 wr => ∃ (r gi cap : Nat), r ≤ fk ∧ s8 = .slice (some ⟨gi, 0, none⟩) (C + r) cap ∧ s53 = .int .i64 (r : Int) ∧ RowE wr w6.heap.size 136 12 gi cap (C + r) (fun t => arrL (acG N f g t)) ∧ (gi < w6.heap.size + 1 ∨ w7.heap.size ≤ gi) ∧ St w wr [(nE, elL N OF), (w.heap.size + 1 + 1, [.int .i64 0, .slice none 0 0]), (w.heap.size + 1, [.int .i64 (N : Int), .slice b (phiN N) d])] [⟨true, w6.heap.size + 1, w7.heap.size, .slice (some ⟨gr, 0, none⟩) (phiN N) kr, phiN N, fun k => (res N k : Int)⟩, ⟨o', lo', hi', .slice b (phiN N) d, phiN N, g⟩]) (fun _ s53 _ => fk - (intOf s53).toNat)
      case atStart => exact ⟨0, gi, cap, Nat.zero_le _, rfl, rfl, R1.out, hd, st⟩
      case round =>
        clear R1 st hd
        rename World => wi
        obtain ⟨r, gi2, cap2, hr, rfl, rfl, hrw, hd, st⟩ := hrel
        have R1 := Lib.hid hrw; clear hrw
        have hlR := R1.out.lt
        have hw7s := (st.sl 0 ⟨true, w6.heap.size + 1, w7.heap.size, .slice (some ⟨gr, 0, none⟩) (phiN N) kr, phiN N, fun k => (res N k : Int)⟩ rfl).size
        have hnEs := (st.box 0 (nE, elL N OF) rfl).1
        have hhi := (st.sl 1 ⟨o', lo', hi', .slice b (phiN N) d, phiN N, g⟩ rfl).size
        dsimp only at hw7s hnEs hhi
        by_cases hrf : r < fk
        · have hri : (r : Int) < (fk : Int) := by omega
          have hsq := HSQ.out r hrf
          obtain ⟨y0, y1⟩ := (st.box 2 (w.heap.size + 1, [.int .i64 (N : Int), .slice b (phiN N) d]) rfl).cell2
          have qx := st.sl 1 ⟨o', lo', hi', .slice b (phiN N) d, phiN N, g⟩ rfl
          dsimp only at y0 y1 qx
          go_wp2_with fail
          refine (HI.out _ qx).mono ?_
          rintro e w8 ⟨rfl, b8⟩
          have hz8 := b8.size
          have R2 := Lib.hid (R1.out.keep b8 (Nat.le_refl _))
          replace st := st.keep b8
          have ST8 := Lib.hid st
          have h6 := hw6.out
          have h1z := hz1.out
          clear b8 R1 qx y0 y1 st
          go_wp2_with (first
            | (at_builtin; refine wpList_pushA rfl (.tmp 55) (.tmp 59) rfl rfl w6.heap.size gi2 cap2 (C + r) (acG N f g) rfl (R2.out.alloc _) w8.heap.size G rfl (heap_alloc_new w8 _) (by omega) ?_; intro gA kA wA rowA grA orA ltA
               have STA := Lib.hid ((ST8.out.alloc (.cells (arrC G) 136)).write (Frame.ofGrown grA) (by omega) (by intro q hq; simp only [List.mem_cons, List.not_mem_nil, or_false] at hq; rcases hq with rfl | rfl | rfl <;> dsimp only <;> omega) (by intro q hq; simp only [List.mem_cons, List.not_mem_nil, or_false] at hq; rcases hq with rfl | rfl <;> dsimp only <;> omega))
               have RA := Lib.hid rowA
               have hgA : gA = gi2 ∨ gA = w8.heap.size + 1 := by simpa using orA
               clear rowA grA orA R2 ST8))
          go_roundw
          case rel =>
            refine ⟨r + 1, gA, kA, by omega, rfl, by go_num, RA.out.congr (fun i hi => ?_), by omega, STA.out⟩
            by_cases e : i < C + r
            · rw [if_pos e]
            · obtain rfl : i = C + r := by omega
              rw [if_neg e, hsq]
          case measure => simp [intOf] <;> omega
        · obtain rfl : r = fk := by omega
          go_wp2
          go_roundw
          case rel => exact ⟨k + 1, gi2, cap2, by omega, by rw [HCS.out], by go_num, by rw [HCS.out]; exact R1.out, hd, st⟩
          case measure => simp [intOf] <;> omega
    · obtain rfl : k = phiN N := by omega
      have HPR := Lib.hid (fun (w' : World) (hR : RowE w' w6.heap.size 136 12 gi cap (cntA f (phiN N)) (fun t => arrL (acG N f g t))) => productOfImages_gen (G := acG N f g) N (by omega) h16 w' (cap2 := cap) (off := 0) (s := 0) (m := cntA f (phiN N)) hR (fun _ => rfl) (by omega) (by omega) (fun t => imA_big (by omega) (by omega) HWG.out (by omega) _) (fun t j hj => imA_far _ j hj))
      have h1z := hz1.out
      obtain ⟨y0, y1⟩ := (st.box 2 (w.heap.size + 1, [.int .i64 (N : Int), .slice b (phiN N) d]) rfl).cell2
      have zl := (st.box 1 (w.heap.size + 1 + 1, [.int .i64 0, .slice none 0 0]) rfl).1
      dsimp only at y0 y1 zl
      go_wp2_with fail
      refine (HPR.out _ R1.out).mono ?_
      rintro e w9 ⟨hcase, b9⟩
      have hz9 := b9.size
      have h6 := hw6.out
      replace st := st.keep b9
      clear b9 y0 y1 R1 HPR
      obtain ⟨d0, d1⟩ := (st.box 1 (w.heap.size + 1 + 1, [.int .i64 0, .slice none 0 0]) rfl).cell2
      have dz := (st.box 1 (w.heap.size + 1 + 1, [.int .i64 0, .slice none 0 0]) rfl).2.2
      dsimp only at d0 d1 dz
      have BB := st.1
      have hnEs := (st.box 0 (nE, elL N OF) rfl).1
      dsimp only at hnEs
      rcases hcase with ⟨hok, a9, k9, rfl, s9⟩ | ⟨hbad, rfl⟩
      · have HOK := Lib.hid hok
        have S9 := Lib.hid s9
        clear hok s9 st
        go_wp2
        refine bodyPost_ret (v := .tuple #[.agg #[.int .i64 (N : Int), .slice a9 (phiN N) k9], .int .i64 0]) (by simp [results, Try.results52, go_sem, d0, d1]) rfl ?_
        refine ⟨.inl ⟨HOK.out, a9, k9, rfl, ?_⟩, by go_grown⟩
        exact ((S9.out.setOther (.inl (show w.heap.size + 1 + 1 < wr.heap.size from by omega)) _).setOther (.inl (show w.heap.size + 1 + 1 < wr.heap.size from by omega)) _).wide (by omega) (by simp) (Nat.le_refl _)
      · have HB := Lib.hid hbad
        clear hbad st
        unfold failV
        go_wp2
        refine bodyPost_ret (v := failV 3) (by simp [results, Try.results52, go_sem, failV, d0, d1]) rfl ?_
        exact ⟨.inr ⟨HB.out, rfl⟩, by go_grown⟩
end
end

section
open Go.RowKit Go.ChangeShapes Go.Sort
set_option linter.unusedVariables false
set_option linter.unusedSimpArgs false
set_option maxRecDepth 100000
set_option maxHeartbeats 2000000
section
variable {o o' : Bool} {lo hi lo' hi' n m c d : Nat} {a b : Option Addr} {f g : Nat → Int}
theorem ActOnCyclo_impl_ring (x y : Int) (w : World) (hs : Sl o w lo hi (.slice a n c) n f) (ht : Sl o' w lo' hi' (.slice b m d) m g) (h : ¬ RgP x n f) :
    Calls Try.prog 52 #[.agg #[.int .i64 x, .slice a n c], .agg #[.int .i64 y, .slice b m d]] w fun e w' => e = .returned (failV 1) ∧ Below w.heap.size w w' := by
  have H := Lib.hid h
  clear h
  have hhs := hs.size
  have hht := ht.size
  have st := ((((St.start w).addSl ⟨o, lo, hi, .slice a n c, n, f⟩ hs).addSl ⟨o', lo', hi', .slice b m d, m, g⟩ ht).alloc (.cells #[.int .i64 x, .slice a n c] 28)).addBox w.heap.size [.int .i64 x, .slice a n c] (Box.made _ _ _ _ (fun j v h => by simpa using h))
  replace st := (st.alloc (.cells #[.int .i64 y, .slice b m d] 24)).addBox _ [.int .i64 y, .slice b m d] (Box.made _ _ _ _ (fun j v h => by simpa using h))
  replace st := (st.alloc (.cells #[.int .i64 0, .slice none 0 0] 24)).addBox _ [.int .i64 0, .slice none 0 0] (Box.made _ _ _ _ (fun j v h => by simpa using h))
  simp only [World.size_alloc] at st
  obtain ⟨r0, r1⟩ := (st.box 2 (w.heap.size, [.int .i64 x, .slice a n c]) rfl).cell2
  dsimp only at r0 r1
  clear hs ht
  go_enter Try.func52, Try.ntmps52
  go_wp2_with (first
    | (go_at_call 104; refine (openRing_bad x _ (st.sl 1 ⟨o, lo, hi, .slice a n c, n, f⟩ rfl) H.out).mono ?_; rintro e w1 ⟨rfl, b1⟩
       have hz1 := Lib.hid (show w.heap.size + 1 + 1 + 1 ≤ w1.heap.size from by have := b1.size; simp only [World.size_alloc] at this; omega)
       replace st := st.keep b1
       clear b1 r0 r1)
    | (refine wpList_allocE rfl rfl ?_; intro w2 x2 b2 z2
       replace st := (st.keep b2).addBox _ _ x2
       have B2 := st.box 0 (w1.heap.size, elL 0 (fun _ => 0)) rfl
       dsimp only at B2
       clear x2 b2 z2)
    | (refine wpList_storeE rfl _ _ rfl w1.heap.size rfl (m := 0) (F := fun _ => 0) rfl B2 elL_len ?_; intro w3 x3 f3
       replace st := st.headR x3 f3 (by have := hz1.out; omega) (by have := hz1.out; intro q hq; simp only [List.mem_cons, List.not_mem_nil, or_false] at hq; rcases hq with rfl | rfl | rfl <;> dsimp only <;> omega) (by have := hz1.out; intro q hq; simp only [List.mem_cons, List.not_mem_nil, or_false] at hq; rcases hq with rfl | rfl <;> dsimp only <;> omega)
       obtain ⟨d0, d1⟩ := (st.box 1 (w.heap.size + 1 + 1, [.int .i64 0, .slice none 0 0]) rfl).cell2
       have dz := (st.box 1 (w.heap.size + 1 + 1, [.int .i64 0, .slice none 0 0]) rfl).2.2
       obtain ⟨y0, y1⟩ := (st.box 2 (w.heap.size + 1, [.int .i64 y, .slice b m d]) rfl).cell2
       dsimp only at d0 d1 dz y0 y1
       clear x3 f3 B2))
  have BB := st.1
  refine bodyPost_ret (v := failV 1) (by simp [results, Try.results52, go_sem, failV, d0, d1]) rfl ⟨rfl, by go_grown⟩
theorem ActOnCyclo_impl_cyclo (N : Nat) (y : Int) (w : World) (hs : Sl o w lo hi (.slice a n c) n f) (ht : Sl o' w lo' hi' (.slice b m d) m g) (h : RgP N n f) (h' : ¬ CyP y m g) :
    Calls Try.prog 52 #[.agg #[.int .i64 (N : Int), .slice a n c], .agg #[.int .i64 y, .slice b m d]] w fun e w' => e = .returned (failV 1) ∧ Below w.heap.size w w' := by
  have h2 : 2 ≤ N := by have := h.1; omega
  have h40 : N ≤ 40 := by have := h.2.1; omega
  obtain rfl : n = phiN N := h.2.2.1
  have hwf : Within f (phiN N) 1000000000 := h.2.2.2
  have H := Lib.hid h
  clear h
  have H' := Lib.hid h'
  clear h'
  have hhs := hs.size
  have hht := ht.size
  have st := ((((St.start w).addSl ⟨o, lo, hi, .slice a (phiN N) c, phiN N, f⟩ hs).addSl ⟨o', lo', hi', .slice b m d, m, g⟩ ht).alloc (.cells #[.int .i64 (N : Int), .slice a (phiN N) c] 28)).addBox w.heap.size [.int .i64 (N : Int), .slice a (phiN N) c] (Box.made _ _ _ _ (fun j v h => by simpa using h))
  replace st := (st.alloc (.cells #[.int .i64 y, .slice b m d] 24)).addBox _ [.int .i64 y, .slice b m d] (Box.made _ _ _ _ (fun j v h => by simpa using h))
  replace st := (st.alloc (.cells #[.int .i64 0, .slice none 0 0] 24)).addBox _ [.int .i64 0, .slice none 0 0] (Box.made _ _ _ _ (fun j v h => by simpa using h))
  simp only [World.size_alloc] at st
  obtain ⟨r0, r1⟩ := (st.box 2 (w.heap.size, [.int .i64 (N : Int), .slice a (phiN N) c]) rfl).cell2
  dsimp only at r0 r1
  clear hs ht
  go_enter Try.func52, Try.ntmps52
  go_wp2_with (first
    | (go_at_call 104; refine (openRing_ok N _ (st.sl 1 ⟨o, lo, hi, .slice a (phiN N) c, phiN N, f⟩ rfl) H.out).mono ?_; rintro e w1 ⟨rfl, b1⟩
       have hz1 := Lib.hid (show w.heap.size + 1 + 1 + 1 ≤ w1.heap.size from by have := b1.size; simp only [World.size_alloc] at this; omega)
       replace st := st.keep b1
       clear b1 r0 r1)
    | (refine wpList_allocE rfl rfl ?_; intro w2 x2 b2 z2
       replace st := (st.keep b2).addBox _ _ x2
       have B2 := st.box 0 (w1.heap.size, elL 0 (fun _ => 0)) rfl
       dsimp only at B2
       clear x2 b2 z2)
    | (refine wpList_storeE rfl _ _ rfl w1.heap.size rfl (m := N) (F := opR N f (phiN N)) rfl B2 elL_len ?_; intro w3 x3 f3
       replace st := st.headR x3 f3 (by have := hz1.out; omega) (by have := hz1.out; intro q hq; simp only [List.mem_cons, List.not_mem_nil, or_false] at hq; rcases hq with rfl | rfl | rfl <;> dsimp only <;> omega) (by have := hz1.out; intro q hq; simp only [List.mem_cons, List.not_mem_nil, or_false] at hq; rcases hq with rfl | rfl <;> dsimp only <;> omega)
       obtain ⟨d0, d1⟩ := (st.box 1 (w.heap.size + 1 + 1, [.int .i64 0, .slice none 0 0]) rfl).cell2
       have dz := (st.box 1 (w.heap.size + 1 + 1, [.int .i64 0, .slice none 0 0]) rfl).2.2
       obtain ⟨y0, y1⟩ := (st.box 2 (w.heap.size + 1, [.int .i64 y, .slice b m d]) rfl).cell2
       dsimp only at d0 d1 dz y0 y1
       clear x3 f3 B2))
  refine (IsCyclo_no _ _ (st.sl 0 ⟨o', lo', hi', .slice b m d, m, g⟩ rfl) H'.out).mono ?_
  rintro e w4 ⟨rfl, b4⟩
  replace st := st.keep b4
  clear b4 y0 y1 d0 d1 dz
  obtain ⟨d0, d1⟩ := (st.box 1 (w.heap.size + 1 + 1, [.int .i64 0, .slice none 0 0]) rfl).cell2
  have dz := (st.box 1 (w.heap.size + 1 + 1, [.int .i64 0, .slice none 0 0]) rfl).2.2
  dsimp only at d0 d1 dz
  go_wp2
  have BB := st.1
  refine bodyPost_ret (v := failV 1) (by simp [results, Try.results52, go_sem, failV, d0, d1]) rfl ⟨rfl, by go_grown⟩
theorem ActOnCyclo_impl_mod (N M : Nat) (w : World) (hs : Sl o w lo hi (.slice a n c) n f) (ht : Sl o' w lo' hi' (.slice b m d) m g) (h : RgP N n f) (h' : CyP M m g) (hne : N ≠ M) :
    Calls Try.prog 52 #[.agg #[.int .i64 (N : Int), .slice a n c], .agg #[.int .i64 (M : Int), .slice b m d]] w fun e w' => e = .returned (failV 2) ∧ Below w.heap.size w w' := by
  have h2 : 2 ≤ N := by have := h.1; omega
  have h40 : N ≤ 40 := by have := h.2.1; omega
  obtain rfl : n = phiN N := h.2.2.1
  have hwf : Within f (phiN N) 1000000000 := h.2.2.2
  have H := Lib.hid h
  clear h
  obtain rfl : m = phiN M := h'.2.2.1
  have H' := Lib.hid h'
  have hnb : ((N : Int) != (M : Int)) = true := by rw [bne_iff_ne]; omega
  clear h' hne
  have hhs := hs.size
  have hht := ht.size
  have st := ((((St.start w).addSl ⟨o, lo, hi, .slice a (phiN N) c, phiN N, f⟩ hs).addSl ⟨o', lo', hi', .slice b (phiN M) d, phiN M, g⟩ ht).alloc (.cells #[.int .i64 (N : Int), .slice a (phiN N) c] 28)).addBox w.heap.size [.int .i64 (N : Int), .slice a (phiN N) c] (Box.made _ _ _ _ (fun j v h => by simpa using h))
  replace st := (st.alloc (.cells #[.int .i64 (M : Int), .slice b (phiN M) d] 24)).addBox _ [.int .i64 (M : Int), .slice b (phiN M) d] (Box.made _ _ _ _ (fun j v h => by simpa using h))
  replace st := (st.alloc (.cells #[.int .i64 0, .slice none 0 0] 24)).addBox _ [.int .i64 0, .slice none 0 0] (Box.made _ _ _ _ (fun j v h => by simpa using h))
  simp only [World.size_alloc] at st
  obtain ⟨r0, r1⟩ := (st.box 2 (w.heap.size, [.int .i64 (N : Int), .slice a (phiN N) c]) rfl).cell2
  dsimp only at r0 r1
  clear hs ht
  go_enter Try.func52, Try.ntmps52
  go_wp2_with (first
    | (go_at_call 104; refine (openRing_ok N _ (st.sl 1 ⟨o, lo, hi, .slice a (phiN N) c, phiN N, f⟩ rfl) H.out).mono ?_; rintro e w1 ⟨rfl, b1⟩
       have hz1 := Lib.hid (show w.heap.size + 1 + 1 + 1 ≤ w1.heap.size from by have := b1.size; simp only [World.size_alloc] at this; omega)
       replace st := st.keep b1
       clear b1 r0 r1)
    | (refine wpList_allocE rfl rfl ?_; intro w2 x2 b2 z2
       replace st := (st.keep b2).addBox _ _ x2
       have B2 := st.box 0 (w1.heap.size, elL 0 (fun _ => 0)) rfl
       dsimp only at B2
       clear x2 b2 z2)
    | (refine wpList_storeE rfl _ _ rfl w1.heap.size rfl (m := N) (F := opR N f (phiN N)) rfl B2 elL_len ?_; intro w3 x3 f3
       replace st := st.headR x3 f3 (by have := hz1.out; omega) (by have := hz1.out; intro q hq; simp only [List.mem_cons, List.not_mem_nil, or_false] at hq; rcases hq with rfl | rfl | rfl <;> dsimp only <;> omega) (by have := hz1.out; intro q hq; simp only [List.mem_cons, List.not_mem_nil, or_false] at hq; rcases hq with rfl | rfl <;> dsimp only <;> omega)
       obtain ⟨d0, d1⟩ := (st.box 1 (w.heap.size + 1 + 1, [.int .i64 0, .slice none 0 0]) rfl).cell2
       have dz := (st.box 1 (w.heap.size + 1 + 1, [.int .i64 0, .slice none 0 0]) rfl).2.2
       obtain ⟨y0, y1⟩ := (st.box 2 (w.heap.size + 1, [.int .i64 (M : Int), .slice b (phiN M) d]) rfl).cell2
       dsimp only at d0 d1 dz y0 y1
       clear x3 f3 B2))
  refine (IsCyclo_yes _ _ (st.sl 0 ⟨o', lo', hi', .slice b (phiN M) d, phiN M, g⟩ rfl) H'.out).mono ?_
  rintro e w4 ⟨rfl, b4⟩
  replace st := st.keep b4
  clear b4 y0 y1 d0 d1 dz
  obtain ⟨d0, d1⟩ := (st.box 1 (w.heap.size + 1 + 1, [.int .i64 0, .slice none 0 0]) rfl).cell2
  have dz := (st.box 1 (w.heap.size + 1 + 1, [.int .i64 0, .slice none 0 0]) rfl).2.2
  dsimp only at d0 d1 dz
  have BE := st.box 0 (w1.heap.size, elL N (opR N f (phiN N))) rfl
  obtain ⟨x0, x1⟩ := (st.box 3 (w.heap.size, [.int .i64 (N : Int), .slice a (phiN N) c]) rfl).cell2
  obtain ⟨y0, y1⟩ := (st.box 2 (w.heap.size + 1, [.int .i64 (M : Int), .slice b (phiN M) d]) rfl).cell2
  dsimp only at x0 x1 y0 y1 BE
  go_wp2
  have BB := st.1
  refine bodyPost_ret (v := failV 2) (by simp [results, Try.results52, go_sem, failV, d0, d1]) rfl ⟨rfl, by go_grown⟩
theorem ActOnCyclo_impl_neg (N : Nat) (w : World) (hs : Sl o w lo hi (.slice a n c) n f) (ht : Sl o' w lo' hi' (.slice b m d) m g) (h : RgP N n f) (h' : CyP N m g) (hneg : ¬ ∀ j, j < phiN N → 0 ≤ f j) :
    Calls Try.prog 52 #[.agg #[.int .i64 (N : Int), .slice a n c], .agg #[.int .i64 (N : Int), .slice b m d]] w fun e w' => e = .returned (failV 2) ∧ Below w.heap.size w w' := by
  have h2 : 2 ≤ N := by have := h.1; omega
  have h40 : N ≤ 40 := by have := h.2.1; omega
  obtain rfl : n = phiN N := h.2.2.1
  have hwf : Within f (phiN N) 1000000000 := h.2.2.2
  have H := Lib.hid h
  clear h
  obtain rfl : m = phiN N := h'.2.2.1
  have H' := Lib.hid h'
  clear h'
  have hob := opR_bd (n := N) (f := f) (M := 1000000000) (by omega) hwf
  have HWI := Lib.hid (fun w' => isWithinE_any (N : Int) (opR N f (phiN N)) 0 1000000000 w' (fun j _ => by have := hob j; unfold inR; omega) (by unfold inR; omega) (by unfold inR; omega))
  have HIN := Lib.hid (show inC (opR N f (phiN N)) 0 1000000000 = false from by
    rw [← Bool.not_eq_true]; exact fun e => hneg ((inC_pos (N := N) h2 h40 hwf).1 e))
  rw [HIN.out] at HWI
  clear hneg hob hwf
  have hhs := hs.size
  have hht := ht.size
  have st := ((((St.start w).addSl ⟨o, lo, hi, .slice a (phiN N) c, phiN N, f⟩ hs).addSl ⟨o', lo', hi', .slice b (phiN N) d, phiN N, g⟩ ht).alloc (.cells #[.int .i64 (N : Int), .slice a (phiN N) c] 28)).addBox w.heap.size [.int .i64 (N : Int), .slice a (phiN N) c] (Box.made _ _ _ _ (fun j v h => by simpa using h))
  replace st := (st.alloc (.cells #[.int .i64 (N : Int), .slice b (phiN N) d] 24)).addBox _ [.int .i64 (N : Int), .slice b (phiN N) d] (Box.made _ _ _ _ (fun j v h => by simpa using h))
  replace st := (st.alloc (.cells #[.int .i64 0, .slice none 0 0] 24)).addBox _ [.int .i64 0, .slice none 0 0] (Box.made _ _ _ _ (fun j v h => by simpa using h))
  simp only [World.size_alloc] at st
  obtain ⟨r0, r1⟩ := (st.box 2 (w.heap.size, [.int .i64 (N : Int), .slice a (phiN N) c]) rfl).cell2
  dsimp only at r0 r1
  clear hs ht
  go_enter Try.func52, Try.ntmps52
  go_wp2_with (first
    | (go_at_call 104; refine (openRing_ok N _ (st.sl 1 ⟨o, lo, hi, .slice a (phiN N) c, phiN N, f⟩ rfl) H.out).mono ?_; rintro e w1 ⟨rfl, b1⟩
       have hz1 := Lib.hid (show w.heap.size + 1 + 1 + 1 ≤ w1.heap.size from by have := b1.size; simp only [World.size_alloc] at this; omega)
       replace st := st.keep b1
       clear b1 r0 r1)
    | (refine wpList_allocE rfl rfl ?_; intro w2 x2 b2 z2
       replace st := (st.keep b2).addBox _ _ x2
       have B2 := st.box 0 (w1.heap.size, elL 0 (fun _ => 0)) rfl
       dsimp only at B2
       clear x2 b2 z2)
    | (refine wpList_storeE rfl _ _ rfl w1.heap.size rfl (m := N) (F := opR N f (phiN N)) rfl B2 elL_len ?_; intro w3 x3 f3
       replace st := st.headR x3 f3 (by have := hz1.out; omega) (by have := hz1.out; intro q hq; simp only [List.mem_cons, List.not_mem_nil, or_false] at hq; rcases hq with rfl | rfl | rfl <;> dsimp only <;> omega) (by have := hz1.out; intro q hq; simp only [List.mem_cons, List.not_mem_nil, or_false] at hq; rcases hq with rfl | rfl <;> dsimp only <;> omega)
       obtain ⟨d0, d1⟩ := (st.box 1 (w.heap.size + 1 + 1, [.int .i64 0, .slice none 0 0]) rfl).cell2
       have dz := (st.box 1 (w.heap.size + 1 + 1, [.int .i64 0, .slice none 0 0]) rfl).2.2
       obtain ⟨y0, y1⟩ := (st.box 2 (w.heap.size + 1, [.int .i64 (N : Int), .slice b (phiN N) d]) rfl).cell2
       dsimp only at d0 d1 dz y0 y1
       clear x3 f3 B2))
  refine (IsCyclo_yes _ _ (st.sl 0 ⟨o', lo', hi', .slice b (phiN N) d, phiN N, g⟩ rfl) H'.out).mono ?_
  rintro e w4 ⟨rfl, b4⟩
  replace st := st.keep b4
  clear b4 y0 y1 d0 d1 dz
  obtain ⟨d0, d1⟩ := (st.box 1 (w.heap.size + 1 + 1, [.int .i64 0, .slice none 0 0]) rfl).cell2
  have dz := (st.box 1 (w.heap.size + 1 + 1, [.int .i64 0, .slice none 0 0]) rfl).2.2
  dsimp only at d0 d1 dz
  have BE := st.box 0 (w1.heap.size, elL N (opR N f (phiN N))) rfl
  obtain ⟨x0, x1⟩ := (st.box 3 (w.heap.size, [.int .i64 (N : Int), .slice a (phiN N) c]) rfl).cell2
  obtain ⟨y0, y1⟩ := (st.box 2 (w.heap.size + 1, [.int .i64 (N : Int), .slice b (phiN N) d]) rfl).cell2
  dsimp only at x0 x1 y0 y1 BE
  go_wp2_with (first
    | (refine wpList_loadE_h (by rfl) _ rfl w1.heap.size rfl BE ?_)
    | (go_at_call 97; refine (HWI.out _).mono ?_; rintro e w5 ⟨rfl, b5⟩
       replace st := st.keep b5
       clear b5 BE x0 x1 y0 y1 d0 d1 dz
       have BE := st.box 0 (w1.heap.size, elL N (opR N f (phiN N))) rfl
       obtain ⟨d0, d1⟩ := (st.box 1 (w.heap.size + 1 + 1, [.int .i64 0, .slice none 0 0]) rfl).cell2
       have dz := (st.box 1 (w.heap.size + 1 + 1, [.int .i64 0, .slice none 0 0]) rfl).2.2
       dsimp only at d0 d1 dz BE))
  have BB := st.1
  refine bodyPost_ret (v := failV 2) (by simp [results, Try.results52, go_sem, failV, d0, d1]) rfl ⟨rfl, by go_grown⟩
theorem ActOnCyclo_impl_big (N : Nat) (w : World) (hs : Sl o w lo hi (.slice a n c) n f) (ht : Sl o' w lo' hi' (.slice b m d) m g) (h : RgP N n f) (h' : CyP N m g) (hpos : ∀ j, j < phiN N → 0 ≤ f j) (h60 : 60 < sumN (phiN N) f) :
    Calls Try.prog 52 #[.agg #[.int .i64 (N : Int), .slice a n c], .agg #[.int .i64 (N : Int), .slice b m d]] w fun e w' => e = .returned (failV 2) ∧ Below w.heap.size w w' := by
  have h2 : 2 ≤ N := by have := h.1; omega
  have h40 : N ≤ 40 := by have := h.2.1; omega
  obtain rfl : n = phiN N := h.2.2.1
  have hwf : Within f (phiN N) 1000000000 := h.2.2.2
  have H := Lib.hid h
  clear h
  obtain rfl : m = phiN N := h'.2.2.1
  have H' := Lib.hid h'
  clear h'
  have hob := opR_bd (n := N) (f := f) (M := 1000000000) (by omega) hwf
  have HWI := Lib.hid (fun w' => isWithinE_any (N : Int) (opR N f (phiN N)) 0 1000000000 w' (fun j _ => by have := hob j; unfold inR; omega) (by unfold inR; omega) (by unfold inR; omega))
  have HIN := Lib.hid ((inC_pos (N := N) h2 h40 hwf).2 hpos)
  rw [HIN.out] at HWI
  have HTO := Lib.hid (fun w' => total_any (N : Int) (opR N f (phiN N)) w' (fun j _ => hob j))
  rw [opR_sum (n := N) (by omega) h2 (Nat.le_refl _)] at HTO
  obtain ⟨SM, hSM⟩ : ∃ SM, sumN (phiN N) f = SM := ⟨_, rfl⟩
  rw [hSM] at HTO h60
  have H60 := Lib.hid h60
  clear hpos hob hwf hSM h60
  have hhs := hs.size
  have hht := ht.size
  have st := ((((St.start w).addSl ⟨o, lo, hi, .slice a (phiN N) c, phiN N, f⟩ hs).addSl ⟨o', lo', hi', .slice b (phiN N) d, phiN N, g⟩ ht).alloc (.cells #[.int .i64 (N : Int), .slice a (phiN N) c] 28)).addBox w.heap.size [.int .i64 (N : Int), .slice a (phiN N) c] (Box.made _ _ _ _ (fun j v h => by simpa using h))
  replace st := (st.alloc (.cells #[.int .i64 (N : Int), .slice b (phiN N) d] 24)).addBox _ [.int .i64 (N : Int), .slice b (phiN N) d] (Box.made _ _ _ _ (fun j v h => by simpa using h))
  replace st := (st.alloc (.cells #[.int .i64 0, .slice none 0 0] 24)).addBox _ [.int .i64 0, .slice none 0 0] (Box.made _ _ _ _ (fun j v h => by simpa using h))
  simp only [World.size_alloc] at st
  obtain ⟨r0, r1⟩ := (st.box 2 (w.heap.size, [.int .i64 (N : Int), .slice a (phiN N) c]) rfl).cell2
  dsimp only at r0 r1
  clear hs ht
  go_enter Try.func52, Try.ntmps52
  go_wp2_with (first
    | (go_at_call 104; refine (openRing_ok N _ (st.sl 1 ⟨o, lo, hi, .slice a (phiN N) c, phiN N, f⟩ rfl) H.out).mono ?_; rintro e w1 ⟨rfl, b1⟩
       have hz1 := Lib.hid (show w.heap.size + 1 + 1 + 1 ≤ w1.heap.size from by have := b1.size; simp only [World.size_alloc] at this; omega)
       replace st := st.keep b1
       clear b1 r0 r1)
    | (refine wpList_allocE rfl rfl ?_; intro w2 x2 b2 z2
       replace st := (st.keep b2).addBox _ _ x2
       have B2 := st.box 0 (w1.heap.size, elL 0 (fun _ => 0)) rfl
       dsimp only at B2
       clear x2 b2 z2)
    | (refine wpList_storeE rfl _ _ rfl w1.heap.size rfl (m := N) (F := opR N f (phiN N)) rfl B2 elL_len ?_; intro w3 x3 f3
       replace st := st.headR x3 f3 (by have := hz1.out; omega) (by have := hz1.out; intro q hq; simp only [List.mem_cons, List.not_mem_nil, or_false] at hq; rcases hq with rfl | rfl | rfl <;> dsimp only <;> omega) (by have := hz1.out; intro q hq; simp only [List.mem_cons, List.not_mem_nil, or_false] at hq; rcases hq with rfl | rfl <;> dsimp only <;> omega)
       obtain ⟨d0, d1⟩ := (st.box 1 (w.heap.size + 1 + 1, [.int .i64 0, .slice none 0 0]) rfl).cell2
       have dz := (st.box 1 (w.heap.size + 1 + 1, [.int .i64 0, .slice none 0 0]) rfl).2.2
       obtain ⟨y0, y1⟩ := (st.box 2 (w.heap.size + 1, [.int .i64 (N : Int), .slice b (phiN N) d]) rfl).cell2
       dsimp only at d0 d1 dz y0 y1
       clear x3 f3 B2))
  refine (IsCyclo_yes _ _ (st.sl 0 ⟨o', lo', hi', .slice b (phiN N) d, phiN N, g⟩ rfl) H'.out).mono ?_
  rintro e w4 ⟨rfl, b4⟩
  replace st := st.keep b4
  clear b4 y0 y1 d0 d1 dz
  obtain ⟨d0, d1⟩ := (st.box 1 (w.heap.size + 1 + 1, [.int .i64 0, .slice none 0 0]) rfl).cell2
  have dz := (st.box 1 (w.heap.size + 1 + 1, [.int .i64 0, .slice none 0 0]) rfl).2.2
  dsimp only at d0 d1 dz
  have BE := st.box 0 (w1.heap.size, elL N (opR N f (phiN N))) rfl
  obtain ⟨x0, x1⟩ := (st.box 3 (w.heap.size, [.int .i64 (N : Int), .slice a (phiN N) c]) rfl).cell2
  obtain ⟨y0, y1⟩ := (st.box 2 (w.heap.size + 1, [.int .i64 (N : Int), .slice b (phiN N) d]) rfl).cell2
  dsimp only at x0 x1 y0 y1 BE
  go_wp2_with (first
    | (refine wpList_loadE_h (by rfl) _ rfl w1.heap.size rfl BE ?_)
    | (go_at_call 97; refine (HWI.out _).mono ?_; rintro e w5 ⟨rfl, b5⟩
       replace st := st.keep b5
       clear b5 BE x0 x1 y0 y1 d0 d1 dz
       have BE := st.box 0 (w1.heap.size, elL N (opR N f (phiN N))) rfl
       obtain ⟨d0, d1⟩ := (st.box 1 (w.heap.size + 1 + 1, [.int .i64 0, .slice none 0 0]) rfl).cell2
       have dz := (st.box 1 (w.heap.size + 1 + 1, [.int .i64 0, .slice none 0 0]) rfl).2.2
       dsimp only at d0 d1 dz BE)
    | (go_at_call 115; refine (HTO.out _).mono ?_; rintro e w6 ⟨rfl, b6⟩
       replace st := st.keep b6
       clear b6 BE d0 d1 dz
       have h60b : 60 < SM := H60.out
       obtain ⟨d0, d1⟩ := (st.box 1 (w.heap.size + 1 + 1, [.int .i64 0, .slice none 0 0]) rfl).cell2
       have dz := (st.box 1 (w.heap.size + 1 + 1, [.int .i64 0, .slice none 0 0]) rfl).2.2
       dsimp only at d0 d1 dz))
  have BB := st.1
  refine bodyPost_ret (v := failV 2) (by simp [results, Try.results52, go_sem, failV, d0, d1]) rfl ⟨rfl, by go_grown⟩
end
end

section
open Go.RowKit Go.ChangeShapes Go.Sort
set_option linter.unusedVariables false
set_option linter.unusedSimpArgs false
set_option maxRecDepth 100000
set_option maxHeartbeats 2000000

theorem step_pushR {w : World} {ops : Array Oper} {o : Oper} {a : Act} {K : Act → World → Prop} {Q : Exit → Act → World → Prop} {E : Prop} (hgd : o.guard = none) (s x : Operand)
    (ho : o.op = .call { callee := .builtin .append, args := #[s, x], argTypes := #[22, 22] })
    (base n : Nat) (v : Value) (f : Nat → Int) (hs : a.eval s = v) (hown : w.ownsRow base 2 1 v n (ints n f)) (hbase : base ≤ w.heap.size) (B : Nat) (y : Int) (hx : a.eval x = .slice (some ⟨B, 0, none⟩) 1 1)
    (hb : w.heap[B]? = some (.cells #[.int .i64 y] 2 (0, 0))) (hn : n + 1 ≤ 1048576)
    (h : ∀ g' cap' w', Row w' base g' cap' (n + 1) (fun j => if j < n then f j else y) → w.grownBy w' v.ownBlock → (v.ownBlock = some g' ∨ g' = w.heap.size) → g' < w'.heap.size → K (a.put o.dst (.slice (some ⟨g', 0, none⟩) (n + 1) cap')) w') :
    if Region.wanted o (yielded ops a.tmps) = true then Oper.wp Try.prog o a w K Q else E := by
  obtain ⟨i0, hi, hz0, hz1, hz2⟩ := info_parts Try.info2
  refine step_append_lies w hgd s x 22 ho base 2 i0 (.int .i64 0) 1 8 Try.underlying22 hi hz0 hz1 hz2 rfl (by decide) v n _ hs hown ⟨B, 0, none⟩ 1 1 [.int .i64 y] hx rfl (World.news_of_block hb) (by simp [Value.oneCell']) (by decide) (by unfold maxLen; omega) (by omega) hbase _ rfl ?_
  intro g' cap' w' h1 h2 h3 h4
  refine h g' cap' w' ?_ h2 h3 h4
  unfold Row
  rw [List.range_succ, List.map_append]
  have e1 : (List.range n).map (fun j => Value.int .i64 (if j < n then f j else y)) = ints n f := List.map_congr_left (fun j hj => by rw [if_pos (List.mem_range.1 hj)])
  rw [e1]
  simpa using h1
theorem own_lowR {w : World} {base n : Nat} {v : Value} {xs : List Value} {e : TypeId} (h : w.ownsRow base e 1 v n xs) (hb : base ≤ w.heap.size) : base ≤ v.ownBlock.getD w.heap.size := by
  rcases h.2 with ⟨rfl, _⟩ | ⟨g, cap, cur, rfl, hg, _⟩
  · exact hb
  · exact hg
theorem Frame.ofGrownR {w w' : World} {row : Option Nat} (hg : w.grownBy w' row) : Frame (row.getD w.heap.size) (row.getD w.heap.size + 1) w w' :=
  ⟨hg.os, hg.tape, hg.output, hg.size, fun k hk hne => hg.block k hk (fun e => by rw [← e] at hne; simp at hne; omega)⟩
theorem Row.keepR {w w' : World} {base g cap n lo hi : Nat} {f : Nat → Int} (h : Row w base g cap n f) (hf : Frame lo hi w w') (hd : g < lo ∨ hi ≤ g) : Row w' base g cap n f := by
  have hl := h.lt
  refine ⟨h.1, ?_⟩
  rcases h.2 with h2 | ⟨g', cap', cur, hv, hb, hh, r⟩
  · exact .inl h2
  · refine .inr ⟨g', cap', cur, hv, hb, ?_, r⟩
    cases hv
    rw [hf.block g hl.2 hd]; exact hh
theorem rg_zero (w : World) : (zeroValue 28).run Try.prog w = .ok (.agg #[.int .i64 0, .slice none 0 0]) w := by kernel_rfl
section
variable {ops : Array Oper} {rest : List Oper} {op : Oper} {a : Act} {w : World} {Q : Exit → Act → World → Prop}
theorem wpList_allocR (hgd : op.guard = none) (ho : op.op = .alloc 28)
    (h : ∀ w', Box w' w.heap.size [.int .i64 0, .slice none 0 0] → Below w.heap.size w w' → w'.heap.size = w.heap.size + 1 → wpList Try.prog ops Q rest (a.put op.dst (.pointer (some ⟨w.heap.size, 0, none⟩))) w') : wpList Try.prog ops Q (op :: rest) a w := by
  refine wpList_plain hgd fun K hK => ?_
  unfold Oper.wp execOp
  have := hK _ _ (h _ (Box.boxed w 28 _) ((Below.refl _ _).alloc (Nat.le_refl _) _) (by simp))
  simp only [ho, Instr.alloc, Sem.run_bind, Sem.run_pure, Result.andThen_ok, rg_zero, run_newVar _ _ _ (show ¬ (#[Value.int .i64 0, Value.slice none 0 0] : Array Value) = #[] from by simp)]
  exact this
theorem wpList_boxR (hgd : op.guard = none) (x : Operand) (ho : op.op = .box 28 x) {v0 v1 : Value} (hx : a.eval x = .agg #[v0, v1])
    (h : ∀ w', Box w' w.heap.size [v0, v1] → Below w.heap.size w w' → w'.heap.size = w.heap.size + 1 → wpList Try.prog ops Q rest (a.put op.dst (.pointer (some ⟨w.heap.size, 0, none⟩))) w') : wpList Try.prog ops Q (op :: rest) a w := by
  refine wpList_plain hgd fun K hK => ?_
  unfold Oper.wp execOp
  have := hK _ _ (h _ (Box.boxed w 28 _) ((Below.refl _ _).alloc (Nat.le_refl _) _) (by simp))
  simp only [ho, hx, Instr.box, Sem.run_bind, Sem.run_pure, Result.andThen_ok, run_newVar _ _ _ (show ¬ (#[v0, v1] : Array Value) = #[] from by simp)]
  exact this
theorem wpList_storeR (hgd : op.guard = none) (x y : Operand) (ho : op.op = .store 28 x y) (b : Nat) (hx : a.eval x = .pointer (some ⟨b, 0, none⟩)) {v0 v1 u0 u1 : Value} (hy : a.eval y = .agg #[v0, v1]) (h0 : v0.oneCell' = true) (h1 : v1.oneCell' = true) (hb : Box w b [u0, u1])
    (h : ∀ w', Box w' b [v0, v1] → Frame b (b + 1) w w' → wpList Try.prog ops Q rest (a.put op.dst undef) w') : wpList Try.prog ops Q (op :: rest) a w := by
  refine wpList_store_mid hgd _ x y ho b 0 #[v0, v1] hx hy (hb.there rfl) (by kernel_rfl) (all_oneCell_toArray (cs := [v0, v1]) (fun v hv => by
    simp only [List.mem_cons, List.not_mem_nil, or_false] at hv
    rcases hv with rfl | rfl
    · exact h0
    · exact h1)) ?_
  exact h _ (hb.setAll rfl) (Frame.setCells (Nat.le_refl _) (Nat.lt_succ_self _) _ 0 _ _ (Frame.refl _ _ _))
end
theorem Box.set1R {w : World} {b : Nat} {v0 v1 u : Value} (h : Box w b [v0, v1]) : Box (w.setCell ⟨b, 1, none⟩ u) b [v0, u] := by
  refine ⟨by simpa [World.setCell] using h.1, fun j v hv => ?_, fun k => (World.frozen?_setCell _ _ _ _).trans (h.2.2 k)⟩
  match j, hv with
  | 0, hv => rw [setCell_ne _ _ _ _ _ (by omega)]; exact h.2.1 0 v (by simpa using hv)
  | 1, hv => have e : u = v := by simpa using hv
             subst e; exact World.cell?_setCell_same _ _ _ (h.2.1 1 v1 rfl)
  | k + 2, hv => simp at hv
section
variable {f : Nat → Int}
theorem ringWithin_bad (n : Nat) (h2 : 2 ≤ n) (h40 : n ≤ 40) (hf : ∀ j, j < phiN n → inR (f j)) (hw : ¬ Within f (phiN n) 1000000000) (w : World) :
    Calls Try.prog 98 #[.agg (elC n (opR n f (phiN n)))] w fun e w' => e = .returned (.tuple #[.agg #[.int .i64 0, .slice none 0 0], .int .i64 3]) ∧ Below w.heap.size w w' := by
  have HIW := Lib.hid (fun w' => isWithinE_any (n : Int) (opR n f (phiN n)) (-1000000000) 1000000000 w' (fun j _ => opR_in hf j) (by unfold inR; omega) (by unfold inR; omega))
  have hb : inC (opR n f (phiN n)) (-1000000000) 1000000000 = false := by
    cases hb : inC (opR n f (phiN n)) (-1000000000) 1000000000 with
    | false => rfl
    | true => rw [opW_iff h2 h40] at hb; exact absurd hb hw
  rw [hb] at HIW
  clear hb hw hf
  obtain ⟨F, hF⟩ : ∃ F, opR n f (phiN n) = F := ⟨_, rfl⟩
  rw [hF] at HIW ⊢
  clear hF
  go_enter Try.func98, Try.ntmps98
  go_wp2_with (first
    | (refine wpList_boxE rfl _ rfl (m := n) (F := F) rfl ?_; intro w1 x1 b1 z1
       have st := ((St.start w).keep b1).addBox _ _ x1
       have Z1 := Lib.hid z1
       clear x1 b1 z1)
    | ((fail_if_success (have _g := Z2)); refine wpList_allocR rfl rfl ?_; intro w2' x2 b2 z2
       replace st := (st.keep b2).addBox _ _ x2
       have Z2 := Lib.hid z2
       have BX := st.box 1 (w.heap.size, elL n F) rfl
       dsimp only at BX
       clear x2 b2 z2)
    | (refine wpList_loadE rfl _ rfl w.heap.size rfl BX ?_)
    | (go_at_call 97; refine (HIW.out _).mono ?_; rintro e w2 ⟨rfl, b2⟩
       have Z3 := Lib.hid b2.size
       replace st := st.keep b2
       have BR := st.box 0 (w1.heap.size, [.int .i64 0, .slice none 0 0]) rfl
       have cx := (st.box 1 (w.heap.size, elL n F) rfl).mod
       dsimp only at BR cx
       clear b2 BX)
    | (refine wpList_storeR rfl _ _ rfl w1.heap.size rfl (v0 := .int .i64 0) (v1 := .slice none 0 0) rfl rfl rfl BR ?_; intro w5 x5 f5
       obtain ⟨d0, d1⟩ := x5.cell2))
  refine bodyPost_ret (v := .tuple #[.agg #[.int .i64 0, .slice none 0 0], .int .i64 3]) (by simp [results, Try.results98, go_sem, d0, d1]) rfl ⟨rfl, ?_⟩
  exact st.1.trans (f5.below (by have := Z1.out; omega) st.1.size)
theorem ringWithin_ok (n : Nat) (h2 : 2 ≤ n) (h40 : n ≤ 40) (hw : Within f (phiN n) 1000000000) (w : World) :
    Calls Try.prog 98 #[.agg (elC n (opR n f (phiN n)))] w fun e w' => ∃ a k, e = .returned (.tuple #[.agg #[.int .i64 (n : Int), .slice a (phiN n) k], .int .i64 0]) ∧ Sl true w' w.heap.size w'.heap.size (.slice a (phiN n) k) (phiN n) f ∧ Below w.heap.size w w' := by
  have hp := phi_le40 n (by omega)
  have HAT := Lib.hid (fun k (hk : k < phiN n) => opR_at (n := n) (by omega) h2 (f := f) (L := phiN n) (Nat.le_refl _) hk)
  have HIW := Lib.hid (fun w' => isWithinE_any (n : Int) (opR n f (phiN n)) (-1000000000) 1000000000 w' (fun j _ => opR_in (fun i hi => by have := hw i hi; unfold inR; omega) j) (by unfold inR; omega) (by unfold inR; omega))
  have hb : inC (opR n f (phiN n)) (-1000000000) 1000000000 = true := by rw [opW_iff h2 h40]; exact hw
  rw [hb] at HIW
  have HW := Lib.hid hw
  clear hb hw
  obtain ⟨F, hF⟩ : ∃ F, opR n f (phiN n) = F := ⟨_, rfl⟩
  rw [hF] at HIW HAT ⊢
  clear hF
  go_enter Try.func98, Try.ntmps98
  go_wp2_with (first
    | (refine wpList_boxE rfl _ rfl (m := n) (F := F) rfl ?_; intro w1 x1 b1 z1
       have st := ((St.start w).keep b1).addBox _ _ x1
       have Z1 := Lib.hid z1
       clear x1 b1 z1)
    | ((fail_if_success (have _g := Z2)); refine wpList_allocR rfl rfl ?_; intro w2' x2 b2 z2
       replace st := (st.keep b2).addBox _ _ x2
       have Z2 := Lib.hid z2
       have BX := st.box 1 (w.heap.size, elL n F) rfl
       dsimp only at BX
       clear x2 b2 z2)
    | (refine wpList_loadE rfl _ rfl w.heap.size rfl BX ?_)
    | (go_at_call 97; refine (HIW.out _).mono ?_; rintro e w2 ⟨rfl, b2⟩
       have Z3 := Lib.hid b2.size
       replace st := st.keep b2
       have BR := st.box 0 (w1.heap.size, [.int .i64 0, .slice none 0 0]) rfl
       have cx := (st.box 1 (w.heap.size, elL n F) rfl).mod
       dsimp only at BR cx
       clear b2 BX)
    | (refine wpList_allocR rfl rfl ?_; intro w4 x4 b4 z4
       replace st := (st.keep b4).addBox _ _ x4
       have Z4 := Lib.hid z4
       have B4 := st.box 0 (w2.heap.size, [.int .i64 0, .slice none 0 0]) rfl
       dsimp only at B4
       clear x4 b4 z4 BR cx)
    | (refine wpList_storeR rfl _ _ rfl w2.heap.size rfl (v0 := .int .i64 (n : Int)) (v1 := .slice none 0 0) rfl rfl rfl B4 ?_; intro w5 x5 f5
       have sz := Lib.hid (show w.heap.size < w1.heap.size ∧ w1.heap.size < w2.heap.size ∧ w2.heap.size < w5.heap.size from by have := Z1.out; have := Z2.out; have := Z3.out; have := Z4.out; have := f5.size; omega)
       replace st := st.headR x5 f5 (by have := sz.out; omega) (by have := sz.out; intro q hq; simp only [List.mem_cons, List.not_mem_nil, or_false] at hq; rcases hq with rfl | rfl <;> dsimp only <;> omega) (by intro s hs; cases hs)
       clear B4 x5 f5
       have cx := (st.box 2 (w.heap.size, elL n F) rfl).mod
       dsimp only at cx)
    | (go_at_call 118; refine (residuesOf40 n (by omega) h40 _).mono ?_; rintro e w6 ⟨gr, kr, rfl, s6, b6⟩
       have sz6 := Lib.hid (show w5.heap.size ≤ w6.heap.size from b6.size)
       replace st := (st.keep b6).addSl ⟨true, w5.heap.size, w6.heap.size, .slice (some ⟨gr, 0, none⟩) (phiN n) kr, phiN n, fun k => (res n k : Int)⟩ s6
       clear s6 b6))
  have HO0 : w6.ownsRow w6.heap.size 2 1 (.slice none 0 0) 0 (ints 0 f) := ⟨by simp [ints], .inl ⟨rfl, rfl⟩⟩
  go_loopw [18] (fun s18 wr => ∃ (k : Nat) (aq : Option Addr) (kq : Nat), k ≤ phiN n ∧ s18 = .int .i64 (k : Int) ∧ wr.ownsRow w6.heap.size 2 1 (.slice aq k kq) k (ints k f) ∧ St w wr [(w2.heap.size, [.int .i64 (n : Int), .slice aq k kq]), (w1.heap.size, [.int .i64 0, .slice none 0 0]), (w.heap.size, elL n F)] [⟨true, w5.heap.size, w6.heap.size, .slice (some ⟨gr, 0, none⟩) (phiN n) kr, phiN n, fun k => (res n k : Int)⟩]) (fun s18 _ => phiN n - (intOf s18).toNat)
  case atStart => exact ⟨0, none, 0, by omega, rfl, HO0, st⟩
  case round =>
    clear st cx HO0
    obtain ⟨k, aq, kq, hk, rfl, ho, st⟩ := hrel
    have HO := Lib.hid ho
    have hsl := (st.sl 0 ⟨true, w5.heap.size, w6.heap.size, .slice (some ⟨gr, 0, none⟩) (phiN n) kr, phiN n, fun k => (res n k : Int)⟩ rfl).size
    dsimp only at hsl
    clear ho
    have q0 := (st.box 0 (w2.heap.size, [.int .i64 (n : Int), .slice aq k kq]) rfl).cell2
    have qz := (st.box 0 (w2.heap.size, [.int .i64 (n : Int), .slice aq k kq]) rfl).2.2
    have BTB := st.box 0 (w2.heap.size, [.int .i64 (n : Int), .slice aq k kq]) rfl
    have ql := (st.box 0 (w2.heap.size, [.int .i64 (n : Int), .slice aq k kq]) rfl).1
    have cl := (st.box 2 (w.heap.size, elL n F) rfl).1
    dsimp only at q0 qz ql cl
    obtain ⟨q0, q1⟩ := q0
    by_cases hlt : k < phiN n
    · have hki : (k : Int) < (phiN n : Int) := by omega
      have hrk := (st.sl 0 ⟨true, w5.heap.size, w6.heap.size, .slice (some ⟨gr, 0, none⟩) (phiN n) kr, phiN n, fun k => (res n k : Int)⟩ rfl).known (by show 0 < phiN n; omega)
      replace hrk := hrk.2.2.2.1 k hlt
      dsimp only at hrk
      rw [Nat.zero_add] at hrk
      have hra := res_lt40 (n := n) (by omega) h2 hlt
      have HATk := Lib.hid (HAT.out k hlt)
      obtain ⟨r, ha⟩ : ∃ r, res n k = r := ⟨_, rfl⟩
      rw [ha] at hra hrk HATk
      clear ha
      obtain ⟨ha1, ha2, _⟩ := hra
      have hr40 : (r : Int) < 40 := by omega
      have c0 := (st.box 2 (w.heap.size, elL n F) rfl).part (j := r) (by omega)
      dsimp only at c0
      rw [HATk.out] at c0
      go_wp2_with fail
      go_region_law (first
        | (refine step_pushR rfl (.tmp 23) (.tmp 28) rfl w6.heap.size k (.slice aq k kq) f rfl (World.ownsRow.alloc HO.out _) (by simp only [World.size_alloc, World.size_drew]; omega) wr.heap.size (f k) rfl (heap_alloc_new wr _) (by omega) ?_; intro gA kA wA rowA grA orA ltA
           have hlow := own_lowR (World.ownsRow.alloc HO.out (.cells #[.int .i64 (f k)] 2)) (by simp only [World.size_alloc]; omega)
           have frA := Frame.ofGrownR grA
           have hlo2 : w6.heap.size ≤ (Value.slice aq k kq).ownBlock.getD (wr.alloc (.cells #[.int .i64 (f k)] 2)).drew.heap.size := hlow
           generalize (Value.slice aq k kq).ownBlock.getD (wr.alloc (.cells #[.int .i64 (f k)] 2)).drew.heap.size = R at frA hlo2
           have sts := sz6.out
           have stA := (st.alloc (.cells #[.int .i64 (f k)] 2)).drew.write frA (by have := sz.out; omega) (by have := sz.out; intro b hb; simp only [List.mem_cons, List.not_mem_nil, or_false] at hb; rcases hb with rfl | rfl | rfl <;> dsimp only <;> omega) (by intro s hs'; simp only [List.mem_cons, List.not_mem_nil, or_false] at hs'; rcases hs' with rfl <;> dsimp only <;> omega)
           have bA := stA.box 0 (w2.heap.size, [.int .i64 (n : Int), .slice aq k kq]) rfl
           obtain ⟨r0, r1⟩ := bA.cell2
           have rz := bA.2.2
           dsimp only at r0 r1 rz))
      all_goals
        have F1 := (Frame.refl w2.heap.size (w2.heap.size + 1) wA).setCell (Nat.le_refl _) (Nat.lt_succ_self _) (.slice (some ⟨gA, 0, none⟩) (k + 1) kA) (p := ⟨w2.heap.size, 1, none⟩)
        have STN := Lib.hid (stA.headR (bA.set1R (u := .slice (some ⟨gA, 0, none⟩) (k + 1) kA)) F1 (by have := sz.out; omega) (by have := sz.out; intro q hq; simp only [List.mem_cons, List.not_mem_nil, or_false] at hq; rcases hq with rfl | rfl <;> dsimp only <;> omega) (by have := sz.out; have := sz6.out; intro s hs'; simp only [List.mem_cons, List.not_mem_nil, or_false] at hs'; rcases hs' with rfl <;> dsimp only <;> omega))
        have RN := Lib.hid ((Row.keepR rowA F1 (by have := rowA.lt.1; have := sz.out; have := sz6.out; omega)).congr (f' := f) (fun j hj => by
          by_cases e : j < k
          · rw [if_pos e]
          · rw [if_neg e, show j = k by omega]))
        clear stA bA r0 r1 rz rowA grA frA F1
        go_wp2
        go_roundw
        case rel => exact ⟨k + 1, some ⟨gA, 0, none⟩, kA, by omega, by go_num, RN.out, STN.out⟩
        case measure => simp [intOf] <;> omega
    · obtain rfl : k = phiN n := by omega
      have BRB := st.box 1 (w1.heap.size, [.int .i64 0, .slice none 0 0]) rfl
      dsimp only at BRB
      have HOS := Lib.hid (Sl.ofRowF HO.out (fun j hj => by have := HW.out j hj; unfold inR; omega) (by unfold maxLen; omega))
      go_wp2_with (refine wpList_storeR rfl _ _ rfl w1.heap.size rfl (v0 := .int .i64 (n : Int)) (v1 := .slice aq (phiN n) kq) rfl rfl rfl BRB ?_; intro w7 x7 f7; obtain ⟨d0, d1⟩ := x7.cell2)
      refine bodyPost_ret (v := .tuple #[.agg #[.int .i64 (n : Int), .slice aq (phiN n) kq], .int .i64 0]) (by simp [results, Try.results98, go_sem, d0, d1]) rfl ⟨aq, kq, rfl, ?_, ?_⟩
      · exact (HOS.out.keepF f7 (.inr (by have := sz.out; have := sz6.out; omega))).wide (by have := sz.out; have := sz6.out; omega) f7.size (Nat.le_refl _)
      · exact st.1.trans (f7.below (by have := sz.out; omega) st.1.size)
end
end

section
open Go.RowKit Go.ChangeShapes Go.Sort
set_option linter.unusedVariables false
set_option linter.unusedSimpArgs false
set_option maxRecDepth 100000
set_option maxHeartbeats 2000000

section
variable {o : Oper} {a : Act} {w : World} {K : Act → World → Prop} {Q : Exit → Act → World → Prop}
theorem wp_allocR (ho : o.op = .alloc 28) (h : ∀ w' b, Box w' b [.int .i64 0, .slice none 0 0] → Below w.heap.size w w' → w.heap.size ≤ b → b < w'.heap.size → w'.heap.size = b + 1 → K (a.put o.dst (.pointer (some ⟨b, 0, none⟩))) w') : o.wp Try.prog a w K Q := by
  unfold Oper.wp execOp
  have := h _ _ (Box.boxed w 28 _) ((Below.refl _ _).alloc (Nat.le_refl _) _) (Nat.le_refl _) (by simp) (by simp)
  simp only [ho, Instr.alloc, Sem.run_bind, Sem.run_pure, Result.andThen_ok, rg_zero, run_newVar _ _ _ (show ¬ (#[Value.int .i64 0, Value.slice none 0 0] : Array Value) = #[] from by simp)]
  exact this
theorem wp_storeR (x y : Operand) (ho : o.op = .store 28 x y) (b : Nat) (hx : a.eval x = .pointer (some ⟨b, 0, none⟩)) {v0 v1 u0 u1 : Value} (hy : a.eval y = .agg #[v0, v1]) (h0 : v0.oneCell' = true) (h1 : v1.oneCell' = true) (hb : Box w b [u0, u1])
    (h : ∀ w', Box w' b [v0, v1] → Frame b (b + 1) w w' → K (a.put o.dst undef) w') : o.wp Try.prog a w K Q := by
  refine wp_store_mid _ x y ho b 0 #[v0, v1] hx hy (hb.there rfl) (by kernel_rfl) (all_oneCell_toArray (cs := [v0, v1]) (fun v hv => by
    simp only [List.mem_cons, List.not_mem_nil, or_false] at hv
    rcases hv with rfl | rfl
    · exact h0
    · exact h1)) ?_
  exact h _ (hb.setAll rfl) (Frame.setCells (Nat.le_refl _) (Nat.lt_succ_self _) _ 0 _ _ (Frame.refl _ _ _))
end
theorem l10Zero_any (n : Nat) (h1 : 1 ≤ n) (h40 : n ≤ 40) (w : World) :
    Calls Try.prog 109 #[.int .i64 (n : Int)] w fun e w' => ∃ a' k', e = .returned (.agg #[.int .i64 (n : Int), .slice a' (phiN n) k']) ∧ Sl true w' w.heap.size w'.heap.size (.slice a' (phiN n) k') (phiN n) (fun _ => 0) ∧ Below w.heap.size w w' := by
  have hp := phi_le40 n (by omega)
  have HMK := Lib.hid (run_make_row' (P := Try.prog) 22 2 (.int .i64 0) 8 Try.underlying22 Try.info2 rfl .i64 .i64 (phiN n) (by omega) (by omega))
  go_enter Try.func109, Try.ntmps109
  go_wp2_with (first
    | (refine wpList_allocR rfl rfl ?_; intro w2 x2 b2 z2
       have st := ((St.start w).keep b2).addBox _ _ x2
       have Z2 := Lib.hid z2
       clear x2 b2 z2)
    | (go_at_call 112; refine (l10Residues_any n h1 h40 _).mono ?_; rintro e w3 ⟨gr, kr, rfl, s3, b3⟩
       have Z3 := Lib.hid b3.size
       replace st := (st.keep b3).alloc (.cells (madeCells #[.int .i64 0] (phiN n)) 2)
       have BR := st.box 0 (w.heap.size, [.int .i64 0, .slice none 0 0]) rfl
       dsimp only at BR
       have hmk := HMK.out
       clear b3 s3)
    | (refine wpList_storeR rfl _ _ rfl w.heap.size rfl (v0 := .int .i64 (n : Int)) (v1 := .slice (some ⟨w3.heap.size, 0, none⟩) (phiN n) (phiN n)) rfl rfl rfl BR ?_; intro w9 x9 f9
       obtain ⟨d0, d1⟩ := x9.cell2))
  have q := (Sl.made w3 (madeCells #[.int .i64 0] (phiN n)) 2 (phiN n) (phiN n) (fun _ => 0) (Nat.le_refl _) (by unfold maxLen; omega) (fun _ _ => by simp [inR]) (fun j hj => madeCells_at _ _ _ hj))
  refine bodyPost_ret (v := .agg #[.int .i64 (n : Int), .slice (some ⟨w3.heap.size, 0, none⟩) (phiN n) (phiN n)]) (by simp [results, Try.results109, go_sem, d0, d1]) rfl ⟨_, _, rfl, ?_, ?_⟩
  · refine (q.keepF f9 (.inr (by have := Z2.out; have := Z3.out; omega))).wide (by have := Z2.out; have := Z3.out; omega) ?_ (Nat.le_refl _)
    have := f9.size
    simpa using this
  · exact st.1.trans (f9.below (Nat.le_refl _) st.1.size)
theorem l10Zero_let (n : Nat) (h1 : 1 ≤ n) (h40 : n ≤ 40) (w : World) :
    Calls Try.prog 109 #[.int .i64 (n : Int)] w fun e w' => ∃ l h a' k', e = .returned (.agg #[.int .i64 (n : Int), .slice a' (phiN n) k']) ∧ Sl true w' l h (.slice a' (phiN n) k') (phiN n) (fun _ => 0) ∧ w.heap.size ≤ l ∧ h ≤ w'.heap.size ∧ Below w.heap.size w w' :=
  (l10Zero_any n h1 h40 w).mono fun e w' ⟨a, k, h1, h2, h3⟩ => ⟨_, _, a, k, h1, h2, Nat.le_refl _, Nat.le_refl _, h3⟩
theorem l10Residues_let (n : Nat) (h1 : 1 ≤ n) (h40 : n ≤ 40) (w : World) :
    Calls Try.prog 112 #[.int .i64 (n : Int)] w fun e w' => ∃ l h g k, e = .returned (.slice (some ⟨g, 0, none⟩) (phiN n) k) ∧ Sl true w' l h (.slice (some ⟨g, 0, none⟩) (phiN n) k) (phiN n) (fun k => (res n k : Int)) ∧ w.heap.size ≤ l ∧ h ≤ w'.heap.size ∧ Below w.heap.size w w' :=
  (l10Residues_any n h1 h40 w).mono fun e w' ⟨a, k, h1, h2, h3⟩ => ⟨_, _, a, k, h1, h2, Nat.le_refl _, Nat.le_refl _, h3⟩
section
variable {o : Bool} {lo hi n : Nat} {v : Value} {f : Nat → Int}
theorem TurnRing_spec_bad (x : Int) (w : World) (hs : Sl o w lo hi v n f) (h : ¬ RgP x n f) :
    Calls Try.prog 35 #[.agg #[.int .i64 x, v]] w fun e w' => e = .returned (.tuple #[.agg #[.int .i64 0, .slice none 0 0], .int .i64 1]) ∧ Below w.heap.size w w' := by
  have hm := hs.len
  unfold maxLen at hm
  obtain ⟨a, cap, rfl⟩ := hs.shape
  have hhs := hs.size
  have st := (St.start w).addSl ⟨o, lo, hi, .slice a n cap, n, f⟩ hs
  have H := Lib.hid h
  clear h hs
  go_enter Try.func35, Try.ntmps35
  go_wp2_with (first
    | (refine wpList_boxR rfl _ rfl (v0 := .int .i64 x) (v1 := .slice a n cap) rfl ?_; intro w1 x1 b1 z1
       replace st := (st.keep b1).addBox _ _ x1
       have Z1 := Lib.hid z1
       clear x1 b1 z1)
    | ((fail_if_success (have _g := Z2)); refine wpList_allocR rfl rfl ?_; intro w2 x2 b2 z2
       replace st := (st.keep b2).addBox _ _ x2
       have Z2 := Lib.hid z2
       obtain ⟨c0, c1⟩ := (st.box 1 (w.heap.size, [.int .i64 x, .slice a n cap]) rfl).cell2
       clear x2 b2 z2)
    | (go_at_call 90; refine (l10Is_no x _ (st.sl 0 ⟨o, lo, hi, .slice a n cap, n, f⟩ rfl) H.out).mono ?_; rintro e w3 ⟨rfl, b3⟩
       replace st := st.keep b3
       have BR := st.box 0 (w1.heap.size, [.int .i64 0, .slice none 0 0]) rfl
       dsimp only at BR
       clear b3 c0 c1)
    | (refine wpList_storeR rfl _ _ rfl w1.heap.size rfl (v0 := .int .i64 0) (v1 := .slice none 0 0) rfl rfl rfl BR ?_; intro w9 x9 f9
       obtain ⟨d0, d1⟩ := x9.cell2))
  refine bodyPost_ret (v := .tuple #[.agg #[.int .i64 0, .slice none 0 0], .int .i64 1]) (by simp [results, Try.results35, go_sem, d0, d1]) rfl ⟨rfl, ?_⟩
  exact st.1.trans (f9.below (by have := Z1.out; omega) st.1.size)
/-- The places of a new variable and of two slices. -/
structure Apart (B nb lo1 hi1 lo2 hi2 : Nat) : Prop where
  p0 : B < nb
  p1 : B < lo1
  p2 : B < lo2
  p3 : nb < lo1 ∨ hi1 ≤ nb
  p4 : nb < lo2 ∨ hi2 ≤ nb
  p5 : hi1 ≤ lo2
theorem TurnRing_spec_ok (N : Nat) (w : World) (hs : Sl o w lo hi v n f) (h : RgP N n f) :
    Calls Try.prog 35 #[.agg #[.int .i64 (N : Int), v]] w fun e w' => ∃ a' k', e = .returned (.tuple #[.agg #[.int .i64 (N : Int), .slice a' n k'], .int .i64 0]) ∧ Sl true w' w.heap.size w'.heap.size (.slice a' n k') n (fun j => f (ivR N j)) ∧ Below w.heap.size w w' := by
  have h2 : 2 ≤ N := by have := h.1; omega
  have h40 : N ≤ 40 := by have := h.2.1; omega
  have hn : n = phiN N := h.2.2.1
  have hp := phi_le40 N (by omega)
  have HFB := Lib.hid h.2.2.2
  have hm := hs.len
  unfold maxLen at hm
  obtain ⟨a, cap, rfl⟩ := hs.shape
  have hhs := hs.size
  have st := (St.start w).addSl ⟨o, lo, hi, .slice a n cap, n, f⟩ hs
  have H := Lib.hid h
  have HN := Lib.hid hn
  clear h hs hn
  go_enter Try.func35, Try.ntmps35
  go_wp2_with (first
    | (refine wpList_boxR rfl _ rfl (v0 := .int .i64 (N : Int)) (v1 := .slice a n cap) rfl ?_; intro w1 x1 b1 z1
       replace st := (st.keep b1).addBox _ _ x1
       have Z1 := Lib.hid z1
       clear x1 b1 z1)
    | ((fail_if_success (have _g := Z2)); refine wpList_allocR rfl rfl ?_; intro w2 x2 b2 z2
       replace st := (st.keep b2).addBox _ _ x2
       have Z2 := Lib.hid z2
       obtain ⟨c0, c1⟩ := (st.box 1 (w.heap.size, [.int .i64 (N : Int), .slice a n cap]) rfl).cell2
       clear x2 b2 z2)
    | (go_at_call 90; refine (l10Is_yes N _ (st.sl 0 ⟨o, lo, hi, .slice a n cap, n, f⟩ rfl) H.out).mono ?_; rintro e w3 ⟨rfl, b3⟩
       have Z3 := Lib.hid b3.size
       replace st := st.keep b3
       clear b3 c0 c1))
  have hz12 : w.heap.size < w1.heap.size := by have := Z1.out; omega
  go_cut [4, 5] (fun s4 s5 wx => ∃ nb lo1 hi1 a1 k1 lo2 hi2 g2 k2, s4 = .pointer (some ⟨nb, 0, none⟩) ∧ s5 = .slice (some ⟨g2, 0, none⟩) (phiN N) k2 ∧ Apart w1.heap.size nb lo1 hi1 lo2 hi2 ∧ St w wx [(nb, [.int .i64 (N : Int), .slice a1 (phiN N) k1]), (w1.heap.size, [.int .i64 0, .slice none 0 0]), (w.heap.size, [.int .i64 (N : Int), .slice a n cap])] [⟨true, lo2, hi2, .slice (some ⟨g2, 0, none⟩) (phiN N) k2, phiN N, fun k => (res N k : Int)⟩, ⟨true, lo1, hi1, .slice a1 (phiN N) k1, phiN N, fun _ => 0⟩, ⟨o, lo, hi, .slice a n cap, n, f⟩])
  case first =>
    replace st := st.drew
    have szB := st.1.size
    have szR := (st.box 0 (w1.heap.size, [.int .i64 0, .slice none 0 0]) rfl).1
    dsimp only at szR
    simp only [World.size_drew] at szB szR
    refine wp_region_held_drew (S := fun wy => St w wy [(w1.heap.size, [.int .i64 0, .slice none 0 0]), (w.heap.size, [.int .i64 (N : Int), .slice a n cap])] [⟨o, lo, hi, .slice a n cap, n, f⟩]) (by kernel_rfl) (st) (fun hHeld => ?_)
    refine wpAnyH_take (i := 0) (v := .pointer (some ⟨w.heap.size, 0, none⟩)) rfl (by kernel_rfl) (by kernel_rfl) (by kernel_rfl) (fun _ _ _ h => h) (Or.inl ⟨by rfl, ?_⟩) hHeld ?_
    · intro wy hy; go_simp
    (try simp only [Act.put, List.getElem_toArray, List.getElem_cons_zero, List.getElem_cons_succ, List.setIfInBounds_toArray, List.set_cons_zero, List.set_cons_succ])
    refine wpAnyH_take (i := 3) (v := .pointer (some ⟨w.heap.size, 0, none⟩)) rfl (by kernel_rfl) (by kernel_rfl) (by kernel_rfl) (fun _ _ _ h => h) (Or.inl ⟨by rfl, ?_⟩) hHeld ?_
    · intro wy hy; go_simp
    (try simp only [Act.put, List.getElem_toArray, List.getElem_cons_zero, List.getElem_cons_succ, List.setIfInBounds_toArray, List.set_cons_zero, List.set_cons_succ])
    refine wpAnyH_take (i := 1) (v := .int .i64 (N : Int)) rfl (by kernel_rfl) (by kernel_rfl) (by kernel_rfl) (fun _ _ _ h => h) (Or.inl ⟨by rfl, ?_⟩) hHeld ?_
    · intro wy hy; obtain ⟨c0, c1⟩ := (hy.box 1 (w.heap.size, [.int .i64 (N : Int), .slice a n cap]) rfl).cell2; go_simp
    (try simp only [Act.put, List.getElem_toArray, List.getElem_cons_zero, List.getElem_cons_succ, List.setIfInBounds_toArray, List.set_cons_zero, List.set_cons_succ])
    refine wpAnyH_take (i := 4) (v := .int .i64 (N : Int)) rfl (by kernel_rfl) (by kernel_rfl) (by kernel_rfl) (fun _ _ _ h => h) (Or.inl ⟨by rfl, ?_⟩) hHeld ?_
    · intro wy hy; obtain ⟨c0, c1⟩ := (hy.box 1 (w.heap.size, [.int .i64 (N : Int), .slice a n cap]) rfl).cell2; go_simp
    (try simp only [Act.put, List.getElem_toArray, List.getElem_cons_zero, List.getElem_cons_succ, List.setIfInBounds_toArray, List.set_cons_zero, List.set_cons_succ])
    refine wpAnyH_ready (rs := [2, 6]) (by kernel_rfl) (by simp) ?_
    refine AllReadyH.cons rfl (fun K hK => ?_) (AllReadyH.cons rfl (fun K hK => ?_) AllReadyH.nil)
    · rw [if_pos (by rfl)]
      (try simp only [List.getElem_toArray, List.getElem_cons_zero, List.getElem_cons_succ])
      go_simp
      go_at_call 109
      refine (l10Zero_let N (by omega) h40 _).mono ?_
      rintro e w6 ⟨l6, h6, a6, k6, rfl, s6, hl6, hh6, b6⟩
      try simp only [World.size_drew] at hl6
      have z6 := b6.size
      try simp only [World.size_drew] at z6
      have zz6 := Lib.hid z6
      skip
      replace st := (st.keep b6).addSl ⟨true, l6, h6, .slice a6 (phiN N) k6, phiN N, fun _ => 0⟩ s6
      try simp only [World.size_drew] at st
      clear s6
      refine hK.out _ _ (hHeld.keep b6) (fun hHeld => ?_)
      clear b6
      clear hK K
      (try simp only [Act.put, List.getElem_toArray, List.getElem_cons_zero, List.getElem_cons_succ, List.setIfInBounds_toArray, List.set_cons_zero, List.set_cons_succ])
      refine wpAnyH_ready (rs := [5, 6]) (by kernel_rfl) (by simp) ?_
      refine AllReadyH.cons rfl (fun K hK => ?_) (AllReadyH.cons rfl (fun K hK => ?_) AllReadyH.nil)
      · rw [if_pos (by rfl)]
        (try simp only [List.getElem_toArray, List.getElem_cons_zero, List.getElem_cons_succ])
        go_simp
        go_at_call 112
        refine (l10Residues_let N (by omega) h40 _).mono ?_
        rintro e w7 ⟨l7, h7, g7, k7, rfl, s7, hl7, hh7, b7⟩
        try simp only [World.size_drew] at hl7
        have z7 := b7.size
        try simp only [World.size_drew] at z7
        replace st := (st.keep b7).addSl ⟨true, l7, h7, .slice (some ⟨g7, 0, none⟩) (phiN N) k7, phiN N, fun k => (res N k : Int)⟩ s7
        clear s7
        refine hK.out _ _ (hHeld.keep b7) (fun hHeld => ?_)
        clear b7
        clear hK K
        (try simp only [Act.put, List.getElem_toArray, List.getElem_cons_zero, List.getElem_cons_succ, List.setIfInBounds_toArray, List.set_cons_zero, List.set_cons_succ])
        refine wpAnyH_ready (rs := [6]) (by kernel_rfl) (by simp) ?_
        refine AllReadyH.cons rfl (fun K hK => ?_) AllReadyH.nil
        rw [if_pos (by rfl)]
        (try simp only [List.getElem_toArray, List.getElem_cons_zero, List.getElem_cons_succ])
        refine wp_allocR rfl ?_
        intro w8 nb x8 b8 hn8 hn8' hn8''
        try simp only [World.size_drew] at hn8
        replace st := (st.keep b8).addBox _ _ x8
        refine hK.out _ _ (hHeld.keep b8) (fun hHeld => ?_)
        clear b8 x8
        clear hK K
        (try simp only [Act.put, List.getElem_toArray, List.getElem_cons_zero, List.getElem_cons_succ, List.setIfInBounds_toArray, List.set_cons_zero, List.set_cons_succ])
        refine wpAnyH_ready (rs := [7]) (by kernel_rfl) (by simp) ?_
        refine AllReadyH.cons rfl (fun K hK => ?_) AllReadyH.nil
        rw [if_pos (by rfl)]
        (try simp only [List.getElem_toArray, List.getElem_cons_zero, List.getElem_cons_succ])
        refine wp_storeR _ _ rfl nb rfl (v0 := .int .i64 (N : Int)) (v1 := .slice a6 (phiN N) k6) rfl rfl rfl (st.box 0 (nb, [.int .i64 0, .slice none 0 0]) rfl) ?_
        intro w9 x9 f9
        replace st := st.headR x9 f9 (by omega) (by intro q hq; simp only [List.mem_cons, List.not_mem_nil, or_false] at hq; rcases hq with rfl | rfl <;> dsimp only <;> omega) (by intro q hq; simp only [List.mem_cons, List.not_mem_nil, or_false] at hq; rcases hq with rfl | rfl | rfl <;> dsimp only <;> omega)
        refine hK.out _ _ (st.subR (fun b hb => List.mem_cons_of_mem _ hb) (fun s hs => List.mem_cons_of_mem _ (List.mem_cons_of_mem _ hs))) (fun hHeld => ?_)
        clear x9
        clear hK K
        (try simp only [Act.put, List.getElem_toArray, List.getElem_cons_zero, List.getElem_cons_succ, List.setIfInBounds_toArray, List.set_cons_zero, List.set_cons_succ])
        refine wpAnyH_take (i := 8) (v := .slice (some ⟨g7, 0, none⟩) (phiN N) k7) rfl (by kernel_rfl) (by kernel_rfl) (by kernel_rfl) (fun _ _ _ h => h) (Or.inl ⟨by rfl, ?_⟩) hHeld ?_
        · intro wy hy; go_simp
        (try simp only [Act.put, List.getElem_toArray, List.getElem_cons_zero, List.getElem_cons_succ, List.setIfInBounds_toArray, List.set_cons_zero, List.set_cons_succ])
        refine wpAnyH_done (by kernel_rfl) ?_ _
        go_wp2_with fail
        go_meet
        exact ⟨nb, _, _, a6, k6, _, _, g7, k7, rfl, rfl, ⟨by omega, by omega, by omega, by omega, by omega, by omega⟩, st⟩
      · rw [if_pos (by rfl)]
        (try simp only [List.getElem_toArray, List.getElem_cons_zero, List.getElem_cons_succ])
        refine wp_allocR rfl ?_
        intro w8 nb x8 b8 hn8 hn8' hn8''
        try simp only [World.size_drew] at hn8
        replace st := (st.keep b8).addBox _ _ x8
        refine hK.out _ _ (hHeld.keep b8) (fun hHeld => ?_)
        clear b8 x8
        clear hK K
        (try simp only [Act.put, List.getElem_toArray, List.getElem_cons_zero, List.getElem_cons_succ, List.setIfInBounds_toArray, List.set_cons_zero, List.set_cons_succ])
        refine wpAnyH_ready (rs := [5]) (by kernel_rfl) (by simp) ?_
        refine AllReadyH.cons rfl (fun K hK => ?_) AllReadyH.nil
        rw [if_pos (by rfl)]
        (try simp only [List.getElem_toArray, List.getElem_cons_zero, List.getElem_cons_succ])
        go_simp
        go_at_call 112
        refine (l10Residues_let N (by omega) h40 _).mono ?_
        rintro e w7 ⟨l7, h7, g7, k7, rfl, s7, hl7, hh7, b7⟩
        try simp only [World.size_drew] at hl7
        have z7 := b7.size
        try simp only [World.size_drew] at z7
        replace st := (st.keep b7).addSl ⟨true, l7, h7, .slice (some ⟨g7, 0, none⟩) (phiN N) k7, phiN N, fun k => (res N k : Int)⟩ s7
        clear s7
        refine hK.out _ _ (hHeld.keep b7) (fun hHeld => ?_)
        clear b7
        clear hK K
        (try simp only [Act.put, List.getElem_toArray, List.getElem_cons_zero, List.getElem_cons_succ, List.setIfInBounds_toArray, List.set_cons_zero, List.set_cons_succ])
        refine wpAnyH_ready (rs := [7]) (by kernel_rfl) (by simp) ?_
        refine AllReadyH.cons rfl (fun K hK => ?_) AllReadyH.nil
        rw [if_pos (by rfl)]
        (try simp only [List.getElem_toArray, List.getElem_cons_zero, List.getElem_cons_succ])
        refine wp_storeR _ _ rfl nb rfl (v0 := .int .i64 (N : Int)) (v1 := .slice a6 (phiN N) k6) rfl rfl rfl (st.box 0 (nb, [.int .i64 0, .slice none 0 0]) rfl) ?_
        intro w9 x9 f9
        replace st := st.headR x9 f9 (by omega) (by intro q hq; simp only [List.mem_cons, List.not_mem_nil, or_false] at hq; rcases hq with rfl | rfl <;> dsimp only <;> omega) (by intro q hq; simp only [List.mem_cons, List.not_mem_nil, or_false] at hq; rcases hq with rfl | rfl | rfl <;> dsimp only <;> omega)
        refine hK.out _ _ (st.subR (fun b hb => List.mem_cons_of_mem _ hb) (fun s hs => List.mem_cons_of_mem _ (List.mem_cons_of_mem _ hs))) (fun hHeld => ?_)
        clear x9
        clear hK K
        (try simp only [Act.put, List.getElem_toArray, List.getElem_cons_zero, List.getElem_cons_succ, List.setIfInBounds_toArray, List.set_cons_zero, List.set_cons_succ])
        refine wpAnyH_take (i := 8) (v := .slice (some ⟨g7, 0, none⟩) (phiN N) k7) rfl (by kernel_rfl) (by kernel_rfl) (by kernel_rfl) (fun _ _ _ h => h) (Or.inl ⟨by rfl, ?_⟩) hHeld ?_
        · intro wy hy; go_simp
        (try simp only [Act.put, List.getElem_toArray, List.getElem_cons_zero, List.getElem_cons_succ, List.setIfInBounds_toArray, List.set_cons_zero, List.set_cons_succ])
        refine wpAnyH_done (by kernel_rfl) ?_ _
        go_wp2_with fail
        go_meet
        exact ⟨nb, _, _, a6, k6, _, _, g7, k7, rfl, rfl, ⟨by omega, by omega, by omega, by omega, by omega, by omega⟩, st⟩
    · rw [if_pos (by rfl)]
      (try simp only [List.getElem_toArray, List.getElem_cons_zero, List.getElem_cons_succ])
      refine wp_allocR rfl ?_
      intro w8 nb x8 b8 hn8 hn8' hn8''
      try simp only [World.size_drew] at hn8
      replace st := (st.keep b8).addBox _ _ x8
      refine hK.out _ _ (hHeld.keep b8) (fun hHeld => ?_)
      clear b8 x8
      clear hK K
      (try simp only [Act.put, List.getElem_toArray, List.getElem_cons_zero, List.getElem_cons_succ, List.setIfInBounds_toArray, List.set_cons_zero, List.set_cons_succ])
      refine wpAnyH_ready (rs := [2]) (by kernel_rfl) (by simp) ?_
      refine AllReadyH.cons rfl (fun K hK => ?_) AllReadyH.nil
      rw [if_pos (by rfl)]
      (try simp only [List.getElem_toArray, List.getElem_cons_zero, List.getElem_cons_succ])
      go_simp
      go_at_call 109
      refine (l10Zero_let N (by omega) h40 _).mono ?_
      rintro e w6 ⟨l6, h6, a6, k6, rfl, s6, hl6, hh6, b6⟩
      try simp only [World.size_drew] at hl6
      have z6 := b6.size
      try simp only [World.size_drew] at z6
      have zz6 := Lib.hid z6
      skip
      replace st := (st.keep b6).addSl ⟨true, l6, h6, .slice a6 (phiN N) k6, phiN N, fun _ => 0⟩ s6
      try simp only [World.size_drew] at st
      clear s6
      refine hK.out _ _ (hHeld.keep b6) (fun hHeld => ?_)
      clear b6
      clear hK K
      (try simp only [Act.put, List.getElem_toArray, List.getElem_cons_zero, List.getElem_cons_succ, List.setIfInBounds_toArray, List.set_cons_zero, List.set_cons_succ])
      refine wpAnyH_ready (rs := [5]) (by kernel_rfl) (by simp) ?_
      refine AllReadyH.cons rfl (fun K hK => ?_) AllReadyH.nil
      rw [if_pos (by rfl)]
      (try simp only [List.getElem_toArray, List.getElem_cons_zero, List.getElem_cons_succ])
      go_simp
      go_at_call 112
      refine (l10Residues_let N (by omega) h40 _).mono ?_
      rintro e w7 ⟨l7, h7, g7, k7, rfl, s7, hl7, hh7, b7⟩
      try simp only [World.size_drew] at hl7
      have z7 := b7.size
      try simp only [World.size_drew] at z7
      replace st := (st.keep b7).addSl ⟨true, l7, h7, .slice (some ⟨g7, 0, none⟩) (phiN N) k7, phiN N, fun k => (res N k : Int)⟩ s7
      clear s7
      refine hK.out _ _ (hHeld.keep b7) (fun hHeld => ?_)
      clear b7
      clear hK K
      (try simp only [Act.put, List.getElem_toArray, List.getElem_cons_zero, List.getElem_cons_succ, List.setIfInBounds_toArray, List.set_cons_zero, List.set_cons_succ])
      refine wpAnyH_ready (rs := [7]) (by kernel_rfl) (by simp) ?_
      refine AllReadyH.cons rfl (fun K hK => ?_) AllReadyH.nil
      rw [if_pos (by rfl)]
      (try simp only [List.getElem_toArray, List.getElem_cons_zero, List.getElem_cons_succ])
      refine wp_storeR _ _ rfl nb rfl (v0 := .int .i64 (N : Int)) (v1 := .slice a6 (phiN N) k6) rfl rfl rfl (st.box 0 (nb, [.int .i64 0, .slice none 0 0]) rfl) ?_
      intro w9 x9 f9
      replace st := st.headR x9 f9 (by omega) (by intro q hq; simp only [List.mem_cons, List.not_mem_nil, or_false] at hq; rcases hq with rfl | rfl <;> dsimp only <;> omega) (by intro q hq; simp only [List.mem_cons, List.not_mem_nil, or_false] at hq; rcases hq with rfl | rfl | rfl <;> dsimp only <;> omega)
      refine hK.out _ _ (st.subR (fun b hb => List.mem_cons_of_mem _ hb) (fun s hs => List.mem_cons_of_mem _ (List.mem_cons_of_mem _ hs))) (fun hHeld => ?_)
      clear x9
      clear hK K
      (try simp only [Act.put, List.getElem_toArray, List.getElem_cons_zero, List.getElem_cons_succ, List.setIfInBounds_toArray, List.set_cons_zero, List.set_cons_succ])
      refine wpAnyH_take (i := 8) (v := .slice (some ⟨g7, 0, none⟩) (phiN N) k7) rfl (by kernel_rfl) (by kernel_rfl) (by kernel_rfl) (fun _ _ _ h => h) (Or.inl ⟨by rfl, ?_⟩) hHeld ?_
      · intro wy hy; go_simp
      (try simp only [Act.put, List.getElem_toArray, List.getElem_cons_zero, List.getElem_cons_succ, List.setIfInBounds_toArray, List.set_cons_zero, List.set_cons_succ])
      refine wpAnyH_done (by kernel_rfl) ?_ _
      go_wp2_with fail
      go_meet
      exact ⟨nb, _, _, a6, k6, _, _, g7, k7, rfl, rfl, ⟨by omega, by omega, by omega, by omega, by omega, by omega⟩, st⟩
  case rest =>
    obtain ⟨nb, lo1, hi1, a1, k1, lo2, hi2, g2, k2, rfl, rfl, hap, st2⟩ := hcut
    clear st
    have st := st2
    clear st2
    have hp0 := phi_pos40 N (by omega) (by omega)
    have q1 := st.sl 1 ⟨true, lo1, hi1, .slice a1 (phiN N) k1, phiN N, fun _ => 0⟩ rfl
    dsimp only at q1
    obtain ⟨g1, o1, c1', hv1, hg1, hg1', _⟩ := q1.at (by omega)
    obtain ⟨rfl, rfl⟩ : a1 = some ⟨g1, o1, none⟩ ∧ k1 = c1' := by cases hv1; exact ⟨rfl, rfl⟩
    clear hv1 q1
    have qa := st.sl 2 ⟨o, lo, hi, .slice a n cap, n, f⟩ rfl
    dsimp only at qa
    obtain ⟨b, off, c2', hv2, _⟩ := qa.at (by have := HN.out; omega)
    obtain ⟨rfl, rfl⟩ : a = some ⟨b, off, none⟩ ∧ cap = c2' := by cases hv2; exact ⟨rfl, rfl⟩
    clear hv2 qa
    replace st := st.subR (bs' := [(nb, [.int .i64 (N : Int), .slice (some ⟨g1, o1, none⟩) (phiN N) k1]), (w1.heap.size, [.int .i64 0, .slice none 0 0]), (w.heap.size, [.int .i64 (N : Int), .slice (some ⟨b, off, none⟩) n cap])]) (ss' := [⟨true, lo1, hi1, .slice (some ⟨g1, o1, none⟩) (phiN N) k1, phiN N, fun _ => 0⟩, ⟨true, lo2, hi2, .slice (some ⟨g2, 0, none⟩) (phiN N) k2, phiN N, fun k => (res N k : Int)⟩, ⟨o, lo, hi, .slice (some ⟨b, off, none⟩) n cap, n, f⟩]) (fun _ h => h) (by intro q hq; simp only [List.mem_cons, List.not_mem_nil, or_false] at hq ⊢; rcases hq with rfl | rfl | rfl <;> simp)
    have HAP := Lib.hid hap
    clear hap
    go_wp2_with fail
    go_loopw [6] (fun s6 wr => ∃ k : Nat, k ≤ phiN N ∧ s6 = .int .i64 (k : Int) ∧ St w wr [(nb, [.int .i64 (N : Int), .slice (some ⟨g1, o1, none⟩) (phiN N) k1]), (w1.heap.size, [.int .i64 0, .slice none 0 0]), (w.heap.size, [.int .i64 (N : Int), .slice (some ⟨b, off, none⟩) n cap])] [⟨true, lo1, hi1, .slice (some ⟨g1, o1, none⟩) (phiN N) k1, phiN N, fun j => if j < k then f (ivR N j) else 0⟩, ⟨true, lo2, hi2, .slice (some ⟨g2, 0, none⟩) (phiN N) k2, phiN N, fun k => (res N k : Int)⟩, ⟨o, lo, hi, .slice (some ⟨b, off, none⟩) n cap, n, f⟩]) (fun s6 _ => phiN N - (intOf s6).toNat)
    case atStart =>
      refine ⟨0, by omega, rfl, ?_⟩
      refine (st.subR (bs' := [(nb, [.int .i64 (N : Int), .slice (some ⟨g1, o1, none⟩) (phiN N) k1]), (w1.heap.size, [.int .i64 0, .slice none 0 0]), (w.heap.size, [.int .i64 (N : Int), .slice (some ⟨b, off, none⟩) n cap])]) (ss' := [⟨true, lo2, hi2, .slice (some ⟨g2, 0, none⟩) (phiN N) k2, phiN N, fun k => (res N k : Int)⟩, ⟨o, lo, hi, .slice (some ⟨b, off, none⟩) n cap, n, f⟩]) (fun _ h => h) (fun _ h => List.mem_cons_of_mem _ h)).addSl ⟨true, lo1, hi1, .slice (some ⟨g1, o1, none⟩) (phiN N) k1, phiN N, fun j => if j < 0 then f (ivR N j) else 0⟩ ((st.sl 0 ⟨true, lo1, hi1, .slice (some ⟨g1, o1, none⟩) (phiN N) k1, phiN N, fun _ => 0⟩ rfl).congr (fun j hj => by dsimp only; rw [if_neg (by omega)]))
    case round =>
      clear st
      obtain ⟨k, hk, rfl, st⟩ := hrel
      by_cases hlt : k < phiN N
      · have hki : (k : Int) < (phiN N : Int) := by omega
        have hi := iv_ok (n := N) (by omega) h2 hlt
        have HII := Lib.hid (iv_iv (n := N) (by omega) h2 hlt)
        have HINV := Lib.hid (show ∀ w' : World, Calls Try.prog 114 #[.int .i64 (N : Int), .int .i64 (res N k : Int)] w' fun e w'' => e = .returned (.int .i64 (invR N (res N k) : Int)) ∧ Below w'.heap.size w' w'' from fun w' => (l10Inverse_any N k h2 h40 hlt w').mono fun _ _ ⟨he, m, hw⟩ => ⟨he, hw ▸ below_drewN (Below.refl _ _) m⟩)
        rw [← hi.2] at HINV
        have HPL := Lib.hid (fun (w' : World) (hs : Sl true w' lo2 hi2 (.slice (some ⟨g2, 0, none⟩) (phiN N) k2) (phiN N) (fun k => (res N k : Int))) => l10Place_any N (ivR N k) h2 h40 hi.1 w' hs)
        have hiv := hi.1
        have HRL := Lib.hid (res_lt40 (n := N) (by omega) h2 hi.1).2.1
        have HRK := Lib.hid (res_lt40 (n := N) (by omega) h2 hlt).2.1
        have HIV := Lib.hid (fun j (hj : j < phiN N) => iv_iv (n := N) (by omega) h2 hj)
        have HIB := Lib.hid (fun j (hj : j < phiN N) => (iv_ok (n := N) (by omega) h2 hj).1)
        clear hi
        obtain ⟨p, hpv⟩ : ∃ p, ivR N k = p := ⟨_, rfl⟩
        rw [hpv] at HINV HPL hiv HRL HII
        have HPV := Lib.hid hpv
        clear hpv
        obtain ⟨r, hrv⟩ : ∃ r, res N k = r := ⟨_, rfl⟩
        rw [hrv] at HINV HRK
        have HRV := Lib.hid hrv
        clear hrv
        have hpi : (p : Int) < (phiN N : Int) := by omega
        have hpn : (p : Int) < (n : Int) := by have := HN.out; omega
        go_wp2_with fail
        replace st := st.drew
        refine wp_region_held_drew (S := fun wy => St w wy [(nb, [.int .i64 (N : Int), .slice (some ⟨g1, o1, none⟩) (phiN N) k1]), (w1.heap.size, [.int .i64 0, .slice none 0 0]), (w.heap.size, [.int .i64 (N : Int), .slice (some ⟨b, off, none⟩) n cap])] [⟨true, lo2, hi2, .slice (some ⟨g2, 0, none⟩) (phiN N) k2, phiN N, fun k => (res N k : Int)⟩, ⟨o, lo, hi, .slice (some ⟨b, off, none⟩) n cap, n, f⟩]) (by kernel_rfl) (st.subR (fun _ h => h) (fun _ h => List.mem_cons_of_mem _ h)) (fun hHeld => ?_)
        refine wpAnyH_take (i := 0) (v := .pointer (some ⟨nb, 1, none⟩)) rfl (by kernel_rfl) (by kernel_rfl) (by kernel_rfl) (fun _ _ _ h => h) (Or.inl ⟨by rfl, ?_⟩) hHeld ?_
        · intro wy hy; go_simp
        (try simp only [Act.put, List.getElem_toArray, List.getElem_cons_zero, List.getElem_cons_succ, List.setIfInBounds_toArray, List.set_cons_zero, List.set_cons_succ])
        refine wpAnyH_take (i := 1) (v := .slice (some ⟨g1, o1, none⟩) (phiN N) k1) rfl (by kernel_rfl) (by kernel_rfl) (by kernel_rfl) (fun _ _ _ h => h) (Or.inl ⟨by rfl, ?_⟩) hHeld ?_
        · intro wy hy; obtain ⟨c0, c1⟩ := (hy.box 0 (nb, [.int .i64 (N : Int), .slice (some ⟨g1, o1, none⟩) (phiN N) k1]) rfl).cell2; go_simp
        (try simp only [Act.put, List.getElem_toArray, List.getElem_cons_zero, List.getElem_cons_succ, List.setIfInBounds_toArray, List.set_cons_zero, List.set_cons_succ])
        refine wpAnyH_take (i := 2) (v := .int .i64 (k : Int)) rfl (by kernel_rfl) (by kernel_rfl) (by kernel_rfl) (fun _ _ _ h => h) (Or.inl ⟨by rfl, ?_⟩) hHeld ?_
        · intro wy hy; go_simp
        (try simp only [Act.put, List.getElem_toArray, List.getElem_cons_zero, List.getElem_cons_succ, List.setIfInBounds_toArray, List.set_cons_zero, List.set_cons_succ])
        refine wpAnyH_take (i := 3) (v := .pointer (some ⟨w.heap.size, 1, none⟩)) rfl (by kernel_rfl) (by kernel_rfl) (by kernel_rfl) (fun _ _ _ h => h) (Or.inl ⟨by rfl, ?_⟩) hHeld ?_
        · intro wy hy; go_simp
        (try simp only [Act.put, List.getElem_toArray, List.getElem_cons_zero, List.getElem_cons_succ, List.setIfInBounds_toArray, List.set_cons_zero, List.set_cons_succ])
        refine wpAnyH_take (i := 4) (v := .slice (some ⟨b, off, none⟩) n cap) rfl (by kernel_rfl) (by kernel_rfl) (by kernel_rfl) (fun _ _ _ h => h) (Or.inl ⟨by rfl, ?_⟩) hHeld ?_
        · intro wy hy; obtain ⟨c0, c1⟩ := (hy.box 2 (w.heap.size, [.int .i64 (N : Int), .slice (some ⟨b, off, none⟩) n cap]) rfl).cell2; go_simp
        (try simp only [Act.put, List.getElem_toArray, List.getElem_cons_zero, List.getElem_cons_succ, List.setIfInBounds_toArray, List.set_cons_zero, List.set_cons_succ])
        refine wpAnyH_take (i := 5) (v := .slice (some ⟨g2, 0, none⟩) (phiN N) k2) rfl (by kernel_rfl) (by kernel_rfl) (by kernel_rfl) (fun _ _ _ h => h) (Or.inl ⟨by rfl, ?_⟩) hHeld ?_
        · intro wy hy; go_simp
        (try simp only [Act.put, List.getElem_toArray, List.getElem_cons_zero, List.getElem_cons_succ, List.setIfInBounds_toArray, List.set_cons_zero, List.set_cons_succ])
        refine wpAnyH_take (i := 6) (v := .pointer (some ⟨w.heap.size, 0, none⟩)) rfl (by kernel_rfl) (by kernel_rfl) (by kernel_rfl) (fun _ _ _ h => h) (Or.inl ⟨by rfl, ?_⟩) hHeld ?_
        · intro wy hy; go_simp
        (try simp only [Act.put, List.getElem_toArray, List.getElem_cons_zero, List.getElem_cons_succ, List.setIfInBounds_toArray, List.set_cons_zero, List.set_cons_succ])
        refine wpAnyH_take (i := 7) (v := .int .i64 (N : Int)) rfl (by kernel_rfl) (by kernel_rfl) (by kernel_rfl) (fun _ _ _ h => h) (Or.inl ⟨by rfl, ?_⟩) hHeld ?_
        · intro wy hy; obtain ⟨c0, c1⟩ := (hy.box 2 (w.heap.size, [.int .i64 (N : Int), .slice (some ⟨b, off, none⟩) n cap]) rfl).cell2; go_simp
        (try simp only [Act.put, List.getElem_toArray, List.getElem_cons_zero, List.getElem_cons_succ, List.setIfInBounds_toArray, List.set_cons_zero, List.set_cons_succ])
        refine wpAnyH_take (i := 8) (v := .slice (some ⟨g2, 0, none⟩) (phiN N) k2) rfl (by kernel_rfl) (by kernel_rfl) (by kernel_rfl) (fun _ _ _ h => h) (Or.inl ⟨by rfl, ?_⟩) hHeld ?_
        · intro wy hy; go_simp
        (try simp only [Act.put, List.getElem_toArray, List.getElem_cons_zero, List.getElem_cons_succ, List.setIfInBounds_toArray, List.set_cons_zero, List.set_cons_succ])
        refine wpAnyH_take (i := 9) (v := .int .i64 (k : Int)) rfl (by kernel_rfl) (by kernel_rfl) (by kernel_rfl) (fun _ _ _ h => h) (Or.inl ⟨by rfl, ?_⟩) hHeld ?_
        · intro wy hy; go_simp
        (try simp only [Act.put, List.getElem_toArray, List.getElem_cons_zero, List.getElem_cons_succ, List.setIfInBounds_toArray, List.set_cons_zero, List.set_cons_succ])
        refine wpAnyH_take (i := 10) (v := .pointer (some ⟨g2, k, none⟩)) rfl (by kernel_rfl) (by kernel_rfl) (by kernel_rfl) (fun _ _ _ h => h) (Or.inl ⟨by rfl, ?_⟩) hHeld ?_
        · intro wy hy; go_simp
        (try simp only [Act.put, List.getElem_toArray, List.getElem_cons_zero, List.getElem_cons_succ, List.setIfInBounds_toArray, List.set_cons_zero, List.set_cons_succ])
        refine wpAnyH_take (i := 11) (v := .int .i64 (r : Int)) rfl (by kernel_rfl) (by kernel_rfl) (by kernel_rfl) (fun _ _ _ h => h) (Or.inl ⟨by rfl, ?_⟩) hHeld ?_
        · intro wy hy; have hc := (hy.sl 0 ⟨true, lo2, hi2, .slice (some ⟨g2, 0, none⟩) (phiN N) k2, phiN N, fun k => (res N k : Int)⟩ rfl).known (by show 0 < phiN N; omega); replace hc := hc.2.2.2.1 k hlt; (try dsimp only at hc); rw [Nat.zero_add, HRV.out] at hc; go_simp
        (try simp only [Act.put, List.getElem_toArray, List.getElem_cons_zero, List.getElem_cons_succ, List.setIfInBounds_toArray, List.set_cons_zero, List.set_cons_succ])
        refine wpAnyH_ready (rs := [12]) (by kernel_rfl) (by simp) ?_
        refine AllReadyH.cons rfl (fun K hK => ?_) AllReadyH.nil
        rw [if_pos (by rfl)]
        (try simp only [List.getElem_toArray, List.getElem_cons_zero, List.getElem_cons_succ])
        go_simp
        go_at_call 114
        refine (HINV.out _).mono ?_
        rintro e w6 ⟨rfl, b6⟩
        replace st := st.keep b6
        refine hK.out _ _ (hHeld.keep b6) (fun hHeld => ?_)
        clear b6
        clear hK K
        (try simp only [Act.put, List.getElem_toArray, List.getElem_cons_zero, List.getElem_cons_succ, List.setIfInBounds_toArray, List.set_cons_zero, List.set_cons_succ])
        refine wpAnyH_ready (rs := [13]) (by kernel_rfl) (by simp) ?_
        refine AllReadyH.cons rfl (fun K hK => ?_) AllReadyH.nil
        rw [if_pos (by rfl)]
        (try simp only [List.getElem_toArray, List.getElem_cons_zero, List.getElem_cons_succ])
        go_simp
        go_at_call 113
        refine (HPL.out _ (hHeld.sl 0 ⟨true, lo2, hi2, .slice (some ⟨g2, 0, none⟩) (phiN N) k2, phiN N, fun k => (res N k : Int)⟩ rfl)).mono ?_
        rintro e w7 ⟨rfl, rfl⟩
        refine hK.out _ _ hHeld (fun hHeld => ?_)
        clear hK K
        (try simp only [Act.put, List.getElem_toArray, List.getElem_cons_zero, List.getElem_cons_succ, List.setIfInBounds_toArray, List.set_cons_zero, List.set_cons_succ])
        refine wpAnyH_take (i := 14) (v := .pointer (some ⟨b, off + p, none⟩)) rfl (by kernel_rfl) (by kernel_rfl) (by kernel_rfl) (fun _ _ _ h => h) (Or.inl ⟨by rfl, ?_⟩) hHeld ?_
        · intro wy hy; go_simp
        (try simp only [Act.put, List.getElem_toArray, List.getElem_cons_zero, List.getElem_cons_succ, List.setIfInBounds_toArray, List.set_cons_zero, List.set_cons_succ])
        refine wpAnyH_take (i := 15) (v := .int .i64 (f p)) rfl (by kernel_rfl) (by kernel_rfl) (by kernel_rfl) (fun _ _ _ h => h) (Or.inl ⟨by rfl, ?_⟩) hHeld ?_
        · intro wy hy; have hc := (hy.sl 1 ⟨o, lo, hi, .slice (some ⟨b, off, none⟩) n cap, n, f⟩ rfl).known (by show 0 < n; omega); replace hc := hc.2.2.2.1 p (by have := HN.out; omega); (try dsimp only at hc); go_simp
        (try simp only [Act.put, List.getElem_toArray, List.getElem_cons_zero, List.getElem_cons_succ, List.setIfInBounds_toArray, List.set_cons_zero, List.set_cons_succ])
        refine wpAnyH_take (i := 16) (v := .pointer (some ⟨g1, o1 + k, none⟩)) rfl (by kernel_rfl) (by kernel_rfl) (by kernel_rfl) (fun _ _ _ h => h) (Or.inl ⟨by rfl, ?_⟩) hHeld ?_
        · intro wy hy; go_simp
        (try simp only [Act.put, List.getElem_toArray, List.getElem_cons_zero, List.getElem_cons_succ, List.setIfInBounds_toArray, List.set_cons_zero, List.set_cons_succ])
        refine wpAnyH_ready (rs := [17]) (by kernel_rfl) (by simp) ?_
        refine AllReadyH.cons rfl (fun K hK => ?_) AllReadyH.nil
        rw [if_pos (by rfl)]
        (try simp only [List.getElem_toArray, List.getElem_cons_zero, List.getElem_cons_succ])
        have hc := (st.sl 0 ⟨true, lo1, hi1, .slice (some ⟨g1, o1, none⟩) (phiN N) k1, phiN N, fun j => if j < k then f (ivR N j) else 0⟩ rfl).known (by show 0 < phiN N; omega)
        have hfz := hc.2.2.2.2 rfl
        replace hc := hc.2.2.2.1 k (by omega)
        dsimp only at hc hfz
        go_simp
        refine hK.out _ _ ?_ (fun hHeld => ?_)
        · have ⟨p0, p1, p2, p3, p4, p5⟩ := HAP.out
          exact hHeld.write ((Frame.refl lo1 hi1 _).setCell (p := ⟨g1, o1 + k, none⟩) hg1 hg1' (.int .i64 (f p))) (by omega) (by intro q hq; simp only [List.mem_cons, List.not_mem_nil, or_false] at hq; rcases hq with rfl | rfl | rfl <;> dsimp only <;> omega) (by intro q hq; simp only [List.mem_cons, List.not_mem_nil, or_false] at hq; rcases hq with rfl | rfl <;> dsimp only <;> omega)
        clear hK K
        (try simp only [Act.put, List.getElem_toArray, List.getElem_cons_zero, List.getElem_cons_succ, List.setIfInBounds_toArray, List.set_cons_zero, List.set_cons_succ])
        refine wpAnyH_done (by kernel_rfl) ?_ _
        go_wp2
        go_roundw
        case rel =>
          refine ⟨k + 1, by omega, by go_num, ?_⟩
          have q := st.sl 0 ⟨true, lo1, hi1, .slice (some ⟨g1, o1, none⟩) (phiN N) k1, phiN N, fun j => if j < k then f (ivR N j) else 0⟩ rfl
          dsimp only at q
          have qs := q.store (i := k) (x := f p) (by omega) (by have := HFB.out p (by have := HN.out; omega); unfold inR; omega)
          have hap := HAP.out
          have ⟨p0, p1, p2, p3, p4, p5⟩ := hap
          refine (((st.subR (bs' := [(nb, [.int .i64 (N : Int), .slice (some ⟨g1, o1, none⟩) (phiN N) k1]), (w1.heap.size, [.int .i64 0, .slice none 0 0]), (w.heap.size, [.int .i64 (N : Int), .slice (some ⟨b, off, none⟩) n cap])]) (ss' := [⟨true, lo2, hi2, .slice (some ⟨g2, 0, none⟩) (phiN N) k2, phiN N, fun k => (res N k : Int)⟩, ⟨o, lo, hi, .slice (some ⟨b, off, none⟩) n cap, n, f⟩]) (fun _ h => h) (fun _ h => List.mem_cons_of_mem _ h)).write ((Frame.refl lo1 hi1 _).setCell (p := ⟨g1, o1 + k, none⟩) hg1 hg1' (.int .i64 (f p))) (by omega) (by intro q hq; simp only [List.mem_cons, List.not_mem_nil, or_false] at hq; rcases hq with rfl | rfl | rfl <;> dsimp only <;> omega) (by intro q hq; simp only [List.mem_cons, List.not_mem_nil, or_false] at hq; rcases hq with rfl | rfl <;> dsimp only <;> omega))).addSl ⟨true, lo1, hi1, .slice (some ⟨g1, o1, none⟩) (phiN N) k1, phiN N, fun j => if j < (k + 1) then f (ivR N j) else 0⟩ (qs.congr (fun j hj => by
            dsimp only
            by_cases e : j = k
            · subst e; rw [if_pos rfl, if_pos (by omega), HPV.out]
            · rw [if_neg e]; by_cases e2 : j < k
              · rw [if_pos e2, if_pos (by omega)]
              · rw [if_neg e2, if_neg (by omega)]))
        case measure => simp [intOf] <;> omega
      · obtain rfl : k = phiN N := by omega
        have BR := st.box 1 (w1.heap.size, [.int .i64 0, .slice none 0 0]) rfl
        obtain ⟨c0, c1⟩ := (st.box 0 (nb, [.int .i64 (N : Int), .slice (some ⟨g1, o1, none⟩) (phiN N) k1]) rfl).cell2
        dsimp only at BR c0 c1
        have q := st.sl 0 ⟨true, lo1, hi1, .slice (some ⟨g1, o1, none⟩) (phiN N) k1, phiN N, fun j => if j < (phiN N) then f (ivR N j) else 0⟩ rfl
        dsimp only at q
        have ⟨p0, p1, p2, p3, p4, p5⟩ := HAP.out
        go_wp2_with (first
          | (refine wpList_storeR rfl _ _ rfl w1.heap.size rfl (v0 := .int .i64 (N : Int)) (v1 := .slice (some ⟨g1, o1, none⟩) (phiN N) k1) rfl rfl rfl BR ?_; intro w9 x9 f9
             obtain ⟨d0, d1⟩ := x9.cell2))
        refine bodyPost_ret (v := .tuple #[.agg #[.int .i64 (N : Int), .slice (some ⟨g1, o1, none⟩) (phiN N) k1], .int .i64 0]) (by simp [results, Try.results35, go_sem, d0, d1]) rfl ?_
        rw [HN.out]
        refine ⟨some ⟨g1, o1, none⟩, k1, rfl, ?_, ?_⟩
        · refine (((q.congr (fun j hj => by (try dsimp only); rw [if_pos hj])).keepF f9 (.inr (by omega))).wide (by omega) ?_ (Nat.le_refl _))
          have := q.size
          have := f9.size
          omega
        · exact st.1.trans (f9.below (by omega) st.1.size)
end
end

section
open Go.RowKit Go.ChangeShapes Go.Sort
set_option linter.unusedVariables false
set_option linter.unusedSimpArgs false

section
variable {o : Bool} {lo hi L : Nat} {v : Value} {f : Nat → Int}
theorem l01One_any (n : Nat) (w : World) (h1 : 1 ≤ n) (h2 : n ≤ 16) :
    Calls Try.prog 129 #[.int .i64 (n : Int)] w fun e w' => ∃ a cap, e = .returned (.agg #[.int .i64 (n : Int), .slice a (phiN n) cap]) ∧ Sl true w' w.heap.size w'.heap.size (.slice a (phiN n) cap) (phiN n) (redP n (unit (powIx n 0))) ∧ Below w.heap.size w w' := by
  have st0 := (St.start w).boxNew (.int .i64 0) (.slice none 0 0) 24
  go_enter Try.func129, Try.ntmps129
  go_wp2_with fail
  refine (l01Unit_any n 0 _ h1 h2).mono ?_
  rintro e w1 ⟨a1, k1, rfl, s1, b1⟩
  have st1 := st0.keep b1
  have hz1 := b1.size
  simp only [World.size_alloc] at hz1
  have S1 := Lib.hid s1
  clear st0 b1 s1
  obtain ⟨d0, d1⟩ := (st1.box 0 _ rfl).cell2
  have dz := (st1.box 0 _ rfl).2.2
  have BB := st1.1
  dsimp only at dz
  go_wp2
  refine bodyPost_ret (v := .agg #[.int .i64 (n : Int), .slice a1 (phiN n) k1]) (by simp [results, Try.results129, go_sem, d0, d1]) rfl ?_
  refine ⟨_, _, rfl, ?_, by go_grown⟩
  exact ((S1.out.setOther (.inl (by show w.heap.size < _; simp)) _).setOther (.inl (by show w.heap.size < _; simp)) _).wide (by simp) (by simp) (Nat.le_refl _)

end
end

section
open Go.RowKit Go.ChangeShapes Go.Sort
set_option linter.unusedVariables false
set_option linter.unusedSimpArgs false

theorem powIx_zero : ∀ n, n < 17 → 1 ≤ n → powIx n 0 = 0 := by decide +kernel
theorem one_red {n : Nat} (hn : n < 17) (h1 : 1 ≤ n) {j : Nat} (hj : j < phiN n) : redP n (unit (powIx n 0)) j = one0 j := by
  have hp := phi_le12 n (by omega) h1
  have e : redZ n (unit 0) j = one0 j := by
    rw [tb_eq hn h1 (by omega) hj, tab_unit n hn h1 0 (phi_pos n hn h1) j hj]
    unfold one0
    by_cases h : j = 0
    · rw [if_pos h, if_pos h.symm]
    · rw [if_neg h, if_neg (fun h' => h h'.symm)]
  rw [powIx_zero n hn h1, redP_exact hn h1 (P' := unit 0) (fun k _ => (wrap_inR (by unfold unit inR; split <;> omega)).symm) (by omega) (by rw [e]; unfold one0 inR; split <;> omega), e]

section
variable {o : Bool} {lo hi L : Nat} {v : Value} {f : Nat → Int}
end
end

section
open Go.RowKit Go.ChangeShapes Go.Sort
set_option linter.unusedVariables false
set_option linter.unusedSimpArgs false
set_option maxRecDepth 100000
set_option maxHeartbeats 4000000
theorem cy_zero (w : World) : (zeroValue 24).run Try.prog w = .ok (.agg #[.int .i64 0, .slice none 0 0]) w := by kernel_rfl
section
variable {o : Oper} {a : Act} {w : World} {K : Act → World → Prop} {Q : Exit → Act → World → Prop}
theorem wp_allocC (ho : o.op = .alloc 24) (h : ∀ w' b, Box w' b [.int .i64 0, .slice none 0 0] → Below w.heap.size w w' → w.heap.size ≤ b → b < w'.heap.size → w'.heap.size = b + 1 → K (a.put o.dst (.pointer (some ⟨b, 0, none⟩))) w') : o.wp Try.prog a w K Q := by
  unfold Oper.wp execOp
  have := h _ _ (Box.boxed w 24 _) ((Below.refl _ _).alloc (Nat.le_refl _) _) (Nat.le_refl _) (by simp) (by simp)
  simp only [ho, Instr.alloc, Sem.run_bind, Sem.run_pure, Result.andThen_ok, cy_zero, run_newVar _ _ _ (show ¬ (#[Value.int .i64 0, Value.slice none 0 0] : Array Value) = #[] from by simp)]
  exact this
theorem wp_storeC (x y : Operand) (ho : o.op = .store 24 x y) (b : Nat) (hx : a.eval x = .pointer (some ⟨b, 0, none⟩)) {v0 v1 u0 u1 : Value} (hy : a.eval y = .agg #[v0, v1]) (h0 : v0.oneCell' = true) (h1 : v1.oneCell' = true) (hb : Box w b [u0, u1])
    (h : ∀ w', Box w' b [v0, v1] → Frame b (b + 1) w w' → K (a.put o.dst undef) w') : o.wp Try.prog a w K Q := by
  refine wp_store_mid _ x y ho b 0 #[v0, v1] hx hy (hb.there rfl) (by kernel_rfl) (all_oneCell_toArray (cs := [v0, v1]) (fun v hv => by
    simp only [List.mem_cons, List.not_mem_nil, or_false] at hv
    rcases hv with rfl | rfl
    · exact h0
    · exact h1)) ?_
  exact h _ (hb.setAll rfl) (Frame.setCells (Nat.le_refl _) (Nat.lt_succ_self _) _ 0 _ _ (Frame.refl _ _ _))
end
theorem l01One_let (n : Nat) (h1 : 1 ≤ n) (h2 : n ≤ 16) (w : World) :
    Calls Try.prog 129 #[.int .i64 (n : Int)] w fun e w' => ∃ l h a k, e = .returned (.agg #[.int .i64 (n : Int), .slice a (phiN n) k]) ∧ Sl true w' l h (.slice a (phiN n) k) (phiN n) one0 ∧ w.heap.size ≤ l ∧ h ≤ w'.heap.size ∧ Below w.heap.size w w' :=
  (l01One_any n w h1 h2).mono fun e w' ⟨a, k, h3, h4, h5⟩ => ⟨_, _, a, k, h3, h4.congr (fun j hj => (one_red (by omega) h1 hj).symm), Nat.le_refl _, Nat.le_refl _, h5⟩
theorem l01Galois_let (n R : Nat) (h1 : 1 ≤ n) (h2 : n ≤ 16) (hR : R ≤ 16) (w : World) {o : Bool} {lo hi L : Nat} {v : Value} {g : Nat → Int} (hs : Sl o w lo hi v L g) (hL : L ≤ 24) :
    Calls Try.prog 130 #[.agg #[.int .i64 (n : Int), v], .int .i64 (R : Int)] w fun e w' => ∃ l h a k, e = .returned (.agg #[.int .i64 (n : Int), .slice a (phiN n) k]) ∧ Sl true w' l h (.slice a (phiN n) k) (phiN n) (imgP n R L g) ∧ w.heap.size ≤ l ∧ h ≤ w'.heap.size ∧ Below w.heap.size w w' :=
  (l01Galois_any n (R : Int) h1 h2 (by omega) (by omega) w hs hL).mono fun e w' ⟨a, k, h3, h4, h5⟩ => ⟨_, _, a, k, h3, by rw [← fold_nat h1]; exact h4, Nat.le_refl _, Nat.le_refl _, h5⟩
/-- The least of 0 and the first k numbers. -/
def lsN (f : Nat → Int) : Nat → Int
  | 0 => 0
  | k + 1 => min (lsN f k) (f k)
theorem lsN_pos {f : Nat → Int} : ∀ {k : Nat}, (∀ j, j < k → 0 ≤ f j) → lsN f k = 0
  | 0, _ => rfl
  | k + 1, h => by
    show min (lsN f k) (f k) = 0
    rw [lsN_pos (fun j hj => h j (by omega))]
    have := h k (by omega)
    omega
section
variable {o o' : Bool} {lo hi lo' hi' n m c d : Nat} {a b : Option Addr} {f g : Nat → Int}
theorem ActOnCyclo_spec_prod (N : Nat) (w : World) (hs : Sl o w lo hi (.slice a n c) n f) (ht : Sl o' w lo' hi' (.slice b m d) m g) (h : RgP N n f) (h' : CyP N m g) (hpos : ∀ j, j < phiN N → 0 ≤ f j) (h60 : sumN (phiN N) f ≤ 60) :
    Calls Try.prog 53 #[.agg #[.int .i64 (N : Int), .slice a n c], .agg #[.int .i64 (N : Int), .slice b m d]] w fun e w' => ((prGok N (acG N f g) 0 (cntA f (phiN N)) ∧ ∃ a' k', e = .returned (.tuple #[.agg #[.int .i64 (N : Int), .slice a' (phiN N) k'], .int .i64 0]) ∧ Sl true w' w.heap.size w'.heap.size (.slice a' (phiN N) k') (phiN N) (prG N (acG N f g) 0 (cntA f (phiN N)))) ∨ (¬ prGok N (acG N f g) 0 (cntA f (phiN N)) ∧ e = .returned (failV 3))) ∧ Below w.heap.size w w' := by
  have h2 : 2 ≤ N := by have := h.1; omega
  have h16 : N ≤ 16 := by have := h'.2.1; omega
  have h40 : N ≤ 40 := by omega
  have hp := phi_le12 N h16 (by omega)
  have hp0 := phi_pos40 N (by omega) (by omega)
  obtain rfl : m = phiN N := h'.2.2.1
  obtain rfl : n = phiN N := h.2.2.1
  have HFW := Lib.hid (show Within f (phiN N) 1000000000 from h.2.2.2)
  have HWG := Lib.hid (show Within g (phiN N) 1000000000 from h'.2.2.2)
  have HSB := Lib.hid (fun k (hk : k ≤ phiN N) => sumN_bd (B := 1000000000) (F := f) (by omega) k (fun i hi => (show Within f (phiN N) 1000000000 from h.2.2.2) i (by omega)))
  have HLS := Lib.hid (fun k (hk : k ≤ phiN N) => lsN_pos (f := f) (k := k) (fun j hj => hpos j (by omega)))
  have HCN := Lib.hid (cntA_sum hpos)
  have HPOS := Lib.hid hpos
  have H := Lib.hid h
  have H' := Lib.hid h'
  have HRL := Lib.hid (fun j (hj : j < phiN N) => res_lt40 (n := N) (by omega) h2 hj)
  have H60 := Lib.hid h60
  clear h h' hpos h60
  have hhs := hs.size
  have hht := ht.size
  have st := ((((St.start w).addSl ⟨o', lo', hi', .slice b (phiN N) d, phiN N, g⟩ ht).addSl ⟨o, lo, hi, .slice a (phiN N) c, phiN N, f⟩ hs).alloc (.cells #[.int .i64 (N : Int), .slice a (phiN N) c] 28)).addBox w.heap.size [.int .i64 (N : Int), .slice a (phiN N) c] (Box.made _ _ _ _ (fun j v h => by simpa using h))
  replace st := (st.alloc (.cells #[.int .i64 (N : Int), .slice b (phiN N) d] 24)).addBox _ [.int .i64 (N : Int), .slice b (phiN N) d] (Box.made _ _ _ _ (fun j v h => by simpa using h))
  replace st := (st.alloc (.cells #[.int .i64 0, .slice none 0 0] 24)).addBox _ [.int .i64 0, .slice none 0 0] (Box.made _ _ _ _ (fun j v h => by simpa using h))
  simp only [World.size_alloc] at st
  clear hs ht
  obtain ⟨r0, r1⟩ := (st.box 2 (w.heap.size, [.int .i64 (N : Int), .slice a (phiN N) c]) rfl).cell2
  dsimp only at r0 r1
  go_enter Try.func53, Try.ntmps53
  go_wp2_with fail
  refine (l10Is_yes N _ (st.sl 0 ⟨o, lo, hi, .slice a (phiN N) c, phiN N, f⟩ rfl) H.out).mono ?_
  rintro e w1 ⟨rfl, b1⟩
  replace st := st.keep b1
  clear b1 r0 r1
  obtain ⟨y0, y1⟩ := (st.box 1 (w.heap.size + 1, [.int .i64 (N : Int), .slice b (phiN N) d]) rfl).cell2
  dsimp only at y0 y1
  go_wp2_with fail
  refine (l01Is_yes _ _ (st.sl 1 ⟨o', lo', hi', .slice b (phiN N) d, phiN N, g⟩ rfl) H'.out).mono ?_
  rintro e w2 ⟨rfl, b2⟩
  replace st := st.keep b2
  clear b2 y0 y1
  go_wp2
  go_loopw [6, 7, 8] (fun s6 s7 s8 wr => ∃ k : Nat, k ≤ phiN N ∧ s8 = .int .i64 (k : Int) ∧ s6 = .int .i64 (sumN k f) ∧ s7 = .int .i64 0 ∧ St w wr [(w.heap.size + 1 + 1, [.int .i64 0, .slice none 0 0]), (w.heap.size + 1, [.int .i64 (N : Int), .slice b (phiN N) d]), (w.heap.size, [.int .i64 (N : Int), .slice a (phiN N) c])] [⟨o, lo, hi, .slice a (phiN N) c, phiN N, f⟩, ⟨o', lo', hi', .slice b (phiN N) d, phiN N, g⟩]) (fun _ _ s8 _ => phiN N - (intOf s8).toNat)
  case atStart => exact ⟨0, Nat.zero_le _, rfl, rfl, rfl, st⟩
  case round =>
    clear st
    obtain ⟨k, hk, rfl, rfl, rfl, st⟩ := hrel
    obtain ⟨x0, x1⟩ := (st.box 2 (w.heap.size, [.int .i64 (N : Int), .slice a (phiN N) c]) rfl).cell2
    dsimp only at x0 x1
    by_cases hlt : k < phiN N
    · have hki : (k : Int) < (phiN N : Int) := by omega
      have hsl := st.sl 0 ⟨o, lo, hi, .slice a (phiN N) c, phiN N, f⟩ rfl
      dsimp only at hsl
      obtain ⟨ga, oa, ca, hva, _, _, _, _, hca, _⟩ := hsl.at (by omega)
      have hck := hca k hlt
      have hfb := HFW.out k hlt
      have hfp := HPOS.out k hlt
      have hsb := HSB.out k hk
      have hsN : sumN (k + 1) f = sumN k f + f k := rfl
      have HSN := Lib.hid hsN
      clear hsN hsl hca
      cases hva
      obtain ⟨SK, hSK⟩ : ∃ x, sumN k f = x := ⟨_, rfl⟩
      rw [hSK] at hsb HSN
      rw [hSK]
      have hb1 : (k : Int) * 1000000000 ≤ 12000000000 := by omega
      clear hSK
      obtain ⟨fk, hfk⟩ : ∃ x, f k = x := ⟨_, rfl⟩
      rw [hfk] at hck hfb hfp HSN
      clear hfk
      go_wp2
      all_goals
        go_roundw
        case rel => exact ⟨k + 1, by omega, by go_num, by rw [HSN.out], by first | rfl | (congr 1; omega), st⟩
        case measure => simp [intOf] <;> omega
    · obtain rfl : k = phiN N := by omega
      have h60b : ¬ (60 < sumN (phiN N) f) := by have := H60.out; omega
      obtain ⟨y0, y1⟩ := (st.box 1 (w.heap.size + 1, [.int .i64 (N : Int), .slice b (phiN N) d]) rfl).cell2
      dsimp only at y0 y1
      go_wp2_with fail
      go_cut [9, 10] (fun s9 s10 wx => ∃ nb lo1 hi1 a1 k1 lo2 hi2 g2 k2, s9 = .pointer (some ⟨nb, 0, none⟩) ∧ s10 = .slice (some ⟨g2, 0, none⟩) (phiN N) k2 ∧ Apart (w.heap.size + 1 + 1) nb lo1 hi1 lo2 hi2 ∧ St w wx [(nb, [.int .i64 (N : Int), .slice a1 (phiN N) k1]), (w.heap.size + 1 + 1, [.int .i64 0, .slice none 0 0]), (w.heap.size + 1, [.int .i64 (N : Int), .slice b (phiN N) d]), (w.heap.size, [.int .i64 (N : Int), .slice a (phiN N) c])] [⟨true, lo2, hi2, .slice (some ⟨g2, 0, none⟩) (phiN N) k2, phiN N, fun k => (res N k : Int)⟩, ⟨true, lo1, hi1, .slice a1 (phiN N) k1, phiN N, one0⟩, ⟨o, lo, hi, .slice a (phiN N) c, phiN N, f⟩, ⟨o', lo', hi', .slice b (phiN N) d, phiN N, g⟩])
      case first =>
        replace st := st.drew
        have szB := st.1.size
        have szR := (st.box 0 (w.heap.size + 1 + 1, [.int .i64 0, .slice none 0 0]) rfl).1
        dsimp only at szR
        simp only [World.size_drew] at szB szR
        refine wp_region_held_drew (S := fun wy => St w wy [(w.heap.size + 1 + 1, [.int .i64 0, .slice none 0 0]), (w.heap.size + 1, [.int .i64 (N : Int), .slice b (phiN N) d]), (w.heap.size, [.int .i64 (N : Int), .slice a (phiN N) c])] [⟨o, lo, hi, .slice a (phiN N) c, phiN N, f⟩, ⟨o', lo', hi', .slice b (phiN N) d, phiN N, g⟩]) (by kernel_rfl) (st) (fun hHeld => ?_)
        refine wpAnyH_take (i := 0) (v := .pointer (some ⟨w.heap.size + 1, 0, none⟩)) rfl (by kernel_rfl) (by kernel_rfl) (by kernel_rfl) (fun _ _ _ h => h) (Or.inl ⟨by rfl, ?_⟩) hHeld ?_
        · intro wy hy; go_simp
        (try simp only [Act.put, List.getElem_toArray, List.getElem_cons_zero, List.getElem_cons_succ, List.setIfInBounds_toArray, List.set_cons_zero, List.set_cons_succ])
        refine wpAnyH_take (i := 3) (v := .pointer (some ⟨w.heap.size + 1, 0, none⟩)) rfl (by kernel_rfl) (by kernel_rfl) (by kernel_rfl) (fun _ _ _ h => h) (Or.inl ⟨by rfl, ?_⟩) hHeld ?_
        · intro wy hy; go_simp
        (try simp only [Act.put, List.getElem_toArray, List.getElem_cons_zero, List.getElem_cons_succ, List.setIfInBounds_toArray, List.set_cons_zero, List.set_cons_succ])
        refine wpAnyH_take (i := 1) (v := .int .i64 (N : Int)) rfl (by kernel_rfl) (by kernel_rfl) (by kernel_rfl) (fun _ _ _ h => h) (Or.inl ⟨by rfl, ?_⟩) hHeld ?_
        · intro wy hy; obtain ⟨c0, c1⟩ := (hy.box 1 (w.heap.size + 1, [.int .i64 (N : Int), .slice b (phiN N) d]) rfl).cell2; go_simp
        (try simp only [Act.put, List.getElem_toArray, List.getElem_cons_zero, List.getElem_cons_succ, List.setIfInBounds_toArray, List.set_cons_zero, List.set_cons_succ])
        refine wpAnyH_take (i := 4) (v := .int .i64 (N : Int)) rfl (by kernel_rfl) (by kernel_rfl) (by kernel_rfl) (fun _ _ _ h => h) (Or.inl ⟨by rfl, ?_⟩) hHeld ?_
        · intro wy hy; obtain ⟨c0, c1⟩ := (hy.box 1 (w.heap.size + 1, [.int .i64 (N : Int), .slice b (phiN N) d]) rfl).cell2; go_simp
        (try simp only [Act.put, List.getElem_toArray, List.getElem_cons_zero, List.getElem_cons_succ, List.setIfInBounds_toArray, List.set_cons_zero, List.set_cons_succ])
        refine wpAnyH_ready (rs := [2, 6]) (by kernel_rfl) (by simp) ?_
        refine AllReadyH.cons rfl (fun K hK => ?_) (AllReadyH.cons rfl (fun K hK => ?_) AllReadyH.nil)
        · rw [if_pos (by rfl)]
          (try simp only [List.getElem_toArray, List.getElem_cons_zero, List.getElem_cons_succ])
          go_simp
          go_at_call 129
          refine (l01One_let N (by omega) h16 _).mono ?_
          rintro e w6 ⟨l6, h6, a6, k6, rfl, s6, hl6, hh6, b6⟩
          try simp only [World.size_drew] at hl6
          have z6 := b6.size
          try simp only [World.size_drew] at z6
          have zz6 := Lib.hid z6
          skip
          replace st := (st.keep b6).addSl ⟨true, l6, h6, .slice a6 (phiN N) k6, phiN N, one0⟩ s6
          try simp only [World.size_drew] at st
          clear s6
          refine hK.out _ _ (hHeld.keep b6) (fun hHeld => ?_)
          clear b6
          clear hK K
          (try simp only [Act.put, List.getElem_toArray, List.getElem_cons_zero, List.getElem_cons_succ, List.setIfInBounds_toArray, List.set_cons_zero, List.set_cons_succ])
          refine wpAnyH_ready (rs := [5, 6]) (by kernel_rfl) (by simp) ?_
          refine AllReadyH.cons rfl (fun K hK => ?_) (AllReadyH.cons rfl (fun K hK => ?_) AllReadyH.nil)
          · rw [if_pos (by rfl)]
            (try simp only [List.getElem_toArray, List.getElem_cons_zero, List.getElem_cons_succ])
            go_simp
            go_at_call 112
            refine (l10Residues_let N (by omega) h40 _).mono ?_
            rintro e w7 ⟨l7, h7, g7, k7, rfl, s7, hl7, hh7, b7⟩
            try simp only [World.size_drew] at hl7
            have z7 := b7.size
            try simp only [World.size_drew] at z7
            replace st := (st.keep b7).addSl ⟨true, l7, h7, .slice (some ⟨g7, 0, none⟩) (phiN N) k7, phiN N, fun k => (res N k : Int)⟩ s7
            clear s7
            refine hK.out _ _ (hHeld.keep b7) (fun hHeld => ?_)
            clear b7
            clear hK K
            (try simp only [Act.put, List.getElem_toArray, List.getElem_cons_zero, List.getElem_cons_succ, List.setIfInBounds_toArray, List.set_cons_zero, List.set_cons_succ])
            refine wpAnyH_ready (rs := [6]) (by kernel_rfl) (by simp) ?_
            refine AllReadyH.cons rfl (fun K hK => ?_) AllReadyH.nil
            rw [if_pos (by rfl)]
            (try simp only [List.getElem_toArray, List.getElem_cons_zero, List.getElem_cons_succ])
            refine wp_allocC rfl ?_
            intro w8 nb x8 b8 hn8 hn8' hn8''
            try simp only [World.size_drew] at hn8
            replace st := (st.keep b8).addBox _ _ x8
            refine hK.out _ _ (hHeld.keep b8) (fun hHeld => ?_)
            clear b8 x8
            clear hK K
            (try simp only [Act.put, List.getElem_toArray, List.getElem_cons_zero, List.getElem_cons_succ, List.setIfInBounds_toArray, List.set_cons_zero, List.set_cons_succ])
            refine wpAnyH_ready (rs := [7]) (by kernel_rfl) (by simp) ?_
            refine AllReadyH.cons rfl (fun K hK => ?_) AllReadyH.nil
            rw [if_pos (by rfl)]
            (try simp only [List.getElem_toArray, List.getElem_cons_zero, List.getElem_cons_succ])
            refine wp_storeC _ _ rfl nb rfl (v0 := .int .i64 (N : Int)) (v1 := .slice a6 (phiN N) k6) rfl rfl rfl (st.box 0 (nb, [.int .i64 0, .slice none 0 0]) rfl) ?_
            intro w9 x9 f9
            replace st := st.headR x9 f9 (by omega) (by intro q hq; simp only [List.mem_cons, List.not_mem_nil, or_false] at hq; rcases hq with rfl | rfl | rfl <;> dsimp only <;> omega) (by intro q hq; simp only [List.mem_cons, List.not_mem_nil, or_false] at hq; rcases hq with rfl | rfl | rfl | rfl <;> dsimp only <;> omega)
            refine hK.out _ _ (st.subR (fun b hb => List.mem_cons_of_mem _ hb) (fun s hs => List.mem_cons_of_mem _ (List.mem_cons_of_mem _ hs))) (fun hHeld => ?_)
            clear x9
            clear hK K
            (try simp only [Act.put, List.getElem_toArray, List.getElem_cons_zero, List.getElem_cons_succ, List.setIfInBounds_toArray, List.set_cons_zero, List.set_cons_succ])
            refine wpAnyH_take (i := 8) (v := .slice (some ⟨g7, 0, none⟩) (phiN N) k7) rfl (by kernel_rfl) (by kernel_rfl) (by kernel_rfl) (fun _ _ _ h => h) (Or.inl ⟨by rfl, ?_⟩) hHeld ?_
            · intro wy hy; go_simp
            (try simp only [Act.put, List.getElem_toArray, List.getElem_cons_zero, List.getElem_cons_succ, List.setIfInBounds_toArray, List.set_cons_zero, List.set_cons_succ])
            refine wpAnyH_done (by kernel_rfl) ?_ _
            go_wp2_with fail
            go_meet
            exact ⟨nb, _, _, a6, k6, _, _, g7, k7, rfl, rfl, ⟨by omega, by omega, by omega, by omega, by omega, by omega⟩, st⟩
          · rw [if_pos (by rfl)]
            (try simp only [List.getElem_toArray, List.getElem_cons_zero, List.getElem_cons_succ])
            refine wp_allocC rfl ?_
            intro w8 nb x8 b8 hn8 hn8' hn8''
            try simp only [World.size_drew] at hn8
            replace st := (st.keep b8).addBox _ _ x8
            refine hK.out _ _ (hHeld.keep b8) (fun hHeld => ?_)
            clear b8 x8
            clear hK K
            (try simp only [Act.put, List.getElem_toArray, List.getElem_cons_zero, List.getElem_cons_succ, List.setIfInBounds_toArray, List.set_cons_zero, List.set_cons_succ])
            refine wpAnyH_ready (rs := [5]) (by kernel_rfl) (by simp) ?_
            refine AllReadyH.cons rfl (fun K hK => ?_) AllReadyH.nil
            rw [if_pos (by rfl)]
            (try simp only [List.getElem_toArray, List.getElem_cons_zero, List.getElem_cons_succ])
            go_simp
            go_at_call 112
            refine (l10Residues_let N (by omega) h40 _).mono ?_
            rintro e w7 ⟨l7, h7, g7, k7, rfl, s7, hl7, hh7, b7⟩
            try simp only [World.size_drew] at hl7
            have z7 := b7.size
            try simp only [World.size_drew] at z7
            replace st := (st.keep b7).addSl ⟨true, l7, h7, .slice (some ⟨g7, 0, none⟩) (phiN N) k7, phiN N, fun k => (res N k : Int)⟩ s7
            clear s7
            refine hK.out _ _ (hHeld.keep b7) (fun hHeld => ?_)
            clear b7
            clear hK K
            (try simp only [Act.put, List.getElem_toArray, List.getElem_cons_zero, List.getElem_cons_succ, List.setIfInBounds_toArray, List.set_cons_zero, List.set_cons_succ])
            refine wpAnyH_ready (rs := [7]) (by kernel_rfl) (by simp) ?_
            refine AllReadyH.cons rfl (fun K hK => ?_) AllReadyH.nil
            rw [if_pos (by rfl)]
            (try simp only [List.getElem_toArray, List.getElem_cons_zero, List.getElem_cons_succ])
            refine wp_storeC _ _ rfl nb rfl (v0 := .int .i64 (N : Int)) (v1 := .slice a6 (phiN N) k6) rfl rfl rfl (st.box 0 (nb, [.int .i64 0, .slice none 0 0]) rfl) ?_
            intro w9 x9 f9
            replace st := st.headR x9 f9 (by omega) (by intro q hq; simp only [List.mem_cons, List.not_mem_nil, or_false] at hq; rcases hq with rfl | rfl | rfl <;> dsimp only <;> omega) (by intro q hq; simp only [List.mem_cons, List.not_mem_nil, or_false] at hq; rcases hq with rfl | rfl | rfl | rfl <;> dsimp only <;> omega)
            refine hK.out _ _ (st.subR (fun b hb => List.mem_cons_of_mem _ hb) (fun s hs => List.mem_cons_of_mem _ (List.mem_cons_of_mem _ hs))) (fun hHeld => ?_)
            clear x9
            clear hK K
            (try simp only [Act.put, List.getElem_toArray, List.getElem_cons_zero, List.getElem_cons_succ, List.setIfInBounds_toArray, List.set_cons_zero, List.set_cons_succ])
            refine wpAnyH_take (i := 8) (v := .slice (some ⟨g7, 0, none⟩) (phiN N) k7) rfl (by kernel_rfl) (by kernel_rfl) (by kernel_rfl) (fun _ _ _ h => h) (Or.inl ⟨by rfl, ?_⟩) hHeld ?_
            · intro wy hy; go_simp
            (try simp only [Act.put, List.getElem_toArray, List.getElem_cons_zero, List.getElem_cons_succ, List.setIfInBounds_toArray, List.set_cons_zero, List.set_cons_succ])
            refine wpAnyH_done (by kernel_rfl) ?_ _
            go_wp2_with fail
            go_meet
            exact ⟨nb, _, _, a6, k6, _, _, g7, k7, rfl, rfl, ⟨by omega, by omega, by omega, by omega, by omega, by omega⟩, st⟩
        · rw [if_pos (by rfl)]
          (try simp only [List.getElem_toArray, List.getElem_cons_zero, List.getElem_cons_succ])
          refine wp_allocC rfl ?_
          intro w8 nb x8 b8 hn8 hn8' hn8''
          try simp only [World.size_drew] at hn8
          replace st := (st.keep b8).addBox _ _ x8
          refine hK.out _ _ (hHeld.keep b8) (fun hHeld => ?_)
          clear b8 x8
          clear hK K
          (try simp only [Act.put, List.getElem_toArray, List.getElem_cons_zero, List.getElem_cons_succ, List.setIfInBounds_toArray, List.set_cons_zero, List.set_cons_succ])
          refine wpAnyH_ready (rs := [2]) (by kernel_rfl) (by simp) ?_
          refine AllReadyH.cons rfl (fun K hK => ?_) AllReadyH.nil
          rw [if_pos (by rfl)]
          (try simp only [List.getElem_toArray, List.getElem_cons_zero, List.getElem_cons_succ])
          go_simp
          go_at_call 129
          refine (l01One_let N (by omega) h16 _).mono ?_
          rintro e w6 ⟨l6, h6, a6, k6, rfl, s6, hl6, hh6, b6⟩
          try simp only [World.size_drew] at hl6
          have z6 := b6.size
          try simp only [World.size_drew] at z6
          have zz6 := Lib.hid z6
          skip
          replace st := (st.keep b6).addSl ⟨true, l6, h6, .slice a6 (phiN N) k6, phiN N, one0⟩ s6
          try simp only [World.size_drew] at st
          clear s6
          refine hK.out _ _ (hHeld.keep b6) (fun hHeld => ?_)
          clear b6
          clear hK K
          (try simp only [Act.put, List.getElem_toArray, List.getElem_cons_zero, List.getElem_cons_succ, List.setIfInBounds_toArray, List.set_cons_zero, List.set_cons_succ])
          refine wpAnyH_ready (rs := [5]) (by kernel_rfl) (by simp) ?_
          refine AllReadyH.cons rfl (fun K hK => ?_) AllReadyH.nil
          rw [if_pos (by rfl)]
          (try simp only [List.getElem_toArray, List.getElem_cons_zero, List.getElem_cons_succ])
          go_simp
          go_at_call 112
          refine (l10Residues_let N (by omega) h40 _).mono ?_
          rintro e w7 ⟨l7, h7, g7, k7, rfl, s7, hl7, hh7, b7⟩
          try simp only [World.size_drew] at hl7
          have z7 := b7.size
          try simp only [World.size_drew] at z7
          replace st := (st.keep b7).addSl ⟨true, l7, h7, .slice (some ⟨g7, 0, none⟩) (phiN N) k7, phiN N, fun k => (res N k : Int)⟩ s7
          clear s7
          refine hK.out _ _ (hHeld.keep b7) (fun hHeld => ?_)
          clear b7
          clear hK K
          (try simp only [Act.put, List.getElem_toArray, List.getElem_cons_zero, List.getElem_cons_succ, List.setIfInBounds_toArray, List.set_cons_zero, List.set_cons_succ])
          refine wpAnyH_ready (rs := [7]) (by kernel_rfl) (by simp) ?_
          refine AllReadyH.cons rfl (fun K hK => ?_) AllReadyH.nil
          rw [if_pos (by rfl)]
          (try simp only [List.getElem_toArray, List.getElem_cons_zero, List.getElem_cons_succ])
          refine wp_storeC _ _ rfl nb rfl (v0 := .int .i64 (N : Int)) (v1 := .slice a6 (phiN N) k6) rfl rfl rfl (st.box 0 (nb, [.int .i64 0, .slice none 0 0]) rfl) ?_
          intro w9 x9 f9
          replace st := st.headR x9 f9 (by omega) (by intro q hq; simp only [List.mem_cons, List.not_mem_nil, or_false] at hq; rcases hq with rfl | rfl | rfl <;> dsimp only <;> omega) (by intro q hq; simp only [List.mem_cons, List.not_mem_nil, or_false] at hq; rcases hq with rfl | rfl | rfl | rfl <;> dsimp only <;> omega)
          refine hK.out _ _ (st.subR (fun b hb => List.mem_cons_of_mem _ hb) (fun s hs => List.mem_cons_of_mem _ (List.mem_cons_of_mem _ hs))) (fun hHeld => ?_)
          clear x9
          clear hK K
          (try simp only [Act.put, List.getElem_toArray, List.getElem_cons_zero, List.getElem_cons_succ, List.setIfInBounds_toArray, List.set_cons_zero, List.set_cons_succ])
          refine wpAnyH_take (i := 8) (v := .slice (some ⟨g7, 0, none⟩) (phiN N) k7) rfl (by kernel_rfl) (by kernel_rfl) (by kernel_rfl) (fun _ _ _ h => h) (Or.inl ⟨by rfl, ?_⟩) hHeld ?_
          · intro wy hy; go_simp
          (try simp only [Act.put, List.getElem_toArray, List.getElem_cons_zero, List.getElem_cons_succ, List.setIfInBounds_toArray, List.set_cons_zero, List.set_cons_succ])
          refine wpAnyH_done (by kernel_rfl) ?_ _
          go_wp2_with fail
          go_meet
          exact ⟨nb, _, _, a6, k6, _, _, g7, k7, rfl, rfl, ⟨by omega, by omega, by omega, by omega, by omega, by omega⟩, st⟩
      case rest =>
        obtain ⟨nb, lo1, hi1, a1, k1, lo2, hi2, g2, k2, rfl, rfl, hap, st2⟩ := hcut
        clear st
        have st := st2
        clear st2
        have HAP := Lib.hid (show w.heap.size + 1 + 1 < nb ∧ (nb < lo2 ∨ hi2 ≤ nb) from ⟨hap.p0, hap.p4⟩)
        have HOW := Lib.hid (show w.heap.size + 1 + 1 < lo1 ∧ (nb < lo1 ∨ hi1 ≤ nb) from ⟨hap.p1, hap.p3⟩)
        clear hap
        go_wp2
        go_loopw [11] (fun s11 wr => ∃ (k lo9 hi9 : Nat) (a9 : Option Addr) (k9 : Nat), k ≤ phiN N ∧ s11 = .int .i64 (k : Int) ∧ prGok N (acG N f g) 0 (cntA f k) ∧ (w.heap.size + 1 + 1 < lo9 ∧ (nb < lo9 ∨ hi9 ≤ nb)) ∧ St w wr [(nb, [.int .i64 (N : Int), .slice a9 (phiN N) k9]), (w.heap.size + 1 + 1, [.int .i64 0, .slice none 0 0]), (w.heap.size + 1, [.int .i64 (N : Int), .slice b (phiN N) d]), (w.heap.size, [.int .i64 (N : Int), .slice a (phiN N) c])] [⟨true, lo2, hi2, .slice (some ⟨g2, 0, none⟩) (phiN N) k2, phiN N, fun k => (res N k : Int)⟩, ⟨true, lo9, hi9, .slice a9 (phiN N) k9, phiN N, prG N (acG N f g) 0 (cntA f k)⟩, ⟨o, lo, hi, .slice a (phiN N) c, phiN N, f⟩, ⟨o', lo', hi', .slice b (phiN N) d, phiN N, g⟩]) (fun s11 _ => phiN N - (intOf s11).toNat)
        case atStart => exact ⟨0, lo1, hi1, a1, k1, Nat.zero_le _, rfl, prGok_zero _ _ _, HOW.out, st.subR (fun _ h => h) (fun _ h => h)⟩
        case round =>
          clear st
          obtain ⟨k, lo9, hi9, a9, k9, hk, rfl, hok, ho9, st⟩ := hrel
          have HOK := Lib.hid hok
          have HO9 := Lib.hid ho9
          clear hok ho9
          by_cases hlt : k < phiN N
          · have hki : (k : Int) < (phiN N : Int) := by omega
            have hra := res_ok N (by omega) (by omega) k hlt
            have hrl := HRL.out k hlt
            have HGW := Lib.hid (show Within (imgP N (res N k) (phiN N) g) (phiN N) 12000000000 from im_big (by omega) (by omega) HWG.out (by omega) k)
            have HIMA := Lib.hid (fun j (hj : j < phiN N) => show imgP N (res N k) (phiN N) g j = imA N (phiN N) g k j from by unfold imA cut im; rw [if_pos hj])
            obtain ⟨R, hR⟩ : ∃ R, res N k = R := ⟨_, rfl⟩
            have HRV := Lib.hid hR
            rw [hR] at hra hrl HIMA HGW
            clear hR
            go_wp2_with fail
            go_cut [12] (fun s12 wx => ∃ bt lot hit aT kT, s12 = .pointer (some ⟨bt, 0, none⟩) ∧ nb < bt ∧ (bt < lo9 ∨ hi9 ≤ bt) ∧ (nb < lot ∨ hit ≤ nb) ∧ (bt < lot ∨ hit ≤ bt) ∧ St w wx [(bt, [.int .i64 (N : Int), .slice aT (phiN N) kT]), (nb, [.int .i64 (N : Int), .slice a9 (phiN N) k9]), (w.heap.size + 1 + 1, [.int .i64 0, .slice none 0 0]), (w.heap.size + 1, [.int .i64 (N : Int), .slice b (phiN N) d]), (w.heap.size, [.int .i64 (N : Int), .slice a (phiN N) c])] [⟨true, lot, hit, .slice aT (phiN N) kT, phiN N, imgP N R (phiN N) g⟩, ⟨true, lo2, hi2, .slice (some ⟨g2, 0, none⟩) (phiN N) k2, phiN N, fun k => (res N k : Int)⟩, ⟨true, lo9, hi9, .slice a9 (phiN N) k9, phiN N, prG N (acG N f g) 0 (cntA f k)⟩, ⟨o, lo, hi, .slice a (phiN N) c, phiN N, f⟩, ⟨o', lo', hi', .slice b (phiN N) d, phiN N, g⟩])
            case first =>
              replace st := st.drew
              have szB := st.1.size
              have szN := (st.box 0 (nb, [.int .i64 (N : Int), .slice a9 (phiN N) k9]) rfl).1
              have szS := (st.sl 1 ⟨true, lo9, hi9, .slice a9 (phiN N) k9, phiN N, prG N (acG N f g) 0 (cntA f k)⟩ rfl).size
              have szZ := (st.box 1 (w.heap.size + 1 + 1, [.int .i64 0, .slice none 0 0]) rfl).1
              have szT := (st.sl 0 ⟨true, lo2, hi2, .slice (some ⟨g2, 0, none⟩) (phiN N) k2, phiN N, fun k => (res N k : Int)⟩ rfl).size
              dsimp only at szN szS szZ szT
              simp only [World.size_drew] at szB szN szS szZ szT
              have ⟨p0, p1⟩ := HAP.out
              have ⟨p2, p3⟩ := HO9.out
              refine wp_region_held_drew (S := fun wy => St w wy [(nb, [.int .i64 (N : Int), .slice a9 (phiN N) k9]), (w.heap.size + 1 + 1, [.int .i64 0, .slice none 0 0]), (w.heap.size + 1, [.int .i64 (N : Int), .slice b (phiN N) d]), (w.heap.size, [.int .i64 (N : Int), .slice a (phiN N) c])] [⟨true, lo2, hi2, .slice (some ⟨g2, 0, none⟩) (phiN N) k2, phiN N, fun k => (res N k : Int)⟩, ⟨true, lo9, hi9, .slice a9 (phiN N) k9, phiN N, prG N (acG N f g) 0 (cntA f k)⟩, ⟨o, lo, hi, .slice a (phiN N) c, phiN N, f⟩, ⟨o', lo', hi', .slice b (phiN N) d, phiN N, g⟩]) (by kernel_rfl) (st) (fun hHeld => ?_)
              refine wpAnyH_take (i := 0) (v := .agg #[.int .i64 (N : Int), .slice b (phiN N) d]) rfl (by kernel_rfl) (by kernel_rfl) (by kernel_rfl) (fun _ _ _ h => h) (Or.inl ⟨by rfl, ?_⟩) hHeld ?_
              · intro wy hy; obtain ⟨y0, y1⟩ := (hy.box 2 (w.heap.size + 1, [.int .i64 (N : Int), .slice b (phiN N) d]) rfl).cell2; go_simp
              (try simp only [Act.put, List.getElem_toArray, List.getElem_cons_zero, List.getElem_cons_succ, List.setIfInBounds_toArray, List.set_cons_zero, List.set_cons_succ])
              refine wpAnyH_take (i := 1) (v := .slice (some ⟨g2, 0, none⟩) (phiN N) k2) rfl (by kernel_rfl) (by kernel_rfl) (by kernel_rfl) (fun _ _ _ h => h) (Or.inl ⟨by rfl, ?_⟩) hHeld ?_
              · intro wy hy; go_simp
              (try simp only [Act.put, List.getElem_toArray, List.getElem_cons_zero, List.getElem_cons_succ, List.setIfInBounds_toArray, List.set_cons_zero, List.set_cons_succ])
              refine wpAnyH_take (i := 2) (v := .int .i64 (k : Int)) rfl (by kernel_rfl) (by kernel_rfl) (by kernel_rfl) (fun _ _ _ h => h) (Or.inl ⟨by rfl, ?_⟩) hHeld ?_
              · intro wy hy; go_simp
              (try simp only [Act.put, List.getElem_toArray, List.getElem_cons_zero, List.getElem_cons_succ, List.setIfInBounds_toArray, List.set_cons_zero, List.set_cons_succ])
              refine wpAnyH_take (i := 3) (v := .pointer (some ⟨g2, k, none⟩)) rfl (by kernel_rfl) (by kernel_rfl) (by kernel_rfl) (fun _ _ _ h => h) (Or.inl ⟨by rfl, ?_⟩) hHeld ?_
              · intro wy hy; go_simp
              (try simp only [Act.put, List.getElem_toArray, List.getElem_cons_zero, List.getElem_cons_succ, List.setIfInBounds_toArray, List.set_cons_zero, List.set_cons_succ])
              refine wpAnyH_take (i := 4) (v := .int .i64 (R : Int)) rfl (by kernel_rfl) (by kernel_rfl) (by kernel_rfl) (fun _ _ _ h => h) (Or.inl ⟨by rfl, ?_⟩) hHeld ?_
              · intro wy hy; have hc := (hy.sl 0 ⟨true, lo2, hi2, .slice (some ⟨g2, 0, none⟩) (phiN N) k2, phiN N, fun k => (res N k : Int)⟩ rfl).known (by show 0 < phiN N; omega); replace hc := hc.2.2.2.1 k hlt; (try dsimp only at hc); rw [Nat.zero_add, HRV.out] at hc; go_simp
              (try simp only [Act.put, List.getElem_toArray, List.getElem_cons_zero, List.getElem_cons_succ, List.setIfInBounds_toArray, List.set_cons_zero, List.set_cons_succ])
              refine wpAnyH_ready (rs := [5, 6]) (by kernel_rfl) (by simp) ?_
              refine AllReadyH.cons rfl (fun K hK => ?_) (AllReadyH.cons rfl (fun K hK => ?_) AllReadyH.nil)
              · rw [if_pos (by rfl)]
                (try simp only [List.getElem_toArray, List.getElem_cons_zero, List.getElem_cons_succ])
                go_simp
                go_at_call 130
                refine (l01Galois_let N R (by omega) h16 (by omega) _ (hHeld.sl 3 ⟨o', lo', hi', .slice b (phiN N) d, phiN N, g⟩ rfl) (by dsimp only; omega)).mono ?_
                rintro e w6 ⟨l6, h6, a6, k6, rfl, s6, hl6, hh6, b6⟩
                try simp only [World.size_drew] at hl6
                have z6 := b6.size
                try simp only [World.size_drew] at z6
                replace st := (st.keep b6).addSl ⟨true, l6, h6, .slice a6 (phiN N) k6, phiN N, imgP N R (phiN N) g⟩ s6
                clear s6
                refine hK.out _ _ (hHeld.keep b6) (fun hHeld => ?_)
                clear b6
                clear hK K
                (try simp only [Act.put, List.getElem_toArray, List.getElem_cons_zero, List.getElem_cons_succ, List.setIfInBounds_toArray, List.set_cons_zero, List.set_cons_succ])
                refine wpAnyH_ready (rs := [6]) (by kernel_rfl) (by simp) ?_
                refine AllReadyH.cons rfl (fun K hK => ?_) AllReadyH.nil
                rw [if_pos (by rfl)]
                (try simp only [List.getElem_toArray, List.getElem_cons_zero, List.getElem_cons_succ])
                refine wp_allocC rfl ?_
                intro w8 bt x8 b8 hn8 hn8' hn8''
                try simp only [World.size_drew] at hn8
                replace st := (st.keep b8).addBox _ _ x8
                refine hK.out _ _ (hHeld.keep b8) (fun hHeld => ?_)
                clear b8 x8
                clear hK K
                (try simp only [Act.put, List.getElem_toArray, List.getElem_cons_zero, List.getElem_cons_succ, List.setIfInBounds_toArray, List.set_cons_zero, List.set_cons_succ])
                refine wpAnyH_ready (rs := [7]) (by kernel_rfl) (by simp) ?_
                refine AllReadyH.cons rfl (fun K hK => ?_) AllReadyH.nil
                rw [if_pos (by rfl)]
                (try simp only [List.getElem_toArray, List.getElem_cons_zero, List.getElem_cons_succ])
                refine wp_storeC _ _ rfl bt rfl (v0 := .int .i64 (N : Int)) (v1 := .slice a6 (phiN N) k6) rfl rfl rfl (st.box 0 (bt, [.int .i64 0, .slice none 0 0]) rfl) ?_
                intro w9 x9 f9
                skip
                skip
                replace st := st.headR x9 f9 (by omega) (by intro q hq; simp only [List.mem_cons, List.not_mem_nil, or_false] at hq; rcases hq with rfl | rfl | rfl | rfl <;> dsimp only <;> omega) (by intro q hq; simp only [List.mem_cons, List.not_mem_nil, or_false] at hq; rcases hq with rfl | rfl | rfl | rfl | rfl <;> dsimp only <;> omega)
                refine hK.out _ _ (st.subR (fun b hb => List.mem_cons_of_mem _ hb) (fun s hs => List.mem_cons_of_mem _ hs)) (fun hHeld => ?_)
                clear x9
                clear hK K
                (try simp only [Act.put, List.getElem_toArray, List.getElem_cons_zero, List.getElem_cons_succ, List.setIfInBounds_toArray, List.set_cons_zero, List.set_cons_succ])
                refine wpAnyH_done (by kernel_rfl) ?_ _
                go_wp2_with fail
                go_meet
                exact ⟨bt, l6, h6, a6, k6, rfl, by omega, by omega, by omega, by omega, st⟩
              · rw [if_pos (by rfl)]
                (try simp only [List.getElem_toArray, List.getElem_cons_zero, List.getElem_cons_succ])
                refine wp_allocC rfl ?_
                intro w8 bt x8 b8 hn8 hn8' hn8''
                try simp only [World.size_drew] at hn8
                replace st := (st.keep b8).addBox _ _ x8
                refine hK.out _ _ (hHeld.keep b8) (fun hHeld => ?_)
                clear b8 x8
                clear hK K
                (try simp only [Act.put, List.getElem_toArray, List.getElem_cons_zero, List.getElem_cons_succ, List.setIfInBounds_toArray, List.set_cons_zero, List.set_cons_succ])
                refine wpAnyH_ready (rs := [5]) (by kernel_rfl) (by simp) ?_
                refine AllReadyH.cons rfl (fun K hK => ?_) AllReadyH.nil
                rw [if_pos (by rfl)]
                (try simp only [List.getElem_toArray, List.getElem_cons_zero, List.getElem_cons_succ])
                go_simp
                go_at_call 130
                refine (l01Galois_let N R (by omega) h16 (by omega) _ (hHeld.sl 3 ⟨o', lo', hi', .slice b (phiN N) d, phiN N, g⟩ rfl) (by dsimp only; omega)).mono ?_
                rintro e w6 ⟨l6, h6, a6, k6, rfl, s6, hl6, hh6, b6⟩
                try simp only [World.size_drew] at hl6
                have z6 := b6.size
                try simp only [World.size_drew] at z6
                replace st := (st.keep b6).addSl ⟨true, l6, h6, .slice a6 (phiN N) k6, phiN N, imgP N R (phiN N) g⟩ s6
                clear s6
                refine hK.out _ _ (hHeld.keep b6) (fun hHeld => ?_)
                clear b6
                clear hK K
                (try simp only [Act.put, List.getElem_toArray, List.getElem_cons_zero, List.getElem_cons_succ, List.setIfInBounds_toArray, List.set_cons_zero, List.set_cons_succ])
                refine wpAnyH_ready (rs := [7]) (by kernel_rfl) (by simp) ?_
                refine AllReadyH.cons rfl (fun K hK => ?_) AllReadyH.nil
                rw [if_pos (by rfl)]
                (try simp only [List.getElem_toArray, List.getElem_cons_zero, List.getElem_cons_succ])
                refine wp_storeC _ _ rfl bt rfl (v0 := .int .i64 (N : Int)) (v1 := .slice a6 (phiN N) k6) rfl rfl rfl (st.box 0 (bt, [.int .i64 0, .slice none 0 0]) rfl) ?_
                intro w9 x9 f9
                skip
                skip
                replace st := st.headR x9 f9 (by omega) (by intro q hq; simp only [List.mem_cons, List.not_mem_nil, or_false] at hq; rcases hq with rfl | rfl | rfl | rfl <;> dsimp only <;> omega) (by intro q hq; simp only [List.mem_cons, List.not_mem_nil, or_false] at hq; rcases hq with rfl | rfl | rfl | rfl | rfl <;> dsimp only <;> omega)
                refine hK.out _ _ (st.subR (fun b hb => List.mem_cons_of_mem _ hb) (fun s hs => List.mem_cons_of_mem _ hs)) (fun hHeld => ?_)
                clear x9
                clear hK K
                (try simp only [Act.put, List.getElem_toArray, List.getElem_cons_zero, List.getElem_cons_succ, List.setIfInBounds_toArray, List.set_cons_zero, List.set_cons_succ])
                refine wpAnyH_done (by kernel_rfl) ?_ _
                go_wp2_with fail
                go_meet
                exact ⟨bt, l6, h6, a6, k6, rfl, by omega, by omega, by omega, by omega, st⟩
            case rest =>
              obtain ⟨bt, lot, hit, aT, kT, rfl, hb1, hb2, hb3, hb4, st2⟩ := hcut
              clear st
              have st := st2
              clear st2 hb2 hb4
              have HB3 := Lib.hid hb3
              clear hb3
              obtain ⟨fk, hfk⟩ : ∃ fk : Nat, f k = (fk : Int) := Int.eq_ofNat_of_zero_le (HPOS.out k hlt)
              have hfb := (HFW.out k hlt).2
              have HCS := Lib.hid (show cntA f (k + 1) = cntA f k + fk from by show cntA f k + (f k).toNat = _; rw [hfk]; rfl)
              have HCM := Lib.hid (cntA_mono f (show k + 1 ≤ phiN N by omega))
              have HPZ := Lib.hid (fun r (hr : r < fk) => show prodZ N (phiN N) (prG N (acG N f g) 0 (cntA f k + r)) (imgP N R (phiN N) g) = prG N (acG N f g) 0 (cntA f k + r + 1) from by
                rw [← prG_step]
                refine pz_congr (fun _ _ => rfl) (fun j hj => ?_)
                rw [HIMA.out j hj, Nat.zero_add]
                unfold acG
                rw [sqA_at (by rw [hfk]; exact hr) hlt])
              obtain ⟨x0, x1⟩ := (st.box 4 (w.heap.size, [.int .i64 (N : Int), .slice a (phiN N) c]) rfl).cell2
              dsimp only at x0 x1
              have hsl := st.sl 3 ⟨o, lo, hi, .slice a (phiN N) c, phiN N, f⟩ rfl
              dsimp only at hsl
              obtain ⟨ga, oa, ca, hva, _, _, _, _, hca, _⟩ := hsl.at (by omega)
              have hck := hca k hlt
              rw [hfk] at hck hfb
              clear hsl hca hfk
              have hac : a = some ⟨ga, oa, none⟩ := by cases hva; rfl
              rw [hac] at x1
              clear hac hva
              go_wp2
              clear x0 x1 hck
              go_loopw [13] (fun s13 wr => ∃ (m lo8 hi8 : Nat) (a8 : Option Addr) (k8 : Nat), m ≤ fk ∧ s13 = .int .i64 (m : Int) ∧ prGok N (acG N f g) 0 (cntA f k + (fk - m)) ∧ (w.heap.size + 1 + 1 < lo8 ∧ (nb < lo8 ∨ hi8 ≤ nb)) ∧ St w wr [(bt, [.int .i64 (N : Int), .slice aT (phiN N) kT]), (nb, [.int .i64 (N : Int), .slice a8 (phiN N) k8]), (w.heap.size + 1 + 1, [.int .i64 0, .slice none 0 0]), (w.heap.size + 1, [.int .i64 (N : Int), .slice b (phiN N) d]), (w.heap.size, [.int .i64 (N : Int), .slice a (phiN N) c])] [⟨true, lot, hit, .slice aT (phiN N) kT, phiN N, imgP N R (phiN N) g⟩, ⟨true, lo2, hi2, .slice (some ⟨g2, 0, none⟩) (phiN N) k2, phiN N, fun k => (res N k : Int)⟩, ⟨true, lo8, hi8, .slice a8 (phiN N) k8, phiN N, prG N (acG N f g) 0 (cntA f k + (fk - m))⟩, ⟨o, lo, hi, .slice a (phiN N) c, phiN N, f⟩, ⟨o', lo', hi', .slice b (phiN N) d, phiN N, g⟩]) (fun s13 _ => (intOf s13).toNat)
              case atStart => exact ⟨fk, lo9, hi9, a9, k9, Nat.le_refl _, rfl, by rw [Nat.sub_self]; exact HOK.out, HO9.out, by rw [Nat.sub_self]; exact st⟩
              case round =>
                clear st HOK HO9
                obtain ⟨m, lo8, hi8, a8, k8, hm, rfl, hok, ho8, st⟩ := hrel
                have HOK := Lib.hid hok
                have HO8 := Lib.hid ho8
                clear hok ho8
                by_cases hm0 : 0 < m
                · have hmi : (0 : Int) < (m : Int) := by omega
                  have hr : fk - m < fk := by omega
                  obtain ⟨q0, q1⟩ := (st.box 1 (nb, [.int .i64 (N : Int), .slice a8 (phiN N) k8]) rfl).cell2
                  obtain ⟨t0, t1⟩ := (st.box 0 (bt, [.int .i64 (N : Int), .slice aT (phiN N) kT]) rfl).cell2
                  dsimp only at q0 q1 t0 t1
                  go_wp2_with fail
                  refine (l01Times_any N (by omega) h16 _ (st.sl 2 ⟨true, lo8, hi8, .slice a8 (phiN N) k8, phiN N, prG N (acG N f g) 0 (cntA f k + (fk - m))⟩ rfl) (st.sl 0 ⟨true, lot, hit, .slice aT (phiN N) kT, phiN N, imgP N R (phiN N) g⟩ rfl) (Within.big (prG_within HOK.out)) HGW.out hp0 hp).mono ?_
                  rintro e w7 ⟨aP, kP, bo, rfl, hbo, hsP, b7⟩
                  rw [HPZ.out _ hr] at hbo hsP
                  have hz7 := b7.size
                  have hnl := (st.box 1 (nb, [.int .i64 (N : Int), .slice a8 (phiN N) k8]) rfl).1
                  have hzl := (st.box 2 (w.heap.size + 1 + 1, [.int .i64 0, .slice none 0 0]) rfl).1
                  have hbl := (st.box 0 (bt, [.int .i64 (N : Int), .slice aT (phiN N) kT]) rfl).1
                  have hT2 := (st.sl 0 ⟨true, lot, hit, .slice aT (phiN N) kT, phiN N, imgP N R (phiN N) g⟩ rfl).size
                  dsimp only at hnl hzl hbl
                  clear q0 q1 t0 t1
                  cases bo with
                  | true =>
                    have HW := Lib.hid (hbo.1 rfl)
                    have ST7 := Lib.hid (((st.keep b7).addSl ⟨true, wr.heap.size, w7.heap.size, .slice aP (phiN N) kP, phiN N, prG N (acG N f g) 0 (cntA f k + (fk - m) + 1)⟩ (hsP rfl)).boxNew (.int .i64 (N : Int)) (.slice aP (phiN N) kP) 24)
                    clear hbo hsP st b7
                    have hq := ST7.out.box 2 (nb, [.int .i64 (N : Int), .slice a8 (phiN N) k8]) rfl
                    obtain ⟨q0, q1⟩ := hq.cell2
                    have qz := hq.2.2
                    obtain ⟨n0, n1⟩ := (ST7.out.box 0 (w7.heap.size, [.int .i64 (N : Int), .slice aP (phiN N) kP]) rfl).cell2
                    dsimp only at q0 q1 qz n0 n1
                    clear hq
                    have ⟨p0, p1⟩ := HAP.out
                    go_wp2
                    go_roundw
                    case rel =>
                      have e1 : cntA f k + (fk - (m - 1)) = cntA f k + (fk - m) + 1 := by omega
                      refine ⟨m - 1, wr.heap.size, w7.heap.size, aP, kP, by omega, by go_num, by rw [e1]; exact prGok_succ HOK.out HW.out, ⟨by omega, .inl (by omega)⟩, ?_⟩
                      rw [e1]
                      have p3 := HB3.out
                      exact (((ST7.out.subR (bs' := [(nb, [.int .i64 (N : Int), .slice a8 (phiN N) k8]), (bt, [.int .i64 (N : Int), .slice aT (phiN N) kT]), (w.heap.size + 1 + 1, [.int .i64 0, .slice none 0 0]), (w.heap.size + 1, [.int .i64 (N : Int), .slice b (phiN N) d]), (w.heap.size, [.int .i64 (N : Int), .slice a (phiN N) c])]) (ss' := [⟨true, wr.heap.size, w7.heap.size, .slice aP (phiN N) kP, phiN N, prG N (acG N f g) 0 (cntA f k + (fk - m) + 1)⟩, ⟨true, lot, hit, .slice aT (phiN N) kT, phiN N, imgP N R (phiN N) g⟩, ⟨true, lo2, hi2, .slice (some ⟨g2, 0, none⟩) (phiN N) k2, phiN N, fun k => (res N k : Int)⟩, ⟨o, lo, hi, .slice a (phiN N) c, phiN N, f⟩, ⟨o', lo', hi', .slice b (phiN N) d, phiN N, g⟩]) (by intro q hq; simp only [List.mem_cons, List.not_mem_nil, or_false] at hq ⊢; rcases hq with rfl | rfl | rfl | rfl | rfl <;> simp) (by intro q hq; simp only [List.mem_cons, List.not_mem_nil, or_false] at hq ⊢; rcases hq with rfl | rfl | rfl | rfl | rfl <;> simp)).boxSet (u0 := .int .i64 (N : Int)) (u1 := .slice aP (phiN N) kP) (by omega) (by intro q hq; simp only [List.mem_cons, List.not_mem_nil, or_false] at hq; rcases hq with rfl | rfl | rfl | rfl <;> dsimp only <;> omega) (by intro q hq; simp only [List.mem_cons, List.not_mem_nil, or_false] at hq; rcases hq with rfl | rfl | rfl | rfl | rfl <;> dsimp only <;> omega)).subR (by intro q hq; simp only [List.mem_cons, List.not_mem_nil, or_false] at hq ⊢; rcases hq with rfl | rfl | rfl | rfl | rfl <;> simp) (by intro q hq; simp only [List.mem_cons, List.not_mem_nil, or_false] at hq ⊢; rcases hq with rfl | rfl | rfl | rfl | rfl <;> simp))
                    case measure => simp [intOf] <;> omega
                  | false =>
                    have HB := Lib.hid (show ¬ prGok N (acG N f g) 0 (cntA f (phiN N)) from fun h => by
                      have h3 := hbo.2 (h (cntA f k + (fk - m)) (by have := HCS.out; have := HCM.out; omega))
                      cases h3)
                    have ST7 := Lib.hid ((st.keep b7).boxNew (.int .i64 (N : Int)) (.slice aP (phiN N) kP) 24)
                    clear hbo hsP st b7
                    have hq := ST7.out.box 3 (w.heap.size + 1 + 1, [.int .i64 0, .slice none 0 0]) rfl
                    obtain ⟨d0, d1⟩ := hq.cell2
                    have dz := hq.2.2
                    have zl := hq.1
                    have BB := ST7.out.1
                    dsimp only at d0 d1 dz zl
                    clear hq
                    go_wp2
                    refine bodyPost_ret (v := failV 3) (by simp [results, Try.results53, go_sem, failV, d0, d1]) rfl ?_
                    exact ⟨.inr ⟨HB.out, rfl⟩, by go_grown⟩
                · obtain rfl : m = 0 := by omega
                  go_wp2
                  go_roundw
                  case rel => exact ⟨k + 1, lo8, hi8, a8, k8, by omega, by go_num, by rw [HCS.out]; exact HOK.out, HO8.out, by rw [HCS.out]; exact st.subR (fun _ h => List.mem_cons_of_mem _ h) (fun _ h => List.mem_cons_of_mem _ h)⟩
                  case measure => simp [intOf] <;> omega
          · obtain rfl : k = phiN N := by omega
            obtain ⟨q0, q1⟩ := (st.box 0 (nb, [.int .i64 (N : Int), .slice a9 (phiN N) k9]) rfl).cell2
            obtain ⟨d0, d1⟩ := (st.box 1 (w.heap.size + 1 + 1, [.int .i64 0, .slice none 0 0]) rfl).cell2
            have dz := (st.box 1 (w.heap.size + 1 + 1, [.int .i64 0, .slice none 0 0]) rfl).2.2
            have zl := (st.box 1 (w.heap.size + 1 + 1, [.int .i64 0, .slice none 0 0]) rfl).1
            dsimp only at q0 q1 d0 d1 dz zl
            have BB := st.1
            have S9 := Lib.hid (st.sl 1 ⟨true, lo9, hi9, .slice a9 (phiN N) k9, phiN N, prG N (acG N f g) 0 (cntA f (phiN N))⟩ rfl)
            have ⟨p2, p3⟩ := HO9.out
            have ⟨p0, p1⟩ := HAP.out
            clear st
            go_wp2
            refine bodyPost_ret (v := .tuple #[.agg #[.int .i64 (N : Int), .slice a9 (phiN N) k9], .int .i64 0]) (by simp [results, Try.results53, go_sem, d0, d1]) rfl ?_
            refine ⟨.inl ⟨HOK.out, a9, k9, rfl, ?_⟩, by go_grown⟩
            exact ((S9.out.setOther (.inl (show w.heap.size + 1 + 1 < lo9 from p2)) _).setOther (.inl (show w.heap.size + 1 + 1 < lo9 from p2)) _).wide (by omega) (by have := S9.out.size; simpa using this) (Nat.le_refl _)
end
end

section
open Go.RowKit Go.ChangeShapes Go.Sort
set_option linter.unusedVariables false
set_option linter.unusedSimpArgs false
set_option maxRecDepth 100000
set_option maxHeartbeats 4000000
theorem lsN_iff {f : Nat → Int} : ∀ {k : Nat}, lsN f k < 0 ↔ ¬ ∀ j, j < k → 0 ≤ f j
  | 0 => ⟨fun h => absurd h (by show ¬ (0 : Int) < 0; decide), fun h => absurd (fun j hj => absurd hj (Nat.not_lt_zero _)) h⟩
  | k + 1 => by
    have ih := lsN_iff (f := f) (k := k)
    have e : lsN f (k + 1) = min (lsN f k) (f k) := rfl
    rw [e]
    constructor
    · intro h h2
      have h3 := h2 k (by omega)
      exact (ih.1 (by omega)) (fun j hj => h2 j (by omega))
    · intro h
      by_cases h4 : 0 ≤ f k
      · have h5 := ih.2 (fun h6 => h (fun j hj => by
          by_cases e2 : j = k
          · rw [e2]; exact h4
          · exact h6 j (by omega)))
        omega
      · omega
theorem lsN_bd {f : Nat → Int} {B : Int} : ∀ {k : Nat}, (∀ j, j < k → -B ≤ f j) → 0 ≤ B → -B ≤ lsN f k ∧ lsN f k ≤ 0
  | 0, _, hB => ⟨by show -B ≤ 0; omega, by show (0 : Int) ≤ 0; decide⟩
  | k + 1, h, hB => by
    have ih := lsN_bd (f := f) (k := k) (fun j hj => h j (by omega)) hB
    have e : lsN f (k + 1) = min (lsN f k) (f k) := rfl
    have := h k (by omega)
    rw [e]
    omega
section
variable {o o' : Bool} {lo hi lo' hi' n m c d : Nat} {a b : Option Addr} {f g : Nat → Int}
theorem ActOnCyclo_spec_ring (x y : Int) (w : World) (hs : Sl o w lo hi (.slice a n c) n f) (ht : Sl o' w lo' hi' (.slice b m d) m g) (h : ¬ RgP x n f) :
    Calls Try.prog 53 #[.agg #[.int .i64 x, .slice a n c], .agg #[.int .i64 y, .slice b m d]] w fun e w' => e = .returned (failV 1) ∧ Below w.heap.size w w' := by
  have hhs := hs.size
  have hht := ht.size
  have st := ((((St.start w).addSl ⟨o', lo', hi', .slice b m d, m, g⟩ ht).addSl ⟨o, lo, hi, .slice a n c, n, f⟩ hs).alloc (.cells #[.int .i64 x, .slice a n c] 28)).addBox w.heap.size [.int .i64 x, .slice a n c] (Box.made _ _ _ _ (fun j v h => by simpa using h))
  replace st := (st.alloc (.cells #[.int .i64 y, .slice b m d] 24)).addBox _ [.int .i64 y, .slice b m d] (Box.made _ _ _ _ (fun j v h => by simpa using h))
  replace st := (st.alloc (.cells #[.int .i64 0, .slice none 0 0] 24)).addBox _ [.int .i64 0, .slice none 0 0] (Box.made _ _ _ _ (fun j v h => by simpa using h))
  simp only [World.size_alloc] at st
  clear hs ht
  obtain ⟨r0, r1⟩ := (st.box 2 (w.heap.size, [.int .i64 x, .slice a n c]) rfl).cell2
  dsimp only at r0 r1
  go_enter Try.func53, Try.ntmps53
  go_wp2_with fail
  refine (l10Is_no x _ (st.sl 0 ⟨o, lo, hi, .slice a n c, n, f⟩ rfl) h).mono ?_
  rintro e w1 ⟨rfl, b1⟩
  replace st := st.keep b1
  clear b1 r0 r1
  obtain ⟨d0, d1⟩ := (st.box 0 (w.heap.size + 1 + 1, [.int .i64 0, .slice none 0 0]) rfl).cell2
  have dz := (st.box 0 (w.heap.size + 1 + 1, [.int .i64 0, .slice none 0 0]) rfl).2.2
  have zl := (st.box 0 (w.heap.size + 1 + 1, [.int .i64 0, .slice none 0 0]) rfl).1
  have BB := st.1
  dsimp only at d0 d1 dz zl
  go_wp2
  refine bodyPost_ret (v := failV 1) (by simp [results, Try.results53, go_sem, failV, d0, d1]) rfl ⟨rfl, by go_grown⟩
theorem ActOnCyclo_spec_cyclo (N : Nat) (y : Int) (w : World) (hs : Sl o w lo hi (.slice a n c) n f) (ht : Sl o' w lo' hi' (.slice b m d) m g) (h : RgP N n f) (h' : ¬ CyP y m g) :
    Calls Try.prog 53 #[.agg #[.int .i64 (N : Int), .slice a n c], .agg #[.int .i64 y, .slice b m d]] w fun e w' => e = .returned (failV 1) ∧ Below w.heap.size w w' := by
  have hhs := hs.size
  have hht := ht.size
  have st := ((((St.start w).addSl ⟨o', lo', hi', .slice b m d, m, g⟩ ht).addSl ⟨o, lo, hi, .slice a n c, n, f⟩ hs).alloc (.cells #[.int .i64 (N : Int), .slice a n c] 28)).addBox w.heap.size [.int .i64 (N : Int), .slice a n c] (Box.made _ _ _ _ (fun j v h => by simpa using h))
  replace st := (st.alloc (.cells #[.int .i64 y, .slice b m d] 24)).addBox _ [.int .i64 y, .slice b m d] (Box.made _ _ _ _ (fun j v h => by simpa using h))
  replace st := (st.alloc (.cells #[.int .i64 0, .slice none 0 0] 24)).addBox _ [.int .i64 0, .slice none 0 0] (Box.made _ _ _ _ (fun j v h => by simpa using h))
  simp only [World.size_alloc] at st
  clear hs ht
  obtain ⟨r0, r1⟩ := (st.box 2 (w.heap.size, [.int .i64 (N : Int), .slice a n c]) rfl).cell2
  dsimp only at r0 r1
  go_enter Try.func53, Try.ntmps53
  go_wp2_with fail
  refine (l10Is_yes N _ (st.sl 0 ⟨o, lo, hi, .slice a n c, n, f⟩ rfl) h).mono ?_
  rintro e w1 ⟨rfl, b1⟩
  replace st := st.keep b1
  clear b1 r0 r1
  obtain ⟨y0, y1⟩ := (st.box 1 (w.heap.size + 1, [.int .i64 y, .slice b m d]) rfl).cell2
  dsimp only at y0 y1
  go_wp2_with fail
  refine (l01Is_no _ _ (st.sl 1 ⟨o', lo', hi', .slice b m d, m, g⟩ rfl) h').mono ?_
  rintro e w2 ⟨rfl, b2⟩
  replace st := st.keep b2
  clear b2 y0 y1
  obtain ⟨d0, d1⟩ := (st.box 0 (w.heap.size + 1 + 1, [.int .i64 0, .slice none 0 0]) rfl).cell2
  have dz := (st.box 0 (w.heap.size + 1 + 1, [.int .i64 0, .slice none 0 0]) rfl).2.2
  have zl := (st.box 0 (w.heap.size + 1 + 1, [.int .i64 0, .slice none 0 0]) rfl).1
  have BB := st.1
  dsimp only at d0 d1 dz zl
  go_wp2
  refine bodyPost_ret (v := failV 1) (by simp [results, Try.results53, go_sem, failV, d0, d1]) rfl ⟨rfl, by go_grown⟩
theorem ActOnCyclo_spec_two (N M : Nat) (w : World) (hs : Sl o w lo hi (.slice a n c) n f) (ht : Sl o' w lo' hi' (.slice b m d) m g) (h : RgP N n f) (h' : CyP M m g) (hb : N ≠ M ∨ (¬ ∀ j, j < phiN N → 0 ≤ f j) ∨ 60 < sumN (phiN N) f) :
    Calls Try.prog 53 #[.agg #[.int .i64 (N : Int), .slice a n c], .agg #[.int .i64 (M : Int), .slice b m d]] w fun e w' => e = .returned (failV 2) ∧ Below w.heap.size w w' := by
  have h2 : 2 ≤ N := by have := h.1; omega
  have h40 : N ≤ 40 := by have := h.2.1; omega
  have hp := phi_le40 N (by omega)
  obtain rfl : m = phiN M := h'.2.2.1
  obtain rfl : n = phiN N := h.2.2.1
  have HFW := Lib.hid (show Within f (phiN N) 1000000000 from h.2.2.2)
  have HSB := Lib.hid (fun k (hk : k ≤ phiN N) => sumN_bd (B := 1000000000) (F := f) (by omega) k (fun i hi => (show Within f (phiN N) 1000000000 from h.2.2.2) i (by omega)))
  have HLB := Lib.hid (fun k (hk : k ≤ phiN N) => lsN_bd (f := f) (B := 1000000000) (k := k) (fun j hj => (h.2.2.2 j (by omega)).1) (by omega))
  rw [← lsN_iff] at hb
  have HB := Lib.hid hb
  have H := Lib.hid h
  have H' := Lib.hid h'
  clear h h' hb
  have hhs := hs.size
  have hht := ht.size
  have st := ((((St.start w).addSl ⟨o', lo', hi', .slice b (phiN M) d, phiN M, g⟩ ht).addSl ⟨o, lo, hi, .slice a (phiN N) c, phiN N, f⟩ hs).alloc (.cells #[.int .i64 (N : Int), .slice a (phiN N) c] 28)).addBox w.heap.size [.int .i64 (N : Int), .slice a (phiN N) c] (Box.made _ _ _ _ (fun j v h => by simpa using h))
  replace st := (st.alloc (.cells #[.int .i64 (M : Int), .slice b (phiN M) d] 24)).addBox _ [.int .i64 (M : Int), .slice b (phiN M) d] (Box.made _ _ _ _ (fun j v h => by simpa using h))
  replace st := (st.alloc (.cells #[.int .i64 0, .slice none 0 0] 24)).addBox _ [.int .i64 0, .slice none 0 0] (Box.made _ _ _ _ (fun j v h => by simpa using h))
  simp only [World.size_alloc] at st
  clear hs ht
  obtain ⟨r0, r1⟩ := (st.box 2 (w.heap.size, [.int .i64 (N : Int), .slice a (phiN N) c]) rfl).cell2
  dsimp only at r0 r1
  go_enter Try.func53, Try.ntmps53
  go_wp2_with fail
  refine (l10Is_yes N _ (st.sl 0 ⟨o, lo, hi, .slice a (phiN N) c, phiN N, f⟩ rfl) H.out).mono ?_
  rintro e w1 ⟨rfl, b1⟩
  replace st := st.keep b1
  clear b1 r0 r1
  obtain ⟨y0, y1⟩ := (st.box 1 (w.heap.size + 1, [.int .i64 (M : Int), .slice b (phiN M) d]) rfl).cell2
  dsimp only at y0 y1
  go_wp2_with fail
  refine (l01Is_yes _ _ (st.sl 1 ⟨o', lo', hi', .slice b (phiN M) d, phiN M, g⟩ rfl) H'.out).mono ?_
  rintro e w2 ⟨rfl, b2⟩
  replace st := st.keep b2
  clear b2 y0 y1
  go_wp2
  go_loopw [6, 7, 8] (fun s6 s7 s8 wr => ∃ k : Nat, k ≤ phiN N ∧ s8 = .int .i64 (k : Int) ∧ s6 = .int .i64 (sumN k f) ∧ s7 = .int .i64 (lsN f k) ∧ St w wr [(w.heap.size + 1 + 1, [.int .i64 0, .slice none 0 0]), (w.heap.size + 1, [.int .i64 (M : Int), .slice b (phiN M) d]), (w.heap.size, [.int .i64 (N : Int), .slice a (phiN N) c])] [⟨o, lo, hi, .slice a (phiN N) c, phiN N, f⟩, ⟨o', lo', hi', .slice b (phiN M) d, phiN M, g⟩]) (fun _ _ s8 _ => phiN N - (intOf s8).toNat)
  case atStart => exact ⟨0, Nat.zero_le _, rfl, rfl, rfl, st⟩
  case round =>
    clear st
    obtain ⟨k, hk, rfl, rfl, rfl, st⟩ := hrel
    obtain ⟨x0, x1⟩ := (st.box 2 (w.heap.size, [.int .i64 (N : Int), .slice a (phiN N) c]) rfl).cell2
    dsimp only at x0 x1
    by_cases hlt : k < phiN N
    · have hki : (k : Int) < (phiN N : Int) := by omega
      have hsl := st.sl 0 ⟨o, lo, hi, .slice a (phiN N) c, phiN N, f⟩ rfl
      dsimp only at hsl
      obtain ⟨ga, oa, ca, hva, _, _, _, _, hca, _⟩ := hsl.at (by omega)
      have hck := hca k hlt
      have hfb := HFW.out k hlt
      have hlb := HLB.out k hk
      have hsb := HSB.out k hk
      have hsN : sumN (k + 1) f = sumN k f + f k := rfl
      have HSN := Lib.hid hsN
      have HLN := Lib.hid (show lsN f (k + 1) = min (lsN f k) (f k) from rfl)
      clear hsN hsl hca
      cases hva
      obtain ⟨SK, hSK⟩ : ∃ x, sumN k f = x := ⟨_, rfl⟩
      rw [hSK] at hsb HSN
      rw [hSK]
      obtain ⟨LK, hLK⟩ : ∃ x, lsN f k = x := ⟨_, rfl⟩
      rw [hLK] at hlb HLN
      rw [hLK]
      have hb1 : (k : Int) * 1000000000 ≤ 40000000000 := by omega
      clear hSK hLK
      obtain ⟨fk, hfk⟩ : ∃ x, f k = x := ⟨_, rfl⟩
      rw [hfk] at hck hfb HSN HLN
      clear hfk
      go_wp2
      all_goals
        go_roundw
        case rel => exact ⟨k + 1, by omega, by go_num, by rw [HSN.out], by rw [HLN.out]; first | rfl | (congr 1; omega), st⟩
        case measure => simp [intOf] <;> omega
    · obtain rfl : k = phiN N := by omega
      have hlb := HLB.out _ (Nat.le_refl (phiN N))
      obtain ⟨y0, y1⟩ := (st.box 1 (w.heap.size + 1, [.int .i64 (M : Int), .slice b (phiN M) d]) rfl).cell2
      dsimp only at y0 y1
      obtain ⟨SK, hSK⟩ : ∃ x, sumN (phiN N) f = x := ⟨_, rfl⟩
      obtain ⟨LK, hLK⟩ : ∃ x, lsN f (phiN N) = x := ⟨_, rfl⟩
      rw [hSK, hLK] at HB
      rw [hSK, hLK]
      rw [hLK] at hlb
      clear hSK hLK
      obtain ⟨d0, d1⟩ := (st.box 0 (w.heap.size + 1 + 1, [.int .i64 0, .slice none 0 0]) rfl).cell2
      have dz := (st.box 0 (w.heap.size + 1 + 1, [.int .i64 0, .slice none 0 0]) rfl).2.2
      have zl := (st.box 0 (w.heap.size + 1 + 1, [.int .i64 0, .slice none 0 0]) rfl).1
      have BB := st.1
      dsimp only at d0 d1 dz zl
      by_cases hNM : N = M
      · subst hNM
        by_cases hl : LK < 0
        · clear HB
          go_wp2
          refine bodyPost_ret (v := failV 2) (by simp [results, Try.results53, go_sem, failV, d0, d1]) rfl ⟨rfl, by go_grown⟩
        · have h60 : 60 < SK := by
            rcases HB.out with h | h | h
            · exact absurd rfl h
            · exact absurd h hl
            · exact h
          clear HB
          go_wp2
          refine bodyPost_ret (v := failV 2) (by simp [results, Try.results53, go_sem, failV, d0, d1]) rfl ⟨rfl, by go_grown⟩
      · have hnb : ((N : Int) != (M : Int)) = true := by rw [bne_iff_ne]; omega
        clear HB
        go_wp2
        refine bodyPost_ret (v := failV 2) (by simp [results, Try.results53, go_sem, failV, d0, d1]) rfl ⟨rfl, by go_grown⟩
end
end

section
open Go.RowKit Go.ChangeShapes Go.Sort
set_option linter.unusedVariables false
section
variable {o : Bool} {lo hi n : Nat} {v : Value} {f : Nat → Int}
theorem szRing_yes (x : Int) (a : Option Addr) (cap : Nat) (left : Int) (w : World) (hl : left ≤ 1048576) (hn : (n : Int) ≤ left) :
    Calls Try.prog 84 #[.agg #[.int .i64 x, .slice a n cap], .int .i64 left] w fun e w' => e = .returned (.int .i64 (left - n)) ∧ Below w.heap.size w w' := by
  go_enter Try.func84, Try.ntmps84
  go_wp2_with (go_at_call 147; refine (szInt64S_yes _ _ _ _ hl hn).mono ?_; rintro e w' ⟨rfl, rfl⟩)
  go_ret
  exact ⟨rfl, by go_grown⟩
theorem szRing_no (x : Int) (a : Option Addr) (cap : Nat) (left : Int) (w : World) (hm : n ≤ maxLen) (h0 : 0 ≤ left) (hl : left ≤ 1048576) (hn : left < (n : Int)) :
    Calls Try.prog 84 #[.agg #[.int .i64 x, .slice a n cap], .int .i64 left] w fun e w' => e = .returned (.int .i64 (-1)) ∧ Below w.heap.size w w' := by
  go_enter Try.func84, Try.ntmps84
  go_wp2_with (go_at_call 147; refine (szInt64S_no _ _ _ _ hm h0 hl hn).mono ?_; rintro e w' ⟨rfl, rfl⟩)
  go_ret
  exact ⟨rfl, by go_grown⟩

set_option maxHeartbeats 400000 in
theorem toRing_any (x : Int) (w : World) (hs : Sl o w lo hi v n f) (hn : n ≤ 1048576) :
    Calls Try.prog 85 #[.agg #[.int .i64 x, v]] w fun e w' => ∃ a' cap', e = .returned (.agg #[.int .i64 x, .slice a' n cap']) ∧ Sl true w' w.heap.size w'.heap.size (.slice a' n cap') n f ∧ Below w.heap.size w w' := by
  obtain ⟨a, cap, rfl⟩ := hs.shape
  have HS := Lib.hid hs; clear hs
  go_enter Try.func85, Try.ntmps85
  go_wp2_with fail
  refine (toInt64S_any _ (HS.out.keep ((((Below.refl w.heap.size w).alloc (by simp) _).alloc (by simp) _).alloc (by simp; omega) _) HS.out.size) hn).mono ?_
  rintro e w1 ⟨a', cap', rfl, hv, hb⟩
  obtain ⟨hc1, hf1⟩ := bcell hb
  have hz := hb.size
  simp only [World.size_alloc] at hc1 hf1 hz hv
  have hz1 : w.heap.size + 1 < w1.heap.size := by omega
  have hz2 : w.heap.size + 1 + 1 < w1.heap.size := by omega
  have HV := Lib.hid hv; clear hv
  have HB : Below w.heap.size w w1 := ((((Below.refl w.heap.size w).alloc (Nat.le_refl _) _).alloc (by simp) _).alloc (by simp; omega) _).trans (hb.mono (by simp; omega))
  go_wp2
  refine bodyPost_ret (v := .agg #[.int .i64 x, .slice a' n cap']) (by simp [results, Try.results85, go_sem, hc1]) rfl ?_
  refine ⟨_, _, rfl, ?_, by go_grown⟩
  exact (((HV.out.setOther (.inl (by simp)) _).setOther (.inl (by simp)) _).setOther (.inl (by simp)) _).wide (by omega) (by simp) (Nat.le_refl _)

theorem eqRing_yes {o' : Bool} {lo' hi' : Nat} {v' : Value} {f' : Nat → Int} (x : Int) (w : World) (hs : Sl o w lo hi v n f) (hs' : Sl o' w lo' hi' v' n f') (he : ∀ j, j < n → f j = f' j) :
    Calls Try.prog 81 #[.agg #[.int .i64 x, v], .agg #[.int .i64 x, v']] w fun e w' => e = .returned (.bool true) ∧ Below w.heap.size w w' := by
  obtain ⟨a, cap, rfl⟩ := hs.shape
  obtain ⟨a', cap', rfl⟩ := hs'.shape
  have HS := Lib.hid hs; clear hs
  have HS' := Lib.hid hs'; clear hs'
  have HE := Lib.hid he; clear he
  go_enter Try.func81, Try.ntmps81
  go_wp2_with (go_at_call 157; refine (eqInt64S_yes _ ((HS.out.alloc _).alloc _) ((HS'.out.alloc _).alloc _) HE.out).mono ?_; rintro e w1 ⟨rfl, hb⟩)
  go_ret
  exact ⟨rfl, (((Below.refl w.heap.size w).alloc (Nat.le_refl _) _).alloc (by simp) _).trans (hb.mono (by simp; omega))⟩

theorem markRing_any (x k : Int) (w : World) (hs : Sl true w lo hi v n f) (hk : 0 ≤ k) (hk' : k ≤ 4611686018427387904) (hn : n ≤ 1048576) :
    Calls Try.prog 82 #[.agg #[.int .i64 x, v], .int .i64 k] w fun e w' => e = .returned (.int .i64 (k + n)) ∧ Sl true w' lo hi v n (fun j => k + j) ∧ Frame lo hi w w' := by
  obtain ⟨a, cap, rfl⟩ := hs.shape
  have HS := Lib.hid hs; clear hs
  go_enter Try.func82, Try.ntmps82
  go_wp2_with (go_at_call 158; refine (markInt64S_any _ _ (HS.out.alloc _) hk hk' hn).mono ?_; rintro e w1 ⟨rfl, s1, f1⟩)
  go_ret
  exact ⟨rfl, s1, ((Frame.refl lo hi w).alloc _).trans f1⟩

theorem heldRing_any (x k : Int) (w : World) (hs : Sl o w lo hi v n (fun j => k + j)) (hk : 0 ≤ k) (hk' : k ≤ 4611686018427387904) (hn : n ≤ 1048576) :
    Calls Try.prog 83 #[.agg #[.int .i64 x, v], .int .i64 k] w fun e w' => e = .returned (.int .i64 (k + n)) ∧ Below w.heap.size w w' := by
  obtain ⟨a, cap, rfl⟩ := hs.shape
  have HS := Lib.hid hs; clear hs
  go_enter Try.func83, Try.ntmps83
  go_wp2_with (go_at_call 159; refine (heldInt64S_any _ _ (HS.out.alloc _) hk hk' hn).mono ?_; rintro e w1 ⟨rfl, b1⟩)
  go_ret
  exact ⟨rfl, ((Below.refl w.heap.size w).alloc (Nat.le_refl _) _).trans (b1.mono (by simp))⟩
end
end

section
open Go.RowKit Go.ChangeShapes
theorem fail_form {P : Program} {fn : FuncId} {args : Array Value} {w : World} {c : Int} (h : Calls P fn args w fun e w' => e = .returned (failV c) ∧ Below w.heap.size w w') :
    Calls P fn args w fun e w' => ∃ a k, e = .returned (.tuple #[.agg #[.int .i64 0, .slice a 0 k], .int .i64 c]) ∧ Sl true w' w.heap.size w'.heap.size (.slice a 0 k) 0 (fun _ => 0) ∧ Below w.heap.size w w' :=
  h.mono fun _ _ ⟨he, hb⟩ => ⟨none, 0, he, Sl.nil _ _ _ (Nat.le_refl _) _, hb⟩
end

section
open Go
theorem and_tt {a b : Bool} (h : a = true) (h' : b = true) : (a && b) = true := by rw [h, h']; rfl
def initChars : List Char := [Char.ofNat 104, Char.ofNat 97, Char.ofNat 114, Char.ofNat 110, Char.ofNat 101, Char.ofNat 115, Char.ofNat 115, Char.ofNat 32, Char.ofNat 54, Char.ofNat 56, Char.ofNat 50, Char.ofNat 97, Char.ofNat 49, Char.ofNat 99, Char.ofNat 97, Char.ofNat 49, Char.ofNat 56, Char.ofNat 101, Char.ofNat 49, Char.ofNat 97, Char.ofNat 48, Char.ofNat 99, Char.ofNat 101, Char.ofNat 101, Char.ofNat 54, Char.ofNat 57, Char.ofNat 55, Char.ofNat 101, Char.ofNat 53, Char.ofNat 100, Char.ofNat 49, Char.ofNat 50, Char.ofNat 50, Char.ofNat 48, Char.ofNat 97, Char.ofNat 101, Char.ofNat 50, Char.ofNat 98, Char.ofNat 99, Char.ofNat 100, Char.ofNat 51, Char.ofNat 51, Char.ofNat 54, Char.ofNat 50, Char.ofNat 57, Char.ofNat 101, Char.ofNat 51, Char.ofNat 50, Char.ofNat 101, Char.ofNat 51, Char.ofNat 52, Char.ofNat 102, Char.ofNat 57, Char.ofNat 102, Char.ofNat 100, Char.ofNat 99, Char.ofNat 55, Char.ofNat 52, Char.ofNat 97, Char.ofNat 99, Char.ofNat 57, Char.ofNat 49, Char.ofNat 56, Char.ofNat 101, Char.ofNat 55, Char.ofNat 51, Char.ofNat 54, Char.ofNat 55, Char.ofNat 50, Char.ofNat 50, Char.ofNat 52, Char.ofNat 57, Char.ofNat 32, Char.ofNat 99, Char.ofNat 117, Char.ofNat 116, Char.ofNat 32, Char.ofNat 97, Char.ofNat 116, Char.ofNat 32, Char.ofNat 108, Char.ofNat 111, Char.ofNat 111, Char.ofNat 112, Char.ofNat 46, Char.ofNat 101, Char.ofNat 120, Char.ofNat 97, Char.ofNat 109, Char.ofNat 112, Char.ofNat 108, Char.ofNat 101, Char.ofNat 47, Char.ofNat 103, Char.ofNat 48, Char.ofNat 49, Char.ofNat 51, Char.ofNat 49, Char.ofNat 51, Char.ofNat 47, Char.ofNat 108, Char.ofNat 97, Char.ofNat 119, Char.ofNat 115, Char.ofNat 46, Char.ofNat 70, Char.ofNat 110, Char.ofNat 69, Char.ofNat 120, Char.ofNat 97, Char.ofNat 99, Char.ofNat 116, Char.ofNat 78, Char.ofNat 101, Char.ofNat 119, Char.ofNat 68, Char.ofNat 101, Char.ofNat 115, Char.ofNat 107, Char.ofNat 32, Char.ofNat 108, Char.ofNat 111, Char.ofNat 111, Char.ofNat 112, Char.ofNat 46, Char.ofNat 101, Char.ofNat 120, Char.ofNat 97, Char.ofNat 109, Char.ofNat 112, Char.ofNat 108, Char.ofNat 101, Char.ofNat 47, Char.ofNat 103, Char.ofNat 48, Char.ofNat 49, Char.ofNat 51, Char.ofNat 49, Char.ofNat 51, Char.ofNat 47, Char.ofNat 108, Char.ofNat 97, Char.ofNat 119, Char.ofNat 115, Char.ofNat 46, Char.ofNat 70, Char.ofNat 110, Char.ofNat 69, Char.ofNat 120, Char.ofNat 97, Char.ofNat 99, Char.ofNat 116, Char.ofNat 73, Char.ofNat 115, Char.ofNat 68, Char.ofNat 101, Char.ofNat 115, Char.ofNat 107, Char.ofNat 32, Char.ofNat 108, Char.ofNat 111, Char.ofNat 111, Char.ofNat 112, Char.ofNat 46, Char.ofNat 101, Char.ofNat 120, Char.ofNat 97, Char.ofNat 109, Char.ofNat 112, Char.ofNat 108, Char.ofNat 101, Char.ofNat 47, Char.ofNat 103, Char.ofNat 48, Char.ofNat 49, Char.ofNat 51, Char.ofNat 49, Char.ofNat 51, Char.ofNat 47, Char.ofNat 108, Char.ofNat 97, Char.ofNat 119, Char.ofNat 115, Char.ofNat 46, Char.ofNat 70, Char.ofNat 110, Char.ofNat 82, Char.ofNat 105, Char.ofNat 110, Char.ofNat 103, Char.ofNat 115, Char.ofNat 32, Char.ofNat 108, Char.ofNat 111, Char.ofNat 111, Char.ofNat 112, Char.ofNat 46, Char.ofNat 101, Char.ofNat 120, Char.ofNat 97, Char.ofNat 109, Char.ofNat 112, Char.ofNat 108, Char.ofNat 101, Char.ofNat 47, Char.ofNat 103, Char.ofNat 48, Char.ofNat 49, Char.ofNat 51, Char.ofNat 49, Char.ofNat 51, Char.ofNat 47, Char.ofNat 108, Char.ofNat 97, Char.ofNat 119, Char.ofNat 115, Char.ofNat 46, Char.ofNat 70, Char.ofNat 110, Char.ofNat 83, Char.ofNat 116, Char.ofNat 105, Char.ofNat 99, Char.ofNat 107, Char.ofNat 101, Char.ofNat 108, Char.ofNat 98, Char.ofNat 101, Char.ofNat 114, Char.ofNat 103, Char.ofNat 101, Char.ofNat 114, Char.ofNat 32, Char.ofNat 108, Char.ofNat 111, Char.ofNat 111, Char.ofNat 112, Char.ofNat 46, Char.ofNat 101, Char.ofNat 120, Char.ofNat 97, Char.ofNat 109, Char.ofNat 112, Char.ofNat 108, Char.ofNat 101, Char.ofNat 47, Char.ofNat 103, Char.ofNat 48, Char.ofNat 49, Char.ofNat 51, Char.ofNat 49, Char.ofNat 51, Char.ofNat 47, Char.ofNat 108, Char.ofNat 97, Char.ofNat 119, Char.ofNat 115, Char.ofNat 46, Char.ofNat 70, Char.ofNat 110, Char.ofNat 66, Char.ofNat 101, Char.ofNat 114, Char.ofNat 110, Char.ofNat 111, Char.ofNat 117, Char.ofNat 108, Char.ofNat 108, Char.ofNat 105, Char.ofNat 32, Char.ofNat 108, Char.ofNat 111, Char.ofNat 111, Char.ofNat 112, Char.ofNat 46, Char.ofNat 101, Char.ofNat 120, Char.ofNat 97, Char.ofNat 109, Char.ofNat 112, Char.ofNat 108, Char.ofNat 101, Char.ofNat 47, Char.ofNat 103, Char.ofNat 48, Char.ofNat 49, Char.ofNat 51, Char.ofNat 49, Char.ofNat 51, Char.ofNat 47, Char.ofNat 108, Char.ofNat 97, Char.ofNat 119, Char.ofNat 115, Char.ofNat 46, Char.ofNat 70, Char.ofNat 110, Char.ofNat 69, Char.ofNat 120, Char.ofNat 97, Char.ofNat 99, Char.ofNat 116, Char.ofNat 68, Char.ofNat 105, Char.ofNat 118, Char.ofNat 105, Char.ofNat 100, Char.ofNat 101, Char.ofNat 67, Char.ofNat 117, Char.ofNat 98, Char.ofNat 105, Char.ofNat 99, Char.ofNat 32, Char.ofNat 108, Char.ofNat 111, Char.ofNat 111, Char.ofNat 112, Char.ofNat 46, Char.ofNat 101, Char.ofNat 120, Char.ofNat 97, Char.ofNat 109, Char.ofNat 112, Char.ofNat 108, Char.ofNat 101, Char.ofNat 47, Char.ofNat 103, Char.ofNat 48, Char.ofNat 49, Char.ofNat 51, Char.ofNat 49, Char.ofNat 51, Char.ofNat 47, Char.ofNat 108, Char.ofNat 97, Char.ofNat 119, Char.ofNat 115, Char.ofNat 46, Char.ofNat 70, Char.ofNat 110, Char.ofNat 69, Char.ofNat 120, Char.ofNat 97, Char.ofNat 99, Char.ofNat 116, Char.ofNat 80, Char.ofNat 114, Char.ofNat 105, Char.ofNat 109, Char.ofNat 101, Char.ofNat 115, Char.ofNat 79, Char.ofNat 102, Char.ofNat 78, Char.ofNat 111, Char.ofNat 114, Char.ofNat 109, Char.ofNat 32, Char.ofNat 108, Char.ofNat 111, Char.ofNat 111, Char.ofNat 112, Char.ofNat 46, Char.ofNat 101, Char.ofNat 120, Char.ofNat 97, Char.ofNat 109, Char.ofNat 112, Char.ofNat 108, Char.ofNat 101, Char.ofNat 47, Char.ofNat 103, Char.ofNat 48, Char.ofNat 49, Char.ofNat 51, Char.ofNat 49, Char.ofNat 51, Char.ofNat 47, Char.ofNat 108, Char.ofNat 97, Char.ofNat 119, Char.ofNat 115, Char.ofNat 46, Char.ofNat 70, Char.ofNat 110, Char.ofNat 69, Char.ofNat 120, Char.ofNat 97, Char.ofNat 99, Char.ofNat 116, Char.ofNat 82, Char.ofNat 101, Char.ofNat 100, Char.ofNat 117, Char.ofNat 99, Char.ofNat 101, Char.ofNat 100, Char.ofNat 83, Char.ofNat 116, Char.ofNat 105, Char.ofNat 99, Char.ofNat 107, Char.ofNat 101, Char.ofNat 108, Char.ofNat 98, Char.ofNat 101, Char.ofNat 114, Char.ofNat 103, Char.ofNat 101, Char.ofNat 114, Char.ofNat 32, Char.ofNat 108, Char.ofNat 111, Char.ofNat 111, Char.ofNat 112, Char.ofNat 46, Char.ofNat 101, Char.ofNat 120, Char.ofNat 97, Char.ofNat 109, Char.ofNat 112, Char.ofNat 108, Char.ofNat 101, Char.ofNat 47, Char.ofNat 103, Char.ofNat 48, Char.ofNat 49, Char.ofNat 51, Char.ofNat 49, Char.ofNat 51, Char.ofNat 47, Char.ofNat 108, Char.ofNat 97, Char.ofNat 119, Char.ofNat 115, Char.ofNat 46, Char.ofNat 70, Char.ofNat 110, Char.ofNat 69, Char.ofNat 120, Char.ofNat 97, Char.ofNat 99, Char.ofNat 116, Char.ofNat 65, Char.ofNat 99, Char.ofNat 116, Char.ofNat 79, Char.ofNat 110, Char.ofNat 67, Char.ofNat 121, Char.ofNat 99, Char.ofNat 108, Char.ofNat 111, Char.ofNat 32, Char.ofNat 108, Char.ofNat 111, Char.ofNat 111, Char.ofNat 112, Char.ofNat 46, Char.ofNat 101, Char.ofNat 120, Char.ofNat 97, Char.ofNat 109, Char.ofNat 112, Char.ofNat 108, Char.ofNat 101, Char.ofNat 47, Char.ofNat 103, Char.ofNat 48, Char.ofNat 49, Char.ofNat 51, Char.ofNat 49, Char.ofNat 51, Char.ofNat 47, Char.ofNat 108, Char.ofNat 97, Char.ofNat 119, Char.ofNat 115, Char.ofNat 46, Char.ofNat 70, Char.ofNat 110, Char.ofNat 69, Char.ofNat 120, Char.ofNat 97, Char.ofNat 99, Char.ofNat 116, Char.ofNat 66, Char.ofNat 101, Char.ofNat 114, Char.ofNat 110, Char.ofNat 111, Char.ofNat 117, Char.ofNat 108, Char.ofNat 108, Char.ofNat 105, Char.ofNat 79, Char.ofNat 102, Char.ofNat 32, Char.ofNat 108, Char.ofNat 111, Char.ofNat 111, Char.ofNat 112, Char.ofNat 46, Char.ofNat 101, Char.ofNat 120, Char.ofNat 97, Char.ofNat 109, Char.ofNat 112, Char.ofNat 108, Char.ofNat 101, Char.ofNat 47, Char.ofNat 103, Char.ofNat 48, Char.ofNat 49, Char.ofNat 51, Char.ofNat 49, Char.ofNat 51, Char.ofNat 47, Char.ofNat 108, Char.ofNat 97, Char.ofNat 119, Char.ofNat 115, Char.ofNat 46, Char.ofNat 70, Char.ofNat 110, Char.ofNat 69, Char.ofNat 120, Char.ofNat 97, Char.ofNat 99, Char.ofNat 116, Char.ofNat 67, Char.ofNat 121, Char.ofNat 99, Char.ofNat 108, Char.ofNat 111, Char.ofNat 116, Char.ofNat 111, Char.ofNat 109, Char.ofNat 105, Char.ofNat 99, Char.ofNat 85, Char.ofNat 110, Char.ofNat 105, Char.ofNat 116]
set_option maxRecDepth 100000 in
theorem init_word : Try.prog.initOrder = String.ofList initChars := by kernel_rfl
theorem init_list : Try.prog.initOrder.toList = initChars := by rw [init_word, String.toList_ofList]
set_option maxRecDepth 100000
theorem init_head : (behindMainWord (wordsSigns initChars)).head? = some [Char.ofNat 99, Char.ofNat 117, Char.ofNat 116] := by kernel_rfl
theorem init_r1 : (stripLifts liftWords (behindMainWord (wordsSigns initChars))).1 = [] := by kernel_rfl
theorem init_r2 : ((stripLifts liftWords (behindMainWord (wordsSigns initChars))).2.head? == some "cut".toList) = true := by kernel_rfl
theorem init_r3 : Try.prog.laysLater = false := by kernel_rfl
theorem init_r4 : Try.prog.bearsReflect = false := by kernel_rfl
theorem init_r5 : Try.prog.doorFits [] = true := by kernel_rfl
theorem init_lifts : Try.prog.liftsFinal = false := by unfold Program.liftsFinal Program.headLifts; rw [init_list]; kernel_rfl
theorem init_cons : ∃ rest, behindMainWord (wordsSigns initChars) = [Char.ofNat 99, Char.ofNat 117, Char.ofNat 116] :: rest := by
  have h := init_head
  cases hb : behindMainWord (wordsSigns initChars) with
  | nil => rw [hb] at h; cases h
  | cons c rest => rw [hb] at h; injection h with h; subst h; exact ⟨rest, rfl⟩
theorem init_g : ([Char.ofNat 99, Char.ofNat 117, Char.ofNat 116] == "gc".toList) = false := by kernel_rfl
theorem init_s : ([Char.ofNat 99, Char.ofNat 117, Char.ofNat 116] == "spec".toList) = false := by kernel_rfl
theorem init_c : ([Char.ofNat 99, Char.ofNat 117, Char.ofNat 116] == "cut".toList) = true := by kernel_rfl
theorem make_of {P : Program} {rest : List (List Char)} (h : behindMainWord (wordsSigns P.initOrder.toList) = [Char.ofNat 99, Char.ofNat 117, Char.ofNat 116] :: rest) : P.make = some .cut := by
  unfold Program.make
  rw [h]
  simp only [init_g, init_s, init_c, Bool.or_self, Bool.true_or, Bool.false_eq_true, if_false, if_true]
theorem enter_of {P : Program} {rest : List (List Char)} (h : behindMainWord (wordsSigns P.initOrder.toList) = [Char.ofNat 99, Char.ofNat 117, Char.ofNat 116] :: rest)
    (h1 : (stripLifts liftWords ([Char.ofNat 99, Char.ofNat 117, Char.ofNat 116] :: rest)).1 = []) (h2 : ((stripLifts liftWords ([Char.ofNat 99, Char.ofNat 117, Char.ofNat 116] :: rest)).2.head? == some "cut".toList) = true)
    (h3 : P.laysLater = false) (h4 : P.bearsReflect = false) (h5 : P.doorFits [] = true) : P.mayEnter = true := by
  unfold Program.mayEnter
  rw [h]
  simp only [h1, h2, h3, h4, h5, List.contains_nil, Bool.not_false, Bool.or_true, Bool.and_true]
theorem init_make : Try.prog.make = some .cut := by
  obtain ⟨rest, hr⟩ := init_cons
  exact make_of (rest := rest) (by rw [init_list]; exact hr)
theorem init_enter : Try.prog.mayEnter = true := by
  have h1 := init_r1
  have h2 := init_r2
  obtain ⟨rest, hr⟩ := init_cons
  rw [hr] at h1 h2
  exact enter_of (rest := rest) (by rw [init_list]; exact hr) h1 h2 init_r3 init_r4 init_r5
theorem tt_lifts {P : Program} {c : Bool} (h : P.liftsFinal = false) (hc : c = false) : (c == P.liftsFinal) = true := by rw [h, hc]; rfl
theorem tt_make {P : Program} {c : Make} (h : P.make = some .cut) (hc : c = .cut) : (P.make == some c) = true := by rw [h, hc]; rfl
end

open Go.RowKit Go.ChangeShapes Go.Sort Go.WideShapes Go.ChangeAt
set_option linter.unusedVariables false
set_option linter.unusedSimpArgs false
namespace fnExactActOnCyclo
set_option maxRecDepth 100000 in
set_option maxHeartbeats 4000000 in
theorem walk_of (w : World) (x0 : Int) (n0 : Nat) (f0 : Nat → Int) (x1 : Int) (n1 : Nat) (f1 : Nat → Int) {lo0 hi0 : Nat} {u0 : Value} (hs0 : Sl false w lo0 hi0 u0 n0 f0) {lo1 hi1 : Nat} {u1 : Value} (hs1 : Sl false w lo1 hi1 u1 n1 f1) (R0 : Int) (N0 : Nat) (G0 : Nat → Int) (C1 : Int) (hn0 : n0 ≤ 1048576) (hn1 : n1 ≤ 1048576) (hnn : n0 + n1 ≤ 1048576) (hN0 : N0 ≤ 1048576)
    (hS : ∀ (w : World) (o0 : Bool) (l0 h0 : Nat) (v0 : Value) (_ : Sl o0 w l0 h0 v0 n0 f0) (o1 : Bool) (l1 h1 : Nat) (v1 : Value) (_ : Sl o1 w l1 h1 v1 n1 f1), Calls Try.prog 53 #[.agg #[.int .i64 x0, v0], .agg #[.int .i64 x1, v1]] w fun e w' => ∃ a0' k0', e = .returned (.tuple #[.agg #[.int .i64 R0, .slice a0' N0 k0'], .int .i64 C1]) ∧ Sl true w' w.heap.size w'.heap.size (.slice a0' N0 k0') N0 G0 ∧ Below w.heap.size w w')
    (hI : ∀ (w : World) (o0 : Bool) (l0 h0 : Nat) (v0 : Value) (_ : Sl o0 w l0 h0 v0 n0 f0) (o1 : Bool) (l1 h1 : Nat) (v1 : Value) (_ : Sl o1 w l1 h1 v1 n1 f1), Calls Try.prog 52 #[.agg #[.int .i64 x0, v0], .agg #[.int .i64 x1, v1]] w fun e w' => ∃ a0' k0', e = .returned (.tuple #[.agg #[.int .i64 R0, .slice a0' N0 k0'], .int .i64 C1]) ∧ Sl true w' w.heap.size w'.heap.size (.slice a0' N0 k0') N0 G0 ∧ Below w.heap.size w w') :
    Calls Try.prog 11 #[.agg #[.int .i64 x0, u0], .agg #[.int .i64 x1, u1]] w fun e w' => e = .returned (.bool true) ∧ Below w.heap.size w w' := by
  obtain ⟨p0, q0, rfl⟩ := hs0.shape
  obtain ⟨p1, q1, rfl⟩ := hs1.shape
  have HS := Lib.hid hS; clear hS
  have HI := Lib.hid hI; clear hI
  have st0 := St.start w
  have hh0 := hs0.size
  replace st0 := st0.addSl ⟨false, lo0, hi0, .slice p0 n0 q0, n0, f0⟩ hs0
  have hh1 := hs1.size
  replace st0 := st0.addSl ⟨false, lo1, hi1, .slice p1 n1 q1, n1, f1⟩ hs1
  replace st0 := (st0.alloc (.cells #[.int .i64 x0, .slice p0 n0 q0] 37)).addBox _ [.int .i64 x0, .slice p0 n0 q0] (Box.made _ _ _ _ (fun j v h => by simpa using h))
  replace st0 := (st0.alloc (.cells #[.int .i64 x1, .slice p1 n1 q1] 35)).addBox _ [.int .i64 x1, .slice p1 n1 q1] (Box.made _ _ _ _ (fun j v h => by simpa using h))
  simp only [World.size_alloc] at st0
  clear hs0 hs1
  go_enter Try.func11, Try.ntmps11
  go_wp2_with fail
  refine (szRing_yes _ _ _ _ _ (by omega) (by omega)).mono ?_
  rintro e w1 ⟨rfl, bw1⟩
  have st1 := st0.keep bw1
  have hz_w1 := bw1.size
  try simp only [World.size_alloc] at hz_w1
  clear st0 bw1 
  obtain ⟨c_a0_0, c_a0_1⟩ := (st1.box 1 (w.heap.size, [.int .i64 x0, .slice p0 n0 q0]) rfl).cell2
  obtain ⟨c_a1_0, c_a1_1⟩ := (st1.box 0 (w.heap.size + 1, [.int .i64 x1, .slice p1 n1 q1]) rfl).cell2
  go_wp2_with fail
  refine (szCyclo_yes _ _ _ _ _ (by omega) (by omega)).mono ?_
  rintro e w2 ⟨rfl, bw2⟩
  have st2 := st1.keep bw2
  have hz_w2 := bw2.size
  try simp only [World.size_alloc] at hz_w2
  clear st1 bw2 
  clear c_a0_0 c_a0_1 c_a1_0 c_a1_1
  obtain ⟨c_a0_0, c_a0_1⟩ := (st2.box 1 (w.heap.size, [.int .i64 x0, .slice p0 n0 q0]) rfl).cell2
  obtain ⟨c_a1_0, c_a1_1⟩ := (st2.box 0 (w.heap.size + 1, [.int .i64 x1, .slice p1 n1 q1]) rfl).cell2
  go_wp2_with fail
  go_cut [6, 7] (fun s0 s1 wx => ∃ bq loq hiq aq kq, s0 = .pointer (some ⟨bq, 0, none⟩) ∧ s1 = .int .i64 C1 ∧ Sl true wx loq hiq (.slice aq N0 kq) N0 G0 ∧ (bq < loq ∨ hiq ≤ bq) ∧ w2.heap.size ≤ loq ∧ w2.heap.size ≤ bq ∧ bq < wx.heap.size ∧ hiq ≤ wx.heap.size ∧ St w wx ((bq, [.int .i64 R0, .slice aq N0 kq]) :: [(w.heap.size + 1, [.int .i64 x1, .slice p1 n1 q1]), (w.heap.size, [.int .i64 x0, .slice p0 n0 q0])]) [⟨false, lo1, hi1, .slice p1 n1 q1, n1, f1⟩, ⟨false, lo0, hi0, .slice p0 n0 q0, n0, f0⟩])
  case first =>
    go_region_held3 (fun w' => w'.cell? ⟨w.heap.size, 0, none⟩ = some (.int .i64 x0) ∧ w'.cell? ⟨w.heap.size, 1, none⟩ = some (.slice p0 n0 q0) ∧ w'.cell? ⟨w.heap.size + 1, 0, none⟩ = some (.int .i64 x1) ∧ w'.cell? ⟨w.heap.size + 1, 1, none⟩ = some (.slice p1 n1 q1))
      (first | exact ⟨c_a0_0, c_a0_1, c_a1_0, c_a1_1⟩ | (have q0 := (st8.box 1 (w.heap.size, [.int .i64 x0, .slice p0 n0 q0]) rfl).cell2; have q1 := (st8.box 0 (w.heap.size + 1, [.int .i64 x1, .slice p1 n1 q1]) rfl).cell2; with_reducible exact ⟨q0.1, q0.2, q1.1, q1.2⟩) | (have q0 := (st8.box 2 (w.heap.size, [.int .i64 x0, .slice p0 n0 q0]) rfl).cell2; have q1 := (st8.box 1 (w.heap.size + 1, [.int .i64 x1, .slice p1 n1 q1]) rfl).cell2; with_reducible exact ⟨q0.1, q0.2, q1.1, q1.2⟩) | (have q0 := ((st8.boxNew (.int .i64 0) (.slice none 0 0) 24).box 2 (w.heap.size, [.int .i64 x0, .slice p0 n0 q0]) rfl).cell2; have q1 := ((st8.boxNew (.int .i64 0) (.slice none 0 0) 24).box 1 (w.heap.size + 1, [.int .i64 x1, .slice p1 n1 q1]) rfl).cell2; with_reducible exact ⟨q0.1, q0.2, q1.1, q1.2⟩) | (have q0 := (st7.box 1 (w.heap.size, [.int .i64 x0, .slice p0 n0 q0]) rfl).cell2; have q1 := (st7.box 0 (w.heap.size + 1, [.int .i64 x1, .slice p1 n1 q1]) rfl).cell2; with_reducible exact ⟨q0.1, q0.2, q1.1, q1.2⟩) | (have q0 := (st7.box 2 (w.heap.size, [.int .i64 x0, .slice p0 n0 q0]) rfl).cell2; have q1 := (st7.box 1 (w.heap.size + 1, [.int .i64 x1, .slice p1 n1 q1]) rfl).cell2; with_reducible exact ⟨q0.1, q0.2, q1.1, q1.2⟩) | (have q0 := ((st7.boxNew (.int .i64 0) (.slice none 0 0) 24).box 2 (w.heap.size, [.int .i64 x0, .slice p0 n0 q0]) rfl).cell2; have q1 := ((st7.boxNew (.int .i64 0) (.slice none 0 0) 24).box 1 (w.heap.size + 1, [.int .i64 x1, .slice p1 n1 q1]) rfl).cell2; with_reducible exact ⟨q0.1, q0.2, q1.1, q1.2⟩) | (have q0 := (st6.box 1 (w.heap.size, [.int .i64 x0, .slice p0 n0 q0]) rfl).cell2; have q1 := (st6.box 0 (w.heap.size + 1, [.int .i64 x1, .slice p1 n1 q1]) rfl).cell2; with_reducible exact ⟨q0.1, q0.2, q1.1, q1.2⟩) | (have q0 := (st6.box 2 (w.heap.size, [.int .i64 x0, .slice p0 n0 q0]) rfl).cell2; have q1 := (st6.box 1 (w.heap.size + 1, [.int .i64 x1, .slice p1 n1 q1]) rfl).cell2; with_reducible exact ⟨q0.1, q0.2, q1.1, q1.2⟩) | (have q0 := ((st6.boxNew (.int .i64 0) (.slice none 0 0) 24).box 2 (w.heap.size, [.int .i64 x0, .slice p0 n0 q0]) rfl).cell2; have q1 := ((st6.boxNew (.int .i64 0) (.slice none 0 0) 24).box 1 (w.heap.size + 1, [.int .i64 x1, .slice p1 n1 q1]) rfl).cell2; with_reducible exact ⟨q0.1, q0.2, q1.1, q1.2⟩) | (have q0 := ((st8.boxNew (.int .i64 R0) (.slice a8 N0 k8) 24).box 2 (w.heap.size, [.int .i64 x0, .slice p0 n0 q0]) rfl).cell2; have q1 := ((st8.boxNew (.int .i64 R0) (.slice a8 N0 k8) 24).box 1 (w.heap.size + 1, [.int .i64 x1, .slice p1 n1 q1]) rfl).cell2; with_reducible exact ⟨q0.1, q0.2, q1.1, q1.2⟩) | (have q0 := ((st2.boxNew (.int .i64 0) (.slice none 0 0) 24).box 2 (w.heap.size, [.int .i64 x0, .slice p0 n0 q0]) rfl).cell2; have q1 := ((st2.boxNew (.int .i64 0) (.slice none 0 0) 24).box 1 (w.heap.size + 1, [.int .i64 x1, .slice p1 n1 q1]) rfl).cell2; with_reducible exact ⟨q0.1, q0.2, q1.1, q1.2⟩) | (have q0 := ((st2.boxNew (.int .i64 0) (.slice none 0 0) 24).drew.box 2 (w.heap.size, [.int .i64 x0, .slice p0 n0 q0]) rfl).cell2; have q1 := ((st2.boxNew (.int .i64 0) (.slice none 0 0) 24).drew.box 1 (w.heap.size + 1, [.int .i64 x1, .slice p1 n1 q1]) rfl).cell2; with_reducible exact ⟨q0.1, q0.2, q1.1, q1.2⟩) | (have q0 := (st2.drew.box 1 (w.heap.size, [.int .i64 x0, .slice p0 n0 q0]) rfl).cell2; have q1 := (st2.drew.box 0 (w.heap.size + 1, [.int .i64 x1, .slice p1 n1 q1]) rfl).cell2; with_reducible exact ⟨q0.1, q0.2, q1.1, q1.2⟩) | exact ⟨cell_set2 (st8.box 2 (w.heap.size, [.int .i64 x0, .slice p0 n0 q0]) rfl).cell2.1 (by omega), cell_set2 (st8.box 2 (w.heap.size, [.int .i64 x0, .slice p0 n0 q0]) rfl).cell2.2 (by omega), cell_set2 (st8.box 1 (w.heap.size + 1, [.int .i64 x1, .slice p1 n1 q1]) rfl).cell2.1 (by omega), cell_set2 (st8.box 1 (w.heap.size + 1, [.int .i64 x1, .slice p1 n1 q1]) rfl).cell2.2 (by omega)⟩)
      (first
        | (go_at_call 71; have _g := b6; refine (toCyclo_any _ _ (by first | (have q := st6.sl 0 ⟨false, lo1, hi1, .slice p1 n1 q1, n1, f1⟩ rfl; dsimp only at q; with_reducible exact q) | (have q := (st6.boxNew (.int .i64 0) (.slice none 0 0) 24).sl 0 ⟨false, lo1, hi1, .slice p1 n1 q1, n1, f1⟩ rfl; dsimp only at q; with_reducible exact q)) hn1).mono ?_; rintro e w7 ⟨a7, k7, rfl, s7, b7⟩
           have hz7 := b7.size
           try simp only [World.size_drew, World.size_alloc] at hz7
           first | have t6 := s6.keep b7 s6.size | have t6 := (s6.alloc _).keep b7 (s6.alloc _).size
           first | have st7 := st6.keep b7 | have st7 := (st6.boxNew (.int .i64 0) (.slice none 0 0) 24).keep b7)
        | (go_at_call 85; skip; refine (toRing_any _ _ (by first | (have q := st2.drew.sl 1 ⟨false, lo0, hi0, .slice p0 n0 q0, n0, f0⟩ rfl; dsimp only at q; with_reducible exact q) | (have q := (st2.boxNew (.int .i64 0) (.slice none 0 0) 24).drew.sl 1 ⟨false, lo0, hi0, .slice p0 n0 q0, n0, f0⟩ rfl; dsimp only at q; with_reducible exact q)) hn0).mono ?_; rintro e w6 ⟨a6, k6, rfl, s6, b6⟩
           have hz6 := b6.size
           try simp only [World.size_drew, World.size_alloc] at hz6
           first | have st6 := st2.drew.keep b6 | have st6 := (st2.boxNew (.int .i64 0) (.slice none 0 0) 24).drew.keep b6)
        | (go_at_call 53; refine (HS.out _ _ _ _ _ (by first | with_reducible exact t6 | with_reducible exact (t6.alloc _)) _ _ _ _ (by first | with_reducible exact s7 | with_reducible exact (s7.alloc _))).mono ?_; rintro e w8 ⟨a8, k8, rfl, s8, b8⟩
           have hz8 := b8.size
           try simp only [World.size_drew, World.size_alloc] at hz8
           first | have st8 := st7.keep b8 | have st8 := (st7.boxNew (.int .i64 0) (.slice none 0 0) 24).keep b8
           try (obtain ⟨o0, o1⟩ := (st8.box 0 (_, [.int .i64 0, .slice none 0 0]) rfl).cell2
                have oz := (st8.box 0 (_, [.int .i64 0, .slice none 0 0]) rfl).2.2
                dsimp only at oz
                try simp only [World.size_alloc, World.size_drew] at o0 o1 oz)))
    all_goals
      go_wp2_with fail
      go_meet
      try simp only [World.size_drew, World.size_alloc] at s8
      first
        | exact ⟨w8.heap.size, _, _, a8, k8, rfl, rfl, s8.alloc _, .inr (Nat.le_refl _), by omega, by omega, by simp, by simp, st8.boxNew _ _ _⟩
        | (have stb := st8.boxSet (u0 := .int .i64 R0) (u1 := .slice a8 N0 k8) (by (try simp only [World.size_alloc, World.size_drew]); omega)
               (by (try simp only [World.size_alloc, World.size_drew]); intro b hb; simp only [List.mem_cons, List.not_mem_nil, or_false] at hb; rcases hb with rfl | rfl <;> dsimp only <;> omega)
               (by (try simp only [World.size_alloc, World.size_drew]); intro s hs'; simp only [List.mem_cons, List.not_mem_nil, or_false] at hs'; rcases hs' with rfl | rfl <;> dsimp only <;> omega)
           try simp only [World.size_alloc, World.size_drew] at stb
           exact ⟨_, _, _, a8, k8, rfl, rfl, (s8.setOther (.inl (by dsimp only; omega)) _).setOther (.inl (by dsimp only; omega)) _, .inl (by omega), by omega, by omega, by simp only [World.size_setCell]; omega, by simp, stb⟩)
  case rest =>
    obtain ⟨bq1, loq1, hiq1, aq1, kq1, rfl, rfl, hs_w3, hd_w3, hl_w3, hb_w3, hz_w3, hh_w3, st3⟩ := hcut
    try clear st2
    try clear c_a0_0
    try clear c_a0_1
    try clear c_a1_0
    try clear c_a1_1
    obtain ⟨w3, hw_w3⟩ : ∃ x : World, x = wc := ⟨_, rfl⟩
    subst hw_w3
    replace st3 := st3.addSl ⟨true, loq1, hiq1, .slice aq1 N0 kq1, N0, G0⟩ hs_w3
    obtain ⟨c_a0_0, c_a0_1⟩ := (st3.box 2 (w.heap.size, [.int .i64 x0, .slice p0 n0 q0]) rfl).cell2
    obtain ⟨c_a1_0, c_a1_1⟩ := (st3.box 1 (w.heap.size + 1, [.int .i64 x1, .slice p1 n1 q1]) rfl).cell2
    have q_0 := st3.sl 2 ⟨false, lo0, hi0, .slice p0 n0 q0, n0, f0⟩ rfl
    dsimp only at q_0
    go_wp2_with fail
    refine (toRing_any _ _ q_0 hn0).mono ?_
    rintro e w4 ⟨aw4, kw4, rfl, sw4, bw4⟩
    have st4 := st3.keep bw4
    have hz_w4 := bw4.size
    try simp only [World.size_alloc] at hz_w4
    try simp only [World.size_alloc] at sw4
    replace st4 := st4.addSl ⟨true, w3.heap.size, w4.heap.size, .slice aw4 n0 kw4, n0, f0⟩ sw4
    replace st4 := (st4.alloc (.cells #[.int .i64 x0, .slice aw4 n0 kw4] 28)).addBox w4.heap.size [.int .i64 x0, .slice aw4 n0 kw4] (Box.made _ _ _ _ (fun j v h => by simpa using h))
    clear st3 bw4 sw4
    clear c_a0_0 c_a0_1 c_a1_0 c_a1_1 q_0
    obtain ⟨c_a0_0, c_a0_1⟩ := (st4.box 3 (w.heap.size, [.int .i64 x0, .slice p0 n0 q0]) rfl).cell2
    obtain ⟨c_a1_0, c_a1_1⟩ := (st4.box 2 (w.heap.size + 1, [.int .i64 x1, .slice p1 n1 q1]) rfl).cell2
    have q_1 := st4.sl 2 ⟨false, lo1, hi1, .slice p1 n1 q1, n1, f1⟩ rfl
    dsimp only at q_1
    go_wp2_with fail
    refine (toCyclo_any _ _ q_1 hn1).mono ?_
    rintro e w5 ⟨aw5, kw5, rfl, sw5, bw5⟩
    have st5 := st4.keep bw5
    have hz_w5 := bw5.size
    try simp only [World.size_alloc] at hz_w5
    try simp only [World.size_alloc] at sw5
    replace st5 := st5.addSl ⟨true, w4.heap.size + 1, w5.heap.size, .slice aw5 n1 kw5, n1, f1⟩ sw5
    replace st5 := (st5.alloc (.cells #[.int .i64 x1, .slice aw5 n1 kw5] 24)).addBox w5.heap.size [.int .i64 x1, .slice aw5 n1 kw5] (Box.made _ _ _ _ (fun j v h => by simpa using h))
    clear st4 bw5 sw5
    clear c_a0_0 c_a0_1 c_a1_0 c_a1_1 q_1
    obtain ⟨c_x0_0, c_x0_1⟩ := (st5.box 1 (w4.heap.size, [.int .i64 x0, .slice aw4 n0 kw4]) rfl).cell2
    obtain ⟨c_x1_0, c_x1_1⟩ := (st5.box 0 (w5.heap.size, [.int .i64 x1, .slice aw5 n1 kw5]) rfl).cell2
    have q_0 := st5.sl 1 ⟨true, w3.heap.size, w4.heap.size, .slice aw4 n0 kw4, n0, f0⟩ rfl
    dsimp only at q_0
    have q_1 := st5.sl 0 ⟨true, w4.heap.size + 1, w5.heap.size, .slice aw5 n1 kw5, n1, f1⟩ rfl
    dsimp only at q_1
    go_wp2_with fail
    refine (HI.out _ _ _ _ _ q_0 _ _ _ _ q_1).mono ?_
    rintro e w6 ⟨aw6, kw6, rfl, sw6, bw6⟩
    have st6 := st5.keep bw6
    have hz_w6 := bw6.size
    try simp only [World.size_alloc] at hz_w6
    try simp only [World.size_alloc] at sw6
    replace st6 := st6.addSl ⟨true, w5.heap.size + 1, w6.heap.size, .slice aw6 N0 kw6, N0, G0⟩ sw6
    replace st6 := (st6.alloc (.cells #[.int .i64 R0, .slice aw6 N0 kw6] 24)).addBox w6.heap.size [.int .i64 R0, .slice aw6 N0 kw6] (Box.made _ _ _ _ (fun j v h => by simpa using h))
    clear st5 bw6 sw6
    clear c_x0_0 c_x0_1 c_x1_0 c_x1_1 q_0 q_1
    obtain ⟨c_g0_0, c_g0_1⟩ := (st6.box 0 (w6.heap.size, [.int .i64 R0, .slice aw6 N0 kw6]) rfl).cell2
    obtain ⟨c_w0_0, c_w0_1⟩ := (st6.box 3 (bq1, [.int .i64 R0, .slice aq1 N0 kq1]) rfl).cell2
    have q_x := st6.sl 0 ⟨true, w5.heap.size + 1, w6.heap.size, .slice aw6 N0 kw6, N0, G0⟩ rfl
    dsimp only at q_x
    have q_y := st6.sl 3 ⟨true, loq1, hiq1, .slice aq1 N0 kq1, N0, G0⟩ rfl
    dsimp only at q_y
    go_wp2_with fail
    refine (eqCyclo_yes _ _ q_x q_y (fun _ _ => rfl)).mono ?_
    rintro e w7 ⟨rfl, bw7⟩
    have st7 := st6.keep bw7
    have hz_w7 := bw7.size
    try simp only [World.size_alloc] at hz_w7
    clear st6 bw7 
    clear c_g0_0 c_g0_1 c_w0_0 c_w0_1 q_x q_y
    obtain ⟨c_x0_0, c_x0_1⟩ := (st7.box 2 (w4.heap.size, [.int .i64 x0, .slice aw4 n0 kw4]) rfl).cell2
    obtain ⟨c_a0_0, c_a0_1⟩ := (st7.box 5 (w.heap.size, [.int .i64 x0, .slice p0 n0 q0]) rfl).cell2
    go_wp2_with fail
    go_cut [58] (fun sx wx => sx = .bool false ∧ w7.heap.size ≤ wx.heap.size ∧ St w wx [(w6.heap.size, [.int .i64 R0, .slice aw6 N0 kw6]), (w5.heap.size, [.int .i64 x1, .slice aw5 n1 kw5]), (w4.heap.size, [.int .i64 x0, .slice aw4 n0 kw4]), (bq1, [.int .i64 R0, .slice aq1 N0 kq1]), (w.heap.size + 1, [.int .i64 x1, .slice p1 n1 q1]), (w.heap.size, [.int .i64 x0, .slice p0 n0 q0])] [⟨true, w5.heap.size + 1, w6.heap.size, .slice aw6 N0 kw6, N0, G0⟩, ⟨true, w4.heap.size + 1, w5.heap.size, .slice aw5 n1 kw5, n1, f1⟩, ⟨true, w3.heap.size, w4.heap.size, .slice aw4 n0 kw4, n0, f0⟩, ⟨true, loq1, hiq1, .slice aq1 N0 kq1, N0, G0⟩, ⟨false, lo1, hi1, .slice p1 n1 q1, n1, f1⟩, ⟨false, lo0, hi0, .slice p0 n0 q0, n0, f0⟩])
    case first =>
      go_region_held3 (fun w' => w'.cell? ⟨w4.heap.size, 0, none⟩ = some (.int .i64 x0) ∧ w'.cell? ⟨w4.heap.size, 1, none⟩ = some (.slice aw4 n0 kw4) ∧ w'.cell? ⟨w.heap.size, 0, none⟩ = some (.int .i64 x0) ∧ w'.cell? ⟨w.heap.size, 1, none⟩ = some (.slice p0 n0 q0))
        (first | exact ⟨c_x0_0, c_x0_1, c_a0_0, c_a0_1⟩ | exact ⟨cell_later b6 c_x0_0, cell_later b6 c_x0_1, cell_later b6 c_a0_0, cell_later b6 c_a0_1⟩ | exact ⟨cell_later b7 (cell_later b6 c_x0_0), cell_later b7 (cell_later b6 c_x0_1), cell_later b7 (cell_later b6 c_a0_0), cell_later b7 (cell_later b6 c_a0_1)⟩)
        (first
          | (go_at_call 85; refine (toRing_any _ _ (st7.drew.sl 5 ⟨false, lo0, hi0, .slice p0 n0 q0, n0, f0⟩ rfl) hn0).mono ?_; rintro e w6 ⟨a6, k6, rfl, s6, b6⟩)
          | (go_at_call 81; refine (eqRing_yes _ _ ((st7.drew.keep b6).sl 2 ⟨true, w3.heap.size, w4.heap.size, .slice aw4 n0 kw4, n0, f0⟩ rfl) s6 (fun _ _ => rfl)).mono ?_; rintro e w7 ⟨rfl, b7⟩))
      all_goals (go_wp2_with fail; go_meet; exact ⟨rfl, (by have z6 := b6.size; have z7 := b7.size; simp only [World.size_drew, World.size_alloc] at z6 z7 ⊢; omega), (st7.drew.keep b6).keep b7⟩)
    case rest =>
      obtain ⟨rfl, hz_w8, st8⟩ := hcut
      try clear st7
      try clear c_x0_0
      try clear c_x0_1
      try clear c_a0_0
      try clear c_a0_1
      obtain ⟨w8, hw_w8⟩ : ∃ x : World, x = wc := ⟨_, rfl⟩
      subst hw_w8
      obtain ⟨c_x1_0, c_x1_1⟩ := (st8.box 1 (w5.heap.size, [.int .i64 x1, .slice aw5 n1 kw5]) rfl).cell2
      obtain ⟨c_a1_0, c_a1_1⟩ := (st8.box 4 (w.heap.size + 1, [.int .i64 x1, .slice p1 n1 q1]) rfl).cell2
      go_wp2_with fail
      go_cut [63] (fun sx wx => sx = .bool false ∧ w8.heap.size ≤ wx.heap.size ∧ St w wx [(w6.heap.size, [.int .i64 R0, .slice aw6 N0 kw6]), (w5.heap.size, [.int .i64 x1, .slice aw5 n1 kw5]), (w4.heap.size, [.int .i64 x0, .slice aw4 n0 kw4]), (bq1, [.int .i64 R0, .slice aq1 N0 kq1]), (w.heap.size + 1, [.int .i64 x1, .slice p1 n1 q1]), (w.heap.size, [.int .i64 x0, .slice p0 n0 q0])] [⟨true, w5.heap.size + 1, w6.heap.size, .slice aw6 N0 kw6, N0, G0⟩, ⟨true, w4.heap.size + 1, w5.heap.size, .slice aw5 n1 kw5, n1, f1⟩, ⟨true, w3.heap.size, w4.heap.size, .slice aw4 n0 kw4, n0, f0⟩, ⟨true, loq1, hiq1, .slice aq1 N0 kq1, N0, G0⟩, ⟨false, lo1, hi1, .slice p1 n1 q1, n1, f1⟩, ⟨false, lo0, hi0, .slice p0 n0 q0, n0, f0⟩])
      case first =>
        go_region_held3 (fun w' => w'.cell? ⟨w5.heap.size, 0, none⟩ = some (.int .i64 x1) ∧ w'.cell? ⟨w5.heap.size, 1, none⟩ = some (.slice aw5 n1 kw5) ∧ w'.cell? ⟨w.heap.size + 1, 0, none⟩ = some (.int .i64 x1) ∧ w'.cell? ⟨w.heap.size + 1, 1, none⟩ = some (.slice p1 n1 q1))
          (first | exact ⟨c_x1_0, c_x1_1, c_a1_0, c_a1_1⟩ | exact ⟨cell_later b6 c_x1_0, cell_later b6 c_x1_1, cell_later b6 c_a1_0, cell_later b6 c_a1_1⟩ | exact ⟨cell_later b7 (cell_later b6 c_x1_0), cell_later b7 (cell_later b6 c_x1_1), cell_later b7 (cell_later b6 c_a1_0), cell_later b7 (cell_later b6 c_a1_1)⟩)
          (first
            | (go_at_call 71; refine (toCyclo_any _ _ (st8.drew.sl 4 ⟨false, lo1, hi1, .slice p1 n1 q1, n1, f1⟩ rfl) hn1).mono ?_; rintro e w6 ⟨a6, k6, rfl, s6, b6⟩)
            | (go_at_call 73; refine (eqCyclo_yes _ _ ((st8.drew.keep b6).sl 1 ⟨true, w4.heap.size + 1, w5.heap.size, .slice aw5 n1 kw5, n1, f1⟩ rfl) s6 (fun _ _ => rfl)).mono ?_; rintro e w7 ⟨rfl, b7⟩))
        all_goals (go_wp2_with fail; go_meet; exact ⟨rfl, (by have z6 := b6.size; have z7 := b7.size; simp only [World.size_drew, World.size_alloc] at z6 z7 ⊢; omega), (st8.drew.keep b6).keep b7⟩)
      case rest =>
        obtain ⟨rfl, hz_w9, st9⟩ := hcut
        try clear st8
        try clear c_x1_0
        try clear c_x1_1
        try clear c_a1_0
        try clear c_a1_1
        obtain ⟨w9, hw_w9⟩ : ∃ x : World, x = wc := ⟨_, rfl⟩
        subst hw_w9
        obtain ⟨c_x0_0, c_x0_1⟩ := (st9.box 2 (w4.heap.size, [.int .i64 x0, .slice aw4 n0 kw4]) rfl).cell2
        have q_x := st9.sl 2 ⟨true, w3.heap.size, w4.heap.size, .slice aw4 n0 kw4, n0, f0⟩ rfl
        dsimp only at q_x
        go_wp2_with fail
        refine (markRing_any _ _ _ q_x (by omega) (by omega) (by omega)).mono ?_
        rintro e w10 ⟨rfl, sw10, fw10⟩
        have st10 := st9.writeTo fw10 (by omega) (by intro b hb; simp only [List.mem_cons, List.not_mem_nil, or_false] at hb; rcases hb with rfl | rfl | rfl | rfl | rfl | rfl <;> dsimp only <;> omega)
          [⟨true, w5.heap.size + 1, w6.heap.size, .slice aw6 N0 kw6, N0, G0⟩, ⟨true, w4.heap.size + 1, w5.heap.size, .slice aw5 n1 kw5, n1, f1⟩, ⟨true, loq1, hiq1, .slice aq1 N0 kq1, N0, G0⟩, ⟨false, lo1, hi1, .slice p1 n1 q1, n1, f1⟩, ⟨false, lo0, hi0, .slice p0 n0 q0, n0, f0⟩] (by intro s hs; simp only [List.mem_cons, List.not_mem_nil, or_false] at hs; rcases hs with rfl | rfl | rfl | rfl | rfl <;> refine ⟨by simp, ?_⟩ <;> dsimp only <;> omega)
        replace st10 := st10.addSl ⟨true, w3.heap.size, w4.heap.size, .slice aw4 n0 kw4, n0, (fun j : Nat => 1 + (j : Int))⟩ sw10
        have hz_w10 := fw10.size
        try simp only [World.size_alloc] at hz_w10
        clear st9 sw10 fw10
        clear c_x0_0 c_x0_1 q_x
        obtain ⟨c_x1_0, c_x1_1⟩ := (st10.box 1 (w5.heap.size, [.int .i64 x1, .slice aw5 n1 kw5]) rfl).cell2
        have q_x := st10.sl 2 ⟨true, w4.heap.size + 1, w5.heap.size, .slice aw5 n1 kw5, n1, f1⟩ rfl
        dsimp only at q_x
        go_wp2_with fail
        refine (markCyclo_any _ _ _ q_x (by omega) (by omega) (by omega)).mono ?_
        rintro e w11 ⟨rfl, sw11, fw11⟩
        have st11 := st10.writeTo fw11 (by omega) (by intro b hb; simp only [List.mem_cons, List.not_mem_nil, or_false] at hb; rcases hb with rfl | rfl | rfl | rfl | rfl | rfl <;> dsimp only <;> omega)
          [⟨true, w3.heap.size, w4.heap.size, .slice aw4 n0 kw4, n0, (fun j : Nat => 1 + (j : Int))⟩, ⟨true, w5.heap.size + 1, w6.heap.size, .slice aw6 N0 kw6, N0, G0⟩, ⟨true, loq1, hiq1, .slice aq1 N0 kq1, N0, G0⟩, ⟨false, lo1, hi1, .slice p1 n1 q1, n1, f1⟩, ⟨false, lo0, hi0, .slice p0 n0 q0, n0, f0⟩] (by intro s hs; simp only [List.mem_cons, List.not_mem_nil, or_false] at hs; rcases hs with rfl | rfl | rfl | rfl | rfl <;> refine ⟨by simp, ?_⟩ <;> dsimp only <;> omega)
        replace st11 := st11.addSl ⟨true, w4.heap.size + 1, w5.heap.size, .slice aw5 n1 kw5, n1, (fun j : Nat => (1 + (n0 : Int)) + (j : Int))⟩ sw11
        have hz_w11 := fw11.size
        try simp only [World.size_alloc] at hz_w11
        clear st10 sw11 fw11
        clear c_x1_0 c_x1_1 q_x
        obtain ⟨c_g0_0, c_g0_1⟩ := (st11.box 0 (w6.heap.size, [.int .i64 R0, .slice aw6 N0 kw6]) rfl).cell2
        obtain ⟨c_w0_0, c_w0_1⟩ := (st11.box 3 (bq1, [.int .i64 R0, .slice aq1 N0 kq1]) rfl).cell2
        have q_x := st11.sl 2 ⟨true, w5.heap.size + 1, w6.heap.size, .slice aw6 N0 kw6, N0, G0⟩ rfl
        dsimp only at q_x
        have q_y := st11.sl 3 ⟨true, loq1, hiq1, .slice aq1 N0 kq1, N0, G0⟩ rfl
        dsimp only at q_y
        go_wp2_with fail
        refine (eqCyclo_yes _ _ q_x q_y (fun _ _ => rfl)).mono ?_
        rintro e w12 ⟨rfl, bw12⟩
        have st12 := st11.keep bw12
        have hz_w12 := bw12.size
        try simp only [World.size_alloc] at hz_w12
        clear st11 bw12 
        clear c_g0_0 c_g0_1 c_w0_0 c_w0_1 q_x q_y
        obtain ⟨c_g0_0, c_g0_1⟩ := (st12.box 0 (w6.heap.size, [.int .i64 R0, .slice aw6 N0 kw6]) rfl).cell2
        have q_x := st12.sl 2 ⟨true, w5.heap.size + 1, w6.heap.size, .slice aw6 N0 kw6, N0, G0⟩ rfl
        dsimp only at q_x
        go_wp2_with fail
        refine (markCyclo_any _ _ _ q_x (by omega) (by omega) (by omega)).mono ?_
        rintro e w13 ⟨rfl, sw13, fw13⟩
        have st13 := st12.writeTo fw13 (by omega) (by intro b hb; simp only [List.mem_cons, List.not_mem_nil, or_false] at hb; rcases hb with rfl | rfl | rfl | rfl | rfl | rfl <;> dsimp only <;> omega)
          [⟨true, w4.heap.size + 1, w5.heap.size, .slice aw5 n1 kw5, n1, (fun j : Nat => (1 + (n0 : Int)) + (j : Int))⟩, ⟨true, w3.heap.size, w4.heap.size, .slice aw4 n0 kw4, n0, (fun j : Nat => 1 + (j : Int))⟩, ⟨true, loq1, hiq1, .slice aq1 N0 kq1, N0, G0⟩, ⟨false, lo1, hi1, .slice p1 n1 q1, n1, f1⟩, ⟨false, lo0, hi0, .slice p0 n0 q0, n0, f0⟩] (by intro s hs; simp only [List.mem_cons, List.not_mem_nil, or_false] at hs; rcases hs with rfl | rfl | rfl | rfl | rfl <;> refine ⟨by simp, ?_⟩ <;> dsimp only <;> omega)
        replace st13 := st13.addSl ⟨true, w5.heap.size + 1, w6.heap.size, .slice aw6 N0 kw6, N0, (fun j : Nat => 1 + (j : Int))⟩ sw13
        have hz_w13 := fw13.size
        try simp only [World.size_alloc] at hz_w13
        clear st12 sw13 fw13
        clear c_g0_0 c_g0_1 q_x
        obtain ⟨c_g0_0, c_g0_1⟩ := (st13.box 0 (w6.heap.size, [.int .i64 R0, .slice aw6 N0 kw6]) rfl).cell2
        have q_x := st13.sl 0 ⟨true, w5.heap.size + 1, w6.heap.size, .slice aw6 N0 kw6, N0, (fun j : Nat => 1 + (j : Int))⟩ rfl
        dsimp only at q_x
        go_wp2_with fail
        refine (heldCyclo_any _ _ _ q_x (by omega) (by omega) (by omega)).mono ?_
        rintro e w14 ⟨rfl, bw14⟩
        have st14 := st13.keep bw14
        have hz_w14 := bw14.size
        try simp only [World.size_alloc] at hz_w14
        clear st13 bw14 
        clear c_g0_0 c_g0_1 q_x
        obtain ⟨c_a0_0, c_a0_1⟩ := (st14.box 5 (w.heap.size, [.int .i64 x0, .slice p0 n0 q0]) rfl).cell2
        obtain ⟨c_a1_0, c_a1_1⟩ := (st14.box 4 (w.heap.size + 1, [.int .i64 x1, .slice p1 n1 q1]) rfl).cell2
        go_wp2_with fail
        go_cut [15, 16] (fun s0 s1 wx => ∃ bq loq hiq aq kq, s0 = .pointer (some ⟨bq, 0, none⟩) ∧ s1 = .int .i64 C1 ∧ Sl true wx loq hiq (.slice aq N0 kq) N0 G0 ∧ (bq < loq ∨ hiq ≤ bq) ∧ w14.heap.size ≤ loq ∧ w14.heap.size ≤ bq ∧ bq < wx.heap.size ∧ hiq ≤ wx.heap.size ∧ St w wx ((bq, [.int .i64 R0, .slice aq N0 kq]) :: [(w6.heap.size, [.int .i64 R0, .slice aw6 N0 kw6]), (w5.heap.size, [.int .i64 x1, .slice aw5 n1 kw5]), (w4.heap.size, [.int .i64 x0, .slice aw4 n0 kw4]), (bq1, [.int .i64 R0, .slice aq1 N0 kq1]), (w.heap.size + 1, [.int .i64 x1, .slice p1 n1 q1]), (w.heap.size, [.int .i64 x0, .slice p0 n0 q0])]) [⟨true, w5.heap.size + 1, w6.heap.size, .slice aw6 N0 kw6, N0, (fun j : Nat => 1 + (j : Int))⟩, ⟨true, w4.heap.size + 1, w5.heap.size, .slice aw5 n1 kw5, n1, (fun j : Nat => (1 + (n0 : Int)) + (j : Int))⟩, ⟨true, w3.heap.size, w4.heap.size, .slice aw4 n0 kw4, n0, (fun j : Nat => 1 + (j : Int))⟩, ⟨true, loq1, hiq1, .slice aq1 N0 kq1, N0, G0⟩, ⟨false, lo1, hi1, .slice p1 n1 q1, n1, f1⟩, ⟨false, lo0, hi0, .slice p0 n0 q0, n0, f0⟩])
        case first =>
          go_region_held3 (fun w' => w'.cell? ⟨w.heap.size, 0, none⟩ = some (.int .i64 x0) ∧ w'.cell? ⟨w.heap.size, 1, none⟩ = some (.slice p0 n0 q0) ∧ w'.cell? ⟨w.heap.size + 1, 0, none⟩ = some (.int .i64 x1) ∧ w'.cell? ⟨w.heap.size + 1, 1, none⟩ = some (.slice p1 n1 q1))
            (first | exact ⟨c_a0_0, c_a0_1, c_a1_0, c_a1_1⟩ | (have q0 := (st8.box 5 (w.heap.size, [.int .i64 x0, .slice p0 n0 q0]) rfl).cell2; have q1 := (st8.box 4 (w.heap.size + 1, [.int .i64 x1, .slice p1 n1 q1]) rfl).cell2; with_reducible exact ⟨q0.1, q0.2, q1.1, q1.2⟩) | (have q0 := (st8.box 6 (w.heap.size, [.int .i64 x0, .slice p0 n0 q0]) rfl).cell2; have q1 := (st8.box 5 (w.heap.size + 1, [.int .i64 x1, .slice p1 n1 q1]) rfl).cell2; with_reducible exact ⟨q0.1, q0.2, q1.1, q1.2⟩) | (have q0 := ((st8.boxNew (.int .i64 0) (.slice none 0 0) 24).box 6 (w.heap.size, [.int .i64 x0, .slice p0 n0 q0]) rfl).cell2; have q1 := ((st8.boxNew (.int .i64 0) (.slice none 0 0) 24).box 5 (w.heap.size + 1, [.int .i64 x1, .slice p1 n1 q1]) rfl).cell2; with_reducible exact ⟨q0.1, q0.2, q1.1, q1.2⟩) | (have q0 := (st7.box 5 (w.heap.size, [.int .i64 x0, .slice p0 n0 q0]) rfl).cell2; have q1 := (st7.box 4 (w.heap.size + 1, [.int .i64 x1, .slice p1 n1 q1]) rfl).cell2; with_reducible exact ⟨q0.1, q0.2, q1.1, q1.2⟩) | (have q0 := (st7.box 6 (w.heap.size, [.int .i64 x0, .slice p0 n0 q0]) rfl).cell2; have q1 := (st7.box 5 (w.heap.size + 1, [.int .i64 x1, .slice p1 n1 q1]) rfl).cell2; with_reducible exact ⟨q0.1, q0.2, q1.1, q1.2⟩) | (have q0 := ((st7.boxNew (.int .i64 0) (.slice none 0 0) 24).box 6 (w.heap.size, [.int .i64 x0, .slice p0 n0 q0]) rfl).cell2; have q1 := ((st7.boxNew (.int .i64 0) (.slice none 0 0) 24).box 5 (w.heap.size + 1, [.int .i64 x1, .slice p1 n1 q1]) rfl).cell2; with_reducible exact ⟨q0.1, q0.2, q1.1, q1.2⟩) | (have q0 := (st6.box 5 (w.heap.size, [.int .i64 x0, .slice p0 n0 q0]) rfl).cell2; have q1 := (st6.box 4 (w.heap.size + 1, [.int .i64 x1, .slice p1 n1 q1]) rfl).cell2; with_reducible exact ⟨q0.1, q0.2, q1.1, q1.2⟩) | (have q0 := (st6.box 6 (w.heap.size, [.int .i64 x0, .slice p0 n0 q0]) rfl).cell2; have q1 := (st6.box 5 (w.heap.size + 1, [.int .i64 x1, .slice p1 n1 q1]) rfl).cell2; with_reducible exact ⟨q0.1, q0.2, q1.1, q1.2⟩) | (have q0 := ((st6.boxNew (.int .i64 0) (.slice none 0 0) 24).box 6 (w.heap.size, [.int .i64 x0, .slice p0 n0 q0]) rfl).cell2; have q1 := ((st6.boxNew (.int .i64 0) (.slice none 0 0) 24).box 5 (w.heap.size + 1, [.int .i64 x1, .slice p1 n1 q1]) rfl).cell2; with_reducible exact ⟨q0.1, q0.2, q1.1, q1.2⟩) | (have q0 := ((st8.boxNew (.int .i64 R0) (.slice a8 N0 k8) 24).box 6 (w.heap.size, [.int .i64 x0, .slice p0 n0 q0]) rfl).cell2; have q1 := ((st8.boxNew (.int .i64 R0) (.slice a8 N0 k8) 24).box 5 (w.heap.size + 1, [.int .i64 x1, .slice p1 n1 q1]) rfl).cell2; with_reducible exact ⟨q0.1, q0.2, q1.1, q1.2⟩) | (have q0 := ((st14.boxNew (.int .i64 0) (.slice none 0 0) 24).box 6 (w.heap.size, [.int .i64 x0, .slice p0 n0 q0]) rfl).cell2; have q1 := ((st14.boxNew (.int .i64 0) (.slice none 0 0) 24).box 5 (w.heap.size + 1, [.int .i64 x1, .slice p1 n1 q1]) rfl).cell2; with_reducible exact ⟨q0.1, q0.2, q1.1, q1.2⟩) | (have q0 := ((st14.boxNew (.int .i64 0) (.slice none 0 0) 24).drew.box 6 (w.heap.size, [.int .i64 x0, .slice p0 n0 q0]) rfl).cell2; have q1 := ((st14.boxNew (.int .i64 0) (.slice none 0 0) 24).drew.box 5 (w.heap.size + 1, [.int .i64 x1, .slice p1 n1 q1]) rfl).cell2; with_reducible exact ⟨q0.1, q0.2, q1.1, q1.2⟩) | (have q0 := (st14.drew.box 5 (w.heap.size, [.int .i64 x0, .slice p0 n0 q0]) rfl).cell2; have q1 := (st14.drew.box 4 (w.heap.size + 1, [.int .i64 x1, .slice p1 n1 q1]) rfl).cell2; with_reducible exact ⟨q0.1, q0.2, q1.1, q1.2⟩) | exact ⟨cell_set2 (st8.box 6 (w.heap.size, [.int .i64 x0, .slice p0 n0 q0]) rfl).cell2.1 (by omega), cell_set2 (st8.box 6 (w.heap.size, [.int .i64 x0, .slice p0 n0 q0]) rfl).cell2.2 (by omega), cell_set2 (st8.box 5 (w.heap.size + 1, [.int .i64 x1, .slice p1 n1 q1]) rfl).cell2.1 (by omega), cell_set2 (st8.box 5 (w.heap.size + 1, [.int .i64 x1, .slice p1 n1 q1]) rfl).cell2.2 (by omega)⟩)
            (first
              | (go_at_call 71; have _g := b6; refine (toCyclo_any _ _ (by first | (have q := st6.sl 4 ⟨false, lo1, hi1, .slice p1 n1 q1, n1, f1⟩ rfl; dsimp only at q; with_reducible exact q) | (have q := (st6.boxNew (.int .i64 0) (.slice none 0 0) 24).sl 4 ⟨false, lo1, hi1, .slice p1 n1 q1, n1, f1⟩ rfl; dsimp only at q; with_reducible exact q)) hn1).mono ?_; rintro e w7 ⟨a7, k7, rfl, s7, b7⟩
                 have hz7 := b7.size
                 try simp only [World.size_drew, World.size_alloc] at hz7
                 first | have t6 := s6.keep b7 s6.size | have t6 := (s6.alloc _).keep b7 (s6.alloc _).size
                 first | have st7 := st6.keep b7 | have st7 := (st6.boxNew (.int .i64 0) (.slice none 0 0) 24).keep b7)
              | (go_at_call 85; skip; refine (toRing_any _ _ (by first | (have q := st14.drew.sl 5 ⟨false, lo0, hi0, .slice p0 n0 q0, n0, f0⟩ rfl; dsimp only at q; with_reducible exact q) | (have q := (st14.boxNew (.int .i64 0) (.slice none 0 0) 24).drew.sl 5 ⟨false, lo0, hi0, .slice p0 n0 q0, n0, f0⟩ rfl; dsimp only at q; with_reducible exact q)) hn0).mono ?_; rintro e w6 ⟨a6, k6, rfl, s6, b6⟩
                 have hz6 := b6.size
                 try simp only [World.size_drew, World.size_alloc] at hz6
                 first | have st6 := st14.drew.keep b6 | have st6 := (st14.boxNew (.int .i64 0) (.slice none 0 0) 24).drew.keep b6)
              | (go_at_call 52; refine (HI.out _ _ _ _ _ (by first | with_reducible exact t6 | with_reducible exact (t6.alloc _)) _ _ _ _ (by first | with_reducible exact s7 | with_reducible exact (s7.alloc _))).mono ?_; rintro e w8 ⟨a8, k8, rfl, s8, b8⟩
                 have hz8 := b8.size
                 try simp only [World.size_drew, World.size_alloc] at hz8
                 first | have st8 := st7.keep b8 | have st8 := (st7.boxNew (.int .i64 0) (.slice none 0 0) 24).keep b8
                 try (obtain ⟨o0, o1⟩ := (st8.box 0 (_, [.int .i64 0, .slice none 0 0]) rfl).cell2
                      have oz := (st8.box 0 (_, [.int .i64 0, .slice none 0 0]) rfl).2.2
                      dsimp only at oz
                      try simp only [World.size_alloc, World.size_drew] at o0 o1 oz)))
          all_goals
            go_wp2_with fail
            go_meet
            try simp only [World.size_drew, World.size_alloc] at s8
            first
              | exact ⟨w8.heap.size, _, _, a8, k8, rfl, rfl, s8.alloc _, .inr (Nat.le_refl _), by omega, by omega, by simp, by simp, st8.boxNew _ _ _⟩
              | (have stb := st8.boxSet (u0 := .int .i64 R0) (u1 := .slice a8 N0 k8) (by (try simp only [World.size_alloc, World.size_drew]); omega)
                     (by (try simp only [World.size_alloc, World.size_drew]); intro b hb; simp only [List.mem_cons, List.not_mem_nil, or_false] at hb; rcases hb with rfl | rfl | rfl | rfl | rfl | rfl <;> dsimp only <;> omega)
                     (by (try simp only [World.size_alloc, World.size_drew]); intro s hs'; simp only [List.mem_cons, List.not_mem_nil, or_false] at hs'; rcases hs' with rfl | rfl | rfl | rfl | rfl | rfl <;> dsimp only <;> omega)
                 try simp only [World.size_alloc, World.size_drew] at stb
                 exact ⟨_, _, _, a8, k8, rfl, rfl, (s8.setOther (.inl (by dsimp only; omega)) _).setOther (.inl (by dsimp only; omega)) _, .inl (by omega), by omega, by omega, by simp only [World.size_setCell]; omega, by simp, stb⟩)
        case rest =>
          obtain ⟨bq2, loq2, hiq2, aq2, kq2, rfl, rfl, hs_w15, hd_w15, hl_w15, hb_w15, hz_w15, hh_w15, st15⟩ := hcut
          try clear st14
          try clear c_a0_0
          try clear c_a0_1
          try clear c_a1_0
          try clear c_a1_1
          obtain ⟨w15, hw_w15⟩ : ∃ x : World, x = wc := ⟨_, rfl⟩
          subst hw_w15
          replace st15 := st15.addSl ⟨true, loq2, hiq2, .slice aq2 N0 kq2, N0, G0⟩ hs_w15
          obtain ⟨c_h0_0, c_h0_1⟩ := (st15.box 0 (bq2, [.int .i64 R0, .slice aq2 N0 kq2]) rfl).cell2
          obtain ⟨c_w0_0, c_w0_1⟩ := (st15.box 4 (bq1, [.int .i64 R0, .slice aq1 N0 kq1]) rfl).cell2
          have q_x := st15.sl 0 ⟨true, loq2, hiq2, .slice aq2 N0 kq2, N0, G0⟩ rfl
          dsimp only at q_x
          have q_y := st15.sl 4 ⟨true, loq1, hiq1, .slice aq1 N0 kq1, N0, G0⟩ rfl
          dsimp only at q_y
          go_wp2_with fail
          refine (eqCyclo_yes _ _ q_x q_y (fun _ _ => rfl)).mono ?_
          rintro e w16 ⟨rfl, bw16⟩
          have st16 := st15.keep bw16
          have hz_w16 := bw16.size
          try simp only [World.size_alloc] at hz_w16
          clear st15 bw16 
          clear c_h0_0 c_h0_1 c_w0_0 c_w0_1 q_x q_y
          obtain ⟨c_g0_0, c_g0_1⟩ := (st16.box 1 (w6.heap.size, [.int .i64 R0, .slice aw6 N0 kw6]) rfl).cell2
          have q_x := st16.sl 1 ⟨true, w5.heap.size + 1, w6.heap.size, .slice aw6 N0 kw6, N0, (fun j : Nat => 1 + (j : Int))⟩ rfl
          dsimp only at q_x
          go_wp2_with fail
          refine (heldCyclo_any _ _ _ q_x (by omega) (by omega) (by omega)).mono ?_
          rintro e w17 ⟨rfl, bw17⟩
          have st17 := st16.keep bw17
          have hz_w17 := bw17.size
          try simp only [World.size_alloc] at hz_w17
          clear st16 bw17 
          clear c_g0_0 c_g0_1 q_x
          go_wp2_with fail
          go_ret
          exact ⟨rfl, st17.1⟩

set_option maxRecDepth 100000 in
theorem walk_big0 (w : World) (x0 : Int) {lo0 hi0 n0 : Nat} {v0 : Value} {f0 : Nat → Int} (hs0 : Sl false w lo0 hi0 v0 n0 f0) (x1 : Int) {lo1 hi1 n1 : Nat} {v1 : Value} {f1 : Nat → Int} (hs1 : Sl false w lo1 hi1 v1 n1 f1)  (hn0 : 1048576 < n0) :
    Calls Try.prog 11 #[.agg #[.int .i64 x0, v0], .agg #[.int .i64 x1, v1]] w fun e w' => e = .returned (.bool true) ∧ Below w.heap.size w w' := by
  obtain ⟨p0, c0, rfl⟩ := hs0.shape
  have hm0 := hs0.len
  have hm0' := hm0
  unfold maxLen at hm0'
  clear hs0
  obtain ⟨p1, c1, rfl⟩ := hs1.shape
  have hm1 := hs1.len
  have hm1' := hm1
  unfold maxLen at hm1'
  clear hs1
  have st0 := St.start w
  replace st0 := (st0.alloc (.cells #[.int .i64 x0, .slice p0 n0 c0] 37)).addBox _ [.int .i64 x0, .slice p0 n0 c0] (Box.made _ _ _ _ (fun j v h => by simpa using h))
  replace st0 := (st0.alloc (.cells #[.int .i64 x1, .slice p1 n1 c1] 35)).addBox _ [.int .i64 x1, .slice p1 n1 c1] (Box.made _ _ _ _ (fun j v h => by simpa using h))
  simp only [World.size_alloc] at st0
  go_enter Try.func11, Try.ntmps11
  go_wp2_with fail
  refine (szRing_no _ _ _ _ _ hm0 (by omega) (by omega) (by omega)).mono ?_
  rintro e w1 ⟨rfl, b1⟩
  have st1 := st0.keep b1
  clear st0 b1 
  have BB := st1.1
  go_wp2
  go_ret
  exact ⟨rfl, BB⟩

set_option maxRecDepth 100000 in
theorem walk_big1 (w : World) (x0 : Int) {lo0 hi0 n0 : Nat} {v0 : Value} {f0 : Nat → Int} (hs0 : Sl false w lo0 hi0 v0 n0 f0) (x1 : Int) {lo1 hi1 n1 : Nat} {v1 : Value} {f1 : Nat → Int} (hs1 : Sl false w lo1 hi1 v1 n1 f1) (hn0 : n0 ≤ 1048576) (hn1 : 1048576 < n0 + n1) :
    Calls Try.prog 11 #[.agg #[.int .i64 x0, v0], .agg #[.int .i64 x1, v1]] w fun e w' => e = .returned (.bool true) ∧ Below w.heap.size w w' := by
  obtain ⟨p0, c0, rfl⟩ := hs0.shape
  have hm0 := hs0.len
  have hm0' := hm0
  unfold maxLen at hm0'
  clear hs0
  obtain ⟨p1, c1, rfl⟩ := hs1.shape
  have hm1 := hs1.len
  have hm1' := hm1
  unfold maxLen at hm1'
  clear hs1
  have st0 := St.start w
  replace st0 := (st0.alloc (.cells #[.int .i64 x0, .slice p0 n0 c0] 37)).addBox _ [.int .i64 x0, .slice p0 n0 c0] (Box.made _ _ _ _ (fun j v h => by simpa using h))
  replace st0 := (st0.alloc (.cells #[.int .i64 x1, .slice p1 n1 c1] 35)).addBox _ [.int .i64 x1, .slice p1 n1 c1] (Box.made _ _ _ _ (fun j v h => by simpa using h))
  simp only [World.size_alloc] at st0
  go_enter Try.func11, Try.ntmps11
  go_wp2_with fail
  refine (szRing_yes _ _ _ _ _ (by omega) (by omega)).mono ?_
  rintro e w1 ⟨rfl, b1⟩
  have st1 := st0.keep b1
  clear st0 b1 
  obtain ⟨e00, e01⟩ := (st1.box 1 (w.heap.size, [.int .i64 x0, .slice p0 n0 c0]) rfl).cell2
  obtain ⟨e10, e11⟩ := (st1.box 0 (w.heap.size + 1, [.int .i64 x1, .slice p1 n1 c1]) rfl).cell2
  go_wp2_with fail
  refine (szCyclo_no _ _ _ _ _ hm1 (by omega) (by omega) (by omega)).mono ?_
  rintro e w2 ⟨rfl, b2⟩
  have st2 := st1.keep b2
  clear st1 b2 e00 e01 e10 e11
  have BB := st2.1
  go_wp2
  go_ret
  exact ⟨rfl, BB⟩

theorem walk (w : World) (x0 : Int) (_hx0 : inR x0) {lo0 hi0 n0 : Nat} {v0 : Value} {f0 : Nat → Int} (hs0 : Sl false w lo0 hi0 v0 n0 f0) (x1 : Int) (_hx1 : inR x1) {lo1 hi1 n1 : Nat} {v1 : Value} {f1 : Nat → Int} (hs1 : Sl false w lo1 hi1 v1 n1 f1) :
    Calls Try.prog 11 #[.agg #[.int .i64 x0, v0], .agg #[.int .i64 x1, v1]] w fun e w' => e = .returned (.bool true) ∧ Below w.heap.size w w' := by
  by_cases hL0 : n0 ≤ 1048576
  · by_cases hL : n0 + n1 ≤ 1048576
    · by_cases h : RgP x0 n0 f0
      · obtain ⟨N, rfl⟩ := Int.eq_ofNat_of_zero_le (show 0 ≤ x0 by have := h.1; omega)
        by_cases h' : CyP x1 n1 f1
        · obtain ⟨M, rfl⟩ := Int.eq_ofNat_of_zero_le (show 0 ≤ x1 by have := h'.1; omega)
          by_cases hb : N ≠ M ∨ (¬ ∀ j, j < phiN N → 0 ≤ f0 j) ∨ 60 < sumN (phiN N) f0
          · refine walk_of w N n0 f0 M n1 f1 hs0 hs1 0 0 (fun _ => 0) 2 (by omega) (by omega) hL (by omega) (fun w _ _ _ _ hs _ _ _ _ ht => fail_form ?_) (fun w _ _ _ _ hs _ _ _ _ ht => fail_form ?_)
            · obtain ⟨_, _, rfl⟩ := hs.shape
              obtain ⟨_, _, rfl⟩ := ht.shape
              exact ActOnCyclo_spec_two N M w hs ht h h' hb
            · obtain ⟨_, _, rfl⟩ := hs.shape
              obtain ⟨_, _, rfl⟩ := ht.shape
              by_cases hne : N = M
              · subst hne
                by_cases hpos : ∀ j, j < phiN N → 0 ≤ f0 j
                · have h60 : 60 < sumN (phiN N) f0 := by
                    rcases hb with q | q | q
                    · exact absurd rfl q
                    · exact absurd hpos q
                    · exact q
                  exact ActOnCyclo_impl_big N w hs ht h h' hpos h60
                · exact ActOnCyclo_impl_neg N w hs ht h h' hpos
              · exact ActOnCyclo_impl_mod N M w hs ht h h' hne
          · have hNM : N = M := by
              by_cases e : N = M
              · exact e
              · exact absurd (.inl e) hb
            subst hNM
            have hpos : ∀ j, j < phiN N → 0 ≤ f0 j := by
              by_cases e : ∀ j, j < phiN N → 0 ≤ f0 j
              · exact e
              · exact absurd (.inr (.inl e)) hb
            have h60 : sumN (phiN N) f0 ≤ 60 := by
              by_cases e : 60 < sumN (phiN N) f0
              · exact absurd (.inr (.inr e)) hb
              · omega
            have hp := phi_le40 N (by have := h.2.1; omega)
            by_cases hpr : prGok N (acG N f0 f1) 0 (cntA f0 (phiN N))
            · refine walk_of w N n0 f0 N n1 f1 hs0 hs1 N (phiN N) (prG N (acG N f0 f1) 0 (cntA f0 (phiN N))) 0 (by omega) (by omega) hL (by omega) (fun w _ _ _ _ hs _ _ _ _ ht => ?_) (fun w _ _ _ _ hs _ _ _ _ ht => ?_)
              · obtain ⟨_, _, rfl⟩ := hs.shape
                obtain ⟨_, _, rfl⟩ := ht.shape
                refine (ActOnCyclo_spec_prod N w hs ht h h' hpos h60).mono fun e w' ⟨hc, hB⟩ => ?_
                rcases hc with ⟨_, a', k', he, hS⟩ | ⟨hn, _⟩
                · exact ⟨a', k', he, hS, hB⟩
                · exact absurd hpr hn
              · obtain ⟨_, _, rfl⟩ := hs.shape
                obtain ⟨_, _, rfl⟩ := ht.shape
                refine (ActOnCyclo_impl_prod N w hs ht h h' hpos h60).mono fun e w' ⟨hc, hB⟩ => ?_
                rcases hc with ⟨_, a', k', he, hS⟩ | ⟨hn, _⟩
                · exact ⟨a', k', he, hS, hB⟩
                · exact absurd hpr hn
            · refine walk_of w N n0 f0 N n1 f1 hs0 hs1 0 0 (fun _ => 0) 3 (by omega) (by omega) hL (by omega) (fun w _ _ _ _ hs _ _ _ _ ht => fail_form ?_) (fun w _ _ _ _ hs _ _ _ _ ht => fail_form ?_)
              · obtain ⟨_, _, rfl⟩ := hs.shape
                obtain ⟨_, _, rfl⟩ := ht.shape
                refine (ActOnCyclo_spec_prod N w hs ht h h' hpos h60).mono fun e w' ⟨hc, hB⟩ => ?_
                rcases hc with ⟨hn, _⟩ | ⟨_, he⟩
                · exact absurd hn hpr
                · exact ⟨he, hB⟩
              · obtain ⟨_, _, rfl⟩ := hs.shape
                obtain ⟨_, _, rfl⟩ := ht.shape
                refine (ActOnCyclo_impl_prod N w hs ht h h' hpos h60).mono fun e w' ⟨hc, hB⟩ => ?_
                rcases hc with ⟨hn, _⟩ | ⟨_, he⟩
                · exact absurd hn hpr
                · exact ⟨he, hB⟩
        · refine walk_of w N n0 f0 x1 n1 f1 hs0 hs1 0 0 (fun _ => 0) 1 (by omega) (by omega) hL (by omega) (fun w _ _ _ _ hs _ _ _ _ ht => fail_form ?_) (fun w _ _ _ _ hs _ _ _ _ ht => fail_form ?_)
          · obtain ⟨_, _, rfl⟩ := hs.shape
            obtain ⟨_, _, rfl⟩ := ht.shape
            exact ActOnCyclo_spec_cyclo N x1 w hs ht h h'
          · obtain ⟨_, _, rfl⟩ := hs.shape
            obtain ⟨_, _, rfl⟩ := ht.shape
            exact ActOnCyclo_impl_cyclo N x1 w hs ht h h'
      · refine walk_of w x0 n0 f0 x1 n1 f1 hs0 hs1 0 0 (fun _ => 0) 1 (by omega) (by omega) hL (by omega) (fun w _ _ _ _ hs _ _ _ _ ht => fail_form ?_) (fun w _ _ _ _ hs _ _ _ _ ht => fail_form ?_)
        · obtain ⟨_, _, rfl⟩ := hs.shape
          obtain ⟨_, _, rfl⟩ := ht.shape
          exact ActOnCyclo_spec_ring x0 x1 w hs ht h
        · obtain ⟨_, _, rfl⟩ := hs.shape
          obtain ⟨_, _, rfl⟩ := ht.shape
          exact ActOnCyclo_impl_ring x0 x1 w hs ht h
    · exact walk_big1 w x0 hs0 x1 hs1 hL0 (by omega)
  · exact walk_big0 w x0 hs0 x1 hs1 (by omega)

theorem own : ownKnob Try.prog.godebug = none := by kernel_rfl
theorem laidOut : laidOutB Try.prog = true := by kernel_rfl
set_option maxRecDepth 100000 in
theorem lifted (os : Os) (started : os.Started) (H : Type) (enc : TypeId × Value → H) :
    ReturnsInHanded {} Try.checked os 11 .any (Rows.fnExactActOnCycloSpec.pre6 enc Try.prog Try.f11 Rows.fnExactActOnCycloRow.domain false) (Rows.fnExactActOnCycloSpec.post enc Try.prog Try.f11 false true false false) := by
  refine returnsInHanded_of_change (C := Try.checked) own started (by kernel_rfl) Try.func11
    (ChangeSpec.witness6 (enc := enc) (C := Try.checked) false ⟨#[], #[.agg #[.int .i64 0, .slice none 0 0], .agg #[.int .i64 0, .slice none 0 0]], []⟩ 8 (by kernel_rfl) (by kernel_rfl) (by kernel_rfl) (by kernel_rfl)) ?_
  intro W base args ds gs before hval0 hW hcnd _
  have hval : ∀ (j : Nat) t v, Try.f11.params[j]? = some t → args[j]? = some v → Value.okWide Try.prog W .any base t v := hval0
  have hW' := hW
  obtain ⟨p, q, hA0, hV, rfl, hfz, hnd⟩ := hW
  have hA : DataW.TrodAll enc Try.prog W 0 (fun _ => true) true Try.f11.params.toList args.toList ds p := hA0
  rw [Try.params11] at hA hval
  obtain ⟨v0, vs0, d0, ds0, p0, q0, hargs, rfl, rfl, h0, r0⟩ := trodAll_cons hA
  obtain ⟨v1, vs1, d1, ds1, p1, q1, rfl, rfl, rfl, h1, r1⟩ := trodAll_cons r0
  obtain ⟨rfl, rfl, rfl⟩ := trodAll_nil r1
  obtain rfl : args = #[v0, v1] := by cases args; simp_all
  obtain ⟨rfl, rfl⟩ := trodVars_none hV
  have k0 := h0
  have lt0 : ∀ x ∈ p0, x.block < W.heap.size := by obtain ⟨m, hm⟩ := k0; exact DataW.trod_lt m _ _ _ hm
  obtain ⟨x0, c0, n0, f0, rfl, w0, s0⟩ : ∃ x c n f, v0 = .agg #[.int .i64 x, c] ∧ inR x ∧ Sl false W 0 W.heap.size c n f := by
    obtain ⟨c0, c1, y0, y1, m, rfl, _, _, hy0, hy1⟩ := Joins.open_agg2 Try.underlying37 (by kernel_rfl) (by kernel_rfl) (hval 0 37 v0 rfl rfl) h0
    obtain ⟨x, e0, _, wx⟩ := DataW.trod_int Try.underlying2 hy0
    obtain ⟨n, f, hs⟩ := Sl.came Try.underlying22 Try.underlying2 (by kernel_rfl) hy1
    simp at e0
    exact ⟨x, c1, n, f, by rw [e0], inR_wf wx, hs⟩
  have k1 := h1
  have lt1 : ∀ x ∈ p1, x.block < W.heap.size := by obtain ⟨m, hm⟩ := k1; exact DataW.trod_lt m _ _ _ hm
  obtain ⟨x1, c1, n1, f1, rfl, w1, s1⟩ : ∃ x c n f, v1 = .agg #[.int .i64 x, c] ∧ inR x ∧ Sl false W 0 W.heap.size c n f := by
    obtain ⟨c0, c1, y0, y1, m, rfl, _, _, hy0, hy1⟩ := Joins.open_agg2 Try.underlying35 (by kernel_rfl) (by kernel_rfl) (hval 1 35 v1 rfl rfl) h1
    obtain ⟨x, e0, _, wx⟩ := DataW.trod_int Try.underlying2 hy0
    obtain ⟨n, f, hs⟩ := Sl.came Try.underlying22 Try.underlying2 (by kernel_rfl) hy1
    simp at e0
    exact ⟨x, c1, n, f, by rw [e0], inR_wf wx, hs⟩
  clear hA0 hval0
  refine (walk W x0 (by assumption) s0 x1 (by assumption) s1).mono fun e W' ⟨he, bel⟩ => ?_
  subst he
  exact ⟨_, rfl, _, _, _, [], _, [], hW', trodAll_mk1 (shut_bool Try.underlying4 _), (trodAll_cons_mk (Below.trod laidOut (by kernel_rfl) (of_decide_eq_true (by kernel_rfl)) k0 bel lt0) (trodAll_cons_mk (Below.trod laidOut (by kernel_rfl) (of_decide_eq_true (by kernel_rfl)) k1 bel lt1) trodAll_mk0)), rfl, bel.frame _, fun h => by cases h⟩

theorem over : Rows.fnExactActOnCycloRow.holds Try.pinned (OpenSpec.ofChange Rows.fnExactActOnCycloSpec) :=
  OpenClaim.holds_of_wide 11 Try.f11 rfl rfl rfl rfl rfl rfl rfl ⟨rfl, rfl, rfl, rfl, rfl⟩ rfl rfl rfl rfl rfl (by kernel_rfl) Try.func11 (by unfold joinedFacts; exact (and_tt (and_tt (and_tt (and_tt (and_tt (and_tt (and_tt (and_tt (and_tt (and_tt (and_tt (and_tt (and_tt (and_tt (and_tt (and_tt (and_tt (and_tt (and_tt (and_tt (and_tt (and_tt (and_tt (and_tt (and_tt (and_tt (and_tt (and_tt (and_tt (and_tt (and_tt (by kernel_rfl) (by kernel_rfl)) (by kernel_rfl)) (by kernel_rfl)) (by kernel_rfl)) (by kernel_rfl)) (by kernel_rfl)) (by kernel_rfl)) (by kernel_rfl)) (by kernel_rfl)) (by kernel_rfl)) (by kernel_rfl)) (by kernel_rfl)) (by kernel_rfl)) (by kernel_rfl)) (by kernel_rfl)) (by kernel_rfl)) (by kernel_rfl)) (by kernel_rfl)) (by kernel_rfl)) (by kernel_rfl)) (by kernel_rfl)) (by kernel_rfl)) (by kernel_rfl)) (by kernel_rfl)) init_enter) (tt_lifts init_lifts rfl)) (tt_make init_make rfl)) (by kernel_rfl)) (by kernel_rfl)) (by kernel_rfl)) (by kernel_rfl)))
    (of_decide_eq_true (by kernel_rfl)) (by unfold Func.isWrapper; first | (rw [if_pos (by decide +kernel)]; kernel_rfl) | (rw [if_neg (by decide +kernel)]; exact ⟨rfl, rfl⟩))
    (fun os started H enc _ => lifted os started H enc)

theorem proved : Rows.FnExactActOnCycloSaid := over
#print axioms proved
end fnExactActOnCyclo
end Go.Proofs.Ytnhpodlcgkgpbaa
