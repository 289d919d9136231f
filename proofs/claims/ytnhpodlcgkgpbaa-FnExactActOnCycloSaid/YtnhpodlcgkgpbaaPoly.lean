/- Division of lists, and cyclotomic polynomials, of the program and of the model. -/
import Derived.Test.YtnhpodlcgkgpbaaCopy
import Derived.ScopeJumps
import Derived.WalkMore
namespace Go.Proofs.Ytnhpodlcgkgpbaa
open Go.RowKit Go.ChangeShapes Go.Sort

/-- One step of the division: the number at k + d, times the polynomial's numbers below its degree d, is taken off. -/
def stepD (g : Nat → Int) (d k : Nat) (L : Nat → Int) : Nat → Int :=
  if L (k + d) = 0 then L else fun j => if k ≤ j ∧ j < k + d then wrap64 (L j - wrap64 (L (k + d) * g (j - k))) else L j
/-- The division from the top on, k steps. -/
def divL (g : Nat → Int) (d : Nat) : Nat → (Nat → Int) → Nat → Int
  | 0, L => L
  | k + 1, L => divL g d k (stepD g d k L)

theorem stepD_inR {g : Nat → Int} {d k n : Nat} {L : Nat → Int} (h : ∀ j, j < n → inR (L j)) : ∀ j, j < n → inR (stepD g d k L j) := by
  intro j hj
  unfold stepD
  split
  · exact h j hj
  · dsimp only
    split
    · exact inR_wrap _
    · exact h j hj

section
variable {P : Program} {a : Act} {w : World} {Q : Exit → Act → World → Prop}
/-- A scope with jumps back to one label: what holds at every jump is proved once, from the label on. -/
theorem wp_scope_label {c rest : Code} (l : Nat) (J : Act → World → Prop) (μ : Act → World → Nat) (hf : findLabel c l = some (.seq .skip rest))
    (pass : ∀ a w, J a w → rest.wp P (Exit.jump l (fun a' w' => J a' w' ∧ μ a' w' < μ a w) Q) a w)
    (first : Hid (∀ a w, J a w → rest.wp P (Exit.jump l J Q) a w) → c.wp P (Exit.jump l J Q) a w) : (Code.scope c).wp P Q a w :=
  wp_scope_jumps l J μ hf (first (Lib.hid fun a w hJ => wp_mono (pass a w hJ) (fun e a' w' h => by
    cases e <;> first | exact h | exact ⟨h.1, h.2.1⟩))) (fun a w hJ => wp_seq (wp_skip (pass a w hJ)))
end

theorem divL_succ (g : Nat → Int) (d k : Nat) (L : Nat → Int) : divL g d (k + 1) L = divL g d k (stepD g d k L) := rfl
theorem stepD_zero {g : Nat → Int} {d k : Nat} {L : Nat → Int} (h : L (k + d) = 0) : stepD g d k L = L := if_pos h
theorem stepD_some {g : Nat → Int} {d k : Nat} {L : Nat → Int} (h : ¬ L (k + d) = 0) : stepD g d k L = fun j => if k ≤ j ∧ j < k + d then wrap64 (L j - wrap64 (L (k + d) * g (j - k))) else L j := if_neg h

section
variable {o : Bool} {lo hi lo' hi' : Nat} {n : Nat} {g L : Nat → Int}

/-- What holds at the label. -/
def DivJ (a : Option Addr) (cap : Nat) (a' : Option Addr) (cap' n d lo hi : Nat) (g L : Nat → Int) (w : World) (act : Act) (w' : World) : Prop :=
  ∃ (t : Nat) (M : Nat → Int) (u6 u7 u8 u9 u10 u11 u12 u13 u14 u15 u16 u17 u18 u19 u20 u21 u22 u23 u24 u25 u26 u27 u28 u29 u30 u31 u32 u33 u34 u35 u36 u37 u38 u39 u40 u41 u42 u43 u44 u45 u46 u47 u48 : Value), act = { tmps := #[.slice a n cap, .slice a' (d + 1) cap', undef, undef, .int .i64 d, .int .i64 t, u6, u7, u8, u9, u10, u11, u12, u13, u14, u15, u16, u17, u18, u19, u20, u21, u22, u23, u24, u25, u26, u27, u28, u29, u30, u31, u32, u33, u34, u35, u36, u37, u38, u39, u40, u41, u42, u43, u44, u45, u46, u47, u48], defers := [] } ∧
    t ≤ n ∧ Sl true w' lo hi (.slice a n cap) n M ∧ Frame lo hi w w' ∧ divL g d (t - d) M = divL g d (n - d) L

set_option maxHeartbeats 1000000 in
theorem divideList_any {v v' : Value} (d : Nat) (w : World) (hs : Sl true w lo hi v n L) (hp : Sl o w lo' hi' v' (d + 1) g) (hd : hi ≤ lo' ∨ hi' ≤ lo) :
    Calls Try.prog 203 #[v, v'] w fun e w' => e = .returned (.tuple #[]) ∧ Sl true w' lo hi v n (divL g d (n - d) L) ∧ Frame lo hi w w' := by
  obtain ⟨a, cap, rfl⟩ := hs.shape
  obtain ⟨a', cap', rfl⟩ := hp.shape
  have hm := hs.len
  have hm' := hp.len
  unfold maxLen at hm hm'
  have HS := Lib.hid hs; clear hs
  obtain ⟨g2, off2, c2, hv2, hg2, hg2', hcap2, _, hc2, _⟩ := hp.at (Nat.succ_pos d)
  obtain ⟨rfl, rfl⟩ : a' = some ⟨g2, off2, none⟩ ∧ cap' = c2 := by cases hv2; exact ⟨rfl, rfl⟩
  have HC2 := Lib.hid hc2; clear hc2 hv2
  have hg2s : g2 < w.heap.size := Nat.lt_of_lt_of_le hg2' hp.size
  have HP := Lib.hid hp; clear hp
  have HD := Lib.hid (show g2 < lo ∨ hi ≤ g2 by omega); clear hd
  go_enter Try.func203, Try.ntmps203
  go_wp2
  refine wp_scope_label 0 (DivJ a cap (some ⟨g2, off2, none⟩) cap' n d lo hi g L w) (fun act _ => (intOf (act.tmps.getD 5 undef)).toNat) rfl ?_ (fun hp => ?_)
  · rintro _ wq ⟨t, M, u6, u7, u8, u9, u10, u11, u12, u13, u14, u15, u16, u17, u18, u19, u20, u21, u22, u23, u24, u25, u26, u27, u28, u29, u30, u31, u32, u33, u34, u35, u36, u37, u38, u39, u40, u41, u42, u43, u44, u45, u46, u47, u48, rfl, ht, hown, hfr, he⟩
    have HO := Lib.hid hown; clear hown
    have HE := Lib.hid he; clear he
    by_cases htd : t ≤ d
    · go_wp2
      simp only [Exit.jump]
      refine bodyPost_ret (results_none rfl _ _ _) rfl ?_
      have e0 : t - d = 0 := by omega
      have h1 := HE.out
      rw [e0] at h1
      exact ⟨rfl, by rw [← h1]; exact HO.out, hfr⟩
    · obtain ⟨k, rfl⟩ : ∃ k, t = k + d + 1 := ⟨t - d - 1, by omega⟩
      obtain ⟨g1, off1, c1, hv, _⟩ := HO.out.at (by omega)
      obtain ⟨rfl, rfl⟩ : a = some ⟨g1, off1, none⟩ ∧ cap = c1 := by cases hv; exact ⟨rfl, rfl⟩
      clear hv
      obtain ⟨hg1, hg2, _, hc, hz⟩ := HO.out.known (by omega)
      have hck := hc (k + d) (by omega)
      by_cases h0 : M (k + d) = 0
      · have hb : (M (k + d) == 0) = true := beq_iff_eq.2 h0
        have HM := Lib.hid h0; clear h0 hc hz
        go_wp2
        go_step3
        have e1 : k + d + 1 - d = k + 1 := by omega
        have e2 : k + d - d = k := by omega
        have h1 := HE.out
        rw [e1, divL_succ, stepD_zero HM.out] at h1
        refine ⟨rfl, ⟨k + d, M, _, _, _, _, _, _, _, _, _, _, _, _, _, _, _, _, _, _, _, _, _, _, _, _, _, _, _, _, _, _, _, _, _, _, _, _, _, _, _, _, _, _, _, rfl, by omega, HO.out, hfr, by rw [e2]; exact h1⟩, ?_⟩
        simp [intOf]; omega
      · have hb : (M (k + d) == 0) = false := beq_eq_false_iff_ne.2 h0
        have HM := Lib.hid h0; clear h0 hc hz
        go_wp2
        go_loopw [27] (fun s27 wx => ∃ i : Nat, i ≤ d ∧ s27 = .int .i64 i ∧ Sl true wx lo hi (.slice (some ⟨g1, off1, none⟩) n cap) n (fun j => if k ≤ j ∧ j < k + i then wrap64 (M j - wrap64 (M (k + d) * g (j - k))) else M j) ∧ Frame lo hi w wx) (fun s27 _ => d - (intOf s27).toNat)
        case atStart => exact ⟨0, Nat.zero_le _, rfl, HO.out.congr (fun j hj => by rw [if_neg (by omega)]), hfr⟩
        case round =>
          obtain ⟨i, hid, rfl, hown, hfx⟩ := hrel
          have HX := Lib.hid hown; clear hown
          by_cases hlt : i < d
          · obtain ⟨_, _, _, hc, hz⟩ := HX.out.known (by omega)
            have hcx := hc (k + i) (by omega)
            have hcy := hc (k + d) (by omega)
            have hzx := hz rfl (off1 + (k + i))
            rw [if_neg (by omega)] at hcx hcy
            have hcp : wr.cell? ⟨g2, off2 + i, none⟩ = some (.int .i64 (g i)) := by rw [hfx.cell (p := ⟨g2, off2 + i, none⟩) hg2s HD.out]; exact HC2.out i (by omega)
            clear hc hz
            go_wp2
            go_region
            go_wp2
            go_roundw
            case rel =>
              refine ⟨i + 1, by omega, by go_num, ?_, (hfx.setCell hg1 hg2 _).drew⟩
              refine ((HX.out.store (i := k + i) (by omega) (inR_wrap _)).drew).congr (fun j hj => ?_)
              by_cases e : j = k + i
              · subst e
                rw [if_pos ⟨by omega, by omega⟩, if_pos rfl, Nat.add_sub_cancel_left]
              · rw [if_neg e]
                by_cases e2 : k ≤ j ∧ j < k + i
                · rw [if_pos e2, if_pos (by omega)]
                · rw [if_neg e2, if_neg (by omega)]
            case measure => simp [intOf]; omega
          · have hid' : i = d := by omega
            subst hid'
            go_wp2
            go_step3
            have e1 : k + i + 1 - i = k + 1 := by omega
            have e2 : k + i - i = k := by omega
            have h1 := HE.out
            rw [e1, divL_succ, stepD_some HM.out] at h1
            refine ⟨rfl, ⟨k + i, _, _, _, _, _, _, _, _, _, _, _, _, _, _, _, _, _, _, _, _, _, _, _, _, _, _, _, _, _, _, _, _, _, _, _, _, _, _, _, _, _, _, _, _, rfl, by omega, HX.out, hfx, by rw [e2]; exact h1⟩, ?_⟩
            simp [intOf]; omega
  · go_wp2
    go_step3
    refine (by assumption : ∀ (a : Act) (w : World), Code.wp _ _ _ a w → _) _ _ ?_
    refine hp.out _ _ ⟨n, L, _, _, _, _, _, _, _, _, _, _, _, _, _, _, _, _, _, _, _, _, _, _, _, _, _, _, _, _, _, _, _, _, _, _, _, _, _, _, _, _, _, _, _, rfl, Nat.le_refl _, HS.out, Frame.refl _ _ _, rfl⟩
end
end Go.Proofs.Ytnhpodlcgkgpbaa
