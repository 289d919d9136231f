/- FnPeriods holds for every code. -/
import Derived.Test.YtaipaggaodnfkaaPerJ
import Derived.Test.YtaipaggaodnfkaaPerD
import Derived.Test.YtaipaggaodnfkaaPerE
import Derived.Test.YtaipaggaodnfkaaPerG
import Derived.Test.YtaipaggaodnfkaaPerL
import Derived.Test.YtaipaggaodnfkaaPerM
import Derived.Test.YtaipaggaodnfkaaCopy
import Derived.Test.YtaipaggaodnfkaaState
import Derived.Deep.RegionHeld3
import Derived.BigQuiet
import Derived.Laws.BitsAllLaws
import Derived.Test.YtaipaggaodnfkaaRws
import Derived.Test.YtaipaggaodnfkaaAlg
import Derived.Deep.RegionLaw
import Derived.Test.YtaipaggaodnfkaaMulImpl
import Derived.Test.YtaipaggaodnfkaaPlus
import Derived.Test.YtaipaggaodnfkaaRow
import Derived.Deep.AppendLies
import Derived.Laws.OwnMore
import Derived.OwnWalk
import Derived.Test.YtaipaggaodnfkaaTab
import Derived.Test.YtaipaggaodnfkaaInit
import Derived.Deep.DeepCutAuto
import Derived.Deep.CutRange
import Derived.ShutString
import Derived.ChangeOld
import Derived.Lib.SmallJoins
namespace Go.Proofs.Ytaipaggaodnfkaa
set_option linter.unusedVariables false
set_option linter.unusedSimpArgs false
section
set_option linter.unusedVariables false

def fpChk (p e : Nat) : Bool := (List.range e).all (fun i => decide ((cmL p e i (List.range (p - 1))).length = (p - 1) / e)) && decide (sumN e (difN p e) = (((p - 1) / e : Nat) : Int) - 1)
theorem fp_all : ((List.range 62).all fun p => !primeN p || (List.range 13).all fun e => decide (e = 0) || decide ((p - 1) % e ≠ 0) || fpChk p e) = true := by decide +kernel
section
variable {p e : Nat}
theorem cm_len (hp : primeN p = true) (h1 : 1 ≤ e) (h2 : e ≤ 12) (hd : (p - 1) % e = 0) {i : Nat} (hi : i < e) : (cmL p e i (List.range (p - 1))).length = (p - 1) / e := by
  have h := pe_of fp_all hp h1 h2 hd
  unfold fpChk at h
  simp only [Bool.and_eq_true] at h
  exact of_decide_eq_true (all_range h.1 i hi)
theorem dif_sum (hp : primeN p = true) (h1 : 1 ≤ e) (h2 : e ≤ 12) (hd : (p - 1) % e = 0) : sumN e (difN p e) = (((p - 1) / e : Nat) : Int) - 1 := by
  have h := pe_of fp_all hp h1 h2 hd
  unfold fpChk at h
  simp only [Bool.and_eq_true] at h
  exact of_decide_eq_true h.2
theorem cnt_sum (h1 : 1 ≤ e) (i : Nat) : ∀ X, sumN e (cntN p e (X + 1) i) = ((cmL p e i (List.range X)).length : Int)
  | 0 => by
    rw [show sumN e (cntN p e 1 i) = sumN e (fun _ => 0) from sumN_congr (fun j _ => by simp [cntN]), sumN_zero]
    rfl
  | X + 1 => by
    have ih := cnt_sum h1 i X
    have e1 : sumN e (cntN p e (X + 2) i) = sumN e (cntN p e (X + 1) i) + if i = clsN p e (X + 1) then 1 else 0 := by
      rw [show sumN e (cntN p e (X + 2) i) = sumN e (fun j => cntN p e (X + 1) i j + if j = clsN p e (X + 2) then (if i = clsN p e (X + 1) then 1 else 0) else 0) from sumN_congr (fun j _ => by
        rw [show cntN p e (X + 2) i j = cntN p e (X + 1) i j + if 1 ≤ X + 1 ∧ i = clsN p e (X + 1) ∧ j = clsN p e (X + 2) then 1 else 0 from rfl]
        congr 1
        by_cases hj : j = clsN p e (X + 2)
        · rw [if_pos hj]
          by_cases hi : i = clsN p e (X + 1)
          · rw [if_pos hi, if_pos ⟨by omega, hi, hj⟩]
          · rw [if_neg hi, if_neg (fun h => hi h.2.1)]
        · rw [if_neg hj, if_neg (fun h => hj h.2.2)]), sumN_add, sumN_single, if_pos (cls_lt h1)]
    rw [e1, ih, List.range_succ]
    by_cases hi : i = clsN p e (X + 1)
    · rw [if_pos hi, cmL_yes _ hi.symm, List.length_append]; simp
    · rw [if_neg hi, cmL_no _ (fun h => hi h.symm)]; simp
theorem tab_sum (hp : primeN p = true) (h1 : 1 ≤ e) (h2 : e ≤ 12) (hd : (p - 1) % e = 0) {i : Nat} (hi : i < e) : sumN e (tabN p e i) = (((p - 1) / e : Nat) : Int) - if i = clsN p e (p - 1) then 1 else 0 := by
  have hb := primeN_bd hp
  obtain ⟨M, hM⟩ : ∃ M, p - 1 = M + 1 := ⟨p - 2, by omega⟩
  have h := cm_len hp h1 h2 hd hi
  unfold tabN
  rw [hM] at h ⊢
  rw [cnt_sum h1 i M]
  rw [List.range_succ] at h
  by_cases hc : i = clsN p e (M + 1)
  · rw [cmL_yes _ hc.symm, List.length_append, List.length_singleton] at h
    rw [if_pos hc]; omega
  · rw [cmL_no _ (fun h => hc h.symm)] at h
    rw [if_neg hc]; omega
theorem cm_has {x : Nat} (hx1 : 1 ≤ x) (hx2 : x < p) : ∃ j, j < (cmL p e (clsN p e x) (List.range (p - 1))).length ∧ cmF (cmL p e (clsN p e x) (List.range (p - 1))) j = (x : Int) := by
  have hm : x ∈ cmL p e (clsN p e x) (List.range (p - 1)) := by
    unfold cmL
    refine List.mem_map.2 ⟨x - 1, List.mem_filter.2 ⟨List.mem_range.2 (by omega), ?_⟩, by omega⟩
    rw [show x - 1 + 1 = x by omega]; simp
  obtain ⟨j, hj, he⟩ := List.getElem_of_mem hm
  refine ⟨j, hj, ?_⟩
  unfold cmF
  rw [List.getD_eq_getElem?_getD, List.getElem?_eq_getElem hj, he]; rfl
end
end

section
open Go.RowKit Go.ChangeShapes Go.Sort
set_option linter.unusedVariables false

theorem pe_two (p e : Int) : ∃ (c : Int) (m : Nat) (T : Nat → Nat → Int) (D : Nat → Int) (b : Bool),
    ((∃ P E : Nat, p = P ∧ e = E ∧ primeN P = true ∧ 1 ≤ E ∧ E ≤ 12 ∧ (P - 1) % E = 0 ∧ c = 0 ∧ m = E ∧ T = tabN P E ∧ D = difN P E) ∨ (c = 2 ∧ m = 0)) ∧
    (∀ w, Calls Try.prog 19 #[.int .i64 p, .int .i64 e] w fun en w' => ∃ a k, en = .returned (.tuple #[.slice a m k, .int .i64 c]) ∧ Rw true w' w.heap.size w'.heap.size (.slice a m k) m (fun _ => m) T ∧ Below w.heap.size w w') ∧
    (∀ w, Calls Try.prog 18 #[.int .i64 p, .int .i64 e] w fun en w' => ∃ a k, en = .returned (.tuple #[.slice a m k, .int .i64 c]) ∧ Rw true w' w.heap.size w'.heap.size (.slice a m k) m (fun _ => m) T ∧ Below w.heap.size w w') ∧
    (∀ w, Calls Try.prog 32 #[.int .i64 p, .int .i64 e] w fun en w' => ∃ a k, en = .returned (.tuple #[.slice a m k, .int .i64 c]) ∧ Sl true w' w.heap.size w'.heap.size (.slice a m k) m D ∧ Below w.heap.size w w') ∧
    (∀ w, Calls Try.prog 31 #[.int .i64 p, .int .i64 e] w fun en w' => ∃ a k, en = .returned (.tuple #[.slice a m k, .int .i64 c]) ∧ Sl true w' w.heap.size w'.heap.size (.slice a m k) m D ∧ Below w.heap.size w w') ∧
    (∀ w, Calls Try.prog 34 #[.int .i64 p, .int .i64 e] w fun en w' => en = .returned (.tuple #[.bool b, .int .i64 c]) ∧ Below w.heap.size w w') ∧
    (∀ w, Calls Try.prog 33 #[.int .i64 p, .int .i64 e] w fun en w' => en = .returned (.tuple #[.bool b, .int .i64 c]) ∧ Below w.heap.size w w') := by
  by_cases h : HcP p e
  · obtain ⟨P, E, rfl, rfl, c1, c2, c3, c4⟩ := h.nat
    exact ⟨0, E, tabN P E, difN P E, allEq (difN P E) E, .inl ⟨P, E, rfl, rfl, c1, c2, c3, c4, rfl, rfl, rfl, rfl⟩, fun w => CyclotomicTable_spec_ok P E c1 c2 c3 c4 w, fun w => CyclotomicTable_impl_ok P E c1 c2 c3 c4 w, fun w => DifferenceNumbers_spec_ok P E c1 c2 c3 c4 w, fun w => DifferenceNumbers_impl_ok P E c1 c2 c3 c4 w, fun w => IsDifferenceClass_spec_ok P E c1 c2 c3 c4 w, fun w => IsDifferenceClass_impl_ok P E c1 c2 c3 c4 w⟩
  · exact ⟨2, 0, fun _ _ => 0, fun _ => 0, false, .inr ⟨rfl, rfl⟩, fun w => CyclotomicTable_spec_bad p e h w, fun w => CyclotomicTable_impl_bad p e h w, fun w => DifferenceNumbers_spec_bad p e h w, fun w => DifferenceNumbers_impl_bad p e h w, fun w => IsDifferenceClass_spec_bad p e h w, fun w => IsDifferenceClass_impl_bad p e h w⟩
theorem class_two (p e x : Int) : ∃ c r : Int,
    ((∃ P E X : Nat, p = P ∧ e = E ∧ x = X ∧ primeN P = true ∧ 1 ≤ E ∧ E ≤ 12 ∧ (P - 1) % E = 0 ∧ 1 ≤ X ∧ X < P ∧ c = 0 ∧ r = (clsN P E X : Nat)) ∨ c = 2) ∧
    (∀ w, Calls Try.prog 23 #[.int .i64 p, .int .i64 e, .int .i64 x] w fun en w' => en = .returned (.tuple #[.int .i64 r, .int .i64 c]) ∧ Below w.heap.size w w') ∧
    (∀ w, Calls Try.prog 22 #[.int .i64 p, .int .i64 e, .int .i64 x] w fun en w' => en = .returned (.tuple #[.int .i64 r, .int .i64 c]) ∧ Below w.heap.size w w') := by
  by_cases h : HcP p e ∧ 1 ≤ x ∧ x < p
  · obtain ⟨hc, hx1, hx2⟩ := h
    obtain ⟨P, E, rfl, rfl, c1, c2, c3, c4⟩ := hc.nat
    obtain ⟨X, rfl⟩ := Int.eq_ofNat_of_zero_le (show 0 ≤ x by omega)
    exact ⟨0, _, .inl ⟨P, E, X, rfl, rfl, rfl, c1, c2, c3, c4, by omega, by omega, rfl, rfl⟩, fun w => ClassOf_spec_ok P E X c1 c2 c3 c4 (by omega) (by omega) w, fun w => ClassOf_impl_ok P E X c1 c2 c3 c4 (by omega) (by omega) w⟩
  · exact ⟨2, 0, .inr rfl, fun w => ClassOf_spec_bad p e x h w, fun w => ClassOf_impl_out p e x h w⟩
theorem members_two (p e i : Int) (hi : inR i) : ∃ (c : Int) (m : Nat) (G : Nat → Int),
    ((∃ P E : Nat, p = P ∧ e = E ∧ primeN P = true ∧ 1 ≤ E ∧ E ≤ 12 ∧ (P - 1) % E = 0 ∧ c = 0 ∧ m = (P - 1) / E) ∨ c = 2) ∧ m ≤ 60 ∧
    (∀ w, Calls Try.prog 26 #[.int .i64 p, .int .i64 e, .int .i64 i] w fun en w' => ∃ a k, en = .returned (.tuple #[.slice a m k, .int .i64 c]) ∧ Sl true w' w.heap.size w'.heap.size (.slice a m k) m G ∧ Below w.heap.size w w') ∧
    (∀ w, Calls Try.prog 25 #[.int .i64 p, .int .i64 e, .int .i64 i] w fun en w' => ∃ a k, en = .returned (.tuple #[.slice a m k, .int .i64 c]) ∧ Sl true w' w.heap.size w'.heap.size (.slice a m k) m G ∧ Below w.heap.size w w') := by
  by_cases h : HcP p e ∧ 0 ≤ i ∧ i < e
  · obtain ⟨hc, hx1, hx2⟩ := h
    obtain ⟨P, E, rfl, rfl, c1, c2, c3, c4⟩ := hc.nat
    obtain ⟨X, rfl⟩ := Int.eq_ofNat_of_zero_le hx1
    have hb := primeN_bd c1
    have hl := cmL_len P E X (List.range (P - 1))
    rw [List.length_range] at hl
    exact ⟨0, _, _, .inl ⟨P, E, rfl, rfl, c1, c2, c3, c4, rfl, cm_len c1 c2 c3 c4 (show X < E by omega)⟩, by omega, fun w => ClassMembers_spec_ok P E X c1 c2 c3 c4 (by omega) w, fun w => ClassMembers_impl_ok P E X c1 c2 c3 c4 (by omega) w⟩
  · exact ⟨2, 0, fun _ => 0, .inr rfl, by omega, fun w => ClassMembers_spec_bad p e i hi h w, fun w => ClassMembers_impl_bad p e i h w⟩
theorem number_two (p e i j : Int) (hi : inR i) (hj : inR j) : ∃ c r : Int,
    (∀ w, Calls Try.prog 30 #[.int .i64 p, .int .i64 e, .int .i64 i, .int .i64 j] w fun en w' => en = .returned (.tuple #[.int .i64 r, .int .i64 c]) ∧ Below w.heap.size w w') ∧
    (∀ w, Calls Try.prog 29 #[.int .i64 p, .int .i64 e, .int .i64 i, .int .i64 j] w fun en w' => en = .returned (.tuple #[.int .i64 r, .int .i64 c]) ∧ Below w.heap.size w w') := by
  by_cases h : NumP p e i j
  · have h0 := h
    obtain ⟨hc, ⟨hx1, hx2⟩, hy1, hy2⟩ := h
    obtain ⟨P, E, rfl, rfl, c1, c2, c3, c4⟩ := hc.nat
    obtain ⟨X, rfl⟩ := Int.eq_ofNat_of_zero_le hx1
    obtain ⟨Y, rfl⟩ := Int.eq_ofNat_of_zero_le hy1
    exact ⟨0, _, fun w => CyclotomicNumber_spec_ok P E X Y c1 c2 c3 c4 (by omega) (by omega) w, fun w => CyclotomicNumber_impl_ok P E X Y c1 c2 c3 c4 (by omega) (by omega) w⟩
  · exact ⟨2, 0, fun w => CyclotomicNumber_spec_bad p e i j hi hj h w, fun w => CyclotomicNumber_impl_bad p e i j h w⟩
end

section
open Go.RowKit Go.ChangeShapes
set_option linter.unusedVariables false
set_option linter.unusedSimpArgs false
/-- Bytes that are there to be read, below the block B. -/
def Bytes (w : World) (B : Nat) (p : Option Addr) (n : Nat) : Prop := n ≤ 4096 ∧ ∀ j, j < n → ∃ g off c, p = some ⟨g, off, none⟩ ∧ g < B ∧ g < w.heap.size ∧ w.cell? ⟨g, off + j, none⟩ = some (.int .u8 c) ∧ 0 ≤ c ∧ c ≤ 255
/-- A source of drawn numbers in the block b. -/
def Src (w : World) (b : Nat) (p : Option Addr) (n q : Nat) : Prop := ∃ (at_ : Nat) (h : Int), at_ ≤ n ∧ 0 ≤ h ∧ h ≤ 18446744073709551615 ∧ Box w b [.slice p n q, .int .i64 at_, .int .u64 h]
theorem Box.set {w : World} {b i : Nat} {vs : List Value} {u : Value} (h : Box w b vs) (hi : i < vs.length) : Box (w.setCell ⟨b, i, none⟩ u) b (vs.set i u) := by
  obtain ⟨h1, h2, h3⟩ := h
  refine ⟨by simpa using h1, fun j v hj => ?_, fun k => by simpa using h3 k⟩
  by_cases e : j = i
  · subst e
    rw [List.getElem?_set_self (by simpa using hi)] at hj
    obtain rfl : u = v := Option.some.inj hj
    exact World.cell?_setCell_same _ _ _ (h2 j _ (List.getElem?_eq_getElem hi))
  · rw [List.getElem?_set_ne (fun h => e h.symm)] at hj
    rw [setCell_ne _ _ _ _ _ e]
    exact h2 j v hj
theorem Box.drewN {w : World} {b : Nat} {vs : List Value} (h : Box w b vs) (m : Nat) : Box (w.drewN m) b vs := h.keep (below_drewN (Below.refl _ _) m)
theorem wrap_u64 (x : Int) : 0 ≤ IntKind.u64.wrap x ∧ IntKind.u64.wrap x ≤ 18446744073709551615 := by
  have h : IntKind.u64.wrap x = x % 18446744073709551616 := by rfl
  omega
theorem and_small (x : Int) (h : 0 ≤ x) (hx' : x < 18446744073709551616) : 0 ≤ wrap64 (bits .and .u64 x 1073741823) ∧ wrap64 (bits .and .u64 x 1073741823) ≤ 1073741823 := by
  have h1 : 0 ≤ bits .and .u64 x 1073741823 ∧ bits .and .u64 x 1073741823 ≤ 1073741823 := by
    by_cases hx : x < 18446744073709551616
    · rw [u64_and x 1073741823 h hx (by omega) (by omega)]
      have := @Nat.and_le_right x.toNat (1073741823 : Int).toNat
      have e : (1073741823 : Int).toNat = 1073741823 := rfl
      rw [e] at this ⊢
      omega
    · exact absurd hx' hx
  rw [wrap_inR (by unfold inR; omega)]
  exact h1
set_option maxRecDepth 100000 in
set_option maxHeartbeats 1000000 in
theorem l01Next_any (b B : Nat) (p : Option Addr) (n q : Nat) (m : Int) (w : World) (hs : Src w b p n q) (hb : Bytes w B p n) (hB : B ≤ b) (hm : 1 ≤ m) (hm2 : m ≤ 1000000000000) :
    Calls Try.prog 65 #[.pointer (some ⟨b, 0, none⟩), .int .i64 m] w fun e w' => ∃ r : Int, e = .returned (.int .i64 r) ∧ 0 ≤ r ∧ r < m ∧ Src w' b p n q ∧ Frame b (b + 1) w w' := by
  obtain ⟨at_, h, hat, hh1, hh2, hbx⟩ := hs
  have c0 := hbx.2.1 0 _ rfl
  have c1 := hbx.2.1 1 _ rfl
  have c2 := hbx.2.1 2 _ rfl
  have hz := hbx.2.2
  have hbz := hbx.1
  have hn := hb.1
  have HB := Lib.hid hb.2
  have HBX := Lib.hid hbx
  clear hb hbx
  go_enter Try.func65, Try.ntmps65
  go_wp2
  have hH := wrap_u64 (IntKind.u64.wrap (h * 6364136223846793005) + 1442695040888963407)
  have hX := and_small (IntKind.u64.wrap (IntKind.u64.wrap (h * 6364136223846793005) + 1442695040888963407) / 2147483648) (by omega) (by omega)
  generalize wrap64 (bits .and .u64 (IntKind.u64.wrap (IntKind.u64.wrap (h * 6364136223846793005) + 1442695040888963407) / 2147483648) 1073741823) = X at *
  generalize IntKind.u64.wrap (IntKind.u64.wrap (h * 6364136223846793005) + 1442695040888963407) = H at *
  obtain ⟨hX1, hX2⟩ := hX
  obtain ⟨hH1, hH2⟩ := hH
  by_cases hlt : at_ < n
  · obtain ⟨g, off, c, rfl, hg, hgz, hc, hc1, hc2⟩ := HB.out at_ hlt
    have hgb : ¬ (b = g) := by omega
    have hlt2 : (at_ : Int) < n := by omega
    go_quiet (fail)
    go_wp2
    go_quiet (fail)
    go_wp2
    refine bodyPost_ret (v := .int .i64 ((X + c) % m)) (by simp [results, Try.results65, go_sem]) rfl ?_
    refine ⟨_, rfl, Int.emod_nonneg _ (by omega), Int.emod_lt_of_pos _ (by omega), ⟨at_ + 1, H, by omega, hH1, hH2, ?_⟩, ?_⟩
    · have hall : ∀ k, Box (((w.setCell ⟨b, 2, none⟩ (.int .u64 H)).drewN k).setCell ⟨b, 1, none⟩ (.int .i64 ((at_ : Int) + 1))) b [.slice (some ⟨g, off, none⟩) n q, .int .i64 ((at_ + 1 : Nat) : Int), .int .u64 H] := fun k => by
        have h2 := ((HBX.out.set (i := 2) (u := .int .u64 H) (by simp)).drewN k).set (i := 1) (u := .int .i64 ((at_ : Int) + 1)) (by simp)
        simpa using h2
      exact hall _
    · exact (((Frame.refl b (b + 1) w).setCell (Nat.le_refl _) (Nat.lt_succ_self _) _).drewN _).setCell (Nat.le_refl _) (Nat.lt_succ_self _) _
  · have hlt2 : ¬ ((at_ : Int) < n) := by omega
    go_quiet (fail)
    go_wp2
    refine bodyPost_ret (v := .int .i64 (X % m)) (by simp [results, Try.results65, go_sem]) rfl ?_
    refine ⟨_, rfl, Int.emod_nonneg _ (by omega), Int.emod_lt_of_pos _ (by omega), ⟨at_, H, by omega, hH1, hH2, ?_⟩, ?_⟩
    · have h1 := (HBX.out.set (i := 2) (u := .int .u64 H) (by simp)).drewN nq
      simpa using h1
    · exact ((Frame.refl b (b + 1) w).setCell (Nat.le_refl _) (Nat.lt_succ_self _) _).drewN _

theorem Bytes.frame {w w' : World} {B b : Nat} {p : Option Addr} {n : Nat} (h : Bytes w B p n) (hf : Frame b (b + 1) w w') (hB : B ≤ b) : Bytes w' B p n :=
  ⟨h.1, fun j hj => by
    obtain ⟨g, off, c, e, h1, h2, h3, h4⟩ := h.2 j hj
    exact ⟨g, off, c, e, h1, Nat.lt_of_lt_of_le h2 hf.size, (hf.cell (p := ⟨g, off + j, none⟩) h2 (.inl (by show g < b; omega))).trans h3, h4⟩⟩
theorem Bytes.below {w w' : World} {B : Nat} {p : Option Addr} {n : Nat} (h : Bytes w B p n) (hb : Below w.heap.size w w') : Bytes w' B p n :=
  ⟨h.1, fun j hj => by
    obtain ⟨g, off, c, e, h1, h2, h3, h4⟩ := h.2 j hj
    exact ⟨g, off, c, e, h1, Nat.lt_of_lt_of_le h2 hb.size, cell_later hb h3, h4⟩⟩
section
variable {o : Bool} {lo hi k : Nat} {v : Value} {f : Nat → Int}
set_option maxRecDepth 100000 in
theorem l01Pick_any (b B : Nat) (p : Option Addr) (n q : Nat) (w : World) (hs : Src w b p n q) (hb : Bytes w B p n) (hB : B ≤ b) (hl : Sl o w lo hi v k f) (hd : hi ≤ b ∨ b + 1 ≤ lo) (hk : 1 ≤ k) (hk2 : k ≤ 1000) :
    Calls Try.prog 79 #[.pointer (some ⟨b, 0, none⟩), v] w fun e w' => ∃ i, i < k ∧ e = .returned (.int .i64 (f i)) ∧ Src w' b p n q ∧ Frame b (b + 1) w w' := by
  obtain ⟨a, cap, rfl⟩ := hl.shape
  have HL := Lib.hid hl
  clear hl
  go_enter Try.func79, Try.ntmps79
  go_wp2_with fail
  refine (l01Next_any b B p n q k w hs hb hB (by omega) (by omega)).mono ?_
  rintro e w1 ⟨r, rfl, hr1, hr2, hs1, hf1⟩
  obtain ⟨i, rfl⟩ := Int.eq_ofNat_of_zero_le hr1
  have hik : i < k := by omega
  have hl1 := HL.out.keepF hf1 hd
  obtain ⟨g, off, c1, hv, _, _, _, _, hc, _⟩ := hl1.at (by omega)
  obtain ⟨rfl, rfl⟩ : a = some ⟨g, off, none⟩ ∧ cap = c1 := by cases hv; exact ⟨rfl, rfl⟩
  have hck := hc i hik
  clear hv hc
  go_wp2
  go_ret
  exact ⟨i, hik, rfl, hs1, hf1⟩
end
set_option maxRecDepth 100000 in
set_option maxHeartbeats 1000000 in
theorem l01From_any (B : Nat) (p : Option Addr) (n q : Nat) (w : World) (hb : Bytes w B p n) (hB : B ≤ w.heap.size) :
    Calls Try.prog 60 #[.slice p n q] w fun e w' => e = .returned (.pointer (some ⟨w.heap.size, 0, none⟩)) ∧ Src w' w.heap.size p n q ∧ Bytes w' B p n ∧ Below w.heap.size w w' := by
  have hn := hb.1
  have HB := Lib.hid hb
  clear hb
  have H0 := wrap_u64 (13131 + n)
  go_enter Try.func60, Try.ntmps60
  go_wp2
  go_loopw [4] (fun s4 wr => ∃ k : Nat, k ≤ n ∧ s4 = .int .i64 k ∧ (∃ h : Int, 0 ≤ h ∧ h ≤ 18446744073709551615 ∧ Box wr w.heap.size [.slice p n q, .int .i64 0, .int .u64 h]) ∧ Bytes wr B p n ∧ Below w.heap.size w wr) (fun s4 _ => n - (intOf s4).toNat)
  case atStart => exact ⟨0, Nat.zero_le _, rfl, ⟨13131 + n, by omega, by omega, Box.made _ _ _ _ (fun j v h => by simpa using h)⟩, HB.out.below ((Below.refl _ _).alloc (Nat.le_refl _) _), (Below.refl _ _).alloc (Nat.le_refl _) _⟩
  case round =>
    obtain ⟨k, hk, rfl, ⟨h, hh1, hh2, hbx⟩, hby, hbl⟩ := hrel
    have c0 := hbx.2.1 0 _ rfl
    have c1 := hbx.2.1 1 _ rfl
    have c2 := hbx.2.1 2 _ rfl
    have hz := hbx.2.2
    have hbz := hbx.1
    have HBX := Lib.hid hbx
    have HBY := Lib.hid hby
    have HBL := Lib.hid hbl
    clear hbx hby hbl
    by_cases hlt : k < n
    · obtain ⟨g, off, c, rfl, hg, hgz, hc, hc1, hc2⟩ := HBY.out.2 k hlt
      have hgb : ¬ (w.heap.size = g) := by omega
      have hlt2 : (k : Int) < n := by omega
      have hlt3 : (k : Int) < 4096 := by omega
      go_wp2
      go_region
      go_wp2
      go_roundw
      case rel =>
        have hw := wrap_u64 (IntKind.u64.wrap (IntKind.u64.wrap (h * 1099511628211) + c) + 131)
        have hf : Frame w.heap.size (w.heap.size + 1) wr ((wr.setCell ⟨w.heap.size, 2, none⟩ (.int .u64 (IntKind.u64.wrap (IntKind.u64.wrap (IntKind.u64.wrap (h * 1099511628211) + c) + 131)))).drew) := ((Frame.refl w.heap.size (w.heap.size + 1) wr).setCell (Nat.le_refl _) (Nat.lt_succ_self _) _).drew
        refine ⟨k + 1, by omega, by go_num, ⟨_, hw.1, hw.2, ?_⟩, HBY.out.frame hf hB, HBL.out.trans (hf.below (Nat.le_refl _) HBL.out.size)⟩
        have h2 := HBX.out.set (i := 2) (u := .int .u64 (IntKind.u64.wrap (IntKind.u64.wrap (IntKind.u64.wrap (h * 1099511628211) + c) + 131))) (by simp)
        have h3 := h2.keep (Below.refl _ _).drew
        simpa using h3
      case measure => simp [intOf] <;> omega
    · obtain rfl : k = n := by omega
      go_wp2
      go_ret
      exact ⟨rfl, ⟨0, h, Nat.zero_le _, hh1, hh2, HBX.out⟩, HBY.out, HBL.out⟩
end

section
open Go.RowKit Go.ChangeShapes Go.Sort
set_option linter.unusedVariables false
set_option linter.unusedSimpArgs false

section
variable {o : Bool} {lo hi n : Nat} {v : Value} {f : Nat → Int}
set_option maxHeartbeats 800000 in
theorem likeInts_yes {o' : Bool} {lo' hi' : Nat} {v' : Value} {f' : Nat → Int} (w : World) (hs : Sl o w lo hi v n f) (hs' : Sl o' w lo' hi' v' n f') (he : ∀ j, j < n → f j = f' j) :
    Calls Try.prog 27 #[v, v'] w fun e w' => e = .returned (.bool true) ∧ Below w.heap.size w w' := by
  obtain ⟨a, cap, rfl⟩ := hs.shape
  obtain ⟨a', cap', rfl⟩ := hs'.shape
  have hm := hs.len
  unfold maxLen at hm
  have HS := Lib.hid hs; clear hs
  have HS' := Lib.hid hs'; clear hs'
  have HE := Lib.hid he; clear he
  go_enter Try.func27, Try.ntmps27
  go_wp2
  go_loopw [5] (fun i wr => ∃ k : Nat, k ≤ n ∧ i = .int .i64 k ∧ Below w.heap.size w wr) (fun i _ => n - (intOf i).toNat)
  case atStart => exact ⟨0, Nat.zero_le _, rfl, Below.refl _ _⟩
  case round =>
    obtain ⟨k, hk, rfl, hb⟩ := hrel
    by_cases hlt : k < n
    · obtain ⟨g, off, c1, hv, _, hg, _, _, hc, _⟩ := HS.out.at (by omega)
      have hgs : g < w.heap.size := Nat.lt_of_lt_of_le hg HS.out.size
      obtain ⟨rfl, rfl⟩ : a = some ⟨g, off, none⟩ ∧ cap = c1 := by cases hv; exact ⟨rfl, rfl⟩
      obtain ⟨g', off', c1', hv', _, hg', _, _, hc', _⟩ := HS'.out.at (by omega)
      have hgs' : g' < w.heap.size := Nat.lt_of_lt_of_le hg' HS'.out.size
      obtain ⟨rfl, rfl⟩ : a' = some ⟨g', off', none⟩ ∧ cap' = c1' := by cases hv'; exact ⟨rfl, rfl⟩
      clear hv hg hv' hg'
      have hck : wr.cell? ⟨g, off + k, none⟩ = some (.int .i64 (f k)) := by rw [hb.cell (p := ⟨g, off + k, none⟩) hgs]; exact hc k hlt
      have hck' : wr.cell? ⟨g', off' + k, none⟩ = some (.int .i64 (f k)) := by rw [hb.cell (p := ⟨g', off' + k, none⟩) hgs', HE.out k hlt]; exact hc' k hlt
      clear hc hc'
      go_wp2
      go_quiet (fail)
      go_wp2
      go_roundw
      case rel => exact ⟨k + 1, by omega, by go_num, below_drewN hb _⟩
      case measure => simp [intOf]; omega
    · go_wp2
      go_ret
      exact ⟨rfl, hb⟩

end
theorem big_no (p : Option Addr) (n q : Nat) (w : World) (h : n ≤ 4096) : Calls Try.prog 16 #[.slice p n q] w fun e w' => e = .returned (.bool false) ∧ Below w.heap.size w w' := by
  have hh : ¬ (4096 < (n : Int)) := by omega
  go_enter Try.func16, Try.ntmps16
  go_wp2
  go_ret
  exact ⟨rfl, Below.refl _ _⟩
theorem big_yes (p : Option Addr) (n q : Nat) (w : World) (h : 4096 < n) : Calls Try.prog 16 #[.slice p n q] w fun e w' => e = .returned (.bool true) ∧ Below w.heap.size w w' := by
  have hd : decide ((4096 : Int) < (n : Int)) = true := decide_eq_true (by omega)
  go_enter Try.func16, Try.ntmps16
  go_wp2
  go_ret
  exact ⟨by first | rfl | (show Ending.returned (.bool (decide ((4096 : Int) < (n : Int)))) = _; rw [hd]), Below.refl _ _⟩
/-- A code that came in. -/
theorem Bytes.came {H : Type} {enc : TypeId × Value → H} {P : Program} {W : World} {t e : TypeId} {fuel : Nat} {c : Value} {y : DataW H × List MemPlace}
    (ht : P.underlying t = some (.slice e)) (he : P.underlying e = some (.int .u8)) (hc : P.cellsOf e = 1)
    (h : DataW.trod enc P W 0 (fun _ => true) true fuel t [c] = some y) : ∃ p n q, c = .slice p n q ∧ (n ≤ 4096 → Bytes W W.heap.size p n) := by
  rcases open_ints ht he hc h with ⟨hcs, _⟩ | ⟨a, len, cap, zs, hcs, _, hl, hm, hz, _, hcell, hwz⟩
  · cases hcs
    exact ⟨none, 0, 0, rfl, fun _ => ⟨by omega, fun j hj => absurd hj (Nat.not_lt_zero _)⟩⟩
  · cases hcs
    refine ⟨some a, len, cap, rfl, fun hn => ⟨hn, fun j hj => ?_⟩⟩
    simp only [if_true] at hz
    obtain ⟨b, off, rfl, hcells⟩ := ints_at hcell (by omega)
    have hj' : j < zs.length := by omega
    have hwf : (Lit.int .u8 (zs.getD j 0)).wf = true := hwz _ (by
      rw [List.getD_eq_getElem?_getD, List.getElem?_eq_getElem hj']
      exact List.getElem_mem hj')
    have hb : 0 ≤ zs.getD j 0 ∧ zs.getD j 0 ≤ 255 := by simpa [Lit.wf, IntKind.min, IntKind.max, IntKind.signed, IntKind.bits] using hwf
    exact ⟨b, off, zs.getD j 0, rfl, World.block_lt_of_cell? _ _ (hcells 0 (by omega)), World.block_lt_of_cell? _ _ (hcells 0 (by omega)), hcells j hj', hb.1, hb.2⟩
end

section
open Go.RowKit Go.ChangeShapes Go.Sort
set_option linter.unusedVariables false
set_option linter.unusedSimpArgs false
theorem sumN_bd' {f : Nat → Int} : ∀ {m : Nat}, (∀ j, j < m → -1000000000 ≤ f j ∧ f j ≤ 1000000000) → -((m : Int) * 1000000000) ≤ sumN m f ∧ sumN m f ≤ (m : Int) * 1000000000
  | 0, _ => by simp [sumN]
  | m + 1, h => by
    have h1 := sumN_bd' (fun j hj => h j (Nat.lt_succ_of_lt hj))
    have h2 := h m (Nat.lt_succ_self m)
    simp only [sumN]
    omega
section
variable {o o' : Bool} {lo hi lo' hi' n m : Nat} {v V V' : Value} {f : Nat → Int} {ln : Nat → Nat} {F : Nat → Nat → Int}
set_option maxHeartbeats 800000 in
theorem sum_any (w : World) (hs : Sl o w lo hi v n f) (hn : n ≤ 1000) (hf : ∀ j, j < n → -1000000000 ≤ f j ∧ f j ≤ 1000000000) :
    Calls Try.prog 36 #[v] w fun e w' => e = .returned (.int .i64 (sumN n f)) ∧ Below w.heap.size w w' := by
  obtain ⟨a, cap, rfl⟩ := hs.shape
  have HS := Lib.hid hs; clear hs
  have HF := Lib.hid hf; clear hf
  go_enter Try.func36, Try.ntmps36
  go_wp2
  go_loopw [3, 4] (fun s3 s4 wr => ∃ k : Nat, k ≤ n ∧ s3 = .int .i64 (sumN k f) ∧ s4 = .int .i64 k ∧ w = wr) (fun _ s4 _ => n - (intOf s4).toNat)
  case atStart => exact ⟨0, Nat.zero_le _, rfl, rfl, rfl⟩
  case round =>
    obtain ⟨k, hk, rfl, rfl, hw⟩ := hrel
    subst hw
    have hs := sumN_bd' (f := f) (m := k) (fun j hj => HF.out j (by omega))
    by_cases hlt : k < n
    · obtain ⟨g, off, c1, hv, _, hg, _, _, hc, _⟩ := HS.out.at (by omega)
      obtain ⟨rfl, rfl⟩ : a = some ⟨g, off, none⟩ ∧ cap = c1 := by cases hv; exact ⟨rfl, rfl⟩
      have hck := hc k hlt
      have hfk := HF.out k hlt
      have HN := Lib.hid (show sumN (k + 1) f = sumN k f + f k from rfl)
      clear hv hg hc
      generalize sumN k f = A at *
      generalize f k = X at *
      go_wp2
      go_roundw
      case rel => exact ⟨k + 1, by omega, by rw [HN.out], by go_num, by first | rfl | trivial⟩
      case measure => simp [intOf]; omega
    · have hkn : k = n := by omega
      rw [hkn]
      clear hs
      go_wp2
      go_ret
      exact ⟨rfl, Below.refl _ _⟩
set_option maxHeartbeats 800000 in
theorem hasInt_yes (x : Int) (w : World) (hs : Sl o w lo hi v n f) (hx : ∃ j, j < n ∧ f j = x) :
    Calls Try.prog 35 #[v, .int .i64 x] w fun e w' => e = .returned (.bool true) ∧ Below w.heap.size w w' := by
  obtain ⟨a, cap, rfl⟩ := hs.shape
  obtain ⟨J, hJ, hJx⟩ := hx
  have HX := Lib.hid hJx
  have hm := hs.len
  unfold maxLen at hm
  have HS := Lib.hid hs; clear hs hJx
  go_enter Try.func35, Try.ntmps35
  go_wp2
  go_loopw [5] (fun s5 wr => ∃ k : Nat, k ≤ J ∧ s5 = .int .i64 k ∧ w = wr) (fun s5 _ => n - (intOf s5).toNat)
  case atStart => exact ⟨0, Nat.zero_le _, rfl, rfl⟩
  case round =>
    obtain ⟨k, hk, rfl, hw⟩ := hrel
    subst hw
    have hlt : k < n := by omega
    obtain ⟨g, off, c1, hv, _, hg, _, _, hc, _⟩ := HS.out.at (by omega)
    obtain ⟨rfl, rfl⟩ : a = some ⟨g, off, none⟩ ∧ cap = c1 := by cases hv; exact ⟨rfl, rfl⟩
    have hck := hc k hlt
    clear hv hg hc
    by_cases hfx : f k = x
    · rw [hfx] at hck
      clear hfx
      go_wp2
      go_ret
      exact ⟨rfl, Below.refl _ _⟩
    · have hb : (f k == x) = false := beq_eq_false_iff_ne.2 hfx
      have hne : k ≠ J := fun e => hfx (by rw [e]; exact HX.out)
      clear hfx
      go_wp2
      go_roundw
      case rel => exact ⟨k + 1, by omega, by go_num, by first | rfl | trivial⟩
      case measure => simp [intOf]; omega
set_option maxHeartbeats 1600000 in
theorem rows9_yes (w : World) (ha : Rw o w lo hi V m ln F) (hb : Rw o' w lo' hi' V' m ln F) (hm : m ≤ 1000) :
    Calls Try.prog 20 #[V, V'] w fun e w' => e = .returned (.bool true) ∧ Below w.heap.size w w' := by
  obtain ⟨a, cap, rfl⟩ := ha.shape
  obtain ⟨a', cap', rfl⟩ := hb.shape
  have HA := Lib.hid ha; clear ha
  have HB := Lib.hid hb; clear hb
  go_enter Try.func20, Try.ntmps20
  go_wp2
  go_loopw [5] (fun s5 wr => ∃ k : Nat, k ≤ m ∧ s5 = .int .i64 k ∧ Below w.heap.size w wr) (fun s5 _ => m - (intOf s5).toNat)
  case atStart => exact ⟨0, Nat.zero_le _, rfl, Below.refl _ _⟩
  case round =>
    obtain ⟨k, hk, rfl, hbl⟩ := hrel
    have HBL := Lib.hid hbl
    by_cases hlt : k < m
    · obtain ⟨g, off, c1, u, hv, hu⟩ := HA.out.at (by omega)
      obtain ⟨g', off', c1', u', hv', hu'⟩ := HB.out.at (by omega)
      obtain ⟨rfl, rfl⟩ : a = some ⟨g, off, none⟩ ∧ cap = c1 := by cases hv; exact ⟨rfl, rfl⟩
      obtain ⟨rfl, rfl⟩ : a' = some ⟨g', off', none⟩ ∧ cap' = c1' := by cases hv'; exact ⟨rfl, rfl⟩
      have hu2 := hu.keep hbl hu.size
      have hu2' := hu'.keep hbl hu'.size
      have hck := hu2.head hlt
      have hck' := hu2'.head hlt
      have hr := hu2.row hlt
      have hr' := hu2'.row hlt
      obtain ⟨b, c, hub⟩ := hr.shape
      obtain ⟨b', c', hub'⟩ := hr'.shape
      rw [hub] at hck hr
      rw [hub'] at hck' hr'
      have HR := Lib.hid hr
      have HR' := Lib.hid hr'
      clear hv hv' hu hu' hu2 hu2' hr hr' hub hub' hbl
      go_wp2
      go_region_law (go_simp; go_at_call 27; refine (likeInts_yes _ HR.out.drew HR'.out.drew (fun _ _ => rfl)).mono ?_; rintro e w1 ⟨rfl, b1⟩)
      all_goals
        go_wp2
        go_roundw
        case rel => exact ⟨k + 1, by omega, by go_num, by first | exact HBL.out.drew.trans (b1.mono HBL.out.drew.size) | exact (HBL.out.trans (b1.mono HBL.out.size)).drew | exact (HBL.out.drew.trans (b1.mono HBL.out.drew.size)).drew | exact HBL.out.trans (b1.mono HBL.out.size)⟩
        case measure => simp [intOf]; omega
    · clear hbl
      go_wp2
      go_ret
      exact ⟨rfl, HBL.out⟩
end
end

section
open Go.RowKit Go.ChangeShapes
set_option linter.unusedVariables false
set_option linter.unusedSimpArgs false

theorem Src.keep {w w' : World} {b : Nat} {p : Option Addr} {n q : Nat} (h : Src w b p n q) (hb : Below w.heap.size w w') : Src w' b p n q := by
  obtain ⟨a, x, h1, h2, h3, h4⟩ := h
  exact ⟨a, x, h1, h2, h3, h4.keep hb⟩
theorem Src.lt {w : World} {b : Nat} {p : Option Addr} {n q : Nat} (h : Src w b p n q) : b < w.heap.size := by
  obtain ⟨a, x, h1, h2, h3, h4⟩ := h
  exact h4.1
/-- A list just laid. -/
theorem Sl.list (w : World) (xs : List Int) (hx : ∀ x ∈ xs, inR x) (hl : xs.length ≤ maxLen) :
    Sl true (w.alloc (.cells (xs.map (Value.int .i64)).toArray 2)) w.heap.size (w.heap.size + 1) (.slice (some ⟨w.heap.size, 0, none⟩) xs.length xs.length) xs.length (fun j => xs.getD j 0) :=
  Sl.made w _ _ _ _ _ (Nat.le_refl _) hl (fun j hj => by
    rw [List.getD_eq_getElem?_getD, List.getElem?_eq_getElem hj]
    exact hx _ (List.getElem_mem hj)) (fun j hj => by simp [List.getD_eq_getElem?_getD, List.getElem?_eq_getElem hj])
section
variable {b B : Nat} {p : Option Addr} {n q : Nat}
end
end

section
open Go.RowKit Go.ChangeShapes Go.Sort
set_option linter.unusedVariables false
set_option linter.unusedSimpArgs false

theorem cell_set1 {w : World} {b g i k : Nat} {u x : Value} (h : w.cell? ⟨g, k, none⟩ = some x) (hb : g ≠ b) : (w.setCell ⟨b, i, none⟩ u).cell? ⟨g, k, none⟩ = some x :=
  (World.cell?_setCell_other _ _ _ _ (fun e => hb (by injection e with e1; exact e1.symm))).trans h

section
variable {o o' : Bool} {lo hi lo' hi' n m : Nat} {v v' : Value} {f g : Nat → Int}
end
end

section
open Go.RowKit Go.ChangeShapes Go.Sort
set_option linter.unusedVariables false
set_option linter.unusedSimpArgs false

section
variable {o o' : Bool} {lo hi lo' hi' L : Nat} {v v' : Value} {f g : Nat → Int}
end
end

section
open Go.RowKit Go.ChangeShapes Go.Sort
set_option linter.unusedVariables false
set_option linter.unusedSimpArgs false

theorem Box.made2 {w : World} {b : Nat} {v0 v1 : Value} {t : TypeId} (h : b = w.heap.size) : Box (w.alloc (.cells #[v0, v1] t)) b [v0, v1] := by
  subst h
  exact Box.made _ _ _ _ (fun j v h => by simpa using h)
theorem Box.alloc2 {w : World} {b : Nat} {vs : List Value} (h : Box w b vs) (ob : Obj) : Box (w.alloc ob) b vs := h.keep ((Below.refl _ _).alloc (Nat.le_refl _) _)
theorem Box.drew2 {w : World} {b : Nat} {vs : List Value} (h : Box w b vs) : Box w.drew b vs := h.keep (Below.refl _ _).drew
theorem Box.set2_other {w : World} {b c i j : Nat} {u v : Value} {vs : List Value} (h : Box w b vs) (hc : b ≠ c) : Box ((w.setCell ⟨c, i, none⟩ u).setCell ⟨c, j, none⟩ v) b vs :=
  h.keepF (lo := c) (hi := c + 1) (((Frame.refl c (c + 1) w).setCell (Nat.le_refl _) (Nat.lt_succ_self _) _).setCell (Nat.le_refl _) (Nat.lt_succ_self _) _) (by omega)
theorem St.tailB {W w : World} {bs : List (Nat × List Value)} {ss : List SlF} {b : Nat × List Value} (h : St W w (b :: bs) ss) : St W w bs ss := ⟨h.1, fun x hx => h.2.1 x (List.mem_cons_of_mem _ hx), h.2.2⟩
theorem St.set2 {W w : World} {bs : List (Nat × List Value)} {ss : List SlF} {b i j : Nat} {u v : Value} (h : St W w bs ss) (hb : W.heap.size ≤ b) (hbs : ∀ x ∈ bs, x.1 < b ∨ b + 1 ≤ x.1) (hss : ∀ s ∈ ss, s.hi ≤ b ∨ b + 1 ≤ s.lo) :
    St W ((w.setCell ⟨b, i, none⟩ u).setCell ⟨b, j, none⟩ v) bs ss :=
  h.write (lo := b) (hi := b + 1) (((Frame.refl b (b + 1) w).setCell (Nat.le_refl _) (Nat.lt_succ_self _) _).setCell (Nat.le_refl _) (Nat.lt_succ_self _) _) hb hbs hss

section
variable {W w : World} {bs : List (Nat × List Value)} {ss : List SlF} {n u6 u7 c0 c1 : Value} {t : TypeId} {ob : Obj} {lo8 hi8 lo9 hi9 N k8 k9 p r : Nat} {a8 a9 : Option Addr} {f8 f9 : Nat → Int}
theorem fin1 (h : St W w bs ss) (h8 : Sl true w lo8 hi8 (.slice a8 N k8) N f8) (h9 : Sl true w lo9 hi9 (.slice a9 N k9) N f9) :
    St W ((w.alloc (.cells #[n, u6] t)).alloc (.cells #[n, u7] t)) ((w.heap.size + 1, [n, u7]) :: (w.heap.size, [n, u6]) :: bs) (⟨true, lo9, hi9, .slice a9 N k9, N, f9⟩ :: ⟨true, lo8, hi8, .slice a8 N k8, N, f8⟩ :: ss) := by
  have := (((h.addSl ⟨true, lo8, hi8, .slice a8 N k8, N, f8⟩ h8).addSl ⟨true, lo9, hi9, .slice a9 N k9, N, f9⟩ h9).boxNew n u6 t).boxNew n u7 t
  simpa only [World.size_alloc] using this
theorem St.swap {b1 b2 : Nat × List Value} (h : St W w (b1 :: b2 :: bs) ss) : St W w (b2 :: b1 :: bs) ss :=
  ⟨h.1, fun x hx => h.2.1 x (by simp only [List.mem_cons] at hx ⊢; rcases hx with h | h | h <;> simp [h]), h.2.2⟩
theorem fin2 (h : St W w bs ss) (h8 : Sl true w lo8 hi8 (.slice a8 N k8) N f8) (h9 : Sl true w lo9 hi9 (.slice a9 N k9) N f9) :
    St W ((w.alloc (.cells #[n, u7] t)).alloc (.cells #[n, u6] t)) ((w.heap.size, [n, u7]) :: (w.heap.size + 1, [n, u6]) :: bs) (⟨true, lo9, hi9, .slice a9 N k9, N, f9⟩ :: ⟨true, lo8, hi8, .slice a8 N k8, N, f8⟩ :: ss) :=
  (by
    have := (((h.addSl ⟨true, lo8, hi8, .slice a8 N k8, N, f8⟩ h8).addSl ⟨true, lo9, hi9, .slice a9 N k9, N, f9⟩ h9).boxNew n u7 t).boxNew n u6 t
    simp only [World.size_alloc] at this
    exact this.swap)
theorem St.sets (h : St W w bs ss) (h8 : Sl true w lo8 hi8 (.slice a8 N k8) N f8) (h9 : Sl true w lo9 hi9 (.slice a9 N k9) N f9) (hp : W.heap.size ≤ p) (hbs : ∀ x ∈ bs, x.1 < p) (hss : ∀ s ∈ ss, s.hi ≤ p) (hp8 : p < lo8 ∨ hi8 ≤ p) (hp9 : p < lo9 ∨ hi9 ≤ p) {u v : Value} :
    St W ((w.setCell ⟨p, 0, none⟩ u).setCell ⟨p, 1, none⟩ v) bs ss ∧ Sl true ((w.setCell ⟨p, 0, none⟩ u).setCell ⟨p, 1, none⟩ v) lo8 hi8 (.slice a8 N k8) N f8 ∧ Sl true ((w.setCell ⟨p, 0, none⟩ u).setCell ⟨p, 1, none⟩ v) lo9 hi9 (.slice a9 N k9) N f9 :=
  ⟨h.set2 hp (fun x hx => .inl (hbs x hx)) (fun s hs => .inl (hss s hs)), (h8.setOther hp8 _).setOther hp8 _, (h9.setOther hp9 _).setOther hp9 _⟩
theorem fin4 (h : St W w bs ss) (h8 : Sl true w lo8 hi8 (.slice a8 N k8) N f8) (h9 : Sl true w lo9 hi9 (.slice a9 N k9) N f9) (bp : Box w p [c0, c1]) (br : Box w r [c0, c1]) (hpr : p ≠ r)
    (hp : W.heap.size ≤ p) (hbs : ∀ x ∈ bs, x.1 < p) (hss : ∀ s ∈ ss, s.hi ≤ p) (hp8 : p < lo8 ∨ hi8 ≤ p) (hp9 : p < lo9 ∨ hi9 ≤ p)
    (hr : W.heap.size ≤ r) (hbr : ∀ x ∈ bs, x.1 < r) (hsr : ∀ s ∈ ss, s.hi ≤ r) (hr8 : r < lo8 ∨ hi8 ≤ r) (hr9 : r < lo9 ∨ hi9 ≤ r) :
    St W ((((w.setCell ⟨p, 0, none⟩ n).setCell ⟨p, 1, none⟩ u6).setCell ⟨r, 0, none⟩ n).setCell ⟨r, 1, none⟩ u7) ((r, [n, u7]) :: (p, [n, u6]) :: bs) (⟨true, lo9, hi9, .slice a9 N k9, N, f9⟩ :: ⟨true, lo8, hi8, .slice a8 N k8, N, f8⟩ :: ss) := by
  obtain ⟨i1, i2, i3⟩ := St.sets h h8 h9 hp hbs hss hp8 hp9 (u := n) (v := u6)
  obtain ⟨j1, j2, j3⟩ := St.sets i1 i2 i3 hr hbr hsr hr8 hr9 (u := n) (v := u7)
  exact (((j1.addSl ⟨true, lo8, hi8, .slice a8 N k8, N, f8⟩ j2).addSl ⟨true, lo9, hi9, .slice a9 N k9, N, f9⟩ j3).addBox p [n, u6] ((bp.set2).set2_other hpr)).addBox r [n, u7] ((br.set2_other (Ne.symm hpr)).set2)
theorem fin3 (h : St W w bs ss) (h8 : Sl true w lo8 hi8 (.slice a8 N k8) N f8) (h9 : Sl true w lo9 hi9 (.slice a9 N k9) N f9) (bp : Box w p [c0, c1])
    (hp : W.heap.size ≤ p) (hbs : ∀ x ∈ bs, x.1 < p) (hss : ∀ s ∈ ss, s.hi ≤ p) (hp8 : p < lo8 ∨ hi8 ≤ p) (hp9 : p < lo9 ∨ hi9 ≤ p) :
    St W (((((w.alloc (.cells #[c0, c1] t)).setCell ⟨p, 0, none⟩ n).setCell ⟨p, 1, none⟩ u6).setCell ⟨w.heap.size, 0, none⟩ n).setCell ⟨w.heap.size, 1, none⟩ u7) ((w.heap.size, [n, u7]) :: (p, [n, u6]) :: bs) (⟨true, lo9, hi9, .slice a9 N k9, N, f9⟩ :: ⟨true, lo8, hi8, .slice a8 N k8, N, f8⟩ :: ss) := by
  have hlt := bp.1
  have z8 := h8.size
  have z9 := h9.size
  exact fin4 (h.alloc _) (h8.alloc _) (h9.alloc _) (bp.alloc2 _) (Box.made2 rfl) (by omega) hp hbs hss hp8 hp9 (by omega) (fun x hx => by have := hbs x hx; omega) (fun s hs => by have := hss s hs; omega) (by omega) (by omega)
theorem fin5 (h : St W w bs ss) (h8 : Sl true w lo8 hi8 (.slice a8 N k8) N f8) (h9 : Sl true w lo9 hi9 (.slice a9 N k9) N f9) (bp : Box w p [c0, c1])
    (hp : W.heap.size ≤ p) (hbs : ∀ x ∈ bs, x.1 < p) (hss : ∀ s ∈ ss, s.hi ≤ p) (hp8 : p < lo8 ∨ hi8 ≤ p) (hp9 : p < lo9 ∨ hi9 ≤ p) :
    St W (((w.alloc (.cells #[n, u6] t)).setCell ⟨p, 0, none⟩ n).setCell ⟨p, 1, none⟩ u7) ((p, [n, u7]) :: (w.heap.size, [n, u6]) :: bs) (⟨true, lo9, hi9, .slice a9 N k9, N, f9⟩ :: ⟨true, lo8, hi8, .slice a8 N k8, N, f8⟩ :: ss) := by
  have hlt := bp.1
  obtain ⟨i1, i2, i3⟩ := St.sets (h.alloc (.cells #[n, u6] t)) (h8.alloc _) (h9.alloc _) hp hbs hss hp8 hp9 (u := n) (v := u7)
  exact (((i1.addSl ⟨true, lo8, hi8, .slice a8 N k8, N, f8⟩ i2).addSl ⟨true, lo9, hi9, .slice a9 N k9, N, f9⟩ i3).addBox w.heap.size [n, u6] ((Box.made2 rfl).set2_other (by omega))).addBox p [n, u7] ((bp.alloc2 _).set2)
end

section
variable {o o' : Bool} {lo hi lo' hi' L : Nat} {v v' : Value} {f g : Nat → Int}
end
end

section
open Go.RowKit Go.ChangeShapes Go.Sort
set_option linter.unusedVariables false
set_option linter.unusedSimpArgs false
theorem Src.keepF {w w' : World} {b lo hi : Nat} {p : Option Addr} {n q : Nat} (h : Src w b p n q) (hf : Frame lo hi w w') (hd : b < lo ∨ hi ≤ b) : Src w' b p n q := by
  obtain ⟨a, x, h1, h2, h3, h4⟩ := h
  exact ⟨a, x, h1, h2, h3, h4.keepF hf hd⟩
theorem Bytes.frameG {w w' : World} {B lo hi : Nat} {p : Option Addr} {n : Nat} (h : Bytes w B p n) (hf : Frame lo hi w w') (hB : B ≤ lo) : Bytes w' B p n :=
  ⟨h.1, fun j hj => by
    obtain ⟨g, off, c, e, h1, h2, h3, h4⟩ := h.2 j hj
    exact ⟨g, off, c, e, h1, Nat.lt_of_lt_of_le h2 hf.size, (hf.cell (p := ⟨g, off + j, none⟩) h2 (.inl (by show g < lo; omega))).trans h3, h4⟩⟩
section
variable {b B : Nat} {p : Option Addr} {n q : Nat}
end
end

section
open Go.RowKit Go.ChangeShapes Go.Sort
set_option linter.unusedVariables false
set_option linter.unusedSimpArgs false
section
variable {b B : Nat} {p : Option Addr} {n q : Nat}
end
end

section
open Go.RowKit Go.ChangeShapes Go.Sort
set_option linter.unusedVariables false
set_option linter.unusedSimpArgs false

/-- The source lies in the block b, its bytes below B; boxes and slices lie apart from it. -/
def Ds (b B : Nat) (p : Option Addr) (n q : Nat) (W w : World) (bs : List (Nat × List Value)) (ss : List SlF) : Prop :=
  Frame b (b + 1) W w ∧ Src w b p n q ∧ Bytes w B p n ∧ (B ≤ b ∧ B ≤ W.heap.size) ∧ (∀ x ∈ bs, Box w x.1 x.2 ∧ x.1 ≠ b) ∧ (∀ s ∈ ss, Sl s.o w s.lo s.hi s.v s.n s.f ∧ (s.hi ≤ b ∨ b + 1 ≤ s.lo))
theorem Frame.set {lo hi g o : Nat} {a w : World} (h : Frame lo hi a w) (hl : lo ≤ g) (hh : g < hi) (u : Value) : Frame lo hi a (w.setCell ⟨g, o, none⟩ u) := h.setCell (p := ⟨g, o, none⟩) hl hh u
section
variable {b B : Nat} {p : Option Addr} {n q : Nat} {W w w' : World} {bs : List (Nat × List Value)} {ss : List SlF}
theorem Ds.start (hs : Src W b p n q) (hb : Bytes W B p n) (hB : B ≤ b) : Ds b B p n q W W [] [] :=
  ⟨Frame.refl _ _ _, hs, hb, ⟨hB, Nat.le_of_lt (Nat.lt_of_le_of_lt hB hs.lt)⟩, (fun _ h => absurd h List.not_mem_nil), (fun _ h => absurd h List.not_mem_nil)⟩
theorem Ds.src (h : Ds b B p n q W w bs ss) : Src w b p n q := h.2.1
theorem Ds.bytes (h : Ds b B p n q W w bs ss) : Bytes w B p n := h.2.2.1
theorem Ds.low (h : Ds b B p n q W w bs ss) : B ≤ b := h.2.2.2.1.1
theorem Ds.at (hB : B ≤ W.heap.size) (h0 : Below W.heap.size W w) (hs : Src w b p n q) (hb : Bytes w B p n) (hBb : B ≤ b) : Ds b B p n q W w [] [] :=
  ⟨Frame.of_below h0 (Nat.le_refl _), hs, hb, ⟨hBb, hB⟩, (fun _ h => absurd h List.not_mem_nil), (fun _ h => absurd h List.not_mem_nil)⟩
theorem Ds.below (h : Ds b B p n q W w bs ss) (hb : W.heap.size ≤ b) : Below W.heap.size W w := h.1.below hb (Nat.le_refl _)
theorem Ds.lt (h : Ds b B p n q W w bs ss) : b < w.heap.size := h.2.1.lt
theorem Ds.frame (h : Ds b B p n q W w bs ss) : Frame b (b + 1) W w := h.1
theorem Ds.size (h : Ds b B p n q W w bs ss) : W.heap.size ≤ w.heap.size := h.1.size
theorem Ds.box (h : Ds b B p n q W w bs ss) (i : Nat) (x : Nat × List Value) (hi : bs[i]? = some x) : Box w x.1 x.2 := (h.2.2.2.2.1 x (List.mem_of_getElem? hi)).1
theorem Ds.sl (h : Ds b B p n q W w bs ss) (i : Nat) (s : SlF) (hi : ss[i]? = some s) : Sl s.o w s.lo s.hi s.v s.n s.f := (h.2.2.2.2.2 s (List.mem_of_getElem? hi)).1
theorem Ds.apart (h : Ds b B p n q W w bs ss) (i : Nat) (s : SlF) (hi : ss[i]? = some s) : s.hi ≤ b ∨ b + 1 ≤ s.lo := (h.2.2.2.2.2 s (List.mem_of_getElem? hi)).2
theorem Ds.keep (h : Ds b B p n q W w bs ss) (hb : Below w.heap.size w w') : Ds b B p n q W w' bs ss :=
  ⟨h.1.trans (Frame.of_below hb (Nat.le_refl _)), h.2.1.keep hb, h.2.2.1.below hb, h.2.2.2.1, fun x hx => ⟨(h.2.2.2.2.1 x hx).1.keep hb, (h.2.2.2.2.1 x hx).2⟩, fun s hs => ⟨(h.2.2.2.2.2 s hs).1.keep hb (h.2.2.2.2.2 s hs).1.size, (h.2.2.2.2.2 s hs).2⟩⟩
/-- A number has been drawn. -/
theorem Ds.draw (h : Ds b B p n q W w bs ss) (hs : Src w' b p n q) (hf : Frame b (b + 1) w w') : Ds b B p n q W w' bs ss :=
  ⟨h.1.trans hf, hs, h.2.2.1.frame hf h.low, h.2.2.2.1, fun x hx => ⟨(h.2.2.2.2.1 x hx).1.keepF hf (by have := (h.2.2.2.2.1 x hx).2; omega), (h.2.2.2.2.1 x hx).2⟩, fun s hs => ⟨(h.2.2.2.2.2 s hs).1.keepF hf (h.2.2.2.2.2 s hs).2, (h.2.2.2.2.2 s hs).2⟩⟩
theorem Ds.alloc (h : Ds b B p n q W w bs ss) (o : Obj) : Ds b B p n q W (w.alloc o) bs ss := h.keep ((Below.refl _ _).alloc (Nat.le_refl _) _)
theorem Ds.drew (h : Ds b B p n q W w bs ss) : Ds b B p n q W w.drew bs ss := h.keep (Below.refl _ _).drew
theorem Ds.addSl (h : Ds b B p n q W w bs ss) (s : SlF) (hs : Sl s.o w s.lo s.hi s.v s.n s.f) (ha : s.hi ≤ b ∨ b + 1 ≤ s.lo) : Ds b B p n q W w bs (s :: ss) :=
  ⟨h.1, h.2.1, h.2.2.1, h.2.2.2.1, h.2.2.2.2.1, fun x hx => by
    rcases List.mem_cons.1 hx with rfl | hx
    · exact ⟨hs, ha⟩
    · exact h.2.2.2.2.2 x hx⟩
theorem Ds.addBox (h : Ds b B p n q W w bs ss) (c : Nat) (vs : List Value) (hb : Box w c vs) (hc : c ≠ b) : Ds b B p n q W w ((c, vs) :: bs) ss :=
  ⟨h.1, h.2.1, h.2.2.1, h.2.2.2.1, fun x hx => by
    rcases List.mem_cons.1 hx with rfl | hx
    · exact ⟨hb, hc⟩
    · exact h.2.2.2.2.1 x hx, h.2.2.2.2.2⟩
/-- A new box. -/
theorem Ds.newBox (h : Ds b B p n q W w bs ss) (vs : List Value) (t : TypeId) : Ds b B p n q W (w.alloc (.cells vs.toArray t)) ((w.heap.size, vs) :: bs) ss :=
  (h.alloc _).addBox _ _ (Box.made _ _ _ _ (fun j v h => by simpa using h)) (by have := h.lt; omega)
/-- Cells of a block of the call's own are written. -/
theorem Ds.write (h : Ds b B p n q W w bs ss) {lo hi : Nat} (hf : Frame lo hi w w') (hlo : W.heap.size ≤ lo) (hbl : b < lo ∨ hi ≤ b) (bs' : List (Nat × List Value)) (ss' : List SlF) (hbs : ∀ x ∈ bs', x ∈ bs ∧ (x.1 < lo ∨ hi ≤ x.1)) (hss : ∀ s ∈ ss', s ∈ ss ∧ (s.hi ≤ lo ∨ hi ≤ s.lo)) : Ds b B p n q W w' bs' ss' :=
  ⟨⟨hf.os.trans h.1.os, hf.tape.trans h.1.tape, hf.output.trans h.1.output, Nat.le_trans h.1.size hf.size, fun k hk hd => (hf.block k (Nat.lt_of_lt_of_le hk h.1.size) (.inl (by omega))).trans (h.1.block k hk hd)⟩, h.2.1.keepF hf hbl, h.2.2.1.frameG hf (by have := h.2.2.2.1.2; omega), h.2.2.2.1, fun x hx => ⟨(h.2.2.2.2.1 x (hbs x hx).1).1.keepF hf (hbs x hx).2, (h.2.2.2.2.1 x (hbs x hx).1).2⟩, fun s hs => ⟨(h.2.2.2.2.2 s (hss s hs).1).1.keepF hf (hss s hs).2, (h.2.2.2.2.2 s (hss s hs).1).2⟩⟩
end
end

section
open Go.RowKit Go.ChangeShapes Go.Sort
set_option linter.unusedVariables false
set_option linter.unusedSimpArgs false
set_option maxHeartbeats 400000 in
/-- A copy of a list that is not empty, as a list that grows. -/
theorem l01Own_row {o : Bool} {lo hi n : Nat} {v : Value} {f : Nat → Int} (w : World) (hs : Sl o w lo hi v n f) (h0 : 0 < n) (hn : n ≤ 1048576) :
    Calls Try.prog 93 #[v] w fun e w' => ∃ g' cap', e = .returned (.slice (some ⟨g', 0, none⟩) n cap') ∧ Row w' w.heap.size g' cap' n f ∧ Below w.heap.size w w' := by
  have hbd := hs.bd
  obtain ⟨i0, hi, hz0, hz1, hz2⟩ := info_parts Try.info2
  have hrow := World.ownsRow_made (e := 2) (size := 1) (base := w.heap.size) w #[] 0 (Nat.le_refl _) (Nat.zero_le _) rfl
  rcases hs.parts with ⟨rfl, rfl⟩ | ⟨ad, cap, rfl, hcell⟩
  · exact absurd h0 (Nat.lt_irrefl _)
  · have hm := hs.len
    have HS := Lib.hid hs; clear hs
    have HC := Lib.hid (fun j u hu => cell_later ((Below.refl w.heap.size w).alloc (Nat.le_refl _) (.cells #[] 2)) (hcell j u hu)); clear hcell
    have HB := Lib.hid hbd; clear hbd
    have HR := Lib.hid hrow; clear hrow
    go_enter Try.func93, Try.ntmps93
    go_wp2_with (at_builtin; refine wpList_append_own _ rfl (.tmp 3) (.tmp 4) 33 rfl w.heap.size 2 i0 (.int .i64 0) 1 8 Try.underlying33 hi hz0 hz1 hz2 rfl (by decide) _ 0 [] rfl HR.out ad n cap ((List.range n).map (fun j => Value.int .i64 (f j))) rfl (by simp) HC.out (fun x hx => by obtain ⟨j, _, rfl⟩ := List.mem_map.1 hx; rfl) (by omega) (by omega) (by simp) ?_; intro v' w1 hown hgrow _)
    go_ret
    simp only [Nat.zero_add, List.nil_append] at hown
    obtain ⟨g1, cap1, rfl, _, _⟩ := hown.form h0
    exact ⟨g1, cap1, rfl, hown, ((Below.refl _ _).alloc (Nat.le_refl _) _).grown hgrow (by simp) (fun k hk => by cases hk; exact Nat.le_refl _)⟩
/-- A number has been drawn, or something that is none: its Parts lie from the block lo on. -/
def DrC (b : Nat) (p : Option Addr) (n q lo M : Nat) (w : World) (e : Ending) (w' : World) : Prop :=
  ∃ (x : Int) (L : Nat) (a : Option Addr) (cap : Nat) (f : Nat → Int) (lo' hi' : Nat), e = .returned (.agg #[.int .i64 x, .slice a L cap]) ∧ inR x ∧ 0 < L ∧ L ≤ M ∧ Sl false w' lo' hi' (.slice a L cap) L f ∧ lo ≤ lo' ∧ Src w' b p n q ∧ Frame b (b + 1) w w'
theorem Row.sl {w : World} {base g cap n : Nat} {f : Nat → Int} (h : Row w base g cap n f) (hr : ∀ j, j < n → inR (f j)) (hm : n ≤ maxLen) : Sl true w base w.heap.size (.slice (some ⟨g, 0, none⟩) n cap) n f :=
  Sl.ofRowF h hr hm
section
variable {b B : Nat} {p : Option Addr} {n q : Nat} {o : Bool} {lo hi L : Nat} {v : Value} {f : Nat → Int}
end
end

section
open Go.RowKit Go.ChangeShapes Go.Sort
set_option linter.unusedVariables false
set_option linter.unusedSimpArgs false
/-- A prime and a divisor, or what is none. -/
def DrP6 (b : Nat) (p : Option Addr) (n q : Nat) (w : World) (e : Ending) (w' : World) : Prop :=
  ∃ P E : Int, e = .returned (.tuple #[.int .i64 P, .int .i64 E]) ∧ -3 ≤ P ∧ P ≤ 67 ∧ 0 ≤ E ∧ E ≤ 13 ∧ Src w' b p n q ∧ Frame b (b + 1) w w'
theorem l06Primes_any (w : World) : Calls Try.prog 83 #[] w fun e w' => e = .returned (.slice (some ⟨w.heap.size, 0, none⟩) 17 17) ∧ w' = w.alloc (.cells ([3, 5, 7, 11, 13, 17, 19, 23, 29, 31, 37, 41, 43, 47, 53, 59, 61].map (Value.int .i64)).toArray 2) := by
  go_enter Try.func83, Try.ntmps83
  go_wp2
  go_ret
  exact ⟨rfl, rfl⟩
theorem primes_in : ∀ i, i < 17 → 3 ≤ ([3, 5, 7, 11, 13, 17, 19, 23, 29, 31, 37, 41, 43, 47, 53, 59, 61] : List Int).getD i 0 ∧ ([3, 5, 7, 11, 13, 17, 19, 23, 29, 31, 37, 41, 43, 47, 53, 59, 61] : List Int).getD i 0 ≤ 61 := by decide
section
variable {b B : Nat} {p : Option Addr} {n q : Nat}
set_option maxRecDepth 100000 in
set_option maxHeartbeats 8000000 in
theorem l06Draw_any (w : World) (hs : Src w b p n q) (hb : Bytes w B p n) (hB : B ≤ b) :
    Calls Try.prog 59 #[.pointer (some ⟨b, 0, none⟩)] w fun e w' => DrP6 b p n q w e w' := by
  have st0 := Ds.start hs hb hB
  have hbz := hs.lt
  clear hs hb
  go_enter Try.func59, Try.ntmps59
  have hl := Sl.list w [3, 5, 7, 11, 13, 17, 19, 23, 29, 31, 37, 41, 43, 47, 53, 59, 61] (by intro t ht; simp only [List.mem_cons, List.not_mem_nil, or_false] at ht; unfold inR; rcases ht with rfl | rfl | rfl | rfl | rfl | rfl | rfl | rfl | rfl | rfl | rfl | rfl | rfl | rfl | rfl | rfl | rfl <;> omega) (by simp [maxLen])
  replace st0 := st0.alloc (.cells ([3, 5, 7, 11, 13, 17, 19, 23, 29, 31, 37, 41, 43, 47, 53, 59, 61].map (Value.int .i64)).toArray 2)
  have HL0 := Lib.hid (st0.addSl ⟨true, w.heap.size, w.heap.size + 1, .slice (some ⟨w.heap.size, 0, none⟩) 17 17, 17, fun i => ([3, 5, 7, 11, 13, 17, 19, 23, 29, 31, 37, 41, 43, 47, 53, 59, 61] : List Int).getD i 0⟩ hl (.inr (by dsimp only; omega)))
  clear hl st0
  go_wp2_with fail
  refine (l06Primes_any _).mono ?_
  rintro e w1 ⟨rfl, rfl⟩
  go_wp2_with fail
  refine (l01Next_any _ _ _ _ _ 17 _ HL0.out.src HL0.out.bytes HL0.out.low (by omega) (by omega)).mono ?_
  rintro e w2 ⟨r, rfl, hr1, hr2, hs2, f2⟩
  obtain ⟨i, rfl⟩ := Int.eq_ofNat_of_zero_le hr1
  have hi17 : i < 17 := by omega
  have st2 := HL0.out.draw hs2 f2
  have hci := ((st2.sl 0 ⟨true, w.heap.size, w.heap.size + 1, .slice (some ⟨w.heap.size, 0, none⟩) 17 17, 17, fun i => ([3, 5, 7, 11, 13, 17, 19, 23, 29, 31, 37, 41, 43, 47, 53, 59, 61] : List Int).getD i 0⟩ rfl).known (by show 0 < 17; omega)).2.2.2.1 i hi17
  rw [Nat.zero_add] at hci
  have hPb := primes_in i hi17
  dsimp only at hci
  obtain ⟨P, hP⟩ : ∃ P, ([3, 5, 7, 11, 13, 17, 19, 23, 29, 31, 37, 41, 43, 47, 53, 59, 61] : List Int).getD i 0 = P := ⟨_, rfl⟩
  rw [hP] at hci hPb
  obtain ⟨hP1, hP2⟩ := hPb
  have hz2 := f2.size
  simp only [World.size_alloc] at hz2
  have HR := Lib.hid (Row.made w2 w2.heap.size (fun _ => 0) (Nat.le_refl _))
  have ST := Lib.hid st2
  clear st2 hs2 f2 HL0 hP
  go_wp2
  go_loopw [6, 7] (fun s6 s7 wr => ∃ (k m g cap : Nat) (f : Nat → Int), 1 ≤ k ∧ k ≤ 13 ∧ s7 = .int .i64 k ∧ s6 = .slice (some ⟨g, 0, none⟩) m cap ∧ m ≤ k - 1 ∧ (2 ≤ k → 1 ≤ m) ∧ (∀ j, j < m → 1 ≤ f j ∧ f j ≤ 12) ∧ Row wr w2.heap.size g cap m f ∧ Below w2.heap.size w2 wr) (fun _ s7 _ => 13 - (intOf s7).toNat)
  case atStart => exact ⟨1, 0, w2.heap.size, 0, fun _ => 0, by omega, by omega, rfl, rfl, by omega, by omega, fun j hj => absurd hj (Nat.not_lt_zero _), HR.out, (Below.refl _ _).alloc (Nat.le_refl _) _⟩
  case round =>
    clear HR
    rename World => wo
    obtain ⟨k, m, g, cap, f, hk1, hk2, rfl, rfl, hm, hm1, hf, hrow, hbl⟩ := hrel
    have HF := Lib.hid hf
    have R3 := Lib.hid hrow
    have HB := Lib.hid hbl
    have hg := hrow.lt
    have hzr := hbl.size
    have hk0 : ¬ k = 0 := by omega
    clear hf hrow hbl
    by_cases hlt : k ≤ 12
    · have hltI : (k : Int) ≤ 12 := by omega
      by_cases hd : (P - 1) % (k : Int) = 0
      · have ed : ((P - 1) % (k : Int) == 0) = true := by rw [beq_iff_eq]; exact hd
        clear hd
        have hyk : inR (k : Int) := by unfold inR; omega
        go_wp2_with (at_builtin; refine wpList_push rfl (.tmp 25) (.tmp 27) rfl rfl w2.heap.size g cap m f rfl (R3.out.alloc _) wo.heap.size (k : Int) rfl (heap_alloc_new wo _) (by omega) ?_; intro gA kA wA rowA grA orA ltA
                     have hzA := grA.size
                     simp only [World.size_alloc] at hzA
                     have RA := Lib.hid rowA
                     have BA := Lib.hid ((HB.out.alloc hzr (.cells #[.int .i64 (k : Int)] 2)).grown grA (by simp only [World.size_alloc]; omega) (fun i hi => by cases hi; exact hg.1))
                     clear rowA grA orA)
        go_roundw
        case rel =>
          refine ⟨k + 1, m + 1, gA, kA, fun j => if j < m then f j else (k : Int), by omega, by omega, by go_num, rfl, by omega, by omega, fun j hj => ?_, RA.out, BA.out⟩
          dsimp only
          by_cases e : j < m
          · rw [if_pos e]; exact HF.out j e
          · rw [if_neg e]; omega
        case measure => simp [intOf]; omega
      · have ed : ((P - 1) % (k : Int) == 0) = false := by rw [beq_eq_false_iff_ne]; exact hd
        have hk2' : 2 ≤ k := by
          by_cases e : k = 1
          · subst e; exact absurd (Int.emod_one _) hd
          · omega
        clear hd
        go_wp2
        go_roundw
        case rel => exact ⟨k + 1, m, g, cap, f, by omega, by omega, by go_num, rfl, by omega, by omega, HF.out, R3.out, HB.out⟩
        case measure => simp [intOf]; omega
    · have hm2 := hm1 (by omega)
      have st1 := (ST.out.keep HB.out).addSl ⟨true, w2.heap.size, wo.heap.size, .slice (some ⟨g, 0, none⟩) m cap, m, f⟩ (Sl.ofRowF R3.out (fun j hj => by have := HF.out j hj; unfold inR; dsimp only at hj ⊢; omega) (by unfold maxLen; dsimp only; omega)) (.inr (by dsimp only; omega))
      clear ST
      go_wp2_with fail
      refine (l01Next_any _ _ _ _ _ (m : Int) _ st1.src st1.bytes st1.low (by omega) (by omega)).mono ?_
      rintro e w3 ⟨r, rfl, hr1, hr2, hs3, f3⟩
      obtain ⟨j, rfl⟩ := Int.eq_ofNat_of_zero_le hr1
      have hjm : j < m := by omega
      have st3 := st1.draw hs3 f3
      obtain ⟨_, _, _, hc, _⟩ := (st3.sl 0 ⟨true, w2.heap.size, wo.heap.size, .slice (some ⟨g, 0, none⟩) m cap, m, f⟩ rfl).known (by omega)
      have hcj := hc j hjm
      rw [Nat.zero_add] at hcj
      obtain ⟨hE1, hE2⟩ := HF.out j hjm
      have S3 := Lib.hid st3
      clear hc st1 st3 hs3 f3
      clear hci
      go_wp2_with fail
      refine (l01Next_any _ _ _ _ _ 40 _ S3.out.src S3.out.bytes S3.out.low (by omega) (by omega)).mono ?_
      rintro e w4 ⟨r4, rfl, hr41, hr42, hs4, f4⟩
      have hz_w4 := f4.size
      have hz3 := S3.out.size
      have st4 := S3.out.draw hs4 f4
      clear S3 hs4 f4
      by_cases e0 : r4 = 0
      · subst e0
        have hl := Sl.list (w4) [2, 9, 67, -3] (by intro t ht; simp only [List.mem_cons, List.not_mem_nil, or_false] at ht; unfold inR; rcases ht with rfl | rfl | rfl | rfl <;> omega) (by simp [maxLen])
        replace st4 := st4.alloc (.cells ([2, 9, 67, -3].map (Value.int .i64)).toArray 2)
        simp only [List.map_cons, List.map_nil, List.length_cons, List.length_nil, World.size_alloc] at hl st4
        have hall : ∀ t ∈ ([2, 9, 67, -3] : List Int), (fun x : Int => -3 ≤ x ∧ x ≤ 67) t := by intro t ht; simp only [List.mem_cons, List.not_mem_nil, or_false] at ht; (try dsimp only); rcases ht with rfl | rfl | rfl | rfl <;> omega
        have HALL := Lib.hid hall
        clear hall
        go_wp2_with fail
        refine (l01Pick_any _ _ _ _ _ _ st4.src st4.bytes st4.low hl (.inr (by omega)) (by omega) (by omega)).mono ?_
        rintro e w5 ⟨i_w5, hi_w5, rfl, hs_w5, f_w5⟩
        have hz_w5 := f_w5.size
        try simp only [World.size_alloc] at hz_w5
        have st5 := st4.draw hs_w5 f_w5
        clear hl st4 hs_w5 f_w5
        have h_y : (fun x : Int => -3 ≤ x ∧ x ≤ 67) (([2, 9, 67, -3] : List Int).getD i_w5 0) := by
          rw [List.getD_eq_getElem?_getD, List.getElem?_eq_getElem (by simpa using hi_w5)]
          exact HALL.out _ (List.getElem_mem _)
        generalize ([2, 9, 67, -3] : List Int).getD i_w5 0 = y at *
        try dsimp only at h_y
        clear HALL hi_w5
        go_wp2
        go_ret2
        exact ⟨y, f j, rfl, by omega, by omega, by omega, by omega, st5.src, st5.frame⟩
      · have eb0 : (r4 == 0) = false := beq_eq_false_iff_ne.2 e0
        by_cases e1 : r4 = 1
        · subst e1
          have hl := Sl.list (w4) [0, 13, f j + 1] (by intro t ht; simp only [List.mem_cons, List.not_mem_nil, or_false] at ht; unfold inR; rcases ht with rfl | rfl | rfl <;> omega) (by simp [maxLen])
          replace st4 := st4.alloc (.cells ([0, 13, f j + 1].map (Value.int .i64)).toArray 2)
          simp only [List.map_cons, List.map_nil, List.length_cons, List.length_nil, World.size_alloc] at hl st4
          have hall : ∀ t ∈ ([0, 13, f j + 1] : List Int), (fun x : Int => 0 ≤ x ∧ x ≤ 13) t := by intro t ht; simp only [List.mem_cons, List.not_mem_nil, or_false] at ht; (try dsimp only); rcases ht with rfl | rfl | rfl <;> omega
          have HALL := Lib.hid hall
          clear hall
          go_wp2_with fail
          refine (l01Pick_any _ _ _ _ _ _ st4.src st4.bytes st4.low hl (.inr (by omega)) (by omega) (by omega)).mono ?_
          rintro e w5 ⟨i_w5, hi_w5, rfl, hs_w5, f_w5⟩
          have hz_w5 := f_w5.size
          try simp only [World.size_alloc] at hz_w5
          have st5 := st4.draw hs_w5 f_w5
          clear hl st4 hs_w5 f_w5
          have h_y : (fun x : Int => 0 ≤ x ∧ x ≤ 13) (([0, 13, f j + 1] : List Int).getD i_w5 0) := by
            rw [List.getD_eq_getElem?_getD, List.getElem?_eq_getElem (by simpa using hi_w5)]
            exact HALL.out _ (List.getElem_mem _)
          generalize ([0, 13, f j + 1] : List Int).getD i_w5 0 = y at *
          try dsimp only at h_y
          clear HALL hi_w5
          go_wp2
          go_ret2
          exact ⟨P, y, rfl, by omega, by omega, by omega, by omega, st5.src, st5.frame⟩
        · have eb1 : (r4 == 1) = false := beq_eq_false_iff_ne.2 e1
          go_wp2
          go_ret2
          exact ⟨P, f j, rfl, by omega, by omega, by omega, by omega, st4.src, st4.frame⟩
end
end

section
open Go.RowKit Go.ChangeShapes Go.Sort
set_option linter.unusedVariables false
set_option linter.unusedSimpArgs false
set_option maxHeartbeats 2000000 in
theorem DrawCyclotomicTable_any (B : Nat) (p : Option Addr) (n q : Nat) (w : World) (hb : Bytes w B p n) (hB : B ≤ w.heap.size) :
    Calls Try.prog 17 #[.slice p n q] w fun e w' => ∃ P E : Int, e = .returned (.tuple #[.int .i64 P, .int .i64 E]) ∧ -3 ≤ P ∧ P ≤ 67 ∧ 0 ≤ E ∧ E ≤ 13 ∧ Below w.heap.size w w' := by
  have HB := Lib.hid hb
  clear hb
  go_enter Try.func17, Try.ntmps17
  go_wp2_with fail
  refine (l01From_any B p n q _ HB.out hB).mono ?_
  rintro e w1 ⟨rfl, hs1, hb1, b1⟩
  clear HB
  go_wp2_with fail
  refine (l06Draw_any _ hs1 hb1 hB).mono ?_
  rintro e w2 ⟨P, E, rfl, hP1, hP2, hE1, hE2, hs2, f2⟩
  have hb2 := hb1.frame f2 hB
  have b2 := b1.trans (f2.below (Nat.le_refl _) b1.size)
  clear hs1 hb1 b1 f2
  go_wp2
  go_ret2
  exact ⟨P, E, rfl, hP1, hP2, hE1, hE2, b2⟩
set_option maxHeartbeats 2000000 in
theorem DrawPeriodPolynomial_any (B : Nat) (p : Option Addr) (n q : Nat) (w : World) (hb : Bytes w B p n) (hB : B ≤ w.heap.size) :
    Calls Try.prog 49 #[.slice p n q] w fun e w' => ∃ P E : Int, e = .returned (.tuple #[.int .i64 P, .int .i64 E]) ∧ -3 ≤ P ∧ P ≤ 67 ∧ 0 ≤ E ∧ E ≤ 13 ∧ Below w.heap.size w w' := by
  have HB := Lib.hid hb
  clear hb
  go_enter Try.func49, Try.ntmps49
  go_wp2_with fail
  refine (DrawCyclotomicTable_any B p n q _ HB.out hB).mono ?_
  rintro e w1 ⟨P, E, rfl, hP1, hP2, hE1, hE2, b1⟩
  go_wp2
  go_ret2
  exact ⟨P, E, rfl, hP1, hP2, hE1, hE2, b1⟩
set_option maxHeartbeats 2000000 in
theorem DrawClassOf_any (B : Nat) (p : Option Addr) (n q : Nat) (w : World) (hb : Bytes w B p n) (hB : B ≤ w.heap.size) :
    Calls Try.prog 21 #[.slice p n q] w fun e w' => ∃ P E X : Int, e = .returned (.tuple #[.int .i64 P, .int .i64 E, .int .i64 X]) ∧ -3 ≤ P ∧ P ≤ 67 ∧ 0 ≤ E ∧ E ≤ 13 ∧ 0 ≤ X ∧ X ≤ 68 ∧ Below w.heap.size w w' := by
  have HB := Lib.hid hb
  clear hb
  go_enter Try.func21, Try.ntmps21
  go_wp2_with fail
  refine (l01From_any B p n q _ HB.out hB).mono ?_
  rintro e w1 ⟨rfl, hs1, hb1, b1⟩
  clear HB
  go_wp2_with fail
  refine (l06Draw_any _ hs1 hb1 hB).mono ?_
  rintro e w2 ⟨P, E, rfl, hP1, hP2, hE1, hE2, hs2, f2⟩
  have hb2 := hb1.frame f2 hB
  have b2 := b1.trans (f2.below (Nat.le_refl _) b1.size)
  clear hs1 hb1 b1 f2
  go_wp2_with fail
  all_goals
    refine (l01Next_any _ _ _ _ _ 2 _ hs2 hb2 hB (by omega) (by omega)).mono ?_
    rintro e w3 ⟨r, rfl, hr1, hr2, hs3, f3⟩
    have hb3 := hb2.frame f3 hB
    have b3 := b2.trans (f3.below (Nat.le_refl _) b2.size)
    clear hs2 hb2 b2 f3
    go_wp2_with fail
    refine (l01Next_any _ _ _ _ _ _ _ hs3 hb3 hB (by omega) (by omega)).mono ?_
    rintro e w4 ⟨x, rfl, hx1, hx2, hs4, f4⟩
    have hb4 := hb3.frame f4 hB
    have b4 := b3.trans (f4.below (Nat.le_refl _) b3.size)
    clear hs3 hb3 b3 f4
    go_wp2
    refine bodyPost_ret (v := .tuple #[.int .i64 P, .int .i64 E, .int .i64 x]) (by simp [results, Try.results21, go_sem]) rfl ?_
    exact ⟨P, E, x, rfl, hP1, hP2, hE1, hE2, by omega, by omega, b4⟩
set_option maxHeartbeats 2000000 in
theorem DrawClassMembers_any (B : Nat) (p : Option Addr) (n q : Nat) (w : World) (hb : Bytes w B p n) (hB : B ≤ w.heap.size) :
    Calls Try.prog 24 #[.slice p n q] w fun e w' => ∃ P E X : Int, e = .returned (.tuple #[.int .i64 P, .int .i64 E, .int .i64 X]) ∧ -3 ≤ P ∧ P ≤ 67 ∧ 0 ≤ E ∧ E ≤ 13 ∧ 0 ≤ X ∧ X ≤ 14 ∧ Below w.heap.size w w' := by
  have HB := Lib.hid hb
  clear hb
  go_enter Try.func24, Try.ntmps24
  go_wp2_with fail
  refine (l01From_any B p n q _ HB.out hB).mono ?_
  rintro e w1 ⟨rfl, hs1, hb1, b1⟩
  clear HB
  go_wp2_with fail
  refine (l06Draw_any _ hs1 hb1 hB).mono ?_
  rintro e w2 ⟨P, E, rfl, hP1, hP2, hE1, hE2, hs2, f2⟩
  have hb2 := hb1.frame f2 hB
  have b2 := b1.trans (f2.below (Nat.le_refl _) b1.size)
  clear hs1 hb1 b1 f2
  go_wp2_with fail
  all_goals
    refine (l01Next_any _ _ _ _ _ 16 _ hs2 hb2 hB (by omega) (by omega)).mono ?_
    rintro e w3 ⟨r, rfl, hr1, hr2, hs3, f3⟩
    have hb3 := hb2.frame f3 hB
    have b3 := b2.trans (f3.below (Nat.le_refl _) b2.size)
    clear hs2 hb2 b2 f3
    go_wp2_with fail
    refine (l01Next_any _ _ _ _ _ _ _ hs3 hb3 hB (by omega) (by omega)).mono ?_
    rintro e w4 ⟨x, rfl, hx1, hx2, hs4, f4⟩
    have hb4 := hb3.frame f4 hB
    have b4 := b3.trans (f4.below (Nat.le_refl _) b3.size)
    clear hs3 hb3 b3 f4
    go_wp2
    refine bodyPost_ret (v := .tuple #[.int .i64 P, .int .i64 E, .int .i64 x]) (by simp [results, Try.results24, go_sem]) rfl ?_
    exact ⟨P, E, x, rfl, hP1, hP2, hE1, hE2, by omega, by omega, b4⟩
set_option maxHeartbeats 2000000 in
theorem DrawCyclotomicNumber_any (B : Nat) (p : Option Addr) (n q : Nat) (w : World) (hb : Bytes w B p n) (hB : B ≤ w.heap.size) :
    Calls Try.prog 28 #[.slice p n q] w fun e w' => ∃ P E X Y : Int, e = .returned (.tuple #[.int .i64 P, .int .i64 E, .int .i64 X, .int .i64 Y]) ∧ -3 ≤ P ∧ P ≤ 67 ∧ 0 ≤ E ∧ E ≤ 13 ∧ 0 ≤ X ∧ X ≤ 14 ∧ 0 ≤ Y ∧ Y ≤ 14 ∧ Below w.heap.size w w' := by
  have HB := Lib.hid hb
  clear hb
  go_enter Try.func28, Try.ntmps28
  go_wp2_with fail
  refine (l01From_any B p n q _ HB.out hB).mono ?_
  rintro e w1 ⟨rfl, hs1, hb1, b1⟩
  clear HB
  go_wp2_with fail
  refine (l06Draw_any _ hs1 hb1 hB).mono ?_
  rintro e w2 ⟨P, E, rfl, hP1, hP2, hE1, hE2, hs2, f2⟩
  have hb2 := hb1.frame f2 hB
  have b2 := b1.trans (f2.below (Nat.le_refl _) b1.size)
  clear hs1 hb1 b1 f2
  go_wp2_with fail
  all_goals
    refine (l01Next_any _ _ _ _ _ _ _ hs2 hb2 hB (by omega) (by omega)).mono ?_
    rintro e w3 ⟨x, rfl, hx1, hx2, hs3, f3⟩
    have hb3 := hb2.frame f3 hB
    have b3 := b2.trans (f3.below (Nat.le_refl _) b2.size)
    clear hs2 hb2 b2 f3
    go_wp2_with fail
    refine (l01Next_any _ _ _ _ _ 16 _ hs3 hb3 hB (by omega) (by omega)).mono ?_
    rintro e w4 ⟨r, rfl, hr1, hr2, hs4, f4⟩
    have hb4 := hb3.frame f4 hB
    have b4 := b3.trans (f4.below (Nat.le_refl _) b3.size)
    clear hs3 hb3 b3 f4
    go_wp2_with fail
    refine (l01Next_any _ _ _ _ _ _ _ hs4 hb4 hB (by omega) (by omega)).mono ?_
    rintro e w5 ⟨y, rfl, hy1, hy2, hs5, f5⟩
    have hb5 := hb4.frame f5 hB
    have b5 := b4.trans (f5.below (Nat.le_refl _) b4.size)
    clear hs4 hb4 b4 f5
    go_wp2
    refine bodyPost_ret (v := .tuple #[.int .i64 P, .int .i64 E, .int .i64 x, .int .i64 y]) (by simp [results, Try.results28, go_sem]) rfl ?_
    exact ⟨P, E, x, y, rfl, hP1, hP2, hE1, hE2, by omega, by omega, by omega, by omega, b5⟩
end

open Go.RowKit Go.ChangeShapes Go.Sort Go.WideShapes Go.ChangeAt
set_option linter.unusedVariables false
set_option linter.unusedSimpArgs false
namespace fnPeriods
theorem prod_bd {x : Int} {f : Nat} (hx : 0 ≤ x ∧ x ≤ 60) (hf : f ≤ 60) : -3600 ≤ x * (f : Int) ∧ x * (f : Int) ≤ 3600 := by
  have h1 : 0 ≤ x * (f : Int) := Int.mul_nonneg hx.1 (by omega)
  have h2 : x * (f : Int) ≤ 60 * 60 := Int.mul_le_mul hx.2 (by omega) (by omega) (by omega)
  omega
theorem prod_bd2 {f : Nat} (hf : f ≤ 60) : -3600 ≤ (f : Int) * ((f : Int) - 1) ∧ (f : Int) * ((f : Int) - 1) ≤ 3600 := by
  rcases Nat.eq_zero_or_pos f with rfl | h
  · decide
  · have h1 : 0 ≤ (f : Int) * ((f : Int) - 1) := Int.mul_nonneg (by omega) (by omega)
    have h2 : (f : Int) * ((f : Int) - 1) ≤ 60 * 60 := Int.mul_le_mul (by omega) (by omega) (by omega) (by omega)
    omega
set_option maxRecDepth 100000 in
set_option maxHeartbeats 8000000 in
theorem walk (w : World) (p : Option Addr) (n q : Nat) (hb : n ≤ 4096 → Bytes w w.heap.size p n) :
    Calls Try.prog 3 #[.slice p n q] w fun e w' => e = .returned (.bool true) ∧ Below w.heap.size w w' := by
  by_cases hn : n ≤ 4096
  case neg =>
    go_enter Try.func3, Try.ntmps3
    go_wp2_with fail
    refine (big_yes _ _ _ _ (by omega)).mono ?_
    rintro e w1 ⟨rfl, b1⟩
    go_wp2
    go_ret
    exact ⟨rfl, b1⟩
  case pos =>
    have B0 := Lib.hid (Below.refl w.heap.size w)
    have HB := Lib.hid hb; clear hb
    go_enter Try.func3, Try.ntmps3
    go_wp2_with fail
    refine (big_no p n q _ (by omega)).mono ?_
    rintro en w1 ⟨rfl, b1⟩
    have B1 := Lib.hid (B0.out.trans (b1.mono B0.out.size))
    clear B0 b1
    go_wp2_with fail
    refine (DrawCyclotomicTable_any w.heap.size p n q _ ((HB.out hn).below B1.out) B1.out.size).mono ?_
    rintro en w2 ⟨P, E, rfl, hP1, hP2, hE1, hE2, b2⟩
    have B2 := Lib.hid (B1.out.trans (b2.mono B1.out.size))
    clear B1 b2
    obtain ⟨c, m, T, D, b, hfacts, hT1, hT2, hD1, hD2, hI1, hI2⟩ := pe_two P E
    have HFA := Lib.hid hfacts; have HT1 := Lib.hid hT1; have HT2 := Lib.hid hT2; have HD1 := Lib.hid hD1; have HD2 := Lib.hid hD2; have HI1 := Lib.hid hI1; have HI2 := Lib.hid hI2
    have hm12 : m ≤ 12 := by rcases hfacts with ⟨P, E, _, _, _, _, h, _, _, h2, _⟩ | ⟨_, h⟩ <;> omega
    clear hfacts hT1 hT2 hD1 hD2 hI1 hI2
    go_wp2_with fail
    refine (HT2.out _).mono ?_
    rintro en w3 ⟨ta, tk, rfl, s3, b3⟩
    have TI := Lib.hid s3
    have B3 := Lib.hid (B2.out.trans (b3.mono B2.out.size))
    clear B2 b3 s3
    go_wp2_with fail
    refine (HT1.out _).mono ?_
    rintro en w4 ⟨ua, uk, rfl, s4, b4⟩
    replace TI := Lib.hid (TI.out.keep b4 TI.out.size)
    have TS := Lib.hid s4
    have B4 := Lib.hid (B3.out.trans (b4.mono B3.out.size))
    clear B3 b4 s4
    go_wp2_with fail
    refine (rows9_yes _ TI.out TS.out (by omega)).mono ?_
    rintro en w5 ⟨rfl, b5⟩
    replace TI := Lib.hid (TI.out.keep b5 TI.out.size)
    replace TS := Lib.hid (TS.out.keep b5 TS.out.size)
    have B5 := Lib.hid (B4.out.trans (b5.mono B4.out.size))
    clear B4 b5
    clear TS
    go_wp2_with fail
    refine (DrawClassOf_any w.heap.size p n q _ ((HB.out hn).below B5.out) B5.out.size).mono ?_
    rintro en w6 ⟨P2, E2, X2, rfl, hP21, hP22, hE21, hE22, hX21, hX22, b6⟩
    replace TI := Lib.hid (TI.out.keep b6 TI.out.size)
    have B6 := Lib.hid (B5.out.trans (b6.mono B5.out.size))
    clear B5 b6
    obtain ⟨c2, r2, hf2, hC1, hC2⟩ := class_two P2 E2 X2
    have HF2 := Lib.hid hf2; have HC1 := Lib.hid hC1; have HC2 := Lib.hid hC2; clear hf2 hC1 hC2
    go_wp2_with fail
    refine (HC2.out _).mono ?_
    rintro en w7 ⟨rfl, b7⟩
    replace TI := Lib.hid (TI.out.keep b7 TI.out.size)
    have B7 := Lib.hid (B6.out.trans (b7.mono B6.out.size))
    clear B6 b7
    go_wp2_with fail
    refine (HC1.out _).mono ?_
    rintro en w8 ⟨rfl, b8⟩
    replace TI := Lib.hid (TI.out.keep b8 TI.out.size)
    have B8 := Lib.hid (B7.out.trans (b8.mono B7.out.size))
    clear B7 b8
    go_wp2_with fail
    refine (DrawClassMembers_any w.heap.size p n q _ ((HB.out hn).below B8.out) B8.out.size).mono ?_
    rintro en w9 ⟨P3, E3, X3, rfl, hP31, hP32, hE31, hE32, hX31, hX32, b9⟩
    replace TI := Lib.hid (TI.out.keep b9 TI.out.size)
    have B9 := Lib.hid (B8.out.trans (b9.mono B8.out.size))
    clear B8 b9
    obtain ⟨c3, m3, G3, hf3, hm3, hM1, hM2⟩ := members_two P3 E3 X3 (by unfold inR; omega)
    have HF3 := Lib.hid hf3; have HM1 := Lib.hid hM1; have HM2 := Lib.hid hM2; clear hf3 hM1 hM2
    go_wp2_with fail
    refine (HM2.out _).mono ?_
    rintro en w10 ⟨ma, mk, rfl, s10, b10⟩
    replace TI := Lib.hid (TI.out.keep b10 TI.out.size)
    have MI := Lib.hid s10
    have B10 := Lib.hid (B9.out.trans (b10.mono B9.out.size))
    clear B9 b10 s10
    go_wp2_with fail
    refine (HM1.out _).mono ?_
    rintro en w11 ⟨na, nk, rfl, s11, b11⟩
    replace TI := Lib.hid (TI.out.keep b11 TI.out.size)
    replace MI := Lib.hid (MI.out.keep b11 MI.out.size)
    have MS := Lib.hid s11
    have B11 := Lib.hid (B10.out.trans (b11.mono B10.out.size))
    clear B10 b11 s11
    go_wp2_with fail
    refine (likeInts_yes _ MI.out MS.out (fun _ _ => rfl)).mono ?_
    rintro en w12 ⟨rfl, b12⟩
    replace TI := Lib.hid (TI.out.keep b12 TI.out.size)
    replace MI := Lib.hid (MI.out.keep b12 MI.out.size)
    replace MS := Lib.hid (MS.out.keep b12 MS.out.size)
    have B12 := Lib.hid (B11.out.trans (b12.mono B11.out.size))
    clear B11 b12
    clear MI MS
    go_wp2_with fail
    refine (DrawCyclotomicNumber_any w.heap.size p n q _ ((HB.out hn).below B12.out) B12.out.size).mono ?_
    rintro en w13 ⟨P4, E4, X4, Y4, rfl, hP41, hP42, hE41, hE42, hX41, hX42, hY41, hY42, b13⟩
    replace TI := Lib.hid (TI.out.keep b13 TI.out.size)
    have B13 := Lib.hid (B12.out.trans (b13.mono B12.out.size))
    clear B12 b13
    obtain ⟨c4, r4, hN1, hN2⟩ := number_two P4 E4 X4 Y4 (by unfold inR; omega) (by unfold inR; omega)
    have HN1 := Lib.hid hN1; have HN2 := Lib.hid hN2; clear hN1 hN2
    go_wp2_with fail
    refine (HN2.out _).mono ?_
    rintro en w14 ⟨rfl, b14⟩
    replace TI := Lib.hid (TI.out.keep b14 TI.out.size)
    have B14 := Lib.hid (B13.out.trans (b14.mono B13.out.size))
    clear B13 b14
    go_wp2_with fail
    refine (HN1.out _).mono ?_
    rintro en w15 ⟨rfl, b15⟩
    replace TI := Lib.hid (TI.out.keep b15 TI.out.size)
    have B15 := Lib.hid (B14.out.trans (b15.mono B14.out.size))
    clear B14 b15
    go_wp2_with fail
    refine (HD2.out _).mono ?_
    rintro en w16 ⟨da, dk, rfl, s16, b16⟩
    replace TI := Lib.hid (TI.out.keep b16 TI.out.size)
    have DI := Lib.hid s16
    have B16 := Lib.hid (B15.out.trans (b16.mono B15.out.size))
    clear B15 b16 s16
    go_wp2_with fail
    refine (HD1.out _).mono ?_
    rintro en w17 ⟨ea, ek, rfl, s17, b17⟩
    replace TI := Lib.hid (TI.out.keep b17 TI.out.size)
    replace DI := Lib.hid (DI.out.keep b17 DI.out.size)
    have DS := Lib.hid s17
    have B17 := Lib.hid (B16.out.trans (b17.mono B16.out.size))
    clear B16 b17 s17
    go_wp2_with fail
    refine (likeInts_yes _ DI.out DS.out (fun _ _ => rfl)).mono ?_
    rintro en w18 ⟨rfl, b18⟩
    replace TI := Lib.hid (TI.out.keep b18 TI.out.size)
    replace DI := Lib.hid (DI.out.keep b18 DI.out.size)
    replace DS := Lib.hid (DS.out.keep b18 DS.out.size)
    have B18 := Lib.hid (B17.out.trans (b18.mono B17.out.size))
    clear B17 b18
    clear DS
    go_wp2_with fail
    refine (HI2.out _).mono ?_
    rintro en w19 ⟨rfl, b19⟩
    replace TI := Lib.hid (TI.out.keep b19 TI.out.size)
    replace DI := Lib.hid (DI.out.keep b19 DI.out.size)
    have B19 := Lib.hid (B18.out.trans (b19.mono B18.out.size))
    clear B18 b19
    go_wp2_with fail
    refine (HI1.out _).mono ?_
    rintro en w20 ⟨rfl, b20⟩
    replace TI := Lib.hid (TI.out.keep b20 TI.out.size)
    replace DI := Lib.hid (DI.out.keep b20 DI.out.size)
    have B20 := Lib.hid (B19.out.trans (b20.mono B19.out.size))
    clear B19 b20
    clear HT1 HT2 HD1 HD2 HI1 HI2 HC1 HC2 HM1 HM2 HN1 HN2
    rcases HF2.out with ⟨Q2, R2, S2, rfl, rfl, rfl, g1, g2, g3, g4, g5, g6, rfl, rfl⟩ | rfl
    · clear HF2
      have HG := Lib.hid g1; have HG4 := Lib.hid g4; clear g1 g4
      go_wp2_with fail
      refine (ClassMembers_impl_ok Q2 R2 (clsN Q2 R2 S2) HG.out g2 g3 HG4.out (cls_lt g2) _).mono ?_
      rintro en w21 ⟨oa, ok, rfl, s21, b21⟩
      replace TI := Lib.hid (TI.out.keep b21 TI.out.size)
      replace DI := Lib.hid (DI.out.keep b21 DI.out.size)
      have OI := Lib.hid s21
      have B21 := Lib.hid (B20.out.trans (b21.mono B20.out.size))
      clear B20 b21 s21
      go_wp2_with fail
      refine (hasInt_yes (S2 : Int) _ OI.out (cm_has g5 g6)).mono ?_
      rintro en w22 ⟨rfl, b22⟩
      replace TI := Lib.hid (TI.out.keep b22 TI.out.size)
      replace DI := Lib.hid (DI.out.keep b22 DI.out.size)
      replace OI := Lib.hid (OI.out.keep b22 OI.out.size)
      have B22 := Lib.hid (B21.out.trans (b22.mono B21.out.size))
      clear B21 b22
      clear OI
      rcases HF3.out with ⟨Q3, R3, rfl, rfl, h31, h32, h33, h34, rfl, rfl⟩ | rfl
      · clear HF3
        have h3b := primeN_bd h31
        have hq3 : ((Q3 : Int) - 1).tdiv (R3 : Int) = (((Q3 - 1) / R3 : Nat) : Int) := by rw [show (Q3 : Int) - 1 = ((Q3 - 1 : Nat) : Int) by omega]; rfl
        have hR30 : ¬ R3 = 0 := by omega
        generalize (Q3 - 1) / R3 = m3 at *
        clear h31 h34
        rcases HFA.out with ⟨P0, E0, rfl, rfl, d1, d2, d3, d4, rfl, rfl, rfl, rfl⟩ | ⟨rfl, rfl⟩
        · clear HFA
          have hPb := primeN_bd d1
          obtain ⟨f0, hf0⟩ : ∃ f0, (P0 - 1) / m = f0 := ⟨_, rfl⟩
          have hf60 : f0 ≤ 60 := by rw [← hf0]; exact Nat.le_trans (Nat.div_le_self _ _) (by omega)
          have hq0 : ((P0 : Int) - 1).tdiv (m : Int) = (f0 : Int) := by rw [show (P0 : Int) - 1 = ((P0 - 1 : Nat) : Int) by omega, ← hf0]; rfl
          have hm0 : ¬ m = 0 := by omega
          have HTS := Lib.hid (fun k (hk : k < m) => (show sumN m (tabN P0 m k) = (f0 : Int) - (if k = clsN P0 m (P0 - 1) then 1 else 0) by rw [tab_sum d1 d2 d3 d4 hk, hf0]))
          have HDB := Lib.hid (fun i => (show 0 ≤ difN P0 m i ∧ difN P0 m i ≤ 60 from tab_inR (p := P0) (e := m) (i := (m - i) % m) (j := (m - i) % m) hPb.2))
          have HTB := Lib.hid (fun i j => (show 0 ≤ tabN P0 m i j ∧ tabN P0 m i j ≤ 60 from tab_inR hPb.2))
          have HTOT := Lib.hid (show sumN m (fun i => difN P0 m i * (f0 : Int)) = (f0 : Int) * ((f0 : Int) - 1) by rw [sumN_mulr, dif_sum d1 d2 d3 d4, hf0, Int.mul_comm])
          obtain ⟨cc, hcc⟩ : ∃ cc, clsN P0 m (P0 - 1) = cc := ⟨_, rfl⟩
          have HCL := Lib.hid (fun w => (show Calls Try.prog 22 #[.int .i64 (P0 : Int), .int .i64 (m : Int), .int .i64 ((P0 : Int) - 1)] w fun r w' => r = .returned (.tuple #[.int .i64 (cc : Nat), .int .i64 0]) ∧ Below w.heap.size w w' by
            have := ClassOf_impl_ok P0 m (P0 - 1) d1 d2 d3 d4 (by omega) (by omega) w
            rw [show (((P0 - 1 : Nat)) : Int) = (P0 : Int) - 1 by omega, hcc] at this
            exact this))
          obtain ⟨tg, toff, tcap, tu, htv, htu⟩ := TI.out.at (by omega)
          obtain ⟨rfl, rfl⟩ : ta = some ⟨tg, toff, none⟩ ∧ tk = tcap := by cases htv; exact ⟨rfl, rfl⟩
          obtain ⟨dg, doff, dcap, hdv, _⟩ := DI.out.at (by omega)
          obtain ⟨rfl, rfl⟩ : da = some ⟨dg, doff, none⟩ ∧ dk = dcap := by cases hdv; exact ⟨rfl, rfl⟩
          have TU := Lib.hid htu
          rw [hcc] at HTS
          clear d1 d4 hf0 hcc htv htu hdv TI
          go_wp2_with fail
          refine (HCL.out _).mono ?_
          rintro en w23 ⟨rfl, b23⟩
          replace DI := Lib.hid (DI.out.keep b23 DI.out.size)
          replace TU := Lib.hid (TU.out.keep b23 TU.out.size)
          have B23 := Lib.hid (B22.out.trans (b23.mono B22.out.size))
          clear B22 b23
          go_wp2
          go_loopw [43, 44] (fun s43 s44 wr => ∃ k : Nat, k ≤ m ∧ s43 = .int .i64 (sumN k (fun i => difN P0 m i * (f0 : Int))) ∧ s44 = .int .i64 (k : Int) ∧ RwU true wr w2.heap.size w3.heap.size tg toff tk m tu (fun _ => m) (tabN P0 m) ∧ Sl true wr w15.heap.size w16.heap.size (.slice (some ⟨dg, doff, none⟩) m dk) m (difN P0 m) ∧ Below w.heap.size w wr) (fun _ s44 _ => m - (intOf s44).toNat)
          case atStart => exact ⟨0, Nat.zero_le _, rfl, rfl, TU.out, DI.out, B23.out⟩
          case round =>
            clear TU DI B23
            obtain ⟨k, hk, rfl, rfl, htu, hdi, hbb⟩ := hrel
            have TU := Lib.hid htu; have DI := Lib.hid hdi; have BB := Lib.hid hbb
            clear htu hdi hbb
            by_cases hlk : k < m
            · have chd := TU.out.head hlk
              have hr := TU.out.row hlk
              obtain ⟨rb, rc, hub⟩ := hr.shape
              rw [hub] at chd hr
              have HR := Lib.hid hr
              have hts := HTS.out k hlk
              have hsb := sumN_abs (C := 3600) (m := k) (F := fun i => difN P0 m i * (f0 : Int)) (fun j _ => prod_bd (HDB.out j) hf60)
              have hzb := prod_bd (HDB.out k) hf60
              have HN := Lib.hid (show sumN (k + 1) (fun i => difN P0 m i * (f0 : Int)) = sumN k (fun i => difN P0 m i * (f0 : Int)) + difN P0 m k * (f0 : Int) from rfl)
              have hdb := HDB.out k
              have HSU := Lib.hid (fun w (hs : Sl true w w2.heap.size w3.heap.size (.slice rb m rc) m (tabN P0 m k)) => (by
                have := sum_any w hs (by omega) (fun j _ => by have := HTB.out k j; omega)
                rw [hts] at this
                exact this : Calls Try.prog 36 #[.slice rb m rc] w fun en w' => en = .returned (.int .i64 ((f0 : Int) - (if k = cc then 1 else 0))) ∧ Below w.heap.size w w'))
              clear hr hub hts
              generalize sumN k (fun i => difN P0 m i * (f0 : Int)) = A at *
              obtain ⟨Z, hZ⟩ : ∃ Z, difN P0 m k * (f0 : Int) = Z := ⟨_, rfl⟩
              rw [hZ] at hzb HN
              have hwZ : IntKind.i64.wrap (difN P0 m k * (f0 : Int)) = Z := by rw [hZ]; exact IntWalk.i64_in _ (by omega)
              clear hZ
              have hways : k = cc ∧ ((k : Int) == (cc : Int)) = true ∨ k ≠ cc ∧ ((k : Int) == (cc : Int)) = false := by
                by_cases h : k = cc
                · exact .inl ⟨h, by rw [h]; simp⟩
                · exact .inr ⟨h, beq_eq_false_iff_ne.2 (by omega)⟩
              rcases hways with ⟨hkc, hkb⟩ | ⟨hkc, hkb⟩
              · rw [if_pos hkc] at HSU
                clear hkc
                go_wp2_with fail
                refine (HSU.out _ HR.out).mono ?_
                rintro en wq ⟨rfl, bq⟩
                have TQ := Lib.hid (TU.out.keep bq TU.out.size)
                have DQ := Lib.hid (DI.out.keep bq DI.out.size)
                have BQ := Lib.hid (BB.out.trans (bq.mono BB.out.size))
                have cD := (DQ.out.known (by omega)).2.2.2.1 k hlk
                clear TU DI BB bq HSU HR chd
                go_wp2
                go_region
                go_wp2
                go_roundw
                case rel => exact ⟨k + 1, by omega, by rw [HN.out], by go_num, TQ.out.drew, DQ.out.drew, BQ.out.drew⟩
                case measure => simp [intOf]; omega
              · rw [if_neg hkc, Int.sub_zero] at HSU
                clear hkc
                go_wp2_with fail
                refine (HSU.out _ HR.out).mono ?_
                rintro en wq ⟨rfl, bq⟩
                have TQ := Lib.hid (TU.out.keep bq TU.out.size)
                have DQ := Lib.hid (DI.out.keep bq DI.out.size)
                have BQ := Lib.hid (BB.out.trans (bq.mono BB.out.size))
                have cD := (DQ.out.known (by omega)).2.2.2.1 k hlk
                clear TU DI BB bq HSU HR chd
                go_wp2
                go_region
                go_wp2
                go_roundw
                case rel => exact ⟨k + 1, by omega, by rw [HN.out], by go_num, TQ.out.drew, DQ.out.drew, BQ.out.drew⟩
                case measure => simp [intOf]; omega
            · have hkm : k = m := by omega
              rw [hkm, HTOT.out]
              obtain ⟨Z, hZ⟩ : ∃ Z, (f0 : Int) * ((f0 : Int) - 1) = Z := ⟨_, rfl⟩
              have hzb := prod_bd2 hf60
              rw [hZ] at hzb ⊢
              have hwZ : IntKind.i64.wrap ((f0 : Int) * ((f0 : Int) - 1)) = Z := by rw [hZ]; exact IntWalk.i64_in _ (by omega)
              clear hkm hlk hk hZ
              go_wp2
              go_quiet (fail)
              go_wp2
              go_ret
              exact ⟨rfl, below_drewN BB.out _⟩
        · clear HFA
          have BB := B22.out
          go_wp2
          go_ret
          exact ⟨rfl, BB⟩
      · clear HF3
        rcases HFA.out with ⟨P0, E0, rfl, rfl, d1, d2, d3, d4, rfl, rfl, rfl, rfl⟩ | ⟨rfl, rfl⟩
        · clear HFA
          have hPb := primeN_bd d1
          obtain ⟨f0, hf0⟩ : ∃ f0, (P0 - 1) / m = f0 := ⟨_, rfl⟩
          have hf60 : f0 ≤ 60 := by rw [← hf0]; exact Nat.le_trans (Nat.div_le_self _ _) (by omega)
          have hq0 : ((P0 : Int) - 1).tdiv (m : Int) = (f0 : Int) := by rw [show (P0 : Int) - 1 = ((P0 - 1 : Nat) : Int) by omega, ← hf0]; rfl
          have hm0 : ¬ m = 0 := by omega
          have HTS := Lib.hid (fun k (hk : k < m) => (show sumN m (tabN P0 m k) = (f0 : Int) - (if k = clsN P0 m (P0 - 1) then 1 else 0) by rw [tab_sum d1 d2 d3 d4 hk, hf0]))
          have HDB := Lib.hid (fun i => (show 0 ≤ difN P0 m i ∧ difN P0 m i ≤ 60 from tab_inR (p := P0) (e := m) (i := (m - i) % m) (j := (m - i) % m) hPb.2))
          have HTB := Lib.hid (fun i j => (show 0 ≤ tabN P0 m i j ∧ tabN P0 m i j ≤ 60 from tab_inR hPb.2))
          have HTOT := Lib.hid (show sumN m (fun i => difN P0 m i * (f0 : Int)) = (f0 : Int) * ((f0 : Int) - 1) by rw [sumN_mulr, dif_sum d1 d2 d3 d4, hf0, Int.mul_comm])
          obtain ⟨cc, hcc⟩ : ∃ cc, clsN P0 m (P0 - 1) = cc := ⟨_, rfl⟩
          have HCL := Lib.hid (fun w => (show Calls Try.prog 22 #[.int .i64 (P0 : Int), .int .i64 (m : Int), .int .i64 ((P0 : Int) - 1)] w fun r w' => r = .returned (.tuple #[.int .i64 (cc : Nat), .int .i64 0]) ∧ Below w.heap.size w w' by
            have := ClassOf_impl_ok P0 m (P0 - 1) d1 d2 d3 d4 (by omega) (by omega) w
            rw [show (((P0 - 1 : Nat)) : Int) = (P0 : Int) - 1 by omega, hcc] at this
            exact this))
          obtain ⟨tg, toff, tcap, tu, htv, htu⟩ := TI.out.at (by omega)
          obtain ⟨rfl, rfl⟩ : ta = some ⟨tg, toff, none⟩ ∧ tk = tcap := by cases htv; exact ⟨rfl, rfl⟩
          obtain ⟨dg, doff, dcap, hdv, _⟩ := DI.out.at (by omega)
          obtain ⟨rfl, rfl⟩ : da = some ⟨dg, doff, none⟩ ∧ dk = dcap := by cases hdv; exact ⟨rfl, rfl⟩
          have TU := Lib.hid htu
          rw [hcc] at HTS
          clear d1 d4 hf0 hcc htv htu hdv TI
          go_wp2_with fail
          refine (HCL.out _).mono ?_
          rintro en w23 ⟨rfl, b23⟩
          replace DI := Lib.hid (DI.out.keep b23 DI.out.size)
          replace TU := Lib.hid (TU.out.keep b23 TU.out.size)
          have B23 := Lib.hid (B22.out.trans (b23.mono B22.out.size))
          clear B22 b23
          go_wp2
          go_loopw [43, 44] (fun s43 s44 wr => ∃ k : Nat, k ≤ m ∧ s43 = .int .i64 (sumN k (fun i => difN P0 m i * (f0 : Int))) ∧ s44 = .int .i64 (k : Int) ∧ RwU true wr w2.heap.size w3.heap.size tg toff tk m tu (fun _ => m) (tabN P0 m) ∧ Sl true wr w15.heap.size w16.heap.size (.slice (some ⟨dg, doff, none⟩) m dk) m (difN P0 m) ∧ Below w.heap.size w wr) (fun _ s44 _ => m - (intOf s44).toNat)
          case atStart => exact ⟨0, Nat.zero_le _, rfl, rfl, TU.out, DI.out, B23.out⟩
          case round =>
            clear TU DI B23
            obtain ⟨k, hk, rfl, rfl, htu, hdi, hbb⟩ := hrel
            have TU := Lib.hid htu; have DI := Lib.hid hdi; have BB := Lib.hid hbb
            clear htu hdi hbb
            by_cases hlk : k < m
            · have chd := TU.out.head hlk
              have hr := TU.out.row hlk
              obtain ⟨rb, rc, hub⟩ := hr.shape
              rw [hub] at chd hr
              have HR := Lib.hid hr
              have hts := HTS.out k hlk
              have hsb := sumN_abs (C := 3600) (m := k) (F := fun i => difN P0 m i * (f0 : Int)) (fun j _ => prod_bd (HDB.out j) hf60)
              have hzb := prod_bd (HDB.out k) hf60
              have HN := Lib.hid (show sumN (k + 1) (fun i => difN P0 m i * (f0 : Int)) = sumN k (fun i => difN P0 m i * (f0 : Int)) + difN P0 m k * (f0 : Int) from rfl)
              have hdb := HDB.out k
              have HSU := Lib.hid (fun w (hs : Sl true w w2.heap.size w3.heap.size (.slice rb m rc) m (tabN P0 m k)) => (by
                have := sum_any w hs (by omega) (fun j _ => by have := HTB.out k j; omega)
                rw [hts] at this
                exact this : Calls Try.prog 36 #[.slice rb m rc] w fun en w' => en = .returned (.int .i64 ((f0 : Int) - (if k = cc then 1 else 0))) ∧ Below w.heap.size w w'))
              clear hr hub hts
              generalize sumN k (fun i => difN P0 m i * (f0 : Int)) = A at *
              obtain ⟨Z, hZ⟩ : ∃ Z, difN P0 m k * (f0 : Int) = Z := ⟨_, rfl⟩
              rw [hZ] at hzb HN
              have hwZ : IntKind.i64.wrap (difN P0 m k * (f0 : Int)) = Z := by rw [hZ]; exact IntWalk.i64_in _ (by omega)
              clear hZ
              have hways : k = cc ∧ ((k : Int) == (cc : Int)) = true ∨ k ≠ cc ∧ ((k : Int) == (cc : Int)) = false := by
                by_cases h : k = cc
                · exact .inl ⟨h, by rw [h]; simp⟩
                · exact .inr ⟨h, beq_eq_false_iff_ne.2 (by omega)⟩
              rcases hways with ⟨hkc, hkb⟩ | ⟨hkc, hkb⟩
              · rw [if_pos hkc] at HSU
                clear hkc
                go_wp2_with fail
                refine (HSU.out _ HR.out).mono ?_
                rintro en wq ⟨rfl, bq⟩
                have TQ := Lib.hid (TU.out.keep bq TU.out.size)
                have DQ := Lib.hid (DI.out.keep bq DI.out.size)
                have BQ := Lib.hid (BB.out.trans (bq.mono BB.out.size))
                have cD := (DQ.out.known (by omega)).2.2.2.1 k hlk
                clear TU DI BB bq HSU HR chd
                go_wp2
                go_region
                go_wp2
                go_roundw
                case rel => exact ⟨k + 1, by omega, by rw [HN.out], by go_num, TQ.out.drew, DQ.out.drew, BQ.out.drew⟩
                case measure => simp [intOf]; omega
              · rw [if_neg hkc, Int.sub_zero] at HSU
                clear hkc
                go_wp2_with fail
                refine (HSU.out _ HR.out).mono ?_
                rintro en wq ⟨rfl, bq⟩
                have TQ := Lib.hid (TU.out.keep bq TU.out.size)
                have DQ := Lib.hid (DI.out.keep bq DI.out.size)
                have BQ := Lib.hid (BB.out.trans (bq.mono BB.out.size))
                have cD := (DQ.out.known (by omega)).2.2.2.1 k hlk
                clear TU DI BB bq HSU HR chd
                go_wp2
                go_region
                go_wp2
                go_roundw
                case rel => exact ⟨k + 1, by omega, by rw [HN.out], by go_num, TQ.out.drew, DQ.out.drew, BQ.out.drew⟩
                case measure => simp [intOf]; omega
            · have hkm : k = m := by omega
              rw [hkm, HTOT.out]
              obtain ⟨Z, hZ⟩ : ∃ Z, (f0 : Int) * ((f0 : Int) - 1) = Z := ⟨_, rfl⟩
              have hzb := prod_bd2 hf60
              rw [hZ] at hzb ⊢
              have hwZ : IntKind.i64.wrap ((f0 : Int) * ((f0 : Int) - 1)) = Z := by rw [hZ]; exact IntWalk.i64_in _ (by omega)
              clear hkm hlk hk hZ
              go_wp2
              go_quiet (fail)
              go_wp2
              go_ret
              exact ⟨rfl, below_drewN BB.out _⟩
        · clear HFA
          have BB := B22.out
          go_wp2
          go_ret
          exact ⟨rfl, BB⟩
    · clear HF2
      rcases HF3.out with ⟨Q3, R3, rfl, rfl, h31, h32, h33, h34, rfl, rfl⟩ | rfl
      · clear HF3
        have h3b := primeN_bd h31
        have hq3 : ((Q3 : Int) - 1).tdiv (R3 : Int) = (((Q3 - 1) / R3 : Nat) : Int) := by rw [show (Q3 : Int) - 1 = ((Q3 - 1 : Nat) : Int) by omega]; rfl
        have hR30 : ¬ R3 = 0 := by omega
        generalize (Q3 - 1) / R3 = m3 at *
        clear h31 h34
        rcases HFA.out with ⟨P0, E0, rfl, rfl, d1, d2, d3, d4, rfl, rfl, rfl, rfl⟩ | ⟨rfl, rfl⟩
        · clear HFA
          have hPb := primeN_bd d1
          obtain ⟨f0, hf0⟩ : ∃ f0, (P0 - 1) / m = f0 := ⟨_, rfl⟩
          have hf60 : f0 ≤ 60 := by rw [← hf0]; exact Nat.le_trans (Nat.div_le_self _ _) (by omega)
          have hq0 : ((P0 : Int) - 1).tdiv (m : Int) = (f0 : Int) := by rw [show (P0 : Int) - 1 = ((P0 - 1 : Nat) : Int) by omega, ← hf0]; rfl
          have hm0 : ¬ m = 0 := by omega
          have HTS := Lib.hid (fun k (hk : k < m) => (show sumN m (tabN P0 m k) = (f0 : Int) - (if k = clsN P0 m (P0 - 1) then 1 else 0) by rw [tab_sum d1 d2 d3 d4 hk, hf0]))
          have HDB := Lib.hid (fun i => (show 0 ≤ difN P0 m i ∧ difN P0 m i ≤ 60 from tab_inR (p := P0) (e := m) (i := (m - i) % m) (j := (m - i) % m) hPb.2))
          have HTB := Lib.hid (fun i j => (show 0 ≤ tabN P0 m i j ∧ tabN P0 m i j ≤ 60 from tab_inR hPb.2))
          have HTOT := Lib.hid (show sumN m (fun i => difN P0 m i * (f0 : Int)) = (f0 : Int) * ((f0 : Int) - 1) by rw [sumN_mulr, dif_sum d1 d2 d3 d4, hf0, Int.mul_comm])
          obtain ⟨cc, hcc⟩ : ∃ cc, clsN P0 m (P0 - 1) = cc := ⟨_, rfl⟩
          have HCL := Lib.hid (fun w => (show Calls Try.prog 22 #[.int .i64 (P0 : Int), .int .i64 (m : Int), .int .i64 ((P0 : Int) - 1)] w fun r w' => r = .returned (.tuple #[.int .i64 (cc : Nat), .int .i64 0]) ∧ Below w.heap.size w w' by
            have := ClassOf_impl_ok P0 m (P0 - 1) d1 d2 d3 d4 (by omega) (by omega) w
            rw [show (((P0 - 1 : Nat)) : Int) = (P0 : Int) - 1 by omega, hcc] at this
            exact this))
          obtain ⟨tg, toff, tcap, tu, htv, htu⟩ := TI.out.at (by omega)
          obtain ⟨rfl, rfl⟩ : ta = some ⟨tg, toff, none⟩ ∧ tk = tcap := by cases htv; exact ⟨rfl, rfl⟩
          obtain ⟨dg, doff, dcap, hdv, _⟩ := DI.out.at (by omega)
          obtain ⟨rfl, rfl⟩ : da = some ⟨dg, doff, none⟩ ∧ dk = dcap := by cases hdv; exact ⟨rfl, rfl⟩
          have TU := Lib.hid htu
          rw [hcc] at HTS
          clear d1 d4 hf0 hcc htv htu hdv TI
          go_wp2_with fail
          refine (HCL.out _).mono ?_
          rintro en w21 ⟨rfl, b21⟩
          replace DI := Lib.hid (DI.out.keep b21 DI.out.size)
          replace TU := Lib.hid (TU.out.keep b21 TU.out.size)
          have B21 := Lib.hid (B20.out.trans (b21.mono B20.out.size))
          clear B20 b21
          go_wp2
          go_loopw [43, 44] (fun s43 s44 wr => ∃ k : Nat, k ≤ m ∧ s43 = .int .i64 (sumN k (fun i => difN P0 m i * (f0 : Int))) ∧ s44 = .int .i64 (k : Int) ∧ RwU true wr w2.heap.size w3.heap.size tg toff tk m tu (fun _ => m) (tabN P0 m) ∧ Sl true wr w15.heap.size w16.heap.size (.slice (some ⟨dg, doff, none⟩) m dk) m (difN P0 m) ∧ Below w.heap.size w wr) (fun _ s44 _ => m - (intOf s44).toNat)
          case atStart => exact ⟨0, Nat.zero_le _, rfl, rfl, TU.out, DI.out, B21.out⟩
          case round =>
            clear TU DI B21
            obtain ⟨k, hk, rfl, rfl, htu, hdi, hbb⟩ := hrel
            have TU := Lib.hid htu; have DI := Lib.hid hdi; have BB := Lib.hid hbb
            clear htu hdi hbb
            by_cases hlk : k < m
            · have chd := TU.out.head hlk
              have hr := TU.out.row hlk
              obtain ⟨rb, rc, hub⟩ := hr.shape
              rw [hub] at chd hr
              have HR := Lib.hid hr
              have hts := HTS.out k hlk
              have hsb := sumN_abs (C := 3600) (m := k) (F := fun i => difN P0 m i * (f0 : Int)) (fun j _ => prod_bd (HDB.out j) hf60)
              have hzb := prod_bd (HDB.out k) hf60
              have HN := Lib.hid (show sumN (k + 1) (fun i => difN P0 m i * (f0 : Int)) = sumN k (fun i => difN P0 m i * (f0 : Int)) + difN P0 m k * (f0 : Int) from rfl)
              have hdb := HDB.out k
              have HSU := Lib.hid (fun w (hs : Sl true w w2.heap.size w3.heap.size (.slice rb m rc) m (tabN P0 m k)) => (by
                have := sum_any w hs (by omega) (fun j _ => by have := HTB.out k j; omega)
                rw [hts] at this
                exact this : Calls Try.prog 36 #[.slice rb m rc] w fun en w' => en = .returned (.int .i64 ((f0 : Int) - (if k = cc then 1 else 0))) ∧ Below w.heap.size w w'))
              clear hr hub hts
              generalize sumN k (fun i => difN P0 m i * (f0 : Int)) = A at *
              obtain ⟨Z, hZ⟩ : ∃ Z, difN P0 m k * (f0 : Int) = Z := ⟨_, rfl⟩
              rw [hZ] at hzb HN
              have hwZ : IntKind.i64.wrap (difN P0 m k * (f0 : Int)) = Z := by rw [hZ]; exact IntWalk.i64_in _ (by omega)
              clear hZ
              have hways : k = cc ∧ ((k : Int) == (cc : Int)) = true ∨ k ≠ cc ∧ ((k : Int) == (cc : Int)) = false := by
                by_cases h : k = cc
                · exact .inl ⟨h, by rw [h]; simp⟩
                · exact .inr ⟨h, beq_eq_false_iff_ne.2 (by omega)⟩
              rcases hways with ⟨hkc, hkb⟩ | ⟨hkc, hkb⟩
              · rw [if_pos hkc] at HSU
                clear hkc
                go_wp2_with fail
                refine (HSU.out _ HR.out).mono ?_
                rintro en wq ⟨rfl, bq⟩
                have TQ := Lib.hid (TU.out.keep bq TU.out.size)
                have DQ := Lib.hid (DI.out.keep bq DI.out.size)
                have BQ := Lib.hid (BB.out.trans (bq.mono BB.out.size))
                have cD := (DQ.out.known (by omega)).2.2.2.1 k hlk
                clear TU DI BB bq HSU HR chd
                go_wp2
                go_region
                go_wp2
                go_roundw
                case rel => exact ⟨k + 1, by omega, by rw [HN.out], by go_num, TQ.out.drew, DQ.out.drew, BQ.out.drew⟩
                case measure => simp [intOf]; omega
              · rw [if_neg hkc, Int.sub_zero] at HSU
                clear hkc
                go_wp2_with fail
                refine (HSU.out _ HR.out).mono ?_
                rintro en wq ⟨rfl, bq⟩
                have TQ := Lib.hid (TU.out.keep bq TU.out.size)
                have DQ := Lib.hid (DI.out.keep bq DI.out.size)
                have BQ := Lib.hid (BB.out.trans (bq.mono BB.out.size))
                have cD := (DQ.out.known (by omega)).2.2.2.1 k hlk
                clear TU DI BB bq HSU HR chd
                go_wp2
                go_region
                go_wp2
                go_roundw
                case rel => exact ⟨k + 1, by omega, by rw [HN.out], by go_num, TQ.out.drew, DQ.out.drew, BQ.out.drew⟩
                case measure => simp [intOf]; omega
            · have hkm : k = m := by omega
              rw [hkm, HTOT.out]
              obtain ⟨Z, hZ⟩ : ∃ Z, (f0 : Int) * ((f0 : Int) - 1) = Z := ⟨_, rfl⟩
              have hzb := prod_bd2 hf60
              rw [hZ] at hzb ⊢
              have hwZ : IntKind.i64.wrap ((f0 : Int) * ((f0 : Int) - 1)) = Z := by rw [hZ]; exact IntWalk.i64_in _ (by omega)
              clear hkm hlk hk hZ
              go_wp2
              go_quiet (fail)
              go_wp2
              go_ret
              exact ⟨rfl, below_drewN BB.out _⟩
        · clear HFA
          have BB := B20.out
          go_wp2
          go_ret
          exact ⟨rfl, BB⟩
      · clear HF3
        rcases HFA.out with ⟨P0, E0, rfl, rfl, d1, d2, d3, d4, rfl, rfl, rfl, rfl⟩ | ⟨rfl, rfl⟩
        · clear HFA
          have hPb := primeN_bd d1
          obtain ⟨f0, hf0⟩ : ∃ f0, (P0 - 1) / m = f0 := ⟨_, rfl⟩
          have hf60 : f0 ≤ 60 := by rw [← hf0]; exact Nat.le_trans (Nat.div_le_self _ _) (by omega)
          have hq0 : ((P0 : Int) - 1).tdiv (m : Int) = (f0 : Int) := by rw [show (P0 : Int) - 1 = ((P0 - 1 : Nat) : Int) by omega, ← hf0]; rfl
          have hm0 : ¬ m = 0 := by omega
          have HTS := Lib.hid (fun k (hk : k < m) => (show sumN m (tabN P0 m k) = (f0 : Int) - (if k = clsN P0 m (P0 - 1) then 1 else 0) by rw [tab_sum d1 d2 d3 d4 hk, hf0]))
          have HDB := Lib.hid (fun i => (show 0 ≤ difN P0 m i ∧ difN P0 m i ≤ 60 from tab_inR (p := P0) (e := m) (i := (m - i) % m) (j := (m - i) % m) hPb.2))
          have HTB := Lib.hid (fun i j => (show 0 ≤ tabN P0 m i j ∧ tabN P0 m i j ≤ 60 from tab_inR hPb.2))
          have HTOT := Lib.hid (show sumN m (fun i => difN P0 m i * (f0 : Int)) = (f0 : Int) * ((f0 : Int) - 1) by rw [sumN_mulr, dif_sum d1 d2 d3 d4, hf0, Int.mul_comm])
          obtain ⟨cc, hcc⟩ : ∃ cc, clsN P0 m (P0 - 1) = cc := ⟨_, rfl⟩
          have HCL := Lib.hid (fun w => (show Calls Try.prog 22 #[.int .i64 (P0 : Int), .int .i64 (m : Int), .int .i64 ((P0 : Int) - 1)] w fun r w' => r = .returned (.tuple #[.int .i64 (cc : Nat), .int .i64 0]) ∧ Below w.heap.size w w' by
            have := ClassOf_impl_ok P0 m (P0 - 1) d1 d2 d3 d4 (by omega) (by omega) w
            rw [show (((P0 - 1 : Nat)) : Int) = (P0 : Int) - 1 by omega, hcc] at this
            exact this))
          obtain ⟨tg, toff, tcap, tu, htv, htu⟩ := TI.out.at (by omega)
          obtain ⟨rfl, rfl⟩ : ta = some ⟨tg, toff, none⟩ ∧ tk = tcap := by cases htv; exact ⟨rfl, rfl⟩
          obtain ⟨dg, doff, dcap, hdv, _⟩ := DI.out.at (by omega)
          obtain ⟨rfl, rfl⟩ : da = some ⟨dg, doff, none⟩ ∧ dk = dcap := by cases hdv; exact ⟨rfl, rfl⟩
          have TU := Lib.hid htu
          rw [hcc] at HTS
          clear d1 d4 hf0 hcc htv htu hdv TI
          go_wp2_with fail
          refine (HCL.out _).mono ?_
          rintro en w21 ⟨rfl, b21⟩
          replace DI := Lib.hid (DI.out.keep b21 DI.out.size)
          replace TU := Lib.hid (TU.out.keep b21 TU.out.size)
          have B21 := Lib.hid (B20.out.trans (b21.mono B20.out.size))
          clear B20 b21
          go_wp2
          go_loopw [43, 44] (fun s43 s44 wr => ∃ k : Nat, k ≤ m ∧ s43 = .int .i64 (sumN k (fun i => difN P0 m i * (f0 : Int))) ∧ s44 = .int .i64 (k : Int) ∧ RwU true wr w2.heap.size w3.heap.size tg toff tk m tu (fun _ => m) (tabN P0 m) ∧ Sl true wr w15.heap.size w16.heap.size (.slice (some ⟨dg, doff, none⟩) m dk) m (difN P0 m) ∧ Below w.heap.size w wr) (fun _ s44 _ => m - (intOf s44).toNat)
          case atStart => exact ⟨0, Nat.zero_le _, rfl, rfl, TU.out, DI.out, B21.out⟩
          case round =>
            clear TU DI B21
            obtain ⟨k, hk, rfl, rfl, htu, hdi, hbb⟩ := hrel
            have TU := Lib.hid htu; have DI := Lib.hid hdi; have BB := Lib.hid hbb
            clear htu hdi hbb
            by_cases hlk : k < m
            · have chd := TU.out.head hlk
              have hr := TU.out.row hlk
              obtain ⟨rb, rc, hub⟩ := hr.shape
              rw [hub] at chd hr
              have HR := Lib.hid hr
              have hts := HTS.out k hlk
              have hsb := sumN_abs (C := 3600) (m := k) (F := fun i => difN P0 m i * (f0 : Int)) (fun j _ => prod_bd (HDB.out j) hf60)
              have hzb := prod_bd (HDB.out k) hf60
              have HN := Lib.hid (show sumN (k + 1) (fun i => difN P0 m i * (f0 : Int)) = sumN k (fun i => difN P0 m i * (f0 : Int)) + difN P0 m k * (f0 : Int) from rfl)
              have hdb := HDB.out k
              have HSU := Lib.hid (fun w (hs : Sl true w w2.heap.size w3.heap.size (.slice rb m rc) m (tabN P0 m k)) => (by
                have := sum_any w hs (by omega) (fun j _ => by have := HTB.out k j; omega)
                rw [hts] at this
                exact this : Calls Try.prog 36 #[.slice rb m rc] w fun en w' => en = .returned (.int .i64 ((f0 : Int) - (if k = cc then 1 else 0))) ∧ Below w.heap.size w w'))
              clear hr hub hts
              generalize sumN k (fun i => difN P0 m i * (f0 : Int)) = A at *
              obtain ⟨Z, hZ⟩ : ∃ Z, difN P0 m k * (f0 : Int) = Z := ⟨_, rfl⟩
              rw [hZ] at hzb HN
              have hwZ : IntKind.i64.wrap (difN P0 m k * (f0 : Int)) = Z := by rw [hZ]; exact IntWalk.i64_in _ (by omega)
              clear hZ
              have hways : k = cc ∧ ((k : Int) == (cc : Int)) = true ∨ k ≠ cc ∧ ((k : Int) == (cc : Int)) = false := by
                by_cases h : k = cc
                · exact .inl ⟨h, by rw [h]; simp⟩
                · exact .inr ⟨h, beq_eq_false_iff_ne.2 (by omega)⟩
              rcases hways with ⟨hkc, hkb⟩ | ⟨hkc, hkb⟩
              · rw [if_pos hkc] at HSU
                clear hkc
                go_wp2_with fail
                refine (HSU.out _ HR.out).mono ?_
                rintro en wq ⟨rfl, bq⟩
                have TQ := Lib.hid (TU.out.keep bq TU.out.size)
                have DQ := Lib.hid (DI.out.keep bq DI.out.size)
                have BQ := Lib.hid (BB.out.trans (bq.mono BB.out.size))
                have cD := (DQ.out.known (by omega)).2.2.2.1 k hlk
                clear TU DI BB bq HSU HR chd
                go_wp2
                go_region
                go_wp2
                go_roundw
                case rel => exact ⟨k + 1, by omega, by rw [HN.out], by go_num, TQ.out.drew, DQ.out.drew, BQ.out.drew⟩
                case measure => simp [intOf]; omega
              · rw [if_neg hkc, Int.sub_zero] at HSU
                clear hkc
                go_wp2_with fail
                refine (HSU.out _ HR.out).mono ?_
                rintro en wq ⟨rfl, bq⟩
                have TQ := Lib.hid (TU.out.keep bq TU.out.size)
                have DQ := Lib.hid (DI.out.keep bq DI.out.size)
                have BQ := Lib.hid (BB.out.trans (bq.mono BB.out.size))
                have cD := (DQ.out.known (by omega)).2.2.2.1 k hlk
                clear TU DI BB bq HSU HR chd
                go_wp2
                go_region
                go_wp2
                go_roundw
                case rel => exact ⟨k + 1, by omega, by rw [HN.out], by go_num, TQ.out.drew, DQ.out.drew, BQ.out.drew⟩
                case measure => simp [intOf]; omega
            · have hkm : k = m := by omega
              rw [hkm, HTOT.out]
              obtain ⟨Z, hZ⟩ : ∃ Z, (f0 : Int) * ((f0 : Int) - 1) = Z := ⟨_, rfl⟩
              have hzb := prod_bd2 hf60
              rw [hZ] at hzb ⊢
              have hwZ : IntKind.i64.wrap ((f0 : Int) * ((f0 : Int) - 1)) = Z := by rw [hZ]; exact IntWalk.i64_in _ (by omega)
              clear hkm hlk hk hZ
              go_wp2
              go_quiet (fail)
              go_wp2
              go_ret
              exact ⟨rfl, below_drewN BB.out _⟩
        · clear HFA
          have BB := B20.out
          go_wp2
          go_ret
          exact ⟨rfl, BB⟩

theorem own : ownKnob Try.prog.godebug = none := by kernel_rfl
theorem laidOut : laidOutB Try.prog = true := by kernel_rfl
set_option maxRecDepth 100000 in
theorem lifted (os : Os) (started : os.Started) (H : Type) (enc : TypeId × Value → H) :
    ReturnsInHanded {} Try.checked os 3 .any (Rows.fnPeriodsSpec.pre6 enc Try.prog Try.f3 Rows.fnPeriodsRow.domain false) (Rows.fnPeriodsSpec.post enc Try.prog Try.f3 false true false false) := by
  refine returnsInHanded_of_change (C := Try.checked) own started (by kernel_rfl) Try.func3
    (ChangeSpec.witness6 (enc := enc) (C := Try.checked) false ⟨#[], #[.slice none 0 0], []⟩ 8 (by kernel_rfl) (by kernel_rfl) (by kernel_rfl) (by kernel_rfl)) ?_
  intro W base args ds gs before hval0 hW hcnd _
  have hval : ∀ (j : Nat) t v, Try.f3.params[j]? = some t → args[j]? = some v → Value.okWide Try.prog W .any base t v := hval0
  have hW' := hW
  obtain ⟨p, q, hA0, hV, rfl, hfz, hnd⟩ := hW
  have hA : DataW.TrodAll enc Try.prog W 0 (fun _ => true) true Try.f3.params.toList args.toList ds p := hA0
  rw [Try.params3] at hA hval
  obtain ⟨v0, vs0, d0, ds0, p0, q0, hargs, rfl, rfl, h0, r0⟩ := trodAll_cons hA
  obtain ⟨rfl, rfl, rfl⟩ := trodAll_nil r0
  obtain rfl : args = #[v0] := by cases args; simp_all
  obtain ⟨rfl, rfl⟩ := trodVars_none hV
  have k0 := h0
  have lt0 : ∀ x ∈ p0, x.block < W.heap.size := by obtain ⟨m, hm⟩ := k0; exact DataW.trod_lt m _ _ _ hm
  obtain ⟨p_0, n_0, q_0, rfl, s0⟩ : ∃ p n q, v0 = .slice p n q ∧ (n ≤ 4096 → Bytes W W.heap.size p n) := by
    obtain ⟨a, len, cap, rfl⟩ := okWide_slice Try.underlying22 (hval 0 22 v0 rfl rfl)
    obtain ⟨fuel, hf⟩ := h0
    exact Bytes.came Try.underlying22 Try.underlying5 (by kernel_rfl) (by simpa [Value.cells] using hf)
  clear hA0 hval0
  refine (walk W p_0 n_0 q_0 s0).mono fun e W' ⟨he, bel⟩ => ?_
  subst he
  exact ⟨_, rfl, _, _, _, [], _, [], hW', trodAll_mk1 (shut_bool Try.underlying4 _), (trodAll_cons_mk (Below.trod laidOut (by kernel_rfl) (of_decide_eq_true (by kernel_rfl)) k0 bel lt0) trodAll_mk0), rfl, bel.frame _, fun h => by cases h⟩

theorem over : Rows.fnPeriodsRow.holds Try.pinned (OpenSpec.ofChange Rows.fnPeriodsSpec) :=
  OpenClaim.holds_of_wide 3 Try.f3 rfl rfl rfl rfl rfl rfl rfl ⟨rfl, rfl, rfl, rfl, rfl⟩ rfl rfl rfl rfl rfl (by kernel_rfl) Try.func3 (by unfold joinedFacts; exact (and_tt (and_tt (and_tt (and_tt (and_tt (and_tt (and_tt (and_tt (and_tt (and_tt (and_tt (and_tt (and_tt (and_tt (and_tt (and_tt (and_tt (and_tt (and_tt (and_tt (and_tt (and_tt (and_tt (and_tt (and_tt (and_tt (and_tt (and_tt (and_tt (and_tt (and_tt (by kernel_rfl) (by kernel_rfl)) (by kernel_rfl)) (by kernel_rfl)) (by kernel_rfl)) (by kernel_rfl)) (by kernel_rfl)) (by kernel_rfl)) (by kernel_rfl)) (by kernel_rfl)) (by kernel_rfl)) (by kernel_rfl)) (by kernel_rfl)) (by kernel_rfl)) (by kernel_rfl)) (by kernel_rfl)) (by kernel_rfl)) (by kernel_rfl)) (by kernel_rfl)) (by kernel_rfl)) (by kernel_rfl)) (by kernel_rfl)) (by kernel_rfl)) (by kernel_rfl)) (by kernel_rfl)) init_enter) (tt_lifts init_lifts rfl)) (tt_make init_make rfl)) (by kernel_rfl)) (by kernel_rfl)) (by kernel_rfl)) (by kernel_rfl)))
    (of_decide_eq_true (by kernel_rfl)) (by unfold Func.isWrapper; first | (rw [if_pos (by decide +kernel)]; kernel_rfl) | (rw [if_neg (by decide +kernel)]; exact ⟨rfl, rfl⟩))
    (fun os started H enc _ => lifted os started H enc)

theorem proved : Rows.FnPeriodsSaid := over
#print axioms proved
end fnPeriods
end Go.Proofs.Ytaipaggaodnfkaa
