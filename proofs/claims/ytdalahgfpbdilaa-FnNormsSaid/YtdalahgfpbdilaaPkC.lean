/- The source of drawn numbers. Drawn numbers: l01Near, l01DrawOrder, l01DrawPart. Drawn numbers: l01DrawOf. Drawn numbers: l01Draw. The state of a walk that draws: what lies in boxes and slices beside a source of drawn numbers. Plain facts, no walk. Drawn numbers: l01Bad. Drawn numbers: l01Spoil, l02Draw, and the drawn arguments that are one of these. Drawn numbers: the argument of ContentOf. What the property laws call: big, likeInts, cyclos5, cyclo9; the code's bytes. -/
import Derived.Test.YtdalahgfpbdilaaCopy
import Derived.Test.YtdalahgfpbdilaaState
import Derived.Deep.RegionHeld3
import Derived.BigQuiet
import Derived.Laws.BitsAllLaws
import Derived.Test.YtdalahgfpbdilaaFin
import Derived.Deep.RegionLaw
import Derived.Test.YtdalahgfpbdilaaPlus
namespace Go.Proofs.Ytdalahgfpbdilaa
section
open Go.RowKit Go.ChangeShapes
set_option linter.unusedVariables false
set_option linter.unusedSimpArgs false
/-- Bytes that are there to be read, below the block B. -/
def Bytes (w : World) (B : Nat) (p : Option Addr) (n : Nat) : Prop := n ≤ 4096 ∧ ∀ j, j < n → ∃ g off c, p = some ⟨g, off, none⟩ ∧ g < B ∧ g < w.heap.size ∧ w.cell? ⟨g, off + j, none⟩ = some (.int .u8 c) ∧ 0 ≤ c ∧ c ≤ 255
/-- A source of drawn numbers in the block b. -/
def Src (w : World) (b : Nat) (p : Option Addr) (n q : Nat) : Prop := ∃ (at_ : Nat) (h : Int), at_ ≤ n ∧ 0 ≤ h ∧ h ≤ 18446744073709551615 ∧ Box w b [.slice p n q, .int .i64 at_, .int .u64 h]
theorem Box.set {w : World} {b i : Nat} {vs : List Value} {u : Value} (h : Box w b vs) (hi : i < vs.length) : Box (w.setCell ⟨b, i, none⟩ u) b (vs.set i u) := by
  obtain ⟨h1, h2, h3⟩ := h
  refine ⟨by simpa using h1, fun j v hj => ?_, fun k => by simpa using h3 k⟩
  by_cases e : j = i
  · subst e
    rw [List.getElem?_set_self (by simpa using hi)] at hj
    obtain rfl : u = v := Option.some.inj hj
    exact World.cell?_setCell_same _ _ _ (h2 j _ (List.getElem?_eq_getElem hi))
  · rw [List.getElem?_set_ne (fun h => e h.symm)] at hj
    rw [setCell_ne _ _ _ _ _ e]
    exact h2 j v hj
theorem Box.drewN {w : World} {b : Nat} {vs : List Value} (h : Box w b vs) (m : Nat) : Box (w.drewN m) b vs := h.keep (below_drewN (Below.refl _ _) m)
theorem wrap_u64 (x : Int) : 0 ≤ IntKind.u64.wrap x ∧ IntKind.u64.wrap x ≤ 18446744073709551615 := by
  have h : IntKind.u64.wrap x = x % 18446744073709551616 := by rfl
  omega
theorem and_small (x : Int) (h : 0 ≤ x) (hx' : x < 18446744073709551616) : 0 ≤ wrap64 (bits .and .u64 x 1073741823) ∧ wrap64 (bits .and .u64 x 1073741823) ≤ 1073741823 := by
  have h1 : 0 ≤ bits .and .u64 x 1073741823 ∧ bits .and .u64 x 1073741823 ≤ 1073741823 := by
    by_cases hx : x < 18446744073709551616
    · rw [u64_and x 1073741823 h hx (by omega) (by omega)]
      have := @Nat.and_le_right x.toNat (1073741823 : Int).toNat
      have e : (1073741823 : Int).toNat = 1073741823 := rfl
      rw [e] at this ⊢
      omega
    · exact absurd hx' hx
  rw [wrap_inR (by unfold inR; omega)]
  exact h1
set_option maxRecDepth 100000 in
set_option maxHeartbeats 1000000 in
theorem l01Next_any (b B : Nat) (p : Option Addr) (n q : Nat) (m : Int) (w : World) (hs : Src w b p n q) (hb : Bytes w B p n) (hB : B ≤ b) (hm : 1 ≤ m) (hm2 : m ≤ 1000000000000) :
    Calls Try.prog 155 #[.pointer (some ⟨b, 0, none⟩), .int .i64 m] w fun e w' => ∃ r : Int, e = .returned (.int .i64 r) ∧ 0 ≤ r ∧ r < m ∧ Src w' b p n q ∧ Frame b (b + 1) w w' := by
  obtain ⟨at_, h, hat, hh1, hh2, hbx⟩ := hs
  have c0 := hbx.2.1 0 _ rfl
  have c1 := hbx.2.1 1 _ rfl
  have c2 := hbx.2.1 2 _ rfl
  have hz := hbx.2.2
  have hbz := hbx.1
  have hn := hb.1
  have HB := Lib.hid hb.2
  have HBX := Lib.hid hbx
  clear hb hbx
  go_enter Try.func155, Try.ntmps155
  go_wp2
  have hH := wrap_u64 (IntKind.u64.wrap (h * 6364136223846793005) + 1442695040888963407)
  have hX := and_small (IntKind.u64.wrap (IntKind.u64.wrap (h * 6364136223846793005) + 1442695040888963407) / 2147483648) (by omega) (by omega)
  generalize wrap64 (bits .and .u64 (IntKind.u64.wrap (IntKind.u64.wrap (h * 6364136223846793005) + 1442695040888963407) / 2147483648) 1073741823) = X at *
  generalize IntKind.u64.wrap (IntKind.u64.wrap (h * 6364136223846793005) + 1442695040888963407) = H at *
  obtain ⟨hX1, hX2⟩ := hX
  obtain ⟨hH1, hH2⟩ := hH
  by_cases hlt : at_ < n
  · obtain ⟨g, off, c, rfl, hg, hgz, hc, hc1, hc2⟩ := HB.out at_ hlt
    have hgb : ¬ (b = g) := by omega
    have hlt2 : (at_ : Int) < n := by omega
    go_quiet (fail)
    go_wp2
    go_quiet (fail)
    go_wp2
    refine bodyPost_ret (v := .int .i64 ((X + c) % m)) (by simp [results, Try.results155, go_sem]) rfl ?_
    refine ⟨_, rfl, Int.emod_nonneg _ (by omega), Int.emod_lt_of_pos _ (by omega), ⟨at_ + 1, H, by omega, hH1, hH2, ?_⟩, ?_⟩
    · have hall : ∀ k, Box (((w.setCell ⟨b, 2, none⟩ (.int .u64 H)).drewN k).setCell ⟨b, 1, none⟩ (.int .i64 ((at_ : Int) + 1))) b [.slice (some ⟨g, off, none⟩) n q, .int .i64 ((at_ + 1 : Nat) : Int), .int .u64 H] := fun k => by
        have h2 := ((HBX.out.set (i := 2) (u := .int .u64 H) (by simp)).drewN k).set (i := 1) (u := .int .i64 ((at_ : Int) + 1)) (by simp)
        simpa using h2
      exact hall _
    · exact (((Frame.refl b (b + 1) w).setCell (Nat.le_refl _) (Nat.lt_succ_self _) _).drewN _).setCell (Nat.le_refl _) (Nat.lt_succ_self _) _
  · have hlt2 : ¬ ((at_ : Int) < n) := by omega
    go_quiet (fail)
    go_wp2
    refine bodyPost_ret (v := .int .i64 (X % m)) (by simp [results, Try.results155, go_sem]) rfl ?_
    refine ⟨_, rfl, Int.emod_nonneg _ (by omega), Int.emod_lt_of_pos _ (by omega), ⟨at_, H, by omega, hH1, hH2, ?_⟩, ?_⟩
    · have h1 := (HBX.out.set (i := 2) (u := .int .u64 H) (by simp)).drewN nq
      simpa using h1
    · exact ((Frame.refl b (b + 1) w).setCell (Nat.le_refl _) (Nat.lt_succ_self _) _).drewN _

theorem Bytes.frame {w w' : World} {B b : Nat} {p : Option Addr} {n : Nat} (h : Bytes w B p n) (hf : Frame b (b + 1) w w') (hB : B ≤ b) : Bytes w' B p n :=
  ⟨h.1, fun j hj => by
    obtain ⟨g, off, c, e, h1, h2, h3, h4⟩ := h.2 j hj
    exact ⟨g, off, c, e, h1, Nat.lt_of_lt_of_le h2 hf.size, (hf.cell (p := ⟨g, off + j, none⟩) h2 (.inl (by show g < b; omega))).trans h3, h4⟩⟩
theorem Bytes.below {w w' : World} {B : Nat} {p : Option Addr} {n : Nat} (h : Bytes w B p n) (hb : Below w.heap.size w w') : Bytes w' B p n :=
  ⟨h.1, fun j hj => by
    obtain ⟨g, off, c, e, h1, h2, h3, h4⟩ := h.2 j hj
    exact ⟨g, off, c, e, h1, Nat.lt_of_lt_of_le h2 hb.size, cell_later hb h3, h4⟩⟩
section
variable {o : Bool} {lo hi k : Nat} {v : Value} {f : Nat → Int}
set_option maxRecDepth 100000 in
theorem l01Pick_any (b B : Nat) (p : Option Addr) (n q : Nat) (w : World) (hs : Src w b p n q) (hb : Bytes w B p n) (hB : B ≤ b) (hl : Sl o w lo hi v k f) (hd : hi ≤ b ∨ b + 1 ≤ lo) (hk : 1 ≤ k) (hk2 : k ≤ 1000) :
    Calls Try.prog 145 #[.pointer (some ⟨b, 0, none⟩), v] w fun e w' => ∃ i, i < k ∧ e = .returned (.int .i64 (f i)) ∧ Src w' b p n q ∧ Frame b (b + 1) w w' := by
  obtain ⟨a, cap, rfl⟩ := hl.shape
  have HL := Lib.hid hl
  clear hl
  go_enter Try.func145, Try.ntmps145
  go_wp2_with fail
  refine (l01Next_any b B p n q k w hs hb hB (by omega) (by omega)).mono ?_
  rintro e w1 ⟨r, rfl, hr1, hr2, hs1, hf1⟩
  obtain ⟨i, rfl⟩ := Int.eq_ofNat_of_zero_le hr1
  have hik : i < k := by omega
  have hl1 := HL.out.keepF hf1 hd
  obtain ⟨g, off, c1, hv, _, _, _, _, hc, _⟩ := hl1.at (by omega)
  obtain ⟨rfl, rfl⟩ : a = some ⟨g, off, none⟩ ∧ cap = c1 := by cases hv; exact ⟨rfl, rfl⟩
  have hck := hc i hik
  clear hv hc
  go_wp2
  go_ret
  exact ⟨i, hik, rfl, hs1, hf1⟩
end
set_option maxRecDepth 100000 in
set_option maxHeartbeats 1000000 in
theorem l01From_any (B : Nat) (p : Option Addr) (n q : Nat) (w : World) (hb : Bytes w B p n) (hB : B ≤ w.heap.size) :
    Calls Try.prog 144 #[.slice p n q] w fun e w' => e = .returned (.pointer (some ⟨w.heap.size, 0, none⟩)) ∧ Src w' w.heap.size p n q ∧ Bytes w' B p n ∧ Below w.heap.size w w' := by
  have hn := hb.1
  have HB := Lib.hid hb
  clear hb
  have H0 := wrap_u64 (13131 + n)
  go_enter Try.func144, Try.ntmps144
  go_wp2
  go_loopw [4] (fun s4 wr => ∃ k : Nat, k ≤ n ∧ s4 = .int .i64 k ∧ (∃ h : Int, 0 ≤ h ∧ h ≤ 18446744073709551615 ∧ Box wr w.heap.size [.slice p n q, .int .i64 0, .int .u64 h]) ∧ Bytes wr B p n ∧ Below w.heap.size w wr) (fun s4 _ => n - (intOf s4).toNat)
  case atStart => exact ⟨0, Nat.zero_le _, rfl, ⟨13131 + n, by omega, by omega, Box.made _ _ _ _ (fun j v h => by simpa using h)⟩, HB.out.below ((Below.refl _ _).alloc (Nat.le_refl _) _), (Below.refl _ _).alloc (Nat.le_refl _) _⟩
  case round =>
    obtain ⟨k, hk, rfl, ⟨h, hh1, hh2, hbx⟩, hby, hbl⟩ := hrel
    have c0 := hbx.2.1 0 _ rfl
    have c1 := hbx.2.1 1 _ rfl
    have c2 := hbx.2.1 2 _ rfl
    have hz := hbx.2.2
    have hbz := hbx.1
    have HBX := Lib.hid hbx
    have HBY := Lib.hid hby
    have HBL := Lib.hid hbl
    clear hbx hby hbl
    by_cases hlt : k < n
    · obtain ⟨g, off, c, rfl, hg, hgz, hc, hc1, hc2⟩ := HBY.out.2 k hlt
      have hgb : ¬ (w.heap.size = g) := by omega
      have hlt2 : (k : Int) < n := by omega
      have hlt3 : (k : Int) < 4096 := by omega
      go_wp2
      go_region
      go_wp2
      go_roundw
      case rel =>
        have hw := wrap_u64 (IntKind.u64.wrap (IntKind.u64.wrap (h * 1099511628211) + c) + 131)
        have hf : Frame w.heap.size (w.heap.size + 1) wr ((wr.setCell ⟨w.heap.size, 2, none⟩ (.int .u64 (IntKind.u64.wrap (IntKind.u64.wrap (IntKind.u64.wrap (h * 1099511628211) + c) + 131)))).drew) := ((Frame.refl w.heap.size (w.heap.size + 1) wr).setCell (Nat.le_refl _) (Nat.lt_succ_self _) _).drew
        refine ⟨k + 1, by omega, by go_num, ⟨_, hw.1, hw.2, ?_⟩, HBY.out.frame hf hB, HBL.out.trans (hf.below (Nat.le_refl _) HBL.out.size)⟩
        have h2 := HBX.out.set (i := 2) (u := .int .u64 (IntKind.u64.wrap (IntKind.u64.wrap (IntKind.u64.wrap (h * 1099511628211) + c) + 131))) (by simp)
        have h3 := h2.keep (Below.refl _ _).drew
        simpa using h3
      case measure => simp [intOf] <;> omega
    · obtain rfl : k = n := by omega
      go_wp2
      go_ret
      exact ⟨rfl, ⟨0, h, Nat.zero_le _, hh1, hh2, HBX.out⟩, HBY.out, HBL.out⟩
end

section
open Go.RowKit Go.ChangeShapes
set_option linter.unusedVariables false
set_option linter.unusedSimpArgs false

theorem Src.keep {w w' : World} {b : Nat} {p : Option Addr} {n q : Nat} (h : Src w b p n q) (hb : Below w.heap.size w w') : Src w' b p n q := by
  obtain ⟨a, x, h1, h2, h3, h4⟩ := h
  exact ⟨a, x, h1, h2, h3, h4.keep hb⟩
theorem Src.lt {w : World} {b : Nat} {p : Option Addr} {n q : Nat} (h : Src w b p n q) : b < w.heap.size := by
  obtain ⟨a, x, h1, h2, h3, h4⟩ := h
  exact h4.1
/-- A list just laid. -/
theorem Sl.list (w : World) (xs : List Int) (hx : ∀ x ∈ xs, inR x) (hl : xs.length ≤ maxLen) :
    Sl true (w.alloc (.cells (xs.map (Value.int .i64)).toArray 2)) w.heap.size (w.heap.size + 1) (.slice (some ⟨w.heap.size, 0, none⟩) xs.length xs.length) xs.length (fun j => xs.getD j 0) :=
  Sl.made w _ _ _ _ _ (Nat.le_refl _) hl (fun j hj => by
    rw [List.getD_eq_getElem?_getD, List.getElem?_eq_getElem hj]
    exact hx _ (List.getElem_mem hj)) (fun j hj => by simp [List.getD_eq_getElem?_getD, List.getElem?_eq_getElem hj])
section
variable {b B : Nat} {p : Option Addr} {n q : Nat}
set_option maxRecDepth 100000 in
theorem l01Near_any (m : Int) (w : World) (hs : Src w b p n q) (hb : Bytes w B p n) (hB : B ≤ b) (hm : 0 ≤ m) (hm2 : m ≤ 100000000000) :
    Calls Try.prog 147 #[.pointer (some ⟨b, 0, none⟩), .int .i64 m] w fun e w' => ∃ r, e = .returned (.int .i64 r) ∧ inR r ∧ Src w' b p n q ∧ Bytes w' B p n ∧ Frame b (b + 1) w w' := by
  go_enter Try.func147, Try.ntmps147
  go_wp2_with fail
  refine (l01Next_any b B p n q 14 w hs hb hB (by omega) (by omega)).mono ?_
  rintro e w1 ⟨r, rfl, hr1, hr2, hs1, hf1⟩
  have hb1 := hb.frame hf1 hB
  clear hs hb
  by_cases h0 : r = 0
  · subst h0
    have hl := Sl.list w1 [-1, m + 1, 1099511627776, -4611686018427387904] (by intro x hx; simp only [List.mem_cons, List.not_mem_nil, or_false] at hx; unfold inR; rcases hx with rfl | rfl | rfl | rfl <;> omega) (by simp [maxLen])
    have hlt := hs1.lt
    have hs2 := hs1.keep ((Below.refl w1.heap.size w1).alloc (Nat.le_refl _) (.cells ([-1, m + 1, 1099511627776, -4611686018427387904].map (Value.int .i64)).toArray 2))
    have hb2 := hb1.below ((Below.refl w1.heap.size w1).alloc (Nat.le_refl _) (.cells ([-1, m + 1, 1099511627776, -4611686018427387904].map (Value.int .i64)).toArray 2))
    simp only [List.map_cons, List.map_nil, List.length_cons, List.length_nil] at hl hs2 hb2
    go_wp2_with fail
    refine (l01Pick_any b B p n q _ hs2 hb2 hB hl (.inr (by omega)) (by omega) (by omega)).mono ?_
    rintro e w2 ⟨i, hi, rfl, hs3, hf3⟩
    have hr : inR ([-1, m + 1, 1099511627776, -4611686018427387904].getD i 0) := hl.bd i hi
    generalize [-1, m + 1, 1099511627776, -4611686018427387904].getD i 0 = x at *
    go_wp2
    go_ret
    exact ⟨_, rfl, hr, hs3, hb2.frame hf3 hB, hf1.trans (((Frame.refl b (b + 1) w1).alloc _).trans hf3)⟩
  · have h0' : (r == 0) = false := by simpa using h0
    go_wp2_with fail
    refine (l01Next_any b B p n q (m + 1) w1 hs1 hb1 hB (by omega) (by omega)).mono ?_
    rintro e w2 ⟨r2, rfl, hr3, hr4, hs2, hf2⟩
    go_wp2
    go_ret
    exact ⟨r2, rfl, by unfold inR; omega, hs2, hb1.frame hf2 hB, hf1.trans hf2⟩
set_option maxRecDepth 100000 in
theorem l01DrawOrder_any (w : World) (hs : Src w b p n q) (hb : Bytes w B p n) (hB : B ≤ b) :
    Calls Try.prog 205 #[.pointer (some ⟨b, 0, none⟩)] w fun e w' => ∃ k : Nat, e = .returned (.int .i64 (k : Int)) ∧ 1 ≤ k ∧ k ≤ 16 ∧ Src w' b p n q ∧ Bytes w' B p n ∧ Frame b (b + 1) w w' := by
  go_enter Try.func205, Try.ntmps205
  go_wp2_with fail
  refine (l01Next_any b B p n q 16 w hs hb hB (by omega) (by omega)).mono ?_
  rintro e w1 ⟨r, rfl, hr1, hr2, hs1, hf1⟩
  have hb1 := hb.frame hf1 hB
  clear hs hb
  have hl := Sl.list w1 [1, 2, 3, 3, 4, 4, 5, 5, 6, 7, 8, 9, 10, 12, 1 + r] (by intro x hx; simp only [List.mem_cons, List.not_mem_nil, or_false] at hx; unfold inR; rcases hx with rfl | rfl | rfl | rfl | rfl | rfl | rfl | rfl | rfl | rfl | rfl | rfl | rfl | rfl | rfl <;> omega) (by simp [maxLen])
  have hall : ∀ x ∈ [1, 2, 3, 3, 4, 4, 5, 5, 6, 7, 8, 9, 10, 12, 1 + r], 1 ≤ x ∧ x ≤ 16 := by intro x hx; simp only [List.mem_cons, List.not_mem_nil, or_false] at hx; rcases hx with rfl | rfl | rfl | rfl | rfl | rfl | rfl | rfl | rfl | rfl | rfl | rfl | rfl | rfl | rfl <;> omega
  have hlt := hs1.lt
  have hs2 := hs1.keep ((Below.refl w1.heap.size w1).alloc (Nat.le_refl _) (.cells ([1, 2, 3, 3, 4, 4, 5, 5, 6, 7, 8, 9, 10, 12, 1 + r].map (Value.int .i64)).toArray 2))
  have hb2 := hb1.below ((Below.refl w1.heap.size w1).alloc (Nat.le_refl _) (.cells ([1, 2, 3, 3, 4, 4, 5, 5, 6, 7, 8, 9, 10, 12, 1 + r].map (Value.int .i64)).toArray 2))
  simp only [List.map_cons, List.map_nil, List.length_cons, List.length_nil] at hl hs2 hb2
  have HALL := Lib.hid hall
  clear hall
  go_wp2_with fail
  refine (l01Pick_any b B p n q _ hs2 hb2 hB hl (.inr (by omega)) (by omega) (by omega)).mono ?_
  rintro e w2 ⟨i, hi, rfl, hs3, hf3⟩
  have hmem : 1 ≤ [1, 2, 3, 3, 4, 4, 5, 5, 6, 7, 8, 9, 10, 12, 1 + r].getD i 0 ∧ [1, 2, 3, 3, 4, 4, 5, 5, 6, 7, 8, 9, 10, 12, 1 + r].getD i 0 ≤ 16 := by
    rw [List.getD_eq_getElem?_getD, List.getElem?_eq_getElem (by simpa using hi)]
    exact HALL.out _ (List.getElem_mem _)
  generalize [1, 2, 3, 3, 4, 4, 5, 5, 6, 7, 8, 9, 10, 12, 1 + r].getD i 0 = x at *
  obtain ⟨k, rfl⟩ := Int.eq_ofNat_of_zero_le (show 0 ≤ x by omega)
  go_wp2
  go_ret
  exact ⟨k, rfl, by omega, by omega, hs3, hb2.frame hf3 hB, hf1.trans (((Frame.refl b (b + 1) w1).alloc _).trans hf3)⟩
set_option maxRecDepth 100000 in
theorem l01DrawPart_any (m : Int) (w : World) (hs : Src w b p n q) (hb : Bytes w B p n) (hB : B ≤ b) (hm : 0 ≤ m) (hm2 : m ≤ 1000000000) :
    Calls Try.prog 156 #[.pointer (some ⟨b, 0, none⟩), .int .i64 m] w fun e w' => ∃ r, e = .returned (.int .i64 r) ∧ -m ≤ r ∧ r ≤ m ∧ Src w' b p n q ∧ Bytes w' B p n ∧ Frame b (b + 1) w w' := by
  go_enter Try.func156, Try.ntmps156
  go_wp2_with fail
  refine (l01Next_any b B p n q (2 * m + 1) w hs hb hB (by omega) (by omega)).mono ?_
  rintro e w1 ⟨r, rfl, hr1, hr2, hs1, hf1⟩
  have hb1 := hb.frame hf1 hB
  go_wp2
  go_ret
  exact ⟨r - m, rfl, by omega, by omega, hs1, hb1, hf1⟩
end
end

section
open Go.RowKit Go.ChangeShapes Go.Sort
set_option linter.unusedVariables false
set_option linter.unusedSimpArgs false
theorem Src.keepF {w w' : World} {b lo hi : Nat} {p : Option Addr} {n q : Nat} (h : Src w b p n q) (hf : Frame lo hi w w') (hd : b < lo ∨ hi ≤ b) : Src w' b p n q := by
  obtain ⟨a, x, h1, h2, h3, h4⟩ := h
  exact ⟨a, x, h1, h2, h3, h4.keepF hf hd⟩
theorem Bytes.frameG {w w' : World} {B lo hi : Nat} {p : Option Addr} {n : Nat} (h : Bytes w B p n) (hf : Frame lo hi w w') (hB : B ≤ lo) : Bytes w' B p n :=
  ⟨h.1, fun j hj => by
    obtain ⟨g, off, c, e, h1, h2, h3, h4⟩ := h.2 j hj
    exact ⟨g, off, c, e, h1, Nat.lt_of_lt_of_le h2 hf.size, (hf.cell (p := ⟨g, off + j, none⟩) h2 (.inl (by show g < lo; omega))).trans h3, h4⟩⟩
section
variable {b B : Nat} {p : Option Addr} {n q : Nat}
set_option maxRecDepth 100000 in
set_option maxHeartbeats 2000000 in
theorem l01DrawOf_any (N : Nat) (m : Int) (w : World) (hs : Src w b p n q) (hb : Bytes w B p n) (hB : B ≤ b) (hN1 : 1 ≤ N) (hN2 : N ≤ 16) (hm : 0 ≤ m) (hm2 : m ≤ 1000000000) :
    Calls Try.prog 181 #[.pointer (some ⟨b, 0, none⟩), .int .i64 (N : Int), .int .i64 m] w fun e w' => ∃ a cap f, e = .returned (.agg #[.int .i64 (N : Int), .slice a (phiN N) cap]) ∧ Sl true w' w.heap.size w'.heap.size (.slice a (phiN N) cap) (phiN N) f ∧ Within f (phiN N) 1000000000 ∧ Src w' b p n q ∧ Bytes w' B p n ∧ Frame b (b + 1) w w' := by
  have hbz := hs.lt
  have hp := phi_le12 N hN2 hN1
  have hp1 := phiN_pos N (by omega) hN1
  have ba := (Below.refl w.heap.size w).alloc (Nat.le_refl _) (.cells #[.int .i64 0, .slice none 0 0] 28)
  have hs0 := hs.keep ba
  have hb0 := hb.below ba
  have bx0 := Box.made2 (w := w) (b := w.heap.size) (v0 := .int .i64 0) (v1 := .slice none 0 0) (t := 28) rfl
  have f0 := (Frame.refl b (b + 1) w).alloc (.cells #[.int .i64 0, .slice none 0 0] 28)
  clear hs hb ba
  go_enter Try.func181, Try.ntmps181
  go_wp2_with fail
  refine (l01Zero_any N (by omega) _).mono ?_
  rintro e w1 ⟨a1, k1, rfl, s1, b1⟩
  have hz1 := b1.size
  simp only [World.size_alloc] at hz1 s1
  have bb := (Below.refl w1.heap.size w1).alloc (Nat.le_refl _) (.cells #[.int .i64 (N : Int), .slice a1 (phiN N) k1] 28)
  have HS := Lib.hid ((hs0.keep b1).keep bb)
  have HB := Lib.hid ((hb0.below b1).below bb)
  have HX0 := Lib.hid ((bx0.keep b1).keep bb)
  have HX1 := Lib.hid (Box.made2 (w := w1) (b := w1.heap.size) (v0 := .int .i64 (N : Int)) (v1 := .slice a1 (phiN N) k1) (t := 28) rfl)
  have HL := Lib.hid (s1.alloc (.cells #[.int .i64 (N : Int), .slice a1 (phiN N) k1] 28))
  have HF := Lib.hid ((f0.trans (Frame.of_below (lo := b) (hi := b + 1) b1 (Nat.le_refl _))).trans (Frame.of_below (lo := b) (hi := b + 1) bb (Nat.le_refl _)))
  clear hs0 hb0 bx0 f0 b1 s1 bb
  go_wp2
  go_loopw [8] (fun s8 wr => ∃ (k : Nat) (f : Nat → Int), k ≤ phiN N ∧ s8 = .int .i64 k ∧ Sl true wr (w.heap.size + 1) w1.heap.size (.slice a1 (phiN N) k1) (phiN N) f ∧ Within f (phiN N) 1000000000 ∧ Box wr w.heap.size [.int .i64 0, .slice none 0 0] ∧ Box wr w1.heap.size [.int .i64 (N : Int), .slice a1 (phiN N) k1] ∧ Src wr b p n q ∧ Bytes wr B p n ∧ Frame b (b + 1) w wr) (fun s8 _ => phiN N - (intOf s8).toNat)
  case atStart => exact ⟨0, fun _ => 0, Nat.zero_le _, rfl, HL.out, fun _ _ => by dsimp only; omega, HX0.out, HX1.out, HS.out, HB.out, HF.out⟩
  case round =>
    clear HS HB HX0 HX1 HL HF
    obtain ⟨k, f, hk, rfl, hl, hw, hx0, hx1, hs, hb, hf⟩ := hrel
    obtain ⟨c0, c1⟩ := hx1.cell2
    have HL := Lib.hid hl
    have HW := Lib.hid hw
    have HX0 := Lib.hid hx0
    have HX1 := Lib.hid hx1
    have HS := Lib.hid hs
    have HB := Lib.hid hb
    have HF := Lib.hid hf
    have hzr := hx1.1
    clear hl hw hx0 hx1 hs hb hf
    by_cases hlt : k < phiN N
    · have hkI : (k : Int) < (phiN N : Int) := by omega
      obtain ⟨g, off, c9, hv, _⟩ := HL.out.at (by omega)
      obtain ⟨rfl, rfl⟩ : a1 = some ⟨g, off, none⟩ ∧ k1 = c9 := by cases hv; exact ⟨rfl, rfl⟩
      clear hv
      obtain ⟨hgl, hgh, _, _, _⟩ := HL.out.known (by omega)
      have hlr := Sl.list wr [0, 1, 1] (by intro x hx; simp only [List.mem_cons, List.not_mem_nil, or_false] at hx; unfold inR; rcases hx with rfl | rfl | rfl <;> omega) (by simp [maxLen])
      simp only [List.map_cons, List.map_nil, List.length_cons, List.length_nil] at hlr
      have HLR := Lib.hid hlr
      clear hlr
      go_wp2_with fail
      go_region_held3 (fun w' => w'.cell? ⟨w1.heap.size, 1, none⟩ = some (.slice (some ⟨g, off, none⟩) (phiN N) k1))
        (first | exact c1 | exact d7 | exact d6 | exact cell_later ((Below.refl _ _).alloc (Nat.le_refl _) _) d6 | exact cell_later (((Below.refl _ _).alloc (Nat.le_refl _) _).drew) c1 | exact cell_later ((Below.refl _ _).alloc (Nat.le_refl _) _) c1 | exact cell_set1 d7 (by omega) | go_keep)
        (first
          | (go_at_call 156; refine (l01DrawPart_any m _ (by first | exact HS.out.keep (Below.refl _ _).drew | exact HS.out.keep (((Below.refl _ _).alloc (Nat.le_refl _) _).drew)) (by first | exact HB.out.below (Below.refl _ _).drew | exact HB.out.below (((Below.refl _ _).alloc (Nat.le_refl _) _).drew)) hB hm hm2).mono ?_; rintro e w6 ⟨r6, rfl, hr61, hr62, hs6, hb6, f6⟩
             have hz6 := f6.size
             try simp only [World.size_drew, World.size_alloc] at hz6
             have d6 : w6.cell? ⟨w1.heap.size, 1, none⟩ = some (.slice (some ⟨g, off, none⟩) (phiN N) k1) := (f6.cell (p := ⟨w1.heap.size, 1, none⟩) (by show w1.heap.size < _; (try simp only [World.size_drew, World.size_alloc]); omega) (.inr (by show b + 1 ≤ w1.heap.size; omega))).trans (by first | exact c1 | exact cell_later (((Below.refl _ _).alloc (Nat.le_refl _) _).drew) c1))
          | (go_at_call 145; refine (l01Pick_any b B p n q _ (by first | exact hs6 | exact hs6.keep ((Below.refl _ _).alloc (Nat.le_refl _) _)) (by first | exact hb6 | exact hb6.below ((Below.refl _ _).alloc (Nat.le_refl _) _)) hB (f := fun j => [0, 1, 1].getD j 0) (by first | exact (HLR.out.drew).keepF f6 (.inr (by omega)) | exact Sl.list w6 [0, 1, 1] (by intro x hx; simp only [List.mem_cons, List.not_mem_nil, or_false] at hx; unfold inR; rcases hx with rfl | rfl | rfl <;> omega) (by simp [maxLen])) (k := 3) (.inr (by omega)) (by omega) (by omega)).mono ?_; rintro e w7 ⟨i7, hi7, rfl, hs7, f7⟩
             have hz7 := f7.size
             try simp only [World.size_drew, World.size_alloc] at hz7
             have d7 : w7.cell? ⟨w1.heap.size, 1, none⟩ = some (.slice (some ⟨g, off, none⟩) (phiN N) k1) := (f7.cell (p := ⟨w1.heap.size, 1, none⟩) (by show w1.heap.size < _; (try simp only [World.size_drew, World.size_alloc]); omega) (.inr (by show b + 1 ≤ w1.heap.size; omega))).trans (by first | exact d6 | exact cell_later ((Below.refl _ _).alloc (Nat.le_refl _) _) d6)
             have FT : Frame b (b + 1) wr w7 := by first | exact ((((Frame.refl b (b + 1) wr).alloc _).drew).trans f6).trans f7 | exact ((((Frame.refl b (b + 1) wr).drew).trans f6).trans ((Frame.refl b (b + 1) w6).alloc _)).trans f7
             have hl7 := HL.out.keepF FT (.inr (by omega))
             obtain ⟨_, _, _, hc7, hzz7⟩ := hl7.known (by omega)
             have hck7 := hc7 k hlt
             have hfr7 := hzz7 rfl (off + k)
             have hx7 : [0, 1, 1].getD i7 0 = (0 : Int) ∨ [0, 1, 1].getD i7 0 = (1 : Int) := by rcases i7 with _ | _ | _ | i7 <;> simp
             generalize ([0, 1, 1] : List Int).getD i7 0 = x7 at *
             have hpr : -1000000000 ≤ r6 * x7 ∧ r6 * x7 ≤ 1000000000 := by rcases hx7 with rfl | rfl <;> omega
             have hwp : IntKind.i64.wrap (r6 * x7) = r6 * x7 := IntWalk.i64_in _ (by omega)
             have HL7 := Lib.hid hl7
             clear hc7 hzz7 hl7 hx7))
      all_goals
        have FS : Frame (w.heap.size + 1) w1.heap.size w7 (w7.setCell ⟨g, off + k, none⟩ (.int .i64 (r6 * x7))) := (Frame.refl _ _ w7).setCell (lo := w.heap.size + 1) (hi := w1.heap.size) hgl hgh _
        go_wp2
        go_roundw
        case rel =>
          refine ⟨k + 1, fun j => if j = k then r6 * x7 else f j, by omega, by go_num, ?_, ?_, ?_, ?_, ?_, ?_, ?_⟩
          · exact ((HL7.out.store (i := k) (by omega) (by unfold inR; omega)).drewN 0).congr (fun j hj => by by_cases e : j = k <;> simp [e])
          · intro j hj
            dsimp only
            by_cases e : j = k
            · rw [if_pos e]; exact hpr
            · rw [if_neg e]; exact HW.out j hj
          · exact (HX0.out.keepF FT (.inr (by omega))).keepF FS (.inl (by omega))
          · exact (HX1.out.keepF FT (.inr (by omega))).keepF FS (.inr (Nat.le_refl _))
          · exact hs7.keepF FS (.inl (by omega))
          · exact (HB.out.frame FT hB).frameG FS (by omega)
          · exact (HF.out.trans FT).setNew (by show w.heap.size ≤ g; omega) _
        case measure => simp [intOf] <;> omega
    · obtain rfl : k = phiN N := by omega
      obtain ⟨d0, d1⟩ := HX0.out.cell2
      have FS : Frame w.heap.size (w.heap.size + 1) wr ((wr.setCell ⟨w.heap.size, 0, none⟩ (.int .i64 (N : Int))).setCell ⟨w.heap.size, 1, none⟩ (.slice a1 (phiN N) k1)) := ((Frame.refl w.heap.size (w.heap.size + 1) wr).setCell (Nat.le_refl _) (Nat.lt_succ_self _) _).setCell (Nat.le_refl _) (Nat.lt_succ_self _) _
      have dz := HX0.out.2.2
      go_wp2
      refine bodyPost_ret (v := .agg #[.int .i64 (N : Int), .slice a1 (phiN N) k1]) (by simp [results, Try.results181, go_sem, d0, d1]) rfl ?_
      refine ⟨_, _, f, rfl, ?_, HW.out, ?_, ?_, ?_⟩
      · exact ((HL.out.setOther (.inl (by show w.heap.size < _; omega)) _).setOther (.inl (by show w.heap.size < _; omega)) _).wide (by omega) (by simp; omega) (Nat.le_refl _)
      · exact HS.out.keepF FS (.inl (by omega))
      · exact HB.out.frameG FS (by omega)
      · exact (HF.out.setNew (Nat.le_refl _) _).setNew (Nat.le_refl _) _
end
end

section
open Go.RowKit Go.ChangeShapes Go.Sort
set_option linter.unusedVariables false
set_option linter.unusedSimpArgs false
section
variable {b B : Nat} {p : Option Addr} {n q : Nat}
set_option maxRecDepth 100000 in
set_option maxHeartbeats 2000000 in
theorem l01Draw_any (w : World) (hs : Src w b p n q) (hb : Bytes w B p n) (hB : B ≤ b) :
    Calls Try.prog 221 #[.pointer (some ⟨b, 0, none⟩)] w fun e w' => ∃ (N : Nat) (a : Option Addr) (cap : Nat) (f : Nat → Int), 1 ≤ N ∧ N ≤ 16 ∧ e = .returned (.agg #[.int .i64 (N : Int), .slice a (phiN N) cap]) ∧ Sl true w' w.heap.size w'.heap.size (.slice a (phiN N) cap) (phiN N) f ∧ Within f (phiN N) 1000000000 ∧ Src w' b p n q ∧ Bytes w' B p n ∧ Frame b (b + 1) w w' := by
  have hbz := hs.lt
  have ba := (Below.refl w.heap.size w).alloc (Nat.le_refl _) (.cells #[.int .i64 0, .slice none 0 0] 28)
  have hs0 := hs.keep ba
  have hb0 := hb.below ba
  have bx0 := Box.made2 (w := w) (b := w.heap.size) (v0 := .int .i64 0) (v1 := .slice none 0 0) (t := 28) rfl
  have f0 := (Frame.refl b (b + 1) w).alloc (.cells #[.int .i64 0, .slice none 0 0] 28)
  clear hs hb ba
  go_enter Try.func221, Try.ntmps221
  go_wp2_with fail
  refine (l01DrawOrder_any _ hs0 hb0 hB).mono ?_
  rintro e w1 ⟨N, rfl, hN1, hN2, hs1, hb1, f1⟩
  have hz1 := f1.size
  simp only [World.size_alloc] at hz1
  have bx1 := bx0.keepF f1 (.inr (by omega))
  have F1 := f0.trans f1
  clear hs0 hb0 bx0 f0 f1
  have hl := Sl.list w1 [1, 2, 3, 9, 1000, 400000000] (by intro x hx; simp only [List.mem_cons, List.not_mem_nil, or_false] at hx; unfold inR; rcases hx with rfl | rfl | rfl | rfl | rfl | rfl <;> omega) (by simp [maxLen])
  have hall : ∀ x ∈ [1, 2, 3, 9, 1000, (400000000 : Int)], 0 ≤ x ∧ x ≤ 1000000000 := by intro x hx; simp only [List.mem_cons, List.not_mem_nil, or_false] at hx; rcases hx with rfl | rfl | rfl | rfl | rfl | rfl <;> omega
  have ba := (Below.refl w1.heap.size w1).alloc (Nat.le_refl _) (.cells ([1, 2, 3, 9, 1000, 400000000].map (Value.int .i64)).toArray 2)
  have hs2 := hs1.keep ba
  have hb2 := hb1.below ba
  have bx2 := bx1.keep ba
  have F2 := F1.alloc (.cells ([1, 2, 3, 9, 1000, 400000000].map (Value.int .i64)).toArray 2)
  simp only [List.map_cons, List.map_nil, List.length_cons, List.length_nil] at hl hs2 hb2 bx2 F2
  have HALL := Lib.hid hall
  clear hall hs1 hb1 bx1 F1 ba
  go_wp2_with fail
  refine (l01Pick_any b B p n q _ hs2 hb2 hB hl (.inr (by omega)) (by omega) (by omega)).mono ?_
  rintro e w2 ⟨i, hi, rfl, hs3, f3⟩
  have hmem : 0 ≤ ([1, 2, 3, 9, 1000, 400000000] : List Int).getD i 0 ∧ ([1, 2, 3, 9, 1000, 400000000] : List Int).getD i 0 ≤ 1000000000 := by
    rw [List.getD_eq_getElem?_getD, List.getElem?_eq_getElem (by simpa using hi)]
    exact HALL.out _ (List.getElem_mem _)
  generalize ([1, 2, 3, 9, 1000, 400000000] : List Int).getD i 0 = x at *
  have hz3 := f3.size
  simp only [World.size_alloc] at hz3
  have hb3 := hb2.frame f3 hB
  have bx3 := bx2.keepF f3 (.inr (by omega))
  have F3 := F2.trans f3
  clear hb2 bx2 F2 f3 hs2 hl
  go_wp2_with fail
  refine (l01DrawOf_any N x _ hs3 hb3 hB hN1 hN2 hmem.1 hmem.2).mono ?_
  rintro e w4 ⟨a4, k4, f, rfl, s4, hw4, hs4, hb4, f4⟩
  have hz4 := f4.size
  have bx4 := bx3.keepF f4 (.inr (by omega))
  have F4 := F3.trans f4
  have S4 := Lib.hid s4
  have HS4 := Lib.hid hs4
  have HB4 := Lib.hid hb4
  have hw := Lib.hid hw4
  clear hs3 hb3 bx3 F3 f4 s4 hs4 hb4 hw4
  obtain ⟨d0, d1⟩ := bx4.cell2
  have dz := bx4.2.2
  have hbx := bx4.1
  clear bx4
  have FS : Frame w.heap.size (w.heap.size + 1) w4 ((w4.setCell ⟨w.heap.size, 0, none⟩ (.int .i64 (N : Int))).setCell ⟨w.heap.size, 1, none⟩ (.slice a4 (phiN N) k4)) := ((Frame.refl w.heap.size (w.heap.size + 1) w4).setCell (Nat.le_refl _) (Nat.lt_succ_self _) _).setCell (Nat.le_refl _) (Nat.lt_succ_self _) _
  go_wp2
  refine bodyPost_ret (v := .agg #[.int .i64 (N : Int), .slice a4 (phiN N) k4]) (by simp [results, Try.results221, go_sem, d0, d1]) rfl ?_
  refine ⟨N, _, _, f, hN1, hN2, rfl, ?_, hw.out, ?_, ?_, ?_⟩
  · exact ((S4.out.setOther (.inl (by show w.heap.size < _; omega)) _).setOther (.inl (by show w.heap.size < _; omega)) _).wide (by omega) (by simp) (Nat.le_refl _)
  · exact HS4.out.keepF FS (.inl (by omega))
  · exact HB4.out.frameG FS (by omega)
  · exact (F4.setNew (Nat.le_refl _) _).setNew (Nat.le_refl _) _
end
end

section
open Go.RowKit Go.ChangeShapes Go.Sort
set_option linter.unusedVariables false
set_option linter.unusedSimpArgs false

/-- The source lies in the block b, its bytes below B; boxes and slices lie apart from it. -/
def Ds (b B : Nat) (p : Option Addr) (n q : Nat) (W w : World) (bs : List (Nat × List Value)) (ss : List SlF) : Prop :=
  Frame b (b + 1) W w ∧ Src w b p n q ∧ Bytes w B p n ∧ (B ≤ b ∧ B ≤ W.heap.size) ∧ (∀ x ∈ bs, Box w x.1 x.2 ∧ x.1 ≠ b) ∧ (∀ s ∈ ss, Sl s.o w s.lo s.hi s.v s.n s.f ∧ (s.hi ≤ b ∨ b + 1 ≤ s.lo))
theorem Frame.set {lo hi g o : Nat} {a w : World} (h : Frame lo hi a w) (hl : lo ≤ g) (hh : g < hi) (u : Value) : Frame lo hi a (w.setCell ⟨g, o, none⟩ u) := h.setCell (p := ⟨g, o, none⟩) hl hh u
section
variable {b B : Nat} {p : Option Addr} {n q : Nat} {W w w' : World} {bs : List (Nat × List Value)} {ss : List SlF}
theorem Ds.start (hs : Src W b p n q) (hb : Bytes W B p n) (hB : B ≤ b) : Ds b B p n q W W [] [] :=
  ⟨Frame.refl _ _ _, hs, hb, ⟨hB, Nat.le_of_lt (Nat.lt_of_le_of_lt hB hs.lt)⟩, (fun _ h => absurd h List.not_mem_nil), (fun _ h => absurd h List.not_mem_nil)⟩
theorem Ds.src (h : Ds b B p n q W w bs ss) : Src w b p n q := h.2.1
theorem Ds.bytes (h : Ds b B p n q W w bs ss) : Bytes w B p n := h.2.2.1
theorem Ds.low (h : Ds b B p n q W w bs ss) : B ≤ b := h.2.2.2.1.1
theorem Ds.at (hB : B ≤ W.heap.size) (h0 : Below W.heap.size W w) (hs : Src w b p n q) (hb : Bytes w B p n) (hBb : B ≤ b) : Ds b B p n q W w [] [] :=
  ⟨Frame.of_below h0 (Nat.le_refl _), hs, hb, ⟨hBb, hB⟩, (fun _ h => absurd h List.not_mem_nil), (fun _ h => absurd h List.not_mem_nil)⟩
theorem Ds.below (h : Ds b B p n q W w bs ss) (hb : W.heap.size ≤ b) : Below W.heap.size W w := h.1.below hb (Nat.le_refl _)
theorem Ds.lt (h : Ds b B p n q W w bs ss) : b < w.heap.size := h.2.1.lt
theorem Ds.frame (h : Ds b B p n q W w bs ss) : Frame b (b + 1) W w := h.1
theorem Ds.size (h : Ds b B p n q W w bs ss) : W.heap.size ≤ w.heap.size := h.1.size
theorem Ds.box (h : Ds b B p n q W w bs ss) (i : Nat) (x : Nat × List Value) (hi : bs[i]? = some x) : Box w x.1 x.2 := (h.2.2.2.2.1 x (List.mem_of_getElem? hi)).1
theorem Ds.sl (h : Ds b B p n q W w bs ss) (i : Nat) (s : SlF) (hi : ss[i]? = some s) : Sl s.o w s.lo s.hi s.v s.n s.f := (h.2.2.2.2.2 s (List.mem_of_getElem? hi)).1
theorem Ds.apart (h : Ds b B p n q W w bs ss) (i : Nat) (s : SlF) (hi : ss[i]? = some s) : s.hi ≤ b ∨ b + 1 ≤ s.lo := (h.2.2.2.2.2 s (List.mem_of_getElem? hi)).2
theorem Ds.keep (h : Ds b B p n q W w bs ss) (hb : Below w.heap.size w w') : Ds b B p n q W w' bs ss :=
  ⟨h.1.trans (Frame.of_below hb (Nat.le_refl _)), h.2.1.keep hb, h.2.2.1.below hb, h.2.2.2.1, fun x hx => ⟨(h.2.2.2.2.1 x hx).1.keep hb, (h.2.2.2.2.1 x hx).2⟩, fun s hs => ⟨(h.2.2.2.2.2 s hs).1.keep hb (h.2.2.2.2.2 s hs).1.size, (h.2.2.2.2.2 s hs).2⟩⟩
/-- A number has been drawn. -/
theorem Ds.draw (h : Ds b B p n q W w bs ss) (hs : Src w' b p n q) (hf : Frame b (b + 1) w w') : Ds b B p n q W w' bs ss :=
  ⟨h.1.trans hf, hs, h.2.2.1.frame hf h.low, h.2.2.2.1, fun x hx => ⟨(h.2.2.2.2.1 x hx).1.keepF hf (by have := (h.2.2.2.2.1 x hx).2; omega), (h.2.2.2.2.1 x hx).2⟩, fun s hs => ⟨(h.2.2.2.2.2 s hs).1.keepF hf (h.2.2.2.2.2 s hs).2, (h.2.2.2.2.2 s hs).2⟩⟩
theorem Ds.alloc (h : Ds b B p n q W w bs ss) (o : Obj) : Ds b B p n q W (w.alloc o) bs ss := h.keep ((Below.refl _ _).alloc (Nat.le_refl _) _)
theorem Ds.drew (h : Ds b B p n q W w bs ss) : Ds b B p n q W w.drew bs ss := h.keep (Below.refl _ _).drew
theorem Ds.addSl (h : Ds b B p n q W w bs ss) (s : SlF) (hs : Sl s.o w s.lo s.hi s.v s.n s.f) (ha : s.hi ≤ b ∨ b + 1 ≤ s.lo) : Ds b B p n q W w bs (s :: ss) :=
  ⟨h.1, h.2.1, h.2.2.1, h.2.2.2.1, h.2.2.2.2.1, fun x hx => by
    rcases List.mem_cons.1 hx with rfl | hx
    · exact ⟨hs, ha⟩
    · exact h.2.2.2.2.2 x hx⟩
theorem Ds.addBox (h : Ds b B p n q W w bs ss) (c : Nat) (vs : List Value) (hb : Box w c vs) (hc : c ≠ b) : Ds b B p n q W w ((c, vs) :: bs) ss :=
  ⟨h.1, h.2.1, h.2.2.1, h.2.2.2.1, fun x hx => by
    rcases List.mem_cons.1 hx with rfl | hx
    · exact ⟨hb, hc⟩
    · exact h.2.2.2.2.1 x hx, h.2.2.2.2.2⟩
/-- A new box. -/
theorem Ds.newBox (h : Ds b B p n q W w bs ss) (vs : List Value) (t : TypeId) : Ds b B p n q W (w.alloc (.cells vs.toArray t)) ((w.heap.size, vs) :: bs) ss :=
  (h.alloc _).addBox _ _ (Box.made _ _ _ _ (fun j v h => by simpa using h)) (by have := h.lt; omega)
/-- Cells of a block of the call's own are written. -/
theorem Ds.write (h : Ds b B p n q W w bs ss) {lo hi : Nat} (hf : Frame lo hi w w') (hlo : W.heap.size ≤ lo) (hbl : b < lo ∨ hi ≤ b) (bs' : List (Nat × List Value)) (ss' : List SlF) (hbs : ∀ x ∈ bs', x ∈ bs ∧ (x.1 < lo ∨ hi ≤ x.1)) (hss : ∀ s ∈ ss', s ∈ ss ∧ (s.hi ≤ lo ∨ hi ≤ s.lo)) : Ds b B p n q W w' bs' ss' :=
  ⟨⟨hf.os.trans h.1.os, hf.tape.trans h.1.tape, hf.output.trans h.1.output, Nat.le_trans h.1.size hf.size, fun k hk hd => (hf.block k (Nat.lt_of_lt_of_le hk h.1.size) (.inl (by omega))).trans (h.1.block k hk hd)⟩, h.2.1.keepF hf hbl, h.2.2.1.frameG hf (by have := h.2.2.2.1.2; omega), h.2.2.2.1, fun x hx => ⟨(h.2.2.2.2.1 x (hbs x hx).1).1.keepF hf (hbs x hx).2, (h.2.2.2.2.1 x (hbs x hx).1).2⟩, fun s hs => ⟨(h.2.2.2.2.2 s (hss s hs).1).1.keepF hf (hss s hs).2, (h.2.2.2.2.2 s (hss s hs).1).2⟩⟩
end
end

section
open Go.RowKit Go.ChangeShapes Go.Sort
set_option linter.unusedVariables false
set_option linter.unusedSimpArgs false
set_option maxHeartbeats 400000 in
/-- A copy of a list that is not empty, as a list that grows. -/
theorem l01Own_row {o : Bool} {lo hi n : Nat} {v : Value} {f : Nat → Int} (w : World) (hs : Sl o w lo hi v n f) (h0 : 0 < n) (hn : n ≤ 1048576) :
    Calls Try.prog 220 #[v] w fun e w' => ∃ g' cap', e = .returned (.slice (some ⟨g', 0, none⟩) n cap') ∧ Row w' w.heap.size g' cap' n f ∧ Below w.heap.size w w' := by
  have hbd := hs.bd
  obtain ⟨i0, hi, hz0, hz1, hz2⟩ := info_parts Try.info2
  have hrow := World.ownsRow_made (e := 2) (size := 1) (base := w.heap.size) w #[] 0 (Nat.le_refl _) (Nat.zero_le _) rfl
  rcases hs.parts with ⟨rfl, rfl⟩ | ⟨ad, cap, rfl, hcell⟩
  · exact absurd h0 (Nat.lt_irrefl _)
  · have hm := hs.len
    have HS := Lib.hid hs; clear hs
    have HC := Lib.hid (fun j u hu => cell_later ((Below.refl w.heap.size w).alloc (Nat.le_refl _) (.cells #[] 2)) (hcell j u hu)); clear hcell
    have HB := Lib.hid hbd; clear hbd
    have HR := Lib.hid hrow; clear hrow
    go_enter Try.func220, Try.ntmps220
    go_wp2_with (at_builtin; refine wpList_append_own _ rfl (.tmp 3) (.tmp 4) 22 rfl w.heap.size 2 i0 (.int .i64 0) 1 8 Try.underlying22 hi hz0 hz1 hz2 rfl (by decide) _ 0 [] rfl HR.out ad n cap ((List.range n).map (fun j => Value.int .i64 (f j))) rfl (by simp) HC.out (fun x hx => by obtain ⟨j, _, rfl⟩ := List.mem_map.1 hx; rfl) (by omega) (by omega) (by simp) ?_; intro v' w1 hown hgrow _)
    go_ret
    simp only [Nat.zero_add, List.nil_append] at hown
    obtain ⟨g1, cap1, rfl, _, _⟩ := hown.form h0
    exact ⟨g1, cap1, rfl, hown, ((Below.refl _ _).alloc (Nat.le_refl _) _).grown hgrow (by simp) (fun k hk => by cases hk; exact Nat.le_refl _)⟩
/-- A number has been drawn, or something that is none: its Parts lie from the block lo on. -/
def DrC (b : Nat) (p : Option Addr) (n q lo M : Nat) (w : World) (e : Ending) (w' : World) : Prop :=
  ∃ (x : Int) (L : Nat) (a : Option Addr) (cap : Nat) (f : Nat → Int) (lo' hi' : Nat), e = .returned (.agg #[.int .i64 x, .slice a L cap]) ∧ inR x ∧ 0 < L ∧ L ≤ M ∧ Sl false w' lo' hi' (.slice a L cap) L f ∧ lo ≤ lo' ∧ Src w' b p n q ∧ Frame b (b + 1) w w'
theorem Row.sl {w : World} {base g cap n : Nat} {f : Nat → Int} (h : Row w base g cap n f) (hr : ∀ j, j < n → inR (f j)) (hm : n ≤ maxLen) : Sl true w base w.heap.size (.slice (some ⟨g, 0, none⟩) n cap) n f :=
  Sl.ofRowF h hr hm
section
variable {b B : Nat} {p : Option Addr} {n q : Nat} {o : Bool} {lo hi L : Nat} {v : Value} {f : Nat → Int}
set_option maxRecDepth 100000 in
set_option maxHeartbeats 4000000 in
theorem l01Bad_any (x : Int) (w : World) (hs : Src w b p n q) (hb : Bytes w B p n) (hB : B ≤ b) (hx : inR x) (hl : Sl o w lo hi v L f) (hlo : b + 1 ≤ lo) (hL0 : 0 < L) (hL : L ≤ 1000) :
    Calls Try.prog 203 #[.pointer (some ⟨b, 0, none⟩), .agg #[.int .i64 x, v]] w (DrC b p n q lo (L + 1) w) := by
  obtain ⟨av, cv, rfl⟩ := hl.shape
  have hlh : lo < hi := by obtain ⟨g, off, cap, _, h1, h2, _⟩ := hl.at hL0; omega
  have hbz := hs.lt
  have hlz := hl.size
  have st0 := (((Ds.start hs hb hB).addSl ⟨o, lo, hi, .slice av L cv, L, f⟩ hl (.inr hlo)).newBox [.int .i64 x, .slice av L cv] 28).newBox [.int .i64 0, .slice none 0 0] 28
  simp only [World.size_alloc] at st0
  clear hs hb hl
  go_enter Try.func203, Try.ntmps203
  go_wp2_with fail
  refine (l01Next_any b B p n q 50 _ st0.src st0.bytes hB (by omega) (by omega)).mono ?_
  rintro e w1 ⟨r, rfl, hr1, hr2, hs1, f1⟩
  have hz1 := f1.size
  simp only [World.size_alloc] at hz1
  have st1 := st0.draw hs1 f1
  clear st0 hs1 f1
  obtain ⟨c0, c1⟩ := (st1.box 1 (w.heap.size, [.int .i64 x, .slice av L cv]) rfl).cell2
  have cz := (st1.box 1 (w.heap.size, [.int .i64 x, .slice av L cv]) rfl).2.2
  obtain ⟨d0, d1⟩ := (st1.box 0 (w.heap.size + 1, [.int .i64 0, .slice none 0 0]) rfl).cell2
  have dz := (st1.box 0 (w.heap.size + 1, [.int .i64 0, .slice none 0 0]) rfl).2.2
  dsimp only at cz dz
  have ST := Lib.hid st1
  by_cases h0 : r = 0
  · subst h0
    have hl2 := Sl.list w1 [0, 17, -1] (by intro x hx; simp only [List.mem_cons, List.not_mem_nil, or_false] at hx; unfold inR; rcases hx with rfl | rfl | rfl <;> omega) (by simp [maxLen])
    have st2 := st1.alloc (.cells ([0, 17, -1].map (Value.int .i64)).toArray 2)
    simp only [List.map_cons, List.map_nil, List.length_cons, List.length_nil] at hl2 st2
    have hall : ∀ x ∈ [0, 17, (-1 : Int)], inR x := by intro x hx; simp only [List.mem_cons, List.not_mem_nil, or_false] at hx; unfold inR; rcases hx with rfl | rfl | rfl <;> omega
    have HALL := Lib.hid hall
    clear hall st1
    go_wp2_with fail
    refine (l01Pick_any b B p n q _ st2.src st2.bytes hB hl2 (.inr (by omega)) (by omega) (by omega)).mono ?_
    rintro e w2 ⟨i, hi', rfl, hs3, f3⟩
    have hmem : inR (([0, 17, -1] : List Int).getD i 0) := by
      rw [List.getD_eq_getElem?_getD, List.getElem?_eq_getElem (by simpa using hi')]
      exact HALL.out _ (List.getElem_mem _)
    generalize ([0, 17, -1] : List Int).getD i 0 = y at *
    have hz3 := f3.size
    simp only [World.size_alloc] at hz3
    have st3 := st2.draw hs3 f3
    have HY := Lib.hid hmem
    clear st2 hs3 f3 hl2 c0 c1 cz d0 d1 dz hmem
    obtain ⟨c0, c1⟩ := (st3.box 1 (w.heap.size, [.int .i64 x, .slice av L cv]) rfl).cell2
    have cz := (st3.box 1 (w.heap.size, [.int .i64 x, .slice av L cv]) rfl).2.2
    obtain ⟨d0, d1⟩ := (st3.box 0 (w.heap.size + 1, [.int .i64 0, .slice none 0 0]) rfl).cell2
    have dz := (st3.box 0 (w.heap.size + 1, [.int .i64 0, .slice none 0 0]) rfl).2.2
    dsimp only at cz dz
    have ST3 := Lib.hid st3
    clear st3
    go_wp2
    refine bodyPost_ret (v := .agg #[.int .i64 y, .slice av L cv]) (by simp [results, Try.results203, go_sem, d0, d1]) rfl ?_
    have FS : Frame w.heap.size (w.heap.size + 1 + 1) w2 (((w2.setCell ⟨w.heap.size, 0, none⟩ (.int .i64 y)).setCell ⟨w.heap.size + 1, 0, none⟩ (.int .i64 y)).setCell ⟨w.heap.size + 1, 1, none⟩ (.slice av L cv)) := (((Frame.refl _ _ w2).set (by omega) (by omega) _).set (by omega) (by omega) _).set (by omega) (by omega) _
    have st4 := ST3.out.write FS (Nat.le_refl _) (.inl hbz) [] [⟨o, lo, hi, .slice av L cv, L, f⟩] (fun x hx => by cases hx) (fun s hs => ⟨hs, by obtain rfl := List.mem_singleton.1 hs; exact .inl (by dsimp only; omega)⟩)
    exact ⟨y, L, av, cv, f, lo, hi, rfl, HY.out, hL0, by omega, (st4.sl 0 ⟨o, lo, hi, .slice av L cv, L, f⟩ rfl).rd, Nat.le_refl _, st4.src, st4.frame⟩
  · by_cases h1 : r = 1
    · subst h1
      have hs1 := st1.sl 0 ⟨o, lo, hi, .slice av L cv, L, f⟩ rfl
      dsimp only at hs1
      have HS1 := Lib.hid hs1
      clear st1 hs1
      go_wp2_with fail
      refine (l01Own_row _ HS1.out hL0 (by omega)).mono ?_
      rintro e w2 ⟨g2, k2, rfl, row2, b2⟩
      have hz2 := b2.size
      have st2 := ST.out.keep b2
      clear c0 c1 cz d0 d1 dz
      obtain ⟨c0, c1⟩ := (st2.box 1 (w.heap.size, [.int .i64 x, .slice av L cv]) rfl).cell2
      have cz := (st2.box 1 (w.heap.size, [.int .i64 x, .slice av L cv]) rfl).2.2
      obtain ⟨d0, d1⟩ := (st2.box 0 (w.heap.size + 1, [.int .i64 0, .slice none 0 0]) rfl).cell2
      have dz := (st2.box 0 (w.heap.size + 1, [.int .i64 0, .slice none 0 0]) rfl).2.2
      dsimp only at cz dz
      have ST2 := Lib.hid st2
      have R2 := Lib.hid row2
      have hg2 := row2.lt
      have c0' := cell_later ((Below.refl w2.heap.size w2).alloc (Nat.le_refl _) (.cells #[.int .i64 0] 2)) c0
      clear st2 row2 b2
      go_wp2_with (at_builtin; refine wpList_push rfl (.tmp 17) (.tmp 18) rfl rfl w1.heap.size g2 k2 L f rfl (R2.out.alloc _) w2.heap.size 0 rfl (heap_alloc_new w2 _) (by omega) ?_; intro gA kA wA rowA grA orA ltA
                   have st5 := (ST2.out.alloc (.cells #[.int .i64 0] 2)).write (Frame.ofGrown grA) (by omega) (by omega) [(w.heap.size + 1, [.int .i64 0, .slice none 0 0]), (w.heap.size, [.int .i64 x, .slice av L cv])] [⟨o, lo, hi, .slice av L cv, L, f⟩] (fun x hx => ⟨hx, by simp only [List.mem_cons, List.not_mem_nil, or_false] at hx; rcases hx with rfl | rfl <;> exact .inl (by dsimp only; omega)⟩) (fun s hs => ⟨hs, by obtain rfl := List.mem_singleton.1 hs; exact .inl (by dsimp only; omega)⟩)
                   clear c0 c1 cz d0 d1 dz c0'
                   obtain ⟨c0, c1⟩ := (st5.box 1 (w.heap.size, [.int .i64 x, .slice av L cv]) rfl).cell2
                   have cz := (st5.box 1 (w.heap.size, [.int .i64 x, .slice av L cv]) rfl).2.2
                   obtain ⟨d0, d1⟩ := (st5.box 0 (w.heap.size + 1, [.int .i64 0, .slice none 0 0]) rfl).cell2
                   have dz := (st5.box 0 (w.heap.size + 1, [.int .i64 0, .slice none 0 0]) rfl).2.2
                   dsimp only at cz dz
                   have ST5 := Lib.hid st5
                   have RA := Lib.hid rowA
                   have hzA := grA.size
                   simp only [World.size_alloc] at hzA
                   clear st5 rowA grA orA)
      refine bodyPost_ret (v := .agg #[.int .i64 x, .slice (some ⟨gA, 0, none⟩) (L + 1) kA]) (by simp [results, Try.results203, go_sem, d0, d1]) rfl ?_
      have hbd : ∀ j, j < L + 1 → inR (if j < L then f j else 0) := fun j hj => by
        by_cases e : j < L
        · rw [if_pos e]; exact HS1.out.bd j e
        · rw [if_neg e]; unfold inR; omega
      have sA := (RA.out.sl hbd (by unfold maxLen; omega)).rd
      have st6 := ST5.out.addSl ⟨false, w1.heap.size, wA.heap.size, .slice (some ⟨gA, 0, none⟩) (L + 1) kA, L + 1, fun j => if j < L then f j else 0⟩ sA (.inr (by dsimp only; omega))
      have FS : Frame w.heap.size (w.heap.size + 1 + 1) wA (((wA.setCell ⟨w.heap.size, 1, none⟩ (.slice (some ⟨gA, 0, none⟩) (L + 1) kA)).setCell ⟨w.heap.size + 1, 0, none⟩ (.int .i64 x)).setCell ⟨w.heap.size + 1, 1, none⟩ (.slice (some ⟨gA, 0, none⟩) (L + 1) kA)) := (((Frame.refl _ _ wA).set (by omega) (by omega) _).set (by omega) (by omega) _).set (by omega) (by omega) _
      have st7 := st6.write FS (Nat.le_refl _) (.inl hbz) [] [⟨false, w1.heap.size, wA.heap.size, .slice (some ⟨gA, 0, none⟩) (L + 1) kA, L + 1, fun j => if j < L then f j else 0⟩] (fun x hx => by cases hx) (fun s hs => ⟨List.mem_cons.2 (.inl (List.mem_singleton.1 hs)), by obtain rfl := List.mem_singleton.1 hs; exact .inr (by dsimp only; omega)⟩)
      exact ⟨x, L + 1, _, kA, _, _, _, rfl, hx, by omega, Nat.le_refl _, st7.sl 0 _ rfl, by show lo ≤ w1.heap.size; omega, st7.src, st7.frame⟩
    · by_cases h2 : r = 2
      · subst h2
        have hs1 := st1.sl 0 ⟨o, lo, hi, .slice av L cv, L, f⟩ rfl
        dsimp only at hs1
        have HS1 := Lib.hid hs1
        clear st1 hs1
        go_wp2_with fail
        refine (l01Own_row _ HS1.out hL0 (by omega)).mono ?_
        rintro e w2 ⟨g2, k2, rfl, row2, b2⟩
        have hz2 := b2.size
        have hg2 := row2.lt
        have st2 := (ST.out.keep b2).addSl ⟨true, w1.heap.size, w2.heap.size, .slice (some ⟨g2, 0, none⟩) L k2, L, f⟩ (row2.sl HS1.out.bd (by unfold maxLen; omega)) (.inr (by show b + 1 ≤ w1.heap.size; omega))
        clear c0 c1 cz d0 d1 dz row2 b2
        have bx3 := (st2.box 1 (w.heap.size, [.int .i64 x, .slice av L cv]) rfl)
        dsimp only at bx3
        obtain ⟨c0, c1⟩ := bx3.cell2
        have cz := bx3.2.2
        have bx3' := bx3.set (i := 1) (u := .slice (some ⟨g2, 0, none⟩) L k2) (by simp)
        have st3 := (st2.write (lo := w.heap.size) (hi := w.heap.size + 1) ((Frame.refl _ _ w2).set (o := 1) (Nat.le_refl _) (Nat.lt_succ_self _) (.slice (some ⟨g2, 0, none⟩) L k2)) (Nat.le_refl _) (.inl hbz) [(w.heap.size + 1, [.int .i64 0, .slice none 0 0])] [⟨true, w1.heap.size, w2.heap.size, .slice (some ⟨g2, 0, none⟩) L k2, L, f⟩] (fun x hx => ⟨by simp at hx ⊢; exact .inl hx, by obtain rfl := List.mem_singleton.1 hx; exact .inr (Nat.le_refl _)⟩) (fun s hs => ⟨by simp at hs ⊢; exact .inl hs, by obtain rfl := List.mem_singleton.1 hs; exact .inr (by dsimp only; omega)⟩)).addBox _ _ bx3' (by omega)
        have hl3 := (Sl.list (w2.setCell ⟨w.heap.size, 1, none⟩ (.slice (some ⟨g2, 0, none⟩) L k2)) [1000000001, -1000000001, 1099511627776] (by intro x hx; simp only [List.mem_cons, List.not_mem_nil, or_false] at hx; unfold inR; rcases hx with rfl | rfl | rfl <;> omega) (by simp [maxLen])).drew
        have st4 := (st3.alloc (.cells ([1000000001, -1000000001, 1099511627776].map (Value.int .i64)).toArray 2)).drew
        simp only [List.map_cons, List.map_nil, List.length_cons, List.length_nil, List.set_cons_succ, List.set_cons_zero, World.size_setCell] at hl3 st4 st3
        have hall : ∀ x ∈ [1000000001, -1000000001, (1099511627776 : Int)], inR x := by intro x hx; simp only [List.mem_cons, List.not_mem_nil, or_false] at hx; unfold inR; rcases hx with rfl | rfl | rfl <;> omega
        have HALL := Lib.hid hall
        have HL3 := Lib.hid hl3
        have ST4 := Lib.hid st4
        have c2 := (st3.box 0 (w.heap.size, [.int .i64 x, .slice (some ⟨g2, 0, none⟩) L k2]) rfl).cell2.2
        dsimp only at c2
        have C2 := Lib.hid c2
        clear hall hl3 st4 st3 st2 bx3 bx3' c2
        go_wp2_with fail
        have c1 := C2.out
        go_region_held3 (fun w' => w'.cell? ⟨w.heap.size, 1, none⟩ = some (.slice (some ⟨g2, 0, none⟩) L k2))
          (first | exact c1 | exact d6 | exact (World.cell?_setCell_other _ _ _ _ (by intro e; have := congrArg Addr.block e; dsimp only at this; omega)).trans d6 | exact cell_later ((Below.refl _ _).alloc (Nat.le_refl _) _) c1 | exact cell_later (((Below.refl _ _).alloc (Nat.le_refl _) _).drew) c1 | exact cell_later (Below.refl _ _).drew c1 | go_keep)
          (first
            | (go_at_call 145; refine (l01Pick_any b B p n q _ ST4.out.src ST4.out.bytes hB HL3.out (.inr (by omega)) (by omega) (by omega)).mono ?_; rintro e w6 ⟨i, hi', rfl, hs6, f6⟩
               have hz6 := f6.size
               try simp only [World.size_drew, World.size_alloc, World.size_setCell] at hz6
               have st6 := ST4.out.draw hs6 f6
               have d6 := (st6.box 0 (w.heap.size, [.int .i64 x, .slice (some ⟨g2, 0, none⟩) L k2]) rfl).cell2.2
               dsimp only at d6
               have hmem : inR (([1000000001, -1000000001, 1099511627776] : List Int).getD i 0) := by
                 rw [List.getD_eq_getElem?_getD, List.getElem?_eq_getElem (by simpa using hi')]
                 exact HALL.out _ (List.getElem_mem _)
               generalize ([1000000001, -1000000001, 1099511627776] : List Int).getD i 0 = y at *
               have HY := Lib.hid hmem
               obtain ⟨_, _, _, hc7, hzz7⟩ := (st6.sl 0 ⟨true, w1.heap.size, w2.heap.size, .slice (some ⟨g2, 0, none⟩) L k2, L, f⟩ rfl).known hL0
               have hck7 := hc7 0 hL0
               have hfr7 := hzz7 rfl 0
               rw [Nat.add_zero] at hck7
               dsimp only at hck7 hfr7
               have ST6 := Lib.hid st6
               clear hc7 hzz7 st6 hmem))
        all_goals
          have st6 := ST6.out
          have sA := (st6.sl 0 ⟨true, w1.heap.size, w2.heap.size, .slice (some ⟨g2, 0, none⟩) L k2, L, f⟩ rfl).store0 (i := 0) (x := y) hL0 HY.out
          have st7 := (st6.write (lo := w1.heap.size) (hi := w2.heap.size) ((Frame.refl _ _ w6).set (g := g2) (o := 0) (by omega) (by omega) (.int .i64 y)) (by omega) (by omega) [(w.heap.size, [.int .i64 x, .slice (some ⟨g2, 0, none⟩) L k2]), (w.heap.size + 1, [.int .i64 0, .slice none 0 0])] [] (fun x hx => ⟨hx, by simp only [List.mem_cons, List.not_mem_nil, or_false] at hx; rcases hx with rfl | rfl <;> exact .inl (by dsimp only; omega)⟩) (fun s hs => by cases hs)).addSl ⟨true, w1.heap.size, w2.heap.size, .slice (some ⟨g2, 0, none⟩) L k2, L, fun j => if j = 0 then y else f j⟩ sA (.inr (by show b + 1 ≤ w1.heap.size; omega))
          obtain ⟨c0, c1⟩ := (st7.box 0 (w.heap.size, [.int .i64 x, .slice (some ⟨g2, 0, none⟩) L k2]) rfl).cell2
          have cz := (st7.box 0 (w.heap.size, [.int .i64 x, .slice (some ⟨g2, 0, none⟩) L k2]) rfl).2.2
          obtain ⟨d0, d1⟩ := (st7.box 1 (w.heap.size + 1, [.int .i64 0, .slice none 0 0]) rfl).cell2
          have dz := (st7.box 1 (w.heap.size + 1, [.int .i64 0, .slice none 0 0]) rfl).2.2
          dsimp only at c0 c1 d0 d1 cz dz
          have ST7 := Lib.hid st7
          clear st6 st7 sA
          go_wp2
          refine bodyPost_ret (v := .agg #[.int .i64 x, .slice (some ⟨g2, 0, none⟩) L k2]) (by simp [results, Try.results203, go_sem, d0, d1]) rfl ?_
          have FS : Frame w.heap.size (w.heap.size + 1 + 1) (w6.setCell ⟨g2, 0, none⟩ (.int .i64 y)) (((w6.setCell ⟨g2, 0, none⟩ (.int .i64 y)).setCell ⟨w.heap.size + 1, 0, none⟩ (.int .i64 x)).setCell ⟨w.heap.size + 1, 1, none⟩ (.slice (some ⟨g2, 0, none⟩) L k2)) := ((Frame.refl _ _ _).set (by omega) (by omega) _).set (by omega) (by omega) _
          have st8 := ST7.out.write FS (Nat.le_refl _) (.inl hbz) [] [⟨true, w1.heap.size, w2.heap.size, .slice (some ⟨g2, 0, none⟩) L k2, L, fun j => if j = 0 then y else f j⟩] (fun x hx => by cases hx) (fun s hs => ⟨List.mem_cons.2 (.inl (List.mem_singleton.1 hs)), by obtain rfl := List.mem_singleton.1 hs; exact .inr (by dsimp only; omega)⟩)
          exact ⟨x, L, _, k2, _, _, _, rfl, hx, hL0, by omega, (st8.sl 0 _ rfl).rd, by show lo ≤ w1.heap.size; omega, st8.src, st8.frame⟩
      · have e0 : (r == 0) = false := by simpa using h0
        have e1 : (r == 1) = false := by simpa using h1
        have e2 : (r == 2) = false := by simpa using h2
        clear st1
        go_wp2
        refine bodyPost_ret (v := .agg #[.int .i64 x, .slice av L cv]) (by simp [results, Try.results203, go_sem, d0, d1]) rfl ?_
        have FS : Frame w.heap.size (w.heap.size + 1 + 1) w1 ((w1.setCell ⟨w.heap.size + 1, 0, none⟩ (.int .i64 x)).setCell ⟨w.heap.size + 1, 1, none⟩ (.slice av L cv)) := ((Frame.refl _ _ w1).set (by omega) (by omega) _).set (by omega) (by omega) _
        have st4 := ST.out.write FS (Nat.le_refl _) (.inl hbz) [] [⟨o, lo, hi, .slice av L cv, L, f⟩] (fun x hx => by cases hx) (fun s hs => ⟨hs, by obtain rfl := List.mem_singleton.1 hs; exact .inl (by dsimp only; omega)⟩)
        exact ⟨x, L, av, cv, f, lo, hi, rfl, hx, hL0, by omega, (st4.sl 0 ⟨o, lo, hi, .slice av L cv, L, f⟩ rfl).rd, Nat.le_refl _, st4.src, st4.frame⟩
end
end

section
open Go.RowKit Go.ChangeShapes Go.Sort
set_option linter.unusedVariables false
set_option linter.unusedSimpArgs false
/-- A drawn argument: a number, or something that is none. -/
def DrX (M : Nat) (w : World) (e : Ending) (w' : World) : Prop :=
  ∃ (x : Int) (L : Nat) (a : Option Addr) (cap : Nat) (f : Nat → Int) (lo' hi' : Nat), e = .returned (.agg #[.int .i64 x, .slice a L cap]) ∧ inR x ∧ 0 < L ∧ L ≤ M ∧ Sl false w' lo' hi' (.slice a L cap) L f ∧ w.heap.size ≤ lo' ∧ Below w.heap.size w w'
section
variable {b B : Nat} {p : Option Addr} {n q : Nat}
set_option maxRecDepth 100000 in
set_option maxHeartbeats 2000000 in
theorem l01Spoil_any (w : World) (hs : Src w b p n q) (hb : Bytes w B p n) (hB : B ≤ b) :
    Calls Try.prog 179 #[.pointer (some ⟨b, 0, none⟩)] w (DrC b p n q w.heap.size 13 w) := by
  have st0 := Ds.start hs hb hB
  have hbz := hs.lt
  replace st0 := st0.newBox [.int .i64 0, .slice none 0 0] 28
  clear hs hb
  go_enter Try.func179, Try.ntmps179
  go_wp2_with fail
  refine (l01Draw_any _ st0.src st0.bytes st0.low).mono ?_
  rintro e w1 ⟨N, a_w1, k_w1, g_w1, hN1, hN2, rfl, s_w1, hw_w1, hs_w1, _, f_w1⟩
  have hz_w1 := f_w1.size
  try simp only [World.size_alloc] at hz_w1
  have st1 := st0.draw hs_w1 f_w1
  try simp only [World.size_alloc] at s_w1
  replace st1 := st1.addSl ⟨true, w.heap.size + 1, w1.heap.size, .slice a_w1 (phiN N) k_w1, (phiN N), g_w1⟩ s_w1 (.inr (by dsimp only; omega))
  clear st0 hs_w1 f_w1 s_w1
  have hp := phi_le12 N hN2 hN1
  have hp1 := phiN_pos N (by omega) hN1
  have q_t := st1.sl 0 ⟨true, w.heap.size + 1, w1.heap.size, .slice a_w1 (phiN N) k_w1, (phiN N), g_w1⟩ rfl
  dsimp only at q_t
  go_wp2_with fail
  refine (l01Bad_any (N : Int) _ st1.src st1.bytes st1.low (by unfold inR; omega) q_t (by omega) hp1 (by omega)).mono ?_
  rintro e w2 ⟨x_w2, L_w2, a_w2, k_w2, g_w2, lo_w2, hi_w2, rfl, hx_w2, hL0_w2, hL_w2, s_w2, hlo_w2, hs_w2, f_w2⟩
  have hz_w2 := f_w2.size
  try simp only [World.size_alloc] at hz_w2
  have st2 := st1.draw hs_w2 f_w2
  try simp only [World.size_alloc] at s_w2
  replace st2 := st2.addSl ⟨false, lo_w2, hi_w2, .slice a_w2 L_w2 k_w2, L_w2, g_w2⟩ s_w2 (.inr (by dsimp only; omega))
  clear q_t st1 hs_w2 f_w2 s_w2
  obtain ⟨c_r_0, c_r_1⟩ := (st2.box 0 (w.heap.size, [.int .i64 0, .slice none 0 0]) rfl).cell2
  have z_r := (st2.box 0 (w.heap.size, [.int .i64 0, .slice none 0 0]) rfl).2.2
  dsimp only at c_r_0 c_r_1 z_r
  go_wp2
  refine bodyPost_ret (v := .agg #[.int .i64 x_w2, .slice a_w2 L_w2 k_w2]) (by simp [results, Try.results179, go_sem, c_r_0 , c_r_1]) rfl ?_
  have FS : Frame (w.heap.size) (w.heap.size + 1) w2 ((w2.setCell ⟨w.heap.size, 0, none⟩ (.int .i64 x_w2)).setCell ⟨w.heap.size, 1, none⟩ (.slice a_w2 L_w2 k_w2)) := ((Frame.refl _ _ _).set (by omega) (by omega) _).set (by omega) (by omega) _
  have stz := st2.write FS (by omega) (by omega) [] [⟨false, lo_w2, hi_w2, .slice a_w2 L_w2 k_w2, L_w2, g_w2⟩] (fun x hx => by cases hx) (fun s hs => by simp only [List.mem_cons, List.not_mem_nil, or_false] at hs; rcases hs with rfl <;> exact ⟨by simp, by first | exact .inl (by dsimp only; omega) | exact .inr (by dsimp only; omega)⟩)
  exact ⟨x_w2, L_w2, a_w2, k_w2, g_w2, lo_w2, hi_w2, rfl, hx_w2, hL0_w2, by omega, stz.sl 0 _ rfl, by show _ ≤ lo_w2; omega, stz.src, stz.frame⟩

set_option maxRecDepth 100000 in
set_option maxHeartbeats 2000000 in
theorem l02Draw_any (w : World) (hs : Src w b p n q) (hb : Bytes w B p n) (hB : B ≤ b) :
    Calls Try.prog 176 #[.pointer (some ⟨b, 0, none⟩)] w (DrC b p n q w.heap.size 13 w) := by
  have st0 := Ds.start hs hb hB
  have hbz := hs.lt
  replace st0 := st0.newBox [.int .i64 0, .slice none 0 0] 28
  clear hs hb
  go_enter Try.func176, Try.ntmps176
  go_wp2_with fail
  refine (l01Next_any b B p n q 8 _ st0.src st0.bytes st0.low (by omega) (by omega)).mono ?_
  rintro e w1 ⟨r, rfl, hr1, hr2, hs_w1, f_w1⟩
  have hz_w1 := f_w1.size
  try simp only [World.size_alloc] at hz_w1
  have st1 := st0.draw hs_w1 f_w1
  clear st0 hs_w1 f_w1
  by_cases h0 : r = 0
  · subst h0
    go_wp2_with fail
    refine (l01Spoil_any _ st1.src st1.bytes st1.low).mono ?_
    rintro e w2 ⟨x_w2, L_w2, a_w2, k_w2, g_w2, lo_w2, hi_w2, rfl, hx_w2, hL0_w2, hL_w2, s_w2, hlo_w2, hs_w2, f_w2⟩
    have hz_w2 := f_w2.size
    try simp only [World.size_alloc] at hz_w2
    have st2 := st1.draw hs_w2 f_w2
    try simp only [World.size_alloc] at s_w2
    replace st2 := st2.addSl ⟨false, lo_w2, hi_w2, .slice a_w2 L_w2 k_w2, L_w2, g_w2⟩ s_w2 (.inr (by dsimp only; omega))
    clear st1 hs_w2 f_w2 s_w2
    obtain ⟨c_r_0, c_r_1⟩ := (st2.box 0 (w.heap.size, [.int .i64 0, .slice none 0 0]) rfl).cell2
    have z_r := (st2.box 0 (w.heap.size, [.int .i64 0, .slice none 0 0]) rfl).2.2
    dsimp only at c_r_0 c_r_1 z_r
    go_wp2
    refine bodyPost_ret (v := .agg #[.int .i64 x_w2, .slice a_w2 L_w2 k_w2]) (by simp [results, Try.results176, go_sem, c_r_0 , c_r_1]) rfl ?_
    have FS : Frame (w.heap.size) (w.heap.size + 1) w2 ((w2.setCell ⟨w.heap.size, 0, none⟩ (.int .i64 x_w2)).setCell ⟨w.heap.size, 1, none⟩ (.slice a_w2 L_w2 k_w2)) := ((Frame.refl _ _ _).set (by omega) (by omega) _).set (by omega) (by omega) _
    have stz := st2.write FS (by omega) (by omega) [] [⟨false, lo_w2, hi_w2, .slice a_w2 L_w2 k_w2, L_w2, g_w2⟩] (fun x hx => by cases hx) (fun s hs => by simp only [List.mem_cons, List.not_mem_nil, or_false] at hs; rcases hs with rfl <;> exact ⟨by simp, by first | exact .inl (by dsimp only; omega) | exact .inr (by dsimp only; omega)⟩)
    exact ⟨x_w2, L_w2, a_w2, k_w2, g_w2, lo_w2, hi_w2, rfl, hx_w2, hL0_w2, by omega, stz.sl 0 _ rfl, by show _ ≤ lo_w2; omega, stz.src, stz.frame⟩
  · have e0 : (r == 0) = false := by simpa using h0
    go_wp2_with fail
    refine (l01DrawOrder_any _ st1.src st1.bytes st1.low).mono ?_
    rintro e w2 ⟨N, rfl, hN1, hN2, hs_w2, _, f_w2⟩
    have hz_w2 := f_w2.size
    try simp only [World.size_alloc] at hz_w2
    have st2 := st1.draw hs_w2 f_w2
    clear st1 hs_w2 f_w2
    have hl := Sl.list (w2) [1, 1, 2, 3] (by intro x hx; simp only [List.mem_cons, List.not_mem_nil, or_false] at hx; unfold inR; rcases hx with rfl | rfl | rfl | rfl <;> omega) (by simp [maxLen])
    replace st2 := st2.alloc (.cells ([1, 1, 2, 3].map (Value.int .i64)).toArray 2)
    simp only [List.map_cons, List.map_nil, List.length_cons, List.length_nil, World.size_alloc] at hl st2
    have hall : ∀ x ∈ ([1, 1, 2, 3] : List Int), 0 ≤ x ∧ x ≤ 1000000000 := by intro x hx; simp only [List.mem_cons, List.not_mem_nil, or_false] at hx; rcases hx with rfl | rfl | rfl | rfl <;> omega
    have HALL := Lib.hid hall
    clear hall
    go_wp2_with fail
    refine (l01Pick_any b B p n q _ st2.src st2.bytes st2.low hl (.inr (by omega)) (by omega) (by omega)).mono ?_
    rintro e w3 ⟨i_w3, hi_w3, rfl, hs_w3, f_w3⟩
    have hz_w3 := f_w3.size
    try simp only [World.size_alloc] at hz_w3
    have st3 := st2.draw hs_w3 f_w3
    clear hl st2 hs_w3 f_w3
    have h_y : (fun x : Int => 0 ≤ x ∧ x ≤ 1000000000) (([1, 1, 2, 3] : List Int).getD i_w3 0) := by
      rw [List.getD_eq_getElem?_getD, List.getElem?_eq_getElem (by simpa using hi_w3)]
      exact HALL.out _ (List.getElem_mem _)
    generalize ([1, 1, 2, 3] : List Int).getD i_w3 0 = y at *
    try dsimp only at h_y
    clear HALL hi_w3
    have hp := phi_le12 N hN2 hN1
    have hp1 := phiN_pos N (by omega) hN1
    go_wp2_with fail
    refine (l01DrawOf_any N y _ st3.src st3.bytes st3.low hN1 hN2 h_y.1 h_y.2).mono ?_
    rintro e w4 ⟨a_w4, k_w4, g_w4, rfl, s_w4, hw_w4, hs_w4, _, f_w4⟩
    have hz_w4 := f_w4.size
    try simp only [World.size_alloc] at hz_w4
    have st4 := st3.draw hs_w4 f_w4
    try simp only [World.size_alloc] at s_w4
    replace st4 := st4.addSl ⟨true, w3.heap.size, w4.heap.size, .slice a_w4 (phiN N) k_w4, (phiN N), g_w4⟩ s_w4 (.inr (by dsimp only; omega))
    clear st3 hs_w4 f_w4 s_w4
    obtain ⟨c_r_0, c_r_1⟩ := (st4.box 0 (w.heap.size, [.int .i64 0, .slice none 0 0]) rfl).cell2
    have z_r := (st4.box 0 (w.heap.size, [.int .i64 0, .slice none 0 0]) rfl).2.2
    dsimp only at c_r_0 c_r_1 z_r
    go_wp2
    refine bodyPost_ret (v := .agg #[.int .i64 (N : Int), .slice a_w4 (phiN N) k_w4]) (by simp [results, Try.results176, go_sem, c_r_0 , c_r_1]) rfl ?_
    have FS : Frame (w.heap.size) (w.heap.size + 1) w4 ((w4.setCell ⟨w.heap.size, 0, none⟩ (.int .i64 (N : Int))).setCell ⟨w.heap.size, 1, none⟩ (.slice a_w4 (phiN N) k_w4)) := ((Frame.refl _ _ _).set (by omega) (by omega) _).set (by omega) (by omega) _
    have stz := st4.write FS (by omega) (by omega) [] [⟨true, w3.heap.size, w4.heap.size, .slice a_w4 (phiN N) k_w4, (phiN N), g_w4⟩] (fun x hx => by cases hx) (fun s hs => by simp only [List.mem_cons, List.not_mem_nil, or_false] at hs; rcases hs with rfl <;> exact ⟨by simp, by first | exact .inl (by dsimp only; omega) | exact .inr (by dsimp only; omega)⟩)
    exact ⟨N, phiN N, a_w4, k_w4, g_w4, _, _, rfl, by unfold inR; omega, hp1, by omega, (stz.sl 0 _ rfl).rd, by (show _ ≤ _); dsimp only; omega, stz.src, stz.frame⟩

set_option maxRecDepth 100000 in
set_option maxHeartbeats 1000000 in
theorem DrawCharacteristicOf_any (w : World) (hb : Bytes w B p n) (hB : B ≤ w.heap.size) :
    Calls Try.prog 72 #[.slice p n q] w (DrX 13 w) := by
  have hb0 := hb.below ((Below.refl w.heap.size w).alloc (Nat.le_refl _) (.cells #[.int .i64 0, .slice none 0 0] 28))
  have bx0 := Box.made2 (w := w) (b := w.heap.size) (v0 := .int .i64 0) (v1 := .slice none 0 0) (t := 28) rfl
  clear hb
  go_enter Try.func72, Try.ntmps72
  go_wp2_with fail
  refine (l01From_any B p n q _ hb0 (by simp; omega)).mono ?_
  rintro e w1 ⟨rfl, hs1, hb1, b1⟩
  have hz1 := b1.size
  simp only [World.size_alloc] at hz1 hs1
  have bx1 := bx0.keep b1
  have B1 := ((Below.refl w.heap.size w).alloc (Nat.le_refl _) (.cells #[.int .i64 0, .slice none 0 0] 28)).trans (b1.mono (by simp))
  clear hb0 bx0 b1
  go_wp2_with fail
  refine (l02Draw_any _ hs1 hb1 (by omega)).mono ?_
  rintro e w2 ⟨x, L, a, k, f, lo, hi, rfl, hx, hL0, hL, s2, hlo, hs2, f2⟩
  have hz2 := f2.size
  have bx2 := bx1.keepF f2 (.inl (by omega))
  have B2 := B1.trans (f2.below (B := w.heap.size) (by omega) (by omega))
  have S2 := Lib.hid s2
  clear hs1 hb1 bx1 B1 hs2 f2 s2
  obtain ⟨c0, c1⟩ := bx2.cell2
  have cz := bx2.2.2
  go_wp2
  refine bodyPost_ret (v := .agg #[.int .i64 x, .slice a L k]) (by simp [results, Try.results72, go_sem, c0, c1]) rfl ?_
  refine ⟨x, L, a, k, f, lo, hi, rfl, hx, hL0, hL, ?_, by omega, ?_⟩
  · exact (S2.out.setOther (.inl (by show w.heap.size < _; omega)) _).setOther (.inl (by show w.heap.size < _; omega)) _
  · exact (B2.setCell (Nat.le_refl _) _).setCell (Nat.le_refl _) _

set_option maxRecDepth 100000 in
set_option maxHeartbeats 1000000 in
theorem DrawNormOf_any (w : World) (hb : Bytes w B p n) (hB : B ≤ w.heap.size) :
    Calls Try.prog 73 #[.slice p n q] w (DrX 13 w) := by
  have hb0 := hb.below ((Below.refl w.heap.size w).alloc (Nat.le_refl _) (.cells #[.int .i64 0, .slice none 0 0] 28))
  have bx0 := Box.made2 (w := w) (b := w.heap.size) (v0 := .int .i64 0) (v1 := .slice none 0 0) (t := 28) rfl
  clear hb
  go_enter Try.func73, Try.ntmps73
  go_wp2_with fail
  refine (l01From_any B p n q _ hb0 (by simp; omega)).mono ?_
  rintro e w1 ⟨rfl, hs1, hb1, b1⟩
  have hz1 := b1.size
  simp only [World.size_alloc] at hz1 hs1
  have bx1 := bx0.keep b1
  have B1 := ((Below.refl w.heap.size w).alloc (Nat.le_refl _) (.cells #[.int .i64 0, .slice none 0 0] 28)).trans (b1.mono (by simp))
  clear hb0 bx0 b1
  go_wp2_with fail
  refine (l02Draw_any _ hs1 hb1 (by omega)).mono ?_
  rintro e w2 ⟨x, L, a, k, f, lo, hi, rfl, hx, hL0, hL, s2, hlo, hs2, f2⟩
  have hz2 := f2.size
  have bx2 := bx1.keepF f2 (.inl (by omega))
  have B2 := B1.trans (f2.below (B := w.heap.size) (by omega) (by omega))
  have S2 := Lib.hid s2
  clear hs1 hb1 bx1 B1 hs2 f2 s2
  obtain ⟨c0, c1⟩ := bx2.cell2
  have cz := bx2.2.2
  go_wp2
  refine bodyPost_ret (v := .agg #[.int .i64 x, .slice a L k]) (by simp [results, Try.results73, go_sem, c0, c1]) rfl ?_
  refine ⟨x, L, a, k, f, lo, hi, rfl, hx, hL0, hL, ?_, by omega, ?_⟩
  · exact (S2.out.setOther (.inl (by show w.heap.size < _; omega)) _).setOther (.inl (by show w.heap.size < _; omega)) _
  · exact (B2.setCell (Nat.le_refl _) _).setCell (Nat.le_refl _) _

set_option maxRecDepth 100000 in
set_option maxHeartbeats 1000000 in
theorem DrawSizeOf_any (w : World) (hb : Bytes w B p n) (hB : B ≤ w.heap.size) :
    Calls Try.prog 79 #[.slice p n q] w (DrX 13 w) := by
  have hb0 := hb.below ((Below.refl w.heap.size w).alloc (Nat.le_refl _) (.cells #[.int .i64 0, .slice none 0 0] 28))
  have bx0 := Box.made2 (w := w) (b := w.heap.size) (v0 := .int .i64 0) (v1 := .slice none 0 0) (t := 28) rfl
  clear hb
  go_enter Try.func79, Try.ntmps79
  go_wp2_with fail
  refine (l01From_any B p n q _ hb0 (by simp; omega)).mono ?_
  rintro e w1 ⟨rfl, hs1, hb1, b1⟩
  have hz1 := b1.size
  simp only [World.size_alloc] at hz1 hs1
  have bx1 := bx0.keep b1
  have B1 := ((Below.refl w.heap.size w).alloc (Nat.le_refl _) (.cells #[.int .i64 0, .slice none 0 0] 28)).trans (b1.mono (by simp))
  clear hb0 bx0 b1
  go_wp2_with fail
  refine (l02Draw_any _ hs1 hb1 (by omega)).mono ?_
  rintro e w2 ⟨x, L, a, k, f, lo, hi, rfl, hx, hL0, hL, s2, hlo, hs2, f2⟩
  have hz2 := f2.size
  have bx2 := bx1.keepF f2 (.inl (by omega))
  have B2 := B1.trans (f2.below (B := w.heap.size) (by omega) (by omega))
  have S2 := Lib.hid s2
  clear hs1 hb1 bx1 B1 hs2 f2 s2
  obtain ⟨c0, c1⟩ := bx2.cell2
  have cz := bx2.2.2
  go_wp2
  refine bodyPost_ret (v := .agg #[.int .i64 x, .slice a L k]) (by simp [results, Try.results79, go_sem, c0, c1]) rfl ?_
  refine ⟨x, L, a, k, f, lo, hi, rfl, hx, hL0, hL, ?_, by omega, ?_⟩
  · exact (S2.out.setOther (.inl (by show w.heap.size < _; omega)) _).setOther (.inl (by show w.heap.size < _; omega)) _
  · exact (B2.setCell (Nat.le_refl _) _).setCell (Nat.le_refl _) _

set_option maxRecDepth 100000 in
set_option maxHeartbeats 1000000 in
theorem DrawTraceOf_any (w : World) (hb : Bytes w B p n) (hB : B ≤ w.heap.size) :
    Calls Try.prog 76 #[.slice p n q] w (DrX 13 w) := by
  have hb0 := hb.below ((Below.refl w.heap.size w).alloc (Nat.le_refl _) (.cells #[.int .i64 0, .slice none 0 0] 28))
  have bx0 := Box.made2 (w := w) (b := w.heap.size) (v0 := .int .i64 0) (v1 := .slice none 0 0) (t := 28) rfl
  clear hb
  go_enter Try.func76, Try.ntmps76
  go_wp2_with fail
  refine (l01From_any B p n q _ hb0 (by simp; omega)).mono ?_
  rintro e w1 ⟨rfl, hs1, hb1, b1⟩
  have hz1 := b1.size
  simp only [World.size_alloc] at hz1 hs1
  have bx1 := bx0.keep b1
  have B1 := ((Below.refl w.heap.size w).alloc (Nat.le_refl _) (.cells #[.int .i64 0, .slice none 0 0] 28)).trans (b1.mono (by simp))
  clear hb0 bx0 b1
  go_wp2_with fail
  refine (l01Spoil_any _ hs1 hb1 (by omega)).mono ?_
  rintro e w2 ⟨x, L, a, k, f, lo, hi, rfl, hx, hL0, hL, s2, hlo, hs2, f2⟩
  have hz2 := f2.size
  have bx2 := bx1.keepF f2 (.inl (by omega))
  have B2 := B1.trans (f2.below (B := w.heap.size) (by omega) (by omega))
  have S2 := Lib.hid s2
  clear hs1 hb1 bx1 B1 hs2 f2 s2
  obtain ⟨c0, c1⟩ := bx2.cell2
  have cz := bx2.2.2
  go_wp2
  refine bodyPost_ret (v := .agg #[.int .i64 x, .slice a L k]) (by simp [results, Try.results76, go_sem, c0, c1]) rfl ?_
  refine ⟨x, L, a, k, f, lo, hi, rfl, hx, hL0, hL, ?_, by omega, ?_⟩
  · exact (S2.out.setOther (.inl (by show w.heap.size < _; omega)) _).setOther (.inl (by show w.heap.size < _; omega)) _
  · exact (B2.setCell (Nat.le_refl _) _).setCell (Nat.le_refl _) _

end
end

section
open Go.RowKit Go.ChangeShapes Go.Sort
set_option linter.unusedVariables false
set_option linter.unusedSimpArgs false
section
variable {B : Nat} {p : Option Addr} {n q : Nat}
set_option maxRecDepth 100000 in
set_option maxHeartbeats 4000000 in
theorem DrawContentOf_any (w : World) (hb : Bytes w B p n) (hB : B ≤ w.heap.size) :
    Calls Try.prog 82 #[.slice p n q] w (DrX 13 w) := by
  have B0 := Below.refl w.heap.size w
  replace B0 := B0.alloc (Nat.le_refl _) (.cells #[.int .i64 0, .slice none 0 0] 28)
  have bx0 := Box.made (w) #[.int .i64 0, .slice none 0 0] 28 [.int .i64 0, .slice none 0 0] (fun j v h => by simpa using h)
  have hb0 := hb.below B0
  clear hb
  go_enter Try.func82, Try.ntmps82
  go_wp2_with fail
  refine (l01From_any B p n q _ hb0 (by simp only [World.size_alloc]; omega)).mono ?_
  rintro e w1 ⟨rfl, hs1, hb1, b1⟩
  have hz_w1 := b1.size
  simp only [World.size_alloc] at hz_w1 hs1 bx0
  have st1 := Ds.at hB (B0.trans (b1.mono (by simp only [World.size_alloc]; omega))) hs1 hb1 (by omega)
  have hbz := hs1.lt
  replace st1 := st1.addBox (w.heap.size) [.int .i64 0, .slice none 0 0] (bx0.keep (by simpa only [World.size_alloc] using b1)) (by omega)
  clear hb0 B0 b1 hs1 hb1 bx0
  go_wp2_with fail
  refine (l01Spoil_any _ st1.src st1.bytes st1.low).mono ?_
  rintro e w2 ⟨x_w2, L_w2, a_w2, k_w2, g_w2, lo_w2, hi_w2, rfl, hx_w2, hL0_w2, hL_w2, s_w2, hlo_w2, hs_w2, f_w2⟩
  have hz_w2 := f_w2.size
  try simp only [World.size_alloc] at hz_w2
  have st2 := st1.draw hs_w2 f_w2
  try simp only [World.size_alloc] at s_w2
  replace st2 := st2.addSl ⟨false, lo_w2, hi_w2, .slice a_w2 L_w2 k_w2, L_w2, g_w2⟩ s_w2 (.inr (by dsimp only; omega))
  clear st1 hs_w2 f_w2 s_w2
  replace st2 := st2.newBox [.int .i64 x_w2, .slice a_w2 L_w2 k_w2] 28
  have hl := Sl.list (w2.alloc (.cells #[.int .i64 x_w2, .slice a_w2 L_w2 k_w2] 28)) [2, 3, 6] (by intro x hx; simp only [List.mem_cons, List.not_mem_nil, or_false] at hx; unfold inR; rcases hx with rfl | rfl | rfl <;> omega) (by simp [maxLen])
  replace st2 := st2.alloc (.cells ([2, 3, 6].map (Value.int .i64)).toArray 2)
  simp only [List.map_cons, List.map_nil, List.length_cons, List.length_nil, World.size_alloc] at hl st2
  have hall : ∀ x ∈ ([2, 3, 6] : List Int), 0 ≤ x ∧ x ≤ 6 := by intro x hx; simp only [List.mem_cons, List.not_mem_nil, or_false] at hx; rcases hx with rfl | rfl | rfl <;> omega
  have HALL := Lib.hid hall
  clear hall
  go_wp2_with fail
  refine (l01Pick_any _ _ _ _ _ _ st2.src st2.bytes st2.low hl (.inr (by omega)) (by omega) (by omega)).mono ?_
  rintro e w3 ⟨i_w3, hi_w3, rfl, hs_w3, f_w3⟩
  have hz_w3 := f_w3.size
  try simp only [World.size_alloc] at hz_w3
  have st3 := st2.draw hs_w3 f_w3
  clear hl st2 hs_w3 f_w3
  have h_y : (fun x : Int => 0 ≤ x ∧ x ≤ 6) (([2, 3, 6] : List Int).getD i_w3 0) := by
    rw [List.getD_eq_getElem?_getD, List.getElem?_eq_getElem (by simpa using hi_w3)]
    exact HALL.out _ (List.getElem_mem _)
  generalize ([2, 3, 6] : List Int).getD i_w3 0 = y at *
  try dsimp only at h_y
  clear HALL hi_w3
  by_cases hc : CyP x_w2 L_w2 g_w2
  · obtain ⟨N, rfl⟩ := Int.eq_ofNat_of_zero_le (show 0 ≤ x_w2 by have := hc.1; omega)
    have hN1 : 1 ≤ N := by have := hc.1; omega
    have hN2 : N ≤ 16 := by have := hc.2.1; omega
    have hp := phi_le12 N hN2 hN1
    have hp1 := phiN_pos N (by omega) hN1
    obtain rfl : L_w2 = phiN N := hc.2.2.1
    obtain ⟨c_x_0, c_x_1⟩ := (st3.box 0 (w2.heap.size, [.int .i64 (N : Int), .slice a_w2 (phiN N) k_w2]) rfl).cell2
    have z_x := (st3.box 0 (w2.heap.size, [.int .i64 (N : Int), .slice a_w2 (phiN N) k_w2]) rfl).2.2
    dsimp only at c_x_0 c_x_1 z_x
    have q_x := st3.sl 0 ⟨false, lo_w2, hi_w2, .slice a_w2 (phiN N) k_w2, (phiN N), g_w2⟩ rfl
    dsimp only at q_x
    have HC := Lib.hid hc
    clear hc
    go_wp2_with fail
    refine (l01Is_yes _ _ q_x HC.out).mono ?_
    rintro e w4 ⟨rfl, b_w4⟩
    have hz_w4 := b_w4.size
    try simp only [World.size_alloc] at hz_w4
    have st4 := st3.keep b_w4
    clear c_x_0 c_x_1 z_x q_x st3 b_w4
    go_wp2_with fail
    refine (l01Next_any _ _ _ _ _ 2 _ st4.src st4.bytes st4.low (by omega) (by omega)).mono ?_
    rintro e w5 ⟨r, rfl, hr1, hr2, hs_w5, f_w5⟩
    have hz_w5 := f_w5.size
    try simp only [World.size_alloc] at hz_w5
    have st5 := st4.draw hs_w5 f_w5
    clear st4 hs_w5 f_w5
    by_cases h0 : r = 0
    · subst h0
      obtain ⟨c_x_0, c_x_1⟩ := (st5.box 0 (w2.heap.size, [.int .i64 (N : Int), .slice a_w2 (phiN N) k_w2]) rfl).cell2
      have z_x := (st5.box 0 (w2.heap.size, [.int .i64 (N : Int), .slice a_w2 (phiN N) k_w2]) rfl).2.2
      dsimp only at c_x_0 c_x_1 z_x
      go_wp2_with fail
      refine (l01DrawOf_any N 9 _ st5.src st5.bytes st5.low hN1 hN2 (by omega) (by omega)).mono ?_
      rintro e w6 ⟨a_w6, k_w6, g_w6, rfl, s_w6, hw_w6, hs_w6, _, f_w6⟩
      have hz_w6 := f_w6.size
      try simp only [World.size_alloc] at hz_w6
      have st6 := st5.draw hs_w6 f_w6
      try simp only [World.size_alloc] at s_w6
      replace st6 := st6.addSl ⟨true, w5.heap.size, w6.heap.size, .slice a_w6 (phiN N) k_w6, (phiN N), g_w6⟩ s_w6 (.inr (by dsimp only; omega))
      clear c_x_0 c_x_1 z_x st5 hs_w6 f_w6 s_w6
      replace st6 := st6.newBox [.int .i64 (N : Int), .slice a_w6 (phiN N) k_w6] 28
      obtain ⟨c_x_0, c_x_1⟩ := (st6.box 1 (w2.heap.size, [.int .i64 (N : Int), .slice a_w2 (phiN N) k_w2]) rfl).cell2
      have z_x := (st6.box 1 (w2.heap.size, [.int .i64 (N : Int), .slice a_w2 (phiN N) k_w2]) rfl).2.2
      dsimp only at c_x_0 c_x_1 z_x
      obtain ⟨c_y_0, c_y_1⟩ := (st6.box 0 (w6.heap.size, [.int .i64 (N : Int), .slice a_w6 (phiN N) k_w6]) rfl).cell2
      have z_y := (st6.box 0 (w6.heap.size, [.int .i64 (N : Int), .slice a_w6 (phiN N) k_w6]) rfl).2.2
      dsimp only at c_y_0 c_y_1 z_y
      have ST := Lib.hid st6.drew
      have HW := Lib.hid hw_w6
      clear st6 hw_w6
      go_wp2_with fail
      go_region_held3 (fun w' => w'.cell? ⟨w2.heap.size, 0, none⟩ = some (.int .i64 (N : Int)) ∧ w'.cell? ⟨w6.heap.size, 0, none⟩ = some (.int .i64 (N : Int)) ∧ w'.cell? ⟨w6.heap.size, 1, none⟩ = some (.slice a_w6 (phiN N) k_w6))
        (first | exact ⟨c_x_0, c_y_0, c_y_1⟩ | exact ⟨cell_later b8 c_x_0, cell_later b8 c_y_0, cell_later b8 c_y_1⟩ | exact ⟨cell_later b9 (cell_later b8 c_x_0), cell_later b9 (cell_later b8 c_y_0), cell_later b9 (cell_later b8 c_y_1)⟩ | exact ⟨cell_set1 (cell_set1 (cell_later b9 (cell_later b8 c_x_0)) (by omega)) (by omega), cell_set1 (cell_set1 (cell_later b9 (cell_later b8 c_y_0)) (by omega)) (by omega), cell_set1 (cell_set1 (cell_later b9 (cell_later b8 c_y_1)) (by omega)) (by omega)⟩)
        (first
          | (go_at_call 164; refine (l01Zero_any N (by omega) _).mono ?_; rintro e w8 ⟨a8, k8, rfl, s8, b8⟩
             have hz8 := b8.size
             try simp only [World.size_drew, World.size_alloc] at hz8 s8)
          | (go_at_call 167; refine (l01Plus_any (N : Int) y _ s8 ((ST.out.keep b8).sl 0 ⟨true, w5.heap.size, w6.heap.size, .slice a_w6 (phiN N) k_w6, (phiN N), g_w6⟩ rfl) (by omega) (by omega) (fun _ _ => by (try dsimp only); omega) HW.out (by omega)).mono ?_; rintro e w9 ⟨a9, k9, rfl, s9, b9⟩
             have hz9 := b9.size
             try simp only [World.size_drew, World.size_alloc] at hz9 s9
             have st9 := (ST.out.keep b8).keep b9
             obtain ⟨c_r_0, c_r_1⟩ := (st9.box 2 (w.heap.size, [.int .i64 0, .slice none 0 0]) rfl).cell2
             have z_r := (st9.box 2 (w.heap.size, [.int .i64 0, .slice none 0 0]) rfl).2.2
             dsimp only at c_r_0 c_r_1 z_r
             replace st9 := st9.addSl ⟨true, w8.heap.size, w9.heap.size, .slice a9 (phiN N) k9, phiN N, addF y (fun _ => 0) g_w6⟩ s9 (.inr (by dsimp only; omega))
             have ST9 := Lib.hid st9
             clear st9))
      all_goals
        go_wp2
        refine bodyPost_ret (v := .agg #[.int .i64 (N : Int), .slice a9 (phiN N) k9]) (by simp [results, Try.results82, go_sem, c_r_0, c_r_1]) rfl ?_
        have FS : Frame w.heap.size (w.heap.size + 1) w9 ((w9.setCell ⟨w.heap.size, 0, none⟩ (.int .i64 (N : Int))).setCell ⟨w.heap.size, 1, none⟩ (.slice a9 (phiN N) k9)) := ((Frame.refl _ _ _).set (by omega) (by omega) _).set (by omega) (by omega) _
        have stz := ST9.out.write FS (by omega) (by omega) [] [⟨true, w8.heap.size, w9.heap.size, .slice a9 (phiN N) k9, phiN N, addF y (fun _ => 0) g_w6⟩] (fun x hx => by cases hx) (fun s hs => by obtain rfl := List.mem_singleton.1 hs; exact ⟨List.mem_cons_self, .inr (by dsimp only; omega)⟩)
        exact ⟨(N : Int), phiN N, a9, k9, _, _, _, rfl, by unfold inR; omega, hp1, by omega, (stz.sl 0 _ rfl).rd, by show _ ≤ w8.heap.size; omega, stz.below (by omega)⟩
    · have e0 : (r == 0) = false := by simpa using h0
      obtain ⟨c_x_0, c_x_1⟩ := (st5.box 0 (w2.heap.size, [.int .i64 (N : Int), .slice a_w2 (phiN N) k_w2]) rfl).cell2
      have z_x := (st5.box 0 (w2.heap.size, [.int .i64 (N : Int), .slice a_w2 (phiN N) k_w2]) rfl).2.2
      dsimp only at c_x_0 c_x_1 z_x
      obtain ⟨c_r_0, c_r_1⟩ := (st5.box 1 (w.heap.size, [.int .i64 0, .slice none 0 0]) rfl).cell2
      have z_r := (st5.box 1 (w.heap.size, [.int .i64 0, .slice none 0 0]) rfl).2.2
      dsimp only at c_r_0 c_r_1 z_r
      go_wp2
      refine bodyPost_ret (v := .agg #[.int .i64 (N : Int), .slice a_w2 (phiN N) k_w2]) (by simp [results, Try.results82, go_sem, c_r_0 , c_r_1]) rfl ?_
      have FS : Frame (w.heap.size) (w.heap.size + 1) w5 ((w5.setCell ⟨w.heap.size, 0, none⟩ (.int .i64 (N : Int))).setCell ⟨w.heap.size, 1, none⟩ (.slice a_w2 (phiN N) k_w2)) := ((Frame.refl _ _ _).set (by omega) (by omega) _).set (by omega) (by omega) _
      have stz := st5.write FS (by omega) (by omega) [] [⟨false, lo_w2, hi_w2, .slice a_w2 (phiN N) k_w2, (phiN N), g_w2⟩] (fun x hx => by cases hx) (fun s hs => by simp only [List.mem_cons, List.not_mem_nil, or_false] at hs; rcases hs with rfl <;> exact ⟨by simp, by first | exact .inl (by dsimp only; omega) | exact .inr (by dsimp only; omega)⟩)
      exact ⟨(N : Int), phiN N, a_w2, k_w2, g_w2, lo_w2, hi_w2, rfl, hx_w2, hp1, by omega, stz.sl 0 _ rfl, by show _ ≤ lo_w2; omega, stz.below (by omega)⟩
  · have HC := Lib.hid hc; clear hc
    obtain ⟨c_x_0, c_x_1⟩ := (st3.box 0 (w2.heap.size, [.int .i64 x_w2, .slice a_w2 L_w2 k_w2]) rfl).cell2
    have z_x := (st3.box 0 (w2.heap.size, [.int .i64 x_w2, .slice a_w2 L_w2 k_w2]) rfl).2.2
    dsimp only at c_x_0 c_x_1 z_x
    have q_x := st3.sl 0 ⟨false, lo_w2, hi_w2, .slice a_w2 L_w2 k_w2, L_w2, g_w2⟩ rfl
    dsimp only at q_x
    go_wp2_with fail
    refine (l01Is_no _ _ q_x HC.out).mono ?_
    rintro e w4 ⟨rfl, b_w4⟩
    have hz_w4 := b_w4.size
    try simp only [World.size_alloc] at hz_w4
    have st4 := st3.keep b_w4
    clear c_x_0 c_x_1 z_x q_x st3 b_w4
    obtain ⟨c_x_0, c_x_1⟩ := (st4.box 0 (w2.heap.size, [.int .i64 x_w2, .slice a_w2 L_w2 k_w2]) rfl).cell2
    have z_x := (st4.box 0 (w2.heap.size, [.int .i64 x_w2, .slice a_w2 L_w2 k_w2]) rfl).2.2
    dsimp only at c_x_0 c_x_1 z_x
    obtain ⟨c_r_0, c_r_1⟩ := (st4.box 1 (w.heap.size, [.int .i64 0, .slice none 0 0]) rfl).cell2
    have z_r := (st4.box 1 (w.heap.size, [.int .i64 0, .slice none 0 0]) rfl).2.2
    dsimp only at c_r_0 c_r_1 z_r
    go_wp2
    refine bodyPost_ret (v := .agg #[.int .i64 x_w2, .slice a_w2 L_w2 k_w2]) (by simp [results, Try.results82, go_sem, c_r_0 , c_r_1]) rfl ?_
    have FS : Frame (w.heap.size) (w.heap.size + 1) w4 ((w4.setCell ⟨w.heap.size, 0, none⟩ (.int .i64 x_w2)).setCell ⟨w.heap.size, 1, none⟩ (.slice a_w2 L_w2 k_w2)) := ((Frame.refl _ _ _).set (by omega) (by omega) _).set (by omega) (by omega) _
    have stz := st4.write FS (by omega) (by omega) [] [⟨false, lo_w2, hi_w2, .slice a_w2 L_w2 k_w2, L_w2, g_w2⟩] (fun x hx => by cases hx) (fun s hs => by simp only [List.mem_cons, List.not_mem_nil, or_false] at hs; rcases hs with rfl <;> exact ⟨by simp, by first | exact .inl (by dsimp only; omega) | exact .inr (by dsimp only; omega)⟩)
    exact ⟨x_w2, L_w2, a_w2, k_w2, g_w2, lo_w2, hi_w2, rfl, hx_w2, hL0_w2, by omega, stz.sl 0 _ rfl, by show _ ≤ lo_w2; omega, stz.below (by omega)⟩
end
end

section
open Go.RowKit Go.ChangeShapes Go.Sort
set_option linter.unusedVariables false
set_option linter.unusedSimpArgs false

section
variable {o : Bool} {lo hi n : Nat} {v : Value} {f : Nat → Int}
set_option maxHeartbeats 800000 in
theorem likeInts_yes {o' : Bool} {lo' hi' : Nat} {v' : Value} {f' : Nat → Int} (w : World) (hs : Sl o w lo hi v n f) (hs' : Sl o' w lo' hi' v' n f') (he : ∀ j, j < n → f j = f' j) :
    Calls Try.prog 54 #[v, v'] w fun e w' => e = .returned (.bool true) ∧ Below w.heap.size w w' := by
  obtain ⟨a, cap, rfl⟩ := hs.shape
  obtain ⟨a', cap', rfl⟩ := hs'.shape
  have hm := hs.len
  unfold maxLen at hm
  have HS := Lib.hid hs; clear hs
  have HS' := Lib.hid hs'; clear hs'
  have HE := Lib.hid he; clear he
  go_enter Try.func54, Try.ntmps54
  go_wp2
  go_loopw [5] (fun i wr => ∃ k : Nat, k ≤ n ∧ i = .int .i64 k ∧ Below w.heap.size w wr) (fun i _ => n - (intOf i).toNat)
  case atStart => exact ⟨0, Nat.zero_le _, rfl, Below.refl _ _⟩
  case round =>
    obtain ⟨k, hk, rfl, hb⟩ := hrel
    by_cases hlt : k < n
    · obtain ⟨g, off, c1, hv, _, hg, _, _, hc, _⟩ := HS.out.at (by omega)
      have hgs : g < w.heap.size := Nat.lt_of_lt_of_le hg HS.out.size
      obtain ⟨rfl, rfl⟩ : a = some ⟨g, off, none⟩ ∧ cap = c1 := by cases hv; exact ⟨rfl, rfl⟩
      obtain ⟨g', off', c1', hv', _, hg', _, _, hc', _⟩ := HS'.out.at (by omega)
      have hgs' : g' < w.heap.size := Nat.lt_of_lt_of_le hg' HS'.out.size
      obtain ⟨rfl, rfl⟩ : a' = some ⟨g', off', none⟩ ∧ cap' = c1' := by cases hv'; exact ⟨rfl, rfl⟩
      clear hv hg hv' hg'
      have hck : wr.cell? ⟨g, off + k, none⟩ = some (.int .i64 (f k)) := by rw [hb.cell (p := ⟨g, off + k, none⟩) hgs]; exact hc k hlt
      have hck' : wr.cell? ⟨g', off' + k, none⟩ = some (.int .i64 (f k)) := by rw [hb.cell (p := ⟨g', off' + k, none⟩) hgs', HE.out k hlt]; exact hc' k hlt
      clear hc hc'
      go_wp2
      go_quiet (fail)
      go_wp2
      go_roundw
      case rel => exact ⟨k + 1, by omega, by go_num, below_drewN hb _⟩
      case measure => simp [intOf]; omega
    · go_wp2
      go_ret
      exact ⟨rfl, hb⟩

set_option maxHeartbeats 800000 in
theorem cyclos5_yes {o' : Bool} {lo' hi' : Nat} {v' : Value} {f' : Nat → Int} (x : Int) (w : World) (hs : Sl o w lo hi v n f) (hs' : Sl o' w lo' hi' v' n f') (he : ∀ j, j < n → f j = f' j) :
    Calls Try.prog 36 #[.agg #[.int .i64 x, v], .agg #[.int .i64 x, v']] w fun e w' => e = .returned (.bool true) ∧ Below w.heap.size w w' := by
  obtain ⟨a, cap, rfl⟩ := hs.shape
  obtain ⟨a', cap', rfl⟩ := hs'.shape
  have HS := Lib.hid hs; clear hs
  have HS' := Lib.hid hs'; clear hs'
  have HE := Lib.hid he; clear he
  go_enter Try.func36, Try.ntmps36
  go_wp2_with (go_at_call 54; refine (likeInts_yes _ ((HS.out.alloc _).alloc _) ((HS'.out.alloc _).alloc _) HE.out).mono ?_; rintro e w1 ⟨rfl, hb⟩)
  go_ret
  exact ⟨rfl, (((Below.refl w.heap.size w).alloc (Nat.le_refl _) _).alloc (by simp) _).trans (hb.mono (by simp; omega))⟩

set_option maxHeartbeats 800000 in
theorem cyclo9_yes {o' : Bool} {lo' hi' : Nat} {v' : Value} {f' : Nat → Int} (x : Int) (w : World) (hs : Sl o w lo hi v n f) (hs' : Sl o' w lo' hi' v' n f') (he : ∀ j, j < n → f j = f' j) :
    Calls Try.prog 93 #[.agg #[.int .i64 x, v], .agg #[.int .i64 x, v']] w fun e w' => e = .returned (.bool true) ∧ Below w.heap.size w w' := by
  obtain ⟨a, cap, rfl⟩ := hs.shape
  obtain ⟨a', cap', rfl⟩ := hs'.shape
  have HS := Lib.hid hs; clear hs
  have HS' := Lib.hid hs'; clear hs'
  have HE := Lib.hid he; clear he
  go_enter Try.func93, Try.ntmps93
  go_wp2_with (go_at_call 54; refine (likeInts_yes _ ((HS.out.alloc _).alloc _) ((HS'.out.alloc _).alloc _) HE.out).mono ?_; rintro e w1 ⟨rfl, hb⟩)
  go_ret
  exact ⟨rfl, (((Below.refl w.heap.size w).alloc (Nat.le_refl _) _).alloc (by simp) _).trans (hb.mono (by simp; omega))⟩

end
theorem big_no (p : Option Addr) (n q : Nat) (w : World) (h : n ≤ 4096) : Calls Try.prog 22 #[.slice p n q] w fun e w' => e = .returned (.bool false) ∧ Below w.heap.size w w' := by
  have hh : ¬ (4096 < (n : Int)) := by omega
  go_enter Try.func22, Try.ntmps22
  go_wp2
  go_ret
  exact ⟨rfl, Below.refl _ _⟩
theorem big_yes (p : Option Addr) (n q : Nat) (w : World) (h : 4096 < n) : Calls Try.prog 22 #[.slice p n q] w fun e w' => e = .returned (.bool true) ∧ Below w.heap.size w w' := by
  have hd : decide ((4096 : Int) < (n : Int)) = true := decide_eq_true (by omega)
  go_enter Try.func22, Try.ntmps22
  go_wp2
  go_ret
  exact ⟨by first | rfl | (show Ending.returned (.bool (decide ((4096 : Int) < (n : Int)))) = _; rw [hd]), Below.refl _ _⟩
/-- A code that came in. -/
theorem Bytes.came {H : Type} {enc : TypeId × Value → H} {P : Program} {W : World} {t e : TypeId} {fuel : Nat} {c : Value} {y : DataW H × List MemPlace}
    (ht : P.underlying t = some (.slice e)) (he : P.underlying e = some (.int .u8)) (hc : P.cellsOf e = 1)
    (h : DataW.trod enc P W 0 (fun _ => true) true fuel t [c] = some y) : ∃ p n q, c = .slice p n q ∧ (n ≤ 4096 → Bytes W W.heap.size p n) := by
  rcases open_ints ht he hc h with ⟨hcs, _⟩ | ⟨a, len, cap, zs, hcs, _, hl, hm, hz, _, hcell, hwz⟩
  · cases hcs
    exact ⟨none, 0, 0, rfl, fun _ => ⟨by omega, fun j hj => absurd hj (Nat.not_lt_zero _)⟩⟩
  · cases hcs
    refine ⟨some a, len, cap, rfl, fun hn => ⟨hn, fun j hj => ?_⟩⟩
    simp only [if_true] at hz
    obtain ⟨b, off, rfl, hcells⟩ := ints_at hcell (by omega)
    have hj' : j < zs.length := by omega
    have hwf : (Lit.int .u8 (zs.getD j 0)).wf = true := hwz _ (by
      rw [List.getD_eq_getElem?_getD, List.getElem?_eq_getElem hj']
      exact List.getElem_mem hj')
    have hb : 0 ≤ zs.getD j 0 ∧ zs.getD j 0 ≤ 255 := by simpa [Lit.wf, IntKind.min, IntKind.max, IntKind.signed, IntKind.bits] using hwf
    exact ⟨b, off, zs.getD j 0, rfl, World.block_lt_of_cell? _ _ (hcells 0 (by omega)), World.block_lt_of_cell? _ _ (hcells 0 (by omega)), hcells j hj', hb.1, hb.2⟩
end
end Go.Proofs.Ytdalahgfpbdilaa
