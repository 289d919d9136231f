/- The leaves of chapter 8, of the program: what panics if something isn't as told, values of forms, sums of forms. -/
import Derived.Test.YtopapdahpeemfaaDoorEqF
import Derived.Test.YtopapdahpeemfaaDoorPlcA
import Derived.Deep.RegionLaw
import Derived.Deep.RegionHeld3
import Derived.BigRegion
namespace Go.Proofs.YtopapdahpeemfaaDoor
open Go.RowKit Go.ChangeShapes Go.Sort
set_option linter.unusedVariables false
set_option linter.unusedSimpArgs false
set_option maxRecDepth 100000

/-- n numbers in 0..l - 1. -/
def ResP (f : Nat → Int) (n : Nat) (l : Int) : Prop := ∀ i, i < n → 0 ≤ f i ∧ f i < l
section
variable {o : Bool} {lo hi : Nat} {v : Value} {n : Nat} {f : Nat → Int}
theorem areResidues_yes (l : Int) (w : World) (hl : 1 ≤ l) (hl' : l ≤ 1000) (hs : Sl o w lo hi v n f) (h : ResP f n l) :
    Calls Tryd.prog 24 #[v, .int .i64 l] w fun r w' => r = .returned (.bool true) ∧ w = w' := by
  have hm := hs.len
  unfold maxLen at hm
  obtain ⟨a, cap, rfl⟩ := hs.shape
  have HS := Lib.hid hs
  have H := Lib.hid h
  have HBD := Lib.hid hs.bd
  clear hs h
  go_enter Tryd.func24, Tryd.ntmps24
  go_wp2
  go_loopw [9] (fun s9 wr => ∃ k : Nat, k ≤ n ∧ s9 = .int .i64 (k : Int) ∧ ResP f k l ∧ wr = w) (fun s9 _ => n - (intOf s9).toNat)
  case atStart => exact ⟨0, Nat.zero_le _, rfl, fun j hj => absurd hj (Nat.not_lt_zero _), rfl⟩
  case round =>
    obtain ⟨k, hk, rfl, hp, hwr⟩ := hrel
    subst hwr
    have HP := Lib.hid hp
    clear hp
    by_cases hlt : k < n
    · obtain ⟨g, off, cap', hv, _, _, _, _, hc, _⟩ := HS.out.at (by omega)
      obtain ⟨rfl, rfl⟩ : a = some ⟨g, off, none⟩ ∧ cap = cap' := by cases hv; exact ⟨rfl, rfl⟩
      clear hv
      have hck := hc k hlt
      clear hc
      have hf0 : 0 ≤ f k := (H.out k hlt).1
      have hf1 : f k < l := (H.out k hlt).2
      go_wp2
      go_roundw
      case rel => exact ⟨k + 1, by omega, by go_num, fun j hj => by
        rcases Nat.lt_succ_iff_lt_or_eq.1 hj with h | h
        · exact HP.out j h
        · subst h; exact ⟨by omega, by omega⟩, by first | rfl | trivial⟩
      case measure => simp [intOf] <;> omega
    · obtain rfl : k = n := by omega
      go_wp2
      go_ret
      exact ⟨rfl, rfl⟩
theorem areResidues_no (l : Int) (w : World) (hl : 1 ≤ l) (hl' : l ≤ 1000) (hs : Sl o w lo hi v n f) (h : ¬ ResP f n l) :
    Calls Tryd.prog 24 #[v, .int .i64 l] w fun r w' => r = .returned (.bool false) ∧ w = w' := by
  have hm := hs.len
  unfold maxLen at hm
  obtain ⟨a, cap, rfl⟩ := hs.shape
  have HS := Lib.hid hs
  have H := Lib.hid h
  have HBD := Lib.hid hs.bd
  clear hs h
  go_enter Tryd.func24, Tryd.ntmps24
  go_wp2
  go_loopw [9] (fun s9 wr => ∃ k : Nat, k ≤ n ∧ s9 = .int .i64 (k : Int) ∧ ResP f k l ∧ wr = w) (fun s9 _ => n - (intOf s9).toNat)
  case atStart => exact ⟨0, Nat.zero_le _, rfl, fun j hj => absurd hj (Nat.not_lt_zero _), rfl⟩
  case round =>
    obtain ⟨k, hk, rfl, hp, hwr⟩ := hrel
    subst hwr
    have HP := Lib.hid hp
    clear hp
    by_cases hlt : k < n
    · obtain ⟨g, off, cap', hv, _, _, _, _, hc, _⟩ := HS.out.at (by omega)
      obtain ⟨rfl, rfl⟩ : a = some ⟨g, off, none⟩ ∧ cap = cap' := by cases hv; exact ⟨rfl, rfl⟩
      clear hv
      have hck := hc k hlt
      clear hc
      by_cases hf0 : f k < 0
      · go_wp2
        go_ret
        exact ⟨rfl, rfl⟩
      · by_cases hf1 : l ≤ f k
        · have hf2 : 0 ≤ f k := by omega
          clear hf0
          go_wp2
          go_ret
          exact ⟨rfl, rfl⟩
        · have hf2 : 0 ≤ f k := by omega
          have hf3 : f k < l := by omega
          clear hf0 hf1
          go_wp2
          go_roundw
          case rel => exact ⟨k + 1, by omega, by go_num, fun j hj => by
            rcases Nat.lt_succ_iff_lt_or_eq.1 hj with h | h
            · exact HP.out j h
            · subst h; exact ⟨by omega, by omega⟩, by first | rfl | trivial⟩
          case measure => simp [intOf] <;> omega
    · obtain rfl : k = n := by omega
      exact absurd HP.out H.out
end

/-- The variable holds what init laid, at ad. -/
def Gat (w : World) (ad : Addr) : Prop := w.cell? ⟨0, 0, none⟩ = some (.iface 69 (.pointer (some ad)))
theorem Gat.keep {w w' : World} {ad : Addr} (h : Gat w ad) (hb : Below w.heap.size w w') : Gat w' ad := (hb.cell (p := ⟨0, 0, none⟩) (World.block_lt_of_cell? _ _ h)).trans h
theorem Gat.keepB {w w' : World} {ad : Addr} {B : Nat} (h : Gat w ad) (hb : Below B w w') (hB : w.heap.size ≤ B) : Gat w' ad := (hb.cell (p := ⟨0, 0, none⟩) (Nat.lt_of_lt_of_le (World.block_lt_of_cell? _ _ h) hB)).trans h
theorem Gat.drew {w : World} {ad : Addr} (h : Gat w ad) : Gat w.drew ad := h
theorem Gat.drewN {w : World} {ad : Addr} (h : Gat w ad) (m : Nat) : Gat (w.drewN m) ad := h
theorem Gat.alloc {w : World} {ad : Addr} (h : Gat w ad) (o : Obj) : Gat (w.alloc o) ad := h.keep ((Below.refl _ _).alloc (Nat.le_refl _) _)

theorem demand_ok (w : World) : Calls Tryd.prog 20 #[.bool true] w fun e w' => e = .returned (.tuple #[]) ∧ w = w' := by
  go_enter Tryd.func20, Tryd.ntmps20
  go_wp2
  refine bodyPost_end (results_none rfl _ _ _) rfl ?_
  exact ⟨rfl, rfl⟩
theorem demand_no (w : World) (ad : Addr) (hG : Gat w ad) : Calls Tryd.prog 20 #[.bool false] w fun e w' => e = .panicked [{ v := .iface 69 (.pointer (some ad)), recovered := false }] ∧ w = w' := by
  unfold Gat at hG
  go_enter Tryd.func20, Tryd.ntmps20
  go_wp2
  first | exact ⟨rfl, rfl⟩ | exact ⟨rfl, rfl, rfl⟩
section
variable {o : Bool} {lo hi : Nat} {v : Value} {n : Nat} {f : Nat → Int}
theorem demandResidues_ok (l : Int) (w : World) (hl : 1 ≤ l) (hl' : l ≤ 1000) (hs : Sl o w lo hi v n f) (h : ResP f n l) :
    Calls Tryd.prog 14 #[.int .i64 l, v] w fun r w' => r = .returned (.tuple #[]) ∧ w = w' := by
  obtain ⟨a, cap, rfl⟩ := hs.shape
  have HS := Lib.hid hs
  have H := Lib.hid h
  clear hs h
  go_enter Tryd.func14, Tryd.ntmps14
  go_wp2_with (first
    | (go_at_call 24; refine (areResidues_yes l _ hl hl' HS.out H.out).mono ?_; rintro e w1 ⟨rfl, rfl⟩)
    | (go_at_call 20; refine (demand_ok _).mono ?_; rintro e w2 ⟨rfl, rfl⟩))
  refine bodyPost_end (results_none rfl _ _ _) rfl ?_
  exact ⟨rfl, rfl⟩
theorem demandResidues_no (l : Int) (w : World) (ad : Addr) (hG : Gat w ad) (hl : 1 ≤ l) (hl' : l ≤ 1000) (hs : Sl o w lo hi v n f) (h : ¬ ResP f n l) :
    Calls Tryd.prog 14 #[.int .i64 l, v] w fun r w' => r = .panicked [{ v := .iface 69 (.pointer (some ad)), recovered := false }] ∧ w = w' := by
  obtain ⟨a, cap, rfl⟩ := hs.shape
  have HS := Lib.hid hs
  have H := Lib.hid h
  have HG := Lib.hid hG
  clear hs h hG
  go_enter Tryd.func14, Tryd.ntmps14
  go_wp2_with (first
    | (go_at_call 24; refine (areResidues_no l _ hl hl' HS.out H.out).mono ?_; rintro e w1 ⟨rfl, rfl⟩)
    | (go_at_call 20; refine (demand_no _ ad HG.out).mono ?_; rintro e w2 ⟨rfl, rfl⟩))
  first | exact ⟨rfl, rfl⟩ | exact ⟨rfl, rfl, rfl⟩
end
theorem isExponent_yes (k : Int) (w : World) (h1 : 1 ≤ k) (h2 : k ≤ 60) : Calls Tryd.prog 22 #[.int .i64 k] w fun r w' => r = .returned (.bool true) ∧ w = w' := by
  go_enter Tryd.func22, Tryd.ntmps22
  go_wp2
  go_ret
  exact ⟨by first | rfl | (simp; omega), rfl⟩
theorem isExponent_no (k : Int) (w : World) (h : ¬ (1 ≤ k ∧ k ≤ 60)) : Calls Tryd.prog 22 #[.int .i64 k] w fun r w' => r = .returned (.bool false) ∧ w = w' := by
  by_cases h1 : 1 ≤ k
  · have h2 : ¬ k ≤ 60 := fun g => h ⟨h1, g⟩
    clear h
    go_enter Tryd.func22, Tryd.ntmps22
    go_wp2
    go_ret
    exact ⟨by first | rfl | (simp; omega), rfl⟩
  · clear h
    go_enter Tryd.func22, Tryd.ntmps22
    go_wp2
    go_ret
    exact ⟨by first | rfl | (simp; omega), rfl⟩
theorem wholePower_any (p k : Nat) (hp : p ≤ 61) (hk : k ≤ 4) (w : World) :
    Calls Tryd.prog 26 #[.int .i64 (p : Int), .int .i64 (k : Int)] w fun r w' => r = .returned (.int .i64 ((p ^ k : Nat) : Int)) ∧ w = w' := by
  go_enter Tryd.func26, Tryd.ntmps26
  go_wp2
  go_loopw [5, 7] (fun s5 s7 wr => ∃ i : Nat, i ≤ k ∧ s5 = .int .i64 ((p ^ i : Nat) : Int) ∧ s7 = .int .i64 (i : Int) ∧ wr = w) (fun _ s7 _ => k - (intOf s7).toNat)
  case atStart => exact ⟨0, by omega, rfl, rfl, rfl⟩
  case round =>
    obtain ⟨i, hi, rfl, rfl, rfl⟩ := hrel
    by_cases hlt : i < k
    · have hb : p ^ i ≤ 61 ^ 4 := Nat.le_trans (Nat.pow_le_pow_left hp i) (Nat.pow_le_pow_right (by omega) (by omega))
      have HS := Lib.hid (show ((p ^ i : Nat) : Int) * (p : Int) = ((p ^ (i + 1) : Nat) : Int) by rw [Nat.pow_succ, Int.natCast_mul])
      have hb2 : ((p ^ i : Nat) : Int) ≤ 13845841 := by omega
      have hb0 : 0 ≤ ((p ^ i : Nat) : Int) := Int.natCast_nonneg _
      generalize ((p ^ i : Nat) : Int) = y at *
      have hp0 : 0 ≤ y * (p : Int) := Int.mul_nonneg (by omega) (by omega)
      have hp1 : y * (p : Int) ≤ 13845841 * 61 := Int.mul_le_mul (by omega) (by omega) (by omega) (by omega)
      clear hb
      go_wp2
      go_roundw
      case rel => exact ⟨i + 1, by omega, by rw [← HS.out], by go_num, by first | rfl | trivial⟩
      case measure => simp [intOf]; omega
    · obtain rfl : i = k := by omega
      go_wp2
      go_ret
      exact ⟨rfl, by first | rfl | trivial⟩

/-! Values -/
/-! Sums of forms -/
section
variable {o : Bool} {lo hi lo' hi' : Nat} {v v' : Value} {f r : Nat → Int}
end
section
variable {o : Bool} {lo hi : Nat} {v : Value} {c : Nat → Int}
end

/-! Parts -/
/-- Block g holds the parts of an equation. -/
def Pts (w : World) (g n : Nat) (fa fe : Nat → Int) : Prop := g < w.heap.size ∧ (∀ i, i < n → w.cell? ⟨g, i * 2, none⟩ = some (.int .i64 (fa i)) ∧ w.cell? ⟨g, i * 2 + 1, none⟩ = some (.int .i64 (fe i))) ∧ ∀ k, w.frozen? ⟨g, k, none⟩ = false
theorem Pts.keep {w w' : World} {g n : Nat} {fa fe : Nat → Int} (h : Pts w g n fa fe) (hb : Below w.heap.size w w') : Pts w' g n fa fe :=
  ⟨Nat.lt_of_lt_of_le h.1 hb.size, fun i hi => ⟨(hb.cell (p := ⟨g, i * 2, none⟩) h.1).trans (h.2.1 i hi).1, (hb.cell (p := ⟨g, i * 2 + 1, none⟩) h.1).trans (h.2.1 i hi).2⟩, fun k => (hb.frozen (p := ⟨g, k, none⟩) h.1).trans (h.2.2 k)⟩
theorem Pts.keepB {w w' : World} {g n B : Nat} {fa fe : Nat → Int} (h : Pts w g n fa fe) (hb : Below B w w') (hB : g < B) : Pts w' g n fa fe :=
  ⟨Nat.lt_of_lt_of_le h.1 hb.size, fun i hi => ⟨(hb.cell (p := ⟨g, i * 2, none⟩) hB).trans (h.2.1 i hi).1, (hb.cell (p := ⟨g, i * 2 + 1, none⟩) hB).trans (h.2.1 i hi).2⟩, fun k => (hb.frozen (p := ⟨g, k, none⟩) hB).trans (h.2.2 k)⟩
theorem Pts.congr {w : World} {g n : Nat} {fa fe fa' fe' : Nat → Int} (h : Pts w g n fa fe) (e : ∀ i, i < n → fa' i = fa i ∧ fe' i = fe i) : Pts w g n fa' fe' :=
  ⟨h.1, fun i hi => by rw [(e i hi).1, (e i hi).2]; exact h.2.1 i hi, h.2.2⟩
theorem Pts.put {w : World} {g n k : Nat} {fa fe : Nat → Int} (h : Pts w g n fa fe) (hk : k < n) (x y : Int) : Pts ((w.setCell ⟨g, k * 2, none⟩ (.int .i64 x)).setCell ⟨g, k * 2 + 1, none⟩ (.int .i64 y)) g n (fun i => if i = k then x else fa i) (fun i => if i = k then y else fe i) := by
  refine ⟨by simpa [World.setCell] using h.1, fun i hi => ?_, fun j => by rw [World.frozen?_setCell, World.frozen?_setCell]; exact h.2.2 j⟩
  dsimp only
  by_cases e : i = k
  · subst e
    rw [if_pos rfl, if_pos rfl]
    refine ⟨?_, World.cell?_setCell_same _ _ _ (?_ : _ = some (.int .i64 (fe i)))⟩
    · rw [setCell_ne _ _ _ _ _ (by omega)]
      exact World.cell?_setCell_same _ _ _ (h.2.1 i hi).1
    · rw [setCell_ne _ _ _ _ _ (by omega)]
      exact (h.2.1 i hi).2
  · rw [if_neg e, if_neg e, setCell_ne _ _ _ _ _ (by omega), setCell_ne _ _ _ _ _ (by omega), setCell_ne _ _ _ _ _ (by omega), setCell_ne _ _ _ _ _ (by omega)]
    exact h.2.1 i hi
theorem Pts.made (w : World) (n : Nat) (t : TypeId) : Pts (w.alloc (.cells (madeCells #[.int .i64 0, .int .i64 0] (n * 2)) t)) w.heap.size n (fun _ => 0) (fun _ => 0) := by
  have hh : (w.alloc (.cells (madeCells #[.int .i64 0, .int .i64 0] (n * 2)) t)).heap[w.heap.size]? = some (.cells (madeCells #[.int .i64 0, .int .i64 0] (n * 2)) t) := heap_alloc_new w _
  refine ⟨by simp, fun i hi => ⟨?_, ?_⟩, fun k => by unfold World.frozen?; rw [hh]; simp⟩
  · rw [cell_of_row _ _ _ _ _ _ hh]
    simp [madeCells, show i * 2 < n * 2 by omega]
  · rw [cell_of_row _ _ _ _ _ _ hh]
    have e : (i * 2 + 1) % 2 = 1 := by omega
    simp [madeCells, show i * 2 + 1 < n * 2 by omega, e]
theorem run_make_two {P : Program} (t e : TypeId) (z : Value) (bytes : Nat) (ht : P.underlying t = some (.slice e)) (hinfo : (P.info? e).map (fun i => (i.zero, i.size, i.bytes)) = some (some z, 2, bytes))
    (kl kc : IntKind) (n : Nat) (hbytes : bytes * n ≤ 281474976710656) (h63 : n ≤ 9223372036854775807) (w : World) :
    (Instr.makeSlice t (.int kl (n : Int)) (.int kc (n : Int))).run P w = .ok (.slice (some ⟨w.heap.size, 0, none⟩) n n) (w.alloc (.cells (madeCells z.cells (n * 2)) e)) := by
  obtain ⟨i, hi, hzz⟩ := Option.map_eq_some_iff.1 hinfo
  simp only [Prod.mk.injEq] at hzz
  obtain ⟨hz, hs, hb⟩ := hzz
  have hb' : (i.bytes : Int) * (n : Int) ≤ 281474976710656 := by
    have h : ((i.bytes * n : Nat) : Int) ≤ 281474976710656 := by rw [hb]; omega
    rwa [Int.natCast_mul] at h
  have hr := run_make (P := P) w t e i z ht hi hz kl kc n n (by omega) (Int.le_refl _) hb' (by omega)
  simp only [Int.toNat_natCast, hs] at hr
  exact hr
/-- An equation's parts are as told. -/
def EqP (p : Int) (n : Nat) (fa : Nat → Int) (m : Nat) (fe : Nat → Int) : Prop := PrP p ∧ 1 ≤ n ∧ n ≤ 4 ∧ m = n ∧ ∀ i, i < n → 1 ≤ fa i ∧ fa i < p ∧ 1 ≤ fe i ∧ fe i ≤ 60
section
variable {o o' : Bool} {lo hi lo' hi' : Nat} {v v' : Value} {n m : Nat} {fa fe : Nat → Int}
set_option maxHeartbeats 2000000 in
theorem partsOf_ok (p : Nat) (hp : primeN p = true) (w : World) (hs : Sl o w lo hi v n fa) (ht : Sl o' w lo' hi' v' n fe) (h1 : 1 ≤ n) (h2 : n ≤ 4) (h : ∀ i, i < n → 1 ≤ fa i ∧ fa i < (p : Int) ∧ 1 ≤ fe i ∧ fe i ≤ 60) :
    Calls Tryd.prog 12 #[.int .i64 (p : Int), v, v'] w fun r w' => r = .returned (.slice (some ⟨w.heap.size, 0, none⟩) n n) ∧ Pts w' w.heap.size n fa fe ∧ Below w.heap.size w w' := by
  have hbd := primeN_bd hp
  obtain ⟨g1, off1, c1, rfl, _, hg1, _, _, hc1, _⟩ := hs.at (by omega)
  obtain ⟨g2, off2, c2, rfl, _, hg2, _, _, hc2, _⟩ := ht.at (by omega)
  have hs1 := hs.size
  have hs2 := ht.size
  have HC1 := Lib.hid hc1
  have HC2 := Lib.hid hc2
  have HP := Lib.hid hp
  have H := Lib.hid h
  have hmk := run_make_two (P := Tryd.prog) 31 46 (.agg #[.int .i64 0, .int .i64 0]) 16 Tryd.underlying31 (by kernel_rfl) .i64 .i64 n (by omega) (by omega)
  have q0 := fun (w : World) => Pts.made w n 46
  have Q0 := Lib.hid q0
  clear hs ht hc1 hc2 h q0 hp
  go_enter Tryd.func12, Tryd.ntmps12
  go_wp2_with (first
    | (go_at_call 21; refine (isOddPrime_yes p HP.out _).mono ?_; rintro e w1 ⟨rfl, m1, rfl⟩)
    | (go_at_call 20; refine (demand_ok _).mono ?_; rintro e w2 ⟨rfl, rfl⟩))
  go_loopw [34] (fun s34 wr => ∃ i : Nat, i ≤ n ∧ s34 = .int .i64 (i : Int) ∧ Pts wr w.heap.size n (fun j => if j < i then fa j else 0) (fun j => if j < i then fe j else 0) ∧ Below w.heap.size w wr) (fun s34 _ => n - (intOf s34).toNat)
  case atStart =>
    refine ⟨0, Nat.zero_le _, rfl, (Q0.out (w.drewN m1)).congr (fun j hj => by rw [if_neg (by omega), if_neg (by omega)]; exact ⟨rfl, rfl⟩), ?_⟩
    exact (below_drewN (Below.refl w.heap.size w) m1).alloc (by simp) _
  case round =>
    clear Q0
    obtain ⟨i, hi', rfl, hq, hbl⟩ := hrel
    have HQ := Lib.hid hq
    by_cases hlt : i < n
    · have hci := (hbl.cell (p := ⟨g1, off1 + i, none⟩) (by show g1 < _; omega)).trans (HC1.out i hlt)
      have hcj := (hbl.cell (p := ⟨g2, off2 + i, none⟩) (by show g2 < _; omega)).trans (HC2.out i hlt)
      obtain ⟨k1, k2, k3, k4⟩ := H.out i hlt
      have hfz := hq.2.2 (i * 2)
      have hfz2 := hq.2.2 (i * 2 + 1)
      obtain ⟨hce, hcf⟩ := hq.2.1 i hlt
      have HB := Lib.hid hbl
      clear hq hbl
      go_wp2_with (first
        | (go_at_call 22; refine (isExponent_yes _ _ k3 k4).mono ?_; rintro e w1 ⟨rfl, rfl⟩)
        | (go_at_call 20; refine (demand_ok _).mono ?_; rintro e w2 ⟨rfl, rfl⟩))
      go_roundw
      case rel =>
        refine ⟨i + 1, by omega, by go_num, (HQ.out.put hlt (fa i) (fe i)).congr (fun j hj => ?_), ?_⟩
        · by_cases e : j = i
          · subst e; rw [if_pos rfl, if_pos rfl, if_pos (by omega), if_pos (by omega)]; exact ⟨rfl, rfl⟩
          · by_cases e2 : j < i
            · rw [if_neg e, if_neg e, if_pos e2, if_pos e2, if_pos (by omega), if_pos (by omega)]; exact ⟨rfl, rfl⟩
            · rw [if_neg e, if_neg e, if_neg e2, if_neg e2, if_neg (by omega), if_neg (by omega)]; exact ⟨rfl, rfl⟩
        · exact (HB.out.setCell (p := ⟨w.heap.size, i * 2, none⟩) (Nat.le_refl _) _).setCell (p := ⟨w.heap.size, i * 2 + 1, none⟩) (Nat.le_refl _) _
      case measure => simp [intOf]; omega
    · obtain rfl : i = n := by omega
      go_wp2
      go_ret
      exact ⟨rfl, HQ.out.congr (fun j hj => by rw [if_pos hj, if_pos hj]; exact ⟨rfl, rfl⟩), hbl⟩
end

section
variable {o o' : Bool} {lo hi lo' hi' : Nat} {v v' : Value} {n m : Nat} {fa fe : Nat → Int}
set_option maxHeartbeats 4000000 in
theorem partsOf_no (p : Int) (w : World) (ad : Addr) (hG : Gat w ad) (hs : Sl o w lo hi v n fa) (ht : Sl o' w lo' hi' v' m fe) (h : ¬ EqP p n fa m fe) :
    Calls Tryd.prog 12 #[.int .i64 p, v, v'] w fun r w' => r = .panicked [{ v := .iface 69 (.pointer (some ad)), recovered := false }] ∧ Below w.heap.size w w' := by
  have hs1 := hs.size
  have hs2 := ht.size
  have hl1 := hs.len
  have hl2 := ht.len
  unfold maxLen at hl1 hl2
  have HG := Lib.hid hG
  by_cases hp : PrP p
  · obtain ⟨P, rfl⟩ := Int.eq_ofNat_of_zero_le hp.1
    have HP := Lib.hid (show primeN P = true by have := hp.2; rwa [Int.toNat_natCast] at this)
    have hbd := primeN_bd HP.out
    by_cases h1 : 1 ≤ n
    · by_cases h2 : n ≤ 4
      · by_cases h3 : m = n
        · subst h3
          have HH := Lib.hid (show ¬ ∀ i, i < m → 1 ≤ fa i ∧ fa i < (P : Int) ∧ 1 ≤ fe i ∧ fe i ≤ 60 from fun k => h ⟨hp, h1, h2, rfl, k⟩)
          obtain ⟨g1, off1, c1, rfl, _, hg1, _, _, hc1, _⟩ := hs.at (by omega)
          obtain ⟨g2, off2, c2, rfl, _, hg2, _, _, hc2, _⟩ := ht.at (by omega)
          have HC1 := Lib.hid hc1
          have HC2 := Lib.hid hc2
          have HB1 := Lib.hid hs.bd
          have HB2 := Lib.hid ht.bd
          have hmk := run_make_two (P := Tryd.prog) 31 46 (.agg #[.int .i64 0, .int .i64 0]) 16 Tryd.underlying31 (by kernel_rfl) .i64 .i64 m (by omega) (by omega)
          have q0 := fun (w : World) => Pts.made w m 46
          have Q0 := Lib.hid q0
          clear hs ht hc1 hc2 h hp q0 hG
          go_enter Tryd.func12, Tryd.ntmps12
          go_wp2_with (first
            | (go_at_call 21; refine (isOddPrime_yes P HP.out _).mono ?_; rintro e w1 ⟨rfl, m1, rfl⟩)
            | (go_at_call 20; refine (demand_ok _).mono ?_; rintro e w2 ⟨rfl, rfl⟩))
          go_loopw [34] (fun s34 wr => ∃ i : Nat, i ≤ m ∧ s34 = .int .i64 (i : Int) ∧ (∀ j, j < i → 1 ≤ fa j ∧ fa j < (P : Int) ∧ 1 ≤ fe j ∧ fe j ≤ 60) ∧ Pts wr w.heap.size m (fun j => if j < i then fa j else 0) (fun j => if j < i then fe j else 0) ∧ Below w.heap.size w wr) (fun s34 _ => m - (intOf s34).toNat)
          case atStart =>
            refine ⟨0, Nat.zero_le _, rfl, fun j hj => absurd hj (Nat.not_lt_zero _), (Q0.out (w.drewN m1)).congr (fun j hj => by rw [if_neg (by omega), if_neg (by omega)]; exact ⟨rfl, rfl⟩), ?_⟩
            exact (below_drewN (Below.refl w.heap.size w) m1).alloc (by simp) _
          case round =>
            clear Q0
            obtain ⟨i, hi', rfl, hall, hq, hbl⟩ := hrel
            have HQ := Lib.hid hq
            have HA := Lib.hid hall
            clear hall
            by_cases hlt : i < m
            · have hci := (hbl.cell (p := ⟨g1, off1 + i, none⟩) (by show g1 < _; omega)).trans (HC1.out i hlt)
              have hcj := (hbl.cell (p := ⟨g2, off2 + i, none⟩) (by show g2 < _; omega)).trans (HC2.out i hlt)
              have hG2 := HG.out.keep hbl
              have hfz := hq.2.2 (i * 2)
              have hfz2 := hq.2.2 (i * 2 + 1)
              have r1 := HB1.out i hlt
              have r2 := HB2.out i hlt
              unfold inR at r1 r2
              obtain ⟨hce, hcf⟩ := hq.2.1 i hlt
              have HB := Lib.hid hbl
              have HG2 := Lib.hid hG2
              clear hq hbl hG2
              by_cases k1 : 1 ≤ fa i
              · by_cases k2 : fa i < (P : Int)
                · by_cases k3 : 1 ≤ fe i ∧ fe i ≤ 60
                  · obtain ⟨k3, k4⟩ := k3
                    go_wp2_with (first
                      | (go_at_call 22; refine (isExponent_yes _ _ k3 k4).mono ?_; rintro e w1 ⟨rfl, rfl⟩)
                      | (go_at_call 20; refine (demand_ok _).mono ?_; rintro e w2 ⟨rfl, rfl⟩))
                    go_roundw
                    case rel =>
                      refine ⟨i + 1, by omega, by go_num, fun j hj => ?_, (HQ.out.put hlt (fa i) (fe i)).congr (fun j hj => ?_), ?_⟩
                      · rcases Nat.lt_succ_iff_lt_or_eq.1 hj with h | h
                        · exact HA.out j h
                        · subst h; exact ⟨k1, k2, k3, k4⟩
                      · by_cases e : j = i
                        · subst e; rw [if_pos rfl, if_pos rfl, if_pos (by omega), if_pos (by omega)]; exact ⟨rfl, rfl⟩
                        · by_cases e2 : j < i
                          · rw [if_neg e, if_neg e, if_pos e2, if_pos e2, if_pos (by omega), if_pos (by omega)]; exact ⟨rfl, rfl⟩
                          · rw [if_neg e, if_neg e, if_neg e2, if_neg e2, if_neg (by omega), if_neg (by omega)]; exact ⟨rfl, rfl⟩
                      · exact (HB.out.setCell (p := ⟨w.heap.size, i * 2, none⟩) (Nat.le_refl _) _).setCell (p := ⟨w.heap.size, i * 2 + 1, none⟩) (Nat.le_refl _) _
                    case measure => simp [intOf]; omega
                  · have K3 := Lib.hid k3
                    clear k3
                    go_wp2_with (first
                      | (go_at_call 22; refine (isExponent_no _ _ K3.out).mono ?_; rintro e w1 ⟨rfl, rfl⟩)
                      | (go_at_call 20; refine (demand_no _ ad HG2.out).mono ?_; rintro e w2 ⟨rfl, rfl⟩))
                    first | exact ⟨rfl, HB.out⟩ | exact ⟨rfl, rfl, HB.out⟩
                · go_wp2_with (go_at_call 20; refine (demand_no _ ad HG2.out).mono ?_; rintro e w2 ⟨rfl, rfl⟩)
                  first | exact ⟨rfl, HB.out⟩ | exact ⟨rfl, rfl, HB.out⟩
              · go_wp2_with (go_at_call 20; refine (demand_no _ ad HG2.out).mono ?_; rintro e w2 ⟨rfl, rfl⟩)
                first | exact ⟨rfl, HB.out⟩ | exact ⟨rfl, rfl, HB.out⟩
            · obtain rfl : i = m := by omega
              exact absurd HA.out HH.out
        · obtain ⟨a1, c1, rfl⟩ := hs.shape
          obtain ⟨a2, c2, rfl⟩ := ht.shape
          have heb : ((m : Int) == (n : Int)) = false := beq_eq_false_iff_ne.2 (by omega)
          clear hs ht h hp hG
          go_enter Tryd.func12, Tryd.ntmps12
          go_wp2_with (first
            | (go_at_call 21; refine (isOddPrime_yes P HP.out _).mono ?_; rintro e w1 ⟨rfl, m1, rfl⟩)
            | (go_at_call 20; first | (refine (demand_ok _).mono ?_; rintro e w2 ⟨rfl, rfl⟩) | (refine (demand_no _ ad (HG.out.drewN _)).mono ?_; rintro e w2 ⟨rfl, rfl⟩)))
          first | exact ⟨rfl, below_drewN (Below.refl _ _) _⟩ | exact ⟨rfl, rfl, below_drewN (Below.refl _ _) _⟩
      · obtain ⟨a1, c1, rfl⟩ := hs.shape
        obtain ⟨a2, c2, rfl⟩ := ht.shape
        clear hs ht h hp hG
        go_enter Tryd.func12, Tryd.ntmps12
        go_wp2_with (first
          | (go_at_call 21; refine (isOddPrime_yes P HP.out _).mono ?_; rintro e w1 ⟨rfl, m1, rfl⟩)
          | (go_at_call 20; first | (refine (demand_ok _).mono ?_; rintro e w2 ⟨rfl, rfl⟩) | (refine (demand_no _ ad (HG.out.drewN _)).mono ?_; rintro e w2 ⟨rfl, rfl⟩)))
        first | exact ⟨rfl, below_drewN (Below.refl _ _) _⟩ | exact ⟨rfl, rfl, below_drewN (Below.refl _ _) _⟩
    · obtain ⟨a1, c1, rfl⟩ := hs.shape
      obtain ⟨a2, c2, rfl⟩ := ht.shape
      clear hs ht h hp hG
      go_enter Tryd.func12, Tryd.ntmps12
      go_wp2_with (first
        | (go_at_call 21; refine (isOddPrime_yes P HP.out _).mono ?_; rintro e w1 ⟨rfl, m1, rfl⟩)
        | (go_at_call 20; first | (refine (demand_ok _).mono ?_; rintro e w2 ⟨rfl, rfl⟩) | (refine (demand_no _ ad (HG.out.drewN _)).mono ?_; rintro e w2 ⟨rfl, rfl⟩)))
      first | exact ⟨rfl, below_drewN (Below.refl _ _) _⟩ | exact ⟨rfl, rfl, below_drewN (Below.refl _ _) _⟩
  · have H := Lib.hid hp
    clear h hp hs ht hG
    go_enter Tryd.func12, Tryd.ntmps12
    go_wp2_with (first
      | (go_at_call 21; refine (isOddPrime_no p H.out _).mono ?_; rintro e w1 ⟨rfl, m1, rfl⟩)
      | (go_at_call 20; refine (demand_no _ ad (HG.out.drewN _)).mono ?_; rintro e w2 ⟨rfl, rfl⟩))
    first | exact ⟨rfl, below_drewN (Below.refl _ _) _⟩ | exact ⟨rfl, rfl, below_drewN (Below.refl _ _) _⟩
end
section
variable {n : Nat} {fa fe : Nat → Int}
end
end Go.Proofs.YtopapdahpeemfaaDoor
