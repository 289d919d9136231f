/- Least numbers that are no powers, and the powers, of the program. -/
import Derived.Test.YtacffobbbcfbcaaDoorEqD
namespace Go.Proofs.YtacffobbbcfbcaaDoor
open Go.RowKit Go.ChangeShapes Go.Sort
set_option linter.unusedVariables false
set_option linter.unusedSimpArgs false
set_option maxRecDepth 100000

section
variable {o : Bool} {lo hi : Nat} {v : Value} {n : Nat} {f : Nat → Int}
set_option maxHeartbeats 1000000 in
theorem Index_first (w : World) (i : Nat) (hn : n ≤ 1000) (hs : Sl o w lo hi v n f) (hi' : i < n) (hx : f i = 0) (hl : ∀ j, j < i → f j ≠ 0) :
    Calls Tryd.prog 95 #[v, .int .i64 0] w fun r w' => r = .returned (.int .i64 (i : Int)) ∧ w = w' := by
  obtain ⟨a, cap, rfl⟩ := hs.shape
  have HS := Lib.hid hs
  have HL := Lib.hid hl
  have HX := Lib.hid hx
  clear hs hl hx
  go_enter Tryd.func95, Tryd.ntmps95
  go_wp2
  go_loopw [8] (fun s8 wr => ∃ k : Nat, k ≤ i ∧ s8 = .int .i64 (k : Int) ∧ wr = w) (fun s8 _ => n - (intOf s8).toNat)
  case atStart => exact ⟨0, Nat.zero_le _, rfl, rfl⟩
  case round =>
    obtain ⟨k, hk, rfl, hwr⟩ := hrel
    subst hwr
    obtain ⟨g, off, cap', hv, _, _, _, _, hc, _⟩ := HS.out.at (by omega)
    obtain ⟨rfl, rfl⟩ : a = some ⟨g, off, none⟩ ∧ cap = cap' := by cases hv; exact ⟨rfl, rfl⟩
    clear hv
    have hkn : k < n := by omega
    have hck := hc k hkn
    clear hc
    by_cases hki : k < i
    · have hxb : (0 == f k) = false := beq_eq_false_iff_ne.2 (fun e => HL.out k hki e.symm)
      go_wp2
      go_roundw
      case rel => exact ⟨k + 1, by omega, by go_num, by first | rfl | trivial⟩
      case measure => simp [intOf] <;> omega
    · obtain rfl : k = i := by omega
      have hxb : (0 == f k) = true := by rw [HX.out]; rfl
      go_wp2
      go_ret
      exact ⟨rfl, rfl⟩
set_option maxHeartbeats 1000000 in
theorem Index_none (w : World) (hn : n ≤ 1000) (hs : Sl o w lo hi v n f) (hl : ∀ j, j < n → f j ≠ 0) :
    Calls Tryd.prog 95 #[v, .int .i64 0] w fun r w' => r = .returned (.int .i64 (-1)) ∧ w = w' := by
  obtain ⟨a, cap, rfl⟩ := hs.shape
  have HS := Lib.hid hs
  have HL := Lib.hid hl
  clear hs hl
  go_enter Tryd.func95, Tryd.ntmps95
  go_wp2
  go_loopw [8] (fun s8 wr => ∃ k : Nat, k ≤ n ∧ s8 = .int .i64 (k : Int) ∧ wr = w) (fun s8 _ => n - (intOf s8).toNat)
  case atStart => exact ⟨0, Nat.zero_le _, rfl, rfl⟩
  case round =>
    obtain ⟨k, hk, rfl, hwr⟩ := hrel
    subst hwr
    by_cases hlt : k < n
    · obtain ⟨g, off, cap', hv, _, _, _, _, hc, _⟩ := HS.out.at (by omega)
      obtain ⟨rfl, rfl⟩ : a = some ⟨g, off, none⟩ ∧ cap = cap' := by cases hv; exact ⟨rfl, rfl⟩
      clear hv
      have hck := hc k hlt
      clear hc
      have hxb : (0 == f k) = false := beq_eq_false_iff_ne.2 (fun e => HL.out k hlt e.symm)
      go_wp2
      go_roundw
      case rel => exact ⟨k + 1, by omega, by go_num, by first | rfl | trivial⟩
      case measure => simp [intOf] <;> omega
    · obtain rfl : k = n := by omega
      go_wp2
      go_ret
      exact ⟨rfl, rfl⟩
end
theorem countsOf_power1 (p k : Nat) (hp : 2 ≤ p) (hp2 : p ≤ 61) (hk : k ≤ 60) (w : World) :
    Calls Tryd.prog 77 #[.int .i64 (p : Int), .agg #[.int .i64 1, .int .i64 (k : Int)]] w fun r w' => ∃ G, r = .returned (.slice (some ⟨G, 0, none⟩) p p) ∧ Sl true w' w.heap.size w'.heap.size (.slice (some ⟨G, 0, none⟩) p p) p (cnT (vN p 1 k) 0 p) ∧ Below w.heap.size w w' := by
  have h := countsOf_power p 1 k hp hp2 (by omega) hk w
  rw [show ((1 : Nat) : Int) = 1 from rfl] at h
  exact h
/-- i is the least number with the count 0. -/
def Lst (p k i : Nat) : Prop := i < p ∧ cnT (vN p 1 k) 0 p i = 0 ∧ ∀ j, j < i → cnT (vN p 1 k) 0 p j ≠ 0
theorem lst_or (p k : Nat) : (∃ i, Lst p k i) ∨ ∀ j, j < p → cnT (vN p 1 k) 0 p j ≠ 0 := by
  have h : ∀ m, m ≤ p → (∃ i, Lst p k i) ∨ ∀ j, j < m → cnT (vN p 1 k) 0 p j ≠ 0 := by
    intro m
    induction m with
    | zero => exact fun _ => .inr (fun j hj => absurd hj (Nat.not_lt_zero _))
    | succ m ih =>
      intro hm
      rcases ih (by omega) with h | h
      · exact .inl h
      · by_cases e : cnT (vN p 1 k) 0 p m = 0
        · exact .inl ⟨m, by omega, e, h⟩
        · exact .inr (fun j hj => by
            rcases Nat.lt_succ_iff_lt_or_eq.1 hj with g | g
            · exact h j g
            · subst g; exact e)
  exact h p (Nat.le_refl _)
/-! LeastNoPower -/
set_option maxHeartbeats 4000000 in
theorem LeastNoPower_cl_ok (b0 b1 p k i : Nat) (hp : primeN p = true) (h1 : 1 ≤ k) (h2 : k ≤ 60) (hl : Lst p k i) (w : World) (x0 : Box w b0 [.int .i64 (p : Int)]) (x1 : Box w b1 [.int .i64 (k : Int)]) :
    Calls Tryd.prog 94 #[.pointer (some ⟨b0, 0, none⟩), .pointer (some ⟨b1, 0, none⟩)] w fun e w' => e = .returned (.int .i64 (i : Int)) ∧ Below w.heap.size w w' := by
  have hbd := primeN_bd hp
  have HP := Lib.hid hp
  have HH := Lib.hid hl
  have c0 := x0.c0
  have c1 := x1.c0
  have X0 := Lib.hid (x0.keep (Below.refl _ _).drew)
  have X1 := Lib.hid (x1.keep (Below.refl _ _).drew)
  clear hp hl x0 x1
  go_enter Tryd.func94, Tryd.ntmps94
  go_wp2
  go_region_held3 (fun w' => w'.cell? ⟨b0, 0, none⟩ = some (.int .i64 (p : Int)) ∧ w'.cell? ⟨b1, 0, none⟩ = some (.int .i64 (k : Int)))
    (first | exact ⟨c0, c1⟩ | exact ⟨u0, u1⟩ | exact ⟨v0, v1⟩ | go_keep)
    (first
      | (go_at_call 78; refine (powerOf_ok p k HP.out h1 h2 _).mono ?_; rintro e w1 ⟨rfl, bl1⟩; have z0 := X0.out.keep bl1; have z1 := X1.out.keep bl1; have u0 := z0.c0; have u1 := z1.c0)
      | (go_at_call 77; refine (countsOf_power1 p k (by omega) hbd.2 h2 _).mono ?_; rintro e w2 ⟨G, rfl, q2, bl2⟩; have v0 := (z0.keep bl2).c0; have v1 := (z1.keep bl2).c0)
      | (go_at_call 95; refine (Index_first _ i (by omega) q2 HH.out.1 HH.out.2.1 HH.out.2.2).mono ?_; rintro e w4 ⟨rfl, rfl⟩))
  all_goals
    go_wp2
    go_ret
    exact ⟨by first | rfl | (simp; omega), ((Below.refl w.heap.size w).drew.trans (by simpa using bl1)).trans (bl2.mono bl1.size)⟩
set_option maxHeartbeats 4000000 in
theorem LeastNoPower_cl_all (b0 b1 p k : Nat) (hp : primeN p = true) (h1 : 1 ≤ k) (h2 : k ≤ 60) (hl : ∀ j, j < p → cnT (vN p 1 k) 0 p j ≠ 0) (w : World) (x0 : Box w b0 [.int .i64 (p : Int)]) (x1 : Box w b1 [.int .i64 (k : Int)]) :
    Calls Tryd.prog 94 #[.pointer (some ⟨b0, 0, none⟩), .pointer (some ⟨b1, 0, none⟩)] w fun e w' => e = .returned (.int .i64 0) ∧ Below w.heap.size w w' := by
  have hbd := primeN_bd hp
  have HP := Lib.hid hp
  have HH := Lib.hid hl
  have c0 := x0.c0
  have c1 := x1.c0
  have X0 := Lib.hid (x0.keep (Below.refl _ _).drew)
  have X1 := Lib.hid (x1.keep (Below.refl _ _).drew)
  clear hp hl x0 x1
  go_enter Tryd.func94, Tryd.ntmps94
  go_wp2
  go_region_held3 (fun w' => w'.cell? ⟨b0, 0, none⟩ = some (.int .i64 (p : Int)) ∧ w'.cell? ⟨b1, 0, none⟩ = some (.int .i64 (k : Int)))
    (first | exact ⟨c0, c1⟩ | exact ⟨u0, u1⟩ | exact ⟨v0, v1⟩ | go_keep)
    (first
      | (go_at_call 78; refine (powerOf_ok p k HP.out h1 h2 _).mono ?_; rintro e w1 ⟨rfl, bl1⟩; have z0 := X0.out.keep bl1; have z1 := X1.out.keep bl1; have u0 := z0.c0; have u1 := z1.c0)
      | (go_at_call 77; refine (countsOf_power1 p k (by omega) hbd.2 h2 _).mono ?_; rintro e w2 ⟨G, rfl, q2, bl2⟩; have v0 := (z0.keep bl2).c0; have v1 := (z1.keep bl2).c0)
      | (go_at_call 95; refine (Index_none _ (by omega) q2 HH.out).mono ?_; rintro e w4 ⟨rfl, rfl⟩))
  all_goals
    go_wp2
    go_ret
    exact ⟨by first | rfl | simp, ((Below.refl w.heap.size w).drew.trans (by simpa using bl1)).trans (bl2.mono bl1.size)⟩
set_option maxHeartbeats 4000000 in
theorem LeastNoPower_cl_no (b0 b1 : Nat) (p k : Int) (hk : inR k) (h : ¬ PkP p k) (w : World) (ad : Addr) (hG : Gat w ad) (x0 : Box w b0 [.int .i64 p]) (x1 : Box w b1 [.int .i64 k]) :
    Calls Tryd.prog 94 #[.pointer (some ⟨b0, 0, none⟩), .pointer (some ⟨b1, 0, none⟩)] w fun e w' => e = .panicked [{ v := .iface 113 (.pointer (some ad)), recovered := false }] ∧ Below w.heap.size w w' := by
  have H := Lib.hid h
  have HG := Lib.hid hG
  have c0 := x0.c0
  have c1 := x1.c0
  have BL0 := Lib.hid (Below.refl w.heap.size w)
  clear h hG
  go_enter Tryd.func94, Tryd.ntmps94
  go_wp2
  go_region_held (fun w' => w'.cell? ⟨b0, 0, none⟩ = some (.int .i64 p) ∧ w'.cell? ⟨b1, 0, none⟩ = some (.int .i64 k))
    (first | exact hF.out.elim | exact ⟨c0, c1⟩ | go_keep)
    (first
      | (go_at_call 78; refine (Classical.em False).symm.elim (fun _ => ?_) (fun hF0 => ?_)
         · refine (powerOf_no p k hk H.out _ ad HG.out.drew).mono ?_
           rintro e w1 ⟨rfl, bl1⟩
           have BL1 : Below w.heap.size w w1 := BL0.out.drew.trans (bl1.mono (by simp only [World.size_drew]; exact BL0.out.size))
           go_big_unhide; dsimp only [bodyPost]; (first | exact ⟨rfl, BL1⟩ | exact ⟨rfl, rfl, BL1⟩)
         have hF := Lib.hid hF0
         clear hF0
         refine Calls.mono (R := fun e w' => e = .returned (.agg #[.int .i64 1, .int .i64 1])) hF.out.elim ?_
         rintro e w1 rfl)
      | (go_at_call 77; refine Calls.mono (R := fun e w' => e = .returned (.slice none 0 0)) hF.out.elim ?_; rintro e w3 rfl)
      | (go_at_call 95; refine Calls.mono (R := fun e w' => e = .returned (.int .i64 0)) hF.out.elim ?_; rintro e w4 rfl))
  all_goals exact hF.out.elim

set_option maxHeartbeats 2000000 in
theorem LeastNoPower_impl_ok (p k i : Nat) (hp : primeN p = true) (h1 : 1 ≤ k) (h2 : k ≤ 60) (hl : Lst p k i) (w : World) :
    Calls Tryd.prog 48 #[.int .i64 (p : Int), .int .i64 (k : Int)] w fun e w' => e = .returned (.tuple #[.int .i64 (i : Int), .int .i64 0]) ∧ Below w.heap.size w w' := by
  have ST := (((((St.start w).alloc (.cells #[.int .i64 (p : Int)] 2)).addBox w.heap.size [.int .i64 (p : Int)] (Box.made _ _ _ _ (fun j v h => by simpa using h))).alloc (.cells #[.int .i64 (k : Int)] 2)).addBox (w.heap.size + 1) [.int .i64 (k : Int)] (Box.new _ _ _ _ (by simp)))
  have hz : w.heap.size ≤ ((w.alloc (.cells #[.int .i64 (p : Int)] 2)).alloc (.cells #[.int .i64 (k : Int)] 2)).heap.size := ST.1.size
  have bx0 := (ST.alloc (.cells #[.int .i64 0] 2)).box 1 (w.heap.size, [.int .i64 (p : Int)]) rfl
  have bx1 := (ST.alloc (.cells #[.int .i64 0] 2)).box 0 (w.heap.size + 1, [.int .i64 (k : Int)]) rfl
  have hmf : ∀ (fn : Fn) (first cap : Array Value) (w : World), (Instr.makeFunc fn first cap).run Tryd.prog w = .ok (.func fn first cap) w := fun _ _ _ _ => rfl
  obtain ⟨W, hW⟩ : ∃ W, ((w.alloc (.cells #[.int .i64 (p : Int)] 2)).alloc (.cells #[.int .i64 (k : Int)] 2)) = W := ⟨_, rfl⟩
  have hst := ST.1
  rw [hW] at hz hst bx0 bx1
  have HC := Lib.hid ((doorI_LeastNoPower_ok (w.heap.size) (w.heap.size + 1) W ((i : Int)) ((LeastNoPower_cl_ok (w.heap.size) (w.heap.size + 1) p k i hp h1 h2 hl _ bx0 bx1).mono (fun e w' ⟨he, hb⟩ => ⟨he, hb.mono (by simp)⟩))))
  clear ST bx0 bx1
  go_enter Tryd.func48, Tryd.ntmps48
  go_wp2_with fail
  try simp only [World.size_alloc]
  try rw [hW]
  go_wp2_with (go_at_call 57; refine HC.out.mono ?_; rintro e w1 ⟨rfl, b1⟩)
  have BB := hst.trans (b1.mono hz)
  go_ret2
  exact ⟨rfl, BB⟩

set_option maxHeartbeats 2000000 in
theorem LeastNoPower_impl_no (p k : Int) (hk : inR k) (h : ¬ PkP p k) (w : World) (ad : Addr) (hG : Gat w ad) :
    Calls Tryd.prog 48 #[.int .i64 (p : Int), .int .i64 (k : Int)] w fun e w' => e = .returned (.tuple #[.int .i64 0, .int .i64 2]) ∧ Below w.heap.size w w' := by
  have ST := (((((St.start w).alloc (.cells #[.int .i64 (p : Int)] 2)).addBox w.heap.size [.int .i64 (p : Int)] (Box.made _ _ _ _ (fun j v h => by simpa using h))).alloc (.cells #[.int .i64 (k : Int)] 2)).addBox (w.heap.size + 1) [.int .i64 (k : Int)] (Box.new _ _ _ _ (by simp)))
  have hz : w.heap.size ≤ ((w.alloc (.cells #[.int .i64 (p : Int)] 2)).alloc (.cells #[.int .i64 (k : Int)] 2)).heap.size := ST.1.size
  have bx0 := (ST.alloc (.cells #[.int .i64 0] 2)).box 1 (w.heap.size, [.int .i64 (p : Int)]) rfl
  have bx1 := (ST.alloc (.cells #[.int .i64 0] 2)).box 0 (w.heap.size + 1, [.int .i64 (k : Int)]) rfl
  have HG := (hG.keep ST.1).alloc (.cells #[.int .i64 0] 2)
  have hmf : ∀ (fn : Fn) (first cap : Array Value) (w : World), (Instr.makeFunc fn first cap).run Tryd.prog w = .ok (.func fn first cap) w := fun _ _ _ _ => rfl
  obtain ⟨W, hW⟩ : ∃ W, ((w.alloc (.cells #[.int .i64 (p : Int)] 2)).alloc (.cells #[.int .i64 (k : Int)] 2)) = W := ⟨_, rfl⟩
  have hst := ST.1
  rw [hW] at hz hst bx0 bx1 HG
  have HC := Lib.hid ((doorI_LeastNoPower_no (w.heap.size) (w.heap.size + 1) W ad ((LeastNoPower_cl_no (w.heap.size) (w.heap.size + 1) p k hk h _ ad HG bx0 bx1).mono (fun e w' ⟨he, hb⟩ => ⟨he, hb.mono (by simp)⟩))))
  clear ST bx0 bx1 HG hG
  go_enter Tryd.func48, Tryd.ntmps48
  go_wp2_with fail
  try simp only [World.size_alloc]
  try rw [hW]
  go_wp2_with (go_at_call 57; refine HC.out.mono ?_; rintro e w1 ⟨rfl, b1⟩)
  have BB := hst.trans (b1.mono hz)
  go_ret2
  exact ⟨rfl, BB⟩

set_option maxHeartbeats 2000000 in
theorem LeastNoPower_impl_all (p k : Nat) (hp : primeN p = true) (h1 : 1 ≤ k) (h2 : k ≤ 60) (hl : ∀ j, j < p → cnT (vN p 1 k) 0 p j ≠ 0) (w : World) :
    Calls Tryd.prog 48 #[.int .i64 (p : Int), .int .i64 (k : Int)] w fun e w' => e = .returned (.tuple #[.int .i64 0, .int .i64 0]) ∧ Below w.heap.size w w' := by
  have ST := (((((St.start w).alloc (.cells #[.int .i64 (p : Int)] 2)).addBox w.heap.size [.int .i64 (p : Int)] (Box.made _ _ _ _ (fun j v h => by simpa using h))).alloc (.cells #[.int .i64 (k : Int)] 2)).addBox (w.heap.size + 1) [.int .i64 (k : Int)] (Box.new _ _ _ _ (by simp)))
  have hz : w.heap.size ≤ ((w.alloc (.cells #[.int .i64 (p : Int)] 2)).alloc (.cells #[.int .i64 (k : Int)] 2)).heap.size := ST.1.size
  have bx0 := (ST.alloc (.cells #[.int .i64 0] 2)).box 1 (w.heap.size, [.int .i64 (p : Int)]) rfl
  have bx1 := (ST.alloc (.cells #[.int .i64 0] 2)).box 0 (w.heap.size + 1, [.int .i64 (k : Int)]) rfl
  have hmf : ∀ (fn : Fn) (first cap : Array Value) (w : World), (Instr.makeFunc fn first cap).run Tryd.prog w = .ok (.func fn first cap) w := fun _ _ _ _ => rfl
  obtain ⟨W, hW⟩ : ∃ W, ((w.alloc (.cells #[.int .i64 (p : Int)] 2)).alloc (.cells #[.int .i64 (k : Int)] 2)) = W := ⟨_, rfl⟩
  have hst := ST.1
  rw [hW] at hz hst bx0 bx1
  have HC := Lib.hid ((doorI_LeastNoPower_ok (w.heap.size) (w.heap.size + 1) W (0) ((LeastNoPower_cl_all (w.heap.size) (w.heap.size + 1) p k hp h1 h2 hl _ bx0 bx1).mono (fun e w' ⟨he, hb⟩ => ⟨he, hb.mono (by simp)⟩))))
  clear ST bx0 bx1
  go_enter Tryd.func48, Tryd.ntmps48
  go_wp2_with fail
  try simp only [World.size_alloc]
  try rw [hW]
  go_wp2_with (go_at_call 57; refine HC.out.mono ?_; rintro e w1 ⟨rfl, b1⟩)
  have BB := hst.trans (b1.mono hz)
  go_ret2
  exact ⟨rfl, BB⟩

end Go.Proofs.YtacffobbbcfbcaaDoor
