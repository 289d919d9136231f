/- The powers modulo a prime, of the program and of the model; least numbers that are no powers, of the model. -/
import Derived.Test.YtacffobbbcfbcaaDoorEqH
import Derived.Test.YtacffobbbcfbcaaDoorEqT
import Derived.Test.YtacffobbbcfbcaaDoorRow
import Derived.Test.YtacffobbbcfbcaaDoorPlcF
namespace Go.Proofs.YtacffobbbcfbcaaDoor
open Go.RowKit Go.ChangeShapes Go.Sort
set_option linter.unusedVariables false
set_option linter.unusedSimpArgs false
set_option maxRecDepth 100000

/-- The first powers. -/
def pwL (p k m : Nat) : List Nat := (List.range m).filter (fun b => decide (0 < cnT (vN p 1 k) 0 p b))
theorem pwL_yes {p k m : Nat} (h : 0 < cnT (vN p 1 k) 0 p m) : pwL p k (m + 1) = pwL p k m ++ [m] := by
  unfold pwL; rw [List.range_succ, List.filter_append]; simp [h]
theorem pwL_no {p k m : Nat} (h : ¬ 0 < cnT (vN p 1 k) 0 p m) : pwL p k (m + 1) = pwL p k m := by
  unfold pwL; rw [List.range_succ, List.filter_append]; simp [h]
theorem pwL_len (p k m : Nat) : (pwL p k m).length ≤ m := by
  unfold pwL
  have := List.length_filter_le (fun b => decide (0 < cnT (vN p 1 k) 0 p b)) (List.range m)
  rwa [List.length_range] at this
theorem pwF_inR (p k m : Nat) (hm : m ≤ 1000) (j : Nat) : inR (rtF (pwL p k m) j) := by
  rcases Nat.lt_or_ge j (pwL p k m).length with h | h
  · obtain ⟨y, hy, e⟩ := rtF_mem h
    have := List.mem_range.1 (List.mem_filter.1 hy).1
    rw [e]; unfold inR; omega
  · unfold rtF
    rw [List.getD_eq_getElem?_getD, List.getElem?_eq_none h]
    simp [inR]
theorem Row.keepY {w w' : World} {base g cap n : Nat} {f : Nat → Int} (h : Row w base g cap n f) (hb : Below w.heap.size w w') : Row w' base g cap n f :=
  World.ownsRow.kept (row := none) h ⟨hb.os, hb.tape, hb.output, hb.size, fun k hk _ => hb.block k hk⟩ (.inr (fun e => by cases e))
set_option maxHeartbeats 4000000 in
theorem PowersOf_cl_ok (b0 b1 p k : Nat) (hp : primeN p = true) (h1 : 1 ≤ k) (h2 : k ≤ 60) (w : World) (x0 : Box w b0 [.int .i64 (p : Int)]) (x1 : Box w b1 [.int .i64 (k : Int)]) :
    Calls Tryd.prog 76 #[.pointer (some ⟨b0, 0, none⟩), .pointer (some ⟨b1, 0, none⟩)] w fun e w' => ∃ a c, e = .returned (.slice a (pwL p k p).length c) ∧ Sl true w' w.heap.size w'.heap.size (.slice a (pwL p k p).length c) (pwL p k p).length (rtF (pwL p k p)) ∧ Below w.heap.size w w' := by
  have hbd := primeN_bd hp
  have HP := Lib.hid hp
  have hal := alloc_bl w (.cells #[] 2)
  have R0 := Row.made w w.heap.size (rtF (pwL p k 0)) (Nat.le_refl _)
  have y0 := x0.keep hal
  have y1 := x1.keep hal
  have hz0 : (w.alloc (.cells #[] 2)).heap.size = w.heap.size + 1 := by simp
  have ST0 := Lib.hid ((St.start w).alloc (.cells #[] 2))
  obtain ⟨W, hW⟩ : ∃ W, w.alloc (.cells #[] 2) = W := ⟨_, rfl⟩
  rw [hW] at R0 y0 y1 hz0 hal ST0
  have c0 := y0.c0
  have c1 := y1.c0
  have X0 := Lib.hid (y0.keep (Below.refl _ _).drew)
  have X1 := Lib.hid (y1.keep (Below.refl _ _).drew)
  have R0' := Lib.hid (R0.keepY (Below.refl _ _).drew)
  have HZ0 := Lib.hid hz0
  clear hp x0 x1 y0 y1 R0 hz0
  go_enter Tryd.func76, Tryd.ntmps76
  go_wp2
  try rw [hW]
  clear hW
  go_region_held3 (fun w' => w'.cell? ⟨b0, 0, none⟩ = some (.int .i64 (p : Int)) ∧ w'.cell? ⟨b1, 0, none⟩ = some (.int .i64 (k : Int)))
    (first | exact ⟨c0, c1⟩ | exact ⟨u0, u1⟩ | exact ⟨v0, v1⟩ | go_keep)
    (first
      | (go_at_call 78; refine (powerOf_ok p k HP.out h1 h2 _).mono ?_; rintro e w1 ⟨rfl, bl1⟩; have z0 := X0.out.keep bl1; have z1 := X1.out.keep bl1; have u0 := z0.c0; have u1 := z1.c0)
      | (go_at_call 77; refine (countsOf_power1 p k (by omega) hbd.2 h2 _).mono ?_; rintro e w2 ⟨G, rfl, q2, bl2⟩; have v0 := (z0.keep bl2).c0; have v1 := (z1.keep bl2).c0))
  have hs1 := bl1.size
  have hs2 := bl2.size
  simp only [World.size_drew] at hs1
  have hz0 := HZ0.out
  have R1 := Lib.hid ((R0'.out.keepY bl1).keepY bl2)
  obtain ⟨lo, hlo⟩ : ∃ lo, w1.heap.size = lo := ⟨_, rfl⟩
  obtain ⟨hi, hhi⟩ : ∃ hi, w2.heap.size = hi := ⟨_, rfl⟩
  have ST := Lib.hid (((ST0.out.drew.keep bl1).keep bl2).addSl ⟨true, w1.heap.size, w2.heap.size, .slice (some ⟨G, 0, none⟩) p p, p, cnT (vN p 1 k) 0 p⟩ q2)
  rw [hlo, hhi] at ST
  have hdis : w.heap.size < lo ∨ hi ≤ w.heap.size := by omega
  have hiS : hi ≤ w2.heap.size := by omega
  clear q2 bl1 bl2 ST0 R0' X0 X1 HZ0 c0 c1 u0 u1 v0 v1 z0 z1 hz0 hs1
  go_wp2
  go_loopw [3, 13] (fun s3 s13 wr => ∃ (k2 g cap : Nat), k2 ≤ p ∧ s3 = .slice (some ⟨g, 0, none⟩) (pwL p k k2).length cap ∧ s13 = .int .i64 (k2 : Int) ∧ Row wr w.heap.size g cap (pwL p k k2).length (rtF (pwL p k k2)) ∧ (g < lo ∨ hi ≤ g) ∧ hi ≤ wr.heap.size ∧ St w wr [] [⟨true, lo, hi, .slice (some ⟨G, 0, none⟩) p p, p, cnT (vN p 1 k) 0 p⟩]) (fun _ s13 _ => p + 1 - (intOf s13).toNat)
  case atStart => exact ⟨0, _, _, by omega, rfl, rfl, R1.out, hdis, hiS, ST.out⟩
  case round =>
    clear R1 ST
    obtain ⟨k2, g, cap, hk, rfl, rfl, hr, hgg, hzr, hst⟩ := hrel
    have R1 := Lib.hid hr
    have HT := Lib.hid hst
    clear hr hst
    obtain ⟨hl1, hl2⟩ := R1.out.lt
    have hkl := pwL_len p k k2
    by_cases hlt : k2 < p
    · have q0 := HT.out.sl 0 ⟨true, lo, hi, .slice (some ⟨G, 0, none⟩) p p, p, cnT (vN p 1 k) 0 p⟩ rfl
      dsimp only at q0
      have hcq := (q0.known (by omega)).2.2.2.1 k2 hlt
      rw [Nat.zero_add] at hcq
      have hcb := cnT_bd (vN p 1 k) 0 p k2
      by_cases hx : 0 < cnT (vN p 1 k) 0 p k2
      · have HL2 := Lib.hid (show pwL p k (k2 + 1) = pwL p k k2 ++ [k2] from pwL_yes hx)
        have HQ := Lib.hid q0
        clear q0
        generalize pwL p k k2 = L at *
        go_wp2_with (first
          | (at_builtin; refine wpList_push rfl (.tmp 20) (.tmp 22) rfl rfl w.heap.size g cap L.length (rtF L) rfl (R1.out.alloc _) wr.heap.size (k2 : Int) rfl (heap_alloc_new wr _) (by omega) ?_; intro gA kA wA rowA grA orA ltA; have stA := Lib.hid ((HT.out.alloc (.cells #[.int .i64 (k2 : Int)] 2)).write (Frame.ofGrown grA) (by omega) (by intro b hb; cases hb) (by intro s hs'; simp only [List.mem_cons, List.not_mem_nil, or_false] at hs'; rcases hs' with rfl; rcases hgg with hgg | hgg; (· right; show g + 1 ≤ lo; omega); (· left; show hi ≤ g; omega))); have ZA := Lib.hid grA.size; have OA := Lib.hid orA; have RA := Lib.hid rowA; clear rowA grA orA))
        have GA := Lib.hid (show (gA < lo ∨ hi ≤ gA) from by have orA := OA.out; simp only [World.size_alloc] at orA; rcases orA with e | e <;> omega)
        have hzA := ZA.out
        simp only [World.size_alloc] at hzA
        go_roundw
        case rel =>
          refine ⟨k2 + 1, gA, kA, by omega, by rw [HL2.out, List.length_append]; rfl, by go_num, ?_, GA.out, by omega, stA.out⟩
          rw [HL2.out, List.length_append]
          exact RA.out.congr (fun j hj => by rw [rtF_push L k2 j hj])
        case measure => simp [intOf] <;> omega
      · have HL2 := Lib.hid (show pwL p k (k2 + 1) = pwL p k k2 from pwL_no hx)
        have hx0 : cnT (vN p 1 k) 0 p k2 = 0 := by omega
        rw [hx0] at hcq
        clear hx hx0
        go_wp2
        go_roundw
        case rel => exact ⟨k2 + 1, g, cap, by omega, by rw [HL2.out], by go_num, by rw [HL2.out]; exact R1.out, hgg, hzr, HT.out⟩
        case measure => simp [intOf] <;> omega
    · obtain rfl : k2 = p := by omega
      have BB := HT.out.1
      go_wp2
      go_ret
      refine ⟨_, _, rfl, ?_, BB⟩
      exact (Sl.ofRowF R1.out (fun j hj => pwF_inR k2 k k2 (by omega) j) (by unfold maxLen; omega)).wide (by omega) (Nat.le_refl _) (Nat.le_refl _)

set_option maxHeartbeats 4000000 in
theorem PowersOf_cl_no (b0 b1 : Nat) (p k : Int) (hk : inR k) (h : ¬ PkP p k) (w : World) (ad : Addr) (hG : Gat w ad) (x0 : Box w b0 [.int .i64 p]) (x1 : Box w b1 [.int .i64 k]) :
    Calls Tryd.prog 76 #[.pointer (some ⟨b0, 0, none⟩), .pointer (some ⟨b1, 0, none⟩)] w fun e w' => e = .panicked [{ v := .iface 113 (.pointer (some ad)), recovered := false }] ∧ Below w.heap.size w w' := by
  have H := Lib.hid h
  have hal := alloc_bl w (.cells #[] 2)
  have y0 := x0.keep hal
  have y1 := x1.keep hal
  have BL0 := Lib.hid hal
  have HG := Lib.hid (hG.keep hal)
  obtain ⟨W, hW⟩ : ∃ W, w.alloc (.cells #[] 2) = W := ⟨_, rfl⟩
  rw [hW] at y0 y1 BL0 HG
  have c0 := y0.c0
  have c1 := y1.c0
  clear h hG hal x0 x1 y0 y1
  go_enter Tryd.func76, Tryd.ntmps76
  go_wp2
  try rw [hW]
  clear hW
  go_region_held (fun w' => w'.cell? ⟨b0, 0, none⟩ = some (.int .i64 p) ∧ w'.cell? ⟨b1, 0, none⟩ = some (.int .i64 k))
    (first | exact hF.out.elim | exact ⟨c0, c1⟩ | go_keep)
    (first
      | (go_at_call 78; refine (Classical.em False).symm.elim (fun _ => ?_) (fun hF0 => ?_)
         · refine (powerOf_no p k hk H.out _ ad HG.out.drew).mono ?_
           rintro e w1 ⟨rfl, bl1⟩
           have BL1 : Below w.heap.size w w1 := BL0.out.drew.trans (bl1.mono (by simp only [World.size_drew]; exact BL0.out.size))
           go_big_unhide; dsimp only [bodyPost]; (first | exact ⟨rfl, BL1⟩ | exact ⟨rfl, rfl, BL1⟩)
         have hF := Lib.hid hF0
         clear hF0
         refine Calls.mono (R := fun e w' => e = .returned (.agg #[.int .i64 1, .int .i64 1])) hF.out.elim ?_
         rintro e w1 rfl)
      | (go_at_call 77; refine Calls.mono (R := fun e w' => e = .returned (.slice none 0 0)) hF.out.elim ?_; rintro e w3 rfl)
      | (go_at_call 95; refine Calls.mono (R := fun e w' => e = .returned (.int .i64 0)) hF.out.elim ?_; rintro e w4 rfl))
  all_goals exact hF.out.elim

set_option maxHeartbeats 2000000 in
theorem PowersOf_impl_ok (p k : Nat) (hp : primeN p = true) (h1 : 1 ≤ k) (h2 : k ≤ 60) (w : World) :
    Calls Tryd.prog 30 #[.int .i64 (p : Int), .int .i64 (k : Int)] w fun e w' => ∃ a_ k_, e = .returned (.tuple #[.slice a_ (pwL p k p).length k_, .int .i64 0]) ∧ Sl true w' w.heap.size w'.heap.size (.slice a_ (pwL p k p).length k_) (pwL p k p).length (rtF (pwL p k p)) ∧ Below w.heap.size w w' := by
  have ST := (((((St.start w).alloc (.cells #[.int .i64 (p : Int)] 2)).addBox w.heap.size [.int .i64 (p : Int)] (Box.made _ _ _ _ (fun j v h => by simpa using h))).alloc (.cells #[.int .i64 (k : Int)] 2)).addBox (w.heap.size + 1) [.int .i64 (k : Int)] (Box.new _ _ _ _ (by simp)))
  have hz : w.heap.size ≤ ((w.alloc (.cells #[.int .i64 (p : Int)] 2)).alloc (.cells #[.int .i64 (k : Int)] 2)).heap.size := ST.1.size
  have bx0 := (ST.alloc (.cells #[.int .i64 0] 2)).box 1 (w.heap.size, [.int .i64 (p : Int)]) rfl
  have bx1 := (ST.alloc (.cells #[.int .i64 0] 2)).box 0 (w.heap.size + 1, [.int .i64 (k : Int)]) rfl
  have hmf : ∀ (fn : Fn) (first cap : Array Value) (w : World), (Instr.makeFunc fn first cap).run Tryd.prog w = .ok (.func fn first cap) w := fun _ _ _ _ => rfl
  obtain ⟨W, hW⟩ : ∃ W, ((w.alloc (.cells #[.int .i64 (p : Int)] 2)).alloc (.cells #[.int .i64 (k : Int)] 2)) = W := ⟨_, rfl⟩
  have hst := ST.1
  rw [hW] at hz hst bx0 bx1
  have HC := Lib.hid ((doorS_PowersOf_ok (w.heap.size) (w.heap.size + 1) W ((pwL p k p).length) ((rtF (pwL p k p))) ((PowersOf_cl_ok (w.heap.size) (w.heap.size + 1) p k hp h1 h2 _ bx0 bx1).mono (fun e w' ⟨a, k, he, hs, hb⟩ => ⟨a, k, he, hs.wide (by simp) (Nat.le_refl _) (Nat.le_refl _), hb.mono (by simp)⟩))))
  clear ST bx0 bx1
  go_enter Tryd.func30, Tryd.ntmps30
  go_wp2_with fail
  try simp only [World.size_alloc]
  try rw [hW]
  go_wp2_with (go_at_call 71; refine HC.out.mono ?_; rintro e w1 ⟨a1, k1, rfl, s1, b1⟩)
  have BB := hst.trans (b1.mono hz)
  go_ret2
  exact ⟨_, _, rfl, s1.wide hz (Nat.le_refl _) (Nat.le_refl _), BB⟩

set_option maxHeartbeats 2000000 in
theorem PowersOf_impl_no (p k : Int) (hk : inR k) (h : ¬ PkP p k) (w : World) (ad : Addr) (hG : Gat w ad) :
    Calls Tryd.prog 30 #[.int .i64 (p : Int), .int .i64 (k : Int)] w fun e w' => e = .returned (.tuple #[.slice none 0 0, .int .i64 2]) ∧ Below w.heap.size w w' := by
  have ST := (((((St.start w).alloc (.cells #[.int .i64 (p : Int)] 2)).addBox w.heap.size [.int .i64 (p : Int)] (Box.made _ _ _ _ (fun j v h => by simpa using h))).alloc (.cells #[.int .i64 (k : Int)] 2)).addBox (w.heap.size + 1) [.int .i64 (k : Int)] (Box.new _ _ _ _ (by simp)))
  have hz : w.heap.size ≤ ((w.alloc (.cells #[.int .i64 (p : Int)] 2)).alloc (.cells #[.int .i64 (k : Int)] 2)).heap.size := ST.1.size
  have bx0 := (ST.alloc (.cells #[.int .i64 0] 2)).box 1 (w.heap.size, [.int .i64 (p : Int)]) rfl
  have bx1 := (ST.alloc (.cells #[.int .i64 0] 2)).box 0 (w.heap.size + 1, [.int .i64 (k : Int)]) rfl
  have HG := (hG.keep ST.1).alloc (.cells #[.int .i64 0] 2)
  have hmf : ∀ (fn : Fn) (first cap : Array Value) (w : World), (Instr.makeFunc fn first cap).run Tryd.prog w = .ok (.func fn first cap) w := fun _ _ _ _ => rfl
  obtain ⟨W, hW⟩ : ∃ W, ((w.alloc (.cells #[.int .i64 (p : Int)] 2)).alloc (.cells #[.int .i64 (k : Int)] 2)) = W := ⟨_, rfl⟩
  have hst := ST.1
  rw [hW] at hz hst bx0 bx1 HG
  have HC := Lib.hid ((doorS_PowersOf_no (w.heap.size) (w.heap.size + 1) W ad ((PowersOf_cl_no (w.heap.size) (w.heap.size + 1) p k hk h _ ad HG bx0 bx1).mono (fun e w' ⟨he, hb⟩ => ⟨he, hb.mono (by simp)⟩))))
  clear ST bx0 bx1 HG hG
  go_enter Tryd.func30, Tryd.ntmps30
  go_wp2_with fail
  try simp only [World.size_alloc]
  try rw [hW]
  go_wp2_with (go_at_call 71; refine HC.out.mono ?_; rintro e w1 ⟨rfl, b1⟩)
  have BB := hst.trans (b1.mono hz)
  go_ret2
  exact ⟨rfl, BB⟩

/-! The model -/
theorem l08Values_1 (p k : Nat) (hp : 2 ≤ p) (hp2 : p ≤ 61) (hk : k ≤ 60) (w : World) :
    Calls Tryd.prog 75 #[.int .i64 (p : Int), .int .i64 1, .int .i64 (k : Int)] w fun r w' => r = .returned (.slice (some ⟨w.heap.size, 0, none⟩) p p) ∧ Sl true w' w.heap.size (w.heap.size + 1) (.slice (some ⟨w.heap.size, 0, none⟩) p p) p (cnT (vN p 1 k) 0 p) ∧ Below w.heap.size w w' ∧ w'.heap.size = w.heap.size + 1 := by
  have h := l08Values_any p 1 k hp hp2 (by omega) hk w
  rw [show ((1 : Nat) : Int) = 1 from rfl] at h
  exact h
theorem PowersOf_spec_no (p k : Int) (hk : inR k) (h : ¬ PkP p k) (w : World) :
    Calls Tryd.prog 31 #[.int .i64 p, .int .i64 k] w fun e w' => e = .returned (.tuple #[.slice none 0 0, .int .i64 2]) ∧ Below w.heap.size w w' := by
  have S1 := Lib.hid (one_madeS w k hk _ rfl)
  have hal := alloc_bl w (.cells #[.int .i64 k] 2)
  have H := Lib.hid (show ¬ (PrP p ∧ ExP (fun _ => k) 1) from fun g => h ⟨g.1, (g.2 0 (by omega)).1, (g.2 0 (by omega)).2⟩)
  clear h
  go_enter Tryd.func31, Tryd.ntmps31
  go_wp2_with (go_at_call 73; refine (l08Code_no p _ S1.out H.out).mono ?_; rintro e w1 ⟨rfl, b1⟩)
  go_ret2
  exact ⟨rfl, hal.trans (b1.mono (by simp))⟩
theorem LeastNoPower_spec_no (p k : Int) (hk : inR k) (h : ¬ PkP p k) (w : World) :
    Calls Tryd.prog 49 #[.int .i64 p, .int .i64 k] w fun e w' => e = .returned (.tuple #[.int .i64 0, .int .i64 2]) ∧ Below w.heap.size w w' := by
  have S1 := Lib.hid (one_madeS w k hk _ rfl)
  have hal := alloc_bl w (.cells #[.int .i64 k] 2)
  have H := Lib.hid (show ¬ (PrP p ∧ ExP (fun _ => k) 1) from fun g => h ⟨g.1, (g.2 0 (by omega)).1, (g.2 0 (by omega)).2⟩)
  clear h
  go_enter Tryd.func49, Tryd.ntmps49
  go_wp2_with (go_at_call 73; refine (l08Code_no p _ S1.out H.out).mono ?_; rintro e w1 ⟨rfl, b1⟩)
  go_ret2
  exact ⟨rfl, hal.trans (b1.mono (by simp))⟩

set_option maxHeartbeats 4000000 in
theorem PowersOf_spec_ok (p k : Nat) (hp : primeN p = true) (h1 : 1 ≤ k) (h2 : k ≤ 60) (w : World) :
    Calls Tryd.prog 31 #[.int .i64 (p : Int), .int .i64 (k : Int)] w fun e w' => ∃ a c, e = .returned (.tuple #[.slice a (pwL p k p).length c, .int .i64 0]) ∧ Sl true w' w.heap.size w'.heap.size (.slice a (pwL p k p).length c) (pwL p k p).length (rtF (pwL p k p)) ∧ Below w.heap.size w w' := by
  have hbd := primeN_bd hp
  have HP := Lib.hid hp
  have S1 := Lib.hid (one_madeS w (k : Int) (by unfold inR; omega) _ rfl)
  have HX := Lib.hid (ex_one (k := (k : Int)) (by omega) (by omega))
  have hal := alloc_bl w (.cells #[.int .i64 (k : Int)] 2)
  clear hp
  go_enter Tryd.func31, Tryd.ntmps31
  go_wp2_with (first
    | (go_at_call 73; refine (l08Code_yes p HP.out _ S1.out HX.out).mono ?_; rintro e w1 ⟨rfl, b1⟩; have hz1 := b1.size; have BL1 := hal.trans (b1.mono (show w.heap.size ≤ _ by simp)))
    | (go_at_call 75; refine (l08Values_1 p k (by omega) hbd.2 h2 _).mono ?_; rintro e w2 ⟨rfl, q2, b2, hz2⟩; have HZ2 := Lib.hid hz2; clear hz2))
  have hs1 := BL1.size
  obtain ⟨lo, hlo⟩ : ∃ lo, w1.heap.size = lo := ⟨_, rfl⟩
  obtain ⟨hi, hhi⟩ : ∃ hi, w1.heap.size + 1 = hi := ⟨_, rfl⟩
  have hz2 := HZ2.out
  have R1 := Lib.hid (Row.made w2 w.heap.size (rtF (pwL p k 0)) (by omega))
  have ST := Lib.hid (((((St.start w).keep BL1).keep b2).addSl ⟨true, w1.heap.size, w1.heap.size + 1, .slice (some ⟨w1.heap.size, 0, none⟩) p p, p, cnT (vN p 1 k) 0 p⟩ q2).alloc (.cells #[] 2))
  rw [hhi, hlo] at ST
  have hdis : w2.heap.size < lo ∨ hi ≤ w2.heap.size := by omega
  have hiS : hi ≤ (w2.alloc (.cells #[] 2)).heap.size := by simp; omega
  clear hz2 HZ2 q2 b2 b1 hhi hs1
  try simp only [hlo]
  clear hlo
  go_loopw [8, 9] (fun s8 s9 wr => ∃ (k2 g cap : Nat), k2 ≤ p ∧ s8 = .slice (some ⟨g, 0, none⟩) (pwL p k k2).length cap ∧ s9 = .int .i64 (k2 : Int) ∧ Row wr w.heap.size g cap (pwL p k k2).length (rtF (pwL p k k2)) ∧ (g < lo ∨ hi ≤ g) ∧ hi ≤ wr.heap.size ∧ St w wr [] [⟨true, lo, hi, .slice (some ⟨lo, 0, none⟩) p p, p, cnT (vN p 1 k) 0 p⟩]) (fun _ s9 _ => p + 1 - (intOf s9).toNat)
  case atStart => exact ⟨0, _, _, by omega, rfl, rfl, R1.out, hdis, hiS, ST.out⟩
  case round =>
    clear R1 ST
    obtain ⟨k2, g, cap, hk, rfl, rfl, hr, hgg, hzr, hst⟩ := hrel
    have R1 := Lib.hid hr
    have HT := Lib.hid hst
    clear hr hst
    obtain ⟨hl1, hl2⟩ := R1.out.lt
    have hkl := pwL_len p k k2
    by_cases hlt : k2 < p
    · have q0 := HT.out.sl 0 ⟨true, lo, hi, .slice (some ⟨lo, 0, none⟩) p p, p, cnT (vN p 1 k) 0 p⟩ rfl
      dsimp only at q0
      have hcq := (q0.known (by omega)).2.2.2.1 k2 hlt
      rw [Nat.zero_add] at hcq
      have hcb := cnT_bd (vN p 1 k) 0 p k2
      by_cases hx : 0 < cnT (vN p 1 k) 0 p k2
      · have HL2 := Lib.hid (show pwL p k (k2 + 1) = pwL p k k2 ++ [k2] from pwL_yes hx)
        have HQ := Lib.hid q0
        clear q0
        generalize pwL p k k2 = L at *
        go_wp2_with (first
          | (at_builtin; refine wpList_push rfl (.tmp 31) (.tmp 33) rfl rfl w.heap.size g cap L.length (rtF L) rfl (R1.out.alloc _) wr.heap.size (k2 : Int) rfl (heap_alloc_new wr _) (by omega) ?_; intro gA kA wA rowA grA orA ltA; have stA := Lib.hid ((HT.out.alloc (.cells #[.int .i64 (k2 : Int)] 2)).write (Frame.ofGrown grA) (by omega) (by intro b hb; cases hb) (by intro s hs'; simp only [List.mem_cons, List.not_mem_nil, or_false] at hs'; rcases hs' with rfl; rcases hgg with hgg | hgg; (· right; show g + 1 ≤ lo; omega); (· left; show hi ≤ g; omega))); have ZA := Lib.hid grA.size; have OA := Lib.hid orA; have RA := Lib.hid rowA; clear rowA grA orA))
        have GA := Lib.hid (show (gA < lo ∨ hi ≤ gA) from by have orA := OA.out; simp only [World.size_alloc] at orA; rcases orA with e | e <;> omega)
        have hzA := ZA.out
        simp only [World.size_alloc] at hzA
        go_roundw
        case rel =>
          refine ⟨k2 + 1, gA, kA, by omega, by rw [HL2.out, List.length_append]; rfl, by go_num, ?_, GA.out, by omega, stA.out⟩
          rw [HL2.out, List.length_append]
          exact RA.out.congr (fun j hj => by rw [rtF_push L k2 j hj])
        case measure => simp [intOf] <;> omega
      · have HL2 := Lib.hid (show pwL p k (k2 + 1) = pwL p k k2 from pwL_no hx)
        have hx0 : cnT (vN p 1 k) 0 p k2 = 0 := by omega
        rw [hx0] at hcq
        clear hx hx0
        go_wp2
        go_roundw
        case rel => exact ⟨k2 + 1, g, cap, by omega, by rw [HL2.out], by go_num, by rw [HL2.out]; exact R1.out, hgg, hzr, HT.out⟩
        case measure => simp [intOf] <;> omega
    · obtain rfl : k2 = p := by omega
      have BB := HT.out.1
      go_wp2
      go_ret2
      refine ⟨_, _, rfl, ?_, BB⟩
      exact (Sl.ofRowF R1.out (fun j hj => pwF_inR k2 k k2 (by omega) j) (by unfold maxLen; omega)).wide (by omega) (Nat.le_refl _) (Nat.le_refl _)

set_option maxHeartbeats 2000000 in
theorem LeastNoPower_spec_ok (p k i : Nat) (hp : primeN p = true) (h1 : 1 ≤ k) (h2 : k ≤ 60) (hl : Lst p k i) (w : World) :
    Calls Tryd.prog 49 #[.int .i64 (p : Int), .int .i64 (k : Int)] w fun e w' => e = .returned (.tuple #[.int .i64 (i : Int), .int .i64 0]) ∧ Below w.heap.size w w' := by
  have HL := Lib.hid hl
  clear hl
  have hbd := primeN_bd hp
  have HP := Lib.hid hp
  have S1 := Lib.hid (one_madeS w (k : Int) (by unfold inR; omega) _ rfl)
  have HX := Lib.hid (ex_one (k := (k : Int)) (by omega) (by omega))
  have hal := alloc_bl w (.cells #[.int .i64 (k : Int)] 2)
  clear hp
  go_enter Tryd.func49, Tryd.ntmps49
  go_wp2_with (first
    | (go_at_call 73; refine (l08Code_yes p HP.out _ S1.out HX.out).mono ?_; rintro e w1 ⟨rfl, b1⟩; have hz1 := b1.size; have BL1 := hal.trans (b1.mono (show w.heap.size ≤ _ by simp)))
    | (go_at_call 75; refine (l08Values_1 p k (by omega) hbd.2 h2 _).mono ?_; rintro e w2 ⟨rfl, q2, b2, hz2⟩; have HZ2 := Lib.hid hz2; clear hz2))
  have hs1 := BL1.size
  have HQ := Lib.hid q2
  have BB := BL1.trans (b2.mono hs1)
  clear q2
  go_loopw [8] (fun s8 wr => ∃ x : Nat, x ≤ i ∧ s8 = .int .i64 (x : Int) ∧ wr = w2) (fun s8 _ => i + 1 - (intOf s8).toNat)
  case atStart => exact ⟨0, Nat.zero_le _, rfl, rfl⟩
  case round =>
    obtain ⟨x, hx, rfl, rfl⟩ := hrel
    have hip := HL.out.1
    have hxp : x < p := by omega
    have hcx := (HQ.out.known (by omega)).2.2.2.1 x hxp
    rw [Nat.zero_add] at hcx
    have hcb := cnT_bd (vN p 1 k) 0 p x
    by_cases hlt : x < i
    · have hne : (cnT (vN p 1 k) 0 p x == 0) = false := beq_eq_false_iff_ne.2 (HL.out.2.2 x hlt)
      go_wp2
      go_roundw
      case rel => exact ⟨x + 1, by omega, by go_num, by first | rfl | trivial⟩
      case measure => simp [intOf]; omega
    · obtain rfl : x = i := by omega
      have hne : (cnT (vN p 1 k) 0 p x == 0) = true := by rw [HL.out.2.1]; rfl
      go_wp2
      go_ret2
      exact ⟨rfl, BB⟩
set_option maxHeartbeats 2000000 in
theorem LeastNoPower_spec_all (p k : Nat) (hp : primeN p = true) (h1 : 1 ≤ k) (h2 : k ≤ 60) (hl : ∀ j, j < p → cnT (vN p 1 k) 0 p j ≠ 0) (w : World) :
    Calls Tryd.prog 49 #[.int .i64 (p : Int), .int .i64 (k : Int)] w fun e w' => e = .returned (.tuple #[.int .i64 0, .int .i64 0]) ∧ Below w.heap.size w w' := by
  have HL := Lib.hid hl
  clear hl
  have hbd := primeN_bd hp
  have HP := Lib.hid hp
  have S1 := Lib.hid (one_madeS w (k : Int) (by unfold inR; omega) _ rfl)
  have HX := Lib.hid (ex_one (k := (k : Int)) (by omega) (by omega))
  have hal := alloc_bl w (.cells #[.int .i64 (k : Int)] 2)
  clear hp
  go_enter Tryd.func49, Tryd.ntmps49
  go_wp2_with (first
    | (go_at_call 73; refine (l08Code_yes p HP.out _ S1.out HX.out).mono ?_; rintro e w1 ⟨rfl, b1⟩; have hz1 := b1.size; have BL1 := hal.trans (b1.mono (show w.heap.size ≤ _ by simp)))
    | (go_at_call 75; refine (l08Values_1 p k (by omega) hbd.2 h2 _).mono ?_; rintro e w2 ⟨rfl, q2, b2, hz2⟩; have HZ2 := Lib.hid hz2; clear hz2))
  have hs1 := BL1.size
  have HQ := Lib.hid q2
  have BB := BL1.trans (b2.mono hs1)
  clear q2
  go_loopw [8] (fun s8 wr => ∃ x : Nat, x ≤ p ∧ s8 = .int .i64 (x : Int) ∧ wr = w2) (fun s8 _ => p + 1 - (intOf s8).toNat)
  case atStart => exact ⟨0, Nat.zero_le _, rfl, rfl⟩
  case round =>
    obtain ⟨x, hx, rfl, rfl⟩ := hrel
    by_cases hlt : x < p
    · have hcx := (HQ.out.known (by omega)).2.2.2.1 x hlt
      rw [Nat.zero_add] at hcx
      have hcb := cnT_bd (vN p 1 k) 0 p x
      have hne : (cnT (vN p 1 k) 0 p x == 0) = false := beq_eq_false_iff_ne.2 (HL.out x hlt)
      go_wp2
      go_roundw
      case rel => exact ⟨x + 1, by omega, by go_num, by first | rfl | trivial⟩
      case measure => simp [intOf]; omega
    · obtain rfl : x = p := by omega
      go_wp2
      go_ret2
      exact ⟨rfl, BB⟩
end Go.Proofs.YtacffobbbcfbcaaDoor
