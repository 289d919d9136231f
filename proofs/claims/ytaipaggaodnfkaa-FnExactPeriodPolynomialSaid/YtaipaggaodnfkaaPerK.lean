/- MultiplyPeriods of the program and of the model. -/
import Derived.Test.YtaipaggaodnfkaaPerI
namespace Go.Proofs.Ytaipaggaodnfkaa
open Go.RowKit Go.ChangeShapes Go.Sort
set_option linter.unusedVariables false
set_option linter.unusedSimpArgs false

theorem productRows_any (p e : Nat) (hp : primeN p = true) (h1 : 1 ≤ e) (h2 : e ≤ 12) (w : World) :
    Calls Try.prog 76 #[.int .i64 (p : Int), .int .i64 (e : Int)] w fun r w' => ∃ R T, r = .returned (.slice (some ⟨R, 0, none⟩) e e) ∧ Tab w' T R e e (prodR p e) ∧ w.heap.size ≤ T ∧ w.heap.size ≤ R ∧ Below w.heap.size w w' := by
  have hb := primeN_bd hp
  have HP := Lib.hid hp
  obtain ⟨m, hm⟩ : ∃ m, p - 1 = m := ⟨_, rfl⟩
  have hpm : (p : Int) - 1 = (m : Int) := by omega
  have hwm : IntKind.i64.wrap (m : Int) = (m : Int) := IntWalk.i64_in _ (by omega)
  have hwn : IntKind.i64.wrap (-(m : Int)) = -(m : Int) := IntWalk.i64_in _ (by omega)
  have he0 : ¬ e = 0 := by omega
  have hq := quo_neg hm h1
  have hbl := last_bd (p := p) (e := e) hb.2
  have HFR := Lib.hid (fun w => followerRows_any p e (lastN p e) hp h1 h2 hbl.1 hbl.2 w)
  have HPR := Lib.hid (show prodR p e = rowN p e (lastN p e) from rfl)
  have hwl : IntKind.i64.wrap (lastN p e) = lastN p e := IntWalk.i64_in _ (by omega)
  clear hp hm
  generalize lastN p e = q at *
  go_enter Try.func76, Try.ntmps76
  go_wp2_with fail
  refine (HFR.out _).mono ?_
  rintro r w1 ⟨R, T, rfl, ht, g1, g2, b1⟩
  go_wp2
  go_ret
  exact ⟨R, T, rfl, by rw [HPR.out]; exact ht, g1, g2, b1⟩

theorem sums_two {p e : Int} {n n' : Nat} {f g : Nat → Int} (h : ¬ (SumP p e n f ∧ SumP p e n' g)) : ¬ (HcP p e ∧ ∀ i, i < 2 → (((fun i => if i = 0 then n else n' : Nat → Nat) i : Nat) : Int) = e ∧ Within ((fun i => if i = 0 then f else g : Nat → Nat → Int) i) ((fun i => if i = 0 then n else n' : Nat → Nat) i) 1000) :=
  fun h' => h ⟨⟨h'.1, (h'.2 0 (by omega)).1, (h'.2 0 (by omega)).2⟩, ⟨h'.1, (h'.2 1 (by omega)).1, (h'.2 1 (by omega)).2⟩⟩
theorem PrOk.sums {p n : Nat} {f g : Nat → Int} (hp : p ≤ 61) (hf : Within f n 1000) (hg : Within g n 1000) : PrOk n (prodR p n) f g :=
  ⟨fun i j hi hj => by
    have := mul_bd (A := 1000) (B := 1000) (hf i hi) (hg j hj) (by omega) (by omega)
    omega, fun i j _ _ => prodR_bd hp⟩
section
variable {o o' : Bool} {lo hi lo' hi' : Nat} {v v' : Value} {n n' : Nat} {f g : Nat → Int}
theorem MultiplyPeriods_impl_bad (p e : Int) (w : World) (ha : Sl o w lo hi v n f) (hb : Sl o' w lo' hi' v' n' g) (h : ¬ (SumP p e n f ∧ SumP p e n' g)) :
    Calls Try.prog 38 #[.int .i64 p, .int .i64 e, v, v'] w fun r w' => ∃ a' k', r = .returned (.tuple #[.slice a' 0 k', .int .i64 2]) ∧ Sl true w' w.heap.size w'.heap.size (.slice a' 0 k') 0 (fun _ => 0) ∧ Below w.heap.size w w' := by
  obtain ⟨a, cap, rfl⟩ := ha.shape
  obtain ⟨a', cap', rfl⟩ := hb.shape
  have HA := Lib.hid ha
  have HB := Lib.hid hb
  clear ha hb
  by_cases hf : SumP p e n f
  · have HG := Lib.hid (fun hg => h ⟨hf, hg⟩)
    obtain ⟨P, rfl, rfl, h1, h2, h3, h4, h5⟩ := hf.nat
    have HF := Lib.hid (fun (w : World) (hs : Sl o w lo hi (.slice a n cap) n f) => isPeriodSum_yes P n h1 h2 h3 h4 w hs h5)
    clear hf h h1 h4 h5
    go_enter Try.func38, Try.ntmps38
    go_wp2_with (first
      | (go_at_call 74; refine (HF.out _ HA.out).mono ?_; clear HF; rintro r w1 ⟨rfl, b1⟩; have hb1 := HB.out.keep b1 HB.out.size)
      | (go_at_call 74; refine (isPeriodSum_no (P : Int) (n : Int) _ hb1 HG.out).mono ?_; rintro r w2 ⟨rfl, b2⟩))
    go_ret2
    exact ⟨none, 0, rfl, Sl.nil _ _ _ (Nat.le_refl _) _, b1.trans (b2.mono b1.size)⟩
  · have H := Lib.hid hf
    clear hf h
    go_enter Try.func38, Try.ntmps38
    go_wp2_with (go_at_call 74; refine (isPeriodSum_no p e _ HA.out H.out).mono ?_; rintro r w1 ⟨rfl, b1⟩)
    go_ret2
    exact ⟨none, 0, rfl, Sl.nil _ _ _ (Nat.le_refl _) _, b1⟩

set_option maxHeartbeats 1000000 in
theorem MultiplyPeriods_impl_ok (p : Nat) (hp : primeN p = true) (h1 : 1 ≤ n) (h2 : n ≤ 12) (hd : (p - 1) % n = 0) (w : World) (ha : Sl o w lo hi v n f) (hb : Sl o' w lo' hi' v' n g) (hf : Within f n 1000) (hg : Within g n 1000) :
    Calls Try.prog 38 #[.int .i64 (p : Int), .int .i64 (n : Int), v, v'] w fun r w' => ∃ a' k', r = .returned (.tuple #[.slice a' n k', .int .i64 0]) ∧ Sl true w' w.heap.size w'.heap.size (.slice a' n k') n (prT n (prodR p n) f g) ∧ Below w.heap.size w w' := by
  have hb' := primeN_bd hp
  obtain ⟨a, cap, rfl⟩ := ha.shape
  obtain ⟨a', cap', rfl⟩ := hb.shape
  have HA := Lib.hid ha
  have HB := Lib.hid hb
  have HP := Lib.hid hp
  have HOK := Lib.hid (PrOk.sums hb'.2 hf hg)
  have HF := Lib.hid (fun (w : World) (hs : Sl o w lo hi (.slice a n cap) n f) => isPeriodSum_yes p n hp h1 h2 hd w hs hf)
  have HG := Lib.hid (fun (w : World) (hs : Sl o' w lo' hi' (.slice a' n cap') n g) => isPeriodSum_yes p n hp h1 h2 hd w hs hg)
  clear ha hb hp hd hf hg
  go_enter Try.func38, Try.ntmps38
  go_wp2_with (first
    | (go_at_call 74; refine (HF.out _ HA.out).mono ?_; clear HF; rintro r w1 ⟨rfl, b1⟩; have hb1 := HB.out.keep b1 HB.out.size; have ha1 := HA.out.keep b1 HA.out.size)
    | (go_at_call 74; refine (HG.out _ hb1).mono ?_; clear HG; rintro r w2 ⟨rfl, b2⟩; have hb2 := hb1.keep b2 hb1.size; have ha2 := ha1.keep b2 ha1.size)
    | (go_at_call 76; refine (productRows_any p n HP.out h1 h2 _).mono ?_; rintro r w3 ⟨R, T, rfl, ht, g1, g2, b3⟩; have hb3 := hb2.keep b3 hb2.size; have ha3 := ha2.keep b3 ha2.size; have hr3 := (ht.rwU h1 (by unfold maxLen; omega) (lo := w2.heap.size) g1 g2).rw)
    | (go_at_call 75; refine (periodProduct_any n h1 h2 _ hr3 ha3 hb3 HOK.out).mono ?_; rintro r w4 ⟨G, rfl, s4, b4⟩))
  go_ret2
  have z1 := b1.size; have z2 := b2.size; have z3 := b3.size
  exact ⟨_, _, rfl, s4.wide (by omega) (Nat.le_refl _) (Nat.le_refl _), b1.trans ((b2.trans ((b3.trans (b4.mono z3)).mono z2)).mono z1)⟩
theorem MultiplyPeriods_spec_bad (p e : Int) (w : World) (ha : Sl o w lo hi v n f) (hb : Sl o' w lo' hi' v' n' g) (h : ¬ (SumP p e n f ∧ SumP p e n' g)) :
    Calls Try.prog 39 #[.int .i64 p, .int .i64 e, v, v'] w fun r w' => ∃ a' k', r = .returned (.tuple #[.slice a' 0 k', .int .i64 2]) ∧ Sl true w' w.heap.size w'.heap.size (.slice a' 0 k') 0 (fun _ => 0) ∧ Below w.heap.size w w' := by
  have H := Lib.hid (sums_two h)
  obtain ⟨a, cap, rfl⟩ := ha.shape
  obtain ⟨a', cap', rfl⟩ := hb.shape
  have HA := Lib.hid ha
  have HB := Lib.hid hb
  clear ha hb h
  go_enter Try.func39, Try.ntmps39
  go_wp2_with (go_at_call 77; refine (l06Sum_no p e _ (by omega) (Heads.two HA.out HB.out _) H.out).mono ?_; rintro r w1 ⟨rfl, m1, rfl⟩)
  go_ret2
  exact ⟨none, 0, rfl, Sl.nil _ _ _ (Nat.le_refl _) _, below_drewN ((Below.refl w.heap.size w).alloc (Nat.le_refl _) _) _⟩

set_option maxHeartbeats 1000000 in
theorem MultiplyPeriods_spec_ok (p : Nat) (hp : primeN p = true) (h1 : 1 ≤ n) (h2 : n ≤ 12) (hd : (p - 1) % n = 0) (w : World) (ha : Sl o w lo hi v n f) (hb : Sl o' w lo' hi' v' n g) (hf : Within f n 1000) (hg : Within g n 1000) :
    Calls Try.prog 39 #[.int .i64 (p : Int), .int .i64 (n : Int), v, v'] w fun r w' => ∃ a' k', r = .returned (.tuple #[.slice a' n k', .int .i64 0]) ∧ Sl true w' w.heap.size w'.heap.size (.slice a' n k') n (prT n (prodR p n) f g) ∧ Below w.heap.size w w' := by
  have hb' := primeN_bd hp
  obtain ⟨a, cap, rfl⟩ := ha.shape
  obtain ⟨a', cap', rfl⟩ := hb.shape
  have HA := Lib.hid ha
  have HB := Lib.hid hb
  have HP := Lib.hid hp
  have HD := Lib.hid hd
  have HOK := Lib.hid (PrOk.sums hb'.2 hf hg)
  have HW := Lib.hid (show ∀ i, i < 2 → (fun i => if i = 0 then n else n : Nat → Nat) i = n ∧ Within ((fun i => if i = 0 then f else g : Nat → Nat → Int) i) n 1000 from fun i _ => ⟨by dsimp only; split <;> rfl, by dsimp only; split <;> assumption⟩)
  clear ha hb hp hd hf hg
  go_enter Try.func39, Try.ntmps39
  go_wp2_with (first
    | (go_at_call 77; refine (l06Sum_yes p n HP.out h1 h2 HD.out _ (by omega) (Heads.two HA.out HB.out _) HW.out).mono ?_; rintro r w1 ⟨rfl, m1, rfl⟩)
    | (go_at_call 78; refine (l06Times_any p n HP.out h1 h2 _ ((HA.out.alloc (.cells #[.slice a n cap, .slice a' n cap'] 33)).drewN m1) ((HB.out.alloc (.cells #[.slice a n cap, .slice a' n cap'] 33)).drewN m1) HOK.out).mono ?_; rintro r w4 ⟨G, rfl, s4, b4⟩))
  go_ret2
  exact ⟨_, _, rfl, s4.wide (by simp) (Nat.le_refl _) (Nat.le_refl _), (below_drewN ((Below.refl w.heap.size w).alloc (Nat.le_refl _) (.cells #[.slice a n cap, .slice a' n cap'] 33)) m1).trans (b4.mono (by simp))⟩
end
end Go.Proofs.Ytaipaggaodnfkaa
