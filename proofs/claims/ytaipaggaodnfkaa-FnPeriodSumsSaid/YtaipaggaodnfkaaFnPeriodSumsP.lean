/- FnPeriodSums holds for every code. -/
import Derived.Test.YtaipaggaodnfkaaPerI
import Derived.Test.YtaipaggaodnfkaaPerN
import Derived.Laws.Alloc2
import Derived.Test.YtaipaggaodnfkaaRep
import Derived.Test.YtaipaggaodnfkaaOwn
import Derived.Test.YtaipaggaodnfkaaPerB
import Derived.Test.YtaipaggaodnfkaaCopy
import Derived.Test.YtaipaggaodnfkaaState
import Derived.Deep.RegionHeld3
import Derived.BigQuiet
import Derived.Laws.BitsAllLaws
import Derived.Test.YtaipaggaodnfkaaRws
import Derived.Test.YtaipaggaodnfkaaAlg
import Derived.Deep.RegionLaw
import Derived.Test.YtaipaggaodnfkaaConv
import Derived.Test.YtaipaggaodnfkaaImg
import Derived.Test.YtaipaggaodnfkaaAdd
import Derived.Deep.DeepCutAuto
import Derived.Test.YtaipaggaodnfkaaRow
import Derived.Deep.AppendLies
import Derived.Laws.OwnMore
import Derived.OwnWalk
import Derived.Test.YtaipaggaodnfkaaTab
import Derived.Test.YtaipaggaodnfkaaInit
import Derived.Deep.CutRange
import Derived.ShutString
import Derived.ChangeOld
import Derived.Lib.SmallJoins
namespace Go.Proofs.Ytaipaggaodnfkaa
set_option linter.unusedVariables false
set_option linter.unusedSimpArgs false
section
open Go.RowKit Go.ChangeShapes Go.Sort
set_option linter.unusedVariables false
set_option linter.unusedSimpArgs false

theorem productRows_any (p e : Nat) (hp : primeN p = true) (h1 : 1 ≤ e) (h2 : e ≤ 12) (w : World) :
    Calls Try.prog 76 #[.int .i64 (p : Int), .int .i64 (e : Int)] w fun r w' => ∃ R T, r = .returned (.slice (some ⟨R, 0, none⟩) e e) ∧ Tab w' T R e e (prodR p e) ∧ w.heap.size ≤ T ∧ w.heap.size ≤ R ∧ Below w.heap.size w w' := by
  have hb := primeN_bd hp
  have HP := Lib.hid hp
  obtain ⟨m, hm⟩ : ∃ m, p - 1 = m := ⟨_, rfl⟩
  have hpm : (p : Int) - 1 = (m : Int) := by omega
  have hwm : IntKind.i64.wrap (m : Int) = (m : Int) := IntWalk.i64_in _ (by omega)
  have hwn : IntKind.i64.wrap (-(m : Int)) = -(m : Int) := IntWalk.i64_in _ (by omega)
  have he0 : ¬ e = 0 := by omega
  have hq := quo_neg hm h1
  have hbl := last_bd (p := p) (e := e) hb.2
  have HFR := Lib.hid (fun w => followerRows_any p e (lastN p e) hp h1 h2 hbl.1 hbl.2 w)
  have HPR := Lib.hid (show prodR p e = rowN p e (lastN p e) from rfl)
  have hwl : IntKind.i64.wrap (lastN p e) = lastN p e := IntWalk.i64_in _ (by omega)
  clear hp hm
  generalize lastN p e = q at *
  go_enter Try.func76, Try.ntmps76
  go_wp2_with fail
  refine (HFR.out _).mono ?_
  rintro r w1 ⟨R, T, rfl, ht, g1, g2, b1⟩
  go_wp2
  go_ret
  exact ⟨R, T, rfl, by rw [HPR.out]; exact ht, g1, g2, b1⟩

theorem sums_two {p e : Int} {n n' : Nat} {f g : Nat → Int} (h : ¬ (SumP p e n f ∧ SumP p e n' g)) : ¬ (HcP p e ∧ ∀ i, i < 2 → (((fun i => if i = 0 then n else n' : Nat → Nat) i : Nat) : Int) = e ∧ Within ((fun i => if i = 0 then f else g : Nat → Nat → Int) i) ((fun i => if i = 0 then n else n' : Nat → Nat) i) 1000) :=
  fun h' => h ⟨⟨h'.1, (h'.2 0 (by omega)).1, (h'.2 0 (by omega)).2⟩, ⟨h'.1, (h'.2 1 (by omega)).1, (h'.2 1 (by omega)).2⟩⟩
theorem PrOk.sums {p n : Nat} {f g : Nat → Int} (hp : p ≤ 61) (hf : Within f n 1000) (hg : Within g n 1000) : PrOk n (prodR p n) f g :=
  ⟨fun i j hi hj => by
    have := mul_bd (A := 1000) (B := 1000) (hf i hi) (hg j hj) (by omega) (by omega)
    omega, fun i j _ _ => prodR_bd hp⟩
section
variable {o o' : Bool} {lo hi lo' hi' : Nat} {v v' : Value} {n n' : Nat} {f g : Nat → Int}
theorem MultiplyPeriods_impl_bad (p e : Int) (w : World) (ha : Sl o w lo hi v n f) (hb : Sl o' w lo' hi' v' n' g) (h : ¬ (SumP p e n f ∧ SumP p e n' g)) :
    Calls Try.prog 38 #[.int .i64 p, .int .i64 e, v, v'] w fun r w' => ∃ a' k', r = .returned (.tuple #[.slice a' 0 k', .int .i64 2]) ∧ Sl true w' w.heap.size w'.heap.size (.slice a' 0 k') 0 (fun _ => 0) ∧ Below w.heap.size w w' := by
  obtain ⟨a, cap, rfl⟩ := ha.shape
  obtain ⟨a', cap', rfl⟩ := hb.shape
  have HA := Lib.hid ha
  have HB := Lib.hid hb
  clear ha hb
  by_cases hf : SumP p e n f
  · have HG := Lib.hid (fun hg => h ⟨hf, hg⟩)
    obtain ⟨P, rfl, rfl, h1, h2, h3, h4, h5⟩ := hf.nat
    have HF := Lib.hid (fun (w : World) (hs : Sl o w lo hi (.slice a n cap) n f) => isPeriodSum_yes P n h1 h2 h3 h4 w hs h5)
    clear hf h h1 h4 h5
    go_enter Try.func38, Try.ntmps38
    go_wp2_with (first
      | (go_at_call 74; refine (HF.out _ HA.out).mono ?_; clear HF; rintro r w1 ⟨rfl, b1⟩; have hb1 := HB.out.keep b1 HB.out.size)
      | (go_at_call 74; refine (isPeriodSum_no (P : Int) (n : Int) _ hb1 HG.out).mono ?_; rintro r w2 ⟨rfl, b2⟩))
    go_ret2
    exact ⟨none, 0, rfl, Sl.nil _ _ _ (Nat.le_refl _) _, b1.trans (b2.mono b1.size)⟩
  · have H := Lib.hid hf
    clear hf h
    go_enter Try.func38, Try.ntmps38
    go_wp2_with (go_at_call 74; refine (isPeriodSum_no p e _ HA.out H.out).mono ?_; rintro r w1 ⟨rfl, b1⟩)
    go_ret2
    exact ⟨none, 0, rfl, Sl.nil _ _ _ (Nat.le_refl _) _, b1⟩

set_option maxHeartbeats 1000000 in
theorem MultiplyPeriods_impl_ok (p : Nat) (hp : primeN p = true) (h1 : 1 ≤ n) (h2 : n ≤ 12) (hd : (p - 1) % n = 0) (w : World) (ha : Sl o w lo hi v n f) (hb : Sl o' w lo' hi' v' n g) (hf : Within f n 1000) (hg : Within g n 1000) :
    Calls Try.prog 38 #[.int .i64 (p : Int), .int .i64 (n : Int), v, v'] w fun r w' => ∃ a' k', r = .returned (.tuple #[.slice a' n k', .int .i64 0]) ∧ Sl true w' w.heap.size w'.heap.size (.slice a' n k') n (prT n (prodR p n) f g) ∧ Below w.heap.size w w' := by
  have hb' := primeN_bd hp
  obtain ⟨a, cap, rfl⟩ := ha.shape
  obtain ⟨a', cap', rfl⟩ := hb.shape
  have HA := Lib.hid ha
  have HB := Lib.hid hb
  have HP := Lib.hid hp
  have HOK := Lib.hid (PrOk.sums hb'.2 hf hg)
  have HF := Lib.hid (fun (w : World) (hs : Sl o w lo hi (.slice a n cap) n f) => isPeriodSum_yes p n hp h1 h2 hd w hs hf)
  have HG := Lib.hid (fun (w : World) (hs : Sl o' w lo' hi' (.slice a' n cap') n g) => isPeriodSum_yes p n hp h1 h2 hd w hs hg)
  clear ha hb hp hd hf hg
  go_enter Try.func38, Try.ntmps38
  go_wp2_with (first
    | (go_at_call 74; refine (HF.out _ HA.out).mono ?_; clear HF; rintro r w1 ⟨rfl, b1⟩; have hb1 := HB.out.keep b1 HB.out.size; have ha1 := HA.out.keep b1 HA.out.size)
    | (go_at_call 74; refine (HG.out _ hb1).mono ?_; clear HG; rintro r w2 ⟨rfl, b2⟩; have hb2 := hb1.keep b2 hb1.size; have ha2 := ha1.keep b2 ha1.size)
    | (go_at_call 76; refine (productRows_any p n HP.out h1 h2 _).mono ?_; rintro r w3 ⟨R, T, rfl, ht, g1, g2, b3⟩; have hb3 := hb2.keep b3 hb2.size; have ha3 := ha2.keep b3 ha2.size; have hr3 := (ht.rwU h1 (by unfold maxLen; omega) (lo := w2.heap.size) g1 g2).rw)
    | (go_at_call 75; refine (periodProduct_any n h1 h2 _ hr3 ha3 hb3 HOK.out).mono ?_; rintro r w4 ⟨G, rfl, s4, b4⟩))
  go_ret2
  have z1 := b1.size; have z2 := b2.size; have z3 := b3.size
  exact ⟨_, _, rfl, s4.wide (by omega) (Nat.le_refl _) (Nat.le_refl _), b1.trans ((b2.trans ((b3.trans (b4.mono z3)).mono z2)).mono z1)⟩
theorem MultiplyPeriods_spec_bad (p e : Int) (w : World) (ha : Sl o w lo hi v n f) (hb : Sl o' w lo' hi' v' n' g) (h : ¬ (SumP p e n f ∧ SumP p e n' g)) :
    Calls Try.prog 39 #[.int .i64 p, .int .i64 e, v, v'] w fun r w' => ∃ a' k', r = .returned (.tuple #[.slice a' 0 k', .int .i64 2]) ∧ Sl true w' w.heap.size w'.heap.size (.slice a' 0 k') 0 (fun _ => 0) ∧ Below w.heap.size w w' := by
  have H := Lib.hid (sums_two h)
  obtain ⟨a, cap, rfl⟩ := ha.shape
  obtain ⟨a', cap', rfl⟩ := hb.shape
  have HA := Lib.hid ha
  have HB := Lib.hid hb
  clear ha hb h
  go_enter Try.func39, Try.ntmps39
  go_wp2_with (go_at_call 77; refine (l06Sum_no p e _ (by omega) (Heads.two HA.out HB.out _) H.out).mono ?_; rintro r w1 ⟨rfl, m1, rfl⟩)
  go_ret2
  exact ⟨none, 0, rfl, Sl.nil _ _ _ (Nat.le_refl _) _, below_drewN ((Below.refl w.heap.size w).alloc (Nat.le_refl _) _) _⟩

set_option maxHeartbeats 1000000 in
theorem MultiplyPeriods_spec_ok (p : Nat) (hp : primeN p = true) (h1 : 1 ≤ n) (h2 : n ≤ 12) (hd : (p - 1) % n = 0) (w : World) (ha : Sl o w lo hi v n f) (hb : Sl o' w lo' hi' v' n g) (hf : Within f n 1000) (hg : Within g n 1000) :
    Calls Try.prog 39 #[.int .i64 (p : Int), .int .i64 (n : Int), v, v'] w fun r w' => ∃ a' k', r = .returned (.tuple #[.slice a' n k', .int .i64 0]) ∧ Sl true w' w.heap.size w'.heap.size (.slice a' n k') n (prT n (prodR p n) f g) ∧ Below w.heap.size w w' := by
  have hb' := primeN_bd hp
  obtain ⟨a, cap, rfl⟩ := ha.shape
  obtain ⟨a', cap', rfl⟩ := hb.shape
  have HA := Lib.hid ha
  have HB := Lib.hid hb
  have HP := Lib.hid hp
  have HD := Lib.hid hd
  have HOK := Lib.hid (PrOk.sums hb'.2 hf hg)
  have HW := Lib.hid (show ∀ i, i < 2 → (fun i => if i = 0 then n else n : Nat → Nat) i = n ∧ Within ((fun i => if i = 0 then f else g : Nat → Nat → Int) i) n 1000 from fun i _ => ⟨by dsimp only; split <;> rfl, by dsimp only; split <;> assumption⟩)
  clear ha hb hp hd hf hg
  go_enter Try.func39, Try.ntmps39
  go_wp2_with (first
    | (go_at_call 77; refine (l06Sum_yes p n HP.out h1 h2 HD.out _ (by omega) (Heads.two HA.out HB.out _) HW.out).mono ?_; rintro r w1 ⟨rfl, m1, rfl⟩)
    | (go_at_call 78; refine (l06Times_any p n HP.out h1 h2 _ ((HA.out.alloc (.cells #[.slice a n cap, .slice a' n cap'] 33)).drewN m1) ((HB.out.alloc (.cells #[.slice a n cap, .slice a' n cap'] 33)).drewN m1) HOK.out).mono ?_; rintro r w4 ⟨G, rfl, s4, b4⟩))
  go_ret2
  exact ⟨_, _, rfl, s4.wide (by simp) (Nat.le_refl _) (Nat.le_refl _), (below_drewN ((Below.refl w.heap.size w).alloc (Nat.le_refl _) (.cells #[.slice a n cap, .slice a' n cap'] 33)) m1).trans (b4.mono (by simp))⟩
end
end

section
open Go.RowKit Go.ChangeShapes Go.Sort
set_option linter.unusedVariables false
set_option linter.unusedSimpArgs false

/-- The rows when those ahead of a are done, and of a's numbers those ahead of m. -/
def tbQ (e : Nat) (R : Nat → Nat → Int) (i L : Nat) (F : Nat → Nat → Int) (a m : Nat) (x t : Nat) : Int :=
  if x < a then stepF e R i L F x t else if x = a then (if t < m then stepF e R i L F a t else (if 1 ≤ a then F (a - 1) t else 0)) else if x = a + 1 ∧ t < m then F a t else 0
section
variable {e : Nat} {R : Nat → Nat → Int} {i L : Nat} {F : Nat → Nat → Int} {a : Nat}
theorem tbQ_start (x t : Nat) : tbQ e R i L F 0 0 x t = 0 := by simp [tbQ]
theorem tbQ_end {x t : Nat} (ht : t < e) : tbQ e R i L F a e x t = tbQ e R i L F (a + 1) 0 x t := by
  by_cases h1 : x < a
  · simp [tbQ, h1, show x < a + 1 by omega]
  · by_cases h2 : x = a
    · subst h2; simp [tbQ, ht]
    · by_cases h3 : x = a + 1
      · subst h3; simp [tbQ, ht, show ¬ a + 1 < a by omega]
      · simp [tbQ, h1, h2, h3, show ¬ x < a + 1 by omega]
theorem tbQ_all {x t : Nat} (hx : x < L + 1) : tbQ e R i L F L 0 x t = stepF e R i L F x t := by
  by_cases h1 : x < L
  · simp [tbQ, h1]
  · obtain rfl : x = L := by omega
    simp [tbQ, stepF]
theorem tbQ_at (m : Nat) : tbQ e R i L F a m a m = if 1 ≤ a then F (a - 1) m else 0 := by simp [tbQ]
theorem tbQ_next (m : Nat) : tbQ e R i L F a m (a + 1) m = 0 := by simp [tbQ, show ¬ a + 1 < a by omega]
theorem tbQ_step {m x t : Nat} (haL : a < L) : tbQ e R i L F a (m + 1) x t = if x = a + 1 ∧ t = m then F a m else if x = a ∧ t = m then (if 1 ≤ a then F (a - 1) m else 0) - prT e R (unitN i) (F a) m else tbQ e R i L F a m x t := by
  by_cases h1 : x < a
  · simp [tbQ, h1, show ¬ x = a + 1 by omega, show ¬ x = a by omega]
  · by_cases h2 : x = a
    · subst h2
      by_cases h3 : t = m
      · subst h3; simp [tbQ, stepF, haL]
      · by_cases h4 : t < m
        · simp [tbQ, h3, h4, show t < m + 1 by omega]
        · simp [tbQ, h3, h4, show ¬ t < m + 1 by omega]
    · by_cases h5 : x = a + 1
      · subst h5
        have h6 : ¬ a + 1 < a := by omega
        by_cases h3 : t = m
        · subst h3; simp [tbQ, h6]
        · by_cases h4 : t < m
          · simp [tbQ, h3, h4, h6, show t < m + 1 by omega]
          · simp [tbQ, h3, h4, h6, show ¬ t < m + 1 by omega]
      · simp [tbQ, h1, h2, h5]
end
section
variable {oR oL : Bool} {loR hiR loL hiL : Nat} {V VL : Value} {R F : Nat → Nat → Int}
set_option maxRecDepth 100000 in
set_option maxHeartbeats 8000000 in
theorem timesPeriodRoot_any (e i L : Nat) (h1 : 1 ≤ e) (h2 : e ≤ 12) (hi : i < e) (hL1 : 1 ≤ L) (hL2 : L ≤ 12) (w : World) (hr : Rw oR w loR hiR V e (fun _ => e) R) (hl : Rw oL w loL hiL VL L (fun _ => e) F) (hR : ∀ i j, i < e → j < e → -120 ≤ R i j ∧ R i j ≤ 120) (hF : ∀ a t, a < L → t < e → -10000000000 ≤ F a t ∧ F a t ≤ 10000000000) :
    Calls Try.prog 81 #[V, VL, .int .i64 (i : Int)] w fun r w' => ∃ RR TT, r = .returned (.slice (some ⟨RR, 0, none⟩) (L + 1) (L + 1)) ∧ Tab w' TT RR (L + 1) e (stepF e R i L F) ∧ w.heap.size ≤ TT ∧ w.heap.size ≤ RR ∧ Below w.heap.size w w' := by
  obtain ⟨gR, offR, capR, uR, rfl, hru0⟩ := hr.at h1
  obtain ⟨gL, offL, capL, uL, rfl, hlu0⟩ := hl.at hL1
  have sr := hr.size; have sl := hl.size
  have hlm := hl.len
  unfold maxLen at hlm
  have HOK := Lib.hid (fun a (ha : a < L) => (show PrOk e R (unitN i) (F a) from ⟨fun j s hj hs => by
    have := hF a s ha hs
    unfold unitN
    split
    · rw [Int.one_mul]; omega
    · rw [Int.zero_mul]; omega, hR⟩))
  have HF := Lib.hid hF
  obtain ⟨L1, hL3⟩ : ∃ L1, L + 1 = L1 := ⟨_, rfl⟩
  have HL3 := Lib.hid hL3
  have hL4 : (L : Int) + 1 = (L1 : Int) := by omega
  have hL5 : L1 ≤ 13 := by omega
  rw [hL3]
  have hmk := run_make_row' (P := Try.prog) 33 2 (.int .i64 0) 8 Try.underlying33 Try.info2 rfl .i64 .i64 e (by omega) (by omega)
  have q0 := Sl.made w (madeCells #[.int .i64 0] e) 2 e e (fun _ => 0) (Nat.le_refl _) (by unfold maxLen; omega) (fun j hj => by simp [inR]) (fun j hj => by simp [madeCells_at _ _ _ hj])
  have ci := (q0.known (by omega)).2.2.2.1 i hi
  have fi := (q0.known (by omega)).2.2.2.2 rfl i
  rw [Nat.zero_add] at ci
  have q1 := (q0.store0 hi (x := 1) (by unfold inR; omega)).congr (f' := unitN i) (fun j hj => rfl)
  have hwL : IntKind.i64.wrap (L1 : Int) = (L1 : Int) := IntWalk.i64_in _ (by omega)
  have B1 := ((Below.refl w.heap.size w).alloc (Nat.le_refl _) (.cells (madeCells #[.int .i64 0] e) 2)).setCell (p := ⟨w.heap.size, i, none⟩) (Nat.le_refl _) (.int .i64 1)
  have z1 : ((w.alloc (.cells (madeCells #[.int .i64 0] e) 2)).setCell ⟨w.heap.size, i, none⟩ (.int .i64 1)).heap.size = w.heap.size + 1 := by simp
  rw [World.setCell_alloc_new] at q1 B1 z1
  have hru1 := hru0.keep B1 sr
  have hlu1 := hlu0.keep B1 sl
  clear hL3 hr hl hru0 hlu0 q0 hR hF
  go_enter Try.func81, Try.ntmps81
  go_wp2_with fail
  refine (newRows_any L1 e (by omega) (by omega) h1 (by omega) _).mono ?_
  rintro r w2 ⟨rfl, ht, b2⟩
  rw [z1] at ht b2
  have PS := Lib.hid (q1.keep b2 (Nat.le_refl _))
  have RU := Lib.hid (hru1.keep b2 (by omega))
  have LU := Lib.hid (hlu1.keep b2 (by omega))
  have TB := Lib.hid (ht.congr (G := tbQ e R i L F 0 0) h1 (fun x t _ _ => tbQ_start x t))
  have BB := Lib.hid (B1.trans (b2.mono (by omega)))
  have z2 := ht.size
  clear q1 ci fi hmk ht b2 B1 hru1 hlu1
  go_wp2
  go_loopw [28] (fun s28 wr => ∃ a : Nat, a ≤ L ∧ s28 = .int .i64 (a : Int) ∧ Tab wr (w.heap.size + 1) (w.heap.size + 1 + 1) L1 e (tbQ e R i L F a 0) ∧ Sl true wr w.heap.size (w.heap.size + 1) (.slice (some ⟨w.heap.size, 0, none⟩) e e) e (unitN i) ∧ RwU oR wr loR hiR gR offR capR e uR (fun _ => e) R ∧ RwU oL wr loL hiL gL offL capL L uL (fun _ => e) F ∧ Below w.heap.size w wr) (fun s28 _ => L - (intOf s28).toNat)
  case atStart => exact ⟨0, Nat.zero_le _, rfl, TB.out, PS.out, RU.out, LU.out, BB.out⟩
  case round =>
    clear TB PS RU LU BB
    obtain ⟨a, ha, rfl, htb, hps, hru, hlu, hbb⟩ := hrel
    have TB := Lib.hid htb; have PS := Lib.hid hps; have RU := Lib.hid hru; have LU := Lib.hid hlu; have BB := Lib.hid hbb
    clear htb hps hru hlu hbb
    by_cases hlt : a < L
    · have chd := LU.out.head hlt
      have hrow := LU.out.row hlt
      obtain ⟨gs, offs, cs, hus, _⟩ := hrow.at h1
      rw [hus] at chd hrow
      have HUS := Lib.hid hus
      have HRO := Lib.hid hrow
      have hzs := BB.out.size
      clear hus hrow
      go_wp2_with fail
      refine (periodProduct_any e h1 h2 _ RU.out.rw PS.out HRO.out (HOK.out a hlt)).mono ?_
      rintro r w3 ⟨G, rfl, s3, b3⟩
      have zt := TB.out.size
      have zp := PS.out.size
      have zr := RU.out.size
      have zl := LU.out.size
      have TB3 := Lib.hid (TB.out.keep b3)
      have PS3 := Lib.hid (PS.out.keep b3 zp)
      have RU3 := Lib.hid (RU.out.keep b3 zr)
      have LU3 := Lib.hid (LU.out.keep b3 zl)
      have BB3 := Lib.hid (BB.out.trans (b3.mono hzs))
      have S3 := Lib.hid s3
      clear chd s3 b3 TB PS RU LU BB HRO
      go_wp2
      go_loopw [38] (fun s38 wq => ∃ m : Nat, m ≤ e ∧ s38 = .int .i64 (m : Int) ∧ Tab wq (w.heap.size + 1) (w.heap.size + 1 + 1) L1 e (tbQ e R i L F a m) ∧ Sl true wq wr.heap.size w3.heap.size (.slice (some ⟨G, 0, none⟩) e e) e (prT e R (unitN i) (F a)) ∧ Sl true wq w.heap.size (w.heap.size + 1) (.slice (some ⟨w.heap.size, 0, none⟩) e e) e (unitN i) ∧ RwU oR wq loR hiR gR offR capR e uR (fun _ => e) R ∧ RwU oL wq loL hiL gL offL capL L uL (fun _ => e) F ∧ Below w.heap.size w wq) (fun s38 _ => e - (intOf s38).toNat)
      case atStart => exact ⟨0, Nat.zero_le _, rfl, TB3.out, S3.out, PS3.out, RU3.out, LU3.out, BB3.out⟩
      case round =>
        clear TB3 S3 PS3 RU3 LU3 BB3
        obtain ⟨m, hm, rfl, htb, hs, hps, hru, hlu, hbb⟩ := hrel
        have TB := Lib.hid htb; have PS := Lib.hid hps; have RU := Lib.hid hru; have LU := Lib.hid hlu; have BB := Lib.hid hbb; have S3 := Lib.hid hs
        clear htb hps hru hlu hbb hs
        by_cases hltm : m < e
        · have HLA := HL3.out
          have hrow := LU.out.row hlt
          rw [HUS.out] at hrow
          have cS := (hrow.known (by omega)).2.2.2.1 m hltm
          have cG := (S3.out.known (by omega)).2.2.2.1 m hltm
          rw [Nat.zero_add] at cG
          have cR := TB.out.head (show a < L1 by omega)
          have cT := ((TB.out.row h1 (show a < L1 by omega)).known (by omega)).2.2.2.1 m hltm
          have fT := ((TB.out.row h1 (show a < L1 by omega)).known (by omega)).2.2.2.2 rfl (a * e + m)
          rw [tbQ_at] at cT
          have hfa := HF.out a m hlt hltm
          have hfb : -10000000000 ≤ (if 1 ≤ a then F (a - 1) m else 0) ∧ (if 1 ≤ a then F (a - 1) m else 0) ≤ 10000000000 := by
            split
            · exact HF.out (a - 1) m (by omega) hltm
            · omega
          have hpb := (HOK.out a hlt).all h2 m
          have HST := Lib.hid (fun x t => tbQ_step (e := e) (R := R) (i := i) (L := L) (F := F) (a := a) (m := m) (x := x) (t := t) hlt)
          have HNX := Lib.hid (tbQ_next (e := e) (R := R) (i := i) (L := L) (F := F) (a := a) m)
          generalize hP : prT e R (unitN i) (F a) m = P at *
          generalize hV : (if 1 ≤ a then F (a - 1) m else 0 : Int) = V at *
          generalize hY : F a m = Y at *
          have hw1 : IntKind.i64.wrap (V - P) = V - P := IntWalk.i64_in _ (by omega)
          have hw2 : IntKind.i64.wrap Y = Y := IntWalk.i64_in _ (by omega)
          have T1 := TB.out.store h1 (i := a) (j := m) (by omega) hltm (x := V - P) (by unfold inR; omega)
          have L2 := LU.out.keep ((Below.refl w.heap.size _).setCell (p := ⟨w.heap.size + 1, a * e + m, none⟩) (Nat.le_succ _) (.int .i64 (V - P))) sl
          have hrow2 := L2.row hlt
          rw [HUS.out] at hrow2
          have cS2 := (hrow2.known (by omega)).2.2.2.1 m hltm
          rw [hY] at cS2
          have cR2 := T1.head (show a + 1 < L1 by omega)
          have cT2 := ((T1.row h1 (show a + 1 < L1 by omega)).known (by omega)).2.2.2.1 m hltm
          have fT2 := ((T1.row h1 (show a + 1 < L1 by omega)).known (by omega)).2.2.2.2 rfl ((a + 1) * e + m)
          rw [if_neg (by omega), HNX.out] at cT2
          have T2 := Lib.hid (T1.store h1 (i := a + 1) (j := m) (by omega) hltm (x := Y) (by unfold inR; omega))
          have LQ := Lib.hid L2
          clear hrow T1 L2 hrow2 hP hV hY HLA
          go_wp2
          go_region
          go_wp2
          have FR := ((Frame.refl (w.heap.size + 1) (w.heap.size + 1 + 1) wr).setCell (p := ⟨w.heap.size + 1, a * e + m, none⟩) (Nat.le_refl _) (Nat.lt_succ_self _) (.int .i64 (V - P))).setCell (p := ⟨w.heap.size + 1, (a + 1) * e + m, none⟩) (Nat.le_refl _) (Nat.lt_succ_self _) (.int .i64 Y)
          have KF := ((Below.refl w.heap.size wr).setCell (p := ⟨w.heap.size + 1, a * e + m, none⟩) (Nat.le_succ _) (.int .i64 (V - P))).setCell (p := ⟨w.heap.size + 1, (a + 1) * e + m, none⟩) (Nat.le_succ _) (.int .i64 Y)
          go_roundw
          case rel => exact ⟨m + 1, by omega, by go_num, (T2.out.congr h1 (fun x t _ _ => HST.out x t)).keep (Below.refl _ _).drew, (S3.out.keepF FR (.inr (by omega))).drew, (PS.out.keepF FR (.inl (Nat.le_refl _))).drew, (RU.out.keep KF sr).drew, (LU.out.keep KF sl).drew, (BB.out.trans KF).drew⟩
          case measure => simp [intOf]; omega
        · obtain rfl : m = e := by omega
          go_wp2
          go_roundw
          case rel => exact ⟨a + 1, by omega, by go_num, TB.out.congr h1 (fun x t _ ht => (tbQ_end ht).symm), PS.out, RU.out, LU.out, BB.out⟩
          case measure => simp [intOf]; omega
    · obtain rfl : a = L := by omega
      have zt := TB.out.size
      go_wp2
      go_ret
      exact ⟨_, _, rfl, TB.out.congr h1 (fun x t hx _ => (tbQ_all (by have := HL3.out; omega)).symm), by omega, by omega, BB.out⟩
end
end

section
open Go.RowKit Go.ChangeShapes Go.Sort
set_option linter.unusedVariables false
set_option linter.unusedSimpArgs false

/-- One row in a new block. -/
theorem RwU.one {w : World} {lo hi n : Nat} {u : Value} {f : Nat → Int} (hs : Sl true w lo hi u n f) (hl : lo ≤ w.heap.size) : RwU true (w.alloc (.cells #[u] 33)) lo (w.heap.size + 1) w.heap.size 0 1 1 (fun _ => u) (fun _ => n) (fun _ => f) := by
  have hb := Box.made w #[u] 33 [u] (fun j v h => by simpa using h)
  have hz := hs.size
  refine ⟨by simp, Nat.le_refl _, by decide, hl, Nat.lt_succ_self _, fun i hi' => ⟨?_, (hs.alloc (.cells #[u] 33)).wide (Nat.le_refl _) (by omega) (by simp)⟩, fun _ => ⟨fun k => hb.2.2 k, fun i hi' => hs.offB (.inr hz), fun i j h1 h2 h3 => by omega⟩⟩
  obtain rfl : i = 0 := by omega
  exact hb.2.1 0 u rfl

theorem PeriodPolynomial_impl_bad (p e : Int) (h : ¬ HcP p e) (w : World) :
    Calls Try.prog 50 #[.int .i64 p, .int .i64 e] w fun r w' => ∃ a' k', r = .returned (.tuple #[.slice a' 0 k', .int .i64 2]) ∧ Sl true w' w.heap.size w'.heap.size (.slice a' 0 k') 0 (fun _ => 0) ∧ Below w.heap.size w w' := by
  have H := Lib.hid h
  clear h
  go_enter Try.func50, Try.ntmps50
  go_wp2_with (go_at_call 61; refine (haveClasses_no p e H.out _).mono ?_; rintro r w1 ⟨rfl, b1⟩)
  go_ret2
  exact ⟨none, 0, rfl, Sl.nil _ _ _ (Nat.le_refl _) _, b1⟩
set_option maxRecDepth 100000 in
set_option maxHeartbeats 8000000 in
theorem PeriodPolynomial_impl_ok (p e : Nat) (hp : primeN p = true) (h1 : 1 ≤ e) (h2 : e ≤ 12) (hd : (p - 1) % e = 0) (w : World) :
    Calls Try.prog 50 #[.int .i64 (p : Int), .int .i64 (e : Int)] w fun r w' => ∃ a' k', r = .returned (.tuple #[.slice a' (e + 1) k', .int .i64 0]) ∧ Sl true w' w.heap.size w'.heap.size (.slice a' (e + 1) k') (e + 1) (fun a => -polyF p e e a 0) ∧ Below w.heap.size w w' := by
  have hb' := primeN_bd hp
  have HP := Lib.hid hp
  have HD := Lib.hid hd
  clear hp hd
  go_enter Try.func50, Try.ntmps50
  go_wp2_with (first
    | (go_at_call 61; refine (haveClasses_yes p e HP.out h1 h2 HD.out _).mono ?_; rintro r w1 ⟨rfl, b1⟩
       have s0 := Sl.made w1 #[.int .i64 (-1)] 2 1 1 (fun _ => -1) (Nat.le_refl _) (by decide) (fun k _ => by unfold inR; omega) (fun k hk => by
         obtain rfl : k = 0 := by omega
         rfl))
    | (go_at_call 80; refine (Repeat_one e h1 h2 _ s0).mono ?_; rintro r w2 ⟨G, rfl, s2, b2⟩
       simp only [World.size_alloc] at s2 b2
       have z2 := b2.size
       have ru2 := RwU.one s2 (by simpa using z2))
    | (go_at_call 76; refine (productRows_any p e HP.out h1 h2 _).mono ?_; rintro r w3 ⟨R, T, rfl, ht, g1, g2, b3⟩))
  simp only [World.size_alloc] at g1 g2 b3 z2
  have z3 := b3.size
  simp only [World.size_alloc] at z3
  have z1 := b1.size
  obtain ⟨uT, hrt⟩ : ∃ uT, RwU true w3 w.heap.size w3.heap.size R 0 e e uT (fun _ => e) (prodR p e) := ⟨_, ht.rwU h1 (by unfold maxLen; omega) (by omega) (by omega)⟩
  have RT := Lib.hid hrt
  have LS := Lib.hid (((ru2.keep b3 (Nat.le_refl _)).congr (fun _ _ => rfl) (F' := polyF p e 0) (fun a t ha ht => by
    obtain rfl : a = 0 := by omega
    exact polyF_start ht)).wide (lo' := w.heap.size) (hi' := w3.heap.size) (by omega) z3 (Nat.le_refl _))
  have c1 := ((Below.refl w1.heap.size w1).alloc (Nat.le_refl _) (.cells #[.int .i64 (-1)] 2)).trans (b2.mono (by omega))
  have c2 := c1.alloc (by omega) (.cells #[.slice (some ⟨G, 0, none⟩) e e] 33)
  have c3 := c2.trans (b3.mono (by omega))
  have BB := Lib.hid (b1.trans (c3.mono z1))
  have HBD := Lib.hid (fun i (hi : i ≤ e) a t => (show -10000000000 ≤ polyF p e i a t ∧ polyF p e i a t ≤ 10000000000 from g2_bd ((poly_ok HP.out h1 h2 HD.out).2.2.2.1 i hi) a t))
  clear s0 s2 b2 ru2 ht b3 b1 hrt g1 g2 c1 c2 c3
  go_loopw [6, 24] (fun s6 s24 wr => ∃ (i L g off cap : Nat) (u : Nat → Value), i ≤ e ∧ L = i + 1 ∧ s24 = .int .i64 (i : Int) ∧ s6 = .slice (some ⟨g, off, none⟩) L cap ∧ RwU true wr w.heap.size wr.heap.size g off cap L u (fun _ => e) (polyF p e i) ∧ RwU true wr w.heap.size w3.heap.size R 0 e e uT (fun _ => e) (prodR p e) ∧ Below w.heap.size w wr) (fun _ s24 _ => e - (intOf s24).toNat)
  case atStart => exact ⟨0, 1, _, _, _, _, Nat.zero_le _, rfl, rfl, rfl, LS.out, RT.out, BB.out⟩
  case round =>
    clear LS RT BB
    rename World => wo
    obtain ⟨i, L, g, off, cap, u, hi, hL, rfl, rfl, hls, hrt, hbb⟩ := hrel
    have LS := Lib.hid hls; have RT := Lib.hid hrt; have BB := Lib.hid hbb; have HL := Lib.hid hL
    have hL13 : L ≤ 13 := by omega
    have hL1 : 1 ≤ L := by omega
    clear hls hrt hbb
    by_cases hlt : i < e
    · clear hL
      go_wp2_with fail
      refine (timesPeriodRoot_any e i L h1 h2 hlt hL1 (by have := HL.out; omega) _ RT.out.rw LS.out.rw (fun i j _ _ => prodR_bd hb'.2) (fun a t _ _ => HBD.out i hi a t)).mono ?_
      rintro r w4 ⟨RR, TT, rfl, ht4, g3, g4, b4⟩
      have z4 := RT.out.size
      have z5 := BB.out.size
      have RT4 := Lib.hid (RT.out.keep b4 z4)
      have LS4 := Lib.hid ((ht4.rwU h1 (by unfold maxLen; omega) (lo := w.heap.size) (by omega) (by omega)).congr (fun _ _ => rfl) (F' := polyF p e (i + 1)) (fun a t ha ht => by
        rw [polyF_step hlt (by have := HL.out; omega) ht, HL.out]))
      have BB4 := Lib.hid (BB.out.trans (b4.mono z5))
      clear ht4 b4 g3 g4 LS RT BB
      go_wp2
      go_roundw
      case rel => exact ⟨i + 1, L + 1, _, _, _, _, by omega, by have := HL.out; omega, by go_num, rfl, LS4.out, RT4.out, BB4.out⟩
      case measure => simp [intOf]; omega
    · obtain ⟨LL, hLL⟩ : ∃ LL, LL = polyF p e e := ⟨_, rfl⟩
      have hie : i = e := by omega
      rw [hie] at hL
      have ls2 : RwU true wo w.heap.size wo.heap.size g off cap L u (fun _ => e) LL := by
        have := LS.out
        rw [hie] at this
        rw [hLL]; exact this
      have LS' := Lib.hid ls2
      have hBL := fun a t => HBD.out e (Nat.le_refl e) a t
      rw [← hLL] at hBL
      have HBL := Lib.hid hBL
      have HLL := Lib.hid hLL
      have HL2 := Lib.hid hL
      have hmk := run_make_row' (P := Try.prog) 33 2 (.int .i64 0) 8 Try.underlying33 Try.info2 rfl .i64 .i64 L (by omega) (by omega)
      have q0 := Lib.hid (Sl.made wo (madeCells #[.int .i64 0] L) 2 L L (fun _ => 0) (Nat.le_refl _) (by unfold maxLen; omega) (fun j hj => by simp [inR]) (fun j hj => by simp [madeCells_at _ _ _ hj]))
      clear hLL hBL LS ls2 HL hL hie RT
      go_wp2
      clear hmk
      have Q0 := Lib.hid (q0.out.congr (f' := fun j => if j < 0 then -LL j 0 else 0) (fun j hj => by rw [if_neg (by omega)]))
      have zw := BB.out.size
      have LS2 := Lib.hid (LS'.out.alloc (.cells (madeCells #[.int .i64 0] L) 2))
      have BB2 := Lib.hid (BB.out.alloc zw (.cells (madeCells #[.int .i64 0] L) 2))
      clear q0 LS' BB
      go_loopw [37] (fun s37 wq => ∃ a : Nat, a ≤ L ∧ s37 = .int .i64 (a : Int) ∧ Sl true wq wo.heap.size (wo.heap.size + 1) (.slice (some ⟨wo.heap.size, 0, none⟩) L L) L (fun j => if j < a then -LL j 0 else 0) ∧ RwU true wq w.heap.size wo.heap.size g off cap L u (fun _ => e) LL ∧ Below w.heap.size w wq) (fun s37 _ => L - (intOf s37).toNat)
      case atStart => exact ⟨0, Nat.zero_le _, rfl, Q0.out, LS2.out, BB2.out⟩
      case round =>
        clear Q0 LS2 BB2
        obtain ⟨a, ha, rfl, hq, hls, hbb⟩ := hrel
        have HQ := Lib.hid hq; have LS := Lib.hid hls; have BB := Lib.hid hbb
        clear hq hls hbb
        by_cases hla : a < L
        · have chd := LS.out.head hla
          obtain ⟨gs, offs, cs, hus, _, _, _, _, hcs, _⟩ := (LS.out.row hla).at (by omega)
          rw [hus] at chd
          have cS := hcs 0 (by omega)
          rw [Nat.add_zero] at cS
          have ct := (HQ.out.known (by omega)).2.2.2.1 a hla
          rw [Nat.zero_add, if_neg (by omega)] at ct
          have ft := (HQ.out.known (by omega)).2.2.2.2 rfl a
          have hbl := HBL.out a 0
          have HST := Lib.hid (fun j => (show (if j < a + 1 then -LL j 0 else 0) = if j = a then -LL a 0 else if j < a then -LL j 0 else 0 from by
            by_cases hj : j = a
            · subst hj; simp
            · rw [if_neg hj]
              by_cases hj2 : j < a
              · rw [if_pos hj2, if_pos (by omega)]
              · rw [if_neg hj2, if_neg (by omega)]))
          have HIN := Lib.hid (show inR (-LL a 0) by unfold inR; omega)
          generalize hV : LL a 0 = V at *
          have hwV : IntKind.i64.wrap (-V) = -V := IntWalk.i64_in _ (by omega)
          clear hcs hus hV
          go_wp2
          go_roundw
          case rel => exact ⟨a + 1, by omega, by go_num, (HQ.out.store0 hla HIN.out).congr (fun j _ => HST.out j), LS.out.keepF ((Frame.refl wo.heap.size (wo.heap.size + 1) _).setCell (p := ⟨wo.heap.size, a, none⟩) (Nat.le_refl _) (Nat.lt_succ_self _) _) (.inl (Nat.le_refl _)), BB.out.setCell (p := ⟨wo.heap.size, a, none⟩) zw _⟩
          case measure => simp [intOf]; omega
        · have hqs := HQ.out.size
          have haL : a = L := by omega
          have HA := Lib.hid haL
          clear haL
          go_wp2
          go_ret2
          rw [← HL2.out]
          refine ⟨_, _, rfl, ?_, BB.out⟩
          refine (HQ.out.congr (fun j hj => ?_)).wide zw hqs (Nat.le_refl _)
          rw [if_pos (by have := HA.out; omega), HLL.out]
end

section
set_option linter.unusedVariables false

/-- The trace of the power j. -/
def trF (p e j : Nat) : Int := trL e (powT (prodT p e) e j)
theorem trF_eq (p e j : Nat) : trF p e j = -(sumN e (powF p e j)) := rfl
theorem trsT_len (T : List (List Int)) (e : Nat) : ∀ k, (trsT T e k).length = k
  | 0 => rfl
  | k + 1 => by show (trsT T e k ++ [_]).length = k + 1; rw [List.length_append, trsT_len T e k]; rfl
theorem trsT_get (T : List (List Int)) (e : Nat) : ∀ {k j : Nat}, j < k → (trsT T e k).getD j 0 = trL e (powT T e j)
  | k + 1, j, h => by
    show (trsT T e k ++ [_]).getD j 0 = _
    rw [List.getD_eq_getElem?_getD]
    by_cases hj : j < k
    · rw [List.getElem?_append_left (by rw [trsT_len]; exact hj), ← List.getD_eq_getElem?_getD]
      exact trsT_get T e hj
    · obtain rfl : j = k := by omega
      rw [List.getElem?_append_right (by rw [trsT_len]; exact Nat.le_refl _), trsT_len, Nat.sub_self]
      rfl
theorem newtT_len (S : List Int) : ∀ k, (newtT S k).length = k + 1
  | 0 => rfl
  | k + 1 => by show (newtT S k ++ [_]).length = k + 2; rw [List.length_append, newtT_len S k]; rfl
theorem newtT_keep (S : List Int) (k j : Nat) (h : j ≤ k) : ∀ d, (newtT S (k + d)).getD j 0 = (newtT S k).getD j 0
  | 0 => rfl
  | d + 1 => by
    show (newtT S (k + d) ++ [_]).getD j 0 = _
    rw [List.getD_eq_getElem?_getD, List.getElem?_append_left (by rw [newtT_len]; omega), ← List.getD_eq_getElem?_getD]
    exact newtT_keep S k j h d
theorem newtT_new (S : List Int) (k : Nat) : (newtT S (k + 1)).getD (k + 1) 0 = newt S (k + 1) (newtT S k) := by
  show (newtT S k ++ [_]).getD (k + 1) 0 = _
  rw [List.getD_eq_getElem?_getD, List.getElem?_append_right (by rw [newtT_len]; exact Nat.le_refl _), newtT_len, Nat.sub_self]
  rfl
/-- The sum with signs j. -/
def cofF (p e j : Nat) : Int := (cofN p e).getD j 0
theorem cofF_zero (p e : Nat) : cofF p e 0 = 1 := by
  have := newtT_keep (trsT (prodT p e) e e) 0 0 (Nat.le_refl _) e
  rw [Nat.zero_add] at this
  exact this
theorem cofF_step {p e k : Nat} (hk : k < e) : cofF p e (k + 1) = (sumN (k + 1) (fun i => -(trF p e i * cofF p e (k - i)))).tdiv ((k : Int) + 1) := by
  obtain ⟨d, hd⟩ : ∃ d, e = k + 1 + d := ⟨e - (k + 1), by omega⟩
  obtain ⟨S, hS⟩ : ∃ S, trsT (prodT p e) e e = S := ⟨_, rfl⟩
  have hc : ∀ j, j ≤ k → cofF p e j = (newtT S k).getD j 0 := fun j hj => by
    unfold cofF cofN
    rw [hS]
    have := newtT_keep S k j hj (d + 1)
    rw [show k + (d + 1) = e by omega] at this
    exact this
  have h1 : cofF p e (k + 1) = newt S (k + 1) (newtT S k) := by
    unfold cofF cofN
    rw [hS]
    have := newtT_keep S (k + 1) (k + 1) (Nat.le_refl _) d
    rw [← hd] at this
    rw [this]; exact newtT_new S k
  rw [h1]
  unfold newt
  rw [show ((k + 1 : Nat) : Int) = (k : Int) + 1 from rfl]
  congr 1
  refine sumN_congr (fun i hi => ?_)
  rw [hc _ (by omega), show k + 1 - (i + 1) = k - i by omega, ← hS, trsT_get _ _ (by omega)]
  rfl
def inC (x : Int) : Bool := decide (-100000000000000000 ≤ x) && decide (x ≤ 100000000000000000)
def polyChk2 (p e : Nat) : Bool :=
  fLL (prodT p e) (fun T => fLi (powT T e 0) (fun P0 => runQ T e (fun S => runN S (fun C => (List.range e).all (fun k => (List.range (k + 1)).all (fun i => inC (S.getD i 0 * C.getD (k - i) 0)))) e 0 [1]) e P0 []))
theorem poly_all2 : ((List.range 62).all fun p => !primeN p || (List.range 13).all fun e => decide (e = 0) || decide ((p - 1) % e ≠ 0) || polyChk2 p e) = true := by decide +kernel
theorem poly_ok2 {p e : Nat} (hp : primeN p = true) (h1 : 1 ≤ e) (h2 : e ≤ 12) (hd : (p - 1) % e = 0) : ∀ k i, k < e → i ≤ k → -100000000000000000 ≤ trF p e i * cofF p e (k - i) ∧ trF p e i * cofF p e (k - i) ≤ 100000000000000000 := by
  have h := pe_of' poly_all2 hp h1 h2 hd
  unfold polyChk2 at h
  rw [fLL_eq, fLi_eq] at h
  obtain ⟨a1, a2, a3⟩ := runQ_ok e 0 h
  simp only [Nat.zero_add] at a1 a2 a3
  obtain ⟨b1, b2⟩ := runN_ok e 0 a3
  simp only [Nat.zero_add] at b1 b2
  intro k i hk hi
  have h9 := all_range (all_range b2 k hk) i (by omega)
  unfold inC at h9
  simp only [Bool.and_eq_true, decide_eq_true_eq] at h9
  rw [trsT_get _ _ (by omega)] at h9
  exact h9
theorem trF_bd {p e : Nat} (h : bdL (trsT (prodT p e) e e)) {j : Nat} (hj : j < e) : -10000000000 ≤ trF p e j ∧ trF p e j ≤ 10000000000 := by
  have := getD_bd h j
  rw [trsT_get _ _ hj] at this
  exact this
theorem cofF_bd {p e : Nat} (h : ∀ k, k ≤ e → bdL (newtT (trsT (prodT p e) e e) k)) (j : Nat) : -10000000000 ≤ cofF p e j ∧ cofF p e j ≤ 10000000000 := getD_bd (h e (Nat.le_refl _)) j
theorem powF_bd {p e : Nat} (h : ∀ k, k ≤ e → bdL (powT (prodT p e) e k)) {k : Nat} (hk : k ≤ e) (t : Nat) : -10000000000 ≤ powF p e k t ∧ powF p e k t ≤ 10000000000 := getD_bd (h k hk) t
end

section
open Go.RowKit Go.ChangeShapes Go.Sort
set_option linter.unusedVariables false
set_option linter.unusedSimpArgs false

theorem Row.keepW {w w' : World} {base g cap n : Nat} {f : Nat → Int} (h : Row w base g cap n f) (hb : Below w.heap.size w w') : Row w' base g cap n f :=
  World.ownsRow.kept (row := none) h ⟨hb.os, hb.tape, hb.output, hb.size, fun k hk _ => hb.block k hk⟩ (.inr (fun e => by cases e))
theorem Row.one1 (w : World) (base : Nat) (x : Int) (hb : base ≤ w.heap.size) : Row (w.alloc (.cells #[.int .i64 x] 2)) base w.heap.size 1 1 (fun _ => x) :=
  ⟨by simp, .inr ⟨w.heap.size, 1, #[.int .i64 x], rfl, hb, heap_alloc_new w _, Nat.le_refl _, by decide, by simp, by simp⟩⟩
theorem Row.keepX {w w' : World} {base g cap n b : Nat} {f : Nat → Int} (h : Row w base g cap n f) (hf : Frame b (b + 1) w w') (hne : g ≠ b) : Row w' base g cap n f :=
  World.ownsRow.kept (row := some b) h ⟨hf.os, hf.tape, hf.output, hf.size, fun k hk hk' => hf.block k hk (by have : k ≠ b := fun e => hk' (by rw [e]); omega)⟩ (.inr (fun e => hne (Option.some.inj e)))
set_option maxRecDepth 100000 in
set_option maxHeartbeats 8000000 in
theorem l06Polynomial_any (p e : Nat) (hp : primeN p = true) (h1 : 1 ≤ e) (h2 : e ≤ 12) (hd : (p - 1) % e = 0) (w : World) :
    Calls Try.prog 82 #[.int .i64 (p : Int), .int .i64 (e : Int)] w fun r w' => ∃ a' k', r = .returned (.slice a' (e + 1) k') ∧ Sl true w' w.heap.size w'.heap.size (.slice a' (e + 1) k') (e + 1) (fun a => (cofN p e).getD (e - a) 0) ∧ Below w.heap.size w w' := by
  have hb' := primeN_bd hp
  have HP := Lib.hid hp
  have HPO := Lib.hid (poly_ok hp h1 h2 hd)
  have HD := Lib.hid hd
  clear hp hd
  have hmk := run_make_row' (P := Try.prog) 33 2 (.int .i64 0) 8 Try.underlying33 Try.info2 rfl .i64 .i64 e (by omega) (by omega)
  go_enter Try.func82, Try.ntmps82
  go_wp2_with fail
  go_region
  all_goals
    clear hmk
    first
    | (obtain ⟨W, hW⟩ : ∃ W, ((w.alloc (.cells #[] 2)).alloc (.cells (madeCells #[.int .i64 0] e) 2)).drew = W := ⟨_, rfl⟩
       rw [hW]
       have fS : Row W w.heap.size w.heap.size 0 0 (fun _ => 0) := by rw [← hW]; exact (Row.made w w.heap.size (fun _ => 0) (Nat.le_refl _)).alloc _
       have fP : Sl true W (w.heap.size + 1) (w.heap.size + 1 + 1) (.slice (some ⟨w.heap.size + 1, 0, none⟩) e e) e (fun _ => 0) := by
         have := (Sl.made (w.alloc (.cells #[] 2)) (madeCells #[.int .i64 0] e) 2 e e (fun _ => 0) (Nat.le_refl _) (by unfold maxLen; omega) (fun j hj => by simp [inR]) (fun j hj => by simp [madeCells_at _ _ _ hj])).drew
         rw [hW] at this
         simpa using this
       obtain ⟨bP, hbP⟩ : ∃ b, w.heap.size + 1 = b := ⟨_, rfl⟩
       rw [hbP] at fP ⊢
       obtain ⟨bS, hbS⟩ : ∃ b, w.heap.size = b := ⟨_, rfl⟩
       rw [show Row W w.heap.size w.heap.size = Row W w.heap.size bS by rw [hbS]] at fS
       have fB : Below w.heap.size w W := by rw [← hW]; exact (((Below.refl w.heap.size w).alloc (Nat.le_refl _) _).alloc (by simp) _).drew
       have fD : w.heap.size ≤ bP ∧ w.heap.size ≤ bS ∧ (bS < bP ∨ bP < bS) := by omega
       rw [hbS]
       clear hW hbS hbP)
    | (obtain ⟨W, hW⟩ : ∃ W, ((w.alloc (.cells (madeCells #[.int .i64 0] e) 2)).alloc (.cells #[] 2)).drew = W := ⟨_, rfl⟩
       rw [hW]
       have fS : Row W w.heap.size (w.heap.size + 1) 0 0 (fun _ => 0) := by
         have := Row.made (w.alloc (.cells (madeCells #[.int .i64 0] e) 2)) w.heap.size (fun _ => 0) (by simp)
         simp only [World.size_alloc] at this
         rw [← hW]
         exact this
       have fP : Sl true W w.heap.size (w.heap.size + 1) (.slice (some ⟨w.heap.size, 0, none⟩) e e) e (fun _ => 0) := by
         have := ((Sl.made w (madeCells #[.int .i64 0] e) 2 e e (fun _ => 0) (Nat.le_refl _) (by unfold maxLen; omega) (fun j hj => by simp [inR]) (fun j hj => by simp [madeCells_at _ _ _ hj])).alloc (.cells #[] 2)).drew
         rw [hW] at this
         exact this
       obtain ⟨bS, hbS⟩ : ∃ b, w.heap.size + 1 = b := ⟨_, rfl⟩
       rw [hbS] at fS ⊢
       obtain ⟨bP, hbP⟩ : ∃ b, w.heap.size = b := ⟨_, rfl⟩
       rw [hbP] at fP
       have fB : Below w.heap.size w W := by rw [← hW]; exact (((Below.refl w.heap.size w).alloc (Nat.le_refl _) _).alloc (by simp) _).drew
       have fD : w.heap.size ≤ bP ∧ w.heap.size ≤ bS ∧ (bS < bP ∨ bP < bS) := by omega
       rw [hbP]
       clear hW hbS hbP)
    have c0 := (fP.known (by omega)).2.2.2.1 0 (by omega)
    have z0 := (fP.known (by omega)).2.2.2.2 rfl 0
    rw [Nat.zero_add] at c0
    have P1 := (fP.store0 (i := 0) (by omega) (x := 1) (by unfold inR; omega)).congr (f' := unitN 0) (fun j hj => rfl)
    have zP := fP.size
    have S1 := fS.keepX ((Frame.refl bP (bP + 1) W).setCell (p := ⟨bP, 0, none⟩) (Nat.le_refl _) (Nat.lt_succ_self _) (.int .i64 1)) (by omega)
    have B1 := fB.setCell (p := ⟨bP, 0, none⟩) fD.1 (.int .i64 1)
    have PP := Lib.hid P1; have SS := Lib.hid S1; have BB := Lib.hid B1
    clear fP fS fB P1 S1 B1
    go_wp2_with (go_at_call 93; refine (l01Own_any _ PP.out (by omega)).mono ?_; rintro r w3 ⟨a1, k1, rfl, s1, b1⟩)
    have hS3 := SS.out.lt
    obtain ⟨lo1, hlo1⟩ : ∃ lo1, (W.setCell ⟨bP, 0, none⟩ (.int .i64 1)).heap.size = lo1 := ⟨_, rfl⟩
    obtain ⟨hi1, hhi1⟩ : ∃ hi1, w3.heap.size = hi1 := ⟨_, rfl⟩
    have zS := PP.out.size
    have RA := Lib.hid ((SS.out.keepW b1).congr (f' := trF p e) (fun j hj => absurd hj (Nat.not_lt_zero _)))
    have PA := Lib.hid ((PP.out.keep b1 zS).congr (f' := powF p e 0) (fun j hj => powF_start hj))
    have BA := Lib.hid (BB.out.trans (b1.mono BB.out.size))
    rw [hhi1] at s1
    rw [hlo1] at s1 hS3 zS
    have OA := Lib.hid s1
    clear s1 b1 SS PP BB c0 z0 zP hlo1 hhi1
    have HTR := Lib.hid (fun k (hk : k < e) => trF_bd HPO.out.2.1 hk)
    have HPW := Lib.hid (fun k (hk : k ≤ e) t => powF_bd HPO.out.1 hk t)
    obtain ⟨g1, off1, k1', hv1, _⟩ := OA.out.at h1
    obtain ⟨rfl, rfl⟩ : a1 = some ⟨g1, off1, none⟩ ∧ k1 = k1' := by cases hv1; exact ⟨rfl, rfl⟩
    clear hv1
    go_loopw [5, 6, 8] (fun s5 s6 s8 wr => ∃ (k g cap lo hi : Nat), k ≤ e ∧ s5 = .slice (some ⟨g, 0, none⟩) k cap ∧ s8 = .int .i64 ((k : Int) + 1) ∧ Row wr w.heap.size g cap k (trF p e) ∧ (k < e → Sl true wr lo hi s6 e (powF p e k) ∧ (hi ≤ g ∨ g < lo)) ∧ Sl true wr lo1 hi1 (.slice (some ⟨g1, off1, none⟩) e k1) e (unitN 0) ∧ (hi1 ≤ g ∨ g < lo1) ∧ Below w.heap.size w wr) (fun _ _ s8 _ => e + 1 - (intOf s8).toNat)
    case atStart => exact ⟨0, _, _, bP, bP + 1, Nat.zero_le _, rfl, rfl, RA.out, fun _ => ⟨PA.out, by omega⟩, OA.out, .inr (by omega), BA.out⟩
    case round =>
      clear RA PA OA BA
      rename World => wo
      obtain ⟨k, g, cap, lo, hi, hk, rfl, rfl, hr, hpw, hon, hdo, hbb⟩ := hrel
      have RA := Lib.hid hr; have OA := Lib.hid hon; have BA := Lib.hid hbb
      have hlt' := hr.lt
      have hzo := hbb.size
      clear hr hon hbb
      by_cases hlt : k < e
      · obtain ⟨hpw2, hdp⟩ := hpw hlt
        clear hpw
        obtain ⟨g2, off2, cap2, rfl, _, _, _, _, hcp, _⟩ := hpw2.at h1
        have PA := Lib.hid hpw2
        have HC := Lib.hid hcp
        have zp2 := hpw2.size
        clear hpw2 hcp
        go_wp2
        go_loopw [9, 10] (fun s9 s10 wq => ∃ i : Nat, i ≤ e ∧ s9 = .int .i64 (-(sumN i (powF p e k))) ∧ s10 = .int .i64 (i : Int) ∧ wo = wq) (fun _ s10 _ => e - (intOf s10).toNat)
        case atStart => exact ⟨0, Nat.zero_le _, rfl, rfl, rfl⟩
        case round =>
          obtain ⟨i, hi', rfl, rfl, hww⟩ := hrel
          subst hww
          by_cases hli : i < e
          · have c := HC.out i hli
            have hb := HPW.out k hk i
            have hs := sumN_abs (C := 10000000000) (m := i) (fun j _ => HPW.out k hk j)
            have HN := Lib.hid (show sumN (i + 1) (powF p e k) = sumN i (powF p e k) + powF p e k i from rfl)
            generalize sumN i (powF p e k) = A at *
            generalize powF p e k i = V at *
            go_wp2
            go_roundw
            case rel => exact ⟨i + 1, by omega, by rw [HN.out]; congr 1; omega, by go_num, by first | rfl | trivial⟩
            case measure => simp [intOf]; omega
          · have hie : i = e := by omega
            rw [hie, show -(sumN e (powF p e k)) = trF p e k from rfl]
            clear hie hli hi'
            by_cases hk1 : k + 1 < e
            · have HOK := Lib.hid (show PrOk e (prodR p e) (powF p e k) (unitN 0) from ⟨fun i j _ _ => by
                have := HPW.out k hk i
                unfold unitN
                split
                · rw [Int.mul_one]; omega
                · rw [Int.mul_zero]; omega, fun i j _ _ => prodR_bd hb'.2⟩)
              have hk1I : (k : Int) + 1 < (e : Int) := by omega
              go_wp2_with (first
                | (at_builtin; refine wpList_push rfl (.tmp 40) (.tmp 42) rfl rfl w.heap.size g cap k (trF p e) rfl (RA.out.alloc _) wo.heap.size (trF p e k) rfl (heap_alloc_new wo _) (by omega) ?_; intro gA kA wA rowA grA orA ltA
                   have fA := Frame.ofGrown grA
                   have PB := Lib.hid ((PA.out.alloc (.cells #[.int .i64 (trF p e k)] 2)).keepF fA (by omega))
                   have OB := Lib.hid ((OA.out.alloc (.cells #[.int .i64 (trF p e k)] 2)).keepF fA (by omega))
                   have BB := Lib.hid ((BA.out.alloc hzo (.cells #[.int .i64 (trF p e k)] 2)).trans (fA.below (B := w.heap.size) hlt'.1 (by simp only [World.size_alloc]; omega)))
                   have RB := Lib.hid rowA
                   have zA := grA.size
                   simp only [World.size_alloc] at orA zA
                   clear rowA grA fA)
                | (go_at_call 78; refine (l06Times_any p e HP.out h1 h2 _ PB.out OB.out HOK.out).mono ?_; rintro r w4 ⟨G, rfl, s4, b4⟩
                   have hzO := OB.out.size; have hzo1 := OA.out.size
                   have RC := Lib.hid (RB.out.keepW b4); have OC := Lib.hid (OB.out.keep b4 hzO); have BC := Lib.hid (BB.out.trans (b4.mono (by omega)))
                   have PC := Lib.hid s4
                   clear RB OB BB PB s4 b4))
              go_roundw
              case rel => exact ⟨k + 1, gA, kA, wA.heap.size, w4.heap.size, by omega, rfl, by go_num, RC.out.congr (fun j hj => by
                  split
                  · rfl
                  · rw [show j = k by omega]), fun _ => ⟨PC.out.congr (fun t ht => powF_step h1 ht), by omega⟩, OC.out, by omega, BC.out⟩
              case measure => simp [intOf]; omega
            · have hk1I : ¬ (k : Int) + 1 < (e : Int) := by omega
              go_wp2_with (at_builtin; refine wpList_push rfl (.tmp 40) (.tmp 42) rfl rfl w.heap.size g cap k (trF p e) rfl (RA.out.alloc _) wo.heap.size (trF p e k) rfl (heap_alloc_new wo _) (by omega) ?_; intro gA kA wA rowA grA orA ltA
                           have fA := Frame.ofGrown grA
                           have OB := Lib.hid ((OA.out.alloc (.cells #[.int .i64 (trF p e k)] 2)).keepF fA (by omega))
                           have BB := Lib.hid ((BA.out.alloc hzo (.cells #[.int .i64 (trF p e k)] 2)).trans (fA.below (B := w.heap.size) hlt'.1 (by simp only [World.size_alloc]; omega)))
                           have RB := Lib.hid rowA
                           have hzo1 := OA.out.size
                           simp only [World.size_alloc] at orA
                           clear rowA grA fA)
              go_roundw
              case rel => exact ⟨k + 1, gA, kA, 0, 0, by omega, rfl, by go_num, RB.out.congr (fun j hj => by
                  split
                  · rfl
                  · rw [show j = k by omega]), fun h' => absurd h' hk1, OB.out, by omega, BB.out⟩
              case measure => simp [intOf]; omega
      · clear hpw
        have hke : k = e := by omega
        rw [hke] at RA ⊢
        have SA := Lib.hid (Sl.ofRowF RA.out (fun j hj => by have := HTR.out j hj; unfold inR; omega) (by unfold maxLen; omega))
        have z1 := BA.out.size
        clear RA OA hke hlt hk
        have HPD := Lib.hid (fun m i (hm : m < e) (hi : i ≤ m) => poly_ok2 HP.out h1 h2 HD.out m i hm hi)
        have HCB := Lib.hid (fun j => cofF_bd HPO.out.2.2.1 j)
        have hgo := hlt'.2
        have RL := Lib.hid ((Row.one1 wo wo.heap.size 1 (Nat.le_refl _)).congr (f' := cofF p e) (fun j hj => by
          obtain rfl : j = 0 := by omega
          exact (cofF_zero p e).symm))
        have SL := Lib.hid (SA.out.alloc (.cells #[.int .i64 1] 2))
        have BL := Lib.hid (BA.out.alloc z1 (.cells #[.int .i64 1] 2))
        clear SA BA
        go_wp2
        go_loopw [11, 12] (fun s11 s12 wq => ∃ (m g' cap' : Nat), m ≤ e ∧ s11 = .slice (some ⟨g', 0, none⟩) (m + 1) cap' ∧ s12 = .int .i64 ((m : Int) + 1) ∧ Row wq wo.heap.size g' cap' (m + 1) (cofF p e) ∧ Sl true wq w.heap.size wo.heap.size (.slice (some ⟨g, 0, none⟩) e cap) e (trF p e) ∧ Below w.heap.size w wq) (fun _ s12 _ => e + 1 - (intOf s12).toNat)
        case atStart => exact ⟨0, _, _, Nat.zero_le _, rfl, rfl, RL.out, SL.out, BL.out⟩
        case round =>
          clear RL SL BL
          rename World => wm
          obtain ⟨m, g', cap', hm, rfl, rfl, hrl, hsl, hbl⟩ := hrel
          have RL := Lib.hid hrl; have SL := Lib.hid hsl; have BL := Lib.hid hbl
          have hrl' := hrl.lt
          have hzm := hbl.size
          clear hrl hsl hbl
          by_cases hlm : m < e
          · obtain ⟨FF, hFF⟩ : ∃ FF : Nat → Int, ∀ i, FF i = -(trF p e i * cofF p e (m - i)) := ⟨_, fun _ => rfl⟩
            have HFF := Lib.hid hFF
            have HFB := Lib.hid (fun i (hi : i ≤ m) => (show -100000000000000000 ≤ FF i ∧ FF i ≤ 100000000000000000 by
              have := HPD.out m i hlm hi
              rw [hFF]; omega))
            have HCS := Lib.hid (show cofF p e (m + 1) = (sumN (m + 1) FF).tdiv ((m : Int) + 1) by
              rw [cofF_step hlm, sumN_congr (fun i _ => (hFF i).symm)])
            clear hFF
            go_wp2
            go_loopw [13, 14] (fun s13 s14 wq => ∃ i : Nat, i ≤ m + 1 ∧ s13 = .int .i64 (sumN i FF) ∧ s14 = .int .i64 ((i : Int) + 1) ∧ Row wq wo.heap.size g' cap' (m + 1) (cofF p e) ∧ Sl true wq w.heap.size wo.heap.size (.slice (some ⟨g, 0, none⟩) e cap) e (trF p e) ∧ Below w.heap.size w wq) (fun _ s14 _ => m + 2 - (intOf s14).toNat)
            case atStart => exact ⟨0, Nat.zero_le _, rfl, rfl, RL.out, SL.out, BL.out⟩
            case round =>
              clear RL SL BL
              obtain ⟨i, hi', rfl, rfl, hrl, hsl, hbl⟩ := hrel
              have RL := Lib.hid hrl; have SL := Lib.hid hsl; have BL := Lib.hid hbl
              have hrl2 := hrl.lt
              have hzq := hbl.size
              clear hrl hsl hbl
              by_cases hli : i < m + 1
              · have hidx : ((m : Int) + 1 - ((i : Int) + 1)) = ((m - i : Nat) : Int) := by omega
                have cS := (SL.out.known (by omega)).2.2.2.1 i (by omega)
                have cL := ((Sl.ofRowF RL.out (fun j hj => by have := HCB.out j; unfold inR; omega) (by unfold maxLen; omega)).known (by omega)).2.2.2.1 (m - i) (by omega)
                rw [Nat.zero_add] at cS cL
                have hb := HPD.out m i hlm (by omega)
                have hs := sumN_abs (C := 100000000000000000) (m := i) (fun j hj => HFB.out j (by omega))
                have HN := Lib.hid (show sumN (i + 1) FF = sumN i FF - trF p e i * cofF p e (m - i) by
                  show sumN i FF + FF i = _
                  rw [HFF.out]; omega)
                obtain ⟨Z, hZ⟩ : ∃ Z, trF p e i * cofF p e (m - i) = Z := ⟨_, rfl⟩
                rw [hZ] at hb HN
                have hwZ : IntKind.i64.wrap (trF p e i * cofF p e (m - i)) = Z := by rw [hZ]; exact IntWalk.i64_in _ (by omega)
                clear hZ
                generalize sumN i FF = A at *
                go_wp2
                go_region
                go_wp2
                go_roundw
                case rel => exact ⟨i + 1, by omega, by rw [HN.out], by go_num, RL.out, SL.out.drew, BL.out.drew⟩
                case measure => simp [intOf]; omega
              · have hie : i = m + 1 := by omega
                rw [hie]
                have hs := sumN_abs (C := 100000000000000000) (m := m + 1) (fun j hj => HFB.out j (by omega))
                have hcs := HCS.out
                have hcb := HCB.out (m + 1)
                generalize sumN (m + 1) FF = A at *
                have HNW := Lib.hid (show ∃ C1, cofF p e (m + 1) = C1 from ⟨_, rfl⟩)
                obtain ⟨C1, hC1⟩ := HNW.out
                rw [hC1] at hcs hcb
                have hq : A.tdiv ((m : Int) + 1) = C1 := hcs.symm
                have HC1 := Lib.hid hC1
                have hnz : ¬ ((m : Int) + 1 = 0) := by omega
                clear hie hli hi' hcs HCS HNW hC1
                go_wp2_with (at_builtin; refine wpList_push rfl (.tmp 77) (.tmp 81) rfl rfl wo.heap.size g' cap' (m + 1) (cofF p e) rfl (RL.out.alloc _) wr.heap.size C1 rfl (heap_alloc_new wr _) (by omega) ?_; intro gA kA wA rowA grA orA ltA
                             have fA := Frame.ofGrown grA
                             have SB := Lib.hid ((SL.out.alloc (.cells #[.int .i64 C1] 2)).keepF fA (by omega))
                             have BB := Lib.hid ((BL.out.alloc hzq (.cells #[.int .i64 C1] 2)).trans (fA.below (B := w.heap.size) (by omega) (by simp only [World.size_alloc]; omega)))
                             have RB := Lib.hid rowA
                             clear rowA grA fA)
                go_roundw
                case rel => exact ⟨m + 1, gA, kA, by omega, rfl, by go_num, RB.out.congr (fun j hj => by
                    split
                    · rfl
                    · rw [show j = m + 1 by omega]; exact HC1.out.symm), SB.out, BB.out⟩
                case measure => simp [intOf]; omega
          · have hme : m = e := by omega
            rw [hme] at RL ⊢
            have LL := Lib.hid (Sl.ofRowF RL.out (fun j hj => by have := HCB.out j; unfold inR; omega) (by unfold maxLen; omega))
            have R0 := Lib.hid (Row.made wm wm.heap.size (fun a => cofF p e (e - a)) (Nat.le_refl _))
            have L0 := Lib.hid (LL.out.alloc (.cells #[] 2))
            have B0 := Lib.hid (BL.out.alloc hzm (.cells #[] 2))
            clear RL SL BL LL hme hlm hm
            go_wp2
            go_loopw [15, 16] (fun s15 s16 wq => ∃ (c g'' cap'' : Nat), c ≤ e + 1 ∧ s15 = .slice (some ⟨g'', 0, none⟩) c cap'' ∧ s16 = .int .i64 ((e : Int) - (c : Int)) ∧ Row wq wm.heap.size g'' cap'' c (fun a => cofF p e (e - a)) ∧ Sl true wq wo.heap.size wm.heap.size (.slice (some ⟨g', 0, none⟩) (e + 1) cap') (e + 1) (cofF p e) ∧ Below w.heap.size w wq) (fun _ s16 _ => (intOf s16 + 1).toNat)
            case atStart => exact ⟨0, _, _, Nat.zero_le _, rfl, by simp, R0.out, L0.out, B0.out⟩
            case round =>
              clear R0 L0 B0
              obtain ⟨c, g'', cap'', hc, rfl, rfl, hr0, hl0, hb0⟩ := hrel
              have R0 := Lib.hid hr0; have L0 := Lib.hid hl0; have B0 := Lib.hid hb0
              have hr0' := hr0.lt
              have hz0 := hb0.size
              clear hr0 hl0 hb0
              by_cases hce : c < e + 1
              · obtain ⟨x, hx⟩ : ∃ x, e - c = x := ⟨_, rfl⟩
                have hxI : (e : Int) - (c : Int) = (x : Int) := by omega
                have hxe : x < e + 1 := by omega
                have cL := (L0.out.known (by omega)).2.2.2.1 x hxe
                rw [Nat.zero_add] at cL
                have HX := Lib.hid hx
                have HXI := Lib.hid hxI
                rw [hxI]
                have hx0 : (0 : Int) ≤ (x : Int) := by omega
                clear hx hxI
                go_wp2_with (at_builtin; refine wpList_push rfl (.tmp 89) (.tmp 94) rfl rfl wm.heap.size g'' cap'' c (fun a => cofF p e (e - a)) rfl (R0.out.alloc _) wr.heap.size (cofF p e x) rfl (heap_alloc_new wr _) (by omega) ?_; intro gA kA wA rowA grA orA ltA
                             have fA := Frame.ofGrown grA
                             have LB := Lib.hid ((L0.out.alloc (.cells #[.int .i64 (cofF p e x)] 2)).keepF fA (by omega))
                             have BB := Lib.hid ((B0.out.alloc hz0 (.cells #[.int .i64 (cofF p e x)] 2)).trans (fA.below (B := w.heap.size) (by omega) (by simp only [World.size_alloc]; omega)))
                             have RB := Lib.hid rowA
                             clear rowA grA fA)
                go_roundw
                case rel => exact ⟨c + 1, gA, kA, by omega, rfl, by have := HX.out; congr 1; omega, RB.out.congr (fun j hj => by
                    split
                    · rfl
                    · rw [← HX.out, show j = c by omega]), LB.out, BB.out⟩
                case measure => have := HXI.out; simp only [intOf]; omega
              · have hce' : c = e + 1 := by omega
                have hneg : ¬ (0 : Int) ≤ (e : Int) - (c : Int) := by omega
                rw [hce'] at R0
                have RR := Lib.hid (Sl.ofRowF R0.out (fun j hj => by have := HCB.out (e - j); unfold inR; omega) (by unfold maxLen; omega))
                have HCE := Lib.hid hce'
                clear R0 L0 hce'
                go_wp2
                rw [HCE.out]
                go_ret
                exact ⟨_, _, rfl, RR.out.wide (by omega) (Nat.le_refl _) (Nat.le_refl _), B0.out⟩

theorem PeriodPolynomial_spec_bad (p e : Int) (h : ¬ HcP p e) (w : World) :
    Calls Try.prog 51 #[.int .i64 p, .int .i64 e] w fun r w' => ∃ a' k', r = .returned (.tuple #[.slice a' 0 k', .int .i64 2]) ∧ Sl true w' w.heap.size w'.heap.size (.slice a' 0 k') 0 (fun _ => 0) ∧ Below w.heap.size w w' := by
  have H := Lib.hid (hc_nil h)
  clear h
  go_enter Try.func51, Try.ntmps51
  go_wp2_with (go_at_call 63; refine (l06Code_no p e _ (o := false) (Sl.nil _ 0 0 (Nat.zero_le _) (fun _ => 0)) H.out).mono ?_; rintro r w1 ⟨rfl, m1, rfl⟩)
  go_ret2
  exact ⟨none, 0, rfl, Sl.nil _ _ _ (Nat.le_refl _) _, below_drewN (Below.refl w.heap.size w) _⟩
theorem PeriodPolynomial_spec_ok (p e : Nat) (hp : primeN p = true) (h1 : 1 ≤ e) (h2 : e ≤ 12) (hd : (p - 1) % e = 0) (w : World) :
    Calls Try.prog 51 #[.int .i64 (p : Int), .int .i64 (e : Int)] w fun r w' => ∃ a' k', r = .returned (.tuple #[.slice a' (e + 1) k', .int .i64 0]) ∧ Sl true w' w.heap.size w'.heap.size (.slice a' (e + 1) k') (e + 1) (fun a => (cofN p e).getD (e - a) 0) ∧ Below w.heap.size w w' := by
  have HP := Lib.hid hp
  have HD := Lib.hid hd
  clear hp hd
  go_enter Try.func51, Try.ntmps51
  go_wp2_with (first
    | (go_at_call 63; refine (l06Code_yes p e HP.out h1 h2 HD.out _ (o := false) (Sl.nil _ 0 0 (Nat.zero_le _) (fun _ => 0)) (fun j hj => absurd hj (Nat.not_lt_zero _))).mono ?_; rintro r w1 ⟨rfl, m1, rfl⟩)
    | (go_at_call 82; refine (l06Polynomial_any p e HP.out h1 h2 HD.out _).mono ?_; rintro r w2 ⟨a2, k2, rfl, s2, b2⟩))
  go_ret2
  exact ⟨_, _, rfl, s2.wide (by simp) (Nat.le_refl _) (Nat.le_refl _), (below_drewN (Below.refl w.heap.size w) m1).trans (b2.mono (by simp))⟩
theorem PeriodPolynomial_impl_cof (p e : Nat) (hp : primeN p = true) (h1 : 1 ≤ e) (h2 : e ≤ 12) (hd : (p - 1) % e = 0) (w : World) :
    Calls Try.prog 50 #[.int .i64 (p : Int), .int .i64 (e : Int)] w fun r w' => ∃ a' k', r = .returned (.tuple #[.slice a' (e + 1) k', .int .i64 0]) ∧ Sl true w' w.heap.size w'.heap.size (.slice a' (e + 1) k') (e + 1) (fun a => (cofN p e).getD (e - a) 0) ∧ Below w.heap.size w w' :=
  (PeriodPolynomial_impl_ok p e hp h1 h2 hd w).mono fun r w' ⟨a', k', h, hs, hb⟩ => ⟨a', k', h, hs.congr (fun a ha => ((poly_ok hp h1 h2 hd).2.2.2.2 a (by omega)).symm), hb⟩
end

section
set_option linter.unusedVariables false

section
variable {e i t s : Nat} {R : Nat → Nat → Int} {a b : Nat → Int}
theorem rot {G : Nat → Int} (hi : i < e) : sumN e (fun k => G ((i + k) % e)) = sumN e G := by
  have e1 : sumN e (fun k => G ((i + k) % e)) = sumN e (fun k => sumN e (fun y => if y = (i + k) % e then G y else 0)) := sumN_congr (fun k hk => by rw [sumN_ite, if_pos (Nat.mod_lt _ (by omega))])
  rw [e1, sumN_swap]
  refine sumN_congr (fun y hy => ?_)
  rw [show sumN e (fun k => if y = (i + k) % e then G y else 0) = sumN e (fun k => if k = (y + e - i) % e then G y else 0) from sumN_congr (fun k hk => by
    have q1 := mod_two (show i + k < e + e by omega)
    have q2 := mod_two (show y + e - i < e + e by omega)
    by_cases h : y = (i + k) % e
    · rw [if_pos h, if_pos (by rw [q1] at h; rw [q2]; split at h <;> split <;> omega)]
    · rw [if_neg h, if_neg (fun h' => h (by rw [q2] at h'; rw [q1]; split at h' <;> split <;> omega))]), sumN_single, if_pos (Nat.mod_lt _ (by omega))]
/-- A product as a sum over pairs. -/
theorem prT_sq (ht : t < e) : prT e R a b t = sumN e (fun i => sumN e (fun j => a i * b j * R ((j + e - i) % e) ((t + e - i) % e))) := by
  unfold prT
  refine sumN_congr (fun i hi => ?_)
  unfold prBlk
  rw [← rot (G := fun j => a i * b j * R ((j + e - i) % e) ((t + e - i) % e)) hi]
  refine sumN_congr (fun k hk => ?_)
  rw [prRow_eq hi ht]
  have q1 := mod_two (show i + k < e + e by omega)
  rw [show ((i + k) % e + e - i) % e = k by
    have h := Nat.mod_lt (i + k) (show 0 < e by omega)
    rw [mod_two (show (i + k) % e + e - i < e + e by omega), q1]
    split <;> split <;> omega]
theorem prT_comm (ht : t < e) (hR : ∀ k m, k < e → m < e → R ((e - k) % e) ((m + e - k) % e) = R k m) : prT e R b a t = prT e R a b t := by
  rw [prT_sq ht, prT_sq ht, sumN_swap]
  refine sumN_congr (fun i hi => sumN_congr (fun j hj => ?_))
  have h1 : (j + e - i) % e < e := Nat.mod_lt _ (by omega)
  have h2 : (t + e - i) % e < e := Nat.mod_lt _ (by omega)
  have h := hR _ _ h1 h2
  have q1 := mod_two (show j + e - i < e + e by omega)
  have q2 := mod_two (show t + e - i < e + e by omega)
  rw [show (e - (j + e - i) % e) % e = (i + e - j) % e by
      rw [mod_two (show e - (j + e - i) % e < e + e by omega), mod_two (show i + e - j < e + e by omega), q1]
      repeat' split
      all_goals omega,
    show ((t + e - i) % e + e - (j + e - i) % e) % e = (t + e - j) % e by
      rw [mod_two (show (t + e - i) % e + e - (j + e - i) % e < e + e by omega), mod_two (show t + e - j < e + e by omega), q1, q2]
      repeat' split
      all_goals omega] at h
  rw [h, Int.mul_comm (b j) (a i)]
end
theorem sumN_split (F : Nat → Int) (m : Nat) : ∀ n, sumN (m + n) F = sumN m F + sumN n (fun j => F (m + j))
  | 0 => by simp [sumN]
  | n + 1 => by
    show sumN (m + n) F + F (m + n) = sumN m F + (sumN n (fun j => F (m + j)) + F (m + n))
    rw [sumN_split F m n, Int.add_assoc]
theorem sumN_rep (f : Nat → Int) (n : Nat) : ∀ q, sumN (q * n) (fun j => f (j % n)) = (q : Int) * sumN n f
  | 0 => by simp [sumN]
  | q + 1 => by
    rw [Nat.add_mul, Nat.one_mul, sumN_split, sumN_rep f n q, show sumN n (fun j => f ((q * n + j) % n)) = sumN n f from sumN_congr (fun j hj => by rw [Nat.mul_comm, Nat.mul_add_mod, Nat.mod_eq_of_lt hj])]
    rw [Int.natCast_add, Int.add_mul]; simp
def symChk (p e : Nat) : Bool := fLL (prodT p e) (fun T => (List.range e).all (fun k => (List.range e).all (fun m => decide (g2 T ((e - k) % e) ((m + e - k) % e) = g2 T k m))))
theorem sym_all : ((List.range 62).all fun p => !primeN p || (List.range 13).all fun e => decide (e = 0) || decide ((p - 1) % e ≠ 0) || symChk p e) = true := by decide +kernel
theorem sym_ok {p e : Nat} (hp : primeN p = true) (h1 : 1 ≤ e) (h2 : e ≤ 12) (hd : (p - 1) % e = 0) (k m : Nat) (hk : k < e) (hm : m < e) : prodR p e ((e - k) % e) ((m + e - k) % e) = prodR p e k m := by
  have h := pe_of' sym_all hp h1 h2 hd
  unfold symChk at h
  rw [fLL_eq] at h
  have h9 := of_decide_eq_true (all_range (all_range h k hk) m hm)
  rwa [g2_prod (Nat.mod_lt _ (by omega)) (Nat.mod_lt _ (by omega)), g2_prod hk hm] at h9
theorem cofF_one {p e : Nat} (h1 : 1 ≤ e) : cofF p e 1 = 1 := by
  rw [cofF_step (k := 0) (by omega)]
  have ht : trF p e 0 = -1 := by
    rw [trF_eq, show sumN e (powF p e 0) = sumN e (fun i => if i = 0 then 1 else 0) from sumN_congr (fun i hi => by rw [powF_start hi]; rfl), sumN_single, if_pos (by omega)]
  show (sumN 0 _ + -(trF p e 0 * cofF p e (0 - 0))).tdiv ((0 : Nat) + 1) = 1
  rw [ht, cofF_zero]
  rfl
end

section
set_option linter.unusedVariables false
section
variable {e i t s : Nat} {R : Nat → Nat → Int} {a b f : Nat → Int}
theorem sh_rot (hs : s < e) (ht : t < e) : shN e s f ((s + t) % e) = f t := by
  unfold shN
  have h := Nat.mod_lt (s + t) (show 0 < e by omega)
  rw [show ((s + t) % e + (e - s)) % e = t by
    rw [mod_two (show (s + t) % e + (e - s) < e + e by have := mod_two (show s + t < e + e by omega); split at this <;> omega), mod_two (show s + t < e + e by omega)]
    repeat' split
    all_goals omega]
theorem sum_sh (hs : s < e) : sumN e (shN e s f) = sumN e f := by
  rw [← rot (G := shN e s f) hs]
  exact sumN_congr (fun t ht => sh_rot hs ht)
theorem idx_sh (hs : s < e) (hi : i < e) (ht : t < e) : ((s + t) % e + e - (s + i) % e) % e = (t + e - i) % e := by
  have h1 := Nat.mod_lt (s + t) (show 0 < e by omega)
  have h2 := Nat.mod_lt (s + i) (show 0 < e by omega)
  rw [mod_two (show (s + t) % e + e - (s + i) % e < e + e by omega), mod_two (show t + e - i < e + e by omega), mod_two (show s + t < e + e by omega), mod_two (show s + i < e + e by omega)]
  repeat' split
  all_goals omega
theorem prT_sh (hs : s < e) (ht : t < e) : prT e R (shN e s a) (shN e s b) ((t + s) % e) = prT e R a b t := by
  rw [Nat.add_comm t s, prT_sq (Nat.mod_lt _ (by omega)), prT_sq ht]
  rw [← rot (G := fun i => sumN e (fun j => shN e s a i * shN e s b j * R ((j + e - i) % e) (((s + t) % e + e - i) % e))) hs]
  refine sumN_congr (fun i hi => ?_)
  rw [← rot (G := fun j => shN e s a ((s + i) % e) * shN e s b j * R ((j + e - (s + i) % e) % e) (((s + t) % e + e - (s + i) % e) % e)) hs]
  refine sumN_congr (fun j hj => ?_)
  rw [sh_rot hs hi, sh_rot hs hj, idx_sh hs hi hj, idx_sh hs hi ht]
theorem trN_sum (f : Nat → Int) : ∀ n, trN f n = -(sumN n f)
  | 0 => rfl
  | n + 1 => by
    show trN f n - f n = -(sumN n f + f n)
    rw [trN_sum f n]; omega
theorem trN_rep {n E : Nat} (hn : 1 ≤ n) (hd : E % n = 0) (f : Nat → Int) : trN (fun j => f (j % n)) E = trN f n * ((E / n : Nat) : Int) := by
  have h : E = (E / n) * n := by have := Nat.div_add_mod E n; rw [hd, Nat.mul_comm] at this; omega
  rw [trN_sum, trN_sum]
  have h2 := sumN_rep f n (E / n)
  rw [← h] at h2
  rw [h2, Int.neg_mul, Int.mul_comm]
end
end

section
open Go.RowKit Go.ChangeShapes Go.Sort
set_option linter.unusedVariables false

theorem mul_two (p e : Int) (v v' : Value) (n n' : Nat) (f g : Nat → Int) : ∃ (c : Int) (m : Nat) (G : Nat → Int),
    ((∃ P : Nat, p = P ∧ e = n ∧ n' = n ∧ primeN P = true ∧ 1 ≤ n ∧ n ≤ 12 ∧ (P - 1) % n = 0 ∧ Within f n 1000 ∧ Within g n 1000 ∧ c = 0 ∧ m = n ∧ G = prT n (prodR P n) f g) ∨ (c = 2 ∧ m = 0)) ∧
    (∀ (w : World) lo0 hi0 lo1 hi1, Sl true w lo0 hi0 v n f → Sl true w lo1 hi1 v' n' g → Calls Try.prog 39 #[.int .i64 p, .int .i64 e, v, v'] w fun en w' => ∃ a k, en = .returned (.tuple #[.slice a m k, .int .i64 c]) ∧ Sl true w' w.heap.size w'.heap.size (.slice a m k) m G ∧ Below w.heap.size w w') ∧
    (∀ (w : World) lo0 hi0 lo1 hi1, Sl true w lo0 hi0 v n f → Sl true w lo1 hi1 v' n' g → Calls Try.prog 38 #[.int .i64 p, .int .i64 e, v, v'] w fun en w' => ∃ a k, en = .returned (.tuple #[.slice a m k, .int .i64 c]) ∧ Sl true w' w.heap.size w'.heap.size (.slice a m k) m G ∧ Below w.heap.size w w') := by
  by_cases h : SumP p e n f ∧ SumP p e n' g
  · obtain ⟨hs, ht⟩ := h
    obtain ⟨P, rfl, rfl, h1, h2, h3, h4, h5⟩ := hs.nat
    obtain ⟨P', hP', hn', _, _, _, _, k5⟩ := ht.nat
    obtain rfl : n = n' := by omega
    exact ⟨0, n, _, .inl ⟨P, rfl, rfl, rfl, h1, h2, h3, h4, h5, k5, rfl, rfl, rfl⟩, fun w _ _ _ _ ha hb => MultiplyPeriods_spec_ok P h1 h2 h3 h4 w ha hb h5 k5, fun w _ _ _ _ ha hb => MultiplyPeriods_impl_ok P h1 h2 h3 h4 w ha hb h5 k5⟩
  · exact ⟨2, 0, fun _ => 0, .inr ⟨rfl, rfl⟩, fun w _ _ _ _ ha hb => MultiplyPeriods_spec_bad p e w ha hb h, fun w _ _ _ _ ha hb => MultiplyPeriods_impl_bad p e w ha hb h⟩
theorem sh_two (p e k : Int) (v : Value) (n : Nat) (f : Nat → Int) : ∃ (c : Int) (m : Nat) (G : Nat → Int),
    ((∃ P K : Nat, p = P ∧ e = n ∧ k = K ∧ primeN P = true ∧ 1 ≤ n ∧ n ≤ 12 ∧ (P - 1) % n = 0 ∧ K < n ∧ Within f n 1000 ∧ c = 0 ∧ m = n ∧ G = shN n K f) ∨ c = 2) ∧
    (∀ (w : World) lo0 hi0, Sl true w lo0 hi0 v n f → Calls Try.prog 42 #[.int .i64 p, .int .i64 e, v, .int .i64 k] w fun en w' => ∃ a k, en = .returned (.tuple #[.slice a m k, .int .i64 c]) ∧ Sl true w' w.heap.size w'.heap.size (.slice a m k) m G ∧ Below w.heap.size w w') ∧
    (∀ (w : World) lo0 hi0, Sl true w lo0 hi0 v n f → Calls Try.prog 41 #[.int .i64 p, .int .i64 e, v, .int .i64 k] w fun en w' => ∃ a k, en = .returned (.tuple #[.slice a m k, .int .i64 c]) ∧ Sl true w' w.heap.size w'.heap.size (.slice a m k) m G ∧ Below w.heap.size w w') := by
  by_cases h : SumP p e n f ∧ 0 ≤ k ∧ k < e
  · obtain ⟨hs, hk1, hk2⟩ := h
    obtain ⟨P, rfl, rfl, h1, h2, h3, h4, h5⟩ := hs.nat
    obtain ⟨K, rfl⟩ := Int.eq_ofNat_of_zero_le hk1
    have hK : K < n := by omega
    exact ⟨0, n, _, .inl ⟨P, K, rfl, rfl, rfl, h1, h2, h3, h4, hK, h5, rfl, rfl, rfl⟩, fun w _ _ hs => ShiftPeriods_spec_ok P K h1 h2 h3 h4 hK w hs h5, fun w _ _ hs => ShiftPeriods_impl_ok P K h1 h2 h3 h4 hK w hs h5⟩
  · exact ⟨2, 0, fun _ => 0, .inr rfl, fun w _ _ hs => ShiftPeriods_spec_bad p e k w hs h, fun w _ _ hs => ShiftPeriods_impl_bad p e k w hs h⟩
theorem trace_two (p e : Int) (v : Value) (n : Nat) (f : Nat → Int) : ∃ c r : Int,
    (∀ (w : World) lo0 hi0, Sl true w lo0 hi0 v n f → Calls Try.prog 45 #[.int .i64 p, .int .i64 e, v] w fun en w' => en = .returned (.tuple #[.int .i64 r, .int .i64 c]) ∧ Below w.heap.size w w') ∧
    (∀ (w : World) lo0 hi0, Sl true w lo0 hi0 v n f → Calls Try.prog 44 #[.int .i64 p, .int .i64 e, v] w fun en w' => en = .returned (.tuple #[.int .i64 r, .int .i64 c]) ∧ Below w.heap.size w w') := by
  by_cases h : SumP p e n f
  · obtain ⟨P, rfl, rfl, h1, h2, h3, h4, h5⟩ := h.nat
    exact ⟨0, _, fun w _ _ hs => TraceOfPeriods_spec_ok P h1 h2 h3 h4 w hs h5, fun w _ _ hs => TraceOfPeriods_impl_ok P h1 h2 h3 h4 w hs h5⟩
  · exact ⟨2, 0, fun w _ _ hs => TraceOfPeriods_spec_bad p e w hs h, fun w _ _ hs => TraceOfPeriods_impl_bad p e w hs h⟩
theorem ref_two (p d e : Int) (v : Value) (n : Nat) (f : Nat → Int) : ∃ (c : Int) (m : Nat) (G : Nat → Int),
    ((∃ P E : Nat, p = P ∧ d = n ∧ e = E ∧ primeN P = true ∧ 1 ≤ n ∧ n ≤ 12 ∧ (P - 1) % n = 0 ∧ 1 ≤ E ∧ E ≤ 12 ∧ (P - 1) % E = 0 ∧ E % n = 0 ∧ Within f n 1000 ∧ c = 0 ∧ m = E ∧ G = fun j => f (j % n)) ∨ c = 2) ∧
    (∀ (w : World) lo0 hi0, Sl true w lo0 hi0 v n f → Calls Try.prog 48 #[.int .i64 p, .int .i64 d, .int .i64 e, v] w fun en w' => ∃ a k, en = .returned (.tuple #[.slice a m k, .int .i64 c]) ∧ Sl true w' w.heap.size w'.heap.size (.slice a m k) m G ∧ Below w.heap.size w w') ∧
    (∀ (w : World) lo0 hi0, Sl true w lo0 hi0 v n f → Calls Try.prog 47 #[.int .i64 p, .int .i64 d, .int .i64 e, v] w fun en w' => ∃ a k, en = .returned (.tuple #[.slice a m k, .int .i64 c]) ∧ Sl true w' w.heap.size w'.heap.size (.slice a m k) m G ∧ Below w.heap.size w w') := by
  by_cases h : HcP p e ∧ SumP p d n f ∧ e % d = 0
  · obtain ⟨hc, hs, hd⟩ := h
    obtain ⟨P, rfl, rfl, h1, h2, h3, h4, h5⟩ := hs.nat
    obtain ⟨P', E, hP', rfl, _, k2, k3, k4⟩ := hc.nat
    obtain rfl : P = P' := by omega
    have hd' : E % n = 0 := by rw [← Int.natCast_emod] at hd; omega
    exact ⟨0, E, _, .inl ⟨P, E, rfl, rfl, rfl, h1, h2, h3, h4, k2, k3, k4, hd', h5, rfl, rfl, rfl⟩, fun w _ _ hs => RefinePeriods_spec_ok P E h1 h2 h3 h4 k2 k3 k4 (by omega) w hs h5, fun w _ _ hs => RefinePeriods_impl_ok P E h1 h2 h3 h4 k2 k3 k4 (by omega) w hs h5⟩
  · exact ⟨2, 0, fun _ => 0, .inr rfl, fun w _ _ hs => RefinePeriods_spec_bad p d e w hs h, fun w _ _ hs => RefinePeriods_impl_bad p d e w hs h⟩
theorem poly_two (p e : Int) : ∃ (c : Int) (m : Nat) (G : Nat → Int),
    ((∃ P n : Nat, p = P ∧ e = n ∧ primeN P = true ∧ 1 ≤ n ∧ n ≤ 12 ∧ (P - 1) % n = 0 ∧ c = 0 ∧ m = n + 1 ∧ G n = 1 ∧ G (n - 1) = 1) ∨ c = 2) ∧
    (∀ (w : World), Calls Try.prog 51 #[.int .i64 p, .int .i64 e] w fun en w' => ∃ a k, en = .returned (.tuple #[.slice a m k, .int .i64 c]) ∧ Sl true w' w.heap.size w'.heap.size (.slice a m k) m G ∧ Below w.heap.size w w') ∧
    (∀ (w : World), Calls Try.prog 50 #[.int .i64 p, .int .i64 e] w fun en w' => ∃ a k, en = .returned (.tuple #[.slice a m k, .int .i64 c]) ∧ Sl true w' w.heap.size w'.heap.size (.slice a m k) m G ∧ Below w.heap.size w w') := by
  by_cases h : HcP p e
  · obtain ⟨P, E, rfl, rfl, c1, c2, c3, c4⟩ := h.nat
    exact ⟨0, E + 1, fun a => (cofN P E).getD (E - a) 0, .inl ⟨P, E, rfl, rfl, c1, c2, c3, c4, rfl, rfl, by dsimp only; rw [Nat.sub_self]; exact cofF_zero P E, by dsimp only; rw [show E - (E - 1) = 1 by omega]; exact cofF_one c2⟩, fun w => PeriodPolynomial_spec_ok P E c1 c2 c3 c4 w, fun w => PeriodPolynomial_impl_cof P E c1 c2 c3 c4 w⟩
  · exact ⟨2, 0, fun _ => 0, .inr rfl, fun w => PeriodPolynomial_spec_bad p e h w, fun w => PeriodPolynomial_impl_bad p e h w⟩
theorem sh_within {n K : Nat} {f : Nat → Int} (hn : 1 ≤ n) (h : Within f n 1000) : Within (shN n K f) n 1000 := fun j hj => h _ (Nat.mod_lt _ (by omega))
theorem rep_within {n E : Nat} {f : Nat → Int} (hn : 1 ≤ n) (h : Within f n 1000) : Within (fun j => f (j % n)) E 1000 := fun j hj => h _ (Nat.mod_lt _ (by omega))
end

section
open Go.RowKit Go.ChangeShapes
set_option linter.unusedVariables false
set_option linter.unusedSimpArgs false
/-- Bytes that are there to be read, below the block B. -/
def Bytes (w : World) (B : Nat) (p : Option Addr) (n : Nat) : Prop := n ≤ 4096 ∧ ∀ j, j < n → ∃ g off c, p = some ⟨g, off, none⟩ ∧ g < B ∧ g < w.heap.size ∧ w.cell? ⟨g, off + j, none⟩ = some (.int .u8 c) ∧ 0 ≤ c ∧ c ≤ 255
/-- A source of drawn numbers in the block b. -/
def Src (w : World) (b : Nat) (p : Option Addr) (n q : Nat) : Prop := ∃ (at_ : Nat) (h : Int), at_ ≤ n ∧ 0 ≤ h ∧ h ≤ 18446744073709551615 ∧ Box w b [.slice p n q, .int .i64 at_, .int .u64 h]
theorem Box.set {w : World} {b i : Nat} {vs : List Value} {u : Value} (h : Box w b vs) (hi : i < vs.length) : Box (w.setCell ⟨b, i, none⟩ u) b (vs.set i u) := by
  obtain ⟨h1, h2, h3⟩ := h
  refine ⟨by simpa using h1, fun j v hj => ?_, fun k => by simpa using h3 k⟩
  by_cases e : j = i
  · subst e
    rw [List.getElem?_set_self (by simpa using hi)] at hj
    obtain rfl : u = v := Option.some.inj hj
    exact World.cell?_setCell_same _ _ _ (h2 j _ (List.getElem?_eq_getElem hi))
  · rw [List.getElem?_set_ne (fun h => e h.symm)] at hj
    rw [setCell_ne _ _ _ _ _ e]
    exact h2 j v hj
theorem Box.drewN {w : World} {b : Nat} {vs : List Value} (h : Box w b vs) (m : Nat) : Box (w.drewN m) b vs := h.keep (below_drewN (Below.refl _ _) m)
theorem wrap_u64 (x : Int) : 0 ≤ IntKind.u64.wrap x ∧ IntKind.u64.wrap x ≤ 18446744073709551615 := by
  have h : IntKind.u64.wrap x = x % 18446744073709551616 := by rfl
  omega
theorem and_small (x : Int) (h : 0 ≤ x) (hx' : x < 18446744073709551616) : 0 ≤ wrap64 (bits .and .u64 x 1073741823) ∧ wrap64 (bits .and .u64 x 1073741823) ≤ 1073741823 := by
  have h1 : 0 ≤ bits .and .u64 x 1073741823 ∧ bits .and .u64 x 1073741823 ≤ 1073741823 := by
    by_cases hx : x < 18446744073709551616
    · rw [u64_and x 1073741823 h hx (by omega) (by omega)]
      have := @Nat.and_le_right x.toNat (1073741823 : Int).toNat
      have e : (1073741823 : Int).toNat = 1073741823 := rfl
      rw [e] at this ⊢
      omega
    · exact absurd hx' hx
  rw [wrap_inR (by unfold inR; omega)]
  exact h1
set_option maxRecDepth 100000 in
set_option maxHeartbeats 1000000 in
theorem l01Next_any (b B : Nat) (p : Option Addr) (n q : Nat) (m : Int) (w : World) (hs : Src w b p n q) (hb : Bytes w B p n) (hB : B ≤ b) (hm : 1 ≤ m) (hm2 : m ≤ 1000000000000) :
    Calls Try.prog 65 #[.pointer (some ⟨b, 0, none⟩), .int .i64 m] w fun e w' => ∃ r : Int, e = .returned (.int .i64 r) ∧ 0 ≤ r ∧ r < m ∧ Src w' b p n q ∧ Frame b (b + 1) w w' := by
  obtain ⟨at_, h, hat, hh1, hh2, hbx⟩ := hs
  have c0 := hbx.2.1 0 _ rfl
  have c1 := hbx.2.1 1 _ rfl
  have c2 := hbx.2.1 2 _ rfl
  have hz := hbx.2.2
  have hbz := hbx.1
  have hn := hb.1
  have HB := Lib.hid hb.2
  have HBX := Lib.hid hbx
  clear hb hbx
  go_enter Try.func65, Try.ntmps65
  go_wp2
  have hH := wrap_u64 (IntKind.u64.wrap (h * 6364136223846793005) + 1442695040888963407)
  have hX := and_small (IntKind.u64.wrap (IntKind.u64.wrap (h * 6364136223846793005) + 1442695040888963407) / 2147483648) (by omega) (by omega)
  generalize wrap64 (bits .and .u64 (IntKind.u64.wrap (IntKind.u64.wrap (h * 6364136223846793005) + 1442695040888963407) / 2147483648) 1073741823) = X at *
  generalize IntKind.u64.wrap (IntKind.u64.wrap (h * 6364136223846793005) + 1442695040888963407) = H at *
  obtain ⟨hX1, hX2⟩ := hX
  obtain ⟨hH1, hH2⟩ := hH
  by_cases hlt : at_ < n
  · obtain ⟨g, off, c, rfl, hg, hgz, hc, hc1, hc2⟩ := HB.out at_ hlt
    have hgb : ¬ (b = g) := by omega
    have hlt2 : (at_ : Int) < n := by omega
    go_quiet (fail)
    go_wp2
    go_quiet (fail)
    go_wp2
    refine bodyPost_ret (v := .int .i64 ((X + c) % m)) (by simp [results, Try.results65, go_sem]) rfl ?_
    refine ⟨_, rfl, Int.emod_nonneg _ (by omega), Int.emod_lt_of_pos _ (by omega), ⟨at_ + 1, H, by omega, hH1, hH2, ?_⟩, ?_⟩
    · have hall : ∀ k, Box (((w.setCell ⟨b, 2, none⟩ (.int .u64 H)).drewN k).setCell ⟨b, 1, none⟩ (.int .i64 ((at_ : Int) + 1))) b [.slice (some ⟨g, off, none⟩) n q, .int .i64 ((at_ + 1 : Nat) : Int), .int .u64 H] := fun k => by
        have h2 := ((HBX.out.set (i := 2) (u := .int .u64 H) (by simp)).drewN k).set (i := 1) (u := .int .i64 ((at_ : Int) + 1)) (by simp)
        simpa using h2
      exact hall _
    · exact (((Frame.refl b (b + 1) w).setCell (Nat.le_refl _) (Nat.lt_succ_self _) _).drewN _).setCell (Nat.le_refl _) (Nat.lt_succ_self _) _
  · have hlt2 : ¬ ((at_ : Int) < n) := by omega
    go_quiet (fail)
    go_wp2
    refine bodyPost_ret (v := .int .i64 (X % m)) (by simp [results, Try.results65, go_sem]) rfl ?_
    refine ⟨_, rfl, Int.emod_nonneg _ (by omega), Int.emod_lt_of_pos _ (by omega), ⟨at_, H, by omega, hH1, hH2, ?_⟩, ?_⟩
    · have h1 := (HBX.out.set (i := 2) (u := .int .u64 H) (by simp)).drewN nq
      simpa using h1
    · exact ((Frame.refl b (b + 1) w).setCell (Nat.le_refl _) (Nat.lt_succ_self _) _).drewN _

theorem Bytes.frame {w w' : World} {B b : Nat} {p : Option Addr} {n : Nat} (h : Bytes w B p n) (hf : Frame b (b + 1) w w') (hB : B ≤ b) : Bytes w' B p n :=
  ⟨h.1, fun j hj => by
    obtain ⟨g, off, c, e, h1, h2, h3, h4⟩ := h.2 j hj
    exact ⟨g, off, c, e, h1, Nat.lt_of_lt_of_le h2 hf.size, (hf.cell (p := ⟨g, off + j, none⟩) h2 (.inl (by show g < b; omega))).trans h3, h4⟩⟩
theorem Bytes.below {w w' : World} {B : Nat} {p : Option Addr} {n : Nat} (h : Bytes w B p n) (hb : Below w.heap.size w w') : Bytes w' B p n :=
  ⟨h.1, fun j hj => by
    obtain ⟨g, off, c, e, h1, h2, h3, h4⟩ := h.2 j hj
    exact ⟨g, off, c, e, h1, Nat.lt_of_lt_of_le h2 hb.size, cell_later hb h3, h4⟩⟩
section
variable {o : Bool} {lo hi k : Nat} {v : Value} {f : Nat → Int}
set_option maxRecDepth 100000 in
theorem l01Pick_any (b B : Nat) (p : Option Addr) (n q : Nat) (w : World) (hs : Src w b p n q) (hb : Bytes w B p n) (hB : B ≤ b) (hl : Sl o w lo hi v k f) (hd : hi ≤ b ∨ b + 1 ≤ lo) (hk : 1 ≤ k) (hk2 : k ≤ 1000) :
    Calls Try.prog 79 #[.pointer (some ⟨b, 0, none⟩), v] w fun e w' => ∃ i, i < k ∧ e = .returned (.int .i64 (f i)) ∧ Src w' b p n q ∧ Frame b (b + 1) w w' := by
  obtain ⟨a, cap, rfl⟩ := hl.shape
  have HL := Lib.hid hl
  clear hl
  go_enter Try.func79, Try.ntmps79
  go_wp2_with fail
  refine (l01Next_any b B p n q k w hs hb hB (by omega) (by omega)).mono ?_
  rintro e w1 ⟨r, rfl, hr1, hr2, hs1, hf1⟩
  obtain ⟨i, rfl⟩ := Int.eq_ofNat_of_zero_le hr1
  have hik : i < k := by omega
  have hl1 := HL.out.keepF hf1 hd
  obtain ⟨g, off, c1, hv, _, _, _, _, hc, _⟩ := hl1.at (by omega)
  obtain ⟨rfl, rfl⟩ : a = some ⟨g, off, none⟩ ∧ cap = c1 := by cases hv; exact ⟨rfl, rfl⟩
  have hck := hc i hik
  clear hv hc
  go_wp2
  go_ret
  exact ⟨i, hik, rfl, hs1, hf1⟩
end
set_option maxRecDepth 100000 in
set_option maxHeartbeats 1000000 in
theorem l01From_any (B : Nat) (p : Option Addr) (n q : Nat) (w : World) (hb : Bytes w B p n) (hB : B ≤ w.heap.size) :
    Calls Try.prog 60 #[.slice p n q] w fun e w' => e = .returned (.pointer (some ⟨w.heap.size, 0, none⟩)) ∧ Src w' w.heap.size p n q ∧ Bytes w' B p n ∧ Below w.heap.size w w' := by
  have hn := hb.1
  have HB := Lib.hid hb
  clear hb
  have H0 := wrap_u64 (13131 + n)
  go_enter Try.func60, Try.ntmps60
  go_wp2
  go_loopw [4] (fun s4 wr => ∃ k : Nat, k ≤ n ∧ s4 = .int .i64 k ∧ (∃ h : Int, 0 ≤ h ∧ h ≤ 18446744073709551615 ∧ Box wr w.heap.size [.slice p n q, .int .i64 0, .int .u64 h]) ∧ Bytes wr B p n ∧ Below w.heap.size w wr) (fun s4 _ => n - (intOf s4).toNat)
  case atStart => exact ⟨0, Nat.zero_le _, rfl, ⟨13131 + n, by omega, by omega, Box.made _ _ _ _ (fun j v h => by simpa using h)⟩, HB.out.below ((Below.refl _ _).alloc (Nat.le_refl _) _), (Below.refl _ _).alloc (Nat.le_refl _) _⟩
  case round =>
    obtain ⟨k, hk, rfl, ⟨h, hh1, hh2, hbx⟩, hby, hbl⟩ := hrel
    have c0 := hbx.2.1 0 _ rfl
    have c1 := hbx.2.1 1 _ rfl
    have c2 := hbx.2.1 2 _ rfl
    have hz := hbx.2.2
    have hbz := hbx.1
    have HBX := Lib.hid hbx
    have HBY := Lib.hid hby
    have HBL := Lib.hid hbl
    clear hbx hby hbl
    by_cases hlt : k < n
    · obtain ⟨g, off, c, rfl, hg, hgz, hc, hc1, hc2⟩ := HBY.out.2 k hlt
      have hgb : ¬ (w.heap.size = g) := by omega
      have hlt2 : (k : Int) < n := by omega
      have hlt3 : (k : Int) < 4096 := by omega
      go_wp2
      go_region
      go_wp2
      go_roundw
      case rel =>
        have hw := wrap_u64 (IntKind.u64.wrap (IntKind.u64.wrap (h * 1099511628211) + c) + 131)
        have hf : Frame w.heap.size (w.heap.size + 1) wr ((wr.setCell ⟨w.heap.size, 2, none⟩ (.int .u64 (IntKind.u64.wrap (IntKind.u64.wrap (IntKind.u64.wrap (h * 1099511628211) + c) + 131)))).drew) := ((Frame.refl w.heap.size (w.heap.size + 1) wr).setCell (Nat.le_refl _) (Nat.lt_succ_self _) _).drew
        refine ⟨k + 1, by omega, by go_num, ⟨_, hw.1, hw.2, ?_⟩, HBY.out.frame hf hB, HBL.out.trans (hf.below (Nat.le_refl _) HBL.out.size)⟩
        have h2 := HBX.out.set (i := 2) (u := .int .u64 (IntKind.u64.wrap (IntKind.u64.wrap (IntKind.u64.wrap (h * 1099511628211) + c) + 131))) (by simp)
        have h3 := h2.keep (Below.refl _ _).drew
        simpa using h3
      case measure => simp [intOf] <;> omega
    · obtain rfl : k = n := by omega
      go_wp2
      go_ret
      exact ⟨rfl, ⟨0, h, Nat.zero_le _, hh1, hh2, HBX.out⟩, HBY.out, HBL.out⟩
end

section
open Go.RowKit Go.ChangeShapes Go.Sort
set_option linter.unusedVariables false
set_option linter.unusedSimpArgs false

section
variable {o : Bool} {lo hi n : Nat} {v : Value} {f : Nat → Int}
set_option maxHeartbeats 800000 in
theorem likeInts_yes {o' : Bool} {lo' hi' : Nat} {v' : Value} {f' : Nat → Int} (w : World) (hs : Sl o w lo hi v n f) (hs' : Sl o' w lo' hi' v' n f') (he : ∀ j, j < n → f j = f' j) :
    Calls Try.prog 27 #[v, v'] w fun e w' => e = .returned (.bool true) ∧ Below w.heap.size w w' := by
  obtain ⟨a, cap, rfl⟩ := hs.shape
  obtain ⟨a', cap', rfl⟩ := hs'.shape
  have hm := hs.len
  unfold maxLen at hm
  have HS := Lib.hid hs; clear hs
  have HS' := Lib.hid hs'; clear hs'
  have HE := Lib.hid he; clear he
  go_enter Try.func27, Try.ntmps27
  go_wp2
  go_loopw [5] (fun i wr => ∃ k : Nat, k ≤ n ∧ i = .int .i64 k ∧ Below w.heap.size w wr) (fun i _ => n - (intOf i).toNat)
  case atStart => exact ⟨0, Nat.zero_le _, rfl, Below.refl _ _⟩
  case round =>
    obtain ⟨k, hk, rfl, hb⟩ := hrel
    by_cases hlt : k < n
    · obtain ⟨g, off, c1, hv, _, hg, _, _, hc, _⟩ := HS.out.at (by omega)
      have hgs : g < w.heap.size := Nat.lt_of_lt_of_le hg HS.out.size
      obtain ⟨rfl, rfl⟩ : a = some ⟨g, off, none⟩ ∧ cap = c1 := by cases hv; exact ⟨rfl, rfl⟩
      obtain ⟨g', off', c1', hv', _, hg', _, _, hc', _⟩ := HS'.out.at (by omega)
      have hgs' : g' < w.heap.size := Nat.lt_of_lt_of_le hg' HS'.out.size
      obtain ⟨rfl, rfl⟩ : a' = some ⟨g', off', none⟩ ∧ cap' = c1' := by cases hv'; exact ⟨rfl, rfl⟩
      clear hv hg hv' hg'
      have hck : wr.cell? ⟨g, off + k, none⟩ = some (.int .i64 (f k)) := by rw [hb.cell (p := ⟨g, off + k, none⟩) hgs]; exact hc k hlt
      have hck' : wr.cell? ⟨g', off' + k, none⟩ = some (.int .i64 (f k)) := by rw [hb.cell (p := ⟨g', off' + k, none⟩) hgs', HE.out k hlt]; exact hc' k hlt
      clear hc hc'
      go_wp2
      go_quiet (fail)
      go_wp2
      go_roundw
      case rel => exact ⟨k + 1, by omega, by go_num, below_drewN hb _⟩
      case measure => simp [intOf]; omega
    · go_wp2
      go_ret
      exact ⟨rfl, hb⟩

end
theorem big_no (p : Option Addr) (n q : Nat) (w : World) (h : n ≤ 4096) : Calls Try.prog 16 #[.slice p n q] w fun e w' => e = .returned (.bool false) ∧ Below w.heap.size w w' := by
  have hh : ¬ (4096 < (n : Int)) := by omega
  go_enter Try.func16, Try.ntmps16
  go_wp2
  go_ret
  exact ⟨rfl, Below.refl _ _⟩
theorem big_yes (p : Option Addr) (n q : Nat) (w : World) (h : 4096 < n) : Calls Try.prog 16 #[.slice p n q] w fun e w' => e = .returned (.bool true) ∧ Below w.heap.size w w' := by
  have hd : decide ((4096 : Int) < (n : Int)) = true := decide_eq_true (by omega)
  go_enter Try.func16, Try.ntmps16
  go_wp2
  go_ret
  exact ⟨by first | rfl | (show Ending.returned (.bool (decide ((4096 : Int) < (n : Int)))) = _; rw [hd]), Below.refl _ _⟩
/-- A code that came in. -/
theorem Bytes.came {H : Type} {enc : TypeId × Value → H} {P : Program} {W : World} {t e : TypeId} {fuel : Nat} {c : Value} {y : DataW H × List MemPlace}
    (ht : P.underlying t = some (.slice e)) (he : P.underlying e = some (.int .u8)) (hc : P.cellsOf e = 1)
    (h : DataW.trod enc P W 0 (fun _ => true) true fuel t [c] = some y) : ∃ p n q, c = .slice p n q ∧ (n ≤ 4096 → Bytes W W.heap.size p n) := by
  rcases open_ints ht he hc h with ⟨hcs, _⟩ | ⟨a, len, cap, zs, hcs, _, hl, hm, hz, _, hcell, hwz⟩
  · cases hcs
    exact ⟨none, 0, 0, rfl, fun _ => ⟨by omega, fun j hj => absurd hj (Nat.not_lt_zero _)⟩⟩
  · cases hcs
    refine ⟨some a, len, cap, rfl, fun hn => ⟨hn, fun j hj => ?_⟩⟩
    simp only [if_true] at hz
    obtain ⟨b, off, rfl, hcells⟩ := ints_at hcell (by omega)
    have hj' : j < zs.length := by omega
    have hwf : (Lit.int .u8 (zs.getD j 0)).wf = true := hwz _ (by
      rw [List.getD_eq_getElem?_getD, List.getElem?_eq_getElem hj']
      exact List.getElem_mem hj')
    have hb : 0 ≤ zs.getD j 0 ∧ zs.getD j 0 ≤ 255 := by simpa [Lit.wf, IntKind.min, IntKind.max, IntKind.signed, IntKind.bits] using hwf
    exact ⟨b, off, zs.getD j 0, rfl, World.block_lt_of_cell? _ _ (hcells 0 (by omega)), World.block_lt_of_cell? _ _ (hcells 0 (by omega)), hcells j hj', hb.1, hb.2⟩
end

section
open Go.RowKit Go.ChangeShapes Go.Sort
set_option linter.unusedVariables false
set_option linter.unusedSimpArgs false
theorem sumN_bd' {f : Nat → Int} : ∀ {m : Nat}, (∀ j, j < m → -1000000000 ≤ f j ∧ f j ≤ 1000000000) → -((m : Int) * 1000000000) ≤ sumN m f ∧ sumN m f ≤ (m : Int) * 1000000000
  | 0, _ => by simp [sumN]
  | m + 1, h => by
    have h1 := sumN_bd' (fun j hj => h j (Nat.lt_succ_of_lt hj))
    have h2 := h m (Nat.lt_succ_self m)
    simp only [sumN]
    omega
section
variable {o o' : Bool} {lo hi lo' hi' n m : Nat} {v V V' : Value} {f : Nat → Int} {ln : Nat → Nat} {F : Nat → Nat → Int}
set_option maxHeartbeats 800000 in
theorem sum_any (w : World) (hs : Sl o w lo hi v n f) (hn : n ≤ 1000) (hf : ∀ j, j < n → -1000000000 ≤ f j ∧ f j ≤ 1000000000) :
    Calls Try.prog 36 #[v] w fun e w' => e = .returned (.int .i64 (sumN n f)) ∧ Below w.heap.size w w' := by
  obtain ⟨a, cap, rfl⟩ := hs.shape
  have HS := Lib.hid hs; clear hs
  have HF := Lib.hid hf; clear hf
  go_enter Try.func36, Try.ntmps36
  go_wp2
  go_loopw [3, 4] (fun s3 s4 wr => ∃ k : Nat, k ≤ n ∧ s3 = .int .i64 (sumN k f) ∧ s4 = .int .i64 k ∧ w = wr) (fun _ s4 _ => n - (intOf s4).toNat)
  case atStart => exact ⟨0, Nat.zero_le _, rfl, rfl, rfl⟩
  case round =>
    obtain ⟨k, hk, rfl, rfl, hw⟩ := hrel
    subst hw
    have hs := sumN_bd' (f := f) (m := k) (fun j hj => HF.out j (by omega))
    by_cases hlt : k < n
    · obtain ⟨g, off, c1, hv, _, hg, _, _, hc, _⟩ := HS.out.at (by omega)
      obtain ⟨rfl, rfl⟩ : a = some ⟨g, off, none⟩ ∧ cap = c1 := by cases hv; exact ⟨rfl, rfl⟩
      have hck := hc k hlt
      have hfk := HF.out k hlt
      have HN := Lib.hid (show sumN (k + 1) f = sumN k f + f k from rfl)
      clear hv hg hc
      generalize sumN k f = A at *
      generalize f k = X at *
      go_wp2
      go_roundw
      case rel => exact ⟨k + 1, by omega, by rw [HN.out], by go_num, by first | rfl | trivial⟩
      case measure => simp [intOf]; omega
    · have hkn : k = n := by omega
      rw [hkn]
      clear hs
      go_wp2
      go_ret
      exact ⟨rfl, Below.refl _ _⟩
set_option maxHeartbeats 800000 in
theorem hasInt_yes (x : Int) (w : World) (hs : Sl o w lo hi v n f) (hx : ∃ j, j < n ∧ f j = x) :
    Calls Try.prog 35 #[v, .int .i64 x] w fun e w' => e = .returned (.bool true) ∧ Below w.heap.size w w' := by
  obtain ⟨a, cap, rfl⟩ := hs.shape
  obtain ⟨J, hJ, hJx⟩ := hx
  have HX := Lib.hid hJx
  have hm := hs.len
  unfold maxLen at hm
  have HS := Lib.hid hs; clear hs hJx
  go_enter Try.func35, Try.ntmps35
  go_wp2
  go_loopw [5] (fun s5 wr => ∃ k : Nat, k ≤ J ∧ s5 = .int .i64 k ∧ w = wr) (fun s5 _ => n - (intOf s5).toNat)
  case atStart => exact ⟨0, Nat.zero_le _, rfl, rfl⟩
  case round =>
    obtain ⟨k, hk, rfl, hw⟩ := hrel
    subst hw
    have hlt : k < n := by omega
    obtain ⟨g, off, c1, hv, _, hg, _, _, hc, _⟩ := HS.out.at (by omega)
    obtain ⟨rfl, rfl⟩ : a = some ⟨g, off, none⟩ ∧ cap = c1 := by cases hv; exact ⟨rfl, rfl⟩
    have hck := hc k hlt
    clear hv hg hc
    by_cases hfx : f k = x
    · rw [hfx] at hck
      clear hfx
      go_wp2
      go_ret
      exact ⟨rfl, Below.refl _ _⟩
    · have hb : (f k == x) = false := beq_eq_false_iff_ne.2 hfx
      have hne : k ≠ J := fun e => hfx (by rw [e]; exact HX.out)
      clear hfx
      go_wp2
      go_roundw
      case rel => exact ⟨k + 1, by omega, by go_num, by first | rfl | trivial⟩
      case measure => simp [intOf]; omega
set_option maxHeartbeats 1600000 in
theorem rows9_yes (w : World) (ha : Rw o w lo hi V m ln F) (hb : Rw o' w lo' hi' V' m ln F) (hm : m ≤ 1000) :
    Calls Try.prog 20 #[V, V'] w fun e w' => e = .returned (.bool true) ∧ Below w.heap.size w w' := by
  obtain ⟨a, cap, rfl⟩ := ha.shape
  obtain ⟨a', cap', rfl⟩ := hb.shape
  have HA := Lib.hid ha; clear ha
  have HB := Lib.hid hb; clear hb
  go_enter Try.func20, Try.ntmps20
  go_wp2
  go_loopw [5] (fun s5 wr => ∃ k : Nat, k ≤ m ∧ s5 = .int .i64 k ∧ Below w.heap.size w wr) (fun s5 _ => m - (intOf s5).toNat)
  case atStart => exact ⟨0, Nat.zero_le _, rfl, Below.refl _ _⟩
  case round =>
    obtain ⟨k, hk, rfl, hbl⟩ := hrel
    have HBL := Lib.hid hbl
    by_cases hlt : k < m
    · obtain ⟨g, off, c1, u, hv, hu⟩ := HA.out.at (by omega)
      obtain ⟨g', off', c1', u', hv', hu'⟩ := HB.out.at (by omega)
      obtain ⟨rfl, rfl⟩ : a = some ⟨g, off, none⟩ ∧ cap = c1 := by cases hv; exact ⟨rfl, rfl⟩
      obtain ⟨rfl, rfl⟩ : a' = some ⟨g', off', none⟩ ∧ cap' = c1' := by cases hv'; exact ⟨rfl, rfl⟩
      have hu2 := hu.keep hbl hu.size
      have hu2' := hu'.keep hbl hu'.size
      have hck := hu2.head hlt
      have hck' := hu2'.head hlt
      have hr := hu2.row hlt
      have hr' := hu2'.row hlt
      obtain ⟨b, c, hub⟩ := hr.shape
      obtain ⟨b', c', hub'⟩ := hr'.shape
      rw [hub] at hck hr
      rw [hub'] at hck' hr'
      have HR := Lib.hid hr
      have HR' := Lib.hid hr'
      clear hv hv' hu hu' hu2 hu2' hr hr' hub hub' hbl
      go_wp2
      go_region_law (go_simp; go_at_call 27; refine (likeInts_yes _ HR.out.drew HR'.out.drew (fun _ _ => rfl)).mono ?_; rintro e w1 ⟨rfl, b1⟩)
      all_goals
        go_wp2
        go_roundw
        case rel => exact ⟨k + 1, by omega, by go_num, by first | exact HBL.out.drew.trans (b1.mono HBL.out.drew.size) | exact (HBL.out.trans (b1.mono HBL.out.size)).drew | exact (HBL.out.drew.trans (b1.mono HBL.out.drew.size)).drew | exact HBL.out.trans (b1.mono HBL.out.size)⟩
        case measure => simp [intOf]; omega
    · clear hbl
      go_wp2
      go_ret
      exact ⟨rfl, HBL.out⟩
end
end

section
open Go.RowKit Go.ChangeShapes
set_option linter.unusedVariables false
set_option linter.unusedSimpArgs false

theorem Src.keep {w w' : World} {b : Nat} {p : Option Addr} {n q : Nat} (h : Src w b p n q) (hb : Below w.heap.size w w') : Src w' b p n q := by
  obtain ⟨a, x, h1, h2, h3, h4⟩ := h
  exact ⟨a, x, h1, h2, h3, h4.keep hb⟩
theorem Src.lt {w : World} {b : Nat} {p : Option Addr} {n q : Nat} (h : Src w b p n q) : b < w.heap.size := by
  obtain ⟨a, x, h1, h2, h3, h4⟩ := h
  exact h4.1
/-- A list just laid. -/
theorem Sl.list (w : World) (xs : List Int) (hx : ∀ x ∈ xs, inR x) (hl : xs.length ≤ maxLen) :
    Sl true (w.alloc (.cells (xs.map (Value.int .i64)).toArray 2)) w.heap.size (w.heap.size + 1) (.slice (some ⟨w.heap.size, 0, none⟩) xs.length xs.length) xs.length (fun j => xs.getD j 0) :=
  Sl.made w _ _ _ _ _ (Nat.le_refl _) hl (fun j hj => by
    rw [List.getD_eq_getElem?_getD, List.getElem?_eq_getElem hj]
    exact hx _ (List.getElem_mem hj)) (fun j hj => by simp [List.getD_eq_getElem?_getD, List.getElem?_eq_getElem hj])
section
variable {b B : Nat} {p : Option Addr} {n q : Nat}
end
end

section
open Go.RowKit Go.ChangeShapes Go.Sort
set_option linter.unusedVariables false
set_option linter.unusedSimpArgs false

section
variable {o o' : Bool} {lo hi lo' hi' L : Nat} {v v' : Value} {f g : Nat → Int}
/-- The first q numbers, and zeros behind them. -/
def part1 (f : Nat → Int) (q : Nat) : Nat → Int := fun j => if j < q then f j else 0
theorem part1_succ (f : Nat → Int) (q : Nat) : part1 f (q + 1) = fun j => if j = q then f q else part1 f q j := by
  funext j; unfold part1
  by_cases e : j = q
  · subst e; simp
  · rw [if_neg e]
    by_cases e2 : j < q
    · rw [if_pos e2, if_pos (by omega)]
    · rw [if_neg e2, if_neg (by omega)]
theorem convZ_zeros {f g : Nat → Int} {L M : Nat} (hLM : L ≤ M) (hz : ∀ j, L ≤ j → j < M → g j = 0) : ∀ i, convZ f g M i = convZ f g L i
  | 0 => rfl
  | i + 1 => by
    show addRow (f i) g i M (convZ f g M i) = addRow (f i) g i L (convZ f g L i)
    rw [convZ_zeros hLM hz i]
    funext j
    unfold addRow
    by_cases h : i ≤ j ∧ j < i + L
    · rw [if_pos h, if_pos (by omega)]
    · rw [if_neg h]
      by_cases h2 : i ≤ j ∧ j < i + M
      · rw [if_pos h2, hz (j - i) (by omega) (by omega), Int.mul_zero, Int.add_zero]
      · rw [if_neg h2]

end
end

section
open Go.RowKit Go.ChangeShapes Go.Sort
set_option linter.unusedVariables false
set_option linter.unusedSimpArgs false

/-- The list of the sum, as far as m places have been added. -/
def addQ (k : Int) (f g : Nat → Int) (m : Nat) : Nat → Int := fun j => if j < m then addF k f g j else f j
theorem addQ_succ (k : Int) (f g : Nat → Int) (m : Nat) : addQ k f g (m + 1) = fun j => if j = m then f m + k * g m else addQ k f g m j := by
  funext j
  unfold addQ addF
  by_cases e : j = m
  · subst e; simp
  · rw [if_neg e]
    by_cases e2 : j < m
    · rw [if_pos e2, if_pos (by omega)]
    · rw [if_neg e2, if_neg (by omega)]

theorem cell_set2 {w : World} {b g i j k : Nat} {u v x : Value} (h : w.cell? ⟨g, k, none⟩ = some x) (hb : g ≠ b) : ((w.setCell ⟨b, i, none⟩ u).setCell ⟨b, j, none⟩ v).cell? ⟨g, k, none⟩ = some x :=
  (World.cell?_setCell_other _ _ _ _ (fun e => hb (by injection e with e1; exact e1.symm))).trans ((World.cell?_setCell_other _ _ _ _ (fun e => hb (by injection e with e1; exact e1.symm))).trans h)
theorem Box.set2 {w : World} {b : Nat} {v0 v1 u0 u1 : Value} (h : Box w b [v0, v1]) : Box ((w.setCell ⟨b, 0, none⟩ u0).setCell ⟨b, 1, none⟩ u1) b [u0, u1] := by
  obtain ⟨h1, h2, h3⟩ := h
  have c0 := h2 0 _ rfl
  have c1 := h2 1 _ rfl
  refine ⟨by simpa using h1, ?_, ?_⟩
  · intro j v hj
    rcases j with _ | _ | j
    · simp only [List.getElem?_cons_zero, Option.some.injEq] at hj
      subst hj
      rw [setCell_ne _ _ _ _ _ (by decide)]
      exact World.cell?_setCell_same _ _ _ c0
    · simp only [List.getElem?_cons_succ, List.getElem?_cons_zero, Option.some.injEq] at hj
      subst hj
      exact World.cell?_setCell_same _ _ _ (by rw [setCell_ne _ _ _ _ _ (by decide)]; exact c1)
    · simp at hj
  · intro j
    simpa using h3 j

theorem St.tail {W w : World} {bs : List (Nat × List Value)} {ss : List SlF} {s : SlF} (h : St W w bs (s :: ss)) : St W w bs ss := ⟨h.1, h.2.1, fun x hx => h.2.2 x (List.mem_cons_of_mem _ hx)⟩
theorem St.boxNew {W w : World} {bs : List (Nat × List Value)} {ss : List SlF} (h : St W w bs ss) (v0 v1 : Value) (t : TypeId) : St W (w.alloc (.cells #[v0, v1] t)) ((w.heap.size, [v0, v1]) :: bs) ss :=
  (h.alloc _).addBox _ _ (Box.made _ _ _ _ (fun j v h => by simpa using h))
theorem St.boxSet {W w : World} {bs : List (Nat × List Value)} {ss : List SlF} {b : Nat} {v0 v1 u0 u1 : Value} (h : St W w ((b, [v0, v1]) :: bs) ss) (hb : W.heap.size ≤ b) (hbs : ∀ x ∈ bs, x.1 < b ∨ b + 1 ≤ x.1) (hss : ∀ s ∈ ss, s.hi ≤ b ∨ b + 1 ≤ s.lo) :
    St W ((w.setCell ⟨b, 0, none⟩ u0).setCell ⟨b, 1, none⟩ u1) ((b, [u0, u1]) :: bs) ss := by
  have hbx := (h.box 0 _ rfl).set2 (u0 := u0) (u1 := u1)
  have h2 : St W w bs ss := ⟨h.1, fun x hx => h.2.1 x (List.mem_cons_of_mem _ hx), h.2.2⟩
  exact (h2.write (lo := b) (hi := b + 1) (((Frame.refl b (b + 1) w).setCell (Nat.le_refl _) (Nat.lt_succ_self _) _).setCell (Nat.le_refl _) (Nat.lt_succ_self _) _) hb hbs hss).addBox _ _ hbx

section
variable {o o' : Bool} {lo hi lo' hi' L : Nat} {v v' : Value} {f g : Nat → Int}
end
end

section
open Go.RowKit Go.ChangeShapes Go.Sort
set_option linter.unusedVariables false
set_option linter.unusedSimpArgs false

theorem cell_set1 {w : World} {b g i k : Nat} {u x : Value} (h : w.cell? ⟨g, k, none⟩ = some x) (hb : g ≠ b) : (w.setCell ⟨b, i, none⟩ u).cell? ⟨g, k, none⟩ = some x :=
  (World.cell?_setCell_other _ _ _ _ (fun e => hb (by injection e with e1; exact e1.symm))).trans h

section
variable {o o' : Bool} {lo hi lo' hi' n m : Nat} {v v' : Value} {f g : Nat → Int}
end
end

section
open Go.RowKit Go.ChangeShapes Go.Sort
set_option linter.unusedVariables false
set_option linter.unusedSimpArgs false

section
variable {o o' : Bool} {lo hi lo' hi' L : Nat} {v v' : Value} {f g : Nat → Int}
end
end

section
open Go.RowKit Go.ChangeShapes Go.Sort
set_option linter.unusedVariables false
set_option linter.unusedSimpArgs false

theorem Box.made2 {w : World} {b : Nat} {v0 v1 : Value} {t : TypeId} (h : b = w.heap.size) : Box (w.alloc (.cells #[v0, v1] t)) b [v0, v1] := by
  subst h
  exact Box.made _ _ _ _ (fun j v h => by simpa using h)
theorem Box.alloc2 {w : World} {b : Nat} {vs : List Value} (h : Box w b vs) (ob : Obj) : Box (w.alloc ob) b vs := h.keep ((Below.refl _ _).alloc (Nat.le_refl _) _)
theorem Box.drew2 {w : World} {b : Nat} {vs : List Value} (h : Box w b vs) : Box w.drew b vs := h.keep (Below.refl _ _).drew
theorem Box.set2_other {w : World} {b c i j : Nat} {u v : Value} {vs : List Value} (h : Box w b vs) (hc : b ≠ c) : Box ((w.setCell ⟨c, i, none⟩ u).setCell ⟨c, j, none⟩ v) b vs :=
  h.keepF (lo := c) (hi := c + 1) (((Frame.refl c (c + 1) w).setCell (Nat.le_refl _) (Nat.lt_succ_self _) _).setCell (Nat.le_refl _) (Nat.lt_succ_self _) _) (by omega)
theorem St.tailB {W w : World} {bs : List (Nat × List Value)} {ss : List SlF} {b : Nat × List Value} (h : St W w (b :: bs) ss) : St W w bs ss := ⟨h.1, fun x hx => h.2.1 x (List.mem_cons_of_mem _ hx), h.2.2⟩
theorem St.set2 {W w : World} {bs : List (Nat × List Value)} {ss : List SlF} {b i j : Nat} {u v : Value} (h : St W w bs ss) (hb : W.heap.size ≤ b) (hbs : ∀ x ∈ bs, x.1 < b ∨ b + 1 ≤ x.1) (hss : ∀ s ∈ ss, s.hi ≤ b ∨ b + 1 ≤ s.lo) :
    St W ((w.setCell ⟨b, i, none⟩ u).setCell ⟨b, j, none⟩ v) bs ss :=
  h.write (lo := b) (hi := b + 1) (((Frame.refl b (b + 1) w).setCell (Nat.le_refl _) (Nat.lt_succ_self _) _).setCell (Nat.le_refl _) (Nat.lt_succ_self _) _) hb hbs hss

section
variable {W w : World} {bs : List (Nat × List Value)} {ss : List SlF} {n u6 u7 c0 c1 : Value} {t : TypeId} {ob : Obj} {lo8 hi8 lo9 hi9 N k8 k9 p r : Nat} {a8 a9 : Option Addr} {f8 f9 : Nat → Int}
theorem fin1 (h : St W w bs ss) (h8 : Sl true w lo8 hi8 (.slice a8 N k8) N f8) (h9 : Sl true w lo9 hi9 (.slice a9 N k9) N f9) :
    St W ((w.alloc (.cells #[n, u6] t)).alloc (.cells #[n, u7] t)) ((w.heap.size + 1, [n, u7]) :: (w.heap.size, [n, u6]) :: bs) (⟨true, lo9, hi9, .slice a9 N k9, N, f9⟩ :: ⟨true, lo8, hi8, .slice a8 N k8, N, f8⟩ :: ss) := by
  have := (((h.addSl ⟨true, lo8, hi8, .slice a8 N k8, N, f8⟩ h8).addSl ⟨true, lo9, hi9, .slice a9 N k9, N, f9⟩ h9).boxNew n u6 t).boxNew n u7 t
  simpa only [World.size_alloc] using this
theorem St.swap {b1 b2 : Nat × List Value} (h : St W w (b1 :: b2 :: bs) ss) : St W w (b2 :: b1 :: bs) ss :=
  ⟨h.1, fun x hx => h.2.1 x (by simp only [List.mem_cons] at hx ⊢; rcases hx with h | h | h <;> simp [h]), h.2.2⟩
theorem fin2 (h : St W w bs ss) (h8 : Sl true w lo8 hi8 (.slice a8 N k8) N f8) (h9 : Sl true w lo9 hi9 (.slice a9 N k9) N f9) :
    St W ((w.alloc (.cells #[n, u7] t)).alloc (.cells #[n, u6] t)) ((w.heap.size, [n, u7]) :: (w.heap.size + 1, [n, u6]) :: bs) (⟨true, lo9, hi9, .slice a9 N k9, N, f9⟩ :: ⟨true, lo8, hi8, .slice a8 N k8, N, f8⟩ :: ss) :=
  (by
    have := (((h.addSl ⟨true, lo8, hi8, .slice a8 N k8, N, f8⟩ h8).addSl ⟨true, lo9, hi9, .slice a9 N k9, N, f9⟩ h9).boxNew n u7 t).boxNew n u6 t
    simp only [World.size_alloc] at this
    exact this.swap)
theorem St.sets (h : St W w bs ss) (h8 : Sl true w lo8 hi8 (.slice a8 N k8) N f8) (h9 : Sl true w lo9 hi9 (.slice a9 N k9) N f9) (hp : W.heap.size ≤ p) (hbs : ∀ x ∈ bs, x.1 < p) (hss : ∀ s ∈ ss, s.hi ≤ p) (hp8 : p < lo8 ∨ hi8 ≤ p) (hp9 : p < lo9 ∨ hi9 ≤ p) {u v : Value} :
    St W ((w.setCell ⟨p, 0, none⟩ u).setCell ⟨p, 1, none⟩ v) bs ss ∧ Sl true ((w.setCell ⟨p, 0, none⟩ u).setCell ⟨p, 1, none⟩ v) lo8 hi8 (.slice a8 N k8) N f8 ∧ Sl true ((w.setCell ⟨p, 0, none⟩ u).setCell ⟨p, 1, none⟩ v) lo9 hi9 (.slice a9 N k9) N f9 :=
  ⟨h.set2 hp (fun x hx => .inl (hbs x hx)) (fun s hs => .inl (hss s hs)), (h8.setOther hp8 _).setOther hp8 _, (h9.setOther hp9 _).setOther hp9 _⟩
theorem fin4 (h : St W w bs ss) (h8 : Sl true w lo8 hi8 (.slice a8 N k8) N f8) (h9 : Sl true w lo9 hi9 (.slice a9 N k9) N f9) (bp : Box w p [c0, c1]) (br : Box w r [c0, c1]) (hpr : p ≠ r)
    (hp : W.heap.size ≤ p) (hbs : ∀ x ∈ bs, x.1 < p) (hss : ∀ s ∈ ss, s.hi ≤ p) (hp8 : p < lo8 ∨ hi8 ≤ p) (hp9 : p < lo9 ∨ hi9 ≤ p)
    (hr : W.heap.size ≤ r) (hbr : ∀ x ∈ bs, x.1 < r) (hsr : ∀ s ∈ ss, s.hi ≤ r) (hr8 : r < lo8 ∨ hi8 ≤ r) (hr9 : r < lo9 ∨ hi9 ≤ r) :
    St W ((((w.setCell ⟨p, 0, none⟩ n).setCell ⟨p, 1, none⟩ u6).setCell ⟨r, 0, none⟩ n).setCell ⟨r, 1, none⟩ u7) ((r, [n, u7]) :: (p, [n, u6]) :: bs) (⟨true, lo9, hi9, .slice a9 N k9, N, f9⟩ :: ⟨true, lo8, hi8, .slice a8 N k8, N, f8⟩ :: ss) := by
  obtain ⟨i1, i2, i3⟩ := St.sets h h8 h9 hp hbs hss hp8 hp9 (u := n) (v := u6)
  obtain ⟨j1, j2, j3⟩ := St.sets i1 i2 i3 hr hbr hsr hr8 hr9 (u := n) (v := u7)
  exact (((j1.addSl ⟨true, lo8, hi8, .slice a8 N k8, N, f8⟩ j2).addSl ⟨true, lo9, hi9, .slice a9 N k9, N, f9⟩ j3).addBox p [n, u6] ((bp.set2).set2_other hpr)).addBox r [n, u7] ((br.set2_other (Ne.symm hpr)).set2)
theorem fin3 (h : St W w bs ss) (h8 : Sl true w lo8 hi8 (.slice a8 N k8) N f8) (h9 : Sl true w lo9 hi9 (.slice a9 N k9) N f9) (bp : Box w p [c0, c1])
    (hp : W.heap.size ≤ p) (hbs : ∀ x ∈ bs, x.1 < p) (hss : ∀ s ∈ ss, s.hi ≤ p) (hp8 : p < lo8 ∨ hi8 ≤ p) (hp9 : p < lo9 ∨ hi9 ≤ p) :
    St W (((((w.alloc (.cells #[c0, c1] t)).setCell ⟨p, 0, none⟩ n).setCell ⟨p, 1, none⟩ u6).setCell ⟨w.heap.size, 0, none⟩ n).setCell ⟨w.heap.size, 1, none⟩ u7) ((w.heap.size, [n, u7]) :: (p, [n, u6]) :: bs) (⟨true, lo9, hi9, .slice a9 N k9, N, f9⟩ :: ⟨true, lo8, hi8, .slice a8 N k8, N, f8⟩ :: ss) := by
  have hlt := bp.1
  have z8 := h8.size
  have z9 := h9.size
  exact fin4 (h.alloc _) (h8.alloc _) (h9.alloc _) (bp.alloc2 _) (Box.made2 rfl) (by omega) hp hbs hss hp8 hp9 (by omega) (fun x hx => by have := hbs x hx; omega) (fun s hs => by have := hss s hs; omega) (by omega) (by omega)
theorem fin5 (h : St W w bs ss) (h8 : Sl true w lo8 hi8 (.slice a8 N k8) N f8) (h9 : Sl true w lo9 hi9 (.slice a9 N k9) N f9) (bp : Box w p [c0, c1])
    (hp : W.heap.size ≤ p) (hbs : ∀ x ∈ bs, x.1 < p) (hss : ∀ s ∈ ss, s.hi ≤ p) (hp8 : p < lo8 ∨ hi8 ≤ p) (hp9 : p < lo9 ∨ hi9 ≤ p) :
    St W (((w.alloc (.cells #[n, u6] t)).setCell ⟨p, 0, none⟩ n).setCell ⟨p, 1, none⟩ u7) ((p, [n, u7]) :: (w.heap.size, [n, u6]) :: bs) (⟨true, lo9, hi9, .slice a9 N k9, N, f9⟩ :: ⟨true, lo8, hi8, .slice a8 N k8, N, f8⟩ :: ss) := by
  have hlt := bp.1
  obtain ⟨i1, i2, i3⟩ := St.sets (h.alloc (.cells #[n, u6] t)) (h8.alloc _) (h9.alloc _) hp hbs hss hp8 hp9 (u := n) (v := u7)
  exact (((i1.addSl ⟨true, lo8, hi8, .slice a8 N k8, N, f8⟩ i2).addSl ⟨true, lo9, hi9, .slice a9 N k9, N, f9⟩ i3).addBox w.heap.size [n, u6] ((Box.made2 rfl).set2_other (by omega))).addBox p [n, u7] ((bp.alloc2 _).set2)
end

section
variable {o o' : Bool} {lo hi lo' hi' L : Nat} {v v' : Value} {f g : Nat → Int}
end
end

section
open Go.RowKit Go.ChangeShapes Go.Sort
set_option linter.unusedVariables false
set_option linter.unusedSimpArgs false
theorem Src.keepF {w w' : World} {b lo hi : Nat} {p : Option Addr} {n q : Nat} (h : Src w b p n q) (hf : Frame lo hi w w') (hd : b < lo ∨ hi ≤ b) : Src w' b p n q := by
  obtain ⟨a, x, h1, h2, h3, h4⟩ := h
  exact ⟨a, x, h1, h2, h3, h4.keepF hf hd⟩
theorem Bytes.frameG {w w' : World} {B lo hi : Nat} {p : Option Addr} {n : Nat} (h : Bytes w B p n) (hf : Frame lo hi w w') (hB : B ≤ lo) : Bytes w' B p n :=
  ⟨h.1, fun j hj => by
    obtain ⟨g, off, c, e, h1, h2, h3, h4⟩ := h.2 j hj
    exact ⟨g, off, c, e, h1, Nat.lt_of_lt_of_le h2 hf.size, (hf.cell (p := ⟨g, off + j, none⟩) h2 (.inl (by show g < lo; omega))).trans h3, h4⟩⟩
section
variable {b B : Nat} {p : Option Addr} {n q : Nat}
end
end

section
open Go.RowKit Go.ChangeShapes Go.Sort
set_option linter.unusedVariables false
set_option linter.unusedSimpArgs false
section
variable {b B : Nat} {p : Option Addr} {n q : Nat}
end
end

section
open Go.RowKit Go.ChangeShapes Go.Sort
set_option linter.unusedVariables false
set_option linter.unusedSimpArgs false

/-- The source lies in the block b, its bytes below B; boxes and slices lie apart from it. -/
def Ds (b B : Nat) (p : Option Addr) (n q : Nat) (W w : World) (bs : List (Nat × List Value)) (ss : List SlF) : Prop :=
  Frame b (b + 1) W w ∧ Src w b p n q ∧ Bytes w B p n ∧ (B ≤ b ∧ B ≤ W.heap.size) ∧ (∀ x ∈ bs, Box w x.1 x.2 ∧ x.1 ≠ b) ∧ (∀ s ∈ ss, Sl s.o w s.lo s.hi s.v s.n s.f ∧ (s.hi ≤ b ∨ b + 1 ≤ s.lo))
theorem Frame.set {lo hi g o : Nat} {a w : World} (h : Frame lo hi a w) (hl : lo ≤ g) (hh : g < hi) (u : Value) : Frame lo hi a (w.setCell ⟨g, o, none⟩ u) := h.setCell (p := ⟨g, o, none⟩) hl hh u
section
variable {b B : Nat} {p : Option Addr} {n q : Nat} {W w w' : World} {bs : List (Nat × List Value)} {ss : List SlF}
theorem Ds.start (hs : Src W b p n q) (hb : Bytes W B p n) (hB : B ≤ b) : Ds b B p n q W W [] [] :=
  ⟨Frame.refl _ _ _, hs, hb, ⟨hB, Nat.le_of_lt (Nat.lt_of_le_of_lt hB hs.lt)⟩, (fun _ h => absurd h List.not_mem_nil), (fun _ h => absurd h List.not_mem_nil)⟩
theorem Ds.src (h : Ds b B p n q W w bs ss) : Src w b p n q := h.2.1
theorem Ds.bytes (h : Ds b B p n q W w bs ss) : Bytes w B p n := h.2.2.1
theorem Ds.low (h : Ds b B p n q W w bs ss) : B ≤ b := h.2.2.2.1.1
theorem Ds.at (hB : B ≤ W.heap.size) (h0 : Below W.heap.size W w) (hs : Src w b p n q) (hb : Bytes w B p n) (hBb : B ≤ b) : Ds b B p n q W w [] [] :=
  ⟨Frame.of_below h0 (Nat.le_refl _), hs, hb, ⟨hBb, hB⟩, (fun _ h => absurd h List.not_mem_nil), (fun _ h => absurd h List.not_mem_nil)⟩
theorem Ds.below (h : Ds b B p n q W w bs ss) (hb : W.heap.size ≤ b) : Below W.heap.size W w := h.1.below hb (Nat.le_refl _)
theorem Ds.lt (h : Ds b B p n q W w bs ss) : b < w.heap.size := h.2.1.lt
theorem Ds.frame (h : Ds b B p n q W w bs ss) : Frame b (b + 1) W w := h.1
theorem Ds.size (h : Ds b B p n q W w bs ss) : W.heap.size ≤ w.heap.size := h.1.size
theorem Ds.box (h : Ds b B p n q W w bs ss) (i : Nat) (x : Nat × List Value) (hi : bs[i]? = some x) : Box w x.1 x.2 := (h.2.2.2.2.1 x (List.mem_of_getElem? hi)).1
theorem Ds.sl (h : Ds b B p n q W w bs ss) (i : Nat) (s : SlF) (hi : ss[i]? = some s) : Sl s.o w s.lo s.hi s.v s.n s.f := (h.2.2.2.2.2 s (List.mem_of_getElem? hi)).1
theorem Ds.apart (h : Ds b B p n q W w bs ss) (i : Nat) (s : SlF) (hi : ss[i]? = some s) : s.hi ≤ b ∨ b + 1 ≤ s.lo := (h.2.2.2.2.2 s (List.mem_of_getElem? hi)).2
theorem Ds.keep (h : Ds b B p n q W w bs ss) (hb : Below w.heap.size w w') : Ds b B p n q W w' bs ss :=
  ⟨h.1.trans (Frame.of_below hb (Nat.le_refl _)), h.2.1.keep hb, h.2.2.1.below hb, h.2.2.2.1, fun x hx => ⟨(h.2.2.2.2.1 x hx).1.keep hb, (h.2.2.2.2.1 x hx).2⟩, fun s hs => ⟨(h.2.2.2.2.2 s hs).1.keep hb (h.2.2.2.2.2 s hs).1.size, (h.2.2.2.2.2 s hs).2⟩⟩
/-- A number has been drawn. -/
theorem Ds.draw (h : Ds b B p n q W w bs ss) (hs : Src w' b p n q) (hf : Frame b (b + 1) w w') : Ds b B p n q W w' bs ss :=
  ⟨h.1.trans hf, hs, h.2.2.1.frame hf h.low, h.2.2.2.1, fun x hx => ⟨(h.2.2.2.2.1 x hx).1.keepF hf (by have := (h.2.2.2.2.1 x hx).2; omega), (h.2.2.2.2.1 x hx).2⟩, fun s hs => ⟨(h.2.2.2.2.2 s hs).1.keepF hf (h.2.2.2.2.2 s hs).2, (h.2.2.2.2.2 s hs).2⟩⟩
theorem Ds.alloc (h : Ds b B p n q W w bs ss) (o : Obj) : Ds b B p n q W (w.alloc o) bs ss := h.keep ((Below.refl _ _).alloc (Nat.le_refl _) _)
theorem Ds.drew (h : Ds b B p n q W w bs ss) : Ds b B p n q W w.drew bs ss := h.keep (Below.refl _ _).drew
theorem Ds.addSl (h : Ds b B p n q W w bs ss) (s : SlF) (hs : Sl s.o w s.lo s.hi s.v s.n s.f) (ha : s.hi ≤ b ∨ b + 1 ≤ s.lo) : Ds b B p n q W w bs (s :: ss) :=
  ⟨h.1, h.2.1, h.2.2.1, h.2.2.2.1, h.2.2.2.2.1, fun x hx => by
    rcases List.mem_cons.1 hx with rfl | hx
    · exact ⟨hs, ha⟩
    · exact h.2.2.2.2.2 x hx⟩
theorem Ds.addBox (h : Ds b B p n q W w bs ss) (c : Nat) (vs : List Value) (hb : Box w c vs) (hc : c ≠ b) : Ds b B p n q W w ((c, vs) :: bs) ss :=
  ⟨h.1, h.2.1, h.2.2.1, h.2.2.2.1, fun x hx => by
    rcases List.mem_cons.1 hx with rfl | hx
    · exact ⟨hb, hc⟩
    · exact h.2.2.2.2.1 x hx, h.2.2.2.2.2⟩
/-- A new box. -/
theorem Ds.newBox (h : Ds b B p n q W w bs ss) (vs : List Value) (t : TypeId) : Ds b B p n q W (w.alloc (.cells vs.toArray t)) ((w.heap.size, vs) :: bs) ss :=
  (h.alloc _).addBox _ _ (Box.made _ _ _ _ (fun j v h => by simpa using h)) (by have := h.lt; omega)
/-- Cells of a block of the call's own are written. -/
theorem Ds.write (h : Ds b B p n q W w bs ss) {lo hi : Nat} (hf : Frame lo hi w w') (hlo : W.heap.size ≤ lo) (hbl : b < lo ∨ hi ≤ b) (bs' : List (Nat × List Value)) (ss' : List SlF) (hbs : ∀ x ∈ bs', x ∈ bs ∧ (x.1 < lo ∨ hi ≤ x.1)) (hss : ∀ s ∈ ss', s ∈ ss ∧ (s.hi ≤ lo ∨ hi ≤ s.lo)) : Ds b B p n q W w' bs' ss' :=
  ⟨⟨hf.os.trans h.1.os, hf.tape.trans h.1.tape, hf.output.trans h.1.output, Nat.le_trans h.1.size hf.size, fun k hk hd => (hf.block k (Nat.lt_of_lt_of_le hk h.1.size) (.inl (by omega))).trans (h.1.block k hk hd)⟩, h.2.1.keepF hf hbl, h.2.2.1.frameG hf (by have := h.2.2.2.1.2; omega), h.2.2.2.1, fun x hx => ⟨(h.2.2.2.2.1 x (hbs x hx).1).1.keepF hf (hbs x hx).2, (h.2.2.2.2.1 x (hbs x hx).1).2⟩, fun s hs => ⟨(h.2.2.2.2.2 s (hss s hs).1).1.keepF hf (hss s hs).2, (h.2.2.2.2.2 s (hss s hs).1).2⟩⟩
end
end

section
open Go.RowKit Go.ChangeShapes Go.Sort
set_option linter.unusedVariables false
set_option linter.unusedSimpArgs false
set_option maxHeartbeats 400000 in
/-- A copy of a list that is not empty, as a list that grows. -/
theorem l01Own_row {o : Bool} {lo hi n : Nat} {v : Value} {f : Nat → Int} (w : World) (hs : Sl o w lo hi v n f) (h0 : 0 < n) (hn : n ≤ 1048576) :
    Calls Try.prog 93 #[v] w fun e w' => ∃ g' cap', e = .returned (.slice (some ⟨g', 0, none⟩) n cap') ∧ Row w' w.heap.size g' cap' n f ∧ Below w.heap.size w w' := by
  have hbd := hs.bd
  obtain ⟨i0, hi, hz0, hz1, hz2⟩ := info_parts Try.info2
  have hrow := World.ownsRow_made (e := 2) (size := 1) (base := w.heap.size) w #[] 0 (Nat.le_refl _) (Nat.zero_le _) rfl
  rcases hs.parts with ⟨rfl, rfl⟩ | ⟨ad, cap, rfl, hcell⟩
  · exact absurd h0 (Nat.lt_irrefl _)
  · have hm := hs.len
    have HS := Lib.hid hs; clear hs
    have HC := Lib.hid (fun j u hu => cell_later ((Below.refl w.heap.size w).alloc (Nat.le_refl _) (.cells #[] 2)) (hcell j u hu)); clear hcell
    have HB := Lib.hid hbd; clear hbd
    have HR := Lib.hid hrow; clear hrow
    go_enter Try.func93, Try.ntmps93
    go_wp2_with (at_builtin; refine wpList_append_own _ rfl (.tmp 3) (.tmp 4) 33 rfl w.heap.size 2 i0 (.int .i64 0) 1 8 Try.underlying33 hi hz0 hz1 hz2 rfl (by decide) _ 0 [] rfl HR.out ad n cap ((List.range n).map (fun j => Value.int .i64 (f j))) rfl (by simp) HC.out (fun x hx => by obtain ⟨j, _, rfl⟩ := List.mem_map.1 hx; rfl) (by omega) (by omega) (by simp) ?_; intro v' w1 hown hgrow _)
    go_ret
    simp only [Nat.zero_add, List.nil_append] at hown
    obtain ⟨g1, cap1, rfl, _, _⟩ := hown.form h0
    exact ⟨g1, cap1, rfl, hown, ((Below.refl _ _).alloc (Nat.le_refl _) _).grown hgrow (by simp) (fun k hk => by cases hk; exact Nat.le_refl _)⟩
/-- A number has been drawn, or something that is none: its Parts lie from the block lo on. -/
def DrC (b : Nat) (p : Option Addr) (n q lo M : Nat) (w : World) (e : Ending) (w' : World) : Prop :=
  ∃ (x : Int) (L : Nat) (a : Option Addr) (cap : Nat) (f : Nat → Int) (lo' hi' : Nat), e = .returned (.agg #[.int .i64 x, .slice a L cap]) ∧ inR x ∧ 0 < L ∧ L ≤ M ∧ Sl false w' lo' hi' (.slice a L cap) L f ∧ lo ≤ lo' ∧ Src w' b p n q ∧ Frame b (b + 1) w w'
theorem Row.sl {w : World} {base g cap n : Nat} {f : Nat → Int} (h : Row w base g cap n f) (hr : ∀ j, j < n → inR (f j)) (hm : n ≤ maxLen) : Sl true w base w.heap.size (.slice (some ⟨g, 0, none⟩) n cap) n f :=
  Sl.ofRowF h hr hm
section
variable {b B : Nat} {p : Option Addr} {n q : Nat} {o : Bool} {lo hi L : Nat} {v : Value} {f : Nat → Int}
end
end

section
open Go.RowKit Go.ChangeShapes Go.Sort
set_option linter.unusedVariables false
set_option linter.unusedSimpArgs false
/-- A prime and a divisor, or what is none. -/
def DrP6 (b : Nat) (p : Option Addr) (n q : Nat) (w : World) (e : Ending) (w' : World) : Prop :=
  ∃ P E : Int, e = .returned (.tuple #[.int .i64 P, .int .i64 E]) ∧ -3 ≤ P ∧ P ≤ 67 ∧ 0 ≤ E ∧ E ≤ 13 ∧ Src w' b p n q ∧ Frame b (b + 1) w w'
theorem l06Primes_any (w : World) : Calls Try.prog 83 #[] w fun e w' => e = .returned (.slice (some ⟨w.heap.size, 0, none⟩) 17 17) ∧ w' = w.alloc (.cells ([3, 5, 7, 11, 13, 17, 19, 23, 29, 31, 37, 41, 43, 47, 53, 59, 61].map (Value.int .i64)).toArray 2) := by
  go_enter Try.func83, Try.ntmps83
  go_wp2
  go_ret
  exact ⟨rfl, rfl⟩
theorem primes_in : ∀ i, i < 17 → 3 ≤ ([3, 5, 7, 11, 13, 17, 19, 23, 29, 31, 37, 41, 43, 47, 53, 59, 61] : List Int).getD i 0 ∧ ([3, 5, 7, 11, 13, 17, 19, 23, 29, 31, 37, 41, 43, 47, 53, 59, 61] : List Int).getD i 0 ≤ 61 := by decide
section
variable {b B : Nat} {p : Option Addr} {n q : Nat}
set_option maxRecDepth 100000 in
set_option maxHeartbeats 8000000 in
theorem l06Draw_any (w : World) (hs : Src w b p n q) (hb : Bytes w B p n) (hB : B ≤ b) :
    Calls Try.prog 59 #[.pointer (some ⟨b, 0, none⟩)] w fun e w' => DrP6 b p n q w e w' := by
  have st0 := Ds.start hs hb hB
  have hbz := hs.lt
  clear hs hb
  go_enter Try.func59, Try.ntmps59
  have hl := Sl.list w [3, 5, 7, 11, 13, 17, 19, 23, 29, 31, 37, 41, 43, 47, 53, 59, 61] (by intro t ht; simp only [List.mem_cons, List.not_mem_nil, or_false] at ht; unfold inR; rcases ht with rfl | rfl | rfl | rfl | rfl | rfl | rfl | rfl | rfl | rfl | rfl | rfl | rfl | rfl | rfl | rfl | rfl <;> omega) (by simp [maxLen])
  replace st0 := st0.alloc (.cells ([3, 5, 7, 11, 13, 17, 19, 23, 29, 31, 37, 41, 43, 47, 53, 59, 61].map (Value.int .i64)).toArray 2)
  have HL0 := Lib.hid (st0.addSl ⟨true, w.heap.size, w.heap.size + 1, .slice (some ⟨w.heap.size, 0, none⟩) 17 17, 17, fun i => ([3, 5, 7, 11, 13, 17, 19, 23, 29, 31, 37, 41, 43, 47, 53, 59, 61] : List Int).getD i 0⟩ hl (.inr (by dsimp only; omega)))
  clear hl st0
  go_wp2_with fail
  refine (l06Primes_any _).mono ?_
  rintro e w1 ⟨rfl, rfl⟩
  go_wp2_with fail
  refine (l01Next_any _ _ _ _ _ 17 _ HL0.out.src HL0.out.bytes HL0.out.low (by omega) (by omega)).mono ?_
  rintro e w2 ⟨r, rfl, hr1, hr2, hs2, f2⟩
  obtain ⟨i, rfl⟩ := Int.eq_ofNat_of_zero_le hr1
  have hi17 : i < 17 := by omega
  have st2 := HL0.out.draw hs2 f2
  have hci := ((st2.sl 0 ⟨true, w.heap.size, w.heap.size + 1, .slice (some ⟨w.heap.size, 0, none⟩) 17 17, 17, fun i => ([3, 5, 7, 11, 13, 17, 19, 23, 29, 31, 37, 41, 43, 47, 53, 59, 61] : List Int).getD i 0⟩ rfl).known (by show 0 < 17; omega)).2.2.2.1 i hi17
  rw [Nat.zero_add] at hci
  have hPb := primes_in i hi17
  dsimp only at hci
  obtain ⟨P, hP⟩ : ∃ P, ([3, 5, 7, 11, 13, 17, 19, 23, 29, 31, 37, 41, 43, 47, 53, 59, 61] : List Int).getD i 0 = P := ⟨_, rfl⟩
  rw [hP] at hci hPb
  obtain ⟨hP1, hP2⟩ := hPb
  have hz2 := f2.size
  simp only [World.size_alloc] at hz2
  have HR := Lib.hid (Row.made w2 w2.heap.size (fun _ => 0) (Nat.le_refl _))
  have ST := Lib.hid st2
  clear st2 hs2 f2 HL0 hP
  go_wp2
  go_loopw [6, 7] (fun s6 s7 wr => ∃ (k m g cap : Nat) (f : Nat → Int), 1 ≤ k ∧ k ≤ 13 ∧ s7 = .int .i64 k ∧ s6 = .slice (some ⟨g, 0, none⟩) m cap ∧ m ≤ k - 1 ∧ (2 ≤ k → 1 ≤ m) ∧ (∀ j, j < m → 1 ≤ f j ∧ f j ≤ 12) ∧ Row wr w2.heap.size g cap m f ∧ Below w2.heap.size w2 wr) (fun _ s7 _ => 13 - (intOf s7).toNat)
  case atStart => exact ⟨1, 0, w2.heap.size, 0, fun _ => 0, by omega, by omega, rfl, rfl, by omega, by omega, fun j hj => absurd hj (Nat.not_lt_zero _), HR.out, (Below.refl _ _).alloc (Nat.le_refl _) _⟩
  case round =>
    clear HR
    rename World => wo
    obtain ⟨k, m, g, cap, f, hk1, hk2, rfl, rfl, hm, hm1, hf, hrow, hbl⟩ := hrel
    have HF := Lib.hid hf
    have R3 := Lib.hid hrow
    have HB := Lib.hid hbl
    have hg := hrow.lt
    have hzr := hbl.size
    have hk0 : ¬ k = 0 := by omega
    clear hf hrow hbl
    by_cases hlt : k ≤ 12
    · have hltI : (k : Int) ≤ 12 := by omega
      by_cases hd : (P - 1) % (k : Int) = 0
      · have ed : ((P - 1) % (k : Int) == 0) = true := by rw [beq_iff_eq]; exact hd
        clear hd
        have hyk : inR (k : Int) := by unfold inR; omega
        go_wp2_with (at_builtin; refine wpList_push rfl (.tmp 25) (.tmp 27) rfl rfl w2.heap.size g cap m f rfl (R3.out.alloc _) wo.heap.size (k : Int) rfl (heap_alloc_new wo _) (by omega) ?_; intro gA kA wA rowA grA orA ltA
                     have hzA := grA.size
                     simp only [World.size_alloc] at hzA
                     have RA := Lib.hid rowA
                     have BA := Lib.hid ((HB.out.alloc hzr (.cells #[.int .i64 (k : Int)] 2)).grown grA (by simp only [World.size_alloc]; omega) (fun i hi => by cases hi; exact hg.1))
                     clear rowA grA orA)
        go_roundw
        case rel =>
          refine ⟨k + 1, m + 1, gA, kA, fun j => if j < m then f j else (k : Int), by omega, by omega, by go_num, rfl, by omega, by omega, fun j hj => ?_, RA.out, BA.out⟩
          dsimp only
          by_cases e : j < m
          · rw [if_pos e]; exact HF.out j e
          · rw [if_neg e]; omega
        case measure => simp [intOf]; omega
      · have ed : ((P - 1) % (k : Int) == 0) = false := by rw [beq_eq_false_iff_ne]; exact hd
        have hk2' : 2 ≤ k := by
          by_cases e : k = 1
          · subst e; exact absurd (Int.emod_one _) hd
          · omega
        clear hd
        go_wp2
        go_roundw
        case rel => exact ⟨k + 1, m, g, cap, f, by omega, by omega, by go_num, rfl, by omega, by omega, HF.out, R3.out, HB.out⟩
        case measure => simp [intOf]; omega
    · have hm2 := hm1 (by omega)
      have st1 := (ST.out.keep HB.out).addSl ⟨true, w2.heap.size, wo.heap.size, .slice (some ⟨g, 0, none⟩) m cap, m, f⟩ (Sl.ofRowF R3.out (fun j hj => by have := HF.out j hj; unfold inR; dsimp only at hj ⊢; omega) (by unfold maxLen; dsimp only; omega)) (.inr (by dsimp only; omega))
      clear ST
      go_wp2_with fail
      refine (l01Next_any _ _ _ _ _ (m : Int) _ st1.src st1.bytes st1.low (by omega) (by omega)).mono ?_
      rintro e w3 ⟨r, rfl, hr1, hr2, hs3, f3⟩
      obtain ⟨j, rfl⟩ := Int.eq_ofNat_of_zero_le hr1
      have hjm : j < m := by omega
      have st3 := st1.draw hs3 f3
      obtain ⟨_, _, _, hc, _⟩ := (st3.sl 0 ⟨true, w2.heap.size, wo.heap.size, .slice (some ⟨g, 0, none⟩) m cap, m, f⟩ rfl).known (by omega)
      have hcj := hc j hjm
      rw [Nat.zero_add] at hcj
      obtain ⟨hE1, hE2⟩ := HF.out j hjm
      have S3 := Lib.hid st3
      clear hc st1 st3 hs3 f3
      clear hci
      go_wp2_with fail
      refine (l01Next_any _ _ _ _ _ 40 _ S3.out.src S3.out.bytes S3.out.low (by omega) (by omega)).mono ?_
      rintro e w4 ⟨r4, rfl, hr41, hr42, hs4, f4⟩
      have hz_w4 := f4.size
      have hz3 := S3.out.size
      have st4 := S3.out.draw hs4 f4
      clear S3 hs4 f4
      by_cases e0 : r4 = 0
      · subst e0
        have hl := Sl.list (w4) [2, 9, 67, -3] (by intro t ht; simp only [List.mem_cons, List.not_mem_nil, or_false] at ht; unfold inR; rcases ht with rfl | rfl | rfl | rfl <;> omega) (by simp [maxLen])
        replace st4 := st4.alloc (.cells ([2, 9, 67, -3].map (Value.int .i64)).toArray 2)
        simp only [List.map_cons, List.map_nil, List.length_cons, List.length_nil, World.size_alloc] at hl st4
        have hall : ∀ t ∈ ([2, 9, 67, -3] : List Int), (fun x : Int => -3 ≤ x ∧ x ≤ 67) t := by intro t ht; simp only [List.mem_cons, List.not_mem_nil, or_false] at ht; (try dsimp only); rcases ht with rfl | rfl | rfl | rfl <;> omega
        have HALL := Lib.hid hall
        clear hall
        go_wp2_with fail
        refine (l01Pick_any _ _ _ _ _ _ st4.src st4.bytes st4.low hl (.inr (by omega)) (by omega) (by omega)).mono ?_
        rintro e w5 ⟨i_w5, hi_w5, rfl, hs_w5, f_w5⟩
        have hz_w5 := f_w5.size
        try simp only [World.size_alloc] at hz_w5
        have st5 := st4.draw hs_w5 f_w5
        clear hl st4 hs_w5 f_w5
        have h_y : (fun x : Int => -3 ≤ x ∧ x ≤ 67) (([2, 9, 67, -3] : List Int).getD i_w5 0) := by
          rw [List.getD_eq_getElem?_getD, List.getElem?_eq_getElem (by simpa using hi_w5)]
          exact HALL.out _ (List.getElem_mem _)
        generalize ([2, 9, 67, -3] : List Int).getD i_w5 0 = y at *
        try dsimp only at h_y
        clear HALL hi_w5
        go_wp2
        go_ret2
        exact ⟨y, f j, rfl, by omega, by omega, by omega, by omega, st5.src, st5.frame⟩
      · have eb0 : (r4 == 0) = false := beq_eq_false_iff_ne.2 e0
        by_cases e1 : r4 = 1
        · subst e1
          have hl := Sl.list (w4) [0, 13, f j + 1] (by intro t ht; simp only [List.mem_cons, List.not_mem_nil, or_false] at ht; unfold inR; rcases ht with rfl | rfl | rfl <;> omega) (by simp [maxLen])
          replace st4 := st4.alloc (.cells ([0, 13, f j + 1].map (Value.int .i64)).toArray 2)
          simp only [List.map_cons, List.map_nil, List.length_cons, List.length_nil, World.size_alloc] at hl st4
          have hall : ∀ t ∈ ([0, 13, f j + 1] : List Int), (fun x : Int => 0 ≤ x ∧ x ≤ 13) t := by intro t ht; simp only [List.mem_cons, List.not_mem_nil, or_false] at ht; (try dsimp only); rcases ht with rfl | rfl | rfl <;> omega
          have HALL := Lib.hid hall
          clear hall
          go_wp2_with fail
          refine (l01Pick_any _ _ _ _ _ _ st4.src st4.bytes st4.low hl (.inr (by omega)) (by omega) (by omega)).mono ?_
          rintro e w5 ⟨i_w5, hi_w5, rfl, hs_w5, f_w5⟩
          have hz_w5 := f_w5.size
          try simp only [World.size_alloc] at hz_w5
          have st5 := st4.draw hs_w5 f_w5
          clear hl st4 hs_w5 f_w5
          have h_y : (fun x : Int => 0 ≤ x ∧ x ≤ 13) (([0, 13, f j + 1] : List Int).getD i_w5 0) := by
            rw [List.getD_eq_getElem?_getD, List.getElem?_eq_getElem (by simpa using hi_w5)]
            exact HALL.out _ (List.getElem_mem _)
          generalize ([0, 13, f j + 1] : List Int).getD i_w5 0 = y at *
          try dsimp only at h_y
          clear HALL hi_w5
          go_wp2
          go_ret2
          exact ⟨P, y, rfl, by omega, by omega, by omega, by omega, st5.src, st5.frame⟩
        · have eb1 : (r4 == 1) = false := beq_eq_false_iff_ne.2 e1
          go_wp2
          go_ret2
          exact ⟨P, f j, rfl, by omega, by omega, by omega, by omega, st4.src, st4.frame⟩
end
end

section
open Go.RowKit Go.ChangeShapes Go.Sort
set_option linter.unusedVariables false
set_option linter.unusedSimpArgs false
set_option maxHeartbeats 2000000 in
theorem DrawCyclotomicTable_any (B : Nat) (p : Option Addr) (n q : Nat) (w : World) (hb : Bytes w B p n) (hB : B ≤ w.heap.size) :
    Calls Try.prog 17 #[.slice p n q] w fun e w' => ∃ P E : Int, e = .returned (.tuple #[.int .i64 P, .int .i64 E]) ∧ -3 ≤ P ∧ P ≤ 67 ∧ 0 ≤ E ∧ E ≤ 13 ∧ Below w.heap.size w w' := by
  have HB := Lib.hid hb
  clear hb
  go_enter Try.func17, Try.ntmps17
  go_wp2_with fail
  refine (l01From_any B p n q _ HB.out hB).mono ?_
  rintro e w1 ⟨rfl, hs1, hb1, b1⟩
  clear HB
  go_wp2_with fail
  refine (l06Draw_any _ hs1 hb1 hB).mono ?_
  rintro e w2 ⟨P, E, rfl, hP1, hP2, hE1, hE2, hs2, f2⟩
  have hb2 := hb1.frame f2 hB
  have b2 := b1.trans (f2.below (Nat.le_refl _) b1.size)
  clear hs1 hb1 b1 f2
  go_wp2
  go_ret2
  exact ⟨P, E, rfl, hP1, hP2, hE1, hE2, b2⟩
set_option maxHeartbeats 2000000 in
theorem DrawPeriodPolynomial_any (B : Nat) (p : Option Addr) (n q : Nat) (w : World) (hb : Bytes w B p n) (hB : B ≤ w.heap.size) :
    Calls Try.prog 49 #[.slice p n q] w fun e w' => ∃ P E : Int, e = .returned (.tuple #[.int .i64 P, .int .i64 E]) ∧ -3 ≤ P ∧ P ≤ 67 ∧ 0 ≤ E ∧ E ≤ 13 ∧ Below w.heap.size w w' := by
  have HB := Lib.hid hb
  clear hb
  go_enter Try.func49, Try.ntmps49
  go_wp2_with fail
  refine (DrawCyclotomicTable_any B p n q _ HB.out hB).mono ?_
  rintro e w1 ⟨P, E, rfl, hP1, hP2, hE1, hE2, b1⟩
  go_wp2
  go_ret2
  exact ⟨P, E, rfl, hP1, hP2, hE1, hE2, b1⟩
set_option maxHeartbeats 2000000 in
theorem DrawClassOf_any (B : Nat) (p : Option Addr) (n q : Nat) (w : World) (hb : Bytes w B p n) (hB : B ≤ w.heap.size) :
    Calls Try.prog 21 #[.slice p n q] w fun e w' => ∃ P E X : Int, e = .returned (.tuple #[.int .i64 P, .int .i64 E, .int .i64 X]) ∧ -3 ≤ P ∧ P ≤ 67 ∧ 0 ≤ E ∧ E ≤ 13 ∧ 0 ≤ X ∧ X ≤ 68 ∧ Below w.heap.size w w' := by
  have HB := Lib.hid hb
  clear hb
  go_enter Try.func21, Try.ntmps21
  go_wp2_with fail
  refine (l01From_any B p n q _ HB.out hB).mono ?_
  rintro e w1 ⟨rfl, hs1, hb1, b1⟩
  clear HB
  go_wp2_with fail
  refine (l06Draw_any _ hs1 hb1 hB).mono ?_
  rintro e w2 ⟨P, E, rfl, hP1, hP2, hE1, hE2, hs2, f2⟩
  have hb2 := hb1.frame f2 hB
  have b2 := b1.trans (f2.below (Nat.le_refl _) b1.size)
  clear hs1 hb1 b1 f2
  go_wp2_with fail
  all_goals
    refine (l01Next_any _ _ _ _ _ 2 _ hs2 hb2 hB (by omega) (by omega)).mono ?_
    rintro e w3 ⟨r, rfl, hr1, hr2, hs3, f3⟩
    have hb3 := hb2.frame f3 hB
    have b3 := b2.trans (f3.below (Nat.le_refl _) b2.size)
    clear hs2 hb2 b2 f3
    go_wp2_with fail
    refine (l01Next_any _ _ _ _ _ _ _ hs3 hb3 hB (by omega) (by omega)).mono ?_
    rintro e w4 ⟨x, rfl, hx1, hx2, hs4, f4⟩
    have hb4 := hb3.frame f4 hB
    have b4 := b3.trans (f4.below (Nat.le_refl _) b3.size)
    clear hs3 hb3 b3 f4
    go_wp2
    refine bodyPost_ret (v := .tuple #[.int .i64 P, .int .i64 E, .int .i64 x]) (by simp [results, Try.results21, go_sem]) rfl ?_
    exact ⟨P, E, x, rfl, hP1, hP2, hE1, hE2, by omega, by omega, b4⟩
set_option maxHeartbeats 2000000 in
theorem DrawClassMembers_any (B : Nat) (p : Option Addr) (n q : Nat) (w : World) (hb : Bytes w B p n) (hB : B ≤ w.heap.size) :
    Calls Try.prog 24 #[.slice p n q] w fun e w' => ∃ P E X : Int, e = .returned (.tuple #[.int .i64 P, .int .i64 E, .int .i64 X]) ∧ -3 ≤ P ∧ P ≤ 67 ∧ 0 ≤ E ∧ E ≤ 13 ∧ 0 ≤ X ∧ X ≤ 14 ∧ Below w.heap.size w w' := by
  have HB := Lib.hid hb
  clear hb
  go_enter Try.func24, Try.ntmps24
  go_wp2_with fail
  refine (l01From_any B p n q _ HB.out hB).mono ?_
  rintro e w1 ⟨rfl, hs1, hb1, b1⟩
  clear HB
  go_wp2_with fail
  refine (l06Draw_any _ hs1 hb1 hB).mono ?_
  rintro e w2 ⟨P, E, rfl, hP1, hP2, hE1, hE2, hs2, f2⟩
  have hb2 := hb1.frame f2 hB
  have b2 := b1.trans (f2.below (Nat.le_refl _) b1.size)
  clear hs1 hb1 b1 f2
  go_wp2_with fail
  all_goals
    refine (l01Next_any _ _ _ _ _ 16 _ hs2 hb2 hB (by omega) (by omega)).mono ?_
    rintro e w3 ⟨r, rfl, hr1, hr2, hs3, f3⟩
    have hb3 := hb2.frame f3 hB
    have b3 := b2.trans (f3.below (Nat.le_refl _) b2.size)
    clear hs2 hb2 b2 f3
    go_wp2_with fail
    refine (l01Next_any _ _ _ _ _ _ _ hs3 hb3 hB (by omega) (by omega)).mono ?_
    rintro e w4 ⟨x, rfl, hx1, hx2, hs4, f4⟩
    have hb4 := hb3.frame f4 hB
    have b4 := b3.trans (f4.below (Nat.le_refl _) b3.size)
    clear hs3 hb3 b3 f4
    go_wp2
    refine bodyPost_ret (v := .tuple #[.int .i64 P, .int .i64 E, .int .i64 x]) (by simp [results, Try.results24, go_sem]) rfl ?_
    exact ⟨P, E, x, rfl, hP1, hP2, hE1, hE2, by omega, by omega, b4⟩
set_option maxHeartbeats 2000000 in
theorem DrawCyclotomicNumber_any (B : Nat) (p : Option Addr) (n q : Nat) (w : World) (hb : Bytes w B p n) (hB : B ≤ w.heap.size) :
    Calls Try.prog 28 #[.slice p n q] w fun e w' => ∃ P E X Y : Int, e = .returned (.tuple #[.int .i64 P, .int .i64 E, .int .i64 X, .int .i64 Y]) ∧ -3 ≤ P ∧ P ≤ 67 ∧ 0 ≤ E ∧ E ≤ 13 ∧ 0 ≤ X ∧ X ≤ 14 ∧ 0 ≤ Y ∧ Y ≤ 14 ∧ Below w.heap.size w w' := by
  have HB := Lib.hid hb
  clear hb
  go_enter Try.func28, Try.ntmps28
  go_wp2_with fail
  refine (l01From_any B p n q _ HB.out hB).mono ?_
  rintro e w1 ⟨rfl, hs1, hb1, b1⟩
  clear HB
  go_wp2_with fail
  refine (l06Draw_any _ hs1 hb1 hB).mono ?_
  rintro e w2 ⟨P, E, rfl, hP1, hP2, hE1, hE2, hs2, f2⟩
  have hb2 := hb1.frame f2 hB
  have b2 := b1.trans (f2.below (Nat.le_refl _) b1.size)
  clear hs1 hb1 b1 f2
  go_wp2_with fail
  all_goals
    refine (l01Next_any _ _ _ _ _ _ _ hs2 hb2 hB (by omega) (by omega)).mono ?_
    rintro e w3 ⟨x, rfl, hx1, hx2, hs3, f3⟩
    have hb3 := hb2.frame f3 hB
    have b3 := b2.trans (f3.below (Nat.le_refl _) b2.size)
    clear hs2 hb2 b2 f3
    go_wp2_with fail
    refine (l01Next_any _ _ _ _ _ 16 _ hs3 hb3 hB (by omega) (by omega)).mono ?_
    rintro e w4 ⟨r, rfl, hr1, hr2, hs4, f4⟩
    have hb4 := hb3.frame f4 hB
    have b4 := b3.trans (f4.below (Nat.le_refl _) b3.size)
    clear hs3 hb3 b3 f4
    go_wp2_with fail
    refine (l01Next_any _ _ _ _ _ _ _ hs4 hb4 hB (by omega) (by omega)).mono ?_
    rintro e w5 ⟨y, rfl, hy1, hy2, hs5, f5⟩
    have hb5 := hb4.frame f5 hB
    have b5 := b4.trans (f5.below (Nat.le_refl _) b4.size)
    clear hs4 hb4 b4 f5
    go_wp2
    refine bodyPost_ret (v := .tuple #[.int .i64 P, .int .i64 E, .int .i64 x, .int .i64 y]) (by simp [results, Try.results28, go_sem]) rfl ?_
    exact ⟨P, E, x, y, rfl, hP1, hP2, hE1, hE2, by omega, by omega, by omega, by omega, b5⟩
end

section
open Go.RowKit Go.ChangeShapes Go.Sort
set_option linter.unusedVariables false
set_option linter.unusedSimpArgs false
theorem Row.keepY {w w' : World} {base g cap n b : Nat} {f : Nat → Int} (h : Row w base g cap n f) (hf : Frame b (b + 1) w w') (hne : g ≠ b) : Row w' base g cap n f :=
  World.ownsRow.kept (row := some b) h ⟨hf.os, hf.tape, hf.output, hf.size, fun k hk hk' => hf.block k hk (by have : k ≠ b := fun e => hk' (by rw [e]); omega)⟩ (.inr (fun e => hne (Option.some.inj e)))
/-- A list has been drawn. -/
def DrS6 (b : Nat) (p : Option Addr) (n q : Nat) (w : World) (e : Ending) (w' : World) : Prop :=
  ∃ (a : Option Addr) (N cap : Nat) (f : Nat → Int), e = .returned (.slice a N cap) ∧ N ≤ 14 ∧ Sl true w' w.heap.size w'.heap.size (.slice a N cap) N f ∧ Src w' b p n q ∧ Frame b (b + 1) w w'
section
variable {b B : Nat} {p : Option Addr} {n q : Nat}
set_option maxRecDepth 100000 in
set_option maxHeartbeats 8000000 in
theorem l06DrawSum_any (E : Nat) (hE : E ≤ 13) (w : World) (hs : Src w b p n q) (hb : Bytes w B p n) (hB : B ≤ b) :
    Calls Try.prog 73 #[.pointer (some ⟨b, 0, none⟩), .int .i64 (E : Int)] w fun e w' => DrS6 b p n q w e w' := by
  have st0 := Ds.start hs hb hB
  have hbz := hs.lt
  have R0 := Lib.hid (Row.made w w.heap.size (fun _ => 0) (Nat.le_refl _))
  have D0 := Lib.hid (st0.alloc (.cells #[] 2))
  have hE0 : ¬ (E : Int) < 0 := by omega
  have hE13 : ¬ 13 < (E : Int) := by omega
  clear hs hb st0
  go_enter Try.func73, Try.ntmps73
  go_wp2
  go_loopw [5, 6] (fun s5 s6 wr => ∃ (k m g cap : Nat) (f : Nat → Int), m + k ≤ 13 ∧ s5 = .slice (some ⟨g, 0, none⟩) m cap ∧ s6 = .int .i64 (k : Int) ∧ (∀ j, j < m → -1001 ≤ f j ∧ f j ≤ 1001) ∧ Row wr w.heap.size g cap m f ∧ Ds b B p n q w wr [] []) (fun _ s6 _ => (intOf s6).toNat)
  case atStart => exact ⟨E, 0, _, _, fun _ => 0, by omega, rfl, rfl, fun j hj => absurd hj (Nat.not_lt_zero _), R0.out, D0.out⟩
  case round =>
    clear R0 D0
    rename World => wo
    obtain ⟨k, m, g, cap, f, hmk, rfl, rfl, hf, hrow, hds⟩ := hrel
    have HF := Lib.hid hf
    have R2 := Lib.hid hrow
    have hg := hrow.lt
    have hzo := hds.size
    have st2 := hds
    clear hf hrow hds
    by_cases hk : 0 < k
    · have hkI : (0 : Int) < (k : Int) := by omega
      go_wp2_with fail
      refine (l01Next_any _ _ _ _ _ 7 _ st2.src st2.bytes st2.low (by omega) (by omega)).mono ?_
      rintro e w3 ⟨r3, rfl, hr31, hr32, hs3, f3⟩
      have st3 := st2.draw hs3 f3
      have R3 := Lib.hid (R2.out.keepY f3 (by omega))
      clear st2 R2 hs3
      have hz3 := f3.size
      clear f3
      go_wp2_with fail
      refine (l01Next_any _ _ _ _ _ 201 _ st3.src st3.bytes st3.low (by omega) (by omega)).mono ?_
      rintro e w4 ⟨r4, rfl, hr41, hr42, hs4, f4⟩
      have st4 := st3.draw hs4 f4
      have R4 := Lib.hid (R3.out.keepY f4 (by omega))
      have hz_w4 := f4.size
      clear st3 R3 hs4 f4
      have hw3 : IntKind.i64.wrap (r3 - 3) = r3 - 3 := IntWalk.i64_in _ (by omega)
      have hw4 : IntKind.i64.wrap (r4 - 100) = r4 - 100 := IntWalk.i64_in _ (by omega)
      have hl := Sl.list (w4) [0, 1, -1, r3 - 3, r4 - 100] (by intro t ht; simp only [List.mem_cons, List.not_mem_nil, or_false] at ht; unfold inR; rcases ht with rfl | rfl | rfl | rfl | rfl <;> omega) (by simp [maxLen])
      replace st4 := st4.alloc (.cells ([0, 1, -1, r3 - 3, r4 - 100].map (Value.int .i64)).toArray 2)
      simp only [List.map_cons, List.map_nil, List.length_cons, List.length_nil, World.size_alloc] at hl st4
      have hall : ∀ t ∈ ([0, 1, -1, r3 - 3, r4 - 100] : List Int), (fun x : Int => -1001 ≤ x ∧ x ≤ 1001) t := by intro t ht; simp only [List.mem_cons, List.not_mem_nil, or_false] at ht; (try dsimp only); rcases ht with rfl | rfl | rfl | rfl | rfl <;> omega
      have HALL := Lib.hid hall
      clear hall
      go_wp2_with fail
      refine (l01Pick_any _ _ _ _ _ _ st4.src st4.bytes st4.low hl (.inr (by omega)) (by omega) (by omega)).mono ?_
      rintro e w5 ⟨i_w5, hi_w5, rfl, hs_w5, f_w5⟩
      have hz_w5 := f_w5.size
      try simp only [World.size_alloc] at hz_w5
      have st5 := st4.draw hs_w5 f_w5
      have R5 := Lib.hid ((R4.out.alloc _).keepY f_w5 (by omega))
      clear hl st4 hs_w5 f_w5
      have h_y : (fun x : Int => -1001 ≤ x ∧ x ≤ 1001) (([0, 1, -1, r3 - 3, r4 - 100] : List Int).getD i_w5 0) := by
        rw [List.getD_eq_getElem?_getD, List.getElem?_eq_getElem (by simpa using hi_w5)]
        exact HALL.out _ (List.getElem_mem _)
      generalize ([0, 1, -1, r3 - 3, r4 - 100] : List Int).getD i_w5 0 = y at *
      try dsimp only at h_y
      clear HALL hi_w5
      have hz_5 := st5.size
      have DD := Lib.hid st5
      have R3 := R5
      have hg5 := R5.out.lt
      obtain ⟨k', rfl⟩ : ∃ k', k = k' + 1 := ⟨k - 1, by omega⟩
      go_wp2_with (at_builtin; refine wpList_push rfl (.tmp 15) (.tmp 25) rfl rfl w.heap.size g cap m f rfl (R3.out.alloc _) w5.heap.size y rfl (heap_alloc_new w5 _) (by omega) ?_; intro gA kA wA rowA grA orA ltA
                   have hzA := grA.size
                   simp only [World.size_alloc] at hzA orA
                   have DA := Lib.hid ((DD.out.alloc (.cells #[.int .i64 y] 2)).write (lo := g) (hi := g + 1) (Frame.ofGrown grA) (by omega) (by omega) [] [] (fun x hx => by cases hx) (fun x hx => by cases hx))
                   have RA := Lib.hid rowA
                   clear rowA grA)
      go_roundw
      case rel => exact ⟨k', m + 1, gA, kA, fun j => if j < m then f j else y, by omega, rfl, by first | rfl | (congr 1; omega), fun j hj => by
          dsimp only
          by_cases h : j < m
          · rw [if_pos h]; exact HF.out j h
          · rw [if_neg h]; exact h_y, RA.out, DA.out⟩
      case measure => simp [intOf] <;> omega
    · have hkI : ¬ (0 : Int) < (k : Int) := by omega
      have hb2 := hg
      go_wp2_with fail
      refine (l01Next_any _ _ _ _ _ 40 _ st2.src st2.bytes st2.low (by omega) (by omega)).mono ?_
      rintro e w3 ⟨r3, rfl, hr31, hr32, hs3, f3⟩
      have st3 := st2.draw hs3 f3
      have R3 := Lib.hid (R2.out.keepY f3 (by omega))
      have hz_w3 := f3.size
      clear st2 R2 hs3 f3
      have hg3 := R3.out.lt
      by_cases e0 : r3 = 0
      · subst e0
        have DD := Lib.hid st3
        clear st3
        go_wp2_with (at_builtin; refine wpList_push rfl (.tmp 31) (.tmp 32) rfl rfl w.heap.size g cap m f rfl (R3.out.alloc _) w3.heap.size 0 rfl (heap_alloc_new w3 _) (by omega) ?_; intro gA kA wA rowA grA orA ltA
                     have hzA := grA.size
                     simp only [World.size_alloc] at hzA orA
                     have DA := Lib.hid ((DD.out.alloc (.cells #[.int .i64 0] 2)).write (lo := g) (hi := g + 1) (Frame.ofGrown grA) (by omega) (by omega) [] [] (fun x hx => by cases hx) (fun x hx => by cases hx))
                     have RA := Lib.hid rowA
                     clear rowA grA)
        have SA := Lib.hid (Sl.ofRowF RA.out (fun j hj => by
          by_cases h : j < m
          · rw [if_pos h]; have := HF.out j h; unfold inR; omega
          · rw [if_neg h]; unfold inR; omega) (by unfold maxLen; omega))
        go_ret
        exact ⟨_, _, _, _, rfl, by omega, SA.out, DA.out.src, DA.out.frame⟩
      · have eb0 : (r3 == 0) = false := beq_eq_false_iff_ne.2 e0
        by_cases e1 : r3 = 1
        · subst e1
          by_cases hm0 : 0 < m
          · have hmI : (0 : Int) < (m : Int) := by omega
            have hl := Sl.list (w3) [1000, 1001, -1000] (by intro t ht; simp only [List.mem_cons, List.not_mem_nil, or_false] at ht; unfold inR; rcases ht with rfl | rfl | rfl <;> omega) (by simp [maxLen])
            replace st3 := st3.alloc (.cells ([1000, 1001, -1000].map (Value.int .i64)).toArray 2)
            simp only [List.map_cons, List.map_nil, List.length_cons, List.length_nil, World.size_alloc] at hl st3
            have hall : ∀ t ∈ ([1000, 1001, -1000] : List Int), (fun x : Int => -1001 ≤ x ∧ x ≤ 1001) t := by intro t ht; simp only [List.mem_cons, List.not_mem_nil, or_false] at ht; (try dsimp only); rcases ht with rfl | rfl | rfl <;> omega
            have HALL := Lib.hid hall
            clear hall
            go_wp2_with fail
            refine (l01Pick_any _ _ _ _ _ _ st3.src st3.bytes st3.low hl (.inr (by omega)) (by omega) (by omega)).mono ?_
            rintro e w4 ⟨i_w4, hi_w4, rfl, hs_w4, f_w4⟩
            have hz_w4 := f_w4.size
            try simp only [World.size_alloc] at hz_w4
            have st4 := st3.draw hs_w4 f_w4
            have R4 := Lib.hid ((R3.out.alloc _).keepY f_w4 (by omega))
            clear hl st3 hs_w4 f_w4
            have h_y : (fun x : Int => -1001 ≤ x ∧ x ≤ 1001) (([1000, 1001, -1000] : List Int).getD i_w4 0) := by
              rw [List.getD_eq_getElem?_getD, List.getElem?_eq_getElem (by simpa using hi_w4)]
              exact HALL.out _ (List.getElem_mem _)
            generalize ([1000, 1001, -1000] : List Int).getD i_w4 0 = y at *
            try dsimp only at h_y
            clear HALL hi_w4
            have SA := Sl.ofRowF R4.out (fun j hj => by have := HF.out j hj; unfold inR; omega) (by unfold maxLen; omega)
            have ft := (SA.known (by omega)).2.2.2.2 rfl 0
            have c0 := (SA.known (by omega)).2.2.2.1 0 hm0
            rw [Nat.zero_add] at c0
            have SB := Lib.hid (SA.store0 hm0 (x := y) (by unfold inR; omega))
            have hz4 := st4.size
            have DA := Lib.hid (st4.write (lo := g) (hi := g + 1) ((Frame.refl g (g + 1) _).setCell (p := ⟨g, 0, none⟩) (Nat.le_refl _) (Nat.lt_succ_self _) (.int .i64 y)) (by omega) (by omega) [] [] (fun x hx => by cases hx) (fun x hx => by cases hx))
            clear SA st4 R3 R4
            go_wp2
            go_ret
            exact ⟨_, _, _, _, rfl, by omega, SB.out.wide (Nat.le_refl _) (by simp) (by simp), DA.out.src, DA.out.frame⟩
          · have hmI : ¬ (0 : Int) < (m : Int) := by omega
            have SA := Lib.hid (Sl.ofRowF R3.out (fun j hj => by have := HF.out j hj; unfold inR; omega) (by unfold maxLen; omega))
            go_wp2
            go_ret
            exact ⟨_, _, _, _, rfl, by omega, SA.out, st3.src, st3.frame⟩
        · have eb1 : (r3 == 1) = false := beq_eq_false_iff_ne.2 e1
          have SA := Lib.hid (Sl.ofRowF R3.out (fun j hj => by have := HF.out j hj; unfold inR; omega) (by unfold maxLen; omega))
          go_wp2
          go_ret
          exact ⟨_, _, _, _, rfl, by omega, SA.out, st3.src, st3.frame⟩
end
end

section
open Go.RowKit Go.ChangeShapes Go.Sort
set_option linter.unusedVariables false
set_option linter.unusedSimpArgs false
set_option maxHeartbeats 2000000 in
theorem DrawTraceOfPeriods_any (B : Nat) (p : Option Addr) (n q : Nat) (w : World) (hb : Bytes w B p n) (hB : B ≤ w.heap.size) :
    Calls Try.prog 43 #[.slice p n q] w fun e w' => ∃ (P E : Int) (ax : Option Addr) (Nx kx : Nat) (gx : Nat → Int), e = .returned (.tuple #[.int .i64 P, .int .i64 E, .slice ax Nx kx]) ∧ -3 ≤ P ∧ P ≤ 67 ∧ 0 ≤ E ∧ E ≤ 13 ∧ Nx ≤ 14 ∧ Sl true w' w.heap.size w'.heap.size (.slice ax Nx kx) Nx gx ∧ Below w.heap.size w w' := by
  have HB := Lib.hid hb
  clear hb
  go_enter Try.func43, Try.ntmps43
  go_wp2_with fail
  refine (l01From_any B p n q _ HB.out hB).mono ?_
  rintro e w1 ⟨rfl, hs1, hb1, b1⟩
  clear HB
  go_wp2_with fail
  refine (l06Draw_any _ hs1 hb1 hB).mono ?_
  rintro e w2 ⟨P, E, rfl, hP1, hP2, hE1, hE2, hs2, f2⟩
  have hb2 := hb1.frame f2 hB
  have b2 := b1.trans (f2.below (Nat.le_refl _) b1.size)
  clear hs1 hb1 b1 f2
  obtain ⟨E, rfl⟩ := Int.eq_ofNat_of_zero_le hE1
  have z1 := b2.size
  have z2 : w.heap.size + 1 ≤ w2.heap.size := hs2.lt
  go_wp2_with fail
  refine (l06DrawSum_any E (by omega) _ hs2 hb2 hB).mono ?_
  rintro e w3 ⟨ax, Nx, kx, gx, rfl, hNx, sx, hs3, f3⟩
  have hb3 := hb2.frame f3 hB
  have b3 := b2.trans (f3.below (Nat.le_refl _) b2.size)
  have z3 := f3.size
  clear hs2 hb2 f3
  go_wp2
  refine bodyPost_ret (v := .tuple #[.int .i64 P, .int .i64 (E : Int), .slice ax Nx kx]) (by simp [results, Try.results43, go_sem]) rfl ?_
  exact ⟨P, (E : Int), _, _, _, _, rfl, hP1, hP2, hE1, hE2, hNx, sx.wide (by omega) (by omega) (Nat.le_refl _), b3⟩
set_option maxHeartbeats 2000000 in
theorem DrawMultiplyPeriods_any (B : Nat) (p : Option Addr) (n q : Nat) (w : World) (hb : Bytes w B p n) (hB : B ≤ w.heap.size) :
    Calls Try.prog 37 #[.slice p n q] w fun e w' => ∃ (P E : Int) (ax : Option Addr) (Nx kx : Nat) (gx : Nat → Int) (ay : Option Addr) (Ny ky : Nat) (gy : Nat → Int), e = .returned (.tuple #[.int .i64 P, .int .i64 E, .slice ax Nx kx, .slice ay Ny ky]) ∧ -3 ≤ P ∧ P ≤ 67 ∧ 0 ≤ E ∧ E ≤ 13 ∧ Nx ≤ 14 ∧ Sl true w' w.heap.size w'.heap.size (.slice ax Nx kx) Nx gx ∧ Ny ≤ 14 ∧ Sl true w' w.heap.size w'.heap.size (.slice ay Ny ky) Ny gy ∧ Below w.heap.size w w' := by
  have HB := Lib.hid hb
  clear hb
  go_enter Try.func37, Try.ntmps37
  go_wp2_with fail
  refine (l01From_any B p n q _ HB.out hB).mono ?_
  rintro e w1 ⟨rfl, hs1, hb1, b1⟩
  clear HB
  go_wp2_with fail
  refine (l06Draw_any _ hs1 hb1 hB).mono ?_
  rintro e w2 ⟨P, E, rfl, hP1, hP2, hE1, hE2, hs2, f2⟩
  have hb2 := hb1.frame f2 hB
  have b2 := b1.trans (f2.below (Nat.le_refl _) b1.size)
  clear hs1 hb1 b1 f2
  obtain ⟨E, rfl⟩ := Int.eq_ofNat_of_zero_le hE1
  have z1 := b2.size
  have z2 : w.heap.size + 1 ≤ w2.heap.size := hs2.lt
  go_wp2_with fail
  refine (l06DrawSum_any E (by omega) _ hs2 hb2 hB).mono ?_
  rintro e w3 ⟨ax, Nx, kx, gx, rfl, hNx, sx, hs3, f3⟩
  have hb3 := hb2.frame f3 hB
  have b3 := b2.trans (f3.below (Nat.le_refl _) b2.size)
  have z3 := f3.size
  clear hs2 hb2 f3
  go_wp2_with fail
  refine (l06DrawSum_any E (by omega) _ hs3 hb3 hB).mono ?_
  rintro e w4 ⟨ay, Ny, ky, gy, rfl, hNy, sy, hs4, f4⟩
  have hb4 := hb3.frame f4 hB
  have b4 := b3.trans (f4.below (Nat.le_refl _) b3.size)
  replace sx := sx.keepF f4 (.inr (by have := b2.size; have := z2; omega))
  have z4 := f4.size
  clear hs3 hb3 f4
  go_wp2
  refine bodyPost_ret (v := .tuple #[.int .i64 P, .int .i64 (E : Int), .slice ax Nx kx, .slice ay Ny ky]) (by simp [results, Try.results37, go_sem]) rfl ?_
  exact ⟨P, (E : Int), _, _, _, _, _, _, _, _, rfl, hP1, hP2, hE1, hE2, hNx, sx.wide (by omega) (by omega) (Nat.le_refl _), hNy, sy.wide (by omega) (by omega) (Nat.le_refl _), b4⟩
set_option maxHeartbeats 2000000 in
theorem DrawShiftPeriods_any (B : Nat) (p : Option Addr) (n q : Nat) (w : World) (hb : Bytes w B p n) (hB : B ≤ w.heap.size) :
    Calls Try.prog 40 #[.slice p n q] w fun e w' => ∃ (P E : Int) (ax : Option Addr) (Nx kx : Nat) (gx : Nat → Int) (Y : Int), e = .returned (.tuple #[.int .i64 P, .int .i64 E, .slice ax Nx kx, .int .i64 Y]) ∧ -3 ≤ P ∧ P ≤ 67 ∧ 0 ≤ E ∧ E ≤ 13 ∧ Nx ≤ 14 ∧ Sl true w' w.heap.size w'.heap.size (.slice ax Nx kx) Nx gx ∧ 0 ≤ Y ∧ Y ≤ 14 ∧ Below w.heap.size w w' := by
  have HB := Lib.hid hb
  clear hb
  go_enter Try.func40, Try.ntmps40
  go_wp2_with fail
  refine (l01From_any B p n q _ HB.out hB).mono ?_
  rintro e w1 ⟨rfl, hs1, hb1, b1⟩
  clear HB
  go_wp2_with fail
  refine (l06Draw_any _ hs1 hb1 hB).mono ?_
  rintro e w2 ⟨P, E, rfl, hP1, hP2, hE1, hE2, hs2, f2⟩
  have hb2 := hb1.frame f2 hB
  have b2 := b1.trans (f2.below (Nat.le_refl _) b1.size)
  clear hs1 hb1 b1 f2
  obtain ⟨E, rfl⟩ := Int.eq_ofNat_of_zero_le hE1
  have z1 := b2.size
  have z2 : w.heap.size + 1 ≤ w2.heap.size := hs2.lt
  go_wp2_with fail
  refine (l06DrawSum_any E (by omega) _ hs2 hb2 hB).mono ?_
  rintro e w3 ⟨ax, Nx, kx, gx, rfl, hNx, sx, hs3, f3⟩
  have hb3 := hb2.frame f3 hB
  have b3 := b2.trans (f3.below (Nat.le_refl _) b2.size)
  have z3 := f3.size
  clear hs2 hb2 f3
  go_wp2_with fail
  all_goals
    refine (l01Next_any _ _ _ _ _ 16 _ hs3 hb3 hB (by omega) (by omega)).mono ?_
    rintro e w4 ⟨r, rfl, hr1, hr2, hs4, f4⟩
    have hb4 := hb3.frame f4 hB
    have b4 := b3.trans (f4.below (Nat.le_refl _) b3.size)
    replace sx := sx.keepF f4 (.inr (by have := b2.size; have := z2; omega))
    have z4 := f4.size
    clear hs3 hb3 f4
    go_wp2_with fail
    refine (l01Next_any _ _ _ _ _ _ _ hs4 hb4 hB (by omega) (by omega)).mono ?_
    rintro e w5 ⟨y, rfl, hy1, hy2, hs5, f5⟩
    have hb5 := hb4.frame f5 hB
    have b5 := b4.trans (f5.below (Nat.le_refl _) b4.size)
    replace sx := sx.keepF f5 (.inr (by have := b2.size; have := z2; omega))
    have z5 := f5.size
    clear hs4 hb4 f5
    go_wp2
    refine bodyPost_ret (v := .tuple #[.int .i64 P, .int .i64 (E : Int), .slice ax Nx kx, .int .i64 y]) (by simp [results, Try.results40, go_sem]) rfl ?_
    exact ⟨P, (E : Int), _, _, _, _, y, rfl, hP1, hP2, hE1, hE2, hNx, sx.wide (by omega) (by omega) (Nat.le_refl _), by omega, by omega, b5⟩
set_option maxHeartbeats 2000000 in
theorem DrawRefinePeriods_any (B : Nat) (p : Option Addr) (n q : Nat) (w : World) (hb : Bytes w B p n) (hB : B ≤ w.heap.size) :
    Calls Try.prog 46 #[.slice p n q] w fun e w' => ∃ (P Q E : Int) (ax : Option Addr) (Nx kx : Nat) (gx : Nat → Int), e = .returned (.tuple #[.int .i64 P, .int .i64 Q, .int .i64 E, .slice ax Nx kx]) ∧ -3 ≤ P ∧ P ≤ 67 ∧ 0 ≤ E ∧ E ≤ 13 ∧ 0 ≤ Q ∧ Q ≤ 13 ∧ Nx ≤ 14 ∧ Sl true w' w.heap.size w'.heap.size (.slice ax Nx kx) Nx gx ∧ Below w.heap.size w w' := by
  have HB := Lib.hid hb
  clear hb
  go_enter Try.func46, Try.ntmps46
  go_wp2_with fail
  refine (l01From_any B p n q _ HB.out hB).mono ?_
  rintro e w1 ⟨rfl, hs1, hb1, b1⟩
  clear HB
  go_wp2_with fail
  refine (l06Draw_any _ hs1 hb1 hB).mono ?_
  rintro e w2 ⟨P, E, rfl, hP1, hP2, hE1, hE2, hs2, f2⟩
  have hb2 := hb1.frame f2 hB
  have b2 := b1.trans (f2.below (Nat.le_refl _) b1.size)
  clear hs1 hb1 b1 f2
  obtain ⟨E, rfl⟩ := Int.eq_ofNat_of_zero_le hE1
  have z1 := b2.size
  have z2 : w.heap.size + 1 ≤ w2.heap.size := hs2.lt
  have st2 := Ds.at hB b2 hs2 hb2 hB
  have hl := Sl.list (w2) [1, 1, 2, 3, 4, (E : Int), (E : Int)] (by intro t ht; simp only [List.mem_cons, List.not_mem_nil, or_false] at ht; unfold inR; rcases ht with rfl | rfl | rfl | rfl | rfl | rfl | rfl <;> omega) (by simp [maxLen])
  replace st2 := st2.alloc (.cells ([1, 1, 2, 3, 4, (E : Int), (E : Int)].map (Value.int .i64)).toArray 2)
  simp only [List.map_cons, List.map_nil, List.length_cons, List.length_nil, World.size_alloc] at hl st2
  have hall : ∀ t ∈ ([1, 1, 2, 3, 4, (E : Int), (E : Int)] : List Int), (fun x : Int => 0 ≤ x ∧ x ≤ 13) t := by intro t ht; simp only [List.mem_cons, List.not_mem_nil, or_false] at ht; (try dsimp only); rcases ht with rfl | rfl | rfl | rfl | rfl | rfl | rfl <;> omega
  have HALL := Lib.hid hall
  clear hall
  go_wp2_with fail
  refine (l01Pick_any _ _ _ _ _ _ st2.src st2.bytes st2.low hl (.inr (by omega)) (by omega) (by omega)).mono ?_
  rintro e w3 ⟨i_w3, hi_w3, rfl, hs_w3, f_w3⟩
  have hz_w3 := f_w3.size
  try simp only [World.size_alloc] at hz_w3
  have st3 := st2.draw hs_w3 f_w3
  clear hl st2 hs_w3 f_w3
  have h_y : (fun x : Int => 0 ≤ x ∧ x ≤ 13) (([1, 1, 2, 3, 4, (E : Int), (E : Int)] : List Int).getD i_w3 0) := by
    rw [List.getD_eq_getElem?_getD, List.getElem?_eq_getElem (by simpa using hi_w3)]
    exact HALL.out _ (List.getElem_mem _)
  generalize ([1, 1, 2, 3, 4, (E : Int), (E : Int)] : List Int).getD i_w3 0 = y at *
  try dsimp only at h_y
  clear HALL hi_w3
  obtain ⟨Y, rfl⟩ := Int.eq_ofNat_of_zero_le h_y.1
  have hY13 : Y ≤ 13 := by omega
  go_wp2_with fail
  all_goals
    first
    | (go_at_call 73
       refine (l06DrawSum_any Y (by omega) _ st3.src st3.bytes hB).mono ?_
       rintro e w6 ⟨ax, Nx, kx, gx, rfl, hNx, sx, hs6, f6⟩
       have b6 := st3.below (Nat.le_refl _)
       have z6 := b6.size
       have zz := st3.size
       have b7 := b6.trans (f6.below (Nat.le_refl _) z6)
       have b8 := f6.size
       go_wp2
       refine bodyPost_ret (v := .tuple #[.int .i64 P, .int .i64 (Y : Int), .int .i64 (E : Int), .slice ax Nx kx]) (by simp [results, Try.results46, go_sem]) rfl ?_
       exact ⟨P, (Y : Int), (E : Int), _, _, _, _, rfl, hP1, hP2, hE1, hE2, by omega, by omega, hNx, sx.wide (by omega) (Nat.le_refl _) (Nat.le_refl _), b7⟩)
    | (go_at_call 65
       refine (l01Next_any _ _ _ _ _ 8 _ st3.src st3.bytes st3.low (by omega) (by omega)).mono ?_
       rintro e w4 ⟨r4, rfl, hr41, hr42, hs4, f4⟩
       have st4 := st3.draw hs4 f4
       by_cases hr : 0 < r4
       · go_wp2_with fail
         have l1 := l06DrawSum_any (b := w.heap.size) (B := B) (p := p) (n := n) (q := q) 1 (by omega) _ st4.src st4.bytes hB
         rw [show ((1 : Nat) : Int) = 1 from rfl] at l1
         refine l1.mono ?_
         rintro e w6 ⟨ax, Nx, kx, gx, rfl, hNx, sx, hs6, f6⟩
         have b6 := st4.below (Nat.le_refl _)
         have z6 := b6.size
         have zz := st4.size
         have b7 := b6.trans (f6.below (Nat.le_refl _) z6)
         have b8 := f6.size
         go_wp2
         refine bodyPost_ret (v := .tuple #[.int .i64 P, .int .i64 1, .int .i64 (E : Int), .slice ax Nx kx]) (by simp [results, Try.results46, go_sem]) rfl ?_
         exact ⟨P, 1, (E : Int), _, _, _, _, rfl, hP1, hP2, hE1, hE2, by omega, by omega, hNx, sx.wide (by omega) (Nat.le_refl _) (Nat.le_refl _), b7⟩
       · go_wp2_with fail
         refine (l06DrawSum_any Y (by omega) _ st4.src st4.bytes hB).mono ?_
         rintro e w6 ⟨ax, Nx, kx, gx, rfl, hNx, sx, hs6, f6⟩
         have b6 := st4.below (Nat.le_refl _)
         have z6 := b6.size
         have zz := st4.size
         have b7 := b6.trans (f6.below (Nat.le_refl _) z6)
         have b8 := f6.size
         go_wp2
         refine bodyPost_ret (v := .tuple #[.int .i64 P, .int .i64 (Y : Int), .int .i64 (E : Int), .slice ax Nx kx]) (by simp [results, Try.results46, go_sem]) rfl ?_
         exact ⟨P, (Y : Int), (E : Int), _, _, _, _, rfl, hP1, hP2, hE1, hE2, by omega, by omega, hNx, sx.wide (by omega) (Nat.le_refl _) (Nat.le_refl _), b7⟩)
end

open Go.RowKit Go.ChangeShapes Go.Sort Go.WideShapes Go.ChangeAt
set_option linter.unusedVariables false
set_option linter.unusedSimpArgs false
namespace fnPeriodSums
set_option maxRecDepth 100000 in
set_option maxHeartbeats 16000000 in
theorem walk (w : World) (p : Option Addr) (n q : Nat) (hb : n ≤ 4096 → Bytes w w.heap.size p n) :
    Calls Try.prog 4 #[.slice p n q] w fun e w' => e = .returned (.bool true) ∧ Below w.heap.size w w' := by
  by_cases hn : n ≤ 4096
  case neg =>
    go_enter Try.func4, Try.ntmps4
    go_wp2_with fail
    refine (big_yes _ _ _ _ (by omega)).mono ?_
    rintro e w1 ⟨rfl, b1⟩
    go_wp2
    go_ret
    exact ⟨rfl, b1⟩
  case pos =>
    have B0 := Lib.hid (Below.refl w.heap.size w)
    have HB := Lib.hid hb; clear hb
    go_enter Try.func4, Try.ntmps4
    go_wp2_with fail
    refine (big_no p n q _ (by omega)).mono ?_
    rintro en w1 ⟨rfl, b1⟩
    have B1 := Lib.hid (B0.out.trans (b1.mono B0.out.size))
    clear B0 b1 
    go_wp2_with fail
    refine (DrawMultiplyPeriods_any w.heap.size p n q _ ((HB.out hn).below B1.out) B1.out.size).mono ?_
    rintro en w2 ⟨P1, E1, aa, na, ka, fa, ab, nb, kb, fb, rfl, hP11, hP12, hE11, hE12, hna, s2, hnb, s2b, b2⟩
    have SA := Lib.hid s2
    have SB := Lib.hid s2b
    have B2 := Lib.hid (B1.out.trans (b2.mono B1.out.size))
    clear B1 b2 s2 s2b
    obtain ⟨c1, m1, G1, hf1, hs1, hi1⟩ := mul_two P1 E1 (.slice aa na ka) (.slice ab nb kb) na nb fa fb
    have HF1 := Lib.hid hf1; have HS1 := Lib.hid hs1; have HI1 := Lib.hid hi1
    clear hf1 hs1 hi1
    go_wp2_with fail
    refine (HI1.out _ _ _ _ _ SA.out SB.out).mono ?_
    rintro en w3 ⟨pa, pk, rfl, s3, b3⟩
    replace SA := Lib.hid (SA.out.keep b3 SA.out.size)
    replace SB := Lib.hid (SB.out.keep b3 SB.out.size)
    have MI := Lib.hid s3
    have B3 := Lib.hid (B2.out.trans (b3.mono B2.out.size))
    clear B2 b3 s3
    go_wp2_with fail
    refine (HS1.out _ _ _ _ _ SA.out SB.out).mono ?_
    rintro en w4 ⟨qa, qk, rfl, s4, b4⟩
    replace SA := Lib.hid (SA.out.keep b4 SA.out.size)
    replace SB := Lib.hid (SB.out.keep b4 SB.out.size)
    replace MI := Lib.hid (MI.out.keep b4 MI.out.size)
    have MS := Lib.hid s4
    have B4 := Lib.hid (B3.out.trans (b4.mono B3.out.size))
    clear B3 b4 s4
    go_wp2_with fail
    refine (likeInts_yes _ MI.out MS.out (fun _ _ => rfl)).mono ?_
    rintro en w5 ⟨rfl, b5⟩
    replace SA := Lib.hid (SA.out.keep b5 SA.out.size)
    replace SB := Lib.hid (SB.out.keep b5 SB.out.size)
    replace MI := Lib.hid (MI.out.keep b5 MI.out.size)
    replace MS := Lib.hid (MS.out.keep b5 MS.out.size)
    have B5 := Lib.hid (B4.out.trans (b5.mono B4.out.size))
    clear B4 b5 
    clear MS
    clear HS1 HI1
    go_wp2_with fail
    refine (DrawShiftPeriods_any w.heap.size p n q _ ((HB.out hn).below B5.out) B5.out.size).mono ?_
    rintro en w6 ⟨P2, E2, ac, nc, kc, fc, K2, rfl, hP21, hP22, hE21, hE22, hnc, s6, hK21, hK22, b6⟩
    replace SA := Lib.hid (SA.out.keep b6 SA.out.size)
    replace SB := Lib.hid (SB.out.keep b6 SB.out.size)
    replace MI := Lib.hid (MI.out.keep b6 MI.out.size)
    have SC := Lib.hid s6
    have B6 := Lib.hid (B5.out.trans (b6.mono B5.out.size))
    clear B5 b6 s6
    obtain ⟨c2, m2, G2, hf2, hs2, hi2⟩ := sh_two P2 E2 K2 (.slice ac nc kc) nc fc
    have HF2 := Lib.hid hf2; have HS2 := Lib.hid hs2; have HI2 := Lib.hid hi2
    clear hf2 hs2 hi2
    go_wp2_with fail
    refine (HI2.out _ _ _ SC.out).mono ?_
    rintro en w7 ⟨ha, hk, rfl, s7, b7⟩
    replace SA := Lib.hid (SA.out.keep b7 SA.out.size)
    replace SB := Lib.hid (SB.out.keep b7 SB.out.size)
    replace MI := Lib.hid (MI.out.keep b7 MI.out.size)
    replace SC := Lib.hid (SC.out.keep b7 SC.out.size)
    have SHI := Lib.hid s7
    have B7 := Lib.hid (B6.out.trans (b7.mono B6.out.size))
    clear B6 b7 s7
    go_wp2_with fail
    refine (HS2.out _ _ _ SC.out).mono ?_
    rintro en w8 ⟨ia, ik, rfl, s8, b8⟩
    replace SA := Lib.hid (SA.out.keep b8 SA.out.size)
    replace SB := Lib.hid (SB.out.keep b8 SB.out.size)
    replace MI := Lib.hid (MI.out.keep b8 MI.out.size)
    replace SC := Lib.hid (SC.out.keep b8 SC.out.size)
    replace SHI := Lib.hid (SHI.out.keep b8 SHI.out.size)
    have SHS := Lib.hid s8
    have B8 := Lib.hid (B7.out.trans (b8.mono B7.out.size))
    clear B7 b8 s8
    go_wp2_with fail
    refine (likeInts_yes _ SHI.out SHS.out (fun _ _ => rfl)).mono ?_
    rintro en w9 ⟨rfl, b9⟩
    replace SA := Lib.hid (SA.out.keep b9 SA.out.size)
    replace SB := Lib.hid (SB.out.keep b9 SB.out.size)
    replace MI := Lib.hid (MI.out.keep b9 MI.out.size)
    replace SC := Lib.hid (SC.out.keep b9 SC.out.size)
    replace SHI := Lib.hid (SHI.out.keep b9 SHI.out.size)
    replace SHS := Lib.hid (SHS.out.keep b9 SHS.out.size)
    have B9 := Lib.hid (B8.out.trans (b9.mono B8.out.size))
    clear B8 b9 
    clear SHS
    clear HS2 HI2
    go_wp2_with fail
    refine (DrawTraceOfPeriods_any w.heap.size p n q _ ((HB.out hn).below B9.out) B9.out.size).mono ?_
    rintro en w10 ⟨P3, E3, ad, nd, kd, fd, rfl, hP31, hP32, hE31, hE32, hnd, s10, b10⟩
    replace SA := Lib.hid (SA.out.keep b10 SA.out.size)
    replace SB := Lib.hid (SB.out.keep b10 SB.out.size)
    replace MI := Lib.hid (MI.out.keep b10 MI.out.size)
    replace SC := Lib.hid (SC.out.keep b10 SC.out.size)
    replace SHI := Lib.hid (SHI.out.keep b10 SHI.out.size)
    have SD := Lib.hid s10
    have B10 := Lib.hid (B9.out.trans (b10.mono B9.out.size))
    clear B9 b10 s10
    obtain ⟨c3, r3, hs3, hi3⟩ := trace_two P3 E3 (.slice ad nd kd) nd fd
    have HS3 := Lib.hid hs3; have HI3 := Lib.hid hi3
    clear hs3 hi3
    go_wp2_with fail
    refine (HI3.out _ _ _ SD.out).mono ?_
    rintro en w11 ⟨rfl, b11⟩
    replace SA := Lib.hid (SA.out.keep b11 SA.out.size)
    replace SB := Lib.hid (SB.out.keep b11 SB.out.size)
    replace MI := Lib.hid (MI.out.keep b11 MI.out.size)
    replace SC := Lib.hid (SC.out.keep b11 SC.out.size)
    replace SHI := Lib.hid (SHI.out.keep b11 SHI.out.size)
    replace SD := Lib.hid (SD.out.keep b11 SD.out.size)
    have B11 := Lib.hid (B10.out.trans (b11.mono B10.out.size))
    clear B10 b11 
    go_wp2_with fail
    refine (HS3.out _ _ _ SD.out).mono ?_
    rintro en w12 ⟨rfl, b12⟩
    replace SA := Lib.hid (SA.out.keep b12 SA.out.size)
    replace SB := Lib.hid (SB.out.keep b12 SB.out.size)
    replace MI := Lib.hid (MI.out.keep b12 MI.out.size)
    replace SC := Lib.hid (SC.out.keep b12 SC.out.size)
    replace SHI := Lib.hid (SHI.out.keep b12 SHI.out.size)
    replace SD := Lib.hid (SD.out.keep b12 SD.out.size)
    have B12 := Lib.hid (B11.out.trans (b12.mono B11.out.size))
    clear B11 b12 
    clear SD
    clear HS3 HI3
    go_wp2_with fail
    refine (DrawRefinePeriods_any w.heap.size p n q _ ((HB.out hn).below B12.out) B12.out.size).mono ?_
    rintro en w13 ⟨P4, Q4, E4, al, nl, kl, fl, rfl, hP41, hP42, hE41, hE42, hQ41, hQ42, hnl, s13, b13⟩
    replace SA := Lib.hid (SA.out.keep b13 SA.out.size)
    replace SB := Lib.hid (SB.out.keep b13 SB.out.size)
    replace MI := Lib.hid (MI.out.keep b13 MI.out.size)
    replace SC := Lib.hid (SC.out.keep b13 SC.out.size)
    replace SHI := Lib.hid (SHI.out.keep b13 SHI.out.size)
    have SL := Lib.hid s13
    have B13 := Lib.hid (B12.out.trans (b13.mono B12.out.size))
    clear B12 b13 s13
    obtain ⟨c4, m4, G4, hf4, hs4, hi4⟩ := ref_two P4 Q4 E4 (.slice al nl kl) nl fl
    have HF4 := Lib.hid hf4; have HS4 := Lib.hid hs4; have HI4 := Lib.hid hi4
    clear hf4 hs4 hi4
    go_wp2_with fail
    refine (HI4.out _ _ _ SL.out).mono ?_
    rintro en w14 ⟨ra, rk, rfl, s14, b14⟩
    replace SA := Lib.hid (SA.out.keep b14 SA.out.size)
    replace SB := Lib.hid (SB.out.keep b14 SB.out.size)
    replace MI := Lib.hid (MI.out.keep b14 MI.out.size)
    replace SC := Lib.hid (SC.out.keep b14 SC.out.size)
    replace SHI := Lib.hid (SHI.out.keep b14 SHI.out.size)
    replace SL := Lib.hid (SL.out.keep b14 SL.out.size)
    have RI := Lib.hid s14
    have B14 := Lib.hid (B13.out.trans (b14.mono B13.out.size))
    clear B13 b14 s14
    go_wp2_with fail
    refine (HS4.out _ _ _ SL.out).mono ?_
    rintro en w15 ⟨ta, tk, rfl, s15, b15⟩
    replace SA := Lib.hid (SA.out.keep b15 SA.out.size)
    replace SB := Lib.hid (SB.out.keep b15 SB.out.size)
    replace MI := Lib.hid (MI.out.keep b15 MI.out.size)
    replace SC := Lib.hid (SC.out.keep b15 SC.out.size)
    replace SHI := Lib.hid (SHI.out.keep b15 SHI.out.size)
    replace SL := Lib.hid (SL.out.keep b15 SL.out.size)
    replace RI := Lib.hid (RI.out.keep b15 RI.out.size)
    have RS := Lib.hid s15
    have B15 := Lib.hid (B14.out.trans (b15.mono B14.out.size))
    clear B14 b15 s15
    go_wp2_with fail
    refine (likeInts_yes _ RI.out RS.out (fun _ _ => rfl)).mono ?_
    rintro en w16 ⟨rfl, b16⟩
    replace SA := Lib.hid (SA.out.keep b16 SA.out.size)
    replace SB := Lib.hid (SB.out.keep b16 SB.out.size)
    replace MI := Lib.hid (MI.out.keep b16 MI.out.size)
    replace SC := Lib.hid (SC.out.keep b16 SC.out.size)
    replace SHI := Lib.hid (SHI.out.keep b16 SHI.out.size)
    replace SL := Lib.hid (SL.out.keep b16 SL.out.size)
    replace RI := Lib.hid (RI.out.keep b16 RI.out.size)
    replace RS := Lib.hid (RS.out.keep b16 RS.out.size)
    have B16 := Lib.hid (B15.out.trans (b16.mono B15.out.size))
    clear B15 b16 
    clear RS
    clear HS4 HI4
    go_wp2_with fail
    refine (DrawPeriodPolynomial_any w.heap.size p n q _ ((HB.out hn).below B16.out) B16.out.size).mono ?_
    rintro en w17 ⟨P5, E5, rfl, hP51, hP52, hE51, hE52, b17⟩
    replace SA := Lib.hid (SA.out.keep b17 SA.out.size)
    replace SB := Lib.hid (SB.out.keep b17 SB.out.size)
    replace MI := Lib.hid (MI.out.keep b17 MI.out.size)
    replace SC := Lib.hid (SC.out.keep b17 SC.out.size)
    replace SHI := Lib.hid (SHI.out.keep b17 SHI.out.size)
    replace SL := Lib.hid (SL.out.keep b17 SL.out.size)
    replace RI := Lib.hid (RI.out.keep b17 RI.out.size)
    have B17 := Lib.hid (B16.out.trans (b17.mono B16.out.size))
    clear B16 b17 
    obtain ⟨c5, m5, G5, hf5, hs5, hi5⟩ := poly_two P5 E5
    have HF5 := Lib.hid hf5; have HS5 := Lib.hid hs5; have HI5 := Lib.hid hi5
    clear hf5 hs5 hi5
    go_wp2_with fail
    refine (HI5.out _).mono ?_
    rintro en w18 ⟨ya, yk, rfl, s18, b18⟩
    replace SA := Lib.hid (SA.out.keep b18 SA.out.size)
    replace SB := Lib.hid (SB.out.keep b18 SB.out.size)
    replace MI := Lib.hid (MI.out.keep b18 MI.out.size)
    replace SC := Lib.hid (SC.out.keep b18 SC.out.size)
    replace SHI := Lib.hid (SHI.out.keep b18 SHI.out.size)
    replace SL := Lib.hid (SL.out.keep b18 SL.out.size)
    replace RI := Lib.hid (RI.out.keep b18 RI.out.size)
    have PI := Lib.hid s18
    have B18 := Lib.hid (B17.out.trans (b18.mono B17.out.size))
    clear B17 b18 s18
    go_wp2_with fail
    refine (HS5.out _).mono ?_
    rintro en w19 ⟨za, zk, rfl, s19, b19⟩
    replace SA := Lib.hid (SA.out.keep b19 SA.out.size)
    replace SB := Lib.hid (SB.out.keep b19 SB.out.size)
    replace MI := Lib.hid (MI.out.keep b19 MI.out.size)
    replace SC := Lib.hid (SC.out.keep b19 SC.out.size)
    replace SHI := Lib.hid (SHI.out.keep b19 SHI.out.size)
    replace SL := Lib.hid (SL.out.keep b19 SL.out.size)
    replace RI := Lib.hid (RI.out.keep b19 RI.out.size)
    replace PI := Lib.hid (PI.out.keep b19 PI.out.size)
    have PS := Lib.hid s19
    have B19 := Lib.hid (B18.out.trans (b19.mono B18.out.size))
    clear B18 b19 s19
    go_wp2_with fail
    refine (likeInts_yes _ PI.out PS.out (fun _ _ => rfl)).mono ?_
    rintro en w20 ⟨rfl, b20⟩
    replace SA := Lib.hid (SA.out.keep b20 SA.out.size)
    replace SB := Lib.hid (SB.out.keep b20 SB.out.size)
    replace MI := Lib.hid (MI.out.keep b20 MI.out.size)
    replace SC := Lib.hid (SC.out.keep b20 SC.out.size)
    replace SHI := Lib.hid (SHI.out.keep b20 SHI.out.size)
    replace SL := Lib.hid (SL.out.keep b20 SL.out.size)
    replace RI := Lib.hid (RI.out.keep b20 RI.out.size)
    replace PI := Lib.hid (PI.out.keep b20 PI.out.size)
    replace PS := Lib.hid (PS.out.keep b20 PS.out.size)
    have B20 := Lib.hid (B19.out.trans (b20.mono B19.out.size))
    clear B19 b20 
    clear PS
    clear HS5 HI5
    rcases HF5.out with ⟨P5, n5, rfl, rfl, e1, e2, e3, e4, rfl, rfl, e5, e6⟩ | rfl
    · clear HF5
      obtain ⟨yg, yoff, yk', hyv, _⟩ := PI.out.at (by omega)
      obtain ⟨rfl, rfl⟩ : ya = some ⟨yg, yoff, none⟩ ∧ yk = yk' := by cases hyv; exact ⟨rfl, rfl⟩
      have cy := (PI.out.known (by omega)).2.2.2.1 n5 (by omega)
      have cz := (PI.out.known (by omega)).2.2.2.1 (n5 - 1) (by omega)
      rw [e5] at cy
      rw [e6] at cz
      have hn5 : (n5 : Int) - 1 = ((n5 - 1 : Nat) : Int) := by omega
      clear hyv e1 e4 e5 e6
      clear PI
      rcases HF4.out with ⟨P4, E4, rfl, rfl, rfl, g1, g2, g3, g4, g5, g6, g7, g8, g9, rfl, rfl, rfl⟩ | rfl
      · clear HF4
        have HR1 := Lib.hid g1; have HR4 := Lib.hid g4; have HR7 := Lib.hid g7; have HR9 := Lib.hid g9
        have HTR := Lib.hid (trN_rep g2 g8 fl)
        have HZB := Lib.hid (trN_bd (rep_within (E := m4) g2 g9) m4 (Nat.le_refl _))
        clear g1 g4 g7 g9
        go_wp2_with fail
        refine (TraceOfPeriods_impl_ok P4 HR1.out g2 g3 HR4.out _ SL.out HR9.out).mono ?_
        rintro en w21 ⟨rfl, b21⟩
        replace SA := Lib.hid (SA.out.keep b21 SA.out.size)
        replace SB := Lib.hid (SB.out.keep b21 SB.out.size)
        replace MI := Lib.hid (MI.out.keep b21 MI.out.size)
        replace SC := Lib.hid (SC.out.keep b21 SC.out.size)
        replace SHI := Lib.hid (SHI.out.keep b21 SHI.out.size)
        replace SL := Lib.hid (SL.out.keep b21 SL.out.size)
        replace RI := Lib.hid (RI.out.keep b21 RI.out.size)
        have B21 := Lib.hid (B20.out.trans (b21.mono B20.out.size))
        clear B20 b21 
        go_wp2_with fail
        refine (TraceOfPeriods_impl_ok P4 HR1.out g5 g6 HR7.out _ RI.out (rep_within g2 HR9.out)).mono ?_
        rintro en w22 ⟨rfl, b22⟩
        replace SA := Lib.hid (SA.out.keep b22 SA.out.size)
        replace SB := Lib.hid (SB.out.keep b22 SB.out.size)
        replace MI := Lib.hid (MI.out.keep b22 MI.out.size)
        replace SC := Lib.hid (SC.out.keep b22 SC.out.size)
        replace SHI := Lib.hid (SHI.out.keep b22 SHI.out.size)
        replace SL := Lib.hid (SL.out.keep b22 SL.out.size)
        replace RI := Lib.hid (RI.out.keep b22 RI.out.size)
        have B22 := Lib.hid (B21.out.trans (b22.mono B21.out.size))
        clear B21 b22 
        clear SL RI
        have hzb := HZB.out
        have htr := HTR.out
        obtain ⟨Z, hZ⟩ : ∃ Z, trN (fun j => fl (j % nl)) m4 = Z := ⟨_, rfl⟩
        rw [hZ] at htr hzb ⊢
        obtain ⟨q4, hqn⟩ : ∃ q4, m4 / nl = q4 := ⟨_, rfl⟩
        have hq4 : (m4 : Int).tdiv (nl : Int) = (q4 : Int) := by rw [← hqn]; rfl
        have hq5 : (m4 : Int) / (nl : Int) = (q4 : Int) := by rw [← hqn]; exact (Int.natCast_ediv m4 nl).symm
        rw [hqn] at htr
        have hq12 : q4 ≤ 12 := by rw [← hqn]; exact Nat.le_trans (Nat.div_le_self _ _) g6
        have hwZ : IntKind.i64.wrap (trN fl nl * (q4 : Int)) = Z := by rw [← htr]; exact IntWalk.i64_in _ (by omega)
        have hnl0 : ¬ nl = 0 := by omega
        clear htr hZ HTR HZB
        rcases HF2.out with ⟨P2, K2, rfl, rfl, rfl, i1, i2, i3, i4, i5, i6, rfl, rfl, rfl⟩ | rfl
        · clear HF2
          have HWC := Lib.hid i6; have HSS := Lib.hid (sum_sh (f := fc) i5)
          clear i1 i4 i6
          go_wp2_with fail
          refine (sum_any _ SHI.out (by omega) (fun j hj => by have := sh_within (K := K2) i2 HWC.out j hj; omega)).mono ?_
          rintro en w23 ⟨rfl, b23⟩
          replace SA := Lib.hid (SA.out.keep b23 SA.out.size)
          replace SB := Lib.hid (SB.out.keep b23 SB.out.size)
          replace MI := Lib.hid (MI.out.keep b23 MI.out.size)
          replace SC := Lib.hid (SC.out.keep b23 SC.out.size)
          replace SHI := Lib.hid (SHI.out.keep b23 SHI.out.size)
          have B23 := Lib.hid (B22.out.trans (b23.mono B22.out.size))
          clear B22 b23 
          go_wp2_with fail
          refine (sum_any _ SC.out (by omega) (fun j hj => by have := HWC.out j hj; omega)).mono ?_
          rintro en w24 ⟨rfl, b24⟩
          replace SA := Lib.hid (SA.out.keep b24 SA.out.size)
          replace SB := Lib.hid (SB.out.keep b24 SB.out.size)
          replace MI := Lib.hid (MI.out.keep b24 MI.out.size)
          replace SC := Lib.hid (SC.out.keep b24 SC.out.size)
          replace SHI := Lib.hid (SHI.out.keep b24 SHI.out.size)
          have B24 := Lib.hid (B23.out.trans (b24.mono B23.out.size))
          clear B23 b24 
          clear SHI SC
          rw [HSS.out]
          generalize sumN m2 fc = SN
          rcases HF1.out with ⟨P0, rfl, rfl, rfl, j1, j2, j3, j4, j5, j6, rfl, rfl, rfl⟩ | ⟨rfl, rfl⟩
          · clear HF1
            obtain ⟨N0, hN0⟩ : ∃ N0, m1 - 1 = N0 := ⟨_, rfl⟩
            have HPR := Lib.hid j1; have HPD := Lib.hid j4; have HWA := Lib.hid j5; have HWB := Lib.hid j6
            have hN1 : N0 < m1 := by omega
            have hNI : (m1 : Int) - 1 = (N0 : Int) := by omega
            have HCM := Lib.hid (fun t (ht : t < m1) => prT_comm (a := fa) (b := fb) ht (sym_ok j1 j2 j3 j4))
            have HSH := Lib.hid (fun t (ht : t < m1) => prT_sh (R := prodR P0 m1) (a := fa) (b := fb) hN1 ht)
            have hna0 : ¬ m1 = 0 := by omega
            clear j1 j4 j5 j6
            have HNI := Lib.hid hNI; clear hNI
            have HSX := Lib.hid (fun (w : World) lo hi v f (hs : Sl true w lo hi v m1 f) (hw : Within f m1 1000) => (show Calls Try.prog 41 #[.int .i64 (P0 : Int), .int .i64 (m1 : Int), v, .int .i64 ((m1 : Int) - 1)] w fun r w' => ∃ a' k', r = .returned (.tuple #[.slice a' m1 k', .int .i64 0]) ∧ Sl true w' w.heap.size w'.heap.size (.slice a' m1 k') m1 (shN m1 N0 f) ∧ Below w.heap.size w w' by
              have := ShiftPeriods_impl_ok P0 N0 HPR.out j2 j3 HPD.out hN1 w hs hw
              rw [← HNI.out] at this
              exact this))
            clear hN0
            go_wp2_with fail
            refine (MultiplyPeriods_impl_ok P0 HPR.out j2 j3 HPD.out _ SB.out SA.out HWB.out HWA.out).mono ?_
            rintro en w25 ⟨oa, ok, rfl, s25, b25⟩
            replace SA := Lib.hid (SA.out.keep b25 SA.out.size)
            replace SB := Lib.hid (SB.out.keep b25 SB.out.size)
            replace MI := Lib.hid (MI.out.keep b25 MI.out.size)
            have OI := Lib.hid s25
            have B25 := Lib.hid (B24.out.trans (b25.mono B24.out.size))
            clear B24 b25 s25
            go_wp2_with fail
            refine (HSX.out _ _ _ _ _ SA.out HWA.out).mono ?_
            rintro en w26 ⟨xa, xk, rfl, s26, b26⟩
            replace SA := Lib.hid (SA.out.keep b26 SA.out.size)
            replace SB := Lib.hid (SB.out.keep b26 SB.out.size)
            replace MI := Lib.hid (MI.out.keep b26 MI.out.size)
            replace OI := Lib.hid (OI.out.keep b26 OI.out.size)
            have XI := Lib.hid s26
            have B26 := Lib.hid (B25.out.trans (b26.mono B25.out.size))
            clear B25 b26 s26
            go_wp2_with fail
            refine (HSX.out _ _ _ _ _ SB.out HWB.out).mono ?_
            rintro en w27 ⟨va, vk, rfl, s27, b27⟩
            replace SA := Lib.hid (SA.out.keep b27 SA.out.size)
            replace SB := Lib.hid (SB.out.keep b27 SB.out.size)
            replace MI := Lib.hid (MI.out.keep b27 MI.out.size)
            replace OI := Lib.hid (OI.out.keep b27 OI.out.size)
            replace XI := Lib.hid (XI.out.keep b27 XI.out.size)
            have YI := Lib.hid s27
            have B27 := Lib.hid (B26.out.trans (b27.mono B26.out.size))
            clear B26 b27 s27
            clear HSX
            go_wp2_with fail
            refine (MultiplyPeriods_impl_ok P0 HPR.out j2 j3 HPD.out _ XI.out YI.out (sh_within j2 HWA.out) (sh_within j2 HWB.out)).mono ?_
            rintro en w28 ⟨wa, wk, rfl, s28, b28⟩
            replace SA := Lib.hid (SA.out.keep b28 SA.out.size)
            replace SB := Lib.hid (SB.out.keep b28 SB.out.size)
            replace MI := Lib.hid (MI.out.keep b28 MI.out.size)
            replace OI := Lib.hid (OI.out.keep b28 OI.out.size)
            replace XI := Lib.hid (XI.out.keep b28 XI.out.size)
            replace YI := Lib.hid (YI.out.keep b28 YI.out.size)
            have VI := Lib.hid s28
            have B28 := Lib.hid (B27.out.trans (b28.mono B27.out.size))
            clear B27 b28 s28
            clear XI YI
            go_wp2_with fail
            refine (likeInts_yes _ OI.out MI.out (fun j hj => HCM.out j hj)).mono ?_
            rintro en w29 ⟨rfl, b29⟩
            replace SA := Lib.hid (SA.out.keep b29 SA.out.size)
            replace SB := Lib.hid (SB.out.keep b29 SB.out.size)
            replace MI := Lib.hid (MI.out.keep b29 MI.out.size)
            replace OI := Lib.hid (OI.out.keep b29 OI.out.size)
            replace VI := Lib.hid (VI.out.keep b29 VI.out.size)
            have B29 := Lib.hid (B28.out.trans (b29.mono B28.out.size))
            clear B28 b29 
            clear OI SA SB
            obtain ⟨mg, moff, mk, hmv, _⟩ := MI.out.at j2
            obtain ⟨rfl, rfl⟩ : pa = some ⟨mg, moff, none⟩ ∧ pk = mk := by cases hmv; exact ⟨rfl, rfl⟩
            obtain ⟨vg, voff, vk', hvv, _⟩ := VI.out.at j2
            obtain ⟨rfl, rfl⟩ : wa = some ⟨vg, voff, none⟩ ∧ wk = vk' := by cases hvv; exact ⟨rfl, rfl⟩
            clear hmv hvv
            go_wp2
            go_loopw [52] (fun s52 wr => ∃ i : Nat, i ≤ m1 ∧ s52 = .int .i64 (i : Int) ∧ Sl true wr w2.heap.size w3.heap.size (.slice (some ⟨mg, moff, none⟩) m1 pk) m1 (prT m1 (prodR P0 m1) fa fb) ∧ Sl true wr w27.heap.size w28.heap.size (.slice (some ⟨vg, voff, none⟩) m1 wk) m1 (prT m1 (prodR P0 m1) (shN m1 N0 fa) (shN m1 N0 fb)) ∧ Below w.heap.size w wr) (fun s52 _ => m1 - (intOf s52).toNat)
            case atStart => exact ⟨0, Nat.zero_le _, rfl, MI.out, VI.out, B29.out⟩
            case round =>
              clear MI VI B29
              obtain ⟨i, hi, rfl, hmi, hvi, hbb⟩ := hrel
              have MI := Lib.hid hmi; have VI := Lib.hid hvi; have BB := Lib.hid hbb
              clear hmi hvi hbb
              by_cases hin : i < m1
              · obtain ⟨t, ht⟩ : ∃ t, (i + N0) % m1 = t := ⟨_, rfl⟩
                have htn : t < m1 := by rw [← ht]; exact Nat.mod_lt _ (by omega)
                have hidx : ((i : Int) + (m1 : Int) - 1) % (m1 : Int) = (t : Int) := by rw [show (i : Int) + (m1 : Int) - 1 = ((i + N0 : Nat) : Int) by have := HNI.out; omega, ← Int.natCast_emod, ht]
                have cM := (MI.out.known (by omega)).2.2.2.1 i hin
                have cV := (VI.out.known (by omega)).2.2.2.1 t htn
                have hsh := HSH.out i hin
                rw [ht] at hsh
                rw [hsh] at cV
                clear ht hsh
                go_wp2
                go_region
                go_wp2
                go_roundw
                case rel => exact ⟨i + 1, by omega, by go_num, MI.out.drew, VI.out.drew, BB.out.drew⟩
                case measure => simp [intOf]; omega
              · go_wp2
                go_ret
                exact ⟨rfl, BB.out⟩
          · clear HF1
            have BB := B24.out
            go_wp2
            go_ret
            exact ⟨rfl, BB⟩
        · clear HF2
          clear SHI SC
          rcases HF1.out with ⟨P0, rfl, rfl, rfl, j1, j2, j3, j4, j5, j6, rfl, rfl, rfl⟩ | ⟨rfl, rfl⟩
          · clear HF1
            obtain ⟨N0, hN0⟩ : ∃ N0, m1 - 1 = N0 := ⟨_, rfl⟩
            have HPR := Lib.hid j1; have HPD := Lib.hid j4; have HWA := Lib.hid j5; have HWB := Lib.hid j6
            have hN1 : N0 < m1 := by omega
            have hNI : (m1 : Int) - 1 = (N0 : Int) := by omega
            have HCM := Lib.hid (fun t (ht : t < m1) => prT_comm (a := fa) (b := fb) ht (sym_ok j1 j2 j3 j4))
            have HSH := Lib.hid (fun t (ht : t < m1) => prT_sh (R := prodR P0 m1) (a := fa) (b := fb) hN1 ht)
            have hna0 : ¬ m1 = 0 := by omega
            clear j1 j4 j5 j6
            have HNI := Lib.hid hNI; clear hNI
            have HSX := Lib.hid (fun (w : World) lo hi v f (hs : Sl true w lo hi v m1 f) (hw : Within f m1 1000) => (show Calls Try.prog 41 #[.int .i64 (P0 : Int), .int .i64 (m1 : Int), v, .int .i64 ((m1 : Int) - 1)] w fun r w' => ∃ a' k', r = .returned (.tuple #[.slice a' m1 k', .int .i64 0]) ∧ Sl true w' w.heap.size w'.heap.size (.slice a' m1 k') m1 (shN m1 N0 f) ∧ Below w.heap.size w w' by
              have := ShiftPeriods_impl_ok P0 N0 HPR.out j2 j3 HPD.out hN1 w hs hw
              rw [← HNI.out] at this
              exact this))
            clear hN0
            go_wp2_with fail
            refine (MultiplyPeriods_impl_ok P0 HPR.out j2 j3 HPD.out _ SB.out SA.out HWB.out HWA.out).mono ?_
            rintro en w23 ⟨oa, ok, rfl, s23, b23⟩
            replace SA := Lib.hid (SA.out.keep b23 SA.out.size)
            replace SB := Lib.hid (SB.out.keep b23 SB.out.size)
            replace MI := Lib.hid (MI.out.keep b23 MI.out.size)
            have OI := Lib.hid s23
            have B23 := Lib.hid (B22.out.trans (b23.mono B22.out.size))
            clear B22 b23 s23
            go_wp2_with fail
            refine (HSX.out _ _ _ _ _ SA.out HWA.out).mono ?_
            rintro en w24 ⟨xa, xk, rfl, s24, b24⟩
            replace SA := Lib.hid (SA.out.keep b24 SA.out.size)
            replace SB := Lib.hid (SB.out.keep b24 SB.out.size)
            replace MI := Lib.hid (MI.out.keep b24 MI.out.size)
            replace OI := Lib.hid (OI.out.keep b24 OI.out.size)
            have XI := Lib.hid s24
            have B24 := Lib.hid (B23.out.trans (b24.mono B23.out.size))
            clear B23 b24 s24
            go_wp2_with fail
            refine (HSX.out _ _ _ _ _ SB.out HWB.out).mono ?_
            rintro en w25 ⟨va, vk, rfl, s25, b25⟩
            replace SA := Lib.hid (SA.out.keep b25 SA.out.size)
            replace SB := Lib.hid (SB.out.keep b25 SB.out.size)
            replace MI := Lib.hid (MI.out.keep b25 MI.out.size)
            replace OI := Lib.hid (OI.out.keep b25 OI.out.size)
            replace XI := Lib.hid (XI.out.keep b25 XI.out.size)
            have YI := Lib.hid s25
            have B25 := Lib.hid (B24.out.trans (b25.mono B24.out.size))
            clear B24 b25 s25
            clear HSX
            go_wp2_with fail
            refine (MultiplyPeriods_impl_ok P0 HPR.out j2 j3 HPD.out _ XI.out YI.out (sh_within j2 HWA.out) (sh_within j2 HWB.out)).mono ?_
            rintro en w26 ⟨wa, wk, rfl, s26, b26⟩
            replace SA := Lib.hid (SA.out.keep b26 SA.out.size)
            replace SB := Lib.hid (SB.out.keep b26 SB.out.size)
            replace MI := Lib.hid (MI.out.keep b26 MI.out.size)
            replace OI := Lib.hid (OI.out.keep b26 OI.out.size)
            replace XI := Lib.hid (XI.out.keep b26 XI.out.size)
            replace YI := Lib.hid (YI.out.keep b26 YI.out.size)
            have VI := Lib.hid s26
            have B26 := Lib.hid (B25.out.trans (b26.mono B25.out.size))
            clear B25 b26 s26
            clear XI YI
            go_wp2_with fail
            refine (likeInts_yes _ OI.out MI.out (fun j hj => HCM.out j hj)).mono ?_
            rintro en w27 ⟨rfl, b27⟩
            replace SA := Lib.hid (SA.out.keep b27 SA.out.size)
            replace SB := Lib.hid (SB.out.keep b27 SB.out.size)
            replace MI := Lib.hid (MI.out.keep b27 MI.out.size)
            replace OI := Lib.hid (OI.out.keep b27 OI.out.size)
            replace VI := Lib.hid (VI.out.keep b27 VI.out.size)
            have B27 := Lib.hid (B26.out.trans (b27.mono B26.out.size))
            clear B26 b27 
            clear OI SA SB
            obtain ⟨mg, moff, mk, hmv, _⟩ := MI.out.at j2
            obtain ⟨rfl, rfl⟩ : pa = some ⟨mg, moff, none⟩ ∧ pk = mk := by cases hmv; exact ⟨rfl, rfl⟩
            obtain ⟨vg, voff, vk', hvv, _⟩ := VI.out.at j2
            obtain ⟨rfl, rfl⟩ : wa = some ⟨vg, voff, none⟩ ∧ wk = vk' := by cases hvv; exact ⟨rfl, rfl⟩
            clear hmv hvv
            go_wp2
            go_loopw [52] (fun s52 wr => ∃ i : Nat, i ≤ m1 ∧ s52 = .int .i64 (i : Int) ∧ Sl true wr w2.heap.size w3.heap.size (.slice (some ⟨mg, moff, none⟩) m1 pk) m1 (prT m1 (prodR P0 m1) fa fb) ∧ Sl true wr w25.heap.size w26.heap.size (.slice (some ⟨vg, voff, none⟩) m1 wk) m1 (prT m1 (prodR P0 m1) (shN m1 N0 fa) (shN m1 N0 fb)) ∧ Below w.heap.size w wr) (fun s52 _ => m1 - (intOf s52).toNat)
            case atStart => exact ⟨0, Nat.zero_le _, rfl, MI.out, VI.out, B27.out⟩
            case round =>
              clear MI VI B27
              obtain ⟨i, hi, rfl, hmi, hvi, hbb⟩ := hrel
              have MI := Lib.hid hmi; have VI := Lib.hid hvi; have BB := Lib.hid hbb
              clear hmi hvi hbb
              by_cases hin : i < m1
              · obtain ⟨t, ht⟩ : ∃ t, (i + N0) % m1 = t := ⟨_, rfl⟩
                have htn : t < m1 := by rw [← ht]; exact Nat.mod_lt _ (by omega)
                have hidx : ((i : Int) + (m1 : Int) - 1) % (m1 : Int) = (t : Int) := by rw [show (i : Int) + (m1 : Int) - 1 = ((i + N0 : Nat) : Int) by have := HNI.out; omega, ← Int.natCast_emod, ht]
                have cM := (MI.out.known (by omega)).2.2.2.1 i hin
                have cV := (VI.out.known (by omega)).2.2.2.1 t htn
                have hsh := HSH.out i hin
                rw [ht] at hsh
                rw [hsh] at cV
                clear ht hsh
                go_wp2
                go_region
                go_wp2
                go_roundw
                case rel => exact ⟨i + 1, by omega, by go_num, MI.out.drew, VI.out.drew, BB.out.drew⟩
                case measure => simp [intOf]; omega
              · go_wp2
                go_ret
                exact ⟨rfl, BB.out⟩
          · clear HF1
            have BB := B22.out
            go_wp2
            go_ret
            exact ⟨rfl, BB⟩
      · clear HF4
        clear SL RI
        rcases HF2.out with ⟨P2, K2, rfl, rfl, rfl, i1, i2, i3, i4, i5, i6, rfl, rfl, rfl⟩ | rfl
        · clear HF2
          have HWC := Lib.hid i6; have HSS := Lib.hid (sum_sh (f := fc) i5)
          clear i1 i4 i6
          go_wp2_with fail
          refine (sum_any _ SHI.out (by omega) (fun j hj => by have := sh_within (K := K2) i2 HWC.out j hj; omega)).mono ?_
          rintro en w21 ⟨rfl, b21⟩
          replace SA := Lib.hid (SA.out.keep b21 SA.out.size)
          replace SB := Lib.hid (SB.out.keep b21 SB.out.size)
          replace MI := Lib.hid (MI.out.keep b21 MI.out.size)
          replace SC := Lib.hid (SC.out.keep b21 SC.out.size)
          replace SHI := Lib.hid (SHI.out.keep b21 SHI.out.size)
          have B21 := Lib.hid (B20.out.trans (b21.mono B20.out.size))
          clear B20 b21 
          go_wp2_with fail
          refine (sum_any _ SC.out (by omega) (fun j hj => by have := HWC.out j hj; omega)).mono ?_
          rintro en w22 ⟨rfl, b22⟩
          replace SA := Lib.hid (SA.out.keep b22 SA.out.size)
          replace SB := Lib.hid (SB.out.keep b22 SB.out.size)
          replace MI := Lib.hid (MI.out.keep b22 MI.out.size)
          replace SC := Lib.hid (SC.out.keep b22 SC.out.size)
          replace SHI := Lib.hid (SHI.out.keep b22 SHI.out.size)
          have B22 := Lib.hid (B21.out.trans (b22.mono B21.out.size))
          clear B21 b22 
          clear SHI SC
          rw [HSS.out]
          generalize sumN m2 fc = SN
          rcases HF1.out with ⟨P0, rfl, rfl, rfl, j1, j2, j3, j4, j5, j6, rfl, rfl, rfl⟩ | ⟨rfl, rfl⟩
          · clear HF1
            obtain ⟨N0, hN0⟩ : ∃ N0, m1 - 1 = N0 := ⟨_, rfl⟩
            have HPR := Lib.hid j1; have HPD := Lib.hid j4; have HWA := Lib.hid j5; have HWB := Lib.hid j6
            have hN1 : N0 < m1 := by omega
            have hNI : (m1 : Int) - 1 = (N0 : Int) := by omega
            have HCM := Lib.hid (fun t (ht : t < m1) => prT_comm (a := fa) (b := fb) ht (sym_ok j1 j2 j3 j4))
            have HSH := Lib.hid (fun t (ht : t < m1) => prT_sh (R := prodR P0 m1) (a := fa) (b := fb) hN1 ht)
            have hna0 : ¬ m1 = 0 := by omega
            clear j1 j4 j5 j6
            have HNI := Lib.hid hNI; clear hNI
            have HSX := Lib.hid (fun (w : World) lo hi v f (hs : Sl true w lo hi v m1 f) (hw : Within f m1 1000) => (show Calls Try.prog 41 #[.int .i64 (P0 : Int), .int .i64 (m1 : Int), v, .int .i64 ((m1 : Int) - 1)] w fun r w' => ∃ a' k', r = .returned (.tuple #[.slice a' m1 k', .int .i64 0]) ∧ Sl true w' w.heap.size w'.heap.size (.slice a' m1 k') m1 (shN m1 N0 f) ∧ Below w.heap.size w w' by
              have := ShiftPeriods_impl_ok P0 N0 HPR.out j2 j3 HPD.out hN1 w hs hw
              rw [← HNI.out] at this
              exact this))
            clear hN0
            go_wp2_with fail
            refine (MultiplyPeriods_impl_ok P0 HPR.out j2 j3 HPD.out _ SB.out SA.out HWB.out HWA.out).mono ?_
            rintro en w23 ⟨oa, ok, rfl, s23, b23⟩
            replace SA := Lib.hid (SA.out.keep b23 SA.out.size)
            replace SB := Lib.hid (SB.out.keep b23 SB.out.size)
            replace MI := Lib.hid (MI.out.keep b23 MI.out.size)
            have OI := Lib.hid s23
            have B23 := Lib.hid (B22.out.trans (b23.mono B22.out.size))
            clear B22 b23 s23
            go_wp2_with fail
            refine (HSX.out _ _ _ _ _ SA.out HWA.out).mono ?_
            rintro en w24 ⟨xa, xk, rfl, s24, b24⟩
            replace SA := Lib.hid (SA.out.keep b24 SA.out.size)
            replace SB := Lib.hid (SB.out.keep b24 SB.out.size)
            replace MI := Lib.hid (MI.out.keep b24 MI.out.size)
            replace OI := Lib.hid (OI.out.keep b24 OI.out.size)
            have XI := Lib.hid s24
            have B24 := Lib.hid (B23.out.trans (b24.mono B23.out.size))
            clear B23 b24 s24
            go_wp2_with fail
            refine (HSX.out _ _ _ _ _ SB.out HWB.out).mono ?_
            rintro en w25 ⟨va, vk, rfl, s25, b25⟩
            replace SA := Lib.hid (SA.out.keep b25 SA.out.size)
            replace SB := Lib.hid (SB.out.keep b25 SB.out.size)
            replace MI := Lib.hid (MI.out.keep b25 MI.out.size)
            replace OI := Lib.hid (OI.out.keep b25 OI.out.size)
            replace XI := Lib.hid (XI.out.keep b25 XI.out.size)
            have YI := Lib.hid s25
            have B25 := Lib.hid (B24.out.trans (b25.mono B24.out.size))
            clear B24 b25 s25
            clear HSX
            go_wp2_with fail
            refine (MultiplyPeriods_impl_ok P0 HPR.out j2 j3 HPD.out _ XI.out YI.out (sh_within j2 HWA.out) (sh_within j2 HWB.out)).mono ?_
            rintro en w26 ⟨wa, wk, rfl, s26, b26⟩
            replace SA := Lib.hid (SA.out.keep b26 SA.out.size)
            replace SB := Lib.hid (SB.out.keep b26 SB.out.size)
            replace MI := Lib.hid (MI.out.keep b26 MI.out.size)
            replace OI := Lib.hid (OI.out.keep b26 OI.out.size)
            replace XI := Lib.hid (XI.out.keep b26 XI.out.size)
            replace YI := Lib.hid (YI.out.keep b26 YI.out.size)
            have VI := Lib.hid s26
            have B26 := Lib.hid (B25.out.trans (b26.mono B25.out.size))
            clear B25 b26 s26
            clear XI YI
            go_wp2_with fail
            refine (likeInts_yes _ OI.out MI.out (fun j hj => HCM.out j hj)).mono ?_
            rintro en w27 ⟨rfl, b27⟩
            replace SA := Lib.hid (SA.out.keep b27 SA.out.size)
            replace SB := Lib.hid (SB.out.keep b27 SB.out.size)
            replace MI := Lib.hid (MI.out.keep b27 MI.out.size)
            replace OI := Lib.hid (OI.out.keep b27 OI.out.size)
            replace VI := Lib.hid (VI.out.keep b27 VI.out.size)
            have B27 := Lib.hid (B26.out.trans (b27.mono B26.out.size))
            clear B26 b27 
            clear OI SA SB
            obtain ⟨mg, moff, mk, hmv, _⟩ := MI.out.at j2
            obtain ⟨rfl, rfl⟩ : pa = some ⟨mg, moff, none⟩ ∧ pk = mk := by cases hmv; exact ⟨rfl, rfl⟩
            obtain ⟨vg, voff, vk', hvv, _⟩ := VI.out.at j2
            obtain ⟨rfl, rfl⟩ : wa = some ⟨vg, voff, none⟩ ∧ wk = vk' := by cases hvv; exact ⟨rfl, rfl⟩
            clear hmv hvv
            go_wp2
            go_loopw [52] (fun s52 wr => ∃ i : Nat, i ≤ m1 ∧ s52 = .int .i64 (i : Int) ∧ Sl true wr w2.heap.size w3.heap.size (.slice (some ⟨mg, moff, none⟩) m1 pk) m1 (prT m1 (prodR P0 m1) fa fb) ∧ Sl true wr w25.heap.size w26.heap.size (.slice (some ⟨vg, voff, none⟩) m1 wk) m1 (prT m1 (prodR P0 m1) (shN m1 N0 fa) (shN m1 N0 fb)) ∧ Below w.heap.size w wr) (fun s52 _ => m1 - (intOf s52).toNat)
            case atStart => exact ⟨0, Nat.zero_le _, rfl, MI.out, VI.out, B27.out⟩
            case round =>
              clear MI VI B27
              obtain ⟨i, hi, rfl, hmi, hvi, hbb⟩ := hrel
              have MI := Lib.hid hmi; have VI := Lib.hid hvi; have BB := Lib.hid hbb
              clear hmi hvi hbb
              by_cases hin : i < m1
              · obtain ⟨t, ht⟩ : ∃ t, (i + N0) % m1 = t := ⟨_, rfl⟩
                have htn : t < m1 := by rw [← ht]; exact Nat.mod_lt _ (by omega)
                have hidx : ((i : Int) + (m1 : Int) - 1) % (m1 : Int) = (t : Int) := by rw [show (i : Int) + (m1 : Int) - 1 = ((i + N0 : Nat) : Int) by have := HNI.out; omega, ← Int.natCast_emod, ht]
                have cM := (MI.out.known (by omega)).2.2.2.1 i hin
                have cV := (VI.out.known (by omega)).2.2.2.1 t htn
                have hsh := HSH.out i hin
                rw [ht] at hsh
                rw [hsh] at cV
                clear ht hsh
                go_wp2
                go_region
                go_wp2
                go_roundw
                case rel => exact ⟨i + 1, by omega, by go_num, MI.out.drew, VI.out.drew, BB.out.drew⟩
                case measure => simp [intOf]; omega
              · go_wp2
                go_ret
                exact ⟨rfl, BB.out⟩
          · clear HF1
            have BB := B22.out
            go_wp2
            go_ret
            exact ⟨rfl, BB⟩
        · clear HF2
          clear SHI SC
          rcases HF1.out with ⟨P0, rfl, rfl, rfl, j1, j2, j3, j4, j5, j6, rfl, rfl, rfl⟩ | ⟨rfl, rfl⟩
          · clear HF1
            obtain ⟨N0, hN0⟩ : ∃ N0, m1 - 1 = N0 := ⟨_, rfl⟩
            have HPR := Lib.hid j1; have HPD := Lib.hid j4; have HWA := Lib.hid j5; have HWB := Lib.hid j6
            have hN1 : N0 < m1 := by omega
            have hNI : (m1 : Int) - 1 = (N0 : Int) := by omega
            have HCM := Lib.hid (fun t (ht : t < m1) => prT_comm (a := fa) (b := fb) ht (sym_ok j1 j2 j3 j4))
            have HSH := Lib.hid (fun t (ht : t < m1) => prT_sh (R := prodR P0 m1) (a := fa) (b := fb) hN1 ht)
            have hna0 : ¬ m1 = 0 := by omega
            clear j1 j4 j5 j6
            have HNI := Lib.hid hNI; clear hNI
            have HSX := Lib.hid (fun (w : World) lo hi v f (hs : Sl true w lo hi v m1 f) (hw : Within f m1 1000) => (show Calls Try.prog 41 #[.int .i64 (P0 : Int), .int .i64 (m1 : Int), v, .int .i64 ((m1 : Int) - 1)] w fun r w' => ∃ a' k', r = .returned (.tuple #[.slice a' m1 k', .int .i64 0]) ∧ Sl true w' w.heap.size w'.heap.size (.slice a' m1 k') m1 (shN m1 N0 f) ∧ Below w.heap.size w w' by
              have := ShiftPeriods_impl_ok P0 N0 HPR.out j2 j3 HPD.out hN1 w hs hw
              rw [← HNI.out] at this
              exact this))
            clear hN0
            go_wp2_with fail
            refine (MultiplyPeriods_impl_ok P0 HPR.out j2 j3 HPD.out _ SB.out SA.out HWB.out HWA.out).mono ?_
            rintro en w21 ⟨oa, ok, rfl, s21, b21⟩
            replace SA := Lib.hid (SA.out.keep b21 SA.out.size)
            replace SB := Lib.hid (SB.out.keep b21 SB.out.size)
            replace MI := Lib.hid (MI.out.keep b21 MI.out.size)
            have OI := Lib.hid s21
            have B21 := Lib.hid (B20.out.trans (b21.mono B20.out.size))
            clear B20 b21 s21
            go_wp2_with fail
            refine (HSX.out _ _ _ _ _ SA.out HWA.out).mono ?_
            rintro en w22 ⟨xa, xk, rfl, s22, b22⟩
            replace SA := Lib.hid (SA.out.keep b22 SA.out.size)
            replace SB := Lib.hid (SB.out.keep b22 SB.out.size)
            replace MI := Lib.hid (MI.out.keep b22 MI.out.size)
            replace OI := Lib.hid (OI.out.keep b22 OI.out.size)
            have XI := Lib.hid s22
            have B22 := Lib.hid (B21.out.trans (b22.mono B21.out.size))
            clear B21 b22 s22
            go_wp2_with fail
            refine (HSX.out _ _ _ _ _ SB.out HWB.out).mono ?_
            rintro en w23 ⟨va, vk, rfl, s23, b23⟩
            replace SA := Lib.hid (SA.out.keep b23 SA.out.size)
            replace SB := Lib.hid (SB.out.keep b23 SB.out.size)
            replace MI := Lib.hid (MI.out.keep b23 MI.out.size)
            replace OI := Lib.hid (OI.out.keep b23 OI.out.size)
            replace XI := Lib.hid (XI.out.keep b23 XI.out.size)
            have YI := Lib.hid s23
            have B23 := Lib.hid (B22.out.trans (b23.mono B22.out.size))
            clear B22 b23 s23
            clear HSX
            go_wp2_with fail
            refine (MultiplyPeriods_impl_ok P0 HPR.out j2 j3 HPD.out _ XI.out YI.out (sh_within j2 HWA.out) (sh_within j2 HWB.out)).mono ?_
            rintro en w24 ⟨wa, wk, rfl, s24, b24⟩
            replace SA := Lib.hid (SA.out.keep b24 SA.out.size)
            replace SB := Lib.hid (SB.out.keep b24 SB.out.size)
            replace MI := Lib.hid (MI.out.keep b24 MI.out.size)
            replace OI := Lib.hid (OI.out.keep b24 OI.out.size)
            replace XI := Lib.hid (XI.out.keep b24 XI.out.size)
            replace YI := Lib.hid (YI.out.keep b24 YI.out.size)
            have VI := Lib.hid s24
            have B24 := Lib.hid (B23.out.trans (b24.mono B23.out.size))
            clear B23 b24 s24
            clear XI YI
            go_wp2_with fail
            refine (likeInts_yes _ OI.out MI.out (fun j hj => HCM.out j hj)).mono ?_
            rintro en w25 ⟨rfl, b25⟩
            replace SA := Lib.hid (SA.out.keep b25 SA.out.size)
            replace SB := Lib.hid (SB.out.keep b25 SB.out.size)
            replace MI := Lib.hid (MI.out.keep b25 MI.out.size)
            replace OI := Lib.hid (OI.out.keep b25 OI.out.size)
            replace VI := Lib.hid (VI.out.keep b25 VI.out.size)
            have B25 := Lib.hid (B24.out.trans (b25.mono B24.out.size))
            clear B24 b25 
            clear OI SA SB
            obtain ⟨mg, moff, mk, hmv, _⟩ := MI.out.at j2
            obtain ⟨rfl, rfl⟩ : pa = some ⟨mg, moff, none⟩ ∧ pk = mk := by cases hmv; exact ⟨rfl, rfl⟩
            obtain ⟨vg, voff, vk', hvv, _⟩ := VI.out.at j2
            obtain ⟨rfl, rfl⟩ : wa = some ⟨vg, voff, none⟩ ∧ wk = vk' := by cases hvv; exact ⟨rfl, rfl⟩
            clear hmv hvv
            go_wp2
            go_loopw [52] (fun s52 wr => ∃ i : Nat, i ≤ m1 ∧ s52 = .int .i64 (i : Int) ∧ Sl true wr w2.heap.size w3.heap.size (.slice (some ⟨mg, moff, none⟩) m1 pk) m1 (prT m1 (prodR P0 m1) fa fb) ∧ Sl true wr w23.heap.size w24.heap.size (.slice (some ⟨vg, voff, none⟩) m1 wk) m1 (prT m1 (prodR P0 m1) (shN m1 N0 fa) (shN m1 N0 fb)) ∧ Below w.heap.size w wr) (fun s52 _ => m1 - (intOf s52).toNat)
            case atStart => exact ⟨0, Nat.zero_le _, rfl, MI.out, VI.out, B25.out⟩
            case round =>
              clear MI VI B25
              obtain ⟨i, hi, rfl, hmi, hvi, hbb⟩ := hrel
              have MI := Lib.hid hmi; have VI := Lib.hid hvi; have BB := Lib.hid hbb
              clear hmi hvi hbb
              by_cases hin : i < m1
              · obtain ⟨t, ht⟩ : ∃ t, (i + N0) % m1 = t := ⟨_, rfl⟩
                have htn : t < m1 := by rw [← ht]; exact Nat.mod_lt _ (by omega)
                have hidx : ((i : Int) + (m1 : Int) - 1) % (m1 : Int) = (t : Int) := by rw [show (i : Int) + (m1 : Int) - 1 = ((i + N0 : Nat) : Int) by have := HNI.out; omega, ← Int.natCast_emod, ht]
                have cM := (MI.out.known (by omega)).2.2.2.1 i hin
                have cV := (VI.out.known (by omega)).2.2.2.1 t htn
                have hsh := HSH.out i hin
                rw [ht] at hsh
                rw [hsh] at cV
                clear ht hsh
                go_wp2
                go_region
                go_wp2
                go_roundw
                case rel => exact ⟨i + 1, by omega, by go_num, MI.out.drew, VI.out.drew, BB.out.drew⟩
                case measure => simp [intOf]; omega
              · go_wp2
                go_ret
                exact ⟨rfl, BB.out⟩
          · clear HF1
            have BB := B20.out
            go_wp2
            go_ret
            exact ⟨rfl, BB⟩
    · clear HF5
      clear PI
      rcases HF4.out with ⟨P4, E4, rfl, rfl, rfl, g1, g2, g3, g4, g5, g6, g7, g8, g9, rfl, rfl, rfl⟩ | rfl
      · clear HF4
        have HR1 := Lib.hid g1; have HR4 := Lib.hid g4; have HR7 := Lib.hid g7; have HR9 := Lib.hid g9
        have HTR := Lib.hid (trN_rep g2 g8 fl)
        have HZB := Lib.hid (trN_bd (rep_within (E := m4) g2 g9) m4 (Nat.le_refl _))
        clear g1 g4 g7 g9
        go_wp2_with fail
        refine (TraceOfPeriods_impl_ok P4 HR1.out g2 g3 HR4.out _ SL.out HR9.out).mono ?_
        rintro en w21 ⟨rfl, b21⟩
        replace SA := Lib.hid (SA.out.keep b21 SA.out.size)
        replace SB := Lib.hid (SB.out.keep b21 SB.out.size)
        replace MI := Lib.hid (MI.out.keep b21 MI.out.size)
        replace SC := Lib.hid (SC.out.keep b21 SC.out.size)
        replace SHI := Lib.hid (SHI.out.keep b21 SHI.out.size)
        replace SL := Lib.hid (SL.out.keep b21 SL.out.size)
        replace RI := Lib.hid (RI.out.keep b21 RI.out.size)
        have B21 := Lib.hid (B20.out.trans (b21.mono B20.out.size))
        clear B20 b21 
        go_wp2_with fail
        refine (TraceOfPeriods_impl_ok P4 HR1.out g5 g6 HR7.out _ RI.out (rep_within g2 HR9.out)).mono ?_
        rintro en w22 ⟨rfl, b22⟩
        replace SA := Lib.hid (SA.out.keep b22 SA.out.size)
        replace SB := Lib.hid (SB.out.keep b22 SB.out.size)
        replace MI := Lib.hid (MI.out.keep b22 MI.out.size)
        replace SC := Lib.hid (SC.out.keep b22 SC.out.size)
        replace SHI := Lib.hid (SHI.out.keep b22 SHI.out.size)
        replace SL := Lib.hid (SL.out.keep b22 SL.out.size)
        replace RI := Lib.hid (RI.out.keep b22 RI.out.size)
        have B22 := Lib.hid (B21.out.trans (b22.mono B21.out.size))
        clear B21 b22 
        clear SL RI
        have hzb := HZB.out
        have htr := HTR.out
        obtain ⟨Z, hZ⟩ : ∃ Z, trN (fun j => fl (j % nl)) m4 = Z := ⟨_, rfl⟩
        rw [hZ] at htr hzb ⊢
        obtain ⟨q4, hqn⟩ : ∃ q4, m4 / nl = q4 := ⟨_, rfl⟩
        have hq4 : (m4 : Int).tdiv (nl : Int) = (q4 : Int) := by rw [← hqn]; rfl
        have hq5 : (m4 : Int) / (nl : Int) = (q4 : Int) := by rw [← hqn]; exact (Int.natCast_ediv m4 nl).symm
        rw [hqn] at htr
        have hq12 : q4 ≤ 12 := by rw [← hqn]; exact Nat.le_trans (Nat.div_le_self _ _) g6
        have hwZ : IntKind.i64.wrap (trN fl nl * (q4 : Int)) = Z := by rw [← htr]; exact IntWalk.i64_in _ (by omega)
        have hnl0 : ¬ nl = 0 := by omega
        clear htr hZ HTR HZB
        rcases HF2.out with ⟨P2, K2, rfl, rfl, rfl, i1, i2, i3, i4, i5, i6, rfl, rfl, rfl⟩ | rfl
        · clear HF2
          have HWC := Lib.hid i6; have HSS := Lib.hid (sum_sh (f := fc) i5)
          clear i1 i4 i6
          go_wp2_with fail
          refine (sum_any _ SHI.out (by omega) (fun j hj => by have := sh_within (K := K2) i2 HWC.out j hj; omega)).mono ?_
          rintro en w23 ⟨rfl, b23⟩
          replace SA := Lib.hid (SA.out.keep b23 SA.out.size)
          replace SB := Lib.hid (SB.out.keep b23 SB.out.size)
          replace MI := Lib.hid (MI.out.keep b23 MI.out.size)
          replace SC := Lib.hid (SC.out.keep b23 SC.out.size)
          replace SHI := Lib.hid (SHI.out.keep b23 SHI.out.size)
          have B23 := Lib.hid (B22.out.trans (b23.mono B22.out.size))
          clear B22 b23 
          go_wp2_with fail
          refine (sum_any _ SC.out (by omega) (fun j hj => by have := HWC.out j hj; omega)).mono ?_
          rintro en w24 ⟨rfl, b24⟩
          replace SA := Lib.hid (SA.out.keep b24 SA.out.size)
          replace SB := Lib.hid (SB.out.keep b24 SB.out.size)
          replace MI := Lib.hid (MI.out.keep b24 MI.out.size)
          replace SC := Lib.hid (SC.out.keep b24 SC.out.size)
          replace SHI := Lib.hid (SHI.out.keep b24 SHI.out.size)
          have B24 := Lib.hid (B23.out.trans (b24.mono B23.out.size))
          clear B23 b24 
          clear SHI SC
          rw [HSS.out]
          generalize sumN m2 fc = SN
          rcases HF1.out with ⟨P0, rfl, rfl, rfl, j1, j2, j3, j4, j5, j6, rfl, rfl, rfl⟩ | ⟨rfl, rfl⟩
          · clear HF1
            obtain ⟨N0, hN0⟩ : ∃ N0, m1 - 1 = N0 := ⟨_, rfl⟩
            have HPR := Lib.hid j1; have HPD := Lib.hid j4; have HWA := Lib.hid j5; have HWB := Lib.hid j6
            have hN1 : N0 < m1 := by omega
            have hNI : (m1 : Int) - 1 = (N0 : Int) := by omega
            have HCM := Lib.hid (fun t (ht : t < m1) => prT_comm (a := fa) (b := fb) ht (sym_ok j1 j2 j3 j4))
            have HSH := Lib.hid (fun t (ht : t < m1) => prT_sh (R := prodR P0 m1) (a := fa) (b := fb) hN1 ht)
            have hna0 : ¬ m1 = 0 := by omega
            clear j1 j4 j5 j6
            have HNI := Lib.hid hNI; clear hNI
            have HSX := Lib.hid (fun (w : World) lo hi v f (hs : Sl true w lo hi v m1 f) (hw : Within f m1 1000) => (show Calls Try.prog 41 #[.int .i64 (P0 : Int), .int .i64 (m1 : Int), v, .int .i64 ((m1 : Int) - 1)] w fun r w' => ∃ a' k', r = .returned (.tuple #[.slice a' m1 k', .int .i64 0]) ∧ Sl true w' w.heap.size w'.heap.size (.slice a' m1 k') m1 (shN m1 N0 f) ∧ Below w.heap.size w w' by
              have := ShiftPeriods_impl_ok P0 N0 HPR.out j2 j3 HPD.out hN1 w hs hw
              rw [← HNI.out] at this
              exact this))
            clear hN0
            go_wp2_with fail
            refine (MultiplyPeriods_impl_ok P0 HPR.out j2 j3 HPD.out _ SB.out SA.out HWB.out HWA.out).mono ?_
            rintro en w25 ⟨oa, ok, rfl, s25, b25⟩
            replace SA := Lib.hid (SA.out.keep b25 SA.out.size)
            replace SB := Lib.hid (SB.out.keep b25 SB.out.size)
            replace MI := Lib.hid (MI.out.keep b25 MI.out.size)
            have OI := Lib.hid s25
            have B25 := Lib.hid (B24.out.trans (b25.mono B24.out.size))
            clear B24 b25 s25
            go_wp2_with fail
            refine (HSX.out _ _ _ _ _ SA.out HWA.out).mono ?_
            rintro en w26 ⟨xa, xk, rfl, s26, b26⟩
            replace SA := Lib.hid (SA.out.keep b26 SA.out.size)
            replace SB := Lib.hid (SB.out.keep b26 SB.out.size)
            replace MI := Lib.hid (MI.out.keep b26 MI.out.size)
            replace OI := Lib.hid (OI.out.keep b26 OI.out.size)
            have XI := Lib.hid s26
            have B26 := Lib.hid (B25.out.trans (b26.mono B25.out.size))
            clear B25 b26 s26
            go_wp2_with fail
            refine (HSX.out _ _ _ _ _ SB.out HWB.out).mono ?_
            rintro en w27 ⟨va, vk, rfl, s27, b27⟩
            replace SA := Lib.hid (SA.out.keep b27 SA.out.size)
            replace SB := Lib.hid (SB.out.keep b27 SB.out.size)
            replace MI := Lib.hid (MI.out.keep b27 MI.out.size)
            replace OI := Lib.hid (OI.out.keep b27 OI.out.size)
            replace XI := Lib.hid (XI.out.keep b27 XI.out.size)
            have YI := Lib.hid s27
            have B27 := Lib.hid (B26.out.trans (b27.mono B26.out.size))
            clear B26 b27 s27
            clear HSX
            go_wp2_with fail
            refine (MultiplyPeriods_impl_ok P0 HPR.out j2 j3 HPD.out _ XI.out YI.out (sh_within j2 HWA.out) (sh_within j2 HWB.out)).mono ?_
            rintro en w28 ⟨wa, wk, rfl, s28, b28⟩
            replace SA := Lib.hid (SA.out.keep b28 SA.out.size)
            replace SB := Lib.hid (SB.out.keep b28 SB.out.size)
            replace MI := Lib.hid (MI.out.keep b28 MI.out.size)
            replace OI := Lib.hid (OI.out.keep b28 OI.out.size)
            replace XI := Lib.hid (XI.out.keep b28 XI.out.size)
            replace YI := Lib.hid (YI.out.keep b28 YI.out.size)
            have VI := Lib.hid s28
            have B28 := Lib.hid (B27.out.trans (b28.mono B27.out.size))
            clear B27 b28 s28
            clear XI YI
            go_wp2_with fail
            refine (likeInts_yes _ OI.out MI.out (fun j hj => HCM.out j hj)).mono ?_
            rintro en w29 ⟨rfl, b29⟩
            replace SA := Lib.hid (SA.out.keep b29 SA.out.size)
            replace SB := Lib.hid (SB.out.keep b29 SB.out.size)
            replace MI := Lib.hid (MI.out.keep b29 MI.out.size)
            replace OI := Lib.hid (OI.out.keep b29 OI.out.size)
            replace VI := Lib.hid (VI.out.keep b29 VI.out.size)
            have B29 := Lib.hid (B28.out.trans (b29.mono B28.out.size))
            clear B28 b29 
            clear OI SA SB
            obtain ⟨mg, moff, mk, hmv, _⟩ := MI.out.at j2
            obtain ⟨rfl, rfl⟩ : pa = some ⟨mg, moff, none⟩ ∧ pk = mk := by cases hmv; exact ⟨rfl, rfl⟩
            obtain ⟨vg, voff, vk', hvv, _⟩ := VI.out.at j2
            obtain ⟨rfl, rfl⟩ : wa = some ⟨vg, voff, none⟩ ∧ wk = vk' := by cases hvv; exact ⟨rfl, rfl⟩
            clear hmv hvv
            go_wp2
            go_loopw [52] (fun s52 wr => ∃ i : Nat, i ≤ m1 ∧ s52 = .int .i64 (i : Int) ∧ Sl true wr w2.heap.size w3.heap.size (.slice (some ⟨mg, moff, none⟩) m1 pk) m1 (prT m1 (prodR P0 m1) fa fb) ∧ Sl true wr w27.heap.size w28.heap.size (.slice (some ⟨vg, voff, none⟩) m1 wk) m1 (prT m1 (prodR P0 m1) (shN m1 N0 fa) (shN m1 N0 fb)) ∧ Below w.heap.size w wr) (fun s52 _ => m1 - (intOf s52).toNat)
            case atStart => exact ⟨0, Nat.zero_le _, rfl, MI.out, VI.out, B29.out⟩
            case round =>
              clear MI VI B29
              obtain ⟨i, hi, rfl, hmi, hvi, hbb⟩ := hrel
              have MI := Lib.hid hmi; have VI := Lib.hid hvi; have BB := Lib.hid hbb
              clear hmi hvi hbb
              by_cases hin : i < m1
              · obtain ⟨t, ht⟩ : ∃ t, (i + N0) % m1 = t := ⟨_, rfl⟩
                have htn : t < m1 := by rw [← ht]; exact Nat.mod_lt _ (by omega)
                have hidx : ((i : Int) + (m1 : Int) - 1) % (m1 : Int) = (t : Int) := by rw [show (i : Int) + (m1 : Int) - 1 = ((i + N0 : Nat) : Int) by have := HNI.out; omega, ← Int.natCast_emod, ht]
                have cM := (MI.out.known (by omega)).2.2.2.1 i hin
                have cV := (VI.out.known (by omega)).2.2.2.1 t htn
                have hsh := HSH.out i hin
                rw [ht] at hsh
                rw [hsh] at cV
                clear ht hsh
                go_wp2
                go_region
                go_wp2
                go_roundw
                case rel => exact ⟨i + 1, by omega, by go_num, MI.out.drew, VI.out.drew, BB.out.drew⟩
                case measure => simp [intOf]; omega
              · go_wp2
                go_ret
                exact ⟨rfl, BB.out⟩
          · clear HF1
            have BB := B24.out
            go_wp2
            go_ret
            exact ⟨rfl, BB⟩
        · clear HF2
          clear SHI SC
          rcases HF1.out with ⟨P0, rfl, rfl, rfl, j1, j2, j3, j4, j5, j6, rfl, rfl, rfl⟩ | ⟨rfl, rfl⟩
          · clear HF1
            obtain ⟨N0, hN0⟩ : ∃ N0, m1 - 1 = N0 := ⟨_, rfl⟩
            have HPR := Lib.hid j1; have HPD := Lib.hid j4; have HWA := Lib.hid j5; have HWB := Lib.hid j6
            have hN1 : N0 < m1 := by omega
            have hNI : (m1 : Int) - 1 = (N0 : Int) := by omega
            have HCM := Lib.hid (fun t (ht : t < m1) => prT_comm (a := fa) (b := fb) ht (sym_ok j1 j2 j3 j4))
            have HSH := Lib.hid (fun t (ht : t < m1) => prT_sh (R := prodR P0 m1) (a := fa) (b := fb) hN1 ht)
            have hna0 : ¬ m1 = 0 := by omega
            clear j1 j4 j5 j6
            have HNI := Lib.hid hNI; clear hNI
            have HSX := Lib.hid (fun (w : World) lo hi v f (hs : Sl true w lo hi v m1 f) (hw : Within f m1 1000) => (show Calls Try.prog 41 #[.int .i64 (P0 : Int), .int .i64 (m1 : Int), v, .int .i64 ((m1 : Int) - 1)] w fun r w' => ∃ a' k', r = .returned (.tuple #[.slice a' m1 k', .int .i64 0]) ∧ Sl true w' w.heap.size w'.heap.size (.slice a' m1 k') m1 (shN m1 N0 f) ∧ Below w.heap.size w w' by
              have := ShiftPeriods_impl_ok P0 N0 HPR.out j2 j3 HPD.out hN1 w hs hw
              rw [← HNI.out] at this
              exact this))
            clear hN0
            go_wp2_with fail
            refine (MultiplyPeriods_impl_ok P0 HPR.out j2 j3 HPD.out _ SB.out SA.out HWB.out HWA.out).mono ?_
            rintro en w23 ⟨oa, ok, rfl, s23, b23⟩
            replace SA := Lib.hid (SA.out.keep b23 SA.out.size)
            replace SB := Lib.hid (SB.out.keep b23 SB.out.size)
            replace MI := Lib.hid (MI.out.keep b23 MI.out.size)
            have OI := Lib.hid s23
            have B23 := Lib.hid (B22.out.trans (b23.mono B22.out.size))
            clear B22 b23 s23
            go_wp2_with fail
            refine (HSX.out _ _ _ _ _ SA.out HWA.out).mono ?_
            rintro en w24 ⟨xa, xk, rfl, s24, b24⟩
            replace SA := Lib.hid (SA.out.keep b24 SA.out.size)
            replace SB := Lib.hid (SB.out.keep b24 SB.out.size)
            replace MI := Lib.hid (MI.out.keep b24 MI.out.size)
            replace OI := Lib.hid (OI.out.keep b24 OI.out.size)
            have XI := Lib.hid s24
            have B24 := Lib.hid (B23.out.trans (b24.mono B23.out.size))
            clear B23 b24 s24
            go_wp2_with fail
            refine (HSX.out _ _ _ _ _ SB.out HWB.out).mono ?_
            rintro en w25 ⟨va, vk, rfl, s25, b25⟩
            replace SA := Lib.hid (SA.out.keep b25 SA.out.size)
            replace SB := Lib.hid (SB.out.keep b25 SB.out.size)
            replace MI := Lib.hid (MI.out.keep b25 MI.out.size)
            replace OI := Lib.hid (OI.out.keep b25 OI.out.size)
            replace XI := Lib.hid (XI.out.keep b25 XI.out.size)
            have YI := Lib.hid s25
            have B25 := Lib.hid (B24.out.trans (b25.mono B24.out.size))
            clear B24 b25 s25
            clear HSX
            go_wp2_with fail
            refine (MultiplyPeriods_impl_ok P0 HPR.out j2 j3 HPD.out _ XI.out YI.out (sh_within j2 HWA.out) (sh_within j2 HWB.out)).mono ?_
            rintro en w26 ⟨wa, wk, rfl, s26, b26⟩
            replace SA := Lib.hid (SA.out.keep b26 SA.out.size)
            replace SB := Lib.hid (SB.out.keep b26 SB.out.size)
            replace MI := Lib.hid (MI.out.keep b26 MI.out.size)
            replace OI := Lib.hid (OI.out.keep b26 OI.out.size)
            replace XI := Lib.hid (XI.out.keep b26 XI.out.size)
            replace YI := Lib.hid (YI.out.keep b26 YI.out.size)
            have VI := Lib.hid s26
            have B26 := Lib.hid (B25.out.trans (b26.mono B25.out.size))
            clear B25 b26 s26
            clear XI YI
            go_wp2_with fail
            refine (likeInts_yes _ OI.out MI.out (fun j hj => HCM.out j hj)).mono ?_
            rintro en w27 ⟨rfl, b27⟩
            replace SA := Lib.hid (SA.out.keep b27 SA.out.size)
            replace SB := Lib.hid (SB.out.keep b27 SB.out.size)
            replace MI := Lib.hid (MI.out.keep b27 MI.out.size)
            replace OI := Lib.hid (OI.out.keep b27 OI.out.size)
            replace VI := Lib.hid (VI.out.keep b27 VI.out.size)
            have B27 := Lib.hid (B26.out.trans (b27.mono B26.out.size))
            clear B26 b27 
            clear OI SA SB
            obtain ⟨mg, moff, mk, hmv, _⟩ := MI.out.at j2
            obtain ⟨rfl, rfl⟩ : pa = some ⟨mg, moff, none⟩ ∧ pk = mk := by cases hmv; exact ⟨rfl, rfl⟩
            obtain ⟨vg, voff, vk', hvv, _⟩ := VI.out.at j2
            obtain ⟨rfl, rfl⟩ : wa = some ⟨vg, voff, none⟩ ∧ wk = vk' := by cases hvv; exact ⟨rfl, rfl⟩
            clear hmv hvv
            go_wp2
            go_loopw [52] (fun s52 wr => ∃ i : Nat, i ≤ m1 ∧ s52 = .int .i64 (i : Int) ∧ Sl true wr w2.heap.size w3.heap.size (.slice (some ⟨mg, moff, none⟩) m1 pk) m1 (prT m1 (prodR P0 m1) fa fb) ∧ Sl true wr w25.heap.size w26.heap.size (.slice (some ⟨vg, voff, none⟩) m1 wk) m1 (prT m1 (prodR P0 m1) (shN m1 N0 fa) (shN m1 N0 fb)) ∧ Below w.heap.size w wr) (fun s52 _ => m1 - (intOf s52).toNat)
            case atStart => exact ⟨0, Nat.zero_le _, rfl, MI.out, VI.out, B27.out⟩
            case round =>
              clear MI VI B27
              obtain ⟨i, hi, rfl, hmi, hvi, hbb⟩ := hrel
              have MI := Lib.hid hmi; have VI := Lib.hid hvi; have BB := Lib.hid hbb
              clear hmi hvi hbb
              by_cases hin : i < m1
              · obtain ⟨t, ht⟩ : ∃ t, (i + N0) % m1 = t := ⟨_, rfl⟩
                have htn : t < m1 := by rw [← ht]; exact Nat.mod_lt _ (by omega)
                have hidx : ((i : Int) + (m1 : Int) - 1) % (m1 : Int) = (t : Int) := by rw [show (i : Int) + (m1 : Int) - 1 = ((i + N0 : Nat) : Int) by have := HNI.out; omega, ← Int.natCast_emod, ht]
                have cM := (MI.out.known (by omega)).2.2.2.1 i hin
                have cV := (VI.out.known (by omega)).2.2.2.1 t htn
                have hsh := HSH.out i hin
                rw [ht] at hsh
                rw [hsh] at cV
                clear ht hsh
                go_wp2
                go_region
                go_wp2
                go_roundw
                case rel => exact ⟨i + 1, by omega, by go_num, MI.out.drew, VI.out.drew, BB.out.drew⟩
                case measure => simp [intOf]; omega
              · go_wp2
                go_ret
                exact ⟨rfl, BB.out⟩
          · clear HF1
            have BB := B22.out
            go_wp2
            go_ret
            exact ⟨rfl, BB⟩
      · clear HF4
        clear SL RI
        rcases HF2.out with ⟨P2, K2, rfl, rfl, rfl, i1, i2, i3, i4, i5, i6, rfl, rfl, rfl⟩ | rfl
        · clear HF2
          have HWC := Lib.hid i6; have HSS := Lib.hid (sum_sh (f := fc) i5)
          clear i1 i4 i6
          go_wp2_with fail
          refine (sum_any _ SHI.out (by omega) (fun j hj => by have := sh_within (K := K2) i2 HWC.out j hj; omega)).mono ?_
          rintro en w21 ⟨rfl, b21⟩
          replace SA := Lib.hid (SA.out.keep b21 SA.out.size)
          replace SB := Lib.hid (SB.out.keep b21 SB.out.size)
          replace MI := Lib.hid (MI.out.keep b21 MI.out.size)
          replace SC := Lib.hid (SC.out.keep b21 SC.out.size)
          replace SHI := Lib.hid (SHI.out.keep b21 SHI.out.size)
          have B21 := Lib.hid (B20.out.trans (b21.mono B20.out.size))
          clear B20 b21 
          go_wp2_with fail
          refine (sum_any _ SC.out (by omega) (fun j hj => by have := HWC.out j hj; omega)).mono ?_
          rintro en w22 ⟨rfl, b22⟩
          replace SA := Lib.hid (SA.out.keep b22 SA.out.size)
          replace SB := Lib.hid (SB.out.keep b22 SB.out.size)
          replace MI := Lib.hid (MI.out.keep b22 MI.out.size)
          replace SC := Lib.hid (SC.out.keep b22 SC.out.size)
          replace SHI := Lib.hid (SHI.out.keep b22 SHI.out.size)
          have B22 := Lib.hid (B21.out.trans (b22.mono B21.out.size))
          clear B21 b22 
          clear SHI SC
          rw [HSS.out]
          generalize sumN m2 fc = SN
          rcases HF1.out with ⟨P0, rfl, rfl, rfl, j1, j2, j3, j4, j5, j6, rfl, rfl, rfl⟩ | ⟨rfl, rfl⟩
          · clear HF1
            obtain ⟨N0, hN0⟩ : ∃ N0, m1 - 1 = N0 := ⟨_, rfl⟩
            have HPR := Lib.hid j1; have HPD := Lib.hid j4; have HWA := Lib.hid j5; have HWB := Lib.hid j6
            have hN1 : N0 < m1 := by omega
            have hNI : (m1 : Int) - 1 = (N0 : Int) := by omega
            have HCM := Lib.hid (fun t (ht : t < m1) => prT_comm (a := fa) (b := fb) ht (sym_ok j1 j2 j3 j4))
            have HSH := Lib.hid (fun t (ht : t < m1) => prT_sh (R := prodR P0 m1) (a := fa) (b := fb) hN1 ht)
            have hna0 : ¬ m1 = 0 := by omega
            clear j1 j4 j5 j6
            have HNI := Lib.hid hNI; clear hNI
            have HSX := Lib.hid (fun (w : World) lo hi v f (hs : Sl true w lo hi v m1 f) (hw : Within f m1 1000) => (show Calls Try.prog 41 #[.int .i64 (P0 : Int), .int .i64 (m1 : Int), v, .int .i64 ((m1 : Int) - 1)] w fun r w' => ∃ a' k', r = .returned (.tuple #[.slice a' m1 k', .int .i64 0]) ∧ Sl true w' w.heap.size w'.heap.size (.slice a' m1 k') m1 (shN m1 N0 f) ∧ Below w.heap.size w w' by
              have := ShiftPeriods_impl_ok P0 N0 HPR.out j2 j3 HPD.out hN1 w hs hw
              rw [← HNI.out] at this
              exact this))
            clear hN0
            go_wp2_with fail
            refine (MultiplyPeriods_impl_ok P0 HPR.out j2 j3 HPD.out _ SB.out SA.out HWB.out HWA.out).mono ?_
            rintro en w23 ⟨oa, ok, rfl, s23, b23⟩
            replace SA := Lib.hid (SA.out.keep b23 SA.out.size)
            replace SB := Lib.hid (SB.out.keep b23 SB.out.size)
            replace MI := Lib.hid (MI.out.keep b23 MI.out.size)
            have OI := Lib.hid s23
            have B23 := Lib.hid (B22.out.trans (b23.mono B22.out.size))
            clear B22 b23 s23
            go_wp2_with fail
            refine (HSX.out _ _ _ _ _ SA.out HWA.out).mono ?_
            rintro en w24 ⟨xa, xk, rfl, s24, b24⟩
            replace SA := Lib.hid (SA.out.keep b24 SA.out.size)
            replace SB := Lib.hid (SB.out.keep b24 SB.out.size)
            replace MI := Lib.hid (MI.out.keep b24 MI.out.size)
            replace OI := Lib.hid (OI.out.keep b24 OI.out.size)
            have XI := Lib.hid s24
            have B24 := Lib.hid (B23.out.trans (b24.mono B23.out.size))
            clear B23 b24 s24
            go_wp2_with fail
            refine (HSX.out _ _ _ _ _ SB.out HWB.out).mono ?_
            rintro en w25 ⟨va, vk, rfl, s25, b25⟩
            replace SA := Lib.hid (SA.out.keep b25 SA.out.size)
            replace SB := Lib.hid (SB.out.keep b25 SB.out.size)
            replace MI := Lib.hid (MI.out.keep b25 MI.out.size)
            replace OI := Lib.hid (OI.out.keep b25 OI.out.size)
            replace XI := Lib.hid (XI.out.keep b25 XI.out.size)
            have YI := Lib.hid s25
            have B25 := Lib.hid (B24.out.trans (b25.mono B24.out.size))
            clear B24 b25 s25
            clear HSX
            go_wp2_with fail
            refine (MultiplyPeriods_impl_ok P0 HPR.out j2 j3 HPD.out _ XI.out YI.out (sh_within j2 HWA.out) (sh_within j2 HWB.out)).mono ?_
            rintro en w26 ⟨wa, wk, rfl, s26, b26⟩
            replace SA := Lib.hid (SA.out.keep b26 SA.out.size)
            replace SB := Lib.hid (SB.out.keep b26 SB.out.size)
            replace MI := Lib.hid (MI.out.keep b26 MI.out.size)
            replace OI := Lib.hid (OI.out.keep b26 OI.out.size)
            replace XI := Lib.hid (XI.out.keep b26 XI.out.size)
            replace YI := Lib.hid (YI.out.keep b26 YI.out.size)
            have VI := Lib.hid s26
            have B26 := Lib.hid (B25.out.trans (b26.mono B25.out.size))
            clear B25 b26 s26
            clear XI YI
            go_wp2_with fail
            refine (likeInts_yes _ OI.out MI.out (fun j hj => HCM.out j hj)).mono ?_
            rintro en w27 ⟨rfl, b27⟩
            replace SA := Lib.hid (SA.out.keep b27 SA.out.size)
            replace SB := Lib.hid (SB.out.keep b27 SB.out.size)
            replace MI := Lib.hid (MI.out.keep b27 MI.out.size)
            replace OI := Lib.hid (OI.out.keep b27 OI.out.size)
            replace VI := Lib.hid (VI.out.keep b27 VI.out.size)
            have B27 := Lib.hid (B26.out.trans (b27.mono B26.out.size))
            clear B26 b27 
            clear OI SA SB
            obtain ⟨mg, moff, mk, hmv, _⟩ := MI.out.at j2
            obtain ⟨rfl, rfl⟩ : pa = some ⟨mg, moff, none⟩ ∧ pk = mk := by cases hmv; exact ⟨rfl, rfl⟩
            obtain ⟨vg, voff, vk', hvv, _⟩ := VI.out.at j2
            obtain ⟨rfl, rfl⟩ : wa = some ⟨vg, voff, none⟩ ∧ wk = vk' := by cases hvv; exact ⟨rfl, rfl⟩
            clear hmv hvv
            go_wp2
            go_loopw [52] (fun s52 wr => ∃ i : Nat, i ≤ m1 ∧ s52 = .int .i64 (i : Int) ∧ Sl true wr w2.heap.size w3.heap.size (.slice (some ⟨mg, moff, none⟩) m1 pk) m1 (prT m1 (prodR P0 m1) fa fb) ∧ Sl true wr w25.heap.size w26.heap.size (.slice (some ⟨vg, voff, none⟩) m1 wk) m1 (prT m1 (prodR P0 m1) (shN m1 N0 fa) (shN m1 N0 fb)) ∧ Below w.heap.size w wr) (fun s52 _ => m1 - (intOf s52).toNat)
            case atStart => exact ⟨0, Nat.zero_le _, rfl, MI.out, VI.out, B27.out⟩
            case round =>
              clear MI VI B27
              obtain ⟨i, hi, rfl, hmi, hvi, hbb⟩ := hrel
              have MI := Lib.hid hmi; have VI := Lib.hid hvi; have BB := Lib.hid hbb
              clear hmi hvi hbb
              by_cases hin : i < m1
              · obtain ⟨t, ht⟩ : ∃ t, (i + N0) % m1 = t := ⟨_, rfl⟩
                have htn : t < m1 := by rw [← ht]; exact Nat.mod_lt _ (by omega)
                have hidx : ((i : Int) + (m1 : Int) - 1) % (m1 : Int) = (t : Int) := by rw [show (i : Int) + (m1 : Int) - 1 = ((i + N0 : Nat) : Int) by have := HNI.out; omega, ← Int.natCast_emod, ht]
                have cM := (MI.out.known (by omega)).2.2.2.1 i hin
                have cV := (VI.out.known (by omega)).2.2.2.1 t htn
                have hsh := HSH.out i hin
                rw [ht] at hsh
                rw [hsh] at cV
                clear ht hsh
                go_wp2
                go_region
                go_wp2
                go_roundw
                case rel => exact ⟨i + 1, by omega, by go_num, MI.out.drew, VI.out.drew, BB.out.drew⟩
                case measure => simp [intOf]; omega
              · go_wp2
                go_ret
                exact ⟨rfl, BB.out⟩
          · clear HF1
            have BB := B22.out
            go_wp2
            go_ret
            exact ⟨rfl, BB⟩
        · clear HF2
          clear SHI SC
          rcases HF1.out with ⟨P0, rfl, rfl, rfl, j1, j2, j3, j4, j5, j6, rfl, rfl, rfl⟩ | ⟨rfl, rfl⟩
          · clear HF1
            obtain ⟨N0, hN0⟩ : ∃ N0, m1 - 1 = N0 := ⟨_, rfl⟩
            have HPR := Lib.hid j1; have HPD := Lib.hid j4; have HWA := Lib.hid j5; have HWB := Lib.hid j6
            have hN1 : N0 < m1 := by omega
            have hNI : (m1 : Int) - 1 = (N0 : Int) := by omega
            have HCM := Lib.hid (fun t (ht : t < m1) => prT_comm (a := fa) (b := fb) ht (sym_ok j1 j2 j3 j4))
            have HSH := Lib.hid (fun t (ht : t < m1) => prT_sh (R := prodR P0 m1) (a := fa) (b := fb) hN1 ht)
            have hna0 : ¬ m1 = 0 := by omega
            clear j1 j4 j5 j6
            have HNI := Lib.hid hNI; clear hNI
            have HSX := Lib.hid (fun (w : World) lo hi v f (hs : Sl true w lo hi v m1 f) (hw : Within f m1 1000) => (show Calls Try.prog 41 #[.int .i64 (P0 : Int), .int .i64 (m1 : Int), v, .int .i64 ((m1 : Int) - 1)] w fun r w' => ∃ a' k', r = .returned (.tuple #[.slice a' m1 k', .int .i64 0]) ∧ Sl true w' w.heap.size w'.heap.size (.slice a' m1 k') m1 (shN m1 N0 f) ∧ Below w.heap.size w w' by
              have := ShiftPeriods_impl_ok P0 N0 HPR.out j2 j3 HPD.out hN1 w hs hw
              rw [← HNI.out] at this
              exact this))
            clear hN0
            go_wp2_with fail
            refine (MultiplyPeriods_impl_ok P0 HPR.out j2 j3 HPD.out _ SB.out SA.out HWB.out HWA.out).mono ?_
            rintro en w21 ⟨oa, ok, rfl, s21, b21⟩
            replace SA := Lib.hid (SA.out.keep b21 SA.out.size)
            replace SB := Lib.hid (SB.out.keep b21 SB.out.size)
            replace MI := Lib.hid (MI.out.keep b21 MI.out.size)
            have OI := Lib.hid s21
            have B21 := Lib.hid (B20.out.trans (b21.mono B20.out.size))
            clear B20 b21 s21
            go_wp2_with fail
            refine (HSX.out _ _ _ _ _ SA.out HWA.out).mono ?_
            rintro en w22 ⟨xa, xk, rfl, s22, b22⟩
            replace SA := Lib.hid (SA.out.keep b22 SA.out.size)
            replace SB := Lib.hid (SB.out.keep b22 SB.out.size)
            replace MI := Lib.hid (MI.out.keep b22 MI.out.size)
            replace OI := Lib.hid (OI.out.keep b22 OI.out.size)
            have XI := Lib.hid s22
            have B22 := Lib.hid (B21.out.trans (b22.mono B21.out.size))
            clear B21 b22 s22
            go_wp2_with fail
            refine (HSX.out _ _ _ _ _ SB.out HWB.out).mono ?_
            rintro en w23 ⟨va, vk, rfl, s23, b23⟩
            replace SA := Lib.hid (SA.out.keep b23 SA.out.size)
            replace SB := Lib.hid (SB.out.keep b23 SB.out.size)
            replace MI := Lib.hid (MI.out.keep b23 MI.out.size)
            replace OI := Lib.hid (OI.out.keep b23 OI.out.size)
            replace XI := Lib.hid (XI.out.keep b23 XI.out.size)
            have YI := Lib.hid s23
            have B23 := Lib.hid (B22.out.trans (b23.mono B22.out.size))
            clear B22 b23 s23
            clear HSX
            go_wp2_with fail
            refine (MultiplyPeriods_impl_ok P0 HPR.out j2 j3 HPD.out _ XI.out YI.out (sh_within j2 HWA.out) (sh_within j2 HWB.out)).mono ?_
            rintro en w24 ⟨wa, wk, rfl, s24, b24⟩
            replace SA := Lib.hid (SA.out.keep b24 SA.out.size)
            replace SB := Lib.hid (SB.out.keep b24 SB.out.size)
            replace MI := Lib.hid (MI.out.keep b24 MI.out.size)
            replace OI := Lib.hid (OI.out.keep b24 OI.out.size)
            replace XI := Lib.hid (XI.out.keep b24 XI.out.size)
            replace YI := Lib.hid (YI.out.keep b24 YI.out.size)
            have VI := Lib.hid s24
            have B24 := Lib.hid (B23.out.trans (b24.mono B23.out.size))
            clear B23 b24 s24
            clear XI YI
            go_wp2_with fail
            refine (likeInts_yes _ OI.out MI.out (fun j hj => HCM.out j hj)).mono ?_
            rintro en w25 ⟨rfl, b25⟩
            replace SA := Lib.hid (SA.out.keep b25 SA.out.size)
            replace SB := Lib.hid (SB.out.keep b25 SB.out.size)
            replace MI := Lib.hid (MI.out.keep b25 MI.out.size)
            replace OI := Lib.hid (OI.out.keep b25 OI.out.size)
            replace VI := Lib.hid (VI.out.keep b25 VI.out.size)
            have B25 := Lib.hid (B24.out.trans (b25.mono B24.out.size))
            clear B24 b25 
            clear OI SA SB
            obtain ⟨mg, moff, mk, hmv, _⟩ := MI.out.at j2
            obtain ⟨rfl, rfl⟩ : pa = some ⟨mg, moff, none⟩ ∧ pk = mk := by cases hmv; exact ⟨rfl, rfl⟩
            obtain ⟨vg, voff, vk', hvv, _⟩ := VI.out.at j2
            obtain ⟨rfl, rfl⟩ : wa = some ⟨vg, voff, none⟩ ∧ wk = vk' := by cases hvv; exact ⟨rfl, rfl⟩
            clear hmv hvv
            go_wp2
            go_loopw [52] (fun s52 wr => ∃ i : Nat, i ≤ m1 ∧ s52 = .int .i64 (i : Int) ∧ Sl true wr w2.heap.size w3.heap.size (.slice (some ⟨mg, moff, none⟩) m1 pk) m1 (prT m1 (prodR P0 m1) fa fb) ∧ Sl true wr w23.heap.size w24.heap.size (.slice (some ⟨vg, voff, none⟩) m1 wk) m1 (prT m1 (prodR P0 m1) (shN m1 N0 fa) (shN m1 N0 fb)) ∧ Below w.heap.size w wr) (fun s52 _ => m1 - (intOf s52).toNat)
            case atStart => exact ⟨0, Nat.zero_le _, rfl, MI.out, VI.out, B25.out⟩
            case round =>
              clear MI VI B25
              obtain ⟨i, hi, rfl, hmi, hvi, hbb⟩ := hrel
              have MI := Lib.hid hmi; have VI := Lib.hid hvi; have BB := Lib.hid hbb
              clear hmi hvi hbb
              by_cases hin : i < m1
              · obtain ⟨t, ht⟩ : ∃ t, (i + N0) % m1 = t := ⟨_, rfl⟩
                have htn : t < m1 := by rw [← ht]; exact Nat.mod_lt _ (by omega)
                have hidx : ((i : Int) + (m1 : Int) - 1) % (m1 : Int) = (t : Int) := by rw [show (i : Int) + (m1 : Int) - 1 = ((i + N0 : Nat) : Int) by have := HNI.out; omega, ← Int.natCast_emod, ht]
                have cM := (MI.out.known (by omega)).2.2.2.1 i hin
                have cV := (VI.out.known (by omega)).2.2.2.1 t htn
                have hsh := HSH.out i hin
                rw [ht] at hsh
                rw [hsh] at cV
                clear ht hsh
                go_wp2
                go_region
                go_wp2
                go_roundw
                case rel => exact ⟨i + 1, by omega, by go_num, MI.out.drew, VI.out.drew, BB.out.drew⟩
                case measure => simp [intOf]; omega
              · go_wp2
                go_ret
                exact ⟨rfl, BB.out⟩
          · clear HF1
            have BB := B20.out
            go_wp2
            go_ret
            exact ⟨rfl, BB⟩

theorem own : ownKnob Try.prog.godebug = none := by kernel_rfl
theorem laidOut : laidOutB Try.prog = true := by kernel_rfl
set_option maxRecDepth 100000 in
theorem lifted (os : Os) (started : os.Started) (H : Type) (enc : TypeId × Value → H) :
    ReturnsInHanded {} Try.checked os 4 .any (Rows.fnPeriodSumsSpec.pre6 enc Try.prog Try.f4 Rows.fnPeriodSumsRow.domain false) (Rows.fnPeriodSumsSpec.post enc Try.prog Try.f4 false true false false) := by
  refine returnsInHanded_of_change (C := Try.checked) own started (by kernel_rfl) Try.func4
    (ChangeSpec.witness6 (enc := enc) (C := Try.checked) false ⟨#[], #[.slice none 0 0], []⟩ 8 (by kernel_rfl) (by kernel_rfl) (by kernel_rfl) (by kernel_rfl)) ?_
  intro W base args ds gs before hval0 hW hcnd _
  have hval : ∀ (j : Nat) t v, Try.f4.params[j]? = some t → args[j]? = some v → Value.okWide Try.prog W .any base t v := hval0
  have hW' := hW
  obtain ⟨p, q, hA0, hV, rfl, hfz, hnd⟩ := hW
  have hA : DataW.TrodAll enc Try.prog W 0 (fun _ => true) true Try.f4.params.toList args.toList ds p := hA0
  rw [Try.params4] at hA hval
  obtain ⟨v0, vs0, d0, ds0, p0, q0, hargs, rfl, rfl, h0, r0⟩ := trodAll_cons hA
  obtain ⟨rfl, rfl, rfl⟩ := trodAll_nil r0
  obtain rfl : args = #[v0] := by cases args; simp_all
  obtain ⟨rfl, rfl⟩ := trodVars_none hV
  have k0 := h0
  have lt0 : ∀ x ∈ p0, x.block < W.heap.size := by obtain ⟨m, hm⟩ := k0; exact DataW.trod_lt m _ _ _ hm
  obtain ⟨p_0, n_0, q_0, rfl, s0⟩ : ∃ p n q, v0 = .slice p n q ∧ (n ≤ 4096 → Bytes W W.heap.size p n) := by
    obtain ⟨a, len, cap, rfl⟩ := okWide_slice Try.underlying22 (hval 0 22 v0 rfl rfl)
    obtain ⟨fuel, hf⟩ := h0
    exact Bytes.came Try.underlying22 Try.underlying5 (by kernel_rfl) (by simpa [Value.cells] using hf)
  clear hA0 hval0
  refine (walk W p_0 n_0 q_0 s0).mono fun e W' ⟨he, bel⟩ => ?_
  subst he
  exact ⟨_, rfl, _, _, _, [], _, [], hW', trodAll_mk1 (shut_bool Try.underlying4 _), (trodAll_cons_mk (Below.trod laidOut (by kernel_rfl) (of_decide_eq_true (by kernel_rfl)) k0 bel lt0) trodAll_mk0), rfl, bel.frame _, fun h => by cases h⟩

theorem over : Rows.fnPeriodSumsRow.holds Try.pinned (OpenSpec.ofChange Rows.fnPeriodSumsSpec) :=
  OpenClaim.holds_of_wide 4 Try.f4 rfl rfl rfl rfl rfl rfl rfl ⟨rfl, rfl, rfl, rfl, rfl⟩ rfl rfl rfl rfl rfl (by kernel_rfl) Try.func4 (by unfold joinedFacts; exact (and_tt (and_tt (and_tt (and_tt (and_tt (and_tt (and_tt (and_tt (and_tt (and_tt (and_tt (and_tt (and_tt (and_tt (and_tt (and_tt (and_tt (and_tt (and_tt (and_tt (and_tt (and_tt (and_tt (and_tt (and_tt (and_tt (and_tt (and_tt (and_tt (and_tt (and_tt (by kernel_rfl) (by kernel_rfl)) (by kernel_rfl)) (by kernel_rfl)) (by kernel_rfl)) (by kernel_rfl)) (by kernel_rfl)) (by kernel_rfl)) (by kernel_rfl)) (by kernel_rfl)) (by kernel_rfl)) (by kernel_rfl)) (by kernel_rfl)) (by kernel_rfl)) (by kernel_rfl)) (by kernel_rfl)) (by kernel_rfl)) (by kernel_rfl)) (by kernel_rfl)) (by kernel_rfl)) (by kernel_rfl)) (by kernel_rfl)) (by kernel_rfl)) (by kernel_rfl)) (by kernel_rfl)) init_enter) (tt_lifts init_lifts rfl)) (tt_make init_make rfl)) (by kernel_rfl)) (by kernel_rfl)) (by kernel_rfl)) (by kernel_rfl)))
    (of_decide_eq_true (by kernel_rfl)) (by unfold Func.isWrapper; first | (rw [if_pos (by decide +kernel)]; kernel_rfl) | (rw [if_neg (by decide +kernel)]; exact ⟨rfl, rfl⟩))
    (fun os started H enc _ => lifted os started H enc)

theorem proved : Rows.FnPeriodSumsSaid := over
#print axioms proved
end fnPeriodSums
end Go.Proofs.Ytaipaggaodnfkaa
