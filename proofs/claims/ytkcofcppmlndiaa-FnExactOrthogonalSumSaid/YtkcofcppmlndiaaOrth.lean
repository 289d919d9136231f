/- OrthogonalSum of the program and of the model. -/
import Derived.Test.YtkcofcppmlndiaaSumC
import Derived.Test.YtkcofcppmlndiaaMulC
import Derived.Test.YtkcofcppmlndiaaConj
import Derived.Test.YtkcofcppmlndiaaTimes
import Derived.Deep.DeepCutAuto
namespace Go.Proofs.Ytkcofcppmlndiaa
open Go.RowKit Go.ChangeShapes Go.Sort
set_option linter.unusedVariables false
set_option linter.unusedSimpArgs false

theorem OrthogonalSum_impl_bad (p n k q m l c : Int) (h : pcC p n k q m l c) (hc : c ≠ 0) (w : World) :
    Calls Try.prog 56 #[.agg #[.int .i64 p, .int .i64 n, .int .i64 k], .agg #[.int .i64 q, .int .i64 m, .int .i64 l]] w fun e w' => e = .returned (failV c) ∧ Below w.heap.size w w' := by
  have H := Lib.hid h; clear h
  have hcb : (c != 0) = true := by rw [bne_iff_ne]; exact hc
  have st0 := St.start w
  replace st0 := (st0.alloc (.cells #[.int .i64 p, .int .i64 n, .int .i64 k] 25)).addBox _ [.int .i64 p, .int .i64 n, .int .i64 k] (Box.made _ _ _ _ (fun j v h => by simpa using h))
  replace st0 := (st0.alloc (.cells #[.int .i64 q, .int .i64 m, .int .i64 l] 25)).addBox _ [.int .i64 q, .int .i64 m, .int .i64 l] (Box.made _ _ _ _ (fun j v h => by simpa using h))
  replace st0 := (st0.alloc (.cells #[.int .i64 0, .slice none 0 0] 40)).addBox _ [.int .i64 0, .slice none 0 0] (Box.made _ _ _ _ (fun j v h => by simpa using h))
  simp only [World.size_alloc] at st0
  go_enter Try.func56, Try.ntmps56
  go_wp2_with fail
  refine (characterPairCode_any p n k q m l c H.out _).mono ?_
  rintro e w1 ⟨rfl, b1⟩
  have st1 := st0.keep b1
  have hz1 := b1.size
  try simp only [World.size_alloc] at hz1
  clear st0 b1
  obtain ⟨d0, d1⟩ := (st1.box 0 (w.heap.size + 1 + 1, [.int .i64 0, .slice none 0 0]) rfl).cell2
  have dz := (st1.box 0 (w.heap.size + 1 + 1, [.int .i64 0, .slice none 0 0]) rfl).2.2
  have BB := st1.1
  dsimp only at dz
  go_wp2
  refine bodyPost_ret (v := failV c) (by simp [results, Try.results56, go_sem, failV, d0, d1]) rfl ?_
  exact ⟨rfl, by go_grown⟩

theorem OrthogonalSum_spec_bad (p n k q m l c : Int) (h : pcC p n k q m l c) (hc : c ≠ 0) (w : World) :
    Calls Try.prog 57 #[.agg #[.int .i64 p, .int .i64 n, .int .i64 k], .agg #[.int .i64 q, .int .i64 m, .int .i64 l]] w fun e w' => e = .returned (failV c) ∧ Below w.heap.size w w' := by
  have H := Lib.hid h; clear h
  have hcb : (c != 0) = true := by rw [bne_iff_ne]; exact hc
  have st0 := St.start w
  replace st0 := (st0.alloc (.cells #[.int .i64 p, .int .i64 n, .int .i64 k] 25)).addBox _ [.int .i64 p, .int .i64 n, .int .i64 k] (Box.made _ _ _ _ (fun j v h => by simpa using h))
  replace st0 := (st0.alloc (.cells #[.int .i64 q, .int .i64 m, .int .i64 l] 25)).addBox _ [.int .i64 q, .int .i64 m, .int .i64 l] (Box.made _ _ _ _ (fun j v h => by simpa using h))
  replace st0 := (st0.alloc (.cells #[.int .i64 0, .slice none 0 0] 40)).addBox _ [.int .i64 0, .slice none 0 0] (Box.made _ _ _ _ (fun j v h => by simpa using h))
  simp only [World.size_alloc] at st0
  go_enter Try.func57, Try.ntmps57
  go_wp2_with fail
  refine (l03Like_any p n k q m l c H.out _).mono ?_
  rintro e w1 ⟨rfl, b1⟩
  have st1 := st0.keep b1
  have hz1 := b1.size
  try simp only [World.size_alloc] at hz1
  clear st0 b1
  obtain ⟨d0, d1⟩ := (st1.box 0 (w.heap.size + 1 + 1, [.int .i64 0, .slice none 0 0]) rfl).cell2
  have dz := (st1.box 0 (w.heap.size + 1 + 1, [.int .i64 0, .slice none 0 0]) rfl).2.2
  have BB := st1.1
  dsimp only at dz
  go_wp2
  refine bodyPost_ret (v := failV c) (by simp [results, Try.results57, go_sem, failV, d0, d1]) rfl ?_
  exact ⟨rfl, by go_grown⟩

set_option maxRecDepth 100000 in
set_option maxHeartbeats 2000000 in
theorem OrthogonalSum_impl_ok (p n k l : Nat) (hp : primeN p = true) (h1 : 1 ≤ n) (h2 : n ≤ 16) (hd : (p - 1) % n = 0) (hk : k < n) (hl : l < n) (w : World) :
    Calls Try.prog 56 #[.agg #[.int .i64 (p : Int), .int .i64 (n : Int), .int .i64 (k : Int)], .agg #[.int .i64 (p : Int), .int .i64 (n : Int), .int .i64 (l : Int)]] w fun e w' => ∃ a cap, e = .returned (.tuple #[.agg #[.int .i64 (n : Int), .slice a (phiN n) cap], .int .i64 0]) ∧ Sl true w' w.heap.size w'.heap.size (.slice a (phiN n) cap) (phiN n) (sumZ p n ((k + (n - l) % n) % n) (fun _ => 1) p) ∧ Below w.heap.size w w' := by
  have H := Lib.hid (show pcC p n k p n l 0 from .inr (.inr ⟨rfl, ChP.mk hp h1 h2 hd hk, ChP.mk hp h1 h2 hd hl, rfl, rfl⟩))
  have HP := Lib.hid hp
  clear hp hd
  have hr := Nat.mod_lt (n - l) (show 0 < n by omega)
  have HINV := Lib.hid (fun w => characterInverse_any p n l h1 h2 hl w)
  generalize (n - l) % n = r at *
  have HPRD := Lib.hid (fun w => characterProduct_any p n k p n r h1 h2 hk (by omega) w)
  have hq := Nat.mod_lt (k + r) (show 0 < n by omega)
  generalize hqe : (k + r) % n = q at *
  have HQ := Lib.hid hqe; clear hqe
  have st0 := St.start w
  replace st0 := (st0.alloc (.cells #[.int .i64 (p : Int), .int .i64 (n : Int), .int .i64 (k : Int)] 25)).addBox _ [.int .i64 (p : Int), .int .i64 (n : Int), .int .i64 (k : Int)] (Box.made _ _ _ _ (fun j v h => by simpa using h))
  replace st0 := (st0.alloc (.cells #[.int .i64 (p : Int), .int .i64 (n : Int), .int .i64 (l : Int)] 25)).addBox _ [.int .i64 (p : Int), .int .i64 (n : Int), .int .i64 (l : Int)] (Box.made _ _ _ _ (fun j v h => by simpa using h))
  replace st0 := (st0.alloc (.cells #[.int .i64 0, .slice none 0 0] 40)).addBox _ [.int .i64 0, .slice none 0 0] (Box.made _ _ _ _ (fun j v h => by simpa using h))
  simp only [World.size_alloc] at st0
  go_enter Try.func56, Try.ntmps56
  go_wp2_with fail
  refine (characterPairCode_any p n k p n l 0 H.out _).mono ?_
  rintro e w1 ⟨rfl, b1⟩
  have st1 := st0.keep b1
  have hz1 := b1.size
  try simp only [World.size_alloc] at hz1
  clear st0 b1
  obtain ⟨e0, e1, e2⟩ := (st1.box 1 (w.heap.size + 1, [.int .i64 (p : Int), .int .i64 (n : Int), .int .i64 (l : Int)]) rfl).cell3
  obtain ⟨f0, f1, f2⟩ := (st1.box 2 (w.heap.size, [.int .i64 (p : Int), .int .i64 (n : Int), .int .i64 (k : Int)]) rfl).cell3
  go_wp2_with fail
  go_region_law (first
    | (go_simp; go_at_call 97; refine (HINV.out _).mono ?_; rintro e w6 ⟨rfl, b6⟩
       have hz6 := b6.size
       have st6 := st1.drew.keep b6
       obtain ⟨x0, x1, x2⟩ := (st6.box 2 (w.heap.size, [.int .i64 (p : Int), .int .i64 (n : Int), .int .i64 (k : Int)]) rfl).cell3)
    | (go_simp; go_at_call 92; refine (HPRD.out _).mono ?_; rintro e w7 ⟨rfl, b7⟩
       have hz7 := b7.size
       have st7 := st6.keep b7)
    | (go_simp; go_at_call 126; refine (sumOfValues_any p n q HP.out h1 h2 (by omega) _).mono ?_; rintro e w8 ⟨a8, k8, rfl, s8, b8⟩
       have hz8 := b8.size
       have st8 := st7.keep b8
       obtain ⟨d0, d1⟩ := (st8.box 0 (w.heap.size + 1 + 1, [.int .i64 0, .slice none 0 0]) rfl).cell2
       have dz := (st8.box 0 (w.heap.size + 1 + 1, [.int .i64 0, .slice none 0 0]) rfl).2.2
       dsimp only at dz))
  all_goals
    have BB := st8.1
    have S8 := Lib.hid s8
    simp only [World.size_drew] at hz6
    clear st6 st7 st8 b6 b7 b8 s8
    go_wp2
    refine bodyPost_ret (v := .tuple #[.agg #[.int .i64 (n : Int), .slice a8 (phiN n) k8], .int .i64 0]) (by simp [results, Try.results56, go_sem, d0, d1]) rfl ?_
    refine ⟨_, _, rfl, ?_, by go_grown⟩
    exact ((S8.out.setOther (.inl (by show w.heap.size + 1 + 1 < _; omega)) _).setOther (.inl (by show w.heap.size + 1 + 1 < _; omega)) _).wide (by omega) (by simp) (Nat.le_refl _)

set_option maxRecDepth 100000 in
set_option maxHeartbeats 8000000 in
theorem OrthogonalSum_spec_ok (p n k l : Nat) (hp : primeN p = true) (h1 : 1 ≤ n) (h2 : n ≤ 16) (hd : (p - 1) % n = 0) (hk : k < n) (hl : l < n) (w : World) :
    Calls Try.prog 57 #[.agg #[.int .i64 (p : Int), .int .i64 (n : Int), .int .i64 (k : Int)], .agg #[.int .i64 (p : Int), .int .i64 (n : Int), .int .i64 (l : Int)]] w fun e w' => ∃ a cap, e = .returned (.tuple #[.agg #[.int .i64 (n : Int), .slice a (phiN n) cap], .int .i64 0]) ∧ Sl true w' w.heap.size w'.heap.size (.slice a (phiN n) cap) (phiN n) (sumZ p n ((k + (n - l) % n) % n) (fun _ => 1) p) ∧ Below w.heap.size w w' := by
  have hb := primeN_bd hp
  have hphi := phi_le12 n (by omega) h1
  have hpos := phiN_pos n (by omega) h1
  have hle := phi_le_n (n := n)
  have H := Lib.hid (show pcC p n k p n l 0 from .inr (.inr ⟨rfl, ChP.mk hp h1 h2 hd hk, ChP.mk hp h1 h2 hd hl, rfl, rfl⟩))
  have HP := Lib.hid hp
  have HEX := Lib.hid (fun x => orth_exp (n := n) (k := k) (k' := l) (i := idxN p x) h1 hl)
  clear hp hd
  generalize (k + (n - l) % n) % n = kk at *
  have st0 := St.start w
  replace st0 := (st0.alloc (.cells #[.int .i64 (p : Int), .int .i64 (n : Int), .int .i64 (k : Int)] 25)).addBox _ [.int .i64 (p : Int), .int .i64 (n : Int), .int .i64 (k : Int)] (Box.made _ _ _ _ (fun j v h => by simpa using h))
  replace st0 := (st0.alloc (.cells #[.int .i64 (p : Int), .int .i64 (n : Int), .int .i64 (l : Int)] 25)).addBox _ [.int .i64 (p : Int), .int .i64 (n : Int), .int .i64 (l : Int)] (Box.made _ _ _ _ (fun j v h => by simpa using h))
  replace st0 := (st0.alloc (.cells #[.int .i64 0, .slice none 0 0] 40)).addBox _ [.int .i64 0, .slice none 0 0] (Box.made _ _ _ _ (fun j v h => by simpa using h))
  simp only [World.size_alloc] at st0
  go_enter Try.func57, Try.ntmps57
  go_wp2_with fail
  refine (l03Like_any p n k p n l 0 H.out _).mono ?_
  rintro e w1 ⟨rfl, b1⟩
  have st1 := st0.keep b1
  have hz1 := b1.size
  try simp only [World.size_alloc] at hz1
  clear st0 b1
  obtain ⟨f0, f1, f2⟩ := (st1.box 2 (w.heap.size, [.int .i64 (p : Int), .int .i64 (n : Int), .int .i64 (k : Int)]) rfl).cell3
  go_wp2_with fail
  refine (l01Zero_any n (by omega) _).mono ?_
  rintro e w2 ⟨a2, k2, rfl, s2, b2⟩
  clear f0 f1 f2
  have st2 := st1.keep b2
  have hz2 := b2.size
  try simp only [World.size_alloc] at hz2
  clear st1 b2
  have S2 := Lib.hid s2
  have HT := Lib.hid (st2.boxNew (.int .i64 (n : Int)) (.slice a2 (phiN n) k2) 40)
  clear st2 s2
  go_wp2
  go_loopw [8] (fun s8 wr => ∃ (x : Nat) (a : Option Addr) (cap lo hi : Nat), 1 ≤ x ∧ x ≤ p ∧ s8 = .int .i64 (x : Int) ∧ w2.heap.size < wr.heap.size ∧ w.heap.size + 1 + 1 + 1 ≤ lo ∧ (w2.heap.size < lo ∨ hi ≤ w2.heap.size) ∧ hi ≤ wr.heap.size ∧
      St w wr [(w2.heap.size, [.int .i64 (n : Int), .slice a (phiN n) cap]), (w.heap.size + 1 + 1, [.int .i64 0, .slice none 0 0]), (w.heap.size + 1, [.int .i64 (p : Int), .int .i64 (n : Int), .int .i64 (l : Int)]), (w.heap.size, [.int .i64 (p : Int), .int .i64 (n : Int), .int .i64 (k : Int)])] [⟨true, lo, hi, .slice a (phiN n) cap, phiN n, sumZ p n kk (fun _ => 1) x⟩]) (fun s8 _ => p + 1 - (intOf s8).toNat)
  case atStart => exact ⟨1, a2, k2, w.heap.size + 1 + 1 + 1, w2.heap.size, by omega, by omega, rfl, by simp, by omega, .inr (Nat.le_refl _), by simp, HT.out.addSl ⟨true, w.heap.size + 1 + 1 + 1, w2.heap.size, .slice a2 (phiN n) k2, phiN n, sumZ p n kk (fun _ => 1) 1⟩ (((S2.out.alloc _).congr (f' := sumZ p n kk (fun _ => 1) 1) (fun j hj => sumZ_one)).wide (by omega) (Nat.le_refl _) (by simp))⟩
  case round =>
    clear S2 HT
    obtain ⟨x, a, cap, lo, hi, hx1, hx, rfl, hzr, hlo, hdis, hhi, hst⟩ := hrel
    obtain ⟨f0, f1, f2⟩ := (hst.box 3 (w.heap.size, [.int .i64 (p : Int), .int .i64 (n : Int), .int .i64 (k : Int)]) rfl).cell3
    obtain ⟨e0, e1, e2⟩ := (hst.box 2 (w.heap.size + 1, [.int .i64 (p : Int), .int .i64 (n : Int), .int .i64 (l : Int)]) rfl).cell3
    by_cases hlt : x < p
    · have HA := Lib.hid (fun j => atP_some (p := p) (n := n) (k := k) (x := (x : Int)) (by rw [restN_nat hlt]; omega) j)
      have HBI := Lib.hid (img_big (n := n) (a := n - 1) (L := phiN n) (f := atP p n l (x : Int)) (by omega) h1 (atP_within (by omega) h1) (by omega))
      have HPZ := Lib.hid (show ∀ j, j < phiN n → prodZ n (phiN n) (atP p n k (x : Int)) (imgP n (n - 1) (phiN n) (atP p n l (x : Int))) j = tb n (expN p n kk x) j from fun j hj => by
        have ha : ∀ i, i < phiN n → atP p n k (x : Int) i = tb n (expN p n k x) i := fun i _ => by rw [atP_some (by rw [restN_nat hlt]; omega), restN_nat hlt]
        have hbr : ∀ i, i < phiN n → imgP n (n - 1) (phiN n) (atP p n l (x : Int)) i = tb n (expN p n l x * (n - 1) % n) i := fun i hi' => bar_tb (by omega) h1 (expN_lt h1) (fun i _ => by rw [atP_some (by rw [restN_nat hlt]; omega), restN_nat hlt]) hi'
        rw [orth_tb (by omega) h1 (expN_lt h1) (Nat.mod_lt _ h1) ha hbr hj]
        exact congrArg (fun q => tb n q j) (HEX.out x))
      have HPW := Lib.hid (show Within (prodZ n (phiN n) (atP p n k (x : Int)) (imgP n (n - 1) (phiN n) (atP p n l (x : Int)))) (phiN n) 1000000000 from fun j hj => by
        rw [HPZ.out j hj]
        have := tab_one n (by omega) h1 (expN p n kk x) (expN_lt h1) j hj
        omega)
      have HWI := Lib.hid (sumZ_ok (p := p) (n := n) (k := kk) (x := x) (W := fun _ => 1) (by omega) h1 (by omega) (fun y _ => by omega))
      have STX := Lib.hid hst
      clear hst HA
      go_wp2_with fail
      go_cut [9, 10] (fun s9 s10 wx => ∃ bq loq hiq aq kq, s9 = .pointer (some ⟨bq, 0, none⟩) ∧ s10 = .bool true ∧ Sl true wx loq hiq (.slice aq (phiN n) kq) (phiN n) (prodZ n (phiN n) (atP p n k (x : Int)) (imgP n (n - 1) (phiN n) (atP p n l (x : Int)))) ∧ (bq < loq ∨ hiq ≤ bq) ∧ wr.heap.size ≤ loq ∧ wr.heap.size ≤ bq ∧ bq < wx.heap.size ∧ hiq ≤ wx.heap.size ∧ St w wx ((bq, [.int .i64 (n : Int), .slice aq (phiN n) kq]) :: [(w2.heap.size, [.int .i64 (n : Int), .slice a (phiN n) cap]), (w.heap.size + 1 + 1, [.int .i64 0, .slice none 0 0]), (w.heap.size + 1, [.int .i64 (p : Int), .int .i64 (n : Int), .int .i64 (l : Int)]), (w.heap.size, [.int .i64 (p : Int), .int .i64 (n : Int), .int .i64 (k : Int)])]) [⟨true, lo, hi, .slice a (phiN n) cap, phiN n, sumZ p n kk (fun _ => 1) x⟩])
      case first =>
        go_region_held3 (fun w' => w'.cell? ⟨w.heap.size, 0, none⟩ = some (.int .i64 (p : Int)) ∧ w'.cell? ⟨w.heap.size, 1, none⟩ = some (.int .i64 (n : Int)) ∧ w'.cell? ⟨w.heap.size, 2, none⟩ = some (.int .i64 (k : Int)) ∧ w'.cell? ⟨w.heap.size + 1, 0, none⟩ = some (.int .i64 (p : Int)) ∧ w'.cell? ⟨w.heap.size + 1, 1, none⟩ = some (.int .i64 (n : Int)) ∧ w'.cell? ⟨w.heap.size + 1, 2, none⟩ = some (.int .i64 (l : Int)))
          (first | exact ⟨f0, f1, f2, e0, e1, e2⟩ | (have q0 := (st9.box 3 (w.heap.size, [.int .i64 (p : Int), .int .i64 (n : Int), .int .i64 (k : Int)]) rfl).cell3; have q1 := (st9.box 2 (w.heap.size + 1, [.int .i64 (p : Int), .int .i64 (n : Int), .int .i64 (l : Int)]) rfl).cell3; with_reducible exact ⟨q0.1, q0.2.1, q0.2.2, q1.1, q1.2.1, q1.2.2⟩) | (have q0 := (st9.box 4 (w.heap.size, [.int .i64 (p : Int), .int .i64 (n : Int), .int .i64 (k : Int)]) rfl).cell3; have q1 := (st9.box 3 (w.heap.size + 1, [.int .i64 (p : Int), .int .i64 (n : Int), .int .i64 (l : Int)]) rfl).cell3; with_reducible exact ⟨q0.1, q0.2.1, q0.2.2, q1.1, q1.2.1, q1.2.2⟩) | (have q0 := ((st9.boxNew (.int .i64 0) (.slice none 0 0) 40).box 4 (w.heap.size, [.int .i64 (p : Int), .int .i64 (n : Int), .int .i64 (k : Int)]) rfl).cell3; have q1 := ((st9.boxNew (.int .i64 0) (.slice none 0 0) 40).box 3 (w.heap.size + 1, [.int .i64 (p : Int), .int .i64 (n : Int), .int .i64 (l : Int)]) rfl).cell3; with_reducible exact ⟨q0.1, q0.2.1, q0.2.2, q1.1, q1.2.1, q1.2.2⟩) | (have q0 := (st8.box 3 (w.heap.size, [.int .i64 (p : Int), .int .i64 (n : Int), .int .i64 (k : Int)]) rfl).cell3; have q1 := (st8.box 2 (w.heap.size + 1, [.int .i64 (p : Int), .int .i64 (n : Int), .int .i64 (l : Int)]) rfl).cell3; with_reducible exact ⟨q0.1, q0.2.1, q0.2.2, q1.1, q1.2.1, q1.2.2⟩) | (have q0 := (st8.box 4 (w.heap.size, [.int .i64 (p : Int), .int .i64 (n : Int), .int .i64 (k : Int)]) rfl).cell3; have q1 := (st8.box 3 (w.heap.size + 1, [.int .i64 (p : Int), .int .i64 (n : Int), .int .i64 (l : Int)]) rfl).cell3; with_reducible exact ⟨q0.1, q0.2.1, q0.2.2, q1.1, q1.2.1, q1.2.2⟩) | (have q0 := ((st8.boxNew (.int .i64 0) (.slice none 0 0) 40).box 4 (w.heap.size, [.int .i64 (p : Int), .int .i64 (n : Int), .int .i64 (k : Int)]) rfl).cell3; have q1 := ((st8.boxNew (.int .i64 0) (.slice none 0 0) 40).box 3 (w.heap.size + 1, [.int .i64 (p : Int), .int .i64 (n : Int), .int .i64 (l : Int)]) rfl).cell3; with_reducible exact ⟨q0.1, q0.2.1, q0.2.2, q1.1, q1.2.1, q1.2.2⟩) | (have q0 := (st7.box 3 (w.heap.size, [.int .i64 (p : Int), .int .i64 (n : Int), .int .i64 (k : Int)]) rfl).cell3; have q1 := (st7.box 2 (w.heap.size + 1, [.int .i64 (p : Int), .int .i64 (n : Int), .int .i64 (l : Int)]) rfl).cell3; with_reducible exact ⟨q0.1, q0.2.1, q0.2.2, q1.1, q1.2.1, q1.2.2⟩) | (have q0 := (st7.box 4 (w.heap.size, [.int .i64 (p : Int), .int .i64 (n : Int), .int .i64 (k : Int)]) rfl).cell3; have q1 := (st7.box 3 (w.heap.size + 1, [.int .i64 (p : Int), .int .i64 (n : Int), .int .i64 (l : Int)]) rfl).cell3; with_reducible exact ⟨q0.1, q0.2.1, q0.2.2, q1.1, q1.2.1, q1.2.2⟩) | (have q0 := ((st7.boxNew (.int .i64 0) (.slice none 0 0) 40).box 4 (w.heap.size, [.int .i64 (p : Int), .int .i64 (n : Int), .int .i64 (k : Int)]) rfl).cell3; have q1 := ((st7.boxNew (.int .i64 0) (.slice none 0 0) 40).box 3 (w.heap.size + 1, [.int .i64 (p : Int), .int .i64 (n : Int), .int .i64 (l : Int)]) rfl).cell3; with_reducible exact ⟨q0.1, q0.2.1, q0.2.2, q1.1, q1.2.1, q1.2.2⟩) | (have q0 := (st6.box 3 (w.heap.size, [.int .i64 (p : Int), .int .i64 (n : Int), .int .i64 (k : Int)]) rfl).cell3; have q1 := (st6.box 2 (w.heap.size + 1, [.int .i64 (p : Int), .int .i64 (n : Int), .int .i64 (l : Int)]) rfl).cell3; with_reducible exact ⟨q0.1, q0.2.1, q0.2.2, q1.1, q1.2.1, q1.2.2⟩) | (have q0 := (st6.box 4 (w.heap.size, [.int .i64 (p : Int), .int .i64 (n : Int), .int .i64 (k : Int)]) rfl).cell3; have q1 := (st6.box 3 (w.heap.size + 1, [.int .i64 (p : Int), .int .i64 (n : Int), .int .i64 (l : Int)]) rfl).cell3; with_reducible exact ⟨q0.1, q0.2.1, q0.2.2, q1.1, q1.2.1, q1.2.2⟩) | (have q0 := ((st6.boxNew (.int .i64 0) (.slice none 0 0) 40).box 4 (w.heap.size, [.int .i64 (p : Int), .int .i64 (n : Int), .int .i64 (k : Int)]) rfl).cell3; have q1 := ((st6.boxNew (.int .i64 0) (.slice none 0 0) 40).box 3 (w.heap.size + 1, [.int .i64 (p : Int), .int .i64 (n : Int), .int .i64 (l : Int)]) rfl).cell3; with_reducible exact ⟨q0.1, q0.2.1, q0.2.2, q1.1, q1.2.1, q1.2.2⟩) | (have q0 := ((st9.boxNew (.int .i64 (n : Int)) (.slice a9 (phiN n) k9) 40).box 4 (w.heap.size, [.int .i64 (p : Int), .int .i64 (n : Int), .int .i64 (k : Int)]) rfl).cell3; have q1 := ((st9.boxNew (.int .i64 (n : Int)) (.slice a9 (phiN n) k9) 40).box 3 (w.heap.size + 1, [.int .i64 (p : Int), .int .i64 (n : Int), .int .i64 (l : Int)]) rfl).cell3; with_reducible exact ⟨q0.1, q0.2.1, q0.2.2, q1.1, q1.2.1, q1.2.2⟩) | (have q0 := ((STX.out.boxNew (.int .i64 0) (.slice none 0 0) 40).box 4 (w.heap.size, [.int .i64 (p : Int), .int .i64 (n : Int), .int .i64 (k : Int)]) rfl).cell3; have q1 := ((STX.out.boxNew (.int .i64 0) (.slice none 0 0) 40).box 3 (w.heap.size + 1, [.int .i64 (p : Int), .int .i64 (n : Int), .int .i64 (l : Int)]) rfl).cell3; with_reducible exact ⟨q0.1, q0.2.1, q0.2.2, q1.1, q1.2.1, q1.2.2⟩) | (have q0 := ((STX.out.boxNew (.int .i64 0) (.slice none 0 0) 40).drew.box 4 (w.heap.size, [.int .i64 (p : Int), .int .i64 (n : Int), .int .i64 (k : Int)]) rfl).cell3; have q1 := ((STX.out.boxNew (.int .i64 0) (.slice none 0 0) 40).drew.box 3 (w.heap.size + 1, [.int .i64 (p : Int), .int .i64 (n : Int), .int .i64 (l : Int)]) rfl).cell3; with_reducible exact ⟨q0.1, q0.2.1, q0.2.2, q1.1, q1.2.1, q1.2.2⟩) | (have q0 := (STX.out.drew.box 3 (w.heap.size, [.int .i64 (p : Int), .int .i64 (n : Int), .int .i64 (k : Int)]) rfl).cell3; have q1 := (STX.out.drew.box 2 (w.heap.size + 1, [.int .i64 (p : Int), .int .i64 (n : Int), .int .i64 (l : Int)]) rfl).cell3; with_reducible exact ⟨q0.1, q0.2.1, q0.2.2, q1.1, q1.2.1, q1.2.2⟩) | exact ⟨cell_set2 (st9.box 4 (w.heap.size, [.int .i64 (p : Int), .int .i64 (n : Int), .int .i64 (k : Int)]) rfl).cell3.1 (by omega), cell_set2 (st9.box 4 (w.heap.size, [.int .i64 (p : Int), .int .i64 (n : Int), .int .i64 (k : Int)]) rfl).cell3.2.1 (by omega), cell_set2 (st9.box 4 (w.heap.size, [.int .i64 (p : Int), .int .i64 (n : Int), .int .i64 (k : Int)]) rfl).cell3.2.2 (by omega), cell_set2 (st9.box 3 (w.heap.size + 1, [.int .i64 (p : Int), .int .i64 (n : Int), .int .i64 (l : Int)]) rfl).cell3.1 (by omega), cell_set2 (st9.box 3 (w.heap.size + 1, [.int .i64 (p : Int), .int .i64 (n : Int), .int .i64 (l : Int)]) rfl).cell3.2.1 (by omega), cell_set2 (st9.box 3 (w.heap.size + 1, [.int .i64 (p : Int), .int .i64 (n : Int), .int .i64 (l : Int)]) rfl).cell3.2.2 (by omega)⟩)
          (first
      | (go_at_call 128; have _g := b8; refine (l01Times_any n h1 h2 (L := phiN n) _ (by first | with_reducible exact u6 | with_reducible exact (u6.alloc _)) (by first | with_reducible exact s8 | with_reducible exact (s8.alloc _)) (Within.big (atP_within (by omega) h1)) HBI.out hpos (by omega)).mono ?_; rintro e w9 ⟨a9, k9, bb, rfl, hbb, s9, b9⟩
         obtain rfl : bb = true := hbb.2 HPW.out
         clear hbb
         replace s9 := s9 rfl
         have hz9 := b9.size
         try simp only [World.size_drew, World.size_alloc] at hz9
         first | have st9 := st8.keep b9 | have st9 := (st8.boxNew (.int .i64 0) (.slice none 0 0) 40).keep b9
         try (obtain ⟨o0, o1⟩ := (st9.box 0 (_, [.int .i64 0, .slice none 0 0]) rfl).cell2
              have oz := (st9.box 0 (_, [.int .i64 0, .slice none 0 0]) rfl).2.2
              dsimp only at oz
              try simp only [World.size_alloc, World.size_drew] at o0 o1 oz))
      | (go_at_call 129; have _g := b7; refine (l01Bar_any n h1 h2 _ (by first | with_reducible exact s7 | with_reducible exact (s7.alloc _)) hle).mono ?_; rintro e w8 ⟨a8, k8, rfl, s8, b8⟩
         have hz8 := b8.size
         try simp only [World.size_drew, World.size_alloc] at hz8
         first | have u6 := t6.keep b8 t6.size | have u6 := (t6.alloc _).keep b8 (t6.alloc _).size
         first | have st8 := st7.keep b8 | have st8 := (st7.boxNew (.int .i64 0) (.slice none 0 0) 40).keep b8)
      | (go_at_call 120; have _g := b6; refine (l03At_any p n l (x : Int) HP.out h1 h2 (by omega) (by omega) (by omega) _).mono ?_; rintro e w7 ⟨a7, k7, rfl, s7, b7⟩
         have hz7 := b7.size
         try simp only [World.size_drew, World.size_alloc] at hz7
         first | have t6 := s6.keep b7 s6.size | have t6 := (s6.alloc _).keep b7 (s6.alloc _).size
         first | have st7 := st6.keep b7 | have st7 := (st6.boxNew (.int .i64 0) (.slice none 0 0) 40).keep b7)
      | (go_at_call 120; refine (l03At_any p n k (x : Int) HP.out h1 h2 (by omega) (by omega) (by omega) _).mono ?_; rintro e w6 ⟨a6, k6, rfl, s6, b6⟩
         have hz6 := b6.size
         try simp only [World.size_drew, World.size_alloc] at hz6
         first | have st6 := STX.out.drew.keep b6 | have st6 := (STX.out.boxNew (.int .i64 0) (.slice none 0 0) 40).drew.keep b6))
        all_goals
          go_wp2_with fail
          go_meet
          try simp only [World.size_drew, World.size_alloc] at s9
          first
            | exact ⟨w9.heap.size, _, _, a9, k9, rfl, rfl, s9.alloc _, .inr (Nat.le_refl _), by omega, by omega, by simp, by simp, st9.boxNew _ _ _⟩
            | (have stb := st9.boxSet (u0 := .int .i64 (n : Int)) (u1 := .slice a9 (phiN n) k9) (by (try simp only [World.size_alloc, World.size_drew]); omega)
                 (by (try simp only [World.size_alloc, World.size_drew]); intro b hb; simp only [List.mem_cons, List.not_mem_nil, or_false] at hb; rcases hb with rfl | rfl | rfl | rfl <;> dsimp only <;> omega)
                 (by (try simp only [World.size_alloc, World.size_drew]); intro s hs'; simp only [List.mem_cons, List.not_mem_nil, or_false] at hs'; rcases hs' with rfl <;> dsimp only <;> omega)
               try simp only [World.size_alloc, World.size_drew] at stb
               exact ⟨_, _, _, a9, k9, rfl, rfl, (s9.setOther (.inl (by dsimp only; omega)) _).setOther (.inl (by dsimp only; omega)) _, .inl (by omega), by omega, by omega, by simp only [World.size_setCell]; omega, by simp, stb⟩)
      case rest =>
        obtain ⟨bq, loq, hiq, aq, kq, rfl, rfl, sq, hdq, hlq, hbq, hzq, hhq, stq⟩ := hcut
        clear STX f0 f1 f2 e0 e1 e2 HBI HPW
        obtain ⟨w5, hw5⟩ : ∃ y : World, y = wc := ⟨_, rfl⟩
        subst hw5
        obtain ⟨o0, o1⟩ := (stq.box 1 (w2.heap.size, [.int .i64 (n : Int), .slice a (phiN n) cap]) rfl).cell2
        obtain ⟨g0, g1⟩ := (stq.box 0 (bq, [.int .i64 (n : Int), .slice aq (phiN n) kq]) rfl).cell2
        have slo := stq.sl 0 ⟨true, lo, hi, .slice a (phiN n) cap, phiN n, sumZ p n kk (fun _ => 1) x⟩ rfl
        have HSS := Lib.hid (show ∀ j, j < phiN n → addF 1 (sumZ p n kk (fun _ => 1) x) (prodZ n (phiN n) (atP p n k (x : Int)) (imgP n (n - 1) (phiN n) (atP p n l (x : Int)))) j = sumZ p n kk (fun _ => 1) (x + 1) j from fun j hj => by
          unfold addF
          rw [HPZ.out j hj, sumZ_succ hx1])
        have HPB := Lib.hid (show Within (prodZ n (phiN n) (atP p n k (x : Int)) (imgP n (n - 1) (phiN n) (atP p n l (x : Int)))) (phiN n) 1000000000 from fun j hj => by
          rw [HPZ.out j hj]
          have := tab_one n (by omega) h1 (expN p n kk x) (expN_lt h1) j hj
          omega)
        dsimp only at slo
        go_wp2_with fail
        refine (l01Plus_any (n : Int) 1 _ slo sq (by omega) (by omega) HWI.out HPB.out (by omega)).mono ?_
        rintro e w7 ⟨a7, k7, rfl, s7, b7⟩
        have hz7 := b7.size
        have st7 := (stq.keep b7).tailB
        obtain ⟨r0, r1⟩ := (st7.box 0 (w2.heap.size, [.int .i64 (n : Int), .slice a (phiN n) cap]) rfl).cell2
        have rz := (st7.box 0 (w2.heap.size, [.int .i64 (n : Int), .slice a (phiN n) cap]) rfl).2.2
        dsimp only at rz
        have S7 := Lib.hid s7
        have T7 := Lib.hid ((St.tail st7).boxSet (u0 := .int .i64 (n : Int)) (u1 := .slice a7 (phiN n) k7) (by omega) (by intro b hb; simp only [List.mem_cons, List.not_mem_nil, or_false] at hb; rcases hb with rfl | rfl | rfl <;> dsimp only <;> omega) (by intro s hs'; cases hs'))
        clear st7 stq slo sq s7 b7 o0 o1 g0 g1 HPZ HPB
        go_wp2
        go_roundw
        case rel => exact ⟨x + 1, a7, k7, w5.heap.size, w7.heap.size, by omega, by omega, by go_num, by simp; omega, by omega, .inl (by omega), by simp, T7.out.addSl ⟨true, w5.heap.size, w7.heap.size, .slice a7 (phiN n) k7, phiN n, sumZ p n kk (fun _ => 1) (x + 1)⟩ (((S7.out.setOther (.inl (by show w2.heap.size < _; omega)) _).setOther (.inl (by show w2.heap.size < _; omega)) _).congr (fun j hj => (HSS.out j hj).symm))⟩
        case measure => simp [intOf] <;> omega
    · obtain rfl : p = x := by omega
      obtain ⟨d0, d1⟩ := (hst.box 1 (w.heap.size + 1 + 1, [.int .i64 0, .slice none 0 0]) rfl).cell2
      have dz := (hst.box 1 (w.heap.size + 1 + 1, [.int .i64 0, .slice none 0 0]) rfl).2.2
      have BB := hst.1
      have hsl := hst.sl 0 ⟨true, lo, hi, .slice a (phiN n) cap, phiN n, sumZ p n kk (fun _ => 1) p⟩ rfl
      obtain ⟨o0, o1⟩ := (hst.box 0 (w2.heap.size, [.int .i64 (n : Int), .slice a (phiN n) cap]) rfl).cell2
      dsimp only at dz hsl
      have HSL := Lib.hid hsl
      clear hst hsl
      go_wp2
      refine bodyPost_ret (v := .tuple #[.agg #[.int .i64 (n : Int), .slice a (phiN n) cap], .int .i64 0]) (by simp [results, Try.results57, go_sem, d0, d1]) rfl ?_
      refine ⟨_, _, rfl, ?_, by go_grown⟩
      exact ((HSL.out.setOther (.inl (by show w.heap.size + 1 + 1 < _; omega)) _).setOther (.inl (by show w.heap.size + 1 + 1 < _; omega)) _).wide (by omega) (by simp; omega) (Nat.le_refl _)
end Go.Proofs.Ytkcofcppmlndiaa
