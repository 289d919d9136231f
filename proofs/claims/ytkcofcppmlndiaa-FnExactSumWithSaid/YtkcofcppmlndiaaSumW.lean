/- SumWith of the program and of the model. -/
import Derived.Test.YtkcofcppmlndiaaSumC
import Derived.Test.YtkcofcppmlndiaaPlusG
import Derived.Deep.RegionLaw
namespace Go.Proofs.Ytkcofcppmlndiaa
open Go.RowKit Go.ChangeShapes Go.Sort
set_option linter.unusedVariables false
set_option linter.unusedSimpArgs false
theorem tab_far {g : Nat → Int} {L : Nat} (h : ¬ Within g L 1000000) : ∃ q, q < L ∧ (g q < -1000000 ∨ 1000000 < g q) := by
  refine Classical.byContradiction (fun hc => h (fun j hj => ?_))
  rcases Int.lt_or_le (g j) (-1000000) with h1 | h1
  · exact absurd ⟨j, hj, .inl h1⟩ hc
  · rcases Int.lt_or_le 1000000 (g j) with h2 | h2
    · exact absurd ⟨j, hj, .inr h2⟩ hc
    · exact ⟨h1, h2⟩

theorem SumWith_impl_bad (p n k : Int) (h : ¬ ChP p n k) (w : World) {o : Bool} {lo hi L : Nat} {v : Value} {g : Nat → Int} (hs : Sl o w lo hi v L g) :
    Calls Try.prog 60 #[v, .agg #[.int .i64 p, .int .i64 n, .int .i64 k]] w fun e w' => e = .returned (failV 1) ∧ Below w.heap.size w w' := by
  have H := Lib.hid h; clear h
  obtain ⟨av, cap, rfl⟩ := hs.shape
  have hhs := hs.size
  have st0 := (St.start w).addSl ⟨o, lo, hi, .slice av L cap, L, g⟩ hs
  replace st0 := (st0.alloc (.cells #[.slice av L cap] 32)).addBox _ [.slice av L cap] (Box.made _ _ _ _ (fun j v h => by simpa using h))
  replace st0 := (st0.alloc (.cells #[.int .i64 p, .int .i64 n, .int .i64 k] 25)).addBox _ [.int .i64 p, .int .i64 n, .int .i64 k] (Box.made _ _ _ _ (fun j v h => by simpa using h))
  replace st0 := (st0.alloc (.cells #[.int .i64 0, .slice none 0 0] 40)).addBox _ [.int .i64 0, .slice none 0 0] (Box.made _ _ _ _ (fun j v h => by simpa using h))
  simp only [World.size_alloc] at st0
  clear hs
  go_enter Try.func60, Try.ntmps60
  go_wp2_with fail
  refine (IsCharacter_no p n k H.out _).mono ?_
  rintro e w1 ⟨rfl, b1⟩
  have st1 := st0.keep b1
  have hz1 := b1.size
  try simp only [World.size_alloc] at hz1
  clear st0 b1
  obtain ⟨d0, d1⟩ := (st1.box 0 (w.heap.size + 1 + 1, [.int .i64 0, .slice none 0 0]) rfl).cell2
  have dz := (st1.box 0 (w.heap.size + 1 + 1, [.int .i64 0, .slice none 0 0]) rfl).2.2
  have BB := st1.1
  dsimp only at dz
  go_wp2
  refine bodyPost_ret (v := failV 1) (by simp [results, Try.results60, go_sem, failV, d0, d1]) rfl ?_
  exact ⟨rfl, by go_grown⟩

theorem SumWith_spec_bad (p n k : Int) (h : ¬ ChP p n k) (w : World) {o : Bool} {lo hi L : Nat} {v : Value} {g : Nat → Int} (hs : Sl o w lo hi v L g) :
    Calls Try.prog 61 #[v, .agg #[.int .i64 p, .int .i64 n, .int .i64 k]] w fun e w' => e = .returned (failV 1) ∧ Below w.heap.size w w' := by
  have H := Lib.hid h; clear h
  obtain ⟨av, cap, rfl⟩ := hs.shape
  have hhs := hs.size
  have st0 := (St.start w).addSl ⟨o, lo, hi, .slice av L cap, L, g⟩ hs
  replace st0 := (st0.alloc (.cells #[.int .i64 p, .int .i64 n, .int .i64 k] 25)).addBox _ [.int .i64 p, .int .i64 n, .int .i64 k] (Box.made _ _ _ _ (fun j v h => by simpa using h))
  replace st0 := (st0.alloc (.cells #[.int .i64 0, .slice none 0 0] 40)).addBox _ [.int .i64 0, .slice none 0 0] (Box.made _ _ _ _ (fun j v h => by simpa using h))
  simp only [World.size_alloc] at st0
  clear hs
  go_enter Try.func61, Try.ntmps61
  go_wp2_with fail
  refine (l03Is_no p n k H.out _).mono ?_
  rintro e w1 ⟨rfl, b1⟩
  have st1 := st0.keep b1
  have hz1 := b1.size
  try simp only [World.size_alloc] at hz1
  clear st0 b1
  obtain ⟨d0, d1⟩ := (st1.box 0 (w.heap.size + 1, [.int .i64 0, .slice none 0 0]) rfl).cell2
  have dz := (st1.box 0 (w.heap.size + 1, [.int .i64 0, .slice none 0 0]) rfl).2.2
  have BB := st1.1
  dsimp only at dz
  go_wp2
  refine bodyPost_ret (v := failV 1) (by simp [results, Try.results61, go_sem, failV, d0, d1]) rfl ?_
  exact ⟨rfl, by go_grown⟩

set_option maxHeartbeats 1000000 in
theorem SumWith_impl_out (p n k : Nat) (hp : primeN p = true) (h1 : 1 ≤ n) (h2 : n ≤ 16) (hd : (p - 1) % n = 0) (hk : k < n) (w : World) {o : Bool} {lo hi L : Nat} {v : Value} {g : Nat → Int} (hs : Sl o w lo hi v L g) (ht : ¬ (L = p ∧ Within g L 1000000)) :
    Calls Try.prog 60 #[v, .agg #[.int .i64 (p : Int), .int .i64 (n : Int), .int .i64 (k : Int)]] w fun e w' => e = .returned (failV 2) ∧ Below w.heap.size w w' := by
  by_cases hl : L = p
  · have HW := Lib.hid (fun h => ht ⟨hl, h⟩)
    subst hl
    clear ht
    have hb := primeN_bd hp
    have HP := Lib.hid hp
    have HD := Lib.hid hd
    clear hp hd
    have hm := hs.len
    unfold maxLen at hm
    obtain ⟨av, cap, rfl⟩ := hs.shape
    have hhs := hs.size
    have st0 := (St.start w).addSl ⟨o, lo, hi, .slice av L cap, L, g⟩ hs
    replace st0 := (st0.alloc (.cells #[.slice av L cap] 32)).addBox _ [.slice av L cap] (Box.made _ _ _ _ (fun j v h => by simpa using h))
    replace st0 := (st0.alloc (.cells #[.int .i64 (L : Int), .int .i64 (n : Int), .int .i64 (k : Int)] 25)).addBox _ [.int .i64 (L : Int), .int .i64 (n : Int), .int .i64 (k : Int)] (Box.made _ _ _ _ (fun j v h => by simpa using h))
    replace st0 := (st0.alloc (.cells #[.int .i64 0, .slice none 0 0] 40)).addBox _ [.int .i64 0, .slice none 0 0] (Box.made _ _ _ _ (fun j v h => by simpa using h))
    simp only [World.size_alloc] at st0
    clear hs
    go_enter Try.func60, Try.ntmps60
    go_wp2_with fail
    refine (IsCharacter_yes L n k HP.out h1 h2 HD.out hk _).mono ?_
    rintro e w1 ⟨rfl, b1⟩
    have st1 := st0.keep b1
    have hz1 := b1.size
    try simp only [World.size_alloc] at hz1
    clear st0 b1
    obtain ⟨e0, e1, e2⟩ := (st1.box 1 (w.heap.size + 1, [.int .i64 (L : Int), .int .i64 (n : Int), .int .i64 (k : Int)]) rfl).cell3
    have t0 := (st1.box 2 (w.heap.size, [.slice av L cap]) rfl).2.1 0 _ rfl
    have q1 := st1.sl 0 ⟨o, lo, hi, .slice av L cap, L, g⟩ rfl
    dsimp only at q1 t0
    obtain ⟨d0, d1⟩ := (st1.box 0 (w.heap.size + 1 + 1, [.int .i64 0, .slice none 0 0]) rfl).cell2
    have dz := (st1.box 0 (w.heap.size + 1 + 1, [.int .i64 0, .slice none 0 0]) rfl).2.2
    have BB := st1.1
    dsimp only at dz
    go_wp2_with (go_at_call 133; refine (areWithin_no _ _ (by omega) (by omega) q1 HW.out).mono ?_; rintro e w' ⟨rfl, rfl⟩)
    refine bodyPost_ret (v := failV 2) (by simp [results, Try.results60, go_sem, failV, d0, d1]) rfl ?_
    exact ⟨rfl, by go_grown⟩
  · have hlb : ((L : Int) != (p : Int)) = true := by rw [bne_iff_ne]; omega
    clear ht hl
    have hb := primeN_bd hp
    have HP := Lib.hid hp
    have HD := Lib.hid hd
    clear hp hd
    have hm := hs.len
    unfold maxLen at hm
    obtain ⟨av, cap, rfl⟩ := hs.shape
    have hhs := hs.size
    have st0 := (St.start w).addSl ⟨o, lo, hi, .slice av L cap, L, g⟩ hs
    replace st0 := (st0.alloc (.cells #[.slice av L cap] 32)).addBox _ [.slice av L cap] (Box.made _ _ _ _ (fun j v h => by simpa using h))
    replace st0 := (st0.alloc (.cells #[.int .i64 (p : Int), .int .i64 (n : Int), .int .i64 (k : Int)] 25)).addBox _ [.int .i64 (p : Int), .int .i64 (n : Int), .int .i64 (k : Int)] (Box.made _ _ _ _ (fun j v h => by simpa using h))
    replace st0 := (st0.alloc (.cells #[.int .i64 0, .slice none 0 0] 40)).addBox _ [.int .i64 0, .slice none 0 0] (Box.made _ _ _ _ (fun j v h => by simpa using h))
    simp only [World.size_alloc] at st0
    clear hs
    go_enter Try.func60, Try.ntmps60
    go_wp2_with fail
    refine (IsCharacter_yes p n k HP.out h1 h2 HD.out hk _).mono ?_
    rintro e w1 ⟨rfl, b1⟩
    have st1 := st0.keep b1
    have hz1 := b1.size
    try simp only [World.size_alloc] at hz1
    clear st0 b1
    obtain ⟨e0, e1, e2⟩ := (st1.box 1 (w.heap.size + 1, [.int .i64 (p : Int), .int .i64 (n : Int), .int .i64 (k : Int)]) rfl).cell3
    have t0 := (st1.box 2 (w.heap.size, [.slice av L cap]) rfl).2.1 0 _ rfl
    dsimp only at t0
    obtain ⟨d0, d1⟩ := (st1.box 0 (w.heap.size + 1 + 1, [.int .i64 0, .slice none 0 0]) rfl).cell2
    have dz := (st1.box 0 (w.heap.size + 1 + 1, [.int .i64 0, .slice none 0 0]) rfl).2.2
    have BB := st1.1
    dsimp only at dz
    go_wp2
    refine bodyPost_ret (v := failV 2) (by simp [results, Try.results60, go_sem, failV, d0, d1]) rfl ?_
    exact ⟨rfl, by go_grown⟩

set_option maxRecDepth 100000 in
set_option maxHeartbeats 1000000 in
theorem SumWith_impl_ok (p n k : Nat) (hp : primeN p = true) (h1 : 1 ≤ n) (h2 : n ≤ 16) (hd : (p - 1) % n = 0) (hk : k < n) (w : World) {o : Bool} {lo hi : Nat} {v : Value} {g : Nat → Int} (hs : Sl o w lo hi v p g) (ht : Within g p 1000000) :
    Calls Try.prog 60 #[v, .agg #[.int .i64 (p : Int), .int .i64 (n : Int), .int .i64 (k : Int)]] w fun e w' => ∃ a cap, e = .returned (.tuple #[.agg #[.int .i64 (n : Int), .slice a (phiN n) cap], .int .i64 0]) ∧ Sl true w' w.heap.size w'.heap.size (.slice a (phiN n) cap) (phiN n) (sumZ p n k g p) ∧ Below w.heap.size w w' := by
  have HW := Lib.hid ht; clear ht
  have hmf : ∀ (fn : Fn) (first cap : Array Value) (w : World), (Instr.makeFunc fn first cap).run Try.prog w = .ok (.func fn first cap) w := fun _ _ _ _ => rfl
  have hb := primeN_bd hp
  have HP := Lib.hid hp
  have HD := Lib.hid hd
  clear hp hd
  have hm := hs.len
  unfold maxLen at hm
  obtain ⟨av, cap, rfl⟩ := hs.shape
  have hhs := hs.size
  have st0 := (St.start w).addSl ⟨o, lo, hi, .slice av p cap, p, g⟩ hs
  replace st0 := (st0.alloc (.cells #[.slice av p cap] 32)).addBox _ [.slice av p cap] (Box.made _ _ _ _ (fun j v h => by simpa using h))
  replace st0 := (st0.alloc (.cells #[.int .i64 (p : Int), .int .i64 (n : Int), .int .i64 (k : Int)] 25)).addBox _ [.int .i64 (p : Int), .int .i64 (n : Int), .int .i64 (k : Int)] (Box.made _ _ _ _ (fun j v h => by simpa using h))
  replace st0 := (st0.alloc (.cells #[.int .i64 0, .slice none 0 0] 40)).addBox _ [.int .i64 0, .slice none 0 0] (Box.made _ _ _ _ (fun j v h => by simpa using h))
  simp only [World.size_alloc] at st0
  clear hs
  go_enter Try.func60, Try.ntmps60
  go_wp2_with fail
  refine (IsCharacter_yes p n k HP.out h1 h2 HD.out hk _).mono ?_
  rintro e w1 ⟨rfl, b1⟩
  have st1 := st0.keep b1
  have hz1 := b1.size
  try simp only [World.size_alloc] at hz1
  clear st0 b1
  obtain ⟨e0, e1, e2⟩ := (st1.box 1 (w.heap.size + 1, [.int .i64 (p : Int), .int .i64 (n : Int), .int .i64 (k : Int)]) rfl).cell3
  have tb := st1.box 2 (w.heap.size, [.slice av p cap]) rfl
  have t0 := tb.2.1 0 _ rfl
  have q1 := st1.sl 0 ⟨o, lo, hi, .slice av p cap, p, g⟩ rfl
  dsimp only at q1 t0 tb
  go_wp2_with (go_at_call 133; refine (areWithin_yes _ _ (by omega) (by omega) q1 HW.out).mono ?_; rintro e w' ⟨rfl, rfl⟩)
  refine (weightedSum_tab p n k HP.out h1 h2 (by omega) g (fun y hy => HW.out y hy) _ tb q1).mono ?_
  rintro e w2 ⟨a2, k2, rfl, s2, b2⟩
  have S2 := Lib.hid s2
  clear s2 e0 e1 e2 tb t0 q1
  have st2 := st1.keep b2
  have hz2 := b2.size
  try simp only [World.size_alloc] at hz2
  clear st1 b2
  obtain ⟨d0, d1⟩ := (st2.box 0 (w.heap.size + 1 + 1, [.int .i64 0, .slice none 0 0]) rfl).cell2
  have dz := (st2.box 0 (w.heap.size + 1 + 1, [.int .i64 0, .slice none 0 0]) rfl).2.2
  have BB := st2.1
  dsimp only at dz
  go_wp2
  refine bodyPost_ret (v := .tuple #[.agg #[.int .i64 (n : Int), .slice a2 (phiN n) k2], .int .i64 0]) (by simp [results, Try.results60, go_sem, d0, d1]) rfl ?_
  refine ⟨_, _, rfl, ?_, by go_grown⟩
  exact ((S2.out.setOther (.inl (by show w.heap.size + 1 + 1 < _; omega)) _).setOther (.inl (by show w.heap.size + 1 + 1 < _; omega)) _).wide (by omega) (by simp) (Nat.le_refl _)

set_option maxHeartbeats 1000000 in
theorem SumWith_spec_out (p n k : Nat) (hp : primeN p = true) (h1 : 1 ≤ n) (h2 : n ≤ 16) (hd : (p - 1) % n = 0) (hk : k < n) (w : World) {o : Bool} {lo hi L : Nat} {v : Value} {g : Nat → Int} (hs : Sl o w lo hi v L g) (ht : ¬ (L = p ∧ Within g L 1000000)) :
    Calls Try.prog 61 #[v, .agg #[.int .i64 (p : Int), .int .i64 (n : Int), .int .i64 (k : Int)]] w fun e w' => e = .returned (failV 2) ∧ Below w.heap.size w w' := by
  by_cases hl : L = p
  · have HW := Lib.hid (tab_far (fun h => ht ⟨hl, h⟩))
    subst hl
    clear ht
    have hb := primeN_bd hp
    have HP := Lib.hid hp
    have HD := Lib.hid hd
    clear hp hd
    have hm := hs.len
    unfold maxLen at hm
    obtain ⟨av, cap, rfl⟩ := hs.shape
    have hhs := hs.size
    have st0 := (St.start w).addSl ⟨o, lo, hi, .slice av L cap, L, g⟩ hs
    replace st0 := (st0.alloc (.cells #[.int .i64 (L : Int), .int .i64 (n : Int), .int .i64 (k : Int)] 25)).addBox _ [.int .i64 (L : Int), .int .i64 (n : Int), .int .i64 (k : Int)] (Box.made _ _ _ _ (fun j v h => by simpa using h))
    replace st0 := (st0.alloc (.cells #[.int .i64 0, .slice none 0 0] 40)).addBox _ [.int .i64 0, .slice none 0 0] (Box.made _ _ _ _ (fun j v h => by simpa using h))
    simp only [World.size_alloc] at st0
    clear hs
    go_enter Try.func61, Try.ntmps61
    go_wp2_with fail
    refine (l03Is_yes L n k HP.out h1 h2 HD.out hk _).mono ?_
    rintro e w1 ⟨rfl, b1⟩
    have st1 := st0.keep b1
    have hz1 := b1.size
    try simp only [World.size_alloc] at hz1
    clear st0 b1
    obtain ⟨e0, e1, e2⟩ := (st1.box 1 (w.heap.size, [.int .i64 (L : Int), .int .i64 (n : Int), .int .i64 (k : Int)]) rfl).cell3
    have q1 := st1.sl 0 ⟨o, lo, hi, .slice av L cap, L, g⟩ rfl
    dsimp only at q1
    have Q1 := Lib.hid q1
    clear q1
    obtain ⟨d0, d1⟩ := (st1.box 0 (w.heap.size + 1, [.int .i64 0, .slice none 0 0]) rfl).cell2
    have dz := (st1.box 0 (w.heap.size + 1, [.int .i64 0, .slice none 0 0]) rfl).2.2
    have BB := st1.1
    dsimp only at dz
    go_wp2
    go_loopw [6] (fun s6 wr => ∃ q : Nat, q ≤ L ∧ s6 = .int .i64 (q : Int) ∧ (∀ j, j < q → -1000000 ≤ g j ∧ g j ≤ 1000000) ∧ wr = w1) (fun s6 _ => L + 1 - (intOf s6).toNat)
    case atStart => exact ⟨0, by omega, rfl, fun j hj => absurd hj (Nat.not_lt_zero _), rfl⟩
    case round =>
      obtain ⟨q, hq, rfl, hno, hwr⟩ := hrel
      subst hwr
      have HN := Lib.hid hno; clear hno
      have hlt : q < L := by
        rcases Nat.lt_or_ge q L with h | h
        · exact h
        · obtain ⟨j, hj, hj2⟩ := HW.out
          have := HN.out j (by omega); omega
      obtain ⟨gg, off, c1, hv, _, _, _, _, hcl, _⟩ := Q1.out.at (by omega)
      obtain ⟨rfl, rfl⟩ : av = some ⟨gg, off, none⟩ ∧ cap = c1 := by cases hv; exact ⟨rfl, rfl⟩
      have hck := hcl q hlt
      clear hv hcl
      by_cases hin : -1000000 ≤ g q ∧ g q ≤ 1000000
      · obtain ⟨hi1, hi2⟩ := hin
        go_wp2_with (go_at_call 114; refine (l01In_yes _ _ _ _ (by omega) (by omega)).mono ?_; rintro e w' ⟨rfl, rfl⟩)
        go_roundw
        case rel => exact ⟨q + 1, by omega, by go_num, fun j hj => by
          rcases Nat.lt_or_ge j q with h | h
          · exact HN.out j h
          · obtain rfl : j = q := by omega
            exact ⟨hi1, hi2⟩, by first | rfl | trivial⟩
        case measure => simp [intOf]; omega
      · have HO := Lib.hid (show g q < -1000000 ∨ 1000000 < g q by omega)
        clear hin
        go_wp2_with (go_at_call 114; refine (l01In_no _ _ _ _ HO.out).mono ?_; rintro e w' ⟨rfl, rfl⟩)
        refine bodyPost_ret (v := failV 2) (by simp [results, Try.results61, go_sem, failV, d0, d1]) rfl ?_
        exact ⟨rfl, by go_grown⟩
  · have hlb : ((L : Int) != (p : Int)) = true := by rw [bne_iff_ne]; omega
    clear ht hl
    have hb := primeN_bd hp
    have HP := Lib.hid hp
    have HD := Lib.hid hd
    clear hp hd
    have hm := hs.len
    unfold maxLen at hm
    obtain ⟨av, cap, rfl⟩ := hs.shape
    have hhs := hs.size
    have st0 := (St.start w).addSl ⟨o, lo, hi, .slice av L cap, L, g⟩ hs
    replace st0 := (st0.alloc (.cells #[.int .i64 (p : Int), .int .i64 (n : Int), .int .i64 (k : Int)] 25)).addBox _ [.int .i64 (p : Int), .int .i64 (n : Int), .int .i64 (k : Int)] (Box.made _ _ _ _ (fun j v h => by simpa using h))
    replace st0 := (st0.alloc (.cells #[.int .i64 0, .slice none 0 0] 40)).addBox _ [.int .i64 0, .slice none 0 0] (Box.made _ _ _ _ (fun j v h => by simpa using h))
    simp only [World.size_alloc] at st0
    clear hs
    go_enter Try.func61, Try.ntmps61
    go_wp2_with fail
    refine (l03Is_yes p n k HP.out h1 h2 HD.out hk _).mono ?_
    rintro e w1 ⟨rfl, b1⟩
    have st1 := st0.keep b1
    have hz1 := b1.size
    try simp only [World.size_alloc] at hz1
    clear st0 b1
    obtain ⟨e0, e1, e2⟩ := (st1.box 1 (w.heap.size, [.int .i64 (p : Int), .int .i64 (n : Int), .int .i64 (k : Int)]) rfl).cell3
    obtain ⟨d0, d1⟩ := (st1.box 0 (w.heap.size + 1, [.int .i64 0, .slice none 0 0]) rfl).cell2
    have dz := (st1.box 0 (w.heap.size + 1, [.int .i64 0, .slice none 0 0]) rfl).2.2
    have BB := st1.1
    dsimp only at dz
    go_wp2
    refine bodyPost_ret (v := failV 2) (by simp [results, Try.results61, go_sem, failV, d0, d1]) rfl ?_
    exact ⟨rfl, by go_grown⟩

set_option maxRecDepth 100000 in
set_option maxHeartbeats 4000000 in
theorem SumWith_spec_ok (p n k : Nat) (hp : primeN p = true) (h1 : 1 ≤ n) (h2 : n ≤ 16) (hd : (p - 1) % n = 0) (hk : k < n) (w : World) {o : Bool} {lo hi : Nat} {v : Value} {g : Nat → Int} (hs : Sl o w lo hi v p g) (ht : Within g p 1000000) :
    Calls Try.prog 61 #[v, .agg #[.int .i64 (p : Int), .int .i64 (n : Int), .int .i64 (k : Int)]] w fun e w' => ∃ a cap, e = .returned (.tuple #[.agg #[.int .i64 (n : Int), .slice a (phiN n) cap], .int .i64 0]) ∧ Sl true w' w.heap.size w'.heap.size (.slice a (phiN n) cap) (phiN n) (sumZ p n k g p) ∧ Below w.heap.size w w' := by
  have HW := Lib.hid ht; clear ht
  have hphi := phi_le12 n (by omega) h1
  have hb := primeN_bd hp
  have HP := Lib.hid hp
  have HD := Lib.hid hd
  clear hp hd
  have hm := hs.len
  unfold maxLen at hm
  obtain ⟨av, cap, rfl⟩ := hs.shape
  have hhs := hs.size
  have st0 := (St.start w).addSl ⟨o, lo, hi, .slice av p cap, p, g⟩ hs
  replace st0 := (st0.alloc (.cells #[.int .i64 (p : Int), .int .i64 (n : Int), .int .i64 (k : Int)] 25)).addBox _ [.int .i64 (p : Int), .int .i64 (n : Int), .int .i64 (k : Int)] (Box.made _ _ _ _ (fun j v h => by simpa using h))
  replace st0 := (st0.alloc (.cells #[.int .i64 0, .slice none 0 0] 40)).addBox _ [.int .i64 0, .slice none 0 0] (Box.made _ _ _ _ (fun j v h => by simpa using h))
  simp only [World.size_alloc] at st0
  clear hs
  go_enter Try.func61, Try.ntmps61
  go_wp2_with fail
  refine (l03Is_yes p n k HP.out h1 h2 HD.out hk _).mono ?_
  rintro e w1 ⟨rfl, b1⟩
  have st1 := st0.keep b1
  have hz1 := b1.size
  try simp only [World.size_alloc] at hz1
  clear st0 b1
  obtain ⟨e0, e1, e2⟩ := (st1.box 1 (w.heap.size, [.int .i64 (p : Int), .int .i64 (n : Int), .int .i64 (k : Int)]) rfl).cell3
  have Q1 := Lib.hid (st1.sl 0 ⟨o, lo, hi, .slice av p cap, p, g⟩ rfl)
  have ST1 := Lib.hid st1
  dsimp only at Q1
  clear st1
  obtain ⟨gg, off, c1, hv, _, hgh, _, _, hcl, _⟩ := Q1.out.at (by omega)
  obtain ⟨rfl, rfl⟩ : av = some ⟨gg, off, none⟩ ∧ cap = c1 := by cases hv; exact ⟨rfl, rfl⟩
  have HCL := Lib.hid hcl
  clear hv hcl
  go_wp2
  go_loopw [6] (fun s6 wr => ∃ q : Nat, q ≤ p ∧ s6 = .int .i64 (q : Int) ∧ wr = w1) (fun s6 _ => p + 1 - (intOf s6).toNat)
  case atStart => exact ⟨0, by omega, rfl, rfl⟩
  case round =>
    obtain ⟨q, hq, rfl, hwr⟩ := hrel
    subst hwr
    by_cases hlt : q < p
    · have hck := HCL.out q hlt
      obtain ⟨hi1, hi2⟩ := HW.out q hlt
      go_wp2_with (go_at_call 114; refine (l01In_yes _ _ _ _ (by omega) (by omega)).mono ?_; rintro e w' ⟨rfl, rfl⟩)
      go_roundw
      case rel => exact ⟨q + 1, by omega, by go_num, by first | rfl | trivial⟩
      case measure => simp [intOf]; omega
    · obtain rfl : p = q := by omega
      go_wp2_with fail
      refine (l01Zero_any n (by omega) _).mono ?_
      rintro e w2 ⟨a2, k2, rfl, s2, b2⟩
      have st2 := ST1.out.keep b2
      have hz2' := b2.size
      have S2 := Lib.hid s2
      have HT := Lib.hid (st2.boxNew (.int .i64 (n : Int)) (.slice a2 (phiN n) k2) 40)
      clear st2 s2 b2 e0 e1 e2 HCL Q1 ST1
      go_wp2
      go_loopw [8] (fun s8 wr => ∃ (x : Nat) (a : Option Addr) (cap' lo' hi' : Nat), 1 ≤ x ∧ x ≤ p ∧ s8 = .int .i64 (x : Int) ∧ w2.heap.size < wr.heap.size ∧ w.heap.size + 1 + 1 ≤ lo' ∧ (w2.heap.size < lo' ∨ hi' ≤ w2.heap.size) ∧ Sl true wr lo' hi' (.slice a (phiN n) cap') (phiN n) (sumZ p n k g x) ∧
          St w wr [(w2.heap.size, [.int .i64 (n : Int), .slice a (phiN n) cap']), (w.heap.size + 1, [.int .i64 0, .slice none 0 0]), (w.heap.size, [.int .i64 (p : Int), .int .i64 (n : Int), .int .i64 (k : Int)])] [⟨o, lo, hi, .slice (some ⟨gg, off, none⟩) p cap, p, g⟩]) (fun s8 _ => p + 1 - (intOf s8).toNat)
      case atStart => exact ⟨1, a2, k2, w.heap.size + 1 + 1, w2.heap.size, by omega, by omega, rfl, by simp, by omega, .inr (Nat.le_refl _), ((S2.out.alloc _).congr (fun j hj => by rw [sumZ_one])).wide (by omega) (Nat.le_refl _) (by simp), HT.out⟩
      case round =>
        clear S2 HT
        obtain ⟨x, a, cap', lo', hi', hx1, hx, rfl, hzr, hlo, hdis, hsl, hst⟩ := hrel
        obtain ⟨o0, o1⟩ := (hst.box 0 (w2.heap.size, [.int .i64 (n : Int), .slice a (phiN n) cap']) rfl).cell2
        obtain ⟨c0, c1, c2⟩ := (hst.box 2 (w.heap.size, [.int .i64 (p : Int), .int .i64 (n : Int), .int .i64 (k : Int)]) rfl).cell3
        by_cases hlt : x < p
        · have HSL := Lib.hid hsl
          have HST := Lib.hid hst
          have HSS := Lib.hid (fun j => sum_step (p := p) (n := n) (k := k) (W := g) hx1 hlt j)
          have HWI := Lib.hid (sumZ_ok (p := p) (n := n) (k := k) (x := x) (W := g) (by omega) h1 (by omega) (fun y hy => HW.out y (by omega)))
          have HGB := Lib.hid (show ∀ q, q < phiN n → -1000000000000 ≤ g x * atP p n k (x : Int) q ∧ g x * atP p n k (x : Int) q ≤ 1000000000000 from fun q hq => by
            have h := atP_bd (p := p) (k := k) (x := (x : Int)) (show n < 17 by omega) h1 hq
            have h5 := one_bd (B := 1000000) (by omega) (HW.out x hlt).1 (HW.out x hlt).2 h.1 h.2
            omega)
          have qt := hst.sl 0 ⟨o, lo, hi, .slice (some ⟨gg, off, none⟩) p cap, p, g⟩ rfl
          dsimp only at qt
          have hck := (qt.known (by omega)).2.2.2.1 x hlt
          have hgr : gg < wr.heap.size := by have := (qt.known (by omega)).2.1; have := qt.size; omega
          have hxi : (x : Int) < (p : Int) := by omega
          clear hsl hst qt
          go_wp2_with fail
          go_region_law (first
            | (go_simp; go_at_call 120; refine (l03At_any p n k (x : Int) HP.out h1 h2 (by omega) (by omega) (by omega) _).mono ?_; rintro e w6 ⟨a6, k6, rfl, s6, b6⟩
               have hz6 := b6.size
               simp only [World.size_drew] at hz6 s6
               have st6 := HST.out.drew.keep b6
               have sl6 := HSL.out.drew.keep b6 HSL.out.drew.size
               have hck6 := (b6.cell (p := ⟨gg, off + x, none⟩) (by simpa using hgr)).trans hck
               obtain ⟨y0, y1⟩ := (st6.box 0 (w2.heap.size, [.int .i64 (n : Int), .slice a (phiN n) cap']) rfl).cell2
               obtain ⟨z0, z1, z2⟩ := (st6.box 2 (w.heap.size, [.int .i64 (p : Int), .int .i64 (n : Int), .int .i64 (k : Int)]) rfl).cell3)
            | (go_simp; go_at_call 130; refine (l01Plus_gen (n : Int) (g x) _ sl6 s6 HWI.out HGB.out (by omega)).mono ?_; rintro e w7 ⟨a7, k7, rfl, s7, b7⟩
               have hz7 := b7.size
               have st7 := st6.keep b7
               obtain ⟨r0, r1⟩ := (st7.box 0 (w2.heap.size, [.int .i64 (n : Int), .slice a (phiN n) cap']) rfl).cell2
               have rz := (st7.box 0 (w2.heap.size, [.int .i64 (n : Int), .slice a (phiN n) cap']) rfl).2.2
               dsimp only at rz))
          all_goals
            have S7 := Lib.hid s7
            have T7 := Lib.hid (st7.boxSet (u0 := .int .i64 (n : Int)) (u1 := .slice a7 (phiN n) k7) (by omega) (by intro b hb; simp only [List.mem_cons, List.not_mem_nil, or_false] at hb; rcases hb with rfl | rfl <;> dsimp only <;> omega) (by intro s hs'; simp only [List.mem_cons, List.not_mem_nil, or_false] at hs'; rcases hs' with rfl <;> dsimp only <;> omega))
            clear st6 st7 sl6 s6 s7 b6 b7 hck hck6
            go_wp2
            go_roundw
            case rel => exact ⟨x + 1, a7, k7, w6.heap.size, w7.heap.size, by omega, by omega, by go_num, by simp; omega, by omega, .inl (by omega), ((S7.out.setOther (.inl (by show w2.heap.size < _; omega)) _).setOther (.inl (by show w2.heap.size < _; omega)) _).congr (fun j hj => (HSS.out j).symm), T7.out⟩
            case measure => simp [intOf] <;> omega
        · obtain rfl : p = x := by omega
          obtain ⟨d0, d1⟩ := (hst.box 1 (w.heap.size + 1, [.int .i64 0, .slice none 0 0]) rfl).cell2
          have dz := (hst.box 1 (w.heap.size + 1, [.int .i64 0, .slice none 0 0]) rfl).2.2
          have BB := hst.1
          have HSL := Lib.hid hsl
          dsimp only at dz
          clear hst hsl
          go_wp2
          refine bodyPost_ret (v := .tuple #[.agg #[.int .i64 (n : Int), .slice a (phiN n) cap'], .int .i64 0]) (by simp [results, Try.results61, go_sem, d0, d1]) rfl ?_
          refine ⟨_, _, rfl, ?_, by go_grown⟩
          have := HSL.out.size
          exact ((HSL.out.setOther (.inl (by show w.heap.size + 1 < _; omega)) _).setOther (.inl (by show w.heap.size + 1 < _; omega)) _).wide (by omega) (by simp; omega) (Nat.le_refl _)
end Go.Proofs.Ytkcofcppmlndiaa
