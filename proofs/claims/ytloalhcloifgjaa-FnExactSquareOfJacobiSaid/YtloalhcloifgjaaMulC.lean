/- The error code of two characters; MultiplyCharacters of the program and of the model. -/
import Derived.Test.YtloalhcloifgjaaInvC
namespace Go.Proofs.Ytloalhcloifgjaa
open Go.RowKit Go.ChangeShapes Go.Sort
set_option linter.unusedVariables false
set_option linter.unusedSimpArgs false

theorem characterPairCode_bad1 (p n k q m l : Int) (h : ¬ ChP p n k) (w : World) :
    Calls Try.prog 122 #[.agg #[.int .i64 p, .int .i64 n, .int .i64 k], .agg #[.int .i64 q, .int .i64 m, .int .i64 l]] w fun e w' => e = .returned (.int .i64 1) ∧ Below w.heap.size w w' := by
  have H := Lib.hid h; clear h
  have st0 := St.start w
  replace st0 := (st0.alloc (.cells #[.int .i64 p, .int .i64 n, .int .i64 k] 29)).addBox _ [.int .i64 p, .int .i64 n, .int .i64 k] (Box.made _ _ _ _ (fun j v h => by simpa using h))
  replace st0 := (st0.alloc (.cells #[.int .i64 q, .int .i64 m, .int .i64 l] 29)).addBox _ [.int .i64 q, .int .i64 m, .int .i64 l] (Box.made _ _ _ _ (fun j v h => by simpa using h))
  simp only [World.size_alloc] at st0
  go_enter Try.func122, Try.ntmps122
  go_wp2_with fail
  refine (IsCharacter_dec p n k false (.inr ⟨H.out, rfl⟩) _).mono ?_
  rintro e w1 ⟨rfl, b1⟩
  have st1 := st0.keep b1
  have hz1 := b1.size
  try simp only [World.size_alloc] at hz1
  clear st0 b1
  have BB := st1.1
  go_wp2
  go_ret
  exact ⟨rfl, BB⟩
theorem characterPairCode_bad2 (p n k q m l : Int) (h : ChP p n k) (h' : ¬ ChP q m l) (w : World) :
    Calls Try.prog 122 #[.agg #[.int .i64 p, .int .i64 n, .int .i64 k], .agg #[.int .i64 q, .int .i64 m, .int .i64 l]] w fun e w' => e = .returned (.int .i64 1) ∧ Below w.heap.size w w' := by
  have H := Lib.hid h; clear h
  have H' := Lib.hid h'; clear h'
  have st0 := St.start w
  replace st0 := (st0.alloc (.cells #[.int .i64 p, .int .i64 n, .int .i64 k] 29)).addBox _ [.int .i64 p, .int .i64 n, .int .i64 k] (Box.made _ _ _ _ (fun j v h => by simpa using h))
  replace st0 := (st0.alloc (.cells #[.int .i64 q, .int .i64 m, .int .i64 l] 29)).addBox _ [.int .i64 q, .int .i64 m, .int .i64 l] (Box.made _ _ _ _ (fun j v h => by simpa using h))
  simp only [World.size_alloc] at st0
  go_enter Try.func122, Try.ntmps122
  go_wp2_with fail
  refine (IsCharacter_dec p n k true (.inl ⟨H.out, rfl⟩) _).mono ?_
  rintro e w1 ⟨rfl, b1⟩
  have st1 := st0.keep b1
  have hz1 := b1.size
  try simp only [World.size_alloc] at hz1
  clear st0 b1
  obtain ⟨e0, e1, e2⟩ := (st1.box 0 (w.heap.size + 1, [.int .i64 q, .int .i64 m, .int .i64 l]) rfl).cell3
  go_wp2_with fail
  refine (IsCharacter_dec q m l false (.inr ⟨H'.out, rfl⟩) _).mono ?_
  rintro e w2 ⟨rfl, b2⟩
  clear e0 e1 e2
  have st2 := st1.keep b2
  have hz2 := b2.size
  try simp only [World.size_alloc] at hz2
  clear st1 b2
  have BB := st2.1
  go_wp2
  go_ret
  exact ⟨rfl, BB⟩

theorem characterPairCode_diff1 (p n k q m l : Int) (h : ChP p n k) (h' : ChP q m l) (hd : ¬ p = q) (w : World) :
    Calls Try.prog 122 #[.agg #[.int .i64 p, .int .i64 n, .int .i64 k], .agg #[.int .i64 q, .int .i64 m, .int .i64 l]] w fun e w' => e = .returned (.int .i64 2) ∧ Below w.heap.size w w' := by
  have H := Lib.hid h; clear h
  have H' := Lib.hid h'; clear h'
  have hdb : (p != q) = true := by rw [bne_iff_ne]; exact hd
  have st0 := St.start w
  replace st0 := (st0.alloc (.cells #[.int .i64 p, .int .i64 n, .int .i64 k] 29)).addBox _ [.int .i64 p, .int .i64 n, .int .i64 k] (Box.made _ _ _ _ (fun j v h => by simpa using h))
  replace st0 := (st0.alloc (.cells #[.int .i64 q, .int .i64 m, .int .i64 l] 29)).addBox _ [.int .i64 q, .int .i64 m, .int .i64 l] (Box.made _ _ _ _ (fun j v h => by simpa using h))
  simp only [World.size_alloc] at st0
  go_enter Try.func122, Try.ntmps122
  go_wp2_with fail
  refine (IsCharacter_dec p n k true (.inl ⟨H.out, rfl⟩) _).mono ?_
  rintro e w1 ⟨rfl, b1⟩
  have st1 := st0.keep b1
  have hz1 := b1.size
  try simp only [World.size_alloc] at hz1
  clear st0 b1
  obtain ⟨e0, e1, e2⟩ := (st1.box 0 (w.heap.size + 1, [.int .i64 q, .int .i64 m, .int .i64 l]) rfl).cell3
  go_wp2_with fail
  refine (IsCharacter_dec q m l true (.inl ⟨H'.out, rfl⟩) _).mono ?_
  rintro e w2 ⟨rfl, b2⟩
  clear e0 e1 e2
  have st2 := st1.keep b2
  have hz2 := b2.size
  try simp only [World.size_alloc] at hz2
  clear st1 b2
  have BB := st2.1
  obtain ⟨e0, e1, e2⟩ := (st2.box 0 (w.heap.size + 1, [.int .i64 q, .int .i64 m, .int .i64 l]) rfl).cell3
  obtain ⟨f0, f1, f2⟩ := (st2.box 1 (w.heap.size, [.int .i64 p, .int .i64 n, .int .i64 k]) rfl).cell3
  have ez := (st2.box 0 (w.heap.size + 1, [.int .i64 q, .int .i64 m, .int .i64 l]) rfl).2.2
  have fz := (st2.box 1 (w.heap.size, [.int .i64 p, .int .i64 n, .int .i64 k]) rfl).2.2
  dsimp only at ez fz
  clear st2
  go_wp2
  all_goals first
    | contradiction
    | (go_ret; exact ⟨rfl, by go_grown⟩)

theorem characterPairCode_diff2 (p n k m l : Int) (h : ChP p n k) (h' : ChP p m l) (hd2 : ¬ n = m) (w : World) :
    Calls Try.prog 122 #[.agg #[.int .i64 p, .int .i64 n, .int .i64 k], .agg #[.int .i64 p, .int .i64 m, .int .i64 l]] w fun e w' => e = .returned (.int .i64 2) ∧ Below w.heap.size w w' := by
  have H := Lib.hid h; clear h
  have H' := Lib.hid h'; clear h'
  have hdb : (n != m) = true := by rw [bne_iff_ne]; exact hd2
  have st0 := St.start w
  replace st0 := (st0.alloc (.cells #[.int .i64 p, .int .i64 n, .int .i64 k] 29)).addBox _ [.int .i64 p, .int .i64 n, .int .i64 k] (Box.made _ _ _ _ (fun j v h => by simpa using h))
  replace st0 := (st0.alloc (.cells #[.int .i64 p, .int .i64 m, .int .i64 l] 29)).addBox _ [.int .i64 p, .int .i64 m, .int .i64 l] (Box.made _ _ _ _ (fun j v h => by simpa using h))
  simp only [World.size_alloc] at st0
  go_enter Try.func122, Try.ntmps122
  go_wp2_with fail
  refine (IsCharacter_dec p n k true (.inl ⟨H.out, rfl⟩) _).mono ?_
  rintro e w1 ⟨rfl, b1⟩
  have st1 := st0.keep b1
  have hz1 := b1.size
  try simp only [World.size_alloc] at hz1
  clear st0 b1
  obtain ⟨e0, e1, e2⟩ := (st1.box 0 (w.heap.size + 1, [.int .i64 p, .int .i64 m, .int .i64 l]) rfl).cell3
  go_wp2_with fail
  refine (IsCharacter_dec p m l true (.inl ⟨H'.out, rfl⟩) _).mono ?_
  rintro e w2 ⟨rfl, b2⟩
  clear e0 e1 e2
  have st2 := st1.keep b2
  have hz2 := b2.size
  try simp only [World.size_alloc] at hz2
  clear st1 b2
  have BB := st2.1
  obtain ⟨e0, e1, e2⟩ := (st2.box 0 (w.heap.size + 1, [.int .i64 p, .int .i64 m, .int .i64 l]) rfl).cell3
  obtain ⟨f0, f1, f2⟩ := (st2.box 1 (w.heap.size, [.int .i64 p, .int .i64 n, .int .i64 k]) rfl).cell3
  have ez := (st2.box 0 (w.heap.size + 1, [.int .i64 p, .int .i64 m, .int .i64 l]) rfl).2.2
  have fz := (st2.box 1 (w.heap.size, [.int .i64 p, .int .i64 n, .int .i64 k]) rfl).2.2
  dsimp only at ez fz
  clear st2
  go_wp2
  all_goals first
    | contradiction
    | (go_ret; exact ⟨rfl, by go_grown⟩)

theorem characterPairCode_ok (p n k l : Int) (h : ChP p n k) (h' : ChP p n l)  (w : World) :
    Calls Try.prog 122 #[.agg #[.int .i64 p, .int .i64 n, .int .i64 k], .agg #[.int .i64 p, .int .i64 n, .int .i64 l]] w fun e w' => e = .returned (.int .i64 0) ∧ Below w.heap.size w w' := by
  have H := Lib.hid h; clear h
  have H' := Lib.hid h'; clear h'
  have st0 := St.start w
  replace st0 := (st0.alloc (.cells #[.int .i64 p, .int .i64 n, .int .i64 k] 29)).addBox _ [.int .i64 p, .int .i64 n, .int .i64 k] (Box.made _ _ _ _ (fun j v h => by simpa using h))
  replace st0 := (st0.alloc (.cells #[.int .i64 p, .int .i64 n, .int .i64 l] 29)).addBox _ [.int .i64 p, .int .i64 n, .int .i64 l] (Box.made _ _ _ _ (fun j v h => by simpa using h))
  simp only [World.size_alloc] at st0
  go_enter Try.func122, Try.ntmps122
  go_wp2_with fail
  refine (IsCharacter_dec p n k true (.inl ⟨H.out, rfl⟩) _).mono ?_
  rintro e w1 ⟨rfl, b1⟩
  have st1 := st0.keep b1
  have hz1 := b1.size
  try simp only [World.size_alloc] at hz1
  clear st0 b1
  obtain ⟨e0, e1, e2⟩ := (st1.box 0 (w.heap.size + 1, [.int .i64 p, .int .i64 n, .int .i64 l]) rfl).cell3
  go_wp2_with fail
  refine (IsCharacter_dec p n l true (.inl ⟨H'.out, rfl⟩) _).mono ?_
  rintro e w2 ⟨rfl, b2⟩
  clear e0 e1 e2
  have st2 := st1.keep b2
  have hz2 := b2.size
  try simp only [World.size_alloc] at hz2
  clear st1 b2
  have BB := st2.1
  obtain ⟨e0, e1, e2⟩ := (st2.box 0 (w.heap.size + 1, [.int .i64 p, .int .i64 n, .int .i64 l]) rfl).cell3
  obtain ⟨f0, f1, f2⟩ := (st2.box 1 (w.heap.size, [.int .i64 p, .int .i64 n, .int .i64 k]) rfl).cell3
  have ez := (st2.box 0 (w.heap.size + 1, [.int .i64 p, .int .i64 n, .int .i64 l]) rfl).2.2
  have fz := (st2.box 1 (w.heap.size, [.int .i64 p, .int .i64 n, .int .i64 k]) rfl).2.2
  dsimp only at ez fz
  clear st2
  go_wp2
  all_goals first
    | contradiction
    | (go_ret; exact ⟨rfl, by go_grown⟩)

theorem l03Like_bad1 (p n k q m l : Int) (h : ¬ ChP p n k) (w : World) :
    Calls Try.prog 120 #[.agg #[.int .i64 p, .int .i64 n, .int .i64 k], .agg #[.int .i64 q, .int .i64 m, .int .i64 l]] w fun e w' => e = .returned (.int .i64 1) ∧ Below w.heap.size w w' := by
  have H := Lib.hid h; clear h
  have st0 := St.start w
  replace st0 := (st0.alloc (.cells #[.int .i64 p, .int .i64 n, .int .i64 k] 29)).addBox _ [.int .i64 p, .int .i64 n, .int .i64 k] (Box.made _ _ _ _ (fun j v h => by simpa using h))
  replace st0 := (st0.alloc (.cells #[.int .i64 q, .int .i64 m, .int .i64 l] 29)).addBox _ [.int .i64 q, .int .i64 m, .int .i64 l] (Box.made _ _ _ _ (fun j v h => by simpa using h))
  simp only [World.size_alloc] at st0
  go_enter Try.func120, Try.ntmps120
  go_wp2_with fail
  refine (l03Is_dec p n k false (.inr ⟨H.out, rfl⟩) _).mono ?_
  rintro e w1 ⟨rfl, b1⟩
  have st1 := st0.keep b1
  have hz1 := b1.size
  try simp only [World.size_alloc] at hz1
  clear st0 b1
  have BB := st1.1
  go_wp2
  go_ret
  exact ⟨rfl, BB⟩
theorem l03Like_bad2 (p n k q m l : Int) (h : ChP p n k) (h' : ¬ ChP q m l) (w : World) :
    Calls Try.prog 120 #[.agg #[.int .i64 p, .int .i64 n, .int .i64 k], .agg #[.int .i64 q, .int .i64 m, .int .i64 l]] w fun e w' => e = .returned (.int .i64 1) ∧ Below w.heap.size w w' := by
  have H := Lib.hid h; clear h
  have H' := Lib.hid h'; clear h'
  have st0 := St.start w
  replace st0 := (st0.alloc (.cells #[.int .i64 p, .int .i64 n, .int .i64 k] 29)).addBox _ [.int .i64 p, .int .i64 n, .int .i64 k] (Box.made _ _ _ _ (fun j v h => by simpa using h))
  replace st0 := (st0.alloc (.cells #[.int .i64 q, .int .i64 m, .int .i64 l] 29)).addBox _ [.int .i64 q, .int .i64 m, .int .i64 l] (Box.made _ _ _ _ (fun j v h => by simpa using h))
  simp only [World.size_alloc] at st0
  go_enter Try.func120, Try.ntmps120
  go_wp2_with fail
  refine (l03Is_dec p n k true (.inl ⟨H.out, rfl⟩) _).mono ?_
  rintro e w1 ⟨rfl, b1⟩
  have st1 := st0.keep b1
  have hz1 := b1.size
  try simp only [World.size_alloc] at hz1
  clear st0 b1
  obtain ⟨e0, e1, e2⟩ := (st1.box 0 (w.heap.size + 1, [.int .i64 q, .int .i64 m, .int .i64 l]) rfl).cell3
  go_wp2_with fail
  refine (l03Is_dec q m l false (.inr ⟨H'.out, rfl⟩) _).mono ?_
  rintro e w2 ⟨rfl, b2⟩
  clear e0 e1 e2
  have st2 := st1.keep b2
  have hz2 := b2.size
  try simp only [World.size_alloc] at hz2
  clear st1 b2
  have BB := st2.1
  go_wp2
  go_ret
  exact ⟨rfl, BB⟩

theorem l03Like_diff1 (p n k q m l : Int) (h : ChP p n k) (h' : ChP q m l) (hd : ¬ p = q) (w : World) :
    Calls Try.prog 120 #[.agg #[.int .i64 p, .int .i64 n, .int .i64 k], .agg #[.int .i64 q, .int .i64 m, .int .i64 l]] w fun e w' => e = .returned (.int .i64 2) ∧ Below w.heap.size w w' := by
  have H := Lib.hid h; clear h
  have H' := Lib.hid h'; clear h'
  have hdb : (p != q) = true := by rw [bne_iff_ne]; exact hd
  have st0 := St.start w
  replace st0 := (st0.alloc (.cells #[.int .i64 p, .int .i64 n, .int .i64 k] 29)).addBox _ [.int .i64 p, .int .i64 n, .int .i64 k] (Box.made _ _ _ _ (fun j v h => by simpa using h))
  replace st0 := (st0.alloc (.cells #[.int .i64 q, .int .i64 m, .int .i64 l] 29)).addBox _ [.int .i64 q, .int .i64 m, .int .i64 l] (Box.made _ _ _ _ (fun j v h => by simpa using h))
  simp only [World.size_alloc] at st0
  go_enter Try.func120, Try.ntmps120
  go_wp2_with fail
  refine (l03Is_dec p n k true (.inl ⟨H.out, rfl⟩) _).mono ?_
  rintro e w1 ⟨rfl, b1⟩
  have st1 := st0.keep b1
  have hz1 := b1.size
  try simp only [World.size_alloc] at hz1
  clear st0 b1
  obtain ⟨e0, e1, e2⟩ := (st1.box 0 (w.heap.size + 1, [.int .i64 q, .int .i64 m, .int .i64 l]) rfl).cell3
  go_wp2_with fail
  refine (l03Is_dec q m l true (.inl ⟨H'.out, rfl⟩) _).mono ?_
  rintro e w2 ⟨rfl, b2⟩
  clear e0 e1 e2
  have st2 := st1.keep b2
  have hz2 := b2.size
  try simp only [World.size_alloc] at hz2
  clear st1 b2
  have BB := st2.1
  obtain ⟨e0, e1, e2⟩ := (st2.box 0 (w.heap.size + 1, [.int .i64 q, .int .i64 m, .int .i64 l]) rfl).cell3
  obtain ⟨f0, f1, f2⟩ := (st2.box 1 (w.heap.size, [.int .i64 p, .int .i64 n, .int .i64 k]) rfl).cell3
  have ez := (st2.box 0 (w.heap.size + 1, [.int .i64 q, .int .i64 m, .int .i64 l]) rfl).2.2
  have fz := (st2.box 1 (w.heap.size, [.int .i64 p, .int .i64 n, .int .i64 k]) rfl).2.2
  dsimp only at ez fz
  clear st2
  go_wp2
  all_goals first
    | contradiction
    | (go_ret; exact ⟨rfl, by go_grown⟩)

theorem l03Like_diff2 (p n k m l : Int) (h : ChP p n k) (h' : ChP p m l) (hd2 : ¬ n = m) (w : World) :
    Calls Try.prog 120 #[.agg #[.int .i64 p, .int .i64 n, .int .i64 k], .agg #[.int .i64 p, .int .i64 m, .int .i64 l]] w fun e w' => e = .returned (.int .i64 2) ∧ Below w.heap.size w w' := by
  have H := Lib.hid h; clear h
  have H' := Lib.hid h'; clear h'
  have hdb : (n != m) = true := by rw [bne_iff_ne]; exact hd2
  have st0 := St.start w
  replace st0 := (st0.alloc (.cells #[.int .i64 p, .int .i64 n, .int .i64 k] 29)).addBox _ [.int .i64 p, .int .i64 n, .int .i64 k] (Box.made _ _ _ _ (fun j v h => by simpa using h))
  replace st0 := (st0.alloc (.cells #[.int .i64 p, .int .i64 m, .int .i64 l] 29)).addBox _ [.int .i64 p, .int .i64 m, .int .i64 l] (Box.made _ _ _ _ (fun j v h => by simpa using h))
  simp only [World.size_alloc] at st0
  go_enter Try.func120, Try.ntmps120
  go_wp2_with fail
  refine (l03Is_dec p n k true (.inl ⟨H.out, rfl⟩) _).mono ?_
  rintro e w1 ⟨rfl, b1⟩
  have st1 := st0.keep b1
  have hz1 := b1.size
  try simp only [World.size_alloc] at hz1
  clear st0 b1
  obtain ⟨e0, e1, e2⟩ := (st1.box 0 (w.heap.size + 1, [.int .i64 p, .int .i64 m, .int .i64 l]) rfl).cell3
  go_wp2_with fail
  refine (l03Is_dec p m l true (.inl ⟨H'.out, rfl⟩) _).mono ?_
  rintro e w2 ⟨rfl, b2⟩
  clear e0 e1 e2
  have st2 := st1.keep b2
  have hz2 := b2.size
  try simp only [World.size_alloc] at hz2
  clear st1 b2
  have BB := st2.1
  obtain ⟨e0, e1, e2⟩ := (st2.box 0 (w.heap.size + 1, [.int .i64 p, .int .i64 m, .int .i64 l]) rfl).cell3
  obtain ⟨f0, f1, f2⟩ := (st2.box 1 (w.heap.size, [.int .i64 p, .int .i64 n, .int .i64 k]) rfl).cell3
  have ez := (st2.box 0 (w.heap.size + 1, [.int .i64 p, .int .i64 m, .int .i64 l]) rfl).2.2
  have fz := (st2.box 1 (w.heap.size, [.int .i64 p, .int .i64 n, .int .i64 k]) rfl).2.2
  dsimp only at ez fz
  clear st2
  go_wp2
  all_goals first
    | contradiction
    | (go_ret; exact ⟨rfl, by go_grown⟩)

theorem l03Like_ok (p n k l : Int) (h : ChP p n k) (h' : ChP p n l)  (w : World) :
    Calls Try.prog 120 #[.agg #[.int .i64 p, .int .i64 n, .int .i64 k], .agg #[.int .i64 p, .int .i64 n, .int .i64 l]] w fun e w' => e = .returned (.int .i64 0) ∧ Below w.heap.size w w' := by
  have H := Lib.hid h; clear h
  have H' := Lib.hid h'; clear h'
  have st0 := St.start w
  replace st0 := (st0.alloc (.cells #[.int .i64 p, .int .i64 n, .int .i64 k] 29)).addBox _ [.int .i64 p, .int .i64 n, .int .i64 k] (Box.made _ _ _ _ (fun j v h => by simpa using h))
  replace st0 := (st0.alloc (.cells #[.int .i64 p, .int .i64 n, .int .i64 l] 29)).addBox _ [.int .i64 p, .int .i64 n, .int .i64 l] (Box.made _ _ _ _ (fun j v h => by simpa using h))
  simp only [World.size_alloc] at st0
  go_enter Try.func120, Try.ntmps120
  go_wp2_with fail
  refine (l03Is_dec p n k true (.inl ⟨H.out, rfl⟩) _).mono ?_
  rintro e w1 ⟨rfl, b1⟩
  have st1 := st0.keep b1
  have hz1 := b1.size
  try simp only [World.size_alloc] at hz1
  clear st0 b1
  obtain ⟨e0, e1, e2⟩ := (st1.box 0 (w.heap.size + 1, [.int .i64 p, .int .i64 n, .int .i64 l]) rfl).cell3
  go_wp2_with fail
  refine (l03Is_dec p n l true (.inl ⟨H'.out, rfl⟩) _).mono ?_
  rintro e w2 ⟨rfl, b2⟩
  clear e0 e1 e2
  have st2 := st1.keep b2
  have hz2 := b2.size
  try simp only [World.size_alloc] at hz2
  clear st1 b2
  have BB := st2.1
  obtain ⟨e0, e1, e2⟩ := (st2.box 0 (w.heap.size + 1, [.int .i64 p, .int .i64 n, .int .i64 l]) rfl).cell3
  obtain ⟨f0, f1, f2⟩ := (st2.box 1 (w.heap.size, [.int .i64 p, .int .i64 n, .int .i64 k]) rfl).cell3
  have ez := (st2.box 0 (w.heap.size + 1, [.int .i64 p, .int .i64 n, .int .i64 l]) rfl).2.2
  have fz := (st2.box 1 (w.heap.size, [.int .i64 p, .int .i64 n, .int .i64 k]) rfl).2.2
  dsimp only at ez fz
  clear st2
  go_wp2
  all_goals first
    | contradiction
    | (go_ret; exact ⟨rfl, by go_grown⟩)

theorem characterPairCode_any (p n k q m l c : Int) (h : pcC p n k q m l c) (w : World) :
    Calls Try.prog 122 #[.agg #[.int .i64 p, .int .i64 n, .int .i64 k], .agg #[.int .i64 q, .int .i64 m, .int .i64 l]] w fun e w' => e = .returned (.int .i64 c) ∧ Below w.heap.size w w' := by
  rcases h with ⟨rfl, h⟩ | ⟨rfl, h1, h2, h3⟩ | ⟨rfl, h1, h2, rfl, rfl⟩
  · by_cases h1 : ChP p n k
    · exact characterPairCode_bad2 p n k q m l h1 (fun h2 => h ⟨h1, h2⟩) w
    · exact characterPairCode_bad1 p n k q m l h1 w
  · by_cases e : p = q
    · subst e
      exact characterPairCode_diff2 p n k m l h1 h2 (fun e => h3 ⟨rfl, e⟩) w
    · exact characterPairCode_diff1 p n k q m l h1 h2 e w
  · exact characterPairCode_ok p n k l h1 h2 w
theorem l03Like_any (p n k q m l c : Int) (h : pcC p n k q m l c) (w : World) :
    Calls Try.prog 120 #[.agg #[.int .i64 p, .int .i64 n, .int .i64 k], .agg #[.int .i64 q, .int .i64 m, .int .i64 l]] w fun e w' => e = .returned (.int .i64 c) ∧ Below w.heap.size w w' := by
  rcases h with ⟨rfl, h⟩ | ⟨rfl, h1, h2, h3⟩ | ⟨rfl, h1, h2, rfl, rfl⟩
  · by_cases h1 : ChP p n k
    · exact l03Like_bad2 p n k q m l h1 (fun h2 => h ⟨h1, h2⟩) w
    · exact l03Like_bad1 p n k q m l h1 w
  · by_cases e : p = q
    · subst e
      exact l03Like_diff2 p n k m l h1 h2 (fun e => h3 ⟨rfl, e⟩) w
    · exact l03Like_diff1 p n k q m l h1 h2 e w
  · exact l03Like_ok p n k l h1 h2 w

theorem MultiplyCharacters_impl_bad (p n k q m l c : Int) (h : pcC p n k q m l c) (hc : c ≠ 0) (w : World) :
    Calls Try.prog 50 #[.agg #[.int .i64 p, .int .i64 n, .int .i64 k], .agg #[.int .i64 q, .int .i64 m, .int .i64 l]] w fun e w' => e = .returned (noC c) ∧ Below w.heap.size w w' := by
  have H := Lib.hid h; clear h
  have hcb : (c != 0) = true := by rw [bne_iff_ne]; exact hc
  have st0 := St.start w
  replace st0 := (st0.alloc (.cells #[.int .i64 p, .int .i64 n, .int .i64 k] 29)).addBox _ [.int .i64 p, .int .i64 n, .int .i64 k] (Box.made _ _ _ _ (fun j v h => by simpa using h))
  replace st0 := (st0.alloc (.cells #[.int .i64 q, .int .i64 m, .int .i64 l] 29)).addBox _ [.int .i64 q, .int .i64 m, .int .i64 l] (Box.made _ _ _ _ (fun j v h => by simpa using h))
  replace st0 := (st0.alloc (.cells #[.int .i64 0, .int .i64 0, .int .i64 0] 29)).addBox _ [.int .i64 0, .int .i64 0, .int .i64 0] (Box.made _ _ _ _ (fun j v h => by simpa using h))
  simp only [World.size_alloc] at st0
  go_enter Try.func50, Try.ntmps50
  go_wp2_with fail
  refine (characterPairCode_any p n k q m l c H.out _).mono ?_
  rintro e w1 ⟨rfl, b1⟩
  have st1 := st0.keep b1
  have hz1 := b1.size
  try simp only [World.size_alloc] at hz1
  clear st0 b1
  obtain ⟨d0, d1, d2⟩ := (st1.box 0 (w.heap.size + 1 + 1, [.int .i64 0, .int .i64 0, .int .i64 0]) rfl).cell3
  have dz := (st1.box 0 (w.heap.size + 1 + 1, [.int .i64 0, .int .i64 0, .int .i64 0]) rfl).2.2
  have BB := st1.1
  dsimp only at dz
  go_wp2
  refine bodyPost_ret (v := noC c) (by simp [results, Try.results50, go_sem, noC, d0, d1, d2]) rfl ?_
  exact ⟨rfl, by go_grown⟩
theorem MultiplyCharacters_impl_ok (p n k l : Nat) (hp : primeN p = true) (h1 : 1 ≤ n) (h2 : n ≤ 16) (hd : (p - 1) % n = 0) (hk : k < n) (hl : l < n) (w : World) :
    Calls Try.prog 50 #[.agg #[.int .i64 (p : Int), .int .i64 (n : Int), .int .i64 (k : Int)], .agg #[.int .i64 (p : Int), .int .i64 (n : Int), .int .i64 (l : Int)]] w fun e w' => e = .returned (.tuple #[.agg #[.int .i64 (p : Int), .int .i64 (n : Int), .int .i64 ((k + l) % n : Nat)], .int .i64 0]) ∧ Below w.heap.size w w' := by
  have H := Lib.hid (show pcC p n k p n l 0 from .inr (.inr ⟨rfl, ChP.mk hp h1 h2 hd hk, ChP.mk hp h1 h2 hd hl, rfl, rfl⟩))
  clear hp hd
  generalize hr : (k + l) % n = r
  have HR := Lib.hid hr; clear hr
  have st0 := St.start w
  replace st0 := (st0.alloc (.cells #[.int .i64 (p : Int), .int .i64 (n : Int), .int .i64 (k : Int)] 29)).addBox _ [.int .i64 (p : Int), .int .i64 (n : Int), .int .i64 (k : Int)] (Box.made _ _ _ _ (fun j v h => by simpa using h))
  replace st0 := (st0.alloc (.cells #[.int .i64 (p : Int), .int .i64 (n : Int), .int .i64 (l : Int)] 29)).addBox _ [.int .i64 (p : Int), .int .i64 (n : Int), .int .i64 (l : Int)] (Box.made _ _ _ _ (fun j v h => by simpa using h))
  replace st0 := (st0.alloc (.cells #[.int .i64 0, .int .i64 0, .int .i64 0] 29)).addBox _ [.int .i64 0, .int .i64 0, .int .i64 0] (Box.made _ _ _ _ (fun j v h => by simpa using h))
  simp only [World.size_alloc] at st0
  go_enter Try.func50, Try.ntmps50
  go_wp2_with fail
  refine (characterPairCode_any p n k p n l 0 H.out _).mono ?_
  rintro e w1 ⟨rfl, b1⟩
  have st1 := st0.keep b1
  have hz1 := b1.size
  try simp only [World.size_alloc] at hz1
  clear st0 b1
  obtain ⟨e0, e1, e2⟩ := (st1.box 1 (w.heap.size + 1, [.int .i64 (p : Int), .int .i64 (n : Int), .int .i64 (l : Int)]) rfl).cell3
  obtain ⟨f0, f1, f2⟩ := (st1.box 2 (w.heap.size, [.int .i64 (p : Int), .int .i64 (n : Int), .int .i64 (k : Int)]) rfl).cell3
  go_wp2_with fail
  refine (characterProduct_any p n k p n l h1 h2 hk (by omega) _).mono ?_
  rintro e w2 ⟨rfl, b2⟩
  clear e0 e1 e2 f0 f1 f2
  have st2 := st1.keep b2
  have hz2 := b2.size
  try simp only [World.size_alloc] at hz2
  clear st1 b2
  obtain ⟨d0, d1, d2⟩ := (st2.box 0 (w.heap.size + 1 + 1, [.int .i64 0, .int .i64 0, .int .i64 0]) rfl).cell3
  have dz := (st2.box 0 (w.heap.size + 1 + 1, [.int .i64 0, .int .i64 0, .int .i64 0]) rfl).2.2
  have BB := st2.1
  dsimp only at dz
  rw [HR.out]
  go_wp2
  refine bodyPost_ret (v := .tuple #[.agg #[.int .i64 (p : Int), .int .i64 (n : Int), .int .i64 (r : Int)], .int .i64 0]) (by simp [results, Try.results50, go_sem, d0, d1, d2]) rfl ?_
  exact ⟨rfl, by go_grown⟩

theorem MultiplyCharacters_spec_bad (p n k q m l c : Int) (h : pcC p n k q m l c) (hc : c ≠ 0) (w : World) :
    Calls Try.prog 51 #[.agg #[.int .i64 p, .int .i64 n, .int .i64 k], .agg #[.int .i64 q, .int .i64 m, .int .i64 l]] w fun e w' => e = .returned (noC c) ∧ Below w.heap.size w w' := by
  have H := Lib.hid h; clear h
  have hcb : (c != 0) = true := by rw [bne_iff_ne]; exact hc
  have st0 := St.start w
  replace st0 := (st0.alloc (.cells #[.int .i64 p, .int .i64 n, .int .i64 k] 29)).addBox _ [.int .i64 p, .int .i64 n, .int .i64 k] (Box.made _ _ _ _ (fun j v h => by simpa using h))
  replace st0 := (st0.alloc (.cells #[.int .i64 q, .int .i64 m, .int .i64 l] 29)).addBox _ [.int .i64 q, .int .i64 m, .int .i64 l] (Box.made _ _ _ _ (fun j v h => by simpa using h))
  replace st0 := (st0.alloc (.cells #[.int .i64 0, .int .i64 0, .int .i64 0] 29)).addBox _ [.int .i64 0, .int .i64 0, .int .i64 0] (Box.made _ _ _ _ (fun j v h => by simpa using h))
  simp only [World.size_alloc] at st0
  go_enter Try.func51, Try.ntmps51
  go_wp2_with fail
  refine (l03Like_any p n k q m l c H.out _).mono ?_
  rintro e w1 ⟨rfl, b1⟩
  have st1 := st0.keep b1
  have hz1 := b1.size
  try simp only [World.size_alloc] at hz1
  clear st0 b1
  obtain ⟨d0, d1, d2⟩ := (st1.box 0 (w.heap.size + 1 + 1, [.int .i64 0, .int .i64 0, .int .i64 0]) rfl).cell3
  have dz := (st1.box 0 (w.heap.size + 1 + 1, [.int .i64 0, .int .i64 0, .int .i64 0]) rfl).2.2
  have BB := st1.1
  dsimp only at dz
  go_wp2
  refine bodyPost_ret (v := noC c) (by simp [results, Try.results51, go_sem, noC, d0, d1, d2]) rfl ?_
  exact ⟨rfl, by go_grown⟩
theorem MultiplyCharacters_spec_ok (p n k l : Nat) (hp : primeN p = true) (h1 : 1 ≤ n) (h2 : n ≤ 16) (hd : (p - 1) % n = 0) (hk : k < n) (hl : l < n) (w : World) :
    Calls Try.prog 51 #[.agg #[.int .i64 (p : Int), .int .i64 (n : Int), .int .i64 (k : Int)], .agg #[.int .i64 (p : Int), .int .i64 (n : Int), .int .i64 (l : Int)]] w fun e w' => e = .returned (.tuple #[.agg #[.int .i64 (p : Int), .int .i64 (n : Int), .int .i64 ((k + l) % n : Nat)], .int .i64 0]) ∧ Below w.heap.size w w' := by
  have H := Lib.hid (show pcC p n k p n l 0 from .inr (.inr ⟨rfl, ChP.mk hp h1 h2 hd hk, ChP.mk hp h1 h2 hd hl, rfl, rfl⟩))
  clear hp hd
  generalize hr : (k + l) % n = r
  have HR := Lib.hid hr; clear hr
  have st0 := St.start w
  replace st0 := (st0.alloc (.cells #[.int .i64 (p : Int), .int .i64 (n : Int), .int .i64 (k : Int)] 29)).addBox _ [.int .i64 (p : Int), .int .i64 (n : Int), .int .i64 (k : Int)] (Box.made _ _ _ _ (fun j v h => by simpa using h))
  replace st0 := (st0.alloc (.cells #[.int .i64 (p : Int), .int .i64 (n : Int), .int .i64 (l : Int)] 29)).addBox _ [.int .i64 (p : Int), .int .i64 (n : Int), .int .i64 (l : Int)] (Box.made _ _ _ _ (fun j v h => by simpa using h))
  replace st0 := (st0.alloc (.cells #[.int .i64 0, .int .i64 0, .int .i64 0] 29)).addBox _ [.int .i64 0, .int .i64 0, .int .i64 0] (Box.made _ _ _ _ (fun j v h => by simpa using h))
  simp only [World.size_alloc] at st0
  go_enter Try.func51, Try.ntmps51
  go_wp2_with fail
  refine (l03Like_any p n k p n l 0 H.out _).mono ?_
  rintro e w1 ⟨rfl, b1⟩
  have st1 := st0.keep b1
  have hz1 := b1.size
  try simp only [World.size_alloc] at hz1
  clear st0 b1
  obtain ⟨e0, e1, e2⟩ := (st1.box 1 (w.heap.size + 1, [.int .i64 (p : Int), .int .i64 (n : Int), .int .i64 (l : Int)]) rfl).cell3
  obtain ⟨f0, f1, f2⟩ := (st1.box 2 (w.heap.size, [.int .i64 (p : Int), .int .i64 (n : Int), .int .i64 (k : Int)]) rfl).cell3
  go_wp2_with fail
  refine (l03Times_any p n k p n l h1 h2 hk (by omega) _).mono ?_
  rintro e w2 ⟨rfl, b2⟩
  clear e0 e1 e2 f0 f1 f2
  have st2 := st1.keep b2
  have hz2 := b2.size
  try simp only [World.size_alloc] at hz2
  clear st1 b2
  obtain ⟨d0, d1, d2⟩ := (st2.box 0 (w.heap.size + 1 + 1, [.int .i64 0, .int .i64 0, .int .i64 0]) rfl).cell3
  have dz := (st2.box 0 (w.heap.size + 1 + 1, [.int .i64 0, .int .i64 0, .int .i64 0]) rfl).2.2
  have BB := st2.1
  dsimp only at dz
  rw [HR.out]
  go_wp2
  refine bodyPost_ret (v := .tuple #[.agg #[.int .i64 (p : Int), .int .i64 (n : Int), .int .i64 (r : Int)], .int .i64 0]) (by simp [results, Try.results51, go_sem, d0, d1, d2]) rfl ?_
  exact ⟨rfl, by go_grown⟩
end Go.Proofs.Ytloalhcloifgjaa
