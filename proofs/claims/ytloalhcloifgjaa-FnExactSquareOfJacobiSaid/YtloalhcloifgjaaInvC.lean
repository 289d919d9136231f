/- InverseCharacter, MultiplyCharacters; the error code of two characters. -/
import Derived.Test.YtloalhcloifgjaaChr2
namespace Go.Proofs.Ytloalhcloifgjaa
open Go.RowKit Go.ChangeShapes Go.Sort
set_option linter.unusedVariables false
set_option linter.unusedSimpArgs false

theorem Box.cell3 {w : World} {b : Nat} {v0 v1 v2 : Value} (h : Box w b [v0, v1, v2]) : w.cell? ⟨b, 0, none⟩ = some v0 ∧ w.cell? ⟨b, 1, none⟩ = some v1 ∧ w.cell? ⟨b, 2, none⟩ = some v2 :=
  ⟨h.2.1 0 v0 rfl, h.2.1 1 v1 rfl, h.2.1 2 v2 rfl⟩

theorem InverseCharacter_impl_bad (p n k : Int) (h : ¬ ChP p n k) (w : World) :
    Calls Try.prog 54 #[.agg #[.int .i64 p, .int .i64 n, .int .i64 k]] w fun e w' => e = .returned (noC 1) ∧ Below w.heap.size w w' := by
  have H := Lib.hid h; clear h
  have st0 := (((St.start w).alloc (.cells #[.int .i64 p, .int .i64 n, .int .i64 k] 29)).addBox w.heap.size [.int .i64 p, .int .i64 n, .int .i64 k] (Box.made _ _ _ _ (fun j v h => by simpa using h)))
  replace st0 := (st0.alloc (.cells #[.int .i64 0, .int .i64 0, .int .i64 0] 29)).addBox _ [.int .i64 0, .int .i64 0, .int .i64 0] (Box.made _ _ _ _ (fun j v h => by simpa using h))
  simp only [World.size_alloc] at st0
  go_enter Try.func54, Try.ntmps54
  go_wp2_with fail
  refine (IsCharacter_no p n k H.out _).mono ?_
  rintro e w1 ⟨rfl, b1⟩
  have st1 := st0.keep b1
  have hz1 := b1.size
  simp only [World.size_alloc] at hz1
  clear st0 b1
  obtain ⟨d0, d1, d2⟩ := (st1.box 0 (w.heap.size + 1, [.int .i64 0, .int .i64 0, .int .i64 0]) rfl).cell3
  have dz := (st1.box 0 (w.heap.size + 1, [.int .i64 0, .int .i64 0, .int .i64 0]) rfl).2.2
  have BB := st1.1
  dsimp only at dz
  go_wp2
  refine bodyPost_ret (v := noC 1) (by simp [results, Try.results54, go_sem, noC, d0, d1, d2]) rfl ?_
  exact ⟨rfl, by go_grown⟩

theorem InverseCharacter_impl_ok (p n k : Nat) (hp : primeN p = true) (h1 : 1 ≤ n) (h2 : n ≤ 16) (hd : (p - 1) % n = 0) (hk : k < n) (w : World) :
    Calls Try.prog 54 #[.agg #[.int .i64 (p : Int), .int .i64 (n : Int), .int .i64 (k : Int)]] w fun e w' => e = .returned (.tuple #[.agg #[.int .i64 (p : Int), .int .i64 (n : Int), .int .i64 ((n - k) % n : Nat)], .int .i64 0]) ∧ Below w.heap.size w w' := by
  have HP := Lib.hid hp
  have HD := Lib.hid hd
  clear hp hd
  generalize hr : (n - k) % n = r
  have HR := Lib.hid hr; clear hr
  have st0 := (((St.start w).alloc (.cells #[.int .i64 (p : Int), .int .i64 (n : Int), .int .i64 (k : Int)] 29)).addBox w.heap.size [.int .i64 (p : Int), .int .i64 (n : Int), .int .i64 (k : Int)] (Box.made _ _ _ _ (fun j v h => by simpa using h)))
  replace st0 := (st0.alloc (.cells #[.int .i64 0, .int .i64 0, .int .i64 0] 29)).addBox _ [.int .i64 0, .int .i64 0, .int .i64 0] (Box.made _ _ _ _ (fun j v h => by simpa using h))
  simp only [World.size_alloc] at st0
  go_enter Try.func54, Try.ntmps54
  go_wp2_with fail
  refine (IsCharacter_yes p n k HP.out h1 h2 HD.out hk _).mono ?_
  rintro e w1 ⟨rfl, b1⟩
  have st1 := st0.keep b1
  have hz1 := b1.size
  simp only [World.size_alloc] at hz1
  clear st0 b1
  obtain ⟨e0, e1, e2⟩ := (st1.box 1 (w.heap.size, [.int .i64 (p : Int), .int .i64 (n : Int), .int .i64 (k : Int)]) rfl).cell3
  go_wp2_with fail
  refine (characterInverse_any p n k h1 h2 hk _).mono ?_
  rintro e w2 ⟨rfl, b2⟩
  have st2 := st1.keep b2
  have hz2 := b2.size
  clear st1 b2 e0 e1 e2
  obtain ⟨d0, d1, d2⟩ := (st2.box 0 (w.heap.size + 1, [.int .i64 0, .int .i64 0, .int .i64 0]) rfl).cell3
  have dz := (st2.box 0 (w.heap.size + 1, [.int .i64 0, .int .i64 0, .int .i64 0]) rfl).2.2
  have BB := st2.1
  dsimp only at dz
  rw [HR.out]
  go_wp2
  refine bodyPost_ret (v := .tuple #[.agg #[.int .i64 (p : Int), .int .i64 (n : Int), .int .i64 (r : Int)], .int .i64 0]) (by simp [results, Try.results54, go_sem, d0, d1, d2]) rfl ?_
  exact ⟨rfl, by go_grown⟩

/-- The error code of two characters. -/
def pcC (p n k q m l c : Int) : Prop := (c = 1 ∧ ¬ (ChP p n k ∧ ChP q m l)) ∨ (c = 2 ∧ ChP p n k ∧ ChP q m l ∧ ¬ (p = q ∧ n = m)) ∨ (c = 0 ∧ ChP p n k ∧ ChP q m l ∧ p = q ∧ n = m)
theorem pcC_ex (p n k q m l : Int) : ∃ c, pcC p n k q m l c := by
  by_cases h1 : ChP p n k ∧ ChP q m l
  · by_cases h2 : p = q ∧ n = m
    · exact ⟨0, .inr (.inr ⟨rfl, h1.1, h1.2, h2⟩)⟩
    · exact ⟨2, .inr (.inl ⟨rfl, h1.1, h1.2, h2⟩)⟩
  · exact ⟨1, .inl ⟨rfl, h1⟩⟩
end Go.Proofs.Ytloalhcloifgjaa
