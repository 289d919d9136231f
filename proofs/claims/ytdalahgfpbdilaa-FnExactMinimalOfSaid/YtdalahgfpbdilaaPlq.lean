/- Roots as arrays and as numbers: the same polynomials. -/
import Derived.Test.YtdalahgfpbdilaaPlp
import Derived.Test.YtdalahgfpbdilaaPls
namespace Go.Proofs.Ytdalahgfpbdilaa
open Go.RowKit Go.ChangeShapes Go.Sort
set_option linter.unusedVariables false
set_option linter.unusedSimpArgs false

theorem prod_imA (n L : Nat) (f : Nat → Int) (k : Nat) (G : Nat → Int) : prodZ n (phiN n) G (imA n L f k) = prodZ n (phiN n) G (im n L f k) :=
  pz_congr (fun _ _ => rfl) (fun j hj => by unfold imA cut; rw [if_pos hj])
theorem nxt_imA (n L : Nat) (f : Nat → Int) (k m : Nat) (G : Nat → Nat → Int) : nxt n G (imA n L f k) m = nxt n G (im n L f k) m := by
  funext j
  unfold nxt
  rw [prod_imA]
theorem plZ_imA (n L : Nat) (f : Nat → Int) (ix : Nat → Nat) : ∀ i, plZ n (fun k => imA n L f (ix k)) i = plZ n (fun k => im n L f (ix k)) i
  | 0 => rfl
  | i + 1 => by
    show nxt n (plZ n (fun k => imA n L f (ix k)) i) (imA n L f (ix i)) (i + 1) = nxt n (plZ n (fun k => im n L f (ix k)) i) (im n L f (ix i)) (i + 1)
    rw [plZ_imA n L f ix i, nxt_imA]
theorem plOk_imA (n L : Nat) (f : Nat → Int) (ix : Nat → Nat) (t : Nat) : plOk n (fun k => imA n L f (ix k)) t ↔ plOk n (fun k => im n L f (ix k)) t := by
  unfold plOk stOk nxOk
  simp only [plZ_imA, prod_imA]
theorem polynomialWithRoots_ok (n : Nat) (h1 : 1 ≤ n) (h2 : n ≤ 16) (w : World) {base g cap t L : Nat} {f : Nat → Int} (ix : Nat → Nat) (ht : t ≤ 12) (hf : Within f L 1000000000) (hL : L ≤ 12) (hk : plOk n (fun k => im n L f (ix k)) t) (hR : RowE w base 101 12 g cap t (fun k => arrL (imA n L f (ix k)))) :
    Calls Try.prog 126 #[.int .i64 (n : Int), .slice (some ⟨g, 0, none⟩) t cap] w fun e w' => ∃ a' k', e = .returned (.tuple #[.slice a' (t + 1) k', .int .i64 0]) ∧ Sl true w' w.heap.size w'.heap.size (.slice a' (t + 1) k') (t + 1) (fun k => plZ n (fun k => im n L f (ix k)) t k 0) ∧ Below w.heap.size w w' := by
  refine (polynomialWithRoots_any n h1 h2 w (A := fun k => imA n L f (ix k)) ht hR (fun k _ => imA_big (by omega) h1 hf hL _) (fun k _ j h3 _ => imA_far _ j h3)).mono ?_
  rintro e w' ⟨⟨_, a, k, rfl, s⟩ | ⟨hno, rfl⟩, b⟩
  · rw [plZ_imA] at s
    exact ⟨a, k, rfl, s, b⟩
  · exact absurd ((plOk_imA n L f ix t).2 hk) hno
theorem polynomialWithRoots_big (n : Nat) (h1 : 1 ≤ n) (h2 : n ≤ 16) (w : World) {base g cap t L : Nat} {f : Nat → Int} (ix : Nat → Nat) (ht : t ≤ 12) (hf : Within f L 1000000000) (hL : L ≤ 12) (hk : ¬ plOk n (fun k => im n L f (ix k)) t) (hR : RowE w base 101 12 g cap t (fun k => arrL (imA n L f (ix k)))) :
    Calls Try.prog 126 #[.int .i64 (n : Int), .slice (some ⟨g, 0, none⟩) t cap] w fun e w' => e = .returned (.tuple #[.slice none 0 0, .int .i64 3]) ∧ Below w.heap.size w w' := by
  refine (polynomialWithRoots_any n h1 h2 w (A := fun k => imA n L f (ix k)) ht hR (fun k _ => imA_big (by omega) h1 hf hL _) (fun k _ j h3 _ => imA_far _ j h3)).mono ?_
  rintro e w' ⟨⟨hok, a, k, rfl, s⟩ | ⟨_, rfl⟩, b⟩
  · exact absurd ((plOk_imA n L f ix t).1 hok) hk
  · exact ⟨rfl, b⟩
end Go.Proofs.Ytdalahgfpbdilaa
