/- Drawn arguments of chapter 3 that are one or two characters. Drawn arguments of chapter 3 that are whole numbers. The drawn table of SumWith. What the property laws call: big, likeInts, cyclos5, cyclo9; the code's bytes. -/
import Derived.Test.YtdalahgfpbdilaaDr3b
import Derived.RegionTactic
import Derived.BigRegion
import Derived.Test.YtdalahgfpbdilaaDr3
import Derived.Test.YtdalahgfpbdilaaCopy
import Derived.Test.YtdalahgfpbdilaaDraw
namespace Go.Proofs.Ytdalahgfpbdilaa
set_option linter.unusedVariables false
set_option linter.unusedSimpArgs false
section
open Go.RowKit Go.ChangeShapes Go.Sort
set_option linter.unusedVariables false
set_option linter.unusedSimpArgs false
/-- One character, or what is none. -/
def DrK (w : World) (e : Ending) (w' : World) : Prop :=
  ∃ x y z : Int, e = .returned (.agg #[.int .i64 x, .int .i64 y, .int .i64 z]) ∧ inR x ∧ inR y ∧ inR z ∧ Below w.heap.size w w'
section
variable {B : Nat} {p : Option Addr} {n q : Nat}
set_option maxRecDepth 100000 in
set_option maxHeartbeats 1000000 in
theorem DrawInverseCharacter_any (w : World) (hb : Bytes w B p n) (hB : B ≤ w.heap.size) :
    Calls Try.prog 68 #[.slice p n q] w (DrK w) := by
  have hb0 := hb.below ((Below.refl w.heap.size w).alloc (Nat.le_refl _) (.cells #[.int .i64 0, .int .i64 0, .int .i64 0] 38))
  have bx0 := Box.made w #[.int .i64 0, .int .i64 0, .int .i64 0] 38 [.int .i64 0, .int .i64 0, .int .i64 0] (fun j v h => by simpa using h)
  clear hb
  go_enter Try.func68, Try.ntmps68
  go_wp2_with fail
  refine (l01From_any B p n q _ hb0 (by simp; omega)).mono ?_
  rintro e w1 ⟨rfl, hs1, hb1, b1⟩
  have hz1 := b1.size
  simp only [World.size_alloc] at hz1 hs1
  have bx1 := bx0.keep b1
  have B1 := ((Below.refl w.heap.size w).alloc (Nat.le_refl _) (.cells #[.int .i64 0, .int .i64 0, .int .i64 0] 38)).trans (b1.mono (by simp))
  clear hb0 bx0 b1
  go_wp2_with fail
  refine (l03Spoil_any _ hs1 hb1 (by omega)).mono ?_
  rintro e w2 ⟨x, y, z, rfl, hx, hy, hz, hs2, f2⟩
  have hz2 := f2.size
  have bx2 := bx1.keepF f2 (.inl (by omega))
  have B2 := B1.trans (f2.below (B := w.heap.size) (by omega) (by omega))
  clear hs1 hb1 bx1 B1 hs2 f2
  obtain ⟨c0, c1, c2⟩ := bx2.cell3
  have cz := bx2.2.2
  go_wp2
  refine bodyPost_ret (v := .agg #[.int .i64 x, .int .i64 y, .int .i64 z]) (by simp [results, Try.results68, go_sem, c0, c1, c2]) rfl ?_
  exact ⟨x, y, z, rfl, hx, hy, hz, ((B2.setCell (Nat.le_refl _) _).setCell (Nat.le_refl _) _).setCell (Nat.le_refl _) _⟩

set_option maxRecDepth 100000 in
set_option maxHeartbeats 1000000 in
theorem DrawExactOrder_any (w : World) (hb : Bytes w B p n) (hB : B ≤ w.heap.size) :
    Calls Try.prog 52 #[.slice p n q] w (DrK w) := by
  have hb0 := hb.below ((Below.refl w.heap.size w).alloc (Nat.le_refl _) (.cells #[.int .i64 0, .int .i64 0, .int .i64 0] 38))
  have bx0 := Box.made w #[.int .i64 0, .int .i64 0, .int .i64 0] 38 [.int .i64 0, .int .i64 0, .int .i64 0] (fun j v h => by simpa using h)
  clear hb
  go_enter Try.func52, Try.ntmps52
  go_wp2_with fail
  refine (l01From_any B p n q _ hb0 (by simp; omega)).mono ?_
  rintro e w1 ⟨rfl, hs1, hb1, b1⟩
  have hz1 := b1.size
  simp only [World.size_alloc] at hz1 hs1
  have bx1 := bx0.keep b1
  have B1 := ((Below.refl w.heap.size w).alloc (Nat.le_refl _) (.cells #[.int .i64 0, .int .i64 0, .int .i64 0] 38)).trans (b1.mono (by simp))
  clear hb0 bx0 b1
  go_wp2_with fail
  refine (l03Spoil_any _ hs1 hb1 (by omega)).mono ?_
  rintro e w2 ⟨x, y, z, rfl, hx, hy, hz, hs2, f2⟩
  have hz2 := f2.size
  have bx2 := bx1.keepF f2 (.inl (by omega))
  have B2 := B1.trans (f2.below (B := w.heap.size) (by omega) (by omega))
  clear hs1 hb1 bx1 B1 hs2 f2
  obtain ⟨c0, c1, c2⟩ := bx2.cell3
  have cz := bx2.2.2
  go_wp2
  refine bodyPost_ret (v := .agg #[.int .i64 x, .int .i64 y, .int .i64 z]) (by simp [results, Try.results52, go_sem, c0, c1, c2]) rfl ?_
  exact ⟨x, y, z, rfl, hx, hy, hz, ((B2.setCell (Nat.le_refl _) _).setCell (Nat.le_refl _) _).setCell (Nat.le_refl _) _⟩

set_option maxRecDepth 100000 in
set_option maxHeartbeats 1000000 in
theorem DrawSumOfCharacter_any (w : World) (hb : Bytes w B p n) (hB : B ≤ w.heap.size) :
    Calls Try.prog 66 #[.slice p n q] w (DrK w) := by
  have hb0 := hb.below ((Below.refl w.heap.size w).alloc (Nat.le_refl _) (.cells #[.int .i64 0, .int .i64 0, .int .i64 0] 38))
  have bx0 := Box.made w #[.int .i64 0, .int .i64 0, .int .i64 0] 38 [.int .i64 0, .int .i64 0, .int .i64 0] (fun j v h => by simpa using h)
  clear hb
  go_enter Try.func66, Try.ntmps66
  go_wp2_with fail
  refine (l01From_any B p n q _ hb0 (by simp; omega)).mono ?_
  rintro e w1 ⟨rfl, hs1, hb1, b1⟩
  have hz1 := b1.size
  simp only [World.size_alloc] at hz1 hs1
  have bx1 := bx0.keep b1
  have B1 := ((Below.refl w.heap.size w).alloc (Nat.le_refl _) (.cells #[.int .i64 0, .int .i64 0, .int .i64 0] 38)).trans (b1.mono (by simp))
  clear hb0 bx0 b1
  go_wp2_with fail
  refine (l03Spoil_any _ hs1 hb1 (by omega)).mono ?_
  rintro e w2 ⟨x, y, z, rfl, hx, hy, hz, hs2, f2⟩
  have hz2 := f2.size
  have bx2 := bx1.keepF f2 (.inl (by omega))
  have B2 := B1.trans (f2.below (B := w.heap.size) (by omega) (by omega))
  clear hs1 hb1 bx1 B1 hs2 f2
  obtain ⟨c0, c1, c2⟩ := bx2.cell3
  have cz := bx2.2.2
  go_wp2
  refine bodyPost_ret (v := .agg #[.int .i64 x, .int .i64 y, .int .i64 z]) (by simp [results, Try.results66, go_sem, c0, c1, c2]) rfl ?_
  exact ⟨x, y, z, rfl, hx, hy, hz, ((B2.setCell (Nat.le_refl _) _).setCell (Nat.le_refl _) _).setCell (Nat.le_refl _) _⟩

set_option maxRecDepth 100000 in
set_option maxHeartbeats 1000000 in
theorem DrawExponentsOf_any (w : World) (hb : Bytes w B p n) (hB : B ≤ w.heap.size) :
    Calls Try.prog 48 #[.slice p n q] w (DrK w) := by
  have hb0 := hb.below ((Below.refl w.heap.size w).alloc (Nat.le_refl _) (.cells #[.int .i64 0, .int .i64 0, .int .i64 0] 38))
  have bx0 := Box.made w #[.int .i64 0, .int .i64 0, .int .i64 0] 38 [.int .i64 0, .int .i64 0, .int .i64 0] (fun j v h => by simpa using h)
  clear hb
  go_enter Try.func48, Try.ntmps48
  go_wp2_with fail
  refine (l01From_any B p n q _ hb0 (by simp; omega)).mono ?_
  rintro e w1 ⟨rfl, hs1, hb1, b1⟩
  have hz1 := b1.size
  simp only [World.size_alloc] at hz1 hs1
  have bx1 := bx0.keep b1
  have B1 := ((Below.refl w.heap.size w).alloc (Nat.le_refl _) (.cells #[.int .i64 0, .int .i64 0, .int .i64 0] 38)).trans (b1.mono (by simp))
  clear hb0 bx0 b1
  go_wp2_with fail
  refine (l03Spoil_any _ hs1 hb1 (by omega)).mono ?_
  rintro e w2 ⟨x, y, z, rfl, hx, hy, hz, hs2, f2⟩
  have hz2 := f2.size
  have bx2 := bx1.keepF f2 (.inl (by omega))
  have B2 := B1.trans (f2.below (B := w.heap.size) (by omega) (by omega))
  clear hs1 hb1 bx1 B1 hs2 f2
  obtain ⟨c0, c1, c2⟩ := bx2.cell3
  have cz := bx2.2.2
  go_wp2
  refine bodyPost_ret (v := .agg #[.int .i64 x, .int .i64 y, .int .i64 z]) (by simp [results, Try.results48, go_sem, c0, c1, c2]) rfl ?_
  exact ⟨x, y, z, rfl, hx, hy, hz, ((B2.setCell (Nat.le_refl _) _).setCell (Nat.le_refl _) _).setCell (Nat.le_refl _) _⟩

set_option maxRecDepth 100000 in
set_option maxHeartbeats 1000000 in
theorem DrawKernelOf_any (w : World) (hb : Bytes w B p n) (hB : B ≤ w.heap.size) :
    Calls Try.prog 50 #[.slice p n q] w (DrK w) := by
  have hb0 := hb.below ((Below.refl w.heap.size w).alloc (Nat.le_refl _) (.cells #[.int .i64 0, .int .i64 0, .int .i64 0] 38))
  have bx0 := Box.made w #[.int .i64 0, .int .i64 0, .int .i64 0] 38 [.int .i64 0, .int .i64 0, .int .i64 0] (fun j v h => by simpa using h)
  clear hb
  go_enter Try.func50, Try.ntmps50
  go_wp2_with fail
  refine (l01From_any B p n q _ hb0 (by simp; omega)).mono ?_
  rintro e w1 ⟨rfl, hs1, hb1, b1⟩
  have hz1 := b1.size
  simp only [World.size_alloc] at hz1 hs1
  have bx1 := bx0.keep b1
  have B1 := ((Below.refl w.heap.size w).alloc (Nat.le_refl _) (.cells #[.int .i64 0, .int .i64 0, .int .i64 0] 38)).trans (b1.mono (by simp))
  clear hb0 bx0 b1
  go_wp2_with fail
  refine (l03Spoil_any _ hs1 hb1 (by omega)).mono ?_
  rintro e w2 ⟨x, y, z, rfl, hx, hy, hz, hs2, f2⟩
  have hz2 := f2.size
  have bx2 := bx1.keepF f2 (.inl (by omega))
  have B2 := B1.trans (f2.below (B := w.heap.size) (by omega) (by omega))
  clear hs1 hb1 bx1 B1 hs2 f2
  obtain ⟨c0, c1, c2⟩ := bx2.cell3
  have cz := bx2.2.2
  go_wp2
  refine bodyPost_ret (v := .agg #[.int .i64 x, .int .i64 y, .int .i64 z]) (by simp [results, Try.results50, go_sem, c0, c1, c2]) rfl ?_
  exact ⟨x, y, z, rfl, hx, hy, hz, ((B2.setCell (Nat.le_refl _) _).setCell (Nat.le_refl _) _).setCell (Nat.le_refl _) _⟩

set_option maxRecDepth 100000 in
set_option maxHeartbeats 1000000 in
theorem DrawIsEvenCharacter_any (w : World) (hb : Bytes w B p n) (hB : B ≤ w.heap.size) :
    Calls Try.prog 70 #[.slice p n q] w (DrK w) := by
  have hb0 := hb.below ((Below.refl w.heap.size w).alloc (Nat.le_refl _) (.cells #[.int .i64 0, .int .i64 0, .int .i64 0] 38))
  have bx0 := Box.made w #[.int .i64 0, .int .i64 0, .int .i64 0] 38 [.int .i64 0, .int .i64 0, .int .i64 0] (fun j v h => by simpa using h)
  clear hb
  go_enter Try.func70, Try.ntmps70
  go_wp2_with fail
  refine (l01From_any B p n q _ hb0 (by simp; omega)).mono ?_
  rintro e w1 ⟨rfl, hs1, hb1, b1⟩
  have hz1 := b1.size
  simp only [World.size_alloc] at hz1 hs1
  have bx1 := bx0.keep b1
  have B1 := ((Below.refl w.heap.size w).alloc (Nat.le_refl _) (.cells #[.int .i64 0, .int .i64 0, .int .i64 0] 38)).trans (b1.mono (by simp))
  clear hb0 bx0 b1
  go_wp2_with fail
  refine (l03Spoil_any _ hs1 hb1 (by omega)).mono ?_
  rintro e w2 ⟨x, y, z, rfl, hx, hy, hz, hs2, f2⟩
  have hz2 := f2.size
  have bx2 := bx1.keepF f2 (.inl (by omega))
  have B2 := B1.trans (f2.below (B := w.heap.size) (by omega) (by omega))
  clear hs1 hb1 bx1 B1 hs2 f2
  obtain ⟨c0, c1, c2⟩ := bx2.cell3
  have cz := bx2.2.2
  go_wp2
  refine bodyPost_ret (v := .agg #[.int .i64 x, .int .i64 y, .int .i64 z]) (by simp [results, Try.results70, go_sem, c0, c1, c2]) rfl ?_
  exact ⟨x, y, z, rfl, hx, hy, hz, ((B2.setCell (Nat.le_refl _) _).setCell (Nat.le_refl _) _).setCell (Nat.le_refl _) _⟩

set_option maxRecDepth 100000 in
set_option maxHeartbeats 2000000 in
theorem DrawMultiplyCharacters_any (w : World) (hb : Bytes w B p n) (hB : B ≤ w.heap.size) :
    Calls Try.prog 23 #[.slice p n q] w (DrHH w) := by
  have B0 := ((Below.refl w.heap.size w).alloc (Nat.le_refl _) (.cells #[.int .i64 0, .int .i64 0, .int .i64 0] 38)).alloc (by simp) (.cells #[.int .i64 0, .int .i64 0, .int .i64 0] 38)
  have st0 := (((St.start w).alloc (.cells #[.int .i64 0, .int .i64 0, .int .i64 0] 38)).addBox _ [.int .i64 0, .int .i64 0, .int .i64 0] (Box.made _ _ _ _ (fun j v h => by simpa using h)))
  replace st0 := (st0.alloc (.cells #[.int .i64 0, .int .i64 0, .int .i64 0] 38)).addBox _ [.int .i64 0, .int .i64 0, .int .i64 0] (Box.made _ _ _ _ (fun j v h => by simpa using h))
  simp only [World.size_alloc] at st0
  have hb0 := hb.below B0
  clear hb B0
  go_enter Try.func23, Try.ntmps23
  go_wp2_with fail
  refine (l03Two_any _ hb0 (by simp only [World.size_alloc]; omega)).mono ?_
  rintro e w1 ⟨x, y, z, x', y', z', rfl, hx, hy, hz, hx', hy', hz', b1⟩
  have hz1 := b1.size
  simp only [World.size_alloc] at hz1
  have st1 := st0.keep b1
  replace st1 := (st1.alloc (.cells #[.int .i64 x, .int .i64 y, .int .i64 z] 38)).addBox _ [.int .i64 x, .int .i64 y, .int .i64 z] (Box.made _ _ _ _ (fun j v h => by simpa using h))
  replace st1 := (st1.alloc (.cells #[.int .i64 x', .int .i64 y', .int .i64 z'] 38)).addBox _ [.int .i64 x', .int .i64 y', .int .i64 z'] (Box.made _ _ _ _ (fun j v h => by simpa using h))
  simp only [World.size_alloc] at st1
  obtain ⟨c0, c1, c2⟩ := (st1.box 1 (w1.heap.size, [.int .i64 x, .int .i64 y, .int .i64 z]) rfl).cell3
  obtain ⟨c3, c4, c5⟩ := (st1.box 0 (w1.heap.size + 1, [.int .i64 x', .int .i64 y', .int .i64 z']) rfl).cell3
  obtain ⟨k0, k1, k2⟩ := (st1.box 3 (w.heap.size, [.int .i64 0, .int .i64 0, .int .i64 0]) rfl).cell3
  obtain ⟨k3, k4, k5⟩ := (st1.box 2 (w.heap.size + 1, [.int .i64 0, .int .i64 0, .int .i64 0]) rfl).cell3
  have z1 := (st1.box 3 (w.heap.size, [.int .i64 0, .int .i64 0, .int .i64 0]) rfl).2.2
  have z2 := (st1.box 2 (w.heap.size + 1, [.int .i64 0, .int .i64 0, .int .i64 0]) rfl).2.2
  dsimp only at c0 c1 c2 c3 c4 c5 k0 k1 k2 k3 k4 k5 z1 z2
  have BB := st1.1
  clear st0 st1 hb0 b1
  go_wp2_with fail
  go_region
  all_goals
    go_wp2
    refine bodyPost_ret (v := .tuple #[.agg #[.int .i64 x, .int .i64 y, .int .i64 z], .agg #[.int .i64 x', .int .i64 y', .int .i64 z']]) (by simp [results, Try.results23, go_sem, k0, k1, k2, k3, k4, k5]) rfl ?_
    refine ⟨x, y, z, x', y', z', rfl, hx, hy, hz, hx', hy', hz', ?_⟩
    repeat (first | with_reducible exact BB | with_reducible refine Below.drew ?_ | with_reducible refine Below.setCell ?_ (by dsimp only; omega) _)

set_option maxRecDepth 100000 in
set_option maxHeartbeats 2000000 in
theorem DrawOrthogonalSum_any (w : World) (hb : Bytes w B p n) (hB : B ≤ w.heap.size) :
    Calls Try.prog 55 #[.slice p n q] w (DrHH w) := by
  have B0 := ((Below.refl w.heap.size w).alloc (Nat.le_refl _) (.cells #[.int .i64 0, .int .i64 0, .int .i64 0] 38)).alloc (by simp) (.cells #[.int .i64 0, .int .i64 0, .int .i64 0] 38)
  have st0 := (((St.start w).alloc (.cells #[.int .i64 0, .int .i64 0, .int .i64 0] 38)).addBox _ [.int .i64 0, .int .i64 0, .int .i64 0] (Box.made _ _ _ _ (fun j v h => by simpa using h)))
  replace st0 := (st0.alloc (.cells #[.int .i64 0, .int .i64 0, .int .i64 0] 38)).addBox _ [.int .i64 0, .int .i64 0, .int .i64 0] (Box.made _ _ _ _ (fun j v h => by simpa using h))
  simp only [World.size_alloc] at st0
  have hb0 := hb.below B0
  clear hb B0
  go_enter Try.func55, Try.ntmps55
  go_wp2_with fail
  refine (l03Two_any _ hb0 (by simp only [World.size_alloc]; omega)).mono ?_
  rintro e w1 ⟨x, y, z, x', y', z', rfl, hx, hy, hz, hx', hy', hz', b1⟩
  have hz1 := b1.size
  simp only [World.size_alloc] at hz1
  have st1 := st0.keep b1
  replace st1 := (st1.alloc (.cells #[.int .i64 x, .int .i64 y, .int .i64 z] 38)).addBox _ [.int .i64 x, .int .i64 y, .int .i64 z] (Box.made _ _ _ _ (fun j v h => by simpa using h))
  replace st1 := (st1.alloc (.cells #[.int .i64 x', .int .i64 y', .int .i64 z'] 38)).addBox _ [.int .i64 x', .int .i64 y', .int .i64 z'] (Box.made _ _ _ _ (fun j v h => by simpa using h))
  simp only [World.size_alloc] at st1
  obtain ⟨c0, c1, c2⟩ := (st1.box 1 (w1.heap.size, [.int .i64 x, .int .i64 y, .int .i64 z]) rfl).cell3
  obtain ⟨c3, c4, c5⟩ := (st1.box 0 (w1.heap.size + 1, [.int .i64 x', .int .i64 y', .int .i64 z']) rfl).cell3
  obtain ⟨k0, k1, k2⟩ := (st1.box 3 (w.heap.size, [.int .i64 0, .int .i64 0, .int .i64 0]) rfl).cell3
  obtain ⟨k3, k4, k5⟩ := (st1.box 2 (w.heap.size + 1, [.int .i64 0, .int .i64 0, .int .i64 0]) rfl).cell3
  have z1 := (st1.box 3 (w.heap.size, [.int .i64 0, .int .i64 0, .int .i64 0]) rfl).2.2
  have z2 := (st1.box 2 (w.heap.size + 1, [.int .i64 0, .int .i64 0, .int .i64 0]) rfl).2.2
  dsimp only at c0 c1 c2 c3 c4 c5 k0 k1 k2 k3 k4 k5 z1 z2
  have BB := st1.1
  clear st0 st1 hb0 b1
  go_wp2_with fail
  go_region
  all_goals
    go_wp2
    refine bodyPost_ret (v := .tuple #[.agg #[.int .i64 x, .int .i64 y, .int .i64 z], .agg #[.int .i64 x', .int .i64 y', .int .i64 z']]) (by simp [results, Try.results55, go_sem, k0, k1, k2, k3, k4, k5]) rfl ?_
    refine ⟨x, y, z, x', y', z', rfl, hx, hy, hz, hx', hy', hz', ?_⟩
    repeat (first | with_reducible exact BB | with_reducible refine Below.drew ?_ | with_reducible refine Below.setCell ?_ (by dsimp only; omega) _)

end
end

section
open Go.RowKit Go.ChangeShapes Go.Sort
set_option linter.unusedVariables false
set_option linter.unusedSimpArgs false
/-- One number, two numbers. -/
def DrI (w : World) (e : Ending) (w' : World) : Prop := ∃ r : Int, e = .returned (.int .i64 r) ∧ inR r ∧ Below w.heap.size w w'
def DrII (w : World) (e : Ending) (w' : World) : Prop := ∃ r s : Int, e = .returned (.tuple #[.int .i64 r, .int .i64 s]) ∧ inR r ∧ inR s ∧ Below w.heap.size w w'
theorem wrap64_inR (x : Int) : inR (wrap64 x) := by unfold inR wrap64; (try dsimp only); (try split); all_goals omega
section
variable {B : Nat} {p : Option Addr} {n q : Nat}
set_option maxRecDepth 100000 in
set_option maxHeartbeats 2000000 in
theorem DrawPrimitiveRoot_any (w : World) (hb : Bytes w B p n) (hB : B ≤ w.heap.size) :
    Calls Try.prog 43 #[.slice p n q] w (DrI w) := by
  have B0 := Below.refl w.heap.size w
  have hb0 := hb.below B0
  clear hb
  go_enter Try.func43, Try.ntmps43
  go_wp2_with fail
  refine (l01From_any B p n q _ hb0 (by (try simp only [World.size_alloc]); omega)).mono ?_
  rintro e w1 ⟨rfl, hs1, hb1, b1⟩
  have hz_w1 := b1.size
  try simp only [World.size_alloc] at hz_w1 hs1 
  have st1 := Ds.at hB (B0.trans (b1.mono (by (try simp only [World.size_alloc]); omega))) hs1 hb1 (by omega)
  have hbz := hs1.lt
  clear hb0 B0 b1 hs1 hb1 
  go_wp2_with fail
  refine (l03DrawPrime_any _ st1.src st1.bytes st1.low).mono ?_
  rintro e w2 ⟨P1, rfl, hP11, hP12, hs_w2, f_w2⟩
  have hz_w2 := f_w2.size
  try simp only [World.size_alloc] at hz_w2
  have st2 := st1.draw hs_w2 f_w2
  clear st1 hs_w2 f_w2
  go_wp2_with fail
  refine (l03DrawPrime_any _ st2.src st2.bytes st2.low).mono ?_
  rintro e w3 ⟨P2, rfl, hP21, hP22, hs_w3, f_w3⟩
  have hz_w3 := f_w3.size
  try simp only [World.size_alloc] at hz_w3
  have st3 := st2.draw hs_w3 f_w3
  clear st2 hs_w3 f_w3
  go_wp2_with fail
  refine (l01Near_any (61) _ st3.src st3.bytes st3.low (by omega) (by omega)).mono ?_
  rintro e w4 ⟨r, rfl, hr, hs_w4, _, f_w4⟩
  have hz_w4 := f_w4.size
  try simp only [World.size_alloc] at hz_w4
  have st4 := st3.draw hs_w4 f_w4
  unfold inR at hr
  clear st3 hs_w4 f_w4
  have hl := Sl.list (w4) [P1, P2, r] (by intro t ht; simp only [List.mem_cons, List.not_mem_nil, or_false] at ht; unfold inR; rcases ht with rfl | rfl | rfl <;> omega) (by simp [maxLen])
  replace st4 := st4.alloc (.cells ([P1, P2, r].map (Value.int .i64)).toArray 2)
  simp only [List.map_cons, List.map_nil, List.length_cons, List.length_nil, World.size_alloc] at hl st4
  have hall : ∀ t ∈ ([P1, P2, r] : List Int), (fun x : Int => -9223372036854775808 ≤ x ∧ x ≤ 9223372036854775807) t := by intro t ht; simp only [List.mem_cons, List.not_mem_nil, or_false] at ht; (try dsimp only); rcases ht with rfl | rfl | rfl <;> omega
  have HALL := Lib.hid hall
  clear hall
  go_wp2_with fail
  refine (l01Pick_any _ _ _ _ _ _ st4.src st4.bytes st4.low hl (.inr (by omega)) (by omega) (by omega)).mono ?_
  rintro e w5 ⟨i_w5, hi_w5, rfl, hs_w5, f_w5⟩
  have hz_w5 := f_w5.size
  try simp only [World.size_alloc] at hz_w5
  have st5 := st4.draw hs_w5 f_w5
  clear hl st4 hs_w5 f_w5
  have h_y : (fun x : Int => -9223372036854775808 ≤ x ∧ x ≤ 9223372036854775807) (([P1, P2, r] : List Int).getD i_w5 0) := by
    rw [List.getD_eq_getElem?_getD, List.getElem?_eq_getElem (by simpa using hi_w5)]
    exact HALL.out _ (List.getElem_mem _)
  generalize ([P1, P2, r] : List Int).getD i_w5 0 = y at *
  try dsimp only at h_y
  clear HALL hi_w5
  go_wp2
  go_ret
  exact ⟨y, rfl, by unfold inR; omega, st5.below (by omega)⟩

set_option maxRecDepth 100000 in
set_option maxHeartbeats 2000000 in
theorem DrawIndexOf_any (w : World) (hb : Bytes w B p n) (hB : B ≤ w.heap.size) :
    Calls Try.prog 37 #[.slice p n q] w (DrII w) := by
  have B0 := Below.refl w.heap.size w
  have hb0 := hb.below B0
  clear hb
  go_enter Try.func37, Try.ntmps37
  go_wp2_with fail
  refine (l01From_any B p n q _ hb0 (by (try simp only [World.size_alloc]); omega)).mono ?_
  rintro e w1 ⟨rfl, hs1, hb1, b1⟩
  have hz_w1 := b1.size
  try simp only [World.size_alloc] at hz_w1 hs1 
  have st1 := Ds.at hB (B0.trans (b1.mono (by (try simp only [World.size_alloc]); omega))) hs1 hb1 (by omega)
  have hbz := hs1.lt
  clear hb0 B0 b1 hs1 hb1 
  go_wp2_with fail
  refine (l03DrawPrime_any _ st1.src st1.bytes st1.low).mono ?_
  rintro e w2 ⟨P1, rfl, hP11, hP12, hs_w2, f_w2⟩
  have hz_w2 := f_w2.size
  try simp only [World.size_alloc] at hz_w2
  have st2 := st1.draw hs_w2 f_w2
  clear st1 hs_w2 f_w2
  go_wp2_with fail
  refine (l03DrawPrime_any _ st2.src st2.bytes st2.low).mono ?_
  rintro e w3 ⟨P2, rfl, hP21, hP22, hs_w3, f_w3⟩
  have hz_w3 := f_w3.size
  try simp only [World.size_alloc] at hz_w3
  have st3 := st2.draw hs_w3 f_w3
  clear st2 hs_w3 f_w3
  go_wp2_with fail
  refine (l03DrawPrime_any _ st3.src st3.bytes st3.low).mono ?_
  rintro e w4 ⟨P3, rfl, hP31, hP32, hs_w4, f_w4⟩
  have hz_w4 := f_w4.size
  try simp only [World.size_alloc] at hz_w4
  have st4 := st3.draw hs_w4 f_w4
  clear st3 hs_w4 f_w4
  have hl := Sl.list (w4) [P1, P2, P3, 9] (by intro t ht; simp only [List.mem_cons, List.not_mem_nil, or_false] at ht; unfold inR; rcases ht with rfl | rfl | rfl | rfl <;> omega) (by simp [maxLen])
  replace st4 := st4.alloc (.cells ([P1, P2, P3, 9].map (Value.int .i64)).toArray 2)
  simp only [List.map_cons, List.map_nil, List.length_cons, List.length_nil, World.size_alloc] at hl st4
  have hall : ∀ t ∈ ([P1, P2, P3, 9] : List Int), (fun x : Int => 3 ≤ x ∧ x ≤ 61) t := by intro t ht; simp only [List.mem_cons, List.not_mem_nil, or_false] at ht; (try dsimp only); rcases ht with rfl | rfl | rfl | rfl <;> omega
  have HALL := Lib.hid hall
  clear hall
  go_wp2_with fail
  refine (l01Pick_any _ _ _ _ _ _ st4.src st4.bytes st4.low hl (.inr (by omega)) (by omega) (by omega)).mono ?_
  rintro e w5 ⟨i_w5, hi_w5, rfl, hs_w5, f_w5⟩
  have hz_w5 := f_w5.size
  try simp only [World.size_alloc] at hz_w5
  have st5 := st4.draw hs_w5 f_w5
  clear hl st4 hs_w5 f_w5
  have h_y : (fun x : Int => 3 ≤ x ∧ x ≤ 61) (([P1, P2, P3, 9] : List Int).getD i_w5 0) := by
    rw [List.getD_eq_getElem?_getD, List.getElem?_eq_getElem (by simpa using hi_w5)]
    exact HALL.out _ (List.getElem_mem _)
  generalize ([P1, P2, P3, 9] : List Int).getD i_w5 0 = y at *
  try dsimp only at h_y
  clear HALL hi_w5
  go_wp2_with fail
  refine (l01Near_any (y - 2) _ st5.src st5.bytes st5.low (by omega) (by omega)).mono ?_
  rintro e w6 ⟨r, rfl, hr, hs_w6, _, f_w6⟩
  have hz_w6 := f_w6.size
  try simp only [World.size_alloc] at hz_w6
  have st6 := st5.draw hs_w6 f_w6
  unfold inR at hr
  clear st5 hs_w6 f_w6
  have STZ := Lib.hid st6
  clear st6
  go_wp2
  go_ret2
  exact ⟨_, _, rfl, by unfold inR; omega, wrap64_inR _, STZ.out.below (by omega)⟩

set_option maxRecDepth 100000 in
set_option maxHeartbeats 2000000 in
theorem DrawCharactersOf_any (w : World) (hb : Bytes w B p n) (hB : B ≤ w.heap.size) :
    Calls Try.prog 45 #[.slice p n q] w (DrII w) := by
  have B0 := Below.refl w.heap.size w
  have hb0 := hb.below B0
  clear hb
  go_enter Try.func45, Try.ntmps45
  go_wp2_with fail
  refine (l01From_any B p n q _ hb0 (by (try simp only [World.size_alloc]); omega)).mono ?_
  rintro e w1 ⟨rfl, hs1, hb1, b1⟩
  have hz_w1 := b1.size
  try simp only [World.size_alloc] at hz_w1 hs1 
  have st1 := Ds.at hB (B0.trans (b1.mono (by (try simp only [World.size_alloc]); omega))) hs1 hb1 (by omega)
  have hbz := hs1.lt
  clear hb0 B0 b1 hs1 hb1 
  go_wp2_with fail
  refine (l03DrawPrime_any _ st1.src st1.bytes st1.low).mono ?_
  rintro e w2 ⟨P1, rfl, hP11, hP12, hs_w2, f_w2⟩
  have hz_w2 := f_w2.size
  try simp only [World.size_alloc] at hz_w2
  have st2 := st1.draw hs_w2 f_w2
  clear st1 hs_w2 f_w2
  go_wp2_with fail
  refine (l01Next_any _ _ _ _ _ 8 _ st2.src st2.bytes st2.low (by omega) (by omega)).mono ?_
  rintro e w3 ⟨r, rfl, hr1, hr2, hs_w3, f_w3⟩
  have hz_w3 := f_w3.size
  try simp only [World.size_alloc] at hz_w3
  have st3 := st2.draw hs_w3 f_w3
  clear st2 hs_w3 f_w3
  by_cases h0 : r = 0
  · subst h0
    have hl := Sl.list (w3) [P1, 9, 67] (by intro t ht; simp only [List.mem_cons, List.not_mem_nil, or_false] at ht; unfold inR; rcases ht with rfl | rfl | rfl <;> omega) (by simp [maxLen])
    replace st3 := st3.alloc (.cells ([P1, 9, 67].map (Value.int .i64)).toArray 2)
    simp only [List.map_cons, List.map_nil, List.length_cons, List.length_nil, World.size_alloc] at hl st3
    have hall : ∀ t ∈ ([P1, 9, 67] : List Int), (fun x : Int => 3 ≤ x ∧ x ≤ 67) t := by intro t ht; simp only [List.mem_cons, List.not_mem_nil, or_false] at ht; (try dsimp only); rcases ht with rfl | rfl | rfl <;> omega
    have HALL := Lib.hid hall
    clear hall
    go_wp2_with fail
    refine (l01Pick_any _ _ _ _ _ _ st3.src st3.bytes st3.low hl (.inr (by omega)) (by omega) (by omega)).mono ?_
    rintro e w4 ⟨i_w4, hi_w4, rfl, hs_w4, f_w4⟩
    have hz_w4 := f_w4.size
    try simp only [World.size_alloc] at hz_w4
    have st4 := st3.draw hs_w4 f_w4
    clear hl st3 hs_w4 f_w4
    have h_y : (fun x : Int => 3 ≤ x ∧ x ≤ 67) (([P1, 9, 67] : List Int).getD i_w4 0) := by
      rw [List.getD_eq_getElem?_getD, List.getElem?_eq_getElem (by simpa using hi_w4)]
      exact HALL.out _ (List.getElem_mem _)
    generalize ([P1, 9, 67] : List Int).getD i_w4 0 = y at *
    try dsimp only at h_y
    clear HALL hi_w4
    go_wp2_with fail
    refine (l01Near_any (17) _ st4.src st4.bytes st4.low (by omega) (by omega)).mono ?_
    rintro e w5 ⟨t, rfl, ht, hs_w5, _, f_w5⟩
    have hz_w5 := f_w5.size
    try simp only [World.size_alloc] at hz_w5
    have st5 := st4.draw hs_w5 f_w5
    unfold inR at ht
    clear st4 hs_w5 f_w5
    have STZ := Lib.hid st5
    clear st5
    go_wp2
    go_ret2
    exact ⟨_, _, rfl, by unfold inR; omega, by unfold inR; omega, STZ.out.below (by omega)⟩
  · have e0 : (r == 0) = false := by simpa using h0
    go_wp2_with fail
    refine (l03DrawOrder_any P1 _ st3.src st3.bytes st3.low hP11 hP12).mono ?_
    rintro e w4 ⟨N, rfl, hN1, hN2, hs_w4, f_w4⟩
    have hz_w4 := f_w4.size
    try simp only [World.size_alloc] at hz_w4
    have st4 := st3.draw hs_w4 f_w4
    clear st3 hs_w4 f_w4
    have STZ := Lib.hid st4
    clear st4
    go_wp2
    go_ret2
    exact ⟨_, _, rfl, by unfold inR; omega, by unfold inR; omega, STZ.out.below (by omega)⟩

set_option maxRecDepth 100000 in
set_option maxHeartbeats 2000000 in
theorem DrawLegendreSymbol_any (w : World) (hb : Bytes w B p n) (hB : B ≤ w.heap.size) :
    Calls Try.prog 63 #[.slice p n q] w (DrII w) := by
  have B0 := Below.refl w.heap.size w
  have hb0 := hb.below B0
  clear hb
  go_enter Try.func63, Try.ntmps63
  go_wp2_with fail
  refine (l01From_any B p n q _ hb0 (by (try simp only [World.size_alloc]); omega)).mono ?_
  rintro e w1 ⟨rfl, hs1, hb1, b1⟩
  have hz_w1 := b1.size
  try simp only [World.size_alloc] at hz_w1 hs1 
  have st1 := Ds.at hB (B0.trans (b1.mono (by (try simp only [World.size_alloc]); omega))) hs1 hb1 (by omega)
  have hbz := hs1.lt
  clear hb0 B0 b1 hs1 hb1 
  go_wp2_with fail
  refine (l03DrawPrime_any _ st1.src st1.bytes st1.low).mono ?_
  rintro e w2 ⟨P1, rfl, hP11, hP12, hs_w2, f_w2⟩
  have hz_w2 := f_w2.size
  try simp only [World.size_alloc] at hz_w2
  have st2 := st1.draw hs_w2 f_w2
  clear st1 hs_w2 f_w2
  go_wp2_with fail
  refine (l03DrawPrime_any _ st2.src st2.bytes st2.low).mono ?_
  rintro e w3 ⟨P2, rfl, hP21, hP22, hs_w3, f_w3⟩
  have hz_w3 := f_w3.size
  try simp only [World.size_alloc] at hz_w3
  have st3 := st2.draw hs_w3 f_w3
  clear st2 hs_w3 f_w3
  go_wp2_with fail
  refine (l03DrawPrime_any _ st3.src st3.bytes st3.low).mono ?_
  rintro e w4 ⟨P3, rfl, hP31, hP32, hs_w4, f_w4⟩
  have hz_w4 := f_w4.size
  try simp only [World.size_alloc] at hz_w4
  have st4 := st3.draw hs_w4 f_w4
  clear st3 hs_w4 f_w4
  have hl := Sl.list (w4) [P1, P2, P3, 9] (by intro t ht; simp only [List.mem_cons, List.not_mem_nil, or_false] at ht; unfold inR; rcases ht with rfl | rfl | rfl | rfl <;> omega) (by simp [maxLen])
  replace st4 := st4.alloc (.cells ([P1, P2, P3, 9].map (Value.int .i64)).toArray 2)
  simp only [List.map_cons, List.map_nil, List.length_cons, List.length_nil, World.size_alloc] at hl st4
  have hall : ∀ t ∈ ([P1, P2, P3, 9] : List Int), (fun x : Int => 3 ≤ x ∧ x ≤ 61) t := by intro t ht; simp only [List.mem_cons, List.not_mem_nil, or_false] at ht; (try dsimp only); rcases ht with rfl | rfl | rfl | rfl <;> omega
  have HALL := Lib.hid hall
  clear hall
  go_wp2_with fail
  refine (l01Pick_any _ _ _ _ _ _ st4.src st4.bytes st4.low hl (.inr (by omega)) (by omega) (by omega)).mono ?_
  rintro e w5 ⟨i_w5, hi_w5, rfl, hs_w5, f_w5⟩
  have hz_w5 := f_w5.size
  try simp only [World.size_alloc] at hz_w5
  have st5 := st4.draw hs_w5 f_w5
  clear hl st4 hs_w5 f_w5
  have h_y : (fun x : Int => 3 ≤ x ∧ x ≤ 61) (([P1, P2, P3, 9] : List Int).getD i_w5 0) := by
    rw [List.getD_eq_getElem?_getD, List.getElem?_eq_getElem (by simpa using hi_w5)]
    exact HALL.out _ (List.getElem_mem _)
  generalize ([P1, P2, P3, 9] : List Int).getD i_w5 0 = y at *
  try dsimp only at h_y
  clear HALL hi_w5
  go_wp2_with fail
  refine (l01Next_any _ _ _ _ _ 61 _ st5.src st5.bytes st5.low (by omega) (by omega)).mono ?_
  rintro e w6 ⟨r, rfl, hr1, hr2, hs_w6, f_w6⟩
  have hz_w6 := f_w6.size
  try simp only [World.size_alloc] at hz_w6
  have st6 := st5.draw hs_w6 f_w6
  clear st5 hs_w6 f_w6
  go_wp2_with fail
  refine (l01DrawPart_any 1000 _ st6.src st6.bytes st6.low (by omega) (by omega)).mono ?_
  rintro e w7 ⟨v, rfl, hv1, hv2, hs_w7, _, f_w7⟩
  have hz_w7 := f_w7.size
  try simp only [World.size_alloc] at hz_w7
  have st7 := st6.draw hs_w7 f_w7
  clear st6 hs_w7 f_w7
  have hl := Sl.list (w7) [r, v, y, 1000001] (by intro t ht; simp only [List.mem_cons, List.not_mem_nil, or_false] at ht; unfold inR; rcases ht with rfl | rfl | rfl | rfl <;> omega) (by simp [maxLen])
  replace st7 := st7.alloc (.cells ([r, v, y, 1000001].map (Value.int .i64)).toArray 2)
  simp only [List.map_cons, List.map_nil, List.length_cons, List.length_nil, World.size_alloc] at hl st7
  have hall : ∀ t ∈ ([r, v, y, 1000001] : List Int), (fun x : Int => -1000 ≤ x ∧ x ≤ 1000001) t := by intro t ht; simp only [List.mem_cons, List.not_mem_nil, or_false] at ht; (try dsimp only); rcases ht with rfl | rfl | rfl | rfl <;> omega
  have HALL := Lib.hid hall
  clear hall
  go_wp2_with fail
  refine (l01Pick_any _ _ _ _ _ _ st7.src st7.bytes st7.low hl (.inr (by omega)) (by omega) (by omega)).mono ?_
  rintro e w8 ⟨i_w8, hi_w8, rfl, hs_w8, f_w8⟩
  have hz_w8 := f_w8.size
  try simp only [World.size_alloc] at hz_w8
  have st8 := st7.draw hs_w8 f_w8
  clear hl st7 hs_w8 f_w8
  have h_u : (fun x : Int => -1000 ≤ x ∧ x ≤ 1000001) (([r, v, y, 1000001] : List Int).getD i_w8 0) := by
    rw [List.getD_eq_getElem?_getD, List.getElem?_eq_getElem (by simpa using hi_w8)]
    exact HALL.out _ (List.getElem_mem _)
  generalize ([r, v, y, 1000001] : List Int).getD i_w8 0 = u at *
  try dsimp only at h_u
  clear HALL hi_w8
  have STZ := Lib.hid st8
  clear st8
  go_wp2
  go_ret2
  exact ⟨_, _, rfl, by unfold inR; omega, by unfold inR; omega, STZ.out.below (by omega)⟩
end
end

section
open Go.RowKit Go.ChangeShapes Go.Sort
set_option linter.unusedVariables false
set_option linter.unusedSimpArgs false
theorem Row.keepF {w w' : World} {base g cap n b : Nat} {f : Nat → Int} (h : Row w base g cap n f) (hf : Frame b (b + 1) w w') (hne : g ≠ b) : Row w' base g cap n f :=
  World.ownsRow.kept (row := some b) h ⟨hf.os, hf.tape, hf.output, hf.size, fun k hk hk' => hf.block k hk (by have : k ≠ b := fun e => hk' (by rw [e]); omega)⟩ (.inr (fun e => hne (Option.some.inj e)))
/-- A table and a character, or what is none. -/
def DrT (w : World) (e : Ending) (w' : World) : Prop :=
  ∃ (a : Option Addr) (N cap : Nat) (f : Nat → Int) (lo hi : Nat) (x y z : Int), e = .returned (.tuple #[.slice a N cap, .agg #[.int .i64 x, .int .i64 y, .int .i64 z]]) ∧ N ≤ 100 ∧ Sl false w' lo hi (.slice a N cap) N f ∧ w.heap.size ≤ lo ∧ inR x ∧ inR y ∧ inR z ∧ Below w.heap.size w w'
section
variable {B : Nat} {p : Option Addr} {n q : Nat}
set_option maxRecDepth 100000 in
set_option maxHeartbeats 4000000 in
theorem DrawSumWith_any (w : World) (hb : Bytes w B p n) (hB : B ≤ w.heap.size) :
    Calls Try.prog 59 #[.slice p n q] w (DrT w) := by
  have B0 := Below.refl w.heap.size w
  replace B0 := B0.alloc (Nat.le_refl _) (.cells #[.int .i64 0, .int .i64 0, .int .i64 0] 38)
  have bx0 := Box.made (w) #[.int .i64 0, .int .i64 0, .int .i64 0] 38 [.int .i64 0, .int .i64 0, .int .i64 0] (fun j v h => by simpa using h)
  have hb0 := hb.below B0
  clear hb
  go_enter Try.func59, Try.ntmps59
  go_wp2_with fail
  refine (l01From_any B p n q _ hb0 (by (try simp only [World.size_alloc]); omega)).mono ?_
  rintro e w1 ⟨rfl, hs1, hb1, b1⟩
  have hz_w1 := b1.size
  try simp only [World.size_alloc] at hz_w1 hs1 bx0
  have st1 := Ds.at hB (B0.trans (b1.mono (by (try simp only [World.size_alloc]); omega))) hs1 hb1 (by omega)
  have hbz := hs1.lt
  replace st1 := st1.addBox (w.heap.size) [.int .i64 0, .int .i64 0, .int .i64 0] (bx0.keep (by simpa only [World.size_alloc] using b1)) (by omega)
  clear hb0 B0 b1 hs1 hb1 bx0
  go_wp2_with fail
  refine (l03Draw_any _ st1.src st1.bytes st1.low).mono ?_
  rintro e w2 ⟨P_w2, N_w2, K_w2, rfl, hP1_w2, hP2_w2, hN1_w2, hN2_w2, hK1_w2, hK2_w2, hs_w2, f_w2⟩
  have hz_w2 := f_w2.size
  try simp only [World.size_alloc] at hz_w2
  have st2 := st1.draw hs_w2 f_w2
  clear st1 hs_w2 f_w2
  have row0 := Row.made w2 w2.heap.size (fun _ => 0) (Nat.le_refl _)
  replace st2 := st2.alloc (.cells #[] 2)
  have R0 := Lib.hid (row0.alloc (.cells #[.int .i64 1, .int .i64 9, .int .i64 1000000] 2))
  clear row0
  have hl := Sl.list ((w2.alloc (.cells #[] 2))) [1, 9, 1000000] (by intro t ht; simp only [List.mem_cons, List.not_mem_nil, or_false] at ht; unfold inR; rcases ht with rfl | rfl | rfl <;> omega) (by simp [maxLen])
  replace st2 := st2.alloc (.cells ([1, 9, 1000000].map (Value.int .i64)).toArray 2)
  simp only [List.map_cons, List.map_nil, List.length_cons, List.length_nil, World.size_alloc] at hl st2
  have hall : ∀ t ∈ ([1, 9, 1000000] : List Int), (fun x : Int => 0 ≤ x ∧ x ≤ 1000000000) t := by intro t ht; simp only [List.mem_cons, List.not_mem_nil, or_false] at ht; (try dsimp only); rcases ht with rfl | rfl | rfl <;> omega
  have HALL := Lib.hid hall
  clear hall
  go_wp2_with fail
  refine (l01Pick_any _ _ _ _ _ _ st2.src st2.bytes st2.low hl (.inr (by omega)) (by omega) (by omega)).mono ?_
  rintro e w3 ⟨i_w3, hi_w3, rfl, hs_w3, f_w3⟩
  have hz_w3 := f_w3.size
  try simp only [World.size_alloc] at hz_w3
  have R1 := Lib.hid (R0.out.keepF f_w3 (by show w2.heap.size ≠ _; omega))
  have st3 := st2.draw hs_w3 f_w3
  clear hl st2 hs_w3 f_w3
  have h_y : (fun x : Int => 0 ≤ x ∧ x ≤ 1000000000) (([1, 9, 1000000] : List Int).getD i_w3 0) := by
    rw [List.getD_eq_getElem?_getD, List.getElem?_eq_getElem (by simpa using hi_w3)]
    exact HALL.out _ (List.getElem_mem _)
  generalize ([1, 9, 1000000] : List Int).getD i_w3 0 = y at *
  try dsimp only at h_y
  clear HALL hi_w3
  clear R0
  replace st3 := st3.newBox [.int .i64 P_w2, .int .i64 N_w2, .int .i64 K_w2] 38
  replace R1 := Lib.hid (R1.out.alloc (.cells #[.int .i64 P_w2, .int .i64 N_w2, .int .i64 K_w2] 38))
  obtain ⟨P, rfl⟩ := Int.eq_ofNat_of_zero_le (show 0 ≤ P_w2 by omega)
  have ST := Lib.hid st3
  clear st3
  obtain ⟨c_c_0, c_c_1, c_c_2⟩ := (ST.out.box 0 (w3.heap.size, [.int .i64 (P : Int), .int .i64 N_w2, .int .i64 K_w2]) rfl).cell3
  have z_c := (ST.out.box 0 (w3.heap.size, [.int .i64 (P : Int), .int .i64 N_w2, .int .i64 K_w2]) rfl).2.2
  dsimp only at c_c_0 c_c_1 c_c_2 z_c
  go_wp2
  go_loopw [6, 8] (fun s6 s8 wr => ∃ (k g cap : Nat) (f : Nat → Int), k ≤ P ∧ s8 = .int .i64 k ∧ s6 = .slice (some ⟨g, 0, none⟩) k cap ∧ (∀ j, j < k → inR (f j)) ∧ Row wr w2.heap.size g cap k f ∧ (g = w2.heap.size ∨ w3.heap.size + 1 ≤ g) ∧ w3.heap.size + 1 ≤ wr.heap.size ∧ Ds (w.heap.size + 1) B p n q w wr [(w3.heap.size, [.int .i64 (P : Int), .int .i64 N_w2, .int .i64 K_w2]), (w.heap.size, [.int .i64 0, .int .i64 0, .int .i64 0])] []) (fun _ s8 _ => P - (intOf s8).toNat)
  case atStart => exact ⟨0, w2.heap.size, 0, fun _ => 0, Nat.zero_le _, rfl, rfl, fun j hj => absurd hj (Nat.not_lt_zero _), R1.out, .inl rfl, by simp, ST.out⟩
  case round =>
    clear c_c_0 c_c_1 c_c_2 z_c
    clear R1 ST
    obtain ⟨k, g, cap, f, hk, rfl, rfl, hf, hrow, hg, hzr, str⟩ := hrel
    have hgl := hrow.lt
    have HF := Lib.hid hf
    have HR := Lib.hid hrow
    have HS := Lib.hid str
    clear hf hrow
    obtain ⟨c_c_0, c_c_1, c_c_2⟩ := (HS.out.box 0 (w3.heap.size, [.int .i64 (P : Int), .int .i64 N_w2, .int .i64 K_w2]) rfl).cell3
    have z_c := (HS.out.box 0 (w3.heap.size, [.int .i64 (P : Int), .int .i64 N_w2, .int .i64 K_w2]) rfl).2.2
    dsimp only at c_c_0 c_c_1 c_c_2 z_c
    by_cases hlt : k < P
    case pos =>
      have hltI : (k : Int) < (P : Int) := by omega
      clear str
      go_wp2_with (first
        | (go_at_call 156; refine (l01DrawPart_any y _ HS.out.src HS.out.bytes HS.out.low h_y.1 h_y.2).mono ?_; rintro e w7 ⟨t0, rfl, ht1, ht2, hs7, _, f7⟩
           have hz7 := f7.size
           have R7 := Lib.hid (HR.out.keepF f7 (by omega))
           have S7 := Lib.hid (HS.out.draw hs7 f7)
           clear hs7 f7)
        | (at_builtin; refine wpList_push rfl (.tmp 23) (.tmp 27) rfl rfl w2.heap.size g cap k f rfl (R7.out.alloc _) w7.heap.size t0 rfl (heap_alloc_new w7 _) (by omega) ?_; intro gA kA wA rowA grA orA ltA
           have hzA := grA.size
           simp only [World.size_alloc] at hzA orA
           have stA := Lib.hid ((S7.out.alloc (.cells #[.int .i64 t0] 2)).write (Frame.ofGrown grA) (by omega) (by omega) [(w3.heap.size, [.int .i64 (P : Int), .int .i64 N_w2, .int .i64 K_w2]), (w.heap.size, [.int .i64 0, .int .i64 0, .int .i64 0])] [] (fun x hx => ⟨hx, by simp only [List.mem_cons, List.not_mem_nil, or_false] at hx; rcases hx with rfl | rfl <;> dsimp only <;> omega⟩) (fun s hs => by cases hs))
           have RA := Lib.hid rowA
           clear rowA grA))
      go_roundw
      case rel =>
        refine ⟨k + 1, gA, kA, fun j => if j < k then f j else t0, by omega, by go_num, rfl, fun j hj => ?_, RA.out, by omega, by omega, stA.out⟩
        dsimp only
        by_cases e : j < k
        · rw [if_pos e]; exact HF.out j e
        · rw [if_neg e]; unfold inR; omega
      case measure => simp [intOf]; omega
    case neg =>
      obtain rfl : k = P := by omega
      have stq := str.addSl ⟨true, w2.heap.size, wr.heap.size, .slice (some ⟨g, 0, none⟩) k cap, k, f⟩ (HR.out.sl HF.out (by unfold maxLen; omega)) (.inr (by dsimp only; omega))
      clear str HS
      go_wp2_with fail
      refine (l01Next_any _ _ _ _ _ 24 _ stq.src stq.bytes stq.low (by omega) (by omega)).mono ?_
      rintro e w4 ⟨r, rfl, hr1, hr2, hs_w4, f_w4⟩
      have hz_w4 := f_w4.size
      try simp only [World.size_alloc] at hz_w4
      have R2 := Lib.hid (HR.out.keepF f_w4 (by omega))
      have st51 := stq.draw hs_w4 f_w4
      clear c_c_0 c_c_1 c_c_2 z_c stq hs_w4 f_w4
      have hzr2 := HR.out.lt
      clear HR
      by_cases h0 : r = 0
      · subst h0
        have SN := Lib.hid st51
        obtain ⟨c_c_0, c_c_1, c_c_2⟩ := (st51.box 0 (w3.heap.size, [.int .i64 (k : Int), .int .i64 N_w2, .int .i64 K_w2]) rfl).cell3
        have z_c := (st51.box 0 (w3.heap.size, [.int .i64 (k : Int), .int .i64 N_w2, .int .i64 K_w2]) rfl).2.2
        dsimp only at c_c_0 c_c_1 c_c_2 z_c
        have BD := Lib.hid (st51.sl 0 ⟨true, w2.heap.size, wr.heap.size, .slice (some ⟨g, 0, none⟩) k cap, k, f⟩ rfl).bd
        clear st51
        have hR2 := R2.out.lt
        go_wp2_with (at_builtin; refine wpList_push rfl (.tmp 33) (.tmp 34) rfl rfl w2.heap.size g cap k f rfl (R2.out.alloc _) w4.heap.size 0 rfl (heap_alloc_new w4 _) (by omega) ?_; intro gA kA wA rowA grA orA ltA
                     have hzA := grA.size
                     simp only [World.size_alloc] at hzA orA
                     have hbA : ∀ j, j < k + 1 → inR (if j < k then f j else 0) := fun j hj => by by_cases e : j < k; (rw [if_pos e]; exact BD.out j e); (rw [if_neg e]; unfold inR; omega)
                     have stA := ((SN.out.alloc (.cells #[.int .i64 0] 2)).write (Frame.ofGrown grA) (by omega) (by omega) [(w3.heap.size, [.int .i64 (k : Int), .int .i64 N_w2, .int .i64 K_w2]), (w.heap.size, [.int .i64 0, .int .i64 0, .int .i64 0])] [] (fun x hx => ⟨hx, by simp only [List.mem_cons, List.not_mem_nil, or_false] at hx; rcases hx with rfl | rfl <;> dsimp only <;> omega⟩) (fun s hs => by cases hs)).addSl ⟨true, w2.heap.size, wA.heap.size, .slice (some ⟨gA, 0, none⟩) (k + 1) kA, k + 1, fun j => if j < k then f j else 0⟩ (rowA.sl hbA (by unfold maxLen; omega)) (.inr (by dsimp only; omega))
                     clear c_c_0 c_c_1 c_c_2 z_c
                     obtain ⟨c_c_0, c_c_1, c_c_2⟩ := (stA.box 0 (w3.heap.size, [.int .i64 (k : Int), .int .i64 N_w2, .int .i64 K_w2]) rfl).cell3
                     have z_c := (stA.box 0 (w3.heap.size, [.int .i64 (k : Int), .int .i64 N_w2, .int .i64 K_w2]) rfl).2.2
                     dsimp only at c_c_0 c_c_1 c_c_2 z_c
                     have STA := Lib.hid stA
                     clear stA rowA grA hbA)
        have stA := STA.out
        clear STA
        go_wp2_with fail
        refine (l03Bad_any (k : Int) N_w2 K_w2 _ stA.src stA.bytes stA.low (by unfold inR; omega) (by unfold inR; omega) (by unfold inR; omega)).mono ?_
        rintro e w5 ⟨x_w5, y_w5, z_w5, rfl, hx_w5, hy_w5, hz__w5, hs_w5, f_w5⟩
        have hz_w5 := f_w5.size
        try simp only [World.size_alloc] at hz_w5
        have st52 := stA.draw hs_w5 f_w5
        clear c_c_0 c_c_1 c_c_2 z_c stA hs_w5 f_w5
        obtain ⟨c_r_0, c_r_1, c_r_2⟩ := (st52.box 1 (w.heap.size, [.int .i64 0, .int .i64 0, .int .i64 0]) rfl).cell3
        have z_r := (st52.box 1 (w.heap.size, [.int .i64 0, .int .i64 0, .int .i64 0]) rfl).2.2
        dsimp only at c_r_0 c_r_1 c_r_2 z_r
        have STZ := Lib.hid st52
        clear st52
        go_wp2
        refine bodyPost_ret (v := .tuple #[.slice (some ⟨gA, 0, none⟩) (k + 1) kA, .agg #[.int .i64 x_w5, .int .i64 y_w5, .int .i64 z_w5]]) (by simp [results, Try.results59, go_sem, c_r_0, c_r_1, c_r_2]) rfl ?_
        have FS : Frame w.heap.size (w.heap.size + 1) w5 (((w5.setCell ⟨w.heap.size, 0, none⟩ (.int .i64 x_w5)).setCell ⟨w.heap.size, 1, none⟩ (.int .i64 y_w5)).setCell ⟨w.heap.size, 2, none⟩ (.int .i64 z_w5)) := (((Frame.refl _ _ _).set (by omega) (by omega) _).set (by omega) (by omega) _).set (by omega) (by omega) _
        have stz := STZ.out.write FS (by omega) (by omega) [] [⟨true, w2.heap.size, wA.heap.size, .slice (some ⟨gA, 0, none⟩) (k + 1) kA, k + 1, fun j => if j < k then f j else 0⟩] (fun x hx => by cases hx) (fun s hs => by obtain rfl := List.mem_singleton.1 hs; exact ⟨by simp, .inr (by dsimp only; omega)⟩)
        exact ⟨_, _, _, _, _, _, x_w5, y_w5, z_w5, rfl, by omega, (stz.sl 0 _ rfl).rd, by (show _ ≤ w2.heap.size); omega, hx_w5, hy_w5, hz__w5, stz.below (by omega)⟩
      · have e0 : (r == 0) = false := by simpa using h0
        by_cases h1 : r = 1
        · subst h1
          have hl := Sl.list (w4) [1000001, -1000001] (by intro t ht; simp only [List.mem_cons, List.not_mem_nil, or_false] at ht; unfold inR; rcases ht with rfl | rfl <;> omega) (by simp [maxLen])
          replace st51 := st51.alloc (.cells ([1000001, -1000001].map (Value.int .i64)).toArray 2)
          simp only [List.map_cons, List.map_nil, List.length_cons, List.length_nil, World.size_alloc] at hl st51
          have hall : ∀ t ∈ ([1000001, -1000001] : List Int), (fun x : Int => -1000001 ≤ x ∧ x ≤ 1000001) t := by intro t ht; simp only [List.mem_cons, List.not_mem_nil, or_false] at ht; (try dsimp only); rcases ht with rfl | rfl <;> omega
          have HALL := Lib.hid hall
          clear hall
          go_wp2_with fail
          refine (l01Pick_any _ _ _ _ _ _ st51.src st51.bytes st51.low hl (.inr (by omega)) (by omega) (by omega)).mono ?_
          rintro e w5 ⟨i_w5, hi_w5, rfl, hs_w5, f_w5⟩
          have hz_w5 := f_w5.size
          try simp only [World.size_alloc] at hz_w5
          have st52 := st51.draw hs_w5 f_w5
          clear hl st51 hs_w5 f_w5
          have h_y1 : (fun x : Int => -1000001 ≤ x ∧ x ≤ 1000001) (([1000001, -1000001] : List Int).getD i_w5 0) := by
            rw [List.getD_eq_getElem?_getD, List.getElem?_eq_getElem (by simpa using hi_w5)]
            exact HALL.out _ (List.getElem_mem _)
          generalize ([1000001, -1000001] : List Int).getD i_w5 0 = y1 at *
          try dsimp only at h_y1
          clear HALL hi_w5
          have HS5 := Lib.hid (st52.sl 0 ⟨true, w2.heap.size, wr.heap.size, .slice (some ⟨g, 0, none⟩) k cap, k, f⟩ rfl)
          obtain ⟨_, _, _, hc7, hz7⟩ := HS5.out.known (show 0 < k by omega)
          have hck := hc7 0 (by omega)
          have hfr := hz7 rfl 0
          try rw [Nat.add_zero] at hck
          dsimp only at hck hfr
          clear hc7 hz7
          have hkI : (0 : Int) < (k : Int) := by omega
          have st6 := (st52.write (lo := g) (hi := g + 1) ((Frame.refl _ _ w5).set (o := 0) (Nat.le_refl _) (Nat.lt_succ_self _) (.int .i64 y1)) (by omega) (by omega) [(w3.heap.size, [.int .i64 (k : Int), .int .i64 N_w2, .int .i64 K_w2]), (w.heap.size, [.int .i64 0, .int .i64 0, .int .i64 0])] [] (fun x hx => ⟨hx, by simp only [List.mem_cons, List.not_mem_nil, or_false] at hx; rcases hx with rfl | rfl <;> dsimp only <;> omega⟩) (fun s hs => by cases hs)).addSl ⟨true, w2.heap.size, wr.heap.size, .slice (some ⟨g, 0, none⟩) k cap, k, fun j => if j = 0 then y1 else f j⟩ (HS5.out.store0 (i := 0) (x := y1) (by (try dsimp only); omega) (by unfold inR; omega)) (.inr (by dsimp only; omega))
          clear st52 HS5
          obtain ⟨c_c_0, c_c_1, c_c_2⟩ := (st6.box 0 (w3.heap.size, [.int .i64 (k : Int), .int .i64 N_w2, .int .i64 K_w2]) rfl).cell3
          have z_c := (st6.box 0 (w3.heap.size, [.int .i64 (k : Int), .int .i64 N_w2, .int .i64 K_w2]) rfl).2.2
          dsimp only at c_c_0 c_c_1 c_c_2 z_c
          go_wp2_with fail
          refine (l03Bad_any (k : Int) N_w2 K_w2 _ st6.src st6.bytes st6.low (by unfold inR; omega) (by unfold inR; omega) (by unfold inR; omega)).mono ?_
          rintro e w6 ⟨x_w6, y_w6, z_w6, rfl, hx_w6, hy_w6, hz__w6, hs_w6, f_w6⟩
          have hz_w6 := f_w6.size
          try simp only [World.size_alloc] at hz_w6
          have st53 := st6.draw hs_w6 f_w6
          clear c_c_0 c_c_1 c_c_2 z_c st6 hs_w6 f_w6
          obtain ⟨c_r_0, c_r_1, c_r_2⟩ := (st53.box 1 (w.heap.size, [.int .i64 0, .int .i64 0, .int .i64 0]) rfl).cell3
          have z_r := (st53.box 1 (w.heap.size, [.int .i64 0, .int .i64 0, .int .i64 0]) rfl).2.2
          dsimp only at c_r_0 c_r_1 c_r_2 z_r
          have STZ := Lib.hid st53
          clear st53
          go_wp2
          refine bodyPost_ret (v := .tuple #[.slice (some ⟨g, 0, none⟩) k cap, .agg #[.int .i64 x_w6, .int .i64 y_w6, .int .i64 z_w6]]) (by simp [results, Try.results59, go_sem, c_r_0, c_r_1, c_r_2]) rfl ?_
          have FS : Frame w.heap.size (w.heap.size + 1) w6 (((w6.setCell ⟨w.heap.size, 0, none⟩ (.int .i64 x_w6)).setCell ⟨w.heap.size, 1, none⟩ (.int .i64 y_w6)).setCell ⟨w.heap.size, 2, none⟩ (.int .i64 z_w6)) := (((Frame.refl _ _ _).set (by omega) (by omega) _).set (by omega) (by omega) _).set (by omega) (by omega) _
          have stz := STZ.out.write FS (by omega) (by omega) [] [⟨true, w2.heap.size, wr.heap.size, .slice (some ⟨g, 0, none⟩) k cap, k, fun j => if j = 0 then y1 else f j⟩] (fun x hx => by cases hx) (fun s hs => by obtain rfl := List.mem_singleton.1 hs; exact ⟨by simp, .inr (by dsimp only; omega)⟩)
          exact ⟨_, _, _, _, _, _, x_w6, y_w6, z_w6, rfl, by omega, (stz.sl 0 _ rfl).rd, by (show _ ≤ w2.heap.size); omega, hx_w6, hy_w6, hz__w6, stz.below (by omega)⟩
        · have e1 : (r == 1) = false := by simpa using h1
          obtain ⟨c_c_0, c_c_1, c_c_2⟩ := (st51.box 0 (w3.heap.size, [.int .i64 (k : Int), .int .i64 N_w2, .int .i64 K_w2]) rfl).cell3
          have z_c := (st51.box 0 (w3.heap.size, [.int .i64 (k : Int), .int .i64 N_w2, .int .i64 K_w2]) rfl).2.2
          dsimp only at c_c_0 c_c_1 c_c_2 z_c
          go_wp2_with fail
          refine (l03Bad_any (k : Int) N_w2 K_w2 _ st51.src st51.bytes st51.low (by unfold inR; omega) (by unfold inR; omega) (by unfold inR; omega)).mono ?_
          rintro e w5 ⟨x_w5, y_w5, z_w5, rfl, hx_w5, hy_w5, hz__w5, hs_w5, f_w5⟩
          have hz_w5 := f_w5.size
          try simp only [World.size_alloc] at hz_w5
          have st52 := st51.draw hs_w5 f_w5
          clear c_c_0 c_c_1 c_c_2 z_c st51 hs_w5 f_w5
          obtain ⟨c_r_0, c_r_1, c_r_2⟩ := (st52.box 1 (w.heap.size, [.int .i64 0, .int .i64 0, .int .i64 0]) rfl).cell3
          have z_r := (st52.box 1 (w.heap.size, [.int .i64 0, .int .i64 0, .int .i64 0]) rfl).2.2
          dsimp only at c_r_0 c_r_1 c_r_2 z_r
          have STZ := Lib.hid st52
          clear st52
          go_wp2
          refine bodyPost_ret (v := .tuple #[.slice (some ⟨g, 0, none⟩) k cap, .agg #[.int .i64 x_w5, .int .i64 y_w5, .int .i64 z_w5]]) (by simp [results, Try.results59, go_sem, c_r_0, c_r_1, c_r_2]) rfl ?_
          have FS : Frame w.heap.size (w.heap.size + 1) w5 (((w5.setCell ⟨w.heap.size, 0, none⟩ (.int .i64 x_w5)).setCell ⟨w.heap.size, 1, none⟩ (.int .i64 y_w5)).setCell ⟨w.heap.size, 2, none⟩ (.int .i64 z_w5)) := (((Frame.refl _ _ _).set (by omega) (by omega) _).set (by omega) (by omega) _).set (by omega) (by omega) _
          have stz := STZ.out.write FS (by omega) (by omega) [] [⟨true, w2.heap.size, wr.heap.size, .slice (some ⟨g, 0, none⟩) k cap, k, f⟩] (fun x hx => by cases hx) (fun s hs => by obtain rfl := List.mem_singleton.1 hs; exact ⟨by simp, .inr (by dsimp only; omega)⟩)
          exact ⟨_, _, _, _, _, _, x_w5, y_w5, z_w5, rfl, by omega, (stz.sl 0 _ rfl).rd, by (show _ ≤ w2.heap.size); omega, hx_w5, hy_w5, hz__w5, stz.below (by omega)⟩
end
end

section
open Go.RowKit Go.ChangeShapes Go.Sort
set_option linter.unusedVariables false
set_option linter.unusedSimpArgs false

section
variable {o : Bool} {lo hi n : Nat} {v : Value} {f : Nat → Int}
set_option maxHeartbeats 800000 in
theorem likeInts_yes {o' : Bool} {lo' hi' : Nat} {v' : Value} {f' : Nat → Int} (w : World) (hs : Sl o w lo hi v n f) (hs' : Sl o' w lo' hi' v' n f') (he : ∀ j, j < n → f j = f' j) :
    Calls Try.prog 54 #[v, v'] w fun e w' => e = .returned (.bool true) ∧ Below w.heap.size w w' := by
  obtain ⟨a, cap, rfl⟩ := hs.shape
  obtain ⟨a', cap', rfl⟩ := hs'.shape
  have hm := hs.len
  unfold maxLen at hm
  have HS := Lib.hid hs; clear hs
  have HS' := Lib.hid hs'; clear hs'
  have HE := Lib.hid he; clear he
  go_enter Try.func54, Try.ntmps54
  go_wp2
  go_loopw [5] (fun i wr => ∃ k : Nat, k ≤ n ∧ i = .int .i64 k ∧ Below w.heap.size w wr) (fun i _ => n - (intOf i).toNat)
  case atStart => exact ⟨0, Nat.zero_le _, rfl, Below.refl _ _⟩
  case round =>
    obtain ⟨k, hk, rfl, hb⟩ := hrel
    by_cases hlt : k < n
    · obtain ⟨g, off, c1, hv, _, hg, _, _, hc, _⟩ := HS.out.at (by omega)
      have hgs : g < w.heap.size := Nat.lt_of_lt_of_le hg HS.out.size
      obtain ⟨rfl, rfl⟩ : a = some ⟨g, off, none⟩ ∧ cap = c1 := by cases hv; exact ⟨rfl, rfl⟩
      obtain ⟨g', off', c1', hv', _, hg', _, _, hc', _⟩ := HS'.out.at (by omega)
      have hgs' : g' < w.heap.size := Nat.lt_of_lt_of_le hg' HS'.out.size
      obtain ⟨rfl, rfl⟩ : a' = some ⟨g', off', none⟩ ∧ cap' = c1' := by cases hv'; exact ⟨rfl, rfl⟩
      clear hv hg hv' hg'
      have hck : wr.cell? ⟨g, off + k, none⟩ = some (.int .i64 (f k)) := by rw [hb.cell (p := ⟨g, off + k, none⟩) hgs]; exact hc k hlt
      have hck' : wr.cell? ⟨g', off' + k, none⟩ = some (.int .i64 (f k)) := by rw [hb.cell (p := ⟨g', off' + k, none⟩) hgs', HE.out k hlt]; exact hc' k hlt
      clear hc hc'
      go_wp2
      go_quiet (fail)
      go_wp2
      go_roundw
      case rel => exact ⟨k + 1, by omega, by go_num, below_drewN hb _⟩
      case measure => simp [intOf]; omega
    · go_wp2
      go_ret
      exact ⟨rfl, hb⟩

set_option maxHeartbeats 800000 in
theorem cyclos5_yes {o' : Bool} {lo' hi' : Nat} {v' : Value} {f' : Nat → Int} (x : Int) (w : World) (hs : Sl o w lo hi v n f) (hs' : Sl o' w lo' hi' v' n f') (he : ∀ j, j < n → f j = f' j) :
    Calls Try.prog 36 #[.agg #[.int .i64 x, v], .agg #[.int .i64 x, v']] w fun e w' => e = .returned (.bool true) ∧ Below w.heap.size w w' := by
  obtain ⟨a, cap, rfl⟩ := hs.shape
  obtain ⟨a', cap', rfl⟩ := hs'.shape
  have HS := Lib.hid hs; clear hs
  have HS' := Lib.hid hs'; clear hs'
  have HE := Lib.hid he; clear he
  go_enter Try.func36, Try.ntmps36
  go_wp2_with (go_at_call 54; refine (likeInts_yes _ ((HS.out.alloc _).alloc _) ((HS'.out.alloc _).alloc _) HE.out).mono ?_; rintro e w1 ⟨rfl, hb⟩)
  go_ret
  exact ⟨rfl, (((Below.refl w.heap.size w).alloc (Nat.le_refl _) _).alloc (by simp) _).trans (hb.mono (by simp; omega))⟩

set_option maxHeartbeats 800000 in
theorem cyclo9_yes {o' : Bool} {lo' hi' : Nat} {v' : Value} {f' : Nat → Int} (x : Int) (w : World) (hs : Sl o w lo hi v n f) (hs' : Sl o' w lo' hi' v' n f') (he : ∀ j, j < n → f j = f' j) :
    Calls Try.prog 93 #[.agg #[.int .i64 x, v], .agg #[.int .i64 x, v']] w fun e w' => e = .returned (.bool true) ∧ Below w.heap.size w w' := by
  obtain ⟨a, cap, rfl⟩ := hs.shape
  obtain ⟨a', cap', rfl⟩ := hs'.shape
  have HS := Lib.hid hs; clear hs
  have HS' := Lib.hid hs'; clear hs'
  have HE := Lib.hid he; clear he
  go_enter Try.func93, Try.ntmps93
  go_wp2_with (go_at_call 54; refine (likeInts_yes _ ((HS.out.alloc _).alloc _) ((HS'.out.alloc _).alloc _) HE.out).mono ?_; rintro e w1 ⟨rfl, hb⟩)
  go_ret
  exact ⟨rfl, (((Below.refl w.heap.size w).alloc (Nat.le_refl _) _).alloc (by simp) _).trans (hb.mono (by simp; omega))⟩

end
theorem big_no (p : Option Addr) (n q : Nat) (w : World) (h : n ≤ 4096) : Calls Try.prog 22 #[.slice p n q] w fun e w' => e = .returned (.bool false) ∧ Below w.heap.size w w' := by
  have hh : ¬ (4096 < (n : Int)) := by omega
  go_enter Try.func22, Try.ntmps22
  go_wp2
  go_ret
  exact ⟨rfl, Below.refl _ _⟩
theorem big_yes (p : Option Addr) (n q : Nat) (w : World) (h : 4096 < n) : Calls Try.prog 22 #[.slice p n q] w fun e w' => e = .returned (.bool true) ∧ Below w.heap.size w w' := by
  have hd : decide ((4096 : Int) < (n : Int)) = true := decide_eq_true (by omega)
  go_enter Try.func22, Try.ntmps22
  go_wp2
  go_ret
  exact ⟨by first | rfl | (show Ending.returned (.bool (decide ((4096 : Int) < (n : Int)))) = _; rw [hd]), Below.refl _ _⟩
/-- A code that came in. -/
theorem Bytes.came {H : Type} {enc : TypeId × Value → H} {P : Program} {W : World} {t e : TypeId} {fuel : Nat} {c : Value} {y : DataW H × List MemPlace}
    (ht : P.underlying t = some (.slice e)) (he : P.underlying e = some (.int .u8)) (hc : P.cellsOf e = 1)
    (h : DataW.trod enc P W 0 (fun _ => true) true fuel t [c] = some y) : ∃ p n q, c = .slice p n q ∧ (n ≤ 4096 → Bytes W W.heap.size p n) := by
  rcases open_ints ht he hc h with ⟨hcs, _⟩ | ⟨a, len, cap, zs, hcs, _, hl, hm, hz, _, hcell, hwz⟩
  · cases hcs
    exact ⟨none, 0, 0, rfl, fun _ => ⟨by omega, fun j hj => absurd hj (Nat.not_lt_zero _)⟩⟩
  · cases hcs
    refine ⟨some a, len, cap, rfl, fun hn => ⟨hn, fun j hj => ?_⟩⟩
    simp only [if_true] at hz
    obtain ⟨b, off, rfl, hcells⟩ := ints_at hcell (by omega)
    have hj' : j < zs.length := by omega
    have hwf : (Lit.int .u8 (zs.getD j 0)).wf = true := hwz _ (by
      rw [List.getD_eq_getElem?_getD, List.getElem?_eq_getElem hj']
      exact List.getElem_mem hj')
    have hb : 0 ≤ zs.getD j 0 ∧ zs.getD j 0 ≤ 255 := by simpa [Lit.wf, IntKind.min, IntKind.max, IntKind.signed, IntKind.bits] using hwf
    exact ⟨b, off, zs.getD j 0, rfl, World.block_lt_of_cell? _ _ (hcells 0 (by omega)), World.block_lt_of_cell? _ _ (hcells 0 (by omega)), hcells j hj', hb.1, hb.2⟩
end
end Go.Proofs.Ytdalahgfpbdilaa
