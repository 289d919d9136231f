/- AddGauss of the program and of the model. -/
import Derived.Test.YthmhjnholhiohaaGTol
import Derived.Test.YthmhjnholhiohaaGWr
import Derived.Test.YthmhjnholhiohaaAdd
import Derived.Deep.RegionHeld3
namespace Go.Proofs.Ythmhjnholhiohaa
open Go.RowKit Go.ChangeShapes Go.Sort Go.WideShapes
set_option linter.unusedVariables false
set_option linter.unusedSimpArgs false

/-- The model's rows under way. -/
def adT (k : Int) (F F' : Nat → Nat → Int) (t q i j : Nat) : Int := if i < t ∨ (i = t ∧ j < q) then F i j + k * F' i j else 0
theorem adT_next (k : Int) (F F' : Nat → Nat → Int) (t q i j : Nat) : adT k F F' t (q + 1) i j = if i = t ∧ j = q then F t q + k * F' t q else adT k F F' t q i j := by
  unfold adT
  by_cases e : i = t ∧ j = q
  · rw [if_pos e, if_pos (by omega), e.1, e.2]
  · rw [if_neg e]
    by_cases e2 : i < t ∨ (i = t ∧ j < q)
    · rw [if_pos e2, if_pos (by omega)]
    · rw [if_neg e2, if_neg (by omega)]
theorem adT_end {k : Int} {F F' : Nat → Nat → Int} {t L i j : Nat} (hj : j < L) : adT k F F' t L i j = adT k F F' (t + 1) 0 i j := by
  unfold adT
  by_cases e2 : i < t ∨ (i = t ∧ j < L)
  · rw [if_pos e2, if_pos (by omega)]
  · rw [if_neg e2, if_neg (by omega)]

section
variable {o o' : Bool} {lo hi lo' hi' : Nat} {V V' : Value} {m L : Nat} {ln ln' : Nat → Nat} {F F' : Nat → Nat → Int}


set_option maxRecDepth 100000 in
set_option maxHeartbeats 2000000 in
theorem adOne_ok (N i b1 b2 b3 : Nat) (k : Int) (w : World) (hb1 : Box w b1 [.int .i64 (m : Int), .int .i64 (N : Int), V]) (hb2 : Box w b2 [.int .i64 (m : Int), .int .i64 (N : Int), V']) (hb3 : Box w b3 [.int .i64 k]) (hs : Rw o w lo hi V m ln F) (ht : Rw o' w lo' hi' V' m ln' F') (him : i < m) (hL : L = phiN N) (hln : ∀ i, i < m → ln i = L) (hln' : ∀ i, i < m → ln' i = L) (hcy : ∀ i, i < m → CyP (N : Int) L (F i)) (hcy' : ∀ i, i < m → CyP (N : Int) L (F' i)) (hk1 : -1000 ≤ k) (hk2 : k ≤ 1000) (hw : Within (addF k (F i) (F' i)) L 1000000000) :
    Calls Try.prog 93 #[.int .i64 (i : Int), .pointer (some ⟨b1, 0, none⟩), .pointer (some ⟨b2, 0, none⟩), .pointer (some ⟨b3, 0, none⟩)] w fun e w' => ∃ a k', e = .returned (.tuple #[.agg #[.int .i64 (N : Int), .slice a L k'], .int .i64 0]) ∧ Sl true w' w.heap.size w'.heap.size (.slice a L k') L (addF k (F i) (F' i)) ∧ Below w.heap.size w w' := by
  obtain ⟨a, cap, rfl⟩ := hs.shape
  obtain ⟨b, cap', rfl⟩ := ht.shape
  have HC1 := Lib.hid (hcy i him); have HC2 := Lib.hid (hcy' i him)
  have HL1 := Lib.hid (hln i him); have HL2 := Lib.hid (hln' i him)
  have HLN := Lib.hid hL
  have HWI := Lib.hid (show Within (addF k (F i) (F' i)) L 1000000000 from hw)
  clear hw hcy hcy' hln hln' hL
  have hbl1 := hb1.1; have hbl2 := hb2.1; have hbl3 := hb3.1
  have st0 := ((((((StR.start w).addRw ⟨o, lo, hi, .slice a m cap, m, ln, F⟩ hs).addRw ⟨o', lo', hi', .slice b m cap', m, ln', F'⟩ ht).addBox b3 [.int .i64 k] hb3).addBox b2 [.int .i64 (m : Int), .int .i64 (N : Int), .slice b m cap'] hb2).addBox b1 [.int .i64 (m : Int), .int .i64 (N : Int), .slice a m cap] hb1).boxNew (.int .i64 0) (.slice none 0 0) 37
  clear hs ht hb1 hb2 hb3
  obtain ⟨c0, c1, c2⟩ := (st0.box 1 (b1, [.int .i64 (m : Int), .int .i64 (N : Int), .slice a m cap]) rfl).c3
  obtain ⟨e0, e1, e2⟩ := (st0.box 2 (b2, [.int .i64 (m : Int), .int .i64 (N : Int), .slice b m cap']) rfl).c3
  have k0 := (st0.box 3 (b3, [.int .i64 k]) rfl).2.1 0 _ rfl
  dsimp only at k0
  go_enter Try.func93, Try.ntmps93
  go_wp2
  go_region_held3 (fun w' => w'.cell? ⟨b1, 0, none⟩ = some (.int .i64 (m : Int)) ∧ w'.cell? ⟨b1, 1, none⟩ = some (.int .i64 (N : Int)) ∧ w'.cell? ⟨b1, 2, none⟩ = some (.slice a m cap) ∧ w'.cell? ⟨b2, 0, none⟩ = some (.int .i64 (m : Int)) ∧ w'.cell? ⟨b2, 1, none⟩ = some (.int .i64 (N : Int)) ∧ w'.cell? ⟨b2, 2, none⟩ = some (.slice b m cap') ∧ w'.cell? ⟨b3, 0, none⟩ = some (.int .i64 k))
    (first | exact ⟨c0, c1, c2, e0, e1, e2, k0⟩ | exact ⟨cell_later b6 c0, cell_later b6 c1, cell_later b6 c2, cell_later b6 e0, cell_later b6 e1, cell_later b6 e2, cell_later b6 k0⟩ | exact ⟨cell_later b7 (cell_later b6 c0), cell_later b7 (cell_later b6 c1), cell_later b7 (cell_later b6 c2), cell_later b7 (cell_later b6 e0), cell_later b7 (cell_later b6 e1), cell_later b7 (cell_later b6 e2), cell_later b7 (cell_later b6 k0)⟩ | exact ⟨cell_later b8 (cell_later b7 (cell_later b6 c0)), cell_later b8 (cell_later b7 (cell_later b6 c1)), cell_later b8 (cell_later b7 (cell_later b6 c2)), cell_later b8 (cell_later b7 (cell_later b6 e0)), cell_later b8 (cell_later b7 (cell_later b6 e1)), cell_later b8 (cell_later b7 (cell_later b6 e2)), cell_later b8 (cell_later b7 (cell_later b6 k0))⟩ | exact ⟨cell_one (cell_one (cell_later b8 (cell_later b7 (cell_later b6 c0))) (by omega)) (by omega), cell_one (cell_one (cell_later b8 (cell_later b7 (cell_later b6 c1))) (by omega)) (by omega), cell_one (cell_one (cell_later b8 (cell_later b7 (cell_later b6 c2))) (by omega)) (by omega), cell_one (cell_one (cell_later b8 (cell_later b7 (cell_later b6 e0))) (by omega)) (by omega), cell_one (cell_one (cell_later b8 (cell_later b7 (cell_later b6 e1))) (by omega)) (by omega), cell_one (cell_one (cell_later b8 (cell_later b7 (cell_later b6 e2))) (by omega)) (by omega), cell_one (cell_one (cell_later b8 (cell_later b7 (cell_later b6 k0))) (by omega)) (by omega)⟩ | go_keep)
    (first
      | (go_at_call 94; have _h := b7; refine (AddCyclos_impl_ok N k _ t6 s7 HC1.out HC2.out hk1 hk2 HWI.out).mono ?_; rintro e w8 ⟨a8, k8, rfl, s8, b8⟩
         have st8 := st7.keep b8
         obtain ⟨d0, d1⟩ := (st8.box 0 (w.heap.size, [.int .i64 0, .slice none 0 0]) rfl).cell2
         have dz := (st8.box 0 (w.heap.size, [.int .i64 0, .slice none 0 0]) rfl).2.2
         dsimp only at dz)
      | (go_at_call 68; have _g := b6; refine (rowNumber_any _ _ _ (st6.rw 0 ⟨o', lo', hi', .slice b m cap', m, ln', F'⟩ rfl) i him).mono ?_; rintro e w7 ⟨u7, rfl, s7, b7⟩
         dsimp only at s7
         rw [HL2.out] at s7
         have t6 := s6.keep b7 s6.size
         have st7 := st6.keep b7)
      | (go_at_call 68; refine (rowNumber_any _ _ _ (st0.drew.rw 1 ⟨o, lo, hi, .slice a m cap, m, ln, F⟩ rfl) i him).mono ?_; rintro e w6 ⟨u6, rfl, s6, b6⟩
         dsimp only at s6
         rw [HL1.out] at s6
         have st6 := st0.drew.keep b6))
  all_goals
    have hz6 := b6.size
    have hz7 := b7.size
    have hz8 := b8.size
    simp only [World.size_drew, World.size_alloc] at hz6
    have BB := st8.1
    have S8 := Lib.hid s8
    clear b6 b7 b8 s8 st8 st7 st6 s6 t6 s7
    go_wp2
    rw [← HLN.out] at S8
    refine bodyPost_ret (v := .tuple #[.agg #[.int .i64 (N : Int), .slice a8 L k8], .int .i64 0]) (by simp [results, Try.results93, go_sem, d0, d1, HLN.out]) rfl ?_
    refine ⟨_, _, rfl, ?_, by go_grown⟩
    exact ((S8.out.setOther (.inl (by show w.heap.size < _; omega)) _).setOther (.inl (by show w.heap.size < _; omega)) _).wide (by omega) (by simp) (Nat.le_refl _)


set_option maxRecDepth 100000 in
set_option maxHeartbeats 2000000 in
theorem adOne_bad (N i b1 b2 b3 : Nat) (k : Int) (w : World) (hb1 : Box w b1 [.int .i64 (m : Int), .int .i64 (N : Int), V]) (hb2 : Box w b2 [.int .i64 (m : Int), .int .i64 (N : Int), V']) (hb3 : Box w b3 [.int .i64 k]) (hs : Rw o w lo hi V m ln F) (ht : Rw o' w lo' hi' V' m ln' F') (him : i < m) (hL : L = phiN N) (hln : ∀ i, i < m → ln i = L) (hln' : ∀ i, i < m → ln' i = L) (hcy : ∀ i, i < m → CyP (N : Int) L (F i)) (hcy' : ∀ i, i < m → CyP (N : Int) L (F' i)) (hk1 : -1000 ≤ k) (hk2 : k ≤ 1000) (hw : ¬ Within (addF k (F i) (F' i)) L 1000000000) :
    Calls Try.prog 93 #[.int .i64 (i : Int), .pointer (some ⟨b1, 0, none⟩), .pointer (some ⟨b2, 0, none⟩), .pointer (some ⟨b3, 0, none⟩)] w fun e w' => e = .returned (failV 3) ∧ Below w.heap.size w w' := by
  obtain ⟨a, cap, rfl⟩ := hs.shape
  obtain ⟨b, cap', rfl⟩ := ht.shape
  have HC1 := Lib.hid (hcy i him); have HC2 := Lib.hid (hcy' i him)
  have HL1 := Lib.hid (hln i him); have HL2 := Lib.hid (hln' i him)
  have HLN := Lib.hid hL
  have HWI := Lib.hid (show ¬ Within (addF k (F i) (F' i)) L 1000000000 from hw)
  clear hw hcy hcy' hln hln' hL
  have hbl1 := hb1.1; have hbl2 := hb2.1; have hbl3 := hb3.1
  have st0 := ((((((StR.start w).addRw ⟨o, lo, hi, .slice a m cap, m, ln, F⟩ hs).addRw ⟨o', lo', hi', .slice b m cap', m, ln', F'⟩ ht).addBox b3 [.int .i64 k] hb3).addBox b2 [.int .i64 (m : Int), .int .i64 (N : Int), .slice b m cap'] hb2).addBox b1 [.int .i64 (m : Int), .int .i64 (N : Int), .slice a m cap] hb1).boxNew (.int .i64 0) (.slice none 0 0) 37
  clear hs ht hb1 hb2 hb3
  obtain ⟨c0, c1, c2⟩ := (st0.box 1 (b1, [.int .i64 (m : Int), .int .i64 (N : Int), .slice a m cap]) rfl).c3
  obtain ⟨e0, e1, e2⟩ := (st0.box 2 (b2, [.int .i64 (m : Int), .int .i64 (N : Int), .slice b m cap']) rfl).c3
  have k0 := (st0.box 3 (b3, [.int .i64 k]) rfl).2.1 0 _ rfl
  dsimp only at k0
  go_enter Try.func93, Try.ntmps93
  go_wp2
  go_region_held3 (fun w' => w'.cell? ⟨b1, 0, none⟩ = some (.int .i64 (m : Int)) ∧ w'.cell? ⟨b1, 1, none⟩ = some (.int .i64 (N : Int)) ∧ w'.cell? ⟨b1, 2, none⟩ = some (.slice a m cap) ∧ w'.cell? ⟨b2, 0, none⟩ = some (.int .i64 (m : Int)) ∧ w'.cell? ⟨b2, 1, none⟩ = some (.int .i64 (N : Int)) ∧ w'.cell? ⟨b2, 2, none⟩ = some (.slice b m cap') ∧ w'.cell? ⟨b3, 0, none⟩ = some (.int .i64 k))
    (first | exact ⟨c0, c1, c2, e0, e1, e2, k0⟩ | exact ⟨cell_later b6 c0, cell_later b6 c1, cell_later b6 c2, cell_later b6 e0, cell_later b6 e1, cell_later b6 e2, cell_later b6 k0⟩ | exact ⟨cell_later b7 (cell_later b6 c0), cell_later b7 (cell_later b6 c1), cell_later b7 (cell_later b6 c2), cell_later b7 (cell_later b6 e0), cell_later b7 (cell_later b6 e1), cell_later b7 (cell_later b6 e2), cell_later b7 (cell_later b6 k0)⟩ | exact ⟨cell_later b8 (cell_later b7 (cell_later b6 c0)), cell_later b8 (cell_later b7 (cell_later b6 c1)), cell_later b8 (cell_later b7 (cell_later b6 c2)), cell_later b8 (cell_later b7 (cell_later b6 e0)), cell_later b8 (cell_later b7 (cell_later b6 e1)), cell_later b8 (cell_later b7 (cell_later b6 e2)), cell_later b8 (cell_later b7 (cell_later b6 k0))⟩ | exact ⟨cell_one (cell_one (cell_later b8 (cell_later b7 (cell_later b6 c0))) (by omega)) (by omega), cell_one (cell_one (cell_later b8 (cell_later b7 (cell_later b6 c1))) (by omega)) (by omega), cell_one (cell_one (cell_later b8 (cell_later b7 (cell_later b6 c2))) (by omega)) (by omega), cell_one (cell_one (cell_later b8 (cell_later b7 (cell_later b6 e0))) (by omega)) (by omega), cell_one (cell_one (cell_later b8 (cell_later b7 (cell_later b6 e1))) (by omega)) (by omega), cell_one (cell_one (cell_later b8 (cell_later b7 (cell_later b6 e2))) (by omega)) (by omega), cell_one (cell_one (cell_later b8 (cell_later b7 (cell_later b6 k0))) (by omega)) (by omega)⟩ | go_keep)
    (first
      | (go_at_call 94; have _h := b7; refine (AddCyclos_impl_big N k _ t6 s7 HC1.out HC2.out hk1 hk2 HWI.out).mono ?_; rintro e w8 ⟨rfl, b8⟩; unfold failV
         have st8 := st7.keep b8
         obtain ⟨d0, d1⟩ := (st8.box 0 (w.heap.size, [.int .i64 0, .slice none 0 0]) rfl).cell2
         have dz := (st8.box 0 (w.heap.size, [.int .i64 0, .slice none 0 0]) rfl).2.2
         dsimp only at dz)
      | (go_at_call 68; have _g := b6; refine (rowNumber_any _ _ _ (st6.rw 0 ⟨o', lo', hi', .slice b m cap', m, ln', F'⟩ rfl) i him).mono ?_; rintro e w7 ⟨u7, rfl, s7, b7⟩
         dsimp only at s7
         rw [HL2.out] at s7
         have t6 := s6.keep b7 s6.size
         have st7 := st6.keep b7)
      | (go_at_call 68; refine (rowNumber_any _ _ _ (st0.drew.rw 1 ⟨o, lo, hi, .slice a m cap, m, ln, F⟩ rfl) i him).mono ?_; rintro e w6 ⟨u6, rfl, s6, b6⟩
         dsimp only at s6
         rw [HL1.out] at s6
         have st6 := st0.drew.keep b6))
  all_goals
    have hz6 := b6.size
    have hz7 := b7.size
    have hz8 := b8.size
    simp only [World.size_drew, World.size_alloc] at hz6
    have BB := st8.1
    skip
    clear b6 b7 b8 st8 st7 st6 s6 t6 s7
    go_wp2
    refine bodyPost_ret (v := .tuple #[.agg #[.int .i64 0, .slice none 0 0], .int .i64 3]) (by simp [results, Try.results93, go_sem, d0, d1]) rfl ?_
    exact ⟨rfl, by go_grown⟩


set_option maxRecDepth 100000 in
set_option maxHeartbeats 2000000 in
theorem adOne_out (N i b1 b2 b3 : Nat) (k : Int) (w : World) (hb1 : Box w b1 [.int .i64 (m : Int), .int .i64 (N : Int), V]) (hb2 : Box w b2 [.int .i64 (m : Int), .int .i64 (N : Int), V']) (hb3 : Box w b3 [.int .i64 k]) (hs : Rw o w lo hi V m ln F) (ht : Rw o' w lo' hi' V' m ln' F') (him : i < m) (hL : L = phiN N) (hln : ∀ i, i < m → ln i = L) (hln' : ∀ i, i < m → ln' i = L) (hcy : ∀ i, i < m → CyP (N : Int) L (F i)) (hcy' : ∀ i, i < m → CyP (N : Int) L (F' i)) (hw : k < -1000 ∨ 1000 < k) :
    Calls Try.prog 93 #[.int .i64 (i : Int), .pointer (some ⟨b1, 0, none⟩), .pointer (some ⟨b2, 0, none⟩), .pointer (some ⟨b3, 0, none⟩)] w fun e w' => e = .returned (failV 2) ∧ Below w.heap.size w w' := by
  obtain ⟨a, cap, rfl⟩ := hs.shape
  obtain ⟨b, cap', rfl⟩ := ht.shape
  have HC1 := Lib.hid (hcy i him); have HC2 := Lib.hid (hcy' i him)
  have HL1 := Lib.hid (hln i him); have HL2 := Lib.hid (hln' i him)
  have HLN := Lib.hid hL
  have HWI := Lib.hid (show k < -1000 ∨ 1000 < k from hw)
  clear hw hcy hcy' hln hln' hL
  have hbl1 := hb1.1; have hbl2 := hb2.1; have hbl3 := hb3.1
  have st0 := ((((((StR.start w).addRw ⟨o, lo, hi, .slice a m cap, m, ln, F⟩ hs).addRw ⟨o', lo', hi', .slice b m cap', m, ln', F'⟩ ht).addBox b3 [.int .i64 k] hb3).addBox b2 [.int .i64 (m : Int), .int .i64 (N : Int), .slice b m cap'] hb2).addBox b1 [.int .i64 (m : Int), .int .i64 (N : Int), .slice a m cap] hb1).boxNew (.int .i64 0) (.slice none 0 0) 37
  clear hs ht hb1 hb2 hb3
  obtain ⟨c0, c1, c2⟩ := (st0.box 1 (b1, [.int .i64 (m : Int), .int .i64 (N : Int), .slice a m cap]) rfl).c3
  obtain ⟨e0, e1, e2⟩ := (st0.box 2 (b2, [.int .i64 (m : Int), .int .i64 (N : Int), .slice b m cap']) rfl).c3
  have k0 := (st0.box 3 (b3, [.int .i64 k]) rfl).2.1 0 _ rfl
  dsimp only at k0
  go_enter Try.func93, Try.ntmps93
  go_wp2
  go_region_held3 (fun w' => w'.cell? ⟨b1, 0, none⟩ = some (.int .i64 (m : Int)) ∧ w'.cell? ⟨b1, 1, none⟩ = some (.int .i64 (N : Int)) ∧ w'.cell? ⟨b1, 2, none⟩ = some (.slice a m cap) ∧ w'.cell? ⟨b2, 0, none⟩ = some (.int .i64 (m : Int)) ∧ w'.cell? ⟨b2, 1, none⟩ = some (.int .i64 (N : Int)) ∧ w'.cell? ⟨b2, 2, none⟩ = some (.slice b m cap') ∧ w'.cell? ⟨b3, 0, none⟩ = some (.int .i64 k))
    (first | exact ⟨c0, c1, c2, e0, e1, e2, k0⟩ | exact ⟨cell_later b6 c0, cell_later b6 c1, cell_later b6 c2, cell_later b6 e0, cell_later b6 e1, cell_later b6 e2, cell_later b6 k0⟩ | exact ⟨cell_later b7 (cell_later b6 c0), cell_later b7 (cell_later b6 c1), cell_later b7 (cell_later b6 c2), cell_later b7 (cell_later b6 e0), cell_later b7 (cell_later b6 e1), cell_later b7 (cell_later b6 e2), cell_later b7 (cell_later b6 k0)⟩ | exact ⟨cell_later b8 (cell_later b7 (cell_later b6 c0)), cell_later b8 (cell_later b7 (cell_later b6 c1)), cell_later b8 (cell_later b7 (cell_later b6 c2)), cell_later b8 (cell_later b7 (cell_later b6 e0)), cell_later b8 (cell_later b7 (cell_later b6 e1)), cell_later b8 (cell_later b7 (cell_later b6 e2)), cell_later b8 (cell_later b7 (cell_later b6 k0))⟩ | exact ⟨cell_one (cell_one (cell_later b8 (cell_later b7 (cell_later b6 c0))) (by omega)) (by omega), cell_one (cell_one (cell_later b8 (cell_later b7 (cell_later b6 c1))) (by omega)) (by omega), cell_one (cell_one (cell_later b8 (cell_later b7 (cell_later b6 c2))) (by omega)) (by omega), cell_one (cell_one (cell_later b8 (cell_later b7 (cell_later b6 e0))) (by omega)) (by omega), cell_one (cell_one (cell_later b8 (cell_later b7 (cell_later b6 e1))) (by omega)) (by omega), cell_one (cell_one (cell_later b8 (cell_later b7 (cell_later b6 e2))) (by omega)) (by omega), cell_one (cell_one (cell_later b8 (cell_later b7 (cell_later b6 k0))) (by omega)) (by omega)⟩ | go_keep)
    (first
      | (go_at_call 94; have _h := b7; refine (AddCyclos_impl_out (N : Int) k _ t6 s7 (pairC_ok HC1.out HC2.out rfl) HWI.out).mono ?_; rintro e w8 ⟨rfl, b8⟩; unfold failV
         have st8 := st7.keep b8
         obtain ⟨d0, d1⟩ := (st8.box 0 (w.heap.size, [.int .i64 0, .slice none 0 0]) rfl).cell2
         have dz := (st8.box 0 (w.heap.size, [.int .i64 0, .slice none 0 0]) rfl).2.2
         dsimp only at dz)
      | (go_at_call 68; have _g := b6; refine (rowNumber_any _ _ _ (st6.rw 0 ⟨o', lo', hi', .slice b m cap', m, ln', F'⟩ rfl) i him).mono ?_; rintro e w7 ⟨u7, rfl, s7, b7⟩
         dsimp only at s7
         rw [HL2.out] at s7
         have t6 := s6.keep b7 s6.size
         have st7 := st6.keep b7)
      | (go_at_call 68; refine (rowNumber_any _ _ _ (st0.drew.rw 1 ⟨o, lo, hi, .slice a m cap, m, ln, F⟩ rfl) i him).mono ?_; rintro e w6 ⟨u6, rfl, s6, b6⟩
         dsimp only at s6
         rw [HL1.out] at s6
         have st6 := st0.drew.keep b6))
  all_goals
    have hz6 := b6.size
    have hz7 := b7.size
    have hz8 := b8.size
    simp only [World.size_drew, World.size_alloc] at hz6
    have BB := st8.1
    skip
    clear b6 b7 b8 st8 st7 st6 s6 t6 s7
    go_wp2
    refine bodyPost_ret (v := .tuple #[.agg #[.int .i64 0, .slice none 0 0], .int .i64 2]) (by simp [results, Try.results93, go_sem, d0, d1]) rfl ?_
    exact ⟨rfl, by go_grown⟩


set_option maxRecDepth 100000 in
theorem AddGauss_impl_bad {m' : Nat} (x y q z k c : Int) (w : World) (hs : Rw o w lo hi V m ln F) (ht : Rw o' w lo' hi' V' m' ln' F') (hc : gpC x y m ln F q z m' ln' F' = c) (hc0 : ¬ c = 0) :
    Calls Try.prog 34 #[.agg #[.int .i64 x, .int .i64 y, V], .agg #[.int .i64 q, .int .i64 z, V'], .int .i64 k] w fun e w' => e = .returned (failG c) ∧ Below w.heap.size w w' := by
  obtain ⟨a, cap, rfl⟩ := hs.shape
  obtain ⟨b, cap', rfl⟩ := ht.shape
  have hh := hs.size
  have hh' := ht.size
  have st0 := (((StR.start w).addRw ⟨o, lo, hi, .slice a m cap, m, ln, F⟩ hs).addRw ⟨o', lo', hi', .slice b m' cap', m', ln', F'⟩ ht).boxNew3 (.int .i64 x) (.int .i64 y) (.slice a m cap) 27
  replace st0 := st0.boxNew3 (.int .i64 q) (.int .i64 z) (.slice b m' cap') 27
  replace st0 := (st0.alloc (.cells #[.int .i64 k] 2)).addBox _ [.int .i64 k] (Box.made _ _ _ _ (fun j v h => by simpa using h))
  replace st0 := st0.boxNew3 (.int .i64 0) (.int .i64 0) (.slice none 0 0) 27
  simp only [World.size_alloc] at st0
  have HG := Lib.hid hc
  clear hs ht hc
  have hcb : (c != 0) = true := by simpa using hc0
  have hcb2 : (c == 0) = false := by simpa using hc0
  go_enter Try.func34, Try.ntmps34
  obtain ⟨c0, c1, c2⟩ := (st0.box 3 (w.heap.size, [.int .i64 x, .int .i64 y, .slice a m cap]) rfl).c3
  obtain ⟨e0, e1, e2⟩ := (st0.box 2 (w.heap.size + 1, [.int .i64 q, .int .i64 z, .slice b m' cap']) rfl).c3
  have q0 := st0.rw 1 ⟨o, lo, hi, .slice a m cap, m, ln, F⟩ rfl
  have q1 := st0.rw 0 ⟨o', lo', hi', .slice b m' cap', m', ln', F'⟩ rfl
  dsimp only at q0 q1
  go_wp2_with fail
  refine (gaussPairCode_any _ _ _ _ _ q0 q1).mono ?_
  rintro e w1 ⟨rfl, b1⟩
  rw [HG.out]
  have st1 := st0.keep b1
  have hz1 := b1.size
  simp only [World.size_alloc] at hz1
  clear st0 b1 q0 q1 c0 c1 c2 e0 e1 e2
  obtain ⟨d0, d1, d2⟩ := (st1.box 0 (w.heap.size + 1 + 1 + 1, [.int .i64 0, .int .i64 0, .slice none 0 0]) rfl).c3
  have dz := (st1.box 0 (w.heap.size + 1 + 1 + 1, [.int .i64 0, .int .i64 0, .slice none 0 0]) rfl).2.2
  dsimp only at dz
  have BB := st1.1
  go_wp2
  refine bodyPost_ret (v := failG c) (by simp [results, Try.results34, go_sem, failG, d0, d1, d2]) rfl ?_
  exact ⟨rfl, by first | exact BB | go_grown⟩


set_option maxRecDepth 100000 in
theorem AddGauss_spec_bad {m' : Nat} (x y q z k c : Int) (w : World) (hs : Rw o w lo hi V m ln F) (ht : Rw o' w lo' hi' V' m' ln' F') (hc : gpC x y m ln F q z m' ln' F' = c) (hc0 : ¬ c = 0) :
    Calls Try.prog 33 #[.agg #[.int .i64 x, .int .i64 y, V], .agg #[.int .i64 q, .int .i64 z, V'], .int .i64 k] w fun e w' => e = .returned (failG c) ∧ Below w.heap.size w w' := by
  obtain ⟨a, cap, rfl⟩ := hs.shape
  obtain ⟨b, cap', rfl⟩ := ht.shape
  have hh := hs.size
  have hh' := ht.size
  have st0 := (((StR.start w).addRw ⟨o, lo, hi, .slice a m cap, m, ln, F⟩ hs).addRw ⟨o', lo', hi', .slice b m' cap', m', ln', F'⟩ ht).boxNew3 (.int .i64 x) (.int .i64 y) (.slice a m cap) 27
  replace st0 := st0.boxNew3 (.int .i64 q) (.int .i64 z) (.slice b m' cap') 27
  replace st0 := st0.boxNew3 (.int .i64 0) (.int .i64 0) (.slice none 0 0) 27
  simp only [World.size_alloc] at st0
  have HG := Lib.hid hc
  clear hs ht hc
  have hcb : (c != 0) = true := by simpa using hc0
  have hcb2 : (c == 0) = false := by simpa using hc0
  go_enter Try.func33, Try.ntmps33
  obtain ⟨c0, c1, c2⟩ := (st0.box 2 (w.heap.size, [.int .i64 x, .int .i64 y, .slice a m cap]) rfl).c3
  obtain ⟨e0, e1, e2⟩ := (st0.box 1 (w.heap.size + 1, [.int .i64 q, .int .i64 z, .slice b m' cap']) rfl).c3
  have q0 := st0.rw 1 ⟨o, lo, hi, .slice a m cap, m, ln, F⟩ rfl
  have q1 := st0.rw 0 ⟨o', lo', hi', .slice b m' cap', m', ln', F'⟩ rfl
  dsimp only at q0 q1
  go_wp2_with fail
  refine (l05Like_any _ _ _ _ _ q0 q1).mono ?_
  rintro e w1 ⟨rfl, b1⟩
  rw [HG.out]
  have st1 := st0.keep b1
  have hz1 := b1.size
  simp only [World.size_alloc] at hz1
  clear st0 b1 q0 q1 c0 c1 c2 e0 e1 e2
  obtain ⟨d0, d1, d2⟩ := (st1.box 0 (w.heap.size + 1 + 1, [.int .i64 0, .int .i64 0, .slice none 0 0]) rfl).c3
  have dz := (st1.box 0 (w.heap.size + 1 + 1, [.int .i64 0, .int .i64 0, .slice none 0 0]) rfl).2.2
  dsimp only at dz
  have BB := st1.1
  go_wp2
  refine bodyPost_ret (v := failG c) (by simp [results, Try.results33, go_sem, failG, d0, d1, d2]) rfl ?_
  exact ⟨rfl, by first | exact BB | go_grown⟩


set_option maxRecDepth 100000 in
set_option maxHeartbeats 2000000 in
theorem AddGauss_impl_ok (N : Nat) (k : Int) (w : World) (hs : Rw o w lo hi V m ln F) (ht : Rw o' w lo' hi' V' m ln' F') (h : GsP (m : Int) (N : Int) m ln F) (h' : GsP (m : Int) (N : Int) m ln' F') (hk1 : -1000 ≤ k) (hk2 : k ≤ 1000) (hfit : ∀ i, i < m → Within (addF k (F i) (F' i)) (phiN N) 1000000000) :
    Calls Try.prog 34 #[.agg #[.int .i64 (m : Int), .int .i64 (N : Int), V], .agg #[.int .i64 (m : Int), .int .i64 (N : Int), V'], .int .i64 k] w fun e w' => ∃ a' c', e = .returned (.tuple #[.agg #[.int .i64 (m : Int), .int .i64 (N : Int), .slice a' m c'], .int .i64 0]) ∧ Rw true w' w.heap.size w'.heap.size (.slice a' m c') m (fun _ => phiN N) (fun i => addF k (F i) (F' i)) ∧ Below w.heap.size w w' := by
  obtain ⟨N', hx, hy, hp, h3, h61, h1, h16, hln, hcy, hwi, hz⟩ := h.nat
  obtain rfl : N' = N := by omega
  obtain ⟨N'', hx', hy', _, _, _, _, _, hln', hcy', hwi', hz'⟩ := h'.nat
  obtain rfl : N'' = N' := by omega
  have hphi := phi_le12 N'' (by omega) h1
  have hphi1 := phiN_pos N'' (by omega) h1
  have HG := Lib.hid (gpC_ok h h' rfl rfl)
  have HP0 := Lib.hid h.1
  have HLN := Lib.hid hln; have HCY := Lib.hid hcy; have HWI := Lib.hid hwi; have HZ := Lib.hid hz
  have HLN' := Lib.hid hln'; have HCY' := Lib.hid hcy'; have HWI' := Lib.hid hwi'; have HZ' := Lib.hid hz'
  obtain ⟨a, cap, rfl⟩ := hs.shape
  obtain ⟨b, cap', rfl⟩ := ht.shape
  have hh := hs.size
  have hh' := ht.size
  have st0 := (((StR.start w).addRw ⟨o, lo, hi, .slice a m cap, m, ln, F⟩ hs).addRw ⟨o', lo', hi', .slice b m cap', m, ln', F'⟩ ht).boxNew3 (.int .i64 (m : Int)) (.int .i64 (N'' : Int)) (.slice a m cap) 27
  replace st0 := st0.boxNew3 (.int .i64 (m : Int)) (.int .i64 (N'' : Int)) (.slice b m cap') 27
  replace st0 := (st0.alloc (.cells #[.int .i64 k] 2)).addBox _ [.int .i64 k] (Box.made _ _ _ _ (fun j v h => by simpa using h))
  replace st0 := st0.boxNew3 (.int .i64 0) (.int .i64 0) (.slice none 0 0) 27
  simp only [World.size_alloc] at st0
  clear hs ht h h' hp hln hcy hwi hz hx hy hln' hcy' hwi' hz' hx' hy'
  have HFIT := Lib.hid hfit; clear hfit
  go_enter Try.func34, Try.ntmps34
  obtain ⟨c0, c1, c2⟩ := (st0.box 3 (w.heap.size, [.int .i64 (m : Int), .int .i64 (N'' : Int), .slice a m cap]) rfl).c3
  obtain ⟨e0, e1, e2⟩ := (st0.box 2 (w.heap.size + 1, [.int .i64 (m : Int), .int .i64 (N'' : Int), .slice b m cap']) rfl).c3
  have q0 := st0.rw 1 ⟨o, lo, hi, .slice a m cap, m, ln, F⟩ rfl
  have q1 := st0.rw 0 ⟨o', lo', hi', .slice b m cap', m, ln', F'⟩ rfl
  dsimp only at q0 q1
  go_wp2_with fail
  refine (gaussPairCode_any _ _ _ _ _ q0 q1).mono ?_
  rintro e w1 ⟨rfl, b1⟩
  rw [HG.out]
  have st1 := st0.keep b1
  have hz1 := b1.size
  simp only [World.size_alloc] at hz1
  clear st0 b1 q0 q1 c0 c1 c2 e0 e1 e2
  have BX := Lib.hid (st1.box 3 (w.heap.size, [.int .i64 (m : Int), .int .i64 (N'' : Int), .slice a m cap]) rfl)
  have BY := Lib.hid (st1.box 2 (w.heap.size + 1, [.int .i64 (m : Int), .int .i64 (N'' : Int), .slice b m cap']) rfl)
  have BK := Lib.hid (st1.box 1 (w.heap.size + 1 + 1, [.int .i64 k]) rfl)
  have RX := Lib.hid (st1.rw 1 ⟨o, lo, hi, .slice a m cap, m, ln, F⟩ rfl)
  have RY := Lib.hid (st1.rw 0 ⟨o', lo', hi', .slice b m cap', m, ln', F'⟩ rfl)
  obtain ⟨c0, c1, c2⟩ := BX.out.c3
  go_wp2_with fail
  refine (gwrAddGauss_ok m N'' (phiN N'') (.pointer (some ⟨w.heap.size, 0, none⟩)) (.pointer (some ⟨w.heap.size + 1, 0, none⟩)) (.pointer (some ⟨w.heap.size + 1 + 1, 0, none⟩)) (fun i => addF k (F i) (F' i)) (by omega) h61 h1 h16 rfl _ (fun i hi w' hb => adOne_ok N'' i w.heap.size (w.heap.size + 1) (w.heap.size + 1 + 1) k w' (BX.out.keep hb) (BY.out.keep hb) (BK.out.keep hb) (RX.out.keep hb RX.out.size) (RY.out.keep hb RY.out.size) hi rfl HLN.out HLN'.out HCY.out HCY'.out hk1 hk2 (HFIT.out i hi))).mono ?_
  rintro e w2 ⟨a2, k2, rfl, s2, b2⟩
  have st2 := st1.keep b2
  have hz2 := b2.size
  have S2 := Lib.hid s2
  clear st1 b2 c0 c1 c2 s2
  obtain ⟨d0, d1, d2⟩ := (st2.box 0 (w.heap.size + 1 + 1 + 1, [.int .i64 0, .int .i64 0, .slice none 0 0]) rfl).c3
  have dz := (st2.box 0 (w.heap.size + 1 + 1 + 1, [.int .i64 0, .int .i64 0, .slice none 0 0]) rfl).2.2
  dsimp only at dz
  have BB := st2.1
  go_wp2
  refine bodyPost_ret (v := .tuple #[.agg #[.int .i64 (m : Int), .int .i64 (N'' : Int), .slice a2 m k2], .int .i64 0]) (by simp [results, Try.results34, go_sem, d0, d1, d2]) rfl ?_
  refine ⟨_, _, rfl, ?_, by go_grown⟩
  exact (((S2.out.setOther (.inl (by show w.heap.size + 1 + 1 + 1 < _; omega)) _).setOther (.inl (by show w.heap.size + 1 + 1 + 1 < _; omega)) _).setOther (.inl (by show w.heap.size + 1 + 1 + 1 < _; omega)) _).wide (by omega) (by simp) (Nat.le_refl _)


set_option maxRecDepth 100000 in
set_option maxHeartbeats 2000000 in
theorem AddGauss_impl_big (N : Nat) (k : Int) (w : World) (hs : Rw o w lo hi V m ln F) (ht : Rw o' w lo' hi' V' m ln' F') (h : GsP (m : Int) (N : Int) m ln F) (h' : GsP (m : Int) (N : Int) m ln' F') (hk1 : -1000 ≤ k) (hk2 : k ≤ 1000) (hfit : ¬ ∀ i, i < m → Within (addF k (F i) (F' i)) (phiN N) 1000000000) :
    Calls Try.prog 34 #[.agg #[.int .i64 (m : Int), .int .i64 (N : Int), V], .agg #[.int .i64 (m : Int), .int .i64 (N : Int), V'], .int .i64 k] w fun e w' => e = .returned (failG 3) ∧ Below w.heap.size w w' := by
  obtain ⟨N', hx, hy, hp, h3, h61, h1, h16, hln, hcy, hwi, hz⟩ := h.nat
  obtain rfl : N' = N := by omega
  obtain ⟨N'', hx', hy', _, _, _, _, _, hln', hcy', hwi', hz'⟩ := h'.nat
  obtain rfl : N'' = N' := by omega
  have hphi := phi_le12 N'' (by omega) h1
  have hphi1 := phiN_pos N'' (by omega) h1
  have HG := Lib.hid (gpC_ok h h' rfl rfl)
  have HP0 := Lib.hid h.1
  have HLN := Lib.hid hln; have HCY := Lib.hid hcy; have HWI := Lib.hid hwi; have HZ := Lib.hid hz
  have HLN' := Lib.hid hln'; have HCY' := Lib.hid hcy'; have HWI' := Lib.hid hwi'; have HZ' := Lib.hid hz'
  obtain ⟨a, cap, rfl⟩ := hs.shape
  obtain ⟨b, cap', rfl⟩ := ht.shape
  have hh := hs.size
  have hh' := ht.size
  have st0 := (((StR.start w).addRw ⟨o, lo, hi, .slice a m cap, m, ln, F⟩ hs).addRw ⟨o', lo', hi', .slice b m cap', m, ln', F'⟩ ht).boxNew3 (.int .i64 (m : Int)) (.int .i64 (N'' : Int)) (.slice a m cap) 27
  replace st0 := st0.boxNew3 (.int .i64 (m : Int)) (.int .i64 (N'' : Int)) (.slice b m cap') 27
  replace st0 := (st0.alloc (.cells #[.int .i64 k] 2)).addBox _ [.int .i64 k] (Box.made _ _ _ _ (fun j v h => by simpa using h))
  replace st0 := st0.boxNew3 (.int .i64 0) (.int .i64 0) (.slice none 0 0) 27
  simp only [World.size_alloc] at st0
  clear hs ht h h' hp hln hcy hwi hz hx hy hln' hcy' hwi' hz' hx' hy'
  obtain ⟨i0, hi0, hn0, hfit'⟩ : ∃ i0, i0 < m ∧ ¬ Within (addF k (F i0) (F' i0)) (phiN N'') 1000000000 ∧ ∀ i, i < i0 → Within (addF k (F i) (F' i)) (phiN N'') 1000000000 := by
    rcases first_fail (P := fun i => Within (addF k (F i) (F' i)) (phiN N'') 1000000000) m with q | q
    · exact absurd q hfit
    · exact q
  have HFIT := Lib.hid hfit'; have HNF := Lib.hid hn0; clear hfit hfit' hn0
  go_enter Try.func34, Try.ntmps34
  obtain ⟨c0, c1, c2⟩ := (st0.box 3 (w.heap.size, [.int .i64 (m : Int), .int .i64 (N'' : Int), .slice a m cap]) rfl).c3
  obtain ⟨e0, e1, e2⟩ := (st0.box 2 (w.heap.size + 1, [.int .i64 (m : Int), .int .i64 (N'' : Int), .slice b m cap']) rfl).c3
  have q0 := st0.rw 1 ⟨o, lo, hi, .slice a m cap, m, ln, F⟩ rfl
  have q1 := st0.rw 0 ⟨o', lo', hi', .slice b m cap', m, ln', F'⟩ rfl
  dsimp only at q0 q1
  go_wp2_with fail
  refine (gaussPairCode_any _ _ _ _ _ q0 q1).mono ?_
  rintro e w1 ⟨rfl, b1⟩
  rw [HG.out]
  have st1 := st0.keep b1
  have hz1 := b1.size
  simp only [World.size_alloc] at hz1
  clear st0 b1 q0 q1 c0 c1 c2 e0 e1 e2
  have BX := Lib.hid (st1.box 3 (w.heap.size, [.int .i64 (m : Int), .int .i64 (N'' : Int), .slice a m cap]) rfl)
  have BY := Lib.hid (st1.box 2 (w.heap.size + 1, [.int .i64 (m : Int), .int .i64 (N'' : Int), .slice b m cap']) rfl)
  have BK := Lib.hid (st1.box 1 (w.heap.size + 1 + 1, [.int .i64 k]) rfl)
  have RX := Lib.hid (st1.rw 1 ⟨o, lo, hi, .slice a m cap, m, ln, F⟩ rfl)
  have RY := Lib.hid (st1.rw 0 ⟨o', lo', hi', .slice b m cap', m, ln', F'⟩ rfl)
  obtain ⟨c0, c1, c2⟩ := BX.out.c3
  go_wp2_with fail
  refine (gwrAddGauss_bad m N'' (phiN N'') (.pointer (some ⟨w.heap.size, 0, none⟩)) (.pointer (some ⟨w.heap.size + 1, 0, none⟩)) (.pointer (some ⟨w.heap.size + 1 + 1, 0, none⟩)) (fun i => addF k (F i) (F' i)) (by omega) h61 h1 h16 rfl _ 3 (by decide) i0 hi0 (fun i hi w' hb => adOne_ok N'' i w.heap.size (w.heap.size + 1) (w.heap.size + 1 + 1) k w' (BX.out.keep hb) (BY.out.keep hb) (BK.out.keep hb) (RX.out.keep hb RX.out.size) (RY.out.keep hb RY.out.size) (by omega) rfl HLN.out HLN'.out HCY.out HCY'.out hk1 hk2 (HFIT.out i hi)) (fun w' hb => adOne_bad N'' i0 w.heap.size (w.heap.size + 1) (w.heap.size + 1 + 1) k w' (BX.out.keep hb) (BY.out.keep hb) (BK.out.keep hb) (RX.out.keep hb RX.out.size) (RY.out.keep hb RY.out.size) hi0 rfl HLN.out HLN'.out HCY.out HCY'.out hk1 hk2 HNF.out)).mono ?_
  rintro e w2 ⟨rfl, b2⟩
  have st2 := st1.keep b2
  have hz2 := b2.size
  unfold failG
  clear st1 b2 c0 c1 c2
  obtain ⟨d0, d1, d2⟩ := (st2.box 0 (w.heap.size + 1 + 1 + 1, [.int .i64 0, .int .i64 0, .slice none 0 0]) rfl).c3
  have dz := (st2.box 0 (w.heap.size + 1 + 1 + 1, [.int .i64 0, .int .i64 0, .slice none 0 0]) rfl).2.2
  dsimp only at dz
  have BB := st2.1
  go_wp2
  refine bodyPost_ret (v := .tuple #[.agg #[.int .i64 0, .int .i64 0, .slice none 0 0], .int .i64 3]) (by simp [results, Try.results34, go_sem, d0, d1, d2]) rfl ?_
  exact ⟨rfl, by go_grown⟩


set_option maxRecDepth 100000 in
set_option maxHeartbeats 2000000 in
theorem AddGauss_impl_out (N : Nat) (k : Int) (w : World) (hs : Rw o w lo hi V m ln F) (ht : Rw o' w lo' hi' V' m ln' F') (h : GsP (m : Int) (N : Int) m ln F) (h' : GsP (m : Int) (N : Int) m ln' F') (hk : k < -1000 ∨ 1000 < k) :
    Calls Try.prog 34 #[.agg #[.int .i64 (m : Int), .int .i64 (N : Int), V], .agg #[.int .i64 (m : Int), .int .i64 (N : Int), V'], .int .i64 k] w fun e w' => e = .returned (failG 2) ∧ Below w.heap.size w w' := by
  obtain ⟨N', hx, hy, hp, h3, h61, h1, h16, hln, hcy, hwi, hz⟩ := h.nat
  obtain rfl : N' = N := by omega
  obtain ⟨N'', hx', hy', _, _, _, _, _, hln', hcy', hwi', hz'⟩ := h'.nat
  obtain rfl : N'' = N' := by omega
  have hphi := phi_le12 N'' (by omega) h1
  have hphi1 := phiN_pos N'' (by omega) h1
  have HG := Lib.hid (gpC_ok h h' rfl rfl)
  have HP0 := Lib.hid h.1
  have HLN := Lib.hid hln; have HCY := Lib.hid hcy; have HWI := Lib.hid hwi; have HZ := Lib.hid hz
  have HLN' := Lib.hid hln'; have HCY' := Lib.hid hcy'; have HWI' := Lib.hid hwi'; have HZ' := Lib.hid hz'
  obtain ⟨a, cap, rfl⟩ := hs.shape
  obtain ⟨b, cap', rfl⟩ := ht.shape
  have hh := hs.size
  have hh' := ht.size
  have st0 := (((StR.start w).addRw ⟨o, lo, hi, .slice a m cap, m, ln, F⟩ hs).addRw ⟨o', lo', hi', .slice b m cap', m, ln', F'⟩ ht).boxNew3 (.int .i64 (m : Int)) (.int .i64 (N'' : Int)) (.slice a m cap) 27
  replace st0 := st0.boxNew3 (.int .i64 (m : Int)) (.int .i64 (N'' : Int)) (.slice b m cap') 27
  replace st0 := (st0.alloc (.cells #[.int .i64 k] 2)).addBox _ [.int .i64 k] (Box.made _ _ _ _ (fun j v h => by simpa using h))
  replace st0 := st0.boxNew3 (.int .i64 0) (.int .i64 0) (.slice none 0 0) 27
  simp only [World.size_alloc] at st0
  clear hs ht h h' hp hln hcy hwi hz hx hy hln' hcy' hwi' hz' hx' hy'
  have HK := Lib.hid hk; clear hk
  go_enter Try.func34, Try.ntmps34
  obtain ⟨c0, c1, c2⟩ := (st0.box 3 (w.heap.size, [.int .i64 (m : Int), .int .i64 (N'' : Int), .slice a m cap]) rfl).c3
  obtain ⟨e0, e1, e2⟩ := (st0.box 2 (w.heap.size + 1, [.int .i64 (m : Int), .int .i64 (N'' : Int), .slice b m cap']) rfl).c3
  have q0 := st0.rw 1 ⟨o, lo, hi, .slice a m cap, m, ln, F⟩ rfl
  have q1 := st0.rw 0 ⟨o', lo', hi', .slice b m cap', m, ln', F'⟩ rfl
  dsimp only at q0 q1
  go_wp2_with fail
  refine (gaussPairCode_any _ _ _ _ _ q0 q1).mono ?_
  rintro e w1 ⟨rfl, b1⟩
  rw [HG.out]
  have st1 := st0.keep b1
  have hz1 := b1.size
  simp only [World.size_alloc] at hz1
  clear st0 b1 q0 q1 c0 c1 c2 e0 e1 e2
  have BX := Lib.hid (st1.box 3 (w.heap.size, [.int .i64 (m : Int), .int .i64 (N'' : Int), .slice a m cap]) rfl)
  have BY := Lib.hid (st1.box 2 (w.heap.size + 1, [.int .i64 (m : Int), .int .i64 (N'' : Int), .slice b m cap']) rfl)
  have BK := Lib.hid (st1.box 1 (w.heap.size + 1 + 1, [.int .i64 k]) rfl)
  have RX := Lib.hid (st1.rw 1 ⟨o, lo, hi, .slice a m cap, m, ln, F⟩ rfl)
  have RY := Lib.hid (st1.rw 0 ⟨o', lo', hi', .slice b m cap', m, ln', F'⟩ rfl)
  obtain ⟨c0, c1, c2⟩ := BX.out.c3
  go_wp2_with fail
  refine (gwrAddGauss_bad m N'' (phiN N'') (.pointer (some ⟨w.heap.size, 0, none⟩)) (.pointer (some ⟨w.heap.size + 1, 0, none⟩)) (.pointer (some ⟨w.heap.size + 1 + 1, 0, none⟩)) (fun i => addF k (F i) (F' i)) (by omega) h61 h1 h16 rfl _ 2 (by decide) 0 (by omega) (fun i hi => absurd hi (Nat.not_lt_zero _)) (fun w' hb => adOne_out N'' 0 w.heap.size (w.heap.size + 1) (w.heap.size + 1 + 1) k w' (BX.out.keep hb) (BY.out.keep hb) (BK.out.keep hb) (RX.out.keep hb RX.out.size) (RY.out.keep hb RY.out.size) (by omega) rfl HLN.out HLN'.out HCY.out HCY'.out HK.out)).mono ?_
  rintro e w2 ⟨rfl, b2⟩
  have st2 := st1.keep b2
  have hz2 := b2.size
  unfold failG
  clear st1 b2 c0 c1 c2
  obtain ⟨d0, d1, d2⟩ := (st2.box 0 (w.heap.size + 1 + 1 + 1, [.int .i64 0, .int .i64 0, .slice none 0 0]) rfl).c3
  have dz := (st2.box 0 (w.heap.size + 1 + 1 + 1, [.int .i64 0, .int .i64 0, .slice none 0 0]) rfl).2.2
  dsimp only at dz
  have BB := st2.1
  go_wp2
  refine bodyPost_ret (v := .tuple #[.agg #[.int .i64 0, .int .i64 0, .slice none 0 0], .int .i64 2]) (by simp [results, Try.results34, go_sem, d0, d1, d2]) rfl ?_
  exact ⟨rfl, by go_grown⟩


set_option maxRecDepth 100000 in
set_option maxHeartbeats 2000000 in
theorem AddGauss_spec_out (N : Nat) (k : Int) (w : World) (hs : Rw o w lo hi V m ln F) (ht : Rw o' w lo' hi' V' m ln' F') (h : GsP (m : Int) (N : Int) m ln F) (h' : GsP (m : Int) (N : Int) m ln' F') (hk : k < -1000 ∨ 1000 < k) :
    Calls Try.prog 33 #[.agg #[.int .i64 (m : Int), .int .i64 (N : Int), V], .agg #[.int .i64 (m : Int), .int .i64 (N : Int), V'], .int .i64 k] w fun e w' => e = .returned (failG 2) ∧ Below w.heap.size w w' := by
  obtain ⟨N', hx, hy, hp, h3, h61, h1, h16, hln, hcy, hwi, hz⟩ := h.nat
  obtain rfl : N' = N := by omega
  obtain ⟨N'', hx', hy', _, _, _, _, _, hln', hcy', hwi', hz'⟩ := h'.nat
  obtain rfl : N'' = N' := by omega
  have hphi := phi_le12 N'' (by omega) h1
  have hphi1 := phiN_pos N'' (by omega) h1
  have HG := Lib.hid (gpC_ok h h' rfl rfl)
  have HP0 := Lib.hid h.1
  have HLN := Lib.hid hln; have HCY := Lib.hid hcy; have HWI := Lib.hid hwi; have HZ := Lib.hid hz
  have HLN' := Lib.hid hln'; have HCY' := Lib.hid hcy'; have HWI' := Lib.hid hwi'; have HZ' := Lib.hid hz'
  obtain ⟨a, cap, rfl⟩ := hs.shape
  obtain ⟨b, cap', rfl⟩ := ht.shape
  have hh := hs.size
  have hh' := ht.size
  have st0 := (((StR.start w).addRw ⟨o, lo, hi, .slice a m cap, m, ln, F⟩ hs).addRw ⟨o', lo', hi', .slice b m cap', m, ln', F'⟩ ht).boxNew3 (.int .i64 (m : Int)) (.int .i64 (N'' : Int)) (.slice a m cap) 27
  replace st0 := st0.boxNew3 (.int .i64 (m : Int)) (.int .i64 (N'' : Int)) (.slice b m cap') 27
  replace st0 := st0.boxNew3 (.int .i64 0) (.int .i64 0) (.slice none 0 0) 27
  simp only [World.size_alloc] at st0
  clear hs ht h h' hp hln hcy hwi hz hx hy hln' hcy' hwi' hz' hx' hy'
  have HK := Lib.hid hk; clear hk
  go_enter Try.func33, Try.ntmps33
  obtain ⟨c0, c1, c2⟩ := (st0.box 2 (w.heap.size, [.int .i64 (m : Int), .int .i64 (N'' : Int), .slice a m cap]) rfl).c3
  obtain ⟨e0, e1, e2⟩ := (st0.box 1 (w.heap.size + 1, [.int .i64 (m : Int), .int .i64 (N'' : Int), .slice b m cap']) rfl).c3
  have q0 := st0.rw 1 ⟨o, lo, hi, .slice a m cap, m, ln, F⟩ rfl
  have q1 := st0.rw 0 ⟨o', lo', hi', .slice b m cap', m, ln', F'⟩ rfl
  dsimp only at q0 q1
  go_wp2_with fail
  refine (l05Like_any _ _ _ _ _ q0 q1).mono ?_
  rintro e w1 ⟨rfl, b1⟩
  rw [HG.out]
  have st1 := st0.keep b1
  have hz1 := b1.size
  simp only [World.size_alloc] at hz1
  clear st0 b1 q0 q1 c0 c1 c2 e0 e1 e2
  go_wp2_with fail
  refine (l01In_no _ _ _ _ HK.out).mono ?_
  rintro e w2 ⟨rfl, rfl⟩
  obtain ⟨d0, d1, d2⟩ := (st1.box 0 (w.heap.size + 1 + 1, [.int .i64 0, .int .i64 0, .slice none 0 0]) rfl).c3
  have dz := (st1.box 0 (w.heap.size + 1 + 1, [.int .i64 0, .int .i64 0, .slice none 0 0]) rfl).2.2
  dsimp only at dz
  have BB := st1.1
  go_wp2
  refine bodyPost_ret (v := failG 2) (by simp [results, Try.results33, go_sem, failG, d0, d1, d2]) rfl ?_
  exact ⟨rfl, by first | exact BB | go_grown⟩


set_option maxRecDepth 100000 in
set_option maxHeartbeats 4000000 in
theorem AddGauss_spec_ok (N : Nat) (k : Int) (w : World) (hs : Rw o w lo hi V m ln F) (ht : Rw o' w lo' hi' V' m ln' F') (h : GsP (m : Int) (N : Int) m ln F) (h' : GsP (m : Int) (N : Int) m ln' F') (hk1 : -1000 ≤ k) (hk2 : k ≤ 1000) (hfit : ∀ i, i < m → Within (addF k (F i) (F' i)) (phiN N) 1000000000) :
    Calls Try.prog 33 #[.agg #[.int .i64 (m : Int), .int .i64 (N : Int), V], .agg #[.int .i64 (m : Int), .int .i64 (N : Int), V'], .int .i64 k] w fun e w' => ∃ a' c', e = .returned (.tuple #[.agg #[.int .i64 (m : Int), .int .i64 (N : Int), .slice a' m c'], .int .i64 0]) ∧ Rw true w' w.heap.size w'.heap.size (.slice a' m c') m (fun _ => phiN N) (fun i => addF k (F i) (F' i)) ∧ Below w.heap.size w w' := by
  obtain ⟨N', hx, hy, hp, h3, h61, h1, h16, hln, hcy, hwi, hz⟩ := h.nat
  obtain rfl : N' = N := by omega
  obtain ⟨N'', hx', hy', _, _, _, _, _, hln', hcy', hwi', hz'⟩ := h'.nat
  obtain rfl : N'' = N' := by omega
  have hphi := phi_le12 N'' (by omega) h1
  have hphi1 := phiN_pos N'' (by omega) h1
  have HG := Lib.hid (gpC_ok h h' rfl rfl)
  have HP0 := Lib.hid h.1
  have HLN := Lib.hid hln; have HCY := Lib.hid hcy; have HWI := Lib.hid hwi; have HZ := Lib.hid hz
  have HLN' := Lib.hid hln'; have HCY' := Lib.hid hcy'; have HWI' := Lib.hid hwi'; have HZ' := Lib.hid hz'
  obtain ⟨a, cap, rfl⟩ := hs.shape
  obtain ⟨b, cap', rfl⟩ := ht.shape
  have hh := hs.size
  have hh' := ht.size
  have st0 := (((StR.start w).addRw ⟨o, lo, hi, .slice a m cap, m, ln, F⟩ hs).addRw ⟨o', lo', hi', .slice b m cap', m, ln', F'⟩ ht).boxNew3 (.int .i64 (m : Int)) (.int .i64 (N'' : Int)) (.slice a m cap) 27
  replace st0 := st0.boxNew3 (.int .i64 (m : Int)) (.int .i64 (N'' : Int)) (.slice b m cap') 27
  replace st0 := st0.boxNew3 (.int .i64 0) (.int .i64 0) (.slice none 0 0) 27
  simp only [World.size_alloc] at st0
  clear hs ht h h' hp hln hcy hwi hz hx hy hln' hcy' hwi' hz' hx' hy'
  have HFIT := Lib.hid hfit; clear hfit
  obtain ⟨L, hL⟩ : ∃ L, phiN N'' = L := ⟨_, rfl⟩
  rw [hL] at HLN HCY HWI HZ HLN' HCY' HWI' HZ' HFIT hphi hphi1 ⊢
  have HL := Lib.hid hL
  have HLP := Lib.hid (show L = phiI (N'' : Int) from hL.symm)
  clear hL
  go_enter Try.func33, Try.ntmps33
  obtain ⟨c0, c1, c2⟩ := (st0.box 2 (w.heap.size, [.int .i64 (m : Int), .int .i64 (N'' : Int), .slice a m cap]) rfl).c3
  obtain ⟨e0, e1, e2⟩ := (st0.box 1 (w.heap.size + 1, [.int .i64 (m : Int), .int .i64 (N'' : Int), .slice b m cap']) rfl).c3
  have q0 := st0.rw 1 ⟨o, lo, hi, .slice a m cap, m, ln, F⟩ rfl
  have q1 := st0.rw 0 ⟨o', lo', hi', .slice b m cap', m, ln', F'⟩ rfl
  dsimp only at q0 q1
  go_wp2_with fail
  refine (l05Like_any _ _ _ _ _ q0 q1).mono ?_
  rintro e w1 ⟨rfl, b1⟩
  rw [HG.out]
  have st1 := st0.keep b1
  have hz1 := b1.size
  simp only [World.size_alloc] at hz1
  clear st0 b1 q0 q1 c0 c1 c2 e0 e1 e2
  go_wp2_with fail
  refine (l01In_yes _ _ _ _ (by omega) (by omega)).mono ?_
  rintro e w2 ⟨rfl, rfl⟩
  obtain ⟨c0, c1, c2⟩ := (st1.box 2 (w.heap.size, [.int .i64 (m : Int), .int .i64 (N'' : Int), .slice a m cap]) rfl).c3
  go_wp2_with fail
  refine (l05Zeros_any m N'' h61 h1 h16 _).mono ?_
  rintro e w2 ⟨g, cp, uz, rfl, hz, b2⟩
  rw [HL.out] at hz
  have st2 := st1.keep b2
  have hz2 := b2.size
  obtain ⟨B, hB⟩ : ∃ B, w1.heap.size = B := ⟨_, rfl⟩
  obtain ⟨H, hH⟩ : ∃ H, w2.heap.size = H := ⟨_, rfl⟩
  rw [hB] at hz hz1 hz2
  rw [hH] at hz hz2
  have hHr : H ≤ w2.heap.size := by omega
  have HZR := Lib.hid hz; have HST := Lib.hid st2
  clear st1 st2 hz b2 c0 c1 c2 hB hH
  go_wp2
  go_loopw [10] (fun s wr => ∃ t : Nat, t ≤ m ∧ s = .int .i64 t ∧ H ≤ wr.heap.size ∧ RwU true wr B H g 0 cp m uz (fun _ => L) (adT k F F' t 0) ∧ StR w wr [(w.heap.size + 1 + 1, [.int .i64 0, .int .i64 0, .slice none 0 0]), (w.heap.size + 1, [.int .i64 (m : Int), .int .i64 (N'' : Int), .slice b m cap']), (w.heap.size, [.int .i64 (m : Int), .int .i64 (N'' : Int), .slice a m cap])] [] [⟨o', lo', hi', .slice b m cap', m, ln', F'⟩, ⟨o, lo, hi, .slice a m cap, m, ln, F⟩]) (fun s _ => m - (intOf s).toNat)
  case atStart => exact ⟨0, Nat.zero_le _, rfl, hHr, HZR.out.congr (fun _ _ => rfl) (fun i j _ _ => by unfold adT; rw [if_neg (by omega)]), HST.out⟩
  case round =>
    clear HZR HST
    obtain ⟨t, ht, rfl, hHr, hu, hst⟩ := hrel
    have HU := Lib.hid hu; have HS := Lib.hid hst; clear hu hst
    by_cases hlt : t < m
    · have cq := HU.out.head hlt
      rw [Nat.zero_add] at cq
      obtain ⟨g1, o1, k1, hu1, hg11, hg12, _⟩ := (HU.out.row hlt).at (show 0 < L by omega)
      rw [hu1] at cq
      have HU1 := Lib.hid hu1
      clear hu1
      go_wp2
      clear cq
      go_loopw [12] (fun s wr => ∃ q : Nat, q ≤ L ∧ s = .int .i64 q ∧ H ≤ wr.heap.size ∧ RwU true wr B H g 0 cp m uz (fun _ => L) (adT k F F' t q) ∧ StR w wr [(w.heap.size + 1 + 1, [.int .i64 0, .int .i64 0, .slice none 0 0]), (w.heap.size + 1, [.int .i64 (m : Int), .int .i64 (N'' : Int), .slice b m cap']), (w.heap.size, [.int .i64 (m : Int), .int .i64 (N'' : Int), .slice a m cap])] [] [⟨o', lo', hi', .slice b m cap', m, ln', F'⟩, ⟨o, lo, hi, .slice a m cap, m, ln, F⟩]) (fun s _ => L - (intOf s).toNat)
      case atStart => exact ⟨0, Nat.zero_le _, rfl, hHr, HU.out, HS.out⟩
      case round =>
        clear HU HS hHr
        obtain ⟨q, hq, rfl, hHr, hu, hst⟩ := hrel
        have HU := Lib.hid hu; have HS := Lib.hid hst; clear hu hst
        by_cases hlq : q < L
        · obtain ⟨c0, c1, c2⟩ := (HS.out.box 2 (w.heap.size, [.int .i64 (m : Int), .int .i64 (N'' : Int), .slice a m cap]) rfl).c3
          obtain ⟨e0, e1, e2⟩ := (HS.out.box 1 (w.heap.size + 1, [.int .i64 (m : Int), .int .i64 (N'' : Int), .slice b m cap']) rfl).c3
          obtain ⟨ga, offa, cpa, ua, hva, hra⟩ := (HS.out.rw 1 ⟨o, lo, hi, .slice a m cap, m, ln, F⟩ rfl).at (show 0 < m by omega)
          obtain ⟨gb, offb, cpb, ub, hvb, hrb⟩ := (HS.out.rw 0 ⟨o', lo', hi', .slice b m cap', m, ln', F'⟩ rfl).at (show 0 < m by omega)
          dsimp only at hva hra hvb hrb
          obtain ⟨rfl, rfl⟩ : a = some ⟨ga, offa, none⟩ ∧ cap = cpa := by cases hva; exact ⟨rfl, rfl⟩
          obtain ⟨rfl, rfl⟩ : b = some ⟨gb, offb, none⟩ ∧ cap' = cpb := by cases hvb; exact ⟨rfl, rfl⟩
          have cka := hra.head hlt
          have ckb := hrb.head hlt
          have hrowa := hra.row hlt
          have hrowb := hrb.row hlt
          rw [HLN.out t hlt] at hrowa
          rw [HLN'.out t hlt] at hrowb
          obtain ⟨g2, o2, k2, hu2, _, _, _, _, hc2, _⟩ := hrowa.at (show 0 < L by omega)
          obtain ⟨g3, o3, k3, hu3, _, _, _, _, hc3, _⟩ := hrowb.at (show 0 < L by omega)
          rw [hu2] at cka
          rw [hu3] at ckb
          have da := hc2 q hlq
          have db := hc3 q hlq
          have hxq := HWI.out t hlt q hlq
          have hyq := HWI'.out t hlt q hlq
          obtain ⟨P, hP⟩ : ∃ P, F t q = P := ⟨_, rfl⟩
          obtain ⟨Q, hQ⟩ : ∃ Q, F' t q = Q := ⟨_, rfl⟩
          rw [hP] at da hxq
          rw [hQ] at db hyq
          have hmp := mul_part hk1 hk2 hyq.1 hyq.2
          have hwm : IntKind.i64.wrap (k * Q) = k * Q := IntWalk.i64_in _ (by omega)
          have hwa : IntKind.i64.wrap (P + k * Q) = P + k * Q := IntWalk.i64_in _ (by omega)
          have HPQ := Lib.hid (show F t q + k * F' t q = P + k * Q by rw [hP, hQ])
          have hrow := HU.out.row hlt
          rw [HU1.out] at hrow
          obtain ⟨_, _, _, hcq, hcz⟩ := hrow.known (by omega)
          have cqq := hcq q hlq
          have cqz := hcz rfl (o1 + q)
          have UP := Lib.hid (HU.out.store (y := P + k * Q) hlt HU1.out hlq (by unfold inR; omega))
          have SP := Lib.hid (HS.out.write (lo := g1) (hi := g1 + 1) ((Frame.refl g1 (g1 + 1) wr).setCell (p := ⟨g1, o1 + q, none⟩) (Nat.le_refl _) (Nat.lt_succ_self _) (.int .i64 (P + k * Q))) (by omega) (by intro b hb; simp only [List.mem_cons, List.not_mem_nil, or_false] at hb; rcases hb with rfl | rfl | rfl <;> dsimp only <;> omega) (by intro s hs'; cases hs') (by intro s hs'; simp only [List.mem_cons, List.not_mem_nil, or_false] at hs'; rcases hs' with rfl | rfl <;> dsimp only <;> omega))
          have hlqI : (q : Int) < (L : Int) := by omega
          have hltI : (t : Int) < (m : Int) := by omega
          clear hva hra hvb hrb hrowa hrowb hu2 hu3 hc2 hc3 hP hQ hrow hcq hcz HU HS hxq hyq hmp
          go_wp2
          go_region
          all_goals
            go_wp2
            go_roundw
            case rel =>
              refine ⟨q + 1, by omega, by go_num, by simp; omega, ?_, by first | exact SP.out | exact SP.out.drew | exact SP.out.drewN _⟩
              refine RwU.congr (by first | exact UP.out | exact UP.out.drew | exact UP.out.drewN _) (fun _ _ => rfl) (fun i j hi hj => ?_)
              rw [adT_next, HPQ.out]
            case measure => simp [intOf]; omega
        · obtain rfl : q = L := by omega
          go_wp2
          go_roundw
          case rel => exact ⟨t + 1, by omega, by go_num, hHr, HU.out.congr (fun _ _ => rfl) (fun i j _ hj => (adT_end hj).symm), HS.out⟩
          case measure => simp [intOf]; omega
    · obtain rfl : t = m := by omega
      have HV0 := Lib.hid (show ∀ i j, i < t → adT k F F' t 0 i j = addF k (F i) (F' i) j from fun i j hi => by unfold adT addF; rw [if_pos (.inl hi)])
      have HZ0 := Lib.hid (show ∀ j, j < L → adT k F F' t 0 0 j = 0 from fun j hj => by rw [HV0.out 0 j (by omega)]; unfold addF; rw [HZ.out j hj, HZ'.out j hj]; omega)
      have HV := Lib.hid (show ∀ i j, i < t → j < L → adT k F F' t 0 i j - adT k F F' t 0 0 j = addF k (F i) (F' i) j from fun i j hi hj => by rw [HZ0.out j hj, HV0.out i j hi]; omega)
      have HB := Lib.hid (show ∀ i j, i < t → j < L → inR (adT k F F' t 0 i j) from fun i j hi hj => HU.out.rw.bd hi hj)
      obtain ⟨c0, c1, c2⟩ := (HS.out.box 2 (w.heap.size, [.int .i64 (t : Int), .int .i64 (N'' : Int), .slice a t cap]) rfl).c3
      go_wp2_with fail
      refine (l05Normal_any _ _ _ HU.out.rw (by omega) h61 hphi (fun i j hi hj => by have := HB.out i j hi hj; rw [HZ0.out j hj]; unfold inR at *; omega)).mono ?_
      rintro e w3 ⟨a3, k3, rfl, s3, b3⟩
      have hz3 := b3.size
      have S3 := HS.out.keep b3
      clear b3 HU HS c0 c1 c2
      have HY := Lib.hid (show GsP (t : Int) (N'' : Int) t (fun _ => L) (fun i j => adT k F F' t 0 i j - adT k F F' t 0 0 j) from ⟨HP0.out, rfl, fun i hi => ⟨by omega, by omega, HLP.out, fun j hj => by have h2 := HFIT.out i hi j hj; rw [← HV.out i j hi hj] at h2; exact h2⟩, fun j hj => by show adT k F F' t 0 0 j - adT k F F' t 0 0 j = 0; omega⟩)
      go_wp2_with fail
      refine (l05Told_yes _ _ _ s3 HY.out).mono ?_
      rintro e w4 ⟨rfl, b4⟩
      have st4 := (S3.keep b4).alloc (.cells #[.int .i64 (t : Int), .int .i64 (N'' : Int), .slice a3 t k3] 27)
      have hz4 := b4.size
      have S4 := Lib.hid ((s3.keep b4 s3.size).alloc (.cells #[.int .i64 (t : Int), .int .i64 (N'' : Int), .slice a3 t k3] 27))
      clear S3 b4 s3
      obtain ⟨d0, d1, d2⟩ := (st4.box 0 (w.heap.size + 1 + 1, [.int .i64 0, .int .i64 0, .slice none 0 0]) rfl).c3
      have dz := (st4.box 0 (w.heap.size + 1 + 1, [.int .i64 0, .int .i64 0, .slice none 0 0]) rfl).2.2
      dsimp only at dz
      have BB := st4.1
      skip
      go_wp2
      refine bodyPost_ret (v := .tuple #[.agg #[.int .i64 (t : Int), .int .i64 (N'' : Int), .slice a3 t k3], .int .i64 0]) (by simp [results, Try.results33, go_sem, d0, d1, d2]) rfl ?_
      refine ⟨_, _, rfl, ?_, by go_grown⟩
      exact ((((S4.out.setOther (.inl (by show w.heap.size + 1 + 1 < _; omega)) _).setOther (.inl (by show w.heap.size + 1 + 1 < _; omega)) _).setOther (.inl (by show w.heap.size + 1 + 1 < _; omega)) _).wide (by omega) (by simp; omega) (Nat.le_refl _)).congr (fun _ _ => rfl) (fun i j hi hj => (HV.out i j hi hj).symm)


set_option maxRecDepth 100000 in
set_option maxHeartbeats 4000000 in
theorem AddGauss_spec_big (N : Nat) (k : Int) (w : World) (hs : Rw o w lo hi V m ln F) (ht : Rw o' w lo' hi' V' m ln' F') (h : GsP (m : Int) (N : Int) m ln F) (h' : GsP (m : Int) (N : Int) m ln' F') (hk1 : -1000 ≤ k) (hk2 : k ≤ 1000) (hfit : ¬ ∀ i, i < m → Within (addF k (F i) (F' i)) (phiN N) 1000000000) :
    Calls Try.prog 33 #[.agg #[.int .i64 (m : Int), .int .i64 (N : Int), V], .agg #[.int .i64 (m : Int), .int .i64 (N : Int), V'], .int .i64 k] w fun e w' => e = .returned (failG 3) ∧ Below w.heap.size w w' := by
  obtain ⟨N', hx, hy, hp, h3, h61, h1, h16, hln, hcy, hwi, hz⟩ := h.nat
  obtain rfl : N' = N := by omega
  obtain ⟨N'', hx', hy', _, _, _, _, _, hln', hcy', hwi', hz'⟩ := h'.nat
  obtain rfl : N'' = N' := by omega
  have hphi := phi_le12 N'' (by omega) h1
  have hphi1 := phiN_pos N'' (by omega) h1
  have HG := Lib.hid (gpC_ok h h' rfl rfl)
  have HP0 := Lib.hid h.1
  have HLN := Lib.hid hln; have HCY := Lib.hid hcy; have HWI := Lib.hid hwi; have HZ := Lib.hid hz
  have HLN' := Lib.hid hln'; have HCY' := Lib.hid hcy'; have HWI' := Lib.hid hwi'; have HZ' := Lib.hid hz'
  obtain ⟨a, cap, rfl⟩ := hs.shape
  obtain ⟨b, cap', rfl⟩ := ht.shape
  have hh := hs.size
  have hh' := ht.size
  have st0 := (((StR.start w).addRw ⟨o, lo, hi, .slice a m cap, m, ln, F⟩ hs).addRw ⟨o', lo', hi', .slice b m cap', m, ln', F'⟩ ht).boxNew3 (.int .i64 (m : Int)) (.int .i64 (N'' : Int)) (.slice a m cap) 27
  replace st0 := st0.boxNew3 (.int .i64 (m : Int)) (.int .i64 (N'' : Int)) (.slice b m cap') 27
  replace st0 := st0.boxNew3 (.int .i64 0) (.int .i64 0) (.slice none 0 0) 27
  simp only [World.size_alloc] at st0
  clear hs ht h h' hp hln hcy hwi hz hx hy hln' hcy' hwi' hz' hx' hy'
  have HFIT := Lib.hid hfit; clear hfit
  obtain ⟨L, hL⟩ : ∃ L, phiN N'' = L := ⟨_, rfl⟩
  rw [hL] at HLN HCY HWI HZ HLN' HCY' HWI' HZ' HFIT hphi hphi1
  have HL := Lib.hid hL
  have HLP := Lib.hid (show L = phiI (N'' : Int) from hL.symm)
  clear hL
  go_enter Try.func33, Try.ntmps33
  obtain ⟨c0, c1, c2⟩ := (st0.box 2 (w.heap.size, [.int .i64 (m : Int), .int .i64 (N'' : Int), .slice a m cap]) rfl).c3
  obtain ⟨e0, e1, e2⟩ := (st0.box 1 (w.heap.size + 1, [.int .i64 (m : Int), .int .i64 (N'' : Int), .slice b m cap']) rfl).c3
  have q0 := st0.rw 1 ⟨o, lo, hi, .slice a m cap, m, ln, F⟩ rfl
  have q1 := st0.rw 0 ⟨o', lo', hi', .slice b m cap', m, ln', F'⟩ rfl
  dsimp only at q0 q1
  go_wp2_with fail
  refine (l05Like_any _ _ _ _ _ q0 q1).mono ?_
  rintro e w1 ⟨rfl, b1⟩
  rw [HG.out]
  have st1 := st0.keep b1
  have hz1 := b1.size
  simp only [World.size_alloc] at hz1
  clear st0 b1 q0 q1 c0 c1 c2 e0 e1 e2
  go_wp2_with fail
  refine (l01In_yes _ _ _ _ (by omega) (by omega)).mono ?_
  rintro e w2 ⟨rfl, rfl⟩
  obtain ⟨c0, c1, c2⟩ := (st1.box 2 (w.heap.size, [.int .i64 (m : Int), .int .i64 (N'' : Int), .slice a m cap]) rfl).c3
  go_wp2_with fail
  refine (l05Zeros_any m N'' h61 h1 h16 _).mono ?_
  rintro e w2 ⟨g, cp, uz, rfl, hz, b2⟩
  rw [HL.out] at hz
  have st2 := st1.keep b2
  have hz2 := b2.size
  obtain ⟨B, hB⟩ : ∃ B, w1.heap.size = B := ⟨_, rfl⟩
  obtain ⟨H, hH⟩ : ∃ H, w2.heap.size = H := ⟨_, rfl⟩
  rw [hB] at hz hz1 hz2
  rw [hH] at hz hz2
  have hHr : H ≤ w2.heap.size := by omega
  have HZR := Lib.hid hz; have HST := Lib.hid st2
  clear st1 st2 hz b2 c0 c1 c2 hB hH
  go_wp2
  go_loopw [10] (fun s wr => ∃ t : Nat, t ≤ m ∧ s = .int .i64 t ∧ H ≤ wr.heap.size ∧ RwU true wr B H g 0 cp m uz (fun _ => L) (adT k F F' t 0) ∧ StR w wr [(w.heap.size + 1 + 1, [.int .i64 0, .int .i64 0, .slice none 0 0]), (w.heap.size + 1, [.int .i64 (m : Int), .int .i64 (N'' : Int), .slice b m cap']), (w.heap.size, [.int .i64 (m : Int), .int .i64 (N'' : Int), .slice a m cap])] [] [⟨o', lo', hi', .slice b m cap', m, ln', F'⟩, ⟨o, lo, hi, .slice a m cap, m, ln, F⟩]) (fun s _ => m - (intOf s).toNat)
  case atStart => exact ⟨0, Nat.zero_le _, rfl, hHr, HZR.out.congr (fun _ _ => rfl) (fun i j _ _ => by unfold adT; rw [if_neg (by omega)]), HST.out⟩
  case round =>
    clear HZR HST
    obtain ⟨t, ht, rfl, hHr, hu, hst⟩ := hrel
    have HU := Lib.hid hu; have HS := Lib.hid hst; clear hu hst
    by_cases hlt : t < m
    · have cq := HU.out.head hlt
      rw [Nat.zero_add] at cq
      obtain ⟨g1, o1, k1, hu1, hg11, hg12, _⟩ := (HU.out.row hlt).at (show 0 < L by omega)
      rw [hu1] at cq
      have HU1 := Lib.hid hu1
      clear hu1
      go_wp2
      clear cq
      go_loopw [12] (fun s wr => ∃ q : Nat, q ≤ L ∧ s = .int .i64 q ∧ H ≤ wr.heap.size ∧ RwU true wr B H g 0 cp m uz (fun _ => L) (adT k F F' t q) ∧ StR w wr [(w.heap.size + 1 + 1, [.int .i64 0, .int .i64 0, .slice none 0 0]), (w.heap.size + 1, [.int .i64 (m : Int), .int .i64 (N'' : Int), .slice b m cap']), (w.heap.size, [.int .i64 (m : Int), .int .i64 (N'' : Int), .slice a m cap])] [] [⟨o', lo', hi', .slice b m cap', m, ln', F'⟩, ⟨o, lo, hi, .slice a m cap, m, ln, F⟩]) (fun s _ => L - (intOf s).toNat)
      case atStart => exact ⟨0, Nat.zero_le _, rfl, hHr, HU.out, HS.out⟩
      case round =>
        clear HU HS hHr
        obtain ⟨q, hq, rfl, hHr, hu, hst⟩ := hrel
        have HU := Lib.hid hu; have HS := Lib.hid hst; clear hu hst
        by_cases hlq : q < L
        · obtain ⟨c0, c1, c2⟩ := (HS.out.box 2 (w.heap.size, [.int .i64 (m : Int), .int .i64 (N'' : Int), .slice a m cap]) rfl).c3
          obtain ⟨e0, e1, e2⟩ := (HS.out.box 1 (w.heap.size + 1, [.int .i64 (m : Int), .int .i64 (N'' : Int), .slice b m cap']) rfl).c3
          obtain ⟨ga, offa, cpa, ua, hva, hra⟩ := (HS.out.rw 1 ⟨o, lo, hi, .slice a m cap, m, ln, F⟩ rfl).at (show 0 < m by omega)
          obtain ⟨gb, offb, cpb, ub, hvb, hrb⟩ := (HS.out.rw 0 ⟨o', lo', hi', .slice b m cap', m, ln', F'⟩ rfl).at (show 0 < m by omega)
          dsimp only at hva hra hvb hrb
          obtain ⟨rfl, rfl⟩ : a = some ⟨ga, offa, none⟩ ∧ cap = cpa := by cases hva; exact ⟨rfl, rfl⟩
          obtain ⟨rfl, rfl⟩ : b = some ⟨gb, offb, none⟩ ∧ cap' = cpb := by cases hvb; exact ⟨rfl, rfl⟩
          have cka := hra.head hlt
          have ckb := hrb.head hlt
          have hrowa := hra.row hlt
          have hrowb := hrb.row hlt
          rw [HLN.out t hlt] at hrowa
          rw [HLN'.out t hlt] at hrowb
          obtain ⟨g2, o2, k2, hu2, _, _, _, _, hc2, _⟩ := hrowa.at (show 0 < L by omega)
          obtain ⟨g3, o3, k3, hu3, _, _, _, _, hc3, _⟩ := hrowb.at (show 0 < L by omega)
          rw [hu2] at cka
          rw [hu3] at ckb
          have da := hc2 q hlq
          have db := hc3 q hlq
          have hxq := HWI.out t hlt q hlq
          have hyq := HWI'.out t hlt q hlq
          obtain ⟨P, hP⟩ : ∃ P, F t q = P := ⟨_, rfl⟩
          obtain ⟨Q, hQ⟩ : ∃ Q, F' t q = Q := ⟨_, rfl⟩
          rw [hP] at da hxq
          rw [hQ] at db hyq
          have hmp := mul_part hk1 hk2 hyq.1 hyq.2
          have hwm : IntKind.i64.wrap (k * Q) = k * Q := IntWalk.i64_in _ (by omega)
          have hwa : IntKind.i64.wrap (P + k * Q) = P + k * Q := IntWalk.i64_in _ (by omega)
          have HPQ := Lib.hid (show F t q + k * F' t q = P + k * Q by rw [hP, hQ])
          have hrow := HU.out.row hlt
          rw [HU1.out] at hrow
          obtain ⟨_, _, _, hcq, hcz⟩ := hrow.known (by omega)
          have cqq := hcq q hlq
          have cqz := hcz rfl (o1 + q)
          have UP := Lib.hid (HU.out.store (y := P + k * Q) hlt HU1.out hlq (by unfold inR; omega))
          have SP := Lib.hid (HS.out.write (lo := g1) (hi := g1 + 1) ((Frame.refl g1 (g1 + 1) wr).setCell (p := ⟨g1, o1 + q, none⟩) (Nat.le_refl _) (Nat.lt_succ_self _) (.int .i64 (P + k * Q))) (by omega) (by intro b hb; simp only [List.mem_cons, List.not_mem_nil, or_false] at hb; rcases hb with rfl | rfl | rfl <;> dsimp only <;> omega) (by intro s hs'; cases hs') (by intro s hs'; simp only [List.mem_cons, List.not_mem_nil, or_false] at hs'; rcases hs' with rfl | rfl <;> dsimp only <;> omega))
          have hlqI : (q : Int) < (L : Int) := by omega
          have hltI : (t : Int) < (m : Int) := by omega
          clear hva hra hvb hrb hrowa hrowb hu2 hu3 hc2 hc3 hP hQ hrow hcq hcz HU HS hxq hyq hmp
          go_wp2
          go_region
          all_goals
            go_wp2
            go_roundw
            case rel =>
              refine ⟨q + 1, by omega, by go_num, by simp; omega, ?_, by first | exact SP.out | exact SP.out.drew | exact SP.out.drewN _⟩
              refine RwU.congr (by first | exact UP.out | exact UP.out.drew | exact UP.out.drewN _) (fun _ _ => rfl) (fun i j hi hj => ?_)
              rw [adT_next, HPQ.out]
            case measure => simp [intOf]; omega
        · obtain rfl : q = L := by omega
          go_wp2
          go_roundw
          case rel => exact ⟨t + 1, by omega, by go_num, hHr, HU.out.congr (fun _ _ => rfl) (fun i j _ hj => (adT_end hj).symm), HS.out⟩
          case measure => simp [intOf]; omega
    · obtain rfl : t = m := by omega
      have HV0 := Lib.hid (show ∀ i j, i < t → adT k F F' t 0 i j = addF k (F i) (F' i) j from fun i j hi => by unfold adT addF; rw [if_pos (.inl hi)])
      have HZ0 := Lib.hid (show ∀ j, j < L → adT k F F' t 0 0 j = 0 from fun j hj => by rw [HV0.out 0 j (by omega)]; unfold addF; rw [HZ.out j hj, HZ'.out j hj]; omega)
      have HV := Lib.hid (show ∀ i j, i < t → j < L → adT k F F' t 0 i j - adT k F F' t 0 0 j = addF k (F i) (F' i) j from fun i j hi hj => by rw [HZ0.out j hj, HV0.out i j hi]; omega)
      have HB := Lib.hid (show ∀ i j, i < t → j < L → inR (adT k F F' t 0 i j) from fun i j hi hj => HU.out.rw.bd hi hj)
      obtain ⟨c0, c1, c2⟩ := (HS.out.box 2 (w.heap.size, [.int .i64 (t : Int), .int .i64 (N'' : Int), .slice a t cap]) rfl).c3
      go_wp2_with fail
      refine (l05Normal_any _ _ _ HU.out.rw (by omega) h61 hphi (fun i j hi hj => by have := HB.out i j hi hj; rw [HZ0.out j hj]; unfold inR at *; omega)).mono ?_
      rintro e w3 ⟨a3, k3, rfl, s3, b3⟩
      have hz3 := b3.size
      have S3 := HS.out.keep b3
      clear b3 HU HS c0 c1 c2
      have HY := Lib.hid (show ¬ GsP (t : Int) (N'' : Int) t (fun _ => L) (fun i j => adT k F F' t 0 i j - adT k F F' t 0 0 j) from fun hg => HFIT.out (fun i hi j hj => by have h2 : -1000000000 ≤ adT k F F' t 0 i j - adT k F F' t 0 0 j ∧ adT k F F' t 0 i j - adT k F F' t 0 0 j ≤ 1000000000 := (hg.2.2.1 i hi).2.2.2 j hj; rwa [HV.out i j hi hj] at h2))
      go_wp2_with fail
      refine (l05Told_no _ _ _ s3 HY.out).mono ?_
      rintro e w4 ⟨rfl, b4⟩
      have st4 := (S3.keep b4).alloc (.cells #[.int .i64 0, .int .i64 0, .slice none 0 0] 27)
      have hz4 := b4.size
      have S4 := Lib.hid ((s3.keep b4 s3.size).alloc (.cells #[.int .i64 0, .int .i64 0, .slice none 0 0] 27))
      clear S3 b4 s3
      obtain ⟨d0, d1, d2⟩ := (st4.box 0 (w.heap.size + 1 + 1, [.int .i64 0, .int .i64 0, .slice none 0 0]) rfl).c3
      have dz := (st4.box 0 (w.heap.size + 1 + 1, [.int .i64 0, .int .i64 0, .slice none 0 0]) rfl).2.2
      dsimp only at dz
      have BB := st4.1
      unfold failG
      go_wp2
      refine bodyPost_ret (v := .tuple #[.agg #[.int .i64 0, .int .i64 0, .slice none 0 0], .int .i64 3]) (by simp [results, Try.results33, go_sem, d0, d1, d2]) rfl ?_
      exact ⟨rfl, by go_grown⟩

end
end Go.Proofs.Ythmhjnholhiohaa
