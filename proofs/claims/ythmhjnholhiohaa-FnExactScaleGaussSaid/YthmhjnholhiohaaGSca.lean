/- ScaleGauss of the program and of the model. -/
import Derived.Test.YthmhjnholhiohaaGTol
import Derived.Test.YthmhjnholhiohaaGWr
import Derived.Test.YthmhjnholhiohaaMul
import Derived.Test.YthmhjnholhiohaaAlg
import Derived.Test.YthmhjnholhiohaaTimes
import Derived.Deep.RegionHeld3
import Derived.Deep.DeepCutAuto
namespace Go.Proofs.Ythmhjnholhiohaa
open Go.RowKit Go.ChangeShapes Go.Sort Go.WideShapes
set_option linter.unusedVariables false
set_option linter.unusedSimpArgs false

/-- The rows of the multiple. -/
def scF (N L : Nat) (F : Nat → Nat → Int) (g : Nat → Int) (i j : Nat) : Int := if i = 0 then 0 else prodZ N L (F i) g j
theorem prod_zero {n L : Nat} {f g : Nat → Int} (h : ∀ j, j < L → f j = 0) (j : Nat) : prodZ n L f g j = 0 := by
  have e1 : prodZ n L f g = prodZ n L (fun j => 0 * g j + 0 * g j) g := by
    unfold prodZ
    rw [convZ_congr (f' := fun j => 0 * g j + 0 * g j) (g' := g) (fun j hj => by rw [h j hj]; omega) (fun _ _ => rfl) L (Nat.le_refl _)]
  rw [e1, prodZ_comm, prodZ_lin]
  omega
theorem sc_row {N L : Nat} {F : Nat → Nat → Int} {g : Nat → Int} (hz : ∀ j, j < L → F 0 j = 0) (i j : Nat) : prodZ N L (F i) g j = scF N L F g i j := by
  unfold scF
  by_cases e : i = 0
  · subst e; rw [if_pos rfl]; exact prod_zero hz j
  · rw [if_neg e]
theorem StR.tailB {W w : World} {b : Nat × List Value} {bs : List (Nat × List Value)} {ss : List SlF} {rs : List RwF} (h : StR W w (b :: bs) ss rs) : StR W w bs ss rs := ⟨h.1, fun x hx => h.2.1 x (List.mem_cons_of_mem _ hx), h.2.2.1, h.2.2.2⟩
theorem StR.boxSet2 {W w : World} {bs : List (Nat × List Value)} {ss : List SlF} {rs : List RwF} {b : Nat} {v0 v1 u0 u1 : Value} (h : StR W w ((b, [v0, v1]) :: bs) ss rs) (hb : W.heap.size ≤ b) (hbs : ∀ x ∈ bs, x.1 < b ∨ b + 1 ≤ x.1) (hss : ∀ s ∈ ss, s.hi ≤ b ∨ b + 1 ≤ s.lo) (hrs : ∀ s ∈ rs, s.hi ≤ b ∨ b + 1 ≤ s.lo) :
    StR W ((w.setCell ⟨b, 0, none⟩ u0).setCell ⟨b, 1, none⟩ u1) ((b, [u0, u1]) :: bs) ss rs := by
  have hbx := (h.box 0 _ rfl).set2 (u0 := u0) (u1 := u1)
  exact (h.tailB.write (lo := b) (hi := b + 1) (((Frame.refl b (b + 1) w).setCell (Nat.le_refl _) (Nat.lt_succ_self _) _).setCell (Nat.le_refl _) (Nat.lt_succ_self _) _) hb hbs hss hrs).addBox _ _ hbx
section
variable {o o' : Bool} {lo hi lo' hi' : Nat} {V V' : Value} {m L n' : Nat} {ln : Nat → Nat} {F : Nat → Nat → Int} {f : Nat → Int}


set_option maxRecDepth 100000 in
set_option maxHeartbeats 2000000 in
theorem scOne_ok (N i b1 b2 : Nat) (z : Int) (w : World) (hb1 : Box w b1 [.int .i64 (m : Int), .int .i64 (N : Int), V]) (hb2 : Box w b2 [.int .i64 z, V']) (hs : Rw o w lo hi V m ln F) (ht : Sl o' w lo' hi' V' n' f) (him : i < m) (hL : L = phiN N) (hln : ∀ i, i < m → ln i = L) (hcy : ∀ i, i < m → CyP (N : Int) L (F i)) (hz : z = (N : Int)) (hg : CyP (N : Int) n' f) (hw : Within (prodZ N L (F i) f) L 1000000000) :
    Calls Try.prog 99 #[.int .i64 (i : Int), .pointer (some ⟨b1, 0, none⟩), .pointer (some ⟨b2, 0, none⟩)] w fun e w' => ∃ a k', e = .returned (.tuple #[.agg #[.int .i64 (N : Int), .slice a L k'], .int .i64 0]) ∧ Sl true w' w.heap.size w'.heap.size (.slice a L k') L (prodZ N L (F i) f) ∧ Below w.heap.size w w' := by
  obtain ⟨a, cap, rfl⟩ := hs.shape
  obtain ⟨b, cap', rfl⟩ := ht.shape
  subst hz
  obtain rfl : L = n' := by have := hg.2.2.1; rw [hL]; exact this.symm
  have HWI := Lib.hid (show Within (prodZ N L (F i) f) (phiN N) 1000000000 by rw [← hL]; exact hw)
  have HC1 := Lib.hid (hcy i him); have HC2 := Lib.hid hg
  have HL1 := Lib.hid (hln i him)
  have HLN := Lib.hid hL
  clear hw hcy hg hln hL
  have hbl1 := hb1.1; have hbl2 := hb2.1
  have st0 := (((((StR.start w).addRw ⟨o, lo, hi, .slice a m cap, m, ln, F⟩ hs).addSl ⟨o', lo', hi', .slice b L cap', L, f⟩ ht).addBox b2 [.int .i64 (N : Int), .slice b L cap'] hb2).addBox b1 [.int .i64 (m : Int), .int .i64 (N : Int), .slice a m cap] hb1).boxNew (.int .i64 0) (.slice none 0 0) 37
  clear hs ht hb1 hb2
  obtain ⟨c0, c1, c2⟩ := (st0.box 1 (b1, [.int .i64 (m : Int), .int .i64 (N : Int), .slice a m cap]) rfl).c3
  obtain ⟨e0, e1⟩ := (st0.box 2 (b2, [.int .i64 (N : Int), .slice b L cap']) rfl).cell2
  go_enter Try.func99, Try.ntmps99
  go_wp2
  go_region_held3 (fun w' => w'.cell? ⟨b1, 0, none⟩ = some (.int .i64 (m : Int)) ∧ w'.cell? ⟨b1, 1, none⟩ = some (.int .i64 (N : Int)) ∧ w'.cell? ⟨b1, 2, none⟩ = some (.slice a m cap) ∧ w'.cell? ⟨b2, 0, none⟩ = some (.int .i64 (N : Int)) ∧ w'.cell? ⟨b2, 1, none⟩ = some (.slice b L cap'))
    (first | exact ⟨c0, c1, c2, e0, e1⟩ | exact ⟨cell_later b6 c0, cell_later b6 c1, cell_later b6 c2, cell_later b6 e0, cell_later b6 e1⟩ | exact ⟨cell_later b7 (cell_later b6 c0), cell_later b7 (cell_later b6 c1), cell_later b7 (cell_later b6 c2), cell_later b7 (cell_later b6 e0), cell_later b7 (cell_later b6 e1)⟩ | exact ⟨cell_one (cell_one (cell_later b7 (cell_later b6 c0)) (by omega)) (by omega), cell_one (cell_one (cell_later b7 (cell_later b6 c1)) (by omega)) (by omega), cell_one (cell_one (cell_later b7 (cell_later b6 c2)) (by omega)) (by omega), cell_one (cell_one (cell_later b7 (cell_later b6 e0)) (by omega)) (by omega), cell_one (cell_one (cell_later b7 (cell_later b6 e1)) (by omega)) (by omega)⟩ | go_keep)
    (first
      | (go_at_call 100; have _h := b6; refine (MultiplyCyclos_impl_ok N _ s6 t6 HC1.out HC2.out HWI.out).mono ?_; rintro e w7 ⟨a7, k7, rfl, s7, b7⟩
         have st7 := st6.keep b7
         obtain ⟨d0, d1⟩ := (st7.box 0 (w.heap.size, [.int .i64 0, .slice none 0 0]) rfl).cell2
         have dz := (st7.box 0 (w.heap.size, [.int .i64 0, .slice none 0 0]) rfl).2.2
         dsimp only at dz)
      | (go_at_call 68; refine (rowNumber_any _ _ _ (st0.drew.rw 0 ⟨o, lo, hi, .slice a m cap, m, ln, F⟩ rfl) i him).mono ?_; rintro e w6 ⟨u6, rfl, s6, b6⟩
         dsimp only at s6
         rw [HL1.out] at s6
         have st6 := st0.drew.keep b6
         have t6 := st6.sl 0 ⟨o', lo', hi', .slice b L cap', L, f⟩ rfl
         dsimp only at t6))
  all_goals
    have hz6 := b6.size
    have hz7 := b7.size
    simp only [World.size_drew, World.size_alloc] at hz6
    have BB := st7.1
    have S7 := Lib.hid s7
    clear b6 b7 s7 st7 st6 s6 t6
    go_wp2
    rw [← HLN.out] at S7
    refine bodyPost_ret (v := .tuple #[.agg #[.int .i64 (N : Int), .slice a7 L k7], .int .i64 0]) (by simp [results, Try.results99, go_sem, d0, d1, HLN.out]) rfl ?_
    refine ⟨_, _, rfl, ?_, by go_grown⟩
    exact ((S7.out.setOther (.inl (by show w.heap.size < _; omega)) _).setOther (.inl (by show w.heap.size < _; omega)) _).wide (by omega) (by simp) (Nat.le_refl _)


set_option maxRecDepth 100000 in
set_option maxHeartbeats 2000000 in
theorem scOne_bad (N i b1 b2 : Nat) (z : Int) (w : World) (hb1 : Box w b1 [.int .i64 (m : Int), .int .i64 (N : Int), V]) (hb2 : Box w b2 [.int .i64 z, V']) (hs : Rw o w lo hi V m ln F) (ht : Sl o' w lo' hi' V' n' f) (him : i < m) (hL : L = phiN N) (hln : ∀ i, i < m → ln i = L) (hcy : ∀ i, i < m → CyP (N : Int) L (F i)) (hz : z = (N : Int)) (hg : CyP (N : Int) n' f) (hw : ¬ Within (prodZ N L (F i) f) L 1000000000) :
    Calls Try.prog 99 #[.int .i64 (i : Int), .pointer (some ⟨b1, 0, none⟩), .pointer (some ⟨b2, 0, none⟩)] w fun e w' => e = .returned (failV 3) ∧ Below w.heap.size w w' := by
  obtain ⟨a, cap, rfl⟩ := hs.shape
  obtain ⟨b, cap', rfl⟩ := ht.shape
  subst hz
  obtain rfl : L = n' := by have := hg.2.2.1; rw [hL]; exact this.symm
  have HWI := Lib.hid (show ¬ Within (prodZ N L (F i) f) (phiN N) 1000000000 by rw [← hL]; exact hw)
  have HC1 := Lib.hid (hcy i him); have HC2 := Lib.hid hg
  have HL1 := Lib.hid (hln i him)
  have HLN := Lib.hid hL
  clear hw hcy hg hln hL
  have hbl1 := hb1.1; have hbl2 := hb2.1
  have st0 := (((((StR.start w).addRw ⟨o, lo, hi, .slice a m cap, m, ln, F⟩ hs).addSl ⟨o', lo', hi', .slice b L cap', L, f⟩ ht).addBox b2 [.int .i64 (N : Int), .slice b L cap'] hb2).addBox b1 [.int .i64 (m : Int), .int .i64 (N : Int), .slice a m cap] hb1).boxNew (.int .i64 0) (.slice none 0 0) 37
  clear hs ht hb1 hb2
  obtain ⟨c0, c1, c2⟩ := (st0.box 1 (b1, [.int .i64 (m : Int), .int .i64 (N : Int), .slice a m cap]) rfl).c3
  obtain ⟨e0, e1⟩ := (st0.box 2 (b2, [.int .i64 (N : Int), .slice b L cap']) rfl).cell2
  go_enter Try.func99, Try.ntmps99
  go_wp2
  go_region_held3 (fun w' => w'.cell? ⟨b1, 0, none⟩ = some (.int .i64 (m : Int)) ∧ w'.cell? ⟨b1, 1, none⟩ = some (.int .i64 (N : Int)) ∧ w'.cell? ⟨b1, 2, none⟩ = some (.slice a m cap) ∧ w'.cell? ⟨b2, 0, none⟩ = some (.int .i64 (N : Int)) ∧ w'.cell? ⟨b2, 1, none⟩ = some (.slice b L cap'))
    (first | exact ⟨c0, c1, c2, e0, e1⟩ | exact ⟨cell_later b6 c0, cell_later b6 c1, cell_later b6 c2, cell_later b6 e0, cell_later b6 e1⟩ | exact ⟨cell_later b7 (cell_later b6 c0), cell_later b7 (cell_later b6 c1), cell_later b7 (cell_later b6 c2), cell_later b7 (cell_later b6 e0), cell_later b7 (cell_later b6 e1)⟩ | exact ⟨cell_one (cell_one (cell_later b7 (cell_later b6 c0)) (by omega)) (by omega), cell_one (cell_one (cell_later b7 (cell_later b6 c1)) (by omega)) (by omega), cell_one (cell_one (cell_later b7 (cell_later b6 c2)) (by omega)) (by omega), cell_one (cell_one (cell_later b7 (cell_later b6 e0)) (by omega)) (by omega), cell_one (cell_one (cell_later b7 (cell_later b6 e1)) (by omega)) (by omega)⟩ | go_keep)
    (first
      | (go_at_call 100; have _h := b6; refine (MultiplyCyclos_impl_big N _ s6 t6 HC1.out HC2.out HWI.out).mono ?_; rintro e w7 ⟨rfl, b7⟩; unfold failV
         have st7 := st6.keep b7
         obtain ⟨d0, d1⟩ := (st7.box 0 (w.heap.size, [.int .i64 0, .slice none 0 0]) rfl).cell2
         have dz := (st7.box 0 (w.heap.size, [.int .i64 0, .slice none 0 0]) rfl).2.2
         dsimp only at dz)
      | (go_at_call 68; refine (rowNumber_any _ _ _ (st0.drew.rw 0 ⟨o, lo, hi, .slice a m cap, m, ln, F⟩ rfl) i him).mono ?_; rintro e w6 ⟨u6, rfl, s6, b6⟩
         dsimp only at s6
         rw [HL1.out] at s6
         have st6 := st0.drew.keep b6
         have t6 := st6.sl 0 ⟨o', lo', hi', .slice b L cap', L, f⟩ rfl
         dsimp only at t6))
  all_goals
    have hz6 := b6.size
    have hz7 := b7.size
    simp only [World.size_drew, World.size_alloc] at hz6
    have BB := st7.1
    skip
    clear b6 b7 st7 st6 s6 t6
    go_wp2
    refine bodyPost_ret (v := .tuple #[.agg #[.int .i64 0, .slice none 0 0], .int .i64 3]) (by simp [results, Try.results99, go_sem, d0, d1]) rfl ?_
    exact ⟨rfl, by go_grown⟩


set_option maxRecDepth 100000 in
set_option maxHeartbeats 2000000 in
theorem scOne_kind (N i b1 b2 : Nat) (z : Int) (w : World) (hb1 : Box w b1 [.int .i64 (m : Int), .int .i64 (N : Int), V]) (hb2 : Box w b2 [.int .i64 z, V']) (hs : Rw o w lo hi V m ln F) (ht : Sl o' w lo' hi' V' n' f) (him : i < m) (hL : L = phiN N) (hln : ∀ i, i < m → ln i = L) (hcy : ∀ i, i < m → CyP (N : Int) L (F i)) (hg : CyP z n' f) (hw : ¬ (N : Int) = z) :
    Calls Try.prog 99 #[.int .i64 (i : Int), .pointer (some ⟨b1, 0, none⟩), .pointer (some ⟨b2, 0, none⟩)] w fun e w' => e = .returned (failV 2) ∧ Below w.heap.size w w' := by
  obtain ⟨a, cap, rfl⟩ := hs.shape
  obtain ⟨b, cap', rfl⟩ := ht.shape
  have HWI := Lib.hid hw
  have HC1 := Lib.hid (hcy i him); have HC2 := Lib.hid hg
  have HL1 := Lib.hid (hln i him)
  have HLN := Lib.hid hL
  clear hw hcy hg hln hL
  have hbl1 := hb1.1; have hbl2 := hb2.1
  have st0 := (((((StR.start w).addRw ⟨o, lo, hi, .slice a m cap, m, ln, F⟩ hs).addSl ⟨o', lo', hi', .slice b n' cap', n', f⟩ ht).addBox b2 [.int .i64 z, .slice b n' cap'] hb2).addBox b1 [.int .i64 (m : Int), .int .i64 (N : Int), .slice a m cap] hb1).boxNew (.int .i64 0) (.slice none 0 0) 37
  clear hs ht hb1 hb2
  obtain ⟨c0, c1, c2⟩ := (st0.box 1 (b1, [.int .i64 (m : Int), .int .i64 (N : Int), .slice a m cap]) rfl).c3
  obtain ⟨e0, e1⟩ := (st0.box 2 (b2, [.int .i64 z, .slice b n' cap']) rfl).cell2
  go_enter Try.func99, Try.ntmps99
  go_wp2
  go_region_held3 (fun w' => w'.cell? ⟨b1, 0, none⟩ = some (.int .i64 (m : Int)) ∧ w'.cell? ⟨b1, 1, none⟩ = some (.int .i64 (N : Int)) ∧ w'.cell? ⟨b1, 2, none⟩ = some (.slice a m cap) ∧ w'.cell? ⟨b2, 0, none⟩ = some (.int .i64 z) ∧ w'.cell? ⟨b2, 1, none⟩ = some (.slice b n' cap'))
    (first | exact ⟨c0, c1, c2, e0, e1⟩ | exact ⟨cell_later b6 c0, cell_later b6 c1, cell_later b6 c2, cell_later b6 e0, cell_later b6 e1⟩ | exact ⟨cell_later b7 (cell_later b6 c0), cell_later b7 (cell_later b6 c1), cell_later b7 (cell_later b6 c2), cell_later b7 (cell_later b6 e0), cell_later b7 (cell_later b6 e1)⟩ | exact ⟨cell_one (cell_one (cell_later b7 (cell_later b6 c0)) (by omega)) (by omega), cell_one (cell_one (cell_later b7 (cell_later b6 c1)) (by omega)) (by omega), cell_one (cell_one (cell_later b7 (cell_later b6 c2)) (by omega)) (by omega), cell_one (cell_one (cell_later b7 (cell_later b6 e0)) (by omega)) (by omega), cell_one (cell_one (cell_later b7 (cell_later b6 e1)) (by omega)) (by omega)⟩ | go_keep)
    (first
      | (go_at_call 100; have _h := b6; refine (MultiplyCyclos_impl_bad (N : Int) z 2 _ s6 t6 (pairC_diff HC1.out HC2.out HWI.out) (by decide)).mono ?_; rintro e w7 ⟨rfl, b7⟩; unfold failV
         have st7 := st6.keep b7
         obtain ⟨d0, d1⟩ := (st7.box 0 (w.heap.size, [.int .i64 0, .slice none 0 0]) rfl).cell2
         have dz := (st7.box 0 (w.heap.size, [.int .i64 0, .slice none 0 0]) rfl).2.2
         dsimp only at dz)
      | (go_at_call 68; refine (rowNumber_any _ _ _ (st0.drew.rw 0 ⟨o, lo, hi, .slice a m cap, m, ln, F⟩ rfl) i him).mono ?_; rintro e w6 ⟨u6, rfl, s6, b6⟩
         dsimp only at s6
         rw [HL1.out] at s6
         have st6 := st0.drew.keep b6
         have t6 := st6.sl 0 ⟨o', lo', hi', .slice b n' cap', n', f⟩ rfl
         dsimp only at t6))
  all_goals
    have hz6 := b6.size
    have hz7 := b7.size
    simp only [World.size_drew, World.size_alloc] at hz6
    have BB := st7.1
    skip
    clear b6 b7 st7 st6 s6 t6
    go_wp2
    refine bodyPost_ret (v := .tuple #[.agg #[.int .i64 0, .slice none 0 0], .int .i64 2]) (by simp [results, Try.results99, go_sem, d0, d1]) rfl ?_
    exact ⟨rfl, by go_grown⟩


set_option maxRecDepth 100000 in
theorem ScaleGauss_impl_bad (x y z : Int) (w : World) (hs : Rw o w lo hi V m ln F) (ht : Sl o' w lo' hi' V' n' f) (h : ¬ (GsP x y m ln F ∧ CyP z n' f)) :
    Calls Try.prog 38 #[.agg #[.int .i64 x, .int .i64 y, V], .agg #[.int .i64 z, V']] w fun e w' => e = .returned (failG 1) ∧ Below w.heap.size w w' := by
  by_cases hx : GsP x y m ln F
  · have HG := Lib.hid (gsB_yes hx)
    have HC := Lib.hid (show ¬ CyP z n' f from fun hc => h ⟨hx, hc⟩)
    clear hx h
    obtain ⟨a, cap, rfl⟩ := hs.shape
    obtain ⟨b, cap', rfl⟩ := ht.shape
    have hh := hs.size
    have hh' := ht.size
    have st0 := (((StR.start w).addRw ⟨o, lo, hi, .slice a m cap, m, ln, F⟩ hs).addSl ⟨o', lo', hi', .slice b n' cap', n', f⟩ ht).boxNew3 (.int .i64 x) (.int .i64 y) (.slice a m cap) 27
    replace st0 := st0.boxNew (.int .i64 z) (.slice b n' cap') 37
    replace st0 := st0.boxNew3 (.int .i64 0) (.int .i64 0) (.slice none 0 0) 27
    simp only [World.size_alloc] at st0
    clear hs ht
    go_enter Try.func38, Try.ntmps38
    obtain ⟨c0, c1, c2⟩ := (st0.box 2 (w.heap.size, [.int .i64 x, .int .i64 y, .slice a m cap]) rfl).c3
    have q0 := st0.rw 0 ⟨o, lo, hi, .slice a m cap, m, ln, F⟩ rfl
    dsimp only at q0
    go_wp2_with fail
    refine (IsGauss_any _ _ _ q0).mono ?_
    rintro e w1 ⟨rfl, b1⟩
    rw [HG.out]
    have st1 := st0.keep b1
    have hz1 := b1.size
    simp only [World.size_alloc] at hz1
    clear st0 b1 q0 c0 c1 c2
    obtain ⟨e0, e1⟩ := (st1.box 1 (w.heap.size + 1, [.int .i64 z, .slice b n' cap']) rfl).cell2
    have q1 := st1.sl 0 ⟨o', lo', hi', .slice b n' cap', n', f⟩ rfl
    dsimp only at q1
    go_wp2_with fail
    refine (IsCyclo_no _ _ q1 HC.out).mono ?_
    rintro e w2 ⟨rfl, b2⟩
    replace st1 := st1.keep b2
    have hz2 := b2.size
    clear b2 q1 e0 e1
    obtain ⟨d0, d1, d2⟩ := (st1.box 0 (w.heap.size + 1 + 1, [.int .i64 0, .int .i64 0, .slice none 0 0]) rfl).c3
    have dz := (st1.box 0 (w.heap.size + 1 + 1, [.int .i64 0, .int .i64 0, .slice none 0 0]) rfl).2.2
    dsimp only at dz
    have BB := st1.1
    go_wp2
    refine bodyPost_ret (v := failG 1) (by simp [results, Try.results38, go_sem, failG, d0, d1, d2]) rfl ?_
    exact ⟨rfl, by first | exact BB | go_grown⟩

  · have HG := Lib.hid (gsB_no hx)
    clear hx h
    obtain ⟨a, cap, rfl⟩ := hs.shape
    obtain ⟨b, cap', rfl⟩ := ht.shape
    have hh := hs.size
    have hh' := ht.size
    have st0 := (((StR.start w).addRw ⟨o, lo, hi, .slice a m cap, m, ln, F⟩ hs).addSl ⟨o', lo', hi', .slice b n' cap', n', f⟩ ht).boxNew3 (.int .i64 x) (.int .i64 y) (.slice a m cap) 27
    replace st0 := st0.boxNew (.int .i64 z) (.slice b n' cap') 37
    replace st0 := st0.boxNew3 (.int .i64 0) (.int .i64 0) (.slice none 0 0) 27
    simp only [World.size_alloc] at st0
    clear hs ht
    go_enter Try.func38, Try.ntmps38
    obtain ⟨c0, c1, c2⟩ := (st0.box 2 (w.heap.size, [.int .i64 x, .int .i64 y, .slice a m cap]) rfl).c3
    have q0 := st0.rw 0 ⟨o, lo, hi, .slice a m cap, m, ln, F⟩ rfl
    dsimp only at q0
    go_wp2_with fail
    refine (IsGauss_any _ _ _ q0).mono ?_
    rintro e w1 ⟨rfl, b1⟩
    rw [HG.out]
    have st1 := st0.keep b1
    have hz1 := b1.size
    simp only [World.size_alloc] at hz1
    clear st0 b1 q0 c0 c1 c2
    obtain ⟨d0, d1, d2⟩ := (st1.box 0 (w.heap.size + 1 + 1, [.int .i64 0, .int .i64 0, .slice none 0 0]) rfl).c3
    have dz := (st1.box 0 (w.heap.size + 1 + 1, [.int .i64 0, .int .i64 0, .slice none 0 0]) rfl).2.2
    dsimp only at dz
    have BB := st1.1
    go_wp2
    refine bodyPost_ret (v := failG 1) (by simp [results, Try.results38, go_sem, failG, d0, d1, d2]) rfl ?_
    exact ⟨rfl, by first | exact BB | go_grown⟩


set_option maxRecDepth 100000 in
theorem ScaleGauss_spec_bad (x y z : Int) (w : World) (hs : Rw o w lo hi V m ln F) (ht : Sl o' w lo' hi' V' n' f) (h : ¬ (GsP x y m ln F ∧ CyP z n' f)) :
    Calls Try.prog 37 #[.agg #[.int .i64 x, .int .i64 y, V], .agg #[.int .i64 z, V']] w fun e w' => e = .returned (failG 1) ∧ Below w.heap.size w w' := by
  by_cases hx : GsP x y m ln F
  · have HG := Lib.hid (gsB_yes hx)
    have HC := Lib.hid (show ¬ CyP z n' f from fun hc => h ⟨hx, hc⟩)
    clear hx h
    obtain ⟨a, cap, rfl⟩ := hs.shape
    obtain ⟨b, cap', rfl⟩ := ht.shape
    have hh := hs.size
    have hh' := ht.size
    have st0 := (((StR.start w).addRw ⟨o, lo, hi, .slice a m cap, m, ln, F⟩ hs).addSl ⟨o', lo', hi', .slice b n' cap', n', f⟩ ht).boxNew3 (.int .i64 x) (.int .i64 y) (.slice a m cap) 27
    replace st0 := st0.boxNew (.int .i64 z) (.slice b n' cap') 37
    replace st0 := st0.boxNew3 (.int .i64 0) (.int .i64 0) (.slice none 0 0) 27
    simp only [World.size_alloc] at st0
    clear hs ht
    go_enter Try.func37, Try.ntmps37
    obtain ⟨c0, c1, c2⟩ := (st0.box 2 (w.heap.size, [.int .i64 x, .int .i64 y, .slice a m cap]) rfl).c3
    have q0 := st0.rw 0 ⟨o, lo, hi, .slice a m cap, m, ln, F⟩ rfl
    dsimp only at q0
    go_wp2_with fail
    refine (l05Is_any _ _ _ q0).mono ?_
    rintro e w1 ⟨rfl, b1⟩
    rw [HG.out]
    have st1 := st0.keep b1
    have hz1 := b1.size
    simp only [World.size_alloc] at hz1
    clear st0 b1 q0 c0 c1 c2
    obtain ⟨e0, e1⟩ := (st1.box 1 (w.heap.size + 1, [.int .i64 z, .slice b n' cap']) rfl).cell2
    have q1 := st1.sl 0 ⟨o', lo', hi', .slice b n' cap', n', f⟩ rfl
    dsimp only at q1
    go_wp2_with fail
    refine (l01Is_no _ _ q1 HC.out).mono ?_
    rintro e w2 ⟨rfl, b2⟩
    replace st1 := st1.keep b2
    have hz2 := b2.size
    clear b2 q1 e0 e1
    obtain ⟨d0, d1, d2⟩ := (st1.box 0 (w.heap.size + 1 + 1, [.int .i64 0, .int .i64 0, .slice none 0 0]) rfl).c3
    have dz := (st1.box 0 (w.heap.size + 1 + 1, [.int .i64 0, .int .i64 0, .slice none 0 0]) rfl).2.2
    dsimp only at dz
    have BB := st1.1
    go_wp2
    refine bodyPost_ret (v := failG 1) (by simp [results, Try.results37, go_sem, failG, d0, d1, d2]) rfl ?_
    exact ⟨rfl, by first | exact BB | go_grown⟩

  · have HG := Lib.hid (gsB_no hx)
    clear hx h
    obtain ⟨a, cap, rfl⟩ := hs.shape
    obtain ⟨b, cap', rfl⟩ := ht.shape
    have hh := hs.size
    have hh' := ht.size
    have st0 := (((StR.start w).addRw ⟨o, lo, hi, .slice a m cap, m, ln, F⟩ hs).addSl ⟨o', lo', hi', .slice b n' cap', n', f⟩ ht).boxNew3 (.int .i64 x) (.int .i64 y) (.slice a m cap) 27
    replace st0 := st0.boxNew (.int .i64 z) (.slice b n' cap') 37
    replace st0 := st0.boxNew3 (.int .i64 0) (.int .i64 0) (.slice none 0 0) 27
    simp only [World.size_alloc] at st0
    clear hs ht
    go_enter Try.func37, Try.ntmps37
    obtain ⟨c0, c1, c2⟩ := (st0.box 2 (w.heap.size, [.int .i64 x, .int .i64 y, .slice a m cap]) rfl).c3
    have q0 := st0.rw 0 ⟨o, lo, hi, .slice a m cap, m, ln, F⟩ rfl
    dsimp only at q0
    go_wp2_with fail
    refine (l05Is_any _ _ _ q0).mono ?_
    rintro e w1 ⟨rfl, b1⟩
    rw [HG.out]
    have st1 := st0.keep b1
    have hz1 := b1.size
    simp only [World.size_alloc] at hz1
    clear st0 b1 q0 c0 c1 c2
    obtain ⟨d0, d1, d2⟩ := (st1.box 0 (w.heap.size + 1 + 1, [.int .i64 0, .int .i64 0, .slice none 0 0]) rfl).c3
    have dz := (st1.box 0 (w.heap.size + 1 + 1, [.int .i64 0, .int .i64 0, .slice none 0 0]) rfl).2.2
    dsimp only at dz
    have BB := st1.1
    go_wp2
    refine bodyPost_ret (v := failG 1) (by simp [results, Try.results37, go_sem, failG, d0, d1, d2]) rfl ?_
    exact ⟨rfl, by first | exact BB | go_grown⟩


set_option maxRecDepth 100000 in
set_option maxHeartbeats 2000000 in
theorem ScaleGauss_impl_ok (N : Nat) (w : World) (hs : Rw o w lo hi V m ln F) (ht : Sl o' w lo' hi' V' n' f) (h : GsP (m : Int) (N : Int) m ln F) (hg : CyP (N : Int) n' f) (hfit : ∀ i, i < m → Within (scF N (phiN N) F f i) (phiN N) 1000000000) :
    Calls Try.prog 38 #[.agg #[.int .i64 (m : Int), .int .i64 (N : Int), V], .agg #[.int .i64 (N : Int), V']] w fun e w' => ∃ a' c', e = .returned (.tuple #[.agg #[.int .i64 (m : Int), .int .i64 (N : Int), .slice a' m c'], .int .i64 0]) ∧ Rw true w' w.heap.size w'.heap.size (.slice a' m c') m (fun _ => phiN N) (scF N (phiN N) F f) ∧ Below w.heap.size w w' := by
  obtain ⟨N', hx, hy, hp, h3, h61, h1, h16, hln, hcy, hwi, hz⟩ := h.nat
  obtain rfl : N' = N := by omega
  have hphi := phi_le12 N' (by omega) h1
  have hphi1 := phiN_pos N' (by omega) h1
  have HG := Lib.hid (gsB_yes h)
  have HLN := Lib.hid hln; have HCY := Lib.hid hcy; have HWI := Lib.hid hwi; have HZ := Lib.hid hz
  have HC := Lib.hid hg
  obtain ⟨a, cap, rfl⟩ := hs.shape
  obtain ⟨b, cap', rfl⟩ := ht.shape
  have hh := hs.size
  have hh' := ht.size
  have st0 := (((StR.start w).addRw ⟨o, lo, hi, .slice a m cap, m, ln, F⟩ hs).addSl ⟨o', lo', hi', .slice b n' cap', n', f⟩ ht).boxNew3 (.int .i64 (m : Int)) (.int .i64 (N' : Int)) (.slice a m cap) 27
  replace st0 := st0.boxNew (.int .i64 (N' : Int)) (.slice b n' cap') 37
  replace st0 := st0.boxNew3 (.int .i64 0) (.int .i64 0) (.slice none 0 0) 27
  simp only [World.size_alloc] at st0
  clear hs ht h hg hp hln hcy hwi hz hx hy
  have HFIT := Lib.hid hfit; clear hfit
  go_enter Try.func38, Try.ntmps38
  obtain ⟨c0, c1, c2⟩ := (st0.box 2 (w.heap.size, [.int .i64 (m : Int), .int .i64 (N' : Int), .slice a m cap]) rfl).c3
  have q0 := st0.rw 0 ⟨o, lo, hi, .slice a m cap, m, ln, F⟩ rfl
  dsimp only at q0
  go_wp2_with fail
  refine (IsGauss_any _ _ _ q0).mono ?_
  rintro e w1 ⟨rfl, b1⟩
  rw [HG.out]
  have st1 := st0.keep b1
  have hz1 := b1.size
  simp only [World.size_alloc] at hz1
  clear st0 b1 q0 c0 c1 c2
  obtain ⟨e0, e1⟩ := (st1.box 1 (w.heap.size + 1, [.int .i64 (N' : Int), .slice b n' cap']) rfl).cell2
  have q1 := st1.sl 0 ⟨o', lo', hi', .slice b n' cap', n', f⟩ rfl
  dsimp only at q1
  go_wp2_with fail
  refine (IsCyclo_yes _ _ q1 HC.out).mono ?_
  rintro e w2 ⟨rfl, b2⟩
  replace st1 := st1.keep b2
  have hz2 := b2.size
  clear b2 q1 e0 e1
  have BX := Lib.hid (st1.box 2 (w.heap.size, [.int .i64 (m : Int), .int .i64 (N' : Int), .slice a m cap]) rfl)
  have BY := Lib.hid (st1.box 1 (w.heap.size + 1, [.int .i64 (N' : Int), .slice b n' cap']) rfl)
  have RX := Lib.hid (st1.rw 0 ⟨o, lo, hi, .slice a m cap, m, ln, F⟩ rfl)
  have RY := Lib.hid (st1.sl 0 ⟨o', lo', hi', .slice b n' cap', n', f⟩ rfl)
  obtain ⟨c0, c1, c2⟩ := BX.out.c3
  go_wp2_with fail
  refine (gwrScaleGauss_ok m N' (phiN N') (.pointer (some ⟨w.heap.size, 0, none⟩)) (.pointer (some ⟨w.heap.size + 1, 0, none⟩)) (scF N' (phiN N') F f) (by omega) h61 h1 h16 rfl _ (fun i hi w' hb => ?_)).mono ?_
  · have hw : Within (prodZ N' (phiN N') (F i) f) (phiN N') 1000000000 := fun j hj => by rw [sc_row HZ.out i j]; exact HFIT.out i hi j hj
    refine (scOne_ok N' i w.heap.size (w.heap.size + 1) (N' : Int) w' (BX.out.keep hb) (BY.out.keep hb) (RX.out.keep hb RX.out.size) (RY.out.keep hb RY.out.size) (by omega) rfl HLN.out HCY.out rfl HC.out hw).mono ?_
    rintro e w'' ⟨a', k', rfl, s', b'⟩
    exact ⟨a', k', rfl, s'.congr (fun j hj => (sc_row HZ.out i j).symm), b'⟩
  rintro e w3 ⟨a3, k3, rfl, s3, b3⟩
  have st3 := st1.keep b3
  have hz3 := b3.size
  have S3 := Lib.hid s3
  clear st1 b3 c0 c1 c2 s3
  obtain ⟨d0, d1, d2⟩ := (st3.box 0 (w.heap.size + 1 + 1, [.int .i64 0, .int .i64 0, .slice none 0 0]) rfl).c3
  have dz := (st3.box 0 (w.heap.size + 1 + 1, [.int .i64 0, .int .i64 0, .slice none 0 0]) rfl).2.2
  dsimp only at dz
  have BB := st3.1
  go_wp2
  refine bodyPost_ret (v := .tuple #[.agg #[.int .i64 (m : Int), .int .i64 (N' : Int), .slice a3 m k3], .int .i64 0]) (by simp [results, Try.results38, go_sem, d0, d1, d2]) rfl ?_
  refine ⟨_, _, rfl, ?_, by go_grown⟩
  exact (((S3.out.setOther (.inl (by show w.heap.size + 1 + 1 < _; omega)) _).setOther (.inl (by show w.heap.size + 1 + 1 < _; omega)) _).setOther (.inl (by show w.heap.size + 1 + 1 < _; omega)) _).wide (by omega) (by simp) (Nat.le_refl _)


set_option maxRecDepth 100000 in
set_option maxHeartbeats 2000000 in
theorem ScaleGauss_impl_big (N : Nat) (w : World) (hs : Rw o w lo hi V m ln F) (ht : Sl o' w lo' hi' V' n' f) (h : GsP (m : Int) (N : Int) m ln F) (hg : CyP (N : Int) n' f) (hfit : ¬ ∀ i, i < m → Within (scF N (phiN N) F f i) (phiN N) 1000000000) :
    Calls Try.prog 38 #[.agg #[.int .i64 (m : Int), .int .i64 (N : Int), V], .agg #[.int .i64 (N : Int), V']] w fun e w' => e = .returned (failG 3) ∧ Below w.heap.size w w' := by
  obtain ⟨N', hx, hy, hp, h3, h61, h1, h16, hln, hcy, hwi, hz⟩ := h.nat
  obtain rfl : N' = N := by omega
  have hphi := phi_le12 N' (by omega) h1
  have hphi1 := phiN_pos N' (by omega) h1
  have HG := Lib.hid (gsB_yes h)
  have HLN := Lib.hid hln; have HCY := Lib.hid hcy; have HWI := Lib.hid hwi; have HZ := Lib.hid hz
  have HC := Lib.hid hg
  obtain ⟨a, cap, rfl⟩ := hs.shape
  obtain ⟨b, cap', rfl⟩ := ht.shape
  have hh := hs.size
  have hh' := ht.size
  have st0 := (((StR.start w).addRw ⟨o, lo, hi, .slice a m cap, m, ln, F⟩ hs).addSl ⟨o', lo', hi', .slice b n' cap', n', f⟩ ht).boxNew3 (.int .i64 (m : Int)) (.int .i64 (N' : Int)) (.slice a m cap) 27
  replace st0 := st0.boxNew (.int .i64 (N' : Int)) (.slice b n' cap') 37
  replace st0 := st0.boxNew3 (.int .i64 0) (.int .i64 0) (.slice none 0 0) 27
  simp only [World.size_alloc] at st0
  clear hs ht h hg hp hln hcy hwi hz hx hy
  obtain ⟨i0, hi0, hn0, hfit'⟩ : ∃ i0, i0 < m ∧ ¬ Within (scF N' (phiN N') F f i0) (phiN N') 1000000000 ∧ ∀ i, i < i0 → Within (scF N' (phiN N') F f i) (phiN N') 1000000000 := by
    rcases first_fail (P := fun i => Within (scF N' (phiN N') F f i) (phiN N') 1000000000) m with q | q
    · exact absurd q hfit
    · exact q
  have HFIT := Lib.hid hfit'; have HNF := Lib.hid hn0; clear hfit hfit' hn0
  go_enter Try.func38, Try.ntmps38
  obtain ⟨c0, c1, c2⟩ := (st0.box 2 (w.heap.size, [.int .i64 (m : Int), .int .i64 (N' : Int), .slice a m cap]) rfl).c3
  have q0 := st0.rw 0 ⟨o, lo, hi, .slice a m cap, m, ln, F⟩ rfl
  dsimp only at q0
  go_wp2_with fail
  refine (IsGauss_any _ _ _ q0).mono ?_
  rintro e w1 ⟨rfl, b1⟩
  rw [HG.out]
  have st1 := st0.keep b1
  have hz1 := b1.size
  simp only [World.size_alloc] at hz1
  clear st0 b1 q0 c0 c1 c2
  obtain ⟨e0, e1⟩ := (st1.box 1 (w.heap.size + 1, [.int .i64 (N' : Int), .slice b n' cap']) rfl).cell2
  have q1 := st1.sl 0 ⟨o', lo', hi', .slice b n' cap', n', f⟩ rfl
  dsimp only at q1
  go_wp2_with fail
  refine (IsCyclo_yes _ _ q1 HC.out).mono ?_
  rintro e w2 ⟨rfl, b2⟩
  replace st1 := st1.keep b2
  have hz2 := b2.size
  clear b2 q1 e0 e1
  have BX := Lib.hid (st1.box 2 (w.heap.size, [.int .i64 (m : Int), .int .i64 (N' : Int), .slice a m cap]) rfl)
  have BY := Lib.hid (st1.box 1 (w.heap.size + 1, [.int .i64 (N' : Int), .slice b n' cap']) rfl)
  have RX := Lib.hid (st1.rw 0 ⟨o, lo, hi, .slice a m cap, m, ln, F⟩ rfl)
  have RY := Lib.hid (st1.sl 0 ⟨o', lo', hi', .slice b n' cap', n', f⟩ rfl)
  obtain ⟨c0, c1, c2⟩ := BX.out.c3
  go_wp2_with fail
  refine (gwrScaleGauss_bad m N' (phiN N') (.pointer (some ⟨w.heap.size, 0, none⟩)) (.pointer (some ⟨w.heap.size + 1, 0, none⟩)) (scF N' (phiN N') F f) (by omega) h61 h1 h16 rfl _ 3 (by decide) i0 hi0 (fun i hi w' hb => ?_) (fun w' hb => ?_)).mono ?_
  · have hw : Within (prodZ N' (phiN N') (F i) f) (phiN N') 1000000000 := fun j hj => by rw [sc_row HZ.out i j]; exact HFIT.out i hi j hj
    refine (scOne_ok N' i w.heap.size (w.heap.size + 1) (N' : Int) w' (BX.out.keep hb) (BY.out.keep hb) (RX.out.keep hb RX.out.size) (RY.out.keep hb RY.out.size) (by omega) rfl HLN.out HCY.out rfl HC.out hw).mono ?_
    rintro e w'' ⟨a', k', rfl, s', b'⟩
    exact ⟨a', k', rfl, s'.congr (fun j hj => (sc_row HZ.out i j).symm), b'⟩
  · have hw : ¬ Within (prodZ N' (phiN N') (F i0) f) (phiN N') 1000000000 := fun h => HNF.out (fun j hj => by rw [← sc_row HZ.out i0 j]; exact h j hj)
    exact scOne_bad N' i0 w.heap.size (w.heap.size + 1) (N' : Int) w' (BX.out.keep hb) (BY.out.keep hb) (RX.out.keep hb RX.out.size) (RY.out.keep hb RY.out.size) hi0 rfl HLN.out HCY.out rfl HC.out hw
  rintro e w3 ⟨rfl, b3⟩
  have st3 := st1.keep b3
  have hz3 := b3.size
  unfold failG
  clear st1 b3 c0 c1 c2
  obtain ⟨d0, d1, d2⟩ := (st3.box 0 (w.heap.size + 1 + 1, [.int .i64 0, .int .i64 0, .slice none 0 0]) rfl).c3
  have dz := (st3.box 0 (w.heap.size + 1 + 1, [.int .i64 0, .int .i64 0, .slice none 0 0]) rfl).2.2
  dsimp only at dz
  have BB := st3.1
  go_wp2
  refine bodyPost_ret (v := .tuple #[.agg #[.int .i64 0, .int .i64 0, .slice none 0 0], .int .i64 3]) (by simp [results, Try.results38, go_sem, d0, d1, d2]) rfl ?_
  exact ⟨rfl, by go_grown⟩


set_option maxRecDepth 100000 in
set_option maxHeartbeats 2000000 in
theorem ScaleGauss_impl_kind (N : Nat) (w : World) (hs : Rw o w lo hi V m ln F) (ht : Sl o' w lo' hi' V' n' f) (h : GsP (m : Int) (N : Int) m ln F) (z : Int) (hg : CyP z n' f) (hk : ¬ (N : Int) = z) :
    Calls Try.prog 38 #[.agg #[.int .i64 (m : Int), .int .i64 (N : Int), V], .agg #[.int .i64 z, V']] w fun e w' => e = .returned (failG 2) ∧ Below w.heap.size w w' := by
  obtain ⟨N', hx, hy, hp, h3, h61, h1, h16, hln, hcy, hwi, hz⟩ := h.nat
  obtain rfl : N' = N := by omega
  have hphi := phi_le12 N' (by omega) h1
  have hphi1 := phiN_pos N' (by omega) h1
  have HG := Lib.hid (gsB_yes h)
  have HLN := Lib.hid hln; have HCY := Lib.hid hcy; have HWI := Lib.hid hwi; have HZ := Lib.hid hz
  have HC := Lib.hid hg
  obtain ⟨a, cap, rfl⟩ := hs.shape
  obtain ⟨b, cap', rfl⟩ := ht.shape
  have hh := hs.size
  have hh' := ht.size
  have st0 := (((StR.start w).addRw ⟨o, lo, hi, .slice a m cap, m, ln, F⟩ hs).addSl ⟨o', lo', hi', .slice b n' cap', n', f⟩ ht).boxNew3 (.int .i64 (m : Int)) (.int .i64 (N' : Int)) (.slice a m cap) 27
  replace st0 := st0.boxNew (.int .i64 z) (.slice b n' cap') 37
  replace st0 := st0.boxNew3 (.int .i64 0) (.int .i64 0) (.slice none 0 0) 27
  simp only [World.size_alloc] at st0
  clear hs ht h hg hp hln hcy hwi hz hx hy
  have HK := Lib.hid hk; clear hk
  go_enter Try.func38, Try.ntmps38
  obtain ⟨c0, c1, c2⟩ := (st0.box 2 (w.heap.size, [.int .i64 (m : Int), .int .i64 (N' : Int), .slice a m cap]) rfl).c3
  have q0 := st0.rw 0 ⟨o, lo, hi, .slice a m cap, m, ln, F⟩ rfl
  dsimp only at q0
  go_wp2_with fail
  refine (IsGauss_any _ _ _ q0).mono ?_
  rintro e w1 ⟨rfl, b1⟩
  rw [HG.out]
  have st1 := st0.keep b1
  have hz1 := b1.size
  simp only [World.size_alloc] at hz1
  clear st0 b1 q0 c0 c1 c2
  obtain ⟨e0, e1⟩ := (st1.box 1 (w.heap.size + 1, [.int .i64 z, .slice b n' cap']) rfl).cell2
  have q1 := st1.sl 0 ⟨o', lo', hi', .slice b n' cap', n', f⟩ rfl
  dsimp only at q1
  go_wp2_with fail
  refine (IsCyclo_yes _ _ q1 HC.out).mono ?_
  rintro e w2 ⟨rfl, b2⟩
  replace st1 := st1.keep b2
  have hz2 := b2.size
  clear b2 q1 e0 e1
  have BX := Lib.hid (st1.box 2 (w.heap.size, [.int .i64 (m : Int), .int .i64 (N' : Int), .slice a m cap]) rfl)
  have BY := Lib.hid (st1.box 1 (w.heap.size + 1, [.int .i64 z, .slice b n' cap']) rfl)
  have RX := Lib.hid (st1.rw 0 ⟨o, lo, hi, .slice a m cap, m, ln, F⟩ rfl)
  have RY := Lib.hid (st1.sl 0 ⟨o', lo', hi', .slice b n' cap', n', f⟩ rfl)
  obtain ⟨c0, c1, c2⟩ := BX.out.c3
  go_wp2_with fail
  refine (gwrScaleGauss_bad m N' (phiN N') (.pointer (some ⟨w.heap.size, 0, none⟩)) (.pointer (some ⟨w.heap.size + 1, 0, none⟩)) (scF N' (phiN N') F f) (by omega) h61 h1 h16 rfl _ 2 (by decide) 0 (by omega) (fun i hi => absurd hi (Nat.not_lt_zero _)) (fun w' hb => scOne_kind N' 0 w.heap.size (w.heap.size + 1) z w' (BX.out.keep hb) (BY.out.keep hb) (RX.out.keep hb RX.out.size) (RY.out.keep hb RY.out.size) (by omega) rfl HLN.out HCY.out HC.out HK.out)).mono ?_
  rintro e w3 ⟨rfl, b3⟩
  have st3 := st1.keep b3
  have hz3 := b3.size
  unfold failG
  clear st1 b3 c0 c1 c2
  obtain ⟨d0, d1, d2⟩ := (st3.box 0 (w.heap.size + 1 + 1, [.int .i64 0, .int .i64 0, .slice none 0 0]) rfl).c3
  have dz := (st3.box 0 (w.heap.size + 1 + 1, [.int .i64 0, .int .i64 0, .slice none 0 0]) rfl).2.2
  dsimp only at dz
  have BB := st3.1
  go_wp2
  refine bodyPost_ret (v := .tuple #[.agg #[.int .i64 0, .int .i64 0, .slice none 0 0], .int .i64 2]) (by simp [results, Try.results38, go_sem, d0, d1, d2]) rfl ?_
  exact ⟨rfl, by go_grown⟩


set_option maxRecDepth 100000 in
set_option maxHeartbeats 2000000 in
theorem ScaleGauss_spec_kind (N : Nat) (w : World) (hs : Rw o w lo hi V m ln F) (ht : Sl o' w lo' hi' V' n' f) (h : GsP (m : Int) (N : Int) m ln F) (z : Int) (hg : CyP z n' f) (hk : ¬ (N : Int) = z) :
    Calls Try.prog 37 #[.agg #[.int .i64 (m : Int), .int .i64 (N : Int), V], .agg #[.int .i64 z, V']] w fun e w' => e = .returned (failG 2) ∧ Below w.heap.size w w' := by
  obtain ⟨N', hx, hy, hp, h3, h61, h1, h16, hln, hcy, hwi, hz⟩ := h.nat
  obtain rfl : N' = N := by omega
  have hphi := phi_le12 N' (by omega) h1
  have hphi1 := phiN_pos N' (by omega) h1
  have HG := Lib.hid (gsB_yes h)
  have HLN := Lib.hid hln; have HCY := Lib.hid hcy; have HWI := Lib.hid hwi; have HZ := Lib.hid hz
  have HC := Lib.hid hg
  obtain ⟨a, cap, rfl⟩ := hs.shape
  obtain ⟨b, cap', rfl⟩ := ht.shape
  have hh := hs.size
  have hh' := ht.size
  have st0 := (((StR.start w).addRw ⟨o, lo, hi, .slice a m cap, m, ln, F⟩ hs).addSl ⟨o', lo', hi', .slice b n' cap', n', f⟩ ht).boxNew3 (.int .i64 (m : Int)) (.int .i64 (N' : Int)) (.slice a m cap) 27
  replace st0 := st0.boxNew (.int .i64 z) (.slice b n' cap') 37
  replace st0 := st0.boxNew3 (.int .i64 0) (.int .i64 0) (.slice none 0 0) 27
  simp only [World.size_alloc] at st0
  clear hs ht h hg hp hln hcy hwi hz hx hy
  go_enter Try.func37, Try.ntmps37
  obtain ⟨c0, c1, c2⟩ := (st0.box 2 (w.heap.size, [.int .i64 (m : Int), .int .i64 (N' : Int), .slice a m cap]) rfl).c3
  have q0 := st0.rw 0 ⟨o, lo, hi, .slice a m cap, m, ln, F⟩ rfl
  dsimp only at q0
  go_wp2_with fail
  refine (l05Is_any _ _ _ q0).mono ?_
  rintro e w1 ⟨rfl, b1⟩
  rw [HG.out]
  have st1 := st0.keep b1
  have hz1 := b1.size
  simp only [World.size_alloc] at hz1
  clear st0 b1 q0 c0 c1 c2
  obtain ⟨e0, e1⟩ := (st1.box 1 (w.heap.size + 1, [.int .i64 z, .slice b n' cap']) rfl).cell2
  have q1 := st1.sl 0 ⟨o', lo', hi', .slice b n' cap', n', f⟩ rfl
  dsimp only at q1
  go_wp2_with fail
  refine (l01Is_yes _ _ q1 HC.out).mono ?_
  rintro e w2 ⟨rfl, b2⟩
  replace st1 := st1.keep b2
  have hz2 := b2.size
  clear b2 q1 e0 e1
  obtain ⟨c0, c1, c2⟩ := (st1.box 2 (w.heap.size, [.int .i64 (m : Int), .int .i64 (N' : Int), .slice a m cap]) rfl).c3
  obtain ⟨e0, e1⟩ := (st1.box 1 (w.heap.size + 1, [.int .i64 z, .slice b n' cap']) rfl).cell2
  have hkb : (((N' : Nat) : Int) != z) = true := by simpa using hk
  obtain ⟨d0, d1, d2⟩ := (st1.box 0 (w.heap.size + 1 + 1, [.int .i64 0, .int .i64 0, .slice none 0 0]) rfl).c3
  have dz := (st1.box 0 (w.heap.size + 1 + 1, [.int .i64 0, .int .i64 0, .slice none 0 0]) rfl).2.2
  dsimp only at dz
  have BB := st1.1
  go_wp2
  refine bodyPost_ret (v := failG 2) (by simp [results, Try.results37, go_sem, failG, d0, d1, d2]) rfl ?_
  exact ⟨rfl, by first | exact BB | go_grown⟩


/-- The model's rows under way. -/
def scT (N L : Nat) (F : Nat → Nat → Int) (g : Nat → Int) (t i j : Nat) : Int := if 1 ≤ i ∧ i < t then prodZ N L (F i) g j else 0

set_option maxRecDepth 100000 in
set_option maxHeartbeats 8000000 in
theorem ScaleGauss_spec_ok (N : Nat) (w : World) (hs : Rw o w lo hi V m ln F) (ht : Sl o' w lo' hi' V' n' f) (h : GsP (m : Int) (N : Int) m ln F) (hg : CyP (N : Int) n' f) (hfit : ∀ i, i < m → Within (scF N (phiN N) F f i) (phiN N) 1000000000) :
    Calls Try.prog 37 #[.agg #[.int .i64 (m : Int), .int .i64 (N : Int), V], .agg #[.int .i64 (N : Int), V']] w fun e w' => ∃ a' c', e = .returned (.tuple #[.agg #[.int .i64 (m : Int), .int .i64 (N : Int), .slice a' m c'], .int .i64 0]) ∧ Rw true w' w.heap.size w'.heap.size (.slice a' m c') m (fun _ => phiN N) (scF N (phiN N) F f) ∧ Below w.heap.size w w' := by
  obtain ⟨N', hx, hy, hp, h3, h61, h1, h16, hln, hcy, hwi, hz⟩ := h.nat
  obtain rfl : N' = N := by omega
  have hphi := phi_le12 N' (by omega) h1
  have hphi1 := phiN_pos N' (by omega) h1
  have HG := Lib.hid (gsB_yes h)
  have HLN := Lib.hid hln; have HCY := Lib.hid hcy; have HWI := Lib.hid hwi; have HZ := Lib.hid hz
  have HC := Lib.hid hg
  have HFIT := Lib.hid hfit; clear hfit
  obtain ⟨L, hL⟩ : ∃ L, phiN N' = L := ⟨_, rfl⟩
  obtain rfl : L = n' := by have := hg.2.2.1; rw [← hL]; exact this.symm
  rw [hL] at HLN HCY HWI HZ HFIT hphi hphi1 ⊢
  have HL := Lib.hid hL
  clear hL
  obtain ⟨a, cap, rfl⟩ := hs.shape
  obtain ⟨b, cap', rfl⟩ := ht.shape
  have hh := hs.size
  have hh' := ht.size
  have st0 := (((StR.start w).addRw ⟨o, lo, hi, .slice a m cap, m, ln, F⟩ hs).addSl ⟨o', lo', hi', .slice b L cap', L, f⟩ ht).boxNew3 (.int .i64 (m : Int)) (.int .i64 (N' : Int)) (.slice a m cap) 27
  replace st0 := st0.boxNew (.int .i64 (N' : Int)) (.slice b L cap') 37
  replace st0 := st0.boxNew3 (.int .i64 0) (.int .i64 0) (.slice none 0 0) 27
  simp only [World.size_alloc] at st0
  clear hs ht h hg hp hln hcy hwi hz hx hy
  go_enter Try.func37, Try.ntmps37
  obtain ⟨c0, c1, c2⟩ := (st0.box 2 (w.heap.size, [.int .i64 (m : Int), .int .i64 (N' : Int), .slice a m cap]) rfl).c3
  have q0 := st0.rw 0 ⟨o, lo, hi, .slice a m cap, m, ln, F⟩ rfl
  dsimp only at q0
  go_wp2_with fail
  refine (l05Is_any _ _ _ q0).mono ?_
  rintro e w1 ⟨rfl, b1⟩
  rw [HG.out]
  have st1 := st0.keep b1
  have hz1 := b1.size
  simp only [World.size_alloc] at hz1
  clear st0 b1 q0 c0 c1 c2
  obtain ⟨e0, e1⟩ := (st1.box 1 (w.heap.size + 1, [.int .i64 (N' : Int), .slice b L cap']) rfl).cell2
  have q1 := st1.sl 0 ⟨o', lo', hi', .slice b L cap', L, f⟩ rfl
  dsimp only at q1
  go_wp2_with fail
  refine (l01Is_yes _ _ q1 HC.out).mono ?_
  rintro e w2 ⟨rfl, b2⟩
  replace st1 := st1.keep b2
  have hz2 := b2.size
  clear b2 q1 e0 e1
  obtain ⟨c0, c1, c2⟩ := (st1.box 2 (w.heap.size, [.int .i64 (m : Int), .int .i64 (N' : Int), .slice a m cap]) rfl).c3
  obtain ⟨e0, e1⟩ := (st1.box 1 (w.heap.size + 1, [.int .i64 (N' : Int), .slice b L cap']) rfl).cell2
  go_wp2_with fail
  refine (l05Zeros_any m N' h61 h1 h16 _).mono ?_
  rintro e w3 ⟨g, cp, uz, rfl, hz, b3⟩
  rw [HL.out] at hz
  have st3 := st1.keep b3
  have hz3 := b3.size
  obtain ⟨B, hB⟩ : ∃ B, w2.heap.size = B := ⟨_, rfl⟩
  rw [hB] at hz hz2 hz3
  have HZR := Lib.hid hz; have HST := Lib.hid st3
  clear st1 st3 hz b3 c0 c1 c2 e0 e1 hB
  have hm1 : 1 ≤ m := by omega
  go_wp2
  go_loopw [7] (fun s wr => ∃ (t : Nat) (u : Nat → Value), 1 ≤ t ∧ t ≤ m ∧ s = .int .i64 t ∧ B ≤ wr.heap.size ∧ RwU true wr B wr.heap.size g 0 cp m u (fun _ => L) (scT N' L F f t) ∧ StR w wr [(w.heap.size + 1 + 1, [.int .i64 0, .int .i64 0, .slice none 0 0]), (w.heap.size + 1, [.int .i64 (N' : Int), .slice b L cap']), (w.heap.size, [.int .i64 (m : Int), .int .i64 (N' : Int), .slice a m cap])] [⟨o', lo', hi', .slice b L cap', L, f⟩] [⟨o, lo, hi, .slice a m cap, m, ln, F⟩]) (fun s _ => m - (intOf s).toNat)
  case atStart => exact ⟨1, uz, Nat.le_refl _, by omega, rfl, hz3, HZR.out.congr (fun _ _ => rfl) (fun i j hi _ => by unfold scT; rw [if_neg (by omega)]), HST.out⟩
  case round =>
    clear HZR HST
    obtain ⟨t, u, ht1, ht, rfl, hBr, hu, hst⟩ := hrel
    have HU := Lib.hid hu; have HS := Lib.hid hst; clear hu hst
    obtain ⟨c0, c1, c2⟩ := (HS.out.box 2 (w.heap.size, [.int .i64 (m : Int), .int .i64 (N' : Int), .slice a m cap]) rfl).c3
    obtain ⟨e0, e1⟩ := (HS.out.box 1 (w.heap.size + 1, [.int .i64 (N' : Int), .slice b L cap']) rfl).cell2
    by_cases hlt : t < m
    · have htm : t < m := by omega
      obtain ⟨g1, off, cp1, ua, hv, hr⟩ := (HS.out.rw 0 ⟨o, lo, hi, .slice a m cap, m, ln, F⟩ rfl).at (show 0 < m by omega)
      dsimp only at hv hr
      have hg1 := hr.blk
      obtain ⟨rfl, rfl⟩ : a = some ⟨g1, off, none⟩ ∧ cap = cp1 := by cases hv; exact ⟨rfl, rfl⟩
      have ck := hr.head htm
      have hrow := hr.row htm
      rw [HLN.out t htm] at hrow
      obtain ⟨a1, k1, hua⟩ := hrow.shape
      rw [hua] at ck hrow
      have HR := Lib.hid hrow
      have HT := Lib.hid (HS.out.sl 0 ⟨o', lo', hi', .slice b L cap', L, f⟩ rfl)
      have HF1 := Lib.hid (show Within (F t) L 12000000000 from fun j hj => by have := HWI.out t htm j hj; omega)
      have HF2 := Lib.hid (show Within f L 12000000000 from fun j hj => by have := HC.out.2.2.2 j hj; omega)
      have htI : (t : Int) < (m : Int) := by omega
      have hbz := (HS.out.box 0 (w.heap.size + 1 + 1, [.int .i64 0, .int .i64 0, .slice none 0 0]) rfl).1
      dsimp only at hbz
      clear hv hr hrow hua
      have HFT := Lib.hid (show Within (prodZ N' L (F t) f) L 1000000000 from fun j hj => by have := HFIT.out t (by omega) j hj; unfold scF at this; rwa [if_neg (by omega)] at this)
      go_wp2_with fail
      go_cut [8, 9] (fun s8 s9 wx => ∃ (bq : Nat) (a6 : Option Addr) (k6 lo6 hi6 : Nat), s8 = .pointer (some ⟨bq, 0, none⟩) ∧ s9 = .bool true ∧ wr.heap.size ≤ bq ∧ bq < wx.heap.size ∧ wr.heap.size ≤ lo6 ∧ hi6 ≤ wx.heap.size ∧ (bq < lo6 ∨ hi6 ≤ bq) ∧ Sl true wx lo6 hi6 (.slice a6 L k6) L (prodZ N' L (F t) f) ∧ RwU true wx B wr.heap.size g 0 cp m u (fun _ => L) (scT N' L F f t) ∧ StR w wx ((bq, [.int .i64 (N' : Int), .slice a6 L k6]) :: [(w.heap.size + 1 + 1, [.int .i64 0, .int .i64 0, .slice none 0 0]), (w.heap.size + 1, [.int .i64 (N' : Int), .slice b L cap']), (w.heap.size, [.int .i64 (m : Int), .int .i64 (N' : Int), .slice (some ⟨g1, off, none⟩) m cap])]) [⟨o', lo', hi', .slice b L cap', L, f⟩] [⟨o, lo, hi, .slice (some ⟨g1, off, none⟩) m cap, m, ln, F⟩])
      case first =>
        go_region_held3 (fun w' => w'.cell? ⟨w.heap.size, 1, none⟩ = some (.int .i64 (N' : Int)) ∧ w'.cell? ⟨w.heap.size, 2, none⟩ = some (.slice (some ⟨g1, off, none⟩) m cap) ∧ w'.cell? ⟨g1, off + t, none⟩ = some (.slice a1 L k1) ∧ w'.cell? ⟨w.heap.size + 1, 0, none⟩ = some (.int .i64 (N' : Int)) ∧ w'.cell? ⟨w.heap.size + 1, 1, none⟩ = some (.slice b L cap'))
          (first | exact ⟨c1, c2, ck, e0, e1⟩ | exact ⟨cell_later ((Below.refl _ _).alloc (Nat.le_refl _) _) c1, cell_later ((Below.refl _ _).alloc (Nat.le_refl _) _) c2, cell_later ((Below.refl _ _).alloc (Nat.le_refl _) _) ck, cell_later ((Below.refl _ _).alloc (Nat.le_refl _) _) e0, cell_later ((Below.refl _ _).alloc (Nat.le_refl _) _) e1⟩ | exact ⟨cell_later (((Below.refl _ _).alloc (Nat.le_refl _) _)).drew c1, cell_later (((Below.refl _ _).alloc (Nat.le_refl _) _)).drew c2, cell_later (((Below.refl _ _).alloc (Nat.le_refl _) _)).drew ck, cell_later (((Below.refl _ _).alloc (Nat.le_refl _) _)).drew e0, cell_later (((Below.refl _ _).alloc (Nat.le_refl _) _)).drew e1⟩ | exact ⟨cell_later b6 c1, cell_later b6 c2, cell_later b6 ck, cell_later b6 e0, cell_later b6 e1⟩ | exact ⟨cell_later b6 (cell_later (((Below.refl _ _).alloc (Nat.le_refl _) _)).drew c1), cell_later b6 (cell_later (((Below.refl _ _).alloc (Nat.le_refl _) _)).drew c2), cell_later b6 (cell_later (((Below.refl _ _).alloc (Nat.le_refl _) _)).drew ck), cell_later b6 (cell_later (((Below.refl _ _).alloc (Nat.le_refl _) _)).drew e0), cell_later b6 (cell_later (((Below.refl _ _).alloc (Nat.le_refl _) _)).drew e1)⟩ | exact ⟨cell_later b6 (cell_later ((Below.refl _ _).alloc (Nat.le_refl _) _) c1), cell_later b6 (cell_later ((Below.refl _ _).alloc (Nat.le_refl _) _) c2), cell_later b6 (cell_later ((Below.refl _ _).alloc (Nat.le_refl _) _) ck), cell_later b6 (cell_later ((Below.refl _ _).alloc (Nat.le_refl _) _) e0), cell_later b6 (cell_later ((Below.refl _ _).alloc (Nat.le_refl _) _) e1)⟩ | exact ⟨cell_later ((Below.refl _ _).alloc (Nat.le_refl _) _) (cell_later b6 c1), cell_later ((Below.refl _ _).alloc (Nat.le_refl _) _) (cell_later b6 c2), cell_later ((Below.refl _ _).alloc (Nat.le_refl _) _) (cell_later b6 ck), cell_later ((Below.refl _ _).alloc (Nat.le_refl _) _) (cell_later b6 e0), cell_later ((Below.refl _ _).alloc (Nat.le_refl _) _) (cell_later b6 e1)⟩ | exact ⟨cell_one (cell_one (cell_later b6 (cell_later (((Below.refl _ _).alloc (Nat.le_refl _) _)).drew c1)) (by omega)) (by omega), cell_one (cell_one (cell_later b6 (cell_later (((Below.refl _ _).alloc (Nat.le_refl _) _)).drew c2)) (by omega)) (by omega), cell_one (cell_one (cell_later b6 (cell_later (((Below.refl _ _).alloc (Nat.le_refl _) _)).drew ck)) (by omega)) (by omega), cell_one (cell_one (cell_later b6 (cell_later (((Below.refl _ _).alloc (Nat.le_refl _) _)).drew e0)) (by omega)) (by omega), cell_one (cell_one (cell_later b6 (cell_later (((Below.refl _ _).alloc (Nat.le_refl _) _)).drew e1)) (by omega)) (by omega)⟩ | exact ⟨cell_one (cell_one (cell_later ((Below.refl _ _).alloc (Nat.le_refl _) _) (cell_later b6 c1)) (by omega)) (by omega), cell_one (cell_one (cell_later ((Below.refl _ _).alloc (Nat.le_refl _) _) (cell_later b6 c2)) (by omega)) (by omega), cell_one (cell_one (cell_later ((Below.refl _ _).alloc (Nat.le_refl _) _) (cell_later b6 ck)) (by omega)) (by omega), cell_one (cell_one (cell_later ((Below.refl _ _).alloc (Nat.le_refl _) _) (cell_later b6 e0)) (by omega)) (by omega), cell_one (cell_one (cell_later ((Below.refl _ _).alloc (Nat.le_refl _) _) (cell_later b6 e1)) (by omega)) (by omega)⟩ | exact ⟨cell_one (cell_one (cell_later b6 c1) (by omega)) (by omega), cell_one (cell_one (cell_later b6 c2) (by omega)) (by omega), cell_one (cell_one (cell_later b6 ck) (by omega)) (by omega), cell_one (cell_one (cell_later b6 e0) (by omega)) (by omega), cell_one (cell_one (cell_later b6 e1) (by omega)) (by omega)⟩ | go_keep)
          (first
            | (go_at_call 98; refine (l01Times_any N' h1 h16 _ (by first | with_reducible exact HR.out.drew | with_reducible exact (HR.out.alloc _).drew) (by first | with_reducible exact HT.out.drew | with_reducible exact (HT.out.alloc _).drew) HF1.out HF2.out (by omega) hphi).mono ?_; rintro e w6 ⟨a6, k6, bb, rfl, hiff, hsl, b6⟩
               rw [HL.out] at hiff hsl ⊢
               obtain rfl : bb = true := by exact hiff.2 HFT.out
               clear hiff
               replace hsl := hsl rfl
               have s6 := hsl; clear hsl
               have hz6 := b6.size
               try simp only [World.size_drew, World.size_alloc] at hz6
               try simp only [World.size_drew, World.size_alloc] at s6
               first | have U6 := HU.out.drew.keep b6 (by simp) | have U6 := (HU.out.alloc _).drew.keep b6 (by simp)
               first | have S6 := HS.out.drew.keep b6 | have S6 := (HS.out.boxNew (.int .i64 0) (.slice none 0 0) 37).drew.keep b6
               try (obtain ⟨o0, o1⟩ := (S6.box 0 (_, [.int .i64 0, .slice none 0 0]) rfl).cell2
                    have oz := (S6.box 0 (_, [.int .i64 0, .slice none 0 0]) rfl).2.2
                    dsimp only at oz
                    try simp only [World.size_alloc, World.size_drew] at o0 o1 oz)))
        all_goals
          go_wp2_with fail
          go_meet
          first
            | exact ⟨w6.heap.size, a6, k6, wr.heap.size, w6.heap.size, rfl, rfl, by omega, by simp, by omega, by simp, .inr (Nat.le_refl _), s6.alloc _, U6.alloc _, S6.boxNew _ _ _⟩
            | (have stb := S6.boxSet2 (u0 := .int .i64 (N' : Int)) (u1 := .slice a6 L k6) (by (try simp only [World.size_alloc, World.size_drew]); omega) (by (try simp only [World.size_alloc, World.size_drew]); intro b hb; simp only [List.mem_cons, List.not_mem_nil, or_false] at hb; rcases hb with rfl | rfl | rfl <;> dsimp only <;> omega) (by (try simp only [World.size_alloc, World.size_drew]); intro s hs'; simp only [List.mem_cons, List.not_mem_nil, or_false] at hs'; rcases hs' with rfl <;> dsimp only <;> omega) (by (try simp only [World.size_alloc, World.size_drew]); intro s hs'; simp only [List.mem_cons, List.not_mem_nil, or_false] at hs'; rcases hs' with rfl <;> dsimp only <;> omega)
               try simp only [World.size_alloc, World.size_drew] at stb
               exact ⟨wr.heap.size, a6, k6, wr.heap.size + 1, w6.heap.size, rfl, rfl, by omega, by simp only [World.size_setCell]; omega, by omega, by simp, .inl (Nat.lt_succ_self _), (s6.setOther (.inl (by dsimp only; omega)) _).setOther (.inl (by dsimp only; omega)) _, (by exact (U6.keepF (((Frame.refl wr.heap.size (wr.heap.size + 1) w6).setCell (p := ⟨wr.heap.size, 0, none⟩) (Nat.le_refl _) (Nat.lt_succ_self _) _).setCell (p := ⟨wr.heap.size, 1, none⟩) (Nat.le_refl _) (Nat.lt_succ_self _) _) (.inl (Nat.le_refl _)))), stb⟩)
      case rest =>
        obtain ⟨bq, a6, k6, lo6, hi6, rfl, rfl, hb1, hb2, hl1, hl2, hbl, s6, U6, S6⟩ := hcut
        obtain ⟨p0, p1⟩ := (S6.box 0 (bq, [.int .i64 (N' : Int), .slice a6 L k6]) rfl).cell2
        have cq := U6.head htm
        have cz := U6.frozen t
        rw [Nat.zero_add] at cq
        have hgb := U6.blk
        have UP := Lib.hid (U6.putRow (s6.wide hl1 hl2 (Nat.le_refl _)) (by omega) htm)
        have SP := Lib.hid (S6.tailB.write (lo := g) (hi := g + 1) ((Frame.refl g (g + 1) _).setCell (p := ⟨g, t, none⟩) (Nat.le_refl _) (Nat.lt_succ_self _) (.slice a6 L k6)) (by omega) (by intro b hb; simp only [List.mem_cons, List.not_mem_nil, or_false] at hb; rcases hb with rfl | rfl | rfl <;> dsimp only <;> omega) (by intro s hs'; simp only [List.mem_cons, List.not_mem_nil, or_false] at hs'; rcases hs' with rfl <;> dsimp only <;> omega) (by intro s hs'; simp only [List.mem_cons, List.not_mem_nil, or_false] at hs'; rcases hs' with rfl <;> dsimp only <;> omega))
        clear S6 U6 s6 HS HU c0 c1 c2 ck e0 e1 hbl
        go_wp2
        go_roundw
        case rel =>
          refine ⟨t + 1, fun y => if y = t then .slice a6 L k6 else u y, by omega, by omega, by go_num, by simp; omega, ?_, SP.out⟩
          have hp := UP.out
          rw [Nat.zero_add] at hp
          refine (hp.wide (Nat.le_refl _) (by simp) (Nat.le_refl _)).congr (fun y _ => by split <;> rfl) (fun y j hy hj => ?_)
          show scT N' L F f (t + 1) y j = _
          unfold scT
          by_cases e : y = t
          · rw [if_pos e, if_pos (by omega), e]
          · rw [if_neg e]
            by_cases e2 : 1 ≤ y ∧ y < t
            · rw [if_pos e2, if_pos (by omega)]
            · rw [if_neg e2, if_neg (by omega)]
        case measure => simp [intOf]; omega
    · obtain rfl : t = m := by omega
      have HB := Lib.hid (show ∀ i j, i < t → j < L → inR (scT N' L F f t i j) from fun i j hi hj => HU.out.rw.bd hi hj)
      have HZ0 := Lib.hid (show ∀ j, scT N' L F f t 0 j = 0 from fun j => by unfold scT; rw [if_neg (by omega)])
      go_wp2_with fail
      refine (l05Normal_any _ _ _ HU.out.rw (by omega) h61 hphi (fun i j hi hj => by have := HB.out i j hi hj; rw [HZ0.out j]; unfold inR at *; omega)).mono ?_
      rintro e w3 ⟨a3, k3, rfl, s3, b3⟩
      have hz3 := b3.size
      have S3 := HS.out.keep b3
      have hbz := (HS.out.box 0 (w.heap.size + 1 + 1, [.int .i64 0, .int .i64 0, .slice none 0 0]) rfl).1
      dsimp only at hbz
      have Q3 := Lib.hid s3
      clear s3 b3 HU HS c0 c1 c2 e0 e1
      obtain ⟨d0, d1, d2⟩ := (S3.box 0 (w.heap.size + 1 + 1, [.int .i64 0, .int .i64 0, .slice none 0 0]) rfl).c3
      have dz := (S3.box 0 (w.heap.size + 1 + 1, [.int .i64 0, .int .i64 0, .slice none 0 0]) rfl).2.2
      dsimp only at dz
      have BB := S3.1
      go_wp2
      refine bodyPost_ret (v := .tuple #[.agg #[.int .i64 (t : Int), .int .i64 (N' : Int), .slice a3 t k3], .int .i64 0]) (by simp [results, Try.results37, go_sem, d0, d1, d2]) rfl ?_
      refine ⟨_, _, rfl, ?_, by go_grown⟩
      refine ((((Q3.out.setOther (.inl (by show w.heap.size + 1 + 1 < _; omega)) _).setOther (.inl (by show w.heap.size + 1 + 1 < _; omega)) _).setOther (.inl (by show w.heap.size + 1 + 1 < _; omega)) _).wide (by omega) (by simp) (Nat.le_refl _)).congr (fun _ _ => rfl) (fun i j hi hj => ?_)
      rw [HZ0.out j]
      unfold scF scT
      by_cases e : i = 0
      · rw [if_pos e, if_neg (by omega)]; rfl
      · rw [if_neg e, if_pos (by omega)]; omega


set_option maxRecDepth 100000 in
set_option maxHeartbeats 8000000 in
theorem ScaleGauss_spec_big (N : Nat) (w : World) (hs : Rw o w lo hi V m ln F) (ht : Sl o' w lo' hi' V' n' f) (h : GsP (m : Int) (N : Int) m ln F) (hg : CyP (N : Int) n' f) (hfit : ¬ ∀ i, i < m → Within (scF N (phiN N) F f i) (phiN N) 1000000000) :
    Calls Try.prog 37 #[.agg #[.int .i64 (m : Int), .int .i64 (N : Int), V], .agg #[.int .i64 (N : Int), V']] w fun e w' => e = .returned (failG 3) ∧ Below w.heap.size w w' := by
  obtain ⟨N', hx, hy, hp, h3, h61, h1, h16, hln, hcy, hwi, hz⟩ := h.nat
  obtain rfl : N' = N := by omega
  have hphi := phi_le12 N' (by omega) h1
  have hphi1 := phiN_pos N' (by omega) h1
  have HG := Lib.hid (gsB_yes h)
  have HLN := Lib.hid hln; have HCY := Lib.hid hcy; have HWI := Lib.hid hwi; have HZ := Lib.hid hz
  have HC := Lib.hid hg
  obtain ⟨i0, hi0, hn0, hfit'⟩ : ∃ i0, i0 < m ∧ ¬ Within (scF N' (phiN N') F f i0) (phiN N') 1000000000 ∧ ∀ i, i < i0 → Within (scF N' (phiN N') F f i) (phiN N') 1000000000 := by
    rcases first_fail (P := fun i => Within (scF N' (phiN N') F f i) (phiN N') 1000000000) m with q | q
    · exact absurd q hfit
    · exact q
  have hi01 : 1 ≤ i0 := by
    rcases Nat.eq_zero_or_pos i0 with e | e
    · subst e; exact absurd (fun j _ => by unfold scF; rw [if_pos rfl]; omega) hn0
    · exact e
  have HFIT := Lib.hid hfit'; have HNF := Lib.hid hn0; clear hfit hfit' hn0
  obtain ⟨L, hL⟩ : ∃ L, phiN N' = L := ⟨_, rfl⟩
  obtain rfl : L = n' := by have := hg.2.2.1; rw [← hL]; exact this.symm
  rw [hL] at HLN HCY HWI HZ HFIT HNF hphi hphi1
  have HL := Lib.hid hL
  clear hL
  obtain ⟨a, cap, rfl⟩ := hs.shape
  obtain ⟨b, cap', rfl⟩ := ht.shape
  have hh := hs.size
  have hh' := ht.size
  have st0 := (((StR.start w).addRw ⟨o, lo, hi, .slice a m cap, m, ln, F⟩ hs).addSl ⟨o', lo', hi', .slice b L cap', L, f⟩ ht).boxNew3 (.int .i64 (m : Int)) (.int .i64 (N' : Int)) (.slice a m cap) 27
  replace st0 := st0.boxNew (.int .i64 (N' : Int)) (.slice b L cap') 37
  replace st0 := st0.boxNew3 (.int .i64 0) (.int .i64 0) (.slice none 0 0) 27
  simp only [World.size_alloc] at st0
  clear hs ht h hg hp hln hcy hwi hz hx hy
  go_enter Try.func37, Try.ntmps37
  obtain ⟨c0, c1, c2⟩ := (st0.box 2 (w.heap.size, [.int .i64 (m : Int), .int .i64 (N' : Int), .slice a m cap]) rfl).c3
  have q0 := st0.rw 0 ⟨o, lo, hi, .slice a m cap, m, ln, F⟩ rfl
  dsimp only at q0
  go_wp2_with fail
  refine (l05Is_any _ _ _ q0).mono ?_
  rintro e w1 ⟨rfl, b1⟩
  rw [HG.out]
  have st1 := st0.keep b1
  have hz1 := b1.size
  simp only [World.size_alloc] at hz1
  clear st0 b1 q0 c0 c1 c2
  obtain ⟨e0, e1⟩ := (st1.box 1 (w.heap.size + 1, [.int .i64 (N' : Int), .slice b L cap']) rfl).cell2
  have q1 := st1.sl 0 ⟨o', lo', hi', .slice b L cap', L, f⟩ rfl
  dsimp only at q1
  go_wp2_with fail
  refine (l01Is_yes _ _ q1 HC.out).mono ?_
  rintro e w2 ⟨rfl, b2⟩
  replace st1 := st1.keep b2
  have hz2 := b2.size
  clear b2 q1 e0 e1
  obtain ⟨c0, c1, c2⟩ := (st1.box 2 (w.heap.size, [.int .i64 (m : Int), .int .i64 (N' : Int), .slice a m cap]) rfl).c3
  obtain ⟨e0, e1⟩ := (st1.box 1 (w.heap.size + 1, [.int .i64 (N' : Int), .slice b L cap']) rfl).cell2
  go_wp2_with fail
  refine (l05Zeros_any m N' h61 h1 h16 _).mono ?_
  rintro e w3 ⟨g, cp, uz, rfl, hz, b3⟩
  rw [HL.out] at hz
  have st3 := st1.keep b3
  have hz3 := b3.size
  obtain ⟨B, hB⟩ : ∃ B, w2.heap.size = B := ⟨_, rfl⟩
  rw [hB] at hz hz2 hz3
  have HZR := Lib.hid hz; have HST := Lib.hid st3
  clear st1 st3 hz b3 c0 c1 c2 e0 e1 hB
  have hm1 : 1 ≤ m := by omega
  go_wp2
  go_loopw [7] (fun s wr => ∃ (t : Nat) (u : Nat → Value), 1 ≤ t ∧ t ≤ i0 ∧ s = .int .i64 t ∧ B ≤ wr.heap.size ∧ RwU true wr B wr.heap.size g 0 cp m u (fun _ => L) (scT N' L F f t) ∧ StR w wr [(w.heap.size + 1 + 1, [.int .i64 0, .int .i64 0, .slice none 0 0]), (w.heap.size + 1, [.int .i64 (N' : Int), .slice b L cap']), (w.heap.size, [.int .i64 (m : Int), .int .i64 (N' : Int), .slice a m cap])] [⟨o', lo', hi', .slice b L cap', L, f⟩] [⟨o, lo, hi, .slice a m cap, m, ln, F⟩]) (fun s _ => m - (intOf s).toNat)
  case atStart => exact ⟨1, uz, Nat.le_refl _, by omega, rfl, hz3, HZR.out.congr (fun _ _ => rfl) (fun i j hi _ => by unfold scT; rw [if_neg (by omega)]), HST.out⟩
  case round =>
    clear HZR HST
    obtain ⟨t, u, ht1, ht, rfl, hBr, hu, hst⟩ := hrel
    have HU := Lib.hid hu; have HS := Lib.hid hst; clear hu hst
    obtain ⟨c0, c1, c2⟩ := (HS.out.box 2 (w.heap.size, [.int .i64 (m : Int), .int .i64 (N' : Int), .slice a m cap]) rfl).c3
    obtain ⟨e0, e1⟩ := (HS.out.box 1 (w.heap.size + 1, [.int .i64 (N' : Int), .slice b L cap']) rfl).cell2
    by_cases hlt : t < i0
    · have htm : t < m := by omega
      obtain ⟨g1, off, cp1, ua, hv, hr⟩ := (HS.out.rw 0 ⟨o, lo, hi, .slice a m cap, m, ln, F⟩ rfl).at (show 0 < m by omega)
      dsimp only at hv hr
      have hg1 := hr.blk
      obtain ⟨rfl, rfl⟩ : a = some ⟨g1, off, none⟩ ∧ cap = cp1 := by cases hv; exact ⟨rfl, rfl⟩
      have ck := hr.head htm
      have hrow := hr.row htm
      rw [HLN.out t htm] at hrow
      obtain ⟨a1, k1, hua⟩ := hrow.shape
      rw [hua] at ck hrow
      have HR := Lib.hid hrow
      have HT := Lib.hid (HS.out.sl 0 ⟨o', lo', hi', .slice b L cap', L, f⟩ rfl)
      have HF1 := Lib.hid (show Within (F t) L 12000000000 from fun j hj => by have := HWI.out t htm j hj; omega)
      have HF2 := Lib.hid (show Within f L 12000000000 from fun j hj => by have := HC.out.2.2.2 j hj; omega)
      have htI : (t : Int) < (m : Int) := by omega
      have hbz := (HS.out.box 0 (w.heap.size + 1 + 1, [.int .i64 0, .int .i64 0, .slice none 0 0]) rfl).1
      dsimp only at hbz
      clear hv hr hrow hua
      have HFT := Lib.hid (show Within (prodZ N' L (F t) f) L 1000000000 from fun j hj => by have := HFIT.out t (by omega) j hj; unfold scF at this; rwa [if_neg (by omega)] at this)
      go_wp2_with fail
      go_cut [8, 9] (fun s8 s9 wx => ∃ (bq : Nat) (a6 : Option Addr) (k6 lo6 hi6 : Nat), s8 = .pointer (some ⟨bq, 0, none⟩) ∧ s9 = .bool true ∧ wr.heap.size ≤ bq ∧ bq < wx.heap.size ∧ wr.heap.size ≤ lo6 ∧ hi6 ≤ wx.heap.size ∧ (bq < lo6 ∨ hi6 ≤ bq) ∧ Sl true wx lo6 hi6 (.slice a6 L k6) L (prodZ N' L (F t) f) ∧ RwU true wx B wr.heap.size g 0 cp m u (fun _ => L) (scT N' L F f t) ∧ StR w wx ((bq, [.int .i64 (N' : Int), .slice a6 L k6]) :: [(w.heap.size + 1 + 1, [.int .i64 0, .int .i64 0, .slice none 0 0]), (w.heap.size + 1, [.int .i64 (N' : Int), .slice b L cap']), (w.heap.size, [.int .i64 (m : Int), .int .i64 (N' : Int), .slice (some ⟨g1, off, none⟩) m cap])]) [⟨o', lo', hi', .slice b L cap', L, f⟩] [⟨o, lo, hi, .slice (some ⟨g1, off, none⟩) m cap, m, ln, F⟩])
      case first =>
        go_region_held3 (fun w' => w'.cell? ⟨w.heap.size, 1, none⟩ = some (.int .i64 (N' : Int)) ∧ w'.cell? ⟨w.heap.size, 2, none⟩ = some (.slice (some ⟨g1, off, none⟩) m cap) ∧ w'.cell? ⟨g1, off + t, none⟩ = some (.slice a1 L k1) ∧ w'.cell? ⟨w.heap.size + 1, 0, none⟩ = some (.int .i64 (N' : Int)) ∧ w'.cell? ⟨w.heap.size + 1, 1, none⟩ = some (.slice b L cap'))
          (first | exact ⟨c1, c2, ck, e0, e1⟩ | exact ⟨cell_later ((Below.refl _ _).alloc (Nat.le_refl _) _) c1, cell_later ((Below.refl _ _).alloc (Nat.le_refl _) _) c2, cell_later ((Below.refl _ _).alloc (Nat.le_refl _) _) ck, cell_later ((Below.refl _ _).alloc (Nat.le_refl _) _) e0, cell_later ((Below.refl _ _).alloc (Nat.le_refl _) _) e1⟩ | exact ⟨cell_later (((Below.refl _ _).alloc (Nat.le_refl _) _)).drew c1, cell_later (((Below.refl _ _).alloc (Nat.le_refl _) _)).drew c2, cell_later (((Below.refl _ _).alloc (Nat.le_refl _) _)).drew ck, cell_later (((Below.refl _ _).alloc (Nat.le_refl _) _)).drew e0, cell_later (((Below.refl _ _).alloc (Nat.le_refl _) _)).drew e1⟩ | exact ⟨cell_later b6 c1, cell_later b6 c2, cell_later b6 ck, cell_later b6 e0, cell_later b6 e1⟩ | exact ⟨cell_later b6 (cell_later (((Below.refl _ _).alloc (Nat.le_refl _) _)).drew c1), cell_later b6 (cell_later (((Below.refl _ _).alloc (Nat.le_refl _) _)).drew c2), cell_later b6 (cell_later (((Below.refl _ _).alloc (Nat.le_refl _) _)).drew ck), cell_later b6 (cell_later (((Below.refl _ _).alloc (Nat.le_refl _) _)).drew e0), cell_later b6 (cell_later (((Below.refl _ _).alloc (Nat.le_refl _) _)).drew e1)⟩ | exact ⟨cell_later b6 (cell_later ((Below.refl _ _).alloc (Nat.le_refl _) _) c1), cell_later b6 (cell_later ((Below.refl _ _).alloc (Nat.le_refl _) _) c2), cell_later b6 (cell_later ((Below.refl _ _).alloc (Nat.le_refl _) _) ck), cell_later b6 (cell_later ((Below.refl _ _).alloc (Nat.le_refl _) _) e0), cell_later b6 (cell_later ((Below.refl _ _).alloc (Nat.le_refl _) _) e1)⟩ | exact ⟨cell_later ((Below.refl _ _).alloc (Nat.le_refl _) _) (cell_later b6 c1), cell_later ((Below.refl _ _).alloc (Nat.le_refl _) _) (cell_later b6 c2), cell_later ((Below.refl _ _).alloc (Nat.le_refl _) _) (cell_later b6 ck), cell_later ((Below.refl _ _).alloc (Nat.le_refl _) _) (cell_later b6 e0), cell_later ((Below.refl _ _).alloc (Nat.le_refl _) _) (cell_later b6 e1)⟩ | exact ⟨cell_one (cell_one (cell_later b6 (cell_later (((Below.refl _ _).alloc (Nat.le_refl _) _)).drew c1)) (by omega)) (by omega), cell_one (cell_one (cell_later b6 (cell_later (((Below.refl _ _).alloc (Nat.le_refl _) _)).drew c2)) (by omega)) (by omega), cell_one (cell_one (cell_later b6 (cell_later (((Below.refl _ _).alloc (Nat.le_refl _) _)).drew ck)) (by omega)) (by omega), cell_one (cell_one (cell_later b6 (cell_later (((Below.refl _ _).alloc (Nat.le_refl _) _)).drew e0)) (by omega)) (by omega), cell_one (cell_one (cell_later b6 (cell_later (((Below.refl _ _).alloc (Nat.le_refl _) _)).drew e1)) (by omega)) (by omega)⟩ | exact ⟨cell_one (cell_one (cell_later ((Below.refl _ _).alloc (Nat.le_refl _) _) (cell_later b6 c1)) (by omega)) (by omega), cell_one (cell_one (cell_later ((Below.refl _ _).alloc (Nat.le_refl _) _) (cell_later b6 c2)) (by omega)) (by omega), cell_one (cell_one (cell_later ((Below.refl _ _).alloc (Nat.le_refl _) _) (cell_later b6 ck)) (by omega)) (by omega), cell_one (cell_one (cell_later ((Below.refl _ _).alloc (Nat.le_refl _) _) (cell_later b6 e0)) (by omega)) (by omega), cell_one (cell_one (cell_later ((Below.refl _ _).alloc (Nat.le_refl _) _) (cell_later b6 e1)) (by omega)) (by omega)⟩ | exact ⟨cell_one (cell_one (cell_later b6 c1) (by omega)) (by omega), cell_one (cell_one (cell_later b6 c2) (by omega)) (by omega), cell_one (cell_one (cell_later b6 ck) (by omega)) (by omega), cell_one (cell_one (cell_later b6 e0) (by omega)) (by omega), cell_one (cell_one (cell_later b6 e1) (by omega)) (by omega)⟩ | go_keep)
          (first
            | (go_at_call 98; refine (l01Times_any N' h1 h16 _ (by first | with_reducible exact HR.out.drew | with_reducible exact (HR.out.alloc _).drew) (by first | with_reducible exact HT.out.drew | with_reducible exact (HT.out.alloc _).drew) HF1.out HF2.out (by omega) hphi).mono ?_; rintro e w6 ⟨a6, k6, bb, rfl, hiff, hsl, b6⟩
               rw [HL.out] at hiff hsl ⊢
               obtain rfl : bb = true := by exact hiff.2 HFT.out
               clear hiff
               replace hsl := hsl rfl
               have s6 := hsl; clear hsl
               have hz6 := b6.size
               try simp only [World.size_drew, World.size_alloc] at hz6
               try simp only [World.size_drew, World.size_alloc] at s6
               first | have U6 := HU.out.drew.keep b6 (by simp) | have U6 := (HU.out.alloc _).drew.keep b6 (by simp)
               first | have S6 := HS.out.drew.keep b6 | have S6 := (HS.out.boxNew (.int .i64 0) (.slice none 0 0) 37).drew.keep b6
               try (obtain ⟨o0, o1⟩ := (S6.box 0 (_, [.int .i64 0, .slice none 0 0]) rfl).cell2
                    have oz := (S6.box 0 (_, [.int .i64 0, .slice none 0 0]) rfl).2.2
                    dsimp only at oz
                    try simp only [World.size_alloc, World.size_drew] at o0 o1 oz)))
        all_goals
          go_wp2_with fail
          go_meet
          first
            | exact ⟨w6.heap.size, a6, k6, wr.heap.size, w6.heap.size, rfl, rfl, by omega, by simp, by omega, by simp, .inr (Nat.le_refl _), s6.alloc _, U6.alloc _, S6.boxNew _ _ _⟩
            | (have stb := S6.boxSet2 (u0 := .int .i64 (N' : Int)) (u1 := .slice a6 L k6) (by (try simp only [World.size_alloc, World.size_drew]); omega) (by (try simp only [World.size_alloc, World.size_drew]); intro b hb; simp only [List.mem_cons, List.not_mem_nil, or_false] at hb; rcases hb with rfl | rfl | rfl <;> dsimp only <;> omega) (by (try simp only [World.size_alloc, World.size_drew]); intro s hs'; simp only [List.mem_cons, List.not_mem_nil, or_false] at hs'; rcases hs' with rfl <;> dsimp only <;> omega) (by (try simp only [World.size_alloc, World.size_drew]); intro s hs'; simp only [List.mem_cons, List.not_mem_nil, or_false] at hs'; rcases hs' with rfl <;> dsimp only <;> omega)
               try simp only [World.size_alloc, World.size_drew] at stb
               exact ⟨wr.heap.size, a6, k6, wr.heap.size + 1, w6.heap.size, rfl, rfl, by omega, by simp only [World.size_setCell]; omega, by omega, by simp, .inl (Nat.lt_succ_self _), (s6.setOther (.inl (by dsimp only; omega)) _).setOther (.inl (by dsimp only; omega)) _, (by exact (U6.keepF (((Frame.refl wr.heap.size (wr.heap.size + 1) w6).setCell (p := ⟨wr.heap.size, 0, none⟩) (Nat.le_refl _) (Nat.lt_succ_self _) _).setCell (p := ⟨wr.heap.size, 1, none⟩) (Nat.le_refl _) (Nat.lt_succ_self _) _) (.inl (Nat.le_refl _)))), stb⟩)
      case rest =>
        obtain ⟨bq, a6, k6, lo6, hi6, rfl, rfl, hb1, hb2, hl1, hl2, hbl, s6, U6, S6⟩ := hcut
        obtain ⟨p0, p1⟩ := (S6.box 0 (bq, [.int .i64 (N' : Int), .slice a6 L k6]) rfl).cell2
        have cq := U6.head htm
        have cz := U6.frozen t
        rw [Nat.zero_add] at cq
        have hgb := U6.blk
        have UP := Lib.hid (U6.putRow (s6.wide hl1 hl2 (Nat.le_refl _)) (by omega) htm)
        have SP := Lib.hid (S6.tailB.write (lo := g) (hi := g + 1) ((Frame.refl g (g + 1) _).setCell (p := ⟨g, t, none⟩) (Nat.le_refl _) (Nat.lt_succ_self _) (.slice a6 L k6)) (by omega) (by intro b hb; simp only [List.mem_cons, List.not_mem_nil, or_false] at hb; rcases hb with rfl | rfl | rfl <;> dsimp only <;> omega) (by intro s hs'; simp only [List.mem_cons, List.not_mem_nil, or_false] at hs'; rcases hs' with rfl <;> dsimp only <;> omega) (by intro s hs'; simp only [List.mem_cons, List.not_mem_nil, or_false] at hs'; rcases hs' with rfl <;> dsimp only <;> omega))
        clear S6 U6 s6 HS HU c0 c1 c2 ck e0 e1 hbl
        go_wp2
        go_roundw
        case rel =>
          refine ⟨t + 1, fun y => if y = t then .slice a6 L k6 else u y, by omega, by omega, by go_num, by simp; omega, ?_, SP.out⟩
          have hp := UP.out
          rw [Nat.zero_add] at hp
          refine (hp.wide (Nat.le_refl _) (by simp) (Nat.le_refl _)).congr (fun y _ => by split <;> rfl) (fun y j hy hj => ?_)
          show scT N' L F f (t + 1) y j = _
          unfold scT
          by_cases e : y = t
          · rw [if_pos e, if_pos (by omega), e]
          · rw [if_neg e]
            by_cases e2 : 1 ≤ y ∧ y < t
            · rw [if_pos e2, if_pos (by omega)]
            · rw [if_neg e2, if_neg (by omega)]
        case measure => simp [intOf]; omega
    · obtain rfl : t = i0 := by omega
      have htm : t < m := by omega
      obtain ⟨g1, off, cp1, ua, hv, hr⟩ := (HS.out.rw 0 ⟨o, lo, hi, .slice a m cap, m, ln, F⟩ rfl).at (show 0 < m by omega)
      dsimp only at hv hr
      have hg1 := hr.blk
      obtain ⟨rfl, rfl⟩ : a = some ⟨g1, off, none⟩ ∧ cap = cp1 := by cases hv; exact ⟨rfl, rfl⟩
      have ck := hr.head htm
      have hrow := hr.row htm
      rw [HLN.out t htm] at hrow
      obtain ⟨a1, k1, hua⟩ := hrow.shape
      rw [hua] at ck hrow
      have HR := Lib.hid hrow
      have HT := Lib.hid (HS.out.sl 0 ⟨o', lo', hi', .slice b L cap', L, f⟩ rfl)
      have HF1 := Lib.hid (show Within (F t) L 12000000000 from fun j hj => by have := HWI.out t htm j hj; omega)
      have HF2 := Lib.hid (show Within f L 12000000000 from fun j hj => by have := HC.out.2.2.2 j hj; omega)
      have htI : (t : Int) < (m : Int) := by omega
      have hbz := (HS.out.box 0 (w.heap.size + 1 + 1, [.int .i64 0, .int .i64 0, .slice none 0 0]) rfl).1
      dsimp only at hbz
      clear hv hr hrow hua
      have HFT := Lib.hid (show ¬ Within (prodZ N' L (F t) f) L 1000000000 from fun h => HNF.out (fun j hj => by have := h j hj; unfold scF; rwa [if_neg (by omega)]))
      go_wp2_with fail
      go_cut [8, 9] (fun s8 s9 wx => ∃ (bq : Nat) (a6 : Option Addr) (k6 lo6 hi6 : Nat), s8 = .pointer (some ⟨bq, 0, none⟩) ∧ s9 = .bool false ∧ wr.heap.size ≤ bq ∧ bq < wx.heap.size ∧ StR w wx ((bq, [.int .i64 (N' : Int), .slice a6 L k6]) :: [(w.heap.size + 1 + 1, [.int .i64 0, .int .i64 0, .slice none 0 0]), (w.heap.size + 1, [.int .i64 (N' : Int), .slice b L cap']), (w.heap.size, [.int .i64 (m : Int), .int .i64 (N' : Int), .slice (some ⟨g1, off, none⟩) m cap])]) [⟨o', lo', hi', .slice b L cap', L, f⟩] [⟨o, lo, hi, .slice (some ⟨g1, off, none⟩) m cap, m, ln, F⟩])
      case first =>
        go_region_held3 (fun w' => w'.cell? ⟨w.heap.size, 1, none⟩ = some (.int .i64 (N' : Int)) ∧ w'.cell? ⟨w.heap.size, 2, none⟩ = some (.slice (some ⟨g1, off, none⟩) m cap) ∧ w'.cell? ⟨g1, off + t, none⟩ = some (.slice a1 L k1) ∧ w'.cell? ⟨w.heap.size + 1, 0, none⟩ = some (.int .i64 (N' : Int)) ∧ w'.cell? ⟨w.heap.size + 1, 1, none⟩ = some (.slice b L cap'))
          (first | exact ⟨c1, c2, ck, e0, e1⟩ | exact ⟨cell_later ((Below.refl _ _).alloc (Nat.le_refl _) _) c1, cell_later ((Below.refl _ _).alloc (Nat.le_refl _) _) c2, cell_later ((Below.refl _ _).alloc (Nat.le_refl _) _) ck, cell_later ((Below.refl _ _).alloc (Nat.le_refl _) _) e0, cell_later ((Below.refl _ _).alloc (Nat.le_refl _) _) e1⟩ | exact ⟨cell_later (((Below.refl _ _).alloc (Nat.le_refl _) _)).drew c1, cell_later (((Below.refl _ _).alloc (Nat.le_refl _) _)).drew c2, cell_later (((Below.refl _ _).alloc (Nat.le_refl _) _)).drew ck, cell_later (((Below.refl _ _).alloc (Nat.le_refl _) _)).drew e0, cell_later (((Below.refl _ _).alloc (Nat.le_refl _) _)).drew e1⟩ | exact ⟨cell_later b6 c1, cell_later b6 c2, cell_later b6 ck, cell_later b6 e0, cell_later b6 e1⟩ | exact ⟨cell_later b6 (cell_later (((Below.refl _ _).alloc (Nat.le_refl _) _)).drew c1), cell_later b6 (cell_later (((Below.refl _ _).alloc (Nat.le_refl _) _)).drew c2), cell_later b6 (cell_later (((Below.refl _ _).alloc (Nat.le_refl _) _)).drew ck), cell_later b6 (cell_later (((Below.refl _ _).alloc (Nat.le_refl _) _)).drew e0), cell_later b6 (cell_later (((Below.refl _ _).alloc (Nat.le_refl _) _)).drew e1)⟩ | exact ⟨cell_later b6 (cell_later ((Below.refl _ _).alloc (Nat.le_refl _) _) c1), cell_later b6 (cell_later ((Below.refl _ _).alloc (Nat.le_refl _) _) c2), cell_later b6 (cell_later ((Below.refl _ _).alloc (Nat.le_refl _) _) ck), cell_later b6 (cell_later ((Below.refl _ _).alloc (Nat.le_refl _) _) e0), cell_later b6 (cell_later ((Below.refl _ _).alloc (Nat.le_refl _) _) e1)⟩ | exact ⟨cell_later ((Below.refl _ _).alloc (Nat.le_refl _) _) (cell_later b6 c1), cell_later ((Below.refl _ _).alloc (Nat.le_refl _) _) (cell_later b6 c2), cell_later ((Below.refl _ _).alloc (Nat.le_refl _) _) (cell_later b6 ck), cell_later ((Below.refl _ _).alloc (Nat.le_refl _) _) (cell_later b6 e0), cell_later ((Below.refl _ _).alloc (Nat.le_refl _) _) (cell_later b6 e1)⟩ | exact ⟨cell_one (cell_one (cell_later b6 (cell_later (((Below.refl _ _).alloc (Nat.le_refl _) _)).drew c1)) (by omega)) (by omega), cell_one (cell_one (cell_later b6 (cell_later (((Below.refl _ _).alloc (Nat.le_refl _) _)).drew c2)) (by omega)) (by omega), cell_one (cell_one (cell_later b6 (cell_later (((Below.refl _ _).alloc (Nat.le_refl _) _)).drew ck)) (by omega)) (by omega), cell_one (cell_one (cell_later b6 (cell_later (((Below.refl _ _).alloc (Nat.le_refl _) _)).drew e0)) (by omega)) (by omega), cell_one (cell_one (cell_later b6 (cell_later (((Below.refl _ _).alloc (Nat.le_refl _) _)).drew e1)) (by omega)) (by omega)⟩ | exact ⟨cell_one (cell_one (cell_later ((Below.refl _ _).alloc (Nat.le_refl _) _) (cell_later b6 c1)) (by omega)) (by omega), cell_one (cell_one (cell_later ((Below.refl _ _).alloc (Nat.le_refl _) _) (cell_later b6 c2)) (by omega)) (by omega), cell_one (cell_one (cell_later ((Below.refl _ _).alloc (Nat.le_refl _) _) (cell_later b6 ck)) (by omega)) (by omega), cell_one (cell_one (cell_later ((Below.refl _ _).alloc (Nat.le_refl _) _) (cell_later b6 e0)) (by omega)) (by omega), cell_one (cell_one (cell_later ((Below.refl _ _).alloc (Nat.le_refl _) _) (cell_later b6 e1)) (by omega)) (by omega)⟩ | exact ⟨cell_one (cell_one (cell_later b6 c1) (by omega)) (by omega), cell_one (cell_one (cell_later b6 c2) (by omega)) (by omega), cell_one (cell_one (cell_later b6 ck) (by omega)) (by omega), cell_one (cell_one (cell_later b6 e0) (by omega)) (by omega), cell_one (cell_one (cell_later b6 e1) (by omega)) (by omega)⟩ | go_keep)
          (first
            | (go_at_call 98; refine (l01Times_any N' h1 h16 _ (by first | with_reducible exact HR.out.drew | with_reducible exact (HR.out.alloc _).drew) (by first | with_reducible exact HT.out.drew | with_reducible exact (HT.out.alloc _).drew) HF1.out HF2.out (by omega) hphi).mono ?_; rintro e w6 ⟨a6, k6, bb, rfl, hiff, hsl, b6⟩
               rw [HL.out] at hiff hsl ⊢
               obtain rfl : bb = false := by cases bb with | false => rfl | true => exact absurd (hiff.1 rfl) HFT.out
               clear hiff
               clear hsl
               skip
               have hz6 := b6.size
               try simp only [World.size_drew, World.size_alloc] at hz6
               skip
               first | have U6 := HU.out.drew.keep b6 (by simp) | have U6 := (HU.out.alloc _).drew.keep b6 (by simp)
               first | have S6 := HS.out.drew.keep b6 | have S6 := (HS.out.boxNew (.int .i64 0) (.slice none 0 0) 37).drew.keep b6
               try (obtain ⟨o0, o1⟩ := (S6.box 0 (_, [.int .i64 0, .slice none 0 0]) rfl).cell2
                    have oz := (S6.box 0 (_, [.int .i64 0, .slice none 0 0]) rfl).2.2
                    dsimp only at oz
                    try simp only [World.size_alloc, World.size_drew] at o0 o1 oz)))
        all_goals
          go_wp2_with fail
          go_meet
          first
            | exact ⟨w6.heap.size, a6, k6, 0, 0, rfl, rfl, by omega, by simp, S6.boxNew _ _ _⟩
            | (have stb := S6.boxSet2 (u0 := .int .i64 (N' : Int)) (u1 := .slice a6 L k6) (by (try simp only [World.size_alloc, World.size_drew]); omega) (by (try simp only [World.size_alloc, World.size_drew]); intro b hb; simp only [List.mem_cons, List.not_mem_nil, or_false] at hb; rcases hb with rfl | rfl | rfl <;> dsimp only <;> omega) (by (try simp only [World.size_alloc, World.size_drew]); intro s hs'; simp only [List.mem_cons, List.not_mem_nil, or_false] at hs'; rcases hs' with rfl <;> dsimp only <;> omega) (by (try simp only [World.size_alloc, World.size_drew]); intro s hs'; simp only [List.mem_cons, List.not_mem_nil, or_false] at hs'; rcases hs' with rfl <;> dsimp only <;> omega)
               try simp only [World.size_alloc, World.size_drew] at stb
               exact ⟨wr.heap.size, a6, k6, 0, 0, rfl, rfl, by omega, by simp only [World.size_setCell]; omega, stb⟩)
      case rest =>
        obtain ⟨bq, a6, k6, lo6, hi6, rfl, rfl, hb1, hb2, S6⟩ := hcut
        obtain ⟨d0, d1, d2⟩ := (S6.box 1 (w.heap.size + 1 + 1, [.int .i64 0, .int .i64 0, .slice none 0 0]) rfl).c3
        have dz := (S6.box 1 (w.heap.size + 1 + 1, [.int .i64 0, .int .i64 0, .slice none 0 0]) rfl).2.2
        dsimp only at dz
        have BB := S6.1
        clear S6 HS HU c0 c1 c2 ck e0 e1
        go_wp2
        refine bodyPost_ret (v := failG 3) (by simp [results, Try.results37, go_sem, failG, d0, d1, d2]) rfl ?_
        exact ⟨rfl, by first | exact BB | go_grown⟩

end
end Go.Proofs.Ythmhjnholhiohaa
