/- NormOf of the program and of the model. -/
import Derived.Test.YtloalhcloifgjaaProdS
namespace Go.Proofs.Ytloalhcloifgjaa
open Go.RowKit Go.ChangeShapes Go.Sort
set_option linter.unusedVariables false
set_option linter.unusedSimpArgs false

section
variable {o : Bool} {lo hi L : Nat} {v : Value} {f : Nat → Int}
theorem productOfImages_ok (n : Nat) (h1 : 1 ≤ n) (h2 : n ≤ 16) (w : World) {base g cap t s m cap2 off : Nat} (hR : RowE w base 128 12 g cap t (fun k => arrL (imA n L f k))) (hoff : 0 < m → off = s * 12) (hst : s + m ≤ t) (ht : t ≤ 12) (hf : Within f L 1000000000) (hL : L ≤ 12) (hk : prOk n L f s m) :
    Calls Try.prog 191 #[.int .i64 (n : Int), .slice (some ⟨g, off, none⟩) m cap2] w fun e w' => ∃ a' cap', e = .returned (.tuple #[.agg #[.int .i64 (n : Int), .slice a' (phiN n) cap'], .int .i64 0]) ∧ Sl true w' w.heap.size w'.heap.size (.slice a' (phiN n) cap') (phiN n) (prI n L f s m) ∧ Below w.heap.size w w' :=
  (productOfImages_any n h1 h2 w hR hoff hst ht hf hL).mono fun e w' ⟨h, b⟩ => by
    rcases h with ⟨_, a, c, he, hs⟩ | ⟨h, _⟩
    · exact ⟨a, c, he, hs, b⟩
    · exact absurd hk h
theorem productOfImages_big (n : Nat) (h1 : 1 ≤ n) (h2 : n ≤ 16) (w : World) {base g cap t s m cap2 off : Nat} (hR : RowE w base 128 12 g cap t (fun k => arrL (imA n L f k))) (hoff : 0 < m → off = s * 12) (hst : s + m ≤ t) (ht : t ≤ 12) (hf : Within f L 1000000000) (hL : L ≤ 12) (hk : ¬ prOk n L f s m) :
    Calls Try.prog 191 #[.int .i64 (n : Int), .slice (some ⟨g, off, none⟩) m cap2] w fun e w' => e = .returned (failV 3) ∧ Below w.heap.size w w' :=
  (productOfImages_any n h1 h2 w hR hoff hst ht hf hL).mono fun e w' ⟨h, b⟩ => by
    rcases h with ⟨h, _⟩ | ⟨_, he⟩
    · exact absurd h hk
    · exact ⟨he, b⟩
theorem l02Product_ok (n : Nat) (s : Nat) (w : World) (hs : Sl o w lo hi v L f) (h : CyP n L f) (hsn : s ≤ phiN n) (hk : prOk n L f s (phiN n - s)) :
    Calls Try.prog 233 #[.agg #[.int .i64 (n : Int), v], .int .i64 (s : Int)] w fun e w' => ∃ a' cap', e = .returned (.tuple #[.agg #[.int .i64 (n : Int), .slice a' (phiN n) cap'], .bool true]) ∧ Sl true w' w.heap.size w'.heap.size (.slice a' (phiN n) cap') (phiN n) (prI n L f s (phiN n - s)) ∧ Below w.heap.size w w' :=
  (l02Product_any n s w hs h hsn).mono fun e w' ⟨h, b⟩ => by
    rcases h with ⟨_, a, c, he, hs⟩ | ⟨h, _⟩
    · exact ⟨a, c, he, hs, b⟩
    · exact absurd hk h
theorem l02Product_big (n : Nat) (s : Nat) (w : World) (hs : Sl o w lo hi v L f) (h : CyP n L f) (hsn : s ≤ phiN n) (hk : ¬ prOk n L f s (phiN n - s)) :
    Calls Try.prog 233 #[.agg #[.int .i64 (n : Int), v], .int .i64 (s : Int)] w fun e w' => e = .returned (.tuple #[.agg #[.int .i64 0, .slice none 0 0], .bool false]) ∧ Below w.heap.size w w' :=
  (l02Product_any n s w hs h hsn).mono fun e w' ⟨h, b⟩ => by
    rcases h with ⟨h, _⟩ | ⟨_, he⟩
    · exact absurd h hk
    · exact ⟨he, b⟩
theorem NormOf_impl_bad (x : Int) (w : World) (hs : Sl o w lo hi v L f) (h : ¬ CyP x L f) :
    Calls Try.prog 104 #[.agg #[.int .i64 x, v]] w fun e w' => e = .returned (.tuple #[.int .i64 0, .int .i64 1]) ∧ Below w.heap.size w w' := by
  obtain ⟨av, cap, rfl⟩ := hs.shape
  have st0 := ((((St.start w).addSl ⟨o, lo, hi, .slice av L cap, L, f⟩ hs).alloc (.cells #[.int .i64 x, .slice av L cap] 26)).addBox w.heap.size [.int .i64 x, .slice av L cap] (Box.made _ _ _ _ (fun j v h => by simpa using h)))
  have q0 := st0.sl 0 ⟨o, lo, hi, .slice av L cap, L, f⟩ rfl
  dsimp only at q0
  have HC := Lib.hid h
  clear h hs
  go_enter Try.func104, Try.ntmps104
  go_wp2_with fail
  refine (IsCyclo_no _ _ q0 HC.out).mono ?_
  rintro e w1 ⟨rfl, b1⟩
  clear q0
  have st1 := st0.keep b1
  have hz_w1 := b1.size
  try simp only [World.size_alloc] at hz_w1
  clear st0 b1
  have BB := st1.1
  go_wp2
  refine bodyPost_ret (v := .tuple #[.int .i64 0, .int .i64 1]) (by simp [results, Try.results104, go_sem]) rfl ?_
  exact ⟨rfl, BB⟩

theorem NormOf_spec_bad (x : Int) (w : World) (hs : Sl o w lo hi v L f) (h : ¬ CyP x L f) :
    Calls Try.prog 196 #[.agg #[.int .i64 x, v]] w fun e w' => e = .returned (.tuple #[.int .i64 0, .int .i64 1]) ∧ Below w.heap.size w w' := by
  obtain ⟨av, cap, rfl⟩ := hs.shape
  have st0 := ((((St.start w).addSl ⟨o, lo, hi, .slice av L cap, L, f⟩ hs).alloc (.cells #[.int .i64 x, .slice av L cap] 26)).addBox w.heap.size [.int .i64 x, .slice av L cap] (Box.made _ _ _ _ (fun j v h => by simpa using h)))
  have q0 := st0.sl 0 ⟨o, lo, hi, .slice av L cap, L, f⟩ rfl
  dsimp only at q0
  have HC := Lib.hid h
  clear h hs
  go_enter Try.func196, Try.ntmps196
  go_wp2_with fail
  refine (l01Is_no _ _ q0 HC.out).mono ?_
  rintro e w1 ⟨rfl, b1⟩
  clear q0
  have st1 := st0.keep b1
  have hz_w1 := b1.size
  try simp only [World.size_alloc] at hz_w1
  clear st0 b1
  have BB := st1.1
  go_wp2
  refine bodyPost_ret (v := .tuple #[.int .i64 0, .int .i64 1]) (by simp [results, Try.results196, go_sem]) rfl ?_
  exact ⟨rfl, BB⟩

set_option maxRecDepth 100000 in
set_option maxHeartbeats 4000000 in
theorem NormOf_impl_ok (n : Nat) (w : World) (hs : Sl o w lo hi v L f) (h : CyP n L f) (hk : prOk n L f 0 (phiN n)) :
    Calls Try.prog 104 #[.agg #[.int .i64 (n : Int), v]] w fun e w' => e = .returned (.tuple #[.int .i64 (prI n L f 0 (phiN n) 0), .int .i64 0]) ∧ Below w.heap.size w w' := by
  have HK := Lib.hid hk
  have HF := Lib.hid h.2.2.2
  clear hk
  obtain ⟨av, cap, rfl⟩ := hs.shape
  have hn1 : 1 ≤ n := by have := h.1; omega
  have hn2 : n ≤ 16 := by have := h.2.1; omega
  have hp := phi_le12 n hn2 hn1
  have hL : L ≤ 12 := by have e : L = phiN n := h.2.2.1; omega
  have hpos : 0 < L := by have e : L = phiN n := h.2.2.1; have := phiN_pos n (by omega) hn1; omega
  have hhs := hs.size
  have st0 := ((((St.start w).addSl ⟨o, lo, hi, .slice av L cap, L, f⟩ hs).alloc (.cells #[.int .i64 (n : Int), .slice av L cap] 26)).addBox w.heap.size [.int .i64 (n : Int), .slice av L cap] (Box.made _ _ _ _ (fun j v h => by simpa using h)))
  have q0 := st0.sl 0 ⟨o, lo, hi, .slice av L cap, L, f⟩ rfl
  dsimp only at q0
  have HC := Lib.hid h
  clear h hs
  go_enter Try.func104, Try.ntmps104
  go_wp2_with fail
  refine (IsCyclo_yes _ _ q0 HC.out).mono ?_
  rintro e w1 ⟨rfl, b1⟩
  clear q0
  have st1 := st0.keep b1
  have hz_w1 := b1.size
  try simp only [World.size_alloc] at hz_w1
  clear st0 b1
  obtain ⟨c0, c1⟩ := (st1.box 0 (w.heap.size, [.int .i64 (n : Int), .slice av L cap]) rfl).cell2
  have hp0 := phiN_pos n (by omega) hn1
  have q0 := st1.sl 0 ⟨o, lo, hi, .slice av L cap, L, f⟩ rfl
  dsimp only at q0
  have hl1 : w.heap.size < w1.heap.size := by omega
  go_wp2_with fail
  go_region_law (first
      | (go_simp; go_at_call 185; refine (imagesOf_any n hn1 hn2 _ q0.drew (by omega)).mono ?_; rintro e w6 ⟨g6, c6, rfl, r6, b6⟩
         have hz6 := b6.size
         have st6 := st1.drew.keep b6
         obtain ⟨x6, x6'⟩ := (st6.box 0 (w.heap.size, [.int .i64 (n : Int), .slice av L cap]) rfl).cell2
         have hl6 : w.heap.size < w6.heap.size := by simp only [World.size_drew, World.size_alloc] at hz6; omega)
      | (go_simp; go_at_call 185; refine (imagesOf_any n hn1 hn2 _ (q0.alloc (.cells #[.int .i64 0, .slice none 0 0] 26)).drew (by omega)).mono ?_; rintro e w6 ⟨g6, c6, rfl, r6, b6⟩
         have hz6 := b6.size
         have st6 := (st1.boxNew (.int .i64 0) (.slice none 0 0) 26).drew.keep b6
         have bx6 := st6.box 0 _ rfl
         obtain ⟨x6, x6'⟩ := (st6.box 1 (w.heap.size, [.int .i64 (n : Int), .slice av L cap]) rfl).cell2
         have hl6 : w.heap.size < w6.heap.size := by simp only [World.size_drew, World.size_alloc] at hz6; omega)
      | (go_simp; go_at_call 191; have _g := bx6; refine (productOfImages_ok n hn1 hn2 _ (s := 0) (m := phiN n) (off := 0) (by exact r6) (fun _ => rfl) (by omega) hp HF.out hL HK.out).mono ?_; rintro e w7 ⟨a7, k7, rfl, s7, b7⟩
         have hz7 := b7.size
         have st7 := st6.keep b7
         have bx7 := bx6.keep b7
         obtain ⟨q0', q1'⟩ := bx7.cell2
         have qz' := bx7.2.2)
      | (go_simp; go_at_call 191; have _g := b6; refine (productOfImages_ok n hn1 hn2 _ (s := 0) (m := phiN n) (off := 0) (by exact r6) (fun _ => rfl) (by omega) hp HF.out hL HK.out).mono ?_; rintro e w7 ⟨a7, k7, rfl, s7, b7⟩
         have hz7 := b7.size
         have st7 := st6.keep b7)
      | (go_simp; go_at_call 191; have _g := b6; refine (productOfImages_ok n hn1 hn2 _ (s := 0) (m := phiN n) (off := 0) (by exact r6.alloc (.cells #[.int .i64 0, .slice none 0 0] 26)) (fun _ => rfl) (by omega) hp HF.out hL HK.out).mono ?_; rintro e w7 ⟨a7, k7, rfl, s7, b7⟩
         have hz7 := b7.size
         have st7 := (st6.boxNew (.int .i64 0) (.slice none 0 0) 26).keep b7
         have bx7 := st7.box 0 _ rfl
         obtain ⟨q0', q1'⟩ := bx7.cell2
         have qz' := bx7.2.2))
  all_goals first
    | (have _g : Box w7 w6.heap.size [.int .i64 0, .slice none 0 0] := bx7
       have W8 := bx7.set2 (u0 := .int .i64 (n : Int)) (u1 := .slice a7 (phiN n) k7)
       have c8 := W8.cell2.2
       have BB := (st7.tailB.set2 (b := w6.heap.size) (i := 0) (j := 1) (u := .int .i64 (n : Int)) (v := .slice a7 (phiN n) k7) (by omega) (by intro b hb; simp only [List.mem_cons, List.not_mem_nil, or_false] at hb; rcases hb with rfl <;> dsimp only <;> omega) (by intro s hs'; simp only [List.mem_cons, List.not_mem_nil, or_false] at hs'; rcases hs' with rfl <;> dsimp only <;> omega)).1
       have q8 := (s7.setOther (p := ⟨w6.heap.size, 0, none⟩) (.inl (by show w6.heap.size < (w6.alloc _).heap.size; rw [World.size_alloc]; omega)) (.int .i64 (n : Int))).setOther (p := ⟨w6.heap.size, 1, none⟩) (.inl (by show w6.heap.size < (w6.alloc _).heap.size; rw [World.size_alloc]; omega)) (.slice a7 (phiN n) k7)
       obtain ⟨b9, off9, k9, hv9, _, _, _, _, hc9, _⟩ := q8.at hp0
       cases hv9
       have x9 := hc9 0 hp0
       try rw [Nat.add_zero] at x9
       clear hc9 q8
       clear st7 b7 st6 b6 r6 st1 q0
       go_wp2
       go_ret2
       exact ⟨rfl, BB⟩)
    | (have _g : Box w7 w1.heap.size [.int .i64 0, .slice none 0 0] := bx7
       have W8 := bx7.set2 (u0 := .int .i64 (n : Int)) (u1 := .slice a7 (phiN n) k7)
       have c8 := W8.cell2.2
       have BB := (st7.tailB.set2 (b := w1.heap.size) (i := 0) (j := 1) (u := .int .i64 (n : Int)) (v := .slice a7 (phiN n) k7) (by omega) (by intro b hb; simp only [List.mem_cons, List.not_mem_nil, or_false] at hb; rcases hb with rfl <;> dsimp only <;> omega) (by intro s hs'; simp only [List.mem_cons, List.not_mem_nil, or_false] at hs'; rcases hs' with rfl <;> dsimp only <;> omega)).1
       have q8 := (s7.setOther (p := ⟨w1.heap.size, 0, none⟩) (.inl (by show w1.heap.size < w6.heap.size; simp only [World.size_drew, World.size_alloc] at hz6; omega)) (.int .i64 (n : Int))).setOther (p := ⟨w1.heap.size, 1, none⟩) (.inl (by show w1.heap.size < w6.heap.size; simp only [World.size_drew, World.size_alloc] at hz6; omega)) (.slice a7 (phiN n) k7)
       obtain ⟨b9, off9, k9, hv9, _, _, _, _, hc9, _⟩ := q8.at hp0
       cases hv9
       have x9 := hc9 0 hp0
       try rw [Nat.add_zero] at x9
       clear hc9 q8
       clear st7 b7 st6 b6 r6 st1 q0
       go_wp2
       go_ret2
       exact ⟨rfl, BB⟩)
    | (have st8 := st7.boxNew (.int .i64 (n : Int)) (.slice a7 (phiN n) k7) 26
       have c8 := ((st8.box 0 (w7.heap.size, [.int .i64 (n : Int), .slice a7 (phiN n) k7]) rfl).cell2).2
       have BB := st8.1
       have q8 := s7.alloc (.cells #[.int .i64 (n : Int), .slice a7 (phiN n) k7] 26)
       obtain ⟨b9, off9, k9, hv9, _, _, _, _, hc9, _⟩ := q8.at hp0
       cases hv9
       have x9 := hc9 0 hp0
       try rw [Nat.add_zero] at x9
       clear hc9 q8
       clear st8 st7 b7 st6 b6 r6 st1 q0
       go_wp2
       go_ret2
       exact ⟨rfl, BB⟩)

set_option maxRecDepth 100000 in
set_option maxHeartbeats 4000000 in
theorem NormOf_impl_big (n : Nat) (w : World) (hs : Sl o w lo hi v L f) (h : CyP n L f) (hk : ¬ prOk n L f 0 (phiN n)) :
    Calls Try.prog 104 #[.agg #[.int .i64 (n : Int), v]] w fun e w' => e = .returned (.tuple #[.int .i64 0, .int .i64 3]) ∧ Below w.heap.size w w' := by
  have HK := Lib.hid hk
  have HF := Lib.hid h.2.2.2
  clear hk
  obtain ⟨av, cap, rfl⟩ := hs.shape
  have hn1 : 1 ≤ n := by have := h.1; omega
  have hn2 : n ≤ 16 := by have := h.2.1; omega
  have hp := phi_le12 n hn2 hn1
  have hL : L ≤ 12 := by have e : L = phiN n := h.2.2.1; omega
  have hpos : 0 < L := by have e : L = phiN n := h.2.2.1; have := phiN_pos n (by omega) hn1; omega
  have hhs := hs.size
  have st0 := ((((St.start w).addSl ⟨o, lo, hi, .slice av L cap, L, f⟩ hs).alloc (.cells #[.int .i64 (n : Int), .slice av L cap] 26)).addBox w.heap.size [.int .i64 (n : Int), .slice av L cap] (Box.made _ _ _ _ (fun j v h => by simpa using h)))
  have q0 := st0.sl 0 ⟨o, lo, hi, .slice av L cap, L, f⟩ rfl
  dsimp only at q0
  have HC := Lib.hid h
  clear h hs
  go_enter Try.func104, Try.ntmps104
  go_wp2_with fail
  refine (IsCyclo_yes _ _ q0 HC.out).mono ?_
  rintro e w1 ⟨rfl, b1⟩
  clear q0
  have st1 := st0.keep b1
  have hz_w1 := b1.size
  try simp only [World.size_alloc] at hz_w1
  clear st0 b1
  obtain ⟨c0, c1⟩ := (st1.box 0 (w.heap.size, [.int .i64 (n : Int), .slice av L cap]) rfl).cell2
  have hp0 := phiN_pos n (by omega) hn1
  have q0 := st1.sl 0 ⟨o, lo, hi, .slice av L cap, L, f⟩ rfl
  dsimp only at q0
  have hl1 : w.heap.size < w1.heap.size := by omega
  go_wp2_with fail
  go_region_law (first
      | (go_simp; go_at_call 185; refine (imagesOf_any n hn1 hn2 _ q0.drew (by omega)).mono ?_; rintro e w6 ⟨g6, c6, rfl, r6, b6⟩
         have hz6 := b6.size
         have st6 := st1.drew.keep b6
         obtain ⟨x6, x6'⟩ := (st6.box 0 (w.heap.size, [.int .i64 (n : Int), .slice av L cap]) rfl).cell2
         have hl6 : w.heap.size < w6.heap.size := by simp only [World.size_drew, World.size_alloc] at hz6; omega)
      | (go_simp; go_at_call 185; refine (imagesOf_any n hn1 hn2 _ (q0.alloc (.cells #[.int .i64 0, .slice none 0 0] 26)).drew (by omega)).mono ?_; rintro e w6 ⟨g6, c6, rfl, r6, b6⟩
         have hz6 := b6.size
         have st6 := (st1.boxNew (.int .i64 0) (.slice none 0 0) 26).drew.keep b6
         have bx6 := st6.box 0 _ rfl
         obtain ⟨x6, x6'⟩ := (st6.box 1 (w.heap.size, [.int .i64 (n : Int), .slice av L cap]) rfl).cell2
         have hl6 : w.heap.size < w6.heap.size := by simp only [World.size_drew, World.size_alloc] at hz6; omega)
      | (go_simp; go_at_call 191; have _g := bx6; refine (productOfImages_big n hn1 hn2 _ (s := 0) (m := phiN n) (off := 0) (by exact r6) (fun _ => rfl) (by omega) hp HF.out hL HK.out).mono ?_; rintro e w7 ⟨rfl, b7⟩
         unfold failV
         have hz7 := b7.size
         have st7 := st6.keep b7
         have bx7 := bx6.keep b7
         obtain ⟨q0', q1'⟩ := bx7.cell2
         have qz' := bx7.2.2)
      | (go_simp; go_at_call 191; have _g := b6; refine (productOfImages_big n hn1 hn2 _ (s := 0) (m := phiN n) (off := 0) (by exact r6) (fun _ => rfl) (by omega) hp HF.out hL HK.out).mono ?_; rintro e w7 ⟨rfl, b7⟩
         unfold failV
         have hz7 := b7.size
         have st7 := st6.keep b7)
      | (go_simp; go_at_call 191; have _g := b6; refine (productOfImages_big n hn1 hn2 _ (s := 0) (m := phiN n) (off := 0) (by exact r6.alloc (.cells #[.int .i64 0, .slice none 0 0] 26)) (fun _ => rfl) (by omega) hp HF.out hL HK.out).mono ?_; rintro e w7 ⟨rfl, b7⟩
         unfold failV
         have hz7 := b7.size
         have st7 := (st6.boxNew (.int .i64 0) (.slice none 0 0) 26).keep b7
         have bx7 := st7.box 0 _ rfl
         obtain ⟨q0', q1'⟩ := bx7.cell2
         have qz' := bx7.2.2))
  all_goals first
    | (have _g : Box w7 w6.heap.size [.int .i64 0, .slice none 0 0] := bx7
       have W8 := bx7.set2 (u0 := .int .i64 0) (u1 := .slice none 0 0)
       have c8 := W8.cell2.2
       have BB := (st7.tailB.set2 (b := w6.heap.size) (i := 0) (j := 1) (u := .int .i64 0) (v := .slice none 0 0) (by omega) (by intro b hb; simp only [List.mem_cons, List.not_mem_nil, or_false] at hb; rcases hb with rfl <;> dsimp only <;> omega) (by intro s hs'; simp only [List.mem_cons, List.not_mem_nil, or_false] at hs'; rcases hs' with rfl <;> dsimp only <;> omega)).1
       clear st7 b7 st6 b6 r6 st1 q0
       go_wp2
       go_ret2
       exact ⟨rfl, BB⟩)
    | (have _g : Box w7 w1.heap.size [.int .i64 0, .slice none 0 0] := bx7
       have W8 := bx7.set2 (u0 := .int .i64 0) (u1 := .slice none 0 0)
       have c8 := W8.cell2.2
       have BB := (st7.tailB.set2 (b := w1.heap.size) (i := 0) (j := 1) (u := .int .i64 0) (v := .slice none 0 0) (by omega) (by intro b hb; simp only [List.mem_cons, List.not_mem_nil, or_false] at hb; rcases hb with rfl <;> dsimp only <;> omega) (by intro s hs'; simp only [List.mem_cons, List.not_mem_nil, or_false] at hs'; rcases hs' with rfl <;> dsimp only <;> omega)).1
       clear st7 b7 st6 b6 r6 st1 q0
       go_wp2
       go_ret2
       exact ⟨rfl, BB⟩)
    | (have st8 := st7.boxNew (.int .i64 0) (.slice none 0 0) 26
       have c8 := ((st8.box 0 (w7.heap.size, [.int .i64 0, .slice none 0 0]) rfl).cell2).2
       have BB := st8.1
       clear st8 st7 b7 st6 b6 r6 st1 q0
       go_wp2
       go_ret2
       exact ⟨rfl, BB⟩)

set_option maxRecDepth 100000 in
set_option maxHeartbeats 4000000 in
theorem NormOf_spec_ok (n : Nat) (w : World) (hs : Sl o w lo hi v L f) (h : CyP n L f) (hk : prOk n L f 0 (phiN n)) :
    Calls Try.prog 196 #[.agg #[.int .i64 (n : Int), v]] w fun e w' => e = .returned (.tuple #[.int .i64 (prI n L f 0 (phiN n) 0), .int .i64 0]) ∧ Below w.heap.size w w' := by
  have HK := Lib.hid (show prOk n L f 0 (phiN n - 0) from hk)
  clear hk
  obtain ⟨av, cap, rfl⟩ := hs.shape
  have hn1 : 1 ≤ n := by have := h.1; omega
  have hn2 : n ≤ 16 := by have := h.2.1; omega
  have hp := phi_le12 n hn2 hn1
  have hL : L ≤ 12 := by have e : L = phiN n := h.2.2.1; omega
  have hpos : 0 < L := by have e : L = phiN n := h.2.2.1; have := phiN_pos n (by omega) hn1; omega
  have hhs := hs.size
  have st0 := ((((St.start w).addSl ⟨o, lo, hi, .slice av L cap, L, f⟩ hs).alloc (.cells #[.int .i64 (n : Int), .slice av L cap] 26)).addBox w.heap.size [.int .i64 (n : Int), .slice av L cap] (Box.made _ _ _ _ (fun j v h => by simpa using h)))
  have q0 := st0.sl 0 ⟨o, lo, hi, .slice av L cap, L, f⟩ rfl
  dsimp only at q0
  have HC := Lib.hid h
  clear h hs
  go_enter Try.func196, Try.ntmps196
  go_wp2_with fail
  refine (l01Is_yes _ _ q0 HC.out).mono ?_
  rintro e w1 ⟨rfl, b1⟩
  clear q0
  have st1 := st0.keep b1
  have hz_w1 := b1.size
  try simp only [World.size_alloc] at hz_w1
  clear st0 b1
  obtain ⟨c0, c1⟩ := (st1.box 0 (w.heap.size, [.int .i64 (n : Int), .slice av L cap]) rfl).cell2
  have hp0 := phiN_pos n (by omega) hn1
  have q0 := st1.sl 0 ⟨o, lo, hi, .slice av L cap, L, f⟩ rfl
  dsimp only at q0
  go_wp2_with fail
  refine (l02Product_ok n 0 _ q0 HC.out (Nat.zero_le _) HK.out).mono ?_
  rintro e w2 ⟨a2, k2, rfl, s2, b2⟩
  have q9 := s2.alloc (.cells #[.int .i64 (n : Int), .slice a2 (phiN n) k2] 26)
  have st2 := (st1.keep b2).boxNew (.int .i64 (n : Int)) (.slice a2 (phiN n) k2) 26
  have c2 := ((st2.box 0 (w2.heap.size, [.int .i64 (n : Int), .slice a2 (phiN n) k2]) rfl).cell2).2
  have BB := st2.1
  obtain ⟨b9, off9, k9, hv9, _, _, _, _, hc9, _⟩ := q9.at hp0
  cases hv9
  have x9 := hc9 0 hp0
  try rw [Nat.add_zero] at x9
  clear hc9 q9 st2 st1 b2 s2 q0 c0 c1
  go_wp2
  go_ret2
  exact ⟨rfl, BB⟩

set_option maxRecDepth 100000 in
set_option maxHeartbeats 4000000 in
theorem NormOf_spec_big (n : Nat) (w : World) (hs : Sl o w lo hi v L f) (h : CyP n L f) (hk : ¬ prOk n L f 0 (phiN n)) :
    Calls Try.prog 196 #[.agg #[.int .i64 (n : Int), v]] w fun e w' => e = .returned (.tuple #[.int .i64 0, .int .i64 3]) ∧ Below w.heap.size w w' := by
  have HK := Lib.hid (show ¬ prOk n L f 0 (phiN n - 0) from hk)
  clear hk
  obtain ⟨av, cap, rfl⟩ := hs.shape
  have hn1 : 1 ≤ n := by have := h.1; omega
  have hn2 : n ≤ 16 := by have := h.2.1; omega
  have hp := phi_le12 n hn2 hn1
  have hL : L ≤ 12 := by have e : L = phiN n := h.2.2.1; omega
  have hpos : 0 < L := by have e : L = phiN n := h.2.2.1; have := phiN_pos n (by omega) hn1; omega
  have hhs := hs.size
  have st0 := ((((St.start w).addSl ⟨o, lo, hi, .slice av L cap, L, f⟩ hs).alloc (.cells #[.int .i64 (n : Int), .slice av L cap] 26)).addBox w.heap.size [.int .i64 (n : Int), .slice av L cap] (Box.made _ _ _ _ (fun j v h => by simpa using h)))
  have q0 := st0.sl 0 ⟨o, lo, hi, .slice av L cap, L, f⟩ rfl
  dsimp only at q0
  have HC := Lib.hid h
  clear h hs
  go_enter Try.func196, Try.ntmps196
  go_wp2_with fail
  refine (l01Is_yes _ _ q0 HC.out).mono ?_
  rintro e w1 ⟨rfl, b1⟩
  clear q0
  have st1 := st0.keep b1
  have hz_w1 := b1.size
  try simp only [World.size_alloc] at hz_w1
  clear st0 b1
  obtain ⟨c0, c1⟩ := (st1.box 0 (w.heap.size, [.int .i64 (n : Int), .slice av L cap]) rfl).cell2
  have hp0 := phiN_pos n (by omega) hn1
  have q0 := st1.sl 0 ⟨o, lo, hi, .slice av L cap, L, f⟩ rfl
  dsimp only at q0
  go_wp2_with fail
  refine (l02Product_big n 0 _ q0 HC.out (Nat.zero_le _) HK.out).mono ?_
  rintro e w2 ⟨rfl, b2⟩
  have BB := ((st1.keep b2).alloc (.cells #[.int .i64 0, .slice none 0 0] 26)).1
  clear st1 b2 q0 c0 c1
  go_wp2
  go_ret2
  exact ⟨rfl, BB⟩

end
end Go.Proofs.Ytloalhcloifgjaa
