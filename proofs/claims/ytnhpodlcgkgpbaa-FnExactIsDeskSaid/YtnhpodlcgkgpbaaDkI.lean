/- IsDesk of the program and of the model. -/
import Derived.Test.YtnhpodlcgkgpbaaDk
import Derived.Test.YtnhpodlcgkgpbaaChr2
import Derived.Test.YtnhpodlcgkgpbaaIs
import Derived.Test.YtnhpodlcgkgpbaaRgI
import Derived.Test.YtnhpodlcgkgpbaaRgX
namespace Go.Proofs.Ytnhpodlcgkgpbaa
open Go.RowKit Go.ChangeShapes Go.Sort
set_option linter.unusedVariables false
set_option linter.unusedSimpArgs false
set_option maxRecDepth 100000
set_option maxHeartbeats 2000000
theorem IsDesk_impl_noC (x p q r y : Int) {a : Option Addr} {n c : Nat} {b : Option Addr} {m d : Nat} {f g : Nat → Int} {o o' : Bool} {lo hi lo' hi' : Nat} (w : World) (hs : Sl o w lo hi (.slice a n c) n f) (ht : Sl o' w lo' hi' (.slice b m d) m g) (h1 : ¬ CyP x n f) :
    Calls Try.prog 22 #[.agg #[.int .i64 x, .slice a n c, .int .i64 p, .int .i64 q, .int .i64 r, .int .i64 y, .slice b m d]] w fun e w' => e = .returned (.bool false) ∧ Below w.heap.size w w' := by
  have st := ((((St.start w).addSl ⟨o, lo, hi, .slice a n c, n, f⟩ hs).addSl ⟨o', lo', hi', .slice b m d, m, g⟩ ht).alloc (.cells #[.int .i64 x, .slice a n c, .int .i64 p, .int .i64 q, .int .i64 r, .int .i64 y, .slice b m d] 30)).addBox w.heap.size [.int .i64 x, .slice a n c, .int .i64 p, .int .i64 q, .int .i64 r, .int .i64 y, .slice b m d] (Box.made _ _ _ _ (fun j v h => by simpa using h))
  have qa := st.sl 1 ⟨o, lo, hi, .slice a n c, n, f⟩ rfl
  dsimp only at qa
  have H1 := Lib.hid h1
  clear hs ht h1
  obtain ⟨x0, x1, x2, x3, x4, x5, x6⟩ := (st.box 0 (w.heap.size, [.int .i64 x, .slice a n c, .int .i64 p, .int .i64 q, .int .i64 r, .int .i64 y, .slice b m d]) rfl).cell7
  dsimp only at x0 x1 x2 x3 x4 x5 x6
  go_enter Try.func22, Try.ntmps22
  go_wp2_with fail
  refine (IsCyclo_no _ _ qa H1.out).mono ?_
  rintro e w1 ⟨rfl, b1⟩
  replace st := st.keep b1
  clear b1 qa x0 x1 x2 x3 x4 x5 x6
  have BB := st.1
  go_wp2
  go_ret
  exact ⟨rfl, BB⟩
theorem IsDesk_impl_noH (x p q r y : Int) {a : Option Addr} {n c : Nat} {b : Option Addr} {m d : Nat} {f g : Nat → Int} {o o' : Bool} {lo hi lo' hi' : Nat} (w : World) (hs : Sl o w lo hi (.slice a n c) n f) (ht : Sl o' w lo' hi' (.slice b m d) m g) (h1 : CyP x n f) (h2 : ¬ ChP p q r) :
    Calls Try.prog 22 #[.agg #[.int .i64 x, .slice a n c, .int .i64 p, .int .i64 q, .int .i64 r, .int .i64 y, .slice b m d]] w fun e w' => e = .returned (.bool false) ∧ Below w.heap.size w w' := by
  have st := ((((St.start w).addSl ⟨o, lo, hi, .slice a n c, n, f⟩ hs).addSl ⟨o', lo', hi', .slice b m d, m, g⟩ ht).alloc (.cells #[.int .i64 x, .slice a n c, .int .i64 p, .int .i64 q, .int .i64 r, .int .i64 y, .slice b m d] 30)).addBox w.heap.size [.int .i64 x, .slice a n c, .int .i64 p, .int .i64 q, .int .i64 r, .int .i64 y, .slice b m d] (Box.made _ _ _ _ (fun j v h => by simpa using h))
  have qa := st.sl 1 ⟨o, lo, hi, .slice a n c, n, f⟩ rfl
  dsimp only at qa
  have H1 := Lib.hid h1
  have H2 := Lib.hid h2
  clear hs ht h1 h2
  obtain ⟨x0, x1, x2, x3, x4, x5, x6⟩ := (st.box 0 (w.heap.size, [.int .i64 x, .slice a n c, .int .i64 p, .int .i64 q, .int .i64 r, .int .i64 y, .slice b m d]) rfl).cell7
  dsimp only at x0 x1 x2 x3 x4 x5 x6
  go_enter Try.func22, Try.ntmps22
  go_wp2_with fail
  refine (IsCyclo_yes _ _ qa H1.out).mono ?_
  rintro e w1 ⟨rfl, b1⟩
  replace st := st.keep b1
  clear b1 qa x0 x1 x2 x3 x4 x5 x6
  obtain ⟨x0, x1, x2, x3, x4, x5, x6⟩ := (st.box 0 (w.heap.size, [.int .i64 x, .slice a n c, .int .i64 p, .int .i64 q, .int .i64 r, .int .i64 y, .slice b m d]) rfl).cell7
  dsimp only at x0 x1 x2 x3 x4 x5 x6
  go_wp2_with fail
  refine (IsCharacter_dec p q r false (.inr ⟨H2.out, rfl⟩) _).mono ?_
  rintro e w2 ⟨rfl, b2⟩
  replace st := st.keep b2
  clear b2 x0 x1 x2 x3 x4 x5 x6
  have BB := st.1
  go_wp2
  go_ret
  exact ⟨rfl, BB⟩
theorem IsDesk_impl_noR (x p q r y : Int) {a : Option Addr} {n c : Nat} {b : Option Addr} {m d : Nat} {f g : Nat → Int} {o o' : Bool} {lo hi lo' hi' : Nat} (w : World) (hs : Sl o w lo hi (.slice a n c) n f) (ht : Sl o' w lo' hi' (.slice b m d) m g) (h1 : CyP x n f) (h2 : ChP p q r) (h3 : ¬ RgP y m g) :
    Calls Try.prog 22 #[.agg #[.int .i64 x, .slice a n c, .int .i64 p, .int .i64 q, .int .i64 r, .int .i64 y, .slice b m d]] w fun e w' => e = .returned (.bool false) ∧ Below w.heap.size w w' := by
  have st := ((((St.start w).addSl ⟨o, lo, hi, .slice a n c, n, f⟩ hs).addSl ⟨o', lo', hi', .slice b m d, m, g⟩ ht).alloc (.cells #[.int .i64 x, .slice a n c, .int .i64 p, .int .i64 q, .int .i64 r, .int .i64 y, .slice b m d] 30)).addBox w.heap.size [.int .i64 x, .slice a n c, .int .i64 p, .int .i64 q, .int .i64 r, .int .i64 y, .slice b m d] (Box.made _ _ _ _ (fun j v h => by simpa using h))
  have qa := st.sl 1 ⟨o, lo, hi, .slice a n c, n, f⟩ rfl
  dsimp only at qa
  have H1 := Lib.hid h1
  have H2 := Lib.hid h2
  have H3 := Lib.hid h3
  clear hs ht h1 h2 h3
  obtain ⟨x0, x1, x2, x3, x4, x5, x6⟩ := (st.box 0 (w.heap.size, [.int .i64 x, .slice a n c, .int .i64 p, .int .i64 q, .int .i64 r, .int .i64 y, .slice b m d]) rfl).cell7
  dsimp only at x0 x1 x2 x3 x4 x5 x6
  go_enter Try.func22, Try.ntmps22
  go_wp2_with fail
  refine (IsCyclo_yes _ _ qa H1.out).mono ?_
  rintro e w1 ⟨rfl, b1⟩
  replace st := st.keep b1
  clear b1 qa x0 x1 x2 x3 x4 x5 x6
  obtain ⟨x0, x1, x2, x3, x4, x5, x6⟩ := (st.box 0 (w.heap.size, [.int .i64 x, .slice a n c, .int .i64 p, .int .i64 q, .int .i64 r, .int .i64 y, .slice b m d]) rfl).cell7
  dsimp only at x0 x1 x2 x3 x4 x5 x6
  go_wp2_with fail
  refine (IsCharacter_dec p q r true (.inl ⟨H2.out, rfl⟩) _).mono ?_
  rintro e w2 ⟨rfl, b2⟩
  replace st := st.keep b2
  clear b2 x0 x1 x2 x3 x4 x5 x6
  obtain ⟨x0, x1, x2, x3, x4, x5, x6⟩ := (st.box 0 (w.heap.size, [.int .i64 x, .slice a n c, .int .i64 p, .int .i64 q, .int .i64 r, .int .i64 y, .slice b m d]) rfl).cell7
  dsimp only at x0 x1 x2 x3 x4 x5 x6
  have qb := st.sl 0 ⟨o', lo', hi', .slice b m d, m, g⟩ rfl
  dsimp only at qb
  go_wp2_with fail
  refine (IsRing_impl_no _ _ qb H3.out).mono ?_
  rintro e w3 ⟨rfl, b3⟩
  replace st := st.keep b3
  have BB := st.1
  go_wp2
  go_ret
  exact ⟨rfl, BB⟩
theorem IsDesk_impl_yes (x p q r y : Int) {a : Option Addr} {n c : Nat} {b : Option Addr} {m d : Nat} {f g : Nat → Int} {o o' : Bool} {lo hi lo' hi' : Nat} (w : World) (hs : Sl o w lo hi (.slice a n c) n f) (ht : Sl o' w lo' hi' (.slice b m d) m g) (h1 : CyP x n f) (h2 : ChP p q r) (h3 : RgP y m g) :
    Calls Try.prog 22 #[.agg #[.int .i64 x, .slice a n c, .int .i64 p, .int .i64 q, .int .i64 r, .int .i64 y, .slice b m d]] w fun e w' => e = .returned (.bool true) ∧ Below w.heap.size w w' := by
  obtain ⟨N, rfl⟩ := Int.eq_ofNat_of_zero_le (show 0 ≤ y by have := h3.1; omega)
  have st := ((((St.start w).addSl ⟨o, lo, hi, .slice a n c, n, f⟩ hs).addSl ⟨o', lo', hi', .slice b m d, m, g⟩ ht).alloc (.cells #[.int .i64 x, .slice a n c, .int .i64 p, .int .i64 q, .int .i64 r, .int .i64 (N : Int), .slice b m d] 30)).addBox w.heap.size [.int .i64 x, .slice a n c, .int .i64 p, .int .i64 q, .int .i64 r, .int .i64 (N : Int), .slice b m d] (Box.made _ _ _ _ (fun j v h => by simpa using h))
  have qa := st.sl 1 ⟨o, lo, hi, .slice a n c, n, f⟩ rfl
  dsimp only at qa
  have H1 := Lib.hid h1
  have H2 := Lib.hid h2
  have H3 := Lib.hid h3
  clear hs ht h1 h2 h3
  obtain ⟨x0, x1, x2, x3, x4, x5, x6⟩ := (st.box 0 (w.heap.size, [.int .i64 x, .slice a n c, .int .i64 p, .int .i64 q, .int .i64 r, .int .i64 (N : Int), .slice b m d]) rfl).cell7
  dsimp only at x0 x1 x2 x3 x4 x5 x6
  go_enter Try.func22, Try.ntmps22
  go_wp2_with fail
  refine (IsCyclo_yes _ _ qa H1.out).mono ?_
  rintro e w1 ⟨rfl, b1⟩
  replace st := st.keep b1
  clear b1 qa x0 x1 x2 x3 x4 x5 x6
  obtain ⟨x0, x1, x2, x3, x4, x5, x6⟩ := (st.box 0 (w.heap.size, [.int .i64 x, .slice a n c, .int .i64 p, .int .i64 q, .int .i64 r, .int .i64 (N : Int), .slice b m d]) rfl).cell7
  dsimp only at x0 x1 x2 x3 x4 x5 x6
  go_wp2_with fail
  refine (IsCharacter_dec p q r true (.inl ⟨H2.out, rfl⟩) _).mono ?_
  rintro e w2 ⟨rfl, b2⟩
  replace st := st.keep b2
  clear b2 x0 x1 x2 x3 x4 x5 x6
  obtain ⟨x0, x1, x2, x3, x4, x5, x6⟩ := (st.box 0 (w.heap.size, [.int .i64 x, .slice a n c, .int .i64 p, .int .i64 q, .int .i64 r, .int .i64 (N : Int), .slice b m d]) rfl).cell7
  dsimp only at x0 x1 x2 x3 x4 x5 x6
  have qb := st.sl 0 ⟨o', lo', hi', .slice b m d, m, g⟩ rfl
  dsimp only at qb
  go_wp2_with fail
  refine (IsRing_impl_yes _ _ qb H3.out).mono ?_
  rintro e w3 ⟨rfl, b3⟩
  replace st := st.keep b3
  have BB := st.1
  go_wp2
  go_ret
  exact ⟨rfl, BB⟩
theorem IsDesk_spec_noC (x p q r y : Int) {a : Option Addr} {n c : Nat} {b : Option Addr} {m d : Nat} {f g : Nat → Int} {o o' : Bool} {lo hi lo' hi' : Nat} (w : World) (hs : Sl o w lo hi (.slice a n c) n f) (ht : Sl o' w lo' hi' (.slice b m d) m g) (h1 : ¬ CyP x n f) :
    Calls Try.prog 20 #[.agg #[.int .i64 x, .slice a n c, .int .i64 p, .int .i64 q, .int .i64 r, .int .i64 y, .slice b m d]] w fun e w' => e = .returned (.bool false) ∧ Below w.heap.size w w' := by
  have st := ((((St.start w).addSl ⟨o, lo, hi, .slice a n c, n, f⟩ hs).addSl ⟨o', lo', hi', .slice b m d, m, g⟩ ht).alloc (.cells #[.int .i64 x, .slice a n c, .int .i64 p, .int .i64 q, .int .i64 r, .int .i64 y, .slice b m d] 30)).addBox w.heap.size [.int .i64 x, .slice a n c, .int .i64 p, .int .i64 q, .int .i64 r, .int .i64 y, .slice b m d] (Box.made _ _ _ _ (fun j v h => by simpa using h))
  have qa := st.sl 1 ⟨o, lo, hi, .slice a n c, n, f⟩ rfl
  dsimp only at qa
  have H1 := Lib.hid h1
  clear hs ht h1
  obtain ⟨x0, x1, x2, x3, x4, x5, x6⟩ := (st.box 0 (w.heap.size, [.int .i64 x, .slice a n c, .int .i64 p, .int .i64 q, .int .i64 r, .int .i64 y, .slice b m d]) rfl).cell7
  dsimp only at x0 x1 x2 x3 x4 x5 x6
  go_enter Try.func20, Try.ntmps20
  go_wp2_with fail
  refine (l01Is_no _ _ qa H1.out).mono ?_
  rintro e w1 ⟨rfl, b1⟩
  replace st := st.keep b1
  clear b1 qa x0 x1 x2 x3 x4 x5 x6
  have BB := st.1
  go_wp2
  go_ret
  exact ⟨rfl, BB⟩
theorem IsDesk_spec_noH (x p q r y : Int) {a : Option Addr} {n c : Nat} {b : Option Addr} {m d : Nat} {f g : Nat → Int} {o o' : Bool} {lo hi lo' hi' : Nat} (w : World) (hs : Sl o w lo hi (.slice a n c) n f) (ht : Sl o' w lo' hi' (.slice b m d) m g) (h1 : CyP x n f) (h2 : ¬ ChP p q r) :
    Calls Try.prog 20 #[.agg #[.int .i64 x, .slice a n c, .int .i64 p, .int .i64 q, .int .i64 r, .int .i64 y, .slice b m d]] w fun e w' => e = .returned (.bool false) ∧ Below w.heap.size w w' := by
  have st := ((((St.start w).addSl ⟨o, lo, hi, .slice a n c, n, f⟩ hs).addSl ⟨o', lo', hi', .slice b m d, m, g⟩ ht).alloc (.cells #[.int .i64 x, .slice a n c, .int .i64 p, .int .i64 q, .int .i64 r, .int .i64 y, .slice b m d] 30)).addBox w.heap.size [.int .i64 x, .slice a n c, .int .i64 p, .int .i64 q, .int .i64 r, .int .i64 y, .slice b m d] (Box.made _ _ _ _ (fun j v h => by simpa using h))
  have qa := st.sl 1 ⟨o, lo, hi, .slice a n c, n, f⟩ rfl
  dsimp only at qa
  have H1 := Lib.hid h1
  have H2 := Lib.hid h2
  clear hs ht h1 h2
  obtain ⟨x0, x1, x2, x3, x4, x5, x6⟩ := (st.box 0 (w.heap.size, [.int .i64 x, .slice a n c, .int .i64 p, .int .i64 q, .int .i64 r, .int .i64 y, .slice b m d]) rfl).cell7
  dsimp only at x0 x1 x2 x3 x4 x5 x6
  go_enter Try.func20, Try.ntmps20
  go_wp2_with fail
  refine (l01Is_yes _ _ qa H1.out).mono ?_
  rintro e w1 ⟨rfl, b1⟩
  replace st := st.keep b1
  clear b1 qa x0 x1 x2 x3 x4 x5 x6
  obtain ⟨x0, x1, x2, x3, x4, x5, x6⟩ := (st.box 0 (w.heap.size, [.int .i64 x, .slice a n c, .int .i64 p, .int .i64 q, .int .i64 r, .int .i64 y, .slice b m d]) rfl).cell7
  dsimp only at x0 x1 x2 x3 x4 x5 x6
  go_wp2_with fail
  refine (l03Is_dec p q r false (.inr ⟨H2.out, rfl⟩) _).mono ?_
  rintro e w2 ⟨rfl, b2⟩
  replace st := st.keep b2
  clear b2 x0 x1 x2 x3 x4 x5 x6
  have BB := st.1
  go_wp2
  go_ret
  exact ⟨rfl, BB⟩
theorem IsDesk_spec_noR (x p q r y : Int) {a : Option Addr} {n c : Nat} {b : Option Addr} {m d : Nat} {f g : Nat → Int} {o o' : Bool} {lo hi lo' hi' : Nat} (w : World) (hs : Sl o w lo hi (.slice a n c) n f) (ht : Sl o' w lo' hi' (.slice b m d) m g) (h1 : CyP x n f) (h2 : ChP p q r) (h3 : ¬ RgP y m g) :
    Calls Try.prog 20 #[.agg #[.int .i64 x, .slice a n c, .int .i64 p, .int .i64 q, .int .i64 r, .int .i64 y, .slice b m d]] w fun e w' => e = .returned (.bool false) ∧ Below w.heap.size w w' := by
  have st := ((((St.start w).addSl ⟨o, lo, hi, .slice a n c, n, f⟩ hs).addSl ⟨o', lo', hi', .slice b m d, m, g⟩ ht).alloc (.cells #[.int .i64 x, .slice a n c, .int .i64 p, .int .i64 q, .int .i64 r, .int .i64 y, .slice b m d] 30)).addBox w.heap.size [.int .i64 x, .slice a n c, .int .i64 p, .int .i64 q, .int .i64 r, .int .i64 y, .slice b m d] (Box.made _ _ _ _ (fun j v h => by simpa using h))
  have qa := st.sl 1 ⟨o, lo, hi, .slice a n c, n, f⟩ rfl
  dsimp only at qa
  have H1 := Lib.hid h1
  have H2 := Lib.hid h2
  have H3 := Lib.hid h3
  clear hs ht h1 h2 h3
  obtain ⟨x0, x1, x2, x3, x4, x5, x6⟩ := (st.box 0 (w.heap.size, [.int .i64 x, .slice a n c, .int .i64 p, .int .i64 q, .int .i64 r, .int .i64 y, .slice b m d]) rfl).cell7
  dsimp only at x0 x1 x2 x3 x4 x5 x6
  go_enter Try.func20, Try.ntmps20
  go_wp2_with fail
  refine (l01Is_yes _ _ qa H1.out).mono ?_
  rintro e w1 ⟨rfl, b1⟩
  replace st := st.keep b1
  clear b1 qa x0 x1 x2 x3 x4 x5 x6
  obtain ⟨x0, x1, x2, x3, x4, x5, x6⟩ := (st.box 0 (w.heap.size, [.int .i64 x, .slice a n c, .int .i64 p, .int .i64 q, .int .i64 r, .int .i64 y, .slice b m d]) rfl).cell7
  dsimp only at x0 x1 x2 x3 x4 x5 x6
  go_wp2_with fail
  refine (l03Is_dec p q r true (.inl ⟨H2.out, rfl⟩) _).mono ?_
  rintro e w2 ⟨rfl, b2⟩
  replace st := st.keep b2
  clear b2 x0 x1 x2 x3 x4 x5 x6
  obtain ⟨x0, x1, x2, x3, x4, x5, x6⟩ := (st.box 0 (w.heap.size, [.int .i64 x, .slice a n c, .int .i64 p, .int .i64 q, .int .i64 r, .int .i64 y, .slice b m d]) rfl).cell7
  dsimp only at x0 x1 x2 x3 x4 x5 x6
  have qb := st.sl 0 ⟨o', lo', hi', .slice b m d, m, g⟩ rfl
  dsimp only at qb
  go_wp2_with fail
  refine (l10Is_no _ _ qb H3.out).mono ?_
  rintro e w3 ⟨rfl, b3⟩
  replace st := st.keep b3
  have BB := st.1
  go_wp2
  go_ret
  exact ⟨rfl, BB⟩
theorem IsDesk_spec_yes (x p q r y : Int) {a : Option Addr} {n c : Nat} {b : Option Addr} {m d : Nat} {f g : Nat → Int} {o o' : Bool} {lo hi lo' hi' : Nat} (w : World) (hs : Sl o w lo hi (.slice a n c) n f) (ht : Sl o' w lo' hi' (.slice b m d) m g) (h1 : CyP x n f) (h2 : ChP p q r) (h3 : RgP y m g) :
    Calls Try.prog 20 #[.agg #[.int .i64 x, .slice a n c, .int .i64 p, .int .i64 q, .int .i64 r, .int .i64 y, .slice b m d]] w fun e w' => e = .returned (.bool true) ∧ Below w.heap.size w w' := by
  obtain ⟨N, rfl⟩ := Int.eq_ofNat_of_zero_le (show 0 ≤ y by have := h3.1; omega)
  have st := ((((St.start w).addSl ⟨o, lo, hi, .slice a n c, n, f⟩ hs).addSl ⟨o', lo', hi', .slice b m d, m, g⟩ ht).alloc (.cells #[.int .i64 x, .slice a n c, .int .i64 p, .int .i64 q, .int .i64 r, .int .i64 (N : Int), .slice b m d] 30)).addBox w.heap.size [.int .i64 x, .slice a n c, .int .i64 p, .int .i64 q, .int .i64 r, .int .i64 (N : Int), .slice b m d] (Box.made _ _ _ _ (fun j v h => by simpa using h))
  have qa := st.sl 1 ⟨o, lo, hi, .slice a n c, n, f⟩ rfl
  dsimp only at qa
  have H1 := Lib.hid h1
  have H2 := Lib.hid h2
  have H3 := Lib.hid h3
  clear hs ht h1 h2 h3
  obtain ⟨x0, x1, x2, x3, x4, x5, x6⟩ := (st.box 0 (w.heap.size, [.int .i64 x, .slice a n c, .int .i64 p, .int .i64 q, .int .i64 r, .int .i64 (N : Int), .slice b m d]) rfl).cell7
  dsimp only at x0 x1 x2 x3 x4 x5 x6
  go_enter Try.func20, Try.ntmps20
  go_wp2_with fail
  refine (l01Is_yes _ _ qa H1.out).mono ?_
  rintro e w1 ⟨rfl, b1⟩
  replace st := st.keep b1
  clear b1 qa x0 x1 x2 x3 x4 x5 x6
  obtain ⟨x0, x1, x2, x3, x4, x5, x6⟩ := (st.box 0 (w.heap.size, [.int .i64 x, .slice a n c, .int .i64 p, .int .i64 q, .int .i64 r, .int .i64 (N : Int), .slice b m d]) rfl).cell7
  dsimp only at x0 x1 x2 x3 x4 x5 x6
  go_wp2_with fail
  refine (l03Is_dec p q r true (.inl ⟨H2.out, rfl⟩) _).mono ?_
  rintro e w2 ⟨rfl, b2⟩
  replace st := st.keep b2
  clear b2 x0 x1 x2 x3 x4 x5 x6
  obtain ⟨x0, x1, x2, x3, x4, x5, x6⟩ := (st.box 0 (w.heap.size, [.int .i64 x, .slice a n c, .int .i64 p, .int .i64 q, .int .i64 r, .int .i64 (N : Int), .slice b m d]) rfl).cell7
  dsimp only at x0 x1 x2 x3 x4 x5 x6
  have qb := st.sl 0 ⟨o', lo', hi', .slice b m d, m, g⟩ rfl
  dsimp only at qb
  go_wp2_with fail
  refine (l10Is_yes _ _ qb H3.out).mono ?_
  rintro e w3 ⟨rfl, b3⟩
  replace st := st.keep b3
  have BB := st.1
  go_wp2
  go_ret
  exact ⟨rfl, BB⟩
end Go.Proofs.Ytnhpodlcgkgpbaa
