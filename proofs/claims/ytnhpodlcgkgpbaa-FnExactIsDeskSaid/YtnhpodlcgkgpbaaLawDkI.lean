/- IsDesk answers as its model, for every argument. No condition. -/
import Derived.Test.YtnhpodlcgkgpbaaDkI
import Derived.Test.YtnhpodlcgkgpbaaInit
import Derived.Deep.RegionHeld3
import Derived.Deep.DeepCutAuto
import Derived.ShutString
import Derived.ChangeOld
import Derived.Lib.SmallJoins
import Derived.Deep.Strs
namespace Go.Proofs.Ytnhpodlcgkgpbaa
open Go.RowKit Go.ChangeShapes Go.Sort Go.WideShapes Go.ChangeAt
set_option linter.unusedVariables false
set_option linter.unusedSimpArgs false
namespace fnExactIsDesk
set_option maxRecDepth 100000 in
set_option maxHeartbeats 4000000 in
theorem walk_of (w : World) (x p q r y : Int) {a : Option Addr} {n c : Nat} {b : Option Addr} {m d : Nat} {f g : Nat → Int} {lo hi lo' hi' : Nat} (B : Bool) (hs : Sl false w lo hi (.slice a n c) n f) (ht : Sl false w lo' hi' (.slice b m d) m g) (hnm : n + m ≤ 1048576)
    (hS : ∀ (w : World) (a : Option Addr) (c : Nat) (b : Option Addr) (d : Nat) (o o' : Bool) (lo hi lo' hi' : Nat) (_ : Sl o w lo hi (.slice a n c) n f) (_ : Sl o' w lo' hi' (.slice b m d) m g), Calls Try.prog 20 #[.agg #[.int .i64 x, .slice a n c, .int .i64 p, .int .i64 q, .int .i64 r, .int .i64 y, .slice b m d]] w fun e w' => e = .returned (.bool B) ∧ Below w.heap.size w w')
    (hI : ∀ (w : World) (a : Option Addr) (c : Nat) (b : Option Addr) (d : Nat) (o o' : Bool) (lo hi lo' hi' : Nat) (_ : Sl o w lo hi (.slice a n c) n f) (_ : Sl o' w lo' hi' (.slice b m d) m g), Calls Try.prog 22 #[.agg #[.int .i64 x, .slice a n c, .int .i64 p, .int .i64 q, .int .i64 r, .int .i64 y, .slice b m d]] w fun e w' => e = .returned (.bool B) ∧ Below w.heap.size w w') :
    Calls Try.prog 4 #[.agg #[.int .i64 x, .slice a n c, .int .i64 p, .int .i64 q, .int .i64 r, .int .i64 y, .slice b m d]] w fun e w' => e = .returned (.bool true) ∧ Below w.heap.size w w' := by
  have hhs := hs.size
  have hht := ht.size
  have HS := Lib.hid hS
  have HI := Lib.hid hI
  clear hS hI
  have st := ((((St.start w).addSl ⟨false, lo, hi, .slice a n c, n, f⟩ hs).addSl ⟨false, lo', hi', .slice b m d, m, g⟩ ht).alloc (.cells #[.int .i64 x, .slice a n c, .int .i64 p, .int .i64 q, .int .i64 r, .int .i64 y, .slice b m d] 39)).addBox w.heap.size [.int .i64 x, .slice a n c, .int .i64 p, .int .i64 q, .int .i64 r, .int .i64 y, .slice b m d] (Box.made _ _ _ _ (fun j v h => by simpa using h))
  clear hs ht
  obtain ⟨x0, x1, x2, x3, x4, x5, x6⟩ := (st.box 0 (w.heap.size, [.int .i64 x, .slice a n c, .int .i64 p, .int .i64 q, .int .i64 r, .int .i64 y, .slice b m d]) rfl).cell7
  dsimp only at x0 x1 x2 x3 x4 x5 x6
  go_enter Try.func4, Try.ntmps4
  go_wp2_with fail
  refine (szDesk_yes _ _ _ _ _ _ _ _ _ _ _ _ _ (by omega) (by omega)).mono ?_
  rintro e w1 ⟨rfl, h1⟩
  have hz1 := h1.size
  simp only [World.size_alloc] at hz1
  replace st := st.keep h1
  clear h1 x0 x1 x2 x3 x4 x5 x6
  obtain ⟨x0, x1, x2, x3, x4, x5, x6⟩ := (st.box 0 (w.heap.size, [.int .i64 x, .slice a n c, .int .i64 p, .int .i64 q, .int .i64 r, .int .i64 y, .slice b m d]) rfl).cell7
  dsimp only at x0 x1 x2 x3 x4 x5 x6
  have qa := st.sl 1 ⟨false, lo, hi, .slice a n c, n, f⟩ rfl
  have qb := st.sl 0 ⟨false, lo', hi', .slice b m d, m, g⟩ rfl
  dsimp only at qa qb
  go_wp2_with fail
  refine (toDesk_any _ _ _ _ _ _ qa qb (by omega) (by omega)).mono ?_
  rintro e w2 ⟨a2, c2, b2, d2, rfl, s2, t2, h2⟩
  have hz2 := h2.size
  try simp only [World.size_alloc] at hz2 s2 t2
  replace st := ((st.keep h2).addSl ⟨true, w1.heap.size, w2.heap.size, .slice a2 n c2, n, f⟩ s2).addSl ⟨true, w1.heap.size, w2.heap.size, .slice b2 m d2, m, g⟩ t2
  clear s2 t2 h2 qa qb x0 x1 x2 x3 x4 x5 x6
  have q2 := st.sl 1 ⟨true, w1.heap.size, w2.heap.size, .slice a2 n c2, n, f⟩ rfl
  have r2 := st.sl 0 ⟨true, w1.heap.size, w2.heap.size, .slice b2 m d2, m, g⟩ rfl
  dsimp only at q2 r2
  go_wp2_with fail
  refine (HS.out _ _ _ _ _ _ _ _ _ _ _ q2 r2).mono ?_
  rintro e w3 ⟨rfl, h3⟩
  have hz3 := h3.size
  replace st := st.keep h3
  clear h3 q2 r2
  obtain ⟨x0, x1, x2, x3, x4, x5, x6⟩ := (st.box 0 (w.heap.size, [.int .i64 x, .slice a n c, .int .i64 p, .int .i64 q, .int .i64 r, .int .i64 y, .slice b m d]) rfl).cell7
  dsimp only at x0 x1 x2 x3 x4 x5 x6
  have qa := st.sl 3 ⟨false, lo, hi, .slice a n c, n, f⟩ rfl
  have qb := st.sl 2 ⟨false, lo', hi', .slice b m d, m, g⟩ rfl
  dsimp only at qa qb
  go_wp2_with fail
  refine (toDesk_any _ _ _ _ _ _ qa qb (by omega) (by omega)).mono ?_
  rintro e w4 ⟨a4, c4, b4, d4, rfl, s4, t4, h4⟩
  have hz4 := h4.size
  try simp only [World.size_alloc] at hz4 s4 t4
  replace st := ((st.keep h4).addSl ⟨true, w3.heap.size, w4.heap.size, .slice a4 n c4, n, f⟩ s4).addSl ⟨true, w3.heap.size, w4.heap.size, .slice b4 m d4, m, g⟩ t4
  clear s4 t4 h4 qa qb x0 x1 x2 x3 x4 x5 x6
  replace st := (st.alloc (.cells #[.int .i64 x, .slice a4 n c4, .int .i64 p, .int .i64 q, .int .i64 r, .int .i64 y, .slice b4 m d4] 30)).addBox w4.heap.size [.int .i64 x, .slice a4 n c4, .int .i64 p, .int .i64 q, .int .i64 r, .int .i64 y, .slice b4 m d4] (Box.made _ _ _ _ (fun j v h => by simpa using h))
  obtain ⟨y0, y1, y2, y3, y4, y5, y6⟩ := (st.box 0 (w4.heap.size, [.int .i64 x, .slice a4 n c4, .int .i64 p, .int .i64 q, .int .i64 r, .int .i64 y, .slice b4 m d4]) rfl).cell7
  dsimp only at y0 y1 y2 y3 y4 y5 y6
  have q4 := st.sl 1 ⟨true, w3.heap.size, w4.heap.size, .slice a4 n c4, n, f⟩ rfl
  have r4 := st.sl 0 ⟨true, w3.heap.size, w4.heap.size, .slice b4 m d4, m, g⟩ rfl
  dsimp only at q4 r4
  go_wp2_with fail
  refine (HI.out _ _ _ _ _ _ _ _ _ _ _ q4 r4).mono ?_
  rintro e w5 ⟨rfl, h5⟩
  have hz5 := h5.size
  simp only [World.size_alloc] at hz5
  replace st := st.keep h5
  clear h5 q4 r4 y0 y1 y2 y3 y4 y5 y6
  obtain ⟨y0, y1, y2, y3, y4, y5, y6⟩ := (st.box 0 (w4.heap.size, [.int .i64 x, .slice a4 n c4, .int .i64 p, .int .i64 q, .int .i64 r, .int .i64 y, .slice b4 m d4]) rfl).cell7
  dsimp only at y0 y1 y2 y3 y4 y5 y6
  obtain ⟨x0, x1, x2, x3, x4, x5, x6⟩ := (st.box 1 (w.heap.size, [.int .i64 x, .slice a n c, .int .i64 p, .int .i64 q, .int .i64 r, .int .i64 y, .slice b m d]) rfl).cell7
  dsimp only at x0 x1 x2 x3 x4 x5 x6
  have hBB : (B != B) = false := by cases B <;> rfl
  go_wp2_with fail
  have STD := Lib.hid st.drew
  clear st
  go_region_held3 (fun w' => w'.cell? ⟨w4.heap.size, 0, none⟩ = some (.int .i64 x) ∧ w'.cell? ⟨w4.heap.size, 1, none⟩ = some (.slice a4 n c4) ∧ w'.cell? ⟨w4.heap.size, 2, none⟩ = some (.int .i64 p) ∧ w'.cell? ⟨w4.heap.size, 3, none⟩ = some (.int .i64 q) ∧ w'.cell? ⟨w4.heap.size, 4, none⟩ = some (.int .i64 r) ∧ w'.cell? ⟨w4.heap.size, 5, none⟩ = some (.int .i64 y) ∧ w'.cell? ⟨w4.heap.size, 6, none⟩ = some (.slice b4 m d4) ∧ w'.cell? ⟨w.heap.size, 0, none⟩ = some (.int .i64 x) ∧ w'.cell? ⟨w.heap.size, 1, none⟩ = some (.slice a n c) ∧ w'.cell? ⟨w.heap.size, 2, none⟩ = some (.int .i64 p) ∧ w'.cell? ⟨w.heap.size, 3, none⟩ = some (.int .i64 q) ∧ w'.cell? ⟨w.heap.size, 4, none⟩ = some (.int .i64 r) ∧ w'.cell? ⟨w.heap.size, 5, none⟩ = some (.int .i64 y) ∧ w'.cell? ⟨w.heap.size, 6, none⟩ = some (.slice b m d))
    (first | exact ⟨y0, y1, y2, y3, y4, y5, y6, x0, x1, x2, x3, x4, x5, x6⟩ | exact ⟨cell_later b6 y0, cell_later b6 y1, cell_later b6 y2, cell_later b6 y3, cell_later b6 y4, cell_later b6 y5, cell_later b6 y6, cell_later b6 x0, cell_later b6 x1, cell_later b6 x2, cell_later b6 x3, cell_later b6 x4, cell_later b6 x5, cell_later b6 x6⟩ | exact ⟨cell_later b7 (cell_later b6 y0), cell_later b7 (cell_later b6 y1), cell_later b7 (cell_later b6 y2), cell_later b7 (cell_later b6 y3), cell_later b7 (cell_later b6 y4), cell_later b7 (cell_later b6 y5), cell_later b7 (cell_later b6 y6), cell_later b7 (cell_later b6 x0), cell_later b7 (cell_later b6 x1), cell_later b7 (cell_later b6 x2), cell_later b7 (cell_later b6 x3), cell_later b7 (cell_later b6 x4), cell_later b7 (cell_later b6 x5), cell_later b7 (cell_later b6 x6)⟩)
    (first
      | (go_at_call 21; refine (toDesk_any _ _ _ _ _ _ (STD.out.sl 5 ⟨false, lo, hi, .slice a n c, n, f⟩ rfl) (STD.out.sl 4 ⟨false, lo', hi', .slice b m d, m, g⟩ rfl) (by omega) (by omega)).mono ?_; rintro e w6 ⟨a6, c6, b6', d6, rfl, s6, t6, b6⟩)
      | (go_at_call 16; refine (eqDesk_yes _ _ _ _ _ _ ((STD.out.keep b6).sl 1 ⟨true, w3.heap.size, w4.heap.size, .slice a4 n c4, n, f⟩ rfl) ((STD.out.keep b6).sl 0 ⟨true, w3.heap.size, w4.heap.size, .slice b4 m d4, m, g⟩ rfl) s6 t6 (fun _ _ => rfl) (fun _ _ => rfl)).mono ?_; rintro e w7 ⟨rfl, b7⟩))
  all_goals
    have BB := ((STD.out.keep b6).keep b7).1
    clear STD s6 t6 y0 y1 y2 y3 y4 y5 y6 x0 x1 x2 x3 x4 x5 x6
    go_wp2
    go_ret
    exact ⟨rfl, BB⟩
set_option maxRecDepth 100000 in
theorem walk_big1 (w : World) (x p q r y : Int) {a : Option Addr} {n c : Nat} {b : Option Addr} {m d : Nat} {f g : Nat → Int} {lo hi lo' hi' : Nat} (hs : Sl false w lo hi (.slice a n c) n f) (ht : Sl false w lo' hi' (.slice b m d) m g) (hm : 1048576 < n) :
    Calls Try.prog 4 #[.agg #[.int .i64 x, .slice a n c, .int .i64 p, .int .i64 q, .int .i64 r, .int .i64 y, .slice b m d]] w fun e w' => e = .returned (.bool true) ∧ Below w.heap.size w w' := by
  have hmx := hs.len
  have hmy := ht.len
  have st := ((St.start w).alloc (.cells #[.int .i64 x, .slice a n c, .int .i64 p, .int .i64 q, .int .i64 r, .int .i64 y, .slice b m d] 39)).addBox w.heap.size [.int .i64 x, .slice a n c, .int .i64 p, .int .i64 q, .int .i64 r, .int .i64 y, .slice b m d] (Box.made _ _ _ _ (fun j v h => by simpa using h))
  clear hs ht
  obtain ⟨x0, x1, x2, x3, x4, x5, x6⟩ := (st.box 0 (w.heap.size, [.int .i64 x, .slice a n c, .int .i64 p, .int .i64 q, .int .i64 r, .int .i64 y, .slice b m d]) rfl).cell7
  dsimp only at x0 x1 x2 x3 x4 x5 x6
  go_enter Try.func4, Try.ntmps4
  go_wp2_with fail
  refine (szDesk_no1 _ _ _ _ _ _ _ _ _ _ _ _ _ hmx (by omega) (by omega) (by omega)).mono ?_
  rintro e w1 ⟨rfl, h1⟩
  have BB := (st.keep h1).1
  go_wp2
  go_ret
  exact ⟨rfl, BB⟩
set_option maxRecDepth 100000 in
theorem walk_big2 (w : World) (x p q r y : Int) {a : Option Addr} {n c : Nat} {b : Option Addr} {m d : Nat} {f g : Nat → Int} {lo hi lo' hi' : Nat} (hs : Sl false w lo hi (.slice a n c) n f) (ht : Sl false w lo' hi' (.slice b m d) m g) (hn : n ≤ 1048576) (hm : 1048576 < n + m) :
    Calls Try.prog 4 #[.agg #[.int .i64 x, .slice a n c, .int .i64 p, .int .i64 q, .int .i64 r, .int .i64 y, .slice b m d]] w fun e w' => e = .returned (.bool true) ∧ Below w.heap.size w w' := by
  have hmx := hs.len
  have hmy := ht.len
  have st := ((St.start w).alloc (.cells #[.int .i64 x, .slice a n c, .int .i64 p, .int .i64 q, .int .i64 r, .int .i64 y, .slice b m d] 39)).addBox w.heap.size [.int .i64 x, .slice a n c, .int .i64 p, .int .i64 q, .int .i64 r, .int .i64 y, .slice b m d] (Box.made _ _ _ _ (fun j v h => by simpa using h))
  clear hs ht
  obtain ⟨x0, x1, x2, x3, x4, x5, x6⟩ := (st.box 0 (w.heap.size, [.int .i64 x, .slice a n c, .int .i64 p, .int .i64 q, .int .i64 r, .int .i64 y, .slice b m d]) rfl).cell7
  dsimp only at x0 x1 x2 x3 x4 x5 x6
  go_enter Try.func4, Try.ntmps4
  go_wp2_with fail
  refine (szDesk_no2 _ _ _ _ _ _ _ _ _ _ _ _ _ hmy (by omega) (by omega) (by omega) (by omega)).mono ?_
  rintro e w1 ⟨rfl, h1⟩
  have BB := (st.keep h1).1
  go_wp2
  go_ret
  exact ⟨rfl, BB⟩
theorem walk (w : World) (x p q r y : Int) {va vb : Value} {n m lo hi lo' hi' : Nat} {f g : Nat → Int} (hs : Sl false w lo hi va n f) (ht : Sl false w lo' hi' vb m g) :
    Calls Try.prog 4 #[.agg #[.int .i64 x, va, .int .i64 p, .int .i64 q, .int .i64 r, .int .i64 y, vb]] w fun e w' => e = .returned (.bool true) ∧ Below w.heap.size w w' := by
  obtain ⟨a, c, rfl⟩ := hs.shape
  obtain ⟨b, d, rfl⟩ := ht.shape
  by_cases hn : n ≤ 1048576
  · by_cases hm : n + m ≤ 1048576
    · by_cases h1 : CyP x n f
      · by_cases h2 : ChP p q r
        · by_cases h3 : RgP y m g
          · exact walk_of w x p q r y true hs ht hm (fun w _ _ _ _ _ _ _ _ _ _ hs ht => IsDesk_spec_yes x p q r y w hs ht h1 h2 h3) (fun w _ _ _ _ _ _ _ _ _ _ hs ht => IsDesk_impl_yes x p q r y w hs ht h1 h2 h3)
          · exact walk_of w x p q r y false hs ht hm (fun w _ _ _ _ _ _ _ _ _ _ hs ht => IsDesk_spec_noR x p q r y w hs ht h1 h2 h3) (fun w _ _ _ _ _ _ _ _ _ _ hs ht => IsDesk_impl_noR x p q r y w hs ht h1 h2 h3)
        · exact walk_of w x p q r y false hs ht hm (fun w _ _ _ _ _ _ _ _ _ _ hs ht => IsDesk_spec_noH x p q r y w hs ht h1 h2) (fun w _ _ _ _ _ _ _ _ _ _ hs ht => IsDesk_impl_noH x p q r y w hs ht h1 h2)
      · exact walk_of w x p q r y false hs ht hm (fun w _ _ _ _ _ _ _ _ _ _ hs ht => IsDesk_spec_noC x p q r y w hs ht h1) (fun w _ _ _ _ _ _ _ _ _ _ hs ht => IsDesk_impl_noC x p q r y w hs ht h1)
    · exact walk_big2 w x p q r y hs ht hn (by omega)
  · exact walk_big1 w x p q r y hs ht (by omega)
theorem own : ownKnob Try.prog.godebug = none := by kernel_rfl
theorem laidOut : laidOutB Try.prog = true := by kernel_rfl
set_option maxRecDepth 100000 in
theorem lifted (os : Os) (started : os.Started) (H : Type) (enc : TypeId × Value → H) :
    ReturnsInHanded {} Try.checked os 4 .any (Rows.fnExactIsDeskSpec.pre6 enc Try.prog Try.f4 Rows.fnExactIsDeskRow.domain false) (Rows.fnExactIsDeskSpec.post enc Try.prog Try.f4 false true false false) := by
  refine returnsInHanded_of_change (C := Try.checked) own started (by kernel_rfl) Try.func4
    (ChangeSpec.witness6 (enc := enc) (C := Try.checked) false ⟨#[], #[.agg #[.int .i64 0, .slice none 0 0, .int .i64 0, .int .i64 0, .int .i64 0, .int .i64 0, .slice none 0 0]], []⟩ 8 (by kernel_rfl) (by kernel_rfl) (by kernel_rfl) (by kernel_rfl)) ?_
  intro W base args ds gs before hval0 hW hcnd _
  have hval : ∀ (j : Nat) t v, Try.f4.params[j]? = some t → args[j]? = some v → Value.okWide Try.prog W .any base t v := hval0
  have hW' := hW
  obtain ⟨p, q, hA0, hV, rfl, hfz, hnd⟩ := hW
  have hA : DataW.TrodAll enc Try.prog W 0 (fun _ => true) true Try.f4.params.toList args.toList ds p := hA0
  rw [Try.params4] at hA hval
  obtain ⟨v0, vs0, d0, ds0, p0, q0, hargs, rfl, rfl, h0, r0⟩ := trodAll_cons hA
  obtain ⟨rfl, rfl, rfl⟩ := trodAll_nil r0
  obtain rfl : args = #[v0] := by cases args; simp_all
  obtain ⟨rfl, rfl⟩ := trodVars_none hV
  have k0 := h0
  have lt0 : ∀ x ∈ p0, x.block < W.heap.size := by obtain ⟨m, hm⟩ := k0; exact DataW.trod_lt m _ _ _ hm
  obtain ⟨x0, p_0, q_0, r_0, y0, ca0, cb0, n0, m0, f0, g0, rfl, s0, t0⟩ : ∃ x p q r y ca cb n m f g, v0 = .agg #[.int .i64 x, ca, .int .i64 p, .int .i64 q, .int .i64 r, .int .i64 y, cb] ∧ Sl false W 0 W.heap.size ca n f ∧ Sl false W 0 W.heap.size cb m g := by
    obtain ⟨cs, rfl, hsz⟩ := okWide_struct Try.underlying39 (hval 0 39 v0 rfl rfl)
    obtain ⟨c0, c1, c2, c3, c4, c5, c6, rfl⟩ := array7 (hsz.trans (show _ = 7 by kernel_rfl))
    obtain ⟨fuel, hf⟩ := h0
    have e1 : Try.prog.cellsOf 35 = 2 := by kernel_rfl
    have e2 : Try.prog.cellsOf 36 = 3 := by kernel_rfl
    have e3 : Try.prog.cellsOf 37 = 2 := by kernel_rfl
    have e4 : Try.prog.cellsOf 2 = 1 := by kernel_rfl
    have e5 : Try.prog.cellsOf 22 = 1 := by kernel_rfl
    obtain ⟨z0, z1, z2, n, _, _, h0, h1, h2⟩ := Go.Deep.trod_struct3 Try.underlying39 hf
    simp only [Value.cells, e1, e2, e3, List.drop, List.take] at h0 h1 h2
    obtain ⟨a0, a1, n1, _, _, k0, k1⟩ := trod_struct2 Try.underlying35 h0
    obtain ⟨b0, b1, b2, n2, _, _, l0, l1, l2⟩ := Go.Deep.trod_struct3 Try.underlying36 h1
    obtain ⟨d0, d1, n3, _, _, o0, o1⟩ := trod_struct2 Try.underlying37 h2
    simp only [e4, e5, List.drop, List.take] at k0 k1 l0 l1 l2 o0 o1
    obtain ⟨x, ex, _, _⟩ := DataW.trod_int Try.underlying2 k0
    obtain ⟨f1, g1, s1⟩ := Sl.came Try.underlying22 Try.underlying2 (by kernel_rfl) k1
    obtain ⟨p, ep, _, _⟩ := DataW.trod_int Try.underlying2 l0
    obtain ⟨q, eq, _, _⟩ := DataW.trod_int Try.underlying2 l1
    obtain ⟨r, er, _, _⟩ := DataW.trod_int Try.underlying2 l2
    obtain ⟨y, ey, _, _⟩ := DataW.trod_int Try.underlying2 o0
    obtain ⟨f2, g2, s2⟩ := Sl.came Try.underlying22 Try.underlying2 (by kernel_rfl) o1
    simp at ex ep eq er ey
    exact ⟨x, p, q, r, y, c1, c6, f1, f2, g1, g2, by rw [ex, ep, eq, er, ey], s1, s2⟩
  clear hA0 hval0
  refine (walk W x0 p_0 q_0 r_0 y0 s0 t0).mono fun e W' ⟨he, bel⟩ => ?_
  subst he
  exact ⟨_, rfl, _, _, _, [], _, [], hW', trodAll_mk1 (shut_bool Try.underlying4 _), (trodAll_cons_mk (Below.trod laidOut (by kernel_rfl) (of_decide_eq_true (by kernel_rfl)) k0 bel lt0) trodAll_mk0), rfl, bel.frame _, fun h => by cases h⟩

theorem over : Rows.fnExactIsDeskRow.holds Try.pinned (OpenSpec.ofChange Rows.fnExactIsDeskSpec) :=
  OpenClaim.holds_of_wide 4 Try.f4 rfl rfl rfl rfl rfl rfl rfl ⟨rfl, rfl, rfl, rfl, rfl⟩ rfl rfl rfl rfl rfl (by kernel_rfl) Try.func4 (by unfold joinedFacts; exact (and_tt (and_tt (and_tt (and_tt (and_tt (and_tt (and_tt (and_tt (and_tt (and_tt (and_tt (and_tt (and_tt (and_tt (and_tt (and_tt (and_tt (and_tt (and_tt (and_tt (and_tt (and_tt (and_tt (and_tt (and_tt (and_tt (and_tt (and_tt (and_tt (and_tt (and_tt (by kernel_rfl) (by kernel_rfl)) (by kernel_rfl)) (by kernel_rfl)) (by kernel_rfl)) (by kernel_rfl)) (by kernel_rfl)) (by kernel_rfl)) (by kernel_rfl)) (by kernel_rfl)) (by kernel_rfl)) (by kernel_rfl)) (by kernel_rfl)) (by kernel_rfl)) (by kernel_rfl)) (by kernel_rfl)) (by kernel_rfl)) (by kernel_rfl)) (by kernel_rfl)) (by kernel_rfl)) (by kernel_rfl)) (by kernel_rfl)) (by kernel_rfl)) (by kernel_rfl)) (by kernel_rfl)) init_enter) (tt_lifts init_lifts rfl)) (tt_make init_make rfl)) (by kernel_rfl)) (by kernel_rfl)) (by kernel_rfl)) (by kernel_rfl)))
    (of_decide_eq_true (by kernel_rfl)) (by unfold Func.isWrapper; first | (rw [if_pos (by decide +kernel)]; kernel_rfl) | (rw [if_neg (by decide +kernel)]; exact ⟨rfl, rfl⟩))
    (fun os started H enc _ => lifted os started H enc)

theorem proved : Rows.FnExactIsDeskSaid := over
#print axioms proved
end fnExactIsDesk
end Go.Proofs.Ytnhpodlcgkgpbaa
