/- weightedSum of the program, with both of its weights. -/
import Derived.Test.YtkcofcppmlndiaaAt
import Derived.Test.YtkcofcppmlndiaaPlus
import Derived.Deep.RegionLaw
import Derived.Deep.RegionHeld3
namespace Go.Proofs.Ytkcofcppmlndiaa
open Go.RowKit Go.ChangeShapes Go.Sort
set_option linter.unusedVariables false
set_option linter.unusedSimpArgs false

theorem sumOne_any (x : Int) (w : World) :
    Calls Try.prog 157 #[.int .i64 x] w fun e w' => e = .returned (.int .i64 1) ∧ w = w' := by
  go_enter Try.func157, Try.ntmps157
  go_wp2
  go_ret
  exact ⟨rfl, rfl⟩
theorem sumTab_any {o : Bool} {lo hi : Nat} {v : Value} {g : Nat → Int} (p x : Nat) (bt : Nat) (w : World) (hx : x < p) (hp : p ≤ 61) (hb : Box w bt [v]) (hs : Sl o w lo hi v p g) :
    Calls Try.prog 135 #[.int .i64 (x : Int), .pointer (some ⟨bt, 0, none⟩)] w fun e w' => e = .returned (.int .i64 (g x)) ∧ w = w' := by
  have e0 := hb.2.1 0 _ rfl
  obtain ⟨gg, off, cap, rfl, _, _, _, _, hcl, _⟩ := hs.at (by omega)
  have hcx := hcl x hx
  clear hcl hs hb
  go_enter Try.func135, Try.ntmps135
  go_wp2
  go_ret
  exact ⟨rfl, rfl⟩
theorem cell_frame {lo hi b i : Nat} {w w' : World} {v : Value} (h : Frame lo hi w w') (hc : w.cell? ⟨b, i, none⟩ = some v) (hb : b < lo) : w'.cell? ⟨b, i, none⟩ = some v :=
  (h.cell (p := ⟨b, i, none⟩) (World.block_lt_of_cell? _ _ hc) (.inl hb)).trans hc
theorem powZ_bd1 {p n k x : Nat} {W : Nat → Int} (hx : x ≤ 61) (hW : ∀ y, y < p → -1000000 ≤ W y ∧ W y ≤ 1000000) (hxp : x ≤ p) (i : Nat) : -61000000 ≤ powZ p n k W x i ∧ powZ p n k W x i ≤ 61000000 := by
  have h := powZ_bd (p := p) (n := n) (k := k) (B := 1000000) (by omega) x (fun y hy => hW y (by omega)) i
  have hm : (x : Int) * 1000000 ≤ 61 * 1000000 := by omega
  omega
theorem powZ_first {p n k : Nat} {W : Nat → Int} (i : Nat) : powZ p n k W 1 i = powZ p n k W 0 i := powZ_zero
theorem powZ_next {p n k x : Nat} {W : Nat → Int} (h : x ≠ 0) (i : Nat) : powZ p n k W (x + 1) i = if i = expN p n k x then powZ p n k W x i + W x else powZ p n k W x i := by
  simp only [powZ]
  by_cases e : i = expN p n k x
  · rw [if_pos ⟨h, e⟩, if_pos e]
  · rw [if_neg (fun h => e h.2), if_neg e]

set_option maxRecDepth 100000 in
set_option maxHeartbeats 4000000 in
theorem weightedSum_one (p n k : Nat) (hp : primeN p = true) (h1 : 1 ≤ n) (h2 : n ≤ 16) (hk : k ≤ 16)  (w : World) :
    Calls Try.prog 134 #[.agg #[.int .i64 (p : Int), .int .i64 (n : Int), .int .i64 (k : Int)], .func (.func 157) #[] #[]] w fun e w' => ∃ a cap, e = .returned (.tuple #[.agg #[.int .i64 (n : Int), .slice a (phiN n) cap], .int .i64 0]) ∧ Sl true w' w.heap.size w'.heap.size (.slice a (phiN n) cap) (phiN n) (sumZ p n k (fun _ => 1) p) ∧ Below w.heap.size w w' := by
  have hb := primeN_bd hp
  have hphi := phi_le12 n (by omega) h1
  have HP := Lib.hid hp; clear hp
  have hW : ∀ y, y < p → -1000000 ≤ (fun _ : Nat => (1 : Int)) y ∧ (fun _ : Nat => (1 : Int)) y ≤ 1000000 := fun y _ => by dsimp only; omega
  have HWB := Lib.hid hW
  have st0 := ((St.start w).alloc (.cells #[.int .i64 (p : Int), .int .i64 (n : Int), .int .i64 (k : Int)] 25)).addBox w.heap.size [.int .i64 (p : Int), .int .i64 (n : Int), .int .i64 (k : Int)] (Box.made _ _ _ _ (fun j v h => by simpa using h))
  replace st0 := (st0.alloc (.cells #[.int .i64 0, .slice none 0 0] 40)).addBox _ [.int .i64 0, .slice none 0 0] (Box.made _ _ _ _ (fun j v h => by simpa using h))
  have q0 := Sl.made24 ((w.alloc (.cells #[.int .i64 (p : Int), .int .i64 (n : Int), .int .i64 (k : Int)] 25)).alloc (.cells #[.int .i64 0, .slice none 0 0] 40))
  simp only [World.size_alloc] at q0 st0
  replace st0 := (st0.alloc (.cells (madeCells #[.int .i64 0] 24) 2)).addSl ⟨true, w.heap.size + 1 + 1, w.heap.size + 1 + 1 + 1, .slice (some ⟨w.heap.size + 1 + 1, 0, none⟩) 24 24, 24, fun _ => 0⟩ q0
  clear q0
  obtain ⟨e0, e1, e2⟩ := (st0.box 1 (w.heap.size, [.int .i64 (p : Int), .int .i64 (n : Int), .int .i64 (k : Int)]) rfl).cell3
  have hmk := make24
  go_enter Try.func134, Try.ntmps134
  go_wp2_with fail
  refine (valuesOf_any p n k HP.out h1 h2 hk _).mono ?_
  rintro e w2 ⟨rfl, b2, hz2, bx, by_, sl⟩
  have st2 := st0.keep b2
  simp only [World.size_alloc] at hz2 bx by_ sl
  have P2 := Lib.hid ((st2.sl 0 ⟨true, w.heap.size + 1 + 1, w.heap.size + 1 + 1 + 1, .slice (some ⟨w.heap.size + 1 + 1, 0, none⟩) 24 24, 24, fun _ => 0⟩ rfl))
  have HT := Lib.hid (((St.tail st2).addBox _ _ bx).addBox _ _ by_ |>.addSl ⟨true, w.heap.size + 1 + 1 + 1 + 1, w.heap.size + 1 + 1 + 1 + 1 + 1, .slice (some ⟨w.heap.size + 1 + 1 + 1 + 1, 0, none⟩) p p, p, exV p n k⟩ sl)
  obtain ⟨f0, f1, f2⟩ := (st2.box 1 (w.heap.size, [.int .i64 (p : Int), .int .i64 (n : Int), .int .i64 (k : Int)]) rfl).cell3
  clear st0 st2 b2 bx by_ sl e0 e1 e2 hmk
  go_wp2
  go_loopw [16] (fun s16 wr => ∃ x : Nat, x ≤ p ∧ s16 = .int .i64 (x : Int) ∧ w2.heap.size ≤ wr.heap.size ∧ Sl true wr (w.heap.size + 1 + 1) (w.heap.size + 1 + 1 + 1) (.slice (some ⟨w.heap.size + 1 + 1, 0, none⟩) 24 24) 24 (powZ p n k (fun _ => 1) x) ∧ St w wr [(w.heap.size + 1 + 1 + 1 + 1 + 1, [.slice (some ⟨w.heap.size + 1 + 1 + 1 + 1, 0, none⟩) p p]), (w.heap.size + 1 + 1 + 1, [.int .i64 (p : Int), .int .i64 (n : Int), .int .i64 (k : Int)]), (w.heap.size + 1, [.int .i64 0, .slice none 0 0]), (w.heap.size, [.int .i64 (p : Int), .int .i64 (n : Int), .int .i64 (k : Int)])] [⟨true, w.heap.size + 1 + 1 + 1 + 1, w.heap.size + 1 + 1 + 1 + 1 + 1, .slice (some ⟨w.heap.size + 1 + 1 + 1 + 1, 0, none⟩) p p, p, exV p n k⟩]) (fun s16 _ => p + 1 - (intOf s16).toNat)
  case atStart => exact ⟨0, by omega, rfl, Nat.le_refl _, P2.out.congr (fun j hj => rfl), HT.out⟩
  case round =>
    clear P2 HT f0 f1 f2
    obtain ⟨x, hx, rfl, hzr, hpo, hst⟩ := hrel
    by_cases hlt : x < p
    · have HRR := Lib.hid (restN_nat hlt)
      have bx := hst.box 1 (w.heap.size + 1 + 1 + 1, [.int .i64 (p : Int), .int .i64 (n : Int), .int .i64 (k : Int)]) rfl
      have by_ := hst.box 0 (w.heap.size + 1 + 1 + 1 + 1 + 1, [.slice (some ⟨w.heap.size + 1 + 1 + 1 + 1, 0, none⟩) p p]) rfl
      have sl := hst.sl 0 ⟨true, w.heap.size + 1 + 1 + 1 + 1, w.heap.size + 1 + 1 + 1 + 1 + 1, .slice (some ⟨w.heap.size + 1 + 1 + 1 + 1, 0, none⟩) p p, p, exV p n k⟩ rfl
      dsimp only at bx by_ sl
      have HPO := Lib.hid hpo; clear hpo
      have HST := Lib.hid hst; clear hst
      go_wp2_with fail
      refine (value_any p n k (x : Int) _ _ _ (by omega) hb.2 (by omega) (by omega) bx by_ sl).mono ?_
      rw [HRR.out]
      by_cases hx0 : x = 0
      · subst hx0
        rintro e w3 ⟨rfl, b3⟩
        have P3 := Lib.hid (HPO.out.keep b3 HPO.out.size)
        have T3 := Lib.hid (HST.out.keep b3)
        have hz3 := b3.size
        clear b3 bx by_ sl HPO HST
        go_wp2
        go_roundw
        case rel => exact ⟨1, by omega, by go_num, by omega, P3.out.congr (fun j hj => powZ_first j), T3.out⟩
        case measure => simp [intOf] <;> omega
      · have hne : (((x : Nat) : Int) != 0) = true := by rw [bne_iff_ne]; omega
        have hq := expN_lt (p := p) (k := k) (x := x) h1
        rw [exV_exp hx0]
        have hq24 : ((expN p n k x : Nat) : Int) < 24 := by omega
        have HNX := Lib.hid (fun i => powZ_next (p := p) (n := n) (k := k) (W := (fun _ => 1)) hx0 i)
        generalize expN p n k x = q at *
        rintro e w3 ⟨rfl, b3⟩
        have P3 := Lib.hid (HPO.out.keep b3 HPO.out.size)
        have st3 := HST.out.keep b3
        have hz3 := b3.size
        obtain ⟨hwx1, hwx2⟩ := HWB.out x hlt
        have hpb := powZ_bd1 (p := p) (n := n) (k := k) (W := (fun _ => 1)) (by omega) HWB.out (show x ≤ p by omega) q
        have hck := (P3.out.known (by omega)).2.2.2.1 q (by omega)
        have hfr := (P3.out.known (by omega)).2.2.2.2 rfl q
        rw [Nat.zero_add] at hck
        have hws : IntKind.i64.wrap (powZ p n k (fun _ => 1) x q + 1) = powZ p n k (fun _ => 1) x q + 1 := IntWalk.i64_in _ (by omega)
        have HIN := Lib.hid (show inR (powZ p n k (fun _ => 1) x q + 1) by unfold inR; omega)
        clear b3 bx by_ sl HPO HST
        generalize hpq : powZ p n k (fun _ => 1) x q = pq at *
        have HPQ := Lib.hid hpq
        clear hpq
        go_wp2_with fail
        go_region_law (first
          | (go_simp; (go_at_call 157; refine (sumOne_any _ _).mono ?_; rintro e w8 ⟨rfl, rfl⟩)))
        all_goals
          go_wp2
          go_roundw
          case rel =>
            refine ⟨x + 1, by omega, by go_num, by simp; omega, ?_, ?_⟩
            · have h := (P3.out.store0 (i := q) (by omega) HIN.out).drew
              refine h.congr (fun j hj => ?_)
              rw [HNX.out j]
              by_cases e : j = q
              · subst e; rw [if_pos rfl, if_pos rfl, HPQ.out]
              · rw [if_neg e, if_neg e]
            · exact (st3.write (lo := w.heap.size + 1 + 1) (hi := w.heap.size + 1 + 1 + 1) ((Frame.refl _ _ w3).setCell (by simp) (by simp) _) (by omega) (by intro b hb; simp only [List.mem_cons, List.not_mem_nil, or_false] at hb; rcases hb with rfl | rfl | rfl | rfl <;> dsimp only <;> omega) (by intro s hs'; simp only [List.mem_cons, List.not_mem_nil, or_false] at hs'; rcases hs' with rfl <;> dsimp only <;> omega)).drew
          case measure => simp [intOf] <;> omega
    · obtain rfl : p = x := by omega
      obtain ⟨c0, c1, c2⟩ := (hst.box 3 (w.heap.size, [.int .i64 (p : Int), .int .i64 (n : Int), .int .i64 (k : Int)]) rfl).cell3
      have HS := Lib.hid (fun j (hj : j < phiN n) => pow_red (p := p) (n := n) (k := k) (x := p) (W := (fun _ => 1)) (P := powZ p n k (fun _ => 1) p) (B := 1000000) (by omega) h1 (by omega) (by omega) (by omega) HWB.out (fun i _ => rfl) hj)
      have HWI := Lib.hid (show Within (cut (phiN n) (redP n (powZ p n k (fun _ => 1) p))) 12 1000000000 from (cut_within hphi).2 (fun j hj => by have := sum_within (p := p) (n := n) (k := k) (x := p) (W := (fun _ => 1)) (B := 1000000) (by omega) h1 (by omega) (by omega) (by omega) HWB.out hj; rw [HS.out j hj]; omega))
      have HPO := Lib.hid hpo; clear hpo
      have HST := Lib.hid hst; clear hst
      have hlo : w.heap.size < w.heap.size + 1 + 1 := by omega
      go_wp2_with fail
      go_region_held3 (fun w' => w'.cell? ⟨w.heap.size, 1, none⟩ = some (.int .i64 (n : Int)))
        (first | exact c1 | exact cell_frame f6 c1 hlo | exact cell_later b7 (cell_frame f6 c1 hlo) | go_keep)
        (first
          | (go_at_call 148; refine (reducedParts_any n (by omega) (by omega) _ HPO.out.drew).mono ?_; rintro e w6 ⟨rfl, f6⟩)
          | (go_at_call 105; refine (cycloWithin_yes n (by omega) (by omega) _ HWI.out).mono ?_; rintro e w7 ⟨a7, k7, rfl, s7, b7⟩
             have st6 := HST.out.drew.write f6 (by omega) (by intro b hb; simp only [List.mem_cons, List.not_mem_nil, or_false] at hb; rcases hb with rfl | rfl | rfl | rfl <;> dsimp only <;> omega) (by intro s hs'; simp only [List.mem_cons, List.not_mem_nil, or_false] at hs'; rcases hs' with rfl <;> dsimp only <;> omega)
             have st7 := st6.keep b7
             obtain ⟨d0, d1⟩ := (st7.box 2 (w.heap.size + 1, [.int .i64 0, .slice none 0 0]) rfl).cell2
             have dz := (st7.box 2 (w.heap.size + 1, [.int .i64 0, .slice none 0 0]) rfl).2.2
             dsimp only at dz))
      all_goals
        have hz6 := f6.size
        have hz7 := b7.size
        simp only [World.size_drew] at hz6
        have BB := st7.1
        have S7 := Lib.hid s7
        clear f6 b7 s7 st6 st7
        go_wp2
        refine bodyPost_ret (v := .tuple #[.agg #[.int .i64 (n : Int), .slice a7 (phiN n) k7], .int .i64 0]) (by simp [results, Try.results134, go_sem, d0, d1]) rfl ?_
        refine ⟨_, _, rfl, ?_, by go_grown⟩
        exact (((S7.out.setOther (.inl (by show w.heap.size + 1 < _; omega)) _).setOther (.inl (by show w.heap.size + 1 < _; omega)) _).wide (by omega) (by simp) (Nat.le_refl _)).congr (fun j hj => by unfold cut; rw [if_pos hj, HS.out j hj])

set_option maxRecDepth 100000 in
set_option maxHeartbeats 4000000 in
theorem weightedSum_tab (p n k : Nat) (hp : primeN p = true) (h1 : 1 ≤ n) (h2 : n ≤ 16) (hk : k ≤ 16) (W : Nat → Int) (hW : ∀ y, y < p → -1000000 ≤ W y ∧ W y ≤ 1000000) (w : World) {o : Bool} {lo hi bt : Nat} {v : Value} (hbt : Box w bt [v]) (hs : Sl o w lo hi v p W) :
    Calls Try.prog 134 #[.agg #[.int .i64 (p : Int), .int .i64 (n : Int), .int .i64 (k : Int)], .func (.func 135) #[] #[.pointer (some ⟨bt, 0, none⟩)]] w fun e w' => ∃ a cap, e = .returned (.tuple #[.agg #[.int .i64 (n : Int), .slice a (phiN n) cap], .int .i64 0]) ∧ Sl true w' w.heap.size w'.heap.size (.slice a (phiN n) cap) (phiN n) (sumZ p n k W p) ∧ Below w.heap.size w w' := by
  have hb := primeN_bd hp
  have hphi := phi_le12 n (by omega) h1
  have HP := Lib.hid hp; clear hp
  have hbs := hbt.1
  have hss := hs.size
  have HWB := Lib.hid hW
  have st0 := ((((St.start w).addSl ⟨o, lo, hi, v, p, W⟩ hs).addBox bt [v] hbt).alloc (.cells #[.int .i64 (p : Int), .int .i64 (n : Int), .int .i64 (k : Int)] 25)).addBox w.heap.size [.int .i64 (p : Int), .int .i64 (n : Int), .int .i64 (k : Int)] (Box.made _ _ _ _ (fun j v h => by simpa using h))
  replace st0 := (st0.alloc (.cells #[.int .i64 0, .slice none 0 0] 40)).addBox _ [.int .i64 0, .slice none 0 0] (Box.made _ _ _ _ (fun j v h => by simpa using h))
  have q0 := Sl.made24 ((w.alloc (.cells #[.int .i64 (p : Int), .int .i64 (n : Int), .int .i64 (k : Int)] 25)).alloc (.cells #[.int .i64 0, .slice none 0 0] 40))
  simp only [World.size_alloc] at q0 st0
  replace st0 := (st0.alloc (.cells (madeCells #[.int .i64 0] 24) 2)).addSl ⟨true, w.heap.size + 1 + 1, w.heap.size + 1 + 1 + 1, .slice (some ⟨w.heap.size + 1 + 1, 0, none⟩) 24 24, 24, fun _ => 0⟩ q0
  clear q0 hbt hs
  obtain ⟨e0, e1, e2⟩ := (st0.box 1 (w.heap.size, [.int .i64 (p : Int), .int .i64 (n : Int), .int .i64 (k : Int)]) rfl).cell3
  have hmk := make24
  go_enter Try.func134, Try.ntmps134
  go_wp2_with fail
  refine (valuesOf_any p n k HP.out h1 h2 hk _).mono ?_
  rintro e w2 ⟨rfl, b2, hz2, bx, by_, sl⟩
  have st2 := st0.keep b2
  simp only [World.size_alloc] at hz2 bx by_ sl
  have P2 := Lib.hid ((st2.sl 0 ⟨true, w.heap.size + 1 + 1, w.heap.size + 1 + 1 + 1, .slice (some ⟨w.heap.size + 1 + 1, 0, none⟩) 24 24, 24, fun _ => 0⟩ rfl))
  have HT := Lib.hid (((St.tail st2).addBox _ _ bx).addBox _ _ by_ |>.addSl ⟨true, w.heap.size + 1 + 1 + 1 + 1, w.heap.size + 1 + 1 + 1 + 1 + 1, .slice (some ⟨w.heap.size + 1 + 1 + 1 + 1, 0, none⟩) p p, p, exV p n k⟩ sl)
  obtain ⟨f0, f1, f2⟩ := (st2.box 1 (w.heap.size, [.int .i64 (p : Int), .int .i64 (n : Int), .int .i64 (k : Int)]) rfl).cell3
  clear st0 st2 b2 bx by_ sl e0 e1 e2 hmk
  go_wp2
  go_loopw [16] (fun s16 wr => ∃ x : Nat, x ≤ p ∧ s16 = .int .i64 (x : Int) ∧ w2.heap.size ≤ wr.heap.size ∧ Sl true wr (w.heap.size + 1 + 1) (w.heap.size + 1 + 1 + 1) (.slice (some ⟨w.heap.size + 1 + 1, 0, none⟩) 24 24) 24 (powZ p n k W x) ∧ St w wr [(w.heap.size + 1 + 1 + 1 + 1 + 1, [.slice (some ⟨w.heap.size + 1 + 1 + 1 + 1, 0, none⟩) p p]), (w.heap.size + 1 + 1 + 1, [.int .i64 (p : Int), .int .i64 (n : Int), .int .i64 (k : Int)]), (w.heap.size + 1, [.int .i64 0, .slice none 0 0]), (w.heap.size, [.int .i64 (p : Int), .int .i64 (n : Int), .int .i64 (k : Int)]), (bt, [v])] [⟨true, w.heap.size + 1 + 1 + 1 + 1, w.heap.size + 1 + 1 + 1 + 1 + 1, .slice (some ⟨w.heap.size + 1 + 1 + 1 + 1, 0, none⟩) p p, p, exV p n k⟩, ⟨o, lo, hi, v, p, W⟩]) (fun s16 _ => p + 1 - (intOf s16).toNat)
  case atStart => exact ⟨0, by omega, rfl, Nat.le_refl _, P2.out.congr (fun j hj => rfl), HT.out⟩
  case round =>
    clear P2 HT f0 f1 f2
    obtain ⟨x, hx, rfl, hzr, hpo, hst⟩ := hrel
    by_cases hlt : x < p
    · have HRR := Lib.hid (restN_nat hlt)
      have bx := hst.box 1 (w.heap.size + 1 + 1 + 1, [.int .i64 (p : Int), .int .i64 (n : Int), .int .i64 (k : Int)]) rfl
      have by_ := hst.box 0 (w.heap.size + 1 + 1 + 1 + 1 + 1, [.slice (some ⟨w.heap.size + 1 + 1 + 1 + 1, 0, none⟩) p p]) rfl
      have sl := hst.sl 0 ⟨true, w.heap.size + 1 + 1 + 1 + 1, w.heap.size + 1 + 1 + 1 + 1 + 1, .slice (some ⟨w.heap.size + 1 + 1 + 1 + 1, 0, none⟩) p p, p, exV p n k⟩ rfl
      dsimp only at bx by_ sl
      have HPO := Lib.hid hpo; clear hpo
      have HST := Lib.hid hst; clear hst
      go_wp2_with fail
      refine (value_any p n k (x : Int) _ _ _ (by omega) hb.2 (by omega) (by omega) bx by_ sl).mono ?_
      rw [HRR.out]
      by_cases hx0 : x = 0
      · subst hx0
        rintro e w3 ⟨rfl, b3⟩
        have P3 := Lib.hid (HPO.out.keep b3 HPO.out.size)
        have T3 := Lib.hid (HST.out.keep b3)
        have hz3 := b3.size
        clear b3 bx by_ sl HPO HST
        go_wp2
        go_roundw
        case rel => exact ⟨1, by omega, by go_num, by omega, P3.out.congr (fun j hj => powZ_first j), T3.out⟩
        case measure => simp [intOf] <;> omega
      · have hne : (((x : Nat) : Int) != 0) = true := by rw [bne_iff_ne]; omega
        have hq := expN_lt (p := p) (k := k) (x := x) h1
        rw [exV_exp hx0]
        have hq24 : ((expN p n k x : Nat) : Int) < 24 := by omega
        have HNX := Lib.hid (fun i => powZ_next (p := p) (n := n) (k := k) (W := W) hx0 i)
        generalize expN p n k x = q at *
        rintro e w3 ⟨rfl, b3⟩
        have P3 := Lib.hid (HPO.out.keep b3 HPO.out.size)
        have st3 := HST.out.keep b3
        have hz3 := b3.size
        obtain ⟨hwx1, hwx2⟩ := HWB.out x hlt
        have hpb := powZ_bd1 (p := p) (n := n) (k := k) (W := W) (by omega) HWB.out (show x ≤ p by omega) q
        have hck := (P3.out.known (by omega)).2.2.2.1 q (by omega)
        have hfr := (P3.out.known (by omega)).2.2.2.2 rfl q
        rw [Nat.zero_add] at hck
        have hws : IntKind.i64.wrap (powZ p n k W x q + W x) = powZ p n k W x q + W x := IntWalk.i64_in _ (by omega)
        have HIN := Lib.hid (show inR (powZ p n k W x q + W x) by unfold inR; omega)
        clear b3 bx by_ sl HPO HST
        generalize hpq : powZ p n k W x q = pq at *
        have HPQ := Lib.hid hpq
        clear hpq
        go_wp2_with fail
        go_region_law (first
          | (go_simp; (go_at_call 135; refine (sumTab_any p x bt _ (by omega) hb.2 (st3.drew.box 4 (bt, [v]) rfl) (st3.drew.sl 1 ⟨o, lo, hi, v, p, W⟩ rfl)).mono ?_; rintro e w8 ⟨rfl, rfl⟩)))
        all_goals
          go_wp2
          go_roundw
          case rel =>
            refine ⟨x + 1, by omega, by go_num, by simp; omega, ?_, ?_⟩
            · have h := (P3.out.store0 (i := q) (by omega) HIN.out).drew
              refine h.congr (fun j hj => ?_)
              rw [HNX.out j]
              by_cases e : j = q
              · subst e; rw [if_pos rfl, if_pos rfl, HPQ.out]
              · rw [if_neg e, if_neg e]
            · exact (st3.write (lo := w.heap.size + 1 + 1) (hi := w.heap.size + 1 + 1 + 1) ((Frame.refl _ _ w3).setCell (by simp) (by simp) _) (by omega) (by intro b hb; simp only [List.mem_cons, List.not_mem_nil, or_false] at hb; rcases hb with rfl | rfl | rfl | rfl | rfl <;> dsimp only <;> omega) (by intro s hs'; simp only [List.mem_cons, List.not_mem_nil, or_false] at hs'; rcases hs' with rfl | rfl <;> dsimp only <;> omega)).drew
          case measure => simp [intOf] <;> omega
    · obtain rfl : p = x := by omega
      obtain ⟨c0, c1, c2⟩ := (hst.box 3 (w.heap.size, [.int .i64 (p : Int), .int .i64 (n : Int), .int .i64 (k : Int)]) rfl).cell3
      have HS := Lib.hid (fun j (hj : j < phiN n) => pow_red (p := p) (n := n) (k := k) (x := p) (W := W) (P := powZ p n k W p) (B := 1000000) (by omega) h1 (by omega) (by omega) (by omega) HWB.out (fun i _ => rfl) hj)
      have HWI := Lib.hid (show Within (cut (phiN n) (redP n (powZ p n k W p))) 12 1000000000 from (cut_within hphi).2 (fun j hj => by have := sum_within (p := p) (n := n) (k := k) (x := p) (W := W) (B := 1000000) (by omega) h1 (by omega) (by omega) (by omega) HWB.out hj; rw [HS.out j hj]; omega))
      have HPO := Lib.hid hpo; clear hpo
      have HST := Lib.hid hst; clear hst
      have hlo : w.heap.size < w.heap.size + 1 + 1 := by omega
      go_wp2_with fail
      go_region_held3 (fun w' => w'.cell? ⟨w.heap.size, 1, none⟩ = some (.int .i64 (n : Int)))
        (first | exact c1 | exact cell_frame f6 c1 hlo | exact cell_later b7 (cell_frame f6 c1 hlo) | go_keep)
        (first
          | (go_at_call 148; refine (reducedParts_any n (by omega) (by omega) _ HPO.out.drew).mono ?_; rintro e w6 ⟨rfl, f6⟩)
          | (go_at_call 105; refine (cycloWithin_yes n (by omega) (by omega) _ HWI.out).mono ?_; rintro e w7 ⟨a7, k7, rfl, s7, b7⟩
             have st6 := HST.out.drew.write f6 (by omega) (by intro b hb; simp only [List.mem_cons, List.not_mem_nil, or_false] at hb; rcases hb with rfl | rfl | rfl | rfl | rfl <;> dsimp only <;> omega) (by intro s hs'; simp only [List.mem_cons, List.not_mem_nil, or_false] at hs'; rcases hs' with rfl | rfl <;> dsimp only <;> omega)
             have st7 := st6.keep b7
             obtain ⟨d0, d1⟩ := (st7.box 2 (w.heap.size + 1, [.int .i64 0, .slice none 0 0]) rfl).cell2
             have dz := (st7.box 2 (w.heap.size + 1, [.int .i64 0, .slice none 0 0]) rfl).2.2
             dsimp only at dz))
      all_goals
        have hz6 := f6.size
        have hz7 := b7.size
        simp only [World.size_drew] at hz6
        have BB := st7.1
        have S7 := Lib.hid s7
        clear f6 b7 s7 st6 st7
        go_wp2
        refine bodyPost_ret (v := .tuple #[.agg #[.int .i64 (n : Int), .slice a7 (phiN n) k7], .int .i64 0]) (by simp [results, Try.results134, go_sem, d0, d1]) rfl ?_
        refine ⟨_, _, rfl, ?_, by go_grown⟩
        exact (((S7.out.setOther (.inl (by show w.heap.size + 1 < _; omega)) _).setOther (.inl (by show w.heap.size + 1 < _; omega)) _).wide (by omega) (by simp) (Nat.le_refl _)).congr (fun j hj => by unfold cut; rw [if_pos hj, HS.out j hj])
end Go.Proofs.Ytkcofcppmlndiaa
