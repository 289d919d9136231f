/- Drawn numbers: l01DrawOf. -/
import Derived.Test.YtdalahgfpbdilaaDraw2
import Derived.Test.YtdalahgfpbdilaaFin
namespace Go.Proofs.Ytdalahgfpbdilaa
open Go.RowKit Go.ChangeShapes Go.Sort
set_option linter.unusedVariables false
set_option linter.unusedSimpArgs false
theorem Src.keepF {w w' : World} {b lo hi : Nat} {p : Option Addr} {n q : Nat} (h : Src w b p n q) (hf : Frame lo hi w w') (hd : b < lo ∨ hi ≤ b) : Src w' b p n q := by
  obtain ⟨a, x, h1, h2, h3, h4⟩ := h
  exact ⟨a, x, h1, h2, h3, h4.keepF hf hd⟩
theorem Bytes.frameG {w w' : World} {B lo hi : Nat} {p : Option Addr} {n : Nat} (h : Bytes w B p n) (hf : Frame lo hi w w') (hB : B ≤ lo) : Bytes w' B p n :=
  ⟨h.1, fun j hj => by
    obtain ⟨g, off, c, e, h1, h2, h3, h4⟩ := h.2 j hj
    exact ⟨g, off, c, e, h1, Nat.lt_of_lt_of_le h2 hf.size, (hf.cell (p := ⟨g, off + j, none⟩) h2 (.inl (by show g < lo; omega))).trans h3, h4⟩⟩
section
variable {b B : Nat} {p : Option Addr} {n q : Nat}
set_option maxRecDepth 100000 in
set_option maxHeartbeats 2000000 in
theorem l01DrawOf_any (N : Nat) (m : Int) (w : World) (hs : Src w b p n q) (hb : Bytes w B p n) (hB : B ≤ b) (hN1 : 1 ≤ N) (hN2 : N ≤ 16) (hm : 0 ≤ m) (hm2 : m ≤ 1000000000) :
    Calls Try.prog 181 #[.pointer (some ⟨b, 0, none⟩), .int .i64 (N : Int), .int .i64 m] w fun e w' => ∃ a cap f, e = .returned (.agg #[.int .i64 (N : Int), .slice a (phiN N) cap]) ∧ Sl true w' w.heap.size w'.heap.size (.slice a (phiN N) cap) (phiN N) f ∧ Within f (phiN N) 1000000000 ∧ Src w' b p n q ∧ Bytes w' B p n ∧ Frame b (b + 1) w w' := by
  have hbz := hs.lt
  have hp := phi_le12 N hN2 hN1
  have hp1 := phiN_pos N (by omega) hN1
  have ba := (Below.refl w.heap.size w).alloc (Nat.le_refl _) (.cells #[.int .i64 0, .slice none 0 0] 28)
  have hs0 := hs.keep ba
  have hb0 := hb.below ba
  have bx0 := Box.made2 (w := w) (b := w.heap.size) (v0 := .int .i64 0) (v1 := .slice none 0 0) (t := 28) rfl
  have f0 := (Frame.refl b (b + 1) w).alloc (.cells #[.int .i64 0, .slice none 0 0] 28)
  clear hs hb ba
  go_enter Try.func181, Try.ntmps181
  go_wp2_with fail
  refine (l01Zero_any N (by omega) _).mono ?_
  rintro e w1 ⟨a1, k1, rfl, s1, b1⟩
  have hz1 := b1.size
  simp only [World.size_alloc] at hz1 s1
  have bb := (Below.refl w1.heap.size w1).alloc (Nat.le_refl _) (.cells #[.int .i64 (N : Int), .slice a1 (phiN N) k1] 28)
  have HS := Lib.hid ((hs0.keep b1).keep bb)
  have HB := Lib.hid ((hb0.below b1).below bb)
  have HX0 := Lib.hid ((bx0.keep b1).keep bb)
  have HX1 := Lib.hid (Box.made2 (w := w1) (b := w1.heap.size) (v0 := .int .i64 (N : Int)) (v1 := .slice a1 (phiN N) k1) (t := 28) rfl)
  have HL := Lib.hid (s1.alloc (.cells #[.int .i64 (N : Int), .slice a1 (phiN N) k1] 28))
  have HF := Lib.hid ((f0.trans (Frame.of_below (lo := b) (hi := b + 1) b1 (Nat.le_refl _))).trans (Frame.of_below (lo := b) (hi := b + 1) bb (Nat.le_refl _)))
  clear hs0 hb0 bx0 f0 b1 s1 bb
  go_wp2
  go_loopw [8] (fun s8 wr => ∃ (k : Nat) (f : Nat → Int), k ≤ phiN N ∧ s8 = .int .i64 k ∧ Sl true wr (w.heap.size + 1) w1.heap.size (.slice a1 (phiN N) k1) (phiN N) f ∧ Within f (phiN N) 1000000000 ∧ Box wr w.heap.size [.int .i64 0, .slice none 0 0] ∧ Box wr w1.heap.size [.int .i64 (N : Int), .slice a1 (phiN N) k1] ∧ Src wr b p n q ∧ Bytes wr B p n ∧ Frame b (b + 1) w wr) (fun s8 _ => phiN N - (intOf s8).toNat)
  case atStart => exact ⟨0, fun _ => 0, Nat.zero_le _, rfl, HL.out, fun _ _ => by dsimp only; omega, HX0.out, HX1.out, HS.out, HB.out, HF.out⟩
  case round =>
    clear HS HB HX0 HX1 HL HF
    obtain ⟨k, f, hk, rfl, hl, hw, hx0, hx1, hs, hb, hf⟩ := hrel
    obtain ⟨c0, c1⟩ := hx1.cell2
    have HL := Lib.hid hl
    have HW := Lib.hid hw
    have HX0 := Lib.hid hx0
    have HX1 := Lib.hid hx1
    have HS := Lib.hid hs
    have HB := Lib.hid hb
    have HF := Lib.hid hf
    have hzr := hx1.1
    clear hl hw hx0 hx1 hs hb hf
    by_cases hlt : k < phiN N
    · have hkI : (k : Int) < (phiN N : Int) := by omega
      obtain ⟨g, off, c9, hv, _⟩ := HL.out.at (by omega)
      obtain ⟨rfl, rfl⟩ : a1 = some ⟨g, off, none⟩ ∧ k1 = c9 := by cases hv; exact ⟨rfl, rfl⟩
      clear hv
      obtain ⟨hgl, hgh, _, _, _⟩ := HL.out.known (by omega)
      have hlr := Sl.list wr [0, 1, 1] (by intro x hx; simp only [List.mem_cons, List.not_mem_nil, or_false] at hx; unfold inR; rcases hx with rfl | rfl | rfl <;> omega) (by simp [maxLen])
      simp only [List.map_cons, List.map_nil, List.length_cons, List.length_nil] at hlr
      have HLR := Lib.hid hlr
      clear hlr
      go_wp2_with fail
      go_region_held3 (fun w' => w'.cell? ⟨w1.heap.size, 1, none⟩ = some (.slice (some ⟨g, off, none⟩) (phiN N) k1))
        (first | exact c1 | exact d7 | exact d6 | exact cell_later ((Below.refl _ _).alloc (Nat.le_refl _) _) d6 | exact cell_later (((Below.refl _ _).alloc (Nat.le_refl _) _).drew) c1 | exact cell_later ((Below.refl _ _).alloc (Nat.le_refl _) _) c1 | exact cell_set1 d7 (by omega) | go_keep)
        (first
          | (go_at_call 156; refine (l01DrawPart_any m _ (by first | exact HS.out.keep (Below.refl _ _).drew | exact HS.out.keep (((Below.refl _ _).alloc (Nat.le_refl _) _).drew)) (by first | exact HB.out.below (Below.refl _ _).drew | exact HB.out.below (((Below.refl _ _).alloc (Nat.le_refl _) _).drew)) hB hm hm2).mono ?_; rintro e w6 ⟨r6, rfl, hr61, hr62, hs6, hb6, f6⟩
             have hz6 := f6.size
             try simp only [World.size_drew, World.size_alloc] at hz6
             have d6 : w6.cell? ⟨w1.heap.size, 1, none⟩ = some (.slice (some ⟨g, off, none⟩) (phiN N) k1) := (f6.cell (p := ⟨w1.heap.size, 1, none⟩) (by show w1.heap.size < _; (try simp only [World.size_drew, World.size_alloc]); omega) (.inr (by show b + 1 ≤ w1.heap.size; omega))).trans (by first | exact c1 | exact cell_later (((Below.refl _ _).alloc (Nat.le_refl _) _).drew) c1))
          | (go_at_call 145; refine (l01Pick_any b B p n q _ (by first | exact hs6 | exact hs6.keep ((Below.refl _ _).alloc (Nat.le_refl _) _)) (by first | exact hb6 | exact hb6.below ((Below.refl _ _).alloc (Nat.le_refl _) _)) hB (f := fun j => [0, 1, 1].getD j 0) (by first | exact (HLR.out.drew).keepF f6 (.inr (by omega)) | exact Sl.list w6 [0, 1, 1] (by intro x hx; simp only [List.mem_cons, List.not_mem_nil, or_false] at hx; unfold inR; rcases hx with rfl | rfl | rfl <;> omega) (by simp [maxLen])) (k := 3) (.inr (by omega)) (by omega) (by omega)).mono ?_; rintro e w7 ⟨i7, hi7, rfl, hs7, f7⟩
             have hz7 := f7.size
             try simp only [World.size_drew, World.size_alloc] at hz7
             have d7 : w7.cell? ⟨w1.heap.size, 1, none⟩ = some (.slice (some ⟨g, off, none⟩) (phiN N) k1) := (f7.cell (p := ⟨w1.heap.size, 1, none⟩) (by show w1.heap.size < _; (try simp only [World.size_drew, World.size_alloc]); omega) (.inr (by show b + 1 ≤ w1.heap.size; omega))).trans (by first | exact d6 | exact cell_later ((Below.refl _ _).alloc (Nat.le_refl _) _) d6)
             have FT : Frame b (b + 1) wr w7 := by first | exact ((((Frame.refl b (b + 1) wr).alloc _).drew).trans f6).trans f7 | exact ((((Frame.refl b (b + 1) wr).drew).trans f6).trans ((Frame.refl b (b + 1) w6).alloc _)).trans f7
             have hl7 := HL.out.keepF FT (.inr (by omega))
             obtain ⟨_, _, _, hc7, hzz7⟩ := hl7.known (by omega)
             have hck7 := hc7 k hlt
             have hfr7 := hzz7 rfl (off + k)
             have hx7 : [0, 1, 1].getD i7 0 = (0 : Int) ∨ [0, 1, 1].getD i7 0 = (1 : Int) := by rcases i7 with _ | _ | _ | i7 <;> simp
             generalize ([0, 1, 1] : List Int).getD i7 0 = x7 at *
             have hpr : -1000000000 ≤ r6 * x7 ∧ r6 * x7 ≤ 1000000000 := by rcases hx7 with rfl | rfl <;> omega
             have hwp : IntKind.i64.wrap (r6 * x7) = r6 * x7 := IntWalk.i64_in _ (by omega)
             have HL7 := Lib.hid hl7
             clear hc7 hzz7 hl7 hx7))
      all_goals
        have FS : Frame (w.heap.size + 1) w1.heap.size w7 (w7.setCell ⟨g, off + k, none⟩ (.int .i64 (r6 * x7))) := (Frame.refl _ _ w7).setCell (lo := w.heap.size + 1) (hi := w1.heap.size) hgl hgh _
        go_wp2
        go_roundw
        case rel =>
          refine ⟨k + 1, fun j => if j = k then r6 * x7 else f j, by omega, by go_num, ?_, ?_, ?_, ?_, ?_, ?_, ?_⟩
          · exact ((HL7.out.store (i := k) (by omega) (by unfold inR; omega)).drewN 0).congr (fun j hj => by by_cases e : j = k <;> simp [e])
          · intro j hj
            dsimp only
            by_cases e : j = k
            · rw [if_pos e]; exact hpr
            · rw [if_neg e]; exact HW.out j hj
          · exact (HX0.out.keepF FT (.inr (by omega))).keepF FS (.inl (by omega))
          · exact (HX1.out.keepF FT (.inr (by omega))).keepF FS (.inr (Nat.le_refl _))
          · exact hs7.keepF FS (.inl (by omega))
          · exact (HB.out.frame FT hB).frameG FS (by omega)
          · exact (HF.out.trans FT).setNew (by show w.heap.size ≤ g; omega) _
        case measure => simp [intOf] <;> omega
    · obtain rfl : k = phiN N := by omega
      obtain ⟨d0, d1⟩ := HX0.out.cell2
      have FS : Frame w.heap.size (w.heap.size + 1) wr ((wr.setCell ⟨w.heap.size, 0, none⟩ (.int .i64 (N : Int))).setCell ⟨w.heap.size, 1, none⟩ (.slice a1 (phiN N) k1)) := ((Frame.refl w.heap.size (w.heap.size + 1) wr).setCell (Nat.le_refl _) (Nat.lt_succ_self _) _).setCell (Nat.le_refl _) (Nat.lt_succ_self _) _
      have dz := HX0.out.2.2
      go_wp2
      refine bodyPost_ret (v := .agg #[.int .i64 (N : Int), .slice a1 (phiN N) k1]) (by simp [results, Try.results181, go_sem, d0, d1]) rfl ?_
      refine ⟨_, _, f, rfl, ?_, HW.out, ?_, ?_, ?_⟩
      · exact ((HL.out.setOther (.inl (by show w.heap.size < _; omega)) _).setOther (.inl (by show w.heap.size < _; omega)) _).wide (by omega) (by simp; omega) (Nat.le_refl _)
      · exact HS.out.keepF FS (.inl (by omega))
      · exact HB.out.frameG FS (by omega)
      · exact (HF.out.setNew (Nat.le_refl _) _).setNew (Nat.le_refl _) _
end
end Go.Proofs.Ytdalahgfpbdilaa
