/- The images of a number, all of them: imagesOf of the program. -/
import Derived.Test.YtnhpodlcgkgpbaaRowE
namespace Go.Proofs.Ytnhpodlcgkgpbaa
open Go.RowKit Go.ChangeShapes Go.Sort
set_option linter.unusedVariables false
set_option linter.unusedSimpArgs false

/-- The image at the place k, as an array. -/
def imA (n L : Nat) (f : Nat → Int) (k : Nat) : Nat → Int := cut (phiN n) (im n L f k)
section
variable {o : Bool} {lo hi L : Nat} {v : Value} {f : Nat → Int}
set_option maxRecDepth 100000 in
set_option maxHeartbeats 1000000 in
theorem imagesOf_any (n : Nat) (h1 : 1 ≤ n) (h2 : n ≤ 16) (w : World) (hs : Sl o w lo hi v L f) (hL : L ≤ 24) :
    Calls Try.prog 132 #[.agg #[.int .i64 (n : Int), v]] w fun e w' => ∃ (g cap : Nat), e = .returned (.slice (some ⟨g, 0, none⟩) (phiN n) cap) ∧ RowE w' w.heap.size 136 12 g cap (phiN n) (fun k => arrL (imA n L f k)) ∧ Below w.heap.size w w' := by
  obtain ⟨av, cap0, rfl⟩ := hs.shape
  have hhs := hs.size
  have hp := phi_le12 n h2 h1
  have st0 := ((((St.start w).addSl ⟨o, lo, hi, .slice av L cap0, L, f⟩ hs).alloc (.cells #[.int .i64 (n : Int), .slice av L cap0] 24)).addBox w.heap.size [.int .i64 (n : Int), .slice av L cap0] (Box.made _ _ _ _ (fun j v h => by simpa using h))).alloc (.cells #[] 136)
  have r0 := RowE.made (w.alloc (.cells #[.int .i64 (n : Int), .slice av L cap0] 24)) (w.heap.size + 1) 136 12 (fun k => arrL (imA n L f k)) (by simp)
  simp only [World.size_alloc] at r0
  obtain ⟨x0, x1⟩ := (st0.box 0 (w.heap.size, [.int .i64 (n : Int), .slice av L cap0]) rfl).cell2
  clear hs
  go_enter Try.func132, Try.ntmps132
  go_wp2_with fail
  refine (residuesOf_any n h1 h2 _).mono ?_
  rintro e w1 ⟨gr, kr, rfl, s1, b1⟩
  have hz1 := b1.size
  simp only [World.size_alloc] at s1 hz1
  have st1 := (st0.keep b1).addSl ⟨true, w.heap.size + 1 + 1, w1.heap.size, .slice (some ⟨gr, 0, none⟩) (phiN n) kr, phiN n, fun k => (res n k : Int)⟩ s1
  have r1 := r0.keep b1 (Nat.le_refl _)
  have HR := Lib.hid r1
  have HST := Lib.hid st1
  clear st0 r0 b1 s1 st1 r1 x0 x1
  go_wp2
  go_loopw [3, 11] (fun s3 s11 wr => ∃ (k g cap : Nat), k ≤ phiN n ∧ s3 = .slice (some ⟨g, 0, none⟩) k cap ∧ s11 = .int .i64 k ∧ RowE wr (w.heap.size + 1) 136 12 g cap k (fun k => arrL (imA n L f k)) ∧ (g < w.heap.size + 1 + 1 ∨ w1.heap.size ≤ g) ∧
      St w wr [(w.heap.size, [.int .i64 (n : Int), .slice av L cap0])] [⟨true, w.heap.size + 1 + 1, w1.heap.size, .slice (some ⟨gr, 0, none⟩) (phiN n) kr, phiN n, fun k => (res n k : Int)⟩, ⟨o, lo, hi, .slice av L cap0, L, f⟩]) (fun _ s11 _ => phiN n - (intOf s11).toNat)
  case atStart => exact ⟨0, _, _, Nat.zero_le _, rfl, rfl, HR.out, .inl (by omega), HST.out⟩
  case round =>
    clear HR HST
    obtain ⟨k, g, cap, hk, rfl, rfl, hr, hd, hst⟩ := hrel
    have R1 := Lib.hid hr; clear hr
    have HT := Lib.hid hst; clear hst
    obtain ⟨hl, hl'⟩ := R1.out.lt
    have hw1 := (HT.out.sl 0 ⟨true, w.heap.size + 1 + 1, w1.heap.size, .slice (some ⟨gr, 0, none⟩) (phiN n) kr, phiN n, fun k => (res n k : Int)⟩ rfl).size
    dsimp only at hw1
    by_cases hlt : k < phiN n
    · have hrk := ((HT.out.sl 0 ⟨true, w.heap.size + 1 + 1, w1.heap.size, .slice (some ⟨gr, 0, none⟩) (phiN n) kr, phiN n, fun k => (res n k : Int)⟩ rfl).known (by show 0 < phiN n; omega)).2.2.2.1 k hlt
      have hra := Lib.hid (res_ok n (by omega) h1 k hlt)
      dsimp only at hrk
      rw [Nat.zero_add] at hrk
      obtain ⟨x0, x1⟩ := (HT.out.box 0 (w.heap.size, [.int .i64 (n : Int), .slice av L cap0]) rfl).cell2
      have hk2 : (k : Int) < (phiN n : Int) := by omega
      have qx := HT.out.sl 1 ⟨o, lo, hi, .slice av L cap0, L, f⟩ rfl
      dsimp only at qx
      have HI := Lib.hid (imageParts_any n (res n k) h1 h2 (by have := hra.out; omega) wr qx hL)
      have hiA : cut (phiN n) (imgP n (res n k) L f) = imA n L f k := rfl
      rw [hiA] at HI
      clear hiA qx
      have HG := Lib.hid (rfl : imA n L f k = imA n L f k)
      generalize hGe : imA n L f k = G at HI
      have HGe := Lib.hid hGe; clear hGe
      unfold arrV at HI
      go_wp2_with fail
      refine HI.out.mono ?_
      rintro e w2 ⟨rfl, b2⟩
      have hz2 := b2.size
      have R2 := Lib.hid ((R1.out.keep b2 (Nat.le_refl _)))
      have HT2 := Lib.hid (HT.out.keep b2)
      clear b2 R1 HT x0 x1 hrk
      go_wp2_with (first
        | (at_builtin; refine wpList_pushA rfl (.tmp 15) (.tmp 19) rfl rfl (w.heap.size + 1) g cap k (imA n L f) rfl (R2.out.alloc _) w2.heap.size G rfl (heap_alloc_new w2 _) (by omega) ?_; intro gA kA wA rowA grA orA ltA
           have stA := (HT2.out.alloc (.cells (arrC G) 136)).write (Frame.ofGrown grA) (by omega) (by intro b hb; simp only [List.mem_cons, List.not_mem_nil, or_false] at hb; rcases hb with rfl <;> dsimp only <;> omega) (by intro s hs'; simp only [List.mem_cons, List.not_mem_nil, or_false] at hs'; rcases hs' with rfl | rfl <;> dsimp only <;> omega)
           have STA := Lib.hid stA
           have RA := Lib.hid rowA
           have hzA := grA.size
           simp only [World.size_alloc] at orA hzA
           clear stA rowA grA))
      go_roundw
      case rel =>
        refine ⟨k + 1, gA, kA, by omega, rfl, by go_num, RA.out.congr (fun j hj => ?_), by omega, STA.out⟩
        by_cases e : j < k
        · rw [if_pos e]
        · obtain rfl : j = k := by omega
          rw [if_neg e, HGe.out]
      case measure => simp [intOf] <;> omega
    · obtain rfl : k = phiN n := by omega
      have BB := HT.out.1
      go_wp2
      go_ret
      exact ⟨g, cap, rfl, ⟨R1.out.1, by
        rcases R1.out.2 with h | ⟨g', cap', cur, hv, hb, r⟩
        · exact .inl h
        · exact .inr ⟨g', cap', cur, hv, by omega, r⟩⟩, BB⟩
end
end Go.Proofs.Ytnhpodlcgkgpbaa
