/- Desks: marks; NewDesk of the program and of the model. -/
import Derived.Test.YtnhpodlcgkgpbaaDk
import Derived.Test.YtnhpodlcgkgpbaaArr
namespace Go.Proofs.Ytnhpodlcgkgpbaa
open Go.RowKit Go.ChangeShapes Go.Sort
set_option linter.unusedVariables false
set_option linter.unusedSimpArgs false
set_option maxRecDepth 100000
set_option maxHeartbeats 2000000
theorem Box.frame {w w' : World} {b lo hi : Nat} {vs : List Value} (h : Box w b vs) (hf : Frame lo hi w w') (hb : b < lo ∨ hi ≤ b) : Box w' b vs :=
  ⟨Nat.lt_of_lt_of_le h.1 hf.size, fun j v hv => by rw [hf.cell (p := ⟨b, j, none⟩) h.1 hb]; exact h.2.1 j v hv, fun k => by rw [hf.frozen (p := ⟨b, k, none⟩) h.1 hb]; exact h.2.2 k⟩
theorem markDesk_any (x p q r y : Int) {a : Option Addr} {n c : Nat} {b : Option Addr} {m d : Nat} {f g : Nat → Int} {lo hi lo' hi' : Nat} (k : Int) (w : World) (hs : Sl true w lo hi (.slice a n c) n f) (ht : Sl true w lo' hi' (.slice b m d) m g) (hd : hi ≤ lo') (hd2 : lo ≤ hi) (hd3 : lo' ≤ hi') (hk : 0 ≤ k) (hk' : k ≤ 2305843009213693952) (hn : n ≤ 1048576) (hm : m ≤ 1048576) :
    Calls Try.prog 17 #[.agg #[.int .i64 x, .slice a n c, .int .i64 p, .int .i64 q, .int .i64 r, .int .i64 y, .slice b m d], .int .i64 k] w fun e w' => e = .returned (.int .i64 (k + n + m)) ∧ Sl true w' lo hi (.slice a n c) n (fun j => k + j) ∧ Sl true w' lo' hi' (.slice b m d) m (fun j => k + n + j) ∧ Frame lo hi' w w' := by
  have hhs := hs.size
  have hht := ht.size
  have HS := Lib.hid (hs.alloc (.cells #[.int .i64 x, .slice a n c, .int .i64 p, .int .i64 q, .int .i64 r, .int .i64 y, .slice b m d] 30))
  have HT := Lib.hid (ht.alloc (.cells #[.int .i64 x, .slice a n c, .int .i64 p, .int .i64 q, .int .i64 r, .int .i64 y, .slice b m d] 30))
  have st := ((St.start w).alloc (.cells #[.int .i64 x, .slice a n c, .int .i64 p, .int .i64 q, .int .i64 r, .int .i64 y, .slice b m d] 30)).addBox w.heap.size [.int .i64 x, .slice a n c, .int .i64 p, .int .i64 q, .int .i64 r, .int .i64 y, .slice b m d] (Box.made _ _ _ _ (fun j v h => by simpa using h))
  clear hs ht
  obtain ⟨x0, x1, x2, x3, x4, x5, x6⟩ := (st.box 0 (w.heap.size, [.int .i64 x, .slice a n c, .int .i64 p, .int .i64 q, .int .i64 r, .int .i64 y, .slice b m d]) rfl).cell7
  dsimp only at x0 x1 x2 x3 x4 x5 x6
  go_enter Try.func17, Try.ntmps17
  go_wp2_with fail
  refine (markCyclo_any _ _ _ HS.out hk (by omega) hn).mono ?_
  rintro e w1 ⟨rfl, s1, f1⟩
  have BX := (st.box 0 (w.heap.size, [.int .i64 x, .slice a n c, .int .i64 p, .int .i64 q, .int .i64 r, .int .i64 y, .slice b m d]) rfl).frame f1 (by dsimp only; omega)
  have HT1 := Lib.hid (HT.out.keepF f1 (.inr hd))
  have HS1 := Lib.hid s1
  have HF1 := Lib.hid (((Frame.refl lo hi w).alloc (.cells #[.int .i64 x, .slice a n c, .int .i64 p, .int .i64 q, .int .i64 r, .int .i64 y, .slice b m d] 30)).trans f1)
  clear st s1 f1 HS HT x0 x1 x2 x3 x4 x5 x6
  obtain ⟨x0, x1, x2, x3, x4, x5, x6⟩ := BX.cell7
  dsimp only at x0 x1 x2 x3 x4 x5 x6
  go_wp2_with fail
  refine (markRing_any _ _ _ HT1.out (by omega) (by omega) hm).mono ?_
  rintro e w2 ⟨rfl, s2, f2⟩
  have HS2 := Lib.hid (HS1.out.keepF f2 (.inl hd))
  have HT2 := Lib.hid s2
  have HF2 := Lib.hid ((HF1.out.wide (Nat.le_refl _) (by omega)).trans (f2.wide (by omega) (Nat.le_refl _)))
  clear s2 f2
  go_wp2
  go_ret
  exact ⟨by first | rfl | (simp; omega), HS2.out, HT2.out, HF2.out⟩
theorem heldDesk_any (x p q r y : Int) {a : Option Addr} {n c : Nat} {b : Option Addr} {m d : Nat} {lo hi lo' hi' : Nat} {o o' : Bool} (k : Int) (w : World) (hs : Sl o w lo hi (.slice a n c) n (fun j => k + j)) (ht : Sl o' w lo' hi' (.slice b m d) m (fun j => k + n + j)) (hk : 0 ≤ k) (hk' : k ≤ 2305843009213693952) (hn : n ≤ 1048576) (hm : m ≤ 1048576) :
    Calls Try.prog 18 #[.agg #[.int .i64 x, .slice a n c, .int .i64 p, .int .i64 q, .int .i64 r, .int .i64 y, .slice b m d], .int .i64 k] w fun e w' => e = .returned (.int .i64 (k + n + m)) ∧ Below w.heap.size w w' := by
  have hhs := hs.size
  have hht := ht.size
  have st := ((((St.start w).addSl ⟨o, lo, hi, .slice a n c, n, fun j => k + j⟩ hs).addSl ⟨o', lo', hi', .slice b m d, m, fun j => k + n + j⟩ ht).alloc (.cells #[.int .i64 x, .slice a n c, .int .i64 p, .int .i64 q, .int .i64 r, .int .i64 y, .slice b m d] 30)).addBox w.heap.size [.int .i64 x, .slice a n c, .int .i64 p, .int .i64 q, .int .i64 r, .int .i64 y, .slice b m d] (Box.made _ _ _ _ (fun j v h => by simpa using h))
  have qa := st.sl 1 ⟨o, lo, hi, .slice a n c, n, fun j => k + j⟩ rfl
  dsimp only at qa
  clear hs ht
  obtain ⟨x0, x1, x2, x3, x4, x5, x6⟩ := (st.box 0 (w.heap.size, [.int .i64 x, .slice a n c, .int .i64 p, .int .i64 q, .int .i64 r, .int .i64 y, .slice b m d]) rfl).cell7
  dsimp only at x0 x1 x2 x3 x4 x5 x6
  go_enter Try.func18, Try.ntmps18
  go_wp2_with fail
  refine (heldCyclo_any _ _ _ qa hk (by omega) hn).mono ?_
  rintro e w1 ⟨rfl, b1⟩
  replace st := st.keep b1
  clear b1 qa x0 x1 x2 x3 x4 x5 x6
  obtain ⟨x0, x1, x2, x3, x4, x5, x6⟩ := (st.box 0 (w.heap.size, [.int .i64 x, .slice a n c, .int .i64 p, .int .i64 q, .int .i64 r, .int .i64 y, .slice b m d]) rfl).cell7
  dsimp only at x0 x1 x2 x3 x4 x5 x6
  have qb := st.sl 0 ⟨o', lo', hi', .slice b m d, m, fun j => k + n + j⟩ rfl
  dsimp only at qb
  go_wp2_with fail
  refine (heldRing_any _ _ _ qb (by omega) (by omega) hm).mono ?_
  rintro e w2 ⟨rfl, b2⟩
  replace st := st.keep b2
  have BB := st.1
  go_wp2
  go_ret
  exact ⟨by first | rfl | (simp; omega), BB⟩
def nwA : Nat → Int := fun j => if j = 0 then 1 else if j = 1 then -1 else 0
theorem NewDesk_impl (w : World) :
    Calls Try.prog 15 #[] w fun e w' => ∃ a c b d K, e = .returned (.agg #[.int .i64 5, .slice a 4 c, .int .i64 5, .int .i64 4, .int .i64 1, .int .i64 5, .slice b 4 d]) ∧ Sl true w' K (K + 1) (.slice a 4 c) 4 nwA ∧ Sl true w' (K + 1) (K + 2) (.slice b 4 d) 4 (fun _ => 1) ∧ w.heap.size ≤ K ∧ K + 2 ≤ w'.heap.size ∧ Below w.heap.size w w' := by
  have st := ((St.start w).alloc (.cells #[.int .i64 5, .slice (some ⟨w.heap.size + 1, 0, none⟩) 4 4, .int .i64 5, .int .i64 4, .int .i64 1, .int .i64 5, .slice (some ⟨w.heap.size + 1 + 1, 0, none⟩) 4 4] 30)).addBox w.heap.size [.int .i64 5, .slice (some ⟨w.heap.size + 1, 0, none⟩) 4 4, .int .i64 5, .int .i64 4, .int .i64 1, .int .i64 5, .slice (some ⟨w.heap.size + 1 + 1, 0, none⟩) 4 4] (Box.made _ _ _ _ (fun j v h => by simpa using h))
  have s1 := Sl.made (w.alloc (.cells #[.int .i64 5, .slice (some ⟨w.heap.size + 1, 0, none⟩) 4 4, .int .i64 5, .int .i64 4, .int .i64 1, .int .i64 5, .slice (some ⟨w.heap.size + 1 + 1, 0, none⟩) 4 4] 30)) #[.int .i64 1, .int .i64 (-1), .int .i64 0, .int .i64 0] 2 4 4 nwA (Nat.le_refl _) (by decide) (fun k hk => by unfold nwA inR; split <;> (try split) <;> omega) (fun k hk => by
    rcases k with _ | _ | _ | _ | k
    · rfl
    · rfl
    · rfl
    · rfl
    · omega)
  simp only [World.size_alloc] at s1
  replace st := (st.alloc (.cells #[.int .i64 1, .int .i64 (-1), .int .i64 0, .int .i64 0] 2)).addSl ⟨true, w.heap.size + 1, w.heap.size + 1 + 1, _, 4, nwA⟩ s1
  have s2 := Sl.made ((w.alloc (.cells #[.int .i64 5, .slice (some ⟨w.heap.size + 1, 0, none⟩) 4 4, .int .i64 5, .int .i64 4, .int .i64 1, .int .i64 5, .slice (some ⟨w.heap.size + 1 + 1, 0, none⟩) 4 4] 30)).alloc (.cells #[.int .i64 1, .int .i64 (-1), .int .i64 0, .int .i64 0] 2)) #[.int .i64 1, .int .i64 1, .int .i64 1, .int .i64 1] 2 4 4 (fun _ => 1) (Nat.le_refl _) (by decide) (fun k hk => by unfold inR; omega) (fun k hk => by
    rcases k with _ | _ | _ | _ | k
    · rfl
    · rfl
    · rfl
    · rfl
    · omega)
  simp only [World.size_alloc] at s2
  replace st := (st.alloc (.cells #[.int .i64 1, .int .i64 1, .int .i64 1, .int .i64 1] 2)).addSl ⟨true, w.heap.size + 1 + 1, w.heap.size + 1 + 1 + 1, _, 4, fun _ => 1⟩ s2
  clear s1 s2
  obtain ⟨z0, z1, z2, z3, z4, z5, z6⟩ := (st.box 0 (w.heap.size, [.int .i64 5, .slice (some ⟨w.heap.size + 1, 0, none⟩) 4 4, .int .i64 5, .int .i64 4, .int .i64 1, .int .i64 5, .slice (some ⟨w.heap.size + 1 + 1, 0, none⟩) 4 4]) rfl).cell7
  dsimp only at z0 z1 z2 z3 z4 z5 z6
  have zz := (st.box 0 (w.heap.size, [.int .i64 5, .slice (some ⟨w.heap.size + 1, 0, none⟩) 4 4, .int .i64 5, .int .i64 4, .int .i64 1, .int .i64 5, .slice (some ⟨w.heap.size + 1 + 1, 0, none⟩) 4 4]) rfl).2.2
  have SA := Lib.hid (st.sl 1 ⟨true, w.heap.size + 1, w.heap.size + 1 + 1, _, 4, nwA⟩ rfl)
  have SB := Lib.hid (st.sl 0 ⟨true, w.heap.size + 1 + 1, w.heap.size + 1 + 1 + 1, _, 4, fun _ => 1⟩ rfl)
  have BB := st.1
  dsimp only at zz SA SB
  have hsz : (((w.alloc (.cells #[.int .i64 5, .slice (some ⟨w.heap.size + 1, 0, none⟩) 4 4, .int .i64 5, .int .i64 4, .int .i64 1, .int .i64 5, .slice (some ⟨w.heap.size + 1 + 1, 0, none⟩) 4 4] 30)).alloc (.cells #[.int .i64 1, .int .i64 (-1), .int .i64 0, .int .i64 0] 2)).alloc (.cells #[.int .i64 1, .int .i64 1, .int .i64 1, .int .i64 1] 2)).heap.size = w.heap.size + 1 + 1 + 1 := by simp
  clear st
  go_enter Try.func15, Try.ntmps15
  go_wp2
  obtain ⟨W, hW⟩ : ∃ W, (((w.alloc (.cells #[.int .i64 5, .slice (some ⟨w.heap.size + 1, 0, none⟩) 4 4, .int .i64 5, .int .i64 4, .int .i64 1, .int .i64 5, .slice (some ⟨w.heap.size + 1 + 1, 0, none⟩) 4 4] 30)).alloc (.cells #[.int .i64 1, .int .i64 (-1), .int .i64 0, .int .i64 0] 2)).alloc (.cells #[.int .i64 1, .int .i64 1, .int .i64 1, .int .i64 1] 2)) = W := ⟨_, rfl⟩
  rw [hW] at z0 z1 z2 z3 z4 z5 z6 SA SB BB hsz ⊢
  clear hW zz
  refine bodyPost_ret (v := .agg #[.int .i64 5, .slice (some ⟨w.heap.size + 1, 0, none⟩) 4 4, .int .i64 5, .int .i64 4, .int .i64 1, .int .i64 5, .slice (some ⟨w.heap.size + 1 + 1, 0, none⟩) 4 4]) (by simp [results, Try.results15, go_sem, z0, z1, z2, z3, z4, z5, z6]) rfl ?_
  refine ⟨some ⟨w.heap.size + 1, 0, none⟩, 4, some ⟨w.heap.size + 1 + 1, 0, none⟩, 4, w.heap.size + 1, rfl, ?_, ?_, by omega, by omega, BB⟩
  · exact SA.out
  · exact SB.out
theorem NewDesk_l11 (w : World) :
    Calls Try.prog 86 #[] w fun e w' => ∃ a c b d K, e = .returned (.agg #[.int .i64 5, .slice a 4 c, .int .i64 5, .int .i64 4, .int .i64 1, .int .i64 5, .slice b 4 d]) ∧ Sl true w' K (K + 1) (.slice a 4 c) 4 nwA ∧ Sl true w' (K + 1) (K + 2) (.slice b 4 d) 4 (fun _ => 1) ∧ w.heap.size ≤ K ∧ K + 2 ≤ w'.heap.size ∧ Below w.heap.size w w' := by
  have st := ((St.start w).alloc (.cells #[.int .i64 5, .slice (some ⟨w.heap.size + 1, 0, none⟩) 4 4, .int .i64 5, .int .i64 4, .int .i64 1, .int .i64 5, .slice (some ⟨w.heap.size + 1 + 1, 0, none⟩) 4 4] 30)).addBox w.heap.size [.int .i64 5, .slice (some ⟨w.heap.size + 1, 0, none⟩) 4 4, .int .i64 5, .int .i64 4, .int .i64 1, .int .i64 5, .slice (some ⟨w.heap.size + 1 + 1, 0, none⟩) 4 4] (Box.made _ _ _ _ (fun j v h => by simpa using h))
  have s1 := Sl.made (w.alloc (.cells #[.int .i64 5, .slice (some ⟨w.heap.size + 1, 0, none⟩) 4 4, .int .i64 5, .int .i64 4, .int .i64 1, .int .i64 5, .slice (some ⟨w.heap.size + 1 + 1, 0, none⟩) 4 4] 30)) #[.int .i64 1, .int .i64 (-1), .int .i64 0, .int .i64 0] 2 4 4 nwA (Nat.le_refl _) (by decide) (fun k hk => by unfold nwA inR; split <;> (try split) <;> omega) (fun k hk => by
    rcases k with _ | _ | _ | _ | k
    · rfl
    · rfl
    · rfl
    · rfl
    · omega)
  simp only [World.size_alloc] at s1
  replace st := (st.alloc (.cells #[.int .i64 1, .int .i64 (-1), .int .i64 0, .int .i64 0] 2)).addSl ⟨true, w.heap.size + 1, w.heap.size + 1 + 1, _, 4, nwA⟩ s1
  have s2 := Sl.made ((w.alloc (.cells #[.int .i64 5, .slice (some ⟨w.heap.size + 1, 0, none⟩) 4 4, .int .i64 5, .int .i64 4, .int .i64 1, .int .i64 5, .slice (some ⟨w.heap.size + 1 + 1, 0, none⟩) 4 4] 30)).alloc (.cells #[.int .i64 1, .int .i64 (-1), .int .i64 0, .int .i64 0] 2)) #[.int .i64 1, .int .i64 1, .int .i64 1, .int .i64 1] 2 4 4 (fun _ => 1) (Nat.le_refl _) (by decide) (fun k hk => by unfold inR; omega) (fun k hk => by
    rcases k with _ | _ | _ | _ | k
    · rfl
    · rfl
    · rfl
    · rfl
    · omega)
  simp only [World.size_alloc] at s2
  replace st := (st.alloc (.cells #[.int .i64 1, .int .i64 1, .int .i64 1, .int .i64 1] 2)).addSl ⟨true, w.heap.size + 1 + 1, w.heap.size + 1 + 1 + 1, _, 4, fun _ => 1⟩ s2
  clear s1 s2
  obtain ⟨z0, z1, z2, z3, z4, z5, z6⟩ := (st.box 0 (w.heap.size, [.int .i64 5, .slice (some ⟨w.heap.size + 1, 0, none⟩) 4 4, .int .i64 5, .int .i64 4, .int .i64 1, .int .i64 5, .slice (some ⟨w.heap.size + 1 + 1, 0, none⟩) 4 4]) rfl).cell7
  dsimp only at z0 z1 z2 z3 z4 z5 z6
  have zz := (st.box 0 (w.heap.size, [.int .i64 5, .slice (some ⟨w.heap.size + 1, 0, none⟩) 4 4, .int .i64 5, .int .i64 4, .int .i64 1, .int .i64 5, .slice (some ⟨w.heap.size + 1 + 1, 0, none⟩) 4 4]) rfl).2.2
  have SA := Lib.hid (st.sl 1 ⟨true, w.heap.size + 1, w.heap.size + 1 + 1, _, 4, nwA⟩ rfl)
  have SB := Lib.hid (st.sl 0 ⟨true, w.heap.size + 1 + 1, w.heap.size + 1 + 1 + 1, _, 4, fun _ => 1⟩ rfl)
  have BB := st.1
  dsimp only at zz SA SB
  have hsz : (((w.alloc (.cells #[.int .i64 5, .slice (some ⟨w.heap.size + 1, 0, none⟩) 4 4, .int .i64 5, .int .i64 4, .int .i64 1, .int .i64 5, .slice (some ⟨w.heap.size + 1 + 1, 0, none⟩) 4 4] 30)).alloc (.cells #[.int .i64 1, .int .i64 (-1), .int .i64 0, .int .i64 0] 2)).alloc (.cells #[.int .i64 1, .int .i64 1, .int .i64 1, .int .i64 1] 2)).heap.size = w.heap.size + 1 + 1 + 1 := by simp
  clear st
  go_enter Try.func86, Try.ntmps86
  go_wp2
  obtain ⟨W, hW⟩ : ∃ W, (((w.alloc (.cells #[.int .i64 5, .slice (some ⟨w.heap.size + 1, 0, none⟩) 4 4, .int .i64 5, .int .i64 4, .int .i64 1, .int .i64 5, .slice (some ⟨w.heap.size + 1 + 1, 0, none⟩) 4 4] 30)).alloc (.cells #[.int .i64 1, .int .i64 (-1), .int .i64 0, .int .i64 0] 2)).alloc (.cells #[.int .i64 1, .int .i64 1, .int .i64 1, .int .i64 1] 2)) = W := ⟨_, rfl⟩
  rw [hW] at z0 z1 z2 z3 z4 z5 z6 SA SB BB hsz ⊢
  clear hW zz
  refine bodyPost_ret (v := .agg #[.int .i64 5, .slice (some ⟨w.heap.size + 1, 0, none⟩) 4 4, .int .i64 5, .int .i64 4, .int .i64 1, .int .i64 5, .slice (some ⟨w.heap.size + 1 + 1, 0, none⟩) 4 4]) (by simp [results, Try.results86, go_sem, z0, z1, z2, z3, z4, z5, z6]) rfl ?_
  refine ⟨some ⟨w.heap.size + 1, 0, none⟩, 4, some ⟨w.heap.size + 1 + 1, 0, none⟩, 4, w.heap.size + 1, rfl, ?_, ?_, by omega, by omega, BB⟩
  · exact SA.out
  · exact SB.out
theorem NewDesk_spec (w : World) :
    Calls Try.prog 14 #[] w fun e w' => ∃ a c b d K, e = .returned (.agg #[.int .i64 5, .slice a 4 c, .int .i64 5, .int .i64 4, .int .i64 1, .int .i64 5, .slice b 4 d]) ∧ Sl true w' K (K + 1) (.slice a 4 c) 4 nwA ∧ Sl true w' (K + 1) (K + 2) (.slice b 4 d) 4 (fun _ => 1) ∧ w.heap.size ≤ K ∧ K + 2 ≤ w'.heap.size ∧ Below w.heap.size w w' := by
  have st := ((St.start w).alloc (.cells #[.int .i64 0, .slice none 0 0, .int .i64 0, .int .i64 0, .int .i64 0, .int .i64 0, .slice none 0 0] 30)).addBox w.heap.size [.int .i64 0, .slice none 0 0, .int .i64 0, .int .i64 0, .int .i64 0, .int .i64 0, .slice none 0 0] (Box.made _ _ _ _ (fun j v h => by simpa using h))
  go_enter Try.func14, Try.ntmps14
  go_wp2_with fail
  refine (NewDesk_l11 _).mono ?_
  rintro e w1 ⟨a, c, b, d, K, rfl, s1, s2, h1, h2, b1⟩
  have hz := b1.size
  simp only [World.size_alloc] at hz h1
  replace st := st.keep b1
  obtain ⟨z0, z1, z2, z3, z4, z5, z6⟩ := (st.box 0 (w.heap.size, [.int .i64 0, .slice none 0 0, .int .i64 0, .int .i64 0, .int .i64 0, .int .i64 0, .slice none 0 0]) rfl).cell7
  dsimp only at z0 z1 z2 z3 z4 z5 z6
  have zz := (st.box 0 (w.heap.size, [.int .i64 0, .slice none 0 0, .int .i64 0, .int .i64 0, .int .i64 0, .int .i64 0, .slice none 0 0]) rfl).2.2
  dsimp only at zz
  have SA := Lib.hid s1
  have SB := Lib.hid s2
  have BB := st.1
  clear s1 s2 st
  go_wp2
  refine bodyPost_ret (v := .agg #[.int .i64 5, .slice a 4 c, .int .i64 5, .int .i64 4, .int .i64 1, .int .i64 5, .slice b 4 d]) (by simp [results, Try.results14, go_sem, z0, z1, z2, z3, z4, z5, z6]) rfl ?_
  refine ⟨_, _, _, _, K, rfl, (((((((SA.out).setOther (.inl (show w.heap.size < K from by omega)) _).setOther (.inl (show w.heap.size < K from by omega)) _).setOther (.inl (show w.heap.size < K from by omega)) _).setOther (.inl (show w.heap.size < K from by omega)) _).setOther (.inl (show w.heap.size < K from by omega)) _).setOther (.inl (show w.heap.size < K from by omega)) _).setOther (.inl (show w.heap.size < K from by omega)) _, (((((((SB.out).setOther (.inl (show w.heap.size < K + 1 from by omega)) _).setOther (.inl (show w.heap.size < K + 1 from by omega)) _).setOther (.inl (show w.heap.size < K + 1 from by omega)) _).setOther (.inl (show w.heap.size < K + 1 from by omega)) _).setOther (.inl (show w.heap.size < K + 1 from by omega)) _).setOther (.inl (show w.heap.size < K + 1 from by omega)) _).setOther (.inl (show w.heap.size < K + 1 from by omega)) _, by omega, by simpa using h2, by go_grown⟩
end Go.Proofs.Ytnhpodlcgkgpbaa
