/- Products of the model: l01Times. -/
import Derived.Test.YtnhpodlcgkgpbaaFin
namespace Go.Proofs.Ytnhpodlcgkgpbaa
open Go.RowKit Go.ChangeShapes Go.Sort
set_option linter.unusedVariables false
set_option linter.unusedSimpArgs false

section
variable {o o' : Bool} {lo hi lo' hi' L : Nat} {v v' : Value} {f g : Nat → Int}
set_option maxRecDepth 100000 in
set_option maxHeartbeats 40000000 in
theorem l01Times_any (n : Nat) (h1 : 1 ≤ n) (h2 : n ≤ 16) (w : World) (hs : Sl o w lo hi v L f) (ht : Sl o' w lo' hi' v' L g) (hf : Within f L 12000000000) (hg : Within g L 12000000000) (hL0 : 0 < L) (hL : L ≤ 12) :
    Calls Try.prog 131 #[.agg #[.int .i64 (n : Int), v], .agg #[.int .i64 (n : Int), v']] w fun e w' => ∃ (a' : Option Addr) (cap' : Nat) (b : Bool), e = .returned (.tuple #[.agg #[.int .i64 (n : Int), .slice a' (phiN n) cap'], .bool b]) ∧
      (b = true ↔ Within (prodZ n L f g) (phiN n) 1000000000) ∧ (b = true → Sl true w' w.heap.size w'.heap.size (.slice a' (phiN n) cap') (phiN n) (prodZ n L f g)) ∧ Below w.heap.size w w' := by
  have hn1 : 1 ≤ n := h1
  have hhs := hs.size
  have hht := ht.size
  obtain ⟨a, cap, rfl⟩ := hs.shape
  obtain ⟨a', cap', rfl⟩ := ht.shape
  have st0 := (((((St.start w).addSl ⟨o, lo, hi, .slice a L cap, L, f⟩ hs).addSl ⟨o', lo', hi', .slice a' L cap', L, g⟩ ht).alloc (.cells #[.int .i64 (n : Int), .slice a L cap] 24)).addBox w.heap.size [.int .i64 (n : Int), .slice a L cap] (Box.made _ _ _ _ (fun j v h => by simpa using h)))
  replace st0 := (st0.alloc (.cells #[.int .i64 (n : Int), .slice a' L cap'] 24)).addBox _ [.int .i64 (n : Int), .slice a' L cap'] (Box.made _ _ _ _ (fun j v h => by simpa using h))
  replace st0 := (st0.alloc (.cells #[.int .i64 0, .slice none 0 0] 24)).addBox _ [.int .i64 0, .slice none 0 0] (Box.made _ _ _ _ (fun j v h => by simpa using h))
  simp only [World.size_alloc] at st0
  clear hs ht
  have HF := Lib.hid hf
  have HG := Lib.hid hg
  have HH := Lib.hid (fun j (hj : j < L) => (halves_bd hg j hj).2.2.1)
  have HLs := Lib.hid (fun j (hj : j < L) => (halves_bd hg j hj).2.2.2)
  have HLo := Lib.hid (fun j (hj : j < L) => show -400000 ≤ loD g j ∧ loD g j ≤ 400000 from by have := HLs.out j hj; omega)
  have HPS := Lib.hid (fun j (hj : j < phiN n) => prodZ_bd (by omega) h1 (by omega : (0 : Int) ≤ 100000) hf HLs.out hL hj)
  have HEQ := Lib.hid (fun j => prod_halvesD n L f g j)
  have hp12 := phi_le12 n h2 h1
  clear hf hg
  have hb0 : w.heap.size + 3 ≤ w.heap.size + 1 + 1 + 1 := Nat.le_refl _
  have R1 := ((Row.made (((w.alloc (.cells #[.int .i64 (n : Int), .slice a L cap] 24)).alloc (.cells #[.int .i64 (n : Int), .slice a' L cap'] 24)).alloc (.cells #[.int .i64 0, .slice none 0 0] 24)) (w.heap.size + 3) (loD g) (by simp)).alloc (.cells #[] 2))
  have R2 := Row.made ((((w.alloc (.cells #[.int .i64 (n : Int), .slice a L cap] 24)).alloc (.cells #[.int .i64 (n : Int), .slice a' L cap'] 24)).alloc (.cells #[.int .i64 0, .slice none 0 0] 24)).alloc (.cells #[] 2)) (w.heap.size + 3) (hiD g) (by simp)
  replace st0 := (st0.alloc (.cells #[] 2)).alloc (.cells #[] 2)
  simp only [World.size_alloc] at R1 R2
  have HR1 := Lib.hid R1
  have HR2 := Lib.hid R2
  have HST := Lib.hid st0
  clear R1 R2 st0
  go_enter Try.func131, Try.ntmps131
  go_wp2
  go_loopw [6, 7, 8] (fun s6 s7 s8 wr => ∃ (q g6 k6 g7 k7 : Nat), q ≤ L ∧ s6 = .slice (some ⟨g6, 0, none⟩) q k6 ∧ s7 = .slice (some ⟨g7, 0, none⟩) q k7 ∧ s8 = .int .i64 q ∧ Row wr (w.heap.size + 3) g6 k6 q (loD g) ∧ Row wr (w.heap.size + 3) g7 k7 q (hiD g) ∧ g6 ≠ g7 ∧
      St w wr [(w.heap.size + 1 + 1, [.int .i64 0, .slice none 0 0]), (w.heap.size + 1, [.int .i64 (n : Int), .slice a' L cap']), (w.heap.size, [.int .i64 (n : Int), .slice a L cap])] [⟨o', lo', hi', .slice a' L cap', L, g⟩, ⟨o, lo, hi, .slice a L cap, L, f⟩]) (fun _ _ s8 _ => L - (intOf s8).toNat)
  case atStart => exact ⟨0, _, _, _, _, Nat.zero_le _, rfl, rfl, rfl, HR1.out, HR2.out, by omega, HST.out⟩
  case round =>
    clear HR1 HR2 HST
    obtain ⟨q, g6, k6, g7, k7, hq, rfl, rfl, rfl, hr1, hr2, hne, hst⟩ := hrel
    have R1 := Lib.hid hr1; clear hr1
    have R2 := Lib.hid hr2; clear hr2
    have HT := Lib.hid hst; clear hst
    obtain ⟨y0, y1⟩ := (HT.out.box 1 (w.heap.size + 1, [.int .i64 (n : Int), .slice a' L cap']) rfl).cell2
    obtain ⟨hl6, hl6'⟩ := R1.out.lt
    obtain ⟨hl7, hl7'⟩ := R2.out.lt
    by_cases hlt : q < L
    · have qb := HT.out.sl 0 ⟨o', lo', hi', .slice a' L cap', L, g⟩ rfl
      dsimp only at qb
      obtain ⟨b', off', c2, hv2, _, _, _, _, hc2, _⟩ := qb.at (by omega)
      obtain ⟨rfl, rfl⟩ : a' = some ⟨b', off', none⟩ ∧ cap' = c2 := by cases hv2; exact ⟨rfl, rfl⟩
      have hck2 := hc2 q hlt
      clear hv2 hc2 qb
      obtain ⟨hg1, hg2⟩ := HG.out q hlt
      obtain ⟨hd, hd1, hd2⟩ := tdm (g q) 100000 (by omega)
      go_wp2_with (first
        | (at_builtin; refine wpList_push rfl (.tmp 22) (.tmp 29) rfl rfl (w.heap.size + 3) g6 k6 q (loD g) rfl (R1.out.alloc _) wr.heap.size ((g q).tmod 100000) rfl (heap_alloc_new wr _) (by omega) ?_; intro gA kA wA rowA grA orA ltA
           have stA := (HT.out.alloc (.cells #[.int .i64 ((g q).tmod 100000)] 2)).write (Frame.ofGrown grA) (by omega) (by intro b hb; simp only [List.mem_cons, List.not_mem_nil, or_false] at hb; rcases hb with rfl | rfl | rfl <;> dsimp only <;> omega) (by intro s hs'; simp only [List.mem_cons, List.not_mem_nil, or_false] at hs'; rcases hs' with rfl | rfl <;> dsimp only <;> omega)
           have RA2 := Lib.hid ((R2.out.alloc (.cells #[.int .i64 ((g q).tmod 100000)] 2)).kept grA (by omega))
           have RA1 := Lib.hid rowA
           have hszA := grA.size
           simp only [World.size_alloc] at orA hszA
           clear y0 y1 hck2 rowA grA
           obtain ⟨y0, y1⟩ := (stA.box 1 (w.heap.size + 1, [.int .i64 (n : Int), .slice (some ⟨b', off', none⟩) L cap']) rfl).cell2
           have qb := stA.sl 0 ⟨o', lo', hi', .slice (some ⟨b', off', none⟩) L cap', L, g⟩ rfl
           dsimp only at qb
           have hck2 := (qb.known (by omega)).2.2.2.1 q hlt
           clear qb)
        | (at_builtin; refine wpList_push rfl (.tmp 31) (.tmp 38) rfl rfl (w.heap.size + 3) g7 k7 q (hiD g) rfl (RA2.out.alloc _) wA.heap.size ((g q).tdiv 100000) rfl (heap_alloc_new wA _) (by omega) ?_; intro gB kB wB rowB grB orB ltB
           have stB := (stA.alloc (.cells #[.int .i64 ((g q).tdiv 100000)] 2)).write (Frame.ofGrown grB) (by omega) (by intro b hb; simp only [List.mem_cons, List.not_mem_nil, or_false] at hb; rcases hb with rfl | rfl | rfl <;> dsimp only <;> omega) (by intro s hs'; simp only [List.mem_cons, List.not_mem_nil, or_false] at hs'; rcases hs' with rfl | rfl <;> dsimp only <;> omega)
           have RB1 := Lib.hid ((RA1.out.alloc (.cells #[.int .i64 ((g q).tdiv 100000)] 2)).kept grB (by omega))
           have RB2 := Lib.hid rowB
           have hszB := grB.size
           simp only [World.size_alloc] at orB hszB
           clear y0 y1 hck2 rowB grB))
      go_roundw
      case rel =>
        refine ⟨q + 1, gA, kA, gB, kB, by omega, rfl, rfl, by go_num, RB1.out.congr (fun j hj => ?_), RB2.out.congr (fun j hj => ?_), by omega, stB⟩
        · by_cases e : j < q
          · rw [if_pos e]
          · obtain rfl : j = q := by omega
            rw [if_neg e]; rfl
        · by_cases e : j < q
          · rw [if_pos e]
          · obtain rfl : j = q := by omega
            rw [if_neg e]; rfl
      case measure => simp [intOf] <;> omega
    · obtain rfl : q = L := by omega
      have sL := Sl.ofRowF R1.out (fun j hj => by have := HLo.out j hj; unfold inR; omega) (by unfold maxLen; omega)
      have sH := Sl.ofRowF R2.out (fun j hj => by have := HH.out j hj; unfold inR; omega) (by unfold maxLen; omega)
      have stP := (HT.out.addSl ⟨true, w.heap.size + 3, wr.heap.size, .slice (some ⟨g7, 0, none⟩) q k7, q, hiD g⟩ sH).addSl ⟨true, w.heap.size + 3, wr.heap.size, .slice (some ⟨g6, 0, none⟩) q k6, q, loD g⟩ sL
      obtain ⟨x0, x1⟩ := (stP.box 2 (w.heap.size, [.int .i64 (n : Int), .slice a q cap]) rfl).cell2
      have hwr : w.heap.size + 3 ≤ wr.heap.size := by omega
      clear R1 R2 HT sL sH
      go_wp2
      clear y0 y1
      go_cut [9, 10] (fun s9 s10 wx => ∃ (b9 b10 lo8 hi8 : Nat) (a8 : Option Addr) (k8 lo9 hi9 : Nat) (a9 : Option Addr) (k9 : Nat), s9 = .pointer (some ⟨b9, 0, none⟩) ∧ s10 = .pointer (some ⟨b10, 0, none⟩) ∧ w.heap.size + 3 ≤ b9 ∧ w.heap.size + 3 ≤ b10 ∧ w.heap.size + 3 ≤ lo8 ∧ w.heap.size + 3 ≤ lo9 ∧
          St w wx ((b10, [.int .i64 (n : Int), .slice a9 (phiN n) k9]) :: (b9, [.int .i64 (n : Int), .slice a8 (phiN n) k8]) :: [(w.heap.size + 1 + 1, [.int .i64 0, .slice none 0 0]), (w.heap.size + 1, [.int .i64 (n : Int), .slice a' q cap']), (w.heap.size, [.int .i64 (n : Int), .slice a q cap])]) [⟨true, lo9, hi9, .slice a9 (phiN n) k9, phiN n, prodZ n q f (hiD g)⟩, ⟨true, lo8, hi8, .slice a8 (phiN n) k8, phiN n, prodZ n q f (loD g)⟩, ⟨o', lo', hi', .slice a' q cap', q, g⟩, ⟨o, lo, hi, .slice a q cap, q, f⟩])
      case first =>
        go_region_held3 (fun w' => w'.cell? ⟨w.heap.size, 0, none⟩ = some (.int .i64 (n : Int)) ∧ w'.cell? ⟨w.heap.size, 1, none⟩ = some (.slice a q cap))
          (first | exact ⟨x0, x1⟩ | (have q9 := (stB.box 2 (w.heap.size, [.int .i64 (n : Int), .slice a q cap]) rfl).cell2; refine ⟨?_, ?_⟩ <;> (repeat (first | with_reducible exact q9.1 | with_reducible exact q9.2 | with_reducible refine cell_later ((Below.refl _ _).alloc (Nat.le_refl _) _) ?_ | with_reducible refine cell_set1 ?_ (by omega))); done) | (have q9 := (st6.box 2 (w.heap.size, [.int .i64 (n : Int), .slice a q cap]) rfl).cell2; with_reducible exact ⟨q9.1, q9.2⟩) | (have q9 := (st6.box 3 (w.heap.size, [.int .i64 (n : Int), .slice a q cap]) rfl).cell2; with_reducible exact ⟨q9.1, q9.2⟩) | (have q9 := (st6.box 4 (w.heap.size, [.int .i64 (n : Int), .slice a q cap]) rfl).cell2; with_reducible exact ⟨q9.1, q9.2⟩) | (have q9 := ((st6.boxNew (.int .i64 0) (.slice none 0 0) 24).box 3 (w.heap.size, [.int .i64 (n : Int), .slice a q cap]) rfl).cell2; with_reducible exact ⟨q9.1, q9.2⟩) | (have q9 := ((st6.boxNew (.int .i64 0) (.slice none 0 0) 24).box 4 (w.heap.size, [.int .i64 (n : Int), .slice a q cap]) rfl).cell2; with_reducible exact ⟨q9.1, q9.2⟩) | (have q9 := (((st6.boxNew (.int .i64 0) (.slice none 0 0) 24).boxNew (.int .i64 0) (.slice none 0 0) 24).box 4 (w.heap.size, [.int .i64 (n : Int), .slice a q cap]) rfl).cell2; with_reducible exact ⟨q9.1, q9.2⟩) | (have q9 := ((stP.boxNew (.int .i64 0) (.slice none 0 0) 24).box 3 (w.heap.size, [.int .i64 (n : Int), .slice a q cap]) rfl).cell2; with_reducible exact ⟨q9.1, q9.2⟩) | (have q9 := (((stP.boxNew (.int .i64 0) (.slice none 0 0) 24).boxNew (.int .i64 0) (.slice none 0 0) 24).box 4 (w.heap.size, [.int .i64 (n : Int), .slice a q cap]) rfl).cell2; with_reducible exact ⟨q9.1, q9.2⟩) | (have q9 := (stP.drew.box 2 (w.heap.size, [.int .i64 (n : Int), .slice a q cap]) rfl).cell2; with_reducible exact ⟨q9.1, q9.2⟩) | (have q9 := ((stP.boxNew (.int .i64 0) (.slice none 0 0) 24).drew.box 3 (w.heap.size, [.int .i64 (n : Int), .slice a q cap]) rfl).cell2; with_reducible exact ⟨q9.1, q9.2⟩) | (have q9 := (((stP.boxNew (.int .i64 0) (.slice none 0 0) 24).boxNew (.int .i64 0) (.slice none 0 0) 24).drew.box 4 (w.heap.size, [.int .i64 (n : Int), .slice a q cap]) rfl).cell2; with_reducible exact ⟨q9.1, q9.2⟩) | go_keep)
          (first
            | (go_at_call 181; have _g := b6; refine (l01Product_any n h1 h2 _ (by first | (have q9 := st6.sl 3 ⟨o, lo, hi, .slice a q cap, q, f⟩ rfl; dsimp only at q9; with_reducible exact q9) | (have q9 := (st6.boxNew (.int .i64 0) (.slice none 0 0) 24).sl 3 ⟨o, lo, hi, .slice a q cap, q, f⟩ rfl; dsimp only at q9; with_reducible exact q9) | (have q9 := ((st6.boxNew (.int .i64 0) (.slice none 0 0) 24).boxNew (.int .i64 0) (.slice none 0 0) 24).sl 3 ⟨o, lo, hi, .slice a q cap, q, f⟩ rfl; dsimp only at q9; with_reducible exact q9)) (by first | (have q9 := st6.sl 1 ⟨true, w.heap.size + 3, wr.heap.size, .slice (some ⟨g7, 0, none⟩) q k7, q, hiD g⟩ rfl; dsimp only at q9; with_reducible exact q9) | (have q9 := (st6.boxNew (.int .i64 0) (.slice none 0 0) 24).sl 1 ⟨true, w.heap.size + 3, wr.heap.size, .slice (some ⟨g7, 0, none⟩) q k7, q, hiD g⟩ rfl; dsimp only at q9; with_reducible exact q9) | (have q9 := ((st6.boxNew (.int .i64 0) (.slice none 0 0) 24).boxNew (.int .i64 0) (.slice none 0 0) 24).sl 1 ⟨true, w.heap.size + 3, wr.heap.size, .slice (some ⟨g7, 0, none⟩) q k7, q, hiD g⟩ rfl; dsimp only at q9; with_reducible exact q9)) HF.out HH.out hL0 hL).mono ?_; rintro e w7 ⟨ax7, kx7, rfl, s7, b7⟩
               have hz7 := b7.size
               first | have t6 := s6.keep b7 s6.size | have t6 := (s6.alloc (.cells #[.int .i64 0, .slice none 0 0] 24)).keep b7 (s6.alloc (.cells #[.int .i64 0, .slice none 0 0] 24)).size | have t6 := ((s6.alloc (.cells #[.int .i64 0, .slice none 0 0] 24)).alloc (.cells #[.int .i64 0, .slice none 0 0] 24)).keep b7 ((s6.alloc (.cells #[.int .i64 0, .slice none 0 0] 24)).alloc (.cells #[.int .i64 0, .slice none 0 0] 24)).size
               first | have st7 := st6.keep b7 | have st7 := (st6.boxNew (.int .i64 0) (.slice none 0 0) 24).keep b7 | have st7 := ((st6.boxNew (.int .i64 0) (.slice none 0 0) 24).boxNew (.int .i64 0) (.slice none 0 0) 24).keep b7
               try simp only [World.size_drew, World.size_alloc] at hz7 s7
               first | (have stB := st7; have _ : St w w7 [(w.heap.size + 1 + 1, [.int .i64 0, .slice none 0 0]), (w.heap.size + 1, [.int .i64 (n : Int), .slice a' q cap']), (w.heap.size, [.int .i64 (n : Int), .slice a q cap])] [⟨true, w.heap.size + 3, wr.heap.size, .slice (some ⟨g6, 0, none⟩) q k6, q, loD g⟩, ⟨true, w.heap.size + 3, wr.heap.size, .slice (some ⟨g7, 0, none⟩) q k7, q, hiD g⟩, ⟨o', lo', hi', .slice a' q cap', q, g⟩, ⟨o, lo, hi, .slice a q cap, q, f⟩] := stB) | (have stB := st7.tailB; have _ : St w w7 [(w.heap.size + 1 + 1, [.int .i64 0, .slice none 0 0]), (w.heap.size + 1, [.int .i64 (n : Int), .slice a' q cap']), (w.heap.size, [.int .i64 (n : Int), .slice a q cap])] [⟨true, w.heap.size + 3, wr.heap.size, .slice (some ⟨g6, 0, none⟩) q k6, q, loD g⟩, ⟨true, w.heap.size + 3, wr.heap.size, .slice (some ⟨g7, 0, none⟩) q k7, q, hiD g⟩, ⟨o', lo', hi', .slice a' q cap', q, g⟩, ⟨o, lo, hi, .slice a q cap, q, f⟩] := stB) | (have stB := st7.tailB.tailB; have _ : St w w7 [(w.heap.size + 1 + 1, [.int .i64 0, .slice none 0 0]), (w.heap.size + 1, [.int .i64 (n : Int), .slice a' q cap']), (w.heap.size, [.int .i64 (n : Int), .slice a q cap])] [⟨true, w.heap.size + 3, wr.heap.size, .slice (some ⟨g6, 0, none⟩) q k6, q, loD g⟩, ⟨true, w.heap.size + 3, wr.heap.size, .slice (some ⟨g7, 0, none⟩) q k7, q, hiD g⟩, ⟨o', lo', hi', .slice a' q cap', q, g⟩, ⟨o, lo, hi, .slice a q cap, q, f⟩] := stB)
               try (have pb0 := st7.box 0 (_, [.int .i64 0, .slice none 0 0]) rfl; obtain ⟨pa0, pc0⟩ := pb0.cell2; have pz0 := pb0.2.2; try dsimp only at pz0; have nw0 := World.new_ne _ _ pa0; have pd0 := pb0.alloc2 (.cells #[.int .i64 0, .slice none 0 0] 24); obtain ⟨pe0, pf0⟩ := pd0.cell2; have pg0 := pd0.2.2; try dsimp only at pg0; have ph0 := pb0.alloc2 (.cells #[.int .i64 (n : Int), .slice ax6 (phiN n) kx6] 24); obtain ⟨pi0, pj0⟩ := ph0.cell2; have pk0 := ph0.2.2; try dsimp only at pk0 nw0; try simp only [World.size_drew, World.size_alloc] at pa0 pc0 pz0 nw0 pb0 pe0 pf0 pg0 pi0 pj0 pk0)
               try (have pb1 := st7.box 1 (_, [.int .i64 0, .slice none 0 0]) rfl; obtain ⟨pa1, pc1⟩ := pb1.cell2; have pz1 := pb1.2.2; try dsimp only at pz1; have nw1 := World.new_ne _ _ pa1; have pd1 := pb1.alloc2 (.cells #[.int .i64 0, .slice none 0 0] 24); obtain ⟨pe1, pf1⟩ := pd1.cell2; have pg1 := pd1.2.2; try dsimp only at pg1; have ph1 := pb1.alloc2 (.cells #[.int .i64 (n : Int), .slice ax6 (phiN n) kx6] 24); obtain ⟨pi1, pj1⟩ := ph1.cell2; have pk1 := ph1.2.2; try dsimp only at pk1 nw1; try simp only [World.size_drew, World.size_alloc] at pa1 pc1 pz1 nw1 pb1 pe1 pf1 pg1 pi1 pj1 pk1)
               try simp only [World.size_drew, World.size_alloc] at t6)
            | (go_at_call 181; refine (l01Product_any n h1 h2 _ (by first | (have q9 := stP.drew.sl 3 ⟨o, lo, hi, .slice a q cap, q, f⟩ rfl; dsimp only at q9; with_reducible exact q9) | (have q9 := (stP.boxNew (.int .i64 0) (.slice none 0 0) 24).drew.sl 3 ⟨o, lo, hi, .slice a q cap, q, f⟩ rfl; dsimp only at q9; with_reducible exact q9) | (have q9 := ((stP.boxNew (.int .i64 0) (.slice none 0 0) 24).boxNew (.int .i64 0) (.slice none 0 0) 24).drew.sl 3 ⟨o, lo, hi, .slice a q cap, q, f⟩ rfl; dsimp only at q9; with_reducible exact q9)) (by first | (have q9 := stP.drew.sl 0 ⟨true, w.heap.size + 3, wr.heap.size, .slice (some ⟨g6, 0, none⟩) q k6, q, loD g⟩ rfl; dsimp only at q9; with_reducible exact q9) | (have q9 := (stP.boxNew (.int .i64 0) (.slice none 0 0) 24).drew.sl 0 ⟨true, w.heap.size + 3, wr.heap.size, .slice (some ⟨g6, 0, none⟩) q k6, q, loD g⟩ rfl; dsimp only at q9; with_reducible exact q9) | (have q9 := ((stP.boxNew (.int .i64 0) (.slice none 0 0) 24).boxNew (.int .i64 0) (.slice none 0 0) 24).drew.sl 0 ⟨true, w.heap.size + 3, wr.heap.size, .slice (some ⟨g6, 0, none⟩) q k6, q, loD g⟩ rfl; dsimp only at q9; with_reducible exact q9)) HF.out HLo.out hL0 hL).mono ?_; rintro e w6 ⟨ax6, kx6, rfl, s6, b6⟩
               have hz6 := b6.size
               first | have st6 := stP.drew.keep b6 | have st6 := (stP.boxNew (.int .i64 0) (.slice none 0 0) 24).drew.keep b6 | have st6 := ((stP.boxNew (.int .i64 0) (.slice none 0 0) 24).boxNew (.int .i64 0) (.slice none 0 0) 24).drew.keep b6
               try simp only [World.size_drew, World.size_alloc] at hz6 s6))
        all_goals
          go_wp2_with fail
          go_meet
          first
            | (with_reducible refine ⟨_, _, _, _, ax6, kx6, _, _, ax7, kx7, rfl, rfl, ?_, ?_, ?_, ?_, fin1 stB.tail.tail t6 s7⟩ <;> first | omega | (intro b hb; simp only [List.mem_cons, List.not_mem_nil, or_false] at hb; rcases hb with rfl | rfl | rfl <;> dsimp only <;> omega) | (intro s hs'; simp only [List.mem_cons, List.not_mem_nil, or_false] at hs'; rcases hs' with rfl | rfl <;> dsimp only <;> omega))
            | (with_reducible refine ⟨_, _, _, _, ax6, kx6, _, _, ax7, kx7, rfl, rfl, ?_, ?_, ?_, ?_, fin2 stB.tail.tail t6 s7⟩ <;> first | omega | (intro b hb; simp only [List.mem_cons, List.not_mem_nil, or_false] at hb; rcases hb with rfl | rfl | rfl <;> dsimp only <;> omega) | (intro s hs'; simp only [List.mem_cons, List.not_mem_nil, or_false] at hs'; rcases hs' with rfl | rfl <;> dsimp only <;> omega))
            | (with_reducible refine ⟨_, _, _, _, ax6, kx6, _, _, ax7, kx7, rfl, rfl, ?_, ?_, ?_, ?_, fin5 stB.tail.tail t6 s7 pb0 ?_ ?_ ?_ ?_ ?_⟩ <;> first | omega | (intro b hb; simp only [List.mem_cons, List.not_mem_nil, or_false] at hb; rcases hb with rfl | rfl | rfl <;> dsimp only <;> omega) | (intro s hs'; simp only [List.mem_cons, List.not_mem_nil, or_false] at hs'; rcases hs' with rfl | rfl <;> dsimp only <;> omega))
            | (with_reducible refine ⟨_, _, _, _, ax6, kx6, _, _, ax7, kx7, rfl, rfl, ?_, ?_, ?_, ?_, fin3 stB.tail.tail t6 s7 pb0 ?_ ?_ ?_ ?_ ?_⟩ <;> first | omega | (intro b hb; simp only [List.mem_cons, List.not_mem_nil, or_false] at hb; rcases hb with rfl | rfl | rfl <;> dsimp only <;> omega) | (intro s hs'; simp only [List.mem_cons, List.not_mem_nil, or_false] at hs'; rcases hs' with rfl | rfl <;> dsimp only <;> omega))
            | (with_reducible refine ⟨_, _, _, _, ax6, kx6, _, _, ax7, kx7, rfl, rfl, ?_, ?_, ?_, ?_, fin4 stB.tail.tail t6 s7 pb1 pb0 ?_ ?_ ?_ ?_ ?_ ?_ ?_ ?_ ?_ ?_ ?_⟩ <;> first | omega | (intro b hb; simp only [List.mem_cons, List.not_mem_nil, or_false] at hb; rcases hb with rfl | rfl | rfl <;> dsimp only <;> omega) | (intro s hs'; simp only [List.mem_cons, List.not_mem_nil, or_false] at hs'; rcases hs' with rfl | rfl <;> dsimp only <;> omega))
            | (with_reducible refine ⟨_, _, _, _, ax6, kx6, _, _, ax7, kx7, rfl, rfl, ?_, ?_, ?_, ?_, fin4 stB.tail.tail t6 s7 pb0 pb1 ?_ ?_ ?_ ?_ ?_ ?_ ?_ ?_ ?_ ?_ ?_⟩ <;> first | omega | (intro b hb; simp only [List.mem_cons, List.not_mem_nil, or_false] at hb; rcases hb with rfl | rfl | rfl <;> dsimp only <;> omega) | (intro s hs'; simp only [List.mem_cons, List.not_mem_nil, or_false] at hs'; rcases hs' with rfl | rfl <;> dsimp only <;> omega))
      case rest =>
        obtain ⟨b9, b10, lo8, hi8, a8, k8, lo9, hi9, a9, k9, rfl, rfl, hb9, hb10, hl8, hl9, hst⟩ := hcut
        clear x0 x1 stP
        obtain ⟨wq, hwq⟩ : ∃ x : World, x = wc := ⟨_, rfl⟩
        subst hwq
        have HT0 := Lib.hid hst
        clear hst
        obtain ⟨x0, x1⟩ := (HT0.out.box 4 (w.heap.size, [.int .i64 (n : Int), .slice a q cap]) rfl).cell2
        have hq9 := (HT0.out.box 1 (b9, [.int .i64 (n : Int), .slice a8 (phiN n) k8]) rfl).1
        have hq10 := (HT0.out.box 0 (b10, [.int .i64 (n : Int), .slice a9 (phiN n) k9]) rfl).1
        have hs9 := (HT0.out.sl 0 ⟨true, lo9, hi9, .slice a9 (phiN n) k9, phiN n, prodZ n q f (hiD g)⟩ rfl).size
        have hs8 := (HT0.out.sl 1 ⟨true, lo8, hi8, .slice a8 (phiN n) k8, phiN n, prodZ n q f (loD g)⟩ rfl).size
        dsimp only at hq9 hq10 hs9 hs8
        go_wp2_with fail
        refine (l01Zero_any n (by omega) _).mono ?_
        rintro e w8 ⟨az, kz, rfl, sz, bz⟩
        clear x0 x1
        have hz8 := bz.size
        have HZ := Lib.hid ((sz.alloc (.cells #[.int .i64 (n : Int), .slice az (phiN n) kz] 24)).congr (f' := part1 (prodZ n q f g) 0) (fun j hj => by unfold part1; rw [if_neg (Nat.not_lt_zero _)]))
        have HT1 := Lib.hid ((HT0.out.keep bz).boxNew (.int .i64 (n : Int)) (.slice az (phiN n) kz) 24)
        clear sz bz HT0
        go_wp2
        go_loopw [12] (fun s12 wr => ∃ r : Nat, r ≤ phiN n ∧ s12 = .int .i64 r ∧ Sl true wr wq.heap.size w8.heap.size (.slice az (phiN n) kz) (phiN n) (part1 (prodZ n q f g) r) ∧
          St w wr ((w8.heap.size, [.int .i64 (n : Int), .slice az (phiN n) kz]) :: (b10, [.int .i64 (n : Int), .slice a9 (phiN n) k9]) :: (b9, [.int .i64 (n : Int), .slice a8 (phiN n) k8]) :: [(w.heap.size + 1 + 1, [.int .i64 0, .slice none 0 0]), (w.heap.size + 1, [.int .i64 (n : Int), .slice a' q cap']), (w.heap.size, [.int .i64 (n : Int), .slice a q cap])]) [⟨true, lo9, hi9, .slice a9 (phiN n) k9, phiN n, prodZ n q f (hiD g)⟩, ⟨true, lo8, hi8, .slice a8 (phiN n) k8, phiN n, prodZ n q f (loD g)⟩, ⟨o', lo', hi', .slice a' q cap', q, g⟩, ⟨o, lo, hi, .slice a q cap, q, f⟩]) (fun s12 _ => phiN n - (intOf s12).toNat)
        case atStart => exact ⟨0, Nat.zero_le _, rfl, HZ.out, HT1.out⟩
        case round =>
          clear HZ HT1
          obtain ⟨r, hr, rfl, hown, hst⟩ := hrel
          have HO := Lib.hid hown; clear hown
          have HT := Lib.hid hst; clear hst
          obtain ⟨p0, p1⟩ := (HT.out.box 0 (w8.heap.size, [.int .i64 (n : Int), .slice az (phiN n) kz]) rfl).cell2
          by_cases hlt2 : r < phiN n
          · obtain ⟨c0, c1⟩ := (HT.out.box 1 (b10, [.int .i64 (n : Int), .slice a9 (phiN n) k9]) rfl).cell2
            obtain ⟨e0, e1⟩ := (HT.out.box 2 (b9, [.int .i64 (n : Int), .slice a8 (phiN n) k8]) rfl).cell2
            have qa := HT.out.sl 0 ⟨true, lo9, hi9, .slice a9 (phiN n) k9, phiN n, prodZ n q f (hiD g)⟩ rfl
            have qb := HT.out.sl 1 ⟨true, lo8, hi8, .slice a8 (phiN n) k8, phiN n, prodZ n q f (loD g)⟩ rfl
            dsimp only at qa qb
            obtain ⟨g1, off1, d1, hv, _, _, _, _, hc, _⟩ := qa.at (by omega)
            obtain ⟨rfl, rfl⟩ : a9 = some ⟨g1, off1, none⟩ ∧ k9 = d1 := by cases hv; exact ⟨rfl, rfl⟩
            have hk9 := hc r hlt2
            clear hv hc qa
            obtain ⟨g2, off2, d2, hv, _, _, _, _, hc, _⟩ := qb.at (by omega)
            obtain ⟨rfl, rfl⟩ : a8 = some ⟨g2, off2, none⟩ ∧ k8 = d2 := by cases hv; exact ⟨rfl, rfl⟩
            have hk8 := hc r hlt2
            clear hv hc qb
            obtain ⟨g3, off3, d3, hv, _⟩ := HO.out.at (by omega)
            obtain ⟨rfl, rfl⟩ : az = some ⟨g3, off3, none⟩ ∧ kz = d3 := by cases hv; exact ⟨rfl, rfl⟩
            clear hv
            obtain ⟨hgl, hgh, _, hcz, hfz⟩ := HO.out.known (by omega)
            have hkz := hcz r hlt2
            have hfr := hfz rfl (off3 + r)
            clear hcz hfz
            obtain ⟨hm1, hm2⟩ := HPS.out r hlt2
            have he := HEQ.out r
            have HE := Lib.hid he
            clear he
            have W1 := Lib.hid (part1_succ (prodZ n q f g) r)
            have hr3 : (r : Int) < (phiN n : Int) := by omega
            generalize hG : prodZ n q f (hiD g) r = G at *
            generalize hS : prodZ n q f (loD g) r = Sm at *
            clear hG hS
            by_cases hin : -10000000000000 ≤ G ∧ G ≤ 10000000000000
            · obtain ⟨hin1, hin2⟩ := hin
              go_wp2_with (go_at_call 101; refine (l01In_yes _ _ _ _ (by omega) (by omega)).mono ?_; rintro e w' ⟨rfl, rfl⟩)
              go_region
              go_wp2
              go_roundw
              case rel =>
                refine ⟨r + 1, by omega, by go_num, ?_, ?_⟩
                · rw [W1.out, ← HE.out]
                  refine ((HO.out.store (i := r) (by omega) (by unfold inR; omega)).drew).congr (fun j hj => ?_)
                  by_cases e : j = r
                  · subst e; simp
                  · simp [e]
                · exact (HT.out.write (lo := wq.heap.size) (hi := w8.heap.size) ((Frame.refl wq.heap.size w8.heap.size wr).setCell hgl hgh _) (by omega) (by intro b hb; simp only [List.mem_cons, List.not_mem_nil, or_false] at hb; rcases hb with rfl | rfl | rfl | rfl | rfl | rfl <;> dsimp only <;> omega) (by intro s hs'; simp only [List.mem_cons, List.not_mem_nil, or_false] at hs'; rcases hs' with rfl | rfl | rfl | rfl <;> dsimp only <;> omega)).drew
              case measure => simp [intOf] <;> omega
            · have HK := Lib.hid (show G < -10000000000000 ∨ 10000000000000 < G by omega)
              have HNW := Lib.hid (show ¬ Within (prodZ n q f g) (phiN n) 1000000000 from fun hw => by have := hw r hlt2; rw [← HE.out] at this; omega)
              clear hin
              obtain ⟨d0, d1⟩ := (HT.out.box 3 (w.heap.size + 1 + 1, [.int .i64 0, .slice none 0 0]) rfl).cell2
              have dz := (HT.out.box 3 (w.heap.size + 1 + 1, [.int .i64 0, .slice none 0 0]) rfl).2.2
              have BB := HT.out.1
              dsimp only at dz
              go_wp2_with (go_at_call 101; refine (l01In_no _ _ _ _ HK.out).mono ?_; rintro e w' ⟨rfl, rfl⟩)
              refine bodyPost_ret (v := .tuple #[.agg #[.int .i64 (n : Int), .slice (some ⟨g3, off3, none⟩) (phiN n) kz], .bool false]) (by simp [results, Try.results131, go_sem, d0, d1]) rfl ?_
              exact ⟨_, _, false, rfl, ⟨fun h => (by cases h), fun h => absurd h HNW.out⟩, (fun h => by cases h), by go_grown⟩
          · obtain rfl : r = phiN n := by omega
            have HP := Lib.hid (HO.out.congr (f' := prodZ n q f g) (fun j hj => by unfold part1; rw [if_pos hj]))
            clear HO
            by_cases hw : Within (prodZ n q f g) (phiN n) 1000000000
            · have HW := Lib.hid hw
              clear hw
              go_wp2_with fail
              go_region_held3 (fun w' => w'.cell? ⟨w8.heap.size, 0, none⟩ = some (.int .i64 (n : Int)) ∧ w'.cell? ⟨w8.heap.size, 1, none⟩ = some (.slice az (phiN n) kz))
                (first | exact ⟨p0, p1⟩ | exact ⟨cell_later b6 p0, cell_later b6 p1⟩ | (refine ⟨?_, ?_⟩ <;> (refine cell_set1 ?_ (by omega); refine cell_set1 ?_ (by omega); first | exact cell_later b6 p0 | exact cell_later b6 p1)) | go_keep)
                (first
                  | (go_at_call 164; refine (l01Fits_yes _ _ (HP.out.drew) HW.out).mono ?_; rintro e w6 ⟨rfl, b6⟩
                     have st6 := HT.out.drew.keep b6
                     obtain ⟨d0, d1⟩ := (st6.box 3 (w.heap.size + 1 + 1, [.int .i64 0, .slice none 0 0]) rfl).cell2
                     have dz := (st6.box 3 (w.heap.size + 1 + 1, [.int .i64 0, .slice none 0 0]) rfl).2.2
                     dsimp only at dz))
              all_goals
                have BB := st6.1
                have HP6 := Lib.hid (HP.out.drew.keep b6 HP.out.drew.size)
                clear st6 b6
                go_wp2
                refine bodyPost_ret (v := .tuple #[.agg #[.int .i64 (n : Int), .slice az (phiN n) kz], .bool true]) (by simp [results, Try.results131, go_sem, d0, d1]) rfl ?_
                exact ⟨_, _, true, rfl, ⟨fun _ => HW.out, fun _ => rfl⟩, fun _ => ((HP6.out.setOther (.inl (by show w.heap.size + 1 + 1 < _; omega)) _).setOther (.inl (by show w.heap.size + 1 + 1 < _; omega)) _).wide (by omega) (by have := HP6.out.size; simpa using this) (Nat.le_refl _), by go_grown⟩
            · have HW := Lib.hid hw
              clear hw
              go_wp2_with fail
              go_region_held3 (fun w' => w'.cell? ⟨w8.heap.size, 0, none⟩ = some (.int .i64 (n : Int)) ∧ w'.cell? ⟨w8.heap.size, 1, none⟩ = some (.slice az (phiN n) kz))
                (first | exact ⟨p0, p1⟩ | exact ⟨cell_later b6 p0, cell_later b6 p1⟩ | (refine ⟨?_, ?_⟩ <;> (refine cell_set1 ?_ (by omega); refine cell_set1 ?_ (by omega); first | exact cell_later b6 p0 | exact cell_later b6 p1)) | go_keep)
                (first
                  | (go_at_call 164; refine (l01Fits_no _ _ (HP.out.drew) HW.out).mono ?_; rintro e w6 ⟨rfl, b6⟩
                     have st6 := HT.out.drew.keep b6
                     obtain ⟨d0, d1⟩ := (st6.box 3 (w.heap.size + 1 + 1, [.int .i64 0, .slice none 0 0]) rfl).cell2
                     have dz := (st6.box 3 (w.heap.size + 1 + 1, [.int .i64 0, .slice none 0 0]) rfl).2.2
                     dsimp only at dz))
              all_goals
                have BB := st6.1
                clear st6 b6
                go_wp2
                refine bodyPost_ret (v := .tuple #[.agg #[.int .i64 (n : Int), .slice az (phiN n) kz], .bool false]) (by simp [results, Try.results131, go_sem, d0, d1]) rfl ?_
                exact ⟨_, _, false, rfl, ⟨fun h => (by cases h), fun h => absurd h HW.out⟩, (fun h => by cases h), by go_grown⟩
end
end Go.Proofs.Ytnhpodlcgkgpbaa
