/- Gauss numbers of the model: rows of zeros, the normal form, what is a Gauss number, what fits. -/
import Derived.Test.YthmhjnholhiohaaGIs
import Derived.Test.YthmhjnholhiohaaSpecRed
import Derived.Deep.RegionLaw
import Derived.Deep.AppendLies
namespace Go.Proofs.Ythmhjnholhiohaa
open Go.RowKit Go.ChangeShapes Go.Sort Go.WideShapes
set_option linter.unusedVariables false
set_option linter.unusedSimpArgs false

section
variable {w w' : World} {b k lo hi base top g cap m n : Nat} {o : Bool} {v x : Value} {f : Nat → Int} {u : Nat → Value} {ln : Nat → Nat} {F : Nat → Nat → Int}
/-- A cell of a block is laid in which the slice has none. -/
theorem Sl.setOff (h : Sl o w lo hi v n f) (hb : OffB b v) : Sl o (w.setCell ⟨b, k, none⟩ x) lo hi v n f := by
  obtain ⟨h1, h2, h3, h4⟩ := h
  refine ⟨by simpa using h1, h2, h3, ?_⟩
  rcases h4 with h4 | ⟨g, off, c, hv, hg, hg', hc, hc', hcell, hf⟩
  · exact .inl h4
  · refine .inr ⟨g, off, c, hv, hg, hg', hc, hc', fun j hj => ?_, fun e k => (World.frozen?_setCell _ _ _ _).trans (hf e k)⟩
    have hne : g ≠ b := by
      rcases hb _ _ _ hv with z | z
      · omega
      · exact z
    rw [World.cell?_setCell_other _ _ _ _ (fun e => hne (by injection e with e1; exact e1.symm))]
    exact hcell j hj
theorem RwG.setOff (h : RwG w base top g cap m u ln F) (hg : g ≠ b) (hu : ∀ i, i < m → OffB b (u i)) : RwG (w.setCell ⟨b, k, none⟩ x) base top g cap m u ln F := by
  obtain ⟨h1, h2, h3, h4, h5, h6⟩ := h
  exact ⟨by simpa using h1, h2, h3, h4.keepF ((Frame.refl b (b + 1) w).setCell (Nat.le_refl _) (Nat.lt_succ_self _) _) (by omega), fun i hi => ⟨(h5 i hi).1.setOff (hu i hi), (h5 i hi).2⟩, h6⟩
theorem RwG.blk (h : RwG w base top g cap m u ln F) : base ≤ g ∧ g < top ∧ top ≤ w.heap.size := ⟨h.2.1, h.2.2.1, h.1⟩
theorem Row.sl {f : Nat → Int} (h : Row w base g cap n f) (hf : ∀ j, j < n → inR (f j)) (hn : n ≤ maxLen) : Sl true w base w.heap.size (.slice (some ⟨g, 0, none⟩) n cap) n f := Sl.ofRowF h hf hn
theorem StR.boxSetC2 {W : World} {bs : List (Nat × List Value)} {ss : List SlF} {rs : List RwF} {v0 v1 v2 z : Value} (h : StR W w ((b, [v0, v1, v2]) :: bs) ss rs) (hb : W.heap.size ≤ b) (hbs : ∀ x ∈ bs, x.1 < b ∨ b + 1 ≤ x.1) (hss : ∀ s ∈ ss, s.hi ≤ b ∨ b + 1 ≤ s.lo) (hrs : ∀ s ∈ rs, s.hi ≤ b ∨ b + 1 ≤ s.lo) :
    StR W (w.setCell ⟨b, 2, none⟩ z) ((b, [v0, v1, z]) :: bs) ss rs := by
  have hbx := h.box 0 _ rfl
  have h2 : StR W w bs ss rs := ⟨h.1, fun x hx => h.2.1 x (List.mem_cons_of_mem _ hx), h.2.2.1, h.2.2.2⟩
  refine (h2.write (lo := b) (hi := b + 1) ((Frame.refl b (b + 1) w).setCell (Nat.le_refl _) (Nat.lt_succ_self _) _) hb hbs hss hrs).addBox _ _ ⟨by simpa using hbx.1, fun j v hj => ?_, fun k => (World.frozen?_setCell _ _ _ _).trans (hbx.2.2 k)⟩
  rcases j with _ | _ | _ | j
  · rw [setCell_ne _ _ _ _ _ (by decide)]; exact hbx.2.1 0 v hj
  · rw [setCell_ne _ _ _ _ _ (by decide)]; exact hbx.2.1 1 v hj
  · simp only [List.getElem?_cons_succ, List.getElem?_cons_zero, Option.some.injEq] at hj
    subst hj
    exact World.cell?_setCell_same _ _ _ (hbx.2.1 2 v2 rfl)
  · simp at hj
end

theorem step_pushJ {w : World} {ops : Array Oper} {o : Oper} {a : Act} {K : Act → World → Prop} {Q : Exit → Act → World → Prop} {E : Prop} (hgd : o.guard = none) (s x : Operand)
    (ho : o.op = .call { callee := .builtin .append, args := #[s, x], argTypes := #[31, 31] })
    (base n : Nat) (v : Value) (f : Nat → Int) (hs : a.eval s = v) (hown : w.ownsRow base 2 1 v n (ints n f)) (hbase : base ≤ w.heap.size) (B : Nat) (y : Int) (hx : a.eval x = .slice (some ⟨B, 0, none⟩) 1 1)
    (hb : w.heap[B]? = some (.cells #[.int .i64 y] 2 (0, 0))) (hn : n + 1 ≤ 1048576)
    (h : ∀ g' cap' w', Row w' base g' cap' (n + 1) (fun j => if j < n then f j else y) → w.grownBy w' v.ownBlock → (v.ownBlock = some g' ∨ g' = w.heap.size) → g' < w'.heap.size → K (a.put o.dst (.slice (some ⟨g', 0, none⟩) (n + 1) cap')) w') :
    if Region.wanted o (yielded ops a.tmps) = true then Oper.wp Try.prog o a w K Q else E := by
  obtain ⟨i0, hi, hz0, hz1, hz2⟩ := info_parts Try.info2
  refine step_append_lies w hgd s x 31 ho base 2 i0 (.int .i64 0) 1 8 Try.underlying31 hi hz0 hz1 hz2 rfl (by decide) v n _ hs hown ⟨B, 0, none⟩ 1 1 [.int .i64 y] hx rfl (World.news_of_block hb) (by simp [Value.oneCell']) (by decide) (by unfold maxLen; omega) (by omega) hbase _ rfl ?_
  intro g' cap' w' h1 h2 h3 h4
  refine h g' cap' w' ?_ h2 h3 h4
  unfold Row
  rw [List.range_succ, List.map_append]
  have e1 : (List.range n).map (fun j => Value.int .i64 (if j < n then f j else y)) = ints n f := by
    unfold ints
    exact List.map_congr_left (fun j hj => by rw [if_pos (List.mem_range.1 hj)])
  rw [e1]
  simpa using h1


set_option maxRecDepth 100000 in
set_option maxHeartbeats 2000000 in
theorem l05Zeros_any (p n : Nat) (hp2 : p ≤ 61) (h1 : 1 ≤ n) (h2 : n ≤ 16) (w : World) :
    Calls Try.prog 88 #[.int .i64 (p : Int), .int .i64 (n : Int)] w fun e w' => ∃ (g cap : Nat) (u : Nat → Value), e = .returned (.slice (some ⟨g, 0, none⟩) p cap) ∧ RwU true w' w.heap.size w'.heap.size g 0 cap p u (fun _ => phiN n) (fun _ _ => 0) ∧ Below w.heap.size w w' := by
  have hphi := phi_le12 n (by omega) h1
  obtain ⟨L, hL⟩ : ∃ L, phiN n = L := ⟨_, rfl⟩
  rw [hL] at hphi
  have HL := Lib.hid hL
  have hmk := run_make_row' (P := Try.prog) 31 2 (.int .i64 0) 8 Try.underlying31 Try.info2 rfl .i64 .i64 L (by omega) (by omega)
  have m0 := RwG.start w (fun _ => .slice none 0 0) (fun _ => L) (fun _ _ => 0)
  have HM := Lib.hid m0; clear m0
  clear hL
  go_enter Try.func88, Try.ntmps88
  go_wp2
  go_loopw [5, 6] (fun s5 s6 wr => ∃ (x g cap top : Nat) (u : Nat → Value), x ≤ p ∧ s5 = .slice (some ⟨g, 0, none⟩) x cap ∧ s6 = .int .i64 x ∧ RwG wr w.heap.size top g cap x u (fun _ => L) (fun _ _ => 0) ∧ Below w.heap.size w wr) (fun _ s6 _ => p - (intOf s6).toNat)
  case atStart => exact ⟨0, _, _, _, _, Nat.zero_le _, rfl, rfl, HM.out, (Below.refl _ _).alloc (Nat.le_refl _) _⟩
  case round =>
    clear HM
    obtain ⟨x, g, cap1, top, u, hx, rfl, rfl, hmat, hb⟩ := hrel
    have HM := Lib.hid hmat; clear hmat
    have hblk := HM.out.blk
    by_cases hlt : x < p
    · go_wp2_with fail
      refine (l01Phi_nat n _ (by omega)).mono ?_
      rintro e w' ⟨rfl, rfl⟩
      rw [HL.out]
      go_wp2_with (
          (at_builtin; refine wpList_pushS rfl (.tmp 13) (.tmp 17) rfl rfl w.heap.size g cap1 x u rfl (((HM.out.2.2.2.1).alloc _).alloc _) (wr.heap.size + 1) (hd wr.heap.size L) rfl rfl (by simpa using heap_alloc_new (wr.alloc (.cells (madeCells #[.int .i64 0] L) 2)) (.cells #[hd wr.heap.size L] 31)) (by omega) ?_; intro gA kA wA rowA grA orA ltA
           have q0 := Sl.made wr (madeCells #[.int .i64 0] L) 2 L L (fun _ => 0) (Nat.le_refl _) (by unfold maxLen; omega) (fun j hj => by simp [inR]) (fun j hj => by simp [madeCells_at _ _ _ hj])
           have mA := RwG.push (HM.out.keep ((Below.refl _ _).alloc (Nat.le_refl _) (.cells (madeCells #[.int .i64 0] L) 2))) q0 (by omega) rowA grA orA ltA
           have bA := ((hb.alloc hb.size (.cells (madeCells #[.int .i64 0] L) 2)).alloc (by have := hb.size; simp; omega) (.cells #[hd wr.heap.size L] 31)).trans ((Frame.ofGrown grA).below hblk.1 (by have := hb.size; simp; omega))
           have MA := Lib.hid mA; have BA := Lib.hid bA
           clear mA bA q0 rowA HM))
      go_roundw
      case rel => exact ⟨x + 1, gA, kA, _, _, by omega, rfl, by go_num, MA.out.congr (fun i hi => by split <;> rfl) (fun i j hi hj => by split <;> rfl), BA.out⟩
      case measure => simp [intOf]; omega
    · obtain rfl : x = p := by omega
      go_wp2
      go_ret
      have hc := HM.out.caps
      refine ⟨_, _, u, rfl, ?_, hb⟩
      rw [HL.out]
      exact (HM.out.rwU hc.1 hc.2).wide (Nat.le_refl _) hblk.2.2 (Nat.le_refl _)

section
variable {o : Bool} {lo hi : Nat} {V : Value} {m L : Nat} {ln : Nat → Nat} {F R : Nat → Nat → Int}
set_option maxRecDepth 100000 in
set_option maxHeartbeats 4000000 in
theorem l05Normal_any (p n : Int) (w : World) (hs : Rw o w lo hi V m (fun _ => L) R) (hm0 : 0 < m) (hm : m ≤ 61) (hL : L ≤ 12) (hbd : ∀ i j, i < m → j < L → inR (R i j - R 0 j)) :
    Calls Try.prog 90 #[.int .i64 p, .int .i64 n, V] w fun e w' => ∃ a cap, e = .returned (.agg #[.int .i64 p, .int .i64 n, .slice a m cap]) ∧ Rw true w' w.heap.size w'.heap.size (.slice a m cap) m (fun _ => L) (fun i j => R i j - R 0 j) ∧ Below w.heap.size w w' := by
  obtain ⟨g0, off0, cap0, u0, rfl, hr0⟩ := hs.at hm0
  have hh := hs.size
  have HBD := Lib.hid hbd; clear hbd
  have st0 := ((StR.start w).addRw ⟨o, lo, hi, .slice (some ⟨g0, off0, none⟩) m cap0, m, fun _ => L, R⟩ hs).boxNew3 (.int .i64 0) (.int .i64 0) (.slice none 0 0) 27
  replace st0 := (st0.alloc (.cells #[] 31)).boxNew3 (.int .i64 p) (.int .i64 n) (.slice (some ⟨w.heap.size + 1, 0, none⟩) 0 0) 27
  simp only [World.size_alloc] at st0
  have m0 := (RwG.start (w.alloc (.cells #[.int .i64 0, .int .i64 0, .slice none 0 0] 27)) (fun _ => .slice none 0 0) (fun _ => L) (fun i j => R i j - R 0 j)).keep ((Below.refl _ _).alloc (Nat.le_refl _) (.cells #[.int .i64 p, .int .i64 n, .slice (some ⟨w.heap.size + 1, 0, none⟩) 0 0] 27))
  simp only [World.size_alloc] at m0
  have HS := Lib.hid st0; have HM := Lib.hid m0
  have HU := Lib.hid hr0
  clear st0 m0 hs hr0
  go_enter Try.func90, Try.ntmps90
  go_wp2
  go_loopw [8] (fun s8 wr => ∃ (i g cap top : Nat) (u : Nat → Value), i ≤ m ∧ s8 = .int .i64 i ∧ g ≠ w.heap.size + 1 + 1 ∧ (∀ y, y < i → OffB (w.heap.size + 1 + 1) (u y)) ∧ w.heap.size + 1 + 1 + 1 ≤ wr.heap.size ∧ RwG wr (w.heap.size + 1) top g cap i u (fun _ => L) (fun i j => R i j - R 0 j) ∧
      StR w wr [(w.heap.size + 1 + 1, [.int .i64 p, .int .i64 n, .slice (some ⟨g, 0, none⟩) i cap]), (w.heap.size, [.int .i64 0, .int .i64 0, .slice none 0 0])] [] [⟨o, lo, hi, .slice (some ⟨g0, off0, none⟩) m cap0, m, fun _ => L, R⟩]) (fun s8 _ => m - (intOf s8).toNat)
  case atStart => exact ⟨0, _, _, _, _, Nat.zero_le _, rfl, by omega, fun y hy => absurd hy (Nat.not_lt_zero _), by simp, HM.out, HS.out⟩
  case round =>
    clear HM HS
    obtain ⟨i, g, cap1, top, u, hi', rfl, hgb, hoff, hsz, hmat, hst⟩ := hrel
    have HM := Lib.hid hmat; have HT := Lib.hid hst; have HOF := Lib.hid hoff; clear hmat hst hoff
    by_cases hlt : i < m
    · obtain ⟨B2, hB2⟩ : ∃ B2, wr.heap.size = B2 := ⟨_, rfl⟩
      have row0 := Row.made wr wr.heap.size (fun j => R i j - R 0 j) (Nat.le_refl _)
      rw [hB2] at row0
      have HR0 := Lib.hid row0; clear row0
      have HM1 := Lib.hid (HM.out.keep ((Below.refl _ _).alloc (Nat.le_refl _) (.cells #[] 2)))
      have HT1 := Lib.hid (HT.out.alloc (.cells #[] 2))
      have hblk := HM.out.blk
      rw [hB2] at hblk hsz
      clear HM HT
      go_wp2
      go_loopw [9, 10] (fun s9 s10 wq => ∃ (q gr kr : Nat), q ≤ L ∧ s9 = .slice (some ⟨gr, 0, none⟩) q kr ∧ s10 = .int .i64 q ∧ B2 ≤ wq.heap.size ∧ Row wq B2 gr kr q (fun j => R i j - R 0 j) ∧ RwG wq (w.heap.size + 1) top g cap1 i u (fun _ => L) (fun i j => R i j - R 0 j) ∧
          StR w wq [(w.heap.size + 1 + 1, [.int .i64 p, .int .i64 n, .slice (some ⟨g, 0, none⟩) i cap1]), (w.heap.size, [.int .i64 0, .int .i64 0, .slice none 0 0])] [] [⟨o, lo, hi, .slice (some ⟨g0, off0, none⟩) m cap0, m, fun _ => L, R⟩]) (fun _ s10 _ => L - (intOf s10).toNat)
      case atStart => exact ⟨0, _, _, Nat.zero_le _, rfl, rfl, by simp; omega, HR0.out, HM1.out, HT1.out⟩
      case round =>
        clear HR0 HM1 HT1
        obtain ⟨q, gr, kr, hq, rfl, rfl, hsq, hrow, hmat, hst⟩ := hrel
        have HM := Lib.hid hmat; have HT := Lib.hid hst; have HR := Lib.hid hrow; clear hmat hst hrow
        have hrb := HR.out.lt
        have hU := HU.out.keep HT.out.1 hh
        have ci := hU.head hlt
        have cz := hU.head hm0
        rw [Nat.add_zero] at cz
        by_cases hlq : q < L
        · obtain ⟨g1, off1, c1, hv1, _, _, _, _, hc1, _⟩ := (hU.row hlt).at (show 0 < L by omega)
          obtain ⟨g2, off2, c2, hv2, _, _, _, _, hc2, _⟩ := (hU.row hm0).at (show 0 < L by omega)
          rw [hv1] at ci
          rw [hv2] at cz
          have d1 := hc1 q hlq
          have d2 := hc2 q hlq
          have hlq' : (q : Int) < (L : Int) := by omega
          have hw0 := HBD.out i q hlt hlq
          have HW := Lib.hid (show IntKind.i64.wrap (R i q - R 0 q) = R i q - R 0 q from IntWalk.i64_in _ (by unfold inR at hw0; omega))
          have hmI : (0 : Int) < (m : Int) := by omega
          clear hc1 hc2 hv1 hv2 hU hw0
          go_wp2
          go_region_law (first
            | (refine step_pushJ rfl (.tmp 31) (.tmp 46) rfl B2 q (.slice (some ⟨gr, 0, none⟩) q kr) (fun j => R i j - R 0 j) rfl (World.ownsRow.alloc HR.out _) (by simp only [World.size_alloc, World.size_drew]; omega) wr.heap.size (IntKind.i64.wrap (R i q - R 0 q)) rfl (heap_alloc_new wr _) (by omega) ?_; intro gA kA wA rowA grA orA ltA
               have frA := Frame.ofGrown (row := gr) grA
               have stA := Lib.hid ((HT.out.alloc (.cells #[.int .i64 (IntKind.i64.wrap (R i q - R 0 q))] 2)).drew.write frA (by omega) (by intro b hb; simp only [List.mem_cons, List.not_mem_nil, or_false] at hb; rcases hb with rfl | rfl <;> dsimp only <;> omega) (by intro s hs'; cases hs') (by intro s hs'; simp only [List.mem_cons, List.not_mem_nil, or_false] at hs'; rcases hs' with rfl <;> dsimp only <;> omega))
               have mA := Lib.hid ((HM.out.keep ((Below.refl _ _).alloc (Nat.le_refl _) (.cells #[.int .i64 (IntKind.i64.wrap (R i q - R 0 q))] 2)).drew).keepF frA (.inr (by omega)))
               have zA := grA.size
               simp only [World.size_alloc, World.size_drew] at zA
               have RA := Lib.hid (rowA.congr (f' := fun j => R i j - R 0 j) (fun j hj => by
                 by_cases e : j < q
                 · rw [if_pos e]
                 · rw [if_neg e, show j = q by omega, HW.out]))
               clear rowA grA frA orA))
          all_goals
            go_wp2
            go_roundw
            case rel => exact ⟨q + 1, _, _, by omega, rfl, by go_num, by omega, RA.out, mA.out, stA.out⟩
            case measure => simp [intOf]; omega
        · obtain rfl : q = L := by omega
          obtain ⟨a1, k1, hv1⟩ := (hU.row hlt).shape
          rw [hv1] at ci
          obtain ⟨e0, e1, e2⟩ := (HT.out.box 0 (w.heap.size + 1 + 1, [.int .i64 p, .int .i64 n, .slice (some ⟨g, 0, none⟩) i cap1]) rfl).c3
          have ez := (HT.out.box 0 (w.heap.size + 1 + 1, [.int .i64 p, .int .i64 n, .slice (some ⟨g, 0, none⟩) i cap1]) rfl).2.2
          dsimp only at ez
          have q0 := Lib.hid (HR.out.sl (fun j hj => HBD.out i j hlt hj) (by unfold maxLen; omega))
          clear hU hv1 cz
          go_wp2_with (
            (at_builtin; refine wpList_pushS rfl (.tmp 49) (.tmp 51) rfl rfl (w.heap.size + 1) g cap1 i u rfl ((HM.out.2.2.2.1).alloc _) wr.heap.size (.slice (some ⟨gr, 0, none⟩) q kr) rfl rfl (by simpa using heap_alloc_new wr (.cells #[.slice (some ⟨gr, 0, none⟩) q kr] 31)) (by omega) ?_; intro gA kA wA rowA grA orA ltA
             have mA := HM.out.push q0.out (by omega) rowA grA orA ltA
             have stA := (HT.out.alloc (.cells #[.slice (some ⟨gr, 0, none⟩) q kr] 31)).write (Frame.ofGrown grA) (by omega) (by intro b hb; simp only [List.mem_cons, List.not_mem_nil, or_false] at hb; rcases hb with rfl | rfl <;> dsimp only <;> omega) (by intro s hs'; cases hs') (by intro s hs'; simp only [List.mem_cons, List.not_mem_nil, or_false] at hs'; rcases hs' with rfl <;> dsimp only <;> omega)
             have zA := grA.size
             simp only [World.size_alloc] at zA orA
             have hgA : gA ≠ w.heap.size + 1 + 1 := by omega
             have oA := Lib.hid (show ∀ y, y < i + 1 → OffB (w.heap.size + 1 + 1) (if y < i then u y else .slice (some ⟨gr, 0, none⟩) q kr) from fun y hy => by
               by_cases e : y < i
               · rw [if_pos e]; exact HOF.out y e
               · rw [if_neg e]; intro a' n' c' ea; cases ea; right; show gr ≠ _; omega)
             obtain ⟨x0, x1, x2⟩ := (stA.box 0 (w.heap.size + 1 + 1, [.int .i64 p, .int .i64 n, .slice (some ⟨g, 0, none⟩) i cap1]) rfl).c3
             have xz := (stA.box 0 (w.heap.size + 1 + 1, [.int .i64 p, .int .i64 n, .slice (some ⟨g, 0, none⟩) i cap1]) rfl).2.2
             dsimp only at xz
             have MA := Lib.hid (mA.setOff (k := 2) (x := .slice (some ⟨gA, 0, none⟩) (i + 1) kA) hgA oA.out)
             have STA := Lib.hid (stA.boxSetC2 (z := .slice (some ⟨gA, 0, none⟩) (i + 1) kA) (by omega) (by intro b hb; simp only [List.mem_cons, List.not_mem_nil, or_false] at hb; rcases hb with rfl <;> dsimp only <;> omega) (by intro s hs'; cases hs') (by intro s hs'; simp only [List.mem_cons, List.not_mem_nil, or_false] at hs'; rcases hs' with rfl <;> dsimp only <;> omega))
             clear mA stA q0 rowA HM HT HR grA))
          go_roundw
          case rel =>
            refine ⟨i + 1, gA, kA, wA.heap.size, fun y => if y < i then u y else .slice (some ⟨gr, 0, none⟩) q kr, by omega, by go_num, hgA, oA.out, by simp; omega, ?_, STA.out⟩
            exact MA.out.congr (fun y hy => by split <;> rfl) (fun y j hy hj => by
              by_cases e : y < i
              · rw [if_pos e]
              · rw [if_neg e, show y = i by omega])
          case measure => simp [intOf]; omega
    · obtain rfl : i = m := by omega
      obtain ⟨e0, e1, e2⟩ := (HT.out.box 0 (w.heap.size + 1 + 1, [.int .i64 p, .int .i64 n, .slice (some ⟨g, 0, none⟩) i cap1]) rfl).c3
      obtain ⟨f0, f1, f2⟩ := (HT.out.box 1 (w.heap.size, [.int .i64 0, .int .i64 0, .slice none 0 0]) rfl).c3
      have fz := (HT.out.box 1 (w.heap.size, [.int .i64 0, .int .i64 0, .slice none 0 0]) rfl).2.2
      dsimp only at fz
      have BB := HT.out.1
      have hblk := HM.out.blk
      have hc := HM.out.caps
      have HX := Lib.hid ((HM.out.rwU hc.1 hc.2).wide (Nat.le_refl _) hblk.2.2 (Nat.le_refl _)).rw
      clear HT
      go_wp2
      refine bodyPost_ret (v := .agg #[.int .i64 p, .int .i64 n, .slice (some ⟨g, 0, none⟩) i cap1]) (by simp [results, Try.results90, go_sem, f0, f1, f2]) rfl ?_
      refine ⟨_, _, rfl, ?_, by go_grown⟩
      exact (((HX.out.setOther (.inl (by show w.heap.size < _; omega)) _).setOther (.inl (by show w.heap.size < _; omega)) _).setOther (.inl (by show w.heap.size < _; omega)) _).wide (by omega) (by simp) (Nat.le_refl _)
end
end Go.Proofs.Ythmhjnholhiohaa
