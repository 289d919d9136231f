/- AddCyclos of the model. -/
import Derived.Test.YtnhpodlcgkgpbaaAdd
import Derived.Test.YtnhpodlcgkgpbaaOwn
import Derived.Deep.DeepCutAuto
namespace Go.Proofs.Ytnhpodlcgkgpbaa
open Go.RowKit Go.ChangeShapes Go.Sort
set_option linter.unusedVariables false
set_option linter.unusedSimpArgs false

/-- The list of the sum, as far as m places have been added. -/
def addQ (k : Int) (f g : Nat → Int) (m : Nat) : Nat → Int := fun j => if j < m then addF k f g j else f j
theorem addQ_succ (k : Int) (f g : Nat → Int) (m : Nat) : addQ k f g (m + 1) = fun j => if j = m then f m + k * g m else addQ k f g m j := by
  funext j
  unfold addQ addF
  by_cases e : j = m
  · subst e; simp
  · rw [if_neg e]
    by_cases e2 : j < m
    · rw [if_pos e2, if_pos (by omega)]
    · rw [if_neg e2, if_neg (by omega)]

theorem cell_set2 {w : World} {b g i j k : Nat} {u v x : Value} (h : w.cell? ⟨g, k, none⟩ = some x) (hb : g ≠ b) : ((w.setCell ⟨b, i, none⟩ u).setCell ⟨b, j, none⟩ v).cell? ⟨g, k, none⟩ = some x :=
  (World.cell?_setCell_other _ _ _ _ (fun e => hb (by injection e with e1; exact e1.symm))).trans ((World.cell?_setCell_other _ _ _ _ (fun e => hb (by injection e with e1; exact e1.symm))).trans h)
theorem Box.set2 {w : World} {b : Nat} {v0 v1 u0 u1 : Value} (h : Box w b [v0, v1]) : Box ((w.setCell ⟨b, 0, none⟩ u0).setCell ⟨b, 1, none⟩ u1) b [u0, u1] := by
  obtain ⟨h1, h2, h3⟩ := h
  have c0 := h2 0 _ rfl
  have c1 := h2 1 _ rfl
  refine ⟨by simpa using h1, ?_, ?_⟩
  · intro j v hj
    rcases j with _ | _ | j
    · simp only [List.getElem?_cons_zero, Option.some.injEq] at hj
      subst hj
      rw [setCell_ne _ _ _ _ _ (by decide)]
      exact World.cell?_setCell_same _ _ _ c0
    · simp only [List.getElem?_cons_succ, List.getElem?_cons_zero, Option.some.injEq] at hj
      subst hj
      exact World.cell?_setCell_same _ _ _ (by rw [setCell_ne _ _ _ _ _ (by decide)]; exact c1)
    · simp at hj
  · intro j
    simpa using h3 j

theorem St.tail {W w : World} {bs : List (Nat × List Value)} {ss : List SlF} {s : SlF} (h : St W w bs (s :: ss)) : St W w bs ss := ⟨h.1, h.2.1, fun x hx => h.2.2 x (List.mem_cons_of_mem _ hx)⟩
theorem St.boxNew {W w : World} {bs : List (Nat × List Value)} {ss : List SlF} (h : St W w bs ss) (v0 v1 : Value) (t : TypeId) : St W (w.alloc (.cells #[v0, v1] t)) ((w.heap.size, [v0, v1]) :: bs) ss :=
  (h.alloc _).addBox _ _ (Box.made _ _ _ _ (fun j v h => by simpa using h))
theorem St.boxSet {W w : World} {bs : List (Nat × List Value)} {ss : List SlF} {b : Nat} {v0 v1 u0 u1 : Value} (h : St W w ((b, [v0, v1]) :: bs) ss) (hb : W.heap.size ≤ b) (hbs : ∀ x ∈ bs, x.1 < b ∨ b + 1 ≤ x.1) (hss : ∀ s ∈ ss, s.hi ≤ b ∨ b + 1 ≤ s.lo) :
    St W ((w.setCell ⟨b, 0, none⟩ u0).setCell ⟨b, 1, none⟩ u1) ((b, [u0, u1]) :: bs) ss := by
  have hbx := (h.box 0 _ rfl).set2 (u0 := u0) (u1 := u1)
  have h2 : St W w bs ss := ⟨h.1, fun x hx => h.2.1 x (List.mem_cons_of_mem _ hx), h.2.2⟩
  exact (h2.write (lo := b) (hi := b + 1) (((Frame.refl b (b + 1) w).setCell (Nat.le_refl _) (Nat.lt_succ_self _) _).setCell (Nat.le_refl _) (Nat.lt_succ_self _) _) hb hbs hss).addBox _ _ hbx

section
variable {o o' : Bool} {lo hi lo' hi' L : Nat} {v v' : Value} {f g : Nat → Int}
set_option maxRecDepth 100000 in
set_option maxHeartbeats 1000000 in
theorem l01Plus_any (x k : Int) (w : World) (hs : Sl o w lo hi v L f) (ht : Sl o' w lo' hi' v' L g) (hk1 : -1000 ≤ k) (hk2 : k ≤ 1000) (hf : Within f L 1000000000) (hg : Within g L 1000000000) (hL : L ≤ 24) :
    Calls Try.prog 145 #[.agg #[.int .i64 x, v], .agg #[.int .i64 x, v'], .int .i64 k] w fun e w' => ∃ a' cap', e = .returned (.agg #[.int .i64 x, .slice a' L cap']) ∧ Sl true w' w.heap.size w'.heap.size (.slice a' L cap') L (addF k f g) ∧ Below w.heap.size w w' := by
  have hhs := hs.size
  have hht := ht.size
  obtain ⟨a, cap, rfl⟩ := hs.shape
  obtain ⟨a', cap', rfl⟩ := ht.shape
  have st0 := (((((St.start w).addSl ⟨o, lo, hi, .slice a L cap, L, f⟩ hs).addSl ⟨o', lo', hi', .slice a' L cap', L, g⟩ ht).alloc (.cells #[.int .i64 x, .slice a L cap] 24)).addBox w.heap.size [.int .i64 x, .slice a L cap] (Box.made _ _ _ _ (fun j v h => by simpa using h)))
  replace st0 := (st0.alloc (.cells #[.int .i64 x, .slice a' L cap'] 24)).addBox _ [.int .i64 x, .slice a' L cap'] (Box.made _ _ _ _ (fun j v h => by simpa using h))
  replace st0 := (st0.alloc (.cells #[.int .i64 0, .slice none 0 0] 24)).addBox _ [.int .i64 0, .slice none 0 0] (Box.made _ _ _ _ (fun j v h => by simpa using h))
  simp only [World.size_alloc] at st0
  clear hs ht
  have HF := Lib.hid hf
  have HG := Lib.hid hg
  clear hf hg
  obtain ⟨x0, x1⟩ := (st0.box 2 (w.heap.size, [.int .i64 x, .slice a L cap]) rfl).cell2
  go_enter Try.func145, Try.ntmps145
  go_wp2
  go_cut [7] (fun s7 wx => ∃ b lo1 hi1 a1 k1, s7 = .pointer (some ⟨b, 0, none⟩) ∧ Sl true wx lo1 hi1 (.slice a1 L k1) L f ∧ (b < lo1 ∨ hi1 ≤ b) ∧ w.heap.size + 1 + 1 + 1 ≤ lo1 ∧ w.heap.size + 1 + 1 + 1 ≤ b ∧ b < wx.heap.size ∧
    St w wx ((b, [.int .i64 x, .slice a1 L k1]) :: [(w.heap.size + 1 + 1, [.int .i64 0, .slice none 0 0]), (w.heap.size + 1, [.int .i64 x, .slice a' L cap']), (w.heap.size, [.int .i64 x, .slice a L cap])]) [⟨o', lo', hi', .slice a' L cap', L, g⟩, ⟨o, lo, hi, .slice a L cap, L, f⟩])
  case first =>
    go_region_held3 (fun w' => w'.cell? ⟨w.heap.size, 0, none⟩ = some (.int .i64 x) ∧ w'.cell? ⟨w.heap.size, 1, none⟩ = some (.slice a L cap))
      (first | exact ⟨x0, x1⟩ | exact ⟨cell_later b6 x0, cell_later b6 x1⟩ | exact ⟨cell_later ((Below.refl _ _).alloc (Nat.le_refl _) _) (cell_later b6 x0), cell_later ((Below.refl _ _).alloc (Nat.le_refl _) _) (cell_later b6 x1)⟩ | exact ⟨cell_later ((Below.refl _ _).alloc (Nat.le_refl _) _) x0, cell_later ((Below.refl _ _).alloc (Nat.le_refl _) _) x1⟩ | exact ⟨cell_later b6 (cell_later (((Below.refl _ _).alloc (Nat.le_refl _) _).drew) x0), cell_later b6 (cell_later (((Below.refl _ _).alloc (Nat.le_refl _) _).drew) x1)⟩ | exact ⟨cell_set2 (cell_later b6 (cell_later (((Below.refl _ _).alloc (Nat.le_refl _) _).drew) x0)) (by omega), cell_set2 (cell_later b6 (cell_later (((Below.refl _ _).alloc (Nat.le_refl _) _).drew) x1)) (by omega)⟩ | go_keep)
      (first
        | (go_at_call 187; refine (l01Own_any _ (by first | exact st0.drew.sl 1 ⟨o, lo, hi, .slice a L cap, L, f⟩ rfl | exact ((st0.alloc _).drew).sl 1 ⟨o, lo, hi, .slice a L cap, L, f⟩ rfl) (Nat.le_trans hL (by decide))).mono ?_; rintro e w6 ⟨a6, k6, rfl, s6, b6⟩
           try (have stb := ((st0.alloc (.cells #[.int .i64 0, .slice none 0 0] 24)).addBox _ [.int .i64 0, .slice none 0 0] (Box.made _ _ _ _ (fun j v h => by simpa using h))).drew.keep b6
                obtain ⟨o0, o1⟩ := (stb.box 0 _ rfl).cell2
                have oz := (stb.box 0 _ rfl).2.2
                dsimp only at oz
                simp only [World.size_alloc] at o0 o1 oz)))
    all_goals
      go_wp2_with fail
      go_meet
      have hz6 := b6.size
      simp only [World.size_drew, World.size_alloc] at hz6 s6
      first
        | exact ⟨w6.heap.size, _, _, a6, k6, rfl, s6.alloc _, .inr (Nat.le_refl _), Nat.le_refl _, by omega, by simp, (st0.drew.keep b6).boxNew _ _ _⟩
        | (have stb := ((st0.boxNew (.int .i64 0) (.slice none 0 0) 24).drew.keep b6).boxSet (u0 := .int .i64 x) (u1 := .slice a6 L k6) (by simp only [World.size_alloc]; omega)
             (by simp only [World.size_alloc]; intro b hb; simp only [List.mem_cons, List.not_mem_nil, or_false] at hb; rcases hb with rfl | rfl | rfl <;> dsimp only <;> omega)
             (by simp only [World.size_alloc]; intro s hs'; simp only [List.mem_cons, List.not_mem_nil, or_false] at hs'; rcases hs' with rfl | rfl <;> dsimp only <;> omega)
           simp only [World.size_alloc] at stb
           exact ⟨_, _, _, a6, k6, rfl, (s6.setOther (.inl (Nat.lt_succ_self _)) _).setOther (.inl (Nat.lt_succ_self _)) _, .inl (Nat.lt_succ_self _), by omega, Nat.le_refl _, by simp only [World.size_setCell]; omega, stb⟩)
  case rest =>
    obtain ⟨b, lo1, hi1, a1, k1, rfl, hown, hd, hb1, hb2, hb3, hst⟩ := hcut
    have HO0 := Lib.hid hown
    have HT0 := Lib.hid hst
    clear hown hst x0 x1 st0
    go_wp2
    go_loopw [8] (fun s8 wr => ∃ q : Nat, q ≤ L ∧ s8 = .int .i64 q ∧ Sl true wr lo1 hi1 (.slice a1 L k1) L (addQ k f g q) ∧
      St w wr ((b, [.int .i64 x, .slice a1 L k1]) :: [(w.heap.size + 1 + 1, [.int .i64 0, .slice none 0 0]), (w.heap.size + 1, [.int .i64 x, .slice a' L cap']), (w.heap.size, [.int .i64 x, .slice a L cap])]) [⟨o', lo', hi', .slice a' L cap', L, g⟩, ⟨o, lo, hi, .slice a L cap, L, f⟩]) (fun s8 _ => L - (intOf s8).toNat)
    case atStart => exact ⟨0, Nat.zero_le _, rfl, HO0.out, HT0.out⟩
    case round =>
      clear HO0 HT0
      obtain ⟨q, hq, rfl, hown, hst⟩ := hrel
      have HO := Lib.hid hown; clear hown
      have HT := Lib.hid hst; clear hst
      obtain ⟨y0, y1⟩ := (HT.out.box 2 (w.heap.size + 1, [.int .i64 x, .slice a' L cap']) rfl).cell2
      obtain ⟨p0, p1⟩ := (HT.out.box 0 (b, [.int .i64 x, .slice a1 L k1]) rfl).cell2
      have hz := HO.out.size
      by_cases hlt : q < L
      · have qa := HT.out.sl 0 ⟨o', lo', hi', .slice a' L cap', L, g⟩ rfl
        dsimp only at qa
        obtain ⟨bb, off, c1, hv, _, _, _, _, hc, _⟩ := qa.at (by omega)
        obtain ⟨rfl, rfl⟩ : a' = some ⟨bb, off, none⟩ ∧ cap' = c1 := by cases hv; exact ⟨rfl, rfl⟩
        have hck := hc q hlt
        obtain ⟨hg1, hg2⟩ := HG.out q hlt
        obtain ⟨hf1, hf2⟩ := HF.out q hlt
        clear hv hc qa
        obtain ⟨hm1, hm2⟩ := mul_part hk1 hk2 hg1 hg2
        have HW2 := Lib.hid (addQ_succ k f g q)
        obtain ⟨b2, off2, c2, hv2, _⟩ := HO.out.at (by omega)
        obtain ⟨rfl, rfl⟩ : a1 = some ⟨b2, off2, none⟩ ∧ k1 = c2 := by cases hv2; exact ⟨rfl, rfl⟩
        clear hv2
        obtain ⟨hbl, hbh, _, hc2, hfz⟩ := HO.out.known (by omega)
        have hck2 := hc2 q hlt
        rw [show addQ k f g q q = f q from by unfold addQ; rw [if_neg (Nat.lt_irrefl _)]] at hck2
        have hfr := hfz rfl (off2 + q)
        clear hc2 hfz
        have hlt3 : (q : Int) < L := by omega
        have hwm : IntKind.i64.wrap (k * g q) = k * g q := IntWalk.i64_in _ (by omega)
        have hws : IntKind.i64.wrap (f q + k * g q) = f q + k * g q := IntWalk.i64_in _ (by omega)
        go_wp2
        go_region
        all_goals
          go_wp2
          go_roundw
          case rel =>
            refine ⟨q + 1, by omega, by go_num, ?_, ?_⟩
            · rw [HW2.out]
              refine ((HO.out.store (i := q) (by omega) (by unfold inR; omega))).drew.congr (fun j hj => ?_)
              by_cases e : j = q
              · subst e; simp
              · simp [e]
            · exact (HT.out.write (lo := lo1) (hi := hi1) ((Frame.refl lo1 hi1 wr).setCell hbl hbh _) (by omega) (by intro b hb; simp only [List.mem_cons, List.not_mem_nil, or_false] at hb; rcases hb with rfl | rfl | rfl | rfl <;> dsimp only <;> omega) (by intro s hs'; simp only [List.mem_cons, List.not_mem_nil, or_false] at hs'; rcases hs' with rfl | rfl <;> dsimp only <;> omega)).drew
          case measure => simp [intOf] <;> omega
      · obtain rfl : q = L := by omega
        obtain ⟨d0, d1⟩ := (HT.out.box 1 (w.heap.size + 1 + 1, [.int .i64 0, .slice none 0 0]) rfl).cell2
        have dz := (HT.out.box 1 (w.heap.size + 1 + 1, [.int .i64 0, .slice none 0 0]) rfl).2.2
        have BB := HT.out.1
        dsimp only at dz
        go_wp2
        refine bodyPost_ret (v := .agg #[.int .i64 x, .slice a1 q k1]) (by simp [results, Try.results145, go_sem, d0, d1]) rfl ?_
        refine ⟨_, _, rfl, ?_, by go_grown⟩
        exact (((HO.out.setOther (.inl (by show w.heap.size + 1 + 1 < _; omega)) _).setOther (.inl (by show w.heap.size + 1 + 1 < _; omega)) _).wide (by omega) (by simp; omega) (Nat.le_refl _)).congr (fun j hj => by unfold addQ; rw [if_pos hj])
end
end Go.Proofs.Ytnhpodlcgkgpbaa
