/- The different images of a number: differentImagesOf of the program. -/
import Derived.Test.YtdalahgfpbdilaaKeys
import Derived.Test.YtdalahgfpbdilaaDegS
import Derived.Maps.OwnIn
import Derived.Maps.OwnOps
import Derived.Maps.Views
namespace Go.Proofs.Ytdalahgfpbdilaa
open Go.RowKit Go.ChangeShapes Go.Sort Go.Maps Go.WideMaps
set_option linter.unusedVariables false
set_option linter.unusedSimpArgs false

theorem ownsMap_keepD {H : Type} {P : Program} {k : TypeId} {R : Value → Option (DataW H × List MemPlace)} {w w' : World} {b n : Nat} {D : DataW H} (h : w.ownsMap P k R b n D) (hb : Below w.heap.size w w') : w'.ownsMap P k R b n D := by
  have hlt := h.lt
  exact h.kept (row := none) ⟨hb.os, hb.tape, hb.output, hb.size, fun k hk _ => hb.block k hk⟩ (by simp)
theorem plainElem_bool_back {H : Type} {P : Program} {e : TypeId} (he : P.underlying e = some .bool) {v : Value} {b : Bool} {ps : List MemPlace} (h : plainElem (H := H) P e v = some (.lit (.bool b), ps)) : v = .bool b := by
  unfold plainElem at h
  rw [he] at h
  cases v <;> simp at h
  rw [h.1]
/-- m[k] of a map of truth values, at the operation. -/
theorem wpList_lookup_bool {H : Type} {P : Program} (w : World) {ops : Array Oper} {rest : List Oper} {o : Oper} {a : Act} {Q : Exit → Act → World → Prop}
    (hg : o.guard = none) (m x : Operand) (t : TypeId) (hop : o.op = Op.lookup t m x false)
    (k e : TypeId) (K : Keyed P k) (ht : P.underlying t = some (.map k e)) (he : P.underlying e = some .bool) (hz : (zeroValue e).run P w = .ok (.bool false) w) (b n : Nat) (D : DataW H)
    (hm : a.eval m = .map (some b)) (hown : w.ownsMap P k (plainElem P e) b n D) (key : Value) (kl : Lit) (hx : a.eval x = key) (hkey : keyOf P k key = some kl)
    (r : Bool) (hat : D.atKey kl (.lit (.bool false)) = .lit (.bool r)) (hK : wpList P ops Q rest (a.put o.dst (.bool r)) w) : wpList P ops Q (o :: rest) a w := by
  refine wpList_plain hg fun K' hK' => ?_
  obtain ⟨v, ps, hrun, hv⟩ := hown.lookup K ht hz (plainElem_bool he false) hkey
  rw [hat] at hv
  have e := plainElem_bool_back he hv
  subst e
  unfold Oper.wp
  simp [execOp, hop, hm, hx, hrun, Result.andThen]
  exact hK' _ _ hK
theorem Try.zero4 (w : World) : (zeroValue 4).run Try.prog w = .ok (.bool false) w := by kernel_rfl

/-- The places at which an image is there for the first time, among the first i. -/
def difs (n L : Nat) (f : Nat → Int) : Nat → List Nat
  | 0 => []
  | i + 1 => if knownB n L f i i then difs n L f i else difs n L f i ++ [i]
def difI (n L : Nat) (f : Nat → Int) (i j : Nat) : Nat := (difs n L f i).getD j 0
theorem difs_yes {n L : Nat} {f : Nat → Int} {i : Nat} (h : knownB n L f i i = false) : difs n L f (i + 1) = difs n L f i ++ [i] := by
  show (if _ then _ else _) = _
  rw [h]; rfl
theorem difs_no {n L : Nat} {f : Nat → Int} {i : Nat} (h : knownB n L f i i = true) : difs n L f (i + 1) = difs n L f i := by
  show (if _ then _ else _) = _
  rw [h]; rfl
theorem difs_len (n L : Nat) (f : Nat → Int) : ∀ i, (difs n L f i).length = degTo n L f i
  | 0 => rfl
  | i + 1 => by
    cases h : knownB n L f i i
    · rw [difs_yes h, degTo_yes h, List.length_append, difs_len n L f i]; rfl
    · rw [difs_no h, degTo_no h, difs_len n L f i]
theorem difI_old {n L : Nat} {f : Nat → Int} {i j : Nat} (h : knownB n L f i i = false) (hj : j < degTo n L f i) : difI n L f (i + 1) j = difI n L f i j := by
  unfold difI
  rw [difs_yes h, List.getD_eq_getElem?_getD, List.getD_eq_getElem?_getD, List.getElem?_append_left (by rw [difs_len]; exact hj)]
theorem difI_new {n L : Nat} {f : Nat → Int} {i : Nat} (h : knownB n L f i i = false) : difI n L f (i + 1) (degTo n L f i) = i := by
  unfold difI
  rw [difs_yes h, List.getD_eq_getElem?_getD, List.getElem?_append_right (by rw [difs_len]; exact Nat.le_refl _), difs_len, Nat.sub_self]
  rfl
theorem difI_same {n L : Nat} {f : Nat → Int} {i j : Nat} (h : knownB n L f i i = true) : difI n L f (i + 1) j = difI n L f i j := by
  unfold difI; rw [difs_no h]

/-- Whether F is one of the first q images. -/
def kA (n L : Nat) (f : Nat → Int) (F : Nat → Int) : Nat → Bool
  | 0 => false
  | q + 1 => kA n L f F q || eqB 12 (imA n L f q) F
theorem eqB_imA {n L : Nat} {f : Nat → Int} {q i : Nat} (hp : phiN n ≤ 12) : eqB 12 (imA n L f q) (imA n L f i) = eqB (phiN n) (im n L f q) (im n L f i) := by
  rw [Bool.eq_iff_iff, eqB_iff, eqB_iff]
  unfold imA cut
  constructor
  · intro h j hj
    have := h j (by omega)
    rw [if_pos hj, if_pos hj] at this
    exact this
  · intro h j hj
    split
    · exact h j (by assumption)
    · rfl
theorem kA_im {n L : Nat} {f : Nat → Int} {i : Nat} (hp : phiN n ≤ 12) : ∀ q, kA n L f (imA n L f i) q = knownB n L f i q
  | 0 => rfl
  | q + 1 => by show (_ || _) = (_ || _); rw [kA_im hp q, eqB_imA hp]
theorem kA_congr {n L : Nat} {f F G : Nat → Int} (h : ∀ j, j < 12 → F j = G j) : ∀ q, kA n L f F q = kA n L f G q
  | 0 => rfl
  | q + 1 => by
    show (_ || _) = (_ || _)
    rw [kA_congr h q]
    congr 1
    rw [Bool.eq_iff_iff, eqB_iff, eqB_iff]
    exact ⟨fun e j hj => (e j hj).trans (h j hj), fun e j hj => (e j hj).trans (h j hj).symm⟩
theorem arrV_congr {F G : Nat → Int} (h : ∀ j, j < 12 → F j = G j) : arrV F = arrV G := by
  unfold arrV
  rw [h 0 (by omega), h 1 (by omega), h 2 (by omega), h 3 (by omega), h 4 (by omega), h 5 (by omega), h 6 (by omega), h 7 (by omega), h 8 (by omega), h 9 (by omega), h 10 (by omega), h 11 (by omega)]
theorem imA_inR {n L : Nat} {f : Nat → Int} {k : Nat} : ∀ j, j < 12 → inR (imA n L f k j) :=
  cut_inR _ _ 12 (fun j hj => redP_inR n _ (fun j _ => foldP_inR _ _ _ _) j (by omega))

/-- What the map holds after i images. -/
def Seen (n L : Nat) (f : Nat → Int) (i : Nat) (D : DataW Unit) : Prop :=
  IsMap D ∧ ∀ (F : Nat → Int) (kl : Lit), keyOf Try.prog 101 (arrV F) = some kl → D.atKey kl (.lit (.bool false)) = .lit (.bool (kA n L f F i))
theorem seen_none (n L : Nat) (f : Nat → Int) : Seen n L f 0 (.map []) := ⟨isMap_empty, fun F kl h => rfl⟩
theorem seen_put {n L : Nat} {f : Nat → Int} {i : Nat} {D : DataW Unit} {ki : Lit} (h : Seen n L f i D) (hk : keyOf Try.prog 101 (arrV (imA n L f i)) = some ki) : Seen n L f (i + 1) (D.put ki (.lit (.bool true))) := by
  have hs : WideAt.IsKeyLit ki := by
    obtain ⟨s, e⟩ := keys_law.str hk
    rw [e]
    exact trivial
  refine ⟨h.1.put _ _, fun F kl hF => ?_⟩
  by_cases e : kl = ki
  · subst e
    rw [atKey_put_same h.1 hs]
    have h2 := arrV_inj (keys_law.inj hF hk)
    have h3 : eqB 12 (imA n L f i) F = true := eqB_iff.2 (fun j hj => (h2 j hj).symm)
    show _ = DataW.lit (.bool (_ || _))
    rw [h3, Bool.or_true]
  · rw [atKey_put_other e, h.2 F kl hF]
    have h3 : eqB 12 (imA n L f i) F = false := by
      cases h4 : eqB 12 (imA n L f i) F
      · rfl
      · have h5 := arrV_congr (eqB_iff.1 h4)
        rw [h5, hF] at hk
        exact absurd (Option.some.inj hk) e
    show _ = DataW.lit (.bool (_ || _))
    rw [h3, Bool.or_false]
theorem seen_skip {n L : Nat} {f : Nat → Int} {i : Nat} {D : DataW Unit} (hp : phiN n ≤ 12) (h : Seen n L f i D) (hk : knownB n L f i i = true) : Seen n L f (i + 1) D := by
  refine ⟨h.1, fun F kl hF => ?_⟩
  rw [h.2 F kl hF]
  show _ = DataW.lit (.bool (_ || _))
  cases h3 : eqB 12 (imA n L f i) F
  · rw [Bool.or_false]
  · have h4 := kA_congr (n := n) (L := L) (f := f) (eqB_iff.1 h3) i
    rw [kA_im hp, hk] at h4
    rw [← h4]; rfl

section
variable {o : Bool} {lo hi L : Nat} {v : Value} {f : Nat → Int}
set_option maxRecDepth 100000 in
set_option maxHeartbeats 2000000 in
theorem differentImagesOf_any (n : Nat) (h1 : 1 ≤ n) (h2 : n ≤ 16) (w : World) (hs : Sl o w lo hi v L f) (hL : L ≤ 24) :
    Calls Try.prog 128 #[.agg #[.int .i64 (n : Int), v]] w fun e w' => ∃ (g cap : Nat), e = .returned (.slice (some ⟨g, 0, none⟩) (degTo n L f (phiN n)) cap) ∧ RowE w' w.heap.size 101 12 g cap (degTo n L f (phiN n)) (fun k => arrL (imA n L f (difI n L f (phiN n) k))) ∧ Below w.heap.size w w' := by
  obtain ⟨av, cap0, rfl⟩ := hs.shape
  have hhs := hs.size
  have hp := phi_le12 n h2 h1
  have stA := (((St.start w).addSl ⟨o, lo, hi, .slice av L cap0, L, f⟩ hs).alloc (.cells #[.int .i64 (n : Int), .slice av L cap0] 28)).addBox w.heap.size [.int .i64 (n : Int), .slice av L cap0] (Box.made _ _ _ _ (fun j v h => by simpa using h))
  have st0 := (stA.alloc (.map #[] 0)).alloc (.cells #[] 101)
  have r0 := RowE.made ((w.alloc (.cells #[.int .i64 (n : Int), .slice av L cap0] 28)).alloc (.map #[] 0)) (w.heap.size + 1 + 1) 101 12 (fun k => arrL (imA n L f (difI n L f 0 k))) (by simp)
  have hom := (World.ownsMap_made (w.alloc (.cells #[.int .i64 (n : Int), .slice av L cap0] 28)) Try.prog 101 (plainElem (H := Unit) Try.prog 4)).alloc (.cells #[] 101)
  simp only [World.size_alloc] at r0 hom
  obtain ⟨x0, x1⟩ := (st0.box 0 (w.heap.size, [.int .i64 (n : Int), .slice av L cap0]) rfl).cell2
  have q0 := st0.sl 0 ⟨o, lo, hi, .slice av L cap0, L, f⟩ rfl
  dsimp only at q0
  clear hs stA
  have hmm := @run_makeMap Try.prog
  go_enter Try.func128, Try.ntmps128
  go_wp2_with fail
  refine (imagesOf_any n h1 h2 _ q0 hL).mono ?_
  rintro e w1 ⟨gi, ci, rfl, s1, b1⟩
  clear hmm
  have hz1 := b1.size
  simp only [World.size_alloc] at s1 hz1
  have HST := Lib.hid (st0.keep b1)
  have HR := Lib.hid (r0.keep b1 (Nat.le_refl _))
  have HOM := Lib.hid (ownsMap_keepD hom b1)
  have HI := Lib.hid s1
  clear st0 r0 b1 s1 x0 x1 q0 hom
  go_wp2
  go_loopw [4, 12] (fun s4 s12 wr => ∃ (k g cap : Nat) (D : DataW Unit), k ≤ phiN n ∧ s4 = .slice (some ⟨g, 0, none⟩) (degTo n L f k) cap ∧ s12 = .int .i64 k ∧ RowE wr (w.heap.size + 1 + 1) 101 12 g cap (degTo n L f k) (fun j => arrL (imA n L f (difI n L f k j))) ∧ (g < w.heap.size + 1 + 1 + 1 ∨ w1.heap.size ≤ g) ∧
      RowE wr (w.heap.size + 1 + 1 + 1) 101 12 gi ci (phiN n) (fun k => arrL (imA n L f k)) ∧ gi < w1.heap.size ∧ w1.heap.size ≤ wr.heap.size ∧ wr.ownsMap Try.prog 101 (plainElem (H := Unit) Try.prog 4) (w.heap.size + 1) k D ∧ Seen n L f k D ∧
      St w wr [(w.heap.size, [.int .i64 (n : Int), .slice av L cap0])] [⟨o, lo, hi, .slice av L cap0, L, f⟩]) (fun _ s12 _ => phiN n - (intOf s12).toNat)
  case atStart => exact ⟨0, _, _, _, Nat.zero_le _, rfl, rfl, HR.out, .inl (by omega), HI.out, HI.out.lt.2, Nat.le_refl _, HOM.out, seen_none n L f, HST.out⟩
  case round =>
    clear HR HST HI HOM
    obtain ⟨k, g, cap, D, hk, rfl, rfl, hr, hd, hri, hgi, hgw, hown, hseen, hst⟩ := hrel
    have R1 := Lib.hid hr; clear hr
    have RI := Lib.hid hri; clear hri
    have HO := Lib.hid hown; clear hown
    have HS := Lib.hid hseen; clear hseen
    have HT := Lib.hid hst; clear hst
    obtain ⟨hl, hl'⟩ := R1.out.lt
    obtain ⟨hj, hj'⟩ := RI.out.lt
    have hdk := degTo_le n L f k
    by_cases hlt : k < phiN n
    · have hk2 : (k : Int) < (phiN n : Int) := by omega
      have e0 := RI.out.cell (fun _ => arrL_len _) (i := k) (j := 0) hlt (by omega)
      have e1 := RI.out.cell (fun _ => arrL_len _) (i := k) (j := 1) hlt (by omega)
      have e2 := RI.out.cell (fun _ => arrL_len _) (i := k) (j := 2) hlt (by omega)
      have e3 := RI.out.cell (fun _ => arrL_len _) (i := k) (j := 3) hlt (by omega)
      have e4 := RI.out.cell (fun _ => arrL_len _) (i := k) (j := 4) hlt (by omega)
      have e5 := RI.out.cell (fun _ => arrL_len _) (i := k) (j := 5) hlt (by omega)
      have e6 := RI.out.cell (fun _ => arrL_len _) (i := k) (j := 6) hlt (by omega)
      have e7 := RI.out.cell (fun _ => arrL_len _) (i := k) (j := 7) hlt (by omega)
      have e8 := RI.out.cell (fun _ => arrL_len _) (i := k) (j := 8) hlt (by omega)
      have e9 := RI.out.cell (fun _ => arrL_len _) (i := k) (j := 9) hlt (by omega)
      have e10 := RI.out.cell (fun _ => arrL_len _) (i := k) (j := 10) hlt (by omega)
      have e11 := RI.out.cell (fun _ => arrL_len _) (i := k) (j := 11) hlt (by omega)
      obtain ⟨ki, hki⟩ := key_arr (imA n L f k) imA_inR
      have HKI := Lib.hid hki
      clear hki
      have HAT := Lib.hid (HS.out.2 (imA n L f k) ki HKI.out)
      rw [kA_im hp] at HAT
      have HPUT := Lib.hid (seen_put HS.out HKI.out)
      have HG := Lib.hid (rfl : imA n L f k = imA n L f k)
      generalize hGe : imA n L f k = G at e0 e1 e2 e3 e4 e5 e6 e7 e8 e9 e10 e11 HKI
      have HGe := Lib.hid hGe; clear hGe
      have HL := Lib.hid (show arrL G = [.int .i64 (G 0), .int .i64 (G 1), .int .i64 (G 2), .int .i64 (G 3), .int .i64 (G 4), .int .i64 (G 5), .int .i64 (G 6), .int .i64 (G 7), .int .i64 (G 8), .int .i64 (G 9), .int .i64 (G 10), .int .i64 (G 11)] from rfl)
      rw [HL.out] at e0 e1 e2 e3 e4 e5 e6 e7 e8 e9 e10 e11
      simp only [Nat.add_zero, List.getElem?_cons_zero, List.getElem?_cons_succ] at e0 e1 e2 e3 e4 e5 e6 e7 e8 e9 e10 e11
      by_cases hkn : knownB n L f k k = true
      · have HAT2 := Lib.hid (show D.atKey ki (.lit (.bool false)) = .lit (.bool true) from by rw [HAT.out, hkn])
        have HSK := Lib.hid (seen_skip hp HS.out hkn)
        have HDG := Lib.hid (degTo_no hkn)
        have HDI := Lib.hid (fun j => difI_same (j := j) hkn)
        clear hkn
        go_wp2_with (first
          | (at_lookup; refine wpList_lookup_bool _ rfl _ _ 143 rfl 101 4 keys_keyed Try.underlying143 Try.underlying4 (Try.zero4 _) (w.heap.size + 1) k D rfl (HO.out.alloc _) _ ki rfl HKI.out true HAT2.out ?_))
        go_roundw
        case rel => exact ⟨k + 1, g, cap, D, by omega, by rw [HDG.out], by go_num, by
            rw [HDG.out]
            exact (R1.out.alloc _).congr (fun j hj => by rw [HDI.out j]), hd, RI.out.alloc _, hgi, by simp; omega, (HO.out.alloc _).mono (by omega), HSK.out, HT.out.alloc _⟩
        case measure => simp [intOf] <;> omega
      · have hkn2 : knownB n L f k k = false := by simpa using hkn
        have HAT2 := Lib.hid (show D.atKey ki (.lit (.bool false)) = .lit (.bool false) from by rw [HAT.out, hkn2])
        have HDG := Lib.hid (degTo_yes hkn2)
        have HDI := Lib.hid (fun j => difI_old (j := j) hkn2)
        have HDN := Lib.hid (difI_new hkn2)
        clear hkn hkn2
        go_wp2_with (first
          | (at_lookup; refine wpList_lookup_bool _ rfl _ _ 143 rfl 101 4 keys_keyed Try.underlying143 Try.underlying4 (Try.zero4 _) (w.heap.size + 1) k D rfl (HO.out.alloc _) _ ki rfl HKI.out false HAT2.out ?_)
          | (at_mapUpdate; refine wpList_mapUpdate_own _ rfl _ _ _ 143 rfl 101 4 keys_keyed Try.underlying143 (plainElem (H := Unit) Try.prog 4) (w.heap.size + 1) k D rfl (HO.out.alloc _) (by unfold maxLen; omega) _ _ ki rfl rfl HKI.out (.lit (.bool true)) [] (plainElem_bool Try.underlying4 true) ?_; intro w8 hown8 hgr8
             have hblk : w8.heap[wr.heap.size]? = some (.cells (arrC G) 101) := (hgr8.block _ (by simp) (by simp only [ne_eq, Option.some.injEq]; omega)).trans (heap_alloc_new wr _)
             have c0 : w8.cell? ⟨wr.heap.size, 0, none⟩ = some (.int .i64 (G 0)) := cell_of_row _ _ _ _ _ _ hblk
             have c1 : w8.cell? ⟨wr.heap.size, 1, none⟩ = some (.int .i64 (G 1)) := cell_of_row _ _ _ _ _ _ hblk
             have c2 : w8.cell? ⟨wr.heap.size, 2, none⟩ = some (.int .i64 (G 2)) := cell_of_row _ _ _ _ _ _ hblk
             have c3 : w8.cell? ⟨wr.heap.size, 3, none⟩ = some (.int .i64 (G 3)) := cell_of_row _ _ _ _ _ _ hblk
             have c4 : w8.cell? ⟨wr.heap.size, 4, none⟩ = some (.int .i64 (G 4)) := cell_of_row _ _ _ _ _ _ hblk
             have c5 : w8.cell? ⟨wr.heap.size, 5, none⟩ = some (.int .i64 (G 5)) := cell_of_row _ _ _ _ _ _ hblk
             have c6 : w8.cell? ⟨wr.heap.size, 6, none⟩ = some (.int .i64 (G 6)) := cell_of_row _ _ _ _ _ _ hblk
             have c7 : w8.cell? ⟨wr.heap.size, 7, none⟩ = some (.int .i64 (G 7)) := cell_of_row _ _ _ _ _ _ hblk
             have c8 : w8.cell? ⟨wr.heap.size, 8, none⟩ = some (.int .i64 (G 8)) := cell_of_row _ _ _ _ _ _ hblk
             have c9 : w8.cell? ⟨wr.heap.size, 9, none⟩ = some (.int .i64 (G 9)) := cell_of_row _ _ _ _ _ _ hblk
             have c10 : w8.cell? ⟨wr.heap.size, 10, none⟩ = some (.int .i64 (G 10)) := cell_of_row _ _ _ _ _ _ hblk
             have c11 : w8.cell? ⟨wr.heap.size, 11, none⟩ = some (.int .i64 (G 11)) := cell_of_row _ _ _ _ _ _ hblk
             have hz8 := hgr8.size
             simp only [World.size_alloc] at hz8
             have R8 := Lib.hid ((R1.out.alloc (.cells (arrC G) 101)).kept hgr8 (by omega))
             have RI8 := Lib.hid ((RI.out.alloc (.cells (arrC G) 101)).kept hgr8 (by omega))
             have HT8 := Lib.hid ((HT.out.alloc (.cells (arrC G) 101)).write (Frame.ofGrown hgr8) (by omega) (by intro b hb; simp only [List.mem_cons, List.not_mem_nil, or_false] at hb; rcases hb with rfl <;> dsimp only <;> omega) (by intro s hs'; simp only [List.mem_cons, List.not_mem_nil, or_false] at hs'; rcases hs' with rfl <;> dsimp only <;> omega))
             have HO8 := Lib.hid hown8
             clear hown8 hgr8 hblk)
          | (at_builtin; refine wpList_pushA rfl (.tmp 22) (.tmp 24) rfl rfl (w.heap.size + 1 + 1) g cap (degTo n L f k) (fun j => imA n L f (difI n L f k j)) rfl (R8.out.alloc _) w8.heap.size G rfl (heap_alloc_new w8 _) (by omega) ?_; intro gA kA' wA rowA grA orA ltA
             have STA := Lib.hid ((HT8.out.alloc (.cells (arrC G) 101)).write (Frame.ofGrown grA) (by omega) (by intro b hb; simp only [List.mem_cons, List.not_mem_nil, or_false] at hb; rcases hb with rfl <;> dsimp only <;> omega) (by intro s hs'; simp only [List.mem_cons, List.not_mem_nil, or_false] at hs'; rcases hs' with rfl <;> dsimp only <;> omega))
             have RA := Lib.hid rowA
             have RIA := Lib.hid ((RI8.out.alloc (.cells (arrC G) 101)).kept grA (by omega))
             have HOA := Lib.hid ((HO8.out.alloc (.cells (arrC G) 101)).kept grA (by simp only [ne_eq, Option.some.injEq]; omega))
             have hzA := grA.size
             simp only [World.size_alloc] at orA hzA
             clear rowA grA))
        go_roundw
        case rel =>
          refine ⟨k + 1, gA, kA', _, by omega, by rw [HDG.out], by go_num, ?_, by omega, RIA.out, hgi, by omega, HOA.out, HPUT.out, STA.out⟩
          rw [HDG.out]
          exact RA.out.congr (fun j hj => by
            by_cases e : j < degTo n L f k
            · rw [if_pos e, HDI.out j e]
            · obtain rfl : j = degTo n L f k := by omega
              rw [if_neg e, HDN.out, HGe.out])
        case measure => simp [intOf] <;> omega
    · obtain rfl : k = phiN n := by omega
      have BB := HT.out.1
      go_wp2
      go_ret
      exact ⟨g, cap, rfl, ⟨R1.out.1, by
        rcases R1.out.2 with h | ⟨g', cap', cur, hv, hb, r⟩
        · exact .inl h
        · exact .inr ⟨g', cap', cur, hv, by omega, r⟩⟩, BB⟩
end
end Go.Proofs.Ytdalahgfpbdilaa
