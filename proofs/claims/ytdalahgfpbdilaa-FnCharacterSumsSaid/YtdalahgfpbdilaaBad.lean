/- Drawn numbers: l01Bad. -/
import Derived.Test.YtdalahgfpbdilaaDs
import Derived.Test.YtdalahgfpbdilaaFin
import Derived.Deep.RegionLaw
namespace Go.Proofs.Ytdalahgfpbdilaa
open Go.RowKit Go.ChangeShapes Go.Sort
set_option linter.unusedVariables false
set_option linter.unusedSimpArgs false
set_option maxHeartbeats 400000 in
/-- A copy of a list that is not empty, as a list that grows. -/
theorem l01Own_row {o : Bool} {lo hi n : Nat} {v : Value} {f : Nat → Int} (w : World) (hs : Sl o w lo hi v n f) (h0 : 0 < n) (hn : n ≤ 1048576) :
    Calls Try.prog 220 #[v] w fun e w' => ∃ g' cap', e = .returned (.slice (some ⟨g', 0, none⟩) n cap') ∧ Row w' w.heap.size g' cap' n f ∧ Below w.heap.size w w' := by
  have hbd := hs.bd
  obtain ⟨i0, hi, hz0, hz1, hz2⟩ := info_parts Try.info2
  have hrow := World.ownsRow_made (e := 2) (size := 1) (base := w.heap.size) w #[] 0 (Nat.le_refl _) (Nat.zero_le _) rfl
  rcases hs.parts with ⟨rfl, rfl⟩ | ⟨ad, cap, rfl, hcell⟩
  · exact absurd h0 (Nat.lt_irrefl _)
  · have hm := hs.len
    have HS := Lib.hid hs; clear hs
    have HC := Lib.hid (fun j u hu => cell_later ((Below.refl w.heap.size w).alloc (Nat.le_refl _) (.cells #[] 2)) (hcell j u hu)); clear hcell
    have HB := Lib.hid hbd; clear hbd
    have HR := Lib.hid hrow; clear hrow
    go_enter Try.func220, Try.ntmps220
    go_wp2_with (at_builtin; refine wpList_append_own _ rfl (.tmp 3) (.tmp 4) 22 rfl w.heap.size 2 i0 (.int .i64 0) 1 8 Try.underlying22 hi hz0 hz1 hz2 rfl (by decide) _ 0 [] rfl HR.out ad n cap ((List.range n).map (fun j => Value.int .i64 (f j))) rfl (by simp) HC.out (fun x hx => by obtain ⟨j, _, rfl⟩ := List.mem_map.1 hx; rfl) (by omega) (by omega) (by simp) ?_; intro v' w1 hown hgrow _)
    go_ret
    simp only [Nat.zero_add, List.nil_append] at hown
    obtain ⟨g1, cap1, rfl, _, _⟩ := hown.form h0
    exact ⟨g1, cap1, rfl, hown, ((Below.refl _ _).alloc (Nat.le_refl _) _).grown hgrow (by simp) (fun k hk => by cases hk; exact Nat.le_refl _)⟩
/-- A number has been drawn, or something that is none: its Parts lie from the block lo on. -/
def DrC (b : Nat) (p : Option Addr) (n q lo M : Nat) (w : World) (e : Ending) (w' : World) : Prop :=
  ∃ (x : Int) (L : Nat) (a : Option Addr) (cap : Nat) (f : Nat → Int) (lo' hi' : Nat), e = .returned (.agg #[.int .i64 x, .slice a L cap]) ∧ inR x ∧ 0 < L ∧ L ≤ M ∧ Sl false w' lo' hi' (.slice a L cap) L f ∧ lo ≤ lo' ∧ Src w' b p n q ∧ Frame b (b + 1) w w'
theorem Row.sl {w : World} {base g cap n : Nat} {f : Nat → Int} (h : Row w base g cap n f) (hr : ∀ j, j < n → inR (f j)) (hm : n ≤ maxLen) : Sl true w base w.heap.size (.slice (some ⟨g, 0, none⟩) n cap) n f :=
  Sl.ofRowF h hr hm
section
variable {b B : Nat} {p : Option Addr} {n q : Nat} {o : Bool} {lo hi L : Nat} {v : Value} {f : Nat → Int}
set_option maxRecDepth 100000 in
set_option maxHeartbeats 4000000 in
theorem l01Bad_any (x : Int) (w : World) (hs : Src w b p n q) (hb : Bytes w B p n) (hB : B ≤ b) (hx : inR x) (hl : Sl o w lo hi v L f) (hlo : b + 1 ≤ lo) (hL0 : 0 < L) (hL : L ≤ 1000) :
    Calls Try.prog 203 #[.pointer (some ⟨b, 0, none⟩), .agg #[.int .i64 x, v]] w (DrC b p n q lo (L + 1) w) := by
  obtain ⟨av, cv, rfl⟩ := hl.shape
  have hlh : lo < hi := by obtain ⟨g, off, cap, _, h1, h2, _⟩ := hl.at hL0; omega
  have hbz := hs.lt
  have hlz := hl.size
  have st0 := (((Ds.start hs hb hB).addSl ⟨o, lo, hi, .slice av L cv, L, f⟩ hl (.inr hlo)).newBox [.int .i64 x, .slice av L cv] 28).newBox [.int .i64 0, .slice none 0 0] 28
  simp only [World.size_alloc] at st0
  clear hs hb hl
  go_enter Try.func203, Try.ntmps203
  go_wp2_with fail
  refine (l01Next_any b B p n q 50 _ st0.src st0.bytes hB (by omega) (by omega)).mono ?_
  rintro e w1 ⟨r, rfl, hr1, hr2, hs1, f1⟩
  have hz1 := f1.size
  simp only [World.size_alloc] at hz1
  have st1 := st0.draw hs1 f1
  clear st0 hs1 f1
  obtain ⟨c0, c1⟩ := (st1.box 1 (w.heap.size, [.int .i64 x, .slice av L cv]) rfl).cell2
  have cz := (st1.box 1 (w.heap.size, [.int .i64 x, .slice av L cv]) rfl).2.2
  obtain ⟨d0, d1⟩ := (st1.box 0 (w.heap.size + 1, [.int .i64 0, .slice none 0 0]) rfl).cell2
  have dz := (st1.box 0 (w.heap.size + 1, [.int .i64 0, .slice none 0 0]) rfl).2.2
  dsimp only at cz dz
  have ST := Lib.hid st1
  by_cases h0 : r = 0
  · subst h0
    have hl2 := Sl.list w1 [0, 17, -1] (by intro x hx; simp only [List.mem_cons, List.not_mem_nil, or_false] at hx; unfold inR; rcases hx with rfl | rfl | rfl <;> omega) (by simp [maxLen])
    have st2 := st1.alloc (.cells ([0, 17, -1].map (Value.int .i64)).toArray 2)
    simp only [List.map_cons, List.map_nil, List.length_cons, List.length_nil] at hl2 st2
    have hall : ∀ x ∈ [0, 17, (-1 : Int)], inR x := by intro x hx; simp only [List.mem_cons, List.not_mem_nil, or_false] at hx; unfold inR; rcases hx with rfl | rfl | rfl <;> omega
    have HALL := Lib.hid hall
    clear hall st1
    go_wp2_with fail
    refine (l01Pick_any b B p n q _ st2.src st2.bytes hB hl2 (.inr (by omega)) (by omega) (by omega)).mono ?_
    rintro e w2 ⟨i, hi', rfl, hs3, f3⟩
    have hmem : inR (([0, 17, -1] : List Int).getD i 0) := by
      rw [List.getD_eq_getElem?_getD, List.getElem?_eq_getElem (by simpa using hi')]
      exact HALL.out _ (List.getElem_mem _)
    generalize ([0, 17, -1] : List Int).getD i 0 = y at *
    have hz3 := f3.size
    simp only [World.size_alloc] at hz3
    have st3 := st2.draw hs3 f3
    have HY := Lib.hid hmem
    clear st2 hs3 f3 hl2 c0 c1 cz d0 d1 dz hmem
    obtain ⟨c0, c1⟩ := (st3.box 1 (w.heap.size, [.int .i64 x, .slice av L cv]) rfl).cell2
    have cz := (st3.box 1 (w.heap.size, [.int .i64 x, .slice av L cv]) rfl).2.2
    obtain ⟨d0, d1⟩ := (st3.box 0 (w.heap.size + 1, [.int .i64 0, .slice none 0 0]) rfl).cell2
    have dz := (st3.box 0 (w.heap.size + 1, [.int .i64 0, .slice none 0 0]) rfl).2.2
    dsimp only at cz dz
    have ST3 := Lib.hid st3
    clear st3
    go_wp2
    refine bodyPost_ret (v := .agg #[.int .i64 y, .slice av L cv]) (by simp [results, Try.results203, go_sem, d0, d1]) rfl ?_
    have FS : Frame w.heap.size (w.heap.size + 1 + 1) w2 (((w2.setCell ⟨w.heap.size, 0, none⟩ (.int .i64 y)).setCell ⟨w.heap.size + 1, 0, none⟩ (.int .i64 y)).setCell ⟨w.heap.size + 1, 1, none⟩ (.slice av L cv)) := (((Frame.refl _ _ w2).set (by omega) (by omega) _).set (by omega) (by omega) _).set (by omega) (by omega) _
    have st4 := ST3.out.write FS (Nat.le_refl _) (.inl hbz) [] [⟨o, lo, hi, .slice av L cv, L, f⟩] (fun x hx => by cases hx) (fun s hs => ⟨hs, by obtain rfl := List.mem_singleton.1 hs; exact .inl (by dsimp only; omega)⟩)
    exact ⟨y, L, av, cv, f, lo, hi, rfl, HY.out, hL0, by omega, (st4.sl 0 ⟨o, lo, hi, .slice av L cv, L, f⟩ rfl).rd, Nat.le_refl _, st4.src, st4.frame⟩
  · by_cases h1 : r = 1
    · subst h1
      have hs1 := st1.sl 0 ⟨o, lo, hi, .slice av L cv, L, f⟩ rfl
      dsimp only at hs1
      have HS1 := Lib.hid hs1
      clear st1 hs1
      go_wp2_with fail
      refine (l01Own_row _ HS1.out hL0 (by omega)).mono ?_
      rintro e w2 ⟨g2, k2, rfl, row2, b2⟩
      have hz2 := b2.size
      have st2 := ST.out.keep b2
      clear c0 c1 cz d0 d1 dz
      obtain ⟨c0, c1⟩ := (st2.box 1 (w.heap.size, [.int .i64 x, .slice av L cv]) rfl).cell2
      have cz := (st2.box 1 (w.heap.size, [.int .i64 x, .slice av L cv]) rfl).2.2
      obtain ⟨d0, d1⟩ := (st2.box 0 (w.heap.size + 1, [.int .i64 0, .slice none 0 0]) rfl).cell2
      have dz := (st2.box 0 (w.heap.size + 1, [.int .i64 0, .slice none 0 0]) rfl).2.2
      dsimp only at cz dz
      have ST2 := Lib.hid st2
      have R2 := Lib.hid row2
      have hg2 := row2.lt
      have c0' := cell_later ((Below.refl w2.heap.size w2).alloc (Nat.le_refl _) (.cells #[.int .i64 0] 2)) c0
      clear st2 row2 b2
      go_wp2_with (at_builtin; refine wpList_push rfl (.tmp 17) (.tmp 18) rfl rfl w1.heap.size g2 k2 L f rfl (R2.out.alloc _) w2.heap.size 0 rfl (heap_alloc_new w2 _) (by omega) ?_; intro gA kA wA rowA grA orA ltA
                   have st5 := (ST2.out.alloc (.cells #[.int .i64 0] 2)).write (Frame.ofGrown grA) (by omega) (by omega) [(w.heap.size + 1, [.int .i64 0, .slice none 0 0]), (w.heap.size, [.int .i64 x, .slice av L cv])] [⟨o, lo, hi, .slice av L cv, L, f⟩] (fun x hx => ⟨hx, by simp only [List.mem_cons, List.not_mem_nil, or_false] at hx; rcases hx with rfl | rfl <;> exact .inl (by dsimp only; omega)⟩) (fun s hs => ⟨hs, by obtain rfl := List.mem_singleton.1 hs; exact .inl (by dsimp only; omega)⟩)
                   clear c0 c1 cz d0 d1 dz c0'
                   obtain ⟨c0, c1⟩ := (st5.box 1 (w.heap.size, [.int .i64 x, .slice av L cv]) rfl).cell2
                   have cz := (st5.box 1 (w.heap.size, [.int .i64 x, .slice av L cv]) rfl).2.2
                   obtain ⟨d0, d1⟩ := (st5.box 0 (w.heap.size + 1, [.int .i64 0, .slice none 0 0]) rfl).cell2
                   have dz := (st5.box 0 (w.heap.size + 1, [.int .i64 0, .slice none 0 0]) rfl).2.2
                   dsimp only at cz dz
                   have ST5 := Lib.hid st5
                   have RA := Lib.hid rowA
                   have hzA := grA.size
                   simp only [World.size_alloc] at hzA
                   clear st5 rowA grA orA)
      refine bodyPost_ret (v := .agg #[.int .i64 x, .slice (some ⟨gA, 0, none⟩) (L + 1) kA]) (by simp [results, Try.results203, go_sem, d0, d1]) rfl ?_
      have hbd : ∀ j, j < L + 1 → inR (if j < L then f j else 0) := fun j hj => by
        by_cases e : j < L
        · rw [if_pos e]; exact HS1.out.bd j e
        · rw [if_neg e]; unfold inR; omega
      have sA := (RA.out.sl hbd (by unfold maxLen; omega)).rd
      have st6 := ST5.out.addSl ⟨false, w1.heap.size, wA.heap.size, .slice (some ⟨gA, 0, none⟩) (L + 1) kA, L + 1, fun j => if j < L then f j else 0⟩ sA (.inr (by dsimp only; omega))
      have FS : Frame w.heap.size (w.heap.size + 1 + 1) wA (((wA.setCell ⟨w.heap.size, 1, none⟩ (.slice (some ⟨gA, 0, none⟩) (L + 1) kA)).setCell ⟨w.heap.size + 1, 0, none⟩ (.int .i64 x)).setCell ⟨w.heap.size + 1, 1, none⟩ (.slice (some ⟨gA, 0, none⟩) (L + 1) kA)) := (((Frame.refl _ _ wA).set (by omega) (by omega) _).set (by omega) (by omega) _).set (by omega) (by omega) _
      have st7 := st6.write FS (Nat.le_refl _) (.inl hbz) [] [⟨false, w1.heap.size, wA.heap.size, .slice (some ⟨gA, 0, none⟩) (L + 1) kA, L + 1, fun j => if j < L then f j else 0⟩] (fun x hx => by cases hx) (fun s hs => ⟨List.mem_cons.2 (.inl (List.mem_singleton.1 hs)), by obtain rfl := List.mem_singleton.1 hs; exact .inr (by dsimp only; omega)⟩)
      exact ⟨x, L + 1, _, kA, _, _, _, rfl, hx, by omega, Nat.le_refl _, st7.sl 0 _ rfl, by show lo ≤ w1.heap.size; omega, st7.src, st7.frame⟩
    · by_cases h2 : r = 2
      · subst h2
        have hs1 := st1.sl 0 ⟨o, lo, hi, .slice av L cv, L, f⟩ rfl
        dsimp only at hs1
        have HS1 := Lib.hid hs1
        clear st1 hs1
        go_wp2_with fail
        refine (l01Own_row _ HS1.out hL0 (by omega)).mono ?_
        rintro e w2 ⟨g2, k2, rfl, row2, b2⟩
        have hz2 := b2.size
        have hg2 := row2.lt
        have st2 := (ST.out.keep b2).addSl ⟨true, w1.heap.size, w2.heap.size, .slice (some ⟨g2, 0, none⟩) L k2, L, f⟩ (row2.sl HS1.out.bd (by unfold maxLen; omega)) (.inr (by show b + 1 ≤ w1.heap.size; omega))
        clear c0 c1 cz d0 d1 dz row2 b2
        have bx3 := (st2.box 1 (w.heap.size, [.int .i64 x, .slice av L cv]) rfl)
        dsimp only at bx3
        obtain ⟨c0, c1⟩ := bx3.cell2
        have cz := bx3.2.2
        have bx3' := bx3.set (i := 1) (u := .slice (some ⟨g2, 0, none⟩) L k2) (by simp)
        have st3 := (st2.write (lo := w.heap.size) (hi := w.heap.size + 1) ((Frame.refl _ _ w2).set (o := 1) (Nat.le_refl _) (Nat.lt_succ_self _) (.slice (some ⟨g2, 0, none⟩) L k2)) (Nat.le_refl _) (.inl hbz) [(w.heap.size + 1, [.int .i64 0, .slice none 0 0])] [⟨true, w1.heap.size, w2.heap.size, .slice (some ⟨g2, 0, none⟩) L k2, L, f⟩] (fun x hx => ⟨by simp at hx ⊢; exact .inl hx, by obtain rfl := List.mem_singleton.1 hx; exact .inr (Nat.le_refl _)⟩) (fun s hs => ⟨by simp at hs ⊢; exact .inl hs, by obtain rfl := List.mem_singleton.1 hs; exact .inr (by dsimp only; omega)⟩)).addBox _ _ bx3' (by omega)
        have hl3 := (Sl.list (w2.setCell ⟨w.heap.size, 1, none⟩ (.slice (some ⟨g2, 0, none⟩) L k2)) [1000000001, -1000000001, 1099511627776] (by intro x hx; simp only [List.mem_cons, List.not_mem_nil, or_false] at hx; unfold inR; rcases hx with rfl | rfl | rfl <;> omega) (by simp [maxLen])).drew
        have st4 := (st3.alloc (.cells ([1000000001, -1000000001, 1099511627776].map (Value.int .i64)).toArray 2)).drew
        simp only [List.map_cons, List.map_nil, List.length_cons, List.length_nil, List.set_cons_succ, List.set_cons_zero, World.size_setCell] at hl3 st4 st3
        have hall : ∀ x ∈ [1000000001, -1000000001, (1099511627776 : Int)], inR x := by intro x hx; simp only [List.mem_cons, List.not_mem_nil, or_false] at hx; unfold inR; rcases hx with rfl | rfl | rfl <;> omega
        have HALL := Lib.hid hall
        have HL3 := Lib.hid hl3
        have ST4 := Lib.hid st4
        have c2 := (st3.box 0 (w.heap.size, [.int .i64 x, .slice (some ⟨g2, 0, none⟩) L k2]) rfl).cell2.2
        dsimp only at c2
        have C2 := Lib.hid c2
        clear hall hl3 st4 st3 st2 bx3 bx3' c2
        go_wp2_with fail
        have c1 := C2.out
        go_region_held3 (fun w' => w'.cell? ⟨w.heap.size, 1, none⟩ = some (.slice (some ⟨g2, 0, none⟩) L k2))
          (first | exact c1 | exact d6 | exact (World.cell?_setCell_other _ _ _ _ (by intro e; have := congrArg Addr.block e; dsimp only at this; omega)).trans d6 | exact cell_later ((Below.refl _ _).alloc (Nat.le_refl _) _) c1 | exact cell_later (((Below.refl _ _).alloc (Nat.le_refl _) _).drew) c1 | exact cell_later (Below.refl _ _).drew c1 | go_keep)
          (first
            | (go_at_call 145; refine (l01Pick_any b B p n q _ ST4.out.src ST4.out.bytes hB HL3.out (.inr (by omega)) (by omega) (by omega)).mono ?_; rintro e w6 ⟨i, hi', rfl, hs6, f6⟩
               have hz6 := f6.size
               try simp only [World.size_drew, World.size_alloc, World.size_setCell] at hz6
               have st6 := ST4.out.draw hs6 f6
               have d6 := (st6.box 0 (w.heap.size, [.int .i64 x, .slice (some ⟨g2, 0, none⟩) L k2]) rfl).cell2.2
               dsimp only at d6
               have hmem : inR (([1000000001, -1000000001, 1099511627776] : List Int).getD i 0) := by
                 rw [List.getD_eq_getElem?_getD, List.getElem?_eq_getElem (by simpa using hi')]
                 exact HALL.out _ (List.getElem_mem _)
               generalize ([1000000001, -1000000001, 1099511627776] : List Int).getD i 0 = y at *
               have HY := Lib.hid hmem
               obtain ⟨_, _, _, hc7, hzz7⟩ := (st6.sl 0 ⟨true, w1.heap.size, w2.heap.size, .slice (some ⟨g2, 0, none⟩) L k2, L, f⟩ rfl).known hL0
               have hck7 := hc7 0 hL0
               have hfr7 := hzz7 rfl 0
               rw [Nat.add_zero] at hck7
               dsimp only at hck7 hfr7
               have ST6 := Lib.hid st6
               clear hc7 hzz7 st6 hmem))
        all_goals
          have st6 := ST6.out
          have sA := (st6.sl 0 ⟨true, w1.heap.size, w2.heap.size, .slice (some ⟨g2, 0, none⟩) L k2, L, f⟩ rfl).store0 (i := 0) (x := y) hL0 HY.out
          have st7 := (st6.write (lo := w1.heap.size) (hi := w2.heap.size) ((Frame.refl _ _ w6).set (g := g2) (o := 0) (by omega) (by omega) (.int .i64 y)) (by omega) (by omega) [(w.heap.size, [.int .i64 x, .slice (some ⟨g2, 0, none⟩) L k2]), (w.heap.size + 1, [.int .i64 0, .slice none 0 0])] [] (fun x hx => ⟨hx, by simp only [List.mem_cons, List.not_mem_nil, or_false] at hx; rcases hx with rfl | rfl <;> exact .inl (by dsimp only; omega)⟩) (fun s hs => by cases hs)).addSl ⟨true, w1.heap.size, w2.heap.size, .slice (some ⟨g2, 0, none⟩) L k2, L, fun j => if j = 0 then y else f j⟩ sA (.inr (by show b + 1 ≤ w1.heap.size; omega))
          obtain ⟨c0, c1⟩ := (st7.box 0 (w.heap.size, [.int .i64 x, .slice (some ⟨g2, 0, none⟩) L k2]) rfl).cell2
          have cz := (st7.box 0 (w.heap.size, [.int .i64 x, .slice (some ⟨g2, 0, none⟩) L k2]) rfl).2.2
          obtain ⟨d0, d1⟩ := (st7.box 1 (w.heap.size + 1, [.int .i64 0, .slice none 0 0]) rfl).cell2
          have dz := (st7.box 1 (w.heap.size + 1, [.int .i64 0, .slice none 0 0]) rfl).2.2
          dsimp only at c0 c1 d0 d1 cz dz
          have ST7 := Lib.hid st7
          clear st6 st7 sA
          go_wp2
          refine bodyPost_ret (v := .agg #[.int .i64 x, .slice (some ⟨g2, 0, none⟩) L k2]) (by simp [results, Try.results203, go_sem, d0, d1]) rfl ?_
          have FS : Frame w.heap.size (w.heap.size + 1 + 1) (w6.setCell ⟨g2, 0, none⟩ (.int .i64 y)) (((w6.setCell ⟨g2, 0, none⟩ (.int .i64 y)).setCell ⟨w.heap.size + 1, 0, none⟩ (.int .i64 x)).setCell ⟨w.heap.size + 1, 1, none⟩ (.slice (some ⟨g2, 0, none⟩) L k2)) := ((Frame.refl _ _ _).set (by omega) (by omega) _).set (by omega) (by omega) _
          have st8 := ST7.out.write FS (Nat.le_refl _) (.inl hbz) [] [⟨true, w1.heap.size, w2.heap.size, .slice (some ⟨g2, 0, none⟩) L k2, L, fun j => if j = 0 then y else f j⟩] (fun x hx => by cases hx) (fun s hs => ⟨List.mem_cons.2 (.inl (List.mem_singleton.1 hs)), by obtain rfl := List.mem_singleton.1 hs; exact .inr (by dsimp only; omega)⟩)
          exact ⟨x, L, _, k2, _, _, _, rfl, hx, hL0, by omega, (st8.sl 0 _ rfl).rd, by show lo ≤ w1.heap.size; omega, st8.src, st8.frame⟩
      · have e0 : (r == 0) = false := by simpa using h0
        have e1 : (r == 1) = false := by simpa using h1
        have e2 : (r == 2) = false := by simpa using h2
        clear st1
        go_wp2
        refine bodyPost_ret (v := .agg #[.int .i64 x, .slice av L cv]) (by simp [results, Try.results203, go_sem, d0, d1]) rfl ?_
        have FS : Frame w.heap.size (w.heap.size + 1 + 1) w1 ((w1.setCell ⟨w.heap.size + 1, 0, none⟩ (.int .i64 x)).setCell ⟨w.heap.size + 1, 1, none⟩ (.slice av L cv)) := ((Frame.refl _ _ w1).set (by omega) (by omega) _).set (by omega) (by omega) _
        have st4 := ST.out.write FS (Nat.le_refl _) (.inl hbz) [] [⟨o, lo, hi, .slice av L cv, L, f⟩] (fun x hx => by cases hx) (fun s hs => ⟨hs, by obtain rfl := List.mem_singleton.1 hs; exact .inl (by dsimp only; omega)⟩)
        exact ⟨x, L, av, cv, f, lo, hi, rfl, hx, hL0, by omega, (st4.sl 0 ⟨o, lo, hi, .slice av L cv, L, f⟩ rfl).rd, Nat.le_refl _, st4.src, st4.frame⟩
end
end Go.Proofs.Ytdalahgfpbdilaa
