/- ClassOf and ClassMembers of the program. -/
import Derived.Test.YtaipaggaodnfkaaPerC
import Derived.Test.YtaipaggaodnfkaaRow
import Derived.Maps.OwnIn
namespace Go.Proofs.Ytaipaggaodnfkaa
open Go.RowKit Go.ChangeShapes Go.Shelf
set_option linter.unusedVariables false
set_option linter.unusedSimpArgs false
attribute [local go_sem] Oper.semAt_some
attribute [local go_sem] run_store_func

theorem Cls.beyond {w : World} {B T bp b5 p e : Nat} (h : Cls w B T bp b5 p e) : T ≤ w.heap.size := h.1

theorem ClassOf_impl_bad (p e x : Int) (h : ¬ HcP p e) (w : World) :
    Calls Try.prog 22 #[.int .i64 p, .int .i64 e, .int .i64 x] w fun r w' => r = .returned (.tuple #[.int .i64 0, .int .i64 2]) ∧ Below w.heap.size w w' := by
  have H := Lib.hid h; clear h
  have st0 := (((St.start w).alloc (.cells #[.int .i64 x] 2)).addBox w.heap.size [.int .i64 x] (Box.made _ _ _ _ (fun j v h => by simpa using h)))
  replace st0 := (st0.alloc (.cells #[.int .i64 0] 2)).addBox _ [.int .i64 0] (Box.made _ _ _ _ (fun j v h => by simpa using h))
  replace st0 := (st0.alloc (.cells #[.int .i64 0] 2)).addBox _ [.int .i64 0] (Box.made _ _ _ _ (fun j v h => by simpa using h))
  simp only [World.size_alloc] at st0
  go_enter Try.func22, Try.ntmps22
  go_wp2_with fail
  refine (haveClasses_no p e H.out _).mono ?_
  rintro r w1 ⟨rfl, b1⟩
  have st1 := st0.keep b1
  have bx1 := st1.box 1 (w.heap.size + 1, [.int .i64 0]) rfl
  have bx2 := st1.box 0 (w.heap.size + 1 + 1, [.int .i64 0]) rfl
  dsimp only at bx1 bx2
  have c1 := bx1.2.1 0 _ rfl
  have c2 := bx2.2.1 0 _ rfl
  have f1 := bx1.2.2 0
  have f2 := bx2.2.2 0
  have BB := st1.1
  go_wp2
  refine bodyPost_ret (v := .tuple #[.int .i64 0, .int .i64 2]) (by simp [results, Try.results22, go_sem, c1, c2]) rfl ?_
  exact ⟨rfl, (BB.setCell (p := ⟨w.heap.size + 1, 0, none⟩) (by simp) _).setCell (p := ⟨w.heap.size + 1 + 1, 0, none⟩) (by simp; omega) _⟩

set_option maxRecDepth 100000 in
set_option maxHeartbeats 2000000 in
theorem ClassOf_impl_any (p e : Nat) (x : Int) (hp : primeN p = true) (h1 : 1 ≤ e) (h2 : e ≤ 12) (hd : (p - 1) % e = 0) (w : World) :
    Calls Try.prog 22 #[.int .i64 (p : Int), .int .i64 (e : Int), .int .i64 x] w fun r w' => ((∃ i : Nat, i < p - 1 ∧ x = (i : Int) + 1 ∧ r = .returned (.tuple #[.int .i64 (clsN p e (i + 1) : Nat), .int .i64 0])) ∨ (∀ i : Nat, i < p - 1 → x ≠ (i : Int) + 1) ∧ r = .returned (.tuple #[.int .i64 0, .int .i64 2])) ∧ Below w.heap.size w w' := by
  have hb := primeN_bd hp
  obtain ⟨m, hm⟩ : ∃ m, p - 1 = m := ⟨_, rfl⟩
  have HM := Lib.hid hm
  have HP := Lib.hid hp
  have HD := Lib.hid hd
  rw [hm]
  have hm60 : m ≤ 60 := by omega
  clear hp hm hd
  have st0 := (((St.start w).alloc (.cells #[.int .i64 x] 2)).addBox w.heap.size [.int .i64 x] (Box.made _ _ _ _ (fun j v h => by simpa using h)))
  replace st0 := (st0.alloc (.cells #[.int .i64 0] 2)).addBox _ [.int .i64 0] (Box.made _ _ _ _ (fun j v h => by simpa using h))
  replace st0 := (st0.alloc (.cells #[.int .i64 0] 2)).addBox _ [.int .i64 0] (Box.made _ _ _ _ (fun j v h => by simpa using h))
  simp only [World.size_alloc] at st0
  refine (callsIn_wide (n := 9)).1 ?_
  have hro : Fence.wide.round = none := rfl
  refine callsIn_of_wp_marks Try.func22 rfl trivial ?_ hro
  simp only [Try.ntmps22, List.size_toArray, List.length_cons, List.length_nil, Nat.reduceAdd, Nat.reduceSub, Array.replicate_succ, Array.replicate_zero, List.push_toArray, List.append_toArray, List.nil_append, List.cons_append]
  gi_wp2_with (first
    | (refine ⟨trivial, ?_⟩; gi_at_call 61; refine (callsIn_wide.2 (haveClasses_yes p e HP.out h1 h2 HD.out _)).mono ?_; rintro r w1 ⟨rfl, b1⟩)
    | (refine ⟨trivial, ?_⟩; gi_at_call 66; refine (callsIn_wide.2 (classesOf_any p e HP.out h1 h2 _)).mono ?_; rintro r w2 ⟨b5, rfl, hcls, b2⟩))
  have st1 := st0.keep b1
  have hz1 := b1.size
  simp only [World.size_alloc] at hz1
  have st3 := st1.keep b2
  have hz2 := b2.size
  have bx0 := st3.box 2 (w.heap.size, [.int .i64 x]) rfl
  have bx1 := st3.box 1 (w.heap.size + 1, [.int .i64 0]) rfl
  have bx2 := st3.box 0 (w.heap.size + 1 + 1, [.int .i64 0]) rfl
  dsimp only at bx0 bx1 bx2
  have hB0 := st3.1
  clear st0 st1 st3 b1 b2
  refine wpIn_rangeFunc_ownF hro (by omega) (gf := 88) (lb := #[.pointer (some ⟨w1.heap.size, 0, none⟩), .pointer (some ⟨b5, 0, none⟩)]) rfl trivial (enters_of Try.func88 (by kernel_rfl) rfl)
    (cls_stops p e m HP.out h1 h2 HM.out (9 - 1) (by omega) w1.heap.size w2.heap.size w1.heap.size b5 w2 hcls) (fun h k => h.trans k) (KeepsR.at (Nat.le_refl _)) (Below.refl _ _) (fun _ => rfl)
    (fun pre W => ((∀ i ∈ pre, x ≠ (i.1 : Int) + 1) ∧ Box W w.heap.size [.int .i64 x] ∧ Box W (w.heap.size + 1) [.int .i64 0] ∧ Box W (w.heap.size + 1 + 1) [.int .i64 0]) ∧ Below w.heap.size w W ∧ w2.heap.size ≤ W.heap.size)
    (fun c pre W => (c = .ret ∧ ∃ i : Fin m, x = (i.1 : Int) + 1 ∧ Box W (w.heap.size + 1) [.int .i64 (clsN p e (i.1 + 1) : Nat)] ∧ Box W (w.heap.size + 1 + 1) [.int .i64 0]) ∧ Below w.heap.size w W ∧ w2.heap.size ≤ W.heap.size)
    (fun s A B row hs hg hr => by
      obtain ⟨⟨h1, h2, h3, h4⟩, h5, h6⟩ := hs
      have hB := grown_below hg hr h6
      exact ⟨⟨h1, h2.keepB hB (by omega), h3.keepB hB (by omega), h4.keepB hB (by omega)⟩, h5.trans (hB.mono (by omega)), Nat.le_trans h6 hg.size⟩)
    (fun c s A B row hs hg hr => by
      obtain ⟨⟨h1, i, h2, h3, h4⟩, h5, h6⟩ := hs
      have hB := grown_below hg hr h6
      exact ⟨⟨h1, i, h2, h3.keepB hB (by omega), h4.keepB hB (by omega)⟩, h5.trans (hB.mono (by omega)), Nat.le_trans h6 hg.size⟩)
    ⟨⟨fun i hi => absurd hi List.not_mem_nil, bx0, bx1, bx2⟩, hB0, Nat.le_refl _⟩
    (fun i => { tmps := #[.int .i64 (p : Int), .int .i64 (e : Int), .int .i64 x, undef, undef, .pointer (some ⟨w.heap.size, 0, none⟩), .pointer (some ⟨w.heap.size + 1, 0, none⟩), .pointer (some ⟨w.heap.size + 1 + 1, 0, none⟩), .int .i64 ((i.1 : Int) + 1), .int .i64 (clsN p e (i.1 + 1) : Nat), .int .i64 (p : Int), .int .i64 (e : Int), .bool true, .bool false, .int .i64 (p : Int), .int .i64 (e : Int), .func (.func 88) #[] #[.pointer (some ⟨w1.heap.size, 0, none⟩), .pointer (some ⟨b5, 0, none⟩)], .int .i64 ((i.1 : Int) + 1), .int .i64 (clsN p e (i.1 + 1) : Nat), undef, undef, undef, undef], defers := [] }) ?assign ?body ?done ?stop
  case assign =>
    intro l i W K hK
    gi_wp2
    first | exact hK | simpa [encC] using hK
  case body =>
    rintro l pre i W ⟨⟨hne, h0, h1, h2⟩, hB, hz⟩ hlen
    have e0 := h0.2.1 0 _ rfl
    have e1 := h1.2.1 0 _ rfl
    have e2 := h2.2.1 0 _ rfl
    have f1 := h1.2.2 0
    have f2 := h2.2.2 0
    by_cases hx : x = (i.1 : Int) + 1
    · have hxb : (((i.1 : Int) + 1) == x) = true := by rw [hx]; simp
      have HX := Lib.hid hx
      clear hx
      gi_wp2
      exact ⟨(KeepsOthers.setCell _ _ _).trans (KeepsOthers.setCell _ _ _), ⟨rfl, i, HX.out, (h1.set1 _).other _ _ (by simp), (h2.other _ _ (by simp)).set1 _⟩, (hB.setCell (p := ⟨w.heap.size + 1, 0, none⟩) (by simp) _).setCell (p := ⟨w.heap.size + 1 + 1, 0, none⟩) (by simp; omega) _, by simpa using hz⟩
    · have hxb : (((i.1 : Int) + 1) == x) = false := beq_eq_false_iff_ne.2 (fun e => hx e.symm)
      have HX := Lib.hid hx
      clear hx
      gi_wp2
      exact ⟨KeepsOthers.refl _, KeepsR.refl _ _ _, ⟨fun j hj => by
        rcases List.mem_append.1 hj with h | h
        · exact hne j h
        · simp at h; subst h; exact HX.out, h0, h1, h2⟩, hB, hz⟩
  case done =>
    rintro D ys W hD hys ⟨⟨hne, h0, h1, h2⟩, hB, hz⟩ hK
    have e1 := h1.2.1 0 _ rfl
    have e2 := h2.2.1 0 _ rfl
    have f1 := h1.2.2 0
    have f2 := h2.2.2 0
    gi_wp2
    have hK' := ((KeepsOthers.setCell W ⟨w.heap.size + 1, 0, none⟩ (.int .i64 0)).trans (KeepsOthers.setCell _ ⟨w.heap.size + 1 + 1, 0, none⟩ (.int .i64 2))).same D _ hK rfl
    refine ⟨by simp, .inl ⟨_, _, rfl, run_takeDeferred hK', ?_⟩⟩
    have g1 := ((h1.set1 (.int .i64 0)).other ⟨w.heap.size + 1 + 1, 0, none⟩ (.int .i64 2) (by simp)).2.1 0 _ rfl
    have g2 := ((h2.other ⟨w.heap.size + 1, 0, none⟩ (.int .i64 0) (by simp)).set1 (.int .i64 2)).2.1 0 _ rfl
    have k1 := cell_kept g1 (grownBy_putObj' _ D (.deferred none)) (fun r e => by cases e; exact ⟨_, hK', rfl⟩)
    have k2 := cell_kept g2 (grownBy_putObj' _ D (.deferred none)) (fun r e => by cases e; exact ⟨_, hK', rfl⟩)
    refine ⟨.tuple #[.int .i64 0, .int .i64 2], by simp [results, Try.results22, go_sem, k1, k2], .inr ⟨fun i hi e => ?_, rfl⟩, ((hB.setCell (p := ⟨w.heap.size + 1, 0, none⟩) (by simp) _).setCell (p := ⟨w.heap.size + 1 + 1, 0, none⟩) (by simp; omega) _).trans (belowK_b (w := w) (Nat.le_refl _) _ D _ _ (by omega) hK' rfl rfl)⟩
    have hin : i ∈ ys.map Fin.val := by rw [hys]; exact List.mem_range.2 hi
    obtain ⟨j, hj, rfl⟩ := List.mem_map.1 hin
    exact hne j hj e
  case stop =>
    rintro D c pre W hD hpre ⟨⟨rfl, i, hx, h1, h2⟩, hB, hz⟩ hK
    gi_wp2
    refine ⟨by simp, .inl ⟨_, _, rfl, run_takeDeferred hK, ?_⟩⟩
    have k1 := cell_kept (h1.2.1 0 _ rfl) (grownBy_putObj' _ D (.deferred none)) (fun r e => by cases e; exact ⟨_, hK, rfl⟩)
    have k2 := cell_kept (h2.2.1 0 _ rfl) (grownBy_putObj' _ D (.deferred none)) (fun r e => by cases e; exact ⟨_, hK, rfl⟩)
    exact ⟨.tuple #[.int .i64 (clsN p e (i.1 + 1) : Nat), .int .i64 0], by simp [results, Try.results22, go_sem, k1, k2], .inl ⟨i.1, i.2, hx, rfl⟩, hB.trans (belowK_b (w := w) (Nat.le_refl _) W D _ _ (by omega) hK rfl rfl)⟩
/-! ClassMembers -/
theorem Row.cells {w : World} {base g cap n : Nat} {f : Nat → Int} (h : Row w base g cap n f) : ∃ cur t fz, w.heap[g]? = some (.cells cur t fz) := by
  rcases h.2 with ⟨h, _⟩ | ⟨g', cap', cur, hv, _, hg, _⟩
  · cases h
  · cases hv; exact ⟨_, _, _, hg⟩
theorem Row.keptO {w w' : World} {base g cap n : Nat} {f : Nat → Int} {row : Option Nat} (h : Row w base g cap n f) (hg : w.grownBy w' row) (hne : row ≠ some g) : Row w' base g cap n f :=
  World.ownsRow.kept (row := row) h hg (.inr (fun e => hne (by first | exact e.symm | exact e)))
theorem Row.lay {w w' : World} {base g cap n : Nat} {f : Nat → Int} {row : Option Nat} {B : Nat} (h : Row w base g cap n f) (hg : w.grownBy w' row) (hr : ∀ r, row = some r → B ≤ r ∧ ∃ o : Obj, w.heap[r]? = some o ∧ o.isCells = false) : Row w' base g cap n f :=
  h.keptO hg (fun e => by
    obtain ⟨_, o, ho, hc⟩ := hr g e
    obtain ⟨cur, t, fz, hg'⟩ := h.cells
    rw [hg'] at ho; cases ho; cases hc)
theorem wpListIn_push {F : Fence} {nF : Nat} {w : World} {ops : Array Oper} {rest : List Oper} {o : Oper} {a : Act} {Q : Exit → Act → World → Prop} (hgd : o.guard = none) (s x : Operand)
    (ho : o.op = .call { callee := .builtin .append, args := #[s, x], argTypes := #[33, 33] })
    (hty : o.type = 33) (base g cap n : Nat) (f : Nat → Int) (hs : a.eval s = .slice (some ⟨g, 0, none⟩) n cap) (hown : Row w base g cap n f) (B : Nat) (y : Int) (hx : a.eval x = .slice (some ⟨B, 0, none⟩) 1 1)
    (hb : w.heap[B]? = some (.cells #[.int .i64 y] 2 (0, 0))) (hn : n + 1 ≤ 1048576)
    (h : ∀ g' cap' w', Row w' base g' cap' (n + 1) (fun j => if j < n then f j else y) → w.grownBy w' (some g) → (g' = g ∨ g' = w.heap.size) → g' < w'.heap.size → wpListIn F nF Try.prog ops Q rest (a.put o.dst (.slice (some ⟨g', 0, none⟩) (n + 1) cap')) w') : wpListIn F nF Try.prog ops Q (o :: rest) a w := by
  obtain ⟨i0, hi, hz0, hz1, hz2⟩ := info_parts Try.info2
  refine wpListIn_append_own_at w hgd s x 33 ho base 2 i0 (.int .i64 0) 1 8 Try.underlying33 hi hz0 hz1 hz2 rfl (by decide) _ n _ hs hown ⟨B, 0, none⟩ 1 1 [.int .i64 y] hx rfl (World.news_of_block hb) (by simp [Value.oneCell']) (by unfold maxLen; omega) (by omega) (Nat.le_trans hown.lt.1 (Nat.le_of_lt hown.lt.2)) ?_
  intro v' w' h1 h2 h3 h4
  obtain ⟨g', cap', rfl⟩ := ownsRow_succ h1
  have h1' : Row w' base g' cap' (n + 1) (fun j => if j < n then f j else y) := by
    unfold Row
    rw [List.range_succ, List.map_append]
    have e1 : (List.range n).map (fun j => Value.int .i64 (if j < n then f j else y)) = (List.range n).map (fun j => Value.int .i64 (f j)) := List.map_congr_left (fun j hj => by rw [if_pos (List.mem_range.1 hj)])
    rw [e1]
    simpa using h1
  exact h g' cap' w' h1' h2 (h4.imp (fun e => by simpa [Value.ownBlock] using e) (fun e => by simpa [Value.ownBlock] using e)) h1'.lt.2

/-- The numbers of the class i among those one greater than the list's. -/
def cmL (p e i : Nat) (L : List Nat) : List Nat := (L.filter (fun x => clsN p e (x + 1) == i)).map (fun x => x + 1)
theorem cmL_yes {p e i x : Nat} (L : List Nat) (h : clsN p e (x + 1) = i) : cmL p e i (L ++ [x]) = cmL p e i L ++ [x + 1] := by
  unfold cmL; rw [List.filter_append, List.map_append]; simp [h]
theorem cmL_no {p e i x : Nat} (L : List Nat) (h : clsN p e (x + 1) ≠ i) : cmL p e i (L ++ [x]) = cmL p e i L := by
  unfold cmL; rw [List.filter_append, List.map_append]; simp [h]
theorem cmL_len (p e i : Nat) (L : List Nat) : (cmL p e i L).length ≤ L.length := by
  unfold cmL; rw [List.length_map]; exact List.length_filter_le _ _
def cmF (L : List Nat) (j : Nat) : Int := (L.getD j 0 : Nat)
theorem cmF_push (L : List Nat) (x j : Nat) (hj : j < L.length + 1) : cmF (L ++ [x]) j = if j < L.length then cmF L j else (x : Int) := by
  unfold cmF
  by_cases e : j < L.length
  · rw [if_pos e, List.getD_eq_getElem?_getD, List.getD_eq_getElem?_getD, List.getElem?_append_left e]
  · rw [if_neg e, List.getD_eq_getElem?_getD, List.getElem?_append_right (by omega), show j - L.length = 0 by omega]
    rfl
theorem cmL_mem {p e i y : Nat} {L : List Nat} (h : y ∈ cmL p e i L) : ∃ x ∈ L, y = x + 1 := by
  unfold cmL at h
  obtain ⟨x, hx, rfl⟩ := List.mem_map.1 h
  exact ⟨x, (List.mem_filter.1 hx).1, rfl⟩
theorem cmF_inR {p e i m j : Nat} (hm : m ≤ 60) : inR (cmF (cmL p e i (List.range m)) j) := by
  unfold cmF inR
  rcases Nat.lt_or_ge j (cmL p e i (List.range m)).length with h | h
  · obtain ⟨x, hx, he⟩ := cmL_mem (List.getElem_mem h)
    have := List.mem_range.1 hx
    rw [List.getD_eq_getElem?_getD, List.getElem?_eq_getElem h]
    simp only [Option.getD_some]
    omega
  · rw [List.getD_eq_getElem?_getD, List.getElem?_eq_none h]
    simp

theorem ClassMembers_impl_bad (p e i : Int) (h : ¬ (HcP p e ∧ 0 ≤ i ∧ i < e)) (w : World) :
    Calls Try.prog 25 #[.int .i64 p, .int .i64 e, .int .i64 i] w fun r w' => ∃ a' k', r = .returned (.tuple #[.slice a' 0 k', .int .i64 2]) ∧ Sl true w' w.heap.size w'.heap.size (.slice a' 0 k') 0 (fun _ => 0) ∧ Below w.heap.size w w' := by
  have hb0 := ((Below.refl w.heap.size w).alloc (Nat.le_refl _) (.cells #[.int .i64 i] 2))
  by_cases hc : HcP p e
  · have HI := Lib.hid (show i < 0 ∨ e ≤ i by
      rcases Int.lt_or_le i 0 with h' | h'
      · exact .inl h'
      · rcases Int.lt_or_le i e with h2 | h2
        · exact absurd ⟨hc, h', h2⟩ h
        · exact .inr h2)
    obtain ⟨P, E, rfl, rfl, c1, c2, c3, c4⟩ := hc.nat
    have HP := Lib.hid c1
    have HD := Lib.hid c4
    have bx := Box.made w #[.int .i64 i] 2 [.int .i64 i] (fun j v h => by simpa using h)
    clear hc h c1 c4
    go_enter Try.func25, Try.ntmps25
    go_wp2_with (first
      | (go_at_call 61; refine (haveClasses_yes P E HP.out c2 c3 HD.out _).mono ?_; rintro r w1 ⟨rfl, b1⟩; have cx := (bx.keep b1).2.1 0 _ rfl)
      | (go_at_call 69; refine (isClass_no _ _ _ HI.out).mono ?_; rintro r w2 ⟨rfl, rfl⟩))
    go_ret2
    exact ⟨none, 0, rfl, Sl.nil _ _ _ (Nat.le_refl _) _, hb0.trans (b1.mono (by simp))⟩
  · have H := Lib.hid hc
    clear hc h
    go_enter Try.func25, Try.ntmps25
    go_wp2_with (go_at_call 61; refine (haveClasses_no p e H.out _).mono ?_; rintro r w1 ⟨rfl, b1⟩)
    go_ret2
    exact ⟨none, 0, rfl, Sl.nil _ _ _ (Nat.le_refl _) _, hb0.trans (b1.mono (by simp))⟩

set_option maxRecDepth 100000 in
set_option maxHeartbeats 4000000 in
theorem ClassMembers_impl_ok (p e I : Nat) (hp : primeN p = true) (h1 : 1 ≤ e) (h2 : e ≤ 12) (hd : (p - 1) % e = 0) (hI : I < e) (w : World) :
    Calls Try.prog 25 #[.int .i64 (p : Int), .int .i64 (e : Int), .int .i64 (I : Int)] w fun r w' => ∃ a' k', r = .returned (.tuple #[.slice a' (cmL p e I (List.range (p - 1))).length k', .int .i64 0]) ∧ Sl true w' w.heap.size w'.heap.size (.slice a' (cmL p e I (List.range (p - 1))).length k') (cmL p e I (List.range (p - 1))).length (cmF (cmL p e I (List.range (p - 1)))) ∧ Below w.heap.size w w' := by
  have hb := primeN_bd hp
  obtain ⟨m, hm⟩ : ∃ m, p - 1 = m := ⟨_, rfl⟩
  have HM := Lib.hid hm
  have HP := Lib.hid hp
  have HD := Lib.hid hd
  rw [hm]
  have hm60 : m ≤ 60 := by omega
  clear hp hm hd
  have st0 := (((St.start w).alloc (.cells #[.int .i64 (I : Int)] 2)).addBox w.heap.size [.int .i64 (I : Int)] (Box.made _ _ _ _ (fun j v h => by simpa using h)))
  refine (callsIn_wide (n := 9)).1 ?_
  have hro : Fence.wide.round = none := rfl
  refine callsIn_of_wp_marks Try.func25 rfl trivial ?_ hro
  simp only [Try.ntmps25, List.size_toArray, List.length_cons, List.length_nil, Nat.reduceAdd, Nat.reduceSub, Array.replicate_succ, Array.replicate_zero, List.push_toArray, List.append_toArray, List.nil_append, List.cons_append]
  gi_wp2_with (first
    | (refine ⟨trivial, ?_⟩; gi_at_call 61; refine (callsIn_wide.2 (haveClasses_yes p e HP.out h1 h2 HD.out _)).mono ?_; rintro r w1 ⟨rfl, b1⟩; have st1 := st0.keep b1; have hz1 := b1.size; simp only [World.size_alloc] at hz1; have cx := (st1.box 0 (w.heap.size, [.int .i64 (I : Int)]) rfl).2.1 0 _ rfl; dsimp only at cx)
    | (refine ⟨trivial, ?_⟩; gi_at_call 69; refine (callsIn_wide.2 (isClass_yes _ _ _ (by omega) (by omega))).mono ?_; rintro r w3 ⟨rfl, rfl⟩)
    | (refine ⟨trivial, ?_⟩; gi_at_call 66; refine (callsIn_wide.2 (classesOf_any p e HP.out h1 h2 _)).mono ?_; rintro r w2 ⟨b5, rfl, hcls, b2⟩))
  have r1 := Row.made w1 (w.heap.size) (cmF (cmL p e I [])) (by omega)
  have r2 := r1.alloc (.cells #[.slice (some ⟨w1.heap.size, 0, none⟩) 0 0] 33)
  have r3 : Row w2 w.heap.size w1.heap.size 0 0 (cmF (cmL p e I [])) := World.ownsRow.kept (row := none) r2 ⟨b2.os, b2.tape, b2.output, b2.size, fun k hk _ => b2.block k hk⟩ (.inr (fun e => by cases e))
  have st2 := (st1.alloc (.cells #[] 2)).alloc (.cells #[.slice (some ⟨w1.heap.size, 0, none⟩) 0 0] 33)
  have bo := Box.made (w1.alloc (.cells #[] 2)) #[.slice (some ⟨w1.heap.size, 0, none⟩) 0 0] 33 [.slice (some ⟨w1.heap.size, 0, none⟩) 0 0] (fun j v h => by simpa using h)
  have st3 := (st2.addBox _ _ bo).keep b2
  have hz2 := b2.size
  simp only [World.size_alloc] at hz2 hcls st3
  have bx0 := st3.box 1 (w.heap.size, [.int .i64 (I : Int)]) rfl
  have bx1 := st3.box 0 (w1.heap.size + 1, [.slice (some ⟨w1.heap.size, 0, none⟩) 0 0]) rfl
  dsimp only at bx0 bx1
  have hB0 := st3.1
  clear st0 st1 st2 st3 b1 b2 r1 r2 bo cx
  refine wpIn_rangeFunc_ownF hro (by omega) (gf := 88) (lb := #[.pointer (some ⟨w1.heap.size + 1 + 1, 0, none⟩), .pointer (some ⟨b5, 0, none⟩)]) rfl trivial (enters_of Try.func88 (by kernel_rfl) rfl)
    (cls_stops p e m HP.out h1 h2 HM.out (9 - 1) (by omega) (w1.heap.size + 1 + 1) w2.heap.size (w1.heap.size + 1 + 1) b5 w2 hcls) (fun h k => h.trans k) (KeepsR.at (Nat.le_refl _)) (Below.refl _ _) (fun _ => rfl)
    (fun pre W => (Box W w.heap.size [.int .i64 (I : Int)] ∧ ∃ g cap, Box W (w1.heap.size + 1) [.slice (some ⟨g, 0, none⟩) (cmL p e I (pre.map Fin.val)).length cap] ∧ Row W w.heap.size g cap (cmL p e I (pre.map Fin.val)).length (cmF (cmL p e I (pre.map Fin.val))) ∧ (g = w1.heap.size ∨ w2.heap.size ≤ g)) ∧ Below w.heap.size w W ∧ w2.heap.size ≤ W.heap.size)
    (fun _ _ _ => False)
    (fun s A B row hs hg hr => by
      obtain ⟨⟨h1, g, cap, h2, h3, h4⟩, h5, h6⟩ := hs
      have hB := grown_below hg hr h6
      exact ⟨⟨h1.keepB hB (by omega), g, cap, h2.keepB hB (by omega), h3.lay hg hr, h4⟩, h5.trans (hB.mono (by omega)), Nat.le_trans h6 hg.size⟩)
    (fun _ _ _ _ _ hs _ _ => hs)
    ⟨⟨bx0, w1.heap.size, 0, bx1, r3, .inl rfl⟩, hB0, Nat.le_refl _⟩
    (fun i => { tmps := #[.int .i64 (p : Int), .int .i64 (e : Int), .int .i64 (I : Int), undef, undef, .pointer (some ⟨w.heap.size, 0, none⟩), .slice none 0 0, .int .i64 0, .pointer (some ⟨w1.heap.size + 1, 0, none⟩), .int .i64 ((i.1 : Int) + 1), .int .i64 (clsN p e (i.1 + 1) : Nat), .int .i64 (p : Int), .int .i64 (e : Int), .bool true, .bool false, .bool false, .int .i64 (e : Int), .int .i64 (I : Int), .bool true, .bool false, .bool false, .slice (some ⟨w1.heap.size, 0, none⟩) 0 0, .int .i64 (p : Int), .int .i64 (e : Int), .func (.func 88) #[] #[.pointer (some ⟨w1.heap.size + 1 + 1, 0, none⟩), .pointer (some ⟨b5, 0, none⟩)], .int .i64 ((i.1 : Int) + 1), .int .i64 (clsN p e (i.1 + 1) : Nat), undef, undef, undef, undef, undef, undef, undef, undef], defers := [] }) ?assign ?body ?done ?stop
  case assign =>
    intro l i W K hK
    gi_wp2
    first | exact hK | simpa [encC] using hK
  case body =>
    rintro l pre i W ⟨⟨h0, g, cap, ho, hrow, hg⟩, hB, hz⟩ hlen
    have e0 := h0.2.1 0 _ rfl
    have eo := ho.2.1 0 _ rfl
    have hlL := cmL_len p e I (pre.map Fin.val)
    rw [List.length_map] at hlL
    have hgl := hrow.lt
    by_cases hx : clsN p e (i.1 + 1) = I
    · have hxb : (((clsN p e (i.1 + 1) : Nat) : Int) == (I : Int)) = true := by rw [hx]; simp
      have HL := Lib.hid (show cmL p e I ((pre ++ [i]).map Fin.val) = cmL p e I (pre.map Fin.val) ++ [i.1 + 1] by rw [List.map_append]; exact cmL_yes _ hx)
      clear hx
      generalize cmL p e I (pre.map Fin.val) = L at *
      gi_wp2_with (gi_at_builtin; refine wpListIn_push rfl (.tmp 30) (.tmp 32) rfl rfl w.heap.size g cap L.length (cmF L) rfl (hrow.alloc _) W.heap.size ((i.1 : Int) + 1) rfl (heap_alloc_new W _) (by omega) ?_; intro gA kA wA rowA grA orA ltA
                   have hzA := grA.size
                   simp only [World.size_alloc] at orA hzA
                   have frA := (Frame.ofGrown grA)
                   have oA := ((ho.keep ((Below.refl _ _).alloc (Nat.le_refl _) (.cells #[.int .i64 ((i.1 : Int) + 1)] 2))).keepF frA (by omega))
                   have h0A := ((h0.keep ((Below.refl _ _).alloc (Nat.le_refl _) (.cells #[.int .i64 ((i.1 : Int) + 1)] 2))).keepF frA (by omega))
                   have eA := oA.2.1 0 _ rfl
                   have fA := oA.2.2 0)
      have KO : KeepsOthers W (wA.setCell ⟨w1.heap.size + 1, 0, none⟩ (.slice (some ⟨gA, 0, none⟩) (L.length + 1) kA)) := ((KeepsOthers.alloc W _).trans (KeepsOthers.of_grownBy grA (fun j o ej hj => by
        cases ej
        obtain ⟨cur, t, fz, hc⟩ := (hrow.alloc (.cells #[.int .i64 ((i.1 : Int) + 1)] 2)).cells
        rw [hc] at hj; cases hj; rfl))).trans (KeepsOthers.setCell _ _ _)
      have KR : KeepsR (w1.heap.size + 1 + 1) w2.heap.size W (wA.setCell ⟨w1.heap.size + 1, 0, none⟩ (.slice (some ⟨gA, 0, none⟩) (L.length + 1) kA)) := ((KeepsR.below ((Below.refl _ W).alloc (Nat.le_refl _) _) hz).trans (KeepsR.frame frA (by omega) (by simp; omega))).trans (KeepsR.setCell _ (by simp <;> omega))
      have hrA : Row (wA.setCell ⟨w1.heap.size + 1, 0, none⟩ (.slice (some ⟨gA, 0, none⟩) (L.length + 1) kA)) w.heap.size gA kA (L.length + 1) (cmF (L ++ [i.1 + 1])) := (rowA.keptO (grownBy_setCell' wA (w1.heap.size + 1) _) (fun e => by have := Option.some.inj e; omega)).congr (fun j hj => by rw [cmF_push L (i.1 + 1) j hj]; split <;> simp)
      exact ⟨KO, KR, ⟨h0A.other _ _ (by simp; omega), gA, kA, by rw [HL.out, List.length_append]; exact oA.set1 _, by rw [HL.out, List.length_append]; exact hrA, by omega⟩, ((hB.alloc hB.size _).trans (frA.below (by omega) (by simp; omega))).setCell (by simp; omega) _, by simp; omega⟩
    · have hxb : (((clsN p e (i.1 + 1) : Nat) : Int) == (I : Int)) = false := beq_eq_false_iff_ne.2 (by omega)
      have HL := Lib.hid (show cmL p e I ((pre ++ [i]).map Fin.val) = cmL p e I (pre.map Fin.val) by rw [List.map_append]; exact cmL_no _ hx)
      clear hx
      gi_wp2
      exact ⟨KeepsOthers.refl _, KeepsR.refl _ _ _, ⟨h0, g, cap, by rw [HL.out]; exact ho, by rw [HL.out]; exact hrow, hg⟩, hB, hz⟩
  case done =>
    rintro D ys W hD hys ⟨⟨h0, g, cap, ho, hrow, hg⟩, hB, hz⟩ hK
    have eo := ho.2.1 0 _ rfl
    rw [hys] at ho hrow eo
    gi_wp2
    refine ⟨by simp, .inl ⟨_, _, rfl, run_takeDeferred hK, ?_⟩⟩
    have hrD : Row (W.putObj D (.deferred none)) w.heap.size g cap (cmL p e I (List.range m)).length (cmF (cmL p e I (List.range m))) := hrow.lay (B := 0) (grownBy_putObj' W D (.deferred none)) (fun r e => by cases e; exact ⟨Nat.zero_le _, _, hK, rfl⟩)
    have hlen := cmL_len p e I (List.range m)
    rw [List.length_range] at hlen
    refine ⟨.tuple #[.slice (some ⟨g, 0, none⟩) (cmL p e I (List.range m)).length cap, .int .i64 0], by simp [results, Try.results25, go_sem], _, _, rfl, ?_, hB.trans (belowK_b (w := w) (Nat.le_refl _) W D _ _ (by omega) hK rfl rfl)⟩
    exact (Sl.ofRowF hrD (fun j hj => cmF_inR hm60) (by unfold maxLen; omega)).wide (Nat.le_refl _) (Nat.le_refl _) (Nat.le_refl _)
  case stop =>
    rintro D c pre W _ _ h _
    exact h.elim
end Go.Proofs.Ytaipaggaodnfkaa
