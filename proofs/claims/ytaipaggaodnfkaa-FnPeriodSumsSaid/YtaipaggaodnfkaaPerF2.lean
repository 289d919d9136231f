/- followerRows of the program: the classes of followers counted in rows. -/
import Derived.Test.YtaipaggaodnfkaaPerE
import Derived.Test.YtaipaggaodnfkaaTab
import Derived.Test.YtaipaggaodnfkaaRound
import Derived.RegionIn
import Derived.Test.YtaipaggaodnfkaaScope
namespace Go.Proofs.Ytaipaggaodnfkaa
open Go.RowKit Go.ChangeShapes Go.Shelf
set_option linter.unusedVariables false
set_option linter.unusedSimpArgs false
attribute [local go_sem] Oper.semAt_some
attribute [local go_sem] run_store_func

/-- What the number x + 1 of 1, .., m adds to the rows. -/
def fstep (p e : Nat) (last : Int) (m : Nat) (F : Nat → Nat → Int) (x : Nat) (i j : Nat) : Int :=
  F i j + if x + 1 = m then (if i = clsN p e (x + 1) then last else 0) else if i = clsN p e (x + 1) ∧ j = clsN p e (x + 2) then 1 else 0
def fL (p e : Nat) (last : Int) (m : Nat) (L : List Nat) : Nat → Nat → Int := L.foldl (fstep p e last m) (fun _ _ => 0)
theorem fL_snoc (p e : Nat) (last : Int) (m : Nat) (L : List Nat) (x : Nat) : fL p e last m (L ++ [x]) = fstep p e last m (fL p e last m L) x := by
  unfold fL; rw [List.foldl_append]; rfl
theorem fL_bd {p e m : Nat} {last : Int} (h1 : -60 ≤ last) (h2 : last ≤ 0) (i j : Nat) : ∀ L : List Nat, -(60 * (L.length : Int)) ≤ fL p e last m L i j ∧ fL p e last m L i j ≤ 60 * (L.length : Int) := by
  have key : ∀ L (F : Nat → Nat → Int) (c : Int), 0 ≤ c → (-c ≤ F i j ∧ F i j ≤ c) → -(c + 60 * (L.length : Int)) ≤ (List.foldl (fstep p e last m) F L) i j ∧ (List.foldl (fstep p e last m) F L) i j ≤ c + 60 * (L.length : Int) := by
    intro L
    induction L with
    | nil => intro F c hc h; simp only [List.foldl_nil, List.length_nil]; omega
    | cons x L ih =>
      intro F c hc h
      have := ih (fstep p e last m F x) (c + 60) (by omega) (by
        unfold fstep
        split
        · split <;> omega
        · split <;> omega)
      simp only [List.foldl_cons, List.length_cons]
      omega
  intro L
  have := key L (fun _ _ => 0) 0 (by omega) (by simp)
  unfold fL
  omega
theorem fL_range {p e : Nat} {last : Int} {m : Nat} (i j : Nat) : ∀ k, k < m → fL p e last m (List.range k) i j = cntN p e (k + 1) i j
  | 0, _ => by simp [fL, cntN]
  | k + 1, hk => by
    rw [List.range_succ, fL_snoc]
    unfold fstep
    rw [fL_range i j k (by omega), if_neg (by omega), show cntN p e (k + 1 + 1) i j = cntN p e (k + 1) i j + if 1 ≤ k + 1 ∧ i = clsN p e (k + 1) ∧ j = clsN p e (k + 1 + 1) then 1 else 0 from rfl]
    congr 1
    by_cases h : i = clsN p e (k + 1) ∧ j = clsN p e (k + 2)
    · rw [if_pos h, if_pos ⟨by omega, h.1, h.2⟩]
    · rw [if_neg h, if_neg (fun h' => h ⟨h'.2.1, h'.2.2⟩)]
theorem fL_all {p e : Nat} {last : Int} {m : Nat} (hm : p - 1 = m) (h1 : 1 ≤ m) (i j : Nat) : fL p e last m (List.range m) i j = rowN p e last i j := by
  obtain ⟨k, rfl⟩ : ∃ k, m = k + 1 := ⟨m - 1, by omega⟩
  rw [List.range_succ, fL_snoc]
  unfold fstep rowN tabN
  rw [fL_range i j k (by omega), if_pos rfl, hm]

theorem Frame.of_belowB {B : Nat} {w w' : World} (h : Below B w w') : Frame B w'.heap.size w w' :=
  ⟨h.os, h.tape, h.output, h.size, fun k hk hq => by
    rcases hq with hq | hq
    · exact h.block k hq
    · have := h.size; omega⟩

/-- What followerRows works on. -/
def StF (bl b7 b8 T R B T2 bp b5 p e : Nat) (last : Int) (W : World) (G : Nat → Nat → Int) : Prop :=
  Box W bl [.int .i64 last] ∧ Box W b7 [.slice (some ⟨R, 0, none⟩) e e] ∧
    Box W b8 [.func (.func 88) #[] #[.pointer (some ⟨bp, 0, none⟩), .pointer (some ⟨b5, 0, none⟩)]] ∧ Tab W T R e e G ∧ Cls W B T2 bp b5 p e
theorem StF.keepB {bl b7 b8 T R B T2 bp b5 p e C : Nat} {last : Int} {W W' : World} {G : Nat → Nat → Int} (h : StF bl b7 b8 T R B T2 bp b5 p e last W G) (hb : Below C W W') (hC : bl < C ∧ b7 < C ∧ b8 < C ∧ T < C ∧ R < C ∧ T2 ≤ C) : StF bl b7 b8 T R B T2 bp b5 p e last W' G :=
  ⟨h.1.keepB hb hC.1, h.2.1.keepB hb hC.2.1, h.2.2.1.keepB hb hC.2.2.1, h.2.2.2.1.keepF (Frame.of_belowB hb) (.inl hC.2.2.2.1) (.inl hC.2.2.2.2.1), h.2.2.2.2.keep (KeepsR.below hb hC.2.2.2.2.2)⟩
theorem StF.store {bl b7 b8 T R B T2 bp b5 p e i j : Nat} {last x : Int} {W : World} {G : Nat → Nat → Int} (h : StF bl b7 b8 T R B T2 bp b5 p e last W G) (he : 1 ≤ e) (hi : i < e) (hj : j < e) (hx : inR x) (hT : bl ≠ T ∧ b7 ≠ T ∧ b8 ≠ T ∧ (T < B ∨ T2 ≤ T)) :
    StF bl b7 b8 T R B T2 bp b5 p e last (W.setCell ⟨T, i * e + j, none⟩ (.int .i64 x)) (fun y t => if y = i ∧ t = j then x else G y t) :=
  ⟨h.1.other _ _ hT.1, h.2.1.other _ _ hT.2.1, h.2.2.1.other _ _ hT.2.2.1, h.2.2.2.1.store he hi hj hx, h.2.2.2.2.keep (KeepsR.setCell _ hT.2.2.2)⟩
theorem StF.congr {bl b7 b8 T R B T2 bp b5 p e : Nat} {last : Int} {W : World} {G G' : Nat → Nat → Int} (h : StF bl b7 b8 T R B T2 bp b5 p e last W G) (he : 1 ≤ e) (hG : ∀ i j, i < e → j < e → G' i j = G i j) : StF bl b7 b8 T R B T2 bp b5 p e last W G' :=
  ⟨h.1, h.2.1, h.2.2.1, h.2.2.2.1.congr he hG, h.2.2.2.2⟩
theorem StF.drew {bl b7 b8 T R B T2 bp b5 p e : Nat} {last : Int} {W : World} {G : Nat → Nat → Int} (h : StF bl b7 b8 T R B T2 bp b5 p e last W G) : StF bl b7 b8 T R B T2 bp b5 p e last W.drew G :=
  ⟨h.1.keep (Below.refl _ _).drew, h.2.1.keep (Below.refl _ _).drew, h.2.2.1.keep (Below.refl _ _).drew, h.2.2.2.1.keep (Below.refl _ _).drew, h.2.2.2.2.keep (KeepsR.below (Below.refl _ _).drew h.2.2.2.2.1)⟩

set_option maxRecDepth 100000 in
set_option maxHeartbeats 8000000 in
theorem followerRows_any (p e : Nat) (last : Int) (hp : primeN p = true) (h1 : 1 ≤ e) (h2 : e ≤ 12) (hl1 : -60 ≤ last) (hl2 : last ≤ 0) (w : World) :
    Calls Try.prog 85 #[.int .i64 (p : Int), .int .i64 (e : Int), .int .i64 last] w fun r w' => ∃ R T, r = .returned (.slice (some ⟨R, 0, none⟩) e e) ∧ Tab w' T R e e (rowN p e last) ∧ w.heap.size ≤ T ∧ w.heap.size ≤ R ∧ Below w.heap.size w w' := by
  have hb := primeN_bd hp
  obtain ⟨m, hm⟩ : ∃ m, p - 1 = m := ⟨_, rfl⟩
  have HM := Lib.hid hm
  have HP := Lib.hid hp
  have hm60 : m ≤ 60 := by omega
  have hm2 : 2 ≤ m := by omega
  clear hp hm
  have st0 := (((St.start w).alloc (.cells #[.int .i64 last] 2)).addBox w.heap.size [.int .i64 last] (Box.made _ _ _ _ (fun j v h => by simpa using h)))
  refine (callsIn_wide (n := 20)).1 ?_
  have hro : Fence.wide.round = none := rfl
  refine callsIn_of_wp_marks Try.func85 rfl trivial ?_ hro
  simp only [Try.ntmps85, List.size_toArray, List.length_cons, List.length_nil, Nat.reduceAdd, Nat.reduceSub, Array.replicate_succ, Array.replicate_zero, List.push_toArray, List.append_toArray, List.nil_append, List.cons_append]
  gi_wp2
  refine wpIn_scope_straight ?_
  gi_wp2_with (first
    | (refine ⟨trivial, ?_⟩; gi_at_call 92; refine (callsIn_wide.2 (newRows_any e e h1 (by omega) h1 (by omega) _)).mono ?_; rintro r w1 ⟨rfl, ht1, b1⟩)
    | (refine ⟨trivial, ?_⟩; gi_at_call 66; refine (callsIn_wide.2 (classesOf_any p e HP.out h1 h2 _)).mono ?_; rintro r w2 ⟨b5, rfl, hcls, b2⟩))
  refine wpIn_label ?_
  gi_wp2
  have sz1 := ht1.size
  simp only [World.size_alloc] at sz1 ht1 hcls
  have hz2 := b2.size
  simp only [World.size_alloc] at hz2
  have bl0 := ((((st0.keep b1).alloc (.cells #[.slice (some ⟨w.heap.size + 1 + 1, 0, none⟩) e e] 26)).keep b2).alloc (.cells #[.func (.func 88) #[] #[.pointer (some ⟨w1.heap.size + 1, 0, none⟩), .pointer (some ⟨b5, 0, none⟩)]] 74))
  have b70 := ((Box.made w1 #[.slice (some ⟨w.heap.size + 1 + 1, 0, none⟩) e e] 26 [.slice (some ⟨w.heap.size + 1 + 1, 0, none⟩) e e] (fun j v h => by simpa using h)).keep b2).keep ((Below.refl _ _).alloc (Nat.le_refl _) (.cells #[.func (.func 88) #[] #[.pointer (some ⟨w1.heap.size + 1, 0, none⟩), .pointer (some ⟨b5, 0, none⟩)]] 74))
  have b80 := Box.made w2 #[.func (.func 88) #[] #[.pointer (some ⟨w1.heap.size + 1, 0, none⟩), .pointer (some ⟨b5, 0, none⟩)]] 74 [.func (.func 88) #[] #[.pointer (some ⟨w1.heap.size + 1, 0, none⟩), .pointer (some ⟨b5, 0, none⟩)]] (fun j v h => by simpa using h)
  have tb0 := ((ht1.keep ((Below.refl _ _).alloc (Nat.le_refl _) (.cells #[.slice (some ⟨w.heap.size + 1 + 1, 0, none⟩) e e] 26))).keep b2).keep ((Below.refl _ _).alloc (Nat.le_refl _) (.cells #[.func (.func 88) #[] #[.pointer (some ⟨w1.heap.size + 1, 0, none⟩), .pointer (some ⟨b5, 0, none⟩)]] 74))
  have cl0 := hcls.keep (KeepsR.below ((Below.refl _ w2).alloc (Nat.le_refl _) (.cells #[.func (.func 88) #[] #[.pointer (some ⟨w1.heap.size + 1, 0, none⟩), .pointer (some ⟨b5, 0, none⟩)]] 74)) (Nat.le_refl _))
  have hB0 := bl0.1
  have bl1 := bl0.box 0 (w.heap.size, [.int .i64 last]) rfl
  dsimp only at bl1
  have hsz : w2.heap.size + 1 ≤ (w2.alloc (.cells #[.func (.func 88) #[] #[.pointer (some ⟨w1.heap.size + 1, 0, none⟩), .pointer (some ⟨b5, 0, none⟩)]] 74)).heap.size := by simp
  obtain ⟨W0, hW0⟩ : ∃ W0, w2.alloc (.cells #[.func (.func 88) #[] #[.pointer (some ⟨w1.heap.size + 1, 0, none⟩), .pointer (some ⟨b5, 0, none⟩)]] 74) = W0 := ⟨_, rfl⟩
  rw [hW0] at bl1 b70 b80 tb0 cl0 hB0 hsz ⊢
  have hS0 : StF w.heap.size w1.heap.size w2.heap.size (w.heap.size + 1) (w.heap.size + 1 + 1) (w1.heap.size + 1) w2.heap.size (w1.heap.size + 1) b5 p e last W0 (fL p e last m ([] : List Nat)) := ⟨bl1, b70, b80, tb0, cl0⟩
  clear hW0 bl0 bl1 b70 b80 tb0 cl0 ht1 b1 b2 hcls st0
  refine wpIn_rangeFunc_ownH hro (by omega) (gf := 88) (lb := #[.pointer (some ⟨w1.heap.size + 1, 0, none⟩), .pointer (some ⟨b5, 0, none⟩)]) rfl trivial (enters_of Try.func88 (by kernel_rfl) rfl)
    (cls_stops p e m HP.out h1 h2 HM.out (20 - 1) (by omega) (w1.heap.size + 1) w2.heap.size (w1.heap.size + 1) b5 W0 hS0.2.2.2.2) (fun h k => h.trans k) (KeepsR.at (by omega)) (Below.refl _ _) (fun _ => rfl)
    (fun pre W => StF w.heap.size w1.heap.size w2.heap.size (w.heap.size + 1) (w.heap.size + 1 + 1) (w1.heap.size + 1) w2.heap.size (w1.heap.size + 1) b5 p e last W (fL p e last m (pre.map Fin.val)) ∧ Below w.heap.size w W ∧ W0.heap.size ≤ W.heap.size)
    (fun _ _ _ => False)
    (fun s A B row hs hg hr => by
      obtain ⟨h1, h5, h6⟩ := hs
      have hB := grown_below hg hr h6
      exact ⟨h1.keepB hB (by omega), h5.trans (hB.mono (by omega)), Nat.le_trans h6 hg.size⟩)
    (fun _ _ _ _ _ hs _ _ => hs)
    ⟨hS0, hB0, Nat.le_refl _⟩
    (fun x a' W => ∃ Bx Bc, W0.heap.size ≤ Bx ∧ W0.heap.size ≤ Bc ∧ Boxed W Bx 2 (.int .i64 ((x.1 : Int) + 1)) ∧ Boxed W Bc 2 (.int .i64 (clsN p e (x.1 + 1) : Nat)) ∧ a' = { tmps := #[.int .i64 (p : Int), .int .i64 (e : Int), .int .i64 last, undef, undef, .pointer (some ⟨w.heap.size, 0, none⟩), .slice none 0 0, .pointer (some ⟨w1.heap.size, 0, none⟩), .pointer (some ⟨w2.heap.size, 0, none⟩), .pointer (some ⟨Bx, 0, none⟩), .pointer (some ⟨Bc, 0, none⟩), undef, undef, undef, .int .i64 (e : Int), .int .i64 (e : Int), .slice (some ⟨w.heap.size + 1 + 1, 0, none⟩) e e, .int .i64 (p : Int), .int .i64 (e : Int), .func (.func 88) #[] #[.pointer (some ⟨w1.heap.size + 1, 0, none⟩), .pointer (some ⟨b5, 0, none⟩)], .func (.func 88) #[] #[.pointer (some ⟨w1.heap.size + 1, 0, none⟩), .pointer (some ⟨b5, 0, none⟩)], .int .i64 ((x.1 : Int) + 1), .int .i64 (clsN p e (x.1 + 1) : Nat), undef, undef, undef, undef, undef, undef, undef, undef, undef, undef, undef, undef, undef, undef, undef, undef, undef, undef, undef, undef, undef, undef, undef, undef, undef, undef, undef, undef, undef, undef, undef, undef, undef, undef, undef, undef], defers := [] })
    (fun x a' _ A B row hs hg hr => by
      obtain ⟨Bx, Bc, e1, e2, e3, e4, e5⟩ := hs
      exact ⟨Bx, Bc, e1, e2, boxed_own Bx 2 (fun (_ : Unit) => (.int .i64 ((x.1 : Int) + 1) : Value)) () A B row e3 hg (fun r e => (hr r e).2), boxed_own Bc 2 (fun (_ : Unit) => (.int .i64 (clsN p e (x.1 + 1) : Nat) : Value)) () A B row e4 hg (fun r e => (hr r e).2), e5⟩)
    ?assign ?body ?done ?stop
  case assign =>
    rintro l pre x W K ⟨hS, hB, hz⟩ hK
    dsimp only [encC]
    gi_wp2
    have hb2 : Below W.heap.size W ((W.alloc (.cells #[.int .i64 ((x.1 : Int) + 1)] 2)).alloc (.cells #[.int .i64 (clsN p e (x.1 + 1) : Nat)] 2)) := ((Below.refl _ W).alloc (Nat.le_refl _) _).alloc (by simp) _
    refine hK _ _ (((KeepsOthers.alloc _ _).trans (KeepsOthers.alloc _ _)).from _) (KeepsR.below hb2 (by omega)) ⟨hS.keepB hb2 (by omega), hB.trans (hb2.mono hB.size), Nat.le_trans hz hb2.size⟩ ⟨W.heap.size, W.heap.size + 1, hz, by omega, (Boxed.new W _ _).alloc _, ?_, rfl⟩
    have hbc := Boxed.new (W.alloc (.cells #[.int .i64 ((x.1 : Int) + 1)] 2)) 2 (.int .i64 (clsN p e (x.1 + 1) : Nat))
    simp only [World.size_alloc] at hbc
    exact hbc
  case body =>
    rintro l pre x a' W hl ⟨r, hr⟩ ⟨hS, hB, hz⟩ ⟨Bx, Bc, hBx, hBc, bX, bC, rfl⟩ hlt
    have c8 := hS.2.2.1.2.1 0 _ rfl
    have hpre : (pre.map Fin.val).length = pre.length := List.length_map _
    gi_wp2
    refine wpIn_rangeFunc_ownN (l₀ := l) (r₀ := r) rfl hr (by omega) (gf := 88) (lb := #[.pointer (some ⟨w1.heap.size + 1, 0, none⟩), .pointer (some ⟨b5, 0, none⟩)]) rfl trivial (enters_of Try.func88 (by kernel_rfl) rfl)
      ((cls_stops p e m HP.out h1 h2 HM.out (20 - 1 - 1 - 1) (by omega) (w1.heap.size + 1) w2.heap.size (w1.heap.size + 1) b5 W hS.2.2.2.2).inRound l) (fun h k => h.trans k) (KeepsR.at (by omega)) (Below.refl _ _) (fun _ => rfl)
      (fun pre' W' => ((∀ y ∈ pre', y.1 ≠ x.1 + 1) ∧ StF w.heap.size w1.heap.size w2.heap.size (w.heap.size + 1) (w.heap.size + 1 + 1) (w1.heap.size + 1) w2.heap.size (w1.heap.size + 1) b5 p e last W' (fL p e last m (pre.map Fin.val)) ∧ Boxed W' Bx 2 (.int .i64 ((x.1 : Int) + 1)) ∧ Boxed W' Bc 2 (.int .i64 (clsN p e (x.1 + 1) : Nat))) ∧ Below w.heap.size W W' ∧ KeepsFrom W0.heap.size W W' ∧ KeepsR (w1.heap.size + 1) w2.heap.size W W')
      (fun c pre' W' => (c = .exit 1 ∧ StF w.heap.size w1.heap.size w2.heap.size (w.heap.size + 1) (w.heap.size + 1 + 1) (w1.heap.size + 1) w2.heap.size (w1.heap.size + 1) b5 p e last W' (fL p e last m ((pre ++ [x]).map Fin.val))) ∧ Below w.heap.size W W' ∧ KeepsFrom W0.heap.size W W' ∧ KeepsR (w1.heap.size + 1) w2.heap.size W W')
      (fun s A B row hs hg hr => by
        obtain ⟨⟨g1, g2, g3, g4⟩, g5, g6, g7⟩ := hs
        have hB' := grown_below hg hr g5.size
        exact ⟨⟨g1, g2.keepB hB' (by omega), boxed_own Bx 2 (fun (_ : Unit) => (.int .i64 ((x.1 : Int) + 1) : Value)) () A B row g3 hg (fun r e => (hr r e).2), boxed_own Bc 2 (fun (_ : Unit) => (.int .i64 (clsN p e (x.1 + 1) : Nat) : Value)) () A B row g4 hg (fun r e => (hr r e).2)⟩, g5.trans (hB'.mono hB.size), ownFrom_keepsFrom (β := Unit) (B := W0.heap.size) (w₀ := W) (Nat.le_refl W.heap.size) () A B row g6 hg hr, g7.trans (KeepsR.below hB' (by omega))⟩)
      (fun c s A B row hs hg hr => by
        obtain ⟨⟨g1, g2⟩, g5, g6, g7⟩ := hs
        have hB' := grown_below hg hr g5.size
        exact ⟨⟨g1, g2.keepB hB' (by omega)⟩, g5.trans (hB'.mono hB.size), ownFrom_keepsFrom (β := Unit) (B := W0.heap.size) (w₀ := W) (Nat.le_refl W.heap.size) () A B row g6 hg hr, g7.trans (KeepsR.below hB' (by omega))⟩)
      ⟨⟨fun y hy => absurd hy List.not_mem_nil, hS, bX, bC⟩, Below.refl _ _, KeepsFrom.refl _ _, KeepsR.refl _ _ _⟩
      (fun y a'' _ => a'' = { tmps := #[.int .i64 (p : Int), .int .i64 (e : Int), .int .i64 last, undef, undef, .pointer (some ⟨w.heap.size, 0, none⟩), .slice none 0 0, .pointer (some ⟨w1.heap.size, 0, none⟩), .pointer (some ⟨w2.heap.size, 0, none⟩), .pointer (some ⟨Bx, 0, none⟩), .pointer (some ⟨Bc, 0, none⟩), .int .i64 ((y.1 : Int) + 1), .int .i64 (clsN p e (y.1 + 1) : Nat), undef, .int .i64 (e : Int), .int .i64 (e : Int), .slice (some ⟨w.heap.size + 1 + 1, 0, none⟩) e e, .int .i64 (p : Int), .int .i64 (e : Int), .func (.func 88) #[] #[.pointer (some ⟨w1.heap.size + 1, 0, none⟩), .pointer (some ⟨b5, 0, none⟩)], .func (.func 88) #[] #[.pointer (some ⟨w1.heap.size + 1, 0, none⟩), .pointer (some ⟨b5, 0, none⟩)], .int .i64 ((x.1 : Int) + 1), .int .i64 (clsN p e (x.1 + 1) : Nat), .func (.func 88) #[] #[.pointer (some ⟨w1.heap.size + 1, 0, none⟩), .pointer (some ⟨b5, 0, none⟩)], .int .i64 ((y.1 : Int) + 1), .int .i64 (clsN p e (y.1 + 1) : Nat), undef, undef, undef, undef, undef, undef, undef, undef, undef, undef, undef, undef, undef, undef, undef, undef, undef, undef, undef, undef, undef, undef, undef, undef, undef, undef, undef, undef, undef, undef, undef, undef, undef], defers := [] })
      (fun _ _ _ _ _ _ hs _ _ => hs)
      ?assign2 ?body2 ?done2 ?stop2
    case assign2 =>
      rintro l2 pre' y W' K hi hK
      dsimp only [encC]
      gi_wp2
      exact hK _ _ (KeepsFrom.refl _ _) (KeepsR.refl _ _ _) hi rfl
    case body2 =>
      rintro l2 pre' y a'' W' _ _ ⟨⟨hq, hS2, bX2, bC2⟩, hBW, hKF, hKR⟩ rfl _
      have cX := bX2.cell
      have hx2 := x.2
      have hy2 := y.2
      by_cases hxy : y.1 = x.1 + 1
      · have hb2 : (((y.1 : Int) + 1) == ((x.1 : Int) + 1 + 1)) = true := by rw [hxy]; simp
        have cC := bC2.cell
        have c7 := hS2.2.1.2.1 0 _ rfl
        have hcx := cls_lt (p := p) (x := x.1 + 1) h1
        have hcy := cls_lt (p := p) (x := y.1 + 1) h1
        have hbd := fL_bd (p := p) (e := e) (m := m) hl1 hl2 (clsN p e (x.1 + 1)) (clsN p e (y.1 + 1)) (pre.map Fin.val)
        rw [hpre] at hbd
        have HSN := Lib.hid (fun i j => (show fL p e last m ((pre ++ [x]).map Fin.val) i j = if i = clsN p e (x.1 + 1) ∧ j = clsN p e (y.1 + 1) then fL p e last m (pre.map Fin.val) (clsN p e (x.1 + 1)) (clsN p e (y.1 + 1)) + 1 else fL p e last m (pre.map Fin.val) i j from by
          rw [List.map_append, List.map_singleton, fL_snoc]; unfold fstep
          rw [if_neg (show ¬ x.1 + 1 = m by omega), hxy]
          by_cases hij : i = clsN p e (x.1 + 1) ∧ j = clsN p e (x.1 + 1 + 1)
          · rw [if_pos hij, if_pos hij, hij.1, hij.2]
          · rw [if_neg hij, if_neg hij]; simp))
        have cR := hS2.2.2.2.1.head hcx
        have cT := ((hS2.2.2.2.1.row h1 hcx).known (by omega)).2.2.2.1 (clsN p e (y.1 + 1)) hcy
        have fT := ((hS2.2.2.2.1.row h1 hcx).known (by omega)).2.2.2.2 rfl (clsN p e (x.1 + 1) * e + clsN p e (y.1 + 1))
        have HS2 := Lib.hid hS2
        clear hxy hq hS2
        generalize fL p e last m (pre.map Fin.val) = G at *
        generalize clsN p e (x.1 + 1) = cc at *
        generalize clsN p e (y.1 + 1) = cy at *
        gi_wp2
        refine ⟨(KeepsOthers.setCell _ _ _).from _, ⟨rfl, (HS2.out.store h1 hcx hcy (x := G cc cy + 1) (by unfold inR; omega) (by omega)).congr h1 (fun i j _ _ => HSN.out i j)⟩, hBW.setCell (p := ⟨w.heap.size + 1, cc * e + cy, none⟩) (by simp) _, hKF.trans ((KeepsOthers.setCell _ _ _).from _), hKR.trans (KeepsR.setCell _ (by simp; omega))⟩
      · have hb2 : (((y.1 : Int) + 1) == ((x.1 : Int) + 1 + 1)) = false := beq_eq_false_iff_ne.2 (by omega)
        gi_wp2
        exact ⟨KeepsFrom.refl _ _, KeepsR.refl _ _ _, ⟨fun z hz' => (List.mem_append.1 hz').elim (hq z) (fun e' => by simp at e'; subst e'; exact hxy), hS2, bX2, bC2⟩, hBW, hKF, hKR⟩
    case done2 =>
      rintro ys' W' hys ⟨⟨hq, hS2, bX2, bC2⟩, hBW, hKF, hKR⟩
      have hx2 := x.2
      have hxm : x.1 + 1 = m := by
        rcases Nat.lt_or_ge (x.1 + 1) m with h' | h'
        · have hin : x.1 + 1 ∈ ys'.map Fin.val := by rw [hys]; exact List.mem_range.2 h'
          obtain ⟨y, hy, hyx⟩ := List.mem_map.1 hin
          exact absurd hyx (hq y hy)
        · omega
      have cC := bC2.cell
      have c7 := hS2.2.1.2.1 0 _ rfl
      have hcx := cls_lt (p := p) (x := x.1 + 1) h1
      have cR := hS2.2.2.2.1.head hcx
      have HBD := Lib.hid (fun j => (show -3600 ≤ fL p e last m (pre.map Fin.val) (clsN p e (x.1 + 1)) j ∧ fL p e last m (pre.map Fin.val) (clsN p e (x.1 + 1)) j ≤ 3600 from by
        have h' := fL_bd (p := p) (e := e) (m := m) hl1 hl2 (clsN p e (x.1 + 1)) j (pre.map Fin.val)
        rw [hpre] at h'
        omega))
      have HSN := Lib.hid (fun i j => (show fL p e last m ((pre ++ [x]).map Fin.val) i j = if i = clsN p e (x.1 + 1) then fL p e last m (pre.map Fin.val) i j + last else fL p e last m (pre.map Fin.val) i j from by
        rw [List.map_append, List.map_singleton, fL_snoc]; unfold fstep
        rw [if_pos hxm]
        by_cases hij : i = clsN p e (x.1 + 1)
        · rw [if_pos hij, if_pos hij]
        · rw [if_neg hij, if_neg hij]; simp))
      have HS2 := Lib.hid hS2
      have HKR := Lib.hid hKR
      clear hxm hq hS2 hKR
      generalize fL p e last m (pre.map Fin.val) = G at *
      generalize clsN p e (x.1 + 1) = cc at *
      gi_wp2
      gi_loopw [44] (fun s44 wr => ∃ k : Nat, k ≤ e ∧ s44 = .int .i64 (k : Int) ∧ StF w.heap.size w1.heap.size w2.heap.size (w.heap.size + 1) (w.heap.size + 1 + 1) (w1.heap.size + 1) w2.heap.size (w1.heap.size + 1) b5 p e last wr (fun i j => if i = cc ∧ j < k then G i j + last else G i j) ∧ Boxed wr Bc 2 (.int .i64 (cc : Nat)) ∧ Below w.heap.size W wr ∧ KeepsFrom W0.heap.size W wr ∧ KeepsR (w1.heap.size + 1) w2.heap.size W wr) (fun s44 _ => e + 1 - (intOf s44).toNat)
      case atStart => exact ⟨0, Nat.zero_le _, rfl, HS2.out.congr h1 (fun i j _ _ => by rw [if_neg (fun h' => absurd h'.2 (Nat.not_lt_zero _))]), bC2, hBW, hKF, HKR.out⟩
      case round =>
        clear cC c7 cR
        obtain ⟨k, hk, rfl, hS3, bC3, hB3, hKF3, hKR3⟩ := hrel
        have cC := bC3.cell
        have c7 := hS3.2.1.2.1 0 _ rfl
        have c5 := hS3.1.2.1 0 _ rfl
        have cR := hS3.2.2.2.1.head hcx
        have HS3 := Lib.hid hS3
        have HKR3 := Lib.hid hKR3
        have hmx : Try.prog.follows .mixedOrders = true := by kernel_rfl
        by_cases hlt : k < e
        · have hbk := HBD.out k
          have cT := ((hS3.2.2.2.1.row h1 hcx).known (by omega)).2.2.2.1 k hlt
          have fT := ((hS3.2.2.2.1.row h1 hcx).known (by omega)).2.2.2.2 rfl (cc * e + k)
          try dsimp only at cT
          rw [if_neg (show ¬ (cc = cc ∧ k < k) by omega)] at cT
          have FIN := Lib.hid (show ∃ k' : Nat, k' ≤ e ∧ (Value.int .i64 ((k : Int) + 1)) = .int .i64 (k' : Int) ∧ StF w.heap.size w1.heap.size w2.heap.size (w.heap.size + 1) (w.heap.size + 1 + 1) (w1.heap.size + 1) w2.heap.size (w1.heap.size + 1) b5 p e last (wr.setCell ⟨w.heap.size + 1, cc * e + k, none⟩ (.int .i64 (G cc k + last))).drew (fun i j => if i = cc ∧ j < k' then G i j + last else G i j) ∧ Boxed (wr.setCell ⟨w.heap.size + 1, cc * e + k, none⟩ (.int .i64 (G cc k + last))).drew Bc 2 (.int .i64 (cc : Nat)) ∧ Below w.heap.size W (wr.setCell ⟨w.heap.size + 1, cc * e + k, none⟩ (.int .i64 (G cc k + last))).drew ∧ KeepsFrom W0.heap.size W (wr.setCell ⟨w.heap.size + 1, cc * e + k, none⟩ (.int .i64 (G cc k + last))).drew ∧ KeepsR (w1.heap.size + 1) w2.heap.size W (wr.setCell ⟨w.heap.size + 1, cc * e + k, none⟩ (.int .i64 (G cc k + last))).drew from by
            refine ⟨k + 1, by omega, by simp, ((HS3.out.store h1 hcx hlt (x := G cc k + last) (by unfold inR; omega) (by omega)).congr h1 (fun i j _ _ => ?_)).drew, (Below.heap_setCell _ _ _ _ (by show Bc ≠ w.heap.size + 1; omega)).trans bC3, (hB3.setCell (p := ⟨w.heap.size + 1, cc * e + k, none⟩) (by simp) _).drew, hKF3.trans (((KeepsOthers.setCell _ _ _).trans (KeepsOthers.drew _)).from _), (HKR3.out.trans (KeepsR.setCell _ (by simp; omega))).drew⟩
            by_cases hij : i = cc ∧ j = k
            · rw [if_pos hij, if_pos ⟨hij.1, by omega⟩, hij.1, hij.2]
            · rw [if_neg hij]
              by_cases hi2 : i = cc ∧ j < k
              · rw [if_pos hi2, if_pos ⟨hi2.1, by omega⟩]
              · rw [if_neg hi2, if_neg (fun h' => hi2 ⟨h'.1, by
                  rcases Nat.lt_or_ge j k with h3 | h3
                  · exact h3
                  · exact absurd ⟨h'.1, by omega⟩ hij⟩)])
          generalize G cc k = V at *
          clear hS3 hKR3
          have hwv : IntKind.i64.wrap (V + last) = V + last := IntWalk.i64_in _ (by omega)
          gi_wp2
          refine wpIn_region_round hmx (by kernel_rfl) ?_
          refine wpAnyIn_take (i := 4) (v := .int .i64 (k : Int)) rfl rfl (by kernel_rfl) (by kernel_rfl) (by kernel_rfl) (fun _ _ _ h => h) ⟨Or.inl ⟨by rfl, by intro w; go_simp⟩, fun _ => rfl⟩ ?_
          refine wpAnyIn_ready (rs := [0, 1, 7]) (by kernel_rfl) (by simp) ?_
          refine AllReadyIn.cons rfl (fun K hK => ?_) ?_
          · go_simp
            refine hK _ _ ?_
            clear hK K
            refine wpAnyIn_ready (rs := [1, 7]) (by kernel_rfl) (by simp) ?_
            refine AllReadyIn.cons rfl (fun K hK => ?_) ?_
            · go_simp
              refine hK _ _ ?_
              clear hK K
              refine wpAnyIn_take (i := 2) (v := .pointer (some ⟨w.heap.size + 1 + 1, cc, none⟩)) rfl rfl (by kernel_rfl) (by kernel_rfl) (by kernel_rfl) (fun _ _ _ h => h) ⟨Or.inl ⟨by rfl, by intro w; go_simp⟩, fun _ => rfl⟩ ?_
              refine wpAnyIn_ready (rs := [3, 7]) (by kernel_rfl) (by simp) ?_
              refine AllReadyIn.cons rfl (fun K hK => ?_) ?_
              · go_simp
                refine hK _ _ ?_
                clear hK K
                refine wpAnyIn_take (i := 5) (v := .pointer (some ⟨w.heap.size + 1, cc * e + k, none⟩)) rfl rfl (by kernel_rfl) (by kernel_rfl) (by kernel_rfl) (fun _ _ _ h => h) ⟨Or.inl ⟨by rfl, by intro w; go_simp⟩, fun _ => rfl⟩ ?_
                refine wpAnyIn_ready (rs := [6, 7]) (by kernel_rfl) (by simp) ?_
                refine AllReadyIn.cons rfl (fun K hK => ?_) ?_
                · go_simp
                  refine hK _ _ ?_
                  clear hK K
                  refine wpAnyIn_ready (rs := [7]) (by kernel_rfl) (by simp) ?_
                  refine AllReadyIn.cons rfl (fun K hK => ?_) ?_
                  · go_simp
                    refine hK _ _ ?_
                    clear hK K
                    refine wpAnyIn_take (i := 8) (v := .int .i64 (V + last)) rfl rfl (by kernel_rfl) (by kernel_rfl) (by kernel_rfl) (fun _ _ _ h => h) ⟨Or.inl ⟨by rfl, by intro w; go_simp⟩, fun _ => rfl⟩ ?_
                    refine wpAnyIn_take (i := 9) (v := .pointer (some ⟨w.heap.size + 1, cc * e + k, none⟩)) rfl rfl (by kernel_rfl) (by kernel_rfl) (by kernel_rfl) (fun _ _ _ h => h) ⟨Or.inl ⟨by rfl, by intro w; go_simp⟩, fun _ => rfl⟩ ?_
                    refine wpAnyIn_ready (rs := [10]) (by kernel_rfl) (by simp) ?_
                    refine AllReadyIn.cons rfl (fun K hK => ?_) ?_
                    · go_simp
                      refine hK _ _ ?_
                      clear hK K
                      refine wpAnyIn_done (by kernel_rfl) ?_ _
                      gi_wp2
                      go_roundw
                      case rel => exact FIN.out
                      case measure => simp [intOf]; omega
                    exact AllReadyIn.nil
                  exact AllReadyIn.nil
                refine AllReadyIn.cons rfl (fun K hK => ?_) ?_
                · go_simp
                  refine hK _ _ ?_
                  clear hK K
                  refine wpAnyIn_ready (rs := [6]) (by kernel_rfl) (by simp) ?_
                  refine AllReadyIn.cons rfl (fun K hK => ?_) ?_
                  · go_simp
                    refine hK _ _ ?_
                    clear hK K
                    refine wpAnyIn_take (i := 8) (v := .int .i64 (V + last)) rfl rfl (by kernel_rfl) (by kernel_rfl) (by kernel_rfl) (fun _ _ _ h => h) ⟨Or.inl ⟨by rfl, by intro w; go_simp⟩, fun _ => rfl⟩ ?_
                    refine wpAnyIn_take (i := 9) (v := .pointer (some ⟨w.heap.size + 1, cc * e + k, none⟩)) rfl rfl (by kernel_rfl) (by kernel_rfl) (by kernel_rfl) (fun _ _ _ h => h) ⟨Or.inl ⟨by rfl, by intro w; go_simp⟩, fun _ => rfl⟩ ?_
                    refine wpAnyIn_ready (rs := [10]) (by kernel_rfl) (by simp) ?_
                    refine AllReadyIn.cons rfl (fun K hK => ?_) ?_
                    · go_simp
                      refine hK _ _ ?_
                      clear hK K
                      refine wpAnyIn_done (by kernel_rfl) ?_ _
                      gi_wp2
                      go_roundw
                      case rel => exact FIN.out
                      case measure => simp [intOf]; omega
                    exact AllReadyIn.nil
                  exact AllReadyIn.nil
                exact AllReadyIn.nil
              refine AllReadyIn.cons rfl (fun K hK => ?_) ?_
              · go_simp
                refine hK _ _ ?_
                clear hK K
                refine wpAnyIn_ready (rs := [3]) (by kernel_rfl) (by simp) ?_
                refine AllReadyIn.cons rfl (fun K hK => ?_) ?_
                · go_simp
                  refine hK _ _ ?_
                  clear hK K
                  refine wpAnyIn_take (i := 5) (v := .pointer (some ⟨w.heap.size + 1, cc * e + k, none⟩)) rfl rfl (by kernel_rfl) (by kernel_rfl) (by kernel_rfl) (fun _ _ _ h => h) ⟨Or.inl ⟨by rfl, by intro w; go_simp⟩, fun _ => rfl⟩ ?_
                  refine wpAnyIn_ready (rs := [6]) (by kernel_rfl) (by simp) ?_
                  refine AllReadyIn.cons rfl (fun K hK => ?_) ?_
                  · go_simp
                    refine hK _ _ ?_
                    clear hK K
                    refine wpAnyIn_take (i := 8) (v := .int .i64 (V + last)) rfl rfl (by kernel_rfl) (by kernel_rfl) (by kernel_rfl) (fun _ _ _ h => h) ⟨Or.inl ⟨by rfl, by intro w; go_simp⟩, fun _ => rfl⟩ ?_
                    refine wpAnyIn_take (i := 9) (v := .pointer (some ⟨w.heap.size + 1, cc * e + k, none⟩)) rfl rfl (by kernel_rfl) (by kernel_rfl) (by kernel_rfl) (fun _ _ _ h => h) ⟨Or.inl ⟨by rfl, by intro w; go_simp⟩, fun _ => rfl⟩ ?_
                    refine wpAnyIn_ready (rs := [10]) (by kernel_rfl) (by simp) ?_
                    refine AllReadyIn.cons rfl (fun K hK => ?_) ?_
                    · go_simp
                      refine hK _ _ ?_
                      clear hK K
                      refine wpAnyIn_done (by kernel_rfl) ?_ _
                      gi_wp2
                      go_roundw
                      case rel => exact FIN.out
                      case measure => simp [intOf]; omega
                    exact AllReadyIn.nil
                  exact AllReadyIn.nil
                exact AllReadyIn.nil
              exact AllReadyIn.nil
            refine AllReadyIn.cons rfl (fun K hK => ?_) ?_
            · go_simp
              refine hK _ _ ?_
              clear hK K
              refine wpAnyIn_ready (rs := [1]) (by kernel_rfl) (by simp) ?_
              refine AllReadyIn.cons rfl (fun K hK => ?_) ?_
              · go_simp
                refine hK _ _ ?_
                clear hK K
                refine wpAnyIn_take (i := 2) (v := .pointer (some ⟨w.heap.size + 1 + 1, cc, none⟩)) rfl rfl (by kernel_rfl) (by kernel_rfl) (by kernel_rfl) (fun _ _ _ h => h) ⟨Or.inl ⟨by rfl, by intro w; go_simp⟩, fun _ => rfl⟩ ?_
                refine wpAnyIn_ready (rs := [3]) (by kernel_rfl) (by simp) ?_
                refine AllReadyIn.cons rfl (fun K hK => ?_) ?_
                · go_simp
                  refine hK _ _ ?_
                  clear hK K
                  refine wpAnyIn_take (i := 5) (v := .pointer (some ⟨w.heap.size + 1, cc * e + k, none⟩)) rfl rfl (by kernel_rfl) (by kernel_rfl) (by kernel_rfl) (fun _ _ _ h => h) ⟨Or.inl ⟨by rfl, by intro w; go_simp⟩, fun _ => rfl⟩ ?_
                  refine wpAnyIn_ready (rs := [6]) (by kernel_rfl) (by simp) ?_
                  refine AllReadyIn.cons rfl (fun K hK => ?_) ?_
                  · go_simp
                    refine hK _ _ ?_
                    clear hK K
                    refine wpAnyIn_take (i := 8) (v := .int .i64 (V + last)) rfl rfl (by kernel_rfl) (by kernel_rfl) (by kernel_rfl) (fun _ _ _ h => h) ⟨Or.inl ⟨by rfl, by intro w; go_simp⟩, fun _ => rfl⟩ ?_
                    refine wpAnyIn_take (i := 9) (v := .pointer (some ⟨w.heap.size + 1, cc * e + k, none⟩)) rfl rfl (by kernel_rfl) (by kernel_rfl) (by kernel_rfl) (fun _ _ _ h => h) ⟨Or.inl ⟨by rfl, by intro w; go_simp⟩, fun _ => rfl⟩ ?_
                    refine wpAnyIn_ready (rs := [10]) (by kernel_rfl) (by simp) ?_
                    refine AllReadyIn.cons rfl (fun K hK => ?_) ?_
                    · go_simp
                      refine hK _ _ ?_
                      clear hK K
                      refine wpAnyIn_done (by kernel_rfl) ?_ _
                      gi_wp2
                      go_roundw
                      case rel => exact FIN.out
                      case measure => simp [intOf]; omega
                    exact AllReadyIn.nil
                  exact AllReadyIn.nil
                exact AllReadyIn.nil
              exact AllReadyIn.nil
            exact AllReadyIn.nil
          refine AllReadyIn.cons rfl (fun K hK => ?_) ?_
          · go_simp
            refine hK _ _ ?_
            clear hK K
            refine wpAnyIn_ready (rs := [0, 7]) (by kernel_rfl) (by simp) ?_
            refine AllReadyIn.cons rfl (fun K hK => ?_) ?_
            · go_simp
              refine hK _ _ ?_
              clear hK K
              refine wpAnyIn_take (i := 2) (v := .pointer (some ⟨w.heap.size + 1 + 1, cc, none⟩)) rfl rfl (by kernel_rfl) (by kernel_rfl) (by kernel_rfl) (fun _ _ _ h => h) ⟨Or.inl ⟨by rfl, by intro w; go_simp⟩, fun _ => rfl⟩ ?_
              refine wpAnyIn_ready (rs := [3, 7]) (by kernel_rfl) (by simp) ?_
              refine AllReadyIn.cons rfl (fun K hK => ?_) ?_
              · go_simp
                refine hK _ _ ?_
                clear hK K
                refine wpAnyIn_take (i := 5) (v := .pointer (some ⟨w.heap.size + 1, cc * e + k, none⟩)) rfl rfl (by kernel_rfl) (by kernel_rfl) (by kernel_rfl) (fun _ _ _ h => h) ⟨Or.inl ⟨by rfl, by intro w; go_simp⟩, fun _ => rfl⟩ ?_
                refine wpAnyIn_ready (rs := [6, 7]) (by kernel_rfl) (by simp) ?_
                refine AllReadyIn.cons rfl (fun K hK => ?_) ?_
                · go_simp
                  refine hK _ _ ?_
                  clear hK K
                  refine wpAnyIn_ready (rs := [7]) (by kernel_rfl) (by simp) ?_
                  refine AllReadyIn.cons rfl (fun K hK => ?_) ?_
                  · go_simp
                    refine hK _ _ ?_
                    clear hK K
                    refine wpAnyIn_take (i := 8) (v := .int .i64 (V + last)) rfl rfl (by kernel_rfl) (by kernel_rfl) (by kernel_rfl) (fun _ _ _ h => h) ⟨Or.inl ⟨by rfl, by intro w; go_simp⟩, fun _ => rfl⟩ ?_
                    refine wpAnyIn_take (i := 9) (v := .pointer (some ⟨w.heap.size + 1, cc * e + k, none⟩)) rfl rfl (by kernel_rfl) (by kernel_rfl) (by kernel_rfl) (fun _ _ _ h => h) ⟨Or.inl ⟨by rfl, by intro w; go_simp⟩, fun _ => rfl⟩ ?_
                    refine wpAnyIn_ready (rs := [10]) (by kernel_rfl) (by simp) ?_
                    refine AllReadyIn.cons rfl (fun K hK => ?_) ?_
                    · go_simp
                      refine hK _ _ ?_
                      clear hK K
                      refine wpAnyIn_done (by kernel_rfl) ?_ _
                      gi_wp2
                      go_roundw
                      case rel => exact FIN.out
                      case measure => simp [intOf]; omega
                    exact AllReadyIn.nil
                  exact AllReadyIn.nil
                refine AllReadyIn.cons rfl (fun K hK => ?_) ?_
                · go_simp
                  refine hK _ _ ?_
                  clear hK K
                  refine wpAnyIn_ready (rs := [6]) (by kernel_rfl) (by simp) ?_
                  refine AllReadyIn.cons rfl (fun K hK => ?_) ?_
                  · go_simp
                    refine hK _ _ ?_
                    clear hK K
                    refine wpAnyIn_take (i := 8) (v := .int .i64 (V + last)) rfl rfl (by kernel_rfl) (by kernel_rfl) (by kernel_rfl) (fun _ _ _ h => h) ⟨Or.inl ⟨by rfl, by intro w; go_simp⟩, fun _ => rfl⟩ ?_
                    refine wpAnyIn_take (i := 9) (v := .pointer (some ⟨w.heap.size + 1, cc * e + k, none⟩)) rfl rfl (by kernel_rfl) (by kernel_rfl) (by kernel_rfl) (fun _ _ _ h => h) ⟨Or.inl ⟨by rfl, by intro w; go_simp⟩, fun _ => rfl⟩ ?_
                    refine wpAnyIn_ready (rs := [10]) (by kernel_rfl) (by simp) ?_
                    refine AllReadyIn.cons rfl (fun K hK => ?_) ?_
                    · go_simp
                      refine hK _ _ ?_
                      clear hK K
                      refine wpAnyIn_done (by kernel_rfl) ?_ _
                      gi_wp2
                      go_roundw
                      case rel => exact FIN.out
                      case measure => simp [intOf]; omega
                    exact AllReadyIn.nil
                  exact AllReadyIn.nil
                exact AllReadyIn.nil
              refine AllReadyIn.cons rfl (fun K hK => ?_) ?_
              · go_simp
                refine hK _ _ ?_
                clear hK K
                refine wpAnyIn_ready (rs := [3]) (by kernel_rfl) (by simp) ?_
                refine AllReadyIn.cons rfl (fun K hK => ?_) ?_
                · go_simp
                  refine hK _ _ ?_
                  clear hK K
                  refine wpAnyIn_take (i := 5) (v := .pointer (some ⟨w.heap.size + 1, cc * e + k, none⟩)) rfl rfl (by kernel_rfl) (by kernel_rfl) (by kernel_rfl) (fun _ _ _ h => h) ⟨Or.inl ⟨by rfl, by intro w; go_simp⟩, fun _ => rfl⟩ ?_
                  refine wpAnyIn_ready (rs := [6]) (by kernel_rfl) (by simp) ?_
                  refine AllReadyIn.cons rfl (fun K hK => ?_) ?_
                  · go_simp
                    refine hK _ _ ?_
                    clear hK K
                    refine wpAnyIn_take (i := 8) (v := .int .i64 (V + last)) rfl rfl (by kernel_rfl) (by kernel_rfl) (by kernel_rfl) (fun _ _ _ h => h) ⟨Or.inl ⟨by rfl, by intro w; go_simp⟩, fun _ => rfl⟩ ?_
                    refine wpAnyIn_take (i := 9) (v := .pointer (some ⟨w.heap.size + 1, cc * e + k, none⟩)) rfl rfl (by kernel_rfl) (by kernel_rfl) (by kernel_rfl) (fun _ _ _ h => h) ⟨Or.inl ⟨by rfl, by intro w; go_simp⟩, fun _ => rfl⟩ ?_
                    refine wpAnyIn_ready (rs := [10]) (by kernel_rfl) (by simp) ?_
                    refine AllReadyIn.cons rfl (fun K hK => ?_) ?_
                    · go_simp
                      refine hK _ _ ?_
                      clear hK K
                      refine wpAnyIn_done (by kernel_rfl) ?_ _
                      gi_wp2
                      go_roundw
                      case rel => exact FIN.out
                      case measure => simp [intOf]; omega
                    exact AllReadyIn.nil
                  exact AllReadyIn.nil
                exact AllReadyIn.nil
              exact AllReadyIn.nil
            refine AllReadyIn.cons rfl (fun K hK => ?_) ?_
            · go_simp
              refine hK _ _ ?_
              clear hK K
              refine wpAnyIn_ready (rs := [0]) (by kernel_rfl) (by simp) ?_
              refine AllReadyIn.cons rfl (fun K hK => ?_) ?_
              · go_simp
                refine hK _ _ ?_
                clear hK K
                refine wpAnyIn_take (i := 2) (v := .pointer (some ⟨w.heap.size + 1 + 1, cc, none⟩)) rfl rfl (by kernel_rfl) (by kernel_rfl) (by kernel_rfl) (fun _ _ _ h => h) ⟨Or.inl ⟨by rfl, by intro w; go_simp⟩, fun _ => rfl⟩ ?_
                refine wpAnyIn_ready (rs := [3]) (by kernel_rfl) (by simp) ?_
                refine AllReadyIn.cons rfl (fun K hK => ?_) ?_
                · go_simp
                  refine hK _ _ ?_
                  clear hK K
                  refine wpAnyIn_take (i := 5) (v := .pointer (some ⟨w.heap.size + 1, cc * e + k, none⟩)) rfl rfl (by kernel_rfl) (by kernel_rfl) (by kernel_rfl) (fun _ _ _ h => h) ⟨Or.inl ⟨by rfl, by intro w; go_simp⟩, fun _ => rfl⟩ ?_
                  refine wpAnyIn_ready (rs := [6]) (by kernel_rfl) (by simp) ?_
                  refine AllReadyIn.cons rfl (fun K hK => ?_) ?_
                  · go_simp
                    refine hK _ _ ?_
                    clear hK K
                    refine wpAnyIn_take (i := 8) (v := .int .i64 (V + last)) rfl rfl (by kernel_rfl) (by kernel_rfl) (by kernel_rfl) (fun _ _ _ h => h) ⟨Or.inl ⟨by rfl, by intro w; go_simp⟩, fun _ => rfl⟩ ?_
                    refine wpAnyIn_take (i := 9) (v := .pointer (some ⟨w.heap.size + 1, cc * e + k, none⟩)) rfl rfl (by kernel_rfl) (by kernel_rfl) (by kernel_rfl) (fun _ _ _ h => h) ⟨Or.inl ⟨by rfl, by intro w; go_simp⟩, fun _ => rfl⟩ ?_
                    refine wpAnyIn_ready (rs := [10]) (by kernel_rfl) (by simp) ?_
                    refine AllReadyIn.cons rfl (fun K hK => ?_) ?_
                    · go_simp
                      refine hK _ _ ?_
                      clear hK K
                      refine wpAnyIn_done (by kernel_rfl) ?_ _
                      gi_wp2
                      go_roundw
                      case rel => exact FIN.out
                      case measure => simp [intOf]; omega
                    exact AllReadyIn.nil
                  exact AllReadyIn.nil
                exact AllReadyIn.nil
              exact AllReadyIn.nil
            exact AllReadyIn.nil
          refine AllReadyIn.cons rfl (fun K hK => ?_) ?_
          · go_simp
            refine hK _ _ ?_
            clear hK K
            refine wpAnyIn_ready (rs := [0, 1]) (by kernel_rfl) (by simp) ?_
            refine AllReadyIn.cons rfl (fun K hK => ?_) ?_
            · go_simp
              refine hK _ _ ?_
              clear hK K
              refine wpAnyIn_ready (rs := [1]) (by kernel_rfl) (by simp) ?_
              refine AllReadyIn.cons rfl (fun K hK => ?_) ?_
              · go_simp
                refine hK _ _ ?_
                clear hK K
                refine wpAnyIn_take (i := 2) (v := .pointer (some ⟨w.heap.size + 1 + 1, cc, none⟩)) rfl rfl (by kernel_rfl) (by kernel_rfl) (by kernel_rfl) (fun _ _ _ h => h) ⟨Or.inl ⟨by rfl, by intro w; go_simp⟩, fun _ => rfl⟩ ?_
                refine wpAnyIn_ready (rs := [3]) (by kernel_rfl) (by simp) ?_
                refine AllReadyIn.cons rfl (fun K hK => ?_) ?_
                · go_simp
                  refine hK _ _ ?_
                  clear hK K
                  refine wpAnyIn_take (i := 5) (v := .pointer (some ⟨w.heap.size + 1, cc * e + k, none⟩)) rfl rfl (by kernel_rfl) (by kernel_rfl) (by kernel_rfl) (fun _ _ _ h => h) ⟨Or.inl ⟨by rfl, by intro w; go_simp⟩, fun _ => rfl⟩ ?_
                  refine wpAnyIn_ready (rs := [6]) (by kernel_rfl) (by simp) ?_
                  refine AllReadyIn.cons rfl (fun K hK => ?_) ?_
                  · go_simp
                    refine hK _ _ ?_
                    clear hK K
                    refine wpAnyIn_take (i := 8) (v := .int .i64 (V + last)) rfl rfl (by kernel_rfl) (by kernel_rfl) (by kernel_rfl) (fun _ _ _ h => h) ⟨Or.inl ⟨by rfl, by intro w; go_simp⟩, fun _ => rfl⟩ ?_
                    refine wpAnyIn_take (i := 9) (v := .pointer (some ⟨w.heap.size + 1, cc * e + k, none⟩)) rfl rfl (by kernel_rfl) (by kernel_rfl) (by kernel_rfl) (fun _ _ _ h => h) ⟨Or.inl ⟨by rfl, by intro w; go_simp⟩, fun _ => rfl⟩ ?_
                    refine wpAnyIn_ready (rs := [10]) (by kernel_rfl) (by simp) ?_
                    refine AllReadyIn.cons rfl (fun K hK => ?_) ?_
                    · go_simp
                      refine hK _ _ ?_
                      clear hK K
                      refine wpAnyIn_done (by kernel_rfl) ?_ _
                      gi_wp2
                      go_roundw
                      case rel => exact FIN.out
                      case measure => simp [intOf]; omega
                    exact AllReadyIn.nil
                  exact AllReadyIn.nil
                exact AllReadyIn.nil
              exact AllReadyIn.nil
            refine AllReadyIn.cons rfl (fun K hK => ?_) ?_
            · go_simp
              refine hK _ _ ?_
              clear hK K
              refine wpAnyIn_ready (rs := [0]) (by kernel_rfl) (by simp) ?_
              refine AllReadyIn.cons rfl (fun K hK => ?_) ?_
              · go_simp
                refine hK _ _ ?_
                clear hK K
                refine wpAnyIn_take (i := 2) (v := .pointer (some ⟨w.heap.size + 1 + 1, cc, none⟩)) rfl rfl (by kernel_rfl) (by kernel_rfl) (by kernel_rfl) (fun _ _ _ h => h) ⟨Or.inl ⟨by rfl, by intro w; go_simp⟩, fun _ => rfl⟩ ?_
                refine wpAnyIn_ready (rs := [3]) (by kernel_rfl) (by simp) ?_
                refine AllReadyIn.cons rfl (fun K hK => ?_) ?_
                · go_simp
                  refine hK _ _ ?_
                  clear hK K
                  refine wpAnyIn_take (i := 5) (v := .pointer (some ⟨w.heap.size + 1, cc * e + k, none⟩)) rfl rfl (by kernel_rfl) (by kernel_rfl) (by kernel_rfl) (fun _ _ _ h => h) ⟨Or.inl ⟨by rfl, by intro w; go_simp⟩, fun _ => rfl⟩ ?_
                  refine wpAnyIn_ready (rs := [6]) (by kernel_rfl) (by simp) ?_
                  refine AllReadyIn.cons rfl (fun K hK => ?_) ?_
                  · go_simp
                    refine hK _ _ ?_
                    clear hK K
                    refine wpAnyIn_take (i := 8) (v := .int .i64 (V + last)) rfl rfl (by kernel_rfl) (by kernel_rfl) (by kernel_rfl) (fun _ _ _ h => h) ⟨Or.inl ⟨by rfl, by intro w; go_simp⟩, fun _ => rfl⟩ ?_
                    refine wpAnyIn_take (i := 9) (v := .pointer (some ⟨w.heap.size + 1, cc * e + k, none⟩)) rfl rfl (by kernel_rfl) (by kernel_rfl) (by kernel_rfl) (fun _ _ _ h => h) ⟨Or.inl ⟨by rfl, by intro w; go_simp⟩, fun _ => rfl⟩ ?_
                    refine wpAnyIn_ready (rs := [10]) (by kernel_rfl) (by simp) ?_
                    refine AllReadyIn.cons rfl (fun K hK => ?_) ?_
                    · go_simp
                      refine hK _ _ ?_
                      clear hK K
                      refine wpAnyIn_done (by kernel_rfl) ?_ _
                      gi_wp2
                      go_roundw
                      case rel => exact FIN.out
                      case measure => simp [intOf]; omega
                    exact AllReadyIn.nil
                  exact AllReadyIn.nil
                exact AllReadyIn.nil
              exact AllReadyIn.nil
            exact AllReadyIn.nil
          exact AllReadyIn.nil
        · obtain rfl : k = e := by omega
          gi_wp2
          refine ⟨hKF3, HKR3.out, HS3.out.congr h1 (fun i j _ hj => ?_), hB.trans (hB3.mono (Nat.le_refl _)), Nat.le_trans hz hB3.size⟩
          rw [HSN.out i j]
          by_cases hij : i = cc
          · rw [if_pos hij, if_pos ⟨hij, hj⟩]
          · rw [if_neg hij, if_neg (fun h' => hij h'.1)]
    case stop2 =>
      rintro c pre' W' hpre' ⟨⟨rfl, hS2⟩, hBW, hKF, hKR⟩
      gi_wp2
      exact ⟨hKF, hKR, hS2, hB.trans (hBW.mono (Nat.le_refl _)), Nat.le_trans hz hBW.size⟩
  case done =>
    rintro D ys W hD hys ⟨hS, hB, hz⟩ hK
    rw [hys] at hS
    have c7 := hS.2.1.2.1 0 _ rfl
    gi_wp2
    rw [Exit.noGoto_ret]
    refine ⟨by simp, .inl ⟨_, _, rfl, run_takeDeferred hK, ?_⟩⟩
    have hKB : Below W0.heap.size W (W.putObj D (.deferred none)) := belowK_b (w := W0) (Nat.le_refl _) W D _ _ hD hK rfl rfl
    exact ⟨_, results_tmp rfl _ _ _, w.heap.size + 1 + 1, w.heap.size + 1, rfl, (hS.2.2.2.1.congr h1 (fun i j _ _ => (fL_all HM.out (by omega) i j).symm)).keepF (Frame.of_belowB hKB) (.inl (by omega)) (.inl (by omega)), by omega, by omega, hB.trans (hKB.mono (by omega))⟩
  case stop =>
    rintro D c pre W _ _ h _
    exact h.elim
end Go.Proofs.Ytaipaggaodnfkaa
