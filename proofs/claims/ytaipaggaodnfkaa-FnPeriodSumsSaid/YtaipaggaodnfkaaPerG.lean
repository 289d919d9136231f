/- Tables of cyclotomic numbers of the program and of the model; CyclotomicNumber and CyclotomicTable. -/
import Derived.Test.YtaipaggaodnfkaaPerF2
import Derived.Test.YtaipaggaodnfkaaRws
namespace Go.Proofs.Ytaipaggaodnfkaa
open Go.RowKit Go.ChangeShapes Go.Sort
set_option linter.unusedVariables false
set_option linter.unusedSimpArgs false

theorem row_zero (p e i j : Nat) : rowN p e 0 i j = tabN p e i j := by unfold rowN; split <;> simp
theorem tab_inR {p e i j : Nat} (hp : p ≤ 61) : 0 ≤ tabN p e i j ∧ tabN p e i j ≤ 60 := by
  have := cnt_bd p e (p - 1) i j
  unfold tabN
  omega
theorem cyclotomicTable_any (p e : Nat) (hp : primeN p = true) (h1 : 1 ≤ e) (h2 : e ≤ 12) (w : World) :
    Calls Try.prog 62 #[.int .i64 (p : Int), .int .i64 (e : Int)] w fun r w' => ∃ R T, r = .returned (.slice (some ⟨R, 0, none⟩) e e) ∧ Tab w' T R e e (tabN p e) ∧ w.heap.size ≤ T ∧ w.heap.size ≤ R ∧ Below w.heap.size w w' := by
  have HP := Lib.hid hp
  clear hp
  go_enter Try.func62, Try.ntmps62
  go_wp2_with fail
  refine (followerRows_any p e 0 HP.out h1 h2 (by omega) (by omega) _).mono ?_
  rintro r w1 ⟨R, T, rfl, ht, g1, g2, b1⟩
  go_wp2
  go_ret
  exact ⟨R, T, rfl, ht.congr h1 (fun i j _ _ => (row_zero p e i j).symm), g1, g2, b1⟩

theorem cnt_step {p e k i j : Nat} : cntN p e (k + 2) i j = if i = clsN p e (k + 1) ∧ j = clsN p e (k + 2) then cntN p e (k + 1) (clsN p e (k + 1)) (clsN p e (k + 2)) + 1 else cntN p e (k + 1) i j := by
  rw [show cntN p e (k + 2) i j = cntN p e (k + 1) i j + if 1 ≤ k + 1 ∧ i = clsN p e (k + 1) ∧ j = clsN p e (k + 1 + 1) then 1 else 0 from rfl]
  by_cases h : i = clsN p e (k + 1) ∧ j = clsN p e (k + 2)
  · rw [if_pos h, if_pos ⟨by omega, h.1, h.2⟩, h.1, h.2]
  · rw [if_neg h, if_neg (fun h' => h ⟨h'.2.1, h'.2.2⟩)]; simp
set_option maxRecDepth 100000 in
set_option maxHeartbeats 4000000 in
theorem l06Table_any (p e : Nat) (hp : primeN p = true) (h1 : 1 ≤ e) (h2 : e ≤ 12) (w : World) :
    Calls Try.prog 64 #[.int .i64 (p : Int), .int .i64 (e : Int)] w fun r w' => ∃ (g cap : Nat) (u : Nat → Value), r = .returned (.slice (some ⟨g, 0, none⟩) e cap) ∧ RwU true w' w.heap.size w'.heap.size g 0 cap e u (fun _ => e) (tabN p e) ∧ Below w.heap.size w w' := by
  have hb := primeN_bd hp
  have HP := Lib.hid hp
  obtain ⟨m, hm⟩ : ∃ m, p - 1 = m := ⟨_, rfl⟩
  have HM := Lib.hid hm
  have hm60 : m ≤ 60 := by omega
  have hm2 : 2 ≤ m := by omega
  have he0 : ¬ e = 0 := by omega
  clear hp hm
  have hmk := run_make_row' (P := Try.prog) 33 2 (.int .i64 0) 8 Try.underlying33 Try.info2 rfl .i64 .i64 e (by omega) (by omega)
  go_enter Try.func64, Try.ntmps64
  go_wp2_with fail
  refine (l06Indices_any p HP.out _).mono ?_
  rintro r w1 ⟨g1, rfl, s1, b1⟩
  have st1 := ((St.start w).keep b1).addSl ⟨true, w.heap.size, w1.heap.size, .slice (some ⟨g1, 0, none⟩) p p, p, indV p⟩ s1
  have m0 := RwG.start w1 (fun _ => .slice none 0 0) (fun _ => e) (fun _ _ => 0)
  have HM0 := Lib.hid m0
  have ST := Lib.hid (st1.alloc (.cells #[] 33))
  have hz1 := b1.size
  clear m0 st1 s1 b1
  go_wp2
  go_loopw [6, 7] (fun s6 s7 wr => ∃ (x g cap top : Nat) (u : Nat → Value), x ≤ e ∧ s6 = .slice (some ⟨g, 0, none⟩) x cap ∧ s7 = .int .i64 x ∧ RwG wr w1.heap.size top g cap x u (fun _ => e) (fun _ _ => 0) ∧ St w wr [] [⟨true, w.heap.size, w1.heap.size, .slice (some ⟨g1, 0, none⟩) p p, p, indV p⟩]) (fun _ s7 _ => e - (intOf s7).toNat)
  case atStart => exact ⟨0, _, _, _, _, Nat.zero_le _, rfl, rfl, HM0.out, ST.out⟩
  case round =>
    clear HM0 ST
    obtain ⟨x, g, cap1, top, u, hx, rfl, rfl, hmat, hst⟩ := hrel
    have HMT := Lib.hid hmat
    have HST := Lib.hid hst
    have hblk : w1.heap.size ≤ g ∧ g < top ∧ top ≤ wr.heap.size := ⟨hmat.2.1, hmat.2.2.1, hmat.1⟩
    have hzr := hst.1.size
    clear hmat hst
    by_cases hlt : x < e
    · go_wp2_with (
          (at_builtin; refine wpList_pushS rfl (.tmp 18) (.tmp 21) rfl rfl w1.heap.size g cap1 x u rfl (((HMT.out.2.2.2.1).alloc _).alloc _) (wr.heap.size + 1) (hd wr.heap.size e) rfl rfl (by simpa using heap_alloc_new (wr.alloc (.cells (madeCells #[.int .i64 0] e) 2)) (.cells #[hd wr.heap.size e] 33)) (by omega) ?_; intro gA kA wA rowA grA orA ltA
           have q0 := Sl.made wr (madeCells #[.int .i64 0] e) 2 e e (fun _ => 0) (Nat.le_refl _) (by unfold maxLen; omega) (fun j hj => by simp [inR]) (fun j hj => by simp [madeCells_at _ _ _ hj])
           have mA := RwG.push (HMT.out.keep ((Below.refl _ _).alloc (Nat.le_refl _) (.cells (madeCells #[.int .i64 0] e) 2))) q0 (by omega) rowA grA orA ltA
           have stA := ((HST.out.alloc (.cells (madeCells #[.int .i64 0] e) 2)).alloc (.cells #[hd wr.heap.size e] 33)).write (Frame.ofGrown grA) (by omega) (by intro b hb; cases hb) (by intro s hs'; simp only [List.mem_cons, List.not_mem_nil, or_false] at hs'; rcases hs' with rfl; left; show w1.heap.size ≤ _; omega)
           have MA := Lib.hid mA; have STA := Lib.hid stA
           clear mA stA q0 rowA HMT HST))
      go_roundw
      case rel => exact ⟨x + 1, gA, kA, _, _, by omega, rfl, by go_num, MA.out.congr (fun i hi => by split <;> rfl) (fun i j hi hj => by split <;> rfl), STA.out⟩
      case measure => simp [intOf]; omega
    · obtain rfl : x = e := by omega
      have hc := HMT.out.caps
      have HRU := Lib.hid (HMT.out.rwU hc.1 hc.2)
      clear hmk
      go_wp2
      go_loopw [8] (fun s8 wq => ∃ k : Nat, k + 1 ≤ m ∧ s8 = .int .i64 ((k : Int) + 1) ∧ RwU true wq w1.heap.size top g 0 cap1 x u (fun _ => x) (cntN p x (k + 1)) ∧ St w wq [] [⟨true, w.heap.size, w1.heap.size, .slice (some ⟨g1, 0, none⟩) p p, p, indV p⟩]) (fun s8 _ => m + 1 - (intOf s8).toNat)
      case atStart => exact ⟨0, by omega, rfl, HRU.out.congr (fun _ _ => rfl) (fun i j _ _ => by simp [cntN]), HST.out⟩
      case round =>
        clear HRU HMT HST
        obtain ⟨k, hk, rfl, hru, hst⟩ := hrel
        have hpm := HM.out
        have hsl := hst.sl 0 ⟨true, w.heap.size, w1.heap.size, .slice (some ⟨g1, 0, none⟩) p p, p, indV p⟩ rfl
        dsimp only at hsl
        have HRU := Lib.hid hru
        have HST := Lib.hid hst
        by_cases hlt2 : k + 1 < m
        · have hc1 := (hsl.known (by omega)).2.2.2.1 (k + 1) (by omega)
          have hc2 := (hsl.known (by omega)).2.2.2.1 (k + 2) (by omega)
          rw [Nat.zero_add, ind_cls (e := x) (by omega)] at hc1 hc2
          have hm1 := ind_mod p x (k + 1)
          have hm3 := ind_mod p x (k + 2)
          have hcx := cls_lt (p := p) (x := k + 1) h1
          have hcy := cls_lt (p := p) (x := k + 2) h1
          have chead := hru.head hcx
          have hrow := hru.row hcx
          obtain ⟨gr, offr, cr, hur, hgr1, hgr2, _, _, hcr, hfr⟩ := hrow.at (by omega)
          rw [Nat.zero_add, hur] at chead
          have cT := hcr _ hcy
          have fT := hfr rfl (offr + clsN p x (k + 2))
          have hbd := cnt_bd p x (k + 1) (clsN p x (k + 1)) (clsN p x (k + 2))
          have HCS := Lib.hid (fun i j => cnt_step (p := p) (e := x) (k := k) (i := i) (j := j))
          have hltI : (k : Int) + 1 < (p : Int) - 1 := by omega
          have HRS := Lib.hid (HRU.out.store hcx hur hcy (y := cntN p x (k + 1) (clsN p x (k + 1)) (clsN p x (k + 2)) + 1) (by unfold inR; omega))
          clear hsl hru hst hrow hcr hfr hpm hur
          generalize cntN p x (k + 1) (clsN p x (k + 1)) (clsN p x (k + 2)) = V at *
          generalize clsN p x (k + 1) = cx at *
          generalize clsN p x (k + 2) = cy at *
          go_wp2
          go_roundw
          case rel => exact ⟨k + 1, by omega, by go_num, HRS.out.congr (fun _ _ => rfl) (fun i j _ _ => HCS.out i j), HST.out.write (lo := w1.heap.size) (hi := top) ((Frame.refl _ _ _).setCell (p := ⟨gr, offr + cy, none⟩) (by show w1.heap.size ≤ gr; omega) (by show gr < top; omega) _) (by omega) (by intro b hb; cases hb) (by intro s hs'; simp only [List.mem_cons, List.not_mem_nil, or_false] at hs'; rcases hs' with rfl; left; exact Nat.le_refl _)⟩
          case measure => simp [intOf]; omega
        · obtain rfl : m = k + 1 := by omega
          have hge : ¬ (k : Int) + 1 < (p : Int) - 1 := by omega
          have BB := HST.out.1
          have hsz := HRU.out.size
          clear hsl hru hst hpm
          go_wp2
          go_ret
          exact ⟨_, _, rfl, ⟨u, (HRU.out.congr (fun _ _ => rfl) (fun i j _ _ => by unfold tabN; rw [HM.out])).wide hz1 hsz (Nat.le_refl _)⟩, BB⟩

/-- Two numbers in a new block. -/
theorem Sl.pair (w : World) (i j : Int) (hi : inR i) (hj : inR j) : Sl true (w.alloc (.cells #[.int .i64 i, .int .i64 j] 2)) w.heap.size (w.heap.size + 1) (.slice (some ⟨w.heap.size, 0, none⟩) 2 2) 2 (fun k => if k = 0 then i else j) :=
  Sl.made w #[.int .i64 i, .int .i64 j] 2 2 2 (fun k => if k = 0 then i else j) (Nat.le_refl _) (by decide) (fun k _ => by show inR (if k = 0 then i else j); split <;> assumption) (fun k hk => by
    match k, hk with
    | 0, _ => rfl
    | 1, _ => rfl)
def NumP (p e i j : Int) : Prop := HcP p e ∧ (0 ≤ i ∧ i < e) ∧ 0 ≤ j ∧ j < e
theorem num_two {p e i j : Int} (h : ¬ NumP p e i j) : ¬ (HcP p e ∧ ∀ k, k < 2 → 0 ≤ (fun k => if k = 0 then i else j : Nat → Int) k ∧ (fun k => if k = 0 then i else j : Nat → Int) k < e) := fun h' => h ⟨h'.1, h'.2 0 (by omega), h'.2 1 (by omega)⟩
theorem CyclotomicNumber_spec_bad (p e i j : Int) (hi : inR i) (hj : inR j) (h : ¬ NumP p e i j) (w : World) :
    Calls Try.prog 30 #[.int .i64 p, .int .i64 e, .int .i64 i, .int .i64 j] w fun r w' => r = .returned (.tuple #[.int .i64 0, .int .i64 2]) ∧ Below w.heap.size w w' := by
  have H := Lib.hid (num_two h)
  clear h
  go_enter Try.func30, Try.ntmps30
  go_wp2_with (go_at_call 63; refine (l06Code_no p e _ (Sl.pair _ i j hi hj) H.out).mono ?_; rintro r w1 ⟨rfl, m1, rfl⟩)
  refine bodyPost_ret (v := .tuple #[.int .i64 0, .int .i64 2]) (by simp [results, Try.results30, go_sem]) rfl ?_
  exact ⟨rfl, below_drewN ((Below.refl w.heap.size w).alloc (Nat.le_refl _) _) _⟩

set_option maxHeartbeats 1000000 in
theorem CyclotomicNumber_spec_ok (p e i j : Nat) (hp : primeN p = true) (h1 : 1 ≤ e) (h2 : e ≤ 12) (hd : (p - 1) % e = 0) (hi : i < e) (hj : j < e) (w : World) :
    Calls Try.prog 30 #[.int .i64 (p : Int), .int .i64 (e : Int), .int .i64 (i : Int), .int .i64 (j : Int)] w fun r w' => r = .returned (.tuple #[.int .i64 (tabN p e i j), .int .i64 0]) ∧ Below w.heap.size w w' := by
  have HP := Lib.hid hp
  have HD := Lib.hid hd
  clear hp hd
  go_enter Try.func30, Try.ntmps30
  go_wp2_with (first
    | (go_at_call 63; refine (l06Code_yes p e HP.out h1 h2 HD.out _ (Sl.pair _ (i : Int) (j : Int) (by unfold inR; omega) (by unfold inR; omega)) (fun k hk => by
        show (0 : Int) ≤ (if k = 0 then (i : Int) else (j : Int)) ∧ (if k = 0 then (i : Int) else (j : Int)) < (e : Int)
        split <;> omega)).mono ?_; rintro r w1 ⟨rfl, m1, rfl⟩)
    | (go_at_call 64; refine (l06Table_any p e HP.out h1 h2 _).mono ?_; rintro r w2 ⟨g, cap, u, rfl, hru, b2⟩
       have hrow := hru.row hi
       obtain ⟨gr, offr, cr, hur, _, _, _, _, hcr, _⟩ := hrow.at (by omega)
       have chead := hru.head hi
       rw [Nat.zero_add, hur] at chead
       have cT := hcr j hj))
  refine bodyPost_ret (v := .tuple #[.int .i64 (tabN p e i j), .int .i64 0]) (by simp [results, Try.results30, go_sem]) rfl ?_
  exact ⟨rfl, (below_drewN ((Below.refl w.heap.size w).alloc (Nat.le_refl _) (.cells #[.int .i64 (i : Int), .int .i64 (j : Int)] 2)) m1).trans (b2.mono (by simp))⟩
theorem CyclotomicNumber_impl_bad (p e i j : Int) (h : ¬ NumP p e i j) (w : World) :
    Calls Try.prog 29 #[.int .i64 p, .int .i64 e, .int .i64 i, .int .i64 j] w fun r w' => r = .returned (.tuple #[.int .i64 0, .int .i64 2]) ∧ Below w.heap.size w w' := by
  by_cases hc : HcP p e
  · obtain ⟨P, E, rfl, rfl, c1, c2, c3, c4⟩ := hc.nat
    have HP := Lib.hid c1
    have HD := Lib.hid c4
    by_cases hi : 0 ≤ i ∧ i < (E : Int)
    · have HJ := Lib.hid (show j < 0 ∨ (E : Int) ≤ j by
        rcases Int.lt_or_le j 0 with h' | h'
        · exact .inl h'
        · rcases Int.lt_or_le j (E : Int) with h2 | h2
          · exact absurd ⟨hc, hi, h', h2⟩ h
          · exact .inr h2)
      have HI1 := Lib.hid hi
      clear hc h c1 c4 hi
      go_enter Try.func29, Try.ntmps29
      go_wp2_with (first
        | (go_at_call 61; refine (haveClasses_yes P E HP.out c2 c3 HD.out _).mono ?_; rintro r w1 ⟨rfl, b1⟩)
        | (go_at_call 69; refine (isClass_yes (E : Int) i _ HI1.out.1 HI1.out.2).mono ?_; clear HI1; rintro r w2 ⟨rfl, rfl⟩)
        | (go_at_call 69; refine (isClass_no (E : Int) j _ HJ.out).mono ?_; rintro r w2 ⟨rfl, rfl⟩))
      refine bodyPost_ret (v := .tuple #[.int .i64 0, .int .i64 2]) (by simp [results, Try.results29, go_sem]) rfl ?_
      exact ⟨rfl, b1⟩
    · have HI := Lib.hid (show i < 0 ∨ (E : Int) ≤ i by omega)
      clear hc h c1 c4 hi
      go_enter Try.func29, Try.ntmps29
      go_wp2_with (first
        | (go_at_call 61; refine (haveClasses_yes P E HP.out c2 c3 HD.out _).mono ?_; rintro r w1 ⟨rfl, b1⟩)
        | (go_at_call 69; refine (isClass_no (E : Int) i _ HI.out).mono ?_; rintro r w2 ⟨rfl, rfl⟩))
      refine bodyPost_ret (v := .tuple #[.int .i64 0, .int .i64 2]) (by simp [results, Try.results29, go_sem]) rfl ?_
      exact ⟨rfl, b1⟩
  · have H := Lib.hid hc
    clear hc h
    go_enter Try.func29, Try.ntmps29
    go_wp2_with (go_at_call 61; refine (haveClasses_no p e H.out _).mono ?_; rintro r w1 ⟨rfl, b1⟩)
    refine bodyPost_ret (v := .tuple #[.int .i64 0, .int .i64 2]) (by simp [results, Try.results29, go_sem]) rfl ?_
    exact ⟨rfl, b1⟩

set_option maxHeartbeats 1000000 in
theorem CyclotomicNumber_impl_ok (p e i j : Nat) (hp : primeN p = true) (h1 : 1 ≤ e) (h2 : e ≤ 12) (hd : (p - 1) % e = 0) (hi : i < e) (hj : j < e) (w : World) :
    Calls Try.prog 29 #[.int .i64 (p : Int), .int .i64 (e : Int), .int .i64 (i : Int), .int .i64 (j : Int)] w fun r w' => r = .returned (.tuple #[.int .i64 (tabN p e i j), .int .i64 0]) ∧ Below w.heap.size w w' := by
  have HP := Lib.hid hp
  have HD := Lib.hid hd
  clear hp hd
  go_enter Try.func29, Try.ntmps29
  go_wp2_with (first
    | (go_at_call 61; refine (haveClasses_yes p e HP.out h1 h2 HD.out _).mono ?_; rintro r w1 ⟨rfl, b1⟩)
    | (go_at_call 69; refine (isClass_yes _ _ _ (by omega) (by omega)).mono ?_; rintro r w2 ⟨rfl, rfl⟩)
    | (go_at_call 62; refine (cyclotomicTable_any p e HP.out h1 h2 _).mono ?_; rintro r w3 ⟨R, T, rfl, ht, g1, g2, b3⟩
       have chead := ht.head hi
       have cT := ((ht.row h1 hi).known (by omega)).2.2.2.1 j hj))
  refine bodyPost_ret (v := .tuple #[.int .i64 (tabN p e i j), .int .i64 0]) (by simp [results, Try.results29, go_sem]) rfl ?_
  exact ⟨rfl, b1.trans (b3.mono b1.size)⟩

theorem CyclotomicTable_spec_bad (p e : Int) (h : ¬ HcP p e) (w : World) :
    Calls Try.prog 19 #[.int .i64 p, .int .i64 e] w fun r w' => ∃ a k, r = .returned (.tuple #[.slice a 0 k, .int .i64 2]) ∧ Rw true w' w.heap.size w'.heap.size (.slice a 0 k) 0 (fun _ => 0) (fun _ _ => 0) ∧ Below w.heap.size w w' := by
  have H := Lib.hid (hc_nil h)
  clear h
  go_enter Try.func19, Try.ntmps19
  go_wp2_with (go_at_call 63; refine (l06Code_no p e _ (o := false) (Sl.nil _ 0 0 (Nat.zero_le _) (fun _ => 0)) H.out).mono ?_; rintro r w1 ⟨rfl, m1, rfl⟩)
  go_ret2
  exact ⟨none, 0, rfl, Rw.nil _ _ _ (Nat.le_refl _) _ _, below_drewN (Below.refl w.heap.size w) _⟩
theorem CyclotomicTable_impl_bad (p e : Int) (h : ¬ HcP p e) (w : World) :
    Calls Try.prog 18 #[.int .i64 p, .int .i64 e] w fun r w' => ∃ a k, r = .returned (.tuple #[.slice a 0 k, .int .i64 2]) ∧ Rw true w' w.heap.size w'.heap.size (.slice a 0 k) 0 (fun _ => 0) (fun _ _ => 0) ∧ Below w.heap.size w w' := by
  have H := Lib.hid h
  clear h
  go_enter Try.func18, Try.ntmps18
  go_wp2_with (go_at_call 61; refine (haveClasses_no p e H.out _).mono ?_; rintro r w1 ⟨rfl, b1⟩)
  go_ret2
  exact ⟨none, 0, rfl, Rw.nil _ _ _ (Nat.le_refl _) _ _, b1⟩
theorem CyclotomicTable_spec_ok (p e : Nat) (hp : primeN p = true) (h1 : 1 ≤ e) (h2 : e ≤ 12) (hd : (p - 1) % e = 0) (w : World) :
    Calls Try.prog 19 #[.int .i64 (p : Int), .int .i64 (e : Int)] w fun r w' => ∃ a k, r = .returned (.tuple #[.slice a e k, .int .i64 0]) ∧ Rw true w' w.heap.size w'.heap.size (.slice a e k) e (fun _ => e) (tabN p e) ∧ Below w.heap.size w w' := by
  have HP := Lib.hid hp
  have HD := Lib.hid hd
  clear hp hd
  go_enter Try.func19, Try.ntmps19
  go_wp2_with (first
    | (go_at_call 63; refine (l06Code_yes p e HP.out h1 h2 HD.out _ (o := false) (Sl.nil _ 0 0 (Nat.zero_le _) (fun _ => 0)) (fun j hj => absurd hj (Nat.not_lt_zero _))).mono ?_; rintro r w1 ⟨rfl, m1, rfl⟩)
    | (go_at_call 64; refine (l06Table_any p e HP.out h1 h2 _).mono ?_; rintro r w2 ⟨g, cap, u, rfl, hru, b2⟩))
  go_ret2
  exact ⟨_, _, rfl, hru.rw.wide (by simp) (Nat.le_refl _) (Nat.le_refl _), (below_drewN (Below.refl w.heap.size w) m1).trans (b2.mono (by simp))⟩
theorem CyclotomicTable_impl_ok (p e : Nat) (hp : primeN p = true) (h1 : 1 ≤ e) (h2 : e ≤ 12) (hd : (p - 1) % e = 0) (w : World) :
    Calls Try.prog 18 #[.int .i64 (p : Int), .int .i64 (e : Int)] w fun r w' => ∃ a k, r = .returned (.tuple #[.slice a e k, .int .i64 0]) ∧ Rw true w' w.heap.size w'.heap.size (.slice a e k) e (fun _ => e) (tabN p e) ∧ Below w.heap.size w w' := by
  have HP := Lib.hid hp
  have HD := Lib.hid hd
  clear hp hd
  go_enter Try.func18, Try.ntmps18
  go_wp2_with (first
    | (go_at_call 61; refine (haveClasses_yes p e HP.out h1 h2 HD.out _).mono ?_; rintro r w1 ⟨rfl, b1⟩)
    | (go_at_call 62; refine (cyclotomicTable_any p e HP.out h1 h2 _).mono ?_; rintro r w3 ⟨R, T, rfl, ht, g1, g2, b3⟩))
  go_ret2
  have hz1 := b1.size
  exact ⟨_, _, rfl, (ht.rwU h1 (by unfold maxLen; omega) (lo := w.heap.size) (by omega) (by omega)).rw, b1.trans (b3.mono b1.size)⟩
end Go.Proofs.Ytaipaggaodnfkaa
