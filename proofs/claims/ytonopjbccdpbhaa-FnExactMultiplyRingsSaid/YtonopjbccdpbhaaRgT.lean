/- Elements of group rings: products of the program. -/
import Derived.Test.YtonopjbccdpbhaaRgM
import Derived.Deep.RegionHeld3
namespace Go.Proofs.Ytonopjbccdpbhaa
open Go.RowKit Go.ChangeShapes Go.Sort
set_option linter.unusedVariables false
set_option linter.unusedSimpArgs false
set_option maxRecDepth 100000
set_option maxHeartbeats 2000000

theorem takeE {ops : Array Oper} {md : Region.Mode} {Q : Exit → Act → World → Prop} {S : World → Prop} {i : Nat} {oi : Oper} {fuel : Nat} {listed : Array Bool} {a : Act} {w : World} {m : Int} {F : Nat → Int} (hi : ops[i]? = some oi)
    (hs : Region.noSelect ops = true) (hf : Region.free md ops listed i = true) (hr : (Region.ready md ops listed).contains i = true) (hQ : ∀ c a w, Q (.panic c) (a.put oi.dst (.agg (elC m F))) w → Q (.panic c) a w) (hw : Region.wanted oi (yielded ops a.tmps) = true)
    (x : Operand) (ho : oi.op = .load 95 x) (b : Nat) (hx : a.eval x = .pointer (some ⟨b, 0, none⟩)) (hS : ∀ w, S w → Box w b (elL m F)) (hSw : S w)
    (h : wpAnyH Try.prog md ops Q S fuel (listed.setIfInBounds i true) (a.put oi.dst (.agg (elC m F))) w) : wpAnyH Try.prog md ops Q S (fuel + 1) listed a w :=
  wpAnyH_take hi hs hf hr hQ (yieldsIf_load_mid hw _ x ho b 0 hx (elL m F) _ (fun w hw j v hv => by rw [Nat.zero_add]; exact (hS w hw).2.1 j v hv) Try.underlying95 rfl (by rw [elL_len]; kernel_rfl)) hSw h
theorem prR_bd {n : Nat} {f g : Nat → Int} {L : Nat} (h : n < 41) (h2 : 2 ≤ n) (hL : L = phiN n) (hf : Within f L 100000) (hg : Within g L 100000) {j : Nat} (hj : j < L) : ∀ k, k ≤ L → -((k : Int) * 10000000000) ≤ prR n f g k j ∧ prR n f g k j ≤ (k : Int) * 10000000000 := fun k hk =>
  sumR_bd (fun i hi => by
    have h1 := hf i (by omega)
    have h2' := hg (kxR n i j) (by rw [hL]; exact (kx_ok h h2 (by omega) (by omega)).1)
    have := mulR_bd (A := 100000) (B := 100000) (by omega) (by omega) h1.1 h1.2 h2'.1 h2'.2
    omega)
theorem times_any (n : Nat) (f g : Nat → Int) (h2 : 2 ≤ n) (h40 : n ≤ 40) (hf : Within f (phiN n) 100000) (hg : Within g (phiN n) 100000) (w : World) :
    Calls Try.prog 98 #[.agg (elC n (opR n f (phiN n))), .agg (elC n (opR n g (phiN n)))] w fun e w' => e = .returned (.agg (elC n (opR n (fun j => prR n f g (phiN n) j) (phiN n)))) ∧ Below w.heap.size w w' := by
  have hp := phi_le40 n (by omega)
  have HAT := Lib.hid (fun k (hk : k < phiN n) => opR_at (n := n) (by omega) h2 (f := f) (L := phiN n) (Nat.le_refl _) hk)
  have HMV := Lib.hid (fun k (hk : k < phiN n) w' => moved_any n k g h2 h40 hk w')
  have HBD := Lib.hid (fun j (hj : j < phiN n) k (hk : k ≤ phiN n) => prR_bd (n := n) (f := f) (g := g) (by omega) h2 rfl hf hg hj k hk)
  have HFB := Lib.hid hf
  have HGB := Lib.hid hg
  clear hf hg
  obtain ⟨X, hX⟩ : ∃ X, opR n f (phiN n) = X := ⟨_, rfl⟩
  obtain ⟨Y, hY⟩ : ∃ Y, opR n g (phiN n) = Y := ⟨_, rfl⟩
  rw [hX] at HAT ⊢
  rw [hY] at HMV ⊢
  clear hX hY
  go_enter Try.func98, Try.ntmps98
  go_wp2_with (first
    | (refine wpList_boxE rfl (.tmp 0) rfl (m := n) (F := X) rfl ?_; intro w1 x1 b1 z1
       have st := ((St.start w).keep b1).addBox _ _ x1
       have Z1 := Lib.hid z1
       clear x1 b1 z1)
    | (refine wpList_boxE rfl (.tmp 1) rfl (m := n) (F := Y) rfl ?_; intro w3 x3 b3 z3
       replace st := (st.keep b3).addBox _ _ x3
       have Z3 := Lib.hid z3
       clear x3 b3 z3)
    | ((fail_if_success (have _g := Z4)); refine wpList_allocE rfl rfl ?_; intro w4 x4 b4 z4
       replace st := (st.keep b4).addBox _ _ x4
       have Z4 := Lib.hid z4
       have cx := (st.box 2 (w.heap.size, elL n X) rfl).mod
       dsimp only at cx
       clear x4 b4 z4)
    | (refine wpList_buildE rfl _ rfl (m := n) rfl ?_)
    | ((fail_if_success (have _g := Z5)); refine wpList_allocE rfl rfl ?_; intro w5 x5 b5 z5
       replace st := (st.keep b5).addBox _ _ x5
       have Z5 := Lib.hid z5
       have B3 := st.box 0 (w4.heap.size, elL 0 (fun _ => 0)) rfl
       dsimp only at B3
       clear x5 b5 z5)
    | (refine wpList_storeE rfl _ _ rfl w4.heap.size rfl (m := n) (F := (fun _ => 0)) rfl B3 elL_len ?_; intro w6 x6 f6
       have sz := Lib.hid (show w.heap.size < w1.heap.size ∧ w1.heap.size < w3.heap.size ∧ w3.heap.size < w4.heap.size ∧ w4.heap.size < w6.heap.size from by have := Z1.out; have := Z3.out; have := Z4.out; have := Z5.out; have := f6.size; omega)
       replace st := st.headR x6 f6 (by have := sz.out; omega) (by have := sz.out; intro q hq; simp only [List.mem_cons, List.not_mem_nil, or_false] at hq; rcases hq with rfl | rfl | rfl <;> dsimp only <;> omega) (by intro s hs; cases hs)
       clear B3 x6 f6
       have cx := (st.box 3 (w.heap.size, elL n X) rfl).mod
       dsimp only at cx)
    | (go_at_call 118; refine (residuesOf40 n (by omega) h40 _).mono ?_; rintro e w7 ⟨gr, kr, rfl, s7, b7⟩
       have sz6 := Lib.hid (show w6.heap.size ≤ w7.heap.size from b7.size)
       replace st := (st.keep b7).addSl ⟨true, w6.heap.size, w7.heap.size, .slice (some ⟨gr, 0, none⟩) (phiN n) kr, phiN n, fun k => (res n k : Int)⟩ s7
       clear s7 b7))
  go_loopw [15] (fun s15 wr => ∃ k : Nat, k ≤ phiN n ∧ s15 = .int .i64 (k : Int) ∧ St w wr [(w4.heap.size, elL n (opR n (fun j => prR n f g k j) (phiN n))), (w3.heap.size, elL 0 (fun _ => 0)), (w1.heap.size, elL n Y), (w.heap.size, elL n X)] [⟨true, w6.heap.size, w7.heap.size, .slice (some ⟨gr, 0, none⟩) (phiN n) kr, phiN n, fun k => (res n k : Int)⟩]) (fun s15 _ => phiN n - (intOf s15).toNat)
  case atStart =>
    refine ⟨0, by omega, rfl, ?_⟩
    have e : elL (n : Int) (fun _ => 0) = elL n (opR n (fun j => prR n f g 0 j) (phiN n)) := elL_congr (fun j hj => by
      have := opR_bd (n := n) (f := fun j => prR n f g 0 j) (M := 0) (by omega) (L := phiN n) (fun j hj => by show -0 ≤ (0 : Int) ∧ (0 : Int) ≤ 0; omega) j
      show (0 : Int) = _
      omega)
    rw [e] at st
    exact st
  case round =>
    clear st cx
    obtain ⟨k, hk, rfl, st⟩ := hrel
    by_cases hlt : k < phiN n
    · have hki : (k : Int) < (phiN n : Int) := by omega
      have hrk := (st.sl 0 ⟨true, w6.heap.size, w7.heap.size, .slice (some ⟨gr, 0, none⟩) (phiN n) kr, phiN n, fun k => (res n k : Int)⟩ rfl).known (by show 0 < phiN n; omega)
      replace hrk := hrk.2.2.2.1 k hlt
      dsimp only at hrk
      rw [Nat.zero_add] at hrk
      have hra := res_lt40 (n := n) (by omega) h2 hlt
      have HATk := Lib.hid (HAT.out k hlt)
      have HMk := Lib.hid (fun w' => HMV.out k hlt w')
      have HPL := Lib.hid (fun w' => plus_any n n (opR n (fun j => prR n f g k j) (phiN n)) (opR n (fun j => g (kxR n k j)) (phiN n)) (f k) w'
        (fun j _ => opR_bd (by omega) (fun i hi => by have := HBD.out i hi k (by omega); omega) j)
        (fun j _ => by have := opR_bd (n := n) (f := fun j => g (kxR n k j)) (M := 100000) (by omega) (L := phiN n) (fun i hi => HGB.out _ (kx_ok (n := n) (by omega) h2 hlt hi).1) j; unfold inR; omega)
        (fun j _ => by
          have h1 := opR_bd (n := n) (f := fun j => g (kxR n k j)) (M := 100000) (by omega) (L := phiN n) (fun i hi => HGB.out _ (kx_ok (n := n) (by omega) h2 hlt hi).1) j
          have h2 := HFB.out k hlt
          have := mulR_bd (A := 100000) (B := 100000) (by omega) (by omega) h2.1 h2.2 h1.1 h1.2
          omega))
      have eP : elC (n : Int) (fun j => opR n (fun j => prR n f g k j) (phiN n) j + f k * opR n (fun j => g (kxR n k j)) (phiN n) j) = elC n (opR n (fun j => prR n f g (k + 1) j) (phiN n)) := elC_congr (fun j _ => opR_lin (f k) _ _)
      rw [eP] at HPL
      clear eP
      have HN := Lib.hid (rfl : opR n (fun j => prR n f g (k + 1) j) (phiN n) = opR n (fun j => prR n f g (k + 1) j) (phiN n))
      obtain ⟨P1, hP1⟩ : ∃ P1, opR n (fun j => prR n f g (k + 1) j) (phiN n) = P1 := ⟨_, rfl⟩
      obtain ⟨P0, hP0⟩ : ∃ P0, opR n (fun j => prR n f g k j) (phiN n) = P0 := ⟨_, rfl⟩
      obtain ⟨MV, hMV⟩ : ∃ MV, opR n (fun j => g (kxR n k j)) (phiN n) = MV := ⟨_, rfl⟩
      rw [hP1] at HPL
      rw [hP0] at HPL st
      rw [hMV] at HPL HMk
      have HP1 := Lib.hid hP1
      clear hP1 hP0 hMV HN
      obtain ⟨a, ha⟩ : ∃ a, res n k = a := ⟨_, rfl⟩
      rw [ha] at hra hrk HATk HMk
      clear ha
      obtain ⟨ha1, ha2, _⟩ := hra
      have ha40 : (a : Int) < 40 := by omega
      go_wp2_with fail
      replace st := st.drew
      refine wp_region_held_drew (S := fun wy => St w wy [(w3.heap.size, elL 0 (fun _ => 0)), (w1.heap.size, elL n Y), (w.heap.size, elL n X)] [⟨true, w6.heap.size, w7.heap.size, .slice (some ⟨gr, 0, none⟩) (phiN n) kr, phiN n, fun k => (res n k : Int)⟩]) (by kernel_rfl) (st.subR (fun b hb => List.mem_cons_of_mem _ hb) (fun _ h => h)) (fun hHeld => ?_)
      refine takeE (i := 1) rfl (by kernel_rfl) (by kernel_rfl) (by kernel_rfl) (fun _ _ _ h => h) (by rfl) _ rfl w1.heap.size rfl (fun wy hy => hy.box 1 (w1.heap.size, elL n Y) rfl) hHeld ?_
      (try simp only [Act.put, List.setIfInBounds_toArray, List.set_cons_zero, List.set_cons_succ])
      refine wpAnyH_take (i := 2) (v := .int .i64 (a : Int)) rfl (by kernel_rfl) (by kernel_rfl) (by kernel_rfl) (fun _ _ _ h => h) (Or.inl ⟨by rfl, ?_⟩) hHeld ?_
      · intro wy hy; go_simp
      (try simp only [Act.put, List.setIfInBounds_toArray, List.set_cons_zero, List.set_cons_succ])
      refine wpAnyH_take (i := 4) (v := .int .i64 (a : Int)) rfl (by kernel_rfl) (by kernel_rfl) (by kernel_rfl) (fun _ _ _ h => h) (Or.inl ⟨by rfl, ?_⟩) hHeld ?_
      · intro wy hy; go_simp
      (try simp only [Act.put, List.setIfInBounds_toArray, List.set_cons_zero, List.set_cons_succ])
      refine wpAnyH_take (i := 5) (v := .pointer (some ⟨w.heap.size, 1, none⟩)) rfl (by kernel_rfl) (by kernel_rfl) (by kernel_rfl) (fun _ _ _ h => h) (Or.inl ⟨by rfl, ?_⟩) hHeld ?_
      · intro wy hy; go_simp
      (try simp only [Act.put, List.setIfInBounds_toArray, List.set_cons_zero, List.set_cons_succ])
      refine wpAnyH_take (i := 6) (v := .pointer (some ⟨w.heap.size, 1 + a, none⟩)) rfl (by kernel_rfl) (by kernel_rfl) (by kernel_rfl) (fun _ _ _ h => h) (Or.inl ⟨by rfl, ?_⟩) hHeld ?_
      · intro wy hy; go_simp
      (try simp only [Act.put, List.setIfInBounds_toArray, List.set_cons_zero, List.set_cons_succ])
      refine wpAnyH_take (i := 7) (v := .int .i64 (f k)) rfl (by kernel_rfl) (by kernel_rfl) (by kernel_rfl) (fun _ _ _ h => h) (Or.inl ⟨by rfl, ?_⟩) hHeld ?_
      · intro wy hy; have c0 := (hy.box 2 (w.heap.size, elL n X) rfl).part (j := a) (by omega); (try dsimp only at c0); rw [HATk.out] at c0; go_simp
      (try simp only [Act.put, List.setIfInBounds_toArray, List.set_cons_zero, List.set_cons_succ])
      refine wpAnyH_ready (rs := [0, 3]) (by kernel_rfl) (by simp) ?_
      refine AllReadyH.cons rfl (fun K hK => ?_) (AllReadyH.cons rfl (fun K hK => ?_) AllReadyH.nil)
      · rw [if_pos (by rfl)]
        refine wp_loadE _ rfl w4.heap.size rfl (st.box 0 (w4.heap.size, elL n P0) rfl) ?_
        refine hK.out _ _ hHeld (fun hHeld => ?_)
        clear hK K
        (try simp only [Act.put, List.setIfInBounds_toArray, List.set_cons_zero, List.set_cons_succ])
        refine wpAnyH_ready (rs := [3]) (by kernel_rfl) (by simp) ?_
        refine AllReadyH.cons rfl (fun K hK => ?_) AllReadyH.nil
        rw [if_pos (by rfl)]
        go_simp
        go_at_call 122
        refine (HMk.out _).mono ?_
        rintro e w8 ⟨rfl, b8⟩
        replace st := st.keep b8
        refine hK.out _ _ (hHeld.keep b8) (fun hHeld => ?_)
        clear hK K
        (try simp only [Act.put, List.setIfInBounds_toArray, List.set_cons_zero, List.set_cons_succ])
        refine wpAnyH_ready (rs := [8]) (by kernel_rfl) (by simp) ?_
        refine AllReadyH.cons rfl (fun K hK => ?_) AllReadyH.nil
        rw [if_pos (by rfl)]
        go_simp
        go_at_call 108
        refine (HPL.out _).mono ?_
        rintro e w9 ⟨rfl, b9⟩
        replace st := st.keep b9
        refine hK.out _ _ (hHeld.keep b9) (fun hHeld => ?_)
        clear hK K
        (try simp only [Act.put, List.setIfInBounds_toArray, List.set_cons_zero, List.set_cons_succ])
        refine wpAnyH_ready (rs := [9]) (by kernel_rfl) (by simp) ?_
        refine AllReadyH.cons rfl (fun K hK => ?_) AllReadyH.nil
        rw [if_pos (by rfl)]
        refine wp_storeE _ _ rfl w4.heap.size rfl (m := n) (F := P1) rfl (st.box 0 (w4.heap.size, elL n P0) rfl) elL_len ?_
        intro wz xz fz
        have sts := sz6.out
        replace st := st.headR xz fz (by have := sz.out; omega) (by have := sz.out; intro q hq; simp only [List.mem_cons, List.not_mem_nil, or_false] at hq; rcases hq with rfl | rfl | rfl <;> dsimp only <;> omega) (by have := sz.out; intro q hq; simp only [List.mem_cons, List.not_mem_nil, or_false] at hq; rcases hq with rfl <;> dsimp only <;> omega)
        refine hK.out _ _ (st.subR (fun b hb => List.mem_cons_of_mem _ hb) (fun _ h => h)) (fun hHeld => ?_)
        clear hK K
        (try simp only [Act.put, List.setIfInBounds_toArray, List.set_cons_zero, List.set_cons_succ])
        refine wpAnyH_done (by kernel_rfl) ?_ _
        go_wp2
        go_roundw
        case rel =>
          refine ⟨k + 1, by omega, by go_num, ?_⟩
          rw [← HP1.out] at st
          exact st
        case measure => simp [intOf] <;> omega
      · rw [if_pos (by rfl)]
        go_simp
        go_at_call 122
        refine (HMk.out _).mono ?_
        rintro e w8 ⟨rfl, b8⟩
        replace st := st.keep b8
        refine hK.out _ _ (hHeld.keep b8) (fun hHeld => ?_)
        clear hK K
        (try simp only [Act.put, List.setIfInBounds_toArray, List.set_cons_zero, List.set_cons_succ])
        refine wpAnyH_ready (rs := [0]) (by kernel_rfl) (by simp) ?_
        refine AllReadyH.cons rfl (fun K hK => ?_) AllReadyH.nil
        rw [if_pos (by rfl)]
        refine wp_loadE _ rfl w4.heap.size rfl (st.box 0 (w4.heap.size, elL n P0) rfl) ?_
        refine hK.out _ _ hHeld (fun hHeld => ?_)
        clear hK K
        (try simp only [Act.put, List.setIfInBounds_toArray, List.set_cons_zero, List.set_cons_succ])
        refine wpAnyH_ready (rs := [8]) (by kernel_rfl) (by simp) ?_
        refine AllReadyH.cons rfl (fun K hK => ?_) AllReadyH.nil
        rw [if_pos (by rfl)]
        go_simp
        go_at_call 108
        refine (HPL.out _).mono ?_
        rintro e w9 ⟨rfl, b9⟩
        replace st := st.keep b9
        refine hK.out _ _ (hHeld.keep b9) (fun hHeld => ?_)
        clear hK K
        (try simp only [Act.put, List.setIfInBounds_toArray, List.set_cons_zero, List.set_cons_succ])
        refine wpAnyH_ready (rs := [9]) (by kernel_rfl) (by simp) ?_
        refine AllReadyH.cons rfl (fun K hK => ?_) AllReadyH.nil
        rw [if_pos (by rfl)]
        refine wp_storeE _ _ rfl w4.heap.size rfl (m := n) (F := P1) rfl (st.box 0 (w4.heap.size, elL n P0) rfl) elL_len ?_
        intro wz xz fz
        have sts := sz6.out
        replace st := st.headR xz fz (by have := sz.out; omega) (by have := sz.out; intro q hq; simp only [List.mem_cons, List.not_mem_nil, or_false] at hq; rcases hq with rfl | rfl | rfl <;> dsimp only <;> omega) (by have := sz.out; intro q hq; simp only [List.mem_cons, List.not_mem_nil, or_false] at hq; rcases hq with rfl <;> dsimp only <;> omega)
        refine hK.out _ _ (st.subR (fun b hb => List.mem_cons_of_mem _ hb) (fun _ h => h)) (fun hHeld => ?_)
        clear hK K
        (try simp only [Act.put, List.setIfInBounds_toArray, List.set_cons_zero, List.set_cons_succ])
        refine wpAnyH_done (by kernel_rfl) ?_ _
        go_wp2
        go_roundw
        case rel =>
          refine ⟨k + 1, by omega, by go_num, ?_⟩
          rw [← HP1.out] at st
          exact st
        case measure => simp [intOf] <;> omega
    · obtain rfl : k = phiN n := by omega
      have B0 := st.box 0 (w4.heap.size, elL n (opR n (fun j => prR n f g (phiN n) j) (phiN n))) rfl
      have B1 := st.box 1 (w3.heap.size, elL 0 (fun _ => 0)) rfl
      dsimp only at B0 B1
      go_wp2_with (refine wpList_loadE rfl _ rfl w4.heap.size rfl B0 ?_; refine wpList_storeE rfl _ _ rfl w3.heap.size rfl rfl B1 elL_len ?_; intro wz xz fz)
      refine bodyPost_ret (v := .agg (elC n (opR n (fun j => prR n f g (phiN n) j) (phiN n)))) (resE (b := w3.heap.size) rfl rfl xz) rfl ⟨rfl, ?_⟩
      exact st.1.trans (fz.below (by have := sz.out; omega) st.1.size)
end Go.Proofs.Ytonopjbccdpbhaa
