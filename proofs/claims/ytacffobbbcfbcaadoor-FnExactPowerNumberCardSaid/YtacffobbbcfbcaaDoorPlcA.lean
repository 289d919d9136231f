/- Rests, powers and values of polynomials modulo a number, of the program and of the model. -/
import Derived.Test.YtacffobbbcfbcaaDoorPlcF
import Derived.Test.YtacffobbbcfbcaaDoorSeqG
import Derived.Test.YtacffobbbcfbcaaDoorPrm
namespace Go.Proofs.YtacffobbbcfbcaaDoor
open Go.RowKit Go.ChangeShapes Go.Shelf
set_option linter.unusedVariables false
set_option linter.unusedSimpArgs false
set_option maxRecDepth 100000
attribute [local go_sem] Oper.semAt_some

theorem restBy_any (x q : Int) (h1 : 1 ≤ q) (h2 : q ≤ 1000000000) (hx : -2000000000000000000 ≤ x) (hx' : x ≤ 2000000000000000000) (w : World) :
    Calls Tryd.prog 139 #[.int .i64 x, .int .i64 q] w fun r w' => r = .returned (.int .i64 (x % q)) ∧ w = w' := by
  have e1 := Int.tmod_lt_of_pos x (b := q) (by omega)
  have e2 := Int.lt_tmod_of_pos x (b := q) (by omega)
  have e3 : (x.tmod q + q) % q = x % q := by
    rw [Int.add_emod_right, Int.tmod_def, Int.sub_emod, Int.mul_emod_right, Int.sub_zero, Int.emod_emod]
  have e4 := Int.emod_nonneg x (b := q) (by omega)
  have e5 := Int.emod_lt_of_pos x (b := q) (by omega)
  have hq : ¬ q = 0 := by omega
  have E3 := Lib.hid e3
  clear e3
  go_enter Tryd.func139, Tryd.ntmps139
  go_wp2
  go_ret
  exact ⟨by rw [E3.out]; rfl, rfl⟩

theorem pwr_lt {p g : Nat} (h : 2 ≤ p) : ∀ k, pwr p g k < p
  | 0 => by show 1 < p; omega
  | k + 1 => Nat.mod_lt _ (by omega)
theorem powerModulo_any (l x k : Nat) (hl : 2 ≤ l) (hl2 : l ≤ 61) (hx : x < l) (hk : k ≤ 100) (w : World) :
    Calls Tryd.prog 101 #[.int .i64 (x : Int), .int .i64 (k : Int), .int .i64 (l : Int)] w fun r w' => r = .returned (.int .i64 (pwr l x k : Nat)) ∧ ∃ m, w' = w.drewN m := by
  go_enter Tryd.func101, Tryd.ntmps101
  go_wp2
  go_loopw [7, 9] (fun s7 s9 wr => ∃ i : Nat, i ≤ k ∧ s7 = .int .i64 (pwr l x i : Nat) ∧ s9 = .int .i64 (i : Int) ∧ ∃ m, wr = w.drewN m) (fun _ s9 _ => k - (intOf s9).toNat)
  case atStart => exact ⟨0, by omega, rfl, rfl, 0, rfl⟩
  case round =>
    obtain ⟨i, hi, rfl, rfl, m, rfl⟩ := hrel
    by_cases hlt : i < k
    · have hb := pwr_lt (p := l) (g := x) (by omega) i
      have hp0 : 0 ≤ ((pwr l x i : Nat) : Int) * (x : Int) := Int.mul_nonneg (by omega) (by omega)
      have hp1 : ((pwr l x i : Nat) : Int) * (x : Int) ≤ 61 * 61 := Int.mul_le_mul (by omega) (by omega) (by omega) (by omega)
      have hl0 : ¬ l = 0 := by omega
      have HS := Lib.hid (show ((pwr l x i : Nat) : Int) * (x : Int) % (l : Int) = ((pwr l x (i + 1) : Nat) : Int) by rw [pwr_succ, ← Int.natCast_mul, ← Int.natCast_emod])
      go_wp2
      go_roundw
      case rel => exact ⟨i + 1, by omega, by rw [← HS.out], by go_num, _, rfl⟩
      case measure => simp [intOf]; omega
    · obtain rfl : i = k := by omega
      go_wp2
      go_ret
      exact ⟨rfl, m, rfl⟩
/-! ### Values -/
theorem step_mod {v h x c q : Int} (e : v % q = h % q) : (v * x + c) % q = (h * x + c) % q := by
  rw [Int.add_emod, Int.mul_emod, e, ← Int.mul_emod, ← Int.add_emod]
theorem tmod_mod (a q : Int) : a.tmod q % q = a % q := by
  rw [Int.tmod_def, Int.sub_emod, Int.mul_emod_right, Int.sub_zero, Int.emod_emod]
section
variable {o : Bool} {lo hi : Nat} {v : Value} {n : Nat} {f : Nat → Int}
end

theorem mul_in {a b A B : Int} (ha : -A ≤ a) (ha' : a ≤ A) (hb : 0 ≤ b) (hb' : b ≤ B) : -(A * B) ≤ a * b ∧ a * b ≤ A * B := by
  have hA : 0 ≤ A := by omega
  constructor
  · have h1 : (-A) * B ≤ (-A) * b := Int.mul_le_mul_of_nonpos_left (by omega) hb'
    have h2 : (-A) * b ≤ a * b := Int.mul_le_mul_of_nonneg_right ha hb
    have h3 : (-A) * B = -(A * B) := Int.neg_mul A B
    omega
  · have h1 : a * b ≤ A * b := Int.mul_le_mul_of_nonneg_right ha' hb
    have h2 : A * b ≤ A * B := Int.mul_le_mul_of_nonneg_left hb' hA
    omega
/-! ### slices.Backward -/
theorem Backward_any (a : Option Addr) (n cap : Nat) (w : World) :
    Calls Tryd.prog 138 #[.slice a n cap] w fun e w' => e = .returned (.func (.func 140) #[] #[.pointer (some ⟨w.heap.size, 0, none⟩)]) ∧ w' = w.alloc (.cells #[.slice a n cap] 24) := by
  have hmf : ∀ (fn : Fn) (first cap : Array Value) (w : World), (Instr.makeFunc fn first cap).run Tryd.prog w = .ok (.func fn first cap) w := fun _ _ _ _ => rfl
  go_enter Tryd.func138, Tryd.ntmps138
  go_wp2
  go_ret
  exact ⟨by simp, rfl⟩

/-- The pair that comes at the place i: from the last number to the first. -/
abbrev encB (n : Nat) (f : Nat → Int) (i : Fin n) : Array Value := #[.int .i64 ((n - 1 - i.1 : Nat) : Int), .int .i64 (f (n - 1 - i.1))]

set_option maxRecDepth 100000 in
set_option maxHeartbeats 1000000 in
theorem bw_stops (n : Nat) (f : Nat → Int) (hn : n ≤ 1000) (F : Fence) (nF : Nat) (hf : F.fn 140) (hro : F.round = none) (hnF : 1 ≤ nF) (bs g off cap : Nat) (w : World)
    (cs : w.cell? ⟨bs, 0, none⟩ = some (.slice (some ⟨g, off, none⟩) n cap)) (hcap : n ≤ cap) (cf : ∀ j, j < n → w.cell? ⟨g, off + j, none⟩ = some (.int .i64 (f j))) :
    SeqStopsK F nF Tryd.prog 140 #[.pointer (some ⟨bs, 0, none⟩)] (encB n f) (Keeps2 bs g)
      (fun xs => xs.map Fin.val = List.range n) (fun pre => ∃ k, k ≤ n ∧ pre.map Fin.val = List.range k) n w := fun l J Jx W hW hJ hJx hY h0 => by
  have csW : W.cell? ⟨bs, 0, none⟩ = some (.slice (some ⟨g, off, none⟩) n cap) := (hW.cell (p := ⟨bs, 0, none⟩) (World.block_lt_of_cell? _ _ cs)).trans cs
  have CF := Lib.hid (show ∀ j, j < n → W.cell? ⟨g, off + j, none⟩ = some (.int .i64 (f j)) from fun j hj => (hW.cell (p := ⟨g, off + j, none⟩) (World.block_lt_of_cell? _ _ (cf j hj))).trans (cf j hj))
  clear cf
  refine callsIn_of_wp Tryd.func140 rfl hf ?_ hro
  simp only [Tryd.ntmps140, List.size_toArray, List.length_cons, List.length_nil, Nat.reduceAdd, Nat.reduceSub, Array.replicate_succ, Array.replicate_zero, List.push_toArray, List.append_toArray, List.nil_append, List.cons_append]
  gi_wp2
  gi_loopw [3] (fun s3 wr => ∃ (k : Nat) (pre : List (Fin n)), k ≤ n ∧ pre.map Fin.val = List.range k ∧ s3 = .int .i64 ((n : Int) - 1 - k) ∧ J pre wr ∧ Keeps2 bs g W wr) (fun s3 _ => (intOf s3 + 1).toNat)
  case atStart => exact ⟨0, [], by omega, rfl, by go_num, h0, Keeps2.refl _ _ _⟩
  case round =>
    obtain ⟨k, pre, hk, hpre, rfl, hJs, hBW⟩ := hrel
    have hlen : pre.length = k := by have := congrArg List.length hpre; simpa using this
    by_cases hlt : k < n
    · obtain ⟨i, hi⟩ : ∃ i, n - 1 - k = i := ⟨_, rfl⟩
      have e : (n : Int) - 1 - k = (i : Int) := by omega
      rw [e]
      obtain ⟨fn, tmps, assign, body, hy, hR⟩ := hY pre ⟨k, hlt⟩ wr hJs (by omega)
      dsimp only [encB] at hy
      rw [hi] at hy
      have hpre2 : (pre ++ [(⟨k, hlt⟩ : Fin n)]).map Fin.val = List.range (k + 1) := by rw [List.map_append, hpre, List.range_succ]; rfl
      generalize hx0 : (⟨k, hlt⟩ : Fin n) = x0 at *
      have HPR := Lib.hid hpre2
      clear hpre2 hx0 hpre
      have cs1 : wr.cell? ⟨bs, 0, none⟩ = some (.slice (some ⟨g, off, none⟩) n cap) := (World.cell?_of_block hBW.1).trans csW
      have cf1 : wr.cell? ⟨g, off + i, none⟩ = some (.int .i64 (f i)) := (World.cell?_of_block hBW.2).trans (CF.out i (by omega))
      have e2 : (i : Int) - 1 = (n : Int) - 1 - ((k + 1 : Nat) : Int) := by omega
      have E2 := Lib.hid e2
      clear e e2
      gi_wp2
      refine hR.mono ?_
      rintro ex W3 (⟨rfl, hJ3, hk3⟩ | ⟨rfl, hJx3⟩)
      · have hBW3 := hBW.trans hk3
        gi_wp2
        go_roundw
        case rel => exact ⟨k + 1, _, by omega, HPR.out, by rw [E2.out], hJ3, hBW3⟩
        case measure => simp [intOf] <;> omega
      · gi_wp2
        refine bodyPost_ret (results_none rfl _ _ _) rfl ?_
        exact ⟨⟨_, rfl⟩, .inr ⟨_, ⟨k + 1, by omega, HPR.out⟩, hJx3⟩⟩
    · obtain rfl : k = n := by omega
      have HPR := Lib.hid hpre
      clear hpre
      have e : (k : Int) - 1 - k = -1 := by omega
      rw [e]
      gi_wp2
      go_end0
      exact ⟨⟨_, rfl⟩, .inl ⟨pre, HPR.out, hJs⟩⟩
set_option maxRecDepth 100000 in
set_option maxHeartbeats 2000000 in
theorem valueModulo_any {o : Bool} {lo hi : Nat} {v : Value} {n : Nat} {f : Nat → Int} (w : World) (hs : Sl o w lo hi v n f) (hf : Within f n 1000000000) (h1 : 1 ≤ n) (hn : n ≤ 1000) (x q : Nat) (hq1 : 1 ≤ q) (hq : q ≤ 1000000000) (hx : x < q) :
    Calls Tryd.prog 137 #[v, .int .i64 (x : Int), .int .i64 (q : Int)] w fun r w' => r = .returned (.int .i64 (valN f n x q)) ∧ Below w.heap.size w w' := by
  obtain ⟨g, off, cap, rfl, _, hgs, hcap, _, hc, _⟩ := hs.at (by omega)
  have hsz := hs.size
  have HF := Lib.hid hf
  have st0 := (((St.start w).alloc (.cells #[.int .i64 (x : Int)] 2)).addBox w.heap.size [.int .i64 (x : Int)] (Box.made _ _ _ _ (fun j v h => by simpa using h)))
  replace st0 := (st0.alloc (.cells #[.int .i64 (q : Int)] 2)).addBox _ [.int .i64 (q : Int)] (Box.made _ _ _ _ (fun j v h => by simpa using h))
  replace st0 := (st0.alloc (.cells #[.int .i64 0] 2)).addBox _ [.int .i64 0] (Box.made _ _ _ _ (fun j v h => by simpa using h))
  replace st0 := (st0.alloc (.cells #[.slice (some ⟨g, off, none⟩) n cap] 24)).addBox _ [.slice (some ⟨g, off, none⟩) n cap] (Box.made _ _ _ _ (fun j v h => by simpa using h))
  simp only [World.size_alloc] at st0
  clear hf hs
  refine (callsIn_wide (n := 9)).1 ?_
  have hro : Fence.wide.round = none := rfl
  refine callsIn_of_wp_marks Tryd.func137 rfl trivial ?_ hro
  simp only [Tryd.ntmps137, List.size_toArray, List.length_cons, List.length_nil, Nat.reduceAdd, Nat.reduceSub, Array.replicate_succ, Array.replicate_zero, List.push_toArray, List.append_toArray, List.nil_append, List.cons_append]
  gi_wp2_with (refine ⟨trivial, ?_⟩; gi_at_call 138; refine (callsIn_wide.2 (Backward_any _ _ _ _)).mono ?_; rintro e w' ⟨rfl, rfl⟩)
  try simp only [World.size_alloc]
  obtain ⟨W0, hW0⟩ : ∃ W0, (((w.alloc (.cells #[.int .i64 (x : Int)] 2)).alloc (.cells #[.int .i64 (q : Int)] 2)).alloc (.cells #[.int .i64 0] 2)).alloc (.cells #[.slice (some ⟨g, off, none⟩) n cap] 24) = W0 := ⟨_, rfl⟩
  have hsz0 : W0.heap.size = w.heap.size + 1 + 1 + 1 + 1 := by rw [← hW0]; simp
  rw [hW0] at st0 ⊢
  have bx0 := st0.box 3 (w.heap.size, [.int .i64 (x : Int)]) rfl
  have bx1 := st0.box 2 (w.heap.size + 1, [.int .i64 (q : Int)]) rfl
  have bx2 := st0.box 1 (w.heap.size + 1 + 1, [.int .i64 0]) rfl
  have bx3 := st0.box 0 (w.heap.size + 1 + 1 + 1, [.slice (some ⟨g, off, none⟩) n cap]) rfl
  dsimp only at bx0 bx1 bx2 bx3
  have hB0 := st0.1
  have hc0 : ∀ j, j < n → W0.cell? ⟨g, off + j, none⟩ = some (.int .i64 (f j)) := fun j hj => (hB0.cell (p := ⟨g, off + j, none⟩) (by show g < _; omega)).trans (hc j hj)
  clear st0 hW0 hc
  refine wpIn_rangeFunc_ownF hro (by omega) (gf := 140) (lb := #[.pointer (some ⟨w.heap.size + 1 + 1 + 1, 0, none⟩)]) rfl trivial (enters_of Tryd.func140 (by kernel_rfl) rfl)
    (bw_stops n f hn Fence.wide (9 - 1) trivial rfl (by omega) (w.heap.size + 1 + 1 + 1) g off cap W0 (bx3.2.1 0 _ rfl) hcap hc0) (fun h k => h.trans k) (Keeps2.at (by omega) (by omega)) (Below.refl _ _) (fun _ => rfl)
    (fun pre W => (Box W w.heap.size [.int .i64 (x : Int)] ∧ Box W (w.heap.size + 1) [.int .i64 (q : Int)] ∧ ∃ y : Int, Box W (w.heap.size + 1 + 1) [.int .i64 y] ∧ (pre.map Fin.val = List.range pre.length → y % (q : Int) = hor f x n pre.length % (q : Int)) ∧ -(q : Int) < y ∧ y < (q : Int)) ∧ Below w.heap.size w W ∧ W0.heap.size ≤ W.heap.size)
    (fun _ _ _ => False)
    (fun s A B row hs hg hr => by
      obtain ⟨⟨h1, h2, y, h3, h4⟩, h5, h6⟩ := hs
      have hB := grown_below hg hr h6
      exact ⟨⟨h1.keepB hB (by omega), h2.keepB hB (by omega), y, h3.keepB hB (by omega), h4⟩, h5.trans (hB.mono (by omega)), Nat.le_trans h6 hg.size⟩)
    (fun _ _ _ _ _ hs _ _ => hs)
    ⟨⟨bx0, bx1, 0, bx2, fun _ => by simp [hor], by omega, by omega⟩, hB0, Nat.le_refl _⟩
    (fun i => { tmps := #[.slice (some ⟨g, off, none⟩) n cap, .int .i64 (x : Int), .int .i64 (q : Int), undef, .pointer (some ⟨w.heap.size, 0, none⟩), .pointer (some ⟨w.heap.size + 1, 0, none⟩), .int .i64 0, .pointer (some ⟨w.heap.size + 1 + 1, 0, none⟩), undef, .int .i64 (f (n - 1 - i.1)), .slice (some ⟨g, off, none⟩) n cap, .func (.func 140) #[] #[.pointer (some ⟨w.heap.size + 1 + 1 + 1, 0, none⟩)], .int .i64 ((n - 1 - i.1 : Nat) : Int), .int .i64 (f (n - 1 - i.1)), undef, undef, undef, undef, undef, undef, undef, undef, undef, undef], defers := [] }) ?assign ?body ?done ?stop
  case assign =>
    intro l i W K hK
    gi_wp2
    first | exact hK | simpa [encB] using hK
  case body =>
    rintro l pre i W ⟨⟨b0, b1, y, b2, e2, y1, y2⟩, hB, hz⟩ hlen
    have c0 := b0.2.1 0 _ rfl
    have c1 := b1.2.1 0 _ rfl
    have c2 := b2.2.1 0 _ rfl
    have f2 := b2.2.2 0
    have hi := i.2
    have hfi := HF.out (n - 1 - i.1) (by omega)
    obtain ⟨z, hz0⟩ : ∃ z, f (n - 1 - i.1) = z := ⟨_, rfl⟩
    rw [hz0] at hfi
    have hp : -(1000000000 * 1000000000) ≤ y * (x : Int) ∧ y * (x : Int) ≤ 1000000000 * 1000000000 := mul_in (by omega) (by omega) (by omega) (by omega)
    have hq0 : ¬ q = 0 := by omega
    have t1 := Int.tmod_lt_of_pos (y * (x : Int) + z) (b := (q : Int)) (by omega)
    have t2 := Int.lt_tmod_of_pos (y * (x : Int) + z) (b := (q : Int)) (by omega)
    have E := Lib.hid (show (pre ++ [i]).map Fin.val = List.range (pre ++ [i]).length → (y * (x : Int) + z).tmod q % q = hor f x n (pre ++ [i]).length % q from fun hm => by
      rw [List.map_append, List.length_append, List.length_singleton, List.range_succ] at hm
      obtain ⟨h1, h2⟩ := List.append_inj hm (by simp)
      have h3 : i.1 = pre.length := by simpa using h2
      rw [tmod_mod, step_mod (e2 h1), List.length_append]
      show _ = (hor f x n pre.length * x + f (n - 1 - pre.length)) % q
      rw [← h3, hz0])
    clear e2
    simp only [hz0]
    gi_wp2
    exact ⟨KeepsOthers.setCell _ _ _, Keeps2.setCell _ (by simp) (by simp; omega), ⟨b0.other _ _ (by show _ ≠ w.heap.size + 1 + 1; omega), b1.other _ _ (by show _ ≠ w.heap.size + 1 + 1; omega), _, b2.set1 _, E.out, t2, t1⟩, hB.setCell (p := ⟨w.heap.size + 1 + 1, 0, none⟩) (by simp; omega) _, by simpa using hz⟩
  case done =>
    rintro D ys W hD hys ⟨⟨b0, b1, y, b2, e2, y1, y2⟩, hB, hz⟩ hK
    have c1 := b1.2.1 0 _ rfl
    have c2 := b2.2.1 0 _ rfl
    have hl : ys.length = n := by have := congrArg List.length hys; simpa using this
    have e3 := e2 (by rw [hys, hl])
    rw [hl] at e3
    clear e2
    gi_wp2_with (refine ⟨trivial, ?_⟩; gi_at_call 139; refine (callsIn_wide.2 (restBy_any y q (by omega) (by omega) (by omega) (by omega) _)).mono ?_; rintro e w' ⟨rfl, rfl⟩)
    refine ⟨by simp, .inl ⟨_, _, rfl, run_takeDeferred hK, ?_⟩⟩
    exact ⟨_, results_tmp rfl _ _ _, rfl, hB.trans (belowK_b (w := w) (Nat.le_refl _) W D _ _ (by omega) hK rfl rfl)⟩
  case stop =>
    rintro c D pre W hD hp hs
    exact absurd hs (by simp)
end Go.Proofs.YtacffobbbcfbcaaDoor
