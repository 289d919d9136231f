/- ExactOrder of the program and of the model. -/
import Derived.Test.YtkcofcppmlndiaaInvC
import Derived.Test.YtkcofcppmlndiaaFin
import Derived.Test.YtkcofcppmlndiaaBox3
import Derived.Maps.OwnSet
import Derived.Maps.OwnIn
import Derived.Maps.OwnOps
import Derived.Maps.Views
import Derived.Maps.Range
import Derived.DeepKeys4
namespace Go.Proofs.Ytkcofcppmlndiaa
open Go.RowKit Go.ChangeShapes Go.Sort Go.Maps Go.WideMaps
set_option linter.unusedVariables false
set_option linter.unusedSimpArgs false

theorem ckeys_laid : laidOutB Try.prog = true := by kernel_rfl
theorem ckeys_row : (25 : TypeId) < Try.prog.types.size := of_decide_eq_true (by kernel_rfl)
theorem ckeys_wide : (match Try.prog.underlying 25 with | some (.array _ _) | some (.struct _) => true | _ => false) = true := by rw [Try.underlying25]
set_option maxRecDepth 100000 in
theorem ckeys_law : KeyLaw Try.prog 25 := deep_law_laid ckeys_laid (m := 2) (by omega) ckeys_row (by kernel_rfl) ckeys_wide
theorem ckeys_keyed : Keyed Try.prog 25 := Keyed.of_law ckeys_law
theorem ckeys_cells : Try.prog.cellsOf 25 = 3 := by kernel_rfl
theorem ckeys_cells1 : Try.prog.cellsOf 2 = 1 := by kernel_rfl
theorem ckeys_type : Try.prog.keyType 25 = true := by kernel_rfl
theorem ckeys_size : ∃ d, Try.prog.types.size + 1 = d + 2 := ⟨Try.prog.types.size - 1, by have : 1 ≤ Try.prog.types.size := of_decide_eq_true (by kernel_rfl); omega⟩
theorem wf_i64 {x : Int} (h : inR x) : (Lit.int .i64 x).wf = true := by
  unfold inR at h
  have h1 : IntKind.i64.min = -9223372036854775808 := by decide
  have h2 : IntKind.i64.max = 9223372036854775807 := by decide
  simp only [Lit.wf, h1, h2, Bool.and_eq_true, decide_eq_true_eq]
  exact h
/-- A character is a key. -/
theorem key_chr (x y z : Int) (hx : inR x) (hy : inR y) (hz : inR z) : ∃ l, keyOf Try.prog 25 (.agg #[.int .i64 x, .int .i64 y, .int .i64 z]) = some l := by
  obtain ⟨d, hd⟩ := ckeys_size
  have hone : ∀ u, inR u → Try.prog.keyLits (d + 1) 2 [.int .i64 u] = some [.int .i64 u] := by
    intro u hu
    simp only [Program.keyLits, Try.underlying2]
    first | rw [if_pos ⟨trivial, wf_i64 hu⟩] | rw [if_pos (wf_i64 hu)] | simp [wf_i64 hu]
  have hl : ∃ ls, Try.prog.keyLits (d + 2) 25 [.int .i64 x, .int .i64 y, .int .i64 z] = some ls := by
    refine ⟨[.int .i64 x, .int .i64 y, .int .i64 z], ?_⟩
    unfold Program.keyLits
    simp only [Try.underlying25]
    rw [if_pos ⟨by rw [ckeys_cells]; rfl, by first | rfl | decide +kernel | simp⟩]
    simp only [List.mapM_cons, List.mapM_nil, ckeys_cells1, List.drop_zero, List.drop_succ_cons, List.take_succ_cons, List.take_zero, hone x hx, hone y hy, hone z hz]
    rfl
  obtain ⟨ls, hls⟩ := hl
  refine ⟨.string (keyBytes ls), ?_⟩
  unfold keyOf
  simp only [Try.underlying25]
  rw [if_pos (by rw [ckeys_type]; show (true && (Value.agg #[.int .i64 x, .int .i64 y, .int .i64 z]).formed Try.prog 25) = true; simp [Value.formed, Try.underlying25, ckeys_cells])]
  rw [hd]
  show Option.map _ (Try.prog.keyLits (d + 2) 25 [.int .i64 x, .int .i64 y, .int .i64 z]) = _
  rw [hls]
  rfl
theorem ownsMap_keepC {H : Type} {P : Program} {k : TypeId} {R : Value → Option (DataW H × List MemPlace)} {w w' : World} {b n : Nat} {D : DataW H} (h : w.ownsMap P k R b n D) (hb : Below w.heap.size w w') : w'.ownsMap P k R b n D := by
  have hlt := h.lt
  exact h.kept (row := none) ⟨hb.os, hb.tape, hb.output, hb.size, fun k hk _ => hb.block k hk⟩ (by simp)
theorem plainElem_boolC {H : Type} {P : Program} {e : TypeId} (he : P.underlying e = some .bool) {v : Value} {b : Bool} {ps : List MemPlace} (h : plainElem (H := H) P e v = some (.lit (.bool b), ps)) : v = .bool b := by
  unfold plainElem at h
  rw [he] at h
  cases v <;> simp at h
  rw [h.1]
/-- m[k] of a map of truth values, at the operation. -/
theorem wpList_lookup_boolC {H : Type} {P : Program} (w : World) {ops : Array Oper} {rest : List Oper} {o : Oper} {a : Act} {Q : Exit → Act → World → Prop}
    (hg : o.guard = none) (m x : Operand) (t : TypeId) (hop : o.op = Op.lookup t m x false)
    (k e : TypeId) (K : Keyed P k) (ht : P.underlying t = some (.map k e)) (he : P.underlying e = some .bool) (hz : (zeroValue e).run P w = .ok (.bool false) w) (b n : Nat) (D : DataW H)
    (hm : a.eval m = .map (some b)) (hown : w.ownsMap P k (plainElem P e) b n D) (key : Value) (kl : Lit) (hx : a.eval x = key) (hkey : keyOf P k key = some kl)
    (r : Bool) (hat : D.atKey kl (.lit (.bool false)) = .lit (.bool r)) (hK : wpList P ops Q rest (a.put o.dst (.bool r)) w) : wpList P ops Q (o :: rest) a w := by
  refine wpList_plain hg fun K' hK' => ?_
  obtain ⟨v, ps, hrun, hv⟩ := hown.lookup K ht hz (plainElem_bool he false) hkey
  rw [hat] at hv
  have e := plainElem_boolC he hv
  subst e
  unfold Oper.wp
  simp [execOp, hop, hm, hx, hrun, Result.andThen]
  exact hK' _ _ hK
theorem Try.zeroC (w : World) : (zeroValue 4).run Try.prog w = .ok (.bool false) w := by kernel_rfl

/-- Whether q is one of the first i powers. -/
def kB (n k q : Nat) : Nat → Bool
  | 0 => false
  | i + 1 => kB n k q i || decide (k * (i + 1) % n = q)
theorem kB_no {n k q : Nat} : ∀ i, (∀ j, j < i → k * (j + 1) % n ≠ q) → kB n k q i = false
  | 0, _ => rfl
  | i + 1, h => by
    show (_ || _) = _
    rw [kB_no i (fun j hj => h j (by omega)), decide_eq_false (h i (by omega))]
    rfl
theorem kB_yes {n k q : Nat} : ∀ i j, j < i → k * (j + 1) % n = q → kB n k q i = true
  | 0, j, h, _ => by omega
  | i + 1, j, h, e => by
    show (_ || _) = _
    by_cases hj : j = i
    · subst hj; rw [decide_eq_true e, Bool.or_true]
    · rw [kB_yes i j (by omega) e]; rfl
/-- What the map holds after i powers. -/
def SeenC (p n k i : Nat) (D : DataW Unit) : Prop :=
  Tidy D ∧ size D = i ∧ ∀ (q : Nat) (kl : Lit), keyOf Try.prog 25 (.agg #[.int .i64 (p : Int), .int .i64 (n : Int), .int .i64 (q : Int)]) = some kl → D.atKey kl (.lit (.bool false)) = .lit (.bool (kB n k q i)) ∧ has D kl = kB n k q i
/-- How many entries the map in block b has. -/
noncomputable def mlenC (w : World) (b : Nat) : Nat := match (Builtin.len_ #[87] 2 #[.map (some b)]).run Try.prog w with | .ok (.int _ z) _ => z.toNat | _ => 0
theorem mlenC_eq {w : World} {b n : Nat} {D : DataW Unit} (h : w.ownsMap Try.prog 25 (plainElem (H := Unit) Try.prog 4) b n D) : mlenC w b = size D := by
  unfold mlenC
  rw [h.len Try.underlying87]
  simp
theorem seenC_none (p n k : Nat) : SeenC p n k 0 (.map []) := ⟨tidy_empty, rfl, fun q kl h => ⟨rfl, rfl⟩⟩
theorem seenC_put {p n k i : Nat} {D : DataW Unit} {ki : Lit} (h : SeenC p n k i D) (hk : keyOf Try.prog 25 (.agg #[.int .i64 (p : Int), .int .i64 (n : Int), .int .i64 ((k * (i + 1) % n : Nat) : Int)]) = some ki) (hno : kB n k (k * (i + 1) % n) i = false) : SeenC p n k (i + 1) (D.put ki (.lit (.bool true))) := by
  have hs : WideAt.IsKeyLit ki := by
    obtain ⟨s, e⟩ := ckeys_law.str hk
    rw [e]
    exact trivial
  refine ⟨h.1.put hs _, ?_, fun q kl hq => ?_⟩
  · rw [size_put h.1, (h.2.2 _ _ hk).2, hno, h.2.1]
    rfl
  · by_cases e : kl = ki
    · subst e
      have h2 := ckeys_law.inj hq hk
      have h3 : q = k * (i + 1) % n := by
        generalize k * (i + 1) % n = t at h2 ⊢
        simp at h2
        omega
      rw [atKey_put_same h.1.isMap hs, has_put_same h.1.isMap hs]
      have hb : kB n k q (i + 1) = true := kB_yes (i + 1) i (by omega) h3.symm
      rw [hb]
      exact ⟨rfl, rfl⟩
    · rw [atKey_put_other e, has_put_other e]
      have hb : kB n k q (i + 1) = kB n k q i := by
        show (_ || _) = _
        rw [decide_eq_false (fun h4 => e (by rw [← h4, hk] at hq; exact (Option.some.inj hq).symm)), Bool.or_false]
      rw [hb]
      exact h.2.2 q kl hq

theorem ExactOrder_impl_bad (p n k : Int) (h : ¬ ChP p n k) (w : World) :
    Calls Try.prog 30 #[.agg #[.int .i64 p, .int .i64 n, .int .i64 k]] w fun e w' => e = .returned (.tuple #[.int .i64 0, .int .i64 1]) ∧ Below w.heap.size w w' := by
  have H := Lib.hid h; clear h
  go_enter Try.func30, Try.ntmps30
  go_wp2_with (go_at_call 26; refine (IsCharacter_no p n k H.out _).mono ?_; rintro e w1 ⟨rfl, b1⟩)
  go_ret2
  exact ⟨rfl, ((Below.refl w.heap.size w).alloc (Nat.le_refl _) _).trans (b1.mono (by simp))⟩
theorem ExactOrder_spec_bad (p n k : Int) (h : ¬ ChP p n k) (w : World) :
    Calls Try.prog 53 #[.agg #[.int .i64 p, .int .i64 n, .int .i64 k]] w fun e w' => e = .returned (.tuple #[.int .i64 0, .int .i64 1]) ∧ Below w.heap.size w w' := by
  have H := Lib.hid h; clear h
  go_enter Try.func53, Try.ntmps53
  go_wp2_with (go_at_call 96; refine (l03Is_no p n k H.out _).mono ?_; rintro e w1 ⟨rfl, b1⟩)
  go_ret2
  exact ⟨rfl, ((Below.refl w.heap.size w).alloc (Nat.le_refl _) _).trans (b1.mono (by simp))⟩

set_option maxHeartbeats 1000000 in
theorem ExactOrder_spec_ok (p n k : Nat) (hp : primeN p = true) (h1 : 1 ≤ n) (h2 : n ≤ 16) (hd : (p - 1) % n = 0) (hk : k < n) (w : World) :
    Calls Try.prog 53 #[.agg #[.int .i64 (p : Int), .int .i64 (n : Int), .int .i64 (k : Int)]] w fun e w' => e = .returned (.tuple #[.int .i64 ((n / Nat.gcd n k : Nat) : Int), .int .i64 0]) ∧ Below w.heap.size w w' := by
  have hb := primeN_bd hp
  have HP := Lib.hid hp
  have HD := Lib.hid hd
  clear hp hd
  have hg1 : 1 ≤ Nat.gcd n k := Nat.gcd_pos_of_pos_left k (by omega)
  have hg2 : Nat.gcd n k ≤ n := Nat.gcd_le_left k (by omega)
  have HG := Lib.hid (show gcdI (n : Int) (k : Int) = ((Nat.gcd n k : Nat) : Int) by unfold gcdI; rw [Int.toNat_natCast, Int.toNat_natCast])
  generalize Nat.gcd n k = g at *
  have hg0 : ¬ g = 0 := by omega
  have st0 := (((St.start w).alloc (.cells #[.int .i64 (p : Int), .int .i64 (n : Int), .int .i64 (k : Int)] 25)).addBox w.heap.size [.int .i64 (p : Int), .int .i64 (n : Int), .int .i64 (k : Int)] (Box.made _ _ _ _ (fun j v h => by simpa using h)))
  go_enter Try.func53, Try.ntmps53
  go_wp2_with fail
  refine (l03Is_yes p n k HP.out h1 h2 HD.out hk _).mono ?_
  rintro e w1 ⟨rfl, b1⟩
  have st1 := st0.keep b1
  have hz1 := b1.size
  simp only [World.size_alloc] at hz1
  clear st0 b1
  obtain ⟨e0, e1, e2⟩ := (st1.box 0 (w.heap.size, [.int .i64 (p : Int), .int .i64 (n : Int), .int .i64 (k : Int)]) rfl).cell3
  have BB := st1.1
  have k1 := cell_regrown (w := w1) (a := ⟨w.heap.size, 1, none⟩) (v := .int .i64 (n : Int)) e1
  have k2 := cell_regrown (w := w1) (a := ⟨w.heap.size, 2, none⟩) (v := .int .i64 (k : Int)) e2
  clear st1 e0 e1 e2
  go_wp2_with fail
  refine wp_region_quiet_below (by kernel_rfl) (by kernel_rfl) ?_
  repeat (go_big_quiet_step (first
    | (go_at_call 125; rw [← HG.out]; exact regrown_same (l01Gcd_any _ _ _ (by omega) (by omega) (by omega) (by omega)))
    | (go_at_call 125; exact regrown_same ((l01Gcd_any _ _ _ (by omega) (by omega) (by omega) (by omega)).mono (fun e w' h => by rw [HG.out] at h; exact h)))))
  refine wpQuiet_nil ?_
  intro _ hw'
  obtain ⟨⟨dq, osq⟩, hw''⟩ := hw'
  subst hw''
  go_wp2
  go_ret2
  exact ⟨by simp; exact wrap_inR (by have a1 := Int.ediv_nonneg (a := (n : Int)) (b := (g : Int)) (by omega) (by omega); have a2 := Int.ediv_le_self (a := (n : Int)) (g : Int) (by omega); unfold inR; omega), BB.trans ((below_regrown w1 dq osq).mono BB.size)⟩

set_option maxRecDepth 100000 in
set_option maxHeartbeats 2000000 in
theorem ExactOrder_impl_ok (p n k : Nat) (hp : primeN p = true) (h1 : 1 ≤ n) (h2 : n ≤ 16) (hd : (p - 1) % n = 0) (hk : k < n) (w : World) :
    Calls Try.prog 30 #[.agg #[.int .i64 (p : Int), .int .i64 (n : Int), .int .i64 (k : Int)]] w fun e w' => e = .returned (.tuple #[.int .i64 ((n / Nat.gcd n k : Nat) : Int), .int .i64 0]) ∧ Below w.heap.size w w' := by
  have hb := primeN_bd hp
  have HP := Lib.hid hp
  have HD := Lib.hid hd
  clear hp hd
  have HO := Lib.hid (ord_ok h1 h2 hk)
  have hn0 : ¬ n = 0 := by omega
  generalize n / Nat.gcd n k = m at *
  have st0 := (((St.start w).alloc (.cells #[.int .i64 (p : Int), .int .i64 (n : Int), .int .i64 (k : Int)] 25)).addBox w.heap.size [.int .i64 (p : Int), .int .i64 (n : Int), .int .i64 (k : Int)] (Box.made _ _ _ _ (fun j v h => by simpa using h)))
  have hmm := @run_makeMap Try.prog
  go_enter Try.func30, Try.ntmps30
  go_wp2_with fail
  refine (IsCharacter_yes p n k HP.out h1 h2 HD.out hk _).mono ?_
  rintro e w1 ⟨rfl, b1⟩
  have st1 := st0.keep b1
  have hz1 := b1.size
  simp only [World.size_alloc] at hz1
  clear st0 b1
  have st2 := st1.alloc (.map #[] 0)
  obtain ⟨e0, e1, e2⟩ := (st2.box 0 (w.heap.size, [.int .i64 (p : Int), .int .i64 (n : Int), .int .i64 (k : Int)]) rfl).cell3
  have hom := (World.ownsMap_made w1 Try.prog 25 (plainElem (H := Unit) Try.prog 4)).alloc (.cells #[.int .i64 (p : Int), .int .i64 (n : Int), .int .i64 (k : Int)] 25)
  have HST := Lib.hid ((st2.alloc (.cells #[.int .i64 (p : Int), .int .i64 (n : Int), .int .i64 (k : Int)] 25)).addBox _ [.int .i64 (p : Int), .int .i64 (n : Int), .int .i64 (k : Int)] (Box.made _ _ _ _ (fun j v h => by simpa using h)))
  have HOM := Lib.hid hom
  simp only [World.size_alloc] at HST
  clear st1 st2 hom
  go_wp2
  go_loopw [5] (fun s5 wr => ∃ (i bp : Nat) (D : DataW Unit), i ≤ m ∧ s5 = .pointer (some ⟨bp, 0, none⟩) ∧ w1.heap.size + 1 ≤ bp ∧ wr.ownsMap Try.prog 25 (plainElem (H := Unit) Try.prog 4) w1.heap.size i D ∧ SeenC p n k i D ∧
      St w wr [(bp, [.int .i64 (p : Int), .int .i64 (n : Int), .int .i64 ((k * (i + 1) % n : Nat) : Int)]), (w.heap.size, [.int .i64 (p : Int), .int .i64 (n : Int), .int .i64 (k : Int)])] []) (fun _ wr => m + 1 - mlenC wr w1.heap.size)
  case atStart =>
    refine ⟨0, w1.heap.size + 1, _, by omega, rfl, Nat.le_refl _, HOM.out, seenC_none p n k, ?_⟩
    rw [show k * (0 + 1) % n = k by rw [Nat.zero_add, Nat.mul_one, Nat.mod_eq_of_lt hk]]
    exact HST.out
  case round =>
    clear HST HOM e0 e1 e2 hmm
    obtain ⟨i, bp, D, hi, rfl, hbp, hown, hseen, hst⟩ := hrel
    have HO1 := Lib.hid (mlenC_eq hown)
    have HOW := Lib.hid hown; clear hown
    have HS := Lib.hid hseen; clear hseen
    have HT := Lib.hid hst; clear hst
    have hq := Nat.mod_lt (k * (i + 1)) (show 0 < n by omega)
    obtain ⟨c0, c1, c2⟩ := (HT.out.box 0 (bp, [.int .i64 (p : Int), .int .i64 (n : Int), .int .i64 ((k * (i + 1) % n : Nat) : Int)]) rfl).cell3
    obtain ⟨ki, hki⟩ := key_chr (p : Int) (n : Int) ((k * (i + 1) % n : Nat) : Int) (by unfold inR; omega) (by unfold inR; omega) (by unfold inR; omega)
    have HKI := Lib.hid hki
    clear hki
    have HAT := Lib.hid ((HS.out.2.2 _ ki HKI.out).1)
    by_cases hlt : i < m
    · have hno : kB n k (k * (i + 1) % n) i = false := kB_no i (fun j hj => (HO.out.2.2.2 i j hlt hj).symm)
      have HAT2 := Lib.hid (show D.atKey ki (.lit (.bool false)) = .lit (.bool false) by rw [HAT.out, hno])
      have HPUT := Lib.hid (seenC_put HS.out HKI.out hno)
      have HNX := Lib.hid (show (k * (i + 1) % n + k) % n = k * (i + 1 + 1) % n by rw [Nat.mod_add_mod, Nat.mul_succ k (i + 1)])
      have hm16 := HO.out.2.1
      have HSD := Lib.hid HS.out.2.1
      clear hno HAT HS
      generalize k * (i + 1) % n = q at *
      generalize hq2 : k * (i + 1 + 1) % n = q2 at *
      have HQ2 := Lib.hid hq2
      clear hq2
      go_wp2_with (first
        | (at_lookup; refine wpList_lookup_boolC _ rfl _ _ 87 rfl 25 4 ckeys_keyed Try.underlying87 Try.underlying4 (Try.zeroC _) w1.heap.size i D rfl HOW.out _ ki rfl HKI.out false HAT2.out ?_)
        | (at_mapUpdate; refine wpList_mapUpdate_own _ rfl _ _ _ 87 rfl 25 4 ckeys_keyed Try.underlying87 (plainElem (H := Unit) Try.prog 4) w1.heap.size i D rfl HOW.out (by unfold maxLen; omega) _ _ ki rfl rfl HKI.out (.lit (.bool true)) [] (plainElem_bool Try.underlying4 true) ?_; intro w8 hown8 hgr8
           have hz8 := hgr8.size
           have T8 := HT.out.write (Frame.ofGrown hgr8) (by omega) (by intro b hb; simp only [List.mem_cons, List.not_mem_nil, or_false] at hb; rcases hb with rfl | rfl <;> dsimp only <;> omega) (by intro s hs'; cases hs')
           obtain ⟨d0, d1, d2⟩ := (T8.box 0 (bp, [.int .i64 (p : Int), .int .i64 (n : Int), .int .i64 (q : Int)]) rfl).cell3
           have T9 := (T8.tailB.alloc (.cells #[.int .i64 (p : Int), .int .i64 (n : Int), .int .i64 (q : Int)] 25)).addBox _ [.int .i64 (p : Int), .int .i64 (n : Int), .int .i64 (q : Int)] (Box.made _ _ _ _ (fun j v h => by simpa using h))
           obtain ⟨g0, g1, g2⟩ := (T9.box 0 (w8.heap.size, [.int .i64 (p : Int), .int .i64 (n : Int), .int .i64 (q : Int)]) rfl).cell3
           obtain ⟨f0, f1, f2⟩ := (T9.box 1 (w.heap.size, [.int .i64 (p : Int), .int .i64 (n : Int), .int .i64 (k : Int)]) rfl).cell3
           have T8H := Lib.hid T8
           have T9H := Lib.hid T9
           have HO8 := Lib.hid hown8
           clear hown8 hgr8 T8 T9)
        | (go_at_call 92; refine (characterProduct_any p n q p n k h1 h2 hq (by omega) _).mono ?_; rw [HNX.out]; rintro e w9 ⟨rfl, b9⟩
           have hz9 := b9.size
           simp only [World.size_alloc] at hz9
           have T10 := T9H.out.keep b9
           obtain ⟨x0, x1, x2⟩ := (T10.box 0 (w8.heap.size, [.int .i64 (p : Int), .int .i64 (n : Int), .int .i64 (q : Int)]) rfl).cell3
           have xz := (T10.box 0 (w8.heap.size, [.int .i64 (p : Int), .int .i64 (n : Int), .int .i64 (q : Int)]) rfl).2.2
           dsimp only at xz
           have HO9 := Lib.hid (ownsMap_keepC (HO8.out.alloc _) b9)
           have T10H := Lib.hid T10
           clear b9 T10))
      have hmb := HOW.out.lt
      have HOF := Lib.hid (((HO9.out.setCell (a := ⟨w8.heap.size, 0, none⟩) (by show w1.heap.size ≠ w8.heap.size; omega) (.int .i64 (p : Int))).setCell (a := ⟨w8.heap.size, 1, none⟩) (by show w1.heap.size ≠ w8.heap.size; omega) (.int .i64 (n : Int))).setCell (a := ⟨w8.heap.size, 2, none⟩) (by show w1.heap.size ≠ w8.heap.size; omega) (.int .i64 (q2 : Int)))
      have TF := Lib.hid (T10H.out.boxSet3 (u0 := .int .i64 (p : Int)) (u1 := .int .i64 (n : Int)) (u2 := .int .i64 (q2 : Int)) (by omega) (by intro b hb; simp only [List.mem_cons, List.not_mem_nil, or_false] at hb; rcases hb with rfl <;> dsimp only <;> omega) (by intro s hs'; cases hs'))
      have HM2 := Lib.hid (mlenC_eq HOF.out)
      have hsz1 := HPUT.out.2.1
      have hsz0 := HO1.out
      go_roundw
      case rel => exact ⟨i + 1, w8.heap.size, _, by omega, rfl, by omega, HOF.out, HPUT.out, by rw [HQ2.out]; exact TF.out⟩
      case measure => rw [HM2.out, hsz1, hsz0, HSD.out]; omega
    · obtain rfl : m = i := by omega
      have hyes : kB n k (k * (m + 1) % n) m = true := kB_yes m 0 (by have := HO.out.1; omega) (by rw [HO.out.2.2.1, Nat.zero_add, Nat.mul_one])
      have HAT2 := Lib.hid (show D.atKey ki (.lit (.bool false)) = .lit (.bool true) by rw [HAT.out, hyes])
      have BB := HT.out.1
      have hsz := HS.out.2.1
      have hlen : ∀ ty, (Builtin.len_ #[87] ty #[.map (some w1.heap.size)]).run Try.prog wr = .ok (.int .i64 (Maps.size D)) wr := fun ty => HOW.out.len Try.underlying87 ty
      rw [hsz] at hlen
      clear HAT hyes hsz
      go_wp2_with (first
        | (at_lookup; refine wpList_lookup_boolC _ rfl _ _ 87 rfl 25 4 ckeys_keyed Try.underlying87 Try.underlying4 (Try.zeroC _) w1.heap.size m D rfl HOW.out _ ki rfl HKI.out true HAT2.out ?_))
      go_ret2
      exact ⟨rfl, BB⟩
end Go.Proofs.Ytkcofcppmlndiaa
