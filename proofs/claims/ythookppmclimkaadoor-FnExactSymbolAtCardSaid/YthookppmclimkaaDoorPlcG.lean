/- The door to places: a place that is none is a panic, which a deferred closure recovers. -/
import Derived.Test.YthookppmclimkaaDoorPlcC
import Derived.Defers
import Derived.Recover
import Derived.Laws.Pointers
import Derived.WalkLawsBesides
import Derived.Stop.Asserts
namespace Go.Proofs.YthookppmclimkaaDoor
open Go.RowKit Go.ChangeShapes Go.Sort
set_option linter.unusedVariables false
set_option linter.unusedSimpArgs false
set_option maxRecDepth 100000

/-- l and r are a place for n. -/
def PlP (n l r : Int) : Prop := FuP n l ∧ 1 ≤ r ∧ r < l ∧ isRt n.toNat l.toNat r.toNat = true
theorem PlP.nat {n l r : Int} (h : PlP n l r) : ∃ N L R : Nat, n = N ∧ l = L ∧ r = R ∧ 1 ≤ N ∧ N ≤ 16 ∧ primeN L = true ∧ fullN L N = true ∧ R ∈ roots N L := by
  obtain ⟨hf, h1, h2, h3⟩ := h
  obtain ⟨N, L, rfl, rfl, a, b, c, d⟩ := hf.nat
  obtain ⟨R, rfl⟩ := Int.eq_ofNat_of_zero_le (show 0 ≤ r by omega)
  refine ⟨N, L, R, rfl, rfl, rfl, a, b, c, d, roots_mem.2 ⟨by omega, by omega, by simpa using h3⟩⟩
theorem PlP.of {n l r : Nat} (h1 : 1 ≤ n) (h2 : n ≤ 16) (hl : primeN l = true) (hf : fullN l n = true) (hr : r ∈ roots n l) : PlP n l r := by
  obtain ⟨a, b, c⟩ := roots_mem.1 hr
  have := primeN_bd hl
  exact ⟨⟨⟨by omega, by omega, by omega, by simpa using hl⟩, by simpa using hf⟩, by omega, by omega, by simpa using c⟩

/-! slices.Contains -/
section
variable {o : Bool} {lo hi : Nat} {v : Value} {n : Nat} {f : Nat → Int}
set_option maxHeartbeats 1000000 in
theorem Index_any (w : World) (x : Int) (hn : n ≤ 1000) (hs : Sl o w lo hi v n f) :
    Calls Tryd.prog 103 #[v, .int .i64 x] w fun r w' => ((∃ i : Nat, i < n ∧ f i = x ∧ r = .returned (.int .i64 (i : Int))) ∨ ((∀ i, i < n → f i ≠ x) ∧ r = .returned (.int .i64 (-1)))) ∧ w = w' := by
  obtain ⟨a, cap, rfl⟩ := hs.shape
  have HS := Lib.hid hs
  clear hs
  go_enter Tryd.func103, Tryd.ntmps103
  go_wp2
  go_loopw [8] (fun s8 wr => ∃ k : Nat, k ≤ n ∧ s8 = .int .i64 (k : Int) ∧ (∀ i, i < k → f i ≠ x) ∧ wr = w) (fun s8 _ => n - (intOf s8).toNat)
  case atStart => exact ⟨0, Nat.zero_le _, rfl, fun j hj => absurd hj (Nat.not_lt_zero _), rfl⟩
  case round =>
    obtain ⟨k, hk, rfl, hno, hwr⟩ := hrel
    subst hwr
    have HN := Lib.hid hno
    clear hno
    by_cases hlt : k < n
    · obtain ⟨g, off, cap', hv, _, _, _, _, hc, _⟩ := HS.out.at (by omega)
      obtain ⟨rfl, rfl⟩ : a = some ⟨g, off, none⟩ ∧ cap = cap' := by cases hv; exact ⟨rfl, rfl⟩
      clear hv
      have hck := hc k hlt
      clear hc
      by_cases hx : f k = x
      · have hxb : (x == f k) = true := by rw [hx]; simp
        have HX := Lib.hid hx
        clear hx
        go_wp2
        go_ret
        exact ⟨.inl ⟨k, hlt, HX.out, rfl⟩, rfl⟩
      · have hxb : (x == f k) = false := beq_eq_false_iff_ne.2 (fun e => hx e.symm)
        have HX := Lib.hid hx
        clear hx
        go_wp2
        go_roundw
        case rel => exact ⟨k + 1, by omega, by go_num, fun j hj => by
          rcases Nat.lt_succ_iff_lt_or_eq.1 hj with h | h
          · exact HN.out j h
          · subst h; exact HX.out, by first | rfl | trivial⟩
        case measure => simp [intOf] <;> omega
    · obtain rfl : k = n := by omega
      go_wp2
      go_ret
      exact ⟨.inr ⟨HN.out, rfl⟩, rfl⟩
theorem Contains_yes (w : World) (x : Int) (hn : n ≤ 1000) (hs : Sl o w lo hi v n f) (h : ∃ i, i < n ∧ f i = x) :
    Calls Tryd.prog 96 #[v, .int .i64 x] w fun r w' => r = .returned (.bool true) ∧ w = w' := by
  obtain ⟨a, cap, rfl⟩ := hs.shape
  have HS := Lib.hid hs
  have H := Lib.hid h
  clear hs h
  go_enter Tryd.func96, Tryd.ntmps96
  go_wp2_with fail
  refine (Index_any _ x hn HS.out).mono ?_
  rintro r w1 ⟨⟨i, hi, _, rfl⟩ | ⟨hno, rfl⟩, rfl⟩
  · go_wp2
    go_ret
    exact ⟨by first | rfl | (simp; omega), rfl⟩
  · obtain ⟨i, hi, he⟩ := H.out
    exact absurd he (hno i hi)
theorem Contains_no (w : World) (x : Int) (hn : n ≤ 1000) (hs : Sl o w lo hi v n f) (h : ∀ i, i < n → f i ≠ x) :
    Calls Tryd.prog 96 #[v, .int .i64 x] w fun r w' => r = .returned (.bool false) ∧ w = w' := by
  obtain ⟨a, cap, rfl⟩ := hs.shape
  have HS := Lib.hid hs
  have H := Lib.hid h
  clear hs h
  go_enter Tryd.func96, Tryd.ntmps96
  go_wp2_with fail
  refine (Index_any _ x hn HS.out).mono ?_
  rintro r w1 ⟨⟨i, hi, he, rfl⟩ | ⟨hno, rfl⟩, rfl⟩
  · exact absurd he (H.out i hi)
  · go_wp2
    go_ret
    exact ⟨by first | rfl | simp, rfl⟩
end

/-! placeOf -/
theorem placeOf_ok (n l r : Nat) (h1 : 1 ≤ n) (h2 : n ≤ 16) (hl : primeN l = true) (hf : fullN l n = true) (hr : r ∈ roots n l) (w : World) :
    Calls Tryd.prog 74 #[.int .i64 (n : Int), .int .i64 (l : Int), .int .i64 (r : Int)] w fun e w' => e = .returned (.agg #[.int .i64 (n : Int), .int .i64 (l : Int), .int .i64 (r : Int)]) ∧ Below w.heap.size w w' := by
  have HL := Lib.hid hl
  have HF := Lib.hid hf
  have hrl := roots_len60 n l hl
  have HX := Lib.hid (show ∃ i, i < (roots n l).length ∧ rtF (roots n l) i = (r : Int) by
    obtain ⟨i, hi, e⟩ := List.getElem_of_mem hr
    exact ⟨i, hi, by unfold rtF; rw [List.getD_eq_getElem?_getD, List.getElem?_eq_getElem hi, Option.getD_some, e]⟩)
  clear hl hf hr
  have bx := Box.made w #[.int .i64 0, .int .i64 0, .int .i64 0] 57 [.int .i64 0, .int .i64 0, .int .i64 0] (fun j v h => by simpa using h)
  have B0 := (Below.refl w.heap.size w).alloc (Nat.le_refl _) (.cells #[.int .i64 0, .int .i64 0, .int .i64 0] 57)
  go_enter Tryd.func74, Tryd.ntmps74
  go_wp2_with (first
    | (go_at_call 95; refine (haveRoots_yes n l h1 h2 HL.out HF.out _).mono ?_; rintro e w1 ⟨rfl, b1⟩; have bx1 := bx.keep b1; have hz1 := b1.size)
    | (go_at_call 97; refine (rootsFor_any n l h1 h2 HL.out _).mono ?_; rintro e w2 ⟨a2, k2, rfl, s2, b2⟩; have bx2 := bx1.keep b2; have hz2 := b2.size)
    | (go_at_call 96; refine (Contains_yes _ _ (by omega) s2 HX.out).mono ?_; rintro e w3 ⟨rfl, rfl⟩; have c0 := bx2.2.1 0 _ rfl; have c1 := bx2.2.1 1 _ rfl; have c2 := bx2.2.1 2 _ rfl; have f0 := bx2.2.2))
  have bs := bx2.set3 (u0 := .int .i64 (n : Int)) (u1 := .int .i64 (l : Int)) (u2 := .int .i64 (r : Int))
  have d0 := bs.2.1 0 _ rfl
  have d1 := bs.2.1 1 _ rfl
  have d2 := bs.2.1 2 _ rfl
  refine bodyPost_ret (v := .agg #[.int .i64 (n : Int), .int .i64 (l : Int), .int .i64 (r : Int)]) (by simp [results, Tryd.results74, go_sem, c0, c1, c2, d0, d1, d2]) rfl ?_
  have BB := (B0.trans (b1.mono (by simp))).trans (b2.mono (by simp only [World.size_alloc] at hz1; omega))
  exact ⟨rfl, ((BB.setCell (p := ⟨w.heap.size, 0, none⟩) (Nat.le_refl _) _).setCell (p := ⟨w.heap.size, 1, none⟩) (Nat.le_refl _) _).setCell (p := ⟨w.heap.size, 2, none⟩) (Nat.le_refl _) _⟩
theorem placeOf_no (n l r : Int) (h : ¬ PlP n l r) (w : World) (ad : Addr) (hG : w.cell? ⟨0, 0, none⟩ = some (.iface 121 (.pointer (some ad)))) :
    Calls Tryd.prog 74 #[.int .i64 n, .int .i64 l, .int .i64 r] w fun e w' => e = .panicked [{ v := .iface 121 (.pointer (some ad)), recovered := false }] ∧ Below w.heap.size w w' := by
  have hgl := World.block_lt_of_cell? _ _ hG
  have B0 := (Below.refl w.heap.size w).alloc (Nat.le_refl _) (.cells #[.int .i64 0, .int .i64 0, .int .i64 0] 57)
  have hG0 := (B0.cell hgl).trans hG
  by_cases hf : FuP n l
  · obtain ⟨N, L, rfl, rfl, h1, h2, hl, hfn⟩ := hf.nat
    have HL := Lib.hid hl
    have HF := Lib.hid hfn
    have hrl := roots_len60 N L hl
    have HX := Lib.hid (show ∀ i, i < (roots N L).length → rtF (roots N L) i ≠ r from fun i hi e => by
      obtain ⟨y, hy, hye⟩ := rtF_mem hi
      obtain rfl : (y : Int) = r := hye.symm.trans e
      exact h (PlP.of h1 h2 hl hfn hy))
    clear h hf hl hfn
    go_enter Tryd.func74, Tryd.ntmps74
    go_wp2_with (first
      | (go_at_call 95; refine (haveRoots_yes N L h1 h2 HL.out HF.out _).mono ?_; rintro e w1 ⟨rfl, b1⟩; have hz1 := b1.size; have hG1 := (b1.cell (p := ⟨0, 0, none⟩) (by simp only [World.size_alloc]; dsimp only at hgl ⊢; omega)).trans hG0)
      | (go_at_call 97; refine (rootsFor_any N L h1 h2 HL.out _).mono ?_; rintro e w2 ⟨a2, k2, rfl, s2, b2⟩; have hz2 := b2.size; have hG2 := (b2.cell (p := ⟨0, 0, none⟩) (World.block_lt_of_cell? _ _ hG1)).trans hG1)
      | (go_at_call 96; refine (Contains_no _ _ (by omega) s2 HX.out).mono ?_; rintro e w3 ⟨rfl, rfl⟩))
    have BB := (B0.trans (b1.mono (by simp))).trans (b2.mono (by simp only [World.size_alloc] at hz1; omega))
    first | exact ⟨rfl, BB⟩ | exact ⟨rfl, rfl, BB⟩
  · have H := Lib.hid hf
    clear h hf
    go_enter Tryd.func74, Tryd.ntmps74
    go_wp2_with (go_at_call 95; refine (haveRoots_no n l H.out _).mono ?_; rintro e w1 ⟨rfl, b1⟩; have hz1 := b1.size; have hG1 := (b1.cell (p := ⟨0, 0, none⟩) (by simp only [World.size_alloc]; dsimp only at hgl ⊢; omega)).trans hG0)
    have BB := B0.trans (b1.mono (by simp))
    first | exact ⟨rfl, BB⟩ | exact ⟨rfl, rfl, BB⟩

/-! The closure that recovers -/
theorem isErr (v : Value) (w : World) : (Instr.typeAssert (.iface 121 v) 20 96 true).run Tryd.prog w = .ok (.tuple #[.iface 121 v, .bool true]) w :=
  run_typeAssert_hasB Tryd.underlying96 (by kernel_rfl) v _ w
theorem nilErr (w : World) : (Instr.typeAssert .nilIface 20 96 true).run Tryd.prog w = .ok (.tuple #[.nilIface, .bool false]) w := by kernel_rfl
theorem catch_panicking (p : Addr) (x : Int) (pv : Value) (older : List PanicEntry) (w : World) (hc : w.cell? p = some (.int .i64 x)) (hz : w.frozen? p = false) :
    CallsD Tryd.prog 73 #[.pointer (some p)] (.panicking ({ v := .iface 121 pv, recovered := false } :: older)) w fun e u' w' =>
      e = .returned (.tuple #[]) ∧ u' = .panicking ({ v := .iface 121 pv, recovered := true } :: older) ∧ w' = w.setCell p (.int .i64 2) := by
  refine callsD_of_wpS Tryd.func73 rfl fun c₀ cs hu => ?_
  have hie := isErr pv
  apply wpS_seq
  apply wpS_region
  simp [wpOpsS, go_sem, recoverD, hu, Tryd.ntmps73, Exit.thenS, hie]
  apply wpS_seq
  apply wpS_region
  simp [wpOpsS, go_sem, Exit.thenS]
  refine wpS_cond (t := true) (by simp [Act.eval, Array.replicate]) ?_
  simp only [if_true]
  apply wpS_region
  simp [wpOpsS, go_sem, hc, hz, bodyPostS, results, Tryd.results73]
theorem catch_idle (p : Addr) (w : World) :
    CallsD Tryd.prog 73 #[.pointer (some p)] .returning w fun e u' w' => e = .returned (.tuple #[]) ∧ u' = .returning ∧ w' = w := by
  refine callsD_of_wpS Tryd.func73 rfl fun c₀ cs hu => ?_
  have hie := nilErr
  apply wpS_seq
  apply wpS_region
  simp [wpOpsS, go_sem, recoverD, hu, Tryd.ntmps73, Exit.thenS, hie]
  apply wpS_seq
  apply wpS_region
  simp [wpOpsS, go_sem, Exit.thenS]
  refine wpS_cond (t := false) (by simp [Act.eval, Array.replicate]) ?_
  simp only [Bool.false_eq_true, if_false]
  refine wpS_of_wp (wp_skip ?_)
  cases c₀
  simp_all [bodyPostS, results, Tryd.results73]
/-! openPlace -/
set_option maxHeartbeats 2000000 in
theorem openPlace_ok (n l r : Nat) (h1 : 1 ≤ n) (h2 : n ≤ 16) (hl : primeN l = true) (hf : fullN l n = true) (hr : r ∈ roots n l) (w : World) :
    Calls Tryd.prog 39 #[.int .i64 (n : Int), .int .i64 (l : Int), .int .i64 (r : Int)] w fun e w' => e = .returned (.tuple #[.agg #[.int .i64 (n : Int), .int .i64 (l : Int), .int .i64 (r : Int)], .int .i64 0]) ∧ Below w.heap.size w w' := by
  have HL := Lib.hid hl
  have HF := Lib.hid hf
  have HR := Lib.hid hr
  clear hl hf hr
  have hmf : ∀ (fn : Fn) (first cap : Array Value) (w : World), (Instr.makeFunc fn first cap).run Tryd.prog w = .ok (.func fn first cap) w := fun _ _ _ _ => rfl
  have st0 := (((St.start w).alloc (.cells #[.int .i64 0, .int .i64 0, .int .i64 0] 57)).addBox w.heap.size [.int .i64 0, .int .i64 0, .int .i64 0] (Box.made _ _ _ _ (fun j v h => by simpa using h)))
  replace st0 := (st0.alloc (.cells #[.int .i64 0] 2)).addBox _ [.int .i64 0] (Box.made _ _ _ _ (fun j v h => by simpa using h))
  simp only [World.size_alloc] at st0
  go_enter_defers Tryd.func39, Tryd.ntmps39
  go_wp2_with (go_at_call 74; refine (placeOf_ok n l r h1 h2 HL.out HF.out HR.out _).mono ?_; rintro e w1 ⟨rfl, b1⟩; have st1 := st0.keep b1; have bx := st1.box 1 (w.heap.size, [.int .i64 0, .int .i64 0, .int .i64 0]) rfl; have by' := st1.box 0 (w.heap.size + 1, [.int .i64 0]) rfl; dsimp only at bx by'; have c0 := bx.2.1 0 _ rfl; have c1 := bx.2.1 1 _ rfl; have c2 := bx.2.1 2 _ rfl; have f0 := bx.2.2; have d0 := by'.2.1 0 _ rfl; have g0 := by'.2.2 0)
  have bs := (bx.set3 (u0 := .int .i64 (n : Int)) (u1 := .int .i64 (l : Int)) (u2 := .int .i64 (r : Int))).other ⟨w.heap.size + 1, 0, none⟩ (.int .i64 0) (by show w.heap.size ≠ w.heap.size + 1; omega)
  have bt := (((by'.other ⟨w.heap.size, 0, none⟩ (.int .i64 (n : Int)) (by show w.heap.size + 1 ≠ w.heap.size; omega)).other ⟨w.heap.size, 1, none⟩ (.int .i64 (l : Int)) (by show w.heap.size + 1 ≠ w.heap.size; omega)).other ⟨w.heap.size, 2, none⟩ (.int .i64 (r : Int)) (by show w.heap.size + 1 ≠ w.heap.size; omega)).set1 (.int .i64 0)
  have BB := (((st1.1.setCell (p := ⟨w.heap.size, 0, none⟩) (Nat.le_refl _) (.int .i64 (n : Int))).setCell (p := ⟨w.heap.size, 1, none⟩) (Nat.le_refl _) (.int .i64 (l : Int))).setCell (p := ⟨w.heap.size, 2, none⟩) (Nat.le_refl _) (.int .i64 (r : Int))).setCell (p := ⟨w.heap.size + 1, 0, none⟩) (Nat.le_succ _) (.int .i64 0)
  have e0 := bs.2.1 0 _ rfl
  have e1 := bs.2.1 1 _ rfl
  have e2 := bs.2.1 2 _ rfl
  have e3 := bt.2.1 0 _ rfl
  generalize ((((w1.setCell ⟨w.heap.size, 0, none⟩ (.int .i64 (n : Int))).setCell ⟨w.heap.size, 1, none⟩ (.int .i64 (l : Int))).setCell ⟨w.heap.size, 2, none⟩ (.int .i64 (r : Int))).setCell ⟨w.heap.size + 1, 0, none⟩ (.int .i64 0)) = W2 at e0 e1 e2 e3 BB ⊢
  refine leaves_cons (f := 73) (args := #[.pointer (some ⟨w.heap.size + 1, 0, none⟩)]) (by simp) (by simp [go_sem]) ?_
  refine (catch_idle _ _).mono ?_
  rintro e u' w'' ⟨rfl, rfl, rfl⟩
  simp [Leaves, settle, results, Tryd.results39, go_sem, e0, e1, e2, e3]
  exact BB
set_option maxHeartbeats 2000000 in
theorem openPlace_no (n l r : Int) (h : ¬ PlP n l r) (w : World) (ad : Addr) (hG : w.cell? ⟨0, 0, none⟩ = some (.iface 121 (.pointer (some ad)))) :
    Calls Tryd.prog 39 #[.int .i64 n, .int .i64 l, .int .i64 r] w fun e w' => e = .returned (.tuple #[.agg #[.int .i64 0, .int .i64 0, .int .i64 0], .int .i64 2]) ∧ Below w.heap.size w w' := by
  have H := Lib.hid h
  clear h
  have hmf : ∀ (fn : Fn) (first cap : Array Value) (w : World), (Instr.makeFunc fn first cap).run Tryd.prog w = .ok (.func fn first cap) w := fun _ _ _ _ => rfl
  have st0 := (((St.start w).alloc (.cells #[.int .i64 0, .int .i64 0, .int .i64 0] 57)).addBox w.heap.size [.int .i64 0, .int .i64 0, .int .i64 0] (Box.made _ _ _ _ (fun j v h => by simpa using h)))
  replace st0 := (st0.alloc (.cells #[.int .i64 0] 2)).addBox _ [.int .i64 0] (Box.made _ _ _ _ (fun j v h => by simpa using h))
  simp only [World.size_alloc] at st0
  have hG0 := (st0.1.cell (p := ⟨0, 0, none⟩) (World.block_lt_of_cell? _ _ hG)).trans hG
  go_enter_defers Tryd.func39, Tryd.ntmps39
  go_wp2_with (go_at_call 74; refine (placeOf_no n l r H.out _ ad hG0).mono ?_; rintro e w1 ⟨rfl, b1⟩; have st1 := st0.keep b1; have bx := st1.box 1 (w.heap.size, [.int .i64 0, .int .i64 0, .int .i64 0]) rfl; have by' := st1.box 0 (w.heap.size + 1, [.int .i64 0]) rfl; dsimp only at bx by'; have c0 := bx.2.1 0 _ rfl; have c1 := bx.2.1 1 _ rfl; have c2 := bx.2.1 2 _ rfl; have f0 := bx.2.2; have d0 := by'.2.1 0 _ rfl; have g0 := by'.2.2 0)
  have bs := bx.other ⟨w.heap.size + 1, 0, none⟩ (.int .i64 2) (by show w.heap.size ≠ w.heap.size + 1; omega)
  have bt := by'.set1 (.int .i64 2)
  have BB := st1.1.setCell (p := ⟨w.heap.size + 1, 0, none⟩) (Nat.le_succ _) (.int .i64 2)
  have e0 := bs.2.1 0 _ rfl
  have e1 := bs.2.1 1 _ rfl
  have e2 := bs.2.1 2 _ rfl
  have e3 := bt.2.1 0 _ rfl
  refine leaves_cons (f := 73) (args := #[.pointer (some ⟨w.heap.size + 1, 0, none⟩)]) (by simp) (by simp [go_sem]) ?_
  refine (catch_panicking ⟨w.heap.size + 1, 0, none⟩ 0 (.pointer (some ad)) [] w1 d0 g0).mono ?_
  rintro e u' w'' ⟨rfl, rfl, rfl⟩
  generalize w1.setCell ⟨w.heap.size + 1, 0, none⟩ (.int .i64 2) = W2 at e0 e1 e2 e3 BB ⊢
  simp [Leaves, settle, results, Tryd.results39, go_sem, e0, e1, e2, e3]
  exact BB
end Go.Proofs.YthookppmclimkaaDoor
