/- CharactersOf of the program and of the model. -/
import Derived.Test.YtkcofcppmlndiaaChs
import Derived.Test.YtkcofcppmlndiaaChr2
namespace Go.Proofs.Ytkcofcppmlndiaa
open Go.RowKit Go.ChangeShapes Go.Sort
set_option linter.unusedVariables false
set_option linter.unusedSimpArgs false

theorem Try.infoC : (Try.prog.info? 25).map (fun i => (i.zero, i.size, i.bytes)) = some (some (.agg #[.int .i64 0, .int .i64 0, .int .i64 0]), 3, 24) := by kernel_rfl
theorem made3 (n j : Nat) (h : j < n) : (madeCells #[.int .i64 0, .int .i64 0, .int .i64 0] n)[j]? = some (.int .i64 0) := by
  unfold madeCells
  rw [Array.getElem?_map, Array.getElem?_range, if_pos h]
  have h3 : j % 3 = 0 ∨ j % 3 = 1 ∨ j % 3 = 2 := by omega
  show some ((#[Value.int .i64 0, Value.int .i64 0, Value.int .i64 0] : Array Value)[j % 3]!) = _
  rcases h3 with e | e | e <;> rw [e] <;> rfl
/-- All characters, three numbers each. -/
def chF (p n : Nat) : Nat → Int := fun j => if j % 3 = 0 then (p : Int) else if j % 3 = 1 then (n : Int) else ((j / 3 : Nat) : Int)
theorem chF_inR {p n j : Nat} (hp : p ≤ 61) (hn : n ≤ 16) (hj : j < 3 * n) : inR (chF p n j) := by
  unfold chF inR
  split
  · omega
  · split <;> omega
theorem Sl.ofRowE {w : World} {base g cap m : Nat} {f : Nat → Int} (h : RowE w base 25 3 g cap m (fun i => [.int .i64 (f (3 * i)), .int .i64 (f (3 * i + 1)), .int .i64 (f (3 * i + 2))])) (hr : ∀ j, j < 3 * m → inR (f j)) (hm : 3 * m ≤ maxLen) :
    Sl true w base w.heap.size (.slice (some ⟨g, 0, none⟩) (3 * m) (3 * m)) (3 * m) f := by
  obtain ⟨hl, hl'⟩ := h.lt
  refine ⟨Nat.le_refl _, hm, hr, .inr ⟨g, 0, 3 * m, rfl, hl, hl', Nat.le_refl _, hm, fun j hj => ?_, fun _ k => h.frozen k⟩⟩
  have h3 : j % 3 = 0 ∨ j % 3 = 1 ∨ j % 3 = 2 := by omega
  rcases h3 with e | e | e
  · have := h.cell (fun _ => rfl) (i := j / 3) (j := 0) (by omega) (by omega)
    rw [show 0 + j = j / 3 * 3 + 0 by omega, this]
    simp
    congr 1; omega
  · have := h.cell (fun _ => rfl) (i := j / 3) (j := 1) (by omega) (by omega)
    rw [show 0 + j = j / 3 * 3 + 1 by omega, this]
    simp
    congr 1; omega
  · have := h.cell (fun _ => rfl) (i := j / 3) (j := 2) (by omega) (by omega)
    rw [show 0 + j = j / 3 * 3 + 2 by omega, this]
    simp
    congr 1; omega
theorem wpList_push3 {w : World} {ops : Array Oper} {rest : List Oper} {o : Oper} {a : Act} {Q : Exit → Act → World → Prop} (hgd : o.guard = none) (s x : Operand)
    (ho : o.op = .call { callee := .builtin .append, args := #[s, x], argTypes := #[51, 51] })
    (hty : o.type = 51) (base g cap n : Nat) (V : Nat → List Value) (hs : a.eval s = .slice (some ⟨g, 0, none⟩) n cap) (hown : RowE w base 25 3 g cap n V) (B : Nat) (y0 y1 y2 : Int) (hx : a.eval x = .slice (some ⟨B, 0, none⟩) 1 1)
    (hb : w.heap[B]? = some (.cells #[.int .i64 y0, .int .i64 y1, .int .i64 y2] 25 (0, 0))) (hn : n + 1 ≤ 1048576)
    (h : ∀ g' cap' w', RowE w' base 25 3 g' cap' (n + 1) (fun i => if i < n then V i else [.int .i64 y0, .int .i64 y1, .int .i64 y2]) → w.grownBy w' (some g) → (g' = g ∨ g' = w.heap.size) → g' < w'.heap.size → wpList Try.prog ops Q rest (a.put o.dst (.slice (some ⟨g', 0, none⟩) (n + 1) cap')) w') : wpList Try.prog ops Q (o :: rest) a w := by
  obtain ⟨i0, hi, hz0, hz1, hz2⟩ := info_parts Try.infoC
  refine wpList_append_lies w hgd s x 51 ho base 25 i0 (.agg #[.int .i64 0, .int .i64 0, .int .i64 0]) 3 24 Try.underlying51 hi hz0 hz1 hz2 rfl (by decide) _ n _ hs hown ⟨B, 0, none⟩ 1 1 [.int .i64 y0, .int .i64 y1, .int .i64 y2] hx rfl (World.news_of_block hb) (by simp [Value.oneCell']) (by decide) (by unfold maxLen; omega) (by omega) (Nat.le_trans hown.lt.1 (Nat.le_of_lt hown.lt.2)) _ rfl ?_
  intro g' cap' w' h1 h2 h3 h4
  refine h g' cap' w' ?_ h2 (h3.imp (fun e => (Option.some.inj e).symm) id) h4
  unfold RowE
  rw [List.range_succ, List.flatMap_append]
  have e1 : (List.range n).flatMap (fun i => if i < n then V i else [.int .i64 y0, .int .i64 y1, .int .i64 y2]) = (List.range n).flatMap V := by
    rw [List.flatMap_def, List.flatMap_def]
    exact congrArg List.flatten (List.map_congr_left (fun j hj => by rw [if_pos (List.mem_range.1 hj)]))
  rw [e1]
  simpa using h1

theorem CharactersOf_impl_bad (p n : Int) (h : ¬ (PrP p ∧ OrP p n)) (w : World) :
    Calls Try.prog 46 #[.int .i64 p, .int .i64 n] w fun e w' => ∃ a' k', e = .returned (.tuple #[.slice a' (0) k', .int .i64 2]) ∧ Sl true w' w.heap.size w'.heap.size (.slice a' (3 * (0)) (3 * (0))) (3 * (0)) (fun _ => 0) ∧ Below w.heap.size w w' := by
  have H := Lib.hid h; clear h
  go_enter Try.func46, Try.ntmps46
  go_wp2_with (go_at_call 95; refine (haveCharacters_no p n H.out _).mono ?_; rintro e w1 ⟨rfl, b1⟩)
  go_ret2
  exact ⟨none, 0, rfl, Sl.nil _ _ _ (Nat.le_refl _) _, b1⟩
theorem CharactersOf_spec_bad (p n : Int) (h : ¬ (PrP p ∧ OrP p n)) (w : World) :
    Calls Try.prog 47 #[.int .i64 p, .int .i64 n] w fun e w' => ∃ a' k', e = .returned (.tuple #[.slice a' (0) k', .int .i64 2]) ∧ Sl true w' w.heap.size w'.heap.size (.slice a' (3 * (0)) (3 * (0))) (3 * (0)) (fun _ => 0) ∧ Below w.heap.size w w' := by
  by_cases hp : PrP p
  · obtain ⟨P, rfl⟩ := Int.eq_ofNat_of_zero_le hp.1
    have hp2 : primeN P = true := by have := hp.2; rwa [Int.toNat_natCast] at this
    have hb := primeN_bd hp2
    have HP := Lib.hid hp2
    have HO := Lib.hid (fun ho => h ⟨hp, ho⟩)
    clear h hp hp2
    go_enter Try.func47, Try.ntmps47
    go_wp2_with (first
      | (go_at_call 113; refine (l03Prime_yes P HP.out _).mono ?_; rintro e w1 ⟨rfl, m1, rfl⟩)
      | (go_at_call 123; refine (l03Order_no P n hb.1 hb.2 HO.out _).mono ?_; rintro e w2 ⟨rfl, b2⟩))
    go_ret2
    exact ⟨none, 0, rfl, Sl.nil _ _ _ (Nat.le_refl _) _, (below_drewN (Below.refl _ _) _).trans b2⟩
  · have H := Lib.hid hp
    clear h hp
    go_enter Try.func47, Try.ntmps47
    go_wp2_with (go_at_call 113; refine (l03Prime_no p H.out _).mono ?_; rintro e w1 ⟨rfl, m1, rfl⟩)
    go_ret2
    exact ⟨none, 0, rfl, Sl.nil _ _ _ (Nat.le_refl _) _, below_drewN (Below.refl _ _) _⟩

set_option maxRecDepth 100000 in
set_option maxHeartbeats 1000000 in
theorem CharactersOf_impl_ok (p n : Nat) (hp : primeN p = true) (h1 : 1 ≤ n) (h2 : n ≤ 16) (hd : (p - 1) % n = 0) (w : World) :
    Calls Try.prog 46 #[.int .i64 (p : Int), .int .i64 (n : Int)] w fun e w' => ∃ a' k', e = .returned (.tuple #[.slice a' (n) k', .int .i64 0]) ∧ Sl true w' w.heap.size w'.heap.size (.slice a' (3 * (n)) (3 * (n))) (3 * (n)) (chF p n) ∧ Below w.heap.size w w' := by
  have hb := primeN_bd hp
  have HP := Lib.hid hp
  have HD := Lib.hid hd
  clear hp hd
  have hmk : ∀ w : World, (Instr.makeSlice 51 (.int .i64 (n : Int)) (.int .i64 (n : Int))).run Try.prog w = .ok (.slice (some ⟨w.heap.size, 0, none⟩) n n) (w.alloc (.cells (madeCells #[.int .i64 0, .int .i64 0, .int .i64 0] (n * 3)) 25)) := by
    intro w
    obtain ⟨i0, hi, hz0, hz1, hz2⟩ := info_parts Try.infoC
    have h := run_make (P := Try.prog) w 51 25 i0 (.agg #[.int .i64 0, .int .i64 0, .int .i64 0]) Try.underlying51 hi hz0 .i64 .i64 (n : Int) (n : Int) (by omega) (by omega) (by rw [hz2]; omega) (by omega)
    rw [hz1, Int.toNat_natCast] at h
    exact h
  go_enter Try.func46, Try.ntmps46
  go_wp2_with (go_at_call 95; refine (haveCharacters_yes p n HP.out h1 h2 HD.out _).mono ?_; rintro e w1 ⟨rfl, b1⟩)
  have q0 := Lib.hid (Sl.made w1 (madeCells #[.int .i64 0, .int .i64 0, .int .i64 0] (n * 3)) 25 (3 * n) (3 * n) (fun _ => 0) (Nat.le_refl _) (by unfold maxLen; omega) (fun j hj => by simp [inR]) (fun j hj => made3 _ _ (by omega)))
  have hz1 := b1.size
  have B1 := Lib.hid (b1.alloc hz1 (.cells (madeCells #[.int .i64 0, .int .i64 0, .int .i64 0] (n * 3)) 25))
  clear hmk b1
  go_loopw [15] (fun s15 wr => ∃ q : Nat, q ≤ n ∧ s15 = .int .i64 (q : Int) ∧ Sl true wr w1.heap.size (w1.heap.size + 1) (.slice (some ⟨w1.heap.size, 0, none⟩) (3 * n) (3 * n)) (3 * n) (fun j => if j < 3 * q then chF p n j else 0) ∧ Below w.heap.size w wr) (fun s15 _ => n + 1 - (intOf s15).toNat)
  case atStart => exact ⟨0, by omega, rfl, q0.out.congr (fun j hj => by simp), B1.out⟩
  case round =>
    clear q0 B1
    obtain ⟨q, hq, rfl, hown, hB⟩ := hrel
    have HO := Lib.hid hown; clear hown
    by_cases hlt : q < n
    · have hqi : (q : Int) < (n : Int) := by omega
      have hc := (HO.out.known (by omega)).2.2.2.1
      have hz := (HO.out.known (by omega)).2.2.2.2 rfl
      have u0 := hc (q * 3) (by omega)
      have u1 := hc (q * 3 + 1) (by omega)
      have u2 := hc (q * 3 + 2) (by omega)
      have z0 := hz (q * 3)
      have z1 := hz (q * 3 + 1)
      have z2 := hz (q * 3 + 2)
      rw [Nat.zero_add] at u0 u1 u2
      have S0 := HO.out.store0 (i := q * 3) (x := (p : Int)) (by omega) (by unfold inR; omega)
      have S1 := S0.store0 (i := q * 3 + 1) (x := (n : Int)) (by omega) (by unfold inR; omega)
      have S2 := Lib.hid (S1.store0 (i := q * 3 + 2) (x := (q : Int)) (by omega) (by unfold inR; omega))
      have BR := Lib.hid (((hB.setCell (p := ⟨w1.heap.size, q * 3, none⟩) hz1 (.int .i64 (p : Int))).setCell (p := ⟨w1.heap.size, q * 3 + 1, none⟩) hz1 (.int .i64 (n : Int))).setCell (p := ⟨w1.heap.size, q * 3 + 2, none⟩) hz1 (.int .i64 (q : Int)))
      clear hc hz S0 S1 hB HO
      go_wp2
      go_roundw
      case rel => exact ⟨q + 1, by omega, by go_num, S2.out.congr (fun j hj => by
          by_cases e2 : j = q * 3 + 2
          · subst e2; unfold chF; rw [if_pos (by omega), if_neg (by omega), if_neg (by omega), if_pos rfl]; omega
          · by_cases e1 : j = q * 3 + 1
            · subst e1; unfold chF; rw [if_pos (by omega), if_neg (by omega), if_pos (by omega), if_neg e2, if_pos rfl]
            · by_cases e0 : j = q * 3
              · subst e0; unfold chF; rw [if_pos (by omega), if_pos (by omega), if_neg e2, if_neg e1, if_pos rfl]
              · have : (j < 3 * (q + 1)) = (j < 3 * q) := by simp; omega
                simp [e0, e1, e2, this]), BR.out⟩
      case measure => simp [intOf]; omega
    · obtain rfl : n = q := by omega
      go_wp2
      go_ret2
      exact ⟨_, _, rfl, (HO.out.congr (fun j hj => by rw [if_pos hj])).wide hz1 HO.out.size (Nat.le_refl _), hB⟩

set_option maxRecDepth 100000 in
set_option maxHeartbeats 1000000 in
theorem CharactersOf_spec_ok (p n : Nat) (hp : primeN p = true) (h1 : 1 ≤ n) (h2 : n ≤ 16) (hd : (p - 1) % n = 0) (w : World) :
    Calls Try.prog 47 #[.int .i64 (p : Int), .int .i64 (n : Int)] w fun e w' => ∃ a' k', e = .returned (.tuple #[.slice a' (n) k', .int .i64 0]) ∧ Sl true w' w.heap.size w'.heap.size (.slice a' (3 * (n)) (3 * (n))) (3 * (n)) (chF p n) ∧ Below w.heap.size w w' := by
  have hb := primeN_bd hp
  have HP := Lib.hid hp
  have HD := Lib.hid hd
  clear hp hd
  go_enter Try.func47, Try.ntmps47
  go_wp2_with (first
    | (go_at_call 113; refine (l03Prime_yes p HP.out _).mono ?_; rintro e w1 ⟨rfl, m1, rfl⟩)
    | (go_at_call 123; refine (l03Order_yes p n hb.1 hb.2 h1 h2 HD.out _).mono ?_; rintro e w2 ⟨rfl, b2⟩))
  have hz2 : w.heap.size ≤ w2.heap.size := b2.size
  have R1 := Lib.hid (RowE.made w2 w2.heap.size 25 3 (fun i => [.int .i64 (p : Int), .int .i64 (n : Int), .int .i64 (i : Int)]) (Nat.le_refl _))
  have ST := Lib.hid (((St.start w).drewN m1).keep b2 |>.alloc (.cells #[] 25))
  clear b2
  go_loopw [6, 7] (fun s6 s7 wr => ∃ (x g cap : Nat), x ≤ n ∧ s6 = .slice (some ⟨g, 0, none⟩) x cap ∧ s7 = .int .i64 (x : Int) ∧ RowE wr w2.heap.size 25 3 g cap x (fun i => [.int .i64 (p : Int), .int .i64 (n : Int), .int .i64 (i : Int)]) ∧ St w wr [] []) (fun _ s7 _ => n + 1 - (intOf s7).toNat)
  case atStart => exact ⟨0, _, _, by omega, rfl, rfl, R1.out, ST.out⟩
  case round =>
    clear R1 ST
    obtain ⟨x, g, cap, hx, rfl, rfl, hr, hst⟩ := hrel
    have R1 := Lib.hid hr; clear hr
    have HT := Lib.hid hst; clear hst
    obtain ⟨hl, hl'⟩ := R1.out.lt
    by_cases hlt : x < n
    · go_wp2_with (first
        | (at_builtin; refine wpList_push3 rfl (.tmp 23) (.tmp 28) rfl rfl w2.heap.size g cap x (fun i => [.int .i64 (p : Int), .int .i64 (n : Int), .int .i64 (i : Int)]) rfl (R1.out.alloc _) wr.heap.size (p : Int) (n : Int) (x : Int) rfl (heap_alloc_new wr _) (by omega) ?_; intro gA kA wA rowA grA orA ltA
           have stA := Lib.hid ((HT.out.alloc (.cells #[.int .i64 (p : Int), .int .i64 (n : Int), .int .i64 (x : Int)] 25)).write (Frame.ofGrown grA) (by omega) (by intro b hb; cases hb) (by intro s hs'; cases hs'))
           have RA := Lib.hid rowA
           clear rowA grA))
      go_roundw
      case rel =>
        exact ⟨x + 1, gA, kA, by omega, rfl, by go_num, RA.out.congr (fun j hj => by
          by_cases e : j < x
          · rw [if_pos e]
          · rw [if_neg e, show j = x by omega]), stA.out⟩
      case measure => simp [intOf] <;> omega
    · obtain rfl : n = x := by omega
      have BB := HT.out.1
      go_wp2
      go_ret2
      refine ⟨_, _, rfl, ?_, BB⟩
      refine (Sl.ofRowE (f := chF p n) (R1.out.congr (fun j hj => ?_)) (fun j hj => chF_inR hb.2 h2 hj) (by unfold maxLen; omega)).wide (by omega) (Nat.le_refl _) (Nat.le_refl _)
      unfold chF
      rw [if_pos (by omega), if_neg (by omega), if_pos (by omega), if_neg (by omega), if_neg (by omega), show (3 * j + 2) / 3 = j by omega]
end Go.Proofs.Ytkcofcppmlndiaa
