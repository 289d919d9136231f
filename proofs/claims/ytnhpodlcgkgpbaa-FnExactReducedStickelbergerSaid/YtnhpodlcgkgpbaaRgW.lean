/- Elements told: ringWithin of the program. -/
import Derived.Test.YtnhpodlcgkgpbaaRgM
import Derived.Test.YtnhpodlcgkgpbaaRgN
import Derived.Deep.RegionLaw
namespace Go.Proofs.Ytnhpodlcgkgpbaa
open Go.RowKit Go.ChangeShapes Go.Sort
set_option linter.unusedVariables false
set_option linter.unusedSimpArgs false
set_option maxRecDepth 100000
set_option maxHeartbeats 2000000

theorem step_pushR {w : World} {ops : Array Oper} {o : Oper} {a : Act} {K : Act → World → Prop} {Q : Exit → Act → World → Prop} {E : Prop} (hgd : o.guard = none) (s x : Operand)
    (ho : o.op = .call { callee := .builtin .append, args := #[s, x], argTypes := #[22, 22] })
    (base n : Nat) (v : Value) (f : Nat → Int) (hs : a.eval s = v) (hown : w.ownsRow base 2 1 v n (ints n f)) (hbase : base ≤ w.heap.size) (B : Nat) (y : Int) (hx : a.eval x = .slice (some ⟨B, 0, none⟩) 1 1)
    (hb : w.heap[B]? = some (.cells #[.int .i64 y] 2 (0, 0))) (hn : n + 1 ≤ 1048576)
    (h : ∀ g' cap' w', Row w' base g' cap' (n + 1) (fun j => if j < n then f j else y) → w.grownBy w' v.ownBlock → (v.ownBlock = some g' ∨ g' = w.heap.size) → g' < w'.heap.size → K (a.put o.dst (.slice (some ⟨g', 0, none⟩) (n + 1) cap')) w') :
    if Region.wanted o (yielded ops a.tmps) = true then Oper.wp Try.prog o a w K Q else E := by
  obtain ⟨i0, hi, hz0, hz1, hz2⟩ := info_parts Try.info2
  refine step_append_lies w hgd s x 22 ho base 2 i0 (.int .i64 0) 1 8 Try.underlying22 hi hz0 hz1 hz2 rfl (by decide) v n _ hs hown ⟨B, 0, none⟩ 1 1 [.int .i64 y] hx rfl (World.news_of_block hb) (by simp [Value.oneCell']) (by decide) (by unfold maxLen; omega) (by omega) hbase _ rfl ?_
  intro g' cap' w' h1 h2 h3 h4
  refine h g' cap' w' ?_ h2 h3 h4
  unfold Row
  rw [List.range_succ, List.map_append]
  have e1 : (List.range n).map (fun j => Value.int .i64 (if j < n then f j else y)) = ints n f := List.map_congr_left (fun j hj => by rw [if_pos (List.mem_range.1 hj)])
  rw [e1]
  simpa using h1
theorem own_lowR {w : World} {base n : Nat} {v : Value} {xs : List Value} {e : TypeId} (h : w.ownsRow base e 1 v n xs) (hb : base ≤ w.heap.size) : base ≤ v.ownBlock.getD w.heap.size := by
  rcases h.2 with ⟨rfl, _⟩ | ⟨g, cap, cur, rfl, hg, _⟩
  · exact hb
  · exact hg
theorem Frame.ofGrownR {w w' : World} {row : Option Nat} (hg : w.grownBy w' row) : Frame (row.getD w.heap.size) (row.getD w.heap.size + 1) w w' :=
  ⟨hg.os, hg.tape, hg.output, hg.size, fun k hk hne => hg.block k hk (fun e => by rw [← e] at hne; simp at hne; omega)⟩
theorem Row.keepR {w w' : World} {base g cap n lo hi : Nat} {f : Nat → Int} (h : Row w base g cap n f) (hf : Frame lo hi w w') (hd : g < lo ∨ hi ≤ g) : Row w' base g cap n f := by
  have hl := h.lt
  refine ⟨h.1, ?_⟩
  rcases h.2 with h2 | ⟨g', cap', cur, hv, hb, hh, r⟩
  · exact .inl h2
  · refine .inr ⟨g', cap', cur, hv, hb, ?_, r⟩
    cases hv
    rw [hf.block g hl.2 hd]; exact hh
theorem rg_zero (w : World) : (zeroValue 28).run Try.prog w = .ok (.agg #[.int .i64 0, .slice none 0 0]) w := by kernel_rfl
section
variable {ops : Array Oper} {rest : List Oper} {op : Oper} {a : Act} {w : World} {Q : Exit → Act → World → Prop}
theorem wpList_allocR (hgd : op.guard = none) (ho : op.op = .alloc 28)
    (h : ∀ w', Box w' w.heap.size [.int .i64 0, .slice none 0 0] → Below w.heap.size w w' → w'.heap.size = w.heap.size + 1 → wpList Try.prog ops Q rest (a.put op.dst (.pointer (some ⟨w.heap.size, 0, none⟩))) w') : wpList Try.prog ops Q (op :: rest) a w := by
  refine wpList_plain hgd fun K hK => ?_
  unfold Oper.wp execOp
  have := hK _ _ (h _ (Box.boxed w 28 _) ((Below.refl _ _).alloc (Nat.le_refl _) _) (by simp))
  simp only [ho, Instr.alloc, Sem.run_bind, Sem.run_pure, Result.andThen_ok, rg_zero, run_newVar _ _ _ (show ¬ (#[Value.int .i64 0, Value.slice none 0 0] : Array Value) = #[] from by simp)]
  exact this
theorem wpList_boxR (hgd : op.guard = none) (x : Operand) (ho : op.op = .box 28 x) {v0 v1 : Value} (hx : a.eval x = .agg #[v0, v1])
    (h : ∀ w', Box w' w.heap.size [v0, v1] → Below w.heap.size w w' → w'.heap.size = w.heap.size + 1 → wpList Try.prog ops Q rest (a.put op.dst (.pointer (some ⟨w.heap.size, 0, none⟩))) w') : wpList Try.prog ops Q (op :: rest) a w := by
  refine wpList_plain hgd fun K hK => ?_
  unfold Oper.wp execOp
  have := hK _ _ (h _ (Box.boxed w 28 _) ((Below.refl _ _).alloc (Nat.le_refl _) _) (by simp))
  simp only [ho, hx, Instr.box, Sem.run_bind, Sem.run_pure, Result.andThen_ok, run_newVar _ _ _ (show ¬ (#[v0, v1] : Array Value) = #[] from by simp)]
  exact this
theorem wpList_storeR (hgd : op.guard = none) (x y : Operand) (ho : op.op = .store 28 x y) (b : Nat) (hx : a.eval x = .pointer (some ⟨b, 0, none⟩)) {v0 v1 u0 u1 : Value} (hy : a.eval y = .agg #[v0, v1]) (h0 : v0.oneCell' = true) (h1 : v1.oneCell' = true) (hb : Box w b [u0, u1])
    (h : ∀ w', Box w' b [v0, v1] → Frame b (b + 1) w w' → wpList Try.prog ops Q rest (a.put op.dst undef) w') : wpList Try.prog ops Q (op :: rest) a w := by
  refine wpList_store_mid hgd _ x y ho b 0 #[v0, v1] hx hy (hb.there rfl) (by kernel_rfl) (all_oneCell_toArray (cs := [v0, v1]) (fun v hv => by
    simp only [List.mem_cons, List.not_mem_nil, or_false] at hv
    rcases hv with rfl | rfl
    · exact h0
    · exact h1)) ?_
  exact h _ (hb.setAll rfl) (Frame.setCells (Nat.le_refl _) (Nat.lt_succ_self _) _ 0 _ _ (Frame.refl _ _ _))
end
theorem Box.set1R {w : World} {b : Nat} {v0 v1 u : Value} (h : Box w b [v0, v1]) : Box (w.setCell ⟨b, 1, none⟩ u) b [v0, u] := by
  refine ⟨by simpa [World.setCell] using h.1, fun j v hv => ?_, fun k => (World.frozen?_setCell _ _ _ _).trans (h.2.2 k)⟩
  match j, hv with
  | 0, hv => rw [setCell_ne _ _ _ _ _ (by omega)]; exact h.2.1 0 v (by simpa using hv)
  | 1, hv => have e : u = v := by simpa using hv
             subst e; exact World.cell?_setCell_same _ _ _ (h.2.1 1 v1 rfl)
  | k + 2, hv => simp at hv
section
variable {f : Nat → Int}
theorem ringWithin_bad (n : Nat) (h2 : 2 ≤ n) (h40 : n ≤ 40) (hf : ∀ j, j < phiN n → inR (f j)) (hw : ¬ Within f (phiN n) 1000000000) (w : World) :
    Calls Try.prog 98 #[.agg (elC n (opR n f (phiN n)))] w fun e w' => e = .returned (.tuple #[.agg #[.int .i64 0, .slice none 0 0], .int .i64 3]) ∧ Below w.heap.size w w' := by
  have HIW := Lib.hid (fun w' => isWithinE_any (n : Int) (opR n f (phiN n)) (-1000000000) 1000000000 w' (fun j _ => opR_in hf j) (by unfold inR; omega) (by unfold inR; omega))
  have hb : inC (opR n f (phiN n)) (-1000000000) 1000000000 = false := by
    cases hb : inC (opR n f (phiN n)) (-1000000000) 1000000000 with
    | false => rfl
    | true => rw [opW_iff h2 h40] at hb; exact absurd hb hw
  rw [hb] at HIW
  clear hb hw hf
  obtain ⟨F, hF⟩ : ∃ F, opR n f (phiN n) = F := ⟨_, rfl⟩
  rw [hF] at HIW ⊢
  clear hF
  go_enter Try.func98, Try.ntmps98
  go_wp2_with (first
    | (refine wpList_boxE rfl _ rfl (m := n) (F := F) rfl ?_; intro w1 x1 b1 z1
       have st := ((St.start w).keep b1).addBox _ _ x1
       have Z1 := Lib.hid z1
       clear x1 b1 z1)
    | ((fail_if_success (have _g := Z2)); refine wpList_allocR rfl rfl ?_; intro w2' x2 b2 z2
       replace st := (st.keep b2).addBox _ _ x2
       have Z2 := Lib.hid z2
       have BX := st.box 1 (w.heap.size, elL n F) rfl
       dsimp only at BX
       clear x2 b2 z2)
    | (refine wpList_loadE rfl _ rfl w.heap.size rfl BX ?_)
    | (go_at_call 97; refine (HIW.out _).mono ?_; rintro e w2 ⟨rfl, b2⟩
       have Z3 := Lib.hid b2.size
       replace st := st.keep b2
       have BR := st.box 0 (w1.heap.size, [.int .i64 0, .slice none 0 0]) rfl
       have cx := (st.box 1 (w.heap.size, elL n F) rfl).mod
       dsimp only at BR cx
       clear b2 BX)
    | (refine wpList_storeR rfl _ _ rfl w1.heap.size rfl (v0 := .int .i64 0) (v1 := .slice none 0 0) rfl rfl rfl BR ?_; intro w5 x5 f5
       obtain ⟨d0, d1⟩ := x5.cell2))
  refine bodyPost_ret (v := .tuple #[.agg #[.int .i64 0, .slice none 0 0], .int .i64 3]) (by simp [results, Try.results98, go_sem, d0, d1]) rfl ⟨rfl, ?_⟩
  exact st.1.trans (f5.below (by have := Z1.out; omega) st.1.size)
theorem ringWithin_ok (n : Nat) (h2 : 2 ≤ n) (h40 : n ≤ 40) (hw : Within f (phiN n) 1000000000) (w : World) :
    Calls Try.prog 98 #[.agg (elC n (opR n f (phiN n)))] w fun e w' => ∃ a k, e = .returned (.tuple #[.agg #[.int .i64 (n : Int), .slice a (phiN n) k], .int .i64 0]) ∧ Sl true w' w.heap.size w'.heap.size (.slice a (phiN n) k) (phiN n) f ∧ Below w.heap.size w w' := by
  have hp := phi_le40 n (by omega)
  have HAT := Lib.hid (fun k (hk : k < phiN n) => opR_at (n := n) (by omega) h2 (f := f) (L := phiN n) (Nat.le_refl _) hk)
  have HIW := Lib.hid (fun w' => isWithinE_any (n : Int) (opR n f (phiN n)) (-1000000000) 1000000000 w' (fun j _ => opR_in (fun i hi => by have := hw i hi; unfold inR; omega) j) (by unfold inR; omega) (by unfold inR; omega))
  have hb : inC (opR n f (phiN n)) (-1000000000) 1000000000 = true := by rw [opW_iff h2 h40]; exact hw
  rw [hb] at HIW
  have HW := Lib.hid hw
  clear hb hw
  obtain ⟨F, hF⟩ : ∃ F, opR n f (phiN n) = F := ⟨_, rfl⟩
  rw [hF] at HIW HAT ⊢
  clear hF
  go_enter Try.func98, Try.ntmps98
  go_wp2_with (first
    | (refine wpList_boxE rfl _ rfl (m := n) (F := F) rfl ?_; intro w1 x1 b1 z1
       have st := ((St.start w).keep b1).addBox _ _ x1
       have Z1 := Lib.hid z1
       clear x1 b1 z1)
    | ((fail_if_success (have _g := Z2)); refine wpList_allocR rfl rfl ?_; intro w2' x2 b2 z2
       replace st := (st.keep b2).addBox _ _ x2
       have Z2 := Lib.hid z2
       have BX := st.box 1 (w.heap.size, elL n F) rfl
       dsimp only at BX
       clear x2 b2 z2)
    | (refine wpList_loadE rfl _ rfl w.heap.size rfl BX ?_)
    | (go_at_call 97; refine (HIW.out _).mono ?_; rintro e w2 ⟨rfl, b2⟩
       have Z3 := Lib.hid b2.size
       replace st := st.keep b2
       have BR := st.box 0 (w1.heap.size, [.int .i64 0, .slice none 0 0]) rfl
       have cx := (st.box 1 (w.heap.size, elL n F) rfl).mod
       dsimp only at BR cx
       clear b2 BX)
    | (refine wpList_allocR rfl rfl ?_; intro w4 x4 b4 z4
       replace st := (st.keep b4).addBox _ _ x4
       have Z4 := Lib.hid z4
       have B4 := st.box 0 (w2.heap.size, [.int .i64 0, .slice none 0 0]) rfl
       dsimp only at B4
       clear x4 b4 z4 BR cx)
    | (refine wpList_storeR rfl _ _ rfl w2.heap.size rfl (v0 := .int .i64 (n : Int)) (v1 := .slice none 0 0) rfl rfl rfl B4 ?_; intro w5 x5 f5
       have sz := Lib.hid (show w.heap.size < w1.heap.size ∧ w1.heap.size < w2.heap.size ∧ w2.heap.size < w5.heap.size from by have := Z1.out; have := Z2.out; have := Z3.out; have := Z4.out; have := f5.size; omega)
       replace st := st.headR x5 f5 (by have := sz.out; omega) (by have := sz.out; intro q hq; simp only [List.mem_cons, List.not_mem_nil, or_false] at hq; rcases hq with rfl | rfl <;> dsimp only <;> omega) (by intro s hs; cases hs)
       clear B4 x5 f5
       have cx := (st.box 2 (w.heap.size, elL n F) rfl).mod
       dsimp only at cx)
    | (go_at_call 118; refine (residuesOf40 n (by omega) h40 _).mono ?_; rintro e w6 ⟨gr, kr, rfl, s6, b6⟩
       have sz6 := Lib.hid (show w5.heap.size ≤ w6.heap.size from b6.size)
       replace st := (st.keep b6).addSl ⟨true, w5.heap.size, w6.heap.size, .slice (some ⟨gr, 0, none⟩) (phiN n) kr, phiN n, fun k => (res n k : Int)⟩ s6
       clear s6 b6))
  have HO0 : w6.ownsRow w6.heap.size 2 1 (.slice none 0 0) 0 (ints 0 f) := ⟨by simp [ints], .inl ⟨rfl, rfl⟩⟩
  go_loopw [18] (fun s18 wr => ∃ (k : Nat) (aq : Option Addr) (kq : Nat), k ≤ phiN n ∧ s18 = .int .i64 (k : Int) ∧ wr.ownsRow w6.heap.size 2 1 (.slice aq k kq) k (ints k f) ∧ St w wr [(w2.heap.size, [.int .i64 (n : Int), .slice aq k kq]), (w1.heap.size, [.int .i64 0, .slice none 0 0]), (w.heap.size, elL n F)] [⟨true, w5.heap.size, w6.heap.size, .slice (some ⟨gr, 0, none⟩) (phiN n) kr, phiN n, fun k => (res n k : Int)⟩]) (fun s18 _ => phiN n - (intOf s18).toNat)
  case atStart => exact ⟨0, none, 0, by omega, rfl, HO0, st⟩
  case round =>
    clear st cx HO0
    obtain ⟨k, aq, kq, hk, rfl, ho, st⟩ := hrel
    have HO := Lib.hid ho
    have hsl := (st.sl 0 ⟨true, w5.heap.size, w6.heap.size, .slice (some ⟨gr, 0, none⟩) (phiN n) kr, phiN n, fun k => (res n k : Int)⟩ rfl).size
    dsimp only at hsl
    clear ho
    have q0 := (st.box 0 (w2.heap.size, [.int .i64 (n : Int), .slice aq k kq]) rfl).cell2
    have qz := (st.box 0 (w2.heap.size, [.int .i64 (n : Int), .slice aq k kq]) rfl).2.2
    have BTB := st.box 0 (w2.heap.size, [.int .i64 (n : Int), .slice aq k kq]) rfl
    have ql := (st.box 0 (w2.heap.size, [.int .i64 (n : Int), .slice aq k kq]) rfl).1
    have cl := (st.box 2 (w.heap.size, elL n F) rfl).1
    dsimp only at q0 qz ql cl
    obtain ⟨q0, q1⟩ := q0
    by_cases hlt : k < phiN n
    · have hki : (k : Int) < (phiN n : Int) := by omega
      have hrk := (st.sl 0 ⟨true, w5.heap.size, w6.heap.size, .slice (some ⟨gr, 0, none⟩) (phiN n) kr, phiN n, fun k => (res n k : Int)⟩ rfl).known (by show 0 < phiN n; omega)
      replace hrk := hrk.2.2.2.1 k hlt
      dsimp only at hrk
      rw [Nat.zero_add] at hrk
      have hra := res_lt40 (n := n) (by omega) h2 hlt
      have HATk := Lib.hid (HAT.out k hlt)
      obtain ⟨r, ha⟩ : ∃ r, res n k = r := ⟨_, rfl⟩
      rw [ha] at hra hrk HATk
      clear ha
      obtain ⟨ha1, ha2, _⟩ := hra
      have hr40 : (r : Int) < 40 := by omega
      have c0 := (st.box 2 (w.heap.size, elL n F) rfl).part (j := r) (by omega)
      dsimp only at c0
      rw [HATk.out] at c0
      go_wp2_with fail
      go_region_law (first
        | (refine step_pushR rfl (.tmp 23) (.tmp 28) rfl w6.heap.size k (.slice aq k kq) f rfl (World.ownsRow.alloc HO.out _) (by simp only [World.size_alloc, World.size_drew]; omega) wr.heap.size (f k) rfl (heap_alloc_new wr _) (by omega) ?_; intro gA kA wA rowA grA orA ltA
           have hlow := own_lowR (World.ownsRow.alloc HO.out (.cells #[.int .i64 (f k)] 2)) (by simp only [World.size_alloc]; omega)
           have frA := Frame.ofGrownR grA
           have hlo2 : w6.heap.size ≤ (Value.slice aq k kq).ownBlock.getD (wr.alloc (.cells #[.int .i64 (f k)] 2)).drew.heap.size := hlow
           generalize (Value.slice aq k kq).ownBlock.getD (wr.alloc (.cells #[.int .i64 (f k)] 2)).drew.heap.size = R at frA hlo2
           have sts := sz6.out
           have stA := (st.alloc (.cells #[.int .i64 (f k)] 2)).drew.write frA (by have := sz.out; omega) (by have := sz.out; intro b hb; simp only [List.mem_cons, List.not_mem_nil, or_false] at hb; rcases hb with rfl | rfl | rfl <;> dsimp only <;> omega) (by intro s hs'; simp only [List.mem_cons, List.not_mem_nil, or_false] at hs'; rcases hs' with rfl <;> dsimp only <;> omega)
           have bA := stA.box 0 (w2.heap.size, [.int .i64 (n : Int), .slice aq k kq]) rfl
           obtain ⟨r0, r1⟩ := bA.cell2
           have rz := bA.2.2
           dsimp only at r0 r1 rz))
      all_goals
        have F1 := (Frame.refl w2.heap.size (w2.heap.size + 1) wA).setCell (Nat.le_refl _) (Nat.lt_succ_self _) (.slice (some ⟨gA, 0, none⟩) (k + 1) kA) (p := ⟨w2.heap.size, 1, none⟩)
        have STN := Lib.hid (stA.headR (bA.set1R (u := .slice (some ⟨gA, 0, none⟩) (k + 1) kA)) F1 (by have := sz.out; omega) (by have := sz.out; intro q hq; simp only [List.mem_cons, List.not_mem_nil, or_false] at hq; rcases hq with rfl | rfl <;> dsimp only <;> omega) (by have := sz.out; have := sz6.out; intro s hs'; simp only [List.mem_cons, List.not_mem_nil, or_false] at hs'; rcases hs' with rfl <;> dsimp only <;> omega))
        have RN := Lib.hid ((Row.keepR rowA F1 (by have := rowA.lt.1; have := sz.out; have := sz6.out; omega)).congr (f' := f) (fun j hj => by
          by_cases e : j < k
          · rw [if_pos e]
          · rw [if_neg e, show j = k by omega]))
        clear stA bA r0 r1 rz rowA grA frA F1
        go_wp2
        go_roundw
        case rel => exact ⟨k + 1, some ⟨gA, 0, none⟩, kA, by omega, by go_num, RN.out, STN.out⟩
        case measure => simp [intOf] <;> omega
    · obtain rfl : k = phiN n := by omega
      have BRB := st.box 1 (w1.heap.size, [.int .i64 0, .slice none 0 0]) rfl
      dsimp only at BRB
      have HOS := Lib.hid (Sl.ofRowF HO.out (fun j hj => by have := HW.out j hj; unfold inR; omega) (by unfold maxLen; omega))
      go_wp2_with (refine wpList_storeR rfl _ _ rfl w1.heap.size rfl (v0 := .int .i64 (n : Int)) (v1 := .slice aq (phiN n) kq) rfl rfl rfl BRB ?_; intro w7 x7 f7; obtain ⟨d0, d1⟩ := x7.cell2)
      refine bodyPost_ret (v := .tuple #[.agg #[.int .i64 (n : Int), .slice aq (phiN n) kq], .int .i64 0]) (by simp [results, Try.results98, go_sem, d0, d1]) rfl ⟨aq, kq, rfl, ?_, ?_⟩
      · exact (HOS.out.keepF f7 (.inr (by have := sz.out; have := sz6.out; omega))).wide (by have := sz.out; have := sz6.out; omega) f7.size (Nat.le_refl _)
      · exact st.1.trans (f7.below (by have := sz.out; omega) st.1.size)
end
end Go.Proofs.Ytnhpodlcgkgpbaa
