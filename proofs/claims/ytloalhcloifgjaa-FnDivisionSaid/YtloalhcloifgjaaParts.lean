/- All Parts divided: partsDivided of the program. -/
import Derived.Test.YtloalhcloifgjaaImages2
import Derived.Test.YtloalhcloifgjaaPoly
import Derived.Test.YtloalhcloifgjaaCycloOf
import Derived.Deep.RegionLaw
import Derived.Deep.AppendLies
namespace Go.Proofs.Ytloalhcloifgjaa
open Go.RowKit Go.ChangeShapes Go.Sort
set_option linter.unusedVariables false
set_option linter.unusedSimpArgs false


theorem Frame.ofGrownO {w w' : World} {row : Option Nat} (hg : w.grownBy w' row) : Frame (row.getD w.heap.size) (row.getD w.heap.size + 1) w w' :=
  ⟨hg.os, hg.tape, hg.output, hg.size, fun k hk hne => hg.block k hk (fun e => by rw [← e] at hne; simp at hne; omega)⟩
theorem own_low {w : World} {base n : Nat} {v : Value} {xs : List Value} {e : TypeId} (h : w.ownsRow base e 1 v n xs) (hb : base ≤ w.heap.size) : base ≤ v.ownBlock.getD w.heap.size := by
  rcases h.2 with ⟨rfl, _⟩ | ⟨g, cap, cur, rfl, hg, _⟩
  · exact hb
  · exact hg
theorem Box.set1 {w : World} {b : Nat} {v0 v1 u : Value} (h : Box w b [v0, v1]) : Box (w.setCell ⟨b, 1, none⟩ u) b [v0, u] := by
  refine ⟨by simpa [World.setCell] using h.1, fun j v hv => ?_, fun k => (World.frozen?_setCell _ _ _ _).trans (h.2.2 k)⟩
  match j, hv with
  | 0, hv => rw [setCell_ne _ _ _ _ _ (by omega)]; exact h.2.1 0 v (by simpa using hv)
  | 1, hv => have e : u = v := by simpa using hv
             subst e; exact World.cell?_setCell_same _ _ _ (h.2.1 1 v1 rfl)
  | k + 2, hv => simp at hv
theorem step_pushI {w : World} {ops : Array Oper} {o : Oper} {a : Act} {K : Act → World → Prop} {Q : Exit → Act → World → Prop} {E : Prop} (hgd : o.guard = none) (s x : Operand)
    (ho : o.op = .call { callee := .builtin .append, args := #[s, x], argTypes := #[24, 24] })
    (base n : Nat) (v : Value) (f : Nat → Int) (hs : a.eval s = v) (hown : w.ownsRow base 2 1 v n (ints n f)) (hbase : base ≤ w.heap.size) (B : Nat) (y : Int) (hx : a.eval x = .slice (some ⟨B, 0, none⟩) 1 1)
    (hb : w.heap[B]? = some (.cells #[.int .i64 y] 2 (0, 0))) (hn : n + 1 ≤ 1048576)
    (h : ∀ g' cap' w', Row w' base g' cap' (n + 1) (fun j => if j < n then f j else y) → w.grownBy w' v.ownBlock → (v.ownBlock = some g' ∨ g' = w.heap.size) → g' < w'.heap.size → K (a.put o.dst (.slice (some ⟨g', 0, none⟩) (n + 1) cap')) w') :
    if Region.wanted o (yielded ops a.tmps) = true then Oper.wp Try.prog o a w K Q else E := by
  obtain ⟨i0, hi, hz0, hz1, hz2⟩ := info_parts Try.info2
  refine step_append_lies w hgd s x 24 ho base 2 i0 (.int .i64 0) 1 8 Try.underlying24 hi hz0 hz1 hz2 rfl (by decide) v n _ hs hown ⟨B, 0, none⟩ 1 1 [.int .i64 y] hx rfl (World.news_of_block hb) (by simp [Value.oneCell']) (by decide) (by unfold maxLen; omega) (by omega) hbase _ rfl ?_
  intro g' cap' w' h1 h2 h3 h4
  refine h g' cap' w' ?_ h2 h3 h4
  unfold Row
  rw [List.range_succ, List.map_append]
  have e1 : (List.range n).map (fun j => Value.int .i64 (if j < n then f j else y)) = ints n f := by
    unfold ints
    exact List.map_congr_left (fun j hj => by rw [if_pos (List.mem_range.1 hj)])
  rw [e1]
  simpa using h1

/-- The quotients, and whether the first k are whole. -/
def quoZ (f : Nat → Int) (d : Int) : Nat → Int := fun j => (f j).tdiv d
def divTo (f : Nat → Int) (d : Int) (k : Nat) : Prop := ∀ j, j < k → (f j).tmod d = 0
theorem quo_bd {a d : Int} (ha : -1000000000 ≤ a ∧ a ≤ 1000000000) : -1000000000 ≤ a.tdiv d ∧ a.tdiv d ≤ 1000000000 := by
  have h : (a.tdiv d).natAbs ≤ a.natAbs := by rw [Int.natAbs_tdiv]; exact Nat.div_le_self _ _
  omega
/-- What holds at the label. -/
def PartsJ (x d : Int) (L : Nat) (f : Nat → Int) (o : Bool) (lo hi : Nat) (av : Option Addr) (cap : Nat) (w : World) (act : Act) (wq : World) : Prop :=
  ∃ (k : Nat) (aq : Option Addr) (kq : Nat) (u7 u8 u9 u10 u11 u12 u13 u14 u15 u16 u17 u18 u19 u20 u21 u22 u23 u24 u25 u26 u27 u28 u29 u30 u31 u32 u33 u34 u35 u36 u37 u38 : Value), act = { tmps := #[.agg #[.int .i64 x, .slice av L cap], .int .i64 d, .pointer (some ⟨w.heap.size, 0, none⟩), undef, .pointer (some ⟨w.heap.size + 1, 0, none⟩), .int .i64 0, .pointer (some ⟨w.heap.size + 1 + 1, 0, none⟩), u7, u8, u9, u10, u11, u12, u13, u14, u15, u16, u17, u18, u19, u20, u21, u22, u23, u24, u25, u26, u27, u28, u29, u30, u31, u32, u33, u34, u35, u36, u37, u38], defers := [] } ∧
    k ≤ L ∧ divTo f d k ∧ wq.ownsRow (w.heap.size + 3) 2 1 (.slice aq k kq) k (ints k (quoZ f d)) ∧ St w wq [(w.heap.size + 1 + 1, [.int .i64 x, .slice aq k kq]), (w.heap.size + 1, [.int .i64 0, .slice none 0 0]), (w.heap.size, [.int .i64 x, .slice av L cap])] [⟨o, lo, hi, .slice av L cap, L, f⟩]
def lenAt (w : World) (b : Nat) : Nat := match w.cell? ⟨b, 1, none⟩ with | some (.slice _ k _) => k | _ => 0
section
variable {o : Bool} {lo hi L : Nat} {v : Value} {f : Nat → Int}
set_option maxRecDepth 100000 in
set_option maxHeartbeats 4000000 in
theorem partsDivided_any (x d : Int) (w : World) (hs : Sl o w lo hi v L f) (hf : Within f L 1000000000) (hd0 : d ≠ 0) (hd : -1000000000 ≤ d ∧ d ≤ 1000000000) (hL0 : 0 < L) (hL : L ≤ 12) :
    Calls Try.prog 192 #[.agg #[.int .i64 x, v], .int .i64 d] w fun e w' => ((divTo f d L ∧ ∃ a' cap', e = .returned (.tuple #[.agg #[.int .i64 x, .slice a' L cap'], .int .i64 0]) ∧ Sl true w' w.heap.size w'.heap.size (.slice a' L cap') L (quoZ f d)) ∨ (¬ divTo f d L ∧ e = .returned (failV 4))) ∧ Below w.heap.size w w' := by
  obtain ⟨av, cap, rfl⟩ := hs.shape
  have hhs := hs.size
  have st0 := ((((St.start w).addSl ⟨o, lo, hi, .slice av L cap, L, f⟩ hs).alloc (.cells #[.int .i64 x, .slice av L cap] 26)).addBox w.heap.size [.int .i64 x, .slice av L cap] (Box.made _ _ _ _ (fun j v h => by simpa using h)))
  replace st0 := st0.boxNew (.int .i64 0) (.slice none 0 0) 26
  replace st0 := st0.boxNew (.int .i64 x) (.slice none 0 0) 26
  simp only [World.size_alloc] at st0
  obtain ⟨x0, x1⟩ := (st0.box 2 (w.heap.size, [.int .i64 x, .slice av L cap]) rfl).cell2
  have HF := Lib.hid hf
  have HST := Lib.hid st0
  clear hs hf st0
  go_enter Try.func192, Try.ntmps192
  go_wp2
  refine wp_scope_label 0 (PartsJ x d L f o lo hi av cap w) (fun _ wq => L - lenAt wq (w.heap.size + 1 + 1)) rfl ?_ (fun hp => ?_)
  · clear x0 x1 HST
    rintro _ wq ⟨k, aq, kq, u7, u8, u9, u10, u11, u12, u13, u14, u15, u16, u17, u18, u19, u20, u21, u22, u23, u24, u25, u26, u27, u28, u29, u30, u31, u32, u33, u34, u35, u36, u37, u38, rfl, hk, hdv, hown, hst⟩
    have HT := Lib.hid hst; clear hst
    have HO := Lib.hid hown; clear hown
    have HD := Lib.hid hdv; clear hdv
    have hsz := HT.out.1.size
    have p0 := (HT.out.box 0 (w.heap.size + 1 + 1, [.int .i64 x, .slice aq k kq]) rfl)
    obtain ⟨q0, q1⟩ := p0.cell2
    have pz := p0.2.2
    have pl := p0.1
    dsimp only at pz pl
    obtain ⟨x0, x1⟩ := (HT.out.box 2 (w.heap.size, [.int .i64 x, .slice av L cap]) rfl).cell2
    obtain ⟨d0, d1⟩ := (HT.out.box 1 (w.heap.size + 1, [.int .i64 0, .slice none 0 0]) rfl).cell2
    have dz := (HT.out.box 1 (w.heap.size + 1, [.int .i64 0, .slice none 0 0]) rfl).2.2
    have BB := HT.out.1
    dsimp only at dz
    by_cases hlt : k < L
    · have hkL : ((k : Int) == (L : Int)) = false := beq_eq_false_iff_ne.2 (by omega)
      have hk2 : (k : Int) < (L : Int) := by omega
      have qa := HT.out.sl 0 ⟨o, lo, hi, .slice av L cap, L, f⟩ rfl
      dsimp only at qa
      obtain ⟨b, off, c1', hv, _, _, _, _, hc, _⟩ := qa.at (by omega)
      obtain ⟨rfl, rfl⟩ : av = some ⟨b, off, none⟩ ∧ cap = c1' := by cases hv; exact ⟨rfl, rfl⟩
      have hck := hc k hlt
      have hfk := HF.out k hlt
      have hqb := quo_bd (d := d) hfk
      clear hv hc qa
      by_cases hm : (f k).tmod d = 0
      · have hb : ((f k).tmod d != 0) = false := by simp [hm]
        have HM := Lib.hid hm
        clear hm
        go_wp2
        have HQW := Lib.hid (show IntKind.i64.wrap ((f k).tdiv d) = (f k).tdiv d from IntWalk.i64_in _ (by omega))
        go_region_law (first
          | (refine step_pushI rfl (.tmp 32) (.tmp 36) rfl (w.heap.size + 3) k (.slice aq k kq) (quoZ f d) rfl (World.ownsRow.alloc HO.out _) (by simp only [World.size_alloc, World.size_drew]; omega) wq.heap.size (IntKind.i64.wrap ((f k).tdiv d)) rfl (heap_alloc_new wq _) (by omega) ?_; intro gA kA wA rowA grA orA ltA
             have hlow := own_low (World.ownsRow.alloc HO.out (.cells #[.int .i64 (IntKind.i64.wrap ((f k).tdiv d))] 2)) (by simp only [World.size_alloc]; omega)
             have frA := Frame.ofGrownO grA
             have hlo2 : w.heap.size + 3 ≤ (Value.slice aq k kq).ownBlock.getD (wq.alloc (.cells #[.int .i64 (IntKind.i64.wrap ((f k).tdiv d))] 2)).drew.heap.size := hlow
             generalize (Value.slice aq k kq).ownBlock.getD (wq.alloc (.cells #[.int .i64 (IntKind.i64.wrap ((f k).tdiv d))] 2)).drew.heap.size = R at frA hlo2
             have stA := (HT.out.alloc (.cells #[.int .i64 (IntKind.i64.wrap ((f k).tdiv d))] 2)).drew.write frA (by omega) (by intro b hb; simp only [List.mem_cons, List.not_mem_nil, or_false] at hb; rcases hb with rfl | rfl | rfl <;> dsimp only <;> omega) (by intro s hs'; simp only [List.mem_cons, List.not_mem_nil, or_false] at hs'; rcases hs' with rfl <;> dsimp only <;> omega)
             have bA := stA.box 0 (w.heap.size + 1 + 1, [.int .i64 x, .slice aq k kq]) rfl
             obtain ⟨r0, r1⟩ := bA.cell2
             have rz := bA.2.2
             dsimp only at rz))
        all_goals
          have STN := Lib.hid ((stA.tailB.write (lo := w.heap.size + 1 + 1) (hi := w.heap.size + 1 + 1 + 1) ((Frame.refl (w.heap.size + 1 + 1) (w.heap.size + 1 + 1 + 1) wA).setCell (Nat.le_refl _) (Nat.lt_succ_self _) (.slice (some ⟨gA, 0, none⟩) (k + 1) kA) (p := ⟨w.heap.size + 1 + 1, 1, none⟩)) (by omega) (by intro b hb; simp only [List.mem_cons, List.not_mem_nil, or_false] at hb; rcases hb with rfl | rfl <;> dsimp only <;> omega) (by intro s hs'; simp only [List.mem_cons, List.not_mem_nil, or_false] at hs'; rcases hs' with rfl <;> dsimp only <;> omega)).addBox _ _ (bA.set1 (u := .slice (some ⟨gA, 0, none⟩) (k + 1) kA)))
          have RN := Lib.hid ((Row.keepF rowA ((Frame.refl (w.heap.size + 1 + 1) (w.heap.size + 1 + 1 + 1) wA).setCell (Nat.le_refl _) (Nat.lt_succ_self _) (.slice (some ⟨gA, 0, none⟩) (k + 1) kA) (p := ⟨w.heap.size + 1 + 1, 1, none⟩)) (by have := rowA.lt.1; omega)).congr (f' := quoZ f d) (fun j hj => by
            by_cases e : j < k
            · rw [if_pos e]
            · rw [if_neg e, show j = k by omega, HQW.out]; rfl))
          have HDN := Lib.hid (show divTo f d (k + 1) from fun j hj => by
            by_cases e : j < k
            · exact HD.out j e
            · rw [show j = k by omega]; exact HM.out)
          have hLA : lenAt wq (w.heap.size + 1 + 1) = k := by unfold lenAt; rw [q1]
          have hLN : lenAt (wA.setCell ⟨w.heap.size + 1 + 1, 1, none⟩ (.slice (some ⟨gA, 0, none⟩) (k + 1) kA)) (w.heap.size + 1 + 1) = k + 1 := by
            have := ((STN.out.box 0 (w.heap.size + 1 + 1, [.int .i64 x, .slice (some ⟨gA, 0, none⟩) (k + 1) kA]) rfl).cell2).2
            unfold lenAt; rw [this]
          have HLA := Lib.hid hLA
          have HLN := Lib.hid hLN
          clear hLA hLN stA bA r0 r1 rz rowA grA frA HO HT HD hlow p0
          go_wp2
          go_step3
          refine ⟨rfl, ⟨k + 1, some ⟨gA, 0, none⟩, kA, _, _, _, _, _, _, _, _, _, _, _, _, _, _, _, _, _, _, _, _, _, _, _, _, _, _, _, _, _, _, _, _, rfl, by omega, HDN.out, RN.out, STN.out⟩, ?_⟩
          rw [HLA.out, HLN.out]; omega
      · have hb : ((f k).tmod d != 0) = true := by simpa using hm
        have HN := Lib.hid (show ¬ divTo f d L from fun h => hm (h k hlt))
        clear hm
        go_wp2
        simp only [Exit.jump]
        refine bodyPost_ret (v := failV 4) (by simp [results, Try.results192, go_sem, failV, d0, d1]) rfl ?_
        exact ⟨.inr ⟨HN.out, rfl⟩, by go_grown⟩
    · obtain rfl : k = L := by omega
      have hkL : ((k : Int) == (k : Int)) = true := beq_iff_eq.2 rfl
      go_wp2
      simp only [Exit.jump]
      refine bodyPost_ret (v := .tuple #[.agg #[.int .i64 x, .slice aq k kq], .int .i64 0]) (by simp [results, Try.results192, go_sem, d0, d1]) rfl ?_
      have hs9 := Sl.ofRowF (f := quoZ f d) HO.out (fun j hj => by have := quo_bd (d := d) (HF.out j hj); unfold quoZ inR; omega) (by unfold maxLen; omega)
      exact ⟨.inl ⟨HD.out, _, _, rfl, ((hs9.setOther (.inl (by show w.heap.size + 1 < _; omega)) _).setOther (.inl (by show w.heap.size + 1 < _; omega)) _).wide (by omega) (by simp) (Nat.le_refl _)⟩, by go_grown⟩
  · go_wp2
    go_step3
    refine (by assumption : ∀ (a : Act) (w : World), Code.wp _ _ _ a w → _) _ _ ?_
    refine hp.out _ _ ⟨0, none, 0, _, _, _, _, _, _, _, _, _, _, _, _, _, _, _, _, _, _, _, _, _, _, _, _, _, _, _, _, _, _, _, _, rfl, Nat.zero_le _, fun j hj => absurd hj (Nat.not_lt_zero _), ⟨rfl, .inl ⟨rfl, rfl⟩⟩, HST.out⟩
end
end Go.Proofs.Ytloalhcloifgjaa
