/- A region that draws its order, in a round of a range over a function: the wide fence serves as if there were no round. valuesOf of the program: the values of a character as a function. The closure of valuesOf: the value at a number. The model's exponents; IsEvenCharacter and LegendreSymbol of the program and of the model. The value of a character at a number: l03At of the model, CharacterAt of both. weightedSum of the program, with both of its weights. Sums of values of characters: sumOfValues, SumOfCharacter of both. l01Plus of the model for a factor of any size whose products with the Parts stay small. SumWith of the program and of the model. The error code of two characters; MultiplyCharacters of the program and of the model. OrthogonalSum of the program and of the model. The form in which a law's walk takes an answer that is a zero value and an error. Program and model of chapter 3 side by side: the same answers, and what is known of them. What the sums of a character's values are; the Legendre symbol as a value. Plain facts, by reckoning. -/
import Derived.RangeFuncCalls
import Derived.Shelf.RegionOpen
import Derived.WalkKit
import Derived.OwnWalkIn
import Derived.TacticsInMore
import Derived.Test.YtdalahgfpbdilaaGcd
import Derived.RangeFuncNested
import Derived.RangeFuncBound
import Derived.RangeFuncLeaves
import Derived.Shelf.Abstract
import Derived.LoopNIn
import Derived.LoopIn
import Derived.RegionIn
import Derived.Test.YtdalahgfpbdilaaSeqG
import Derived.Test.YtdalahgfpbdilaaInvC
import Derived.Test.YtdalahgfpbdilaaArr
import Derived.Test.YtdalahgfpbdilaaSumZ
import Derived.Test.YtdalahgfpbdilaaPowZ
import Derived.Test.YtdalahgfpbdilaaPlus
import Derived.Deep.RegionLaw
import Derived.Deep.RegionHeld3
import Derived.Deep.DeepCutAuto
import Derived.Test.YtdalahgfpbdilaaConj
import Derived.Test.YtdalahgfpbdilaaTimes
import Derived.Test.YtdalahgfpbdilaaCycloOf
namespace Go.Proofs.Ytdalahgfpbdilaa
set_option linter.unusedVariables false
set_option linter.unusedSimpArgs false
section
open Go Go.RowKit
/-- No operation is a defer statement. -/
def noDefer (ops : Array Oper) : Bool := ops.toList.all (fun o => match o.op with | .defer _ => false | _ => true)
theorem noDefer_spec {ops : Array Oper} (h : noDefer ops = true) {i : Nat} {o : Oper} (ho : ops[i]? = some o) : ∀ c, o.op ≠ .defer c := by
  intro c e
  have hm : o ∈ ops.toList := by
    rw [Array.getElem?_toList.symm] at ho
    exact List.mem_of_getElem? ho
  have := List.all_eq_true.1 h o hm
  rw [e] at this
  exact absurd this (by simp)
section
variable {n : Nat} {P : Program} {F : Fence}
theorem uponIn_inR {o : Oper} {a : Act} {K : Act → World → Prop} {Q : Exit → Act → World → Prop} {l : Nat} (r : Result Next) (h : o.uponIn F n P a K Q r) : o.uponIn (F.inRound l) n P a K Q r := by
  cases r with
  | ok x w' => cases x <;> exact h
  | halt x w' => cases x <;> exact h
theorem wpIn_inR {o : Oper} {a : Act} {w : World} {K : Act → World → Prop} {Q : Exit → Act → World → Prop} {l : Nat} (hd : ∀ c, o.op ≠ .defer c) (h : o.wpIn F n P a w K Q) : o.wpIn (F.inRound l) n P a w K Q := by
  unfold Oper.wpIn at *
  refine ⟨h.1, uponIn_inR _ ?_⟩
  have h2 := h.2
  rw [Oper.semAt_eq _ _ _ hd] at h2 ⊢
  exact h2
theorem wpOpIn_inR {ops : Array Oper} {i : Nat} {a : Act} {w : World} {K : Act → World → Prop} {Q : Exit → Act → World → Prop} {l : Nat} (hd : noDefer ops = true) (h : wpOpIn F n P ops Q i K a w) : wpOpIn (F.inRound l) n P ops Q i K a w := by
  unfold wpOpIn at *
  cases ho : ops[i]? with
  | none => rw [ho] at h; exact h
  | some o =>
    rw [ho] at h
    by_cases hw : Region.wanted o (yielded ops a.tmps) = true
    · simp only [hw, if_true] at h ⊢
      exact wpIn_inR (noDefer_spec hd ho) h
    · simp only [hw] at h ⊢
      exact h
theorem wpAnyIn_inR {md : Region.Mode} {ops : Array Oper} {Q : Exit → Act → World → Prop} {l : Nat} (hd : noDefer ops = true) : ∀ (fuel : Nat) (listed : Array Bool) (a : Act) (w : World), wpAnyIn F n P md ops Q fuel listed a w → wpAnyIn (F.inRound l) n P md ops Q fuel listed a w
  | 0, _, _, _, h => h
  | fuel + 1, listed, a, w, h => ⟨h.1, fun i hi => wpOpIn_inR hd (wpOpIn_mono (fun a w => wpAnyIn_inR hd fuel _ a w) (h.2 i hi))⟩
theorem wpIn_region_round {id : Nat} {ops : List Oper} {Q : Exit → Act → World → Prop} {a : Act} {w : World} {l : Nat} (hm : P.follows .mixedOrders = true) (hd : noDefer ops.toArray = true)
    (h : wpAnyIn F n P .any ops.toArray Q ops.toArray.size (Array.replicate ops.toArray.size false) a (World.drew w)) : (Code.region id ops.toArray true).wpIn (F.inRound l) n P Q a w :=
  wpIn_region_any hm (wpAnyIn_inR hd _ _ _ _ h)
end
end

section
open Go.RowKit Go.ChangeShapes Go.Shelf
set_option linter.unusedVariables false
set_option linter.unusedSimpArgs false
attribute [local go_sem] Oper.semAt_some

/-- The exponents that lie when the indices of a list have come. -/
def exL (p n k : Nat) (L : List Nat) : Nat → Int := L.foldl (fun f i => fun y => if y = pwr p (rootN p) i then ((k * i % n : Nat) : Int) else f y) (fun _ => 0)
theorem exL_snoc (p n k : Nat) (L : List Nat) (i : Nat) : exL p n k (L ++ [i]) = fun y => if y = pwr p (rootN p) i then ((k * i % n : Nat) : Int) else exL p n k L y := by
  unfold exL; rw [List.foldl_append]; rfl
/-- The exponent at y, 0 at 0. -/
def exV (p n k : Nat) (y : Nat) : Int := if y = 0 then 0 else ((k * idxN p y % n : Nat) : Int)
theorem exL_range {p n k : Nat} (hp : primeN p = true) : ∀ m, m ≤ p - 1 → ∀ y, y < p → exL p n k (List.range m) y = if 1 ≤ y ∧ idxN p y < m then ((k * idxN p y % n : Nat) : Int) else 0
  | 0, _, y, hy => by rw [if_neg (by omega)]; rfl
  | m + 1, hm, y, hy => by
    obtain ⟨b1, b2, b3⟩ := back_ok (p := p) (j := m) hp (by omega)
    rw [List.range_succ, exL_snoc]
    dsimp only
    rw [exL_range hp m (by omega) y hy]
    by_cases e : y = pwr p (rootN p) m
    · have hi : idxN p y = m := by rw [e, b3]
      rw [if_pos e, if_pos ⟨by omega, by omega⟩, hi]
    · rw [if_neg e]
      by_cases h1 : 1 ≤ y
      · have hne : idxN p y ≠ m := fun h => e (by rw [← h]; exact (idx_ok hp h1 hy).2.1.symm)
        by_cases h2 : idxN p y < m
        · rw [if_pos ⟨h1, h2⟩, if_pos ⟨h1, by omega⟩]
        · rw [if_neg (fun h => h2 h.2), if_neg (fun h => by omega)]
      · rw [if_neg (fun h => h1 h.1), if_neg (fun h => h1 h.1)]
theorem exL_all {p n k : Nat} (hp : primeN p = true) (y : Nat) (hy : y < p) : exL p n k (List.range (p - 1)) y = exV p n k y := by
  rw [exL_range hp (p - 1) (Nat.le_refl _) y hy]
  unfold exV
  by_cases h : y = 0
  · rw [if_pos h, if_neg (by omega)]
  · rw [if_neg h, if_pos ⟨by omega, (idx_ok hp (by omega) hy).1⟩]
theorem exV_bd {p n k y : Nat} (h1 : 1 ≤ n) : 0 ≤ exV p n k y ∧ exV p n k y < n := by
  unfold exV
  split
  · omega
  · have := Nat.mod_lt (k * idxN p y) (show 0 < n by omega); omega

set_option maxRecDepth 100000 in
set_option maxHeartbeats 4000000 in
theorem valuesOf_any (p n k : Nat) (hp : primeN p = true) (hn1 : 1 ≤ n) (hn2 : n ≤ 16) (hk : k ≤ 16) (w : World) :
    Calls Try.prog 137 #[.agg #[.int .i64 (p : Int), .int .i64 (n : Int), .int .i64 (k : Int)]] w fun e w' => e = .returned (.func (.func 211) #[] #[.pointer (some ⟨w.heap.size, 0, none⟩), .pointer (some ⟨w.heap.size + 1 + 1, 0, none⟩)]) ∧ Below w.heap.size w w' ∧ w.heap.size + 1 + 1 + 1 ≤ w'.heap.size ∧
      Box w' w.heap.size [.int .i64 (p : Int), .int .i64 (n : Int), .int .i64 (k : Int)] ∧ Box w' (w.heap.size + 1 + 1) [.slice (some ⟨w.heap.size + 1, 0, none⟩) p p] ∧ Sl true w' (w.heap.size + 1) (w.heap.size + 1 + 1) (.slice (some ⟨w.heap.size + 1, 0, none⟩) p p) p (exV p n k) := by
  have hb := primeN_bd hp
  have HR := Lib.hid (root_ok hp)
  obtain ⟨m, hm⟩ : ∃ m, p - 1 = m := ⟨_, rfl⟩
  have HM := Lib.hid hm
  have HP := Lib.hid hp
  have HB := Lib.hid (fun j => back_ok (p := p) (j := j) hp)
  have hm60 : m ≤ 60 := by omega
  clear hp hm
  have hmf : ∀ (fn : Fn) (first cap : Array Value) (w : World), (Instr.makeFunc fn first cap).run Try.prog w = .ok (.func fn first cap) w := fun _ _ _ _ => rfl
  have hmk := run_make_row' (P := Try.prog) 22 2 (.int .i64 0) 8 Try.underlying22 Try.info2 rfl .i64 .i64 p (by omega) (by omega)
  have st0 := (((St.start w).alloc (.cells #[.int .i64 (p : Int), .int .i64 (n : Int), .int .i64 (k : Int)] 38)).addBox w.heap.size [.int .i64 (p : Int), .int .i64 (n : Int), .int .i64 (k : Int)] (Box.made _ _ _ _ (fun j v h => by simpa using h)))
  have q0 := Sl.made (w.alloc (.cells #[.int .i64 (p : Int), .int .i64 (n : Int), .int .i64 (k : Int)] 38)) (madeCells #[.int .i64 0] p) 2 p p (fun _ => 0) (Nat.le_refl _) (by unfold maxLen; omega) (fun j hj => by simp [inR]) (fun j hj => by simp [madeCells_at _ _ _ hj])
  simp only [World.size_alloc] at q0
  replace st0 := (st0.alloc (.cells (madeCells #[.int .i64 0] p) 2)).addSl ⟨true, w.heap.size + 1, w.heap.size + 1 + 1, .slice (some ⟨w.heap.size + 1, 0, none⟩) p p, p, fun _ => 0⟩ q0
  replace st0 := (st0.alloc (.cells #[.slice (some ⟨w.heap.size + 1, 0, none⟩) p p] 22)).addBox _ [.slice (some ⟨w.heap.size + 1, 0, none⟩) p p] (Box.made _ _ _ _ (fun j v h => by simpa using h))
  simp only [World.size_alloc] at st0
  clear q0
  refine (callsIn_wide (n := 9)).1 ?_
  have hro : Fence.wide.round = none := rfl
  refine callsIn_of_wp_marks Try.func137 rfl trivial ?_ hro
  simp only [Try.ntmps137, List.size_toArray, List.length_cons, List.length_nil, Nat.reduceAdd, Nat.reduceSub, Array.replicate_succ, Array.replicate_zero, List.push_toArray, List.append_toArray, List.nil_append, List.cons_append]
  gi_wp2_with (first
    | (refine ⟨trivial, ?_⟩; gi_at_call 149; refine (callsIn_wide.2 (residuesByIndex_any p HP.out _)).mono ?_; rintro e w2 ⟨w2, rfl, b2, rfl⟩))
  have st2 := st0.keep b2
  have hz2 := b2.size
  simp only [World.size_alloc] at hz2
  have hg := var_new w2 (.int .i64 (rootN p : Nat)) 2
  have hpp := var_new (w2.alloc (.cells #[.int .i64 (rootN p : Nat)] 2)) (.int .i64 (p : Int)) 2
  simp only [World.size_alloc] at hpp
  have st3 := (st2.alloc (.cells #[.int .i64 (rootN p : Nat)] 2)).alloc (.cells #[.int .i64 (p : Int)] 2)
  have c3 := var_cell (.cells #[.int .i64 (p : Int)] 2) hg.1
  clear st0 st2 b2 hmk
  obtain ⟨W0, hW0⟩ : ∃ W0, (w2.alloc (.cells #[.int .i64 (rootN p : Nat)] 2)).alloc (.cells #[.int .i64 (p : Int)] 2) = W0 := ⟨_, rfl⟩
  have hsz : W0.heap.size = w2.heap.size + 1 + 1 := by rw [← hW0]; simp
  rw [hW0] at st3 c3 hpp ⊢
  have bx0 := st3.box 1 (w.heap.size, [.int .i64 (p : Int), .int .i64 (n : Int), .int .i64 (k : Int)]) rfl
  have bx1 := st3.box 0 (w.heap.size + 1 + 1, [.slice (some ⟨w.heap.size + 1, 0, none⟩) p p]) rfl
  have sl0 := st3.sl 0 ⟨true, w.heap.size + 1, w.heap.size + 1 + 1, .slice (some ⟨w.heap.size + 1, 0, none⟩) p p, p, fun _ => 0⟩ rfl
  dsimp only at bx0 bx1 sl0
  have hB0 := st3.1
  clear st3 hW0
  refine wpIn_rangeFunc_ownF hro (by omega) (gf := 225) (lb := #[.pointer (some ⟨w2.heap.size, 0, none⟩), .pointer (some ⟨w2.heap.size + 1, 0, none⟩)]) rfl trivial (enters_of Try.func225 (by kernel_rfl) rfl)
    (pow_stops p (rootN p) m HP.out HR.out.1 HR.out.2.1 (HR.out.2.2.1.trans HM.out) Fence.wide (9 - 1) trivial rfl (by omega) w2.heap.size (w2.heap.size + 1) W0 c3 hpp.1) (fun h k => h.trans k) (Keeps2.at (by omega) (by omega)) (Below.refl _ _) (fun _ => rfl)
    (fun pre W => (Box W w.heap.size [.int .i64 (p : Int), .int .i64 (n : Int), .int .i64 (k : Int)] ∧ Box W (w.heap.size + 1 + 1) [.slice (some ⟨w.heap.size + 1, 0, none⟩) p p] ∧ Sl true W (w.heap.size + 1) (w.heap.size + 1 + 1) (.slice (some ⟨w.heap.size + 1, 0, none⟩) p p) p (exL p n k (pre.map Fin.val))) ∧ Below w.heap.size w W ∧ W0.heap.size ≤ W.heap.size)
    (fun _ _ _ => False)
    (fun s A B row hs hg hr => by
      obtain ⟨⟨h1, h2, h3⟩, h5, h6⟩ := hs
      have hB := grown_below hg hr h6
      exact ⟨⟨h1.keepB hB (by omega), h2.keepB hB (by omega), h3.keep hB (by omega)⟩, h5.trans (hB.mono (by omega)), Nat.le_trans h6 hg.size⟩)
    (fun _ _ _ _ _ hs _ _ => hs)
    ⟨⟨bx0, bx1, sl0⟩, hB0, Nat.le_refl _⟩
    (fun i => { tmps := #[.agg #[.int .i64 (p : Int), .int .i64 (n : Int), .int .i64 (k : Int)], .pointer (some ⟨w.heap.size, 0, none⟩), Value.nilFunc, .pointer (some ⟨w.heap.size + 1 + 1, 0, none⟩), .int .i64 (i.1 : Int), .int .i64 (pwr p (rootN p) i.1 : Nat), .pointer (some ⟨w.heap.size, 0, none⟩), .int .i64 (p : Int), .slice (some ⟨w.heap.size + 1, 0, none⟩) p p, .pointer (some ⟨w.heap.size, 0, none⟩), .int .i64 (p : Int), .func (.func 225) #[] #[.pointer (some ⟨w2.heap.size, 0, none⟩), .pointer (some ⟨w2.heap.size + 1, 0, none⟩)], .int .i64 (i.1 : Int), .int .i64 (pwr p (rootN p) i.1 : Nat), undef, undef, undef, undef, undef, undef, undef, undef, undef, undef, undef], defers := [] }) ?assign ?body ?done ?stop
  case assign =>
    intro l i W K hK
    gi_wp2
    first | exact hK | simpa [encP] using hK
  case body =>
    rintro l pre i W ⟨⟨h0, h1, h2⟩, hB, hz⟩ hlen
    obtain ⟨e0, e1, e2⟩ := h0.cell3
    have e3 := h1.2.1 0 _ rfl
    have hi := i.2
    obtain ⟨b1, b2, b3⟩ := HB.out i.1 (by have := HM.out; omega)
    have HS2 := Lib.hid h2
    have HSN := Lib.hid (exL_snoc p n k (pre.map Fin.val) i.1)
    have hc := (h2.known (by omega)).2.2.2.1 (pwr p (rootN p) i.1) b2
    have hf := (h2.known (by omega)).2.2.2.2 rfl (pwr p (rootN p) i.1)
    rw [Nat.zero_add] at hc
    clear h2 b3
    have hn0 : ¬ n = 0 := by omega
    have hki0 : 0 ≤ (k : Int) * (i.1 : Int) := Int.mul_nonneg (by omega) (by omega)
    have hki1 : (k : Int) * (i.1 : Int) ≤ 16 * 60 := Int.mul_le_mul (by omega) (by omega) (by omega) (by omega)
    have HE := Lib.hid (show (k : Int) * (i.1 : Int) % (n : Int) = ((k * i.1 % n : Nat) : Int) by rw [Int.natCast_emod, Int.natCast_mul])
    have hwm : IntKind.i64.wrap ((k : Int) * (i.1 : Int)) = (k : Int) * (i.1 : Int) := IntWalk.i64_in _ (by omega)
    have htm : ((k : Int) * (i.1 : Int)).tmod (n : Int) = (k : Int) * (i.1 : Int) % (n : Int) := Int.tmod_eq_emod_of_nonneg hki0
    have FIN := Lib.hid (show KeepsOthers W (W.setCell ⟨w.heap.size + 1, pwr p (rootN p) i.1, none⟩ (.int .i64 ((k : Int) * (i.1 : Int) % (n : Int)))).drew ∧ Keeps2 w2.heap.size (w2.heap.size + 1) W (W.setCell ⟨w.heap.size + 1, pwr p (rootN p) i.1, none⟩ (.int .i64 ((k : Int) * (i.1 : Int) % (n : Int)))).drew ∧ (Box (W.setCell ⟨w.heap.size + 1, pwr p (rootN p) i.1, none⟩ (.int .i64 ((k : Int) * (i.1 : Int) % (n : Int)))).drew w.heap.size [.int .i64 (p : Int), .int .i64 (n : Int), .int .i64 (k : Int)] ∧ Box (W.setCell ⟨w.heap.size + 1, pwr p (rootN p) i.1, none⟩ (.int .i64 ((k : Int) * (i.1 : Int) % (n : Int)))).drew (w.heap.size + 1 + 1) [.slice (some ⟨w.heap.size + 1, 0, none⟩) p p] ∧ Sl true (W.setCell ⟨w.heap.size + 1, pwr p (rootN p) i.1, none⟩ (.int .i64 ((k : Int) * (i.1 : Int) % (n : Int)))).drew (w.heap.size + 1) (w.heap.size + 1 + 1) (.slice (some ⟨w.heap.size + 1, 0, none⟩) p p) p (exL p n k ((pre ++ [i]).map Fin.val))) ∧ Below w.heap.size w (W.setCell ⟨w.heap.size + 1, pwr p (rootN p) i.1, none⟩ (.int .i64 ((k : Int) * (i.1 : Int) % (n : Int)))).drew ∧ W0.heap.size ≤ (W.setCell ⟨w.heap.size + 1, pwr p (rootN p) i.1, none⟩ (.int .i64 ((k : Int) * (i.1 : Int) % (n : Int)))).drew.heap.size from by
      refine ⟨(KeepsOthers.setCell _ _ _).trans (KeepsOthers.drew _), Keeps2.trans (Keeps2.setCell (q := ⟨w.heap.size + 1, pwr p (rootN p) i.1, none⟩) _ (by show _ ≠ w.heap.size + 1; omega) (by show _ ≠ w.heap.size + 1; omega)) ⟨rfl, rfl⟩, ⟨(h0.other _ _ (by simp)).keep ((Below.refl _ _).drew), (h1.other _ _ (by simp)).keep ((Below.refl _ _).drew), ?_⟩, (hB.setCell (p := ⟨w.heap.size + 1, pwr p (rootN p) i.1, none⟩) (by simp) _).drew, by simpa using hz⟩
      rw [List.map_append, List.map_singleton, HSN.out]
      refine ((HS2.out.store0 b2 (x := (k : Int) * (i.1 : Int) % (n : Int)) (by rw [HE.out]; have := Nat.mod_lt (k * i.1) (show 0 < n by omega); unfold inR; omega)).drew).congr (fun j hj => ?_)
      rw [HE.out])
    have hmx : Try.prog.follows .mixedOrders = true := by kernel_rfl
    gi_wp2
    refine wpIn_region_round hmx (by kernel_rfl) ?_
    refine wpAnyIn_take (i := 1) (v := .int .i64 (pwr p (rootN p) i.1 : Nat)) rfl rfl (by kernel_rfl) (by kernel_rfl) (by kernel_rfl) (fun _ _ _ h => h) ⟨Or.inl ⟨by rfl, by intro w; go_simp⟩, fun _ => rfl⟩ ?_
    refine wpAnyIn_take (i := 2) (v := .pointer (some ⟨w.heap.size, 2, none⟩)) rfl rfl (by kernel_rfl) (by kernel_rfl) (by kernel_rfl) (fun _ _ _ h => h) ⟨Or.inl ⟨by rfl, by intro w; go_simp⟩, fun _ => rfl⟩ ?_
    refine wpAnyIn_take (i := 4) (v := .int .i64 (i.1 : Int)) rfl rfl (by kernel_rfl) (by kernel_rfl) (by kernel_rfl) (fun _ _ _ h => h) ⟨Or.inl ⟨by rfl, by intro w; go_simp⟩, fun _ => rfl⟩ ?_
    refine wpAnyIn_take (i := 6) (v := .pointer (some ⟨w.heap.size, 1, none⟩)) rfl rfl (by kernel_rfl) (by kernel_rfl) (by kernel_rfl) (fun _ _ _ h => h) ⟨Or.inl ⟨by rfl, by intro w; go_simp⟩, fun _ => rfl⟩ ?_
    refine wpAnyIn_ready (rs := [0, 3, 7]) (by kernel_rfl) (by simp) ?_
    refine AllReadyIn.cons rfl (fun K hK => ?_) ?_
    · go_simp
      refine hK _ _ ?_
      clear hK K
      refine wpAnyIn_ready (rs := [3, 7]) (by kernel_rfl) (by simp) ?_
      refine AllReadyIn.cons rfl (fun K hK => ?_) ?_
      · go_simp
        refine hK _ _ ?_
        clear hK K
        refine wpAnyIn_take (i := 5) (v := .int .i64 ((k : Int) * (i.1 : Int))) rfl rfl (by kernel_rfl) (by kernel_rfl) (by kernel_rfl) (fun _ _ _ h => h) ⟨Or.inl ⟨by rfl, by intro w; go_simp⟩, fun _ => rfl⟩ ?_
        refine wpAnyIn_ready (rs := [7]) (by kernel_rfl) (by simp) ?_
        refine AllReadyIn.cons rfl (fun K hK => ?_) ?_
        · go_simp
          refine hK _ _ ?_
          clear hK K
          refine wpAnyIn_take (i := 8) (v := .int .i64 ((k : Int) * (i.1 : Int) % (n : Int))) rfl rfl (by kernel_rfl) (by kernel_rfl) (by kernel_rfl) (fun _ _ _ h => h) ⟨Or.inl ⟨by rfl, by intro w; go_simp⟩, fun _ => rfl⟩ ?_
          refine wpAnyIn_take (i := 9) (v := .pointer (some ⟨w.heap.size + 1, pwr p (rootN p) i.1, none⟩)) rfl rfl (by kernel_rfl) (by kernel_rfl) (by kernel_rfl) (fun _ _ _ h => h) ⟨Or.inl ⟨by rfl, by intro w; go_simp⟩, fun _ => rfl⟩ ?_
          refine wpAnyIn_ready (rs := [10]) (by kernel_rfl) (by simp) ?_
          refine AllReadyIn.cons rfl (fun K hK => ?_) ?_
          · go_simp
            refine hK _ _ ?_
            clear hK K
            refine wpAnyIn_done (by kernel_rfl) ?_ _
            gi_wp2
            exact FIN.out
          exact AllReadyIn.nil
        exact AllReadyIn.nil
      refine AllReadyIn.cons rfl (fun K hK => ?_) ?_
      · go_simp
        refine hK _ _ ?_
        clear hK K
        refine wpAnyIn_ready (rs := [3]) (by kernel_rfl) (by simp) ?_
        refine AllReadyIn.cons rfl (fun K hK => ?_) ?_
        · go_simp
          refine hK _ _ ?_
          clear hK K
          refine wpAnyIn_take (i := 5) (v := .int .i64 ((k : Int) * (i.1 : Int))) rfl rfl (by kernel_rfl) (by kernel_rfl) (by kernel_rfl) (fun _ _ _ h => h) ⟨Or.inl ⟨by rfl, by intro w; go_simp⟩, fun _ => rfl⟩ ?_
          refine wpAnyIn_take (i := 8) (v := .int .i64 ((k : Int) * (i.1 : Int) % (n : Int))) rfl rfl (by kernel_rfl) (by kernel_rfl) (by kernel_rfl) (fun _ _ _ h => h) ⟨Or.inl ⟨by rfl, by intro w; go_simp⟩, fun _ => rfl⟩ ?_
          refine wpAnyIn_take (i := 9) (v := .pointer (some ⟨w.heap.size + 1, pwr p (rootN p) i.1, none⟩)) rfl rfl (by kernel_rfl) (by kernel_rfl) (by kernel_rfl) (fun _ _ _ h => h) ⟨Or.inl ⟨by rfl, by intro w; go_simp⟩, fun _ => rfl⟩ ?_
          refine wpAnyIn_ready (rs := [10]) (by kernel_rfl) (by simp) ?_
          refine AllReadyIn.cons rfl (fun K hK => ?_) ?_
          · go_simp
            refine hK _ _ ?_
            clear hK K
            refine wpAnyIn_done (by kernel_rfl) ?_ _
            gi_wp2
            exact FIN.out
          exact AllReadyIn.nil
        exact AllReadyIn.nil
      exact AllReadyIn.nil
    refine AllReadyIn.cons rfl (fun K hK => ?_) ?_
    · go_simp
      refine hK _ _ ?_
      clear hK K
      refine wpAnyIn_take (i := 5) (v := .int .i64 ((k : Int) * (i.1 : Int))) rfl rfl (by kernel_rfl) (by kernel_rfl) (by kernel_rfl) (fun _ _ _ h => h) ⟨Or.inl ⟨by rfl, by intro w; go_simp⟩, fun _ => rfl⟩ ?_
      refine wpAnyIn_ready (rs := [0, 7]) (by kernel_rfl) (by simp) ?_
      refine AllReadyIn.cons rfl (fun K hK => ?_) ?_
      · go_simp
        refine hK _ _ ?_
        clear hK K
        refine wpAnyIn_ready (rs := [7]) (by kernel_rfl) (by simp) ?_
        refine AllReadyIn.cons rfl (fun K hK => ?_) ?_
        · go_simp
          refine hK _ _ ?_
          clear hK K
          refine wpAnyIn_take (i := 8) (v := .int .i64 ((k : Int) * (i.1 : Int) % (n : Int))) rfl rfl (by kernel_rfl) (by kernel_rfl) (by kernel_rfl) (fun _ _ _ h => h) ⟨Or.inl ⟨by rfl, by intro w; go_simp⟩, fun _ => rfl⟩ ?_
          refine wpAnyIn_take (i := 9) (v := .pointer (some ⟨w.heap.size + 1, pwr p (rootN p) i.1, none⟩)) rfl rfl (by kernel_rfl) (by kernel_rfl) (by kernel_rfl) (fun _ _ _ h => h) ⟨Or.inl ⟨by rfl, by intro w; go_simp⟩, fun _ => rfl⟩ ?_
          refine wpAnyIn_ready (rs := [10]) (by kernel_rfl) (by simp) ?_
          refine AllReadyIn.cons rfl (fun K hK => ?_) ?_
          · go_simp
            refine hK _ _ ?_
            clear hK K
            refine wpAnyIn_done (by kernel_rfl) ?_ _
            gi_wp2
            exact FIN.out
          exact AllReadyIn.nil
        exact AllReadyIn.nil
      refine AllReadyIn.cons rfl (fun K hK => ?_) ?_
      · go_simp
        refine hK _ _ ?_
        clear hK K
        refine wpAnyIn_take (i := 8) (v := .int .i64 ((k : Int) * (i.1 : Int) % (n : Int))) rfl rfl (by kernel_rfl) (by kernel_rfl) (by kernel_rfl) (fun _ _ _ h => h) ⟨Or.inl ⟨by rfl, by intro w; go_simp⟩, fun _ => rfl⟩ ?_
        refine wpAnyIn_ready (rs := [0]) (by kernel_rfl) (by simp) ?_
        refine AllReadyIn.cons rfl (fun K hK => ?_) ?_
        · go_simp
          refine hK _ _ ?_
          clear hK K
          refine wpAnyIn_take (i := 9) (v := .pointer (some ⟨w.heap.size + 1, pwr p (rootN p) i.1, none⟩)) rfl rfl (by kernel_rfl) (by kernel_rfl) (by kernel_rfl) (fun _ _ _ h => h) ⟨Or.inl ⟨by rfl, by intro w; go_simp⟩, fun _ => rfl⟩ ?_
          refine wpAnyIn_ready (rs := [10]) (by kernel_rfl) (by simp) ?_
          refine AllReadyIn.cons rfl (fun K hK => ?_) ?_
          · go_simp
            refine hK _ _ ?_
            clear hK K
            refine wpAnyIn_done (by kernel_rfl) ?_ _
            gi_wp2
            exact FIN.out
          exact AllReadyIn.nil
        exact AllReadyIn.nil
      exact AllReadyIn.nil
    refine AllReadyIn.cons rfl (fun K hK => ?_) ?_
    · go_simp
      refine hK _ _ ?_
      clear hK K
      refine wpAnyIn_ready (rs := [0, 3]) (by kernel_rfl) (by simp) ?_
      refine AllReadyIn.cons rfl (fun K hK => ?_) ?_
      · go_simp
        refine hK _ _ ?_
        clear hK K
        refine wpAnyIn_ready (rs := [3]) (by kernel_rfl) (by simp) ?_
        refine AllReadyIn.cons rfl (fun K hK => ?_) ?_
        · go_simp
          refine hK _ _ ?_
          clear hK K
          refine wpAnyIn_take (i := 5) (v := .int .i64 ((k : Int) * (i.1 : Int))) rfl rfl (by kernel_rfl) (by kernel_rfl) (by kernel_rfl) (fun _ _ _ h => h) ⟨Or.inl ⟨by rfl, by intro w; go_simp⟩, fun _ => rfl⟩ ?_
          refine wpAnyIn_take (i := 8) (v := .int .i64 ((k : Int) * (i.1 : Int) % (n : Int))) rfl rfl (by kernel_rfl) (by kernel_rfl) (by kernel_rfl) (fun _ _ _ h => h) ⟨Or.inl ⟨by rfl, by intro w; go_simp⟩, fun _ => rfl⟩ ?_
          refine wpAnyIn_take (i := 9) (v := .pointer (some ⟨w.heap.size + 1, pwr p (rootN p) i.1, none⟩)) rfl rfl (by kernel_rfl) (by kernel_rfl) (by kernel_rfl) (fun _ _ _ h => h) ⟨Or.inl ⟨by rfl, by intro w; go_simp⟩, fun _ => rfl⟩ ?_
          refine wpAnyIn_ready (rs := [10]) (by kernel_rfl) (by simp) ?_
          refine AllReadyIn.cons rfl (fun K hK => ?_) ?_
          · go_simp
            refine hK _ _ ?_
            clear hK K
            refine wpAnyIn_done (by kernel_rfl) ?_ _
            gi_wp2
            exact FIN.out
          exact AllReadyIn.nil
        exact AllReadyIn.nil
      refine AllReadyIn.cons rfl (fun K hK => ?_) ?_
      · go_simp
        refine hK _ _ ?_
        clear hK K
        refine wpAnyIn_take (i := 5) (v := .int .i64 ((k : Int) * (i.1 : Int))) rfl rfl (by kernel_rfl) (by kernel_rfl) (by kernel_rfl) (fun _ _ _ h => h) ⟨Or.inl ⟨by rfl, by intro w; go_simp⟩, fun _ => rfl⟩ ?_
        refine wpAnyIn_take (i := 8) (v := .int .i64 ((k : Int) * (i.1 : Int) % (n : Int))) rfl rfl (by kernel_rfl) (by kernel_rfl) (by kernel_rfl) (fun _ _ _ h => h) ⟨Or.inl ⟨by rfl, by intro w; go_simp⟩, fun _ => rfl⟩ ?_
        refine wpAnyIn_ready (rs := [0]) (by kernel_rfl) (by simp) ?_
        refine AllReadyIn.cons rfl (fun K hK => ?_) ?_
        · go_simp
          refine hK _ _ ?_
          clear hK K
          refine wpAnyIn_take (i := 9) (v := .pointer (some ⟨w.heap.size + 1, pwr p (rootN p) i.1, none⟩)) rfl rfl (by kernel_rfl) (by kernel_rfl) (by kernel_rfl) (fun _ _ _ h => h) ⟨Or.inl ⟨by rfl, by intro w; go_simp⟩, fun _ => rfl⟩ ?_
          refine wpAnyIn_ready (rs := [10]) (by kernel_rfl) (by simp) ?_
          refine AllReadyIn.cons rfl (fun K hK => ?_) ?_
          · go_simp
            refine hK _ _ ?_
            clear hK K
            refine wpAnyIn_done (by kernel_rfl) ?_ _
            gi_wp2
            exact FIN.out
          exact AllReadyIn.nil
        exact AllReadyIn.nil
      exact AllReadyIn.nil
    exact AllReadyIn.nil
  case done =>
    rintro D ys W hD hys ⟨⟨h0, h1, h2⟩, hB, hz⟩ hK
    gi_wp2
    refine ⟨by simp, .inl ⟨_, _, rfl, run_takeDeferred hK, ?_⟩⟩
    have hKB : Below W0.heap.size W (W.putObj D (.deferred none)) := belowK_b (w := W0) (Nat.le_refl _) W D _ _ (by omega) hK rfl rfl
    rw [hys, ← HM.out] at h2
    exact ⟨_, results_tmp rfl _ _ _, rfl, hB.trans (hKB.mono (by omega)), by have := hKB.size; omega, h0.keepB hKB (by omega), h1.keepB hKB (by omega), (h2.keep hKB (by omega)).congr (fun y hy => (exL_all HP.out y hy).symm)⟩
  case stop =>
    rintro D c pre W _ _ h _
    exact h.elim
end

section
open Go.RowKit Go.ChangeShapes
set_option linter.unusedVariables false
set_option linter.unusedSimpArgs false
section
variable {o : Bool} {lo hi : Nat} {v : Value}
set_option maxHeartbeats 1000000 in
theorem value_any (p n k : Nat) (x : Int) (bc be : Nat) (w : World) (hp1 : 1 ≤ p) (hp2 : p ≤ 61) (hr1 : -9223372036854775808 ≤ x) (hr2 : x ≤ 9223372036854775807)
    (hc : Box w bc [.int .i64 (p : Int), .int .i64 (n : Int), .int .i64 (k : Int)]) (he : Box w be [v]) (hs : Sl o w lo hi v p (exV p n k)) :
    Calls Try.prog 211 #[.int .i64 x, .pointer (some ⟨bc, 0, none⟩), .pointer (some ⟨be, 0, none⟩)] w fun e w' => e = .returned (.tuple #[.int .i64 (exV p n k (restN p x)), .bool (((restN p x : Nat) : Int) != 0)]) ∧ Below w.heap.size w w' := by
  obtain ⟨r1, r2, r3, r4⟩ := restN_eq p hp1 x
  generalize restN p x = y at *
  obtain ⟨c0, c1, c2⟩ := hc.cell3
  have e0 := he.2.1 0 _ rfl
  obtain ⟨g, off, cap, rfl, _, _, _, _, hcl, _⟩ := hs.at (by omega)
  have hcy := hcl y r2
  have hp0 : ¬ p = 0 := by omega
  clear hcl hs hc he
  go_enter Try.func211, Try.ntmps211
  go_wp2
  go_region
  all_goals
    go_wp2
    go_ret2
    exact ⟨by simp, (Below.refl _ _).drew⟩
end
end

section
open Go.RowKit Go.ChangeShapes Go.Sort
set_option linter.unusedVariables false
set_option linter.unusedSimpArgs false

/-- The exponent at x as the model tells it: -1 at multiples of the prime. -/
def exM (p n k : Nat) (x : Int) : Int := if restN p x = 0 then -1 else (expN p n k (restN p x) : Nat)
set_option maxHeartbeats 1000000 in
theorem l03Exponent_any (p n k : Nat) (x : Int) (hp : primeN p = true) (h1 : 1 ≤ n) (h2 : n ≤ 16) (hk : k ≤ 16) (hr1 : -9223372036854775808 ≤ x) (hr2 : x ≤ 9223372036854775807) (w : World) :
    Calls Try.prog 161 #[.agg #[.int .i64 (p : Int), .int .i64 (n : Int), .int .i64 (k : Int)], .int .i64 x] w fun e w' => e = .returned (.int .i64 (exM p n k x)) ∧ Below w.heap.size w w' := by
  have hb := primeN_bd hp
  have hp0 : ¬ p = 0 := by omega
  have HE := Lib.hid (show exM p n k x = if restN p x = 0 then -1 else ((expN p n k (restN p x) : Nat) : Int) from rfl)
  have hz := restN_zero (show 1 ≤ p by omega) x
  by_cases hx : x.tmod p = 0
  · have hr : restN p x = 0 := hz.2 hx
    rw [if_pos hr] at HE
    rw [HE.out]
    clear HE hz hr hp
    go_enter Try.func161, Try.ntmps161
    go_wp2
    go_ret
    exact ⟨rfl, by go_grown⟩
  · have hr : ¬ restN p x = 0 := fun e => hx (hz.1 e)
    rw [if_neg hr] at HE
    rw [HE.out]
    have hi := (idx_ok hp (show 1 ≤ restN p x by omega) (restN_eq p (by omega) x).2.1).1
    have HP := Lib.hid hp
    have HX := Lib.hid hx
    have HI := Lib.hid (show idxN p (restN p x) = idxN p (restN p x) from rfl)
    have HQ := Lib.hid (show expN p n k (restN p x) = k * idxN p (restN p x) % n from rfl)
    have hxb : (x.tmod (p : Int) == 0) = false := beq_eq_false_iff_ne.2 hx
    generalize hix : idxN p (restN p x) = i at hi HQ
    have HIX := Lib.hid hix
    have hki0 : 0 ≤ (i : Int) * (k : Int) := Int.mul_nonneg (by omega) (by omega)
    have hki1 : (i : Int) * (k : Int) ≤ 60 * 16 := Int.mul_le_mul (by omega) (by omega) (by omega) (by omega)
    have hn0 : ¬ n = 0 := by omega
    clear hz hr hx hp hix HI HE
    go_enter Try.func161, Try.ntmps161
    go_wp2
    have k0 := cell_regrown (w := w.alloc (Obj.cells #[.int .i64 (p : Int), .int .i64 (n : Int), .int .i64 (k : Int)] 38)) (a := ⟨w.heap.size, 0, none⟩) (v := .int .i64 (p : Int)) (by go_simp)
    have k1 := cell_regrown (w := w.alloc (Obj.cells #[.int .i64 (p : Int), .int .i64 (n : Int), .int .i64 (k : Int)] 38)) (a := ⟨w.heap.size, 1, none⟩) (v := .int .i64 (n : Int)) (by go_simp)
    have k2 := cell_regrown (w := w.alloc (Obj.cells #[.int .i64 (p : Int), .int .i64 (n : Int), .int .i64 (k : Int)] 38)) (a := ⟨w.heap.size, 2, none⟩) (v := .int .i64 (k : Int)) (by go_simp)
    refine wp_region_quiet_below (by kernel_rfl) (by kernel_rfl) ?_
    repeat (go_big_quiet_step (first
      | (go_at_call 152; exact regrown_drewN ((l03Index_any p x HP.out HX.out hr1 hr2 _).mono (fun e w' h => by rw [HIX.out] at h; exact h)))))
    refine wpQuiet_nil ?_
    intro _ hw'
    obtain ⟨⟨dq, osq⟩, hw''⟩ := hw'
    subst hw''
    go_wp2
    go_ret
    exact ⟨by rw [HQ.out]; simp [Int.mul_comm], below_boxed _ _ _ _⟩

theorem exV_exp {p n k x : Nat} (h : x ≠ 0) : exV p n k x = ((expN p n k x : Nat) : Int) := by unfold exV expN; rw [if_neg h]
/-- The value at -1 is 1. -/
def evenB (p n k : Nat) : Bool := exV p n k (restN p (-1)) == 0
theorem rest_m1 {p : Nat} (h : 3 ≤ p) : restN p (-1) = p - 1 := by
  unfold restN
  rw [show Int.tmod (-1) (p : Int) = -1 from by rw [show (-1 : Int) = -(1 : Int) from rfl, Int.neg_tmod, Int.tmod_eq_emod_of_nonneg (by omega), Int.emod_eq_of_lt (by omega) (by omega)]]
  rw [Int.emod_eq_of_lt (by omega) (by omega)]
  omega
theorem even_m {p n k : Nat} (h : 3 ≤ p) : (exM p n k (-1) == 0) = evenB p n k := by
  unfold exM evenB exV
  rw [rest_m1 h, if_neg (by omega), if_neg (by omega)]
  rfl

theorem IsEvenCharacter_impl_bad (p n k : Int) (h : ¬ ChP p n k) (w : World) :
    Calls Try.prog 32 #[.agg #[.int .i64 p, .int .i64 n, .int .i64 k]] w fun e w' => e = .returned (.tuple #[.bool false, .int .i64 1]) ∧ Below w.heap.size w w' := by
  have H := Lib.hid h; clear h
  go_enter Try.func32, Try.ntmps32
  go_wp2_with (go_at_call 26; refine (IsCharacter_no p n k H.out _).mono ?_; rintro e w1 ⟨rfl, b1⟩)
  go_ret2
  exact ⟨rfl, ((Below.refl w.heap.size w).alloc (Nat.le_refl _) _).trans (b1.mono (by simp))⟩
theorem IsEvenCharacter_spec_bad (p n k : Int) (h : ¬ ChP p n k) (w : World) :
    Calls Try.prog 71 #[.agg #[.int .i64 p, .int .i64 n, .int .i64 k]] w fun e w' => e = .returned (.tuple #[.bool false, .int .i64 1]) ∧ Below w.heap.size w w' := by
  have H := Lib.hid h; clear h
  go_enter Try.func71, Try.ntmps71
  go_wp2_with (go_at_call 135; refine (l03Is_no p n k H.out _).mono ?_; rintro e w1 ⟨rfl, b1⟩)
  go_ret2
  exact ⟨rfl, ((Below.refl w.heap.size w).alloc (Nat.le_refl _) _).trans (b1.mono (by simp))⟩
theorem IsEvenCharacter_impl_ok (p n k : Nat) (hp : primeN p = true) (h1 : 1 ≤ n) (h2 : n ≤ 16) (hd : (p - 1) % n = 0) (hk : k < n) (w : World) :
    Calls Try.prog 32 #[.agg #[.int .i64 (p : Int), .int .i64 (n : Int), .int .i64 (k : Int)]] w fun e w' => e = .returned (.tuple #[.bool (evenB p n k), .int .i64 0]) ∧ Below w.heap.size w w' := by
  have hb := primeN_bd hp
  have HP := Lib.hid hp
  have HD := Lib.hid hd
  have HE := Lib.hid (show evenB p n k = (exV p n k (restN p (-1)) == 0) from rfl)
  clear hp hd
  rw [HE.out]
  generalize hev : exV p n k (restN p (-1)) = ev at HE
  have HEV := Lib.hid hev
  clear hev
  have st0 := (((St.start w).alloc (.cells #[.int .i64 (p : Int), .int .i64 (n : Int), .int .i64 (k : Int)] 38)).addBox w.heap.size [.int .i64 (p : Int), .int .i64 (n : Int), .int .i64 (k : Int)] (Box.made _ _ _ _ (fun j v h => by simpa using h)))
  go_enter Try.func32, Try.ntmps32
  go_wp2_with fail
  refine (IsCharacter_yes p n k HP.out h1 h2 HD.out hk _).mono ?_
  rintro e w1 ⟨rfl, b1⟩
  have st1 := st0.keep b1
  obtain ⟨e0, e1, e2⟩ := (st1.box 0 (w.heap.size, [.int .i64 (p : Int), .int .i64 (n : Int), .int .i64 (k : Int)]) rfl).cell3
  go_wp2_with fail
  refine (valuesOf_any p n k HP.out h1 h2 (by omega) _).mono ?_
  rintro e w2 ⟨rfl, b2, hz2, bx, by_, sl⟩
  have st2 := st1.keep b2
  clear st0 st1 b1 e0 e1 e2
  go_wp2_with fail
  refine (value_any p n k (-1) _ _ _ (by omega) hb.2 (by omega) (by omega) bx by_ sl).mono ?_
  rintro e w3 ⟨rfl, b3⟩
  have BB := (st2.keep b3).1
  clear bx by_ sl st2 b3 b2
  rw [HEV.out]
  go_wp2
  go_ret2
  exact ⟨by simp, BB⟩
theorem IsEvenCharacter_spec_ok (p n k : Nat) (hp : primeN p = true) (h1 : 1 ≤ n) (h2 : n ≤ 16) (hd : (p - 1) % n = 0) (hk : k < n) (w : World) :
    Calls Try.prog 71 #[.agg #[.int .i64 (p : Int), .int .i64 (n : Int), .int .i64 (k : Int)]] w fun e w' => e = .returned (.tuple #[.bool (evenB p n k), .int .i64 0]) ∧ Below w.heap.size w w' := by
  have hb := primeN_bd hp
  have HP := Lib.hid hp
  have HD := Lib.hid hd
  clear hp hd
  rw [← even_m hb.1]
  have st0 := (((St.start w).alloc (.cells #[.int .i64 (p : Int), .int .i64 (n : Int), .int .i64 (k : Int)] 38)).addBox w.heap.size [.int .i64 (p : Int), .int .i64 (n : Int), .int .i64 (k : Int)] (Box.made _ _ _ _ (fun j v h => by simpa using h)))
  go_enter Try.func71, Try.ntmps71
  go_wp2_with fail
  refine (l03Is_yes p n k HP.out h1 h2 HD.out hk _).mono ?_
  rintro e w1 ⟨rfl, b1⟩
  have st1 := st0.keep b1
  obtain ⟨e0, e1, e2⟩ := (st1.box 0 (w.heap.size, [.int .i64 (p : Int), .int .i64 (n : Int), .int .i64 (k : Int)]) rfl).cell3
  go_wp2_with fail
  refine (l03Exponent_any p n k (-1) HP.out h1 h2 (by omega) (by omega) (by omega) _).mono ?_
  rintro e w2 ⟨rfl, b2⟩
  have BB := (st1.keep b2).1
  clear st0 st1 b1 b2 e0 e1 e2
  go_wp2
  go_ret2
  exact ⟨by simp, BB⟩

/-- The Legendre symbol. -/
def legN (p : Nat) (x : Int) : Int := if restN p x = 0 then 0 else if sqN p (restN p x) = true then 1 else -1
theorem legN_idx {p : Nat} {x : Int} (hp : primeN p = true) (h : ¬ restN p x = 0) : legN p x = 1 - 2 * exV p 2 1 (restN p x) := by
  have hb := primeN_bd hp
  unfold legN exV
  rw [if_neg h, if_neg h, sq_ok hp (by omega) (restN_eq p (by omega) x).2.1, Nat.one_mul]
  rcases Nat.mod_two_eq_zero_or_one (idxN p (restN p x)) with e | e <;> rw [e] <;> simp
theorem LegendreSymbol_impl_bad (p x : Int) (h : ¬ (PrP p ∧ -1000000 ≤ x ∧ x ≤ 1000000)) (w : World) :
    Calls Try.prog 64 #[.int .i64 p, .int .i64 x] w fun e w' => e = .returned (.tuple #[.int .i64 0, .int .i64 2]) ∧ Below w.heap.size w w' := by
  by_cases hp : PrP p
  · have H := Lib.hid (show x < -1000000 ∨ 1000000 < x by
      rcases Int.lt_or_le x (-1000000) with g1 | g1
      · exact .inl g1
      · rcases Int.lt_or_le 1000000 x with g2 | g2
        · exact .inr g2
        · exact absurd ⟨hp, g1, g2⟩ h)
    obtain ⟨P, rfl⟩ := Int.eq_ofNat_of_zero_le hp.1
    have HP := Lib.hid (show primeN P = true by have := hp.2; rwa [Int.toNat_natCast] at this)
    clear h hp
    go_enter Try.func64, Try.ntmps64
    go_wp2_with (first
      | (go_at_call 148; refine (isOddPrime_yes P HP.out _).mono ?_; rintro e w1 ⟨rfl, m1, rfl⟩)
      | (go_at_call 138; refine (isWithin_no _ _ _ (by omega) (by omega) H.out).mono ?_; rintro e w' ⟨rfl, rfl⟩))
    go_ret2
    exact ⟨rfl, below_drewN (Below.refl _ _) _⟩
  · have H := Lib.hid hp
    clear h hp
    go_enter Try.func64, Try.ntmps64
    go_wp2_with (go_at_call 148; refine (isOddPrime_no p H.out _).mono ?_; rintro e w1 ⟨rfl, m1, rfl⟩)
    go_ret2
    exact ⟨rfl, below_drewN (Below.refl _ _) _⟩
theorem LegendreSymbol_spec_bad (p x : Int) (h : ¬ (PrP p ∧ -1000000 ≤ x ∧ x ≤ 1000000)) (w : World) :
    Calls Try.prog 65 #[.int .i64 p, .int .i64 x] w fun e w' => e = .returned (.tuple #[.int .i64 0, .int .i64 2]) ∧ Below w.heap.size w w' := by
  by_cases hp : PrP p
  · have H := Lib.hid (show x < -1000000 ∨ 1000000 < x by
      rcases Int.lt_or_le x (-1000000) with g1 | g1
      · exact .inl g1
      · rcases Int.lt_or_le 1000000 x with g2 | g2
        · exact .inr g2
        · exact absurd ⟨hp, g1, g2⟩ h)
    obtain ⟨P, rfl⟩ := Int.eq_ofNat_of_zero_le hp.1
    have HP := Lib.hid (show primeN P = true by have := hp.2; rwa [Int.toNat_natCast] at this)
    clear h hp
    go_enter Try.func65, Try.ntmps65
    go_wp2_with (first
      | (go_at_call 150; refine (l03Prime_yes P HP.out _).mono ?_; rintro e w1 ⟨rfl, m1, rfl⟩)
      | (go_at_call 151; refine (l01In_no _ _ _ _ H.out).mono ?_; rintro e w' ⟨rfl, rfl⟩))
    go_ret2
    exact ⟨rfl, below_drewN (Below.refl _ _) _⟩
  · have H := Lib.hid hp
    clear h hp
    go_enter Try.func65, Try.ntmps65
    go_wp2_with (go_at_call 150; refine (l03Prime_no p H.out _).mono ?_; rintro e w1 ⟨rfl, m1, rfl⟩)
    go_ret2
    exact ⟨rfl, below_drewN (Below.refl _ _) _⟩
theorem LegendreSymbol_impl_ok (p : Nat) (x : Int) (hp : primeN p = true) (hx1 : -1000000 ≤ x) (hx2 : x ≤ 1000000) (w : World) :
    Calls Try.prog 64 #[.int .i64 (p : Int), .int .i64 x] w fun e w' => e = .returned (.tuple #[.int .i64 (legN p x), .int .i64 0]) ∧ Below w.heap.size w w' := by
  have hb := primeN_bd hp
  have HP := Lib.hid hp
  have hbd := exV_bd (p := p) (n := 2) (k := 1) (y := restN p x) (by omega)
  have HL := Lib.hid (fun h => legN_idx (x := x) hp h)
  have HL0 := Lib.hid (show legN p x = if restN p x = 0 then 0 else if sqN p (restN p x) = true then 1 else -1 from rfl)
  clear hp
  generalize hlg : legN p x = lg at HL HL0
  go_enter Try.func64, Try.ntmps64
  go_wp2_with (first
    | (go_at_call 148; refine (isOddPrime_yes p HP.out _).mono ?_; rintro e w1 ⟨rfl, m1, rfl⟩)
    | (go_at_call 138; refine (isWithin_yes _ _ _ (by omega) (by omega) (by omega) (by omega)).mono ?_; rintro e w' ⟨rfl, rfl⟩)
    | (go_at_call 137; refine (valuesOf_any p 2 1 HP.out (by omega) (by omega) (by omega) _).mono ?_; rintro e w2 ⟨rfl, b2, hz2, bx, by_, sl⟩))
  refine (value_any p 2 1 x _ _ _ (by omega) hb.2 (by omega) (by omega) bx by_ sl).mono ?_
  rintro e w3 ⟨rfl, b3⟩
  have BB : Below w.heap.size w w3 := (below_drewN (Below.refl _ _) m1).trans (b2.trans (b3.mono b2.size))
  clear bx by_ sl b3 b2
  by_cases hr : restN p x = 0
  · have hne : (((restN p x : Nat) : Int) != 0) = false := by rw [hr]; rfl
    have HV := Lib.hid (show lg = 0 by rw [HL0.out, if_pos hr])
    clear hr
    go_wp2
    go_ret2
    exact ⟨by rw [HV.out]; simp, BB⟩
  · have hne : (((restN p x : Nat) : Int) != 0) = true := by rw [bne_iff_ne]; omega
    have HV := Lib.hid (HL.out hr)
    clear hr
    generalize exV p 2 1 (restN p x) = ev at *
    go_wp2
    go_ret2
    exact ⟨by rw [HV.out]; simp, BB⟩
theorem l03Legendre_any (p : Nat) (x : Int) (hp : primeN p = true) (hx1 : -1000000 ≤ x) (hx2 : x ≤ 1000000) (w : World) :
    Calls Try.prog 173 #[.int .i64 (p : Int), .int .i64 x] w fun e w' => e = .returned (.int .i64 (legN p x)) ∧ Below w.heap.size w w' := by
  have hb := primeN_bd hp
  have hp0 : ¬ p = 0 := by omega
  obtain ⟨r1, r2, r3, r4⟩ := restN_eq p (by omega) x
  have HL := Lib.hid (show legN p x = if restN p x = 0 then 0 else if sqN p (restN p x) = true then 1 else -1 from rfl)
  generalize restN p x = y at *
  clear hp
  by_cases hy : y = 0
  · have HV := Lib.hid (show legN p x = 0 by rw [HL.out, if_pos hy])
    subst hy
    rw [HV.out]
    go_enter Try.func173, Try.ntmps173
    go_wp2
    go_ret
    exact ⟨rfl, by first | exact Below.refl _ _ | go_grown⟩
  · have hyb : ((y : Int) == 0) = false := beq_eq_false_iff_ne.2 (by omega)
    rw [if_neg hy] at HL
    generalize hlg : legN p x = lg at HL
    clear hlg hy
    go_enter Try.func173, Try.ntmps173
    go_wp2
    go_loopw [5] (fun s5 wr => ∃ q : Nat, 1 ≤ q ∧ q ≤ p ∧ s5 = .int .i64 (q : Int) ∧ (∀ j, 1 ≤ j → j < q → ¬ j * j % p = y) ∧ Below w.heap.size w wr) (fun s5 _ => p + 1 - (intOf s5).toNat)
    case atStart => exact ⟨1, by omega, by omega, rfl, fun j h1 h2 => by omega, Below.refl _ _⟩
    case round =>
      obtain ⟨q, hq1, hq, rfl, hno, hB⟩ := hrel
      have HN := Lib.hid hno; clear hno
      have hqq0 : 0 ≤ (q : Int) * (q : Int) := Int.mul_nonneg (by omega) (by omega)
      have hqq1 : (q : Int) * (q : Int) ≤ 61 * 61 := Int.mul_le_mul (by omega) (by omega) (by omega) (by omega)
      have HC := Lib.hid (show (q : Int) * (q : Int) % (p : Int) = ((q * q % p : Nat) : Int) by rw [Int.natCast_emod, Int.natCast_mul])
      by_cases hlt : q < p
      · by_cases he : q * q % p = y
        · have heb : ((q : Int) * (q : Int) % (p : Int) == (y : Int)) = true := by rw [HC.out, he]; simp
          have HV := Lib.hid (show lg = 1 by
            rw [HL.out, if_pos]
            exact List.any_eq_true.2 ⟨q - 1, List.mem_range.2 (by omega), decide_eq_true (by rw [show q - 1 + 1 = q by omega]; exact he)⟩)
          clear he
          go_wp2
          go_ret
          exact ⟨by rw [HV.out]; simp, hB⟩
        · have heb : ((q : Int) * (q : Int) % (p : Int) == (y : Int)) = false := beq_eq_false_iff_ne.2 (fun e => he (by rw [HC.out] at e; omega))
          have HE := Lib.hid he
          clear he
          go_wp2
          go_roundw
          case rel => exact ⟨q + 1, by omega, by omega, by go_num, fun j h1 h2 => by
            rcases Nat.lt_or_ge j q with h | h
            · exact HN.out j h1 h
            · obtain rfl : j = q := by omega
              exact HE.out, hB⟩
          case measure => simp [intOf]; omega
      · have hpq : (p : Int) ≤ (q : Int) := by omega
        have HV := Lib.hid (show lg = -1 by
          rw [HL.out, if_neg]
          intro h
          obtain ⟨j, hj, hj2⟩ := List.any_eq_true.1 h
          exact HN.out (j + 1) (by omega) (by have := List.mem_range.1 hj; omega) (of_decide_eq_true hj2))
        go_wp2
        go_ret
        exact ⟨by rw [HV.out]; simp, hB⟩
theorem LegendreSymbol_spec_ok (p : Nat) (x : Int) (hp : primeN p = true) (hx1 : -1000000 ≤ x) (hx2 : x ≤ 1000000) (w : World) :
    Calls Try.prog 65 #[.int .i64 (p : Int), .int .i64 x] w fun e w' => e = .returned (.tuple #[.int .i64 (legN p x), .int .i64 0]) ∧ Below w.heap.size w w' := by
  have HP := Lib.hid hp; clear hp
  go_enter Try.func65, Try.ntmps65
  go_wp2_with (first
    | (go_at_call 150; refine (l03Prime_yes p HP.out _).mono ?_; rintro e w1 ⟨rfl, m1, rfl⟩)
    | (go_at_call 151; refine (l01In_yes _ _ _ _ (by omega) (by omega)).mono ?_; rintro e w' ⟨rfl, rfl⟩)
    | (go_at_call 173; refine (l03Legendre_any p x HP.out hx1 hx2 _).mono ?_; rintro e w2 ⟨rfl, b2⟩))
  go_ret2
  exact ⟨rfl, (below_drewN (Below.refl _ _) _).trans b2⟩
end

section
open Go.RowKit Go.ChangeShapes Go.Sort
set_option linter.unusedVariables false
set_option linter.unusedSimpArgs false

/-- The Parts of the value at x. -/
def atP (p n k : Nat) (x : Int) : Nat → Int := fun j => if restN p x = 0 then 0 else tb n (expN p n k (restN p x)) j
theorem atP_zero {p n k : Nat} {x : Int} (h : restN p x = 0) (j : Nat) : atP p n k x j = 0 := by unfold atP; rw [if_pos h]
theorem atP_some {p n k : Nat} {x : Int} (h : ¬ restN p x = 0) (j : Nat) : atP p n k x j = tb n (expN p n k (restN p x)) j := by unfold atP; rw [if_neg h]
theorem atP_bd {p n k : Nat} {x : Int} (hn : n < 17) (h1 : 1 ≤ n) {j : Nat} (hj : j < phiN n) : -1 ≤ atP p n k x j ∧ atP p n k x j ≤ 1 := by
  by_cases h : restN p x = 0
  · rw [atP_zero h]; omega
  · rw [atP_some h]; exact tab_one n hn h1 _ (expN_lt h1) j hj
theorem atP_within {p n k : Nat} {x : Int} (hn : n < 17) (h1 : 1 ≤ n) : Within (atP p n k x) (phiN n) 1000000000 := fun j hj => by have := atP_bd (p := p) (k := k) (x := x) hn h1 hj; omega
theorem redP_pad0 {n : Nat} (hn : n < 17) (h1 : 1 ≤ n) (f : Nat → Int) {j : Nat} (hj : j < phiN n) : redP n (pad 0 f) j = 0 := by
  have hp := phi_le12 n (by omega) h1
  rw [redP_exact hn h1 (P' := fun _ => 0) (fun i _ => by unfold pad; rw [if_neg (by omega)]; simp [wrap64]) (by omega) (by rw [redZ_zero]; unfold inR; omega), redZ_zero]
theorem powIx_nat {n k : Nat} (h : k < n) : powIx n (k : Int) = k := by
  unfold powIx
  rw [Int.tmod_eq_emod_of_nonneg (by omega), Int.emod_eq_of_lt (a := (k : Int)) (by omega) (by omega), Int.add_emod_right, Int.emod_eq_of_lt (by omega) (by omega)]
  simp

set_option maxRecDepth 100000 in
set_option maxHeartbeats 1000000 in
theorem l03At_any (p n k : Nat) (x : Int) (hp : primeN p = true) (h1 : 1 ≤ n) (h2 : n ≤ 16) (hk : k ≤ 16) (hr1 : -9223372036854775808 ≤ x) (hr2 : x ≤ 9223372036854775807) (w : World) :
    Calls Try.prog 157 #[.agg #[.int .i64 (p : Int), .int .i64 (n : Int), .int .i64 (k : Int)], .int .i64 x] w fun e w' => ∃ a cap, e = .returned (.agg #[.int .i64 (n : Int), .slice a (phiN n) cap]) ∧ Sl true w' w.heap.size w'.heap.size (.slice a (phiN n) cap) (phiN n) (atP p n k x) ∧ Below w.heap.size w w' := by
  have HP := Lib.hid hp; clear hp
  have st0 := (((St.start w).alloc (.cells #[.int .i64 (p : Int), .int .i64 (n : Int), .int .i64 (k : Int)] 38)).addBox w.heap.size [.int .i64 (p : Int), .int .i64 (n : Int), .int .i64 (k : Int)] (Box.made _ _ _ _ (fun j v h => by simpa using h)))
  replace st0 := (st0.alloc (.cells #[.int .i64 0, .slice none 0 0] 28)).addBox _ [.int .i64 0, .slice none 0 0] (Box.made _ _ _ _ (fun j v h => by simpa using h))
  simp only [World.size_alloc] at st0
  obtain ⟨e0, e1, e2⟩ := (st0.box 1 (w.heap.size, [.int .i64 (p : Int), .int .i64 (n : Int), .int .i64 (k : Int)]) rfl).cell3
  by_cases hr : restN p x = 0
  · have HX := Lib.hid (show exM p n k x = -1 by unfold exM; rw [if_pos hr])
    have HA := Lib.hid (fun j => atP_zero (p := p) (n := n) (k := k) hr j)
    clear hr
    go_enter Try.func157, Try.ntmps157
    go_wp2_with fail
    refine (l03Exponent_any p n k x HP.out h1 h2 hk hr1 hr2 _).mono ?_
    rw [HX.out]
    rintro e w1 ⟨rfl, b1⟩
    clear e0 e1 e2
    have st1 := st0.keep b1
    have hz1 := b1.size
    try simp only [World.size_alloc] at hz1
    clear st0 b1
    obtain ⟨e0, e1, e2⟩ := (st1.box 1 (w.heap.size, [.int .i64 (p : Int), .int .i64 (n : Int), .int .i64 (k : Int)]) rfl).cell3
    go_wp2_with fail
    refine (l01Zero_any n (by omega) _).mono ?_
    rintro e w2 ⟨a2, k2, rfl, s2, b2⟩
    have S2 := Lib.hid (s2.congr (f' := atP p n k x) (fun j hj => HA.out j))
    clear s2 e0 e1 e2
    have st2 := st1.keep b2
    have hz2 := b2.size
    try simp only [World.size_alloc] at hz2
    clear st1 b2
    obtain ⟨d0, d1⟩ := (st2.box 0 (w.heap.size + 1, [.int .i64 0, .slice none 0 0]) rfl).cell2
    have dz := (st2.box 0 (w.heap.size + 1, [.int .i64 0, .slice none 0 0]) rfl).2.2
    have BB := st2.1
    dsimp only at dz
    go_wp2
    refine bodyPost_ret (v := .agg #[.int .i64 (n : Int), .slice a2 (phiN n) k2]) (by simp [results, Try.results157, go_sem, d0, d1]) rfl ?_
    refine ⟨_, _, rfl, ?_, by go_grown⟩
    exact ((S2.out.setOther (.inl (by show w.heap.size + 1 < _; omega)) _).setOther (.inl (by show w.heap.size + 1 < _; omega)) _).wide (by omega) (by simp) (Nat.le_refl _)
  · have HX := Lib.hid (show exM p n k x = ((expN p n k (restN p x) : Nat) : Int) by unfold exM; rw [if_neg hr])
    have HA := Lib.hid (fun j => atP_some (p := p) (n := n) (k := k) hr j)
    have hlt := expN_lt (p := p) (k := k) (x := restN p x) h1
    clear hr
    generalize expN p n k (restN p x) = q at *
    go_enter Try.func157, Try.ntmps157
    go_wp2_with fail
    refine (l03Exponent_any p n k x HP.out h1 h2 hk hr1 hr2 _).mono ?_
    rw [HX.out]
    rintro e w1 ⟨rfl, b1⟩
    clear e0 e1 e2
    have st1 := st0.keep b1
    have hz1 := b1.size
    try simp only [World.size_alloc] at hz1
    clear st0 b1
    obtain ⟨e0, e1, e2⟩ := (st1.box 1 (w.heap.size, [.int .i64 (p : Int), .int .i64 (n : Int), .int .i64 (k : Int)]) rfl).cell3
    go_wp2_with fail
    refine (l01Unit_any n (q : Int) _ h1 h2).mono ?_
    rintro e w2 ⟨a2, k2, rfl, s2, b2⟩
    rw [powIx_nat hlt] at s2
    have S2 := Lib.hid (s2.congr (f' := atP p n k x) (fun j hj => by rw [HA.out j, unit_tb (by omega) h1 hlt hj]))
    clear s2 e0 e1 e2
    have st2 := st1.keep b2
    have hz2 := b2.size
    try simp only [World.size_alloc] at hz2
    clear st1 b2
    obtain ⟨d0, d1⟩ := (st2.box 0 (w.heap.size + 1, [.int .i64 0, .slice none 0 0]) rfl).cell2
    have dz := (st2.box 0 (w.heap.size + 1, [.int .i64 0, .slice none 0 0]) rfl).2.2
    have BB := st2.1
    dsimp only at dz
    go_wp2
    refine bodyPost_ret (v := .agg #[.int .i64 (n : Int), .slice a2 (phiN n) k2]) (by simp [results, Try.results157, go_sem, d0, d1]) rfl ?_
    refine ⟨_, _, rfl, ?_, by go_grown⟩
    exact ((S2.out.setOther (.inl (by show w.heap.size + 1 < _; omega)) _).setOther (.inl (by show w.heap.size + 1 < _; omega)) _).wide (by omega) (by simp) (Nat.le_refl _)

theorem CharacterAt_impl_bad (p n k x : Int) (h : ¬ ChP p n k) (w : World) :
    Calls Try.prog 33 #[.agg #[.int .i64 p, .int .i64 n, .int .i64 k], .int .i64 x] w fun e w' => e = .returned (failV 1) ∧ Below w.heap.size w w' := by
  have H := Lib.hid h; clear h
  have st0 := (((St.start w).alloc (.cells #[.int .i64 p, .int .i64 n, .int .i64 k] 38)).addBox w.heap.size [.int .i64 p, .int .i64 n, .int .i64 k] (Box.made _ _ _ _ (fun j v h => by simpa using h)))
  replace st0 := (st0.alloc (.cells #[.int .i64 0, .slice none 0 0] 28)).addBox _ [.int .i64 0, .slice none 0 0] (Box.made _ _ _ _ (fun j v h => by simpa using h))
  simp only [World.size_alloc] at st0
  go_enter Try.func33, Try.ntmps33
  go_wp2_with fail
  refine (IsCharacter_no p n k H.out _).mono ?_
  rintro e w1 ⟨rfl, b1⟩
  have st1 := st0.keep b1
  have hz1 := b1.size
  try simp only [World.size_alloc] at hz1
  clear st0 b1
  obtain ⟨d0, d1⟩ := (st1.box 0 (w.heap.size + 1, [.int .i64 0, .slice none 0 0]) rfl).cell2
  have dz := (st1.box 0 (w.heap.size + 1, [.int .i64 0, .slice none 0 0]) rfl).2.2
  have BB := st1.1
  dsimp only at dz
  go_wp2
  refine bodyPost_ret (v := failV 1) (by simp [results, Try.results33, go_sem, failV, d0, d1]) rfl ?_
  exact ⟨rfl, by go_grown⟩

theorem CharacterAt_spec_bad (p n k x : Int) (h : ¬ ChP p n k) (w : World) :
    Calls Try.prog 42 #[.agg #[.int .i64 p, .int .i64 n, .int .i64 k], .int .i64 x] w fun e w' => e = .returned (failV 1) ∧ Below w.heap.size w w' := by
  have H := Lib.hid h; clear h
  have st0 := (((St.start w).alloc (.cells #[.int .i64 p, .int .i64 n, .int .i64 k] 38)).addBox w.heap.size [.int .i64 p, .int .i64 n, .int .i64 k] (Box.made _ _ _ _ (fun j v h => by simpa using h)))
  replace st0 := (st0.alloc (.cells #[.int .i64 0, .slice none 0 0] 28)).addBox _ [.int .i64 0, .slice none 0 0] (Box.made _ _ _ _ (fun j v h => by simpa using h))
  simp only [World.size_alloc] at st0
  go_enter Try.func42, Try.ntmps42
  go_wp2_with fail
  refine (l03Is_no p n k H.out _).mono ?_
  rintro e w1 ⟨rfl, b1⟩
  have st1 := st0.keep b1
  have hz1 := b1.size
  try simp only [World.size_alloc] at hz1
  clear st0 b1
  obtain ⟨d0, d1⟩ := (st1.box 0 (w.heap.size + 1, [.int .i64 0, .slice none 0 0]) rfl).cell2
  have dz := (st1.box 0 (w.heap.size + 1, [.int .i64 0, .slice none 0 0]) rfl).2.2
  have BB := st1.1
  dsimp only at dz
  go_wp2
  refine bodyPost_ret (v := failV 1) (by simp [results, Try.results42, go_sem, failV, d0, d1]) rfl ?_
  exact ⟨rfl, by go_grown⟩

theorem CharacterAt_impl_out (p n k : Nat) (x : Int) (hp : primeN p = true) (h1 : 1 ≤ n) (h2 : n ≤ 16) (hd : (p - 1) % n = 0) (hk : k < n) (hx : x < -1000000 ∨ 1000000 < x) (w : World) :
    Calls Try.prog 33 #[.agg #[.int .i64 (p : Int), .int .i64 (n : Int), .int .i64 (k : Int)], .int .i64 x] w fun e w' => e = .returned (failV 2) ∧ Below w.heap.size w w' := by
  have HP := Lib.hid hp
  have HD := Lib.hid hd
  have HX := Lib.hid hx
  clear hp hd hx
  have st0 := (((St.start w).alloc (.cells #[.int .i64 (p : Int), .int .i64 (n : Int), .int .i64 (k : Int)] 38)).addBox w.heap.size [.int .i64 (p : Int), .int .i64 (n : Int), .int .i64 (k : Int)] (Box.made _ _ _ _ (fun j v h => by simpa using h)))
  replace st0 := (st0.alloc (.cells #[.int .i64 0, .slice none 0 0] 28)).addBox _ [.int .i64 0, .slice none 0 0] (Box.made _ _ _ _ (fun j v h => by simpa using h))
  simp only [World.size_alloc] at st0
  go_enter Try.func33, Try.ntmps33
  go_wp2_with fail
  refine (IsCharacter_yes p n k HP.out h1 h2 HD.out hk _).mono ?_
  rintro e w1 ⟨rfl, b1⟩
  have st1 := st0.keep b1
  have hz1 := b1.size
  try simp only [World.size_alloc] at hz1
  clear st0 b1
  obtain ⟨d0, d1⟩ := (st1.box 0 (w.heap.size + 1, [.int .i64 0, .slice none 0 0]) rfl).cell2
  have dz := (st1.box 0 (w.heap.size + 1, [.int .i64 0, .slice none 0 0]) rfl).2.2
  have BB := st1.1
  dsimp only at dz
  go_wp2_with (go_at_call 138; refine (isWithin_no _ _ _ (by omega) (by omega) HX.out).mono ?_; rintro e w' ⟨rfl, rfl⟩)
  refine bodyPost_ret (v := failV 2) (by simp [results, Try.results33, go_sem, failV, d0, d1]) rfl ?_
  exact ⟨rfl, by go_grown⟩

theorem CharacterAt_spec_out (p n k : Nat) (x : Int) (hp : primeN p = true) (h1 : 1 ≤ n) (h2 : n ≤ 16) (hd : (p - 1) % n = 0) (hk : k < n) (hx : x < -1000000 ∨ 1000000 < x) (w : World) :
    Calls Try.prog 42 #[.agg #[.int .i64 (p : Int), .int .i64 (n : Int), .int .i64 (k : Int)], .int .i64 x] w fun e w' => e = .returned (failV 2) ∧ Below w.heap.size w w' := by
  have HP := Lib.hid hp
  have HD := Lib.hid hd
  have HX := Lib.hid hx
  clear hp hd hx
  have st0 := (((St.start w).alloc (.cells #[.int .i64 (p : Int), .int .i64 (n : Int), .int .i64 (k : Int)] 38)).addBox w.heap.size [.int .i64 (p : Int), .int .i64 (n : Int), .int .i64 (k : Int)] (Box.made _ _ _ _ (fun j v h => by simpa using h)))
  replace st0 := (st0.alloc (.cells #[.int .i64 0, .slice none 0 0] 28)).addBox _ [.int .i64 0, .slice none 0 0] (Box.made _ _ _ _ (fun j v h => by simpa using h))
  simp only [World.size_alloc] at st0
  go_enter Try.func42, Try.ntmps42
  go_wp2_with fail
  refine (l03Is_yes p n k HP.out h1 h2 HD.out hk _).mono ?_
  rintro e w1 ⟨rfl, b1⟩
  have st1 := st0.keep b1
  have hz1 := b1.size
  try simp only [World.size_alloc] at hz1
  clear st0 b1
  obtain ⟨d0, d1⟩ := (st1.box 0 (w.heap.size + 1, [.int .i64 0, .slice none 0 0]) rfl).cell2
  have dz := (st1.box 0 (w.heap.size + 1, [.int .i64 0, .slice none 0 0]) rfl).2.2
  have BB := st1.1
  dsimp only at dz
  go_wp2_with (go_at_call 151; refine (l01In_no _ _ _ _ HX.out).mono ?_; rintro e w' ⟨rfl, rfl⟩)
  refine bodyPost_ret (v := failV 2) (by simp [results, Try.results42, go_sem, failV, d0, d1]) rfl ?_
  exact ⟨rfl, by go_grown⟩

set_option maxRecDepth 100000 in
set_option maxHeartbeats 1000000 in
theorem CharacterAt_spec_ok (p n k : Nat) (x : Int) (hp : primeN p = true) (h1 : 1 ≤ n) (h2 : n ≤ 16) (hd : (p - 1) % n = 0) (hk : k < n) (hx1 : -1000000 ≤ x) (hx2 : x ≤ 1000000) (w : World) :
    Calls Try.prog 42 #[.agg #[.int .i64 (p : Int), .int .i64 (n : Int), .int .i64 (k : Int)], .int .i64 x] w fun e w' => ∃ a cap, e = .returned (.tuple #[.agg #[.int .i64 (n : Int), .slice a (phiN n) cap], .int .i64 0]) ∧ Sl true w' w.heap.size w'.heap.size (.slice a (phiN n) cap) (phiN n) (atP p n k x) ∧ Below w.heap.size w w' := by
  have HP := Lib.hid hp
  have HD := Lib.hid hd
  clear hp hd
  have st0 := (((St.start w).alloc (.cells #[.int .i64 (p : Int), .int .i64 (n : Int), .int .i64 (k : Int)] 38)).addBox w.heap.size [.int .i64 (p : Int), .int .i64 (n : Int), .int .i64 (k : Int)] (Box.made _ _ _ _ (fun j v h => by simpa using h)))
  replace st0 := (st0.alloc (.cells #[.int .i64 0, .slice none 0 0] 28)).addBox _ [.int .i64 0, .slice none 0 0] (Box.made _ _ _ _ (fun j v h => by simpa using h))
  simp only [World.size_alloc] at st0
  go_enter Try.func42, Try.ntmps42
  go_wp2_with fail
  refine (l03Is_yes p n k HP.out h1 h2 HD.out hk _).mono ?_
  rintro e w1 ⟨rfl, b1⟩
  have st1 := st0.keep b1
  have hz1 := b1.size
  try simp only [World.size_alloc] at hz1
  clear st0 b1
  obtain ⟨e0, e1, e2⟩ := (st1.box 1 (w.heap.size, [.int .i64 (p : Int), .int .i64 (n : Int), .int .i64 (k : Int)]) rfl).cell3
  go_wp2_with (go_at_call 151; refine (l01In_yes _ _ _ _ (by omega) (by omega)).mono ?_; rintro e w' ⟨rfl, rfl⟩)
  refine (l03At_any p n k x HP.out h1 h2 (by omega) (by omega) (by omega) _).mono ?_
  rintro e w2 ⟨a2, k2, rfl, s2, b2⟩
  have S2 := Lib.hid s2
  clear s2 e0 e1 e2
  have st2 := st1.keep b2
  have hz2 := b2.size
  try simp only [World.size_alloc] at hz2
  clear st1 b2
  obtain ⟨d0, d1⟩ := (st2.box 0 (w.heap.size + 1, [.int .i64 0, .slice none 0 0]) rfl).cell2
  have dz := (st2.box 0 (w.heap.size + 1, [.int .i64 0, .slice none 0 0]) rfl).2.2
  have BB := st2.1
  dsimp only at dz
  go_wp2
  refine bodyPost_ret (v := .tuple #[.agg #[.int .i64 (n : Int), .slice a2 (phiN n) k2], .int .i64 0]) (by simp [results, Try.results42, go_sem, d0, d1]) rfl ?_
  refine ⟨_, _, rfl, ?_, by go_grown⟩
  exact ((S2.out.setOther (.inl (by show w.heap.size + 1 < _; omega)) _).setOther (.inl (by show w.heap.size + 1 < _; omega)) _).wide (by omega) (by simp) (Nat.le_refl _)

set_option maxRecDepth 100000 in
set_option maxHeartbeats 1000000 in
theorem CharacterAt_impl_ok (p n k : Nat) (x : Int) (hp : primeN p = true) (h1 : 1 ≤ n) (h2 : n ≤ 16) (hd : (p - 1) % n = 0) (hk : k < n) (hx1 : -1000000 ≤ x) (hx2 : x ≤ 1000000) (w : World) :
    Calls Try.prog 33 #[.agg #[.int .i64 (p : Int), .int .i64 (n : Int), .int .i64 (k : Int)], .int .i64 x] w fun e w' => ∃ a cap, e = .returned (.tuple #[.agg #[.int .i64 (n : Int), .slice a (phiN n) cap], .int .i64 0]) ∧ Sl true w' w.heap.size w'.heap.size (.slice a (phiN n) cap) (phiN n) (atP p n k x) ∧ Below w.heap.size w w' := by
  have hb := primeN_bd hp
  have HP := Lib.hid hp
  have HD := Lib.hid hd
  clear hp hd
  have st0 := (((St.start w).alloc (.cells #[.int .i64 (p : Int), .int .i64 (n : Int), .int .i64 (k : Int)] 38)).addBox w.heap.size [.int .i64 (p : Int), .int .i64 (n : Int), .int .i64 (k : Int)] (Box.made _ _ _ _ (fun j v h => by simpa using h)))
  replace st0 := (st0.alloc (.cells #[.int .i64 0, .slice none 0 0] 28)).addBox _ [.int .i64 0, .slice none 0 0] (Box.made _ _ _ _ (fun j v h => by simpa using h))
  simp only [World.size_alloc] at st0
  go_enter Try.func33, Try.ntmps33
  go_wp2_with fail
  refine (IsCharacter_yes p n k HP.out h1 h2 HD.out hk _).mono ?_
  rintro e w1 ⟨rfl, b1⟩
  have st1 := st0.keep b1
  have hz1 := b1.size
  try simp only [World.size_alloc] at hz1
  clear st0 b1
  obtain ⟨e0, e1, e2⟩ := (st1.box 1 (w.heap.size, [.int .i64 (p : Int), .int .i64 (n : Int), .int .i64 (k : Int)]) rfl).cell3
  go_wp2_with (go_at_call 138; refine (isWithin_yes _ _ _ (by omega) (by omega) (by omega) (by omega)).mono ?_; rintro e w' ⟨rfl, rfl⟩)
  refine (valuesOf_any p n k HP.out h1 h2 (by omega) _).mono ?_
  rintro e w2 ⟨rfl, b2, hv2, bx, by_, sl⟩
  clear e0 e1 e2
  have st2 := st1.keep b2
  have hz2 := b2.size
  try simp only [World.size_alloc] at hz2
  clear st1 b2
  go_wp2_with fail
  refine (value_any p n k x _ _ _ (by omega) hb.2 (by omega) (by omega) bx by_ sl).mono ?_
  rintro e w3 ⟨rfl, b3⟩
  clear bx by_ sl
  have st3 := st2.keep b3
  have hz3 := b3.size
  try simp only [World.size_alloc] at hz3
  clear st2 b3
  obtain ⟨e0, e1, e2⟩ := (st3.box 1 (w.heap.size, [.int .i64 (p : Int), .int .i64 (n : Int), .int .i64 (k : Int)]) rfl).cell3
  by_cases hr : restN p x = 0
  · have HA := Lib.hid (fun j => atP_zero (p := p) (n := n) (k := k) hr j)
    have hne : (((restN p x : Nat) : Int) != 0) = false := by rw [hr]; rfl
    clear hr
    go_wp2_with fail
    refine (CycloOf_impl_ok n w3 (Sl.nil (o := true) w3 w3.heap.size w3.heap.size (Nat.le_refl _) (fun _ => 0)) ⟨by omega, by omega, by omega, fun j hj => absurd hj (Nat.not_lt_zero _)⟩ (fun j hj => by rw [redP_pad0 (by omega) h1 _ hj]; omega)).mono ?_
    rintro e w4 ⟨a4, k4, rfl, s4, b4⟩
    have S4 := Lib.hid (s4.congr (f' := atP p n k x) (fun j hj => by rw [HA.out j, redP_pad0 (by omega) h1 _ hj]))
    clear s4 e0 e1 e2
    have st4 := st3.keep b4
    have hz4 := b4.size
    try simp only [World.size_alloc] at hz4
    clear st3 b4
    obtain ⟨d0, d1⟩ := (st4.box 0 (w.heap.size + 1, [.int .i64 0, .slice none 0 0]) rfl).cell2
    have dz := (st4.box 0 (w.heap.size + 1, [.int .i64 0, .slice none 0 0]) rfl).2.2
    have BB := st4.1
    dsimp only at dz
    go_wp2
    refine bodyPost_ret (v := .tuple #[.agg #[.int .i64 (n : Int), .slice a4 (phiN n) k4], .int .i64 0]) (by simp [results, Try.results33, go_sem, d0, d1]) rfl ?_
    refine ⟨_, _, rfl, ?_, by go_grown⟩
    exact ((S4.out.setOther (.inl (by show w.heap.size + 1 < _; omega)) _).setOther (.inl (by show w.heap.size + 1 < _; omega)) _).wide (by omega) (by simp) (Nat.le_refl _)
  · have HA := Lib.hid (fun j => atP_some (p := p) (n := n) (k := k) hr j)
    have hne : (((restN p x : Nat) : Int) != 0) = true := by rw [bne_iff_ne]; omega
    have HX := Lib.hid (exV_exp (p := p) (n := n) (k := k) hr)
    have hlt := expN_lt (p := p) (k := k) (x := restN p x) h1
    clear hr
    generalize expN p n k (restN p x) = q at *
    generalize exV p n k (restN p x) = qv at *
    obtain rfl : qv = (q : Int) := HX.out
    go_wp2_with fail
    refine (PowerOfZ_impl_ok n (q : Int) w3 h1 h2 (by omega) (by omega)).mono ?_
    rintro e w4 ⟨a4, k4, rfl, s4, b4⟩
    rw [powIx_nat hlt] at s4
    have S4 := Lib.hid (s4.congr (f' := atP p n k x) (fun j hj => by rw [HA.out j, unit_tb (by omega) h1 hlt hj]))
    clear s4 e0 e1 e2
    have st4 := st3.keep b4
    have hz4 := b4.size
    try simp only [World.size_alloc] at hz4
    clear st3 b4
    obtain ⟨d0, d1⟩ := (st4.box 0 (w.heap.size + 1, [.int .i64 0, .slice none 0 0]) rfl).cell2
    have dz := (st4.box 0 (w.heap.size + 1, [.int .i64 0, .slice none 0 0]) rfl).2.2
    have BB := st4.1
    dsimp only at dz
    go_wp2
    refine bodyPost_ret (v := .tuple #[.agg #[.int .i64 (n : Int), .slice a4 (phiN n) k4], .int .i64 0]) (by simp [results, Try.results33, go_sem, d0, d1]) rfl ?_
    refine ⟨_, _, rfl, ?_, by go_grown⟩
    exact ((S4.out.setOther (.inl (by show w.heap.size + 1 < _; omega)) _).setOther (.inl (by show w.heap.size + 1 < _; omega)) _).wide (by omega) (by simp) (Nat.le_refl _)
end

section
open Go.RowKit Go.ChangeShapes Go.Sort
set_option linter.unusedVariables false
set_option linter.unusedSimpArgs false

theorem sumOne_any (x : Int) (w : World) :
    Calls Try.prog 218 #[.int .i64 x] w fun e w' => e = .returned (.int .i64 1) ∧ w = w' := by
  go_enter Try.func218, Try.ntmps218
  go_wp2
  go_ret
  exact ⟨rfl, rfl⟩
theorem sumTab_any {o : Bool} {lo hi : Nat} {v : Value} {g : Nat → Int} (p x : Nat) (bt : Nat) (w : World) (hx : x < p) (hp : p ≤ 61) (hb : Box w bt [v]) (hs : Sl o w lo hi v p g) :
    Calls Try.prog 172 #[.int .i64 (x : Int), .pointer (some ⟨bt, 0, none⟩)] w fun e w' => e = .returned (.int .i64 (g x)) ∧ w = w' := by
  have e0 := hb.2.1 0 _ rfl
  obtain ⟨gg, off, cap, rfl, _, _, _, _, hcl, _⟩ := hs.at (by omega)
  have hcx := hcl x hx
  clear hcl hs hb
  go_enter Try.func172, Try.ntmps172
  go_wp2
  go_ret
  exact ⟨rfl, rfl⟩
theorem cell_frame {lo hi b i : Nat} {w w' : World} {v : Value} (h : Frame lo hi w w') (hc : w.cell? ⟨b, i, none⟩ = some v) (hb : b < lo) : w'.cell? ⟨b, i, none⟩ = some v :=
  (h.cell (p := ⟨b, i, none⟩) (World.block_lt_of_cell? _ _ hc) (.inl hb)).trans hc
theorem powZ_bd1 {p n k x : Nat} {W : Nat → Int} (hx : x ≤ 61) (hW : ∀ y, y < p → -1000000 ≤ W y ∧ W y ≤ 1000000) (hxp : x ≤ p) (i : Nat) : -61000000 ≤ powZ p n k W x i ∧ powZ p n k W x i ≤ 61000000 := by
  have h := powZ_bd (p := p) (n := n) (k := k) (B := 1000000) (by omega) x (fun y hy => hW y (by omega)) i
  have hm : (x : Int) * 1000000 ≤ 61 * 1000000 := by omega
  omega
theorem powZ_first {p n k : Nat} {W : Nat → Int} (i : Nat) : powZ p n k W 1 i = powZ p n k W 0 i := powZ_zero
theorem powZ_next {p n k x : Nat} {W : Nat → Int} (h : x ≠ 0) (i : Nat) : powZ p n k W (x + 1) i = if i = expN p n k x then powZ p n k W x i + W x else powZ p n k W x i := by
  simp only [powZ]
  by_cases e : i = expN p n k x
  · rw [if_pos ⟨h, e⟩, if_pos e]
  · rw [if_neg (fun h => e h.2), if_neg e]

set_option maxRecDepth 100000 in
set_option maxHeartbeats 4000000 in
theorem weightedSum_one (p n k : Nat) (hp : primeN p = true) (h1 : 1 ≤ n) (h2 : n ≤ 16) (hk : k ≤ 16)  (w : World) :
    Calls Try.prog 171 #[.agg #[.int .i64 (p : Int), .int .i64 (n : Int), .int .i64 (k : Int)], .func (.func 218) #[] #[]] w fun e w' => ∃ a cap, e = .returned (.tuple #[.agg #[.int .i64 (n : Int), .slice a (phiN n) cap], .int .i64 0]) ∧ Sl true w' w.heap.size w'.heap.size (.slice a (phiN n) cap) (phiN n) (sumZ p n k (fun _ => 1) p) ∧ Below w.heap.size w w' := by
  have hb := primeN_bd hp
  have hphi := phi_le12 n (by omega) h1
  have HP := Lib.hid hp; clear hp
  have hW : ∀ y, y < p → -1000000 ≤ (fun _ : Nat => (1 : Int)) y ∧ (fun _ : Nat => (1 : Int)) y ≤ 1000000 := fun y _ => by dsimp only; omega
  have HWB := Lib.hid hW
  have st0 := ((St.start w).alloc (.cells #[.int .i64 (p : Int), .int .i64 (n : Int), .int .i64 (k : Int)] 38)).addBox w.heap.size [.int .i64 (p : Int), .int .i64 (n : Int), .int .i64 (k : Int)] (Box.made _ _ _ _ (fun j v h => by simpa using h))
  replace st0 := (st0.alloc (.cells #[.int .i64 0, .slice none 0 0] 28)).addBox _ [.int .i64 0, .slice none 0 0] (Box.made _ _ _ _ (fun j v h => by simpa using h))
  have q0 := Sl.made24 ((w.alloc (.cells #[.int .i64 (p : Int), .int .i64 (n : Int), .int .i64 (k : Int)] 38)).alloc (.cells #[.int .i64 0, .slice none 0 0] 28))
  simp only [World.size_alloc] at q0 st0
  replace st0 := (st0.alloc (.cells (madeCells #[.int .i64 0] 24) 2)).addSl ⟨true, w.heap.size + 1 + 1, w.heap.size + 1 + 1 + 1, .slice (some ⟨w.heap.size + 1 + 1, 0, none⟩) 24 24, 24, fun _ => 0⟩ q0
  clear q0
  obtain ⟨e0, e1, e2⟩ := (st0.box 1 (w.heap.size, [.int .i64 (p : Int), .int .i64 (n : Int), .int .i64 (k : Int)]) rfl).cell3
  have hmk := make24
  go_enter Try.func171, Try.ntmps171
  go_wp2_with fail
  refine (valuesOf_any p n k HP.out h1 h2 hk _).mono ?_
  rintro e w2 ⟨rfl, b2, hz2, bx, by_, sl⟩
  have st2 := st0.keep b2
  simp only [World.size_alloc] at hz2 bx by_ sl
  have P2 := Lib.hid ((st2.sl 0 ⟨true, w.heap.size + 1 + 1, w.heap.size + 1 + 1 + 1, .slice (some ⟨w.heap.size + 1 + 1, 0, none⟩) 24 24, 24, fun _ => 0⟩ rfl))
  have HT := Lib.hid (((St.tail st2).addBox _ _ bx).addBox _ _ by_ |>.addSl ⟨true, w.heap.size + 1 + 1 + 1 + 1, w.heap.size + 1 + 1 + 1 + 1 + 1, .slice (some ⟨w.heap.size + 1 + 1 + 1 + 1, 0, none⟩) p p, p, exV p n k⟩ sl)
  obtain ⟨f0, f1, f2⟩ := (st2.box 1 (w.heap.size, [.int .i64 (p : Int), .int .i64 (n : Int), .int .i64 (k : Int)]) rfl).cell3
  clear st0 st2 b2 bx by_ sl e0 e1 e2 hmk
  go_wp2
  go_loopw [16] (fun s16 wr => ∃ x : Nat, x ≤ p ∧ s16 = .int .i64 (x : Int) ∧ w2.heap.size ≤ wr.heap.size ∧ Sl true wr (w.heap.size + 1 + 1) (w.heap.size + 1 + 1 + 1) (.slice (some ⟨w.heap.size + 1 + 1, 0, none⟩) 24 24) 24 (powZ p n k (fun _ => 1) x) ∧ St w wr [(w.heap.size + 1 + 1 + 1 + 1 + 1, [.slice (some ⟨w.heap.size + 1 + 1 + 1 + 1, 0, none⟩) p p]), (w.heap.size + 1 + 1 + 1, [.int .i64 (p : Int), .int .i64 (n : Int), .int .i64 (k : Int)]), (w.heap.size + 1, [.int .i64 0, .slice none 0 0]), (w.heap.size, [.int .i64 (p : Int), .int .i64 (n : Int), .int .i64 (k : Int)])] [⟨true, w.heap.size + 1 + 1 + 1 + 1, w.heap.size + 1 + 1 + 1 + 1 + 1, .slice (some ⟨w.heap.size + 1 + 1 + 1 + 1, 0, none⟩) p p, p, exV p n k⟩]) (fun s16 _ => p + 1 - (intOf s16).toNat)
  case atStart => exact ⟨0, by omega, rfl, Nat.le_refl _, P2.out.congr (fun j hj => rfl), HT.out⟩
  case round =>
    clear P2 HT f0 f1 f2
    obtain ⟨x, hx, rfl, hzr, hpo, hst⟩ := hrel
    by_cases hlt : x < p
    · have HRR := Lib.hid (restN_nat hlt)
      have bx := hst.box 1 (w.heap.size + 1 + 1 + 1, [.int .i64 (p : Int), .int .i64 (n : Int), .int .i64 (k : Int)]) rfl
      have by_ := hst.box 0 (w.heap.size + 1 + 1 + 1 + 1 + 1, [.slice (some ⟨w.heap.size + 1 + 1 + 1 + 1, 0, none⟩) p p]) rfl
      have sl := hst.sl 0 ⟨true, w.heap.size + 1 + 1 + 1 + 1, w.heap.size + 1 + 1 + 1 + 1 + 1, .slice (some ⟨w.heap.size + 1 + 1 + 1 + 1, 0, none⟩) p p, p, exV p n k⟩ rfl
      dsimp only at bx by_ sl
      have HPO := Lib.hid hpo; clear hpo
      have HST := Lib.hid hst; clear hst
      go_wp2_with fail
      refine (value_any p n k (x : Int) _ _ _ (by omega) hb.2 (by omega) (by omega) bx by_ sl).mono ?_
      rw [HRR.out]
      by_cases hx0 : x = 0
      · subst hx0
        rintro e w3 ⟨rfl, b3⟩
        have P3 := Lib.hid (HPO.out.keep b3 HPO.out.size)
        have T3 := Lib.hid (HST.out.keep b3)
        have hz3 := b3.size
        clear b3 bx by_ sl HPO HST
        go_wp2
        go_roundw
        case rel => exact ⟨1, by omega, by go_num, by omega, P3.out.congr (fun j hj => powZ_first j), T3.out⟩
        case measure => simp [intOf] <;> omega
      · have hne : (((x : Nat) : Int) != 0) = true := by rw [bne_iff_ne]; omega
        have hq := expN_lt (p := p) (k := k) (x := x) h1
        rw [exV_exp hx0]
        have hq24 : ((expN p n k x : Nat) : Int) < 24 := by omega
        have HNX := Lib.hid (fun i => powZ_next (p := p) (n := n) (k := k) (W := (fun _ => 1)) hx0 i)
        generalize expN p n k x = q at *
        rintro e w3 ⟨rfl, b3⟩
        have P3 := Lib.hid (HPO.out.keep b3 HPO.out.size)
        have st3 := HST.out.keep b3
        have hz3 := b3.size
        obtain ⟨hwx1, hwx2⟩ := HWB.out x hlt
        have hpb := powZ_bd1 (p := p) (n := n) (k := k) (W := (fun _ => 1)) (by omega) HWB.out (show x ≤ p by omega) q
        have hck := (P3.out.known (by omega)).2.2.2.1 q (by omega)
        have hfr := (P3.out.known (by omega)).2.2.2.2 rfl q
        rw [Nat.zero_add] at hck
        have hws : IntKind.i64.wrap (powZ p n k (fun _ => 1) x q + 1) = powZ p n k (fun _ => 1) x q + 1 := IntWalk.i64_in _ (by omega)
        have HIN := Lib.hid (show inR (powZ p n k (fun _ => 1) x q + 1) by unfold inR; omega)
        clear b3 bx by_ sl HPO HST
        generalize hpq : powZ p n k (fun _ => 1) x q = pq at *
        have HPQ := Lib.hid hpq
        clear hpq
        go_wp2_with fail
        go_region_law (first
          | (go_simp; (go_at_call 218; refine (sumOne_any _ _).mono ?_; rintro e w8 ⟨rfl, rfl⟩)))
        all_goals
          go_wp2
          go_roundw
          case rel =>
            refine ⟨x + 1, by omega, by go_num, by simp; omega, ?_, ?_⟩
            · have h := (P3.out.store0 (i := q) (by omega) HIN.out).drew
              refine h.congr (fun j hj => ?_)
              rw [HNX.out j]
              by_cases e : j = q
              · subst e; rw [if_pos rfl, if_pos rfl, HPQ.out]
              · rw [if_neg e, if_neg e]
            · exact (st3.write (lo := w.heap.size + 1 + 1) (hi := w.heap.size + 1 + 1 + 1) ((Frame.refl _ _ w3).setCell (by simp) (by simp) _) (by omega) (by intro b hb; simp only [List.mem_cons, List.not_mem_nil, or_false] at hb; rcases hb with rfl | rfl | rfl | rfl <;> dsimp only <;> omega) (by intro s hs'; simp only [List.mem_cons, List.not_mem_nil, or_false] at hs'; rcases hs' with rfl <;> dsimp only <;> omega)).drew
          case measure => simp [intOf] <;> omega
    · obtain rfl : p = x := by omega
      obtain ⟨c0, c1, c2⟩ := (hst.box 3 (w.heap.size, [.int .i64 (p : Int), .int .i64 (n : Int), .int .i64 (k : Int)]) rfl).cell3
      have HS := Lib.hid (fun j (hj : j < phiN n) => pow_red (p := p) (n := n) (k := k) (x := p) (W := (fun _ => 1)) (P := powZ p n k (fun _ => 1) p) (B := 1000000) (by omega) h1 (by omega) (by omega) (by omega) HWB.out (fun i _ => rfl) hj)
      have HWI := Lib.hid (show Within (cut (phiN n) (redP n (powZ p n k (fun _ => 1) p))) 12 1000000000 from (cut_within hphi).2 (fun j hj => by have := sum_within (p := p) (n := n) (k := k) (x := p) (W := (fun _ => 1)) (B := 1000000) (by omega) h1 (by omega) (by omega) (by omega) HWB.out hj; rw [HS.out j hj]; omega))
      have HPO := Lib.hid hpo; clear hpo
      have HST := Lib.hid hst; clear hst
      have hlo : w.heap.size < w.heap.size + 1 + 1 := by omega
      go_wp2_with fail
      go_region_held3 (fun w' => w'.cell? ⟨w.heap.size, 1, none⟩ = some (.int .i64 (n : Int)))
        (first | exact c1 | exact cell_frame f6 c1 hlo | exact cell_later b7 (cell_frame f6 c1 hlo) | go_keep)
        (first
          | (go_at_call 200; refine (reducedParts_any n (by omega) (by omega) _ HPO.out.drew).mono ?_; rintro e w6 ⟨rfl, f6⟩)
          | (go_at_call 142; refine (cycloWithin_yes n (by omega) (by omega) _ HWI.out).mono ?_; rintro e w7 ⟨a7, k7, rfl, s7, b7⟩
             have st6 := HST.out.drew.write f6 (by omega) (by intro b hb; simp only [List.mem_cons, List.not_mem_nil, or_false] at hb; rcases hb with rfl | rfl | rfl | rfl <;> dsimp only <;> omega) (by intro s hs'; simp only [List.mem_cons, List.not_mem_nil, or_false] at hs'; rcases hs' with rfl <;> dsimp only <;> omega)
             have st7 := st6.keep b7
             obtain ⟨d0, d1⟩ := (st7.box 2 (w.heap.size + 1, [.int .i64 0, .slice none 0 0]) rfl).cell2
             have dz := (st7.box 2 (w.heap.size + 1, [.int .i64 0, .slice none 0 0]) rfl).2.2
             dsimp only at dz))
      all_goals
        have hz6 := f6.size
        have hz7 := b7.size
        simp only [World.size_drew] at hz6
        have BB := st7.1
        have S7 := Lib.hid s7
        clear f6 b7 s7 st6 st7
        go_wp2
        refine bodyPost_ret (v := .tuple #[.agg #[.int .i64 (n : Int), .slice a7 (phiN n) k7], .int .i64 0]) (by simp [results, Try.results171, go_sem, d0, d1]) rfl ?_
        refine ⟨_, _, rfl, ?_, by go_grown⟩
        exact (((S7.out.setOther (.inl (by show w.heap.size + 1 < _; omega)) _).setOther (.inl (by show w.heap.size + 1 < _; omega)) _).wide (by omega) (by simp) (Nat.le_refl _)).congr (fun j hj => by unfold cut; rw [if_pos hj, HS.out j hj])

set_option maxRecDepth 100000 in
set_option maxHeartbeats 4000000 in
theorem weightedSum_tab (p n k : Nat) (hp : primeN p = true) (h1 : 1 ≤ n) (h2 : n ≤ 16) (hk : k ≤ 16) (W : Nat → Int) (hW : ∀ y, y < p → -1000000 ≤ W y ∧ W y ≤ 1000000) (w : World) {o : Bool} {lo hi bt : Nat} {v : Value} (hbt : Box w bt [v]) (hs : Sl o w lo hi v p W) :
    Calls Try.prog 171 #[.agg #[.int .i64 (p : Int), .int .i64 (n : Int), .int .i64 (k : Int)], .func (.func 172) #[] #[.pointer (some ⟨bt, 0, none⟩)]] w fun e w' => ∃ a cap, e = .returned (.tuple #[.agg #[.int .i64 (n : Int), .slice a (phiN n) cap], .int .i64 0]) ∧ Sl true w' w.heap.size w'.heap.size (.slice a (phiN n) cap) (phiN n) (sumZ p n k W p) ∧ Below w.heap.size w w' := by
  have hb := primeN_bd hp
  have hphi := phi_le12 n (by omega) h1
  have HP := Lib.hid hp; clear hp
  have hbs := hbt.1
  have hss := hs.size
  have HWB := Lib.hid hW
  have st0 := ((((St.start w).addSl ⟨o, lo, hi, v, p, W⟩ hs).addBox bt [v] hbt).alloc (.cells #[.int .i64 (p : Int), .int .i64 (n : Int), .int .i64 (k : Int)] 38)).addBox w.heap.size [.int .i64 (p : Int), .int .i64 (n : Int), .int .i64 (k : Int)] (Box.made _ _ _ _ (fun j v h => by simpa using h))
  replace st0 := (st0.alloc (.cells #[.int .i64 0, .slice none 0 0] 28)).addBox _ [.int .i64 0, .slice none 0 0] (Box.made _ _ _ _ (fun j v h => by simpa using h))
  have q0 := Sl.made24 ((w.alloc (.cells #[.int .i64 (p : Int), .int .i64 (n : Int), .int .i64 (k : Int)] 38)).alloc (.cells #[.int .i64 0, .slice none 0 0] 28))
  simp only [World.size_alloc] at q0 st0
  replace st0 := (st0.alloc (.cells (madeCells #[.int .i64 0] 24) 2)).addSl ⟨true, w.heap.size + 1 + 1, w.heap.size + 1 + 1 + 1, .slice (some ⟨w.heap.size + 1 + 1, 0, none⟩) 24 24, 24, fun _ => 0⟩ q0
  clear q0 hbt hs
  obtain ⟨e0, e1, e2⟩ := (st0.box 1 (w.heap.size, [.int .i64 (p : Int), .int .i64 (n : Int), .int .i64 (k : Int)]) rfl).cell3
  have hmk := make24
  go_enter Try.func171, Try.ntmps171
  go_wp2_with fail
  refine (valuesOf_any p n k HP.out h1 h2 hk _).mono ?_
  rintro e w2 ⟨rfl, b2, hz2, bx, by_, sl⟩
  have st2 := st0.keep b2
  simp only [World.size_alloc] at hz2 bx by_ sl
  have P2 := Lib.hid ((st2.sl 0 ⟨true, w.heap.size + 1 + 1, w.heap.size + 1 + 1 + 1, .slice (some ⟨w.heap.size + 1 + 1, 0, none⟩) 24 24, 24, fun _ => 0⟩ rfl))
  have HT := Lib.hid (((St.tail st2).addBox _ _ bx).addBox _ _ by_ |>.addSl ⟨true, w.heap.size + 1 + 1 + 1 + 1, w.heap.size + 1 + 1 + 1 + 1 + 1, .slice (some ⟨w.heap.size + 1 + 1 + 1 + 1, 0, none⟩) p p, p, exV p n k⟩ sl)
  obtain ⟨f0, f1, f2⟩ := (st2.box 1 (w.heap.size, [.int .i64 (p : Int), .int .i64 (n : Int), .int .i64 (k : Int)]) rfl).cell3
  clear st0 st2 b2 bx by_ sl e0 e1 e2 hmk
  go_wp2
  go_loopw [16] (fun s16 wr => ∃ x : Nat, x ≤ p ∧ s16 = .int .i64 (x : Int) ∧ w2.heap.size ≤ wr.heap.size ∧ Sl true wr (w.heap.size + 1 + 1) (w.heap.size + 1 + 1 + 1) (.slice (some ⟨w.heap.size + 1 + 1, 0, none⟩) 24 24) 24 (powZ p n k W x) ∧ St w wr [(w.heap.size + 1 + 1 + 1 + 1 + 1, [.slice (some ⟨w.heap.size + 1 + 1 + 1 + 1, 0, none⟩) p p]), (w.heap.size + 1 + 1 + 1, [.int .i64 (p : Int), .int .i64 (n : Int), .int .i64 (k : Int)]), (w.heap.size + 1, [.int .i64 0, .slice none 0 0]), (w.heap.size, [.int .i64 (p : Int), .int .i64 (n : Int), .int .i64 (k : Int)]), (bt, [v])] [⟨true, w.heap.size + 1 + 1 + 1 + 1, w.heap.size + 1 + 1 + 1 + 1 + 1, .slice (some ⟨w.heap.size + 1 + 1 + 1 + 1, 0, none⟩) p p, p, exV p n k⟩, ⟨o, lo, hi, v, p, W⟩]) (fun s16 _ => p + 1 - (intOf s16).toNat)
  case atStart => exact ⟨0, by omega, rfl, Nat.le_refl _, P2.out.congr (fun j hj => rfl), HT.out⟩
  case round =>
    clear P2 HT f0 f1 f2
    obtain ⟨x, hx, rfl, hzr, hpo, hst⟩ := hrel
    by_cases hlt : x < p
    · have HRR := Lib.hid (restN_nat hlt)
      have bx := hst.box 1 (w.heap.size + 1 + 1 + 1, [.int .i64 (p : Int), .int .i64 (n : Int), .int .i64 (k : Int)]) rfl
      have by_ := hst.box 0 (w.heap.size + 1 + 1 + 1 + 1 + 1, [.slice (some ⟨w.heap.size + 1 + 1 + 1 + 1, 0, none⟩) p p]) rfl
      have sl := hst.sl 0 ⟨true, w.heap.size + 1 + 1 + 1 + 1, w.heap.size + 1 + 1 + 1 + 1 + 1, .slice (some ⟨w.heap.size + 1 + 1 + 1 + 1, 0, none⟩) p p, p, exV p n k⟩ rfl
      dsimp only at bx by_ sl
      have HPO := Lib.hid hpo; clear hpo
      have HST := Lib.hid hst; clear hst
      go_wp2_with fail
      refine (value_any p n k (x : Int) _ _ _ (by omega) hb.2 (by omega) (by omega) bx by_ sl).mono ?_
      rw [HRR.out]
      by_cases hx0 : x = 0
      · subst hx0
        rintro e w3 ⟨rfl, b3⟩
        have P3 := Lib.hid (HPO.out.keep b3 HPO.out.size)
        have T3 := Lib.hid (HST.out.keep b3)
        have hz3 := b3.size
        clear b3 bx by_ sl HPO HST
        go_wp2
        go_roundw
        case rel => exact ⟨1, by omega, by go_num, by omega, P3.out.congr (fun j hj => powZ_first j), T3.out⟩
        case measure => simp [intOf] <;> omega
      · have hne : (((x : Nat) : Int) != 0) = true := by rw [bne_iff_ne]; omega
        have hq := expN_lt (p := p) (k := k) (x := x) h1
        rw [exV_exp hx0]
        have hq24 : ((expN p n k x : Nat) : Int) < 24 := by omega
        have HNX := Lib.hid (fun i => powZ_next (p := p) (n := n) (k := k) (W := W) hx0 i)
        generalize expN p n k x = q at *
        rintro e w3 ⟨rfl, b3⟩
        have P3 := Lib.hid (HPO.out.keep b3 HPO.out.size)
        have st3 := HST.out.keep b3
        have hz3 := b3.size
        obtain ⟨hwx1, hwx2⟩ := HWB.out x hlt
        have hpb := powZ_bd1 (p := p) (n := n) (k := k) (W := W) (by omega) HWB.out (show x ≤ p by omega) q
        have hck := (P3.out.known (by omega)).2.2.2.1 q (by omega)
        have hfr := (P3.out.known (by omega)).2.2.2.2 rfl q
        rw [Nat.zero_add] at hck
        have hws : IntKind.i64.wrap (powZ p n k W x q + W x) = powZ p n k W x q + W x := IntWalk.i64_in _ (by omega)
        have HIN := Lib.hid (show inR (powZ p n k W x q + W x) by unfold inR; omega)
        clear b3 bx by_ sl HPO HST
        generalize hpq : powZ p n k W x q = pq at *
        have HPQ := Lib.hid hpq
        clear hpq
        go_wp2_with fail
        go_region_law (first
          | (go_simp; (go_at_call 172; refine (sumTab_any p x bt _ (by omega) hb.2 (st3.drew.box 4 (bt, [v]) rfl) (st3.drew.sl 1 ⟨o, lo, hi, v, p, W⟩ rfl)).mono ?_; rintro e w8 ⟨rfl, rfl⟩)))
        all_goals
          go_wp2
          go_roundw
          case rel =>
            refine ⟨x + 1, by omega, by go_num, by simp; omega, ?_, ?_⟩
            · have h := (P3.out.store0 (i := q) (by omega) HIN.out).drew
              refine h.congr (fun j hj => ?_)
              rw [HNX.out j]
              by_cases e : j = q
              · subst e; rw [if_pos rfl, if_pos rfl, HPQ.out]
              · rw [if_neg e, if_neg e]
            · exact (st3.write (lo := w.heap.size + 1 + 1) (hi := w.heap.size + 1 + 1 + 1) ((Frame.refl _ _ w3).setCell (by simp) (by simp) _) (by omega) (by intro b hb; simp only [List.mem_cons, List.not_mem_nil, or_false] at hb; rcases hb with rfl | rfl | rfl | rfl | rfl <;> dsimp only <;> omega) (by intro s hs'; simp only [List.mem_cons, List.not_mem_nil, or_false] at hs'; rcases hs' with rfl | rfl <;> dsimp only <;> omega)).drew
          case measure => simp [intOf] <;> omega
    · obtain rfl : p = x := by omega
      obtain ⟨c0, c1, c2⟩ := (hst.box 3 (w.heap.size, [.int .i64 (p : Int), .int .i64 (n : Int), .int .i64 (k : Int)]) rfl).cell3
      have HS := Lib.hid (fun j (hj : j < phiN n) => pow_red (p := p) (n := n) (k := k) (x := p) (W := W) (P := powZ p n k W p) (B := 1000000) (by omega) h1 (by omega) (by omega) (by omega) HWB.out (fun i _ => rfl) hj)
      have HWI := Lib.hid (show Within (cut (phiN n) (redP n (powZ p n k W p))) 12 1000000000 from (cut_within hphi).2 (fun j hj => by have := sum_within (p := p) (n := n) (k := k) (x := p) (W := W) (B := 1000000) (by omega) h1 (by omega) (by omega) (by omega) HWB.out hj; rw [HS.out j hj]; omega))
      have HPO := Lib.hid hpo; clear hpo
      have HST := Lib.hid hst; clear hst
      have hlo : w.heap.size < w.heap.size + 1 + 1 := by omega
      go_wp2_with fail
      go_region_held3 (fun w' => w'.cell? ⟨w.heap.size, 1, none⟩ = some (.int .i64 (n : Int)))
        (first | exact c1 | exact cell_frame f6 c1 hlo | exact cell_later b7 (cell_frame f6 c1 hlo) | go_keep)
        (first
          | (go_at_call 200; refine (reducedParts_any n (by omega) (by omega) _ HPO.out.drew).mono ?_; rintro e w6 ⟨rfl, f6⟩)
          | (go_at_call 142; refine (cycloWithin_yes n (by omega) (by omega) _ HWI.out).mono ?_; rintro e w7 ⟨a7, k7, rfl, s7, b7⟩
             have st6 := HST.out.drew.write f6 (by omega) (by intro b hb; simp only [List.mem_cons, List.not_mem_nil, or_false] at hb; rcases hb with rfl | rfl | rfl | rfl | rfl <;> dsimp only <;> omega) (by intro s hs'; simp only [List.mem_cons, List.not_mem_nil, or_false] at hs'; rcases hs' with rfl | rfl <;> dsimp only <;> omega)
             have st7 := st6.keep b7
             obtain ⟨d0, d1⟩ := (st7.box 2 (w.heap.size + 1, [.int .i64 0, .slice none 0 0]) rfl).cell2
             have dz := (st7.box 2 (w.heap.size + 1, [.int .i64 0, .slice none 0 0]) rfl).2.2
             dsimp only at dz))
      all_goals
        have hz6 := f6.size
        have hz7 := b7.size
        simp only [World.size_drew] at hz6
        have BB := st7.1
        have S7 := Lib.hid s7
        clear f6 b7 s7 st6 st7
        go_wp2
        refine bodyPost_ret (v := .tuple #[.agg #[.int .i64 (n : Int), .slice a7 (phiN n) k7], .int .i64 0]) (by simp [results, Try.results171, go_sem, d0, d1]) rfl ?_
        refine ⟨_, _, rfl, ?_, by go_grown⟩
        exact (((S7.out.setOther (.inl (by show w.heap.size + 1 < _; omega)) _).setOther (.inl (by show w.heap.size + 1 < _; omega)) _).wide (by omega) (by simp) (Nat.le_refl _)).congr (fun j hj => by unfold cut; rw [if_pos hj, HS.out j hj])
end

section
open Go.RowKit Go.ChangeShapes Go.Sort
set_option linter.unusedVariables false
set_option linter.unusedSimpArgs false

set_option maxRecDepth 100000 in
set_option maxHeartbeats 1000000 in
theorem sumOfValues_any (p n k : Nat) (hp : primeN p = true) (h1 : 1 ≤ n) (h2 : n ≤ 16) (hk : k ≤ 16) (w : World) :
    Calls Try.prog 163 #[.agg #[.int .i64 (p : Int), .int .i64 (n : Int), .int .i64 (k : Int)]] w fun e w' => ∃ a cap, e = .returned (.tuple #[.agg #[.int .i64 (n : Int), .slice a (phiN n) cap], .int .i64 0]) ∧ Sl true w' w.heap.size w'.heap.size (.slice a (phiN n) cap) (phiN n) (sumZ p n k (fun _ => 1) p) ∧ Below w.heap.size w w' := by
  have HP := Lib.hid hp; clear hp
  have st0 := (((St.start w).alloc (.cells #[.int .i64 (p : Int), .int .i64 (n : Int), .int .i64 (k : Int)] 38)).addBox w.heap.size [.int .i64 (p : Int), .int .i64 (n : Int), .int .i64 (k : Int)] (Box.made _ _ _ _ (fun j v h => by simpa using h)))
  replace st0 := (st0.alloc (.cells #[.int .i64 0, .slice none 0 0] 28)).addBox _ [.int .i64 0, .slice none 0 0] (Box.made _ _ _ _ (fun j v h => by simpa using h))
  simp only [World.size_alloc] at st0
  go_enter Try.func163, Try.ntmps163
  go_wp2_with fail
  refine (weightedSum_one p n k HP.out h1 h2 hk _).mono ?_
  rintro e w1 ⟨a1, k1, rfl, s1, b1⟩
  simp only [World.size_alloc] at s1
  have S1 := Lib.hid s1
  clear s1
  have st1 := st0.keep b1
  have hz1 := b1.size
  try simp only [World.size_alloc] at hz1
  clear st0 b1
  obtain ⟨d0, d1⟩ := (st1.box 0 (w.heap.size + 1, [.int .i64 0, .slice none 0 0]) rfl).cell2
  have dz := (st1.box 0 (w.heap.size + 1, [.int .i64 0, .slice none 0 0]) rfl).2.2
  have BB := st1.1
  dsimp only at dz
  go_wp2
  refine bodyPost_ret (v := .tuple #[.agg #[.int .i64 (n : Int), .slice a1 (phiN n) k1], .int .i64 0]) (by simp [results, Try.results163, go_sem, d0, d1]) rfl ?_
  refine ⟨_, _, rfl, ?_, by go_grown⟩
  exact ((S1.out.setOther (.inl (by show w.heap.size + 1 < _; omega)) _).setOther (.inl (by show w.heap.size + 1 < _; omega)) _).wide (by omega) (by simp) (Nat.le_refl _)

theorem SumOfCharacter_impl_bad (p n k : Int) (h : ¬ ChP p n k) (w : World) :
    Calls Try.prog 62 #[.agg #[.int .i64 p, .int .i64 n, .int .i64 k]] w fun e w' => e = .returned (failV 1) ∧ Below w.heap.size w w' := by
  have H := Lib.hid h; clear h
  have st0 := (((St.start w).alloc (.cells #[.int .i64 p, .int .i64 n, .int .i64 k] 38)).addBox w.heap.size [.int .i64 p, .int .i64 n, .int .i64 k] (Box.made _ _ _ _ (fun j v h => by simpa using h)))
  replace st0 := (st0.alloc (.cells #[.int .i64 0, .slice none 0 0] 28)).addBox _ [.int .i64 0, .slice none 0 0] (Box.made _ _ _ _ (fun j v h => by simpa using h))
  simp only [World.size_alloc] at st0
  go_enter Try.func62, Try.ntmps62
  go_wp2_with fail
  refine (IsCharacter_no p n k H.out _).mono ?_
  rintro e w1 ⟨rfl, b1⟩
  have st1 := st0.keep b1
  have hz1 := b1.size
  try simp only [World.size_alloc] at hz1
  clear st0 b1
  obtain ⟨d0, d1⟩ := (st1.box 0 (w.heap.size + 1, [.int .i64 0, .slice none 0 0]) rfl).cell2
  have dz := (st1.box 0 (w.heap.size + 1, [.int .i64 0, .slice none 0 0]) rfl).2.2
  have BB := st1.1
  dsimp only at dz
  go_wp2
  refine bodyPost_ret (v := failV 1) (by simp [results, Try.results62, go_sem, failV, d0, d1]) rfl ?_
  exact ⟨rfl, by go_grown⟩

theorem SumOfCharacter_spec_bad (p n k : Int) (h : ¬ ChP p n k) (w : World) :
    Calls Try.prog 67 #[.agg #[.int .i64 p, .int .i64 n, .int .i64 k]] w fun e w' => e = .returned (failV 1) ∧ Below w.heap.size w w' := by
  have H := Lib.hid h; clear h
  have st0 := (((St.start w).alloc (.cells #[.int .i64 p, .int .i64 n, .int .i64 k] 38)).addBox w.heap.size [.int .i64 p, .int .i64 n, .int .i64 k] (Box.made _ _ _ _ (fun j v h => by simpa using h)))
  replace st0 := (st0.alloc (.cells #[.int .i64 0, .slice none 0 0] 28)).addBox _ [.int .i64 0, .slice none 0 0] (Box.made _ _ _ _ (fun j v h => by simpa using h))
  simp only [World.size_alloc] at st0
  go_enter Try.func67, Try.ntmps67
  go_wp2_with fail
  refine (l03Is_no p n k H.out _).mono ?_
  rintro e w1 ⟨rfl, b1⟩
  have st1 := st0.keep b1
  have hz1 := b1.size
  try simp only [World.size_alloc] at hz1
  clear st0 b1
  obtain ⟨d0, d1⟩ := (st1.box 0 (w.heap.size + 1, [.int .i64 0, .slice none 0 0]) rfl).cell2
  have dz := (st1.box 0 (w.heap.size + 1, [.int .i64 0, .slice none 0 0]) rfl).2.2
  have BB := st1.1
  dsimp only at dz
  go_wp2
  refine bodyPost_ret (v := failV 1) (by simp [results, Try.results67, go_sem, failV, d0, d1]) rfl ?_
  exact ⟨rfl, by go_grown⟩

set_option maxRecDepth 100000 in
set_option maxHeartbeats 1000000 in
theorem SumOfCharacter_impl_ok (p n k : Nat) (hp : primeN p = true) (h1 : 1 ≤ n) (h2 : n ≤ 16) (hd : (p - 1) % n = 0) (hk : k < n) (w : World) :
    Calls Try.prog 62 #[.agg #[.int .i64 (p : Int), .int .i64 (n : Int), .int .i64 (k : Int)]] w fun e w' => ∃ a cap, e = .returned (.tuple #[.agg #[.int .i64 (n : Int), .slice a (phiN n) cap], .int .i64 0]) ∧ Sl true w' w.heap.size w'.heap.size (.slice a (phiN n) cap) (phiN n) (sumZ p n k (fun _ => 1) p) ∧ Below w.heap.size w w' := by
  have HP := Lib.hid hp
  have HD := Lib.hid hd
  clear hp hd
  have st0 := (((St.start w).alloc (.cells #[.int .i64 (p : Int), .int .i64 (n : Int), .int .i64 (k : Int)] 38)).addBox w.heap.size [.int .i64 (p : Int), .int .i64 (n : Int), .int .i64 (k : Int)] (Box.made _ _ _ _ (fun j v h => by simpa using h)))
  replace st0 := (st0.alloc (.cells #[.int .i64 0, .slice none 0 0] 28)).addBox _ [.int .i64 0, .slice none 0 0] (Box.made _ _ _ _ (fun j v h => by simpa using h))
  simp only [World.size_alloc] at st0
  go_enter Try.func62, Try.ntmps62
  go_wp2_with fail
  refine (IsCharacter_yes p n k HP.out h1 h2 HD.out hk _).mono ?_
  rintro e w1 ⟨rfl, b1⟩
  have st1 := st0.keep b1
  have hz1 := b1.size
  try simp only [World.size_alloc] at hz1
  clear st0 b1
  obtain ⟨e0, e1, e2⟩ := (st1.box 1 (w.heap.size, [.int .i64 (p : Int), .int .i64 (n : Int), .int .i64 (k : Int)]) rfl).cell3
  go_wp2_with fail
  refine (sumOfValues_any p n k HP.out h1 h2 (by omega) _).mono ?_
  rintro e w2 ⟨a2, k2, rfl, s2, b2⟩
  have S2 := Lib.hid s2
  clear s2 e0 e1 e2
  have st2 := st1.keep b2
  have hz2 := b2.size
  try simp only [World.size_alloc] at hz2
  clear st1 b2
  obtain ⟨d0, d1⟩ := (st2.box 0 (w.heap.size + 1, [.int .i64 0, .slice none 0 0]) rfl).cell2
  have dz := (st2.box 0 (w.heap.size + 1, [.int .i64 0, .slice none 0 0]) rfl).2.2
  have BB := st2.1
  dsimp only at dz
  go_wp2
  refine bodyPost_ret (v := .tuple #[.agg #[.int .i64 (n : Int), .slice a2 (phiN n) k2], .int .i64 0]) (by simp [results, Try.results62, go_sem, d0, d1]) rfl ?_
  refine ⟨_, _, rfl, ?_, by go_grown⟩
  exact ((S2.out.setOther (.inl (by show w.heap.size + 1 < _; omega)) _).setOther (.inl (by show w.heap.size + 1 < _; omega)) _).wide (by omega) (by simp) (Nat.le_refl _)

theorem sum_step {p n k x : Nat} {W : Nat → Int} (h0 : 1 ≤ x) (hx : x < p) (j : Nat) : addF (W x) (sumZ p n k W x) (atP p n k (x : Int)) j = sumZ p n k W (x + 1) j := by
  unfold addF
  rw [sumZ_succ h0, atP_some (by rw [restN_nat hx]; omega), restN_nat hx]
theorem sumZ_ok {p n k x : Nat} {W : Nat → Int} (hn : n < 17) (h1 : 1 ≤ n) (hx : x ≤ 61) (hW : ∀ y, y < x → -1000000 ≤ W y ∧ W y ≤ 1000000) : Within (sumZ p n k W x) (phiN n) 1000000000 := fun j hj => by
  have := sum_within (p := p) (k := k) (B := 1000000) hn h1 (by omega) (by omega) hx hW hj
  omega
set_option maxRecDepth 100000 in
set_option maxHeartbeats 4000000 in
theorem l03Sum_any (p n k : Nat) (hp : primeN p = true) (h1 : 1 ≤ n) (h2 : n ≤ 16) (hk : k ≤ 16) (w : World) :
    Calls Try.prog 174 #[.agg #[.int .i64 (p : Int), .int .i64 (n : Int), .int .i64 (k : Int)]] w fun e w' => ∃ a cap, e = .returned (.agg #[.int .i64 (n : Int), .slice a (phiN n) cap]) ∧ Sl true w' w.heap.size w'.heap.size (.slice a (phiN n) cap) (phiN n) (sumZ p n k (fun _ => 1) p) ∧ Below w.heap.size w w' := by
  have hb := primeN_bd hp
  have hphi := phi_le12 n (by omega) h1
  have HP := Lib.hid hp; clear hp
  have st0 := (((St.start w).alloc (.cells #[.int .i64 (p : Int), .int .i64 (n : Int), .int .i64 (k : Int)] 38)).addBox w.heap.size [.int .i64 (p : Int), .int .i64 (n : Int), .int .i64 (k : Int)] (Box.made _ _ _ _ (fun j v h => by simpa using h)))
  replace st0 := (st0.alloc (.cells #[.int .i64 0, .slice none 0 0] 28)).addBox _ [.int .i64 0, .slice none 0 0] (Box.made _ _ _ _ (fun j v h => by simpa using h))
  simp only [World.size_alloc] at st0
  obtain ⟨e0, e1, e2⟩ := (st0.box 1 (w.heap.size, [.int .i64 (p : Int), .int .i64 (n : Int), .int .i64 (k : Int)]) rfl).cell3
  go_enter Try.func174, Try.ntmps174
  go_wp2_with fail
  refine (l01Zero_any n (by omega) _).mono ?_
  rintro e w1 ⟨a1, k1, rfl, s1, b1⟩
  simp only [World.size_alloc] at s1
  clear e0 e1 e2
  have st1 := st0.keep b1
  have hz1 := b1.size
  try simp only [World.size_alloc] at hz1
  clear st0 b1
  have S1 := Lib.hid s1
  have HT := Lib.hid (st1.boxNew (.int .i64 (n : Int)) (.slice a1 (phiN n) k1) 28)
  clear st1 s1
  go_wp2
  go_loopw [4] (fun s4 wr => ∃ (x : Nat) (a : Option Addr) (cap lo hi : Nat), 1 ≤ x ∧ x ≤ p ∧ s4 = .int .i64 (x : Int) ∧ w1.heap.size < wr.heap.size ∧ w.heap.size + 1 + 1 ≤ lo ∧ (w1.heap.size < lo ∨ hi ≤ w1.heap.size) ∧ Sl true wr lo hi (.slice a (phiN n) cap) (phiN n) (sumZ p n k (fun _ => 1) x) ∧
      St w wr [(w1.heap.size, [.int .i64 (n : Int), .slice a (phiN n) cap]), (w.heap.size + 1, [.int .i64 0, .slice none 0 0]), (w.heap.size, [.int .i64 (p : Int), .int .i64 (n : Int), .int .i64 (k : Int)])] []) (fun s4 _ => p + 1 - (intOf s4).toNat)
  case atStart => exact ⟨1, a1, k1, w.heap.size + 1 + 1, w1.heap.size, by omega, by omega, rfl, by simp, by omega, .inr (Nat.le_refl _), (S1.out.alloc _).congr (fun j hj => by rw [sumZ_one]), HT.out⟩
  case round =>
    clear S1 HT
    obtain ⟨x, a, cap, lo, hi, hx1, hx, rfl, hzr, hlo, hdis, hsl, hst⟩ := hrel
    obtain ⟨o0, o1⟩ := (hst.box 0 (w1.heap.size, [.int .i64 (n : Int), .slice a (phiN n) cap]) rfl).cell2
    obtain ⟨c0, c1, c2⟩ := (hst.box 2 (w.heap.size, [.int .i64 (p : Int), .int .i64 (n : Int), .int .i64 (k : Int)]) rfl).cell3
    by_cases hlt : x < p
    · have HSL := Lib.hid hsl
      have HST := Lib.hid hst
      have HSS := Lib.hid (fun j => sum_step (p := p) (n := n) (k := k) (W := (fun _ => 1)) hx1 hlt j)
      have HWI := Lib.hid (sumZ_ok (p := p) (n := n) (k := k) (x := x) (W := (fun _ => 1)) (by omega) h1 (by omega) (fun y _ => by omega))
      clear hsl hst
      go_wp2_with fail
      go_region_law (first
        | (go_simp; go_at_call 157; refine (l03At_any p n k (x : Int) HP.out h1 h2 hk (by omega) (by omega) _).mono ?_; rintro e w6 ⟨a6, k6, rfl, s6, b6⟩
           have hz6 := b6.size
           simp only [World.size_drew] at hz6 s6
           have st6 := HST.out.drew.keep b6
           have sl6 := HSL.out.drew.keep b6 HSL.out.drew.size
           obtain ⟨y0, y1⟩ := (st6.box 0 (w1.heap.size, [.int .i64 (n : Int), .slice a (phiN n) cap]) rfl).cell2
           obtain ⟨z0, z1, z2⟩ := (st6.box 2 (w.heap.size, [.int .i64 (p : Int), .int .i64 (n : Int), .int .i64 (k : Int)]) rfl).cell3)
        | (go_simp; go_at_call 167; refine (l01Plus_any (n : Int) 1 _ sl6 s6 (by omega) (by omega) HWI.out (atP_within (by omega) h1) (by omega)).mono ?_; rintro e w7 ⟨a7, k7, rfl, s7, b7⟩
           have hz7 := b7.size
           have st7 := st6.keep b7
           obtain ⟨r0, r1⟩ := (st7.box 0 (w1.heap.size, [.int .i64 (n : Int), .slice a (phiN n) cap]) rfl).cell2
           have rz := (st7.box 0 (w1.heap.size, [.int .i64 (n : Int), .slice a (phiN n) cap]) rfl).2.2
           dsimp only at rz))
      all_goals
        have S7 := Lib.hid s7
        have T7 := Lib.hid (st7.boxSet (u0 := .int .i64 (n : Int)) (u1 := .slice a7 (phiN n) k7) (by omega) (by intro b hb; simp only [List.mem_cons, List.not_mem_nil, or_false] at hb; rcases hb with rfl | rfl <;> dsimp only <;> omega) (by intro s hs'; cases hs'))
        clear st6 st7 sl6 s6 s7 b6 b7
        go_wp2
        go_roundw
        case rel => exact ⟨x + 1, a7, k7, w6.heap.size, w7.heap.size, by omega, by omega, by go_num, by simp; omega, by omega, .inl (by omega), ((S7.out.setOther (.inl (by show w1.heap.size < _; omega)) _).setOther (.inl (by show w1.heap.size < _; omega)) _).congr (fun j hj => (HSS.out j).symm), T7.out⟩
        case measure => simp [intOf] <;> omega
    · obtain rfl : p = x := by omega
      obtain ⟨d0, d1⟩ := (hst.box 1 (w.heap.size + 1, [.int .i64 0, .slice none 0 0]) rfl).cell2
      have dz := (hst.box 1 (w.heap.size + 1, [.int .i64 0, .slice none 0 0]) rfl).2.2
      have BB := hst.1
      have HSL := Lib.hid hsl
      dsimp only at dz
      clear hst hsl
      go_wp2
      refine bodyPost_ret (v := .agg #[.int .i64 (n : Int), .slice a (phiN n) cap]) (by simp [results, Try.results174, go_sem, d0, d1]) rfl ?_
      refine ⟨_, _, rfl, ?_, by go_grown⟩
      have := HSL.out.size
      exact ((HSL.out.setOther (.inl (by show w.heap.size + 1 < _; omega)) _).setOther (.inl (by show w.heap.size + 1 < _; omega)) _).wide (by omega) (by simp; omega) (Nat.le_refl _)

set_option maxRecDepth 100000 in
set_option maxHeartbeats 1000000 in
theorem SumOfCharacter_spec_ok (p n k : Nat) (hp : primeN p = true) (h1 : 1 ≤ n) (h2 : n ≤ 16) (hd : (p - 1) % n = 0) (hk : k < n) (w : World) :
    Calls Try.prog 67 #[.agg #[.int .i64 (p : Int), .int .i64 (n : Int), .int .i64 (k : Int)]] w fun e w' => ∃ a cap, e = .returned (.tuple #[.agg #[.int .i64 (n : Int), .slice a (phiN n) cap], .int .i64 0]) ∧ Sl true w' w.heap.size w'.heap.size (.slice a (phiN n) cap) (phiN n) (sumZ p n k (fun _ => 1) p) ∧ Below w.heap.size w w' := by
  have HP := Lib.hid hp
  have HD := Lib.hid hd
  clear hp hd
  have st0 := (((St.start w).alloc (.cells #[.int .i64 (p : Int), .int .i64 (n : Int), .int .i64 (k : Int)] 38)).addBox w.heap.size [.int .i64 (p : Int), .int .i64 (n : Int), .int .i64 (k : Int)] (Box.made _ _ _ _ (fun j v h => by simpa using h)))
  replace st0 := (st0.alloc (.cells #[.int .i64 0, .slice none 0 0] 28)).addBox _ [.int .i64 0, .slice none 0 0] (Box.made _ _ _ _ (fun j v h => by simpa using h))
  simp only [World.size_alloc] at st0
  go_enter Try.func67, Try.ntmps67
  go_wp2_with fail
  refine (l03Is_yes p n k HP.out h1 h2 HD.out hk _).mono ?_
  rintro e w1 ⟨rfl, b1⟩
  have st1 := st0.keep b1
  have hz1 := b1.size
  try simp only [World.size_alloc] at hz1
  clear st0 b1
  obtain ⟨e0, e1, e2⟩ := (st1.box 1 (w.heap.size, [.int .i64 (p : Int), .int .i64 (n : Int), .int .i64 (k : Int)]) rfl).cell3
  go_wp2_with fail
  refine (l03Sum_any p n k HP.out h1 h2 (by omega) _).mono ?_
  rintro e w2 ⟨a2, k2, rfl, s2, b2⟩
  have S2 := Lib.hid s2
  clear s2 e0 e1 e2
  have st2 := st1.keep b2
  have hz2 := b2.size
  try simp only [World.size_alloc] at hz2
  clear st1 b2
  obtain ⟨d0, d1⟩ := (st2.box 0 (w.heap.size + 1, [.int .i64 0, .slice none 0 0]) rfl).cell2
  have dz := (st2.box 0 (w.heap.size + 1, [.int .i64 0, .slice none 0 0]) rfl).2.2
  have BB := st2.1
  dsimp only at dz
  go_wp2
  refine bodyPost_ret (v := .tuple #[.agg #[.int .i64 (n : Int), .slice a2 (phiN n) k2], .int .i64 0]) (by simp [results, Try.results67, go_sem, d0, d1]) rfl ?_
  refine ⟨_, _, rfl, ?_, by go_grown⟩
  exact ((S2.out.setOther (.inl (by show w.heap.size + 1 < _; omega)) _).setOther (.inl (by show w.heap.size + 1 < _; omega)) _).wide (by omega) (by simp) (Nat.le_refl _)
end

section
open Go.RowKit Go.ChangeShapes Go.Sort
set_option linter.unusedVariables false
set_option linter.unusedSimpArgs false
section
variable {o o' : Bool} {lo hi lo' hi' L : Nat} {v v' : Value} {f g : Nat → Int}
set_option maxRecDepth 100000 in
set_option maxHeartbeats 1000000 in
theorem l01Plus_gen (x k : Int) (w : World) (hs : Sl o w lo hi v L f) (ht : Sl o' w lo' hi' v' L g) (hf : Within f L 1000000000) (hg : ∀ q, q < L → -1000000000000 ≤ k * g q ∧ k * g q ≤ 1000000000000) (hL : L ≤ 24) :
    Calls Try.prog 167 #[.agg #[.int .i64 x, v], .agg #[.int .i64 x, v'], .int .i64 k] w fun e w' => ∃ a' cap', e = .returned (.agg #[.int .i64 x, .slice a' L cap']) ∧ Sl true w' w.heap.size w'.heap.size (.slice a' L cap') L (addF k f g) ∧ Below w.heap.size w w' := by
  have hhs := hs.size
  have hht := ht.size
  obtain ⟨a, cap, rfl⟩ := hs.shape
  obtain ⟨a', cap', rfl⟩ := ht.shape
  have st0 := (((((St.start w).addSl ⟨o, lo, hi, .slice a L cap, L, f⟩ hs).addSl ⟨o', lo', hi', .slice a' L cap', L, g⟩ ht).alloc (.cells #[.int .i64 x, .slice a L cap] 28)).addBox w.heap.size [.int .i64 x, .slice a L cap] (Box.made _ _ _ _ (fun j v h => by simpa using h)))
  replace st0 := (st0.alloc (.cells #[.int .i64 x, .slice a' L cap'] 28)).addBox _ [.int .i64 x, .slice a' L cap'] (Box.made _ _ _ _ (fun j v h => by simpa using h))
  replace st0 := (st0.alloc (.cells #[.int .i64 0, .slice none 0 0] 28)).addBox _ [.int .i64 0, .slice none 0 0] (Box.made _ _ _ _ (fun j v h => by simpa using h))
  simp only [World.size_alloc] at st0
  clear hs ht
  have HF := Lib.hid hf
  have HG := Lib.hid hg
  clear hf hg
  obtain ⟨x0, x1⟩ := (st0.box 2 (w.heap.size, [.int .i64 x, .slice a L cap]) rfl).cell2
  go_enter Try.func167, Try.ntmps167
  go_wp2
  go_cut [7] (fun s7 wx => ∃ b lo1 hi1 a1 k1, s7 = .pointer (some ⟨b, 0, none⟩) ∧ Sl true wx lo1 hi1 (.slice a1 L k1) L f ∧ (b < lo1 ∨ hi1 ≤ b) ∧ w.heap.size + 1 + 1 + 1 ≤ lo1 ∧ w.heap.size + 1 + 1 + 1 ≤ b ∧ b < wx.heap.size ∧
    St w wx ((b, [.int .i64 x, .slice a1 L k1]) :: [(w.heap.size + 1 + 1, [.int .i64 0, .slice none 0 0]), (w.heap.size + 1, [.int .i64 x, .slice a' L cap']), (w.heap.size, [.int .i64 x, .slice a L cap])]) [⟨o', lo', hi', .slice a' L cap', L, g⟩, ⟨o, lo, hi, .slice a L cap, L, f⟩])
  case first =>
    go_region_held3 (fun w' => w'.cell? ⟨w.heap.size, 0, none⟩ = some (.int .i64 x) ∧ w'.cell? ⟨w.heap.size, 1, none⟩ = some (.slice a L cap))
      (first | exact ⟨x0, x1⟩ | exact ⟨cell_later b6 x0, cell_later b6 x1⟩ | exact ⟨cell_later ((Below.refl _ _).alloc (Nat.le_refl _) _) (cell_later b6 x0), cell_later ((Below.refl _ _).alloc (Nat.le_refl _) _) (cell_later b6 x1)⟩ | exact ⟨cell_later ((Below.refl _ _).alloc (Nat.le_refl _) _) x0, cell_later ((Below.refl _ _).alloc (Nat.le_refl _) _) x1⟩ | exact ⟨cell_later b6 (cell_later (((Below.refl _ _).alloc (Nat.le_refl _) _).drew) x0), cell_later b6 (cell_later (((Below.refl _ _).alloc (Nat.le_refl _) _).drew) x1)⟩ | exact ⟨cell_set2 (cell_later b6 (cell_later (((Below.refl _ _).alloc (Nat.le_refl _) _).drew) x0)) (by omega), cell_set2 (cell_later b6 (cell_later (((Below.refl _ _).alloc (Nat.le_refl _) _).drew) x1)) (by omega)⟩ | go_keep)
      (first
        | (go_at_call 220; refine (l01Own_any _ (by first | exact st0.drew.sl 1 ⟨o, lo, hi, .slice a L cap, L, f⟩ rfl | exact ((st0.alloc _).drew).sl 1 ⟨o, lo, hi, .slice a L cap, L, f⟩ rfl) (Nat.le_trans hL (by decide))).mono ?_; rintro e w6 ⟨a6, k6, rfl, s6, b6⟩
           try (have stb := ((st0.alloc (.cells #[.int .i64 0, .slice none 0 0] 28)).addBox _ [.int .i64 0, .slice none 0 0] (Box.made _ _ _ _ (fun j v h => by simpa using h))).drew.keep b6
                obtain ⟨o0, o1⟩ := (stb.box 0 _ rfl).cell2
                have oz := (stb.box 0 _ rfl).2.2
                dsimp only at oz
                simp only [World.size_alloc] at o0 o1 oz)))
    all_goals
      go_wp2_with fail
      go_meet
      have hz6 := b6.size
      simp only [World.size_drew, World.size_alloc] at hz6 s6
      first
        | exact ⟨w6.heap.size, _, _, a6, k6, rfl, s6.alloc _, .inr (Nat.le_refl _), Nat.le_refl _, by omega, by simp, (st0.drew.keep b6).boxNew _ _ _⟩
        | (have stb := ((st0.boxNew (.int .i64 0) (.slice none 0 0) 28).drew.keep b6).boxSet (u0 := .int .i64 x) (u1 := .slice a6 L k6) (by simp only [World.size_alloc]; omega)
             (by simp only [World.size_alloc]; intro b hb; simp only [List.mem_cons, List.not_mem_nil, or_false] at hb; rcases hb with rfl | rfl | rfl <;> dsimp only <;> omega)
             (by simp only [World.size_alloc]; intro s hs'; simp only [List.mem_cons, List.not_mem_nil, or_false] at hs'; rcases hs' with rfl | rfl <;> dsimp only <;> omega)
           simp only [World.size_alloc] at stb
           exact ⟨_, _, _, a6, k6, rfl, (s6.setOther (.inl (Nat.lt_succ_self _)) _).setOther (.inl (Nat.lt_succ_self _)) _, .inl (Nat.lt_succ_self _), by omega, Nat.le_refl _, by simp only [World.size_setCell]; omega, stb⟩)
  case rest =>
    obtain ⟨b, lo1, hi1, a1, k1, rfl, hown, hd, hb1, hb2, hb3, hst⟩ := hcut
    have HO0 := Lib.hid hown
    have HT0 := Lib.hid hst
    clear hown hst x0 x1 st0
    go_wp2
    go_loopw [8] (fun s8 wr => ∃ q : Nat, q ≤ L ∧ s8 = .int .i64 q ∧ Sl true wr lo1 hi1 (.slice a1 L k1) L (addQ k f g q) ∧
      St w wr ((b, [.int .i64 x, .slice a1 L k1]) :: [(w.heap.size + 1 + 1, [.int .i64 0, .slice none 0 0]), (w.heap.size + 1, [.int .i64 x, .slice a' L cap']), (w.heap.size, [.int .i64 x, .slice a L cap])]) [⟨o', lo', hi', .slice a' L cap', L, g⟩, ⟨o, lo, hi, .slice a L cap, L, f⟩]) (fun s8 _ => L - (intOf s8).toNat)
    case atStart => exact ⟨0, Nat.zero_le _, rfl, HO0.out, HT0.out⟩
    case round =>
      clear HO0 HT0
      obtain ⟨q, hq, rfl, hown, hst⟩ := hrel
      have HO := Lib.hid hown; clear hown
      have HT := Lib.hid hst; clear hst
      obtain ⟨y0, y1⟩ := (HT.out.box 2 (w.heap.size + 1, [.int .i64 x, .slice a' L cap']) rfl).cell2
      obtain ⟨p0, p1⟩ := (HT.out.box 0 (b, [.int .i64 x, .slice a1 L k1]) rfl).cell2
      have hz := HO.out.size
      by_cases hlt : q < L
      · have qa := HT.out.sl 0 ⟨o', lo', hi', .slice a' L cap', L, g⟩ rfl
        dsimp only at qa
        obtain ⟨bb, off, c1, hv, _, _, _, _, hc, _⟩ := qa.at (by omega)
        obtain ⟨rfl, rfl⟩ : a' = some ⟨bb, off, none⟩ ∧ cap' = c1 := by cases hv; exact ⟨rfl, rfl⟩
        have hck := hc q hlt
        obtain ⟨hm1, hm2⟩ := HG.out q hlt
        obtain ⟨hf1, hf2⟩ := HF.out q hlt
        clear hv hc qa
        have HW2 := Lib.hid (addQ_succ k f g q)
        obtain ⟨b2, off2, c2, hv2, _⟩ := HO.out.at (by omega)
        obtain ⟨rfl, rfl⟩ : a1 = some ⟨b2, off2, none⟩ ∧ k1 = c2 := by cases hv2; exact ⟨rfl, rfl⟩
        clear hv2
        obtain ⟨hbl, hbh, _, hc2, hfz⟩ := HO.out.known (by omega)
        have hck2 := hc2 q hlt
        rw [show addQ k f g q q = f q from by unfold addQ; rw [if_neg (Nat.lt_irrefl _)]] at hck2
        have hfr := hfz rfl (off2 + q)
        clear hc2 hfz
        have hlt3 : (q : Int) < L := by omega
        have hwm : IntKind.i64.wrap (k * g q) = k * g q := IntWalk.i64_in _ (by omega)
        have hws : IntKind.i64.wrap (f q + k * g q) = f q + k * g q := IntWalk.i64_in _ (by omega)
        go_wp2
        go_region
        all_goals
          go_wp2
          go_roundw
          case rel =>
            refine ⟨q + 1, by omega, by go_num, ?_, ?_⟩
            · rw [HW2.out]
              refine ((HO.out.store (i := q) (by omega) (by unfold inR; omega))).drew.congr (fun j hj => ?_)
              by_cases e : j = q
              · subst e; simp
              · simp [e]
            · exact (HT.out.write (lo := lo1) (hi := hi1) ((Frame.refl lo1 hi1 wr).setCell hbl hbh _) (by omega) (by intro b hb; simp only [List.mem_cons, List.not_mem_nil, or_false] at hb; rcases hb with rfl | rfl | rfl | rfl <;> dsimp only <;> omega) (by intro s hs'; simp only [List.mem_cons, List.not_mem_nil, or_false] at hs'; rcases hs' with rfl | rfl <;> dsimp only <;> omega)).drew
          case measure => simp [intOf] <;> omega
      · obtain rfl : q = L := by omega
        obtain ⟨d0, d1⟩ := (HT.out.box 1 (w.heap.size + 1 + 1, [.int .i64 0, .slice none 0 0]) rfl).cell2
        have dz := (HT.out.box 1 (w.heap.size + 1 + 1, [.int .i64 0, .slice none 0 0]) rfl).2.2
        have BB := HT.out.1
        dsimp only at dz
        go_wp2
        refine bodyPost_ret (v := .agg #[.int .i64 x, .slice a1 q k1]) (by simp [results, Try.results167, go_sem, d0, d1]) rfl ?_
        refine ⟨_, _, rfl, ?_, by go_grown⟩
        exact (((HO.out.setOther (.inl (by show w.heap.size + 1 + 1 < _; omega)) _).setOther (.inl (by show w.heap.size + 1 + 1 < _; omega)) _).wide (by omega) (by simp; omega) (Nat.le_refl _)).congr (fun j hj => by unfold addQ; rw [if_pos hj])
end
end

section
open Go.RowKit Go.ChangeShapes Go.Sort
set_option linter.unusedVariables false
set_option linter.unusedSimpArgs false
theorem tab_far {g : Nat → Int} {L : Nat} (h : ¬ Within g L 1000000) : ∃ q, q < L ∧ (g q < -1000000 ∨ 1000000 < g q) := by
  refine Classical.byContradiction (fun hc => h (fun j hj => ?_))
  rcases Int.lt_or_le (g j) (-1000000) with h1 | h1
  · exact absurd ⟨j, hj, .inl h1⟩ hc
  · rcases Int.lt_or_le 1000000 (g j) with h2 | h2
    · exact absurd ⟨j, hj, .inr h2⟩ hc
    · exact ⟨h1, h2⟩

theorem SumWith_impl_bad (p n k : Int) (h : ¬ ChP p n k) (w : World) {o : Bool} {lo hi L : Nat} {v : Value} {g : Nat → Int} (hs : Sl o w lo hi v L g) :
    Calls Try.prog 60 #[v, .agg #[.int .i64 p, .int .i64 n, .int .i64 k]] w fun e w' => e = .returned (failV 1) ∧ Below w.heap.size w w' := by
  have H := Lib.hid h; clear h
  obtain ⟨av, cap, rfl⟩ := hs.shape
  have hhs := hs.size
  have st0 := (St.start w).addSl ⟨o, lo, hi, .slice av L cap, L, g⟩ hs
  replace st0 := (st0.alloc (.cells #[.slice av L cap] 22)).addBox _ [.slice av L cap] (Box.made _ _ _ _ (fun j v h => by simpa using h))
  replace st0 := (st0.alloc (.cells #[.int .i64 p, .int .i64 n, .int .i64 k] 38)).addBox _ [.int .i64 p, .int .i64 n, .int .i64 k] (Box.made _ _ _ _ (fun j v h => by simpa using h))
  replace st0 := (st0.alloc (.cells #[.int .i64 0, .slice none 0 0] 28)).addBox _ [.int .i64 0, .slice none 0 0] (Box.made _ _ _ _ (fun j v h => by simpa using h))
  simp only [World.size_alloc] at st0
  clear hs
  go_enter Try.func60, Try.ntmps60
  go_wp2_with fail
  refine (IsCharacter_no p n k H.out _).mono ?_
  rintro e w1 ⟨rfl, b1⟩
  have st1 := st0.keep b1
  have hz1 := b1.size
  try simp only [World.size_alloc] at hz1
  clear st0 b1
  obtain ⟨d0, d1⟩ := (st1.box 0 (w.heap.size + 1 + 1, [.int .i64 0, .slice none 0 0]) rfl).cell2
  have dz := (st1.box 0 (w.heap.size + 1 + 1, [.int .i64 0, .slice none 0 0]) rfl).2.2
  have BB := st1.1
  dsimp only at dz
  go_wp2
  refine bodyPost_ret (v := failV 1) (by simp [results, Try.results60, go_sem, failV, d0, d1]) rfl ?_
  exact ⟨rfl, by go_grown⟩

theorem SumWith_spec_bad (p n k : Int) (h : ¬ ChP p n k) (w : World) {o : Bool} {lo hi L : Nat} {v : Value} {g : Nat → Int} (hs : Sl o w lo hi v L g) :
    Calls Try.prog 61 #[v, .agg #[.int .i64 p, .int .i64 n, .int .i64 k]] w fun e w' => e = .returned (failV 1) ∧ Below w.heap.size w w' := by
  have H := Lib.hid h; clear h
  obtain ⟨av, cap, rfl⟩ := hs.shape
  have hhs := hs.size
  have st0 := (St.start w).addSl ⟨o, lo, hi, .slice av L cap, L, g⟩ hs
  replace st0 := (st0.alloc (.cells #[.int .i64 p, .int .i64 n, .int .i64 k] 38)).addBox _ [.int .i64 p, .int .i64 n, .int .i64 k] (Box.made _ _ _ _ (fun j v h => by simpa using h))
  replace st0 := (st0.alloc (.cells #[.int .i64 0, .slice none 0 0] 28)).addBox _ [.int .i64 0, .slice none 0 0] (Box.made _ _ _ _ (fun j v h => by simpa using h))
  simp only [World.size_alloc] at st0
  clear hs
  go_enter Try.func61, Try.ntmps61
  go_wp2_with fail
  refine (l03Is_no p n k H.out _).mono ?_
  rintro e w1 ⟨rfl, b1⟩
  have st1 := st0.keep b1
  have hz1 := b1.size
  try simp only [World.size_alloc] at hz1
  clear st0 b1
  obtain ⟨d0, d1⟩ := (st1.box 0 (w.heap.size + 1, [.int .i64 0, .slice none 0 0]) rfl).cell2
  have dz := (st1.box 0 (w.heap.size + 1, [.int .i64 0, .slice none 0 0]) rfl).2.2
  have BB := st1.1
  dsimp only at dz
  go_wp2
  refine bodyPost_ret (v := failV 1) (by simp [results, Try.results61, go_sem, failV, d0, d1]) rfl ?_
  exact ⟨rfl, by go_grown⟩

set_option maxHeartbeats 1000000 in
theorem SumWith_impl_out (p n k : Nat) (hp : primeN p = true) (h1 : 1 ≤ n) (h2 : n ≤ 16) (hd : (p - 1) % n = 0) (hk : k < n) (w : World) {o : Bool} {lo hi L : Nat} {v : Value} {g : Nat → Int} (hs : Sl o w lo hi v L g) (ht : ¬ (L = p ∧ Within g L 1000000)) :
    Calls Try.prog 60 #[v, .agg #[.int .i64 (p : Int), .int .i64 (n : Int), .int .i64 (k : Int)]] w fun e w' => e = .returned (failV 2) ∧ Below w.heap.size w w' := by
  by_cases hl : L = p
  · have HW := Lib.hid (fun h => ht ⟨hl, h⟩)
    subst hl
    clear ht
    have hb := primeN_bd hp
    have HP := Lib.hid hp
    have HD := Lib.hid hd
    clear hp hd
    have hm := hs.len
    unfold maxLen at hm
    obtain ⟨av, cap, rfl⟩ := hs.shape
    have hhs := hs.size
    have st0 := (St.start w).addSl ⟨o, lo, hi, .slice av L cap, L, g⟩ hs
    replace st0 := (st0.alloc (.cells #[.slice av L cap] 22)).addBox _ [.slice av L cap] (Box.made _ _ _ _ (fun j v h => by simpa using h))
    replace st0 := (st0.alloc (.cells #[.int .i64 (L : Int), .int .i64 (n : Int), .int .i64 (k : Int)] 38)).addBox _ [.int .i64 (L : Int), .int .i64 (n : Int), .int .i64 (k : Int)] (Box.made _ _ _ _ (fun j v h => by simpa using h))
    replace st0 := (st0.alloc (.cells #[.int .i64 0, .slice none 0 0] 28)).addBox _ [.int .i64 0, .slice none 0 0] (Box.made _ _ _ _ (fun j v h => by simpa using h))
    simp only [World.size_alloc] at st0
    clear hs
    go_enter Try.func60, Try.ntmps60
    go_wp2_with fail
    refine (IsCharacter_yes L n k HP.out h1 h2 HD.out hk _).mono ?_
    rintro e w1 ⟨rfl, b1⟩
    have st1 := st0.keep b1
    have hz1 := b1.size
    try simp only [World.size_alloc] at hz1
    clear st0 b1
    obtain ⟨e0, e1, e2⟩ := (st1.box 1 (w.heap.size + 1, [.int .i64 (L : Int), .int .i64 (n : Int), .int .i64 (k : Int)]) rfl).cell3
    have t0 := (st1.box 2 (w.heap.size, [.slice av L cap]) rfl).2.1 0 _ rfl
    have q1 := st1.sl 0 ⟨o, lo, hi, .slice av L cap, L, g⟩ rfl
    dsimp only at q1 t0
    obtain ⟨d0, d1⟩ := (st1.box 0 (w.heap.size + 1 + 1, [.int .i64 0, .slice none 0 0]) rfl).cell2
    have dz := (st1.box 0 (w.heap.size + 1 + 1, [.int .i64 0, .slice none 0 0]) rfl).2.2
    have BB := st1.1
    dsimp only at dz
    go_wp2_with (go_at_call 170; refine (areWithin_no _ _ (by omega) (by omega) q1 HW.out).mono ?_; rintro e w' ⟨rfl, rfl⟩)
    refine bodyPost_ret (v := failV 2) (by simp [results, Try.results60, go_sem, failV, d0, d1]) rfl ?_
    exact ⟨rfl, by go_grown⟩
  · have hlb : ((L : Int) != (p : Int)) = true := by rw [bne_iff_ne]; omega
    clear ht hl
    have hb := primeN_bd hp
    have HP := Lib.hid hp
    have HD := Lib.hid hd
    clear hp hd
    have hm := hs.len
    unfold maxLen at hm
    obtain ⟨av, cap, rfl⟩ := hs.shape
    have hhs := hs.size
    have st0 := (St.start w).addSl ⟨o, lo, hi, .slice av L cap, L, g⟩ hs
    replace st0 := (st0.alloc (.cells #[.slice av L cap] 22)).addBox _ [.slice av L cap] (Box.made _ _ _ _ (fun j v h => by simpa using h))
    replace st0 := (st0.alloc (.cells #[.int .i64 (p : Int), .int .i64 (n : Int), .int .i64 (k : Int)] 38)).addBox _ [.int .i64 (p : Int), .int .i64 (n : Int), .int .i64 (k : Int)] (Box.made _ _ _ _ (fun j v h => by simpa using h))
    replace st0 := (st0.alloc (.cells #[.int .i64 0, .slice none 0 0] 28)).addBox _ [.int .i64 0, .slice none 0 0] (Box.made _ _ _ _ (fun j v h => by simpa using h))
    simp only [World.size_alloc] at st0
    clear hs
    go_enter Try.func60, Try.ntmps60
    go_wp2_with fail
    refine (IsCharacter_yes p n k HP.out h1 h2 HD.out hk _).mono ?_
    rintro e w1 ⟨rfl, b1⟩
    have st1 := st0.keep b1
    have hz1 := b1.size
    try simp only [World.size_alloc] at hz1
    clear st0 b1
    obtain ⟨e0, e1, e2⟩ := (st1.box 1 (w.heap.size + 1, [.int .i64 (p : Int), .int .i64 (n : Int), .int .i64 (k : Int)]) rfl).cell3
    have t0 := (st1.box 2 (w.heap.size, [.slice av L cap]) rfl).2.1 0 _ rfl
    dsimp only at t0
    obtain ⟨d0, d1⟩ := (st1.box 0 (w.heap.size + 1 + 1, [.int .i64 0, .slice none 0 0]) rfl).cell2
    have dz := (st1.box 0 (w.heap.size + 1 + 1, [.int .i64 0, .slice none 0 0]) rfl).2.2
    have BB := st1.1
    dsimp only at dz
    go_wp2
    refine bodyPost_ret (v := failV 2) (by simp [results, Try.results60, go_sem, failV, d0, d1]) rfl ?_
    exact ⟨rfl, by go_grown⟩

set_option maxRecDepth 100000 in
set_option maxHeartbeats 1000000 in
theorem SumWith_impl_ok (p n k : Nat) (hp : primeN p = true) (h1 : 1 ≤ n) (h2 : n ≤ 16) (hd : (p - 1) % n = 0) (hk : k < n) (w : World) {o : Bool} {lo hi : Nat} {v : Value} {g : Nat → Int} (hs : Sl o w lo hi v p g) (ht : Within g p 1000000) :
    Calls Try.prog 60 #[v, .agg #[.int .i64 (p : Int), .int .i64 (n : Int), .int .i64 (k : Int)]] w fun e w' => ∃ a cap, e = .returned (.tuple #[.agg #[.int .i64 (n : Int), .slice a (phiN n) cap], .int .i64 0]) ∧ Sl true w' w.heap.size w'.heap.size (.slice a (phiN n) cap) (phiN n) (sumZ p n k g p) ∧ Below w.heap.size w w' := by
  have HW := Lib.hid ht; clear ht
  have hmf : ∀ (fn : Fn) (first cap : Array Value) (w : World), (Instr.makeFunc fn first cap).run Try.prog w = .ok (.func fn first cap) w := fun _ _ _ _ => rfl
  have hb := primeN_bd hp
  have HP := Lib.hid hp
  have HD := Lib.hid hd
  clear hp hd
  have hm := hs.len
  unfold maxLen at hm
  obtain ⟨av, cap, rfl⟩ := hs.shape
  have hhs := hs.size
  have st0 := (St.start w).addSl ⟨o, lo, hi, .slice av p cap, p, g⟩ hs
  replace st0 := (st0.alloc (.cells #[.slice av p cap] 22)).addBox _ [.slice av p cap] (Box.made _ _ _ _ (fun j v h => by simpa using h))
  replace st0 := (st0.alloc (.cells #[.int .i64 (p : Int), .int .i64 (n : Int), .int .i64 (k : Int)] 38)).addBox _ [.int .i64 (p : Int), .int .i64 (n : Int), .int .i64 (k : Int)] (Box.made _ _ _ _ (fun j v h => by simpa using h))
  replace st0 := (st0.alloc (.cells #[.int .i64 0, .slice none 0 0] 28)).addBox _ [.int .i64 0, .slice none 0 0] (Box.made _ _ _ _ (fun j v h => by simpa using h))
  simp only [World.size_alloc] at st0
  clear hs
  go_enter Try.func60, Try.ntmps60
  go_wp2_with fail
  refine (IsCharacter_yes p n k HP.out h1 h2 HD.out hk _).mono ?_
  rintro e w1 ⟨rfl, b1⟩
  have st1 := st0.keep b1
  have hz1 := b1.size
  try simp only [World.size_alloc] at hz1
  clear st0 b1
  obtain ⟨e0, e1, e2⟩ := (st1.box 1 (w.heap.size + 1, [.int .i64 (p : Int), .int .i64 (n : Int), .int .i64 (k : Int)]) rfl).cell3
  have tb := st1.box 2 (w.heap.size, [.slice av p cap]) rfl
  have t0 := tb.2.1 0 _ rfl
  have q1 := st1.sl 0 ⟨o, lo, hi, .slice av p cap, p, g⟩ rfl
  dsimp only at q1 t0 tb
  go_wp2_with (go_at_call 170; refine (areWithin_yes _ _ (by omega) (by omega) q1 HW.out).mono ?_; rintro e w' ⟨rfl, rfl⟩)
  refine (weightedSum_tab p n k HP.out h1 h2 (by omega) g (fun y hy => HW.out y hy) _ tb q1).mono ?_
  rintro e w2 ⟨a2, k2, rfl, s2, b2⟩
  have S2 := Lib.hid s2
  clear s2 e0 e1 e2 tb t0 q1
  have st2 := st1.keep b2
  have hz2 := b2.size
  try simp only [World.size_alloc] at hz2
  clear st1 b2
  obtain ⟨d0, d1⟩ := (st2.box 0 (w.heap.size + 1 + 1, [.int .i64 0, .slice none 0 0]) rfl).cell2
  have dz := (st2.box 0 (w.heap.size + 1 + 1, [.int .i64 0, .slice none 0 0]) rfl).2.2
  have BB := st2.1
  dsimp only at dz
  go_wp2
  refine bodyPost_ret (v := .tuple #[.agg #[.int .i64 (n : Int), .slice a2 (phiN n) k2], .int .i64 0]) (by simp [results, Try.results60, go_sem, d0, d1]) rfl ?_
  refine ⟨_, _, rfl, ?_, by go_grown⟩
  exact ((S2.out.setOther (.inl (by show w.heap.size + 1 + 1 < _; omega)) _).setOther (.inl (by show w.heap.size + 1 + 1 < _; omega)) _).wide (by omega) (by simp) (Nat.le_refl _)

set_option maxHeartbeats 1000000 in
theorem SumWith_spec_out (p n k : Nat) (hp : primeN p = true) (h1 : 1 ≤ n) (h2 : n ≤ 16) (hd : (p - 1) % n = 0) (hk : k < n) (w : World) {o : Bool} {lo hi L : Nat} {v : Value} {g : Nat → Int} (hs : Sl o w lo hi v L g) (ht : ¬ (L = p ∧ Within g L 1000000)) :
    Calls Try.prog 61 #[v, .agg #[.int .i64 (p : Int), .int .i64 (n : Int), .int .i64 (k : Int)]] w fun e w' => e = .returned (failV 2) ∧ Below w.heap.size w w' := by
  by_cases hl : L = p
  · have HW := Lib.hid (tab_far (fun h => ht ⟨hl, h⟩))
    subst hl
    clear ht
    have hb := primeN_bd hp
    have HP := Lib.hid hp
    have HD := Lib.hid hd
    clear hp hd
    have hm := hs.len
    unfold maxLen at hm
    obtain ⟨av, cap, rfl⟩ := hs.shape
    have hhs := hs.size
    have st0 := (St.start w).addSl ⟨o, lo, hi, .slice av L cap, L, g⟩ hs
    replace st0 := (st0.alloc (.cells #[.int .i64 (L : Int), .int .i64 (n : Int), .int .i64 (k : Int)] 38)).addBox _ [.int .i64 (L : Int), .int .i64 (n : Int), .int .i64 (k : Int)] (Box.made _ _ _ _ (fun j v h => by simpa using h))
    replace st0 := (st0.alloc (.cells #[.int .i64 0, .slice none 0 0] 28)).addBox _ [.int .i64 0, .slice none 0 0] (Box.made _ _ _ _ (fun j v h => by simpa using h))
    simp only [World.size_alloc] at st0
    clear hs
    go_enter Try.func61, Try.ntmps61
    go_wp2_with fail
    refine (l03Is_yes L n k HP.out h1 h2 HD.out hk _).mono ?_
    rintro e w1 ⟨rfl, b1⟩
    have st1 := st0.keep b1
    have hz1 := b1.size
    try simp only [World.size_alloc] at hz1
    clear st0 b1
    obtain ⟨e0, e1, e2⟩ := (st1.box 1 (w.heap.size, [.int .i64 (L : Int), .int .i64 (n : Int), .int .i64 (k : Int)]) rfl).cell3
    have q1 := st1.sl 0 ⟨o, lo, hi, .slice av L cap, L, g⟩ rfl
    dsimp only at q1
    have Q1 := Lib.hid q1
    clear q1
    obtain ⟨d0, d1⟩ := (st1.box 0 (w.heap.size + 1, [.int .i64 0, .slice none 0 0]) rfl).cell2
    have dz := (st1.box 0 (w.heap.size + 1, [.int .i64 0, .slice none 0 0]) rfl).2.2
    have BB := st1.1
    dsimp only at dz
    go_wp2
    go_loopw [6] (fun s6 wr => ∃ q : Nat, q ≤ L ∧ s6 = .int .i64 (q : Int) ∧ (∀ j, j < q → -1000000 ≤ g j ∧ g j ≤ 1000000) ∧ wr = w1) (fun s6 _ => L + 1 - (intOf s6).toNat)
    case atStart => exact ⟨0, by omega, rfl, fun j hj => absurd hj (Nat.not_lt_zero _), rfl⟩
    case round =>
      obtain ⟨q, hq, rfl, hno, hwr⟩ := hrel
      subst hwr
      have HN := Lib.hid hno; clear hno
      have hlt : q < L := by
        rcases Nat.lt_or_ge q L with h | h
        · exact h
        · obtain ⟨j, hj, hj2⟩ := HW.out
          have := HN.out j (by omega); omega
      obtain ⟨gg, off, c1, hv, _, _, _, _, hcl, _⟩ := Q1.out.at (by omega)
      obtain ⟨rfl, rfl⟩ : av = some ⟨gg, off, none⟩ ∧ cap = c1 := by cases hv; exact ⟨rfl, rfl⟩
      have hck := hcl q hlt
      clear hv hcl
      by_cases hin : -1000000 ≤ g q ∧ g q ≤ 1000000
      · obtain ⟨hi1, hi2⟩ := hin
        go_wp2_with (go_at_call 151; refine (l01In_yes _ _ _ _ (by omega) (by omega)).mono ?_; rintro e w' ⟨rfl, rfl⟩)
        go_roundw
        case rel => exact ⟨q + 1, by omega, by go_num, fun j hj => by
          rcases Nat.lt_or_ge j q with h | h
          · exact HN.out j h
          · obtain rfl : j = q := by omega
            exact ⟨hi1, hi2⟩, by first | rfl | trivial⟩
        case measure => simp [intOf]; omega
      · have HO := Lib.hid (show g q < -1000000 ∨ 1000000 < g q by omega)
        clear hin
        go_wp2_with (go_at_call 151; refine (l01In_no _ _ _ _ HO.out).mono ?_; rintro e w' ⟨rfl, rfl⟩)
        refine bodyPost_ret (v := failV 2) (by simp [results, Try.results61, go_sem, failV, d0, d1]) rfl ?_
        exact ⟨rfl, by go_grown⟩
  · have hlb : ((L : Int) != (p : Int)) = true := by rw [bne_iff_ne]; omega
    clear ht hl
    have hb := primeN_bd hp
    have HP := Lib.hid hp
    have HD := Lib.hid hd
    clear hp hd
    have hm := hs.len
    unfold maxLen at hm
    obtain ⟨av, cap, rfl⟩ := hs.shape
    have hhs := hs.size
    have st0 := (St.start w).addSl ⟨o, lo, hi, .slice av L cap, L, g⟩ hs
    replace st0 := (st0.alloc (.cells #[.int .i64 (p : Int), .int .i64 (n : Int), .int .i64 (k : Int)] 38)).addBox _ [.int .i64 (p : Int), .int .i64 (n : Int), .int .i64 (k : Int)] (Box.made _ _ _ _ (fun j v h => by simpa using h))
    replace st0 := (st0.alloc (.cells #[.int .i64 0, .slice none 0 0] 28)).addBox _ [.int .i64 0, .slice none 0 0] (Box.made _ _ _ _ (fun j v h => by simpa using h))
    simp only [World.size_alloc] at st0
    clear hs
    go_enter Try.func61, Try.ntmps61
    go_wp2_with fail
    refine (l03Is_yes p n k HP.out h1 h2 HD.out hk _).mono ?_
    rintro e w1 ⟨rfl, b1⟩
    have st1 := st0.keep b1
    have hz1 := b1.size
    try simp only [World.size_alloc] at hz1
    clear st0 b1
    obtain ⟨e0, e1, e2⟩ := (st1.box 1 (w.heap.size, [.int .i64 (p : Int), .int .i64 (n : Int), .int .i64 (k : Int)]) rfl).cell3
    obtain ⟨d0, d1⟩ := (st1.box 0 (w.heap.size + 1, [.int .i64 0, .slice none 0 0]) rfl).cell2
    have dz := (st1.box 0 (w.heap.size + 1, [.int .i64 0, .slice none 0 0]) rfl).2.2
    have BB := st1.1
    dsimp only at dz
    go_wp2
    refine bodyPost_ret (v := failV 2) (by simp [results, Try.results61, go_sem, failV, d0, d1]) rfl ?_
    exact ⟨rfl, by go_grown⟩

set_option maxRecDepth 100000 in
set_option maxHeartbeats 4000000 in
theorem SumWith_spec_ok (p n k : Nat) (hp : primeN p = true) (h1 : 1 ≤ n) (h2 : n ≤ 16) (hd : (p - 1) % n = 0) (hk : k < n) (w : World) {o : Bool} {lo hi : Nat} {v : Value} {g : Nat → Int} (hs : Sl o w lo hi v p g) (ht : Within g p 1000000) :
    Calls Try.prog 61 #[v, .agg #[.int .i64 (p : Int), .int .i64 (n : Int), .int .i64 (k : Int)]] w fun e w' => ∃ a cap, e = .returned (.tuple #[.agg #[.int .i64 (n : Int), .slice a (phiN n) cap], .int .i64 0]) ∧ Sl true w' w.heap.size w'.heap.size (.slice a (phiN n) cap) (phiN n) (sumZ p n k g p) ∧ Below w.heap.size w w' := by
  have HW := Lib.hid ht; clear ht
  have hphi := phi_le12 n (by omega) h1
  have hb := primeN_bd hp
  have HP := Lib.hid hp
  have HD := Lib.hid hd
  clear hp hd
  have hm := hs.len
  unfold maxLen at hm
  obtain ⟨av, cap, rfl⟩ := hs.shape
  have hhs := hs.size
  have st0 := (St.start w).addSl ⟨o, lo, hi, .slice av p cap, p, g⟩ hs
  replace st0 := (st0.alloc (.cells #[.int .i64 (p : Int), .int .i64 (n : Int), .int .i64 (k : Int)] 38)).addBox _ [.int .i64 (p : Int), .int .i64 (n : Int), .int .i64 (k : Int)] (Box.made _ _ _ _ (fun j v h => by simpa using h))
  replace st0 := (st0.alloc (.cells #[.int .i64 0, .slice none 0 0] 28)).addBox _ [.int .i64 0, .slice none 0 0] (Box.made _ _ _ _ (fun j v h => by simpa using h))
  simp only [World.size_alloc] at st0
  clear hs
  go_enter Try.func61, Try.ntmps61
  go_wp2_with fail
  refine (l03Is_yes p n k HP.out h1 h2 HD.out hk _).mono ?_
  rintro e w1 ⟨rfl, b1⟩
  have st1 := st0.keep b1
  have hz1 := b1.size
  try simp only [World.size_alloc] at hz1
  clear st0 b1
  obtain ⟨e0, e1, e2⟩ := (st1.box 1 (w.heap.size, [.int .i64 (p : Int), .int .i64 (n : Int), .int .i64 (k : Int)]) rfl).cell3
  have Q1 := Lib.hid (st1.sl 0 ⟨o, lo, hi, .slice av p cap, p, g⟩ rfl)
  have ST1 := Lib.hid st1
  dsimp only at Q1
  clear st1
  obtain ⟨gg, off, c1, hv, _, hgh, _, _, hcl, _⟩ := Q1.out.at (by omega)
  obtain ⟨rfl, rfl⟩ : av = some ⟨gg, off, none⟩ ∧ cap = c1 := by cases hv; exact ⟨rfl, rfl⟩
  have HCL := Lib.hid hcl
  clear hv hcl
  go_wp2
  go_loopw [6] (fun s6 wr => ∃ q : Nat, q ≤ p ∧ s6 = .int .i64 (q : Int) ∧ wr = w1) (fun s6 _ => p + 1 - (intOf s6).toNat)
  case atStart => exact ⟨0, by omega, rfl, rfl⟩
  case round =>
    obtain ⟨q, hq, rfl, hwr⟩ := hrel
    subst hwr
    by_cases hlt : q < p
    · have hck := HCL.out q hlt
      obtain ⟨hi1, hi2⟩ := HW.out q hlt
      go_wp2_with (go_at_call 151; refine (l01In_yes _ _ _ _ (by omega) (by omega)).mono ?_; rintro e w' ⟨rfl, rfl⟩)
      go_roundw
      case rel => exact ⟨q + 1, by omega, by go_num, by first | rfl | trivial⟩
      case measure => simp [intOf]; omega
    · obtain rfl : p = q := by omega
      go_wp2_with fail
      refine (l01Zero_any n (by omega) _).mono ?_
      rintro e w2 ⟨a2, k2, rfl, s2, b2⟩
      have st2 := ST1.out.keep b2
      have hz2' := b2.size
      have S2 := Lib.hid s2
      have HT := Lib.hid (st2.boxNew (.int .i64 (n : Int)) (.slice a2 (phiN n) k2) 28)
      clear st2 s2 b2 e0 e1 e2 HCL Q1 ST1
      go_wp2
      go_loopw [8] (fun s8 wr => ∃ (x : Nat) (a : Option Addr) (cap' lo' hi' : Nat), 1 ≤ x ∧ x ≤ p ∧ s8 = .int .i64 (x : Int) ∧ w2.heap.size < wr.heap.size ∧ w.heap.size + 1 + 1 ≤ lo' ∧ (w2.heap.size < lo' ∨ hi' ≤ w2.heap.size) ∧ Sl true wr lo' hi' (.slice a (phiN n) cap') (phiN n) (sumZ p n k g x) ∧
          St w wr [(w2.heap.size, [.int .i64 (n : Int), .slice a (phiN n) cap']), (w.heap.size + 1, [.int .i64 0, .slice none 0 0]), (w.heap.size, [.int .i64 (p : Int), .int .i64 (n : Int), .int .i64 (k : Int)])] [⟨o, lo, hi, .slice (some ⟨gg, off, none⟩) p cap, p, g⟩]) (fun s8 _ => p + 1 - (intOf s8).toNat)
      case atStart => exact ⟨1, a2, k2, w.heap.size + 1 + 1, w2.heap.size, by omega, by omega, rfl, by simp, by omega, .inr (Nat.le_refl _), ((S2.out.alloc _).congr (fun j hj => by rw [sumZ_one])).wide (by omega) (Nat.le_refl _) (by simp), HT.out⟩
      case round =>
        clear S2 HT
        obtain ⟨x, a, cap', lo', hi', hx1, hx, rfl, hzr, hlo, hdis, hsl, hst⟩ := hrel
        obtain ⟨o0, o1⟩ := (hst.box 0 (w2.heap.size, [.int .i64 (n : Int), .slice a (phiN n) cap']) rfl).cell2
        obtain ⟨c0, c1, c2⟩ := (hst.box 2 (w.heap.size, [.int .i64 (p : Int), .int .i64 (n : Int), .int .i64 (k : Int)]) rfl).cell3
        by_cases hlt : x < p
        · have HSL := Lib.hid hsl
          have HST := Lib.hid hst
          have HSS := Lib.hid (fun j => sum_step (p := p) (n := n) (k := k) (W := g) hx1 hlt j)
          have HWI := Lib.hid (sumZ_ok (p := p) (n := n) (k := k) (x := x) (W := g) (by omega) h1 (by omega) (fun y hy => HW.out y (by omega)))
          have HGB := Lib.hid (show ∀ q, q < phiN n → -1000000000000 ≤ g x * atP p n k (x : Int) q ∧ g x * atP p n k (x : Int) q ≤ 1000000000000 from fun q hq => by
            have h := atP_bd (p := p) (k := k) (x := (x : Int)) (show n < 17 by omega) h1 hq
            have h5 := one_bd (B := 1000000) (by omega) (HW.out x hlt).1 (HW.out x hlt).2 h.1 h.2
            omega)
          have qt := hst.sl 0 ⟨o, lo, hi, .slice (some ⟨gg, off, none⟩) p cap, p, g⟩ rfl
          dsimp only at qt
          have hck := (qt.known (by omega)).2.2.2.1 x hlt
          have hgr : gg < wr.heap.size := by have := (qt.known (by omega)).2.1; have := qt.size; omega
          have hxi : (x : Int) < (p : Int) := by omega
          clear hsl hst qt
          go_wp2_with fail
          go_region_law (first
            | (go_simp; go_at_call 157; refine (l03At_any p n k (x : Int) HP.out h1 h2 (by omega) (by omega) (by omega) _).mono ?_; rintro e w6 ⟨a6, k6, rfl, s6, b6⟩
               have hz6 := b6.size
               simp only [World.size_drew] at hz6 s6
               have st6 := HST.out.drew.keep b6
               have sl6 := HSL.out.drew.keep b6 HSL.out.drew.size
               have hck6 := (b6.cell (p := ⟨gg, off + x, none⟩) (by simpa using hgr)).trans hck
               obtain ⟨y0, y1⟩ := (st6.box 0 (w2.heap.size, [.int .i64 (n : Int), .slice a (phiN n) cap']) rfl).cell2
               obtain ⟨z0, z1, z2⟩ := (st6.box 2 (w.heap.size, [.int .i64 (p : Int), .int .i64 (n : Int), .int .i64 (k : Int)]) rfl).cell3)
            | (go_simp; go_at_call 167; refine (l01Plus_gen (n : Int) (g x) _ sl6 s6 HWI.out HGB.out (by omega)).mono ?_; rintro e w7 ⟨a7, k7, rfl, s7, b7⟩
               have hz7 := b7.size
               have st7 := st6.keep b7
               obtain ⟨r0, r1⟩ := (st7.box 0 (w2.heap.size, [.int .i64 (n : Int), .slice a (phiN n) cap']) rfl).cell2
               have rz := (st7.box 0 (w2.heap.size, [.int .i64 (n : Int), .slice a (phiN n) cap']) rfl).2.2
               dsimp only at rz))
          all_goals
            have S7 := Lib.hid s7
            have T7 := Lib.hid (st7.boxSet (u0 := .int .i64 (n : Int)) (u1 := .slice a7 (phiN n) k7) (by omega) (by intro b hb; simp only [List.mem_cons, List.not_mem_nil, or_false] at hb; rcases hb with rfl | rfl <;> dsimp only <;> omega) (by intro s hs'; simp only [List.mem_cons, List.not_mem_nil, or_false] at hs'; rcases hs' with rfl <;> dsimp only <;> omega))
            clear st6 st7 sl6 s6 s7 b6 b7 hck hck6
            go_wp2
            go_roundw
            case rel => exact ⟨x + 1, a7, k7, w6.heap.size, w7.heap.size, by omega, by omega, by go_num, by simp; omega, by omega, .inl (by omega), ((S7.out.setOther (.inl (by show w2.heap.size < _; omega)) _).setOther (.inl (by show w2.heap.size < _; omega)) _).congr (fun j hj => (HSS.out j).symm), T7.out⟩
            case measure => simp [intOf] <;> omega
        · obtain rfl : p = x := by omega
          obtain ⟨d0, d1⟩ := (hst.box 1 (w.heap.size + 1, [.int .i64 0, .slice none 0 0]) rfl).cell2
          have dz := (hst.box 1 (w.heap.size + 1, [.int .i64 0, .slice none 0 0]) rfl).2.2
          have BB := hst.1
          have HSL := Lib.hid hsl
          dsimp only at dz
          clear hst hsl
          go_wp2
          refine bodyPost_ret (v := .tuple #[.agg #[.int .i64 (n : Int), .slice a (phiN n) cap'], .int .i64 0]) (by simp [results, Try.results61, go_sem, d0, d1]) rfl ?_
          refine ⟨_, _, rfl, ?_, by go_grown⟩
          have := HSL.out.size
          exact ((HSL.out.setOther (.inl (by show w.heap.size + 1 < _; omega)) _).setOther (.inl (by show w.heap.size + 1 < _; omega)) _).wide (by omega) (by simp; omega) (Nat.le_refl _)
end

section
open Go.RowKit Go.ChangeShapes Go.Sort
set_option linter.unusedVariables false
set_option linter.unusedSimpArgs false

theorem characterPairCode_bad1 (p n k q m l : Int) (h : ¬ ChP p n k) (w : World) :
    Calls Try.prog 130 #[.agg #[.int .i64 p, .int .i64 n, .int .i64 k], .agg #[.int .i64 q, .int .i64 m, .int .i64 l]] w fun e w' => e = .returned (.int .i64 1) ∧ Below w.heap.size w w' := by
  have H := Lib.hid h; clear h
  have st0 := St.start w
  replace st0 := (st0.alloc (.cells #[.int .i64 p, .int .i64 n, .int .i64 k] 38)).addBox _ [.int .i64 p, .int .i64 n, .int .i64 k] (Box.made _ _ _ _ (fun j v h => by simpa using h))
  replace st0 := (st0.alloc (.cells #[.int .i64 q, .int .i64 m, .int .i64 l] 38)).addBox _ [.int .i64 q, .int .i64 m, .int .i64 l] (Box.made _ _ _ _ (fun j v h => by simpa using h))
  simp only [World.size_alloc] at st0
  go_enter Try.func130, Try.ntmps130
  go_wp2_with fail
  refine (IsCharacter_dec p n k false (.inr ⟨H.out, rfl⟩) _).mono ?_
  rintro e w1 ⟨rfl, b1⟩
  have st1 := st0.keep b1
  have hz1 := b1.size
  try simp only [World.size_alloc] at hz1
  clear st0 b1
  have BB := st1.1
  go_wp2
  go_ret
  exact ⟨rfl, BB⟩
theorem characterPairCode_bad2 (p n k q m l : Int) (h : ChP p n k) (h' : ¬ ChP q m l) (w : World) :
    Calls Try.prog 130 #[.agg #[.int .i64 p, .int .i64 n, .int .i64 k], .agg #[.int .i64 q, .int .i64 m, .int .i64 l]] w fun e w' => e = .returned (.int .i64 1) ∧ Below w.heap.size w w' := by
  have H := Lib.hid h; clear h
  have H' := Lib.hid h'; clear h'
  have st0 := St.start w
  replace st0 := (st0.alloc (.cells #[.int .i64 p, .int .i64 n, .int .i64 k] 38)).addBox _ [.int .i64 p, .int .i64 n, .int .i64 k] (Box.made _ _ _ _ (fun j v h => by simpa using h))
  replace st0 := (st0.alloc (.cells #[.int .i64 q, .int .i64 m, .int .i64 l] 38)).addBox _ [.int .i64 q, .int .i64 m, .int .i64 l] (Box.made _ _ _ _ (fun j v h => by simpa using h))
  simp only [World.size_alloc] at st0
  go_enter Try.func130, Try.ntmps130
  go_wp2_with fail
  refine (IsCharacter_dec p n k true (.inl ⟨H.out, rfl⟩) _).mono ?_
  rintro e w1 ⟨rfl, b1⟩
  have st1 := st0.keep b1
  have hz1 := b1.size
  try simp only [World.size_alloc] at hz1
  clear st0 b1
  obtain ⟨e0, e1, e2⟩ := (st1.box 0 (w.heap.size + 1, [.int .i64 q, .int .i64 m, .int .i64 l]) rfl).cell3
  go_wp2_with fail
  refine (IsCharacter_dec q m l false (.inr ⟨H'.out, rfl⟩) _).mono ?_
  rintro e w2 ⟨rfl, b2⟩
  clear e0 e1 e2
  have st2 := st1.keep b2
  have hz2 := b2.size
  try simp only [World.size_alloc] at hz2
  clear st1 b2
  have BB := st2.1
  go_wp2
  go_ret
  exact ⟨rfl, BB⟩

theorem characterPairCode_diff1 (p n k q m l : Int) (h : ChP p n k) (h' : ChP q m l) (hd : ¬ p = q) (w : World) :
    Calls Try.prog 130 #[.agg #[.int .i64 p, .int .i64 n, .int .i64 k], .agg #[.int .i64 q, .int .i64 m, .int .i64 l]] w fun e w' => e = .returned (.int .i64 2) ∧ Below w.heap.size w w' := by
  have H := Lib.hid h; clear h
  have H' := Lib.hid h'; clear h'
  have hdb : (p != q) = true := by rw [bne_iff_ne]; exact hd
  have st0 := St.start w
  replace st0 := (st0.alloc (.cells #[.int .i64 p, .int .i64 n, .int .i64 k] 38)).addBox _ [.int .i64 p, .int .i64 n, .int .i64 k] (Box.made _ _ _ _ (fun j v h => by simpa using h))
  replace st0 := (st0.alloc (.cells #[.int .i64 q, .int .i64 m, .int .i64 l] 38)).addBox _ [.int .i64 q, .int .i64 m, .int .i64 l] (Box.made _ _ _ _ (fun j v h => by simpa using h))
  simp only [World.size_alloc] at st0
  go_enter Try.func130, Try.ntmps130
  go_wp2_with fail
  refine (IsCharacter_dec p n k true (.inl ⟨H.out, rfl⟩) _).mono ?_
  rintro e w1 ⟨rfl, b1⟩
  have st1 := st0.keep b1
  have hz1 := b1.size
  try simp only [World.size_alloc] at hz1
  clear st0 b1
  obtain ⟨e0, e1, e2⟩ := (st1.box 0 (w.heap.size + 1, [.int .i64 q, .int .i64 m, .int .i64 l]) rfl).cell3
  go_wp2_with fail
  refine (IsCharacter_dec q m l true (.inl ⟨H'.out, rfl⟩) _).mono ?_
  rintro e w2 ⟨rfl, b2⟩
  clear e0 e1 e2
  have st2 := st1.keep b2
  have hz2 := b2.size
  try simp only [World.size_alloc] at hz2
  clear st1 b2
  have BB := st2.1
  obtain ⟨e0, e1, e2⟩ := (st2.box 0 (w.heap.size + 1, [.int .i64 q, .int .i64 m, .int .i64 l]) rfl).cell3
  obtain ⟨f0, f1, f2⟩ := (st2.box 1 (w.heap.size, [.int .i64 p, .int .i64 n, .int .i64 k]) rfl).cell3
  have ez := (st2.box 0 (w.heap.size + 1, [.int .i64 q, .int .i64 m, .int .i64 l]) rfl).2.2
  have fz := (st2.box 1 (w.heap.size, [.int .i64 p, .int .i64 n, .int .i64 k]) rfl).2.2
  dsimp only at ez fz
  clear st2
  go_wp2
  all_goals first
    | contradiction
    | (go_ret; exact ⟨rfl, by go_grown⟩)

theorem characterPairCode_diff2 (p n k m l : Int) (h : ChP p n k) (h' : ChP p m l) (hd2 : ¬ n = m) (w : World) :
    Calls Try.prog 130 #[.agg #[.int .i64 p, .int .i64 n, .int .i64 k], .agg #[.int .i64 p, .int .i64 m, .int .i64 l]] w fun e w' => e = .returned (.int .i64 2) ∧ Below w.heap.size w w' := by
  have H := Lib.hid h; clear h
  have H' := Lib.hid h'; clear h'
  have hdb : (n != m) = true := by rw [bne_iff_ne]; exact hd2
  have st0 := St.start w
  replace st0 := (st0.alloc (.cells #[.int .i64 p, .int .i64 n, .int .i64 k] 38)).addBox _ [.int .i64 p, .int .i64 n, .int .i64 k] (Box.made _ _ _ _ (fun j v h => by simpa using h))
  replace st0 := (st0.alloc (.cells #[.int .i64 p, .int .i64 m, .int .i64 l] 38)).addBox _ [.int .i64 p, .int .i64 m, .int .i64 l] (Box.made _ _ _ _ (fun j v h => by simpa using h))
  simp only [World.size_alloc] at st0
  go_enter Try.func130, Try.ntmps130
  go_wp2_with fail
  refine (IsCharacter_dec p n k true (.inl ⟨H.out, rfl⟩) _).mono ?_
  rintro e w1 ⟨rfl, b1⟩
  have st1 := st0.keep b1
  have hz1 := b1.size
  try simp only [World.size_alloc] at hz1
  clear st0 b1
  obtain ⟨e0, e1, e2⟩ := (st1.box 0 (w.heap.size + 1, [.int .i64 p, .int .i64 m, .int .i64 l]) rfl).cell3
  go_wp2_with fail
  refine (IsCharacter_dec p m l true (.inl ⟨H'.out, rfl⟩) _).mono ?_
  rintro e w2 ⟨rfl, b2⟩
  clear e0 e1 e2
  have st2 := st1.keep b2
  have hz2 := b2.size
  try simp only [World.size_alloc] at hz2
  clear st1 b2
  have BB := st2.1
  obtain ⟨e0, e1, e2⟩ := (st2.box 0 (w.heap.size + 1, [.int .i64 p, .int .i64 m, .int .i64 l]) rfl).cell3
  obtain ⟨f0, f1, f2⟩ := (st2.box 1 (w.heap.size, [.int .i64 p, .int .i64 n, .int .i64 k]) rfl).cell3
  have ez := (st2.box 0 (w.heap.size + 1, [.int .i64 p, .int .i64 m, .int .i64 l]) rfl).2.2
  have fz := (st2.box 1 (w.heap.size, [.int .i64 p, .int .i64 n, .int .i64 k]) rfl).2.2
  dsimp only at ez fz
  clear st2
  go_wp2
  all_goals first
    | contradiction
    | (go_ret; exact ⟨rfl, by go_grown⟩)

theorem characterPairCode_ok (p n k l : Int) (h : ChP p n k) (h' : ChP p n l)  (w : World) :
    Calls Try.prog 130 #[.agg #[.int .i64 p, .int .i64 n, .int .i64 k], .agg #[.int .i64 p, .int .i64 n, .int .i64 l]] w fun e w' => e = .returned (.int .i64 0) ∧ Below w.heap.size w w' := by
  have H := Lib.hid h; clear h
  have H' := Lib.hid h'; clear h'
  have st0 := St.start w
  replace st0 := (st0.alloc (.cells #[.int .i64 p, .int .i64 n, .int .i64 k] 38)).addBox _ [.int .i64 p, .int .i64 n, .int .i64 k] (Box.made _ _ _ _ (fun j v h => by simpa using h))
  replace st0 := (st0.alloc (.cells #[.int .i64 p, .int .i64 n, .int .i64 l] 38)).addBox _ [.int .i64 p, .int .i64 n, .int .i64 l] (Box.made _ _ _ _ (fun j v h => by simpa using h))
  simp only [World.size_alloc] at st0
  go_enter Try.func130, Try.ntmps130
  go_wp2_with fail
  refine (IsCharacter_dec p n k true (.inl ⟨H.out, rfl⟩) _).mono ?_
  rintro e w1 ⟨rfl, b1⟩
  have st1 := st0.keep b1
  have hz1 := b1.size
  try simp only [World.size_alloc] at hz1
  clear st0 b1
  obtain ⟨e0, e1, e2⟩ := (st1.box 0 (w.heap.size + 1, [.int .i64 p, .int .i64 n, .int .i64 l]) rfl).cell3
  go_wp2_with fail
  refine (IsCharacter_dec p n l true (.inl ⟨H'.out, rfl⟩) _).mono ?_
  rintro e w2 ⟨rfl, b2⟩
  clear e0 e1 e2
  have st2 := st1.keep b2
  have hz2 := b2.size
  try simp only [World.size_alloc] at hz2
  clear st1 b2
  have BB := st2.1
  obtain ⟨e0, e1, e2⟩ := (st2.box 0 (w.heap.size + 1, [.int .i64 p, .int .i64 n, .int .i64 l]) rfl).cell3
  obtain ⟨f0, f1, f2⟩ := (st2.box 1 (w.heap.size, [.int .i64 p, .int .i64 n, .int .i64 k]) rfl).cell3
  have ez := (st2.box 0 (w.heap.size + 1, [.int .i64 p, .int .i64 n, .int .i64 l]) rfl).2.2
  have fz := (st2.box 1 (w.heap.size, [.int .i64 p, .int .i64 n, .int .i64 k]) rfl).2.2
  dsimp only at ez fz
  clear st2
  go_wp2
  all_goals first
    | contradiction
    | (go_ret; exact ⟨rfl, by go_grown⟩)

theorem l03Like_bad1 (p n k q m l : Int) (h : ¬ ChP p n k) (w : World) :
    Calls Try.prog 132 #[.agg #[.int .i64 p, .int .i64 n, .int .i64 k], .agg #[.int .i64 q, .int .i64 m, .int .i64 l]] w fun e w' => e = .returned (.int .i64 1) ∧ Below w.heap.size w w' := by
  have H := Lib.hid h; clear h
  have st0 := St.start w
  replace st0 := (st0.alloc (.cells #[.int .i64 p, .int .i64 n, .int .i64 k] 38)).addBox _ [.int .i64 p, .int .i64 n, .int .i64 k] (Box.made _ _ _ _ (fun j v h => by simpa using h))
  replace st0 := (st0.alloc (.cells #[.int .i64 q, .int .i64 m, .int .i64 l] 38)).addBox _ [.int .i64 q, .int .i64 m, .int .i64 l] (Box.made _ _ _ _ (fun j v h => by simpa using h))
  simp only [World.size_alloc] at st0
  go_enter Try.func132, Try.ntmps132
  go_wp2_with fail
  refine (l03Is_dec p n k false (.inr ⟨H.out, rfl⟩) _).mono ?_
  rintro e w1 ⟨rfl, b1⟩
  have st1 := st0.keep b1
  have hz1 := b1.size
  try simp only [World.size_alloc] at hz1
  clear st0 b1
  have BB := st1.1
  go_wp2
  go_ret
  exact ⟨rfl, BB⟩
theorem l03Like_bad2 (p n k q m l : Int) (h : ChP p n k) (h' : ¬ ChP q m l) (w : World) :
    Calls Try.prog 132 #[.agg #[.int .i64 p, .int .i64 n, .int .i64 k], .agg #[.int .i64 q, .int .i64 m, .int .i64 l]] w fun e w' => e = .returned (.int .i64 1) ∧ Below w.heap.size w w' := by
  have H := Lib.hid h; clear h
  have H' := Lib.hid h'; clear h'
  have st0 := St.start w
  replace st0 := (st0.alloc (.cells #[.int .i64 p, .int .i64 n, .int .i64 k] 38)).addBox _ [.int .i64 p, .int .i64 n, .int .i64 k] (Box.made _ _ _ _ (fun j v h => by simpa using h))
  replace st0 := (st0.alloc (.cells #[.int .i64 q, .int .i64 m, .int .i64 l] 38)).addBox _ [.int .i64 q, .int .i64 m, .int .i64 l] (Box.made _ _ _ _ (fun j v h => by simpa using h))
  simp only [World.size_alloc] at st0
  go_enter Try.func132, Try.ntmps132
  go_wp2_with fail
  refine (l03Is_dec p n k true (.inl ⟨H.out, rfl⟩) _).mono ?_
  rintro e w1 ⟨rfl, b1⟩
  have st1 := st0.keep b1
  have hz1 := b1.size
  try simp only [World.size_alloc] at hz1
  clear st0 b1
  obtain ⟨e0, e1, e2⟩ := (st1.box 0 (w.heap.size + 1, [.int .i64 q, .int .i64 m, .int .i64 l]) rfl).cell3
  go_wp2_with fail
  refine (l03Is_dec q m l false (.inr ⟨H'.out, rfl⟩) _).mono ?_
  rintro e w2 ⟨rfl, b2⟩
  clear e0 e1 e2
  have st2 := st1.keep b2
  have hz2 := b2.size
  try simp only [World.size_alloc] at hz2
  clear st1 b2
  have BB := st2.1
  go_wp2
  go_ret
  exact ⟨rfl, BB⟩

theorem l03Like_diff1 (p n k q m l : Int) (h : ChP p n k) (h' : ChP q m l) (hd : ¬ p = q) (w : World) :
    Calls Try.prog 132 #[.agg #[.int .i64 p, .int .i64 n, .int .i64 k], .agg #[.int .i64 q, .int .i64 m, .int .i64 l]] w fun e w' => e = .returned (.int .i64 2) ∧ Below w.heap.size w w' := by
  have H := Lib.hid h; clear h
  have H' := Lib.hid h'; clear h'
  have hdb : (p != q) = true := by rw [bne_iff_ne]; exact hd
  have st0 := St.start w
  replace st0 := (st0.alloc (.cells #[.int .i64 p, .int .i64 n, .int .i64 k] 38)).addBox _ [.int .i64 p, .int .i64 n, .int .i64 k] (Box.made _ _ _ _ (fun j v h => by simpa using h))
  replace st0 := (st0.alloc (.cells #[.int .i64 q, .int .i64 m, .int .i64 l] 38)).addBox _ [.int .i64 q, .int .i64 m, .int .i64 l] (Box.made _ _ _ _ (fun j v h => by simpa using h))
  simp only [World.size_alloc] at st0
  go_enter Try.func132, Try.ntmps132
  go_wp2_with fail
  refine (l03Is_dec p n k true (.inl ⟨H.out, rfl⟩) _).mono ?_
  rintro e w1 ⟨rfl, b1⟩
  have st1 := st0.keep b1
  have hz1 := b1.size
  try simp only [World.size_alloc] at hz1
  clear st0 b1
  obtain ⟨e0, e1, e2⟩ := (st1.box 0 (w.heap.size + 1, [.int .i64 q, .int .i64 m, .int .i64 l]) rfl).cell3
  go_wp2_with fail
  refine (l03Is_dec q m l true (.inl ⟨H'.out, rfl⟩) _).mono ?_
  rintro e w2 ⟨rfl, b2⟩
  clear e0 e1 e2
  have st2 := st1.keep b2
  have hz2 := b2.size
  try simp only [World.size_alloc] at hz2
  clear st1 b2
  have BB := st2.1
  obtain ⟨e0, e1, e2⟩ := (st2.box 0 (w.heap.size + 1, [.int .i64 q, .int .i64 m, .int .i64 l]) rfl).cell3
  obtain ⟨f0, f1, f2⟩ := (st2.box 1 (w.heap.size, [.int .i64 p, .int .i64 n, .int .i64 k]) rfl).cell3
  have ez := (st2.box 0 (w.heap.size + 1, [.int .i64 q, .int .i64 m, .int .i64 l]) rfl).2.2
  have fz := (st2.box 1 (w.heap.size, [.int .i64 p, .int .i64 n, .int .i64 k]) rfl).2.2
  dsimp only at ez fz
  clear st2
  go_wp2
  all_goals first
    | contradiction
    | (go_ret; exact ⟨rfl, by go_grown⟩)

theorem l03Like_diff2 (p n k m l : Int) (h : ChP p n k) (h' : ChP p m l) (hd2 : ¬ n = m) (w : World) :
    Calls Try.prog 132 #[.agg #[.int .i64 p, .int .i64 n, .int .i64 k], .agg #[.int .i64 p, .int .i64 m, .int .i64 l]] w fun e w' => e = .returned (.int .i64 2) ∧ Below w.heap.size w w' := by
  have H := Lib.hid h; clear h
  have H' := Lib.hid h'; clear h'
  have hdb : (n != m) = true := by rw [bne_iff_ne]; exact hd2
  have st0 := St.start w
  replace st0 := (st0.alloc (.cells #[.int .i64 p, .int .i64 n, .int .i64 k] 38)).addBox _ [.int .i64 p, .int .i64 n, .int .i64 k] (Box.made _ _ _ _ (fun j v h => by simpa using h))
  replace st0 := (st0.alloc (.cells #[.int .i64 p, .int .i64 m, .int .i64 l] 38)).addBox _ [.int .i64 p, .int .i64 m, .int .i64 l] (Box.made _ _ _ _ (fun j v h => by simpa using h))
  simp only [World.size_alloc] at st0
  go_enter Try.func132, Try.ntmps132
  go_wp2_with fail
  refine (l03Is_dec p n k true (.inl ⟨H.out, rfl⟩) _).mono ?_
  rintro e w1 ⟨rfl, b1⟩
  have st1 := st0.keep b1
  have hz1 := b1.size
  try simp only [World.size_alloc] at hz1
  clear st0 b1
  obtain ⟨e0, e1, e2⟩ := (st1.box 0 (w.heap.size + 1, [.int .i64 p, .int .i64 m, .int .i64 l]) rfl).cell3
  go_wp2_with fail
  refine (l03Is_dec p m l true (.inl ⟨H'.out, rfl⟩) _).mono ?_
  rintro e w2 ⟨rfl, b2⟩
  clear e0 e1 e2
  have st2 := st1.keep b2
  have hz2 := b2.size
  try simp only [World.size_alloc] at hz2
  clear st1 b2
  have BB := st2.1
  obtain ⟨e0, e1, e2⟩ := (st2.box 0 (w.heap.size + 1, [.int .i64 p, .int .i64 m, .int .i64 l]) rfl).cell3
  obtain ⟨f0, f1, f2⟩ := (st2.box 1 (w.heap.size, [.int .i64 p, .int .i64 n, .int .i64 k]) rfl).cell3
  have ez := (st2.box 0 (w.heap.size + 1, [.int .i64 p, .int .i64 m, .int .i64 l]) rfl).2.2
  have fz := (st2.box 1 (w.heap.size, [.int .i64 p, .int .i64 n, .int .i64 k]) rfl).2.2
  dsimp only at ez fz
  clear st2
  go_wp2
  all_goals first
    | contradiction
    | (go_ret; exact ⟨rfl, by go_grown⟩)

theorem l03Like_ok (p n k l : Int) (h : ChP p n k) (h' : ChP p n l)  (w : World) :
    Calls Try.prog 132 #[.agg #[.int .i64 p, .int .i64 n, .int .i64 k], .agg #[.int .i64 p, .int .i64 n, .int .i64 l]] w fun e w' => e = .returned (.int .i64 0) ∧ Below w.heap.size w w' := by
  have H := Lib.hid h; clear h
  have H' := Lib.hid h'; clear h'
  have st0 := St.start w
  replace st0 := (st0.alloc (.cells #[.int .i64 p, .int .i64 n, .int .i64 k] 38)).addBox _ [.int .i64 p, .int .i64 n, .int .i64 k] (Box.made _ _ _ _ (fun j v h => by simpa using h))
  replace st0 := (st0.alloc (.cells #[.int .i64 p, .int .i64 n, .int .i64 l] 38)).addBox _ [.int .i64 p, .int .i64 n, .int .i64 l] (Box.made _ _ _ _ (fun j v h => by simpa using h))
  simp only [World.size_alloc] at st0
  go_enter Try.func132, Try.ntmps132
  go_wp2_with fail
  refine (l03Is_dec p n k true (.inl ⟨H.out, rfl⟩) _).mono ?_
  rintro e w1 ⟨rfl, b1⟩
  have st1 := st0.keep b1
  have hz1 := b1.size
  try simp only [World.size_alloc] at hz1
  clear st0 b1
  obtain ⟨e0, e1, e2⟩ := (st1.box 0 (w.heap.size + 1, [.int .i64 p, .int .i64 n, .int .i64 l]) rfl).cell3
  go_wp2_with fail
  refine (l03Is_dec p n l true (.inl ⟨H'.out, rfl⟩) _).mono ?_
  rintro e w2 ⟨rfl, b2⟩
  clear e0 e1 e2
  have st2 := st1.keep b2
  have hz2 := b2.size
  try simp only [World.size_alloc] at hz2
  clear st1 b2
  have BB := st2.1
  obtain ⟨e0, e1, e2⟩ := (st2.box 0 (w.heap.size + 1, [.int .i64 p, .int .i64 n, .int .i64 l]) rfl).cell3
  obtain ⟨f0, f1, f2⟩ := (st2.box 1 (w.heap.size, [.int .i64 p, .int .i64 n, .int .i64 k]) rfl).cell3
  have ez := (st2.box 0 (w.heap.size + 1, [.int .i64 p, .int .i64 n, .int .i64 l]) rfl).2.2
  have fz := (st2.box 1 (w.heap.size, [.int .i64 p, .int .i64 n, .int .i64 k]) rfl).2.2
  dsimp only at ez fz
  clear st2
  go_wp2
  all_goals first
    | contradiction
    | (go_ret; exact ⟨rfl, by go_grown⟩)

theorem characterPairCode_any (p n k q m l c : Int) (h : pcC p n k q m l c) (w : World) :
    Calls Try.prog 130 #[.agg #[.int .i64 p, .int .i64 n, .int .i64 k], .agg #[.int .i64 q, .int .i64 m, .int .i64 l]] w fun e w' => e = .returned (.int .i64 c) ∧ Below w.heap.size w w' := by
  rcases h with ⟨rfl, h⟩ | ⟨rfl, h1, h2, h3⟩ | ⟨rfl, h1, h2, rfl, rfl⟩
  · by_cases h1 : ChP p n k
    · exact characterPairCode_bad2 p n k q m l h1 (fun h2 => h ⟨h1, h2⟩) w
    · exact characterPairCode_bad1 p n k q m l h1 w
  · by_cases e : p = q
    · subst e
      exact characterPairCode_diff2 p n k m l h1 h2 (fun e => h3 ⟨rfl, e⟩) w
    · exact characterPairCode_diff1 p n k q m l h1 h2 e w
  · exact characterPairCode_ok p n k l h1 h2 w
theorem l03Like_any (p n k q m l c : Int) (h : pcC p n k q m l c) (w : World) :
    Calls Try.prog 132 #[.agg #[.int .i64 p, .int .i64 n, .int .i64 k], .agg #[.int .i64 q, .int .i64 m, .int .i64 l]] w fun e w' => e = .returned (.int .i64 c) ∧ Below w.heap.size w w' := by
  rcases h with ⟨rfl, h⟩ | ⟨rfl, h1, h2, h3⟩ | ⟨rfl, h1, h2, rfl, rfl⟩
  · by_cases h1 : ChP p n k
    · exact l03Like_bad2 p n k q m l h1 (fun h2 => h ⟨h1, h2⟩) w
    · exact l03Like_bad1 p n k q m l h1 w
  · by_cases e : p = q
    · subst e
      exact l03Like_diff2 p n k m l h1 h2 (fun e => h3 ⟨rfl, e⟩) w
    · exact l03Like_diff1 p n k q m l h1 h2 e w
  · exact l03Like_ok p n k l h1 h2 w

theorem MultiplyCharacters_impl_bad (p n k q m l c : Int) (h : pcC p n k q m l c) (hc : c ≠ 0) (w : World) :
    Calls Try.prog 24 #[.agg #[.int .i64 p, .int .i64 n, .int .i64 k], .agg #[.int .i64 q, .int .i64 m, .int .i64 l]] w fun e w' => e = .returned (noC c) ∧ Below w.heap.size w w' := by
  have H := Lib.hid h; clear h
  have hcb : (c != 0) = true := by rw [bne_iff_ne]; exact hc
  have st0 := St.start w
  replace st0 := (st0.alloc (.cells #[.int .i64 p, .int .i64 n, .int .i64 k] 38)).addBox _ [.int .i64 p, .int .i64 n, .int .i64 k] (Box.made _ _ _ _ (fun j v h => by simpa using h))
  replace st0 := (st0.alloc (.cells #[.int .i64 q, .int .i64 m, .int .i64 l] 38)).addBox _ [.int .i64 q, .int .i64 m, .int .i64 l] (Box.made _ _ _ _ (fun j v h => by simpa using h))
  replace st0 := (st0.alloc (.cells #[.int .i64 0, .int .i64 0, .int .i64 0] 38)).addBox _ [.int .i64 0, .int .i64 0, .int .i64 0] (Box.made _ _ _ _ (fun j v h => by simpa using h))
  simp only [World.size_alloc] at st0
  go_enter Try.func24, Try.ntmps24
  go_wp2_with fail
  refine (characterPairCode_any p n k q m l c H.out _).mono ?_
  rintro e w1 ⟨rfl, b1⟩
  have st1 := st0.keep b1
  have hz1 := b1.size
  try simp only [World.size_alloc] at hz1
  clear st0 b1
  obtain ⟨d0, d1, d2⟩ := (st1.box 0 (w.heap.size + 1 + 1, [.int .i64 0, .int .i64 0, .int .i64 0]) rfl).cell3
  have dz := (st1.box 0 (w.heap.size + 1 + 1, [.int .i64 0, .int .i64 0, .int .i64 0]) rfl).2.2
  have BB := st1.1
  dsimp only at dz
  go_wp2
  refine bodyPost_ret (v := noC c) (by simp [results, Try.results24, go_sem, noC, d0, d1, d2]) rfl ?_
  exact ⟨rfl, by go_grown⟩
theorem MultiplyCharacters_impl_ok (p n k l : Nat) (hp : primeN p = true) (h1 : 1 ≤ n) (h2 : n ≤ 16) (hd : (p - 1) % n = 0) (hk : k < n) (hl : l < n) (w : World) :
    Calls Try.prog 24 #[.agg #[.int .i64 (p : Int), .int .i64 (n : Int), .int .i64 (k : Int)], .agg #[.int .i64 (p : Int), .int .i64 (n : Int), .int .i64 (l : Int)]] w fun e w' => e = .returned (.tuple #[.agg #[.int .i64 (p : Int), .int .i64 (n : Int), .int .i64 ((k + l) % n : Nat)], .int .i64 0]) ∧ Below w.heap.size w w' := by
  have H := Lib.hid (show pcC p n k p n l 0 from .inr (.inr ⟨rfl, ChP.mk hp h1 h2 hd hk, ChP.mk hp h1 h2 hd hl, rfl, rfl⟩))
  clear hp hd
  generalize hr : (k + l) % n = r
  have HR := Lib.hid hr; clear hr
  have st0 := St.start w
  replace st0 := (st0.alloc (.cells #[.int .i64 (p : Int), .int .i64 (n : Int), .int .i64 (k : Int)] 38)).addBox _ [.int .i64 (p : Int), .int .i64 (n : Int), .int .i64 (k : Int)] (Box.made _ _ _ _ (fun j v h => by simpa using h))
  replace st0 := (st0.alloc (.cells #[.int .i64 (p : Int), .int .i64 (n : Int), .int .i64 (l : Int)] 38)).addBox _ [.int .i64 (p : Int), .int .i64 (n : Int), .int .i64 (l : Int)] (Box.made _ _ _ _ (fun j v h => by simpa using h))
  replace st0 := (st0.alloc (.cells #[.int .i64 0, .int .i64 0, .int .i64 0] 38)).addBox _ [.int .i64 0, .int .i64 0, .int .i64 0] (Box.made _ _ _ _ (fun j v h => by simpa using h))
  simp only [World.size_alloc] at st0
  go_enter Try.func24, Try.ntmps24
  go_wp2_with fail
  refine (characterPairCode_any p n k p n l 0 H.out _).mono ?_
  rintro e w1 ⟨rfl, b1⟩
  have st1 := st0.keep b1
  have hz1 := b1.size
  try simp only [World.size_alloc] at hz1
  clear st0 b1
  obtain ⟨e0, e1, e2⟩ := (st1.box 1 (w.heap.size + 1, [.int .i64 (p : Int), .int .i64 (n : Int), .int .i64 (l : Int)]) rfl).cell3
  obtain ⟨f0, f1, f2⟩ := (st1.box 2 (w.heap.size, [.int .i64 (p : Int), .int .i64 (n : Int), .int .i64 (k : Int)]) rfl).cell3
  go_wp2_with fail
  refine (characterProduct_any p n k p n l h1 h2 hk (by omega) _).mono ?_
  rintro e w2 ⟨rfl, b2⟩
  clear e0 e1 e2 f0 f1 f2
  have st2 := st1.keep b2
  have hz2 := b2.size
  try simp only [World.size_alloc] at hz2
  clear st1 b2
  obtain ⟨d0, d1, d2⟩ := (st2.box 0 (w.heap.size + 1 + 1, [.int .i64 0, .int .i64 0, .int .i64 0]) rfl).cell3
  have dz := (st2.box 0 (w.heap.size + 1 + 1, [.int .i64 0, .int .i64 0, .int .i64 0]) rfl).2.2
  have BB := st2.1
  dsimp only at dz
  rw [HR.out]
  go_wp2
  refine bodyPost_ret (v := .tuple #[.agg #[.int .i64 (p : Int), .int .i64 (n : Int), .int .i64 (r : Int)], .int .i64 0]) (by simp [results, Try.results24, go_sem, d0, d1, d2]) rfl ?_
  exact ⟨rfl, by go_grown⟩

theorem MultiplyCharacters_spec_bad (p n k q m l c : Int) (h : pcC p n k q m l c) (hc : c ≠ 0) (w : World) :
    Calls Try.prog 25 #[.agg #[.int .i64 p, .int .i64 n, .int .i64 k], .agg #[.int .i64 q, .int .i64 m, .int .i64 l]] w fun e w' => e = .returned (noC c) ∧ Below w.heap.size w w' := by
  have H := Lib.hid h; clear h
  have hcb : (c != 0) = true := by rw [bne_iff_ne]; exact hc
  have st0 := St.start w
  replace st0 := (st0.alloc (.cells #[.int .i64 p, .int .i64 n, .int .i64 k] 38)).addBox _ [.int .i64 p, .int .i64 n, .int .i64 k] (Box.made _ _ _ _ (fun j v h => by simpa using h))
  replace st0 := (st0.alloc (.cells #[.int .i64 q, .int .i64 m, .int .i64 l] 38)).addBox _ [.int .i64 q, .int .i64 m, .int .i64 l] (Box.made _ _ _ _ (fun j v h => by simpa using h))
  replace st0 := (st0.alloc (.cells #[.int .i64 0, .int .i64 0, .int .i64 0] 38)).addBox _ [.int .i64 0, .int .i64 0, .int .i64 0] (Box.made _ _ _ _ (fun j v h => by simpa using h))
  simp only [World.size_alloc] at st0
  go_enter Try.func25, Try.ntmps25
  go_wp2_with fail
  refine (l03Like_any p n k q m l c H.out _).mono ?_
  rintro e w1 ⟨rfl, b1⟩
  have st1 := st0.keep b1
  have hz1 := b1.size
  try simp only [World.size_alloc] at hz1
  clear st0 b1
  obtain ⟨d0, d1, d2⟩ := (st1.box 0 (w.heap.size + 1 + 1, [.int .i64 0, .int .i64 0, .int .i64 0]) rfl).cell3
  have dz := (st1.box 0 (w.heap.size + 1 + 1, [.int .i64 0, .int .i64 0, .int .i64 0]) rfl).2.2
  have BB := st1.1
  dsimp only at dz
  go_wp2
  refine bodyPost_ret (v := noC c) (by simp [results, Try.results25, go_sem, noC, d0, d1, d2]) rfl ?_
  exact ⟨rfl, by go_grown⟩
theorem MultiplyCharacters_spec_ok (p n k l : Nat) (hp : primeN p = true) (h1 : 1 ≤ n) (h2 : n ≤ 16) (hd : (p - 1) % n = 0) (hk : k < n) (hl : l < n) (w : World) :
    Calls Try.prog 25 #[.agg #[.int .i64 (p : Int), .int .i64 (n : Int), .int .i64 (k : Int)], .agg #[.int .i64 (p : Int), .int .i64 (n : Int), .int .i64 (l : Int)]] w fun e w' => e = .returned (.tuple #[.agg #[.int .i64 (p : Int), .int .i64 (n : Int), .int .i64 ((k + l) % n : Nat)], .int .i64 0]) ∧ Below w.heap.size w w' := by
  have H := Lib.hid (show pcC p n k p n l 0 from .inr (.inr ⟨rfl, ChP.mk hp h1 h2 hd hk, ChP.mk hp h1 h2 hd hl, rfl, rfl⟩))
  clear hp hd
  generalize hr : (k + l) % n = r
  have HR := Lib.hid hr; clear hr
  have st0 := St.start w
  replace st0 := (st0.alloc (.cells #[.int .i64 (p : Int), .int .i64 (n : Int), .int .i64 (k : Int)] 38)).addBox _ [.int .i64 (p : Int), .int .i64 (n : Int), .int .i64 (k : Int)] (Box.made _ _ _ _ (fun j v h => by simpa using h))
  replace st0 := (st0.alloc (.cells #[.int .i64 (p : Int), .int .i64 (n : Int), .int .i64 (l : Int)] 38)).addBox _ [.int .i64 (p : Int), .int .i64 (n : Int), .int .i64 (l : Int)] (Box.made _ _ _ _ (fun j v h => by simpa using h))
  replace st0 := (st0.alloc (.cells #[.int .i64 0, .int .i64 0, .int .i64 0] 38)).addBox _ [.int .i64 0, .int .i64 0, .int .i64 0] (Box.made _ _ _ _ (fun j v h => by simpa using h))
  simp only [World.size_alloc] at st0
  go_enter Try.func25, Try.ntmps25
  go_wp2_with fail
  refine (l03Like_any p n k p n l 0 H.out _).mono ?_
  rintro e w1 ⟨rfl, b1⟩
  have st1 := st0.keep b1
  have hz1 := b1.size
  try simp only [World.size_alloc] at hz1
  clear st0 b1
  obtain ⟨e0, e1, e2⟩ := (st1.box 1 (w.heap.size + 1, [.int .i64 (p : Int), .int .i64 (n : Int), .int .i64 (l : Int)]) rfl).cell3
  obtain ⟨f0, f1, f2⟩ := (st1.box 2 (w.heap.size, [.int .i64 (p : Int), .int .i64 (n : Int), .int .i64 (k : Int)]) rfl).cell3
  go_wp2_with fail
  refine (l03Times_any p n k p n l h1 h2 hk (by omega) _).mono ?_
  rintro e w2 ⟨rfl, b2⟩
  clear e0 e1 e2 f0 f1 f2
  have st2 := st1.keep b2
  have hz2 := b2.size
  try simp only [World.size_alloc] at hz2
  clear st1 b2
  obtain ⟨d0, d1, d2⟩ := (st2.box 0 (w.heap.size + 1 + 1, [.int .i64 0, .int .i64 0, .int .i64 0]) rfl).cell3
  have dz := (st2.box 0 (w.heap.size + 1 + 1, [.int .i64 0, .int .i64 0, .int .i64 0]) rfl).2.2
  have BB := st2.1
  dsimp only at dz
  rw [HR.out]
  go_wp2
  refine bodyPost_ret (v := .tuple #[.agg #[.int .i64 (p : Int), .int .i64 (n : Int), .int .i64 (r : Int)], .int .i64 0]) (by simp [results, Try.results25, go_sem, d0, d1, d2]) rfl ?_
  exact ⟨rfl, by go_grown⟩
end

section
open Go.RowKit Go.ChangeShapes Go.Sort
set_option linter.unusedVariables false
set_option linter.unusedSimpArgs false

theorem OrthogonalSum_impl_bad (p n k q m l c : Int) (h : pcC p n k q m l c) (hc : c ≠ 0) (w : World) :
    Calls Try.prog 56 #[.agg #[.int .i64 p, .int .i64 n, .int .i64 k], .agg #[.int .i64 q, .int .i64 m, .int .i64 l]] w fun e w' => e = .returned (failV c) ∧ Below w.heap.size w w' := by
  have H := Lib.hid h; clear h
  have hcb : (c != 0) = true := by rw [bne_iff_ne]; exact hc
  have st0 := St.start w
  replace st0 := (st0.alloc (.cells #[.int .i64 p, .int .i64 n, .int .i64 k] 38)).addBox _ [.int .i64 p, .int .i64 n, .int .i64 k] (Box.made _ _ _ _ (fun j v h => by simpa using h))
  replace st0 := (st0.alloc (.cells #[.int .i64 q, .int .i64 m, .int .i64 l] 38)).addBox _ [.int .i64 q, .int .i64 m, .int .i64 l] (Box.made _ _ _ _ (fun j v h => by simpa using h))
  replace st0 := (st0.alloc (.cells #[.int .i64 0, .slice none 0 0] 28)).addBox _ [.int .i64 0, .slice none 0 0] (Box.made _ _ _ _ (fun j v h => by simpa using h))
  simp only [World.size_alloc] at st0
  go_enter Try.func56, Try.ntmps56
  go_wp2_with fail
  refine (characterPairCode_any p n k q m l c H.out _).mono ?_
  rintro e w1 ⟨rfl, b1⟩
  have st1 := st0.keep b1
  have hz1 := b1.size
  try simp only [World.size_alloc] at hz1
  clear st0 b1
  obtain ⟨d0, d1⟩ := (st1.box 0 (w.heap.size + 1 + 1, [.int .i64 0, .slice none 0 0]) rfl).cell2
  have dz := (st1.box 0 (w.heap.size + 1 + 1, [.int .i64 0, .slice none 0 0]) rfl).2.2
  have BB := st1.1
  dsimp only at dz
  go_wp2
  refine bodyPost_ret (v := failV c) (by simp [results, Try.results56, go_sem, failV, d0, d1]) rfl ?_
  exact ⟨rfl, by go_grown⟩

theorem OrthogonalSum_spec_bad (p n k q m l c : Int) (h : pcC p n k q m l c) (hc : c ≠ 0) (w : World) :
    Calls Try.prog 57 #[.agg #[.int .i64 p, .int .i64 n, .int .i64 k], .agg #[.int .i64 q, .int .i64 m, .int .i64 l]] w fun e w' => e = .returned (failV c) ∧ Below w.heap.size w w' := by
  have H := Lib.hid h; clear h
  have hcb : (c != 0) = true := by rw [bne_iff_ne]; exact hc
  have st0 := St.start w
  replace st0 := (st0.alloc (.cells #[.int .i64 p, .int .i64 n, .int .i64 k] 38)).addBox _ [.int .i64 p, .int .i64 n, .int .i64 k] (Box.made _ _ _ _ (fun j v h => by simpa using h))
  replace st0 := (st0.alloc (.cells #[.int .i64 q, .int .i64 m, .int .i64 l] 38)).addBox _ [.int .i64 q, .int .i64 m, .int .i64 l] (Box.made _ _ _ _ (fun j v h => by simpa using h))
  replace st0 := (st0.alloc (.cells #[.int .i64 0, .slice none 0 0] 28)).addBox _ [.int .i64 0, .slice none 0 0] (Box.made _ _ _ _ (fun j v h => by simpa using h))
  simp only [World.size_alloc] at st0
  go_enter Try.func57, Try.ntmps57
  go_wp2_with fail
  refine (l03Like_any p n k q m l c H.out _).mono ?_
  rintro e w1 ⟨rfl, b1⟩
  have st1 := st0.keep b1
  have hz1 := b1.size
  try simp only [World.size_alloc] at hz1
  clear st0 b1
  obtain ⟨d0, d1⟩ := (st1.box 0 (w.heap.size + 1 + 1, [.int .i64 0, .slice none 0 0]) rfl).cell2
  have dz := (st1.box 0 (w.heap.size + 1 + 1, [.int .i64 0, .slice none 0 0]) rfl).2.2
  have BB := st1.1
  dsimp only at dz
  go_wp2
  refine bodyPost_ret (v := failV c) (by simp [results, Try.results57, go_sem, failV, d0, d1]) rfl ?_
  exact ⟨rfl, by go_grown⟩

set_option maxRecDepth 100000 in
set_option maxHeartbeats 2000000 in
theorem OrthogonalSum_impl_ok (p n k l : Nat) (hp : primeN p = true) (h1 : 1 ≤ n) (h2 : n ≤ 16) (hd : (p - 1) % n = 0) (hk : k < n) (hl : l < n) (w : World) :
    Calls Try.prog 56 #[.agg #[.int .i64 (p : Int), .int .i64 (n : Int), .int .i64 (k : Int)], .agg #[.int .i64 (p : Int), .int .i64 (n : Int), .int .i64 (l : Int)]] w fun e w' => ∃ a cap, e = .returned (.tuple #[.agg #[.int .i64 (n : Int), .slice a (phiN n) cap], .int .i64 0]) ∧ Sl true w' w.heap.size w'.heap.size (.slice a (phiN n) cap) (phiN n) (sumZ p n ((k + (n - l) % n) % n) (fun _ => 1) p) ∧ Below w.heap.size w w' := by
  have H := Lib.hid (show pcC p n k p n l 0 from .inr (.inr ⟨rfl, ChP.mk hp h1 h2 hd hk, ChP.mk hp h1 h2 hd hl, rfl, rfl⟩))
  have HP := Lib.hid hp
  clear hp hd
  have hr := Nat.mod_lt (n - l) (show 0 < n by omega)
  have HINV := Lib.hid (fun w => characterInverse_any p n l h1 h2 hl w)
  generalize (n - l) % n = r at *
  have HPRD := Lib.hid (fun w => characterProduct_any p n k p n r h1 h2 hk (by omega) w)
  have hq := Nat.mod_lt (k + r) (show 0 < n by omega)
  generalize hqe : (k + r) % n = q at *
  have HQ := Lib.hid hqe; clear hqe
  have st0 := St.start w
  replace st0 := (st0.alloc (.cells #[.int .i64 (p : Int), .int .i64 (n : Int), .int .i64 (k : Int)] 38)).addBox _ [.int .i64 (p : Int), .int .i64 (n : Int), .int .i64 (k : Int)] (Box.made _ _ _ _ (fun j v h => by simpa using h))
  replace st0 := (st0.alloc (.cells #[.int .i64 (p : Int), .int .i64 (n : Int), .int .i64 (l : Int)] 38)).addBox _ [.int .i64 (p : Int), .int .i64 (n : Int), .int .i64 (l : Int)] (Box.made _ _ _ _ (fun j v h => by simpa using h))
  replace st0 := (st0.alloc (.cells #[.int .i64 0, .slice none 0 0] 28)).addBox _ [.int .i64 0, .slice none 0 0] (Box.made _ _ _ _ (fun j v h => by simpa using h))
  simp only [World.size_alloc] at st0
  go_enter Try.func56, Try.ntmps56
  go_wp2_with fail
  refine (characterPairCode_any p n k p n l 0 H.out _).mono ?_
  rintro e w1 ⟨rfl, b1⟩
  have st1 := st0.keep b1
  have hz1 := b1.size
  try simp only [World.size_alloc] at hz1
  clear st0 b1
  obtain ⟨e0, e1, e2⟩ := (st1.box 1 (w.heap.size + 1, [.int .i64 (p : Int), .int .i64 (n : Int), .int .i64 (l : Int)]) rfl).cell3
  obtain ⟨f0, f1, f2⟩ := (st1.box 2 (w.heap.size, [.int .i64 (p : Int), .int .i64 (n : Int), .int .i64 (k : Int)]) rfl).cell3
  go_wp2_with fail
  go_region_law (first
    | (go_simp; go_at_call 136; refine (HINV.out _).mono ?_; rintro e w6 ⟨rfl, b6⟩
       have hz6 := b6.size
       have st6 := st1.drew.keep b6
       obtain ⟨x0, x1, x2⟩ := (st6.box 2 (w.heap.size, [.int .i64 (p : Int), .int .i64 (n : Int), .int .i64 (k : Int)]) rfl).cell3)
    | (go_simp; go_at_call 131; refine (HPRD.out _).mono ?_; rintro e w7 ⟨rfl, b7⟩
       have hz7 := b7.size
       have st7 := st6.keep b7)
    | (go_simp; go_at_call 163; refine (sumOfValues_any p n q HP.out h1 h2 (by omega) _).mono ?_; rintro e w8 ⟨a8, k8, rfl, s8, b8⟩
       have hz8 := b8.size
       have st8 := st7.keep b8
       obtain ⟨d0, d1⟩ := (st8.box 0 (w.heap.size + 1 + 1, [.int .i64 0, .slice none 0 0]) rfl).cell2
       have dz := (st8.box 0 (w.heap.size + 1 + 1, [.int .i64 0, .slice none 0 0]) rfl).2.2
       dsimp only at dz))
  all_goals
    have BB := st8.1
    have S8 := Lib.hid s8
    simp only [World.size_drew] at hz6
    clear st6 st7 st8 b6 b7 b8 s8
    go_wp2
    refine bodyPost_ret (v := .tuple #[.agg #[.int .i64 (n : Int), .slice a8 (phiN n) k8], .int .i64 0]) (by simp [results, Try.results56, go_sem, d0, d1]) rfl ?_
    refine ⟨_, _, rfl, ?_, by go_grown⟩
    exact ((S8.out.setOther (.inl (by show w.heap.size + 1 + 1 < _; omega)) _).setOther (.inl (by show w.heap.size + 1 + 1 < _; omega)) _).wide (by omega) (by simp) (Nat.le_refl _)

set_option maxRecDepth 100000 in
set_option maxHeartbeats 8000000 in
theorem OrthogonalSum_spec_ok (p n k l : Nat) (hp : primeN p = true) (h1 : 1 ≤ n) (h2 : n ≤ 16) (hd : (p - 1) % n = 0) (hk : k < n) (hl : l < n) (w : World) :
    Calls Try.prog 57 #[.agg #[.int .i64 (p : Int), .int .i64 (n : Int), .int .i64 (k : Int)], .agg #[.int .i64 (p : Int), .int .i64 (n : Int), .int .i64 (l : Int)]] w fun e w' => ∃ a cap, e = .returned (.tuple #[.agg #[.int .i64 (n : Int), .slice a (phiN n) cap], .int .i64 0]) ∧ Sl true w' w.heap.size w'.heap.size (.slice a (phiN n) cap) (phiN n) (sumZ p n ((k + (n - l) % n) % n) (fun _ => 1) p) ∧ Below w.heap.size w w' := by
  have hb := primeN_bd hp
  have hphi := phi_le12 n (by omega) h1
  have hpos := phiN_pos n (by omega) h1
  have hle := phi_le_n (n := n)
  have H := Lib.hid (show pcC p n k p n l 0 from .inr (.inr ⟨rfl, ChP.mk hp h1 h2 hd hk, ChP.mk hp h1 h2 hd hl, rfl, rfl⟩))
  have HP := Lib.hid hp
  have HEX := Lib.hid (fun x => orth_exp (n := n) (k := k) (k' := l) (i := idxN p x) h1 hl)
  clear hp hd
  generalize (k + (n - l) % n) % n = kk at *
  have st0 := St.start w
  replace st0 := (st0.alloc (.cells #[.int .i64 (p : Int), .int .i64 (n : Int), .int .i64 (k : Int)] 38)).addBox _ [.int .i64 (p : Int), .int .i64 (n : Int), .int .i64 (k : Int)] (Box.made _ _ _ _ (fun j v h => by simpa using h))
  replace st0 := (st0.alloc (.cells #[.int .i64 (p : Int), .int .i64 (n : Int), .int .i64 (l : Int)] 38)).addBox _ [.int .i64 (p : Int), .int .i64 (n : Int), .int .i64 (l : Int)] (Box.made _ _ _ _ (fun j v h => by simpa using h))
  replace st0 := (st0.alloc (.cells #[.int .i64 0, .slice none 0 0] 28)).addBox _ [.int .i64 0, .slice none 0 0] (Box.made _ _ _ _ (fun j v h => by simpa using h))
  simp only [World.size_alloc] at st0
  go_enter Try.func57, Try.ntmps57
  go_wp2_with fail
  refine (l03Like_any p n k p n l 0 H.out _).mono ?_
  rintro e w1 ⟨rfl, b1⟩
  have st1 := st0.keep b1
  have hz1 := b1.size
  try simp only [World.size_alloc] at hz1
  clear st0 b1
  obtain ⟨f0, f1, f2⟩ := (st1.box 2 (w.heap.size, [.int .i64 (p : Int), .int .i64 (n : Int), .int .i64 (k : Int)]) rfl).cell3
  go_wp2_with fail
  refine (l01Zero_any n (by omega) _).mono ?_
  rintro e w2 ⟨a2, k2, rfl, s2, b2⟩
  clear f0 f1 f2
  have st2 := st1.keep b2
  have hz2 := b2.size
  try simp only [World.size_alloc] at hz2
  clear st1 b2
  have S2 := Lib.hid s2
  have HT := Lib.hid (st2.boxNew (.int .i64 (n : Int)) (.slice a2 (phiN n) k2) 28)
  clear st2 s2
  go_wp2
  go_loopw [8] (fun s8 wr => ∃ (x : Nat) (a : Option Addr) (cap lo hi : Nat), 1 ≤ x ∧ x ≤ p ∧ s8 = .int .i64 (x : Int) ∧ w2.heap.size < wr.heap.size ∧ w.heap.size + 1 + 1 + 1 ≤ lo ∧ (w2.heap.size < lo ∨ hi ≤ w2.heap.size) ∧ hi ≤ wr.heap.size ∧
      St w wr [(w2.heap.size, [.int .i64 (n : Int), .slice a (phiN n) cap]), (w.heap.size + 1 + 1, [.int .i64 0, .slice none 0 0]), (w.heap.size + 1, [.int .i64 (p : Int), .int .i64 (n : Int), .int .i64 (l : Int)]), (w.heap.size, [.int .i64 (p : Int), .int .i64 (n : Int), .int .i64 (k : Int)])] [⟨true, lo, hi, .slice a (phiN n) cap, phiN n, sumZ p n kk (fun _ => 1) x⟩]) (fun s8 _ => p + 1 - (intOf s8).toNat)
  case atStart => exact ⟨1, a2, k2, w.heap.size + 1 + 1 + 1, w2.heap.size, by omega, by omega, rfl, by simp, by omega, .inr (Nat.le_refl _), by simp, HT.out.addSl ⟨true, w.heap.size + 1 + 1 + 1, w2.heap.size, .slice a2 (phiN n) k2, phiN n, sumZ p n kk (fun _ => 1) 1⟩ (((S2.out.alloc _).congr (f' := sumZ p n kk (fun _ => 1) 1) (fun j hj => sumZ_one)).wide (by omega) (Nat.le_refl _) (by simp))⟩
  case round =>
    clear S2 HT
    obtain ⟨x, a, cap, lo, hi, hx1, hx, rfl, hzr, hlo, hdis, hhi, hst⟩ := hrel
    obtain ⟨f0, f1, f2⟩ := (hst.box 3 (w.heap.size, [.int .i64 (p : Int), .int .i64 (n : Int), .int .i64 (k : Int)]) rfl).cell3
    obtain ⟨e0, e1, e2⟩ := (hst.box 2 (w.heap.size + 1, [.int .i64 (p : Int), .int .i64 (n : Int), .int .i64 (l : Int)]) rfl).cell3
    by_cases hlt : x < p
    · have HA := Lib.hid (fun j => atP_some (p := p) (n := n) (k := k) (x := (x : Int)) (by rw [restN_nat hlt]; omega) j)
      have HBI := Lib.hid (img_big (n := n) (a := n - 1) (L := phiN n) (f := atP p n l (x : Int)) (by omega) h1 (atP_within (by omega) h1) (by omega))
      have HPZ := Lib.hid (show ∀ j, j < phiN n → prodZ n (phiN n) (atP p n k (x : Int)) (imgP n (n - 1) (phiN n) (atP p n l (x : Int))) j = tb n (expN p n kk x) j from fun j hj => by
        have ha : ∀ i, i < phiN n → atP p n k (x : Int) i = tb n (expN p n k x) i := fun i _ => by rw [atP_some (by rw [restN_nat hlt]; omega), restN_nat hlt]
        have hbr : ∀ i, i < phiN n → imgP n (n - 1) (phiN n) (atP p n l (x : Int)) i = tb n (expN p n l x * (n - 1) % n) i := fun i hi' => bar_tb (by omega) h1 (expN_lt h1) (fun i _ => by rw [atP_some (by rw [restN_nat hlt]; omega), restN_nat hlt]) hi'
        rw [orth_tb (by omega) h1 (expN_lt h1) (Nat.mod_lt _ h1) ha hbr hj]
        exact congrArg (fun q => tb n q j) (HEX.out x))
      have HPW := Lib.hid (show Within (prodZ n (phiN n) (atP p n k (x : Int)) (imgP n (n - 1) (phiN n) (atP p n l (x : Int)))) (phiN n) 1000000000 from fun j hj => by
        rw [HPZ.out j hj]
        have := tab_one n (by omega) h1 (expN p n kk x) (expN_lt h1) j hj
        omega)
      have HWI := Lib.hid (sumZ_ok (p := p) (n := n) (k := kk) (x := x) (W := fun _ => 1) (by omega) h1 (by omega) (fun y _ => by omega))
      have STX := Lib.hid hst
      clear hst HA
      go_wp2_with fail
      go_cut [9, 10] (fun s9 s10 wx => ∃ bq loq hiq aq kq, s9 = .pointer (some ⟨bq, 0, none⟩) ∧ s10 = .bool true ∧ Sl true wx loq hiq (.slice aq (phiN n) kq) (phiN n) (prodZ n (phiN n) (atP p n k (x : Int)) (imgP n (n - 1) (phiN n) (atP p n l (x : Int)))) ∧ (bq < loq ∨ hiq ≤ bq) ∧ wr.heap.size ≤ loq ∧ wr.heap.size ≤ bq ∧ bq < wx.heap.size ∧ hiq ≤ wx.heap.size ∧ St w wx ((bq, [.int .i64 (n : Int), .slice aq (phiN n) kq]) :: [(w2.heap.size, [.int .i64 (n : Int), .slice a (phiN n) cap]), (w.heap.size + 1 + 1, [.int .i64 0, .slice none 0 0]), (w.heap.size + 1, [.int .i64 (p : Int), .int .i64 (n : Int), .int .i64 (l : Int)]), (w.heap.size, [.int .i64 (p : Int), .int .i64 (n : Int), .int .i64 (k : Int)])]) [⟨true, lo, hi, .slice a (phiN n) cap, phiN n, sumZ p n kk (fun _ => 1) x⟩])
      case first =>
        go_region_held3 (fun w' => w'.cell? ⟨w.heap.size, 0, none⟩ = some (.int .i64 (p : Int)) ∧ w'.cell? ⟨w.heap.size, 1, none⟩ = some (.int .i64 (n : Int)) ∧ w'.cell? ⟨w.heap.size, 2, none⟩ = some (.int .i64 (k : Int)) ∧ w'.cell? ⟨w.heap.size + 1, 0, none⟩ = some (.int .i64 (p : Int)) ∧ w'.cell? ⟨w.heap.size + 1, 1, none⟩ = some (.int .i64 (n : Int)) ∧ w'.cell? ⟨w.heap.size + 1, 2, none⟩ = some (.int .i64 (l : Int)))
          (first | exact ⟨f0, f1, f2, e0, e1, e2⟩ | (have q0 := (st9.box 3 (w.heap.size, [.int .i64 (p : Int), .int .i64 (n : Int), .int .i64 (k : Int)]) rfl).cell3; have q1 := (st9.box 2 (w.heap.size + 1, [.int .i64 (p : Int), .int .i64 (n : Int), .int .i64 (l : Int)]) rfl).cell3; with_reducible exact ⟨q0.1, q0.2.1, q0.2.2, q1.1, q1.2.1, q1.2.2⟩) | (have q0 := (st9.box 4 (w.heap.size, [.int .i64 (p : Int), .int .i64 (n : Int), .int .i64 (k : Int)]) rfl).cell3; have q1 := (st9.box 3 (w.heap.size + 1, [.int .i64 (p : Int), .int .i64 (n : Int), .int .i64 (l : Int)]) rfl).cell3; with_reducible exact ⟨q0.1, q0.2.1, q0.2.2, q1.1, q1.2.1, q1.2.2⟩) | (have q0 := ((st9.boxNew (.int .i64 0) (.slice none 0 0) 28).box 4 (w.heap.size, [.int .i64 (p : Int), .int .i64 (n : Int), .int .i64 (k : Int)]) rfl).cell3; have q1 := ((st9.boxNew (.int .i64 0) (.slice none 0 0) 28).box 3 (w.heap.size + 1, [.int .i64 (p : Int), .int .i64 (n : Int), .int .i64 (l : Int)]) rfl).cell3; with_reducible exact ⟨q0.1, q0.2.1, q0.2.2, q1.1, q1.2.1, q1.2.2⟩) | (have q0 := (st8.box 3 (w.heap.size, [.int .i64 (p : Int), .int .i64 (n : Int), .int .i64 (k : Int)]) rfl).cell3; have q1 := (st8.box 2 (w.heap.size + 1, [.int .i64 (p : Int), .int .i64 (n : Int), .int .i64 (l : Int)]) rfl).cell3; with_reducible exact ⟨q0.1, q0.2.1, q0.2.2, q1.1, q1.2.1, q1.2.2⟩) | (have q0 := (st8.box 4 (w.heap.size, [.int .i64 (p : Int), .int .i64 (n : Int), .int .i64 (k : Int)]) rfl).cell3; have q1 := (st8.box 3 (w.heap.size + 1, [.int .i64 (p : Int), .int .i64 (n : Int), .int .i64 (l : Int)]) rfl).cell3; with_reducible exact ⟨q0.1, q0.2.1, q0.2.2, q1.1, q1.2.1, q1.2.2⟩) | (have q0 := ((st8.boxNew (.int .i64 0) (.slice none 0 0) 28).box 4 (w.heap.size, [.int .i64 (p : Int), .int .i64 (n : Int), .int .i64 (k : Int)]) rfl).cell3; have q1 := ((st8.boxNew (.int .i64 0) (.slice none 0 0) 28).box 3 (w.heap.size + 1, [.int .i64 (p : Int), .int .i64 (n : Int), .int .i64 (l : Int)]) rfl).cell3; with_reducible exact ⟨q0.1, q0.2.1, q0.2.2, q1.1, q1.2.1, q1.2.2⟩) | (have q0 := (st7.box 3 (w.heap.size, [.int .i64 (p : Int), .int .i64 (n : Int), .int .i64 (k : Int)]) rfl).cell3; have q1 := (st7.box 2 (w.heap.size + 1, [.int .i64 (p : Int), .int .i64 (n : Int), .int .i64 (l : Int)]) rfl).cell3; with_reducible exact ⟨q0.1, q0.2.1, q0.2.2, q1.1, q1.2.1, q1.2.2⟩) | (have q0 := (st7.box 4 (w.heap.size, [.int .i64 (p : Int), .int .i64 (n : Int), .int .i64 (k : Int)]) rfl).cell3; have q1 := (st7.box 3 (w.heap.size + 1, [.int .i64 (p : Int), .int .i64 (n : Int), .int .i64 (l : Int)]) rfl).cell3; with_reducible exact ⟨q0.1, q0.2.1, q0.2.2, q1.1, q1.2.1, q1.2.2⟩) | (have q0 := ((st7.boxNew (.int .i64 0) (.slice none 0 0) 28).box 4 (w.heap.size, [.int .i64 (p : Int), .int .i64 (n : Int), .int .i64 (k : Int)]) rfl).cell3; have q1 := ((st7.boxNew (.int .i64 0) (.slice none 0 0) 28).box 3 (w.heap.size + 1, [.int .i64 (p : Int), .int .i64 (n : Int), .int .i64 (l : Int)]) rfl).cell3; with_reducible exact ⟨q0.1, q0.2.1, q0.2.2, q1.1, q1.2.1, q1.2.2⟩) | (have q0 := (st6.box 3 (w.heap.size, [.int .i64 (p : Int), .int .i64 (n : Int), .int .i64 (k : Int)]) rfl).cell3; have q1 := (st6.box 2 (w.heap.size + 1, [.int .i64 (p : Int), .int .i64 (n : Int), .int .i64 (l : Int)]) rfl).cell3; with_reducible exact ⟨q0.1, q0.2.1, q0.2.2, q1.1, q1.2.1, q1.2.2⟩) | (have q0 := (st6.box 4 (w.heap.size, [.int .i64 (p : Int), .int .i64 (n : Int), .int .i64 (k : Int)]) rfl).cell3; have q1 := (st6.box 3 (w.heap.size + 1, [.int .i64 (p : Int), .int .i64 (n : Int), .int .i64 (l : Int)]) rfl).cell3; with_reducible exact ⟨q0.1, q0.2.1, q0.2.2, q1.1, q1.2.1, q1.2.2⟩) | (have q0 := ((st6.boxNew (.int .i64 0) (.slice none 0 0) 28).box 4 (w.heap.size, [.int .i64 (p : Int), .int .i64 (n : Int), .int .i64 (k : Int)]) rfl).cell3; have q1 := ((st6.boxNew (.int .i64 0) (.slice none 0 0) 28).box 3 (w.heap.size + 1, [.int .i64 (p : Int), .int .i64 (n : Int), .int .i64 (l : Int)]) rfl).cell3; with_reducible exact ⟨q0.1, q0.2.1, q0.2.2, q1.1, q1.2.1, q1.2.2⟩) | (have q0 := ((st9.boxNew (.int .i64 (n : Int)) (.slice a9 (phiN n) k9) 28).box 4 (w.heap.size, [.int .i64 (p : Int), .int .i64 (n : Int), .int .i64 (k : Int)]) rfl).cell3; have q1 := ((st9.boxNew (.int .i64 (n : Int)) (.slice a9 (phiN n) k9) 28).box 3 (w.heap.size + 1, [.int .i64 (p : Int), .int .i64 (n : Int), .int .i64 (l : Int)]) rfl).cell3; with_reducible exact ⟨q0.1, q0.2.1, q0.2.2, q1.1, q1.2.1, q1.2.2⟩) | (have q0 := ((STX.out.boxNew (.int .i64 0) (.slice none 0 0) 28).box 4 (w.heap.size, [.int .i64 (p : Int), .int .i64 (n : Int), .int .i64 (k : Int)]) rfl).cell3; have q1 := ((STX.out.boxNew (.int .i64 0) (.slice none 0 0) 28).box 3 (w.heap.size + 1, [.int .i64 (p : Int), .int .i64 (n : Int), .int .i64 (l : Int)]) rfl).cell3; with_reducible exact ⟨q0.1, q0.2.1, q0.2.2, q1.1, q1.2.1, q1.2.2⟩) | (have q0 := ((STX.out.boxNew (.int .i64 0) (.slice none 0 0) 28).drew.box 4 (w.heap.size, [.int .i64 (p : Int), .int .i64 (n : Int), .int .i64 (k : Int)]) rfl).cell3; have q1 := ((STX.out.boxNew (.int .i64 0) (.slice none 0 0) 28).drew.box 3 (w.heap.size + 1, [.int .i64 (p : Int), .int .i64 (n : Int), .int .i64 (l : Int)]) rfl).cell3; with_reducible exact ⟨q0.1, q0.2.1, q0.2.2, q1.1, q1.2.1, q1.2.2⟩) | (have q0 := (STX.out.drew.box 3 (w.heap.size, [.int .i64 (p : Int), .int .i64 (n : Int), .int .i64 (k : Int)]) rfl).cell3; have q1 := (STX.out.drew.box 2 (w.heap.size + 1, [.int .i64 (p : Int), .int .i64 (n : Int), .int .i64 (l : Int)]) rfl).cell3; with_reducible exact ⟨q0.1, q0.2.1, q0.2.2, q1.1, q1.2.1, q1.2.2⟩) | exact ⟨cell_set2 (st9.box 4 (w.heap.size, [.int .i64 (p : Int), .int .i64 (n : Int), .int .i64 (k : Int)]) rfl).cell3.1 (by omega), cell_set2 (st9.box 4 (w.heap.size, [.int .i64 (p : Int), .int .i64 (n : Int), .int .i64 (k : Int)]) rfl).cell3.2.1 (by omega), cell_set2 (st9.box 4 (w.heap.size, [.int .i64 (p : Int), .int .i64 (n : Int), .int .i64 (k : Int)]) rfl).cell3.2.2 (by omega), cell_set2 (st9.box 3 (w.heap.size + 1, [.int .i64 (p : Int), .int .i64 (n : Int), .int .i64 (l : Int)]) rfl).cell3.1 (by omega), cell_set2 (st9.box 3 (w.heap.size + 1, [.int .i64 (p : Int), .int .i64 (n : Int), .int .i64 (l : Int)]) rfl).cell3.2.1 (by omega), cell_set2 (st9.box 3 (w.heap.size + 1, [.int .i64 (p : Int), .int .i64 (n : Int), .int .i64 (l : Int)]) rfl).cell3.2.2 (by omega)⟩)
          (first
      | (go_at_call 165; have _g := b8; refine (l01Times_any n h1 h2 (L := phiN n) _ (by first | with_reducible exact u6 | with_reducible exact (u6.alloc _)) (by first | with_reducible exact s8 | with_reducible exact (s8.alloc _)) (Within.big (atP_within (by omega) h1)) HBI.out hpos (by omega)).mono ?_; rintro e w9 ⟨a9, k9, bb, rfl, hbb, s9, b9⟩
         obtain rfl : bb = true := hbb.2 HPW.out
         clear hbb
         replace s9 := s9 rfl
         have hz9 := b9.size
         try simp only [World.size_drew, World.size_alloc] at hz9
         first | have st9 := st8.keep b9 | have st9 := (st8.boxNew (.int .i64 0) (.slice none 0 0) 28).keep b9
         try (obtain ⟨o0, o1⟩ := (st9.box 0 (_, [.int .i64 0, .slice none 0 0]) rfl).cell2
              have oz := (st9.box 0 (_, [.int .i64 0, .slice none 0 0]) rfl).2.2
              dsimp only at oz
              try simp only [World.size_alloc, World.size_drew] at o0 o1 oz))
      | (go_at_call 166; have _g := b7; refine (l01Bar_any n h1 h2 _ (by first | with_reducible exact s7 | with_reducible exact (s7.alloc _)) hle).mono ?_; rintro e w8 ⟨a8, k8, rfl, s8, b8⟩
         have hz8 := b8.size
         try simp only [World.size_drew, World.size_alloc] at hz8
         first | have u6 := t6.keep b8 t6.size | have u6 := (t6.alloc _).keep b8 (t6.alloc _).size
         first | have st8 := st7.keep b8 | have st8 := (st7.boxNew (.int .i64 0) (.slice none 0 0) 28).keep b8)
      | (go_at_call 157; have _g := b6; refine (l03At_any p n l (x : Int) HP.out h1 h2 (by omega) (by omega) (by omega) _).mono ?_; rintro e w7 ⟨a7, k7, rfl, s7, b7⟩
         have hz7 := b7.size
         try simp only [World.size_drew, World.size_alloc] at hz7
         first | have t6 := s6.keep b7 s6.size | have t6 := (s6.alloc _).keep b7 (s6.alloc _).size
         first | have st7 := st6.keep b7 | have st7 := (st6.boxNew (.int .i64 0) (.slice none 0 0) 28).keep b7)
      | (go_at_call 157; refine (l03At_any p n k (x : Int) HP.out h1 h2 (by omega) (by omega) (by omega) _).mono ?_; rintro e w6 ⟨a6, k6, rfl, s6, b6⟩
         have hz6 := b6.size
         try simp only [World.size_drew, World.size_alloc] at hz6
         first | have st6 := STX.out.drew.keep b6 | have st6 := (STX.out.boxNew (.int .i64 0) (.slice none 0 0) 28).drew.keep b6))
        all_goals
          go_wp2_with fail
          go_meet
          try simp only [World.size_drew, World.size_alloc] at s9
          first
            | exact ⟨w9.heap.size, _, _, a9, k9, rfl, rfl, s9.alloc _, .inr (Nat.le_refl _), by omega, by omega, by simp, by simp, st9.boxNew _ _ _⟩
            | (have stb := st9.boxSet (u0 := .int .i64 (n : Int)) (u1 := .slice a9 (phiN n) k9) (by (try simp only [World.size_alloc, World.size_drew]); omega)
                 (by (try simp only [World.size_alloc, World.size_drew]); intro b hb; simp only [List.mem_cons, List.not_mem_nil, or_false] at hb; rcases hb with rfl | rfl | rfl | rfl <;> dsimp only <;> omega)
                 (by (try simp only [World.size_alloc, World.size_drew]); intro s hs'; simp only [List.mem_cons, List.not_mem_nil, or_false] at hs'; rcases hs' with rfl <;> dsimp only <;> omega)
               try simp only [World.size_alloc, World.size_drew] at stb
               exact ⟨_, _, _, a9, k9, rfl, rfl, (s9.setOther (.inl (by dsimp only; omega)) _).setOther (.inl (by dsimp only; omega)) _, .inl (by omega), by omega, by omega, by simp only [World.size_setCell]; omega, by simp, stb⟩)
      case rest =>
        obtain ⟨bq, loq, hiq, aq, kq, rfl, rfl, sq, hdq, hlq, hbq, hzq, hhq, stq⟩ := hcut
        clear STX f0 f1 f2 e0 e1 e2 HBI HPW
        obtain ⟨w5, hw5⟩ : ∃ y : World, y = wc := ⟨_, rfl⟩
        subst hw5
        obtain ⟨o0, o1⟩ := (stq.box 1 (w2.heap.size, [.int .i64 (n : Int), .slice a (phiN n) cap]) rfl).cell2
        obtain ⟨g0, g1⟩ := (stq.box 0 (bq, [.int .i64 (n : Int), .slice aq (phiN n) kq]) rfl).cell2
        have slo := stq.sl 0 ⟨true, lo, hi, .slice a (phiN n) cap, phiN n, sumZ p n kk (fun _ => 1) x⟩ rfl
        have HSS := Lib.hid (show ∀ j, j < phiN n → addF 1 (sumZ p n kk (fun _ => 1) x) (prodZ n (phiN n) (atP p n k (x : Int)) (imgP n (n - 1) (phiN n) (atP p n l (x : Int)))) j = sumZ p n kk (fun _ => 1) (x + 1) j from fun j hj => by
          unfold addF
          rw [HPZ.out j hj, sumZ_succ hx1])
        have HPB := Lib.hid (show Within (prodZ n (phiN n) (atP p n k (x : Int)) (imgP n (n - 1) (phiN n) (atP p n l (x : Int)))) (phiN n) 1000000000 from fun j hj => by
          rw [HPZ.out j hj]
          have := tab_one n (by omega) h1 (expN p n kk x) (expN_lt h1) j hj
          omega)
        dsimp only at slo
        go_wp2_with fail
        refine (l01Plus_any (n : Int) 1 _ slo sq (by omega) (by omega) HWI.out HPB.out (by omega)).mono ?_
        rintro e w7 ⟨a7, k7, rfl, s7, b7⟩
        have hz7 := b7.size
        have st7 := (stq.keep b7).tailB
        obtain ⟨r0, r1⟩ := (st7.box 0 (w2.heap.size, [.int .i64 (n : Int), .slice a (phiN n) cap]) rfl).cell2
        have rz := (st7.box 0 (w2.heap.size, [.int .i64 (n : Int), .slice a (phiN n) cap]) rfl).2.2
        dsimp only at rz
        have S7 := Lib.hid s7
        have T7 := Lib.hid ((St.tail st7).boxSet (u0 := .int .i64 (n : Int)) (u1 := .slice a7 (phiN n) k7) (by omega) (by intro b hb; simp only [List.mem_cons, List.not_mem_nil, or_false] at hb; rcases hb with rfl | rfl | rfl <;> dsimp only <;> omega) (by intro s hs'; cases hs'))
        clear st7 stq slo sq s7 b7 o0 o1 g0 g1 HPZ HPB
        go_wp2
        go_roundw
        case rel => exact ⟨x + 1, a7, k7, w5.heap.size, w7.heap.size, by omega, by omega, by go_num, by simp; omega, by omega, .inl (by omega), by simp, T7.out.addSl ⟨true, w5.heap.size, w7.heap.size, .slice a7 (phiN n) k7, phiN n, sumZ p n kk (fun _ => 1) (x + 1)⟩ (((S7.out.setOther (.inl (by show w2.heap.size < _; omega)) _).setOther (.inl (by show w2.heap.size < _; omega)) _).congr (fun j hj => (HSS.out j hj).symm))⟩
        case measure => simp [intOf] <;> omega
    · obtain rfl : p = x := by omega
      obtain ⟨d0, d1⟩ := (hst.box 1 (w.heap.size + 1 + 1, [.int .i64 0, .slice none 0 0]) rfl).cell2
      have dz := (hst.box 1 (w.heap.size + 1 + 1, [.int .i64 0, .slice none 0 0]) rfl).2.2
      have BB := hst.1
      have hsl := hst.sl 0 ⟨true, lo, hi, .slice a (phiN n) cap, phiN n, sumZ p n kk (fun _ => 1) p⟩ rfl
      obtain ⟨o0, o1⟩ := (hst.box 0 (w2.heap.size, [.int .i64 (n : Int), .slice a (phiN n) cap]) rfl).cell2
      dsimp only at dz hsl
      have HSL := Lib.hid hsl
      clear hst hsl
      go_wp2
      refine bodyPost_ret (v := .tuple #[.agg #[.int .i64 (n : Int), .slice a (phiN n) cap], .int .i64 0]) (by simp [results, Try.results57, go_sem, d0, d1]) rfl ?_
      refine ⟨_, _, rfl, ?_, by go_grown⟩
      exact ((HSL.out.setOther (.inl (by show w.heap.size + 1 + 1 < _; omega)) _).setOther (.inl (by show w.heap.size + 1 + 1 < _; omega)) _).wide (by omega) (by simp; omega) (Nat.le_refl _)
end

section
open Go.RowKit Go.ChangeShapes
theorem fail_form {P : Program} {fn : FuncId} {args : Array Value} {w : World} {c : Int} (h : Calls P fn args w fun e w' => e = .returned (failV c) ∧ Below w.heap.size w w') :
    Calls P fn args w fun e w' => ∃ a k, e = .returned (.tuple #[.agg #[.int .i64 0, .slice a 0 k], .int .i64 c]) ∧ Sl true w' w.heap.size w'.heap.size (.slice a 0 k) 0 (fun _ => 0) ∧ Below w.heap.size w w' :=
  h.mono fun _ _ ⟨he, hb⟩ => ⟨none, 0, he, Sl.nil _ _ _ (Nat.le_refl _) _, hb⟩
end

section
open Go.RowKit Go.ChangeShapes Go.Sort
set_option linter.unusedVariables false
set_option linter.unusedSimpArgs false

/-- A function answers with this number and this code, whatever the world. -/
def ACy (fn : FuncId) (args : Array Value) (R : Int) (N : Nat) (G : Nat → Int) (C : Int) : Prop :=
  ∀ w : World, Calls Try.prog fn args w fun e w' => ∃ a' k', e = .returned (.tuple #[.agg #[.int .i64 R, .slice a' N k'], .int .i64 C]) ∧ Sl true w' w.heap.size w'.heap.size (.slice a' N k') N G ∧ Below w.heap.size w w'
/-- A function answers with this value, whatever the world. -/
def AVa (fn : FuncId) (args : Array Value) (v : Value) : Prop :=
  ∀ w : World, Calls Try.prog fn args w fun e w' => e = .returned v ∧ Below w.heap.size w w'
def vC (x y z : Int) : Value := .agg #[.int .i64 x, .int .i64 y, .int .i64 z]
/-- These are a character. -/
def IsCh (x y z : Int) (P N K : Nat) : Prop := x = P ∧ y = N ∧ z = K ∧ primeN P = true ∧ 1 ≤ N ∧ N ≤ 16 ∧ (P - 1) % N = 0 ∧ K < N
section
variable (x y z : Int)
theorem SumOfCharacter_two : ∃ (R : Int) (N : Nat) (G : Nat → Int) (C : Int), ACy 67 #[.agg #[.int .i64 x, .int .i64 y, .int .i64 z]] R N G C ∧ ACy 62 #[.agg #[.int .i64 x, .int .i64 y, .int .i64 z]] R N G C ∧ ((C = 0 ∧ ∃ P M K : Nat, IsCh x y z P M K ∧ R = M ∧ N = phiN M ∧ G = sumZ P M K (fun _ => 1) P) ∨ (C ≠ 0 ∧ ¬ ChP x y z)) := by
  by_cases h : ChP x y z
  · obtain ⟨P, N, K, rfl, rfl, rfl, h1, h2, h3, h4, h5⟩ := h.nat
    exact ⟨N, phiN N, _, 0, fun w => SumOfCharacter_spec_ok P N K h1 h2 h3 h4 h5 w, fun w => SumOfCharacter_impl_ok P N K h1 h2 h3 h4 h5 w, .inl ⟨rfl, P, N, K, ⟨rfl, rfl, rfl, h1, h2, h3, h4, h5⟩, rfl, rfl, rfl⟩⟩
  · exact ⟨0, 0, fun _ => 0, 1, fun w => fail_form (SumOfCharacter_spec_bad x y z h w), fun w => fail_form (SumOfCharacter_impl_bad x y z h w), .inr ⟨by decide, h⟩⟩
theorem InverseCharacter_two : ∃ (a b c C : Int), AVa 69 #[.agg #[.int .i64 x, .int .i64 y, .int .i64 z]] (.tuple #[.agg #[.int .i64 a, .int .i64 b, .int .i64 c], .int .i64 C]) ∧ AVa 28 #[.agg #[.int .i64 x, .int .i64 y, .int .i64 z]] (.tuple #[.agg #[.int .i64 a, .int .i64 b, .int .i64 c], .int .i64 C]) ∧ ((C = 0 ∧ ∃ P M K : Nat, IsCh x y z P M K ∧ a = P ∧ b = M ∧ c = ((M - K) % M : Nat)) ∨ (C ≠ 0 ∧ ¬ ChP x y z)) := by
  by_cases h : ChP x y z
  · obtain ⟨P, N, K, rfl, rfl, rfl, h1, h2, h3, h4, h5⟩ := h.nat
    exact ⟨P, N, _, 0, fun w => InverseCharacter_spec_ok P N K h1 h2 h3 h4 h5 w, fun w => InverseCharacter_impl_ok P N K h1 h2 h3 h4 h5 w, .inl ⟨rfl, P, N, K, ⟨rfl, rfl, rfl, h1, h2, h3, h4, h5⟩, rfl, rfl, rfl⟩⟩
  · exact ⟨0, 0, 0, 1, fun w => InverseCharacter_spec_bad x y z h w, fun w => InverseCharacter_impl_bad x y z h w, .inr ⟨by decide, h⟩⟩
theorem IsEvenCharacter_two : ∃ (a : Bool) (C : Int), AVa 71 #[.agg #[.int .i64 x, .int .i64 y, .int .i64 z]] (.tuple #[.bool a, .int .i64 C]) ∧ AVa 32 #[.agg #[.int .i64 x, .int .i64 y, .int .i64 z]] (.tuple #[.bool a, .int .i64 C]) ∧ ((C = 0 ∧ ∃ P M K : Nat, IsCh x y z P M K ∧ a = evenB P M K) ∨ (C ≠ 0 ∧ ¬ ChP x y z)) := by
  by_cases h : ChP x y z
  · obtain ⟨P, N, K, rfl, rfl, rfl, h1, h2, h3, h4, h5⟩ := h.nat
    exact ⟨_, 0, fun w => IsEvenCharacter_spec_ok P N K h1 h2 h3 h4 h5 w, fun w => IsEvenCharacter_impl_ok P N K h1 h2 h3 h4 h5 w, .inl ⟨rfl, P, N, K, ⟨rfl, rfl, rfl, h1, h2, h3, h4, h5⟩, rfl⟩⟩
  · exact ⟨false, 1, fun w => IsEvenCharacter_spec_bad x y z h w, fun w => IsEvenCharacter_impl_bad x y z h w, .inr ⟨by decide, h⟩⟩
theorem CharacterAt_two (t : Int) : ∃ (R : Int) (N : Nat) (G : Nat → Int) (C : Int), ACy 42 #[.agg #[.int .i64 x, .int .i64 y, .int .i64 z], .int .i64 t] R N G C ∧ ACy 33 #[.agg #[.int .i64 x, .int .i64 y, .int .i64 z], .int .i64 t] R N G C ∧ ((C = 0 ∧ ∃ P M K : Nat, IsCh x y z P M K ∧ R = M ∧ N = phiN M ∧ G = atP P M K t) ∨ (C ≠ 0 ∧ ¬ (ChP x y z ∧ -1000000 ≤ t ∧ t ≤ 1000000))) := by
  by_cases h : ChP x y z
  · obtain ⟨P, N, K, rfl, rfl, rfl, h1, h2, h3, h4, h5⟩ := h.nat
    by_cases ht : -1000000 ≤ t ∧ t ≤ 1000000
    · exact ⟨N, phiN N, _, 0, fun w => CharacterAt_spec_ok P N K t h1 h2 h3 h4 h5 ht.1 ht.2 w, fun w => CharacterAt_impl_ok P N K t h1 h2 h3 h4 h5 ht.1 ht.2 w, .inl ⟨rfl, P, N, K, ⟨rfl, rfl, rfl, h1, h2, h3, h4, h5⟩, rfl, rfl, rfl⟩⟩
    · exact ⟨0, 0, fun _ => 0, 2, fun w => fail_form (CharacterAt_spec_out P N K t h1 h2 h3 h4 h5 (by omega) w), fun w => fail_form (CharacterAt_impl_out P N K t h1 h2 h3 h4 h5 (by omega) w), .inr ⟨by decide, fun h => ht h.2⟩⟩
  · exact ⟨0, 0, fun _ => 0, 1, fun w => fail_form (CharacterAt_spec_bad x y z t h w), fun w => fail_form (CharacterAt_impl_bad x y z t h w), .inr ⟨by decide, fun h' => h h'.1⟩⟩
theorem OrthogonalSum_two (x' y' z' : Int) : ∃ (R : Int) (N : Nat) (G : Nat → Int) (C : Int), ACy 57 #[.agg #[.int .i64 x, .int .i64 y, .int .i64 z], .agg #[.int .i64 x', .int .i64 y', .int .i64 z']] R N G C ∧ ACy 56 #[.agg #[.int .i64 x, .int .i64 y, .int .i64 z], .agg #[.int .i64 x', .int .i64 y', .int .i64 z']] R N G C ∧ ((C = 0 ∧ ∃ P M K L : Nat, IsCh x y z P M K ∧ IsCh x' y' z' P M L ∧ R = M ∧ N = phiN M ∧ G = sumZ P M ((K + (M - L) % M) % M) (fun _ => 1) P) ∨ C ≠ 0) := by
  obtain ⟨c, hc⟩ := pcC_ex x y z x' y' z'
  by_cases h0 : c ≠ 0
  · exact ⟨0, 0, fun _ => 0, c, fun w => fail_form (OrthogonalSum_spec_bad _ _ _ _ _ _ c hc h0 w), fun w => fail_form (OrthogonalSum_impl_bad _ _ _ _ _ _ c hc h0 w), .inr h0⟩
  · rcases hc with ⟨e, _⟩ | ⟨e, _⟩ | ⟨_, ha, hb, rfl, rfl⟩
    · omega
    · omega
    · obtain ⟨P, N, K, rfl, rfl, rfl, h1, h2, h3, h4, h5⟩ := ha.nat
      obtain ⟨L, rfl⟩ := Int.eq_ofNat_of_zero_le hb.2.2.1
      have hl : L < N := by have := hb.2.2.2; omega
      exact ⟨N, phiN N, _, 0, fun w => OrthogonalSum_spec_ok P N K L h1 h2 h3 h4 h5 hl w, fun w => OrthogonalSum_impl_ok P N K L h1 h2 h3 h4 h5 hl w, .inl ⟨rfl, P, N, K, L, ⟨rfl, rfl, rfl, h1, h2, h3, h4, h5⟩, ⟨rfl, rfl, rfl, h1, h2, h3, h4, hl⟩, rfl, rfl, rfl⟩⟩
end
theorem LegendreSymbol_two (p t : Int) : ∃ (a C : Int), AVa 65 #[.int .i64 p, .int .i64 t] (.tuple #[.int .i64 a, .int .i64 C]) ∧ AVa 64 #[.int .i64 p, .int .i64 t] (.tuple #[.int .i64 a, .int .i64 C]) ∧ ((C = 0 ∧ ∃ P : Nat, p = P ∧ primeN P = true ∧ -1000000 ≤ t ∧ t ≤ 1000000 ∧ a = legN P t) ∨ C ≠ 0) := by
  by_cases h : PrP p ∧ -1000000 ≤ t ∧ t ≤ 1000000
  · obtain ⟨hp, h1, h2⟩ := h
    obtain ⟨P, rfl⟩ := Int.eq_ofNat_of_zero_le hp.1
    have hp2 : primeN P = true := by have := hp.2; rwa [Int.toNat_natCast] at this
    exact ⟨_, 0, fun w => LegendreSymbol_spec_ok P t hp2 h1 h2 w, fun w => LegendreSymbol_impl_ok P t hp2 h1 h2 w, .inl ⟨rfl, P, rfl, hp2, h1, h2, rfl⟩⟩
  · exact ⟨0, 2, fun w => LegendreSymbol_spec_bad p t h w, fun w => LegendreSymbol_impl_bad p t h w, .inr (by decide)⟩
/-- A function of a table and a character. -/
def ATb (fn : FuncId) (L : Nat) (f : Nat → Int) (x y z R : Int) (N : Nat) (G : Nat → Int) (C : Int) : Prop :=
  ∀ (w : World) (o : Bool) (lo hi : Nat) (v : Value), Sl o w lo hi v L f → Calls Try.prog fn #[v, .agg #[.int .i64 x, .int .i64 y, .int .i64 z]] w fun e w' => ∃ a' k', e = .returned (.tuple #[.agg #[.int .i64 R, .slice a' N k'], .int .i64 C]) ∧ Sl true w' w.heap.size w'.heap.size (.slice a' N k') N G ∧ Below w.heap.size w w'
theorem SumWith_two (L : Nat) (f : Nat → Int) (x y z : Int) : ∃ (R : Int) (N : Nat) (G : Nat → Int) (C : Int), ATb 61 L f x y z R N G C ∧ ATb 60 L f x y z R N G C ∧ ((C = 0 ∧ ∃ P M K : Nat, IsCh x y z P M K ∧ L = P ∧ R = M ∧ N = phiN M ∧ G = sumZ P M K f P) ∨ C ≠ 0) := by
  by_cases h : ChP x y z
  · obtain ⟨P, N, K, rfl, rfl, rfl, h1, h2, h3, h4, h5⟩ := h.nat
    by_cases ht : L = P ∧ Within f L 1000000
    · obtain ⟨rfl, ht⟩ := ht
      exact ⟨N, phiN N, _, 0, fun w _ _ _ _ hs => SumWith_spec_ok L N K h1 h2 h3 h4 h5 w hs ht, fun w _ _ _ _ hs => SumWith_impl_ok L N K h1 h2 h3 h4 h5 w hs ht, .inl ⟨rfl, L, N, K, ⟨rfl, rfl, rfl, h1, h2, h3, h4, h5⟩, rfl, rfl, rfl, rfl⟩⟩
    · exact ⟨0, 0, fun _ => 0, 2, fun w _ _ _ _ hs => fail_form (SumWith_spec_out P N K h1 h2 h3 h4 h5 w hs ht), fun w _ _ _ _ hs => fail_form (SumWith_impl_out P N K h1 h2 h3 h4 h5 w hs ht), .inr (by decide)⟩
  · exact ⟨0, 0, fun _ => 0, 1, fun w _ _ _ _ hs => fail_form (SumWith_spec_bad x y z h w hs), fun w _ _ _ _ hs => fail_form (SumWith_impl_bad x y z h w hs), .inr (by decide)⟩
end

section
open Go.RowKit Go.ChangeShapes Go.Sort
set_option linter.unusedVariables false
set_option linter.unusedSimpArgs false

def sfW (p q : Nat) : Int := if q = 0 then (p : Int) - 1 else 0
def sfChk (p n q : Nat) : Bool := decide (sumZ p n q (fun _ => 1) p 0 = sfW p q) && decide (sumN (phiN n) (fun j => sumZ p n q (fun _ => 1) p j) = sfW p q) && (List.range (phiN n)).all (fun j => decide (-100 ≤ sumZ p n q (fun _ => 1) p j) && decide (sumZ p n q (fun _ => 1) p j ≤ 100))
theorem sf_all : ((List.range 62).all fun p => !primeN p || (List.range 17).all fun n => decide (n = 0) || decide ((p - 1) % n ≠ 0) || (List.range n).all fun q => sfChk p n q) = true := by decide +kernel
theorem sf_ok {p n q : Nat} (hp : primeN p = true) (h1 : 1 ≤ n) (h2 : n ≤ 16) (hd : (p - 1) % n = 0) (hq : q < n) :
    sumZ p n q (fun _ => 1) p 0 = sfW p q ∧ sumN (phiN n) (fun j => sumZ p n q (fun _ => 1) p j) = sfW p q ∧ ∀ j, j < phiN n → -100 ≤ sumZ p n q (fun _ => 1) p j ∧ sumZ p n q (fun _ => 1) p j ≤ 100 := by
  have h := all_range (prime_of sf_all hp) n (by omega)
  have e1 : decide (n = 0) = false := decide_eq_false (by omega)
  have e2 : decide ((p - 1) % n ≠ 0) = false := decide_eq_false (by omega)
  simp only [e1, e2, Bool.false_or] at h
  have h' := all_range h q hq
  unfold sfChk at h'
  simp only [Bool.and_eq_true, decide_eq_true_eq] at h'
  refine ⟨h'.1.1, h'.1.2, fun j hj => ?_⟩
  have := all_range h'.2 j hj
  simp only [Bool.and_eq_true, decide_eq_true_eq] at this
  exact this
theorem lg_all : ((List.range 62).all fun p => !primeN p || (List.range p).all fun r => decide (r = 0) || decide ((if sqN p r = true then (1 : Int) else -1) = tb 2 (expN p 2 1 r) 0)) = true := by decide +kernel
theorem leg_at {p : Nat} {t : Int} (hp : primeN p = true) (hr : restN p t < p) : legN p t = atP p 2 1 t 0 := by
  unfold legN atP
  by_cases e : restN p t = 0
  · rw [if_pos e, if_pos e]
  · rw [if_neg e, if_neg e]
    have h := all_range (prime_of lg_all hp) (restN p t) hr
    have e1 : decide (restN p t = 0) = false := decide_eq_false e
    simp only [e1, Bool.false_or, decide_eq_true_eq] at h
    exact h
theorem orth_zero {n k l : Nat} (hk : k < n) (hl : l < n) : ((k + (n - l) % n) % n = 0) ↔ k = l := by
  by_cases e0 : l = 0
  · subst e0
    rw [Nat.sub_zero, Nat.mod_self, Nat.add_zero, Nat.mod_eq_of_lt hk]
  · rw [Nat.mod_eq_of_lt (show n - l < n by omega)]
    constructor
    · intro h
      by_cases hlt : k + (n - l) < n
      · rw [Nat.mod_eq_of_lt hlt] at h; omega
      · rw [Nat.mod_eq_sub_mod (by omega), Nat.mod_eq_of_lt (by omega)] at h; omega
    · rintro rfl
      rw [show k + (n - k) = n by omega, Nat.mod_self]
end
end Go.Proofs.Ytdalahgfpbdilaa
