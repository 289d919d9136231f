/- Rows that grow, and boxes that a region makes. -/
import Derived.Test.YtloalhcloifgjaaProd
import Derived.Deep.AppendLies
import Derived.Laws.OwnMore
import Derived.OwnWalk
namespace Go.Proofs.Ytloalhcloifgjaa
open Go.RowKit Go.ChangeShapes Go.Sort
set_option linter.unusedVariables false
set_option linter.unusedSimpArgs false

/-- A list that grows by append: its numbers, in a block that is the call's own. -/
def Row (w : World) (base g cap n : Nat) (f : Nat → Int) : Prop := w.ownsRow base 2 1 (.slice (some ⟨g, 0, none⟩) n cap) n ((List.range n).map (fun j => Value.int .i64 (f j)))
theorem Row.made (w : World) (base : Nat) (f : Nat → Int) (hb : base ≤ w.heap.size) : Row (w.alloc (.cells #[] 2)) base w.heap.size 0 0 f := by
  have h := World.ownsRow_made (e := 2) (size := 1) (base := base) w #[] 0 hb (Nat.zero_le _) rfl
  exact h
theorem Row.alloc {w : World} {base g cap n : Nat} {f : Nat → Int} (h : Row w base g cap n f) (ob : Obj) : Row (w.alloc ob) base g cap n f := World.ownsRow.alloc h ob
theorem Row.kept {w w' : World} {base g cap n : Nat} {f : Nat → Int} {row : Nat} (h : Row w base g cap n f) (hg : w.grownBy w' (some row)) (hne : g ≠ row) : Row w' base g cap n f :=
  World.ownsRow.kept h hg (.inr (fun e => hne (Option.some.inj e)))
theorem Row.lt {w : World} {base g cap n : Nat} {f : Nat → Int} (h : Row w base g cap n f) : base ≤ g ∧ g < w.heap.size := World.ownsRow.lt h g rfl
theorem Row.congr {w : World} {base g cap n : Nat} {f f' : Nat → Int} (h : Row w base g cap n f) (e : ∀ j, j < n → f j = f' j) : Row w base g cap n f' := by
  unfold Row at h ⊢
  rwa [show (List.range n).map (fun j => Value.int .i64 (f' j)) = (List.range n).map (fun j => Value.int .i64 (f j)) from List.map_congr_left (fun j hj => by rw [e j (List.mem_range.1 hj)])]
theorem wpList_push {w : World} {ops : Array Oper} {rest : List Oper} {o : Oper} {a : Act} {Q : Exit → Act → World → Prop} (hgd : o.guard = none) (s x : Operand)
    (ho : o.op = .call { callee := .builtin .append, args := #[s, x], argTypes := #[24, 24] })
    (hty : o.type = 24) (base g cap n : Nat) (f : Nat → Int) (hs : a.eval s = .slice (some ⟨g, 0, none⟩) n cap) (hown : Row w base g cap n f) (B : Nat) (y : Int) (hx : a.eval x = .slice (some ⟨B, 0, none⟩) 1 1)
    (hb : w.heap[B]? = some (.cells #[.int .i64 y] 2 (0, 0))) (hn : n + 1 ≤ 1048576)
    (h : ∀ g' cap' w', Row w' base g' cap' (n + 1) (fun j => if j < n then f j else y) → w.grownBy w' (some g) → (g' = g ∨ g' = w.heap.size) → g' < w'.heap.size → wpList Try.prog ops Q rest (a.put o.dst (.slice (some ⟨g', 0, none⟩) (n + 1) cap')) w') : wpList Try.prog ops Q (o :: rest) a w := by
  obtain ⟨i0, hi, hz0, hz1, hz2⟩ := info_parts Try.info2
  refine wpList_append_lies w hgd s x 24 ho base 2 i0 (.int .i64 0) 1 8 Try.underlying24 hi hz0 hz1 hz2 rfl (by decide) _ n _ hs hown ⟨B, 0, none⟩ 1 1 [.int .i64 y] hx rfl (World.news_of_block hb) (by simp [Value.oneCell']) (by decide) (by unfold maxLen; omega) (by omega) (Nat.le_trans hown.lt.1 (Nat.le_of_lt hown.lt.2)) _ rfl ?_
  intro g' cap' w' h1 h2 h3 h4
  refine h g' cap' w' ?_ h2 (h3.imp (fun e => (Option.some.inj e).symm) id) h4
  unfold Row
  rw [List.range_succ, List.map_append]
  have e1 : (List.range n).map (fun j => Value.int .i64 (if j < n then f j else y)) = (List.range n).map (fun j => Value.int .i64 (f j)) := List.map_congr_left (fun j hj => by rw [if_pos (List.mem_range.1 hj)])
  rw [e1]
  simpa using h1
theorem Frame.ofGrown {w w' : World} {row : Nat} (hg : w.grownBy w' (some row)) : Frame row (row + 1) w w' :=
  ⟨hg.os, hg.tape, hg.output, hg.size, fun k hk hne => hg.block k hk (fun e => by have := Option.some.inj e; omega)⟩
theorem Box.made2 {w : World} {b : Nat} {v0 v1 : Value} {t : TypeId} (h : b = w.heap.size) : Box (w.alloc (.cells #[v0, v1] t)) b [v0, v1] := by
  subst h
  exact Box.made _ _ _ _ (fun j v h => by simpa using h)
theorem Box.alloc2 {w : World} {b : Nat} {vs : List Value} (h : Box w b vs) (ob : Obj) : Box (w.alloc ob) b vs := h.keep ((Below.refl _ _).alloc (Nat.le_refl _) _)
theorem Box.drew2 {w : World} {b : Nat} {vs : List Value} (h : Box w b vs) : Box w.drew b vs := h.keep (Below.refl _ _).drew
theorem Box.set2_other {w : World} {b c i j : Nat} {u v : Value} {vs : List Value} (h : Box w b vs) (hc : b ≠ c) : Box ((w.setCell ⟨c, i, none⟩ u).setCell ⟨c, j, none⟩ v) b vs :=
  h.keepF (lo := c) (hi := c + 1) (((Frame.refl c (c + 1) w).setCell (Nat.le_refl _) (Nat.lt_succ_self _) _).setCell (Nat.le_refl _) (Nat.lt_succ_self _) _) (by omega)
theorem St.tailB {W w : World} {bs : List (Nat × List Value)} {ss : List SlF} {b : Nat × List Value} (h : St W w (b :: bs) ss) : St W w bs ss := ⟨h.1, fun x hx => h.2.1 x (List.mem_cons_of_mem _ hx), h.2.2⟩
theorem St.set2 {W w : World} {bs : List (Nat × List Value)} {ss : List SlF} {b i j : Nat} {u v : Value} (h : St W w bs ss) (hb : W.heap.size ≤ b) (hbs : ∀ x ∈ bs, x.1 < b ∨ b + 1 ≤ x.1) (hss : ∀ s ∈ ss, s.hi ≤ b ∨ b + 1 ≤ s.lo) :
    St W ((w.setCell ⟨b, i, none⟩ u).setCell ⟨b, j, none⟩ v) bs ss :=
  h.write (lo := b) (hi := b + 1) (((Frame.refl b (b + 1) w).setCell (Nat.le_refl _) (Nat.lt_succ_self _) _).setCell (Nat.le_refl _) (Nat.lt_succ_self _) _) hb hbs hss

section
variable {W w : World} {bs : List (Nat × List Value)} {ss : List SlF} {n u6 u7 c0 c1 : Value} {t : TypeId} {ob : Obj} {lo8 hi8 lo9 hi9 N k8 k9 p r : Nat} {a8 a9 : Option Addr} {f8 f9 : Nat → Int}
theorem fin1 (h : St W w bs ss) (h8 : Sl true w lo8 hi8 (.slice a8 N k8) N f8) (h9 : Sl true w lo9 hi9 (.slice a9 N k9) N f9) :
    St W ((w.alloc (.cells #[n, u6] t)).alloc (.cells #[n, u7] t)) ((w.heap.size + 1, [n, u7]) :: (w.heap.size, [n, u6]) :: bs) (⟨true, lo9, hi9, .slice a9 N k9, N, f9⟩ :: ⟨true, lo8, hi8, .slice a8 N k8, N, f8⟩ :: ss) := by
  have := (((h.addSl ⟨true, lo8, hi8, .slice a8 N k8, N, f8⟩ h8).addSl ⟨true, lo9, hi9, .slice a9 N k9, N, f9⟩ h9).boxNew n u6 t).boxNew n u7 t
  simpa only [World.size_alloc] using this
theorem St.swap {b1 b2 : Nat × List Value} (h : St W w (b1 :: b2 :: bs) ss) : St W w (b2 :: b1 :: bs) ss :=
  ⟨h.1, fun x hx => h.2.1 x (by simp only [List.mem_cons] at hx ⊢; rcases hx with h | h | h <;> simp [h]), h.2.2⟩
theorem fin2 (h : St W w bs ss) (h8 : Sl true w lo8 hi8 (.slice a8 N k8) N f8) (h9 : Sl true w lo9 hi9 (.slice a9 N k9) N f9) :
    St W ((w.alloc (.cells #[n, u7] t)).alloc (.cells #[n, u6] t)) ((w.heap.size, [n, u7]) :: (w.heap.size + 1, [n, u6]) :: bs) (⟨true, lo9, hi9, .slice a9 N k9, N, f9⟩ :: ⟨true, lo8, hi8, .slice a8 N k8, N, f8⟩ :: ss) :=
  (by
    have := (((h.addSl ⟨true, lo8, hi8, .slice a8 N k8, N, f8⟩ h8).addSl ⟨true, lo9, hi9, .slice a9 N k9, N, f9⟩ h9).boxNew n u7 t).boxNew n u6 t
    simp only [World.size_alloc] at this
    exact this.swap)
theorem St.sets (h : St W w bs ss) (h8 : Sl true w lo8 hi8 (.slice a8 N k8) N f8) (h9 : Sl true w lo9 hi9 (.slice a9 N k9) N f9) (hp : W.heap.size ≤ p) (hbs : ∀ x ∈ bs, x.1 < p) (hss : ∀ s ∈ ss, s.hi ≤ p) (hp8 : p < lo8 ∨ hi8 ≤ p) (hp9 : p < lo9 ∨ hi9 ≤ p) {u v : Value} :
    St W ((w.setCell ⟨p, 0, none⟩ u).setCell ⟨p, 1, none⟩ v) bs ss ∧ Sl true ((w.setCell ⟨p, 0, none⟩ u).setCell ⟨p, 1, none⟩ v) lo8 hi8 (.slice a8 N k8) N f8 ∧ Sl true ((w.setCell ⟨p, 0, none⟩ u).setCell ⟨p, 1, none⟩ v) lo9 hi9 (.slice a9 N k9) N f9 :=
  ⟨h.set2 hp (fun x hx => .inl (hbs x hx)) (fun s hs => .inl (hss s hs)), (h8.setOther hp8 _).setOther hp8 _, (h9.setOther hp9 _).setOther hp9 _⟩
theorem fin4 (h : St W w bs ss) (h8 : Sl true w lo8 hi8 (.slice a8 N k8) N f8) (h9 : Sl true w lo9 hi9 (.slice a9 N k9) N f9) (bp : Box w p [c0, c1]) (br : Box w r [c0, c1]) (hpr : p ≠ r)
    (hp : W.heap.size ≤ p) (hbs : ∀ x ∈ bs, x.1 < p) (hss : ∀ s ∈ ss, s.hi ≤ p) (hp8 : p < lo8 ∨ hi8 ≤ p) (hp9 : p < lo9 ∨ hi9 ≤ p)
    (hr : W.heap.size ≤ r) (hbr : ∀ x ∈ bs, x.1 < r) (hsr : ∀ s ∈ ss, s.hi ≤ r) (hr8 : r < lo8 ∨ hi8 ≤ r) (hr9 : r < lo9 ∨ hi9 ≤ r) :
    St W ((((w.setCell ⟨p, 0, none⟩ n).setCell ⟨p, 1, none⟩ u6).setCell ⟨r, 0, none⟩ n).setCell ⟨r, 1, none⟩ u7) ((r, [n, u7]) :: (p, [n, u6]) :: bs) (⟨true, lo9, hi9, .slice a9 N k9, N, f9⟩ :: ⟨true, lo8, hi8, .slice a8 N k8, N, f8⟩ :: ss) := by
  obtain ⟨i1, i2, i3⟩ := St.sets h h8 h9 hp hbs hss hp8 hp9 (u := n) (v := u6)
  obtain ⟨j1, j2, j3⟩ := St.sets i1 i2 i3 hr hbr hsr hr8 hr9 (u := n) (v := u7)
  exact (((j1.addSl ⟨true, lo8, hi8, .slice a8 N k8, N, f8⟩ j2).addSl ⟨true, lo9, hi9, .slice a9 N k9, N, f9⟩ j3).addBox p [n, u6] ((bp.set2).set2_other hpr)).addBox r [n, u7] ((br.set2_other (Ne.symm hpr)).set2)
theorem fin3 (h : St W w bs ss) (h8 : Sl true w lo8 hi8 (.slice a8 N k8) N f8) (h9 : Sl true w lo9 hi9 (.slice a9 N k9) N f9) (bp : Box w p [c0, c1])
    (hp : W.heap.size ≤ p) (hbs : ∀ x ∈ bs, x.1 < p) (hss : ∀ s ∈ ss, s.hi ≤ p) (hp8 : p < lo8 ∨ hi8 ≤ p) (hp9 : p < lo9 ∨ hi9 ≤ p) :
    St W (((((w.alloc (.cells #[c0, c1] t)).setCell ⟨p, 0, none⟩ n).setCell ⟨p, 1, none⟩ u6).setCell ⟨w.heap.size, 0, none⟩ n).setCell ⟨w.heap.size, 1, none⟩ u7) ((w.heap.size, [n, u7]) :: (p, [n, u6]) :: bs) (⟨true, lo9, hi9, .slice a9 N k9, N, f9⟩ :: ⟨true, lo8, hi8, .slice a8 N k8, N, f8⟩ :: ss) := by
  have hlt := bp.1
  have z8 := h8.size
  have z9 := h9.size
  exact fin4 (h.alloc _) (h8.alloc _) (h9.alloc _) (bp.alloc2 _) (Box.made2 rfl) (by omega) hp hbs hss hp8 hp9 (by omega) (fun x hx => by have := hbs x hx; omega) (fun s hs => by have := hss s hs; omega) (by omega) (by omega)
theorem fin5 (h : St W w bs ss) (h8 : Sl true w lo8 hi8 (.slice a8 N k8) N f8) (h9 : Sl true w lo9 hi9 (.slice a9 N k9) N f9) (bp : Box w p [c0, c1])
    (hp : W.heap.size ≤ p) (hbs : ∀ x ∈ bs, x.1 < p) (hss : ∀ s ∈ ss, s.hi ≤ p) (hp8 : p < lo8 ∨ hi8 ≤ p) (hp9 : p < lo9 ∨ hi9 ≤ p) :
    St W (((w.alloc (.cells #[n, u6] t)).setCell ⟨p, 0, none⟩ n).setCell ⟨p, 1, none⟩ u7) ((p, [n, u7]) :: (w.heap.size, [n, u6]) :: bs) (⟨true, lo9, hi9, .slice a9 N k9, N, f9⟩ :: ⟨true, lo8, hi8, .slice a8 N k8, N, f8⟩ :: ss) := by
  have hlt := bp.1
  obtain ⟨i1, i2, i3⟩ := St.sets (h.alloc (.cells #[n, u6] t)) (h8.alloc _) (h9.alloc _) hp hbs hss hp8 hp9 (u := n) (v := u7)
  exact (((i1.addSl ⟨true, lo8, hi8, .slice a8 N k8, N, f8⟩ i2).addSl ⟨true, lo9, hi9, .slice a9 N k9, N, f9⟩ i3).addBox w.heap.size [n, u6] ((Box.made2 rfl).set2_other (by omega))).addBox p [n, u7] ((bp.alloc2 _).set2)
end

section
variable {o o' : Bool} {lo hi lo' hi' L : Nat} {v v' : Value} {f g : Nat → Int}
end
end Go.Proofs.Ytloalhcloifgjaa
