/- Rows that grow, and boxes that a region makes. -/
import Derived.Test.YtnhpodlcgkgpbaaProd
import Derived.Test.YtnhpodlcgkgpbaaRow
import Derived.Deep.AppendLies
import Derived.Laws.OwnMore
import Derived.OwnWalk
namespace Go.Proofs.Ytnhpodlcgkgpbaa
open Go.RowKit Go.ChangeShapes Go.Sort
set_option linter.unusedVariables false
set_option linter.unusedSimpArgs false

theorem Box.made2 {w : World} {b : Nat} {v0 v1 : Value} {t : TypeId} (h : b = w.heap.size) : Box (w.alloc (.cells #[v0, v1] t)) b [v0, v1] := by
  subst h
  exact Box.made _ _ _ _ (fun j v h => by simpa using h)
theorem Box.alloc2 {w : World} {b : Nat} {vs : List Value} (h : Box w b vs) (ob : Obj) : Box (w.alloc ob) b vs := h.keep ((Below.refl _ _).alloc (Nat.le_refl _) _)
theorem Box.drew2 {w : World} {b : Nat} {vs : List Value} (h : Box w b vs) : Box w.drew b vs := h.keep (Below.refl _ _).drew
theorem Box.set2_other {w : World} {b c i j : Nat} {u v : Value} {vs : List Value} (h : Box w b vs) (hc : b ≠ c) : Box ((w.setCell ⟨c, i, none⟩ u).setCell ⟨c, j, none⟩ v) b vs :=
  h.keepF (lo := c) (hi := c + 1) (((Frame.refl c (c + 1) w).setCell (Nat.le_refl _) (Nat.lt_succ_self _) _).setCell (Nat.le_refl _) (Nat.lt_succ_self _) _) (by omega)
theorem St.tailB {W w : World} {bs : List (Nat × List Value)} {ss : List SlF} {b : Nat × List Value} (h : St W w (b :: bs) ss) : St W w bs ss := ⟨h.1, fun x hx => h.2.1 x (List.mem_cons_of_mem _ hx), h.2.2⟩
theorem St.set2 {W w : World} {bs : List (Nat × List Value)} {ss : List SlF} {b i j : Nat} {u v : Value} (h : St W w bs ss) (hb : W.heap.size ≤ b) (hbs : ∀ x ∈ bs, x.1 < b ∨ b + 1 ≤ x.1) (hss : ∀ s ∈ ss, s.hi ≤ b ∨ b + 1 ≤ s.lo) :
    St W ((w.setCell ⟨b, i, none⟩ u).setCell ⟨b, j, none⟩ v) bs ss :=
  h.write (lo := b) (hi := b + 1) (((Frame.refl b (b + 1) w).setCell (Nat.le_refl _) (Nat.lt_succ_self _) _).setCell (Nat.le_refl _) (Nat.lt_succ_self _) _) hb hbs hss

section
variable {W w : World} {bs : List (Nat × List Value)} {ss : List SlF} {n u6 u7 c0 c1 : Value} {t : TypeId} {ob : Obj} {lo8 hi8 lo9 hi9 N k8 k9 p r : Nat} {a8 a9 : Option Addr} {f8 f9 : Nat → Int}
theorem fin1 (h : St W w bs ss) (h8 : Sl true w lo8 hi8 (.slice a8 N k8) N f8) (h9 : Sl true w lo9 hi9 (.slice a9 N k9) N f9) :
    St W ((w.alloc (.cells #[n, u6] t)).alloc (.cells #[n, u7] t)) ((w.heap.size + 1, [n, u7]) :: (w.heap.size, [n, u6]) :: bs) (⟨true, lo9, hi9, .slice a9 N k9, N, f9⟩ :: ⟨true, lo8, hi8, .slice a8 N k8, N, f8⟩ :: ss) := by
  have := (((h.addSl ⟨true, lo8, hi8, .slice a8 N k8, N, f8⟩ h8).addSl ⟨true, lo9, hi9, .slice a9 N k9, N, f9⟩ h9).boxNew n u6 t).boxNew n u7 t
  simpa only [World.size_alloc] using this
theorem St.swap {b1 b2 : Nat × List Value} (h : St W w (b1 :: b2 :: bs) ss) : St W w (b2 :: b1 :: bs) ss :=
  ⟨h.1, fun x hx => h.2.1 x (by simp only [List.mem_cons] at hx ⊢; rcases hx with h | h | h <;> simp [h]), h.2.2⟩
theorem fin2 (h : St W w bs ss) (h8 : Sl true w lo8 hi8 (.slice a8 N k8) N f8) (h9 : Sl true w lo9 hi9 (.slice a9 N k9) N f9) :
    St W ((w.alloc (.cells #[n, u7] t)).alloc (.cells #[n, u6] t)) ((w.heap.size, [n, u7]) :: (w.heap.size + 1, [n, u6]) :: bs) (⟨true, lo9, hi9, .slice a9 N k9, N, f9⟩ :: ⟨true, lo8, hi8, .slice a8 N k8, N, f8⟩ :: ss) :=
  (by
    have := (((h.addSl ⟨true, lo8, hi8, .slice a8 N k8, N, f8⟩ h8).addSl ⟨true, lo9, hi9, .slice a9 N k9, N, f9⟩ h9).boxNew n u7 t).boxNew n u6 t
    simp only [World.size_alloc] at this
    exact this.swap)
theorem St.sets (h : St W w bs ss) (h8 : Sl true w lo8 hi8 (.slice a8 N k8) N f8) (h9 : Sl true w lo9 hi9 (.slice a9 N k9) N f9) (hp : W.heap.size ≤ p) (hbs : ∀ x ∈ bs, x.1 < p) (hss : ∀ s ∈ ss, s.hi ≤ p) (hp8 : p < lo8 ∨ hi8 ≤ p) (hp9 : p < lo9 ∨ hi9 ≤ p) {u v : Value} :
    St W ((w.setCell ⟨p, 0, none⟩ u).setCell ⟨p, 1, none⟩ v) bs ss ∧ Sl true ((w.setCell ⟨p, 0, none⟩ u).setCell ⟨p, 1, none⟩ v) lo8 hi8 (.slice a8 N k8) N f8 ∧ Sl true ((w.setCell ⟨p, 0, none⟩ u).setCell ⟨p, 1, none⟩ v) lo9 hi9 (.slice a9 N k9) N f9 :=
  ⟨h.set2 hp (fun x hx => .inl (hbs x hx)) (fun s hs => .inl (hss s hs)), (h8.setOther hp8 _).setOther hp8 _, (h9.setOther hp9 _).setOther hp9 _⟩
theorem fin4 (h : St W w bs ss) (h8 : Sl true w lo8 hi8 (.slice a8 N k8) N f8) (h9 : Sl true w lo9 hi9 (.slice a9 N k9) N f9) (bp : Box w p [c0, c1]) (br : Box w r [c0, c1]) (hpr : p ≠ r)
    (hp : W.heap.size ≤ p) (hbs : ∀ x ∈ bs, x.1 < p) (hss : ∀ s ∈ ss, s.hi ≤ p) (hp8 : p < lo8 ∨ hi8 ≤ p) (hp9 : p < lo9 ∨ hi9 ≤ p)
    (hr : W.heap.size ≤ r) (hbr : ∀ x ∈ bs, x.1 < r) (hsr : ∀ s ∈ ss, s.hi ≤ r) (hr8 : r < lo8 ∨ hi8 ≤ r) (hr9 : r < lo9 ∨ hi9 ≤ r) :
    St W ((((w.setCell ⟨p, 0, none⟩ n).setCell ⟨p, 1, none⟩ u6).setCell ⟨r, 0, none⟩ n).setCell ⟨r, 1, none⟩ u7) ((r, [n, u7]) :: (p, [n, u6]) :: bs) (⟨true, lo9, hi9, .slice a9 N k9, N, f9⟩ :: ⟨true, lo8, hi8, .slice a8 N k8, N, f8⟩ :: ss) := by
  obtain ⟨i1, i2, i3⟩ := St.sets h h8 h9 hp hbs hss hp8 hp9 (u := n) (v := u6)
  obtain ⟨j1, j2, j3⟩ := St.sets i1 i2 i3 hr hbr hsr hr8 hr9 (u := n) (v := u7)
  exact (((j1.addSl ⟨true, lo8, hi8, .slice a8 N k8, N, f8⟩ j2).addSl ⟨true, lo9, hi9, .slice a9 N k9, N, f9⟩ j3).addBox p [n, u6] ((bp.set2).set2_other hpr)).addBox r [n, u7] ((br.set2_other (Ne.symm hpr)).set2)
theorem fin3 (h : St W w bs ss) (h8 : Sl true w lo8 hi8 (.slice a8 N k8) N f8) (h9 : Sl true w lo9 hi9 (.slice a9 N k9) N f9) (bp : Box w p [c0, c1])
    (hp : W.heap.size ≤ p) (hbs : ∀ x ∈ bs, x.1 < p) (hss : ∀ s ∈ ss, s.hi ≤ p) (hp8 : p < lo8 ∨ hi8 ≤ p) (hp9 : p < lo9 ∨ hi9 ≤ p) :
    St W (((((w.alloc (.cells #[c0, c1] t)).setCell ⟨p, 0, none⟩ n).setCell ⟨p, 1, none⟩ u6).setCell ⟨w.heap.size, 0, none⟩ n).setCell ⟨w.heap.size, 1, none⟩ u7) ((w.heap.size, [n, u7]) :: (p, [n, u6]) :: bs) (⟨true, lo9, hi9, .slice a9 N k9, N, f9⟩ :: ⟨true, lo8, hi8, .slice a8 N k8, N, f8⟩ :: ss) := by
  have hlt := bp.1
  have z8 := h8.size
  have z9 := h9.size
  exact fin4 (h.alloc _) (h8.alloc _) (h9.alloc _) (bp.alloc2 _) (Box.made2 rfl) (by omega) hp hbs hss hp8 hp9 (by omega) (fun x hx => by have := hbs x hx; omega) (fun s hs => by have := hss s hs; omega) (by omega) (by omega)
theorem fin5 (h : St W w bs ss) (h8 : Sl true w lo8 hi8 (.slice a8 N k8) N f8) (h9 : Sl true w lo9 hi9 (.slice a9 N k9) N f9) (bp : Box w p [c0, c1])
    (hp : W.heap.size ≤ p) (hbs : ∀ x ∈ bs, x.1 < p) (hss : ∀ s ∈ ss, s.hi ≤ p) (hp8 : p < lo8 ∨ hi8 ≤ p) (hp9 : p < lo9 ∨ hi9 ≤ p) :
    St W (((w.alloc (.cells #[n, u6] t)).setCell ⟨p, 0, none⟩ n).setCell ⟨p, 1, none⟩ u7) ((p, [n, u7]) :: (w.heap.size, [n, u6]) :: bs) (⟨true, lo9, hi9, .slice a9 N k9, N, f9⟩ :: ⟨true, lo8, hi8, .slice a8 N k8, N, f8⟩ :: ss) := by
  have hlt := bp.1
  obtain ⟨i1, i2, i3⟩ := St.sets (h.alloc (.cells #[n, u6] t)) (h8.alloc _) (h9.alloc _) hp hbs hss hp8 hp9 (u := n) (v := u7)
  exact (((i1.addSl ⟨true, lo8, hi8, .slice a8 N k8, N, f8⟩ i2).addSl ⟨true, lo9, hi9, .slice a9 N k9, N, f9⟩ i3).addBox w.heap.size [n, u6] ((Box.made2 rfl).set2_other (by omega))).addBox p [n, u7] ((bp.alloc2 _).set2)
end

section
variable {o o' : Bool} {lo hi lo' hi' L : Nat} {v v' : Value} {f g : Nat → Int}
end
end Go.Proofs.Ytnhpodlcgkgpbaa
