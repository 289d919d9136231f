/- The state of a law's walk: what lies in boxes and slices of its own, in one word. Plain facts, no walk. -/
import Derived.Test.YtnhpodlcgkgpbaaMem
import Derived.WalkSpells
namespace Go.Proofs.Ytnhpodlcgkgpbaa
open Go.RowKit Go.ChangeShapes

/-- Block b holds these cells, and may be written. -/
def Box (w : World) (b : Nat) (vs : List Value) : Prop :=
  b < w.heap.size ∧ (∀ (j : Nat) (v : Value), vs[j]? = some v → w.cell? ⟨b, j, none⟩ = some v) ∧ ∀ k, w.frozen? ⟨b, k, none⟩ = false

structure SlF where
  o : Bool
  lo : Nat
  hi : Nat
  v : Value
  n : Nat
  f : Nat → Int

def St (W w : World) (bs : List (Nat × List Value)) (ss : List SlF) : Prop :=
  Below W.heap.size W w ∧ (∀ b ∈ bs, Box w b.1 b.2) ∧ (∀ s ∈ ss, Sl s.o w s.lo s.hi s.v s.n s.f)

theorem Box.keep {w w' : World} {b : Nat} {vs : List Value} (h : Box w b vs) (hb : Below w.heap.size w w') : Box w' b vs :=
  ⟨Nat.lt_of_lt_of_le h.1 hb.size, fun j v hv => (hb.cell (p := ⟨b, j, none⟩) h.1).trans (h.2.1 j v hv), fun k => (hb.frozen (p := ⟨b, k, none⟩) h.1).trans (h.2.2 k)⟩
theorem Box.keepF {w w' : World} {lo hi b : Nat} {vs : List Value} (h : Box w b vs) (hf : Frame lo hi w w') (hd : b < lo ∨ hi ≤ b) : Box w' b vs :=
  ⟨Nat.lt_of_lt_of_le h.1 hf.size, fun j v hv => (hf.cell (p := ⟨b, j, none⟩) h.1 hd).trans (h.2.1 j v hv), fun k => (hf.frozen (p := ⟨b, k, none⟩) h.1 hd).trans (h.2.2 k)⟩
/-- A block just laid. -/
theorem Box.made (w : World) (cur : Array Value) (t : TypeId) (vs : List Value) (h : ∀ (j : Nat) (v : Value), vs[j]? = some v → cur[j]? = some v) : Box (w.alloc (.cells cur t)) w.heap.size vs := by
  have hh : (w.alloc (.cells cur t)).heap[w.heap.size]? = some (.cells cur t) := heap_alloc_new w _
  exact ⟨by simp, fun j v hv => by rw [cell_of_row _ _ _ _ _ _ hh]; exact h j v hv, fun k => by unfold World.frozen?; rw [hh]; simp⟩
theorem Box.cell2 {w : World} {b : Nat} {v0 v1 : Value} (h : Box w b [v0, v1]) : w.cell? ⟨b, 0, none⟩ = some v0 ∧ w.cell? ⟨b, 1, none⟩ = some v1 :=
  ⟨h.2.1 0 v0 rfl, h.2.1 1 v1 rfl⟩

section
variable {W w w' : World} {bs : List (Nat × List Value)} {ss : List SlF}
theorem St.keep (h : St W w bs ss) (hb : Below w.heap.size w w') : St W w' bs ss := by
  refine ⟨h.1.trans (hb.mono h.1.size), fun b hm => (h.2.1 b hm).keep hb, fun s hm => ?_⟩
  have := h.2.2 s hm
  exact this.keep hb this.size
theorem St.sl (h : St W w bs ss) (i : Nat) (s : SlF) (hi : ss[i]? = some s) : Sl s.o w s.lo s.hi s.v s.n s.f := h.2.2 s (List.mem_of_getElem? hi)
theorem St.box (h : St W w bs ss) (i : Nat) (b : Nat × List Value) (hi : bs[i]? = some b) : Box w b.1 b.2 := h.2.1 b (List.mem_of_getElem? hi)
theorem St.addSl (h : St W w bs ss) (s : SlF) (hs : Sl s.o w s.lo s.hi s.v s.n s.f) : St W w bs (s :: ss) :=
  ⟨h.1, h.2.1, fun x hx => by
    rcases List.mem_cons.1 hx with rfl | hx
    · exact hs
    · exact h.2.2 x hx⟩
theorem St.addBox (h : St W w bs ss) (b : Nat) (vs : List Value) (hb : Box w b vs) : St W w ((b, vs) :: bs) ss :=
  ⟨h.1, fun x hx => by
    rcases List.mem_cons.1 hx with rfl | hx
    · exact hb
    · exact h.2.1 x hx, h.2.2⟩
theorem St.start (W : World) : St W W [] [] := ⟨Below.refl _ _, (fun _ h => absurd h List.not_mem_nil), (fun _ h => absurd h List.not_mem_nil)⟩
theorem St.alloc (h : St W w bs ss) (o : Obj) : St W (w.alloc o) bs ss := h.keep ((Below.refl _ _).alloc (Nat.le_refl _) _)
theorem St.drew (h : St W w bs ss) : St W w.drew bs ss := h.keep (Below.refl _ _).drew
theorem St.drewN (h : St W w bs ss) (n : Nat) : St W (w.drewN n) bs ss := h.keep (below_drewN (Below.refl _ _) n)
/-- A slice of the call's own is written: the one at i; all else lies apart. -/
theorem St.write (h : St W w bs ss) {lo hi : Nat} (hf : Frame lo hi w w') (hlo : W.heap.size ≤ lo) (hbs : ∀ b ∈ bs, b.1 < lo ∨ hi ≤ b.1) (hss : ∀ s ∈ ss, s.hi ≤ lo ∨ hi ≤ s.lo) : St W w' bs ss :=
  ⟨h.1.trans (hf.below hlo h.1.size), fun b hm => (h.2.1 b hm).keepF hf (hbs b hm), fun s hm => (h.2.2 s hm).keepF hf (hss s hm)⟩
/-- A slice of the call's own is written; what is kept lies apart from it. -/
theorem St.writeTo (h : St W w bs ss) {lo hi : Nat} (hf : Frame lo hi w w') (hlo : W.heap.size ≤ lo) (hbs : ∀ b ∈ bs, b.1 < lo ∨ hi ≤ b.1) (ss' : List SlF) (hss : ∀ s ∈ ss', s ∈ ss ∧ (s.hi ≤ lo ∨ hi ≤ s.lo)) : St W w' bs ss' :=
  ⟨h.1.trans (hf.below hlo h.1.size), fun b hm => (h.2.1 b hm).keepF hf (hbs b hm), fun s hm => (h.2.2 s (hss s hm).1).keepF hf (hss s hm).2⟩
end
end Go.Proofs.Ytnhpodlcgkgpbaa
