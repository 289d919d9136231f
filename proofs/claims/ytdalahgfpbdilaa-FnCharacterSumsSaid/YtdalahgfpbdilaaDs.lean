/- The state of a walk that draws: what lies in boxes and slices beside a source of drawn numbers. Plain facts, no walk. -/
import Derived.Test.YtdalahgfpbdilaaDraw4
namespace Go.Proofs.Ytdalahgfpbdilaa
open Go.RowKit Go.ChangeShapes Go.Sort
set_option linter.unusedVariables false
set_option linter.unusedSimpArgs false

/-- The source lies in the block b, its bytes below B; boxes and slices lie apart from it. -/
def Ds (b B : Nat) (p : Option Addr) (n q : Nat) (W w : World) (bs : List (Nat × List Value)) (ss : List SlF) : Prop :=
  Frame b (b + 1) W w ∧ Src w b p n q ∧ Bytes w B p n ∧ (B ≤ b ∧ B ≤ W.heap.size) ∧ (∀ x ∈ bs, Box w x.1 x.2 ∧ x.1 ≠ b) ∧ (∀ s ∈ ss, Sl s.o w s.lo s.hi s.v s.n s.f ∧ (s.hi ≤ b ∨ b + 1 ≤ s.lo))
theorem Frame.set {lo hi g o : Nat} {a w : World} (h : Frame lo hi a w) (hl : lo ≤ g) (hh : g < hi) (u : Value) : Frame lo hi a (w.setCell ⟨g, o, none⟩ u) := h.setCell (p := ⟨g, o, none⟩) hl hh u
section
variable {b B : Nat} {p : Option Addr} {n q : Nat} {W w w' : World} {bs : List (Nat × List Value)} {ss : List SlF}
theorem Ds.start (hs : Src W b p n q) (hb : Bytes W B p n) (hB : B ≤ b) : Ds b B p n q W W [] [] :=
  ⟨Frame.refl _ _ _, hs, hb, ⟨hB, Nat.le_of_lt (Nat.lt_of_le_of_lt hB hs.lt)⟩, (fun _ h => absurd h List.not_mem_nil), (fun _ h => absurd h List.not_mem_nil)⟩
theorem Ds.src (h : Ds b B p n q W w bs ss) : Src w b p n q := h.2.1
theorem Ds.bytes (h : Ds b B p n q W w bs ss) : Bytes w B p n := h.2.2.1
theorem Ds.low (h : Ds b B p n q W w bs ss) : B ≤ b := h.2.2.2.1.1
theorem Ds.at (hB : B ≤ W.heap.size) (h0 : Below W.heap.size W w) (hs : Src w b p n q) (hb : Bytes w B p n) (hBb : B ≤ b) : Ds b B p n q W w [] [] :=
  ⟨Frame.of_below h0 (Nat.le_refl _), hs, hb, ⟨hBb, hB⟩, (fun _ h => absurd h List.not_mem_nil), (fun _ h => absurd h List.not_mem_nil)⟩
theorem Ds.below (h : Ds b B p n q W w bs ss) (hb : W.heap.size ≤ b) : Below W.heap.size W w := h.1.below hb (Nat.le_refl _)
theorem Ds.lt (h : Ds b B p n q W w bs ss) : b < w.heap.size := h.2.1.lt
theorem Ds.frame (h : Ds b B p n q W w bs ss) : Frame b (b + 1) W w := h.1
theorem Ds.size (h : Ds b B p n q W w bs ss) : W.heap.size ≤ w.heap.size := h.1.size
theorem Ds.box (h : Ds b B p n q W w bs ss) (i : Nat) (x : Nat × List Value) (hi : bs[i]? = some x) : Box w x.1 x.2 := (h.2.2.2.2.1 x (List.mem_of_getElem? hi)).1
theorem Ds.sl (h : Ds b B p n q W w bs ss) (i : Nat) (s : SlF) (hi : ss[i]? = some s) : Sl s.o w s.lo s.hi s.v s.n s.f := (h.2.2.2.2.2 s (List.mem_of_getElem? hi)).1
theorem Ds.apart (h : Ds b B p n q W w bs ss) (i : Nat) (s : SlF) (hi : ss[i]? = some s) : s.hi ≤ b ∨ b + 1 ≤ s.lo := (h.2.2.2.2.2 s (List.mem_of_getElem? hi)).2
theorem Ds.keep (h : Ds b B p n q W w bs ss) (hb : Below w.heap.size w w') : Ds b B p n q W w' bs ss :=
  ⟨h.1.trans (Frame.of_below hb (Nat.le_refl _)), h.2.1.keep hb, h.2.2.1.below hb, h.2.2.2.1, fun x hx => ⟨(h.2.2.2.2.1 x hx).1.keep hb, (h.2.2.2.2.1 x hx).2⟩, fun s hs => ⟨(h.2.2.2.2.2 s hs).1.keep hb (h.2.2.2.2.2 s hs).1.size, (h.2.2.2.2.2 s hs).2⟩⟩
/-- A number has been drawn. -/
theorem Ds.draw (h : Ds b B p n q W w bs ss) (hs : Src w' b p n q) (hf : Frame b (b + 1) w w') : Ds b B p n q W w' bs ss :=
  ⟨h.1.trans hf, hs, h.2.2.1.frame hf h.low, h.2.2.2.1, fun x hx => ⟨(h.2.2.2.2.1 x hx).1.keepF hf (by have := (h.2.2.2.2.1 x hx).2; omega), (h.2.2.2.2.1 x hx).2⟩, fun s hs => ⟨(h.2.2.2.2.2 s hs).1.keepF hf (h.2.2.2.2.2 s hs).2, (h.2.2.2.2.2 s hs).2⟩⟩
theorem Ds.alloc (h : Ds b B p n q W w bs ss) (o : Obj) : Ds b B p n q W (w.alloc o) bs ss := h.keep ((Below.refl _ _).alloc (Nat.le_refl _) _)
theorem Ds.drew (h : Ds b B p n q W w bs ss) : Ds b B p n q W w.drew bs ss := h.keep (Below.refl _ _).drew
theorem Ds.addSl (h : Ds b B p n q W w bs ss) (s : SlF) (hs : Sl s.o w s.lo s.hi s.v s.n s.f) (ha : s.hi ≤ b ∨ b + 1 ≤ s.lo) : Ds b B p n q W w bs (s :: ss) :=
  ⟨h.1, h.2.1, h.2.2.1, h.2.2.2.1, h.2.2.2.2.1, fun x hx => by
    rcases List.mem_cons.1 hx with rfl | hx
    · exact ⟨hs, ha⟩
    · exact h.2.2.2.2.2 x hx⟩
theorem Ds.addBox (h : Ds b B p n q W w bs ss) (c : Nat) (vs : List Value) (hb : Box w c vs) (hc : c ≠ b) : Ds b B p n q W w ((c, vs) :: bs) ss :=
  ⟨h.1, h.2.1, h.2.2.1, h.2.2.2.1, fun x hx => by
    rcases List.mem_cons.1 hx with rfl | hx
    · exact ⟨hb, hc⟩
    · exact h.2.2.2.2.1 x hx, h.2.2.2.2.2⟩
/-- A new box. -/
theorem Ds.newBox (h : Ds b B p n q W w bs ss) (vs : List Value) (t : TypeId) : Ds b B p n q W (w.alloc (.cells vs.toArray t)) ((w.heap.size, vs) :: bs) ss :=
  (h.alloc _).addBox _ _ (Box.made _ _ _ _ (fun j v h => by simpa using h)) (by have := h.lt; omega)
/-- Cells of a block of the call's own are written. -/
theorem Ds.write (h : Ds b B p n q W w bs ss) {lo hi : Nat} (hf : Frame lo hi w w') (hlo : W.heap.size ≤ lo) (hbl : b < lo ∨ hi ≤ b) (bs' : List (Nat × List Value)) (ss' : List SlF) (hbs : ∀ x ∈ bs', x ∈ bs ∧ (x.1 < lo ∨ hi ≤ x.1)) (hss : ∀ s ∈ ss', s ∈ ss ∧ (s.hi ≤ lo ∨ hi ≤ s.lo)) : Ds b B p n q W w' bs' ss' :=
  ⟨⟨hf.os.trans h.1.os, hf.tape.trans h.1.tape, hf.output.trans h.1.output, Nat.le_trans h.1.size hf.size, fun k hk hd => (hf.block k (Nat.lt_of_lt_of_le hk h.1.size) (.inl (by omega))).trans (h.1.block k hk hd)⟩, h.2.1.keepF hf hbl, h.2.2.1.frameG hf (by have := h.2.2.2.1.2; omega), h.2.2.2.1, fun x hx => ⟨(h.2.2.2.2.1 x (hbs x hx).1).1.keepF hf (hbs x hx).2, (h.2.2.2.2.1 x (hbs x hx).1).2⟩, fun s hs => ⟨(h.2.2.2.2.2 s (hss s hs).1).1.keepF hf (hss s hs).2, (h.2.2.2.2.2 s (hss s hs).1).2⟩⟩
end
end Go.Proofs.Ytdalahgfpbdilaa
