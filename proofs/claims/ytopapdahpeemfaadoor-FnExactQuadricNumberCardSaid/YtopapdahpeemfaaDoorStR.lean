/- The state of a walk with boxes, slices and rows of its own; copy into a slice. Plain facts, no walk. -/
import Derived.Test.YtopapdahpeemfaaDoorRws
import Derived.Test.YtopapdahpeemfaaDoorArr
namespace Go.Proofs.YtopapdahpeemfaaDoor
open Go.RowKit Go.ChangeShapes Go.Sort
set_option linter.unusedVariables false
set_option linter.unusedSimpArgs false

structure RwF where
  o : Bool
  lo : Nat
  hi : Nat
  v : Value
  m : Nat
  ln : Nat → Nat
  F : Nat → Nat → Int

def StR (W w : World) (bs : List (Nat × List Value)) (ss : List SlF) (rs : List RwF) : Prop :=
  Below W.heap.size W w ∧ (∀ b ∈ bs, Box w b.1 b.2) ∧ (∀ s ∈ ss, Sl s.o w s.lo s.hi s.v s.n s.f) ∧ ∀ r ∈ rs, Rw r.o w r.lo r.hi r.v r.m r.ln r.F

section
variable {W w w' : World} {bs : List (Nat × List Value)} {ss : List SlF} {rs : List RwF}
theorem StR.st (h : StR W w bs ss rs) : St W w bs ss := ⟨h.1, h.2.1, h.2.2.1⟩
theorem StR.keep (h : StR W w bs ss rs) (hb : Below w.heap.size w w') : StR W w' bs ss rs := by
  have hst := h.st.keep hb
  exact ⟨hst.1, hst.2.1, hst.2.2, fun r hr => (h.2.2.2 r hr).keep hb (h.2.2.2 r hr).size⟩
theorem StR.sl (h : StR W w bs ss rs) (i : Nat) (s : SlF) (hi : ss[i]? = some s) : Sl s.o w s.lo s.hi s.v s.n s.f := h.2.2.1 s (List.mem_of_getElem? hi)
theorem StR.rw (h : StR W w bs ss rs) (i : Nat) (s : RwF) (hi : rs[i]? = some s) : Rw s.o w s.lo s.hi s.v s.m s.ln s.F := h.2.2.2 s (List.mem_of_getElem? hi)
theorem StR.box (h : StR W w bs ss rs) (i : Nat) (b : Nat × List Value) (hi : bs[i]? = some b) : Box w b.1 b.2 := h.2.1 b (List.mem_of_getElem? hi)
theorem StR.addSl (h : StR W w bs ss rs) (s : SlF) (hs : Sl s.o w s.lo s.hi s.v s.n s.f) : StR W w bs (s :: ss) rs :=
  ⟨h.1, h.2.1, (h.st.addSl s hs).2.2, h.2.2.2⟩
theorem StR.addRw (h : StR W w bs ss rs) (s : RwF) (hs : Rw s.o w s.lo s.hi s.v s.m s.ln s.F) : StR W w bs ss (s :: rs) :=
  ⟨h.1, h.2.1, h.2.2.1, fun x hx => by
    rcases List.mem_cons.1 hx with rfl | hx
    · exact hs
    · exact h.2.2.2 x hx⟩
theorem StR.addBox (h : StR W w bs ss rs) (b : Nat) (vs : List Value) (hb : Box w b vs) : StR W w ((b, vs) :: bs) ss rs :=
  ⟨h.1, (h.st.addBox b vs hb).2.1, h.2.2.1, h.2.2.2⟩
theorem StR.start (W : World) : StR W W [] [] [] := ⟨Below.refl _ _, (fun _ h => absurd h List.not_mem_nil), (fun _ h => absurd h List.not_mem_nil), (fun _ h => absurd h List.not_mem_nil)⟩
theorem StR.alloc (h : StR W w bs ss rs) (o : Obj) : StR W (w.alloc o) bs ss rs := h.keep ((Below.refl _ _).alloc (Nat.le_refl _) _)
theorem StR.drew (h : StR W w bs ss rs) : StR W w.drew bs ss rs := h.keep (Below.refl _ _).drew
theorem StR.drewN (h : StR W w bs ss rs) (n : Nat) : StR W (w.drewN n) bs ss rs := h.keep (below_drewN (Below.refl _ _) n)
theorem StR.write (h : StR W w bs ss rs) {lo hi : Nat} (hf : Frame lo hi w w') (hlo : W.heap.size ≤ lo) (hbs : ∀ b ∈ bs, b.1 < lo ∨ hi ≤ b.1) (hss : ∀ s ∈ ss, s.hi ≤ lo ∨ hi ≤ s.lo) (hrs : ∀ s ∈ rs, s.hi ≤ lo ∨ hi ≤ s.lo) : StR W w' bs ss rs :=
  ⟨h.1.trans (hf.below hlo h.1.size), fun b hm => (h.2.1 b hm).keepF hf (hbs b hm), fun s hm => (h.2.2.1 s hm).keepF hf (hss s hm), fun s hm => (h.2.2.2 s hm).keepF hf (hrs s hm)⟩
theorem StR.writeTo (h : StR W w bs ss rs) {lo hi : Nat} (hf : Frame lo hi w w') (hlo : W.heap.size ≤ lo) (hbs : ∀ b ∈ bs, b.1 < lo ∨ hi ≤ b.1) (ss' : List SlF) (rs' : List RwF) (hss : ∀ s ∈ ss', s ∈ ss ∧ (s.hi ≤ lo ∨ hi ≤ s.lo)) (hrs : ∀ s ∈ rs', s ∈ rs ∧ (s.hi ≤ lo ∨ hi ≤ s.lo)) : StR W w' bs ss' rs' :=
  ⟨h.1.trans (hf.below hlo h.1.size), fun b hm => (h.2.1 b hm).keepF hf (hbs b hm), fun s hm => (h.2.2.1 s (hss s hm).1).keepF hf (hss s hm).2, fun s hm => (h.2.2.2 s (hrs s hm).1).keepF hf (hrs s hm).2⟩
theorem StR.boxNew (h : StR W w bs ss rs) (v0 v1 : Value) (t : TypeId) : StR W (w.alloc (.cells #[v0, v1] t)) ((w.heap.size, [v0, v1]) :: bs) ss rs :=
  (h.alloc _).addBox _ _ (Box.made _ _ _ _ (fun j v h => by simpa using h))
theorem StR.boxNew3 (h : StR W w bs ss rs) (v0 v1 v2 : Value) (t : TypeId) : StR W (w.alloc (.cells #[v0, v1, v2] t)) ((w.heap.size, [v0, v1, v2]) :: bs) ss rs :=
  (h.alloc _).addBox _ _ (Box.made _ _ _ _ (fun j v h => by simpa using h))
theorem StR.boxSet3 {b : Nat} {v0 v1 v2 u0 u1 u2 : Value} (h : StR W w ((b, [v0, v1, v2]) :: bs) ss rs) (hb : W.heap.size ≤ b) (hbs : ∀ x ∈ bs, x.1 < b ∨ b + 1 ≤ x.1) (hss : ∀ s ∈ ss, s.hi ≤ b ∨ b + 1 ≤ s.lo) (hrs : ∀ s ∈ rs, s.hi ≤ b ∨ b + 1 ≤ s.lo) :
    StR W (((w.setCell ⟨b, 0, none⟩ u0).setCell ⟨b, 1, none⟩ u1).setCell ⟨b, 2, none⟩ u2) ((b, [u0, u1, u2]) :: bs) ss rs := by
  have hbx := (h.box 0 _ rfl).set3 (u0 := u0) (u1 := u1) (u2 := u2)
  have h2 : StR W w bs ss rs := ⟨h.1, fun x hx => h.2.1 x (List.mem_cons_of_mem _ hx), h.2.2.1, h.2.2.2⟩
  exact (h2.write (lo := b) (hi := b + 1) ((((Frame.refl b (b + 1) w).setCell (Nat.le_refl _) (Nat.lt_succ_self _) _).setCell (Nat.le_refl _) (Nat.lt_succ_self _) _).setCell (Nat.le_refl _) (Nat.lt_succ_self _) _) hb hbs hss hrs).addBox _ _ hbx
end
theorem Box.c3 {w : World} {b : Nat} {v0 v1 v2 : Value} (h : Box w b [v0, v1, v2]) : w.cell? ⟨b, 0, none⟩ = some v0 ∧ w.cell? ⟨b, 1, none⟩ = some v1 ∧ w.cell? ⟨b, 2, none⟩ = some v2 :=
  ⟨h.2.1 0 v0 rfl, h.2.1 1 v1 rfl, h.2.1 2 v2 rfl⟩

section
variable {o : Bool} {w w' : World} {lo hi lo' hi' g off n cap c' : Nat} {a : Option Addr} {f f' : Nat → Int}
theorem Only.setCells {x : Nat} : ∀ (vs : List Value) (k : Nat) {w w' : World}, k + vs.length ≤ n → Only (.slice (some ⟨g, off, none⟩) n cap) w w' → Only (.slice (some ⟨g, off, none⟩) n cap) w (w'.setCells g (off + k) vs)
  | [], _, _, _, _, h => h
  | v :: r, k, w, w', hk, h => by
    have hk' : k + (r.length + 1) ≤ n := by simpa using hk
    exact Only.setCells (x := x) r (k + 1) (by omega) (h.setCell (x := v) (i := k) (by omega))
theorem wpList_copyR {ops : Array Oper} {rest : List Oper} {p : Oper} {b : Act} {Q : Exit → Act → World → Prop} (hgd : p.guard = none) (d s : Operand)
    (ho : p.op = .call { callee := .builtin .copy, args := #[d, s], argTypes := #[22, 22] })
    (hs : Sl true w lo hi (.slice (some ⟨g, off, none⟩) n cap) n f) (ht : Sl o w lo' hi' (.slice a n c') n f')
    (hd : b.eval d = .slice (some ⟨g, off, none⟩) n cap) (he : b.eval s = .slice a n c') (hn : 0 < n)
    (h : ∀ w', Only (.slice (some ⟨g, off, none⟩) n cap) w w' → Frame lo hi w w' → Sl true w' lo hi (.slice (some ⟨g, off, none⟩) n cap) n f' → wpList Tryd.prog ops Q rest (b.put p.dst (goInt n)) w') : wpList Tryd.prog ops Q (p :: rest) b w := by
  obtain ⟨hg1, hg2, _, _, _⟩ := hs.known hn
  refine wpList_plain hgd fun K hK => ?_
  have hrun := run_copy_sl (P := Tryd.prog) hs 0 n (by omega) n cap c' ht (Nat.min_self n).symm 22 2 p.type Tryd.underlying22 Tryd.size1_2
  unfold Oper.wp
  rw [Nat.add_zero] at hrun
  simp [execOp, ho, resolve, invoke, builtin, hd, he, hrun, Result.andThen]

  refine hK _ _ ?_
  have hfin := h (w.setCells g off (ints n f')) ?_ (Frame.setCells hg1 hg2 _ _ _ _ (Frame.refl _ _ _)) ?_
  · exact hfin
  · have := Only.setCells (x := 0) (g := g) (off := off) (n := n) (cap := cap) (ints n f') 0 (by simp [ints]) (Only.refl _ w)
    simpa using this
  · have := hs.setInts 0 n (by omega) f' (fun j hj => ht.bd j hj)
    refine (this.congr (fun j hj => ?_))
    simp [hj]
end
end Go.Proofs.YtopapdahpeemfaaDoor
