/- classesOf of the program: the numbers with their classes as an iterator. -/
import Derived.Test.YtaipaggaodnfkaaPerB
import Derived.Test.YtaipaggaodnfkaaVal1
namespace Go.Proofs.Ytaipaggaodnfkaa
open Go.RowKit Go.ChangeShapes Go.Shelf
set_option linter.unusedVariables false
set_option linter.unusedSimpArgs false
attribute [local go_sem] Oper.semAt_some

/-- A function is stored like any other value of one cell. -/
theorem run_store_func {P : Program} (w : World) (a : Addr) (m : Mode) (fn : Fn) (first cap : Array Value) : (store a (.func fn first cap) m).run P w = stored P w a (.func fn first cap) m := run_store P w a _ m rfl
attribute [local go_sem] run_store_func

/-- The blocks from B on below T lie as they lay. -/
def KeepsR (B T : Nat) (W W' : World) : Prop := W.heap.size ≤ W'.heap.size ∧ ∀ k, B ≤ k → k < T → W'.heap[k]? = W.heap[k]?
theorem KeepsR.refl (B T : Nat) (W : World) : KeepsR B T W W := ⟨Nat.le_refl _, fun _ _ _ => rfl⟩
theorem KeepsR.trans {B T : Nat} {X Y Z : World} (h : KeepsR B T X Y) (k : KeepsR B T Y Z) : KeepsR B T X Z := ⟨Nat.le_trans h.1 k.1, fun i h1 h2 => (k.2 i h1 h2).trans (h.2 i h1 h2)⟩
theorem KeepsR.below {B T C : Nat} {W W' : World} (h : Below C W W') (hT : T ≤ C) : KeepsR B T W W' := ⟨h.size, fun k _ hk => h.block k (by omega)⟩
theorem KeepsR.setCell {B T : Nat} {W : World} {q : Addr} (u : Value) (h : q.block < B ∨ T ≤ q.block) : KeepsR B T W (W.setCell q u) := ⟨by simp [World.setCell], fun k h1 h2 => Below.heap_setCell _ _ _ _ (by omega)⟩
theorem KeepsR.put {B T : Nat} {W : World} {l : Nat} (o' : Obj) (h : l < B ∨ T ≤ l) : KeepsR B T W (W.putObj l o') := ⟨by simp, fun k h1 h2 => World.putObj_heap_other (by omega)⟩
theorem KeepsR.at {B T n₀ : Nat} (h : T ≤ n₀) (W : World) (l : Nat) (o o' : Obj) (hl : n₀ ≤ l) (_ : W.heap[l]? = some o) (_ : o.isCells = false) (_ : o.isWalk = false) : KeepsR B T W (W.putObj l o') := KeepsR.put o' (by omega)
theorem KeepsR.drew {B T : Nat} {W W' : World} (h : KeepsR B T W W') : KeepsR B T W W'.drew := ⟨h.1, h.2⟩
theorem KeepsR.frame {B T lo hi : Nat} {W W' : World} (h : Frame lo hi W W') (hd : T ≤ lo ∨ hi ≤ B) (hT : T ≤ W.heap.size) : KeepsR B T W W' := ⟨h.size, fun k h1 h2 => h.block k (by omega) (by omega)⟩
theorem Box.keepR {B T b : Nat} {w w' : World} {vs : List Value} (h : Box w b vs) (k : KeepsR B T w w') (h1 : B ≤ b) (h2 : b < T) : Box w' b vs :=
  ⟨Nat.lt_of_lt_of_le h.1 k.1, fun j v hv => (World.cell?_of_block (a := ⟨b, j, none⟩) (k.2 b h1 h2)).trans (h.2.1 j v hv), fun j => (World.frozen?_of_block (a := ⟨b, j, none⟩) (k.2 b h1 h2)).trans (h.2.2 j)⟩
theorem Sl.keepR {o : Bool} {B T lo hi n : Nat} {w w' : World} {v : Value} {f : Nat → Int} (h : Sl o w lo hi v n f) (k : KeepsR B T w w') (h1 : B ≤ lo) (h2 : hi ≤ T) : Sl o w' lo hi v n f := by
  obtain ⟨a1, a2, a3, a4⟩ := h
  refine ⟨Nat.le_trans a1 k.1, a2, a3, ?_⟩
  rcases a4 with a4 | ⟨g, off, cap, hv, hg, hg', hc, hc', hcell, hf⟩
  · exact .inl a4
  · exact .inr ⟨g, off, cap, hv, hg, hg', hc, hc', fun j hj => (World.cell?_of_block (a := ⟨g, off + j, none⟩) (k.2 g (by omega) (by omega))).trans (hcell j hj), fun ho j => (World.frozen?_of_block (a := ⟨g, j, none⟩) (k.2 g (by omega) (by omega))).trans (hf ho j)⟩

/-- What classesOf lays: between B and T, the box of p at bp, that of the function of values at b5. -/
def Cls (w : World) (B T bp b5 p e : Nat) : Prop :=
  T ≤ w.heap.size ∧ (B ≤ bp ∧ bp < T ∧ B ≤ b5 ∧ b5 < T) ∧ Box w bp [.int .i64 (p : Int)] ∧
    ∃ (bc be lo hi : Nat) (v : Value), (B ≤ bc ∧ bc < T ∧ B ≤ be ∧ be < T ∧ B ≤ lo ∧ hi ≤ T) ∧
      Box w b5 [.func (.func 97) #[] #[.pointer (some ⟨bc, 0, none⟩), .pointer (some ⟨be, 0, none⟩)]] ∧
      Box w bc [.int .i64 (p : Int), .int .i64 (e : Int), .int .i64 ((1 % e : Nat) : Int)] ∧ Box w be [v] ∧ Sl true w lo hi v p (exV p e (1 % e))
theorem Cls.keep {w w' : World} {B T bp b5 p e : Nat} (h : Cls w B T bp b5 p e) (k : KeepsR B T w w') : Cls w' B T bp b5 p e := by
  obtain ⟨h0, ⟨h1, h2, h3, h4⟩, hb, bc, be, lo, hi, v, ⟨g1, g2, g3, g4, g5, g6⟩, hx, hc, he, hs⟩ := h
  exact ⟨Nat.le_trans h0 k.1, ⟨h1, h2, h3, h4⟩, hb.keepR k h1 h2, bc, be, lo, hi, v, ⟨g1, g2, g3, g4, g5, g6⟩, hx.keepR k h3 h4, hc.keepR k g1 g2, he.keepR k g3 g4, hs.keepR k g5 g6⟩

theorem one_mod (e : Nat) (h : 1 ≤ e) : ((1 : Nat) : Int) % (e : Int) = ((1 % e : Nat) : Int) := by rw [Int.natCast_emod]
theorem one_mod_mul {e x : Nat} (h : 1 ≤ e) : 1 % e * x % e = x % e := by
  rcases Nat.lt_or_ge 1 e with h1 | h1
  · rw [Nat.mod_eq_of_lt h1, Nat.one_mul]
  · obtain rfl : e = 1 := by omega
    simp [Nat.mod_one]
theorem exV_cls {p e x : Nat} (h1 : 1 ≤ e) (hx : x ≠ 0) : exV p e (1 % e) x = (clsN p e x : Nat) := by
  unfold exV clsN; rw [if_neg hx, one_mod_mul h1]

section
variable {o : Bool} {lo hi : Nat} {v : Value}
set_option maxHeartbeats 1000000 in
theorem value_drew (p n k : Nat) (x : Int) (bc be : Nat) (w : World) (hp1 : 1 ≤ p) (hp2 : p ≤ 61) (hr1 : -9223372036854775808 ≤ x) (hr2 : x ≤ 9223372036854775807)
    (hc : Box w bc [.int .i64 (p : Int), .int .i64 (n : Int), .int .i64 (k : Int)]) (he : Box w be [v]) (hs : Sl o w lo hi v p (exV p n k)) :
    Calls Try.prog 97 #[.int .i64 x, .pointer (some ⟨bc, 0, none⟩), .pointer (some ⟨be, 0, none⟩)] w fun e w' => e = .returned (.tuple #[.int .i64 (exV p n k (restN p x)), .bool (((restN p x : Nat) : Int) != 0)]) ∧ w' = w.drew := by
  obtain ⟨r1, r2, r3, r4⟩ := restN_eq p hp1 x
  generalize restN p x = y at *
  obtain ⟨c0, c1, c2⟩ := hc.cell3
  have e0 := he.2.1 0 _ rfl
  obtain ⟨g, off, cap, rfl, _, _, _, _, hcl, _⟩ := hs.at (by omega)
  have hcy := hcl y r2
  have hp0 : ¬ p = 0 := by omega
  clear hcl hs hc he
  go_enter Try.func97, Try.ntmps97
  go_wp2
  go_region
  all_goals
    go_wp2
    go_ret2
    exact ⟨by simp, rfl⟩
end

theorem setCell_new (w : World) (v u : Value) (t : TypeId) : (w.alloc (.cells #[v] t)).setCell ⟨w.heap.size, 0, none⟩ u = w.alloc (.cells #[u] t) := by
  simp [go_sem]
theorem cls_final {w0 w7 : World} {b5 bc be lo hi p e : Nat} {v u0 : Value} (hb : Below w0.heap.size w0 w7) (h1 : Box w7 w0.heap.size [.int .i64 (p : Int)]) (h2 : Box w7 b5 [u0])
    (h3 : Box w7 bc [.int .i64 (p : Int), .int .i64 (e : Int), .int .i64 ((1 % e : Nat) : Int)]) (h4 : Box w7 be [v]) (h5 : Sl true w7 lo hi v p (exV p e (1 % e)))
    (g : w0.heap.size < b5 ∧ w0.heap.size ≤ bc ∧ w0.heap.size ≤ be ∧ w0.heap.size ≤ lo) (d : bc ≠ b5 ∧ be ≠ b5 ∧ (b5 < lo ∨ hi ≤ b5)) :
    Cls (w7.setCell ⟨b5, 0, none⟩ (.func (.func 97) #[] #[.pointer (some ⟨bc, 0, none⟩), .pointer (some ⟨be, 0, none⟩)])) w0.heap.size (w7.setCell ⟨b5, 0, none⟩ (.func (.func 97) #[] #[.pointer (some ⟨bc, 0, none⟩), .pointer (some ⟨be, 0, none⟩)])).heap.size w0.heap.size b5 p e ∧
      Below w0.heap.size w0 (w7.setCell ⟨b5, 0, none⟩ (.func (.func 97) #[] #[.pointer (some ⟨bc, 0, none⟩), .pointer (some ⟨be, 0, none⟩)])) := by
  have z1 := h1.1; have z2 := h2.1; have z3 := h3.1; have z4 := h4.1; have z5 := h5.size
  refine ⟨⟨Nat.le_refl _, by simp; omega, h1.other _ _ (by show _ ≠ b5; omega), bc, be, lo, hi, v, by simp; omega, h2.set1 _, h3.other _ _ (by show _ ≠ b5; omega), h4.other _ _ (by show _ ≠ b5; omega), h5.setOther (by show b5 < lo ∨ hi ≤ b5; omega) _⟩, hb.setCell (p := ⟨b5, 0, none⟩) (by show _ ≤ b5; omega) _⟩

set_option maxRecDepth 100000 in
set_option maxHeartbeats 2000000 in
theorem classesOf_any (p e : Nat) (hp : primeN p = true) (h1 : 1 ≤ e) (h2 : e ≤ 12) (w : World) :
    Calls Try.prog 66 #[.int .i64 (p : Int), .int .i64 (e : Int)] w fun r w' => ∃ b5, r = .returned (.func (.func 88) #[] #[.pointer (some ⟨w.heap.size, 0, none⟩), .pointer (some ⟨b5, 0, none⟩)]) ∧ Cls w' w.heap.size w'.heap.size w.heap.size b5 p e ∧ Below w.heap.size w w' := by
  have hb := primeN_bd hp
  have HP := Lib.hid hp
  have he0 : ¬ e = 0 := by omega
  have hidx : (1 : Int) % (e : Int) = ((1 % e : Nat) : Int) := one_mod e h1
  have hm16 : 1 % e ≤ 16 := by have := Nat.mod_le 1 e; omega
  have hmf : ∀ (fn : Fn) (first cap : Array Value) (w : World), (Instr.makeFunc fn first cap).run Try.prog w = .ok (.func fn first cap) w := fun _ _ _ _ => rfl
  clear hp
  have st0 := (((St.start w).alloc (.cells #[.int .i64 (p : Int)] 2)).addBox w.heap.size [.int .i64 (p : Int)] (Box.made _ _ _ _ (fun j v h => by simpa using h)))
  have ST0 := Lib.hid st0
  clear st0
  go_enter Try.func66, Try.ntmps66
  go_wp2
  go_region_law (first
    | (go_simp; go_at_call 87; refine (valuesOf_any p e (1 % e) HP.out h1 (by omega) hm16 _).mono ?_; rintro r w6 ⟨rfl, b6, hz6, bx6, by6, sl6⟩
       have h5 := Box.keep (Box.made (w.alloc (.cells #[.int .i64 (p : Int)] 2)).drew #[Value.nilFunc] 92 [Value.nilFunc] (fun j v h => by simpa using h)) b6
       simp only [World.size_alloc, World.size_drew] at h5
       have c5 := h5.2.1 0 _ rfl
       have f5 := h5.2.2 0
       have bp6 := ((ST0.out.drew.alloc (.cells #[Value.nilFunc] 92)).keep b6))
    | (go_simp; go_at_call 87; refine (valuesOf_any p e (1 % e) HP.out h1 (by omega) hm16 _).mono ?_; rintro r w6 ⟨rfl, b6, hz6, bx6, by6, sl6⟩
       have cf5 := var_new w6 Value.nilFunc 92
       have c5 := cf5.1
       have f5 := cf5.2
       have bp6 := (ST0.out.drew.keep b6).alloc (.cells #[Value.nilFunc] 92)
       have h5 := Box.made w6 #[Value.nilFunc] 92 [Value.nilFunc] (fun j v h => by simpa using h)
       have bx7 := bx6.keep ((Below.refl _ _).alloc (Nat.le_refl _) (.cells #[Value.nilFunc] 92))
       have by7 := by6.keep ((Below.refl _ _).alloc (Nat.le_refl _) (.cells #[Value.nilFunc] 92))
       have sl7 := sl6.alloc (.cells #[Value.nilFunc] 92)))
  all_goals
    have h7 := bp6.box 0 (w.heap.size, [.int .i64 (p : Int)]) rfl
    have bb7 := bp6.1
    dsimp only at h7
    simp only [World.size_alloc, World.size_drew] at bx6 by6 sl6 hz6
    try simp only [World.size_alloc, World.size_drew] at bx7 by7 sl7
    have FIN := Lib.hid (by first
      | exact cls_final bb7 h7 h5 bx6 by6 sl6 (by omega) (by omega)
      | exact cls_final bb7 h7 h5 bx7 by7 sl7 (by omega) (by omega))
    clear bx6 by6 sl6 bb7 h7 h5 b6
    go_wp2
    go_ret
    first
      | exact ⟨_, rfl, FIN.out⟩
      | (have h := FIN.out
         simp only [setCell_new] at h
         exact ⟨_, rfl, h⟩)

/-- The pair that comes at the place i. -/
abbrev encC (p e m : Nat) (i : Fin m) : Array Value := #[.int .i64 ((i.1 : Int) + 1), .int .i64 (clsN p e (i.1 + 1) : Nat)]

set_option maxRecDepth 100000 in
set_option maxHeartbeats 2000000 in
/-- The iterator hands on the numbers 1, .., p - 1 with their classes. -/
theorem cls_stops (p e m : Nat) (hp : primeN p = true) (h1 : 1 ≤ e) (h2 : e ≤ 12) (hm : p - 1 = m) (n : Nat) (hn : 2 ≤ n) (B T bp b5 : Nat) (w : World) (hc : Cls w B T bp b5 p e) :
    SeqStopsK Fence.wide n Try.prog 88 #[.pointer (some ⟨bp, 0, none⟩), .pointer (some ⟨b5, 0, none⟩)] (encC p e m) (KeepsR B T)
      (fun xs => xs.map Fin.val = List.range m) (fun pre => ∃ k, k ≤ m ∧ pre.map Fin.val = List.range k) m w := fun l J Jx W hW hJ hJx hY h0 => by
  have hb := primeN_bd hp
  have HP := Lib.hid hp
  have HM := Lib.hid hm
  have hpm : p = m + 1 := by omega
  have hcW : Cls W B T bp b5 p e := hc.keep (KeepsR.below hW hc.1)
  have HC := Lib.hid hcW
  clear hp hm hc hcW
  have hro : Fence.wide.round = none := rfl
  refine callsIn_of_wp Try.func88 rfl trivial ?_ hro
  simp only [Try.ntmps88, List.size_toArray, List.length_cons, List.length_nil, Nat.reduceAdd, Nat.reduceSub, Array.replicate_succ, Array.replicate_zero, List.push_toArray, List.append_toArray, List.nil_append, List.cons_append]
  have HPM := Lib.hid hpm
  clear hpm
  gi_wp2
  gi_loopw [4] (fun s4 wr => ∃ (k : Nat) (pre : List (Fin m)), k ≤ m ∧ pre.map Fin.val = List.range k ∧ s4 = .int .i64 ((k : Int) + 1) ∧ J pre wr ∧ KeepsR B T W wr) (fun s4 _ => m + 2 - (intOf s4).toNat)
  case atStart => exact ⟨0, [], by omega, rfl, rfl, h0, KeepsR.refl _ _ _⟩
  case round =>
    obtain ⟨k, pre, hk, hpre, rfl, hJs, hBW⟩ := hrel
    have hlen : pre.length = k := by have := congrArg List.length hpre; simpa using this
    have hcr := HC.out.keep hBW
    obtain ⟨q0, ⟨q1, q2, q3, q4⟩, hbp, bc, be, lo, hi, v, ⟨g1, g2, g3, g4, g5, g6⟩, hx5, hbc, hbe, hsl⟩ := hcr
    have cp := hbp.2.1 0 _ rfl
    have c5 := hx5.2.1 0 _ rfl
    have hpm := HPM.out
    by_cases hlt : k < m
    · have hJd : J pre wr.drew := hJ pre wr wr.drew none hJs ⟨rfl, rfl, rfl, Nat.le_refl _, fun _ _ _ => rfl⟩ (fun r e => by cases e)
      obtain ⟨fn, tmps, assign, body, hy, hR⟩ := hY pre ⟨k, hlt⟩ wr.drew hJd (by omega)
      dsimp only [encC] at hy
      have hpre2 : (pre ++ [(⟨k, hlt⟩ : Fin m)]).map Fin.val = List.range (k + 1) := by rw [List.map_append, hpre, List.range_succ]; rfl
      generalize hx0 : (⟨k, hlt⟩ : Fin m) = x0 at *
      have HPR := Lib.hid hpre2
      have HV := Lib.hid (show exV p e (1 % e) (restN p ((k : Int) + 1)) = (clsN p e (k + 1) : Nat) by
        rw [show ((k : Int) + 1) = ((k + 1 : Nat) : Int) by omega, restN_nat (by omega), exV_cls h1 (by omega)])
      have hp3 : 1 ≤ p := by omega
      have hltp : (k : Int) + 1 < (p : Int) := by omega
      clear hpre2 hx0 hpre hpm
      gi_wp2
      refine ⟨trivial, fun _ => by omega, ?_⟩
      refine (callsIn_wide.2 (value_drew p e (1 % e) ((k : Int) + 1) bc be _ hp3 hb.2 (by omega) (by omega) hbc hbe hsl)).mono ?_
      rw [HV.out]
      rintro r w6 ⟨rfl, rfl⟩
      gi_wp2
      first
        | refine hR.mono ?_
        | (refine ⟨fun _ => by omega, ?_⟩; refine hR.mono ?_)
      rintro r W3 (⟨rfl, hJ3, hk3⟩ | ⟨rfl, hJx3⟩)
      · have hBW3 := (hBW.drew).trans hk3
        gi_wp2
        go_roundw
        case rel => exact ⟨k + 1, _, by omega, HPR.out, by go_num, hJ3, hBW3⟩
        case measure => simp [intOf]; omega
      · gi_wp2
        refine bodyPost_ret (results_none rfl _ _ _) rfl ?_
        exact ⟨⟨_, rfl⟩, .inr ⟨_, ⟨k + 1, by omega, HPR.out⟩, hJx3⟩⟩
    · obtain rfl : k = m := by omega
      have HPR := Lib.hid hpre
      have hge : ¬ (k : Int) + 1 < (p : Int) := by omega
      clear hpre
      gi_wp2
      go_end0
      exact ⟨⟨_, rfl⟩, .inl ⟨pre, HPR.out, hJs⟩⟩
end Go.Proofs.Ytaipaggaodnfkaa
