/- The door to equations: what is none is a panic, which a deferred closure recovers; once for each closure that is behind it. -/
import Derived.Test.YtopapdahpeemfaaDoorEqA
import Derived.Defers
import Derived.Recover
import Derived.Laws.Pointers
import Derived.WalkLawsBesides
import Derived.Stop.Asserts
namespace Go.Proofs.YtopapdahpeemfaaDoor
open Go.RowKit Go.ChangeShapes Go.Sort
set_option linter.unusedVariables false
set_option linter.unusedSimpArgs false
set_option maxRecDepth 100000

theorem isErr (v : Value) (w : World) : (Instr.typeAssert (.iface 69 v) 20 41 true).run Tryd.prog w = .ok (.tuple #[.iface 69 v, .bool true]) w :=
  run_typeAssert_hasB Tryd.underlying41 (by kernel_rfl) v _ w
theorem nilErr (w : World) : (Instr.typeAssert .nilIface 20 41 true).run Tryd.prog w = .ok (.tuple #[.nilIface, .bool false]) w := by kernel_rfl
theorem catchI_panicking (p : Addr) (x : Int) (pv : Value) (older : List PanicEntry) (w : World) (hc : w.cell? p = some (.int .i64 x)) (hz : w.frozen? p = false) :
    CallsD Tryd.prog 19 #[.pointer (some p)] (.panicking ({ v := .iface 69 pv, recovered := false } :: older)) w fun e u' w' =>
      e = .returned (.tuple #[]) ∧ u' = .panicking ({ v := .iface 69 pv, recovered := true } :: older) ∧ w' = w.setCell p (.int .i64 2) := by
  refine callsD_of_wpS Tryd.func19 rfl fun c₀ cs hu => ?_
  have hie := isErr pv
  apply wpS_seq
  apply wpS_region
  simp [wpOpsS, go_sem, recoverD, hu, Tryd.ntmps19, Exit.thenS, hie]
  apply wpS_seq
  apply wpS_region
  simp [wpOpsS, go_sem, Exit.thenS]
  refine wpS_cond (t := true) (by simp [Act.eval, Array.replicate]) ?_
  simp only [if_true]
  apply wpS_region
  simp [wpOpsS, go_sem, hc, hz, bodyPostS, results, Tryd.results19]
theorem catchI_idle (p : Addr) (w : World) :
    CallsD Tryd.prog 19 #[.pointer (some p)] .returning w fun e u' w' => e = .returned (.tuple #[]) ∧ u' = .returning ∧ w' = w := by
  refine callsD_of_wpS Tryd.func19 rfl fun c₀ cs hu => ?_
  have hie := nilErr
  apply wpS_seq
  apply wpS_region
  simp [wpOpsS, go_sem, recoverD, hu, Tryd.ntmps19, Exit.thenS, hie]
  apply wpS_seq
  apply wpS_region
  simp [wpOpsS, go_sem, Exit.thenS]
  refine wpS_cond (t := false) (by simp [Act.eval, Array.replicate]) ?_
  simp only [Bool.false_eq_true, if_false]
  refine wpS_of_wp (wp_skip ?_)
  cases c₀
  simp_all [bodyPostS, results, Tryd.results19]
set_option maxHeartbeats 2000000 in
theorem doorI_QuadricNumber_ok (b0 b1 b2 : Nat) (w : World) (x : Int) (h : Calls Tryd.prog 11 #[.pointer (some ⟨b0, 0, none⟩), .pointer (some ⟨b1, 0, none⟩), .pointer (some ⟨b2, 0, none⟩)] (w.alloc (.cells #[.int .i64 0] 2)) fun e w' => e = .returned (.int .i64 x) ∧ Below (w.heap.size + 1) (w.alloc (.cells #[.int .i64 0] 2)) w') :
    Calls Tryd.prog 10 #[.func (.func 11) #[] #[.pointer (some ⟨b0, 0, none⟩), .pointer (some ⟨b1, 0, none⟩), .pointer (some ⟨b2, 0, none⟩)]] w fun e w' => e = .returned (.tuple #[.int .i64 x, .int .i64 0]) ∧ Below w.heap.size w w' := by
  have H := Lib.hid h
  clear h
  have hmf : ∀ (fn : Fn) (first cap : Array Value) (w : World), (Instr.makeFunc fn first cap).run Tryd.prog w = .ok (.func fn first cap) w := fun _ _ _ _ => rfl
  have st0 := (((St.start w).alloc (.cells #[.int .i64 0] 2)).addBox w.heap.size [.int .i64 0] (Box.made _ _ _ _ (fun j v h => by simpa using h)))
  go_enter_defers Tryd.func10, Tryd.ntmps10
  go_wp2_with (go_at_call 11; refine H.out.mono ?_; rintro e w1 ⟨rfl, b1⟩; have st1 := st0.keep (b1.mono (by simp)); have bx := st1.box 0 (w.heap.size, [.int .i64 0]) rfl; dsimp only at bx; have d0 := bx.2.1 0 _ rfl; have g0 := bx.2.2 0)
  have bt := bx.set1 (.int .i64 0)
  have BB := st1.1.setCell (p := ⟨w.heap.size, 0, none⟩) (Nat.le_refl _) (.int .i64 0)
  have e3 := bt.2.1 0 _ rfl
  generalize w1.setCell ⟨w.heap.size, 0, none⟩ (.int .i64 0) = W2 at *
  refine leaves_cons (f := 19) (args := #[.pointer (some ⟨w.heap.size, 0, none⟩)]) (by simp) (by simp [go_sem]) ?_
  refine (catchI_idle _ _).mono ?_
  rintro e u' w'' ⟨rfl, rfl, rfl⟩
  simp [Leaves, settle, results, Tryd.results10, go_sem, e3]
  exact BB
set_option maxHeartbeats 2000000 in
theorem doorI_QuadricNumber_no (b0 b1 b2 : Nat) (w : World) (ad : Addr) (h : Calls Tryd.prog 11 #[.pointer (some ⟨b0, 0, none⟩), .pointer (some ⟨b1, 0, none⟩), .pointer (some ⟨b2, 0, none⟩)] (w.alloc (.cells #[.int .i64 0] 2)) fun e w' => e = .panicked [{ v := .iface 69 (.pointer (some ad)), recovered := false }] ∧ Below (w.heap.size + 1) (w.alloc (.cells #[.int .i64 0] 2)) w') :
    Calls Tryd.prog 10 #[.func (.func 11) #[] #[.pointer (some ⟨b0, 0, none⟩), .pointer (some ⟨b1, 0, none⟩), .pointer (some ⟨b2, 0, none⟩)]] w fun e w' => e = .returned (.tuple #[.int .i64 0, .int .i64 2]) ∧ Below w.heap.size w w' := by
  have H := Lib.hid h
  clear h
  have hmf : ∀ (fn : Fn) (first cap : Array Value) (w : World), (Instr.makeFunc fn first cap).run Tryd.prog w = .ok (.func fn first cap) w := fun _ _ _ _ => rfl
  have st0 := (((St.start w).alloc (.cells #[.int .i64 0] 2)).addBox w.heap.size [.int .i64 0] (Box.made _ _ _ _ (fun j v h => by simpa using h)))
  go_enter_defers Tryd.func10, Tryd.ntmps10
  go_wp2_with (go_at_call 11; refine H.out.mono ?_; rintro e w1 ⟨rfl, b1⟩; have st1 := st0.keep (b1.mono (by simp)); have bx := st1.box 0 (w.heap.size, [.int .i64 0]) rfl; dsimp only at bx; have d0 := bx.2.1 0 _ rfl; have g0 := bx.2.2 0)
  have bt := bx.set1 (.int .i64 2)
  have BB := st1.1.setCell (p := ⟨w.heap.size, 0, none⟩) (Nat.le_refl _) (.int .i64 2)
  have e3 := bt.2.1 0 _ rfl
  refine leaves_cons (f := 19) (args := #[.pointer (some ⟨w.heap.size, 0, none⟩)]) (by simp) (by simp [go_sem]) ?_
  refine (catchI_panicking ⟨w.heap.size, 0, none⟩ 0 (.pointer (some ad)) [] w1 d0 g0).mono ?_
  rintro e u' w'' ⟨rfl, rfl, rfl⟩
  generalize w1.setCell ⟨w.heap.size, 0, none⟩ (.int .i64 2) = W2 at e3 BB ⊢
  simp [Leaves, settle, results, Tryd.results10, go_sem, e3]
  exact BB

end Go.Proofs.YtopapdahpeemfaaDoor
