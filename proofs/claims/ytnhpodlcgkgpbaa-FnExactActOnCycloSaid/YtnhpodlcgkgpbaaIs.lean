/- IsCyclo and its model: what is a number. -/
import Derived.Test.YtnhpodlcgkgpbaaLeaf
namespace Go.Proofs.Ytnhpodlcgkgpbaa
open Go.RowKit Go.ChangeShapes Go.Sort

/-- A number: its order, and the n Parts f 0, f 1, .. -/
def CyP (ord : Int) (n : Nat) (f : Nat → Int) : Prop := 1 ≤ ord ∧ ord ≤ 16 ∧ n = phiI ord ∧ Within f n 1000000000

theorem isOrder_yes (x : Int) (w : World) (h : 1 ≤ x) (h' : x ≤ 16) :
    Calls Try.prog 141 #[.int .i64 x] w fun e w' => e = .returned (.bool true) ∧ w = w' := by
  go_enter Try.func141, Try.ntmps141
  go_wp2
  go_ret
  exact ⟨by simp, rfl⟩
theorem isOrder_no (x : Int) (w : World) (h : x < 1 ∨ 16 < x) :
    Calls Try.prog 141 #[.int .i64 x] w fun e w' => e = .returned (.bool false) ∧ w = w' := by
  by_cases h1 : x < 1
  · clear h
    go_enter Try.func141, Try.ntmps141
    go_wp2
    go_ret
    exact ⟨rfl, rfl⟩
  · have h2 : 16 < x := by omega
    have h3 : 1 ≤ x := by omega
    clear h h1
    go_enter Try.func141, Try.ntmps141
    go_wp2
    go_ret
    exact ⟨by simp; omega, rfl⟩

section
variable {o : Bool} {lo hi : Nat} {v : Value} {n : Nat} {f : Nat → Int}
/-- A contract that leaves the world alone, met in a world of the class. -/
theorem regrown_same {P : Program} {fn : FuncId} {args : Array Value} {w : World} {d : Nat} {os : Array Obj} {u : Value}
    (h : Calls P fn args (grow (redrawn w d) os) fun e w' => e = .returned u ∧ grow (redrawn w d) os = w') : Calls P fn args (grow (redrawn w d) os) fun e w'' => e = .returned u ∧ ∃ p : Regrown, w'' = grow (redrawn w p.d) p.os :=
  h.mono fun _ _ ⟨he, hw⟩ => ⟨he, ⟨d, os⟩, hw.symm⟩
theorem regrown_drewN {P : Program} {fn : FuncId} {args : Array Value} {w : World} {d : Nat} {os : Array Obj} {u : Value}
    (h : Calls P fn args (grow (redrawn w d) os) fun e w' => e = .returned u ∧ ∃ m, w' = (grow (redrawn w d) os).drewN m) : Calls P fn args (grow (redrawn w d) os) fun e w'' => e = .returned u ∧ ∃ p : Regrown, w'' = grow (redrawn w p.d) p.os :=
  h.mono fun _ _ ⟨he, m, hw⟩ => ⟨he, ⟨d + m, os⟩, hw⟩

theorem Sl.regrown {w : World} (h : Sl o w lo hi v n f) (d : Nat) (os : Array Obj) : Sl o (grow (redrawn w d) os) lo hi v n f := h.keep (below_regrown w d os) h.size

theorem below_boxed (w : World) (ob : Obj) (d : Nat) (os : Array Obj) : Below w.heap.size w (grow (redrawn (w.alloc ob) d) os) :=
  ((Below.refl w.heap.size w).alloc (Nat.le_refl _) ob).trans ((below_regrown (w.alloc ob) d os).mono (by simp))

set_option maxHeartbeats 400000 in
theorem IsCyclo_yes (x : Int) (w : World) (hs : Sl o w lo hi v n f) (h : CyP x n f) :
    Calls Try.prog 92 #[.agg #[.int .i64 x, v]] w fun e w' => e = .returned (.bool true) ∧ Below w.heap.size w w' := by
  have hm := hs.len
  unfold maxLen at hm
  obtain ⟨a, cap, rfl⟩ := hs.shape
  have HS := Lib.hid hs; clear hs
  obtain ⟨h1, h2, h3, h4⟩ := h
  have HW := Lib.hid h4; clear h4
  have hb : ((n : Int) == ((phiI x : Nat) : Int)) = true := by rw [h3]; simp
  clear h3
  go_enter Try.func92, Try.ntmps92
  go_wp2
  have k0 := cell_regrown (w := w.alloc (Obj.cells #[Value.int IntKind.i64 x, Value.slice a n cap] 24)) (a := ⟨w.heap.size, 0, none⟩) (v := .int .i64 x) (by go_simp)
  have k1 := cell_regrown (w := w.alloc (Obj.cells #[Value.int IntKind.i64 x, Value.slice a n cap] 24)) (a := ⟨w.heap.size, 1, none⟩) (v := .slice a n cap) (by go_simp)
  refine wp_region_quiet_below (by kernel_rfl) (by kernel_rfl) ?_
  repeat (go_big_quiet_step (first
    | (go_at_call 141; exact regrown_same (isOrder_yes _ _ (by omega) (by omega)))
    | (go_at_call 119; exact regrown_drewN (totient_any _ _ (by omega)))
    | (go_at_call 168; exact regrown_same (areWithin_yes _ _ (by omega) (by omega) ((HS.out.keep ((Below.refl _ _).alloc (Nat.le_refl _) _) HS.out.size).regrown _ _) HW.out))))
  refine wpQuiet_nil ?_
  intro _ hw'
  obtain ⟨⟨dq, osq⟩, hw''⟩ := hw'
  subst hw''
  go_wp2
  go_ret
  exact ⟨rfl, below_boxed _ _ _ _⟩

set_option maxHeartbeats 400000 in
theorem IsCyclo_noOrd (x : Int) (w : World) (hs : Sl o w lo hi v n f) (h : x < 1 ∨ 16 < x) :
    Calls Try.prog 92 #[.agg #[.int .i64 x, v]] w fun e w' => e = .returned (.bool false) ∧ Below w.heap.size w w' := by
  have hm := hs.len
  unfold maxLen at hm
  obtain ⟨a, cap, rfl⟩ := hs.shape
  have HS := Lib.hid hs; clear hs
  have HO := Lib.hid h; clear h
  go_enter Try.func92, Try.ntmps92
  go_wp2
  have k0 := cell_regrown (w := w.alloc (Obj.cells #[Value.int IntKind.i64 x, Value.slice a n cap] 24)) (a := ⟨w.heap.size, 0, none⟩) (v := .int .i64 x) (by go_simp)
  have k1 := cell_regrown (w := w.alloc (Obj.cells #[Value.int IntKind.i64 x, Value.slice a n cap] 24)) (a := ⟨w.heap.size, 1, none⟩) (v := .slice a n cap) (by go_simp)
  refine wp_region_quiet_below (by kernel_rfl) (by kernel_rfl) ?_
  repeat (go_big_quiet_step (first
    | (go_at_call 141; exact regrown_same (isOrder_no _ _ HO.out))))
  refine wpQuiet_nil ?_
  intro _ hw'
  obtain ⟨⟨dq, osq⟩, hw''⟩ := hw'
  subst hw''
  go_wp2
  go_ret
  exact ⟨rfl, below_boxed _ _ _ _⟩

set_option maxHeartbeats 400000 in
theorem IsCyclo_noLen (x : Int) (w : World) (hs : Sl o w lo hi v n f) (h1 : 1 ≤ x) (h2 : x ≤ 16) (h3 : n ≠ phiI x) :
    Calls Try.prog 92 #[.agg #[.int .i64 x, v]] w fun e w' => e = .returned (.bool false) ∧ Below w.heap.size w w' := by
  have hm := hs.len
  unfold maxLen at hm
  obtain ⟨a, cap, rfl⟩ := hs.shape
  have HS := Lib.hid hs; clear hs
  have hb : ((n : Int) == ((phiI x : Nat) : Int)) = false := by rw [beq_eq_false_iff_ne]; omega
  clear h3
  go_enter Try.func92, Try.ntmps92
  go_wp2
  have k0 := cell_regrown (w := w.alloc (Obj.cells #[Value.int IntKind.i64 x, Value.slice a n cap] 24)) (a := ⟨w.heap.size, 0, none⟩) (v := .int .i64 x) (by go_simp)
  have k1 := cell_regrown (w := w.alloc (Obj.cells #[Value.int IntKind.i64 x, Value.slice a n cap] 24)) (a := ⟨w.heap.size, 1, none⟩) (v := .slice a n cap) (by go_simp)
  refine wp_region_quiet_below (by kernel_rfl) (by kernel_rfl) ?_
  repeat (go_big_quiet_step (first
    | (go_at_call 141; exact regrown_same (isOrder_yes _ _ (by omega) (by omega)))
    | (go_at_call 119; exact regrown_drewN (totient_any _ _ (by omega)))))
  refine wpQuiet_nil ?_
  intro _ hw'
  obtain ⟨⟨dq, osq⟩, hw''⟩ := hw'
  subst hw''
  go_wp2
  go_ret
  exact ⟨rfl, below_boxed _ _ _ _⟩

set_option maxHeartbeats 400000 in
theorem IsCyclo_noPart (x : Int) (w : World) (hs : Sl o w lo hi v n f) (h1 : 1 ≤ x) (h2 : x ≤ 16) (h3 : n = phiI x) (h4 : ¬ Within f n 1000000000) :
    Calls Try.prog 92 #[.agg #[.int .i64 x, v]] w fun e w' => e = .returned (.bool false) ∧ Below w.heap.size w w' := by
  have hm := hs.len
  unfold maxLen at hm
  obtain ⟨a, cap, rfl⟩ := hs.shape
  have HS := Lib.hid hs; clear hs
  have HW := Lib.hid h4; clear h4
  have hb : ((n : Int) == ((phiI x : Nat) : Int)) = true := by rw [h3]; simp
  clear h3
  go_enter Try.func92, Try.ntmps92
  go_wp2
  have k0 := cell_regrown (w := w.alloc (Obj.cells #[Value.int IntKind.i64 x, Value.slice a n cap] 24)) (a := ⟨w.heap.size, 0, none⟩) (v := .int .i64 x) (by go_simp)
  have k1 := cell_regrown (w := w.alloc (Obj.cells #[Value.int IntKind.i64 x, Value.slice a n cap] 24)) (a := ⟨w.heap.size, 1, none⟩) (v := .slice a n cap) (by go_simp)
  refine wp_region_quiet_below (by kernel_rfl) (by kernel_rfl) ?_
  repeat (go_big_quiet_step (first
    | (go_at_call 141; exact regrown_same (isOrder_yes _ _ (by omega) (by omega)))
    | (go_at_call 119; exact regrown_drewN (totient_any _ _ (by omega)))
    | (go_at_call 168; exact regrown_same (areWithin_no _ _ (by omega) (by omega) ((HS.out.keep ((Below.refl _ _).alloc (Nat.le_refl _) _) HS.out.size).regrown _ _) HW.out))))
  refine wpQuiet_nil ?_
  intro _ hw'
  obtain ⟨⟨dq, osq⟩, hw''⟩ := hw'
  subst hw''
  go_wp2
  go_ret
  exact ⟨rfl, below_boxed _ _ _ _⟩

theorem IsCyclo_no (x : Int) (w : World) (hs : Sl o w lo hi v n f) (h : ¬ CyP x n f) :
    Calls Try.prog 92 #[.agg #[.int .i64 x, v]] w fun e w' => e = .returned (.bool false) ∧ Below w.heap.size w w' := by
  by_cases h1 : x < 1 ∨ 16 < x
  · exact IsCyclo_noOrd x w hs h1
  · by_cases h2 : n = phiI x
    · exact IsCyclo_noPart x w hs (by omega) (by omega) h2 (fun h3 => h ⟨by omega, by omega, h2, h3⟩)
    · exact IsCyclo_noLen x w hs (by omega) (by omega) h2

set_option maxHeartbeats 400000 in
theorem l01Is_yes (x : Int) (w : World) (hs : Sl o w lo hi v n f) (h : CyP x n f) :
    Calls Try.prog 88 #[.agg #[.int .i64 x, v]] w fun e w' => e = .returned (.bool true) ∧ Below w.heap.size w w' := by
  have hm := hs.len
  unfold maxLen at hm
  obtain ⟨a, cap, rfl⟩ := hs.shape
  have HS := Lib.hid hs; clear hs
  obtain ⟨h1, h2, h3, h4⟩ := h
  have HW := Lib.hid h4; clear h4
  have hb : ((n : Int) == ((phiI x : Nat) : Int)) = true := by rw [h3]; simp
  clear h3
  go_enter Try.func88, Try.ntmps88
  go_wp2
  have k0 := cell_regrown (w := w.alloc (Obj.cells #[Value.int IntKind.i64 x, Value.slice a n cap] 24)) (a := ⟨w.heap.size, 0, none⟩) (v := .int .i64 x) (by go_simp)
  have k1 := cell_regrown (w := w.alloc (Obj.cells #[Value.int IntKind.i64 x, Value.slice a n cap] 24)) (a := ⟨w.heap.size, 1, none⟩) (v := .slice a n cap) (by go_simp)
  refine wp_region_quiet_below (by kernel_rfl) (by kernel_rfl) ?_
  repeat (go_big_quiet_step (first
    | (go_at_call 101; exact regrown_same (l01In_yes _ _ _ _ (by omega) (by omega)))
    | (go_at_call 163; exact regrown_same (l01Phi_any _ _ (by omega)))
    | (go_at_call 164; exact Calls.regrown_of (l01Fits_yes _ _ ((HS.out.keep ((Below.refl _ _).alloc (Nat.le_refl _) _) HS.out.size).regrown _ _) HW.out))))
  refine wpQuiet_nil ?_
  intro _ hw'
  obtain ⟨⟨dq, osq⟩, hw''⟩ := hw'
  subst hw''
  go_wp2
  go_ret
  exact ⟨rfl, below_boxed _ _ _ _⟩

set_option maxHeartbeats 400000 in
theorem l01Is_noOrd (x : Int) (w : World) (hs : Sl o w lo hi v n f) (h : x < 1 ∨ 16 < x) :
    Calls Try.prog 88 #[.agg #[.int .i64 x, v]] w fun e w' => e = .returned (.bool false) ∧ Below w.heap.size w w' := by
  have hm := hs.len
  unfold maxLen at hm
  obtain ⟨a, cap, rfl⟩ := hs.shape
  have HS := Lib.hid hs; clear hs
  have HO := Lib.hid h; clear h
  go_enter Try.func88, Try.ntmps88
  go_wp2
  have k0 := cell_regrown (w := w.alloc (Obj.cells #[Value.int IntKind.i64 x, Value.slice a n cap] 24)) (a := ⟨w.heap.size, 0, none⟩) (v := .int .i64 x) (by go_simp)
  have k1 := cell_regrown (w := w.alloc (Obj.cells #[Value.int IntKind.i64 x, Value.slice a n cap] 24)) (a := ⟨w.heap.size, 1, none⟩) (v := .slice a n cap) (by go_simp)
  refine wp_region_quiet_below (by kernel_rfl) (by kernel_rfl) ?_
  repeat (go_big_quiet_step (first
    | (go_at_call 101; exact regrown_same (l01In_no _ _ _ _ HO.out))))
  refine wpQuiet_nil ?_
  intro _ hw'
  obtain ⟨⟨dq, osq⟩, hw''⟩ := hw'
  subst hw''
  go_wp2
  go_ret
  exact ⟨rfl, below_boxed _ _ _ _⟩

set_option maxHeartbeats 400000 in
theorem l01Is_noLen (x : Int) (w : World) (hs : Sl o w lo hi v n f) (h1 : 1 ≤ x) (h2 : x ≤ 16) (h3 : n ≠ phiI x) :
    Calls Try.prog 88 #[.agg #[.int .i64 x, v]] w fun e w' => e = .returned (.bool false) ∧ Below w.heap.size w w' := by
  have hm := hs.len
  unfold maxLen at hm
  obtain ⟨a, cap, rfl⟩ := hs.shape
  have HS := Lib.hid hs; clear hs
  have hb : ((n : Int) == ((phiI x : Nat) : Int)) = false := by rw [beq_eq_false_iff_ne]; omega
  clear h3
  go_enter Try.func88, Try.ntmps88
  go_wp2
  have k0 := cell_regrown (w := w.alloc (Obj.cells #[Value.int IntKind.i64 x, Value.slice a n cap] 24)) (a := ⟨w.heap.size, 0, none⟩) (v := .int .i64 x) (by go_simp)
  have k1 := cell_regrown (w := w.alloc (Obj.cells #[Value.int IntKind.i64 x, Value.slice a n cap] 24)) (a := ⟨w.heap.size, 1, none⟩) (v := .slice a n cap) (by go_simp)
  refine wp_region_quiet_below (by kernel_rfl) (by kernel_rfl) ?_
  repeat (go_big_quiet_step (first
    | (go_at_call 101; exact regrown_same (l01In_yes _ _ _ _ (by omega) (by omega)))
    | (go_at_call 163; exact regrown_same (l01Phi_any _ _ (by omega)))))
  refine wpQuiet_nil ?_
  intro _ hw'
  obtain ⟨⟨dq, osq⟩, hw''⟩ := hw'
  subst hw''
  go_wp2
  go_ret
  exact ⟨rfl, below_boxed _ _ _ _⟩

set_option maxHeartbeats 400000 in
theorem l01Is_noPart (x : Int) (w : World) (hs : Sl o w lo hi v n f) (h1 : 1 ≤ x) (h2 : x ≤ 16) (h3 : n = phiI x) (h4 : ¬ Within f n 1000000000) :
    Calls Try.prog 88 #[.agg #[.int .i64 x, v]] w fun e w' => e = .returned (.bool false) ∧ Below w.heap.size w w' := by
  have hm := hs.len
  unfold maxLen at hm
  obtain ⟨a, cap, rfl⟩ := hs.shape
  have HS := Lib.hid hs; clear hs
  have HW := Lib.hid h4; clear h4
  have hb : ((n : Int) == ((phiI x : Nat) : Int)) = true := by rw [h3]; simp
  clear h3
  go_enter Try.func88, Try.ntmps88
  go_wp2
  have k0 := cell_regrown (w := w.alloc (Obj.cells #[Value.int IntKind.i64 x, Value.slice a n cap] 24)) (a := ⟨w.heap.size, 0, none⟩) (v := .int .i64 x) (by go_simp)
  have k1 := cell_regrown (w := w.alloc (Obj.cells #[Value.int IntKind.i64 x, Value.slice a n cap] 24)) (a := ⟨w.heap.size, 1, none⟩) (v := .slice a n cap) (by go_simp)
  refine wp_region_quiet_below (by kernel_rfl) (by kernel_rfl) ?_
  repeat (go_big_quiet_step (first
    | (go_at_call 101; exact regrown_same (l01In_yes _ _ _ _ (by omega) (by omega)))
    | (go_at_call 163; exact regrown_same (l01Phi_any _ _ (by omega)))
    | (go_at_call 164; exact Calls.regrown_of (l01Fits_no _ _ ((HS.out.keep ((Below.refl _ _).alloc (Nat.le_refl _) _) HS.out.size).regrown _ _) HW.out))))
  refine wpQuiet_nil ?_
  intro _ hw'
  obtain ⟨⟨dq, osq⟩, hw''⟩ := hw'
  subst hw''
  go_wp2
  go_ret
  exact ⟨rfl, below_boxed _ _ _ _⟩

theorem l01Is_no (x : Int) (w : World) (hs : Sl o w lo hi v n f) (h : ¬ CyP x n f) :
    Calls Try.prog 88 #[.agg #[.int .i64 x, v]] w fun e w' => e = .returned (.bool false) ∧ Below w.heap.size w w' := by
  by_cases h1 : x < 1 ∨ 16 < x
  · exact l01Is_noOrd x w hs h1
  · by_cases h2 : n = phiI x
    · exact l01Is_noPart x w hs (by omega) (by omega) h2 (fun h3 => h ⟨by omega, by omega, h2, h3⟩)
    · exact l01Is_noLen x w hs (by omega) (by omega) h2

end
end Go.Proofs.Ytnhpodlcgkgpbaa
