/- Slices of characters, told as rows of numbers: three for each. The laws' helpers over them. -/
import Derived.Test.YtkcofcppmlndiaaRowE
import Derived.Test.YtkcofcppmlndiaaEqC
import Derived.Test.YtkcofcppmlndiaaCopy
namespace Go.Proofs.Ytkcofcppmlndiaa
open Go.RowKit Go.ChangeShapes Go.Sort
set_option linter.unusedVariables false
set_option linter.unusedSimpArgs false

theorem regrown_of {P : Program} {fn : FuncId} {args : Array Value} {w : World} {d : Nat} {os : Array Obj} {u : Value}
    (h : Calls P fn args (grow (redrawn w d) os) fun e w' => e = .returned u ∧ Below (grow (redrawn w d) os).heap.size (grow (redrawn w d) os) w') : Calls P fn args (grow (redrawn w d) os) fun e w'' => e = .returned u ∧ ∃ p : Regrown, w'' = grow (redrawn w p.d) p.os :=
  h.mono fun _ _ ⟨he, hw⟩ => ⟨he, regrown_of_below ((below_regrown w d os).trans (hw.mono (below_regrown w d os).size))⟩
section
variable {o o' : Bool} {lo hi lo' hi' N : Nat} {a a' : Option Addr} {f f' : Nat → Int}
set_option maxHeartbeats 1000000 in
theorem eqCharacterS_yes {k k' : Nat} (w : World) (hs : Sl o w lo hi (.slice a (3 * N) (3 * N)) (3 * N) f) (hs' : Sl o' w lo' hi' (.slice a' (3 * N) (3 * N)) (3 * N) f') (he : ∀ j, j < 3 * N → f j = f' j) :
    Calls Try.prog 73 #[.slice a N k, .slice a' N k'] w fun e w' => e = .returned (.bool true) ∧ Below w.heap.size w w' := by
  have hm := hs.len
  unfold maxLen at hm
  have HS := Lib.hid hs; clear hs
  have HS' := Lib.hid hs'; clear hs'
  have HE := Lib.hid he; clear he
  go_enter Try.func73, Try.ntmps73
  go_wp2
  go_loopw [5] (fun i wr => ∃ q : Nat, q ≤ N ∧ i = .int .i64 q ∧ Below w.heap.size w wr) (fun i _ => N - (intOf i).toNat)
  case atStart => exact ⟨0, Nat.zero_le _, rfl, Below.refl _ _⟩
  case round =>
    obtain ⟨q, hq, rfl, hb⟩ := hrel
    by_cases hlt : q < N
    · obtain ⟨g, off, c1, hv, _, hg, _, _, hc, _⟩ := HS.out.at (by omega)
      have hgs : g < w.heap.size := Nat.lt_of_lt_of_le hg HS.out.size
      obtain ⟨rfl, _⟩ : a = some ⟨g, off, none⟩ ∧ 3 * N = c1 := by cases hv; exact ⟨rfl, rfl⟩
      obtain ⟨g', off', c1', hv', _, hg', _, _, hc', _⟩ := HS'.out.at (by omega)
      have hgs' : g' < w.heap.size := Nat.lt_of_lt_of_le hg' HS'.out.size
      obtain ⟨rfl, _⟩ : a' = some ⟨g', off', none⟩ ∧ 3 * N = c1' := by cases hv'; exact ⟨rfl, rfl⟩
      clear hv hg hv' hg'
      have hqi : (q : Int) < (N : Int) := by omega
      have u0 : wr.cell? ⟨g, off + q * 3, none⟩ = some (.int .i64 (f (q * 3))) := by rw [hb.cell (p := ⟨g, off + q * 3, none⟩) hgs]; exact hc _ (by omega)
      have u1 : wr.cell? ⟨g, off + q * 3 + 1, none⟩ = some (.int .i64 (f (q * 3 + 1))) := by rw [hb.cell (p := ⟨g, off + q * 3 + 1, none⟩) hgs]; exact hc (q * 3 + 1) (by omega)
      have u2 : wr.cell? ⟨g, off + q * 3 + 2, none⟩ = some (.int .i64 (f (q * 3 + 2))) := by rw [hb.cell (p := ⟨g, off + q * 3 + 2, none⟩) hgs]; exact hc (q * 3 + 2) (by omega)
      have v0 : wr.cell? ⟨g', off' + q * 3, none⟩ = some (.int .i64 (f (q * 3))) := by rw [hb.cell (p := ⟨g', off' + q * 3, none⟩) hgs', HE.out _ (by omega)]; exact hc' _ (by omega)
      have v1 : wr.cell? ⟨g', off' + q * 3 + 1, none⟩ = some (.int .i64 (f (q * 3 + 1))) := by rw [hb.cell (p := ⟨g', off' + q * 3 + 1, none⟩) hgs', HE.out _ (by omega)]; exact hc' (q * 3 + 1) (by omega)
      have v2 : wr.cell? ⟨g', off' + q * 3 + 2, none⟩ = some (.int .i64 (f (q * 3 + 2))) := by rw [hb.cell (p := ⟨g', off' + q * 3 + 2, none⟩) hgs', HE.out _ (by omega)]; exact hc' (q * 3 + 2) (by omega)
      have k0 := cell_regrown (w := wr) (a := ⟨g, off + q * 3, none⟩) u0
      have k1 := cell_regrown (w := wr) (a := ⟨g, off + q * 3 + 1, none⟩) u1
      have k2 := cell_regrown (w := wr) (a := ⟨g, off + q * 3 + 2, none⟩) u2
      have l0 := cell_regrown (w := wr) (a := ⟨g', off' + q * 3, none⟩) v0
      have l1 := cell_regrown (w := wr) (a := ⟨g', off' + q * 3 + 1, none⟩) v1
      have l2 := cell_regrown (w := wr) (a := ⟨g', off' + q * 3 + 2, none⟩) v2
      clear hc hc'
      go_wp2
      refine wp_region_quiet_below (by kernel_rfl) (by kernel_rfl) ?_
      repeat (go_big_quiet_step (first
        | (go_at_call 79; exact regrown_of (eqCharacter_yes _ _ _ _))))
      refine wpQuiet_nil ?_
      intro _ hw'
      obtain ⟨⟨dq, osq⟩, hw''⟩ := hw'
      subst hw''
      go_wp2
      go_roundw
      case rel => exact ⟨q + 1, by omega, by go_num, hb.trans ((below_regrown wr dq osq).mono hb.size)⟩
      case measure => simp [intOf]; omega
    · go_wp2
      go_ret
      exact ⟨rfl, hb⟩
set_option maxHeartbeats 1000000 in
theorem markCharacterS_any {cap : Nat} (k : Int) (w : World) (hs : Sl true w lo hi (.slice a (3 * N) (3 * N)) (3 * N) f) (hk : 0 ≤ k) (hk' : k ≤ 4611686018427387904) (hn : 3 * N ≤ 1048576) :
    Calls Try.prog 74 #[.slice a N cap, .int .i64 k] w fun e w' => e = .returned (.int .i64 (k + (3 * N : Nat))) ∧ Sl true w' lo hi (.slice a (3 * N) (3 * N)) (3 * N) (fun j => k + j) ∧ Frame lo hi w w' := by
  have HS := Lib.hid hs; clear hs
  go_enter Try.func74, Try.ntmps74
  go_wp2
  go_loopw [1, 5] (fun s1 i wr => ∃ q : Nat, q ≤ N ∧ i = .int .i64 q ∧ s1 = .int .i64 (k + (3 * q : Nat)) ∧ Sl true wr lo hi (.slice a (3 * N) (3 * N)) (3 * N) (fun j => if j < 3 * q then k + j else f j) ∧ Frame lo hi w wr) (fun _ i _ => N - (intOf i).toNat)
  case atStart => exact ⟨0, Nat.zero_le _, rfl, by simp, HS.out.congr (fun j hj => by simp), Frame.refl _ _ _⟩
  case round =>
    obtain ⟨q, hq, rfl, rfl, hown, hfr⟩ := hrel
    have HO := Lib.hid hown; clear hown
    by_cases hlt : q < N
    · obtain ⟨g, off, c1, hv, hg1, hg2, _, _, hc, hz⟩ := HO.out.at (by omega)
      obtain ⟨rfl, hcap⟩ : a = some ⟨g, off, none⟩ ∧ 3 * N = c1 := by cases hv; exact ⟨rfl, rfl⟩
      clear hv hcap
      have hqi : (q : Int) < (N : Int) := by omega
      have u0 := hc (q * 3) (by omega)
      have u1 := hc (q * 3 + 1) (by omega)
      have u2 := hc (q * 3 + 2) (by omega)
      have z0 := hz rfl (off + q * 3)
      have z1 := hz rfl (off + q * 3 + 1)
      have z2 := hz rfl (off + q * 3 + 2)
      rw [← Nat.add_assoc] at u1 u2
      have S0 := HO.out.store (i := q * 3) (x := k + (3 * q : Nat)) (by omega) (by unfold inR; omega)
      have S1 := S0.store (i := q * 3 + 1) (x := k + (3 * q : Nat) + 1) (by omega) (by unfold inR; omega)
      have S2 := Lib.hid (S1.store (i := q * 3 + 2) (x := k + (3 * q : Nat) + 1 + 1) (by omega) (by unfold inR; omega))
      have FR := Lib.hid (((hfr.setCell (p := ⟨g, off + q * 3, none⟩) hg1 hg2 (.int .i64 (k + (3 * q : Nat)))).setCell (p := ⟨g, off + (q * 3 + 1), none⟩) hg1 hg2 (.int .i64 (k + (3 * q : Nat) + 1))).setCell (p := ⟨g, off + (q * 3 + 2), none⟩) hg1 hg2 (.int .i64 (k + (3 * q : Nat) + 1 + 1)))
      clear hc hz S0 S1 hfr
      have hk3 : (3 * q : Nat) ≤ 1048576 := by omega
      go_wp2
      go_roundw
      case rel => exact ⟨q + 1, by omega, by go_num, by go_num, S2.out.congr (fun j hj => by
          by_cases e2 : j = q * 3 + 2
          · subst e2; simp; omega
          · by_cases e1 : j = q * 3 + 1
            · subst e1; simp; omega
            · by_cases e0 : j = q * 3
              · subst e0; simp; omega
              · have : (j < 3 * (q + 1)) = (j < 3 * q) := by simp; omega
                simp [e0, e1, e2, this]), FR.out⟩
      case measure => simp [intOf]; omega
    · have e : q = N := by omega
      subst e
      go_wp2
      go_ret
      exact ⟨rfl, HO.out.congr (fun j hj => by simp [hj]), hfr⟩
set_option maxHeartbeats 1000000 in
theorem heldCharacterS_any {cap : Nat} (k : Int) (w : World) (hs : Sl o w lo hi (.slice a (3 * N) (3 * N)) (3 * N) (fun j => k + j)) (hk : 0 ≤ k) (hk' : k ≤ 4611686018427387904) (hn : 3 * N ≤ 1048576) :
    Calls Try.prog 75 #[.slice a N cap, .int .i64 k] w fun e w' => e = .returned (.int .i64 (k + (3 * N : Nat))) ∧ Below w.heap.size w w' := by
  have HS := Lib.hid hs; clear hs
  go_enter Try.func75, Try.ntmps75
  go_wp2
  go_loop [1, 5] (fun s1 i => ∃ q : Nat, q ≤ N ∧ i = .int .i64 q ∧ s1 = .int .i64 (k + (3 * q : Nat))) (fun _ i => N - (intOf i).toNat)
  case atStart => exact ⟨0, Nat.zero_le _, rfl, by simp⟩
  case round =>
    obtain ⟨q, hq, rfl, rfl⟩ := hrel
    by_cases hlt : q < N
    · obtain ⟨g, off, c1, hv, hg1, hg2, _, _, hc, hz⟩ := HS.out.at (by omega)
      obtain ⟨rfl, hcap⟩ : a = some ⟨g, off, none⟩ ∧ 3 * N = c1 := by cases hv; exact ⟨rfl, rfl⟩
      clear hv hcap
      have hqi : (q : Int) < (N : Int) := by omega
      have u0 := hc (q * 3) (by omega)
      have u1 := hc (q * 3 + 1) (by omega)
      have u2 := hc (q * 3 + 2) (by omega)
      rw [← Nat.add_assoc] at u1 u2
      rw [show k + ((q * 3 : Nat) : Int) = k + ((3 * q : Nat) : Int) by omega] at u0
      rw [show k + ((q * 3 + 1 : Nat) : Int) = k + ((3 * q : Nat) : Int) + 1 by omega] at u1
      rw [show k + ((q * 3 + 2 : Nat) : Int) = k + ((3 * q : Nat) : Int) + 1 + 1 by omega] at u2
      clear hc hz
      go_wp2
      go_round
      case rel => exact ⟨q + 1, by omega, by go_num, by go_num⟩
      case measure => simp [intOf]; omega
    · have e : q = N := by omega
      subst e
      go_wp2
      go_ret
      exact ⟨rfl, Below.refl _ _⟩
end
end Go.Proofs.Ytkcofcppmlndiaa
