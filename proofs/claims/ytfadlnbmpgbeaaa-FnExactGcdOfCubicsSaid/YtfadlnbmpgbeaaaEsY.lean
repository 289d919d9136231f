/- Greatest common divisors of the model. -/
import Derived.Test.YtfadlnbmpgbeaaaEsX
namespace Go.Proofs.Ytfadlnbmpgbeaaa
open Go.RowKit Go.ChangeShapes Go.Sort
set_option linter.unusedVariables false
set_option linter.unusedSimpArgs false
set_option maxRecDepth 100000
set_option maxHeartbeats 4000000

section
variable {o o' : Bool} {lo hi n lo' hi' n' : Nat} {v v' : Value} {f f' : Nat → Int}
theorem l09Gcd_any (x x' : Int) (w : World) (hs : Sl o w lo hi v 2 f) (hs' : Sl o' w lo' hi' v' 2 f') (hn1 : nrm (f 0) (f 1) ≤ 300000000) (hn2 : nrm (f' 0) (f' 1) ≤ 300000000) (h0 : ¬ (f 0 = 0 ∧ f 1 = 0) ∨ ¬ (f' 0 = 0 ∧ f' 1 = 0)) (G : Int × Int) (hG : gcF (nrm (f' 0) (f' 1)).toNat (f 0) (f 1) (f' 0) (f' 1) = G) :
    Calls Try.prog 72 #[.agg #[.int .i64 x, v], .agg #[.int .i64 x', v']] w fun e w' => ∃ g k, e = .returned (.agg #[.int .i64 3, .slice g 2 k]) ∧ Sl true w' w.heap.size w'.heap.size (.slice g 2 k) 2 (two (chA G.1 G.2) (chB G.1 G.2)) ∧ Below w.heap.size w w' := by
  have HG := Lib.hid hG
  have H0 := Lib.hid h0
  clear hG h0
  obtain ⟨av, cap, rfl⟩ := hs.shape
  obtain ⟨av', cap', rfl⟩ := hs'.shape
  have hh := hs.size
  have hh' := hs'.size
  have st := (((((St.start w).addSl ⟨o, lo, hi, .slice av 2 cap, 2, f⟩ hs).addSl ⟨o', lo', hi', .slice av' 2 cap', 2, f'⟩ hs').alloc (.cells #[.int .i64 x, .slice av 2 cap] 27)).addBox w.heap.size [.int .i64 x, .slice av 2 cap] (Box.made _ _ _ _ (fun j v h => by simpa using h)))
  replace st := (st.alloc (.cells #[.int .i64 x', .slice av' 2 cap'] 27)).addBox _ [.int .i64 x', .slice av' 2 cap'] (Box.made _ _ _ _ (fun j v h => by simpa using h))
  simp only [World.size_alloc] at st
  replace st := (st.alloc (.cells #[.int .i64 0, .slice none 0 0] 27)).addBox _ [.int .i64 0, .slice none 0 0] (Box.made _ _ _ _ (fun j v h => by simpa using h))
  simp only [World.size_alloc] at st
  have stx := st.sub (bs' := [(w.heap.size, [.int .i64 x, .slice av 2 cap]), (w.heap.size + 1, [.int .i64 x', .slice av' 2 cap']), (w.heap.size + 1 + 1, [.int .i64 0, .slice none 0 0])]) (ss' := [⟨o, lo, hi, .slice av 2 cap, 2, f⟩, ⟨o', lo', hi', .slice av' 2 cap', 2, f'⟩]) (by intro b hb; simp only [List.mem_cons, List.not_mem_nil, or_false] at hb; rcases hb with rfl | rfl | rfl <;> simp) (by intro b hb; simp only [List.mem_cons, List.not_mem_nil, or_false] at hb; rcases hb with rfl | rfl <;> simp)
  clear st hs hs'
  go_enter Try.func72, Try.ntmps72
  go_wp2_with fail
  go_loopg [] (nrm (f' 0) (f' 1)).toNat (fun k wr => ∃ (x y : Int) (av bv : Option Addr) (ca cb : Nat) (oa ob : Bool) (la ha lb hb : Nat) (f g : Nat → Int), Hid (gcF k (f 0) (f 1) (g 0) (g 1) = G) ∧ Hid ((nrm (g 0) (g 1)).toNat ≤ k) ∧ Hid (¬ (f 0 = 0 ∧ f 1 = 0) ∨ ¬ (g 0 = 0 ∧ g 1 = 0)) ∧ nrm (f 0) (f 1) ≤ 300000000 ∧ nrm (g 0) (g 1) ≤ 300000000 ∧ (ha ≤ w.heap.size ∨ w.heap.size + 3 ≤ la) ∧ (hb ≤ w.heap.size ∨ w.heap.size + 3 ≤ lb) ∧ St w wr [(w.heap.size, [.int .i64 x, .slice av 2 ca]), (w.heap.size + 1, [.int .i64 y, .slice bv 2 cb]), (w.heap.size + 1 + 1, [.int .i64 0, .slice none 0 0])] [⟨oa, la, ha, .slice av 2 ca, 2, f⟩, ⟨ob, lb, hb, .slice bv 2 cb, 2, g⟩])
  case atStart => exact ⟨x, x', av, av', cap, cap', o, o', lo, hi, lo', hi', f, f', HG, Lib.hid (Nat.le_refl _), H0, hn1, hn2, .inl hh, .inl hh', stx⟩
  case round =>
    clear stx
    obtain ⟨x, y, av, bv, ca, cb, oa, ob, la, ha, lb, hb, f, g, HG, HK, H0, hn1, hn2, hla, hlb, st⟩ := hrel
    have bf := nrm_small hn1
    have bg := nrm_small hn2
    have qx := st.sl 0 ⟨oa, la, ha, .slice av 2 ca, 2, f⟩ rfl
    have qy := st.sl 1 ⟨ob, lb, hb, .slice bv 2 cb, 2, g⟩ rfl
    dsimp only at qx qy
    have qxs := qx.size
    have qys := qy.size
    obtain ⟨x0, x1⟩ := (st.box 0 _ rfl).cell2
    have xz := (st.box 0 _ rfl).2.2
    have xs := (st.box 0 _ rfl).1
    dsimp only at x0 x1 xz xs
    obtain ⟨y0, y1⟩ := (st.box 1 _ rfl).cell2
    have yz := (st.box 1 _ rfl).2.2
    have ys := (st.box 1 _ rfl).1
    dsimp only at y0 y1 yz ys
    go_wp2_with fail
    refine (l09Norm_any y _ qy (by omega) (by omega) (by omega) (by omega)).mono ?_
    obtain ⟨N, hN⟩ : ∃ N, nrm (g 0) (g 1) = N := ⟨_, rfl⟩
    rw [hN]
    have HN := Lib.hid hN
    clear hN
    rintro e w1 ⟨rfl, b1⟩
    replace st := st.keep b1
    have z1 := b1.size
    clear b1 qx qy x0 x1 xz xs y0 y1 yz ys
    have qx := st.sl 0 ⟨oa, la, ha, .slice av 2 ca, 2, f⟩ rfl
    have qy := st.sl 1 ⟨ob, lb, hb, .slice bv 2 cb, 2, g⟩ rfl
    dsimp only at qx qy
    obtain ⟨x0, x1⟩ := (st.box 0 _ rfl).cell2
    have xz := (st.box 0 _ rfl).2.2
    have xs := (st.box 0 _ rfl).1
    dsimp only at x0 x1 xz xs
    obtain ⟨y0, y1⟩ := (st.box 1 _ rfl).cell2
    have yz := (st.box 1 _ rfl).2.2
    have ys := (st.box 1 _ rfl).1
    dsimp only at y0 y1 yz ys
    obtain ⟨r0, r1⟩ := (st.box 2 _ rfl).cell2
    have rz := (st.box 2 _ rfl).2.2
    have rs := (st.box 2 _ rfl).1
    dsimp only at r0 r1 rz rs
    have zr : w.heap.size + 1 + 1 < w1.heap.size := rs
    by_cases hz : N = 0
    · have hgz := (nrm_eq0 (g 0) (g 1)).1 (HN.out.trans hz)
      have e1 := HG.out
      rw [hgz.1, hgz.2, gcF_zero] at e1
      subst e1
      have hnf : ¬ (f 0 = 0 ∧ f 1 = 0) := H0.out.resolve_right (fun h => h hgz)
      have hzb : (N == 0) = true := by simpa using hz
      have HNF := Lib.hid hnf
      clear hnf hgz HG HK H0 HN
      go_wp2_with fail
      refine (l09Chosen_any x _ qx (by omega) (by omega) (by omega) (by omega) HNF.out).mono ?_
      rintro e w2 ⟨g2, k2, rfl, s2, b2⟩
      replace st := st.keep b2
      have z2 := b2.size
      clear b2 qx qy x0 x1 xz xs y0 y1 yz ys r0 r1 rz rs
      obtain ⟨r0, r1⟩ := (st.box 2 _ rfl).cell2
      have rz := (st.box 2 _ rfl).2.2
      have rs := (st.box 2 _ rfl).1
      dsimp only at r0 r1 rz rs
      have BB := st.1
      go_wp2
      refine bodyPost_ret (v := .agg #[.int .i64 3, .slice g2 2 k2]) (by simp [results, Try.results72, go_sem, r0, r1]) rfl ?_
      refine ⟨_, _, rfl, ?_, by go_grown⟩
      exact ((s2.setOther (.inl (by show w.heap.size + 1 + 1 < _; omega)) _).setOther (.inl (by show w.heap.size + 1 + 1 < _; omega)) _).wide (by omega) (by simp) (by simp)
    · have hgz : ¬ (g 0 = 0 ∧ g 1 = 0) := fun h => hz (HN.out.symm.trans ((nrm_eq0 (g 0) (g 1)).2 h))
      obtain ⟨k', hk', e1, hk1, hk2⟩ := gcF_step (a := f 0) (b := f 1) hgz HK.out
      have hp1 := nrm_pos hgz
      have hrn := rest_norm (a := f 0) (b := f 1) hp1
      rw [HG.out] at e1
      have E1 := Lib.hid e1
      have E2 := Lib.hid (show (nrm (rA (f 0) (f 1) (g 0) (g 1)) (rB (f 0) (f 1) (g 0) (g 1))).toNat ≤ k' from hk1)
      have E3 := Lib.hid hk'
      have E4 := Lib.hid (show nrm (rA (f 0) (f 1) (g 0) (g 1)) (rB (f 0) (f 1) (g 0) (g 1)) ≤ 300000000 by omega)
      have E5 := Lib.hid hgz
      have E6 := Lib.hid hp1
      have hzb : (N == 0) = false := by simpa using hz
      clear hgz hp1 hrn e1 hk1 hk2 hk' HG HK H0
      go_wp2_with fail
      refine (l09Divide_any x y _ qx qy (by omega) (by omega) (by omega) (by omega) (by omega) (by omega) (by omega) (by omega) E6.out).mono ?_
      obtain ⟨R, hR⟩ : ∃ R, rA (f 0) (f 1) (g 0) (g 1) = R := ⟨_, rfl⟩
      obtain ⟨S, hS⟩ : ∃ S, rB (f 0) (f 1) (g 0) (g 1) = S := ⟨_, rfl⟩
      rw [hR, hS] at E1 E2 E4 ⊢
      clear hR hS
      rintro e w2 ⟨g1, k1, g2, k2, rfl, ⟨m, hm1, hm2, s1, s2⟩, c1⟩
      replace st := (st.keep c1).addSl ⟨true, m, w2.heap.size, .slice g2 2 k2, 2, two R S⟩ s2
      replace st := (st.alloc (.cells #[.int .i64 3, .slice g1 2 k1] 27))
      replace st := (st.alloc (.cells #[.int .i64 3, .slice g2 2 k2] 27)).addBox _ [.int .i64 3, .slice g2 2 k2] (Box.made _ _ _ _ (fun j v h => by simpa using h))
      have z2 := c1.size
      clear qx qy c1 s1 s2 x0 x1 xz xs y0 y1 yz ys r0 r1 rz rs
      simp only [World.size_alloc] at st
      go_upto_region 3 with fail
      generalize World.alloc (World.alloc w2 _) _ = W5 at st ⊢
      have stx := st.sub (bs' := [(w.heap.size, [.int .i64 x, .slice av 2 ca]), (w.heap.size + 1, [.int .i64 y, .slice bv 2 cb]), (w.heap.size + 1 + 1, [.int .i64 0, .slice none 0 0]), (w2.heap.size + 1, [.int .i64 3, .slice g2 2 k2])]) (ss' := [⟨ob, lb, hb, .slice bv 2 cb, 2, g⟩, ⟨true, m, w2.heap.size, .slice g2 2 k2, 2, two R S⟩]) (by intro b hb; simp only [List.mem_cons, List.not_mem_nil, or_false] at hb; rcases hb with rfl | rfl | rfl | rfl <;> simp) (by intro b hb; simp only [List.mem_cons, List.not_mem_nil, or_false] at hb; rcases hb with rfl | rfl <;> simp)
      clear st
      have st := stx
      obtain ⟨x0, x1⟩ := (st.box 0 _ rfl).cell2
      have xz := (st.box 0 _ rfl).2.2
      have xs := (st.box 0 _ rfl).1
      dsimp only at x0 x1 xz xs
      obtain ⟨y0, y1⟩ := (st.box 1 _ rfl).cell2
      have yz := (st.box 1 _ rfl).2.2
      have ys := (st.box 1 _ rfl).1
      dsimp only at y0 y1 yz ys
      obtain ⟨t0, t1⟩ := (st.box 3 _ rfl).cell2
      have tz := (st.box 3 _ rfl).2.2
      have ts := (st.box 3 _ rfl).1
      dsimp only at t0 t1 tz ts
      have st2 := st.setHead (u0 := .int .i64 y) (u1 := .slice bv 2 cb) (Nat.le_refl _) (by intro q hq; simp only [List.mem_cons, List.not_mem_nil, or_false] at hq; rcases hq with rfl | rfl | rfl <;> dsimp only <;> omega) (by intro q hq; simp only [List.mem_cons, List.not_mem_nil, or_false] at hq; rcases hq with rfl | rfl <;> dsimp only <;> omega)
      have st3 := st2.swp.setHead (u0 := .int .i64 3) (u1 := .slice g2 2 k2) (by omega) (by intro q hq; simp only [List.mem_cons, List.not_mem_nil, or_false] at hq; rcases hq with rfl | rfl | rfl <;> dsimp only <;> omega) (by intro q hq; simp only [List.mem_cons, List.not_mem_nil, or_false] at hq; rcases hq with rfl | rfl <;> dsimp only <;> omega)
      have st4 := st3.swp.sub (bs' := [(w.heap.size, [.int .i64 y, .slice bv 2 cb]), (w.heap.size + 1, [.int .i64 3, .slice g2 2 k2]), (w.heap.size + 1 + 1, [.int .i64 0, .slice none 0 0])]) (ss' := [⟨ob, lb, hb, .slice bv 2 cb, 2, g⟩, ⟨true, m, w2.heap.size, .slice g2 2 k2, 2, two R S⟩]) (by intro b hb; simp only [List.mem_cons, List.not_mem_nil, or_false] at hb; rcases hb with rfl | rfl | rfl <;> simp) (by intro b hb; simp only [List.mem_cons, List.not_mem_nil, or_false] at hb; rcases hb with rfl | rfl <;> simp)
      clear st st2 st3 stx
      go_wp2
      have e3 := E3.out
      go_roundg k'
      case rel => exact ⟨y, 3, bv, g2, cb, k2, ob, true, lb, hb, m, w2.heap.size, g, two R S, Lib.hid E1.out.symm, E2, Lib.hid (.inl E5.out), hn2, E4.out, hlb, .inr (by omega), st4⟩
      case measure => omega
end
end Go.Proofs.Ytfadlnbmpgbeaaa
