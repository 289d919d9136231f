/- IsInField of the program. -/
import Derived.Test.YtloalhcloifgjaaKeys
import Derived.Test.YtloalhcloifgjaaFin
import Derived.Test.YtloalhcloifgjaaGal
import Derived.Maps.OwnIn
namespace Go.Proofs.Ytloalhcloifgjaa
open Go.RowKit Go.ChangeShapes Go.Sort Go.Maps
set_option linter.unusedVariables false
set_option linter.unusedSimpArgs false

/-- The images by the numbers below k that are 1 modulo m are the number itself. -/
def fieldTo (n L m : Nat) (f : Nat → Int) (k : Nat) : Prop := ∀ a, 1 ≤ a → a < k → a % m = 1 % m → gcdI (a : Int) n = 1 → ∀ j, j < L → imgP n a L f j = f j
open Classical in
/-- Whether a number is in the field of m. -/
noncomputable def fieldB (n L m : Nat) (f : Nat → Int) : Bool := decide (fieldTo n L m f (n + 1))
open Classical in
theorem fieldB_true {n L m : Nat} {f : Nat → Int} (h : fieldTo n L m f (n + 1)) : fieldB n L m f = true := by unfold fieldB; exact decide_eq_true h
open Classical in
theorem fieldB_false {n L m : Nat} {f : Nat → Int} (h : ¬ fieldTo n L m f (n + 1)) : fieldB n L m f = false := by unfold fieldB; exact decide_eq_false h
theorem fieldTo_one (n L m : Nat) (f : Nat → Int) : fieldTo n L m f 1 := fun a h1 h2 => absurd h2 (by omega)
theorem fieldTo_skip {n L m : Nat} {f : Nat → Int} {k : Nat} (h : ¬ (k % m = 1 % m ∧ gcdI (k : Int) n = 1)) : fieldTo n L m f (k + 1) ↔ fieldTo n L m f k := by
  constructor
  · exact fun hf a h1 h2 => hf a h1 (by omega)
  · intro hf a h1 h2 h3 h4
    by_cases e : a = k
    · subst e; exact absurd ⟨h3, h4⟩ h
    · exact hf a h1 (by omega) h3 h4
theorem fieldTo_step {n L m : Nat} {f : Nat → Int} {k : Nat} (h0 : 1 ≤ k) (h1 : k % m = 1 % m) (h2 : gcdI (k : Int) n = 1) : fieldTo n L m f (k + 1) ↔ fieldTo n L m f k ∧ ∀ j, j < L → imgP n k L f j = f j := by
  constructor
  · exact fun hf => ⟨fun a e1 e2 => hf a e1 (by omega), hf k h0 (by omega) h1 h2⟩
  · rintro ⟨hf, hk⟩ a e1 e2 e3 e4
    by_cases e : a = k
    · subst e; exact hk
    · exact hf a e1 (by omega) e3 e4
theorem ixI_one (n : Nat) (i : Nat) (hi : i < n) : ixI n 1 i = i := by unfold ixI; rw [Nat.mul_one]; exact Nat.mod_eq_of_lt hi
theorem foldP_id {ix : Nat → Nat} {f : Nat → Int} : ∀ {m}, (∀ i, i < m → ix i = i) → (∀ i, i < m → inR (f i)) → foldP ix f m = pad m f
  | 0, _, _ => by funext j; simp [foldP, pad]
  | m + 1, h, hr => by
    funext j
    unfold foldP
    rw [h m (Nat.lt_succ_self m), foldP_id (fun i hi => h i (Nat.lt_succ_of_lt hi)) (fun i hi => hr i (Nat.lt_succ_of_lt hi))]
    unfold pad
    by_cases e : j = m
    · subst e
      rw [if_pos rfl, if_neg (Nat.lt_irrefl _), if_pos (Nat.lt_succ_self _), Int.zero_add]
      exact wrap_inR (hr j (Nat.lt_succ_self _))
    · rw [if_neg e]
      by_cases e2 : j < m
      · rw [if_pos e2, if_pos (by omega)]
      · rw [if_neg e2, if_neg (by omega)]
/-- The image by 1. -/
theorem img_one {n L : Nat} {f : Nat → Int} (hL : L = phiN n) (h12 : L ≤ 12) (hLn : L ≤ n) (hr : ∀ i, i < L → inR (f i)) (j : Nat) (hj : j < L) : imgP n 1 L f j = f j := by
  unfold imgP
  rw [foldP_id (fun i hi => ixI_one n i (by omega)) hr, ← red_eq n L f (by omega) j (by omega), if_pos hj, ← hL, Nat.sub_self]
  rfl
theorem img_inR {n a L : Nat} {f : Nat → Int} : ∀ j, j < 12 → inR (cut (phiN n) (imgP n a L f) j) :=
  cut_inR _ _ 12 (fun j hj => redP_inR n _ (fun j _ => foldP_inR _ _ _ _) j (by omega))

theorem ownsMap_keepB {H : Type} {P : Program} {k : TypeId} {R : Value → Option (DataW H × List MemPlace)} {w w' : World} {b n : Nat} {D : DataW H} (h : w.ownsMap P k R b n D) (hb : Below w.heap.size w w') : w'.ownsMap P k R b n D := by
  have hlt := h.lt
  exact h.kept (row := none) ⟨hb.os, hb.tape, hb.output, hb.size, fun k hk _ => hb.block k hk⟩ (by simp)
theorem ownsMap_drewN {H : Type} {P : Program} {k : TypeId} {R : Value → Option (DataW H × List MemPlace)} {w : World} {b n : Nat} {D : DataW H} (h : w.ownsMap P k R b n D) (m : Nat) : (w.drewN m).ownsMap P k R b n D := ownsMap_keepB h (below_drewN (Below.refl _ _) m)

section
variable {o : Bool} {lo hi L : Nat} {v : Value} {f : Nat → Int}
theorem IsInField_impl_bad (x m : Int) (w : World) (hs : Sl o w lo hi v L f) (h : ¬ CyP x L f) :
    Calls Try.prog 115 #[.agg #[.int .i64 x, v], .int .i64 m] w fun e w' => e = .returned (noV 1) ∧ Below w.heap.size w w' := by
  obtain ⟨av, cap, rfl⟩ := hs.shape
  have st0 := ((((St.start w).addSl ⟨o, lo, hi, .slice av L cap, L, f⟩ hs).alloc (.cells #[.int .i64 x, .slice av L cap] 26)).addBox w.heap.size [.int .i64 x, .slice av L cap] (Box.made _ _ _ _ (fun j v h => by simpa using h)))
  have q0 := st0.sl 0 ⟨o, lo, hi, .slice av L cap, L, f⟩ rfl
  dsimp only at q0
  have HC := Lib.hid h
  clear h hs
  go_enter Try.func115, Try.ntmps115
  go_wp2_with fail
  refine (IsCyclo_no _ _ q0 HC.out).mono ?_
  rintro e w1 ⟨rfl, b1⟩
  clear q0
  have st1 := st0.keep b1
  have hz_w1 := b1.size
  try simp only [World.size_alloc] at hz_w1
  clear st0 b1
  have BB := st1.1
  go_wp2
  refine bodyPost_ret (v := noV 1) (by simp [results, Try.results115, go_sem, noV]) rfl ?_
  exact ⟨rfl, BB⟩

theorem IsInField_impl_low (n : Nat) (m : Int) (w : World) (hs : Sl o w lo hi v L f) (h : CyP n L f) (hm : m < 1) :
    Calls Try.prog 115 #[.agg #[.int .i64 (n : Int), v], .int .i64 m] w fun e w' => e = .returned (noV 2) ∧ Below w.heap.size w w' := by
  obtain ⟨av, cap, rfl⟩ := hs.shape
  have hn1 : 1 ≤ n := by have := h.1; omega
  have hn2 : n ≤ 16 := by have := h.2.1; omega
  have hp := phi_le12 n hn2 hn1
  have hL : L ≤ 12 := by have e : L = phiN n := h.2.2.1; omega
  have st0 := ((((St.start w).addSl ⟨o, lo, hi, .slice av L cap, L, f⟩ hs).alloc (.cells #[.int .i64 (n : Int), .slice av L cap] 26)).addBox w.heap.size [.int .i64 (n : Int), .slice av L cap] (Box.made _ _ _ _ (fun j v h => by simpa using h)))
  have q0 := st0.sl 0 ⟨o, lo, hi, .slice av L cap, L, f⟩ rfl
  dsimp only at q0
  have HC := Lib.hid h
  clear h hs
  go_enter Try.func115, Try.ntmps115
  go_wp2_with fail
  refine (IsCyclo_yes _ _ q0 HC.out).mono ?_
  rintro e w1 ⟨rfl, b1⟩
  clear q0
  have st1 := st0.keep b1
  have hz_w1 := b1.size
  try simp only [World.size_alloc] at hz_w1
  clear st0 b1
  have BB := st1.1
  obtain ⟨c0, c1⟩ := (st1.box 0 (w.heap.size, [.int .i64 (n : Int), .slice av L cap]) rfl).cell2
  go_wp2
  refine bodyPost_ret (v := noV 2) (by simp [results, Try.results115, go_sem, noV]) rfl ?_
  exact ⟨rfl, BB⟩

theorem IsInField_impl_rest (n : Nat) (m : Int) (w : World) (hs : Sl o w lo hi v L f) (h : CyP n L f) (hm : 1 ≤ m) (hd : ¬ (n : Int) % m = 0) :
    Calls Try.prog 115 #[.agg #[.int .i64 (n : Int), v], .int .i64 m] w fun e w' => e = .returned (noV 2) ∧ Below w.heap.size w w' := by
  obtain ⟨av, cap, rfl⟩ := hs.shape
  have hn1 : 1 ≤ n := by have := h.1; omega
  have hn2 : n ≤ 16 := by have := h.2.1; omega
  have hp := phi_le12 n hn2 hn1
  have hL : L ≤ 12 := by have e : L = phiN n := h.2.2.1; omega
  have st0 := ((((St.start w).addSl ⟨o, lo, hi, .slice av L cap, L, f⟩ hs).alloc (.cells #[.int .i64 (n : Int), .slice av L cap] 26)).addBox w.heap.size [.int .i64 (n : Int), .slice av L cap] (Box.made _ _ _ _ (fun j v h => by simpa using h)))
  have q0 := st0.sl 0 ⟨o, lo, hi, .slice av L cap, L, f⟩ rfl
  dsimp only at q0
  have HC := Lib.hid h
  clear h hs
  have hb : ((n : Int) % m != 0) = true := by simpa using hd
  have hb' : ((n : Int) % m == 0) = false := by simpa using hd
  clear hd
  go_enter Try.func115, Try.ntmps115
  go_wp2_with fail
  refine (IsCyclo_yes _ _ q0 HC.out).mono ?_
  rintro e w1 ⟨rfl, b1⟩
  clear q0
  have st1 := st0.keep b1
  have hz_w1 := b1.size
  try simp only [World.size_alloc] at hz_w1
  clear st0 b1
  have BB := st1.1
  obtain ⟨c0, c1⟩ := (st1.box 0 (w.heap.size, [.int .i64 (n : Int), .slice av L cap]) rfl).cell2
  go_wp2
  refine bodyPost_ret (v := noV 2) (by simp [results, Try.results115, go_sem, noV]) rfl ?_
  exact ⟨rfl, BB⟩

set_option maxRecDepth 100000 in
set_option maxHeartbeats 2000000 in
theorem IsInField_impl_ok (n m : Nat) (w : World) (hs : Sl o w lo hi v L f) (h : CyP n L f) (hm1 : 1 ≤ m) (hd : n % m = 0) :
    Calls Try.prog 115 #[.agg #[.int .i64 (n : Int), v], .int .i64 (m : Int)] w fun e w' => e = .returned (.tuple #[.bool (fieldB n L m f), .int .i64 0]) ∧ Below w.heap.size w w' := by
  have hLp : L = phiN n := h.2.2.1
  have hLn : L ≤ n := by have := phiI_le (n : Int); unfold phiN at hLp; omega
  have hr := fun i hi => (Within.inR h.2.2.2) i hi
  have hhs := hs.size
  obtain ⟨av, cap, rfl⟩ := hs.shape
  have hn1 : 1 ≤ n := by have := h.1; omega
  have hn2 : n ≤ 16 := by have := h.2.1; omega
  have hp := phi_le12 n hn2 hn1
  have hL : L ≤ 12 := by have e : L = phiN n := h.2.2.1; omega
  have HONE := Lib.hid (img_one hLp hL hLn hr)
  have HLP := Lib.hid hLp
  clear hLp hr
  obtain ⟨k1, hk1⟩ := key_arr (cut (phiN n) (imgP n 1 L f)) img_inR
  have HK1 := Lib.hid hk1
  clear hk1
  have hmn : m ≤ n := Nat.le_of_dvd (by omega) (Nat.dvd_of_mod_eq_zero hd)
  have hdd : (n : Int) % (m : Int) = 0 := by omega
  clear hd
  have st0 := ((((St.start w).addSl ⟨o, lo, hi, .slice av L cap, L, f⟩ hs).alloc (.cells #[.int .i64 (n : Int), .slice av L cap] 26)).addBox w.heap.size [.int .i64 (n : Int), .slice av L cap] (Box.made _ _ _ _ (fun j v h => by simpa using h)))
  have q0 := st0.sl 0 ⟨o, lo, hi, .slice av L cap, L, f⟩ rfl
  dsimp only at q0
  have HC := Lib.hid h
  clear h hs
  go_enter Try.func115, Try.ntmps115
  go_wp2_with fail
  refine (IsCyclo_yes _ _ q0 HC.out).mono ?_
  rintro e w1 ⟨rfl, b1⟩
  clear q0
  have st1 := st0.keep b1
  have hz_w1 := b1.size
  try simp only [World.size_alloc] at hz_w1
  clear st0 b1
  have BB := st1.1
  obtain ⟨c0, c1⟩ := (st1.box 0 (w.heap.size, [.int .i64 (n : Int), .slice av L cap]) rfl).cell2
  have hom := World.ownsMap_made w1 Try.prog 128 (plainElem (H := Unit) Try.prog 4)
  have HOM := Lib.hid hom
  have HST := Lib.hid (st1.alloc (.map #[] 0))
  clear hom st1 BB
  have hmm := @run_makeMap Try.prog
  go_wp2
  clear hmm
  clear c0 c1
  go_loopw [7] (fun s7 wr => ∃ (a : Nat) (es : List (Lit × DataW Unit)), 1 ≤ a ∧ a ≤ n + 1 ∧ s7 = .int .i64 a ∧ wr.ownsMap Try.prog 128 (plainElem (H := Unit) Try.prog 4) w1.heap.size a (.map es) ∧
      ((a = 1 ∧ es = []) ∨ (2 ≤ a ∧ fieldTo n L m f a ∧ ∃ d, es = [(k1, d)]) ∨ (2 ≤ a ∧ ¬ fieldTo n L m f a ∧ Many es)) ∧
      St w wr [(w.heap.size, [.int .i64 (n : Int), .slice av L cap])] [⟨o, lo, hi, .slice av L cap, L, f⟩]) (fun s7 _ => n + 1 - (intOf s7).toNat)
  case atStart => exact ⟨1, [], Nat.le_refl _, by omega, rfl, (HOM.out.mono (Nat.zero_le _)), .inl ⟨rfl, rfl⟩, HST.out⟩
  case round =>
    clear HOM HST
    obtain ⟨a, es, ha1, ha2, rfl, hown, hes, hst⟩ := hrel
    have HO := Lib.hid hown; clear hown
    have HE := Lib.hid hes; clear hes
    have HT := Lib.hid hst; clear hst
    obtain ⟨c0, c1⟩ := (HT.out.box 0 (w.heap.size, [.int .i64 (n : Int), .slice av L cap]) rfl).cell2
    by_cases hlt : a ≤ n
    · by_cases hmod : a % m = 1 % m
      · have hb : ((a : Int) % (m : Int) == 1 % (m : Int)) = true := by have e : ((a % m : Nat) : Int) = ((1 % m : Nat) : Int) := by rw [hmod]
                                                                        simpa using e
        have hb2 : ((a : Int).tmod (m : Int) == Int.tmod 1 (m : Int)) = true := by rw [Int.tmod_eq_emod_of_nonneg (by omega), Int.tmod_eq_emod_of_nonneg (by omega)]; exact hb
        by_cases hg : gcdI (a : Int) n = 1
        · go_wp2_with fail
          go_region_held3 (fun w' => w'.cell? ⟨w.heap.size, 0, none⟩ = some (.int .i64 (n : Int))) (first | exact c0 | go_keep) (first | (go_at_call 143; refine (commonDivisor_any _ _ _ (by omega) (by omega) (by omega) (by omega)).mono ?_; rw [hg]; rintro e w6 ⟨rfl, ⟨k6, rfl⟩⟩))
          all_goals
            obtain ⟨ka, hka⟩ := key_arr (cut (phiN n) (imgP n a L f)) img_inR
            have HKA := Lib.hid hka
            clear hka
            have qx := (HT.out.drewN (1 + k6)).sl 0 ⟨o, lo, hi, .slice av L cap, L, f⟩ rfl
            dsimp only at qx
            go_wp2_with fail
            refine (imageParts_any n a hn1 hn2 (by omega) _ qx (Nat.le_trans hL (by decide))).mono ?_
            rintro e w7 ⟨rfl, b7⟩
            have st7 := (HT.out.drewN (1 + k6)).keep b7
            have HO7 := Lib.hid (ownsMap_keepB (ownsMap_drewN HO.out (1 + k6)) b7)
            clear qx c0 c1 b7
            go_wp2_with (at_mapUpdate; refine wpList_mapUpdate_own _ rfl _ _ _ 160 rfl 128 4 keys_keyed Try.underlying160 (plainElem (H := Unit) Try.prog 4) w1.heap.size a (.map es) rfl HO7.out (by unfold maxLen; omega) _ _ ka rfl rfl HKA.out (.lit (.bool true)) [] (plainElem_bool Try.underlying4 true) ?_; intro w8 hown8 hgr8)
            have st8 := st7.write (Frame.ofGrown hgr8) (by omega) (by intro b hb; simp only [List.mem_cons, List.not_mem_nil, or_false] at hb; rcases hb with rfl <;> dsimp only <;> omega) (by intro s hs'; simp only [List.mem_cons, List.not_mem_nil, or_false] at hs'; rcases hs' with rfl <;> dsimp only <;> omega)
            go_roundw
            case rel =>
              refine ⟨a + 1, _, by omega, by omega, by go_num, hown8, ?_, st8⟩
              have hstr := owns_str HO7.out
              have hks := keys_law.str HKA.out
              have hk1s := keys_law.str HK1.out
              have hEQ : (∀ j, j < L → imgP n a L f j = f j) ↔ ka = k1 := by
                constructor
                · intro h
                  have e : cut (phiN n) (imgP n a L f) = cut (phiN n) (imgP n 1 L f) := by
                    funext j
                    unfold cut
                    by_cases e : j < phiN n
                    · have hj : j < L := by have := HLP.out; omega
                      rw [if_pos e, if_pos e, h j hj, HONE.out j hj]
                    · rw [if_neg e, if_neg e]
                  have h1 := HKA.out
                  rw [e] at h1
                  have h2 := HK1.out
                  rw [h1] at h2
                  exact Option.some.inj h2
                · intro e j hj
                  have h1 := HKA.out
                  rw [e] at h1
                  have h2 := keys_law.inj h1 HK1.out
                  have h3 := arrV_inj h2 j (by omega)
                  unfold cut at h3
                  have hj2 : j < phiN n := by have := HLP.out; omega
                  rw [if_pos hj2, if_pos hj2, HONE.out j hj] at h3
                  exact h3
              rcases HE.out with ⟨e1, e2⟩ | ⟨e1, e2, d0, e3⟩ | ⟨e1, e2, e3⟩
              · subst e1
                subst e2
                have e4 : ka = k1 := hEQ.1 HONE.out
                subst e4
                exact .inr (.inl ⟨by omega, (fieldTo_step ha1 hmod hg).2 ⟨fieldTo_one _ _ _ _, HONE.out⟩, _, none_put⟩)
              · subst e3
                by_cases e4 : ka = k1
                · subst e4
                  exact .inr (.inl ⟨by omega, (fieldTo_step ha1 hmod hg).2 ⟨e2, hEQ.2 rfl⟩, _, one_again hks⟩)
                · exact .inr (.inr ⟨by omega, fun h => e4 (hEQ.1 ((fieldTo_step ha1 hmod hg).1 h).2), one_put hks hk1s (fun e => e4 e.symm)⟩)
              · exact .inr (.inr ⟨by omega, fun h => e2 ((fieldTo_step ha1 hmod hg).1 h).1, many_put hks hstr e3⟩)
            case measure => simp [intOf] <;> omega
        · have hgb : (gcdI (a : Int) n == 1) = false := by simpa using hg
          go_wp2_with fail
          go_region_held3 (fun w' => w'.cell? ⟨w.heap.size, 0, none⟩ = some (.int .i64 (n : Int))) (first | exact c0 | go_keep) (first | (go_at_call 143; refine (commonDivisor_any _ _ _ (by omega) (by omega) (by omega) (by omega)).mono ?_; rintro e w6 ⟨rfl, ⟨k6, rfl⟩⟩))
          all_goals
            go_wp2_with fail
            go_roundw
            case rel =>
              exact ⟨a + 1, es, by omega, by omega, by go_num, (ownsMap_drewN HO.out (1 + k6)).mono (by omega), HE.out.elim (fun ⟨e1, e2⟩ => absurd (by rw [e1]; unfold gcdI; simp) hg) (fun h => h.elim (fun ⟨e1, e2, e3⟩ => .inr (.inl ⟨by omega, (fieldTo_skip (fun h => hg h.2)).2 e2, e3⟩)) (fun ⟨e1, e2, e3⟩ => .inr (.inr ⟨by omega, fun h => e2 ((fieldTo_skip (fun h => hg h.2)).1 h), e3⟩))), HT.out.drewN (1 + k6)⟩
            case measure => simp [intOf] <;> omega
      · have hb : ((a : Int) % (m : Int) == 1 % (m : Int)) = false := by
          rw [beq_eq_false_iff_ne]
          exact fun e => hmod (by have e2 : ((a % m : Nat) : Int) = ((1 % m : Nat) : Int) := by simpa using e
                                  omega)
        go_wp2_with fail
        go_quiet (fail)
        go_wp2_with fail
        go_roundw
        case rel =>
          exact ⟨a + 1, es, by omega, by omega, by go_num, (ownsMap_drewN HO.out _).mono (by omega), HE.out.elim (fun ⟨e1, e2⟩ => absurd (by rw [e1]) hmod) (fun h => h.elim (fun ⟨e1, e2, e3⟩ => .inr (.inl ⟨by omega, (fieldTo_skip (fun h => hmod h.1)).2 e2, e3⟩)) (fun ⟨e1, e2, e3⟩ => .inr (.inr ⟨by omega, fun h => e2 ((fieldTo_skip (fun h => hmod h.1)).1 h), e3⟩))), HT.out.drewN _⟩
        case measure => simp [intOf] <;> omega
    · obtain rfl : a = n + 1 := by omega
      have hlen : ∀ ty, (Builtin.len_ #[160] ty #[.map (some w1.heap.size)]).run Try.prog wr = .ok (.int .i64 (Maps.size (DataW.map es))) wr := fun ty => HO.out.len Try.underlying160 ty
      have HB := Lib.hid (show ((Maps.size (DataW.map es) : Nat) : Int) = 1 ↔ fieldTo n L m f (n + 1) from by
        rcases HE.out with ⟨e1, e2⟩ | ⟨e1, e2, d0, e3⟩ | ⟨e1, e2, e3⟩
        · omega
        · subst e3; exact ⟨fun _ => e2, fun _ => rfl⟩
        · exact ⟨fun h => absurd (by have h2 : ((es.length : Nat) : Int) = 1 := h; omega) (many_size e3), fun h => absurd h e2⟩)
      have BB := HT.out.1
      generalize Maps.size (DataW.map es) = z at *
      by_cases hz : (z : Int) = 1
      · have hzb : ((z : Int) == 1) = true := by simpa using hz
        have HFB := Lib.hid (show fieldB n L m f = true from fieldB_true (HB.out.1 hz))
        clear hz
        go_wp2
        refine bodyPost_ret (v := .tuple #[.bool true, .int .i64 0]) (by simp [results, Try.results115, go_sem]) rfl ?_
        exact ⟨by rw [HFB.out], BB⟩
      · have hzb : ((z : Int) == 1) = false := by simpa using hz
        have HFB := Lib.hid (show fieldB n L m f = false from fieldB_false (fun h => hz (HB.out.2 h)))
        clear hz
        go_wp2
        refine bodyPost_ret (v := .tuple #[.bool false, .int .i64 0]) (by simp [results, Try.results115, go_sem]) rfl ?_
        exact ⟨by rw [HFB.out], BB⟩
end
end Go.Proofs.Ytloalhcloifgjaa
