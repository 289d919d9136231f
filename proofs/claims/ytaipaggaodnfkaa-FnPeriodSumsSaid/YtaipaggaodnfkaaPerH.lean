/- Products of sums of periods of the program. -/
import Derived.Test.YtaipaggaodnfkaaPerG
import Derived.Test.YtaipaggaodnfkaaStR
namespace Go.Proofs.Ytaipaggaodnfkaa
open Go.RowKit Go.ChangeShapes Go.Sort
set_option linter.unusedVariables false
set_option linter.unusedSimpArgs false

theorem mul_bd {x y A B : Int} (hA : -A ≤ x ∧ x ≤ A) (hB : -B ≤ y ∧ y ≤ B) (hA0 : 0 ≤ A) (hB0 : 0 ≤ B) : -(A * B) ≤ x * y ∧ x * y ≤ A * B := by
  have h1 : (x * y).natAbs ≤ (A * B).natAbs := by
    rw [Int.natAbs_mul, Int.natAbs_mul]
    exact Nat.mul_le_mul (by omega) (by omega)
  have h2 : 0 ≤ A * B := Int.mul_nonneg hA0 hB0
  omega
/-- What a product may be reckoned from: products of two numbers, and rows. -/
def PrOk (e : Nat) (R : Nat → Nat → Int) (a b : Nat → Int) : Prop :=
  (∀ i j, i < e → j < e → -20000000000000 ≤ a i * b j ∧ a i * b j ≤ 20000000000000) ∧ ∀ i j, i < e → j < e → -120 ≤ R i j ∧ R i j ≤ 120
section
variable {e : Nat} {R : Nat → Nat → Int} {a b : Nat → Int}
theorem PrOk.term (h : PrOk e R a b) {i k m : Nat} (hi : i < e) (hk : k < e) (hm : m < e) : -2400000000000000 ≤ a i * b ((i + k) % e) * R k m ∧ a i * b ((i + k) % e) * R k m ≤ 2400000000000000 :=
  mul_bd (A := 20000000000000) (B := 120) (h.1 i _ hi (Nat.mod_lt _ (by omega))) (h.2 k m hk hm) (by omega) (by omega)
theorem PrOk.bd (h : PrOk e R a b) (he : e ≤ 12) {i k m : Nat} (hi : i ≤ e) (hk : k ≤ e) (hm : m ≤ e) (hi' : i < e ∨ (k = 0 ∧ m = 0)) (hk' : k < e ∨ m = 0) (t : Nat) : -7200000000000000000 ≤ prP e R a b i k m t ∧ prP e R a b i k m t ≤ 7200000000000000000 := by
  have := prP_bd (R := R) (a := a) (b := b) (C := 2400000000000000) (by omega) he (fun i k m h1 h2 h3 => h.term h1 h2 h3) hi hk hm hi' hk' t
  omega
theorem PrOk.all (h : PrOk e R a b) (he : e ≤ 12) (t : Nat) : -7200000000000000000 ≤ prT e R a b t ∧ prT e R a b t ≤ 7200000000000000000 := by
  have := h.bd he (Nat.le_refl e) (Nat.zero_le _) (Nat.zero_le _) (.inr ⟨rfl, rfl⟩) (.inr rfl) t
  rwa [prP_all] at this
end

section
variable {o o' oR : Bool} {lo hi lo' hi' loR hiR : Nat} {v v' V : Value} {f g : Nat → Int} {R : Nat → Nat → Int}
set_option maxRecDepth 100000 in
set_option maxHeartbeats 8000000 in
theorem periodProduct_any (e : Nat) (h1 : 1 ≤ e) (h2 : e ≤ 12) (w : World) (hr : Rw oR w loR hiR V e (fun _ => e) R) (ha : Sl o w lo hi v e f) (hb : Sl o' w lo' hi' v' e g) (hok : PrOk e R f g) :
    Calls Try.prog 75 #[V, v, v'] w fun r w' => ∃ G, r = .returned (.slice (some ⟨G, 0, none⟩) e e) ∧ Sl true w' w.heap.size w'.heap.size (.slice (some ⟨G, 0, none⟩) e e) e (prT e R f g) ∧ Below w.heap.size w w' := by
  obtain ⟨g1, off1, cap, rfl, _⟩ := ha.at h1
  obtain ⟨g2, off2, cap', rfl, _⟩ := hb.at h1
  obtain ⟨gR, offR, capR, uR, rfl, hru0⟩ := hr.at h1
  have HOK := Lib.hid hok
  have sa := ha.size; have sb := hb.size; have sr := hr.size
  have st0 := ((St.start w).addSl ⟨o', lo', hi', .slice (some ⟨g2, off2, none⟩) e cap', e, g⟩ hb).addSl ⟨o, lo, hi, .slice (some ⟨g1, off1, none⟩) e cap, e, f⟩ ha
  have he0 : ¬ e = 0 := by omega
  have hmk := run_make_row' (P := Try.prog) 33 2 (.int .i64 0) 8 Try.underlying33 Try.info2 rfl .i64 .i64 e (by omega) (by omega)
  have q0 := Sl.made w (madeCells #[.int .i64 0] e) 2 e e (fun _ => 0) (Nat.le_refl _) (by unfold maxLen; omega) (fun j hj => by simp [inR]) (fun j hj => by simp [madeCells_at _ _ _ hj])
  have Q0 := Lib.hid (q0.congr (f' := prP e R f g 0 0 0) (fun j hj => rfl))
  have ST := Lib.hid (st0.alloc (.cells (madeCells #[.int .i64 0] e) 2))
  have RU := Lib.hid (hru0.alloc (.cells (madeCells #[.int .i64 0] e) 2))
  clear hok ha hb hr st0 q0 hru0
  go_enter Try.func75, Try.ntmps75
  go_wp2
  clear hmk
  go_loopw [22] (fun s22 wr => ∃ i : Nat, i ≤ e ∧ s22 = .int .i64 (i : Int) ∧ Sl true wr w.heap.size (w.heap.size + 1) (.slice (some ⟨w.heap.size, 0, none⟩) e e) e (prP e R f g i 0 0) ∧ RwU oR wr loR hiR gR offR capR e uR (fun _ => e) R ∧ St w wr [] [⟨o, lo, hi, .slice (some ⟨g1, off1, none⟩) e cap, e, f⟩, ⟨o', lo', hi', .slice (some ⟨g2, off2, none⟩) e cap', e, g⟩]) (fun s22 _ => e - (intOf s22).toNat)
  case atStart => exact ⟨0, Nat.zero_le _, rfl, Q0.out, RU.out, ST.out⟩
  case round =>
    clear Q0 ST RU
    obtain ⟨i, hie, rfl, hq, hru, hst⟩ := hrel
    have HQ := Lib.hid hq
    have HR := Lib.hid hru
    have HT := Lib.hid hst
    clear hq hst hru
    by_cases hlt : i < e
    · have hci := ((HT.out.sl 0 ⟨o, lo, hi, .slice (some ⟨g1, off1, none⟩) e cap, e, f⟩ rfl).known (by show 0 < e; omega)).2.2.2.1 i hlt
      dsimp only at hci
      go_wp2
      go_loopw [29] (fun s29 wq => ∃ k : Nat, k ≤ e ∧ s29 = .int .i64 (k : Int) ∧ Sl true wq w.heap.size (w.heap.size + 1) (.slice (some ⟨w.heap.size, 0, none⟩) e e) e (prP e R f g i k 0) ∧ RwU oR wq loR hiR gR offR capR e uR (fun _ => e) R ∧ St w wq [] [⟨o, lo, hi, .slice (some ⟨g1, off1, none⟩) e cap, e, f⟩, ⟨o', lo', hi', .slice (some ⟨g2, off2, none⟩) e cap', e, g⟩]) (fun s29 _ => e - (intOf s29).toNat)
      case atStart => exact ⟨0, Nat.zero_le _, rfl, HQ.out, HR.out, HT.out⟩
      case round =>
        clear HQ HT HR hci
        obtain ⟨k, hk', rfl, hq, hru, hst⟩ := hrel
        have HQ := Lib.hid hq
        have HR := Lib.hid hru
        have HT := Lib.hid hst
        clear hq hst hru
        by_cases hltk : k < e
        · obtain ⟨s, hs⟩ : ∃ s, (i + k) % e = s := ⟨_, rfl⟩
          have hse : s < e := by rw [← hs]; exact Nat.mod_lt _ (by omega)
          have hidx : ((i : Int) + (k : Int)) % (e : Int) = (s : Int) := by rw [← Int.natCast_add, ← Int.natCast_emod, hs]
          have hcs := ((HT.out.sl 1 ⟨o', lo', hi', .slice (some ⟨g2, off2, none⟩) e cap', e, g⟩ rfl).known (by show 0 < e; omega)).2.2.2.1 s hse
          have chd := HR.out.head hltk
          obtain ⟨gr, offr, cr, hur, _⟩ := (HR.out.row hltk).at h1
          rw [hur] at chd
          have HUR := Lib.hid hur
          have hfg := HOK.out.1 i s hlt hse
          obtain ⟨X, hX⟩ : ∃ X, IntKind.i64.wrap (f i * g s) = X := ⟨_, rfl⟩
          have HX := Lib.hid (show X = f i * g ((i + k) % e) by rw [hs, ← hX]; exact IntWalk.i64_in _ (by omega))
          dsimp only at hcs
          clear hs hur hfg
          go_wp2
          clear hX hidx hcs chd
          go_loopw [46] (fun s46 wy => ∃ m : Nat, m ≤ e ∧ s46 = .int .i64 (m : Int) ∧ Sl true wy w.heap.size (w.heap.size + 1) (.slice (some ⟨w.heap.size, 0, none⟩) e e) e (prP e R f g i k m) ∧ RwU oR wy loR hiR gR offR capR e uR (fun _ => e) R ∧ St w wy [] [⟨o, lo, hi, .slice (some ⟨g1, off1, none⟩) e cap, e, f⟩, ⟨o', lo', hi', .slice (some ⟨g2, off2, none⟩) e cap', e, g⟩]) (fun s46 _ => e - (intOf s46).toNat)
          case atStart => exact ⟨0, Nat.zero_le _, rfl, HQ.out, HR.out, HT.out⟩
          case round =>
            clear HQ HT HR
            obtain ⟨m, hm', rfl, hq, hru, hst⟩ := hrel
            have HQ := Lib.hid hq
            have HR := Lib.hid hru
            have HT := Lib.hid hst
            clear hq hst hru
            by_cases hltm : m < e
            · obtain ⟨t, ht⟩ : ∃ t, (i + m) % e = t := ⟨_, rfl⟩
              have hte : t < e := by rw [← ht]; exact Nat.mod_lt _ (by omega)
              have hidt : ((i : Int) + (m : Int)) % (e : Int) = (t : Int) := by rw [← Int.natCast_add, ← Int.natCast_emod, ht]
              have hrw := HR.out.row hltk
              rw [HUR.out] at hrw
              have hcm := (hrw.known (by omega)).2.2.2.1 m hltm
              have hct := (HQ.out.known (by omega)).2.2.2.1 t hte
              rw [Nat.zero_add] at hct
              have hft := (HQ.out.known (by omega)).2.2.2.2 rfl t
              have htm := HOK.out.term hlt hltk hltm
              rw [← HX.out] at htm
              have hbt := HOK.out.bd h2 hie hk' hm' (.inl hlt) (.inl hltk) t
              have HST := Lib.hid (fun y => (prP_step (e := e) (R := R) (a := f) (b := g) i k m y).trans (by rw [ht, ← HX.out]))
              obtain ⟨Y, hY⟩ : ∃ Y, X * R k m = Y := ⟨_, rfl⟩
              rw [hY] at htm
              have hwY : IntKind.i64.wrap (X * R k m) = Y := by rw [hY]; exact IntWalk.i64_in _ (by omega)
              have HSY := Lib.hid (fun y => (show prP e R f g i k (m + 1) y = if y = t then prP e R f g i k m t + Y else prP e R f g i k m y from by
                rw [HST.out y, ← hY]
                by_cases hyt : y = t
                · rw [if_pos hyt, if_pos hyt, hyt]
                · rw [if_neg hyt, if_neg hyt]))
              generalize hP : prP e R f g i k m t = P at *
              clear hrw ht HST hY
              go_wp2
              go_roundw
              case rel => exact ⟨m + 1, by omega, by go_num, (HQ.out.store0 hte (x := P + Y) (by unfold inR; omega)).congr (fun y _ => HSY.out y), HR.out.keepF ((Frame.refl _ _ _).setCell (p := ⟨w.heap.size, t, none⟩) (Nat.le_refl _) (Nat.lt_succ_self _) _) (.inl sr), HT.out.write ((Frame.refl _ _ _).setCell (p := ⟨w.heap.size, t, none⟩) (Nat.le_refl _) (Nat.lt_succ_self _) _) (Nat.le_refl _) (by intro b hb; cases hb) (by intro s hs'; simp only [List.mem_cons, List.not_mem_nil, or_false] at hs'; rcases hs' with rfl | rfl <;> left <;> assumption)⟩
              case measure => simp [intOf]; omega
            · obtain rfl : m = e := by omega
              go_wp2
              go_roundw
              case rel => exact ⟨k + 1, by omega, by go_num, HQ.out.congr (fun y _ => (prP_row i k y).symm), HR.out, HT.out⟩
              case measure => simp [intOf]; omega
        · obtain rfl : k = e := by omega
          go_wp2
          go_roundw
          case rel => exact ⟨i + 1, by omega, by go_num, HQ.out.congr (fun y _ => (prP_blk i y).symm), HR.out, HT.out⟩
          case measure => simp [intOf]; omega
    · obtain rfl : i = e := by omega
      have hqs := HQ.out.size
      have BB := HT.out.1
      go_wp2
      go_ret
      exact ⟨_, rfl, (HQ.out.congr (fun y _ => (prP_all y).symm)).wide (Nat.le_refl _) hqs (Nat.le_refl _), BB⟩
end
end Go.Proofs.Ytaipaggaodnfkaa
