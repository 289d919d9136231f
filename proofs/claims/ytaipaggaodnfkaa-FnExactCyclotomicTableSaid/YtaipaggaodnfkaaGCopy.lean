/- The laws' functions on rows and Gauss numbers: sizes, copies, comparisons, marks. -/
import Derived.Test.YtaipaggaodnfkaaStR
import Derived.Test.YtaipaggaodnfkaaCopy
import Derived.Deep.RegionHeld3
namespace Go.Proofs.Ytaipaggaodnfkaa
open Go.RowKit Go.ChangeShapes Go.Sort Go.WideShapes
set_option linter.unusedVariables false
set_option linter.unusedSimpArgs false

section
variable {o : Bool} {lo hi : Nat} {v V : Value} {n m : Nat} {f : Nat → Int} {ln : Nat → Nat} {F : Nat → Nat → Int}

theorem RwU.made (w : World) (m : Nat) (hm : m ≤ maxLen) (ln : Nat → Nat) (F : Nat → Nat → Int) (hl : ∀ i, i < m → ln i = 0) :
    RwU true (w.alloc (.cells (madeCells #[.slice none 0 0] m) 33)) w.heap.size (w.heap.size + 1) w.heap.size 0 m m (fun _ => .slice none 0 0) ln F := by
  have hh : (w.alloc (.cells (madeCells #[.slice none 0 0] m) 33)).heap[w.heap.size]? = some (.cells (madeCells #[.slice none 0 0] m) 33) := heap_alloc_new w _
  refine ⟨by simp, Nat.le_refl _, hm, Nat.le_refl _, Nat.lt_succ_self _, fun i hi => ⟨?_, ?_⟩, fun _ => ⟨fun k => ?_, fun i hi a n c e => (by cases e), fun i j _ _ _ a b n m c d e => (by cases e)⟩⟩
  · rw [cell_of_row _ _ _ _ _ _ hh, Nat.zero_add]; simp [madeCells_at _ _ _ hi]
  · rw [hl i hi]; exact Sl.nil _ _ _ (by simp) _
  · unfold World.frozen?; rw [hh]; simp

set_option maxRecDepth 100000 in
set_option maxHeartbeats 1000000 in
theorem eqInt64SS_yes {o' : Bool} {lo' hi' : Nat} {V' : Value} {ln' : Nat → Nat} {F' : Nat → Nat → Int} (w : World) (hs : Rw o w lo hi V m ln F) (hs' : Rw o' w lo' hi' V' m ln' F') (hl : ∀ i, i < m → ln i = ln' i) (he : ∀ i j, i < m → j < ln i → F i j = F' i j) :
    Calls Try.prog 55 #[V, V'] w fun e w' => e = .returned (.bool true) ∧ Below w.heap.size w w' := by
  obtain ⟨a, cap, rfl⟩ := hs.shape
  obtain ⟨a', cap', rfl⟩ := hs'.shape
  have hm := hs.len
  unfold maxLen at hm
  have HS := Lib.hid hs; clear hs
  have HS' := Lib.hid hs'; clear hs'
  have HE := Lib.hid he; clear he
  have HL := Lib.hid hl; clear hl
  go_enter Try.func55, Try.ntmps55
  go_wp2
  go_loopw [5] (fun i wr => ∃ k : Nat, k ≤ m ∧ i = .int .i64 k ∧ Below w.heap.size w wr) (fun i _ => m - (intOf i).toNat)
  case atStart => exact ⟨0, Nat.zero_le _, rfl, Below.refl _ _⟩
  case round =>
    obtain ⟨k, hk, rfl, hb⟩ := hrel
    by_cases hlt : k < m
    · obtain ⟨g, off, c1, u, hv, hr⟩ := HS.out.at (by omega)
      obtain ⟨rfl, rfl⟩ : a = some ⟨g, off, none⟩ ∧ cap = c1 := by cases hv; exact ⟨rfl, rfl⟩
      obtain ⟨g', off', c1', u', hv', hr'⟩ := HS'.out.at (by omega)
      obtain ⟨rfl, rfl⟩ : a' = some ⟨g', off', none⟩ ∧ cap' = c1' := by cases hv'; exact ⟨rfl, rfl⟩
      have hg := hr.blk
      have hg' := hr'.blk
      have z1 := hr.size
      have z2 := hr'.size
      have hck : wr.cell? ⟨g, off + k, none⟩ = some (u k) := by rw [hb.cell (p := ⟨g, off + k, none⟩) (by show g < _; omega)]; exact hr.head hlt
      have hck' : wr.cell? ⟨g', off' + k, none⟩ = some (u' k) := by rw [hb.cell (p := ⟨g', off' + k, none⟩) (by show g' < _; omega)]; exact hr'.head hlt
      have R1 := Lib.hid ((hr.row hlt).keep hb z1)
      have R2 := Lib.hid ((hr'.row hlt).keep hb z2)
      have HX := Lib.hid (HL.out k hlt)
      clear hv hv' hr hr' hg hg' z1 z2
      go_wp2
      go_region_held3 (fun w' => w'.cell? ⟨g, off + k, none⟩ = some (u k) ∧ w'.cell? ⟨g', off' + k, none⟩ = some (u' k))
        (first | exact ⟨hck, hck'⟩ | exact ⟨cell_later b1 hck, cell_later b1 hck'⟩)
        (first
          | (go_at_call 52; refine (eqInt64S_yes _ R1.out.drew ((HX.out ▸ R2.out : Sl o' wr lo' hi' (u' k) (ln k) (F' k)).drew) (fun j hj => HE.out k j hlt hj)).mono ?_; rintro e w1 ⟨rfl, b1⟩))
      all_goals
        have HB := hb.drew.trans (b1.mono (by simpa using hb.size))
        go_wp2
        go_roundw
        case rel => exact ⟨k + 1, by omega, by go_num, by first | exact HB | exact below_drewN HB _⟩
        case measure => simp [intOf]; omega
    · go_wp2
      go_ret
      exact ⟨rfl, hb⟩

theorem markInt64S_only (k : Int) (w : World) (hs : Sl true w lo hi v n f) (hk : 0 ≤ k) (hk' : k ≤ 4611686018427387904) (hn : n ≤ 1048576) :
    Calls Try.prog 53 #[v, .int .i64 k] w fun e w' => e = .returned (.int .i64 (k + n)) ∧ Sl true w' lo hi v n (fun j => k + j) ∧ Frame lo hi w w' ∧ Only v w w' := by
  obtain ⟨a, cap, rfl⟩ := hs.shape
  have HS := Lib.hid hs; clear hs
  go_enter Try.func53, Try.ntmps53
  go_wp2
  go_loopw [1, 5] (fun q i wr => ∃ m : Nat, m ≤ n ∧ i = .int .i64 m ∧ q = .int .i64 (k + m) ∧ Sl true wr lo hi (.slice a n cap) n (fun j => if j < m then k + j else f j) ∧ Frame lo hi w wr ∧ Only (.slice a n cap) w wr) (fun _ i _ => n - (intOf i).toNat)
  case atStart => exact ⟨0, Nat.zero_le _, rfl, by go_num, HS.out.congr (fun j hj => by simp), Frame.refl _ _ _, Only.refl _ _⟩
  case round =>
    obtain ⟨m, hm, rfl, rfl, hown, hfr, hon⟩ := hrel
    have HO := Lib.hid hown; clear hown
    have HY := Lib.hid hon; clear hon
    by_cases hlt : m < n
    · obtain ⟨g, off, c1, hv, _⟩ := HO.out.at (by omega)
      obtain ⟨rfl, rfl⟩ : a = some ⟨g, off, none⟩ ∧ cap = c1 := by cases hv; exact ⟨rfl, rfl⟩
      clear hv
      obtain ⟨hg1, hg2, _, hc, hz⟩ := HO.out.known (by omega)
      have hck := hc m hlt
      have hfz := hz rfl (off + m)
      clear hc hz
      go_wp2
      go_roundw
      case rel =>
        refine ⟨m + 1, by omega, by go_num, by go_num, ?_, hfr.setCell hg1 hg2 _, HY.out.setCell hlt⟩
        refine (HO.out.store hlt (by unfold inR; omega)).congr (fun j hj => ?_)
        by_cases e : j = m
        · subst e; simp
        · have : (j < m + 1) = (j < m) := by simp; omega
          simp [e, this]
      case measure => simp [intOf]; omega
    · have e : m = n := by omega
      subst e
      go_wp2
      go_ret
      exact ⟨rfl, HO.out.congr (fun j hj => by simp [hj]), hfr, HY.out⟩

set_option maxRecDepth 100000 in
theorem markInt64SS_any (k : Int) (w : World) (hs : Rw true w lo hi V m ln F) (hk : 0 ≤ k) (hk' : k ≤ 4611686018000000000) (hn : m + pre ln m ≤ 1048576) :
    Calls Try.prog 56 #[V, .int .i64 k] w fun e w' => e = .returned (.int .i64 (k + (pre ln m : Int))) ∧ Rw true w' lo hi V m ln (fun i j => k + (pre ln i : Int) + (j : Int)) ∧ Frame lo hi w w' := by
  obtain ⟨a, cap, rfl⟩ := hs.shape
  have HS := Lib.hid hs; clear hs
  have hmn : m ≤ 1048576 := by omega
  have hpn : (pre ln m : Int) ≤ 1048576 := by omega
  clear hn
  go_enter Try.func56, Try.ntmps56
  go_wp2
  go_loopw [1, 5] (fun q i wr => ∃ t : Nat, t ≤ m ∧ i = .int .i64 t ∧ q = .int .i64 (k + (pre ln t : Int)) ∧ Rw true wr lo hi (.slice a m cap) m ln (fun i j => if i < t then k + (pre ln i : Int) + (j : Int) else F i j) ∧ Frame lo hi w wr) (fun _ i _ => m - (intOf i).toNat)
  case atStart => exact ⟨0, Nat.zero_le _, rfl, by simp [pre], HS.out.congr (fun _ _ => rfl) (fun i j _ _ => by simp), Frame.refl _ _ _⟩
  case round =>
    obtain ⟨t, ht, rfl, rfl, hown, hfr⟩ := hrel
    have HO := Lib.hid hown; clear hown
    by_cases hlt : t < m
    · obtain ⟨g, off, c1, u, hv, hr⟩ := HO.out.at (by omega)
      obtain ⟨rfl, rfl⟩ : a = some ⟨g, off, none⟩ ∧ cap = c1 := by cases hv; exact ⟨rfl, rfl⟩
      have hck := hr.head hlt
      have hp1 := pre_one ln hlt
      have hp2 : pre ln (t + 1) = pre ln t + ln t := rfl
      have HR := Lib.hid hr; clear hr hv
      go_wp2_with fail
      refine (markInt64S_only _ _ (HR.out.row hlt) (by omega) (by omega) (by omega)).mono ?_
      rintro e w1 ⟨rfl, s1, f1, o1⟩
      have HP := Lib.hid (HR.out.putOnly hlt o1 s1)
      have HF := Lib.hid (hfr.trans f1)
      clear s1 f1 o1 hck
      go_wp2
      go_roundw
      case rel =>
        refine ⟨t + 1, by omega, by go_num, by rw [hp2]; congr 1; omega, ?_, HF.out⟩
        refine HP.out.rw.congr (fun _ _ => rfl) (fun y j hy hj => ?_)
        by_cases e : y = t
        · subst e; rw [if_pos (by omega), if_pos rfl]
        · rw [if_neg e]
          by_cases e2 : y < t
          · rw [if_pos e2, if_pos (by omega)]
          · rw [if_neg e2, if_neg (by omega)]
      case measure => simp [intOf]; omega
    · have e : t = m := by omega
      subst e
      go_wp2
      go_ret
      exact ⟨rfl, HO.out.congr (fun _ _ => rfl) (fun y j hy hj => by rw [if_pos hy]), hfr⟩

set_option maxRecDepth 100000 in
theorem heldInt64SS_any (k : Int) (w : World) (hs : Rw o w lo hi V m ln (fun i j => k + (pre ln i : Int) + (j : Int))) (hk : 0 ≤ k) (hk' : k ≤ 4611686018000000000) (hn : m + pre ln m ≤ 1048576) :
    Calls Try.prog 57 #[V, .int .i64 k] w fun e w' => e = .returned (.int .i64 (k + (pre ln m : Int))) ∧ Below w.heap.size w w' := by
  obtain ⟨a, cap, rfl⟩ := hs.shape
  have HS := Lib.hid hs; clear hs
  have hmn : m ≤ 1048576 := by omega
  have hpn : (pre ln m : Int) ≤ 1048576 := by omega
  clear hn
  go_enter Try.func57, Try.ntmps57
  go_wp2
  go_loopw [1, 5] (fun q i wr => ∃ t : Nat, t ≤ m ∧ i = .int .i64 t ∧ q = .int .i64 (k + (pre ln t : Int)) ∧ Below w.heap.size w wr) (fun _ i _ => m - (intOf i).toNat)
  case atStart => exact ⟨0, Nat.zero_le _, rfl, by simp [pre], Below.refl _ _⟩
  case round =>
    obtain ⟨t, ht, rfl, rfl, hb⟩ := hrel
    by_cases hlt : t < m
    · obtain ⟨g, off, c1, u, hv, hr0⟩ := HS.out.at (by omega)
      obtain ⟨rfl, rfl⟩ : a = some ⟨g, off, none⟩ ∧ cap = c1 := by cases hv; exact ⟨rfl, rfl⟩
      have hr := hr0.keep hb hr0.size
      have hck := hr.head hlt
      have hrow := Lib.hid (hr.row hlt)
      have hp1 := pre_one ln hlt
      have hp2 : pre ln (t + 1) = pre ln t + ln t := rfl
      clear hr hr0 hv
      go_wp2_with fail
      refine (heldInt64S_any (k + (pre ln t : Int)) _ hrow.out (by omega) (by omega) (by omega)).mono ?_
      rintro e w1 ⟨rfl, b1⟩
      have HB := Lib.hid (hb.trans (b1.mono hb.size))
      have hge : ¬ (k + (pre ln t : Int) + (ln t : Int) < 0) := by omega
      clear b1 hck
      go_wp2
      go_roundw
      case rel => exact ⟨t + 1, by omega, by go_num, by rw [hp2]; congr 1; omega, HB.out⟩
      case measure => simp [intOf]; omega
    · have e : t = m := by omega
      subst e
      go_wp2
      go_ret
      exact ⟨rfl, hb⟩

end
end Go.Proofs.Ytaipaggaodnfkaa
