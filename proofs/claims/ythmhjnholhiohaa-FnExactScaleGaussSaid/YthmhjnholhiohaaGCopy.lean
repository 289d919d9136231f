/- The laws' functions on rows and Gauss numbers: sizes, copies, comparisons, marks. -/
import Derived.Test.YthmhjnholhiohaaStR
import Derived.Test.YthmhjnholhiohaaCopy
import Derived.Deep.RegionHeld3
namespace Go.Proofs.Ythmhjnholhiohaa
open Go.RowKit Go.ChangeShapes Go.Sort Go.WideShapes
set_option linter.unusedVariables false
set_option linter.unusedSimpArgs false

section
variable {o : Bool} {lo hi : Nat} {v V : Value} {n m : Nat} {f : Nat → Int} {ln : Nat → Nat} {F : Nat → Nat → Int}

theorem RwU.made (w : World) (m : Nat) (hm : m ≤ maxLen) (ln : Nat → Nat) (F : Nat → Nat → Int) (hl : ∀ i, i < m → ln i = 0) :
    RwU true (w.alloc (.cells (madeCells #[.slice none 0 0] m) 31)) w.heap.size (w.heap.size + 1) w.heap.size 0 m m (fun _ => .slice none 0 0) ln F := by
  have hh : (w.alloc (.cells (madeCells #[.slice none 0 0] m) 31)).heap[w.heap.size]? = some (.cells (madeCells #[.slice none 0 0] m) 31) := heap_alloc_new w _
  refine ⟨by simp, Nat.le_refl _, hm, Nat.le_refl _, Nat.lt_succ_self _, fun i hi => ⟨?_, ?_⟩, fun _ => ⟨fun k => ?_, fun i hi a n c e => (by cases e), fun i j _ _ _ a b n m c d e => (by cases e)⟩⟩
  · rw [cell_of_row _ _ _ _ _ _ hh, Nat.zero_add]; simp [madeCells_at _ _ _ hi]
  · rw [hl i hi]; exact Sl.nil _ _ _ (by simp) _
  · unfold World.frozen?; rw [hh]; simp

set_option maxRecDepth 100000 in
set_option maxHeartbeats 1000000 in
theorem toInt64SS_any (w : World) (hs : Rw o w lo hi V m ln F) (hn : m + pre ln m ≤ 1048576) :
    Calls Try.prog 65 #[V] w fun e w' => ∃ a' cap', e = .returned (.slice a' m cap') ∧ Rw true w' w.heap.size w'.heap.size (.slice a' m cap') m ln F ∧ Below w.heap.size w w' := by
  obtain ⟨a, cap, rfl⟩ := hs.shape
  have hmn : m ≤ 1048576 := by omega
  have HS := Lib.hid hs; clear hs
  have HN := Lib.hid hn; clear hn
  have hmk := run_make_row' (P := Try.prog) 22 31 (.slice none 0 0) 24 Try.underlying22 Try.info_rows31 rfl .i64 .i64 m (by omega) (by omega)
  go_enter Try.func65, Try.ntmps65
  go_wp2
  clear hmk
  go_loopw [4] (fun i wr => ∃ (k : Nat) (U : Nat → Value), k ≤ m ∧ i = .int .i64 k ∧ RwU true wr w.heap.size wr.heap.size w.heap.size 0 m m U (fun y => if y < k then ln y else 0) F ∧ Below w.heap.size w wr) (fun i _ => m - (intOf i).toNat)
  case atStart =>
    refine ⟨0, fun _ => .slice none 0 0, Nat.zero_le _, rfl, ?_, (Below.refl _ _).alloc (Nat.le_refl _) _⟩
    exact (RwU.made w m (by unfold maxLen; omega) _ F (fun i hi => by simp)).wide (Nat.le_refl _) (by simp) (Nat.le_refl _)
  case round =>
    obtain ⟨k, U, hk, rfl, hown, hb⟩ := hrel
    have HO := Lib.hid hown; clear hown
    by_cases hlt : k < m
    · obtain ⟨g, off, c1, u, hv, hr⟩ := HS.out.at (by omega)
      have hg := hr.blk
      have hsz := hr.size
      obtain ⟨rfl, rfl⟩ : a = some ⟨g, off, none⟩ ∧ cap = c1 := by cases hv; exact ⟨rfl, rfl⟩
      have hck : wr.cell? ⟨g, off + k, none⟩ = some (u k) := by rw [hb.cell (p := ⟨g, off + k, none⟩) (by show g < _; omega)]; exact hr.head hlt
      have hrow := (hr.row hlt).keep hb hsz
      have hlk : ln k ≤ 1048576 := by have := pre_one ln hlt; have := HN.out; omega
      clear hv hg hr
      go_wp2_with fail
      refine (toInt64S_any _ hrow hlk).mono ?_
      rintro e w1 ⟨a1, k1, rfl, s1, b1⟩
      have hz1 := b1.size
      have HO1 := HO.out.keep b1 (Nat.le_refl _)
      have hck2 := HO1.head hlt
      have hfr := HO1.frozen k
      rw [Nat.zero_add] at hck2
      have HP := Lib.hid (HO1.putRow s1 hz1 hlt)
      have HB := Lib.hid (hb.trans (b1.mono hb.size))
      clear hrow hck s1 b1 HO1
      go_wp2
      go_roundw
      case rel =>
        refine ⟨k + 1, fun y => if y = k then .slice a1 (ln k) k1 else U y, by omega, by go_num, ?_, HB.out.setCell (Nat.le_refl _) _⟩
        have h := HP.out
        rw [Nat.zero_add] at h
        refine (h.wide (Nat.le_refl _) (by simp) (Nat.le_refl _)).congr (fun y hy => ?_) (fun y j hy hj => ?_)
        · by_cases e : y = k
          · rw [if_pos e, if_pos (by omega), e]
          · rw [if_neg e]
            by_cases e2 : y < k
            · rw [if_pos e2, if_pos (by omega)]
            · rw [if_neg e2, if_neg (by omega)]
        · by_cases e : y = k
          · rw [if_pos e, e]
          · rw [if_neg e]
      case measure => simp [intOf]; omega
    · have e : k = m := by omega
      subst e
      go_wp2
      go_ret
      refine ⟨_, _, rfl, ?_, hb⟩
      exact (HO.out.congr (fun y hy => by simp [hy]) (fun y j hy hj => rfl)).rw

set_option maxRecDepth 100000 in
theorem szInt64SS_yes (left : Int) (w : World) (hs : Rw o w lo hi V m ln F) (hl : left ≤ 1048576) (hn : ((m + pre ln m : Nat) : Int) ≤ left) :
    Calls Try.prog 63 #[V, .int .i64 left] w fun e w' => e = .returned (.int .i64 (left - ((m + pre ln m : Nat) : Int))) ∧ w = w' := by
  obtain ⟨a, cap, rfl⟩ := hs.shape
  have HS := Lib.hid hs; clear hs
  have hn1 : (m : Int) + (pre ln m : Int) ≤ left := by omega
  have HN := Lib.hid hn; clear hn
  have h0 : (m : Int) ≤ left := by omega
  go_enter Try.func63, Try.ntmps63
  go_wp2
  go_loop [1, 5] (fun q i => ∃ k : Nat, k ≤ m ∧ i = .int .i64 k ∧ q = .int .i64 (left - (m : Int) - (pre ln k : Int))) (fun _ i => m - (intOf i).toNat)
  case atStart => exact ⟨0, Nat.zero_le _, rfl, by simp [pre]⟩
  case round =>
    obtain ⟨k, hk, rfl, rfl⟩ := hrel
    by_cases hlt : k < m
    · obtain ⟨g, off, c1, u, hv, hr⟩ := HS.out.at (by omega)
      obtain ⟨rfl, rfl⟩ : a = some ⟨g, off, none⟩ ∧ cap = c1 := by cases hv; exact ⟨rfl, rfl⟩
      have hck := hr.head hlt
      obtain ⟨a1, k1, hu⟩ := (hr.row hlt).shape
      rw [hu] at hck
      have hp1 := pre_one ln hlt
      have hp2 : pre ln (k + 1) = pre ln k + ln k := rfl
      clear hv hr hu
      go_wp2_with fail
      refine (szInt64S_yes _ _ _ _ (by omega) (by omega)).mono ?_
      rintro e w1 ⟨rfl, rfl⟩
      have hge : ¬ (left - (m : Int) - (pre ln k : Int) - (ln k : Int) < 0) := by omega
      go_wp2
      go_round
      case rel => exact ⟨k + 1, by omega, by go_num, by rw [hp2]; congr 1; omega⟩
      case measure => simp [intOf]; omega
    · have e : k = m := by omega
      subst e
      go_wp2
      go_ret
      refine ⟨?_, rfl⟩
      show Ending.returned (Value.int .i64 (left - (k : Int) - (pre ln k : Int))) = _
      congr 2
      omega

set_option maxRecDepth 100000 in
theorem szInt64SS_no (left : Int) (w : World) (hs : Rw o w lo hi V m ln F) (h0 : 0 ≤ left) (hl : left ≤ 1048576) (hn : left < ((m + pre ln m : Nat) : Int)) :
    Calls Try.prog 63 #[V, .int .i64 left] w fun e w' => e = .returned (.int .i64 (-1)) ∧ w = w' := by
  obtain ⟨a, cap, rfl⟩ := hs.shape
  have hml := hs.len
  unfold maxLen at hml
  have HS := Lib.hid hs; clear hs
  have hn1 : left < (m : Int) + (pre ln m : Int) := by omega
  clear hn
  go_enter Try.func63, Try.ntmps63
  by_cases hm : left < (m : Int)
  · go_wp2
    go_ret
    exact ⟨rfl, rfl⟩
  · go_wp2
    go_loop [1, 5] (fun q i => ∃ k : Nat, k ≤ m ∧ i = .int .i64 k ∧ q = .int .i64 (left - (m : Int) - (pre ln k : Int)) ∧ (m : Int) + (pre ln k : Int) ≤ left) (fun _ i => m - (intOf i).toNat)
    case atStart => exact ⟨0, Nat.zero_le _, rfl, by simp [pre], by simp [pre]; omega⟩
    case round =>
      obtain ⟨k, hk, rfl, rfl, hle⟩ := hrel
      by_cases hlt : k < m
      · obtain ⟨g, off, c1, u, hv, hr⟩ := HS.out.at (by omega)
        obtain ⟨rfl, rfl⟩ : a = some ⟨g, off, none⟩ ∧ cap = c1 := by cases hv; exact ⟨rfl, rfl⟩
        have hck := hr.head hlt
        obtain ⟨a1, k1, hu⟩ := (hr.row hlt).shape
        have hrl := (hr.row hlt).len
        rw [hu] at hck
        have hp2 : pre ln (k + 1) = pre ln k + ln k := rfl
        clear hv hr hu
        by_cases hfit : (m : Int) + (pre ln k : Int) + (ln k : Int) ≤ left
        · go_wp2_with fail
          refine (szInt64S_yes _ _ _ _ (by omega) (by omega)).mono ?_
          rintro e w1 ⟨rfl, rfl⟩
          have hge : ¬ (left - (m : Int) - (pre ln k : Int) - (ln k : Int) < 0) := by omega
          go_wp2
          go_round
          case rel => exact ⟨k + 1, by omega, by go_num, by rw [hp2]; congr 1; omega, by rw [hp2]; omega⟩
          case measure => simp [intOf]; omega
        · go_wp2_with fail
          refine (szInt64S_no _ _ _ _ hrl (by omega) (by omega) (by omega)).mono ?_
          rintro e w1 ⟨rfl, rfl⟩
          go_wp2
          go_ret
          exact ⟨rfl, rfl⟩
      · have e : k = m := by omega
        subst e
        omega

set_option maxRecDepth 100000 in
set_option maxHeartbeats 1000000 in
theorem eqInt64SS_yes {o' : Bool} {lo' hi' : Nat} {V' : Value} {ln' : Nat → Nat} {F' : Nat → Nat → Int} (w : World) (hs : Rw o w lo hi V m ln F) (hs' : Rw o' w lo' hi' V' m ln' F') (hl : ∀ i, i < m → ln i = ln' i) (he : ∀ i j, i < m → j < ln i → F i j = F' i j) :
    Calls Try.prog 70 #[V, V'] w fun e w' => e = .returned (.bool true) ∧ Below w.heap.size w w' := by
  obtain ⟨a, cap, rfl⟩ := hs.shape
  obtain ⟨a', cap', rfl⟩ := hs'.shape
  have hm := hs.len
  unfold maxLen at hm
  have HS := Lib.hid hs; clear hs
  have HS' := Lib.hid hs'; clear hs'
  have HE := Lib.hid he; clear he
  have HL := Lib.hid hl; clear hl
  go_enter Try.func70, Try.ntmps70
  go_wp2
  go_loopw [5] (fun i wr => ∃ k : Nat, k ≤ m ∧ i = .int .i64 k ∧ Below w.heap.size w wr) (fun i _ => m - (intOf i).toNat)
  case atStart => exact ⟨0, Nat.zero_le _, rfl, Below.refl _ _⟩
  case round =>
    obtain ⟨k, hk, rfl, hb⟩ := hrel
    by_cases hlt : k < m
    · obtain ⟨g, off, c1, u, hv, hr⟩ := HS.out.at (by omega)
      obtain ⟨rfl, rfl⟩ : a = some ⟨g, off, none⟩ ∧ cap = c1 := by cases hv; exact ⟨rfl, rfl⟩
      obtain ⟨g', off', c1', u', hv', hr'⟩ := HS'.out.at (by omega)
      obtain ⟨rfl, rfl⟩ : a' = some ⟨g', off', none⟩ ∧ cap' = c1' := by cases hv'; exact ⟨rfl, rfl⟩
      have hg := hr.blk
      have hg' := hr'.blk
      have z1 := hr.size
      have z2 := hr'.size
      have hck : wr.cell? ⟨g, off + k, none⟩ = some (u k) := by rw [hb.cell (p := ⟨g, off + k, none⟩) (by show g < _; omega)]; exact hr.head hlt
      have hck' : wr.cell? ⟨g', off' + k, none⟩ = some (u' k) := by rw [hb.cell (p := ⟨g', off' + k, none⟩) (by show g' < _; omega)]; exact hr'.head hlt
      have R1 := Lib.hid ((hr.row hlt).keep hb z1)
      have R2 := Lib.hid ((hr'.row hlt).keep hb z2)
      have HX := Lib.hid (HL.out k hlt)
      clear hv hv' hr hr' hg hg' z1 z2
      go_wp2
      go_region_held3 (fun w' => w'.cell? ⟨g, off + k, none⟩ = some (u k) ∧ w'.cell? ⟨g', off' + k, none⟩ = some (u' k))
        (first | exact ⟨hck, hck'⟩ | exact ⟨cell_later b1 hck, cell_later b1 hck'⟩)
        (first
          | (go_at_call 79; refine (eqInt64S_yes _ R1.out.drew ((HX.out ▸ R2.out : Sl o' wr lo' hi' (u' k) (ln k) (F' k)).drew) (fun j hj => HE.out k j hlt hj)).mono ?_; rintro e w1 ⟨rfl, b1⟩))
      all_goals
        have HB := hb.drew.trans (b1.mono (by simpa using hb.size))
        go_wp2
        go_roundw
        case rel => exact ⟨k + 1, by omega, by go_num, by first | exact HB | exact below_drewN HB _⟩
        case measure => simp [intOf]; omega
    · go_wp2
      go_ret
      exact ⟨rfl, hb⟩

theorem markInt64S_only (k : Int) (w : World) (hs : Sl true w lo hi v n f) (hk : 0 ≤ k) (hk' : k ≤ 4611686018427387904) (hn : n ≤ 1048576) :
    Calls Try.prog 80 #[v, .int .i64 k] w fun e w' => e = .returned (.int .i64 (k + n)) ∧ Sl true w' lo hi v n (fun j => k + j) ∧ Frame lo hi w w' ∧ Only v w w' := by
  obtain ⟨a, cap, rfl⟩ := hs.shape
  have HS := Lib.hid hs; clear hs
  go_enter Try.func80, Try.ntmps80
  go_wp2
  go_loopw [1, 5] (fun q i wr => ∃ m : Nat, m ≤ n ∧ i = .int .i64 m ∧ q = .int .i64 (k + m) ∧ Sl true wr lo hi (.slice a n cap) n (fun j => if j < m then k + j else f j) ∧ Frame lo hi w wr ∧ Only (.slice a n cap) w wr) (fun _ i _ => n - (intOf i).toNat)
  case atStart => exact ⟨0, Nat.zero_le _, rfl, by go_num, HS.out.congr (fun j hj => by simp), Frame.refl _ _ _, Only.refl _ _⟩
  case round =>
    obtain ⟨m, hm, rfl, rfl, hown, hfr, hon⟩ := hrel
    have HO := Lib.hid hown; clear hown
    have HY := Lib.hid hon; clear hon
    by_cases hlt : m < n
    · obtain ⟨g, off, c1, hv, _⟩ := HO.out.at (by omega)
      obtain ⟨rfl, rfl⟩ : a = some ⟨g, off, none⟩ ∧ cap = c1 := by cases hv; exact ⟨rfl, rfl⟩
      clear hv
      obtain ⟨hg1, hg2, _, hc, hz⟩ := HO.out.known (by omega)
      have hck := hc m hlt
      have hfz := hz rfl (off + m)
      clear hc hz
      go_wp2
      go_roundw
      case rel =>
        refine ⟨m + 1, by omega, by go_num, by go_num, ?_, hfr.setCell hg1 hg2 _, HY.out.setCell hlt⟩
        refine (HO.out.store hlt (by unfold inR; omega)).congr (fun j hj => ?_)
        by_cases e : j = m
        · subst e; simp
        · have : (j < m + 1) = (j < m) := by simp; omega
          simp [e, this]
      case measure => simp [intOf]; omega
    · have e : m = n := by omega
      subst e
      go_wp2
      go_ret
      exact ⟨rfl, HO.out.congr (fun j hj => by simp [hj]), hfr, HY.out⟩

set_option maxRecDepth 100000 in
theorem markInt64SS_any (k : Int) (w : World) (hs : Rw true w lo hi V m ln F) (hk : 0 ≤ k) (hk' : k ≤ 4611686018000000000) (hn : m + pre ln m ≤ 1048576) :
    Calls Try.prog 81 #[V, .int .i64 k] w fun e w' => e = .returned (.int .i64 (k + (pre ln m : Int))) ∧ Rw true w' lo hi V m ln (fun i j => k + (pre ln i : Int) + (j : Int)) ∧ Frame lo hi w w' := by
  obtain ⟨a, cap, rfl⟩ := hs.shape
  have HS := Lib.hid hs; clear hs
  have hmn : m ≤ 1048576 := by omega
  have hpn : (pre ln m : Int) ≤ 1048576 := by omega
  clear hn
  go_enter Try.func81, Try.ntmps81
  go_wp2
  go_loopw [1, 5] (fun q i wr => ∃ t : Nat, t ≤ m ∧ i = .int .i64 t ∧ q = .int .i64 (k + (pre ln t : Int)) ∧ Rw true wr lo hi (.slice a m cap) m ln (fun i j => if i < t then k + (pre ln i : Int) + (j : Int) else F i j) ∧ Frame lo hi w wr) (fun _ i _ => m - (intOf i).toNat)
  case atStart => exact ⟨0, Nat.zero_le _, rfl, by simp [pre], HS.out.congr (fun _ _ => rfl) (fun i j _ _ => by simp), Frame.refl _ _ _⟩
  case round =>
    obtain ⟨t, ht, rfl, rfl, hown, hfr⟩ := hrel
    have HO := Lib.hid hown; clear hown
    by_cases hlt : t < m
    · obtain ⟨g, off, c1, u, hv, hr⟩ := HO.out.at (by omega)
      obtain ⟨rfl, rfl⟩ : a = some ⟨g, off, none⟩ ∧ cap = c1 := by cases hv; exact ⟨rfl, rfl⟩
      have hck := hr.head hlt
      have hp1 := pre_one ln hlt
      have hp2 : pre ln (t + 1) = pre ln t + ln t := rfl
      have HR := Lib.hid hr; clear hr hv
      go_wp2_with fail
      refine (markInt64S_only _ _ (HR.out.row hlt) (by omega) (by omega) (by omega)).mono ?_
      rintro e w1 ⟨rfl, s1, f1, o1⟩
      have HP := Lib.hid (HR.out.putOnly hlt o1 s1)
      have HF := Lib.hid (hfr.trans f1)
      clear s1 f1 o1 hck
      go_wp2
      go_roundw
      case rel =>
        refine ⟨t + 1, by omega, by go_num, by rw [hp2]; congr 1; omega, ?_, HF.out⟩
        refine HP.out.rw.congr (fun _ _ => rfl) (fun y j hy hj => ?_)
        by_cases e : y = t
        · subst e; rw [if_pos (by omega), if_pos rfl]
        · rw [if_neg e]
          by_cases e2 : y < t
          · rw [if_pos e2, if_pos (by omega)]
          · rw [if_neg e2, if_neg (by omega)]
      case measure => simp [intOf]; omega
    · have e : t = m := by omega
      subst e
      go_wp2
      go_ret
      exact ⟨rfl, HO.out.congr (fun _ _ => rfl) (fun y j hy hj => by rw [if_pos hy]), hfr⟩

set_option maxRecDepth 100000 in
theorem heldInt64SS_any (k : Int) (w : World) (hs : Rw o w lo hi V m ln (fun i j => k + (pre ln i : Int) + (j : Int))) (hk : 0 ≤ k) (hk' : k ≤ 4611686018000000000) (hn : m + pre ln m ≤ 1048576) :
    Calls Try.prog 82 #[V, .int .i64 k] w fun e w' => e = .returned (.int .i64 (k + (pre ln m : Int))) ∧ Below w.heap.size w w' := by
  obtain ⟨a, cap, rfl⟩ := hs.shape
  have HS := Lib.hid hs; clear hs
  have hmn : m ≤ 1048576 := by omega
  have hpn : (pre ln m : Int) ≤ 1048576 := by omega
  clear hn
  go_enter Try.func82, Try.ntmps82
  go_wp2
  go_loopw [1, 5] (fun q i wr => ∃ t : Nat, t ≤ m ∧ i = .int .i64 t ∧ q = .int .i64 (k + (pre ln t : Int)) ∧ Below w.heap.size w wr) (fun _ i _ => m - (intOf i).toNat)
  case atStart => exact ⟨0, Nat.zero_le _, rfl, by simp [pre], Below.refl _ _⟩
  case round =>
    obtain ⟨t, ht, rfl, rfl, hb⟩ := hrel
    by_cases hlt : t < m
    · obtain ⟨g, off, c1, u, hv, hr0⟩ := HS.out.at (by omega)
      obtain ⟨rfl, rfl⟩ : a = some ⟨g, off, none⟩ ∧ cap = c1 := by cases hv; exact ⟨rfl, rfl⟩
      have hr := hr0.keep hb hr0.size
      have hck := hr.head hlt
      have hrow := Lib.hid (hr.row hlt)
      have hp1 := pre_one ln hlt
      have hp2 : pre ln (t + 1) = pre ln t + ln t := rfl
      clear hr hr0 hv
      go_wp2_with fail
      refine (heldInt64S_any (k + (pre ln t : Int)) _ hrow.out (by omega) (by omega) (by omega)).mono ?_
      rintro e w1 ⟨rfl, b1⟩
      have HB := Lib.hid (hb.trans (b1.mono hb.size))
      have hge : ¬ (k + (pre ln t : Int) + (ln t : Int) < 0) := by omega
      clear b1 hck
      go_wp2
      go_roundw
      case rel => exact ⟨t + 1, by omega, by go_num, by rw [hp2]; congr 1; omega, HB.out⟩
      case measure => simp [intOf]; omega
    · have e : t = m := by omega
      subst e
      go_wp2
      go_ret
      exact ⟨rfl, hb⟩

theorem szGauss_yes (x y : Int) (left : Int) (w : World) (hs : Rw o w lo hi V m ln F) (hl : left ≤ 1048576) (hn : ((m + pre ln m : Nat) : Int) ≤ left) :
    Calls Try.prog 17 #[.agg #[.int .i64 x, .int .i64 y, V], .int .i64 left] w fun e w' => e = .returned (.int .i64 (left - ((m + pre ln m : Nat) : Int))) ∧ Below w.heap.size w w' := by
  obtain ⟨a, cap, rfl⟩ := hs.shape
  have HS := Lib.hid hs; clear hs
  have hge : ¬ (left - ((m + pre ln m : Nat) : Int) < 0) := by omega
  go_enter Try.func17, Try.ntmps17
  go_wp2_with fail
  refine (szInt64SS_yes _ _ (HS.out.alloc _) hl hn).mono ?_
  rintro e w' ⟨rfl, rfl⟩
  go_wp2
  go_ret
  exact ⟨rfl, by go_grown⟩
theorem szGauss_no (x y : Int) (left : Int) (w : World) (hs : Rw o w lo hi V m ln F) (h0 : 0 ≤ left) (hl : left ≤ 1048576) (hn : left < ((m + pre ln m : Nat) : Int)) :
    Calls Try.prog 17 #[.agg #[.int .i64 x, .int .i64 y, V], .int .i64 left] w fun e w' => e = .returned (.int .i64 (-1)) ∧ Below w.heap.size w w' := by
  obtain ⟨a, cap, rfl⟩ := hs.shape
  have HS := Lib.hid hs; clear hs
  go_enter Try.func17, Try.ntmps17
  go_wp2_with fail
  refine (szInt64SS_no _ _ (HS.out.alloc _) h0 hl hn).mono ?_
  rintro e w' ⟨rfl, rfl⟩
  go_wp2
  go_ret
  exact ⟨rfl, by go_grown⟩

set_option maxHeartbeats 400000 in
theorem toGauss_any (x y : Int) (w : World) (hs : Rw o w lo hi V m ln F) (hn : m + pre ln m ≤ 1048576) :
    Calls Try.prog 19 #[.agg #[.int .i64 x, .int .i64 y, V]] w fun e w' => ∃ a' cap', e = .returned (.agg #[.int .i64 x, .int .i64 y, .slice a' m cap']) ∧ Rw true w' w.heap.size w'.heap.size (.slice a' m cap') m ln F ∧ Below w.heap.size w w' := by
  obtain ⟨a, cap, rfl⟩ := hs.shape
  have HS := Lib.hid hs; clear hs
  go_enter Try.func19, Try.ntmps19
  go_wp2_with fail
  refine (toInt64SS_any _ (HS.out.keep (((((Below.refl w.heap.size w).alloc (by simp) _).alloc (by simp) _).alloc (by simp; omega) _)|> fun b => by first | exact b | go_grown) HS.out.size) hn).mono ?_
  rintro e w1 ⟨a', cap', rfl, hv, hb⟩
  obtain ⟨hc1, hf1⟩ := bcell hb
  have hz := hb.size
  simp only [World.size_alloc] at hc1 hf1 hz hv
  try simp only [World.size_setCell, World.size_alloc] at hc1 hf1 hz hv
  have hz1 : w.heap.size + 1 < w1.heap.size := by omega
  have hz2 : w.heap.size + 1 + 1 < w1.heap.size := by omega
  have HV := Lib.hid hv; clear hv
  have HB : Below w.heap.size w w1 := Below.trans (by go_grown) (hb.mono (by simp; omega))
  go_wp2
  refine bodyPost_ret (v := .agg #[.int .i64 x, .int .i64 y, .slice a' m cap']) (by simp [results, Try.results19, go_sem, hc1]) rfl ?_
  refine ⟨_, _, rfl, ?_, by go_grown⟩
  exact ((((HV.out.setOther (.inl (by simp)) _).setOther (.inl (by simp)) _).setOther (.inl (by simp)) _).setOther (.inl (by simp)) _).wide (by omega) (by simp) (Nat.le_refl _)

theorem eqGauss_yes {o' : Bool} {lo' hi' : Nat} {V' : Value} {ln' : Nat → Nat} {F' : Nat → Nat → Int} (x y : Int) (w : World) (hs : Rw o w lo hi V m ln F) (hs' : Rw o' w lo' hi' V' m ln' F') (hl : ∀ i, i < m → ln i = ln' i) (he : ∀ i j, i < m → j < ln i → F i j = F' i j) :
    Calls Try.prog 21 #[.agg #[.int .i64 x, .int .i64 y, V], .agg #[.int .i64 x, .int .i64 y, V']] w fun e w' => e = .returned (.bool true) ∧ Below w.heap.size w w' := by
  obtain ⟨a, cap, rfl⟩ := hs.shape
  obtain ⟨a', cap', rfl⟩ := hs'.shape
  have HS := Lib.hid hs; clear hs
  have HS' := Lib.hid hs'; clear hs'
  have HE := Lib.hid he; clear he
  have HL := Lib.hid hl; clear hl
  go_enter Try.func21, Try.ntmps21
  go_wp2_with (go_at_call 70; refine (eqInt64SS_yes _ ((HS.out.alloc _).alloc _) ((HS'.out.alloc _).alloc _) HL.out HE.out).mono ?_; rintro e w1 ⟨rfl, hb⟩)
  go_ret
  exact ⟨rfl, (((Below.refl w.heap.size w).alloc (Nat.le_refl _) _).alloc (by simp) _).trans (hb.mono (by simp; omega))⟩

theorem markGauss_any (x y k : Int) (w : World) (hs : Rw true w lo hi V m ln F) (hk : 0 ≤ k) (hk' : k ≤ 4611686018000000000) (hn : m + pre ln m ≤ 1048576) :
    Calls Try.prog 28 #[.agg #[.int .i64 x, .int .i64 y, V], .int .i64 k] w fun e w' => e = .returned (.int .i64 (k + (pre ln m : Int))) ∧ Rw true w' lo hi V m ln (fun i j => k + (pre ln i : Int) + (j : Int)) ∧ Frame lo hi w w' := by
  obtain ⟨a, cap, rfl⟩ := hs.shape
  have HS := Lib.hid hs; clear hs
  go_enter Try.func28, Try.ntmps28
  go_wp2_with (go_at_call 81; refine (markInt64SS_any _ _ (HS.out.alloc _) hk hk' hn).mono ?_; rintro e w1 ⟨rfl, s1, f1⟩)
  go_ret
  exact ⟨rfl, s1, ((Frame.refl lo hi w).alloc _).trans f1⟩

theorem heldGauss_any (x y k : Int) (w : World) (hs : Rw o w lo hi V m ln (fun i j => k + (pre ln i : Int) + (j : Int))) (hk : 0 ≤ k) (hk' : k ≤ 4611686018000000000) (hn : m + pre ln m ≤ 1048576) :
    Calls Try.prog 29 #[.agg #[.int .i64 x, .int .i64 y, V], .int .i64 k] w fun e w' => e = .returned (.int .i64 (k + (pre ln m : Int))) ∧ Below w.heap.size w w' := by
  obtain ⟨a, cap, rfl⟩ := hs.shape
  have HS := Lib.hid hs; clear hs
  have hge : ¬ (k + (pre ln m : Int) < 0) := by omega
  go_enter Try.func29, Try.ntmps29
  go_wp2_with (go_at_call 82; refine (heldInt64SS_any _ _ (HS.out.alloc _) hk hk' hn).mono ?_; rintro e w1 ⟨rfl, b1⟩)
  go_ret
  exact ⟨rfl, ((Below.refl w.heap.size w).alloc (Nat.le_refl _) _).trans (b1.mono (by simp))⟩
end
end Go.Proofs.Ythmhjnholhiohaa
