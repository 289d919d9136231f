/- l01Own: a copy of a list. -/
import Derived.Test.YtnhpodlcgkgpbaaCopy
import Derived.Laws.AppendOwnNone
import Derived.Laws.OwnMore
import Derived.OwnWalk
namespace Go.Proofs.Ytnhpodlcgkgpbaa
open Go.RowKit Go.ChangeShapes Go.Sort
section
variable {o : Bool} {lo hi : Nat} {v : Value} {n : Nat} {f : Nat → Int}
/-- The value and the world behind an append. -/
theorem slice_of_row {w : World} {base e size n : Nat} {v : Value} {xs : List Value} (h : w.ownsRow base e size v n xs) : ∃ a cap, v = .slice a n cap := by
  rcases h.2 with ⟨rfl, rfl⟩ | ⟨g, cap, cur, rfl, _⟩
  · exact ⟨_, _, rfl⟩
  · exact ⟨_, _, rfl⟩

set_option maxHeartbeats 400000 in
theorem l01Own_any (w : World) (hs : Sl o w lo hi v n f) (hn : n ≤ 1048576) :
    Calls Try.prog 187 #[v] w fun e w' => ∃ a' cap', e = .returned (.slice a' n cap') ∧ Sl true w' w.heap.size w'.heap.size (.slice a' n cap') n f ∧ Below w.heap.size w w' := by
  have hbd := hs.bd
  obtain ⟨i0, hi, hz0, hz1, hz2⟩ := info_parts Try.info2
  have hrow := World.ownsRow_made (e := 2) (size := 1) (base := w.heap.size) w #[] 0 (Nat.le_refl _) (Nat.zero_le _) rfl
  rcases hs.parts with ⟨rfl, rfl⟩ | ⟨ad, cap, rfl, hcell⟩
  · clear hs hbd
    go_enter Try.func187, Try.ntmps187
    go_wp2_with (at_builtin; refine wpList_append_own_none rfl (.tmp 3) (.tmp 4) 22 rfl w.heap.size 2 i0 1 Try.underlying22 hi _ 0 [] rfl hrow rfl ?_)
    go_ret
    refine ⟨_, _, rfl, ?_, (Below.refl _ _).alloc (Nat.le_refl _) _⟩
    exact (Sl.ofRowF (f := f) (n := 0) hrow (fun j hj => absurd hj (Nat.not_lt_zero _)) (Nat.zero_le _))
  · have hm := hs.len
    have HS := Lib.hid hs; clear hs
    have HC := Lib.hid (fun j u hu => cell_later ((Below.refl w.heap.size w).alloc (Nat.le_refl _) (.cells #[] 2)) (hcell j u hu)); clear hcell
    have HB := Lib.hid hbd; clear hbd
    have HR := Lib.hid hrow; clear hrow
    go_enter Try.func187, Try.ntmps187
    go_wp2_with (at_builtin; refine wpList_append_own _ rfl (.tmp 3) (.tmp 4) 22 rfl w.heap.size 2 i0 (.int .i64 0) 1 8 Try.underlying22 hi hz0 hz1 hz2 rfl (by decide) _ 0 [] rfl HR.out ad n cap ((List.range n).map (fun j => Value.int .i64 (f j))) rfl (by simp) HC.out (fun x hx => by obtain ⟨j, _, rfl⟩ := List.mem_map.1 hx; rfl) (by omega) (by omega) (by simp) ?_; intro v' w1 hown hgrow _)
    go_ret
    simp only [Nat.zero_add, List.nil_append] at hown
    obtain ⟨a1, cap1, rfl⟩ := slice_of_row hown
    exact ⟨_, _, rfl, Sl.ofRowF hown HB.out hm, ((Below.refl _ _).alloc (Nat.le_refl _) _).grown hgrow (by simp) (fun k hk => by cases hk; exact Nat.le_refl _)⟩
end
end Go.Proofs.Ytnhpodlcgkgpbaa
