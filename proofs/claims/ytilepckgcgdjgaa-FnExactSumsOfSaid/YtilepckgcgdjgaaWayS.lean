/- Whether a number is in a list; whether there is an amount; the model's plan to one that is found. -/
import Derived.Test.YtilepckgcgdjgaaCountS
import Derived.Test.YtilepckgcgdjgaaAdd
namespace Go.Proofs.Ytilepckgcgdjgaa
open Go.RowKit

def hasB (x : Int) (l : List Int) (k : Nat) : Prop := ∀ j, j < k → l[j]?.getD 0 ≠ x
theorem mem_at {x : Int} {l : List Int} {k : Nat} (hk : k < l.length) (e : l[k]?.getD 0 = x) : x ∈ l := by
  rw [List.getElem?_eq_getElem hk] at e
  exact List.mem_iff_getElem.2 ⟨k, hk, by simpa using e⟩
theorem not_mem {x : Int} {l : List Int} (h : hasB x l l.length) : ¬ x ∈ l := fun hm => by
  obtain ⟨k, hk, e⟩ := List.mem_iff_getElem.1 hm
  exact h k hk (by rw [List.getElem?_eq_getElem hk]; simpa using e)

theorem l1Has_any (w : World) (aa : Option Addr) (n ca : Nat) (l : List Int) (x : Int) (ha : Ints w aa n ca l) :
    Calls Try.prog 67 #[.slice aa n ca, .int .i64 x] w fun e w' => e = .returned (.bool (decide (x ∈ l))) ∧ New w w' := by
  have L1 := Lib.hid ha.1
  have hm := ha.2.2.1
  have HA := Lib.hid ha; clear ha
  go_enter Try.func67, Try.ntmps67
  go_wp2
  go_loopw [9] (fun i wr => ∃ k : Nat, k ≤ n ∧ i = .int .i64 k ∧ New w wr ∧ hasB x l k) (fun i _ => n - (intOf i).toNat)
  case atStart => exact ⟨0, Nat.zero_le _, rfl, New.refl _, fun j hj => absurd hj (by omega)⟩
  case round =>
    obtain ⟨k, hk, rfl, hnw, hpre⟩ := hrel
    have NW := Lib.hid hnw; clear hnw
    have HP := Lib.hid hpre; clear hpre
    by_cases hlt : k < n
    · obtain ⟨b1, o1, rfl, g1, _⟩ := (HA.out.new NW.out).at hlt
      obtain ⟨y, hy⟩ : ∃ y, y = l[k]?.getD 0 := ⟨_, rfl⟩
      rw [← hy] at g1
      have HY := Lib.hid hy; clear hy
      by_cases he : y = x
      · subst he
        have hm2 := Lib.hid (mem_at (by have := L1.out; omega) HY.out.symm)
        go_wp2
        go_ret
        exact ⟨ret_bool (decide_eq_true hm2.out).symm, NW.out⟩
      · have hne : (y == x) = false := by simpa using he
        go_wp2
        go_roundw
        case rel =>
          refine ⟨k + 1, by omega, by go_num, NW.out, fun j hj => ?_⟩
          by_cases e : j = k
          · subst e; rw [← HY.out]; exact he
          · exact HP.out j (by omega)
        case measure => simp [intOf]; omega
    · obtain rfl : k = n := by omega
      have hno := Lib.hid (not_mem (by rw [← L1.out]; exact HP.out))
      go_wp2
      go_ret
      exact ⟨ret_bool (decide_eq_false hno.out).symm, NW.out⟩

theorem plAmount_any (w : World) (x : Int) : Calls Try.prog 65 #[.int .i64 x] w fun e w' => e = .returned (.bool (inB 0 60 x)) ∧ w = w' := by
  go_enter Try.func65, Try.ntmps65
  go_wp2_with fail
  refine (l1In_any x 0 60 _).mono ?_
  rintro e w1 ⟨rfl, rfl⟩
  go_wp2
  go_ret
  exact ⟨rfl, rfl⟩

theorem flat_cons (p : Int × Int) (l : List (Int × Int)) : flat (p :: l) = [.int .i64 p.1, .int .i64 p.2] ++ flat l := rfl
theorem flat_ones (l : List (Int × Int)) : ∀ u ∈ flat l, u.oneCell' = true := fun u hu => by
  unfold flat at hu
  rw [List.mem_flatMap] at hu
  obtain ⟨p, _, hp⟩ := hu
  simp at hp
  rcases hp with rfl | rfl <;> rfl
end Go.Proofs.Ytilepckgcgdjgaa
