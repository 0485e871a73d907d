/- The model's functions of chapter 1: amounts, moves, copies. -/
import Derived.Test.YtilepckgcgdjgaaSpec1
import Derived.Laws.AppendOwnNone
namespace Go.Proofs.Ytilepckgcgdjgaa
open Go.RowKit

theorem sumOf_le (l : List Int) (h : ∀ j, j < l.length → 0 ≤ l[j]?.getD 0 ∧ l[j]?.getD 0 ≤ 60) (k : Nat) (hk : k ≤ l.length) : 0 ≤ sumOf (l.take k) ∧ sumOf (l.take k) ≤ 60 * k := by
  induction k with
  | zero => simp [sumOf]
  | succ k ih =>
    have e : l.take (k + 1) = l.take k ++ [l[k]?.getD 0] := by
      rw [List.take_add_one]
      simp [List.getElem?_eq_getElem (show k < l.length by omega)]
    have := ih (by omega)
    have := h k (by omega)
    rw [e]
    simp only [sumOf, List.foldl_append, List.foldl_cons, List.foldl_nil] at *
    omega
theorem sumOf_snoc (l : List Int) (k : Nat) (hk : k < l.length) : sumOf (l.take (k + 1)) = sumOf (l.take k) + l[k]?.getD 0 := by
  have e : l.take (k + 1) = l.take k ++ [l[k]?.getD 0] := by
    rw [List.take_add_one]
    simp [List.getElem?_eq_getElem hk]
  rw [e]
  simp [sumOf]

theorem veSum_any (w : World) (ab : Option Addr) (m cb : Nat) (H : List Int) (h2 : Ints w ab m cb H) (hm : m ≤ 1000) (hv : ∀ j, j < H.length → 0 ≤ H[j]?.getD 0 ∧ H[j]?.getD 0 ≤ 60) :
    Calls Try.prog 39 #[.slice ab m cb] w fun e w' => e = .returned (.int .i64 (sumOf H)) ∧ w = w' := by
  have HB := Lib.hid h2; clear h2
  have HV := Lib.hid hv; clear hv
  go_enter Try.func39, Try.ntmps39
  go_wp2
  go_loop [3, 8] (fun s i => ∃ k : Nat, k ≤ m ∧ i = .int .i64 k ∧ s = .int .i64 (sumOf (H.take k))) (fun _ i => m - (intOf i).toNat)
  case atStart => exact ⟨0, Nat.zero_le _, rfl, rfl⟩
  case round =>
    obtain ⟨k, hk, rfl, rfl⟩ := hrel
    have hlen := HB.out.len
    have hs := sumOf_le H HV.out k (by omega)
    obtain ⟨s0, s1⟩ := hs
    by_cases hlt : k < m
    · obtain ⟨b, o, rfl, hc, _⟩ := HB.out.at hlt
      obtain ⟨v0, v1⟩ := HV.out k (by omega)
      have HS := Lib.hid (sumOf_snoc H k (by omega))
      have HLEN := Lib.hid hlen; clear hlen
      go_wp2
      go_round
      case rel => exact ⟨k + 1, by omega, by go_num, by rw [HS.out]⟩
      case measure => simp [intOf]; omega
    · have e : H.take k = H := List.take_of_length_le (by omega)
      rw [e]
      go_wp2
      go_ret
      exact ⟨rfl, rfl⟩

theorem l1Own_any (w : World) (aa : Option Addr) (n ca : Nat) (l : List Int) (ha : Ints w aa n ca l) (hn : n ≤ 1048576) :
    Calls Try.prog 40 #[.slice aa n ca] w fun e w' => ∃ ao cap, e = .returned (.slice ao n cap) ∧ Own w' w.heap.size w'.heap.size ao n cap l ∧ New w w' := by
  have HA := Lib.hid ha; clear ha
  go_enter Try.func40, Try.ntmps40
  obtain ⟨i0, hi, hz0, hz1, hz2⟩ := info_parts Try.infoInt
  have hown0 : (w.alloc (.cells #[] 3)).ownsRow w.heap.size 3 1 (.slice (some ⟨w.heap.size, 0, none⟩) 0 0) 0 [] := World.ownsRow_made _ _ _ (Nat.le_refl _) (by decide) rfl
  cases aa with
  | none =>
    obtain ⟨hl, h2, h3, h4, h5⟩ := HA.out
    obtain rfl := h5 rfl
    have h0 : n = 0 := by omega
    subst h0
    have hl0 : l = [] := List.eq_nil_of_length_eq_zero hl.symm
    clear hl h2 h3 h4 h5
    go_wp2_with (at_builtin; refine wpList_append_own_none rfl _ _ 22 rfl w.heap.size 3 i0 1 Try.underlying22 hi _ _ _ rfl hown0 rfl ?_)
    go_ret
    refine ⟨_, _, rfl, ?_, (by repeat (first | with_reducible exact New.refl _ | with_reducible assumption | refine New.drewN ?_ _ | refine New.drew ?_ | refine New.alloc ?_ _ | refine New.setCell ?_ (by first | omega | (simp; omega) | (simp; done)) _ | (refine New.trans ?_ (by assumption))))⟩
    rw [hl0]
    exact (Own.nil (w.alloc (.cells #[] 3)) w.heap.size (w.alloc (.cells #[] 3)).heap.size).other (fun h => by cases h)
  | some ad =>
    go_wp2_with (at_builtin; refine wpList_append_own _ rfl _ _ 22 rfl w.heap.size 3 i0 (.int .i64 0) 1 8 Try.underlying22 hi hz0 hz1 hz2 rfl (by decide) _ _ _ rfl hown0 ad n ca (l.map (Value.int .i64)) rfl ?c0 ?c1 ?c2 ?c3 ?c4 ?c5 ?_)
    case c0 => simpa using HA.out.len.symm
    case c1 => exact (HA.out.new (by repeat (first | with_reducible exact New.refl _ | with_reducible assumption | refine New.drewN ?_ _ | refine New.drew ?_ | refine New.alloc ?_ _ | refine New.setCell ?_ (by first | omega | (simp; omega) | (simp; done)) _ | (refine New.trans ?_ (by assumption))))).source
    case c2 => intro u hu; simp at hu; obtain ⟨z, _, rfl⟩ := hu; rfl
    case c3 => unfold maxLen; omega
    case c4 => omega
    case c5 => simp
    intro v' w1 hown hgrow _
    obtain ⟨ao, cap, rfl, ho⟩ := Own.of_row (l := l) (by simpa using hown)
    have HO := Lib.hid ho; clear ho
    have HG := Lib.hid hgrow; clear hgrow
    clear hown hown0
    go_wp2
    go_ret
    exact ⟨ao, cap, rfl, HO.out, Below.grown ((New.refl w).alloc _) HG.out (by simp) (fun k hk => by simp [Value.ownBlock] at hk; omega)⟩
end Go.Proofs.Ytilepckgcgdjgaa
