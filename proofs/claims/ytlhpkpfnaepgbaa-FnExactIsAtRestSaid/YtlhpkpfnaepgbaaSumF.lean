/- Sums over tanks of what a function tells that came in: whole numbers, and single precision. -/
import Derived.Test.YtlhpkpfnaepgbaaRatK
import Derived.Test.YtlhpkpfnaepgbaaFlt
import Derived.Shelf.Abstract
namespace Go.Proofs.Ytlhpkpfnaepgbaa
open Go.RowKit Go.IntWalk Go.Shelf

abbrev tkOf (t : Tk) : Value := tkV t.1 t.2.1 t.2.2
theorem sumL_take (g : Tk → Int) (T : List Tk) (k : Nat) (h : k < T.length) : sumL g (T.take (k + 1)) = sumL g (T.take k) + g (T[k]?.getD (0, 0, 0)) := by
  rw [List.take_add_one, sumL_append, List.getElem?_eq_getElem h]
  simp [sumL]
theorem mem_get {T : List Tk} {k : Nat} (h : k < T.length) : T[k]?.getD (0, 0, 0) ∈ T := by
  rw [List.getElem?_eq_getElem h]; exact List.getElem_mem h
theorem sumL_take_bd {g : Tk → Int} {T : List Tk} {lo hi : Int} (h : ∀ t ∈ T, lo ≤ g t ∧ g t ≤ hi) (hT : T.length ≤ 6) (h0 : lo ≤ 0) (h1 : 0 ≤ hi) (k : Nat) : lo * 6 ≤ sumL g (T.take k) ∧ sumL g (T.take k) ≤ hi * 6 := by
  have := sumL_bd (A := T.take k) (fun t ht => h t (List.mem_of_mem_take ht))
  have hl : (T.take k).length ≤ 6 := by rw [List.length_take]; omega
  have a := Int.mul_le_mul_of_nonneg_left (show ((T.take k).length : Int) ≤ 6 by omega) h1
  have b := Int.mul_le_mul_of_nonneg_left (show ((T.take k).length : Int) ≤ 6 by omega) (show 0 ≤ -lo by omega)
  rw [Int.neg_mul, Int.neg_mul] at b
  omega

set_option maxRecDepth 100000 in
theorem sumInt_any (w : World) (fk : Nat) (cp : Array Value) (g : Tk → Int) (aa : Option Addr) (n ca : Nat) (T : List Tk) (ha : Tanks w aa n ca T) (hn : n ≤ 6)
    (hbd : ∀ t ∈ T, -1000000000 ≤ g t ∧ g t ≤ 1000000000)
    (hcall : ∀ (v : World) (t : Tk), t ∈ T → New w v → Calls Try.prog fk (#[tkOf t] ++ cp) v fun e v' => e = .returned (.int .i64 (g t)) ∧ New v v') (hen : Enters Try.prog fk) :
    Calls Try.prog 61 #[.func (.func fk) #[] cp, .slice aa n ca] w fun e w' => e = .returned (.int .i64 (sumL g T)) ∧ New w w' := by
  have HN := Lib.hid ha.1
  have HA := Lib.hid ha; clear ha
  have HB := Lib.hid hbd; clear hbd
  have HC := Lib.hid hcall; clear hcall
  have EN : ∀ (args : Array Value) (w : World), (callFunc fk args).run Try.prog w = .ok (.enter fk args) w := hen
  clear hen
  go_enter Try.func61, Try.ntmps61
  go_wp2
  go_loopw [5, 10] (fun y i wr => ∃ k : Nat, k ≤ n ∧ i = .int .i64 k ∧ y = .int .i64 (sumL g (T.take k)) ∧ New w wr) (fun _ i _ => n - (intOf i).toNat)
  case atStart => exact ⟨0, Nat.zero_le _, rfl, rfl, New.refl _⟩
  case round =>
    obtain ⟨k, hk, rfl, rfl, hnw⟩ := hrel
    have NW := Lib.hid hnw; clear hnw
    by_cases hlt : k < n
    · have KC := Lib.hid (show k < T.length by have := HN.out; omega)
      obtain ⟨b, o, rfl, g0, g1, g2⟩ := (HA.out.new NW.out).2.2.2.1 k hlt
      have hs := sumL_take_bd HB.out (by have := HN.out; omega) (by omega) (by omega) k
      obtain ⟨hs1, hs2⟩ := hs
      have hg := HB.out _ (mem_get KC.out)
      obtain ⟨hg1, hg2⟩ := hg
      obtain ⟨x, hx⟩ : ∃ x, x = g (T[k]?.getD (0, 0, 0)) := ⟨_, rfl⟩
      rw [← hx] at hg1 hg2
      have HX := Lib.hid hx; clear hx
      go_wp2_with fail
      refine (HC.out _ (T[k]?.getD (0, 0, 0)) (mem_get KC.out) (New.trans NW.out (by repeat (first | with_reducible exact New.refl _ | with_reducible assumption | refine New.drewN ?_ _ | refine New.drew ?_ | refine New.alloc ?_ _ | refine New.setCell ?_ (by first | omega | (simp; omega) | (simp; done)) _ | (refine New.trans ?_ (by assumption)))))).mono ?_
      rintro e w1 ⟨rfl, n1⟩
      rw [← HX.out]
      have N1 := Lib.hid (show New w w1 from New.trans (New.trans NW.out (by repeat (first | with_reducible exact New.refl _ | with_reducible assumption | refine New.drewN ?_ _ | refine New.drew ?_ | refine New.alloc ?_ _ | refine New.setCell ?_ (by first | omega | (simp; omega) | (simp; done)) _ | (refine New.trans ?_ (by assumption))))) n1); clear n1
      go_wp2
      go_roundw
      case rel => exact ⟨k + 1, by omega, by go_num, by rw [sumL_take _ _ _ KC.out, HX.out], N1.out⟩
      case measure => simp [intOf]; omega
    · obtain rfl : k = n := by omega
      go_wp2
      go_ret
      exact ⟨ret_int (by rw [List.take_of_length_le (by have := HN.out; omega)]), NW.out⟩

set_option maxRecDepth 100000 in
theorem sumF32_any (w : World) (fk : Nat) (cp : Array Value) (aa : Option Addr) (n ca : Nat) (T : List Tk) (ha : Tanks w aa n ca T) (hn : n ≤ 6)
    (hcall : ∀ (v : World) (t : Tk), t ∈ T → New w v → Calls Try.prog fk (#[tkOf t] ++ cp) v fun e v' => ∃ r, e = .returned (.float .f32 r) ∧ NN r ∧ New v v') (hen : Enters Try.prog fk) :
    Calls Try.prog 66 #[.func (.func fk) #[] cp, .slice aa n ca] w fun e w' => ∃ r, e = .returned (.float .f32 r) ∧ NN r ∧ New w w' := by
  have HN := Lib.hid ha.1
  have HA := Lib.hid ha; clear ha
  have HC := Lib.hid hcall; clear hcall
  have EN : ∀ (args : Array Value) (w : World), (callFunc fk args).run Try.prog w = .ok (.enter fk args) w := hen
  clear hen
  go_enter Try.func66, Try.ntmps66
  go_wp2
  go_loopw [5, 10] (fun y i wr => ∃ (k : Nat) (r : Nat), k ≤ n ∧ i = .int .i64 k ∧ y = .float .f32 r ∧ NN r ∧ New w wr) (fun _ i _ => n - (intOf i).toNat)
  case atStart => exact ⟨0, 0, Nat.zero_le _, rfl, rfl, nn_zero, New.refl _⟩
  case round =>
    obtain ⟨k, r, hk, rfl, rfl, hr, hnw⟩ := hrel
    have NW := Lib.hid hnw; clear hnw
    have HR := Lib.hid hr; clear hr
    by_cases hlt : k < n
    · have KC := Lib.hid (show k < T.length by have := HN.out; omega)
      obtain ⟨b, o, rfl, g0, g1, g2⟩ := (HA.out.new NW.out).2.2.2.1 k hlt
      go_wp2_with fail
      refine (HC.out _ (T[k]?.getD (0, 0, 0)) (mem_get KC.out) (New.trans NW.out (by repeat (first | with_reducible exact New.refl _ | with_reducible assumption | refine New.drewN ?_ _ | refine New.drew ?_ | refine New.alloc ?_ _ | refine New.setCell ?_ (by first | omega | (simp; omega) | (simp; done)) _ | (refine New.trans ?_ (by assumption)))))).mono ?_
      rintro e w1 ⟨s, rfl, hs, n1⟩
      have N1 := Lib.hid (show New w w1 from New.trans (New.trans NW.out (by repeat (first | with_reducible exact New.refl _ | with_reducible assumption | refine New.drewN ?_ _ | refine New.drew ?_ | refine New.alloc ?_ _ | refine New.setCell ?_ (by first | omega | (simp; omega) | (simp; done)) _ | (refine New.trans ?_ (by assumption))))) n1); clear n1
      obtain ⟨q, hq, hq2⟩ := nn_add HR.out hs
      have hrun : ∀ (t : TypeId) (w : World), (binOp .add t (.float .f32 r) (.float .f32 s)).run Try.prog w = .ok (.float .f32 q) w := fun t w => run_float_arith w .add t .f32 r s q hq
      go_wp2
      go_roundw
      case rel => exact ⟨k + 1, q, by omega, by go_num, rfl, hq2, N1.out⟩
      case measure => simp [intOf]; omega
    · obtain rfl : k = n := by omega
      go_wp2
      go_ret
      exact ⟨r, rfl, HR.out, NW.out⟩
end Go.Proofs.Ytlhpkpfnaepgbaa
