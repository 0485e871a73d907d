/- Numerals below a hundred, the model's and the library's. -/
import Derived.Test.YtknjobpdbbjeoaaDoorEndI
import Derived.Test.YtknjobpdbbjeoaaDoorShelfS
import Derived.Deep.RegionHeld3
namespace Go.Proofs.YtknjobpdbbjeoaaDoor
open Go.RowKit

/-- The decimal numeral of a number. -/
def numT (k : Nat) : ByteArray := ⟨(Lib.decDigits k).toArray⟩
theorem numT_one {k : Nat} (h : k < 10) : numT k = strOfNums [48 + (k : Int)] := by
  unfold numT; rw [Lib.decDigits_one h]
  have e : (48 + (k : Int)).toNat = 48 + k := by omega
  simp [strOfNums, e]
theorem numT_two {k : Nat} (h : 10 ≤ k) (h9 : k < 100) : numT k = numT (k / 10) ++ strOfNums [48 + (k : Int) % 10] := by
  unfold numT
  rw [Lib.decDigits, dif_neg (by omega)]
  have e : (48 + (k : Int) % 10).toNat = 48 + k % 10 := by omega
  apply ByteArray.ext
  simp [strOfNums, e]
theorem numT_size {k : Nat} (h : k < 100) : (numT k).size ≤ 2 := by
  show ((Lib.decDigits k).toArray).size ≤ 2
  by_cases h1 : k < 10
  · rw [Lib.decDigits_one h1]; simp
  · rw [Lib.decDigits_two h1 h]; simp

theorem conv_one (w : World) (b : Nat) (z : Int) (h : w.cell? ⟨b, 0, none⟩ = some (.int .u8 z)) :
    (convert 53 9 (.slice (some ⟨b, 0, none⟩) 1 1)).run Tryd.prog w = .ok (.string (strOfNums [z])) w :=
  run_convert_bytes_arg w 53 5 Tryd.underlying53 Tryd.underlying5 b 0 1 1 [z] rfl (fun i hi => by
    obtain rfl : i = 0 := by omega
    simpa using h) 9 Tryd.underlying9

set_option maxRecDepth 100000 in
theorem l1Num_one (w : World) (k : Nat) (h9 : k < 10) :
    Calls Tryd.prog 24 #[.int .i64 (k : Int)] w fun e w' => e = .returned (.string (numT k)) ∧ New w w' := by
  have z0 : (k : Int) < 10 := by omega
  have x2 : IntKind.i64.wrap (48 + (k : Int)) = 48 + (k : Int) := IntWalk.i64_in _ (by omega)
  have x3 : IntKind.u8.wrap (48 + (k : Int)) = 48 + (k : Int) := by simp [IntKind.wrap, IntKind.bits, IntKind.signed]; omega
  go_enter Tryd.func24, Tryd.ntmps24
  go_wp2
  rw [conv_one _ _ (48 + (k : Int)) (by simp [go_sem]; done)]
  go_wp2
  go_ret
  exact ⟨by rw [numT_one h9]; rfl, (by repeat (first | with_reducible exact New.refl _ | with_reducible assumption | refine New.drewN ?_ _ | refine New.drew ?_ | refine New.alloc ?_ _ | refine New.setCell ?_ (by first | omega | (simp; omega) | (simp; done)) _ | (refine New.trans ?_ (by assumption))))⟩

set_option maxRecDepth 100000 in
set_option maxHeartbeats 1000000 in
theorem l1Num_two (w : World) (k : Nat) (h0 : 10 ≤ k) (h9 : k < 100) :
    Calls Tryd.prog 24 #[.int .i64 (k : Int)] w fun e w' => e = .returned (.string (numT k)) ∧ New w w' := by
  have z0 : ¬ (k : Int) < 10 := by omega
  have hq : (((k / 10 : Nat) : Int)) = (k : Int) / 10 := by omega
  have x1 : IntKind.i64.wrap ((k : Int) / 10) = (k : Int) / 10 := IntWalk.i64_in _ (by omega)
  have x2 : IntKind.i64.wrap (48 + (k : Int).tmod 10) = 48 + (k : Int) % 10 := by
    rw [Int.tmod_eq_emod_of_nonneg (by omega)]
    exact IntWalk.i64_in _ (by omega)
  have x3 : IntKind.u8.wrap (48 + (k : Int) % 10) = 48 + (k : Int) % 10 := by simp [IntKind.wrap, IntKind.bits, IntKind.signed]; omega
  have IH := Lib.hid (show ∀ w : World, Calls Tryd.prog 24 #[.int .i64 ((k : Int) / 10)] w fun e w' => e = .returned (.string (numT (k / 10))) ∧ New w w' from fun w => by rw [← hq]; exact l1Num_one w (k / 10) (by omega))
  have HT := Lib.hid (numT_two h0 h9)
  obtain ⟨d, hd⟩ : ∃ d, d = numT (k / 10) := ⟨_, rfl⟩
  rw [← hd] at IH HT
  have e1 : ¬ 9223372036854775807 < d.size + (strOfNums [48 + (k : Int) % 10]).size := by
    have := numT_size (k := k / 10) (by omega)
    rw [← hd] at this
    have e : (strOfNums [48 + (k : Int) % 10]).size = 1 := rfl
    omega
  clear hd hq
  go_enter Tryd.func24, Tryd.ntmps24
  go_wp2_with fail
  go_region_with (first
    | (go_at_call 24; refine (IH.out _).mono ?_; rintro e w2 ⟨rfl, n2⟩)
    | (rw [conv_one _ _ (48 + (k : Int) % 10) (by simp [go_sem]; done)])
    | (rw [conv_one _ _ (48 + (k : Int) % 10) (n2.cell (by simp [go_sem]; done))])
    | fail)
  all_goals go_wp2
  all_goals go_ret
  all_goals exact ⟨by rw [HT.out]; rfl, (by repeat (first | with_reducible exact New.refl _ | with_reducible assumption | refine New.drewN ?_ _ | refine New.drew ?_ | refine New.alloc ?_ _ | refine New.setCell ?_ (by first | omega | (simp; omega) | (simp; done)) _ | (refine New.trans ?_ (by assumption))))⟩

theorem l1Num_num (w : World) (k : Nat) (h9 : k < 100) :
    Calls Tryd.prog 24 #[.int .i64 (k : Int)] w fun e w' => e = .returned (.string (numT k)) ∧ New w w' := by
  by_cases h : k < 10
  · exact l1Num_one w k h
  · exact l1Num_two w k (by omega) h9
theorem itoa_num (w : World) (k : Nat) (h9 : k < 100) :
    Calls Tryd.prog 30 #[.int .i64 (k : Int)] w fun e w' => e = .returned (.string (numT k)) ∧ New w w' :=
  (Tryd.strconv_Itoa_small k h9 w).mono fun _ _ ⟨h1, h2⟩ => ⟨h1, h2 ▸ New.refl _⟩
end Go.Proofs.YtknjobpdbbjeoaaDoor
