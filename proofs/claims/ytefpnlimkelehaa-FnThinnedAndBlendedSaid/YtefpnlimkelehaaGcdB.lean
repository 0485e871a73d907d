/- The greatest common divisor, the model's and the program's, of numbers of any size that fits. -/
import Derived.Test.YtefpnlimkelehaaLvl
import Derived.RegionTactic
namespace Go.Proofs.Ytefpnlimkelehaa
open Go.RowKit

theorem gcd_step (a b : Nat) : Nat.gcd b (a % b) = Nat.gcd a b := by
  rw [Nat.gcd_comm a b, Nat.gcd_rec b a, Nat.gcd_comm]
theorem natGcd_eq (n d : Int) : (Nat.gcd n.natAbs d.natAbs : Int) = (Int.gcd n d : Int) := rfl

/-- The model's. -/
theorem veCommonB_any (w : World) (a b : Nat) (ha : a ≤ 4611686018427387904) (hb : b ≤ 4611686018427387904) :
    Calls Try.prog 37 #[.int .i64 a, .int .i64 b] w fun e w' => e = .returned (.int .i64 (Nat.gcd a b : Nat)) ∧ New w w' := by
  go_enter Try.func37, Try.ntmps37
  go_wp2
  go_loopw [0, 1] (fun x y wr => ∃ a' b' : Nat, x = .int .i64 a' ∧ y = .int .i64 b' ∧ a' ≤ 4611686018427387904 ∧ b' ≤ 4611686018427387904 ∧ Nat.gcd a' b' = Nat.gcd a b ∧ New w wr) (fun _ y _ => (intOf y).toNat)
  case atStart => exact ⟨a, b, rfl, rfl, ha, hb, rfl, New.refl _⟩
  case round =>
    obtain ⟨a', b', rfl, rfl, h1, h2, hg, hn⟩ := hrel
    have HG := Lib.hid hg; clear hg
    have HN := Lib.hid hn; clear hn
    by_cases h0 : 0 < b'
    · have h3 : (0 : Int) < b' := by omega
      go_wp2
      go_region
      all_goals
        go_wp2
        go_roundw
        case rel => exact ⟨b', a' % b', rfl, by go_num, h2, by have := Nat.mod_lt a' h0; omega, by rw [gcd_step]; exact HG.out, HN.out.drew⟩
        case measure => have hm := Nat.mod_lt a' h0; simp [intOf]; omega
    · obtain rfl : b' = 0 := by omega
      go_wp2
      go_ret
      exact ⟨ret_int (by rw [← HG.out]; simp), HN.out⟩

/-- The program's. -/
theorem greatestDivisorB_any (w : World) (a b : Nat) (ha : a ≤ 4611686018427387904) (hb : b ≤ 4611686018427387904) :
    Calls Try.prog 45 #[.int .i64 a, .int .i64 b] w fun e w' => e = .returned (.int .i64 (Nat.gcd a b : Nat)) ∧ New w w' := by
  go_enter Try.func45, Try.ntmps45
  go_wp2
  go_loopw [0, 1] (fun x y wr => ∃ a' b' : Nat, x = .int .i64 a' ∧ y = .int .i64 b' ∧ a' ≤ 4611686018427387904 ∧ b' ≤ 4611686018427387904 ∧ Nat.gcd a' b' = Nat.gcd a b ∧ New w wr) (fun _ y _ => (intOf y).toNat)
  case atStart => exact ⟨a, b, rfl, rfl, ha, hb, rfl, New.refl _⟩
  case round =>
    obtain ⟨a', b', rfl, rfl, h1, h2, hg, hn⟩ := hrel
    have HG := Lib.hid hg; clear hg
    have HN := Lib.hid hn; clear hn
    by_cases h0 : 0 < b'
    · have h3 : (0 : Int) < b' := by omega
      have h4 : ((b' : Int) != 0) = true := by simp; omega
      go_wp2
      go_region
      all_goals
        go_wp2
        go_roundw
        case rel => exact ⟨b', a' % b', rfl, by go_num, h2, by have := Nat.mod_lt a' h0; omega, by rw [gcd_step]; exact HG.out, HN.out.drew⟩
        case measure => have hm := Nat.mod_lt a' h0; simp [intOf]; omega
    · obtain rfl : b' = 0 := by omega
      go_wp2
      go_ret
      exact ⟨ret_int (by rw [← HG.out]; simp), HN.out⟩

abbrev ratV (p : Int × Int) : Value := .agg #[.int .i64 p.1, .int .i64 p.2]

theorem tdiv_red1 {n d g : Int} (hg : g = (Int.gcd n d : Int)) (hp : 0 < g) : n.tdiv g = (red n d).1 := by
  have h := (red_mul n d).1
  rw [← hg] at h
  calc n.tdiv g = ((red n d).1 * g).tdiv g := by rw [h]
    _ = _ := Int.mul_tdiv_cancel _ (by omega)
theorem tdiv_red2 {n d g : Int} (hg : g = (Int.gcd n d : Int)) (hp : 0 < g) : d.tdiv g = (red n d).2 := by
  have h := (red_mul n d).2
  rw [← hg] at h
  calc d.tdiv g = ((red n d).2 * g).tdiv g := by rw [h]
    _ = _ := Int.mul_tdiv_cancel _ (by omega)
end Go.Proofs.Ytefpnlimkelehaa
