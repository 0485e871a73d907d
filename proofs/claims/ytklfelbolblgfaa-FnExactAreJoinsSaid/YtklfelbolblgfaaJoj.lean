/- AreJoins: the two functions. -/
import Derived.Test.YtklfelbolblgfaaJoi
namespace Go.Proofs.Ytklfelbolblgfaa
open Go.RowKit Go.IntWalk

set_option maxRecDepth 100000 in
theorem sAreJoins_any (w : World) (aa : Option Addr) (n ca : Nat) (T : List Tk) (ab : Option Addr) (m cb : Nat) (L : List (List Int)) (ha : Tanks w aa n ca T) (hb : IntSS w ab m cb L) :
    Calls Try.prog 29 #[.slice aa n ca, .slice ab m cb] w fun e w' => e = .returned (.tuple #[.bool (tksB T && jnB T.length L), .bool (tksB T)]) ∧ New w w' := by
  have HN := Lib.hid ha.1
  have HA := Lib.hid ha; clear ha
  have HB := Lib.hid hb; clear hb
  by_cases h : tksB T = true
  · have HT := Lib.hid h
    have hn : n ≤ 6 := by have := (tksB_iff.1 h).l6; have := HN.out; omega
    go_enter Try.func29, Try.ntmps29
    go_wp2_with fail
    refine (leTanks_any _ _ _ _ T HA.out).mono ?_
    rintro e w1 ⟨rfl, n1⟩
    rw [HT.out]
    have N1 := Lib.hid n1; clear n1
    go_wp2_with fail
    refine (leJoins_any _ _ _ _ n L (HB.out.new N1.out) hn).mono ?_
    rintro e w2 ⟨rfl, n2⟩
    have N2 := Lib.hid (N1.out.trans n2); clear n2
    go_wp2
    refine bodyPost_ret (v := .tuple #[.bool (jnB n L), .bool true]) (by simp [results, Try.results29, go_sem]) rfl ⟨by rw [HT.out, ← HN.out, Bool.true_and], N2.out⟩
  · have hf := bool_no h
    have HT := Lib.hid hf
    clear h hf
    go_enter Try.func29, Try.ntmps29
    go_wp2_with fail
    refine (leTanks_any _ _ _ _ T HA.out).mono ?_
    rintro e w1 ⟨rfl, n1⟩
    rw [HT.out]
    have N1 := Lib.hid n1; clear n1
    go_wp2
    refine bodyPost_ret (v := .tuple #[.bool false, .bool false]) (by simp [results, Try.results29, go_sem]) rfl ⟨by rw [HT.out, Bool.false_and], N1.out⟩

set_option maxRecDepth 100000 in
theorem iAreJoins_any (w : World) (aa : Option Addr) (n ca : Nat) (T : List Tk) (ab : Option Addr) (m cb : Nat) (L : List (List Int)) (ha : Tanks w aa n ca T) (hb : IntSS w ab m cb L) :
    Calls Try.prog 31 #[.slice aa n ca, .slice ab m cb] w fun e w' => e = .returned (.tuple #[.bool (tksB T && jnB T.length L), .bool (tksB T)]) ∧ New w w' := by
  have HN := Lib.hid ha.1
  have HA := Lib.hid ha; clear ha
  have HB := Lib.hid hb; clear hb
  by_cases h : tksB T = true
  · have HT := Lib.hid h
    have hn : n ≤ 6 := by have := (tksB_iff.1 h).l6; have := HN.out; omega
    go_enter Try.func31, Try.ntmps31
    go_wp2_with fail
    refine (iAreTanks_any _ _ _ _ T HA.out).mono ?_
    rintro e w1 ⟨rfl, n1⟩
    rw [HT.out]
    have N1 := Lib.hid n1; clear n1
    go_wp2_with fail
    refine (areJoins_any _ _ _ _ n L (HB.out.new N1.out) hn).mono ?_
    rintro e w2 ⟨rfl, n2⟩
    have N2 := Lib.hid (N1.out.trans n2); clear n2
    go_wp2
    refine bodyPost_ret (v := .tuple #[.bool (jnB n L), .bool true]) (by simp [results, Try.results31, go_sem]) rfl ⟨by rw [HT.out, ← HN.out, Bool.true_and], N2.out⟩
  · have hf := bool_no h
    have HT := Lib.hid hf
    clear h hf
    go_enter Try.func31, Try.ntmps31
    go_wp2_with fail
    refine (iAreTanks_any _ _ _ _ T HA.out).mono ?_
    rintro e w1 ⟨rfl, n1⟩
    rw [HT.out]
    have N1 := Lib.hid n1; clear n1
    go_wp2
    refine bodyPost_ret (v := .tuple #[.bool false, .bool false]) (by simp [results, Try.results31, go_sem]) rfl ⟨by rw [HT.out, Bool.false_and], N1.out⟩
end Go.Proofs.Ytklfelbolblgfaa
