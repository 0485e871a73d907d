/- IsHeldBack: the model's and the program's. -/
import Derived.Test.YtchnnbkaiagpgaaTicks5
import Derived.Test.YtchnnbkaiagpgaaRr
namespace Go.Proofs.Ytchnnbkaiagpgaa
open Go.RowKit Go.Conc

/-- What is left behind k ticks of what has come and was held at first. -/
def leftK (l : List (Int × Int × Int)) (xs : List Int) : Nat → Int
  | 0 => heldS l
  | k + 1 => leftK l xs k + (xs[k]?.getD 0 - giveK l xs k)
theorem leftK_bd {l : List (Int × Int × Int)} {xs : List Int} (hl : RowOk l) (hf : FlowOk xs) (k : Nat) (hk : k ≤ xs.length) : -(7000 * (k : Int)) ≤ leftK l xs k ∧ leftK l xs k ≤ 6000 + 1000 * k := by
  induction k with
  | zero =>
    have := heldK_bd hl l.length (Nat.le_refl _)
    have := hl.2.1
    unfold leftK heldS
    omega
  | succ k ih =>
    have h1 := ih (by omega)
    have h2 := hf.2 k (by omega)
    have h3 := giveK_bd hl hf k (by omega)
    unfold leftK
    omega
def backB (l : List (Int × Int × Int)) (xs : List Int) : Bool := (List.range xs.length).all fun k => decide (0 ≤ leftK l xs (k + 1))
theorem backB_iff {l : List (Int × Int × Int)} {xs : List Int} : backB l xs = true ↔ ∀ k, k < xs.length → 0 ≤ leftK l xs (k + 1) := by
  unfold backB
  rw [List.all_eq_true]
  constructor
  · intro h k hk
    simpa using h k (List.mem_range.2 hk)
  · intro h k hk
    simpa using h k (List.mem_range.1 hk)

set_option maxRecDepth 100000 in
theorem sIsHeldBack_any (w : World) (aa : Option Addr) (n ca : Nat) (l : List (Int × Int × Int)) (ab : Option Addr) (m cb : Nat) (xs : List Int) (ha : Basins w aa n ca l) (hx : Ints w ab m cb xs) :
    Calls Try.prog 18 #[.slice aa n ca, .slice ab m cb] w fun e w' => e = .returned (.tuple #[.bool (askB l xs && backB l xs), .bool (askB l xs)]) ∧ New w w' := by
  have HM := Lib.hid hx.1
  have hmm := hx.2.2.1
  have HA := Lib.hid ha; clear ha
  have HX := Lib.hid hx; clear hx
  by_cases h : askB l xs = true
  · have HC := Lib.hid (askB_iff.1 h)
    have m60 : m ≤ 60 := by have := HC.out.2.1; have := HM.out; omega
    have AS := Lib.hid h
    go_enter Try.func18, Try.ntmps18
    go_wp2_with fail
    refine (weAsked_any _ _ _ _ l _ _ _ xs HA.out HX.out).mono ?_
    rintro e w1 ⟨rfl, n1⟩
    have N1 := Lib.hid n1; clear n1
    go_wp2_with fail
    refine (weHeld_any _ _ _ _ l (HA.out.new N1.out) HC.out.1).mono ?_
    rintro e w2 ⟨rfl, n2⟩
    have N2 := Lib.hid (N1.out.trans n2); clear n2
    go_wp2_with fail
    refine (weGo_any _ _ _ _ l _ _ _ xs (HA.out.new N2.out) (HX.out.new N2.out) HC.out.1 HC.out.2).mono ?_
    rintro e w3 ⟨ga, gc, ea, en, ec, sa, sc, ra, rc, rfl, o1, _, _, _, n3⟩
    have IG := Lib.hid o1.ints; clear o1
    have N3 := Lib.hid (N2.out.trans n3); clear n3
    go_wp2_with ((with_reducible (show wpList _ _ _ ({ dst := _, op := .field _ _ _, type := _, pos := _, after := _, guard := _ } :: _) _ _)); go_must (refine wpList_value_as rfl (.slice ga m gc) (by kernel_rfl) ?_))
    clear h
    go_loopw [6, 20] (fun y t wr => ∃ k : Nat, k ≤ m ∧ t = .int .i64 k ∧ y = .int .i64 (leftK l xs k) ∧ (∀ j, j < k → 0 ≤ leftK l xs (j + 1)) ∧ w3 = wr) (fun _ t _ => m - (intOf t).toNat)
    case atStart => exact ⟨0, Nat.zero_le _, rfl, rfl, fun j hj => absurd hj (by omega), rfl⟩
    case round =>
      obtain ⟨k, hk, rfl, rfl, hp, rfl⟩ := hrel
      have HP := Lib.hid hp; clear hp
      by_cases hlt : k < m
      · obtain ⟨b, o, rfl, hcl, _⟩ := IG.out.at hlt
        obtain ⟨b', o', rfl, hcx, _⟩ := (HX.out.new N3.out).at hlt
        have KX := Lib.hid (show k < xs.length by have := HM.out; omega)
        rw [givesTo_get _ _ _ _ hlt] at hcl
        have h1 := leftK_bd HC.out.1 HC.out.2 k (by have := KX.out; omega)
        have h2 := HC.out.2.2 k KX.out
        have h3 := giveK_bd HC.out.1 HC.out.2 k KX.out
        have E1 := Lib.hid (show leftK l xs (k + 1) = leftK l xs k + (xs[k]?.getD 0 - giveK l xs k) from rfl)
        by_cases hn : 0 ≤ leftK l xs k + (xs[k]?.getD 0 - giveK l xs k)
        · go_wp2_with fail
          go_roundw
          case rel =>
            refine ⟨k + 1, by omega, by go_num, rfl, fun j hj => ?_, by first | rfl | trivial⟩
            by_cases e : j = k
            · subst e; rw [E1.out]; exact hn
            · exact HP.out j (by omega)
          case measure => simp [intOf]; omega
        · have NB := Lib.hid (show backB l xs = false from bool_no fun hb => hn (by rw [← E1.out]; exact backB_iff.1 hb k KX.out))
          have hn' : leftK l xs k + (xs[k]?.getD 0 - giveK l xs k) < 0 := by omega
          go_wp2_with fail
          go_ret2
          exact ⟨by rw [AS.out, NB.out]; rfl, N3.out⟩
      · obtain rfl : k = m := by omega
        have NB := Lib.hid (show backB l xs = true from backB_iff.2 fun j hj => HP.out j (by have := HM.out; omega))
        go_wp2_with fail
        go_ret2
        exact ⟨by rw [AS.out, NB.out]; rfl, N3.out⟩
  · have hf := bool_no h
    have AS := Lib.hid hf
    go_enter Try.func18, Try.ntmps18
    go_wp2_with fail
    refine (weAsked_any _ _ _ _ l _ _ _ xs HA.out HX.out).mono ?_
    rintro e w1 ⟨rfl, n1⟩
    have N1 := Lib.hid n1; clear n1
    go_wp2_with fail
    go_ret2
    exact ⟨by rw [AS.out]; rfl, N1.out⟩

theorem sum_row (w : World) (l : List (Int × Int × Int)) (hl : RowOk l) : Calls Try.prog 57 #[rowV l] w fun e w' => e = .returned (.int .i64 (heldS l)) ∧ New w w' := by
  have hb : ∀ k, k ≤ 6 → 0 ≤ heldA (basA l) k ∧ heldA (basA l) k ≤ 1000000 := by
    intro k hk
    rw [heldA_eq]
    by_cases h : k ≤ l.length
    · have := heldK_bd hl k h
      omega
    · rw [heldK_past l k (by omega)]
      have := heldK_bd hl l.length (Nat.le_refl _)
      have := hl.2.1
      omega
  have h := sum_any w (basA l) l.length hb
  rw [heldA_eq, heldK_past l 6 hl.2.1] at h
  exact h

set_option maxRecDepth 100000 in
theorem iIsHeldBack_any (w : World) (aa : Option Addr) (n ca : Nat) (l : List (Int × Int × Int)) (ab : Option Addr) (m cb : Nat) (xs : List Int) (ha : Basins w aa n ca l) (hx : Ints w ab m cb xs) :
    Calls Try.prog 17 #[.slice aa n ca, .slice ab m cb] w fun e w' => e = .returned (.tuple #[.bool (askB l xs && backB l xs), .bool (askB l xs)]) ∧ New w w' := by
  have HN := Lib.hid ha.1
  have HM := Lib.hid hx.1
  have hmm := hx.2.2.1
  have HA := Lib.hid ha; clear ha
  have HX := Lib.hid hx; clear hx
  by_cases h : askB l xs = true
  · have HC := Lib.hid (askB_iff.1 h)
    have AS := Lib.hid h
    have HG := Lib.hid (show runM l xs = givesTo l xs m by unfold runM; rw [if_pos h, HM.out])
    have m60 : m ≤ 60 := by have := HC.out.2.1; have := HM.out; omega
    have r1 : 1 ≤ n := by have := HC.out.1.1; have := HN.out; omega
    have r6 : n ≤ 6 := by have := HC.out.1.2.1; have := HN.out; omega
    go_enter Try.func17, Try.ntmps17
    go_wp2_with fail
    refine (iRunRow_any _ _ _ _ l _ _ _ xs HA.out HX.out).mono ?_
    rintro e w1 ⟨ga, q, gc, rfl, o1, n1⟩
    rw [HG.out] at o1
    obtain rfl : q = m := by have := o1.1; rw [givesTo_length] at this; exact this
    have IG1 := Lib.hid o1.ints; clear o1
    have N1 := Lib.hid n1; clear n1
    go_wp2_with fail
    refine (stateOf_any _ _ _ _ l (HA.out.new N1.out) r1 r6).mono ?_
    rintro e w2 ⟨rfl, n2⟩
    have IG2 := Lib.hid (IG1.out.new n2)
    have N2 := Lib.hid (N1.out.trans n2); clear n2
    go_wp2_with fail
    refine (sum_row _ l HC.out.1).mono ?_
    rintro e w3 ⟨rfl, n3⟩
    have IG := Lib.hid (IG2.out.new n3)
    have N3 := Lib.hid (N2.out.trans n3); clear n3 IG1 IG2 r1 r6
    go_wp2_with fail
    clear h
    go_loopw [8, 24] (fun y t wr => ∃ k : Nat, k ≤ q ∧ t = .int .i64 k ∧ y = .int .i64 (leftK l xs k) ∧ (∀ j, j < k → 0 ≤ leftK l xs (j + 1)) ∧ w3 = wr) (fun _ t _ => q - (intOf t).toNat)
    case atStart => exact ⟨0, Nat.zero_le _, rfl, rfl, fun j hj => absurd hj (by omega), rfl⟩
    case round =>
      obtain ⟨k, hk, rfl, rfl, hp, rfl⟩ := hrel
      have HP := Lib.hid hp; clear hp
      by_cases hlt : k < q
      · obtain ⟨b, o, rfl, hcl, _⟩ := IG.out.at hlt
        obtain ⟨b', o', rfl, hcx, _⟩ := (HX.out.new N3.out).at hlt
        have KX := Lib.hid (show k < xs.length by have := HM.out; omega)
        rw [givesTo_get _ _ _ _ hlt] at hcl
        have h1 := leftK_bd HC.out.1 HC.out.2 k (by have := KX.out; omega)
        have h2 := HC.out.2.2 k KX.out
        have h3 := giveK_bd HC.out.1 HC.out.2 k KX.out
        have E1 := Lib.hid (show leftK l xs (k + 1) = leftK l xs k + (xs[k]?.getD 0 - giveK l xs k) from rfl)
        by_cases hn : 0 ≤ leftK l xs k + (xs[k]?.getD 0 - giveK l xs k)
        · go_wp2_with fail
          go_roundw
          case rel =>
            refine ⟨k + 1, by omega, by go_num, rfl, fun j hj => ?_, by first | rfl | trivial⟩
            by_cases e : j = k
            · subst e; rw [E1.out]; exact hn
            · exact HP.out j (by omega)
          case measure => simp [intOf]; omega
        · have NB := Lib.hid (show backB l xs = false from bool_no fun hb => hn (by rw [← E1.out]; exact backB_iff.1 hb k KX.out))
          have hn' : leftK l xs k + (xs[k]?.getD 0 - giveK l xs k) < 0 := by omega
          go_wp2_with fail
          go_ret2
          exact ⟨by rw [AS.out, NB.out]; rfl, N3.out⟩
      · obtain rfl : k = q := by omega
        have NB := Lib.hid (show backB l xs = true from backB_iff.2 fun j hj => HP.out j (by have := HM.out; omega))
        go_wp2_with fail
        go_ret2
        exact ⟨by rw [AS.out, NB.out]; rfl, N3.out⟩
  · have hf := bool_no h
    have AS := Lib.hid hf
    go_enter Try.func17, Try.ntmps17
    go_wp2_with fail
    refine (iRunRow_any _ _ _ _ l _ _ _ xs HA.out HX.out).mono ?_
    rintro e w1 ⟨ga, q, gc, rfl, o1, n1⟩
    rw [AS.out]
    go_wp2_with fail
    go_ret2
    exact ⟨by first | rfl | simp [AS.out], n1⟩
end Go.Proofs.Ytchnnbkaiagpgaa
