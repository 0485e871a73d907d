/- Blends: the model's cross reduction. -/
import Derived.Test.YtefpnlimkelehaaBlend
namespace Go.Proofs.Ytefpnlimkelehaa
open Go.RowKit Go.IntWalk

/-- The product of the first k numbers. -/
def prN (U : List Nat) : Nat → Nat
  | 0 => 1
  | k + 1 => prN U k * U[k]?.getD 0
theorem prN_pos {U : List Nat} : ∀ {n : Nat}, (∀ j, j < n → 0 < U[j]?.getD 0) → 0 < prN U n
  | 0, _ => Nat.one_pos
  | n + 1, h => Nat.mul_pos (prN_pos fun j hj => h j (by omega)) (h n (by omega))
theorem prN_le {U : List Nat} {k : Nat} : ∀ {n : Nat}, (∀ j, j < k + n → 0 < U[j]?.getD 0) → prN U k ≤ prN U (k + n)
  | 0, _ => Nat.le_refl _
  | n + 1, h => Nat.le_trans (prN_le fun j hj => h j (by omega)) (Nat.le_mul_of_pos_right _ (h (k + n) (by omega)))
theorem prN_set_out {U : List Nat} {i x : Nat} : ∀ {n : Nat}, n ≤ i → prN (U.set i x) n = prN U n
  | 0, _ => rfl
  | n + 1, h => by
    unfold prN
    rw [prN_set_out (n := n) (by omega), List.getElem?_set, if_neg (by omega)]
theorem prN_set {U : List Nat} {i x k : Nat} (hi : i < U.length) (hx : U[i]?.getD 0 = x * k) : ∀ {n : Nat}, i < n → prN (U.set i x) n * k = prN U n
  | 0, h => by omega
  | n + 1, h => by
    unfold prN
    by_cases e : i = n
    · subst e
      rw [prN_set_out (Nat.le_refl _), List.getElem?_set, if_pos rfl, if_pos hi, hx]
      simp only [Option.getD_some]
      rw [Nat.mul_assoc]
    · rw [List.getElem?_set, if_neg e, ← prN_set hi hx (n := n) (by omega), Nat.mul_assoc, Nat.mul_comm (U[n]?.getD 0) k, ← Nat.mul_assoc]
theorem prN_cop {U : List Nat} {d : Nat} : ∀ {n : Nat}, (∀ j, j < n → Nat.gcd (U[j]?.getD 0) d = 1) → Nat.gcd (prN U n) d = 1
  | 0, _ => Nat.gcd_one_left _
  | n + 1, h => Nat.Coprime.mul_left (prN_cop fun j hj => h j (by omega)) (h n (by omega))
theorem prN_cop2 {U D : List Nat} {n m : Nat} (h : ∀ i j, i < n → j < m → Nat.gcd (U[i]?.getD 0) (D[j]?.getD 0) = 1) : Nat.gcd (prN U n) (prN D m) = 1 :=
  prN_cop fun i hi => by
    rw [Nat.gcd_comm]
    exact prN_cop fun j hj => by rw [Nat.gcd_comm]; exact h i j hi hj

def nat3 (U : List Nat) : List Int := U.map fun n : Nat => (n : Int)
theorem nat3_get (U : List Nat) (j : Nat) : (nat3 U)[j]?.getD 0 = ((U[j]?.getD 0 : Nat) : Int) := by
  unfold nat3
  rw [List.getElem?_map]
  cases U[j]? <;> rfl
theorem nat3_set (U : List Nat) (j x : Nat) : (nat3 U).set j (x : Int) = nat3 (U.set j x) := by
  unfold nat3
  rw [List.map_set]

/-- A number that is not too great, else 0. -/
def cap1B (n : Nat) : Bool := decide (n ≤ 1000000000)
def cap1 (n : Nat) : Int := if cap1B n = true then (n : Int) else 0
theorem cap1_yes {n : Nat} (h : n ≤ 1000000000) : cap1 n = (n : Int) ∧ cap1B n = true := by
  have e : cap1B n = true := decide_eq_true h
  exact ⟨by unfold cap1; rw [if_pos e], e⟩
theorem cap1_no {n : Nat} (h : ¬ n ≤ 1000000000) : cap1 n = 0 ∧ cap1B n = false := by
  have e : cap1B n = false := decide_eq_false h
  exact ⟨by unfold cap1; rw [e]; rfl, e⟩

/-- Numbers that are at least 1 and not too great. -/
def Pos3 (U : List Nat) : Prop := U.length = 3 ∧ ∀ j, j < 3 → 0 < U[j]?.getD 0 ∧ U[j]?.getD 0 ≤ 4611686018427387904
/-- Where the reduction stands: the pairs ahead of (i, j) have no common divisor. -/
structure Crs (X Y : Nat) (i j : Nat) (U D : List Nat) : Prop where
  u : Pos3 U
  d : Pos3 D
  eq : prN U 3 * Y = X * prN D 3
  cop : ∀ a b, a < 3 → b < 3 → (a < i ∨ (a = i ∧ b < j)) → Nat.gcd (U[a]?.getD 0) (D[b]?.getD 0) = 1
theorem Crs.row {X Y i : Nat} {U D : List Nat} (h : Crs X Y i 3 U D) : Crs X Y (i + 1) 0 U D :=
  ⟨h.u, h.d, h.eq, fun a b ha hb hc => h.cop a b ha hb (by omega)⟩
theorem set_get (U : List Nat) (i x a : Nat) (hi : i < U.length) : (U.set i x)[a]?.getD 0 = if a = i then x else U[a]?.getD 0 := by
  by_cases e : a = i
  · subst e; simp [hi]
  · rw [List.getElem?_set, if_neg (fun h => e h.symm), if_neg e]
theorem Crs.step {X Y i j : Nat} {U D : List Nat} (h : Crs X Y i j U D) (hi : i < 3) (hj : j < 3) :
    Crs X Y i (j + 1) (U.set i (U[i]?.getD 0 / Nat.gcd (U[i]?.getD 0) (D[j]?.getD 0))) (D.set j (D[j]?.getD 0 / Nat.gcd (U[i]?.getD 0) (D[j]?.getD 0))) := by
  obtain ⟨hu1, hu2⟩ := h.u
  obtain ⟨hd1, hd2⟩ := h.d
  obtain ⟨s1, s2, c, p⟩ := gcd_parts (u := U[i]?.getD 0) (v := D[j]?.getD 0) (hu2 i hi).1
  have q1 := Nat.div_le_self (U[i]?.getD 0) (Nat.gcd (U[i]?.getD 0) (D[j]?.getD 0))
  have q2 := Nat.div_le_self (D[j]?.getD 0) (Nat.gcd (U[i]?.getD 0) (D[j]?.getD 0))
  have r1 := pos_part (hu2 i hi).1 s1
  have r2 := pos_part (hd2 j hj).1 s2
  have e1 := prN_set (U := U) (i := i) (by omega) s1 (n := 3) hi
  have e2 := prN_set (U := D) (i := j) (by omega) s2 (n := 3) hj
  generalize Nat.gcd (U[i]?.getD 0) (D[j]?.getD 0) = k at *
  generalize U[i]?.getD 0 / k = x at *
  generalize D[j]?.getD 0 / k = y at *
  refine ⟨⟨by simpa using hu1, fun a ha => ?_⟩, ⟨by simpa using hd1, fun b hb => ?_⟩, ?_, fun a b ha hb hc => ?_⟩
  · rw [set_get _ _ _ _ (by omega)]
    split
    · have := (hu2 i hi).2; omega
    · exact hu2 a ha
  · rw [set_get _ _ _ _ (by omega)]
    split
    · have := (hd2 j hj).2; omega
    · exact hd2 b hb
  · have he := h.eq
    rw [← e1, ← e2] at he
    generalize prN (U.set i x) 3 = P at *
    generalize prN (D.set j y) 3 = Q at *
    have : (P * Y) * k = (X * Q) * k := by rw [Nat.mul_right_comm, he, Nat.mul_assoc]
    exact Nat.eq_of_mul_eq_mul_right p this
  · rw [set_get _ _ _ _ (by omega), set_get _ _ _ _ (by omega)]
    by_cases ea : a = i
    · subst ea
      rw [if_pos rfl]
      by_cases eb : b = j
      · subst eb; rw [if_pos rfl]; exact c
      · rw [if_neg eb]
        exact cop_sub (h.cop a b ha hb (by omega)) ⟨_, s1⟩ (Nat.dvd_refl _)
    · rw [if_neg ea]
      by_cases eb : b = j
      · subst eb; rw [if_pos rfl]
        exact cop_sub (h.cop a b ha hb (by omega)) (Nat.dvd_refl _) ⟨_, s2⟩
      · rw [if_neg eb]
        exact h.cop a b ha hb (by omega)
theorem Crs.done {X Y j : Nat} {U D : List Nat} (h : Crs X Y 3 j U D) (hY : 0 < Y) : red (X : Int) (Y : Int) = (((prN U 3 : Nat) : Int), ((prN D 3 : Nat) : Int)) := by
  have hd := prN_pos (U := D) (n := 3) fun j hj => (h.d.2 j hj).1
  refine red_unique (by omega) (by omega) ?_ ?_
  · show Nat.gcd _ _ = 1
    exact prN_cop2 fun i j hi hj => h.cop i j hi hj (.inl hi)
  · exact_mod_cast h.eq

set_option maxRecDepth 100000 in
theorem saProduct_any (w : World) (ao : Option Addr) (cap : Nat) (U : List Nat) (hU : Pos3 U) (ha : Ints w ao 3 cap (nat3 U)) :
    Calls Try.prog 42 #[.slice ao 3 cap] w fun e w' => e = .returned (.tuple #[.int .i64 (cap1 (prN U 3)), .bool (cap1B (prN U 3))]) ∧ New w w' := by
  have HA := Lib.hid ha; clear ha
  have HU := Lib.hid hU; clear hU
  go_enter Try.func42, Try.ntmps42
  go_wp2
  go_loopw [4, 9] (fun x i wr => ∃ k : Nat, k ≤ 3 ∧ i = .int .i64 (k : Int) ∧ x = .int .i64 ((prN U k : Nat) : Int) ∧ prN U k ≤ 1000000000 ∧ New w wr) (fun _ i _ => 3 - (intOf i).toNat)
  case atStart => exact ⟨0, by omega, rfl, rfl, show 1 ≤ 1000000000 by omega, (by repeat (first | with_reducible exact New.refl _ | with_reducible assumption | refine New.drewN ?_ _ | refine New.drew ?_ | refine New.alloc ?_ _ | refine New.setCell ?_ (by first | omega | (simp; omega) | (simp; done)) _ | (refine New.trans ?_ (by assumption))))⟩
  case round =>
    obtain ⟨k, hk, rfl, rfl, hle, hn⟩ := hrel
    have HN := Lib.hid hn; clear hn
    by_cases hlt : (k : Int) < 3
    · have hk3 : k < 3 := by omega
      obtain ⟨b, o, rfl, g, _⟩ := (HA.out.new HN.out).at hk3
      rw [nat3_get] at g
      have u1 := (HU.out.2 k hk3).1
      have u2 := (HU.out.2 k hk3).2
      have hp : 0 < prN U k := prN_pos fun j hj => (HU.out.2 j (by omega)).1
      have HS := Lib.hid (show prN U (k + 1) = prN U k * U[k]?.getD 0 from rfl)
      have HL := Lib.hid (prN_le (U := U) (k := k + 1) (n := 3 - (k + 1)) fun j hj => (HU.out.2 j (by omega)).1)
      rw [show k + 1 + (3 - (k + 1)) = 3 by omega] at HL
      obtain ⟨x, hx⟩ : ∃ x, x = U[k]?.getD 0 := ⟨_, rfl⟩
      rw [← hx] at g u1 u2 HS
      obtain ⟨p, hp'⟩ : ∃ p, p = prN U k := ⟨_, rfl⟩
      rw [← hp'] at hp hle HS ⊢
      obtain ⟨q, hq⟩ : ∃ q, q = 1000000000 / p := ⟨_, rfl⟩
      have ql := Nat.div_le_self 1000000000 p
      rw [← hq] at ql
      have iq : x ≤ q ↔ x * p ≤ 1000000000 := by rw [hq]; exact Nat.le_div_iff_mul_le hp
      have e1 : (1000000000 : Int) / (p : Int) = (q : Int) := by rw [hq, Int.natCast_ediv]; rfl
      have p0 : ¬ (p : Int) = 0 := by omega
      clear hx hp' hq
      by_cases g1 : x ≤ q
      · have m1 := iq.1 g1
        have g1' : ¬ (x : Int) > (q : Int) := by omega
        have m2 : p * x ≤ 1000000000 := by rw [Nat.mul_comm]; exact m1
        have m3 : (p : Int) * (x : Int) ≤ 1000000000 := by omega
        have m4 : 0 ≤ (p : Int) * (x : Int) := by omega
        clear iq m1 g1
        go_wp2
        go_roundw
        case rel => exact ⟨k + 1, by omega, by go_num, by rw [HS.out]; push_cast; rfl, by rw [HS.out]; exact m2, by have := HN.out; (repeat (first | with_reducible exact New.refl _ | with_reducible assumption | refine New.drewN ?_ _ | refine New.drew ?_ | refine New.alloc ?_ _ | refine New.setCell ?_ (by first | omega | (simp; omega) | (simp; done)) _ | (refine New.trans ?_ (by assumption))))⟩
        case measure => simp [intOf]; omega
      · have g1' : (x : Int) > (q : Int) := by omega
        have HF := Lib.hid (show ¬ prN U 3 ≤ 1000000000 from fun h => g1 (iq.2 (by have := HL.out; rw [HS.out] at this; rw [Nat.mul_comm]; omega)))
        clear iq g1
        go_wp2
        go_ret2
        exact ⟨by rw [(cap1_no HF.out).1, (cap1_no HF.out).2]; rfl, by have := HN.out; (repeat (first | with_reducible exact New.refl _ | with_reducible assumption | refine New.drewN ?_ _ | refine New.drew ?_ | refine New.alloc ?_ _ | refine New.setCell ?_ (by first | omega | (simp; omega) | (simp; done)) _ | (refine New.trans ?_ (by assumption))))⟩
    · obtain rfl : k = 3 := by omega
      have HT := Lib.hid hle; clear hle
      go_wp2
      go_ret2
      exact ⟨by rw [(cap1_yes HT.out).1, (cap1_yes HT.out).2]; rfl, by have := HN.out; (repeat (first | with_reducible exact New.refl _ | with_reducible assumption | refine New.drewN ?_ _ | refine New.drew ?_ | refine New.alloc ?_ _ | refine New.setCell ?_ (by first | omega | (simp; omega) | (simp; done)) _ | (refine New.trans ?_ (by assumption))))⟩

abbrev pairV (s z a b : Int) : Value := .agg #[.int .i64 s, .int .i64 z, .int .i64 a, .int .i64 b]

theorem own3 (w : World) (a b c : Nat) : Own (w.alloc (.cells #[.int .i64 (a : Int), .int .i64 (b : Int), .int .i64 (c : Int)] 3)) w.heap.size (w.heap.size + 1) (some ⟨w.heap.size, 0, none⟩) 3 3 (nat3 [a, b, c]) := by
  refine ⟨rfl, by omega, by omega, .inr ⟨w.heap.size, fun j => (#[.int .i64 (a : Int), .int .i64 (b : Int), .int .i64 (c : Int)] : Array Value)[j]?.getD undef, rfl, by omega, by omega, ⟨_, heap_alloc_new _ _, rfl, fun i hi => ?_⟩, fun j hj => ?_⟩⟩
  · match i, hi with
    | 0, _ => rfl
    | 1, _ => rfl
    | 2, _ => rfl
  · match j, hj with
    | 0, _ => rfl
    | 1, _ => rfl
    | 2, _ => rfl

set_option maxRecDepth 100000 in
set_option maxHeartbeats 4000000 in
theorem saCross_any (w : World) (s1 s2 : Int) (A C p g q : Nat) (hA : 0 < A ∧ A ≤ 4611686018427387904) (hC : 0 < C ∧ C ≤ 4611686018427387904) (hp : 0 < p ∧ p ≤ 4611686018427387904) (hg : 0 < g ∧ g ≤ 4611686018427387904) (hq : 0 < q ∧ q ≤ 4611686018427387904) :
    Calls Try.prog 32 #[pairV s1 (C : Int) (p : Int) (g : Int), pairV s2 (A : Int) (g : Int) (q : Int)] w fun e w' => ∃ P Q : Nat, red ((A : Int) * (p : Int)) ((C : Int) * (q : Int)) = ((P : Int), (Q : Int)) ∧ e = .returned (.tuple #[.int .i64 (cap1 P), .int .i64 (cap1 Q), .bool (cap1B P && cap1B Q)]) ∧ New w w' := by
  obtain ⟨X, hX⟩ : ∃ X, X = A * p * g := ⟨_, rfl⟩
  obtain ⟨Y, hY⟩ : ∃ Y, Y = C * g * q := ⟨_, rfl⟩
  have hYp : 0 < Y := by rw [hY]; exact Nat.mul_pos (Nat.mul_pos hC.1 hg.1) hq.1
  have HE := Lib.hid (show red ((A : Int) * (p : Int)) ((C : Int) * (q : Int)) = red (X : Int) (Y : Int) by
    refine red_eq (Int.mul_pos (by omega) (by omega)) (by omega) ?_
    rw [hX, hY]
    push_cast
    grind)
  have H0 : Crs X Y 0 0 [A, p, g] [C, g, q] := by
    refine ⟨⟨rfl, fun j hj => ?_⟩, ⟨rfl, fun j hj => ?_⟩, ?_, fun a b _ _ h => by omega⟩
    · match j, hj with
      | 0, _ => exact hA
      | 1, _ => exact hp
      | 2, _ => exact hg
    · match j, hj with
      | 0, _ => exact hC
      | 1, _ => exact hg
      | 2, _ => exact hq
    · rw [hX, hY]
      simp [prN]
  have HYp := Lib.hid hYp
  have H0 := Lib.hid H0
  clear hX hY hYp hA hC hp hg hq
  obtain ⟨BU, hBU⟩ : ∃ B, B = w.heap.size + 1 + 1 := ⟨_, rfl⟩
  obtain ⟨BD, hBD⟩ : ∃ B, B = w.heap.size + 1 + 1 + 1 := ⟨_, rfl⟩
  have hlt : BU < BD := by omega
  have hwB : w.heap.size ≤ BU := by omega
  go_enter Try.func32, Try.ntmps32
  go_wp2
  have OU0 := Lib.hid ((own3 ((w.alloc (.cells #[.int .i64 s1, .int .i64 C, .int .i64 p, .int .i64 g] 60)).alloc (.cells #[.int .i64 s2, .int .i64 A, .int .i64 g, .int .i64 q] 60)) A p g).new ((New.refl _).alloc (.cells #[.int .i64 (C : Int), .int .i64 (g : Int), .int .i64 (q : Int)] 3)))
  have OD0 := Lib.hid (own3 (((w.alloc (.cells #[.int .i64 s1, .int .i64 C, .int .i64 p, .int .i64 g] 60)).alloc (.cells #[.int .i64 s2, .int .i64 A, .int .i64 g, .int .i64 q] 60)).alloc (.cells #[.int .i64 (A : Int), .int .i64 (p : Int), .int .i64 (g : Int)] 3)) C g q)
  have N0 := Lib.hid (show New w ((((w.alloc (.cells #[.int .i64 s1, .int .i64 C, .int .i64 p, .int .i64 g] 60)).alloc (.cells #[.int .i64 s2, .int .i64 A, .int .i64 g, .int .i64 q] 60)).alloc (.cells #[.int .i64 (A : Int), .int .i64 (p : Int), .int .i64 (g : Int)] 3)).alloc (.cells #[.int .i64 (C : Int), .int .i64 (g : Int), .int .i64 (q : Int)] 3)) from (by repeat (first | with_reducible exact New.refl _ | with_reducible assumption | refine New.drewN ?_ _ | refine New.drew ?_ | refine New.alloc ?_ _ | refine New.setCell ?_ (by first | omega | (simp; omega) | (simp; done)) _ | (refine New.trans ?_ (by assumption)))))
  obtain ⟨v0, hv0⟩ : ∃ v, v = (((w.alloc (.cells #[.int .i64 s1, .int .i64 C, .int .i64 p, .int .i64 g] 60)).alloc (.cells #[.int .i64 s2, .int .i64 A, .int .i64 g, .int .i64 q] 60)).alloc (.cells #[.int .i64 (A : Int), .int .i64 (p : Int), .int .i64 (g : Int)] 3)).alloc (.cells #[.int .i64 (C : Int), .int .i64 (g : Int), .int .i64 (q : Int)] 3) := ⟨_, rfl⟩
  simp only [World.size_alloc] at OU0 OD0
  rw [← hv0, ← hBU] at OU0
  rw [← hv0, ← hBD] at OD0
  rw [← hv0] at N0
  rw [← hv0, ← hBD, ← hBU]
  clear hv0 hBD hBU
  go_loopw [38] (fun x wr => ∃ (i : Nat) (U D : List Nat), i ≤ 3 ∧ x = .int .i64 (i : Int) ∧ Crs X Y i 0 U D ∧ Own wr BU (BU + 1) (some ⟨BU, 0, none⟩) 3 3 (nat3 U) ∧ Own wr BD (BD + 1) (some ⟨BD, 0, none⟩) 3 3 (nat3 D) ∧ New w wr) (fun x _ => 3 - (intOf x).toNat)
  case atStart => exact ⟨0, _, _, by omega, rfl, H0.out, OU0.out, OD0.out, N0.out⟩
  case round =>
    obtain ⟨i, U, D, hi, rfl, hc, ou, od, hn⟩ := hrel
    have HC := Lib.hid hc; clear hc
    have OU := Lib.hid ou; clear ou
    have OD := Lib.hid od; clear od
    have HN := Lib.hid hn; clear hn
    clear H0 OU0 OD0 N0
    obtain ⟨wo, hwo⟩ : ∃ wo, wo = wr := ⟨_, rfl⟩
    subst hwo
    by_cases hlt3 : (i : Int) < 3
    · have hi3 : i < 3 := by omega
      go_wp2
      go_loopw [43] (fun x wr => ∃ (j : Nat) (U D : List Nat), j ≤ 3 ∧ x = .int .i64 (j : Int) ∧ Crs X Y i j U D ∧ Own wr BU (BU + 1) (some ⟨BU, 0, none⟩) 3 3 (nat3 U) ∧ Own wr BD (BD + 1) (some ⟨BD, 0, none⟩) 3 3 (nat3 D) ∧ New w wr) (fun x _ => 3 - (intOf x).toNat)
      case atStart => exact ⟨0, _, _, by omega, rfl, HC.out, OU.out, OD.out, HN.out⟩
      case round =>
        obtain ⟨j, U, D, hj, rfl, hc, ou, od, hn⟩ := hrel
        clear HC OU OD HN
        have HC := Lib.hid hc
        have OU := Lib.hid ou
        have OD := Lib.hid od
        have HN := Lib.hid hn; clear hn
        by_cases hltj : (j : Int) < 3
        · have hj3 : j < 3 := by omega
          obtain ⟨_, ha, _, _, zU, ru⟩ := ou.row (j := i) hi3
          obtain ⟨_, hb, _, _, zD, rd⟩ := od.row (j := j) hj3
          cases ha
          cases hb
          obtain ⟨cu, fu⟩ := ru i hi3
          obtain ⟨cd, fd⟩ := rd j hj3
          rw [nat3_get] at cu cd
          clear ru rd ou od
          have u1 := (hc.u.2 i hi3)
          have d1 := (hc.d.2 j hj3)
          have HS := Lib.hid (hc.step hi3 hj3)
          have gp := (gcd_parts (u := U[i]?.getD 0) (v := D[j]?.getD 0) u1.1).2.2.2
          obtain ⟨u, hu⟩ : ∃ u, u = U[i]?.getD 0 := ⟨_, rfl⟩
          obtain ⟨d, hd⟩ : ∃ d, d = D[j]?.getD 0 := ⟨_, rfl⟩
          rw [← hu, ← hd] at HS gp
          rw [← hu] at cu u1
          rw [← hd] at cd d1
          clear hu hd hc
          obtain ⟨k, hk⟩ : ∃ k, Nat.gcd u d = k := ⟨_, rfl⟩
          rw [hk] at HS gp
          have HK := Lib.hid hk; clear hk
          obtain ⟨u1, u2⟩ := u1
          obtain ⟨d1, d2⟩ := d1
          have l1 := Nat.div_le_self u k
          have l2 := Nat.div_le_self d k
          obtain ⟨x, hx⟩ : ∃ x, x = u / k := ⟨_, rfl⟩
          obtain ⟨y, hy⟩ : ∃ y, y = d / k := ⟨_, rfl⟩
          rw [← hx] at HS l1
          rw [← hy] at HS l2
          have e1 : (u : Int) / (k : Int) = (x : Int) := by rw [hx, Int.natCast_ediv]
          have e2 : (d : Int) / (k : Int) = (y : Int) := by rw [hy, Int.natCast_ediv]
          have k0 : ¬ (k : Int) = 0 := by omega
          clear hx hy
          go_wp2
          go_quiet (first | (go_at_call 37; exact Calls.quiet_of (veCommonQ _ u d k u2 d2 HK.out)))
          go_wp2
          go_roundw
          case rel =>
            refine ⟨j + 1, _, _, by omega, by go_num, HS.out, ?_, ?_, ?_⟩
            · rw [← nat3_set]
              exact ((OU.out.new ((New.refl _).drewN _)).store hi3 _).setCell (.inr (by simp; omega)) _
            · rw [← nat3_set]
              exact ((OD.out.new ((New.refl _).drewN _)).setCell (.inl (by simp; omega)) _).store hj3 _
            · have := HN.out
              (repeat (first | with_reducible exact New.refl _ | with_reducible assumption | refine New.drewN ?_ _ | refine New.drew ?_ | refine New.alloc ?_ _ | refine New.setCell ?_ (by first | omega | (simp; omega) | (simp; done)) _ | (refine New.trans ?_ (by assumption))))
          case measure => simp [intOf]; omega
        · obtain rfl : j = 3 := by omega
          go_wp2
          go_roundw
          case rel => exact ⟨i + 1, U, D, by omega, by go_num, HC.out.row, OU.out, OD.out, HN.out⟩
          case measure => simp [intOf]; omega
    · obtain rfl : i = 3 := by omega
      have HD := Lib.hid (HC.out.done HYp.out)
      have pu := Lib.hid HC.out.u
      have pd := Lib.hid HC.out.d
      go_wp2_with fail
      refine (saProduct_any _ _ _ U pu.out OU.out.ints).mono ?_
      rintro e w1 ⟨rfl, n1⟩
      go_wp2_with fail
      refine (saProduct_any _ _ _ D pd.out (OD.out.ints.new n1)).mono ?_
      rintro e w2 ⟨rfl, n2⟩
      have N2 := Lib.hid ((HN.out.trans n1).trans n2); clear n1 n2
      obtain ⟨P, hP⟩ : ∃ P, P = prN U 3 := ⟨_, rfl⟩
      obtain ⟨Q, hQ⟩ : ∃ Q, Q = prN D 3 := ⟨_, rfl⟩
      rw [← hP, ← hQ] at HD
      rw [← hP, ← hQ]
      clear hP hQ
      obtain ⟨bP, hbP⟩ : ∃ b, b = cap1B P := ⟨_, rfl⟩
      obtain ⟨bQ, hbQ⟩ : ∃ b, b = cap1B Q := ⟨_, rfl⟩
      rw [← hbP, ← hbQ]
      have HBP := Lib.hid hbP.symm
      have HBQ := Lib.hid hbQ.symm
      clear hbP hbQ
      cases bP
      all_goals
        go_wp2
        refine bodyPost_ret (v := .tuple #[.int .i64 (cap1 P), .int .i64 (cap1 Q), .bool (cap1B P && cap1B Q)]) (by rw [HBP.out, HBQ.out]; simp [results, Try.results32, go_sem]) rfl ⟨P, Q, HE.out.trans HD.out, rfl, ?_⟩
        have := N2.out
        (repeat (first | with_reducible exact New.refl _ | with_reducible assumption | refine New.drewN ?_ _ | refine New.drew ?_ | refine New.alloc ?_ _ | refine New.setCell ?_ (by first | omega | (simp; omega) | (simp; done)) _ | (refine New.trans ?_ (by assumption))))
end Go.Proofs.Ytefpnlimkelehaa
