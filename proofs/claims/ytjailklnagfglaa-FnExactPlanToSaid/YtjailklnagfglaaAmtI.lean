/- The plan behind which an amount is measured: the model's. -/
import Derived.Test.YtjailklnagfglaaWayS
import Derived.Test.YtjailklnagfglaaLayI
namespace Go.Proofs.Ytjailklnagfglaa
open Go.RowKit Go.Maps

def amtK (L : List Node) (x : Int) (k : Nat) : Bool := decide (x ∈ (L[k]?.getD dN).h)
/-- The first of the first n at which it is measured, or n. -/
def firstK (L : List Node) (x : Int) : Nat → Nat
  | 0 => 0
  | n + 1 => if firstK L x n < n then firstK L x n else if amtK L x n = true then n else n + 1
theorem firstK_le (L : List Node) (x : Int) (n : Nat) : firstK L x n ≤ n := by
  induction n with
  | zero => exact Nat.le_refl _
  | succ n ih => unfold firstK; split
                 · omega
                 · split <;> omega
theorem firstK_none {L : List Node} {x : Int} {n : Nat} (h : ∀ j, j < n → amtK L x j = false) : firstK L x n = n := by
  induction n with
  | zero => rfl
  | succ n ih =>
    have q := ih fun j hj => h j (by omega)
    unfold firstK
    rw [q, if_neg (by omega), h n (by omega)]
    simp
theorem firstK_at {L : List Node} {x : Int} {k : Nat} (hk : amtK L x k = true) (h : ∀ j, j < k → amtK L x j = false) {n : Nat} (hn : k < n) : firstK L x n = k := by
  induction n with
  | zero => omega
  | succ n ih =>
    by_cases e : k < n
    · have q := ih e
      unfold firstK
      rw [q, if_pos e]
    · obtain rfl : k = n := by omega
      have q := firstK_none h
      unfold firstK
      rw [q, if_neg (by omega), if_pos hk]
def amtB' (S H : List Int) (x : Int) (cl : Bool) : Bool := countB S H cl && inB 0 60 x
def ptaL (E : List Node) (x : Int) : List (Int × Int) × Bool := if firstK E x E.length < E.length then (wayN E (firstK E x E.length), true) else ([], false)
def ptaM (S H : List Int) (x : Int) (cl : Bool) : List (Int × Int) × Bool := if amtB' S H x cl = true then ptaL (endN S H cl 3000) x else ([], false)
theorem ptaM_yes {S H : List Int} {x : Int} {cl : Bool} (h : amtB' S H x cl = true) : ptaM S H x cl = ptaL (endN S H cl 3000) x := by simp [ptaM, h]
theorem ptaM_no {S H : List Int} {x : Int} {cl : Bool} (h : amtB' S H x cl = false) : ptaM S H x cl = ([], false) := by simp [ptaM, h]
theorem ptaL_at {E : List Node} {x : Int} {k : Nat} (hk : amtK E x k = true) (h : ∀ j, j < k → amtK E x j = false) (hn : k < E.length) : ptaL E x = (wayN E k, true) := by
  unfold ptaL
  rw [firstK_at hk h hn, if_pos hn]
theorem ptaL_none {E : List Node} {x : Int} (h : ∀ j, j < E.length → amtK E x j = false) : ptaL E x = ([], false) := by
  unfold ptaL
  rw [firstK_none h, if_neg (by omega)]
theorem ptaL_small {S H : List Int} {E : List Node} {x : Int} (hf : Found S H E) : (ptaL E x).1.length ≤ E.length := by
  unfold ptaL
  split
  · rename_i h
    exact Nat.le_trans (wayN_small hf h) (by omega)
  · simp
theorem pta_small {ok : Bool} {S H : List Int} {cl : Bool} {most : Nat} {x : Int} (hg : ok = true → (goodB S H && fewB S H cl most) = true) : (if ok = true then ptaL (endN S H cl most) x else (([] : List (Int × Int)), false)).1.length ≤ most := by
  cases ok
  · simp
  · have h := hg rfl
    obtain ⟨h1, h2⟩ := goodfew h
    rw [if_pos rfl]
    exact Nat.le_trans (ptaL_small (endN_found cl most h1)) h2
theorem amtB'_count {S H : List Int} {x : Int} {cl : Bool} (h : amtB' S H x cl = true) : countB S H cl = true ∧ inB 0 60 x = true := by
  unfold amtB' at h
  rwa [Bool.and_eq_true] at h
theorem ptaM_small (S H : List Int) (x : Int) (cl : Bool) : (ptaM S H x cl).1.length ≤ 1048576 := Nat.le_trans (pta_small (ok := amtB' S H x cl) (most := 3000) fun h => (amtB'_count h).1) (by omega)

set_option maxRecDepth 100000 in
set_option maxHeartbeats 4000000 in
theorem sPlanToAmount_any (w : World) (aa ab : Option Addr) (n m ca cb : Nat) (S H : List Int) (x : Int) (cl : Bool) (h1 : Ints w aa n ca S) (h2 : Ints w ab m cb H) :
    Calls Try.prog 23 #[.agg #[.slice aa n ca, .slice ab m cb], .int .i64 x, .bool cl] w (RetP w (ptaM S H x cl).1 (ptaM S H x cl).2) := by
  have HA := Lib.hid h1; clear h1
  have HB := Lib.hid h2; clear h2
  obtain ⟨z, hz⟩ : ∃ z, z = ptaM S H x cl := ⟨_, rfl⟩
  rw [← hz]
  have HZ := Lib.hid hz; clear hz
  go_enter Try.func23, Try.ntmps23
  go_wp2_with fail
  refine (plAsked_any _ _ _ _ _ _ _ S H cl (HA.out.new (by repeat (first | with_reducible exact New.refl _ | with_reducible assumption | refine New.drewN ?_ _ | refine New.drew ?_ | refine New.alloc ?_ _ | refine New.setCell ?_ (by first | omega | (simp; omega) | (simp; done)) _ | (refine New.trans ?_ (by assumption))))) (HB.out.new (by repeat (first | with_reducible exact New.refl _ | with_reducible assumption | refine New.drewN ?_ _ | refine New.drew ?_ | refine New.alloc ?_ _ | refine New.setCell ?_ (by first | omega | (simp; omega) | (simp; done)) _ | (refine New.trans ?_ (by assumption)))))).mono ?_
  rintro e w1 ⟨n1, h⟩
  have N1 := Lib.hid (show New w w1 from New.trans (by repeat (first | with_reducible exact New.refl _ | with_reducible assumption | refine New.drewN ?_ _ | refine New.drew ?_ | refine New.alloc ?_ _ | refine New.setCell ?_ (by first | omega | (simp; omega) | (simp; done)) _ | (refine New.trans ?_ (by assumption)))) n1); clear n1
  rcases h with ⟨hc, E, hE, R, base, O, va, vf, vm, vr, vo, P, Q, rfl, rc⟩ | ⟨hc, p, rfl⟩
  · obtain ⟨hG, hl⟩ := countB_good hc
    have hfd := endN_found cl 3000 hG
    rw [← hE] at hl hfd
    have FD := Lib.hid hfd
    cases hx : inB 0 60 x
    case false =>
      have ZE := Lib.hid (show z = ([], false) from by rw [HZ.out, ptaM_no (by unfold amtB'; rw [hx, Bool.and_false])])
      have HX := Lib.hid hx
      clear hx hE hc rc hG hl hfd
      go_wp2_with fail
      refine (plAmount_any _ x).mono ?_
      rintro e w2 ⟨rfl, rfl⟩
      rw [HX.out]
      go_wp2
      go_ret2
      rw [ZE.out]
      exact ⟨none, 0, 0, rfl, OwnP.nil _ _ _, N1.out⟩
    case true =>
      have ZE := Lib.hid (show z = ptaL E x from by rw [HZ.out, ptaM_yes (by unfold amtB'; rw [hx, Bool.and_true]; exact hc), hE])
      have HX := Lib.hid hx
      clear hx hE hc hG
      have hpos := hfd.pos
      obtain ⟨ga, cpa, ea, _, _, _, xa⟩ := own_read (rc.box.own (r0 va E.length P Q) (by simp)) hpos
      have c0 : w1.cell? ⟨R, 0, none⟩ = some va := rc.box.cell (r0 va E.length P Q) (by simp)
      have ea' : va = .slice (some ⟨ga, 0, none⟩) E.length cpa := ea
      subst ea'
      have EV := Lib.hid (show ∀ k, k < E.length → ∃ sa n sc sb m sd, w1.cell? ⟨ga, k * 2, none⟩ = some (.slice sa n sc) ∧ w1.cell? ⟨ga, k * 2 + 1, none⟩ = some (.slice sb m sd) ∧ Ints w1 sb m sd (E[k]?.getD dN).h from fun k hk => by
        obtain ⟨sa, n, sc, sb, m, sd, p1, p2, _, i2, _, _⟩ := rc.ves k hk
        obtain ⟨g1, g2⟩ := flatPQ_get P Q hk
        exact ⟨sa, n, sc, sb, m, sd, by rw [← p1]; exact (xa (k * 2) _ (by show k * 2 < E.length * 2; omega) g1).1, by rw [← p2]; exact (xa (k * 2 + 1) _ (by show k * 2 + 1 < E.length * 2; omega) g2).1, i2⟩)
      have RC := Lib.hid rc
      obtain ⟨T, hT⟩ : ∃ T, T = E.length := ⟨_, rfl⟩
      rw [← hT] at c0 hl
      have HT := Lib.hid hT
      clear rc ea xa hfd hT hpos
      go_wp2_with fail
      refine (plAmount_any _ x).mono ?_
      rintro e w2 ⟨rfl, rfl⟩
      rw [HX.out]
      go_wp2
      go_loopw [30] (fun i wr => ∃ k : Nat, i = .int .i64 k ∧ k ≤ T ∧ New w1 wr ∧ ∀ j, j < k → amtK E x j = false) (fun i _ => T - (intOf i).toNat)
      case atStart => exact ⟨0, rfl, Nat.zero_le _, New.refl _, fun j hj => absurd hj (by omega)⟩
      case round =>
        obtain ⟨k, rfl, hk, hnw, hno⟩ := hrel
        have NW := Lib.hid hnw; clear hnw
        have NO := Lib.hid hno; clear hno
        by_cases hlt : k < T
        · obtain ⟨sa, n1, sc, sb, m1, sd, p1, p2, i2⟩ := EV.out k (by have := HT.out; omega)
          have p1' := NW.out.cell p1
          have p2' := NW.out.cell p2
          have I2 := Lib.hid (i2.new NW.out)
          clear p1 p2 i2
          go_wp2_with fail
          refine (l1Has_any _ _ _ _ (E[k]?.getD dN).h x (I2.out.new (by repeat (first | with_reducible exact New.refl _ | with_reducible assumption | refine New.drewN ?_ _ | refine New.drew ?_ | refine New.alloc ?_ _ | refine New.setCell ?_ (by first | omega | (simp; omega) | (simp; done)) _ | (refine New.trans ?_ (by assumption)))))).mono ?_
          rintro e w3 ⟨rfl, n3⟩
          have N3 := Lib.hid (show New wr w3 from New.trans (by repeat (first | with_reducible exact New.refl _ | with_reducible assumption | refine New.drewN ?_ _ | refine New.drew ?_ | refine New.alloc ?_ _ | refine New.setCell ?_ (by first | omega | (simp; omega) | (simp; done)) _ | (refine New.trans ?_ (by assumption)))) n3); clear n3 p1' p2'
          have HE := Lib.hid (show decide (x ∈ (E[k]?.getD dN).h) = amtK E x k from rfl)
          rw [HE.out]
          cases hy : amtK E x k
          case true =>
            have ZK := Lib.hid (show z = (wayN E k, true) from by rw [ZE.out, ptaL_at hy NO.out (by have := HT.out; omega)])
            have KE := Lib.hid (show k < E.length from by have := HT.out; omega)
            clear hy
            have RN := Lib.hid (RC.out.newer (NW.out.trans N3.out))
            go_wp2_with fail
            refine (plWay_any _ _ R base S H E O _ vf vm vr vo P Q k RN.out FD.out KE.out (by have := HT.out; omega)).mono ?_
            rintro e w4 ⟨oa, on, oc, rfl, o4, n4⟩
            have O4 := Lib.hid o4
            have N4 := Lib.hid n4
            have z4 := ((N1.out.trans NW.out).trans N3.out).size
            clear o4 n4
            go_wp2
            go_ret2
            rw [ZK.out]
            exact ⟨_, _, _, rfl, O4.out.mono (by omega) (Nat.le_refl _), ((N1.out.trans NW.out).trans N3.out).trans N4.out⟩
          case false =>
            have HY := Lib.hid hy; clear hy
            go_wp2
            go_roundw
            case rel =>
              refine ⟨k + 1, by go_num, by omega, NW.out.trans N3.out, fun j hj => ?_⟩
              by_cases e : j = k
              · subst e; exact HY.out
              · exact NO.out j (by omega)
            case measure => simp [intOf]; omega
        · obtain rfl : k = T := by omega
          have ZK := Lib.hid (show z = ([], false) from by rw [ZE.out, ptaL_none (by rw [← HT.out]; exact NO.out)])
          go_wp2
          go_ret2
          rw [ZK.out]
          exact ⟨none, 0, 0, rfl, OwnP.nil _ _ _, N1.out.trans NW.out⟩
  · have ZE := Lib.hid (show z = ([], false) from by rw [HZ.out, ptaM_no (by unfold amtB'; rw [hc, Bool.false_and])])
    clear hc
    go_wp2
    go_ret2
    rw [ZE.out]
    exact ⟨none, 0, 0, rfl, OwnP.nil _ _ _, N1.out⟩

theorem isAmount_any (w : World) (x : Int) : Calls Try.prog 47 #[.int .i64 x] w fun e w' => e = .returned (.bool (inB 0 60 x)) ∧ w = w' := by
  by_cases h1 : 0 ≤ x
  · go_enter Try.func47, Try.ntmps47
    by_cases h2 : x ≤ 60
    · go_wp2
      go_ret
      exact ⟨ret_bool (by simp [inB]; omega), rfl⟩
    · go_wp2
      go_ret
      exact ⟨ret_bool (by simp [inB]; omega), rfl⟩
  · go_enter Try.func47, Try.ntmps47
    go_wp2
    go_ret
    exact ⟨ret_bool (by simp [inB]; omega), rfl⟩

theorem index_any (w : World) (aa : Option Addr) (n ca : Nat) (l : List Int) (x : Int) (ha : Ints w aa n ca l) (hn : n ≤ 1000000) :
    Calls Try.prog 70 #[.slice aa n ca, .int .i64 x] w fun e w' => ∃ z : Int, e = .returned (.int .i64 z) ∧ (decide (0 ≤ z) = decide (x ∈ l)) ∧ New w w' := by
  have L1 := Lib.hid ha.1
  have HA := Lib.hid ha; clear ha
  go_enter Try.func70, Try.ntmps70
  go_wp2
  go_loopw [8] (fun i wr => ∃ k : Nat, k ≤ n ∧ i = .int .i64 k ∧ New w wr ∧ hasB x l k) (fun i _ => n - (intOf i).toNat)
  case atStart => exact ⟨0, Nat.zero_le _, rfl, New.refl _, fun j hj => absurd hj (by omega)⟩
  case round =>
    obtain ⟨k, hk, rfl, hnw, hpre⟩ := hrel
    have NW := Lib.hid hnw; clear hnw
    have HP := Lib.hid hpre; clear hpre
    by_cases hlt : k < n
    · obtain ⟨b1, o1, rfl, g1, _⟩ := (HA.out.new NW.out).at hlt
      obtain ⟨y, hy⟩ : ∃ y, y = l[k]?.getD 0 := ⟨_, rfl⟩
      rw [← hy] at g1
      have HY := Lib.hid hy; clear hy
      by_cases he : y = x
      · subst he
        have hm2 := Lib.hid (mem_at (by have := L1.out; omega) HY.out.symm)
        go_wp2
        go_ret
        exact ⟨_, rfl, by rw [decide_eq_true hm2.out]; exact decide_eq_true (by omega), NW.out⟩
      · have hne : (x == y) = false := by simpa using fun e : x = y => he e.symm
        have hne2 : (y == x) = false := by simpa using he
        go_wp2
        go_roundw
        case rel =>
          refine ⟨k + 1, by omega, by go_num, NW.out, fun j hj => ?_⟩
          by_cases e : j = k
          · subst e; rw [← HY.out]; exact he
          · exact HP.out j (by omega)
        case measure => simp [intOf]; omega
    · obtain rfl : k = n := by omega
      have hno := Lib.hid (not_mem (by rw [← L1.out]; exact HP.out))
      go_wp2
      go_ret
      exact ⟨_, rfl, by rw [decide_eq_false hno.out]; exact decide_eq_false (by omega), NW.out⟩

theorem contains_any (w : World) (aa : Option Addr) (n ca : Nat) (l : List Int) (x : Int) (ha : Ints w aa n ca l) (hn : n ≤ 1000000) :
    Calls Try.prog 61 #[.slice aa n ca, .int .i64 x] w fun e w' => e = .returned (.bool (decide (x ∈ l))) ∧ New w w' := by
  have HA := Lib.hid ha; clear ha
  go_enter Try.func61, Try.ntmps61
  go_wp2_with fail
  refine (index_any _ _ _ _ l x HA.out hn).mono ?_
  rintro e w1 ⟨z, rfl, hz, n1⟩
  have HZ := Lib.hid hz; clear hz
  have N1 := Lib.hid n1; clear n1
  by_cases h0 : 0 ≤ z
  · go_wp2
    go_ret
    exact ⟨ret_bool (by rw [← HZ.out] <;> simp <;> omega), N1.out⟩
  · go_wp2
    go_ret
    exact ⟨ret_bool (by rw [← HZ.out] <;> simp <;> omega), N1.out⟩
end Go.Proofs.Ytjailklnagfglaa
