/- Rows the other way round. -/
import Derived.Test.YtejmmahjolkcgaaClo
import Derived.Deep.RegionLaw
import Derived.Deep.DeepCutAuto
import Derived.IntWalk
namespace Go.Proofs.Ytejmmahjolkcgaa
open Go.RowKit

theorem rev_getInt (l : List Int) {n x : Nat} (hn : n = l.length) (hx : x < n) : l.reverse[x]?.getD 0 = l[n - 1 - x]?.getD 0 := by
  subst hn
  rw [List.getElem?_reverse hx]

set_option maxRecDepth 100000 in
set_option maxHeartbeats 1000000 in
theorem revI_any (w : World) (b n cap : Nat) (l : List Int) (h : Own w b (b + 1) (some ⟨b, 0, none⟩) n cap l) (h1 : 1 ≤ n) (h6 : n ≤ 6) :
    Calls Try.prog 49 #[.slice (some ⟨b, 0, none⟩) n cap] w fun e w' => e = .returned (.tuple #[]) ∧ Own w' b (b + 1) (some ⟨b, 0, none⟩) n cap l.reverse ∧ Chg (fun x => x = b) w w' := by
  obtain ⟨hl, hc, hm, hor⟩ := h
  rcases hor with ⟨h0, _⟩ | ⟨b', f, e, _, _, hrow, hf⟩
  · omega
  cases e
  have HL := Lib.hid hl; clear hl
  have HF := Lib.hid hf; clear hf
  have HR := Lib.hid hrow; clear hrow
  have hw1 : IntKind.i64.wrap ((n : Int) - 1) = (n : Int) - 1 := IntWalk.i64_in _ (by omega)
  go_enter Try.func49, Try.ntmps49
  go_wp2
  clear hw1
  go_loopw [2, 3] (fun i j wr => ∃ (k : Nat) (f : Nat → Value), 2 * k ≤ n ∧ i = .int .i64 k ∧ j = .int .i64 ((n : Int) - 1 - (k : Int)) ∧ wr.rowIs b 3 cap f ∧ (∀ x, x < n → f x = .int .i64 ((if x < k ∨ n ≤ x + k then l[n - 1 - x]?.getD 0 else l[x]?.getD 0))) ∧ Chg (fun x => x = b) w wr) (fun i _ _ => n - (intOf i).toNat)
  case atStart => exact ⟨0, f, by omega, rfl, by simp, HR.out, fun x hx => by rw [if_neg (by omega)]; exact HF.out x hx, Chg.refl _ _⟩
  case round =>
    obtain ⟨k, f2, hk, rfl, rfl, hrow2, hf2, hch⟩ := hrel
    have HR2 := Lib.hid hrow2; clear hrow2
    have HF2 := Lib.hid hf2; clear hf2
    have HC := Lib.hid hch; clear hch
    by_cases hlt : 2 * k + 1 < n
    · obtain ⟨j, hj⟩ : ∃ j : Nat, (n : Int) - 1 - (k : Int) = (j : Int) := ⟨n - 1 - k, by omega⟩
      rw [hj]
      have hjn : j < n := by omega
      have hkj : k < j := by omega
      have hkn : k < n := by omega
      have hkI : (k : Int) < (j : Int) := by omega
      have hwj : IntKind.i64.wrap ((j : Int) - 1) = (n : Int) - 1 - ((k + 1 : Nat) : Int) := (IntWalk.i64_in _ (by omega)).trans (by omega)
      have ck : wr.cell? ⟨b, k, none⟩ = some (.int .i64 (l[k]?.getD 0)) := by rw [HR2.out.cell (by omega), HF2.out k hkn, if_neg (by omega)]
      have cj : wr.cell? ⟨b, j, none⟩ = some (.int .i64 (l[j]?.getD 0)) := by rw [HR2.out.cell (by omega), HF2.out j hjn, if_neg (by omega)]
      have fk := HR2.out.frozen k
      have fj := HR2.out.frozen j
      obtain ⟨x, hx⟩ : ∃ x, x = l[k]?.getD 0 := ⟨_, rfl⟩
      obtain ⟨y, hy⟩ : ∃ y, y = l[j]?.getD 0 := ⟨_, rfl⟩
      rw [← hx] at ck
      rw [← hy] at cj
      have HX := Lib.hid hx; have HY := Lib.hid hy; clear hx hy
      have HJ := Lib.hid hj; clear hj
      have hne : (⟨b, k, none⟩ : Addr) ≠ ⟨b, j, none⟩ := fun e => by cases e; omega
      have R3 := Lib.hid (show ((wr.setCell ⟨b, k, none⟩ (.int .i64 (y))).setCell ⟨b, j, none⟩ (.int .i64 (x))).drew.rowIs b 3 cap _ from ((HR2.out.set k _).set j _).of_block rfl)
      have C3 := Lib.hid (show Chg (fun x => x = b) w ((wr.setCell ⟨b, k, none⟩ (.int .i64 (y))).setCell ⟨b, j, none⟩ (.int .i64 (x))).drew from ((HC.out.trans (Chg.setCell (p := ⟨b, k, none⟩) _)).trans (Chg.setCell (p := ⟨b, j, none⟩) _)).trans (Chg.of_new (New.refl _).drew))
      have REL := Lib.hid (show ∃ f : Nat → Value, ((wr.setCell ⟨b, k, none⟩ (.int .i64 (y))).setCell ⟨b, j, none⟩ (.int .i64 (x))).drew.rowIs b 3 cap f ∧ (∀ z, z < n → f z = .int .i64 ((if z < (k + 1) ∨ n ≤ z + (k + 1) then l[n - 1 - z]?.getD 0 else l[z]?.getD 0))) from ⟨_, R3.out, fun z hz => by
        have hj := HJ.out
        by_cases e1 : z = j
        · subst e1
          rw [if_pos rfl, if_pos (by omega), HX.out, show n - 1 - z = k by omega]
        · rw [if_neg e1]
          by_cases e2 : z = k
          · subst e2
            rw [if_pos rfl, if_pos (by omega), HY.out, show n - 1 - z = j by omega]
          · rw [if_neg e2, HF2.out z hz]
            by_cases e3 : z < k ∨ n ≤ z + k
            · rw [if_pos e3, if_pos (by omega)]
            · rw [if_neg e3, if_neg (by omega)]⟩)
      clear HR2 HF2 HC HX HY HL HF HR R3
      go_upto_region 3 with fail
      go_region
      all_goals go_wp2
      all_goals go_roundw
      all_goals first
        | (simp [intOf]; omega)
        | exact ⟨k + 1, REL.out.choose, by omega, by go_num, rfl, REL.out.choose_spec.1, REL.out.choose_spec.2, C3.out⟩
    · have hkI : ¬ (k : Int) < (n : Int) - 1 - (k : Int) := by omega
      go_wp2
      refine ⟨rfl, .tuple #[], by simp [results, Try.results49, go_sem], rfl, ⟨by simpa using HL.out, hc, hm, .inr ⟨b, f2, rfl, Nat.le_refl _, by omega, HR2.out, fun x hx => ?_⟩⟩, HC.out⟩
      rw [HF2.out x hx, rev_getInt l HL.out hx]
      by_cases e3 : x < k ∨ n ≤ x + k
      · rw [if_pos e3]
      · rw [if_neg e3, show n - 1 - x = x by omega]

theorem rev_getBool (l : List Bool) {n x : Nat} (hn : n = l.length) (hx : x < n) : l.reverse[x]?.getD false = l[n - 1 - x]?.getD false := by
  subst hn
  rw [List.getElem?_reverse hx]

set_option maxRecDepth 100000 in
set_option maxHeartbeats 1000000 in
theorem revB_any (w : World) (b n cap : Nat) (l : List Bool) (h : OwnBo w b (b + 1) (some ⟨b, 0, none⟩) n cap l) (h1 : 1 ≤ n) (h6 : n ≤ 6) :
    Calls Try.prog 50 #[.slice (some ⟨b, 0, none⟩) n cap] w fun e w' => e = .returned (.tuple #[]) ∧ OwnBo w' b (b + 1) (some ⟨b, 0, none⟩) n cap l.reverse ∧ Chg (fun x => x = b) w w' := by
  obtain ⟨hl, hc, hm, hor⟩ := h
  rcases hor with ⟨h0, _⟩ | ⟨b', f, e, _, _, hrow, hf⟩
  · omega
  cases e
  have HL := Lib.hid hl; clear hl
  have HF := Lib.hid hf; clear hf
  have HR := Lib.hid hrow; clear hrow
  have hw1 : IntKind.i64.wrap ((n : Int) - 1) = (n : Int) - 1 := IntWalk.i64_in _ (by omega)
  go_enter Try.func50, Try.ntmps50
  go_wp2
  clear hw1
  go_loopw [2, 3] (fun i j wr => ∃ (k : Nat) (f : Nat → Value), 2 * k ≤ n ∧ i = .int .i64 k ∧ j = .int .i64 ((n : Int) - 1 - (k : Int)) ∧ wr.rowIs b 4 cap f ∧ (∀ x, x < n → f x = .bool ((if x < k ∨ n ≤ x + k then l[n - 1 - x]?.getD false else l[x]?.getD false))) ∧ Chg (fun x => x = b) w wr) (fun i _ _ => n - (intOf i).toNat)
  case atStart => exact ⟨0, f, by omega, rfl, by simp, HR.out, fun x hx => by rw [if_neg (by omega)]; exact HF.out x hx, Chg.refl _ _⟩
  case round =>
    obtain ⟨k, f2, hk, rfl, rfl, hrow2, hf2, hch⟩ := hrel
    have HR2 := Lib.hid hrow2; clear hrow2
    have HF2 := Lib.hid hf2; clear hf2
    have HC := Lib.hid hch; clear hch
    by_cases hlt : 2 * k + 1 < n
    · obtain ⟨j, hj⟩ : ∃ j : Nat, (n : Int) - 1 - (k : Int) = (j : Int) := ⟨n - 1 - k, by omega⟩
      rw [hj]
      have hjn : j < n := by omega
      have hkj : k < j := by omega
      have hkn : k < n := by omega
      have hkI : (k : Int) < (j : Int) := by omega
      have hwj : IntKind.i64.wrap ((j : Int) - 1) = (n : Int) - 1 - ((k + 1 : Nat) : Int) := (IntWalk.i64_in _ (by omega)).trans (by omega)
      have ck : wr.cell? ⟨b, k, none⟩ = some (.bool (l[k]?.getD false)) := by rw [HR2.out.cell (by omega), HF2.out k hkn, if_neg (by omega)]
      have cj : wr.cell? ⟨b, j, none⟩ = some (.bool (l[j]?.getD false)) := by rw [HR2.out.cell (by omega), HF2.out j hjn, if_neg (by omega)]
      have fk := HR2.out.frozen k
      have fj := HR2.out.frozen j
      obtain ⟨x, hx⟩ : ∃ x, x = l[k]?.getD false := ⟨_, rfl⟩
      obtain ⟨y, hy⟩ : ∃ y, y = l[j]?.getD false := ⟨_, rfl⟩
      rw [← hx] at ck
      rw [← hy] at cj
      have HX := Lib.hid hx; have HY := Lib.hid hy; clear hx hy
      have HJ := Lib.hid hj; clear hj
      have hne : (⟨b, k, none⟩ : Addr) ≠ ⟨b, j, none⟩ := fun e => by cases e; omega
      have R3 := Lib.hid (show ((wr.setCell ⟨b, k, none⟩ (.bool (y))).setCell ⟨b, j, none⟩ (.bool (x))).drew.rowIs b 4 cap _ from ((HR2.out.set k _).set j _).of_block rfl)
      have C3 := Lib.hid (show Chg (fun x => x = b) w ((wr.setCell ⟨b, k, none⟩ (.bool (y))).setCell ⟨b, j, none⟩ (.bool (x))).drew from ((HC.out.trans (Chg.setCell (p := ⟨b, k, none⟩) _)).trans (Chg.setCell (p := ⟨b, j, none⟩) _)).trans (Chg.of_new (New.refl _).drew))
      have REL := Lib.hid (show ∃ f : Nat → Value, ((wr.setCell ⟨b, k, none⟩ (.bool (y))).setCell ⟨b, j, none⟩ (.bool (x))).drew.rowIs b 4 cap f ∧ (∀ z, z < n → f z = .bool ((if z < (k + 1) ∨ n ≤ z + (k + 1) then l[n - 1 - z]?.getD false else l[z]?.getD false))) from ⟨_, R3.out, fun z hz => by
        have hj := HJ.out
        by_cases e1 : z = j
        · subst e1
          rw [if_pos rfl, if_pos (by omega), HX.out, show n - 1 - z = k by omega]
        · rw [if_neg e1]
          by_cases e2 : z = k
          · subst e2
            rw [if_pos rfl, if_pos (by omega), HY.out, show n - 1 - z = j by omega]
          · rw [if_neg e2, HF2.out z hz]
            by_cases e3 : z < k ∨ n ≤ z + k
            · rw [if_pos e3, if_pos (by omega)]
            · rw [if_neg e3, if_neg (by omega)]⟩)
      clear HR2 HF2 HC HX HY HL HF HR R3
      go_upto_region 3 with fail
      go_region
      all_goals go_wp2
      all_goals go_roundw
      all_goals first
        | (simp [intOf]; omega)
        | exact ⟨k + 1, REL.out.choose, by omega, by go_num, rfl, REL.out.choose_spec.1, REL.out.choose_spec.2, C3.out⟩
    · have hkI : ¬ (k : Int) < (n : Int) - 1 - (k : Int) := by omega
      go_wp2
      refine ⟨rfl, .tuple #[], by simp [results, Try.results50, go_sem], rfl, ⟨by simpa using HL.out, hc, hm, .inr ⟨b, f2, rfl, Nat.le_refl _, by omega, HR2.out, fun x hx => ?_⟩⟩, HC.out⟩
      rw [HF2.out x hx, rev_getBool l HL.out hx]
      by_cases e3 : x < k ∨ n ≤ x + k
      · rw [if_pos e3]
      · rw [if_neg e3, show n - 1 - x = x by omega]
end Go.Proofs.Ytejmmahjolkcgaa
