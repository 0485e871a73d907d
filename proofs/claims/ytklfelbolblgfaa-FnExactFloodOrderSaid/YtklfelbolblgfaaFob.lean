/- FloodOrder: the insertion sort's walk. -/
import Derived.Test.YtklfelbolblgfaaFoa
namespace Go.Proofs.Ytklfelbolblgfaa
open Go.RowKit Go.IntWalk Go.Shelf

theorem foCmpQ {w : World} {P : Nat} {aa : Option Addr} {n ca : Nat} {T : List Tk} {x y : Nat} {v : Int} (ha : Tanks w aa n ca T) (hP : w.cell? ⟨P, 0, none⟩ = some (.slice aa n ca)) (hx : x < n) (hy : y < n) (h : cmpI (flT T x) (flT T y) = v) :
    Calls Try.prog 72 #[.int .i64 x, .int .i64 y, .pointer (some ⟨P, 0, none⟩)] w fun e w' => e = .returned (.int .i64 v) ∧ ∃ q, w' = w.drewN q :=
  (foCmp_any w P aa n ca T ha hP x y hx hy).mono fun _ _ k => ⟨by rw [k.1, h], k.2⟩

set_option maxRecDepth 100000 in
set_option maxHeartbeats 2000000 in
theorem insSort_any (W w : World) (P B : Nat) (aa : Option Addr) (n ca : Nat) (T : List Tk) (ha : Tanks W aa n ca T) (hP : W.cell? ⟨P, 0, none⟩ = some (.slice aa n ca)) (hB : W.heap.size ≤ B)
    (hn : n ≤ 6) (hn1 : 1 ≤ n) (hw : New W w) (hr : w.rowIs B 3 n (fun j => .int .i64 ((j : Nat) : Int))) :
    Calls Try.prog 89 #[.slice (some ⟨B, 0, none⟩) n n, .int .i64 0, .int .i64 n, .func (.func 72) #[] #[.pointer (some ⟨P, 0, none⟩)]] w
      fun e w' => (∃ v, e = .returned v) ∧ New W w' ∧ w'.rowIs B 3 n (fun j => .int .i64 ((rowO (flT T) n j : Nat) : Int)) := by
  have HA := Lib.hid ha; clear ha
  have HP := Lib.hid hP; clear hP
  have HW := Lib.hid hw; clear hw
  have HR0 := Lib.hid (hr.congr (g := fun j => .int .i64 ((rowO (flT T) 1 j : Nat) : Int)) (fun j _ => by rw [rowO_one])); clear hr
  have EN : ∀ (args : Array Value) (w : World), (callFunc 72 args).run Try.prog w = .ok (.enter 72 args) w := fo_enters
  go_enter Try.func89, Try.ntmps89
  go_wp2
  go_loopw [8] (fun i wr => ∃ k : Nat, 1 ≤ k ∧ k ≤ n ∧ i = .int .i64 k ∧ New W wr ∧ wr.rowIs B 3 n (fun j => .int .i64 ((rowO (flT T) k j : Nat) : Int))) (fun i _ => n - (intOf i).toNat)
  case atStart => exact ⟨1, Nat.le_refl _, hn1, rfl, HW.out, HR0.out⟩
  case round =>
    obtain ⟨k, hk1, hk, rfl, hnw, hrow⟩ := hrel
    by_cases hlt : k < n
    · have HR1 := Lib.hid (hrow.congr (g := fun p => .int .i64 ((midO (ordK (flT T) k) k k p : Nat) : Int)) (fun p _ => by rw [midO_start]))
      have NW1 := Lib.hid hnw
      clear hrow hnw
      go_wp2_with fail
      obtain ⟨w1, rfl⟩ : ∃ u : World, u = wr := ⟨_, rfl⟩
      go_loopw [9] (fun jv wr => ∃ j : Nat, j ≤ k ∧ jv = .int .i64 j ∧ New W wr ∧ (∀ p, j ≤ p → p < k → flT T k < flT T ((ordK (flT T) k)[p]?.getD 0)) ∧ wr.rowIs B 3 n (fun p => .int .i64 ((midO (ordK (flT T) k) k j p : Nat) : Int))) (fun jv _ => (intOf jv).toNat)
      case atStart => exact ⟨k, Nat.le_refl _, rfl, NW1.out, fun p h1 h2 => absurd h2 (by omega), HR1.out⟩
      case round =>
        obtain ⟨j, hj, rfl, hnw, hgt, hrow⟩ := hrel
        have NW := Lib.hid hnw
        have HG := Lib.hid hgt
        have HR := Lib.hid hrow
        clear hnw hgt hrow
        by_cases j0 : j = 0
        · subst j0
          go_wp2_with fail
          go_quiet (fail)
          go_wp2
          go_roundw
          case rel => exact ⟨k + 1, by omega, by omega, by go_num, by have := NW.out; (repeat (first | with_reducible exact New.refl _ | with_reducible assumption | refine New.drewN ?_ _ | refine New.drew ?_ | refine New.alloc ?_ _ | refine New.setCell ?_ (by first | omega | (simp; omega) | (simp; done)) _ | (refine New.trans ?_ (by assumption)))), HR.out.congr fun p _ => by rw [midO_end (by omega) HG.out (fun h => absurd h (by omega))]⟩
          case measure => simp [intOf]; omega
        · obtain ⟨q, rfl⟩ : ∃ q, j = q + 1 := ⟨j - 1, by omega⟩
          have cq := HR.out.cell (i := q) (by omega)
          have cj := HR.out.cell (i := q + 1) (by omega)
          have fq := HR.out.frozen q
          have fj := HR.out.frozen (q + 1)
          simp only [midO_at] at cj
          rw [midO_below _ (show q < q + 1 by omega)] at cq
          obtain ⟨y, hy⟩ : ∃ y, y = (ordK (flT T) k)[q]?.getD 0 := ⟨_, rfl⟩
          have yl : y < n := by rw [hy]; have := ordK_lt (f := flT T) (k := k) (j := q) (by omega); omega
          rw [← hy] at cq
          have HY := Lib.hid hy; clear hy
          have p1 : (0 : Int) < (q : Int) + 1 := by omega
          have p2 : (0 : Int) ≤ (q : Int) + 1 := by omega
          have p3 : (q : Int) + 1 < (n : Int) := by omega
          have p4 : (0 : Int) ≤ (q : Int) := by omega
          have p5 : (q : Int) < (n : Int) := by omega
          have p6 : ((q : Int) + 1).toNat = q + 1 := by omega
          have p7 : (q : Int) + 1 - 1 = q := by omega
          have hlb := HR.out.lt
          by_cases c : flT T k < flT T y
          · have CV := Lib.hid (show cmpI (flT T k) (flT T y) = -1 by unfold cmpI; rw [if_pos c])
            go_wp2_with fail
            go_quiet ((go_at_call 72; exact Calls.quiet_of (foCmpQ (HA.out.new (New.trans NW.out (by repeat (first | with_reducible exact New.refl _ | with_reducible assumption | refine New.drewN ?_ _ | refine New.drew ?_ | refine New.alloc ?_ _ | refine New.setCell ?_ (by first | omega | (simp; omega) | (simp; done)) _ | (refine New.trans ?_ (by assumption)))))) ((New.trans NW.out (by repeat (first | with_reducible exact New.refl _ | with_reducible assumption | refine New.drewN ?_ _ | refine New.drew ?_ | refine New.alloc ?_ _ | refine New.setCell ?_ (by first | omega | (simp; omega) | (simp; done)) _ | (refine New.trans ?_ (by assumption))))).cell HP.out) hlt yl CV.out)))
            go_wp2
            go_region
            all_goals (go_wp2_with fail)
            have nd : New wr (wr.drewN (nq + 1)) := (by repeat (first | with_reducible exact New.refl _ | with_reducible assumption | refine New.drewN ?_ _ | refine New.drew ?_ | refine New.alloc ?_ _ | refine New.setCell ?_ (by first | omega | (simp; omega) | (simp; done)) _ | (refine New.trans ?_ (by assumption))))
            refine ⟨⟨q, by omega, rfl, ((NW.out.trans nd).setCell hB _).setCell hB _, fun p h1 h2 => ?_, (((HR.out.of_block (nd.block _ hlb)).set (q + 1) _).set q _).congr fun p _ => ?_⟩, by simp [intOf]⟩
            · by_cases e : p = q
              · subst e; rw [← HY.out]; exact c
              · exact HG.out p (by omega) h2
            · rw [midO_down (ordK (flT T) k) (q := q) (by omega) p, ← HY.out]
              by_cases e1 : p = q
              · rw [if_pos e1, if_pos e1]
              · rw [if_neg e1, if_neg e1]
                by_cases e2 : p = q + 1
                · rw [if_pos e2, if_pos e2]
                · rw [if_neg e2, if_neg e2]
          · have CV : 0 ≤ cmpI (flT T k) (flT T y) := by unfold cmpI; rw [if_neg c]; by_cases d : flT T y < flT T k <;> simp [d]
            obtain ⟨z, hz⟩ : ∃ z, cmpI (flT T k) (flT T y) = z := ⟨_, rfl⟩
            rw [hz] at CV
            have CZ := Lib.hid hz; clear hz
            go_wp2_with fail
            go_quiet ((go_at_call 72; exact Calls.quiet_of (foCmpQ (HA.out.new (New.trans NW.out (by repeat (first | with_reducible exact New.refl _ | with_reducible assumption | refine New.drewN ?_ _ | refine New.drew ?_ | refine New.alloc ?_ _ | refine New.setCell ?_ (by first | omega | (simp; omega) | (simp; done)) _ | (refine New.trans ?_ (by assumption)))))) ((New.trans NW.out (by repeat (first | with_reducible exact New.refl _ | with_reducible assumption | refine New.drewN ?_ _ | refine New.drew ?_ | refine New.alloc ?_ _ | refine New.setCell ?_ (by first | omega | (simp; omega) | (simp; done)) _ | (refine New.trans ?_ (by assumption))))).cell HP.out) hlt yl CZ.out)))
            go_wp2
            go_roundw
            case rel => exact ⟨k + 1, by omega, by omega, by go_num, by have := NW.out; (repeat (first | with_reducible exact New.refl _ | with_reducible assumption | refine New.drewN ?_ _ | refine New.drew ?_ | refine New.alloc ?_ _ | refine New.setCell ?_ (by first | omega | (simp; omega) | (simp; done)) _ | (refine New.trans ?_ (by assumption)))), HR.out.congr fun p _ => by rw [midO_end (by omega) HG.out (fun _ => by rw [Nat.add_sub_cancel, ← HY.out]; omega)]⟩
            case measure => simp [intOf]; omega
    · obtain rfl : k = n := by omega
      go_wp2
      go_end0
      exact ⟨⟨_, rfl⟩, hnw, hrow⟩
end Go.Proofs.Ytklfelbolblgfaa
