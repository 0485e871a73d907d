/- The program's ship through a lock, a closure over two of its methods, and through all locks. -/
import Derived.Test.YtmhcnomkkjgidaaDoorLkI
import Derived.Test.YtmhcnomkkjgidaaDoorUnI
import Derived.Test.YtmhcnomkkjgidaaDoorFlM
import Derived.Deep.RegionWith
namespace Go.Proofs.YtmhcnomkkjgidaaDoor
open Go.RowKit

def fvF (B : Nat) : Value := .func (.func 93) #[.pointer (some ⟨B, 0, none⟩)] #[]
def fvE (B : Nat) : Value := .func (.func 94) #[.pointer (some ⟨B, 0, none⟩)] #[]
/-- What the closure of a passing has captured. -/
structure PassEnv (w : World) (B : Nat) (up : Bool) (p2 p3 p5 p6 : Nat) : Prop where
  q2 : w.cell? ⟨p2, 0, none⟩ = some (.pointer (some ⟨B, 0, none⟩))
  q3 : w.cell? ⟨p3, 0, none⟩ = some (.bool up)
  q5 : w.cell? ⟨p5, 0, none⟩ = some (if up = true then fvE B else fvF B)
  q6 : w.cell? ⟨p6, 0, none⟩ = some (if up = true then fvF B else fvE B)
theorem PassEnv.new {w w' : World} {B : Nat} {up : Bool} {p2 p3 p5 p6 : Nat} (h : PassEnv w B up p2 p3 p5 p6) (k : New w w') : PassEnv w' B up p2 p3 p5 p6 := ⟨k.cell h.q2, k.cell h.q3, k.cell h.q5, k.cell h.q6⟩
theorem PassEnv.chg {P : Nat → Prop} {w w' : World} {B : Nat} {up : Bool} {p2 p3 p5 p6 : Nat} (h : PassEnv w B up p2 p3 p5 p6) (k : Chg P w w') (h2 : ¬ P p2) (h3 : ¬ P p3) (h5 : ¬ P p5) (h6 : ¬ P p6) : PassEnv w' B up p2 p3 p5 p6 :=
  ⟨k.cell h.q2 h2, k.cell h.q3 h3, k.cell h.q5 h5, k.cell h.q6 h6⟩

set_option maxRecDepth 100000 in
set_option maxHeartbeats 1000000 in
theorem passing_any (w : World) (B : Nat) (up : Bool) :
    Calls Tryd.prog 82 #[.pointer (some ⟨B, 0, none⟩), .bool up] w fun e w' => ∃ p2 p3 p5 p6, e = .returned (.func (.func 95) #[] #[.pointer (some ⟨p2, 0, none⟩), .pointer (some ⟨p3, 0, none⟩), .pointer (some ⟨p5, 0, none⟩), .pointer (some ⟨p6, 0, none⟩)]) ∧
      PassEnv w' B up p2 p3 p5 p6 ∧ (w.heap.size ≤ p2 ∧ w.heap.size ≤ p3 ∧ w.heap.size ≤ p5 ∧ w.heap.size ≤ p6) ∧ New w w' := by
  have hmf : ∀ (fn : Fn) (first cap : Array Value) (w : World), (Instr.makeFunc fn first cap).run Tryd.prog w = .ok (.func fn first cap) w := fun _ _ _ _ => rfl
  have hst : ∀ (a : Addr) (w : World) (M : Mode) (f : Fn) (x y : Array Value), (store a (.func f x y) M).run Tryd.prog w = stored Tryd.prog w a (.func f x y) M := fun a w M f x y => run_store _ w a _ M rfl
  go_enter Tryd.func82, Tryd.ntmps82
  go_upto_region 1 with fail
  obtain ⟨v0, hv0⟩ : ∃ xx : World, xx = (w.alloc (.cells #[.pointer (some ⟨B, 0, none⟩)] 99)).alloc (.cells #[.bool up] 4) := ⟨_, rfl⟩
  rw [← hv0]
  have N0 := Lib.hid (show New w v0 by rw [hv0]; exact (by repeat (first | with_reducible exact New.refl _ | with_reducible assumption | refine New.drewN ?_ _ | refine New.drew ?_ | refine New.alloc ?_ _ | refine New.setCell ?_ (by first | omega | (simp; omega) | (simp; done)) _ | (refine New.trans ?_ (by assumption)))))
  have a2_v0 : v0.cell? ⟨w.heap.size, 0, none⟩ = some (.pointer (some ⟨B, 0, none⟩)) := by rw [hv0]; simp [go_sem]
  have a3_v0 : v0.cell? ⟨w.heap.size + 1, 0, none⟩ = some (.bool up) := by rw [hv0]; simp [go_sem]
  have z3 : w.heap.size + 1 < v0.heap.size := by rw [hv0]; simp
  clear hv0
  go_cut [5, 6] (fun a b W => ∃ p5 p6 : Nat, a = .pointer (some ⟨p5, 0, none⟩) ∧ b = .pointer (some ⟨p6, 0, none⟩) ∧ New v0 W ∧ (v0.heap.size ≤ p5 ∧ v0.heap.size ≤ p6 ∧ p5 ≠ p6) ∧ WB W p5 [.func (.func 93) #[.pointer (some ⟨B, 0, none⟩)] #[]] 86 ∧ WB W p6 [.func (.func 94) #[.pointer (some ⟨B, 0, none⟩)] #[]] 86)
  case first =>
    have M0 : New v0 v0.drew := (New.refl _).drew
    refine wp_region_held_drew (S := fun w' => w'.cell? ⟨w.heap.size, 0, none⟩ = some (.pointer (some ⟨B, 0, none⟩))) (by kernel_rfl) a2_v0 (fun hHeld => ?_)
    obtain ⟨y0, hy0⟩ : ∃ y, y = v0.drew := ⟨_, rfl⟩
    rw [← hy0] at M0 hHeld  ⊢; clear hy0
    have sy0 := M0.size
    refine wpAnyH_take (i := 0) (oi := ⟨some 7, _, _, _, _, _⟩) (v := ?_) rfl (by kernel_rfl) (by kernel_rfl) (by kernel_rfl) (fun _ _ _ h => h) (Or.inl ⟨by rfl, ?_⟩) hHeld ?_; rotate_left; (· (intro w_ hSw; (try dsimp only at hSw); (try go_split_ands); go_simp; (try with_reducible rfl))); (try simp only [Act.put, List.setIfInBounds_toArray, List.set_cons_zero, List.set_cons_succ])
    refine wpAnyH_take (i := 1) (oi := ⟨some 8, _, _, _, _, _⟩) (v := ?_) rfl (by kernel_rfl) (by kernel_rfl) (by kernel_rfl) (fun _ _ _ h => h) (Or.inl ⟨by rfl, ?_⟩) hHeld ?_; rotate_left; (· (intro w_ hSw; (try dsimp only at hSw); (try go_split_ands); go_simp; (try with_reducible rfl))); (try simp only [Act.put, List.setIfInBounds_toArray, List.set_cons_zero, List.set_cons_succ])
    refine wpAnyH_take (i := 2) (oi := ⟨some 9, _, _, _, _, _⟩) (v := ?_) rfl (by kernel_rfl) (by kernel_rfl) (by kernel_rfl) (fun _ _ _ h => h) (Or.inl ⟨by rfl, ?_⟩) hHeld ?_; rotate_left; (· (intro w_ hSw; (try dsimp only at hSw); (try go_split_ands); go_simp; (try with_reducible rfl))); (try simp only [Act.put, List.setIfInBounds_toArray, List.set_cons_zero, List.set_cons_succ])
    refine wpAnyH_take (i := 3) (oi := ⟨some 10, _, _, _, _, _⟩) (v := ?_) rfl (by kernel_rfl) (by kernel_rfl) (by kernel_rfl) (fun _ _ _ h => h) (Or.inl ⟨by rfl, ?_⟩) hHeld ?_; rotate_left; (· (intro w_ hSw; (try dsimp only at hSw); (try go_split_ands); go_simp; (try with_reducible rfl))); (try simp only [Act.put, List.setIfInBounds_toArray, List.set_cons_zero, List.set_cons_succ])
    refine wpAnyH_ready (rs := [4, 5]) (by kernel_rfl) (by simp) ?_
    refine AllReadyH.cons (o := ⟨some 5, _, _, _, _, _⟩) rfl (fun K hK => ?_) ?_
    · skip
      go_simp
      obtain ⟨y1, hz⟩ : ∃ z, z = y0.alloc (.cells #[.nilFunc] 86) := ⟨_, rfl⟩
      rw [← hz]
      have n_ : New y0 y1 := by rw [hz]; exact (New.refl _).alloc _
      have q4 : WB y1 y0.heap.size [.nilFunc] 86 := by rw [hz]; exact WB.alloc y0 [.nilFunc] _
      have l4 : v0.heap.size ≤ y0.heap.size := M0.size
      clear hz
      refine hK.out _ _ (n_.cell hHeld) (fun hHeld => ?_)
      clear hK K
      (try simp only [Act.put, List.setIfInBounds_toArray, List.set_cons_zero, List.set_cons_succ])
      have sy1 := n_.size
      replace M0 := M0.trans n_; clear n_
      have t4y1 := q4.lt
      refine wpAnyH_ready (rs := [5]) (by kernel_rfl) (by simp) ?_
      refine AllReadyH.cons (o := ⟨some 6, _, _, _, _, _⟩) rfl (fun K hK => ?_) AllReadyH.nil
      go_simp
      obtain ⟨y2, hz⟩ : ∃ z, z = y1.alloc (.cells #[.nilFunc] 86) := ⟨_, rfl⟩
      rw [← hz]
      have n_ : New y1 y2 := by rw [hz]; exact (New.refl _).alloc _
      have q5 : WB y2 y1.heap.size [.nilFunc] 86 := by rw [hz]; exact WB.alloc y1 [.nilFunc] _
      have l5 : v0.heap.size ≤ y1.heap.size := M0.size
      clear hz
      refine hK.out _ _ (n_.cell hHeld) (fun hHeld => ?_)
      clear hK K
      (try simp only [Act.put, List.setIfInBounds_toArray, List.set_cons_zero, List.set_cons_succ])
      replace q4 := q4.new n_
      have sy2 := n_.size
      replace M0 := M0.trans n_; clear n_
      have t4y2 := q4.lt
      have t5y2 := q5.lt
      refine wpAnyH_ready (rs := [6]) (by kernel_rfl) (by simp) ?_
      refine AllReadyH.cons (o := ⟨none, _, _, _, _, _⟩) rfl (fun K hK => ?_) AllReadyH.nil
      have x0 := q4.cell (k := 0) rfl; have f0 := q4.frozen 0
      go_simp
      obtain ⟨y3, hz⟩ : ∃ z, z = (y2.setCell ⟨y0.heap.size, 0, none⟩ (.func (.func 93) #[.pointer (some ⟨B, 0, none⟩)] #[])) := ⟨_, rfl⟩
      rw [← hz]
      have n_ : New v0 y3 := by rw [hz]; exact (M0.setCell l4 _)
      have q5n := (WB.apart q5 (p := ⟨y0.heap.size, 0, none⟩) (by first | omega | (simp; done) | (simp; omega)) (.func (.func 93) #[.pointer (some ⟨B, 0, none⟩)] #[])); rw [← hz] at q5n
      have q4n : WB y3 y0.heap.size [.func (.func 93) #[.pointer (some ⟨B, 0, none⟩)] #[]] 86 := by rw [hz]; exact (WB.set q4 0 _)
      clear q4; have q4 := q4n; clear q4n
      clear q5; have q5 := q5n; clear q5n
      have sy3 : y2.heap.size ≤ y3.heap.size := by rw [hz]; simp
      refine hK.out _ _ (by rw [hz]; exact World.cell_set (hHeld) (by simp; omega)) (fun hHeld => ?_)
      clear hK K hz x0 f0
      (try simp only [Act.put, List.setIfInBounds_toArray, List.set_cons_zero, List.set_cons_succ])
      replace M0 := n_; clear n_
      refine wpAnyH_ready (rs := [7]) (by kernel_rfl) (by simp) ?_
      refine AllReadyH.cons (o := ⟨none, _, _, _, _, _⟩) rfl (fun K hK => ?_) AllReadyH.nil
      have x0 := q5.cell (k := 0) rfl; have f0 := q5.frozen 0
      go_simp
      obtain ⟨y4, hz⟩ : ∃ z, z = (y3.setCell ⟨y1.heap.size, 0, none⟩ (.func (.func 94) #[.pointer (some ⟨B, 0, none⟩)] #[])) := ⟨_, rfl⟩
      rw [← hz]
      have n_ : New v0 y4 := by rw [hz]; exact (M0.setCell l5 _)
      have q4n := (WB.apart q4 (p := ⟨y1.heap.size, 0, none⟩) (by first | omega | (simp; done) | (simp; omega)) (.func (.func 94) #[.pointer (some ⟨B, 0, none⟩)] #[])); rw [← hz] at q4n
      have q5n : WB y4 y1.heap.size [.func (.func 94) #[.pointer (some ⟨B, 0, none⟩)] #[]] 86 := by rw [hz]; exact (WB.set q5 0 _)
      clear q4; have q4 := q4n; clear q4n
      clear q5; have q5 := q5n; clear q5n
      have sy4 : y3.heap.size ≤ y4.heap.size := by rw [hz]; simp
      refine hK.out _ _ (by rw [hz]; exact World.cell_set (hHeld) (by simp; omega)) (fun hHeld => ?_)
      clear hK K hz x0 f0
      (try simp only [Act.put, List.setIfInBounds_toArray, List.set_cons_zero, List.set_cons_succ])
      replace M0 := n_; clear n_
      refine wpAnyH_done (by kernel_rfl) ?_ _
      go_wp2_with fail
      go_meet
      refine ⟨_, _, rfl, rfl, M0, ⟨by omega, by omega, by omega⟩, q4, q5⟩
    refine AllReadyH.cons (o := ⟨some 6, _, _, _, _, _⟩) rfl (fun K hK => ?_) AllReadyH.nil
    go_simp
    obtain ⟨y5, hz⟩ : ∃ z, z = y0.alloc (.cells #[.nilFunc] 86) := ⟨_, rfl⟩
    rw [← hz]
    have n_ : New y0 y5 := by rw [hz]; exact (New.refl _).alloc _
    have q5 : WB y5 y0.heap.size [.nilFunc] 86 := by rw [hz]; exact WB.alloc y0 [.nilFunc] _
    have l5 : v0.heap.size ≤ y0.heap.size := M0.size
    clear hz
    refine hK.out _ _ (n_.cell hHeld) (fun hHeld => ?_)
    clear hK K
    (try simp only [Act.put, List.setIfInBounds_toArray, List.set_cons_zero, List.set_cons_succ])
    have sy5 := n_.size
    replace M0 := M0.trans n_; clear n_
    have t5y5 := q5.lt
    refine wpAnyH_ready (rs := [4]) (by kernel_rfl) (by simp) ?_
    refine AllReadyH.cons (o := ⟨some 5, _, _, _, _, _⟩) rfl (fun K hK => ?_) AllReadyH.nil
    go_simp
    obtain ⟨y6, hz⟩ : ∃ z, z = y5.alloc (.cells #[.nilFunc] 86) := ⟨_, rfl⟩
    rw [← hz]
    have n_ : New y5 y6 := by rw [hz]; exact (New.refl _).alloc _
    have q4 : WB y6 y5.heap.size [.nilFunc] 86 := by rw [hz]; exact WB.alloc y5 [.nilFunc] _
    have l4 : v0.heap.size ≤ y5.heap.size := M0.size
    clear hz
    refine hK.out _ _ (n_.cell hHeld) (fun hHeld => ?_)
    clear hK K
    (try simp only [Act.put, List.setIfInBounds_toArray, List.set_cons_zero, List.set_cons_succ])
    replace q5 := q5.new n_
    have sy6 := n_.size
    replace M0 := M0.trans n_; clear n_
    have t5y6 := q5.lt
    have t4y6 := q4.lt
    refine wpAnyH_ready (rs := [6]) (by kernel_rfl) (by simp) ?_
    refine AllReadyH.cons (o := ⟨none, _, _, _, _, _⟩) rfl (fun K hK => ?_) AllReadyH.nil
    have x0 := q4.cell (k := 0) rfl; have f0 := q4.frozen 0
    go_simp
    obtain ⟨y7, hz⟩ : ∃ z, z = (y6.setCell ⟨y5.heap.size, 0, none⟩ (.func (.func 93) #[.pointer (some ⟨B, 0, none⟩)] #[])) := ⟨_, rfl⟩
    rw [← hz]
    have n_ : New v0 y7 := by rw [hz]; exact (M0.setCell l4 _)
    have q5n := (WB.apart q5 (p := ⟨y5.heap.size, 0, none⟩) (by first | omega | (simp; done) | (simp; omega)) (.func (.func 93) #[.pointer (some ⟨B, 0, none⟩)] #[])); rw [← hz] at q5n
    have q4n : WB y7 y5.heap.size [.func (.func 93) #[.pointer (some ⟨B, 0, none⟩)] #[]] 86 := by rw [hz]; exact (WB.set q4 0 _)
    clear q5; have q5 := q5n; clear q5n
    clear q4; have q4 := q4n; clear q4n
    have sy7 : y6.heap.size ≤ y7.heap.size := by rw [hz]; simp
    refine hK.out _ _ (by rw [hz]; exact World.cell_set (hHeld) (by simp; omega)) (fun hHeld => ?_)
    clear hK K hz x0 f0
    (try simp only [Act.put, List.setIfInBounds_toArray, List.set_cons_zero, List.set_cons_succ])
    replace M0 := n_; clear n_
    refine wpAnyH_ready (rs := [7]) (by kernel_rfl) (by simp) ?_
    refine AllReadyH.cons (o := ⟨none, _, _, _, _, _⟩) rfl (fun K hK => ?_) AllReadyH.nil
    have x0 := q5.cell (k := 0) rfl; have f0 := q5.frozen 0
    go_simp
    obtain ⟨y8, hz⟩ : ∃ z, z = (y7.setCell ⟨y0.heap.size, 0, none⟩ (.func (.func 94) #[.pointer (some ⟨B, 0, none⟩)] #[])) := ⟨_, rfl⟩
    rw [← hz]
    have n_ : New v0 y8 := by rw [hz]; exact (M0.setCell l5 _)
    have q4n := (WB.apart q4 (p := ⟨y0.heap.size, 0, none⟩) (by first | omega | (simp; done) | (simp; omega)) (.func (.func 94) #[.pointer (some ⟨B, 0, none⟩)] #[])); rw [← hz] at q4n
    have q5n : WB y8 y0.heap.size [.func (.func 94) #[.pointer (some ⟨B, 0, none⟩)] #[]] 86 := by rw [hz]; exact (WB.set q5 0 _)
    clear q5; have q5 := q5n; clear q5n
    clear q4; have q4 := q4n; clear q4n
    have sy8 : y7.heap.size ≤ y8.heap.size := by rw [hz]; simp
    refine hK.out _ _ (by rw [hz]; exact World.cell_set (hHeld) (by simp; omega)) (fun hHeld => ?_)
    clear hK K hz x0 f0
    (try simp only [Act.put, List.setIfInBounds_toArray, List.set_cons_zero, List.set_cons_succ])
    replace M0 := n_; clear n_
    refine wpAnyH_done (by kernel_rfl) ?_ _
    go_wp2_with fail
    go_meet
    refine ⟨_, _, rfl, rfl, M0, ⟨by omega, by omega, by omega⟩, q4, q5⟩
  case rest =>
    obtain ⟨p5, p6, rfl, rfl, n5, ⟨l5, l6, l56⟩, b5, b6⟩ := hcut
    obtain ⟨w5, rfl⟩ : ∃ u : World, u = wc := ⟨_, rfl⟩
    have a2 := n5.cell a2_v0; clear a2_v0
    have a3 := n5.cell a3_v0; clear a3_v0
    have N5 := Lib.hid (N0.out.trans n5)
    have z5 := n5.size; clear n5
    have B5 := Lib.hid b5; have B6 := Lib.hid b6; clear b5 b6
    have c5 := B5.out.cell (k := 0) rfl; have c6 := B6.out.cell (k := 0) rfl; have f5 := B5.out.frozen 0; have f6 := B6.out.frozen 0
    have y5 := B5.out.lt; have y6 := B6.out.lt
    cases up
    case false =>
      go_wp2
      go_ret
      exact ⟨_, _, p5, p6, rfl, ⟨a2, a3, c5, c6⟩, ⟨by omega, by omega, by omega, by omega⟩, N5.out⟩
    case true =>
      go_upto_region 3 with fail
      go_cut [] (fun W => W = ((w5.setCell ⟨p5, 0, none⟩ (.func (.func 94) #[.pointer (some ⟨B, 0, none⟩)] #[])).setCell ⟨p6, 0, none⟩ (.func (.func 93) #[.pointer (some ⟨B, 0, none⟩)] #[])).drew)
      case first =>
        go_region
        all_goals (go_wp2_with fail; go_meet)
        all_goals rfl
      case rest =>
        obtain ⟨w6, rfl⟩ : ∃ u : World, u = wc := ⟨_, rfl⟩
        have d5 : WB w6 p5 [.func (.func 94) #[.pointer (some ⟨B, 0, none⟩)] #[]] 86 := by rw [hcut]; exact ((B5.out.set 0 _).apart (p := ⟨p6, 0, none⟩) (fun e => l56 (by simpa using e.symm)) _).new (New.refl _).drew
        have d6 : WB w6 p6 [.func (.func 93) #[.pointer (some ⟨B, 0, none⟩)] #[]] 86 := by rw [hcut]; exact (((B6.out.apart (p := ⟨p5, 0, none⟩) (fun e => l56 (by simpa using e)) _).set 0 _)).new (New.refl _).drew
        have e2 : w6.cell? ⟨w.heap.size, 0, none⟩ = some (.pointer (some ⟨B, 0, none⟩)) := by rw [hcut]; exact World.cell_set (World.cell_set a2 (by simp; omega)) (by simp; omega)
        have e3 : w6.cell? ⟨w.heap.size + 1, 0, none⟩ = some (.bool true) := by rw [hcut]; exact World.cell_set (World.cell_set a3 (by simp; omega)) (by simp; omega)
        have N6 := Lib.hid (show New w w6 by rw [hcut]; exact ((N5.out.setCell (by simp; omega) _).setCell (by simp; omega) _).drew)
        clear hcut c5 c6 a2 a3
        have g5 := d5.cell (k := 0) rfl; have g6 := d6.cell (k := 0) rfl; clear d5 d6
        go_wp2
        go_ret
        exact ⟨_, _, p5, p6, rfl, ⟨e2, e3, g5, g6⟩, ⟨by omega, by omega, by omega, by omega⟩, N6.out⟩

theorem fill_then {L : List Int} {s : LkS} {i : Nat} {n : Nat} (h : LkOk n s) (hi : i < n) : (fillL L s i).F[i]?.getD false = true := by
  have := h.f
  simp [fillL, show i < s.F.length by omega]
theorem empt_then {L : List Int} {s : LkS} {i : Nat} {n : Nat} (h : LkOk n s) (hi : i < n) : (emptL L s i).F[i]?.getD false = false := by
  have := h.f
  simp [emptL, show i < s.F.length by omega]

set_option maxRecDepth 100000 in
set_option maxHeartbeats 1000000 in
theorem pass_any (w : World) (B : Nat) (al : Option Addr) (cl bf cf bc cc bn cn : Nat) (L : List Int) (s : LkS) (i : Nat) (up : Bool) (p2 p3 p5 p6 : Nat) (hb : LkBox w B al cl bf cf bc cc bn cn L s) (hi : i < L.length) (hn : L.length ≤ 6) (he : PassEnv w B up p2 p3 p5 p6)
    (h2 : p2 ≠ bf ∧ p2 ≠ bc ∧ p2 ≠ bn) (h3 : p3 ≠ bf ∧ p3 ≠ bc ∧ p3 ≠ bn) (h5 : p5 ≠ bf ∧ p5 ≠ bc ∧ p5 ≠ bn) (h6 : p6 ≠ bf ∧ p6 ≠ bc ∧ p6 ≠ bn) :
    Calls Tryd.prog 95 #[.int .i64 i, .pointer (some ⟨p2, 0, none⟩), .pointer (some ⟨p3, 0, none⟩), .pointer (some ⟨p5, 0, none⟩), .pointer (some ⟨p6, 0, none⟩)] w fun e w' => e = .returned (.tuple #[]) ∧ LkBox w' B al cl bf cf bc cc bn cn L (passK L s i up) ∧ Chg (fun b => b = bf ∨ b = bc ∨ b = bn) w w' := by
  have HB := Lib.hid hb; clear hb
  have PE := Lib.hid he; clear he
  have c1 := HB.out.c1
  have cf0 := (HB.out.atF hi).1
  have e2 := PE.out.q2
  have e3 := PE.out.q3
  cases up
  case false =>
    cases hf : s.F[i]?.getD false
    case false =>
      rw [hf] at cf0
      have HF := Lib.hid hf; clear hf
      go_enter Tryd.func95, Tryd.ntmps95
      go_upto_region 0 with fail
      go_quiet (fail)
      obtain ⟨v0, hv0⟩ : ∃ xx : World, xx = w.drewN nq := ⟨_, rfl⟩
      rw [← hv0]
      have N0 := Lib.hid (show New w v0 by rw [hv0]; exact (New.refl _).drewN _)
      clear hv0
      replace HB := Lib.hid (HB.out.new N0.out)
      replace PE := Lib.hid (PE.out.new N0.out)
      clear c1 cf0 e2 e3
      have e5 := PE.out.q5
      simp only [Bool.false_eq_true, if_false, fvF] at e5
      go_wp2_with fail
      refine (iFill_any _ _ _ _ _ _ _ _ _ _ _ _ i HB.out hi (by omega) (HF.out)).mono ?_
      rintro e w1 ⟨rfl, b1, k1⟩
      have B1 := Lib.hid b1; clear b1
      have K1 := Lib.hid k1; clear k1
      replace PE := Lib.hid (PE.out.chg K1.out (by omega) (by omega) (by omega) (by omega))
      clear e5
      have e6 := PE.out.q6
      simp only [Bool.false_eq_true, if_false, fvE] at e6
      go_wp2_with fail
      refine (iEmpt_any _ _ _ _ _ _ _ _ _ _ _ _ i B1.out hi (by omega) (by rw [show fillK L s i = fillL L s i by unfold fillK; rw [if_neg (by rw [HF.out]; decide)]]; exact fill_then HB.out.ok hi)).mono ?_
      rintro e w2 ⟨rfl, b2, k2⟩
      have B2 := Lib.hid b2; clear b2
      have K2 := Lib.hid k2; clear k2
      clear e6
      go_wp2
      refine ⟨rfl, .tuple #[], by simp [results, Tryd.results95, go_sem], rfl, ?_, ((Chg.of_new N0.out).trans K1.out).trans K2.out⟩
      unfold passK
      rw [if_neg (by decide)]
      exact B2.out
    case true =>
      rw [hf] at cf0
      have HF := Lib.hid hf; clear hf
      go_enter Tryd.func95, Tryd.ntmps95
      go_upto_region 0 with fail
      go_quiet (fail)
      obtain ⟨v0, hv0⟩ : ∃ xx : World, xx = w.drewN nq := ⟨_, rfl⟩
      rw [← hv0]
      have N0 := Lib.hid (show New w v0 by rw [hv0]; exact (New.refl _).drewN _)
      clear hv0
      replace HB := Lib.hid (HB.out.new N0.out)
      replace PE := Lib.hid (PE.out.new N0.out)
      clear c1 cf0 e2 e3
      have e6 := PE.out.q6
      simp only [Bool.false_eq_true, if_false, fvE] at e6
      go_wp2_with fail
      refine (iEmpt_any _ _ _ _ _ _ _ _ _ _ _ _ i HB.out hi (by omega) (HF.out)).mono ?_
      rintro e w2 ⟨rfl, b2, k2⟩
      have B2 := Lib.hid b2; clear b2
      have K2 := Lib.hid k2; clear k2
      clear e6
      go_wp2
      refine ⟨rfl, .tuple #[], by simp [results, Tryd.results95, go_sem], rfl, ?_, (Chg.of_new N0.out).trans K2.out⟩
      unfold passK
      rw [if_neg (by decide)]
      rw [show fillK L s i = s by unfold fillK; rw [if_pos HF.out]]
      exact B2.out
  case true =>
    cases hf : s.F[i]?.getD false
    case false =>
      rw [hf] at cf0
      have HF := Lib.hid hf; clear hf
      go_enter Tryd.func95, Tryd.ntmps95
      go_upto_region 0 with fail
      go_quiet (fail)
      obtain ⟨v0, hv0⟩ : ∃ xx : World, xx = w.drewN nq := ⟨_, rfl⟩
      rw [← hv0]
      have N0 := Lib.hid (show New w v0 by rw [hv0]; exact (New.refl _).drewN _)
      clear hv0
      replace HB := Lib.hid (HB.out.new N0.out)
      replace PE := Lib.hid (PE.out.new N0.out)
      clear c1 cf0 e2 e3
      have e6 := PE.out.q6
      simp only [if_true, fvF] at e6
      go_wp2_with fail
      refine (iFill_any _ _ _ _ _ _ _ _ _ _ _ _ i HB.out hi (by omega) (HF.out)).mono ?_
      rintro e w2 ⟨rfl, b2, k2⟩
      have B2 := Lib.hid b2; clear b2
      have K2 := Lib.hid k2; clear k2
      clear e6
      go_wp2
      refine ⟨rfl, .tuple #[], by simp [results, Tryd.results95, go_sem], rfl, ?_, (Chg.of_new N0.out).trans K2.out⟩
      unfold passK
      rw [if_pos rfl]
      rw [show emptK L s i = s by unfold emptK; rw [if_neg (by rw [HF.out]; decide)]]
      exact B2.out
    case true =>
      rw [hf] at cf0
      have HF := Lib.hid hf; clear hf
      go_enter Tryd.func95, Tryd.ntmps95
      go_upto_region 0 with fail
      go_quiet (fail)
      obtain ⟨v0, hv0⟩ : ∃ xx : World, xx = w.drewN nq := ⟨_, rfl⟩
      rw [← hv0]
      have N0 := Lib.hid (show New w v0 by rw [hv0]; exact (New.refl _).drewN _)
      clear hv0
      replace HB := Lib.hid (HB.out.new N0.out)
      replace PE := Lib.hid (PE.out.new N0.out)
      clear c1 cf0 e2 e3
      have e5 := PE.out.q5
      simp only [if_true, fvE] at e5
      go_wp2_with fail
      refine (iEmpt_any _ _ _ _ _ _ _ _ _ _ _ _ i HB.out hi (by omega) (HF.out)).mono ?_
      rintro e w1 ⟨rfl, b1, k1⟩
      have B1 := Lib.hid b1; clear b1
      have K1 := Lib.hid k1; clear k1
      replace PE := Lib.hid (PE.out.chg K1.out (by omega) (by omega) (by omega) (by omega))
      clear e5
      have e6 := PE.out.q6
      simp only [if_true, fvF] at e6
      go_wp2_with fail
      refine (iFill_any _ _ _ _ _ _ _ _ _ _ _ _ i B1.out hi (by omega) (by rw [show emptK L s i = emptL L s i by unfold emptK; rw [if_pos HF.out]]; exact empt_then HB.out.ok hi)).mono ?_
      rintro e w2 ⟨rfl, b2, k2⟩
      have B2 := Lib.hid b2; clear b2
      have K2 := Lib.hid k2; clear k2
      clear e6
      go_wp2
      refine ⟨rfl, .tuple #[], by simp [results, Tryd.results95, go_sem], rfl, ?_, ((Chg.of_new N0.out).trans K1.out).trans K2.out⟩
      unfold passK
      rw [if_pos rfl]
      exact B2.out

theorem LkBox.lts {w : World} {B : Nat} {al : Option Addr} {cl bf cf bc cc bn cn : Nat} {L : List Int} {s : LkS} (h : LkBox w B al cl bf cf bc cc bn cn L s) (h1 : 1 ≤ L.length) : bf < w.heap.size ∧ bc < w.heap.size ∧ bn < w.heap.size :=
  ⟨World.block_lt_of_cell? _ _ (h.atF (i := 0) (by omega)).1, World.block_lt_of_cell? _ _ (h.atC (i := 0) (by omega)).1, World.block_lt_of_cell? _ _ (h.atN (i := 0) (by omega)).1⟩

set_option maxRecDepth 100000 in
set_option maxHeartbeats 1000000 in
theorem run_any (w : World) (B : Nat) (al : Option Addr) (cl bf cf bc cc bn cn : Nat) (L : List Int) (s : LkS) (up : Bool) (hb : LkBox w B al cl bf cf bc cc bn cn L s) (h1 : 1 ≤ L.length) (hn : L.length ≤ 6) :
    Calls Tryd.prog 64 #[.pointer (some ⟨B, 0, none⟩), .bool up] w fun e w' => e = .returned (.tuple #[]) ∧ LkBox w' B al cl bf cf bc cc bn cn L (shipK L s up) ∧ Chg (fun b => b = bf ∨ b = bc ∨ b = bn) w w' := by
  have hq : bf < w.heap.size ∧ bc < w.heap.size ∧ bn < w.heap.size := hb.lts h1
  have HB := Lib.hid hb; clear hb
  obtain ⟨n, hL⟩ : ∃ n, n = L.length := ⟨_, rfl⟩
  have HL := Lib.hid hL
  go_enter Tryd.func64, Tryd.ntmps64
  go_wp2_with fail
  refine (passing_any _ _ _).mono ?_
  rintro e w1 ⟨p2, p3, p5, p6, rfl, he, ⟨l2, l3, l5, l6⟩, n1⟩
  have PE := Lib.hid he; clear he
  have B1 := Lib.hid (HB.out.new n1)
  have N1 := Lib.hid n1; clear n1 HB
  have c0 := B1.out.c0
  rw [← hL] at c0 hn
  clear hL
  go_wp2_with fail
  go_loopw [23] (fun i wr => ∃ k : Nat, k ≤ n ∧ i = .int .i64 k ∧ LkBox wr B al cl bf cf bc cc bn cn L (shipTo L s up k) ∧ Chg (fun b => b = bf ∨ b = bc ∨ b = bn) w1 wr) (fun i _ => n - (intOf i).toNat)
  case atStart => exact ⟨0, Nat.zero_le _, rfl, B1.out, Chg.refl _ _⟩
  case round =>
    obtain ⟨k, hk, rfl, hbx, hch⟩ := hrel
    have BX := Lib.hid hbx; clear hbx
    have CH := Lib.hid hch; clear hch
    by_cases hlt : k < n
    · have PK := Lib.hid (PE.out.chg CH.out (by omega) (by omega) (by omega) (by omega))
      cases up
      case true =>
        go_wp2_with fail
        refine (pass_any _ _ _ _ _ _ _ _ _ _ _ _ k true p2 p3 p5 p6 BX.out (by rw [← HL.out]; exact hlt) (by rw [← HL.out]; exact hn) PK.out (by omega) (by omega) (by omega) (by omega)).mono ?_
        rintro e w2 ⟨rfl, b2, k2⟩
        have B2 := Lib.hid b2; clear b2
        have K2 := Lib.hid k2; clear k2
        go_wp2
        go_roundw
        case rel => exact ⟨k + 1, by omega, by go_num, by exact B2.out, CH.out.trans K2.out⟩
        case measure => simp [intOf]; omega
      case false =>
        have hw1 : IntKind.i64.wrap ((n : Int) - 1) = (n : Int) - 1 := IntWalk.i64_in _ (by omega)
        have hw2 : IntKind.i64.wrap ((n : Int) - 1 - (k : Int)) = ((n - 1 - k : Nat) : Int) := (IntWalk.i64_in _ (by omega)).trans (by omega)
        go_wp2_with fail
        first
          | refine (pass_any _ _ _ _ _ _ _ _ _ _ _ _ (n - 1 - k) false p2 p3 p5 p6 BX.out (by rw [← HL.out]; omega) (by rw [← HL.out]; exact hn) PK.out (by omega) (by omega) (by omega) (by omega)).mono ?_
          | (rw [show (n : Int) - 1 - (k : Int) = ((n - 1 - k : Nat) : Int) by omega]; refine (pass_any _ _ _ _ _ _ _ _ _ _ _ _ (n - 1 - k) false p2 p3 p5 p6 BX.out (by rw [← HL.out]; omega) (by rw [← HL.out]; exact hn) PK.out (by omega) (by omega) (by omega) (by omega)).mono ?_)
        rintro e w2 ⟨rfl, b2, k2⟩
        have B2 := Lib.hid b2; clear b2
        have K2 := Lib.hid k2; clear k2
        clear hw1 hw2
        go_wp2
        go_roundw
        case rel => exact ⟨k + 1, by omega, by go_num, by unfold shipTo lockAt; rw [if_neg (by decide), ← HL.out]; exact B2.out, CH.out.trans K2.out⟩
        case measure => simp [intOf]; omega
    · go_wp2
      refine ⟨rfl, .tuple #[], by simp [results, Tryd.results64, go_sem], rfl, ?_, (Chg.of_new N1.out).trans CH.out⟩
      obtain rfl : k = n := by omega
      unfold shipK
      rw [← HL.out]
      exact BX.out
end Go.Proofs.YtmhcnomkkjgidaaDoor
