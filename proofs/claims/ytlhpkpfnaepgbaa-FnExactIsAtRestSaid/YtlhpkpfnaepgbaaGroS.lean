/- GroupsOf: the model's. -/
import Derived.Test.YtlhpkpfnaepgbaaGroI
import Derived.BigQuiet
import Derived.Deep.RegionHeld3
import Derived.Deep.RegionLawGrows
namespace Go.Proofs.Ytlhpkpfnaepgbaa
open Go.RowKit Go.IntWalk

def sumG (g : Nat → Nat) : Nat → Nat
  | 0 => 0
  | n + 1 => sumG g n + g n
theorem sumG_congr {g h : Nat → Nat} : ∀ {n : Nat}, (∀ j, j < n → g j = h j) → sumG g n = sumG h n
  | 0, _ => rfl
  | n + 1, e => by show sumG g n + g n = sumG h n + h n; rw [sumG_congr (fun j hj => e j (by omega)), e n (by omega)]
theorem sumG_le {g h : Nat → Nat} : ∀ {n : Nat}, (∀ j, j < n → g j ≤ h j) → sumG g n ≤ sumG h n
  | 0, _ => Nat.le_refl _
  | n + 1, e => by have a := sumG_le (n := n) (fun j hj => e j (by omega)); have b := e n (by omega); show sumG g n + g n ≤ sumG h n + h n; omega
theorem sumG_lt {g h : Nat → Nat} {i : Nat} (hl : g i < h i) : ∀ {n : Nat}, (∀ j, j < n → g j ≤ h j) → i < n → sumG g n < sumG h n
  | 0, _, hi => absurd hi (Nat.not_lt_zero _)
  | n + 1, e, hi => by
    show sumG g n + g n < sumG h n + h n
    have b := e n (by omega)
    by_cases q : i = n
    · subst q
      have a := sumG_le (n := i) (fun j hj => e j (by omega))
      omega
    · have a := sumG_lt hl (n := n) (fun j hj => e j (by omega)) (by omega)
      omega
def rowSum (w : World) (B n : Nat) : Nat := sumG (fun j => (intOf ((w.cell? ⟨B, j, none⟩).getD undef)).toNat) n
theorem rowSum_is {w : World} {B n : Nat} {t : TypeId} {g : Nat → Nat} (h : w.rowIs B t n (fun j => .int .i64 ((g j : Nat) : Int))) : rowSum w B n = sumG g n :=
  sumG_congr fun j hj => by rw [h.cell hj]; rfl
def putG (g : Nat → Nat) (i v : Nat) (j : Nat) : Nat := if j = i then v else g j
theorem putG_row {w : World} {B n : Nat} {t : TypeId} {g : Nat → Nat} (h : w.rowIs B t n (fun j => .int .i64 ((g j : Nat) : Int))) (i v : Nat) : (w.setCell ⟨B, i, none⟩ (.int .i64 ((v : Nat) : Int))).rowIs B t n (fun j => .int .i64 ((putG g i v j : Nat) : Int)) :=
  (h.set i _).congr fun j _ => by unfold putG; split <;> rfl
theorem putG_le {g : Nat → Nat} {i v : Nat} (hv : v < g i) (j : Nat) : putG g i v j ≤ g j := by
  unfold putG
  split
  · rename_i e; subst e; omega
  · exact Nat.le_refl _
theorem putG_sum {g : Nat → Nat} {i v n : Nat} (hi : i < n) (hv : v < g i) : sumG (putG g i v) n < sumG g n :=
  sumG_lt (i := i) (by unfold putG; rw [if_pos rfl]; exact hv) (fun j _ => putG_le hv j) hi
theorem putG_self (g : Nat → Nat) (i v : Nat) : putG g i v i = v := by unfold putG; rw [if_pos rfl]
/-- Where one pass over the joins stands: what it has done since it began at g0. -/
structure Pass (J : List (Nat × Nat)) (n : Nat) (g0 : Nat → Nat) (k : Nat) (g : Nat → Nat) (c : Bool) : Prop where
  below : Below J g
  same : c = false → ∀ p ∈ J.take k, g p.1 = g p.2
  less : c = true → sumG g n < sumG g0 n
  le : sumG g n ≤ sumG g0 n
/-- Where one join of it stands. -/
structure Half (J : List (Nat × Nat)) (n : Nat) (g0 ga : Nat → Nat) (ca : Bool) (x y m r : Nat) (g : Nat → Nat) (c : Bool) : Prop where
  below : Below J g
  one : m = g x ∨ m = g y
  keep : c = false → ca = false ∧ g = ga
  low : c = false → (1 ≤ r → g x ≤ m) ∧ (2 ≤ r → g y ≤ m)
  less : c = true → sumG g n < sumG g0 n
  le : sumG g n ≤ sumG g0 n
theorem Pass.begin {J : List (Nat × Nat)} {n : Nat} {g : Nat → Nat} (h : Below J g) : Pass J n g 0 g false := ⟨h, fun _ p hp => by simp at hp, (fun e => by cases e), Nat.le_refl _⟩
theorem Pass.half {J : List (Nat × Nat)} {n k : Nat} {g0 g : Nat → Nat} {c : Bool} (h : Pass J n g0 k g c) (x y : Nat) : Half J n g0 g c x y (min (g x) (g y)) 0 g c :=
  ⟨h.below, by omega, fun e => ⟨e, rfl⟩, fun _ => ⟨fun q => by omega, fun q => by omega⟩, h.less, h.le⟩
theorem Half.put {J : List (Nat × Nat)} {n x y m r : Nat} {g0 ga g : Nat → Nat} {ca c : Bool} (h : Half J n g0 ga ca x y m r g c) (hp : (x, y) ∈ J) {e : Nat} (he : e = x ∨ e = y) (hen : e < n) (hm : m < g e) (r' : Nat) :
    Half J n g0 ga ca x y m r' (putG g e m) true :=
  ⟨below_put h.below hp he h.one hm, (by rcases he with rfl | rfl <;> simp [putG_self]), (fun q => by cases q), (fun q => by cases q), fun _ => Nat.lt_of_lt_of_le (putG_sum hen hm) h.le, Nat.le_of_lt (Nat.lt_of_lt_of_le (putG_sum hen hm) h.le)⟩
theorem Half.stay0 {J : List (Nat × Nat)} {n x y m : Nat} {g0 ga g : Nat → Nat} {ca c : Bool} (h : Half J n g0 ga ca x y m 0 g c) (hm : g x ≤ m) : Half J n g0 ga ca x y m 1 g c :=
  ⟨h.below, h.one, h.keep, fun _ => ⟨fun _ => hm, fun q => by omega⟩, h.less, h.le⟩
theorem Half.stay1 {J : List (Nat × Nat)} {n x y m : Nat} {g0 ga g : Nat → Nat} {ca c : Bool} (h : Half J n g0 ga ca x y m 1 g c) (hm : g y ≤ m) : Half J n g0 ga ca x y m 2 g c :=
  ⟨h.below, h.one, h.keep, fun e => ⟨fun _ => (h.low e).1 (by omega), fun _ => hm⟩, h.less, h.le⟩
theorem Half.done {J : List (Nat × Nat)} {n k x y : Nat} {g0 ga g : Nat → Nat} {ca c : Bool} (h : Half J n g0 ga ca x y (min (ga x) (ga y)) 2 g c) (hk : k < J.length) (hJ : J[k]?.getD (0, 0) = (x, y)) (pa : Pass J n g0 k ga ca) : Pass J n g0 (k + 1) g c :=
  ⟨h.below, fun e p hp => by
    obtain ⟨e1, e2⟩ := h.keep e
    obtain ⟨l1, l2⟩ := h.low e
    subst e2
    have l1 := l1 (by omega)
    have l2 := l2 (by omega)
    rw [List.take_add_one, List.getElem?_eq_getElem hk] at hp
    rw [List.getElem?_eq_getElem hk] at hJ
    simp only [Option.getD_some] at hJ
    simp only [Option.toList_some, List.mem_append, List.mem_singleton] at hp
    rcases hp with hp | hp
    · exact pa.same e1 p hp
    · subst hp
      rw [hJ]
      show g x = g y
      omega, h.less, h.le⟩
end Go.Proofs.Ytlhpkpfnaepgbaa
