/- The state of a row as a value: six basins, with empty ones behind, and their number; what a tick makes of it. -/
import Derived.Test.YtchnnbkaiagpgaaBlk
import Derived.Test.YtchnnbkaiagpgaaWeirI
namespace Go.Proofs.Ytchnnbkaiagpgaa
open Go.RowKit

/-- The cells of a state. -/
def stC (f : Nat → Int × Int × Int) (n : Int) : List Value :=
  [.int .i64 (f 0).1, .int .i64 (f 0).2.1, .int .i64 (f 0).2.2, .int .i64 (f 1).1, .int .i64 (f 1).2.1, .int .i64 (f 1).2.2, .int .i64 (f 2).1, .int .i64 (f 2).2.1, .int .i64 (f 2).2.2,
   .int .i64 (f 3).1, .int .i64 (f 3).2.1, .int .i64 (f 3).2.2, .int .i64 (f 4).1, .int .i64 (f 4).2.1, .int .i64 (f 4).2.2, .int .i64 (f 5).1, .int .i64 (f 5).2.1, .int .i64 (f 5).2.2, .int .i64 n]
theorem stC_length (f : Nat → Int × Int × Int) (n : Int) : (stC f n).length = 19 := rfl
theorem stC_one (f : Nat → Int × Int × Int) (n : Int) : ∀ v ∈ stC f n, v.oneCell' = true := by
  intro v hv
  simp only [stC, List.mem_cons, List.not_mem_nil, or_false] at hv
  rcases hv with rfl | rfl | rfl | rfl | rfl | rfl | rfl | rfl | rfl | rfl | rfl | rfl | rfl | rfl | rfl | rfl | rfl | rfl | rfl <;> rfl
theorem stC_get (f : Nat → Int × Int × Int) (n : Int) (k : Nat) (hk : k < 6) : (stC f n)[k * 3]? = some (.int .i64 (f k).1) ∧ (stC f n)[k * 3 + 1]? = some (.int .i64 (f k).2.1) ∧ (stC f n)[k * 3 + 2]? = some (.int .i64 (f k).2.2) := by
  match k, hk with
  | 0, _ => exact ⟨rfl, rfl, rfl⟩
  | 1, _ => exact ⟨rfl, rfl, rfl⟩
  | 2, _ => exact ⟨rfl, rfl, rfl⟩
  | 3, _ => exact ⟨rfl, rfl, rfl⟩
  | 4, _ => exact ⟨rfl, rfl, rfl⟩
  | 5, _ => exact ⟨rfl, rfl, rfl⟩
theorem stC_count (f : Nat → Int × Int × Int) (n : Int) : (stC f n)[18]? = some (.int .i64 n) := rfl
theorem stC_congr {f g : Nat → Int × Int × Int} (h : ∀ k, k < 6 → f k = g k) (n : Int) : stC f n = stC g n := by
  unfold stC
  rw [h 0 (by omega), h 1 (by omega), h 2 (by omega), h 3 (by omega), h 4 (by omega), h 5 (by omega)]
abbrev stV (f : Nat → Int × Int × Int) (n : Int) : Value := .agg (stC f n).toArray
/-- The basins of a list, with empty places behind them. -/
def basA (l : List (Int × Int × Int)) (k : Nat) : Int × Int × Int := l[k]?.getD (0, 0, 0)
/-- The value of the state of a row. -/
abbrev rowV (l : List (Int × Int × Int)) : Value := stV (basA l) l.length

/-- The cells of what a tick makes. -/
def tkC (f : Nat → Int × Int × Int) (n : Int) (h : Nat → Int) (g : Int) : List Value :=
  stC f n ++ [.int .i64 (h 0), .int .i64 (h 1), .int .i64 (h 2), .int .i64 (h 3), .int .i64 (h 4), .int .i64 (h 5), .int .i64 g]
theorem tkC_length (f : Nat → Int × Int × Int) (n : Int) (h : Nat → Int) (g : Int) : (tkC f n h g).length = 26 := rfl
theorem tkC_one (f : Nat → Int × Int × Int) (n : Int) (h : Nat → Int) (g : Int) : ∀ v ∈ tkC f n h g, v.oneCell' = true := by
  intro v hv
  rcases List.mem_append.1 hv with hv | hv
  · exact stC_one f n v hv
  · simp only [List.mem_cons, List.not_mem_nil, or_false] at hv
    rcases hv with rfl | rfl | rfl | rfl | rfl | rfl | rfl <;> rfl
theorem tkC_get (f : Nat → Int × Int × Int) (n : Int) (h : Nat → Int) (g : Int) (k : Nat) (hk : k < 6) :
    (tkC f n h g)[k * 3]? = some (.int .i64 (f k).1) ∧ (tkC f n h g)[k * 3 + 1]? = some (.int .i64 (f k).2.1) ∧ (tkC f n h g)[k * 3 + 2]? = some (.int .i64 (f k).2.2) ∧ (tkC f n h g)[19 + k]? = some (.int .i64 (h k)) := by
  match k, hk with
  | 0, _ => exact ⟨rfl, rfl, rfl, rfl⟩
  | 1, _ => exact ⟨rfl, rfl, rfl, rfl⟩
  | 2, _ => exact ⟨rfl, rfl, rfl, rfl⟩
  | 3, _ => exact ⟨rfl, rfl, rfl, rfl⟩
  | 4, _ => exact ⟨rfl, rfl, rfl, rfl⟩
  | 5, _ => exact ⟨rfl, rfl, rfl, rfl⟩
theorem tkC_given (f : Nat → Int × Int × Int) (n : Int) (h : Nat → Int) (g : Int) : (tkC f n h g)[25]? = some (.int .i64 g) := rfl
theorem tkC_state (f : Nat → Int × Int × Int) (n : Int) (h : Nat → Int) (g : Int) : ∀ j v, (stC f n)[j]? = some v → (tkC f n h g)[0 + j]? = some v := by
  intro j v hv
  rw [Nat.zero_add]
  unfold tkC
  rw [List.getElem?_append_left (List.getElem?_eq_some_iff.1 hv).1]
  exact hv
theorem tkC_had (f : Nat → Int × Int × Int) (n : Int) (h : Nat → Int) (g : Int) (k : Nat) (hk : k < 6) (x : Int) : (tkC f n h g).set (19 + k) (.int .i64 x) = tkC f n (fun j => if j = k then x else h j) g := by
  match k, hk with
  | 0, _ => rfl
  | 1, _ => rfl
  | 2, _ => rfl
  | 3, _ => rfl
  | 4, _ => rfl
  | 5, _ => rfl
theorem tkC_held (f : Nat → Int × Int × Int) (n : Int) (h : Nat → Int) (g : Int) (k : Nat) (hk : k < 6) (x : Int) : (tkC f n h g).set (k * 3 + 2) (.int .i64 x) = tkC (fun j => if j = k then ((f j).1, (f j).2.1, x) else f j) n h g := by
  match k, hk with
  | 0, _ => rfl
  | 1, _ => rfl
  | 2, _ => rfl
  | 3, _ => rfl
  | 4, _ => rfl
  | 5, _ => rfl
theorem tkC_give (f : Nat → Int × Int × Int) (n : Int) (h : Nat → Int) (g x : Int) : (tkC f n h g).set 25 (.int .i64 x) = tkC f n h x := rfl
theorem tkC_congr {f f' : Nat → Int × Int × Int} {h h' : Nat → Int} (e1 : ∀ k, k < 6 → f k = f' k) (e2 : ∀ k, k < 6 → h k = h' k) (n g : Int) : tkC f n h g = tkC f' n h' g := by
  unfold tkC
  rw [stC_congr e1, e2 0 (by omega), e2 1 (by omega), e2 2 (by omega), e2 3 (by omega), e2 4 (by omega), e2 5 (by omega)]
abbrev tkV (f : Nat → Int × Int × Int) (n : Int) (h : Nat → Int) (g : Int) : Value := .agg (tkC f n h g).toArray

/-- A row copied over the empty places. -/
theorem stC_copied (l : List (Int × Int × Int)) (hl : l.length ≤ 6) (n : Int) : splice (stC (fun _ => (0, 0, 0)) n) 0 (flatBasin l) = stC (basA l) n := by
  match l, hl with
  | [], _ => rfl
  | [_], _ => rfl
  | [_, _], _ => rfl
  | [_, _, _], _ => rfl
  | [_, _, _, _], _ => rfl
  | [_, _, _, _, _], _ => rfl
  | [_, _, _, _, _, _], _ => rfl
theorem flatBasin_one (l : List (Int × Int × Int)) : ∀ v ∈ flatBasin l, v.oneCell' = true := by
  intro v hv
  unfold flatBasin at hv
  obtain ⟨p, _, hp⟩ := List.mem_flatMap.1 hv
  simp only [List.mem_cons, List.not_mem_nil, or_false] at hp
  rcases hp with rfl | rfl | rfl <;> rfl
theorem Basins.source {w : World} {ad : Addr} {n cap : Nat} {l : List (Int × Int × Int)} (h : Basins w (some ad) n cap l) : ∀ j v, (flatBasin l)[j]? = some v → w.cell? (ad.add j) = some v := by
  intro j v hv
  have hj : j < (flatBasin l).length := (List.getElem?_eq_some_iff.1 hv).1
  rw [flatBasin_length] at hj
  have hq : j / 3 < l.length := by omega
  obtain ⟨b, o, e, c0, c1, c2⟩ := h.2.2.2.1 (j / 3) (by have := h.1; omega)
  cases e
  obtain ⟨g0, g1, g2⟩ := flatBasin_get l (j / 3) hq
  rw [Addr.add_mid]
  have hr : j % 3 = 0 ∨ j % 3 = 1 ∨ j % 3 = 2 := by omega
  rcases hr with hr | hr | hr
  · rw [show j / 3 * 3 = j by omega] at g0 c0
    rw [c0, ← g0, hv]
  · rw [show j / 3 * 3 + 1 = j by omega] at g1
    rw [show o + j / 3 * 3 + 1 = o + j by omega] at c1
    rw [c1, ← g1, hv]
  · rw [show j / 3 * 3 + 2 = j by omega] at g2
    rw [show o + j / 3 * 3 + 2 = o + j by omega] at c2
    rw [c2, ← g2, hv]
end Go.Proofs.Ytchnnbkaiagpgaa
