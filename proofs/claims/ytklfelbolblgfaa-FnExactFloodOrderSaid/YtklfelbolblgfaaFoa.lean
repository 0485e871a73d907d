/- FloodOrder: the program's insertion sort of at most six tanks by their floors. -/
import Derived.Test.YtklfelbolblgfaaOrdM
import Derived.Test.YtklfelbolblgfaaSumF
import Derived.Test.YtklfelbolblgfaaComI
import Derived.Deep.QuietTactic
namespace Go.Proofs.Ytklfelbolblgfaa
open Go.RowKit Go.IntWalk Go.Shelf

/-- The row when the first k are in order: what lies at p. -/
def rowO (f : Nat → Int) (k p : Nat) : Nat := if p < k then (ordK f k)[p]?.getD 0 else p
/-- The row while k, which has come down to j, goes on down. -/
def midO (O : List Nat) (k j p : Nat) : Nat := if p < j then O[p]?.getD 0 else if p = j then k else if p ≤ k then O[p - 1]?.getD 0 else p
theorem rowO_one (f : Nat → Int) (p : Nat) : rowO f 1 p = p := by
  unfold rowO
  by_cases h : p < 1
  · obtain rfl : p = 0 := by omega
    rw [if_pos h]
    simp [ordK, insO, posO]
  · rw [if_neg h]
theorem midO_start (f : Nat → Int) (k p : Nat) : midO (ordK f k) k k p = rowO f k p := by
  unfold midO rowO
  by_cases h : p < k
  · rw [if_pos h, if_pos h]
  · rw [if_neg h, if_neg h]
    by_cases e : p = k
    · rw [if_pos e, e]
    · rw [if_neg e, if_neg (by omega)]
theorem midO_at (O : List Nat) (k j : Nat) : midO O k j j = k := by
  unfold midO; rw [if_neg (by omega), if_pos rfl]
theorem midO_below (O : List Nat) {k j p : Nat} (h : p < j) : midO O k j p = O[p]?.getD 0 := by
  unfold midO; rw [if_pos h]
theorem midO_down (O : List Nat) {k q : Nat} (hq : q < k) (p : Nat) : midO O k q p = if p = q then k else if p = q + 1 then O[q]?.getD 0 else midO O k (q + 1) p := by
  unfold midO
  by_cases h1 : p < q
  · rw [if_pos h1, if_neg (by omega), if_neg (by omega), if_pos (by omega)]
  · rw [if_neg h1]
    by_cases h2 : p = q
    · rw [if_pos h2, if_pos h2]
    · rw [if_neg h2, if_neg h2]
      by_cases h3 : p = q + 1
      · subst h3
        rw [if_pos (by omega), if_pos rfl, Nat.add_sub_cancel]
      · rw [if_neg h3, if_neg (show ¬ p < q + 1 by omega), if_neg h3]
theorem midO_end {f : Nat → Int} {k j : Nat} (hj : j ≤ k) (h1 : ∀ p, j ≤ p → p < k → f k < f ((ordK f k)[p]?.getD 0)) (h2 : 0 < j → f ((ordK f k)[j - 1]?.getD 0) ≤ f k) (p : Nat) :
    midO (ordK f k) k j p = rowO f (k + 1) p := by
  have hl := ordK_length f k
  have hs := ordK_sorted f k
  have e : j = posO f (ordK f k) k := by
    have a1 := pos_le f (ordK f k) k
    rcases Nat.lt_trichotomy j (posO f (ordK f k) k) with h | h | h
    · have b1 := pos_lt h
      have b2 := h1 j (Nat.le_refl _) (by omega)
      omega
    · exact h
    · have b1 := pos_end (f := f) (O := ordK f k) (i := k) (by omega)
      have b2 := h2 (by omega)
      have x1 : posO f (ordK f k) k < (ordK f k).length := by omega
      have x2 : j - 1 < (ordK f k).length := by omega
      rw [List.getElem?_eq_getElem x1] at b1
      rw [List.getElem?_eq_getElem x2] at b2
      simp only [Option.getD_some] at b1 b2
      by_cases q : posO f (ordK f k) k = j - 1
      · simp only [q] at b1; omega
      · have := List.pairwise_iff_getElem.1 hs _ _ x1 x2 (by omega)
        omega
  unfold rowO
  by_cases hp : p < k + 1
  · rw [if_pos hp]
    show _ = (insO f (ordK f k) k)[p]?.getD 0
    unfold insO
    rw [← e]
    have ht : ((ordK f k).take j).length = j := by rw [List.length_take]; omega
    unfold midO
    by_cases c1 : p < j
    · rw [if_pos c1, List.getElem?_append_left (by omega), List.getElem?_take_of_lt c1]
    · rw [if_neg c1, List.getElem?_append_right (by omega), ht]
      by_cases c2 : p = j
      · subst c2; rw [if_pos rfl]; simp
      · rw [if_neg c2, if_pos (by omega)]
        obtain ⟨r, hr⟩ : ∃ r, p = j + r + 1 := ⟨p - j - 1, by omega⟩
        subst hr
        rw [show j + r + 1 - j = r + 1 by omega, List.getElem?_cons_succ, List.getElem?_drop, show j + r + 1 - 1 = j + r by omega]
  · rw [if_neg hp]
    unfold midO
    rw [if_neg (by omega), if_neg (by omega), if_neg (by omega)]
theorem rowO_lt {f : Nat → Int} {k p n : Nat} (hk : k ≤ n) (hp : p < n) : rowO f k p < n := by
  unfold rowO
  by_cases h : p < k
  · rw [if_pos h]; have := ordK_lt (f := f) h; omega
  · rw [if_neg h]; exact hp

def cmpI (a b : Int) : Int := if a < b then -1 else if b < a then 1 else 0
set_option maxRecDepth 100000 in
theorem notNaN_any (w : World) (a : Int) :
    Calls Try.prog 88 #[.int .i64 a] w fun e w' => e = .returned (.bool false) ∧ w' = w := by
  go_enter Try.func88, Try.ntmps88
  go_wp2
  go_ret
  exact ⟨rfl, rfl⟩
set_option maxRecDepth 100000 in
theorem compareInt_any (w : World) (a b : Int) :
    Calls Try.prog 73 #[.int .i64 a, .int .i64 b] w fun e w' => e = .returned (.int .i64 (cmpI a b)) ∧ w' = w := by
  by_cases h1 : a < b
  · go_enter Try.func73, Try.ntmps73
    go_wp2_with fail
    refine (notNaN_any _ _).mono ?_
    rintro e w1 ⟨rfl, rfl⟩
    go_wp2_with fail
    refine (notNaN_any _ _).mono ?_
    rintro e w1 ⟨rfl, rfl⟩
    go_wp2
    go_ret
    exact ⟨ret_int (by unfold cmpI; rw [if_pos h1]), rfl⟩
  · by_cases h2 : b < a
    · go_enter Try.func73, Try.ntmps73
      go_wp2_with fail
      refine (notNaN_any _ _).mono ?_
      rintro e w1 ⟨rfl, rfl⟩
      go_wp2_with fail
      refine (notNaN_any _ _).mono ?_
      rintro e w1 ⟨rfl, rfl⟩
      go_wp2
      go_ret
      exact ⟨ret_int (by unfold cmpI; rw [if_neg (by omega), if_pos h2]), rfl⟩
    · go_enter Try.func73, Try.ntmps73
      go_wp2_with fail
      refine (notNaN_any _ _).mono ?_
      rintro e w1 ⟨rfl, rfl⟩
      go_wp2_with fail
      refine (notNaN_any _ _).mono ?_
      rintro e w1 ⟨rfl, rfl⟩
      go_wp2
      go_ret
      exact ⟨ret_int (by unfold cmpI; rw [if_neg (by omega), if_neg (by omega)]), rfl⟩
theorem compareQ (w : World) (a b : Int) :
    Calls Try.prog 73 #[.int .i64 a, .int .i64 b] w fun e w' => e = .returned (.int .i64 (cmpI a b)) ∧ ∃ q, w' = w.drewN q :=
  (compareInt_any w a b).mono fun _ _ k => ⟨k.1, 0, k.2⟩

theorem fo_enters : Enters Try.prog 72 := enters_of Try.func72 (by kernel_rfl) rfl
set_option maxRecDepth 100000 in
theorem foCmp_any (w : World) (P : Nat) (aa : Option Addr) (n ca : Nat) (T : List Tk) (ha : Tanks w aa n ca T) (hP : w.cell? ⟨P, 0, none⟩ = some (.slice aa n ca)) (x y : Nat) (hx : x < n) (hy : y < n) :
    Calls Try.prog 72 #[.int .i64 x, .int .i64 y, .pointer (some ⟨P, 0, none⟩)] w fun e w' => e = .returned (.int .i64 (cmpI (flT T x) (flT T y))) ∧ ∃ q, w' = w.drewN q := by
  obtain ⟨b, o, rfl, x0, x1, x2⟩ := ha.2.2.2.1 x hx
  obtain ⟨b', o', eb, y0, y1, y2⟩ := ha.2.2.2.1 y hy
  cases eb
  obtain ⟨p, hp⟩ : ∃ p, p = flT T x := ⟨_, rfl⟩
  obtain ⟨q, hq⟩ : ∃ q, q = flT T y := ⟨_, rfl⟩
  rw [show (T[x]?.getD (0, 0, 0)).2.1 = p from hp.symm] at x1
  rw [show (T[y]?.getD (0, 0, 0)).2.1 = q from hq.symm] at y1
  have HP := Lib.hid hp; have HQ := Lib.hid hq
  clear hp hq x0 x2 y0 y2 ha
  have i1 : (0 : Int) ≤ (x : Int) := by omega
  have i2 : (x : Int) < (n : Int) := by omega
  have i3 : (0 : Int) ≤ (y : Int) := by omega
  have i4 : (y : Int) < (n : Int) := by omega
  go_enter Try.func72, Try.ntmps72
  go_wp2_with fail
  go_quiet ((go_at_call 73; exact Calls.quiet_of (compareQ _ _ _)))
  go_wp2
  go_ret
  exact ⟨ret_int (by rw [← HP.out, ← HQ.out]), _, rfl⟩
end Go.Proofs.Ytklfelbolblgfaa
