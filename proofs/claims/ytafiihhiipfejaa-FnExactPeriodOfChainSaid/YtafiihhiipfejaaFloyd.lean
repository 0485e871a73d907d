/- A slow and a fast walk along a sequence whose next element hangs on the last alone. -/
import Derived.Test.YtafiihhiipfejaaRoundNo
import Derived.Test.YtafiihhiipfejaaSameS
namespace Go.Proofs.Ytafiihhiipfejaa

theorem steps_same {α : Type} {F : Nat → α} {T : α → α} (hT : ∀ i, F (i + 1) = T (F i)) {a b : Nat} (h : F a = F b) (i : Nat) : F (a + i) = F (b + i) := by
  induction i with
  | zero => exact h
  | succ i ih => rw [← Nat.add_assoc, ← Nat.add_assoc, hT, hT, ih]
theorem Meets.reduce {α : Type} {F : Nat → α} {T : α → α} (hT : ∀ i, F (i + 1) = T (F i)) {N K : Nat} (h : Meets F N K) (m : Nat) : F (K + m) = F (K + m % (N - K)) := by
  induction m using Nat.strongRecOn with
  | _ m ih =>
    have hK := h.2.1
    by_cases hm : m < N - K
    · rw [Nat.mod_eq_of_lt hm]
    · have e := steps_same hT h.2.2 (m - (N - K))
      have q := ih (m - (N - K)) (by omega)
      rw [show K + m = N + (m - (N - K)) by omega, ← e, q, Nat.mod_eq_sub_mod (show m ≥ N - K by omega)]
theorem Meets.lap {α : Type} {F : Nat → α} {T : α → α} (hT : ∀ i, F (i + 1) = T (F i)) {N K : Nat} (h : Meets F N K) : ∃ m, 1 ≤ m ∧ m ≤ N ∧ F m = F (m + m) := by
  have hK := h.2.1
  obtain ⟨P, hP⟩ : ∃ P, P = N - K := ⟨_, rfl⟩
  -- the first multiple of P that is K at least and 1 at least
  obtain ⟨m, m1, mK, mN, md⟩ : ∃ m, 1 ≤ m ∧ K ≤ m ∧ m ≤ N ∧ m % P = 0 := by
    by_cases k0 : K = 0
    · exact ⟨P, by omega, by omega, by omega, Nat.mod_self P⟩
    · have hd := Nat.div_add_mod (K + P - 1) P
      have hr := Nat.mod_lt (K + P - 1) (show P > 0 by omega)
      refine ⟨P * ((K + P - 1) / P), by omega, by omega, by omega, Nat.mul_mod_right _ _⟩
  refine ⟨m, m1, mN, ?_⟩
  have q1 := h.reduce hT (m - K)
  have q2 := h.reduce hT (m + m - K)
  rw [show K + (m - K) = m by omega, ← hP] at q1
  rw [show K + (m + m - K) = m + m by omega, ← hP] at q2
  rw [q1, q2, show m + m - K = (m - K) + m by omega, Nat.add_mod, md, Nat.add_zero, Nat.mod_mod]
/-- Where the two walks meet, the start and the period that are found then are the first ones. -/
theorem Meets.found {α : Type} {F : Nat → α} {T : α → α} (hT : ∀ i, F (i + 1) = T (F i)) {n s p : Nat} (n1 : 1 ≤ n) (hs : F s = F (n + s)) (hs' : ∀ i, i < s → F i ≠ F (n + i)) (p1 : 1 ≤ p) (hp : F (s + p) = F s) (hp' : ∀ i, 1 ≤ i → i < p → F (s + i) ≠ F s) :
    Meets F (s + p) s := by
  refine ⟨?_, by omega, hp.symm⟩
  rcases meet_ex F (s + p) with hd | ⟨N, K, h, hN⟩
  · exact hd
  · exfalso
    have hK := h.2.1
    obtain ⟨P, hP⟩ : ∃ P, P = N - K := ⟨_, rfl⟩
    have red : ∀ t, K ≤ t → ∃ r, r = (t - K) % P ∧ F t = F (K + r) ∧ K + r < N := fun t ht => by
      refine ⟨_, rfl, ?_, ?_⟩
      · have q := h.reduce hT (t - K)
        rw [show K + (t - K) = t by omega, ← hP] at q
        exact q
      · have := Nat.mod_lt (t - K) (show P > 0 by omega)
        omega
    have sK : K ≤ s := by
      by_cases g : K ≤ s
      · exact g
      · exfalso
        by_cases g2 : n + s < N
        · exact h.1 s (n + s) (by omega) g2 hs
        · obtain ⟨r, _, e, hr⟩ := red (n + s) (by omega)
          exact h.1 s (K + r) (by omega) hr (hs.trans e)
    obtain ⟨r1, e1, f1, g1⟩ := red s sK
    obtain ⟨r2, e2, f2, g2⟩ := red (n + s) (by omega)
    have er : r1 = r2 := by
      have q := f1.symm.trans (hs.trans f2)
      rcases Nat.lt_trichotomy r1 r2 with c | c | c
      · exact absurd q (h.1 _ _ (by omega) g2)
      · exact c
      · exact absurd q.symm (h.1 _ _ (by omega) g1)
    have nP : n % P = 0 := by
      have q := Nat.sub_mod_eq_zero_of_mod_eq (m := n + s - K) (n := s - K) (k := P) (by rw [← e1, ← e2, er])
      rwa [show n + s - K - (s - K) = n by omega] at q
    have eK : K = s := by
      by_cases g : K < s
      · refine absurd ?_ (hs' K g)
        have q := h.reduce hT n
        rw [← hP, nP, Nat.add_zero] at q
        rw [show n + K = K + n by omega]
        exact q.symm
      · omega
    subst eK
    have q := h.2.2
    refine hp' P (by omega) (by omega) ?_
    rw [show K + P = N by omega]
    exact q.symm

/-- Of a chain of n siphons the first n levels tell all four. -/
theorem chSt_rest {l : List (Int × Int × Int × Int)} {x : Int} {j : Nat} (hj : l.length ≤ j) (k : Nat) : lvAt (chSt l x k) j = lvAt zero4 j := by
  induction k with
  | zero => rfl
  | succ k ih =>
    show lvAt (chGo l (chSt l x k) x l.length).1 j = _
    rw [lvAt_later hj, ih]
theorem take_same {l : List (Int × Int × Int × Int)} {x : Int} (hc : ChainOk l) (x0 : 0 ≤ x) (x1 : x ≤ 60) (i j : Nat) : (chSt l x i).take l.length = (chSt l x j).take l.length ↔ chSt l x i = chSt l x j := by
  have oi := (chSt_ok (x := x) hc x0 x1 i).1
  have oj := (chSt_ok (x := x) hc x0 x1 j).1
  constructor
  · intro h
    refine sameL (oi.trans oj.symm) fun m hm => ?_
    show lvAt (chSt l x i) m = lvAt (chSt l x j) m
    by_cases g : m < l.length
    · rw [← lvAt_take g, ← lvAt_take g, h]
    · rw [chSt_rest (by omega), chSt_rest (by omega)]
  · intro h; rw [h]
theorem chSt_step (l : List (Int × Int × Int × Int)) (x : Int) : ∀ i, chSt l x (i + 1) = (fun L => chTick l L x) (chSt l x i) := fun _ => rfl

def pcM (l : List (Int × Int × Int × Int)) (x : Int) : Option (Nat × Nat) := if (chainB l && inB 0 60 x) = true then (meetN (chSt l x) 5000).map fun n => (n, meetK (chSt l x) n) else none
def pcS (l : List (Int × Int × Int × Int)) (x : Int) : Int := match pcM l x with | some (_, k) => (k : Int) | none => 0
def pcP (l : List (Int × Int × Int × Int)) (x : Int) : Int := match pcM l x with | some (n, k) => (n : Int) - k | none => 0
def pcB (l : List (Int × Int × Int × Int)) (x : Int) : Bool := (pcM l x).isSome
theorem pc_bad {l : List (Int × Int × Int × Int)} {x : Int} (h : (chainB l && inB 0 60 x) = false) : pcS l x = 0 ∧ pcP l x = 0 ∧ pcB l x = false := by
  have e : pcM l x = none := by unfold pcM; rw [h]; rfl
  unfold pcS pcP pcB
  rw [e]
  exact ⟨rfl, rfl, rfl⟩
theorem pc_no {l : List (Int × Int × Int × Int)} {x : Int} (h : (chainB l && inB 0 60 x) = true) (hm : ∀ i j, i < j → j < 5001 → chSt l x i ≠ chSt l x j) : pcS l x = 0 ∧ pcP l x = 0 ∧ pcB l x = false := by
  have e : pcM l x = none := by unfold pcM; rw [if_pos h, meetN_none hm]; rfl
  unfold pcS pcP pcB
  rw [e]
  exact ⟨rfl, rfl, rfl⟩
theorem pc_yes {l : List (Int × Int × Int × Int)} {x : Int} (h : (chainB l && inB 0 60 x) = true) {N K : Nat} (hm : Meets (chSt l x) N K) (hN : N ≤ 5000) : pcS l x = K ∧ pcP l x = (N : Int) - K ∧ pcB l x = true := by
  have e : pcM l x = some (N, K) := by unfold pcM; rw [if_pos h, hm.n_is hN]; show some (N, meetK _ N) = _; rw [hm.k_is]
  unfold pcS pcP pcB
  rw [e]
  exact ⟨rfl, rfl, rfl⟩

theorem iPeriodOfChain_any (w : World) (aa : Option Addr) (n ca : Nat) (l : List (Int × Int × Int × Int)) (x : Int) (ha : Siphons w aa n ca l) :
    Calls Try.prog 32 #[.slice aa n ca, .int .i64 x] w fun e w' => e = .returned (.tuple #[.int .i64 (pcS l x), .int .i64 (pcP l x), .bool (pcB l x)]) ∧ New w w' := by
  by_cases h : (chainB l && inB 0 60 x) = true
  · have h' := h
    rw [Bool.and_eq_true] at h'
    obtain ⟨kf, hkf⟩ := keyFn_ex
    rcases meet_ex (chSt l x) 5001 with hd | ⟨N, K, hm, hN⟩
    · obtain ⟨e1, e2, e3⟩ := pc_no h hd
      rw [e1, e2, e3]
      exact iPeriodOfChain_no hkf w aa n ca l x ha h'.1 h'.2 hd
    · obtain ⟨e1, e2, e3⟩ := pc_yes h hm (by omega)
      rw [e1, e2, e3]
      exact iPeriodOfChain_yes hkf w aa n ca l x N K ha h'.1 h'.2 hm (by omega)
  · have hf : (chainB l && inB 0 60 x) = false := by simpa using h
    obtain ⟨e1, e2, e3⟩ := pc_bad hf
    rw [e1, e2, e3]
    exact iPeriodOfChain_bad w aa n ca l x ha hf
end Go.Proofs.Ytafiihhiipfejaa
