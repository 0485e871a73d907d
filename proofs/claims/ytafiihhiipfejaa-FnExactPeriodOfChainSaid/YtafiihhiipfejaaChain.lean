/- Chains of siphons, on numbers. -/
import Derived.Test.YtafiihhiipfejaaRun
import Derived.Test.YtafiihhiipfejaaRowSiphon
import Derived.Test.YtafiihhiipfejaaGrowSS
namespace Go.Proofs.Ytafiihhiipfejaa
open Go.RowKit

def sipAt (l : List (Int × Int × Int × Int)) (k : Nat) : Int × Int × Int × Int := l[k]?.getD (0, 0, 0, 0)
def okAt (l : List (Int × Int × Int × Int)) (k : Nat) : Bool := sipB (sipAt l k).1 (sipAt l k).2.1 (sipAt l k).2.2.1 (sipAt l k).2.2.2
def ChainOk (l : List (Int × Int × Int × Int)) : Prop := (1 ≤ l.length ∧ l.length ≤ 4) ∧ ∀ j, j < l.length → okAt l j = true
instance (l : List (Int × Int × Int × Int)) : Decidable (ChainOk l) := by unfold ChainOk; infer_instance
def chainB (l : List (Int × Int × Int × Int)) : Bool := decide (ChainOk l)
theorem chainB_iff {l : List (Int × Int × Int × Int)} : chainB l = true ↔ ChainOk l := by simp [chainB]
theorem chainB_false {l : List (Int × Int × Int × Int)} : chainB l = false ↔ ¬ ChainOk l := by simp [chainB]

/-- What comes into the k-th siphon. -/
def feed (l : List (Int × Int × Int × Int)) (xs : List Int) : Nat → List Int
  | 0 => xs
  | k + 1 => outsTo (sipAt l k).1 (sipAt l k).2.1 (sipAt l k).2.2.1 (sipAt l k).2.2.2 0 false (feed l xs k) (feed l xs k).length
def chainTo (l : List (Int × Int × Int × Int)) (xs : List Int) (k : Nat) : List (List Int) := (List.range k).map fun j => feed l xs (j + 1)
theorem chainTo_length (l : List (Int × Int × Int × Int)) (xs : List Int) (k : Nat) : (chainTo l xs k).length = k := by simp [chainTo]
theorem chainTo_succ (l : List (Int × Int × Int × Int)) (xs : List Int) (k : Nat) : chainTo l xs (k + 1) = chainTo l xs k ++ [feed l xs (k + 1)] := by simp [chainTo, List.range_succ]
theorem run_at {l : List (Int × Int × Int × Int)} {k : Nat} {ys : List Int} (hs : okAt l k = true) (hi : infB ys = true) : runB (sipAt l k).1 (sipAt l k).2.1 (sipAt l k).2.2.1 (sipAt l k).2.2.2 0 ys = true := by
  have h := sipB_iff.1 hs
  have h' := h
  unfold SipOk at h'
  exact runB_iff.2 ⟨⟨h, by omega, by omega⟩, infB_iff.1 hi⟩
theorem feed_ok {l : List (Int × Int × Int × Int)} {xs : List Int} (hc : ChainOk l) (hx : infB xs = true) (k : Nat) (hk : k ≤ l.length) : (feed l xs k).length = xs.length ∧ infB (feed l xs k) = true := by
  induction k with
  | zero => exact ⟨rfl, hx⟩
  | succ k ih =>
    obtain ⟨h1, h2⟩ := ih (by omega)
    have hr := runB_iff.1 (run_at (hc.2 k (by omega)) h2)
    have hl : (feed l xs (k + 1)).length = xs.length := by
      show (outsTo _ _ _ _ _ _ _ _).length = _
      rw [outsTo_length, h1]
    refine ⟨hl, infB_iff.2 ⟨by have := (infB_iff.1 hx).1; omega, ?_⟩⟩
    exact outsTo_in hr.1.1 hr.1.2.1 hr.1.2.2 hr.2.2
def chainM (l : List (Int × Int × Int × Int)) (xs : List Int) : List (List Int) := if (chainB l && infB xs) = true then chainTo l xs l.length else []
theorem sumTo_bd (L : List (List Int)) (m : Nat) (h : ∀ j, j < L.length → (L[j]?.getD []).length ≤ m) (k : Nat) (hk : k ≤ L.length) : sumTo L k ≤ m * k := by
  induction k with
  | zero => simp [sumTo_zero]
  | succ k ih =>
    rw [sumTo_succ L k (by omega), Nat.mul_succ]
    have := ih (by omega)
    have := h k (by omega)
    omega
theorem chainM_small (l : List (Int × Int × Int × Int)) (xs : List Int) : totalSS (chainM l xs) ≤ 1048576 := by
  unfold chainM
  split
  · rename_i h
    rw [Bool.and_eq_true, chainB_iff] at h
    obtain ⟨hc, hx⟩ := h
    have hb := sumTo_bd (chainTo l xs l.length) 100 (fun j hj => by
      rw [chainTo_length] at hj
      have e : (chainTo l xs l.length)[j]?.getD [] = feed l xs (j + 1) := by simp [chainTo, hj]
      rw [e, (feed_ok hc hx (j + 1) (by omega)).1]
      exact (infB_iff.1 hx).1) (chainTo l xs l.length).length (Nat.le_refl _)
    rw [chainTo_length] at hb
    have := hc.1.2
    unfold totalSS
    rw [chainTo_length]
    omega
  · simp [totalSS, sumTo]
theorem chainM_yes {l : List (Int × Int × Int × Int)} {xs : List Int} (h : (chainB l && infB xs) = true) : chainM l xs = chainTo l xs l.length := by unfold chainM; rw [if_pos h]
theorem chainM_no {l : List (Int × Int × Int × Int)} {xs : List Int} (h : (chainB l && infB xs) = false) : chainM l xs = [] := by unfold chainM; rw [h]; rfl
/-- Where the inflows of the k-th siphon lie. -/
def FeedAt (v : Value) (hd : Nat → Option Addr × Nat × Nat) (k : Nat) (fi : Value) : Prop := (k = 0 ∧ fi = v) ∨ ∃ j, k = j + 1 ∧ fi = headV (hd j)
theorem FeedAt.ints {w wr : World} {ab : Option Addr} {m cb k base : Nat} {hd : Nat → Option Addr × Nat × Nat} {fi v : Value} {l : List (Int × Int × Int × Int)} {xs : List Int} (h : FeedAt (.slice ab m cb) hd k fi) (hx : Ints w ab m cb xs) (n : New w wr) (g : GrowSS base wr v k hd (chainTo l xs k)) :
    ∃ fa fn fc, fi = .slice fa fn fc ∧ Ints wr fa fn fc (feed l xs k) := by
  rcases h with ⟨rfl, rfl⟩ | ⟨j, rfl, rfl⟩
  · exact ⟨ab, m, cb, rfl, hx.new n⟩
  · refine ⟨_, _, _, rfl, ?_⟩
    have q := (g.own j (by omega)).ints
    have e : (chainTo l xs (j + 1))[j]?.getD [] = feed l xs (j + 1) := by simp [chainTo]
    rw [e] at q
    exact q
theorem Try.infoInts : (Try.prog.info? 29).map (fun i => (i.zero, i.size, i.bytes)) = some (some (.slice none 0 0), 1, 24) := by kernel_rfl
end Go.Proofs.Ytafiihhiipfejaa
