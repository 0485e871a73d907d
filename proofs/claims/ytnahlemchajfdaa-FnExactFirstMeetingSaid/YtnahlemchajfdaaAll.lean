/- Lists of numbers within bounds; the laws' helpers on them, in one form. -/
import Derived.Test.YtnahlemchajfdaaHelp
namespace Go.Proofs.Ytnahlemchajfdaa
open Go.RowKit

theorem eqIntS_same (w : World) (aa ab : Option Addr) (n m ca cb : Nat) (la : List Int) (ha : Ints w aa n ca la) (hb : Ints w ab m cb la) :
    Calls Try.prog 15 #[.slice aa n ca, .slice ab m cb] w fun e w' => e = .returned (.bool true) ∧ New w w' :=
  (eqIntS_any w aa ab n m ca cb la la ha hb).mono fun e w' h => ⟨by rw [h.1]; simp, by obtain ⟨k, rfl⟩ := h.2; exact (New.refl _).drewN _⟩

theorem heldIntS_new (w : World) (ao : Option Addr) (n cap : Nat) (x : Int) (ha : Ints w ao n cap (marks x n)) (h0 : 0 ≤ x) (h1 : x + n ≤ 4611686018427387904) :
    Calls Try.prog 17 #[.slice ao n cap, .int .i64 x] w fun e w' => e = .returned (.int .i64 (x + n)) ∧ New w w' :=
  (heldIntS_any w ao n cap x ha h0 h1).mono fun e w' h => ⟨h.1, by obtain ⟨k, rfl⟩ := h.2; exact (New.refl _).drewN _⟩

def allB (lo hi : Int) (l : List Int) : Bool := l.all (inB lo hi)
theorem allB_iff {lo hi : Int} {l : List Int} : allB lo hi l = true ↔ ∀ j, j < l.length → lo ≤ l[j]?.getD 0 ∧ l[j]?.getD 0 ≤ hi := by
  unfold allB
  rw [List.all_eq_true]
  constructor
  · intro h j hj
    have := h l[j] (List.getElem_mem hj)
    rw [inB_iff] at this
    simpa [List.getElem?_eq_getElem hj] using this
  · intro h x hx
    obtain ⟨j, hj, rfl⟩ := List.getElem_of_mem hx
    rw [inB_iff]
    simpa [List.getElem?_eq_getElem hj] using h j hj
end Go.Proofs.Ytnahlemchajfdaa
