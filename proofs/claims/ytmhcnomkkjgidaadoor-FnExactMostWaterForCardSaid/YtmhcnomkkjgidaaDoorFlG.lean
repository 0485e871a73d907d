/- Flights for the laws' walks: what is read of one of the call's own; equal ones. -/
import Derived.Test.YtmhcnomkkjgidaaDoorHelpF
import Derived.Test.YtmhcnomkkjgidaaDoorAll
namespace Go.Proofs.YtmhcnomkkjgidaaDoor
open Go.RowKit

theorem OwnF.s {w : World} {lo hi : Nat} {aa ab : Option Addr} {n m ca cb : Nat} {S : List Int} {H : List Bool} (h : OwnF w lo hi aa n ca ab m cb S H) : Ints w aa n ca S := h.1.ints
theorem OwnF.f {w : World} {lo hi : Nat} {aa ab : Option Addr} {n m ca cb : Nat} {S : List Int} {H : List Bool} (h : OwnF w lo hi aa n ca ab m cb S H) : Bools w ab m cb H := h.2.1.reads
theorem eqFlight_same (w : World) (aa ab ba bb : Option Addr) (n m ca cb da db : Nat) (S : List Int) (H : List Bool) (h1 : Ints w aa n ca S) (h2 : Bools w ab m cb H) (k1 : Ints w ba n da S) (k2 : Bools w bb m db H) :
    Calls Tryd.prog 16 #[.agg #[.slice aa n ca, .slice ab m cb], .agg #[.slice ba n da, .slice bb m db]] w fun e w' => e = .returned (.bool true) ∧ New w w' :=
  (eqFlight_any w aa ab ba bb n m n m ca cb da db S S H H h1 h2 k1 k2).mono fun e w' h => ⟨by rw [h.1]; simp, h.2⟩
end Go.Proofs.YtmhcnomkkjgidaaDoor
