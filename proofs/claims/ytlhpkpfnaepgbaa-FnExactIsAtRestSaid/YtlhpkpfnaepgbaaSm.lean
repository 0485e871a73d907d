/- IsTank, AreTanks and LevelOf: the model's and the program's. -/
import Derived.Test.YtlhpkpfnaepgbaaRatS
namespace Go.Proofs.Ytlhpkpfnaepgbaa
open Go.RowKit Go.IntWalk

def loM (t : Tk) : Int × Int := if tkB t then red (t.1 * t.2.1 + t.2.2) t.1 else (0, 0)
theorem loM_yes {a f u : Int} (h : tkB (a, f, u) = true) : loM (a, f, u) = red (a * f + u) a := by unfold loM; rw [if_pos h]
theorem loM_no {a f u : Int} (h : tkB (a, f, u) = false) : loM (a, f, u) = (0, 0) := by unfold loM; rw [h]; rfl
end Go.Proofs.Ytlhpkpfnaepgbaa
