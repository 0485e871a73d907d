/- What a world keeps in company, for the laws. -/
import Derived.Test.YtnahlemchajfdaaLoc
import Derived.Test.YtnahlemchajfdaaClkL
namespace Go.Proofs.Ytnahlemchajfdaa
open Go.Conc Go.RowKit Go.IntWalk Go.Proofs.Ytnahlemchajfdaa.Meta

theorem Own.nh {w w' : World} {lo hi : Nat} {ao : Option Addr} {n cap : Nat} {l : List Int} (h : Own w lo hi ao n cap l) (k : NH w w') : Own w' lo hi ao n cap l :=
  h.turned fun b _ _ hb => k.old b hb
theorem Own.wt {w : World} {lo hi : Nat} {ao : Option Addr} {n cap : Nat} {l : List Int} (h : Own w lo hi ao n cap l) (τ : Nat → Question → Nat) (d : Nat) : Own (Meta.wt w τ d) lo hi ao n cap l :=
  h.turned fun _ _ _ _ => rfl
theorem NH.new {w0 w w' : World} {τ : Nat → Question → Nat} {d : Nat} (k : NH w0 w) (h : New (Meta.wt w τ d) w') : NH w0 w' := k.trans ⟨h.size, h.block⟩
theorem NH.chg {P : Nat → Prop} {w0 w w' : World} {τ : Nat → Question → Nat} {d : Nat} (k : NH w0 w) (h : Chg P (Meta.wt w τ d) w') (hP : ∀ i, P i → w0.heap.size ≤ i) : NH w0 w' :=
  ⟨Nat.le_trans k.sz h.size, fun i hi => (h.block i (Nat.lt_of_lt_of_le hi k.sz) (fun hp => by have := hP i hp; omega)).trans (k.old i hi)⟩
/-- The heap alone, of what a plain piece leaves. -/
theorem nh_new {w w' : World} {τ : Nat → Question → Nat} {d : Nat} (h : New (Meta.wt w τ d) w') : NH w w' := ⟨h.size, h.block⟩
/-- The conversion of a clock, in company. -/
theorem toClock_c (w : World) (a b : Int) : CallsC Try.prog 10 #[.agg #[.int .i64 a, .int .i64 b]] w fun u w' => u = .agg #[.int .i64 a, .int .i64 b] ∧ NH w w' :=
  callsC_val plain_shut (by decide) fun τ => toClock_one (Meta.wt w τ 0) a b
end Go.Proofs.Ytnahlemchajfdaa
