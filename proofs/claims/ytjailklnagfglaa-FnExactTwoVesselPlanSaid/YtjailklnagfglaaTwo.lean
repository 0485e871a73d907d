/- Two vessels: the plan and its length, the model's and the program's. -/
import Derived.Test.YtjailklnagfglaaAmtP
namespace Go.Proofs.Ytjailklnagfglaa
open Go.RowKit Go.Maps

def twoM (a b x : Int) : List (Int × Int) × Bool := ptaM [a, b] [0, 0] x false
theorem twoM_small (a b x : Int) : (twoM a b x).1.length ≤ 1048576 := ptaM_small _ _ _ _
theorem ints_two (_w w' : World) (g : Nat) (a b : Int) (c0 : w'.cell? ⟨g, 0, none⟩ = some (.int .i64 a)) (c1 : w'.cell? ⟨g, 1, none⟩ = some (.int .i64 b)) : Ints w' (some ⟨g, 0, none⟩) 2 2 [a, b] :=
  ⟨rfl, Nat.le_refl _, by omega, fun j hj => ⟨g, 0, rfl, by
    match j, hj with
    | 0, _ => exact c0
    | 1, _ => exact c1⟩, fun e => by cases e⟩
theorem res_plTwo {tmps : Array Value} {W : World} {R : Nat} {x0 x1 : Value} (ht : tmps[4]?.getD undef = .pointer (some ⟨R, 0, none⟩)) (c0 : W.cell? ⟨R, 0, none⟩ = some x0) (c1 : W.cell? ⟨R, 1, none⟩ = some x1) :
    (results Try.f49 tmps).run Try.prog W = .ok (.agg #[x0, x1]) W := by
  simp [results, Try.results49, go_sem, ht, c0, c1]
theorem plTwo_any (w : World) (a b : Int) : Calls Try.prog 49 #[.int .i64 a, .int .i64 b] w fun e w' => ∃ g h, e = .returned (.agg #[.slice (some ⟨g, 0, none⟩) 2 2, .slice (some ⟨h, 0, none⟩) 2 2]) ∧ Ints w' (some ⟨g, 0, none⟩) 2 2 [a, b] ∧ Ints w' (some ⟨h, 0, none⟩) 2 2 [0, 0] ∧ New w w' := by
  go_enter Try.func49, Try.ntmps49
  go_wp2
  refine bodyPost_ret (v := .agg #[.slice (some ⟨w.heap.size + 1, 0, none⟩) 2 2, .slice (some ⟨w.heap.size + 1 + 1, 0, none⟩) 2 2]) (res_plTwo rfl ?_ ?_) rfl ⟨_, _, rfl, ints_two w _ _ a b ?_ ?_, ints_two w _ _ 0 0 ?_ ?_, (by repeat (first | with_reducible exact New.refl _ | with_reducible assumption | refine New.drewN ?_ _ | refine New.drew ?_ | refine New.alloc ?_ _ | refine New.setCell ?_ (by first | omega | (simp; omega) | (simp; done)) _ | (refine New.trans ?_ (by assumption))))⟩
  all_goals simp [go_sem]

set_option maxRecDepth 100000 in
theorem sTwoVesselPlan_any (w : World) (a b x : Int) : Calls Try.prog 30 #[.int .i64 a, .int .i64 b, .int .i64 x] w (RetP w (twoM a b x).1 (twoM a b x).2) := by
  obtain ⟨z, hz⟩ : ∃ z, z = twoM a b x := ⟨_, rfl⟩
  rw [← hz]
  have HZ := Lib.hid hz; clear hz
  go_enter Try.func30, Try.ntmps30
  go_wp2_with fail
  refine (plTwo_any _ a b).mono ?_
  rintro e w1 ⟨g, h, rfl, i1, i2, n1⟩
  have I1 := Lib.hid i1
  have I2 := Lib.hid i2
  have N1 := Lib.hid n1; clear i1 i2 n1
  go_wp2_with fail
  refine (sPlanToAmount_any _ _ _ _ _ _ _ [a, b] [0, 0] x false I1.out I2.out).mono ?_
  rintro e w2 ⟨pa, pn, pc, rfl, op, n2⟩
  have HZ2 := HZ.out
  unfold twoM at HZ2
  rw [← HZ2] at op ⊢
  have OP := Lib.hid op
  have N2 := Lib.hid n2
  have z1 := N1.out.size
  clear op n2 HZ2
  go_wp2
  go_ret2
  exact ⟨_, _, _, rfl, OP.out.mono z1 (Nat.le_refl _), N1.out.trans N2.out⟩
set_option maxRecDepth 100000 in
theorem iTwoVesselPlan_any (w : World) (a b x : Int) : Calls Try.prog 31 #[.int .i64 a, .int .i64 b, .int .i64 x] w (RetP w (twoM a b x).1 (twoM a b x).2) := by
  obtain ⟨z, hz⟩ : ∃ z, z = twoM a b x := ⟨_, rfl⟩
  rw [← hz]
  have HZ := Lib.hid hz; clear hz
  go_enter Try.func31, Try.ntmps31
  go_wp2_with fail
  refine (iPlanToAmount_any _ _ _ _ _ _ _ [a, b] [0, 0] x false (ints_two w _ _ a b (by simp [go_sem]) (by simp [go_sem])) (ints_two w _ _ 0 0 (by simp [go_sem]) (by simp [go_sem]))).mono ?_
  rintro e w2 ⟨pa, pn, pc, rfl, op, n2⟩
  have HZ2 := HZ.out
  unfold twoM at HZ2
  rw [← HZ2] at op ⊢
  have N2 := Lib.hid (show New w w2 from New.trans (by repeat (first | with_reducible exact New.refl _ | with_reducible assumption | refine New.drewN ?_ _ | refine New.drew ?_ | refine New.alloc ?_ _ | refine New.setCell ?_ (by first | omega | (simp; omega) | (simp; done)) _ | (refine New.trans ?_ (by assumption)))) n2)
  have z1 := n2.size
  have OP := Lib.hid (op.mono (lo' := w.heap.size) (by simp; omega) (Nat.le_refl _))
  clear op n2 HZ2
  go_wp2
  go_ret2
  exact ⟨_, _, _, rfl, OP.out, N2.out⟩
def twoN (a b x : Int) : Int × Bool := (((twoM a b x).1.length : Int), (twoM a b x).2)
theorem twoM_none {a b x : Int} (h : (twoM a b x).2 = false) : (twoM a b x).1 = [] := by
  unfold twoM ptaM at h ⊢
  split at h
  · rename_i h1
    rw [if_pos h1] at *
    unfold ptaL at h ⊢
    split at h
    · simp at h
    · rename_i h2
      rw [if_neg h2]
  · rename_i h1
    rw [if_neg h1]
set_option maxRecDepth 100000 in
theorem sTwoVesselLength_any (w : World) (a b x : Int) : Calls Try.prog 32 #[.int .i64 a, .int .i64 b, .int .i64 x] w fun e w' => e = .returned (.tuple #[.int .i64 (twoN a b x).1, .bool (twoN a b x).2]) ∧ New w w' := by
  obtain ⟨z, hz⟩ : ∃ z, z = twoM a b x := ⟨_, rfl⟩
  have HN := Lib.hid (show z.2 = false → z.1 = [] from fun h => by rw [hz] at h ⊢; exact twoM_none h)
  have e1 : twoN a b x = ((z.1.length : Int), z.2) := by rw [hz]; rfl
  rw [e1]
  have HZ := Lib.hid hz; clear hz e1
  go_enter Try.func32, Try.ntmps32
  go_wp2_with fail
  refine (plTwo_any _ a b).mono ?_
  rintro e w1 ⟨g, h, rfl, i1, i2, n1⟩
  have I1 := Lib.hid i1
  have I2 := Lib.hid i2
  have N1 := Lib.hid n1; clear i1 i2 n1
  go_wp2_with fail
  refine (sPlanToAmount_any _ _ _ _ _ _ _ [a, b] [0, 0] x false I1.out I2.out).mono ?_
  rintro e w2 ⟨pa, pn, pc, rfl, op, n2⟩
  have HZ2 := HZ.out
  unfold twoM at HZ2
  rw [← HZ2] at op ⊢
  have PN := Lib.hid op.1
  have N2 := Lib.hid n2
  clear op n2 HZ2
  obtain ⟨l, ok⟩ := z
  cases ok
  · have hl := HN.out rfl
    have p0 : pn = 0 := by rw [PN.out]; simp only at hl ⊢; rw [hl]; rfl
    have HL := Lib.hid hl
    clear hl
    go_wp2
    go_ret2
    exact ⟨by have := HL.out; simp only at this ⊢; rw [this]; rfl, N1.out.trans N2.out⟩
  · go_wp2
    go_ret2
    exact ⟨by rw [PN.out]; rfl, N1.out.trans N2.out⟩
set_option maxRecDepth 100000 in
theorem iTwoVesselLength_any (w : World) (a b x : Int) : Calls Try.prog 33 #[.int .i64 a, .int .i64 b, .int .i64 x] w fun e w' => e = .returned (.tuple #[.int .i64 (twoN a b x).1, .bool (twoN a b x).2]) ∧ New w w' := by
  obtain ⟨z, hz⟩ : ∃ z, z = twoM a b x := ⟨_, rfl⟩
  have e1 : twoN a b x = ((z.1.length : Int), z.2) := by rw [hz]; rfl
  rw [e1]
  have HZ := Lib.hid hz; clear hz e1
  go_enter Try.func33, Try.ntmps33
  go_wp2_with fail
  refine (iTwoVesselPlan_any _ a b x).mono ?_
  rintro e w2 ⟨pa, pn, pc, rfl, op, n2⟩
  rw [← HZ.out] at op ⊢
  have PN := Lib.hid op.1
  have N2 := Lib.hid n2
  clear op n2
  go_wp2
  go_ret2
  exact ⟨by rw [PN.out]; rfl, N2.out⟩
end Go.Proofs.Ytjailklnagfglaa
