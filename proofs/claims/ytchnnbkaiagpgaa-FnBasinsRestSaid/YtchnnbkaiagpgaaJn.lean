/- JoinRows: the model's and the program's. -/
import Derived.Test.YtchnnbkaiagpgaaSt1
import Derived.Test.YtchnnbkaiagpgaaWeT
namespace Go.Proofs.Ytchnnbkaiagpgaa
open Go.RowKit

def jnB (l k : List (Int × Int × Int)) : Bool := rowB l && (rowB k && decide (l.length + k.length ≤ 6))
def jnM (l k : List (Int × Int × Int)) : List (Int × Int × Int) := if jnB l k then l ++ k else []
theorem jnM_small (l k : List (Int × Int × Int)) : (jnM l k).length ≤ 1048576 := by
  unfold jnM
  split
  · rename_i h
    unfold jnB at h
    rw [Bool.and_eq_true, Bool.and_eq_true, decide_eq_true_eq] at h
    rw [List.length_append]; omega
  · simp
theorem jnM_no {l k : List (Int × Int × Int)} (h : jnB l k = false) : jnM l k = [] := by unfold jnM; rw [h]; rfl

set_option maxRecDepth 100000 in
set_option maxHeartbeats 2000000 in
theorem sJoinRows_any (w : World) (aa : Option Addr) (n ca : Nat) (l : List (Int × Int × Int)) (ab : Option Addr) (m cb : Nat) (k : List (Int × Int × Int)) (ha : Basins w aa n ca l) (hb : Basins w ab m cb k) :
    Calls Try.prog 29 #[.slice aa n ca, .slice ab m cb] w fun e w' => ∃ oa on oc, e = .returned (.tuple #[.slice oa on oc, .bool (jnB l k)]) ∧ OwnBasin w' w.heap.size w'.heap.size oa on oc (jnM l k) ∧ New w w' := by
  have HN := Lib.hid ha.1
  have HM := Lib.hid hb.1
  have hnn := ha.2.2.1
  have hmm := hb.2.2.1
  have HA := Lib.hid ha
  have HB := Lib.hid hb
  by_cases h1 : rowB l = true
  · have R1 := Lib.hid (rowB_iff.1 h1)
    have n6 : 1 ≤ n ∧ n ≤ 6 := by have := R1.out.1; have := R1.out.2.1; have := HN.out; omega
    by_cases h2 : rowB k = true
    · have R2 := Lib.hid (rowB_iff.1 h2)
      have m6 : 1 ≤ m ∧ m ≤ 6 := by have := R2.out.1; have := R2.out.2.1; have := HM.out; omega
      by_cases h3 : n + m ≤ 6
      · have HJ := Lib.hid (show jnB l k = true ∧ jnM l k = l ++ k by
          have e : jnB l k = true := by unfold jnB; rw [h1, h2, decide_eq_true (by have := HN.out; have := HM.out; omega)]; rfl
          exact ⟨e, by unfold jnM; rw [if_pos e]⟩)
        obtain ⟨ba, oa, rfl, _⟩ := ha.2.2.2.1 0 (by omega)
        obtain ⟨bb, ob, rfl, _⟩ := hb.2.2.2.1 0 (by omega)
        clear ha hb h1 h2
        obtain ⟨i1, hj, hy0, hy1, hy2⟩ := info_parts Try.infoBas
        go_enter Try.func29, Try.ntmps29
        go_wp2_with fail
        refine (weRow_any _ _ _ _ l HA.out).mono ?_
        rintro e w1 ⟨hr1, n1⟩
        rw [rowB_iff.2 R1.out] at hr1
        subst hr1
        have N1 := Lib.hid n1; clear n1
        go_wp2_with fail
        refine (weRow_any _ _ _ _ k (HB.out.new N1.out)).mono ?_
        rintro e w2 ⟨hr2, n2⟩
        rw [rowB_iff.2 R2.out] at hr2
        subst hr2
        have N2 := Lib.hid (N1.out.trans n2); clear n2
        obtain ⟨w3, hw3⟩ : ∃ w3, w3 = w2.alloc (.cells #[] 48) := ⟨_, rfl⟩
        have k3 : New w2 w3 := by rw [hw3]; exact (by repeat (first | with_reducible exact New.refl _ | with_reducible assumption | refine New.drewN ?_ _ | refine New.drew ?_ | refine New.alloc ?_ _ | refine New.setCell ?_ (by first | omega | (simp; omega) | (simp; done)) _ | (refine New.trans ?_ (by assumption))))
        have o3 : w3.ownsRow w2.heap.size 48 3 (.slice (some ⟨w2.heap.size, 0, none⟩) 0 0) 0 [] := by
          rw [hw3]
          exact ⟨rfl, .inr ⟨w2.heap.size, 0, #[], rfl, Nat.le_refl _, heap_alloc_at rfl, Nat.le_refl _, by unfold maxLen; omega, rfl, rfl⟩⟩
        have z3 : w3.heap.size = w2.heap.size + 1 := by rw [hw3]; simp
        have HW := Lib.hid hw3; clear hw3
        have O3 := Lib.hid o3; clear o3
        have N3 := Lib.hid (N2.out.trans k3); clear k3
        have FA := Lib.hid (show (flatBasin l).length = n * 3 by rw [flatBasin_length, ← HN.out])
        have FB := Lib.hid (show (flatBasin k).length = m * 3 by rw [flatBasin_length, ← HM.out])
        go_wp2_with (first
          | (at_builtin; (rw [← HW.out]); (refine wpList_append_lies _ (by rfl) (.tmp 22) (.tmp 23) 24 (by rfl) w2.heap.size 48 i1 _ 3 24 Try.underlying24 hj hy0 hy1 hy2 rfl (by decide) _ 0 _ (by rfl) O3.out ⟨ba, oa, none⟩ n ca (flatBasin l) (by rfl) FA.out ((HA.out.new N3.out).source) (flatBasin_one l) (by omega) (by unfold maxLen; omega) (by omega) (by omega) _ rfl ?_); intro g4 cap4 w4 ho hg hb' hlt'; have O4 := Lib.hid (show w4.ownsRow w2.heap.size 48 3 (.slice (some ⟨g4, 0, none⟩) n cap4) n (flatBasin l) by simpa using ho); have N4 := Lib.hid (New.grown (w0 := w) N3.out O3.out N2.out.size hg); have z4 := hg.size; clear ho hg hb' hlt')
          | (at_builtin; (refine wpList_append_lies _ (by rfl) (.tmp 24) (.tmp 25) 24 (by rfl) w2.heap.size 48 i1 _ 3 24 Try.underlying24 hj hy0 hy1 hy2 rfl (by decide) _ n _ (by rfl) O4.out ⟨bb, ob, none⟩ m cb (flatBasin k) (by rfl) FB.out ((HB.out.new N4.out).source) (flatBasin_one k) (by omega) (by unfold maxLen; omega) (by omega) (by omega) _ rfl ?_); intro g5 cap5 w5 ho hg hb' hlt'; have O5 := Lib.hid (show w5.ownsRow w2.heap.size 48 3 (.slice (some ⟨g5, 0, none⟩) (n + m) cap5) (n + m) (flatBasin (l ++ k)) by rw [flatBasin_append]; exact ho); have N5 := Lib.hid (New.grown (w0 := w) N4.out O4.out N2.out.size hg); clear ho hg hb' hlt'))
        obtain ⟨ra, rc, e4, o4⟩ := OwnBasin.of_row O5.out
        cases e4
        go_ret2
        rw [HJ.out.1, HJ.out.2]
        exact ⟨_, _, _, by first | rfl | simp, o4.mono N2.out.size (Nat.le_refl _), N5.out⟩
      · have HJ := Lib.hid (show jnB l k = false from bool_no fun h => by
          unfold jnB at h
          rw [Bool.and_eq_true, Bool.and_eq_true, decide_eq_true_eq] at h
          have := HN.out
          have := HM.out
          omega)
        have h3' : (6 : Int) < (n : Int) + (m : Int) := by omega
        clear ha hb
        go_enter Try.func29, Try.ntmps29
        go_wp2_with fail
        refine (weRow_any _ _ _ _ l HA.out).mono ?_
        rintro e w1 ⟨hr1, n1⟩
        rw [h1] at hr1
        subst hr1
        have N1 := Lib.hid n1; clear n1
        go_wp2_with fail
        refine (weRow_any _ _ _ _ k (HB.out.new N1.out)).mono ?_
        rintro e w2 ⟨hr2, n2⟩
        rw [h2] at hr2
        subst hr2
        go_wp2_with fail
        go_ret2
        rw [HJ.out, jnM_no HJ.out]
        exact ⟨_, _, _, rfl, OwnBasin.nil _ _ _, N1.out.trans n2⟩
    · have h2f := bool_no h2
      have HJ := Lib.hid (show jnB l k = false by unfold jnB; rw [h2f]; simp)
      clear ha hb
      go_enter Try.func29, Try.ntmps29
      go_wp2_with fail
      refine (weRow_any _ _ _ _ l HA.out).mono ?_
      rintro e w1 ⟨hr1, n1⟩
      rw [h1] at hr1
      subst hr1
      have N1 := Lib.hid n1; clear n1
      go_wp2_with fail
      refine (weRow_any _ _ _ _ k (HB.out.new N1.out)).mono ?_
      rintro e w2 ⟨hr2, n2⟩
      rw [h2f] at hr2
      subst hr2
      go_wp2_with fail
      go_ret2
      rw [HJ.out, jnM_no HJ.out]
      exact ⟨_, _, _, rfl, OwnBasin.nil _ _ _, N1.out.trans n2⟩
  · have h1f := bool_no h1
    have HJ := Lib.hid (show jnB l k = false by unfold jnB; rw [h1f]; rfl)
    clear ha hb
    go_enter Try.func29, Try.ntmps29
    go_wp2_with fail
    refine (weRow_any _ _ _ _ l HA.out).mono ?_
    rintro e w1 ⟨hr1, n1⟩
    rw [h1f] at hr1
    subst hr1
    go_wp2_with fail
    go_ret2
    rw [HJ.out, jnM_no HJ.out]
    exact ⟨_, _, _, rfl, OwnBasin.nil _ _ _, n1⟩

theorem splice_two {α : Type} (Z a b : List α) (h : a.length + b.length = Z.length) : splice (splice Z 0 a) a.length b = a ++ b := by
  unfold splice
  rw [List.take_zero, List.nil_append, Nat.zero_add, List.take_left', List.drop_eq_nil_of_le, List.append_nil]
  · rw [List.length_append, List.length_drop]; omega
  · rfl

set_option maxRecDepth 100000 in
set_option maxHeartbeats 2000000 in
theorem iJoinRows_any (w : World) (aa : Option Addr) (n ca : Nat) (l : List (Int × Int × Int)) (ab : Option Addr) (m cb : Nat) (k : List (Int × Int × Int)) (ha : Basins w aa n ca l) (hb : Basins w ab m cb k) :
    Calls Try.prog 28 #[.slice aa n ca, .slice ab m cb] w fun e w' => ∃ oa on oc, e = .returned (.tuple #[.slice oa on oc, .bool (jnB l k)]) ∧ OwnBasin w' w.heap.size w'.heap.size oa on oc (jnM l k) ∧ New w w' := by
  have HN := Lib.hid ha.1
  have HM := Lib.hid hb.1
  have hnn := ha.2.2.1
  have hmm := hb.2.2.1
  have HA := Lib.hid ha
  have HB := Lib.hid hb
  by_cases h1 : rowB l = true
  · have R1 := Lib.hid (rowB_iff.1 h1)
    have n6 : 1 ≤ n ∧ n ≤ 6 := by have := R1.out.1; have := R1.out.2.1; have := HN.out; omega
    by_cases h2 : rowB k = true
    · have R2 := Lib.hid (rowB_iff.1 h2)
      have m6 : 1 ≤ m ∧ m ≤ 6 := by have := R2.out.1; have := R2.out.2.1; have := HM.out; omega
      by_cases h3 : n + m ≤ 6
      · have HJ := Lib.hid (show jnB l k = true ∧ jnM l k = l ++ k by
          have e : jnB l k = true := by unfold jnB; rw [h1, h2, decide_eq_true (by have := HN.out; have := HM.out; omega)]; rfl
          exact ⟨e, by unfold jnM; rw [if_pos e]⟩)
        obtain ⟨ba, oa, rfl, _⟩ := ha.2.2.2.1 0 (by omega)
        obtain ⟨bb, ob, rfl, _⟩ := hb.2.2.2.1 0 (by omega)
        clear ha hb h1 h2
        go_enter Try.func28, Try.ntmps28
        go_wp2_with fail
        refine (iIsRow_any _ _ _ _ l HA.out).mono ?_
        rintro e w1 ⟨hr1, n1⟩
        rw [rowB_iff.2 R1.out] at hr1
        subst hr1
        have N1 := Lib.hid n1; clear n1
        go_wp2_with fail
        refine (iIsRow_any _ _ _ _ k (HB.out.new N1.out)).mono ?_
        rintro e w2 ⟨hr2, n2⟩
        rw [rowB_iff.2 R2.out] at hr2
        subst hr2
        have N2 := Lib.hid (N1.out.trans n2); clear n2
        go_upto_region 3 with fail
        have hmk := run_makeBasin Try.underlying24 (show n + m ≤ 1048576 by omega)
        rw [Int.natCast_add] at hmk
        go_upto_region 4 with fail
        obtain ⟨w3, hw3⟩ : ∃ w3, w3 = w2.alloc (.cells (madeCells #[.int .i64 0, .int .i64 0, .int .i64 0] ((n + m) * 3)) 48) := ⟨_, rfl⟩
        rw [← hw3]
        have b3 : WB w3 w2.heap.size (madeCells #[.int .i64 0, .int .i64 0, .int .i64 0] ((n + m) * 3)).toList 48 := WB.of_array (by rw [hw3]; exact heap_alloc_new _ _)
        have k3 : New w2 w3 := by rw [hw3]; exact (by repeat (first | with_reducible exact New.refl _ | with_reducible assumption | refine New.drewN ?_ _ | refine New.drew ?_ | refine New.alloc ?_ _ | refine New.setCell ?_ (by first | omega | (simp; omega) | (simp; done)) _ | (refine New.trans ?_ (by assumption))))
        have B3 := Lib.hid b3; clear b3
        have N3 := Lib.hid (N2.out.trans k3)
        have K3 := Lib.hid k3; clear k3
        clear hw3 hmk
        have LZ := Lib.hid (show (madeCells #[.int .i64 0, .int .i64 0, .int .i64 0] ((n + m) * 3)).toList.length = (n + m) * 3 by rw [Array.length_toList, size_madeCells])
        obtain ⟨Z, hZ⟩ : ∃ Z, Z = (madeCells #[.int .i64 0, .int .i64 0, .int .i64 0] ((n + m) * 3)).toList := ⟨_, rfl⟩
        rw [← hZ] at B3 LZ
        clear hZ
        have FA := Lib.hid (show (flatBasin l).length = n * 3 by rw [flatBasin_length, ← HN.out])
        have FB := Lib.hid (show (flatBasin k).length = m * 3 by rw [flatBasin_length, ← HM.out])
        have G1 := Lib.hid (show (flatBasin l).length = Nat.min n (n + m) * 3 by rw [FA.out]; congr 1; exact (Nat.min_eq_left (by omega)).symm)
        have G2 := Lib.hid (show (flatBasin k).length = Nat.min m m * 3 by rw [FB.out]; congr 1; exact (Nat.min_self m).symm)
        go_upto_region 5 with ((with_reducible (show wpList _ _ _ ({ dst := _, op := .call { callee := .builtin .copy, args := _, argTypes := _ }, type := _, pos := _, after := _, guard := _ } :: _) _ _)); go_must (refine wpList_copy_blk rfl (.tmp 29) (.tmp 30) 24 24 rfl 48 Try.underlying24 3 (by kernel_rfl) w2.heap.size 0 (n + m) (n + m) ⟨ba, oa, none⟩ n ca rfl rfl Z (flatBasin l) 48 B3.out G1.out ((HA.out.new N3.out).source) (by rw [FA.out, LZ.out]; omega) (flatBasin_one l) ?_); intro w4 hb4 hc4; have B4 := Lib.hid hb4.out; have N4 := Lib.hid (Chg.new (w0 := w2) K3.out hc4 (fun i hi => by omega)); clear hb4 hc4)
        go_wp2_with ((with_reducible (show wpList _ _ _ ({ dst := _, op := .call { callee := .builtin .copy, args := _, argTypes := _ }, type := _, pos := _, after := _, guard := _ } :: _) _ _)); go_must (refine wpList_copy_blk rfl (.tmp 35) (.tmp 36) 24 24 rfl 48 Try.underlying24 3 (by kernel_rfl) w2.heap.size (n * 3) m m ⟨bb, ob, none⟩ m cb (by first | rfl | (simp [Act.eval, Act.put]; done) | (simp [Act.eval, Act.put]; omega)) rfl (splice Z 0 (flatBasin l)) (flatBasin k) 48 B4.out G2.out ((HB.out.new (N2.out.trans N4.out)).source) (by rw [length_splice _ _ _ (by rw [FA.out, LZ.out]; omega), FB.out, LZ.out]; omega) (flatBasin_one k) ?_); intro w5 hb5 hc5; have B5 := Lib.hid hb5.out; have N5 := Lib.hid (Chg.new (w0 := w2) N4.out hc5 (fun i hi => by omega)); clear hb5 hc5)
        go_ret2
        rw [HJ.out.1, HJ.out.2]
        have ef : splice (splice Z 0 (flatBasin l)) (n * 3) (flatBasin k) = flatBasin (l ++ k) := by
          rw [flatBasin_append, ← FA.out]
          exact splice_two Z _ _ (by rw [FA.out, FB.out, LZ.out]; omega)
        have B6 := B5.out.eqv ef
        exact ⟨_, _, _, by first | rfl | simp, OwnBasin.of_wb B6 (by rw [List.length_append, HN.out, HM.out]) (by omega) N2.out.size B6.lt, N2.out.trans N5.out⟩
      · have HJ := Lib.hid (show jnB l k = false from bool_no fun h => by
          unfold jnB at h
          rw [Bool.and_eq_true, Bool.and_eq_true, decide_eq_true_eq] at h
          have := HN.out
          have := HM.out
          omega)
        have h3' : (6 : Int) < (n : Int) + (m : Int) := by omega
        clear ha hb
        go_enter Try.func28, Try.ntmps28
        go_wp2_with fail
        refine (iIsRow_any _ _ _ _ l HA.out).mono ?_
        rintro e w1 ⟨hr1, n1⟩
        rw [h1] at hr1
        subst hr1
        have N1 := Lib.hid n1; clear n1
        go_wp2_with fail
        refine (iIsRow_any _ _ _ _ k (HB.out.new N1.out)).mono ?_
        rintro e w2 ⟨hr2, n2⟩
        rw [h2] at hr2
        subst hr2
        go_wp2_with fail
        go_ret2
        rw [HJ.out, jnM_no HJ.out]
        exact ⟨_, _, _, rfl, OwnBasin.nil _ _ _, N1.out.trans n2⟩
    · have h2f := bool_no h2
      have HJ := Lib.hid (show jnB l k = false by unfold jnB; rw [h2f]; simp)
      clear ha hb
      go_enter Try.func28, Try.ntmps28
      go_wp2_with fail
      refine (iIsRow_any _ _ _ _ l HA.out).mono ?_
      rintro e w1 ⟨hr1, n1⟩
      rw [h1] at hr1
      subst hr1
      have N1 := Lib.hid n1; clear n1
      go_wp2_with fail
      refine (iIsRow_any _ _ _ _ k (HB.out.new N1.out)).mono ?_
      rintro e w2 ⟨hr2, n2⟩
      rw [h2f] at hr2
      subst hr2
      go_wp2_with fail
      go_ret2
      rw [HJ.out, jnM_no HJ.out]
      exact ⟨_, _, _, rfl, OwnBasin.nil _ _ _, N1.out.trans n2⟩
  · have h1f := bool_no h1
    have HJ := Lib.hid (show jnB l k = false by unfold jnB; rw [h1f]; rfl)
    clear ha hb
    go_enter Try.func28, Try.ntmps28
    go_wp2_with fail
    refine (iIsRow_any _ _ _ _ l HA.out).mono ?_
    rintro e w1 ⟨hr1, n1⟩
    rw [h1f] at hr1
    subst hr1
    go_wp2_with fail
    go_ret2
    rw [HJ.out, jnM_no HJ.out]
    exact ⟨_, _, _, rfl, OwnBasin.nil _ _ _, n1⟩
end Go.Proofs.Ytchnnbkaiagpgaa
