/- All amounts that are measured, all that the vessels hold together: the model's. -/
import Derived.Test.YtilepckgcgdjgaaAmoM
import Derived.Deep.QuietTactic
import Derived.BigQuiet
namespace Go.Proofs.Ytilepckgcgdjgaa
open Go.RowKit Go.Maps

/-- The vessels of the model's row, as they lie. -/
theorem reach_at {w0 w : World} {R base : Nat} {S : List Int} {E : List Node} {O : List Nat} {va vf vm vr vo : Value} {P Q : Nat → Value} (rc : Reach w0 w R base S E O va vf vm vr vo P Q) (hpos : 0 < E.length) :
    ∃ ga cpa, va = .slice (some ⟨ga, 0, none⟩) E.length cpa ∧ w.cell? ⟨R, 0, none⟩ = some va ∧
      ∀ k, k < E.length → ∃ sa n sc sb m sd, w.cell? ⟨ga, k * 2, none⟩ = some (.slice sa n sc) ∧ w.cell? ⟨ga, k * 2 + 1, none⟩ = some (.slice sb m sd) ∧ Ints w sb m sd (E[k]?.getD dN).h := by
  obtain ⟨ga, cpa, ea, _, _, _, xa⟩ := own_read (rc.box.own (r0 va E.length P Q) (by simp)) hpos
  have c0 : w.cell? ⟨R, 0, none⟩ = some va := rc.box.cell (r0 va E.length P Q) (by simp)
  have ea' : va = .slice (some ⟨ga, 0, none⟩) E.length cpa := ea
  refine ⟨ga, cpa, ea', c0, fun k hk => ?_⟩
  obtain ⟨sa, n, sc, sb, m, sd, p1, p2, _, i2, _, _⟩ := rc.ves k hk
  obtain ⟨g1, g2⟩ := flatPQ_get P Q hk
  exact ⟨sa, n, sc, sb, m, sd, by rw [← p1]; exact (xa (k * 2) _ (by show k * 2 < E.length * 2; omega) g1).1, by rw [← p2]; exact (xa (k * 2 + 1) _ (by show k * 2 + 1 < E.length * 2; omega) g2).1, i2⟩

set_option maxRecDepth 100000 in
set_option maxHeartbeats 4000000 in
theorem sSumsOf_any (w : World) (aa ab : Option Addr) (n m ca cb : Nat) (S H : List Int) (h1 : Ints w aa n ca S) (h2 : Ints w ab m cb H) :
    Calls Try.prog 18 #[.agg #[.slice aa n ca, .slice ab m cb]] w (RetI w (totM S H).1 (totM S H).2) := by
  have HA := Lib.hid h1; clear h1
  have HB := Lib.hid h2; clear h2
  obtain ⟨z, hz⟩ : ∃ z, z = totM S H := ⟨_, rfl⟩
  rw [← hz]
  have HZ := Lib.hid hz; clear hz
  go_enter Try.func18, Try.ntmps18
  go_wp2_with fail
  refine (plAsked_any _ _ _ _ _ _ _ S H false (HA.out.new (by repeat (first | with_reducible exact New.refl _ | with_reducible assumption | refine New.drewN ?_ _ | refine New.drew ?_ | refine New.alloc ?_ _ | refine New.setCell ?_ (by first | omega | (simp; omega) | (simp; done)) _ | (refine New.trans ?_ (by assumption))))) (HB.out.new (by repeat (first | with_reducible exact New.refl _ | with_reducible assumption | refine New.drewN ?_ _ | refine New.drew ?_ | refine New.alloc ?_ _ | refine New.setCell ?_ (by first | omega | (simp; omega) | (simp; done)) _ | (refine New.trans ?_ (by assumption)))))).mono ?_
  rintro e w1 ⟨n1, h⟩
  have N1 := Lib.hid (show New w w1 from New.trans (by repeat (first | with_reducible exact New.refl _ | with_reducible assumption | refine New.drewN ?_ _ | refine New.drew ?_ | refine New.alloc ?_ _ | refine New.setCell ?_ (by first | omega | (simp; omega) | (simp; done)) _ | (refine New.trans ?_ (by assumption)))) n1); clear n1
  rcases h with ⟨hc, E, hE, R, base, O, va, vf, vm, vr, vo, P, Q, rfl, rc⟩ | ⟨hc, p, rfl⟩
  · obtain ⟨hG, hl⟩ := countB_good hc
    have hfd := endN_found false 3000 hG
    rw [← hE] at hl hfd
    have FD := Lib.hid hfd
    have ZE := Lib.hid (show z = (numK (totL E E.length) 301, true) from by rw [HZ.out, totM_yes hc, hE])
    obtain ⟨ga, cpa, ev, c0, ves⟩ := reach_at rc hfd.pos
    subst ev
    have EV := Lib.hid ves
    obtain ⟨T, hT⟩ : ∃ T, T = E.length := ⟨_, rfl⟩
    rw [← hT] at c0 hl
    have HT := Lib.hid hT
    have C0 := Lib.hid c0
    clear rc ves hfd hT hG hE hc c0
    have hmk := run_make_row' (P := Try.prog) 51 4 (.bool false) 1 Try.underlying51 Try.infoBool rfl .i64 .i64 301 (by omega) (by omega)
    simp only [madeCells_eq] at hmk
    obtain ⟨bs, hbs⟩ : ∃ bs : Array Value, bs = (List.replicate 301 (Value.bool false)).toArray := ⟨_, rfl⟩
    rw [← hbs] at hmk
    push_cast at hmk
    have HBS := Lib.hid hbs
    clear hbs
    go_upto_region 5 with fail
    obtain ⟨v1, hv1⟩ : ∃ v : World, v = w1.alloc (.cells bs 4) := ⟨_, rfl⟩
    rw [← hv1]
    have nv1 : New w1 v1 := by rw [hv1]; exact (New.refl _).alloc _
    have mk1 : MkB v1 w1.heap.size 301 [] := by rw [hv1, HBS.out]; exact MkB.made w1 301
    have z1 : v1.heap.size = w1.heap.size + 1 := by rw [hv1]; simp
    have NV1 := Lib.hid nv1
    have MK1 := Lib.hid mk1
    have c0' := nv1.cell C0.out
    clear hv1 nv1 mk1 hmk
    go_wp2
    go_loopw [22] (fun i wr => ∃ k : Nat, i = .int .i64 k ∧ k ≤ T ∧ Chg (fun b => b = w1.heap.size) v1 wr ∧ MkB wr w1.heap.size 301 (totL E k)) (fun i _ => T - (intOf i).toNat)
    case atStart => exact ⟨0, rfl, Nat.zero_le _, Chg.refl _ _, MK1.out⟩
    case round =>
      obtain ⟨k, rfl, hk, hch, hmk⟩ := hrel
      have CH := Lib.hid hch; clear hch
      have MK := Lib.hid hmk; clear hmk
      clear c0'
      by_cases hlt : k < T
      · have KE := Lib.hid (show k < E.length from by have := HT.out; omega)
        obtain ⟨sa, n1, sc, sb, m1, sd, p1, p2, i2⟩ := EV.out k KE.out
        have zg : ga < w1.heap.size := World.block_lt_of_cell? _ _ p1
        have nw : New w1 wr := Chg.new NV1.out CH.out (fun i hi => by omega)
        have zw := CH.out.size
        have p1' := nw.cell p1
        have p2' := nw.cell p2
        have I2 := Lib.hid (i2.new nw)
        have sm := sum_in (FD.out.good k KE.out)
        have hm1 : m1 ≤ 1000 := by have := i2.len; have := (FD.out.good k KE.out); have := this.2.1; have := (FD.out.good k KE.out).1; omega
        have GH := Lib.hid (good_held (FD.out.good k KE.out))
        obtain ⟨x, hx⟩ : ∃ x, x = sumOf (E[k]?.getD dN).h := ⟨_, rfl⟩
        rw [← hx] at sm
        have HX := Lib.hid hx
        clear p1 p2 i2 nw hx zg
        go_wp2_with fail
        refine (veSum_any _ _ _ _ (E[k]?.getD dN).h (I2.out.new (by repeat (first | with_reducible exact New.refl _ | with_reducible assumption | refine New.drewN ?_ _ | refine New.drew ?_ | refine New.alloc ?_ _ | refine New.setCell ?_ (by first | omega | (simp; omega) | (simp; done)) _ | (refine New.trans ?_ (by assumption))))) hm1 GH.out).mono ?_
        rintro e w3 ⟨rfl, rfl⟩
        rw [← HX.out]
        obtain ⟨x', hx'⟩ : ∃ x' : Nat, x = x' := ⟨x.toNat, by omega⟩
        subst hx'
        have xI : (x' : Int) < 301 := by omega
        have x0 : (0 : Int) ≤ (x' : Int) := by omega
        obtain ⟨b1, b2⟩ := MK.out.cell (j := x') (by omega)
        have zmk := MK.out.lt
        go_wp2
        go_roundw
        case rel =>
          refine ⟨k + 1, by go_num, by omega, ?_, ?_⟩
          · exact (CH.out.trans (Chg.setCell (p := ⟨w1.heap.size, x', none⟩) _)).trans (Chg.of_new (by repeat (first | with_reducible exact New.refl _ | with_reducible assumption | refine New.drewN ?_ _ | refine New.drew ?_ | refine New.alloc ?_ _ | refine New.setCell ?_ (by first | omega | (simp; omega) | (simp; done)) _ | (refine New.trans ?_ (by assumption)))))
          · rw [totL, ← HX.out]
            exact (MK.out.store x').new (by repeat (first | with_reducible exact New.refl _ | with_reducible assumption | refine New.drewN ?_ _ | refine New.drew ?_ | refine New.alloc ?_ _ | refine New.setCell ?_ (by first | omega | (simp; omega) | (simp; done)) _ | (refine New.trans ?_ (by assumption))))
        case measure => simp [intOf]; omega
      · obtain rfl : k = T := by omega
        have ZK := Lib.hid (show z = (numK (totL E k) 301, true) from by rw [ZE.out, ← HT.out])
        have NW := Lib.hid (Chg.new (N1.out.trans NV1.out) CH.out (fun i hi => by have := N1.out.size; omega))
        go_wp2_with fail
        refine (plNumbers_any _ _ _ _ _ (MK.out.new (by repeat (first | with_reducible exact New.refl _ | with_reducible assumption | refine New.drewN ?_ _ | refine New.drew ?_ | refine New.alloc ?_ _ | refine New.setCell ?_ (by first | omega | (simp; omega) | (simp; done)) _ | (refine New.trans ?_ (by assumption))))) (by omega)).mono ?_
        rintro e w5 ⟨oa, oc, rfl, o1, n5⟩
        have O1 := Lib.hid (And.intro o1 n5)
        clear o1 n5
        go_wp2
        go_ret2
        rw [ZK.out]
        exact ⟨oa, _, oc, rfl, O1.out.1.mono NW.out.size (Nat.le_refl _), NW.out.trans O1.out.2⟩
  · have ZE := Lib.hid (show z = ([], false) from by rw [HZ.out, totM_no hc])
    clear hc
    go_wp2
    go_ret2
    rw [ZE.out]
    exact ⟨none, 0, 0, rfl, Own.nil _ _ _, N1.out⟩

set_option maxRecDepth 100000 in
set_option maxHeartbeats 4000000 in
theorem sAmountsOf_any (w : World) (aa ab : Option Addr) (n m ca cb : Nat) (S H : List Int) (cl : Bool) (h1 : Ints w aa n ca S) (h2 : Ints w ab m cb H) :
    Calls Try.prog 10 #[.agg #[.slice aa n ca, .slice ab m cb], .bool cl] w (RetI w (amoM S H cl).1 (amoM S H cl).2) := by
  have HA := Lib.hid h1; clear h1
  have HB := Lib.hid h2; clear h2
  obtain ⟨z, hz⟩ : ∃ z, z = amoM S H cl := ⟨_, rfl⟩
  rw [← hz]
  have HZ := Lib.hid hz; clear hz
  go_enter Try.func10, Try.ntmps10
  go_wp2_with fail
  refine (plAsked_any _ _ _ _ _ _ _ S H cl (HA.out.new (by repeat (first | with_reducible exact New.refl _ | with_reducible assumption | refine New.drewN ?_ _ | refine New.drew ?_ | refine New.alloc ?_ _ | refine New.setCell ?_ (by first | omega | (simp; omega) | (simp; done)) _ | (refine New.trans ?_ (by assumption))))) (HB.out.new (by repeat (first | with_reducible exact New.refl _ | with_reducible assumption | refine New.drewN ?_ _ | refine New.drew ?_ | refine New.alloc ?_ _ | refine New.setCell ?_ (by first | omega | (simp; omega) | (simp; done)) _ | (refine New.trans ?_ (by assumption)))))).mono ?_
  rintro e w1 ⟨n1, h⟩
  have N1 := Lib.hid (show New w w1 from New.trans (by repeat (first | with_reducible exact New.refl _ | with_reducible assumption | refine New.drewN ?_ _ | refine New.drew ?_ | refine New.alloc ?_ _ | refine New.setCell ?_ (by first | omega | (simp; omega) | (simp; done)) _ | (refine New.trans ?_ (by assumption)))) n1); clear n1
  rcases h with ⟨hc, E, hE, R, base, O, va, vf, vm, vr, vo, P, Q, rfl, rc⟩ | ⟨hc, p, rfl⟩
  · obtain ⟨hG, hl⟩ := countB_good hc
    have hfd := endN_found cl 3000 hG
    rw [← hE] at hl hfd
    have FD := Lib.hid hfd
    have ZE := Lib.hid (show z = (numK (heldL E E.length) 61, true) from by rw [HZ.out, amoM_yes hc, hE])
    obtain ⟨ga, cpa, ev, c0, ves⟩ := reach_at rc hfd.pos
    subst ev
    have EV := Lib.hid ves
    obtain ⟨T, hT⟩ : ∃ T, T = E.length := ⟨_, rfl⟩
    rw [← hT] at c0 hl
    have HT := Lib.hid hT
    have C0 := Lib.hid c0
    clear rc ves hfd hT hG hE hc c0
    have hmk := run_make_row' (P := Try.prog) 51 4 (.bool false) 1 Try.underlying51 Try.infoBool rfl .i64 .i64 61 (by omega) (by omega)
    simp only [madeCells_eq] at hmk
    obtain ⟨bs, hbs⟩ : ∃ bs : Array Value, bs = (List.replicate 61 (Value.bool false)).toArray := ⟨_, rfl⟩
    rw [← hbs] at hmk
    push_cast at hmk
    have HBS := Lib.hid hbs
    clear hbs
    go_upto_region 5 with fail
    obtain ⟨v1, hv1⟩ : ∃ v : World, v = w1.alloc (.cells bs 4) := ⟨_, rfl⟩
    rw [← hv1]
    have nv1 : New w1 v1 := by rw [hv1]; exact (New.refl _).alloc _
    have mk1 : MkB v1 w1.heap.size 61 [] := by rw [hv1, HBS.out]; exact MkB.made w1 61
    have z1 : v1.heap.size = w1.heap.size + 1 := by rw [hv1]; simp
    have NV1 := Lib.hid nv1
    have MK1 := Lib.hid mk1
    have c0' := nv1.cell C0.out
    clear hv1 nv1 mk1 hmk
    go_wp2
    go_loopw [27] (fun i wr => ∃ k : Nat, i = .int .i64 k ∧ k ≤ T ∧ Chg (fun b => b = w1.heap.size) v1 wr ∧ MkB wr w1.heap.size 61 (heldL E k)) (fun i _ => T - (intOf i).toNat)
    case atStart => exact ⟨0, rfl, Nat.zero_le _, Chg.refl _ _, MK1.out⟩
    case round =>
      obtain ⟨k, rfl, hk, hch, hmk⟩ := hrel
      have CH := Lib.hid hch; clear hch
      have MK := Lib.hid hmk; clear hmk
      clear c0'
      by_cases hlt : k < T
      · have KE := Lib.hid (show k < E.length from by have := HT.out; omega)
        obtain ⟨sa, n1, sc, sb, m1, sd, p1, p2, i2⟩ := EV.out k KE.out
        have zg : ga < w1.heap.size := World.block_lt_of_cell? _ _ p1
        have nw : New w1 wr := Chg.new NV1.out CH.out (fun i hi => by omega)
        have zw := CH.out.size
        have p1' := nw.cell p1
        have p2' := nw.cell p2
        have I2 := Lib.hid (i2.new nw)
        have hm1 : m1 ≤ 1000 := by have := i2.len; have := (FD.out.good k KE.out); have := this.2.1; have := (FD.out.good k KE.out).1; omega
        have GH := Lib.hid (good_held (FD.out.good k KE.out))
        obtain ⟨A, hA⟩ : ∃ A, A = (E[k]?.getD dN).h := ⟨_, rfl⟩
        rw [← hA] at GH I2 i2
        have AA := Lib.hid hA
        have L1 := Lib.hid i2.len
        have I1 := Lib.hid i2
        have ZG := Lib.hid zg
        clear p1 p2 i2 nw hA zg
        go_wp2
        go_loopw [34] (fun i wr2 => ∃ j : Nat, i = .int .i64 j ∧ j ≤ m1 ∧ Chg (fun b => b = w1.heap.size) v1 wr2 ∧ MkB wr2 w1.heap.size 61 (heldL E k ++ A.take j)) (fun i _ => m1 - (intOf i).toNat)
        case atStart => exact ⟨0, rfl, Nat.zero_le _, CH.out.trans (Chg.of_new (by repeat (first | with_reducible exact New.refl _ | with_reducible assumption | refine New.drewN ?_ _ | refine New.drew ?_ | refine New.alloc ?_ _ | refine New.setCell ?_ (by first | omega | (simp; omega) | (simp; done)) _ | (refine New.trans ?_ (by assumption))))), by rw [List.take_zero, List.append_nil]; exact MK.out.new (by repeat (first | with_reducible exact New.refl _ | with_reducible assumption | refine New.drewN ?_ _ | refine New.drew ?_ | refine New.alloc ?_ _ | refine New.setCell ?_ (by first | omega | (simp; omega) | (simp; done)) _ | (refine New.trans ?_ (by assumption))))⟩
        case round =>
          obtain ⟨j, rfl, hj, hch, hmk⟩ := hrel
          have CH2 := Lib.hid hch; clear hch
          have MK2 := Lib.hid hmk; clear hmk
          have zw2 := CH2.out.size
          by_cases hlt2 : j < m1
          · have NW2 := Lib.hid (Chg.new NV1.out CH2.out (fun i hi => by omega))
            obtain ⟨b1, o1, rfl, g1, _⟩ := (I1.out.new NW2.out).at hlt2
            have JA := Lib.hid (show j < A.length from by have := L1.out; omega)
            obtain ⟨v0, v1'⟩ := GH.out j JA.out
            have ET := Lib.hid (show A.take (j + 1) = A.take j ++ [A[j]?.getD 0] from by rw [List.take_add_one]; have := JA.out; simp [this])
            obtain ⟨x, hx⟩ : ∃ x, x = A[j]?.getD 0 := ⟨_, rfl⟩
            rw [← hx] at g1 v0 v1'
            have HX := Lib.hid hx; clear hx
            obtain ⟨x', hx'⟩ : ∃ x' : Nat, x = x' := ⟨x.toNat, by omega⟩
            subst hx'
            have xI : (x' : Int) < 61 := by omega
            have x0 : (0 : Int) ≤ (x' : Int) := by omega
            obtain ⟨b1', b2⟩ := MK2.out.cell (j := x') (by omega)
            have zmk := MK2.out.lt
            go_wp2
            go_roundw
            case rel =>
              refine ⟨j + 1, by go_num, by omega, ?_, ?_⟩
              · exact CH2.out.trans (Chg.setCell (p := ⟨w1.heap.size, x', none⟩) _)
              · rw [ET.out, ← HX.out, ← List.append_assoc]
                exact MK2.out.store x'
            case measure => simp [intOf]; omega
          · obtain rfl : j = m1 := by omega
            have EA := Lib.hid (show heldL E (k + 1) = heldL E k ++ A.take j from by rw [heldL, ← AA.out, List.take_of_length_le (by have := L1.out; omega)])
            go_wp2
            go_roundw
            case rel =>
              refine ⟨k + 1, by go_num, by omega, CH2.out, ?_⟩
              rw [EA.out]
              exact MK2.out
            case measure => simp [intOf]; omega
      · obtain rfl : k = T := by omega
        have ZK := Lib.hid (show z = (numK (heldL E k) 61, true) from by rw [ZE.out, ← HT.out])
        have NW := Lib.hid (Chg.new (N1.out.trans NV1.out) CH.out (fun i hi => by have := N1.out.size; omega))
        go_wp2_with fail
        refine (plNumbers_any _ _ _ _ _ (MK.out.new (by repeat (first | with_reducible exact New.refl _ | with_reducible assumption | refine New.drewN ?_ _ | refine New.drew ?_ | refine New.alloc ?_ _ | refine New.setCell ?_ (by first | omega | (simp; omega) | (simp; done)) _ | (refine New.trans ?_ (by assumption))))) (by omega)).mono ?_
        rintro e w5 ⟨oa, oc, rfl, o1, n5⟩
        have O1 := Lib.hid (And.intro o1 n5)
        clear o1 n5
        go_wp2
        go_ret2
        rw [ZK.out]
        exact ⟨oa, _, oc, rfl, O1.out.1.mono NW.out.size (Nat.le_refl _), NW.out.trans O1.out.2⟩
  · have ZE := Lib.hid (show z = ([], false) from by rw [HZ.out, amoM_no hc])
    clear hc
    go_wp2
    go_ret2
    rw [ZE.out]
    exact ⟨none, 0, 0, rfl, Own.nil _ _ _, N1.out⟩
end Go.Proofs.Ytilepckgcgdjgaa
