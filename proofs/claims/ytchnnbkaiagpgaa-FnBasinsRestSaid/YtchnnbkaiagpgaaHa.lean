/- HeldAlong: the model's and the program's. -/
import Derived.Test.YtchnnbkaiagpgaaTicks5
import Derived.Test.YtchnnbkaiagpgaaWeGo
namespace Go.Proofs.Ytchnnbkaiagpgaa
open Go.RowKit Go.Conc

/-- A row, flows and the index of a basin. -/
def plB (l : List (Int × Int × Int)) (i : Int) (xs : List Int) : Bool := askB l xs && inB 0 ((l.length : Int) - 1) i
def haK (l : List (Int × Int × Int)) (xs : List Int) (i t : Nat) : Int := ((rowK l xs (t + 1))[i]?.getD (0, 0, 0)).2.2
def haTo (l : List (Int × Int × Int)) (xs : List Int) (i k : Nat) : List Int := (List.range k).map (haK l xs i)
theorem haTo_length (l : List (Int × Int × Int)) (xs : List Int) (i k : Nat) : (haTo l xs i k).length = k := by simp [haTo]
theorem haTo_succ (l : List (Int × Int × Int)) (xs : List Int) (i k : Nat) : haTo l xs i (k + 1) = haTo l xs i k ++ [haK l xs i k] := by simp [haTo, List.range_succ]
theorem haTo_get (l : List (Int × Int × Int)) (xs : List Int) (i k j : Nat) (h : j < k) : (haTo l xs i k)[j]?.getD 0 = haK l xs i j := by simp [haTo, h]
def haM (l : List (Int × Int × Int)) (i : Int) (xs : List Int) : List Int := if plB l i xs then haTo l xs i.toNat xs.length else []
theorem haM_small (l : List (Int × Int × Int)) (i : Int) (xs : List Int) : (haM l i xs).length ≤ 1048576 := by
  unfold haM
  split
  · rename_i h
    unfold plB at h
    rw [Bool.and_eq_true] at h
    have := (askB_iff.1 h.1).2.1
    rw [haTo_length]; omega
  · simp
theorem haK_bd {l : List (Int × Int × Int)} {xs : List Int} (hl : RowOk l) (hf : FlowOk xs) (i t : Nat) (hi : i < l.length) (ht : t < xs.length) : 0 ≤ haK l xs i t ∧ haK l xs i t ≤ 1000 := by
  have h := rowK_ok hl hf (t + 1) (by omega)
  have := h.2.2 i (by rw [rowK_length]; omega)
  unfold BasOk at this
  unfold haK
  omega

set_option maxRecDepth 100000 in
set_option maxHeartbeats 2000000 in
theorem sHeldAlong_any (w : World) (aa : Option Addr) (n ca : Nat) (l : List (Int × Int × Int)) (i : Int) (ab : Option Addr) (m cb : Nat) (xs : List Int) (ha : Basins w aa n ca l) (hx : Ints w ab m cb xs) :
    Calls Try.prog 45 #[.slice aa n ca, .int .i64 i, .slice ab m cb] w fun e w' => ∃ oa on oc, e = .returned (.tuple #[.slice oa on oc, .bool (plB l i xs)]) ∧ Own w' w.heap.size w'.heap.size oa on oc (haM l i xs) ∧ New w w' := by
  have HN := Lib.hid ha.1
  have HM := Lib.hid hx.1
  have hnn := ha.2.2.1
  have HA := Lib.hid ha; clear ha
  have HX := Lib.hid hx; clear hx
  by_cases h : askB l xs = true
  · by_cases hp : inB 0 ((n : Int) - 1) i = true
    · have hb : plB l i xs = true := by unfold plB; rw [h, ← HN.out, hp]; rfl
      obtain ⟨i0, i1⟩ := inB_iff.1 hp
      obtain ⟨p, rfl⟩ := Int.eq_ofNat_of_zero_le i0
      have HR := Lib.hid (show plB l p xs = true ∧ haM l p xs = haTo l xs p m from ⟨hb, by unfold haM; rw [if_pos hb, HM.out]; rfl⟩)
      have HC := Lib.hid (askB_iff.1 h)
      have pl : p < l.length := by have := HN.out; omega
      have m60 : m ≤ 60 := by have := HC.out.2.1; have := HM.out; omega
      obtain ⟨j0, hi, hz0, hz1, hz2⟩ := info_parts Try.infoInt
      go_enter Try.func45, Try.ntmps45
      go_wp2_with fail
      refine (weAsked_any _ _ _ _ l _ _ _ xs HA.out HX.out).mono ?_
      rintro e w1 ⟨rfl, n1⟩
      have N1 := Lib.hid n1; clear n1
      go_wp2_with fail
      refine (l1In_any _ _ _ _).mono ?_
      rintro e w9 ⟨rfl, rfl⟩
      go_wp2_with fail
      refine (weGo_any _ _ _ _ l _ _ _ xs (HA.out.new N1.out) (HX.out.new N1.out) HC.out.1 HC.out.2).mono ?_
      rintro e w2 ⟨ga, gc, ea, en, ec, sa, sc, ra, rc, rfl, _, _, _, ib, n2⟩
      have IB := Lib.hid ib; clear ib
      have N2 := Lib.hid (N1.out.trans n2); clear n2
      go_wp2_with ((with_reducible (show wpList _ _ _ ({ dst := _, op := .field _ _ _, type := _, pos := _, after := _, guard := _ } :: _) _ _)); go_must (refine wpList_value_as rfl (.slice ra m rc) (by kernel_rfl) ?_))
      clear h hp hb i0 i1
      go_loopw [8, 28] (fun vo t wr => ∃ k : Nat, k ≤ m ∧ t = .int .i64 k ∧ New w2 wr ∧ wr.ownsRow w2.heap.size 3 1 vo k ((haTo l xs p k).map (Value.int .i64))) (fun _ t _ => m - (intOf t).toNat)
      case atStart => exact ⟨0, Nat.zero_le _, rfl, New.refl _, World.ownsRow_nil _ _ _ _⟩
      case round =>
        obtain ⟨k, hk, rfl, hnw, hro⟩ := hrel
        have NW := Lib.hid hnw; clear hnw
        have RO := Lib.hid hro; clear hro
        by_cases hlt : k < m
        · obtain ⟨bq, oq, qa, qm, qc, rfl, hcl, hbs⟩ := (IB.out.new NW.out).2.2.2.1 k hlt
          have e1 : (rowsTo l xs m)[k]?.getD [] = rowK l xs (k + 1) := by simp [rowsTo, hlt]
          rw [e1] at hbs
          have pq : p < qm := by rw [hbs.1, rowK_length]; exact pl
          have hq9 := hbs.2.2.1
          obtain ⟨bx, ox, rfl, g0, g1, g2⟩ := hbs.2.2.2.1 p pq
          have hbd := haK_bd HC.out.1 HC.out.2 p k pl (by have := HM.out; omega)
          have g2' : wr.cell? ⟨bx, ox + p * 3 + 2, none⟩ = some (.int .i64 (haK l xs p k)) := g2
          clear g2 g0 g1 hbs e1
          have zb := NW.out.size
          go_wp2_with (at_builtin; (refine wpList_append_lies _ (by rfl) (.tmp 32) (.tmp 38) 25 (by rfl) w2.heap.size 3 j0 (.int .i64 0) 1 8 Try.underlying25 hi hz0 hz1 hz2 rfl (by decide) _ k _ (by rfl) (ownsRow_new RO.out (by repeat (first | with_reducible exact New.refl _ | with_reducible assumption | refine New.drewN ?_ _ | refine New.drew ?_ | refine New.alloc ?_ _ | refine New.setCell ?_ (by first | omega | (simp; omega) | (simp; done)) _ | (refine New.trans ?_ (by assumption))))) _ _ _ [.int .i64 (haK l xs p k)] (by rfl) (by rfl) (World.news_of_block (cs := #[.int .i64 (haK l xs p k)]) (t := 3) (fr := (0, 0)) (heap_alloc_at (by simp))) (by simp [Value.oneCell']) (by omega) (by unfold maxLen; omega) (by omega) (by simp; omega) _ rfl ?_); intro g3 cap3 w3 ho hg hb' hlt'; have N3 := Lib.hid (New.grown (NW.out.trans (by repeat (first | with_reducible exact New.refl _ | with_reducible assumption | refine New.drewN ?_ _ | refine New.drew ?_ | refine New.alloc ?_ _ | refine New.setCell ?_ (by first | omega | (simp; omega) | (simp; done)) _ | (refine New.trans ?_ (by assumption))))) (ownsRow_new RO.out (by repeat (first | with_reducible exact New.refl _ | with_reducible assumption | refine New.drewN ?_ _ | refine New.drew ?_ | refine New.alloc ?_ _ | refine New.setCell ?_ (by first | omega | (simp; omega) | (simp; done)) _ | (refine New.trans ?_ (by assumption))))) (Nat.le_refl _) hg); have RO3 := Lib.hid ho; clear ho hg hb' hlt')
          go_roundw
          case rel =>
            refine ⟨k + 1, by omega, by go_num, N3.out, ?_⟩
            rw [haTo_succ, List.map_append]
            exact RO3.out
          case measure => simp [intOf]; omega
        · obtain rfl : k = m := by omega
          go_wp2_with fail
          obtain ⟨oa, oc, e1, o1⟩ := Own.of_row RO.out
          subst e1
          go_ret2
          rw [HR.out.1, HR.out.2]
          exact ⟨_, _, _, rfl, o1.mono N2.out.size (Nat.le_refl _), N2.out.trans NW.out⟩
    · have hpf := bool_no hp
      have HR := Lib.hid (show plB l i xs = false ∧ haM l i xs = [] by
        have hb : plB l i xs = false := by unfold plB; rw [← HN.out, hpf]; simp
        exact ⟨hb, by unfold haM; rw [hb]; rfl⟩)
      have n6 : 1 ≤ n ∧ n ≤ 6 := by have q := (askB_iff.1 h).1; have := q.1; have := q.2.1; have := HN.out; omega
      go_enter Try.func45, Try.ntmps45
      go_wp2_with fail
      refine (weAsked_any _ _ _ _ l _ _ _ xs HA.out HX.out).mono ?_
      rintro e w1 ⟨rfl, n1⟩
      have N1 := Lib.hid n1; clear n1
      go_wp2_with fail
      refine (l1In_any _ _ _ _).mono ?_
      rintro e w9 ⟨rfl, rfl⟩
      go_wp2_with fail
      go_ret2
      rw [HR.out.1, HR.out.2]
      exact ⟨_, _, _, rfl, Own.nil _ _ _, N1.out⟩
  · have hf := bool_no h
    have HR := Lib.hid (show plB l i xs = false ∧ haM l i xs = [] by
      have hb : plB l i xs = false := by unfold plB; rw [hf]; rfl
      exact ⟨hb, by unfold haM; rw [hb]; rfl⟩)
    go_enter Try.func45, Try.ntmps45
    go_wp2_with fail
    refine (weAsked_any _ _ _ _ l _ _ _ xs HA.out HX.out).mono ?_
    rintro e w1 ⟨rfl, n1⟩
    have N1 := Lib.hid n1; clear n1
    go_wp2_with fail
    go_ret2
    rw [HR.out.1, HR.out.2]
    exact ⟨_, _, _, rfl, Own.nil _ _ _, N1.out⟩

set_option maxRecDepth 100000 in
set_option maxHeartbeats 2000000 in
theorem iHeldAlong_any (w : World) (aa : Option Addr) (n ca : Nat) (l : List (Int × Int × Int)) (i : Int) (ab : Option Addr) (m cb : Nat) (xs : List Int) (ha : Basins w aa n ca l) (hx : Ints w ab m cb xs) :
    Calls Try.prog 26 #[.slice aa n ca, .int .i64 i, .slice ab m cb] w fun e w' => ∃ oa on oc, e = .returned (.tuple #[.slice oa on oc, .bool (plB l i xs)]) ∧ Own w' w.heap.size w'.heap.size oa on oc (haM l i xs) ∧ New w w' := by
  have HN := Lib.hid ha.1
  have HM := Lib.hid hx.1
  have hnn := ha.2.2.1
  have hmm := hx.2.2.1
  have HA := Lib.hid ha; clear ha
  have HX := Lib.hid hx; clear hx
  by_cases hp : (decide (0 ≤ i) && decide (i < (n : Int))) = true
  · obtain ⟨i0, i1⟩ : 0 ≤ i ∧ i < (n : Int) := by rw [Bool.and_eq_true, decide_eq_true_eq, decide_eq_true_eq] at hp; exact hp
    obtain ⟨p, rfl⟩ := Int.eq_ofNat_of_zero_le i0
    have pn : p < n := by omega
    go_enter Try.func26, Try.ntmps26
    go_wp2_with fail
    refine (ticksOf_any _ _ _ _ l _ _ _ xs HA.out HX.out).mono ?_
    rintro e w1 (⟨h, B, cs, rfl, hcb, hta, hlo, n1⟩ | ⟨hf, rfl, n1⟩)
    · have hb : plB l p xs = true := by unfold plB; rw [h, inB_iff.2 ⟨by omega, by rw [← HN.out]; omega⟩]; rfl
      have HR := Lib.hid (show plB l p xs = true ∧ haM l p xs = haTo l xs p m from ⟨hb, by unfold haM; rw [if_pos hb, HM.out]; rfl⟩)
      have HC := Lib.hid (askB_iff.1 h); clear h hb
      have pl : p < l.length := by have := HN.out; omega
      have p6 : p < 6 := by have := HC.out.1.2.1; omega
      have m60 : m ≤ 60 := by have := HC.out.2.1; have := HM.out; omega
      have N1 := Lib.hid n1; clear n1
      have CB0 := Lib.hid hcb
      have zB := Lib.hid hcb.lt; clear hcb
      have TA := Lib.hid hta; clear hta
      have hmk := run_make_row' (P := Try.prog) 25 3 (.int .i64 0) 8 Try.underlying25 Try.infoInt rfl .i64 .i64 m (by omega) (by omega)
      go_wp2_with fail
      refine (isPlace_any _ _ _ _ _ hnn).mono ?_
      rintro e w9 ⟨rfl, rfl⟩
      go_wp2_with fail
      clear hp i0 i1
      go_loopw [32] (fun t wr => ∃ (k : Nat) (f : Nat → Value), k ≤ m ∧ t = .int .i64 k ∧ wr.rowIs w1.heap.size 3 m f ∧ (∀ j, j < k → f j = .int .i64 (haK l xs p j)) ∧ (∀ j, ∃ z, f j = .int .i64 z) ∧ WB wr B cs 75 ∧ New w1 wr) (fun t _ => m - (intOf t).toNat)
      case atStart => exact ⟨0, _, Nat.zero_le _, rfl, World.rowIs_made _ _ _ _, fun j hj => absurd hj (by omega), fun _ => ⟨0, rfl⟩, CB0.out.new (by repeat (first | with_reducible exact New.refl _ | with_reducible assumption | refine New.drewN ?_ _ | refine New.drew ?_ | refine New.alloc ?_ _ | refine New.setCell ?_ (by first | omega | (simp; omega) | (simp; done)) _ | (refine New.trans ?_ (by assumption)))), (New.refl w1).alloc _⟩
      case round =>
        obtain ⟨k, f, hk, rfl, hrow, hf, hz, hcb, hnew⟩ := hrel
        have RW := Lib.hid hrow; clear hrow
        have HF := Lib.hid hf; clear hf
        have HZ := Lib.hid hz; clear hz
        have CB := Lib.hid hcb; clear hcb
        have NW := Lib.hid hnew; clear hnew
        by_cases hlt : k < m
        · go_upto_region 8 with (first | (refine wpList_load_blk rfl 75 (.tmp 35) rfl B (k * 26) rfl _ (tkAt l xs k) 75 CB.out (TA.out.at' k (by omega)) _ Try.underlying75 rfl (by kernel_rfl) ?_) | ((with_reducible (show wpList _ _ _ ({ dst := none, op := .store _ _ _, type := _, pos := _, after := _, guard := _ } :: _) _ _)); go_must (refine wpList_store_blk rfl 75 (.tmp 12) (.tmp 36) rfl wr.heap.size 0 (tkC (fun _ => (0, 0, 0)) 0 (fun _ => 0) 0) (tkAt l xs k) 75 rfl rfl (heap_alloc_new _ _) (by simp [tkC_length, tkAt_length]) (by kernel_rfl) (tkC_one _ _ _ _) ?_); intro w5 hb_ hc_; have HB5 := Lib.hid (WB.eqv hb_.out (splice_zero _ _ rfl)); have N5 := Lib.hid (Chg.new (w0 := wr) (by repeat (first | with_reducible exact New.refl _ | with_reducible assumption | refine New.drewN ?_ _ | refine New.drew ?_ | refine New.alloc ?_ _ | refine New.setCell ?_ (by first | omega | (simp; omega) | (simp; done)) _ | (refine New.trans ?_ (by assumption)))) hc_ (fun i hi => by omega)); clear hb_ hc_))
          obtain ⟨c0, c1, c2, c3⟩ := tkC_get (basA (rowK l xs (k + 1))) l.length (hadA (rowK l xs k) (xs[k]?.getD 0) l.length) (giveK l xs k) p p6
          have q2 : w5.cell? ⟨wr.heap.size, p * 3 + 2, none⟩ = some (.int .i64 (haK l xs p k)) := HB5.out.cell c2
          clear c0 c1 c2 c3
          have R5 := Lib.hid (RW.out.of_block (N5.out.block _ RW.out.lt))
          have CB5 := Lib.hid (CB.out.new N5.out)
          have zR := Lib.hid RW.out.lt
          obtain ⟨z, ez⟩ := HZ.out k
          have hd : w5.cell? ⟨w1.heap.size, k, none⟩ = some (.int .i64 z) := by rw [R5.out.cell hlt, ez]
          have hfz := R5.out.frozen k
          clear ez
          go_wp2_with fail
          go_roundw
          case rel =>
            refine ⟨k + 1, _, by omega, by go_num, R5.out.set k _, fun j hj => ?_, fun j => ?_, CB5.out.apart (by have := zB.out; simp; omega) _, (NW.out.trans N5.out).setCell (Nat.le_refl _) _⟩
            · by_cases e : j = k
              · simp [e]
              · simp only [e, if_false]; exact HF.out j (by omega)
            · by_cases e : j = k
              · simp [e]
              · simp only [e, if_false]; exact HZ.out j
          case measure => simp [intOf]; omega
        · obtain rfl : k = m := by omega
          go_wp2_with fail
          go_ret2
          rw [HR.out.1, HR.out.2]
          refine ⟨_, _, _, rfl, ⟨by rw [haTo_length], Nat.le_refl _, by omega, .inr ⟨w1.heap.size, f, rfl, N1.out.size, RW.out.lt, RW.out, fun j hj => ?_⟩⟩, N1.out.trans NW.out⟩
          rw [HF.out j hj, haTo_get _ _ _ _ _ hj]
    · have HR := Lib.hid (show plB l p xs = false ∧ haM l p xs = [] by
        have hb : plB l p xs = false := by unfold plB; rw [hf]; rfl
        exact ⟨hb, by unfold haM; rw [hb]; rfl⟩)
      go_wp2_with fail
      go_ret2
      rw [HR.out.1, HR.out.2]
      exact ⟨_, _, _, rfl, Own.nil _ _ _, n1⟩
  · have hpf := bool_no hp
    have HR := Lib.hid (show plB l i xs = false ∧ haM l i xs = [] by
      have hb : plB l i xs = false := by
        unfold plB
        rw [show inB 0 ((l.length : Int) - 1) i = false from bool_no fun hh => hp (by have := inB_iff.1 hh; have := HN.out; rw [Bool.and_eq_true, decide_eq_true_eq, decide_eq_true_eq]; omega)]
        simp
      exact ⟨hb, by unfold haM; rw [hb]; rfl⟩)
    go_enter Try.func26, Try.ntmps26
    go_wp2_with fail
    refine (ticksOf_any _ _ _ _ l _ _ _ xs HA.out HX.out).mono ?_
    rintro e w1 (⟨h, B, cs, rfl, hcb, hta, hlo, n1⟩ | ⟨hf, rfl, n1⟩)
    · go_wp2_with fail
      refine (isPlace_any _ _ _ _ _ hnn).mono ?_
      rintro e w9 ⟨rfl, rfl⟩
      rw [hpf]
      go_wp2_with fail
      go_ret2
      rw [HR.out.1, HR.out.2]
      exact ⟨_, _, _, rfl, Own.nil _ _ _, n1⟩
    · go_wp2_with fail
      go_ret2
      rw [HR.out.1, HR.out.2]
      exact ⟨_, _, _, rfl, Own.nil _ _ _, n1⟩
end Go.Proofs.Ytchnnbkaiagpgaa
