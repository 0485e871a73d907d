/- The model's search for the levels that come again. -/
import Derived.Test.YtafiihhiipfejaaSipS
import Derived.Test.YtafiihhiipfejaaOrbit
import Derived.Test.YtafiihhiipfejaaRows2b
namespace Go.Proofs.Ytafiihhiipfejaa
open Go.RowKit

theorem Try.infoLevel : (Try.prog.info? 55).map (fun i => (i.zero, i.size, i.bytes)) = some (some (.agg #[.int .i64 0, .bool false]), 2, 16) := by kernel_rfl
def cstTo (a b c d x : Int) (k : Nat) : List (Int × Bool) := (List.range k).map (cst a b c d x)
theorem cstTo_length (a b c d x : Int) (k : Nat) : (cstTo a b c d x k).length = k := by simp [cstTo]
theorem cstTo_succ (a b c d x : Int) (k : Nat) : cstTo a b c d x (k + 1) = cstTo a b c d x k ++ [cst a b c d x k] := by simp [cstTo, List.range_succ]
theorem cstTo_get (a b c d x : Int) (k j : Nat) (h : j < k) : (cstTo a b c d x k)[j]?.getD (0, false) = cst a b c d x j := by simp [cstTo, h]
def MeetPost (a b c d x : Int) (w : World) (e : Ending) (w' : World) : Prop :=
  ∃ n k : Nat, Meets (cst a b c d x) n k ∧ n ≤ 122 ∧ e = .returned (.tuple #[.int .i64 k, levV (cst a b c d x k).1 (cst a b c d x k).2, .int .i64 ((n : Int) - k)]) ∧ New w w'
def Fresh (a b c d x : Int) (k : Nat) : Prop := ∀ i j, i < j → j < k → cst a b c d x i ≠ cst a b c d x j

set_option maxRecDepth 100000 in
set_option maxHeartbeats 4000000 in
theorem siMeet_any (w : World) (a b c d x : Int) (hs : SipOk a b c d) (x0 : 0 ≤ x) (x1 : x ≤ 60) :
    Calls Try.prog 34 #[sipV a b c d, .int .i64 x] w (MeetPost a b c d x w) := by
  have HS := Lib.hid hs; clear hs
  obtain ⟨i1, hj1, hy0, hy1, hy2⟩ := info_parts Try.infoLevel
  go_enter Try.func34, Try.ntmps34
  go_wp2
  obtain ⟨v0, hv0⟩ : ∃ v, v = ((w.alloc (.cells #[.int .i64 a, .int .i64 b, .int .i64 c, .int .i64 d] 26)).alloc (.cells #[.int .i64 0, .bool false] 55)).alloc (.cells #[.int .i64 0, .bool false] 55) := ⟨_, rfl⟩
  rw [← hv0]
  have p0 : v0.cell? ⟨w.heap.size, 0, none⟩ = some (.int .i64 a) := by rw [hv0]; simp [go_sem]
  have p1 : v0.cell? ⟨w.heap.size, 1, none⟩ = some (.int .i64 b) := by rw [hv0]; simp [go_sem]
  have p2 : v0.cell? ⟨w.heap.size, 2, none⟩ = some (.int .i64 c) := by rw [hv0]; simp [go_sem]
  have p3 : v0.cell? ⟨w.heap.size, 3, none⟩ = some (.int .i64 d) := by rw [hv0]; simp [go_sem]
  have t0 : v0.cell? ⟨w.heap.size + 1, 0, none⟩ = some (.int .i64 0) := by rw [hv0]; simp [go_sem]
  have t1 : v0.cell? ⟨w.heap.size + 1, 1, none⟩ = some (.bool false) := by rw [hv0]; simp [go_sem]
  have s0 : v0.frozen? ⟨w.heap.size + 1, 0, none⟩ = false := by rw [hv0]; simp [go_sem]
  have s1 : v0.frozen? ⟨w.heap.size + 1, 1, none⟩ = false := by rw [hv0]; simp [go_sem]
  have nv : New w v0 := by rw [hv0]; exact (by repeat (first | with_reducible exact New.refl _ | with_reducible assumption | refine New.drewN ?_ _ | refine New.drew ?_ | refine New.alloc ?_ _ | refine New.setCell ?_ (by first | omega | (simp; omega) | (simp; done)) _ | (refine New.trans ?_ (by assumption))))
  have RR : RunR v0 v0 (w.heap.size + 1 + 1) (w.heap.size + 1 + 1 + 1) 3 55 (.int .i64 0) (.bool false) (.slice none 0 0) 0 [] (.slice none 0 0) 0 [] := by
    refine ⟨Below.refl _ _, by omega, by rw [hv0]; simp [go_sem], by rw [hv0]; simp [go_sem], by rw [hv0]; simp [go_sem], by rw [hv0]; simp [go_sem], World.ownsRow_nil _ _ _ _, World.ownsRow_nil _ _ _ _, fun g e => by simp [Value.ownBlock] at e⟩
  have PP := Lib.hid (And.intro p0 (And.intro p1 (And.intro p2 p3))); clear p0 p1 p2 p3
  have TT := Lib.hid (And.intro t0 t1); clear t0 t1
  have TF := Lib.hid (And.intro s0 s1); clear s0 s1
  have NV := Lib.hid nv; clear nv
  have RR0 := Lib.hid RR; clear RR
  clear hv0
  go_loopw [7] (fun v wr => ∃ k : Nat, Fresh a b c d x k ∧ RunR v0 wr (w.heap.size + 1 + 1) (w.heap.size + 1 + 1 + 1) 3 55 (.int .i64 (cst a b c d x k).1) (.bool (cst a b c d x k).2) (.slice none 0 0) 0 [] v k (flatLevel (cstTo a b c d x k)))
    (fun v _ => 123 - (match v with | .slice _ n _ => n | _ => 0))
  case atStart => exact ⟨0, fun i j _ hj => absurd hj (by omega), RR0.out⟩
  case round =>
    obtain ⟨k, hfr, hrr⟩ := hrel
    have FR := Lib.hid hfr; clear hfr
    have k122 : k ≤ 122 := cst_few HS.out x0 FR.out
    have RR := Lib.hid hrr; clear hrr
    have NW := Lib.hid (RR.out.since NV.out (by omega))
    obtain ⟨la, lc, e1, o1⟩ := OwnLevel.of_row RR.out.levs
    subst e1
    have OL := Lib.hid o1.reads; clear o1
    have zb := RR.out.bsize
    have sb := cst_bd HS.out x0 k
    obtain ⟨sb0, sb1⟩ := sb
    obtain ⟨wo, rfl⟩ : ∃ u : World, u = wr := ⟨_, rfl⟩
    go_wp2
    go_loopw [14] (fun i wi => ∃ j : Nat, j ≤ k ∧ i = .int .i64 j ∧ (∀ q, q < j → cst a b c d x q ≠ cst a b c d x k) ∧ New wo wi) (fun i _ => k - (intOf i).toNat)
    case atStart => exact ⟨0, Nat.zero_le _, rfl, fun q hq => absurd hq (by omega), New.refl _⟩
    case round =>
      obtain ⟨j, hjk, rfl, hne, hni⟩ := hrel
      have NE := Lib.hid hne; clear hne
      have NI := Lib.hid hni; clear hni
      have RI := Lib.hid (RR.out.kept NI.out)
      have l0 := RI.out.c0
      have l1 := RI.out.c1
      have zi := RI.out.bsize
      by_cases hlt : j < k
      · obtain ⟨bg, og, rfl, g0, g1⟩ := (OL.out.new NI.out).2.2.2.1 j hlt
        rw [cstTo_get _ _ _ _ _ _ _ hlt] at g0 g1
        by_cases he : cst a b c d x j = cst a b c d x k
        · rw [he] at g0 g1
          have HE := Lib.hid he; clear he
          have t0 := RI.out.old TT.out.1 (by simp)
          have t1 := RI.out.old TT.out.2 (by simp)
          have s0 := (Below.frozen (p := ⟨w.heap.size + 1, 0, none⟩) RI.out.new (by show w.heap.size + 1 < w.heap.size + 1 + 1; omega)).trans TF.out.1
          have s1 := (Below.frozen (p := ⟨w.heap.size + 1, 1, none⟩) RI.out.new (by show w.heap.size + 1 < w.heap.size + 1 + 1; omega)).trans TF.out.2
          have NN := Lib.hid (NW.out.trans NI.out)
          have zs : w.heap.size + 1 < wr.heap.size := by omega
          go_wp2
          obtain ⟨W, hW⟩ : ∃ W, W = wr.alloc (.cells #[.int .i64 (cst a b c d x k).1, .bool (cst a b c d x k).2] 55) := ⟨_, rfl⟩
          rw [← hW]
          have nW : New wr W := by rw [hW]; exact (by repeat (first | with_reducible exact New.refl _ | with_reducible assumption | refine New.drewN ?_ _ | refine New.drew ?_ | refine New.alloc ?_ _ | refine New.setCell ?_ (by first | omega | (simp; omega) | (simp; done)) _ | (refine New.trans ?_ (by assumption))))
          replace l0 := nW.cell l0
          replace l1 := nW.cell l1
          replace s0 := nW.frz t0 s0
          replace s1 := nW.frz t1 s1
          replace t0 := nW.cell t0
          replace t1 := nW.cell t1
          clear nW
          have NW2 := Lib.hid (show New w W by rw [hW]; exact NN.out.alloc _)
          clear hW g0 g1 zi zs zb sb0 sb1 hy0 hy1 hy2 hj1
          go_region
          go_wp2
          have nn := NW2.out
          refine bodyPost_ret (v := .tuple #[.int .i64 j, levV (cst a b c d x k).1 (cst a b c d x k).2, .int .i64 ((k : Int) - j)]) (by simp [results, Try.results34, go_sem, t0, t1]) rfl ⟨k, j, ⟨FR.out, hlt, HE.out⟩, k122, by rw [HE.out], (by repeat (first | with_reducible exact New.refl _ | with_reducible assumption | refine New.drewN ?_ _ | refine New.drew ?_ | refine New.alloc ?_ _ | refine New.setCell ?_ (by first | omega | (simp; omega) | (simp; done)) _ | (refine New.trans ?_ (by assumption))))⟩
        · have HE := Lib.hid he; clear he
          have NN : ∀ q, q < j + 1 → cst a b c d x q ≠ cst a b c d x k := fun q hq => by
            by_cases e : q = j
            · subst e; exact HE.out
            · exact NE.out q (by omega)
          have NE1 := Lib.hid NN; clear NN
          by_cases h1 : (cst a b c d x j).1 = (cst a b c d x k).1
          · have h2 : ((cst a b c d x j).2 == (cst a b c d x k).2) = false := by
              have : (cst a b c d x j).2 ≠ (cst a b c d x k).2 := fun h2 => HE.out (Prod.ext h1 h2)
              simpa using this
            rw [h1] at g0
            clear h1
            go_wp2
            go_roundw
            case rel => exact ⟨j + 1, by omega, by go_num, NE1.out, NI.out.alloc _⟩
            case measure => simp [intOf]; omega
          · go_wp2
            go_roundw
            case rel => exact ⟨j + 1, by omega, by go_num, NE1.out, NI.out.alloc _⟩
            case measure => simp [intOf]; omega
      · obtain rfl : j = k := by omega
        have FR1 := Lib.hid (show Fresh a b c d x (j + 1) from fun p q hpq hq => by
          by_cases e : q = j
          · subst e; exact NE.out p hpq
          · exact FR.out p q hpq (by omega))
        have p0 := RI.out.old PP.out.1 (by simp; omega)
        have p1 := RI.out.old PP.out.2.1 (by simp; omega)
        have p2 := RI.out.old PP.out.2.2.1 (by simp; omega)
        have p3 := RI.out.old PP.out.2.2.2 (by simp; omega)
        have f0 := RI.out.f0
        have f1 := RI.out.f1
        go_wp2_with (first
          | (at_builtin; go_loud (refine wpList_append_lies _ (by rfl) (.tmp 29) (.tmp 31) 71 (by rfl) (w.heap.size + 1 + 1 + 1) 55 i1 _ 2 16 Try.underlying71 hj1 hy0 hy1 hy2 rfl (by decide) _ j _ (by rfl) ((RI.out.kept (by repeat (first | with_reducible exact New.refl _ | with_reducible assumption | refine New.drewN ?_ _ | refine New.drew ?_ | refine New.alloc ?_ _ | refine New.setCell ?_ (by first | omega | (simp; omega) | (simp; done)) _ | (refine New.trans ?_ (by assumption))))).levs) _ _ _ [.int .i64 (cst a b c d x j).1, .bool (cst a b c d x j).2] (by rfl) (by rfl) (World.news_of_block (cs := #[.int .i64 (cst a b c d x j).1, .bool (cst a b c d x j).2]) (t := 55) (fr := (0, 0)) (heap_alloc_at (by simp))) (by simp [Value.oneCell']) (by omega) (by unfold maxLen; omega) (by omega) (by first | omega | (simp; omega) | (simp; done)) _ rfl ?_; intro g cap w2 ho hg hb' hlt'; have zz := hg.size; (simp at zz); have R2 := RunR.growL (RI.out.kept (by repeat (first | with_reducible exact New.refl _ | with_reducible assumption | refine New.drewN ?_ _ | refine New.drew ?_ | refine New.alloc ?_ _ | refine New.setCell ?_ (by first | omega | (simp; omega) | (simp; done)) _ | (refine New.trans ?_ (by assumption))))) ho hg hb'; replace l0 := R2.c0; replace l1 := R2.c1; replace p0 := R2.old PP.out.1 (by first | omega | (simp; omega) | (simp; done)); replace p1 := R2.old PP.out.2.1 (by first | omega | (simp; omega) | (simp; done)); replace p2 := R2.old PP.out.2.2.1 (by first | omega | (simp; omega) | (simp; done)); replace p3 := R2.old PP.out.2.2.2 (by first | omega | (simp; omega) | (simp; done)); replace f0 := R2.f0; replace f1 := R2.f1; have RR2 := Lib.hid R2; clear R2 ho hg hb' hlt'))
          | (go_at_call 38; refine (siTick_any _ _ _ _ _ _ _ _ HS.out sb0 sb1 x0 x1).mono ?_; rintro e w3 ⟨rfl, n3⟩; replace f0 := n3.frz l0 f0; replace f1 := n3.frz l1 f1; replace l0 := n3.cell l0; replace l1 := n3.cell l1; have RR3 := Lib.hid (RR2.out.kept n3); clear n3))
        go_roundw
        case rel =>
          refine ⟨j + 1, FR1.out, ?_⟩
          rw [cstTo_succ, flatLevel_append]
          exact RR3.out.put _ _
        case measure => simp; omega

/-- The first place whose level was there before, and where it was. -/
def perN (a b c d x : Int) : Nat := (meetN (cst a b c d x) 5000).getD 0
def perK (a b c d x : Int) : Nat := meetK (cst a b c d x) (perN a b c d x)
theorem per_is {a b c d x : Int} {n k : Nat} (h : Meets (cst a b c d x) n k) (hn : n ≤ 5000) : perN a b c d x = n ∧ perK a b c d x = k := by
  have e : perN a b c d x = n := by unfold perN; rw [h.n_is hn]; rfl
  exact ⟨e, by unfold perK; rw [e, h.k_is]⟩
def startM (a b c d x : Int) : Int := if steadyB a b c d x = true then (perK a b c d x : Int) else 0
def periodM (a b c d x : Int) : Int := if steadyB a b c d x = true then (perN a b c d x : Int) - perK a b c d x else 0

theorem sPeriodOfSiphon_any (w : World) (a b c d x : Int) :
    Calls Try.prog 9 #[sipV a b c d, .int .i64 x] w fun e w' => e = .returned (.tuple #[.int .i64 (startM a b c d x), .int .i64 (periodM a b c d x), .bool (steadyB a b c d x)]) ∧ New w w' := by
  by_cases hs : steadyB a b c d x = true
  · obtain ⟨ho, x0, x1⟩ := steadyB_iff.1 hs
    go_enter Try.func9, Try.ntmps9
    go_wp2_with fail
    refine (siSteady_any _ _ _ _ _ _).mono ?_
    rintro e w1 ⟨rfl, n1⟩
    have b0 : w1.cell? ⟨w.heap.size, 0, none⟩ = some (.int .i64 a) := n1.cell (by simp [go_sem])
    have b1 : w1.cell? ⟨w.heap.size, 1, none⟩ = some (.int .i64 b) := n1.cell (by simp [go_sem])
    have b2 : w1.cell? ⟨w.heap.size, 2, none⟩ = some (.int .i64 c) := n1.cell (by simp [go_sem])
    have b3 : w1.cell? ⟨w.heap.size, 3, none⟩ = some (.int .i64 d) := n1.cell (by simp [go_sem])
    have N1 := Lib.hid (show New w w1 from New.trans (by repeat (first | with_reducible exact New.refl _ | with_reducible assumption | refine New.drewN ?_ _ | refine New.drew ?_ | refine New.alloc ?_ _ | refine New.setCell ?_ (by first | omega | (simp; omega) | (simp; done)) _ | (refine New.trans ?_ (by assumption)))) n1); clear n1
    go_wp2_with fail
    refine (siMeet_any _ _ _ _ _ _ ho x0 x1).mono ?_
    rintro e w2 ⟨n, k, hm, hn, rfl, n2⟩
    have HM := Lib.hid (per_is hm (by omega)); clear hm
    have N2 := Lib.hid (N1.out.trans n2); clear n2
    clear b0 b1 b2 b3
    go_wp2
    go_ret3
    exact ⟨by unfold startM periodM; rw [if_pos hs, if_pos hs, hs, HM.out.1, HM.out.2]; rfl, N2.out.trans (by repeat (first | with_reducible exact New.refl _ | with_reducible assumption | refine New.drewN ?_ _ | refine New.drew ?_ | refine New.alloc ?_ _ | refine New.setCell ?_ (by first | omega | (simp; omega) | (simp; done)) _ | (refine New.trans ?_ (by assumption))))⟩
  · have hf : steadyB a b c d x = false := by simpa using hs
    go_enter Try.func9, Try.ntmps9
    go_wp2_with fail
    refine (siSteady_any _ _ _ _ _ _).mono ?_
    rintro e w1 ⟨rfl, n1⟩
    have b0 : w1.cell? ⟨w.heap.size, 0, none⟩ = some (.int .i64 a) := n1.cell (by simp [go_sem])
    have b1 : w1.cell? ⟨w.heap.size, 1, none⟩ = some (.int .i64 b) := n1.cell (by simp [go_sem])
    have b2 : w1.cell? ⟨w.heap.size, 2, none⟩ = some (.int .i64 c) := n1.cell (by simp [go_sem])
    have b3 : w1.cell? ⟨w.heap.size, 3, none⟩ = some (.int .i64 d) := n1.cell (by simp [go_sem])
    have N1 := Lib.hid (show New w w1 from New.trans (by repeat (first | with_reducible exact New.refl _ | with_reducible assumption | refine New.drewN ?_ _ | refine New.drew ?_ | refine New.alloc ?_ _ | refine New.setCell ?_ (by first | omega | (simp; omega) | (simp; done)) _ | (refine New.trans ?_ (by assumption)))) n1); clear n1
    go_wp2
    go_ret3
    exact ⟨by unfold startM periodM; rw [if_neg hs, if_neg hs, hf]; rfl, N1.out⟩
end Go.Proofs.Ytafiihhiipfejaa
