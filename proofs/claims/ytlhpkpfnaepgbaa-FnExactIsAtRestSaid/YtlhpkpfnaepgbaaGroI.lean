/- GroupsOf: the program's. -/
import Derived.Test.YtlhpkpfnaepgbaaLeadD
import Derived.Test.YtlhpkpfnaepgbaaGrowSS
import Derived.Test.YtlhpkpfnaepgbaaSm
namespace Go.Proofs.Ytlhpkpfnaepgbaa
open Go.RowKit Go.IntWalk

theorem Try.infoInts : (Try.prog.info? 43).map (fun i => (i.zero, i.size, i.bytes)) = some (some (.slice none 0 0), 1, 24) := by kernel_rfl
def grpI (n : Nat) (f : Nat → Nat) (a : Nat) : List Int := (grpN n f a).map fun (j : Nat) => (j : Int)
theorem grpI_succ (n : Nat) (f : Nat → Nat) (a : Nat) : grpI (n + 1) f a = if f n = a then grpI n f a ++ [(n : Int)] else grpI n f a := by
  unfold grpI grpN
  rw [List.range_succ, List.filter_append]
  by_cases h : f n = a
  · rw [if_pos h]; simp [h]
  · rw [if_neg h]; simp [h]
theorem grpI_len (n : Nat) (f : Nat → Nat) (a : Nat) : (grpI n f a).length ≤ n := by
  unfold grpI grpN
  rw [List.length_map]
  have := List.length_filter_le (fun i => decide (f i = a)) (List.range n)
  rw [List.length_range] at this
  exact this
/-- The groups whose leaders lie below k. -/
def grsTo (n : Nat) (f : Nat → Nat) (k : Nat) : List (List Int) := ((List.range k).filter fun a => decide (f a = a)).map (grpI n f)
theorem grsTo_succ (n : Nat) (f : Nat → Nat) (k : Nat) : grsTo n f (k + 1) = if f k = k then grsTo n f k ++ [grpI n f k] else grsTo n f k := by
  unfold grsTo
  rw [List.range_succ, List.filter_append]
  by_cases h : f k = k
  · rw [if_pos h]; simp [h]
  · rw [if_neg h]; simp [h]
theorem grsTo_len (n : Nat) (f : Nat → Nat) (k : Nat) : (grsTo n f k).length ≤ k := by
  unfold grsTo
  rw [List.length_map]
  have := List.length_filter_le (fun i => decide (f i = i)) (List.range k)
  rw [List.length_range] at this
  exact this
theorem grpI_some {J : List (Nat × Nat)} {f : Nat → Nat} (h : LeadOk J f) {n a : Nat} (ha : a < n) : 0 < (grpI n f a).length ↔ f a = a := by
  have q := grpN_none h ha
  unfold grpI
  rw [List.length_map]
  constructor
  · intro e
    by_cases c : f a = a
    · exact c
    · rw [q.1 c] at e; exact absurd e (by simp)
  · intro e
    rcases Nat.eq_zero_or_pos (grpN n f a).length with h0 | h0
    · exact absurd e (q.2 (List.length_eq_zero_iff.1 h0))
    · exact h0
def gsB (T : List Tk) (L : List (List Int)) : Bool := tksB T && jnB T.length L
def gsM (T : List Tk) (L : List (List Int)) : List (List Int) := if gsB T L = true then grsTo T.length (leadP (jP L)) T.length else []
theorem gsM_yes {T : List Tk} {L : List (List Int)} (h : gsB T L = true) : gsM T L = grsTo T.length (leadP (jP L)) T.length := by unfold gsM; rw [if_pos h]
theorem gsM_no {T : List Tk} {L : List (List Int)} (h : gsB T L = false) : gsM T L = [] := by unfold gsM; rw [if_neg (by rw [h]; decide)]
theorem ldRow (w : World) (t : TypeId) (f : Nat → Nat) : (w.alloc (.cells #[.int .i64 (f 0 : Nat), .int .i64 (f 1 : Nat), .int .i64 (f 2 : Nat), .int .i64 (f 3 : Nat), .int .i64 (f 4 : Nat), .int .i64 (f 5 : Nat)] t)).rowIs w.heap.size t 6 (fun j => .int .i64 (f j : Nat)) :=
  World.rowIs_alloc w #[.int .i64 (f 0 : Nat), .int .i64 (f 1 : Nat), .int .i64 (f 2 : Nat), .int .i64 (f 3 : Nat), .int .i64 (f 4 : Nat), .int .i64 (f 5 : Nat)] t (fun j => .int .i64 (f j : Nat)) (fun i hi => by
    have hi : i < 6 := hi
    have : i = 0 ∨ i = 1 ∨ i = 2 ∨ i = 3 ∨ i = 4 ∨ i = 5 := by omega
    rcases this with rfl | rfl | rfl | rfl | rfl | rfl <;> rfl)

set_option maxRecDepth 100000 in
set_option maxHeartbeats 4000000 in
theorem iGroupsOf_any (w : World) (aa : Option Addr) (n ca : Nat) (T : List Tk) (ab : Option Addr) (m cb : Nat) (L : List (List Int)) (ha : Tanks w aa n ca T) (hb : IntSS w ab m cb L) :
    Calls Try.prog 11 #[.slice aa n ca, .slice ab m cb] w fun e w' => ∃ oa on oc, e = .returned (.tuple #[.slice oa on oc, .bool (gsB T L)]) ∧ OwnSS w' w.heap.size w'.heap.size oa on oc (gsM T L) ∧ New w w' := by
  have hn := ha.1
  have HA := Lib.hid ha; clear ha
  have HB := Lib.hid hb; clear hb
  obtain ⟨i0, hi, hz0, hz1, hz2⟩ := info_parts Try.infoInt
  obtain ⟨i1, hi1, hy0, hy1, hy2⟩ := info_parts Try.infoInts
  cases h : tksB T
  case false =>
    have g : gsB T L = false := by unfold gsB; rw [h]; rfl
    rw [g, gsM_no g]
    have HT := Lib.hid h; clear h g hn
    go_enter Try.func11, Try.ntmps11
    go_wp2_with fail
    refine (iAreTanks_any _ _ _ _ T HA.out).mono ?_
    rintro e w1 ⟨rfl, n1⟩
    rw [HT.out]
    have N1 := Lib.hid n1; clear n1
    go_wp2
    go_ret2
    exact ⟨none, 0, 0, rfl, OwnSS.nil _ _ _, N1.out⟩
  case true =>
    have hn6 : n ≤ 6 := by have := (tksB_iff.1 h).l6; omega
    cases hj : jnB T.length L
    case false =>
      have g : gsB T L = false := by unfold gsB; rw [h, hj]; rfl
      rw [g, gsM_no g]
      rw [← hn] at hj
      have HT := Lib.hid h; clear h g hn
      have HJ := Lib.hid hj; clear hj
      go_enter Try.func11, Try.ntmps11
      go_wp2_with fail
      refine (iAreTanks_any _ _ _ _ T HA.out).mono ?_
      rintro e w1 ⟨rfl, n1⟩
      rw [HT.out]
      have N1 := Lib.hid n1; clear n1
      go_wp2_with fail
      refine (areJoins_any _ _ _ _ n L (HB.out.new N1.out) hn6).mono ?_
      rintro e w2 ⟨rfl, n2⟩
      rw [HJ.out]
      have N2 := Lib.hid (N1.out.trans n2); clear n2
      go_wp2
      go_ret2
      exact ⟨none, 0, 0, rfl, OwnSS.nil _ _ _, N2.out⟩
    case true =>
      have g : gsB T L = true := by unfold gsB; rw [h, hj]; rfl
      rw [g, gsM_yes g, ← hn]
      rw [← hn] at hj
      obtain ⟨f, hf⟩ : ∃ f, f = leadP (jP L) := ⟨_, rfl⟩
      have HK := Lib.hid (show LeadOk (jP L) f by rw [hf]; exact leadP_ok _)
      rw [← hf]
      have HF := Lib.hid hf; clear hf
      have HT := Lib.hid h; clear h g hn
      have HJ := Lib.hid hj; clear hj
      go_enter Try.func11, Try.ntmps11
      go_wp2_with fail
      refine (iAreTanks_any _ _ _ _ T HA.out).mono ?_
      rintro e w1 ⟨rfl, n1⟩
      rw [HT.out]
      have N1 := Lib.hid n1; clear n1
      go_wp2_with fail
      refine (areJoins_any _ _ _ _ n L (HB.out.new N1.out) hn6).mono ?_
      rintro e w2 ⟨rfl, n2⟩
      rw [HJ.out]
      have N2 := Lib.hid (N1.out.trans n2); clear n2
      go_wp2_with fail
      refine (leadersOf_any _ _ _ _ n L (HB.out.new N2.out) HJ.out hn6).mono ?_
      rw [← HF.out]
      rintro e w3 ⟨rfl, n3⟩
      have N3 := Lib.hid (N2.out.trans n3); clear n3
      unfold ldV
      go_upto_region 4 with fail
      obtain ⟨w4, hw4⟩ : ∃ u : World, u = w3.alloc (.cells #[.int .i64 (f 0 : Nat), .int .i64 (f 1 : Nat), .int .i64 (f 2 : Nat), .int .i64 (f 3 : Nat), .int .i64 (f 4 : Nat), .int .i64 (f 5 : Nat)] 53) := ⟨_, rfl⟩
      rw [← hw4]
      have N4 := Lib.hid (show New w w4 by rw [hw4]; exact N3.out.alloc _)
      have RB := Lib.hid (show w4.rowIs w3.heap.size 53 6 (fun j => .int .i64 (f j : Nat)) by rw [hw4]; exact ldRow w3 _ f)
      clear hw4
      obtain ⟨B, hB⟩ : ∃ B, B = w3.heap.size := ⟨_, rfl⟩
      rw [← hB] at RB ⊢
      clear hB
      go_wp2_with fail
      go_loopw [7, 25] (fun v i wr => ∃ (k q : Nat) (hd : Nat → Option Addr × Nat × Nat), k ≤ n ∧ q ≤ k ∧ i = .int .i64 k ∧ GrowSS w4.heap.size wr v q hd (grsTo n f k) ∧ New w4 wr) (fun _ i _ => n - (intOf i).toNat)
      case atStart => exact ⟨0, 0, fun _ => (none, 0, 0), Nat.zero_le _, Nat.le_refl _, rfl, GrowSS.nil _ _ _, New.refl _⟩
      case round =>
        obtain ⟨k, q, hd, hk, hqk, rfl, hgr, hnw⟩ := hrel
        have zw := hnw.size
        have NW := Lib.hid hnw; clear hnw
        have GR := Lib.hid hgr; clear hgr
        by_cases hlt : k < n
        · go_wp2_with fail
          obtain ⟨w5, rfl⟩ : ∃ u : World, u = wr := ⟨_, rfl⟩
          go_loopw [9, 30] (fun vo i wq => ∃ j p : Nat, j ≤ n ∧ p ≤ j ∧ p = (grpI j f k).length ∧ i = .int .i64 j ∧ New w5 wq ∧ wq.ownsRow w5.heap.size 3 1 vo p ((grpI j f k).map (Value.int .i64))) (fun _ i _ => n - (intOf i).toNat)
          case atStart => exact ⟨0, 0, Nat.zero_le _, Nat.le_refl _, rfl, rfl, New.refl _, World.ownsRow_nil _ _ _ _⟩
          case round =>
            obtain ⟨j, p, hj, hpj, hpl, rfl, hnq, hro⟩ := hrel
            have zb := hnq.size
            have NQ := Lib.hid hnq; clear hnq
            have RO := Lib.hid hro; clear hro
            have HP := Lib.hid hpl; clear hpl
            by_cases hjn : j < n
            · have j6 : (j : Int) < 6 := by omega
              have j0 : (0 : Int) ≤ (j : Int) := by omega
              have cj := (NW.out.trans NQ.out).cell (RB.out.cell (i := j) (by omega))
              have GS := Lib.hid (grpI_succ j f k)
              by_cases hx : f j = k
              · have hxI : ((f j : Nat) : Int) = (k : Int) := by omega
                go_wp2_with (at_builtin; go_loud (refine wpList_append_lies _ (by rfl) (.tmp 38) (.tmp 40) 43 (by rfl) w5.heap.size 3 i0 (.int .i64 0) 1 8 Try.underlying43 hi hz0 hz1 hz2 rfl (by decide) _ p _ (by rfl) (ownsRow_new RO.out (by repeat (first | with_reducible exact New.refl _ | with_reducible assumption | refine New.drewN ?_ _ | refine New.drew ?_ | refine New.alloc ?_ _ | refine New.setCell ?_ (by first | omega | (simp; omega) | (simp; done)) _ | (refine New.trans ?_ (by assumption))))) _ _ _ [.int .i64 j] (by rfl) (by rfl) (World.news_of_block (cs := #[.int .i64 j]) (t := 3) (fr := (0, 0)) (heap_alloc_at (by simp))) (by simp [Value.oneCell']) (by omega) (by unfold maxLen; omega) (by omega) (by simp; omega) _ rfl ?_; intro g cap w6 ho hg hb' hlt'; have N6 := Lib.hid (New.grown (w0 := w5) (w := _) (NQ.out.trans (by repeat (first | with_reducible exact New.refl _ | with_reducible assumption | refine New.drewN ?_ _ | refine New.drew ?_ | refine New.alloc ?_ _ | refine New.setCell ?_ (by first | omega | (simp; omega) | (simp; done)) _ | (refine New.trans ?_ (by assumption))))) (ownsRow_new RO.out (by repeat (first | with_reducible exact New.refl _ | with_reducible assumption | refine New.drewN ?_ _ | refine New.drew ?_ | refine New.alloc ?_ _ | refine New.setCell ?_ (by first | omega | (simp; omega) | (simp; done)) _ | (refine New.trans ?_ (by assumption))))) (by omega) hg); have RO6 := Lib.hid ho; clear ho hg hb' hlt'))
                go_roundw
                case rel =>
                  refine ⟨j + 1, p + 1, by omega, by omega, by rw [GS.out, if_pos hx, List.length_append, ← HP.out]; rfl, by go_num, N6.out, ?_⟩
                  rw [GS.out, if_pos hx, List.map_append]
                  exact RO6.out
                case measure => simp [intOf]; omega
              · have hxI : ¬ ((f j : Nat) : Int) = (k : Int) := by omega
                go_wp2
                go_roundw
                case rel =>
                  refine ⟨j + 1, p, by omega, by omega, by rw [GS.out, if_neg hx]; exact HP.out, by go_num, New.trans NQ.out (by repeat (first | with_reducible exact New.refl _ | with_reducible assumption | refine New.drewN ?_ _ | refine New.drew ?_ | refine New.alloc ?_ _ | refine New.setCell ?_ (by first | omega | (simp; omega) | (simp; done)) _ | (refine New.trans ?_ (by assumption)))), ?_⟩
                  rw [GS.out, if_neg hx]
                  exact ownsRow_new RO.out (by repeat (first | with_reducible exact New.refl _ | with_reducible assumption | refine New.drewN ?_ _ | refine New.drew ?_ | refine New.alloc ?_ _ | refine New.setCell ?_ (by first | omega | (simp; omega) | (simp; done)) _ | (refine New.trans ?_ (by assumption))))
                case measure => simp [intOf]; omega
            · obtain rfl : j = n := by omega
              obtain ⟨oa, oc, e1, o1⟩ := Own.of_row RO.out
              subst e1
              have O1 := Lib.hid o1; clear o1
              have SM := Lib.hid (grpI_some HK.out (show k < j from hlt))
              have GS := Lib.hid (grsTo_succ j f k)
              by_cases hp : 0 < p
              · have fk := SM.out.1 (by rw [← HP.out]; exact hp)
                have hpI : (0 : Int) < (p : Int) := by omega
                go_wp2_with (at_builtin; go_loud (refine wpList_append_lies _ (by rfl) (.tmp 46) (.tmp 48) 23 (by rfl) w4.heap.size 43 i1 (.slice none 0 0) 1 24 Try.underlying23 hi1 hy0 hy1 hy2 rfl (by decide) _ q _ (by rfl) (((GR.out.new NQ.out).new (by repeat (first | with_reducible exact New.refl _ | with_reducible assumption | refine New.drewN ?_ _ | refine New.drew ?_ | refine New.alloc ?_ _ | refine New.setCell ?_ (by first | omega | (simp; omega) | (simp; done)) _ | (refine New.trans ?_ (by assumption))))).row) _ _ _ [.slice oa p oc] (by rfl) (by rfl) (World.news_of_block (cs := #[.slice oa p oc]) (t := 43) (fr := (0, 0)) (heap_alloc_at (by simp))) (by simp [Value.oneCell']) (by omega) (by unfold maxLen; omega) (by omega) (by simp; omega) _ rfl ?_; intro g cap w6 ho hg hb' hlt'; have R2 := Lib.hid (GrowSS.snoc GR.out (by omega) NQ.out O1.out (by repeat (first | with_reducible exact New.refl _ | with_reducible assumption | refine New.drewN ?_ _ | refine New.drew ?_ | refine New.alloc ?_ _ | refine New.setCell ?_ (by first | omega | (simp; omega) | (simp; done)) _ | (refine New.trans ?_ (by assumption)))) ho hg hb'); have N6 := Lib.hid (New.grown (w0 := w4) ((NW.out.trans NQ.out).trans (by repeat (first | with_reducible exact New.refl _ | with_reducible assumption | refine New.drewN ?_ _ | refine New.drew ?_ | refine New.alloc ?_ _ | refine New.setCell ?_ (by first | omega | (simp; omega) | (simp; done)) _ | (refine New.trans ?_ (by assumption))))) ((GR.out.new NQ.out).new (by repeat (first | with_reducible exact New.refl _ | with_reducible assumption | refine New.drewN ?_ _ | refine New.drew ?_ | refine New.alloc ?_ _ | refine New.setCell ?_ (by first | omega | (simp; omega) | (simp; done)) _ | (refine New.trans ?_ (by assumption))))).row (Nat.le_refl _) hg); clear ho hg hb' hlt'))
                go_roundw
                case rel =>
                  refine ⟨k + 1, q + 1, fun z => if z = q then (oa, p, oc) else hd z, by omega, by omega, by go_num, ?_, N6.out⟩
                  rw [GS.out, if_pos fk]
                  exact R2.out
                case measure => simp [intOf]; omega
              · have hp0 : p = 0 := by omega
                have fk : ¬ f k = k := fun e => by have := SM.out.2 e; rw [← HP.out] at this; exact hp this
                have hpI : ¬ (0 : Int) < (p : Int) := by omega
                go_wp2
                go_roundw
                case rel =>
                  refine ⟨k + 1, q, hd, by omega, by omega, by go_num, ?_, (NW.out.trans NQ.out).trans (by repeat (first | with_reducible exact New.refl _ | with_reducible assumption | refine New.drewN ?_ _ | refine New.drew ?_ | refine New.alloc ?_ _ | refine New.setCell ?_ (by first | omega | (simp; omega) | (simp; done)) _ | (refine New.trans ?_ (by assumption))))⟩
                  rw [GS.out, if_neg fk]
                  exact (GR.out.new NQ.out).new (by repeat (first | with_reducible exact New.refl _ | with_reducible assumption | refine New.drewN ?_ _ | refine New.drew ?_ | refine New.alloc ?_ _ | refine New.setCell ?_ (by first | omega | (simp; omega) | (simp; done)) _ | (refine New.trans ?_ (by assumption))))
                case measure => simp [intOf]; omega
        · obtain rfl : k = n := by omega
          go_wp2
          obtain ⟨oa, oc, e1, o1⟩ := GR.out.done
          subst e1
          go_ret2
          exact ⟨_, _, _, rfl, o1.mono N4.out.size (Nat.le_refl _), N4.out.trans NW.out⟩
end Go.Proofs.Ytlhpkpfnaepgbaa
