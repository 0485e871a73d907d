/- WaterBelow: the model's and the program's. -/
import Derived.Test.YtklfelbolblgfaaGood
import Derived.Test.YtklfelbolblgfaaSumF
namespace Go.Proofs.Ytklfelbolblgfaa
open Go.RowKit Go.IntWalk Go.Shelf

/-- A level that may be asked for. -/
def lvlB (a b : Int) : Bool := inB 0 1000000 a && inB 1 1000 b && (Int.gcd a b == 1)
structure LvlOk (a b : Int) : Prop where
  bd : LvBd (a, b)
  cop : Int.gcd a b = 1
theorem lvlB_iff {a b : Int} : lvlB a b = true ↔ LvlOk a b := by
  unfold lvlB
  rw [Bool.and_eq_true, Bool.and_eq_true, inB_iff, inB_iff, beq_iff_eq]
  exact ⟨fun h => ⟨⟨h.1.1.1, h.1.1.2, h.1.2.1, h.1.2.2⟩, h.2⟩, fun h => ⟨⟨⟨h.bd.n0, h.bd.n1⟩, h.bd.d0, h.bd.d1⟩, h.cop⟩⟩
def wbB (T : List Tk) (a b : Int) : Bool := tksB T && lvlB a b
def wbR (T : List Tk) (a b : Int) : Int × Int := red (belowL a b T) b
def wbM (T : List Tk) (a b : Int) : Int × Int := if wbB T a b then wbR T a b else (0, 0)
theorem wbM_yes {T : List Tk} {a b : Int} (h : wbB T a b = true) : wbM T a b = wbR T a b := by unfold wbM; rw [if_pos h]
theorem wbM_no {T : List Tk} {a b : Int} (h : wbB T a b = false) : wbM T a b = (0, 0) := by unfold wbM; rw [h]; rfl
theorem wbB_iff {T : List Tk} {a b : Int} : wbB T a b = true ↔ TksOk T ∧ LvlOk a b := by unfold wbB; rw [Bool.and_eq_true, tksB_iff, lvlB_iff]
theorem below_bd {T : List Tk} (h : TksOk T) {p : Int × Int} (hp : LvBd p) (k : Nat) : 0 ≤ sumL (upTo p.1 p.2) (T.take k) ∧ sumL (upTo p.1 p.2) (T.take k) ≤ 300000000 := by
  have := sumL_take_bd (g := upTo p.1 p.2) (T := T) (lo := 0) (hi := 50000000) (fun t ht => upTo_bd (h.all t ht) hp) h.l6 (by omega) (by omega) k
  omega

theorem lvlB_eq (a b : Int) : lvlB a b = (goodR 1000000000000 1000000 a b && inB 1 1000 b && inB 0 1000000 a) := by
  by_cases h : lvlB a b = true
  · have := lvlB_iff.1 h
    have h0 := this.bd.n0; have h1 := this.bd.n1; have h2 := this.bd.d0; have h3 := this.bd.d1
    simp only at h0 h1 h2 h3
    rw [h, goodR_iff.2 ⟨⟨by omega, by omega⟩, ⟨by omega, by omega⟩, this.cop⟩, inB_iff.2 ⟨h2, h3⟩, inB_iff.2 ⟨h0, h1⟩]
    rfl
  · rw [bool_no h]
    refine (bool_no fun k => h ?_).symm
    rw [Bool.and_eq_true, Bool.and_eq_true, goodR_iff, inB_iff, inB_iff] at k
    exact lvlB_iff.2 ⟨⟨k.2.1, k.2.2, k.1.2.1, k.1.2.2⟩, k.1.1.2.2⟩
theorem lvlB_eq2 (a b : Int) : lvlB a b = (decide (0 ≤ a) && goodR 1000000 1000 a b) := by
  by_cases h : lvlB a b = true
  · have := lvlB_iff.1 h
    have h0 := this.bd.n0; have h1 := this.bd.n1; have h2 := this.bd.d0; have h3 := this.bd.d1
    simp only at h0 h1 h2 h3
    rw [h, goodR_iff.2 ⟨⟨by omega, by omega⟩, ⟨by omega, by omega⟩, this.cop⟩, decide_eq_true h0]
    rfl
  · rw [bool_no h]
    refine (bool_no fun k => h ?_).symm
    rw [Bool.and_eq_true, decide_eq_true_iff, goodR_iff] at k
    exact lvlB_iff.2 ⟨⟨k.1, k.2.2.1.2, k.2.1.1, k.2.1.2⟩, k.2.2.2⟩

set_option maxRecDepth 100000 in
theorem isLevel_any (w : World) (a b : Int) :
    Calls Try.prog 52 #[ratV (a, b)] w fun e w' => e = .returned (.bool (lvlB a b)) ∧ New w w' := by
  by_cases h : 0 ≤ a
  · have HG := Lib.hid (show lvlB a b = goodR 1000000 1000 a b by rw [lvlB_eq2, decide_eq_true h]; rfl)
    go_enter Try.func52, Try.ntmps52
    go_wp2_with fail
    refine (isRatioWithin_any _ a b 1000000 1000 (by omega) (by omega) (by omega)).mono ?_
    rintro e w1 ⟨rfl, n1⟩
    have N1 := Lib.hid (show New w w1 from New.trans (by repeat (first | with_reducible exact New.refl _ | with_reducible assumption | refine New.drewN ?_ _ | refine New.drew ?_ | refine New.alloc ?_ _ | refine New.setCell ?_ (by first | omega | (simp; omega) | (simp; done)) _ | (refine New.trans ?_ (by assumption)))) n1); clear n1
    rw [← HG.out]
    go_wp2
    go_ret
    exact ⟨rfl, N1.out⟩
  · have hf : decide (0 ≤ a) = false := by simpa using h
    have HG := Lib.hid (show lvlB a b = false by rw [lvlB_eq2, hf]; rfl)
    go_enter Try.func52, Try.ntmps52
    go_wp2
    go_ret
    exact ⟨ret_bool HG.out.symm, (by repeat (first | with_reducible exact New.refl _ | with_reducible assumption | refine New.drewN ?_ _ | refine New.drew ?_ | refine New.alloc ?_ _ | refine New.setCell ?_ (by first | omega | (simp; omega) | (simp; done)) _ | (refine New.trans ?_ (by assumption))))⟩

set_option maxRecDepth 100000 in
theorem leAsked_any (w : World) (aa : Option Addr) (n ca : Nat) (T : List Tk) (a b : Int) (ha : Tanks w aa n ca T) :
    Calls Try.prog 50 #[.slice aa n ca, ratV (a, b)] w fun e w' => e = .returned (.bool (wbB T a b)) ∧ New w w' := by
  have HA := Lib.hid ha; clear ha
  by_cases h1 : tksB T = true
  · have H1 := Lib.hid h1
    by_cases h2 : goodR 1000000000000 1000000 a b = true
    · have H2 := Lib.hid h2
      by_cases h3 : inB 1 1000 b = true
      · have H3 := Lib.hid h3
        have HG := Lib.hid (show wbB T a b = inB 0 1000000 a by unfold wbB; rw [h1, lvlB_eq, h2, h3]; rfl)
        clear h1 h2 h3
        go_enter Try.func50, Try.ntmps50
        go_wp2_with fail
        refine (leTanks_any _ _ _ _ T (HA.out.new (by repeat (first | with_reducible exact New.refl _ | with_reducible assumption | refine New.drewN ?_ _ | refine New.drew ?_ | refine New.alloc ?_ _ | refine New.setCell ?_ (by first | omega | (simp; omega) | (simp; done)) _ | (refine New.trans ?_ (by assumption)))))).mono ?_
        rintro e w1 ⟨rfl, n1⟩
        rw [H1.out]
        have l0 : w1.cell? ⟨w.heap.size, 0, none⟩ = some (.int .i64 a) := n1.cell (by simp [go_sem])
        have l1 : w1.cell? ⟨w.heap.size, 1, none⟩ = some (.int .i64 b) := n1.cell (by simp [go_sem])
        have N1 := Lib.hid (show New w w1 from New.trans (by repeat (first | with_reducible exact New.refl _ | with_reducible assumption | refine New.drewN ?_ _ | refine New.drew ?_ | refine New.alloc ?_ _ | refine New.setCell ?_ (by first | omega | (simp; omega) | (simp; done)) _ | (refine New.trans ?_ (by assumption)))) n1); clear n1
        go_wp2_with fail
        refine (leGood_any _ a b).mono ?_
        rintro e w2 ⟨rfl, n2⟩
        rw [H2.out]
        replace l0 := n2.cell l0
        replace l1 := n2.cell l1
        have N2 := Lib.hid (N1.out.trans n2); clear n2
        go_wp2_with fail
        refine (l1In_any _ _ _ _).mono ?_
        rintro e w9 ⟨rfl, rfl⟩
        rw [H3.out]
        go_wp2_with fail
        refine (l1In_any _ _ _ _).mono ?_
        rintro e w9 ⟨rfl, rfl⟩
        rw [← HG.out]
        go_wp2
        go_ret
        exact ⟨rfl, N2.out⟩
      · have h3 := bool_no h3
        have H3 := Lib.hid h3
        have HG := Lib.hid (show wbB T a b = false by unfold wbB; rw [h1, lvlB_eq, h2, h3]; rfl)
        clear h1 h2 h3
        go_enter Try.func50, Try.ntmps50
        go_wp2_with fail
        refine (leTanks_any _ _ _ _ T (HA.out.new (by repeat (first | with_reducible exact New.refl _ | with_reducible assumption | refine New.drewN ?_ _ | refine New.drew ?_ | refine New.alloc ?_ _ | refine New.setCell ?_ (by first | omega | (simp; omega) | (simp; done)) _ | (refine New.trans ?_ (by assumption)))))).mono ?_
        rintro e w1 ⟨rfl, n1⟩
        rw [H1.out]
        have l0 : w1.cell? ⟨w.heap.size, 0, none⟩ = some (.int .i64 a) := n1.cell (by simp [go_sem])
        have l1 : w1.cell? ⟨w.heap.size, 1, none⟩ = some (.int .i64 b) := n1.cell (by simp [go_sem])
        have N1 := Lib.hid (show New w w1 from New.trans (by repeat (first | with_reducible exact New.refl _ | with_reducible assumption | refine New.drewN ?_ _ | refine New.drew ?_ | refine New.alloc ?_ _ | refine New.setCell ?_ (by first | omega | (simp; omega) | (simp; done)) _ | (refine New.trans ?_ (by assumption)))) n1); clear n1
        go_wp2_with fail
        refine (leGood_any _ a b).mono ?_
        rintro e w2 ⟨rfl, n2⟩
        rw [H2.out]
        replace l0 := n2.cell l0
        replace l1 := n2.cell l1
        have N2 := Lib.hid (N1.out.trans n2); clear n2
        go_wp2_with fail
        refine (l1In_any _ _ _ _).mono ?_
        rintro e w9 ⟨rfl, rfl⟩
        rw [H3.out]
        go_wp2
        go_ret
        exact ⟨ret_bool HG.out.symm, N2.out⟩
    · have h2 := bool_no h2
      have H2 := Lib.hid h2
      have HG := Lib.hid (show wbB T a b = false by unfold wbB; rw [h1, lvlB_eq, h2]; rfl)
      clear h1 h2
      go_enter Try.func50, Try.ntmps50
      go_wp2_with fail
      refine (leTanks_any _ _ _ _ T (HA.out.new (by repeat (first | with_reducible exact New.refl _ | with_reducible assumption | refine New.drewN ?_ _ | refine New.drew ?_ | refine New.alloc ?_ _ | refine New.setCell ?_ (by first | omega | (simp; omega) | (simp; done)) _ | (refine New.trans ?_ (by assumption)))))).mono ?_
      rintro e w1 ⟨rfl, n1⟩
      rw [H1.out]
      have l0 : w1.cell? ⟨w.heap.size, 0, none⟩ = some (.int .i64 a) := n1.cell (by simp [go_sem])
      have l1 : w1.cell? ⟨w.heap.size, 1, none⟩ = some (.int .i64 b) := n1.cell (by simp [go_sem])
      have N1 := Lib.hid (show New w w1 from New.trans (by repeat (first | with_reducible exact New.refl _ | with_reducible assumption | refine New.drewN ?_ _ | refine New.drew ?_ | refine New.alloc ?_ _ | refine New.setCell ?_ (by first | omega | (simp; omega) | (simp; done)) _ | (refine New.trans ?_ (by assumption)))) n1); clear n1
      go_wp2_with fail
      refine (leGood_any _ a b).mono ?_
      rintro e w2 ⟨rfl, n2⟩
      rw [H2.out]
      replace l0 := n2.cell l0
      replace l1 := n2.cell l1
      have N2 := Lib.hid (N1.out.trans n2); clear n2
      go_wp2
      go_ret
      exact ⟨ret_bool HG.out.symm, N2.out⟩
  · have h1 := bool_no h1
    have H1 := Lib.hid h1
    have HG := Lib.hid (show wbB T a b = false by unfold wbB; rw [h1]; rfl)
    clear h1
    go_enter Try.func50, Try.ntmps50
    go_wp2_with fail
    refine (leTanks_any _ _ _ _ T (HA.out.new (by repeat (first | with_reducible exact New.refl _ | with_reducible assumption | refine New.drewN ?_ _ | refine New.drew ?_ | refine New.alloc ?_ _ | refine New.setCell ?_ (by first | omega | (simp; omega) | (simp; done)) _ | (refine New.trans ?_ (by assumption)))))).mono ?_
    rintro e w1 ⟨rfl, n1⟩
    rw [H1.out]
    have l0 : w1.cell? ⟨w.heap.size, 0, none⟩ = some (.int .i64 a) := n1.cell (by simp [go_sem])
    have l1 : w1.cell? ⟨w.heap.size, 1, none⟩ = some (.int .i64 b) := n1.cell (by simp [go_sem])
    have N1 := Lib.hid (show New w w1 from New.trans (by repeat (first | with_reducible exact New.refl _ | with_reducible assumption | refine New.drewN ?_ _ | refine New.drew ?_ | refine New.alloc ?_ _ | refine New.setCell ?_ (by first | omega | (simp; omega) | (simp; done)) _ | (refine New.trans ?_ (by assumption)))) n1); clear n1
    go_wp2
    go_ret
    exact ⟨ret_bool HG.out.symm, N1.out⟩

theorem l1MostQ (w : World) {a b c : Int} (h : max a b = c) :
    Calls Try.prog 79 #[.int .i64 a, .int .i64 b] w fun e w' => e = .returned (.int .i64 c) ∧ ∃ q, w' = w.drewN q :=
  (l1Most_any w a b).mono fun e w' k => ⟨by rw [k.1, h], 0, k.2.symm⟩

set_option maxRecDepth 100000 in
set_option maxHeartbeats 2000000 in
theorem leBelow_any (w : World) (aa : Option Addr) (n ca : Nat) (T : List Tk) (x d : Int) (ha : Tanks w aa n ca T) (hT : TksOk T) (hp : LvBd (x, d)) :
    Calls Try.prog 51 #[.slice aa n ca, ratV (x, d)] w fun e w' => e = .returned (ratV (wbR T x d)) ∧ New w w' := by
  have HN := Lib.hid ha.1
  have hn : n ≤ 6 := by have := ha.1; have := hT.l6; omega
  have HA := Lib.hid ha; clear ha
  have HT := Lib.hid hT; clear hT
  have HP := Lib.hid hp
  have r1 := hp.n0; have r2 := hp.n1; have r3 := hp.d0; have r4 := hp.d1
  simp only at r1 r2 r3 r4
  clear hp
  go_enter Try.func51, Try.ntmps51
  go_upto_region 1 with fail
  obtain ⟨v0, hv0⟩ : ∃ xx : World, xx = (w.alloc (.cells #[.int .i64 x, .int .i64 d] 29)).alloc (.cells #[.int .i64 0, .int .i64 0] 29) := ⟨_, rfl⟩
  rw [← hv0]
  have l0 : v0.cell? ⟨w.heap.size, 0, none⟩ = some (.int .i64 x) := by rw [hv0]; simp [go_sem]
  have l1 : v0.cell? ⟨w.heap.size, 1, none⟩ = some (.int .i64 d) := by rw [hv0]; simp [go_sem]
  have R0 := Lib.hid (show v0.cell? ⟨w.heap.size + 1, 0, none⟩ = some (.int .i64 0) ∧ v0.cell? ⟨w.heap.size + 1, 1, none⟩ = some (.int .i64 0) ∧ v0.frozen? ⟨w.heap.size + 1, 0, none⟩ = false ∧ v0.frozen? ⟨w.heap.size + 1, 1, none⟩ = false by rw [hv0]; simp [go_sem])
  have L0 := Lib.hid (And.intro l0 l1); clear l0 l1
  have N0 := Lib.hid (show New w v0 by rw [hv0]; exact (by repeat (first | with_reducible exact New.refl _ | with_reducible assumption | refine New.drewN ?_ _ | refine New.drew ?_ | refine New.alloc ?_ _ | refine New.setCell ?_ (by first | omega | (simp; omega) | (simp; done)) _ | (refine New.trans ?_ (by assumption)))))
  clear hv0
  go_wp2
  go_loopw [5, 10] (fun y i wr => ∃ k : Nat, k ≤ n ∧ i = .int .i64 k ∧ y = .int .i64 (sumL (upTo x d) (T.take k)) ∧ New v0 wr) (fun _ i _ => n - (intOf i).toNat)
  case atStart => exact ⟨0, Nat.zero_le _, rfl, rfl, New.refl _⟩
  case round =>
    obtain ⟨k, hk, rfl, rfl, hnw⟩ := hrel
    have NW := Lib.hid hnw; clear hnw
    have l0 := NW.out.cell L0.out.1
    have l1 := NW.out.cell L0.out.2
    have hlb := World.block_lt_of_cell? _ _ l0
    by_cases hlt : k < n
    · have KC := Lib.hid (show k < T.length by have := HN.out; omega)
      obtain ⟨bx, ox, rfl, g0, g1, g2⟩ := (HA.out.new (N0.out.trans NW.out)).2.2.2.1 k hlt
      have bb := below_bd HT.out HP.out k
      have KO := HT.out.all _ (mem_get KC.out)
      have ub := upTo_bd KO HP.out
      obtain ⟨a, ea⟩ : ∃ a, a = (T[k]?.getD (0, 0, 0)).1 := ⟨_, rfl⟩
      obtain ⟨f, ef⟩ : ∃ f, f = (T[k]?.getD (0, 0, 0)).2.1 := ⟨_, rfl⟩
      obtain ⟨u, eu⟩ : ∃ u, u = (T[k]?.getD (0, 0, 0)).2.2 := ⟨_, rfl⟩
      have hm := mul_bd KO.f1 KO.f2 (show 0 ≤ d by omega) r4
      rw [← ea] at g0
      rw [← ef] at g1 hm
      rw [← eu] at g2
      have ET := Lib.hid (show T[k]?.getD (0, 0, 0) = (a, f, u) by rw [ea, ef, eu])
      rw [ET.out] at ub
      clear ea ef eu KO
      obtain ⟨m, hmx⟩ : ∃ m, m = max 0 (x - f * d) := ⟨_, rfl⟩
      have EM := Lib.hid (show max 0 (x - f * d) = m from hmx.symm)
      have eU : upTo x d (a, f, u) = a * m := by unfold upTo; simp only; rw [hmx]
      rw [eU] at ub
      obtain ⟨S, hS⟩ : ∃ S, S = sumL (upTo x d) (T.take k) := ⟨_, rfl⟩
      have ES := Lib.hid (show sumL (upTo x d) (T.take (k + 1)) = S + a * m by rw [sumL_take _ _ _ KC.out, ET.out, eU, hS])
      simp only at bb
      rw [← hS] at bb ⊢
      clear hS eU hmx
      obtain ⟨bb1, bb2⟩ := bb
      obtain ⟨ub1, ub2⟩ := ub
      obtain ⟨hm1, hm2⟩ := hm
      go_wp2
      go_quiet ((go_at_call 79; exact Calls.quiet_of (l1MostQ _ EM.out)))
      go_wp2
      go_roundw
      case rel => exact ⟨k + 1, by omega, by go_num, by rw [ES.out], New.trans NW.out (by repeat (first | with_reducible exact New.refl _ | with_reducible assumption | refine New.drewN ?_ _ | refine New.drew ?_ | refine New.alloc ?_ _ | refine New.setCell ?_ (by first | omega | (simp; omega) | (simp; done)) _ | (refine New.trans ?_ (by assumption))))⟩
      case measure => simp [intOf]; omega
    · obtain rfl : k = n := by omega
      have bb := below_bd HT.out HP.out k
      obtain ⟨S, hS⟩ : ∃ S, S = sumL (upTo x d) (T.take k) := ⟨_, rfl⟩
      have ES := Lib.hid (show wbR T x d = red S d by
        unfold wbR belowL
        rw [hS, List.take_of_length_le (by have := HN.out; omega)])
      simp only at bb
      rw [← hS] at bb ⊢
      clear hS
      obtain ⟨bb1, bb2⟩ := bb
      go_wp2_with fail
      refine (leRatio_any _ S d (by omega) (by omega) (by omega) (by omega)).mono ?_
      rintro e w3 ⟨rfl, n3⟩
      obtain ⟨r0, r1, y0, y1⟩ := pair_kept (NW.out.trans n3) R0.out
      have N3 := Lib.hid (N0.out.trans (NW.out.trans n3)); clear n3
      obtain ⟨p, hp⟩ : ∃ p, p = red S d := ⟨_, rfl⟩
      rw [← hp] at ES ⊢
      clear hp
      go_wp2
      refine bodyPost_ret (v := ratV p) (by simp [results, Try.results51, go_sem, r0, r1]) rfl ⟨by rw [ES.out], ?_⟩
      have := N3.out
      (repeat (first | with_reducible exact New.refl _ | with_reducible assumption | refine New.drewN ?_ _ | refine New.drew ?_ | refine New.alloc ?_ _ | refine New.setCell ?_ (by first | omega | (simp; omega) | (simp; done)) _ | (refine New.trans ?_ (by assumption))))

/-- The closure of WaterBelow. -/
theorem parts_any (w : World) (b : Nat) (t : Tk) (x d : Int) (ht : TkOk t) (hp : LvBd (x, d)) (h0 : w.cell? ⟨b, 0, none⟩ = some (.int .i64 x)) (h1 : w.cell? ⟨b, 1, none⟩ = some (.int .i64 d)) :
    Calls Try.prog 54 #[tkOf t, .pointer (some ⟨b, 0, none⟩)] w fun e w' => e = .returned (.int .i64 (upTo x d t)) ∧ New w w' := by
  have hb := World.block_lt_of_cell? _ _ h0
  obtain ⟨a, f, u⟩ := t
  have HT := Lib.hid ht; clear ht
  have HP := Lib.hid hp; clear hp
  go_enter Try.func54, Try.ntmps54
  go_wp2_with fail
  refine (partsUpTo_any _ a f u x d HT.out HP.out).mono ?_
  rintro e w1 ⟨rfl, n1⟩
  have N1 := Lib.hid (show New w w1 from New.trans (by repeat (first | with_reducible exact New.refl _ | with_reducible assumption | refine New.drewN ?_ _ | refine New.drew ?_ | refine New.alloc ?_ _ | refine New.setCell ?_ (by first | omega | (simp; omega) | (simp; done)) _ | (refine New.trans ?_ (by assumption)))) n1); clear n1
  go_wp2
  go_ret
  exact ⟨rfl, N1.out⟩
theorem parts_enters : Enters Try.prog 54 := enters_of Try.func54 (by kernel_rfl) rfl

set_option maxRecDepth 100000 in
set_option maxHeartbeats 2000000 in
theorem sWaterBelow_any (w : World) (aa : Option Addr) (n ca : Nat) (T : List Tk) (a b : Int) (ha : Tanks w aa n ca T) :
    Calls Try.prog 23 #[.slice aa n ca, ratV (a, b)] w fun e w' => e = .returned (.tuple #[ratV (wbM T a b), .bool (wbB T a b)]) ∧ New w w' := by
  have HN := Lib.hid ha.1
  have HA := Lib.hid ha; clear ha
  by_cases h : wbB T a b = true
  · have HM := Lib.hid (wbM_yes h)
    have HB := Lib.hid h
    have OK := Lib.hid (wbB_iff.1 h); clear h
    go_enter Try.func23, Try.ntmps23
    go_wp2_with fail
    refine (leAsked_any _ _ _ _ T a b (HA.out.new (by repeat (first | with_reducible exact New.refl _ | with_reducible assumption | refine New.drewN ?_ _ | refine New.drew ?_ | refine New.alloc ?_ _ | refine New.setCell ?_ (by first | omega | (simp; omega) | (simp; done)) _ | (refine New.trans ?_ (by assumption)))))).mono ?_
    rintro e w1 ⟨rfl, n1⟩
    rw [HB.out]
    obtain ⟨r0, r1, y0, y1⟩ := pair_kept (p := ⟨w.heap.size + 1, 0, none⟩) (q := ⟨w.heap.size + 1, 1, none⟩) (x := .int .i64 0) (y := .int .i64 0) n1 (by simp [go_sem])
    have l0 : w1.cell? ⟨w.heap.size, 0, none⟩ = some (.int .i64 a) := n1.cell (by simp [go_sem])
    have l1 : w1.cell? ⟨w.heap.size, 1, none⟩ = some (.int .i64 b) := n1.cell (by simp [go_sem])
    have N1 := Lib.hid (show New w w1 from New.trans (by repeat (first | with_reducible exact New.refl _ | with_reducible assumption | refine New.drewN ?_ _ | refine New.drew ?_ | refine New.alloc ?_ _ | refine New.setCell ?_ (by first | omega | (simp; omega) | (simp; done)) _ | (refine New.trans ?_ (by assumption)))) n1); clear n1
    go_wp2_with fail
    refine (leBelow_any _ _ _ _ T a b (HA.out.new N1.out) OK.out.1 OK.out.2.bd).mono ?_
    rintro e w2 ⟨rfl, n2⟩
    obtain ⟨r0, r1, y0, y1⟩ := pair_kept n2 ⟨r0, r1, y0, y1⟩
    have N2 := Lib.hid (N1.out.trans n2); clear n2 l0 l1
    obtain ⟨p, hp⟩ : ∃ p, p = wbR T a b := ⟨_, rfl⟩
    rw [← hp]
    rw [← hp] at HM
    clear hp
    go_wp2
    refine bodyPost_ret (v := .tuple #[ratV p, .bool true]) (by simp [results, Try.results23, go_sem, r0, r1]) rfl ⟨by rw [HM.out, HB.out], ?_⟩
    have := N2.out
    (repeat (first | with_reducible exact New.refl _ | with_reducible assumption | refine New.drewN ?_ _ | refine New.drew ?_ | refine New.alloc ?_ _ | refine New.setCell ?_ (by first | omega | (simp; omega) | (simp; done)) _ | (refine New.trans ?_ (by assumption))))
  · have hf := bool_no h
    have HM := Lib.hid (wbM_no hf)
    have HB := Lib.hid hf; clear h hf
    go_enter Try.func23, Try.ntmps23
    go_wp2_with fail
    refine (leAsked_any _ _ _ _ T a b (HA.out.new (by repeat (first | with_reducible exact New.refl _ | with_reducible assumption | refine New.drewN ?_ _ | refine New.drew ?_ | refine New.alloc ?_ _ | refine New.setCell ?_ (by first | omega | (simp; omega) | (simp; done)) _ | (refine New.trans ?_ (by assumption)))))).mono ?_
    rintro e w1 ⟨rfl, n1⟩
    rw [HB.out]
    obtain ⟨r0, r1, y0, y1⟩ := pair_kept (p := ⟨w.heap.size + 1, 0, none⟩) (q := ⟨w.heap.size + 1, 1, none⟩) (x := .int .i64 0) (y := .int .i64 0) n1 (by simp [go_sem])
    have l0 : w1.cell? ⟨w.heap.size, 0, none⟩ = some (.int .i64 a) := n1.cell (by simp [go_sem])
    have l1 : w1.cell? ⟨w.heap.size, 1, none⟩ = some (.int .i64 b) := n1.cell (by simp [go_sem])
    have N1 := Lib.hid (show New w w1 from New.trans (by repeat (first | with_reducible exact New.refl _ | with_reducible assumption | refine New.drewN ?_ _ | refine New.drew ?_ | refine New.alloc ?_ _ | refine New.setCell ?_ (by first | omega | (simp; omega) | (simp; done)) _ | (refine New.trans ?_ (by assumption)))) n1); clear n1
    clear l0 l1
    go_wp2
    refine bodyPost_ret (v := .tuple #[ratV (0, 0), .bool false]) (by simp [results, Try.results23, go_sem, r0, r1]) rfl ⟨by rw [HM.out, HB.out], ?_⟩
    have := N1.out
    (repeat (first | with_reducible exact New.refl _ | with_reducible assumption | refine New.drewN ?_ _ | refine New.drew ?_ | refine New.alloc ?_ _ | refine New.setCell ?_ (by first | omega | (simp; omega) | (simp; done)) _ | (refine New.trans ?_ (by assumption))))

set_option maxRecDepth 100000 in
set_option maxHeartbeats 2000000 in
theorem iWaterBelow_any (w : World) (aa : Option Addr) (n ca : Nat) (T : List Tk) (a b : Int) (ha : Tanks w aa n ca T) :
    Calls Try.prog 25 #[.slice aa n ca, ratV (a, b)] w fun e w' => e = .returned (.tuple #[ratV (wbM T a b), .bool (wbB T a b)]) ∧ New w w' := by
  have HN := Lib.hid ha.1
  have HA := Lib.hid ha; clear ha
  by_cases h1 : tksB T = true
  · have H1 := Lib.hid h1
    by_cases h2 : lvlB a b = true
    · have H2 := Lib.hid h2
      have hwb : wbB T a b = true := by unfold wbB; rw [h1, h2]; rfl
      have HM := Lib.hid (wbM_yes hwb)
      have HB := Lib.hid hwb
      have HT := Lib.hid (tksB_iff.1 h1)
      have OK := Lib.hid (lvlB_iff.1 h2)
      have hn : n ≤ 6 := by have := HN.out; have := HT.out.l6; omega
      have q1 := OK.out.bd.n0; have q2 := OK.out.bd.n1; have q3 := OK.out.bd.d0; have q4 := OK.out.bd.d1
      simp only at q1 q2 q3 q4
      have bb := below_bd HT.out OK.out.bd T.length
      rw [List.take_of_length_le (Nat.le_refl _)] at bb
      obtain ⟨S, hS⟩ : ∃ S, S = sumL (upTo a b) T := ⟨_, rfl⟩
      have ES := Lib.hid (show sumL (upTo a b) T = S from hS.symm)
      have EW := Lib.hid (show wbR T a b = red S b by unfold wbR belowL; rw [hS])
      simp only at bb
      rw [← hS] at bb
      obtain ⟨bb1, bb2⟩ := bb
      clear h1 h2 hwb hS
      go_enter Try.func25, Try.ntmps25
      go_wp2_with fail
      refine (iAreTanks_any _ _ _ _ T (HA.out.new (by repeat (first | with_reducible exact New.refl _ | with_reducible assumption | refine New.drewN ?_ _ | refine New.drew ?_ | refine New.alloc ?_ _ | refine New.setCell ?_ (by first | omega | (simp; omega) | (simp; done)) _ | (refine New.trans ?_ (by assumption)))))).mono ?_
      rintro e w1 ⟨rfl, n1⟩
      rw [H1.out]
      obtain ⟨r0, r1, y0, y1⟩ := pair_kept (p := ⟨w.heap.size + 1, 0, none⟩) (q := ⟨w.heap.size + 1, 1, none⟩) (x := .int .i64 0) (y := .int .i64 0) n1 (by simp [go_sem])
      have l0 : w1.cell? ⟨w.heap.size, 0, none⟩ = some (.int .i64 a) := n1.cell (by simp [go_sem])
      have l1 : w1.cell? ⟨w.heap.size, 1, none⟩ = some (.int .i64 b) := n1.cell (by simp [go_sem])
      have N1 := Lib.hid (show New w w1 from New.trans (by repeat (first | with_reducible exact New.refl _ | with_reducible assumption | refine New.drewN ?_ _ | refine New.drew ?_ | refine New.alloc ?_ _ | refine New.setCell ?_ (by first | omega | (simp; omega) | (simp; done)) _ | (refine New.trans ?_ (by assumption)))) n1); clear n1
      go_wp2_with fail
      refine (isLevel_any _ a b).mono ?_
      rintro e w2 ⟨rfl, n2⟩
      rw [H2.out]
      obtain ⟨r0, r1, y0, y1⟩ := pair_kept n2 ⟨r0, r1, y0, y1⟩
      replace l0 := n2.cell l0
      replace l1 := n2.cell l1
      have N2 := Lib.hid (N1.out.trans n2); clear n2
      have hl := World.block_lt_of_cell? _ _ l0
      go_wp2_with fail
      refine (sumInt_any w2 54 #[.pointer (some ⟨w.heap.size, 0, none⟩)] (upTo a b) _ _ _ T (HA.out.new N2.out) hn (fun t ht => by have : 0 ≤ upTo a b t ∧ upTo a b t ≤ 50000000 := upTo_bd (HT.out.all t ht) OK.out.bd; exact ⟨by omega, by omega⟩) (fun v t ht hv => parts_any v _ t a b (HT.out.all t ht) OK.out.bd (hv.cell l0) (hv.cell l1)) parts_enters).mono ?_
      rintro e w3 ⟨rfl, n3⟩
      rw [ES.out]
      obtain ⟨r0, r1, y0, y1⟩ := pair_kept n3 ⟨r0, r1, y0, y1⟩
      replace l1 := n3.cell l1
      have N3 := Lib.hid (N2.out.trans n3); clear n3 l0
      go_wp2_with fail
      refine (ratioOf_any _ S b (by omega) (by omega) (by omega) (by omega)).mono ?_
      rintro e w4 ⟨rfl, n4⟩
      obtain ⟨r0, r1, y0, y1⟩ := pair_kept n4 ⟨r0, r1, y0, y1⟩
      have N4 := Lib.hid (N3.out.trans n4); clear n4 l1
      obtain ⟨p, hp⟩ : ∃ p, p = red S b := ⟨_, rfl⟩
      rw [← hp] at EW ⊢
      clear hp
      go_wp2
      refine bodyPost_ret (v := .tuple #[ratV p, .bool true]) (by simp [results, Try.results25, go_sem, r0, r1]) rfl ⟨by rw [HM.out, HB.out, EW.out], ?_⟩
      have := N4.out
      (repeat (first | with_reducible exact New.refl _ | with_reducible assumption | refine New.drewN ?_ _ | refine New.drew ?_ | refine New.alloc ?_ _ | refine New.setCell ?_ (by first | omega | (simp; omega) | (simp; done)) _ | (refine New.trans ?_ (by assumption))))
    · have h2 := bool_no h2
      have H2 := Lib.hid h2
      have hwb : wbB T a b = false := by unfold wbB; rw [h1, h2]; rfl
      have HM := Lib.hid (wbM_no hwb)
      have HB := Lib.hid hwb
      clear h1 h2 hwb
      go_enter Try.func25, Try.ntmps25
      go_wp2_with fail
      refine (iAreTanks_any _ _ _ _ T (HA.out.new (by repeat (first | with_reducible exact New.refl _ | with_reducible assumption | refine New.drewN ?_ _ | refine New.drew ?_ | refine New.alloc ?_ _ | refine New.setCell ?_ (by first | omega | (simp; omega) | (simp; done)) _ | (refine New.trans ?_ (by assumption)))))).mono ?_
      rintro e w1 ⟨rfl, n1⟩
      rw [H1.out]
      obtain ⟨r0, r1, y0, y1⟩ := pair_kept (p := ⟨w.heap.size + 1, 0, none⟩) (q := ⟨w.heap.size + 1, 1, none⟩) (x := .int .i64 0) (y := .int .i64 0) n1 (by simp [go_sem])
      have l0 : w1.cell? ⟨w.heap.size, 0, none⟩ = some (.int .i64 a) := n1.cell (by simp [go_sem])
      have l1 : w1.cell? ⟨w.heap.size, 1, none⟩ = some (.int .i64 b) := n1.cell (by simp [go_sem])
      have N1 := Lib.hid (show New w w1 from New.trans (by repeat (first | with_reducible exact New.refl _ | with_reducible assumption | refine New.drewN ?_ _ | refine New.drew ?_ | refine New.alloc ?_ _ | refine New.setCell ?_ (by first | omega | (simp; omega) | (simp; done)) _ | (refine New.trans ?_ (by assumption)))) n1); clear n1
      go_wp2_with fail
      refine (isLevel_any _ a b).mono ?_
      rintro e w2 ⟨rfl, n2⟩
      rw [H2.out]
      obtain ⟨r0, r1, y0, y1⟩ := pair_kept n2 ⟨r0, r1, y0, y1⟩
      replace l0 := n2.cell l0
      replace l1 := n2.cell l1
      have N2 := Lib.hid (N1.out.trans n2); clear n2
      clear l0 l1
      go_wp2
      refine bodyPost_ret (v := .tuple #[ratV (0, 0), .bool false]) (by simp [results, Try.results25, go_sem, r0, r1]) rfl ⟨by rw [HM.out, HB.out], ?_⟩
      have := N2.out
      (repeat (first | with_reducible exact New.refl _ | with_reducible assumption | refine New.drewN ?_ _ | refine New.drew ?_ | refine New.alloc ?_ _ | refine New.setCell ?_ (by first | omega | (simp; omega) | (simp; done)) _ | (refine New.trans ?_ (by assumption))))
  · have h1 := bool_no h1
    have H1 := Lib.hid h1
    have hwb : wbB T a b = false := by unfold wbB; rw [h1]; rfl
    have HM := Lib.hid (wbM_no hwb)
    have HB := Lib.hid hwb
    clear h1 hwb
    go_enter Try.func25, Try.ntmps25
    go_wp2_with fail
    refine (iAreTanks_any _ _ _ _ T (HA.out.new (by repeat (first | with_reducible exact New.refl _ | with_reducible assumption | refine New.drewN ?_ _ | refine New.drew ?_ | refine New.alloc ?_ _ | refine New.setCell ?_ (by first | omega | (simp; omega) | (simp; done)) _ | (refine New.trans ?_ (by assumption)))))).mono ?_
    rintro e w1 ⟨rfl, n1⟩
    rw [H1.out]
    obtain ⟨r0, r1, y0, y1⟩ := pair_kept (p := ⟨w.heap.size + 1, 0, none⟩) (q := ⟨w.heap.size + 1, 1, none⟩) (x := .int .i64 0) (y := .int .i64 0) n1 (by simp [go_sem])
    have l0 : w1.cell? ⟨w.heap.size, 0, none⟩ = some (.int .i64 a) := n1.cell (by simp [go_sem])
    have l1 : w1.cell? ⟨w.heap.size, 1, none⟩ = some (.int .i64 b) := n1.cell (by simp [go_sem])
    have N1 := Lib.hid (show New w w1 from New.trans (by repeat (first | with_reducible exact New.refl _ | with_reducible assumption | refine New.drewN ?_ _ | refine New.drew ?_ | refine New.alloc ?_ _ | refine New.setCell ?_ (by first | omega | (simp; omega) | (simp; done)) _ | (refine New.trans ?_ (by assumption)))) n1); clear n1
    clear l0 l1
    go_wp2
    refine bodyPost_ret (v := .tuple #[ratV (0, 0), .bool false]) (by simp [results, Try.results25, go_sem, r0, r1]) rfl ⟨by rw [HM.out, HB.out], ?_⟩
    have := N1.out
    (repeat (first | with_reducible exact New.refl _ | with_reducible assumption | refine New.drewN ?_ _ | refine New.drew ?_ | refine New.alloc ?_ _ | refine New.setCell ?_ (by first | omega | (simp; omega) | (simp; done)) _ | (refine New.trans ?_ (by assumption))))
end Go.Proofs.Ytklfelbolblgfaa
