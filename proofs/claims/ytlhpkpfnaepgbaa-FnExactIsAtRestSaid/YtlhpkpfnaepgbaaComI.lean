/- The program's least floor, its guess in single precision, and the level over some floors. -/
import Derived.Test.YtlhpkpfnaepgbaaSumF
import Derived.Test.YtlhpkpfnaepgbaaRows2b
import Derived.Deep.RegionHeld3
namespace Go.Proofs.Ytlhpkpfnaepgbaa
open Go.RowKit Go.IntWalk Go.Shelf

theorem Try.infoTank : (Try.prog.info? 47).map (fun i => (i.zero, i.size, i.bytes)) = some (some (.agg #[.int .i64 0, .int .i64 0, .int .i64 0]), 3, 24) := by kernel_rfl

theorem water_enters : Enters Try.prog 63 := enters_of Try.func63 (by kernel_rfl) rfl

/-- Asked for by the function 51. -/
theorem area_enters : Enters Try.prog 64 := enters_of Try.func64 (by kernel_rfl) rfl

/-- Tanks as the chapter has them. -/
structure TksOk (T : List Tk) : Prop where
  l1 : 1 ≤ T.length
  l6 : T.length ≤ 6
  all : ∀ t ∈ T, TkOk t
theorem watL_bd {T : List Tk} (h : TksOk T) : 0 ≤ watL T ∧ watL T ≤ 60000 := by
  have := sumL_bd (g := fun t => t.2.2) (A := T) (lo := 0) (hi := 10000) (fun t ht => ⟨(h.all t ht).w1, (h.all t ht).w2⟩)
  have := h.l6
  unfold watL; omega

/-- The least floor of the first k tanks, 100 of none. -/
def lfK (T : List Tk) : Nat → Int
  | 0 => 100
  | k + 1 => min (lfK T k) (T[k]?.getD (0, 0, 0)).2.1
theorem lfK_bd {T : List Tk} (h : TksOk T) (k : Nat) (hk : k ≤ T.length) : 0 ≤ lfK T k ∧ lfK T k ≤ 100 := by
  induction k with
  | zero => simp [lfK]
  | succ k ih =>
    have h1 := ih (by omega)
    have h2 := (h.all _ (mem_get (show k < T.length by omega))).f1
    unfold lfK; omega
def lfL (T : List Tk) : Int := lfK T T.length
theorem lfK_le {T : List Tk} (k j : Nat) (hj : j < k) : lfK T k ≤ (T[j]?.getD (0, 0, 0)).2.1 := by
  induction k with
  | zero => omega
  | succ k ih =>
    unfold lfK
    by_cases e : j = k
    · subst e; omega
    · have := ih (by omega); omega
theorem lfL_le {T : List Tk} {t : Tk} (ht : t ∈ T) : lfL T ≤ t.2.1 := by
  obtain ⟨j, hj, rfl⟩ := List.getElem_of_mem ht
  have := lfK_le (T := T) T.length j hj
  rw [List.getElem?_eq_getElem hj] at this
  exact this
theorem lfK_mem {T : List Tk} (h : TksOk T) (k : Nat) (hk : k ≤ T.length) (h0 : 0 < k) : ∃ t ∈ T, t.2.1 = lfK T k := by
  induction k with
  | zero => omega
  | succ k ih =>
    have hm := mem_get (T := T) (show k < T.length by omega)
    have hf := (h.all _ hm).f2
    unfold lfK
    by_cases e : k = 0
    · subst e
      exact ⟨_, hm, by simp only [lfK]; omega⟩
    · obtain ⟨t, ht, e⟩ := ih (by omega) (by omega)
      by_cases hlt : lfK T k ≤ (T[k]?.getD (0, 0, 0)).2.1
      · exact ⟨t, ht, by omega⟩
      · exact ⟨_, hm, by omega⟩
theorem lfL_mem {T : List Tk} (h : TksOk T) : ∃ t ∈ T, t.2.1 = lfL T := lfK_mem h T.length (Nat.le_refl _) h.l1

set_option maxRecDepth 100000 in
theorem leastFloor_any (w : World) (aa : Option Addr) (n ca : Nat) (T : List Tk) (ha : Tanks w aa n ca T) (hT : TksOk T) :
    Calls Try.prog 65 #[.slice aa n ca] w fun e w' => e = .returned (.int .i64 (lfL T)) ∧ New w w' := by
  have HN := Lib.hid ha.1
  have hn : n ≤ 6 := by have := ha.1; have := hT.l6; omega
  have HA := Lib.hid ha; clear ha
  have HT := Lib.hid hT; clear hT
  go_enter Try.func65, Try.ntmps65
  go_wp2
  go_loopw [3, 8] (fun y i wr => ∃ k : Nat, k ≤ n ∧ i = .int .i64 k ∧ y = .int .i64 (lfK T k) ∧ New w wr) (fun _ i _ => n - (intOf i).toNat)
  case atStart => exact ⟨0, Nat.zero_le _, rfl, rfl, New.refl _⟩
  case round =>
    obtain ⟨k, hk, rfl, rfl, hnw⟩ := hrel
    have NW := Lib.hid hnw; clear hnw
    by_cases hlt : k < n
    · obtain ⟨b, o, rfl, g0, g1, g2⟩ := (HA.out.new NW.out).2.2.2.1 k hlt
      obtain ⟨a, ea⟩ : ∃ a, a = lfK T k := ⟨_, rfl⟩
      obtain ⟨f, ef⟩ : ∃ f, f = (T[k]?.getD (0, 0, 0)).2.1 := ⟨_, rfl⟩
      rw [← ea]
      rw [← ef] at g1
      have HE := Lib.hid (And.intro ea ef); clear ea ef
      by_cases hm : f < a
      · go_wp2
        go_roundw
        case rel => exact ⟨k + 1, by omega, by go_num, by unfold lfK; rw [← HE.out.1, ← HE.out.2, Int.min_eq_right (by omega)], New.trans NW.out (by repeat (first | with_reducible exact New.refl _ | with_reducible assumption | refine New.drewN ?_ _ | refine New.drew ?_ | refine New.alloc ?_ _ | refine New.setCell ?_ (by first | omega | (simp; omega) | (simp; done)) _ | (refine New.trans ?_ (by assumption))))⟩
        case measure => simp [intOf]; omega
      · go_wp2
        go_roundw
        case rel => exact ⟨k + 1, by omega, by go_num, by unfold lfK; rw [← HE.out.1, ← HE.out.2, Int.min_eq_left (by omega)], New.trans NW.out (by repeat (first | with_reducible exact New.refl _ | with_reducible assumption | refine New.drewN ?_ _ | refine New.drew ?_ | refine New.alloc ?_ _ | refine New.setCell ?_ (by first | omega | (simp; omega) | (simp; done)) _ | (refine New.trans ?_ (by assumption))))⟩
        case measure => simp [intOf]; omega
    · obtain rfl : k = n := by omega
      go_wp2
      go_ret
      exact ⟨ret_int (by unfold lfL; rw [HN.out]), NW.out⟩

/-- What the closure of the guess tells of one tank: no number is asked for, but that it is no NaN. -/
theorem parts32_any (w : World) (b mid : Nat) (lo hi : Nat) (t : Tk) (ht : TkOk t) (hc : w.cell? ⟨b, 0, none⟩ = some (.float .f32 mid)) (hm : Rng lo hi mid) :
    Calls Try.prog 67 #[tkOf t, .pointer (some ⟨b, 0, none⟩)] w fun e w' => ∃ r, e = .returned (.float .f32 r) ∧ NN r ∧ New w w' := by
  have hb := World.block_lt_of_cell? _ _ hc
  obtain ⟨a, f, u⟩ := t
  obtain ⟨an, rfl⟩ : ∃ an : Nat, a = an := ⟨a.toNat, by have := ht.a1; simp only at this; omega⟩
  obtain ⟨fn, rfl⟩ : ∃ fn : Nat, f = fn := ⟨f.toNat, by have := ht.f1; simp only at this; omega⟩
  have q1 := ht.a1; have q2 := ht.a2; have q3 := ht.f2
  simp only at q1 q2 q3
  obtain ⟨s, hs, hs2⟩ := sg_sub hm (rng_int fn (by omega))
  obtain ⟨x, hx, hx2⟩ := nn_max hs2
  obtain ⟨r, hr, hr2⟩ := nn_mul (rng_int an (by omega)) (by omega) hx2
  have hrun1 : ∀ (t : TypeId) (w : World), (binOp .sub t (.float .f32 mid) (.float .f32 (floatOfInt .f32 (fn : Int)))).run Try.prog w = .ok (.float .f32 s) w := fun t w => run_float_arith w .sub t .f32 _ _ s hs
  have hrun2 : ∀ (t : TypeId) (w : World), (binOp .mul t (.float .f32 (floatOfInt .f32 (an : Int))) (.float .f32 x)).run Try.prog w = .ok (.float .f32 r) w := fun t w => run_float_arith w .mul t .f32 _ _ r hr
  have HM := Lib.hid hm; clear hm ht
  have hmax := hx Try.prog
  go_enter Try.func67, Try.ntmps67
  go_wp2
  go_ret
  exact ⟨r, rfl, hr2, (by repeat (first | with_reducible exact New.refl _ | with_reducible assumption | refine New.drewN ?_ _ | refine New.drew ?_ | refine New.alloc ?_ _ | refine New.setCell ?_ (by first | omega | (simp; omega) | (simp; done)) _ | (refine New.trans ?_ (by assumption))))⟩
theorem parts32_enters : Enters Try.prog 67 := enters_of Try.func67 (by kernel_rfl) rfl

set_option maxRecDepth 100000 in
theorem guessedLevel_any (w : World) (aa : Option Addr) (n ca : Nat) (T : List Tk) (ha : Tanks w aa n ca T) (hT : TksOk T) :
    Calls Try.prog 52 #[.slice aa n ca] w fun e w' => ∃ r, e = .returned (.float .f32 r) ∧ Rng (lfL T).toNat ((lfL T).toNat + (watL T).toNat) r ∧ New w w' := by
  have hn : n ≤ 6 := by have := ha.1; have := hT.l6; omega
  have HA := Lib.hid ha; clear ha
  have hw := watL_bd hT
  have hl := lfK_bd hT T.length (Nat.le_refl _)
  have HT := Lib.hid hT; clear hT
  obtain ⟨W, hW⟩ : ∃ W : Nat, watL T = W := ⟨(watL T).toNat, by omega⟩
  obtain ⟨L, hL⟩ : ∃ L : Nat, lfL T = L := ⟨(lfL T).toNat, by unfold lfL; omega⟩
  have hL' : lfK T T.length = L := hL
  rw [hW] at hw
  rw [hL'] at hl
  have e1 : (lfL T).toNat = L := by omega
  have e2 : (watL T).toNat = W := by omega
  rw [e1, e2]
  have HW := Lib.hid hW
  have HL := Lib.hid hL
  clear e1 e2 hW hL hL'
  have rW := rng_int W (by omega)
  have rL := rng_int L (by omega)
  obtain ⟨H, hH, rH⟩ := rng_add rL rW (by omega)
  have hadd : ∀ (t : TypeId) (w : World), (binOp .add t (.float .f32 (floatOfInt .f32 (L : Int))) (.float .f32 (floatOfInt .f32 (W : Int)))).run Try.prog w = .ok (.float .f32 H) w := fun t w => run_float_arith w .add t .f32 _ _ H hH
  have r0 := Lib.hid (rL.mono (Nat.le_refl _) (show L ≤ L + W by omega))
  have rh := Lib.hid (rH.mono (show L ≤ L + W by omega) (Nat.le_refl _))
  clear rW rL rH hH
  go_enter Try.func52, Try.ntmps52
  go_wp2_with fail
  refine (sumInt_any _ 63 #[] (fun t => t.2.2) _ _ _ T HA.out hn (fun t ht => by have := (HT.out.all t ht).w1; have := (HT.out.all t ht).w2; exact ⟨by omega, by omega⟩) (fun v t _ _ => water_any v _ _ _) water_enters).mono ?_
  rintro e w1 ⟨rfl, n1⟩
  have es : sumL (fun t => t.2.2) T = (W : Int) := HW.out
  rw [es]; clear es
  have N1 := Lib.hid n1; clear n1
  go_wp2_with fail
  refine (leastFloor_any _ _ _ _ T (HA.out.new N1.out) HT.out).mono ?_
  rintro e w2 ⟨rfl, n2⟩
  rw [HL.out]
  have N2 := Lib.hid (N1.out.trans n2); clear n2
  go_wp2
  clear hadd
  go_loopw [4, 5, 17] (fun lo hi i wr => ∃ (k x y : Nat), k ≤ 24 ∧ i = .int .i64 k ∧ lo = .float .f32 x ∧ hi = .float .f32 y ∧ Rng L (L + W) x ∧ Rng L (L + W) y ∧ New w wr) (fun _ _ i _ => 24 - (intOf i).toNat)
  case atStart => exact ⟨0, _, H, Nat.zero_le _, rfl, rfl, rfl, r0.out, rh.out, N2.out⟩
  case round =>
    obtain ⟨k, x, y, hk, rfl, rfl, rfl, hx, hy, hnw⟩ := hrel
    have NW := Lib.hid hnw; clear hnw
    by_cases hlt : k < 24
    · obtain ⟨s, hs, rs⟩ := rng_add hx hy (by omega)
      obtain ⟨m, hm, rm⟩ := rng_half (a := L) (b := L + W) (rs.mono (by omega) (by omega)) (by omega)
      have hadd : ∀ (t : TypeId) (w : World), (binOp .add t (.float .f32 x) (.float .f32 y)).run Try.prog w = .ok (.float .f32 s) w := fun t w => run_float_arith w .add t .f32 _ _ s hs
      have hquo : ∀ (t : TypeId) (w : World), (binOp .quo t (.float .f32 s) (.float .f32 1073741824)).run Try.prog w = .ok (.float .f32 m) w := fun t w => run_float_arith w .quo t .f32 _ _ m hm
      have hst : ∀ (a : Addr) (w : World) (M : Mode), (store a (.float .f32 m) M).run Try.prog w = stored Try.prog w a (.float .f32 m) M := fun a w M => run_store _ w a _ M rfl
      have RX := Lib.hid hx
      have RY := Lib.hid hy
      have RM := Lib.hid rm
      clear hx hy rs rm hs hm
      go_wp2_with fail
      refine (sumF32_any (wr.alloc (.cells #[.float .f32 m] 73)) 67 #[.pointer (some ⟨wr.heap.size, 0, none⟩)] _ _ _ T (HA.out.new (New.trans NW.out (by repeat (first | with_reducible exact New.refl _ | with_reducible assumption | refine New.drewN ?_ _ | refine New.drew ?_ | refine New.alloc ?_ _ | refine New.setCell ?_ (by first | omega | (simp; omega) | (simp; done)) _ | (refine New.trans ?_ (by assumption)))))) hn (fun v t ht hv => parts32_any v _ _ _ _ t (HT.out.all t ht) (hv.cell (by simp [go_sem])) RM.out) parts32_enters).mono ?_
      rintro e w3 ⟨r, rfl, hr, n3⟩
      have c0 : w3.cell? ⟨wr.heap.size, 0, none⟩ = some (.float .f32 m) := n3.cell (by simp [go_sem])
      have N3 := Lib.hid (show New w w3 from New.trans (New.trans NW.out (by repeat (first | with_reducible exact New.refl _ | with_reducible assumption | refine New.drewN ?_ _ | refine New.drew ?_ | refine New.alloc ?_ _ | refine New.setCell ?_ (by first | omega | (simp; omega) | (simp; done)) _ | (refine New.trans ?_ (by assumption))))) n3); clear n3
      clear hadd hquo hst
      go_wp2
      · go_roundw
        case rel => exact ⟨k + 1, x, m, by omega, by go_num, rfl, rfl, RX.out, RM.out, N3.out⟩
        case measure => simp [intOf]; omega
      · go_roundw
        case rel => exact ⟨k + 1, m, y, by omega, by go_num, rfl, rfl, RM.out, RY.out, N3.out⟩
        case measure => simp [intOf]; omega
    · obtain rfl : k = 24 := by omega
      have RX := Lib.hid hx; clear hx hy
      go_wp2
      go_ret
      exact ⟨x, rfl, RX.out, NW.out⟩

theorem wei_any (w : World) (t : Tk) (ht : TkOk t) :
    Calls Try.prog 62 #[tkOf t] w fun e w' => e = .returned (.int .i64 (t.1 * t.2.1)) ∧ New w w' := by
  obtain ⟨a, f, u⟩ := t
  have hm := mul_bd (show 0 ≤ a by have := ht.a1; simp only at this; omega) ht.a2 ht.f1 ht.f2
  obtain ⟨hm1, hm2⟩ := hm
  simp only at hm1 hm2
  clear ht
  go_enter Try.func62, Try.ntmps62
  go_wp2
  go_ret
  exact ⟨rfl, (by repeat (first | with_reducible exact New.refl _ | with_reducible assumption | refine New.drewN ?_ _ | refine New.drew ?_ | refine New.alloc ?_ _ | refine New.setCell ?_ (by first | omega | (simp; omega) | (simp; done)) _ | (refine New.trans ?_ (by assumption))))⟩
theorem wei_enters : Enters Try.prog 62 := enters_of Try.func62 (by kernel_rfl) rfl

theorem cov_take (T : List Tk) (top : Int) (k : Nat) (h : k < T.length) : cov (T.take (k + 1)) top = if (T[k]?.getD (0, 0, 0)).2.1 ≤ top then cov (T.take k) top ++ [T[k]?.getD (0, 0, 0)] else cov (T.take k) top := by
  rw [List.take_add_one, List.getElem?_eq_getElem h]
  unfold cov
  rw [List.filter_append]
  by_cases hc : T[k].2.1 ≤ top
  · simp [hc]
  · simp [hc]
theorem cov_len (T : List Tk) (top : Int) : (cov T top).length ≤ T.length := List.length_filter_le _ _
theorem cov_ok {T : List Tk} (hT : ∀ t ∈ T, TkOk t) (top : Int) : ∀ t ∈ cov T top, TkOk t := fun t ht => hT t (mem_cov.1 ht).1
theorem over_bd {T : List Tk} (h : TksOk T) (top : Int) : 0 ≤ weiL (cov T top) ∧ weiL (cov T top) ≤ 30000 ∧ 0 ≤ areaL (cov T top) ∧ areaL (cov T top) ≤ 300 := by
  have hl : (cov T top).length ≤ 6 := Nat.le_trans (cov_len _ _) h.l6
  have h1 := sumL_bd (g := fun t => t.1 * t.2.1) (A := cov T top) (lo := 0) (hi := 5000) (fun t ht => mul_bd (by have := (cov_ok h.all top t ht).a1; omega) (cov_ok h.all top t ht).a2 (cov_ok h.all top t ht).f1 (cov_ok h.all top t ht).f2)
  have h2 := sumL_bd (g := fun t => t.1) (A := cov T top) (lo := 0) (hi := 50) (fun t ht => ⟨by have := (cov_ok h.all top t ht).a1; omega, (cov_ok h.all top t ht).a2⟩)
  unfold weiL areaL; omega

set_option maxRecDepth 100000 in
theorem levelOver_any (w : World) (aa : Option Addr) (n ca : Nat) (T : List Tk) (top : Int) (ha : Tanks w aa n ca T) (hT : TksOk T) (hf : ∃ t ∈ T, t.2.1 ≤ top) :
    Calls Try.prog 51 #[.int .i64 top, .slice aa n ca] w fun e w' => e = .returned (ratV (overR T top)) ∧ New w w' := by
  have HN := Lib.hid ha.1
  have hn : n ≤ 6 := by have := ha.1; have := hT.l6; omega
  have HA := Lib.hid ha; clear ha
  have HT := Lib.hid hT
  have HF := Lib.hid hf; clear hf hT
  obtain ⟨i1, hj, hy0, hy1, hy2⟩ := info_parts Try.infoTank
  go_enter Try.func51, Try.ntmps51
  go_wp2
  obtain ⟨W1, hW1⟩ : ∃ W1, W1 = w.alloc (.cells #[.int .i64 0, .int .i64 0] 58) := ⟨_, rfl⟩
  rw [← hW1]
  have B1 : W1.heap.size = w.heap.size + 1 := by rw [hW1]; simp
  have C1 := Lib.hid (show W1.cell? ⟨w.heap.size, 0, none⟩ = some (.int .i64 0) ∧ W1.cell? ⟨w.heap.size, 1, none⟩ = some (.int .i64 0) ∧ W1.frozen? ⟨w.heap.size, 0, none⟩ = false ∧ W1.frozen? ⟨w.heap.size, 1, none⟩ = false by rw [hW1]; simp [go_sem])
  have N0 := Lib.hid (show New w W1 by rw [hW1]; exact (by repeat (first | with_reducible exact New.refl _ | with_reducible assumption | refine New.drewN ?_ _ | refine New.drew ?_ | refine New.alloc ?_ _ | refine New.setCell ?_ (by first | omega | (simp; omega) | (simp; done)) _ | (refine New.trans ?_ (by assumption)))))
  clear hW1
  go_loopw [5, 11] (fun vo i wr => ∃ (k m : Nat), k ≤ n ∧ m ≤ k ∧ i = .int .i64 k ∧ New W1 wr ∧ wr.ownsRow (w.heap.size + 1) 47 3 vo m (flatTank (cov (T.take k) top))) (fun _ i _ => n - (intOf i).toNat)
  case atStart => exact ⟨0, 0, Nat.zero_le _, Nat.zero_le _, rfl, New.refl _, World.ownsRow_nil _ _ _ _⟩
  case round =>
    obtain ⟨k, m, hk, hmk, rfl, hnw, hro⟩ := hrel
    have zb := hnw.size
    have NW := Lib.hid hnw; clear hnw
    have RO := Lib.hid hro; clear hro
    by_cases hlt : k < n
    · obtain ⟨b, o, rfl, g0, g1, g2⟩ := (HA.out.new (N0.out.trans NW.out)).2.2.2.1 k hlt
      have HS := Lib.hid (cov_take T top k (by have := HN.out; omega))
      obtain ⟨a, ea⟩ : ∃ a, a = (T[k]?.getD (0, 0, 0)).1 := ⟨_, rfl⟩
      obtain ⟨f, ef⟩ : ∃ f, f = (T[k]?.getD (0, 0, 0)).2.1 := ⟨_, rfl⟩
      obtain ⟨u, eu⟩ : ∃ u, u = (T[k]?.getD (0, 0, 0)).2.2 := ⟨_, rfl⟩
      rw [← ea] at g0
      rw [← ef] at g1
      rw [← eu] at g2
      have ET := Lib.hid (show T[k]?.getD (0, 0, 0) = (a, f, u) by rw [ea, ef, eu]); clear ea ef eu
      by_cases hc : f ≤ top
      · go_wp2_with (at_builtin; go_loud (refine wpList_append_lies _ (by rfl) (.tmp 19) (.tmp 21) 28 (by rfl) (w.heap.size + 1) 47 i1 _ 3 24 Try.underlying28 hj hy0 hy1 hy2 rfl (by decide) _ m _ (by rfl) (ownsRow_new RO.out (by repeat (first | with_reducible exact New.refl _ | with_reducible assumption | refine New.drewN ?_ _ | refine New.drew ?_ | refine New.alloc ?_ _ | refine New.setCell ?_ (by first | omega | (simp; omega) | (simp; done)) _ | (refine New.trans ?_ (by assumption))))) _ _ _ [.int .i64 a, .int .i64 f, .int .i64 u] (by rfl) (by rfl) (World.news_of_block (cs := #[.int .i64 a, .int .i64 f, .int .i64 u]) (t := 47) (fr := (0, 0)) (heap_alloc_at (by simp))) (by simp [Value.oneCell']) (by omega) (by unfold maxLen; omega) (by omega) (by simp; omega) _ rfl ?_; intro g cap w3 ho hg hb' hlt'; have N3 := Lib.hid (New.grown (w0 := W1) (w := _) (NW.out.trans (by repeat (first | with_reducible exact New.refl _ | with_reducible assumption | refine New.drewN ?_ _ | refine New.drew ?_ | refine New.alloc ?_ _ | refine New.setCell ?_ (by first | omega | (simp; omega) | (simp; done)) _ | (refine New.trans ?_ (by assumption))))) (ownsRow_new RO.out (by repeat (first | with_reducible exact New.refl _ | with_reducible assumption | refine New.drewN ?_ _ | refine New.drew ?_ | refine New.alloc ?_ _ | refine New.setCell ?_ (by first | omega | (simp; omega) | (simp; done)) _ | (refine New.trans ?_ (by assumption))))) (by omega) hg); have RO3 := Lib.hid ho; clear ho hg hb' hlt'))
        go_roundw
        case rel =>
          refine ⟨k + 1, m + 1, by omega, by omega, by go_num, N3.out, ?_⟩
          rw [HS.out, ET.out, if_pos hc, flatTank_append]
          exact RO3.out
        case measure => simp [intOf]; omega
      · go_wp2
        go_roundw
        case rel =>
          refine ⟨k + 1, m, by omega, by omega, by go_num, New.trans NW.out (by repeat (first | with_reducible exact New.refl _ | with_reducible assumption | refine New.drewN ?_ _ | refine New.drew ?_ | refine New.alloc ?_ _ | refine New.setCell ?_ (by first | omega | (simp; omega) | (simp; done)) _ | (refine New.trans ?_ (by assumption)))), ?_⟩
          rw [HS.out, ET.out, if_neg hc]
          exact ownsRow_new RO.out (by repeat (first | with_reducible exact New.refl _ | with_reducible assumption | refine New.drewN ?_ _ | refine New.drew ?_ | refine New.alloc ?_ _ | refine New.setCell ?_ (by first | omega | (simp; omega) | (simp; done)) _ | (refine New.trans ?_ (by assumption))))
        case measure => simp [intOf]; omega
    · obtain rfl : k = n := by omega
      have et : T.take k = T := List.take_of_length_le (by have := HN.out; omega)
      rw [et] at RO
      obtain ⟨oa, oc, e1, o1⟩ := OwnTank.of_row RO.out
      subst e1
      have OC := Lib.hid o1.reads
      clear o1 RO et
      have bd := over_bd HT.out top
      have bw := watL_bd HT.out
      have hp := overD_pos HT.out.all HF.out
      have KO := Lib.hid (cov_ok HT.out.all top)
      obtain ⟨WE, hWE⟩ : ∃ x, x = weiL (cov T top) := ⟨_, rfl⟩
      obtain ⟨AR, hAR⟩ : ∃ x, x = areaL (cov T top) := ⟨_, rfl⟩
      obtain ⟨WA, hWA⟩ : ∃ x, x = watL T := ⟨_, rfl⟩
      unfold overD at hp
      rw [← hWE, ← hAR] at bd
      rw [← hAR] at hp
      rw [← hWA] at bw
      have EQ := Lib.hid (And.intro hWE (And.intro hAR hWA))
      clear hWE hAR hWA
      go_wp2_with fail
      refine (sumInt_any _ 62 #[] (fun t => t.1 * t.2.1) _ _ _ _ OC.out (by omega) (fun t ht => by have := mul_bd (show 0 ≤ t.1 by have := (KO.out t ht).a1; omega) (KO.out t ht).a2 (KO.out t ht).f1 (KO.out t ht).f2; exact ⟨by omega, by omega⟩) (fun v t ht _ => wei_any v t (KO.out t ht)) wei_enters).mono ?_
      rintro e w4 ⟨rfl, n4⟩
      rw [show sumL (fun t => t.1 * t.2.1) (cov T top) = WE from EQ.out.1.symm]
      have N4 := Lib.hid (NW.out.trans n4)
      have Q4 := Lib.hid n4; clear n4
      go_wp2_with fail
      refine (sumInt_any _ 63 #[] (fun t => t.2.2) _ _ _ T (HA.out.new (N0.out.trans N4.out)) hn (fun t ht => by have := (HT.out.all t ht).w1; have := (HT.out.all t ht).w2; exact ⟨by omega, by omega⟩) (fun v t _ _ => water_any v _ _ _) water_enters).mono ?_
      rintro e w5 ⟨rfl, n5⟩
      rw [show sumL (fun t => t.2.2) T = WA from EQ.out.2.2.symm]
      have N5 := Lib.hid (N4.out.trans n5)
      have Q5 := Lib.hid (Q4.out.trans n5); clear n5
      go_wp2_with fail
      refine (sumInt_any _ 64 #[] (fun t => t.1) _ _ _ _ (OC.out.new Q5.out) (by omega) (fun t ht => by have := (KO.out t ht).a1; have := (KO.out t ht).a2; exact ⟨by omega, by omega⟩) (fun v t _ _ => area_any v _ _ _) area_enters).mono ?_
      rintro e w6 ⟨rfl, n6⟩
      rw [show sumL (fun t => t.1) (cov T top) = AR from EQ.out.2.1.symm]
      have N6 := Lib.hid (N5.out.trans n6); clear n6
      go_wp2_with fail
      refine (ratioOf_any _ (WE + WA) AR hp (by omega) (by omega) (by omega)).mono ?_
      rintro e w7 ⟨rfl, n7⟩
      have N7 := Lib.hid (N6.out.trans n7); clear n7
      obtain ⟨c0, c1, f0, f1⟩ := pair_kept N7.out C1.out
      obtain ⟨p, hp'⟩ : ∃ p, p = red (WE + WA) AR := ⟨_, rfl⟩
      rw [← hp']
      have HP := Lib.hid hp'; clear hp'
      go_wp2
      refine bodyPost_ret (v := ratV p) (by simp [results, Try.results51, go_sem, c0, c1]) rfl ⟨?_, ?_⟩
      · unfold overR overN overD
        rw [← EQ.out.1, ← EQ.out.2.1, ← EQ.out.2.2, ← HP.out]
      · have := N0.out.trans N7.out
        (repeat (first | with_reducible exact New.refl _ | with_reducible assumption | refine New.drewN ?_ _ | refine New.drew ?_ | refine New.alloc ?_ _ | refine New.setCell ?_ (by first | omega | (simp; omega) | (simp; done)) _ | (refine New.trans ?_ (by assumption))))
end Go.Proofs.Ytlhpkpfnaepgbaa
