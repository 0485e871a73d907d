/- The program's functions over passDrops. -/
import Derived.Test.YtbgbglalibjncaaPassD
import Derived.Deep.RegionWith
namespace Go.Proofs.Ytbgbglalibjncaa
open Go.RowKit

theorem made_own (w : World) (n : Nat) (hn : n ≤ 9223372036854775807) : Own (w.alloc (.cells (List.replicate n (Value.int .i64 0)).toArray 3)) w.heap.size (w.heap.size + 1) (some ⟨w.heap.size, 0, none⟩) n n (zeros n) :=
  ⟨(zeros_length n).symm, Nat.le_refl _, hn, .inr ⟨w.heap.size, fun j => .int .i64 ((zeros n)[j]?.getD 0), rfl, Nat.le_refl _, by omega, ⟨_, heap_alloc_new _ _, by simp, fun i hi => by simp only [zeros_get]; simp [hi]⟩, fun j _ => rfl⟩⟩
theorem Own.below {w w' : World} {lo hi B : Nat} {ao : Option Addr} {n cap : Nat} {l : List Int} (h : Own w lo hi ao n cap l) (k : Below B w w') (hB : hi ≤ B) : Own w' lo hi ao n cap l :=
  h.turned fun b hn hb _ => k.block b (by have := h.bounds hn hb; omega)
theorem Ints.blk {w : World} {ao : Option Addr} {n cap : Nat} {l : List Int} (h : Ints w ao n cap l) (hn : n ≠ 0) {b : Nat} (hb : blkOf ao = some b) : b < w.heap.size := by
  obtain ⟨b', o, e, hc, hlt⟩ := h.at (j := 0) (by omega)
  subst e
  simp [blkOf] at hb
  omega

theorem unheard_any (w : World) (a b : Int) : Calls Try.prog 29 #[.int .i64 a, .int .i64 b] w fun e w' => e = .returned (.tuple #[]) ∧ w = w' := by
  go_enter Try.func29, Try.ntmps29
  go_wp2
  exact ⟨rfl, .tuple #[], by simp [results, Try.results29, go_sem], rfl, rfl⟩
theorem unheard_tells (c h : List Int) (x : Int) : Tells (fun _ => False) (fun _ _ => True) c h x 29 #[] := by
  intro k v hk hi
  rw [Array.append_empty]
  exact (unheard_any _ _ _).mono fun _ _ he => ⟨he.1, trivial, he.2 ▸ Chg.refl _ _⟩
theorem unheard_enters : Enters Try.prog 29 := enters_of Try.func29 (by kernel_rfl) rfl

/-- passDrops where nobody listens. -/
theorem passQuiet_any (w : World) (aa ab : Option Addr) (n m ca cb : Nat) (c h : List Int) (x : Int) (ha : Ints w aa n ca c) (hb : Ints w ab m cb h) (hc : CapsOk c) (hd : HeldOk c h) (x0 : 0 ≤ x) (x1 : x ≤ 1000000000000) :
    Calls Try.prog 28 #[.slice aa n ca, .slice ab m cb, .int .i64 x, .func (.func 29) #[] #[]] w fun e w' => ∃ oa on oc, e = .returned (.slice oa on oc) ∧ Own w' w.heap.size w'.heap.size oa on oc (rstTo c h x c.length) ∧ New w w' :=
  (passDrops_any w (fun _ => False) (fun _ _ => True) aa ab n m ca cb c h x 29 #[] ha hb hc hd x0 x1 (fun _ hb => hb.elim) (fun _ _ hb => hb) trivial (fun _ _ _ _ _ => trivial) (unheard_tells c h x) unheard_enters).mono
    fun _ _ ⟨oa, on, oc, e1, o1, c1, _⟩ => ⟨oa, on, oc, e1, o1, Chg.new (New.refl w) c1 (fun _ hi => hi.elim)⟩

theorem hafM_no' {c : List Int} {x : Int} (h : hafB c x = false) : hafM c x = [] := by unfold hafM; rw [if_neg (by rw [h]; decide)]
theorem tafM_no' {c : List Int} {x : Int} (h : hafB c x = false) : tafM c x = [] := by unfold tafM; rw [if_neg (by rw [h]; decide)]
theorem addM_no' {c h : List Int} {x : Int} (e : addB c h x = false) : addM c h x = [] := by unfold addM; rw [if_neg (by rw [e]; decide)]
theorem backM_no' {c h : List Int} {x : Int} (e : addB c h x = false) : backM c h x = [] := by unfold backM; rw [if_neg (by rw [e]; decide)]

set_option maxRecDepth 100000 in
theorem iHeldAfter_any (w : World) (aa : Option Addr) (n ca : Nat) (c : List Int) (x : Int) (ha : Ints w aa n ca c) :
    Calls Try.prog 6 #[.slice aa n ca, .int .i64 x] w fun e w' => ∃ oa on oc, e = .returned (.tuple #[.slice oa on oc, .bool (hafB c x)]) ∧ Own w' w.heap.size w'.heap.size oa on oc (hafM c x) ∧ New w w' := by
  have HA := Lib.hid ha; clear ha
  by_cases h1 : capsB c = true
  · by_cases h2 : dropB x = true
    · have hh : hafB c x = true := by unfold hafB; rw [h1, h2]; rfl
      obtain ⟨hc, x0, x1⟩ := hafB_iff.1 hh
      have HM := Lib.hid (show hafM c x = rstTo c (zeros c.length) x c.length by unfold hafM; rw [if_pos hh])
      have HH := Lib.hid hh; clear hh
      have HN := Lib.hid HA.out.1
      have hn : n ≤ 6 := by have := HN.out; have := hc.1.2; omega
      have HC := Lib.hid hc; clear hc
      have hmk := run_make_row' (P := Try.prog) 24 3 (.int .i64 0) 8 Try.underlying24 Try.infoInt rfl .i64 .i64 n (by omega) (by omega)
      simp only [madeCells_eq] at hmk
      have HZ := Lib.hid (show zeros n = zeros c.length by rw [HN.out])
      go_enter Try.func6, Try.ntmps6
      go_wp2_with fail
      refine (iAreCaps_any _ _ _ _ c HA.out).mono ?_
      rintro e w1 ⟨rfl, n1⟩
      have N1 := Lib.hid n1; clear n1
      go_wp2_with fail
      refine (isDropCount_any _ _).mono ?_
      rintro e w9 ⟨rfl, rfl⟩
      go_wp2_with fail
      refine (passQuiet_any _ _ _ _ _ _ _ c (zeros c.length) x (HA.out.new (by repeat (first | with_reducible exact New.refl _ | with_reducible assumption | refine New.drewN ?_ _ | refine New.drew ?_ | refine New.alloc ?_ _ | refine New.setCell ?_ (by first | omega | (simp; omega) | (simp; done)) _ | (refine New.trans ?_ (by assumption))))) (HZ.out ▸ (made_own _ _ (by omega)).ints) HC.out (zeros_ok HC.out) x0 (by omega)).mono ?_
      rintro e w4 ⟨oa, on, oc, rfl, o1, n1⟩
      have zz := N1.out.size
      have N4 := Lib.hid n1; clear n1
      go_wp2
      go_ret2
      rw [HM.out, HH.out]
      exact ⟨_, _, _, rfl, o1.mono (by simp; omega) (Nat.le_refl _), New.trans (show New w _ from (by repeat (first | with_reducible exact New.refl _ | with_reducible assumption | refine New.drewN ?_ _ | refine New.drew ?_ | refine New.alloc ?_ _ | refine New.setCell ?_ (by first | omega | (simp; omega) | (simp; done)) _ | (refine New.trans ?_ (by assumption))))) N4.out⟩
    · have h2f : dropB x = false := by simpa using h2
      have hf : hafB c x = false := by unfold hafB; rw [h2f]; simp
      rw [hafM_no' hf, hf]
      go_enter Try.func6, Try.ntmps6
      go_wp2_with fail
      refine (iAreCaps_any _ _ _ _ c HA.out).mono ?_
      rintro e w1 ⟨rfl, n1⟩
      go_wp2_with fail
      refine (isDropCount_any _ _).mono ?_
      rintro e w9 ⟨rfl, rfl⟩
      go_wp2
      go_ret2
      exact ⟨_, _, _, rfl, Own.nil _ _ _, n1⟩
  · have h1f : capsB c = false := by simpa using h1
    have hf : hafB c x = false := by unfold hafB; rw [h1f]; rfl
    rw [hafM_no' hf, hf]
    go_enter Try.func6, Try.ntmps6
    go_wp2_with fail
    refine (iAreCaps_any _ _ _ _ c HA.out).mono ?_
    rintro e w1 ⟨rfl, n1⟩
    go_wp2
    go_ret2
    exact ⟨_, _, _, rfl, Own.nil _ _ _, n1⟩

theorem iAddDrops_any (w : World) (aa ab : Option Addr) (n m ca cb : Nat) (c h : List Int) (x : Int) (ha : Ints w aa n ca c) (hb : Ints w ab m cb h) :
    Calls Try.prog 18 #[.slice aa n ca, .slice ab m cb, .int .i64 x] w fun e w' => ∃ oa on oc, e = .returned (.tuple #[.slice oa on oc, .bool (addB c h x)]) ∧ Own w' w.heap.size w'.heap.size oa on oc (addM c h x) ∧ New w w' := by
  have HA := Lib.hid ha; clear ha
  have HB := Lib.hid hb; clear hb
  by_cases h1 : heldB c h = true
  · by_cases h2 : dropB x = true
    · have hh : addB c h x = true := by unfold addB; rw [h1, h2]; rfl
      obtain ⟨⟨hc, hd⟩, x0, x1⟩ := addB_iff.1 hh
      have HM := Lib.hid (show addM c h x = rstTo c h x c.length by unfold addM; rw [if_pos hh])
      have HH := Lib.hid hh; clear hh
      have HC := Lib.hid (And.intro hc hd); clear hc hd
      go_enter Try.func18, Try.ntmps18
      go_wp2_with fail
      refine (areHeldBy_any _ _ _ _ _ _ _ c h HA.out HB.out).mono ?_
      rintro e w1 ⟨rfl, n1⟩
      have N1 := Lib.hid n1; clear n1
      go_wp2_with fail
      refine (isDropCount_any _ _).mono ?_
      rintro e w9 ⟨rfl, rfl⟩
      go_wp2_with fail
      refine (passQuiet_any _ _ _ _ _ _ _ c h x (HA.out.new N1.out) (HB.out.new N1.out) HC.out.1 HC.out.2 x0 (by omega)).mono ?_
      rintro e w4 ⟨oa, on, oc, rfl, o1, n1⟩
      have zz := N1.out.size
      have N4 := Lib.hid n1; clear n1
      go_wp2
      go_ret2
      rw [HM.out, HH.out]
      exact ⟨_, _, _, rfl, o1.mono zz (Nat.le_refl _), N1.out.trans N4.out⟩
    · have h2f : dropB x = false := by simpa using h2
      have hf : addB c h x = false := by unfold addB; rw [h2f]; simp
      rw [addM_no' hf, hf]
      go_enter Try.func18, Try.ntmps18
      go_wp2_with fail
      refine (areHeldBy_any _ _ _ _ _ _ _ c h HA.out HB.out).mono ?_
      rintro e w1 ⟨rfl, n1⟩
      go_wp2_with fail
      refine (isDropCount_any _ _).mono ?_
      rintro e w9 ⟨rfl, rfl⟩
      go_wp2
      go_ret2
      exact ⟨_, _, _, rfl, Own.nil _ _ _, n1⟩
  · have h1f : heldB c h = false := by simpa using h1
    have hf : addB c h x = false := by unfold addB; rw [h1f]; rfl
    rw [addM_no' hf, hf]
    go_enter Try.func18, Try.ntmps18
    go_wp2_with fail
    refine (areHeldBy_any _ _ _ _ _ _ _ c h HA.out HB.out).mono ?_
    rintro e w1 ⟨rfl, n1⟩
    go_wp2
    go_ret2
    exact ⟨_, _, _, rfl, Own.nil _ _ _, n1⟩

theorem iBackDrops_any (w : World) (aa ab : Option Addr) (n m ca cb : Nat) (c h : List Int) (x : Int) (ha : Ints w aa n ca c) (hb : Ints w ab m cb h) :
    Calls Try.prog 23 #[.slice aa n ca, .slice ab m cb, .int .i64 x] w fun e w' => ∃ oa on oc, e = .returned (.tuple #[.slice oa on oc, .bool (addB c h x)]) ∧ Own w' w.heap.size w'.heap.size oa on oc (backM c h x) ∧ New w w' := by
  have HA := Lib.hid ha; clear ha
  have HB := Lib.hid hb; clear hb
  by_cases h1 : heldB c h = true
  · by_cases h2 : dropB x = true
    · have hh : addB c h x = true := by unfold addB; rw [h1, h2]; rfl
      obtain ⟨⟨hc, hd⟩, x0, x1⟩ := addB_iff.1 hh
      have HM := Lib.hid (show backM c h x = rstTo c h (wholeM c - x % wholeM c) c.length by unfold backM; rw [if_pos hh])
      have HH := Lib.hid hh; clear hh
      have wb := wholeM_bd hc
      have db := divBd1 x0 wb.1
      have RM := Lib.hid (show roundM c = wholeM c by unfold roundM; rw [if_pos (capsB_iff.2 hc)])
      have HC := Lib.hid (And.intro hc hd); clear hc hd
      obtain ⟨R, hR⟩ : ∃ R, R = wholeM c := ⟨_, rfl⟩
      have EE := Lib.hid hR
      rw [← hR] at wb db
      have HM2 := Lib.hid (show backM c h x = rstTo c h (R - x % R) c.length by rw [HM.out, hR])
      clear hR
      go_enter Try.func23, Try.ntmps23
      go_wp2_with fail
      refine (areHeldBy_any _ _ _ _ _ _ _ c h HA.out HB.out).mono ?_
      rintro e w1 ⟨rfl, n1⟩
      have N1 := Lib.hid n1; clear n1
      go_wp2_with fail
      refine (isDropCount_any _ _).mono ?_
      rintro e w9 ⟨rfl, rfl⟩
      go_wp2_with fail
      refine (iRoundOf_any _ _ _ _ c (HA.out.new N1.out)).mono ?_
      rintro e w2 ⟨rfl, n2⟩
      have N2 := Lib.hid (N1.out.trans n2); clear n2
      rw [RM.out, ← EE.out]
      have w3 : IntKind.i64.wrap (R - x % R) = R - x % R := IntWalk.i64_in _ (by omega)
      have w4 : IntKind.i64.wrap (R - x.tmod R) = R - x % R := by rw [Int.tmod_eq_emod_of_nonneg x0]; exact IntWalk.i64_in _ (by omega)
      have r0 : ¬ R = 0 := by omega
      go_wp2_with fail
      refine (passQuiet_any _ _ _ _ _ _ _ c h (R - x % R) (HA.out.new N2.out) (HB.out.new N2.out) HC.out.1 HC.out.2 (by omega) (by omega)).mono ?_
      rintro e w4 ⟨oa, on, oc, rfl, o1, n1⟩
      have zz := N2.out.size
      have N4 := Lib.hid n1; clear n1
      go_wp2
      go_ret2
      rw [HM2.out, HH.out]
      exact ⟨_, _, _, rfl, o1.mono zz (Nat.le_refl _), N2.out.trans N4.out⟩
    · have h2f : dropB x = false := by simpa using h2
      have hf : addB c h x = false := by unfold addB; rw [h2f]; simp
      rw [backM_no' hf, hf]
      go_enter Try.func23, Try.ntmps23
      go_wp2_with fail
      refine (areHeldBy_any _ _ _ _ _ _ _ c h HA.out HB.out).mono ?_
      rintro e w1 ⟨rfl, n1⟩
      go_wp2_with fail
      refine (isDropCount_any _ _).mono ?_
      rintro e w9 ⟨rfl, rfl⟩
      go_wp2
      go_ret2
      exact ⟨_, _, _, rfl, Own.nil _ _ _, n1⟩
  · have h1f : heldB c h = false := by simpa using h1
    have hf : addB c h x = false := by unfold addB; rw [h1f]; rfl
    rw [backM_no' hf, hf]
    go_enter Try.func23, Try.ntmps23
    go_wp2_with fail
    refine (areHeldBy_any _ _ _ _ _ _ _ c h HA.out HB.out).mono ?_
    rintro e w1 ⟨rfl, n1⟩
    go_wp2
    go_ret2
    exact ⟨_, _, _, rfl, Own.nil _ _ _, n1⟩

/-- The tips told so far. -/
def tipsUp (c : List Int) (x : Int) (k : Nat) : List Int := (List.range c.length).map fun j => if j < k then carK c (zeros c.length) x (j + 1) else 0
theorem tipsUp_length (c : List Int) (x : Int) (k : Nat) : (tipsUp c x k).length = c.length := by simp [tipsUp]
theorem tipsUp_get (c : List Int) (x : Int) (k : Nat) {j : Nat} (hj : j < c.length) : (tipsUp c x k)[j]?.getD 0 = if j < k then carK c (zeros c.length) x (j + 1) else 0 := by simp [tipsUp, hj]
theorem tipsUp_zero (c : List Int) (x : Int) : tipsUp c x 0 = zeros c.length := by
  refine ext_getD (by rw [tipsUp_length, zeros_length]) fun j hj => ?_
  rw [tipsUp_length] at hj
  rw [tipsUp_get _ _ _ hj, zeros_get, if_neg (by omega)]
theorem tipsUp_succ (c : List Int) (x : Int) (k : Nat) : tipsUp c x (k + 1) = (tipsUp c x k).set k (carK c (zeros c.length) x (k + 1)) := by
  refine ext_getD (by rw [List.length_set, tipsUp_length, tipsUp_length]) fun j hj => ?_
  rw [tipsUp_length] at hj
  rw [tipsUp_get _ _ _ hj, List.getElem?_set]
  by_cases e : k = j
  · subst e
    rw [if_pos (by omega), if_pos rfl, if_pos (by rw [tipsUp_length]; exact hj)]; rfl
  · rw [if_neg e, tipsUp_get _ _ _ hj]
    by_cases h : j < k
    · rw [if_pos h, if_pos (by omega)]
    · rw [if_neg h, if_neg (by omega)]
theorem lead_stop {p : Nat → Bool} {n : Nat} (h : lead p n < n) : p (lead p n) = false := by
  induction n with
  | zero => omega
  | succ n ih =>
    have hl := lead_le p n
    unfold lead at h ⊢
    by_cases hh : lead p n = n ∧ p n = true
    · rw [if_pos hh] at h; omega
    · rw [if_neg hh]
      by_cases e : lead p n = n
      · rw [e]
        by_cases e2 : p n = true
        · exact absurd ⟨e, e2⟩ hh
        · simpa using e2
      · exact ih (by omega)
theorem tipsUp_lead {c : List Int} {x : Int} (hc : CapsOk c) : tipsUp c x (lead (fun j => carK c (zeros c.length) x (j + 1) != 0) c.length) = tipTo c (zeros c.length) x c.length := by
  refine ext_getD (by rw [tipsUp_length, tipTo_length]) fun j hj => ?_
  rw [tipsUp_length] at hj
  rw [tipsUp_get _ _ _ hj, tipTo_get _ _ _ hj]
  split
  · rfl
  · rename_i hh
    have hlt : lead (fun j => carK c (zeros c.length) x (j + 1) != 0) c.length < c.length := by omega
    have h0 := lead_stop hlt
    have h1 : carK c (zeros c.length) x (lead (fun j => carK c (zeros c.length) x (j + 1) != 0) c.length + 1) = 0 := by simpa using h0
    exact (carK_none hc (zeros_ok hc) h1 (j := j + 1) (by omega) (by omega)).symm

theorem tipsSay_any (w : World) (B g n k : Nat) (t : Int) (l : List Int) (ho : Own w g (g + 1) (some ⟨g, 0, none⟩) n n l) (hb : w.cell? ⟨B, 0, none⟩ = some (.slice (some ⟨g, 0, none⟩) n n)) (hk : k < n) (_hn : n ≤ 6) :
    Calls Try.prog 33 #[.int .i64 (k : Int), .int .i64 t, .pointer (some ⟨B, 0, none⟩)] w fun e w' => e = .returned (.tuple #[]) ∧ w' = w.setCell ⟨g, k, none⟩ (.int .i64 t) := by
  obtain ⟨c0, f0⟩ := ho.cells hk
  clear ho
  go_enter Try.func33, Try.ntmps33
  go_wp2
  exact ⟨rfl, .tuple #[], by simp [results, Try.results33, go_sem], rfl, rfl⟩
theorem dropsSay_any (w : World) (B k : Nat) (a b : Int) (hb : w.cell? ⟨B, 0, none⟩ = some (.int .i64 (k : Int))) (hf : w.frozen? ⟨B, 0, none⟩ = false) (hk : k ≤ 60) :
    Calls Try.prog 34 #[.int .i64 a, .int .i64 b, .pointer (some ⟨B, 0, none⟩)] w fun e w' => e = .returned (.tuple #[]) ∧ w' = w.setCell ⟨B, 0, none⟩ (.int .i64 ((k : Int) + 1)) := by
  go_enter Try.func34, Try.ntmps34
  go_wp2
  exact ⟨rfl, .tuple #[], by simp [results, Try.results34, go_sem], rfl, rfl⟩

/-- The box with the row of tips, and the tips told so far. -/
def TipsIn (c : List Int) (x : Int) (n B g : Nat) (k : Nat) (v : World) : Prop := v.cell? ⟨B, 0, none⟩ = some (.slice (some ⟨g, 0, none⟩) n n) ∧ Own v g (g + 1) (some ⟨g, 0, none⟩) n n (tipsUp c x k)
theorem tipsSay_tells {c : List Int} {x : Int} {n B g : Nat} (hc : CapsOk c) (hn : n = c.length) (hB : B ≠ g) : Tells (fun b => b = g) (TipsIn c x n B g) c (zeros c.length) x 33 #[.pointer (some ⟨B, 0, none⟩)] := by
  intro k v hk hi
  refine (tipsSay_any v B g n k _ _ hi.2 hi.1 (by omega) (by have := hc.1.2; omega)).mono fun e v' he => ?_
  rw [he.2]
  refine ⟨he.1, ⟨World.cell_set hi.1 hB, ?_⟩, Chg.setCell (p := ⟨g, k, none⟩) _⟩
  rw [tipsUp_succ]
  exact hi.2.store (by omega) _
theorem tipsSay_enters : Enters Try.prog 33 := enters_of Try.func33 (by kernel_rfl) rfl
/-- The box with the number of tips. -/
def CountIn (B : Nat) (k : Nat) (v : World) : Prop := v.cell? ⟨B, 0, none⟩ = some (.int .i64 (k : Int)) ∧ v.frozen? ⟨B, 0, none⟩ = false
theorem dropsSay_tells {c h : List Int} {x : Int} {B : Nat} (hc : CapsOk c) : Tells (fun b => b = B) (CountIn B) c h x 34 #[.pointer (some ⟨B, 0, none⟩)] := by
  intro k v hk hi
  refine (dropsSay_any v B k _ _ hi.1 hi.2 (by have := hc.1.2; omega)).mono fun e v' he => ?_
  rw [he.2]
  exact ⟨he.1, ⟨set_same hi.1, by rw [World.frozen?_setCell]; exact hi.2⟩, Chg.setCell (p := ⟨B, 0, none⟩) _⟩
theorem dropsSay_enters : Enters Try.prog 34 := enters_of Try.func34 (by kernel_rfl) rfl

set_option maxRecDepth 100000 in
theorem iTipsAfter_any (w : World) (aa : Option Addr) (n ca : Nat) (c : List Int) (x : Int) (ha : Ints w aa n ca c) :
    Calls Try.prog 8 #[.slice aa n ca, .int .i64 x] w fun e w' => ∃ oa on oc, e = .returned (.tuple #[.slice oa on oc, .bool (hafB c x)]) ∧ Own w' w.heap.size w'.heap.size oa on oc (tafM c x) ∧ New w w' := by
  have HA := Lib.hid ha; clear ha
  by_cases h1 : capsB c = true
  · by_cases h2 : dropB x = true
    · have hh : hafB c x = true := by unfold hafB; rw [h1, h2]; rfl
      obtain ⟨hc, x0, x1⟩ := hafB_iff.1 hh
      have HM := Lib.hid (show tafM c x = tipTo c (zeros c.length) x c.length by unfold tafM; rw [if_pos hh])
      have HH := Lib.hid hh; clear hh
      have HN := Lib.hid HA.out.1
      have hn : n ≤ 6 := by have := HN.out; have := hc.1.2; omega
      have hn1 : 1 ≤ n := by have := HN.out; have := hc.1.1; omega
      have HC := Lib.hid hc; clear hc
      have hmk := run_make_row' (P := Try.prog) 24 3 (.int .i64 0) 8 Try.underlying24 Try.infoInt rfl .i64 .i64 n (by omega) (by omega)
      simp only [madeCells_eq] at hmk
      have HZ := Lib.hid (show zeros n = zeros c.length by rw [HN.out])
      go_enter Try.func8, Try.ntmps8
      go_wp2_with fail
      refine (iAreCaps_any _ _ _ _ c HA.out).mono ?_
      rintro e w1 ⟨rfl, n1⟩
      have N1 := Lib.hid n1; clear n1
      go_wp2_with fail
      refine (isDropCount_any _ _).mono ?_
      rintro e w9 ⟨rfl, rfl⟩
      go_wp2_with fail
      obtain ⟨v3, hv3⟩ : ∃ v, v = (((w1.alloc (.cells (Array.replicate n (Value.int .i64 0)) 3)).alloc (.cells #[.slice (some ⟨w1.heap.size, 0, none⟩) n n] 24)).alloc (.cells (Array.replicate n (Value.int .i64 0)) 3)) := ⟨_, rfl⟩
      rw [← hv3]
      have nv : New w1 v3 := by rw [hv3]; exact (by repeat (first | with_reducible exact New.refl _ | with_reducible assumption | refine New.drewN ?_ _ | refine New.drew ?_ | refine New.alloc ?_ _ | refine New.setCell ?_ (by first | omega | (simp; omega) | (simp; done)) _ | (refine New.trans ?_ (by assumption))))
      have zv : v3.heap.size = w1.heap.size + 1 + 1 + 1 := by rw [hv3]; simp
      have cb : v3.cell? ⟨w1.heap.size + 1, 0, none⟩ = some (.slice (some ⟨w1.heap.size, 0, none⟩) n n) := by rw [hv3]; simp [go_sem]
      have o1 : Own v3 w1.heap.size (w1.heap.size + 1) (some ⟨w1.heap.size, 0, none⟩) n n (zeros n) := by
        rw [hv3]
        exact (made_own w1 n (by omega)).new (by rw [List.toArray_replicate]; exact (by repeat (first | with_reducible exact New.refl _ | with_reducible assumption | refine New.drewN ?_ _ | refine New.drew ?_ | refine New.alloc ?_ _ | refine New.setCell ?_ (by first | omega | (simp; omega) | (simp; done)) _ | (refine New.trans ?_ (by assumption)))))
      have o2 : Own v3 (w1.heap.size + 1 + 1) (w1.heap.size + 1 + 1 + 1) (some ⟨w1.heap.size + 1 + 1, 0, none⟩) n n (zeros n) := by
        have q := made_own ((w1.alloc (.cells (Array.replicate n (Value.int .i64 0)) 3)).alloc (.cells #[.slice (some ⟨w1.heap.size, 0, none⟩) n n] 24)) n (by omega)
        rw [List.toArray_replicate, ← hv3] at q
        simpa only [World.size_alloc] using q
      have NV := Lib.hid nv; clear nv
      have zw := N1.out.size
      clear hv3
      refine (passDrops_any _ (fun b => b = w1.heap.size) (TipsIn c x n (w1.heap.size + 1) w1.heap.size) _ _ _ _ _ _ c (zeros c.length) x 33 #[.pointer (some ⟨w1.heap.size + 1, 0, none⟩)] ((HA.out.new N1.out).new NV.out) (HZ.out ▸ o2.ints) HC.out (zeros_ok HC.out) x0 (by omega)
        (fun b hb => by omega) (fun b hb e => by have := HA.out.blk (by omega) hb; omega) ⟨cb, by rw [tipsUp_zero, ← HZ.out]; exact o1⟩
        (fun k v v' hi hk => ⟨(Below.cell hk (by simp; omega)).trans hi.1, hi.2.below hk (by omega)⟩) (tipsSay_tells HC.out HN.out (by omega)) tipsSay_enters).mono ?_
      rintro e w4 ⟨_, _, _, rfl, _, c4, i4⟩
      have c0 := i4.1
      have o4 := Lib.hid i4.2
      have N4 := Lib.hid (Chg.new (N1.out.trans NV.out) c4 (fun i hi => by omega))
      have z4 : w1.heap.size < w4.heap.size := by have := c4.size; omega
      clear i4 c4 o1 o2 cb
      go_wp2
      go_ret2
      rw [HM.out, HH.out, ← tipsUp_lead HC.out]
      exact ⟨_, _, _, rfl, o4.out.mono (by omega) (by omega), N4.out⟩
    · have h2f : dropB x = false := by simpa using h2
      have hf : hafB c x = false := by unfold hafB; rw [h2f]; simp
      rw [tafM_no' hf, hf]
      go_enter Try.func8, Try.ntmps8
      go_wp2_with fail
      refine (iAreCaps_any _ _ _ _ c HA.out).mono ?_
      rintro e w1 ⟨rfl, n1⟩
      go_wp2_with fail
      refine (isDropCount_any _ _).mono ?_
      rintro e w9 ⟨rfl, rfl⟩
      go_wp2
      go_ret2
      exact ⟨_, _, _, rfl, Own.nil _ _ _, n1⟩
  · have h1f : capsB c = false := by simpa using h1
    have hf : hafB c x = false := by unfold hafB; rw [h1f]; rfl
    rw [tafM_no' hf, hf]
    go_enter Try.func8, Try.ntmps8
    go_wp2_with fail
    refine (iAreCaps_any _ _ _ _ c HA.out).mono ?_
    rintro e w1 ⟨rfl, n1⟩
    go_wp2
    go_ret2
    exact ⟨_, _, _, rfl, Own.nil _ _ _, n1⟩

set_option maxRecDepth 100000 in
theorem iTipsAtDrop_any (w : World) (aa : Option Addr) (n ca : Nat) (c : List Int) (x : Int) (ha : Ints w aa n ca c) :
    Calls Try.prog 10 #[.slice aa n ca, .int .i64 x] w fun e w' => e = .returned (.tuple #[.int .i64 (tadI c x), .bool (tadB c x)]) ∧ New w w' := by
  have HA := Lib.hid ha; clear ha
  by_cases h1 : capsB c = true
  · by_cases h2 : dropB x = true
    · by_cases h3 : x = 0
      · subst h3
        have hf : tadB c 0 = false := by unfold tadB; rw [show inB 1 1000000 0 = false from rfl]; simp
        have HM := Lib.hid (show tadM c 0 = 0 by unfold tadM; rw [if_neg (by rw [hf]; decide)])
        go_enter Try.func10, Try.ntmps10
        go_wp2_with fail
        refine (iAreCaps_any _ _ _ _ c HA.out).mono ?_
        rintro e w1 ⟨rfl, n1⟩
        go_wp2_with fail
        refine (isDropCount_any _ _).mono ?_
        rintro e w9 ⟨rfl, rfl⟩
        go_wp2
        go_ret2
        exact ⟨by unfold tadI; rw [HM.out, hf]; rfl, n1⟩
      · have hx : 0 ≤ x ∧ x ≤ 1000000 := inB_iff.1 h2
        obtain ⟨x0, x1⟩ := hx
        have hh : tadB c x = true := by unfold tadB; rw [h1, inB_iff.2 (show 1 ≤ x ∧ x ≤ 1000000 by omega)]; rfl
        obtain ⟨hc, _, _⟩ := tadB_iff.1 hh
        have h4 : (x == 0) = false := by simpa using h3
        have HM := Lib.hid (show tadM c x = lead (fun j => carK c (rstTo c (zeros c.length) (x - 1) c.length) 1 (j + 1) != 0) c.length by unfold tadM; rw [if_pos hh]; exact tips_lead hc (by omega))
        have HH := Lib.hid hh; clear hh
        have HN := Lib.hid HA.out.1
        have hn : n ≤ 6 := by have := HN.out; have := hc.1.2; omega
        have hn1 : 1 ≤ n := by have := HN.out; have := hc.1.1; omega
        have HR := Lib.hid (rst_held (n := x - 1) hc (zeros_ok hc) (by omega))
        have HC := Lib.hid hc; clear hc
        have hmk := run_make_row' (P := Try.prog) 24 3 (.int .i64 0) 8 Try.underlying24 Try.infoInt rfl .i64 .i64 n (by omega) (by omega)
        simp only [madeCells_eq] at hmk
        have HZ := Lib.hid (show zeros n = zeros c.length by rw [HN.out])
        have w9 : IntKind.i64.wrap (x - 1) = x - 1 := IntWalk.i64_in _ (by omega)
        go_enter Try.func10, Try.ntmps10
        go_wp2_with fail
        refine (iAreCaps_any _ _ _ _ c HA.out).mono ?_
        rintro e w1 ⟨rfl, n1⟩
        have N1 := Lib.hid n1; clear n1
        go_wp2_with fail
        refine (isDropCount_any _ _).mono ?_
        rintro e w8 ⟨rfl, rfl⟩
        go_wp2_with fail
        refine (passQuiet_any _ _ _ _ _ _ _ c (zeros c.length) (x - 1) (HA.out.new (by repeat (first | with_reducible exact New.refl _ | with_reducible assumption | refine New.drewN ?_ _ | refine New.drew ?_ | refine New.alloc ?_ _ | refine New.setCell ?_ (by first | omega | (simp; omega) | (simp; done)) _ | (refine New.trans ?_ (by assumption))))) (HZ.out ▸ (made_own _ _ (by omega)).ints) HC.out (zeros_ok HC.out) (by omega) (by omega)).mono ?_
        rintro e w4 ⟨oa, on, oc, rfl, o1, n1⟩
        have N4 := Lib.hid (New.trans (show New w _ from (by repeat (first | with_reducible exact New.refl _ | with_reducible assumption | refine New.drewN ?_ _ | refine New.drew ?_ | refine New.alloc ?_ _ | refine New.setCell ?_ (by first | omega | (simp; omega) | (simp; done)) _ | (refine New.trans ?_ (by assumption))))) n1); clear n1
        have O1 := Lib.hid o1.ints; clear o1
        go_wp2_with fail
        obtain ⟨v3, hv3⟩ : ∃ v, v = w4.alloc (.cells #[.int .i64 0] 3) := ⟨_, rfl⟩
        rw [← hv3]
        have nv : New w4 v3 := by rw [hv3]; exact (by repeat (first | with_reducible exact New.refl _ | with_reducible assumption | refine New.drewN ?_ _ | refine New.drew ?_ | refine New.alloc ?_ _ | refine New.setCell ?_ (by first | omega | (simp; omega) | (simp; done)) _ | (refine New.trans ?_ (by assumption))))
        have zv : v3.heap.size = w4.heap.size + 1 := by rw [hv3]; simp
        have cb : v3.cell? ⟨w4.heap.size, 0, none⟩ = some (.int .i64 ((0 : Nat) : Int)) := by rw [hv3]; simp [go_sem]
        have fb : v3.frozen? ⟨w4.heap.size, 0, none⟩ = false := by rw [hv3]; simp [go_sem]
        have NV := Lib.hid nv; clear nv
        have zw := N4.out.size
        clear hv3
        refine (passDrops_any _ (fun b => b = w4.heap.size) (CountIn w4.heap.size) _ _ _ _ _ _ c (rstTo c (zeros c.length) (x - 1) c.length) 1 34 #[.pointer (some ⟨w4.heap.size, 0, none⟩)] ((HA.out.new N4.out).new NV.out) (O1.out.new NV.out) HC.out HR.out (by omega) (by omega)
          (fun b hb => by omega) (fun b hb e => by have := HA.out.blk (by omega) hb; omega) ⟨cb, fb⟩
          (fun k v v' hi hk => ⟨(Below.cell hk (by simp; omega)).trans hi.1, (Below.frozen hk (by simp; omega)).trans hi.2⟩) (dropsSay_tells HC.out) dropsSay_enters).mono ?_
        rintro e w5 ⟨_, _, _, rfl, _, c5, i5⟩
        have c0 := i5.1
        have N5 := Lib.hid (Chg.new (N4.out.trans NV.out) c5 (fun i hi => by omega))
        have z5 : w4.heap.size < w5.heap.size := by have := c5.size; omega
        clear i5 c5 cb fb
        rw [← HM.out] at c0
        go_wp2
        go_ret2
        exact ⟨by unfold tadI; rw [HH.out]; rfl, N5.out⟩
    · have h2f : dropB x = false := by simpa using h2
      have hf : tadB c x = false := by
        unfold tadB
        rw [inB_false.2 (fun h => by have := inB_false.1 h2f; omega)]; simp
      have HM := Lib.hid (show tadM c x = 0 by unfold tadM; rw [if_neg (by rw [hf]; decide)])
      go_enter Try.func10, Try.ntmps10
      go_wp2_with fail
      refine (iAreCaps_any _ _ _ _ c HA.out).mono ?_
      rintro e w1 ⟨rfl, n1⟩
      go_wp2_with fail
      refine (isDropCount_any _ _).mono ?_
      rintro e w9 ⟨rfl, rfl⟩
      go_wp2
      go_ret2
      exact ⟨by unfold tadI; rw [HM.out, hf]; rfl, n1⟩
  · have h1f : capsB c = false := by simpa using h1
    have hf : tadB c x = false := by unfold tadB; rw [h1f]; rfl
    have HM := Lib.hid (show tadM c x = 0 by unfold tadM; rw [if_neg (by rw [hf]; decide)])
    go_enter Try.func10, Try.ntmps10
    go_wp2_with fail
    refine (iAreCaps_any _ _ _ _ c HA.out).mono ?_
    rintro e w1 ⟨rfl, n1⟩
    go_wp2
    go_ret2
    exact ⟨by unfold tadI; rw [HM.out, hf]; rfl, n1⟩
end Go.Proofs.Ytbgbglalibjncaa
