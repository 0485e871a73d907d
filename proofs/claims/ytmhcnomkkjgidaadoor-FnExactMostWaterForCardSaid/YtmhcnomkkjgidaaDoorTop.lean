/- How often the highest chamber is filled: what the water used comes to. -/
import Derived.Test.YtmhcnomkkjgidaaDoorUfM
import Derived.Test.YtmhcnomkkjgidaaDoorLtD
import Derived.IntWalk
namespace Go.Proofs.YtmhcnomkkjgidaaDoor
open Go.RowKit

/-- The state behind a list of ships. -/
def runL (L : List Int) (s : LkS) (l : List UInt8) : LkS := l.foldl (fun st b => shipK L st (b == 117)) s
theorem stT_take (L : List Int) (F : List Bool) (s : ByteArray) (i : Nat) (hi : i ≤ s.size) : stT L F s i = runL L (newK F L.length) (s.data.toList.take i) := by
  induction i with
  | zero => rfl
  | succ i ih =>
    have hl : i < s.data.toList.length := by simp; omega
    have hb : s.data.toList[i]'hl = byA s i := by unfold byA; rw [List.getD_eq_getElem?_getD, List.getElem?_eq_getElem hl]; rfl
    rw [List.take_add_one, List.getElem?_eq_getElem hl, hb]
    unfold runL at ih ⊢
    rw [List.foldl_append, ← ih (by omega)]
    rfl
theorem stE_run (L : List Int) (F : List Bool) (s : ByteArray) : stE L F s = runL L (newK F L.length) s.data.toList := by
  unfold stE
  rw [stT_take L F s s.size (Nat.le_refl _), List.take_of_length_le (by simp)]

/-- How often ships fill the highest chamber. -/
def topN : Bool → List UInt8 → Nat
  | _, [] => 0
  | full, b :: r => (if b == 117 then 1 else if full then 0 else 1) + topN (b == 117) r

theorem fill_other {L : List Int} {s : LkS} {i h : Nat} (hi : i < h) : (fillK L s i).F[h]?.getD false = s.F[h]?.getD false ∧ (fillK L s i).C[h + 1]?.getD 0 = s.C[h + 1]?.getD 0 := by
  unfold fillK
  split
  · exact ⟨rfl, rfl⟩
  · simp only [fillL]
    rw [List.getElem?_set_ne (by omega), List.getElem?_set_ne (by omega)]
    exact ⟨rfl, rfl⟩
theorem empt_other {L : List Int} {s : LkS} {i h : Nat} (hi : i < h) : (emptK L s i).F[h]?.getD false = s.F[h]?.getD false ∧ (emptK L s i).C[h + 1]?.getD 0 = s.C[h + 1]?.getD 0 := by
  unfold emptK
  split
  · simp only [emptL]
    rw [List.getElem?_set_ne (by omega), List.getElem?_set_ne (by omega)]
    exact ⟨rfl, rfl⟩
  · exact ⟨rfl, rfl⟩
theorem pass_other {L : List Int} {s : LkS} {i h : Nat} {up : Bool} (hi : i < h) : (passK L s i up).F[h]?.getD false = s.F[h]?.getD false ∧ (passK L s i up).C[h + 1]?.getD 0 = s.C[h + 1]?.getD 0 := by
  unfold passK
  split
  · exact ⟨(fill_other hi).1.trans (empt_other hi).1, (fill_other hi).2.trans (empt_other hi).2⟩
  · exact ⟨(empt_other hi).1.trans (fill_other hi).1, (empt_other hi).2.trans (fill_other hi).2⟩
theorem empt_top {L : List Int} {s : LkS} {h : Nat} (ok : LkOk (h + 1) s) : (emptK L s h).F[h]?.getD false = false ∧ (emptK L s h).C[h + 1]?.getD 0 = s.C[h + 1]?.getD 0 := by
  have hf := ok.f
  unfold emptK
  split
  · simp only [emptL]
    rw [List.getElem?_set_self (by omega), List.getElem?_set_ne (by omega)]
    exact ⟨rfl, rfl⟩
  · rename_i q
    exact ⟨by simpa using q, rfl⟩
theorem fill_top {L : List Int} {s : LkS} {h : Nat} (ok : LkOk (h + 1) s) : (fillK L s h).F[h]?.getD false = true ∧ (fillK L s h).C[h + 1]?.getD 0 = if s.F[h]?.getD false = true then s.C[h + 1]?.getD 0 else wrap64 (s.C[h + 1]?.getD 0 - L[h]?.getD 0) := by
  have hf := ok.f
  have hc := ok.c
  unfold fillK
  split
  · rename_i q
    exact ⟨q, rfl⟩
  · simp only [fillL]
    rw [List.getElem?_set_self (by omega), List.getElem?_set_self (by omega)]
    exact ⟨rfl, rfl⟩
theorem pass_top {L : List Int} {s : LkS} {h : Nat} (ok : LkOk (h + 1) s) (up : Bool) :
    (passK L s h up).F[h]?.getD false = up ∧ (passK L s h up).C[h + 1]?.getD 0 = if up = false ∧ s.F[h]?.getD false = true then s.C[h + 1]?.getD 0 else wrap64 (s.C[h + 1]?.getD 0 - L[h]?.getD 0) := by
  unfold passK
  cases up
  · simp only [Bool.false_eq_true, if_false]
    have a := fill_top (L := L) ok
    have b := empt_top (L := L) (ok.fillK L h)
    refine ⟨b.1, b.2.trans (a.2.trans ?_)⟩
    simp
  · simp only [if_true]
    have a := empt_top (L := L) ok
    have b := fill_top (L := L) (ok.emptK L h)
    refine ⟨b.1, b.2.trans ?_⟩
    rw [a.1, a.2]
    simp
theorem shipTo_up {L : List Int} {s : LkS} {h : Nat} (k : Nat) (hk : k ≤ h) :
    (shipTo L s true k).F[h]?.getD false = s.F[h]?.getD false ∧ (shipTo L s true k).C[h + 1]?.getD 0 = s.C[h + 1]?.getD 0 := by
  induction k with
  | zero => exact ⟨rfl, rfl⟩
  | succ k ih =>
    have r := ih (by omega)
    have q := pass_other (L := L) (s := shipTo L s true k) (up := true) (show k < h by omega)
    exact ⟨q.1.trans r.1, q.2.trans r.2⟩
theorem shipTo_down {L : List Int} {s : LkS} {h : Nat} (hL : L.length = h + 1) (k : Nat) (hk : k ≤ h) :
    (shipTo L s false (k + 1)).F[h]?.getD false = (passK L s h false).F[h]?.getD false ∧ (shipTo L s false (k + 1)).C[h + 1]?.getD 0 = (passK L s h false).C[h + 1]?.getD 0 := by
  induction k with
  | zero =>
    have e : shipTo L s false 1 = passK L s h false := by
      show passK L s (lockAt L.length false 0) false = _
      unfold lockAt
      rw [hL]; rfl
    rw [e]; exact ⟨rfl, rfl⟩
  | succ k ih =>
    have r := ih (by omega)
    have e : shipTo L s false (k + 1 + 1) = passK L (shipTo L s false (k + 1)) (lockAt L.length false (k + 1)) false := rfl
    have hlt : lockAt L.length false (k + 1) < h := by unfold lockAt; rw [if_neg (by decide), hL]; omega
    have q := pass_other (L := L) (s := shipTo L s false (k + 1)) (up := false) hlt
    rw [e]
    exact ⟨q.1.trans r.1, q.2.trans r.2⟩
theorem ship_top {L : List Int} {s : LkS} {h : Nat} (hL : L.length = h + 1) (ok : LkOk (h + 1) s) (up : Bool) :
    (shipK L s up).F[h]?.getD false = up ∧ (shipK L s up).C[h + 1]?.getD 0 = if up = false ∧ s.F[h]?.getD false = true then s.C[h + 1]?.getD 0 else wrap64 (s.C[h + 1]?.getD 0 - L[h]?.getD 0) := by
  unfold shipK
  cases up
  · rw [hL]
    have a := shipTo_down (s := s) hL h (Nat.le_refl _)
    have b := pass_top (L := L) ok false
    exact ⟨a.1.trans b.1, a.2.trans b.2⟩
  · rw [hL]
    have a := shipTo_up (L := L) (s := s) h (Nat.le_refl _)
    have e : shipTo L s true (h + 1) = passK L (shipTo L s true h) h true := rfl
    rw [e]
    have b := pass_top (L := L) (ok.shipTo L true h |> fun q => q) true
    rw [a.2] at b
    refine ⟨b.1, b.2.trans ?_⟩
    simp
theorem wrap64_small {x : Int} (h1 : -1000000 ≤ x) (h2 : x ≤ 1000000) : wrap64 x = x := by unfold wrap64; omega
theorem times_small {t : Int} {c : Nat} (h1 : 0 ≤ t) (h2 : t ≤ 20) (hc : c ≤ 1000) : 0 ≤ t * (c : Int) ∧ t * (c : Int) ≤ 20000 := by
  constructor
  · exact Int.mul_nonneg h1 (by omega)
  · calc t * (c : Int) ≤ 20 * (c : Int) := Int.mul_le_mul_of_nonneg_right h2 (by omega)
      _ ≤ 20000 := by omega
theorem run_top {L : List Int} {h : Nat} (hL : L.length = h + 1) (t : Int) (ht : t = L[h]?.getD 0) (h1 : 0 ≤ t) (h2 : t ≤ 20) : ∀ (l : List UInt8) (s : LkS) (c : Nat), LkOk (h + 1) s → c + l.length ≤ 1000 →
    s.C[h + 1]?.getD 0 = -(t * (c : Int)) → (runL L s l).C[h + 1]?.getD 0 = -(t * ((c + topN (s.F[h]?.getD false) l : Nat) : Int))
  | [], s, c, _, _, hc => by simpa [runL, topN] using hc
  | b :: r, s, c, ok, hl, hc => by
    have q := ship_top hL ok (b == 117)
    have ok2 : LkOk (h + 1) (shipK L s (b == 117)) := by have := ok.shipTo L (b == 117) L.length; exact this
    have e : runL L s (b :: r) = runL L (shipK L s (b == 117)) r := rfl
    have hlr : (b :: r).length = r.length + 1 := rfl
    rw [e]
    cases hb : (b == 117) <;> rw [hb] at q ok2
    · cases hf : s.F[h]?.getD false
      · rw [hf] at q
        have hw : wrap64 (s.C[h + 1]?.getD 0 - L[h]?.getD 0) = -(t * ((c + 1 : Nat) : Int)) := by
          rw [hc, ← ht]
          have m := times_small (c := c) h1 h2 (by omega)
          rw [wrap64_small (by omega) (by omega)]
          push_cast
          rw [Int.mul_add]; omega
        have := run_top hL t ht h1 h2 r _ (c + 1) ok2 (by omega) (by rw [q.2]; simpa using hw)
        rw [this, q.1]
        simp only [topN, hb]
        simp
        rw [Int.add_assoc]
      · rw [hf] at q
        have := run_top hL t ht h1 h2 r _ c ok2 (by omega) (by rw [q.2]; simpa using hc)
        rw [this, q.1]
        simp only [topN, hb]
        simp
    · have hw : wrap64 (s.C[h + 1]?.getD 0 - L[h]?.getD 0) = -(t * ((c + 1 : Nat) : Int)) := by
        rw [hc, ← ht]
        have m := times_small (c := c) h1 h2 (by omega)
        rw [wrap64_small (by omega) (by omega)]
        push_cast
        rw [Int.mul_add]; omega
      have := run_top hL t ht h1 h2 r _ (c + 1) ok2 (by omega) (by rw [q.2]; simpa using hw)
      rw [this, q.1]
      simp only [topN, hb]
      simp
      rw [Int.add_assoc]
theorem topN_le : ∀ (l : List UInt8) (full : Bool), topN full l ≤ l.length
  | [], _ => Nat.le_refl _
  | b :: r, full => by
    have := topN_le r (b == 117)
    simp only [topN, List.length_cons]
    split
    · omega
    · split <;> omega

/-- The water that traffic uses: the lift of the highest chamber, as often as it is filled. -/
theorem wus_top {L : List Int} {F : List Bool} {s : ByteArray} (hu : usB L F s = true) : wusM L F s = (L[L.length - 1]?.getD 0) * (topN (F[L.length - 1]?.getD false) s.data.toList : Nat) := by
  obtain ⟨hf, ht⟩ := usB_iff.1 hu
  obtain ⟨⟨hl1, hl6⟩, hl2, hb⟩ := fliB_iff.1 hf
  obtain ⟨h, hL⟩ : ∃ h, L.length = h + 1 := ⟨L.length - 1, by omega⟩
  have hs := trB_le ht
  have hsl : s.data.toList.length = s.size := by simp
  have hbb := hb h (by omega)
  have ok := LkOk.newK F
  rw [hl2] at ok
  have ok2 : LkOk (h + 1) (newK F L.length) := by rw [hL] at ok ⊢; exact ok
  have q := run_top hL _ rfl (by omega) hbb.2 s.data.toList (newK F L.length) 0 ok2 (by omega) (by simp [newK, hL])
  rw [hL] at q
  rw [wusM_yes hu, stE_run, hL, q]
  rw [Int.neg_neg, Nat.zero_add]
  show IntKind.i64.wrap (L[h]?.getD 0 * ((topN (F[h]?.getD false) s.data.toList : Nat) : Int)) = _
  have hc : topN (F[h]?.getD false) s.data.toList ≤ s.data.toList.length := topN_le _ _
  have m := times_small (t := L[h]?.getD 0) (c := topN (F[h]?.getD false) s.data.toList) (by omega) hbb.2 (by omega)
  rw [IntWalk.i64_in _ (by omega)]
  rfl

def gtL : Nat → Bool → Nat → Nat → List UInt8
  | 0, _, _, _ => []
  | f + 1, full, u, d => if (0 < d ∧ full = true) ∨ u < d then 100 :: gtL f false u (d - 1) else 117 :: gtL f true (u - 1) d
theorem gtA_list : ∀ (f : Nat) (full : Bool) (u d : Nat) (o : ByteArray), (gtA f full u d o).data.toList = o.data.toList ++ gtL f full u d
  | 0, _, _, _, o => by simp [gtA, gtL]
  | f + 1, full, u, d, o => by
    unfold gtA gtL
    split
    · rw [gtA_list f]; simp
    · rw [gtA_list f]; simp
theorem gtL_len : ∀ (f : Nat) (full : Bool) (u d : Nat), (gtL f full u d).length = f
  | 0, _, _, _ => rfl
  | f + 1, full, u, d => by
    unfold gtL
    split <;> simp [gtL_len f]
theorem gtL_ships : ∀ (f : Nat) (full : Bool) (u d : Nat), (gtL f full u d).all isShip = true
  | 0, _, _, _ => rfl
  | f + 1, full, u, d => by
    unfold gtL
    split
    · rw [List.all_cons, gtL_ships f]; rfl
    · rw [List.all_cons, gtL_ships f]; rfl
theorem gt_top : ∀ (f : Nat) (full : Bool) (u d : Nat), f = u + d → topN full (gtL f full u d) = tblN full u d
  | 0, full, u, d, h => by
    obtain rfl : u = 0 := by omega
    obtain rfl : d = 0 := by omega
    simp [gtL, topN, tblN]
  | f + 1, full, u, d, h => by
    unfold gtL
    split
    · rename_i c
      have hd : 0 < d := by rcases c with c | c <;> omega
      show (if ((100 : UInt8) == 117) = true then 1 else if full = true then 0 else 1) + topN ((100 : UInt8) == 117) (gtL f false u (d - 1)) = _
      rw [show ((100 : UInt8) == 117) = false from rfl, gt_top f false u (d - 1) (by omega)]
      unfold tblN
      cases full
      · simp at c ⊢; omega
      · simp; omega
    · rename_i c
      show (if ((117 : UInt8) == 117) = true then 1 else if full = true then 0 else 1) + topN ((117 : UInt8) == 117) (gtL f true (u - 1) d) = _
      rw [show ((117 : UInt8) == 117) = true from rfl, gt_top f true (u - 1) d (by omega)]
      unfold tblN
      cases full
      · simp at c ⊢; omega
      · simp at c ⊢; omega
/-- All ships down, then all ships up. -/
def mxL (u d : Nat) : List UInt8 := Lib.repeatL [100] d ++ Lib.repeatL [117] u
theorem up_top : ∀ (u : Nat) (full : Bool), topN full (Lib.repeatL [117] u) = u
  | 0, _ => rfl
  | u + 1, full => by
    show (if ((117 : UInt8) == 117) = true then 1 else if full = true then 0 else 1) + topN ((117 : UInt8) == 117) (Lib.repeatL [117] u) = _
    rw [up_top u]; simp; omega
theorem mx_top0 (u : Nat) : ∀ (d : Nat), topN false (mxL u d) = u + d
  | 0 => up_top u false
  | d + 1 => by
    show (if ((100 : UInt8) == 117) = true then 1 else if false = true then 0 else 1) + topN ((100 : UInt8) == 117) (mxL u d) = _
    rw [show ((100 : UInt8) == 117) = false from rfl, mx_top0 u d]; simp; omega
theorem mx_top (u d : Nat) (full : Bool) : topN full (mxL u d) = u + d - (if full = true ∧ 0 < d then 1 else 0) := by
  cases full
  · rw [mx_top0]; simp
  · cases d with
    | zero => show topN true (Lib.repeatL [117] u) = _; rw [up_top]; simp
    | succ d =>
      show (if ((100 : UInt8) == 117) = true then 1 else if true = true then 0 else 1) + topN ((100 : UInt8) == 117) (mxL u d) = _
      rw [show ((100 : UInt8) == 117) = false from rfl, mx_top0 u d]; simp
theorem repeat_ships {b : UInt8} (hb : isShip b = true) : ∀ (n : Nat), (Lib.repeatL [b] n).all isShip = true
  | 0 => rfl
  | n + 1 => by
    show (b :: Lib.repeatL [b] n).all isShip = true
    rw [List.all_cons, hb, repeat_ships hb n]; rfl
theorem mx_len (u d : Nat) : (mxL u d).length = u + d := by
  unfold mxL
  rw [List.length_append, Lib.repeatL_length, Lib.repeatL_length]; simp; omega
theorem mx_tr (u d : Nat) (h : u + d ≤ 40) : trB ⟨(mxL u d).toArray⟩ = true := by
  unfold trB
  have hz : (⟨(mxL u d).toArray⟩ : ByteArray).size = u + d := mx_len u d
  rw [hz]
  show (decide (u + d ≤ 40) && (mxL u d).all isShip) = true
  unfold mxL
  rw [List.all_append, repeat_ships rfl, repeat_ships rfl]
  simp [h]
theorem ltM_tr {L : List Int} {F : List Bool} {x y : Int} (h : ltB L F x y = true) : trB (ltM L F x y) = true := by
  obtain ⟨_, u, d, rfl, rfl, hu, hd⟩ := ltB_parts h
  have e : (ltM L F (u : Int) (d : Int)).data.toList = gtL (u + d) (F[L.length - 1]?.getD false) u d := by
    unfold ltM; rw [if_pos h, gtA_list]; rfl
  have hz : (ltM L F (u : Int) (d : Int)).size = u + d := by
    have : (ltM L F (u : Int) (d : Int)).data.toList.length = u + d := by rw [e, gtL_len]
    simpa using this
  unfold trB
  rw [hz, e, gtL_ships]
  simp; omega
end Go.Proofs.YtmhcnomkkjgidaaDoor
