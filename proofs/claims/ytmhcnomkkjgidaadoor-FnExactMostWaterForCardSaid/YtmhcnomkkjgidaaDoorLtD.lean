/- The first text of so many ships up and down that uses the least water. -/
import Derived.Test.YtmhcnomkkjgidaaDoorLkF
namespace Go.Proofs.YtmhcnomkkjgidaaDoor
open Go.RowKit

theorem l1Most_any (w : World) (a b : Int) :
    Calls Tryd.prog 66 #[.int .i64 a, .int .i64 b] w fun e w' => e = .returned (.int .i64 (max a b)) ∧ w = w' := by
  by_cases h : b < a
  · go_enter Tryd.func66, Tryd.ntmps66
    go_wp2
    go_ret
    exact ⟨ret_int (by omega), rfl⟩
  · go_enter Tryd.func66, Tryd.ntmps66
    go_wp2
    go_ret
    exact ⟨ret_int (by omega), rfl⟩

/-- The least number of fillings of the highest chamber. -/
def tblN (full : Bool) (u d : Nat) : Nat := u + (d - (u + (if full = true then 1 else 0)))
/-- The ships one after the other, behind those of o. -/
def gtA : Nat → Bool → Nat → Nat → ByteArray → ByteArray
  | 0, _, _, _, o => o
  | f + 1, full, u, d, o => if (0 < d ∧ full = true) ∨ u < d then gtA f false u (d - 1) (o ++ ⟨#[100]⟩) else gtA f true (u - 1) d (o ++ ⟨#[117]⟩)
theorem gtA_down {full : Bool} {u d : Nat} {o : ByteArray} (hd : 0 < d) (h : full = true ∨ u < d) : gtA (u + d) full u d o = gtA (u + (d - 1)) false u (d - 1) (o ++ ⟨#[100]⟩) := by
  rw [show u + d = (u + (d - 1)) + 1 by omega]
  rw [gtA, if_pos]
  rcases h with h | h
  · exact .inl ⟨hd, h⟩
  · exact .inr h
theorem gtA_up {full : Bool} {u d : Nat} {o : ByteArray} (hu : 0 < u) (h1 : 0 < d → full = false) (h2 : d ≤ u) : gtA (u + d) full u d o = gtA ((u - 1) + d) true (u - 1) d (o ++ ⟨#[117]⟩) := by
  rw [show u + d = ((u - 1) + d) + 1 by omega]
  rw [gtA, if_neg]
  rintro (⟨a, b⟩ | a)
  · rw [h1 a] at b; cases b
  · omega
def ltB (L : List Int) (F : List Bool) (x y : Int) : Bool := (fliB L F && inB 0 10 x) && inB 0 10 y
def ltM (L : List Int) (F : List Bool) (x y : Int) : ByteArray := if ltB L F x y = true then gtA (x.toNat + y.toNat) (F[L.length - 1]?.getD false) x.toNat y.toNat ⟨#[]⟩ else ⟨#[]⟩
theorem ltM_no {L : List Int} {F : List Bool} {x y : Int} (h : ltB L F x y = false) : ltM L F x y = ⟨#[]⟩ := by unfold ltM; rw [if_neg (by rw [h]; decide)]

set_option maxRecDepth 100000 in
theorem loTable_any (w : World) (full : Bool) (u d : Nat) (hu : u ≤ 10) (hd : d ≤ 10) :
    Calls Tryd.prog 47 #[.bool full, .int .i64 u, .int .i64 d] w fun e w' => e = .returned (.int .i64 (tblN full u d : Nat)) ∧ w = w' := by
  cases full
  case true =>
    go_enter Tryd.func47, Tryd.ntmps47
    go_wp2_with fail
    refine (l1Most_any _ _ _).mono ?_
    rintro e w1 ⟨rfl, rfl⟩
    have hw : IntKind.i64.wrap ((u : Int) + max 0 ((d : Int) - ((u : Int) + 1))) = (tblN true u d : Nat) := (IntWalk.i64_in _ (by omega)).trans (by simp [tblN]; omega)
    go_wp2
    go_ret
    exact ⟨ret_int (by first | rfl | (simp [tblN]; omega)), rfl⟩
  case false =>
    go_enter Tryd.func47, Tryd.ntmps47
    go_wp2_with fail
    refine (l1Most_any _ _ _).mono ?_
    rintro e w1 ⟨rfl, rfl⟩
    have hw : IntKind.i64.wrap ((u : Int) + max 0 ((d : Int) - (u : Int))) = (tblN false u d : Nat) := (IntWalk.i64_in _ (by omega)).trans (by simp [tblN]; omega)
    go_wp2
    go_ret
    exact ⟨ret_int (by first | rfl | (simp [tblN]; omega)), rfl⟩

theorem isOneWay_any (w : World) (x : Int) :
    Calls Tryd.prog 49 #[.int .i64 x] w fun e w' => e = .returned (.bool (inB 0 10 x)) ∧ w = w' := by
  by_cases h0 : 0 ≤ x
  · by_cases h1 : x ≤ 10
    · go_enter Tryd.func49, Tryd.ntmps49
      go_wp2
      go_ret
      exact ⟨ret_bool (by simp [inB, h0, h1]), rfl⟩
    · go_enter Tryd.func49, Tryd.ntmps49
      go_wp2
      go_ret
      exact ⟨ret_bool (by simp [inB, h0, h1]), rfl⟩
  · go_enter Tryd.func49, Tryd.ntmps49
    go_wp2
    go_ret
    exact ⟨ret_bool (by simp [inB]; omega), rfl⟩

set_option maxRecDepth 100000 in
theorem loNumbers_any (w : World) (aa ab : Option Addr) (n m ca cb : Nat) (L : List Int) (F : List Bool) (x y : Int) (h1 : Ints w aa n ca L) (h2 : Bools w ab m cb F) :
    Calls Tryd.prog 46 #[.agg #[.slice aa n ca, .slice ab m cb], .int .i64 x, .int .i64 y] w fun e w' => e = .returned (.bool (ltB L F x y)) ∧ New w w' := by
  have HA := Lib.hid h1; clear h1
  have HB := Lib.hid h2; clear h2
  cases hf : fliB L F
  case false =>
    have R := Lib.hid (show ltB L F x y = false by unfold ltB; rw [hf]; rfl)
    have HF := Lib.hid hf; clear hf
    go_enter Tryd.func46, Tryd.ntmps46
    go_wp2_with fail
    refine (sGood_any _ _ _ _ _ _ _ L F (HA.out.new (by repeat (first | with_reducible exact New.refl _ | with_reducible assumption | refine New.drewN ?_ _ | refine New.drew ?_ | refine New.alloc ?_ _ | refine New.setCell ?_ (by first | omega | (simp; omega) | (simp; done)) _ | (refine New.trans ?_ (by assumption))))) (HB.out.new (by repeat (first | with_reducible exact New.refl _ | with_reducible assumption | refine New.drewN ?_ _ | refine New.drew ?_ | refine New.alloc ?_ _ | refine New.setCell ?_ (by first | omega | (simp; omega) | (simp; done)) _ | (refine New.trans ?_ (by assumption)))))).mono ?_
    rintro e w1 ⟨rfl, n1⟩
    rw [HF.out]
    go_wp2
    go_ret
    exact ⟨ret_bool R.out.symm, New.trans (by repeat (first | with_reducible exact New.refl _ | with_reducible assumption | refine New.drewN ?_ _ | refine New.drew ?_ | refine New.alloc ?_ _ | refine New.setCell ?_ (by first | omega | (simp; omega) | (simp; done)) _ | (refine New.trans ?_ (by assumption)))) n1⟩
  case true =>
    have R := Lib.hid (show ltB L F x y = (inB 0 10 x && inB 0 10 y) by unfold ltB; rw [hf]; rfl)
    have HF := Lib.hid hf; clear hf
    cases hx : inB 0 10 x
    case false =>
      have HX := Lib.hid hx; clear hx
      go_enter Tryd.func46, Tryd.ntmps46
      go_wp2_with fail
      refine (sGood_any _ _ _ _ _ _ _ L F (HA.out.new (by repeat (first | with_reducible exact New.refl _ | with_reducible assumption | refine New.drewN ?_ _ | refine New.drew ?_ | refine New.alloc ?_ _ | refine New.setCell ?_ (by first | omega | (simp; omega) | (simp; done)) _ | (refine New.trans ?_ (by assumption))))) (HB.out.new (by repeat (first | with_reducible exact New.refl _ | with_reducible assumption | refine New.drewN ?_ _ | refine New.drew ?_ | refine New.alloc ?_ _ | refine New.setCell ?_ (by first | omega | (simp; omega) | (simp; done)) _ | (refine New.trans ?_ (by assumption)))))).mono ?_
      rintro e w1 ⟨rfl, n1⟩
      rw [HF.out]
      have N1 := Lib.hid (show New w w1 from New.trans (by repeat (first | with_reducible exact New.refl _ | with_reducible assumption | refine New.drewN ?_ _ | refine New.drew ?_ | refine New.alloc ?_ _ | refine New.setCell ?_ (by first | omega | (simp; omega) | (simp; done)) _ | (refine New.trans ?_ (by assumption)))) n1); clear n1
      go_wp2_with fail
      refine (l1In_any _ _ _ _).mono ?_
      rintro e w' ⟨rfl, rfl⟩
      rw [HX.out]
      go_wp2
      go_ret
      exact ⟨ret_bool (by rw [R.out, HX.out]; rfl), N1.out⟩
    case true =>
      have HX := Lib.hid hx; clear hx
      go_enter Tryd.func46, Tryd.ntmps46
      go_wp2_with fail
      refine (sGood_any _ _ _ _ _ _ _ L F (HA.out.new (by repeat (first | with_reducible exact New.refl _ | with_reducible assumption | refine New.drewN ?_ _ | refine New.drew ?_ | refine New.alloc ?_ _ | refine New.setCell ?_ (by first | omega | (simp; omega) | (simp; done)) _ | (refine New.trans ?_ (by assumption))))) (HB.out.new (by repeat (first | with_reducible exact New.refl _ | with_reducible assumption | refine New.drewN ?_ _ | refine New.drew ?_ | refine New.alloc ?_ _ | refine New.setCell ?_ (by first | omega | (simp; omega) | (simp; done)) _ | (refine New.trans ?_ (by assumption)))))).mono ?_
      rintro e w1 ⟨rfl, n1⟩
      rw [HF.out]
      have N1 := Lib.hid (show New w w1 from New.trans (by repeat (first | with_reducible exact New.refl _ | with_reducible assumption | refine New.drewN ?_ _ | refine New.drew ?_ | refine New.alloc ?_ _ | refine New.setCell ?_ (by first | omega | (simp; omega) | (simp; done)) _ | (refine New.trans ?_ (by assumption)))) n1); clear n1
      go_wp2_with fail
      refine (l1In_any _ _ _ _).mono ?_
      rintro e w' ⟨rfl, rfl⟩
      rw [HX.out]
      go_wp2_with fail
      refine (l1In_any _ _ _ _).mono ?_
      rintro e w' ⟨rfl, rfl⟩
      go_wp2
      go_ret
      exact ⟨ret_bool (by rw [R.out, HX.out]; rfl), N1.out⟩

/-- What the numbers say. -/
theorem ltB_parts {L : List Int} {F : List Bool} {x y : Int} (h : ltB L F x y = true) : fliB L F = true ∧ ∃ u d : Nat, x = u ∧ y = d ∧ u ≤ 10 ∧ d ≤ 10 := by
  unfold ltB at h
  rw [Bool.and_eq_true, Bool.and_eq_true, inB_iff, inB_iff] at h
  obtain ⟨⟨a, b, c⟩, d, e⟩ := h
  exact ⟨a, x.toNat, y.toNat, by omega, by omega, by omega, by omega⟩

set_option maxRecDepth 100000 in
set_option maxHeartbeats 1000000 in
theorem iLeastTraffic_any (w : World) (aa ab : Option Addr) (n m ca cb : Nat) (L : List Int) (F : List Bool) (x y : Int) (h1 : Ints w aa n ca L) (h2 : Bools w ab m cb F) :
    Calls Tryd.prog 48 #[.agg #[.slice aa n ca, .slice ab m cb], .int .i64 x, .int .i64 y] w fun e w' => e = .returned (.tuple #[.string (ltM L F x y), .bool (ltB L F x y)]) ∧ New w w' := by
  have hn := h1.len
  have hm := h2.len
  have HA := Lib.hid h1; clear h1
  have HB := Lib.hid h2; clear h2
  cases hf : fliB L F
  case false =>
    have g : ltB L F x y = false := by unfold ltB; rw [hf]; rfl
    rw [g, ltM_no g]
    have HF := Lib.hid hf; clear hf hn hm g
    go_enter Tryd.func48, Tryd.ntmps48
    go_wp2_with fail
    refine (iIsFlight_any _ _ _ _ _ _ _ L F (HA.out.new (by repeat (first | with_reducible exact New.refl _ | with_reducible assumption | refine New.drewN ?_ _ | refine New.drew ?_ | refine New.alloc ?_ _ | refine New.setCell ?_ (by first | omega | (simp; omega) | (simp; done)) _ | (refine New.trans ?_ (by assumption))))) (HB.out.new (by repeat (first | with_reducible exact New.refl _ | with_reducible assumption | refine New.drewN ?_ _ | refine New.drew ?_ | refine New.alloc ?_ _ | refine New.setCell ?_ (by first | omega | (simp; omega) | (simp; done)) _ | (refine New.trans ?_ (by assumption)))))).mono ?_
    rintro e w1 ⟨rfl, n1⟩
    rw [HF.out]
    go_wp2
    go_ret2
    exact ⟨rfl, New.trans (by repeat (first | with_reducible exact New.refl _ | with_reducible assumption | refine New.drewN ?_ _ | refine New.drew ?_ | refine New.alloc ?_ _ | refine New.setCell ?_ (by first | omega | (simp; omega) | (simp; done)) _ | (refine New.trans ?_ (by assumption)))) n1⟩
  case true =>
    cases hx : inB 0 10 x
    case false =>
      have g : ltB L F x y = false := by unfold ltB; rw [hf, hx]; rfl
      rw [g, ltM_no g]
      have HF := Lib.hid hf; clear hf hn hm g
      have HX := Lib.hid hx; clear hx
      go_enter Tryd.func48, Tryd.ntmps48
      go_wp2_with fail
      refine (iIsFlight_any _ _ _ _ _ _ _ L F (HA.out.new (by repeat (first | with_reducible exact New.refl _ | with_reducible assumption | refine New.drewN ?_ _ | refine New.drew ?_ | refine New.alloc ?_ _ | refine New.setCell ?_ (by first | omega | (simp; omega) | (simp; done)) _ | (refine New.trans ?_ (by assumption))))) (HB.out.new (by repeat (first | with_reducible exact New.refl _ | with_reducible assumption | refine New.drewN ?_ _ | refine New.drew ?_ | refine New.alloc ?_ _ | refine New.setCell ?_ (by first | omega | (simp; omega) | (simp; done)) _ | (refine New.trans ?_ (by assumption)))))).mono ?_
      rintro e w1 ⟨rfl, n1⟩
      rw [HF.out]
      have N1 := Lib.hid (show New w w1 from New.trans (by repeat (first | with_reducible exact New.refl _ | with_reducible assumption | refine New.drewN ?_ _ | refine New.drew ?_ | refine New.alloc ?_ _ | refine New.setCell ?_ (by first | omega | (simp; omega) | (simp; done)) _ | (refine New.trans ?_ (by assumption)))) n1); clear n1
      go_wp2_with fail
      refine (isOneWay_any _ _).mono ?_
      rintro e w' ⟨rfl, rfl⟩
      rw [HX.out]
      go_wp2
      go_ret2
      exact ⟨rfl, N1.out⟩
    case true =>
      cases hy : inB 0 10 y
      case false =>
        have g : ltB L F x y = false := by unfold ltB; rw [hf, hx, hy]; rfl
        rw [g, ltM_no g]
        have HF := Lib.hid hf; clear hf hn hm g
        have HX := Lib.hid hx; clear hx
        have HY := Lib.hid hy; clear hy
        go_enter Tryd.func48, Tryd.ntmps48
        go_wp2_with fail
        refine (iIsFlight_any _ _ _ _ _ _ _ L F (HA.out.new (by repeat (first | with_reducible exact New.refl _ | with_reducible assumption | refine New.drewN ?_ _ | refine New.drew ?_ | refine New.alloc ?_ _ | refine New.setCell ?_ (by first | omega | (simp; omega) | (simp; done)) _ | (refine New.trans ?_ (by assumption))))) (HB.out.new (by repeat (first | with_reducible exact New.refl _ | with_reducible assumption | refine New.drewN ?_ _ | refine New.drew ?_ | refine New.alloc ?_ _ | refine New.setCell ?_ (by first | omega | (simp; omega) | (simp; done)) _ | (refine New.trans ?_ (by assumption)))))).mono ?_
        rintro e w1 ⟨rfl, n1⟩
        rw [HF.out]
        have N1 := Lib.hid (show New w w1 from New.trans (by repeat (first | with_reducible exact New.refl _ | with_reducible assumption | refine New.drewN ?_ _ | refine New.drew ?_ | refine New.alloc ?_ _ | refine New.setCell ?_ (by first | omega | (simp; omega) | (simp; done)) _ | (refine New.trans ?_ (by assumption)))) n1); clear n1
        go_wp2_with fail
        refine (isOneWay_any _ _).mono ?_
        rintro e w' ⟨rfl, rfl⟩
        rw [HX.out]
        go_wp2_with fail
        refine (isOneWay_any _ _).mono ?_
        rintro e w' ⟨rfl, rfl⟩
        rw [HY.out]
        go_wp2
        go_ret2
        exact ⟨rfl, N1.out⟩
      case true =>
        have hg : ltB L F x y = true := by unfold ltB; rw [hf, hx, hy]; rfl
        rw [hg]
        obtain ⟨_, u0, d0, rfl, rfl, hu, hd⟩ := ltB_parts hg
        obtain ⟨hl1, hl2, _⟩ := fliB_iff.1 hf
        obtain ⟨T, hT⟩ : ∃ T, T = ltM L F u0 d0 := ⟨_, rfl⟩
        obtain ⟨k, hk⟩ : ∃ k, n = k + 1 := ⟨n - 1, by omega⟩
        have HT := Lib.hid (show gtA (u0 + d0) (F[k]?.getD false) u0 d0 ⟨#[]⟩ = T by
          rw [hT]; unfold ltM; rw [if_pos hg, ← hn, hk]; simp)
        rw [← hT]
        obtain rfl : m = k + 1 := by omega
        subst hk
        have k6 : k ≤ 5 := by omega
        have HF := Lib.hid hf
        have HX := Lib.hid hx; clear hx
        have HY := Lib.hid hy; clear hy
        clear hg hn hm hl1 hl2 hf hT
        obtain ⟨bb, ob, rfl, gb, zb⟩ := HB.out.at (j := k) (by omega)
        obtain ⟨f0, hf0⟩ : ∃ b, b = F[k]?.getD false := ⟨_, rfl⟩
        rw [← hf0] at gb HT
        clear hf0
        go_enter Tryd.func48, Tryd.ntmps48
        go_wp2_with fail
        refine (iIsFlight_any _ _ _ _ _ _ _ L F (HA.out.new (by repeat (first | with_reducible exact New.refl _ | with_reducible assumption | refine New.drewN ?_ _ | refine New.drew ?_ | refine New.alloc ?_ _ | refine New.setCell ?_ (by first | omega | (simp; omega) | (simp; done)) _ | (refine New.trans ?_ (by assumption))))) (HB.out.new (by repeat (first | with_reducible exact New.refl _ | with_reducible assumption | refine New.drewN ?_ _ | refine New.drew ?_ | refine New.alloc ?_ _ | refine New.setCell ?_ (by first | omega | (simp; omega) | (simp; done)) _ | (refine New.trans ?_ (by assumption)))))).mono ?_
        rintro e w1 ⟨rfl, n1⟩
        have c1 : w1.cell? ⟨w.heap.size, 1, none⟩ = some (.slice (some ⟨bb, ob, none⟩) (k + 1) cb) := n1.cell (by simp [go_sem])
        have N1 := Lib.hid (show New w w1 from New.trans (by repeat (first | with_reducible exact New.refl _ | with_reducible assumption | refine New.drewN ?_ _ | refine New.drew ?_ | refine New.alloc ?_ _ | refine New.setCell ?_ (by first | omega | (simp; omega) | (simp; done)) _ | (refine New.trans ?_ (by assumption)))) n1); clear n1
        rw [HF.out]
        have gb1 := N1.out.cell gb
        clear gb
        go_wp2_with fail
        refine (isOneWay_any _ _).mono ?_
        rintro e w' ⟨rfl, rfl⟩
        rw [HX.out]
        go_wp2_with fail
        refine (isOneWay_any _ _).mono ?_
        rintro e w' ⟨rfl, rfl⟩
        rw [HY.out]
        go_wp2_with fail
        go_loopw [1, 2, 8, 9] (fun a b c s wr => ∃ (u d : Nat) (full : Bool) (o : ByteArray), (u ≤ 10 ∧ d ≤ 10 ∧ o.size + (u + d) ≤ 20) ∧ a = .int .i64 u ∧ b = .int .i64 d ∧ c = .bool full ∧ s = .string o ∧ gtA (u + d) full u d o = T ∧ wr = w1) (fun a b _ _ _ => (intOf a).toNat + (intOf b).toNat)
        case atStart => exact ⟨u0, d0, f0, ⟨#[]⟩, ⟨hu, hd, by show 0 + (u0 + d0) ≤ 20; omega⟩, rfl, rfl, rfl, rfl, HT.out, by first | rfl | trivial⟩
        case round =>
          obtain ⟨u, d, full, o, ⟨k1, k2, k3⟩, rfl, rfl, rfl, rfl, hgt, rfl⟩ := hrel
          have GT := Lib.hid hgt; clear hgt
          have q1 : ¬ 9223372036854775807 < o.size + 1 := by omega
          by_cases hz : u + d = 0
          · obtain rfl : u = 0 := by omega
            obtain rfl : d = 0 := by omega
            go_wp2
            go_ret2
            exact ⟨by rw [← GT.out]; rfl, N1.out⟩
          · have hz' : (0 : Int) < (u : Int) + (d : Int) := by omega
            have hwd : 0 < d → IntKind.i64.wrap ((d : Int) - 1) = ((d - 1 : Nat) : Int) := fun h => (IntWalk.i64_in _ (by omega)).trans (by omega)
            have hwu : 0 < u → IntKind.i64.wrap ((u : Int) - 1) = ((u - 1 : Nat) : Int) := fun h => (IntWalk.i64_in _ (by omega)).trans (by omega)
            by_cases hd0 : 0 < d
            · have hdI : (0 : Int) < (d : Int) := by omega
              replace hwd := hwd hd0
              cases full
              case true =>
                clear hwu
                go_wp2
                go_roundw
                case rel => exact ⟨u, d - 1, false, o ++ ⟨#[100]⟩, ⟨k1, by omega, by rw [ByteArray.size_append]; show o.size + 1 + _ ≤ 20; omega⟩, rfl, rfl, rfl, rfl, by rw [← gtA_down hd0 (.inl rfl)]; exact GT.out, by first | rfl | trivial⟩
                case measure => simp [intOf]; omega
              case false =>
                by_cases hlt : u < d
                · have hltI : (u : Int) < (d : Int) := by omega
                  clear hwu
                  go_wp2
                  go_roundw
                  case rel => exact ⟨u, d - 1, false, o ++ ⟨#[100]⟩, ⟨k1, by omega, by rw [ByteArray.size_append]; show o.size + 1 + _ ≤ 20; omega⟩, rfl, rfl, rfl, rfl, by rw [← gtA_down hd0 (.inr hlt)]; exact GT.out, by first | rfl | trivial⟩
                  case measure => simp [intOf]; omega
                · have hltI : ¬ (u : Int) < (d : Int) := by omega
                  replace hwu := hwu (by omega)
                  go_wp2
                  go_roundw
                  case rel => exact ⟨u - 1, d, true, o ++ ⟨#[117]⟩, ⟨by omega, k2, by rw [ByteArray.size_append]; show o.size + 1 + _ ≤ 20; omega⟩, rfl, rfl, rfl, rfl, by rw [← gtA_up (by omega) (fun _ => rfl) (by omega)]; exact GT.out, by first | rfl | trivial⟩
                  case measure => simp [intOf]; omega
            · have hd1 : ¬ (0 : Int) < (d : Int) := by omega
              have hltI : ¬ (u : Int) < (d : Int) := by omega
              replace hwu := hwu (by omega)
              clear hwd
              go_wp2
              go_roundw
              case rel => exact ⟨u - 1, d, true, o ++ ⟨#[117]⟩, ⟨by omega, k2, by rw [ByteArray.size_append]; show o.size + 1 + _ ≤ 20; omega⟩, rfl, rfl, rfl, rfl, by rw [← gtA_up (by omega) (fun h => absurd h (by omega)) (by omega)]; exact GT.out, by first | rfl | trivial⟩
              case measure => simp [intOf]; omega
end Go.Proofs.YtmhcnomkkjgidaaDoor
