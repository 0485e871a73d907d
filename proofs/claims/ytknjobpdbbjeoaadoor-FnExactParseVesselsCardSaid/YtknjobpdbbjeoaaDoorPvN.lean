/- ParseVessels: the program's numbers. -/
import Derived.Test.YtknjobpdbbjeoaaDoorPvM
import Derived.Test.YtknjobpdbbjeoaaDoorShelfS
import Derived.Lib.AppendIntMem
namespace Go.Proofs.YtknjobpdbbjeoaaDoor
open Go.RowKit

theorem eqL (a b : ByteArray) : (a.toList == b.toList) = decide (a = b) := by
  rw [Lib.toList_data, Lib.toList_data, Bool.eq_iff_iff, beq_iff_eq, decide_eq_true_iff]
  exact ⟨fun h => ByteArray.ext (Array.ext' h), fun h => by rw [h]⟩
theorem var_new {w w' : World} {n : String} {cs : Array Value} (h : w.var? Tryd.prog n = some cs) (k : New w w') : w'.var? Tryd.prog n = some cs := by
  unfold World.var? at h ⊢
  cases hg : Tryd.prog.globalNamed n with
  | none => rw [hg] at h; cases h
  | some g =>
    rw [hg] at h
    simp only [Option.bind_some] at h ⊢
    have hlt : g < w.heap.size := by
      by_cases q : g < w.heap.size
      · exact q
      · rw [Array.getElem?_eq_none (by omega)] at h; cases h
    rw [k.block g hlt]; exact h
/-- What the library's functions ask of the variables. -/
structure PmEnv (w : World) : Prop where
  syn : ∃ tp p, w.var? Tryd.prog "strconv.ErrSyntax" = some #[.iface tp p]
  rng : ∃ tp p, w.var? Tryd.prog "strconv.ErrRange" = some #[.iface tp p]
  tab : Lib.TabIs Tryd.prog w "internal/strconv.uint64pow10" .u64 Lib.pow10Tab
theorem PmEnv.new {w w' : World} (h : PmEnv w) (k : New w w') : PmEnv w' :=
  ⟨by obtain ⟨a, b, e⟩ := h.syn; exact ⟨a, b, var_new e k⟩, by obtain ⟨a, b, e⟩ := h.rng; exact ⟨a, b, var_new e k⟩, var_new h.tab k⟩
def okOf : Lib.NumEnd Int → Option Int
  | .ok v => some v
  | _ => none
theorem okOf_eq {x : Lib.NumEnd Int} {v : Int} (h : okOf x = some v) : x = .ok v := by
  cases x with
  | ok u => simp only [okOf, Option.some.injEq] at h; rw [h]
  | _ => cases h
theorem atoi_one : ∀ a, a < 10 → okOf (Lib.atoiAll [UInt8.ofNat (48 + a)]) = some (a : Int) := by decide +kernel
theorem atoi_two : ∀ a, a < 10 → ∀ b, b < 10 → okOf (Lib.atoiAll [UInt8.ofNat (48 + a), UInt8.ofNat (48 + b)]) = some ((10 * a + b : Nat) : Int) := by decide +kernel
theorem num_atoi {k : Nat} (h : k < 100) : Lib.atoiAll (numT k).data.toList = .ok (k : Int) := by
  apply okOf_eq
  unfold numT
  by_cases h1 : k < 10
  · rw [Lib.decDigits_one h1]; exact atoi_one k h1
  · rw [Lib.decDigits_two (by omega) h]
    have := atoi_two (k / 10) (by omega) (k % 10) (by omega)
    rw [show 10 * (k / 10) + k % 10 = k by omega] at this
    exact this
theorem itoa_numT {v : Int} (h : 0 ≤ v) : (⟨(Lib.itoa v).toArray⟩ : ByteArray) = numT v.toNat := by
  unfold Lib.itoa numT
  rw [if_neg (by omega)]
/-- A number and whether the word is just it. -/
def RetN (w : World) (s : ByteArray) (e : Ending) (w' : World) : Prop :=
  ∃ (n : Int) (ok : Bool), e = .returned (.tuple #[.int .i64 n, .bool ok]) ∧ New w w' ∧
    ((ok = true ∧ 0 ≤ n ∧ s = numT n.toNat ∧ ∀ k : Nat, k < 100 → s = numT k → n = (k : Int)) ∨ (ok = false ∧ ∀ k, k < 100 → s ≠ numT k))

set_option maxRecDepth 100000 in
set_option maxHeartbeats 1000000 in
theorem parseNumber_any (w : World) (s : ByteArray) (hs : s.size ≤ 1048576) (he : PmEnv w) :
    Calls Tryd.prog 21 #[.string s] w (RetN w s) := by
  have HE := Lib.hid he; clear he
  rcases hv : Lib.atoiAll s.data.toList with v | _ | _
  · skip
    have hb := Lib.atoiAll_bounds hv
    have HV := Lib.hid hv; clear hv
    have hd : ∀ k : Nat, k < 100 → s = numT k → v = (k : Int) := fun k hk e => by have := HV.out; rw [e, num_atoi hk] at this; cases this; rfl
    have HD := Lib.hid hd; clear hd
    by_cases h0 : v < 0
    · have NO := Lib.hid (show ∀ k, k < 100 → s ≠ numT k from fun k hk e => by have := HD.out k hk e; omega)
      go_enter Tryd.func21, Tryd.ntmps21
      go_wp2_with fail
      refine (Tryd.strconv_Atoi_ok s (by omega) v HV.out _).mono ?_
      rintro e w1 ⟨rfl, hw⟩
      have N1 := Lib.hid (show New w w1 by
        rcases hw with rfl | ⟨t, rfl⟩
        · exact New.refl _
        · exact Lib.bytesWorld_below w _ t); clear hw
      go_wp2
      go_ret2
      exact ⟨_, _, rfl, N1.out, .inr ⟨rfl, NO.out⟩⟩
    · go_enter Tryd.func21, Tryd.ntmps21
      go_wp2_with fail
      refine (Tryd.strconv_Atoi_ok s (by omega) v HV.out _).mono ?_
      rintro e w1 ⟨rfl, hw⟩
      have N1 := Lib.hid (show New w w1 by
        rcases hw with rfl | ⟨t, rfl⟩
        · exact New.refl _
        · exact Lib.bytesWorld_below w _ t); clear hw
      have E1 := Lib.hid (HE.out.new N1.out)
      go_wp2_with fail
      refine (Tryd.strconv_Itoa v hb.1 hb.2 _ E1.out.tab).mono ?_
      obtain ⟨X, hX⟩ : ∃ X : ByteArray, X = ⟨(Lib.itoa v).toArray⟩ := ⟨_, rfl⟩
      rw [← hX]
      have HX := Lib.hid hX; clear hX
      rintro e w2 ⟨rfl, hw⟩
      have N2 := Lib.hid (show New w1 w2 by
        obtain ⟨k, os, rfl⟩ := hw
        exact Lib.below_grow _ w1 (Nat.le_refl _) k os); clear hw
      by_cases hx : X = s
      · have EQ := Lib.hid hx
        have hq : (X.toList == s.toList) = true := by rw [eqL]; exact decide_eq_true hx
        clear hx
        go_wp2
        go_ret2
        refine ⟨v, true, rfl, N1.out.trans N2.out, .inl ⟨rfl, by omega, ?_, HD.out⟩⟩
        rw [← EQ.out, HX.out]
        exact itoa_numT (by omega)
      · have NE := Lib.hid hx
        have hq : (X.toList == s.toList) = false := by rw [eqL]; exact decide_eq_false hx
        clear hx
        go_wp2
        go_ret2
        refine ⟨_, _, rfl, N1.out.trans N2.out, .inr ⟨rfl, fun k hk e => ?_⟩⟩
        have hk2 := HD.out k hk e
        exact NE.out (by rw [HX.out, itoa_numT (by omega), hk2, Int.toNat_natCast, e])
  · skip
    have HV := Lib.hid hv; clear hv
    have hno : ∀ k, k < 100 → s ≠ numT k := fun k hk e => by have := HV.out; rw [e, num_atoi hk] at this; cases this
    have NO := Lib.hid hno; clear hno
    obtain ⟨tp, p, hvar⟩ := HE.out.syn
    go_enter Tryd.func21, Tryd.ntmps21
    go_wp2_with fail
    refine (Any.strconv_Atoi_syntax_var Tryd.laysC172 s (by omega) HV.out tp p _ hvar).mono ?_
    rintro e w1 ⟨N, rfl, _, _, n1⟩
    have N1 := Lib.hid (show New w w1 from n1); clear n1
    go_wp2
    go_ret2
    exact ⟨_, _, rfl, N1.out, .inr ⟨rfl, NO.out⟩⟩
  · skip
    have HV := Lib.hid hv; clear hv
    have hno : ∀ k, k < 100 → s ≠ numT k := fun k hk e => by have := HV.out; rw [e, num_atoi hk] at this; cases this
    have NO := Lib.hid hno; clear hno
    obtain ⟨tp, p, hvar⟩ := HE.out.rng
    go_enter Tryd.func21, Tryd.ntmps21
    go_wp2_with fail
    refine (Tryd.strconv_Atoi_range_var s (by omega) HV.out tp p _ hvar).mono ?_
    rintro e w1 ⟨N, rfl, _, _, n1⟩
    have N1 := Lib.hid (show New w w1 from n1); clear n1
    obtain ⟨z, hz⟩ : ∃ z, z = Lib.atoiSat s.data.toList := ⟨_, rfl⟩
    rw [← hz]
    clear hz
    go_wp2
    go_ret2
    exact ⟨_, _, rfl, N1.out, .inr ⟨rfl, NO.out⟩⟩
end Go.Proofs.YtknjobpdbbjeoaaDoor
