/- ParseMove: the program's numbers and ends. -/
import Derived.Test.YtfkhpgbidgogdaaDoorPmS
import Derived.Test.YtfkhpgbidgogdaaDoorShelfS
import Derived.Lib.AppendIntMem
namespace Go.Proofs.YtfkhpgbidgogdaaDoor
open Go.RowKit

theorem var_new {w w' : World} {n : String} {cs : Array Value} (h : w.var? Tryd.prog n = some cs) (k : New w w') : w'.var? Tryd.prog n = some cs := by
  unfold World.var? at h ⊢
  cases hg : Tryd.prog.globalNamed n with
  | none => rw [hg] at h; cases h
  | some g =>
    rw [hg] at h
    simp only [Option.bind_some] at h ⊢
    have hlt : g < w.heap.size := by
      by_cases q : g < w.heap.size
      · exact q
      · rw [Array.getElem?_eq_none (by omega)] at h; cases h
    rw [k.block g hlt]; exact h
/-- What the library's functions ask of the variables. -/
structure PmEnv (w : World) : Prop where
  syn : ∃ tp p, w.var? Tryd.prog "strconv.ErrSyntax" = some #[.iface tp p]
  rng : ∃ tp p, w.var? Tryd.prog "strconv.ErrRange" = some #[.iface tp p]
  tab : Lib.TabIs Tryd.prog w "internal/strconv.uint64pow10" .u64 Lib.pow10Tab
theorem PmEnv.new {w w' : World} (h : PmEnv w) (k : New w w') : PmEnv w' :=
  ⟨by obtain ⟨a, b, e⟩ := h.syn; exact ⟨a, b, var_new e k⟩, by obtain ⟨a, b, e⟩ := h.rng; exact ⟨a, b, var_new e k⟩, var_new h.tab k⟩
def digT (k : Nat) : ByteArray := ⟨#[UInt8.ofNat (48 + k)]⟩
theorem dig_atoi {k : Nat} (h : k < 5) : Lib.atoiAll (digT k).data.toList = .ok (k : Int) := by
  have : k = 0 ∨ k = 1 ∨ k = 2 ∨ k = 3 ∨ k = 4 := by omega
  rcases this with rfl | rfl | rfl | rfl | rfl <;> rfl
theorem dig_itoa {k : Nat} (h : k < 5) : (⟨(Lib.itoa (k : Int)).toArray⟩ : ByteArray) = digT k := by
  have : k = 0 ∨ k = 1 ∨ k = 2 ∨ k = 3 ∨ k = 4 := by omega
  rcases this with rfl | rfl | rfl | rfl | rfl <;> first | kernel_rfl | decide | simp [Lib.itoa, Lib.decDigits, digT]
/-- A number and whether the word is just it. -/
def RetPN (w : World) (s : ByteArray) (e : Ending) (w' : World) : Prop :=
  ∃ (n : Int) (ok : Bool), e = .returned (.tuple #[.int .i64 n, .bool ok]) ∧ New w w' ∧
    ((ok = true ∧ 0 ≤ n ∧ (n < 5 → s = digT n.toNat) ∧ ∀ k, k < 5 → s = digT k → (k : Int) = n) ∨ (ok = false ∧ ∀ k, k < 5 → s ≠ digT k))
theorem atoi_bd {l : List UInt8} {v : Int} (h : Lib.atoiAll l = .ok v) : -9223372036854775808 ≤ v ∧ v ≤ 9223372036854775807 := by
  unfold Lib.atoiAll at h
  split at h
  · cases h
  · simp only at h
    split at h
    · cases h
    · cases h
    · split at h
      · cases h
      · split at h
        · cases h
        · rename_i a b
          cases h
          split <;> omega

set_option maxRecDepth 100000 in
set_option maxHeartbeats 1000000 in
theorem parseNumber_any (w : World) (s : ByteArray) (hs : s.size ≤ 1048576) (he : PmEnv w) :
    Calls Tryd.prog 15 #[.string s] w (RetPN w s) := by
  have HE := Lib.hid he; clear he
  rcases hv : Lib.atoiAll s.data.toList with v | _ | _
  · skip
    have hb := atoi_bd hv
    have HV := Lib.hid hv; clear hv
    have hd : ∀ k, k < 5 → s = digT k → (k : Int) = v := fun k hk e => by have := HV.out; rw [e, dig_atoi hk] at this; cases this; rfl
    have HD := Lib.hid hd; clear hd
    by_cases h0 : v < 0
    · have NO := Lib.hid (show ∀ k, k < 5 → s ≠ digT k from fun k hk e => by have := HD.out k hk e; omega)
      go_enter Tryd.func15, Tryd.ntmps15
      go_wp2_with fail
      refine (Tryd.strconv_Atoi_ok s (by omega) v HV.out _).mono ?_
      rintro e w1 ⟨rfl, hw⟩
      have N1 := Lib.hid (show New w w1 by
        rcases hw with rfl | ⟨t, rfl⟩
        · exact New.refl _
        · exact Lib.bytesWorld_below w _ t); clear hw
      go_wp2
      go_ret2
      exact ⟨_, _, rfl, N1.out, .inr ⟨rfl, NO.out⟩⟩
    · go_enter Tryd.func15, Tryd.ntmps15
      go_wp2_with fail
      refine (Tryd.strconv_Atoi_ok s (by omega) v HV.out _).mono ?_
      rintro e w1 ⟨rfl, hw⟩
      have N1 := Lib.hid (show New w w1 by
        rcases hw with rfl | ⟨t, rfl⟩
        · exact New.refl _
        · exact Lib.bytesWorld_below w _ t); clear hw
      have E1 := Lib.hid (HE.out.new N1.out)
      go_wp2_with fail
      refine (Tryd.strconv_Itoa v hb.1 hb.2 _ E1.out.tab).mono ?_
      obtain ⟨X, hX⟩ : ∃ X : ByteArray, X = ⟨(Lib.itoa v).toArray⟩ := ⟨_, rfl⟩
      rw [← hX]
      have HX := Lib.hid hX; clear hX
      rintro e w2 ⟨rfl, hw⟩
      have N2 := Lib.hid (show New w1 w2 by
        obtain ⟨k, os, rfl⟩ := hw
        exact Lib.below_grow _ w1 (Nat.le_refl _) k os); clear hw
      by_cases hx : X = s
      · have EQ := Lib.hid hx
        have hq : (X.toList == s.toList) = true := by rw [eqL]; exact decide_eq_true hx
        clear hx
        go_wp2
        go_ret2
        refine ⟨v, true, rfl, N1.out.trans N2.out, .inl ⟨rfl, by omega, fun h5 => ?_, fun k hk e => HD.out k hk e⟩⟩
        rw [← EQ.out, HX.out, ← dig_itoa (show v.toNat < 5 by omega), Int.toNat_of_nonneg (by omega)]
      · have NE := Lib.hid hx
        have hq : (X.toList == s.toList) = false := by rw [eqL]; exact decide_eq_false hx
        clear hx
        go_wp2
        go_ret2
        refine ⟨_, _, rfl, N1.out.trans N2.out, .inr ⟨rfl, fun k hk e => ?_⟩⟩
        have hk2 := HD.out k hk e
        exact NE.out (by rw [HX.out, ← hk2, dig_itoa hk, e])
  · skip
    have HV := Lib.hid hv; clear hv
    have hno : ∀ k, k < 5 → s ≠ digT k := fun k hk e => by have := HV.out; rw [e, dig_atoi hk] at this; cases this
    have NO := Lib.hid hno; clear hno
    obtain ⟨tp, p, hvar⟩ := HE.out.syn
    go_enter Tryd.func15, Tryd.ntmps15
    go_wp2_with fail
    refine (Any.strconv_Atoi_syntax_var Tryd.laysC172 s (by omega) HV.out tp p _ hvar).mono ?_
    rintro e w1 ⟨N, rfl, _, _, n1⟩
    have N1 := Lib.hid (show New w w1 from n1); clear n1
    go_wp2
    go_ret2
    exact ⟨_, _, rfl, N1.out, .inr ⟨rfl, NO.out⟩⟩
  · skip
    have HV := Lib.hid hv; clear hv
    have hno : ∀ k, k < 5 → s ≠ digT k := fun k hk e => by have := HV.out; rw [e, dig_atoi hk] at this; cases this
    have NO := Lib.hid hno; clear hno
    obtain ⟨tp, p, hvar⟩ := HE.out.rng
    go_enter Tryd.func15, Tryd.ntmps15
    go_wp2_with fail
    refine (Tryd.strconv_Atoi_range_var s (by omega) HV.out tp p _ hvar).mono ?_
    rintro e w1 ⟨N, rfl, _, _, n1⟩
    have N1 := Lib.hid (show New w w1 from n1); clear n1
    obtain ⟨z, hz⟩ : ∃ z, z = Lib.atoiSat s.data.toList := ⟨_, rfl⟩
    rw [← hz]
    clear hz
    go_wp2
    go_ret2
    exact ⟨_, _, rfl, N1.out, .inr ⟨rfl, NO.out⟩⟩

/-- An end and whether the word is just its text. -/
def RetPE (w : World) (s : ByteArray) (c : UInt8) (e : Ending) (w' : World) : Prop :=
  ∃ (n : Int) (ok : Bool), e = .returned (.tuple #[.int .i64 n, .bool ok]) ∧ New w w' ∧
    ((ok = true ∧ -1 ≤ n ∧ (n < 5 → s = endT n c) ∧ ∀ k, -1 ≤ k → k < 5 → s = endT k c → k = n) ∨ (ok = false ∧ ∀ k, -1 ≤ k → k < 5 → s ≠ endT k c))
theorem end_out (c : UInt8) : endT (-1) c = ⟨#[c]⟩ := by unfold endT; rfl
theorem end_dig {k : Int} (h0 : 0 ≤ k) (h5 : k < 5) (c : UInt8) : endT k c = digT k.toNat := by
  have : k = 0 ∨ k = 1 ∨ k = 2 ∨ k = 3 ∨ k = 4 := by omega
  rcases this with rfl | rfl | rfl | rfl | rfl <;> rfl
theorem dig_not {k : Nat} (h : k < 5) {c : UInt8} (hc : 100 ≤ c.toNat) : digT k ≠ ⟨#[c]⟩ := by
  intro e
  have e2 : (digT k).data.toList = [c] := by rw [e]
  have e3 : UInt8.ofNat (48 + k) = c := by simpa [digT] using e2
  have : k = 0 ∨ k = 1 ∨ k = 2 ∨ k = 3 ∨ k = 4 := by omega
  rcases this with rfl | rfl | rfl | rfl | rfl <;> (rw [← e3] at hc; revert hc; decide)

set_option maxRecDepth 100000 in
theorem parseEnd_any (w : World) (s : ByteArray) (c : UInt8) (hs : s.size ≤ 1048576) (hc : 100 ≤ c.toNat) (he : PmEnv w) :
    Calls Tryd.prog 10 #[.string s, .string ⟨#[c]⟩] w (RetPE w s c) := by
  have HE := Lib.hid he; clear he
  by_cases h : s = ⟨#[c]⟩
  · subst h
    go_enter Tryd.func10, Tryd.ntmps10
    go_wp2
    go_ret2
    refine ⟨-1, true, rfl, New.refl _, .inl ⟨rfl, by omega, fun _ => (end_out c).symm, fun k h0 h5 e => ?_⟩⟩
    by_cases q : k = -1
    · exact q
    · exact absurd ((end_dig (by omega) h5 c).symm.trans e.symm) (dig_not (by omega) hc)
  · have HS := Lib.hid h
    have hq : (s.toList == [c]) = false := by rw [show ([c] : List UInt8) = (⟨#[c]⟩ : ByteArray).toList by rw [Lib.toList_data], eqL]; exact decide_eq_false h
    clear h
    go_enter Tryd.func10, Tryd.ntmps10
    go_wp2_with fail
    refine (parseNumber_any _ s hs HE.out).mono ?_
    rintro e w1 ⟨n, ok, rfl, n1, hr⟩
    have N1 := Lib.hid n1; clear n1
    have HR := Lib.hid hr; clear hr
    go_wp2
    go_ret2
    refine ⟨n, ok, rfl, N1.out, ?_⟩
    rcases HR.out with ⟨a, b, d, g⟩ | ⟨a, b⟩
    · refine .inl ⟨a, by omega, fun h5 => by rw [end_dig b h5]; exact d h5, fun k h0 h5 e => ?_⟩
      by_cases q : k = -1
      · subst q; rw [end_out] at e; exact absurd e HS.out
      · rw [end_dig (by omega) h5] at e
        have := g k.toNat (by omega) e
        omega
    · refine .inr ⟨a, fun k h0 h5 e => ?_⟩
      by_cases q : k = -1
      · subst q; rw [end_out] at e; exact absurd e HS.out
      · rw [end_dig (by omega) h5] at e
        exact b k.toNat (by omega) e
end Go.Proofs.YtfkhpgbidgogdaaDoor
