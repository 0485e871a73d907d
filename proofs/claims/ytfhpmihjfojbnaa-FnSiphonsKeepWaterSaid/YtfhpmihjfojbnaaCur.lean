/- The reader of draws: what it gives is some number in its range. -/
import Derived.Test.YtfhpmihjfojbnaaBase
import Derived.Laws.BitsLemmas
import Derived.Laws.Bits64
import Derived.BigQuiet
import Derived.Deep.RegionHeld3
import Derived.Deep.DeepCutAuto
namespace Go.Proofs.Ytfhpmihjfojbnaa
open Go.RowKit Go.IntWalk

/-- A slice of bytes that may be read. -/
def Byts (w : World) (ao : Option Addr) (n cap : Nat) : Prop :=
  n ≤ cap ∧ n ≤ 9223372036854775807 ∧ ∀ j, j < n → ∃ b o x, ao = some ⟨b, o, none⟩ ∧ w.cell? ⟨b, o + j, none⟩ = some (.int .u8 x) ∧ 0 ≤ x ∧ x ≤ 255
theorem Byts.new {w w' : World} {ao : Option Addr} {n cap : Nat} (h : Byts w ao n cap) (k : New w w') : Byts w' ao n cap :=
  ⟨h.1, h.2.1, fun j hj => by obtain ⟨b, o, x, e, c, q⟩ := h.2.2 j hj; exact ⟨b, o, x, e, k.cell c, q⟩⟩
/-- The reader: a box of three cells over bytes that lie below it. -/
structure Cur (w : World) (c K : Nat) : Prop where
  ex : ∃ ao n cap k s, w.cell? ⟨c, 0, none⟩ = some (.slice ao n cap) ∧ w.cell? ⟨c, 1, none⟩ = some (.int .i64 ((k : Nat) : Int)) ∧ k ≤ K ∧ w.cell? ⟨c, 2, none⟩ = some (.int .u64 s) ∧ (0 ≤ s ∧ s ≤ 18446744073709551615) ∧
    Byts w ao n cap ∧ ∀ j, j < n → ∃ b o, ao = some ⟨b, o, none⟩ ∧ b < c
  f1 : w.frozen? ⟨c, 1, none⟩ = false
  f2 : w.frozen? ⟨c, 2, none⟩ = false
theorem Cur.mono {w : World} {c K K' : Nat} (h : Cur w c K) (hk : K ≤ K') : Cur w c K' := by
  obtain ⟨ao, n, cap, k, s, h0, h1, h2, h3⟩ := h.ex
  exact ⟨⟨ao, n, cap, k, s, h0, h1, Nat.le_trans h2 hk, h3⟩, h.f1, h.f2⟩
theorem Chg.frz' {P : Nat → Prop} {w w' : World} (h : Chg P w w') {p : Addr} {v : Value} (hc : w.cell? p = some v) (hp : ¬ P p.block) (hf : w.frozen? p = false) : w'.frozen? p = false := by
  rw [← hf]; exact World.frozen?_of_block (h.block _ (World.block_lt_of_cell? _ _ hc) hp)
/-- What turns other blocks leaves the reader as it was, if it leaves the bytes. -/
theorem Cur.new {w w' : World} {c K : Nat} (h : Cur w c K) (k : New w w') : Cur w' c K := by
  obtain ⟨ao, n, cap, kk, s, h0, h1, h2, h3, h4, h5, h6⟩ := h.ex
  exact ⟨⟨ao, n, cap, kk, s, k.cell h0, k.cell h1, h2, k.cell h3, h4, h5.new k, h6⟩, k.frz h1 h.f1, k.frz h3 h.f2⟩
/-- What leaves all blocks up to the reader's own leaves the reader. -/
theorem Cur.kept {w w' : World} {c K : Nat} (h : Cur w c K) (k : ∀ i, i ≤ c → w'.heap[i]? = w.heap[i]?) : Cur w' c K := by
  obtain ⟨ao, n, cap, kk, s, h0, h1, h2, h3, h4, h5, h6⟩ := h.ex
  refine ⟨⟨ao, n, cap, kk, s, (World.cell?_of_block (a := ⟨c, 0, none⟩) (k c (Nat.le_refl _))).trans h0, (World.cell?_of_block (a := ⟨c, 1, none⟩) (k c (Nat.le_refl _))).trans h1, h2, (World.cell?_of_block (a := ⟨c, 2, none⟩) (k c (Nat.le_refl _))).trans h3, h4, ⟨h5.1, h5.2.1, fun j hj => ?_⟩, h6⟩, (World.frozen?_of_block (a := ⟨c, 1, none⟩) (k c (Nat.le_refl _))).trans h.f1, (World.frozen?_of_block (a := ⟨c, 2, none⟩) (k c (Nat.le_refl _))).trans h.f2⟩
  obtain ⟨b, o, x, e, hx, q⟩ := h5.2.2 j hj
  obtain ⟨b', o', e', hlt⟩ := h6 j hj
  rw [e] at e'
  cases e'
  exact ⟨b, o, x, e, (World.cell?_of_block (a := ⟨b, o + j, none⟩) (k b (by omega))).trans hx, q⟩
/-- A reader that a law's function makes, its block beyond all that was there. -/
theorem Cur.start {w w' : World} {c : Nat} {ao : Option Addr} {n cap : Nat} (hb : Byts w ao n cap) (hk : New w w') (hc : w.heap.size ≤ c) (h0 : w'.cell? ⟨c, 0, none⟩ = some (.slice ao n cap)) (h1 : w'.cell? ⟨c, 1, none⟩ = some (.int .i64 0)) (h2 : w'.cell? ⟨c, 2, none⟩ = some (.int .u64 0)) (f1 : w'.frozen? ⟨c, 1, none⟩ = false) (f2 : w'.frozen? ⟨c, 2, none⟩ = false) : Cur w' c 0 :=
  ⟨⟨ao, n, cap, 0, 0, h0, h1, Nat.le_refl _, h2, ⟨by decide, by decide⟩, hb.new hk, fun j hj => by
    obtain ⟨b, o, x, e, q, _⟩ := hb.2.2 j hj
    exact ⟨b, o, e, by have := World.block_lt_of_cell? _ _ q; simp only at this; omega⟩⟩, f1, f2⟩

theorem u64_in (n : Int) : 0 ≤ IntKind.u64.wrap n ∧ IntKind.u64.wrap n ≤ 18446744073709551615 := by
  rw [IntKind.wrap_u64]; omega
theorem u64_low (x : Int) (h0 : 0 ≤ x) (h1 : x ≤ 18446744073709551615) : bits .and .u64 x 255 = x % 256 :=
  bits_mask .u64 64 (by decide) (fun n h0 h1 => by rw [IntKind.wrap_u64]; omega) 8 (by decide) x h0 (by omega)

theorem shr_in {S : Int} (h : 0 ≤ S ∧ S ≤ 18446744073709551615) : 0 ≤ wrap64 (bits .and .u64 (S / 1099511627776) 255) ∧ wrap64 (bits .and .u64 (S / 1099511627776) 255) ≤ 255 := by
  rw [u64_low _ (by omega) (by omega)]
  have e : wrap64 (S / 1099511627776 % 256) = S / 1099511627776 % 256 := by unfold wrap64; first | omega | (rw [IntKind.wrap_i64]; omega)
  rw [e]; omega
theorem Cur.stepped {w : World} {c K : Nat} {ao : Option Addr} {n cap k : Nat} {s S : Int} (h0 : w.cell? ⟨c, 0, none⟩ = some (.slice ao n cap)) (h1 : w.cell? ⟨c, 1, none⟩ = some (.int .i64 ((k : Nat) : Int))) (h2 : k ≤ K) (h3 : w.cell? ⟨c, 2, none⟩ = some (.int .u64 s))
    (h5 : Byts w ao n cap) (h6 : ∀ j, j < n → ∃ b o, ao = some ⟨b, o, none⟩ ∧ b < c) (f1 : w.frozen? ⟨c, 1, none⟩ = false) (f2 : w.frozen? ⟨c, 2, none⟩ = false) (hS : 0 ≤ S ∧ S ≤ 18446744073709551615) (p q : Nat) :
    Cur ((((w.drewN p).setCell ⟨c, 1, none⟩ (.int .i64 ((k : Int) + 1))).setCell ⟨c, 2, none⟩ (.int .u64 S)).drewN q) c (K + 1) ∧ Chg (fun b => b = c) w ((((w.drewN p).setCell ⟨c, 1, none⟩ (.int .i64 ((k : Int) + 1))).setCell ⟨c, 2, none⟩ (.int .u64 S)).drewN q) := by
  have ch : Chg (fun b => b = c) w ((((w.drewN p).setCell ⟨c, 1, none⟩ (.int .i64 ((k : Int) + 1))).setCell ⟨c, 2, none⟩ (.int .u64 S)).drewN q) := by
    have a : Chg (fun b => b = c) w (w.drewN p) := Chg.of_new ((New.refl w).drewN p)
    have b := (a.trans (Chg.setCell (w := w.drewN p) (p := ⟨c, 1, none⟩) (.int .i64 ((k : Int) + 1)))).trans (Chg.setCell (p := ⟨c, 2, none⟩) (.int .u64 S))
    exact b.trans (Chg.of_new ((New.refl _).drewN q))
  refine ⟨⟨⟨ao, n, cap, k + 1, S, ?_, ?_, by omega, ?_, hS, ⟨h5.1, h5.2.1, fun j hj => ?_⟩, h6⟩, ?_, ?_⟩, ch⟩
  · rw [World.cell?_drewN, set_other (by simp), set_other (by simp), World.cell?_drewN]; exact h0
  · rw [World.cell?_drewN, set_other (by simp)]
    show _ = some (Value.int .i64 ((k : Int) + 1))
    exact set_same (by rw [World.cell?_drewN]; exact h1)
  · rw [World.cell?_drewN]
    exact set_same (by rw [set_other (by simp), World.cell?_drewN]; exact h3)
  · obtain ⟨b, o, x, e, hx, q⟩ := h5.2.2 j hj
    obtain ⟨b', o', e', hne⟩ := h6 j hj
    refine ⟨b, o, x, e, ch.cell hx ?_, q⟩
    rw [e] at e'; cases e'; exact Nat.ne_of_lt hne
  · simpa [World.frozen?_setCell] using f1
  · simpa [World.frozen?_setCell] using f2

set_option maxRecDepth 100000 in
set_option maxHeartbeats 4000000 in
theorem next_any (w : World) (c K : Nat) (h : Cur w c K) (hK : K ≤ 1000000) :
    Calls Try.prog 78 #[.pointer (some ⟨c, 0, none⟩)] w fun e w' => ∃ x : Int, e = .returned (.int .i64 x) ∧ (0 ≤ x ∧ x ≤ 255) ∧ Cur w' c (K + 1) ∧ Chg (fun b => b = c) w w' := by
  obtain ⟨ao, n, cap, k, s, h0, h1, h2, h3, h4, h5, h6⟩ := h.ex
  have f1 := h.f1
  have f2 := h.f2
  have H5 := Lib.hid h5
  have H6 := Lib.hid h6
  have hn := h5.2.1
  have g1 : IntKind.i64.wrap ((k : Int) + 1) = (k : Int) + 1 := i64_in _ (by omega)
  clear h h5 h6
  by_cases hlt : k < n
  · obtain ⟨b, o, x, rfl, hx, x0, x1⟩ := H5.out.2.2 k hlt
    have hbc : b ≠ c := by obtain ⟨b', o', e, hne⟩ := H6.out k hlt; cases e; exact Nat.ne_of_lt hne
    go_enter Try.func78, Try.ntmps78
    go_wp2
    go_quiet (fail)
    go_wp2
    go_quiet (fail)
    go_wp2
    go_quiet (fail)
    go_wp2
    go_ret
    refine ⟨x, rfl, ⟨x0, x1⟩, ?_⟩
    exact Cur.stepped h0 h1 h2 h3 H5.out H6.out f1 f2 (u64_in _) _ _
  · go_enter Try.func78, Try.ntmps78
    go_wp2
    go_quiet (fail)
    go_wp2
    go_quiet (fail)
    go_wp2
    have hS := u64_in (IntKind.u64.wrap (IntKind.u64.wrap (s * 6364136223846793005)) + 1442695040888963407)
    have hd := shr_in hS
    go_ret
    refine ⟨_, rfl, hd, ?_⟩
    exact Cur.stepped h0 h1 h2 h3 H5.out H6.out f1 f2 hS _ _

theorem tmod_in {x n : Int} (_h0 : 0 ≤ x) (h1 : 1 < n) : 0 ≤ x % n ∧ x % n < n := by
  exact ⟨Int.emod_nonneg _ (by omega), Int.emod_lt_of_pos _ (by omega)⟩

set_option maxHeartbeats 2000000 in
theorem pick_any (w : World) (c K : Nat) (n : Int) (h : Cur w c K) (hK : K ≤ 999990) (hn : n ≤ 1000000) :
    Calls Try.prog 70 #[.pointer (some ⟨c, 0, none⟩), .int .i64 n] w fun e w' => ∃ x : Int, e = .returned (.int .i64 x) ∧ (0 ≤ x ∧ (x < n ∨ x = 0)) ∧ Cur w' c (K + 2) ∧ Chg (fun b => b = c) w w' := by
  by_cases h1 : n ≤ 1
  · go_enter Try.func70, Try.ntmps70
    go_wp2
    go_ret
    exact ⟨0, rfl, ⟨Int.le_refl _, .inr rfl⟩, h.mono (by omega), Chg.refl _ _⟩
  · have h0 : ¬ n = 0 := by omega
    have H := Lib.hid h; clear h
    by_cases h2 : 200 < n
    · go_enter Try.func70, Try.ntmps70
      go_wp2_with fail
      refine (next_any _ c K H.out (by omega)).mono ?_
      rintro e w1 ⟨x, rfl, ⟨x0, x1⟩, hc, hch⟩
      have C1 := Lib.hid hc; have G1 := Lib.hid hch; clear hc hch
      have g1 : IntKind.i64.wrap (x * 256) = x * 256 := i64_in _ (by omega)
      go_wp2_with fail
      refine (next_any _ c (K + 1) C1.out (by omega)).mono ?_
      rintro e w2 ⟨y, rfl, ⟨y0, y1⟩, hc, hch⟩
      have C2 := Lib.hid hc; have G2 := Lib.hid hch; clear hc hch
      have g2 : IntKind.i64.wrap (x * 256 + y) = x * 256 + y := i64_in _ (by omega)
      have m := tmod_in (x := x * 256 + y) (n := n) (by omega) (by omega)
      have g3 : IntKind.i64.wrap ((x * 256 + y) % n) = (x * 256 + y) % n := i64_in _ (by omega)
      have M := Lib.hid m; clear m
      go_wp2
      go_ret
      exact ⟨_, rfl, ⟨M.out.1, .inl M.out.2⟩, C2.out, G1.out.trans G2.out⟩
    · go_enter Try.func70, Try.ntmps70
      go_wp2_with fail
      refine (next_any _ c K H.out (by omega)).mono ?_
      rintro e w1 ⟨x, rfl, ⟨x0, x1⟩, hc, hch⟩
      have C1 := Lib.hid hc; have G1 := Lib.hid hch; clear hc hch
      have m := tmod_in (x := x) (n := n) (by omega) (by omega)
      have g3 : IntKind.i64.wrap (x % n) = x % n := i64_in _ (by omega)
      have M := Lib.hid m; clear m
      go_wp2
      go_ret
      exact ⟨_, rfl, ⟨M.out.1, .inl M.out.2⟩, C1.out.mono (by omega), G1.out⟩

theorem one_any (w : World) (c K : Nat) (n : Int) (h : Cur w c K) (hK : K ≤ 999990) (hn : n ≤ 1000000) :
    Calls Try.prog 72 #[.pointer (some ⟨c, 0, none⟩), .int .i64 n] w fun e w' => ∃ b : Bool, e = .returned (.bool b) ∧ Cur w' c (K + 2) ∧ Chg (fun b => b = c) w w' := by
  have H := Lib.hid h; clear h
  go_enter Try.func72, Try.ntmps72
  go_wp2_with fail
  refine (pick_any _ c K n H.out hK hn).mono ?_
  rintro e w1 ⟨x, rfl, -, hc, hch⟩
  have C1 := Lib.hid hc; have G1 := Lib.hid hch; clear hc hch
  go_wp2
  go_ret
  exact ⟨_, rfl, C1.out, G1.out⟩

theorem among_any (w : World) (c K : Nat) (ao : Option Addr) (n cap : Nat) (l : List Int) (h : Cur w c K) (hl : Ints w ao n cap l) (hne : ∀ b o, ao = some ⟨b, o, none⟩ → b ≠ c) (hn : 0 < n) (hn2 : n ≤ 1000) (hK : K ≤ 999990) :
    Calls Try.prog 71 #[.pointer (some ⟨c, 0, none⟩), .slice ao n cap] w fun e w' => ∃ x : Int, e = .returned (.int .i64 x) ∧ x ∈ l ∧ Cur w' c (K + 2) ∧ Chg (fun b => b = c) w w' := by
  have H := Lib.hid h; clear h
  have HL := Lib.hid hl; clear hl
  have HN := Lib.hid hne; clear hne
  go_enter Try.func71, Try.ntmps71
  go_wp2_with fail
  refine (pick_any _ c K (n : Int) H.out hK (by omega)).mono ?_
  rintro e w1 ⟨x, rfl, ⟨x0, x1⟩, hc, hch⟩
  obtain ⟨k, rfl⟩ := Int.eq_ofNat_of_zero_le x0
  have hk : k < n := by omega
  obtain ⟨b, o, rfl, hcell, hb⟩ := HL.out.at hk
  have c1 : w1.cell? ⟨b, o + k, none⟩ = some (.int .i64 (l[k]?.getD 0)) := hch.cell hcell (HN.out b o rfl)
  have C1 := Lib.hid hc; have G1 := Lib.hid hch; clear hc hch hcell hb x1
  have hm : l[k]?.getD 0 ∈ l := by
    have hlen : k < l.length := by rw [← HL.out.1]; exact hk
    rw [List.getElem?_eq_getElem hlen, Option.getD_some]; exact List.getElem_mem hlen
  obtain ⟨y, hy⟩ : ∃ y, y = l[k]?.getD 0 := ⟨_, rfl⟩
  rw [← hy] at c1 hm
  have HM := Lib.hid hm; clear hm hy
  go_wp2
  go_ret
  exact ⟨_, rfl, HM.out, C1.out, G1.out⟩
end Go.Proofs.Ytfhpmihjfojbnaa
