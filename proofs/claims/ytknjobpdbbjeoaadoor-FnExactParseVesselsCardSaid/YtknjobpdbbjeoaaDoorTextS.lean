/- The text of vessels, the model's. -/
import Derived.Test.YtknjobpdbbjeoaaDoorNum
import Derived.Test.YtknjobpdbbjeoaaDoorGcd
namespace Go.Proofs.YtknjobpdbbjeoaaDoor
open Go.RowKit

/-- One vessel's text; the text of the first k vessels. -/
def pieceT (S H : List Int) (j : Nat) : ByteArray := numT (H[j]?.getD 0).toNat ++ ⟨#[47]⟩ ++ numT (S[j]?.getD 0).toNat
def outT (S H : List Int) : Nat → ByteArray
  | 0 => ⟨#[]⟩
  | k + 1 => (if k = 0 then outT S H k else outT S H k ++ ⟨#[44]⟩) ++ pieceT S H k
theorem pieceT_eq {S H : List Int} {k s h : Nat} (es : S[k]?.getD 0 = (s : Int)) (eh : H[k]?.getD 0 = (h : Int)) : pieceT S H k = numT h ++ ⟨#[47]⟩ ++ numT s := by
  unfold pieceT; rw [es, eh, Int.toNat_natCast, Int.toNat_natCast]
theorem pieceT_size {S H : List Int} (hg : Good S H) {k : Nat} (hk : k < S.length) : (pieceT S H k).size ≤ 5 := by
  obtain ⟨s, h, es, eh, b1, b2, b3⟩ := hg.nats hk
  rw [pieceT_eq es eh]
  have h1 := numT_size (k := h) (by omega)
  have h2 := numT_size (k := s) (by omega)
  have e : (ByteArray.mk #[47]).size = 1 := rfl
  simp only [ByteArray.size_append, e]
  omega
theorem outT_size {S H : List Int} (hg : Good S H) : ∀ k : Nat, k ≤ S.length → (outT S H k).size ≤ 6 * k
  | 0, _ => Nat.zero_le _
  | k + 1, hk => by
    have h1 := outT_size hg k (by omega)
    have h2 := pieceT_size hg (show k < S.length by omega)
    have e : (ByteArray.mk #[44]).size = 1 := rfl
    unfold outT
    split <;> simp only [ByteArray.size_append, e] <;> omega

set_option maxRecDepth 100000 in
set_option maxHeartbeats 4000000 in
theorem veText_any (w : World) (aa ab : Option Addr) (n m ca cb : Nat) (S H : List Int) (h1 : Ints w aa n ca S) (h2 : Ints w ab m cb H) (hg : Good S H) :
    Calls Tryd.prog 18 #[.agg #[.slice aa n ca, .slice ab m cb]] w fun e w' => e = .returned (.string (outT S H n)) ∧ New w w' := by
  have HA := Lib.hid h1; clear h1
  have HB := Lib.hid h2; clear h2
  have hn := HA.out.len
  have hm := HB.out.len
  have q5 : n ≤ 5 := by have := hg.1; omega
  have qm : m ≤ n ∧ n ≤ m := by have := hg.2.1; omega
  have HN := Lib.hid (And.intro hn hm); clear hn hm
  have HG := Lib.hid hg; clear hg
  obtain ⟨u0, rfl⟩ : ∃ u : World, u = w := ⟨_, rfl⟩
  go_enter Tryd.func18, Tryd.ntmps18
  go_wp2
  go_loopw [3, 9] (fun o i wr => ∃ k : Nat, k ≤ n ∧ i = .int .i64 k ∧ o = .string (outT S H k) ∧ New (u0.alloc (.cells #[.slice aa n ca, .slice ab m cb] 24)) wr) (fun _ i _ => n - (intOf i).toNat)
  case atStart => exact ⟨0, Nat.zero_le _, rfl, rfl, New.refl _⟩
  case round =>
    obtain ⟨k, hk, rfl, rfl, hN⟩ := hrel
    have b1 : wr.cell? ⟨u0.heap.size, 1, none⟩ = some (.slice ab m cb) := hN.cell (by simp)
    have NW := Lib.hid (show New u0 wr from ((New.refl u0).alloc _).trans hN)
    have NB := Lib.hid hN; clear hN
    have os := outT_size HG.out k (by have := HN.out.1; omega)
    by_cases hlt : k < n
    · obtain ⟨ba, oa, rfl, gc, _⟩ := (HA.out.new NW.out).at hlt
      obtain ⟨bb, ob, rfl, gd, _⟩ := (HB.out.new NW.out).at (show k < m by omega)
      obtain ⟨s, h, es, eh, c1, c2, c3⟩ := HG.out.nats (show k < S.length by have := HN.out.1; omega)
      have HP := Lib.hid (pieceT_eq es eh)
      rw [es] at gc
      rw [eh] at gd
      clear es eh
      have cs : s < 100 := by omega
      have ch : h < 100 := by omega
      have hs2 := numT_size cs
      have hh2 := numT_size ch
      obtain ⟨o, ho⟩ : ∃ o, o = outT S H k := ⟨_, rfl⟩
      have HO := Lib.hid (show outT S H (k + 1) = (if k = 0 then outT S H k else outT S H k ++ ⟨#[44]⟩) ++ pieceT S H k from rfl)
      rw [HP.out, ← ho] at HO
      rw [← ho] at os ⊢
      clear ho HP
      obtain ⟨dh, hdh⟩ : ∃ d, d = numT h := ⟨_, rfl⟩
      obtain ⟨ds, hds⟩ : ∃ d, d = numT s := ⟨_, rfl⟩
      rw [← hdh, ← hds] at HO
      rw [← hdh] at hh2
      rw [← hds] at hs2
      have CH := Lib.hid (show ∀ w : World, Calls Tryd.prog 24 #[.int .i64 (h : Int)] w fun e w' => e = .returned (.string dh) ∧ New w w' from fun w => by rw [hdh]; exact l1Num_num w h ch)
      have CS := Lib.hid (show ∀ w : World, Calls Tryd.prog 24 #[.int .i64 (s : Int)] w fun e w' => e = .returned (.string ds) ∧ New w w' from fun w => by rw [hds]; exact l1Num_num w s cs)
      clear hdh hds
      have e0 : ¬ 9223372036854775807 < o.size + 1 := by omega
      have e1 : ¬ 9223372036854775807 < dh.size + 1 := by omega
      have e2 : ¬ 9223372036854775807 < dh.size + 1 + ds.size := by omega
      have e3 : ¬ 9223372036854775807 < o.size + (dh.size + 1 + ds.size) := by omega
      have e4 : ¬ 9223372036854775807 < o.size + 1 + (dh.size + 1 + ds.size) := by omega
      clear os hh2 hs2 c1 c2 c3 cs ch
      by_cases k0 : k = 0
      · have HO' := Lib.hid (show outT S H (k + 1) = o ++ (dh ++ ⟨#[47]⟩ ++ ds) by rw [HO.out, if_pos k0])
        clear HO
        have k0' : ¬ (0 : Int) < (k : Int) := by omega
        clear k0
        go_wp2_with fail
        refine (CH.out _).mono ?_
        rintro e w2 ⟨rfl, n2⟩
        have N2 := Lib.hid n2; clear n2
        go_wp2_with fail
        refine (CS.out _).mono ?_
        rintro e w3 ⟨rfl, n3⟩
        have N3 := Lib.hid ((NB.out.trans N2.out).trans n3); clear n3
        go_wp2
        go_roundw
        case rel => exact ⟨k + 1, by omega, by go_num, by rw [HO'.out], N3.out⟩
        case measure => simp [intOf]; omega
      · have HO' := Lib.hid (show outT S H (k + 1) = o ++ ⟨#[44]⟩ ++ (dh ++ ⟨#[47]⟩ ++ ds) by rw [HO.out, if_neg k0])
        clear HO
        have k0' : (0 : Int) < (k : Int) := by omega
        clear k0
        go_wp2_with fail
        refine (CH.out _).mono ?_
        rintro e w2 ⟨rfl, n2⟩
        have N2 := Lib.hid n2; clear n2
        go_wp2_with fail
        refine (CS.out _).mono ?_
        rintro e w3 ⟨rfl, n3⟩
        have N3 := Lib.hid ((NB.out.trans N2.out).trans n3); clear n3
        go_wp2
        go_roundw
        case rel => exact ⟨k + 1, by omega, by go_num, by rw [HO'.out], N3.out⟩
        case measure => simp [intOf]; omega
    · obtain rfl : k = n := by omega
      go_wp2
      go_ret
      exact ⟨rfl, NW.out⟩
end Go.Proofs.YtknjobpdbbjeoaaDoor
