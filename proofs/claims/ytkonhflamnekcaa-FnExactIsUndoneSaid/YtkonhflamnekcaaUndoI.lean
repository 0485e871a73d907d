/- IsUndone, the program's. -/
import Derived.Test.YtkonhflamnekcaaUndo
import Derived.Test.YtkonhflamnekcaaMap5
import Derived.Test.YtkonhflamnekcaaOnI2
import Derived.Test.YtkonhflamnekcaaAlongI
namespace Go.Proofs.Ytkonhflamnekcaa
open Go.RowKit Go.Maps

theorem ownsMap_block {w w' : World} {P : Program} {k : TypeId} {R : Value → Option (DataW Unit × List MemPlace)} {b n : Nat} {D : DataW Unit} (h : w.ownsMap P k R b n D) (e : w'.heap[b]? = w.heap[b]?) : w'.ownsMap P k R b n D := by
  obtain ⟨es, clock, hb, r⟩ := h
  exact ⟨es, clock, e.trans hb, r⟩
theorem ownsMap_lt {w : World} {P : Program} {k : TypeId} {R : Value → Option (DataW Unit × List MemPlace)} {b n : Nat} {D : DataW Unit} (h : w.ownsMap P k R b n D) : b < w.heap.size := by
  obtain ⟨es, clock, hb, _⟩ := h
  exact (Array.getElem?_eq_some_iff.1 hb).1
theorem Good.five {S K : List Int} (hg : Good S K) : ∀ k, k < 5 → 0 ≤ K[k]?.getD 0 ∧ K[k]?.getD 0 ≤ 1000 := fun k _ => by
  by_cases h : k < S.length
  · have := hg.at h; omega
  · have := hg.2.1
    rw [List.getElem?_eq_none (by omega)]
    simp
theorem Box5.chg {P : Nat → Prop} {W W' : World} {B : Nat} {H : List Int} (h : Box5 W B H) (k : Chg P W W') (hb : ¬ P B) : Box5 W' B H :=
  ⟨Nat.lt_of_lt_of_le h.lt k.size, fun i hi => k.cell (h.cell i hi) hb, fun i => (World.frozen?_of_block (k.block B h.lt hb)).trans (h.frozen i)⟩

def RetM (w : World) (f : List Int → Bool) (e : Ending) (w' : World) : Prop :=
  ∃ B D q, e = .returned (.map (some B)) ∧ w'.ownsMap Try.prog 72 (plainElem Try.prog 4) B q D ∧ SetOf D f ∧ New w w'

set_option maxRecDepth 100000 in
set_option maxHeartbeats 8000000 in
theorem holdingsBehind_any (w : World) (aa : Option Addr) (n ca : Nat) (S K : List Int) (h1 : Ints w aa n ca S) (hg : Good S K) :
    Calls Try.prog 62 #[.slice aa n ca, holdV K] w (RetM w (fun A => (allL n false).any fun p => eq5 (poured S K p.1 p.2) A)) := by
  have hn := h1.len
  have q5 : n ≤ 5 := by have := hg.1; omega
  have q1 : 1 ≤ n := by have := hg.1; omega
  have HA := Lib.hid h1; clear h1
  have HG := Lib.hid hg; clear hg
  have HN := Lib.hid hn; clear hn
  have hmm := @run_makeMap Try.prog
  obtain ⟨W1, hW1⟩ : ∃ W1, W1 = (w.alloc (.cells #[.int .i64 (K[0]?.getD 0), .int .i64 (K[1]?.getD 0), .int .i64 (K[2]?.getD 0), .int .i64 (K[3]?.getD 0), .int .i64 (K[4]?.getD 0)] 72)).alloc (.map #[] 0) := ⟨_, rfl⟩
  have n1 : New w W1 := by rw [hW1]; exact (by repeat (first | with_reducible exact New.refl _ | with_reducible assumption | refine New.drewN ?_ _ | refine New.drew ?_ | refine New.alloc ?_ _ | refine New.setCell ?_ (by first | omega | (simp; omega) | (simp; done)) _ | (refine New.trans ?_ (by assumption))))
  have b1 : Box5 W1 w.heap.size K := by rw [hW1]; exact (Box5.made w K _).new (by repeat (first | with_reducible exact New.refl _ | with_reducible assumption | refine New.drewN ?_ _ | refine New.drew ?_ | refine New.alloc ?_ _ | refine New.setCell ?_ (by first | omega | (simp; omega) | (simp; done)) _ | (refine New.trans ?_ (by assumption))))
  have o1 : W1.ownsMap Try.prog 72 (plainElem (H := Unit) Try.prog 4) (w.heap.size + 1) 0 (.map []) := by
    rw [hW1]
    have := World.ownsMap_made (w.alloc (.cells #[.int .i64 (K[0]?.getD 0), .int .i64 (K[1]?.getD 0), .int .i64 (K[2]?.getD 0), .int .i64 (K[3]?.getD 0), .int .i64 (K[4]?.getD 0)] 72)) (P := Try.prog) 72 (plainElem (H := Unit) Try.prog 4)
    simpa using this
  have s1 : W1.heap.size = w.heap.size + 2 := by rw [hW1]; simp
  have H1 := Lib.hid hW1; clear hW1
  have N1 := Lib.hid n1; clear n1
  have B1 := Lib.hid b1; clear b1
  have O1 := Lib.hid o1; clear o1
  have S1 := Lib.hid s1; clear s1
  go_enter Try.func62, Try.ntmps62
  go_upto_region 2 with fail
  rw [← H1.out]
  clear hmm
  go_wp2_with fail
  refine (movesAmong_any _ n false q1 q5).mono ?_
  rintro e w2 ⟨ma, mn, mc, rfl, om, n2⟩
  have HMN := Lib.hid om.1
  have hmm := om.2.2.1
  have sm := allL_small false q5
  have HM := Lib.hid om; clear om
  have N2 := Lib.hid (N1.out.trans n2)
  have B2 := Lib.hid (B1.out.new n2)
  have O2 := Lib.hid (ownsMap_block O1.out (n2.block _ (ownsMap_lt O1.out)))
  have z2 := n2.size
  have s1 := S1.out
  clear n2
  go_wp2
  go_loopw [13] (fun i wr => ∃ (k : Nat) (D : DataW Unit) (q : Nat), k ≤ mn ∧ i = .int .i64 k ∧ Chg (fun b => b = w.heap.size + 1) w2 wr ∧ wr.ownsMap Try.prog 72 (plainElem Try.prog 4) (w.heap.size + 1) q D ∧ q ≤ k ∧ SetOf D (fun A => ((allL n false).take k).any fun p => eq5 (poured S K p.1 p.2) A)) (fun i _ => mn - (intOf i).toNat)
  case atStart => exact ⟨0, _, 0, Nat.zero_le _, rfl, Chg.refl _ _, O2.out, Nat.le_refl _, ⟨_, rfl⟩, fun A l _ => by simp; rfl⟩
  case round =>
    obtain ⟨k, D, q, hk, rfl, hch, how, hq, hset⟩ := hrel
    have HC := Lib.hid hch; clear hch
    have HO := Lib.hid how; clear how
    have HS := Lib.hid hset; clear hset
    have NW := Lib.hid (Chg.new N2.out HC.out (fun i hi => by omega))
    have BX := Lib.hid (B2.out.chg HC.out (by omega))
    have zr := HC.out.size
    by_cases hlt : k < mn
    · have hlt' : k < (allL n false).length := by have := HMN.out; omega
      obtain ⟨bm, om_, rfl, e0, e1⟩ := (HM.out.chg HC.out (fun b h1 h2 h => by omega)).pairs.2.2.2.1 k hlt
      obtain ⟨p, hp⟩ : ∃ p, p = (allL n false)[k]?.getD (0, 0) := ⟨_, rfl⟩
      have hmem : p ∈ allL n false := by rw [hp, List.getElem?_eq_getElem hlt']; exact List.getElem_mem hlt'
      have ok := allL_ok hmem
      have hat := fun A : List Int => any_take (p := fun p => eq5 (poured S K p.1 p.2) A) hlt' (0, 0)
      rw [← hp] at e0 e1 hat
      obtain ⟨f, t⟩ := p
      simp only at e0 e1 ok hat
      have OK := Lib.hid (show MoveOk S.length f t by rw [← HN.out]; exact ok); clear ok hmem
      have HP := Lib.hid hp; clear hp
      have AT := Lib.hid hat; clear hat
      obtain ⟨l, hl⟩ := keyOf_hold (poured S K f t) (Good.five (HG.out.poured OK.out))
      have HL := Lib.hid hl; clear hl
      go_wp2_with (refine wpList_load_mid rfl 72 _ rfl w.heap.size 0 rfl (cells5 K) _ ((BX.out.new (by repeat (first | with_reducible exact New.refl _ | with_reducible assumption | refine New.drewN ?_ _ | refine New.drew ?_ | refine New.alloc ?_ _ | refine New.setCell ?_ (by first | omega | (simp; omega) | (simp; done)) _ | (refine New.trans ?_ (by assumption))))).range) Try.underlying72 rfl (by kernel_rfl) ?_)
      refine (pour_any _ _ _ _ S K f t (HA.out.new (NW.out.trans (by repeat (first | with_reducible exact New.refl _ | with_reducible assumption | refine New.drewN ?_ _ | refine New.drew ?_ | refine New.alloc ?_ _ | refine New.setCell ?_ (by first | omega | (simp; omega) | (simp; done)) _ | (refine New.trans ?_ (by assumption)))))) HG.out OK.out).mono ?_
      rintro e w7 ⟨rfl, n7⟩
      have N7 := Lib.hid (show New wr w7 from New.trans (by repeat (first | with_reducible exact New.refl _ | with_reducible assumption | refine New.drewN ?_ _ | refine New.drew ?_ | refine New.alloc ?_ _ | refine New.setCell ?_ (by first | omega | (simp; omega) | (simp; done)) _ | (refine New.trans ?_ (by assumption)))) n7); clear n7 e0 e1
      have HO7 := Lib.hid (ownsMap_block HO.out (N7.out.block _ (ownsMap_lt HO.out)))
      go_wp2_with (at_mapUpdate; refine wpList_mapUpdate_own _ rfl _ _ _ 84 rfl 72 4 holdLaw Try.underlying84 _ (w.heap.size + 1) q D rfl HO7.out (by unfold maxLen; omega) _ _ l rfl rfl HL.out (.lit (.bool true)) [] (plainElem_bool Try.underlying4 true) ?_; intro w8 ho8 hg8)
      go_roundw
      case rel =>
        refine ⟨k + 1, _, q + 1, by omega, by go_num, (HC.out.trans (Chg.of_new N7.out)).trans ⟨hg8.os, hg8.tape, hg8.output, hg8.size, fun i hi hp => hg8.block i hi (fun e => hp (by cases e; rfl))⟩, ho8, by omega, ?_⟩
        have hs2 := HS.out.put HL.out
        refine ⟨hs2.1, fun A la ha => ?_⟩
        rw [hs2.2 A la ha]
        exact congrArg (fun b => DataW.lit (Lit.bool b)) (AT.out A).symm
      case measure => simp [intOf]; omega
    · obtain rfl : k = mn := by omega
      go_wp2
      go_ret
      refine ⟨_, D, q, rfl, HO.out, ?_, NW.out⟩
      have := HS.out
      rw [List.take_of_length_le (by have := HMN.out; omega)] at this
      exact this
theorem ret_twob {a a' b b' : Bool} (h1 : a = a') (h2 : b = b') : Ending.returned (.tuple #[.bool a, .bool b]) = .returned (.tuple #[.bool a', .bool b']) := by rw [h1, h2]

set_option maxRecDepth 100000 in
set_option maxHeartbeats 8000000 in
theorem iIsUndone_any (w : World) (aa ab : Option Addr) (n m ca cb : Nat) (S H : List Int) (f t : Int) (h1 : Ints w aa n ca S) (h2 : Ints w ab m cb H) :
    Calls Try.prog 34 #[.agg #[.slice aa n ca, .slice ab m cb], .agg #[.int .i64 f, .int .i64 t]] w fun e w' => e = .returned (.tuple #[.bool (undoneM S H f t).1, .bool (undoneM S H f t).2]) ∧ New w w' := by
  have HA := Lib.hid h1; clear h1
  have HB := Lib.hid h2; clear h2
  by_cases hg : goodB S H = true
  · have hG := goodB_iff.1 hg
    have hn := HA.out.len
    have q5 : n ≤ 5 := by have := hG.1; omega
    have HN := Lib.hid hn; clear hn
    have HG := Lib.hid hG; clear hG
    by_cases okb : moveB n f t = true
    · have ha : askedB S H f t = true := by unfold askedB; rw [hg, ← HN.out, okb]; rfl
      have UM := Lib.hid (undoneM_yes ha); clear ha
      have OK := Lib.hid (show MoveOk S.length f t by rw [← HN.out]; exact moveB_iff.1 okb)
      go_enter Try.func34, Try.ntmps34
      go_wp2_with fail
      refine (iAreVessels_any _ _ _ _ _ _ _ _ _ (HA.out.new (by repeat (first | with_reducible exact New.refl _ | with_reducible assumption | refine New.drewN ?_ _ | refine New.drew ?_ | refine New.alloc ?_ _ | refine New.setCell ?_ (by first | omega | (simp; omega) | (simp; done)) _ | (refine New.trans ?_ (by assumption))))) (HB.out.new (by repeat (first | with_reducible exact New.refl _ | with_reducible assumption | refine New.drewN ?_ _ | refine New.drew ?_ | refine New.alloc ?_ _ | refine New.setCell ?_ (by first | omega | (simp; omega) | (simp; done)) _ | (refine New.trans ?_ (by assumption)))))).mono ?_
      rintro e w1 ⟨rfl, n1⟩
      have a0 : w1.cell? ⟨w.heap.size, 0, none⟩ = some (.slice aa n ca) := n1.cell (by simp [go_sem])
      have a1 : w1.cell? ⟨w.heap.size, 1, none⟩ = some (.slice ab m cb) := n1.cell (by simp [go_sem])
      have b0 : w1.cell? ⟨w.heap.size + 1, 0, none⟩ = some (.int .i64 f) := n1.cell (by simp [go_sem])
      have b1 : w1.cell? ⟨w.heap.size + 1, 1, none⟩ = some (.int .i64 t) := n1.cell (by simp [go_sem])
      have N1 := Lib.hid (show New w w1 from New.trans (by repeat (first | with_reducible exact New.refl _ | with_reducible assumption | refine New.drewN ?_ _ | refine New.drew ?_ | refine New.alloc ?_ _ | refine New.setCell ?_ (by first | omega | (simp; omega) | (simp; done)) _ | (refine New.trans ?_ (by assumption)))) n1); clear n1
      go_wp2_with fail
      refine (isMoveAmong_any _ n f t q5).mono ?_
      rintro e w2 ⟨rfl, n2⟩
      replace a0 := n2.cell a0
      replace a1 := n2.cell a1
      replace b0 := n2.cell b0
      replace b1 := n2.cell b1
      have N2 := Lib.hid (N1.out.trans n2); clear n2
      go_wp2_with fail
      refine (holdingOf_any _ _ _ _ _ _ _ H (HB.out.new N2.out) (by have := HG.out.1; have := HG.out.2.1; omega)).mono ?_
      rintro e w3 ⟨rfl, n3⟩
      replace a0 := n3.cell a0
      replace a1 := n3.cell a1
      replace b0 := n3.cell b0
      replace b1 := n3.cell b1
      have N3 := Lib.hid (N2.out.trans n3); clear n3
      have z3 : w.heap.size + 1 < w3.heap.size := World.block_lt_of_cell? _ _ b0
      have r5 : Box5 (w3.alloc (.cells #[.int .i64 0, .int .i64 0, .int .i64 0, .int .i64 0, .int .i64 0] 72)) w3.heap.size [] := by
        have hr := Box5.made w3 [] 72
        simpa using hr
      have R5 := Lib.hid r5; clear r5
      obtain ⟨W6, hW6⟩ : ∃ W6, W6 = (w3.alloc (.cells #[.int .i64 0, .int .i64 0, .int .i64 0, .int .i64 0, .int .i64 0] 72)).setCells w3.heap.size 0 (cells5 H) := ⟨_, rfl⟩
      have bx6 : Box5 W6 w3.heap.size H := by rw [hW6]; exact R5.out.fill _
      have n6 : New w3 W6 := by rw [hW6]; exact Chg.new ((New.refl w3).alloc _) (Chg.setCells _ _ _ _) (fun i hi => by omega)
      have BX := Lib.hid bx6; clear bx6
      have H6 := Lib.hid hW6; clear hW6
      go_upto_region 4 with (refine wpList_store_mid rfl 72 _ _ rfl w3.heap.size 0 (cells5 H).toArray rfl rfl (R5.out.room _) (by kernel_rfl) (cells5_one _) ?_)
      rw [← H6.out]
      replace a0 := n6.cell a0
      replace a1 := n6.cell a1
      replace b0 := n6.cell b0
      replace b1 := n6.cell b1
      have N6 := Lib.hid (N3.out.trans n6); clear n6
      obtain ⟨c0, c1, c2, c3, c4⟩ := BX.out.five
      go_region_held3 (fun w' => w'.cell? ⟨w.heap.size, 0, none⟩ = some (.slice aa n ca) ∧ w'.cell? ⟨w.heap.size + 1, 0, none⟩ = some (.int .i64 f) ∧ w'.cell? ⟨w.heap.size + 1, 1, none⟩ = some (.int .i64 t) ∧ w'.cell? ⟨w3.heap.size, 0, none⟩ = some (.int .i64 (H[0]?.getD 0)) ∧ w'.cell? ⟨w3.heap.size, 1, none⟩ = some (.int .i64 (H[1]?.getD 0)) ∧ w'.cell? ⟨w3.heap.size, 2, none⟩ = some (.int .i64 (H[2]?.getD 0)) ∧ w'.cell? ⟨w3.heap.size, 3, none⟩ = some (.int .i64 (H[3]?.getD 0)) ∧ w'.cell? ⟨w3.heap.size, 4, none⟩ = some (.int .i64 (H[4]?.getD 0)))
        (first | exact ⟨a0, b0, b1, c0, c1, c2, c3, c4⟩ | exact ⟨n7.cell a0, n7.cell b0, n7.cell b1, n7.cell c0, n7.cell c1, n7.cell c2, n7.cell c3, n7.cell c4⟩ | exact ⟨n8.cell (n7.cell a0), n8.cell (n7.cell b0), n8.cell (n7.cell b1), n8.cell (n7.cell c0), n8.cell (n7.cell c1), n8.cell (n7.cell c2), n8.cell (n7.cell c3), n8.cell (n7.cell c4)⟩ | fail)
        (first
          | (go_at_call 63; refine (pour_any _ _ _ _ S H f t ?_ HG.out OK.out).mono ?_; exact HA.out.new (N6.out.trans (by repeat (first | with_reducible exact New.refl _ | with_reducible assumption | refine New.drewN ?_ _ | refine New.drew ?_ | refine New.alloc ?_ _ | refine New.setCell ?_ (by first | omega | (simp; omega) | (simp; done)) _ | (refine New.trans ?_ (by assumption))))); rintro e w7 ⟨rfl, n7⟩)
          | (go_at_call 62; refine (holdingsBehind_any _ _ _ _ S (poured S H f t) ?_ (HG.out.poured OK.out)).mono ?_; exact HA.out.new (N6.out.trans ((show New W6 w7 from New.trans (by repeat (first | with_reducible exact New.refl _ | with_reducible assumption | refine New.drewN ?_ _ | refine New.drew ?_ | refine New.alloc ?_ _ | refine New.setCell ?_ (by first | omega | (simp; omega) | (simp; done)) _ | (refine New.trans ?_ (by assumption)))) n7).trans (by repeat (first | with_reducible exact New.refl _ | with_reducible assumption | refine New.drewN ?_ _ | refine New.drew ?_ | refine New.alloc ?_ _ | refine New.setCell ?_ (by first | omega | (simp; omega) | (simp; done)) _ | (refine New.trans ?_ (by assumption)))))); rintro e w8 ⟨B, D, q, rfl, om, hs, n8⟩))
      have N8 := Lib.hid (show New W6 w8 from (show New W6 w7 from New.trans (by repeat (first | with_reducible exact New.refl _ | with_reducible assumption | refine New.drewN ?_ _ | refine New.drew ?_ | refine New.alloc ?_ _ | refine New.setCell ?_ (by first | omega | (simp; omega) | (simp; done)) _ | (refine New.trans ?_ (by assumption)))) n7).trans (New.trans (by repeat (first | with_reducible exact New.refl _ | with_reducible assumption | refine New.drewN ?_ _ | refine New.drew ?_ | refine New.alloc ?_ _ | refine New.setCell ?_ (by first | omega | (simp; omega) | (simp; done)) _ | (refine New.trans ?_ (by assumption)))) n8))
      have BX8 := Lib.hid (BX.out.new N8.out)
      have OM := Lib.hid om
      have HS := Lib.hid hs
      obtain ⟨l, hl⟩ := keyOf_hold H (Good.five HG.out)
      have HL := Lib.hid hl
      clear hl hs om n7 n8 a0 a1 b0 b1 c0 c1 c2 c3 c4
      go_wp2_with (first | (refine wpList_load_mid rfl 72 _ rfl w3.heap.size 0 rfl (cells5 H) _ BX8.out.range Try.underlying72 rfl (by kernel_rfl) ?_) | (at_lookup; refine wpList_lookup_own_bool _ rfl _ _ 84 rfl 72 4 holdLaw Try.underlying84 Try.underlying4 (by kernel_rfl) B q D rfl OM.out _ l rfl HL.out ?_; intro c hc; have HC := Lib.hid hc; clear hc))
      go_ret2
      refine ⟨ret_twob ?_ (by rw [UM.out]), N6.out.trans N8.out⟩
      rw [UM.out]
      have e1 := HC.out
      rw [HS.out.2 H l HL.out] at e1
      injection e1 with e1
      injection e1 with e1
      rw [← e1]
      unfold undoneB
      rw [← HN.out]
      have hlen := HG.out.2.1
      have hln := HG.out.1
      rw [Bool.eq_iff_iff, List.any_eq_true, List.any_eq_true]
      have hp : ∀ p : Int × Int, eq5 (poured S (poured S H f t) p.1 p.2) H = backB S H (poured S H f t) p := fun p => by
        rw [eq5_list (by rw [poured_len, poured_len]) (by rw [poured_len, poured_len]; omega)]
        rfl
      constructor
      · rintro ⟨p, h1, h2⟩
        exact ⟨p, h1, by rw [← hp]; exact h2⟩
      · rintro ⟨p, h1, h2⟩
        exact ⟨p, h1, by rw [hp]; exact h2⟩
    · have okn : moveB n f t = false := by simpa using okb
      have UM := Lib.hid (undoneM_no (show askedB S H f t = false by unfold askedB; rw [← HN.out, okn]; simp))
      go_enter Try.func34, Try.ntmps34
      go_wp2_with fail
      refine (iAreVessels_any _ _ _ _ _ _ _ _ _ (HA.out.new (by repeat (first | with_reducible exact New.refl _ | with_reducible assumption | refine New.drewN ?_ _ | refine New.drew ?_ | refine New.alloc ?_ _ | refine New.setCell ?_ (by first | omega | (simp; omega) | (simp; done)) _ | (refine New.trans ?_ (by assumption))))) (HB.out.new (by repeat (first | with_reducible exact New.refl _ | with_reducible assumption | refine New.drewN ?_ _ | refine New.drew ?_ | refine New.alloc ?_ _ | refine New.setCell ?_ (by first | omega | (simp; omega) | (simp; done)) _ | (refine New.trans ?_ (by assumption)))))).mono ?_
      rintro e w1 ⟨rfl, n1⟩
      have a0 : w1.cell? ⟨w.heap.size, 0, none⟩ = some (.slice aa n ca) := n1.cell (by simp [go_sem])
      have b0 : w1.cell? ⟨w.heap.size + 1, 0, none⟩ = some (.int .i64 f) := n1.cell (by simp [go_sem])
      have b1 : w1.cell? ⟨w.heap.size + 1, 1, none⟩ = some (.int .i64 t) := n1.cell (by simp [go_sem])
      have N1 := Lib.hid (show New w w1 from New.trans (by repeat (first | with_reducible exact New.refl _ | with_reducible assumption | refine New.drewN ?_ _ | refine New.drew ?_ | refine New.alloc ?_ _ | refine New.setCell ?_ (by first | omega | (simp; omega) | (simp; done)) _ | (refine New.trans ?_ (by assumption)))) n1); clear n1
      go_wp2_with fail
      refine (isMoveAmong_any _ n f t q5).mono ?_
      rintro e w2 ⟨rfl, n2⟩
      go_wp2
      go_ret2
      exact ⟨ret_twob (by rw [UM.out]) (by rw [UM.out]), N1.out.trans n2⟩
  · have hg' : goodB S H = false := by simpa using hg
    have UM := Lib.hid (undoneM_no (show askedB S H f t = false by unfold askedB; rw [hg']; rfl))
    go_enter Try.func34, Try.ntmps34
    go_wp2_with fail
    refine (iAreVessels_any _ _ _ _ _ _ _ _ _ (HA.out.new (by repeat (first | with_reducible exact New.refl _ | with_reducible assumption | refine New.drewN ?_ _ | refine New.drew ?_ | refine New.alloc ?_ _ | refine New.setCell ?_ (by first | omega | (simp; omega) | (simp; done)) _ | (refine New.trans ?_ (by assumption))))) (HB.out.new (by repeat (first | with_reducible exact New.refl _ | with_reducible assumption | refine New.drewN ?_ _ | refine New.drew ?_ | refine New.alloc ?_ _ | refine New.setCell ?_ (by first | omega | (simp; omega) | (simp; done)) _ | (refine New.trans ?_ (by assumption)))))).mono ?_
    rintro e w1 ⟨rfl, n1⟩
    go_wp2
    go_ret2
    exact ⟨ret_twob (by rw [UM.out]) (by rw [UM.out]), New.trans (by repeat (first | with_reducible exact New.refl _ | with_reducible assumption | refine New.drewN ?_ _ | refine New.drew ?_ | refine New.alloc ?_ _ | refine New.setCell ?_ (by first | omega | (simp; omega) | (simp; done)) _ | (refine New.trans ?_ (by assumption)))) n1⟩
end Go.Proofs.Ytkonhflamnekcaa
