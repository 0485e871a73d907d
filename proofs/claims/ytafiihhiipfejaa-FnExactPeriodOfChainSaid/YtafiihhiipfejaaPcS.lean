/- The period of a chain, by the model: a slow and a fast walk. -/
import Derived.Test.YtafiihhiipfejaaFloyd
namespace Go.Proofs.Ytafiihhiipfejaa
open Go.RowKit

theorem madeLevels (w : World) (n : Nat) (t : TypeId) (hn : n ≤ 4) : Levels (w.alloc (.cells (madeCells #[.int .i64 0, .bool false] (n * 2)) t)) (some ⟨w.heap.size, 0, none⟩) n n (zero4.take n) := by
  have hl : (zero4.take n).length = n := by rw [List.length_take]; show min n 4 = n; omega
  refine ⟨hl.symm, Nat.le_refl _, by omega, fun j hj => ⟨w.heap.size, 0, rfl, ?_, ?_⟩, fun e => by cases e⟩
  · match n, hn, j, hj with
    | 1, _, 0, _ => simp [go_sem, madeCells, zero4]
    | 2, _, 0, _ => simp [go_sem, madeCells, zero4]
    | 2, _, 1, _ => simp [go_sem, madeCells, zero4]
    | 3, _, 0, _ => simp [go_sem, madeCells, zero4]
    | 3, _, 1, _ => simp [go_sem, madeCells, zero4]
    | 3, _, 2, _ => simp [go_sem, madeCells, zero4]
    | 4, _, 0, _ => simp [go_sem, madeCells, zero4]
    | 4, _, 1, _ => simp [go_sem, madeCells, zero4]
    | 4, _, 2, _ => simp [go_sem, madeCells, zero4]
    | 4, _, 3, _ => simp [go_sem, madeCells, zero4]
  · match n, hn, j, hj with
    | 1, _, 0, _ => simp [go_sem, madeCells, zero4]
    | 2, _, 0, _ => simp [go_sem, madeCells, zero4]
    | 2, _, 1, _ => simp [go_sem, madeCells, zero4]
    | 3, _, 0, _ => simp [go_sem, madeCells, zero4]
    | 3, _, 1, _ => simp [go_sem, madeCells, zero4]
    | 3, _, 2, _ => simp [go_sem, madeCells, zero4]
    | 4, _, 0, _ => simp [go_sem, madeCells, zero4]
    | 4, _, 1, _ => simp [go_sem, madeCells, zero4]
    | 4, _, 2, _ => simp [go_sem, madeCells, zero4]
    | 4, _, 3, _ => simp [go_sem, madeCells, zero4]

def gL (l : List (Int × Int × Int × Int)) (x : Int) (k : Nat) : List (Int × Bool) := (chSt l x k).take l.length
theorem siAll_st (w : World) (aa : Option Addr) (n ca : Nat) (l : List (Int × Int × Int × Int)) (ba : Option Addr) (cb k : Nat) (x : Int) (ha : Siphons w aa n ca l) (hb : Levels w ba n cb (gL l x k)) (hc : ChainOk l) (x0 : 0 ≤ x) (x1 : x ≤ 60) :
    Calls Try.prog 47 #[.slice aa n ca, .slice ba n cb, .int .i64 x] w fun e w' => ∃ oa oc, e = .returned (.slice oa n oc) ∧ Levels w' oa n oc (gL l x (k + 1)) ∧ New w w' :=
  siAll_any w aa n ca l ba n cb _ (chSt l x k) x ha hb rfl hc (chSt_ok hc x0 x1 k) x0 x1
theorem siSame_yes (w : World) (aa ab : Option Addr) (n ca cb i j : Nat) (l : List (Int × Int × Int × Int)) (x : Int) (ha : Levels w aa n ca (gL l x i)) (hb : Levels w ab n cb (gL l x j)) (g : chSt l x i = chSt l x j) :
    Calls Try.prog 48 #[.slice aa n ca, .slice ab n cb] w fun e w' => e = .returned (.bool true) ∧ New w w' := by
  have q := siSame_any w aa n ca _ ab n cb _ ha hb rfl
  rw [decide_eq_true (show gL l x i = gL l x j by unfold gL; rw [g])] at q
  exact q
theorem siSame_no (w : World) (aa ab : Option Addr) (n ca cb i j : Nat) (l : List (Int × Int × Int × Int)) (x : Int) (ha : Levels w aa n ca (gL l x i)) (hb : Levels w ab n cb (gL l x j)) (hc : ChainOk l) (x0 : 0 ≤ x) (x1 : x ≤ 60) (g : chSt l x i ≠ chSt l x j) :
    Calls Try.prog 48 #[.slice aa n ca, .slice ab n cb] w fun e w' => e = .returned (.bool false) ∧ New w w' := by
  have q := siSame_any w aa n ca _ ab n cb _ ha hb rfl
  rw [decide_eq_false (show ¬ gL l x i = gL l x j from fun e => g ((take_same hc x0 x1 i j).1 e))] at q
  exact q

set_option maxRecDepth 100000 in
set_option maxHeartbeats 8000000 in
theorem sPeriodOfChain_any (w : World) (aa : Option Addr) (n ca : Nat) (l : List (Int × Int × Int × Int)) (x : Int) (ha : Siphons w aa n ca l) :
    Calls Try.prog 31 #[.slice aa n ca, .int .i64 x] w fun e w' => e = .returned (.tuple #[.int .i64 (pcS l x), .int .i64 (pcP l x), .bool (pcB l x)]) ∧ New w w' := by
  have HL := Lib.hid ha.1
  have hm1 := ha.2.2.1
  have HA := Lib.hid ha; clear ha
  by_cases hc : chainB l = true
  · by_cases hx : inB 0 60 x = true
    · have YES := Lib.hid (show (chainB l && inB 0 60 x) = true by rw [hc, hx]; rfl)
      have CO := Lib.hid (chainB_iff.1 hc)
      have XX := Lib.hid (inB_iff.1 hx)
      have n4 : n ≤ 4 := by have := CO.out.1; have := HL.out; omega
      have hmk : ∀ w0 : World, (Instr.makeSlice 71 (.int .i64 (n : Int)) (.int .i64 (n : Int))).run Try.prog w0 = .ok (.slice (some ⟨w0.heap.size, 0, none⟩) n n) (w0.alloc (.cells (madeCells #[.int .i64 0, .bool false] (n * 2)) 55)) := fun w0 => run_makeLevel Try.underlying71 (by omega) w0
      go_enter Try.func31, Try.ntmps31
      go_wp2_with fail
      refine (siChain_any _ _ _ _ l HA.out).mono ?_
      rintro e w1 ⟨rfl, n1⟩
      have N1 := Lib.hid n1; clear n1
      go_wp2_with fail
      refine (siInflow_any _ _).mono ?_
      rintro e w9 ⟨rfl, rfl⟩
      go_wp2_with fail
      have ZL := Lib.hid (show Levels (w1.alloc (.cells (madeCells #[.int .i64 0, .bool false] (n * 2)) 55)) (some ⟨w1.heap.size, 0, none⟩) n n (gL l x 0) by
        have q := madeLevels w1 n 55 n4
        have e : zero4.take n = gL l x 0 := by unfold gL; rw [← HL.out]; rfl
        rw [e] at q
        exact q)
      clear hc hx hmk
      refine (siAll_st _ _ _ _ l _ _ 0 x (HA.out.new (N1.out.alloc _)) ZL.out CO.out XX.out.1 XX.out.2).mono ?_
      rintro e w2 ⟨sa, sc, rfl, s2, n2⟩
      have Z2 := Lib.hid (ZL.out.new n2)
      have N2 := Lib.hid ((N1.out.alloc _).trans n2); clear n2
      have S2 := Lib.hid s2; clear s2
      obtain ⟨zb, hzb⟩ : ∃ zb, zb = w1.heap.size := ⟨_, rfl⟩
      rw [← hzb] at Z2 ⊢
      clear hzb
      go_wp2_with fail
      refine (siAll_st _ _ _ _ l _ _ 1 x (HA.out.new N2.out) S2.out CO.out XX.out.1 XX.out.2).mono ?_
      rintro e w3 ⟨fa, fc, rfl, f3, n3⟩
      have Z3 := Lib.hid (Z2.out.new n3)
      have S3 := Lib.hid (S2.out.new n3)
      have N3 := Lib.hid (N2.out.trans n3); clear n3
      have F3 := Lib.hid f3; clear f3
      go_wp2
      go_loopw [8, 9, 10] (fun vs vf vn wr => ∃ (k : Nat) (sa : Option Addr) (sc : Nat) (fa : Option Addr) (fc : Nat), 1 ≤ k ∧ k ≤ 10001 ∧ vn = .int .i64 k ∧ vs = .slice sa n sc ∧ vf = .slice fa n fc ∧ Levels wr sa n sc (gL l x k) ∧ Levels wr fa n fc (gL l x (k + k)) ∧ (∀ i, 1 ≤ i → i < k → chSt l x i ≠ chSt l x (i + i)) ∧ New w3 wr) (fun _ _ i _ => 10002 - (intOf i).toNat)
      case atStart => exact ⟨1, sa, sc, fa, fc, Nat.le_refl _, by omega, rfl, rfl, rfl, S3.out, F3.out, fun i h1 h2 => absurd h2 (by omega), New.refl _⟩
      case round =>
        obtain ⟨k, sa, sc, fa, fc, k1, k2, rfl, rfl, rfl, hs, hf, hd, hn⟩ := hrel
        have NW := Lib.hid hn; clear hn
        have S4 := Lib.hid hs; clear hs
        have F4 := Lib.hid hf; clear hf
        have DD := Lib.hid hd; clear hd
        by_cases g : chSt l x k = chSt l x (k + k)
        · have GG := Lib.hid g; clear g
          go_wp2_with fail
          refine (siSame_yes _ _ _ _ _ _ k (k + k) l x S4.out F4.out GG.out).mono ?_
          rintro e w4 ⟨rfl, n4'⟩
          have F5 := Lib.hid (show Levels w4 fa n fc (gL l x (k + 0)) by
            have q := F4.out.new n4'
            have e : gL l x (k + k) = gL l x (k + 0) := by unfold gL; rw [← GG.out]; rfl
            rw [e] at q
            exact q)
          have Z5 := Lib.hid (Z3.out.new (NW.out.trans n4'))
          have N5 := Lib.hid (N3.out.trans (NW.out.trans n4')); clear n4'
          clear NW S4 F4 DD Z3 Z2 ZL S2 S3 F3
          go_wp2
          obtain ⟨wx, hwx⟩ : ∃ wx, wx = wr := ⟨_, rfl⟩
          clear hwx
          go_loopw [8, 9, 11] (fun vs vf vn wr => ∃ (s : Nat) (sa : Option Addr) (sc : Nat) (fa : Option Addr) (fc : Nat), s ≤ k ∧ vn = .int .i64 s ∧ vs = .slice sa n sc ∧ vf = .slice fa n fc ∧ Levels wr sa n sc (gL l x s) ∧ Levels wr fa n fc (gL l x (k + s)) ∧ (∀ i, i < s → chSt l x i ≠ chSt l x (k + i)) ∧ New w4 wr) (fun _ _ i _ => k + 1 - (intOf i).toNat)
          case atStart => exact ⟨0, _, _, fa, fc, Nat.zero_le _, rfl, rfl, rfl, Z5.out, F5.out, fun i h => absurd h (by omega), New.refl _⟩
          case round =>
            obtain ⟨s, sa, sc, fa, fc, sk, rfl, rfl, rfl, hs, hf, hd, hn⟩ := hrel
            have NW := Lib.hid hn; clear hn
            have S4 := Lib.hid hs; clear hs
            have F4 := Lib.hid hf; clear hf
            have DD := Lib.hid hd; clear hd
            by_cases g2 : chSt l x s = chSt l x (k + s)
            · have G2 := Lib.hid g2; clear g2
              go_wp2_with fail
              refine (siSame_yes _ _ _ _ _ _ s (k + s) l x S4.out F4.out G2.out).mono ?_
              rintro e w5 ⟨rfl, n5⟩
              have S5 := Lib.hid (S4.out.new n5)
              have N6 := Lib.hid (N5.out.trans (NW.out.trans n5)); clear n5
              clear S4 F4 F5 Z5
              go_wp2_with fail
              refine (siAll_st _ _ _ _ l _ _ s x (HA.out.new N6.out) S5.out CO.out XX.out.1 XX.out.2).mono ?_
              rintro e w6 ⟨fa, fc, rfl, f6, n6⟩
              have S6 := Lib.hid (S5.out.new n6)
              have N7 := Lib.hid (N6.out.trans n6); clear n6
              have F6 := Lib.hid f6; clear f6
              go_wp2
              go_loopw [9, 12] (fun vf vn wr => ∃ (p : Nat) (fa : Option Addr) (fc : Nat), 1 ≤ p ∧ p ≤ k ∧ vn = .int .i64 p ∧ vf = .slice fa n fc ∧ Levels wr fa n fc (gL l x (s + p)) ∧ (∀ i, 1 ≤ i → i < p → chSt l x (s + i) ≠ chSt l x s) ∧ New w6 wr) (fun _ i _ => k + 1 - (intOf i).toNat)
              case atStart => exact ⟨1, fa, fc, Nat.le_refl _, k1, rfl, rfl, F6.out, fun i h1 h2 => absurd h2 (by omega), New.refl _⟩
              case round =>
                obtain ⟨p, fa, fc, p1, pk, rfl, rfl, hf, hd, hn⟩ := hrel
                have NP := Lib.hid hn; clear hn
                have F7 := Lib.hid hf; clear hf
                have DP := Lib.hid hd; clear hd
                by_cases g3 : chSt l x (s + p) = chSt l x s
                · have ME := Lib.hid (Meets.found (T := fun L => chTick l L x) (chSt_step l x) k1 G2.out DD.out p1 g3 DP.out)
                  have G3 := Lib.hid g3; clear g3
                  go_wp2_with fail
                  refine (siSame_yes _ _ _ _ _ _ (s + p) s l x F7.out (S6.out.new NP.out) G3.out).mono ?_
                  rintro e w7 ⟨rfl, n7⟩
                  have N8 := Lib.hid (N7.out.trans (NP.out.trans n7)); clear n7
                  by_cases h5 : s + p ≤ 5000
                  · have h5' : ¬ (5000 < (s : Int) + p) := by omega
                    obtain ⟨e1, e2, e3⟩ := pc_yes YES.out ME.out h5
                    have EE := Lib.hid (And.intro e1 (And.intro e2 e3)); clear e1 e2 e3
                    go_wp2
                    go_ret3
                    exact ⟨by rw [EE.out.1, EE.out.2.1, EE.out.2.2, show ((s + p : Nat) : Int) - s = p by omega]; rfl, N8.out⟩
                  · have h5' : 5000 < (s : Int) + p := by omega
                    obtain ⟨e1, e2, e3⟩ := pc_no YES.out fun i j hi hj => ME.out.1 i j hi (by omega)
                    have EE := Lib.hid (And.intro e1 (And.intro e2 e3)); clear e1 e2 e3
                    go_wp2
                    go_ret3
                    exact ⟨by rw [EE.out.1, EE.out.2.1, EE.out.2.2]; rfl, N8.out⟩
                · have hp : p < k := by
                    rcases Nat.lt_or_ge p k with q | q
                    · exact q
                    · exfalso
                      obtain rfl : p = k := by omega
                      exact g3 (by rw [Nat.add_comm]; exact G2.out.symm)
                  have G3 := Lib.hid g3; clear g3
                  go_wp2_with fail
                  refine (siSame_no _ _ _ _ _ _ (s + p) s l x F7.out (S6.out.new NP.out) CO.out XX.out.1 XX.out.2 G3.out).mono ?_
                  rintro e w7 ⟨rfl, n7⟩
                  have F8 := Lib.hid (F7.out.new n7)
                  have NQ := Lib.hid (NP.out.trans n7); clear n7
                  go_wp2_with fail
                  refine (siAll_st _ _ _ _ l _ _ (s + p) x (HA.out.new (N7.out.trans NQ.out)) F8.out CO.out XX.out.1 XX.out.2).mono ?_
                  rintro e w8 ⟨fa, fc, rfl, f8, n8⟩
                  have F9 := Lib.hid f8; clear f8
                  have NR := Lib.hid (NQ.out.trans n8); clear n8
                  go_wp2
                  go_roundw
                  case rel =>
                    refine ⟨p + 1, fa, fc, by omega, by omega, by go_num, rfl, F9.out, fun i h1 h2 => ?_, NR.out⟩
                    by_cases q : i = p
                    · subst q; exact G3.out
                    · exact DP.out i h1 (by omega)
                  case measure => simp [intOf]; omega
            · have hsk : s < k := by
                rcases Nat.lt_or_ge s k with q | q
                · exact q
                · exfalso
                  obtain rfl : s = k := by omega
                  exact g2 GG.out
              have G2 := Lib.hid g2; clear g2
              go_wp2_with fail
              refine (siSame_no _ _ _ _ _ _ s (k + s) l x S4.out F4.out CO.out XX.out.1 XX.out.2 G2.out).mono ?_
              rintro e w5 ⟨rfl, n5⟩
              have S5 := Lib.hid (S4.out.new n5)
              have F6 := Lib.hid (F4.out.new n5)
              have N6 := Lib.hid (NW.out.trans n5); clear n5
              go_wp2_with fail
              refine (siAll_st _ _ _ _ l _ _ s x (HA.out.new (N5.out.trans N6.out)) S5.out CO.out XX.out.1 XX.out.2).mono ?_
              rintro e w6 ⟨sa6, sc6, rfl, s6, n6⟩
              have S7 := Lib.hid s6; clear s6
              have F7 := Lib.hid (F6.out.new n6)
              have N7 := Lib.hid (N6.out.trans n6); clear n6
              go_wp2_with fail
              refine (siAll_st _ _ _ _ l _ _ (k + s) x (HA.out.new (N5.out.trans N7.out)) F7.out CO.out XX.out.1 XX.out.2).mono ?_
              rintro e w7 ⟨fa7, fc7, rfl, f7, n7⟩
              have S8 := Lib.hid (S7.out.new n7)
              have F8 := Lib.hid f7; clear f7
              have N8 := Lib.hid (N7.out.trans n7); clear n7
              go_wp2
              go_roundw
              case rel =>
                refine ⟨s + 1, sa6, sc6, fa7, fc7, by omega, by go_num, rfl, rfl, S8.out, F8.out, fun i h => ?_, N8.out⟩
                by_cases q : i = s
                · subst q; exact G2.out
                · exact DD.out i (by omega)
              case measure => simp [intOf]; omega
        · have G1 := Lib.hid g; clear g
          go_wp2_with fail
          refine (siSame_no _ _ _ _ _ _ k (k + k) l x S4.out F4.out CO.out XX.out.1 XX.out.2 G1.out).mono ?_
          rintro e w4 ⟨rfl, n4'⟩
          have S5 := Lib.hid (S4.out.new n4')
          have F5 := Lib.hid (F4.out.new n4')
          have N5 := Lib.hid (NW.out.trans n4'); clear n4'
          by_cases hk : k ≤ 10000
          · have hk' : ¬ (10000 < (k : Int)) := by omega
            go_wp2_with fail
            refine (siAll_st _ _ _ _ l _ _ k x (HA.out.new (N3.out.trans N5.out)) S5.out CO.out XX.out.1 XX.out.2).mono ?_
            rintro e w6 ⟨sa6, sc6, rfl, s6, n6⟩
            have S7 := Lib.hid s6; clear s6
            have F7 := Lib.hid (F5.out.new n6)
            have N7 := Lib.hid (N5.out.trans n6); clear n6
            go_wp2_with fail
            refine (siAll_st _ _ _ _ l _ _ (k + k) x (HA.out.new (N3.out.trans N7.out)) F7.out CO.out XX.out.1 XX.out.2).mono ?_
            rintro e w7 ⟨fa7, fc7, rfl, f7, n7⟩
            have S8 := Lib.hid (S7.out.new n7)
            have F8 := Lib.hid f7; clear f7
            have N8 := Lib.hid (N7.out.trans n7); clear n7
            go_wp2_with fail
            refine (siAll_st _ _ _ _ l _ _ (k + k + 1) x (HA.out.new (N3.out.trans N8.out)) F8.out CO.out XX.out.1 XX.out.2).mono ?_
            rintro e w8 ⟨fa8, fc8, rfl, f8, n8⟩
            have S9 := Lib.hid (S8.out.new n8)
            have F9 := Lib.hid f8; clear f8
            have N9 := Lib.hid (N8.out.trans n8); clear n8
            go_wp2
            go_roundw
            case rel =>
              refine ⟨k + 1, sa6, sc6, fa8, fc8, by omega, by omega, by go_num, rfl, rfl, S9.out, ?_, fun i h1 h2 => ?_, N9.out⟩
              · have q := F9.out
                rw [show k + k + 1 + 1 = k + 1 + (k + 1) by omega] at q
                exact q
              · by_cases q : i = k
                · subst q; exact G1.out
                · exact DD.out i h1 (by omega)
            case measure => simp [intOf]; omega
          · have hk' : 10000 < (k : Int) := by omega
            obtain ⟨e1, e2, e3⟩ := pc_no YES.out (by
              rcases meet_ex (chSt l x) 5001 with q | ⟨N, K, hm, hN⟩
              · exact q
              · obtain ⟨m, m1, m2, m3⟩ := hm.lap (T := fun L => chTick l L x) (chSt_step l x)
                exact absurd m3 (DD.out m m1 (by omega)))
            have EE := Lib.hid (And.intro e1 (And.intro e2 e3)); clear e1 e2 e3
            go_wp2
            go_ret3
            exact ⟨by rw [EE.out.1, EE.out.2.1, EE.out.2.2]; rfl, N3.out.trans N5.out⟩
    · have hx' : inB 0 60 x = false := by simpa using hx
      obtain ⟨e1, e2, e3⟩ := pc_bad (show (chainB l && inB 0 60 x) = false by rw [hc, hx']; rfl)
      rw [e1, e2, e3]
      go_enter Try.func31, Try.ntmps31
      go_wp2_with fail
      refine (siChain_any _ _ _ _ l HA.out).mono ?_
      rintro e w1 ⟨rfl, n1⟩
      have N1 := Lib.hid n1; clear n1
      go_wp2_with fail
      refine (siInflow_any _ _).mono ?_
      rintro e w9 ⟨rfl, rfl⟩
      go_wp2
      go_ret3
      exact ⟨rfl, N1.out⟩
  · have hc' : chainB l = false := by simpa using hc
    obtain ⟨e1, e2, e3⟩ := pc_bad (show (chainB l && inB 0 60 x) = false by rw [hc']; rfl)
    rw [e1, e2, e3]
    go_enter Try.func31, Try.ntmps31
    go_wp2_with fail
    refine (siChain_any _ _ _ _ l HA.out).mono ?_
    rintro e w1 ⟨rfl, n1⟩
    have N1 := Lib.hid n1; clear n1
    go_wp2
    go_ret3
    exact ⟨rfl, N1.out⟩
end Go.Proofs.Ytafiihhiipfejaa
