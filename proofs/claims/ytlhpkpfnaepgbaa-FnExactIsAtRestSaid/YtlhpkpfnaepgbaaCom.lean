/- The program's common level: from a guess it falls to the common level, whatever the guess. -/
import Derived.Test.YtlhpkpfnaepgbaaComI
namespace Go.Proofs.Ytlhpkpfnaepgbaa
open Go.RowKit Go.IntWalk Go.Shelf

theorem IsUp.lvl {T : List Tk} (hT : ∀ t ∈ T, TkOk t) {p : Int × Int} (h : IsUp T p) (he : overR T (p.1 / p.2) = p) : IsLvl T p := (h.step hT).2 (by rw [he])
theorem lvl_ex {T : List Tk} (hT : ∀ t ∈ T, TkOk t) (m : Nat) : ∀ p, IsUp T p → lvMu T p ≤ m → ∃ q, IsLvl T q := by
  induction m with
  | zero =>
    intro p hp hm
    by_cases he : overR T (p.1 / p.2) = p
    · exact ⟨p, hp.lvl hT he⟩
    · have := hp.falls hT he; omega
  | succ m ih =>
    intro p hp hm
    by_cases he : overR T (p.1 / p.2) = p
    · exact ⟨p, hp.lvl hT he⟩
    · have := hp.falls hT he
      exact ih _ (over_up hT hp.floor) (by omega)
/-- The common level. -/
noncomputable def comR (T : List Tk) : Int × Int := Classical.epsilon (IsLvl T)
theorem com_lvl {T : List Tk} (h : TksOk T) : IsLvl T (comR T) := by
  refine Classical.epsilon_spec ?_
  obtain ⟨t, ht, _⟩ := lfL_mem h
  have hu := over_up h.all ⟨t, ht, (h.all t ht).f2⟩
  exact lvl_ex h.all _ _ hu (Nat.le_refl _)
theorem com_eq {T : List Tk} (h : TksOk T) {p : Int × Int} (hp : IsLvl T p) : comR T = p := (com_lvl h).unique h.all hp

theorem overR_bd {T : List Tk} (h : TksOk T) {top : Int} (hf : ∃ t ∈ T, t.2.1 ≤ top) : 0 ≤ (overR T top).1 ∧ (overR T top).1 ≤ 90000 ∧ 0 < (overR T top).2 ∧ (overR T top).2 ≤ 300 := by
  have b := over_bd h top
  have bw := watL_bd h
  have hp := overD_pos h.all hf
  have := red_le (n := overN T top) hp
  have := red_pos (n := overN T top) hp
  unfold overR
  unfold overN overD at *
  omega
theorem com_bd {T : List Tk} (h : TksOk T) : 0 ≤ (comR T).1 ∧ (comR T).1 ≤ 90000 ∧ 0 < (comR T).2 ∧ (comR T).2 ≤ 300 := by
  have hl := com_lvl h
  have hs := hl.up.step h.all
  have hu := over_up h.all hl.up.floor
  have hb := overR_bd h hl.up.floor
  -- the level over its own floors is the common level again
  have h1 := hl.le h.all (n := (overR T ((comR T).1 / (comR T).2)).1) (d := (overR T ((comR T).1 / (comR T).2)).2) hu.pos hu.ge hu.fl
  have e := cross_eq hu.pos hl.pos hu.cop hl.cop (by omega)
  have e1 := e.1
  have e2 := e.2
  omega

def rdR (w : World) (b : Nat) : Int × Int := (intOf ((w.cell? ⟨b, 0, none⟩).getD undef), intOf ((w.cell? ⟨b, 1, none⟩).getD undef))
theorem rdR_eq {w : World} {b : Nat} {x y : Int} (h0 : w.cell? ⟨b, 0, none⟩ = some (.int .i64 x)) (h1 : w.cell? ⟨b, 1, none⟩ = some (.int .i64 y)) : rdR w b = (x, y) := by
  unfold rdR; rw [h0, h1]; rfl

theorem overR_up {T : List Tk} (h : TksOk T) {top : Int} (hf : ∃ t ∈ T, t.2.1 ≤ top) : IsUp T (overR T top) := over_up h.all hf

theorem put2 {W : World} {B : Nat} {x y u v : Value} {o : Obj} (h0 : W.cell? ⟨B, 0, none⟩ = some u) (h1 : W.cell? ⟨B, 1, none⟩ = some v) (f0 : W.frozen? ⟨B, 0, none⟩ = false) (f1 : W.frozen? ⟨B, 1, none⟩ = false) :
    let W' := ((W.setCell ⟨B, 0, none⟩ x).setCell ⟨B, 1, none⟩ y).alloc o
    W'.cell? ⟨B, 0, none⟩ = some x ∧ W'.cell? ⟨B, 1, none⟩ = some y ∧ W'.frozen? ⟨B, 0, none⟩ = false ∧ W'.frozen? ⟨B, 1, none⟩ = false := by
  have e : (⟨B, 0, none⟩ : Addr) ≠ ⟨B, 1, none⟩ := by simp
  have k0 : ((W.setCell ⟨B, 0, none⟩ x).setCell ⟨B, 1, none⟩ y).cell? ⟨B, 0, none⟩ = some x := (set_other (Ne.symm e)).trans (set_same h0)
  have k1 : ((W.setCell ⟨B, 0, none⟩ x).setCell ⟨B, 1, none⟩ y).cell? ⟨B, 1, none⟩ = some y := set_same ((set_other e).trans h1)
  refine ⟨World.cell_kept k0, World.cell_kept k1, ?_, ?_⟩
  · exact ((New.refl _).alloc _).frz k0 (by simpa using f0)
  · exact ((New.refl _).alloc _).frz k1 (by simpa using f1)

set_option maxRecDepth 100000 in
theorem commonLevel_any (w : World) (aa : Option Addr) (n ca : Nat) (T : List Tk) (ha : Tanks w aa n ca T) (hT : TksOk T) :
    Calls Try.prog 38 #[.slice aa n ca] w fun e w' => e = .returned (ratV (comR T)) ∧ New w w' := by
  have HA := Lib.hid ha; clear ha
  have HT := Lib.hid hT; clear hT
  have hlb := lfK_bd HT.out T.length (Nat.le_refl _)
  have hwb := watL_bd HT.out
  go_enter Try.func38, Try.ntmps38
  go_upto_region 1 with fail
  obtain ⟨v0, hv0⟩ : ∃ v, v = w.alloc (.cells #[.int .i64 0, .int .i64 0] 58) := ⟨_, rfl⟩
  rw [← hv0]
  have R0 := Lib.hid (show v0.cell? ⟨w.heap.size, 0, none⟩ = some (.int .i64 0) ∧ v0.cell? ⟨w.heap.size, 1, none⟩ = some (.int .i64 0) ∧ v0.frozen? ⟨w.heap.size, 0, none⟩ = false ∧ v0.frozen? ⟨w.heap.size, 1, none⟩ = false by rw [hv0]; simp [go_sem])
  have N0 := Lib.hid (show New w v0 by rw [hv0]; exact (by repeat (first | with_reducible exact New.refl _ | with_reducible assumption | refine New.drewN ?_ _ | refine New.drew ?_ | refine New.alloc ?_ _ | refine New.setCell ?_ (by first | omega | (simp; omega) | (simp; done)) _ | (refine New.trans ?_ (by assumption)))))
  clear hv0
  go_wp2_with fail
  refine (guessedLevel_any _ _ _ _ T (HA.out.new N0.out) HT.out).mono ?_
  rintro e w1 ⟨r, rfl, hr, n1⟩
  obtain ⟨g, hg, hg1, hg2⟩ := rng_toInt hr (by unfold lfL; omega)
  have hcv : ∀ (s d : TypeId) (w : World) (hs : (Try.prog.underlying s).isSome = true) (hd : Try.prog.underlying d = some (.int .i64)), (convert s d (.float .f32 r)).run Try.prog w = .ok (.int .i64 (g : Int)) w := fun s d w hs hd => run_convert_float_int w s d .f32 .i64 r g hs hd hg
  have N1 := Lib.hid n1; clear n1 hr hg
  have hcv' := hcv 73 3
  have HG := Lib.hid (show ∃ t ∈ T, t.2.1 ≤ (g : Int) by obtain ⟨t, ht, e⟩ := lfL_mem HT.out; exact ⟨t, ht, by unfold lfL at e; unfold lfL at hg1; omega⟩)
  clear hg1 hg2 hlb hwb
  go_wp2_with fail
  refine (levelOver_any _ _ _ _ T _ (HA.out.new (N0.out.trans N1.out)) HT.out HG.out).mono ?_
  rintro e w2 ⟨rfl, n2⟩
  have N2 := Lib.hid (N1.out.trans n2); clear n2 hcv hcv'
  have HU := Lib.hid (overR_up HT.out HG.out)
  have HB := Lib.hid (overR_bd HT.out HG.out)
  obtain ⟨p, hp⟩ : ∃ p, p = overR T (g : Int) := ⟨_, rfl⟩
  rw [← hp] at HU HB
  rw [← hp]
  clear hp
  obtain ⟨p1, p2⟩ := p
  go_wp2
  go_loopw [4] (fun _ wr => ∃ N D : Int, IsUp T (N, D) ∧ 0 ≤ N ∧ N ≤ 90000 ∧ 0 < D ∧ D ≤ 300 ∧ wr.cell? ⟨w2.heap.size, 0, none⟩ = some (.int .i64 N) ∧ wr.cell? ⟨w2.heap.size, 1, none⟩ = some (.int .i64 D) ∧ wr.frozen? ⟨w2.heap.size, 0, none⟩ = false ∧ wr.frozen? ⟨w2.heap.size, 1, none⟩ = false ∧ New v0 wr) (fun _ wr => lvMu T (rdR wr w2.heap.size))
  case atStart => exact ⟨p1, p2, HU.out, HB.out.1, HB.out.2.1, HB.out.2.2.1, HB.out.2.2.2, by simp [go_sem], by simp [go_sem], by simp [go_sem], by simp [go_sem], by have := N2.out; (repeat (first | with_reducible exact New.refl _ | with_reducible assumption | refine New.drewN ?_ _ | refine New.drew ?_ | refine New.alloc ?_ _ | refine New.setCell ?_ (by first | omega | (simp; omega) | (simp; done)) _ | (refine New.trans ?_ (by assumption))))⟩
  case round =>
    clear HU HB HG
    obtain ⟨N, D, hu, b1, b2, b3, b4, c0, c1, f0, f1, hnw⟩ := hrel
    have NW := Lib.hid hnw; clear hnw
    have HU := Lib.hid hu; clear hu
    have hd0 : ¬ D = 0 := by omega
    have RD := Lib.hid (rdR_eq c0 c1)
    have z2 := N2.out.size
    have z0 : w.heap.size < v0.heap.size := World.block_lt_of_cell? _ _ R0.out.1
    obtain ⟨rc0, rc1, rf0, rf1⟩ := pair_kept NW.out R0.out
    have hw : IntKind.i64.wrap (N.tdiv D) = N / D := by rw [Int.tdiv_eq_ediv_of_nonneg b1]; exact i64_in _ (by have := Int.ediv_nonneg b1 (show 0 ≤ D by omega); have := Int.ediv_le_self D b1; omega)
    go_wp2_with fail
    have HF := Lib.hid (show ∃ t ∈ T, t.2.1 ≤ N / D from HU.out.floor)
    refine (levelOver_any _ _ _ _ T _ (HA.out.new (N0.out.trans NW.out)) HT.out HF.out).mono ?_
    rintro e w3 ⟨rfl, n3⟩
    obtain ⟨d0, d1, g0, g1⟩ := pair_kept n3 ⟨c0, c1, f0, f1⟩
    obtain ⟨sc0, sc1, sf0, sf1⟩ := pair_kept n3 ⟨rc0, rc1, rf0, rf1⟩
    have N3 := Lib.hid (NW.out.trans n3)
    have z3 := n3.size
    clear n3 c0 c1 f0 f1 rc0 rc1 rf0 rf1 hw
    have HQ := Lib.hid (overR_up HT.out HF.out)
    have HB := Lib.hid (overR_bd HT.out HF.out)
    obtain ⟨q, hq⟩ : ∃ q, q = overR T (N / D) := ⟨_, rfl⟩
    rw [← hq] at HQ HB
    rw [← hq]
    have EQ := Lib.hid hq; clear hq
    obtain ⟨N', D'⟩ := q
    have zb : w2.heap.size < w3.heap.size := World.block_lt_of_cell? _ _ d0
    have za : w.heap.size < w3.heap.size := by omega
    have zc : w.heap.size < w2.heap.size := by omega
    by_cases e1 : N' = N
    · subst e1
      by_cases e2 : D' = D
      · subst e2
        have HC := Lib.hid (com_eq HT.out (HU.out.lvl HT.out.all EQ.out.symm))
        go_wp2
        refine bodyPost_ret (v := ratV (N', D')) (by simp [results, Try.results38, go_sem, sc0, sc1, za]) rfl ⟨by rw [HC.out], ?_⟩
        have := N0.out.trans N3.out
        (repeat (first | with_reducible exact New.refl _ | with_reducible assumption | refine New.drewN ?_ _ | refine New.drew ?_ | refine New.alloc ?_ _ | refine New.setCell ?_ (by first | omega | (simp; omega) | (simp; done)) _ | (refine New.trans ?_ (by assumption))))
      · go_wp2
        go_roundw
        case rel => exact ⟨N', D', HQ.out, HB.out.1, HB.out.2.1, HB.out.2.2.1, HB.out.2.2.2, (put2 d0 d1 g0 g1).1, (put2 d0 d1 g0 g1).2.1, (put2 d0 d1 g0 g1).2.2.1, (put2 d0 d1 g0 g1).2.2.2, by have := N3.out; (repeat (first | with_reducible exact New.refl _ | with_reducible assumption | refine New.drewN ?_ _ | refine New.drew ?_ | refine New.alloc ?_ _ | refine New.setCell ?_ (by first | omega | (simp; omega) | (simp; done)) _ | (refine New.trans ?_ (by assumption))))⟩
        case measure =>
          rw [RD.out, rdR_eq (x := N') (y := D') (put2 d0 d1 g0 g1).1 (put2 d0 d1 g0 g1).2.1]
          have := HU.out.falls HT.out.all (by rw [← EQ.out]; intro h; exact e2 (congrArg Prod.snd h))
          rw [← EQ.out] at this
          exact this
    · go_wp2
      go_roundw
      case rel => exact ⟨N', D', HQ.out, HB.out.1, HB.out.2.1, HB.out.2.2.1, HB.out.2.2.2, (put2 d0 d1 g0 g1).1, (put2 d0 d1 g0 g1).2.1, (put2 d0 d1 g0 g1).2.2.1, (put2 d0 d1 g0 g1).2.2.2, by have := N3.out; (repeat (first | with_reducible exact New.refl _ | with_reducible assumption | refine New.drewN ?_ _ | refine New.drew ?_ | refine New.alloc ?_ _ | refine New.setCell ?_ (by first | omega | (simp; omega) | (simp; done)) _ | (refine New.trans ?_ (by assumption))))⟩
      case measure =>
        rw [RD.out, rdR_eq (x := N') (y := D') (put2 d0 d1 g0 g1).1 (put2 d0 d1 g0 g1).2.1]
        have := HU.out.falls HT.out.all (by rw [← EQ.out]; intro h; exact e1 (congrArg Prod.fst h))
        rw [← EQ.out] at this
        exact this
end Go.Proofs.Ytlhpkpfnaepgbaa
