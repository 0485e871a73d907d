/- The laws' helpers over Vessels and Move. -/
import Derived.Test.YthnhckccmfjcmaaHelp
namespace Go.Proofs.Ythnhckccmfjcmaa
open Go.RowKit

theorem eqVessels_any (w : World) (aa ab ba bb : Option Addr) (n m p q ca cb cc cd : Nat) (S H S' H' : List Int)
    (h1 : Ints w aa n ca S) (h2 : Ints w ab m cb H) (h3 : Ints w ba p cc S') (h4 : Ints w bb q cd H') :
    Calls Try.prog 14 #[.agg #[.slice aa n ca, .slice ab m cb], .agg #[.slice ba p cc, .slice bb q cd]] w fun e w' => e = .returned (.bool (decide (S = S' ∧ H = H'))) ∧ New w w' := by
  have G1 := Lib.hid h1; clear h1
  have G2 := Lib.hid h2; clear h2
  have G3 := Lib.hid h3; clear h3
  have G4 := Lib.hid h4; clear h4
  by_cases hS : S = S'
  · subst hS
    by_cases hH : H = H'
    · subst hH
      go_enter Try.func14, Try.ntmps14
      go_wp2_with fail
      refine (eqIntS_any _ _ _ _ _ _ _ _ _ (G1.out.new (by repeat (first | with_reducible exact New.refl _ | with_reducible assumption | refine New.drewN ?_ _ | refine New.drew ?_ | refine New.alloc ?_ _ | refine New.setCell ?_ (by first | omega | (simp; omega) | (simp; done)) _ | (refine New.trans ?_ (by assumption))))) (G3.out.new (by repeat (first | with_reducible exact New.refl _ | with_reducible assumption | refine New.drewN ?_ _ | refine New.drew ?_ | refine New.alloc ?_ _ | refine New.setCell ?_ (by first | omega | (simp; omega) | (simp; done)) _ | (refine New.trans ?_ (by assumption)))))).mono ?_
      rintro e w1 ⟨rfl, q1, rfl⟩
      go_wp2_with fail
      refine (eqIntS_any _ _ _ _ _ _ _ _ _ (G2.out.new (by repeat (first | with_reducible exact New.refl _ | with_reducible assumption | refine New.drewN ?_ _ | refine New.drew ?_ | refine New.alloc ?_ _ | refine New.setCell ?_ (by first | omega | (simp; omega) | (simp; done)) _ | (refine New.trans ?_ (by assumption))))) (G4.out.new (by repeat (first | with_reducible exact New.refl _ | with_reducible assumption | refine New.drewN ?_ _ | refine New.drew ?_ | refine New.alloc ?_ _ | refine New.setCell ?_ (by first | omega | (simp; omega) | (simp; done)) _ | (refine New.trans ?_ (by assumption)))))).mono ?_
      rintro e w1 ⟨rfl, q2, rfl⟩
      go_wp2
      go_ret
      exact ⟨ret_bool (by simp), (by repeat (first | with_reducible exact New.refl _ | with_reducible assumption | refine New.drewN ?_ _ | refine New.drew ?_ | refine New.alloc ?_ _ | refine New.setCell ?_ (by first | omega | (simp; omega) | (simp; done)) _ | (refine New.trans ?_ (by assumption))))⟩
    · go_enter Try.func14, Try.ntmps14
      go_wp2_with fail
      refine (eqIntS_any _ _ _ _ _ _ _ _ _ (G1.out.new (by repeat (first | with_reducible exact New.refl _ | with_reducible assumption | refine New.drewN ?_ _ | refine New.drew ?_ | refine New.alloc ?_ _ | refine New.setCell ?_ (by first | omega | (simp; omega) | (simp; done)) _ | (refine New.trans ?_ (by assumption))))) (G3.out.new (by repeat (first | with_reducible exact New.refl _ | with_reducible assumption | refine New.drewN ?_ _ | refine New.drew ?_ | refine New.alloc ?_ _ | refine New.setCell ?_ (by first | omega | (simp; omega) | (simp; done)) _ | (refine New.trans ?_ (by assumption)))))).mono ?_
      rintro e w1 ⟨rfl, q1, rfl⟩
      go_wp2_with fail
      refine (eqIntS_any _ _ _ _ _ _ _ _ _ (G2.out.new (by repeat (first | with_reducible exact New.refl _ | with_reducible assumption | refine New.drewN ?_ _ | refine New.drew ?_ | refine New.alloc ?_ _ | refine New.setCell ?_ (by first | omega | (simp; omega) | (simp; done)) _ | (refine New.trans ?_ (by assumption))))) (G4.out.new (by repeat (first | with_reducible exact New.refl _ | with_reducible assumption | refine New.drewN ?_ _ | refine New.drew ?_ | refine New.alloc ?_ _ | refine New.setCell ?_ (by first | omega | (simp; omega) | (simp; done)) _ | (refine New.trans ?_ (by assumption)))))).mono ?_
      rintro e w1 ⟨rfl, q2, rfl⟩
      go_wp2
      go_ret
      exact ⟨ret_bool (by simp [hH]), (by repeat (first | with_reducible exact New.refl _ | with_reducible assumption | refine New.drewN ?_ _ | refine New.drew ?_ | refine New.alloc ?_ _ | refine New.setCell ?_ (by first | omega | (simp; omega) | (simp; done)) _ | (refine New.trans ?_ (by assumption))))⟩
  · go_enter Try.func14, Try.ntmps14
    go_wp2_with fail
    refine (eqIntS_any _ _ _ _ _ _ _ _ _ (G1.out.new (by repeat (first | with_reducible exact New.refl _ | with_reducible assumption | refine New.drewN ?_ _ | refine New.drew ?_ | refine New.alloc ?_ _ | refine New.setCell ?_ (by first | omega | (simp; omega) | (simp; done)) _ | (refine New.trans ?_ (by assumption))))) (G3.out.new (by repeat (first | with_reducible exact New.refl _ | with_reducible assumption | refine New.drewN ?_ _ | refine New.drew ?_ | refine New.alloc ?_ _ | refine New.setCell ?_ (by first | omega | (simp; omega) | (simp; done)) _ | (refine New.trans ?_ (by assumption)))))).mono ?_
    rintro e w1 ⟨rfl, q1, rfl⟩
    go_wp2
    go_ret
    exact ⟨ret_bool (by simp [hS]), (by repeat (first | with_reducible exact New.refl _ | with_reducible assumption | refine New.drewN ?_ _ | refine New.drew ?_ | refine New.alloc ?_ _ | refine New.setCell ?_ (by first | omega | (simp; omega) | (simp; done)) _ | (refine New.trans ?_ (by assumption))))⟩

theorem szVessels_any (w : World) (aa ab : Option Addr) (n m ca cb : Nat) (left : Int) (hn : n ≤ 9223372036854775807) (hm : m ≤ 9223372036854775807) (h0 : 0 ≤ left) (h1 : left ≤ 1048576) :
    Calls Try.prog 17 #[.agg #[.slice aa n ca, .slice ab m cb], .int .i64 left] w fun e w' => ∃ r : Int, e = .returned (.int .i64 r) ∧ -1 ≤ r ∧ r ≤ left ∧ SzOk left (n + m) r ∧ New w w' := by
  go_enter Try.func17, Try.ntmps17
  go_wp2_with fail
  refine (szIntS_any _ _ _ _ _ hn h0 h1).mono ?_
  rintro e w1 ⟨r, rfl, g1, g2, g3, rfl⟩
  have G3 := Lib.hid g3; clear g3
  by_cases hr : r < 0
  · go_wp2
    go_ret
    exact ⟨-1, rfl, by omega, by omega, fun h => absurd h (by omega), (by repeat (first | with_reducible exact New.refl _ | with_reducible assumption | refine New.drewN ?_ _ | refine New.drew ?_ | refine New.alloc ?_ _ | refine New.setCell ?_ (by first | omega | (simp; omega) | (simp; done)) _ | (refine New.trans ?_ (by assumption))))⟩
  · go_wp2_with fail
    refine (szIntS_any _ _ _ _ _ hm (by omega) (by omega)).mono ?_
    rintro e w1 ⟨r2, rfl, g4, g5, g6, rfl⟩
    have G6 := Lib.hid g6; clear g6
    by_cases hr2 : r2 < 0
    · go_wp2
      go_ret
      exact ⟨-1, rfl, by omega, by omega, fun h => absurd h (by omega), (by repeat (first | with_reducible exact New.refl _ | with_reducible assumption | refine New.drewN ?_ _ | refine New.drew ?_ | refine New.alloc ?_ _ | refine New.setCell ?_ (by first | omega | (simp; omega) | (simp; done)) _ | (refine New.trans ?_ (by assumption))))⟩
    · go_wp2
      go_ret
      refine ⟨r2, rfl, by omega, by omega, fun _ => ?_, (by repeat (first | with_reducible exact New.refl _ | with_reducible assumption | refine New.drewN ?_ _ | refine New.drew ?_ | refine New.alloc ?_ _ | refine New.setCell ?_ (by first | omega | (simp; omega) | (simp; done)) _ | (refine New.trans ?_ (by assumption))))⟩
      have a := G3.out (by omega)
      have b := G6.out (by omega)
      omega

/-- The two slices of vessels, each in a row of its own, apart from each other. -/
def OwnV (w : World) (lo hi : Nat) (aa : Option Addr) (n ca : Nat) (ab : Option Addr) (m cb : Nat) (S H : List Int) : Prop :=
  Own w lo hi aa n ca S ∧ Own w lo hi ab m cb H ∧ (n ≠ 0 → m ≠ 0 → blkOf aa ≠ blkOf ab)
theorem OwnV.new {w w' : World} {lo hi : Nat} {aa ab : Option Addr} {n m ca cb : Nat} {S H : List Int} (h : OwnV w lo hi aa n ca ab m cb S H) (k : New w w') : OwnV w' lo hi aa n ca ab m cb S H :=
  ⟨h.1.new k, h.2.1.new k, h.2.2⟩
theorem OwnV.chg {P : Nat → Prop} {w w' : World} {lo hi : Nat} {aa ab : Option Addr} {n m ca cb : Nat} {S H : List Int} (h : OwnV w lo hi aa n ca ab m cb S H) (k : Chg P w w') (hP : ∀ b, lo ≤ b → b < hi → ¬ P b) : OwnV w' lo hi aa n ca ab m cb S H :=
  ⟨h.1.chg k hP, h.2.1.chg k hP, h.2.2⟩
theorem OwnV.mono {w : World} {lo hi lo' hi' : Nat} {aa ab : Option Addr} {n m ca cb : Nat} {S H : List Int} (h : OwnV w lo hi aa n ca ab m cb S H) (h1 : lo' ≤ lo) (h2 : hi ≤ hi') : OwnV w lo' hi' aa n ca ab m cb S H :=
  ⟨h.1.mono h1 h2, h.2.1.mono h1 h2, h.2.2⟩
theorem OwnV.nil (w : World) (lo hi : Nat) : OwnV w lo hi none 0 0 none 0 0 [] [] := ⟨Own.nil _ _ _, Own.nil _ _ _, fun h => absurd rfl h⟩

theorem OwnV.setCell {w : World} {lo hi : Nat} {aa ab : Option Addr} {n m ca cb : Nat} {S H : List Int} (h : OwnV w lo hi aa n ca ab m cb S H) {p : Addr} (hp : p.block < lo ∨ hi ≤ p.block) (u : Value) : OwnV (w.setCell p u) lo hi aa n ca ab m cb S H :=
  ⟨h.1.setCell hp u, h.2.1.setCell hp u, h.2.2⟩
theorem OwnV.heldStore {w : World} {lo hi : Nat} {aa : Option Addr} {n m ca cb br j : Nat} {S H : List Int} (h : OwnV w lo hi aa n ca (some ⟨br, 0, none⟩) m cb S H) (hj : j < m) (z : Int) :
    OwnV (w.setCell ⟨br, j, none⟩ (.int .i64 z)) lo hi aa n ca (some ⟨br, 0, none⟩) m cb S (H.set j z) :=
  ⟨h.1.turned fun b hn hb hlt => Below.heap_setCell _ _ _ _ (fun e => h.2.2 hn (by omega) (by rw [hb]; simp [blkOf]; exact e)), h.2.1.store hj z, h.2.2⟩

/-- Vessels in a box of their own, made since W0. -/
structure BoxV (W0 W : World) (B : Nat) (sa : Option Addr) (n sc : Nat) (sb : Option Addr) (m sd : Nat) (S H : List Int) : Prop where
  new : New W0 W
  lo : W0.heap.size ≤ B
  hi : B < W.heap.size
  c0 : W.cell? ⟨B, 0, none⟩ = some (.slice sa n sc)
  c1 : W.cell? ⟨B, 1, none⟩ = some (.slice sb m sd)
  own : OwnV W W0.heap.size W.heap.size sa n sc sb m sd S H
  apa : n ≠ 0 → blkOf sa ≠ some B
  apb : m ≠ 0 → blkOf sb ≠ some B
/-- A box made behind the call that has given the vessels. -/
theorem BoxV.behind {W0 W : World} {sa sb : Option Addr} {n sc m sd : Nat} {S H : List Int} {t : TypeId} (hn : New W0 W) (ho : OwnV W W0.heap.size W.heap.size sa n sc sb m sd S H) :
    BoxV W0 (W.alloc (.cells #[.slice sa n sc, .slice sb m sd] t)) W.heap.size sa n sc sb m sd S H where
  new := hn.alloc _
  lo := hn.size
  hi := by simp
  c0 := by simp
  c1 := by simp
  own := (ho.new ((New.refl W).alloc _)).mono (Nat.le_refl _) (by simp)
  apa := fun h e => by have := (ho.1.bounds h e).2; omega
  apb := fun h e => by have := (ho.2.1.bounds h e).2; omega
/-- A box that lay ahead of it. -/
theorem BoxV.put {W0 W : World} {sa sb : Option Addr} {n sc m sd B : Nat} {S H : List Int} {x y : Value} (h1 : New W0 W) (hB : W0.heap.size ≤ B) (hB' : B < W.heap.size) (k0 : W.cell? ⟨B, 0, none⟩ = some x) (k1 : W.cell? ⟨B, 1, none⟩ = some y)
    (ho : OwnV W W0.heap.size W.heap.size sa n sc sb m sd S H) (ha : n ≠ 0 → blkOf sa ≠ some B) (hb : m ≠ 0 → blkOf sb ≠ some B) :
    BoxV W0 ((W.setCell ⟨B, 0, none⟩ (.slice sa n sc)).setCell ⟨B, 1, none⟩ (.slice sb m sd)) B sa n sc sb m sd S H := by
  have hp : Chg (fun b => b = B) W ((W.setCell ⟨B, 0, none⟩ (.slice sa n sc)).setCell ⟨B, 1, none⟩ (.slice sb m sd)) :=
    (Chg.setCell (p := ⟨B, 0, none⟩) _).trans (Chg.setCell (p := ⟨B, 1, none⟩) _)
  exact {
    new := (h1.setCell hB _).setCell hB _
    lo := hB
    hi := by simpa using hB'
    c0 := by
      rw [set_other (by simp)]
      exact set_same k0
    c1 := by
      refine set_same (u := y) ?_
      rw [set_other (by simp)]
      exact k1
    own := by
      have q := ho.2.2
      refine ⟨(ho.1.turned fun b hn hb' hlt => hp.block b hlt (fun e => ha hn (hb'.trans (congrArg some e)))).mono (Nat.le_refl _) (by simp), (ho.2.1.turned fun b hn hb' hlt => hp.block b hlt (fun e => hb hn (hb'.trans (congrArg some e)))).mono (Nat.le_refl _) (by simp), q⟩
    apa := ha
    apb := hb }
theorem OwnV.two {w2 w3 : World} {lo lo2 hi2 lo3 hi3 n m ca cb : Nat} {aa ab : Option Addr} {S H : List Int} (o2 : Own w2 lo2 hi2 aa n ca S) (o3 : Own w3 lo3 hi3 ab m cb H) (k : New w2 w3) (h1 : lo ≤ lo2) (h2 : hi2 ≤ lo3) (h3 : lo ≤ lo3) (h4 : hi2 ≤ hi3) : OwnV w3 lo hi3 aa n ca ab m cb S H :=
  ⟨(o2.new k).mono h1 h4, o3.mono h3 (Nat.le_refl _), fun hn hm e => by
    cases hb : blkOf ab with
    | none => exact o3.has hm hb
    | some b => have q1 := o2.bounds hn (e.trans hb); have q2 := o3.bounds hm hb; omega⟩

theorem toVessels_any (w : World) (aa ab : Option Addr) (n m ca cb : Nat) (S H : List Int) (h1 : Ints w aa n ca S) (h2 : Ints w ab m cb H) (hn : n ≤ 1048576) (hm : m ≤ 1048576) :
    Calls Try.prog 19 #[.agg #[.slice aa n ca, .slice ab m cb]] w fun e w' => ∃ sa sc sb sd, e = .returned (.agg #[.slice sa n sc, .slice sb m sd]) ∧ OwnV w' w.heap.size w'.heap.size sa n sc sb m sd S H ∧ New w w' := by
  have G1 := Lib.hid h1; clear h1
  have G2 := Lib.hid h2; clear h2
  go_enter Try.func19, Try.ntmps19
  go_wp2_with fail
  refine (toIntS_any _ _ _ _ _ (G1.out.new (by repeat (first | with_reducible exact New.refl _ | with_reducible assumption | refine New.drewN ?_ _ | refine New.drew ?_ | refine New.alloc ?_ _ | refine New.setCell ?_ (by first | omega | (simp; omega) | (simp; done)) _ | (refine New.trans ?_ (by assumption))))) hn).mono ?_
  rintro e w1 ⟨sa, sc, rfl, o1, n1⟩
  obtain ⟨hc, hf, hz⟩ := bcell n1
  simp at hz
  have z0 : w.heap.size < w1.heap.size := by omega
  have z1 : w.heap.size + 1 < w1.heap.size := by omega
  have z2 : w.heap.size + 1 + 1 < w1.heap.size := by omega
  have N1 := Lib.hid n1; clear n1
  have O1 := Lib.hid o1; clear o1
  go_wp2_with fail
  refine (toIntS_any _ _ _ _ _ (G2.out.new ?_) hm).mono ?_
  · have n1 := N1.out
    exact (by repeat (first | with_reducible exact New.refl _ | with_reducible assumption | refine New.drewN ?_ _ | refine New.drew ?_ | refine New.alloc ?_ _ | refine New.setCell ?_ (by first | omega | (simp; omega) | (simp; done)) _ | (refine New.trans ?_ (by assumption))))
  rintro e w2 ⟨sb, sd, rfl, o2, n2⟩
  obtain ⟨hc2, hf2, hz2⟩ := bcell n2
  simp at hz2
  have N2 := Lib.hid n2; clear n2
  have O2 := Lib.hid o2; clear o2
  go_wp2
  have n1 := N1.out
  have n2 := N2.out
  have o1 := O1.out
  have o2 := O2.out
  simp only [World.size_setCell, World.size_alloc] at o1 o2
  refine bodyPost_ret (v := .agg #[.slice sa n sc, .slice sb m sd]) (by simp [results, Try.results19, go_sem, hc2, hc, z1]) rfl ⟨sa, sc, sb, sd, rfl, ⟨?_, ?_, ?_⟩, ?_⟩
  · refine (((((o1.setCell (.inl ?_) _).new n2).setCell (.inl ?_) _).setCell (.inl ?_) _).setCell (.inl ?_) _).mono ?_ ?_ <;> first | omega | (simp; done) | (simp; omega)
  · refine (((o2.setCell (.inl ?_) _).setCell (.inl ?_) _).setCell (.inl ?_) _).mono ?_ ?_ <;> first | omega | (simp; done) | (simp; omega)
  · intro h1 h2 e
    cases hb : blkOf sb with
    | none => exact o2.has h2 hb
    | some b =>
      have q1 := o1.bounds h1 (e.trans hb)
      have q2 := o2.bounds h2 hb
      omega
  · exact (by repeat (first | with_reducible exact New.refl _ | with_reducible assumption | refine New.drewN ?_ _ | refine New.drew ?_ | refine New.alloc ?_ _ | refine New.setCell ?_ (by first | omega | (simp; omega) | (simp; done)) _ | (refine New.trans ?_ (by assumption))))

theorem markVessels_any (w : World) (lo hi : Nat) (aa ab : Option Addr) (n m ca cb : Nat) (S H : List Int) (x : Int) (ho : OwnV w lo hi aa n ca ab m cb S H) (h0 : 0 ≤ x) (h1 : x + n + m ≤ 4611686018427387904) :
    Calls Try.prog 15 #[.agg #[.slice aa n ca, .slice ab m cb], .int .i64 x] w fun e w' => e = .returned (.int .i64 (x + n + m)) ∧ OwnV w' lo hi aa n ca ab m cb (marks x n) (marks (x + n) m) ∧ Chg (fun b => lo ≤ b ∧ b < hi) w w' := by
  have HO := Lib.hid ho; clear ho
  go_enter Try.func15, Try.ntmps15
  go_wp2_with fail
  refine (markIntS_any _ lo hi _ _ _ S _ (HO.out.1.new (by repeat (first | with_reducible exact New.refl _ | with_reducible assumption | refine New.drewN ?_ _ | refine New.drew ?_ | refine New.alloc ?_ _ | refine New.setCell ?_ (by first | omega | (simp; omega) | (simp; done)) _ | (refine New.trans ?_ (by assumption))))) h0 (by omega)).mono ?_
  rintro e w1 ⟨rfl, o1, k1⟩
  have hlt : ∀ b, n ≠ 0 ∧ blkOf aa = some b → b < w.heap.size := fun b hb => HO.out.1.lt hb.1 hb.2
  have c1 : w1.cell? ⟨w.heap.size, 1, none⟩ = some (.slice ab m cb) := k1.cell (by simp) (fun hp => by have := hlt _ hp; simp at this)
  have O1 := Lib.hid o1; clear o1
  have K1 := Lib.hid k1; clear k1
  have HL := Lib.hid hlt; clear hlt
  go_wp2_with fail
  refine (markIntS_any _ lo hi _ _ _ H _ ?_ (by omega) (by omega)).mono ?_
  · refine (HO.out.2.1.new (w' := w.alloc _) (by repeat (first | with_reducible exact New.refl _ | with_reducible assumption | refine New.drewN ?_ _ | refine New.drew ?_ | refine New.alloc ?_ _ | refine New.setCell ?_ (by first | omega | (simp; omega) | (simp; done)) _ | (refine New.trans ?_ (by assumption))))).turned fun b hm hb hlt => K1.out.block b hlt ?_
    exact fun hp => HO.out.2.2 hp.1 hm (hp.2.trans hb.symm)
  rintro e w2 ⟨rfl, o2, k2⟩
  have O2 := Lib.hid o2; clear o2
  have K2 := Lib.hid k2; clear k2
  go_wp2
  go_ret
  refine ⟨rfl, ⟨?_, O2.out, HO.out.2.2⟩, ?_⟩
  · exact O1.out.turned fun b hn hb hlt => K2.out.block b hlt (fun hp => HO.out.2.2 hn hp.1 (hb.trans hp.2.symm))
  · exact ((Chg.of_new (by repeat (first | with_reducible exact New.refl _ | with_reducible assumption | refine New.drewN ?_ _ | refine New.drew ?_ | refine New.alloc ?_ _ | refine New.setCell ?_ (by first | omega | (simp; omega) | (simp; done)) _ | (refine New.trans ?_ (by assumption))))).trans (K1.out.mono fun b hp => HO.out.1.bounds hp.1 hp.2)).trans (K2.out.mono fun b hp => HO.out.2.1.bounds hp.1 hp.2)

theorem heldVessels_any (w : World) (aa ab : Option Addr) (n m ca cb : Nat) (x : Int) (ha : Ints w aa n ca (marks x n)) (hb : Ints w ab m cb (marks (x + n) m)) (h0 : 0 ≤ x) (h1 : x + n + m ≤ 4611686018427387904) :
    Calls Try.prog 16 #[.agg #[.slice aa n ca, .slice ab m cb], .int .i64 x] w fun e w' => e = .returned (.int .i64 (x + n + m)) ∧ New w w' := by
  have HA := Lib.hid ha; clear ha
  have HB := Lib.hid hb; clear hb
  go_enter Try.func16, Try.ntmps16
  go_wp2_with fail
  refine (heldIntS_any _ _ _ _ _ (HA.out.new (by repeat (first | with_reducible exact New.refl _ | with_reducible assumption | refine New.drewN ?_ _ | refine New.drew ?_ | refine New.alloc ?_ _ | refine New.setCell ?_ (by first | omega | (simp; omega) | (simp; done)) _ | (refine New.trans ?_ (by assumption))))) h0 (by omega)).mono ?_
  rintro e w1 ⟨rfl, q1, rfl⟩
  have e1 : ¬ x + (n : Int) < 0 := by omega
  go_wp2_with fail
  refine (heldIntS_any _ _ _ _ _ (HB.out.new (by repeat (first | with_reducible exact New.refl _ | with_reducible assumption | refine New.drewN ?_ _ | refine New.drew ?_ | refine New.alloc ?_ _ | refine New.setCell ?_ (by first | omega | (simp; omega) | (simp; done)) _ | (refine New.trans ?_ (by assumption))))) (by omega) (by omega)).mono ?_
  rintro e w2 ⟨rfl, q2, rfl⟩
  have e2 : ¬ x + (n : Int) + (m : Int) < 0 := by omega
  go_wp2
  go_ret
  exact ⟨rfl, (by repeat (first | with_reducible exact New.refl _ | with_reducible assumption | refine New.drewN ?_ _ | refine New.drew ?_ | refine New.alloc ?_ _ | refine New.setCell ?_ (by first | omega | (simp; omega) | (simp; done)) _ | (refine New.trans ?_ (by assumption))))⟩
end Go.Proofs.Ythnhckccmfjcmaa
