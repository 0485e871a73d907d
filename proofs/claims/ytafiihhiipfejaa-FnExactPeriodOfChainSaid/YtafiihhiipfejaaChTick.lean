/- The program's chains, tick by tick. -/
import Derived.Test.YtafiihhiipfejaaSipI
import Derived.Test.YtafiihhiipfejaaMapL
import Derived.Deep.RegionLaw
import Derived.Deep.MidRow
import Derived.Deep.DeepMust
namespace Go.Proofs.Ytafiihhiipfejaa
open Go.RowKit

/-- A box of four levels. -/
structure Box8 (W : World) (B : Nat) (L : List (Int × Bool)) : Prop where
  lt : B < W.heap.size
  c0 : ∀ i, i < 4 → W.cell? ⟨B, i * 2, none⟩ = some (.int .i64 (lvAt L i).1)
  c1 : ∀ i, i < 4 → W.cell? ⟨B, i * 2 + 1, none⟩ = some (.bool (lvAt L i).2)
  frozen : ∀ k, W.frozen? ⟨B, k, none⟩ = false
theorem Box8.new {W W' : World} {B : Nat} {L : List (Int × Bool)} (h : Box8 W B L) (k : New W W') : Box8 W' B L :=
  ⟨Nat.lt_of_lt_of_le h.lt k.size, fun i hi => k.cell (h.c0 i hi), fun i hi => k.cell (h.c1 i hi), fun i => (Below.frozen (p := ⟨B, i, none⟩) k h.lt).trans (h.frozen i)⟩
theorem Box8.made (w : World) (L : List (Int × Bool)) (t : TypeId) : Box8 (w.alloc (.cells #[.int .i64 (lvAt L 0).1, .bool (lvAt L 0).2, .int .i64 (lvAt L 1).1, .bool (lvAt L 1).2, .int .i64 (lvAt L 2).1, .bool (lvAt L 2).2, .int .i64 (lvAt L 3).1, .bool (lvAt L 3).2] t)) w.heap.size L where
  lt := by simp
  c0 := by
    intro k hk
    rw [World.cell?_alloc_new]
    match k, hk with
    | 0, _ => rfl
    | 1, _ => rfl
    | 2, _ => rfl
    | 3, _ => rfl
  c1 := by
    intro k hk
    rw [World.cell?_alloc_new]
    match k, hk with
    | 0, _ => rfl
    | 1, _ => rfl
    | 2, _ => rfl
    | 3, _ => rfl
  frozen := fun k => by simp only [World.frozen?_alloc_new]
theorem Box8.eight {W : World} {B : Nat} {L : List (Int × Bool)} (h : Box8 W B L) : W.cell? ⟨B, 0, none⟩ = some (.int .i64 (lvAt L 0).1) ∧ W.cell? ⟨B, 1, none⟩ = some (.bool (lvAt L 0).2) ∧ W.cell? ⟨B, 2, none⟩ = some (.int .i64 (lvAt L 1).1) ∧ W.cell? ⟨B, 3, none⟩ = some (.bool (lvAt L 1).2) ∧ W.cell? ⟨B, 4, none⟩ = some (.int .i64 (lvAt L 2).1) ∧ W.cell? ⟨B, 5, none⟩ = some (.bool (lvAt L 2).2) ∧ W.cell? ⟨B, 6, none⟩ = some (.int .i64 (lvAt L 3).1) ∧ W.cell? ⟨B, 7, none⟩ = some (.bool (lvAt L 3).2) :=
  ⟨h.c0 0 (by omega), h.c1 0 (by omega), h.c0 1 (by omega), h.c1 1 (by omega), h.c0 2 (by omega), h.c1 2 (by omega), h.c0 3 (by omega), h.c1 3 (by omega)⟩
theorem Box8.put {W : World} {B : Nat} {L : List (Int × Bool)} (h : Box8 W B L) {j : Nat} (hj : j < 4) (hL : L.length = 4) (p : Int) (q : Bool) : Box8 ((W.setCell ⟨B, j * 2, none⟩ (.int .i64 p)).setCell ⟨B, j * 2 + 1, none⟩ (.bool q)) B (L.set j (p, q)) where
  lt := by simpa using h.lt
  c0 := by
    intro i hi
    rw [set_other (by intro e; first | (simp at e; done) | (simp at e; omega)), lvAt_set (by omega)]
    by_cases e : j = i
    · subst e
      rw [if_pos rfl, set_same (h.c0 j hj)]
    · rw [if_neg e, set_other (by intro e'; first | (simp at e'; done) | (simp at e'; omega))]; exact h.c0 i hi
  c1 := by
    intro i hi
    rw [lvAt_set (by omega)]
    by_cases e : j = i
    · subst e
      rw [if_pos rfl]
      refine set_same (u := .bool (lvAt L j).2) ?_
      rw [set_other (by intro e'; first | (simp at e'; done) | (simp at e'; omega))]; exact h.c1 j hj
    · rw [if_neg e, set_other (by intro e'; first | (simp at e'; done) | (simp at e'; omega)), set_other (by intro e'; first | (simp at e'; done) | (simp at e'; omega))]; exact h.c1 i hi
  frozen := fun k => by rw [World.frozen?_setCell, World.frozen?_setCell]; exact h.frozen k

theorem Box8.range {W : World} {B : Nat} {L : List (Int × Bool)} (h : Box8 W B L) : W.rangeAt B 0 (fourC L) := by
  obtain ⟨d0, d1, d2, d3, d4, d5, d6, d7⟩ := h.eight
  intro j v hv
  match j, hv with
  | 0, hv => simp at hv; subst hv; simpa using d0
  | 1, hv => simp at hv; subst hv; simpa using d1
  | 2, hv => simp at hv; subst hv; simpa using d2
  | 3, hv => simp at hv; subst hv; simpa using d3
  | 4, hv => simp at hv; subst hv; simpa using d4
  | 5, hv => simp at hv; subst hv; simpa using d5
  | 6, hv => simp at hv; subst hv; simpa using d6
  | 7, hv => simp at hv; subst hv; simpa using d7
  | k + 8, hv => simp at hv
theorem Box8.there {W : World} {B : Nat} {L : List (Int × Bool)} (h : Box8 W B L) : W.there B 0 8 := fun j hj => by
  obtain ⟨d0, d1, d2, d3, d4, d5, d6, d7⟩ := h.eight
  refine ⟨?_, by rw [Nat.zero_add]; exact h.frozen j⟩
  match j, hj with
  | 0, _ => rw [Nat.zero_add, d0]; rfl
  | 1, _ => rw [Nat.zero_add, d1]; rfl
  | 2, _ => rw [Nat.zero_add, d2]; rfl
  | 3, _ => rw [Nat.zero_add, d3]; rfl
  | 4, _ => rw [Nat.zero_add, d4]; rfl
  | 5, _ => rw [Nat.zero_add, d5]; rfl
  | 6, _ => rw [Nat.zero_add, d6]; rfl
  | 7, _ => rw [Nat.zero_add, d7]; rfl
theorem Box8.room {W : World} {B : Nat} {L : List (Int × Bool)} (h : Box8 W B L) (M : List (Int × Bool)) : W.there B 0 (fourC M).toArray.size := h.there
theorem fourC_one (M : List (Int × Bool)) : ((fourC M).toArray.all fun x => x.oneCell') = true :=
  all_oneCell_toArray (by intro v hv; simp at hv; rcases hv with rfl | rfl | rfl | rfl | rfl | rfl | rfl | rfl <;> rfl)
theorem Box8.fill {W : World} {B : Nat} {L : List (Int × Bool)} (h : Box8 W B L) (M : List (Int × Bool)) : Box8 (W.setCells B 0 (fourC M)) B M := by
  have hr := World.rangeAt_setCells_same W B 0 (fourC M) h.there
  refine ⟨by have := h.lt; simpa [World.setCells] using this, fun k hk => ?_, fun k hk => ?_, fun k => by rw [World.frozen?_setCells]; exact h.frozen k⟩
  · have := hr (k * 2) (.int .i64 (lvAt M k).1) (by
      match k, hk with
      | 0, _ => rfl
      | 1, _ => rfl
      | 2, _ => rfl
      | 3, _ => rfl)
    simpa using this
  · have := hr (k * 2 + 1) (.bool (lvAt M k).2) (by
      match k, hk with
      | 0, _ => rfl
      | 1, _ => rfl
      | 2, _ => rfl
      | 3, _ => rfl)
    simpa using this
theorem New.setCells {a b : World} (h : New a b) {B : Nat} (hB : a.heap.size ≤ B) : ∀ (vs : List Value) (o : Nat), New a (b.setCells B o vs) := by
  intro vs
  induction vs generalizing b with
  | nil => intro o; exact h
  | cons v r ih => intro o; exact ih (h.setCell hB _) (o + 1)
theorem res_chainTick {tmps : Array Value} {W : World} {R : Nat} {L : List (Int × Bool)} (ht : tmps[6]?.getD undef = .pointer (some ⟨R, 0, none⟩)) (h : Box8 W R L) : (results Try.f52 tmps).run Try.prog W = .ok (fourV L) W := by
  obtain ⟨d0, d1, d2, d3, d4, d5, d6, d7⟩ := h.eight
  simp [results, Try.results52, go_sem, ht, d0, d1, d2, d3, d4, d5, d6, d7]

set_option maxRecDepth 100000 in
set_option maxHeartbeats 4000000 in
theorem chainTick_any (w : World) (aa : Option Addr) (n ca : Nat) (l : List (Int × Int × Int × Int)) (L : List (Int × Bool)) (x : Int) (ha : Siphons w aa n ca l) (hc : ChainOk l) (hL : FourOk l L) (x0 : 0 ≤ x) (x1 : x ≤ 60) :
    Calls Try.prog 52 #[.slice aa n ca, fourV L, .int .i64 x] w fun e w' => e = .returned (fourV (chTick l L x)) ∧ New w w' := by
  have HL := Lib.hid ha.1
  have n4 : n ≤ 4 := by have := hc.1.2; have := ha.1; omega
  have HA := Lib.hid ha; clear ha
  have GO := Lib.hid (fun k hk => chGo_ok hc hL x0 x1 k hk)
  have CO := Lib.hid hc; clear hc
  have H4 := Lib.hid hL.1; clear hL
  go_enter Try.func52, Try.ntmps52
  go_wp2
  obtain ⟨v0, hv0⟩ : ∃ v, v = (w.alloc (.cells #[.int .i64 (lvAt L 0).1, .bool (lvAt L 0).2, .int .i64 (lvAt L 1).1, .bool (lvAt L 1).2, .int .i64 (lvAt L 2).1, .bool (lvAt L 2).2, .int .i64 (lvAt L 3).1, .bool (lvAt L 3).2] 62)).alloc (.cells #[.int .i64 0, .bool false, .int .i64 0, .bool false, .int .i64 0, .bool false, .int .i64 0, .bool false] 62) := ⟨_, rfl⟩
  rw [← hv0]
  have nv : New w v0 := by rw [hv0]; exact (by repeat (first | with_reducible exact New.refl _ | with_reducible assumption | refine New.drewN ?_ _ | refine New.drew ?_ | refine New.alloc ?_ _ | refine New.setCell ?_ (by first | omega | (simp; omega) | (simp; done)) _ | (refine New.trans ?_ (by assumption))))
  have b1 : Box8 v0 w.heap.size L := by rw [hv0]; exact (Box8.made w L _).new (by repeat (first | with_reducible exact New.refl _ | with_reducible assumption | refine New.drewN ?_ _ | refine New.drew ?_ | refine New.alloc ?_ _ | refine New.setCell ?_ (by first | omega | (simp; omega) | (simp; done)) _ | (refine New.trans ?_ (by assumption))))
  have b2 : Box8 v0 (w.heap.size + 1) zero4 := by
    rw [hv0]
    have q := Box8.made (w.alloc (.cells #[.int .i64 (lvAt L 0).1, .bool (lvAt L 0).2, .int .i64 (lvAt L 1).1, .bool (lvAt L 1).2, .int .i64 (lvAt L 2).1, .bool (lvAt L 2).2, .int .i64 (lvAt L 3).1, .bool (lvAt L 3).2] 62)) zero4 62
    simpa [zero4, lvAt] using q
  have NV := Lib.hid nv; clear nv
  have B1 := Lib.hid b1; clear b1
  have B2 := Lib.hid b2; clear b2
  clear hv0
  go_loopw [2, 11] (fun y i wr => ∃ k : Nat, k ≤ n ∧ i = .int .i64 k ∧ y = .int .i64 (chGo l L x k).2 ∧ Box8 wr w.heap.size (chGo l L x k).1 ∧ Box8 wr (w.heap.size + 1) zero4 ∧ New w wr) (fun _ i _ => n - (intOf i).toNat)
  case atStart => exact ⟨0, Nat.zero_le _, rfl, rfl, B1.out, B2.out, NV.out⟩
  case round =>
    obtain ⟨k, hk, rfl, rfl, hb1, hb2, hnw⟩ := hrel
    have C1 := Lib.hid hb1; clear hb1
    have C2 := Lib.hid hb2; clear hb2
    have NW := Lib.hid hnw; clear hnw
    by_cases hlt : k < n
    · obtain ⟨⟨q1, q2, q3⟩, y0, y1⟩ := GO.out k (by have := HL.out; omega)
      have hs := sipB_iff.1 (CO.out.2 k (by have := HL.out; omega))
      have h4 := q2 k (by have := HL.out; omega)
      have HS := Lib.hid hs; clear hs
      obtain ⟨u0, u1⟩ := h4
      have Q1 := Lib.hid q1; clear q1 q2 q3
      obtain ⟨bx, ox, rfl, g0, g1, g2, g3⟩ := (HA.out.new NW.out).2.2.2.1 k hlt
      have k4 : k < 4 := by omega
      have l0 := C1.out.c0 k k4
      have l1 := C1.out.c1 k k4
      have f0 := C1.out.frozen (k * 2)
      have f1 := C1.out.frozen (k * 2 + 1)
      have zb := C1.out.lt
      go_wp2
      obtain ⟨W, hW⟩ : ∃ W, W = wr.alloc (.cells #[.int .i64 (l[k]?.getD (0, 0, 0, 0)).1, .int .i64 (l[k]?.getD (0, 0, 0, 0)).2.1, .int .i64 (l[k]?.getD (0, 0, 0, 0)).2.2.1, .int .i64 (l[k]?.getD (0, 0, 0, 0)).2.2.2] 26) := ⟨_, rfl⟩
      rw [← hW]
      have nW : New wr W := by rw [hW]; exact (by repeat (first | with_reducible exact New.refl _ | with_reducible assumption | refine New.drewN ?_ _ | refine New.drew ?_ | refine New.alloc ?_ _ | refine New.setCell ?_ (by first | omega | (simp; omega) | (simp; done)) _ | (refine New.trans ?_ (by assumption))))
      have a0 : W.cell? ⟨wr.heap.size, 0, none⟩ = some (.int .i64 (l[k]?.getD (0, 0, 0, 0)).1) := by rw [hW]; simp [go_sem]
      have a1 : W.cell? ⟨wr.heap.size, 1, none⟩ = some (.int .i64 (l[k]?.getD (0, 0, 0, 0)).2.1) := by rw [hW]; simp [go_sem]
      have a2 : W.cell? ⟨wr.heap.size, 2, none⟩ = some (.int .i64 (l[k]?.getD (0, 0, 0, 0)).2.2.1) := by rw [hW]; simp [go_sem]
      have a3 : W.cell? ⟨wr.heap.size, 3, none⟩ = some (.int .i64 (l[k]?.getD (0, 0, 0, 0)).2.2.2) := by rw [hW]; simp [go_sem]
      have zW : wr.heap.size < W.heap.size := by rw [hW]; simp
      replace f0 := nW.frz l0 f0
      replace f1 := nW.frz l1 f1
      replace l0 := nW.cell l0
      replace l1 := nW.cell l1
      have NX := Lib.hid nW; clear nW
      clear hW g0 g1 g2 g3
      go_region_with ((go_at_call 37; refine (siphonTick_any _ _ _ _ _ _ _ _ HS.out u0 u1 y0 y1).mono ?_; rintro e w3 ⟨rfl, n3⟩; replace f0 := n3.frz l0 (by first | exact f0 | simpa using f0); replace f1 := n3.frz l1 (by first | exact f1 | simpa using f1); replace l0 := n3.cell l0; replace l1 := n3.cell l1))
      all_goals
        go_wp2
        go_roundw
        case rel =>
          have m3 : New W w3 := by first | exact n3 | exact New.undrew n3
          have m4 : New wr w3 := NX.out.trans m3
          have m5 := NW.out.trans m4
          have c1 := (C1.out.new m4).put k4 (by rw [chGo_length]; exact H4.out) (tkH (sipAt l k).1 (sipAt l k).2.1 (sipAt l k).2.2.1 (sipAt l k).2.2.2 (lvAt (chGo l L x k).1 k).1 (chGo l L x k).2 (lvAt (chGo l L x k).1 k).2) (tkR (sipAt l k).1 (sipAt l k).2.1 (sipAt l k).2.2.1 (sipAt l k).2.2.2 (lvAt (chGo l L x k).1 k).1 (chGo l L x k).2 (lvAt (chGo l L x k).1 k).2)
          have c2 := C2.out.new m4
          refine ⟨k + 1, by omega, by go_num, rfl, ?_, ?_, (by repeat (first | with_reducible exact New.refl _ | with_reducible assumption | refine New.drewN ?_ _ | refine New.drew ?_ | refine New.alloc ?_ _ | refine New.setCell ?_ (by first | omega | (simp; omega) | (simp; done)) _ | (refine New.trans ?_ (by assumption))))⟩
          · first | exact c1 | exact c1.new (by repeat (first | with_reducible exact New.refl _ | with_reducible assumption | refine New.drewN ?_ _ | refine New.drew ?_ | refine New.alloc ?_ _ | refine New.setCell ?_ (by first | omega | (simp; omega) | (simp; done)) _ | (refine New.trans ?_ (by assumption))))
          · refine ⟨by simpa using c2.lt, fun i hi => ?_, fun i hi => ?_, fun i => ?_⟩
            · first | exact World.cell_set (World.cell_set (c2.c0 i hi) (by simp)) (by simp) | (simp; exact World.cell_set (World.cell_set (c2.c0 i hi) (by simp)) (by simp))
            · first | exact World.cell_set (World.cell_set (c2.c1 i hi) (by simp)) (by simp) | (simp; exact World.cell_set (World.cell_set (c2.c1 i hi) (by simp)) (by simp))
            · simp only [World.frozen?_setCell]
              first | exact c2.frozen i | simpa using c2.frozen i
        case measure => simp [intOf]; omega
    · obtain rfl : k = n := by omega
      have HE := Lib.hid (show chTick l L x = (chGo l L x k).1 by unfold chTick; rw [HL.out])
      clear H4 CO GO B1 B2
      go_wp2_with (first | (refine wpList_load_mid rfl 62 _ rfl w.heap.size 0 rfl (fourC (chGo l L x k).1) _ C1.out.range Try.underlying62 rfl (by kernel_rfl) ?_) | (refine wpList_store_mid rfl 62 _ _ rfl (w.heap.size + 1) 0 (fourC (chGo l L x k).1).toArray rfl rfl (C2.out.room _) (by kernel_rfl) (fourC_one _) ?_))
      refine bodyPost_ret (v := fourV (chGo l L x k).1) ?_ rfl ⟨by rw [HE.out], NW.out.setCells (by omega) _ _⟩
      exact res_chainTick rfl (C2.out.fill _)
end Go.Proofs.Ytafiihhiipfejaa
