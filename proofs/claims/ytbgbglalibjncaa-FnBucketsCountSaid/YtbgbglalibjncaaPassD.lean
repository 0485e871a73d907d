/- passDrops: buckets hand on what comes out of them; each that tips is told of by a call of a function that came in. -/
import Derived.Test.YtbgbglalibjncaaBuckI
import Derived.Test.YtbgbglalibjncaaCopyTo
import Derived.Deep.DeepCutAuto
import Derived.Shelf.Abstract
namespace Go.Proofs.Ytbgbglalibjncaa
open Go.RowKit

theorem Own.cells {w : World} {lo hi b n cap : Nat} {l : List Int} (h : Own w lo hi (some ⟨b, 0, none⟩) n cap l) {j : Nat} (hj : j < n) : w.cell? ⟨b, j, none⟩ = some (.int .i64 (l[j]?.getD 0)) ∧ w.frozen? ⟨b, j, none⟩ = false := by
  obtain ⟨b', e, _, _, _, r⟩ := h.row hj
  cases e
  exact r j hj
theorem Ints.chg {P : Nat → Prop} {w w' : World} {ao : Option Addr} {n cap : Nat} {l : List Int} (h : Ints w ao n cap l) (k : Chg P w w') (hP : ∀ b, blkOf ao = some b → ¬ P b) : Ints w' ao n cap l := by
  obtain ⟨h1, h2, h3, h4, h5⟩ := h
  refine ⟨h1, h2, h3, fun j hj => ?_, h5⟩
  obtain ⟨b, o, e, hc⟩ := h4 j hj
  exact ⟨b, o, e, k.cell hc (hP b (by rw [e]; rfl))⟩
theorem Chg.drew {P : Nat → Prop} {a b : World} (h : Chg P a b) : Chg P a b.drew := h.trans (Chg.of_new (New.refl _).drew)

/-- Where passDrops stands ahead of the bucket k: what the row behind holds, what was told, what has turned. -/
structure Drop (P : Nat → Prop) (Inv : Nat → World → Prop) (w : World) (c h : List Int) (x : Int) (g m k : Nat) (l : List Int) (W : World) : Prop where
  own : Own W g (g + 1) (some ⟨g, 0, none⟩) m m l
  chg : Chg (fun b => P b) w W
  inv : Inv k W
  lt : g < W.heap.size
  pre : ∀ i, i < k → (carK c h x (i + 1) != 0) = true
  lo : ∀ j, j < k → l[j]?.getD 0 = rstK c h x j
  hi : ∀ j, k ≤ j → l[j]?.getD 0 = h[j]?.getD 0

theorem Drop.put {P : Nat → Prop} {Inv : Nat → World → Prop} {w : World} {c h : List Int} {x : Int} {g m k : Nat} {l : List Int} {W : World} (d : Drop P Inv w c h x g m k l W) (hk : k < m) (hg : w.heap.size ≤ g)
    (hkeep : ∀ k v v', Inv k v → Below w.heap.size v v' → Inv k v') {z : Int} :
    Own (W.setCell ⟨g, k, none⟩ (.int .i64 z)) g (g + 1) (some ⟨g, 0, none⟩) m m (l.set k z) ∧ Chg (fun b => P b) w (W.setCell ⟨g, k, none⟩ (.int .i64 z)) ∧ Inv k (W.setCell ⟨g, k, none⟩ (.int .i64 z)) ∧ g < (W.setCell ⟨g, k, none⟩ (.int .i64 z)).heap.size := by
  refine ⟨d.own.store hk z, ⟨d.chg.os, d.chg.tape, d.chg.output, by have := d.chg.size; simpa [World.setCell] using this, fun i hi hp => ?_⟩, hkeep k _ _ d.inv ?_, by have := d.lt; simpa [World.setCell] using this⟩
  · rw [Below.heap_setCell _ _ _ _ (by simp; omega)]
    exact d.chg.block i hi hp
  · exact (Below.refl _ _).setCell (by simpa using hg) _
theorem Drop.full {P : Nat → Prop} {Inv : Nat → World → Prop} {w : World} {c h : List Int} {x : Int} {g m k : Nat} {l : List Int} {W : World} (d : Drop P Inv w c h x g m k l W) (hc : CapsOk c) (hh : HeldOk c h) (hm : m = c.length)
    (h0 : carK c h x (k + 1) = 0) : l.set k (rstK c h x k) = rstTo c h x c.length := by
  have hl : l.length = m := d.own.1.symm
  refine ext_getD (by rw [List.length_set, rstTo_length]; omega) fun j hj => ?_
  rw [List.length_set] at hj
  rw [rstTo_get _ _ _ (by omega), List.getElem?_set]
  by_cases e : k = j
  · subst e
    rw [if_pos rfl, if_pos (by omega)]; rfl
  · rw [if_neg e]
    by_cases hlt : j < k
    · exact d.lo j hlt
    · rw [d.hi j (by omega), rstK_none hc hh h0 (by omega) (by omega)]
theorem Drop.last {P : Nat → Prop} {Inv : Nat → World → Prop} {w : World} {c h : List Int} {x : Int} {g m k : Nat} {l : List Int} {W : World} (d : Drop P Inv w c h x g m k l W) (hm : m = c.length) (hk : k + 1 = m) :
    l.set k (rstK c h x k) = rstTo c h x c.length := by
  have hl : l.length = m := d.own.1.symm
  refine ext_getD (by rw [List.length_set, rstTo_length]; omega) fun j hj => ?_
  rw [List.length_set] at hj
  rw [rstTo_get _ _ _ (by omega), List.getElem?_set]
  by_cases e : k = j
  · subst e
    rw [if_pos rfl, if_pos (by omega)]; rfl
  · rw [if_neg e]
    exact d.lo j (by omega)
theorem Drop.next {P : Nat → Prop} {Inv : Nat → World → Prop} {w : World} {c h : List Int} {x : Int} {g m k : Nat} {l : List Int} {W W' : World} (d : Drop P Inv w c h x g m k l W) (hk : k < m)
    (ho : Own W' g (g + 1) (some ⟨g, 0, none⟩) m m (l.set k (rstK c h x k))) (hc : Chg (fun b => P b) w W') (hi : Inv (k + 1) W') (hs : g < W'.heap.size) (hz : carK c h x (k + 1) ≠ 0) : Drop P Inv w c h x g m (k + 1) (l.set k (rstK c h x k)) W' where
  own := ho
  chg := hc
  inv := hi
  lt := hs
  pre := fun i hi => by
    by_cases e : i = k
    · subst e; simpa using hz
    · exact d.pre i (by omega)
  lo := fun j hj => by
    have hl : l.length = m := d.own.1.symm
    rw [List.getElem?_set]
    by_cases e : k = j
    · subst e
      rw [if_pos rfl, if_pos (by omega)]; rfl
    · rw [if_neg e]
      exact d.lo j (by omega)
  hi := fun j hj => by
    rw [List.getElem?_set, if_neg (by omega)]
    exact d.hi j (by omega)

theorem Own.ended {W : World} {lo g m : Nat} {l : List Int} (h : Own W g (g + 1) (some ⟨g, 0, none⟩) m m l) (hl : lo ≤ g) (hs : g < W.heap.size) : Own W lo W.heap.size (some ⟨g, 0, none⟩) m m l := h.mono hl hs

/-- What the call of the function that came in must do. -/
def Tells (P : Nat → Prop) (Inv : Nat → World → Prop) (c h : List Int) (x : Int) (fk : Nat) (cp : Array Value) : Prop :=
  ∀ (k : Nat) (v : World), k < c.length → Inv k v → Calls Try.prog fk (#[.int .i64 (k : Int), .int .i64 (carK c h x (k + 1))] ++ cp) v fun e v' => e = .returned (.tuple #[]) ∧ Inv (k + 1) v' ∧ Chg (fun b => P b) v v'

set_option maxRecDepth 100000 in
set_option maxHeartbeats 4000000 in
theorem passDrops_any (w : World) (P : Nat → Prop) (Inv : Nat → World → Prop) (aa ab : Option Addr) (n m ca cb : Nat) (c h : List Int) (x : Int) (fk : Nat) (cp : Array Value) (ha : Ints w aa n ca c) (hb : Ints w ab m cb h) (hc : CapsOk c) (hd : HeldOk c h) (x0 : 0 ≤ x) (x1 : x ≤ 1000000000000)
    (hP : ∀ b, P b → b < w.heap.size) (hPa : ∀ b, blkOf aa = some b → ¬ P b) (hi0 : Inv 0 w) (hkeep : ∀ k v v', Inv k v → Below w.heap.size v v' → Inv k v') (hcall : Tells P Inv c h x fk cp) (hen : Enters Try.prog fk) :
    Calls Try.prog 28 #[.slice aa n ca, .slice ab m cb, .int .i64 x, .func (.func fk) #[] cp] w fun e w' => ∃ oa on oc, e = .returned (.slice oa on oc) ∧ Own w' w.heap.size w'.heap.size oa on oc (rstTo c h x c.length) ∧
      Chg (fun b => P b) w w' ∧ Inv (lead (fun j => carK c h x (j + 1) != 0) c.length) w' := by
  have L1 := Lib.hid ha.1
  have hn : n ≤ 6 := by have := ha.1; have := hc.1.2; omega
  have hn1 : 1 ≤ n := by have := ha.1; have := hc.1.1; omega
  have hmn : m = n := by have := ha.1; have := hb.1; have := hd.1; omega
  subst hmn
  have L2 := Lib.hid hb.1
  have HA := Lib.hid ha; clear ha
  have HB := Lib.hid hb; clear hb
  have HC := Lib.hid hc; clear hc
  have HD := Lib.hid hd; clear hd
  have HK := Lib.hid hkeep; clear hkeep
  have HL := Lib.hid hcall; clear hcall
  have I0 := Lib.hid hi0; clear hi0
  have PA := Lib.hid hPa; clear hPa
  have PB := Lib.hid hP; clear hP
  have EN : ∀ (args : Array Value) (w : World), (callFunc fk args).run Try.prog w = .ok (.enter fk args) w := hen
  clear hen
  have hmk := run_make_row' (P := Try.prog) 24 3 (.int .i64 0) 8 Try.underlying24 Try.infoInt rfl .i64 .i64 m (by omega) (by omega)
  simp only [madeCells_eq] at hmk
  obtain ⟨bh, oh, rfl, _, _⟩ := HB.out.at (j := 0) (by omega)
  obtain ⟨g, hg⟩ : ∃ g, g = w.heap.size := ⟨_, rfl⟩
  have G := Lib.hid hg
  go_enter Try.func28, Try.ntmps28
  go_wp2
  refine wp_scope_jumps 0 (fun a' w' => ∃ (k : Nat) (y : Int) (u16 u17 u18 u19 u20 u21 u22 u23 u24 u25 u26 u27 u28 u29 u30 u31 u32 u33 u34 u35 u36 u37 u38 u39 u40 u41 u42 u43 u44 u45 u46 u47 u48 u49 u50 u51 : Value), (a' = { tmps := (.slice aa m ca :: .slice (some ⟨bh, oh, none⟩) m cb :: .int .i64 y :: .func (.func fk) #[] cp :: undef :: undef :: undef :: undef :: .slice none 0 0 :: .slice (some ⟨g, 0, none⟩) m m :: .int .i64 (k : Nat) :: .slice aa m ca :: .int .i64 (m : Nat) :: .slice (some ⟨g, 0, none⟩) m m :: .slice (some ⟨g, 0, none⟩) m m :: .slice (some ⟨bh, oh, none⟩) m cb :: u16 :: u17 :: u18 :: u19 :: u20 :: u21 :: u22 :: u23 :: u24 :: u25 :: u26 :: u27 :: u28 :: u29 :: u30 :: u31 :: u32 :: u33 :: u34 :: u35 :: u36 :: u37 :: u38 :: u39 :: u40 :: u41 :: u42 :: u43 :: u44 :: u45 :: u46 :: u47 :: u48 :: u49 :: u50 :: u51 :: ([] : List Value)).toArray, defers := [] } ∧ k < m) ∧ y = carK c h x k ∧ ∃ l, Drop P Inv w c h x g m k l w') (fun a' _ => m - (intOf (a'.tmps.getD 10 undef)).toNat) rfl ?_ ?_
  · have X1 := Lib.hid (show (h.map (Value.int .i64)).length = Nat.min m m by rw [List.length_map, ← L2.out]; exact (Nat.min_self _).symm)
    have X2 := Lib.hid HB.out.source
    have X3 := Lib.hid (show 0 + (h.map (Value.int .i64)).length ≤ (List.replicate m (Value.int .i64 0)).length by have := L2.out; simp; omega)
    have X4 := Lib.hid (show ∀ v ∈ h.map (Value.int .i64), v.oneCell' = true from fun v hv => by simp at hv; obtain ⟨z, _, rfl⟩ := hv; rfl)
    clear hg
    go_wp2_with (refine wpList_copy_to rfl (.tmp 14) (.tmp 15) 24 24 rfl 3 Try.underlying24 (by kernel_rfl) w.heap.size 0 _ _ ⟨bh, oh, none⟩ _ _ rfl rfl (List.replicate m (Value.int .i64 0)) 3 (heap_alloc_new _ _) (h.map (Value.int .i64)) X1.out (fun j v hv => World.cell_kept (X2.out j v hv)) X3.out X4.out ?_; intro W hG2 hC2)
    go_step3
    have nb : Below w.heap.size w W := Below.trans ((New.refl w).alloc _) ⟨hC2.os, hC2.tape, hC2.output, hC2.size, fun i hi => hC2.block i (by simp; omega) (by omega)⟩
    have HO : Own W w.heap.size (w.heap.size + 1) (some ⟨w.heap.size, 0, none⟩) m m h := Own.of_cells (L := List.replicate m 0) L2.out (by simp) (by omega) (Nat.le_refl _) (by omega) (by simpa using hG2.out)
    rw [← G.out] at HO
    simp only [← G.out]
    obtain ⟨l, dr⟩ : ∃ l, Drop P Inv w c h x g m 0 l W := ⟨h, HO, Chg.of_new nb, HK.out 0 _ _ I0.out nb, by have := hC2.size; simp at this; have := G.out; omega, fun i hi => absurd hi (by omega), fun j hj => absurd hj (by omega), fun j _ => rfl⟩
    have D := Lib.hid dr; clear dr
    clear nb HO hG2 hC2 X1 X2 X3 X4
    have hkm : 0 < m := by omega
    obtain ⟨ba, oa, rfl, hc1, _⟩ := (HA.out.chg D.out.chg PA.out).at hkm
    have e1 := D.out.hi 0 (Nat.le_refl _)
    obtain ⟨k0, k1⟩ := D.out.own.cells hkm
    have q1 := HC.out.2 0 (by have := L1.out; omega)
    have q2 := HD.out.2 0 (by have := L1.out; omega)
    have q3 := carK_bd HC.out HD.out x0 0 (by have := L1.out; omega)
    have q4 := carK_bd HC.out HD.out x0 (0 + 1) (by have := L1.out; omega)
    rw [e1] at k0
    clear e1
    have e2 : (carK c h x 0 + h[0]?.getD 0) % (c[0]?.getD 0) = rstK c h x 0 := rfl
    have e3 : (carK c h x 0 + h[0]?.getD 0) / (c[0]?.getD 0) = carK c h x (0 + 1) := rfl
    obtain ⟨d, hd⟩ : ∃ d, d = c[0]?.getD 0 := ⟨_, rfl⟩
    obtain ⟨u, hu⟩ : ∃ u, u = h[0]?.getD 0 := ⟨_, rfl⟩
    have hy : x = carK c h x 0 := rfl
    simp only [Nat.add_zero] at hc1
    rw [← hd] at hc1 q1 q2 e2 e3
    rw [← hu] at k0 q2 e2 e3
    rw [← hy] at q3 e2 e3
    obtain ⟨r, hr⟩ : ∃ r, r = rstK c h x 0 := ⟨_, rfl⟩
    obtain ⟨z, hz⟩ : ∃ z, z = carK c h x (0 + 1) := ⟨_, rfl⟩
    rw [← hr] at e2
    rw [← hz] at e3 q4
    have w1 : IntKind.i64.wrap (x + u) = x + u := IntWalk.i64_in _ (by omega)
    have w2 : IntKind.i64.wrap ((x + u) / d) = z := by rw [e3]; exact IntWalk.i64_in _ (by omega)
    have d0 : ¬ d = 0 := by omega
    have gg := G.out
    have pw := D.out.put hkm (by omega) HK.out (z := r)
    have zl : ba < W.heap.size := World.block_lt_of_cell? _ _ hc1
    clear gg
    have R := Lib.hid (And.intro hr hz)
    have PW := Lib.hid pw
    have hc2 : (W.setCell ⟨g, 0, none⟩ (.int .i64 r)).cell? ⟨ba, oa, none⟩ = some (.int .i64 d) := World.cell_set hc1 (by
      have h1 := (World.block_lt_of_cell? _ _ hc1)
      obtain ⟨b', o', e, _, hlt⟩ := HA.out.at hkm
      cases e
      have := G.out
      simp
      omega)
    clear pw hd hu hy hr hz zl
    by_cases hz0 : z = 0
    · go_wp2
      simp only [Exit.jump]
      go_ret
      have hzk : carK c h x (0 + 1) = 0 := by rw [← R.out.2]; exact hz0
      have fu := D.out.full HC.out HD.out L1.out hzk
      rw [← R.out.1] at fu
      have ow := PW.out.1.ended (lo := w.heap.size) (by have := G.out; omega) PW.out.2.2.2
      rw [fu] at ow
      refine ⟨_, _, _, rfl, ow, PW.out.2.1, ?_⟩
      rw [lead_eq (r := 0) (by have := L1.out; omega) D.out.pre (fun _ => by simpa using hzk)]
      exact PW.out.2.2.1
    · have hz1 : (z == 0) = false := by simpa using hz0
      have tl := HL.out 0 _ (by have := L1.out; omega) PW.out.2.2.1
      rw [← R.out.2] at tl
      have TL := Lib.hid tl; clear tl
      by_cases hlast : 0 + 1 < m
      · go_wp2_with fail
        refine (TL.out).mono ?_
        rintro e W3 ⟨rfl, i3, c3⟩
        have g3 : g < W3.heap.size := Nat.lt_of_lt_of_le PW.out.2.2.2 c3.size
        have o3 := PW.out.1.chg c3 (fun b h1 h2 h3 => by have := PB.out b h3; have := G.out; omega)
        rw [R.out.1] at o3
        have D3 := Lib.hid (D.out.next hkm o3 (PW.out.2.1.trans c3) i3 g3 (by rw [← R.out.2]; exact hz0))
        clear o3 i3 c3 k0 k1 hc1 hc2
        go_wp2
        go_step3
        exact ⟨rfl, 0 + 1, z, _, _, _, _, _, _, _, _, _, _, _, _, _, _, _, _, _, _, _, _, _, _, _, _, _, _, _, _, _, _, _, _, _, _, _, _, ⟨rfl, by omega⟩, R.out.2, _, D3.out⟩
      · obtain rfl : m = 0 + 1 := by omega
        go_wp2_with fail
        refine (TL.out).mono ?_
        rintro e W3 ⟨rfl, i3, c3⟩
        have g3 : g < W3.heap.size := Nat.lt_of_lt_of_le PW.out.2.2.2 c3.size
        have o3 := PW.out.1.chg c3 (fun b h1 h2 h3 => by have := PB.out b h3; have := G.out; omega)
        have fu := D.out.last L1.out rfl
        rw [← R.out.1] at fu
        have D3 := Lib.hid (D.out.next hkm (by rw [← R.out.1]; exact o3) (PW.out.2.1.trans c3) i3 g3 (by rw [← R.out.2]; exact hz0))
        have ow := o3.ended (lo := w.heap.size) (by have := G.out; omega) g3
        rw [fu] at ow
        have OW := Lib.hid ow
        have C3 := Lib.hid (PW.out.2.1.trans c3)
        have I3 := Lib.hid i3
        clear o3 i3 c3 k0 k1 hc1 hc2 ow fu
        go_wp2
        simp only [Exit.jump]
        go_ret
        refine ⟨_, _, _, rfl, OW.out, C3.out, ?_⟩
        rw [lead_eq (r := 0 + 1) (by have := L1.out; omega) D3.out.pre (fun h => absurd h (by have := L1.out; omega))]
        exact I3.out
  · rintro a' W ⟨k, y, u16, u17, u18, u19, u20, u21, u22, u23, u24, u25, u26, u27, u28, u29, u30, u31, u32, u33, u34, u35, u36, u37, u38, u39, u40, u41, u42, u43, u44, u45, u46, u47, u48, u49, u50, u51, ⟨rfl, hkm⟩, rfl, l, dr⟩
    have D := Lib.hid dr; clear dr
    clear hg
    obtain ⟨ba, oa, rfl, hc1, _⟩ := (HA.out.chg D.out.chg PA.out).at hkm
    have e1 := D.out.hi k (Nat.le_refl _)
    obtain ⟨k0, k1⟩ := D.out.own.cells hkm
    have q1 := HC.out.2 k (by have := L1.out; omega)
    have q2 := HD.out.2 k (by have := L1.out; omega)
    have q3 := carK_bd HC.out HD.out x0 k (by have := L1.out; omega)
    have q4 := carK_bd HC.out HD.out x0 (k + 1) (by have := L1.out; omega)
    rw [e1] at k0
    clear e1
    have e2 : (carK c h x k + h[k]?.getD 0) % (c[k]?.getD 0) = rstK c h x k := rfl
    have e3 : (carK c h x k + h[k]?.getD 0) / (c[k]?.getD 0) = carK c h x (k + 1) := rfl
    obtain ⟨d, hd⟩ : ∃ d, d = c[k]?.getD 0 := ⟨_, rfl⟩
    obtain ⟨u, hu⟩ : ∃ u, u = h[k]?.getD 0 := ⟨_, rfl⟩
    obtain ⟨y, hy⟩ : ∃ y, y = carK c h x k := ⟨_, rfl⟩
    rw [← hd] at hc1 q1 q2 e2 e3
    rw [← hu] at k0 q2 e2 e3
    rw [← hy] at q3 e2 e3 ⊢
    obtain ⟨r, hr⟩ : ∃ r, r = rstK c h x k := ⟨_, rfl⟩
    obtain ⟨z, hz⟩ : ∃ z, z = carK c h x (k + 1) := ⟨_, rfl⟩
    rw [← hr] at e2
    rw [← hz] at e3 q4
    have w1 : IntKind.i64.wrap (y + u) = y + u := IntWalk.i64_in _ (by omega)
    have w2 : IntKind.i64.wrap ((y + u) / d) = z := by rw [e3]; exact IntWalk.i64_in _ (by omega)
    have d0 : ¬ d = 0 := by omega
    have gg := G.out
    have pw := D.out.put hkm (by omega) HK.out (z := r)
    have zl : ba < W.heap.size := World.block_lt_of_cell? _ _ hc1
    clear gg
    have R := Lib.hid (And.intro hr hz)
    have PW := Lib.hid pw
    have hc2 : (W.setCell ⟨g, k, none⟩ (.int .i64 r)).cell? ⟨ba, oa + k, none⟩ = some (.int .i64 d) := World.cell_set hc1 (by
      have h1 := (World.block_lt_of_cell? _ _ hc1)
      obtain ⟨b', o', e, _, hlt⟩ := HA.out.at hkm
      cases e
      have := G.out
      simp
      omega)
    clear pw hd hu hy hr hz zl
    by_cases hz0 : z = 0
    · go_wp2
      simp only [Exit.jump]
      go_ret
      have hzk : carK c h x (k + 1) = 0 := by rw [← R.out.2]; exact hz0
      have fu := D.out.full HC.out HD.out L1.out hzk
      rw [← R.out.1] at fu
      have ow := PW.out.1.ended (lo := w.heap.size) (by have := G.out; omega) PW.out.2.2.2
      rw [fu] at ow
      refine ⟨_, _, _, rfl, ow, PW.out.2.1, ?_⟩
      rw [lead_eq (r := k) (by have := L1.out; omega) D.out.pre (fun _ => by simpa using hzk)]
      exact PW.out.2.2.1
    · have hz1 : (z == 0) = false := by simpa using hz0
      have tl := HL.out k _ (by have := L1.out; omega) PW.out.2.2.1
      rw [← R.out.2] at tl
      have TL := Lib.hid tl; clear tl
      by_cases hlast : k + 1 < m
      · go_wp2_with fail
        refine (TL.out).mono ?_
        rintro e W3 ⟨rfl, i3, c3⟩
        have g3 : g < W3.heap.size := Nat.lt_of_lt_of_le PW.out.2.2.2 c3.size
        have o3 := PW.out.1.chg c3 (fun b h1 h2 h3 => by have := PB.out b h3; have := G.out; omega)
        rw [R.out.1] at o3
        have D3 := Lib.hid (D.out.next hkm o3 (PW.out.2.1.trans c3) i3 g3 (by rw [← R.out.2]; exact hz0))
        clear o3 i3 c3 k0 k1 hc1 hc2
        go_wp2
        go_step3
        refine ⟨rfl, ⟨k + 1, z, _, _, _, _, _, _, _, _, _, _, _, _, _, _, _, _, _, _, _, _, _, _, _, _, _, _, _, _, _, _, _, _, _, _, _, _, ⟨rfl, by omega⟩, R.out.2, _, D3.out⟩, ?_⟩
        simp [intOf]
        omega
      · obtain rfl : m = k + 1 := by omega
        go_wp2_with fail
        refine (TL.out).mono ?_
        rintro e W3 ⟨rfl, i3, c3⟩
        have g3 : g < W3.heap.size := Nat.lt_of_lt_of_le PW.out.2.2.2 c3.size
        have o3 := PW.out.1.chg c3 (fun b h1 h2 h3 => by have := PB.out b h3; have := G.out; omega)
        have fu := D.out.last L1.out rfl
        rw [← R.out.1] at fu
        have D3 := Lib.hid (D.out.next hkm (by rw [← R.out.1]; exact o3) (PW.out.2.1.trans c3) i3 g3 (by rw [← R.out.2]; exact hz0))
        have ow := o3.ended (lo := w.heap.size) (by have := G.out; omega) g3
        rw [fu] at ow
        have OW := Lib.hid ow
        have C3 := Lib.hid (PW.out.2.1.trans c3)
        have I3 := Lib.hid i3
        clear o3 i3 c3 k0 k1 hc1 hc2 ow fu
        go_wp2
        simp only [Exit.jump]
        go_ret
        refine ⟨_, _, _, rfl, OW.out, C3.out, ?_⟩
        rw [lead_eq (r := k + 1) (by have := L1.out; omega) D3.out.pre (fun h => absurd h (by have := L1.out; omega))]
        exact I3.out
end Go.Proofs.Ytbgbglalibjncaa
