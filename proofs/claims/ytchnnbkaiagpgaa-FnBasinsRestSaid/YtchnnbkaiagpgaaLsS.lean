/- LeastSize: the model's. -/
import Derived.Test.YtchnnbkaiagpgaaLsI
import Derived.Test.YtchnnbkaiagpgaaWeGo
import Derived.Deep.RegionHeld3
namespace Go.Proofs.Ytchnnbkaiagpgaa
open Go.RowKit Go.Conc

theorem wp_store_blk {P : Program} {op : Oper} {a : Act} {w : World} {K : Act → World → Prop} {Q : Exit → Act → World → Prop} (ty : TypeId) (x y : Operand) (ho : op.op = .store ty x y)
    (B o : Nat) (cs vs : List Value) (t : TypeId) (hx : a.eval x = .pointer (some ⟨B, o, none⟩)) (hy : a.eval y = .agg vs.toArray) (hB : WB w B cs t) (hfit : o + vs.length ≤ cs.length) (hi : (P.info? ty).map (·.size) = some vs.length)
    (h1 : ∀ v ∈ vs, v.oneCell' = true) (h : ∀ w', WB w' B (splice cs o vs) t → Chg (fun b => b = B) w w' → K (a.put op.dst undef) w') : op.wp P a w K Q := by
  obtain ⟨w', hr, hb, hc⟩ := run_storeVar_blk (P := P) w B o ty t cs vs hB hfit hi h1
  unfold Oper.wp execOp
  simp only [ho, hx, hy, Instr.storeAt, Instr.sureAddr, Sem.run_bind, Sem.run_pure, Result.andThen_ok, hr]
  exact h w' hb hc
theorem splice_far {α : Type} (cs vs : List α) (o i : Nat) (h : o + vs.length ≤ cs.length) (hi : i < o ∨ o + vs.length ≤ i) : (splice cs o vs)[i]? = cs[i]? := by
  rcases hi with hi | hi
  · exact splice_before cs vs o i (by omega) hi
  · unfold splice
    rw [List.getElem?_append_right (by rw [List.length_take]; omega), List.length_take, List.getElem?_append_right (by omega), List.getElem?_drop]
    congr 1
    omega
theorem Basins.of_store {w : World} {g cap n p : Nat} {l : List (Int × Int × Int)} {s u h : Int} {cs : List Value} (hB : WB w g (splice cs (p * 3) [.int .i64 s, .int .i64 u, .int .i64 h]) 48) (hn : n = l.length) (hc : n ≤ cap) (hm : n ≤ 9223372036854775807)
    (hp : p < n) (hl : n * 3 ≤ cs.length) (ht : cs.take (n * 3) = flatBasin l) (hu : u = (l[p]?.getD (0, 0, 0)).2.1) (hh : h = (l[p]?.getD (0, 0, 0)).2.2) : Basins w (some ⟨g, 0, none⟩) n cap (setS l p s) := by
  have at_ : ∀ i v, i < n * 3 → (flatBasin l)[i]? = some v → cs[i]? = some v := fun i v hi hv => by
    rw [← ht, List.getElem?_take, if_pos hi] at hv
    exact hv
  have fit : p * 3 + ([.int .i64 s, .int .i64 u, .int .i64 h] : List Value).length ≤ cs.length := by simp; omega
  refine ⟨by rw [setS_length]; exact hn, hc, hm, fun j hj => ⟨g, 0, rfl, ?_⟩, fun e => by cases e⟩
  obtain ⟨c0, c1, c2⟩ := flatBasin_get l j (by omega)
  rw [Nat.zero_add]
  by_cases e : j = p
  · subst e
    rw [setS_same _ _ _ (by omega)]
    exact ⟨hB.cell (splice_in cs _ (j * 3) 0 fit (by simp)), hB.cell (by rw [splice_in cs _ (j * 3) 1 fit (by simp), ← hu]; rfl), hB.cell (by rw [splice_in cs _ (j * 3) 2 fit (by simp), ← hh]; rfl)⟩
  · rw [setS_other _ _ _ _ e]
    refine ⟨hB.cell (by rw [splice_far cs _ _ _ fit (by simp; omega)]; exact at_ _ _ (by omega) c0), hB.cell (by rw [splice_far cs _ _ _ fit (by simp; omega)]; exact at_ _ _ (by omega) c1), hB.cell (by rw [splice_far cs _ _ _ fit (by simp; omega)]; exact at_ _ _ (by omega) c2)⟩

set_option maxRecDepth 100000 in
set_option maxHeartbeats 4000000 in
set_option linter.unusedSimpArgs false in
theorem sLeastSize_any (w : World) (aa : Option Addr) (n ca : Nat) (l : List (Int × Int × Int)) (i : Int) (ab : Option Addr) (m cb : Nat) (xs : List Int) (ha : Basins w aa n ca l) (hx : Ints w ab m cb xs) :
    Calls Try.prog 44 #[.slice aa n ca, .int .i64 i, .slice ab m cb] w fun e w' => e = .returned (.tuple #[.int .i64 (lsM l i xs).1, .bool (lsM l i xs).2]) ∧ New w w' := by
  have HN := Lib.hid ha.1
  have HM := Lib.hid hx.1
  have hnn := ha.2.2.1
  have hmm := hx.2.2.1
  have HA := Lib.hid ha; clear ha
  have HX := Lib.hid hx; clear hx
  by_cases h : askB l xs = true
  · by_cases hp : inB 0 ((n : Int) - 1) i = true
    · have hb : lsB l i xs = true := by unfold lsB; rw [h, ← HN.out, hp]; rfl
      obtain ⟨i0, i1⟩ := inB_iff.1 hp
      obtain ⟨p, rfl⟩ := Int.eq_ofNat_of_zero_le i0
      have HL := Lib.hid (show lsM l p xs = if pkI l xs p m ≤ 1000 then (pkI l xs p m, true) else (0, false) by unfold lsM; rw [if_pos hb, HM.out]; rfl)
      have HC := Lib.hid (askB_iff.1 h)
      have pn : p < n := by omega
      have PL := Lib.hid (show p < l.length by have := HN.out; omega)
      have n6 : 1 ≤ n ∧ n ≤ 6 := by have q := HC.out.1; have := q.1; have := q.2.1; have := HN.out; omega
      have m60 : m ≤ 60 := by have := HC.out.2.1; have := HM.out; omega
      have PB := Lib.hid (pkI_bd HC.out.1 HC.out.2 PL.out m (by rw [HM.out]; omega))
      have P0 := Lib.hid (pkI_bd HC.out.1 HC.out.2 PL.out 0 (by omega))
      have PW := Lib.hid (pkI_low l xs p m)
      have BK := Lib.hid (HC.out.1.2.2 p PL.out)
      obtain ⟨i1', hj, hy0, hy1, hy2⟩ := info_parts Try.infoBas
      obtain ⟨bx, ox, rfl, g0, g1, g2⟩ := HA.out.2.2.2.1 p pn
      have zx := World.block_lt_of_cell? w _ g1
      go_enter Try.func44, Try.ntmps44
      go_wp2_with fail
      refine (weAsked_any _ _ _ _ l _ _ _ xs HA.out HX.out).mono ?_
      rintro e w1 ⟨rfl, n1⟩
      have N1 := Lib.hid n1
      have g2' := n1.cell g2
      clear n1
      go_wp2_with fail
      refine (l1In_any _ _ _ _).mono ?_
      rintro e w9 ⟨rfl, rfl⟩
      go_wp2_with fail
      refine (l1Most_any _ _ _).mono ?_
      rintro e w9 ⟨rfl, rfl⟩
      clear h hp hb i0 i1
      obtain ⟨uu, huu⟩ : ∃ uu, uu = (l[p]?.getD (0, 0, 0)).2.1 := ⟨_, rfl⟩
      obtain ⟨hh, hhh⟩ : ∃ hh, hh = (l[p]?.getD (0, 0, 0)).2.2 := ⟨_, rfl⟩
      rw [← huu] at g1
      rw [← hhh] at g2 g2'
      have MX := Lib.hid (show pkI l xs p 0 = max 1 hh by rw [hhh]; rfl)
      have UU := Lib.hid huu
      have HH := Lib.hid hhh
      clear huu hhh g0
      try rw [← HH.out]
      go_wp2_with fail
      go_loopw [8] (fun y wr => ∃ s : Int, y = .int .i64 s ∧ pkI l xs p 0 ≤ s ∧ s ≤ 1001 ∧ s ≤ pkI l xs p m ∧ New w wr) (fun y _ => (1001 - intOf y).toNat)
      case atStart => exact ⟨_, rfl, by rw [MX.out]; exact Int.le_refl _, by have a := MX.out; have b := BK.out; have c := HH.out; unfold BasOk at b; omega, by have a := MX.out; have b := PW.out; have c := HH.out; omega, N1.out⟩
      case round =>
        obtain ⟨s, rfl, hs0, hs1, hs2, hnw⟩ := hrel
        have NW := Lib.hid hnw; clear hnw
        obtain ⟨wq, hwq⟩ : ∃ u : World, u = wr := ⟨_, rfl⟩
        subst hwq
        have S0 := Lib.hid hs0; clear hs0
        have S2 := Lib.hid hs2; clear hs2
        have s1 : 1 ≤ s := by have a := S0.out; have b := P0.out; omega
        by_cases hle : s ≤ 1000
        · have f1 := NW.out.cell g1
          have f2 := NW.out.cell g2
          have zq := NW.out.size
          obtain ⟨w2, hw2⟩ : ∃ w2, w2 = wq.alloc (.cells #[] 48) := ⟨_, rfl⟩
          have k2 : New wq w2 := by rw [hw2]; exact (by repeat (first | with_reducible exact New.refl _ | with_reducible assumption | refine New.drewN ?_ _ | refine New.drew ?_ | refine New.alloc ?_ _ | refine New.setCell ?_ (by first | omega | (simp; omega) | (simp; done)) _ | (refine New.trans ?_ (by assumption))))
          have o2 : w2.ownsRow wq.heap.size 48 3 (.slice (some ⟨wq.heap.size, 0, none⟩) 0 0) 0 [] := by
            rw [hw2]
            exact ⟨rfl, .inr ⟨wq.heap.size, 0, #[], rfl, Nat.le_refl _, heap_alloc_at rfl, Nat.le_refl _, by unfold maxLen; omega, rfl, rfl⟩⟩
          have z2 : w2.heap.size = wq.heap.size + 1 := by rw [hw2]; simp
          have HW := Lib.hid hw2; clear hw2
          have K2 := Lib.hid (NW.out.trans k2); clear k2
          have O2 := Lib.hid o2; clear o2
          go_upto_region 7 with (at_builtin; (rw [← HW.out]); go_must (refine wpList_append_lies _ (by rfl) (.tmp 35) (.tmp 36) 24 (by rfl) wq.heap.size 48 i1' _ 3 24 Try.underlying24 hj hy0 hy1 hy2 rfl (by decide) _ 0 _ (by rfl) O2.out ⟨bx, ox, none⟩ n ca (flatBasin l) (by rfl) (by rw [flatBasin_length, ← HN.out]) ((HA.out.new K2.out).source) (flatBasin_one l) (by omega) (by unfold maxLen; omega) (by omega) (by omega) _ rfl ?_); intro g4 cap4 w4 ho hg hb' hlt'; have O4 := Lib.hid (show w4.ownsRow wq.heap.size 48 3 (.slice (some ⟨g4, 0, none⟩) n cap4) n (flatBasin l) by simpa using ho); have N4 := Lib.hid (New.grown (w0 := wq) ((New.refl wq).trans (show New wq w2 by rw [HW.out]; exact (by repeat (first | with_reducible exact New.refl _ | with_reducible assumption | refine New.drewN ?_ _ | refine New.drew ?_ | refine New.alloc ?_ _ | refine New.setCell ?_ (by first | omega | (simp; omega) | (simp; done)) _ | (refine New.trans ?_ (by assumption)))))) O2.out (Nat.le_refl _) hg); clear ho hg hb' hlt')
          obtain ⟨_, ⟨e1, _⟩ | ⟨g, cap, cur, e1, hgb, hgh, hnc, _, hsz, htk⟩⟩ := O4.out
          · cases e1
          cases e1
          have B4 := Lib.hid (show WB w4 g4 cur.toList 48 by unfold WB; rw [Array.toArray_toList]; exact hgh)
          have LZ := Lib.hid (show n * 3 ≤ cur.toList.length by rw [Array.length_toList, hsz]; omega)
          have TK := Lib.hid htk
          have GB := Lib.hid (show w.heap.size ≤ g4 ∧ wq.heap.size ≤ g4 from ⟨by omega, hgb⟩)
          obtain ⟨cs, hcs⟩ : ∃ cs, cs = cur.toList := ⟨_, rfl⟩
          rw [← hcs] at B4 LZ TK
          clear hcs hgh htk hsz
          have f1 := N4.out.cell f1
          have f2 := N4.out.cell f2
          have p0 : (0 : Int) ≤ (p : Int) := by omega
          have p1 : (p : Int) < (n : Int) := by omega
          refine wp_region_held_drew (S := fun w' => w'.cell? ⟨bx, ox + p * 3 + 1, none⟩ = some (.int .i64 uu) ∧ w'.cell? ⟨bx, ox + p * 3 + 2, none⟩ = some (.int .i64 hh)) (by kernel_rfl) ⟨f1, f2⟩ (fun hHeld => ?_)
          refine wpAnyH_take (i := 0) (oi := ⟨some 38, _, _, _, _, _⟩) (v := ?_) rfl (by kernel_rfl) (by kernel_rfl) (by kernel_rfl) (fun _ _ _ h => h) (Or.inl ⟨by rfl, ?_⟩) hHeld ?_; rotate_left; (· (intro w_ hSw; (try dsimp only at hSw); (try go_split_ands); go_simp; (try with_reducible rfl))); (try simp only [Act.put, List.setIfInBounds_toArray, List.set_cons_zero, List.set_cons_succ])
          refine wpAnyH_take (i := 1) (oi := ⟨some 39, _, _, _, _, _⟩) (v := ?_) rfl (by kernel_rfl) (by kernel_rfl) (by kernel_rfl) (fun _ _ _ h => h) (Or.inl ⟨by rfl, ?_⟩) hHeld ?_; rotate_left; (· (intro w_ hSw; (try dsimp only at hSw); (try go_split_ands); go_simp; (try with_reducible rfl))); (try simp only [Act.put, List.setIfInBounds_toArray, List.set_cons_zero, List.set_cons_succ])
          refine wpAnyH_take (i := 2) (oi := ⟨some 40, _, _, _, _, _⟩) (v := ?_) rfl (by kernel_rfl) (by kernel_rfl) (by kernel_rfl) (fun _ _ _ h => h) (Or.inl ⟨by rfl, ?_⟩) hHeld ?_; rotate_left; (· (intro w_ hSw; (try dsimp only at hSw); (try go_split_ands); go_simp; (try with_reducible rfl))); (try simp only [Act.put, List.setIfInBounds_toArray, List.set_cons_zero, List.set_cons_succ])
          refine wpAnyH_take (i := 3) (oi := ⟨some 41, _, _, _, _, _⟩) (v := ?_) rfl (by kernel_rfl) (by kernel_rfl) (by kernel_rfl) (fun _ _ _ h => h) (Or.inl ⟨by rfl, ?_⟩) hHeld ?_; rotate_left; (· (intro w_ hSw; (try dsimp only at hSw); (try go_split_ands); go_simp; (try with_reducible rfl))); (try simp only [Act.put, List.setIfInBounds_toArray, List.set_cons_zero, List.set_cons_succ])
          refine wpAnyH_take (i := 4) (oi := ⟨some 42, _, _, _, _, _⟩) (v := ?_) rfl (by kernel_rfl) (by kernel_rfl) (by kernel_rfl) (fun _ _ _ h => h) (Or.inl ⟨by rfl, ?_⟩) hHeld ?_; rotate_left; (· (intro w_ hSw; (try dsimp only at hSw); (try go_split_ands); go_simp; (try with_reducible rfl))); (try simp only [Act.put, List.setIfInBounds_toArray, List.set_cons_zero, List.set_cons_succ])
          refine wpAnyH_take (i := 5) (oi := ⟨some 43, _, _, _, _, _⟩) (v := ?_) rfl (by kernel_rfl) (by kernel_rfl) (by kernel_rfl) (fun _ _ _ h => h) (Or.inl ⟨by rfl, ?_⟩) hHeld ?_; rotate_left; (· (intro w_ hSw; (try dsimp only at hSw); (try go_split_ands); go_simp; (try with_reducible rfl))); (try simp only [Act.put, List.setIfInBounds_toArray, List.set_cons_zero, List.set_cons_succ])
          refine wpAnyH_take (i := 6) (oi := ⟨some 44, _, _, _, _, _⟩) (v := ?_) rfl (by kernel_rfl) (by kernel_rfl) (by kernel_rfl) (fun _ _ _ h => h) (Or.inl ⟨by rfl, ?_⟩) hHeld ?_; rotate_left; (· (intro w_ hSw; (try dsimp only at hSw); (try go_split_ands); go_simp; (try with_reducible rfl))); (try simp only [Act.put, List.setIfInBounds_toArray, List.set_cons_zero, List.set_cons_succ])
          refine wpAnyH_take (i := 7) (oi := ⟨some 45, _, _, _, _, _⟩) (v := ?_) rfl (by kernel_rfl) (by kernel_rfl) (by kernel_rfl) (fun _ _ _ h => h) (Or.inl ⟨by rfl, ?_⟩) hHeld ?_; rotate_left; (· (intro w_ hSw; (try dsimp only at hSw); (try go_split_ands); go_simp; (try with_reducible rfl))); (try simp only [Act.put, List.setIfInBounds_toArray, List.set_cons_zero, List.set_cons_succ])
          refine wpAnyH_take (i := 8) (oi := ⟨some 46, _, _, _, _, _⟩) (v := ?_) rfl (by kernel_rfl) (by kernel_rfl) (by kernel_rfl) (fun _ _ _ h => h) (Or.inl ⟨by rfl, ?_⟩) hHeld ?_; rotate_left; (· (intro w_ hSw; (try dsimp only at hSw); (try go_split_ands); go_simp; (try with_reducible rfl))); (try simp only [Act.put, List.setIfInBounds_toArray, List.set_cons_zero, List.set_cons_succ])
          refine wpAnyH_take (i := 9) (oi := ⟨some 47, _, _, _, _, _⟩) (v := ?_) rfl (by kernel_rfl) (by kernel_rfl) (by kernel_rfl) (fun _ _ _ h => h) (Or.inl ⟨by rfl, ?_⟩) hHeld ?_; rotate_left; (· (intro w_ hSw; (try dsimp only at hSw); (try go_split_ands); go_simp; (try with_reducible rfl))); (try simp only [Act.put, List.setIfInBounds_toArray, List.set_cons_zero, List.set_cons_succ])
          refine wpAnyH_take (i := 10) (oi := ⟨some 48, _, _, _, _, _⟩) (v := ?_) rfl (by kernel_rfl) (by kernel_rfl) (by kernel_rfl) (fun _ _ _ h => h) (Or.inl ⟨by rfl, ?_⟩) hHeld ?_; rotate_left; (· (intro w_ hSw; (try dsimp only at hSw); (try go_split_ands); go_simp; (try with_reducible rfl))); (try simp only [Act.put, List.setIfInBounds_toArray, List.set_cons_zero, List.set_cons_succ])
          refine wpAnyH_take (i := 11) (oi := ⟨some 49, _, _, _, _, _⟩) (v := ?_) rfl (by kernel_rfl) (by kernel_rfl) (by kernel_rfl) (fun _ _ _ h => h) (Or.inl ⟨by rfl, ?_⟩) hHeld ?_; rotate_left; (· (intro w_ hSw; (try dsimp only at hSw); (try go_split_ands); go_simp; (try with_reducible rfl))); (try simp only [Act.put, List.setIfInBounds_toArray, List.set_cons_zero, List.set_cons_succ])
          refine wpAnyH_take (i := 12) (oi := ⟨some 50, _, _, _, _, _⟩) (v := ?_) rfl (by kernel_rfl) (by kernel_rfl) (by kernel_rfl) (fun _ _ _ h => h) (Or.inl ⟨by rfl, ?_⟩) hHeld ?_; rotate_left; (· (intro w_ hSw; (try dsimp only at hSw); (try go_split_ands); go_simp; (try with_reducible rfl))); (try simp only [Act.put, List.setIfInBounds_toArray, List.set_cons_zero, List.set_cons_succ])
          refine wpAnyH_take (i := 13) (oi := ⟨some 51, _, _, _, _, _⟩) (v := ?_) rfl (by kernel_rfl) (by kernel_rfl) (by kernel_rfl) (fun _ _ _ h => h) (Or.inl ⟨by rfl, ?_⟩) hHeld ?_; rotate_left; (· (intro w_ hSw; (try dsimp only at hSw); (try go_split_ands); go_simp; (try with_reducible rfl))); (try simp only [Act.put, List.setIfInBounds_toArray, List.set_cons_zero, List.set_cons_succ])
          refine wpAnyH_take (i := 14) (oi := ⟨some 52, _, _, _, _, _⟩) (v := ?_) rfl (by kernel_rfl) (by kernel_rfl) (by kernel_rfl) (fun _ _ _ h => h) (Or.inl ⟨by rfl, ?_⟩) hHeld ?_; rotate_left; (· (intro w_ hSw; (try dsimp only at hSw); (try go_split_ands); go_simp; (try with_reducible rfl))); (try simp only [Act.put, List.setIfInBounds_toArray, List.set_cons_zero, List.set_cons_succ])
          refine wpAnyH_ready (rs := [15]) (by kernel_rfl) (by simp) ?_
          refine AllReadyH.cons (o := ⟨none, _, _, _, _, _⟩) rfl (fun K hK => ?_) AllReadyH.nil
          rw [if_pos (by rfl)]
          refine wp_store_blk 48 (.tmp 52) (.tmp 51) rfl g4 (p * 3) cs [.int .i64 s, .int .i64 uu, .int .i64 hh] 48 rfl rfl (show WB w4.drew g4 cs 48 from B4.out) (by have := LZ.out; simp; omega) (by kernel_rfl) (by simp [Value.oneCell']) ?_
          intro w5 hb5 hc5
          refine hK.out _ _ ⟨hc5.cell f1 (by have := GB.out; simp; omega), hc5.cell f2 (by have := GB.out; simp; omega)⟩ (fun hHeld => ?_)
          clear hK K hHeld
          try simp only [Act.put, List.setIfInBounds_toArray, List.set_cons_zero, List.set_cons_succ]
          refine wpAnyH_done (by kernel_rfl) ?_ _
          have BS := Lib.hid (Basins.of_store hb5 HN.out hnc (by omega) pn LZ.out TK.out UU.out HH.out)
          have N5 := Lib.hid (show New w w5 from Chg.new (w0 := w) ((NW.out.trans N4.out).trans (show New w4 w4.drew from (by repeat (first | with_reducible exact New.refl _ | with_reducible assumption | refine New.drewN ?_ _ | refine New.drew ?_ | refine New.alloc ?_ _ | refine New.setCell ?_ (by first | omega | (simp; omega) | (simp; done)) _ | (refine New.trans ?_ (by assumption)))))) hc5 (fun b hb => by have := GB.out; omega))
          have SO := Lib.hid (setS_ok HC.out.1 p s PL.out s1 hle (by have a := MX.out; have b := S0.out; have c := HH.out; omega))
          clear hb5 hc5 f1 f2 B4 LZ TK
          go_wp2_with fail
          refine (weGo_any _ _ _ _ (setS l p s) _ _ _ xs BS.out (HX.out.new N5.out) SO.out HC.out.2).mono ?_
          rintro e w6 ⟨ga, gc, ea, en, ec, sa, sc, ra, rc, rfl, _, _, is, _, n6'⟩
          have IS := Lib.hid is; clear is
          have N6 := Lib.hid (N5.out.trans n6'); clear n6'
          go_wp2_with ((with_reducible (show wpList _ _ _ ({ dst := _, op := .field _ _ _, type := _, pos := _, after := _, guard := _ } :: _) _ _)); go_must (refine wpList_value_as rfl (.slice sa m sc) (by kernel_rfl) ?_))
          go_loopw [10, 58] (fun y t wr => ∃ (k : Nat) (b : Bool), k ≤ m ∧ t = .int .i64 k ∧ y = .bool b ∧ (b = true ↔ ∃ u, u < k ∧ 0 < spAt (setS l p s) xs u p) ∧ w6 = wr) (fun _ t _ => m - (intOf t).toNat)
          case atStart => exact ⟨0, false, Nat.zero_le _, rfl, rfl, ⟨fun h => (by cases h), fun ⟨u, hu, _⟩ => absurd hu (by omega)⟩, rfl⟩
          case round =>
            obtain ⟨k, b, hk, rfl, rfl, hb, rfl⟩ := hrel
            have HB := Lib.hid hb; clear hb
            by_cases hlt : k < m
            · obtain ⟨bq, oq, qa, qm, qc, rfl, hcl, hbs⟩ := IS.out.2.2.2.1 k hlt
              have e1 : (spillsTo (setS l p s) xs m)[k]?.getD [] = spillsAt (setS l p s) xs k := by simp [spillsTo, hlt]
              rw [e1] at hbs
              have hqm : n = qm := by have := hbs.1; rw [spillsAt_length, setS_length] at this; rw [HN.out]; exact this.symm
              subst hqm
              obtain ⟨bz, oz, rfl, hcl2, _⟩ := hbs.at pn
              rw [spillsAt_get _ _ _ _ (by rw [setS_length]; exact PL.out)] at hcl2
              clear hbs e1
              obtain ⟨z, hz⟩ : ∃ z, z = spAt (setS l p s) xs k p := ⟨_, rfl⟩
              rw [← hz] at hcl2
              have ZZ := Lib.hid hz; clear hz
              cases b with
              | true =>
                go_wp2_with fail
                go_roundw
                case rel => exact ⟨k + 1, true, by omega, by go_num, rfl, ⟨fun _ => by obtain ⟨u, hu, h⟩ := HB.out.1 rfl; exact ⟨u, by omega, h⟩, fun _ => rfl⟩, by first | rfl | trivial⟩
                case measure => simp [intOf]; omega
              | false =>
                by_cases hz : 0 < z
                · go_wp2_with fail
                  go_roundw
                  case rel => exact ⟨k + 1, true, by omega, by go_num, rfl, ⟨fun _ => ⟨k, by omega, by rw [← ZZ.out]; exact hz⟩, fun _ => rfl⟩, by first | rfl | trivial⟩
                  case measure => simp [intOf]; omega
                · go_wp2_with fail
                  go_roundw
                  case rel =>
                    refine ⟨k + 1, false, by omega, by go_num, rfl, ⟨fun h => (by cases h), fun ⟨u, hu, h⟩ => ?_⟩, by first | rfl | trivial⟩
                    by_cases e : u = k
                    · subst e; have := ZZ.out; omega
                    · exact HB.out.2 ⟨u, by omega, h⟩
                  case measure => simp [intOf]; omega
            · obtain rfl : k = m := by omega
              have NV := Lib.hid (never_iff (m := k) (xs := xs) PL.out S0.out hle)
              cases b with
              | true =>
                have LT := Lib.hid (show ¬ pkI l xs p k ≤ s from fun hc => by
                  obtain ⟨u, hu, h⟩ := HB.out.1 rfl
                  have := NV.out.2 hc u hu
                  omega)
                go_wp2_with fail
                go_roundw
                case rel => exact ⟨s + 1, rfl, by have := S0.out; omega, by omega, by have := LT.out; omega, N6.out⟩
                case measure => simp [intOf]; omega
              | false =>
                have EQ := Lib.hid (show pkI l xs p k = s from by
                  have a := NV.out.1 (fun t ht => by
                    have := fun h => HB.out.2 ⟨t, ht, h⟩
                    by_cases c : 0 < spAt (setS l p s) xs t p
                    · cases this c
                    · omega)
                  have b := S2.out
                  omega)
                go_wp2_with fail
                go_ret2
                exact ⟨by rw [HL.out, EQ.out, if_pos hle]; rfl, N6.out⟩
        · have HX2 := Lib.hid (show 1000 < pkI l xs p m by have := S2.out; omega)
          go_wp2_with fail
          go_ret2
          exact ⟨by rw [HL.out, if_neg (show ¬ pkI l xs p m ≤ 1000 by have := HX2.out; omega)]; rfl, NW.out⟩
    · have hpf := bool_no hp
      have HNO := Lib.hid (lsM_no (l := l) (i := i) (xs := xs) (by unfold lsB; rw [← HN.out, hpf]; simp))
      have n6 : 1 ≤ n ∧ n ≤ 6 := by have q := (askB_iff.1 h).1; have := q.1; have := q.2.1; have := HN.out; omega
      go_enter Try.func44, Try.ntmps44
      go_wp2_with fail
      refine (weAsked_any _ _ _ _ l _ _ _ xs HA.out HX.out).mono ?_
      rintro e w1 ⟨rfl, n1⟩
      have N1 := Lib.hid n1; clear n1
      go_wp2_with fail
      refine (l1In_any _ _ _ _).mono ?_
      rintro e w9 ⟨rfl, rfl⟩
      go_wp2_with fail
      go_ret2
      exact ⟨by rw [HNO.out]; rfl, N1.out⟩
  · have hf := bool_no h
    have HNO := Lib.hid (lsM_no (l := l) (i := i) (xs := xs) (by unfold lsB; rw [hf]; rfl))
    go_enter Try.func44, Try.ntmps44
    go_wp2_with fail
    refine (weAsked_any _ _ _ _ l _ _ _ xs HA.out HX.out).mono ?_
    rintro e w1 ⟨rfl, n1⟩
    have N1 := Lib.hid n1; clear n1
    go_wp2_with fail
    go_ret2
    exact ⟨by rw [HNO.out]; rfl, N1.out⟩
end Go.Proofs.Ytchnnbkaiagpgaa
