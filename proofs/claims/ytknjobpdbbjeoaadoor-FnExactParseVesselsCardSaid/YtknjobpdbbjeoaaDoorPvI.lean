/- ParseVessels: the program's. -/
import Derived.Test.YtknjobpdbbjeoaaDoorPvS
import Derived.Test.YtknjobpdbbjeoaaDoorPvW
namespace Go.Proofs.YtknjobpdbbjeoaaDoor
open Go.RowKit

theorem words_cell (w : World) (W : List ByteArray) (N : Nat) (t : TypeId) {j : Nat} (hj : j < W.length) : (w.alloc (.cells (Lib.cellsOf W N) t)).cell? ⟨w.heap.size, j, none⟩ = some (.string (W[j]?.getD ⟨#[]⟩)) := by
  simp [Lib.cellsOf, List.getElem?_append, hj]
/-- The vessels that have been read out of the first k words. -/
structure Got (s : ByteArray) (W : List ByteArray) (A Bl : List Int) (k : Nat) : Prop where
  la : A.length = k
  lb : Bl.length = k
  word : ∀ j, j < k → W[j]?.getD ⟨#[]⟩ = pieceT A Bl j
  only : ∀ S H, Good S H → outT S H S.length = s → ∀ j, j < k → A[j]?.getD 0 = S[j]?.getD 0 ∧ Bl[j]?.getD 0 = H[j]?.getD 0
theorem map_word {W : List ByteArray} {S H : List Int} {n : Nat} (h : W.map (·.data.toList) = (List.range n).map (pieL S H)) : W.length = n ∧ ∀ j, j < n → W[j]?.getD ⟨#[]⟩ = pieceT S H j := by
  have hl : W.length = n := by have := congrArg List.length h; simpa using this
  refine ⟨hl, fun j hj => ?_⟩
  have h1 := congrArg (fun l => l[j]?) h
  simp only [List.getElem?_map, List.getElem?_range hj] at h1
  rw [List.getElem?_eq_getElem (show j < W.length by omega)] at h1 ⊢
  simp only [Option.map_some, Option.some.injEq, Option.getD_some, pieL] at h1 ⊢
  exact ByteArray.ext (Array.ext' h1)
theorem piece_snoc {A Bl : List Int} {z a : Int} {k j : Nat} (la : A.length = k) (lb : Bl.length = k) (hj : j < k) : pieceT (A ++ [z]) (Bl ++ [a]) j = pieceT A Bl j := by
  unfold pieceT
  rw [List.getElem?_append_left (by omega), List.getElem?_append_left (by omega)]
theorem Got.snoc {s : ByteArray} {W : List ByteArray} {A Bl : List Int} {k : Nat} (h : Got s W A Bl k) {z a : Int} (e : W[k]?.getD ⟨#[]⟩ = numT a.toNat ++ ⟨#[47]⟩ ++ numT z.toNat)
    (hu : ∀ S H, Good S H → outT S H S.length = s → z = S[k]?.getD 0 ∧ a = H[k]?.getD 0) : Got s W (A ++ [z]) (Bl ++ [a]) (k + 1) where
  la := by simp [h.la]
  lb := by simp [h.lb]
  word := fun j hj => by
    by_cases q : j = k
    · subst q
      rw [e]
      unfold pieceT
      rw [List.getElem?_append_right (by rw [h.lb]; exact Nat.le_refl _), List.getElem?_append_right (by rw [h.la]; exact Nat.le_refl _), h.la, h.lb]
      simp
    · rw [h.word j (by omega), piece_snoc h.la h.lb (by omega)]
  only := fun S H hg ho j hj => by
    by_cases q : j = k
    · subst q
      rw [List.getElem?_append_right (by rw [h.la]; exact Nat.le_refl _), List.getElem?_append_right (by rw [h.lb]; exact Nat.le_refl _), h.la, h.lb]
      simpa using hu S H hg ho
    · rw [List.getElem?_append_left (by have := h.la; omega), List.getElem?_append_left (by have := h.lb; omega)]
      exact h.only S H hg ho j (by omega)
theorem Got.yes {s : ByteArray} {A Bl : List Int} {m k : Nat} (h : Got s (Lib.splitB ⟨#[44]⟩ 0 m s) A Bl k) (hk : k = (Lib.splitB ⟨#[44]⟩ 0 m s).length) (hg : Good A Bl) : pvB s = true ∧ pvMS s = A ∧ pvMH s = Bl := by
  refine pv_yes hg ?_
  have hl := hg.1
  obtain ⟨n, hn⟩ : ∃ n, A.length = n + 1 := ⟨A.length - 1, by omega⟩
  refine ByteArray.ext (Array.ext' ?_)
  rw [hn, out_join, ← words_join s m]
  congr 1
  apply List.ext_getElem
  · simp; have := h.la; omega
  · intro j h1 h2
    simp only [List.length_map, List.length_range] at h1
    have hw := h.word j (by have := h.la; omega)
    rw [List.getElem?_eq_getElem (by have := h.la; omega)] at hw
    simp only [List.getElem_map, List.getElem_range, pieL]
    rw [← hw]; rfl
theorem Got.no {s : ByteArray} {A Bl : List Int} {k : Nat} (h : Got s (Lib.splitB ⟨#[44]⟩ 0 (min 6 (s.size + 1) - 1) s) A Bl k) (hk : k = (Lib.splitB ⟨#[44]⟩ 0 (min 6 (s.size + 1) - 1) s).length) (hg : goodB A Bl = false) : pvB s = false ∧ pvMS s = [] ∧ pvMH s = [] := by
  refine pv_no fun S H hG e => ?_
  obtain ⟨hl, _⟩ := map_word (out_words hG e)
  have ea : A = S := ext_getD (by rw [h.la]; omega) fun j hj => (h.only S H hG e j (by have := h.la; omega)).1
  have eb : Bl = H := ext_getD (by rw [h.lb]; have := hG.2.1; omega) fun j hj => (h.only S H hG e j (by have := h.lb; omega)).2
  rw [ea, eb, goodB_iff.2 hG] at hg
  cases hg

set_option maxRecDepth 100000 in
set_option maxHeartbeats 2000000 in
theorem iParseVessels_any (w : World) (s : ByteArray) (hs : s.size ≤ 1048576) (he : PmEnv w) (hx : ∃ m, w.cell? ⟨0, 0, none⟩ = some (.int .i64 m)) : Calls Tryd.prog 5 #[.string s] w (RetV w (pvMS s) (pvMH s) (pvB s)) := by
  have HE := Lib.hid he; clear he
  obtain ⟨mx, hm⟩ := hx
  have HM := Lib.hid hm; clear hm
  obtain ⟨i0, hi, hz0, hz1, hz2⟩ := info_parts Tryd.infoInt
  go_enter Tryd.func5, Tryd.ntmps5
  go_upto_region 1 with fail
  obtain ⟨w1, hw1⟩ : ∃ u : World, u = w.alloc (.cells #[.slice none 0 0, .slice none 0 0] 24) := ⟨_, rfl⟩
  rw [← hw1]
  have N1 := Lib.hid (show New w w1 by rw [hw1]; exact (New.refl _).alloc _)
  have R1 := Lib.hid (show Box0 w1 w.heap.size by rw [hw1]; exact ⟨by simp [go_sem], by simp [go_sem], by simp [go_sem], by simp [go_sem]⟩)
  obtain ⟨B0, hB⟩ : ∃ B, B = w.heap.size := ⟨_, rfl⟩
  have Z1 := Lib.hid (show w1.heap.size = B0 + 1 by rw [hw1, hB]; simp)
  have BL : w.heap.size ≤ B0 := by omega
  rw [← hB] at R1 ⊢
  clear hB hw1
  go_upto_region 2 with fail
  obtain ⟨w2, hw2⟩ : ∃ u : World, u = w1.alloc (.cells #[.slice none 0 0, .slice none 0 0] 24) := ⟨_, rfl⟩
  rw [← hw2]
  obtain ⟨B1, hB1⟩ : ∃ B, B = w1.heap.size := ⟨_, rfl⟩
  have BO2 := Lib.hid (show Both w1 B1 w2 (.slice none 0 0) (.slice none 0 0) 0 0 [] [] by
    rw [hw2, hB1]
    exact ⟨(New.refl _).alloc _, Nat.le_refl _, ⟨by simp [go_sem], by simp [go_sem], World.ownsRow_nil _ _ _ _⟩, ⟨by simp [go_sem], by simp [go_sem], World.ownsRow_nil _ _ _ _⟩, fun g e => by simp [Value.ownBlock] at e⟩)
  rw [← hB1]
  have Z2 := Lib.hid (show B1 = B0 + 1 by rw [hB1, Z1.out])
  have N2 := Lib.hid (show New w w2 by rw [hw2]; exact N1.out.alloc _)
  clear hw2 hB1
  have hm2 := N2.out.cell HM.out
  go_wp2_with fail
  refine (Tryd.strings_SplitN s ⟨#[44]⟩ 6 mx _ (by omega) hm2 (by decide) (by omega) (by omega)).mono ?_
  rintro e w3 ⟨rfl, hw3⟩
  have LN := Lib.hid (Lib.splitB_length_le ⟨#[44]⟩ 0 (min 6 (s.size + 1) - 1) s)
  obtain ⟨W, hW⟩ : ∃ W, W = Lib.splitB ⟨#[44]⟩ 0 (min 6 (s.size + 1) - 1) s := ⟨_, rfl⟩
  rw [← hW] at hw3 LN ⊢
  have EW := Lib.hid hW; clear hW
  have CW := Lib.hid (show ∀ j, j < W.length → w3.cell? ⟨w2.heap.size, j, none⟩ = some (.string (W[j]?.getD ⟨#[]⟩)) from fun j hj => by rw [hw3]; exact words_cell _ _ _ _ hj)
  have BO3 := Lib.hid (BO2.out.kept (wr' := w3) (by rw [hw3]; exact (New.refl _).alloc _))
  obtain ⟨Bw, hBw⟩ : ∃ B, B = w2.heap.size := ⟨_, rfl⟩
  have ZW := Lib.hid (show Bw < w3.heap.size by rw [hw3, hBw]; simp)
  have zB : B1 < Bw := by rw [hBw]; exact BO2.out.s.lt
  rw [← hBw] at CW ⊢
  clear hw3 hBw BO2 hm2
  obtain ⟨L, hL⟩ : ∃ L, L = W.length := ⟨_, rfl⟩
  have l6 : L ≤ 6 := by have := LN.out; omega
  have EL := Lib.hid hL
  rw [← hL]
  clear hL
  obtain ⟨cp, hcp⟩ : ∃ c, c = min 6 (s.size + 1) := ⟨_, rfl⟩
  rw [← hcp]
  clear hcp
  go_wp2
  go_loopw [13] (fun i wr => ∃ (k : Nat) (vS vH : Value) (A Bl : List Int), k ≤ L ∧ i = .int .i64 (k : Int) ∧ Both w1 B1 wr vS vH k k A Bl ∧ Got s W A Bl k ∧ (∀ j, j < W.length → wr.cell? ⟨Bw, j, none⟩ = some (.string (W[j]?.getD ⟨#[]⟩))) ∧ vS.ownBlock ≠ some Bw ∧ vH.ownBlock ≠ some Bw) (fun i _ => L - (intOf i).toNat)
  case atStart => exact ⟨0, _, _, [], [], Nat.zero_le _, rfl, BO3.out, ⟨rfl, rfl, fun j hj => absurd hj (by omega), fun _ _ _ _ j hj => absurd hj (by omega)⟩, CW.out, by simp [Value.ownBlock], by simp [Value.ownBlock]⟩
  case round =>
    obtain ⟨k, vS, vH, A, Bl, hk, rfl, hbo, hgot, hcw, ho1, ho2⟩ := hrel
    have BO := Lib.hid hbo; clear hbo BO3
    have GT := Lib.hid hgot; clear hgot
    have CR := Lib.hid hcw; clear hcw CW
    have OB := Lib.hid (And.intro ho1 ho2); clear ho1 ho2
    have NN := Lib.hid (N1.out.trans BO.out.new)
    by_cases hlt : k < L
    · have hcl := CR.out k (by have := EL.out; omega)
      have hus : (W[k]?.getD ⟨#[]⟩).size ≤ s.size := by
        have hm : (W[k]?.getD ⟨#[]⟩).data.toList ∈ W.map (·.data.toList) := by
          have hkw : k < W.length := by have := EL.out; omega
          rw [List.getElem?_eq_getElem hkw]
          exact List.mem_map_of_mem (List.getElem_mem hkw)
        have hj := words_join s (min 6 (s.size + 1) - 1)
        rw [← EW.out] at hj
        have := joinC_le hm
        rw [hj] at this
        simpa using this
      obtain ⟨u, hu⟩ : ∃ u, u = W[k]?.getD ⟨#[]⟩ := ⟨_, rfl⟩
      rw [← hu] at hcl hus
      have EU := Lib.hid hu; clear hu
      go_wp2_with fail
      refine (parseVessel_any _ u (by omega) (HE.out.new NN.out) mx (NN.out.cell HM.out)).mono ?_
      rintro e w4 ⟨a, z, ok, rfl, n4, hr⟩
      have N4 := Lib.hid n4; clear n4
      have HR := Lib.hid hr; clear hr
      have WD := Lib.hid (show ∀ S H, Good S H → outT S H S.length = s → ∃ h q : Nat, h < 100 ∧ q < 100 ∧ u = numT h ++ ⟨#[47]⟩ ++ numT q ∧ S[k]?.getD 0 = (q : Int) ∧ H[k]?.getD 0 = (h : Int) from fun S H hG e => by
        obtain ⟨hl, hw⟩ := map_word (out_words hG e)
        rw [← EW.out] at hl hw
        have hks : k < S.length := by have := EL.out; omega
        obtain ⟨sz, am, es, eh, b1, b2, b3⟩ := hG.nats hks
        refine ⟨am, sz, by omega, by omega, ?_, es, eh⟩
        rw [EU.out, hw k hks, pieceT_eq es eh])
      cases ok
      case false =>
        have NO := Lib.hid (show pvB s = false ∧ pvMS s = [] ∧ pvMH s = [] from pv_no fun S H hG e => by
          obtain ⟨h, q, h1, h2, e2, _⟩ := WD.out S H hG e
          rcases HR.out with ⟨c, _⟩ | ⟨_, c⟩
          · cases c
          · exact c h q h1 h2 e2)
        have RB := Lib.hid (R1.out.new (BO.out.new.trans N4.out))
        have z0 := RB.out.lt
        have nn := Lib.hid (NN.out.trans N4.out)
        obtain ⟨r0, r1, g0, g1⟩ := RB.out
        go_wp2
        refine bodyPost_ret (v := .tuple #[.agg #[.slice none 0 0, .slice none 0 0], .bool false]) (by simp [results, Tryd.results5, go_sem, r0, r1]) rfl ?_
        rw [NO.out.1, NO.out.2.1, NO.out.2.2]
        have nn := nn.out
        exact ⟨none, 0, 0, none, 0, 0, rfl, OwnV.nil _ _ _, (by repeat (first | with_reducible exact New.refl _ | with_reducible assumption | refine New.drewN ?_ _ | refine New.drew ?_ | refine New.alloc ?_ _ | refine New.setCell ?_ (by first | omega | (simp; omega) | (simp; done)) _ | (refine New.trans ?_ (by assumption))))⟩
      case true =>
        have GN := Lib.hid (show Got s W (A ++ [z]) (Bl ++ [a]) (k + 1) by
          rcases HR.out with ⟨_, a0, z0, e, un⟩ | ⟨c, _⟩
          · refine GT.out.snoc (by rw [← EU.out, e]) fun S H hG e2 => ?_
            obtain ⟨h, q, h1, h2, e3, e4, e5⟩ := WD.out S H hG e2
            obtain ⟨q1, q2⟩ := un h q h1 h2 e3
            exact ⟨by rw [q2, e4], by rw [q1, e5]⟩
          · cases c)
        have B4 := Lib.hid (BO.out.kept N4.out)
        have BP := Lib.hid (B4.out.pushS GT.out.la.symm z)
        have c0 := BP.out.s.cell
        have c1 := BP.out.h.cell
        have f0 := BP.out.s.warm
        have f1 := BP.out.h.warm
        have zb := BP.out.s.lt
        have zw : Bw < w4.heap.size := World.block_lt_of_cell? _ _ (N4.out.cell hcl)
        go_upto_region 9 with (at_builtin; refine wpList_append_lies _ (by rfl) (.tmp 27) (.tmp 29) 22 (by rfl) (B1 + 1) 3 i0 (.int .i64 0) 1 8 Tryd.underlying22 hi hz0 hz1 hz2 rfl (by decide) vS k _ (by rfl) (ownsRow_new BP.out.s.own (by repeat (first | with_reducible exact New.refl _ | with_reducible assumption | refine New.drewN ?_ _ | refine New.drew ?_ | refine New.alloc ?_ _ | refine New.setCell ?_ (by first | omega | (simp; omega) | (simp; done)) _ | (refine New.trans ?_ (by assumption))))) _ _ _ [.int .i64 z] (by rfl) (by rfl) (World.news_of_block (cs := #[.int .i64 z]) (t := 3) (fr := (0, 0)) (heap_alloc_new w4 _)) (by simp [Value.oneCell']) (by omega) (by unfold maxLen; omega) (by omega) (by simp; omega) _ rfl ?_; intro g cap w' ho hg hb' hlt'; have kk := (BP.out.s.new (by repeat (first | with_reducible exact New.refl _ | with_reducible assumption | refine New.drewN ?_ _ | refine New.drew ?_ | refine New.alloc ?_ _ | refine New.setCell ?_ (by first | omega | (simp; omega) | (simp; done)) _ | (refine New.trans ?_ (by assumption))))).keep hg (World.cell_kept c0) (New.frz (by repeat (first | with_reducible exact New.refl _ | with_reducible assumption | refine New.drewN ?_ _ | refine New.drew ?_ | refine New.alloc ?_ _ | refine New.setCell ?_ (by first | omega | (simp; omega) | (simp; done)) _ | (refine New.trans ?_ (by assumption)))) c0 f0); obtain ⟨k1, k2⟩ := kk; have HO := Lib.hid ho; have HG := Lib.hid hg; have HB := Lib.hid hb'; clear ho hg hb' hlt')
        have b2 := (BP.out.kept (by repeat (first | with_reducible exact New.refl _ | with_reducible assumption | refine New.drewN ?_ _ | refine New.drew ?_ | refine New.alloc ?_ _ | refine New.setCell ?_ (by first | omega | (simp; omega) | (simp; done)) _ | (refine New.trans ?_ (by assumption))))).first (by simp [GT.out.la]) (by rw [← GT.out.la]; simp) HO.out HG.out HB.out
        have OS := Lib.hid (show some g ≠ some Bw by
          rcases HB.out with h | h
          · intro e; exact OB.out.1 (h.trans e)
          · intro e; cases e; simp at h; omega)
        have CK := Lib.hid (show ∀ j, j < W.length → (w'.setCell ⟨B1, 0, none⟩ (.slice (some ⟨g, 0, none⟩) (k + 1) cap)).cell? ⟨Bw, j, none⟩ = some (.string (W[j]?.getD ⟨#[]⟩)) from fun j hj => by
          refine World.cell_set (HG.out.cell (World.cell_kept (N4.out.cell (CR.out j hj))) ?_) (by show Bw ≠ B1; omega)
          exact fun e => OB.out.1 e.symm)
        obtain ⟨W2, hW2⟩ : ∃ W2, W2 = w'.setCell ⟨B1, 0, none⟩ (.slice (some ⟨g, 0, none⟩) (k + 1) cap) := ⟨_, rfl⟩
        rw [← hW2] at b2 CK ⊢
        have B2 := Lib.hid b2
        clear b2 hW2 HO HG HB c0 c1 f0 f1 zb BP k1 k2 zw
        obtain ⟨vS2, hvS2⟩ : ∃ v : Value, v = .slice (some ⟨g, 0, none⟩) (k + 1) cap := ⟨_, rfl⟩
        have OS2 := Lib.hid (show vS2.ownBlock ≠ some Bw by rw [hvS2]; exact OS.out)
        rw [← hvS2] at B2
        clear hvS2 OS
        have BP := Lib.hid (B2.out.pushH GT.out.lb.symm a)
        have c0 := BP.out.s.cell
        have c1 := BP.out.h.cell
        have f0 := BP.out.s.warm
        have f1 := BP.out.h.warm
        have zb := BP.out.s.lt
        have zw : Bw < W2.heap.size := World.block_lt_of_cell? _ _ (CK.out k (by have := EL.out; omega))
        go_upto_region 10 with (at_builtin; refine wpList_append_lies _ (by rfl) (.tmp 33) (.tmp 35) 22 (by rfl) (B1 + 1) 3 i0 (.int .i64 0) 1 8 Tryd.underlying22 hi hz0 hz1 hz2 rfl (by decide) vH k _ (by rfl) (ownsRow_new BP.out.h.own (by repeat (first | with_reducible exact New.refl _ | with_reducible assumption | refine New.drewN ?_ _ | refine New.drew ?_ | refine New.alloc ?_ _ | refine New.setCell ?_ (by first | omega | (simp; omega) | (simp; done)) _ | (refine New.trans ?_ (by assumption))))) _ _ _ [.int .i64 a] (by rfl) (by rfl) (World.news_of_block (cs := #[.int .i64 a]) (t := 3) (fr := (0, 0)) (heap_alloc_new W2 _)) (by simp [Value.oneCell']) (by omega) (by unfold maxLen; omega) (by omega) (by simp; omega) _ rfl ?_; intro g cap w' ho hg hb' hlt'; have kk := (BP.out.h.new (by repeat (first | with_reducible exact New.refl _ | with_reducible assumption | refine New.drewN ?_ _ | refine New.drew ?_ | refine New.alloc ?_ _ | refine New.setCell ?_ (by first | omega | (simp; omega) | (simp; done)) _ | (refine New.trans ?_ (by assumption))))).keep hg (World.cell_kept c1) (New.frz (by repeat (first | with_reducible exact New.refl _ | with_reducible assumption | refine New.drewN ?_ _ | refine New.drew ?_ | refine New.alloc ?_ _ | refine New.setCell ?_ (by first | omega | (simp; omega) | (simp; done)) _ | (refine New.trans ?_ (by assumption)))) c1 f1); obtain ⟨k1, k2⟩ := kk; have HO := Lib.hid ho; have HG := Lib.hid hg; have HB := Lib.hid hb'; clear ho hg hb' hlt')
        have b3 := (BP.out.kept (by repeat (first | with_reducible exact New.refl _ | with_reducible assumption | refine New.drewN ?_ _ | refine New.drew ?_ | refine New.alloc ?_ _ | refine New.setCell ?_ (by first | omega | (simp; omega) | (simp; done)) _ | (refine New.trans ?_ (by assumption))))).second (by simp [GT.out.lb]) (by rw [← GT.out.lb]; simp) HO.out HG.out HB.out
        have OH := Lib.hid (show some g ≠ some Bw by
          rcases HB.out with h | h
          · intro e; exact OB.out.2 (h.trans e)
          · intro e; cases e; simp at h; omega)
        have CK2 := Lib.hid (show ∀ j, j < W.length → (w'.setCell ⟨B1, 1, none⟩ (.slice (some ⟨g, 0, none⟩) (k + 1) cap)).cell? ⟨Bw, j, none⟩ = some (.string (W[j]?.getD ⟨#[]⟩)) from fun j hj => by
          refine World.cell_set (HG.out.cell (World.cell_kept (CK.out j hj)) ?_) (by show Bw ≠ B1; omega)
          exact fun e => OB.out.2 e.symm)
        go_wp2
        go_roundw
        case rel => exact ⟨k + 1, _, _, _, _, by omega, by first | rfl | go_num, b3, GN.out, CK2.out, OS2.out, OH.out⟩
        case measure => show L - ((k : Int) + 1).toNat < L - (k : Int).toNat; omega
    · obtain rfl : k = L := by omega
      obtain ⟨sa, sc, sb, sd, rfl, rfl, ov⟩ := BO.out.own (by rw [GT.out.la]; exact Nat.le_refl _) (by rw [GT.out.lb]; exact Nat.le_refl _)
      have OV := Lib.hid ov; clear ov
      have c0 := BO.out.s.cell
      have c1 := BO.out.h.cell
      have RB := Lib.hid (R1.out.new BO.out.new)
      have zn := N1.out.size
      have zm := BO.out.new.size
      have z1 := Z1.out
      go_wp2_with fail
      refine (iAreVessels_any _ _ _ _ _ _ _ _ _ OV.out.1.ints OV.out.2.1.ints).mono ?_
      rintro e w5 ⟨rfl, n5⟩
      replace c0 := n5.cell c0
      replace c1 := n5.cell c1
      have RB5 := Lib.hid (RB.out.new n5)
      have N5 := Lib.hid n5; clear n5
      have B5 := Lib.hid ((OV.out.new N5.out).mono (Nat.le_refl _) N5.out.size)
      have nn := Lib.hid (NN.out.trans N5.out)
      have zz := N5.out.size
      have z0 := RB5.out.lt
      have KL := Lib.hid (show k = (Lib.splitB ⟨#[44]⟩ 0 (min 6 (s.size + 1) - 1) s).length by rw [← EW.out]; exact EL.out)
      have GG := Lib.hid (show Got s (Lib.splitB ⟨#[44]⟩ 0 (min 6 (s.size + 1) - 1) s) A Bl k by rw [← EW.out]; exact GT.out)
      obtain ⟨r0, r1, g0, g1⟩ := RB5.out
      cases hg : goodB A Bl
      case false =>
        have NO := Lib.hid (GG.out.no KL.out hg)
        go_wp2
        refine bodyPost_ret (v := .tuple #[.agg #[.slice none 0 0, .slice none 0 0], .bool false]) (by simp [results, Tryd.results5, go_sem, r0, r1]) rfl ?_
        rw [NO.out.1, NO.out.2.1, NO.out.2.2]
        have nn := nn.out
        exact ⟨none, 0, 0, none, 0, 0, rfl, OwnV.nil _ _ _, (by repeat (first | with_reducible exact New.refl _ | with_reducible assumption | refine New.drewN ?_ _ | refine New.drew ?_ | refine New.alloc ?_ _ | refine New.setCell ?_ (by first | omega | (simp; omega) | (simp; done)) _ | (refine New.trans ?_ (by assumption))))⟩
      case true =>
        have YES := Lib.hid (GG.out.yes KL.out (goodB_iff.1 hg))
        go_wp2
        refine bodyPost_ret (v := .tuple #[.agg #[.slice sa k sc, .slice sb k sd], .bool true]) (by simp [results, Tryd.results5, go_sem, r0, r1]) rfl ?_
        rw [YES.out.1, YES.out.2.1, YES.out.2.2]
        refine ⟨_, _, _, _, _, _, rfl, ?_, ?_⟩
        · exact ((B5.out.setCell (.inl (by simp; omega)) _).setCell (.inl (by simp; omega)) _).mono (by omega) (by simp)
        · have nn := nn.out
          exact (by repeat (first | with_reducible exact New.refl _ | with_reducible assumption | refine New.drewN ?_ _ | refine New.drew ?_ | refine New.alloc ?_ _ | refine New.setCell ?_ (by first | omega | (simp; omega) | (simp; done)) _ | (refine New.trans ?_ (by assumption))))
end Go.Proofs.YtknjobpdbbjeoaaDoor
