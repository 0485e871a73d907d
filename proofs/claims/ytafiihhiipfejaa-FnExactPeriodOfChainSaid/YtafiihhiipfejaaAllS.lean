/- The model's tick of a whole chain, and whether two lists of levels are the same. -/
import Derived.Test.YtafiihhiipfejaaChainS
import Derived.Test.YtafiihhiipfejaaChSt
import Derived.Test.YtafiihhiipfejaaRowLevel
import Derived.Deep.RegionHeld3
import Derived.Deep.DeepCutAuto
namespace Go.Proofs.Ytafiihhiipfejaa
open Go.RowKit

theorem lvAt_later {l : List (Int × Int × Int × Int)} {L : List (Int × Bool)} {x : Int} {i j : Nat} (h : i ≤ j) : lvAt (chGo l L x i).1 j = lvAt L j := by
  induction i with
  | zero => rfl
  | succ i ih =>
    show lvAt ((chGo l L x i).1.set i _) j = _
    unfold lvAt
    rw [List.getElem?_set_ne (by omega)]
    exact ih (by omega)
theorem chGo_take {l : List (Int × Int × Int × Int)} {L : List (Int × Bool)} {x : Int} {i : Nat} (h : i < L.length) : (chGo l L x (i + 1)).1.take (i + 1) = (chGo l L x i).1.take i ++ [lvAt (chGo l L x (i + 1)).1 i] := by
  have e : (chGo l L x (i + 1)).1.take i = (chGo l L x i).1.take i := by
    show ((chGo l L x i).1.set i _).take i = _
    rw [List.take_set_of_le (Nat.le_refl _)]
  have hl : i < (chGo l L x (i + 1)).1.length := by rw [chGo_length]; exact h
  rw [List.take_add_one, e]
  congr 1
  unfold lvAt
  rw [List.getElem?_eq_getElem hl]
  rfl
theorem lvAt_new {l : List (Int × Int × Int × Int)} {L : List (Int × Bool)} {x : Int} {i : Nat} (h : i < L.length) : lvAt (chGo l L x (i + 1)).1 i =
    (tkH (sipAt l i).1 (sipAt l i).2.1 (sipAt l i).2.2.1 (sipAt l i).2.2.2 (lvAt L i).1 (chGo l L x i).2 (lvAt L i).2, tkR (sipAt l i).1 (sipAt l i).2.1 (sipAt l i).2.2.1 (sipAt l i).2.2.2 (lvAt L i).1 (chGo l L x i).2 (lvAt L i).2) := by
  show lvAt ((chGo l L x i).1.set i _) i = _
  rw [lvAt_set (by rw [chGo_length]; exact h), if_pos rfl, lvAt_later (Nat.le_refl _)]
theorem lvAt_take {L : List (Int × Bool)} {n j : Nat} (h : j < n) : (L.take n)[j]?.getD (0, false) = lvAt L j := by
  unfold lvAt
  rw [List.getElem?_take_of_lt h]

set_option maxRecDepth 100000 in
set_option maxHeartbeats 4000000 in
theorem siAll_any (w : World) (aa : Option Addr) (n ca : Nat) (l : List (Int × Int × Int × Int)) (ba : Option Addr) (m cb : Nat) (lv L : List (Int × Bool)) (x : Int) (ha : Siphons w aa n ca l) (hb : Levels w ba m cb lv) (hlv : lv = L.take l.length) (hc : ChainOk l) (hL : FourOk l L) (x0 : 0 ≤ x) (x1 : x ≤ 60) :
    Calls Try.prog 47 #[.slice aa n ca, .slice ba m cb, .int .i64 x] w fun e w' => ∃ oa oc, e = .returned (.slice oa n oc) ∧ Levels w' oa n oc ((chTick l L x).take l.length) ∧ New w w' := by
  have n4 : n ≤ 4 := by rw [ha.1]; exact hc.1.2
  have mn : m = n := by rw [hb.1, ha.1, hlv, List.length_take, hL.1]; have := hc.1.2; omega
  subst mn
  have HL := Lib.hid ha.1
  have HA := Lib.hid ha; clear ha
  have HB := Lib.hid hb; clear hb
  have HV := Lib.hid hlv; clear hlv
  have HC := Lib.hid hc; clear hc
  have H4 := Lib.hid hL; clear hL
  have HX := Lib.hid (And.intro x0 x1); clear x0 x1
  obtain ⟨i1, hj, hy0, hy1, hy2⟩ := info_parts Try.infoRowLevel
  go_enter Try.func47, Try.ntmps47
  go_wp2_with fail
  go_loopw [2, 7, 15] (fun vx vo vi wr => ∃ k : Nat, k ≤ m ∧ vi = .int .i64 k ∧ vx = .int .i64 (chGo l L x k).2 ∧ wr.ownsRow w.heap.size 55 2 vo k (flatLevel ((chGo l L x k).1.take k)) ∧ New w wr) (fun _ _ i _ => m - (intOf i).toNat)
  case atStart => exact ⟨0, Nat.zero_le _, rfl, rfl, World.ownsRow_nil _ _ _ _, New.refl _⟩
  case round =>
    obtain ⟨k, hk, rfl, rfl, hor, hnw⟩ := hrel
    have NW := Lib.hid hnw; clear hnw
    have OR := Lib.hid hor; clear hor
    have zw := NW.out.size
    by_cases hlt : k < m
    · obtain ⟨bx, ox, rfl, g0, g1, g2, g3⟩ := (HA.out.new NW.out).2.2.2.1 k hlt
      obtain ⟨bl, ol, rfl, y0, y1⟩ := (HB.out.new NW.out).2.2.2.1 k hlt
      have hs := sipB_iff.1 (HC.out.2 k (by have := HL.out; omega))
      have hu := H4.out.2.1 k (by have := HL.out; omega)
      have hy := chGo_ok HC.out H4.out HX.out.1 HX.out.2 k (by have := HL.out; omega)
      obtain ⟨_, yb0, yb1⟩ := hy
      have kL : k < L.length := by rw [H4.out.1]; omega
      have VN := Lib.hid (lvAt_new (l := l) (x := x) kL)
      have VT := Lib.hid (chGo_take (l := l) (x := x) kL)
      have hxe : (chGo l L x (k + 1)).2 = tkO (sipAt l k).1 (sipAt l k).2.1 (sipAt l k).2.2.1 (sipAt l k).2.2.2 (lvAt L k).1 (chGo l L x k).2 (lvAt L k).2 := by
        show tkO _ _ _ _ (lvAt (chGo l L x k).1 k).1 _ (lvAt (chGo l L x k).1 k).2 = _
        rw [lvAt_later (Nat.le_refl _)]
      have VX := Lib.hid hxe; clear hxe
      have ev : lv[k]?.getD (0, false) = lvAt L k := by rw [HV.out]; exact lvAt_take (by have := HL.out; omega)
      rw [ev] at y0 y1
      clear ev
      have es : l[k]?.getD (0, 0, 0, 0) = sipAt l k := rfl
      rw [es] at g0 g1 g2 g3
      clear es kL
      obtain ⟨y, hye⟩ : ∃ y, y = (chGo l L x k).2 := ⟨_, rfl⟩
      rw [← hye] at yb0 yb1 VN VX ⊢
      obtain ⟨p, hpe⟩ : ∃ p, p = sipAt l k := ⟨_, rfl⟩
      rw [← hpe] at g0 g1 g2 g3 hs hu VN VX
      obtain ⟨a, b, c, d⟩ := p
      obtain ⟨q, hqe⟩ : ∃ q, q = lvAt L k := ⟨_, rfl⟩
      rw [← hqe] at y0 y1 hu VN VX
      obtain ⟨u, r⟩ := q
      dsimp only at g0 g1 g2 g3 y0 y1 hs hu VN VX
      clear hye hpe hqe
      obtain ⟨u0, u1⟩ := hu
      have HS := Lib.hid hs; clear hs
      go_upto_region 5 with fail
      obtain ⟨v0, hv0⟩ : ∃ v, v = (wr.alloc (.cells #[.int .i64 a, .int .i64 b, .int .i64 c, .int .i64 d] 26)) := ⟨_, rfl⟩
      rw [← hv0]
      have nv : New wr v0 := by rw [hv0]; exact (by repeat (first | with_reducible exact New.refl _ | with_reducible assumption | refine New.drewN ?_ _ | refine New.drew ?_ | refine New.alloc ?_ _ | refine New.setCell ?_ (by first | omega | (simp; omega) | (simp; done)) _ | (refine New.trans ?_ (by assumption))))
      replace y0 := nv.cell y0
      replace y1 := nv.cell y1
      replace g0 : v0.cell? ⟨wr.heap.size, 0, none⟩ = some (.int .i64 a) := by rw [hv0]; simp [go_sem]
      replace g1 : v0.cell? ⟨wr.heap.size, 1, none⟩ = some (.int .i64 b) := by rw [hv0]; simp [go_sem]
      replace g2 : v0.cell? ⟨wr.heap.size, 2, none⟩ = some (.int .i64 c) := by rw [hv0]; simp [go_sem]
      replace g3 : v0.cell? ⟨wr.heap.size, 3, none⟩ = some (.int .i64 d) := by rw [hv0]; simp [go_sem]
      have zv0 : wr.heap.size < v0.heap.size := by rw [hv0]; simp
      have zbl : bl < v0.heap.size := World.block_lt_of_cell? _ _ y0
      have KV := Lib.hid nv; clear nv hv0
      go_cut [10, 11, 12] (fun p q0 q1 W => CutBox v0 (.int .i64 (tkH a b c d u y r)) (.bool (tkR a b c d u y r)) p W ∧ q0 = .int .i64 (tkO a b c d u y r) ∧ q1 = .int .i64 (tkS a u y))
      case first =>
        go_region_held3 (fun w' => w'.cell? ⟨wr.heap.size, 0, none⟩ = some (.int .i64 a) ∧ w'.cell? ⟨wr.heap.size, 1, none⟩ = some (.int .i64 b) ∧ w'.cell? ⟨wr.heap.size, 2, none⟩ = some (.int .i64 c) ∧ w'.cell? ⟨wr.heap.size, 3, none⟩ = some (.int .i64 d) ∧ w'.cell? ⟨bl, ol + k * 2, none⟩ = some (.int .i64 u) ∧ w'.cell? ⟨bl, ol + k * 2 + 1, none⟩ = some (.bool r))
          (first | exact ⟨g0, g1, g2, g3, y0, y1⟩ | exact ⟨World.cell_kept g0, World.cell_kept g1, World.cell_kept g2, World.cell_kept g3, World.cell_kept y0, World.cell_kept y1⟩ | exact ⟨g0s, g1s, g2s, g3s, y0s, y1s⟩ | exact ⟨World.cell_kept g0s, World.cell_kept g1s, World.cell_kept g2s, World.cell_kept g3s, World.cell_kept y0s, World.cell_kept y1s⟩ | exact ⟨World.cell_set (World.cell_set g0s (by simp; try omega)) (by simp; try omega), World.cell_set (World.cell_set g1s (by simp; try omega)) (by simp; try omega), World.cell_set (World.cell_set g2s (by simp; try omega)) (by simp; try omega), World.cell_set (World.cell_set g3s (by simp; try omega)) (by simp; try omega), World.cell_set (World.cell_set y0s (by simp; try omega)) (by simp; try omega), World.cell_set (World.cell_set y1s (by simp; try omega)) (by simp; try omega)⟩ | fail)
          ((go_at_call 38; refine (siTick_any _ a b c d u y r HS.out u0 u1 yb0 yb1).mono ?_; rintro e s1 ⟨rfl, n_s1⟩; (try replace n_s1 := New.undrew n_s1); have g0s : s1.cell? ⟨wr.heap.size, 0, none⟩ = some (.int .i64 a) := n_s1.cell (by first | exact g0 | exact World.cell_kept g0); have g1s : s1.cell? ⟨wr.heap.size, 1, none⟩ = some (.int .i64 b) := n_s1.cell (by first | exact g1 | exact World.cell_kept g1); have g2s : s1.cell? ⟨wr.heap.size, 2, none⟩ = some (.int .i64 c) := n_s1.cell (by first | exact g2 | exact World.cell_kept g2); have g3s : s1.cell? ⟨wr.heap.size, 3, none⟩ = some (.int .i64 d) := n_s1.cell (by first | exact g3 | exact World.cell_kept g3); have y0s : s1.cell? ⟨bl, ol + k * 2, none⟩ = some (.int .i64 u) := n_s1.cell (by first | exact y0 | exact World.cell_kept y0); have y1s : s1.cell? ⟨bl, ol + k * 2 + 1, none⟩ = some (.bool r) := n_s1.cell (by first | exact y1 | exact World.cell_kept y1); have e_s1 := n_s1.size; (try simp only [World.size_alloc] at e_s1); (try (have kk := New.box n_s1; obtain ⟨j0, j1, j2, j3, j4⟩ := kk)); skip))
        all_goals (go_wp2_with fail; go_meet)
        all_goals
          have m0 : New v0 s1 := by first | exact n_s1 | exact ((New.refl _).alloc _).trans n_s1
          have z0 := n_s1.size
          (try simp only [World.size_alloc] at z0)
          refine ⟨?_, rfl, rfl⟩
          first
            | exact CutBox.behind m0
            | exact CutBox.put m0 (by omega) (by omega) j0 j1
      case rest =>
        obtain ⟨⟨B1, rfl, hn, hlo, hhi, hc0, hc1⟩, rfl, rfl⟩ := hcut
        obtain ⟨wq, rfl⟩ : ∃ u : World, u = wc := ⟨_, rfl⟩
        have NQ := Lib.hid (NW.out.trans (KV.out.trans hn))
        have OQ := Lib.hid (ownsRow_new OR.out (KV.out.trans hn))
        have zq := hn.size
        clear hn g0 g1 g2 g3 y0 y1
        go_wp2_with (at_builtin; go_loud (refine wpList_append_lies _ (by rfl) (.tmp 31) (.tmp 33) 71 (by rfl) w.heap.size 55 i1 _ 2 16 Try.underlying71 hj hy0 hy1 hy2 rfl (by decide) _ k _ (by rfl) (ownsRow_new OQ.out (by repeat (first | with_reducible exact New.refl _ | with_reducible assumption | refine New.drewN ?_ _ | refine New.drew ?_ | refine New.alloc ?_ _ | refine New.setCell ?_ (by first | omega | (simp; omega) | (simp; done)) _ | (refine New.trans ?_ (by assumption))))) _ _ _ [.int .i64 (tkH a b c d u y r), .bool (tkR a b c d u y r)] (by rfl) (by rfl) (World.news_of_block (cs := #[.int .i64 (tkH a b c d u y r), .bool (tkR a b c d u y r)]) (t := 55) (fr := (0, 0)) (heap_alloc_at (by simp))) (by simp [Value.oneCell']) (by omega) (by unfold maxLen; omega) (by omega) (by simp; omega) _ rfl ?_; intro g cap w5 ho hg hb' hlt'; have N5 := Lib.hid (New.grown (w := _) (NQ.out.trans (by repeat (first | with_reducible exact New.refl _ | with_reducible assumption | refine New.drewN ?_ _ | refine New.drew ?_ | refine New.alloc ?_ _ | refine New.setCell ?_ (by first | omega | (simp; omega) | (simp; done)) _ | (refine New.trans ?_ (by assumption))))) (ownsRow_new OQ.out (by repeat (first | with_reducible exact New.refl _ | with_reducible assumption | refine New.drewN ?_ _ | refine New.drew ?_ | refine New.alloc ?_ _ | refine New.setCell ?_ (by first | omega | (simp; omega) | (simp; done)) _ | (refine New.trans ?_ (by assumption))))) (Nat.le_refl _) hg); have O5 := Lib.hid ho; clear ho hg hb' hlt'))
        go_roundw
        case rel =>
          refine ⟨k + 1, by omega, by go_num, by rw [VX.out], ?_, N5.out⟩
          rw [VT.out, VN.out, flatLevel_append]
          exact O5.out
        case measure => simp [intOf]; omega
    · obtain rfl : k = m := by omega
      obtain ⟨la, lc, e1, o1⟩ := OwnLevel.of_row OR.out
      subst e1
      go_wp2
      go_ret
      refine ⟨_, _, rfl, ?_, NW.out⟩
      have q := o1.reads
      rw [HL.out] at q
      rw [HL.out]
      exact q
end Go.Proofs.Ytafiihhiipfejaa
