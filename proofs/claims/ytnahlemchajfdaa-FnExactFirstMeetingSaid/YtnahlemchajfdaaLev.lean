/- A clock's levels down to nothing: the model's ckLevels and ckEmpty. -/
import Derived.Test.YtnahlemchajfdaaClkF
import Derived.Test.YtnahlemchajfdaaRows2b
import Derived.Deep.RegionWith
namespace Go.Proofs.Ytnahlemchajfdaa
open Go.RowKit Go.IntWalk

/-- The level behind k ticks. -/
def levK (D L : Int) : Nat → Int
  | 0 => L
  | k + 1 => levK D L k - qUp (levK D L k) D
def levTo (D L : Int) (n : Nat) : List Int := (List.range n).map (levK D L)
def levL (D L : Int) : List Int := levTo D L (tim D L + 1)
theorem levTo_length (D L : Int) (n : Nat) : (levTo D L n).length = n := by simp [levTo]
theorem levTo_succ (D L : Int) (n : Nat) : levTo D L (n + 1) = levTo D L n ++ [levK D L n] := by simp [levTo, List.range_succ]
theorem levTo_get (D L : Int) {n j : Nat} (h : j < n) : (levTo D L n)[j]?.getD 0 = levK D L j := by simp [levTo, h]
theorem levK_succ (D L : Int) (k : Nat) : levK D L (k + 1) = levK D L k - qUp (levK D L k) D := rfl
theorem levK_all {D L : Int} (hD : 1 ≤ D) (hL : 0 ≤ L) : ∀ k, k ≤ tim D L → 0 ≤ levK D L k ∧ levK D L k ≤ L ∧ tim D (levK D L k) + k = tim D L := by
  intro k
  induction k with
  | zero => intro _; exact ⟨hL, Int.le_refl _, rfl⟩
  | succ k ih =>
    intro hk
    obtain ⟨a, b, c⟩ := ih (by omega)
    have h1 : 1 ≤ levK D L k := by
      rcases Int.lt_or_le 0 (levK D L k) with h | h
      · omega
      · have e : levK D L k = 0 := by omega
        rw [e, tim_zero] at c; omega
    have q1 := qUp_bd (a := levK D L k) a hD
    have q2 := qUp_pos h1 hD
    have s := tim_step hD h1
    rw [← levK_succ] at s
    rw [levK_succ]
    rw [levK_succ] at s
    omega
theorem levK_pos {D L : Int} (hD : 1 ≤ D) (hL : 0 ≤ L) {k : Nat} (hk : k < tim D L) : 1 ≤ levK D L k := by
  obtain ⟨a, b, c⟩ := levK_all hD hL k (by omega)
  rcases Int.lt_or_le 0 (levK D L k) with h | h
  · omega
  · have e : levK D L k = 0 := by omega
    rw [e, tim_zero] at c; omega
theorem levK_end {D L : Int} (hD : 1 ≤ D) (hL : 0 ≤ L) : levK D L (tim D L) = 0 := by
  obtain ⟨a, b, c⟩ := levK_all hD hL (tim D L) (Nat.le_refl _)
  rcases Int.lt_or_le 0 (levK D L (tim D L)) with h | h
  · have := tim_step hD (show 1 ≤ levK D L (tim D L) by omega); omega
  · omega

def slen : Value → Nat
  | .slice _ n _ => n
  | _ => 0
theorem slen_of_row {w : World} {base : Nat} {v : Value} {n : Nat} {l : List Int} (h : w.ownsRow base 3 1 v n (l.map (Value.int .i64))) : slen v = n := by
  obtain ⟨oa, oc, e, _⟩ := Own.of_row h
  rw [e]; rfl
theorem NewS {a b c : World} (h : New a b) (k : New b c) : New a c := h.trans k
theorem ownsRow_lit1 (w : World) (y : Value) {base B : Nat} {e : TypeId} (hB : w.heap.size = B) (hb : base ≤ B) : (w.alloc (.cells #[y] e)).ownsRow base e 1 (.slice (some ⟨B, 0, none⟩) 1 1) 1 [y] := by
  subst hB
  exact ⟨rfl, .inr ⟨w.heap.size, 1, #[y], rfl, hb, heap_alloc_new w _, Nat.le_refl _, by unfold maxLen; omega, rfl, rfl⟩⟩

set_option maxRecDepth 100000 in
set_option maxHeartbeats 2000000 in
theorem ckLevels_any (w : World) (L D : Int) (h0 : 0 ≤ L) (h1 : L ≤ 1000) (h2 : 1 ≤ D) (h3 : D ≤ 100) :
    Calls Try.prog 33 #[.agg #[.int .i64 L, .int .i64 D]] w fun e w' => ∃ oa oc, e = .returned (.slice oa (tim D L + 1) oc) ∧ Own w' w.heap.size w'.heap.size oa (tim D L + 1) oc (levL D L) ∧ New w w' := by
  obtain ⟨i0, hi, hz0, hz1, hz2⟩ := info_parts Try.infoInt
  have LA := Lib.hid (levK_all (L := L) h2 h0)
  have LP := Lib.hid (fun k => levK_pos (L := L) h2 h0 (k := k))
  have LE := Lib.hid (levK_end (L := L) h2 h0)
  have LL := Lib.hid (show levL D L = levTo D L (tim D L + 1) from rfl)
  have hn := tim_le h2 1000 L h0 h1
  obtain ⟨n, en⟩ : ∃ n, n = tim D L := ⟨_, rfl⟩
  rw [← en] at LA LP LE LL hn ⊢
  clear en
  go_enter Try.func33, Try.ntmps33
  go_wp2
  go_loopw [3] (fun vo wr => ∃ j : Nat, j ≤ n ∧ wr.cell? ⟨w.heap.size, 0, none⟩ = some (.int .i64 (levK D L j)) ∧ wr.frozen? ⟨w.heap.size, 0, none⟩ = false ∧ wr.cell? ⟨w.heap.size, 1, none⟩ = some (.int .i64 D) ∧ New w wr ∧ wr.ownsRow (w.heap.size + 1) 3 1 vo (j + 1) ((levTo D L (j + 1)).map (Value.int .i64))) (fun vo _ => 1001 - slen vo)
  case atStart => exact ⟨0, Nat.zero_le _, by simp [go_sem, levK], by simp [go_sem], by simp [go_sem], (by repeat (first | with_reducible exact New.refl _ | with_reducible assumption | refine New.drewN ?_ _ | refine New.drew ?_ | refine New.alloc ?_ _ | refine New.setCell ?_ (by first | omega | (simp; omega) | (simp; done)) _ | (refine New.trans ?_ (by assumption)))), ownsRow_lit1 _ _ (by simp) (Nat.le_refl _)⟩
  case round =>
    obtain ⟨j, hj, c0, z0, c1, hnw, hro⟩ := hrel
    have NW := Lib.hid hnw; clear hnw
    have RO := Lib.hid hro; clear hro
    have zb := World.block_lt_of_cell? _ _ c0
    simp only at zb
    by_cases hlt : j < n
    · have p := LP.out j hlt
      obtain ⟨p0, p1, _⟩ := LA.out j hj
      have q1 := qUp_bd (a := levK D L j) p0 h2
      have q2 := qUp_pos p h2
      have LS := Lib.hid (levK_succ D L j)
      have FA := Lib.hid (fun w => ckDrop_any (levK D L j) D w p0 (by omega) h2 (by omega))
      obtain ⟨x, hx⟩ : ∃ x, x = levK D L j := ⟨_, rfl⟩
      rw [← hx] at p p0 p1 q1 q2 LS FA c0
      obtain ⟨d, hd⟩ : ∃ d, d = qUp x D := ⟨_, rfl⟩
      rw [← hd] at q1 q2 LS FA
      clear hx hd
      have g1 : IntKind.i64.wrap (x - d) = x - d := i64_in _ (by omega)
      have hpos : 0 < x := by omega
      clear LA LP
      go_upto_region 3 with fail
      go_cut [14] (fun t W => W.cell? ⟨w.heap.size, 0, none⟩ = some (.int .i64 (x - d)) ∧ W.frozen? ⟨w.heap.size, 0, none⟩ = false ∧ W.cell? ⟨w.heap.size, 1, none⟩ = some (.int .i64 D) ∧ Chg (fun b => b = w.heap.size) wr W)
      case first =>
        go_region_with (go_at_call 38; refine (FA.out _).mono ?_; rintro e w3 ⟨rfl, n3⟩; have k0 : w3.cell? ⟨w.heap.size, 0, none⟩ = some (.int .i64 x) := n3.cell c0; have f0 : w3.frozen? ⟨w.heap.size, 0, none⟩ = false := n3.frz c0 z0; have k1 : w3.cell? ⟨w.heap.size, 1, none⟩ = some (.int .i64 D) := n3.cell c1)
        all_goals (go_wp2_with fail; go_meet)
        all_goals
          have m3 : New wr w3 := by first | exact n3 | exact New.undrew n3
          exact ⟨set_same k0, by rw [World.frozen?_setCell]; exact f0, by rw [set_other (by simp)]; exact k1, (Chg.of_new m3).trans (Chg.setCell (p := ⟨w.heap.size, 0, none⟩) _)⟩
      case rest =>
        obtain ⟨w6, rfl⟩ : ∃ u : World, u = wc := ⟨_, rfl⟩
        obtain ⟨y0, y1, y2, y3⟩ := hcut
        have N6 := Lib.hid (Chg.new NW.out y3 (fun i hi => by omega))
        have RO6 := Lib.hid (ownsRow_block RO.out fun g e => y3.block g (RO.out.lt g e).2 (by have := (RO.out.lt g e).1; omega))
        clear y3 c0 z0 c1
        have zb6 := World.block_lt_of_cell? _ _ y0
        simp only at zb6
        have zz := N6.out.size
        go_wp2_with (at_builtin; (refine wpList_append_lies _ (by rfl) (.tmp 16) (.tmp 19) 30 (by rfl) (w.heap.size + 1) 3 i0 (.int .i64 0) 1 8 Try.underlying30 hi hz0 hz1 hz2 rfl (by decide) _ (j + 1) _ (by rfl) (ownsRow_new RO6.out (by repeat (first | with_reducible exact New.refl _ | with_reducible assumption | refine New.drewN ?_ _ | refine New.drew ?_ | refine New.alloc ?_ _ | refine New.setCell ?_ (by first | omega | (simp; omega) | (simp; done)) _ | (refine New.trans ?_ (by assumption))))) _ _ _ [.int .i64 (x - d)] (by rfl) (by rfl) (World.news_of_block (cs := #[.int .i64 (x - d)]) (t := 3) (fr := (0, 0)) (heap_alloc_at (by simp))) (by simp [Value.oneCell']) (by omega) (by unfold maxLen; omega) (by omega) (by first | omega | (simp; omega) | (simp; done)) _ rfl ?_; intro g cap w7 ho hg hb' hlt'; have N7 := Lib.hid (New.grown (NewS N6.out (by repeat (first | with_reducible exact New.refl _ | with_reducible assumption | refine New.drewN ?_ _ | refine New.drew ?_ | refine New.alloc ?_ _ | refine New.setCell ?_ (by first | omega | (simp; omega) | (simp; done)) _ | (refine New.trans ?_ (by assumption))))) (ownsRow_new RO6.out (by repeat (first | with_reducible exact New.refl _ | with_reducible assumption | refine New.drewN ?_ _ | refine New.drew ?_ | refine New.alloc ?_ _ | refine New.setCell ?_ (by first | omega | (simp; omega) | (simp; done)) _ | (refine New.trans ?_ (by assumption))))) (Nat.le_succ _) hg); have RO7 := Lib.hid ho; have e0 := grown_cell (ownsRow_new RO6.out (by repeat (first | with_reducible exact New.refl _ | with_reducible assumption | refine New.drewN ?_ _ | refine New.drew ?_ | refine New.alloc ?_ _ | refine New.setCell ?_ (by first | omega | (simp; omega) | (simp; done)) _ | (refine New.trans ?_ (by assumption))))) hg (p := ⟨w.heap.size, 0, none⟩) (by simp) (World.cell_kept y0); have e1 := grown_cell (ownsRow_new RO6.out (by repeat (first | with_reducible exact New.refl _ | with_reducible assumption | refine New.drewN ?_ _ | refine New.drew ?_ | refine New.alloc ?_ _ | refine New.setCell ?_ (by first | omega | (simp; omega) | (simp; done)) _ | (refine New.trans ?_ (by assumption))))) hg (p := ⟨w.heap.size, 1, none⟩) (by simp) (World.cell_kept y2); have e2 := grown_frozen (ownsRow_new RO6.out (by repeat (first | with_reducible exact New.refl _ | with_reducible assumption | refine New.drewN ?_ _ | refine New.drew ?_ | refine New.alloc ?_ _ | refine New.setCell ?_ (by first | omega | (simp; omega) | (simp; done)) _ | (refine New.trans ?_ (by assumption))))) hg (p := ⟨w.heap.size, 0, none⟩) (by simp) (by simp; omega) (((New.refl _).alloc _).frz y0 y1); clear ho hg hb' hlt'))
        go_roundw
        case rel =>
          refine ⟨j + 1, by omega, ?_, e2, e1, N7.out, ?_⟩
          · rw [LS.out]; exact e0
          · rw [levTo_succ, List.map_append, LS.out]; exact RO7.out
        case measure => rw [slen_of_row RO.out, show slen (.slice (some ⟨g, 0, none⟩) (j + 1 + 1) cap) = j + 2 from rfl]; omega
    · obtain rfl : j = n := by omega
      rw [LE.out] at c0
      go_wp2
      obtain ⟨oa, oc, e1, o1⟩ := Own.of_row RO.out
      subst e1
      go_ret
      exact ⟨_, _, rfl, by rw [LL.out]; exact o1.mono (by omega) (Nat.le_refl _), NW.out⟩
theorem ckEmpty_any (w : World) (L D : Int) (h0 : 0 ≤ L) (h1 : L ≤ 1000) (h2 : 1 ≤ D) (h3 : D ≤ 100) :
    Calls Try.prog 34 #[.agg #[.int .i64 L, .int .i64 D]] w fun e w' => e = .returned (.int .i64 (tim D L : Nat)) ∧ New w w' := by
  have hn := tim_le h2 1000 L h0 h1
  have KA := Lib.hid (fun w => ckLevels_any w L D h0 h1 h2 h3)
  obtain ⟨n, en⟩ : ∃ n, n = tim D L := ⟨_, rfl⟩
  rw [← en] at KA hn ⊢
  clear en
  go_enter Try.func34, Try.ntmps34
  go_wp2_with fail
  refine (KA.out _).mono ?_
  rintro e w1 ⟨oa, oc, rfl, o1, n1⟩
  go_wp2
  go_ret
  exact ⟨ret_int (by first | omega | (simp; omega) | simp), New.trans (by repeat (first | with_reducible exact New.refl _ | with_reducible assumption | refine New.drewN ?_ _ | refine New.drew ?_ | refine New.alloc ?_ _ | refine New.setCell ?_ (by first | omega | (simp; omega) | (simp; done)) _ | (refine New.trans ?_ (by assumption)))) n1⟩
end Go.Proofs.Ytnahlemchajfdaa
