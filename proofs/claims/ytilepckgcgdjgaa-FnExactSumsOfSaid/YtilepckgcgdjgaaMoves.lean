/- Slices of moves: how they read, rows of the call's own, and the laws' helpers over them. -/
import Derived.Test.YtilepckgcgdjgaaRows2
import Derived.Test.YtilepckgcgdjgaaHelpV
import Derived.Deep.RegionHeld3
namespace Go.Proofs.Ytilepckgcgdjgaa
open Go.RowKit

def flat (l : List (Int × Int)) : List Value := l.flatMap fun p => [.int .i64 p.1, .int .i64 p.2]
theorem flat_append (l m : List (Int × Int)) : flat (l ++ m) = flat l ++ flat m := by simp [flat]
theorem flat_one (a b : Int) : flat [(a, b)] = [.int .i64 a, .int .i64 b] := rfl
theorem flat_length (l : List (Int × Int)) : (flat l).length = l.length * 2 := by
  induction l with
  | nil => rfl
  | cons p l ih => simp only [flat, List.flatMap_cons, List.length_append, List.length_cons] at *; simp at *; omega
theorem flat_get (l : List (Int × Int)) (j : Nat) (hj : j < l.length) : (flat l)[j * 2]? = some (.int .i64 (l[j]?.getD (0, 0)).1) ∧ (flat l)[j * 2 + 1]? = some (.int .i64 (l[j]?.getD (0, 0)).2) := by
  induction l generalizing j with
  | nil => simp at hj
  | cons p l ih =>
    cases j with
    | zero => exact ⟨rfl, rfl⟩
    | succ j =>
      have := ih j (by simpa using hj)
      have e : (j + 1) * 2 = j * 2 + 1 + 1 := by omega
      rw [e]
      simpa [flat] using this

/-- A slice of n moves, capacity cap, reads as l. -/
def Pairs (w : World) (ao : Option Addr) (n cap : Nat) (l : List (Int × Int)) : Prop :=
  n = l.length ∧ n ≤ cap ∧ n ≤ 9223372036854775807 ∧ (∀ j, j < n → ∃ b o, ao = some ⟨b, o, none⟩ ∧ w.cell? ⟨b, o + j * 2, none⟩ = some (.int .i64 (l[j]?.getD (0, 0)).1) ∧ w.cell? ⟨b, o + j * 2 + 1, none⟩ = some (.int .i64 (l[j]?.getD (0, 0)).2)) ∧ (ao = none → cap = 0)
theorem Pairs.new {w w' : World} {ao : Option Addr} {n cap : Nat} {l : List (Int × Int)} (h : Pairs w ao n cap l) (k : New w w') : Pairs w' ao n cap l := by
  obtain ⟨h1, h2, h3, h4, h5⟩ := h
  refine ⟨h1, h2, h3, fun j hj => ?_, h5⟩
  obtain ⟨b, o, e, hc, hd⟩ := h4 j hj
  exact ⟨b, o, e, k.cell hc, k.cell hd⟩
theorem Pairs.len {w : World} {ao : Option Addr} {n cap : Nat} {l : List (Int × Int)} (h : Pairs w ao n cap l) : n = l.length := h.1

/-- A slice of moves in a row of its own. -/
def OwnP (w : World) (lo hi : Nat) (ao : Option Addr) (n cap : Nat) (l : List (Int × Int)) : Prop :=
  n = l.length ∧ n ≤ cap ∧ n ≤ 9223372036854775807 ∧ ((n = 0 ∧ (ao = none → cap = 0)) ∨ ∃ b f, ao = some ⟨b, 0, none⟩ ∧ lo ≤ b ∧ b < hi ∧ w.rowIs b 77 (cap * 2) f ∧
    ∀ j, j < n → f (j * 2) = .int .i64 (l[j]?.getD (0, 0)).1 ∧ f (j * 2 + 1) = .int .i64 (l[j]?.getD (0, 0)).2)
theorem OwnP.pairs {w : World} {lo hi : Nat} {ao : Option Addr} {n cap : Nat} {l : List (Int × Int)} (h : OwnP w lo hi ao n cap l) : Pairs w ao n cap l := by
  obtain ⟨h1, h2, h3, h4⟩ := h
  refine ⟨h1, h2, h3, fun j hj => ?_, fun e => ?_⟩
  · rcases h4 with h4 | ⟨b, f, rfl, _, _, hr, hf⟩
    · omega
    · refine ⟨b, 0, rfl, ?_, ?_⟩
      · have := hr.cell (i := j * 2) (by omega)
        rw [Nat.zero_add, this, (hf j hj).1]
      · have := hr.cell (i := j * 2 + 1) (by omega)
        rw [Nat.zero_add, this, (hf j hj).2]
  · rcases h4 with h4 | ⟨b, f, rfl, _, _, hr, hf⟩
    · exact h4.2 e
    · cases e
theorem OwnP.turned {w w' : World} {lo hi : Nat} {ao : Option Addr} {n cap : Nat} {l : List (Int × Int)} (h : OwnP w lo hi ao n cap l)
    (k : ∀ b, n ≠ 0 → blkOf ao = some b → b < w.heap.size → w'.heap[b]? = w.heap[b]?) : OwnP w' lo hi ao n cap l := by
  obtain ⟨h1, h2, h3, h4⟩ := h
  refine ⟨h1, h2, h3, ?_⟩
  rcases h4 with h4 | ⟨b, f, rfl, hl, hh, hr, hf⟩
  · exact .inl h4
  · by_cases h0 : n = 0
    · exact .inl ⟨h0, fun e => by cases e⟩
    · exact .inr ⟨b, f, rfl, hl, hh, hr.of_block (k b h0 rfl hr.lt), hf⟩
theorem OwnP.new {w w' : World} {lo hi : Nat} {ao : Option Addr} {n cap : Nat} {l : List (Int × Int)} (h : OwnP w lo hi ao n cap l) (k : New w w') : OwnP w' lo hi ao n cap l :=
  h.turned fun b _ _ hb => k.block b hb
theorem OwnP.mono {w : World} {lo hi lo' hi' : Nat} {ao : Option Addr} {n cap : Nat} {l : List (Int × Int)} (h : OwnP w lo hi ao n cap l) (h1 : lo' ≤ lo) (h2 : hi ≤ hi') : OwnP w lo' hi' ao n cap l := by
  obtain ⟨a, b, c, d⟩ := h
  refine ⟨a, b, c, ?_⟩
  rcases d with d | ⟨b, f, e, hl, hh, r⟩
  · exact .inl d
  · exact .inr ⟨b, f, e, by omega, by omega, r⟩
theorem OwnP.bounds {w : World} {lo hi : Nat} {ao : Option Addr} {n cap : Nat} {l : List (Int × Int)} (h : OwnP w lo hi ao n cap l) (hn : n ≠ 0) {b : Nat} (hb : blkOf ao = some b) : lo ≤ b ∧ b < hi := by
  rcases h.2.2.2 with d | ⟨b', f, rfl, hl, hh, r⟩
  · exact absurd d.1 hn
  · simp [blkOf] at hb; omega
theorem OwnP.chg {P : Nat → Prop} {w w' : World} {lo hi : Nat} {ao : Option Addr} {n cap : Nat} {l : List (Int × Int)} (h : OwnP w lo hi ao n cap l) (k : Chg P w w') (hP : ∀ b, lo ≤ b → b < hi → ¬ P b) : OwnP w' lo hi ao n cap l :=
  h.turned fun b hn hb hlt => k.block b hlt (hP b (h.bounds hn hb).1 (h.bounds hn hb).2)
theorem OwnP.nil (w : World) (lo hi : Nat) : OwnP w lo hi none 0 0 [] := ⟨rfl, Nat.le_refl _, by omega, .inl ⟨rfl, fun _ => rfl⟩⟩
theorem OwnP.of_row {w : World} {base : Nat} {v : Value} {n : Nat} {l : List (Int × Int)} (h : w.ownsRow base 77 2 v n (flat l)) :
    ∃ ao cap, v = .slice ao n cap ∧ OwnP w base w.heap.size ao n cap l := by
  obtain ⟨hl, h⟩ := h
  rw [flat_length] at hl
  have hlen : n = l.length := by omega
  rcases h with ⟨rfl, rfl⟩ | ⟨g, cap, cur, rfl, hb, hh, hn, hm, hs, ht⟩
  · exact ⟨none, 0, rfl, hlen, Nat.le_refl _, by omega, .inl ⟨rfl, fun _ => rfl⟩⟩
  · have at_ : ∀ i v, i < n * 2 → (flat l)[i]? = some v → cur[i]? = some v := fun i v hi hv => by
      rw [← ht, List.getElem?_take, if_pos hi] at hv
      simpa using hv
    refine ⟨_, cap, rfl, hlen, hn, by unfold maxLen at hm; omega, .inr ⟨g, fun j => cur[j]?.getD undef, rfl, hb, (Array.getElem?_eq_some_iff.1 hh).1, ⟨cur, hh, by omega, fun i hi => ?_⟩, fun j hj => ?_⟩⟩
    · simp [Array.getElem?_eq_getElem (show i < cur.size by omega)]
    · obtain ⟨g1, g2⟩ := flat_get l j (by omega)
      have e1 := at_ (j * 2) _ (by omega) g1
      have e2 := at_ (j * 2 + 1) _ (by omega) g2
      simp [e1, e2]

theorem ext_pair {l m : List (Int × Int)} (h : l.length = m.length) (k : ∀ j, j < l.length → l[j]?.getD (0, 0) = m[j]?.getD (0, 0)) : l = m := by
  apply List.ext_getElem h
  intro i h1 h2
  have := k i h1
  simpa [List.getElem?_eq_getElem h1, List.getElem?_eq_getElem h2] using this

theorem eqMove_any (w : World) (a b c d : Int) :
    Calls Try.prog 51 #[.agg #[.int .i64 a, .int .i64 b], .agg #[.int .i64 c, .int .i64 d]] w fun e w' => e = .returned (.bool (decide ((a, b) = (c, d)))) ∧ New w w' := by
  by_cases h1 : a = c
  · subst h1
    by_cases h2 : b = d
    · subst h2
      go_enter Try.func51, Try.ntmps51
      go_wp2
      go_ret
      exact ⟨ret_bool (by simp), (by repeat (first | with_reducible exact New.refl _ | with_reducible assumption | refine New.drewN ?_ _ | refine New.drew ?_ | refine New.alloc ?_ _ | refine New.setCell ?_ (by first | omega | (simp; omega) | (simp; done)) _ | (refine New.trans ?_ (by assumption))))⟩
    · have h3 : (b != d) = true := by simpa using h2
      go_enter Try.func51, Try.ntmps51
      go_wp2
      go_ret
      exact ⟨ret_bool (by simp [h2]), (by repeat (first | with_reducible exact New.refl _ | with_reducible assumption | refine New.drewN ?_ _ | refine New.drew ?_ | refine New.alloc ?_ _ | refine New.setCell ?_ (by first | omega | (simp; omega) | (simp; done)) _ | (refine New.trans ?_ (by assumption))))⟩
  · have h3 : (a != c) = true := by simpa using h1
    go_enter Try.func51, Try.ntmps51
    go_wp2
    go_ret
    exact ⟨ret_bool (by simp [h1]), (by repeat (first | with_reducible exact New.refl _ | with_reducible assumption | refine New.drewN ?_ _ | refine New.drew ?_ | refine New.alloc ?_ _ | refine New.setCell ?_ (by first | omega | (simp; omega) | (simp; done)) _ | (refine New.trans ?_ (by assumption))))⟩

theorem eqMoveS_any (w : World) (aa ab : Option Addr) (n m ca cb : Nat) (la lb : List (Int × Int)) (ha : Pairs w aa n ca la) (hb : Pairs w ab m cb lb) :
    Calls Try.prog 29 #[.slice aa n ca, .slice ab m cb] w fun e w' => e = .returned (.bool (decide (la = lb))) ∧ New w w' := by
  have hma := ha.2.2.1
  have hmb := hb.2.2.1
  have HA := Lib.hid ha; clear ha
  have HB := Lib.hid hb; clear hb
  by_cases hnm : n = m
  · subst hnm
    go_enter Try.func29, Try.ntmps29
    go_wp2
    go_loopw [5] (fun i wr => ∃ k : Nat, k ≤ n ∧ i = .int .i64 k ∧ (∀ j, j < k → la[j]?.getD (0, 0) = lb[j]?.getD (0, 0)) ∧ New w wr) (fun i _ => n - (intOf i).toNat)
    case atStart => exact ⟨0, Nat.zero_le _, rfl, fun j hj => absurd hj (by omega), New.refl _⟩
    case round =>
      obtain ⟨k, hk, rfl, hpre, hnw⟩ := hrel
      have HP := Lib.hid hpre; clear hpre
      have NW := Lib.hid hnw; clear hnw
      by_cases hlt : k < n
      · obtain ⟨ba, oa, rfl, ga, gb⟩ := (HA.out.new NW.out).2.2.2.1 k hlt
        obtain ⟨bb, ob, rfl, gc, gd⟩ := (HB.out.new NW.out).2.2.2.1 k hlt
        by_cases he : la[k]?.getD (0, 0) = lb[k]?.getD (0, 0)
        · have EQ := Lib.hid (show decide (((la[k]?.getD (0, 0)).1, (la[k]?.getD (0, 0)).2) = ((lb[k]?.getD (0, 0)).1, (lb[k]?.getD (0, 0)).2)) = true by rw [he]; simp)
          have HE := Lib.hid he; clear he
          go_wp2
          go_region_held3 (fun w' => w'.cell? ⟨ba, oa + k * 2, none⟩ = some (.int .i64 (la[k]?.getD (0, 0)).1) ∧ w'.cell? ⟨ba, oa + k * 2 + 1, none⟩ = some (.int .i64 (la[k]?.getD (0, 0)).2) ∧ w'.cell? ⟨bb, ob + k * 2, none⟩ = some (.int .i64 (lb[k]?.getD (0, 0)).1) ∧ w'.cell? ⟨bb, ob + k * 2 + 1, none⟩ = some (.int .i64 (lb[k]?.getD (0, 0)).2))
            (first | exact ⟨ga, gb, gc, gd⟩ | exact ⟨n1.cell ga, n1.cell gb, n1.cell gc, n1.cell gd⟩ | fail)
            (first | (go_at_call 51; refine (eqMove_any _ _ _ _ _).mono ?_; rw [EQ.out]; rintro e w1 ⟨rfl, n1⟩))
          go_wp2
          go_roundw
          case rel =>
            refine ⟨k + 1, by omega, by go_num, fun j hj => ?_, NW.out.trans (New.trans (by repeat (first | with_reducible exact New.refl _ | with_reducible assumption | refine New.drewN ?_ _ | refine New.drew ?_ | refine New.alloc ?_ _ | refine New.setCell ?_ (by first | omega | (simp; omega) | (simp; done)) _ | (refine New.trans ?_ (by assumption)))) n1)⟩
            by_cases e : j = k
            · subst e; exact HE.out
            · exact HP.out j (by omega)
          case measure => simp [intOf]; omega
        · have EQ := Lib.hid (show decide (((la[k]?.getD (0, 0)).1, (la[k]?.getD (0, 0)).2) = ((lb[k]?.getD (0, 0)).1, (lb[k]?.getD (0, 0)).2)) = false from decide_eq_false fun h => he (Prod.ext (congrArg Prod.fst h) (congrArg Prod.snd h)))
          have HE := Lib.hid he; clear he
          go_wp2
          go_region_held3 (fun w' => w'.cell? ⟨ba, oa + k * 2, none⟩ = some (.int .i64 (la[k]?.getD (0, 0)).1) ∧ w'.cell? ⟨ba, oa + k * 2 + 1, none⟩ = some (.int .i64 (la[k]?.getD (0, 0)).2) ∧ w'.cell? ⟨bb, ob + k * 2, none⟩ = some (.int .i64 (lb[k]?.getD (0, 0)).1) ∧ w'.cell? ⟨bb, ob + k * 2 + 1, none⟩ = some (.int .i64 (lb[k]?.getD (0, 0)).2))
            (first | exact ⟨ga, gb, gc, gd⟩ | exact ⟨n1.cell ga, n1.cell gb, n1.cell gc, n1.cell gd⟩ | fail)
            (first | (go_at_call 51; refine (eqMove_any _ _ _ _ _).mono ?_; rw [EQ.out]; rintro e w1 ⟨rfl, n1⟩))
          go_wp2
          go_ret
          refine ⟨ret_bool (decide_eq_false fun h => HE.out ?_).symm, NW.out.trans (New.trans (by repeat (first | with_reducible exact New.refl _ | with_reducible assumption | refine New.drewN ?_ _ | refine New.drew ?_ | refine New.alloc ?_ _ | refine New.setCell ?_ (by first | omega | (simp; omega) | (simp; done)) _ | (refine New.trans ?_ (by assumption)))) n1)⟩
          rw [h]
      · go_wp2
        go_ret
        refine ⟨ret_bool (decide_eq_true ?_).symm, NW.out⟩
        exact ext_pair (HA.out.len.symm.trans HB.out.len) (fun j hj => HP.out j (by have := HA.out.len; omega))
  · go_enter Try.func29, Try.ntmps29
    go_wp2
    go_ret
    refine ⟨ret_bool (decide_eq_false fun h => hnm ?_).symm, New.refl _⟩
    rw [HA.out.len, HB.out.len, h]

def marksP (x : Int) (n : Nat) : List (Int × Int) := (List.range n).map (fun (j : Nat) => (x + 2 * (j : Int), x + 2 * (j : Int) + 1))
theorem marksP_length (x : Int) (n : Nat) : (marksP x n).length = n := by simp [marksP]
theorem marksP_get (x : Int) (n j : Nat) (h : j < n) : (marksP x n)[j]?.getD (0, 0) = (x + 2 * (j : Int), x + 2 * (j : Int) + 1) := by simp [marksP, h]

theorem markMoveS_any (w : World) (lo hi : Nat) (ao : Option Addr) (n cap : Nat) (l : List (Int × Int)) (x : Int) (ha : OwnP w lo hi ao n cap l) (h0 : 0 ≤ x) (h1 : x + 2 * (n : Int) ≤ 4611686018427387904) :
    Calls Try.prog 30 #[.slice ao n cap, .int .i64 x] w fun e w' => e = .returned (.int .i64 (x + 2 * (n : Int))) ∧ OwnP w' lo hi ao n cap (marksP x n) ∧ Chg (fun b => n ≠ 0 ∧ blkOf ao = some b) w w' := by
  have HA := Lib.hid ha; clear ha
  by_cases hn : n = 0
  · subst hn
    go_enter Try.func30, Try.ntmps30
    go_wp2
    refine wp_loop_rounds 1 ?_
    rw [rounds_succ]
    go_wp2
    go_ret
    refine ⟨ret_int (by simp), ?_, Chg.refl _ _⟩
    obtain ⟨a, b, c, d⟩ := HA.out
    refine ⟨rfl, b, c, .inl ⟨rfl, ?_⟩⟩
    rcases d with d | ⟨b', f, rfl, _⟩
    · exact d.2
    · exact fun e => by cases e
  · obtain ⟨hl, hc, hm, b, f, rfl, hlo, hhi, hrow, hf⟩ : n = l.length ∧ n ≤ cap ∧ n ≤ 9223372036854775807 ∧ ∃ b f, ao = some ⟨b, 0, none⟩ ∧ lo ≤ b ∧ b < hi ∧ w.rowIs b 77 (cap * 2) f ∧
        ∀ j, j < n → f (j * 2) = .int .i64 (l[j]?.getD (0, 0)).1 ∧ f (j * 2 + 1) = .int .i64 (l[j]?.getD (0, 0)).2 := by
      obtain ⟨a, b, c, d⟩ := HA.out
      exact ⟨a, b, c, d.resolve_left (fun h => hn h.1)⟩
    have HL := Lib.hid hl; clear hl
    have HF := Lib.hid hf; clear hf
    have HR := Lib.hid hrow; clear hrow
    have HI := Lib.hid (And.intro hlo hhi); clear hlo hhi
    go_enter Try.func30, Try.ntmps30
    go_wp2
    go_loopw [1, 5] (fun y i wr => ∃ (k : Nat) (g : Nat → Value), k ≤ n ∧ i = .int .i64 k ∧ y = .int .i64 (x + 2 * (k : Int)) ∧ wr.rowIs b 77 (cap * 2) g ∧ (∀ j, j < k → g (j * 2) = .int .i64 (x + 2 * (j : Int)) ∧ g (j * 2 + 1) = .int .i64 (x + 2 * (j : Int) + 1)) ∧
      (∀ j, k ≤ j → g (j * 2) = f (j * 2) ∧ g (j * 2 + 1) = f (j * 2 + 1)) ∧ Chg (fun b' => n ≠ 0 ∧ blkOf (some ⟨b, 0, none⟩) = some b') w wr) (fun _ i _ => n - (intOf i).toNat)
    case atStart => exact ⟨0, f, Nat.zero_le _, rfl, by simp, HR.out, fun j hj => absurd hj (by omega), fun j _ => ⟨rfl, rfl⟩, Chg.refl _ _⟩
    case round =>
      obtain ⟨k, g, hk, rfl, rfl, hw, hg, hg', hch⟩ := hrel
      have HW := Lib.hid hw; clear hw
      have HG := Lib.hid hg; clear hg
      have HG' := Lib.hid hg'; clear hg'
      have HC := Lib.hid hch; clear hch
      by_cases hlt : k < n
      · have c0 : wr.cell? ⟨b, k * 2, none⟩ = some (.int .i64 (l[k]?.getD (0, 0)).1) := by rw [HW.out.cell (by omega), (HG'.out k (Nat.le_refl _)).1, (HF.out k hlt).1]
        have c1 : wr.cell? ⟨b, k * 2 + 1, none⟩ = some (.int .i64 (l[k]?.getD (0, 0)).2) := by rw [HW.out.cell (by omega), (HG'.out k (Nat.le_refl _)).2, (HF.out k hlt).2]
        have f0 := HW.out.frozen (k * 2)
        have f1 := HW.out.frozen (k * 2 + 1)
        go_wp2
        go_roundw
        case rel =>
          have hch : ∀ (u : World) (o : Nat) (v : Value), Chg (fun b' => n ≠ 0 ∧ blkOf (some ⟨b, 0, none⟩) = some b') u (u.setCell ⟨b, o, none⟩ v) := fun u o v =>
            (Chg.setCell (p := ⟨b, o, none⟩) v).mono fun i e => ⟨hn, by simp [blkOf, e]⟩
          refine ⟨k + 1, _, by omega, by go_num, congrArg (Value.int .i64) (by omega), (HW.out.set (k * 2) _).set (k * 2 + 1) _, fun j hj => ?_, fun j hj => ?_, (HC.out.trans (hch _ _ _)).trans (hch _ _ _)⟩
          · by_cases e : j = k
            · subst e
              simp
            · rw [if_neg (by omega), if_neg (by omega), if_neg (by omega), if_neg (by omega)]
              exact HG.out j (by omega)
          · rw [if_neg (by omega), if_neg (by omega), if_neg (by omega), if_neg (by omega)]
            exact HG'.out j (by omega)
        case measure => simp [intOf]; omega
      · go_wp2
        go_ret
        obtain rfl : k = n := by omega
        refine ⟨rfl, ⟨(marksP_length _ _).symm, hc, hm, .inr ⟨b, g, rfl, HI.out.1, HI.out.2, HW.out, fun j hj => ?_⟩⟩, HC.out⟩
        rw [marksP_get _ _ _ hj]
        exact HG.out j hj

theorem heldMoveS_any (w : World) (ao : Option Addr) (n cap : Nat) (x : Int) (ha : Pairs w ao n cap (marksP x n)) (h0 : 0 ≤ x) (h1 : x + 2 * (n : Int) ≤ 4611686018427387904) :
    Calls Try.prog 31 #[.slice ao n cap, .int .i64 x] w fun e w' => e = .returned (.int .i64 (x + 2 * (n : Int))) ∧ New w w' := by
  have HA := Lib.hid ha; clear ha
  have hm := HA.out.2.2.1
  go_enter Try.func31, Try.ntmps31
  go_wp2
  go_loopw [1, 5] (fun y i wr => ∃ k : Nat, k ≤ n ∧ i = .int .i64 k ∧ y = .int .i64 (x + 2 * (k : Int)) ∧ New w wr) (fun _ i _ => n - (intOf i).toNat)
  case atStart => exact ⟨0, Nat.zero_le _, rfl, by simp, New.refl _⟩
  case round =>
    obtain ⟨k, hk, rfl, rfl, hnw⟩ := hrel
    have NW := Lib.hid hnw; clear hnw
    by_cases hlt : k < n
    · obtain ⟨b, o, rfl, hc, hd⟩ := (HA.out.new NW.out).2.2.2.1 k hlt
      rw [marksP_get _ _ _ hlt] at hc hd
      simp only at hc hd
      go_wp2
      go_roundw
      case rel => exact ⟨k + 1, by omega, by go_num, congrArg (Value.int .i64) (by omega), NW.out⟩
      case measure => simp [intOf]; omega
    · go_wp2
      go_ret
      obtain rfl : k = n := by omega
      exact ⟨rfl, NW.out⟩
end Go.Proofs.Ytilepckgcgdjgaa
