/- Slices of Ratio: how they read, rows of the call's own, and the laws' helpers over them. -/
import Derived.Test.YtlhpkpfnaepgbaaHelp
import Derived.Deep.RegionHeld3
import Derived.Deep.SlicePairs
namespace Go.Proofs.Ytlhpkpfnaepgbaa
open Go.RowKit

def flatRatio (l : List (Int × Int)) : List Value := l.flatMap fun p => [.int .i64 (p.1), .int .i64 (p.2)]
theorem flatRatio_append (l m : List (Int × Int)) : flatRatio (l ++ m) = flatRatio l ++ flatRatio m := by simp [flatRatio]
theorem flatRatio_length (l : List (Int × Int)) : (flatRatio l).length = l.length * 2 := by
  induction l with
  | nil => rfl
  | cons p l ih => simp only [flatRatio, List.flatMap_cons, List.length_append, List.length_cons] at *; simp at *; omega
theorem flatRatio_get (l : List (Int × Int)) (j : Nat) (hj : j < l.length) : (flatRatio l)[j * 2]? = some (.int .i64 ((l[j]?.getD (0, 0)).1)) ∧ (flatRatio l)[j * 2 + 1]? = some (.int .i64 ((l[j]?.getD (0, 0)).2)) := by
  induction l generalizing j with
  | nil => simp at hj
  | cons p l ih =>
    cases j with
    | zero => exact ⟨rfl, rfl⟩
    | succ j =>
      have := ih j (by simpa using hj)
      have e : (j + 1) * 2 = j * 2 + 1 + 1 := by omega
      rw [e]
      simpa [flatRatio] using this

/-- A slice of n of them, capacity cap, reads as l. -/
def Ratios (w : World) (ao : Option Addr) (n cap : Nat) (l : List (Int × Int)) : Prop :=
  n = l.length ∧ n ≤ cap ∧ n ≤ 9223372036854775807 ∧ (∀ j, j < n → ∃ b o, ao = some ⟨b, o, none⟩ ∧ w.cell? ⟨b, o + j * 2, none⟩ = some (.int .i64 ((l[j]?.getD (0, 0)).1)) ∧ w.cell? ⟨b, o + j * 2 + 1, none⟩ = some (.int .i64 ((l[j]?.getD (0, 0)).2))) ∧ (ao = none → cap = 0)
theorem Ratios.new {w w' : World} {ao : Option Addr} {n cap : Nat} {l : List (Int × Int)} (h : Ratios w ao n cap l) (k : New w w') : Ratios w' ao n cap l := by
  obtain ⟨h1, h2, h3, h4, h5⟩ := h
  refine ⟨h1, h2, h3, fun j hj => ?_, h5⟩
  obtain ⟨b, o, e, c0, c1⟩ := h4 j hj
  exact ⟨b, o, e, k.cell c0, k.cell c1⟩
theorem Ratios.len {w : World} {ao : Option Addr} {n cap : Nat} {l : List (Int × Int)} (h : Ratios w ao n cap l) : n = l.length := h.1
theorem Ratios.nil (w : World) : Ratios w none 0 0 [] := ⟨rfl, Nat.le_refl _, by omega, fun j hj => absurd hj (by omega), fun _ => rfl⟩

/-- A slice of them in a row of its own. -/
def OwnRatio (w : World) (lo hi : Nat) (ao : Option Addr) (n cap : Nat) (l : List (Int × Int)) : Prop :=
  n = l.length ∧ n ≤ cap ∧ n ≤ 9223372036854775807 ∧ ((n = 0 ∧ (ao = none → cap = 0)) ∨ ∃ b f, ao = some ⟨b, 0, none⟩ ∧ lo ≤ b ∧ b < hi ∧ w.rowIs b 58 (cap * 2) f ∧
    ∀ j, j < n → f (j * 2) = .int .i64 ((l[j]?.getD (0, 0)).1) ∧ f (j * 2 + 1) = .int .i64 ((l[j]?.getD (0, 0)).2))
theorem OwnRatio.reads {w : World} {lo hi : Nat} {ao : Option Addr} {n cap : Nat} {l : List (Int × Int)} (h : OwnRatio w lo hi ao n cap l) : Ratios w ao n cap l := by
  obtain ⟨h1, h2, h3, h4⟩ := h
  refine ⟨h1, h2, h3, fun j hj => ?_, fun e => ?_⟩
  · rcases h4 with h4 | ⟨b, f, rfl, _, _, hr, hf⟩
    · omega
    · obtain ⟨g0, g1⟩ := hf j hj
      refine ⟨b, 0, rfl, ?_, ?_⟩
      · have := hr.cell (i := j * 2) (by omega)
        rw [Nat.zero_add, this, g0]
      · have := hr.cell (i := j * 2 + 1) (by omega)
        rw [Nat.zero_add, this, g1]
  · rcases h4 with h4 | ⟨b, f, rfl, _, _, hr, hf⟩
    · exact h4.2 e
    · cases e
theorem OwnRatio.turned {w w' : World} {lo hi : Nat} {ao : Option Addr} {n cap : Nat} {l : List (Int × Int)} (h : OwnRatio w lo hi ao n cap l)
    (k : ∀ b, n ≠ 0 → blkOf ao = some b → b < w.heap.size → w'.heap[b]? = w.heap[b]?) : OwnRatio w' lo hi ao n cap l := by
  obtain ⟨h1, h2, h3, h4⟩ := h
  refine ⟨h1, h2, h3, ?_⟩
  rcases h4 with h4 | ⟨b, f, rfl, hl, hh, hr, hf⟩
  · exact .inl h4
  · by_cases h0 : n = 0
    · exact .inl ⟨h0, fun e => by cases e⟩
    · exact .inr ⟨b, f, rfl, hl, hh, hr.of_block (k b h0 rfl hr.lt), hf⟩
theorem OwnRatio.new {w w' : World} {lo hi : Nat} {ao : Option Addr} {n cap : Nat} {l : List (Int × Int)} (h : OwnRatio w lo hi ao n cap l) (k : New w w') : OwnRatio w' lo hi ao n cap l :=
  h.turned fun b _ _ hb => k.block b hb
theorem OwnRatio.mono {w : World} {lo hi lo' hi' : Nat} {ao : Option Addr} {n cap : Nat} {l : List (Int × Int)} (h : OwnRatio w lo hi ao n cap l) (h1 : lo' ≤ lo) (h2 : hi ≤ hi') : OwnRatio w lo' hi' ao n cap l := by
  obtain ⟨a, b, c, d⟩ := h
  refine ⟨a, b, c, ?_⟩
  rcases d with d | ⟨b, f, e, hl, hh, r⟩
  · exact .inl d
  · exact .inr ⟨b, f, e, by omega, by omega, r⟩
theorem OwnRatio.bounds {w : World} {lo hi : Nat} {ao : Option Addr} {n cap : Nat} {l : List (Int × Int)} (h : OwnRatio w lo hi ao n cap l) (hn : n ≠ 0) {b : Nat} (hb : blkOf ao = some b) : lo ≤ b ∧ b < hi := by
  rcases h.2.2.2 with d | ⟨b', f, rfl, hl, hh, r⟩
  · exact absurd d.1 hn
  · simp [blkOf] at hb; omega
theorem OwnRatio.chg {P : Nat → Prop} {w w' : World} {lo hi : Nat} {ao : Option Addr} {n cap : Nat} {l : List (Int × Int)} (h : OwnRatio w lo hi ao n cap l) (k : Chg P w w') (hP : ∀ b, lo ≤ b → b < hi → ¬ P b) : OwnRatio w' lo hi ao n cap l :=
  h.turned fun b hn hb hlt => k.block b hlt (hP b (h.bounds hn hb).1 (h.bounds hn hb).2)
theorem OwnRatio.setCell {w : World} {lo hi : Nat} {ao : Option Addr} {n cap : Nat} {l : List (Int × Int)} (h : OwnRatio w lo hi ao n cap l) {p : Addr} (hp : p.block < lo ∨ hi ≤ p.block) (u : Value) : OwnRatio (w.setCell p u) lo hi ao n cap l :=
  h.chg (Chg.setCell u) (fun b _ _ e => by omega)
theorem OwnRatio.nil (w : World) (lo hi : Nat) : OwnRatio w lo hi none 0 0 [] := ⟨rfl, Nat.le_refl _, by omega, .inl ⟨rfl, fun _ => rfl⟩⟩
theorem OwnRatio.of_row {w : World} {base : Nat} {v : Value} {n : Nat} {l : List (Int × Int)} (h : w.ownsRow base 58 2 v n (flatRatio l)) :
    ∃ ao cap, v = .slice ao n cap ∧ OwnRatio w base w.heap.size ao n cap l := by
  obtain ⟨hl, h⟩ := h
  rw [flatRatio_length] at hl
  have hlen : n = l.length := by omega
  rcases h with ⟨rfl, rfl⟩ | ⟨g, cap, cur, rfl, hb, hh, hn, hm, hs, ht⟩
  · exact ⟨none, 0, rfl, hlen, Nat.le_refl _, by omega, .inl ⟨rfl, fun _ => rfl⟩⟩
  · have at_ : ∀ i v, i < n * 2 → (flatRatio l)[i]? = some v → cur[i]? = some v := fun i v hi hv => by
      rw [← ht, List.getElem?_take, if_pos hi] at hv
      simpa using hv
    refine ⟨_, cap, rfl, hlen, hn, by unfold maxLen at hm; omega, .inr ⟨g, fun j => cur[j]?.getD undef, rfl, hb, (Array.getElem?_eq_some_iff.1 hh).1, ⟨cur, hh, by omega, fun i hi => ?_⟩, fun j hj => ?_⟩⟩
    · simp [Array.getElem?_eq_getElem (show i < cur.size by omega)]
    · obtain ⟨g0, g1⟩ := flatRatio_get l j (by omega)
      have e0 := at_ (j * 2) _ (by omega) g0
      have e1 := at_ (j * 2 + 1) _ (by omega) g1
      simp [e0, e1]

theorem eqRatio_one (w : World) (a : Int) (b : Int) :
    Calls Try.prog 40 #[.agg #[.int .i64 (a), .int .i64 (b)], .agg #[.int .i64 (a), .int .i64 (b)]] w fun e w' => e = .returned (.bool true) ∧ New w w' := by
  go_enter Try.func40, Try.ntmps40
  go_wp2
  go_ret
  exact ⟨rfl, (by repeat (first | with_reducible exact New.refl _ | with_reducible assumption | refine New.drewN ?_ _ | refine New.drew ?_ | refine New.alloc ?_ _ | refine New.setCell ?_ (by first | omega | (simp; omega) | (simp; done)) _ | (refine New.trans ?_ (by assumption))))⟩

theorem eqRatioS_same (w : World) (aa ab : Option Addr) (n m ca cb : Nat) (la : List (Int × Int)) (ha : Ratios w aa n ca la) (hb : Ratios w ab m cb la) :
    Calls Try.prog 19 #[.slice aa n ca, .slice ab m cb] w fun e w' => e = .returned (.bool true) ∧ New w w' := by
  obtain rfl : n = m := ha.1.trans hb.1.symm
  have hma := ha.2.2.1
  have HA := Lib.hid ha; clear ha
  have HB := Lib.hid hb; clear hb
  go_enter Try.func19, Try.ntmps19
  go_wp2
  go_loopw [5] (fun i wr => ∃ k : Nat, k ≤ n ∧ i = .int .i64 k ∧ New w wr) (fun i _ => n - (intOf i).toNat)
  case atStart => exact ⟨0, Nat.zero_le _, rfl, New.refl _⟩
  case round =>
    obtain ⟨k, hk, rfl, hnw⟩ := hrel
    have NW := Lib.hid hnw; clear hnw
    by_cases hlt : k < n
    · obtain ⟨ba, oa, rfl, ga0, ga1⟩ := (HA.out.new NW.out).2.2.2.1 k hlt
      obtain ⟨bb, ob, rfl, gb0, gb1⟩ := (HB.out.new NW.out).2.2.2.1 k hlt
      go_wp2
      go_region_held3 (fun w' => w'.cell? ⟨ba, oa + k * 2, none⟩ = some (.int .i64 ((la[k]?.getD (0, 0)).1)) ∧ w'.cell? ⟨ba, oa + k * 2 + 1, none⟩ = some (.int .i64 ((la[k]?.getD (0, 0)).2)) ∧ w'.cell? ⟨bb, ob + k * 2, none⟩ = some (.int .i64 ((la[k]?.getD (0, 0)).1)) ∧ w'.cell? ⟨bb, ob + k * 2 + 1, none⟩ = some (.int .i64 ((la[k]?.getD (0, 0)).2)))
        (first | exact ⟨ga0, ga1, gb0, gb1⟩ | exact ⟨n1.cell ga0, n1.cell ga1, n1.cell gb0, n1.cell gb1⟩ | fail)
        (first | (go_at_call 40; refine (eqRatio_one _ _ _).mono ?_; rintro e w1 ⟨rfl, n1⟩))
      go_wp2
      go_roundw
      case rel => exact ⟨k + 1, by omega, by go_num, NW.out.trans (New.trans (by repeat (first | with_reducible exact New.refl _ | with_reducible assumption | refine New.drewN ?_ _ | refine New.drew ?_ | refine New.alloc ?_ _ | refine New.setCell ?_ (by first | omega | (simp; omega) | (simp; done)) _ | (refine New.trans ?_ (by assumption)))) n1)⟩
      case measure => simp [intOf]; omega
    · go_wp2
      go_ret
      exact ⟨rfl, NW.out⟩

def marksRatio (x : Int) (n : Nat) : List (Int × Int) := (List.range n).map (fun (j : Nat) => (x + 2 * (j : Int), x + 2 * (j : Int) + 1))
theorem marksRatio_length (x : Int) (n : Nat) : (marksRatio x n).length = n := by simp [marksRatio]
theorem marksRatio_get (x : Int) (n j : Nat) (h : j < n) : (marksRatio x n)[j]?.getD (0, 0) = (x + 2 * (j : Int), x + 2 * (j : Int) + 1) := by simp [marksRatio, h]

theorem markRatioS_any (w : World) (lo hi : Nat) (ao : Option Addr) (n cap : Nat) (l : List (Int × Int)) (x : Int) (ha : OwnRatio w lo hi ao n cap l) (h0 : 0 ≤ x) (h1 : x + 2 * (n : Int) ≤ 4611686018427387904) :
    Calls Try.prog 20 #[.slice ao n cap, .int .i64 x] w fun e w' => e = .returned (.int .i64 (x + 2 * (n : Int))) ∧ OwnRatio w' lo hi ao n cap (marksRatio x n) ∧ Chg (fun b => n ≠ 0 ∧ blkOf ao = some b) w w' := by
  have HA := Lib.hid ha; clear ha
  by_cases hn : n = 0
  · subst hn
    go_enter Try.func20, Try.ntmps20
    go_wp2
    refine wp_loop_rounds 1 ?_
    rw [rounds_succ]
    go_wp2
    go_ret
    refine ⟨ret_int (by simp), ?_, Chg.refl _ _⟩
    obtain ⟨a, b, c, d⟩ := HA.out
    refine ⟨rfl, b, c, .inl ⟨rfl, ?_⟩⟩
    rcases d with d | ⟨b', f, rfl, _⟩
    · exact d.2
    · exact fun e => by cases e
  · obtain ⟨hl, hc, hm, b, f, rfl, hlo, hhi, hrow, hf⟩ : n = l.length ∧ n ≤ cap ∧ n ≤ 9223372036854775807 ∧ ∃ b f, ao = some ⟨b, 0, none⟩ ∧ lo ≤ b ∧ b < hi ∧ w.rowIs b 58 (cap * 2) f ∧
        ∀ j, j < n → f (j * 2) = .int .i64 ((l[j]?.getD (0, 0)).1) ∧ f (j * 2 + 1) = .int .i64 ((l[j]?.getD (0, 0)).2) := by
      obtain ⟨a, b, c, d⟩ := HA.out
      exact ⟨a, b, c, d.resolve_left (fun h => hn h.1)⟩
    have HL := Lib.hid hl; clear hl
    have HF := Lib.hid hf; clear hf
    have HR := Lib.hid hrow; clear hrow
    have HI := Lib.hid (And.intro hlo hhi); clear hlo hhi
    go_enter Try.func20, Try.ntmps20
    go_wp2
    go_loopw [1, 5] (fun y i wr => ∃ (k : Nat) (g : Nat → Value), k ≤ n ∧ i = .int .i64 k ∧ y = .int .i64 (x + 2 * (k : Int)) ∧ wr.rowIs b 58 (cap * 2) g ∧ (∀ j, j < k → g (j * 2) = .int .i64 (x + 2 * (j : Int)) ∧ g (j * 2 + 1) = .int .i64 (x + 2 * (j : Int) + 1)) ∧
      (∀ j, k ≤ j → g (j * 2) = f (j * 2) ∧ g (j * 2 + 1) = f (j * 2 + 1)) ∧ Chg (fun b' => n ≠ 0 ∧ blkOf (some ⟨b, 0, none⟩) = some b') w wr) (fun _ i _ => n - (intOf i).toNat)
    case atStart => exact ⟨0, f, Nat.zero_le _, rfl, by simp, HR.out, fun j hj => absurd hj (by omega), fun j _ => ⟨rfl, rfl⟩, Chg.refl _ _⟩
    case round =>
      obtain ⟨k, g, hk, rfl, rfl, hw, hg, hg', hch⟩ := hrel
      have HW := Lib.hid hw; clear hw
      have HG := Lib.hid hg; clear hg
      have HG' := Lib.hid hg'; clear hg'
      have HC := Lib.hid hch; clear hch
      by_cases hlt : k < n
      · obtain ⟨u0, u1⟩ := HG'.out k (Nat.le_refl _)
        obtain ⟨v0, v1⟩ := HF.out k hlt
        have c0 : wr.cell? ⟨b, k * 2, none⟩ = some (.int .i64 ((l[k]?.getD (0, 0)).1)) := by rw [HW.out.cell (by omega), u0, v0]
        have f0 := HW.out.frozen (k * 2)
        have c1 : wr.cell? ⟨b, k * 2 + 1, none⟩ = some (.int .i64 ((l[k]?.getD (0, 0)).2)) := by rw [HW.out.cell (by omega), u1, v1]
        have f1 := HW.out.frozen (k * 2 + 1)
        clear u0 v0 u1 v1
        go_wp2
        go_roundw
        case rel =>
          have hch : ∀ (u : World) (o : Nat) (v : Value), Chg (fun b' => n ≠ 0 ∧ blkOf (some ⟨b, 0, none⟩) = some b') u (u.setCell ⟨b, o, none⟩ v) := fun u o v =>
            (Chg.setCell (p := ⟨b, o, none⟩) v).mono fun i e => ⟨hn, by simp [blkOf, e]⟩
          refine ⟨k + 1, _, by omega, by go_num, congrArg (Value.int .i64) (by omega), ((HW.out.set (k * 2) _).set (k * 2 + 1) _), fun j hj => ?_, fun j hj => ?_, ((HC.out.trans (hch _ _ _)).trans (hch _ _ _))⟩
          · by_cases e : j = k
            · subst e
              simp
            · rw [if_neg (by omega), if_neg (by omega), if_neg (by omega), if_neg (by omega)]
              exact HG.out j (by omega)
          · rw [if_neg (by omega), if_neg (by omega), if_neg (by omega), if_neg (by omega)]
            exact HG'.out j (by omega)
        case measure => simp [intOf]; omega
      · go_wp2
        go_ret
        obtain rfl : k = n := by omega
        refine ⟨rfl, ⟨(marksRatio_length _ _).symm, hc, hm, .inr ⟨b, g, rfl, HI.out.1, HI.out.2, HW.out, fun j hj => ?_⟩⟩, HC.out⟩
        rw [marksRatio_get _ _ _ hj]
        exact HG.out j hj

theorem heldRatioS_new (w : World) (ao : Option Addr) (n cap : Nat) (x : Int) (ha : Ratios w ao n cap (marksRatio x n)) (h0 : 0 ≤ x) (h1 : x + 2 * (n : Int) ≤ 4611686018427387904) :
    Calls Try.prog 21 #[.slice ao n cap, .int .i64 x] w fun e w' => e = .returned (.int .i64 (x + 2 * (n : Int))) ∧ New w w' := by
  have HA := Lib.hid ha; clear ha
  have hm := HA.out.2.2.1
  go_enter Try.func21, Try.ntmps21
  go_wp2
  go_loopw [1, 5] (fun y i wr => ∃ k : Nat, k ≤ n ∧ i = .int .i64 k ∧ y = .int .i64 (x + 2 * (k : Int)) ∧ New w wr) (fun _ i _ => n - (intOf i).toNat)
  case atStart => exact ⟨0, Nat.zero_le _, rfl, by simp, New.refl _⟩
  case round =>
    obtain ⟨k, hk, rfl, rfl, hnw⟩ := hrel
    have NW := Lib.hid hnw; clear hnw
    by_cases hlt : k < n
    · obtain ⟨b, o, rfl, c0, c1⟩ := (HA.out.new NW.out).2.2.2.1 k hlt
      rw [marksRatio_get _ _ _ hlt] at c0 c1
      simp only at c0 c1
      go_wp2
      go_roundw
      case rel => exact ⟨k + 1, by omega, by go_num, congrArg (Value.int .i64) (by omega), NW.out⟩
      case measure => simp [intOf]; omega
    · go_wp2
      go_ret
      obtain rfl : k = n := by omega
      exact ⟨rfl, NW.out⟩

theorem Try.infoRowRatio : (Try.prog.info? 58).map (fun i => (i.zero, i.size, i.bytes)) = some (some (.agg #[.int .i64 0, .int .i64 0]), 2, 16) := by kernel_rfl

theorem run_makeRatio (hS : Try.prog.underlying 35 = some (.slice 58)) {n : Nat} (hn : n ≤ 1048576) (w : World) :
    (Instr.makeSlice 35 (.int .i64 (n : Int)) (.int .i64 (n : Int))).run Try.prog w = .ok (.slice (some ⟨w.heap.size, 0, none⟩) n n) (w.alloc (.cells (madeCells #[.int .i64 0, .int .i64 0] (n * 2)) 58)) := by
  obtain ⟨i, hi, hzz⟩ := Option.map_eq_some_iff.1 Try.infoRowRatio
  simp only [Prod.mk.injEq] at hzz
  obtain ⟨hz, hs, hb⟩ := hzz
  have hr := run_make (P := Try.prog) w 35 58 i _ hS hi hz .i64 .i64 n n (by omega) (Int.le_refl _) (by rw [hb]; omega) (by omega)
  rw [hs] at hr
  simp only [Int.toNat_natCast] at hr
  exact hr
theorem rowIs_madeRatio (w : World) (n : Nat) (t : TypeId) : ∃ f, (w.alloc (.cells (madeCells #[.int .i64 0, .int .i64 0] (n * 2)) t)).rowIs w.heap.size t (n * 2) f :=
  ⟨fun j => (madeCells #[.int .i64 0, .int .i64 0] (n * 2))[j]?.getD undef, _, heap_alloc_new _ _, size_madeCells _ _, fun i hi => by
    simp [Array.getElem?_eq_getElem (show i < (madeCells #[.int .i64 0, .int .i64 0] (n * 2)).size by rw [size_madeCells]; exact hi)]⟩

end Go.Proofs.Ytlhpkpfnaepgbaa
