/- GroupsOf: the program's leaders. -/
import Derived.Test.YtlhpkpfnaepgbaaGrM
import Derived.Test.YtlhpkpfnaepgbaaJoi
namespace Go.Proofs.Ytlhpkpfnaepgbaa
open Go.RowKit Go.IntWalk

/-- The joins as pairs of indices. -/
def jP (L : List (List Int)) : List (Nat × Nat) := L.map fun l => ((l[0]?.getD (0 : Int)).toNat, (l[1]?.getD (0 : Int)).toNat)
theorem jP_get {L : List (List Int)} {k : Nat} (hk : k < L.length) : (jP L)[k]?.getD (0, 0) = (((L[k]?.getD [])[0]?.getD (0 : Int)).toNat, ((L[k]?.getD [])[1]?.getD (0 : Int)).toNat) := by
  unfold jP
  rw [List.getElem?_map, List.getElem?_eq_getElem hk]
  rfl
theorem jP_length (L : List (List Int)) : (jP L).length = L.length := by unfold jP; rw [List.length_map]
theorem jok_parts {t : Nat} {l : List Int} (h : jokB t l = true) : l.length = 2 ∧ (0 : Int) ≤ l[0]?.getD 0 ∧ l[0]?.getD 0 < (t : Int) ∧ (0 : Int) ≤ l[1]?.getD 0 ∧ l[1]?.getD 0 < (t : Int) := by
  unfold jokB at h
  rw [Bool.and_eq_true, Bool.and_eq_true] at h
  have h1 := of_decide_eq_true h.1.1
  have h2 := allB_iff.1 h.1.2
  have a := h2 0 (by omega)
  have b := h2 1 (by omega)
  exact ⟨h1, a.1, by omega, b.1, by omega⟩
theorem jnB_row {t k : Nat} {L : List (List Int)} (h : jnB t L = true) (hk : k < L.length) : jokB t (L[k]?.getD []) = true := by
  unfold jnB at h
  rw [Bool.and_eq_true, List.all_eq_true] at h
  rw [List.getElem?_eq_getElem hk]
  exact h.2 _ (List.getElem_mem hk)
theorem jnB_few {t : Nat} {L : List (List Int)} (h : jnB t L = true) : L.length ≤ 15 := by
  unfold jnB at h
  rw [Bool.and_eq_true] at h
  exact of_decide_eq_true h.1

theorem wpList_value_asG {P : Program} {ops : Array Oper} {rest : List Oper} {o : Oper} {a : Act} {w : World} {Q : Exit → Act → World → Prop} (hgd : o.guard = none) (v : Value) (hr : (execOp a.eval o).run P w = .ok (.value v) w)
    (h : wpList P ops Q rest (a.put o.dst v) w) : wpList P ops Q (o :: rest) a w :=
  wpList_plain hgd fun _ hK => by
    unfold Oper.wp
    simp only [hr]
    exact hK _ _ h

theorem rowA {p : Nat × Nat} {g : Nat → Nat} {r z : Nat} (h : unite p g r = z) (j : Nat) :
    (if j = r then Value.int .i64 ((z : Nat) : Int) else .int .i64 (((if j < r then unite p g j else g j : Nat)) : Int)) = .int .i64 (((if j < r + 1 then unite p g j else g j : Nat)) : Int) := by
  by_cases q : j = r
  · subst q; rw [if_pos rfl, if_pos (by omega), h]
  · rw [if_neg q]
    by_cases q2 : j < r
    · rw [if_pos q2, if_pos (by omega)]
    · rw [if_neg q2, if_neg (by omega)]
theorem rowB {p : Nat × Nat} {g : Nat → Nat} {r : Nat} (h : unite p g r = g r) (j : Nat) :
    Value.int .i64 (((if j < r then unite p g j else g j : Nat)) : Int) = .int .i64 (((if j < r + 1 then unite p g j else g j : Nat)) : Int) := by
  by_cases q : j = r
  · subst q; rw [if_neg (by omega), if_pos (by omega), h]
  · by_cases q2 : j < r
    · rw [if_pos q2, if_pos (by omega)]
    · rw [if_neg q2, if_neg (by omega)]

theorem zeros6 (w : World) (t : TypeId) : (w.alloc (.cells #[.int .i64 0, .int .i64 0, .int .i64 0, .int .i64 0, .int .i64 0, .int .i64 0] t)).rowIs w.heap.size t 6 (fun _ => .int .i64 0) :=
  World.rowIs_alloc w #[.int .i64 0, .int .i64 0, .int .i64 0, .int .i64 0, .int .i64 0, .int .i64 0] t (fun _ => .int .i64 0) (fun i hi => by
    have hi : i < 6 := hi
    have : i = 0 ∨ i = 1 ∨ i = 2 ∨ i = 3 ∨ i = 4 ∨ i = 5 := by omega
    rcases this with rfl | rfl | rfl | rfl | rfl | rfl <;> rfl)

/-- The array of the leaders' values. -/
def ldV (f : Nat → Nat) : Value := .agg #[.int .i64 (f 0 : Nat), .int .i64 (f 1 : Nat), .int .i64 (f 2 : Nat), .int .i64 (f 3 : Nat), .int .i64 (f 4 : Nat), .int .i64 (f 5 : Nat)]
theorem leadP_lt (J : List (Nat × Nat)) {i : Nat} (h : i < 6) : leadP J i < 6 := by have := (leadP_ok J).le i; omega

set_option maxRecDepth 100000 in
set_option maxHeartbeats 4000000 in
theorem leadersOf_any (w : World) (ab : Option Addr) (m cb t : Nat) (L : List (List Int)) (hb : IntSS w ab m cb L) (hj : jnB t L = true) (ht : t ≤ 6) :
    Calls Try.prog 31 #[.slice ab m cb] w fun e w' => e = .returned (ldV (leadP (jP L))) ∧ New w w' := by
  have HN := Lib.hid hb.1
  have hm : m ≤ 15 := by have := jnB_few hj; have := HN.out; omega
  have HB := Lib.hid hb; clear hb
  have HJ := Lib.hid hj; clear hj
  go_enter Try.func31, Try.ntmps31
  go_wp2_with fail
  go_loopw [11] (fun i wr => ∃ (k : Nat) (f : Nat → Value), k ≤ 6 ∧ i = .int .i64 k ∧ wr.rowIs (w.heap.size + 1) 53 6 f ∧ wr.rowIs w.heap.size 53 6 (fun _ => .int .i64 0) ∧ (∀ j, j < k → f j = .int .i64 ((j : Nat) : Int)) ∧ (∀ j, k ≤ j → j < 6 → f j = .int .i64 0) ∧ New w wr) (fun i _ => 6 - (intOf i).toNat)
  case atStart =>
    refine ⟨0, fun _ => .int .i64 0, Nat.zero_le _, rfl, ?_, (zeros6 w _).alloc _, fun j hj => absurd hj (Nat.not_lt_zero _), fun _ _ _ => rfl, (by repeat (first | with_reducible exact New.refl _ | with_reducible assumption | refine New.drewN ?_ _ | refine New.drew ?_ | refine New.alloc ?_ _ | refine New.setCell ?_ (by first | omega | (simp; omega) | (simp; done)) _ | (refine New.trans ?_ (by assumption))))⟩
    have q := zeros6 (w.alloc (.cells #[.int .i64 0, .int .i64 0, .int .i64 0, .int .i64 0, .int .i64 0, .int .i64 0] 53)) 53
    simpa only [World.size_alloc] using q
  case round =>
    obtain ⟨k, f, hk, rfl, hrow, hres, hf, hz, hnew⟩ := hrel
    have HR := Lib.hid hrow; clear hrow
    have HF := Lib.hid hf; clear hf
    have HZ := Lib.hid hz; clear hz
    have HX := Lib.hid hres; clear hres
    have NW := Lib.hid hnew; clear hnew
    by_cases hlt : k < 6
    · have hd : wr.cell? ⟨w.heap.size + 1, k, none⟩ = some (.int .i64 0) := by rw [HR.out.cell hlt, HZ.out k (Nat.le_refl _) hlt]
      have hfz := HR.out.frozen k
      go_wp2
      go_roundw
      case rel =>
        refine ⟨k + 1, _, by omega, by go_num, HR.out.set k _, HX.out.setOther (by simp) _, fun j hj => ?_, fun j h1 h2 => ?_, NW.out.setCell (by simp) _⟩
        · by_cases e : j = k
          · simp [e]
          · simp only [e, if_false]; exact HF.out j (by omega)
        · have e : ¬ j = k := by omega
          simp only [e, if_false]; exact HZ.out j (by omega) h2
      case measure => simp [intOf]; omega
    · obtain rfl : k = 6 := by omega
      go_wp2_with fail
      obtain ⟨w2, rfl⟩ : ∃ u : World, u = wr := ⟨_, rfl⟩
      go_loopw [20] (fun i wr => ∃ k : Nat, k ≤ m ∧ i = .int .i64 k ∧ wr.rowIs (w.heap.size + 1) 53 6 (fun j => .int .i64 ((leadP ((jP L).take k) j : Nat) : Int)) ∧ wr.rowIs w.heap.size 53 6 (fun _ => .int .i64 0) ∧ New w wr) (fun i _ => m - (intOf i).toNat)
      case atStart => exact ⟨0, Nat.zero_le _, rfl, HR.out.congr fun j hj => by rw [HF.out j hj]; rfl, HX.out, NW.out⟩
      case round =>
        obtain ⟨k, hk, rfl, hrow, hres, hnew⟩ := hrel
        have HR2 := Lib.hid hrow; clear hrow
        have HX2 := Lib.hid hres; clear hres
        have NW2 := Lib.hid hnew; clear hnew
        by_cases hlt : k < m
        · have KL := Lib.hid (show k < L.length by have := HN.out; omega)
          have JP := Lib.hid (show (jP L)[k]?.getD (0, 0) = _ from jP_get KL.out)
          have jk := jok_parts (jnB_row HJ.out KL.out)
          obtain ⟨b, o, a, n2, c, rfl, hc, hi⟩ := (HB.out.new NW2.out).2.2.2.1 k hlt
          obtain ⟨l, hl⟩ : ∃ l, l = L[k]?.getD [] := ⟨_, rfl⟩
          rw [← hl] at jk hi
          have JQ := Lib.hid (show (jP L)[k]?.getD (0, 0) = ((l[0]?.getD (0 : Int)).toNat, (l[1]?.getD (0 : Int)).toNat) by rw [JP.out, hl])
          clear hl JP
          obtain ⟨jl, j0, j1, j2, j3⟩ := jk
          have hn2 : n2 = 2 := by rw [hi.1]; exact jl
          subst hn2
          obtain ⟨b1, o1, rfl, x0, _⟩ := hi.at (j := 0) (by omega)
          obtain ⟨b2, o2, eb, x1, _⟩ := hi.at (j := 1) (by omega)
          cases eb
          rw [Nat.add_zero] at x0
          obtain ⟨x, hx⟩ : ∃ x : Nat, l[0]?.getD (0 : Int) = x := ⟨(l[0]?.getD (0 : Int)).toNat, by omega⟩
          obtain ⟨y, hy⟩ : ∃ y : Nat, l[1]?.getD (0 : Int) = y := ⟨(l[1]?.getD (0 : Int)).toNat, by omega⟩
          rw [hx] at x0 j0 j1 JQ
          rw [hy] at x1 j2 j3 JQ
          have x6 : x < 6 := by omega
          have y6 : y < 6 := by omega
          have y7 : (y : Int) < 6 := by omega
          have x7 : (x : Int) < 6 := by omega
          have y8 : (0 : Int) ≤ (y : Int) := by omega
          have x8 : (0 : Int) ≤ (x : Int) := by omega
          clear hx hy hi jl j0 j1 j2 j3
          have cx := HR2.out.cell (i := x) x6
          have cy := HR2.out.cell (i := y) y6
          obtain ⟨g, hg⟩ : ∃ g, g = leadP ((jP L).take k) := ⟨_, rfl⟩
          have HR3 := Lib.hid (show wr.rowIs (w.heap.size + 1) 53 6 (fun j => .int .i64 ((g j : Nat) : Int)) by rw [hg]; exact HR2.out)
          simp only [← hg] at cx cy
          have HG := Lib.hid hg; clear hg
          go_wp2_with fail
          have d0 := HR3.out.cell (i := 0) (by omega)
          have d1 := HR3.out.cell (i := 1) (by omega)
          have d2 := HR3.out.cell (i := 2) (by omega)
          have d3 := HR3.out.cell (i := 3) (by omega)
          have d4 := HR3.out.cell (i := 4) (by omega)
          have d5 := HR3.out.cell (i := 5) (by omega)
          go_region
          obtain ⟨w3, hw3⟩ : ∃ u : World, u = wr.drew := ⟨_, rfl⟩
          rw [← hw3]
          have ND := Lib.hid (show New wr w3 by rw [hw3]; exact (by repeat (first | with_reducible exact New.refl _ | with_reducible assumption | refine New.drewN ?_ _ | refine New.drew ?_ | refine New.alloc ?_ _ | refine New.setCell ?_ (by first | omega | (simp; omega) | (simp; done)) _ | (refine New.trans ?_ (by assumption)))))
          clear hw3
          have d0 := ND.out.cell d0
          have d1 := ND.out.cell d1
          have d2 := ND.out.cell d2
          have d3 := ND.out.cell d3
          have d4 := ND.out.cell d4
          have d5 := ND.out.cell d5
          have HR4 := Lib.hid (HR3.out.of_block (ND.out.block _ HR3.out.lt))
          have HX4 := Lib.hid (HX2.out.of_block (ND.out.block _ HX2.out.lt))
          clear x0 x1 cx cy
          go_wp2_with fail
          clear d0 d1 d2 d3 d4 d5
          obtain ⟨w4, rfl⟩ : ∃ u : World, u = w3 := ⟨_, rfl⟩
          go_loopw [35] (fun i wq => ∃ r : Nat, r ≤ 6 ∧ i = .int .i64 r ∧ wq.rowIs (w.heap.size + 1) 53 6 (fun j => .int .i64 (((if j < r then unite (x, y) g j else g j : Nat)) : Int)) ∧ wq.rowIs w.heap.size 53 6 (fun _ => .int .i64 0) ∧ New w wq) (fun i _ => 6 - (intOf i).toNat)
          case atStart => exact ⟨0, Nat.zero_le _, rfl, HR4.out.congr fun j _ => by simp, HX4.out, NW2.out.trans ND.out⟩
          case round =>
            obtain ⟨r, hr, rfl, hrow, hres, hnew⟩ := hrel
            have HR5 := Lib.hid hrow; clear hrow
            have HX5 := Lib.hid hres; clear hres
            have NW5 := Lib.hid hnew; clear hnew
            by_cases hlt6 : r < 6
            · have cr := HR5.out.cell (i := r) hlt6
              have fr := HR5.out.frozen r
              simp only [Nat.lt_irrefl, if_false] at cr
              have rc : r = 0 ∨ r = 1 ∨ r = 2 ∨ r = 3 ∨ r = 4 ∨ r = 5 := by omega
              have hwr : IntKind.i64.wrap ((r : Int) + 1) = (r : Int) + 1 := i64_in _ (by omega)
              by_cases gxy : g x ≤ g y
              · have hmx : max (g x : Int) (g y : Int) = (g y : Int) := by omega
                have hmn : min (g x : Int) (g y : Int) = (g x : Int) := by omega
                by_cases e : g r = g y
                · have U := Lib.hid (show unite (x, y) g r = g x by unfold unite; simp only; rw [Nat.max_eq_right gxy, Nat.min_eq_left gxy, if_pos e])
                  have e' : (g r : Int) = (g y : Int) := by omega
                  go_wp2_with ((with_reducible (show wpList _ _ _ ({ dst := _, op := .index _ _ _, type := _, pos := _, after := _, guard := _ } :: _) _ _)); go_must (refine wpList_value_asG rfl (.int .i64 ((g r : Nat) : Int)) (by rcases rc with rfl | rfl | rfl | rfl | rfl | rfl <;> kernel_rfl) ?_))
                  all_goals (refine ⟨⟨_, _, _, ⟨r + 1, by omega, by go_num, (HR5.out.set r _).congr fun j _ => rowA U.out j, HX5.out.setOther (by simp) _, NW5.out.setCell (by simp) _⟩, rfl, rfl, rfl⟩, by simp [intOf]; omega⟩)
                · have U := Lib.hid (show unite (x, y) g r = g r by unfold unite; simp only; rw [Nat.max_eq_right gxy, if_neg e])
                  have e' : ¬ (g r : Int) = (g y : Int) := by omega
                  go_wp2_with ((with_reducible (show wpList _ _ _ ({ dst := _, op := .index _ _ _, type := _, pos := _, after := _, guard := _ } :: _) _ _)); go_must (refine wpList_value_asG rfl (.int .i64 ((g r : Nat) : Int)) (by rcases rc with rfl | rfl | rfl | rfl | rfl | rfl <;> kernel_rfl) ?_))
                  all_goals (refine ⟨⟨_, _, _, ⟨r + 1, by omega, by go_num, HR5.out.congr fun j _ => rowB U.out j, HX5.out, NW5.out⟩, rfl, rfl, rfl⟩, by simp [intOf]; omega⟩)
              · have gyx : g y ≤ g x := by omega
                have hmx : max (g x : Int) (g y : Int) = (g x : Int) := by omega
                have hmn : min (g x : Int) (g y : Int) = (g y : Int) := by omega
                by_cases e : g r = g x
                · have U := Lib.hid (show unite (x, y) g r = g y by unfold unite; simp only; rw [Nat.max_eq_left gyx, Nat.min_eq_right gyx, if_pos e])
                  have e' : (g r : Int) = (g x : Int) := by omega
                  go_wp2_with ((with_reducible (show wpList _ _ _ ({ dst := _, op := .index _ _ _, type := _, pos := _, after := _, guard := _ } :: _) _ _)); go_must (refine wpList_value_asG rfl (.int .i64 ((g r : Nat) : Int)) (by rcases rc with rfl | rfl | rfl | rfl | rfl | rfl <;> kernel_rfl) ?_))
                  refine ⟨⟨_, _, _, _, _, _, _, _, _, _, _, _, _, _, _, _, _, ⟨r + 1, by omega, by go_num, (HR5.out.set r _).congr fun j _ => rowA U.out j, HX5.out.setOther (by simp) _, NW5.out.setCell (by simp) _⟩, rfl⟩, by simp [intOf]; omega⟩
                · have U := Lib.hid (show unite (x, y) g r = g r by unfold unite; simp only; rw [Nat.max_eq_left gyx, if_neg e])
                  have e' : ¬ (g r : Int) = (g x : Int) := by omega
                  go_wp2_with ((with_reducible (show wpList _ _ _ ({ dst := _, op := .index _ _ _, type := _, pos := _, after := _, guard := _ } :: _) _ _)); go_must (refine wpList_value_asG rfl (.int .i64 ((g r : Nat) : Int)) (by rcases rc with rfl | rfl | rfl | rfl | rfl | rfl <;> kernel_rfl) ?_))
                  refine ⟨⟨_, _, _, _, _, _, _, _, _, _, _, _, _, _, _, _, _, ⟨r + 1, by omega, by go_num, HR5.out.congr fun j _ => rowB U.out j, HX5.out, NW5.out⟩, rfl⟩, by simp [intOf]; omega⟩
            · obtain rfl : r = 6 := by omega
              go_wp2_with fail
              go_roundw
              case rel =>
                refine ⟨k + 1, by omega, by go_num, HR5.out.congr fun j hj => ?_, HX5.out, NW5.out⟩
                rw [if_pos hj, leadP_take (by rw [jP_length]; exact KL.out), JQ.out, HG.out]; simp
              case measure => simp [intOf]; omega
        · obtain rfl : k = m := by omega
          have HR6 := Lib.hid (show wr.rowIs (w.heap.size + 1) 53 6 (fun j => .int .i64 ((leadP (jP L) j : Nat) : Int)) from HR2.out.congr fun j _ => by rw [List.take_of_length_le (by rw [jP_length]; have := HN.out; omega)])
          have d0 := HR6.out.cell (i := 0) (by omega)
          have d1 := HR6.out.cell (i := 1) (by omega)
          have d2 := HR6.out.cell (i := 2) (by omega)
          have d3 := HR6.out.cell (i := 3) (by omega)
          have d4 := HR6.out.cell (i := 4) (by omega)
          have d5 := HR6.out.cell (i := 5) (by omega)
          have z0 := HX2.out.cell (i := 0) (by omega)
          have z1 := HX2.out.cell (i := 1) (by omega)
          have z2 := HX2.out.cell (i := 2) (by omega)
          have z3 := HX2.out.cell (i := 3) (by omega)
          have z4 := HX2.out.cell (i := 4) (by omega)
          have z5 := HX2.out.cell (i := 5) (by omega)
          have f0 := HX2.out.frozen 0
          have f1 := HX2.out.frozen 1
          have f2 := HX2.out.frozen 2
          have f3 := HX2.out.frozen 3
          have f4 := HX2.out.frozen 4
          have f5 := HX2.out.frozen 5
          go_wp2_with fail
          refine bodyPost_ret (v := ldV (leadP (jP L))) (by simp [results, Try.results31, go_sem, z0, z1, z2, z3, z4, z5, ldV]) rfl ⟨rfl, ?_⟩
          exact (((((NW2.out.setCell (Nat.le_refl _) _).setCell (Nat.le_refl _) _).setCell (Nat.le_refl _) _).setCell (Nat.le_refl _) _).setCell (Nat.le_refl _) _).setCell (Nat.le_refl _) _
end Go.Proofs.Ytlhpkpfnaepgbaa
