/- Whether a number is in a list; whether there is an amount; the model's plan to one that is found. -/
import Derived.Test.YtjailklnagfglaaCountS
import Derived.Test.YtjailklnagfglaaAdd
namespace Go.Proofs.Ytjailklnagfglaa
open Go.RowKit

def hasB (x : Int) (l : List Int) (k : Nat) : Prop := ∀ j, j < k → l[j]?.getD 0 ≠ x
theorem mem_at {x : Int} {l : List Int} {k : Nat} (hk : k < l.length) (e : l[k]?.getD 0 = x) : x ∈ l := by
  rw [List.getElem?_eq_getElem hk] at e
  exact List.mem_iff_getElem.2 ⟨k, hk, by simpa using e⟩
theorem not_mem {x : Int} {l : List Int} (h : hasB x l l.length) : ¬ x ∈ l := fun hm => by
  obtain ⟨k, hk, e⟩ := List.mem_iff_getElem.1 hm
  exact h k hk (by rw [List.getElem?_eq_getElem hk]; simpa using e)

theorem l1Has_any (w : World) (aa : Option Addr) (n ca : Nat) (l : List Int) (x : Int) (ha : Ints w aa n ca l) :
    Calls Try.prog 46 #[.slice aa n ca, .int .i64 x] w fun e w' => e = .returned (.bool (decide (x ∈ l))) ∧ New w w' := by
  have L1 := Lib.hid ha.1
  have hm := ha.2.2.1
  have HA := Lib.hid ha; clear ha
  go_enter Try.func46, Try.ntmps46
  go_wp2
  go_loopw [9] (fun i wr => ∃ k : Nat, k ≤ n ∧ i = .int .i64 k ∧ New w wr ∧ hasB x l k) (fun i _ => n - (intOf i).toNat)
  case atStart => exact ⟨0, Nat.zero_le _, rfl, New.refl _, fun j hj => absurd hj (by omega)⟩
  case round =>
    obtain ⟨k, hk, rfl, hnw, hpre⟩ := hrel
    have NW := Lib.hid hnw; clear hnw
    have HP := Lib.hid hpre; clear hpre
    by_cases hlt : k < n
    · obtain ⟨b1, o1, rfl, g1, _⟩ := (HA.out.new NW.out).at hlt
      obtain ⟨y, hy⟩ : ∃ y, y = l[k]?.getD 0 := ⟨_, rfl⟩
      rw [← hy] at g1
      have HY := Lib.hid hy; clear hy
      by_cases he : y = x
      · subst he
        have hm2 := Lib.hid (mem_at (by have := L1.out; omega) HY.out.symm)
        go_wp2
        go_ret
        exact ⟨ret_bool (decide_eq_true hm2.out).symm, NW.out⟩
      · have hne : (y == x) = false := by simpa using he
        go_wp2
        go_roundw
        case rel =>
          refine ⟨k + 1, by omega, by go_num, NW.out, fun j hj => ?_⟩
          by_cases e : j = k
          · subst e; rw [← HY.out]; exact he
          · exact HP.out j (by omega)
        case measure => simp [intOf]; omega
    · obtain rfl : k = n := by omega
      have hno := Lib.hid (not_mem (by rw [← L1.out]; exact HP.out))
      go_wp2
      go_ret
      exact ⟨ret_bool (decide_eq_false hno.out).symm, NW.out⟩

theorem plAmount_any (w : World) (x : Int) : Calls Try.prog 45 #[.int .i64 x] w fun e w' => e = .returned (.bool (inB 0 60 x)) ∧ w = w' := by
  go_enter Try.func45, Try.ntmps45
  go_wp2_with fail
  refine (l1In_any x 0 60 _).mono ?_
  rintro e w1 ⟨rfl, rfl⟩
  go_wp2
  go_ret
  exact ⟨rfl, rfl⟩

theorem flat_cons (p : Int × Int) (l : List (Int × Int)) : flat (p :: l) = [.int .i64 p.1, .int .i64 p.2] ++ flat l := rfl
theorem flat_ones (l : List (Int × Int)) : ∀ u ∈ flat l, u.oneCell' = true := fun u hu => by
  unfold flat at hu
  rw [List.mem_flatMap] at hu
  obtain ⟨p, _, hp⟩ := hu
  simp at hp
  rcases hp with rfl | rfl <;> rfl

set_option maxRecDepth 100000 in
set_option maxHeartbeats 4000000 in
theorem plWay_any (w w0 : World) (R base : Nat) (S H : List Int) (L : List Node) (O : List Nat) (va vf vm vr vo : Value) (P Q : Nat → Value) (k : Nat) (hr : Reach w0 w R base S L O va vf vm vr vo P Q) (hf : Found S H L) (hk : k < L.length) (hb : L.length ≤ 4000) :
    Calls Try.prog 43 #[.pointer (some ⟨R, 0, none⟩), .int .i64 k] w fun e w' => ∃ ao n cap, e = .returned (.slice ao n cap) ∧ OwnP w' w.heap.size w'.heap.size ao n cap (wayN L k) ∧ New w w' := by
  obtain ⟨g1, cp1, e1, _, _, _, x1⟩ := own_read (hr.box.own (r1 vf L) (by simp)) (show 0 < L.length by omega)
  obtain ⟨g2, cp2, e2, _, _, _, x2⟩ := own_read (hr.box.own (r2 vm L) (by simp)) (show 0 < L.length by omega)
  have c1 : w.cell? ⟨R, 1, none⟩ = some vf := hr.box.cell (r1 vf L) (by simp)
  have c2 : w.cell? ⟨R, 2, none⟩ = some vm := hr.box.cell (r2 vm L) (by simp)
  have e1' : vf = .slice (some ⟨g1, 0, none⟩) L.length cp1 := e1
  have e2' : vm = .slice (some ⟨g2, 0, none⟩) L.length cp2 := e2
  rw [e1'] at c1
  rw [e2'] at c2
  have X1 := Lib.hid (show ∀ j, j < L.length → w.cell? ⟨g1, j, none⟩ = some (.int .i64 (L[j]?.getD dN).fr) from fun j hj => (x1 j _ (by show j < L.length * 1; omega) (by show (frL L)[j]? = _; unfold frL; rw [List.getElem?_map, List.getElem?_eq_getElem hj]; rfl)).1)
  have X2 := Lib.hid (show ∀ j, j < L.length → w.cell? ⟨g2, j * 2, none⟩ = some (.int .i64 (L[j]?.getD dN).mv.1) ∧ w.cell? ⟨g2, j * 2 + 1, none⟩ = some (.int .i64 (L[j]?.getD dN).mv.2) from fun j hj => by
    have hl : j < (L.map (·.mv)).length := by simpa using hj
    have q := flat_get (L.map (·.mv)) j hl
    have em : (L.map (·.mv))[j]?.getD (0, 0) = (L[j]?.getD dN).mv := by rw [List.getElem?_map, List.getElem?_eq_getElem hj]; rfl
    rw [em] at q
    exact ⟨(x2 (j * 2) _ (by show j * 2 < L.length * 2; omega) q.1).1, (x2 (j * 2 + 1) _ (by show j * 2 + 1 < L.length * 2; omega) q.2).1⟩)
  have HF := Lib.hid hf
  have WL := Lib.hid (wayN_small hf hk)
  obtain ⟨T, hT⟩ : ∃ T, T = L.length := ⟨_, rfl⟩
  rw [← hT] at c1 c2 hb hk
  have HT := Lib.hid hT
  obtain ⟨i0, hi, hz0, hz1, hz2⟩ := info_parts Try.infoMove
  have C1 := Lib.hid c1
  have C2 := Lib.hid c2
  have zR : R < w.heap.size := World.block_lt_of_cell? _ _ c1
  have K0 := Lib.hid (show ∃ q, q = k from ⟨_, rfl⟩)
  obtain ⟨k0, hk0⟩ : ∃ q, q = k := ⟨_, rfl⟩
  have HK := Lib.hid hk0
  clear hr hf hT e1 e1' e2 e2' x1 x2 c1 c2 K0 hk0
  go_enter Try.func43, Try.ntmps43
  go_wp2
  go_loopw [1, 5] (fun i v wr => ∃ (j : Nat) (out : List (Int × Int)), i = .int .i64 j ∧ j < T ∧ wayN L j ++ out = wayN L k0 ∧ New w wr ∧ wr.ownsRow w.heap.size 74 2 v out.length (flat out) ∧ (out = [] → v = .slice none 0 0)) (fun i _ _ => (intOf i).toNat)
  case atStart => exact ⟨k, [], rfl, hk, by rw [List.append_nil, HK.out], New.refl _, World.ownsRow_nil _ _ _ _, fun _ => rfl⟩
  case round =>
    obtain ⟨j, out, rfl, hj, hway, hnw, how, hnil⟩ := hrel
    have WY := Lib.hid hway; clear hway
    have NW := Lib.hid hnw; clear hnw
    have OW := Lib.hid how; clear how
    have c1 := NW.out.cell C1.out
    have c2 := NW.out.cell C2.out
    have y1 := NW.out.cell (X1.out j (by have := HT.out; omega))
    have jI : (j : Int) < (T : Int) := by omega
    have zw := NW.out.size
    by_cases h0 : j = 0
    · subst h0
      have hr0 : (L[0]?.getD dN).fr = -1 := by rw [HF.out.root]
      rw [hr0] at y1
      have HW := Lib.hid (show out = wayN L k0 from by have q := WY.out; rw [wayN_root HF.out] at q; simpa using q)
      obtain ⟨sa, sc, rfl, o1⟩ := OwnP.of_row OW.out
      have O1 := Lib.hid ((show ∀ l, out = l → OwnP wr w.heap.size wr.heap.size sa out.length sc l from fun l e => by subst e; exact o1) _ (by rw [HW.out, HK.out]))
      clear o1 hnil
      go_wp2
      go_ret
      exact ⟨_, _, _, rfl, O1.out, NW.out⟩
    · obtain ⟨i, hfr, hij, _, _⟩ := HF.out.back j (by omega) (by have := HT.out; omega)
      rw [hfr] at y1
      have y2 := (NW.out.cell (X2.out j (by have := HT.out; omega)).1)
      have y3 := (NW.out.cell (X2.out j (by have := HT.out; omega)).2)
      obtain ⟨p, hp⟩ : ∃ p, p = (L[j]?.getD dN).mv := ⟨_, rfl⟩
      rw [← hp] at y2 y3
      obtain ⟨f, t⟩ := p
      simp only at y2 y3
      have HW := Lib.hid (show wayN L i ++ ((f, t) :: out) = wayN L k0 from by
        rw [← WY.out]
        have q : wayN L j = wayN L i ++ [(f, t)] := by
          unfold wayN
          rw [wayF, hfr, if_neg (by omega), ← hp]
          simp only [Int.toNat_natCast]
          rw [wayF_fuel HF.out i j (i + 1) (by have := HT.out; omega) hij (by omega)]
        rw [q, List.append_assoc]
        rfl)
      have ol := Lib.hid (show out.length ≤ 4000 from by
        have q := congrArg List.length WY.out
        rw [List.length_append] at q
        have w3 := WL.out
        have := HK.out
        subst this
        omega)
      clear hp hfr
      have hj0 : ¬ (j : Int) = 0 := by omega
      have HJ0 := Lib.hid hj0; clear hj0 h0
      have iI0 : (0 : Int) ≤ (i : Int) := by omega
      go_upto_region 4 with fail
      by_cases he : out = []
      · have hv := hnil he
        subst hv
        subst he
        clear hnil
        have zg1 : g1 < wr.heap.size := World.block_lt_of_cell? _ _ y1
        have zRw : R < wr.heap.size := by omega
        have lit := World.ownsRow_lit (base := w.heap.size) (e := 74) (size := 2) wr #[.int .i64 f, .int .i64 t] 1 zw (by unfold maxLen; omega) rfl
        have LIT := Lib.hid lit; clear lit
        go_wp2
        go_roundw
        case rel => exact ⟨i, [(f, t)], rfl, by omega, HW.out, NW.out.alloc _, LIT.out, fun e => by cases e⟩
        case measure => simp [intOf]; omega
      · obtain ⟨sa, sc, hv⟩ := own_slice' OW.out
        subst hv
        obtain ⟨og, ogc, oe, _, _, _, ox⟩ := own_read OW.out (by have := List.length_pos_iff.2 he; omega)
        have hpos := List.length_pos_iff.2 he
        cases oe
        have FL := Lib.hid (flat_length out)
        have CX := Lib.hid (show ∀ q u, (flat out)[q]? = some u → wr.cell? ⟨og, q, none⟩ = some u from fun q u hu => by
          have hq : q < out.length * 2 := by rw [← FL.out]; exact (List.getElem?_eq_some_iff.1 hu).1
          exact (ox q u hq hu).1)
        obtain ⟨on, hon⟩ : ∃ on, on = out.length := ⟨_, rfl⟩
        rw [← hon] at hpos
        have ON := Lib.hid hon
        have on4 : on ≤ 4000 := by rw [hon]; exact ol.out
        clear hnil ox hon he
        rw [← ON.out]
        have zg1 : g1 < wr.heap.size := World.block_lt_of_cell? _ _ y1
        have zRw : R < wr.heap.size := by omega
        have LIT := Lib.hid (World.ownsRow_lit (base := w.heap.size) (e := 74) (size := 2) wr #[.int .i64 f, .int .i64 t] 1 zw (by unfold maxLen; omega) rfl)
        go_upto_region 3 with (at_builtin; go_loud (refine wpList_append_lies _ (by rfl) (.tmp 28) (.tmp 29) 35 (by rfl) w.heap.size 74 i0 _ 2 16 Try.underlying35 hi hz0 hz1 hz2 rfl (by decide) (.slice (some ⟨wr.heap.size, 0, none⟩) 1 1) 1 [.int .i64 f, .int .i64 t] (by rfl) LIT.out ⟨og, 0, none⟩ on _ (flat out) (by rfl) (by rw [FL.out, ON.out]) (fun q u hu => by rw [Addr.add_mid, Nat.zero_add]; exact World.cell_kept (CX.out q u hu)) (flat_ones out) hpos (by unfold maxLen; omega) (by omega) (by simp; omega) _ rfl ?_); intro g cap w' ho hg hb' hlt')
        have nw' : New w w' := New.grown (w := wr.alloc (.cells #[.int .i64 f, .int .i64 t] 74)) (NW.out.alloc _) LIT.out (Nat.le_refl _) hg
        have q1 : w'.cell? ⟨R, 1, none⟩ = some (.slice (some ⟨g1, 0, none⟩) T cp1) := nw'.cell C1.out
        have q2 : w'.cell? ⟨g1, j, none⟩ = some (.int .i64 (i : Int)) := hg.cell (World.cell_kept y1) (by simp [Value.ownBlock]; omega)
        have N2 := Lib.hid nw'
        have HO := Lib.hid ho
        clear nw' ho hg hb' hlt' c1 c2 y1 y2 y3
        go_wp2
        go_roundw
        case rel =>
          have ho := HO.out
          exact ⟨i, (f, t) :: out, rfl, by omega, HW.out, N2.out, by rw [show ((f, t) :: out).length = 1 + on by rw [ON.out]; simp; omega]; exact ho, fun e => by cases e⟩
        case measure => simp [intOf]; omega
end Go.Proofs.Ytjailklnagfglaa
