/- The model's order of tanks by their floors. -/
import Derived.Test.YtlhpkpfnaepgbaaOrdM
import Derived.Test.YtlhpkpfnaepgbaaRows2b
import Derived.RegionTactic
import Derived.Laws.AppendOwnNone
namespace Go.Proofs.Ytlhpkpfnaepgbaa
open Go.RowKit Go.IntWalk

abbrev castL (O : List Nat) : List Int := O.map fun (j : Nat) => (j : Int)
theorem Ints.take {w : World} {ao : Option Addr} {n cap : Nat} {l : List Int} (h : Ints w ao n cap l) {k : Nat} (hk : k ≤ n) : Ints w ao k cap (l.take k) := by
  obtain ⟨h1, h2, h3, h4, h5⟩ := h
  refine ⟨by rw [List.length_take]; omega, by omega, by omega, fun j hj => ?_, h5⟩
  obtain ⟨b, o, e, hc⟩ := h4 j (by omega)
  refine ⟨b, o, e, ?_⟩
  rw [hc, List.getElem?_take, if_pos hj]
theorem Ints.drop {w : World} {b o n cap : Nat} {l : List Int} (h : Ints w (some ⟨b, o, none⟩) n cap l) {k : Nat} (hk : k ≤ n) : Ints w (some ⟨b, o + k, none⟩) (n - k) (cap - k) (l.drop k) := by
  obtain ⟨h1, h2, h3, h4, h5⟩ := h
  refine ⟨by rw [List.length_drop]; omega, by omega, by omega, fun j hj => ?_, fun e => by cases e⟩
  obtain ⟨b', o', e, hc⟩ := h4 (k + j) (by omega)
  cases e
  refine ⟨b, o + k, rfl, ?_⟩
  rw [Nat.add_assoc, hc, List.getElem?_drop]

theorem ownsRow_mono {w : World} {base base' : Nat} {e : TypeId} {size n : Nat} {v : Value} {xs : List Value} (h : w.ownsRow base e size v n xs) (hb : base' ≤ base) : w.ownsRow base' e size v n xs := by
  obtain ⟨h1, h2⟩ := h
  refine ⟨h1, ?_⟩
  rcases h2 with h2 | ⟨g, cap, cur, e1, e2, r⟩
  · exact .inl h2
  · exact .inr ⟨g, cap, cur, e1, by omega, r⟩
theorem ints_ones (A : List Int) : ∀ u ∈ A.map (Value.int .i64), u.oneCell' = true := fun u hu => by
  simp at hu; obtain ⟨z, _, rfl⟩ := hu; rfl

theorem l1OwnR_any (w : World) (aa : Option Addr) (n ca : Nat) (l : List Int) (ha : Ints w aa n ca l) (hn : n ≤ 1048576) :
    Calls Try.prog 58 #[.slice aa n ca] w fun e w' => ∃ v, e = .returned v ∧ w'.ownsRow w.heap.size 3 1 v n (l.map (Value.int .i64)) ∧ New w w' := by
  have HA := Lib.hid ha; clear ha
  go_enter Try.func58, Try.ntmps58
  obtain ⟨i0, hi, hz0, hz1, hz2⟩ := info_parts Try.infoInt
  have hown0 : (w.alloc (.cells #[] 3)).ownsRow w.heap.size 3 1 (.slice (some ⟨w.heap.size, 0, none⟩) 0 0) 0 [] := World.ownsRow_made _ _ _ (Nat.le_refl _) (by decide) rfl
  cases aa with
  | none =>
    obtain ⟨hl, h2, h3, h4, h5⟩ := HA.out
    obtain rfl := h5 rfl
    have h0 : n = 0 := by omega
    subst h0
    have hl0 : l = [] := List.eq_nil_of_length_eq_zero hl.symm
    clear hl h2 h3 h4 h5
    go_wp2_with (at_builtin; refine wpList_append_own_none rfl _ _ 43 rfl w.heap.size 3 i0 1 Try.underlying43 hi _ _ _ rfl hown0 rfl ?_)
    go_ret
    refine ⟨_, rfl, ?_, (by repeat (first | with_reducible exact New.refl _ | with_reducible assumption | refine New.drewN ?_ _ | refine New.drew ?_ | refine New.alloc ?_ _ | refine New.setCell ?_ (by first | omega | (simp; omega) | (simp; done)) _ | (refine New.trans ?_ (by assumption))))⟩
    rw [hl0]
    exact hown0
  | some ad =>
    go_wp2_with (at_builtin; refine wpList_append_own _ rfl _ _ 43 rfl w.heap.size 3 i0 (.int .i64 0) 1 8 Try.underlying43 hi hz0 hz1 hz2 rfl (by decide) _ _ _ rfl hown0 ad n ca (l.map (Value.int .i64)) rfl ?c0 ?c1 ?c2 ?c3 ?c4 ?c5 ?_)
    case c0 => simpa using HA.out.len.symm
    case c1 => exact (HA.out.new (by repeat (first | with_reducible exact New.refl _ | with_reducible assumption | refine New.drewN ?_ _ | refine New.drew ?_ | refine New.alloc ?_ _ | refine New.setCell ?_ (by first | omega | (simp; omega) | (simp; done)) _ | (refine New.trans ?_ (by assumption))))).source
    case c2 => intro u hu; simp at hu; obtain ⟨z, _, rfl⟩ := hu; rfl
    case c3 => unfold maxLen; omega
    case c4 => omega
    case c5 => simp
    intro v' w1 hown hgrow _
    have HO := Lib.hid (show w1.ownsRow w.heap.size 3 1 v' n (l.map (Value.int .i64)) by simpa using hown)
    have HG := Lib.hid (New.grown (w0 := w) (by repeat (first | with_reducible exact New.refl _ | with_reducible assumption | refine New.drewN ?_ _ | refine New.drew ?_ | refine New.alloc ?_ _ | refine New.setCell ?_ (by first | omega | (simp; omega) | (simp; done)) _ | (refine New.trans ?_ (by assumption)))) hown0 (Nat.le_refl _) hgrow); clear hgrow
    clear hown hown0
    go_wp2
    go_ret
    exact ⟨_, rfl, HO.out, HG.out⟩

set_option maxRecDepth 100000 in
theorem leOrder_any (w : World) (aa : Option Addr) (n ca : Nat) (T : List Tk) (ha : Tanks w aa n ca T) (hn : n ≤ 6) :
    Calls Try.prog 49 #[.slice aa n ca] w fun e w' => ∃ ao cap, e = .returned (.slice ao n cap) ∧ Own w' w.heap.size w'.heap.size ao n cap (ordL T) ∧ New w w' := by
  have HN := Lib.hid ha.1
  have HA := Lib.hid ha; clear ha
  obtain ⟨i0, hi, hz0, hz1, hz2⟩ := info_parts Try.infoInt
  go_enter Try.func49, Try.ntmps49
  go_wp2
  go_loopw [3, 10] (fun vo i wr => ∃ k : Nat, k ≤ n ∧ i = .int .i64 k ∧ New w wr ∧ wr.ownsRow w.heap.size 3 1 vo k ((castL (ordK (flT T) k)).map (Value.int .i64))) (fun _ i _ => n - (intOf i).toNat)
  case atStart => exact ⟨0, Nat.zero_le _, rfl, New.refl _, World.ownsRow_nil _ _ _ _⟩
  case round =>
    obtain ⟨k, hk, rfl, hnw, hro⟩ := hrel
    have zb := hnw.size
    have NW := Lib.hid hnw; clear hnw
    by_cases hlt : k < n
    · obtain ⟨b, o, rfl, g0, g1, g2⟩ := (HA.out.new NW.out).2.2.2.1 k hlt
      obtain ⟨f, ef⟩ : ∃ f, f = (T[k]?.getD (0, 0, 0)).2.1 := ⟨_, rfl⟩
      rw [← ef] at g1
      have EF := Lib.hid (show flT T k = f from ef.symm); clear ef
      obtain ⟨O, eO⟩ : ∃ O, O = ordK (flT T) k := ⟨_, rfl⟩
      have OL := Lib.hid (show O.length = k by rw [eO, ordK_length])
      have OX := Lib.hid (show ∀ j, j < k → O[j]?.getD 0 < k from fun j hj => by rw [eO]; exact ordK_lt hj)
      have OE := Lib.hid (show ordK (flT T) (k + 1) = insO (flT T) O k by rw [eO]; rfl)
      rw [← eO] at hro
      clear eO
      obtain ⟨oa, oc, e1, o1⟩ := Own.of_row hro
      have RO := Lib.hid hro; clear hro
      subst e1
      obtain ⟨p, hp⟩ : ∃ p, p = posO (flT T) O k := ⟨_, rfl⟩
      have hpk : p ≤ k := by rw [hp]; have := pos_le (flT T) O k; have := OL.out; omega
      have HP := Lib.hid hp; clear hp
      have OI := Lib.hid o1.ints; clear o1
      obtain ⟨a, ea⟩ : ∃ a, a = (T[k]?.getD (0, 0, 0)).1 := ⟨_, rfl⟩
      obtain ⟨u, eu⟩ : ∃ u, u = (T[k]?.getD (0, 0, 0)).2.2 := ⟨_, rfl⟩
      rw [← ea] at g0
      rw [← eu] at g2
      clear ea eu
      go_wp2
      obtain ⟨w1, hw1⟩ : ∃ x, x = wr.alloc (.cells #[.int .i64 a, .int .i64 f, .int .i64 u] 47) := ⟨_, rfl⟩
      rw [← hw1]
      have c1 : w1.cell? ⟨wr.heap.size, 1, none⟩ = some (.int .i64 f) := by rw [hw1]; simp [go_sem]
      have N1 := Lib.hid (show New wr w1 by rw [hw1]; exact (by repeat (first | with_reducible exact New.refl _ | with_reducible assumption | refine New.drewN ?_ _ | refine New.drew ?_ | refine New.alloc ?_ _ | refine New.setCell ?_ (by first | omega | (simp; omega) | (simp; done)) _ | (refine New.trans ?_ (by assumption)))))
      clear hw1 g0 g1 g2
      obtain ⟨B, hB⟩ : ∃ B, B = wr.heap.size := ⟨_, rfl⟩
      rw [← hB] at c1
      simp only [← hB]
      have HB := Lib.hid hB; clear hB
      have C1 := Lib.hid c1; clear c1
      have M1 := Lib.hid (NW.out.trans N1.out)
      have I1 := Lib.hid (OI.out.new N1.out)
      have R1 := Lib.hid (ownsRow_new RO.out N1.out)
      have hBw : w.heap.size ≤ B := by rw [HB.out]; exact zb
      clear RO OI N1 NW zb HB
      clear wr
      go_loopw [6] (fun i wr => ∃ q : Nat, q ≤ p ∧ i = .int .i64 q ∧ New w1 wr) (fun i _ => p - (intOf i).toNat)
      case atStart => exact ⟨0, Nat.zero_le _, rfl, New.refl _⟩
      case round =>
        obtain ⟨q, hq, rfl, hnw⟩ := hrel
        have NW := Lib.hid hnw; clear hnw
        by_cases hql : q < p
        · obtain ⟨go, oo, rfl, co, _⟩ := (I1.out.new NW.out).at (j := q) (by omega)
          rw [map_get] at co
          obtain ⟨x, hx⟩ : ∃ x, x = O[q]?.getD 0 := ⟨_, rfl⟩
          rw [← hx] at co
          have hxk : x < n := by rw [hx]; have := OX.out q (by omega); omega
          have hfx : (T[x]?.getD (0, 0, 0)).2.1 ≤ f := by rw [← EF.out, hx]; exact pos_lt (by rw [← HP.out]; exact hql)
          clear hx
          obtain ⟨bt, ot, eb, t0, t1, t2⟩ := (HA.out.new (M1.out.trans NW.out)).2.2.2.1 x hxk
          cases eb
          obtain ⟨fx, ex⟩ : ∃ fx, fx = (T[x]?.getD (0, 0, 0)).2.1 := ⟨_, rfl⟩
          rw [← ex] at t1 hfx
          clear t0 t2 ex
          have cb := NW.out.cell C1.out
          have hqk : q < k := by omega
          go_wp2
          go_quiet (fail)
          go_wp2
          go_roundw
          case rel => exact ⟨q + 1, by omega, by go_num, New.drewN NW.out _⟩
          case measure => simp [intOf]; omega
        · obtain rfl : p = q := by omega
          obtain ⟨vq, hvq⟩ : ∃ u : World, u = wr := ⟨_, rfl⟩
          rw [← hvq] at NW
          have Q1 := Lib.hid NW.out
          rw [← hvq]
          clear NW hvq wr
          have hz0' : p = k ∧ k = 0 ∧ oa = none ∧ oc = 0 ∨ ∃ og, oa = some ⟨og, 0, none⟩ := by
            rcases R1.out.2 with ⟨e, h0⟩ | ⟨g, cap, cur, e, _⟩
            · cases e; exact .inl ⟨by omega, h0, rfl, rfl⟩
            · cases e; exact .inr ⟨g, rfl⟩
          rcases hz0' with ⟨pk, k0, rfl, rfl⟩ | ⟨og, rfl⟩
          · have p0 : p = 0 := by omega
            subst p0
            subst k0
            go_wp2
            go_quiet (fail)
            go_wp2_with fail
            obtain ⟨vr, hvr⟩ : ∃ u, u = vq.drewN nq := ⟨_, rfl⟩
            rw [← hvr]
            have P1 := Lib.hid (show New w1 vr by rw [hvr]; exact New.drewN Q1.out _)
            clear hvr
            refine (l1OwnR_any _ _ _ _ [] (Ints.nil _) (by omega)).mono ?_
            rintro e w2 ⟨v2, rfl, ho2, n2⟩
            have zq := (M1.out.trans P1.out).size
            have z2 := n2.size
            have RO2 := Lib.hid ho2; clear ho2
            have Q2' := Lib.hid n2; clear n2
            obtain ⟨B2, hB2⟩ : ∃ x, x = vr.heap.size := ⟨_, rfl⟩
            rw [← hB2] at RO2 zq z2
            go_upto_region 9 with (at_builtin; (refine wpList_append_lies _ (by rfl) (.tmp 37) (.tmp 39) 43 (by rfl) B2 3 i0 (.int .i64 0) 1 8 Try.underlying43 hi hz0 hz1 hz2 rfl (by decide) _ 0 _ (by rfl) (ownsRow_new RO2.out (by repeat (first | with_reducible exact New.refl _ | with_reducible assumption | refine New.drewN ?_ _ | refine New.drew ?_ | refine New.alloc ?_ _ | refine New.setCell ?_ (by first | omega | (simp; omega) | (simp; done)) _ | (refine New.trans ?_ (by assumption))))) _ _ _ [.int .i64 0] (by rfl) (by rfl) (World.news_of_block (cs := #[.int .i64 0]) (t := 3) (fr := (0, 0)) (heap_alloc_at (by simp))) (by simp [Value.oneCell']) (by omega) (by unfold maxLen; omega) (by omega) (by simp; omega) _ rfl ?_; intro g3 cap3 w3 ho hg hb' hlt'; have N3 := Lib.hid (New.grown (w0 := vr) (w := _) (Q2'.out.trans (by repeat (first | with_reducible exact New.refl _ | with_reducible assumption | refine New.drewN ?_ _ | refine New.drew ?_ | refine New.alloc ?_ _ | refine New.setCell ?_ (by first | omega | (simp; omega) | (simp; done)) _ | (refine New.trans ?_ (by assumption))))) (ownsRow_new RO2.out (by repeat (first | with_reducible exact New.refl _ | with_reducible assumption | refine New.drewN ?_ _ | refine New.drew ?_ | refine New.alloc ?_ _ | refine New.setCell ?_ (by first | omega | (simp; omega) | (simp; done)) _ | (refine New.trans ?_ (by assumption))))) (by omega) hg); have RO3 := Lib.hid ho; clear ho hg hb' hlt'))
            have z3 := N3.out.size
            go_wp2_with (at_builtin; go_loud (refine wpList_append_own_none rfl (.tmp 41) (.tmp 44) 43 rfl B2 3 i0 1 Try.underlying43 hi _ _ _ rfl RO3.out (by first | rfl | simp) ?_))
            go_roundw
            case rel =>
              refine ⟨0 + 1, by omega, by go_num, M1.out.trans (P1.out.trans N3.out), ?_⟩
              have e1 := ownsRow_mono RO3.out (show w.heap.size ≤ B2 by omega)
              have hO : O = [] := List.eq_nil_of_length_eq_zero OL.out
              rw [OE.out, hO]
              exact e1
            case measure => simp [intOf]; omega
          · have hoc : k ≤ oc := I1.out.2.1
            by_cases hpk2 : p < k
            · obtain ⟨go, oo, eo, co, _⟩ := (I1.out.new Q1.out).at (j := p) (by omega)
              cases eo
              rw [map_get, Nat.zero_add] at co
              obtain ⟨x, hx⟩ : ∃ x, x = O[p]?.getD 0 := ⟨_, rfl⟩
              rw [← hx] at co
              have hxk : x < n := by rw [hx]; have := OX.out p (by omega); omega
              have hfx : f < (T[x]?.getD (0, 0, 0)).2.1 := by
                have hh := HP.out
                have := pos_end (f := flT T) (O := O) (i := k) (by rw [← hh, OL.out]; exact hpk2)
                rw [← hh, EF.out, ← hx] at this
                exact this
              clear hx
              obtain ⟨bt, ot, eb, t0, t1, t2⟩ := (HA.out.new (M1.out.trans Q1.out)).2.2.2.1 x hxk
              cases eb
              obtain ⟨fx, ex⟩ : ∃ fx, fx = (T[x]?.getD (0, 0, 0)).2.1 := ⟨_, rfl⟩
              rw [← ex] at t1 hfx
              clear t0 t2 ex
              have cb := Q1.out.cell C1.out
              go_wp2
              go_quiet (fail)
              go_wp2_with fail
              obtain ⟨vr, hvr⟩ : ∃ u, u = vq.drewN nq := ⟨_, rfl⟩
              rw [← hvr]
              have P1 := Lib.hid (show New w1 vr by rw [hvr]; exact New.drewN Q1.out _)
              clear hvr
              refine (l1OwnR_any _ _ _ _ ((castL O).take p) ((I1.out.new P1.out).take hpk) (by omega)).mono ?_
              rintro e w2 ⟨v2, rfl, ho2, n2⟩
              have zq := (M1.out.trans P1.out).size
              have z2 := n2.size
              have RO2 := Lib.hid ho2; clear ho2
              have Q2 := Lib.hid (P1.out.trans n2)
              have Q2' := Lib.hid n2; clear n2
              obtain ⟨B2, hB2⟩ : ∃ x, x = vr.heap.size := ⟨_, rfl⟩
              rw [← hB2] at RO2 zq z2
              go_upto_region 9 with (at_builtin; (refine wpList_append_lies _ (by rfl) (.tmp 37) (.tmp 39) 43 (by rfl) B2 3 i0 (.int .i64 0) 1 8 Try.underlying43 hi hz0 hz1 hz2 rfl (by decide) _ p _ (by rfl) (ownsRow_new RO2.out (by repeat (first | with_reducible exact New.refl _ | with_reducible assumption | refine New.drewN ?_ _ | refine New.drew ?_ | refine New.alloc ?_ _ | refine New.setCell ?_ (by first | omega | (simp; omega) | (simp; done)) _ | (refine New.trans ?_ (by assumption))))) _ _ _ [.int .i64 k] (by rfl) (by rfl) (World.news_of_block (cs := #[.int .i64 k]) (t := 3) (fr := (0, 0)) (heap_alloc_at (by simp))) (by simp [Value.oneCell']) (by omega) (by unfold maxLen; omega) (by omega) (by simp; omega) _ rfl ?_; intro g3 cap3 w3 ho hg hb' hlt'; have N3 := Lib.hid (New.grown (w0 := vr) (w := _) (Q2'.out.trans (by repeat (first | with_reducible exact New.refl _ | with_reducible assumption | refine New.drewN ?_ _ | refine New.drew ?_ | refine New.alloc ?_ _ | refine New.setCell ?_ (by first | omega | (simp; omega) | (simp; done)) _ | (refine New.trans ?_ (by assumption))))) (ownsRow_new RO2.out (by repeat (first | with_reducible exact New.refl _ | with_reducible assumption | refine New.drewN ?_ _ | refine New.drew ?_ | refine New.alloc ?_ _ | refine New.setCell ?_ (by first | omega | (simp; omega) | (simp; done)) _ | (refine New.trans ?_ (by assumption))))) (by omega) hg); have RO3 := Lib.hid ho; clear ho hg hb' hlt'))
              have z3 := N3.out.size
              go_wp2_with (at_builtin; go_loud (refine wpList_append_own _ rfl (.tmp 41) (.tmp 44) 43 rfl B2 3 i0 (.int .i64 0) 1 8 Try.underlying43 hi hz0 hz1 hz2 rfl (by decide) _ _ _ rfl RO3.out ⟨og, p, none⟩ (k - p) (oc - p) (((castL O).drop p).map (Value.int .i64)) (by first | rfl | simp) ?c0 ?c1 ?c2 ?c3 ?c4 ?c5 ?_; (case c0 => (have := OL.out; simp; try omega)); (case c1 => exact (by simpa using ((I1.out.new (P1.out.trans N3.out)).drop hpk).source)); (case c2 => exact ints_ones _); (case c3 => (unfold maxLen; omega)); (case c4 => omega); (case c5 => omega); intro v4 w4 ho4 hg4 _; have N4 := Lib.hid (New.grown (w0 := vr) (w := _) N3.out RO3.out (by omega) hg4); have RO4 := Lib.hid ho4; clear ho4 hg4))

              go_roundw
              case rel =>
                refine ⟨k + 1, by omega, by go_num, M1.out.trans (P1.out.trans N4.out), ?_⟩
                have e1 := ownsRow_mono RO4.out (show w.heap.size ≤ B2 by omega)
                rw [OE.out]
                have e2 : (castL (insO (flT T) O k)).map (Value.int .i64) = ((castL O).take p).map (Value.int .i64) ++ [.int .i64 k] ++ ((castL O).drop p).map (Value.int .i64) := by
                  unfold insO castL
                  rw [← HP.out]
                  simp
                rw [e2]
                have e3 : p + 1 + (k - p) = k + 1 := by omega
                rw [e3] at e1
                exact e1
              case measure => simp [intOf]; omega
            · obtain rfl : k = p := by omega
              go_wp2
              go_quiet (fail)
              go_wp2_with fail
              obtain ⟨vr, hvr⟩ : ∃ u, u = vq.drewN nq := ⟨_, rfl⟩
              rw [← hvr]
              have P1 := Lib.hid (show New w1 vr by rw [hvr]; exact New.drewN Q1.out _)
              clear hvr
              refine (l1OwnR_any _ _ _ _ ((castL O).take k) ((I1.out.new P1.out).take hpk) (by omega)).mono ?_
              rintro e w2 ⟨v2, rfl, ho2, n2⟩
              have zq := (M1.out.trans P1.out).size
              have z2 := n2.size
              have RO2 := Lib.hid ho2; clear ho2
              have Q2 := Lib.hid (P1.out.trans n2)
              have Q2' := Lib.hid n2; clear n2
              obtain ⟨B2, hB2⟩ : ∃ x, x = vr.heap.size := ⟨_, rfl⟩
              rw [← hB2] at RO2 zq z2
              go_upto_region 9 with (at_builtin; (refine wpList_append_lies _ (by rfl) (.tmp 37) (.tmp 39) 43 (by rfl) B2 3 i0 (.int .i64 0) 1 8 Try.underlying43 hi hz0 hz1 hz2 rfl (by decide) _ k _ (by rfl) (ownsRow_new RO2.out (by repeat (first | with_reducible exact New.refl _ | with_reducible assumption | refine New.drewN ?_ _ | refine New.drew ?_ | refine New.alloc ?_ _ | refine New.setCell ?_ (by first | omega | (simp; omega) | (simp; done)) _ | (refine New.trans ?_ (by assumption))))) _ _ _ [.int .i64 k] (by rfl) (by rfl) (World.news_of_block (cs := #[.int .i64 k]) (t := 3) (fr := (0, 0)) (heap_alloc_at (by simp))) (by simp [Value.oneCell']) (by omega) (by unfold maxLen; omega) (by omega) (by simp; omega) _ rfl ?_; intro g3 cap3 w3 ho hg hb' hlt'; have N3 := Lib.hid (New.grown (w0 := vr) (w := _) (Q2'.out.trans (by repeat (first | with_reducible exact New.refl _ | with_reducible assumption | refine New.drewN ?_ _ | refine New.drew ?_ | refine New.alloc ?_ _ | refine New.setCell ?_ (by first | omega | (simp; omega) | (simp; done)) _ | (refine New.trans ?_ (by assumption))))) (ownsRow_new RO2.out (by repeat (first | with_reducible exact New.refl _ | with_reducible assumption | refine New.drewN ?_ _ | refine New.drew ?_ | refine New.alloc ?_ _ | refine New.setCell ?_ (by first | omega | (simp; omega) | (simp; done)) _ | (refine New.trans ?_ (by assumption))))) (by omega) hg); have RO3 := Lib.hid ho; clear ho hg hb' hlt'))
              have z3 := N3.out.size
              go_wp2_with (at_builtin; go_loud (refine wpList_append_own _ rfl (.tmp 41) (.tmp 44) 43 rfl B2 3 i0 (.int .i64 0) 1 8 Try.underlying43 hi hz0 hz1 hz2 rfl (by decide) _ _ _ rfl RO3.out (if oc = k then ⟨og, 0, none⟩ else ⟨og, k, none⟩) (k - k) (oc - k) (((castL O).drop k).map (Value.int .i64)) (by by_cases hh : oc = k <;> first | (simp [hh]; done) | (simp [hh]; rfl) | (subst hh; simp; done) | (subst hh; simp; rfl)) ?c0 ?c1 ?c2 ?c3 ?c4 ?c5 ?_; (case c0 => (have := OL.out; simp; try omega)); (case c1 => (intro j u hu; exfalso; have hl : ((castL O).drop k) = [] := List.drop_eq_nil_of_le (by have := OL.out; simp; omega); rw [hl] at hu; simp at hu)); (case c2 => exact ints_ones _); (case c3 => (unfold maxLen; omega)); (case c4 => omega); (case c5 => omega); intro v4 w4 ho4 hg4 _; have N4 := Lib.hid (New.grown (w0 := vr) (w := _) N3.out RO3.out (by omega) hg4); have RO4 := Lib.hid ho4; clear ho4 hg4))

              go_roundw
              case rel =>
                refine ⟨k + 1, by omega, by go_num, M1.out.trans (P1.out.trans N4.out), ?_⟩
                have e1 := ownsRow_mono RO4.out (show w.heap.size ≤ B2 by omega)
                rw [OE.out]
                have e2 : (castL (insO (flT T) O k)).map (Value.int .i64) = ((castL O).take k).map (Value.int .i64) ++ [.int .i64 k] ++ ((castL O).drop k).map (Value.int .i64) := by
                  unfold insO castL
                  rw [← HP.out]
                  simp
                rw [e2]
                have e3 : k + 1 + (k - k) = k + 1 := by omega
                rw [e3] at e1
                exact e1
              case measure => simp [intOf]; omega
    · obtain rfl : k = n := by omega
      go_wp2
      obtain ⟨oa, oc, e1, o1⟩ := Own.of_row hro
      subst e1
      go_ret
      exact ⟨oa, oc, rfl, by unfold ordL ordN; rw [← HN.out]; exact o1, NW.out⟩
end Go.Proofs.Ytlhpkpfnaepgbaa
