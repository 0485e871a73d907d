/- MarksOf: the program's. -/
import Derived.Test.YtnahlemchajfdaaMks
import Derived.Test.YtnahlemchajfdaaLoi
import Derived.Test.YtnahlemchajfdaaTk3
namespace Go.Proofs.Ytnahlemchajfdaa
open Go.Conc Go.RowKit Go.IntWalk Go.Proofs.Ytnahlemchajfdaa.Meta

theorem run_makeInt {n : Nat} (hn : n ≤ 1048576) (w : World) :
    (Instr.makeSlice 30 (.int .i64 (n : Int)) (.int .i64 (n : Int))).run Try.prog w = .ok (.slice (some ⟨w.heap.size, 0, none⟩) n n) (w.alloc (.cells (madeCells #[.int .i64 0] (n * 1)) 3)) := by
  obtain ⟨i, hi, hzz⟩ := Option.map_eq_some_iff.1 Try.infoInt
  simp only [Prod.mk.injEq] at hzz
  obtain ⟨hz, hs, hb⟩ := hzz
  have hr := run_make (P := Try.prog) w 30 3 i _ Try.underlying30 hi hz .i64 .i64 n n (by omega) (Int.le_refl _) (by rw [hb]; omega) (by omega)
  rw [hs] at hr
  simp only [Int.toNat_natCast] at hr
  exact hr
theorem rowIs_madeInt (w : World) (n : Nat) (t : TypeId) : ∃ f, (w.alloc (.cells (madeCells #[.int .i64 0] (n * 1)) t)).rowIs w.heap.size t n f :=
  ⟨fun j => (madeCells #[.int .i64 0] (n * 1))[j]?.getD undef, _, heap_alloc_new _ _, by rw [size_madeCells]; omega, fun i hi => by
    rw [Array.getElem?_eq_getElem (show i < (madeCells #[.int .i64 0] (n * 1)).size by rw [size_madeCells]; omega)]; simp only; rw [Array.getElem?_eq_getElem (show i < (madeCells #[.int .i64 0] (n * 1)).size by rw [size_madeCells]; omega)]; rfl⟩
theorem mkL_get (D L : Int) (h : Nat) {n j : Nat} (k : j < n) : (mkL D L h n)[j]?.getD 0 = levK D L ((j + 1) * tim D L / h) := by simp [mkL, k]

set_option maxRecDepth 100000 in
set_option maxHeartbeats 8000000 in
theorem iMarksOf_any (w : World) (L D h : Int) :
    CallsC Try.prog 23 #[.agg #[.int .i64 L, .int .i64 D], .int .i64 h] w fun v w' => ∃ oa n oc, v = .tuple #[.slice oa n oc, .bool (moB L D h)] ∧ Own w' w.heap.size w'.heap.size oa n oc (moM L D h) ∧ NH w w' := by
  refine CallsC.of_body Try.func23 rfl fun Stop cf rest hn hnext => ?_
  refine gc_act (a' := ⟨#[.agg #[.int .i64 L, .int .i64 D], .int .i64 h, undef, undef, undef, undef, undef, undef, undef, undef, undef, undef, undef, undef, undef, undef, undef, undef, undef, undef, undef, undef, undef, undef, undef, undef, undef, undef, undef, undef, undef, undef, undef, undef, undef, undef, undef, undef, undef, undef, undef, undef, undef, undef, undef, undef, undef, undef, undef, undef], []⟩) (by simp only [Try.ntmps23, List.size_toArray, List.length_cons, List.length_nil, Nat.reduceAdd, Nat.reduceSub, Array.replicate_succ, Array.replicate_zero, List.push_toArray, List.append_toArray, List.nil_append, List.cons_append]) ?_
  refine gc_seq (gc_code plain_shut rfl ⟨_, Try.func23⟩ (by kernel_rfl) rfl hn fun K R hK hR τ => ?_)
  clear hR
  go_wp2
  intro hn1
  obtain ⟨w1, hw1⟩ : ∃ x, x = ((Meta.wt w τ 0).alloc (Obj.cells #[Value.int IntKind.i64 L, Value.int IntKind.i64 D] 24)) := ⟨_, rfl⟩
  rw [← hw1] at hn1 ⊢
  rw [show (Meta.wt w τ 0).heap.size = w.heap.size from rfl]
  have b0 : w1.cell? ⟨w.heap.size, 0, none⟩ = some (.int .i64 L) := by rw [hw1]; simp [go_sem, Meta.wt]
  have b1 : w1.cell? ⟨w.heap.size, 1, none⟩ = some (.int .i64 D) := by rw [hw1]; simp [go_sem, Meta.wt]
  have N1 : NH w w1 := by rw [hw1]; exact ((NH.refl w).wt τ 0).alloc _
  clear hw1
  by_cases hg : ckB L D = true
  · have q := ckB_iff.1 hg
    have G := Lib.hid hg
    by_cases hi24 : inB 1 24 h = true
    · have r := inB_iff.1 hi24
      obtain ⟨hh, eh⟩ : ∃ hh : Nat, h = (hh : Int) := ⟨h.toNat, by omega⟩
      subst eh
      have ht' := tim_le (D := D) (by omega) 1000 L (by omega) (by omega)
      have n1 : ¬ (hh : Int) < 1 := by omega
      have n24 : ¬ (24 : Int) < hh := by omega
      have LV := Lib.hid (fun w => levels_any w L D q.1.1 q.1.2 q.2.1 q.2.2)
      have GI := Lib.hid (And.intro hg hi24)
      clear hg hi24
      refine gc_seq (gc_code plain_shut rfl ⟨_, Try.func23⟩ (by kernel_rfl) rfl hn1 fun K R hK hR τ => ?_)
      clear hR
      have b0' : (Meta.wt w1 τ 0).cell? ⟨w.heap.size, 0, none⟩ = some (.int .i64 L) := b0
      have b1' : (Meta.wt w1 τ 0).cell? ⟨w.heap.size, 1, none⟩ = some (.int .i64 D) := b1
      go_wp2_with fail
      refine (iIsClock_any _ _ _).mono ?_
      rintro e w2 ⟨rfl, n_w2⟩
      have N2 : NH w w2 := N1.trans ⟨n_w2.size, n_w2.block⟩
      have c0 : w2.cell? ⟨w.heap.size, 0, none⟩ = some (.int .i64 L) := n_w2.cell b0'
      have c1 : w2.cell? ⟨w.heap.size, 1, none⟩ = some (.int .i64 D) := n_w2.cell b1'
      rw [G.out]
      clear n_w2 b0' b1' b0 b1 N1 hn1
      go_wp2
      intro hn2
      rw [show decide ((hh : Int) < 1) = false from decide_eq_false (by omega), show decide (24 < (hh : Int)) = false from decide_eq_false (by omega)]
      refine gc_seq (gc_region ?_)
      refine gc_val (v := .agg #[.int .i64 L, .int .i64 D]) rfl (by rfl) rfl (by rfl) hn2 (by intro τ d; have q0 : (Meta.wt w2 τ d).cell? ⟨w.heap.size, 0, none⟩ = some (.int .i64 L) := c0; have q1 : (Meta.wt w2 τ d).cell? ⟨w.heap.size, 1, none⟩ = some (.int .i64 D) := c1; simp [execOp, go_sem, q0, q1]) ?_
      refine gc_act (a' := ⟨#[.agg #[.int .i64 L, .int .i64 D], .int .i64 (hh : Int), .pointer (some ⟨w.heap.size, 0, none⟩), undef, .slice none 0 0, .bool false, undef, undef, undef, undef, .agg #[.int .i64 L, .int .i64 D], .bool true, .bool false, .bool false, .int .i64 (hh : Int), .bool false, .bool false, .bool false, .int .i64 (hh : Int), .bool false, .bool false, .agg #[.int .i64 L, .int .i64 D], undef, undef, undef, undef, undef, undef, undef, undef, undef, undef, undef, undef, undef, undef, undef, undef, undef, undef, undef, undef, undef, undef, undef, undef, undef, undef, undef, undef], []⟩) rfl ?_
      refine gc_call rfl (by rfl) rfl rfl Try.func32 (by rfl) rfl hn2 (Post := TicksPost w2 (levL D L)) ?_ fun v w3 hp hn3 => ?_
      · have hh' : Array.map (Act.eval ⟨#[.agg #[.int .i64 L, .int .i64 D], .int .i64 (hh : Int), .pointer (some ⟨w.heap.size, 0, none⟩), undef, .slice none 0 0, .bool false, undef, undef, undef, undef, .agg #[.int .i64 L, .int .i64 D], .bool true, .bool false, .bool false, .int .i64 (hh : Int), .bool false, .bool false, .bool false, .int .i64 (hh : Int), .bool false, .bool false, .agg #[.int .i64 L, .int .i64 D], undef, undef, undef, undef, undef, undef, undef, undef, undef, undef, undef, undef, undef, undef, undef, undef, undef, undef, undef, undef, undef, undef, undef, undef, undef, undef, undef, undef], []⟩) #[Operand.tmp 21] = #[.agg #[.int .i64 L, .int .i64 D]] := by simp [Act.eval]
        rw [hh']
        exact LV.out _
      obtain ⟨oa, n, oc, rfl, own, nh⟩ := ticks_own hp
      refine gc_act (a' := ⟨#[.agg #[.int .i64 L, .int .i64 D], .int .i64 (hh : Int), .pointer (some ⟨w.heap.size, 0, none⟩), undef, .slice none 0 0, .bool false, undef, undef, undef, undef, .agg #[.int .i64 L, .int .i64 D], .bool true, .bool false, .bool false, .int .i64 (hh : Int), .bool false, .bool false, .bool false, .int .i64 (hh : Int), .bool false, .bool false, .agg #[.int .i64 L, .int .i64 D], .slice oa n oc, undef, undef, undef, undef, undef, undef, undef, undef, undef, undef, undef, undef, undef, undef, undef, undef, undef, undef, undef, undef, undef, undef, undef, undef, undef, undef, undef], []⟩) rfl ?_
      refine gc_assign rfl (by rfl) rfl hn3 rfl ?_
      refine gc_act (a' := ⟨#[.agg #[.int .i64 L, .int .i64 D], .int .i64 (hh : Int), .pointer (some ⟨w.heap.size, 0, none⟩), undef, .slice none 0 0, .bool false, .slice oa n oc, undef, undef, undef, .agg #[.int .i64 L, .int .i64 D], .bool true, .bool false, .bool false, .int .i64 (hh : Int), .bool false, .bool false, .bool false, .int .i64 (hh : Int), .bool false, .bool false, .agg #[.int .i64 L, .int .i64 D], .slice oa n oc, undef, undef, undef, undef, undef, undef, undef, undef, undef, undef, undef, undef, undef, undef, undef, undef, undef, undef, undef, undef, undef, undef, undef, undef, undef, undef, undef], []⟩) rfl ?_
      refine gc_nil ?_
      have N3 := N2.trans nh
      obtain rfl : n = tim D L + 1 := by rw [own.1]; exact levTo_length _ _ _
      have LVL : levL D L = levTo D L (tim D L + 1) := rfl
      rw [LVL] at own
      obtain ⟨T, hT⟩ : ∃ T, T = tim D L := ⟨_, rfl⟩
      have MG := Lib.hid (fun j (k : j < hh) => (mkL_get D L hh k))
      rw [← hT] at ht' own MG ⊢
      have TT := Lib.hid hT; clear hT
      obtain ⟨N, eN⟩ : ∃ N, N = T + 1 := ⟨_, rfl⟩
      rw [← eN] at own ⊢
      have gN : IntKind.i64.wrap ((N : Int) - 1) = (T : Int) := by rw [eN]; rw [i64_in _ (by omega)]; omega
      refine gc_code plain_shut rfl ⟨_, Try.func23⟩ (by kernel_rfl) rfl hn3 fun K R hK hR τ => ?_
      clear hK
      have OW := Lib.hid (Own.wt own τ 0)
      obtain ⟨u, hu⟩ : ∃ x, x = Meta.wt w3 τ 0 := ⟨_, rfl⟩
      have NU : NH w u := by rw [hu]; exact N3.wt τ 0
      have zu : w3.heap.size = u.heap.size := by rw [hu]; rfl
      rw [← hu] at OW ⊢
      rw [zu] at OW
      clear hu own hp
      by_cases hle : hh ≤ T
      · have HM := Lib.hid (show moB L D hh = true ∧ moM L D hh = mkL D L hh hh by
          have e : moB L D hh = true := by unfold moB; rw [GI.out.1, GI.out.2, ← TT.out, decide_eq_true (by omega)]; rfl
          exact ⟨e, by unfold moM; rw [if_pos e, Int.toNat_natCast]⟩)
        have hmk := run_makeInt (n := hh) (by omega)
        obtain ⟨f0, hf0⟩ := rowIs_madeInt u hh 3
        have F0 := Lib.hid hf0; clear hf0
        have nlt : ¬ (T : Int) < hh := by omega
        have h0 : ¬ (hh : Int) = 0 := by omega
        go_wp2
        try rw [show decide (T < hh) = false from decide_eq_false (by omega)]
        obtain ⟨u1, hu1⟩ : ∃ x, x = u.alloc (Obj.cells (madeCells #[Value.int IntKind.i64 0] hh) 3) := ⟨_, rfl⟩
        have F1 := Lib.hid (show u1.rowIs u.heap.size 3 hh f0 by rw [hu1]; have e := F0.out; rw [Nat.mul_one] at e; exact e)
        have NU1 : New u u1 := by rw [hu1]; exact (New.refl u).alloc _
        have zu1 : u.heap.size < u1.heap.size := by rw [hu1]; simp
        rw [← hu1]
        clear hu1 F0 hmk
        have OW1 := Lib.hid (OW.out.new NU1)
        clear OW
        go_loopw [33] (fun x wr => ∃ (j : Nat) (f : Nat → Value), j ≤ hh ∧ x = .int .i64 (j : Int) ∧ wr.rowIs u.heap.size 3 hh f ∧ (∀ i, i < j → f i = .int .i64 ((mkL D L hh hh)[i]?.getD 0)) ∧ Chg (fun b => b = u.heap.size) u1 wr) (fun x _ => hh - (intOf x).toNat)
        case atStart => exact ⟨0, f0, Nat.zero_le _, rfl, F1.out, fun i hi => absurd hi (by omega), Chg.refl _ _⟩
        case round =>
          obtain ⟨j, f, hj, rfl, hrow, hf, hchg⟩ := hrel
          have HR := Lib.hid hrow; clear hrow
          have HF := Lib.hid hf; clear hf
          have HC := Lib.hid hchg; clear hchg
          by_cases hlt : j < hh
          · obtain ⟨m, hm⟩ : ∃ m, m = (j + 1) * T / hh := ⟨_, rfl⟩
            have mT : m ≤ T := by rw [hm]; exact Nat.div_le_of_le_mul (Nat.mul_le_mul_right _ (by omega))
            have pT : (j + 1) * T ≤ 24 * 1000 := Nat.mul_le_mul (by omega) ht'
            have e1 : ((j : Int) + 1) * (T : Int) = (((j + 1) * T : Nat) : Int) := by push_cast; rfl
            have gk : IntKind.i64.wrap ((j : Int) + 1) = (j : Int) + 1 := i64_in _ (by omega)
            have gp : IntKind.i64.wrap (((j : Int) + 1) * (T : Int)) = (((j + 1) * T : Nat) : Int) := by rw [e1]; exact i64_in _ (by omega)
            have gd : IntKind.i64.wrap (((((j + 1) * T : Nat) : Int)).tdiv (hh : Int)) = (m : Int) := by
              rw [Int.tdiv_eq_ediv_of_nonneg (by omega), ← Int.natCast_ediv, ← hm]; exact i64_in _ (by omega)
            obtain ⟨p, hp⟩ : ∃ p : Int, p = (((j + 1) * T : Nat) : Int) := ⟨_, rfl⟩
            rw [← hp] at gp gd
            have mN : (m : Int) < (N : Int) := by omega
            have hl := (OW1.out.chg HC.out (fun b _ h2 e => by omega)).ints
            obtain ⟨b, o, rfl, hc, hb⟩ := hl.at (j := m) (by omega)
            rw [levTo_get D L (show m < N by omega)] at hc
            obtain ⟨y, hy⟩ : ∃ y, y = levK D L m := ⟨_, rfl⟩
            rw [← hy] at hc
            clear hl
            have HY := Lib.hid hy; clear hy
            have HMm := Lib.hid hm; clear hm
            have HP := Lib.hid hp; clear hp e1
            have hd : wr.cell? ⟨u.heap.size, j, none⟩ = some (f j) := HR.out.cell (by omega)
            have hfz := HR.out.frozen j
            go_wp2
            go_roundw
            case rel =>
              refine ⟨j + 1, _, by omega, by go_num, HR.out.set j _, fun i hi => ?_, HC.out.trans (Chg.setCell (p := ⟨u.heap.size, j, none⟩) _)⟩
              by_cases e : i = j
              · subst e
                simp only [if_true]
                rw [MG.out i hlt, HY.out, HMm.out]
              · simp only [e, if_false]; exact HF.out i (by omega)
            case measure => simp [intOf]; omega
          · obtain rfl : j = hh := by omega
            go_wp2
            intro hnu todo
            refine gc_leave rfl Try.func23 rfl (v := .tuple #[.slice (some ⟨u.heap.size, 0, none⟩) j j, .bool true]) (fun τ d => by simp [results, Try.results23, go_sem]) (hnext _ wr ⟨_, _, _, by rw [HM.out.1], ?_, ?_⟩ hnu)
            · rw [HM.out.2]
              have z1 := HC.out.size
              have z2 := NU.sz
              exact ⟨(mkL_length _ _ _ _).symm, Nat.le_refl _, by omega, .inr ⟨u.heap.size, f, rfl, z2, by omega, HR.out, HF.out⟩⟩
            · exact NU.trans ⟨by have := HC.out.size; omega, fun i hi => (HC.out.block i (by omega) (by omega)).trans (NU1.block i hi)⟩
      · have HM := Lib.hid (show moB L D hh = false ∧ moM L D hh = [] by
          have e : moB L D hh = false := by unfold moB; rw [GI.out.1, GI.out.2, ← TT.out, decide_eq_false (by omega)]; rfl
          exact ⟨e, by unfold moM; rw [e]; rfl⟩)
        have nlt : (T : Int) < hh := by omega
        go_wp2
        intro hnu todo
        refine gc_leave rfl Try.func23 rfl (v := .tuple #[.slice none 0 0, .bool false]) (fun τ d => by simp [results, Try.results23, go_sem]) (hnext _ u ⟨_, _, _, by rw [HM.out.1], ?_, NU⟩ hnu)
        rw [HM.out.2]
        exact Own.nil _ _ _
    · have hf := bool_nt hi24
      have HM := Lib.hid (show moB L D h = false ∧ moM L D h = [] by
          have e : moB L D h = false := by unfold moB; rw [hg, hf]; rfl
          exact ⟨e, by unfold moM; rw [e]; rfl⟩)
      have nin := inB_false.1 hf
      clear hg hi24 hf
      by_cases h1 : h < 1
      · skip
        refine gc_seq (gc_code plain_shut rfl ⟨_, Try.func23⟩ (by kernel_rfl) rfl hn1 fun K R hK hR τ => ?_)
        clear hK
        have b0' : (Meta.wt w1 τ 0).cell? ⟨w.heap.size, 0, none⟩ = some (.int .i64 L) := b0
        have b1' : (Meta.wt w1 τ 0).cell? ⟨w.heap.size, 1, none⟩ = some (.int .i64 D) := b1
        go_wp2_with fail
        refine (iIsClock_any _ _ _).mono ?_
        rintro e w2 ⟨rfl, n_w2⟩
        have N2 : NH w w2 := N1.trans ⟨n_w2.size, n_w2.block⟩
        have c0 : w2.cell? ⟨w.heap.size, 0, none⟩ = some (.int .i64 L) := n_w2.cell b0'
        have c1 : w2.cell? ⟨w.heap.size, 1, none⟩ = some (.int .i64 D) := n_w2.cell b1'
        rw [G.out]
        clear n_w2 b0' b1' b0 b1 N1 hn1
        go_wp2
        intro hn2 todo
        refine gc_leave rfl Try.func23 rfl (v := .tuple #[.slice none 0 0, .bool false]) (fun τ d => by simp [results, Try.results23, go_sem]) (hnext _ w2 ⟨_, _, _, by rw [HM.out.1], ?_, N2⟩ hn2)
        rw [HM.out.2]
        exact Own.nil _ _ _
      · have h24 : 24 < h := by omega
        refine gc_seq (gc_code plain_shut rfl ⟨_, Try.func23⟩ (by kernel_rfl) rfl hn1 fun K R hK hR τ => ?_)
        clear hK
        have b0' : (Meta.wt w1 τ 0).cell? ⟨w.heap.size, 0, none⟩ = some (.int .i64 L) := b0
        have b1' : (Meta.wt w1 τ 0).cell? ⟨w.heap.size, 1, none⟩ = some (.int .i64 D) := b1
        go_wp2_with fail
        refine (iIsClock_any _ _ _).mono ?_
        rintro e w2 ⟨rfl, n_w2⟩
        have N2 : NH w w2 := N1.trans ⟨n_w2.size, n_w2.block⟩
        have c0 : w2.cell? ⟨w.heap.size, 0, none⟩ = some (.int .i64 L) := n_w2.cell b0'
        have c1 : w2.cell? ⟨w.heap.size, 1, none⟩ = some (.int .i64 D) := n_w2.cell b1'
        rw [G.out]
        clear n_w2 b0' b1' b0 b1 N1 hn1
        go_wp2
        intro hn2 todo
        refine gc_leave rfl Try.func23 rfl (v := .tuple #[.slice none 0 0, .bool false]) (fun τ d => by simp [results, Try.results23, go_sem]) (hnext _ w2 ⟨_, _, _, by rw [HM.out.1], ?_, N2⟩ hn2)
        rw [HM.out.2]
        exact Own.nil _ _ _
  · have hf := bool_nt hg
    have HM := Lib.hid (show moB L D h = false ∧ moM L D h = [] by
        have e : moB L D h = false := by unfold moB; rw [hf]; rfl
        exact ⟨e, by unfold moM; rw [e]; rfl⟩)
    have G := Lib.hid hf
    clear hg hf
    refine gc_seq (gc_code plain_shut rfl ⟨_, Try.func23⟩ (by kernel_rfl) rfl hn1 fun K R hK hR τ => ?_)
    clear hK
    have b0' : (Meta.wt w1 τ 0).cell? ⟨w.heap.size, 0, none⟩ = some (.int .i64 L) := b0
    have b1' : (Meta.wt w1 τ 0).cell? ⟨w.heap.size, 1, none⟩ = some (.int .i64 D) := b1
    go_wp2_with fail
    refine (iIsClock_any _ _ _).mono ?_
    rintro e w2 ⟨rfl, n_w2⟩
    have N2 : NH w w2 := N1.trans ⟨n_w2.size, n_w2.block⟩
    have c0 : w2.cell? ⟨w.heap.size, 0, none⟩ = some (.int .i64 L) := n_w2.cell b0'
    have c1 : w2.cell? ⟨w.heap.size, 1, none⟩ = some (.int .i64 D) := n_w2.cell b1'
    rw [G.out]
    clear n_w2 b0' b1' b0 b1 N1 hn1
    go_wp2
    intro hn2 todo
    refine gc_leave rfl Try.func23 rfl (v := .tuple #[.slice none 0 0, .bool false]) (fun τ d => by simp [results, Try.results23, go_sem]) (hnext _ w2 ⟨_, _, _, by rw [HM.out.1], ?_, N2⟩ hn2)
    rw [HM.out.2]
    exact Own.nil _ _ _
end Go.Proofs.Ytnahlemchajfdaa
