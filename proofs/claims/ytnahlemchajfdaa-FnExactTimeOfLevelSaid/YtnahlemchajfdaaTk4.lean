/- Calls through a function's value in company; loops in company; slices.IndexFunc with the closure of TimeOfLevel. -/
import Derived.Test.YtnahlemchajfdaaTk3
namespace Go.Proofs.Ytnahlemchajfdaa
open Go.Conc Go.RowKit Go.IntWalk Go.Proofs.Ytnahlemchajfdaa.Meta

/-- A call through a function's value. -/
theorem gc_callfv {P : Program} {Stop : Goroutine → World → Prop} {b : Frame} {a : Act} {k : List Item} {cs : List Frame} {w : World} {ops : Array Oper} {i : Nat} {rest : List Nat} {o : Oper} {f : FuncId} {fn' : Func} {code : Code} {x : Operand} {args : Array Operand} {ats : Array TypeId} {fi ca av : Array Value} {Post : Value → World → Prop}
    (hbk : b.kind = .normal) (ho : ops[i]? = some o) (hw : Region.wanted o (yielded ops a.tmps) = true) (hop : o.op = .call { callee := .value x, args, argTypes := ats }) (hx : a.eval x = .func (.func f) fi ca)
    (hf : P.funcs[f]? = some fn') (hname : (fn'.name == "runtime.NumGoroutine") = false) (hb : fn'.body = some code) (hav : fi ++ args.map a.eval ++ ca = av) (hn : NPW w)
    (hcall : CallsC P f av w Post) (hnext : ∀ v w', Post v w' → NPW w' → GoesC P Stop (G (b.at (a.put o.dst v) (.inRegion ops rest :: k)) cs) w') :
    GoesC P Stop (G (b.at a (.inRegion ops (i :: rest) :: k)) cs) w := by
  have hk : b.kind ≠ .early := by rw [hbk]; simp
  have hfin : ∀ v, (b.at a (.inRegion ops (i :: rest) :: k)).finish v = b.at (a.put o.dst v) (.inRegion ops rest :: k) := fun v => by rw [Frame.finish_at, ho]; rfl
  refine .still rfl (fun w => ?_) (hcall Stop (b.at a (.inRegion ops (i :: rest) :: k)) cs hn fun v w' q hn' => by rw [hfin]; exact hnext v w' q hn')
  rw [stepG_enter ho hw hk (run_call_fv hop hx hf hname hb).1, listed_nil (run_call_fv hop hx hf hname hb).2, hav]

/-- A loop, by a measure. -/
theorem gc_loop_inv {P : Program} {Stop : Goroutine → World → Prop} {b : Frame} {k : List Item} {cs : List Frame} {body : Code} (I : Nat → Act → World → Prop)
    (hstep : ∀ m a w, I m a w → NPW w → (∀ m' a' w', m' < m → I m' a' w' → NPW w' → GoesC P Stop (G (b.at a' (.inLoop body :: k)) cs) w') → GoesC P Stop (G (b.at a (.code body :: .inLoop body :: k)) cs) w) :
    ∀ m a w, I m a w → NPW w → GoesC P Stop (G (b.at a (.code (.loop body) :: k)) cs) w := by
  have key : ∀ m a w, I m a w → NPW w → GoesC P Stop (G (b.at a (.code body :: .inLoop body :: k)) cs) w := by
    intro m
    induction m using Nat.strongRecOn with
    | _ m ih => exact fun a w hI hn => hstep m a w hI hn fun m' a' w' hm hI' hn' => gc_inLoop (ih m' hm a' w' hI' hn')
  exact fun m a w hI hn => gc_loop (key m a w hI hn)

theorem plain36 : Meta.Shut Try.prog (fun f => [36].contains f) := shut_of (by kernel_rfl)
theorem atMost_one (w : World) (c : Nat) (x y : Int) (hc : w.cell? ⟨c, 0, none⟩ = some (.int .i64 x)) :
    Calls Try.prog 36 #[.int .i64 y, .pointer (some ⟨c, 0, none⟩)] w fun e w' => e = .returned (.bool (decide (y ≤ x))) ∧ New w w' := by
  go_enter Try.func36, Try.ntmps36
  go_wp2
  go_ret
  exact ⟨rfl, New.refl _⟩

set_option maxRecDepth 100000 in
set_option maxHeartbeats 8000000 in
theorem idx_any (w : World) (c : Nat) (x : Int) (oa : Option Addr) (n oc : Nat) (l : List Int) (i : Nat) (hl : Ints w oa n oc l) (hc : w.cell? ⟨c, 0, none⟩ = some (.int .i64 x)) (hi : i < n) (hx : l[i]?.getD 0 ≤ x) (hlt : ∀ j, j < i → x < l[j]?.getD 0) :
    CallsC Try.prog 35 #[.slice oa n oc, .func (.func 36) #[] #[.pointer (some ⟨c, 0, none⟩)]] w fun v w' => v = .int .i64 (i : Int) ∧ NH w w' := by
  have hm := hl.2.2.1
  refine CallsC.of_body Try.func35 rfl fun Stop cf rest hn hnext => ?_
  refine gc_act (a' := ⟨#[.slice oa n oc, .func (.func 36) #[] #[.pointer (some ⟨c, 0, none⟩)], undef, undef, undef, undef, undef, undef, undef, undef, undef, undef, undef, undef, undef, undef, undef, undef, undef], []⟩) (by simp only [Try.ntmps35, List.size_toArray, List.length_cons, List.length_nil, Nat.reduceAdd, Nat.reduceSub, Array.replicate_succ, Array.replicate_zero, List.push_toArray, List.append_toArray, List.nil_append, List.cons_append]) ?_
  refine gc_seq (gc_code plain_shut rfl ⟨_, Try.func35⟩ (by kernel_rfl) rfl hn fun K R hK hR τ => ?_)
  clear hR
  go_wp2
  intro _
  refine GoesC.wt ?_ _ _
  refine gc_seq (gc_seq (gc_code plain_shut rfl ⟨_, Try.func35⟩ (by kernel_rfl) rfl hn fun K R hK hR τ => ?_))
  clear hR
  go_wp2
  intro _
  refine GoesC.wt ?_ _ _
  refine gc_block ?_
  refine gc_loop_inv (I := fun m a w' => ∃ (j : Nat) (u5 u9 u10 u11 u12 u13 u14 u15 u16 u17 u18 : Value), j ≤ i ∧ m = i - j ∧ a = ⟨#[.slice oa n oc, .func (.func 36) #[] #[.pointer (some ⟨c, 0, none⟩)], undef, undef, .int .i64 0, u5, .slice oa n oc, .int .i64 (n : Int), .int .i64 (j : Int), u9, u10, u11, u12, u13, u14, u15, u16, u17, u18], []⟩ ∧ NH w w') ?_ i _ _ ⟨0, _, _, _, _, _, _, _, _, _, _, _, Nat.zero_le _, rfl, rfl, NH.refl _⟩ hn
  rintro m a wr ⟨j, u5, u9, u10, u11, u12, u13, u14, u15, u16, u17, u18, hj, rfl, rfl, nh⟩ hn1 next
  have hjn : j < n := by omega
  have hr := hl.at hjn
  obtain ⟨b, o, rfl, hcell, hb⟩ := hr
  have cj : wr.cell? ⟨b, o + j, none⟩ = some (.int .i64 (l[j]?.getD 0)) := nh.cell hcell
  have cc : wr.cell? ⟨c, 0, none⟩ = some (.int .i64 x) := nh.cell hc
  obtain ⟨y, hy⟩ : ∃ y, y = l[j]?.getD 0 := ⟨_, rfl⟩
  rw [← hy] at cj
  refine gc_seq (gc_code plain_shut rfl ⟨_, Try.func35⟩ (by kernel_rfl) rfl hn1 fun K R hK hR τ => ?_)
  clear hR
  go_wp2
  intro _
  refine GoesC.wt ?_ _ _
  refine gc_act (a' := ⟨#[.slice (some ⟨b, o, none⟩) n oc, .func (.func 36) #[] #[.pointer (some ⟨c, 0, none⟩)], undef, undef, .int .i64 0, u5, .slice (some ⟨b, o, none⟩) n oc, .int .i64 (n : Int), .int .i64 (j : Int), .bool true, u10, u11, u12, u13, u14, u15, u16, u17, u18], []⟩) rfl ?_
  refine gc_seq (gc_cond (t := true) rfl (gc_skip ?_))
  refine gc_seq (gc_block ?_)
  refine gc_seq (gc_code plain_shut rfl ⟨_, Try.func35⟩ (by kernel_rfl) rfl hn1 fun K R hK hR τ => ?_)
  clear hR
  go_wp2
  intro _
  refine GoesC.wt ?_ _ _
  refine gc_act (a' := ⟨#[.slice (some ⟨b, o, none⟩) n oc, .func (.func 36) #[] #[.pointer (some ⟨c, 0, none⟩)], undef, undef, .int .i64 0, .int .i64 (j : Int), .slice (some ⟨b, o, none⟩) n oc, .int .i64 (n : Int), .int .i64 (j : Int), .bool true, .int .i64 (j : Int), u11, u12, u13, u14, u15, u16, u17, u18], []⟩) rfl ?_
  refine gc_seq (gc_region ?_)
  refine gc_move rfl (by rfl) rfl hn1 rfl ?_
  refine gc_act (a' := ⟨#[.slice (some ⟨b, o, none⟩) n oc, .func (.func 36) #[] #[.pointer (some ⟨c, 0, none⟩)], undef, undef, .int .i64 0, .int .i64 (j : Int), .slice (some ⟨b, o, none⟩) n oc, .int .i64 (n : Int), .int .i64 (j : Int), .bool true, .int .i64 (j : Int), .func (.func 36) #[] #[.pointer (some ⟨c, 0, none⟩)], u12, u13, u14, u15, u16, u17, u18], []⟩) rfl ?_
  refine gc_move rfl (by rfl) rfl hn1 rfl ?_
  refine gc_act (a' := ⟨#[.slice (some ⟨b, o, none⟩) n oc, .func (.func 36) #[] #[.pointer (some ⟨c, 0, none⟩)], undef, undef, .int .i64 0, .int .i64 (j : Int), .slice (some ⟨b, o, none⟩) n oc, .int .i64 (n : Int), .int .i64 (j : Int), .bool true, .int .i64 (j : Int), .func (.func 36) #[] #[.pointer (some ⟨c, 0, none⟩)], .slice (some ⟨b, o, none⟩) n oc, u13, u14, u15, u16, u17, u18], []⟩) rfl ?_
  refine gc_move rfl (by rfl) rfl hn1 rfl ?_
  refine gc_act (a' := ⟨#[.slice (some ⟨b, o, none⟩) n oc, .func (.func 36) #[] #[.pointer (some ⟨c, 0, none⟩)], undef, undef, .int .i64 0, .int .i64 (j : Int), .slice (some ⟨b, o, none⟩) n oc, .int .i64 (n : Int), .int .i64 (j : Int), .bool true, .int .i64 (j : Int), .func (.func 36) #[] #[.pointer (some ⟨c, 0, none⟩)], .slice (some ⟨b, o, none⟩) n oc, .int .i64 (j : Int), u14, u15, u16, u17, u18], []⟩) rfl ?_
  refine gc_val (v := .pointer (some ⟨b, o + j, none⟩)) rfl (by rfl) rfl (by rfl) hn1 (by intro τ d; simp [execOp, go_sem, hjn]) ?_
  refine gc_act (a' := ⟨#[.slice (some ⟨b, o, none⟩) n oc, .func (.func 36) #[] #[.pointer (some ⟨c, 0, none⟩)], undef, undef, .int .i64 0, .int .i64 (j : Int), .slice (some ⟨b, o, none⟩) n oc, .int .i64 (n : Int), .int .i64 (j : Int), .bool true, .int .i64 (j : Int), .func (.func 36) #[] #[.pointer (some ⟨c, 0, none⟩)], .slice (some ⟨b, o, none⟩) n oc, .int .i64 (j : Int), .pointer (some ⟨b, o + j, none⟩), u15, u16, u17, u18], []⟩) rfl ?_
  refine gc_val (v := .int .i64 y) rfl (by rfl) rfl (by rfl) hn1 (by intro τ d; have q0 : (Meta.wt wr τ d).cell? ⟨b, o + j, none⟩ = some (.int .i64 y) := cj; simp [execOp, go_sem, q0]) ?_
  refine gc_act (a' := ⟨#[.slice (some ⟨b, o, none⟩) n oc, .func (.func 36) #[] #[.pointer (some ⟨c, 0, none⟩)], undef, undef, .int .i64 0, .int .i64 (j : Int), .slice (some ⟨b, o, none⟩) n oc, .int .i64 (n : Int), .int .i64 (j : Int), .bool true, .int .i64 (j : Int), .func (.func 36) #[] #[.pointer (some ⟨c, 0, none⟩)], .slice (some ⟨b, o, none⟩) n oc, .int .i64 (j : Int), .pointer (some ⟨b, o + j, none⟩), .int .i64 y, u16, u17, u18], []⟩) rfl ?_
  refine gc_callfv rfl (by rfl) rfl rfl (by rfl) Try.func36 (by rfl) rfl (av := #[.int .i64 y, .pointer (some ⟨c, 0, none⟩)]) (by simp [Act.eval]) hn1 (Post := fun v w' => v = .bool (decide (y ≤ x)) ∧ NH wr w') (callsC_val plain36 (by decide) fun τ => atMost_one (Meta.wt wr τ 0) c x y cc) fun v w2 hp hn2 => ?_
  obtain ⟨rfl, n2⟩ := hp
  refine gc_act (a' := ⟨#[.slice (some ⟨b, o, none⟩) n oc, .func (.func 36) #[] #[.pointer (some ⟨c, 0, none⟩)], undef, undef, .int .i64 0, .int .i64 (j : Int), .slice (some ⟨b, o, none⟩) n oc, .int .i64 (n : Int), .int .i64 (j : Int), .bool true, .int .i64 (j : Int), .func (.func 36) #[] #[.pointer (some ⟨c, 0, none⟩)], .slice (some ⟨b, o, none⟩) n oc, .int .i64 (j : Int), .pointer (some ⟨b, o + j, none⟩), .int .i64 y, .bool (decide (y ≤ x)), u17, u18], []⟩) rfl ?_
  refine gc_nil ?_
  have nh2 := nh.trans n2
  by_cases e : j = i
  · subst e
    refine gc_cond (t := true) (by simp only [Act.eval]; exact congrArg Value.bool (decide_eq_true (by omega))) ?_
    refine gc_seq (gc_code plain_shut rfl ⟨_, Try.func35⟩ (by kernel_rfl) rfl hn2 fun K R hK hR τ => ?_)
    clear hR
    go_wp2
    intro _
    refine GoesC.wt ?_ _ _
    refine gc_ret fun todo => ?_
    exact gc_leave rfl Try.func35 rfl (fun τ d => results_tmp (t := 4) rfl _ _ _) (hnext _ w2 ⟨rfl, nh2⟩ hn2)
  · have hgt := hlt j (by omega)
    refine gc_cond (t := false) (by simp only [Act.eval]; exact congrArg Value.bool (decide_eq_false (by omega))) (gc_skip (gc_inBlock ?_))
    have gk : IntKind.i64.wrap ((j : Int) + 1) = (j : Int) + 1 := i64_in _ (by omega)
    refine gc_code plain_shut rfl ⟨_, Try.func35⟩ (by kernel_rfl) rfl hn2 fun K R hK hR τ => ?_
    clear hR
    go_wp2
    intro _
    refine GoesC.wt ?_ _ _
    exact next (i - (j + 1)) _ w2 (by omega) ⟨j + 1, _, _, _, _, _, _, _, _, _, _, _, by omega, rfl, by push_cast; rfl, nh2⟩ hn2
end Go.Proofs.Ytnahlemchajfdaa
