/- One tick of the program's row. -/
import Derived.Test.YtchnnbkaiagpgaaSt1
import Derived.Test.YtchnnbkaiagpgaaChanI
import Derived.Test.YtchnnbkaiagpgaaRows2b
import Derived.Deep.RegionWith
namespace Go.Proofs.Ytchnnbkaiagpgaa
open Go.RowKit Go.Conc

/-- The blocks of a tick under way. -/
structure TkB (w wr : World) (B1 B2 bp c d : Nat) (cs : List Value) (bx by' : Array Value) : Prop where
  new : New w wr
  b1 : WB wr B1 (tkC (fun _ => (0, 0, 0)) 0 (fun _ => 0) 0) 75
  b2 : WB wr B2 cs 75
  pb : WB wr bp [.chan (some c), .chan (some d)] 100
  c0 : Ch wr c bx
  d0 : Ch wr d by'
  ne : w.heap.size ≤ B1 ∧ B1 < B2 ∧ B2 < bp ∧ B2 < c ∧ B2 < d ∧ c ≠ d ∧ bp ≠ c ∧ bp ≠ d
theorem TkB.kept {w wr w' : World} {B1 B2 bp c d : Nat} {cs : List Value} {bx by' : Array Value} (h : TkB w wr B1 B2 bp c d cs bx by') (k : New wr w') : TkB w w' B1 B2 bp c d cs bx by' :=
  ⟨h.new.trans k, h.b1.new k, h.b2.new k, h.pb.new k, h.c0.new k, h.d0.new k, h.ne⟩
theorem TkB.set {w wr : World} {B1 B2 bp c d : Nat} {cs : List Value} {bx by' : Array Value} (h : TkB w wr B1 B2 bp c d cs bx by') (i : Nat) (v : Value) : TkB w (wr.setCell ⟨B2, i, none⟩ v) B1 B2 bp c d (cs.set i v) bx by' := by
  have hne := h.ne
  have k : Chg (fun b => b = B2) wr (wr.setCell ⟨B2, i, none⟩ v) := Chg.setCell (p := ⟨B2, i, none⟩) v
  exact ⟨h.new.setCell (by show w.heap.size ≤ B2; omega) _, h.b1.chg k (by omega), h.b2.set i v, h.pb.chg k (by omega), h.c0.chg k (by omega), h.d0.chg k (by omega), hne⟩
theorem TkB.chan {w wr w' : World} {B1 B2 bp c d : Nat} {cs : List Value} {bx by' bx' by2 : Array Value} (h : TkB w wr B1 B2 bp c d cs bx by') (k : Chg (fun b => b = c ∨ b = d) wr w') (kc : Ch w' c bx') (kd : Ch w' d by2) : TkB w w' B1 B2 bp c d cs bx' by2 := by
  have hne := h.ne
  exact ⟨Chg.new h.new k (fun i hi => by omega), h.b1.chg k (by omega), h.b2.chg k (by omega), h.pb.chg k (by omega), kc, kd, hne⟩
theorem TkB.eqv {w wr : World} {B1 B2 bp c d : Nat} {cs cs' : List Value} {bx by' : Array Value} (h : TkB w wr B1 B2 bp c d cs bx by') (e : cs = cs') : TkB w wr B1 B2 bp c d cs' bx by' := e ▸ h

theorem TkB.start {w w2 W : World} {B1 B2 bp c d : Nat} {cs : List Value} (n2 : New w w2) (b1 : WB w2 B1 (tkC (fun _ => (0, 0, 0)) 0 (fun _ => 0) 0) 75) (b2 : WB w2 B2 cs 75) (k : New w2 W)
    (hp : W.heap[bp]? = some (.cells #[.chan (some c), .chan (some d)] 100)) (hc : W.heap[c]? = some (.chan 1 #[] false 0 0 false)) (hd : W.heap[d]? = some (.chan 1 #[] false 0 0 false))
    (h1 : w.heap.size ≤ B1 ∧ B1 < B2) (h2 : w2.heap.size ≤ bp ∧ w2.heap.size ≤ c ∧ w2.heap.size ≤ d ∧ c ≠ d ∧ bp ≠ c ∧ bp ≠ d) : TkB w W B1 B2 bp c d cs #[] #[] := by
  have := b2.lt
  exact ⟨n2.trans k, b1.new k, b2.new k, hp, ⟨_, _, hc⟩, ⟨_, _, hd⟩, by omega⟩
theorem three (w : World) (o1 o2 o3 : Obj) : ((((w.alloc o1).alloc o2).alloc o3).drew).heap[w.heap.size]? = some o1 ∧ ((((w.alloc o1).alloc o2).alloc o3).drew).heap[w.heap.size + 1]? = some o2 ∧ ((((w.alloc o1).alloc o2).alloc o3).drew).heap[w.heap.size + 1 + 1]? = some o3 := by
  have e1 : (w.alloc o1).heap[w.heap.size]? = some o1 := heap_alloc_at rfl
  have e2 : ((w.alloc o1).alloc o2).heap[w.heap.size + 1]? = some o2 := heap_alloc_at (by simp)
  have e3 : (((w.alloc o1).alloc o2).alloc o3).heap[w.heap.size + 1 + 1]? = some o3 := heap_alloc_at (by simp)
  have k1 : New (w.alloc o1) (((w.alloc o1).alloc o2).alloc o3) := (by repeat (first | with_reducible exact New.refl _ | with_reducible assumption | refine New.drewN ?_ _ | refine New.drew ?_ | refine New.alloc ?_ _ | refine New.setCell ?_ (by first | omega | (simp; omega) | (simp; done)) _ | (refine New.trans ?_ (by assumption))))
  have k2 : New ((w.alloc o1).alloc o2) (((w.alloc o1).alloc o2).alloc o3) := (by repeat (first | with_reducible exact New.refl _ | with_reducible assumption | refine New.drewN ?_ _ | refine New.drew ?_ | refine New.alloc ?_ _ | refine New.setCell ?_ (by first | omega | (simp; omega) | (simp; done)) _ | (refine New.trans ?_ (by assumption))))
  exact ⟨(k1.block _ (by simp)).trans e1, (k2.block _ (by simp)).trans e2, e3⟩
theorem TkB.begun {w w2 W : World} {B1 B2 bp c d : Nat} {cs st : List Value} (n2 : New w w2) (b1 : WB w2 B1 (tkC (fun _ => (0, 0, 0)) 0 (fun _ => 0) 0) 75) (b2 : WB w2 B2 cs 75) (b0 : WB w2 w.heap.size st 72) (k : New w2 W)
    (hp : W.heap[bp]? = some (.cells #[.chan (some c), .chan (some d)] 100)) (hc : W.heap[c]? = some (.chan 1 #[] false 0 0 false)) (hd : W.heap[d]? = some (.chan 1 #[] false 0 0 false))
    (h1 : w.heap.size ≤ B1 ∧ B1 < B2) (h2 : w2.heap.size ≤ bp ∧ w2.heap.size ≤ c ∧ w2.heap.size ≤ d ∧ c ≠ d ∧ bp ≠ c ∧ bp ≠ d) :
    ∃ c' d' bp', Value.pointer (some ⟨bp, 0, none⟩) = .pointer (some ⟨bp', 0, none⟩) ∧ TkB w W B1 B2 bp' c' d' cs #[] #[] ∧ WB W w.heap.size st 72 :=
  ⟨c, d, bp, rfl, TkB.start n2 b1 b2 k hp hc hd h1 h2, b0.new k⟩
theorem Try.infoChan : (Try.prog.info? 3).map (·.bytes) = some 8 := by kernel_rfl
theorem run_mkchan (w : World) : (Instr.makeChan 98 (.int .i64 1)).run Try.prog w = .ok (.chan (some w.heap.size)) (w.alloc (.chan 1 #[] false 0 0 false)) := by
  obtain ⟨i, hi, hb⟩ := Option.map_eq_some_iff.1 Try.infoChan
  simpa using run_makeChan (P := Try.prog) (w := w) Try.underlying98 hi .i64 1 (by omega) (by rw [hb]; omega)

/-- What is on the two ways ahead of the basin k. -/
def wayA (l : List (Int × Int × Int)) (x : Int) : Nat → Int × Int
  | 0 => (0, x)
  | k + 1 => (spB (l[k]?.getD (0, 0, 0)) (inK l x k), ruB (l[k]?.getD (0, 0, 0)) (inK l x k))
theorem wayA_sum (l : List (Int × Int × Int)) (x : Int) (k : Nat) : (wayA l x k).1 + (wayA l x k).2 = inK l x k := by
  cases k with
  | zero => simp [wayA, inK]
  | succ k => rfl
def hadA (l : List (Int × Int × Int)) (x : Int) (k j : Nat) : Int := if j < k then (l[j]?.getD (0, 0, 0)).2.2 + inK l x j else 0
def newA (l : List (Int × Int × Int)) (x : Int) (k j : Nat) : Int × Int × Int := if j < k then stB (l[j]?.getD (0, 0, 0)) (inK l x j) else basA l j
theorem hadA_succ {l : List (Int × Int × Int)} {x v : Int} {k : Nat} (hv : v = (l[k]?.getD (0, 0, 0)).2.2 + inK l x k) (j : Nat) : (if j = k then v else hadA l x k j) = hadA l x (k + 1) j := by
  unfold hadA
  by_cases e : j = k
  · subst e; rw [if_pos rfl, if_pos (by omega), hv]
  · rw [if_neg e]
    by_cases h : j < k
    · rw [if_pos h, if_pos (by omega)]
    · rw [if_neg h, if_neg (by omega)]
theorem newA_succ {l : List (Int × Int × Int)} {x v : Int} {k : Nat} (hv : v = leB (l[k]?.getD (0, 0, 0)) (inK l x k)) (j : Nat) : (if j = k then ((newA l x k j).1, (newA l x k j).2.1, v) else newA l x k j) = newA l x (k + 1) j := by
  unfold newA
  by_cases e : j = k
  · subst e
    rw [if_pos rfl, if_neg (by omega), if_pos (by omega), hv]
    rfl
  · rw [if_neg e]
    by_cases h : j < k
    · rw [if_pos h, if_pos (by omega)]
    · rw [if_neg h, if_neg (by omega)]
theorem wayA_bd {l : List (Int × Int × Int)} {x : Int} (hl : RowOk l) (h0 : 0 ≤ x) (h1 : x ≤ 1000) (k : Nat) (hk : k ≤ l.length) : 0 ≤ (wayA l x k).1 ∧ (wayA l x k).1 ≤ 7000 ∧ 0 ≤ (wayA l x k).2 ∧ (wayA l x k).2 ≤ 7000 := by
  have h6 := hl.2.1
  cases k with
  | zero => simp only [wayA]; omega
  | succ k =>
    have h2 := inK_bd hl h0 k (by omega)
    have h3 := hl.2.2 k (by omega)
    have h4 := spB_bd h3 h2.1
    have h5 := ruB_bd h3 h2.1
    simp only [wayA]
    omega

theorem res_tick {tmps : Array Value} {W : World} {R : Nat} {cs : List Value} (ht : tmps[4]?.getD undef = .pointer (some ⟨R, 0, none⟩)) (h : WB W R cs 75) (hl : cs.length = 26) : (results Try.f62 tmps).run Try.prog W = .ok (.agg cs.toArray) W := by
  have hr := run_loadVar_mid (P := Try.prog) W R 0 75 cs _ (h.range 0 fun j v hv => by rw [Nat.zero_add]; exact hv) Try.underlying75 rfl ((show (Try.prog.info? 75).map (·.size) = some 26 by kernel_rfl).trans (by rw [hl]))
  simp [results, Try.results62, asAddr, ht, hr]

set_option maxRecDepth 100000 in
set_option maxHeartbeats 4000000 in
theorem tick_any (w : World) (l : List (Int × Int × Int)) (x : Int) (hl : RowOk l) (h0 : 0 ≤ x) (h1 : x ≤ 1000) :
    Calls Try.prog 62 #[rowV l, .int .i64 x] w fun e w' => e = .returned (tkV (newA l x l.length) l.length (hadA l x l.length) (giveL l x)) ∧ New w w' := by
  obtain ⟨n, hn⟩ : ∃ n, n = l.length := ⟨_, rfl⟩
  have n6 : n ≤ 6 := by have := hl.2.1; omega
  have HL := Lib.hid hn
  have er : rowV l = Value.agg (stC (basA l) (n : Int)).toArray := by show Value.agg (stC (basA l) (l.length : Int)).toArray = _; rw [hn]
  rw [er]
  clear er hn
  have HR := Lib.hid hl; clear hl
  obtain ⟨w1, hw1⟩ : ∃ w1, w1 = (w.alloc (.cells (stC (basA l) (n : Int)).toArray 72)).alloc (.cells #[.int .i64 0, .int .i64 0, .int .i64 0, .int .i64 0, .int .i64 0, .int .i64 0, .int .i64 0, .int .i64 0, .int .i64 0, .int .i64 0, .int .i64 0, .int .i64 0, .int .i64 0, .int .i64 0, .int .i64 0, .int .i64 0, .int .i64 0, .int .i64 0, .int .i64 0, .int .i64 0, .int .i64 0, .int .i64 0, .int .i64 0, .int .i64 0, .int .i64 0, .int .i64 0] 75) := ⟨_, rfl⟩
  have a0 : WB w1 w.heap.size (stC (basA l) n) 72 := by rw [hw1]; exact WB.new (heap_alloc_new _ _) (by repeat (first | with_reducible exact New.refl _ | with_reducible assumption | refine New.drewN ?_ _ | refine New.drew ?_ | refine New.alloc ?_ _ | refine New.setCell ?_ (by first | omega | (simp; omega) | (simp; done)) _ | (refine New.trans ?_ (by assumption))))
  have a1 : WB w1 (w.heap.size + 1) (tkC (fun _ => (0, 0, 0)) 0 (fun _ => 0) 0) 75 := by rw [hw1]; exact heap_alloc_at (by simp)
  have n1 : New w w1 := by rw [hw1]; exact (by repeat (first | with_reducible exact New.refl _ | with_reducible assumption | refine New.drewN ?_ _ | refine New.drew ?_ | refine New.alloc ?_ _ | refine New.setCell ?_ (by first | omega | (simp; omega) | (simp; done)) _ | (refine New.trans ?_ (by assumption))))
  have HW1 := Lib.hid hw1; clear hw1
  have N1 := Lib.hid n1; clear n1
  have A0 := Lib.hid a0; clear a0
  have A1 := Lib.hid a1; clear a1
  go_enter Try.func62, Try.ntmps62
  go_upto_region 1 with fail
  rw [← HW1.out]
  go_upto_region 2 with (first
    | (refine wpList_load_blk rfl 72 (.tmp 2) rfl w.heap.size 0 rfl _ (stC (basA l) n) 72 A0.out (fun j v hv => by rw [Nat.zero_add]; exact hv) _ Try.underlying72 rfl (by kernel_rfl) ?_)
    | (refine wpList_build_as rfl 75 _ rfl (tkC (basA l) n (fun _ => 0) 0) (by kernel_rfl) ?_)
    | ((with_reducible (show wpList _ _ _ ({ dst := none, op := .store _ _ _, type := _, pos := _, after := _, guard := _ } :: _) _ _)); go_must (refine wpList_store_blk rfl 75 (.tmp 5) (.tmp 12) rfl w1.heap.size 0 (tkC (fun _ => (0, 0, 0)) 0 (fun _ => 0) 0) (tkC (basA l) n (fun _ => 0) 0) 75 rfl rfl (heap_alloc_new _ _) (by simp [tkC_length]) (by kernel_rfl) (tkC_one _ _ _ _) ?_); intro w2 hb2 hc2; have HB2 := Lib.hid (WB.eqv hb2.out (splice_zero _ _ rfl)); have N2 := Lib.hid (Chg.new (w0 := w1) (by repeat (first | with_reducible exact New.refl _ | with_reducible assumption | refine New.drewN ?_ _ | refine New.drew ?_ | refine New.alloc ?_ _ | refine New.setCell ?_ (by first | omega | (simp; omega) | (simp; done)) _ | (refine New.trans ?_ (by assumption)))) hc2 (fun i hi => by omega)); clear hb2 hc2))
  have hmc := run_mkchan
  walk_nrm
  go_cut [6] (fun t6 wr => ∃ c d bp, t6 = .pointer (some ⟨bp, 0, none⟩) ∧ TkB w wr (w.heap.size + 1) w1.heap.size bp c d (tkC (basA l) n (fun _ => 0) 0) #[] #[] ∧ WB wr w.heap.size (stC (basA l) n) 72)
  case first =>
    have K12 := Lib.hid (N1.out.trans N2.out)
    have KB1 := Lib.hid (A1.out.new N2.out)
    have KB0 := Lib.hid (A0.out.new N2.out)
    have KS := Lib.hid (show w.heap.size ≤ w.heap.size + 1 ∧ w.heap.size + 1 < w1.heap.size by have := A1.out.lt; omega)
    clear HW1 A1 HR HL h0 h1 n6 A0
    go_region
    all_goals (go_wp2_with fail; go_meet)
    all_goals first
      | exact TkB.begun K12.out KB1.out HB2.out KB0.out (by repeat (first | with_reducible exact New.refl _ | with_reducible assumption | refine New.drewN ?_ _ | refine New.drew ?_ | refine New.alloc ?_ _ | refine New.setCell ?_ (by first | omega | (simp; omega) | (simp; done)) _ | (refine New.trans ?_ (by assumption)))) (three _ _ _ _).1 (three _ _ _ _).2.1 (three _ _ _ _).2.2 KS.out (by omega)
      | exact TkB.begun K12.out KB1.out HB2.out KB0.out (by repeat (first | with_reducible exact New.refl _ | with_reducible assumption | refine New.drewN ?_ _ | refine New.drew ?_ | refine New.alloc ?_ _ | refine New.setCell ?_ (by first | omega | (simp; omega) | (simp; done)) _ | (refine New.trans ?_ (by assumption)))) (three _ _ _ _).1 (three _ _ _ _).2.2 (three _ _ _ _).2.1 KS.out (by omega)
      | exact TkB.begun K12.out KB1.out HB2.out KB0.out (by repeat (first | with_reducible exact New.refl _ | with_reducible assumption | refine New.drewN ?_ _ | refine New.drew ?_ | refine New.alloc ?_ _ | refine New.setCell ?_ (by first | omega | (simp; omega) | (simp; done)) _ | (refine New.trans ?_ (by assumption)))) (three _ _ _ _).2.1 (three _ _ _ _).1 (three _ _ _ _).2.2 KS.out (by omega)
      | exact TkB.begun K12.out KB1.out HB2.out KB0.out (by repeat (first | with_reducible exact New.refl _ | with_reducible assumption | refine New.drewN ?_ _ | refine New.drew ?_ | refine New.alloc ?_ _ | refine New.setCell ?_ (by first | omega | (simp; omega) | (simp; done)) _ | (refine New.trans ?_ (by assumption)))) (three _ _ _ _).2.1 (three _ _ _ _).2.2 (three _ _ _ _).1 KS.out (by omega)
      | exact TkB.begun K12.out KB1.out HB2.out KB0.out (by repeat (first | with_reducible exact New.refl _ | with_reducible assumption | refine New.drewN ?_ _ | refine New.drew ?_ | refine New.alloc ?_ _ | refine New.setCell ?_ (by first | omega | (simp; omega) | (simp; done)) _ | (refine New.trans ?_ (by assumption)))) (three _ _ _ _).2.2 (three _ _ _ _).1 (three _ _ _ _).2.1 KS.out (by omega)
      | exact TkB.begun K12.out KB1.out HB2.out KB0.out (by repeat (first | with_reducible exact New.refl _ | with_reducible assumption | refine New.drewN ?_ _ | refine New.drew ?_ | refine New.alloc ?_ _ | refine New.setCell ?_ (by first | omega | (simp; omega) | (simp; done)) _ | (refine New.trans ?_ (by assumption)))) (three _ _ _ _).2.2 (three _ _ _ _).2.1 (three _ _ _ _).1 KS.out (by omega)
  case rest =>
    obtain ⟨c, d, bp, rfl, htk, hb0⟩ := hcut
    obtain ⟨w3, rfl⟩ : ∃ u : World, u = wc := ⟨_, rfl⟩
    have TK := Lib.hid htk; clear htk
    have KB0 := Lib.hid hb0; clear hb0
    clear hmc
    have p0 := TK.out.pb.cell (k := 0) rfl
    have p1 := TK.out.pb.cell (k := 1) rfl
    go_wp2_with fail
    refine (handOn_any _ c d 0 x TK.out.c0 TK.out.d0 TK.out.ne.2.2.2.2.2.1).mono ?_
    rintro e w4 ⟨rfl, k1, k2, k3⟩
    have KB4 := Lib.hid (KB0.out.chg k3 (fun e => by have := TK.out.ne; omega))
    have TK4 := Lib.hid (TK.out.chan k3 k1 k2)
    clear k1 k2 k3 p0 p1 TK KB0
    have c18 := KB4.out.cell (stC_count (basA l) n)
    have e00 : newA l x 0 = basA l := by funext j; simp [newA]
    have e01 : hadA l x 0 = fun _ => 0 := by funext j; simp [hadA]
    have TK5 := Lib.hid (show TkB w w4 (w.heap.size + 1) w1.heap.size bp c d (tkC (newA l x 0) n (hadA l x 0) 0) #[.int .i64 (wayA l x 0).1] #[.int .i64 (wayA l x 0).2] by rw [e00, e01]; exact TK4.out)
    clear e00 e01 TK4
    go_wp2_with fail
    clear c18 KB4 HB2 N2 A0 A1 HW1
    go_loopw [21] (fun i wr => ∃ k : Nat, k ≤ n ∧ i = .int .i64 k ∧ TkB w wr (w.heap.size + 1) w1.heap.size bp c d (tkC (newA l x k) n (hadA l x k) 0) #[.int .i64 (wayA l x k).1] #[.int .i64 (wayA l x k).2]) (fun i _ => n - (intOf i).toNat)
    case atStart => exact ⟨0, Nat.zero_le _, rfl, TK5.out⟩
    case round =>
      obtain ⟨k, hk, rfl, htk⟩ := hrel
      have TK := Lib.hid htk; clear htk TK5
      by_cases hlt : k < n
      · have kl : k < l.length := by have := HL.out; omega
        have k6 : k < 6 := by omega
        have wb := wayA_bd HR.out h0 h1 k (by omega)
        have ib := inK_bd HR.out h0 k (by omega)
        have ok := HR.out.2.2 k kl
        have WS := Lib.hid (wayA_sum l x k)
        have SB := Lib.hid (And.intro (spB_bd ok ib.1) (And.intro (ruB_bd ok ib.1) (leB_bd ok ib.1)))
        obtain ⟨g0, g1, g2, g3⟩ := tkC_get (newA l x k) n (hadA l x k) 0 k k6
        have en : newA l x k k = l[k]?.getD (0, 0, 0) := by simp [newA, basA]
        have eh : hadA l x k k = 0 := by simp [hadA]
        rw [en] at g0 g1 g2
        rw [eh] at g3
        clear en eh
        unfold BasOk at ok
        obtain ⟨a, ha⟩ : ∃ a, a = (l[k]?.getD (0, 0, 0)).1 := ⟨_, rfl⟩
        obtain ⟨o, ho⟩ : ∃ o, o = (l[k]?.getD (0, 0, 0)).2.1 := ⟨_, rfl⟩
        obtain ⟨u, hu⟩ : ∃ u, u = (l[k]?.getD (0, 0, 0)).2.2 := ⟨_, rfl⟩
        rw [← ha] at g0 ok
        rw [← ho] at g1 ok
        rw [← hu] at g2 ok
        have EA := Lib.hid (And.intro ha (And.intro ho hu)); clear ha ho hu ib
        have q0 := TK.out.b2.cell g0
        have q1 := TK.out.b2.cell g1
        have q2 := TK.out.b2.cell g2
        have q3 := TK.out.b2.cell g3
        have f3 := TK.out.b2.frozen (19 + k)
        have p0 := TK.out.pb.cell (k := 0) rfl
        have p1 := TK.out.pb.cell (k := 1) rfl
        obtain ⟨y, hy⟩ : ∃ y, y = (wayA l x k).1 := ⟨_, rfl⟩
        obtain ⟨z, hz⟩ : ∃ z, z = (wayA l x k).2 := ⟨_, rfl⟩
        have TC := Lib.hid (And.intro TK.out.c0 TK.out.d0)
        rw [← hy] at wb TC
        rw [← hz] at wb TC
        have EY := Lib.hid (And.intro hy hz); clear hy hz
        have ES := Lib.hid (show u + (y + z) = (l[k]?.getD (0, 0, 0)).2.2 + inK l x k by rw [← WS.out, EA.out.2.2, EY.out.1, EY.out.2])
        go_wp2_with fail
        go_cut [32] (fun t W => TkB w W (w.heap.size + 1) w1.heap.size bp c d (tkC (newA l x k) n (hadA l x (k + 1)) 0) #[] #[])
        case first =>
          have NP := Lib.hid (show ¬ (w1.heap.size = c ∨ w1.heap.size = d) ∧ ¬ (bp = c ∨ bp = d) by have := TK.out.ne; omega)
          clear HR h0 h1 g0 g1 g2 g3
          go_region_with (go_at_call 78; refine (takeIn_any _ c d y z (TC.out.1.new (by repeat (first | with_reducible exact New.refl _ | with_reducible assumption | refine New.drewN ?_ _ | refine New.drew ?_ | refine New.alloc ?_ _ | refine New.setCell ?_ (by first | omega | (simp; omega) | (simp; done)) _ | (refine New.trans ?_ (by assumption))))) (TC.out.2.new (by repeat (first | with_reducible exact New.refl _ | with_reducible assumption | refine New.drewN ?_ _ | refine New.drew ?_ | refine New.alloc ?_ _ | refine New.setCell ?_ (by first | omega | (simp; omega) | (simp; done)) _ | (refine New.trans ?_ (by assumption))))) TK.out.ne.2.2.2.2.2.1 (by omega) (by omega) (by omega) (by omega)).mono ?_; rintro e w6 ⟨rfl, k1, k2, k3⟩; have q2' : w6.cell? ⟨w1.heap.size, k * 3 + 2, none⟩ = some (.int .i64 u) := k3.cell q2 NP.out.1; have q3' : w6.cell? ⟨w1.heap.size, 19 + k, none⟩ = some (.int .i64 0) := k3.cell q3 NP.out.1; have f3' : w6.frozen? ⟨w1.heap.size, 19 + k, none⟩ = false := (World.frozen?_of_block (k3.block _ (World.block_lt_of_cell? wr _ q3) NP.out.1)).trans f3; have p0' : w6.cell? ⟨bp, 0, none⟩ = some (.chan (some c)) := k3.cell p0 NP.out.2; have p1' : w6.cell? ⟨bp, 1, none⟩ = some (.chan (some d)) := k3.cell p1 NP.out.2)
          all_goals (go_wp2_with fail; go_meet)
          all_goals
            have k4 : Chg (fun b => b = c ∨ b = d) wr w6 := by first | exact k3 | exact (Chg.of_new (New.refl wr).drew).trans k3
            exact ((TK.out.chan k4 k1 k2).set (19 + k) _).eqv ((tkC_had _ _ _ _ k k6 _).trans (tkC_congr (fun _ _ => rfl) (fun j _ => hadA_succ ES.out j) _ _))
        case rest =>
          have TK6 := Lib.hid hcut; clear hcut
          obtain ⟨w6, rfl⟩ : ∃ u : World, u = wc := ⟨_, rfl⟩
          clear q0 q1 q2 q3 f3 p0 p1 g0 g1 g2 g3 TC TK
          obtain ⟨hd, hhd⟩ : ∃ hd, hd = u + (y + z) := ⟨_, rfl⟩
          have HD := Lib.hid hhd
          have hb : 0 ≤ hd ∧ hd ≤ 20000 := by omega
          clear hhd
          obtain ⟨g0, g1, g2, g3⟩ := tkC_get (newA l x k) n (hadA l x (k + 1)) 0 k k6
          have en : newA l x k k = l[k]?.getD (0, 0, 0) := by simp [newA, basA]
          have eh : hadA l x (k + 1) k = hd := by rw [HD.out, ES.out]; simp [hadA]
          have EN := Lib.hid en
          have EH := Lib.hid eh
          rw [en] at g0 g1 g2
          rw [eh] at g3
          rw [← EA.out.1] at g0
          rw [← EA.out.2.1] at g1
          rw [← EA.out.2.2] at g2
          clear en eh
          have KZ := Lib.hid (spilt_any w6 (newA l x k) n (hadA l x (k + 1)) 0 k k6 (by rw [EN.out, ← EA.out.1]; omega) (by rw [EN.out, ← EA.out.1]; omega) (by rw [EH.out]; omega) (by rw [EH.out]; omega))
          rw [EN.out, EH.out, ← EA.out.1] at KZ
          obtain ⟨s, hs⟩ : ∃ s, s = max 0 (hd - a) := ⟨_, rfl⟩
          rw [← hs] at KZ
          have HS := Lib.hid hs
          have sb : 0 ≤ s ∧ s ≤ hd := by omega
          clear hs
          go_wp2_with (refine wpList_load_blk rfl 75 (.tmp 5) rfl w1.heap.size 0 rfl _ (tkC (newA l x k) n (hadA l x (k + 1)) 0) 75 TK6.out.b2 (fun j v hv => by rw [Nat.zero_add]; exact hv) _ Try.underlying75 rfl (by kernel_rfl) ?_)
          refine KZ.out.mono ?_
          rintro e w7 ⟨rfl, n7⟩
          have TK7 := Lib.hid (TK6.out.kept n7)
          clear n7
          have q0 := TK7.out.b2.cell g0
          have q1 := TK7.out.b2.cell g1
          have q2 := TK7.out.b2.cell g2
          have q3 := TK7.out.b2.cell g3
          have f2 := TK7.out.b2.frozen (k * 3 + 2)
          go_wp2_with fail
          go_cut [10] (fun t W => t = .int .i64 (min (hd - s) o) ∧ TkB w W (w.heap.size + 1) w1.heap.size bp c d (tkC (newA l x k) n (hadA l x (k + 1)) 0) #[] #[])
          case first =>
            clear HR h0 h1 g0 g1 g2 g3 KZ
            go_region
            all_goals go_wp2_with fail
            all_goals go_meet
            all_goals exact ⟨congrArg (Value.int .i64) (by omega), TK7.out.kept (by repeat (first | with_reducible exact New.refl _ | with_reducible assumption | refine New.drewN ?_ _ | refine New.drew ?_ | refine New.alloc ?_ _ | refine New.setCell ?_ (by first | omega | (simp; omega) | (simp; done)) _ | (refine New.trans ?_ (by assumption))))⟩
          case rest =>
            obtain ⟨rfl, htk⟩ := hcut
            obtain ⟨w8, rfl⟩ : ∃ u : World, u = wc := ⟨_, rfl⟩
            have TK8 := Lib.hid htk; clear htk
            clear q0 q1 q2 q3 f2
            obtain ⟨r, hr⟩ : ∃ r, r = min (hd - s) o := ⟨_, rfl⟩
            rw [← hr]
            have rb : 0 ≤ r ∧ r ≤ hd - s := by omega
            have RD := Lib.hid hr; clear hr
            have q2 := TK8.out.b2.cell g2
            have q3 := TK8.out.b2.cell g3
            have f2 := TK8.out.b2.frozen (k * 3 + 2)
            go_upto_region 12 with fail
            obtain ⟨w9, hw9⟩ : ∃ w9, w9 = w8.setCell ⟨w1.heap.size, k * 3 + 2, none⟩ (.int .i64 (hd - s - r)) := ⟨_, rfl⟩
            rw [← hw9]
            have ER := Lib.hid (show s = spB (l[k]?.getD (0, 0, 0)) (inK l x k) ∧ r = ruB (l[k]?.getD (0, 0, 0)) (inK l x k) ∧ hd - s - r = leB (l[k]?.getD (0, 0, 0)) (inK l x k) by
              have e1 : hd = (l[k]?.getD (0, 0, 0)).2.2 + inK l x k := by rw [HD.out, ES.out]
              have e2 : s = spB (l[k]?.getD (0, 0, 0)) (inK l x k) := by unfold spB; rw [HS.out, e1, EA.out.1]
              have e3 : r = ruB (l[k]?.getD (0, 0, 0)) (inK l x k) := by unfold ruB; rw [RD.out, e1, EA.out.2.1, ← e2]
              refine ⟨e2, e3, ?_⟩
              unfold leB
              rw [← e2, ← e3, e1])
            have TK9 := Lib.hid (show TkB w w9 (w.heap.size + 1) w1.heap.size bp c d (tkC (newA l x (k + 1)) n (hadA l x (k + 1)) 0) #[] #[] by
              rw [hw9]
              exact (TK8.out.set (k * 3 + 2) _).eqv ((tkC_held _ _ _ _ k k6 _).trans (tkC_congr (fun j _ => newA_succ ER.out.2.2 j) (fun _ _ => rfl) _ _)))
            clear hw9 q2 q3 f2 TK8 g0 g1 g2 g3
            have p0 := TK9.out.pb.cell (k := 0) rfl
            have p1 := TK9.out.pb.cell (k := 1) rfl
            go_wp2_with fail
            refine (handOn_any _ c d s r TK9.out.c0 TK9.out.d0 TK9.out.ne.2.2.2.2.2.1).mono ?_
            rintro e w10 ⟨rfl, k1, k2, k3⟩
            have TK10 := Lib.hid (TK9.out.chan k3 k1 k2)
            clear k1 k2 k3 p0 p1 TK9
            go_wp2_with fail
            go_roundw
            case rel =>
              refine ⟨k + 1, by omega, by go_num, ?_⟩
              show TkB w w10 _ _ _ _ _ _ #[.int .i64 (spB (l[k]?.getD (0, 0, 0)) (inK l x k))] #[.int .i64 (ruB (l[k]?.getD (0, 0, 0)) (inK l x k))]
              rw [← ER.out.1, ← ER.out.2.1]
              exact TK10.out
            case measure => simp [intOf]; omega
      · obtain rfl : k = n := by omega
        have wb := wayA_bd HR.out h0 h1 k (by have := HL.out; omega)
        have WS := Lib.hid (wayA_sum l x k)
        have p0 := TK.out.pb.cell (k := 0) rfl
        have p1 := TK.out.pb.cell (k := 1) rfl
        go_wp2_with fail
        refine (takeIn_any _ c d _ _ TK.out.c0 TK.out.d0 TK.out.ne.2.2.2.2.2.1 wb.1 (by omega) wb.2.2.1 (by omega)).mono ?_
        rintro e w6 ⟨rfl, k1, k2, k3⟩
        rw [WS.out]
        have TK6 := Lib.hid (TK.out.chan k3 k1 k2)
        clear k1 k2 k3 p0 p1 TK
        have q3 := TK6.out.b2.cell (tkC_given (newA l x k) k (hadA l x k) 0)
        have f3 := TK6.out.b2.frozen 25
        go_upto_region 15 with fail
        obtain ⟨w7, hw7⟩ : ∃ w7, w7 = w6.setCell ⟨w1.heap.size, 25, none⟩ (.int .i64 (inK l x k)) := ⟨_, rfl⟩
        rw [← hw7]
        have TK7 := Lib.hid (show TkB w w7 (w.heap.size + 1) w1.heap.size bp c d (tkC (newA l x k) k (hadA l x k) (inK l x k)) #[] #[] by rw [hw7]; exact (TK6.out.set 25 _).eqv (tkC_give _ _ _ _ _))
        clear hw7 q3 f3 TK6
        go_wp2_with (first
          | (refine wpList_load_blk rfl 75 (.tmp 5) rfl w1.heap.size 0 rfl _ (tkC (newA l x k) k (hadA l x k) (inK l x k)) 75 TK7.out.b2 (fun j v hv => by rw [Nat.zero_add]; exact hv) _ Try.underlying75 rfl (by kernel_rfl) ?_)
          | ((with_reducible (show wpList _ _ _ ({ dst := none, op := .store _ _ _, type := _, pos := _, after := _, guard := _ } :: _) _ _)); go_must (refine wpList_store_blk rfl 75 (.tmp 4) (.tmp 71) rfl (w.heap.size + 1) 0 (tkC (fun _ => (0, 0, 0)) 0 (fun _ => 0) 0) (tkC (newA l x k) k (hadA l x k) (inK l x k)) 75 rfl rfl TK7.out.b1 (by simp [tkC_length]) (by kernel_rfl) (tkC_one _ _ _ _) ?_); intro w8 hb8 hc8; have HB8 := Lib.hid (WB.eqv hb8.out (splice_zero _ _ rfl)); have N8 := Lib.hid (Chg.new TK7.out.new hc8 (fun i hi => by omega)); clear hb8 hc8))
        refine bodyPost_ret (v := tkV (newA l x l.length) l.length (hadA l x l.length) (giveL l x)) ?_ rfl ⟨rfl, N8.out⟩
        rw [show tkV (newA l x l.length) l.length (hadA l x l.length) (giveL l x) = Value.agg (tkC (newA l x k) (k : Int) (hadA l x k) (inK l x k)).toArray by unfold giveL; rw [HL.out]]
        exact res_tick rfl HB8.out rfl
end Go.Proofs.Ytchnnbkaiagpgaa
