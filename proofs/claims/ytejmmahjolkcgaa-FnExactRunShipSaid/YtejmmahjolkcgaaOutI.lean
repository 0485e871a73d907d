/- The program's door to a change of a chamber: what comes out of it, a flight or a stuck chamber. -/
import Derived.Test.YtejmmahjolkcgaaPaI
import Derived.Test.YtejmmahjolkcgaaLkF
import Derived.Defers
import Derived.Recover
import Derived.Shelf.Abstract
namespace Go.Proofs.Ytejmmahjolkcgaa
open Go.RowKit Go.Shelf

theorem Ints.blk {w : World} {ao : Option Addr} {n cap : Nat} {l : List Int} (h : Ints w ao n cap l) (hn : n ≠ 0) {b : Nat} (hb : blkOf ao = some b) : b < w.heap.size := by
  obtain ⟨b', o, e, hc, hlt⟩ := h.at (j := 0) (by omega)
  subst e
  simp [blkOf] at hb
  omega

theorem catch_panicking (p : Addr) (x : Value) (z : Value) (older : List PanicEntry) (w : World) (hc : w.cell? p = some x) (hz : w.frozen? p = false) :
    CallsD Try.prog 60 #[.pointer (some p)] (.panicking ({ v := .iface 68 z, recovered := false } :: older)) w fun e u' w' =>
      e = .returned (.tuple #[]) ∧ u' = .panicking ({ v := .iface 68 z, recovered := true } :: older) ∧ w' = w.setCell p (.iface 68 z) := by
  have hne : ∀ w : World, (binOp BinOp.neq 20 (.iface 68 z) .nilIface).run Try.prog w = .ok (.bool true) w := fun _ => by kernel_rfl
  have hst : ∀ (a : Addr) (w : World) (M : Mode), (store a (.iface 68 z) M).run Try.prog w = stored Try.prog w a (.iface 68 z) M := fun a w M => run_store _ w a _ M rfl
  refine callsD_of_wpS Try.func60 rfl fun c₀ cs hu => ?_
  apply wpS_seq
  apply wpS_region
  simp [wpOpsS, go_sem, recoverD, hu, Try.ntmps60, Exit.thenS]
  refine wpS_of_wp ?_
  go_wp2
  simp [bodyPostS, results, Try.results60, go_sem]

theorem catch_idle (p : Addr) (w : World) :
    CallsD Try.prog 60 #[.pointer (some p)] .returning w fun e u' w' => e = .returned (.tuple #[]) ∧ u' = .returning ∧ w' = w := by
  have hne : ∀ w : World, (binOp BinOp.neq 20 .nilIface .nilIface).run Try.prog w = .ok (.bool false) w := fun _ => by kernel_rfl
  refine callsD_of_wpS Try.func60 rfl fun c₀ cs hu => ?_
  apply wpS_seq
  apply wpS_region
  simp [wpOpsS, go_sem, recoverD, hu, Try.ntmps60, Exit.thenS]
  refine wpS_of_wp ?_
  go_wp2
  cases c₀
  simp_all [bodyPostS, results, Try.results60, go_sem]

/-- A change that goes well. -/
def Goes (w : World) (fk : Nat) (cp : Array Value) (i : Nat) (B : Nat) (al : Option Addr) (cl bf cf bc cc bn cn : Nat) (L : List Int) (s s2 : LkS) : Prop :=
  ∀ v : World, New w v → LkBox v B al cl bf cf bc cc bn cn L s → Calls Try.prog fk (#[.pointer (some ⟨B, 0, none⟩), .int .i64 i] ++ cp) v fun e w' => e = .returned (.tuple #[]) ∧ LkBox w' B al cl bf cf bc cc bn cn L s2 ∧ Chg (fun b => b = bf ∨ b = bc ∨ b = bn) v w'
/-- A change that is raised. -/
def Stuck (w : World) (fk : Nat) (cp : Array Value) (i : Nat) (B : Nat) (al : Option Addr) (cl bf cf bc cc bn cn : Nat) (L : List Int) (s : LkS) : Prop :=
  ∀ v : World, New w v → LkBox v B al cl bf cf bc cc bn cn L s → Calls Try.prog fk (#[.pointer (some ⟨B, 0, none⟩), .int .i64 i] ++ cp) v fun e w' => e = .panicked [{ v := .iface 68 (.int .i64 i), recovered := false }] ∧ w' = v

set_option maxRecDepth 100000 in
theorem within_any (w : World) (B : Nat) (al : Option Addr) (cl bf cf bc cc bn cn : Nat) (L : List Int) (s s2 : LkS) (fk : Nat) (cp : Array Value) (i p5 p4 : Nat) (hb : LkBox w B al cl bf cf bc cc bn cn L s) (h5 : w.cell? ⟨p5, 0, none⟩ = some (.func (.func fk) #[] cp)) (h4 : w.cell? ⟨p4, 0, none⟩ = some (.int .i64 i)) (hen : Enters Try.prog fk) (hg : Goes w fk cp i B al cl bf cf bc cc bn cn L s s2)
    (h1 : 1 ≤ L.length) :
    Calls Try.prog 54 #[.pointer (some ⟨p5, 0, none⟩), .pointer (some ⟨B, 0, none⟩), .pointer (some ⟨p4, 0, none⟩)] w fun e w' => e = .returned (.agg #[.slice al L.length cl, .slice (some ⟨bf, 0, none⟩) L.length cf]) ∧ LkBox w' B al cl bf cf bc cc bn cn L s2 ∧ Chg (fun b => b = bf ∨ b = bc ∨ b = bn) w w' := by
  have hq := hb.lts h1
  have HB := Lib.hid hb; clear hb
  have HG := Lib.hid hg; clear hg
  have z5 := World.block_lt_of_cell? _ _ h5
  have z4 := World.block_lt_of_cell? _ _ h4
  have EN : ∀ (args : Array Value) (w : World), (callFunc fk args).run Try.prog w = .ok (.enter fk args) w := hen
  clear hen
  go_enter Try.func54, Try.ntmps54
  go_wp2_with fail
  refine (HG.out _ ((New.refl w).alloc _) (HB.out.new ((New.refl w).alloc _))).mono ?_
  rintro e w1 ⟨rfl, b1, k1⟩
  have B1 := Lib.hid b1; clear b1
  have c0 := B1.out.c0
  have c1 := B1.out.c1
  have r0 : w1.cell? ⟨w.heap.size, 0, none⟩ = some (.slice none 0 0) := k1.cell (by simp) (by rintro (h | h | h) <;> simp at h <;> omega)
  have r1 : w1.cell? ⟨w.heap.size, 1, none⟩ = some (.slice none 0 0) := k1.cell (by simp) (by rintro (h | h | h) <;> simp at h <;> omega)
  have f0 : w1.frozen? ⟨w.heap.size, 0, none⟩ = false := k1.frz (v := .slice none 0 0) (by simp) (by simp) (by rintro (h | h | h) <;> simp at h <;> omega)
  have f1 : w1.frozen? ⟨w.heap.size, 1, none⟩ = false := k1.frz (v := .slice none 0 0) (by simp) (by simp) (by rintro (h | h | h) <;> simp at h <;> omega)
  have hB := World.block_lt_of_cell? _ _ HB.out.c0
  have K1 := Lib.hid k1; clear k1
  have zr := World.block_lt_of_cell? _ _ r0
  clear EN
  go_wp2
  have hal : ∀ b, blkOf al = some b → ¬ b = w.heap.size := fun b hb e => by
    have := HB.out.lift.blk (by omega) hb
    omega
  refine bodyPost_ret (v := .agg #[.slice al L.length cl, .slice (some ⟨bf, 0, none⟩) L.length cf]) (by simp [results, Try.results54, go_sem, r0, r1]) rfl ⟨rfl, ?_, ?_⟩
  · have n := HB.out.ne
    refine LkBox.chg (P := fun b => b = w.heap.size) (LkBox.chg (P := fun b => b = w.heap.size) B1.out (Chg.setCell (p := ⟨w.heap.size, 0, none⟩) _) ?_ ?_ ?_ ?_ hal) (Chg.setCell (p := ⟨w.heap.size, 1, none⟩) _) ?_ ?_ ?_ ?_ hal <;> omega
  · have hch : Chg (fun b => b = bf ∨ b = bc ∨ b = bn ∨ b = w.heap.size) w ((w1.setCell ⟨w.heap.size, 0, none⟩ (.slice al L.length cl)).setCell ⟨w.heap.size, 1, none⟩ (.slice (some ⟨bf, 0, none⟩) L.length cf)) :=
      (((Chg.of_new ((New.refl w).alloc _)).trans (K1.out.mono fun b h => by rcases h with h | h | h <;> simp [h])).trans ((Chg.setCell (p := ⟨w.heap.size, 0, none⟩) _).mono fun b h => by simp [h])).trans ((Chg.setCell (p := ⟨w.heap.size, 1, none⟩) _).mono fun b h => by simp [h])
    exact ⟨hch.os, hch.tape, hch.output, hch.size, fun k hk hp => hch.block k hk (by rintro (h | h | h | h) <;> first | omega | exact hp (.inl h) | exact hp (.inr (.inl h)) | exact hp (.inr (.inr h)))⟩

set_option maxRecDepth 100000 in
theorem within_stuck (w : World) (B : Nat) (al : Option Addr) (cl bf cf bc cc bn cn : Nat) (L : List Int) (s : LkS) (fk : Nat) (cp : Array Value) (i p5 p4 : Nat) (hb : LkBox w B al cl bf cf bc cc bn cn L s) (h5 : w.cell? ⟨p5, 0, none⟩ = some (.func (.func fk) #[] cp)) (h4 : w.cell? ⟨p4, 0, none⟩ = some (.int .i64 i)) (hen : Enters Try.prog fk) (hg : Stuck w fk cp i B al cl bf cf bc cc bn cn L s) :
    Calls Try.prog 54 #[.pointer (some ⟨p5, 0, none⟩), .pointer (some ⟨B, 0, none⟩), .pointer (some ⟨p4, 0, none⟩)] w fun e w' => e = .panicked [{ v := .iface 68 (.int .i64 i), recovered := false }] ∧ New w w' := by
  have HB := Lib.hid hb; clear hb
  have HG := Lib.hid hg; clear hg
  have z5 := World.block_lt_of_cell? _ _ h5
  have z4 := World.block_lt_of_cell? _ _ h4
  have EN : ∀ (args : Array Value) (w : World), (callFunc fk args).run Try.prog w = .ok (.enter fk args) w := hen
  clear hen
  go_enter Try.func54, Try.ntmps54
  go_wp2_with fail
  refine (HG.out _ ((New.refl w).alloc _) (HB.out.new ((New.refl w).alloc _))).mono ?_
  rintro e w1 ⟨rfl, rfl⟩
  exact ⟨rfl, rfl, (New.refl w).alloc _⟩

set_option maxRecDepth 100000 in
theorem outcome_any (w : World) (B : Nat) (al : Option Addr) (cl bf cf bc cc bn cn : Nat) (L : List Int) (s s2 : LkS) (fk : Nat) (cp : Array Value) (i p5 p4 : Nat) (hb : LkBox w B al cl bf cf bc cc bn cn L s) (h5 : w.cell? ⟨p5, 0, none⟩ = some (.func (.func fk) #[] cp)) (h4 : w.cell? ⟨p4, 0, none⟩ = some (.int .i64 i)) (hen : Enters Try.prog fk) (hg : Goes w fk cp i B al cl bf cf bc cc bn cn L s s2) (h1 : 1 ≤ L.length) :
    Calls Try.prog 53 #[.func (.func 54) #[] #[.pointer (some ⟨p5, 0, none⟩), .pointer (some ⟨B, 0, none⟩), .pointer (some ⟨p4, 0, none⟩)]] w fun e w' => e = .returned (.iface 27 (.agg #[.slice al L.length cl, .slice (some ⟨bf, 0, none⟩) L.length cf])) ∧ LkBox w' B al cl bf cf bc cc bn cn L s2 ∧ Chg (fun b => b = bf ∨ b = bc ∨ b = bn) w w' := by
  have hq := hb.lts h1
  have HB := Lib.hid hb; clear hb
  have HG := Lib.hid hg; clear hg
  have z5 := World.block_lt_of_cell? _ _ h5
  have z4 := World.block_lt_of_cell? _ _ h4
  have hB := World.block_lt_of_cell? _ _ HB.out.c0
  have hmf : ∀ (fn : Fn) (first cap : Array Value) (w : World), (Instr.makeFunc fn first cap).run Try.prog w = .ok (.func fn first cap) w := fun _ _ _ _ => rfl
  have hst : ∀ (a : Addr) (w : World) (M : Mode) (t : TypeId) (x : Value), (store a (.iface t x) M).run Try.prog w = stored Try.prog w a (.iface t x) M := fun a w M t x => run_store _ w a _ M rfl
  go_enter_defers Try.func53, Try.ntmps53
  go_wp2_with fail
  refine (within_any _ _ _ _ _ _ _ _ _ _ _ s s2 fk cp i p5 p4 (HB.out.new ((New.refl w).alloc _)) (World.cell_kept h5) (World.cell_kept h4) hen (fun v nv => HG.out v (((New.refl w).alloc _).trans nv)) h1).mono ?_
  rintro e w1 ⟨rfl, b1, k1⟩
  have B1 := Lib.hid b1; clear b1
  have r0 : w1.cell? ⟨w.heap.size, 0, none⟩ = some .nilIface := k1.cell (by simp) (by rintro (h | h | h) <;> simp at h <;> omega)
  have f0 : w1.frozen? ⟨w.heap.size, 0, none⟩ = false := k1.frz (v := .nilIface) (by simp) (by simp) (by rintro (h | h | h) <;> simp at h <;> omega)
  have K1 := Lib.hid k1; clear k1
  go_wp2
  refine leaves_cons (f := 60) (args := #[.pointer (some ⟨w.heap.size, 0, none⟩)]) (by simp) (by simp [go_sem]) ?_
  refine (catch_idle ⟨w.heap.size, 0, none⟩ _).mono ?_
  rintro e u' w2 ⟨rfl, rfl, rfl⟩
  have hal : ∀ b, blkOf al = some b → ¬ b = w.heap.size := fun b hb e => by
    have := HB.out.lift.blk (by omega) hb
    omega
  have n := HB.out.ne
  have hch : Chg (fun b => b = bf ∨ b = bc ∨ b = bn ∨ b = w.heap.size) w (w1.setCell ⟨w.heap.size, 0, none⟩ (.iface 27 (.agg #[.slice al L.length cl, .slice (some ⟨bf, 0, none⟩) L.length cf]))) :=
    ((Chg.of_new ((New.refl w).alloc _)).trans (K1.out.mono fun b h => by rcases h with h | h | h <;> simp [h])).trans ((Chg.setCell (p := ⟨w.heap.size, 0, none⟩) _).mono fun b h => by simp [h])
  simp [Leaves, settle, results, Try.results53, go_sem, r0]
  refine ⟨LkBox.chg (P := fun b => b = w.heap.size) B1.out (Chg.setCell (p := ⟨w.heap.size, 0, none⟩) _) (by omega) (by omega) (by omega) (by omega) hal, ?_⟩
  exact ⟨hch.os, hch.tape, hch.output, hch.size, fun k hk hp => hch.block k hk (by rintro (h | h | h | h) <;> first | omega | exact hp (.inl h) | exact hp (.inr (.inl h)) | exact hp (.inr (.inr h)))⟩

set_option maxRecDepth 100000 in
theorem outcome_stuck (w : World) (B : Nat) (al : Option Addr) (cl bf cf bc cc bn cn : Nat) (L : List Int) (s : LkS) (fk : Nat) (cp : Array Value) (i p5 p4 : Nat) (hb : LkBox w B al cl bf cf bc cc bn cn L s) (h5 : w.cell? ⟨p5, 0, none⟩ = some (.func (.func fk) #[] cp)) (h4 : w.cell? ⟨p4, 0, none⟩ = some (.int .i64 i)) (hen : Enters Try.prog fk) (hg : Stuck w fk cp i B al cl bf cf bc cc bn cn L s) :
    Calls Try.prog 53 #[.func (.func 54) #[] #[.pointer (some ⟨p5, 0, none⟩), .pointer (some ⟨B, 0, none⟩), .pointer (some ⟨p4, 0, none⟩)]] w fun e w' => e = .returned (.iface 68 (.int .i64 i)) ∧ New w w' := by
  have HB := Lib.hid hb; clear hb
  have HG := Lib.hid hg; clear hg
  have z5 := World.block_lt_of_cell? _ _ h5
  have z4 := World.block_lt_of_cell? _ _ h4
  have hmf : ∀ (fn : Fn) (first cap : Array Value) (w : World), (Instr.makeFunc fn first cap).run Try.prog w = .ok (.func fn first cap) w := fun _ _ _ _ => rfl
  have hst : ∀ (a : Addr) (w : World) (M : Mode) (t : TypeId) (x : Value), (store a (.iface t x) M).run Try.prog w = stored Try.prog w a (.iface t x) M := fun a w M t x => run_store _ w a _ M rfl
  go_enter_defers Try.func53, Try.ntmps53
  go_wp2_with fail
  refine (within_stuck _ _ _ _ _ _ _ _ _ _ _ s fk cp i p5 p4 (HB.out.new ((New.refl w).alloc _)) (World.cell_kept h5) (World.cell_kept h4) hen (fun v nv => HG.out v (((New.refl w).alloc _).trans nv))).mono ?_
  rintro e w1 ⟨rfl, n1⟩
  have r0 : w1.cell? ⟨w.heap.size, 0, none⟩ = some .nilIface := n1.cell (by simp)
  have f0 : w1.frozen? ⟨w.heap.size, 0, none⟩ = false := n1.frz (v := .nilIface) (by simp) (by simp)
  have N1 := Lib.hid (show New w w1 from ((New.refl w).alloc _).trans n1); clear n1
  (try go_wp2)
  refine leaves_cons (f := 60) (args := #[.pointer (some ⟨w.heap.size, 0, none⟩)]) (by simp) (by simp [go_sem]) ?_
  refine (catch_panicking ⟨w.heap.size, 0, none⟩ _ _ [] _ r0 f0).mono ?_
  rintro e u' w2 ⟨rfl, rfl, rfl⟩
  simp [Leaves, settle, results, Try.results53, go_sem, r0]
  exact N1.out.setCell (by simp) _

/-- What behindChange comes to. -/
def behM (g : Bool) (L : List Int) (s2 : LkS) : List Int × List Bool := if g = true then (L, s2.F) else ([], [])
theorem LkRows.flight {w : World} {lo b1 c1 bf cf bc cc bn cn : Nat} {L : List Int} {s : LkS} (h : LkRows w lo b1 c1 bf cf bc cc bn cn L s) : OwnF w lo w.heap.size (some ⟨b1, 0, none⟩) L.length c1 (some ⟨bf, 0, none⟩) L.length cf L s.F :=
  ⟨h.r1.mono h.lo.1 h.hi.1, h.rf.mono h.lo.2.1 h.hi.2.1, fun _ _ e => by simp [blkOf] at e; exact h.ne.2.1 e⟩
/-- The rows behind a change that has turned three of them. -/
theorem LkRows.after {w w' : World} {lo b1 c1 bf cf bc cc bn cn B : Nat} {L : List Int} {s s2 : LkS} (h : LkRows w lo b1 c1 bf cf bc cc bn cn L s) (hb : LkBox w' B (some ⟨b1, 0, none⟩) c1 bf cf bc cc bn cn L s2) (k : Chg (fun b => b = bf ∨ b = bc ∨ b = bn) w w') :
    LkRows w' lo b1 c1 bf cf bc cc bn cn L s2 :=
  ⟨hb.ok, h.r1.chg k (fun b a1 a2 e => by have := h.ne.2; omega), hb.rf, hb.rc, hb.rn, h.ne, h.lo, by have := h.hi; have := k.size; omega⟩

theorem Res2.stored {w : World} {B : Nat} (h : Res2 w B) (x y : Value) (o : Obj) : (((w.setCell ⟨B, 0, none⟩ x).setCell ⟨B, 1, none⟩ y).alloc o).cell? ⟨B, 0, none⟩ = some x ∧ (((w.setCell ⟨B, 0, none⟩ x).setCell ⟨B, 1, none⟩ y).alloc o).cell? ⟨B, 1, none⟩ = some y :=
  ⟨World.cell_kept (by rw [set_other (by simp)]; exact set_same h.r0), World.cell_kept (by refine set_same (u := .slice none 0 0) ?_; rw [set_other (by simp)]; exact h.r1)⟩
theorem assert_flight (v : Value) (w : World) : (Instr.typeAssert (.iface 27 v) 20 27 true).run Try.prog w = .ok (.tuple #[v, .bool true]) w := by kernel_rfl
theorem assert_stuck (v : Value) (w : World) : (Instr.typeAssert (.iface 68 v) 20 27 true).run Try.prog w = .ok (.tuple #[.agg #[.slice none 0 0, .slice none 0 0], .bool false]) w := by kernel_rfl

set_option maxRecDepth 100000 in
set_option maxHeartbeats 1000000 in
theorem behind_bad (w : World) (aa ab : Option Addr) (n m ca cb : Nat) (L : List Int) (F : List Bool) (i : Int) (fk : Nat) (cp : Array Value) (h1 : Ints w aa n ca L) (h2 : Bools w ab m cb F) (hg : floB L F i = false) :
    Calls Try.prog 31 #[.agg #[.slice aa n ca, .slice ab m cb], .int .i64 i, .func (.func fk) #[] cp] w (RetFl w [] [] false) := by
  have HA := Lib.hid h1; clear h1
  have HB := Lib.hid h2; clear h2
  have hn := HA.out.len
  have hn9 := HA.out.2.2.1
  cases hf : fliB L F
  case false =>
    have HF := Lib.hid hf; clear hf hg hn
    go_enter Try.func31, Try.ntmps31
    go_wp2_with fail
    refine (iIsFlight_any _ _ _ _ _ _ _ L F (HA.out.new (by repeat (first | with_reducible exact New.refl _ | with_reducible assumption | refine New.drewN ?_ _ | refine New.drew ?_ | refine New.alloc ?_ _ | refine New.setCell ?_ (by first | omega | (simp; omega) | (simp; done)) _ | (refine New.trans ?_ (by assumption))))) (HB.out.new (by repeat (first | with_reducible exact New.refl _ | with_reducible assumption | refine New.drewN ?_ _ | refine New.drew ?_ | refine New.alloc ?_ _ | refine New.setCell ?_ (by first | omega | (simp; omega) | (simp; done)) _ | (refine New.trans ?_ (by assumption)))))).mono ?_
    rintro e w1 ⟨rfl, n1⟩
    have RS : Hid (Res2 w1 (w.heap.size + 1 + 1 + 1)) := Lib.hid ⟨n1.cell (by simp [go_sem]), n1.cell (by simp [go_sem]), n1.frz (v := .slice none 0 0) (by simp [go_sem]) (by simp [go_sem]), n1.frz (v := .slice none 0 0) (by simp [go_sem]) (by simp [go_sem])⟩
    have NW := Lib.hid (show New w w1 from New.trans (by repeat (first | with_reducible exact New.refl _ | with_reducible assumption | refine New.drewN ?_ _ | refine New.drew ?_ | refine New.alloc ?_ _ | refine New.setCell ?_ (by first | omega | (simp; omega) | (simp; done)) _ | (refine New.trans ?_ (by assumption)))) n1); clear n1
    rw [HF.out]
    obtain ⟨r0, r1, f0, f1⟩ := RS.out
    go_wp2
    refine bodyPost_ret (v := .tuple #[.agg #[.slice none 0 0, .slice none 0 0], .bool false]) (by simp [results, Try.results31, go_sem, r0, r1]) rfl ⟨none, 0, 0, none, 0, 0, rfl, OwnF.nil _ _ _, (NW.out.setCell (by first | omega | (simp; omega) | (simp; done)) _).setCell (by first | omega | (simp; omega) | (simp; done)) _⟩
  case true =>
    have hb : i < 0 ∨ (n : Int) ≤ i := by
      unfold floB at hg
      rw [hf, Bool.true_and, inB_false] at hg
      omega
    have HF := Lib.hid hf; clear hf hg hn
    by_cases h0 : i < 0
    · clear hb
      go_enter Try.func31, Try.ntmps31
      go_wp2_with fail
      refine (iIsFlight_any _ _ _ _ _ _ _ L F (HA.out.new (by repeat (first | with_reducible exact New.refl _ | with_reducible assumption | refine New.drewN ?_ _ | refine New.drew ?_ | refine New.alloc ?_ _ | refine New.setCell ?_ (by first | omega | (simp; omega) | (simp; done)) _ | (refine New.trans ?_ (by assumption))))) (HB.out.new (by repeat (first | with_reducible exact New.refl _ | with_reducible assumption | refine New.drewN ?_ _ | refine New.drew ?_ | refine New.alloc ?_ _ | refine New.setCell ?_ (by first | omega | (simp; omega) | (simp; done)) _ | (refine New.trans ?_ (by assumption)))))).mono ?_
      rintro e w1 ⟨rfl, n1⟩
      have a4 : w1.cell? ⟨w.heap.size + 1, 0, none⟩ = some (.int .i64 i) := n1.cell (by simp [go_sem])
      have RS : Hid (Res2 w1 (w.heap.size + 1 + 1 + 1)) := Lib.hid ⟨n1.cell (by simp [go_sem]), n1.cell (by simp [go_sem]), n1.frz (v := .slice none 0 0) (by simp [go_sem]) (by simp [go_sem]), n1.frz (v := .slice none 0 0) (by simp [go_sem]) (by simp [go_sem])⟩
      have NW := Lib.hid (show New w w1 from New.trans (by repeat (first | with_reducible exact New.refl _ | with_reducible assumption | refine New.drewN ?_ _ | refine New.drew ?_ | refine New.alloc ?_ _ | refine New.setCell ?_ (by first | omega | (simp; omega) | (simp; done)) _ | (refine New.trans ?_ (by assumption)))) n1); clear n1
      rw [HF.out]
      obtain ⟨r0, r1, f0, f1⟩ := RS.out
      go_wp2
      refine bodyPost_ret (v := .tuple #[.agg #[.slice none 0 0, .slice none 0 0], .bool false]) (by simp [results, Try.results31, go_sem, r0, r1]) rfl ⟨none, 0, 0, none, 0, 0, rfl, OwnF.nil _ _ _, (NW.out.setCell (by first | omega | (simp; omega) | (simp; done)) _).setCell (by first | omega | (simp; omega) | (simp; done)) _⟩
    · have h3 : (n : Int) ≤ i := by omega
      clear hb
      go_enter Try.func31, Try.ntmps31
      go_wp2_with fail
      refine (iIsFlight_any _ _ _ _ _ _ _ L F (HA.out.new (by repeat (first | with_reducible exact New.refl _ | with_reducible assumption | refine New.drewN ?_ _ | refine New.drew ?_ | refine New.alloc ?_ _ | refine New.setCell ?_ (by first | omega | (simp; omega) | (simp; done)) _ | (refine New.trans ?_ (by assumption))))) (HB.out.new (by repeat (first | with_reducible exact New.refl _ | with_reducible assumption | refine New.drewN ?_ _ | refine New.drew ?_ | refine New.alloc ?_ _ | refine New.setCell ?_ (by first | omega | (simp; omega) | (simp; done)) _ | (refine New.trans ?_ (by assumption)))))).mono ?_
      rintro e w1 ⟨rfl, n1⟩
      have a3 : w1.cell? ⟨w.heap.size, 0, none⟩ = some (.slice aa n ca) := n1.cell (by simp [go_sem])
      have a4 : w1.cell? ⟨w.heap.size + 1, 0, none⟩ = some (.int .i64 i) := n1.cell (by simp [go_sem])
      have RS : Hid (Res2 w1 (w.heap.size + 1 + 1 + 1)) := Lib.hid ⟨n1.cell (by simp [go_sem]), n1.cell (by simp [go_sem]), n1.frz (v := .slice none 0 0) (by simp [go_sem]) (by simp [go_sem]), n1.frz (v := .slice none 0 0) (by simp [go_sem]) (by simp [go_sem])⟩
      have NW := Lib.hid (show New w w1 from New.trans (by repeat (first | with_reducible exact New.refl _ | with_reducible assumption | refine New.drewN ?_ _ | refine New.drew ?_ | refine New.alloc ?_ _ | refine New.setCell ?_ (by first | omega | (simp; omega) | (simp; done)) _ | (refine New.trans ?_ (by assumption)))) n1); clear n1
      rw [HF.out]
      obtain ⟨r0, r1, f0, f1⟩ := RS.out
      go_wp2
      refine bodyPost_ret (v := .tuple #[.agg #[.slice none 0 0, .slice none 0 0], .bool false]) (by simp [results, Try.results31, go_sem, r0, r1]) rfl ⟨none, 0, 0, none, 0, 0, rfl, OwnF.nil _ _ _, (NW.out.setCell (by first | omega | (simp; omega) | (simp; done)) _).setCell (by first | omega | (simp; omega) | (simp; done)) _⟩

set_option maxRecDepth 100000 in
set_option maxHeartbeats 1000000 in
theorem behind_any (w : World) (aa ab : Option Addr) (n m ca cb : Nat) (L : List Int) (F : List Bool) (i : Nat) (fk : Nat) (cp : Array Value) (s2 : LkS) (good : Bool) (h1 : Ints w aa n ca L) (h2 : Bools w ab m cb F) (hf : fliB L F = true) (hi : i < L.length) (hen : Enters Try.prog fk)
    (hgo : good = true → ∀ (v : World) (B : Nat) (al : Option Addr) (cl bf cf bc cc bn cn : Nat), New w v → w.heap.size ≤ bf ∧ w.heap.size ≤ bc ∧ w.heap.size ≤ bn → LkBox v B al cl bf cf bc cc bn cn L (newK F L.length) → Goes v fk cp i B al cl bf cf bc cc bn cn L (newK F L.length) s2)
    (hst : good = false → ∀ (v : World) (B : Nat) (al : Option Addr) (cl bf cf bc cc bn cn : Nat), New w v → LkBox v B al cl bf cf bc cc bn cn L (newK F L.length) → Stuck v fk cp i B al cl bf cf bc cc bn cn L (newK F L.length)) :
    Calls Try.prog 31 #[.agg #[.slice aa n ca, .slice ab m cb], .int .i64 i, .func (.func fk) #[] cp] w (RetFl w (behM good L s2).1 (behM good L s2).2 good) := by
  have HA := Lib.hid h1; clear h1
  have HB := Lib.hid h2; clear h2
  have hn := HA.out.len
  obtain ⟨hl1, hl2, _⟩ := fliB_iff.1 hf
  have k1 : 1 ≤ n := by omega
  have k6 : n ≤ 6 := by omega
  have vi : i < n := by omega
  have viI : (i : Int) < (n : Int) := by omega
  have HN := Lib.hid hn; clear hn hi hl1 hl2
  have HF := Lib.hid hf; clear hf
  have HGO := Lib.hid hgo; clear hgo
  have HST := Lib.hid hst; clear hst
  have hmf : ∀ (fn : Fn) (first cap : Array Value) (w : World), (Instr.makeFunc fn first cap).run Try.prog w = .ok (.func fn first cap) w := fun _ _ _ _ => rfl
  go_enter Try.func31, Try.ntmps31
  go_wp2_with fail
  refine (iIsFlight_any _ _ _ _ _ _ _ L F (HA.out.new (by repeat (first | with_reducible exact New.refl _ | with_reducible assumption | refine New.drewN ?_ _ | refine New.drew ?_ | refine New.alloc ?_ _ | refine New.setCell ?_ (by first | omega | (simp; omega) | (simp; done)) _ | (refine New.trans ?_ (by assumption))))) (HB.out.new (by repeat (first | with_reducible exact New.refl _ | with_reducible assumption | refine New.drewN ?_ _ | refine New.drew ?_ | refine New.alloc ?_ _ | refine New.setCell ?_ (by first | omega | (simp; omega) | (simp; done)) _ | (refine New.trans ?_ (by assumption)))))).mono ?_
  rintro e w1 ⟨rfl, n1⟩
  have a30 : w1.cell? ⟨w.heap.size, 0, none⟩ = some (.slice aa n ca) := n1.cell (by simp [go_sem])
  have a31 : w1.cell? ⟨w.heap.size, 1, none⟩ = some (.slice ab m cb) := n1.cell (by simp [go_sem])
  have a4 : w1.cell? ⟨w.heap.size + 1, 0, none⟩ = some (.int .i64 (i : Int)) := n1.cell (by simp [go_sem])
  have a5 : w1.cell? ⟨w.heap.size + 1 + 1, 0, none⟩ = some (.func (.func fk) #[] cp) := n1.cell (by simp [go_sem])
  have RS : Hid (Res2 w1 (w.heap.size + 1 + 1 + 1)) := Lib.hid ⟨n1.cell (by simp [go_sem]), n1.cell (by simp [go_sem]), n1.frz (v := .slice none 0 0) (by simp [go_sem]) (by simp [go_sem]), n1.frz (v := .slice none 0 0) (by simp [go_sem]) (by simp [go_sem])⟩
  have NW := Lib.hid (show New w w1 from New.trans (by repeat (first | with_reducible exact New.refl _ | with_reducible assumption | refine New.drewN ?_ _ | refine New.drew ?_ | refine New.alloc ?_ _ | refine New.setCell ?_ (by first | omega | (simp; omega) | (simp; done)) _ | (refine New.trans ?_ (by assumption)))) n1); clear n1
  rw [HF.out]
  have y1 := RS.out.lt
  go_wp2_with fail
  refine (iUnused_any _ _ _ _ _ _ _ L F (HA.out.new NW.out) (HB.out.new NW.out) HF.out).mono ?_
  rintro e w2 ⟨b1, c1, bf, cf, bc, bn, rfl, rows, n2⟩
  have RW := Lib.hid rows; clear rows
  replace a4 := n2.cell a4
  replace a5 := n2.cell a5
  replace RS := Lib.hid (RS.out.new n2)
  have N2 := Lib.hid (NW.out.trans n2)
  have y2 := n2.size
  clear n2 a30 a31
  go_upto_region 4 with fail
  have hlo := RW.out.lo
  have hhi := RW.out.hi
  obtain ⟨w3, hw3⟩ : ∃ xx : World, xx = w2.alloc (.cells #[.slice (some ⟨b1, 0, none⟩) n c1, .slice (some ⟨bf, 0, none⟩) n cf, .slice (some ⟨bc, 0, none⟩) (n + 1) (n + 1), .slice (some ⟨bn, 0, none⟩) n n] 59) := ⟨_, rfl⟩
  rw [← hw3]
  have N3 := Lib.hid (show New w w3 by rw [hw3]; exact N2.out.alloc _)
  have n23 : New w2 w3 := by rw [hw3]; exact (New.refl _).alloc _
  have B3 := Lib.hid (show LkBox w3 w2.heap.size (some ⟨b1, 0, none⟩) c1 bf cf bc (L.length + 1) bn L.length L (newK F L.length) from
    (RW.out.new n23).box ⟨by omega, by omega, by omega⟩ (by rw [hw3, ← HN.out]; simp) (by rw [hw3, ← HN.out]; simp) (by rw [hw3, ← HN.out]; simp) (by rw [hw3, ← HN.out]; simp))
  have R3 := Lib.hid (RW.out.new n23)
  replace a4 := n23.cell a4
  replace a5 := n23.cell a5
  replace RS := Lib.hid (RS.out.new n23)
  have y3 := n23.size
  clear hw3 n23 RW
  have y4 := RS.out.lt
  cases good
  case true =>
    have ha := assert_flight
    go_wp2_with fail
    refine (outcome_any _ w2.heap.size (some ⟨b1, 0, none⟩) c1 bf cf bc (L.length + 1) bn L.length L (newK F L.length) s2 fk cp i _ _ B3.out a5 a4 hen (HGO.out (by first | rfl | trivial) w3 _ _ _ _ _ _ _ _ _ N3.out ⟨by omega, by omega, by omega⟩ B3.out) (by rw [← HN.out]; exact k1)).mono ?_
    rintro e w4 ⟨rfl, b4, k4⟩
    have R4 := Lib.hid (R3.out.after b4 k4); clear b4
    replace RS := Lib.hid (RS.out.chg k4 (by omega))
    have N4 := Lib.hid (show New w w4 from k4.new N3.out (by rintro j (h | h | h) <;> omega))
    have y5 := k4.size
    clear k4 a4 a5
    have y6 := RS.out.lt
    obtain ⟨r0, r1, f0, f1⟩ := RS.out
    go_wp2
    obtain ⟨q0, q1⟩ := RS.out.stored (.slice (some ⟨b1, 0, none⟩) L.length c1) (.slice (some ⟨bf, 0, none⟩) L.length cf) (.cells #[.slice (some ⟨b1, 0, none⟩) L.length c1, .slice (some ⟨bf, 0, none⟩) L.length cf] 27)
    refine bodyPost_ret (v := .tuple #[.agg #[.slice (some ⟨b1, 0, none⟩) L.length c1, .slice (some ⟨bf, 0, none⟩) L.length cf], .bool true]) (by simp [results, Try.results31, go_sem, q0, q1]) rfl ⟨_, _, _, _, _, _, rfl, ?_, ?_⟩
    · unfold behM
      rw [if_pos rfl]
      have f4 := (((R4.out.setCell (p := ⟨w.heap.size + 1 + 1 + 1, 0, none⟩) (by dsimp only; omega) (.slice (some ⟨b1, 0, none⟩) L.length c1)).setCell (p := ⟨w.heap.size + 1 + 1 + 1, 1, none⟩) (by dsimp only; omega) (.slice (some ⟨bf, 0, none⟩) L.length cf)).new ((New.refl _).alloc (.cells #[.slice (some ⟨b1, 0, none⟩) L.length c1, .slice (some ⟨bf, 0, none⟩) L.length cf] 27))).flight
      exact f4.mono (by omega) (Nat.le_refl _)
    · exact ((N4.out.setCell (by dsimp only; omega) _).setCell (by dsimp only; omega) _).alloc _
  case false =>
    have ha := assert_stuck
    go_wp2_with fail
    refine (outcome_stuck _ w2.heap.size (some ⟨b1, 0, none⟩) c1 bf cf bc (L.length + 1) bn L.length L (newK F L.length) fk cp i _ _ B3.out a5 a4 hen (HST.out (by first | rfl | trivial) w3 _ _ _ _ _ _ _ _ _ N3.out B3.out)).mono ?_
    rintro e w4 ⟨rfl, n4⟩
    replace RS := Lib.hid (RS.out.new n4)
    have N4 := Lib.hid (N3.out.trans n4)
    have y5 := n4.size
    clear n4 a4 a5
    have y6 := RS.out.lt
    obtain ⟨r0, r1, f0, f1⟩ := RS.out
    go_wp2
    obtain ⟨q0, q1⟩ := RS.out.stored (.slice none 0 0) (.slice none 0 0) (.cells #[.slice none 0 0, .slice none 0 0] 27)
    refine bodyPost_ret (v := .tuple #[.agg #[.slice none 0 0, .slice none 0 0], .bool false]) (by simp [results, Try.results31, go_sem, q0, q1]) rfl ⟨none, 0, 0, none, 0, 0, rfl, OwnF.nil _ _ _, ?_⟩
    exact ((N4.out.setCell (by dsimp only; omega) _).setCell (by dsimp only; omega) _).alloc _
end Go.Proofs.Ytejmmahjolkcgaa
