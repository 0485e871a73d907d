/- The program's functions on flights: PassLock, FillLock, EmptyLock, RunShip. -/
import Derived.Test.YtejmmahjolkcgaaOutI
namespace Go.Proofs.Ytejmmahjolkcgaa
open Go.RowKit Go.Shelf

theorem fill_enters : Enters Try.prog 41 := enters_of Try.func41 (by kernel_rfl) rfl
theorem empty_enters : Enters Try.prog 43 := enters_of Try.func43 (by kernel_rfl) rfl
theorem passOne_enters : Enters Try.prog 32 := enters_of Try.func32 (by kernel_rfl) rfl

set_option maxRecDepth 100000 in
theorem passOne_any (w : World) (B : Nat) (al : Option Addr) (cl bf cf bc cc bn cn : Nat) (L : List Int) (s : LkS) (i pu : Nat) (up : Bool) (hb : LkBox w B al cl bf cf bc cc bn cn L s) (hi : i < L.length) (hn : L.length ≤ 6) (hu : w.cell? ⟨pu, 0, none⟩ = some (.bool up)) :
    Calls Try.prog 32 #[.pointer (some ⟨B, 0, none⟩), .int .i64 i, .pointer (some ⟨pu, 0, none⟩)] w fun e w' => e = .returned (.tuple #[]) ∧ LkBox w' B al cl bf cf bc cc bn cn L (passK L s i up) ∧ Chg (fun b => b = bf ∨ b = bc ∨ b = bn) w w' := by
  have hq := hb.lts (by omega)
  have HB := Lib.hid hb; clear hb
  go_enter Try.func32, Try.ntmps32
  go_wp2_with fail
  refine (passing_any _ _ _).mono ?_
  rintro e w1 ⟨p2, p3, p5, p6, rfl, he, ⟨l2, l3, l5, l6⟩, n1⟩
  have PE := Lib.hid he; clear he
  have B1 := Lib.hid (HB.out.new n1)
  have N1 := Lib.hid n1; clear n1 HB
  go_wp2_with fail
  refine (pass_any _ _ _ _ _ _ _ _ _ _ _ _ i up p2 p3 p5 p6 B1.out hi hn PE.out (by omega) (by omega) (by omega) (by omega)).mono ?_
  rintro e w2 ⟨rfl, b2, k2⟩
  have B2 := Lib.hid b2; clear b2
  have K2 := Lib.hid k2; clear k2
  go_wp2
  exact ⟨rfl, .tuple #[], by simp [results, Try.results32, go_sem], rfl, B2.out, (Chg.of_new N1.out).trans K2.out⟩

theorem behM_no (L : List Int) (s2 : LkS) : behM false L s2 = ([], []) := by simp [behM]
theorem behM_yes (L : List Int) (s2 : LkS) : behM true L s2 = (L, s2.F) := by simp [behM]

set_option maxRecDepth 100000 in
set_option maxHeartbeats 1000000 in
theorem iFillLock_any (w : World) (aa ab : Option Addr) (n m ca cb : Nat) (L : List Int) (F : List Bool) (i : Int) (h1 : Ints w aa n ca L) (h2 : Bools w ab m cb F) :
    Calls Try.prog 16 #[.agg #[.slice aa n ca, .slice ab m cb], .int .i64 i] w (RetFl w (fillM L F i).1 (fillM L F i).2 (fillB L F i)) := by
  have HA := Lib.hid h1; clear h1
  have HB := Lib.hid h2; clear h2
  cases hg : floB L F i
  case false =>
    have q : fillB L F i = false := by unfold fillB; rw [hg]; rfl
    rw [q, fillM_no q]
    clear q
    have HG := Lib.hid hg; clear hg
    go_enter Try.func16, Try.ntmps16
    go_wp2_with fail
    refine (behind_bad _ _ _ _ _ _ _ L F i 41 #[] (HA.out.new (by repeat (first | with_reducible exact New.refl _ | with_reducible assumption | refine New.drewN ?_ _ | refine New.drew ?_ | refine New.alloc ?_ _ | refine New.setCell ?_ (by first | omega | (simp; omega) | (simp; done)) _ | (refine New.trans ?_ (by assumption))))) (HB.out.new (by repeat (first | with_reducible exact New.refl _ | with_reducible assumption | refine New.drewN ?_ _ | refine New.drew ?_ | refine New.alloc ?_ _ | refine New.setCell ?_ (by first | omega | (simp; omega) | (simp; done)) _ | (refine New.trans ?_ (by assumption))))) HG.out).mono ?_
    rintro e w1 ⟨sa, n1, sc, sb, n2, sd, rfl, of, nn⟩
    have OF := Lib.hid of; clear of
    have r0 : w1.cell? ⟨w.heap.size + 1, 0, none⟩ = some (.slice none 0 0) := nn.cell (by simp [go_sem])
    have r1 : w1.cell? ⟨w.heap.size + 1, 1, none⟩ = some (.slice none 0 0) := nn.cell (by simp [go_sem])
    have f0 : w1.frozen? ⟨w.heap.size + 1, 0, none⟩ = false := nn.frz (v := .slice none 0 0) (by simp [go_sem]) (by simp [go_sem])
    have f1 : w1.frozen? ⟨w.heap.size + 1, 1, none⟩ = false := nn.frz (v := .slice none 0 0) (by simp [go_sem]) (by simp [go_sem])
    have zz := nn.size
    (try simp only [World.size_alloc] at zz)
    have NW := Lib.hid (show New w w1 from New.trans (by repeat (first | with_reducible exact New.refl _ | with_reducible assumption | refine New.drewN ?_ _ | refine New.drew ?_ | refine New.alloc ?_ _ | refine New.setCell ?_ (by first | omega | (simp; omega) | (simp; done)) _ | (refine New.trans ?_ (by assumption)))) nn); clear nn
    go_wp2
    refine bodyPost_ret (v := .tuple #[.agg #[.slice sa n1 sc, .slice sb n2 sd], .bool false]) (by simp [results, Try.results16, go_sem, r0, r1]) rfl ⟨sa, n1, sc, sb, n2, sd, rfl, ?_, (NW.out.setCell (by first | omega | (simp; omega) | (simp; done)) _).setCell (by first | omega | (simp; omega) | (simp; done)) _⟩
    have of := OF.out
    simp only [World.size_alloc] at of
    exact ((of.setCell (p := ⟨w.heap.size + 1, 0, none⟩) (.inl (by dsimp only; omega)) _).setCell (p := ⟨w.heap.size + 1, 1, none⟩) (.inl (by dsimp only; omega)) _).mono (by omega) (by simp)
  case true =>
    obtain ⟨hf, k, rfl, hk⟩ := floB_iff.1 hg
    have hl := (fliB_iff.1 hf).1.2
    have h2 := (fliB_iff.1 hf).2.1
    have q : fillB L F (k : Int) = (!(F[k]?.getD false)) := by unfold fillB; rw [hg]; simp
    have R : fillM L F (k : Int) = behM (!(F[k]?.getD false)) L (fillK L (newK F L.length) k) := by unfold fillM behM; rw [q]; rfl
    rw [R, q]
    clear R q
    have HF := Lib.hid hf; clear hf hg
    obtain ⟨g, hgd⟩ : ∃ g : Bool, g = (!(F[k]?.getD false)) := ⟨_, rfl⟩
    rw [← hgd]
    have HGD := Lib.hid hgd; clear hgd
    have HK := Lib.hid (And.intro hk (And.intro hl h2)); clear hk hl h2
    go_enter Try.func16, Try.ntmps16
    go_wp2_with fail
    refine (behind_any _ _ _ _ _ _ _ L F k 41 #[] (fillK L (newK F L.length) k) g (HA.out.new (by repeat (first | with_reducible exact New.refl _ | with_reducible assumption | refine New.drewN ?_ _ | refine New.drew ?_ | refine New.alloc ?_ _ | refine New.setCell ?_ (by first | omega | (simp; omega) | (simp; done)) _ | (refine New.trans ?_ (by assumption))))) (HB.out.new (by repeat (first | with_reducible exact New.refl _ | with_reducible assumption | refine New.drewN ?_ _ | refine New.drew ?_ | refine New.alloc ?_ _ | refine New.setCell ?_ (by first | omega | (simp; omega) | (simp; done)) _ | (refine New.trans ?_ (by assumption))))) HF.out HK.out.1 fill_enters (fun h v B al cl bf cf bc cc bn cn nv _ hb x nx hx => iFill_any x _ _ _ _ _ _ _ _ _ L _ k hx HK.out.1 HK.out.2.1 (by have := HGD.out; rw [h] at this; show F[k]?.getD false = false; simpa using this.symm)) (fun h v B al cl bf cf bc cc bn cn nv hb x nx hx => iFill_any_stuck x _ _ _ _ _ _ _ _ _ L _ k hx HK.out.1 HK.out.2.1 (by have := HGD.out; rw [h] at this; show F[k]?.getD false = true; simpa using this.symm))).mono ?_
    rintro e w1 ⟨sa, n1, sc, sb, n2, sd, rfl, of, nn⟩
    have OF := Lib.hid of; clear of
    have r0 : w1.cell? ⟨w.heap.size + 1, 0, none⟩ = some (.slice none 0 0) := nn.cell (by simp [go_sem])
    have r1 : w1.cell? ⟨w.heap.size + 1, 1, none⟩ = some (.slice none 0 0) := nn.cell (by simp [go_sem])
    have f0 : w1.frozen? ⟨w.heap.size + 1, 0, none⟩ = false := nn.frz (v := .slice none 0 0) (by simp [go_sem]) (by simp [go_sem])
    have f1 : w1.frozen? ⟨w.heap.size + 1, 1, none⟩ = false := nn.frz (v := .slice none 0 0) (by simp [go_sem]) (by simp [go_sem])
    have zz := nn.size
    (try simp only [World.size_alloc] at zz)
    have NW := Lib.hid (show New w w1 from New.trans (by repeat (first | with_reducible exact New.refl _ | with_reducible assumption | refine New.drewN ?_ _ | refine New.drew ?_ | refine New.alloc ?_ _ | refine New.setCell ?_ (by first | omega | (simp; omega) | (simp; done)) _ | (refine New.trans ?_ (by assumption)))) nn); clear nn
    go_wp2
    refine bodyPost_ret (v := .tuple #[.agg #[.slice sa n1 sc, .slice sb n2 sd], .bool g]) (by simp [results, Try.results16, go_sem, r0, r1]) rfl ⟨sa, n1, sc, sb, n2, sd, rfl, ?_, (NW.out.setCell (by first | omega | (simp; omega) | (simp; done)) _).setCell (by first | omega | (simp; omega) | (simp; done)) _⟩
    have of := OF.out
    simp only [World.size_alloc] at of
    exact ((of.setCell (p := ⟨w.heap.size + 1, 0, none⟩) (.inl (by dsimp only; omega)) _).setCell (p := ⟨w.heap.size + 1, 1, none⟩) (.inl (by dsimp only; omega)) _).mono (by omega) (by simp)

set_option maxRecDepth 100000 in
set_option maxHeartbeats 1000000 in
theorem iEmptyLock_any (w : World) (aa ab : Option Addr) (n m ca cb : Nat) (L : List Int) (F : List Bool) (i : Int) (h1 : Ints w aa n ca L) (h2 : Bools w ab m cb F) :
    Calls Try.prog 18 #[.agg #[.slice aa n ca, .slice ab m cb], .int .i64 i] w (RetFl w (emptM L F i).1 (emptM L F i).2 (emptB L F i)) := by
  have HA := Lib.hid h1; clear h1
  have HB := Lib.hid h2; clear h2
  cases hg : floB L F i
  case false =>
    have q : emptB L F i = false := by unfold emptB; rw [hg]; rfl
    rw [q, emptM_no q]
    clear q
    have HG := Lib.hid hg; clear hg
    go_enter Try.func18, Try.ntmps18
    go_wp2_with fail
    refine (behind_bad _ _ _ _ _ _ _ L F i 43 #[] (HA.out.new (by repeat (first | with_reducible exact New.refl _ | with_reducible assumption | refine New.drewN ?_ _ | refine New.drew ?_ | refine New.alloc ?_ _ | refine New.setCell ?_ (by first | omega | (simp; omega) | (simp; done)) _ | (refine New.trans ?_ (by assumption))))) (HB.out.new (by repeat (first | with_reducible exact New.refl _ | with_reducible assumption | refine New.drewN ?_ _ | refine New.drew ?_ | refine New.alloc ?_ _ | refine New.setCell ?_ (by first | omega | (simp; omega) | (simp; done)) _ | (refine New.trans ?_ (by assumption))))) HG.out).mono ?_
    rintro e w1 ⟨sa, n1, sc, sb, n2, sd, rfl, of, nn⟩
    have OF := Lib.hid of; clear of
    have r0 : w1.cell? ⟨w.heap.size + 1, 0, none⟩ = some (.slice none 0 0) := nn.cell (by simp [go_sem])
    have r1 : w1.cell? ⟨w.heap.size + 1, 1, none⟩ = some (.slice none 0 0) := nn.cell (by simp [go_sem])
    have f0 : w1.frozen? ⟨w.heap.size + 1, 0, none⟩ = false := nn.frz (v := .slice none 0 0) (by simp [go_sem]) (by simp [go_sem])
    have f1 : w1.frozen? ⟨w.heap.size + 1, 1, none⟩ = false := nn.frz (v := .slice none 0 0) (by simp [go_sem]) (by simp [go_sem])
    have zz := nn.size
    (try simp only [World.size_alloc] at zz)
    have NW := Lib.hid (show New w w1 from New.trans (by repeat (first | with_reducible exact New.refl _ | with_reducible assumption | refine New.drewN ?_ _ | refine New.drew ?_ | refine New.alloc ?_ _ | refine New.setCell ?_ (by first | omega | (simp; omega) | (simp; done)) _ | (refine New.trans ?_ (by assumption)))) nn); clear nn
    go_wp2
    refine bodyPost_ret (v := .tuple #[.agg #[.slice sa n1 sc, .slice sb n2 sd], .bool false]) (by simp [results, Try.results18, go_sem, r0, r1]) rfl ⟨sa, n1, sc, sb, n2, sd, rfl, ?_, (NW.out.setCell (by first | omega | (simp; omega) | (simp; done)) _).setCell (by first | omega | (simp; omega) | (simp; done)) _⟩
    have of := OF.out
    simp only [World.size_alloc] at of
    exact ((of.setCell (p := ⟨w.heap.size + 1, 0, none⟩) (.inl (by dsimp only; omega)) _).setCell (p := ⟨w.heap.size + 1, 1, none⟩) (.inl (by dsimp only; omega)) _).mono (by omega) (by simp)
  case true =>
    obtain ⟨hf, k, rfl, hk⟩ := floB_iff.1 hg
    have hl := (fliB_iff.1 hf).1.2
    have h2 := (fliB_iff.1 hf).2.1
    have q : emptB L F (k : Int) = (F[k]?.getD false) := by unfold emptB; rw [hg]; simp
    have R : emptM L F (k : Int) = behM (F[k]?.getD false) L (emptK L (newK F L.length) k) := by unfold emptM behM; rw [q]; rfl
    rw [R, q]
    clear R q
    have HF := Lib.hid hf; clear hf hg
    obtain ⟨g, hgd⟩ : ∃ g : Bool, g = (F[k]?.getD false) := ⟨_, rfl⟩
    rw [← hgd]
    have HGD := Lib.hid hgd; clear hgd
    have HK := Lib.hid (And.intro hk (And.intro hl h2)); clear hk hl h2
    go_enter Try.func18, Try.ntmps18
    go_wp2_with fail
    refine (behind_any _ _ _ _ _ _ _ L F k 43 #[] (emptK L (newK F L.length) k) g (HA.out.new (by repeat (first | with_reducible exact New.refl _ | with_reducible assumption | refine New.drewN ?_ _ | refine New.drew ?_ | refine New.alloc ?_ _ | refine New.setCell ?_ (by first | omega | (simp; omega) | (simp; done)) _ | (refine New.trans ?_ (by assumption))))) (HB.out.new (by repeat (first | with_reducible exact New.refl _ | with_reducible assumption | refine New.drewN ?_ _ | refine New.drew ?_ | refine New.alloc ?_ _ | refine New.setCell ?_ (by first | omega | (simp; omega) | (simp; done)) _ | (refine New.trans ?_ (by assumption))))) HF.out HK.out.1 empty_enters (fun h v B al cl bf cf bc cc bn cn nv _ hb x nx hx => iEmpt_any x _ _ _ _ _ _ _ _ _ L _ k hx HK.out.1 HK.out.2.1 (by have := HGD.out; rw [h] at this; show F[k]?.getD false = true; exact this.symm)) (fun h v B al cl bf cf bc cc bn cn nv hb x nx hx => iEmpt_any_stuck x _ _ _ _ _ _ _ _ _ L _ k hx HK.out.1 HK.out.2.1 (by have := HGD.out; rw [h] at this; show F[k]?.getD false = false; exact this.symm))).mono ?_
    rintro e w1 ⟨sa, n1, sc, sb, n2, sd, rfl, of, nn⟩
    have OF := Lib.hid of; clear of
    have r0 : w1.cell? ⟨w.heap.size + 1, 0, none⟩ = some (.slice none 0 0) := nn.cell (by simp [go_sem])
    have r1 : w1.cell? ⟨w.heap.size + 1, 1, none⟩ = some (.slice none 0 0) := nn.cell (by simp [go_sem])
    have f0 : w1.frozen? ⟨w.heap.size + 1, 0, none⟩ = false := nn.frz (v := .slice none 0 0) (by simp [go_sem]) (by simp [go_sem])
    have f1 : w1.frozen? ⟨w.heap.size + 1, 1, none⟩ = false := nn.frz (v := .slice none 0 0) (by simp [go_sem]) (by simp [go_sem])
    have zz := nn.size
    (try simp only [World.size_alloc] at zz)
    have NW := Lib.hid (show New w w1 from New.trans (by repeat (first | with_reducible exact New.refl _ | with_reducible assumption | refine New.drewN ?_ _ | refine New.drew ?_ | refine New.alloc ?_ _ | refine New.setCell ?_ (by first | omega | (simp; omega) | (simp; done)) _ | (refine New.trans ?_ (by assumption)))) nn); clear nn
    go_wp2
    refine bodyPost_ret (v := .tuple #[.agg #[.slice sa n1 sc, .slice sb n2 sd], .bool g]) (by simp [results, Try.results18, go_sem, r0, r1]) rfl ⟨sa, n1, sc, sb, n2, sd, rfl, ?_, (NW.out.setCell (by first | omega | (simp; omega) | (simp; done)) _).setCell (by first | omega | (simp; omega) | (simp; done)) _⟩
    have of := OF.out
    simp only [World.size_alloc] at of
    exact ((of.setCell (p := ⟨w.heap.size + 1, 0, none⟩) (.inl (by dsimp only; omega)) _).setCell (p := ⟨w.heap.size + 1, 1, none⟩) (.inl (by dsimp only; omega)) _).mono (by omega) (by simp)

set_option maxRecDepth 100000 in
set_option maxHeartbeats 1000000 in
theorem iPassLock_any (w : World) (aa ab : Option Addr) (n m ca cb : Nat) (L : List Int) (F : List Bool) (i : Int) (up : Bool) (h1 : Ints w aa n ca L) (h2 : Bools w ab m cb F) :
    Calls Try.prog 11 #[.agg #[.slice aa n ca, .slice ab m cb], .int .i64 i, .bool up] w (RetFl w (passM L F i up).1 (passM L F i up).2 (passB L F i up)) := by
  have HA := Lib.hid h1; clear h1
  have HB := Lib.hid h2; clear h2
  have hmf : ∀ (fn : Fn) (first cap : Array Value) (w : World), (Instr.makeFunc fn first cap).run Try.prog w = .ok (.func fn first cap) w := fun _ _ _ _ => rfl
  cases hg : floB L F i
  case false =>
    have q : passB L F i up = false := by unfold passB; rw [hg]
    rw [q, passM_no q]
    clear q
    have HG := Lib.hid hg; clear hg
    go_enter Try.func11, Try.ntmps11
    go_wp2_with fail
    refine (behind_bad _ _ _ _ _ _ _ L F i 32 #[.pointer (some ⟨w.heap.size + 1, 0, none⟩)] (HA.out.new (by repeat (first | with_reducible exact New.refl _ | with_reducible assumption | refine New.drewN ?_ _ | refine New.drew ?_ | refine New.alloc ?_ _ | refine New.setCell ?_ (by first | omega | (simp; omega) | (simp; done)) _ | (refine New.trans ?_ (by assumption))))) (HB.out.new (by repeat (first | with_reducible exact New.refl _ | with_reducible assumption | refine New.drewN ?_ _ | refine New.drew ?_ | refine New.alloc ?_ _ | refine New.setCell ?_ (by first | omega | (simp; omega) | (simp; done)) _ | (refine New.trans ?_ (by assumption))))) HG.out).mono ?_
    rintro e w1 ⟨sa, n1, sc, sb, n2, sd, rfl, of, nn⟩
    have OF := Lib.hid of; clear of
    have r0 : w1.cell? ⟨w.heap.size + 1 + 1, 0, none⟩ = some (.slice none 0 0) := nn.cell (by simp [go_sem])
    have r1 : w1.cell? ⟨w.heap.size + 1 + 1, 1, none⟩ = some (.slice none 0 0) := nn.cell (by simp [go_sem])
    have f0 : w1.frozen? ⟨w.heap.size + 1 + 1, 0, none⟩ = false := nn.frz (v := .slice none 0 0) (by simp [go_sem]) (by simp [go_sem])
    have f1 : w1.frozen? ⟨w.heap.size + 1 + 1, 1, none⟩ = false := nn.frz (v := .slice none 0 0) (by simp [go_sem]) (by simp [go_sem])
    have zz := nn.size
    (try simp only [World.size_alloc] at zz)
    have NW := Lib.hid (show New w w1 from New.trans (by repeat (first | with_reducible exact New.refl _ | with_reducible assumption | refine New.drewN ?_ _ | refine New.drew ?_ | refine New.alloc ?_ _ | refine New.setCell ?_ (by first | omega | (simp; omega) | (simp; done)) _ | (refine New.trans ?_ (by assumption)))) nn); clear nn
    go_wp2
    refine bodyPost_ret (v := .tuple #[.agg #[.slice sa n1 sc, .slice sb n2 sd], .bool false]) (by simp [results, Try.results11, go_sem, r0, r1]) rfl ⟨sa, n1, sc, sb, n2, sd, rfl, ?_, (NW.out.setCell (by first | omega | (simp; omega) | (simp; done)) _).setCell (by first | omega | (simp; omega) | (simp; done)) _⟩
    have of := OF.out
    simp only [World.size_alloc] at of
    exact ((of.setCell (p := ⟨w.heap.size + 1 + 1, 0, none⟩) (.inl (by dsimp only; omega)) _).setCell (p := ⟨w.heap.size + 1 + 1, 1, none⟩) (.inl (by dsimp only; omega)) _).mono (by omega) (by simp)
  case true =>
    obtain ⟨hf, k, rfl, hk⟩ := floB_iff.1 hg
    have hl := (fliB_iff.1 hf).1.2
    have h2 := (fliB_iff.1 hf).2.1
    have q : passB L F (k : Int) up = true := hg
    have R : passM L F (k : Int) up = behM true L (passK L (newK F L.length) k up) := by unfold passM; rw [if_pos q, behM_yes]; rfl
    rw [q, R]
    clear R q
    have HF := Lib.hid hf; clear hf hg
    obtain ⟨g, hgd⟩ : ∃ g : Bool, g = true := ⟨_, rfl⟩
    rw [← hgd]
    have HGD := Lib.hid hgd; clear hgd
    have HK := Lib.hid (And.intro hk (And.intro hl h2)); clear hk hl h2
    go_enter Try.func11, Try.ntmps11
    go_wp2_with fail
    refine (behind_any _ _ _ _ _ _ _ L F k 32 #[.pointer (some ⟨w.heap.size + 1, 0, none⟩)] (passK L (newK F L.length) k up) g (HA.out.new (by repeat (first | with_reducible exact New.refl _ | with_reducible assumption | refine New.drewN ?_ _ | refine New.drew ?_ | refine New.alloc ?_ _ | refine New.setCell ?_ (by first | omega | (simp; omega) | (simp; done)) _ | (refine New.trans ?_ (by assumption))))) (HB.out.new (by repeat (first | with_reducible exact New.refl _ | with_reducible assumption | refine New.drewN ?_ _ | refine New.drew ?_ | refine New.alloc ?_ _ | refine New.setCell ?_ (by first | omega | (simp; omega) | (simp; done)) _ | (refine New.trans ?_ (by assumption))))) HF.out HK.out.1 passOne_enters (fun _ v B al cl bf cf bc cc bn cn nv _ hb x nx hx => passOne_any x _ _ _ _ _ _ _ _ _ L _ k (w.heap.size + 1) up hx HK.out.1 HK.out.2.1 ((nv.trans nx).cell (by simp [go_sem]))) (fun h => absurd (HGD.out.symm.trans h) (by decide))).mono ?_
    rintro e w1 ⟨sa, n1, sc, sb, n2, sd, rfl, of, nn⟩
    have OF := Lib.hid of; clear of
    have r0 : w1.cell? ⟨w.heap.size + 1 + 1, 0, none⟩ = some (.slice none 0 0) := nn.cell (by simp [go_sem])
    have r1 : w1.cell? ⟨w.heap.size + 1 + 1, 1, none⟩ = some (.slice none 0 0) := nn.cell (by simp [go_sem])
    have f0 : w1.frozen? ⟨w.heap.size + 1 + 1, 0, none⟩ = false := nn.frz (v := .slice none 0 0) (by simp [go_sem]) (by simp [go_sem])
    have f1 : w1.frozen? ⟨w.heap.size + 1 + 1, 1, none⟩ = false := nn.frz (v := .slice none 0 0) (by simp [go_sem]) (by simp [go_sem])
    have zz := nn.size
    (try simp only [World.size_alloc] at zz)
    have NW := Lib.hid (show New w w1 from New.trans (by repeat (first | with_reducible exact New.refl _ | with_reducible assumption | refine New.drewN ?_ _ | refine New.drew ?_ | refine New.alloc ?_ _ | refine New.setCell ?_ (by first | omega | (simp; omega) | (simp; done)) _ | (refine New.trans ?_ (by assumption)))) nn); clear nn
    go_wp2
    refine bodyPost_ret (v := .tuple #[.agg #[.slice sa n1 sc, .slice sb n2 sd], .bool g]) (by simp [results, Try.results11, go_sem, r0, r1]) rfl ⟨sa, n1, sc, sb, n2, sd, rfl, ?_, (NW.out.setCell (by first | omega | (simp; omega) | (simp; done)) _).setCell (by first | omega | (simp; omega) | (simp; done)) _⟩
    have of := OF.out
    simp only [World.size_alloc] at of
    exact ((of.setCell (p := ⟨w.heap.size + 1 + 1, 0, none⟩) (.inl (by dsimp only; omega)) _).setCell (p := ⟨w.heap.size + 1 + 1, 1, none⟩) (.inl (by dsimp only; omega)) _).mono (by omega) (by simp)

set_option maxRecDepth 100000 in
set_option maxHeartbeats 1000000 in
theorem iRunShip_any (w : World) (aa ab : Option Addr) (n m ca cb : Nat) (L : List Int) (F : List Bool) (up : Bool) (h1 : Ints w aa n ca L) (h2 : Bools w ab m cb F) :
    Calls Try.prog 20 #[.agg #[.slice aa n ca, .slice ab m cb], .bool up] w (RetFl w (shipM L F up).1 (shipM L F up).2 (fliB L F)) := by
  have HA := Lib.hid h1; clear h1
  have HB := Lib.hid h2; clear h2
  have HN := Lib.hid HA.out.len
  cases hf : fliB L F
  case false =>
    rw [shipM_no hf]
    have HF := Lib.hid hf; clear hf
    go_enter Try.func20, Try.ntmps20
    go_wp2_with fail
    refine (iIsFlight_any _ _ _ _ _ _ _ L F (HA.out.new (by repeat (first | with_reducible exact New.refl _ | with_reducible assumption | refine New.drewN ?_ _ | refine New.drew ?_ | refine New.alloc ?_ _ | refine New.setCell ?_ (by first | omega | (simp; omega) | (simp; done)) _ | (refine New.trans ?_ (by assumption))))) (HB.out.new (by repeat (first | with_reducible exact New.refl _ | with_reducible assumption | refine New.drewN ?_ _ | refine New.drew ?_ | refine New.alloc ?_ _ | refine New.setCell ?_ (by first | omega | (simp; omega) | (simp; done)) _ | (refine New.trans ?_ (by assumption)))))).mono ?_
    rintro e w1 ⟨rfl, n1⟩
    have RS : Hid (Res2 w1 (w.heap.size + 1)) := Lib.hid ⟨n1.cell (by simp [go_sem]), n1.cell (by simp [go_sem]), n1.frz (v := .slice none 0 0) (by simp [go_sem]) (by simp [go_sem]), n1.frz (v := .slice none 0 0) (by simp [go_sem]) (by simp [go_sem])⟩
    have NW := Lib.hid (show New w w1 from New.trans (by repeat (first | with_reducible exact New.refl _ | with_reducible assumption | refine New.drewN ?_ _ | refine New.drew ?_ | refine New.alloc ?_ _ | refine New.setCell ?_ (by first | omega | (simp; omega) | (simp; done)) _ | (refine New.trans ?_ (by assumption)))) n1); clear n1
    rw [HF.out]
    obtain ⟨r0, r1, f0, f1⟩ := RS.out
    go_wp2
    refine bodyPost_ret (v := .tuple #[.agg #[.slice none 0 0, .slice none 0 0], .bool false]) (by simp [results, Try.results20, go_sem, r0, r1]) rfl ⟨none, 0, 0, none, 0, 0, rfl, OwnF.nil _ _ _, (NW.out.setCell (by first | omega | (simp; omega) | (simp; done)) _).setCell (by first | omega | (simp; omega) | (simp; done)) _⟩
  case true =>
    have hl := (fliB_iff.1 hf).1
    have R : shipM L F up = (L, (shipK L (newK F L.length) up).F) := by unfold shipM; rw [if_pos hf]
    rw [R]
    clear R
    have HF := Lib.hid hf; clear hf
    go_enter Try.func20, Try.ntmps20
    go_wp2_with fail
    refine (iIsFlight_any _ _ _ _ _ _ _ L F (HA.out.new (by repeat (first | with_reducible exact New.refl _ | with_reducible assumption | refine New.drewN ?_ _ | refine New.drew ?_ | refine New.alloc ?_ _ | refine New.setCell ?_ (by first | omega | (simp; omega) | (simp; done)) _ | (refine New.trans ?_ (by assumption))))) (HB.out.new (by repeat (first | with_reducible exact New.refl _ | with_reducible assumption | refine New.drewN ?_ _ | refine New.drew ?_ | refine New.alloc ?_ _ | refine New.setCell ?_ (by first | omega | (simp; omega) | (simp; done)) _ | (refine New.trans ?_ (by assumption)))))).mono ?_
    rintro e w1 ⟨rfl, n1⟩
    have a30 : w1.cell? ⟨w.heap.size, 0, none⟩ = some (.slice aa n ca) := n1.cell (by simp [go_sem])
    have a31 : w1.cell? ⟨w.heap.size, 1, none⟩ = some (.slice ab m cb) := n1.cell (by simp [go_sem])
    have RS : Hid (Res2 w1 (w.heap.size + 1)) := Lib.hid ⟨n1.cell (by simp [go_sem]), n1.cell (by simp [go_sem]), n1.frz (v := .slice none 0 0) (by simp [go_sem]) (by simp [go_sem]), n1.frz (v := .slice none 0 0) (by simp [go_sem]) (by simp [go_sem])⟩
    have NW := Lib.hid (show New w w1 from New.trans (by repeat (first | with_reducible exact New.refl _ | with_reducible assumption | refine New.drewN ?_ _ | refine New.drew ?_ | refine New.alloc ?_ _ | refine New.setCell ?_ (by first | omega | (simp; omega) | (simp; done)) _ | (refine New.trans ?_ (by assumption)))) n1); clear n1
    rw [HF.out]
    have y1 := RS.out.lt
    go_wp2_with fail
    refine (iUnused_any _ _ _ _ _ _ _ L F (HA.out.new NW.out) (HB.out.new NW.out) HF.out).mono ?_
    rintro e w2 ⟨b1, c1, bf, cf, bc, bn, rfl, rows, n2⟩
    have RW := Lib.hid rows; clear rows
    replace RS := Lib.hid (RS.out.new n2)
    have N2 := Lib.hid (NW.out.trans n2)
    have y2 := n2.size
    clear n2 a30 a31
    go_upto_region 4 with fail
    have hlo := RW.out.lo
    have hhi := RW.out.hi
    obtain ⟨w3, hw3⟩ : ∃ xx : World, xx = w2.alloc (.cells #[.slice (some ⟨b1, 0, none⟩) n c1, .slice (some ⟨bf, 0, none⟩) n cf, .slice (some ⟨bc, 0, none⟩) (n + 1) (n + 1), .slice (some ⟨bn, 0, none⟩) n n] 59) := ⟨_, rfl⟩
    rw [← hw3]
    have N3 := Lib.hid (show New w w3 by rw [hw3]; exact N2.out.alloc _)
    have n23 : New w2 w3 := by rw [hw3]; exact (New.refl _).alloc _
    have B3 := Lib.hid (show LkBox w3 w2.heap.size (some ⟨b1, 0, none⟩) c1 bf cf bc (L.length + 1) bn L.length L (newK F L.length) from
      (RW.out.new n23).box ⟨by omega, by omega, by omega⟩ (by rw [hw3, ← HN.out]; simp) (by rw [hw3, ← HN.out]; simp) (by rw [hw3, ← HN.out]; simp) (by rw [hw3, ← HN.out]; simp))
    have R3 := Lib.hid (RW.out.new n23)
    replace RS := Lib.hid (RS.out.new n23)
    have y3 := n23.size
    clear hw3 n23 RW
    go_wp2_with fail
    refine (run_any _ _ _ _ _ _ _ _ _ _ _ _ up B3.out hl.1 hl.2).mono ?_
    rintro e w4 ⟨rfl, b4, k4⟩
    have B4 := Lib.hid b4
    have R4 := Lib.hid (R3.out.after b4 k4); clear b4
    replace RS := Lib.hid (RS.out.chg k4 (by omega))
    have N4 := Lib.hid (show New w w4 from k4.new N3.out (by rintro j (h | h | h) <;> omega))
    have y5 := k4.size
    clear k4
    have c0 := B4.out.c0
    have k1 := B4.out.c1
    have y6 := RS.out.lt
    obtain ⟨r0, r1, f0, f1⟩ := RS.out
    go_wp2
    refine bodyPost_ret (v := .tuple #[.agg #[.slice (some ⟨b1, 0, none⟩) L.length c1, .slice (some ⟨bf, 0, none⟩) L.length cf], .bool true]) (by simp [results, Try.results20, go_sem, r0, r1]) rfl ⟨_, _, _, _, _, _, rfl, ?_, (N4.out.setCell (by dsimp only; omega) _).setCell (by dsimp only; omega) _⟩
    have f4 := ((R4.out.setCell (p := ⟨w.heap.size + 1, 0, none⟩) (by dsimp only; omega) (.slice (some ⟨b1, 0, none⟩) L.length c1)).setCell (p := ⟨w.heap.size + 1, 1, none⟩) (by dsimp only; omega) (.slice (some ⟨bf, 0, none⟩) L.length cf)).flight
    exact f4.mono (by omega) (Nat.le_refl _)
end Go.Proofs.Ytejmmahjolkcgaa
