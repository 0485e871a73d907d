/- MakeMoves, the program's. -/
import Derived.Test.YtkonhflamnekcaaTakenI
import Derived.Test.YtkonhflamnekcaaSwap1
namespace Go.Proofs.Ytkonhflamnekcaa
open Go.RowKit

set_option maxRecDepth 100000 in
set_option maxHeartbeats 8000000 in
theorem iMakeMoves_any (w : World) (aa ab : Option Addr) (n m ca cb : Nat) (S H : List Int) (ma : Option Addr) (mn mc : Nat) (L : List (Int × Int)) (h1 : Ints w aa n ca S) (h2 : Ints w ab m cb H) (h3 : Pairs w ma mn mc L) :
    Calls Try.prog 16 #[.agg #[.slice aa n ca, .slice ab m cb], .slice ma mn mc] w (RetW w (madeM S H L).1 (madeM S H L).2.1 (madeM S H L).2.2) := by
  have HA := Lib.hid h1; clear h1
  have HB := Lib.hid h2; clear h2
  have HM := Lib.hid h3; clear h3
  go_enter Try.func16, Try.ntmps16
  go_wp2_with fail
  refine (holdingsAlong_any _ _ _ _ _ _ _ _ _ _ S H L (HA.out.new (by repeat (first | with_reducible exact New.refl _ | with_reducible assumption | refine New.drewN ?_ _ | refine New.drew ?_ | refine New.alloc ?_ _ | refine New.setCell ?_ (by first | omega | (simp; omega) | (simp; done)) _ | (refine New.trans ?_ (by assumption))))) (HB.out.new (by repeat (first | with_reducible exact New.refl _ | with_reducible assumption | refine New.drewN ?_ _ | refine New.drew ?_ | refine New.alloc ?_ _ | refine New.setCell ?_ (by first | omega | (simp; omega) | (simp; done)) _ | (refine New.trans ?_ (by assumption))))) (HM.out.new (by repeat (first | with_reducible exact New.refl _ | with_reducible assumption | refine New.drewN ?_ _ | refine New.drew ?_ | refine New.alloc ?_ _ | refine New.setCell ?_ (by first | omega | (simp; omega) | (simp; done)) _ | (refine New.trans ?_ (by assumption)))))).mono ?_
  rintro e w1 ⟨n1, hr⟩
  have a0 : w1.cell? ⟨w.heap.size, 0, none⟩ = some (.slice aa n ca) := n1.cell (by simp [go_sem])
  have r0 : w1.cell? ⟨w.heap.size + 1, 0, none⟩ = some (.slice none 0 0) := n1.cell (by simp [go_sem])
  have r1 : w1.cell? ⟨w.heap.size + 1, 1, none⟩ = some (.slice none 0 0) := n1.cell (by simp [go_sem])
  have f0 : w1.frozen? ⟨w.heap.size + 1, 0, none⟩ = false := n1.frz (v := .slice none 0 0) (by simp [go_sem]) (by simp [go_sem])
  have f1 : w1.frozen? ⟨w.heap.size + 1, 1, none⟩ = false := n1.frz (v := .slice none 0 0) (by simp [go_sem]) (by simp [go_sem])
  have N1 := Lib.hid (show New w w1 from New.trans (by repeat (first | with_reducible exact New.refl _ | with_reducible assumption | refine New.drewN ?_ _ | refine New.drew ?_ | refine New.alloc ?_ _ | refine New.setCell ?_ (by first | omega | (simp; omega) | (simp; done)) _ | (refine New.trans ?_ (by assumption)))) n1); clear n1
  rcases hr with ⟨hb, v, rfl, hf⟩ | ⟨hb, rfl⟩
  · obtain ⟨hG, h100, hok⟩ := movesB_iff.1 hb
    have hmn := HM.out.len
    have hn := HA.out.len
    have qm : mn ≤ 100 := by omega
    have hgl := along_good hG hok L.length (Nat.le_refl _)
    have HG := Lib.hid hG; clear hG
    have HGL := Lib.hid hgl; clear hgl
    have HN := Lib.hid (And.intro hn hmn); clear hn hmn h100 hok
    have HTK := Lib.hid (madeM_yes hb); clear hb
    obtain ⟨b, cap, rfl, hc, hl, hlt0, hcell⟩ := hf
    have HC := Lib.hid hcell; clear hcell
    obtain ⟨fn, hfn⟩ : ∃ fn, fn = L.length + 1 := ⟨_, rfl⟩
    rw [← hfn] at hc ⊢
    have hlt1 : mn < fn := by have := HN.out.2; omega
    have HFN := Lib.hid hfn; clear hfn
    have hz0 : w.heap.size + 1 < w1.heap.size := World.block_lt_of_cell? _ _ r0
    obtain ⟨g0, g1, g2, g3, g4⟩ := Fives.at (k := mn) HC.out (by have := HN.out.2; omega)
    have AE := Lib.hid (show along S H L mn = along S H L L.length by rw [HN.out.2])
    have R1 := Lib.hid (And.intro r0 (And.intro r1 (And.intro f0 f1))); clear r0 r1 f0 f1
    go_upto_region 4 with fail
    go_still_tail 7, (by kernel_rfl)
    change wpList _ _ _ _ _ w1.drew
    obtain ⟨w6, hw6⟩ : ∃ x, x = w1.drew := ⟨_, rfl⟩
    rw [← hw6]
    have N6 := Lib.hid (show New w1 w6 by rw [hw6]; exact (New.refl _).drew)
    clear hw6 g0 g1 g2 g3 g4 a0
    go_wp2_with fail
    refine (vesselsWith_any _ _ _ _ S (along S H L mn) (HA.out.new (N1.out.trans N6.out)) HG.out.1.1 HG.out.1.2 (by rw [AE.out]; exact HGL.out.2.1)).mono ?_
    rintro e w7 ⟨sa, sb, rfl, o7, n7⟩
    have OV := Lib.hid o7; clear o7
    obtain ⟨r0, r1, f0, f1⟩ := New.boxed (N6.out.trans n7) R1.out.1 R1.out.2.1 R1.out.2.2.1 R1.out.2.2.2
    have N7 := Lib.hid (N1.out.trans (N6.out.trans n7))
    have zz := n7.size
    have z6 := N6.out.size
    clear n7
    go_wp2
    have nn := N7.out
    refine bodyPost_ret (v := .tuple #[.agg #[.slice sa n n, .slice sb n n], .bool true]) (by simp [results, Try.results16, go_sem, r0, r1]) rfl ?_
    rw [HTK.out, ← AE.out]
    refine ⟨_, _, _, _, _, _, rfl, ?_, (by repeat (first | with_reducible exact New.refl _ | with_reducible assumption | refine New.drewN ?_ _ | refine New.drew ?_ | refine New.alloc ?_ _ | refine New.setCell ?_ (by first | omega | (simp; omega) | (simp; done)) _ | (refine New.trans ?_ (by assumption))))⟩
    exact ((OV.out.setCell (.inl (by simp; omega)) _).setCell (.inl (by simp; omega)) _).mono (by omega) (by simp)
  · have HTK := Lib.hid (madeM_no hb); clear hb
    go_wp2
    have nn := N1.out
    refine bodyPost_ret (v := .tuple #[.agg #[.slice none 0 0, .slice none 0 0], .bool false]) (by simp [results, Try.results16, go_sem, r0, r1]) rfl ?_
    rw [HTK.out]
    exact ⟨none, 0, 0, none, 0, 0, rfl, OwnV.nil _ _ _, (by repeat (first | with_reducible exact New.refl _ | with_reducible assumption | refine New.drewN ?_ _ | refine New.drew ?_ | refine New.alloc ?_ _ | refine New.setCell ?_ (by first | omega | (simp; omega) | (simp; done)) _ | (refine New.trans ?_ (by assumption))))⟩
end Go.Proofs.Ytkonhflamnekcaa
