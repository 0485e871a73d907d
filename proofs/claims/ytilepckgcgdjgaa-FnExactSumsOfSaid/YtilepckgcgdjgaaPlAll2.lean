/- All vessels that are reached: the walk of the model's search. -/
import Derived.Test.YtilepckgcgdjgaaPlAll
import Derived.Test.YtilepckgcgdjgaaOnI
namespace Go.Proofs.Ytilepckgcgdjgaa
open Go.RowKit

/-- What the search comes to: all that is found, or more than may be. -/
def PlRet (w : World) (S H : List Int) (cl : Bool) (e : Ending) (w' : World) : Prop :=
  New w w' ∧ if fewB S H cl 3000 = true then ∃ R base O va vf vm vr vo P Q, e = .returned (.tuple #[.pointer (some ⟨R, 0, none⟩), .bool true]) ∧ Reach w w' R base S (endN S H cl 3000) O va vf vm vr vo P Q
    else ∃ R, e = .returned (.tuple #[.pointer (some ⟨R, 0, none⟩), .bool false])

theorem veOn_size {S H : List Int} {cl : Bool} (hg : Good S H) : (onL S H cl).length ≤ 42 := by
  unfold onL
  have := gridUp_length (onB S H cl) (-1) (S.length + 1) (S.length + 1)
  have h := hg.1.2
  have : (S.length + 1) * (S.length + 1) ≤ 6 * 6 := Nat.mul_le_mul (by omega) (by omega)
  omega

set_option maxRecDepth 100000 in
set_option maxHeartbeats 8000000 in
theorem plAll_any (w : World) (aa ab : Option Addr) (n m ca cb : Nat) (S H : List Int) (cl : Bool) (h1 : Ints w aa n ca S) (h2 : Ints w ab m cb H) (hg : Good S H) :
    Calls Try.prog 53 #[.agg #[.slice aa n ca, .slice ab m cb], .bool cl] w (PlRet w S H cl) := by
  have RC0 := Lib.hid (reach_start w aa ab n m ca cb S H h1 h2 hg rfl)
  have HA := Lib.hid h1; clear h1
  have HB := Lib.hid h2; clear h2
  have HG := Lib.hid hg; clear hg
  go_enter Try.func53, Try.ntmps53
  go_wp2
  obtain ⟨v0, hv0⟩ : ∃ W, W = ((((((w.alloc (.cells #[.slice aa n ca, .slice ab m cb] 28)).alloc (.cells #[.slice aa n ca, .slice ab m cb] 28)).alloc (.cells #[.int .i64 (-1)] 3)).alloc (.cells #[.int .i64 0, .int .i64 0] 77)).alloc (.cells #[.int .i64 0] 3)).alloc (.cells #[.int .i64 0] 3)).alloc
      (.cells #[.slice (some ⟨w.heap.size + 1, 0, none⟩) 1 1, .slice (some ⟨w.heap.size + 1 + 1, 0, none⟩) 1 1, .slice (some ⟨w.heap.size + 1 + 1 + 1, 0, none⟩) 1 1, .slice (some ⟨w.heap.size + 1 + 1 + 1 + 1, 0, none⟩) 1 1, .slice (some ⟨w.heap.size + 1 + 1 + 1 + 1 + 1, 0, none⟩) 1 1] 54) := ⟨_, rfl⟩
  rw [← hv0]
  have rc := RC0.out
  rw [← hv0] at rc
  clear hv0 RC0
  obtain ⟨R, hR⟩ : ∃ R, R = w.heap.size + 1 + 1 + 1 + 1 + 1 + 1 := ⟨_, rfl⟩
  obtain ⟨base, hbase⟩ : ∃ b, b = w.heap.size + 1 := ⟨_, rfl⟩
  rw [← hR, ← hbase] at rc
  rw [← hR]
  have RC := Lib.hid rc
  clear rc hR hbase
  go_loopw [7] (fun i wr => ∃ (k : Nat) (O : List Nat) (va vf vm vr vo : Value) (P Q : Nat → Value), i = .int .i64 k ∧ k ≤ (seqN S H cl k).length ∧ (seqN S H cl k).length ≤ 3000 ∧ Reach w wr R base S (seqN S H cl k) O va vf vm vr vo P Q) (fun i _ => 3001 - (intOf i).toNat)
  case atStart => exact ⟨0, [0], _, _, _, _, _, _, _, rfl, by omega, by simp [seqN], RC.out⟩
  case round =>
    obtain ⟨k, O, va, vf, vm, vr, vo, P, Q, rfl, hkl, hlen, hrc⟩ := hrel
    obtain ⟨L, hL⟩ : ∃ L, L = seqN S H cl k := ⟨_, rfl⟩
    have hfd := found_seq cl HG.out k
    rw [← hL] at hkl hlen hrc hfd
    have FD := Lib.hid hfd; clear hfd
    have EL := Lib.hid hL; clear hL
    have RK := Lib.hid hrc; clear hrc
    clear RC
    obtain ⟨N, hN⟩ : ∃ N, N = L.length := ⟨_, rfl⟩
    have HN := Lib.hid hN
    rw [← hN] at hkl hlen
    have N1 : 0 < N := by rw [hN]; exact FD.out.pos
    clear hN
    obtain ⟨ga, ca', go, co, c0, c4, el, ol⟩ := RK.out.read (by have := HN.out; omega)
    rw [← HN.out] at c0 c4
    clear c4 ol
    by_cases hlt : k < N
    · obtain ⟨sa, n1, sc, sb, m1, sd, e1, e2, i1, i2⟩ := el k (by have := HN.out; omega)
      have I1 := Lib.hid i1; clear i1
      have I2 := Lib.hid i2; clear i2
      clear el
      have GK := Lib.hid (FD.out.good k (by have := HN.out; omega))
      have kI : (k : Int) < (N : Int) := by omega
      go_wp2_with fail
      refine (veOn_any _ _ _ _ _ _ _ S (L[k]?.getD dN).h cl (I1.out.new (by repeat (first | with_reducible exact New.refl _ | with_reducible assumption | refine New.drewN ?_ _ | refine New.drew ?_ | refine New.alloc ?_ _ | refine New.setCell ?_ (by first | omega | (simp; omega) | (simp; done)) _ | (refine New.trans ?_ (by assumption))))) (I2.out.new (by repeat (first | with_reducible exact New.refl _ | with_reducible assumption | refine New.drewN ?_ _ | refine New.drew ?_ | refine New.alloc ?_ _ | refine New.setCell ?_ (by first | omega | (simp; omega) | (simp; done)) _ | (refine New.trans ?_ (by assumption))))) GK.out).mono ?_
      rintro e w1 ⟨mo, mn, mc, rfl, om, n1'⟩
      have N1' := Lib.hid n1'; clear n1'
      have ML := Lib.hid om; clear om
      have RK1 := Lib.hid (RK.out.newer N1'.out)
      have MS := Lib.hid (show mn = (onL S (L[k]?.getD dN).h cl).length from ML.out.1)
      have m42 : mn ≤ 42 := by rw [MS.out]; exact veOn_size GK.out
      obtain ⟨ps, hps⟩ : ∃ ps, ps = onL S (L[k]?.getD dN).h cl := ⟨_, rfl⟩
      rw [← hps] at ML MS
      have PS := Lib.hid hps; clear hps
      have far0 : ∀ b, mn ≠ 0 → blkOf mo = some b → Far R [va, vf, vm, vr, vo] b := fun b hb e => by
        have q1 := ML.out.bounds hb e
        refine ⟨by have := RK.out.box.lt (r := r0 va L.length P Q) (by simp); omega, fun v hv e2 => ?_⟩
        have low : ∀ r ∈ [r0 va L.length P Q, r1 vf L, r2 vm L, r3 vr L, r4 vo O], r.v.ownBlock ≠ some b := fun r hr e3 => by
          have := (RK.out.box.own r hr).lt b e3
          omega
        simp only [List.mem_cons, List.not_mem_nil, or_false] at hv
        rcases hv with rfl | rfl | rfl | rfl | rfl
        · exact low (r0 v L.length P Q) (by simp) e2
        · exact low (r1 v L) (by simp) e2
        · exact low (r2 v L) (by simp) e2
        · exact low (r3 v L) (by simp) e2
        · exact low (r4 v O) (by simp) e2
      have MF := Lib.hid (show MovF w1 R [va, vf, vm, vr, vo] mo mn mc ps from ⟨ML.out.pairs, far0⟩)
      clear far0 c0 e1 e2
      obtain ⟨wo, rfl⟩ : ∃ u, u = wr := ⟨_, rfl⟩
      go_wp2
      go_loopw [41] (fun i wr2 => ∃ (j : Nat) (O' : List Nat) (va vf vm vr vo : Value) (P Q : Nat → Value), i = .int .i64 j ∧ j ≤ mn ∧ (addsN S L k ps j).length ≤ 3000 ∧ Reach w wr2 R base S (addsN S L k ps j) O' va vf vm vr vo P Q ∧ MovF wr2 R [va, vf, vm, vr, vo] mo mn mc ps) (fun i _ => mn - (intOf i).toNat)
      case atStart => exact ⟨0, O, va, vf, vm, vr, vo, P, Q, rfl, Nat.zero_le _, by show L.length ≤ 3000; have := HN.out; omega, RK1.out, MF.out⟩
      case round =>
        obtain ⟨j, O2, va2, vf2, vm2, vr2, vo2, P2, Q2, rfl, hj, hl3, hrc, hmv⟩ := hrel
        have MV := Lib.hid hmv; clear hmv
        have KL := Lib.hid (show k < L.length by have := HN.out; omega)
        have PK := Lib.hid (show ∀ i, i < ps.length → MoveOk S.length (ps[i]?.getD (0, 0)).1 (ps[i]?.getD (0, 0)).2 from fun i hi => by rw [PS.out] at hi ⊢; exact onL_at hi)
        have fm := FD.out.adds KL.out (show j ≤ ps.length by have := MS.out; omega) PK.out
        have gk := adds_get (S := S) (ps := ps) KL.out j
        have pf : L <+: addsN S L k ps j := addsN_prefix S L k ps (Nat.zero_le j)
        obtain ⟨M, hM⟩ : ∃ M, M = addsN S L k ps j := ⟨_, rfl⟩
        rw [← hM] at hl3 hrc fm gk pf
        have EM := Lib.hid hM; clear hM
        have FM := Lib.hid fm; clear fm
        have GM := Lib.hid gk; clear gk
        have RM := Lib.hid hrc; clear hrc
        have PF := Lib.hid pf; clear pf
        clear RK1 MF
        obtain ⟨T, hT⟩ : ∃ T, T = M.length := ⟨_, rfl⟩
        have HT := Lib.hid hT
        rw [← hT] at hl3
        clear hT
        have T1 : 0 < T := by rw [HT.out]; exact FM.out.pos
        have kT : k < T := by have := PF.out.length_le; have := KL.out; have := HT.out; omega
        obtain ⟨ga2, ca2, go2, co2, c0, c4, el, ol⟩ := RM.out.read (by have := HT.out; omega)
        rw [← HT.out] at c0 c4
        clear c4 ol
        by_cases hlt2 : j < mn
        · obtain ⟨bm, om_, rfl, x0, x1⟩ := MV.out.1.2.2.2.1 j hlt2
          obtain ⟨q, hq⟩ : ∃ q, q = ps[j]?.getD (0, 0) := ⟨_, rfl⟩
          have ok := PK.out j (by have := MS.out; omega)
          rw [← hq] at x0 x1 ok
          obtain ⟨f, t⟩ := q
          simp only at x0 x1 ok
          have OK := Lib.hid ok; clear ok
          have HQ := Lib.hid hq; clear hq
          obtain ⟨sa2, n2, sc2, sb2, m2, sd2, e1, e2, i1, i2⟩ := el k (by have := HT.out; omega)
          rw [GM.out] at i2
          have J1 := Lib.hid i1; clear i1
          have J2 := Lib.hid i2; clear i2
          clear el
          have kI2 : (k : Int) < (T : Int) := by omega
          have k0 : (0 : Int) ≤ (k : Int) := by omega
          go_upto_region 8 with fail
          obtain ⟨v1, hv1⟩ : ∃ v, v = wr.alloc (.cells #[.int .i64 f, .int .i64 t] 77) := ⟨_, rfl⟩
          rw [← hv1]
          have nv : New wr v1 := by rw [hv1]; exact (by repeat (first | with_reducible exact New.refl _ | with_reducible assumption | refine New.drewN ?_ _ | refine New.drew ?_ | refine New.alloc ?_ _ | refine New.setCell ?_ (by first | omega | (simp; omega) | (simp; done)) _ | (refine New.trans ?_ (by assumption))))
          have ZV1 := Lib.hid (show v1.heap.size = wr.heap.size + 1 by rw [hv1]; simp)
          have b0 : v1.cell? ⟨wr.heap.size, 0, none⟩ = some (.int .i64 f) := by rw [hv1]; simp [go_sem]
          have b1 : v1.cell? ⟨wr.heap.size, 1, none⟩ = some (.int .i64 t) := by rw [hv1]; simp [go_sem]
          replace c0 := nv.cell c0
          replace e1 := nv.cell e1
          replace e2 := nv.cell e2
          have NV1 := Lib.hid nv; clear nv hv1 x0 x1
          have zR : R < v1.heap.size := World.block_lt_of_cell? _ _ c0
          have zga : ga2 < v1.heap.size := World.block_lt_of_cell? _ _ e1
          have zbx : wr.heap.size < v1.heap.size := World.block_lt_of_cell? _ _ b0
          have J1v := Lib.hid (J1.out.new NV1.out)
          have J2v := Lib.hid (J2.out.new NV1.out)
          go_cut [10] (fun p W => CutV v1 S (poured S (L[k]?.getD dN).h f t) p W)
          case first =>
            go_region_held3 (fun w' => w'.cell? ⟨R, 0, none⟩ = some (.slice (some ⟨ga2, 0, none⟩) T ca2) ∧ w'.cell? ⟨ga2, k * 2, none⟩ = some (.slice sa2 n2 sc2) ∧ w'.cell? ⟨ga2, k * 2 + 1, none⟩ = some (.slice sb2 m2 sd2) ∧ w'.cell? ⟨wr.heap.size, 0, none⟩ = some (.int .i64 f) ∧ w'.cell? ⟨wr.heap.size, 1, none⟩ = some (.int .i64 t))
              (first | exact ⟨c0, e1, e2, b0, b1⟩ | exact ⟨World.cell_kept c0, World.cell_kept e1, World.cell_kept e2, World.cell_kept b0, World.cell_kept b1⟩ | exact ⟨d0, f1, f2, g0, g1⟩ | exact ⟨World.cell_kept d0, World.cell_kept f1, World.cell_kept f2, World.cell_kept g0, World.cell_kept g1⟩ | exact ⟨World.cell_set (World.cell_set d0 (by simp; omega)) (by simp; omega), World.cell_set (World.cell_set f1 (by simp; omega)) (by simp; omega), World.cell_set (World.cell_set f2 (by simp; omega)) (by simp; omega), World.cell_set (World.cell_set g0 (by simp; omega)) (by simp; omega), World.cell_set (World.cell_set g1 (by simp; omega)) (by simp; omega)⟩ | fail)
              (first
                | (go_at_call 46; refine (veMake_any _ _ _ _ _ _ _ S (L[k]?.getD dN).h f t (J1v.out.new (by repeat (first | with_reducible exact New.refl _ | with_reducible assumption | refine New.drewN ?_ _ | refine New.drew ?_ | refine New.alloc ?_ _ | refine New.setCell ?_ (by first | omega | (simp; omega) | (simp; done)) _ | (refine New.trans ?_ (by assumption))))) (J2v.out.new (by repeat (first | with_reducible exact New.refl _ | with_reducible assumption | refine New.drewN ?_ _ | refine New.drew ?_ | refine New.alloc ?_ _ | refine New.setCell ?_ (by first | omega | (simp; omega) | (simp; done)) _ | (refine New.trans ?_ (by assumption))))) GK.out OK.out).mono ?_; rintro e w3 ⟨pa, pc, pb, pd, rfl, o3, n3⟩; (try replace n3 := New.undrew n3); have d0 : w3.cell? ⟨R, 0, none⟩ = some (.slice (some ⟨ga2, 0, none⟩) T ca2) := n3.cell (by first | exact c0 | exact World.cell_kept c0); have f1 : w3.cell? ⟨ga2, k * 2, none⟩ = some (.slice sa2 n2 sc2) := n3.cell (by first | exact e1 | exact World.cell_kept e1); have f2 : w3.cell? ⟨ga2, k * 2 + 1, none⟩ = some (.slice sb2 m2 sd2) := n3.cell (by first | exact e2 | exact World.cell_kept e2); have g0 : w3.cell? ⟨wr.heap.size, 0, none⟩ = some (.int .i64 f) := n3.cell (by first | exact b0 | exact World.cell_kept b0); have g1 : w3.cell? ⟨wr.heap.size, 1, none⟩ = some (.int .i64 t) := n3.cell (by first | exact b1 | exact World.cell_kept b1); (try (have kk := New.box n3; obtain ⟨j0, j1, j2, j3, j4⟩ := kk))))
            all_goals (go_wp2_with fail; go_meet)
            all_goals
              have m3 : New v1 w3 := by first | exact n3 | exact ((New.refl _).alloc _).trans n3
              have y3 := n3.size
              (try simp only [World.size_alloc] at y3)
              (try simp only [World.size_alloc, World.size_drew] at o3)
              have v3 := m3.size
              have ov : OwnV w3 v1.heap.size w3.heap.size _ _ _ _ _ _ _ _ := OwnV.mono o3 (by omega) (Nat.le_refl _)
              first
                | exact CutV.mk (BoxV.behind m3 ov)
                | exact CutV.mk (BoxV.put m3 (by omega) (by omega) j0 j1 ov (fun h e => by have := OwnV.b1 o3 h e; omega) (fun h e => by have := OwnV.b2 o3 h e; omega))
          case rest =>
            obtain ⟨B, xa, xn, xc, xb, xm, xd, rfl, bx⟩ := hcut
            obtain ⟨w4, rfl⟩ : ∃ u : World, u = wc := ⟨_, rfl⟩
            have BX := Lib.hid bx; clear bx
            clear c0 e1 e2
            obtain ⟨nx, hnx⟩ : ∃ nx, nx = poured S (L[k]?.getD dN).h f t := ⟨_, rfl⟩
            rw [← hnx] at BX
            have NX := Lib.hid hnx; clear hnx
            have R4 := Lib.hid (RM.out.newer (NV1.out.trans BX.out.new))
            have M4 := Lib.hid (MV.out.keep (Keeps.of_new (NV1.out.trans BX.out.new)))
            replace b0 := BX.out.new.cell b0
            replace b1 := BX.out.new.cell b1
            have n0 := BX.out.c0
            have n1 := BX.out.c1
            have GX := Lib.hid (show Good S nx by rw [NX.out]; exact GK.out.poured OK.out)
            go_wp2_with fail
            refine (plPlace_any _ R S H M O2 _ _ _ _ _ _ nx (R4.out.read (by have := HT.out; omega)) (BX.out.own.2.1.ints) GX.out.2.1 FM.out R4.out.ord (by have := HT.out; omega)).mono ?_
            rintro e w5 ⟨at', rfl, pl, n5⟩
            have N5 := Lib.hid n5; clear n5
            have PL := Lib.hid pl; clear pl
            replace b0 := N5.out.cell b0
            replace b1 := N5.out.cell b1
            replace n0 := N5.out.cell n0
            replace n1 := N5.out.cell n1
            have R5 := Lib.hid (R4.out.newer N5.out)
            have M5 := Lib.hid (M4.out.keep (Keeps.of_new N5.out))
            clear R4 M4
            cases hb : nHas M nx
            case true =>
              have EA := Lib.hid (show addsN S L k ps (j + 1) = M by
                show addN S (addsN S L k ps j) k (ps[j]?.getD (0, 0)) = M
                rw [← EM.out, ← HQ.out]
                unfold addN
                rw [GM.out]
                show (if nHas M (poured S (L[k]?.getD dN).h f t) = true then M else _) = M
                rw [← NX.out, if_pos hb])
              clear hb
              go_wp2
              go_roundw
              case rel => exact ⟨j + 1, O2, va2, vf2, vm2, vr2, vo2, P2, Q2, by go_num, by omega, by rw [EA.out]; have := HT.out; omega, by rw [EA.out]; exact R5.out, M5.out⟩
              case measure => simp [intOf]; omega
            case false =>
              have EA := Lib.hid (show addsN S L k ps (j + 1) = M ++ [⟨nx, (k : Int), (f, t), (M[k]?.getD dN).far + 1⟩] by
                show addN S (addsN S L k ps j) k (ps[j]?.getD (0, 0)) = _
                rw [← EM.out, ← HQ.out]
                unfold addN nextN
                rw [GM.out]
                show (if nHas M (poured S (L[k]?.getD dN).h f t) = true then M else M ++ [⟨poured S (L[k]?.getD dN).h f t, _, _, _⟩]) = _
                rw [← NX.out, if_neg (by rw [hb]; decide)])
              have HX := Lib.hid hb; clear hb
              obtain ⟨i1, hj1, hy0, hy1, hy2⟩ := info_parts Try.infoVes
              have br := R5.out.box
              have BR5 := Lib.hid br
              have c0 := br.cell (r0 va2 M.length P2 Q2) (by simp)
              have zR5 := br.lt (r := r0 va2 M.length P2 Q2) (by simp)
              have zl := R5.out.lo
              have T3 : T ≤ 3000 := hl3
              have c0' : w5.cell? ⟨R, 0, none⟩ = some va2 := c0
              have zbase : base ≤ w5.heap.size := by have := (br.own (r0 va2 M.length P2 Q2) (by simp)); obtain ⟨g, cp, _, _, h1, h2, _⟩ := own_read this (by show 0 < M.length; have := HT.out; omega); omega
              clear c0 br
              have NW5 := Lib.hid R5.out.new
              have H5 := Lib.hid (show wr.heap.size < w5.heap.size by have := (BX.out.new.trans N5.out).size; omega)
              have OW0 := Lib.hid (show w5.ownsRow base 28 2 va2 T (flatPQ P2 Q2 M.length) from by have q := BR5.out.own (r0 va2 M.length P2 Q2) (by simp); rw [HT.out]; exact q)
              have OL := Lib.hid (show O2.length = T from by rw [HT.out]; exact R5.out.ord.len)
              have FB := Lib.hid (show Far R [va2, vf2, vm2, vr2, vo2] wr.heap.size from by
                have hb := RM.out.box
                refine ⟨by have := hb.lt (r := r0 va2 M.length P2 Q2) (by simp); omega, fun v hv e2 => ?_⟩
                have low : ∀ r ∈ [r0 va2 M.length P2 Q2, r1 vf2 M, r2 vm2 M, r3 vr2 M, r4 vo2 O2], r.v.ownBlock ≠ some wr.heap.size := fun r hr e3 => by
                  have := (hb.own r hr).lt _ e3
                  omega
                simp only [List.mem_cons, List.not_mem_nil, or_false] at hv
                rcases hv with rfl | rfl | rfl | rfl | rfl
                · exact low (r0 v M.length P2 Q2) (by simp) e2
                · exact low (r1 v M) (by simp) e2
                · exact low (r2 v M) (by simp) e2
                · exact low (r3 v M) (by simp) e2
                · exact low (r4 v O2) (by simp) e2)
              go_upto_region 11 with fail
              go_cut [6] (fun p W => p = .pointer (some ⟨R, 0, none⟩) ∧ ∃ g cap, Grew w w5 W R base [r0 va2 M.length P2 Q2, r1 vf2 M, r2 vm2 M, r3 vr2 M, r4 vo2 O2] [(r0 va2 M.length P2 Q2).as (.slice (some ⟨g, 0, none⟩) (T + 1) cap) (T + 1) (flatPQ P2 Q2 M.length ++ [.slice xa xn xc, .slice xb xm xd]), r1 vf2 M, r2 vm2 M, r3 vr2 M, r4 vo2 O2])
              case first =>
                go_region_law (refine step_append_lies _ (by rfl) (.tmp 65) (.tmp 67) 52 (by rfl) base 28 i1 _ 2 48 Try.underlying52 hj1 hy0 hy1 hy2 rfl (by decide) va2 T _ (by rfl) (ownsRow_new OW0.out (by repeat (first | with_reducible exact New.refl _ | with_reducible assumption | refine New.drewN ?_ _ | refine New.drew ?_ | refine New.alloc ?_ _ | refine New.setCell ?_ (by first | omega | (simp; omega) | (simp; done)) _ | (refine New.trans ?_ (by assumption))))) _ _ _ [.slice xa xn xc, .slice xb xm xd] (by rfl) (by rfl) (World.news_of_block (cs := #[.slice xa xn xc, .slice xb xm xd]) (t := 28) (fr := (0, 0)) (heap_alloc_new _ _)) (by simp [Value.oneCell']) (by omega) (by unfold maxLen; omega) (by omega) (by simp; omega) _ rfl ?_; intro g cap w' ho hg hb' hlt'; have kk := BRows.store (r := r0 va2 M.length P2 Q2) (BR5.out.new (by repeat (first | with_reducible exact New.refl _ | with_reducible assumption | refine New.drewN ?_ _ | refine New.drew ?_ | refine New.alloc ?_ _ | refine New.setCell ?_ (by first | omega | (simp; omega) | (simp; done)) _ | (refine New.trans ?_ (by assumption))))) (by simp) hg; obtain ⟨s0, s1⟩ := kk; replace s0 : w'.cell? ⟨R, 0, none⟩ = some va2 := s0; replace s1 : w'.frozen? ⟨R, 0, none⟩ = false := s1)
                all_goals (go_wp2_with fail; go_meet)
                all_goals exact ⟨rfl, g, cap, BR5.out.grown (pre := []) (r := r0 va2 M.length P2 Q2) (by repeat (first | with_reducible exact New.refl _ | with_reducible assumption | refine New.drewN ?_ _ | refine New.drew ?_ | refine New.alloc ?_ _ | refine New.setCell ?_ (by first | omega | (simp; omega) | (simp; done)) _ | (refine New.trans ?_ (by assumption)))) ho hg hb' NW5.out zl.1 zl.2⟩
              case rest =>
                obtain ⟨rfl, g6, cap6, gr6⟩ := hcut
                obtain ⟨w6, rfl⟩ : ∃ u : World, u = wc := ⟨_, rfl⟩
                obtain ⟨a6, ha6⟩ : ∃ a, a = (r0 va2 M.length P2 Q2).as (.slice (some ⟨g6, 0, none⟩) (T + 1) cap6) (T + 1) (flatPQ P2 Q2 M.length ++ [.slice xa xn xc, .slice xb xm xd]) := ⟨_, rfl⟩
                rw [← ha6] at gr6
                have A6 := Lib.hid ha6; clear ha6
                have BR6 := Lib.hid gr6.1
                have KP6 := Lib.hid gr6.2.1
                have NW6 := Lib.hid gr6.2.2
                clear gr6 n0 n1 c0'
                obtain ⟨i0, hi0, hz0, hz1, hz2⟩ := info_parts Try.infoInt
                have c1 : w6.cell? ⟨R, 1, none⟩ = some vf2 := BR6.out.cell (r1 vf2 M) (by simp)
                have OW1 := Lib.hid (show w6.ownsRow base 3 1 vf2 T (frL M) from by have q := BR6.out.own (r1 vf2 M) (by simp); rw [HT.out]; exact q)
                have z6 := KP6.out.1
                have zR6 := BR6.out.lt (r := r1 vf2 M) (by simp)
                have zb6 : base ≤ w6.heap.size := by omega
                replace b0 := KP6.out.cell (p := ⟨wr.heap.size, 0, none⟩) FB.out b0
                replace b1 := KP6.out.cell (p := ⟨wr.heap.size, 1, none⟩) FB.out b1
                go_upto_region 13 with (at_builtin; refine wpList_append_lies _ (by rfl) (.tmp 75) (.tmp 77) 22 (by rfl) base 3 i0 (.int .i64 0) 1 8 Try.underlying22 hi0 hz0 hz1 hz2 rfl (by decide) vf2 T _ (by rfl) (ownsRow_new OW1.out (by repeat (first | with_reducible exact New.refl _ | with_reducible assumption | refine New.drewN ?_ _ | refine New.drew ?_ | refine New.alloc ?_ _ | refine New.setCell ?_ (by first | omega | (simp; omega) | (simp; done)) _ | (refine New.trans ?_ (by assumption))))) _ _ _ [.int .i64 (k : Int)] (by rfl) (by rfl) (World.news_of_block (cs := #[.int .i64 (k : Int)]) (t := 3) (fr := (0, 0)) (heap_alloc_new _ _)) (by simp [Value.oneCell']) (by omega) (by unfold maxLen; omega) (by omega) (by simp; omega) _ rfl ?_; intro g7 cap7 w' ho hg hb' hlt'; have kk := BRows.store (r := r1 vf2 M) (BR6.out.new (by repeat (first | with_reducible exact New.refl _ | with_reducible assumption | refine New.drewN ?_ _ | refine New.drew ?_ | refine New.alloc ?_ _ | refine New.setCell ?_ (by first | omega | (simp; omega) | (simp; done)) _ | (refine New.trans ?_ (by assumption))))) (by simp) hg; obtain ⟨s0, s1⟩ := kk; replace s0 : w'.cell? ⟨R, 1, none⟩ = some vf2 := s0; replace s1 : w'.frozen? ⟨R, 1, none⟩ = false := s1)
                have gr7 := BR6.out.grown (pre := [a6]) (r := r1 vf2 M) (post := [r2 vm2 M, r3 vr2 M, r4 vo2 O2]) (by repeat (first | with_reducible exact New.refl _ | with_reducible assumption | refine New.drewN ?_ _ | refine New.drew ?_ | refine New.alloc ?_ _ | refine New.setCell ?_ (by first | omega | (simp; omega) | (simp; done)) _ | (refine New.trans ?_ (by assumption)))) ho hg hb' NW6.out zl.1 zl.2
                clear ho hg hb' hlt' s0 s1 c1
                obtain ⟨a7, ha7⟩ : ∃ a, a = (r1 vf2 M).as (.slice (some ⟨g7, 0, none⟩) (T + 1) cap7) (T + 1) (frL M ++ [.int .i64 (k : Int)]) := ⟨_, rfl⟩
                obtain ⟨w7, hw7⟩ : ∃ W, W = w'.setCell ⟨R, 1, none⟩ (.slice (some ⟨g7, 0, none⟩) (T + 1) cap7) := ⟨_, rfl⟩
                rw [← hw7]
                have gr7' : Grew w w6 w7 R base [a6, r1 vf2 M, r2 vm2 M, r3 vr2 M, r4 vo2 O2] [a6, a7, r2 vm2 M, r3 vr2 M, r4 vo2 O2] := by rw [hw7, ha7]; exact gr7
                have A7 := Lib.hid ha7
                clear ha7 hw7 gr7
                have BR7 := Lib.hid gr7'.1
                have KP7 := Lib.hid gr7'.2.1
                have NW7 := Lib.hid gr7'.2.2
                clear gr7'
                have FB7 := Lib.hid (show Far R [a6.v, a7.v, vm2, vr2, vo2] wr.heap.size from ((KP6.out.trans KP7.out).2 wr.heap.size H5.out FB.out).2)
                replace b0 := KP7.out.cell (p := ⟨wr.heap.size, 0, none⟩) ((KP6.out.2 wr.heap.size H5.out FB.out).2) b0
                replace b1 := KP7.out.cell (p := ⟨wr.heap.size, 1, none⟩) ((KP6.out.2 wr.heap.size H5.out FB.out).2) b1
                obtain ⟨i2, hi2, hm0, hm1, hm2⟩ := info_parts Try.infoMove
                have c2 : w7.cell? ⟨R, 2, none⟩ = some vm2 := BR7.out.cell (r2 vm2 M) (by simp)
                have OW2 := Lib.hid (show w7.ownsRow base 77 2 vm2 T (mvL M) from by have q := BR7.out.own (r2 vm2 M) (by simp); rw [HT.out]; exact q)
                have z7 := KP7.out.1
                have zR7 := BR7.out.lt (r := r2 vm2 M) (by simp)
                have zb7 : base ≤ w7.heap.size := by omega
                go_cut [6] (fun p W => p = .pointer (some ⟨R, 0, none⟩) ∧ ∃ g cap, Grew w w7 W R base [a6, a7, r2 vm2 M, r3 vr2 M, r4 vo2 O2] [a6, a7, (r2 vm2 M).as (.slice (some ⟨g, 0, none⟩) (T + 1) cap) (T + 1) (mvL M ++ [.int .i64 f, .int .i64 t]), r3 vr2 M, r4 vo2 O2])
                case first =>
                  go_region_law (refine step_append_lies _ (by rfl) (.tmp 85) (.tmp 87) 43 (by rfl) base 77 i2 _ 2 16 Try.underlying43 hi2 hm0 hm1 hm2 rfl (by decide) vm2 T _ (by rfl) (ownsRow_new OW2.out (by repeat (first | with_reducible exact New.refl _ | with_reducible assumption | refine New.drewN ?_ _ | refine New.drew ?_ | refine New.alloc ?_ _ | refine New.setCell ?_ (by first | omega | (simp; omega) | (simp; done)) _ | (refine New.trans ?_ (by assumption))))) _ _ _ [.int .i64 f, .int .i64 t] (by rfl) (by rfl) (World.news_of_block (cs := #[.int .i64 f, .int .i64 t]) (t := 77) (fr := (0, 0)) (heap_alloc_new _ _)) (by simp [Value.oneCell']) (by omega) (by unfold maxLen; omega) (by omega) (by simp; omega) _ rfl ?_; intro g cap w' ho hg hb' hlt'; have kk := BRows.store (r := r2 vm2 M) (BR7.out.new (by repeat (first | with_reducible exact New.refl _ | with_reducible assumption | refine New.drewN ?_ _ | refine New.drew ?_ | refine New.alloc ?_ _ | refine New.setCell ?_ (by first | omega | (simp; omega) | (simp; done)) _ | (refine New.trans ?_ (by assumption))))) (by simp) hg; obtain ⟨s0, s1⟩ := kk; replace s0 : w'.cell? ⟨R, 2, none⟩ = some vm2 := s0; replace s1 : w'.frozen? ⟨R, 2, none⟩ = false := s1)
                  all_goals (go_wp2_with fail; go_meet)
                  all_goals exact ⟨rfl, g, cap, BR7.out.grown (pre := [a6, a7]) (r := r2 vm2 M) (post := [r3 vr2 M, r4 vo2 O2]) (by repeat (first | with_reducible exact New.refl _ | with_reducible assumption | refine New.drewN ?_ _ | refine New.drew ?_ | refine New.alloc ?_ _ | refine New.setCell ?_ (by first | omega | (simp; omega) | (simp; done)) _ | (refine New.trans ?_ (by assumption)))) ho hg hb' NW7.out zl.1 zl.2⟩
                case rest =>
                  obtain ⟨rfl, g8, cap8, gr8⟩ := hcut
                  obtain ⟨w8, rfl⟩ : ∃ u : World, u = wc := ⟨_, rfl⟩
                  obtain ⟨a8, ha8⟩ : ∃ a, a = (r2 vm2 M).as (.slice (some ⟨g8, 0, none⟩) (T + 1) cap8) (T + 1) (mvL M ++ [.int .i64 f, .int .i64 t]) := ⟨_, rfl⟩
                  rw [← ha8] at gr8
                  have A8 := Lib.hid ha8; clear ha8
                  have BR8 := Lib.hid gr8.1
                  have KP8 := Lib.hid gr8.2.1
                  have NW8 := Lib.hid gr8.2.2
                  clear gr8 c2 b0 b1
                  have z8 := KP8.out.1
                  have zR8 := BR8.out.lt (r := r3 vr2 M) (by simp)
                  have zb8 : base ≤ w8.heap.size := by omega
                  have c3 : w8.cell? ⟨R, 3, none⟩ = some vr2 := BR8.out.cell (r3 vr2 M) (by simp)
                  have OW3 := Lib.hid (show w8.ownsRow base 3 1 vr2 T (farL M) from by have q := BR8.out.own (r3 vr2 M) (by simp); rw [HT.out]; exact q)
                  obtain ⟨gr, crp, er, _, _, _, xr⟩ := own_read OW3.out T1
                  obtain ⟨fk, hfk⟩ : ∃ fk : Nat, fk = (M[k]?.getD dN).far := ⟨_, rfl⟩
                  have fkb : fk ≤ 3000 := by have := FM.out.far_le k (by have := HT.out; omega); omega
                  have x3 : w8.cell? ⟨gr, k, none⟩ = some (.int .i64 (fk : Int)) := (xr k _ (by omega) (by unfold farL; rw [List.getElem?_map, hfk, List.getElem?_eq_getElem (show k < M.length by have := HT.out; omega)]; rfl)).1
                  have FK := Lib.hid hfk; clear hfk xr
                  have w9 : IntKind.i64.wrap ((fk : Int) + 1) = (fk : Int) + 1 := IntWalk.i64_in _ (by omega)
                  subst er
                  go_upto_region 14 with fail
                  go_cut [6] (fun p W => p = .pointer (some ⟨R, 0, none⟩) ∧ ∃ g cap, Grew w w8 W R base [a6, a7, a8, r3 (.slice (some ⟨gr, 0, none⟩) T crp) M, r4 vo2 O2] [a6, a7, a8, (r3 (.slice (some ⟨gr, 0, none⟩) T crp) M).as (.slice (some ⟨g, 0, none⟩) (T + 1) cap) (T + 1) (farL M ++ [.int .i64 ((fk : Int) + 1)]), r4 vo2 O2])
                  case first =>
                    go_region_law (refine step_append_lies _ (by rfl) (.tmp 95) (.tmp 104) 22 (by rfl) base 3 i0 (.int .i64 0) 1 8 Try.underlying22 hi0 hz0 hz1 hz2 rfl (by decide) (.slice (some ⟨gr, 0, none⟩) T crp) T _ (by rfl) (ownsRow_new OW3.out (by repeat (first | with_reducible exact New.refl _ | with_reducible assumption | refine New.drewN ?_ _ | refine New.drew ?_ | refine New.alloc ?_ _ | refine New.setCell ?_ (by first | omega | (simp; omega) | (simp; done)) _ | (refine New.trans ?_ (by assumption))))) _ _ _ [.int .i64 ((fk : Int) + 1)] (by rfl) (by rfl) (World.news_of_block (cs := #[.int .i64 ((fk : Int) + 1)]) (t := 3) (fr := (0, 0)) (heap_alloc_new _ _)) (by simp [Value.oneCell']) (by omega) (by unfold maxLen; omega) (by omega) (by simp; omega) _ rfl ?_; intro g cap w' ho hg hb' hlt'; have kk := BRows.store (r := r3 (.slice (some ⟨gr, 0, none⟩) T crp) M) (BR8.out.new (by repeat (first | with_reducible exact New.refl _ | with_reducible assumption | refine New.drewN ?_ _ | refine New.drew ?_ | refine New.alloc ?_ _ | refine New.setCell ?_ (by first | omega | (simp; omega) | (simp; done)) _ | (refine New.trans ?_ (by assumption))))) (by simp) hg; obtain ⟨s0, s1⟩ := kk; replace s0 : w'.cell? ⟨R, 3, none⟩ = some (.slice (some ⟨gr, 0, none⟩) T crp) := s0; replace s1 : w'.frozen? ⟨R, 3, none⟩ = false := s1)
                    all_goals (go_wp2_with fail; go_meet)
                    all_goals exact ⟨rfl, g, cap, BR8.out.grown (pre := [a6, a7, a8]) (r := r3 (.slice (some ⟨gr, 0, none⟩) T crp) M) (post := [r4 vo2 O2]) (by repeat (first | with_reducible exact New.refl _ | with_reducible assumption | refine New.drewN ?_ _ | refine New.drew ?_ | refine New.alloc ?_ _ | refine New.setCell ?_ (by first | omega | (simp; omega) | (simp; done)) _ | (refine New.trans ?_ (by assumption)))) ho hg hb' NW8.out zl.1 zl.2⟩
                  case rest =>
                    obtain ⟨rfl, g9, cap9, gr9⟩ := hcut
                    obtain ⟨wA, rfl⟩ : ∃ u : World, u = wc := ⟨_, rfl⟩
                    obtain ⟨a9, ha9⟩ : ∃ a, a = (r3 (.slice (some ⟨gr, 0, none⟩) T crp) M).as (.slice (some ⟨g9, 0, none⟩) (T + 1) cap9) (T + 1) (farL M ++ [.int .i64 ((fk : Int) + 1)]) := ⟨_, rfl⟩
                    rw [← ha9] at gr9
                    have A9 := Lib.hid ha9; clear ha9
                    have BR9 := Lib.hid gr9.1
                    have KP9 := Lib.hid gr9.2.1
                    have NW9 := Lib.hid gr9.2.2
                    clear gr9 c3 x3 w9
                    have z9 := KP9.out.1
                    have zR9 := BR9.out.lt (r := r4 vo2 O2) (by simp)
                    have zb9 : base ≤ wA.heap.size := by omega
                    have c4 : wA.cell? ⟨R, 4, none⟩ = some vo2 := BR9.out.cell (r4 vo2 O2) (by simp)
                    have OW4 := Lib.hid (show wA.ownsRow base 3 1 vo2 T (ordL O2) from by have q := BR9.out.own (r4 vo2 O2) (by simp); rw [← OL.out]; exact q)
                    go_upto_region 16 with (at_builtin; refine wpList_append_lies _ (by rfl) (.tmp 112) (.tmp 113) 22 (by rfl) base 3 i0 (.int .i64 0) 1 8 Try.underlying22 hi0 hz0 hz1 hz2 rfl (by decide) vo2 T _ (by rfl) (ownsRow_new OW4.out (by repeat (first | with_reducible exact New.refl _ | with_reducible assumption | refine New.drewN ?_ _ | refine New.drew ?_ | refine New.alloc ?_ _ | refine New.setCell ?_ (by first | omega | (simp; omega) | (simp; done)) _ | (refine New.trans ?_ (by assumption))))) _ _ _ [.int .i64 0] (by rfl) (by rfl) (World.news_of_block (cs := #[.int .i64 0]) (t := 3) (fr := (0, 0)) (heap_alloc_new _ _)) (by simp [Value.oneCell']) (by omega) (by unfold maxLen; omega) (by omega) (by simp; omega) _ rfl ?_; intro gb capb w' ho hg hb' hlt'; have kk := BRows.store (r := r4 vo2 O2) (BR9.out.new (by repeat (first | with_reducible exact New.refl _ | with_reducible assumption | refine New.drewN ?_ _ | refine New.drew ?_ | refine New.alloc ?_ _ | refine New.setCell ?_ (by first | omega | (simp; omega) | (simp; done)) _ | (refine New.trans ?_ (by assumption))))) (by simp) hg; obtain ⟨s0, s1⟩ := kk; replace s0 : w'.cell? ⟨R, 4, none⟩ = some vo2 := s0; replace s1 : w'.frozen? ⟨R, 4, none⟩ = false := s1)
                    have grb := BR9.out.grown (pre := [a6, a7, a8, a9]) (r := r4 vo2 O2) (post := []) (by repeat (first | with_reducible exact New.refl _ | with_reducible assumption | refine New.drewN ?_ _ | refine New.drew ?_ | refine New.alloc ?_ _ | refine New.setCell ?_ (by first | omega | (simp; omega) | (simp; done)) _ | (refine New.trans ?_ (by assumption)))) ho hg hb' NW9.out zl.1 zl.2
                    clear ho hg hb' hlt' s0 s1 c4
                    obtain ⟨wB, hwB⟩ : ∃ W, W = w'.setCell ⟨R, 4, none⟩ (.slice (some ⟨gb, 0, none⟩) (T + 1) capb) := ⟨_, rfl⟩
                    rw [← hwB]
                    have grb' : Grew w wA wB R base [a6, a7, a8, a9, r4 vo2 O2] [a6, a7, a8, a9, (r4 vo2 O2).as (.slice (some ⟨gb, 0, none⟩) (T + 1) capb) (T + 1) (ordL O2 ++ [.int .i64 0])] := by rw [hwB]; exact grb
                    clear hwB grb
                    have BRB := Lib.hid grb'.1
                    have KPB := Lib.hid grb'.2.1
                    have NWB := Lib.hid grb'.2.2
                    clear grb'
                    have zb := KPB.out.1
                    have zRB := BRB.out.lt (r := (r4 vo2 O2).as (.slice (some ⟨gb, 0, none⟩) (T + 1) capb) (T + 1) (ordL O2 ++ [Value.int .i64 0])) (by simp)
                    have cB : wB.cell? ⟨R, 4, none⟩ = some (.slice (some ⟨gb, 0, none⟩) (T + 1) capb) := BRB.out.cell ((r4 vo2 O2).as (.slice (some ⟨gb, 0, none⟩) (T + 1) capb) (T + 1) (ordL O2 ++ [Value.int .i64 0])) (by simp)
                    have cA : wB.cell? ⟨R, 0, none⟩ = some (.slice (some ⟨g6, 0, none⟩) (T + 1) cap6) := by have q := BRB.out.cell a6 (by simp); rw [A6.out] at q; exact q
                    have owb : wB.ownsRow base 3 1 (.slice (some ⟨gb, 0, none⟩) (T + 1) capb) (T + 1) (ordL O2 ++ [Value.int .i64 0]) := BRB.out.own ((r4 vo2 O2).as (.slice (some ⟨gb, 0, none⟩) (T + 1) capb) (T + 1) (ordL O2 ++ [Value.int .i64 0])) (by simp)
                    have nbB : gb ≠ R := fun e => BRB.out.nb ((r4 vo2 O2).as (.slice (some ⟨gb, 0, none⟩) (T + 1) capb) (T + 1) (ordL O2 ++ [Value.int .i64 0])) (by simp) (by show some gb = some R; rw [e])
                    obtain ⟨_, hob⟩ := owb
                    rcases hob with hob | ⟨gq, capq, cur, eq, hbq, hhq, hnq, hmq, hsq, htq⟩
                    · exact absurd hob.2 (by omega)
                    obtain ⟨rfl, rfl⟩ : gb = gq ∧ capb = capq := by cases eq; exact ⟨rfl, rfl⟩
                    clear eq
                    have HH := Lib.hid hhq; clear hhq
                    have HTQ := Lib.hid htq; clear htq
                    have aT : at' ≤ T := by have := PL.out.le; have := OL.out; omega
                    have PO := Lib.hid (And.intro hbq (And.intro hnq (And.intro hmq hsq))); clear hbq hmq hsq
                    have X1 := Lib.hid (show ∀ j v, ((ordL O2).drop at')[j]? = some v → wB.cell? ((⟨gb, at', none⟩ : Addr).add j) = some v from fun j v hv => by
                      rw [Addr.add_mid, cell_of_row wB gb _ cur _ (0, 0) HH.out]
                      rw [List.getElem?_drop] at hv
                      have hj : at' + j < (ordL O2).length := (List.getElem?_eq_some_iff.1 hv).1
                      have q : (cur.toList.take ((T + 1) * 1))[at' + j]? = (ordL O2 ++ [Value.int .i64 0])[at' + j]? := by rw [HTQ.out]
                      rw [List.getElem?_take, if_pos (by rw [ordL_length] at hj; have := OL.out; omega), List.getElem?_append_left hj, hv] at q
                      simpa using q)
                    have X2 := Lib.hid (show at' + 1 + ((ordL O2).drop at').length ≤ cur.toList.length by rw [List.length_drop, ordL_length, OL.out]; have := PO.out.2.2.2; simp; omega)
                    have X3 := Lib.hid (show ∀ v ∈ (ordL O2).drop at', v.oneCell' = true from fun v hv => by
                      have hv' := List.mem_of_mem_drop hv
                      unfold ordL at hv'
                      simp at hv'
                      obtain ⟨z, _, rfl⟩ := hv'
                      rfl)
                    have X4 := Lib.hid (show ((ordL O2).drop at').length = Nat.min (T + 1 - at') (T - at') by rw [List.length_drop, ordL_length, OL.out]; show _ = min _ _; omega)
                    have wa : IntKind.i64.wrap ((at' : Int) + 1) = (at' : Int) + 1 := IntWalk.i64_in _ (by omega)
                    have ai : (at' : Int) + 1 ≤ (T : Int) + 1 := by omega
                    have ai2 : (0 : Int) ≤ (at' : Int) + 1 := by omega
                    have ac : ¬ capb = at' := by have := PO.out.2.1; omega
                    have ai0 : (0 : Int) ≤ (at' : Int) := by omega
                    have ai1 : (at' : Int) ≤ (T : Int) + 1 := by omega
                    have HHd : wB.heap[gb]? = some (.cells cur.toList.toArray 3 (0, 0)) := by rw [HH.out]
                    go_cut [6] (fun p W => p = .pointer (some ⟨R, 0, none⟩) ∧ Hid (W.heap[gb]? = some (.cells (splice cur.toList (at' + 1) ((ordL O2).drop at')).toArray 3 (0, 0))) ∧ Chg (fun b => b = gb) wB W)
                    case first =>
                      by_cases hcap : capb = at' + 1
                      · have hD : (ordL O2).drop at' = [] := List.drop_eq_nil_of_le (by rw [ordL_length, OL.out]; have := PO.out.2.1; omega)
                        have Z1 := Lib.hid (show ([] : List Value).length = Nat.min (T + 1 - at') (T - at') by show 0 = min _ _; have := PO.out.2.1; omega)
                        have Z2 := Lib.hid (show 0 + ([] : List Value).length ≤ cur.toList.length by simp)
                        have HDD := Lib.hid hD; clear hD
                        go_region_law (refine step_copy_to rfl (.tmp 123) (.tmp 129) 22 22 rfl 3 Try.underlying22 (by kernel_rfl) gb 0 _ _ ⟨gb, at', none⟩ _ _ rfl rfl cur.toList 3 HHd [] Z1.out (fun j v hv => by simp at hv) Z2.out (fun v hv => by simp at hv) ?_; intro w' hw' hc')
                        all_goals (go_wp2_with fail; go_meet)
                        all_goals exact ⟨rfl, Lib.hid (by have q := hw'.out; rw [HDD.out]; simpa [splice] using q), by first | exact hc' | exact (Chg.of_new (New.refl _).drew).trans hc'⟩
                      · go_region_law (refine step_copy_to rfl (.tmp 123) (.tmp 129) 22 22 rfl 3 Try.underlying22 (by kernel_rfl) gb (at' + 1) _ _ ⟨gb, at', none⟩ _ _ rfl rfl cur.toList 3 HHd ((ordL O2).drop at') X4.out X1.out X2.out X3.out ?_; intro w' hw' hc')
                        all_goals (go_wp2_with fail; go_meet)
                        all_goals exact ⟨rfl, hw', by first | exact hc' | exact (Chg.of_new (New.refl _).drew).trans hc'⟩
                    case rest =>
                      obtain ⟨rfl, hpC, hcC⟩ := hcut
                      obtain ⟨wC, rfl⟩ : ∃ u : World, u = wc := ⟨_, rfl⟩
                      have CC := Lib.hid hcC; clear hcC
                      obtain ⟨⟨z, xz⟩, xf, xo⟩ := order_put (O := O2) (capb := capb) OL.out aT (by have q := PO.out.2.2.2; rw [Nat.mul_one] at q; exact q) (by have := PO.out.2.1; omega) PO.out.2.2.1 PO.out.1 (by have q := HTQ.out; rw [Nat.mul_one] at q; exact q) hpC.out
                      have XO := Lib.hid xo
                      have e4 := CC.out.cell cB (fun e => nbB e.symm)
                      have e0 := CC.out.cell cA (fun e => nbB e.symm)
                      have zC := CC.out.size
                      clear hpC xo HHd cB cA
                      have ati : (at' : Int) < (T : Int) + 1 := by omega
                      have wt : IntKind.i64.wrap ((T : Int) + 1 - 1) = (T : Int) := by rw [show (T : Int) + 1 - 1 = (T : Int) by omega]; exact IntWalk.i64_in _ (by omega)
                      have zRC : R < wC.heap.size := by omega
                      go_upto_region 17 with fail
                      go_cut [6] (fun p W => p = .pointer (some ⟨R, 0, none⟩) ∧ W.ownsRow base 3 1 (.slice (some ⟨gb, 0, none⟩) (T + 1) capb) (T + 1) (ordL (insN O2 at' T)) ∧ Chg (fun b => b = gb) wC W)
                      case first =>
                        go_region
                        all_goals (go_wp2_with fail; go_meet)
                        all_goals first
                          | exact ⟨rfl, XO.out, Chg.setCell (p := ⟨gb, at', none⟩) _⟩
                          | exact ⟨rfl, ownsRow_new XO.out (New.refl _).drew, (Chg.setCell (p := ⟨gb, at', none⟩) _).trans (Chg.of_new (New.refl _).drew)⟩
                      case rest =>
                        obtain ⟨rfl, xoD, hcD⟩ := hcut
                        obtain ⟨wD, rfl⟩ : ∃ u : World, u = wc := ⟨_, rfl⟩
                        have hcD0 := hcD.cell e0 (fun e => nbB e.symm)
                        have CD := Lib.hid (CC.out.trans hcD); clear hcD
                        have hc0 : wD.cell? ⟨R, 0, none⟩ = some (.slice (some ⟨g6, 0, none⟩) (T + 1) cap6) := hcD0
                        obtain ⟨x, hx⟩ : ∃ x : Node, x = ⟨nx, (k : Int), (f, t), (M[k]?.getD dN).far + 1⟩ := ⟨_, rfl⟩
                        rw [← hx] at EA
                        have hT' := HT.out
                        have hOL := OL.out
                        have hins : T + 1 = (insN O2 at' T).length := by rw [insN_length (by omega), hOL]
                        have brd := BRB.out.turn (pre := [a6, a7, a8, a9]) (r := (r4 vo2 O2).as (.slice (some ⟨gb, 0, none⟩) (T + 1) capb) (T + 1) (ordL O2 ++ [Value.int .i64 0])) (post := []) xoD (CD.out.mono fun b e => by rw [e]; rfl)
                        have k6 : a6 = r0 (.slice (some ⟨g6, 0, none⟩) (T + 1) cap6) (M.length + 1) (upto P2 M.length (.slice xa xn xc)) (upto Q2 M.length (.slice xb xm xd)) := by rw [A6.out]; exact as_r0 (by omega)
                        have k7 : a7 = r1 (.slice (some ⟨g7, 0, none⟩) (T + 1) cap7) (M ++ [x]) := by rw [A7.out, ← as_r1 (v := vf2) (L := M) (x := x) (n := T + 1) (by omega), hx]
                        have k8 : a8 = r2 (.slice (some ⟨g8, 0, none⟩) (T + 1) cap8) (M ++ [x]) := by rw [A8.out, ← as_r2 (v := vm2) (L := M) (x := x) (n := T + 1) (by omega), hx]
                        have k9 : a9 = r3 (.slice (some ⟨g9, 0, none⟩) (T + 1) cap9) (M ++ [x]) := by rw [A9.out, ← as_r3 (v := .slice (some ⟨gr, 0, none⟩) T crp) (L := M) (x := x) (n := T + 1) (by omega), hx, FK.out]; rfl
                        have kb : ((r4 vo2 O2).as (.slice (some ⟨gb, 0, none⟩) (T + 1) capb) (T + 1) (ordL O2 ++ [Value.int .i64 0])).as (.slice (some ⟨gb, 0, none⟩) (T + 1) capb) (T + 1) (ordL (insN O2 at' T)) = r4 (.slice (some ⟨gb, 0, none⟩) (T + 1) capb) (insN O2 at' T) := as_r4 (v := vo2) (O := O2) hins
                        have brd2 : BRows R base wD [r0 (.slice (some ⟨g6, 0, none⟩) (T + 1) cap6) (M ++ [x]).length (upto P2 M.length (.slice xa xn xc)) (upto Q2 M.length (.slice xb xm xd)), r1 (.slice (some ⟨g7, 0, none⟩) (T + 1) cap7) (M ++ [x]), r2 (.slice (some ⟨g8, 0, none⟩) (T + 1) cap8) (M ++ [x]), r3 (.slice (some ⟨g9, 0, none⟩) (T + 1) cap9) (M ++ [x]), r4 (.slice (some ⟨gb, 0, none⟩) (T + 1) capb) (insN O2 at' T)] := by
                          have e : (M ++ [x]).length = M.length + 1 := by simp
                          rw [e, ← k6, ← k7, ← k8, ← k9, ← kb]
                          exact brd
                        have kp : Keeps w5 wD R [va2, vf2, vm2, (.slice (some ⟨gr, 0, none⟩) T crp), vo2] [.slice (some ⟨g6, 0, none⟩) (T + 1) cap6, .slice (some ⟨g7, 0, none⟩) (T + 1) cap7, .slice (some ⟨g8, 0, none⟩) (T + 1) cap8, .slice (some ⟨g9, 0, none⟩) (T + 1) cap9, .slice (some ⟨gb, 0, none⟩) (T + 1) capb] := by
                          have q := (((KP6.out.trans KP7.out).trans KP8.out).trans KP9.out).trans KPB.out
                          have q2 : Keeps w5 wB R [va2, vf2, vm2, (.slice (some ⟨gr, 0, none⟩) T crp), vo2] [a6.v, a7.v, a8.v, a9.v, .slice (some ⟨gb, 0, none⟩) (T + 1) capb] := q
                          rw [k6, k7, k8, k9] at q2
                          exact q2.trans (Keeps.of_chg (v := .slice (some ⟨gb, 0, none⟩) (T + 1) capb) (by simp) (CD.out.mono fun b e => by rw [e]; rfl))
                        have nwd : New w wD := Chg.new NWB.out CD.out (fun b e => by have := PO.out.1; omega)
                        have sizes : wr.heap.size ≤ v1.heap.size ∧ v1.heap.size ≤ w5.heap.size := ⟨NV1.out.size, (BX.out.new.trans N5.out).size⟩
                        have vnx : VesAt w5 R [va2, vf2, vm2, (.slice (some ⟨gr, 0, none⟩) T crp), vo2] S nx (.slice xa xn xc) (.slice xb xm xd) := by
                          have ow := BX.out.own
                          have l0 := GX.out.1
                          have l1 := GX.out.2.1
                          have ln := ow.len
                          exact ⟨xa, xn, xc, xb, xm, xd, rfl, rfl, ow.1.ints.new N5.out, ow.2.1.ints.new N5.out,
                            fun b hb => five_far RM.out.box (by have := ow.1.bounds (by omega) hb; omega), fun b hb => five_far RM.out.box (by have := ow.2.1.bounds (by omega) hb; omega)⟩
                        have xh : x.h = nx := by rw [hx]
                        have S0 : S.length ≠ 0 := by have := GX.out.1; omega
                        have rcD : Reach w wD R base S (M ++ [x]) (insN O2 at' T) (.slice (some ⟨g6, 0, none⟩) (T + 1) cap6) (.slice (some ⟨g7, 0, none⟩) (T + 1) cap7) (.slice (some ⟨g8, 0, none⟩) (T + 1) cap8) (.slice (some ⟨g9, 0, none⟩) (T + 1) cap9) (.slice (some ⟨gb, 0, none⟩) (T + 1) capb) (upto P2 M.length (.slice xa xn xc)) (upto Q2 M.length (.slice xb xm xd)) := by
                          refine ⟨nwd, zl, brd2, fun i hi => ?_, ?_⟩
                          · rw [List.length_append] at hi
                            by_cases e : i = M.length
                            · subst e
                              have e2 : (M ++ [x])[M.length]?.getD dN = x := by simp
                              have e3 : upto P2 M.length (.slice xa xn xc) M.length = .slice xa xn xc ∧ upto Q2 M.length (.slice xb xm xd) M.length = .slice xb xm xd := by unfold upto; rw [if_pos rfl, if_pos rfl]; exact ⟨rfl, rfl⟩
                              rw [e2, e3.1, e3.2, xh]
                              exact vnx.keep S0 (by have := GX.out.1; have := GX.out.2.1; omega) kp
                            · have hi' : i < M.length := by simp at hi; omega
                              have e2 : (M ++ [x])[i]?.getD dN = M[i]?.getD dN := by rw [List.getElem?_append_left hi']
                              have e3 : upto P2 M.length (.slice xa xn xc) i = P2 i ∧ upto Q2 M.length (.slice xb xm xd) i = Q2 i := by unfold upto; rw [if_neg e, if_neg e]; exact ⟨rfl, rfl⟩
                              rw [e2, e3.1, e3.2]
                              have gi := FM.out.good i hi'
                              exact (R5.out.ves i hi').keep S0 (by have := gi.1; have := gi.2.1; omega) kp
                          · rw [hT']
                            exact R5.out.ord.ins FM.out (by rw [xh]; exact PL.out) (by rw [xh]; exact GX.out.2.1) (by rw [xh]; exact HX.out)
                        have RD := Lib.hid rcD
                        have MD := Lib.hid (M5.out.keep kp)
                        have ND := Lib.hid nwd
                        have LM := Lib.hid (show (M ++ [x]).length = T + 1 by simp; omega)
                        have KM := Lib.hid (show k ≤ 3000 by omega)
                        clear rcD nwd kp brd brd2 k6 k7 k8 k9 kb vnx xh S0 sizes hins hT' hOL
                        by_cases hov : 3000 < T + 1
                        · have hovI : (3000 : Int) < (T : Int) + 1 := by omega
                          have fo := few_over (S := S) (H := H) (cl := cl) (most := 3000) (k := k + 1) (L := M ++ [x]) (by have := KM.out; omega) (by
                            rw [seqN_succ (by rw [← EL.out]; exact KL.out), ← EL.out]
                            show _ <+: addsN S L k (onL S (L[k]?.getD dN).h cl) (onL S (L[k]?.getD dN).h cl).length
                            rw [← PS.out, ← EA.out]
                            exact addsN_prefix _ _ _ _ (by have := MS.out; omega)) (by have := LM.out; omega)
                          have FO := Lib.hid fo; clear fo
                          go_wp2
                          go_ret2
                          refine ⟨ND.out, ?_⟩
                          rw [FO.out]
                          exact ⟨R, rfl⟩
                        · have hovI : ¬ (3000 : Int) < (T : Int) + 1 := by omega
                          go_wp2
                          go_roundw
                          case rel => exact ⟨j + 1, _, _, _, _, _, _, _, _, by go_num, by omega, by rw [EA.out]; have := LM.out; omega, by rw [EA.out]; exact RD.out, MD.out⟩
                          case measure => simp [intOf]; omega
        · obtain rfl : j = mn := by omega
          have EE := Lib.hid (show seqN S H cl (k + 1) = M by
            rw [seqN_succ (by rw [← EL.out]; exact KL.out), ← EL.out]
            show addsN S L k (onL S (L[k]?.getD dN).h cl) (onL S (L[k]?.getD dN).h cl).length = M
            rw [← PS.out, ← MS.out, EM.out])
          have TM := Lib.hid (show T = M.length from HT.out)
          go_wp2
          go_roundw
          case rel => exact ⟨k + 1, O2, va2, vf2, vm2, vr2, vo2, P2, Q2, by go_num, by rw [EE.out]; have := TM.out; omega, by rw [EE.out]; have := TM.out; omega, by rw [EE.out]; exact RM.out⟩
          case measure => simp [intOf]; omega
    · obtain rfl : k = N := by omega
      have fd := few_done (S := S) (H := H) (cl := cl) (most := 3000) (k := k) (by rw [← EL.out]; exact HN.out.symm) (by omega)
      have FD2 := Lib.hid fd; clear fd
      go_wp2
      go_ret2
      refine ⟨RK.out.new, ?_⟩
      rw [FD2.out.1, if_pos rfl]
      exact ⟨R, base, O, va, vf, vm, vr, vo, P, Q, rfl, by rw [FD2.out.2, ← EL.out]; exact RK.out⟩
end Go.Proofs.Ytilepckgcgdjgaa
