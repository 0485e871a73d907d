/- The tanks of a group, the model's and the program's. -/
import Derived.Test.YtlhpkpfnaepgbaaGroL
import Derived.Test.YtlhpkpfnaepgbaaOrdC
namespace Go.Proofs.Ytlhpkpfnaepgbaa
open Go.RowKit Go.IntWalk

def memT (T : List Tk) (G : List Int) : List Tk := G.map fun i => T[i.toNat]?.getD (0, 0, 0)
theorem memT_length (T : List Tk) (G : List Int) : (memT T G).length = G.length := by unfold memT; rw [List.length_map]
theorem memT_get {T : List Tk} {G : List Int} {k : Nat} (hk : k < G.length) : (memT T G)[k]?.getD (0, 0, 0) = T[(G[k]?.getD (0 : Int)).toNat]?.getD (0, 0, 0) := by
  unfold memT
  rw [List.getElem?_map, List.getElem?_eq_getElem hk]
  rfl
theorem memT_take {T : List Tk} {G : List Int} {k : Nat} (hk : k < G.length) : (memT T G).take (k + 1) = (memT T G).take k ++ [T[(G[k]?.getD (0 : Int)).toNat]?.getD (0, 0, 0)] := by
  have h : k < (memT T G).length := by rw [memT_length]; exact hk
  rw [List.take_add_one, List.getElem?_eq_getElem h]
  have := memT_get (T := T) hk
  rw [List.getElem?_eq_getElem h] at this
  simp only [Option.getD_some] at this
  rw [this]; rfl
theorem memT_ok {T : List Tk} {G : List Int} {n : Nat} (hT : TksOk T) (hn : n = T.length) (h1 : 1 ≤ G.length) (h6 : G.length ≤ n) (hG : ∀ j, j < G.length → (0 : Int) ≤ G[j]?.getD 0 ∧ G[j]?.getD 0 < (n : Int)) : TksOk (memT T G) :=
  ⟨by rw [memT_length]; exact h1, by rw [memT_length]; have := hT.l6; omega, fun t ht => by
    obtain ⟨j, hj, rfl⟩ := List.getElem_of_mem ht
    have hj' : j < G.length := by rw [memT_length] at hj; exact hj
    have e := memT_get (T := T) hj'
    rw [List.getElem?_eq_getElem hj] at e
    simp only [Option.getD_some] at e
    have b := hG j hj'
    have hx : (G[j]?.getD (0 : Int)).toNat < T.length := by omega
    rw [List.getElem?_eq_getElem hx] at e
    simp only [Option.getD_some] at e
    rw [e]
    exact hT.all _ (List.getElem_mem _)⟩
/-- What a group is. -/
theorem grs_ok {J : List (Nat × Nat)} {f : Nat → Nat} (h : LeadOk J f) {n : Nat} {G : List Int} (hG : G ∈ grsTo n f n) : 1 ≤ G.length ∧ G.length ≤ n ∧ ∀ j, j < G.length → (0 : Int) ≤ G[j]?.getD 0 ∧ G[j]?.getD 0 < (n : Int) := by
  unfold grsTo at hG
  obtain ⟨a, ha, rfl⟩ := List.mem_map.1 hG
  rw [List.mem_filter] at ha
  have an := List.mem_range.1 ha.1
  have fa := of_decide_eq_true ha.2
  refine ⟨(grpI_some h an).2 fa, grpI_len _ _ _, fun j hj => ?_⟩
  rw [List.getElem?_eq_getElem hj]
  simp only [Option.getD_some]
  have hm := List.getElem_mem hj
  unfold grpI at hm
  obtain ⟨i, hi, e⟩ := List.mem_map.1 hm
  unfold grpN at hi
  have hin := List.mem_range.1 (List.mem_filter.1 hi).1
  have e2 : (grpI n f a)[j] = (i : Int) := e.symm
  rw [e2]
  omega

set_option maxRecDepth 100000 in
set_option maxHeartbeats 2000000 in
theorem leSome_any (w : World) (aa : Option Addr) (n ca : Nat) (T : List Tk) (ab : Option Addr) (p cb : Nat) (G : List Int) (ha : Tanks w aa n ca T) (hb : Ints w ab p cb G) (hp : p ≤ 6)
    (hG : ∀ j, j < G.length → (0 : Int) ≤ G[j]?.getD 0 ∧ G[j]?.getD 0 < (n : Int)) :
    Calls Try.prog 37 #[.slice aa n ca, .slice ab p cb] w fun e w' => ∃ oa oc, e = .returned (.slice oa p oc) ∧ OwnTank w' w.heap.size w'.heap.size oa p oc (memT T G) ∧ New w w' := by
  have HP := Lib.hid hb.1
  have HA := Lib.hid ha; clear ha
  have HB := Lib.hid hb; clear hb
  have HG := Lib.hid hG; clear hG
  obtain ⟨i1, hj, hy0, hy1, hy2⟩ := info_parts Try.infoRowTank
  go_enter Try.func37, Try.ntmps37
  go_wp2_with fail
  go_loopw [5, 10] (fun vo i wr => ∃ k : Nat, k ≤ p ∧ i = .int .i64 k ∧ New w wr ∧ wr.ownsRow w.heap.size 47 3 vo k (flatTank ((memT T G).take k))) (fun _ i _ => p - (intOf i).toNat)
  case atStart => exact ⟨0, Nat.zero_le _, rfl, New.refl _, World.ownsRow_nil _ _ _ _⟩
  case round =>
    obtain ⟨k, hk, rfl, hnw, hro⟩ := hrel
    have zb := hnw.size
    have NW := Lib.hid hnw; clear hnw
    have RO := Lib.hid hro; clear hro
    by_cases hlt : k < p
    · have KG := Lib.hid (show k < G.length by have := HP.out; omega)
      have MT := Lib.hid (memT_take (T := T) KG.out)
      have bd := HG.out k KG.out
      obtain ⟨b, o, rfl, hc⟩ := (HB.out.new NW.out).2.2.2.1 k hlt
      obtain ⟨x, hx⟩ : ∃ x : Nat, G[k]?.getD (0 : Int) = x := ⟨(G[k]?.getD (0 : Int)).toNat, by omega⟩
      rw [hx] at hc bd
      have MX := Lib.hid (show (memT T G).take (k + 1) = (memT T G).take k ++ [T[x]?.getD (0, 0, 0)] by rw [MT.out, hx]; rfl)
      clear MT hx
      have xn : x < n := by omega
      have x0 : (0 : Int) ≤ (x : Int) := by omega
      have x1 : (x : Int) < (n : Int) := by omega
      clear bd
      obtain ⟨b2, o2, rfl, g0, g1, g2⟩ := (HA.out.new NW.out).2.2.2.1 x xn
      obtain ⟨a, ea⟩ : ∃ a, a = (T[x]?.getD (0, 0, 0)).1 := ⟨_, rfl⟩
      obtain ⟨f', ef⟩ : ∃ f, f = (T[x]?.getD (0, 0, 0)).2.1 := ⟨_, rfl⟩
      obtain ⟨u, eu⟩ : ∃ u, u = (T[x]?.getD (0, 0, 0)).2.2 := ⟨_, rfl⟩
      rw [← ea] at g0
      rw [← ef] at g1
      rw [← eu] at g2
      have ET := Lib.hid (show T[x]?.getD (0, 0, 0) = (a, f', u) by rw [ea, ef, eu]); clear ea ef eu
      go_wp2_with (at_builtin; go_loud (refine wpList_append_lies _ (by rfl) (.tmp 14) (.tmp 19) 28 (by rfl) w.heap.size 47 i1 _ 3 24 Try.underlying28 hj hy0 hy1 hy2 rfl (by decide) _ k _ (by rfl) (ownsRow_new RO.out (by repeat (first | with_reducible exact New.refl _ | with_reducible assumption | refine New.drewN ?_ _ | refine New.drew ?_ | refine New.alloc ?_ _ | refine New.setCell ?_ (by first | omega | (simp; omega) | (simp; done)) _ | (refine New.trans ?_ (by assumption))))) _ _ _ [.int .i64 a, .int .i64 f', .int .i64 u] (by rfl) (by rfl) (World.news_of_block (cs := #[.int .i64 a, .int .i64 f', .int .i64 u]) (t := 47) (fr := (0, 0)) (heap_alloc_at (by simp))) (by simp [Value.oneCell']) (by omega) (by unfold maxLen; omega) (by omega) (by simp; omega) _ rfl ?_; intro g cap w5 ho hg hb' hlt'; have N5 := Lib.hid (New.grown (w0 := w) (w := _) (NW.out.trans (by repeat (first | with_reducible exact New.refl _ | with_reducible assumption | refine New.drewN ?_ _ | refine New.drew ?_ | refine New.alloc ?_ _ | refine New.setCell ?_ (by first | omega | (simp; omega) | (simp; done)) _ | (refine New.trans ?_ (by assumption))))) (ownsRow_new RO.out (by repeat (first | with_reducible exact New.refl _ | with_reducible assumption | refine New.drewN ?_ _ | refine New.drew ?_ | refine New.alloc ?_ _ | refine New.setCell ?_ (by first | omega | (simp; omega) | (simp; done)) _ | (refine New.trans ?_ (by assumption))))) (by omega) hg); have RO5 := Lib.hid ho; clear ho hg hb' hlt'))
      go_roundw
      case rel =>
        refine ⟨k + 1, by omega, by go_num, N5.out, ?_⟩
        rw [MX.out, ET.out, flatTank_append]
        exact RO5.out
      case measure => simp [intOf]; omega
    · obtain rfl : k = p := by omega
      go_wp2
      have e0 : (memT T G).take k = memT T G := List.take_of_length_le (by rw [memT_length]; have := HP.out; omega)
      have r0 := RO.out
      rw [e0] at r0
      obtain ⟨oa, oc, e1, o1⟩ := OwnTank.of_row r0
      subst e1
      go_ret
      exact ⟨_, _, rfl, o1.mono (Nat.le_refl _) (Nat.le_refl _), NW.out⟩

set_option maxRecDepth 100000 in
set_option maxHeartbeats 2000000 in
theorem tanksIn_any (w : World) (aa : Option Addr) (n ca : Nat) (T : List Tk) (ab : Option Addr) (p cb : Nat) (G : List Int) (ha : Tanks w aa n ca T) (hb : Ints w ab p cb G) (hp : p ≤ 6)
    (hG : ∀ j, j < G.length → (0 : Int) ≤ G[j]?.getD 0 ∧ G[j]?.getD 0 < (n : Int)) :
    Calls Try.prog 39 #[.slice ab p cb, .slice aa n ca] w fun e w' => ∃ oa oc, e = .returned (.slice oa p oc) ∧ OwnTank w' w.heap.size w'.heap.size oa p oc (memT T G) ∧ New w w' := by
  have HP := Lib.hid hb.1
  have HA := Lib.hid ha; clear ha
  have HB := Lib.hid hb; clear hb
  have HG := Lib.hid hG; clear hG
  have hmk := run_makeTank Try.underlying28 (n := p) (by omega)
  obtain ⟨f0, hf0⟩ := rowIs_madeTank w p 47
  have F0 := Lib.hid hf0; clear hf0
  go_enter Try.func39, Try.ntmps39
  go_wp2_with fail
  go_loopw [13] (fun i wr => ∃ (k : Nat) (f : Nat → Value), k ≤ p ∧ i = .int .i64 k ∧ wr.rowIs w.heap.size 47 (p * 3) f ∧ (∀ j, j < k → f (j * 3) = .int .i64 ((memT T G)[j]?.getD (0, 0, 0)).1 ∧ f (j * 3 + 1) = .int .i64 ((memT T G)[j]?.getD (0, 0, 0)).2.1 ∧ f (j * 3 + 2) = .int .i64 ((memT T G)[j]?.getD (0, 0, 0)).2.2) ∧ New w wr) (fun i _ => p - (intOf i).toNat)
  case atStart => exact ⟨0, f0, Nat.zero_le _, rfl, F0.out, fun j hj => absurd hj (by omega), (New.refl w).alloc _⟩
  case round =>
    obtain ⟨k, f, hk, rfl, hrow, hf, hnew⟩ := hrel
    have HR := Lib.hid hrow; clear hrow
    have HF := Lib.hid hf; clear hf
    have NW := Lib.hid hnew; clear hnew
    by_cases hlt : k < p
    · have KG := Lib.hid (show k < G.length by have := HP.out; omega)
      have bd := HG.out k KG.out
      obtain ⟨b, o, rfl, hc⟩ := (HB.out.new NW.out).2.2.2.1 k hlt
      obtain ⟨x, hx⟩ : ∃ x : Nat, G[k]?.getD (0 : Int) = x := ⟨(G[k]?.getD (0 : Int)).toNat, by omega⟩
      rw [hx] at hc bd
      have MX := Lib.hid (show (memT T G)[k]?.getD (0, 0, 0) = T[x]?.getD (0, 0, 0) by rw [memT_get KG.out, hx]; rfl)
      clear hx
      have xn : x < n := by omega
      have x0 : (0 : Int) ≤ (x : Int) := by omega
      have x1 : (x : Int) < (n : Int) := by omega
      clear bd hmk
      obtain ⟨b2, o2, rfl, g0, g1, g2⟩ := (HA.out.new NW.out).2.2.2.1 x xn
      rw [← MX.out] at g0 g1 g2
      have hh0 := World.block_lt_of_cell? _ _ g0
      have c0 : wr.cell? ⟨w.heap.size, k * 3, none⟩ = some (f (k * 3)) := HR.out.cell (by omega)
      have q0 := HR.out.frozen (k * 3)
      have c1 : wr.cell? ⟨w.heap.size, k * 3 + 1, none⟩ = some (f (k * 3 + 1)) := HR.out.cell (by omega)
      have q1 := HR.out.frozen (k * 3 + 1)
      have c2 : wr.cell? ⟨w.heap.size, k * 3 + 2, none⟩ = some (f (k * 3 + 2)) := HR.out.cell (by omega)
      have q2 := HR.out.frozen (k * 3 + 2)
      go_wp2
      go_roundw
      case rel =>
        refine ⟨k + 1, _, by omega, by go_num, (((HR.out.set (k * 3) _).set (k * 3 + 1) _).set (k * 3 + 2) _), fun j hj => ?_, (((NW.out.setCell (Nat.le_refl _) _).setCell (Nat.le_refl _) _).setCell (Nat.le_refl _) _)⟩
        by_cases e : j = k
        · subst e
          simp
        · have h := HF.out j (by omega)
          refine ⟨?_, ?_, ?_⟩
          · rw [if_neg (by omega), if_neg (by omega), if_neg (by omega)]; exact h.1
          · rw [if_neg (by omega), if_neg (by omega), if_neg (by omega)]; exact h.2.1
          · rw [if_neg (by omega), if_neg (by omega), if_neg (by omega)]; exact h.2.2
      case measure => simp [intOf]; omega
    · go_wp2
      go_ret
      obtain rfl : k = p := by omega
      refine ⟨_, _, rfl, ⟨by rw [memT_length]; exact HP.out, Nat.le_refl _, by omega, .inr ⟨w.heap.size, f, rfl, Nat.le_refl _, HR.out.lt, HR.out, HF.out⟩⟩, NW.out⟩
end Go.Proofs.Ytlhpkpfnaepgbaa
