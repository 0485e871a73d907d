/- ParseVessels: words between commas, and the program's reading of one vessel. -/
import Derived.Test.YtknjobpdbbjeoaaDoorPvN
import Derived.Lib.IndexLaws
import Derived.Lib.IndexBytes
namespace Go.Proofs.YtknjobpdbbjeoaaDoor
open Go.RowKit

theorem idx_at : ∀ (a c : List UInt8) (b : UInt8), b ∉ a → Lib.indexByte (a ++ b :: c) b = a.length
  | [], c, b, _ => by simp [Lib.indexByte]
  | x :: a, c, b, h => by
    have hx : (x == b) = false := by simp; exact fun e => h (by simp [e])
    have ih := idx_at a c b (fun hm => h (by simp [hm]))
    show (if x == b then 0 else if Lib.indexByte (a ++ b :: c) b == -1 then -1 else Lib.indexByte (a ++ b :: c) b + 1) = _
    rw [hx, ih]
    have : (((a.length : Nat) : Int) == -1) = false := by simp
    rw [this]; simp
theorem idx_no : ∀ (a : List UInt8) (b : UInt8), b ∉ a → Lib.indexByte a b = -1
  | [], b, _ => rfl
  | x :: a, b, h => by
    have hx : (x == b) = false := by simp; exact fun e => h (by simp [e])
    have ih := idx_no a b (fun hm => h (by simp [hm]))
    show (if x == b then 0 else if Lib.indexByte a b == -1 then -1 else Lib.indexByte a b + 1) = _
    rw [hx, ih]; simp
theorem idx_some {l : List UInt8} {b : UInt8} {i : Nat} (h : Lib.indexByte l b = i) : l = l.take i ++ b :: l.drop (i + 1) := by
  obtain ⟨h1, _⟩ := Lib.indexByte_some h
  have hi : i < l.length := by
    rcases Nat.lt_or_ge i l.length with q | q
    · exact q
    · rw [List.getElem?_eq_none q] at h1; cases h1
  have e : l[i] = b := by rw [List.getElem?_eq_getElem hi] at h1; exact Option.some.inj h1
  rw [← e, List.getElem_cons_drop, List.take_append_drop]

/-- Lists between commas, joined. -/
def joinC : List (List UInt8) → List UInt8
  | [] => []
  | [p] => p
  | p :: q :: r => p ++ 44 :: joinC (q :: r)
theorem joinC_cons (p : List UInt8) {r : List (List UInt8)} (h : r ≠ []) : joinC (p :: r) = p ++ 44 :: joinC r := by
  cases r with
  | nil => exact absurd rfl h
  | cons q r => rfl
theorem joinC_snoc : ∀ (P : List (List UInt8)) (y : List UInt8), P ≠ [] → joinC (P ++ [y]) = joinC P ++ 44 :: y
  | [], _, h => absurd rfl h
  | [p], y, _ => rfl
  | p :: q :: r, y, _ => by
    rw [List.cons_append, joinC_cons p (by simp), joinC_snoc (q :: r) y (by simp), joinC_cons p (by simp)]
    simp
theorem joinC_le : ∀ {P : List (List UInt8)} {p : List UInt8}, p ∈ P → p.length ≤ (joinC P).length
  | [], p, h => by simp at h
  | [q], p, h => by simp at h; rw [h]; exact Nat.le_refl _
  | q :: r :: t, p, h => by
    rw [joinC_cons q (by simp)]
    rw [List.length_append, List.length_cons]
    rcases List.mem_cons.1 h with e | e
    · rw [e]; omega
    · have := joinC_le e; omega
theorem splitK_ne (k : Nat) (s : List UInt8) : Lib.splitK [44] 0 k s ≠ [] := by
  cases k with
  | zero => simp [Lib.splitK]
  | succ k => unfold Lib.splitK; split <;> simp
theorem split_join : ∀ (k : Nat) (s : List UInt8), joinC (Lib.splitK [44] 0 k s) = s
  | 0, s => rfl
  | k + 1, s => by
    unfold Lib.splitK
    rw [Lib.index_one]
    by_cases h : Lib.indexByte s 44 = -1
    · rw [h]; rfl
    · have hg := Lib.indexByte_ge s 44
      obtain ⟨i, hi⟩ : ∃ i : Nat, Lib.indexByte s 44 = i := ⟨(Lib.indexByte s 44).toNat, by omega⟩
      have hne : (Lib.indexByte s 44 == -1) = false := by simpa using h
      rw [hne, hi]
      simp only [Bool.false_eq_true, if_false, Int.toNat_natCast, Nat.add_zero]
      show joinC (s.take i :: Lib.splitK [44] 0 k (s.drop (i + 1))) = s
      rw [joinC_cons _ (splitK_ne _ _), split_join k]
      exact (idx_some hi).symm
theorem split_of : ∀ (ps : List (List UInt8)) (p : List UInt8) (k : Nat), (∀ q ∈ p :: ps, (44 : UInt8) ∉ q) → ps.length ≤ k → Lib.splitK [44] 0 k (joinC (p :: ps)) = p :: ps
  | [], p, k, h, _ => by
    cases k with
    | zero => rfl
    | succ k =>
      show Lib.splitK [44] 0 (k + 1) p = [p]
      unfold Lib.splitK
      rw [Lib.index_one, idx_no p 44 (h p (by simp))]; rfl
  | q :: r, p, k, h, hk => by
    cases k with
    | zero => simp at hk
    | succ k =>
      rw [joinC_cons p (by simp)]
      unfold Lib.splitK
      rw [Lib.index_one, idx_at p _ 44 (h p (by simp))]
      have hne : (((p.length : Nat) : Int) == -1) = false := by simp
      rw [hne]
      simp only [Bool.false_eq_true, if_false, Int.toNat_natCast, Nat.add_zero]
      rw [List.take_left']
      · congr 1
        have e : (p ++ 44 :: joinC (q :: r)).drop (p.length + [(44 : UInt8)].length) = joinC (q :: r) := by
          show (p ++ 44 :: joinC (q :: r)).drop (p.length + 1) = _
          rw [← List.drop_drop, List.drop_left]; rfl
        rw [e]
        exact split_of r q k (fun x hx => h x (by simp at hx ⊢; exact .inr hx)) (by simpa using hk)
      · rfl

theorem num_no {k : Nat} (hk : k < 100) {c : UInt8} (hc : c.toNat < 48) : c ∉ (numT k).data.toList := by
  unfold numT
  by_cases h1 : k < 10
  · rw [Lib.decDigits_one h1]
    intro h
    simp only [List.mem_singleton] at h
    rw [h, UInt8.toNat_ofNat'] at hc
    omega
  · rw [Lib.decDigits_two (by omega) hk]
    intro h
    simp only [List.mem_cons, List.not_mem_nil, or_false] at h
    rcases h with h | h <;> (rw [h, UInt8.toNat_ofNat'] at hc; omega)
def pieL (S H : List Int) (j : Nat) : List UInt8 := (pieceT S H j).data.toList
theorem out_join (S H : List Int) : ∀ n : Nat, (outT S H (n + 1)).data.toList = joinC ((List.range (n + 1)).map (pieL S H))
  | 0 => by
    show (outT S H 0 ++ pieceT S H 0).data.toList = _
    simp [outT, pieL, joinC]
  | n + 1 => by
    have e : (outT S H (n + 1 + 1)).data.toList = (outT S H (n + 1)).data.toList ++ 44 :: pieL S H (n + 1) := by
      rw [show outT S H (n + 1 + 1) = (if n + 1 = 0 then outT S H (n + 1) else outT S H (n + 1) ++ ⟨#[44]⟩) ++ pieceT S H (n + 1) from rfl, if_neg (by omega)]
      simp [pieL]
    rw [e, out_join S H n, List.range_succ (n := n + 1), List.map_append, List.map_singleton, joinC_snoc _ _ (by simp)]
theorem pie_no {S H : List Int} (hg : Good S H) {j : Nat} (hj : j < S.length) : (44 : UInt8) ∉ pieL S H j := by
  obtain ⟨s, h, es, eh, b1, b2, b3⟩ := hg.nats hj
  unfold pieL
  rw [pieceT_eq es eh]
  have e : (numT h ++ ⟨#[47]⟩ ++ numT s).data.toList = (numT h).data.toList ++ ([47] ++ (numT s).data.toList) := by simp
  rw [e]
  intro hm
  rcases List.mem_append.1 hm with q | q
  · exact num_no (by omega) (by decide) q
  · rcases List.mem_append.1 q with q | q
    · revert q; decide
    · exact num_no (by omega) (by decide) q
theorem out_ge {S H : List Int} (hg : Good S H) : ∀ k : Nat, k ≤ S.length → k ≤ (outT S H k).size
  | 0, _ => Nat.zero_le _
  | k + 1, hk => by
    have h1 := out_ge hg k (by omega)
    obtain ⟨s, h, es, eh, _⟩ := hg.nats (show k < S.length by omega)
    have e : (ByteArray.mk #[47]).size = 1 := rfl
    have e2 : (ByteArray.mk #[44]).size = 1 := rfl
    unfold outT
    rw [pieceT_eq es eh]
    split <;> simp only [ByteArray.size_append, e, e2] <;> omega
/-- The words of a text of vessels. -/
theorem out_words {S H : List Int} (hg : Good S H) {s : ByteArray} (h : outT S H S.length = s) : (Lib.splitB ⟨#[44]⟩ 0 (min 6 (s.size + 1) - 1) s).map (·.data.toList) = (List.range S.length).map (pieL S H) := by
  have hl := hg.1
  have hge := out_ge hg S.length (Nat.le_refl _)
  rw [h] at hge
  obtain ⟨n, hn⟩ : ∃ n, S.length = n + 1 := ⟨S.length - 1, by omega⟩
  rw [Lib.splitB_data]
  have e : s.data.toList = joinC ((List.range (n + 1)).map (pieL S H)) := by rw [← h, hn]; exact out_join S H n
  rw [e, hn]
  rw [List.range_succ_eq_map, List.map_cons]
  refine split_of _ _ _ (fun q hq => ?_) (by simp; omega)
  have hq' : q ∈ (List.range (n + 1)).map (pieL S H) := by rw [List.range_succ_eq_map, List.map_cons]; exact hq
  obtain ⟨j, hj, rfl⟩ := List.mem_map.1 hq'
  exact pie_no hg (by have := List.mem_range.1 hj; omega)
theorem words_join (s : ByteArray) (k : Nat) : joinC ((Lib.splitB ⟨#[44]⟩ 0 k s).map (·.data.toList)) = s.data.toList := by
  rw [Lib.splitB_data]; exact split_join k _

/-- The cut at the first '/'. -/
def cutA (s : ByteArray) : ByteArray := ⟨(Lib.cut s.data.toList [47]).1.toArray⟩
def cutC (s : ByteArray) : ByteArray := ⟨(Lib.cut s.data.toList [47]).2.1.toArray⟩
theorem cut_piece {h s : Nat} (hh : h < 100) : cutA (numT h ++ ⟨#[47]⟩ ++ numT s) = numT h ∧ cutC (numT h ++ ⟨#[47]⟩ ++ numT s) = numT s := by
  have e : (numT h ++ ⟨#[47]⟩ ++ numT s).data.toList = (numT h).data.toList ++ 47 :: (numT s).data.toList := by simp
  unfold cutA cutC Lib.cut
  rw [e, Lib.index_one, idx_at _ _ 47 (num_no hh (by decide)), if_pos (by omega)]
  simp only [Int.toNat_natCast]
  refine ⟨ByteArray.ext (Array.ext' ?_), ByteArray.ext (Array.ext' ?_)⟩
  · simp
  · show (((numT h).data.toList ++ 47 :: (numT s).data.toList).drop ((numT h).data.toList.length + 1)) = _
    rw [← List.drop_drop, List.drop_left]; rfl
theorem cut_found {s : ByteArray} (h : cutC s ≠ ⟨#[]⟩) : s = cutA s ++ ⟨#[47]⟩ ++ cutC s := by
  by_cases hi : Lib.indexByte s.data.toList 47 = -1
  · exfalso
    apply h
    unfold cutC Lib.cut
    rw [Lib.index_one, hi]; rfl
  · have hg := Lib.indexByte_ge s.data.toList 47
    obtain ⟨i, hi⟩ : ∃ i : Nat, Lib.indexByte s.data.toList 47 = i := ⟨(Lib.indexByte s.data.toList 47).toNat, by omega⟩
    refine ByteArray.ext (Array.ext' ?_)
    unfold cutA cutC Lib.cut
    rw [Lib.index_one, hi, if_pos (by omega)]
    have q := idx_some hi
    simpa using q
theorem cutA_size (s : ByteArray) : (cutA s).size ≤ s.size := by
  have hl : s.data.toList.length = s.size := by simp
  show (Lib.cut s.data.toList [47]).1.length ≤ s.size
  unfold Lib.cut
  split
  · simp only [List.length_take]; omega
  · show s.data.toList.length ≤ s.size; omega
theorem cutC_size (s : ByteArray) : (cutC s).size ≤ s.size := by
  have hl : s.data.toList.length = s.size := by simp
  show (Lib.cut s.data.toList [47]).2.1.length ≤ s.size
  unfold Lib.cut
  split
  · simp only [List.length_drop]; omega
  · show 0 ≤ s.size; omega
theorem num_ne {k : Nat} : numT k ≠ ⟨#[]⟩ := by
  unfold numT
  intro h
  have : Lib.decDigits k = [] := by
    have := congrArg (fun b : ByteArray => b.data.toList) h
    simpa using this
  rw [Lib.decDigits] at this
  split at this <;> simp at this

/-- One vessel's word. -/
def RetVW (w : World) (s : ByteArray) (e : Ending) (w' : World) : Prop :=
  ∃ (a z : Int) (ok : Bool), e = .returned (.tuple #[.int .i64 a, .int .i64 z, .bool ok]) ∧ New w w' ∧
    ((ok = true ∧ 0 ≤ a ∧ 0 ≤ z ∧ s = numT a.toNat ++ ⟨#[47]⟩ ++ numT z.toNat ∧ ∀ h k : Nat, h < 100 → k < 100 → s = numT h ++ ⟨#[47]⟩ ++ numT k → a = (h : Int) ∧ z = (k : Int)) ∨
      (ok = false ∧ ∀ h k : Nat, h < 100 → k < 100 → s ≠ numT h ++ ⟨#[47]⟩ ++ numT k))

set_option maxRecDepth 100000 in
set_option maxHeartbeats 1000000 in
theorem parseVessel_any (w : World) (s : ByteArray) (hs : s.size ≤ 1048576) (he : PmEnv w) (mx : Int) (hm : w.cell? ⟨0, 0, none⟩ = some (.int .i64 mx)) :
    Calls Tryd.prog 11 #[.string s] w (RetVW w s) := by
  have hA : (cutA s).size ≤ 1048576 := Nat.le_trans (cutA_size s) hs
  have hC : (cutC s).size ≤ 1048576 := Nat.le_trans (cutC_size s) hs
  have HE := Lib.hid he; clear he
  go_enter Tryd.func11, Tryd.ntmps11
  go_wp2_with fail
  refine (Tryd.strings_Cut s ⟨#[47]⟩ mx _ (by omega) hm).mono ?_
  rintro e w2 ⟨rfl, n, hw2⟩
  have N2 := Lib.hid (show New w w2 by rw [hw2]; exact (New.refl _).drewN _); clear hw2
  obtain ⟨A, hAA⟩ : ∃ A, A = cutA s := ⟨_, rfl⟩
  obtain ⟨C, hCC⟩ : ∃ C, C = cutC s := ⟨_, rfl⟩
  obtain ⟨ok0, hok0⟩ : ∃ b, b = (Lib.cut s.data.toList [47]).2.2 := ⟨_, rfl⟩
  rw [show (⟨(Lib.cut s.data.toList (⟨#[47]⟩ : ByteArray).data.toList).1.toArray⟩ : ByteArray) = A from hAA.symm, show (⟨(Lib.cut s.data.toList (⟨#[47]⟩ : ByteArray).data.toList).2.1.toArray⟩ : ByteArray) = C from hCC.symm, show (Lib.cut s.data.toList (⟨#[47]⟩ : ByteArray).data.toList).2.2 = ok0 from hok0.symm]
  rw [← hAA] at hA
  rw [← hCC] at hC
  have EA := Lib.hid hAA; have EC := Lib.hid hCC; clear hAA hCC hok0 hm
  go_wp2_with fail
  refine (parseNumber_any _ A hA (HE.out.new N2.out)).mono ?_
  rintro e w3 ⟨a, oka, rfl, n3, ha⟩
  have N3 := Lib.hid (N2.out.trans n3); clear n3
  have HA := Lib.hid ha; clear ha
  go_wp2_with fail
  refine (parseNumber_any _ C hC (HE.out.new N3.out)).mono ?_
  rintro e w4 ⟨z, okz, rfl, n4, hz⟩
  have N4 := Lib.hid (N3.out.trans n4); clear n4
  have HZ := Lib.hid hz; clear hz
  have CP := Lib.hid (show ∀ h k : Nat, h < 100 → s = numT h ++ ⟨#[47]⟩ ++ numT k → A = numT h ∧ C = numT k from fun h k hh e => by
    rw [EA.out, EC.out, e]; exact cut_piece hh)
  cases oka
  case false =>
    go_wp2
    go_ret3
    refine ⟨a, z, false, rfl, N4.out, .inr ⟨rfl, fun h k hh hk e => ?_⟩⟩
    rcases HA.out with ⟨q, _⟩ | ⟨_, q⟩
    · cases q
    · exact q h hh (CP.out h k hh e).1
  case true =>
    cases okz
    case false =>
      go_wp2
      go_ret3
      refine ⟨a, z, false, rfl, N4.out, .inr ⟨rfl, fun h k hh hk e => ?_⟩⟩
      rcases HZ.out with ⟨q, _⟩ | ⟨_, q⟩
      · cases q
      · exact q k hk (CP.out h k hh e).2
    case true =>
      go_wp2
      go_ret3
      rcases HA.out with ⟨_, a0, ea, ua⟩ | ⟨q, _⟩
      · rcases HZ.out with ⟨_, z0, ez, uz⟩ | ⟨q, _⟩
        · refine ⟨a, z, true, rfl, N4.out, .inl ⟨rfl, a0, z0, ?_, fun h k hh hk e => ?_⟩⟩
          · rw [← ea, ← ez, EA.out, EC.out]
            exact cut_found (by rw [← EC.out, ez]; exact num_ne)
          · obtain ⟨q1, q2⟩ := CP.out h k hh e
            exact ⟨ua h hh q1, uz k hk q2⟩
        · cases q
      · cases q
end Go.Proofs.YtknjobpdbbjeoaaDoor
