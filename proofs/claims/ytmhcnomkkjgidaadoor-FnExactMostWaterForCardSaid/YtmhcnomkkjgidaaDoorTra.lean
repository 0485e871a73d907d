/- Traffic: a text of ships up and ships down, the model's test and the program's. -/
import Derived.Test.YtmhcnomkkjgidaaDoorBase
import Derived.Test.YtmhcnomkkjgidaaDoorHelp
import Derived.Test.YtmhcnomkkjgidaaDoorShelf
namespace Go.Proofs.YtmhcnomkkjgidaaDoor
open Go.RowKit

/-- The byte at i, or nought. -/
def byA (s : ByteArray) (i : Nat) : UInt8 := s.data.toList.getD i 0
def isShip (b : UInt8) : Bool := b == 117 || b == 100
/-- A text is traffic. -/
def trB (s : ByteArray) : Bool := decide (s.size ≤ 40) && s.data.toList.all isShip

theorem isShip_set : (fun b : UInt8 => ([117, 100] : List UInt8).contains b) = isShip := by
  funext b
  rw [Bool.eq_iff_iff]; simp [isShip]
theorem dropWhile_nil {α : Type} (p : α → Bool) : (l : List α) → l.dropWhile p = [] ↔ l.all p = true
  | [] => by simp
  | a :: l => by
    have := dropWhile_nil p l
    rw [List.dropWhile_cons]
    by_cases h : p a = true
    · rw [if_pos h, this]; simp [h]
    · rw [if_neg h]; simp [h]
theorem trim_nil (l : List UInt8) : Lib.trimS l [117, 100] = [] ↔ l.all isShip = true := by
  unfold Lib.trimS Lib.trimLeftS Lib.trimRightS
  rw [isShip_set, dropWhile_nil]
  constructor
  · intro h
    by_cases ha : l.all isShip = true
    · exact ha
    · have hd : (l.reverse.dropWhile isShip) ≠ [] := by
        intro h0; rw [dropWhile_nil] at h0; exact ha (by rw [← List.all_reverse]; exact h0)
      obtain ⟨b, t, hbt⟩ := List.exists_cons_of_ne_nil hd
      have hb := List.head_dropWhile_not isShip (l := l.reverse) hd
      simp only [hbt, List.head_cons] at hb
      rw [hbt] at h
      simp [hb] at h
  · intro h
    have : l.reverse.dropWhile isShip = [] := by rw [dropWhile_nil, List.all_reverse]; exact h
    rw [this]; rfl

theorem getD_toNat (s : ByteArray) (i : Nat) (hi : i < s.size) : (s[i]'hi).toNat = (byA s i).toNat := by
  obtain ⟨⟨l⟩⟩ := s
  have hl : i < l.length := hi
  have e : (ByteArray.mk ⟨l⟩)[i]'hi = l.getD i 0 := by
    simp only [List.getD, List.getElem?_eq_getElem hl, Option.getD_some]
    rfl
  rw [e]; rfl
theorem trB_false_size {s : ByteArray} (h : ¬ s.size ≤ 40) : trB s = false := by unfold trB; simp [h]
theorem trB_size {s : ByteArray} (h : s.size ≤ 40) : trB s = s.data.toList.all isShip := by unfold trB; simp [h]
theorem byA_mem {s : ByteArray} {i : Nat} (hi : i < s.size) : byA s i ∈ s.data.toList := by
  have hl : i < s.data.toList.length := by simpa using hi
  unfold byA
  rw [List.getD_eq_getElem?_getD, List.getElem?_eq_getElem hl]
  exact List.getElem_mem hl
theorem byA_all {s : ByteArray} (h : s.data.toList.all isShip = true) {i : Nat} (hi : i < s.size) : isShip (byA s i) = true := List.all_eq_true.1 h _ (byA_mem hi)
theorem isShip_cases {b : UInt8} (h : isShip b = true) : b = 117 ∨ b = 100 := by unfold isShip at h; simpa using h
theorem isShip_not {b : UInt8} (h : isShip b = false) : b.toNat ≠ 117 ∧ b.toNat ≠ 100 := by
  unfold isShip at h
  simp only [Bool.or_eq_false_iff, beq_eq_false_iff_ne] at h
  exact ⟨fun e => h.1 (UInt8.toNat_inj.1 e), fun e => h.2 (UInt8.toNat_inj.1 e)⟩
theorem all_of_byA {s : ByteArray} (h : ∀ i, i < s.size → isShip (byA s i) = true) : s.data.toList.all isShip = true := by
  rw [List.all_eq_true]
  intro b hb
  obtain ⟨i, hi, rfl⟩ := List.getElem_of_mem hb
  have := h i (by simpa using hi)
  unfold byA at this
  rwa [List.getD_eq_getElem?_getD, List.getElem?_eq_getElem hi] at this
theorem not_all_of_byA {s : ByteArray} {i : Nat} (hi : i < s.size) (h : isShip (byA s i) = false) : s.data.toList.all isShip = false := by
  cases h' : s.data.toList.all isShip
  · rfl
  · rw [byA_all h' hi] at h; cases h
theorem next_ship {s : ByteArray} {i : Nat} (h : ∀ j, j < i → isShip (byA s j) = true) (h1 : isShip (byA s i) = true) : ∀ j, j < i + 1 → isShip (byA s j) = true := by
  intro j hj
  by_cases e : j = i
  · rw [e]; exact h1
  · exact h j (by omega)

set_option maxRecDepth 100000 in
theorem loTraffic_any (w : World) (s : ByteArray) (hs : s.size ≤ 1048576) :
    Calls Tryd.prog 32 #[.string s] w fun e w' => e = .returned (.bool (trB s)) ∧ w = w' := by
  by_cases h40 : s.size ≤ 40
  · obtain ⟨R, hR⟩ : ∃ R, R = trB s := ⟨_, rfl⟩
    rw [← hR]
    rw [trB_size h40] at hR
    have HR := Lib.hid hR; clear hR
    go_enter Tryd.func32, Tryd.ntmps32
    go_wp2_with fail
    go_loopw [3] (fun a wr => ∃ i : Nat, i ≤ s.size ∧ (∀ j, j < i → isShip (byA s j) = true) ∧ a = .int .i64 i ∧ wr = w) (fun a _ => (s.size - (intOf a).toNat))
    case atStart => exact ⟨0, Nat.zero_le _, fun j hj => absurd hj (Nat.not_lt_zero _), rfl, rfl⟩
    case round =>
      obtain ⟨i, hi, hall, rfl, rfl⟩ := hrel
      have HL := Lib.hid hall; clear hall
      by_cases hlt : i < s.size
      · have hg := getD_toNat s i hlt
        have hb := (byA s i).toNat_lt
        by_cases hgo : (byA s i).toNat = 117
        · have hsh : isShip (byA s i) = true := by unfold isShip; simp; exact .inl (UInt8.toNat_inj.1 hgo)
          have HS := Lib.hid hsh; clear hsh
          go_wp2
          exact ⟨⟨i + 1, by omega, next_ship HL.out HS.out, rfl, trivial⟩, by show s.size - ((i : Int) + 1).toNat < s.size - (i : Int).toNat; omega⟩
        · by_cases hg1 : (byA s i).toNat = 100
          · have hsh : isShip (byA s i) = true := by unfold isShip; simp; exact .inr (UInt8.toNat_inj.1 hg1)
            have HS := Lib.hid hsh; clear hsh
            go_wp2
            exact ⟨⟨i + 1, by omega, next_ship HL.out HS.out, rfl, trivial⟩, by show s.size - ((i : Int) + 1).toNat < s.size - (i : Int).toNat; omega⟩
          · have hsh : isShip (byA s i) = false := by
              unfold isShip
              simp only [Bool.or_eq_false_iff, beq_eq_false_iff_ne]
              exact ⟨fun e => hgo (by rw [e]; rfl), fun e => hg1 (by rw [e]; rfl)⟩
            have hr := HR.out
            rw [not_all_of_byA hlt hsh] at hr
            subst hr
            clear HR hsh
            go_wp2
            all_goals first
              | (go_ret; exact ⟨ret_bool rfl, rfl⟩)
              | (exfalso; rename_i e; simp at e; omega)
      · obtain rfl : i = s.size := by omega
        have e := HR.out
        rw [all_of_byA HL.out] at e
        subst e
        clear HR HL
        go_wp2
        go_ret
        exact ⟨ret_bool rfl, rfl⟩
  · have R := trB_false_size h40
    rw [R]
    clear R
    go_enter Tryd.func32, Tryd.ntmps32
    go_wp2
    go_ret
    exact ⟨ret_bool rfl, rfl⟩

theorem sIsTraffic_any (w : World) (s : ByteArray) (hs : s.size ≤ 1048576) :
    Calls Tryd.prog 10 #[.string s] w fun e w' => e = .returned (.bool (trB s)) ∧ New w w' := by
  go_enter Tryd.func10, Tryd.ntmps10
  go_wp2_with fail
  refine (loTraffic_any _ s hs).mono ?_
  rintro e w1 ⟨rfl, rfl⟩
  go_wp2
  go_ret
  exact ⟨ret_bool rfl, New.refl _⟩
theorem setUD_ascii : ∀ (j : Nat) b, (⟨#[117, 100]⟩ : ByteArray).data.toList[j]? = some b → b.toNat < 128 := by
  intro j b h
  have : b ∈ ([117, 100] : List UInt8) := List.mem_of_getElem? h
  simp at this
  rcases this with rfl | rfl <;> decide
set_option maxRecDepth 100000 in
theorem iIsTraffic_any (w : World) (s : ByteArray) (hs : s.size ≤ 1048576) :
    Calls Tryd.prog 11 #[.string s] w fun e w' => e = .returned (.bool (trB s)) ∧ New w w' := by
  by_cases h40 : s.size ≤ 40
  · go_enter Tryd.func11, Tryd.ntmps11
    go_wp2_with fail
    refine (Tryd.strings_Trim s ⟨#[117, 100]⟩ _ (by omega) (by decide) setUD_ascii).mono ?_
    rintro e w1 ⟨rfl, n1⟩
    go_wp2
    go_ret
    exact ⟨ret_bool (by rw [trB_size h40]; rw [Bool.eq_iff_iff, List.isEmpty_iff]; exact trim_nil _), n1⟩
  · have R := trB_false_size h40
    rw [R]
    clear R
    go_enter Tryd.func11, Tryd.ntmps11
    go_wp2
    go_ret
    exact ⟨ret_bool rfl, New.refl _⟩
end Go.Proofs.YtmhcnomkkjgidaaDoor
