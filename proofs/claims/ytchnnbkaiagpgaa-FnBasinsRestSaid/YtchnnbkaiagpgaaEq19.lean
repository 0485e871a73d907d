/- The comparison of two states. -/
import Derived.Test.YtchnnbkaiagpgaaTicks5
namespace Go.Proofs.Ytchnnbkaiagpgaa
open Go.RowKit Go.Conc

abbrev basC (a : Int × Int × Int) : Value := .agg #[.int .i64 a.1, .int .i64 a.2.1, .int .i64 a.2.2]
theorem run_eq_basin (w : World) (d : Nat) (a b : Int × Int × Int) : (Op.equalIn (d + 2) 48 (basC a) (basC b)).run Try.prog w = .ok (decide (a = b)) w := by
  obtain ⟨a0, a1, a2⟩ := a
  obtain ⟨b0, b1, b2⟩ := b
  rw [run_equalIn_agg w (d + 1) 48 _ _ (by kernel_rfl) (by kernel_rfl)]
  by_cases h0 : a0 = b0
  · by_cases h1 : a1 = b1
    · by_cases h2 : a2 = b2
      · subst h0 h1 h2
        simp [go_sem]
      · subst h0 h1
        simp [go_sem, h2]
    · subst h0
      simp [go_sem, h1]
  · simp [go_sem, h0]

def eq6 (f g : Nat → Int × Int × Int) : Bool := decide (f 0 = g 0) && (decide (f 1 = g 1) && (decide (f 2 = g 2) && (decide (f 3 = g 3) && (decide (f 4 = g 4) && decide (f 5 = g 5)))))
theorem part_rfl {a b : Result Value} (h : a = b) : a = b := h
theorem run_eq_places (w : World) (d : Nat) (f g : Nat → Int × Int × Int) : (Op.equalIn (d + 3) 70 (.agg #[.int .i64 (f 0).1, .int .i64 (f 0).2.1, .int .i64 (f 0).2.2, .int .i64 (f 1).1, .int .i64 (f 1).2.1, .int .i64 (f 1).2.2, .int .i64 (f 2).1, .int .i64 (f 2).2.1, .int .i64 (f 2).2.2, .int .i64 (f 3).1, .int .i64 (f 3).2.1, .int .i64 (f 3).2.2, .int .i64 (f 4).1, .int .i64 (f 4).2.1, .int .i64 (f 4).2.2, .int .i64 (f 5).1, .int .i64 (f 5).2.1, .int .i64 (f 5).2.2]) (.agg #[.int .i64 (g 0).1, .int .i64 (g 0).2.1, .int .i64 (g 0).2.2, .int .i64 (g 1).1, .int .i64 (g 1).2.1, .int .i64 (g 1).2.2, .int .i64 (g 2).1, .int .i64 (g 2).2.1, .int .i64 (g 2).2.2, .int .i64 (g 3).1, .int .i64 (g 3).2.1, .int .i64 (g 3).2.2, .int .i64 (g 4).1, .int .i64 (g 4).2.1, .int .i64 (g 4).2.2, .int .i64 (g 5).1, .int .i64 (g 5).2.1, .int .i64 (g 5).2.2])).run Try.prog w = .ok (eq6 f g) w := by
  have hp : ∀ (h : Nat → Int × Int × Int), ∀ k, k < 6 → (part 48 #[.int .i64 (h 0).1, .int .i64 (h 0).2.1, .int .i64 (h 0).2.2, .int .i64 (h 1).1, .int .i64 (h 1).2.1, .int .i64 (h 1).2.2, .int .i64 (h 2).1, .int .i64 (h 2).2.1, .int .i64 (h 2).2.2, .int .i64 (h 3).1, .int .i64 (h 3).2.1, .int .i64 (h 3).2.2, .int .i64 (h 4).1, .int .i64 (h 4).2.1, .int .i64 (h 4).2.2, .int .i64 (h 5).1, .int .i64 (h 5).2.1, .int .i64 (h 5).2.2] (k * 3)).run Try.prog w = .ok (basC (h k)) w := by
    intro h k hk
    match k, hk with
    | 0, _ => exact part_rfl (by kernel_rfl)
    | 1, _ => exact part_rfl (by kernel_rfl)
    | 2, _ => exact part_rfl (by kernel_rfl)
    | 3, _ => exact part_rfl (by kernel_rfl)
    | 4, _ => exact part_rfl (by kernel_rfl)
    | 5, _ => exact part_rfl (by kernel_rfl)
  have hs : (sizeOf 48).run Try.prog w = .ok 3 w := by kernel_rfl
  have hb := fun a b => run_eq_basin w d a b
  rw [Op.equalIn]
  simp only [Sem.run_bind, run_underlying Try.underlying70, Result.andThen_ok, hs]
  simp only [Std.Legacy.Range.forIn_eq_forIn_range', Std.Legacy.Range.size, Nat.sub_zero, Nat.add_sub_cancel, Nat.div_one, List.range']
  have hf := hp f
  have hg := hp g
  have m0 := hf (0) (by omega)
  have k0 := hg (0) (by omega)
  have m1 := hf (0 + 1) (by omega)
  have k1 := hg (0 + 1) (by omega)
  have m2 := hf (0 + 1 + 1) (by omega)
  have k2 := hg (0 + 1 + 1) (by omega)
  have m3 := hf (0 + 1 + 1 + 1) (by omega)
  have k3 := hg (0 + 1 + 1 + 1) (by omega)
  have m4 := hf (0 + 1 + 1 + 1 + 1) (by omega)
  have k4 := hg (0 + 1 + 1 + 1 + 1) (by omega)
  have m5 := hf (0 + 1 + 1 + 1 + 1 + 1) (by omega)
  have k5 := hg (0 + 1 + 1 + 1 + 1 + 1) (by omega)
  clear hp hf hg hs
  generalize (#[.int .i64 (f 0).1, .int .i64 (f 0).2.1, .int .i64 (f 0).2.2, .int .i64 (f 1).1, .int .i64 (f 1).2.1, .int .i64 (f 1).2.2, .int .i64 (f 2).1, .int .i64 (f 2).2.1, .int .i64 (f 2).2.2, .int .i64 (f 3).1, .int .i64 (f 3).2.1, .int .i64 (f 3).2.2, .int .i64 (f 4).1, .int .i64 (f 4).2.1, .int .i64 (f 4).2.2, .int .i64 (f 5).1, .int .i64 (f 5).2.1, .int .i64 (f 5).2.2] : Array Value) = A at *
  generalize (#[.int .i64 (g 0).1, .int .i64 (g 0).2.1, .int .i64 (g 0).2.2, .int .i64 (g 1).1, .int .i64 (g 1).2.1, .int .i64 (g 1).2.2, .int .i64 (g 2).1, .int .i64 (g 2).2.1, .int .i64 (g 2).2.2, .int .i64 (g 3).1, .int .i64 (g 3).2.1, .int .i64 (g 3).2.2, .int .i64 (g 4).1, .int .i64 (g 4).2.1, .int .i64 (g 4).2.2, .int .i64 (g 5).1, .int .i64 (g 5).2.1, .int .i64 (g 5).2.2] : Array Value) = C at *
  by_cases h0 : f (0) = g (0)
  · by_cases h1 : f (0 + 1) = g (0 + 1)
    · by_cases h2 : f (0 + 1 + 1) = g (0 + 1 + 1)
      · by_cases h3 : f (0 + 1 + 1 + 1) = g (0 + 1 + 1 + 1)
        · by_cases h4 : f (0 + 1 + 1 + 1 + 1) = g (0 + 1 + 1 + 1 + 1)
          · by_cases h5 : f (0 + 1 + 1 + 1 + 1 + 1) = g (0 + 1 + 1 + 1 + 1 + 1)
            · simp [List.forIn_cons, List.forIn_nil, Sem.run_bind, Sem.run_pure, Sem.run_ite, Result.andThen_ok, hb, m0, k0, m1, k1, m2, k2, m3, k3, m4, k4, m5, k5, eq6, h0, h1, h2, h3, h4, h5]
            · simp [List.forIn_cons, List.forIn_nil, Sem.run_bind, Sem.run_pure, Sem.run_ite, Result.andThen_ok, hb, m0, k0, m1, k1, m2, k2, m3, k3, m4, k4, m5, k5, eq6, h0, h1, h2, h3, h4, h5]
          · simp [List.forIn_cons, List.forIn_nil, Sem.run_bind, Sem.run_pure, Sem.run_ite, Result.andThen_ok, hb, m0, k0, m1, k1, m2, k2, m3, k3, m4, k4, m5, k5, eq6, h0, h1, h2, h3, h4]
        · simp [List.forIn_cons, List.forIn_nil, Sem.run_bind, Sem.run_pure, Sem.run_ite, Result.andThen_ok, hb, m0, k0, m1, k1, m2, k2, m3, k3, m4, k4, m5, k5, eq6, h0, h1, h2, h3]
      · simp [List.forIn_cons, List.forIn_nil, Sem.run_bind, Sem.run_pure, Sem.run_ite, Result.andThen_ok, hb, m0, k0, m1, k1, m2, k2, m3, k3, m4, k4, m5, k5, eq6, h0, h1, h2]
    · simp [List.forIn_cons, List.forIn_nil, Sem.run_bind, Sem.run_pure, Sem.run_ite, Result.andThen_ok, hb, m0, k0, m1, k1, m2, k2, m3, k3, m4, k4, m5, k5, eq6, h0, h1]
  · simp [List.forIn_cons, List.forIn_nil, Sem.run_bind, Sem.run_pure, Sem.run_ite, Result.andThen_ok, hb, m0, k0, m1, k1, m2, k2, m3, k3, m4, k4, m5, k5, eq6, h0]

theorem run_eq_state (w : World) (f g : Nat → Int × Int × Int) (n m : Int) : (Op.equalIn 10000 72 (stV f n) (stV g m)).run Try.prog w = .ok (eq6 f g && decide (n = m)) w := by
  have p0 : ∀ (h : Nat → Int × Int × Int) (q : Int), (part 70 (stC h q).toArray 0).run Try.prog w = .ok (.agg #[.int .i64 (h 0).1, .int .i64 (h 0).2.1, .int .i64 (h 0).2.2, .int .i64 (h 1).1, .int .i64 (h 1).2.1, .int .i64 (h 1).2.2, .int .i64 (h 2).1, .int .i64 (h 2).2.1, .int .i64 (h 2).2.2, .int .i64 (h 3).1, .int .i64 (h 3).2.1, .int .i64 (h 3).2.2, .int .i64 (h 4).1, .int .i64 (h 4).2.1, .int .i64 (h 4).2.2, .int .i64 (h 5).1, .int .i64 (h 5).2.1, .int .i64 (h 5).2.2]) w := fun h q => by kernel_rfl
  have p1 : ∀ (h : Nat → Int × Int × Int) (q : Int), (part 3 (stC h q).toArray 18).run Try.prog w = .ok (.int .i64 q) w := fun h q => by kernel_rfl
  have hb := run_eq_places w 9996 f g
  have e0 := p0 f n
  have e1 := p0 g m
  have e2 := p1 f n
  have e3 := p1 g m
  rw [run_equalIn_agg w 9999 72 _ _ (by kernel_rfl) (by kernel_rfl)]
  clear p0 p1
  have hfs : (Try.prog.fieldsOf 72).toList.map (fun q => (decide (q.name ≠ "_"), q.type, q.offset)) = [(true, 70, 0), (true, 3, 18)] := by kernel_rfl
  generalize (Try.prog.fieldsOf 72).toList = L at hfs ⊢
  rcases L with _ | ⟨a, _ | ⟨b, _ | ⟨c, L⟩⟩⟩
  · simp at hfs
  · simp at hfs
  · simp only [List.map_cons, List.map_nil, List.cons.injEq, Prod.mk.injEq, and_true, decide_eq_true_eq] at hfs
    obtain ⟨⟨a1, a2, a3⟩, b1, b2, b3⟩ := hfs
    have hi : (Op.equalIn 9999 3 (.int .i64 n) (.int .i64 m)).run Try.prog w = .ok (n == m) w := run_equalIn_int w 9998 3 .i64 .i64 n m Try.underlying3
    simp only [Op.eqFields, a2, a3, b2, b3, if_pos a1, if_pos b1, Sem.run_bind, Sem.run_ite, Sem.run_pure, e0, e1, e2, e3, hb, hi, Result.andThen_ok]
    cases eq6 f g <;> cases hd : (n == m) <;> simp_all
  · simp at hfs
end Go.Proofs.Ytchnnbkaiagpgaa
