/- PROVED: for every input the law of FirstMeeting returns true, and each argument reads behind the call as it read before. No condition. -/
import Derived.Test.YtnahlemchajfdaaOpen0
import Derived.Test.YtnahlemchajfdaaLawFirstMeeting
import Derived.Conc.LeavingOf
namespace Go.Proofs.Ytnahlemchajfdaa
open Go.ChangeShapes Go.WideShapes Go.ChangeAt Go.RowKit Go.Conc Go.Proofs.Ytnahlemchajfdaa.Meta

theorem npw_all (W : World) : NPW W := fun _ _ h => absurd h (by unfold gmax; omega)

set_option maxRecDepth 100000 in
theorem FirstMeeting_lifted (os : Os) (started : os.Started) (H : Type) (enc : TypeId × Value → H) :
    ReturnsInLeavingWide {} Try.checked os 8 .any (Rows.fnExactFirstMeetingSpec.pre6 enc Try.prog Try.f8 Rows.fnExactFirstMeetingRow.domain false) (Rows.fnExactFirstMeetingSpec.post enc Try.prog Try.f8 false true false false) := by
  refine returnsInLeavingWide_of_change_sized (C := Try.checked) own started Try.func8
    (ChangeSpec.witness6 (enc := enc) (C := Try.checked) false ⟨#[], #[.agg #[.int .i64 0, .int .i64 0], .agg #[.int .i64 0, .int .i64 0]], []⟩ 8 (by kernel_rfl) (by kernel_rfl) (by kernel_rfl) (by kernel_rfl)) ?_
  intro W base args ds gs before hval0 hW hcnd _ _
  have hval : ∀ (j : Nat) t v, Try.f8.params[j]? = some t → args[j]? = some v → Value.okWide Try.prog W .any base t v := hval0
  have hW' := hW
  obtain ⟨p, q, hA0, hV, rfl, hfz, hnd⟩ := hW
  have hA : DataW.TrodAll enc Try.prog W 0 (fun _ => true) true Try.f8.params.toList args.toList ds p := hA0
  rw [Try.params8] at hA hval
  obtain ⟨v0, vs0, d0, ds0, p0, q0, hargs, rfl, rfl, h0, r0⟩ := trodAll_cons hA
  obtain ⟨v1, vs1, d1, ds1, p1, q1, rfl, rfl, rfl, h1, r1⟩ := trodAll_cons r0
  obtain ⟨rfl, rfl, rfl⟩ := trodAll_nil r1
  obtain rfl : args = #[v0, v1] := by cases args; simp_all
  obtain ⟨rfl, rfl⟩ := trodVars_none hV
  have k0 := h0
  have lt0 : ∀ x ∈ p0, x.block < W.heap.size := by obtain ⟨m, hm⟩ := k0; exact DataW.trod_lt m _ _ _ hm
  have k1 := h1
  have lt1 : ∀ x ∈ p1, x.block < W.heap.size := by obtain ⟨m, hm⟩ := k1; exact DataW.trod_lt m _ _ _ hm
  obtain ⟨x0_0, x0_1, rfl⟩ := open_clockv (hval 0 23 v0 rfl rfl) h0
  obtain ⟨x1_0, x1_1, rfl⟩ := open_clockv (hval 1 23 v1 rfl rfl) h1
  clear hA0 hval0
  have hp : ∀ v W', (v = .bool true ∧ NH W W') → Kept W W' → Rows.fnExactFirstMeetingSpec.post enc Try.prog Try.f8 false true false false W #[.agg #[.int .i64 x0_0, .int .i64 x0_1], .agg #[.int .i64 x1_0, .int .i64 x1_1]] v W' := by
    intro v W' q kp
    obtain ⟨rfl, nh⟩ := q
    have bel : New W W' := ⟨kp.2.1, kp.1, kp.2.2, nh.sz, nh.old⟩
    exact ⟨_, _, _, [], _, [], hW', trodAll_mk1 (shut_bool Try.underlying4 _), (trodAll_cons_mk (Below.trod laidOut (by kernel_rfl) (of_decide_eq_true (by kernel_rfl)) k0 bel lt0) (trodAll_cons_mk (Below.trod laidOut (by kernel_rfl) (of_decide_eq_true (by kernel_rfl)) k1 bel lt1) trodAll_mk0)), rfl, Below.frame bel _, fun h => by cases h⟩
  obtain ⟨N, last, o, w', t', e1, e2, e3, e4⟩ := goesC_run hp (law_FirstMeeting W _ _ _ _ (npw_all W))
  exact ⟨N, last, o, w', t', e1, e2, e3, e4⟩

theorem FirstMeeting_holds : Rows.FnExactFirstMeetingSaid :=
  OpenClaim.holds_of_wide_leaving 8 Try.f8 rfl rfl rfl rfl rfl rfl rfl ⟨rfl, rfl, rfl, rfl, rfl⟩ rfl rfl rfl rfl rfl (by kernel_rfl) Try.func8 (by kernel_rfl)
    (of_decide_eq_true (by kernel_rfl)) (by unfold Func.isWrapper; first | (rw [if_pos (by decide +kernel)]; kernel_rfl) | (rw [if_neg (by decide +kernel)]; exact ⟨rfl, rfl⟩))
    (fun os started H enc _ => FirstMeeting_lifted os started H enc)
#print axioms FirstMeeting_holds
end Go.Proofs.Ytnahlemchajfdaa
