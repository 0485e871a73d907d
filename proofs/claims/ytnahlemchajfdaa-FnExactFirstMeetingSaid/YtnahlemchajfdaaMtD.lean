/- Every function of the model's that a plain operation reaches is plain. -/
import Derived.Test.YtnahlemchajfdaaMt1
namespace Go.Proofs.Ytnahlemchajfdaa.Meta
open Go
abbrev T1 {α : Type} : α → Prop := fun _ => True
theorem pl_bind {α β : Type} {P : Program} {R : β → Prop} {s : Sem α} {f : α → Sem β} (h : Pl P T1 s) (hf : ∀ a, Pl P R (f a)) : Pl P R (s >>= f) := Pl.bind h fun a _ => hf a
theorem pl_pure {α : Type} {P : Program} (a : α) : Pl P T1 (pure a : Sem α) := trivial
theorem pl_map {α β : Type} {P : Program} {s : Sem α} {f : α → β} (h : Pl P T1 s) : Pl P T1 (f <$> s) := Pl.bind h fun _ _ => trivial
theorem pl_bind0 {α β : Type} {P : Program} {R : β → Prop} {s : Sem α} {f : α → Sem β} (h : Pl P T1 s) (hf : ∀ a, Pl P R (f a)) : Pl P R (s.bind f) := Pl.bind h fun a _ => hf a

theorem pl_forIn_list {α β : Type} {P : Program} {f : α → β → Sem (ForInStep β)} (h : ∀ x s, Pl P T1 (f x s)) : ∀ (l : List α) (b : β), Pl P T1 (forIn l b f)
  | [], _ => trivial
  | a :: l, b => by
    rw [List.forIn_cons]
    refine pl_bind (h a b) fun r => ?_
    cases r with
    | done b => trivial
    | yield b => exact pl_forIn_list h l b
theorem pl_forIn_array {α β : Type} {P : Program} {f : α → β → Sem (ForInStep β)} (l : Array α) (b : β) (h : ∀ x s, Pl P T1 (f x s)) : Pl P T1 (forIn l b f) := by
  rw [← Array.forIn_toList]; exact pl_forIn_list h _ _
theorem pl_forIn_listp {α β : Type} {P : Program} {f : α → β → Sem (ForInStep β)} (l : List α) (b : β) (h : ∀ x s, Pl P T1 (f x s)) : Pl P T1 (forIn l b f) := pl_forIn_list h _ _
theorem pl_forIn_range {β : Type} {P : Program} {f : Nat → β → Sem (ForInStep β)} (r : Std.Legacy.Range) (b : β) (h : ∀ x s, Pl P T1 (f x s)) : Pl P T1 (forIn r b f) := by
  rw [Std.Legacy.Range.forIn_eq_forIn_range']; exact pl_forIn_list h _ _
theorem pl_mapM_list {α β : Type} {P : Program} {f : α → Sem β} (h : ∀ x, Pl P T1 (f x)) : ∀ (l : List α), Pl P T1 (List.mapM f l)
  | [] => trivial
  | a :: l => by
    rw [List.mapM_cons]
    exact pl_bind (h a) fun _ => pl_bind (pl_mapM_list h l) fun _ => trivial
theorem pl_mapM_array {α β : Type} {P : Program} {f : α → Sem β} (l : Array α) (h : ∀ x, Pl P T1 (f x)) : Pl P T1 (Array.mapM f l) := by
  rw [Array.mapM_eq_mapM_toList]; exact pl_map (pl_mapM_list h _)
theorem pl_foldlM {α β : Type} {P : Program} {f : β → α → Sem β} (h : ∀ b x, Pl P T1 (f b x)) : ∀ (l : List α) (b : β), Pl P T1 (List.foldlM f b l)
  | [], _ => trivial
  | a :: l, b => by
    rw [List.foldlM_cons]
    exact pl_bind (h b a) fun _ => pl_foldlM h l _
theorem pl_ite {α : Type} {P : Program} {c : Prop} [Decidable c] {R : α → Prop} {s t : Sem α} (h : Pl P R s) (h' : Pl P R t) : Pl P R (if c then s else t) := by split <;> assumption
theorem pl_foldlM' {α β : Type} {P : Program} {f : β → α → Sem β} (l : List α) (b : β) (h : ∀ b x, Pl P T1 (f b x)) : Pl P T1 (List.foldlM f b l) := pl_foldlM h l b

theorem pl_program (P : Program) : Pl P T1 Go.program := by
  intros
  unfold Go.program
  repeat' (first | exact trivial | assumption | intro _ | refine pl_ite ?_ ?_ | refine pl_bind ?_ (fun _ => ?_) | refine pl_bind0 ?_ (fun _ => ?_) | refine pl_map ?_ | exact ⟨trivial, fun _ => trivial⟩ | exact ⟨trivial, trivial⟩ | exact ⟨rfl, trivial⟩ | refine pl_forIn_array _ _ (fun _ _ => ?_) | refine pl_forIn_range _ _ (fun _ _ => ?_) | refine pl_forIn_listp _ _ (fun _ _ => ?_) | refine pl_mapM_array _ (fun _ => ?_) | refine pl_foldlM' _ _ (fun _ _ => ?_) | split | (dsimp only))
theorem pl_stuck (P : Program) : ∀ x0 x1, Pl P T1 (@Go.stuck x0 x1) := by
  intros
  unfold Go.stuck
  repeat' (first | exact trivial | assumption | intro _ | refine pl_ite ?_ ?_ | refine pl_bind ?_ (fun _ => ?_) | refine pl_bind0 ?_ (fun _ => ?_) | refine pl_map ?_ | exact ⟨trivial, fun _ => trivial⟩ | exact ⟨trivial, trivial⟩ | exact ⟨rfl, trivial⟩ | refine pl_forIn_array _ _ (fun _ _ => ?_) | refine pl_forIn_range _ _ (fun _ _ => ?_) | refine pl_forIn_listp _ _ (fun _ _ => ?_) | refine pl_mapM_array _ (fun _ => ?_) | refine pl_foldlM' _ _ (fun _ _ => ?_) | split | (dsimp only))
theorem pl_typeInfo (P : Program) : ∀ x0, Pl P T1 (@Go.typeInfo x0) := by
  intros
  unfold Go.typeInfo
  repeat' (first | exact trivial | assumption | intro _ | with_reducible exact pl_program P | with_reducible exact pl_stuck P _ _ | refine pl_ite ?_ ?_ | refine pl_bind ?_ (fun _ => ?_) | refine pl_bind0 ?_ (fun _ => ?_) | refine pl_map ?_ | exact ⟨trivial, fun _ => trivial⟩ | exact ⟨trivial, trivial⟩ | exact ⟨rfl, trivial⟩ | refine pl_forIn_array _ _ (fun _ _ => ?_) | refine pl_forIn_range _ _ (fun _ _ => ?_) | refine pl_forIn_listp _ _ (fun _ _ => ?_) | refine pl_mapM_array _ (fun _ => ?_) | refine pl_foldlM' _ _ (fun _ _ => ?_) | split | (dsimp only))
def uOk : Unsupported → Prop
  | .initOrder _ => False
  | _ => True
theorem pl_unsupported (P : Program) : ∀ x0 x1, uOk x1 → Pl P T1 (@Go.unsupported x0 x1) := by
  intro x0 x1 h
  cases x1 <;> first | exact h.elim | exact trivial

theorem pl_underlying (P : Program) : ∀ x0, Pl P T1 (@Go.underlying x0) := by
  intros
  unfold Go.underlying
  repeat' (first | exact trivial | assumption | intro _ | with_reducible exact pl_program P | with_reducible exact pl_stuck P _ _ | refine pl_ite ?_ ?_ | refine pl_bind ?_ (fun _ => ?_) | refine pl_bind0 ?_ (fun _ => ?_) | refine pl_map ?_ | exact ⟨trivial, fun _ => trivial⟩ | exact ⟨trivial, trivial⟩ | exact ⟨rfl, trivial⟩ | refine pl_forIn_array _ _ (fun _ _ => ?_) | refine pl_forIn_range _ _ (fun _ _ => ?_) | refine pl_forIn_listp _ _ (fun _ _ => ?_) | refine pl_mapM_array _ (fun _ => ?_) | refine pl_foldlM' _ _ (fun _ _ => ?_) | split | (dsimp only))
theorem pl_goPanic (P : Program) : ∀ x0 x1, Pl P T1 (@Go.goPanic x0 x1) := by
  intros
  unfold Go.goPanic
  repeat' (first | exact trivial | assumption | intro _ | refine pl_ite ?_ ?_ | refine pl_bind ?_ (fun _ => ?_) | refine pl_bind0 ?_ (fun _ => ?_) | refine pl_map ?_ | exact ⟨trivial, fun _ => trivial⟩ | exact ⟨trivial, trivial⟩ | exact ⟨rfl, trivial⟩ | refine pl_forIn_array _ _ (fun _ _ => ?_) | refine pl_forIn_range _ _ (fun _ _ => ?_) | refine pl_forIn_listp _ _ (fun _ _ => ?_) | refine pl_mapM_array _ (fun _ => ?_) | refine pl_foldlM' _ _ (fun _ _ => ?_) | split | (dsimp only))
theorem pl_elemOf (P : Program) : ∀ x0, Pl P T1 (@Go.elemOf x0) := by
  intros
  unfold Go.elemOf
  repeat' (first | exact trivial | assumption | intro _ | with_reducible exact pl_underlying P _ | with_reducible exact pl_stuck P _ _ | refine pl_ite ?_ ?_ | refine pl_bind ?_ (fun _ => ?_) | refine pl_bind0 ?_ (fun _ => ?_) | refine pl_map ?_ | exact ⟨trivial, fun _ => trivial⟩ | exact ⟨trivial, trivial⟩ | exact ⟨rfl, trivial⟩ | refine pl_forIn_array _ _ (fun _ _ => ?_) | refine pl_forIn_range _ _ (fun _ _ => ?_) | refine pl_forIn_listp _ _ (fun _ _ => ?_) | refine pl_mapM_array _ (fun _ => ?_) | refine pl_foldlM' _ _ (fun _ _ => ?_) | split | (dsimp only))
theorem pl_newObj (P : Program) : ∀ x0, NP x0 → Pl P T1 (@Go.newObj x0) := fun _ h => ⟨h, fun _ => trivial⟩

theorem pl_newRow (P : Program) : ∀ x0 x1, Pl P T1 (@Go.newRow x0 x1) := by
  intros
  unfold Go.newRow
  repeat' (first | exact trivial | assumption | intro _ | ((with_reducible refine pl_newObj P _ ?_) <;> exact trivial) | refine pl_ite ?_ ?_ | refine pl_bind ?_ (fun _ => ?_) | refine pl_bind0 ?_ (fun _ => ?_) | refine pl_map ?_ | exact ⟨trivial, fun _ => trivial⟩ | exact ⟨trivial, trivial⟩ | exact ⟨rfl, trivial⟩ | refine pl_forIn_array _ _ (fun _ _ => ?_) | refine pl_forIn_range _ _ (fun _ _ => ?_) | refine pl_forIn_listp _ _ (fun _ _ => ?_) | refine pl_mapM_array _ (fun _ => ?_) | refine pl_foldlM' _ _ (fun _ _ => ?_) | split | (dsimp only))
theorem pl_newVar (P : Program) : ∀ x0 x1, Pl P T1 (@Go.newVar x0 x1) := by
  intros
  unfold Go.newVar
  repeat' (first | exact trivial | assumption | intro _ | with_reducible exact pl_newRow P _ _ | refine pl_ite ?_ ?_ | refine pl_bind ?_ (fun _ => ?_) | refine pl_bind0 ?_ (fun _ => ?_) | refine pl_map ?_ | exact ⟨trivial, fun _ => trivial⟩ | exact ⟨trivial, trivial⟩ | exact ⟨rfl, trivial⟩ | refine pl_forIn_array _ _ (fun _ _ => ?_) | refine pl_forIn_range _ _ (fun _ _ => ?_) | refine pl_forIn_listp _ _ (fun _ _ => ?_) | refine pl_mapM_array _ (fun _ => ?_) | refine pl_foldlM' _ _ (fun _ _ => ?_) | split | (dsimp only))
theorem pl_runtimePanic (P : Program) : ∀ x0 x1, Pl P T1 (@Go.runtimePanic x0 x1) := by
  intros
  unfold Go.runtimePanic
  repeat' (first | exact trivial | assumption | intro _ | with_reducible exact pl_program P | with_reducible exact pl_goPanic P _ _ | with_reducible exact pl_elemOf P _ | with_reducible exact pl_newVar P _ _ | refine pl_ite ?_ ?_ | refine pl_bind ?_ (fun _ => ?_) | refine pl_bind0 ?_ (fun _ => ?_) | refine pl_map ?_ | exact ⟨trivial, fun _ => trivial⟩ | exact ⟨trivial, trivial⟩ | exact ⟨rfl, trivial⟩ | refine pl_forIn_array _ _ (fun _ _ => ?_) | refine pl_forIn_range _ _ (fun _ _ => ?_) | refine pl_forIn_listp _ _ (fun _ _ => ?_) | refine pl_mapM_array _ (fun _ => ?_) | refine pl_foldlM' _ _ (fun _ _ => ?_) | split | (dsimp only))
theorem pl_asAddr (P : Program) : ∀ x0, Pl P T1 (@Go.asAddr x0) := by
  intros
  unfold Go.asAddr
  repeat' (first | exact trivial | assumption | intro _ | with_reducible exact pl_runtimePanic P _ _ | with_reducible exact pl_stuck P _ _ | refine pl_ite ?_ ?_ | refine pl_bind ?_ (fun _ => ?_) | refine pl_bind0 ?_ (fun _ => ?_) | refine pl_map ?_ | exact ⟨trivial, fun _ => trivial⟩ | exact ⟨trivial, trivial⟩ | exact ⟨rfl, trivial⟩ | refine pl_forIn_array _ _ (fun _ _ => ?_) | refine pl_forIn_range _ _ (fun _ _ => ?_) | refine pl_forIn_listp _ _ (fun _ _ => ?_) | refine pl_mapM_array _ (fun _ => ?_) | refine pl_foldlM' _ _ (fun _ _ => ?_) | split | (dsimp only))
theorem pl_isAgg (P : Program) : ∀ x0, Pl P T1 (@Go.isAgg x0) := by
  intros
  unfold Go.isAgg
  repeat' (first | exact trivial | assumption | intro _ | with_reducible exact pl_underlying P _ | refine pl_ite ?_ ?_ | refine pl_bind ?_ (fun _ => ?_) | refine pl_bind0 ?_ (fun _ => ?_) | refine pl_map ?_ | exact ⟨trivial, fun _ => trivial⟩ | exact ⟨trivial, trivial⟩ | exact ⟨rfl, trivial⟩ | refine pl_forIn_array _ _ (fun _ _ => ?_) | refine pl_forIn_range _ _ (fun _ _ => ?_) | refine pl_forIn_listp _ _ (fun _ _ => ?_) | refine pl_mapM_array _ (fun _ => ?_) | refine pl_foldlM' _ _ (fun _ _ => ?_) | split | (dsimp only))
theorem pl_sizeOf (P : Program) : ∀ x0, Pl P T1 (@Go.sizeOf x0) := by
  intros
  unfold Go.sizeOf
  repeat' (first | exact trivial | assumption | intro _ | with_reducible exact pl_typeInfo P _ | refine pl_ite ?_ ?_ | refine pl_bind ?_ (fun _ => ?_) | refine pl_bind0 ?_ (fun _ => ?_) | refine pl_map ?_ | exact ⟨trivial, fun _ => trivial⟩ | exact ⟨trivial, trivial⟩ | exact ⟨rfl, trivial⟩ | refine pl_forIn_array _ _ (fun _ _ => ?_) | refine pl_forIn_range _ _ (fun _ _ => ?_) | refine pl_forIn_listp _ _ (fun _ _ => ?_) | refine pl_mapM_array _ (fun _ => ?_) | refine pl_foldlM' _ _ (fun _ _ => ?_) | split | (dsimp only))
theorem pl_load (P : Program) : ∀ x0 x1, Pl P T1 (@Go.load x0 x1) := by
  intros
  unfold Go.load
  repeat' (first | exact trivial | assumption | intro _ | refine pl_ite ?_ ?_ | refine pl_bind ?_ (fun _ => ?_) | refine pl_bind0 ?_ (fun _ => ?_) | refine pl_map ?_ | exact ⟨trivial, fun _ => trivial⟩ | exact ⟨trivial, trivial⟩ | exact ⟨rfl, trivial⟩ | refine pl_forIn_array _ _ (fun _ _ => ?_) | refine pl_forIn_range _ _ (fun _ _ => ?_) | refine pl_forIn_listp _ _ (fun _ _ => ?_) | refine pl_mapM_array _ (fun _ => ?_) | refine pl_foldlM' _ _ (fun _ _ => ?_) | split | (dsimp only))
theorem pl_loadCellsFrom (P : Program) : ∀ x0 x1 x2 x3, Pl P T1 (@Go.loadCellsFrom x0 x1 x2 x3) := by
  intro x0 x1 x2 x3
  induction x2 generalizing x0 x1 x3 with
  | zero => rw [Go.loadCellsFrom]; repeat' (first | exact trivial | assumption | intro _ | with_reducible exact pl_load P _ _ | refine pl_ite ?_ ?_ | refine pl_bind ?_ (fun _ => ?_) | refine pl_bind0 ?_ (fun _ => ?_) | refine pl_map ?_ | exact ⟨trivial, fun _ => trivial⟩ | exact ⟨trivial, trivial⟩ | exact ⟨rfl, trivial⟩ | refine pl_forIn_array _ _ (fun _ _ => ?_) | refine pl_forIn_range _ _ (fun _ _ => ?_) | refine pl_forIn_listp _ _ (fun _ _ => ?_) | refine pl_mapM_array _ (fun _ => ?_) | refine pl_foldlM' _ _ (fun _ _ => ?_) | split | (dsimp only))
  | succ m ih => rw [Go.loadCellsFrom]; repeat' (first | with_reducible exact ih _ _ _ | exact trivial | assumption | intro _ | with_reducible exact pl_load P _ _ | refine pl_ite ?_ ?_ | refine pl_bind ?_ (fun _ => ?_) | refine pl_bind0 ?_ (fun _ => ?_) | refine pl_map ?_ | exact ⟨trivial, fun _ => trivial⟩ | exact ⟨trivial, trivial⟩ | exact ⟨rfl, trivial⟩ | refine pl_forIn_array _ _ (fun _ _ => ?_) | refine pl_forIn_range _ _ (fun _ _ => ?_) | refine pl_forIn_listp _ _ (fun _ _ => ?_) | refine pl_mapM_array _ (fun _ => ?_) | refine pl_foldlM' _ _ (fun _ _ => ?_) | split | (dsimp only))
theorem pl_loadCells (P : Program) : ∀ x0 x1, Pl P T1 (@Go.loadCells x0 x1) := by
  intros
  unfold Go.loadCells
  repeat' (first | exact trivial | assumption | intro _ | with_reducible exact pl_loadCellsFrom P _ _ _ _ | refine pl_ite ?_ ?_ | refine pl_bind ?_ (fun _ => ?_) | refine pl_bind0 ?_ (fun _ => ?_) | refine pl_map ?_ | exact ⟨trivial, fun _ => trivial⟩ | exact ⟨trivial, trivial⟩ | exact ⟨rfl, trivial⟩ | refine pl_forIn_array _ _ (fun _ _ => ?_) | refine pl_forIn_range _ _ (fun _ _ => ?_) | refine pl_forIn_listp _ _ (fun _ _ => ?_) | refine pl_mapM_array _ (fun _ => ?_) | refine pl_foldlM' _ _ (fun _ _ => ?_) | split | (dsimp only))
theorem pl_loadVar (P : Program) : ∀ x0 x1, Pl P T1 (@Go.loadVar x0 x1) := by
  intros
  unfold Go.loadVar
  repeat' (first | exact trivial | assumption | intro _ | with_reducible exact pl_isAgg P _ | with_reducible exact pl_sizeOf P _ | with_reducible exact pl_loadCells P _ _ | with_reducible exact pl_load P _ _ | refine pl_ite ?_ ?_ | refine pl_bind ?_ (fun _ => ?_) | refine pl_bind0 ?_ (fun _ => ?_) | refine pl_map ?_ | exact ⟨trivial, fun _ => trivial⟩ | exact ⟨trivial, trivial⟩ | exact ⟨rfl, trivial⟩ | refine pl_forIn_array _ _ (fun _ _ => ?_) | refine pl_forIn_range _ _ (fun _ _ => ?_) | refine pl_forIn_listp _ _ (fun _ _ => ?_) | refine pl_mapM_array _ (fun _ => ?_) | refine pl_foldlM' _ _ (fun _ _ => ?_) | split | (dsimp only))
theorem pl_Place_get (P : Program) : ∀ x0 x1, Pl P T1 (@Go.Place.get x0 x1) := by
  intros
  unfold Go.Place.get
  repeat' (first | exact trivial | assumption | intro _ | with_reducible exact pl_loadVar P _ _ | refine pl_ite ?_ ?_ | refine pl_bind ?_ (fun _ => ?_) | refine pl_bind0 ?_ (fun _ => ?_) | refine pl_map ?_ | exact ⟨trivial, fun _ => trivial⟩ | exact ⟨trivial, trivial⟩ | exact ⟨rfl, trivial⟩ | refine pl_forIn_array _ _ (fun _ _ => ?_) | refine pl_forIn_range _ _ (fun _ _ => ?_) | refine pl_forIn_listp _ _ (fun _ _ => ?_) | refine pl_mapM_array _ (fun _ => ?_) | refine pl_foldlM' _ _ (fun _ _ => ?_) | split | (dsimp only))
theorem pl_shape (P : Program) : ∀ x0, Pl P T1 (@Go.shape x0) := by
  intros
  unfold Go.shape
  repeat' (first | exact trivial | assumption | intro _ | refine pl_ite ?_ ?_ | refine pl_bind ?_ (fun _ => ?_) | refine pl_bind0 ?_ (fun _ => ?_) | refine pl_map ?_ | exact ⟨trivial, fun _ => trivial⟩ | exact ⟨trivial, trivial⟩ | exact ⟨rfl, trivial⟩ | refine pl_forIn_array _ _ (fun _ _ => ?_) | refine pl_forIn_range _ _ (fun _ _ => ?_) | refine pl_forIn_listp _ _ (fun _ _ => ?_) | refine pl_mapM_array _ (fun _ => ?_) | refine pl_foldlM' _ _ (fun _ _ => ?_) | split | (dsimp only))
theorem pl_getObj (P : Program) : ∀ x0, Pl P T1 (@Go.getObj x0) := by
  intros
  unfold Go.getObj
  repeat' (first | exact trivial | assumption | intro _ | refine pl_ite ?_ ?_ | refine pl_bind ?_ (fun _ => ?_) | refine pl_bind0 ?_ (fun _ => ?_) | refine pl_map ?_ | exact ⟨trivial, fun _ => trivial⟩ | exact ⟨trivial, trivial⟩ | exact ⟨rfl, trivial⟩ | refine pl_forIn_array _ _ (fun _ _ => ?_) | refine pl_forIn_range _ _ (fun _ _ => ?_) | refine pl_forIn_listp _ _ (fun _ _ => ?_) | refine pl_mapM_array _ (fun _ => ?_) | refine pl_foldlM' _ _ (fun _ _ => ?_) | split | (dsimp only))
theorem pl_viewAt (P : Program) : ∀ x0, Pl P T1 (@Go.viewAt x0) := by
  intros
  unfold Go.viewAt
  repeat' (first | exact trivial | assumption | intro _ | with_reducible exact pl_shape P _ | with_reducible exact pl_getObj P _ | refine pl_ite ?_ ?_ | refine pl_bind ?_ (fun _ => ?_) | refine pl_bind0 ?_ (fun _ => ?_) | refine pl_map ?_ | exact ⟨trivial, fun _ => trivial⟩ | exact ⟨trivial, trivial⟩ | exact ⟨rfl, trivial⟩ | refine pl_forIn_array _ _ (fun _ _ => ?_) | refine pl_forIn_range _ _ (fun _ _ => ?_) | refine pl_forIn_listp _ _ (fun _ _ => ?_) | refine pl_mapM_array _ (fun _ => ?_) | refine pl_foldlM' _ _ (fun _ _ => ?_) | split | (dsimp only))
theorem pl_noView (P : Program) : ∀ x0, Pl P T1 (@Go.noView x0) := by
  intros
  unfold Go.noView
  repeat' (first | exact trivial | assumption | intro _ | with_reducible exact pl_viewAt P _ | ((with_reducible refine pl_unsupported P _ _ ?_) <;> exact trivial) | refine pl_ite ?_ ?_ | refine pl_bind ?_ (fun _ => ?_) | refine pl_bind0 ?_ (fun _ => ?_) | refine pl_map ?_ | exact ⟨trivial, fun _ => trivial⟩ | exact ⟨trivial, trivial⟩ | exact ⟨rfl, trivial⟩ | refine pl_forIn_array _ _ (fun _ _ => ?_) | refine pl_forIn_range _ _ (fun _ _ => ?_) | refine pl_forIn_listp _ _ (fun _ _ => ?_) | refine pl_mapM_array _ (fun _ => ?_) | refine pl_foldlM' _ _ (fun _ _ => ?_) | split | (dsimp only))
theorem pl_byteOf (P : Program) : ∀ x0, Pl P T1 (@Go.byteOf x0) := by
  intros
  unfold Go.byteOf
  repeat' (first | exact trivial | assumption | intro _ | with_reducible exact pl_program P | with_reducible exact pl_noView P _ | with_reducible exact pl_shape P _ | with_reducible exact pl_stuck P _ _ | refine pl_ite ?_ ?_ | refine pl_bind ?_ (fun _ => ?_) | refine pl_bind0 ?_ (fun _ => ?_) | refine pl_map ?_ | exact ⟨trivial, fun _ => trivial⟩ | exact ⟨trivial, trivial⟩ | exact ⟨rfl, trivial⟩ | refine pl_forIn_array _ _ (fun _ _ => ?_) | refine pl_forIn_range _ _ (fun _ _ => ?_) | refine pl_forIn_listp _ _ (fun _ _ => ?_) | refine pl_mapM_array _ (fun _ => ?_) | refine pl_foldlM' _ _ (fun _ _ => ?_) | split | (dsimp only))
theorem pl_partAt (P : Program) : ∀ x0 x1 x2, Pl P T1 (@Go.partAt x0 x1 x2) := by
  intros
  unfold Go.partAt
  repeat' (first | exact trivial | assumption | intro _ | with_reducible exact pl_byteOf P _ | refine pl_ite ?_ ?_ | refine pl_bind ?_ (fun _ => ?_) | refine pl_bind0 ?_ (fun _ => ?_) | refine pl_map ?_ | exact ⟨trivial, fun _ => trivial⟩ | exact ⟨trivial, trivial⟩ | exact ⟨rfl, trivial⟩ | refine pl_forIn_array _ _ (fun _ _ => ?_) | refine pl_forIn_range _ _ (fun _ _ => ?_) | refine pl_forIn_listp _ _ (fun _ _ => ?_) | refine pl_mapM_array _ (fun _ => ?_) | refine pl_foldlM' _ _ (fun _ _ => ?_) | split | (dsimp only))
theorem pl_fieldPlace (P : Program) : ∀ x0 x1, Pl P T1 (@Go.fieldPlace x0 x1) := by
  intros
  unfold Go.fieldPlace
  repeat' (first | exact trivial | assumption | intro _ | with_reducible exact pl_sizeOf P _ | with_reducible exact pl_partAt P _ _ _ | refine pl_ite ?_ ?_ | refine pl_bind ?_ (fun _ => ?_) | refine pl_bind0 ?_ (fun _ => ?_) | refine pl_map ?_ | exact ⟨trivial, fun _ => trivial⟩ | exact ⟨trivial, trivial⟩ | exact ⟨rfl, trivial⟩ | refine pl_forIn_array _ _ (fun _ _ => ?_) | refine pl_forIn_range _ _ (fun _ _ => ?_) | refine pl_forIn_listp _ _ (fun _ _ => ?_) | refine pl_mapM_array _ (fun _ => ?_) | refine pl_foldlM' _ _ (fun _ _ => ?_) | split | (dsimp only))
theorem pl_part (P : Program) : ∀ x0 x1 x2, Pl P T1 (@Go.part x0 x1 x2) := by
  intros
  unfold Go.part
  repeat' (first | exact trivial | assumption | intro _ | with_reducible exact pl_isAgg P _ | with_reducible exact pl_sizeOf P _ | with_reducible exact pl_stuck P _ _ | refine pl_ite ?_ ?_ | refine pl_bind ?_ (fun _ => ?_) | refine pl_bind0 ?_ (fun _ => ?_) | refine pl_map ?_ | exact ⟨trivial, fun _ => trivial⟩ | exact ⟨trivial, trivial⟩ | exact ⟨rfl, trivial⟩ | refine pl_forIn_array _ _ (fun _ _ => ?_) | refine pl_forIn_range _ _ (fun _ _ => ?_) | refine pl_forIn_listp _ _ (fun _ _ => ?_) | refine pl_mapM_array _ (fun _ => ?_) | refine pl_foldlM' _ _ (fun _ _ => ?_) | split | (dsimp only))
theorem pl_follow (P : Program) : ∀ x0 x1 x2, Pl P T1 (@Go.follow x0 x1 x2) := by
  intro x0 x1 x2
  induction x0 generalizing x1 x2 with
  | nil => rw [Go.follow]; repeat' (first | exact trivial | assumption | intro _ | with_reducible exact pl_underlying P _ | with_reducible exact pl_stuck P _ _ | with_reducible exact pl_asAddr P _ | with_reducible exact pl_Place_get P _ _ | with_reducible exact pl_fieldPlace P _ _ | with_reducible exact pl_part P _ _ _ | refine pl_ite ?_ ?_ | refine pl_bind ?_ (fun _ => ?_) | refine pl_bind0 ?_ (fun _ => ?_) | refine pl_map ?_ | exact ⟨trivial, fun _ => trivial⟩ | exact ⟨trivial, trivial⟩ | exact ⟨rfl, trivial⟩ | refine pl_forIn_array _ _ (fun _ _ => ?_) | refine pl_forIn_range _ _ (fun _ _ => ?_) | refine pl_forIn_listp _ _ (fun _ _ => ?_) | refine pl_mapM_array _ (fun _ => ?_) | refine pl_foldlM' _ _ (fun _ _ => ?_) | split | (dsimp only))
  | cons e m ih => rw [Go.follow]; repeat' (first | with_reducible exact ih _ _ | exact trivial | assumption | intro _ | with_reducible exact pl_underlying P _ | with_reducible exact pl_stuck P _ _ | with_reducible exact pl_asAddr P _ | with_reducible exact pl_Place_get P _ _ | with_reducible exact pl_fieldPlace P _ _ | with_reducible exact pl_part P _ _ _ | refine pl_ite ?_ ?_ | refine pl_bind ?_ (fun _ => ?_) | refine pl_bind0 ?_ (fun _ => ?_) | refine pl_map ?_ | exact ⟨trivial, fun _ => trivial⟩ | exact ⟨trivial, trivial⟩ | exact ⟨rfl, trivial⟩ | refine pl_forIn_array _ _ (fun _ _ => ?_) | refine pl_forIn_range _ _ (fun _ _ => ?_) | refine pl_forIn_listp _ _ (fun _ _ => ?_) | refine pl_mapM_array _ (fun _ => ?_) | refine pl_foldlM' _ _ (fun _ _ => ?_) | split | (dsimp only))
theorem pl_choose (P : Program) : ∀ x0, Pl P T1 (@Go.choose x0) := by
  intros
  unfold Go.choose
  repeat' (first | exact trivial | assumption | intro _ | refine pl_ite ?_ ?_ | refine pl_bind ?_ (fun _ => ?_) | refine pl_bind0 ?_ (fun _ => ?_) | refine pl_map ?_ | exact ⟨trivial, fun _ => trivial⟩ | exact ⟨trivial, trivial⟩ | exact ⟨rfl, trivial⟩ | refine pl_forIn_array _ _ (fun _ _ => ?_) | refine pl_forIn_range _ _ (fun _ _ => ?_) | refine pl_forIn_listp _ _ (fun _ _ => ?_) | refine pl_mapM_array _ (fun _ => ?_) | refine pl_foldlM' _ _ (fun _ _ => ?_) | split | (dsimp only))
theorem pl_Builtin_ssaWrapNilChk_ (P : Program) : ∀ x0 x1 x2, Pl P T1 (@Go.Builtin.ssaWrapNilChk_ x0 x1 x2) := by
  intro x0 x1 x2
  unfold Go.Builtin.ssaWrapNilChk_
  rcases x2 with ⟨_|⟨a,_|⟨b,_|⟨c,_|⟨z,l⟩⟩⟩⟩⟩
  · exact trivial
  · exact trivial
  · exact trivial
  · cases b <;> try exact trivial
    cases c <;> try exact trivial
    cases a <;> try exact trivial
    rename_i o
    cases o <;> try exact trivial
    refine pl_bind (pl_choose P _) fun n => ?_
    repeat' (first | exact trivial | assumption | intro _  | with_reducible exact pl_underlying P _ | (with_reducible refine pl_unsupported P _ _  ?_) <;> exact trivial | with_reducible exact pl_choose P _ | with_reducible exact pl_typeInfo P _ | with_reducible exact pl_program P | with_reducible exact pl_runtimePanic P _ _ | with_reducible exact pl_stuck P _ _ | refine pl_ite ?_ ?_ | refine pl_bind ?_ (fun _ => ?_) | refine pl_bind0 ?_ (fun _ => ?_) | refine pl_map ?_ | split | (dsimp only))
  · exact trivial

theorem pl_receiverAt (P : Program) : ∀ x0 x1 x2 x3, Pl P T1 (@Go.receiverAt x0 x1 x2 x3) := by
  intros
  unfold Go.receiverAt
  repeat' (first | exact trivial | assumption | intro _ | with_reducible exact pl_underlying P _ | with_reducible exact pl_Place_get P _ _ | with_reducible exact pl_asAddr P _ | with_reducible exact pl_loadVar P _ _ | with_reducible exact pl_Builtin_ssaWrapNilChk_ P _ _ _ | with_reducible exact pl_stuck P _ _ | refine pl_ite ?_ ?_ | refine pl_bind ?_ (fun _ => ?_) | refine pl_bind0 ?_ (fun _ => ?_) | refine pl_map ?_ | exact ⟨trivial, fun _ => trivial⟩ | exact ⟨trivial, trivial⟩ | exact ⟨rfl, trivial⟩ | refine pl_forIn_array _ _ (fun _ _ => ?_) | refine pl_forIn_range _ _ (fun _ _ => ?_) | refine pl_forIn_listp _ _ (fun _ _ => ?_) | refine pl_mapM_array _ (fun _ => ?_) | refine pl_foldlM' _ _ (fun _ _ => ?_) | split | (dsimp only))
theorem pl_method (P : Program) : ∀ x0 x1 x2 x3, Pl P T1 (@Go.method x0 x1 x2 x3) := by
  intro x0 x1 x2 x3
  induction x0 generalizing x1 x2 x3 with
  | zero => rw [Go.method]; repeat' (first | exact trivial | assumption | intro _ | with_reducible exact pl_typeInfo P _ | with_reducible exact pl_stuck P _ _ | ((with_reducible refine pl_unsupported P _ _ ?_) <;> exact trivial) | with_reducible exact pl_follow P _ _ _ | with_reducible exact pl_Place_get P _ _ | with_reducible exact pl_runtimePanic P _ _ | with_reducible exact pl_receiverAt P _ _ _ _ | refine pl_ite ?_ ?_ | refine pl_bind ?_ (fun _ => ?_) | refine pl_bind0 ?_ (fun _ => ?_) | refine pl_map ?_ | exact ⟨trivial, fun _ => trivial⟩ | exact ⟨trivial, trivial⟩ | exact ⟨rfl, trivial⟩ | refine pl_forIn_array _ _ (fun _ _ => ?_) | refine pl_forIn_range _ _ (fun _ _ => ?_) | refine pl_forIn_listp _ _ (fun _ _ => ?_) | refine pl_mapM_array _ (fun _ => ?_) | refine pl_foldlM' _ _ (fun _ _ => ?_) | split | (dsimp only))
  | succ m ih => rw [Go.method]; repeat' (first | with_reducible exact ih _ _ _ | exact trivial | assumption | intro _ | with_reducible exact pl_typeInfo P _ | with_reducible exact pl_stuck P _ _ | ((with_reducible refine pl_unsupported P _ _ ?_) <;> exact trivial) | with_reducible exact pl_follow P _ _ _ | with_reducible exact pl_Place_get P _ _ | with_reducible exact pl_runtimePanic P _ _ | with_reducible exact pl_receiverAt P _ _ _ _ | refine pl_ite ?_ ?_ | refine pl_bind ?_ (fun _ => ?_) | refine pl_bind0 ?_ (fun _ => ?_) | refine pl_map ?_ | exact ⟨trivial, fun _ => trivial⟩ | exact ⟨trivial, trivial⟩ | exact ⟨rfl, trivial⟩ | refine pl_forIn_array _ _ (fun _ _ => ?_) | refine pl_forIn_range _ _ (fun _ _ => ?_) | refine pl_forIn_listp _ _ (fun _ _ => ?_) | refine pl_mapM_array _ (fun _ => ?_) | refine pl_foldlM' _ _ (fun _ _ => ?_) | split | (dsimp only))
theorem pl_asString (P : Program) : ∀ x0, Pl P T1 (@Go.asString x0) := by
  intros
  unfold Go.asString
  repeat' (first | exact trivial | assumption | intro _ | with_reducible exact pl_stuck P _ _ | refine pl_ite ?_ ?_ | refine pl_bind ?_ (fun _ => ?_) | refine pl_bind0 ?_ (fun _ => ?_) | refine pl_map ?_ | exact ⟨trivial, fun _ => trivial⟩ | exact ⟨trivial, trivial⟩ | exact ⟨rfl, trivial⟩ | refine pl_forIn_array _ _ (fun _ _ => ?_) | refine pl_forIn_range _ _ (fun _ _ => ?_) | refine pl_forIn_listp _ _ (fun _ _ => ?_) | refine pl_mapM_array _ (fun _ => ?_) | refine pl_foldlM' _ _ (fun _ _ => ?_) | split | (dsimp only))
theorem pl_typeStr (P : Program) : ∀ x0, Pl P T1 (@Go.typeStr x0) := by
  intros
  unfold Go.typeStr
  repeat' (first | exact trivial | assumption | intro _ | with_reducible exact pl_typeInfo P _ | ((with_reducible refine pl_unsupported P _ _ ?_) <;> exact trivial) | refine pl_ite ?_ ?_ | refine pl_bind ?_ (fun _ => ?_) | refine pl_bind0 ?_ (fun _ => ?_) | refine pl_map ?_ | exact ⟨trivial, fun _ => trivial⟩ | exact ⟨trivial, trivial⟩ | exact ⟨rfl, trivial⟩ | refine pl_forIn_array _ _ (fun _ _ => ?_) | refine pl_forIn_range _ _ (fun _ _ => ?_) | refine pl_forIn_listp _ _ (fun _ _ => ?_) | refine pl_mapM_array _ (fun _ => ?_) | refine pl_foldlM' _ _ (fun _ _ => ?_) | split | (dsimp only))
theorem pl_Op_eqGuardIn (P : Program) : ∀ x0 x1 x2 x3, Pl P T1 (@Go.Op.eqGuardIn x0 x1 x2 x3) := by
  intro x0 x1 x2 x3
  induction x0 generalizing x1 x2 x3 with
  | zero => rw [Go.Op.eqGuardIn]; repeat' (first | exact trivial | assumption | intro _ | ((with_reducible refine pl_unsupported P _ _ ?_) <;> exact trivial) | with_reducible exact pl_underlying P _ | with_reducible exact pl_sizeOf P _ | with_reducible exact pl_part P _ _ _ | refine pl_ite ?_ ?_ | refine pl_bind ?_ (fun _ => ?_) | refine pl_bind0 ?_ (fun _ => ?_) | refine pl_map ?_ | exact ⟨trivial, fun _ => trivial⟩ | exact ⟨trivial, trivial⟩ | exact ⟨rfl, trivial⟩ | refine pl_forIn_array _ _ (fun _ _ => ?_) | refine pl_forIn_range _ _ (fun _ _ => ?_) | refine pl_forIn_listp _ _ (fun _ _ => ?_) | refine pl_mapM_array _ (fun _ => ?_) | refine pl_foldlM' _ _ (fun _ _ => ?_) | split | (dsimp only))
  | succ m ih => rw [Go.Op.eqGuardIn]; repeat' (first | with_reducible exact ih _ _ _ | exact trivial | assumption | intro _ | ((with_reducible refine pl_unsupported P _ _ ?_) <;> exact trivial) | with_reducible exact pl_underlying P _ | with_reducible exact pl_sizeOf P _ | with_reducible exact pl_part P _ _ _ | refine pl_ite ?_ ?_ | refine pl_bind ?_ (fun _ => ?_) | refine pl_bind0 ?_ (fun _ => ?_) | refine pl_map ?_ | exact ⟨trivial, fun _ => trivial⟩ | exact ⟨trivial, trivial⟩ | exact ⟨rfl, trivial⟩ | refine pl_forIn_array _ _ (fun _ _ => ?_) | refine pl_forIn_range _ _ (fun _ _ => ?_) | refine pl_forIn_listp _ _ (fun _ _ => ?_) | refine pl_mapM_array _ (fun _ => ?_) | refine pl_foldlM' _ _ (fun _ _ => ?_) | split | (dsimp only))
theorem pl_eqGuard (P : Program) : ∀ x0 x1 x2 x3 x4 x5, Pl P T1 (@Go.eqGuard x0 x1 x2 x3 x4 x5) := by
  intros
  unfold Go.eqGuard
  repeat' (first | exact trivial | assumption | intro _ | with_reducible exact pl_Op_eqGuardIn P _ _ _ _ | ((with_reducible refine pl_unsupported P _ _ ?_) <;> exact trivial) | with_reducible exact pl_program P | refine pl_ite ?_ ?_ | refine pl_bind ?_ (fun _ => ?_) | refine pl_bind0 ?_ (fun _ => ?_) | refine pl_map ?_ | exact ⟨trivial, fun _ => trivial⟩ | exact ⟨trivial, trivial⟩ | exact ⟨rfl, trivial⟩ | refine pl_forIn_array _ _ (fun _ _ => ?_) | refine pl_forIn_range _ _ (fun _ _ => ?_) | refine pl_forIn_listp _ _ (fun _ _ => ?_) | refine pl_mapM_array _ (fun _ => ?_) | refine pl_foldlM' _ _ (fun _ _ => ?_) | split | (dsimp only))
theorem pl_Instr_makeInterface (P : Program) : ∀ x0 x1, Pl P T1 (@Go.Instr.makeInterface x0 x1) := by
  intros
  unfold Go.Instr.makeInterface
  repeat' (first | exact trivial | assumption | intro _ | with_reducible exact pl_underlying P _ | with_reducible exact pl_stuck P _ _ | refine pl_ite ?_ ?_ | refine pl_bind ?_ (fun _ => ?_) | refine pl_bind0 ?_ (fun _ => ?_) | refine pl_map ?_ | exact ⟨trivial, fun _ => trivial⟩ | exact ⟨trivial, trivial⟩ | exact ⟨rfl, trivial⟩ | refine pl_forIn_array _ _ (fun _ _ => ?_) | refine pl_forIn_range _ _ (fun _ _ => ?_) | refine pl_forIn_listp _ _ (fun _ _ => ?_) | refine pl_mapM_array _ (fun _ => ?_) | refine pl_foldlM' _ _ (fun _ _ => ?_) | split | (dsimp only))
theorem pl_Conv_floatToFloat (P : Program) : ∀ x0 x1 x2, Pl P T1 (@Go.Conv.floatToFloat x0 x1 x2) := by
  intros
  unfold Go.Conv.floatToFloat
  repeat' (first | exact trivial | assumption | intro _ | with_reducible exact pl_choose P _ | refine pl_ite ?_ ?_ | refine pl_bind ?_ (fun _ => ?_) | refine pl_bind0 ?_ (fun _ => ?_) | refine pl_map ?_ | exact ⟨trivial, fun _ => trivial⟩ | exact ⟨trivial, trivial⟩ | exact ⟨rfl, trivial⟩ | refine pl_forIn_array _ _ (fun _ _ => ?_) | refine pl_forIn_range _ _ (fun _ _ => ?_) | refine pl_forIn_listp _ _ (fun _ _ => ?_) | refine pl_mapM_array _ (fun _ => ?_) | refine pl_foldlM' _ _ (fun _ _ => ?_) | split | (dsimp only))
theorem pl_Op_Complex_conv (P : Program) : ∀ x0 x1 x2, Pl P T1 (@Go.Op.Complex.conv x0 x1 x2) := by
  intros
  unfold Go.Op.Complex.conv
  repeat' (first | exact trivial | assumption | intro _ | with_reducible exact pl_Conv_floatToFloat P _ _ _ | with_reducible exact pl_stuck P _ _ | refine pl_ite ?_ ?_ | refine pl_bind ?_ (fun _ => ?_) | refine pl_bind0 ?_ (fun _ => ?_) | refine pl_map ?_ | exact ⟨trivial, fun _ => trivial⟩ | exact ⟨trivial, trivial⟩ | exact ⟨rfl, trivial⟩ | refine pl_forIn_array _ _ (fun _ _ => ?_) | refine pl_forIn_range _ _ (fun _ _ => ?_) | refine pl_forIn_listp _ _ (fun _ _ => ?_) | refine pl_mapM_array _ (fun _ => ?_) | refine pl_foldlM' _ _ (fun _ _ => ?_) | split | (dsimp only))
theorem pl_Instr_checkKey (P : Program) : ∀ x0 x1 x2 x3, Pl P T1 (@Go.Instr.checkKey x0 x1 x2 x3) := by
  intro x0 x1 x2 x3
  induction x1 generalizing x0 x2 x3 with
  | zero => rw [Go.Instr.checkKey]; repeat' (first | exact trivial | assumption | intro _ | ((with_reducible refine pl_unsupported P _ _ ?_) <;> exact trivial) | with_reducible exact pl_underlying P _ | with_reducible exact pl_typeInfo P _ | with_reducible exact pl_typeStr P _ | with_reducible exact pl_runtimePanic P _ _ | with_reducible exact pl_part P _ _ _ | with_reducible exact pl_sizeOf P _ | with_reducible exact pl_stuck P _ _ | refine pl_ite ?_ ?_ | refine pl_bind ?_ (fun _ => ?_) | refine pl_bind0 ?_ (fun _ => ?_) | refine pl_map ?_ | exact ⟨trivial, fun _ => trivial⟩ | exact ⟨trivial, trivial⟩ | exact ⟨rfl, trivial⟩ | refine pl_forIn_array _ _ (fun _ _ => ?_) | refine pl_forIn_range _ _ (fun _ _ => ?_) | refine pl_forIn_listp _ _ (fun _ _ => ?_) | refine pl_mapM_array _ (fun _ => ?_) | refine pl_foldlM' _ _ (fun _ _ => ?_) | split | (dsimp only))
  | succ m ih => rw [Go.Instr.checkKey]; repeat' (first | with_reducible exact ih _ _ _ | exact trivial | assumption | intro _ | ((with_reducible refine pl_unsupported P _ _ ?_) <;> exact trivial) | with_reducible exact pl_underlying P _ | with_reducible exact pl_typeInfo P _ | with_reducible exact pl_typeStr P _ | with_reducible exact pl_runtimePanic P _ _ | with_reducible exact pl_part P _ _ _ | with_reducible exact pl_sizeOf P _ | with_reducible exact pl_stuck P _ _ | refine pl_ite ?_ ?_ | refine pl_bind ?_ (fun _ => ?_) | refine pl_bind0 ?_ (fun _ => ?_) | refine pl_map ?_ | exact ⟨trivial, fun _ => trivial⟩ | exact ⟨trivial, trivial⟩ | exact ⟨rfl, trivial⟩ | refine pl_forIn_array _ _ (fun _ _ => ?_) | refine pl_forIn_range _ _ (fun _ _ => ?_) | refine pl_forIn_listp _ _ (fun _ _ => ?_) | refine pl_mapM_array _ (fun _ => ?_) | refine pl_foldlM' _ _ (fun _ _ => ?_) | split | (dsimp only))
theorem pl_numberAt (P : Program) : ∀ x0, Pl P T1 (@Go.numberAt x0) := by
  intros
  unfold Go.numberAt
  repeat' (first | exact trivial | assumption | intro _ | with_reducible exact pl_shape P _ | with_reducible exact pl_getObj P _ | refine pl_ite ?_ ?_ | refine pl_bind ?_ (fun _ => ?_) | refine pl_bind0 ?_ (fun _ => ?_) | refine pl_map ?_ | exact ⟨trivial, fun _ => trivial⟩ | exact ⟨trivial, trivial⟩ | exact ⟨rfl, trivial⟩ | refine pl_forIn_array _ _ (fun _ _ => ?_) | refine pl_forIn_range _ _ (fun _ _ => ?_) | refine pl_forIn_listp _ _ (fun _ _ => ?_) | refine pl_mapM_array _ (fun _ => ?_) | refine pl_foldlM' _ _ (fun _ _ => ?_) | split | (dsimp only))
theorem pl_behindNumber (P : Program) : ∀ x0, Pl P T1 (@Go.behindNumber x0) := by
  intros
  unfold Go.behindNumber
  repeat' (first | exact trivial | assumption | intro _ | with_reducible exact pl_numberAt P _ | refine pl_ite ?_ ?_ | refine pl_bind ?_ (fun _ => ?_) | refine pl_bind0 ?_ (fun _ => ?_) | refine pl_map ?_ | exact ⟨trivial, fun _ => trivial⟩ | exact ⟨trivial, trivial⟩ | exact ⟨rfl, trivial⟩ | refine pl_forIn_array _ _ (fun _ _ => ?_) | refine pl_forIn_range _ _ (fun _ _ => ?_) | refine pl_forIn_listp _ _ (fun _ _ => ?_) | refine pl_mapM_array _ (fun _ => ?_) | refine pl_foldlM' _ _ (fun _ _ => ?_) | split | (dsimp only))
theorem pl_frozen (P : Program) : ∀ x0, Pl P T1 (@Go.frozen x0) := by
  intros
  unfold Go.frozen
  repeat' (first | exact trivial | assumption | intro _ | refine pl_ite ?_ ?_ | refine pl_bind ?_ (fun _ => ?_) | refine pl_bind0 ?_ (fun _ => ?_) | refine pl_map ?_ | exact ⟨trivial, fun _ => trivial⟩ | exact ⟨trivial, trivial⟩ | exact ⟨rfl, trivial⟩ | refine pl_forIn_array _ _ (fun _ _ => ?_) | refine pl_forIn_range _ _ (fun _ _ => ?_) | refine pl_forIn_listp _ _ (fun _ _ => ?_) | refine pl_mapM_array _ (fun _ => ?_) | refine pl_foldlM' _ _ (fun _ _ => ?_) | split | (dsimp only))
theorem pl_stringish (P : Program) : ∀ x0, Pl P T1 (@Go.stringish x0) := by
  intros
  unfold Go.stringish
  repeat' (first | exact trivial | assumption | intro _ | with_reducible exact pl_frozen P _ | with_reducible exact pl_shape P _ | refine pl_ite ?_ ?_ | refine pl_bind ?_ (fun _ => ?_) | refine pl_bind0 ?_ (fun _ => ?_) | refine pl_map ?_ | exact ⟨trivial, fun _ => trivial⟩ | exact ⟨trivial, trivial⟩ | exact ⟨rfl, trivial⟩ | refine pl_forIn_array _ _ (fun _ _ => ?_) | refine pl_forIn_range _ _ (fun _ _ => ?_) | refine pl_forIn_listp _ _ (fun _ _ => ?_) | refine pl_mapM_array _ (fun _ => ?_) | refine pl_foldlM' _ _ (fun _ _ => ?_) | split | (dsimp only))
theorem pl_mayBeOne (P : Program) : ∀ x0 x1, Pl P T1 (@Go.mayBeOne x0 x1) := by
  intros
  unfold Go.mayBeOne
  repeat' (first | exact trivial | assumption | intro _ | with_reducible exact pl_shape P _ | with_reducible exact pl_stringish P _ | refine pl_ite ?_ ?_ | refine pl_bind ?_ (fun _ => ?_) | refine pl_bind0 ?_ (fun _ => ?_) | refine pl_map ?_ | exact ⟨trivial, fun _ => trivial⟩ | exact ⟨trivial, trivial⟩ | exact ⟨rfl, trivial⟩ | refine pl_forIn_array _ _ (fun _ _ => ?_) | refine pl_forIn_range _ _ (fun _ _ => ?_) | refine pl_forIn_listp _ _ (fun _ _ => ?_) | refine pl_mapM_array _ (fun _ => ?_) | refine pl_foldlM' _ _ (fun _ _ => ?_) | split | (dsimp only))
theorem pl_sameAddr (P : Program) : ∀ x0 x1, Pl P T1 (@Go.sameAddr x0 x1) := by
  intros
  unfold Go.sameAddr
  repeat' (first | exact trivial | assumption | intro _ | with_reducible exact pl_frozen P _ | with_reducible exact pl_noView P _ | with_reducible exact pl_mayBeOne P _ _ | with_reducible exact pl_choose P _ | ((with_reducible refine pl_unsupported P _ _ ?_) <;> exact trivial) | refine pl_ite ?_ ?_ | refine pl_bind ?_ (fun _ => ?_) | refine pl_bind0 ?_ (fun _ => ?_) | refine pl_map ?_ | exact ⟨trivial, fun _ => trivial⟩ | exact ⟨trivial, trivial⟩ | exact ⟨rfl, trivial⟩ | refine pl_forIn_array _ _ (fun _ _ => ?_) | refine pl_forIn_range _ _ (fun _ _ => ?_) | refine pl_forIn_listp _ _ (fun _ _ => ?_) | refine pl_mapM_array _ (fun _ => ?_) | refine pl_foldlM' _ _ (fun _ _ => ?_) | split | (dsimp only))
theorem pl_samePointer (P : Program) : ∀ x0 x1, Pl P T1 (@Go.samePointer x0 x1) := by
  intros
  unfold Go.samePointer
  repeat' (first | exact trivial | assumption | intro _ | with_reducible exact pl_sameAddr P _ _ | refine pl_ite ?_ ?_ | refine pl_bind ?_ (fun _ => ?_) | refine pl_bind0 ?_ (fun _ => ?_) | refine pl_map ?_ | exact ⟨trivial, fun _ => trivial⟩ | exact ⟨trivial, trivial⟩ | exact ⟨rfl, trivial⟩ | refine pl_forIn_array _ _ (fun _ _ => ?_) | refine pl_forIn_range _ _ (fun _ _ => ?_) | refine pl_forIn_listp _ _ (fun _ _ => ?_) | refine pl_mapM_array _ (fun _ => ?_) | refine pl_foldlM' _ _ (fun _ _ => ?_) | split | (dsimp only))
theorem pl_Op_equalIn (P : Program) : ∀ x0 x1 x2 x3, Pl P T1 (@Go.Op.equalIn x0 x1 x2 x3) := by
  intro x0 x1 x2 x3
  induction x0 generalizing x1 x2 x3 with
  | zero => rw [Go.Op.equalIn]; repeat' (first | exact trivial | assumption | intro _ | ((with_reducible refine pl_unsupported P _ _ ?_) <;> exact trivial) | with_reducible exact pl_underlying P _ | with_reducible exact pl_typeInfo P _ | with_reducible exact pl_typeStr P _ | with_reducible exact pl_runtimePanic P _ _ | with_reducible exact pl_part P _ _ _ | with_reducible exact pl_sizeOf P _ | with_reducible exact pl_stuck P _ _ | with_reducible exact pl_behindNumber P _ | with_reducible exact pl_byteOf P _ | with_reducible exact pl_program P | with_reducible exact pl_sameAddr P _ _ | with_reducible exact pl_choose P _ | with_reducible exact pl_samePointer P _ _ | refine pl_ite ?_ ?_ | refine pl_bind ?_ (fun _ => ?_) | refine pl_bind0 ?_ (fun _ => ?_) | refine pl_map ?_ | exact ⟨trivial, fun _ => trivial⟩ | exact ⟨trivial, trivial⟩ | exact ⟨rfl, trivial⟩ | refine pl_forIn_array _ _ (fun _ _ => ?_) | refine pl_forIn_range _ _ (fun _ _ => ?_) | refine pl_forIn_listp _ _ (fun _ _ => ?_) | refine pl_mapM_array _ (fun _ => ?_) | refine pl_foldlM' _ _ (fun _ _ => ?_) | split | (dsimp only))
  | succ m ih => rw [Go.Op.equalIn]; repeat' (first | with_reducible exact ih _ _ _ | exact trivial | assumption | intro _ | ((with_reducible refine pl_unsupported P _ _ ?_) <;> exact trivial) | with_reducible exact pl_underlying P _ | with_reducible exact pl_typeInfo P _ | with_reducible exact pl_typeStr P _ | with_reducible exact pl_runtimePanic P _ _ | with_reducible exact pl_part P _ _ _ | with_reducible exact pl_sizeOf P _ | with_reducible exact pl_stuck P _ _ | with_reducible exact pl_behindNumber P _ | with_reducible exact pl_byteOf P _ | with_reducible exact pl_program P | with_reducible exact pl_sameAddr P _ _ | with_reducible exact pl_choose P _ | with_reducible exact pl_samePointer P _ _ | refine pl_ite ?_ ?_ | refine pl_bind ?_ (fun _ => ?_) | refine pl_bind0 ?_ (fun _ => ?_) | refine pl_map ?_ | exact ⟨trivial, fun _ => trivial⟩ | exact ⟨trivial, trivial⟩ | exact ⟨rfl, trivial⟩ | refine pl_forIn_array _ _ (fun _ _ => ?_) | refine pl_forIn_range _ _ (fun _ _ => ?_) | refine pl_forIn_listp _ _ (fun _ _ => ?_) | refine pl_mapM_array _ (fun _ => ?_) | refine pl_foldlM' _ _ (fun _ _ => ?_) | split | (dsimp only))
theorem pl_Op_equal (P : Program) : ∀ x0 x1 x2, Pl P T1 (@Go.Op.equal x0 x1 x2) := by
  intros
  unfold Go.Op.equal
  repeat' (first | exact trivial | assumption | intro _ | with_reducible exact pl_Op_equalIn P _ _ _ _ | refine pl_ite ?_ ?_ | refine pl_bind ?_ (fun _ => ?_) | refine pl_bind0 ?_ (fun _ => ?_) | refine pl_map ?_ | exact ⟨trivial, fun _ => trivial⟩ | exact ⟨trivial, trivial⟩ | exact ⟨rfl, trivial⟩ | refine pl_forIn_array _ _ (fun _ _ => ?_) | refine pl_forIn_range _ _ (fun _ _ => ?_) | refine pl_forIn_listp _ _ (fun _ _ => ?_) | refine pl_mapM_array _ (fun _ => ?_) | refine pl_foldlM' _ _ (fun _ _ => ?_) | split | (dsimp only))
theorem pl_Instr_findAsking (P : Program) : ∀ x0 x1 x2 x3, Pl P T1 (@Go.Instr.findAsking x0 x1 x2 x3) := by
  intro x0 x1 x2 x3
  induction x2 generalizing x0 x1 x3 with
  | nil => rw [Go.Instr.findAsking]; repeat' (first | exact trivial | assumption | intro _ | with_reducible exact pl_Op_equal P _ _ _ | refine pl_ite ?_ ?_ | refine pl_bind ?_ (fun _ => ?_) | refine pl_bind0 ?_ (fun _ => ?_) | refine pl_map ?_ | exact ⟨trivial, fun _ => trivial⟩ | exact ⟨trivial, trivial⟩ | exact ⟨rfl, trivial⟩ | refine pl_forIn_array _ _ (fun _ _ => ?_) | refine pl_forIn_range _ _ (fun _ _ => ?_) | refine pl_forIn_listp _ _ (fun _ _ => ?_) | refine pl_mapM_array _ (fun _ => ?_) | refine pl_foldlM' _ _ (fun _ _ => ?_) | split | (dsimp only))
  | cons e m ih => rw [Go.Instr.findAsking]; repeat' (first | with_reducible exact ih _ _ _ | exact trivial | assumption | intro _ | with_reducible exact pl_Op_equal P _ _ _ | refine pl_ite ?_ ?_ | refine pl_bind ?_ (fun _ => ?_) | refine pl_bind0 ?_ (fun _ => ?_) | refine pl_map ?_ | exact ⟨trivial, fun _ => trivial⟩ | exact ⟨trivial, trivial⟩ | exact ⟨rfl, trivial⟩ | refine pl_forIn_array _ _ (fun _ _ => ?_) | refine pl_forIn_range _ _ (fun _ _ => ?_) | refine pl_forIn_listp _ _ (fun _ _ => ?_) | refine pl_mapM_array _ (fun _ => ?_) | refine pl_foldlM' _ _ (fun _ _ => ?_) | split | (dsimp only))
theorem pl_Instr_findKey (P : Program) : ∀ x0 x1 x2, Pl P T1 (@Go.Instr.findKey x0 x1 x2) := by
  intros
  unfold Go.Instr.findKey
  repeat' (first | exact trivial | assumption | intro _ | with_reducible exact pl_underlying P _ | with_reducible exact pl_Instr_findAsking P _ _ _ _ | refine pl_ite ?_ ?_ | refine pl_bind ?_ (fun _ => ?_) | refine pl_bind0 ?_ (fun _ => ?_) | refine pl_map ?_ | exact ⟨trivial, fun _ => trivial⟩ | exact ⟨trivial, trivial⟩ | exact ⟨rfl, trivial⟩ | refine pl_forIn_array _ _ (fun _ _ => ?_) | refine pl_forIn_range _ _ (fun _ _ => ?_) | refine pl_forIn_listp _ _ (fun _ _ => ?_) | refine pl_mapM_array _ (fun _ => ?_) | refine pl_foldlM' _ _ (fun _ _ => ?_) | split | (dsimp only))
theorem pl_Instr_keyThatStays (P : Program) : ∀ x0 x1, Pl P T1 (@Go.Instr.keyThatStays x0 x1) := by
  intros
  unfold Go.Instr.keyThatStays
  repeat' (first | exact trivial | assumption | intro _ | with_reducible exact pl_choose P _ | refine pl_ite ?_ ?_ | refine pl_bind ?_ (fun _ => ?_) | refine pl_bind0 ?_ (fun _ => ?_) | refine pl_map ?_ | exact ⟨trivial, fun _ => trivial⟩ | exact ⟨trivial, trivial⟩ | exact ⟨rfl, trivial⟩ | refine pl_forIn_array _ _ (fun _ _ => ?_) | refine pl_forIn_range _ _ (fun _ _ => ?_) | refine pl_forIn_listp _ _ (fun _ _ => ?_) | refine pl_mapM_array _ (fun _ => ?_) | refine pl_foldlM' _ _ (fun _ _ => ?_) | split | (dsimp only))
theorem pl_setObj (P : Program) : ∀ x0 x1, NP x1 → Pl P T1 (@Go.setObj x0 x1) := fun _ _ h => ⟨h, trivial⟩

theorem pl_zeroValue (P : Program) : ∀ x0, Pl P T1 (@Go.zeroValue x0) := by
  intros
  unfold Go.zeroValue
  repeat' (first | exact trivial | assumption | intro _ | with_reducible exact pl_typeInfo P _ | ((with_reducible refine pl_unsupported P _ _ ?_) <;> exact trivial) | refine pl_ite ?_ ?_ | refine pl_bind ?_ (fun _ => ?_) | refine pl_bind0 ?_ (fun _ => ?_) | refine pl_map ?_ | exact ⟨trivial, fun _ => trivial⟩ | exact ⟨trivial, trivial⟩ | exact ⟨rfl, trivial⟩ | refine pl_forIn_array _ _ (fun _ _ => ?_) | refine pl_forIn_range _ _ (fun _ _ => ?_) | refine pl_forIn_listp _ _ (fun _ _ => ?_) | refine pl_mapM_array _ (fun _ => ?_) | refine pl_foldlM' _ _ (fun _ _ => ?_) | split | (dsimp only))
theorem pl_Instr_mapEntry (P : Program) : ∀ x0 x1 x2, Pl P T1 (@Go.Instr.mapEntry x0 x1 x2) := by
  intros
  unfold Go.Instr.mapEntry
  repeat' (first | exact trivial | assumption | intro _ | with_reducible exact pl_underlying P _ | with_reducible exact pl_runtimePanic P _ _ | with_reducible exact pl_getObj P _ | with_reducible exact pl_Instr_checkKey P _ _ _ _ | with_reducible exact pl_Instr_findKey P _ _ _ | with_reducible exact pl_Instr_keyThatStays P _ _ | ((with_reducible refine pl_setObj P _ _ ?_) <;> exact trivial) | with_reducible exact pl_zeroValue P _ | with_reducible exact pl_stuck P _ _ | refine pl_ite ?_ ?_ | refine pl_bind ?_ (fun _ => ?_) | refine pl_bind0 ?_ (fun _ => ?_) | refine pl_map ?_ | exact ⟨trivial, fun _ => trivial⟩ | exact ⟨trivial, trivial⟩ | exact ⟨rfl, trivial⟩ | refine pl_forIn_array _ _ (fun _ _ => ?_) | refine pl_forIn_range _ _ (fun _ _ => ?_) | refine pl_forIn_listp _ _ (fun _ _ => ?_) | refine pl_mapM_array _ (fun _ => ?_) | refine pl_foldlM' _ _ (fun _ _ => ?_) | split | (dsimp only))
theorem pl_Instr_lookup (P : Program) : ∀ x0 x1 x2 x3, Pl P T1 (@Go.Instr.lookup x0 x1 x2 x3) := by
  intros
  unfold Go.Instr.lookup
  repeat' (first | exact trivial | assumption | intro _ | with_reducible exact pl_underlying P _ | with_reducible exact pl_Instr_checkKey P _ _ _ _ | with_reducible exact pl_Instr_findKey P _ _ _ | with_reducible exact pl_zeroValue P _ | with_reducible exact pl_getObj P _ | with_reducible exact pl_stuck P _ _ | refine pl_ite ?_ ?_ | refine pl_bind ?_ (fun _ => ?_) | refine pl_bind0 ?_ (fun _ => ?_) | refine pl_map ?_ | exact ⟨trivial, fun _ => trivial⟩ | exact ⟨trivial, trivial⟩ | exact ⟨rfl, trivial⟩ | refine pl_forIn_array _ _ (fun _ _ => ?_) | refine pl_forIn_range _ _ (fun _ _ => ?_) | refine pl_forIn_listp _ _ (fun _ _ => ?_) | refine pl_mapM_array _ (fun _ => ?_) | refine pl_foldlM' _ _ (fun _ _ => ?_) | split | (dsimp only))
theorem pl_Op_shift (P : Program) : ∀ x0 x1 x2 x3 x4, Pl P T1 (@Go.Op.shift x0 x1 x2 x3 x4) := by
  intros
  unfold Go.Op.shift
  repeat' (first | exact trivial | assumption | intro _ | with_reducible exact pl_runtimePanic P _ _ | with_reducible exact pl_stuck P _ _ | refine pl_ite ?_ ?_ | refine pl_bind ?_ (fun _ => ?_) | refine pl_bind0 ?_ (fun _ => ?_) | refine pl_map ?_ | exact ⟨trivial, fun _ => trivial⟩ | exact ⟨trivial, trivial⟩ | exact ⟨rfl, trivial⟩ | refine pl_forIn_array _ _ (fun _ _ => ?_) | refine pl_forIn_range _ _ (fun _ _ => ?_) | refine pl_forIn_listp _ _ (fun _ _ => ?_) | refine pl_mapM_array _ (fun _ => ?_) | refine pl_foldlM' _ _ (fun _ _ => ?_) | split | (dsimp only))
theorem pl_asIntOf (P : Program) : ∀ x0, Pl P T1 (@Go.asIntOf x0) := by
  intros
  unfold Go.asIntOf
  repeat' (first | exact trivial | assumption | intro _ | ((with_reducible refine pl_unsupported P _ _ ?_) <;> exact trivial) | with_reducible exact pl_stuck P _ _ | refine pl_ite ?_ ?_ | refine pl_bind ?_ (fun _ => ?_) | refine pl_bind0 ?_ (fun _ => ?_) | refine pl_map ?_ | exact ⟨trivial, fun _ => trivial⟩ | exact ⟨trivial, trivial⟩ | exact ⟨rfl, trivial⟩ | refine pl_forIn_array _ _ (fun _ _ => ?_) | refine pl_forIn_range _ _ (fun _ _ => ?_) | refine pl_forIn_listp _ _ (fun _ _ => ?_) | refine pl_mapM_array _ (fun _ => ?_) | refine pl_foldlM' _ _ (fun _ _ => ?_) | split | (dsimp only))
theorem pl_boundsPanic (P : Program) : ∀ x0 x1 x2 x3 x4, Pl P T1 (@Go.boundsPanic x0 x1 x2 x3 x4) := by
  intros
  unfold Go.boundsPanic
  repeat' (first | exact trivial | assumption | intro _ | with_reducible exact pl_runtimePanic P _ _ | with_reducible exact pl_choose P _ | refine pl_ite ?_ ?_ | refine pl_bind ?_ (fun _ => ?_) | refine pl_bind0 ?_ (fun _ => ?_) | refine pl_map ?_ | exact ⟨trivial, fun _ => trivial⟩ | exact ⟨trivial, trivial⟩ | exact ⟨rfl, trivial⟩ | refine pl_forIn_array _ _ (fun _ _ => ?_) | refine pl_forIn_range _ _ (fun _ _ => ?_) | refine pl_forIn_listp _ _ (fun _ _ => ?_) | refine pl_mapM_array _ (fun _ => ?_) | refine pl_foldlM' _ _ (fun _ _ => ?_) | split | (dsimp only))
theorem pl_Instr_sliceBound (P : Program) : ∀ x0 x1 x2, Pl P T1 (@Go.Instr.sliceBound x0 x1 x2) := by
  intros
  unfold Go.Instr.sliceBound
  repeat' (first | exact trivial | assumption | intro _ | with_reducible exact pl_asIntOf P _ | with_reducible exact pl_boundsPanic P _ _ _ _ _ | refine pl_ite ?_ ?_ | refine pl_bind ?_ (fun _ => ?_) | refine pl_bind0 ?_ (fun _ => ?_) | refine pl_map ?_ | exact ⟨trivial, fun _ => trivial⟩ | exact ⟨trivial, trivial⟩ | exact ⟨rfl, trivial⟩ | refine pl_forIn_array _ _ (fun _ _ => ?_) | refine pl_forIn_range _ _ (fun _ _ => ?_) | refine pl_forIn_listp _ _ (fun _ _ => ?_) | refine pl_mapM_array _ (fun _ => ?_) | refine pl_foldlM' _ _ (fun _ _ => ?_) | split | (dsimp only))
theorem pl_Instr_sliceBounds (P : Program) : ∀ x0 x1 x2 x3 x4 x5, Pl P T1 (@Go.Instr.sliceBounds x0 x1 x2 x3 x4 x5) := by
  intros
  unfold Go.Instr.sliceBounds
  repeat' (first | exact trivial | assumption | intro _ | with_reducible exact pl_Instr_sliceBound P _ _ _ | with_reducible exact pl_stuck P _ _ | refine pl_ite ?_ ?_ | refine pl_bind ?_ (fun _ => ?_) | refine pl_bind0 ?_ (fun _ => ?_) | refine pl_map ?_ | exact ⟨trivial, fun _ => trivial⟩ | exact ⟨trivial, trivial⟩ | exact ⟨rfl, trivial⟩ | refine pl_forIn_array _ _ (fun _ _ => ?_) | refine pl_forIn_range _ _ (fun _ _ => ?_) | refine pl_forIn_listp _ _ (fun _ _ => ?_) | refine pl_mapM_array _ (fun _ => ?_) | refine pl_foldlM' _ _ (fun _ _ => ?_) | split | (dsimp only))
theorem pl_Instr_slice (P : Program) : ∀ x0 x1 x2 x3 x4, Pl P T1 (@Go.Instr.slice x0 x1 x2 x3 x4) := by
  intros
  unfold Go.Instr.slice
  repeat' (first | exact trivial | assumption | intro _ | with_reducible exact pl_underlying P _ | with_reducible exact pl_Instr_sliceBounds P _ _ _ _ _ _ | with_reducible exact pl_stuck P _ _ | with_reducible exact pl_sizeOf P _ | with_reducible exact pl_asAddr P _ | refine pl_ite ?_ ?_ | refine pl_bind ?_ (fun _ => ?_) | refine pl_bind0 ?_ (fun _ => ?_) | refine pl_map ?_ | exact ⟨trivial, fun _ => trivial⟩ | exact ⟨trivial, trivial⟩ | exact ⟨rfl, trivial⟩ | refine pl_forIn_array _ _ (fun _ _ => ?_) | refine pl_forIn_range _ _ (fun _ _ => ?_) | refine pl_forIn_listp _ _ (fun _ _ => ?_) | refine pl_mapM_array _ (fun _ => ?_) | refine pl_foldlM' _ _ (fun _ _ => ?_) | split | (dsimp only))
theorem pl_asInt (P : Program) : ∀ x0, Pl P T1 (@Go.asInt x0) := by
  intros
  unfold Go.asInt
  repeat' (first | exact trivial | assumption | intro _ | with_reducible exact pl_asIntOf P _ | refine pl_ite ?_ ?_ | refine pl_bind ?_ (fun _ => ?_) | refine pl_bind0 ?_ (fun _ => ?_) | refine pl_map ?_ | exact ⟨trivial, fun _ => trivial⟩ | exact ⟨trivial, trivial⟩ | exact ⟨rfl, trivial⟩ | refine pl_forIn_array _ _ (fun _ _ => ?_) | refine pl_forIn_range _ _ (fun _ _ => ?_) | refine pl_forIn_listp _ _ (fun _ _ => ?_) | refine pl_mapM_array _ (fun _ => ?_) | refine pl_foldlM' _ _ (fun _ _ => ?_) | split | (dsimp only))
theorem pl_Builtin_unsafeAdd_ (P : Program) : ∀ x0 x1 x2, Pl P T1 (@Go.Builtin.unsafeAdd_ x0 x1 x2) := by
  intro x0 x1 x2
  unfold Go.Builtin.unsafeAdd_
  rcases x2 with ⟨_|⟨a,_|⟨b,_|⟨z,l⟩⟩⟩⟩
  · exact trivial
  · exact trivial
  · cases a <;> try exact trivial
    refine pl_bind (pl_asInt P _) fun n => ?_
    repeat' (first | exact trivial | assumption | intro _  | with_reducible exact pl_viewAt P _ | (with_reducible refine pl_unsupported P _ _  ?_) <;> exact trivial | with_reducible exact pl_asInt P _ | with_reducible exact pl_shape P _ | with_reducible exact pl_program P | refine pl_ite ?_ ?_ | refine pl_bind ?_ (fun _ => ?_) | refine pl_bind0 ?_ (fun _ => ?_) | refine pl_map ?_ | split | (dsimp only))
  · exact trivial

theorem pl_Op_stringOp (P : Program) : ∀ x0 x1 x2, Pl P T1 (@Go.Op.stringOp x0 x1 x2) := by
  intros
  unfold Go.Op.stringOp
  repeat' (first | exact trivial | assumption | intro _ | ((with_reducible refine pl_unsupported P _ _ ?_) <;> exact trivial) | with_reducible exact pl_stuck P _ _ | refine pl_ite ?_ ?_ | refine pl_bind ?_ (fun _ => ?_) | refine pl_bind0 ?_ (fun _ => ?_) | refine pl_map ?_ | exact ⟨trivial, fun _ => trivial⟩ | exact ⟨trivial, trivial⟩ | exact ⟨rfl, trivial⟩ | refine pl_forIn_array _ _ (fun _ _ => ?_) | refine pl_forIn_range _ _ (fun _ _ => ?_) | refine pl_forIn_listp _ _ (fun _ _ => ?_) | refine pl_mapM_array _ (fun _ => ?_) | refine pl_foldlM' _ _ (fun _ _ => ?_) | split | (dsimp only))
theorem pl_asBool (P : Program) : ∀ x0, Pl P T1 (@Go.asBool x0) := by
  intros
  unfold Go.asBool
  repeat' (first | exact trivial | assumption | intro _ | with_reducible exact pl_stuck P _ _ | refine pl_ite ?_ ?_ | refine pl_bind ?_ (fun _ => ?_) | refine pl_bind0 ?_ (fun _ => ?_) | refine pl_map ?_ | exact ⟨trivial, fun _ => trivial⟩ | exact ⟨trivial, trivial⟩ | exact ⟨rfl, trivial⟩ | refine pl_forIn_array _ _ (fun _ _ => ?_) | refine pl_forIn_range _ _ (fun _ _ => ?_) | refine pl_forIn_listp _ _ (fun _ _ => ?_) | refine pl_mapM_array _ (fun _ => ?_) | refine pl_foldlM' _ _ (fun _ _ => ?_) | split | (dsimp only))
theorem pl_Builtin_min2 (P : Program) : ∀ x0 x1, Pl P T1 (@Go.Builtin.min2 x0 x1) := by
  intros
  unfold Go.Builtin.min2
  repeat' (first | exact trivial | assumption | intro _ | with_reducible exact pl_choose P _ | with_reducible exact pl_Op_stringOp P _ _ _ | with_reducible exact pl_asBool P _ | ((with_reducible refine pl_unsupported P _ _ ?_) <;> exact trivial) | with_reducible exact pl_stuck P _ _ | refine pl_ite ?_ ?_ | refine pl_bind ?_ (fun _ => ?_) | refine pl_bind0 ?_ (fun _ => ?_) | refine pl_map ?_ | exact ⟨trivial, fun _ => trivial⟩ | exact ⟨trivial, trivial⟩ | exact ⟨rfl, trivial⟩ | refine pl_forIn_array _ _ (fun _ _ => ?_) | refine pl_forIn_range _ _ (fun _ _ => ?_) | refine pl_forIn_listp _ _ (fun _ _ => ?_) | refine pl_mapM_array _ (fun _ => ?_) | refine pl_foldlM' _ _ (fun _ _ => ?_) | split | (dsimp only))
theorem pl_Builtin_min_ (P : Program) : ∀ x0 x1 x2, Pl P T1 (@Go.Builtin.min_ x0 x1 x2) := by
  intros
  unfold Go.Builtin.min_
  repeat' (first | exact trivial | assumption | intro _ | with_reducible exact pl_stuck P _ _ | with_reducible exact pl_Builtin_min2 P _ _ | refine pl_ite ?_ ?_ | refine pl_bind ?_ (fun _ => ?_) | refine pl_bind0 ?_ (fun _ => ?_) | refine pl_map ?_ | exact ⟨trivial, fun _ => trivial⟩ | exact ⟨trivial, trivial⟩ | exact ⟨rfl, trivial⟩ | refine pl_forIn_array _ _ (fun _ _ => ?_) | refine pl_forIn_range _ _ (fun _ _ => ?_) | refine pl_forIn_listp _ _ (fun _ _ => ?_) | refine pl_mapM_array _ (fun _ => ?_) | refine pl_foldlM' _ _ (fun _ _ => ?_) | split | (dsimp only))
theorem pl_asNumber (P : Program) : ∀ x0 x1, Pl P T1 (@Go.asNumber x0 x1) := by
  intros
  unfold Go.asNumber
  repeat' (first | exact trivial | assumption | intro _ | ((with_reducible refine pl_newObj P _ ?_) <;> exact trivial) | refine pl_ite ?_ ?_ | refine pl_bind ?_ (fun _ => ?_) | refine pl_bind0 ?_ (fun _ => ?_) | refine pl_map ?_ | exact ⟨trivial, fun _ => trivial⟩ | exact ⟨trivial, trivial⟩ | exact ⟨rfl, trivial⟩ | refine pl_forIn_array _ _ (fun _ _ => ?_) | refine pl_forIn_range _ _ (fun _ _ => ?_) | refine pl_forIn_listp _ _ (fun _ _ => ?_) | refine pl_mapM_array _ (fun _ => ?_) | refine pl_foldlM' _ _ (fun _ _ => ?_) | split | (dsimp only))
theorem pl_receiverVia (P : Program) : ∀ x0 x1 x2 x3, Pl P T1 (@Go.receiverVia x0 x1 x2 x3) := by
  intros
  unfold Go.receiverVia
  repeat' (first | exact trivial | assumption | intro _ | with_reducible exact pl_follow P _ _ _ | with_reducible exact pl_receiverAt P _ _ _ _ | refine pl_ite ?_ ?_ | refine pl_bind ?_ (fun _ => ?_) | refine pl_bind0 ?_ (fun _ => ?_) | refine pl_map ?_ | exact ⟨trivial, fun _ => trivial⟩ | exact ⟨trivial, trivial⟩ | exact ⟨rfl, trivial⟩ | refine pl_forIn_array _ _ (fun _ _ => ?_) | refine pl_forIn_range _ _ (fun _ _ => ?_) | refine pl_forIn_listp _ _ (fun _ _ => ?_) | refine pl_mapM_array _ (fun _ => ?_) | refine pl_foldlM' _ _ (fun _ _ => ?_) | split | (dsimp only))
theorem pl_Instr_sureAddr (P : Program) : ∀ x0, Pl P T1 (@Go.Instr.sureAddr x0) := by
  intros
  unfold Go.Instr.sureAddr
  repeat' (first | exact trivial | assumption | intro _ | with_reducible exact pl_stuck P _ _ | refine pl_ite ?_ ?_ | refine pl_bind ?_ (fun _ => ?_) | refine pl_bind0 ?_ (fun _ => ?_) | refine pl_map ?_ | exact ⟨trivial, fun _ => trivial⟩ | exact ⟨trivial, trivial⟩ | exact ⟨rfl, trivial⟩ | refine pl_forIn_array _ _ (fun _ _ => ?_) | refine pl_forIn_range _ _ (fun _ _ => ?_) | refine pl_forIn_listp _ _ (fun _ _ => ?_) | refine pl_mapM_array _ (fun _ => ?_) | refine pl_foldlM' _ _ (fun _ _ => ?_) | split | (dsimp only))
theorem pl_Instr_sliceAt (P : Program) : ∀ x0 x1 x2 x3 x4, Pl P T1 (@Go.Instr.sliceAt x0 x1 x2 x3 x4) := by
  intros
  unfold Go.Instr.sliceAt
  repeat' (first | exact trivial | assumption | intro _ | with_reducible exact pl_underlying P _ | with_reducible exact pl_Instr_sureAddr P _ | with_reducible exact pl_Instr_sliceBounds P _ _ _ _ _ _ | with_reducible exact pl_sizeOf P _ | with_reducible exact pl_Instr_slice P _ _ _ _ _ | refine pl_ite ?_ ?_ | refine pl_bind ?_ (fun _ => ?_) | refine pl_bind0 ?_ (fun _ => ?_) | refine pl_map ?_ | exact ⟨trivial, fun _ => trivial⟩ | exact ⟨trivial, trivial⟩ | exact ⟨rfl, trivial⟩ | refine pl_forIn_array _ _ (fun _ _ => ?_) | refine pl_forIn_range _ _ (fun _ _ => ?_) | refine pl_forIn_listp _ _ (fun _ _ => ?_) | refine pl_mapM_array _ (fun _ => ?_) | refine pl_foldlM' _ _ (fun _ _ => ?_) | split | (dsimp only))
theorem pl_Builtin_holdsCells (P : Program) : ∀ x0 x1, Pl P T1 (@Go.Builtin.holdsCells x0 x1) := by
  intros
  unfold Go.Builtin.holdsCells
  repeat' (first | exact trivial | assumption | intro _ | with_reducible exact pl_shape P _ | refine pl_ite ?_ ?_ | refine pl_bind ?_ (fun _ => ?_) | refine pl_bind0 ?_ (fun _ => ?_) | refine pl_map ?_ | exact ⟨trivial, fun _ => trivial⟩ | exact ⟨trivial, trivial⟩ | exact ⟨rfl, trivial⟩ | refine pl_forIn_array _ _ (fun _ _ => ?_) | refine pl_forIn_range _ _ (fun _ _ => ?_) | refine pl_forIn_listp _ _ (fun _ _ => ?_) | refine pl_mapM_array _ (fun _ => ?_) | refine pl_foldlM' _ _ (fun _ _ => ?_) | split | (dsimp only))
theorem pl_store (P : Program) : ∀ x0 x1 x2, Pl P T1 (@Go.store x0 x1 x2) := by
  intros
  unfold Go.store
  repeat' (first | exact trivial | assumption | intro _ | refine pl_ite ?_ ?_ | refine pl_bind ?_ (fun _ => ?_) | refine pl_bind0 ?_ (fun _ => ?_) | refine pl_map ?_ | exact ⟨trivial, fun _ => trivial⟩ | exact ⟨trivial, trivial⟩ | exact ⟨rfl, trivial⟩ | refine pl_forIn_array _ _ (fun _ _ => ?_) | refine pl_forIn_range _ _ (fun _ _ => ?_) | refine pl_forIn_listp _ _ (fun _ _ => ?_) | refine pl_mapM_array _ (fun _ => ?_) | refine pl_foldlM' _ _ (fun _ _ => ?_) | split | (dsimp only))
theorem pl_storeCells (P : Program) : ∀ x0 x1 x2, Pl P T1 (@Go.storeCells x0 x1 x2) := by
  intro x0 x1 x2
  induction x1 generalizing x0 x2 with
  | nil => rw [Go.storeCells]; repeat' (first | exact trivial | assumption | intro _ | with_reducible exact pl_store P _ _ _ | refine pl_ite ?_ ?_ | refine pl_bind ?_ (fun _ => ?_) | refine pl_bind0 ?_ (fun _ => ?_) | refine pl_map ?_ | exact ⟨trivial, fun _ => trivial⟩ | exact ⟨trivial, trivial⟩ | exact ⟨rfl, trivial⟩ | refine pl_forIn_array _ _ (fun _ _ => ?_) | refine pl_forIn_range _ _ (fun _ _ => ?_) | refine pl_forIn_listp _ _ (fun _ _ => ?_) | refine pl_mapM_array _ (fun _ => ?_) | refine pl_foldlM' _ _ (fun _ _ => ?_) | split | (dsimp only))
  | cons e m ih => rw [Go.storeCells]; repeat' (first | with_reducible exact ih _ _ | exact trivial | assumption | intro _ | with_reducible exact pl_store P _ _ _ | refine pl_ite ?_ ?_ | refine pl_bind ?_ (fun _ => ?_) | refine pl_bind0 ?_ (fun _ => ?_) | refine pl_map ?_ | exact ⟨trivial, fun _ => trivial⟩ | exact ⟨trivial, trivial⟩ | exact ⟨rfl, trivial⟩ | refine pl_forIn_array _ _ (fun _ _ => ?_) | refine pl_forIn_range _ _ (fun _ _ => ?_) | refine pl_forIn_listp _ _ (fun _ _ => ?_) | refine pl_mapM_array _ (fun _ => ?_) | refine pl_foldlM' _ _ (fun _ _ => ?_) | split | (dsimp only))
theorem pl_storeBytes (P : Program) : ∀ x0 x1, Pl P T1 (@Go.storeBytes x0 x1) := by
  intros
  unfold Go.storeBytes
  repeat' (first | exact trivial | assumption | intro _ | with_reducible exact pl_storeCells P _ _ _ | refine pl_ite ?_ ?_ | refine pl_bind ?_ (fun _ => ?_) | refine pl_bind0 ?_ (fun _ => ?_) | refine pl_map ?_ | exact ⟨trivial, fun _ => trivial⟩ | exact ⟨trivial, trivial⟩ | exact ⟨rfl, trivial⟩ | refine pl_forIn_array _ _ (fun _ _ => ?_) | refine pl_forIn_range _ _ (fun _ _ => ?_) | refine pl_forIn_listp _ _ (fun _ _ => ?_) | refine pl_mapM_array _ (fun _ => ?_) | refine pl_foldlM' _ _ (fun _ _ => ?_) | split | (dsimp only))
theorem pl_variablesAt (P : Program) : ∀ x0 x1 x2, Pl P T1 (@Go.variablesAt x0 x1 x2) := by
  intros
  unfold Go.variablesAt
  repeat' (first | exact trivial | assumption | intro _ | with_reducible exact pl_program P | with_reducible exact pl_shape P _ | refine pl_ite ?_ ?_ | refine pl_bind ?_ (fun _ => ?_) | refine pl_bind0 ?_ (fun _ => ?_) | refine pl_map ?_ | exact ⟨trivial, fun _ => trivial⟩ | exact ⟨trivial, trivial⟩ | exact ⟨rfl, trivial⟩ | refine pl_forIn_array _ _ (fun _ _ => ?_) | refine pl_forIn_range _ _ (fun _ _ => ?_) | refine pl_forIn_listp _ _ (fun _ _ => ?_) | refine pl_mapM_array _ (fun _ => ?_) | refine pl_foldlM' _ _ (fun _ _ => ?_) | split | (dsimp only))
theorem pl_loadBytes (P : Program) : ∀ x0 x1 x2, Pl P T1 (@Go.loadBytes x0 x1 x2) := by
  intro x0 x1 x2
  induction x2 generalizing x0 x1 with
  | zero => rw [Go.loadBytes]; repeat' (first | exact trivial | assumption | intro _ | with_reducible exact pl_load P _ _ | with_reducible exact pl_stuck P _ _ | refine pl_ite ?_ ?_ | refine pl_bind ?_ (fun _ => ?_) | refine pl_bind0 ?_ (fun _ => ?_) | refine pl_map ?_ | exact ⟨trivial, fun _ => trivial⟩ | exact ⟨trivial, trivial⟩ | exact ⟨rfl, trivial⟩ | refine pl_forIn_array _ _ (fun _ _ => ?_) | refine pl_forIn_range _ _ (fun _ _ => ?_) | refine pl_forIn_listp _ _ (fun _ _ => ?_) | refine pl_mapM_array _ (fun _ => ?_) | refine pl_foldlM' _ _ (fun _ _ => ?_) | split | (dsimp only))
  | succ m ih => rw [Go.loadBytes]; repeat' (first | with_reducible exact ih _ _ | exact trivial | assumption | intro _ | with_reducible exact pl_load P _ _ | with_reducible exact pl_stuck P _ _ | refine pl_ite ?_ ?_ | refine pl_bind ?_ (fun _ => ?_) | refine pl_bind0 ?_ (fun _ => ?_) | refine pl_map ?_ | exact ⟨trivial, fun _ => trivial⟩ | exact ⟨trivial, trivial⟩ | exact ⟨rfl, trivial⟩ | refine pl_forIn_array _ _ (fun _ _ => ?_) | refine pl_forIn_range _ _ (fun _ _ => ?_) | refine pl_forIn_listp _ _ (fun _ _ => ?_) | refine pl_mapM_array _ (fun _ => ?_) | refine pl_foldlM' _ _ (fun _ _ => ?_) | split | (dsimp only))
theorem pl_freeze (P : Program) : ∀ x0 x1, Pl P T1 (@Go.freeze x0 x1) := by
  intros
  unfold Go.freeze
  repeat' (first | exact trivial | assumption | intro _ | refine pl_ite ?_ ?_ | refine pl_bind ?_ (fun _ => ?_) | refine pl_bind0 ?_ (fun _ => ?_) | refine pl_map ?_ | exact ⟨trivial, fun _ => trivial⟩ | exact ⟨trivial, trivial⟩ | exact ⟨rfl, trivial⟩ | refine pl_forIn_array _ _ (fun _ _ => ?_) | refine pl_forIn_range _ _ (fun _ _ => ?_) | refine pl_forIn_listp _ _ (fun _ _ => ?_) | refine pl_mapM_array _ (fun _ => ?_) | refine pl_foldlM' _ _ (fun _ _ => ?_) | split | (dsimp only))
theorem pl_Builtin_printOne (P : Program) : ∀ x0 x1, Pl P T1 (@Go.Builtin.printOne x0 x1) := by
  intros
  unfold Go.Builtin.printOne
  repeat' (first | exact trivial | assumption | intro _ | with_reducible exact pl_typeInfo P _ | ((with_reducible refine pl_unsupported P _ _ ?_) <;> exact trivial) | with_reducible exact pl_stuck P _ _ | refine pl_ite ?_ ?_ | refine pl_bind ?_ (fun _ => ?_) | refine pl_bind0 ?_ (fun _ => ?_) | refine pl_map ?_ | exact ⟨trivial, fun _ => trivial⟩ | exact ⟨trivial, trivial⟩ | exact ⟨rfl, trivial⟩ | refine pl_forIn_array _ _ (fun _ _ => ?_) | refine pl_forIn_range _ _ (fun _ _ => ?_) | refine pl_forIn_listp _ _ (fun _ _ => ?_) | refine pl_mapM_array _ (fun _ => ?_) | refine pl_foldlM' _ _ (fun _ _ => ?_) | split | (dsimp only))
theorem pl_Instr_range (P : Program) : ∀ x0 x1, Pl P T1 (@Go.Instr.range x0 x1) := by
  intro x0 x1
  unfold Go.Instr.range
  refine Pl.bind (pl_underlying P _) fun t _ => ?_
  have key : ∀ (s : Sem Obj), Pl P NP s → Pl P T1 (do let it ← s; pure (Value.pointer (some ⟨← newObj it, 0, none⟩)) : Sem Value) := by
    intro s hs
    refine Pl.bind hs fun o ho => ?_
    refine pl_bind (pl_newObj P o ho) ?_
    intro _
    exact trivial
  split
  · exact key _ trivial
  · exact key _ trivial
  · refine Pl.bind (pl_getObj P _) fun o _ => ?_
    split
    · exact key _ trivial
    · exact trivial
  · exact trivial

theorem pl_Instr_getLoop (P : Program) : ∀ x0, Pl P T1 (@Go.Instr.getLoop x0) := by
  intros
  unfold Go.Instr.getLoop
  repeat' (first | exact trivial | assumption | intro _ | with_reducible exact pl_getObj P _ | with_reducible exact pl_stuck P _ _ | refine pl_ite ?_ ?_ | refine pl_bind ?_ (fun _ => ?_) | refine pl_bind0 ?_ (fun _ => ?_) | refine pl_map ?_ | exact ⟨trivial, fun _ => trivial⟩ | exact ⟨trivial, trivial⟩ | exact ⟨rfl, trivial⟩ | refine pl_forIn_array _ _ (fun _ _ => ?_) | refine pl_forIn_range _ _ (fun _ _ => ?_) | refine pl_forIn_listp _ _ (fun _ _ => ?_) | refine pl_mapM_array _ (fun _ => ?_) | refine pl_foldlM' _ _ (fun _ _ => ?_) | split | (dsimp only))
theorem pl_Instr_endRound (P : Program) : ∀ x0 x1, Pl P T1 (@Go.Instr.endRound x0 x1) := by
  intros
  unfold Go.Instr.endRound
  repeat' (first | exact trivial | assumption | intro _ | with_reducible exact pl_Instr_getLoop P _ | ((with_reducible refine pl_setObj P _ _ ?_) <;> exact trivial) | refine pl_ite ?_ ?_ | refine pl_bind ?_ (fun _ => ?_) | refine pl_bind0 ?_ (fun _ => ?_) | refine pl_map ?_ | exact ⟨trivial, fun _ => trivial⟩ | exact ⟨trivial, trivial⟩ | exact ⟨rfl, trivial⟩ | refine pl_forIn_array _ _ (fun _ _ => ?_) | refine pl_forIn_range _ _ (fun _ _ => ?_) | refine pl_forIn_listp _ _ (fun _ _ => ?_) | refine pl_mapM_array _ (fun _ => ?_) | refine pl_foldlM' _ _ (fun _ _ => ?_) | split | (dsimp only))
theorem pl_storeVar (P : Program) : ∀ x0 x1 x2, Pl P T1 (@Go.storeVar x0 x1 x2) := by
  intros
  unfold Go.storeVar
  repeat' (first | exact trivial | assumption | intro _ | with_reducible exact pl_sizeOf P _ | with_reducible exact pl_storeCells P _ _ _ | with_reducible exact pl_stuck P _ _ | refine pl_ite ?_ ?_ | refine pl_bind ?_ (fun _ => ?_) | refine pl_bind0 ?_ (fun _ => ?_) | refine pl_map ?_ | exact ⟨trivial, fun _ => trivial⟩ | exact ⟨trivial, trivial⟩ | exact ⟨rfl, trivial⟩ | refine pl_forIn_array _ _ (fun _ _ => ?_) | refine pl_forIn_range _ _ (fun _ _ => ?_) | refine pl_forIn_listp _ _ (fun _ _ => ?_) | refine pl_mapM_array _ (fun _ => ?_) | refine pl_foldlM' _ _ (fun _ _ => ?_) | split | (dsimp only))
theorem pl_Instr_storeAt (P : Program) : ∀ x0 x1 x2, Pl P T1 (@Go.Instr.storeAt x0 x1 x2) := by
  intros
  unfold Go.Instr.storeAt
  repeat' (first | exact trivial | assumption | intro _ | with_reducible exact pl_Instr_sureAddr P _ | with_reducible exact pl_storeVar P _ _ _ | refine pl_ite ?_ ?_ | refine pl_bind ?_ (fun _ => ?_) | refine pl_bind0 ?_ (fun _ => ?_) | refine pl_map ?_ | exact ⟨trivial, fun _ => trivial⟩ | exact ⟨trivial, trivial⟩ | exact ⟨rfl, trivial⟩ | refine pl_forIn_array _ _ (fun _ _ => ?_) | refine pl_forIn_range _ _ (fun _ _ => ?_) | refine pl_forIn_listp _ _ (fun _ _ => ?_) | refine pl_mapM_array _ (fun _ => ?_) | refine pl_foldlM' _ _ (fun _ _ => ?_) | split | (dsimp only))
theorem pl_Op_floatArith (P : Program) : ∀ x0 x1 x2 x3, Pl P T1 (@Go.Op.floatArith x0 x1 x2 x3) := by
  intros
  unfold Go.Op.floatArith
  repeat' (first | exact trivial | assumption | intro _ | with_reducible exact pl_choose P _ | with_reducible exact pl_stuck P _ _ | refine pl_ite ?_ ?_ | refine pl_bind ?_ (fun _ => ?_) | refine pl_bind0 ?_ (fun _ => ?_) | refine pl_map ?_ | exact ⟨trivial, fun _ => trivial⟩ | exact ⟨trivial, trivial⟩ | exact ⟨rfl, trivial⟩ | refine pl_forIn_array _ _ (fun _ _ => ?_) | refine pl_forIn_range _ _ (fun _ _ => ?_) | refine pl_forIn_listp _ _ (fun _ _ => ?_) | refine pl_mapM_array _ (fun _ => ?_) | refine pl_foldlM' _ _ (fun _ _ => ?_) | split | (dsimp only))
theorem pl_Op_Complex_arith (P : Program) : ∀ x0 x1 x2 x3, Pl P T1 (@Go.Op.Complex.arith x0 x1 x2 x3) := by
  intros
  unfold Go.Op.Complex.arith
  repeat' (first | exact trivial | assumption | intro _ | with_reducible exact pl_Op_floatArith P _ _ _ _ | with_reducible exact pl_stuck P _ _ | refine pl_ite ?_ ?_ | refine pl_bind ?_ (fun _ => ?_) | refine pl_bind0 ?_ (fun _ => ?_) | refine pl_map ?_ | exact ⟨trivial, fun _ => trivial⟩ | exact ⟨trivial, trivial⟩ | exact ⟨rfl, trivial⟩ | refine pl_forIn_array _ _ (fun _ _ => ?_) | refine pl_forIn_range _ _ (fun _ _ => ?_) | refine pl_forIn_listp _ _ (fun _ _ => ?_) | refine pl_mapM_array _ (fun _ => ?_) | refine pl_foldlM' _ _ (fun _ _ => ?_) | split | (dsimp only))
theorem pl_Op_Complex_mul (P : Program) : ∀ x0 x1, Pl P T1 (@Go.Op.Complex.mul x0 x1) := by
  intros
  unfold Go.Op.Complex.mul
  repeat' (first | exact trivial | assumption | intro _ | with_reducible exact pl_Op_Complex_arith P _ _ _ _ | refine pl_ite ?_ ?_ | refine pl_bind ?_ (fun _ => ?_) | refine pl_bind0 ?_ (fun _ => ?_) | refine pl_map ?_ | exact ⟨trivial, fun _ => trivial⟩ | exact ⟨trivial, trivial⟩ | exact ⟨rfl, trivial⟩ | refine pl_forIn_array _ _ (fun _ _ => ?_) | refine pl_forIn_range _ _ (fun _ _ => ?_) | refine pl_forIn_listp _ _ (fun _ _ => ?_) | refine pl_mapM_array _ (fun _ => ?_) | refine pl_foldlM' _ _ (fun _ _ => ?_) | split | (dsimp only))
theorem pl_Instr_beginRound (P : Program) : ∀ x0, Pl P T1 (@Go.Instr.beginRound x0) := by
  intros
  unfold Go.Instr.beginRound
  repeat' (first | exact trivial | assumption | intro _ | with_reducible exact pl_Instr_getLoop P _ | ((with_reducible refine pl_setObj P _ _ ?_) <;> exact trivial) | with_reducible exact pl_runtimePanic P _ _ | refine pl_ite ?_ ?_ | refine pl_bind ?_ (fun _ => ?_) | refine pl_bind0 ?_ (fun _ => ?_) | refine pl_map ?_ | exact ⟨trivial, fun _ => trivial⟩ | exact ⟨trivial, trivial⟩ | exact ⟨rfl, trivial⟩ | refine pl_forIn_array _ _ (fun _ _ => ?_) | refine pl_forIn_range _ _ (fun _ _ => ?_) | refine pl_forIn_listp _ _ (fun _ _ => ?_) | refine pl_mapM_array _ (fun _ => ?_) | refine pl_foldlM' _ _ (fun _ _ => ?_) | split | (dsimp only))
theorem pl_markStringish (P : Program) : ∀ x0, Pl P T1 (@Go.markStringish x0) := by
  intros
  unfold Go.markStringish
  repeat' (first | exact trivial | assumption | intro _ | with_reducible exact pl_shape P _ | with_reducible exact pl_freeze P _ _ | refine pl_ite ?_ ?_ | refine pl_bind ?_ (fun _ => ?_) | refine pl_bind0 ?_ (fun _ => ?_) | refine pl_map ?_ | exact ⟨trivial, fun _ => trivial⟩ | exact ⟨trivial, trivial⟩ | exact ⟨rfl, trivial⟩ | refine pl_forIn_array _ _ (fun _ _ => ?_) | refine pl_forIn_range _ _ (fun _ _ => ?_) | refine pl_forIn_listp _ _ (fun _ _ => ?_) | refine pl_mapM_array _ (fun _ => ?_) | refine pl_foldlM' _ _ (fun _ _ => ?_) | split | (dsimp only))
theorem pl_Conv_stringToRunes (P : Program) : ∀ x0 x1, Pl P T1 (@Go.Conv.stringToRunes x0 x1) := by
  intros
  unfold Go.Conv.stringToRunes
  repeat' (first | exact trivial | assumption | intro _ | with_reducible exact pl_choose P _ | with_reducible exact pl_newRow P _ _ | refine pl_ite ?_ ?_ | refine pl_bind ?_ (fun _ => ?_) | refine pl_bind0 ?_ (fun _ => ?_) | refine pl_map ?_ | exact ⟨trivial, fun _ => trivial⟩ | exact ⟨trivial, trivial⟩ | exact ⟨rfl, trivial⟩ | refine pl_forIn_array _ _ (fun _ _ => ?_) | refine pl_forIn_range _ _ (fun _ _ => ?_) | refine pl_forIn_listp _ _ (fun _ _ => ?_) | refine pl_mapM_array _ (fun _ => ?_) | refine pl_foldlM' _ _ (fun _ _ => ?_) | split | (dsimp only))
theorem pl_followBlind (P : Program) : ∀ x0 x1 x2, Pl P T1 (@Go.followBlind x0 x1 x2) := by
  intro x0 x1 x2
  induction x0 generalizing x1 x2 with
  | nil => rw [Go.followBlind]; repeat' (first | exact trivial | assumption | intro _ | with_reducible exact pl_underlying P _ | with_reducible exact pl_stuck P _ _ | with_reducible exact pl_part P _ _ _ | refine pl_ite ?_ ?_ | refine pl_bind ?_ (fun _ => ?_) | refine pl_bind0 ?_ (fun _ => ?_) | refine pl_map ?_ | exact ⟨trivial, fun _ => trivial⟩ | exact ⟨trivial, trivial⟩ | exact ⟨rfl, trivial⟩ | refine pl_forIn_array _ _ (fun _ _ => ?_) | refine pl_forIn_range _ _ (fun _ _ => ?_) | refine pl_forIn_listp _ _ (fun _ _ => ?_) | refine pl_mapM_array _ (fun _ => ?_) | refine pl_foldlM' _ _ (fun _ _ => ?_) | split | (dsimp only))
  | cons e m ih => rw [Go.followBlind]; repeat' (first | with_reducible exact ih _ _ | exact trivial | assumption | intro _ | with_reducible exact pl_underlying P _ | with_reducible exact pl_stuck P _ _ | with_reducible exact pl_part P _ _ _ | refine pl_ite ?_ ?_ | refine pl_bind ?_ (fun _ => ?_) | refine pl_bind0 ?_ (fun _ => ?_) | refine pl_map ?_ | exact ⟨trivial, fun _ => trivial⟩ | exact ⟨trivial, trivial⟩ | exact ⟨rfl, trivial⟩ | refine pl_forIn_array _ _ (fun _ _ => ?_) | refine pl_forIn_range _ _ (fun _ _ => ?_) | refine pl_forIn_listp _ _ (fun _ _ => ?_) | refine pl_mapM_array _ (fun _ => ?_) | refine pl_foldlM' _ _ (fun _ _ => ?_) | split | (dsimp only))
theorem pl_Instr_enterLoop (P : Program) : ∀ x0 x1 x2 x3 x4 x5, Pl P T1 (@Go.Instr.enterLoop x0 x1 x2 x3 x4 x5) := by
  intros
  unfold Go.Instr.enterLoop
  repeat' (first | exact trivial | assumption | intro _ | ((with_reducible refine pl_newObj P _ ?_) <;> exact trivial) | with_reducible exact pl_Instr_getLoop P _ | refine pl_ite ?_ ?_ | refine pl_bind ?_ (fun _ => ?_) | refine pl_bind0 ?_ (fun _ => ?_) | refine pl_map ?_ | exact ⟨trivial, fun _ => trivial⟩ | exact ⟨trivial, trivial⟩ | exact ⟨rfl, trivial⟩ | refine pl_forIn_array _ _ (fun _ _ => ?_) | refine pl_forIn_range _ _ (fun _ _ => ?_) | refine pl_forIn_listp _ _ (fun _ _ => ?_) | refine pl_mapM_array _ (fun _ => ?_) | refine pl_foldlM' _ _ (fun _ _ => ?_) | split | (dsimp only))
theorem pl_Conv_stringToBytes (P : Program) : ∀ x0 x1, Pl P T1 (@Go.Conv.stringToBytes x0 x1) := by
  intros
  unfold Go.Conv.stringToBytes
  repeat' (first | exact trivial | assumption | intro _ | with_reducible exact pl_choose P _ | with_reducible exact pl_newRow P _ _ | with_reducible exact pl_markStringish P _ | refine pl_ite ?_ ?_ | refine pl_bind ?_ (fun _ => ?_) | refine pl_bind0 ?_ (fun _ => ?_) | refine pl_map ?_ | exact ⟨trivial, fun _ => trivial⟩ | exact ⟨trivial, trivial⟩ | exact ⟨rfl, trivial⟩ | refine pl_forIn_array _ _ (fun _ _ => ?_) | refine pl_forIn_range _ _ (fun _ _ => ?_) | refine pl_forIn_listp _ _ (fun _ _ => ?_) | refine pl_mapM_array _ (fun _ => ?_) | refine pl_foldlM' _ _ (fun _ _ => ?_) | split | (dsimp only))
theorem pl_Op_Complex_sub (P : Program) : ∀ x0 x1, Pl P T1 (@Go.Op.Complex.sub x0 x1) := by
  intros
  unfold Go.Op.Complex.sub
  repeat' (first | exact trivial | assumption | intro _ | with_reducible exact pl_Op_Complex_arith P _ _ _ _ | refine pl_ite ?_ ?_ | refine pl_bind ?_ (fun _ => ?_) | refine pl_bind0 ?_ (fun _ => ?_) | refine pl_map ?_ | exact ⟨trivial, fun _ => trivial⟩ | exact ⟨trivial, trivial⟩ | exact ⟨rfl, trivial⟩ | refine pl_forIn_array _ _ (fun _ _ => ?_) | refine pl_forIn_range _ _ (fun _ _ => ?_) | refine pl_forIn_listp _ _ (fun _ _ => ?_) | refine pl_mapM_array _ (fun _ => ?_) | refine pl_foldlM' _ _ (fun _ _ => ?_) | split | (dsimp only))
theorem pl_cellsIn (P : Program) : ∀ x0, Pl P T1 (@Go.cellsIn x0) := by
  intros
  unfold Go.cellsIn
  repeat' (first | exact trivial | assumption | intro _ | with_reducible exact pl_shape P _ | with_reducible exact pl_getObj P _ | refine pl_ite ?_ ?_ | refine pl_bind ?_ (fun _ => ?_) | refine pl_bind0 ?_ (fun _ => ?_) | refine pl_map ?_ | exact ⟨trivial, fun _ => trivial⟩ | exact ⟨trivial, trivial⟩ | exact ⟨rfl, trivial⟩ | refine pl_forIn_array _ _ (fun _ _ => ?_) | refine pl_forIn_range _ _ (fun _ _ => ?_) | refine pl_forIn_listp _ _ (fun _ _ => ?_) | refine pl_mapM_array _ (fun _ => ?_) | refine pl_foldlM' _ _ (fun _ _ => ?_) | split | (dsimp only))
theorem pl_Instr_entryStore (P : Program) : ∀ x0 x1 x2 x3, Pl P T1 (@Go.Instr.entryStore x0 x1 x2 x3) := by
  intros
  unfold Go.Instr.entryStore
  repeat' (first | exact trivial | assumption | intro _ | with_reducible exact pl_getObj P _ | with_reducible exact pl_asInt P _ | ((with_reducible refine pl_setObj P _ _ ?_) <;> exact trivial) | ((with_reducible refine pl_unsupported P _ _ ?_) <;> exact trivial) | with_reducible exact pl_stuck P _ _ | refine pl_ite ?_ ?_ | refine pl_bind ?_ (fun _ => ?_) | refine pl_bind0 ?_ (fun _ => ?_) | refine pl_map ?_ | exact ⟨trivial, fun _ => trivial⟩ | exact ⟨trivial, trivial⟩ | exact ⟨rfl, trivial⟩ | refine pl_forIn_array _ _ (fun _ _ => ?_) | refine pl_forIn_range _ _ (fun _ _ => ?_) | refine pl_forIn_listp _ _ (fun _ _ => ?_) | refine pl_mapM_array _ (fun _ => ?_) | refine pl_foldlM' _ _ (fun _ _ => ?_) | split | (dsimp only))
theorem pl_Builtin_lenOf (P : Program) : ∀ x0, Pl P T1 (@Go.Builtin.lenOf x0) := by
  intros
  unfold Go.Builtin.lenOf
  repeat' (first | exact trivial | assumption | intro _ | with_reducible exact pl_stuck P _ _ | refine pl_ite ?_ ?_ | refine pl_bind ?_ (fun _ => ?_) | refine pl_bind0 ?_ (fun _ => ?_) | refine pl_map ?_ | exact ⟨trivial, fun _ => trivial⟩ | exact ⟨trivial, trivial⟩ | exact ⟨rfl, trivial⟩ | refine pl_forIn_array _ _ (fun _ _ => ?_) | refine pl_forIn_range _ _ (fun _ _ => ?_) | refine pl_forIn_listp _ _ (fun _ _ => ?_) | refine pl_mapM_array _ (fun _ => ?_) | refine pl_foldlM' _ _ (fun _ _ => ?_) | split | (dsimp only))
theorem pl_Instr_alloc (P : Program) : ∀ x0 x1 x2, Pl P T1 (@Go.Instr.alloc x0 x1 x2) := by
  intros
  unfold Go.Instr.alloc
  repeat' (first | exact trivial | assumption | intro _ | with_reducible exact pl_zeroValue P _ | with_reducible exact pl_storeVar P _ _ _ | with_reducible exact pl_newVar P _ _ | refine pl_ite ?_ ?_ | refine pl_bind ?_ (fun _ => ?_) | refine pl_bind0 ?_ (fun _ => ?_) | refine pl_map ?_ | exact ⟨trivial, fun _ => trivial⟩ | exact ⟨trivial, trivial⟩ | exact ⟨rfl, trivial⟩ | refine pl_forIn_array _ _ (fun _ _ => ?_) | refine pl_forIn_range _ _ (fun _ _ => ?_) | refine pl_forIn_listp _ _ (fun _ _ => ?_) | refine pl_mapM_array _ (fun _ => ?_) | refine pl_foldlM' _ _ (fun _ _ => ?_) | split | (dsimp only))
theorem pl_Instr_box (P : Program) : ∀ x0 x1, Pl P T1 (@Go.Instr.box x0 x1) := by
  intros
  unfold Go.Instr.box
  repeat' (first | exact trivial | assumption | intro _ | with_reducible exact pl_newVar P _ _ | refine pl_ite ?_ ?_ | refine pl_bind ?_ (fun _ => ?_) | refine pl_bind0 ?_ (fun _ => ?_) | refine pl_map ?_ | exact ⟨trivial, fun _ => trivial⟩ | exact ⟨trivial, trivial⟩ | exact ⟨rfl, trivial⟩ | refine pl_forIn_array _ _ (fun _ _ => ?_) | refine pl_forIn_range _ _ (fun _ _ => ?_) | refine pl_forIn_listp _ _ (fun _ _ => ?_) | refine pl_mapM_array _ (fun _ => ?_) | refine pl_foldlM' _ _ (fun _ _ => ?_) | split | (dsimp only))
theorem pl_Instr_build (P : Program) : ∀ x0 x1, Pl P T1 (@Go.Instr.build x0 x1) := by
  intros
  unfold Go.Instr.build
  repeat' (first | exact trivial | assumption | intro _ | with_reducible exact pl_zeroValue P _ | with_reducible exact pl_underlying P _ | with_reducible exact pl_sizeOf P _ | with_reducible exact pl_stuck P _ _ | refine pl_ite ?_ ?_ | refine pl_bind ?_ (fun _ => ?_) | refine pl_bind0 ?_ (fun _ => ?_) | refine pl_map ?_ | exact ⟨trivial, fun _ => trivial⟩ | exact ⟨trivial, trivial⟩ | exact ⟨rfl, trivial⟩ | refine pl_forIn_array _ _ (fun _ _ => ?_) | refine pl_forIn_range _ _ (fun _ _ => ?_) | refine pl_forIn_listp _ _ (fun _ _ => ?_) | refine pl_mapM_array _ (fun _ => ?_) | refine pl_foldlM' _ _ (fun _ _ => ?_) | split | (dsimp only))
theorem pl_Instr_buildSlice (P : Program) : ∀ x0 x1 x2, Pl P T1 (@Go.Instr.buildSlice x0 x1 x2) := by
  intros
  unfold Go.Instr.buildSlice
  repeat' (first | exact trivial | assumption | intro _ | with_reducible exact pl_underlying P _ | with_reducible exact pl_sizeOf P _ | with_reducible exact pl_newRow P _ _ | with_reducible exact pl_stuck P _ _ | with_reducible exact pl_zeroValue P _ | ((with_reducible refine pl_unsupported P _ _ ?_) <;> exact trivial) | refine pl_ite ?_ ?_ | refine pl_bind ?_ (fun _ => ?_) | refine pl_bind0 ?_ (fun _ => ?_) | refine pl_map ?_ | exact ⟨trivial, fun _ => trivial⟩ | exact ⟨trivial, trivial⟩ | exact ⟨rfl, trivial⟩ | refine pl_forIn_array _ _ (fun _ _ => ?_) | refine pl_forIn_range _ _ (fun _ _ => ?_) | refine pl_forIn_listp _ _ (fun _ _ => ?_) | refine pl_mapM_array _ (fun _ => ?_) | refine pl_foldlM' _ _ (fun _ _ => ?_) | split | (dsimp only))
theorem pl_Instr_loadAt (P : Program) : ∀ x0 x1, Pl P T1 (@Go.Instr.loadAt x0 x1) := by
  intros
  unfold Go.Instr.loadAt
  repeat' (first | exact trivial | assumption | intro _ | with_reducible exact pl_Instr_sureAddr P _ | with_reducible exact pl_loadVar P _ _ | refine pl_ite ?_ ?_ | refine pl_bind ?_ (fun _ => ?_) | refine pl_bind0 ?_ (fun _ => ?_) | refine pl_map ?_ | exact ⟨trivial, fun _ => trivial⟩ | exact ⟨trivial, trivial⟩ | exact ⟨rfl, trivial⟩ | refine pl_forIn_array _ _ (fun _ _ => ?_) | refine pl_forIn_range _ _ (fun _ _ => ?_) | refine pl_forIn_listp _ _ (fun _ _ => ?_) | refine pl_mapM_array _ (fun _ => ?_) | refine pl_foldlM' _ _ (fun _ _ => ?_) | split | (dsimp only))
theorem pl_Instr_ready (P : Program) : ∀ x0, Pl P T1 (@Go.Instr.ready x0) := by
  intros
  unfold Go.Instr.ready
  repeat' (first | exact trivial | assumption | intro _ | with_reducible exact pl_shape P _ | with_reducible exact pl_getObj P _ | ((with_reducible refine pl_setObj P _ _ ?_) <;> exact trivial) | with_reducible exact pl_stuck P _ _ | refine pl_ite ?_ ?_ | refine pl_bind ?_ (fun _ => ?_) | refine pl_bind0 ?_ (fun _ => ?_) | refine pl_map ?_ | exact ⟨trivial, fun _ => trivial⟩ | exact ⟨trivial, trivial⟩ | exact ⟨rfl, trivial⟩ | refine pl_forIn_array _ _ (fun _ _ => ?_) | refine pl_forIn_range _ _ (fun _ _ => ?_) | refine pl_forIn_listp _ _ (fun _ _ => ?_) | refine pl_mapM_array _ (fun _ => ?_) | refine pl_foldlM' _ _ (fun _ _ => ?_) | split | (dsimp only))
theorem pl_Instr_waits (P : Program) : ∀ x0, Pl P T1 (@Go.Instr.waits x0) := by
  intros
  unfold Go.Instr.waits
  repeat' (first | exact trivial | assumption | intro _ | with_reducible exact pl_shape P _ | refine pl_ite ?_ ?_ | refine pl_bind ?_ (fun _ => ?_) | refine pl_bind0 ?_ (fun _ => ?_) | refine pl_map ?_ | exact ⟨trivial, fun _ => trivial⟩ | exact ⟨trivial, trivial⟩ | exact ⟨rfl, trivial⟩ | refine pl_forIn_array _ _ (fun _ _ => ?_) | refine pl_forIn_range _ _ (fun _ _ => ?_) | refine pl_forIn_listp _ _ (fun _ _ => ?_) | refine pl_mapM_array _ (fun _ => ?_) | refine pl_foldlM' _ _ (fun _ _ => ?_) | split | (dsimp only))
theorem pl_nilAhead (P : Program) : ∀ x0 x1 x2 x3, Pl P T1 (@Go.nilAhead x0 x1 x2 x3) := by
  intro x0 x1 x2 x3
  induction x0 generalizing x1 x2 x3 with
  | zero => rw [Go.nilAhead]; repeat' (first | exact trivial | assumption | intro _ | with_reducible exact pl_typeInfo P _ | with_reducible exact pl_stuck P _ _ | with_reducible exact pl_followBlind P _ _ _ | with_reducible exact pl_underlying P _ | refine pl_ite ?_ ?_ | refine pl_bind ?_ (fun _ => ?_) | refine pl_bind0 ?_ (fun _ => ?_) | refine pl_map ?_ | exact ⟨trivial, fun _ => trivial⟩ | exact ⟨trivial, trivial⟩ | exact ⟨rfl, trivial⟩ | refine pl_forIn_array _ _ (fun _ _ => ?_) | refine pl_forIn_range _ _ (fun _ _ => ?_) | refine pl_forIn_listp _ _ (fun _ _ => ?_) | refine pl_mapM_array _ (fun _ => ?_) | refine pl_foldlM' _ _ (fun _ _ => ?_) | split | (dsimp only))
  | succ m ih => rw [Go.nilAhead]; repeat' (first | with_reducible exact ih _ _ _ | exact trivial | assumption | intro _ | with_reducible exact pl_typeInfo P _ | with_reducible exact pl_stuck P _ _ | with_reducible exact pl_followBlind P _ _ _ | with_reducible exact pl_underlying P _ | refine pl_ite ?_ ?_ | refine pl_bind ?_ (fun _ => ?_) | refine pl_bind0 ?_ (fun _ => ?_) | refine pl_map ?_ | exact ⟨trivial, fun _ => trivial⟩ | exact ⟨trivial, trivial⟩ | exact ⟨rfl, trivial⟩ | refine pl_forIn_array _ _ (fun _ _ => ?_) | refine pl_forIn_range _ _ (fun _ _ => ?_) | refine pl_forIn_listp _ _ (fun _ _ => ?_) | refine pl_mapM_array _ (fun _ => ?_) | refine pl_foldlM' _ _ (fun _ _ => ?_) | split | (dsimp only))
theorem pl_Op_intArith (P : Program) : ∀ x0 x1 x2 x3, Pl P T1 (@Go.Op.intArith x0 x1 x2 x3) := by
  intros
  unfold Go.Op.intArith
  repeat' (first | exact trivial | assumption | intro _ | with_reducible exact pl_stuck P _ _ | refine pl_ite ?_ ?_ | refine pl_bind ?_ (fun _ => ?_) | refine pl_bind0 ?_ (fun _ => ?_) | refine pl_map ?_ | exact ⟨trivial, fun _ => trivial⟩ | exact ⟨trivial, trivial⟩ | exact ⟨rfl, trivial⟩ | refine pl_forIn_array _ _ (fun _ _ => ?_) | refine pl_forIn_range _ _ (fun _ _ => ?_) | refine pl_forIn_listp _ _ (fun _ _ => ?_) | refine pl_mapM_array _ (fun _ => ?_) | refine pl_foldlM' _ _ (fun _ _ => ?_) | split | (dsimp only))
theorem pl_Op_intDiv (P : Program) : ∀ x0 x1 x2 x3, Pl P T1 (@Go.Op.intDiv x0 x1 x2 x3) := by
  intros
  unfold Go.Op.intDiv
  repeat' (first | exact trivial | assumption | intro _ | with_reducible exact pl_runtimePanic P _ _ | with_reducible exact pl_stuck P _ _ | refine pl_ite ?_ ?_ | refine pl_bind ?_ (fun _ => ?_) | refine pl_bind0 ?_ (fun _ => ?_) | refine pl_map ?_ | exact ⟨trivial, fun _ => trivial⟩ | exact ⟨trivial, trivial⟩ | exact ⟨rfl, trivial⟩ | refine pl_forIn_array _ _ (fun _ _ => ?_) | refine pl_forIn_range _ _ (fun _ _ => ?_) | refine pl_forIn_listp _ _ (fun _ _ => ?_) | refine pl_mapM_array _ (fun _ => ?_) | refine pl_foldlM' _ _ (fun _ _ => ?_) | split | (dsimp only))
theorem pl_Op_intBits (P : Program) : ∀ x0 x1 x2 x3, Pl P T1 (@Go.Op.intBits x0 x1 x2 x3) := by
  intros
  unfold Go.Op.intBits
  repeat' (first | exact trivial | assumption | intro _ | with_reducible exact pl_stuck P _ _ | refine pl_ite ?_ ?_ | refine pl_bind ?_ (fun _ => ?_) | refine pl_bind0 ?_ (fun _ => ?_) | refine pl_map ?_ | exact ⟨trivial, fun _ => trivial⟩ | exact ⟨trivial, trivial⟩ | exact ⟨rfl, trivial⟩ | refine pl_forIn_array _ _ (fun _ _ => ?_) | refine pl_forIn_range _ _ (fun _ _ => ?_) | refine pl_forIn_listp _ _ (fun _ _ => ?_) | refine pl_mapM_array _ (fun _ => ?_) | refine pl_foldlM' _ _ (fun _ _ => ?_) | split | (dsimp only))
theorem pl_Op_intCmp (P : Program) : ∀ x0 x1 x2, Pl P T1 (@Go.Op.intCmp x0 x1 x2) := by
  intros
  unfold Go.Op.intCmp
  repeat' (first | exact trivial | assumption | intro _ | with_reducible exact pl_stuck P _ _ | refine pl_ite ?_ ?_ | refine pl_bind ?_ (fun _ => ?_) | refine pl_bind0 ?_ (fun _ => ?_) | refine pl_map ?_ | exact ⟨trivial, fun _ => trivial⟩ | exact ⟨trivial, trivial⟩ | exact ⟨rfl, trivial⟩ | refine pl_forIn_array _ _ (fun _ _ => ?_) | refine pl_forIn_range _ _ (fun _ _ => ?_) | refine pl_forIn_listp _ _ (fun _ _ => ?_) | refine pl_mapM_array _ (fun _ => ?_) | refine pl_foldlM' _ _ (fun _ _ => ?_) | split | (dsimp only))
theorem pl_Op_floatCmp (P : Program) : ∀ x0 x1 x2 x3, Pl P T1 (@Go.Op.floatCmp x0 x1 x2 x3) := by
  intros
  unfold Go.Op.floatCmp
  repeat' (first | exact trivial | assumption | intro _ | with_reducible exact pl_stuck P _ _ | refine pl_ite ?_ ?_ | refine pl_bind ?_ (fun _ => ?_) | refine pl_bind0 ?_ (fun _ => ?_) | refine pl_map ?_ | exact ⟨trivial, fun _ => trivial⟩ | exact ⟨trivial, trivial⟩ | exact ⟨rfl, trivial⟩ | refine pl_forIn_array _ _ (fun _ _ => ?_) | refine pl_forIn_range _ _ (fun _ _ => ?_) | refine pl_forIn_listp _ _ (fun _ _ => ?_) | refine pl_mapM_array _ (fun _ => ?_) | refine pl_foldlM' _ _ (fun _ _ => ?_) | split | (dsimp only))
theorem pl_Op_Complex_add (P : Program) : ∀ x0 x1, Pl P T1 (@Go.Op.Complex.add x0 x1) := by
  intros
  unfold Go.Op.Complex.add
  repeat' (first | exact trivial | assumption | intro _ | with_reducible exact pl_Op_Complex_arith P _ _ _ _ | refine pl_ite ?_ ?_ | refine pl_bind ?_ (fun _ => ?_) | refine pl_bind0 ?_ (fun _ => ?_) | refine pl_map ?_ | exact ⟨trivial, fun _ => trivial⟩ | exact ⟨trivial, trivial⟩ | exact ⟨rfl, trivial⟩ | refine pl_forIn_array _ _ (fun _ _ => ?_) | refine pl_forIn_range _ _ (fun _ _ => ?_) | refine pl_forIn_listp _ _ (fun _ _ => ?_) | refine pl_mapM_array _ (fun _ => ?_) | refine pl_foldlM' _ _ (fun _ _ => ?_) | split | (dsimp only))
theorem pl_Op_Complex_product (P : Program) : ∀ x0 x1 x2 x3, Pl P T1 (@Go.Op.Complex.product x0 x1 x2 x3) := by
  intros
  unfold Go.Op.Complex.product
  repeat' (first | exact trivial | assumption | intro _ | with_reducible exact pl_Op_Complex_mul P _ _ | with_reducible exact pl_Op_Complex_sub P _ _ | with_reducible exact pl_Op_Complex_add P _ _ | refine pl_ite ?_ ?_ | refine pl_bind ?_ (fun _ => ?_) | refine pl_bind0 ?_ (fun _ => ?_) | refine pl_map ?_ | exact ⟨trivial, fun _ => trivial⟩ | exact ⟨trivial, trivial⟩ | exact ⟨rfl, trivial⟩ | refine pl_forIn_array _ _ (fun _ _ => ?_) | refine pl_forIn_range _ _ (fun _ _ => ?_) | refine pl_forIn_listp _ _ (fun _ _ => ?_) | refine pl_mapM_array _ (fun _ => ?_) | refine pl_foldlM' _ _ (fun _ _ => ?_) | split | (dsimp only))
theorem pl_Op_Complex_cmp (P : Program) : ∀ x0 x1 x2 x3, Pl P T1 (@Go.Op.Complex.cmp x0 x1 x2 x3) := by
  intros
  unfold Go.Op.Complex.cmp
  repeat' (first | exact trivial | assumption | intro _ | with_reducible exact pl_Op_floatCmp P _ _ _ _ | with_reducible exact pl_asBool P _ | refine pl_ite ?_ ?_ | refine pl_bind ?_ (fun _ => ?_) | refine pl_bind0 ?_ (fun _ => ?_) | refine pl_map ?_ | exact ⟨trivial, fun _ => trivial⟩ | exact ⟨trivial, trivial⟩ | exact ⟨rfl, trivial⟩ | refine pl_forIn_array _ _ (fun _ _ => ?_) | refine pl_forIn_range _ _ (fun _ _ => ?_) | refine pl_forIn_listp _ _ (fun _ _ => ?_) | refine pl_mapM_array _ (fun _ => ?_) | refine pl_foldlM' _ _ (fun _ _ => ?_) | split | (dsimp only))
theorem pl_Op_Complex_corrected (P : Program) : ∀ x0 x1 x2 x3 x4, Pl P T1 (@Go.Op.Complex.corrected x0 x1 x2 x3 x4) := by
  intros
  unfold Go.Op.Complex.corrected
  repeat' (first | exact trivial | assumption | intro _ | with_reducible exact pl_Op_Complex_mul P _ _ | with_reducible exact pl_Op_Complex_add P _ _ | with_reducible exact pl_Op_Complex_sub P _ _ | refine pl_ite ?_ ?_ | refine pl_bind ?_ (fun _ => ?_) | refine pl_bind0 ?_ (fun _ => ?_) | refine pl_map ?_ | exact ⟨trivial, fun _ => trivial⟩ | exact ⟨trivial, trivial⟩ | exact ⟨rfl, trivial⟩ | refine pl_forIn_array _ _ (fun _ _ => ?_) | refine pl_forIn_range _ _ (fun _ _ => ?_) | refine pl_forIn_listp _ _ (fun _ _ => ?_) | refine pl_mapM_array _ (fun _ => ?_) | refine pl_foldlM' _ _ (fun _ _ => ?_) | split | (dsimp only))
theorem pl_Op_Complex_quo (P : Program) : ∀ x0 x1, Pl P T1 (@Go.Op.Complex.quo x0 x1) := by
  intros
  unfold Go.Op.Complex.quo
  repeat' (first | exact trivial | assumption | intro _ | with_reducible exact pl_Op_Complex_arith P _ _ _ _ | refine pl_ite ?_ ?_ | refine pl_bind ?_ (fun _ => ?_) | refine pl_bind0 ?_ (fun _ => ?_) | refine pl_map ?_ | exact ⟨trivial, fun _ => trivial⟩ | exact ⟨trivial, trivial⟩ | exact ⟨rfl, trivial⟩ | refine pl_forIn_array _ _ (fun _ _ => ?_) | refine pl_forIn_range _ _ (fun _ _ => ?_) | refine pl_forIn_listp _ _ (fun _ _ => ?_) | refine pl_mapM_array _ (fun _ => ?_) | refine pl_foldlM' _ _ (fun _ _ => ?_) | split | (dsimp only))
theorem pl_Op_Complex_quotient (P : Program) : ∀ x0 x1 x2 x3, Pl P T1 (@Go.Op.Complex.quotient x0 x1 x2 x3) := by
  intros
  unfold Go.Op.Complex.quotient
  repeat' (first | exact trivial | assumption | intro _ | with_reducible exact pl_Op_Complex_cmp P _ _ _ _ | with_reducible exact pl_Op_Complex_mul P _ _ | with_reducible exact pl_Op_Complex_corrected P _ _ _ _ _ | with_reducible exact pl_Op_Complex_quo P _ _ | with_reducible exact pl_Op_Complex_add P _ _ | with_reducible exact pl_Op_Complex_sub P _ _ | refine pl_ite ?_ ?_ | refine pl_bind ?_ (fun _ => ?_) | refine pl_bind0 ?_ (fun _ => ?_) | refine pl_map ?_ | exact ⟨trivial, fun _ => trivial⟩ | exact ⟨trivial, trivial⟩ | exact ⟨rfl, trivial⟩ | refine pl_forIn_array _ _ (fun _ _ => ?_) | refine pl_forIn_range _ _ (fun _ _ => ?_) | refine pl_forIn_listp _ _ (fun _ _ => ?_) | refine pl_mapM_array _ (fun _ => ?_) | refine pl_foldlM' _ _ (fun _ _ => ?_) | split | (dsimp only))
theorem pl_Op_complexOp (P : Program) : ∀ x0 x1 x2 x3 x4 x5, Pl P T1 (@Go.Op.complexOp x0 x1 x2 x3 x4 x5) := by
  intros
  unfold Go.Op.complexOp
  repeat' (first | exact trivial | assumption | intro _ | with_reducible exact pl_Op_Complex_arith P _ _ _ _ | with_reducible exact pl_Op_Complex_conv P _ _ _ | with_reducible exact pl_Op_Complex_product P _ _ _ _ | with_reducible exact pl_Op_Complex_quotient P _ _ _ _ | with_reducible exact pl_Op_Complex_cmp P _ _ _ _ | with_reducible exact pl_stuck P _ _ | refine pl_ite ?_ ?_ | refine pl_bind ?_ (fun _ => ?_) | refine pl_bind0 ?_ (fun _ => ?_) | refine pl_map ?_ | exact ⟨trivial, fun _ => trivial⟩ | exact ⟨trivial, trivial⟩ | exact ⟨rfl, trivial⟩ | refine pl_forIn_array _ _ (fun _ _ => ?_) | refine pl_forIn_range _ _ (fun _ _ => ?_) | refine pl_forIn_listp _ _ (fun _ _ => ?_) | refine pl_mapM_array _ (fun _ => ?_) | refine pl_foldlM' _ _ (fun _ _ => ?_) | split | (dsimp only))
theorem pl_movedPointer (P : Program) : ∀ x0 x1 x2, Pl P T1 (@Go.movedPointer x0 x1 x2) := by
  intros
  unfold Go.movedPointer
  repeat' (first | exact trivial | assumption | intro _ | with_reducible exact pl_Builtin_unsafeAdd_ P _ _ _ | with_reducible exact pl_numberAt P _ | ((with_reducible refine pl_unsupported P _ _ ?_) <;> exact trivial) | refine pl_ite ?_ ?_ | refine pl_bind ?_ (fun _ => ?_) | refine pl_bind0 ?_ (fun _ => ?_) | refine pl_map ?_ | exact ⟨trivial, fun _ => trivial⟩ | exact ⟨trivial, trivial⟩ | exact ⟨rfl, trivial⟩ | refine pl_forIn_array _ _ (fun _ _ => ?_) | refine pl_forIn_range _ _ (fun _ _ => ?_) | refine pl_forIn_listp _ _ (fun _ _ => ?_) | refine pl_mapM_array _ (fun _ => ?_) | refine pl_foldlM' _ _ (fun _ _ => ?_) | split | (dsimp only))
theorem pl_movedNumber (P : Program) : ∀ x0 x1 x2, Pl P T1 (@Go.movedNumber x0 x1 x2) := by
  intros
  unfold Go.movedNumber
  repeat' (first | exact trivial | assumption | intro _ | with_reducible exact pl_underlying P _ | with_reducible exact pl_behindNumber P _ | with_reducible exact pl_Builtin_unsafeAdd_ P _ _ _ | with_reducible exact pl_asNumber P _ _ | ((with_reducible refine pl_unsupported P _ _ ?_) <;> exact trivial) | refine pl_ite ?_ ?_ | refine pl_bind ?_ (fun _ => ?_) | refine pl_bind0 ?_ (fun _ => ?_) | refine pl_map ?_ | exact ⟨trivial, fun _ => trivial⟩ | exact ⟨trivial, trivial⟩ | exact ⟨rfl, trivial⟩ | refine pl_forIn_array _ _ (fun _ _ => ?_) | refine pl_forIn_range _ _ (fun _ _ => ?_) | refine pl_forIn_listp _ _ (fun _ _ => ?_) | refine pl_mapM_array _ (fun _ => ?_) | refine pl_foldlM' _ _ (fun _ _ => ?_) | split | (dsimp only))
theorem pl_Op_twoPlaces (P : Program) : ∀ x0 x1, Pl P T1 (@Go.Op.twoPlaces x0 x1) := by
  intros
  unfold Go.Op.twoPlaces
  repeat' (first | exact trivial | assumption | intro _ | with_reducible exact pl_program P | with_reducible exact pl_byteOf P _ | ((with_reducible refine pl_unsupported P _ _ ?_) <;> exact trivial) | refine pl_ite ?_ ?_ | refine pl_bind ?_ (fun _ => ?_) | refine pl_bind0 ?_ (fun _ => ?_) | refine pl_map ?_ | exact ⟨trivial, fun _ => trivial⟩ | exact ⟨trivial, trivial⟩ | exact ⟨rfl, trivial⟩ | refine pl_forIn_array _ _ (fun _ _ => ?_) | refine pl_forIn_range _ _ (fun _ _ => ?_) | refine pl_forIn_listp _ _ (fun _ _ => ?_) | refine pl_mapM_array _ (fun _ => ?_) | refine pl_foldlM' _ _ (fun _ _ => ?_) | split | (dsimp only))
theorem pl_Op_addrSub (P : Program) : ∀ x0 x1 x2, Pl P T1 (@Go.Op.addrSub x0 x1 x2) := by
  intros
  unfold Go.Op.addrSub
  repeat' (first | exact trivial | assumption | intro _ | with_reducible exact pl_Op_twoPlaces P _ _ | refine pl_ite ?_ ?_ | refine pl_bind ?_ (fun _ => ?_) | refine pl_bind0 ?_ (fun _ => ?_) | refine pl_map ?_ | exact ⟨trivial, fun _ => trivial⟩ | exact ⟨trivial, trivial⟩ | exact ⟨rfl, trivial⟩ | refine pl_forIn_array _ _ (fun _ _ => ?_) | refine pl_forIn_range _ _ (fun _ _ => ?_) | refine pl_forIn_listp _ _ (fun _ _ => ?_) | refine pl_mapM_array _ (fun _ => ?_) | refine pl_foldlM' _ _ (fun _ _ => ?_) | split | (dsimp only))
theorem pl_Op_addrCmp (P : Program) : ∀ x0 x1 x2, Pl P T1 (@Go.Op.addrCmp x0 x1 x2) := by
  intros
  unfold Go.Op.addrCmp
  repeat' (first | exact trivial | assumption | intro _ | with_reducible exact pl_Op_twoPlaces P _ _ | ((with_reducible refine pl_unsupported P _ _ ?_) <;> exact trivial) | refine pl_ite ?_ ?_ | refine pl_bind ?_ (fun _ => ?_) | refine pl_bind0 ?_ (fun _ => ?_) | refine pl_map ?_ | exact ⟨trivial, fun _ => trivial⟩ | exact ⟨trivial, trivial⟩ | exact ⟨rfl, trivial⟩ | refine pl_forIn_array _ _ (fun _ _ => ?_) | refine pl_forIn_range _ _ (fun _ _ => ?_) | refine pl_forIn_listp _ _ (fun _ _ => ?_) | refine pl_mapM_array _ (fun _ => ?_) | refine pl_foldlM' _ _ (fun _ _ => ?_) | split | (dsimp only))
theorem pl_Op_addrMod (P : Program) : ∀ x0 x1 x2, Pl P T1 (@Go.Op.addrMod x0 x1 x2) := by
  intros
  unfold Go.Op.addrMod
  repeat' (first | exact trivial | assumption | intro _ | with_reducible exact pl_shape P _ | with_reducible exact pl_typeInfo P _ | with_reducible exact pl_byteOf P _ | ((with_reducible refine pl_unsupported P _ _ ?_) <;> exact trivial) | refine pl_ite ?_ ?_ | refine pl_bind ?_ (fun _ => ?_) | refine pl_bind0 ?_ (fun _ => ?_) | refine pl_map ?_ | exact ⟨trivial, fun _ => trivial⟩ | exact ⟨trivial, trivial⟩ | exact ⟨rfl, trivial⟩ | refine pl_forIn_array _ _ (fun _ _ => ?_) | refine pl_forIn_range _ _ (fun _ _ => ?_) | refine pl_forIn_listp _ _ (fun _ _ => ?_) | refine pl_mapM_array _ (fun _ => ?_) | refine pl_foldlM' _ _ (fun _ _ => ?_) | split | (dsimp only))
theorem pl_binOp (P : Program) : ∀ x0 x1 x2 x3, Pl P T1 (@Go.binOp x0 x1 x2 x3) := by
  intros
  unfold Go.binOp
  repeat' (first | exact trivial | assumption | intro _ | with_reducible exact pl_Op_shift P _ _ _ _ _ | with_reducible exact pl_stuck P _ _ | with_reducible exact pl_Op_intArith P _ _ _ _ | with_reducible exact pl_Op_intDiv P _ _ _ _ | with_reducible exact pl_Op_intBits P _ _ _ _ | with_reducible exact pl_Op_intCmp P _ _ _ | with_reducible exact pl_Op_floatArith P _ _ _ _ | with_reducible exact pl_Op_floatCmp P _ _ _ _ | with_reducible exact pl_Op_complexOp P _ _ _ _ _ _ | with_reducible exact pl_Op_stringOp P _ _ _ | with_reducible exact pl_Op_equal P _ _ _ | with_reducible exact pl_underlying P _ | with_reducible exact pl_movedPointer P _ _ _ | with_reducible exact pl_movedNumber P _ _ _ | with_reducible exact pl_behindNumber P _ | with_reducible exact pl_Op_addrSub P _ _ _ | with_reducible exact pl_Op_addrCmp P _ _ _ | with_reducible exact pl_Op_addrMod P _ _ _ | ((with_reducible refine pl_unsupported P _ _ ?_) <;> exact trivial) | with_reducible exact pl_byteOf P _ | refine pl_ite ?_ ?_ | refine pl_bind ?_ (fun _ => ?_) | refine pl_bind0 ?_ (fun _ => ?_) | refine pl_map ?_ | exact ⟨trivial, fun _ => trivial⟩ | exact ⟨trivial, trivial⟩ | exact ⟨rfl, trivial⟩ | refine pl_forIn_array _ _ (fun _ _ => ?_) | refine pl_forIn_range _ _ (fun _ _ => ?_) | refine pl_forIn_listp _ _ (fun _ _ => ?_) | refine pl_mapM_array _ (fun _ => ?_) | refine pl_foldlM' _ _ (fun _ _ => ?_) | split | (dsimp only))
theorem pl_Op_unary (P : Program) : ∀ x0 x1, Pl P T1 (@Go.Op.unary x0 x1) := by
  intros
  unfold Go.Op.unary
  repeat' (first | exact trivial | assumption | intro _ | with_reducible exact pl_Op_intArith P _ _ _ _ | with_reducible exact pl_Op_intBits P _ _ _ _ | ((with_reducible refine pl_unsupported P _ _ ?_) <;> exact trivial) | with_reducible exact pl_stuck P _ _ | refine pl_ite ?_ ?_ | refine pl_bind ?_ (fun _ => ?_) | refine pl_bind0 ?_ (fun _ => ?_) | refine pl_map ?_ | exact ⟨trivial, fun _ => trivial⟩ | exact ⟨trivial, trivial⟩ | exact ⟨rfl, trivial⟩ | refine pl_forIn_array _ _ (fun _ _ => ?_) | refine pl_forIn_range _ _ (fun _ _ => ?_) | refine pl_forIn_listp _ _ (fun _ _ => ?_) | refine pl_mapM_array _ (fun _ => ?_) | refine pl_foldlM' _ _ (fun _ _ => ?_) | split | (dsimp only))
theorem pl_Conv_intToInt (P : Program) : ∀ x0 x1, Pl P T1 (@Go.Conv.intToInt x0 x1) := by
  intros
  unfold Go.Conv.intToInt
  repeat' (first | exact trivial | assumption | intro _ | refine pl_ite ?_ ?_ | refine pl_bind ?_ (fun _ => ?_) | refine pl_bind0 ?_ (fun _ => ?_) | refine pl_map ?_ | exact ⟨trivial, fun _ => trivial⟩ | exact ⟨trivial, trivial⟩ | exact ⟨rfl, trivial⟩ | refine pl_forIn_array _ _ (fun _ _ => ?_) | refine pl_forIn_range _ _ (fun _ _ => ?_) | refine pl_forIn_listp _ _ (fun _ _ => ?_) | refine pl_mapM_array _ (fun _ => ?_) | refine pl_foldlM' _ _ (fun _ _ => ?_) | split | (dsimp only))
theorem pl_Conv_intToFloat (P : Program) : ∀ x0 x1, Pl P T1 (@Go.Conv.intToFloat x0 x1) := by
  intros
  unfold Go.Conv.intToFloat
  repeat' (first | exact trivial | assumption | intro _ | refine pl_ite ?_ ?_ | refine pl_bind ?_ (fun _ => ?_) | refine pl_bind0 ?_ (fun _ => ?_) | refine pl_map ?_ | exact ⟨trivial, fun _ => trivial⟩ | exact ⟨trivial, trivial⟩ | exact ⟨rfl, trivial⟩ | refine pl_forIn_array _ _ (fun _ _ => ?_) | refine pl_forIn_range _ _ (fun _ _ => ?_) | refine pl_forIn_listp _ _ (fun _ _ => ?_) | refine pl_mapM_array _ (fun _ => ?_) | refine pl_foldlM' _ _ (fun _ _ => ?_) | split | (dsimp only))
theorem pl_Conv_floatToInt (P : Program) : ∀ x0 x1 x2, Pl P T1 (@Go.Conv.floatToInt x0 x1 x2) := by
  intros
  unfold Go.Conv.floatToInt
  repeat' (first | exact trivial | assumption | intro _ | with_reducible exact pl_choose P _ | refine pl_ite ?_ ?_ | refine pl_bind ?_ (fun _ => ?_) | refine pl_bind0 ?_ (fun _ => ?_) | refine pl_map ?_ | exact ⟨trivial, fun _ => trivial⟩ | exact ⟨trivial, trivial⟩ | exact ⟨rfl, trivial⟩ | refine pl_forIn_array _ _ (fun _ _ => ?_) | refine pl_forIn_range _ _ (fun _ _ => ?_) | refine pl_forIn_listp _ _ (fun _ _ => ?_) | refine pl_mapM_array _ (fun _ => ?_) | refine pl_foldlM' _ _ (fun _ _ => ?_) | split | (dsimp only))
theorem pl_Conv_complexToComplex (P : Program) : ∀ x0 x1 x2 x3, Pl P T1 (@Go.Conv.complexToComplex x0 x1 x2 x3) := by
  intros
  unfold Go.Conv.complexToComplex
  repeat' (first | exact trivial | assumption | intro _ | with_reducible exact pl_Conv_floatToFloat P _ _ _ | with_reducible exact pl_stuck P _ _ | refine pl_ite ?_ ?_ | refine pl_bind ?_ (fun _ => ?_) | refine pl_bind0 ?_ (fun _ => ?_) | refine pl_map ?_ | exact ⟨trivial, fun _ => trivial⟩ | exact ⟨trivial, trivial⟩ | exact ⟨rfl, trivial⟩ | refine pl_forIn_array _ _ (fun _ _ => ?_) | refine pl_forIn_range _ _ (fun _ _ => ?_) | refine pl_forIn_listp _ _ (fun _ _ => ?_) | refine pl_mapM_array _ (fun _ => ?_) | refine pl_foldlM' _ _ (fun _ _ => ?_) | split | (dsimp only))
theorem pl_Conv_intToString (P : Program) : ∀ x0, Pl P T1 (@Go.Conv.intToString x0) := by
  intros
  unfold Go.Conv.intToString
  repeat' (first | exact trivial | assumption | intro _ | refine pl_ite ?_ ?_ | refine pl_bind ?_ (fun _ => ?_) | refine pl_bind0 ?_ (fun _ => ?_) | refine pl_map ?_ | exact ⟨trivial, fun _ => trivial⟩ | exact ⟨trivial, trivial⟩ | exact ⟨rfl, trivial⟩ | refine pl_forIn_array _ _ (fun _ _ => ?_) | refine pl_forIn_range _ _ (fun _ _ => ?_) | refine pl_forIn_listp _ _ (fun _ _ => ?_) | refine pl_mapM_array _ (fun _ => ?_) | refine pl_foldlM' _ _ (fun _ _ => ?_) | split | (dsimp only))
theorem pl_Conv_bytesToString (P : Program) : ∀ x0, Pl P T1 (@Go.Conv.bytesToString x0) := by
  intros
  unfold Go.Conv.bytesToString
  repeat' (first | exact trivial | assumption | intro _ | with_reducible exact pl_loadCells P _ _ | with_reducible exact pl_stuck P _ _ | refine pl_ite ?_ ?_ | refine pl_bind ?_ (fun _ => ?_) | refine pl_bind0 ?_ (fun _ => ?_) | refine pl_map ?_ | exact ⟨trivial, fun _ => trivial⟩ | exact ⟨trivial, trivial⟩ | exact ⟨rfl, trivial⟩ | refine pl_forIn_array _ _ (fun _ _ => ?_) | refine pl_forIn_range _ _ (fun _ _ => ?_) | refine pl_forIn_listp _ _ (fun _ _ => ?_) | refine pl_mapM_array _ (fun _ => ?_) | refine pl_foldlM' _ _ (fun _ _ => ?_) | split | (dsimp only))
theorem pl_Conv_runesToString (P : Program) : ∀ x0, Pl P T1 (@Go.Conv.runesToString x0) := by
  intros
  unfold Go.Conv.runesToString
  repeat' (first | exact trivial | assumption | intro _ | with_reducible exact pl_loadCells P _ _ | with_reducible exact pl_stuck P _ _ | refine pl_ite ?_ ?_ | refine pl_bind ?_ (fun _ => ?_) | refine pl_bind0 ?_ (fun _ => ?_) | refine pl_map ?_ | exact ⟨trivial, fun _ => trivial⟩ | exact ⟨trivial, trivial⟩ | exact ⟨rfl, trivial⟩ | refine pl_forIn_array _ _ (fun _ _ => ?_) | refine pl_forIn_range _ _ (fun _ _ => ?_) | refine pl_forIn_listp _ _ (fun _ _ => ?_) | refine pl_mapM_array _ (fun _ => ?_) | refine pl_foldlM' _ _ (fun _ _ => ?_) | split | (dsimp only))
theorem pl_Conv_seenAt (P : Program) : ∀ x0, Pl P T1 (@Go.Conv.seenAt x0) := by
  intros
  unfold Go.Conv.seenAt
  repeat' (first | exact trivial | assumption | intro _ | with_reducible exact pl_viewAt P _ | ((with_reducible refine pl_unsupported P _ _ ?_) <;> exact trivial) | with_reducible exact pl_program P | with_reducible exact pl_shape P _ | refine pl_ite ?_ ?_ | refine pl_bind ?_ (fun _ => ?_) | refine pl_bind0 ?_ (fun _ => ?_) | refine pl_map ?_ | exact ⟨trivial, fun _ => trivial⟩ | exact ⟨trivial, trivial⟩ | exact ⟨rfl, trivial⟩ | refine pl_forIn_array _ _ (fun _ _ => ?_) | refine pl_forIn_range _ _ (fun _ _ => ?_) | refine pl_forIn_listp _ _ (fun _ _ => ?_) | refine pl_mapM_array _ (fun _ => ?_) | refine pl_foldlM' _ _ (fun _ _ => ?_) | split | (dsimp only))
theorem pl_Conv_unsafePointer (P : Program) : ∀ x0 x1 x2, Pl P T1 (@Go.Conv.unsafePointer x0 x1 x2) := by
  intros
  unfold Go.Conv.unsafePointer
  repeat' (first | exact trivial | assumption | intro _ | with_reducible exact pl_underlying P _ | with_reducible exact pl_Conv_seenAt P _ | with_reducible exact pl_cellsIn P _ | with_reducible exact pl_sizeOf P _ | ((with_reducible refine pl_newObj P _ ?_) <;> exact trivial) | with_reducible exact pl_variablesAt P _ _ _ | with_reducible exact pl_shape P _ | with_reducible exact pl_program P | ((with_reducible refine pl_unsupported P _ _ ?_) <;> exact trivial) | with_reducible exact pl_asNumber P _ _ | with_reducible exact pl_stuck P _ _ | refine pl_ite ?_ ?_ | refine pl_bind ?_ (fun _ => ?_) | refine pl_bind0 ?_ (fun _ => ?_) | refine pl_map ?_ | exact ⟨trivial, fun _ => trivial⟩ | exact ⟨trivial, trivial⟩ | exact ⟨rfl, trivial⟩ | refine pl_forIn_array _ _ (fun _ _ => ?_) | refine pl_forIn_range _ _ (fun _ _ => ?_) | refine pl_forIn_listp _ _ (fun _ _ => ?_) | refine pl_mapM_array _ (fun _ => ?_) | refine pl_foldlM' _ _ (fun _ _ => ?_) | split | (dsimp only))
theorem pl_convert (P : Program) : ∀ x0 x1 x2, Pl P T1 (@Go.convert x0 x1 x2) := by
  intros
  unfold Go.convert
  repeat' (first | exact trivial | assumption | intro _ | with_reducible exact pl_underlying P _ | with_reducible exact pl_Conv_intToInt P _ _ | with_reducible exact pl_Conv_intToFloat P _ _ | with_reducible exact pl_Conv_floatToInt P _ _ _ | with_reducible exact pl_Conv_floatToFloat P _ _ _ | with_reducible exact pl_Conv_complexToComplex P _ _ _ _ | with_reducible exact pl_Conv_intToString P _ | with_reducible exact pl_Conv_stringToBytes P _ _ | with_reducible exact pl_Conv_stringToRunes P _ _ | with_reducible exact pl_stuck P _ _ | with_reducible exact pl_markStringish P _ | ((with_reducible refine pl_unsupported P _ _ ?_) <;> exact trivial) | with_reducible exact pl_Conv_bytesToString P _ | with_reducible exact pl_Conv_runesToString P _ | with_reducible exact pl_Conv_unsafePointer P _ _ _ | refine pl_ite ?_ ?_ | refine pl_bind ?_ (fun _ => ?_) | refine pl_bind0 ?_ (fun _ => ?_) | refine pl_map ?_ | exact ⟨trivial, fun _ => trivial⟩ | exact ⟨trivial, trivial⟩ | exact ⟨rfl, trivial⟩ | refine pl_forIn_array _ _ (fun _ _ => ?_) | refine pl_forIn_range _ _ (fun _ _ => ?_) | refine pl_forIn_listp _ _ (fun _ _ => ?_) | refine pl_mapM_array _ (fun _ => ?_) | refine pl_foldlM' _ _ (fun _ _ => ?_) | split | (dsimp only))
theorem pl_Instr_arrayAt (P : Program) : ∀ x0 x1, Pl P T1 (@Go.Instr.arrayAt x0 x1) := by
  intros
  unfold Go.Instr.arrayAt
  repeat' (first | exact trivial | assumption | intro _ | with_reducible exact pl_underlying P _ | with_reducible exact pl_runtimePanic P _ _ | with_reducible exact pl_stuck P _ _ | refine pl_ite ?_ ?_ | refine pl_bind ?_ (fun _ => ?_) | refine pl_bind0 ?_ (fun _ => ?_) | refine pl_map ?_ | exact ⟨trivial, fun _ => trivial⟩ | exact ⟨trivial, trivial⟩ | exact ⟨rfl, trivial⟩ | refine pl_forIn_array _ _ (fun _ _ => ?_) | refine pl_forIn_range _ _ (fun _ _ => ?_) | refine pl_forIn_listp _ _ (fun _ _ => ?_) | refine pl_mapM_array _ (fun _ => ?_) | refine pl_foldlM' _ _ (fun _ _ => ?_) | split | (dsimp only))
theorem pl_Instr_makeFunc (P : Program) : ∀ x0 x1 x2, Pl P T1 (@Go.Instr.makeFunc x0 x1 x2) := by
  intros
  unfold Go.Instr.makeFunc
  repeat' (first | exact trivial | assumption | intro _ | refine pl_ite ?_ ?_ | refine pl_bind ?_ (fun _ => ?_) | refine pl_bind0 ?_ (fun _ => ?_) | refine pl_map ?_ | exact ⟨trivial, fun _ => trivial⟩ | exact ⟨trivial, trivial⟩ | exact ⟨rfl, trivial⟩ | refine pl_forIn_array _ _ (fun _ _ => ?_) | refine pl_forIn_range _ _ (fun _ _ => ?_) | refine pl_forIn_listp _ _ (fun _ _ => ?_) | refine pl_mapM_array _ (fun _ => ?_) | refine pl_foldlM' _ _ (fun _ _ => ?_) | split | (dsimp only))
theorem pl_Instr_makeMap (P : Program) : ∀ x0 x1, Pl P T1 (@Go.Instr.makeMap x0 x1) := by
  intros
  unfold Go.Instr.makeMap
  repeat' (first | exact trivial | assumption | intro _ | ((with_reducible refine pl_newObj P _ ?_) <;> exact trivial) | with_reducible exact pl_underlying P _ | with_reducible exact pl_asInt P _ | with_reducible exact pl_stuck P _ _ | refine pl_ite ?_ ?_ | refine pl_bind ?_ (fun _ => ?_) | refine pl_bind0 ?_ (fun _ => ?_) | refine pl_map ?_ | exact ⟨trivial, fun _ => trivial⟩ | exact ⟨trivial, trivial⟩ | exact ⟨rfl, trivial⟩ | refine pl_forIn_array _ _ (fun _ _ => ?_) | refine pl_forIn_range _ _ (fun _ _ => ?_) | refine pl_forIn_listp _ _ (fun _ _ => ?_) | refine pl_mapM_array _ (fun _ => ?_) | refine pl_foldlM' _ _ (fun _ _ => ?_) | split | (dsimp only))
theorem pl_Instr_makeChan (P : Program) : ∀ x0 x1, Pl P T1 (@Go.Instr.makeChan x0 x1) := by
  intros
  unfold Go.Instr.makeChan
  repeat' (first | exact trivial | assumption | intro _ | with_reducible exact pl_asInt P _ | with_reducible exact pl_underlying P _ | with_reducible exact pl_typeInfo P _ | ((with_reducible refine pl_newObj P _ ?_) <;> exact trivial) | with_reducible exact pl_runtimePanic P _ _ | with_reducible exact pl_stuck P _ _ | refine pl_ite ?_ ?_ | refine pl_bind ?_ (fun _ => ?_) | refine pl_bind0 ?_ (fun _ => ?_) | refine pl_map ?_ | exact ⟨trivial, fun _ => trivial⟩ | exact ⟨trivial, trivial⟩ | exact ⟨rfl, trivial⟩ | refine pl_forIn_array _ _ (fun _ _ => ?_) | refine pl_forIn_range _ _ (fun _ _ => ?_) | refine pl_forIn_listp _ _ (fun _ _ => ?_) | refine pl_mapM_array _ (fun _ => ?_) | refine pl_foldlM' _ _ (fun _ _ => ?_) | split | (dsimp only))
theorem pl_askRoom (P : Program) : ∀ x0, Pl P T1 (@Go.askRoom x0) := by
  intro x0
  unfold Go.askRoom
  exact pl_ite ⟨rfl, trivial⟩ trivial

theorem pl_Instr_makeSlice (P : Program) : ∀ x0 x1 x2, Pl P T1 (@Go.Instr.makeSlice x0 x1 x2) := by
  intros
  unfold Go.Instr.makeSlice
  repeat' (first | exact trivial | assumption | intro _ | with_reducible exact pl_underlying P _ | with_reducible exact pl_asInt P _ | with_reducible exact pl_typeInfo P _ | with_reducible exact pl_askRoom P _ | with_reducible exact pl_sizeOf P _ | with_reducible exact pl_newRow P _ _ | with_reducible exact pl_zeroValue P _ | with_reducible exact pl_runtimePanic P _ _ | with_reducible exact pl_choose P _ | with_reducible exact pl_stuck P _ _ | refine pl_ite ?_ ?_ | refine pl_bind ?_ (fun _ => ?_) | refine pl_bind0 ?_ (fun _ => ?_) | refine pl_map ?_ | exact ⟨trivial, fun _ => trivial⟩ | exact ⟨trivial, trivial⟩ | exact ⟨rfl, trivial⟩ | refine pl_forIn_array _ _ (fun _ _ => ?_) | refine pl_forIn_range _ _ (fun _ _ => ?_) | refine pl_forIn_listp _ _ (fun _ _ => ?_) | refine pl_mapM_array _ (fun _ => ?_) | refine pl_foldlM' _ _ (fun _ _ => ?_) | split | (dsimp only))
theorem pl_Instr_fieldAt (P : Program) : ∀ x0 x1 x2, Pl P T1 (@Go.Instr.fieldAt x0 x1 x2) := by
  intros
  unfold Go.Instr.fieldAt
  repeat' (first | exact trivial | assumption | intro _ | with_reducible exact pl_underlying P _ | with_reducible exact pl_Instr_sureAddr P _ | with_reducible exact pl_fieldPlace P _ _ | with_reducible exact pl_stuck P _ _ | refine pl_ite ?_ ?_ | refine pl_bind ?_ (fun _ => ?_) | refine pl_bind0 ?_ (fun _ => ?_) | refine pl_map ?_ | exact ⟨trivial, fun _ => trivial⟩ | exact ⟨trivial, trivial⟩ | exact ⟨rfl, trivial⟩ | refine pl_forIn_array _ _ (fun _ _ => ?_) | refine pl_forIn_range _ _ (fun _ _ => ?_) | refine pl_forIn_listp _ _ (fun _ _ => ?_) | refine pl_mapM_array _ (fun _ => ?_) | refine pl_foldlM' _ _ (fun _ _ => ?_) | split | (dsimp only))
theorem pl_asAgg (P : Program) : ∀ x0, Pl P T1 (@Go.asAgg x0) := by
  intros
  unfold Go.asAgg
  repeat' (first | exact trivial | assumption | intro _ | with_reducible exact pl_stuck P _ _ | refine pl_ite ?_ ?_ | refine pl_bind ?_ (fun _ => ?_) | refine pl_bind0 ?_ (fun _ => ?_) | refine pl_map ?_ | exact ⟨trivial, fun _ => trivial⟩ | exact ⟨trivial, trivial⟩ | exact ⟨rfl, trivial⟩ | refine pl_forIn_array _ _ (fun _ _ => ?_) | refine pl_forIn_range _ _ (fun _ _ => ?_) | refine pl_forIn_listp _ _ (fun _ _ => ?_) | refine pl_mapM_array _ (fun _ => ?_) | refine pl_foldlM' _ _ (fun _ _ => ?_) | split | (dsimp only))
theorem pl_Instr_field (P : Program) : ∀ x0 x1 x2, Pl P T1 (@Go.Instr.field x0 x1 x2) := by
  intros
  unfold Go.Instr.field
  repeat' (first | exact trivial | assumption | intro _ | with_reducible exact pl_underlying P _ | with_reducible exact pl_asAgg P _ | with_reducible exact pl_part P _ _ _ | with_reducible exact pl_stuck P _ _ | refine pl_ite ?_ ?_ | refine pl_bind ?_ (fun _ => ?_) | refine pl_bind0 ?_ (fun _ => ?_) | refine pl_map ?_ | exact ⟨trivial, fun _ => trivial⟩ | exact ⟨trivial, trivial⟩ | exact ⟨rfl, trivial⟩ | refine pl_forIn_array _ _ (fun _ _ => ?_) | refine pl_forIn_range _ _ (fun _ _ => ?_) | refine pl_forIn_listp _ _ (fun _ _ => ?_) | refine pl_mapM_array _ (fun _ => ?_) | refine pl_foldlM' _ _ (fun _ _ => ?_) | split | (dsimp only))
theorem pl_Instr_indexAt (P : Program) : ∀ x0 x1 x2, Pl P T1 (@Go.Instr.indexAt x0 x1 x2) := by
  intros
  unfold Go.Instr.indexAt
  repeat' (first | exact trivial | assumption | intro _ | with_reducible exact pl_asIntOf P _ | with_reducible exact pl_underlying P _ | with_reducible exact pl_sizeOf P _ | ((with_reducible refine pl_unsupported P _ _ ?_) <;> exact trivial) | with_reducible exact pl_boundsPanic P _ _ _ _ _ | with_reducible exact pl_Instr_sureAddr P _ | with_reducible exact pl_stuck P _ _ | refine pl_ite ?_ ?_ | refine pl_bind ?_ (fun _ => ?_) | refine pl_bind0 ?_ (fun _ => ?_) | refine pl_map ?_ | exact ⟨trivial, fun _ => trivial⟩ | exact ⟨trivial, trivial⟩ | exact ⟨rfl, trivial⟩ | refine pl_forIn_array _ _ (fun _ _ => ?_) | refine pl_forIn_range _ _ (fun _ _ => ?_) | refine pl_forIn_listp _ _ (fun _ _ => ?_) | refine pl_mapM_array _ (fun _ => ?_) | refine pl_foldlM' _ _ (fun _ _ => ?_) | split | (dsimp only))
theorem pl_Instr_index (P : Program) : ∀ x0 x1 x2, Pl P T1 (@Go.Instr.index x0 x1 x2) := by
  intros
  unfold Go.Instr.index
  repeat' (first | exact trivial | assumption | intro _ | with_reducible exact pl_asIntOf P _ | with_reducible exact pl_underlying P _ | with_reducible exact pl_sizeOf P _ | with_reducible exact pl_part P _ _ _ | with_reducible exact pl_boundsPanic P _ _ _ _ _ | with_reducible exact pl_stuck P _ _ | refine pl_ite ?_ ?_ | refine pl_bind ?_ (fun _ => ?_) | refine pl_bind0 ?_ (fun _ => ?_) | refine pl_map ?_ | exact ⟨trivial, fun _ => trivial⟩ | exact ⟨trivial, trivial⟩ | exact ⟨rfl, trivial⟩ | refine pl_forIn_array _ _ (fun _ _ => ?_) | refine pl_forIn_range _ _ (fun _ _ => ?_) | refine pl_forIn_listp _ _ (fun _ _ => ?_) | refine pl_mapM_array _ (fun _ => ?_) | refine pl_foldlM' _ _ (fun _ _ => ?_) | split | (dsimp only))
theorem pl_Instr_mapUpdate (P : Program) : ∀ x0 x1 x2 x3, Pl P T1 (@Go.Instr.mapUpdate x0 x1 x2 x3) := by
  intros
  unfold Go.Instr.mapUpdate
  repeat' (first | exact trivial | assumption | intro _ | with_reducible exact pl_underlying P _ | with_reducible exact pl_runtimePanic P _ _ | with_reducible exact pl_getObj P _ | with_reducible exact pl_Instr_checkKey P _ _ _ _ | with_reducible exact pl_Instr_findKey P _ _ _ | with_reducible exact pl_Instr_keyThatStays P _ _ | ((with_reducible refine pl_setObj P _ _ ?_) <;> exact trivial) | with_reducible exact pl_stuck P _ _ | refine pl_ite ?_ ?_ | refine pl_bind ?_ (fun _ => ?_) | refine pl_bind0 ?_ (fun _ => ?_) | refine pl_map ?_ | exact ⟨trivial, fun _ => trivial⟩ | exact ⟨trivial, trivial⟩ | exact ⟨rfl, trivial⟩ | refine pl_forIn_array _ _ (fun _ _ => ?_) | refine pl_forIn_range _ _ (fun _ _ => ?_) | refine pl_forIn_listp _ _ (fun _ _ => ?_) | refine pl_mapM_array _ (fun _ => ?_) | refine pl_foldlM' _ _ (fun _ _ => ?_) | split | (dsimp only))
theorem pl_Instr_next (P : Program) : ∀ x0 x1 x2, Pl P T1 (@Go.Instr.next x0 x1 x2) := by
  intros
  unfold Go.Instr.next
  repeat' (first | exact trivial | assumption | intro _ | with_reducible exact pl_getObj P _ | ((with_reducible refine pl_setObj P _ _ ?_) <;> exact trivial) | with_reducible exact pl_choose P _ | with_reducible exact pl_stuck P _ _ | ((with_reducible refine pl_unsupported P _ _ ?_) <;> exact trivial) | refine pl_ite ?_ ?_ | refine pl_bind ?_ (fun _ => ?_) | refine pl_bind0 ?_ (fun _ => ?_) | refine pl_map ?_ | exact ⟨trivial, fun _ => trivial⟩ | exact ⟨trivial, trivial⟩ | exact ⟨rfl, trivial⟩ | refine pl_forIn_array _ _ (fun _ _ => ?_) | refine pl_forIn_range _ _ (fun _ _ => ?_) | refine pl_forIn_listp _ _ (fun _ _ => ?_) | refine pl_mapM_array _ (fun _ => ?_) | refine pl_foldlM' _ _ (fun _ _ => ?_) | split | (dsimp only))
theorem pl_Instr_entry (P : Program) : ∀ x0, Pl P T1 (@Go.Instr.entry x0) := by
  intros
  unfold Go.Instr.entry
  repeat' (first | exact trivial | assumption | intro _ | with_reducible exact pl_getObj P _ | ((with_reducible refine pl_unsupported P _ _ ?_) <;> exact trivial) | with_reducible exact pl_stuck P _ _ | refine pl_ite ?_ ?_ | refine pl_bind ?_ (fun _ => ?_) | refine pl_bind0 ?_ (fun _ => ?_) | refine pl_map ?_ | exact ⟨trivial, fun _ => trivial⟩ | exact ⟨trivial, trivial⟩ | exact ⟨rfl, trivial⟩ | refine pl_forIn_array _ _ (fun _ _ => ?_) | refine pl_forIn_range _ _ (fun _ _ => ?_) | refine pl_forIn_listp _ _ (fun _ _ => ?_) | refine pl_mapM_array _ (fun _ => ?_) | refine pl_foldlM' _ _ (fun _ _ => ?_) | split | (dsimp only))
theorem pl_Instr_typeAssert (P : Program) : ∀ x0 x1 x2 x3, Pl P T1 (@Go.Instr.typeAssert x0 x1 x2 x3) := by
  intros
  unfold Go.Instr.typeAssert
  repeat' (first | exact trivial | assumption | intro _ | with_reducible exact pl_zeroValue P _ | with_reducible exact pl_runtimePanic P _ _ | with_reducible exact pl_underlying P _ | with_reducible exact pl_typeInfo P _ | with_reducible exact pl_stuck P _ _ | refine pl_ite ?_ ?_ | refine pl_bind ?_ (fun _ => ?_) | refine pl_bind0 ?_ (fun _ => ?_) | refine pl_map ?_ | exact ⟨trivial, fun _ => trivial⟩ | exact ⟨trivial, trivial⟩ | exact ⟨rfl, trivial⟩ | refine pl_forIn_array _ _ (fun _ _ => ?_) | refine pl_forIn_range _ _ (fun _ _ => ?_) | refine pl_forIn_listp _ _ (fun _ _ => ?_) | refine pl_mapM_array _ (fun _ => ?_) | refine pl_foldlM' _ _ (fun _ _ => ?_) | split | (dsimp only))
theorem pl_Instr_extract (P : Program) : ∀ x0 x1, Pl P T1 (@Go.Instr.extract x0 x1) := by
  intros
  unfold Go.Instr.extract
  repeat' (first | exact trivial | assumption | intro _ | with_reducible exact pl_stuck P _ _ | refine pl_ite ?_ ?_ | refine pl_bind ?_ (fun _ => ?_) | refine pl_bind0 ?_ (fun _ => ?_) | refine pl_map ?_ | exact ⟨trivial, fun _ => trivial⟩ | exact ⟨trivial, trivial⟩ | exact ⟨rfl, trivial⟩ | refine pl_forIn_array _ _ (fun _ _ => ?_) | refine pl_forIn_range _ _ (fun _ _ => ?_) | refine pl_forIn_listp _ _ (fun _ _ => ?_) | refine pl_mapM_array _ (fun _ => ?_) | refine pl_foldlM' _ _ (fun _ _ => ?_) | split | (dsimp only))
theorem pl_Builtin_firstCells (P : Program) : ∀ x0 x1 x2, Pl P T1 (@Go.Builtin.firstCells x0 x1 x2) := by
  intros
  unfold Go.Builtin.firstCells
  repeat' (first | exact trivial | assumption | intro _ | with_reducible exact pl_loadCells P _ _ | with_reducible exact pl_stuck P _ _ | refine pl_ite ?_ ?_ | refine pl_bind ?_ (fun _ => ?_) | refine pl_bind0 ?_ (fun _ => ?_) | refine pl_map ?_ | exact ⟨trivial, fun _ => trivial⟩ | exact ⟨trivial, trivial⟩ | exact ⟨rfl, trivial⟩ | refine pl_forIn_array _ _ (fun _ _ => ?_) | refine pl_forIn_range _ _ (fun _ _ => ?_) | refine pl_forIn_listp _ _ (fun _ _ => ?_) | refine pl_mapM_array _ (fun _ => ?_) | refine pl_foldlM' _ _ (fun _ _ => ?_) | split | (dsimp only))
theorem pl_Builtin_mayShare (P : Program) : ∀ x0 x1 x2 x3 x4, Pl P T1 (@Go.Builtin.mayShare x0 x1 x2 x3 x4) := by
  intros
  unfold Go.Builtin.mayShare
  repeat' (first | exact trivial | assumption | intro _ | with_reducible exact pl_Builtin_holdsCells P _ _ | with_reducible exact pl_frozen P _ | refine pl_ite ?_ ?_ | refine pl_bind ?_ (fun _ => ?_) | refine pl_bind0 ?_ (fun _ => ?_) | refine pl_map ?_ | exact ⟨trivial, fun _ => trivial⟩ | exact ⟨trivial, trivial⟩ | exact ⟨rfl, trivial⟩ | refine pl_forIn_array _ _ (fun _ _ => ?_) | refine pl_forIn_range _ _ (fun _ _ => ?_) | refine pl_forIn_listp _ _ (fun _ _ => ?_) | refine pl_mapM_array _ (fun _ => ?_) | refine pl_foldlM' _ _ (fun _ _ => ?_) | split | (dsimp only))
set_option maxHeartbeats 4000000 in
theorem pl_Builtin_append_ (P : Program) : ∀ x0 x1 x2, Pl P T1 (@Go.Builtin.append_ x0 x1 x2) := by
  intros
  unfold Go.Builtin.append_
  repeat' (first | exact trivial | assumption | intro _ | with_reducible exact pl_underlying P _ | with_reducible exact pl_sizeOf P _ | with_reducible exact pl_Builtin_firstCells P _ _ _ | with_reducible exact pl_zeroValue P _ | with_reducible exact pl_storeCells P _ _ _ | with_reducible exact pl_typeInfo P _ | with_reducible exact pl_choose P _ | with_reducible exact pl_askRoom P _ | with_reducible exact pl_newRow P _ _ | with_reducible exact pl_runtimePanic P _ _ | with_reducible exact pl_Builtin_mayShare P _ _ _ _ _ | ((with_reducible refine pl_unsupported P _ _ ?_) <;> exact trivial) | with_reducible exact pl_asInt P _ | with_reducible exact pl_Builtin_lenOf P _ | with_reducible exact pl_stuck P _ _ | refine pl_ite ?_ ?_ | refine pl_bind ?_ (fun _ => ?_) | refine pl_bind0 ?_ (fun _ => ?_) | refine pl_map ?_ | exact ⟨trivial, fun _ => trivial⟩ | exact ⟨trivial, trivial⟩ | exact ⟨rfl, trivial⟩ | refine pl_forIn_array _ _ (fun _ _ => ?_) | refine pl_forIn_range _ _ (fun _ _ => ?_) | refine pl_forIn_listp _ _ (fun _ _ => ?_) | refine pl_mapM_array _ (fun _ => ?_) | refine pl_foldlM' _ _ (fun _ _ => ?_) | split | (dsimp only))
theorem pl_Builtin_cap_ (P : Program) : ∀ x0 x1 x2, Pl P T1 (@Go.Builtin.cap_ x0 x1 x2) := by
  intros
  unfold Go.Builtin.cap_
  repeat' (first | exact trivial | assumption | intro _ | with_reducible exact pl_underlying P _ | with_reducible exact pl_stuck P _ _ | with_reducible exact pl_getObj P _ | refine pl_ite ?_ ?_ | refine pl_bind ?_ (fun _ => ?_) | refine pl_bind0 ?_ (fun _ => ?_) | refine pl_map ?_ | exact ⟨trivial, fun _ => trivial⟩ | exact ⟨trivial, trivial⟩ | exact ⟨rfl, trivial⟩ | refine pl_forIn_array _ _ (fun _ _ => ?_) | refine pl_forIn_range _ _ (fun _ _ => ?_) | refine pl_forIn_listp _ _ (fun _ _ => ?_) | refine pl_mapM_array _ (fun _ => ?_) | refine pl_foldlM' _ _ (fun _ _ => ?_) | split | (dsimp only))
theorem pl_Builtin_clear_ (P : Program) : ∀ x0 x1 x2, Pl P T1 (@Go.Builtin.clear_ x0 x1 x2) := by
  intros
  unfold Go.Builtin.clear_
  repeat' (first | exact trivial | assumption | intro _ | with_reducible exact pl_underlying P _ | with_reducible exact pl_getObj P _ | ((with_reducible refine pl_setObj P _ _ ?_) <;> exact trivial) | with_reducible exact pl_stuck P _ _ | with_reducible exact pl_zeroValue P _ | with_reducible exact pl_storeCells P _ _ _ | refine pl_ite ?_ ?_ | refine pl_bind ?_ (fun _ => ?_) | refine pl_bind0 ?_ (fun _ => ?_) | refine pl_map ?_ | exact ⟨trivial, fun _ => trivial⟩ | exact ⟨trivial, trivial⟩ | exact ⟨rfl, trivial⟩ | refine pl_forIn_array _ _ (fun _ _ => ?_) | refine pl_forIn_range _ _ (fun _ _ => ?_) | refine pl_forIn_listp _ _ (fun _ _ => ?_) | refine pl_mapM_array _ (fun _ => ?_) | refine pl_foldlM' _ _ (fun _ _ => ?_) | split | (dsimp only))
theorem pl_Builtin_close_ (P : Program) : ∀ x0 x1 x2, Pl P T1 (@Go.Builtin.close_ x0 x1 x2) := by
  intro x0 x1 x2
  unfold Go.Builtin.close_
  rcases x2 with ⟨_|⟨a,_|⟨z,l⟩⟩⟩
  · exact trivial
  · cases a <;> try exact trivial
    rename_i r
    cases r
    · exact pl_runtimePanic _ _ _
    · intro o
      cases o <;> try exact trivial
      exact pl_ite (pl_bind (pl_runtimePanic _ _ _) fun _ => ⟨trivial, trivial⟩) ⟨trivial, trivial⟩
  · exact trivial

theorem pl_Builtin_complex_ (P : Program) : ∀ x0 x1 x2, Pl P T1 (@Go.Builtin.complex_ x0 x1 x2) := by
  intro x0 x1 x2
  unfold Go.Builtin.complex_
  rcases x2 with ⟨_|⟨a,_|⟨b,_|⟨z,l⟩⟩⟩⟩
  · exact trivial
  · exact trivial
  · cases a <;> try exact trivial
    cases b <;> try exact trivial
    exact pl_ite trivial trivial
  · exact trivial

theorem pl_Builtin_copy_ (P : Program) : ∀ x0 x1 x2, Pl P T1 (@Go.Builtin.copy_ x0 x1 x2) := by
  intros
  unfold Go.Builtin.copy_
  repeat' (first | exact trivial | assumption | intro _ | with_reducible exact pl_underlying P _ | with_reducible exact pl_Builtin_lenOf P _ | with_reducible exact pl_sizeOf P _ | with_reducible exact pl_Builtin_firstCells P _ _ _ | with_reducible exact pl_storeCells P _ _ _ | with_reducible exact pl_stuck P _ _ | refine pl_ite ?_ ?_ | refine pl_bind ?_ (fun _ => ?_) | refine pl_bind0 ?_ (fun _ => ?_) | refine pl_map ?_ | exact ⟨trivial, fun _ => trivial⟩ | exact ⟨trivial, trivial⟩ | exact ⟨rfl, trivial⟩ | refine pl_forIn_array _ _ (fun _ _ => ?_) | refine pl_forIn_range _ _ (fun _ _ => ?_) | refine pl_forIn_listp _ _ (fun _ _ => ?_) | refine pl_mapM_array _ (fun _ => ?_) | refine pl_foldlM' _ _ (fun _ _ => ?_) | split | (dsimp only))
theorem pl_Builtin_delete_ (P : Program) : ∀ x0 x1 x2, Pl P T1 (@Go.Builtin.delete_ x0 x1 x2) := by
  intros
  unfold Go.Builtin.delete_
  repeat' (first | exact trivial | assumption | intro _ | with_reducible exact pl_underlying P _ | with_reducible exact pl_Instr_checkKey P _ _ _ _ | with_reducible exact pl_getObj P _ | with_reducible exact pl_Instr_findKey P _ _ _ | ((with_reducible refine pl_setObj P _ _ ?_) <;> exact trivial) | with_reducible exact pl_stuck P _ _ | refine pl_ite ?_ ?_ | refine pl_bind ?_ (fun _ => ?_) | refine pl_bind0 ?_ (fun _ => ?_) | refine pl_map ?_ | exact ⟨trivial, fun _ => trivial⟩ | exact ⟨trivial, trivial⟩ | exact ⟨rfl, trivial⟩ | refine pl_forIn_array _ _ (fun _ _ => ?_) | refine pl_forIn_range _ _ (fun _ _ => ?_) | refine pl_forIn_listp _ _ (fun _ _ => ?_) | refine pl_mapM_array _ (fun _ => ?_) | refine pl_foldlM' _ _ (fun _ _ => ?_) | split | (dsimp only))
theorem pl_Builtin_imag_ (P : Program) : ∀ x0 x1 x2, Pl P T1 (@Go.Builtin.imag_ x0 x1 x2) := by
  intro x0 x1 x2
  unfold Go.Builtin.imag_
  rcases x2 with ⟨_|⟨a,_|⟨z,l⟩⟩⟩
  · exact trivial
  · cases a <;> exact trivial
  · exact trivial

theorem pl_Builtin_len_ (P : Program) : ∀ x0 x1 x2, Pl P T1 (@Go.Builtin.len_ x0 x1 x2) := by
  intros
  unfold Go.Builtin.len_
  repeat' (first | exact trivial | assumption | intro _ | with_reducible exact pl_underlying P _ | with_reducible exact pl_stuck P _ _ | with_reducible exact pl_getObj P _ | refine pl_ite ?_ ?_ | refine pl_bind ?_ (fun _ => ?_) | refine pl_bind0 ?_ (fun _ => ?_) | refine pl_map ?_ | exact ⟨trivial, fun _ => trivial⟩ | exact ⟨trivial, trivial⟩ | exact ⟨rfl, trivial⟩ | refine pl_forIn_array _ _ (fun _ _ => ?_) | refine pl_forIn_range _ _ (fun _ _ => ?_) | refine pl_forIn_listp _ _ (fun _ _ => ?_) | refine pl_mapM_array _ (fun _ => ?_) | refine pl_foldlM' _ _ (fun _ _ => ?_) | split | (dsimp only))
theorem pl_Builtin_max2 (P : Program) : ∀ x0 x1, Pl P T1 (@Go.Builtin.max2 x0 x1) := by
  intros
  unfold Go.Builtin.max2
  repeat' (first | exact trivial | assumption | intro _ | with_reducible exact pl_choose P _ | with_reducible exact pl_Op_stringOp P _ _ _ | with_reducible exact pl_asBool P _ | ((with_reducible refine pl_unsupported P _ _ ?_) <;> exact trivial) | with_reducible exact pl_stuck P _ _ | refine pl_ite ?_ ?_ | refine pl_bind ?_ (fun _ => ?_) | refine pl_bind0 ?_ (fun _ => ?_) | refine pl_map ?_ | exact ⟨trivial, fun _ => trivial⟩ | exact ⟨trivial, trivial⟩ | exact ⟨rfl, trivial⟩ | refine pl_forIn_array _ _ (fun _ _ => ?_) | refine pl_forIn_range _ _ (fun _ _ => ?_) | refine pl_forIn_listp _ _ (fun _ _ => ?_) | refine pl_mapM_array _ (fun _ => ?_) | refine pl_foldlM' _ _ (fun _ _ => ?_) | split | (dsimp only))
theorem pl_Builtin_max_ (P : Program) : ∀ x0 x1 x2, Pl P T1 (@Go.Builtin.max_ x0 x1 x2) := by
  intros
  unfold Go.Builtin.max_
  repeat' (first | exact trivial | assumption | intro _ | with_reducible exact pl_stuck P _ _ | with_reducible exact pl_Builtin_max2 P _ _ | refine pl_ite ?_ ?_ | refine pl_bind ?_ (fun _ => ?_) | refine pl_bind0 ?_ (fun _ => ?_) | refine pl_map ?_ | exact ⟨trivial, fun _ => trivial⟩ | exact ⟨trivial, trivial⟩ | exact ⟨rfl, trivial⟩ | refine pl_forIn_array _ _ (fun _ _ => ?_) | refine pl_forIn_range _ _ (fun _ _ => ?_) | refine pl_forIn_listp _ _ (fun _ _ => ?_) | refine pl_mapM_array _ (fun _ => ?_) | refine pl_foldlM' _ _ (fun _ _ => ?_) | split | (dsimp only))
theorem pl_Builtin_real_ (P : Program) : ∀ x0 x1 x2, Pl P T1 (@Go.Builtin.real_ x0 x1 x2) := by
  intro x0 x1 x2
  unfold Go.Builtin.real_
  rcases x2 with ⟨_|⟨a,_|⟨z,l⟩⟩⟩
  · exact trivial
  · cases a <;> exact trivial
  · exact trivial

theorem pl_Instr_yield (P : Program) : ∀ x0 x1, Pl P T1 (@Go.Instr.yield x0 x1) := by
  intros
  unfold Go.Instr.yield
  repeat' (first | exact trivial | assumption | intro _ | with_reducible exact pl_Instr_getLoop P _ | with_reducible exact pl_stuck P _ _ | refine pl_ite ?_ ?_ | refine pl_bind ?_ (fun _ => ?_) | refine pl_bind0 ?_ (fun _ => ?_) | refine pl_map ?_ | exact ⟨trivial, fun _ => trivial⟩ | exact ⟨trivial, trivial⟩ | exact ⟨rfl, trivial⟩ | refine pl_forIn_array _ _ (fun _ _ => ?_) | refine pl_forIn_range _ _ (fun _ _ => ?_) | refine pl_forIn_listp _ _ (fun _ _ => ?_) | refine pl_mapM_array _ (fun _ => ?_) | refine pl_foldlM' _ _ (fun _ _ => ?_) | split | (dsimp only))
theorem pl_Instr_endLoop (P : Program) : ∀ x0, Pl P T1 (@Go.Instr.endLoop x0) := by
  intros
  unfold Go.Instr.endLoop
  repeat' (first | exact trivial | assumption | intro _ | with_reducible exact pl_Instr_getLoop P _ | ((with_reducible refine pl_setObj P _ _ ?_) <;> exact trivial) | with_reducible exact pl_runtimePanic P _ _ | refine pl_ite ?_ ?_ | refine pl_bind ?_ (fun _ => ?_) | refine pl_bind0 ?_ (fun _ => ?_) | refine pl_map ?_ | exact ⟨trivial, fun _ => trivial⟩ | exact ⟨trivial, trivial⟩ | exact ⟨rfl, trivial⟩ | refine pl_forIn_array _ _ (fun _ _ => ?_) | refine pl_forIn_range _ _ (fun _ _ => ?_) | refine pl_forIn_listp _ _ (fun _ _ => ?_) | refine pl_mapM_array _ (fun _ => ?_) | refine pl_foldlM' _ _ (fun _ _ => ?_) | split | (dsimp only))
theorem pl_externState (P : Program) : ∀ x0, Pl P T1 (@Go.externState x0) := by
  intros
  unfold Go.externState
  repeat' (first | exact trivial | assumption | intro _ | with_reducible exact pl_program P | with_reducible exact pl_getObj P _ | ((with_reducible refine pl_newObj P _ ?_) <;> exact trivial) | ((with_reducible refine pl_setObj P _ _ ?_) <;> exact trivial) | with_reducible exact pl_stuck P _ _ | refine pl_ite ?_ ?_ | refine pl_bind ?_ (fun _ => ?_) | refine pl_bind0 ?_ (fun _ => ?_) | refine pl_map ?_ | exact ⟨trivial, fun _ => trivial⟩ | exact ⟨trivial, trivial⟩ | exact ⟨rfl, trivial⟩ | refine pl_forIn_array _ _ (fun _ _ => ?_) | refine pl_forIn_range _ _ (fun _ _ => ?_) | refine pl_forIn_listp _ _ (fun _ _ => ?_) | refine pl_mapM_array _ (fun _ => ?_) | refine pl_foldlM' _ _ (fun _ _ => ?_) | split | (dsimp only))
theorem pl_backFromNumber (P : Program) : ∀ x0, Pl P T1 (@Go.backFromNumber x0) := by
  intros
  unfold Go.backFromNumber
  repeat' (first | exact trivial | assumption | intro _ | with_reducible exact pl_behindNumber P _ | ((with_reducible refine pl_unsupported P _ _ ?_) <;> exact trivial) | refine pl_ite ?_ ?_ | refine pl_bind ?_ (fun _ => ?_) | refine pl_bind0 ?_ (fun _ => ?_) | refine pl_map ?_ | exact ⟨trivial, fun _ => trivial⟩ | exact ⟨trivial, trivial⟩ | exact ⟨rfl, trivial⟩ | refine pl_forIn_array _ _ (fun _ _ => ?_) | refine pl_forIn_range _ _ (fun _ _ => ?_) | refine pl_forIn_listp _ _ (fun _ _ => ?_) | refine pl_mapM_array _ (fun _ => ?_) | refine pl_foldlM' _ _ (fun _ _ => ?_) | split | (dsimp only))
theorem pl_intVariablesAt (P : Program) : ∀ x0 x1 x2, Pl P T1 (@Go.intVariablesAt x0 x1 x2) := by
  intros
  unfold Go.intVariablesAt
  repeat' (first | exact trivial | assumption | intro _ | with_reducible exact pl_program P | with_reducible exact pl_shape P _ | refine pl_ite ?_ ?_ | refine pl_bind ?_ (fun _ => ?_) | refine pl_bind0 ?_ (fun _ => ?_) | refine pl_map ?_ | exact ⟨trivial, fun _ => trivial⟩ | exact ⟨trivial, trivial⟩ | exact ⟨rfl, trivial⟩ | refine pl_forIn_array _ _ (fun _ _ => ?_) | refine pl_forIn_range _ _ (fun _ _ => ?_) | refine pl_forIn_listp _ _ (fun _ _ => ?_) | refine pl_mapM_array _ (fun _ => ?_) | refine pl_foldlM' _ _ (fun _ _ => ?_) | split | (dsimp only))
theorem pl_byteVariablesAt (P : Program) : ∀ x0 x1, Pl P T1 (@Go.byteVariablesAt x0 x1) := by
  intros
  unfold Go.byteVariablesAt
  repeat' (first | exact trivial | assumption | intro _ | with_reducible exact pl_intVariablesAt P _ _ _ | refine pl_ite ?_ ?_ | refine pl_bind ?_ (fun _ => ?_) | refine pl_bind0 ?_ (fun _ => ?_) | refine pl_map ?_ | exact ⟨trivial, fun _ => trivial⟩ | exact ⟨trivial, trivial⟩ | exact ⟨rfl, trivial⟩ | refine pl_forIn_array _ _ (fun _ _ => ?_) | refine pl_forIn_range _ _ (fun _ _ => ?_) | refine pl_forIn_listp _ _ (fun _ _ => ?_) | refine pl_mapM_array _ (fun _ => ?_) | refine pl_foldlM' _ _ (fun _ _ => ?_) | split | (dsimp only))
theorem pl_cutType (P : Program) : ∀ x0, Pl P T1 (@Go.cutType x0) := by
  intros
  unfold Go.cutType
  repeat' (first | exact trivial | assumption | intro _ | with_reducible exact pl_program P | with_reducible exact pl_stuck P _ _ | refine pl_ite ?_ ?_ | refine pl_bind ?_ (fun _ => ?_) | refine pl_bind0 ?_ (fun _ => ?_) | refine pl_map ?_ | exact ⟨trivial, fun _ => trivial⟩ | exact ⟨trivial, trivial⟩ | exact ⟨rfl, trivial⟩ | refine pl_forIn_array _ _ (fun _ _ => ?_) | refine pl_forIn_range _ _ (fun _ _ => ?_) | refine pl_forIn_listp _ _ (fun _ _ => ?_) | refine pl_mapM_array _ (fun _ => ?_) | refine pl_foldlM' _ _ (fun _ _ => ?_) | split | (dsimp only))
theorem pl_globalAddr (P : Program) : ∀ x0, Pl P T1 (@Go.globalAddr x0) := by
  intros
  unfold Go.globalAddr
  repeat' (first | exact trivial | assumption | intro _ | with_reducible exact pl_program P | with_reducible exact pl_stuck P _ _ | refine pl_ite ?_ ?_ | refine pl_bind ?_ (fun _ => ?_) | refine pl_bind0 ?_ (fun _ => ?_) | refine pl_map ?_ | exact ⟨trivial, fun _ => trivial⟩ | exact ⟨trivial, trivial⟩ | exact ⟨rfl, trivial⟩ | refine pl_forIn_array _ _ (fun _ _ => ?_) | refine pl_forIn_range _ _ (fun _ _ => ?_) | refine pl_forIn_listp _ _ (fun _ _ => ?_) | refine pl_mapM_array _ (fun _ => ?_) | refine pl_foldlM' _ _ (fun _ _ => ?_) | split | (dsimp only))
theorem pl_Instr_takeDeferred (P : Program) : ∀ x0, Pl P T1 (@Go.Instr.takeDeferred x0) := by
  intros
  unfold Go.Instr.takeDeferred
  repeat' (first | exact trivial | assumption | intro _ | with_reducible exact pl_getObj P _ | ((with_reducible refine pl_setObj P _ _ ?_) <;> exact trivial) | with_reducible exact pl_stuck P _ _ | refine pl_ite ?_ ?_ | refine pl_bind ?_ (fun _ => ?_) | refine pl_bind0 ?_ (fun _ => ?_) | refine pl_map ?_ | exact ⟨trivial, fun _ => trivial⟩ | exact ⟨trivial, trivial⟩ | exact ⟨rfl, trivial⟩ | refine pl_forIn_array _ _ (fun _ _ => ?_) | refine pl_forIn_range _ _ (fun _ _ => ?_) | refine pl_forIn_listp _ _ (fun _ _ => ?_) | refine pl_mapM_array _ (fun _ => ?_) | refine pl_foldlM' _ _ (fun _ _ => ?_) | split | (dsimp only))
theorem pl_panicString (P : Program) : ∀ x0 x1, Pl P T1 (@Go.panicString x0 x1) := by
  intros
  unfold Go.panicString
  repeat' (first | exact trivial | assumption | intro _ | with_reducible exact pl_program P | with_reducible exact pl_goPanic P _ _ | refine pl_ite ?_ ?_ | refine pl_bind ?_ (fun _ => ?_) | refine pl_bind0 ?_ (fun _ => ?_) | refine pl_map ?_ | exact ⟨trivial, fun _ => trivial⟩ | exact ⟨trivial, trivial⟩ | exact ⟨rfl, trivial⟩ | refine pl_forIn_array _ _ (fun _ _ => ?_) | refine pl_forIn_range _ _ (fun _ _ => ?_) | refine pl_forIn_listp _ _ (fun _ _ => ?_) | refine pl_mapM_array _ (fun _ => ?_) | refine pl_foldlM' _ _ (fun _ _ => ?_) | split | (dsimp only))
end Go.Proofs.Ytnahlemchajfdaa.Meta
