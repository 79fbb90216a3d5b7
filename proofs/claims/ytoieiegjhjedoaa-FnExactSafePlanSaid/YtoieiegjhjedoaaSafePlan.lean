import Derived.Test.YtoieiegjhjedoaaSR
import Derived.SevenTiedAt
namespace Go.Proofs.Ytoieiegjhjedoaa
open Go.ChangeShapes Go.WideShapes Go.ChangeAt Go.RowKit Go.Lib Go.Joins
set_option linter.unusedVariables false
set_option linter.unusedSimpArgs false
set_option maxRecDepth 100000
theorem own : ownKnob Try.prog.godebug = none := by kernel_rfl
theorem open_plan {H : Type} {enc : TypeId × Value → H} {W : World} {base : Nat} {v : Value} {d : DataW H} {p : List MemPlace} (hval : Value.okWide Try.prog W .any base 24 v) (h : DataW.Trod enc Try.prog W 0 (fun _ => true) true 24 v d p) :
    ∃ (a : Option Addr) (cap : Nat) (us : List PN), v = .agg #[.slice a us.length cap] ∧ BL maxLen us ∧ (∀ u ∈ us, ∀ e ∈ u.exprs, RgE e) ∧ RS 11 CP 0 W (.slice a us.length cap) us ∧ ∀ x ∈ p, ∃ xb xo, x = .cell xb xo := by
  obtain ⟨cs, rfl, hsz⟩ := okWide_struct Try.underlying24 hval
  rw [cells24] at hsz
  obtain ⟨fuel, hf⟩ := h
  obtain ⟨c0, rfl⟩ : ∃ c0, cs = #[c0] := by
    obtain ⟨l⟩ := cs
    match l, hsz with
    | [c0], _ => exact ⟨c0, rfl⟩
  obtain ⟨y0, n, hx, _, h0⟩ := trod_struct1 Try.underlying24 hf
  simp only [Prod.mk.injEq] at hx
  simp [Value.cells, cells22] at h0
  obtain ⟨v, us, e, hl, hq, hr, hc⟩ := pnodes_trod h0
  simp at e
  subst e
  rw [hx.2]
  have R := hr
  obtain ⟨a, cap, rfl, _⟩ := hr
  exact ⟨a, cap, us, rfl, ⟨hl, fun u hu => (hq u hu).1⟩, fun u hu => (hq u hu).2, R, hc⟩
theorem laidOutP : laidOutB Try.prog = true := by kernel_rfl
theorem stayPlan {H : Type} {enc : TypeId × Value → H} {W W' : World} {v : Value} {d : DataW H} {p : List MemPlace} {sp : Nat → Bool} (h : DataW.Trod enc Try.prog W 0 (fun _ => true) true 24 v d p) (bel : Below W.heap.size W W') (hlt : ∀ x ∈ p, x.block < W.heap.size) (hcl : ∀ x ∈ p, ∃ xb xo, x = .cell xb xo) (hsp : ∀ x ∈ p, sp x.block = true) : DataW.Trod enc Try.prog W' 0 sp true 24 v d p :=
  WideElems.Trod_stays (P := Try.prog) laidOutP (by kernel_rfl) (of_decide_eq_true (by kernel_rfl)) h (fun x hx => by
    obtain ⟨xb, xo, rfl⟩ := hcl x hx
    exact bel.cell (p := ⟨xb, xo, none⟩) (hlt _ hx)) hsp
namespace SafePlanL
set_option maxHeartbeats 2000000 in
theorem lifted (os : Os) (started : os.Started) (H : Type) (enc : TypeId × Value → H) :
    ReturnsInHanded {} Try.checked os 3 .any (Rows.fnExactSafePlanSpec.pre6 enc Try.prog Try.f3 Rows.fnExactSafePlanRow.domain false) (Rows.fnExactSafePlanSpec.post enc Try.prog Try.f3 false true false false) := by
  refine returnsInHanded_of_change (C := Try.checked) own started (by kernel_rfl) Try.func3
    (ChangeSpec.witness6 (enc := enc) (C := Try.checked) false ⟨#[], #[.agg #[.slice none 0 0]], []⟩ 8 (by kernel_rfl) (by kernel_rfl) (by kernel_rfl) (by kernel_rfl)) ?_
  intro W base args ds gs before hval0 hW hcnd _
  have hval : ∀ (j : Nat) t v, Try.f3.params[j]? = some t → args[j]? = some v → Value.okWide Try.prog W .any base t v := hval0
  have hW' := hW
  obtain ⟨p, q, hA0, hV0, rfl, _, _⟩ := hW
  have hA : DataW.TrodAll enc Try.prog W 0 (fun _ => true) true Try.f3.params.toList args.toList ds p := hA0
  rw [Try.params3] at hA hval
  obtain ⟨v0, d0, rfl, rfl, h0⟩ := trodAll_one hA
  obtain ⟨rfl, rfl⟩ := trodVars_none hV0
  have hlt0 : ∀ x ∈ p, x.block < W.heap.size := fun x hx => hW'.lt x (by simpa using hx)
  obtain ⟨la, lc, us, rfl, hbl, hrg, hrt, cl⟩ := open_plan (hval 0 24 v0 rfl rfl) h0
  clear hA0 hV0 hval0
  refine (plan_law la lc us W hbl hrg hrt).mono ?_
  rintro e W' ⟨rfl, bel⟩
  refine ⟨_, rfl, _, _, _, [], p, [], hW', ?_, ?_, ?_, bel.frame _, fun h => by cases h⟩
  · exact trodAll_mk1 (shut_bool Try.underlying4 _)
  · exact trodAll_mk1 (stayPlan h0 bel hlt0 cl (fun x hx => decide_eq_true (hlt0 x hx)))
  · rfl
theorem over : Rows.fnExactSafePlanRow.holds Try.pinned (OpenSpec.ofChange Rows.fnExactSafePlanSpec) :=
  OpenClaim.holds_of_wide 3 Try.f3 rfl rfl rfl rfl rfl rfl rfl ⟨rfl, rfl, rfl, rfl, rfl⟩ rfl rfl rfl rfl rfl (by kernel_rfl) Try.func3 (by kernel_rfl)
    (of_decide_eq_true (by kernel_rfl)) (by unfold Func.isWrapper; first | (rw [if_pos (by decide +kernel)]; kernel_rfl) | (rw [if_neg (by decide +kernel)]; exact ⟨rfl, rfl⟩))
    (fun os started H enc _ => lifted os started H enc)
end SafePlanL
theorem FnExactSafePlan_holds : Rows.FnExactSafePlanSaid := SafePlanL.over
#print axioms FnExactSafePlan_holds
end Go.Proofs.Ytoieiegjhjedoaa
