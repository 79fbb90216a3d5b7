import Derived.Test.YtdcdoeolaongkaaGreatDoorMB
namespace Go.Proofs.YtdcdoeolaongkaaGreatDoor.Mp
open Go.MapKept Go.ChangeMaps
open Go.ChangeShapes Go.WideShapes Go.ChangeAt Go.RowKit
set_option linter.unusedVariables false
set_option linter.unusedSimpArgs false
set_option maxRecDepth 100000
set_option maxHeartbeats 4000000 in
theorem table_any (w : World) : Calls Tryz.prog 39 #[] w fun e w' => e = .returned (.map (some w.heap.size)) ∧ St w w' [1, 2, 3, 4, 5, 6, 7, 8, 9, 10, 11, 12, 13] := by
  have hmm := @run_makeMap Tryz.prog
  have hst := St.made w
  go_enter Tryz.func39, Tryz.ntmps39
  go_wp2_with (first | (refine wpList_insert_St (w0 := w) rfl _ _ _ rfl hst rfl _ _ rfl rfl (by decide) (by show GoodE _ _ _ (Value.agg #[_, Value.func (Fn.func _) #[] #[]]); first | with_reducible exact good1 _ _ | with_reducible exact good6 _ _ | with_reducible exact good12 _ _ | with_reducible exact good13 _ _ | exact goodT ht (by decide) (by decide) (by decide) (by decide)) ?_; clear hst; intro w1 hst) | (go_at_call 84; fail))
  refine (taking_one w _ _ _ _ hst).mono ?_; clear hst; rintro e w1 ⟨cp, rfl, ht, hst⟩
  go_wp2_with (first | (refine wpList_insert_St (w0 := w) rfl _ _ _ rfl hst rfl _ _ rfl rfl (by decide) (by show GoodE _ _ _ (Value.agg #[_, Value.func (Fn.func _) #[] #[]]); first | with_reducible exact good1 _ _ | with_reducible exact good6 _ _ | with_reducible exact good12 _ _ | with_reducible exact good13 _ _ | exact goodT ht (by decide) (by decide) (by decide) (by decide)) ?_; clear hst; intro w1 hst) | (go_at_call 84; fail))
  refine (taking_one w _ _ _ _ hst).mono ?_; clear hst; rintro e w1 ⟨cp, rfl, ht, hst⟩
  go_wp2_with (first | (refine wpList_insert_St (w0 := w) rfl _ _ _ rfl hst rfl _ _ rfl rfl (by decide) (by show GoodE _ _ _ (Value.agg #[_, Value.func (Fn.func _) #[] #[]]); first | with_reducible exact good1 _ _ | with_reducible exact good6 _ _ | with_reducible exact good12 _ _ | with_reducible exact good13 _ _ | exact goodT ht (by decide) (by decide) (by decide) (by decide)) ?_; clear hst; intro w1 hst) | (go_at_call 84; fail))
  refine (taking_one w _ _ _ _ hst).mono ?_; clear hst; rintro e w1 ⟨cp, rfl, ht, hst⟩
  go_wp2_with (first | (refine wpList_insert_St (w0 := w) rfl _ _ _ rfl hst rfl _ _ rfl rfl (by decide) (by show GoodE _ _ _ (Value.agg #[_, Value.func (Fn.func _) #[] #[]]); first | with_reducible exact good1 _ _ | with_reducible exact good6 _ _ | with_reducible exact good12 _ _ | with_reducible exact good13 _ _ | exact goodT ht (by decide) (by decide) (by decide) (by decide)) ?_; clear hst; intro w1 hst) | (go_at_call 84; fail))
  refine (taking_three w _ _ _ _ _ _ hst).mono ?_; clear hst; rintro e w1 ⟨cp, rfl, ht, hst⟩
  go_wp2_with (first | (refine wpList_insert_St (w0 := w) rfl _ _ _ rfl hst rfl _ _ rfl rfl (by decide) (by show GoodE _ _ _ (Value.agg #[_, Value.func (Fn.func _) #[] #[]]); first | with_reducible exact good1 _ _ | with_reducible exact good6 _ _ | with_reducible exact good12 _ _ | with_reducible exact good13 _ _ | exact goodT ht (by decide) (by decide) (by decide) (by decide)) ?_; clear hst; intro w1 hst) | (go_at_call 84; fail))
  refine (taking_one w _ _ _ _ hst).mono ?_; clear hst; rintro e w1 ⟨cp, rfl, ht, hst⟩
  go_wp2_with (first | (refine wpList_insert_St (w0 := w) rfl _ _ _ rfl hst rfl _ _ rfl rfl (by decide) (by show GoodE _ _ _ (Value.agg #[_, Value.func (Fn.func _) #[] #[]]); first | with_reducible exact good1 _ _ | with_reducible exact good6 _ _ | with_reducible exact good12 _ _ | with_reducible exact good13 _ _ | exact goodT ht (by decide) (by decide) (by decide) (by decide)) ?_; clear hst; intro w1 hst) | (go_at_call 84; fail))
  refine (taking_one w _ _ _ _ hst).mono ?_; clear hst; rintro e w1 ⟨cp, rfl, ht, hst⟩
  go_wp2_with (first | (refine wpList_insert_St (w0 := w) rfl _ _ _ rfl hst rfl _ _ rfl rfl (by decide) (by show GoodE _ _ _ (Value.agg #[_, Value.func (Fn.func _) #[] #[]]); first | with_reducible exact good1 _ _ | with_reducible exact good6 _ _ | with_reducible exact good12 _ _ | with_reducible exact good13 _ _ | exact goodT ht (by decide) (by decide) (by decide) (by decide)) ?_; clear hst; intro w1 hst) | (go_at_call 84; fail))
  refine (taking_one w _ _ _ _ hst).mono ?_; clear hst; rintro e w1 ⟨cp, rfl, ht, hst⟩
  go_wp2_with (first | (refine wpList_insert_St (w0 := w) rfl _ _ _ rfl hst rfl _ _ rfl rfl (by decide) (by show GoodE _ _ _ (Value.agg #[_, Value.func (Fn.func _) #[] #[]]); first | with_reducible exact good1 _ _ | with_reducible exact good6 _ _ | with_reducible exact good12 _ _ | with_reducible exact good13 _ _ | exact goodT ht (by decide) (by decide) (by decide) (by decide)) ?_; clear hst; intro w1 hst) | (go_at_call 84; fail))
  refine (taking_one w _ _ _ _ hst).mono ?_; clear hst; rintro e w1 ⟨cp, rfl, ht, hst⟩
  go_wp2_with (first | (refine wpList_insert_St (w0 := w) rfl _ _ _ rfl hst rfl _ _ rfl rfl (by decide) (by show GoodE _ _ _ (Value.agg #[_, Value.func (Fn.func _) #[] #[]]); first | with_reducible exact good1 _ _ | with_reducible exact good6 _ _ | with_reducible exact good12 _ _ | with_reducible exact good13 _ _ | exact goodT ht (by decide) (by decide) (by decide) (by decide)) ?_; clear hst; intro w1 hst) | (go_at_call 84; fail))
  refine (taking_one w _ _ _ _ hst).mono ?_; clear hst; rintro e w1 ⟨cp, rfl, ht, hst⟩
  go_wp2_with (first | (refine wpList_insert_St (w0 := w) rfl _ _ _ rfl hst rfl _ _ rfl rfl (by decide) (by show GoodE _ _ _ (Value.agg #[_, Value.func (Fn.func _) #[] #[]]); first | with_reducible exact good1 _ _ | with_reducible exact good6 _ _ | with_reducible exact good12 _ _ | with_reducible exact good13 _ _ | exact goodT ht (by decide) (by decide) (by decide) (by decide)) ?_; clear hst; intro w1 hst))
  go_ret
  exact ⟨rfl, hst⟩
end Go.Proofs.YtdcdoeolaongkaaGreatDoor.Mp
