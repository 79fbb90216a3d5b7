import Derived.Test.YtbcnfepfmoecjaaDoorC3
import Derived.Test.YtbcnfepfmoecjaaDoorW5
import Derived.Test.YtbcnfepfmoecjaaDoorF1
import Derived.SevenTiedAt
import Derived.Deep.RegionWith
namespace Go.Proofs.YtbcnfepfmoecjaaDoor
open Go.ChangeShapes Go.WideShapes Go.ChangeAt Go.RowKit Go.Lib Go.Shelf Go.Joins
set_option linter.unusedVariables false
set_option linter.unusedSimpArgs false
set_option maxRecDepth 100000
namespace CompareL
theorem chain {w W w' : World} (h : Below w.heap.size w W) (hb : Below W.heap.size W w') : Below w.heap.size w w' := h.trans (hb.mono h.size)
theorem undrew {W w' : World} (hb : Below W.drew.heap.size W.drew w') : Below W.heap.size W w' := (Below.refl W.heap.size W).drew.trans hb
set_option maxHeartbeats 8000000 in
theorem walk (k0 n0 : Int) (s0 : ByteArray) (k1 n1 : Int) (s1 : ByteArray) (w : World) (hs0 : s0.size ≤ maxLen) (wk0 : (Lit.int .i64 k0).wf = true) (wn0 : (Lit.int .i64 n0).wf = true) (hs1 : s1.size ≤ maxLen) (wk1 : (Lit.int .i64 k1).wf = true) (wn1 : (Lit.int .i64 n1).wf = true) (hT : Tabs w) :
    Calls Tryd.prog 5 #[.agg #[.int .i64 k0, .int .i64 n0, .string s0], .agg #[.int .i64 k1, .int .i64 n1, .string s1]] w fun e w' => e = .returned (.bool true) ∧ Below w.heap.size w w' := by
  have bw0 : Below w.heap.size w ((w.alloc (.cells #[.int .i64 k0, .int .i64 n0, .string s0] 23)).alloc (.cells #[.int .i64 k1, .int .i64 n1, .string s1] 23)) := (below_alloc w _).alloc (by simp) _
  by_cases h0 : (s0.size : Int) ≤ 1048576
  · by_cases h1 : (s1.size : Int) ≤ 1048576 - s0.size
    · have g0 : s0.size ≤ 1048576 := by omega
      have g1 : s1.size ≤ 1048576 := by omega
      go_enter Tryd.func5, Tryd.ntmps5
      go_wp2_with fail
      refine (sz_yes k0 n0 1048576 s0 _ (by omega) (by omega) h0).mono ?_
      rintro e w1 ⟨rfl, hb1⟩
      obtain ⟨hc1, hf1⟩ := bcell hb1
      have bw1 : Below w.heap.size w w1 := chain bw0 hb1
      have hz1 : w.heap.size + 1 < w1.heap.size := by have := hb1.size; (try simp at this); omega
      have hy1 : w.heap.size < w1.heap.size := by omega
      go_wp2_with fail
      refine (sz_yes k1 n1 (1048576 - s0.size) s1 _ (by omega) (by omega) h1).mono ?_
      rintro e w2 ⟨rfl, hb2⟩
      obtain ⟨hc2, hf2⟩ := bcell hb2
      have bw2 : Below w.heap.size w w2 := chain bw1 hb2
      have hz2 : w.heap.size + 1 < w2.heap.size := by have := hb2.size; (try simp at this); omega
      have hy2 : w.heap.size < w2.heap.size := by omega
      go_wp2
      go_region_with (first | (go_at_call 13; refine (toValue_any _ _ _ _).mono ?_; rintro e w' ⟨rfl, hb'⟩; replace hb' := undrew hb'; obtain ⟨hc', hf'⟩ := bcell hb'; have bw' := chain (by assumption) hb'; have hz' : w.heap.size + 1 < w'.heap.size := (by have := hb'.size; omega); have hy' : w.heap.size < w'.heap.size := (by omega)) | (go_at_call 13; refine (toValue_any _ _ _ _).mono ?_; rintro e w' ⟨rfl, hb'⟩; obtain ⟨hc', hf'⟩ := bcell hb'; have bw' := chain (by assumption) hb'; have hz' : w.heap.size + 1 < w'.heap.size := (by have := hb'.size; omega); have hy' : w.heap.size < w'.heap.size := (by omega)) | (go_at_call 18; refine (compare_spec k0 n0 s0 k1 n1 s1 _ g0 g1).mono ?_; rintro e w' ⟨rfl, hb'⟩; obtain ⟨hc', hf'⟩ := bcell hb'; have bw' := chain (by assumption) hb'; have hz' : w.heap.size + 1 < w'.heap.size := (by have := hb'.size; omega); have hy' : w.heap.size < w'.heap.size := (by omega)))
      all_goals
        go_wp2
        go_region_with (first | (go_at_call 13; refine (toValue_any _ _ _ _).mono ?_; rintro e w' ⟨rfl, hb'⟩; replace hb' := undrew hb'; obtain ⟨hc', hf'⟩ := bcell hb'; have bw' := chain (by assumption) hb'; have hz' : w.heap.size + 1 < w'.heap.size := (by have := hb'.size; omega); have hy' : w.heap.size < w'.heap.size := (by omega)) | (go_at_call 13; refine (toValue_any _ _ _ _).mono ?_; rintro e w' ⟨rfl, hb'⟩; obtain ⟨hc', hf'⟩ := bcell hb'; have bw' := chain (by assumption) hb'; have hz' : w.heap.size + 1 < w'.heap.size := (by have := hb'.size; omega); have hy' : w.heap.size < w'.heap.size := (by omega)) | (go_at_call 19; refine (compare_impl k0 n0 s0 k1 n1 s1 _ g0 g1 ?_).mono ?_; exact tabs_below hT (by assumption); rintro e w' ⟨rfl, hb'⟩; obtain ⟨hc', hf'⟩ := bcell hb'; have bw' := chain (by assumption) hb'; have hz' : w.heap.size + 1 < w'.heap.size := (by have := hb'.size; omega); have hy' : w.heap.size < w'.heap.size := (by omega)))
        all_goals
          go_wp2
          go_ret
          exact ⟨rfl, by assumption⟩
    · have h1' : 1048576 - (s0.size : Int) < s1.size := by omega
      clear h1
      go_enter Tryd.func5, Tryd.ntmps5
      go_wp2_with fail
      refine (sz_yes k0 n0 1048576 s0 _ (by omega) (by omega) h0).mono ?_
      rintro e w1 ⟨rfl, hb1⟩
      obtain ⟨hc1, hf1⟩ := bcell hb1
      have bw1 : Below w.heap.size w w1 := chain bw0 hb1
      have hz1 : w.heap.size + 1 < w1.heap.size := by have := hb1.size; (try simp at this); omega
      have hy1 : w.heap.size < w1.heap.size := by omega
      go_wp2_with fail
      refine (sz_no k1 n1 (1048576 - s0.size) s1 _ (by omega) (by omega) hs1 h1').mono ?_
      rintro e w2 ⟨rfl, hb2⟩
      obtain ⟨hc2, hf2⟩ := bcell hb2
      have bw2 : Below w.heap.size w w2 := chain bw1 hb2
      have hz2 : w.heap.size + 1 < w2.heap.size := by have := hb2.size; (try simp at this); omega
      have hy2 : w.heap.size < w2.heap.size := by omega
      go_wp2
      go_ret
      exact ⟨rfl, bw2⟩
  · have h0' : (1048576 : Int) < s0.size := by omega
    clear h0
    go_enter Tryd.func5, Tryd.ntmps5
    go_wp2_with fail
    refine (sz_no k0 n0 1048576 s0 _ (by omega) (by omega) hs0 h0').mono ?_
    rintro e w1 ⟨rfl, hb1⟩
    obtain ⟨hc1, hf1⟩ := bcell hb1
    have bw1 : Below w.heap.size w w1 := chain bw0 hb1
    have hz1 : w.heap.size + 1 < w1.heap.size := by have := hb1.size; (try simp at this); omega
    have hy1 : w.heap.size < w1.heap.size := by omega
    go_wp2
    go_ret
    exact ⟨rfl, bw1⟩
theorem laid_met (os : Os) (args : Array Value) : laidMet Tryd.prog Rows.fnExactCompareRow.laid ((let w0 := World.holding Tryd.prog os ⟨#[], #[], []⟩
  let put (h : Array Obj) (g : Nat) (cs : Array Value) : Array Obj := h.modify g fun
    | .cells _ t frozen => .cells cs t frozen
    | o => o
  let h1 := put w0.heap 0 (Lib.firstTab.map fun z => Value.int .u8 z).toArray
  let h2 := put h1 1 ((List.range 16).flatMap fun i => [Value.int .u8 (Lib.accLo i), Value.int .u8 (Lib.accHi i)]).toArray
  ({ w0 with heap := h2 } : World)).forCall (fun _ _ => 0) ⟨#[], args, []⟩).memory :=
  (LaidIn.of_run (l := [("unicode/utf8.acceptRanges", Rows.laid_unicode_utf8_acceptRanges), ("unicode/utf8.first", Rows.laid_unicode_utf8_first)]) [1, 0] 8 (by kernel_rfl) (by kernel_rfl) (by kernel_rfl) (by kernel_rfl)).met
theorem witness_row (os : Os) {H : Type} (enc : TypeId × Value → H) :
    (OpenSpec.ofChange Rows.fnExactCompareSpec).preRow enc Tryd.prog Tryd.f5 Rows.fnExactCompareRow.domain false Rows.fnExactCompareRow.laid ((let w0 := World.holding Tryd.prog os ⟨#[], #[], []⟩
  let put (h : Array Obj) (g : Nat) (cs : Array Value) : Array Obj := h.modify g fun
    | .cells _ t frozen => .cells cs t frozen
    | o => o
  let h1 := put w0.heap 0 (Lib.firstTab.map fun z => Value.int .u8 z).toArray
  let h2 := put h1 1 ((List.range 16).flatMap fun i => [Value.int .u8 (Lib.accLo i), Value.int .u8 (Lib.accHi i)]).toArray
  ({ w0 with heap := h2 } : World)).forCall (fun _ _ => 0) ⟨#[], #[.agg #[.int .i64 0, .int .i64 0, .string ⟨#[]⟩], .agg #[.int .i64 0, .int .i64 0, .string ⟨#[]⟩]], []⟩).memory #[.agg #[.int .i64 0, .int .i64 0, .string ⟨#[]⟩], .agg #[.int .i64 0, .int .i64 0, .string ⟨#[]⟩]] := by
  have hw : (DataW.whole enc Tryd.prog ((let w0 := World.holding Tryd.prog os ⟨#[], #[], []⟩
  let put (h : Array Obj) (g : Nat) (cs : Array Value) : Array Obj := h.modify g fun
    | .cells _ t frozen => .cells cs t frozen
    | o => o
  let h1 := put w0.heap 0 (Lib.firstTab.map fun z => Value.int .u8 z).toArray
  let h2 := put h1 1 ((List.range 16).flatMap fun i => [Value.int .u8 (Lib.accLo i), Value.int .u8 (Lib.accHi i)]).toArray
  ({ w0 with heap := h2 } : World)).forCall (fun _ _ => 0) ⟨#[], #[.agg #[.int .i64 0, .int .i64 0, .string ⟨#[]⟩], .agg #[.int .i64 0, .int .i64 0, .string ⟨#[]⟩]], []⟩).memory Tryd.f5.params.toList (OpenSpec.ofChange Rows.fnExactCompareSpec).vars false (#[.agg #[.int .i64 0, .int .i64 0, .string ⟨#[]⟩], .agg #[.int .i64 0, .int .i64 0, .string ⟨#[]⟩]] : Array Value).toList 8).map (fun x => (x.1, x.2.1)) =
      some ([.agg [.lit (.int .i64 0), .lit (.int .i64 0), .lit (.string [])], .agg [.lit (.int .i64 0), .lit (.int .i64 0), .lit (.string [])]], []) := by kernel_rfl
  obtain ⟨⟨x1, x2, x3⟩, hx, hx1⟩ := Option.map_eq_some_iff.1 hw
  simp only [Prod.mk.injEq] at hx1
  obtain ⟨rfl, rfl⟩ := hx1
  exact OpenSpec.preRow_of_cond 8 hx (by kernel_rfl) (fun k hk => by cases hk) (by kernel_rfl) (laid_met os _)
set_option maxHeartbeats 2000000 in
theorem lifted (os : Os) (started : os.Started) (H : Type) (enc : TypeId × Value → H) (F : Stop.Interp) :
    ReturnsInHanded {} Tryd.checked os 5 .any ((OpenSpec.ofChange Rows.fnExactCompareSpec).preRow enc Tryd.prog Tryd.f5 Rows.fnExactCompareRow.domain false Rows.fnExactCompareRow.laid) (((OpenSpec.ofChange Rows.fnExactCompareSpec).at F).post enc Tryd.prog Tryd.f5 false true false false) := by
  refine returnsInHanded_of_row (C := Tryd.checked) (s := (OpenSpec.ofChange Rows.fnExactCompareSpec)) own started (by kernel_rfl) Tryd.func5
    (witness_row_atRef (enc := enc) (C := Tryd.checked) false (let w0 := World.holding Tryd.prog os ⟨#[], #[], []⟩
  let put (h : Array Obj) (g : Nat) (cs : Array Value) : Array Obj := h.modify g fun
    | .cells _ t frozen => .cells cs t frozen
    | o => o
  let h1 := put w0.heap 0 (Lib.firstTab.map fun z => Value.int .u8 z).toArray
  let h2 := put h1 1 ((List.range 16).flatMap fun i => [Value.int .u8 (Lib.accLo i), Value.int .u8 (Lib.accHi i)]).toArray
  ({ w0 with heap := h2 } : World)) #[.agg #[.int .i64 0, .int .i64 0, .string ⟨#[]⟩], .agg #[.int .i64 0, .int .i64 0, .string ⟨#[]⟩]] rfl (by kernel_rfl) (by kernel_rfl) (by kernel_rfl) (witness_row os enc)) ?_
  intro W base args ds gs before hval0 hW _ _ _ hL _ _
  have hval : ∀ (j : Nat) t v, Tryd.f5.params[j]? = some t → args[j]? = some v → Value.okWide Tryd.prog W .any base t v := hval0
  have hW' := hW
  obtain ⟨p, q, hA0, hV0, rfl, _, _⟩ := hW
  have hA : DataW.TrodAll enc Tryd.prog W 0 (fun _ => true) true Tryd.f5.params.toList args.toList ds p := hA0
  rw [Tryd.params5] at hA hval
  obtain ⟨v0, v1, d0, d1, p0, p1, rfl, rfl, rfl, h0, h1⟩ := trodAll_two hA
  obtain ⟨rfl, rfl⟩ := trodVars_none hV0
  obtain ⟨k0, n0, s0, rfl, rfl, ws0, wk0, wn0, sh0⟩ := open_val (hval 0 23 v0 rfl rfl) h0
  obtain ⟨k1, n1, s1, rfl, rfl, ws1, wk1, wn1, sh1⟩ := open_val (hval 1 23 v1 rfl rfl) h1
  clear hA0 hV0 hval0
  have htab : Tabs W := tabs_of hL
  refine (walk k0 n0 s0 k1 n1 s1 W ws0 wk0 wn0 ws1 wk1 wn1 htab).mono ?_
  rintro e W' ⟨rfl, bel⟩
  refine ⟨_, rfl, _, _, _, [], [], [], hW', ?_, ?_, ?_, bel.frame _, fun h => by cases h⟩
  · exact trodAll_mk1 (shut_bool Tryd.underlying4 _)
  · exact trodAll_mk2 (sh0 _ _) (sh1 _ _)
  · rfl
theorem row_holds : Rows.FnExactCompareSaid :=
  OpenClaim.holds_of_cond 5 Tryd.f5 rfl rfl rfl rfl rfl rfl rfl ⟨rfl, rfl, rfl, rfl, rfl⟩ rfl rfl rfl rfl rfl (by kernel_rfl) Tryd.func5 (by kernel_rfl)
    (of_decide_eq_true (by kernel_rfl)) (by unfold Func.isWrapper; rw [if_neg (of_decide_eq_false (by kernel_rfl))]; exact ⟨rfl, rfl⟩)
    (fun os started H enc _ F0 => by rw [OpenClaim.pre_eq_preRow]; exact lifted os started H enc F0)
theorem card_holds : Rows.FnExactCompareCardSaid :=
  Claim7.holds_tied_plain_at .later [] [.data, .pinned] true (true, "acdb8656272c62cb2d281d4d69dc9b354dcb66bb48a9df9a64ee731e3f2c7cd2") false
    row_holds (fun _ h => by cases h) (by kernel_rfl) (fun _ h => by cases h) fnExactCompare_row_tie rfl ⟨rfl, rfl⟩ (by kernel_rfl) rfl
    (fun f fn hf hfn => by
      obtain rfl : f = 5 := Option.some.inj ((show Tryd.prog.funcNamed Tryd.f5.name = some 5 by kernel_rfl).symm.trans hf) |>.symm
      obtain rfl : fn = Tryd.f5 := (Option.some.inj (Tryd.func5.symm.trans hfn)).symm
      exact ⟨by kernel_rfl, fun j t ht => by
        rw [Tryd.params5] at ht
        have hm : t ∈ [23, 23] := by simpa using Array.mem_of_getElem? ht
        have hall : ([23, 23].all fun u => !Tryd.prog.wantsStandIn u) = true := by kernel_rfl
        exact (show Tryd.prog.wantsStandIn t = false by simpa using List.all_eq_true.1 hall t hm)⟩)
    (by kernel_rfl)
end CompareL
theorem FnExactCompare_holds : Rows.FnExactCompareCardSaid := CompareL.card_holds
#print axioms FnExactCompare_holds
end Go.Proofs.YtbcnfepfmoecjaaDoor
