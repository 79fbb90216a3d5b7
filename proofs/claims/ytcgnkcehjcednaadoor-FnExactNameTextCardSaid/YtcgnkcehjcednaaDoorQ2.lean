import Derived.Test.YtcgnkcehjcednaaDoorQ1
import Derived.StringKeys
namespace Go.Proofs.YtcgnkcehjcednaaDoor
open Go.ChangeShapes Go.WideShapes Go.ChangeAt Go.RowKit Go.Shelf Go.Maps
set_option linter.unusedVariables false
set_option linter.unusedSimpArgs false
set_option maxRecDepth 100000
theorem law9 : Keyed Tryd.prog 9 := string_keyed Tryd.underlying9
theorem zero53 (w : World) : (zeroValue 53).run Tryd.prog w = .ok (.agg #[]) w := by kernel_rfl
def resD (k : Nat) : DataW Unit := setOf (.agg []) ((resWords.take k).map Lit.string)
def Wd (w : World) (B : Nat) : Prop := ∀ j, j < 77 → w.cell? ⟨B, j, none⟩ = some (.string (resB.getD j ⟨#[]⟩))
theorem res_get (j : Nat) (h : j < 77) : (resB.getD j ⟨#[]⟩).data.toList = resWords.getD j [] ∧ resWords.take (j + 1) = resWords.take j ++ [resWords.getD j []] := by
  have hl : j < resWords.length := h
  refine ⟨?_, ?_⟩
  · unfold resB
    simp [List.getD, List.getElem?_eq_getElem hl]
  · rw [List.take_add_one]
    simp [List.getD, List.getElem?_eq_getElem hl]
theorem wd_new (w : World) : Wd (w.alloc (.cells (resB.map Value.string).toArray 9)) w.heap.size := by
  intro j hj
  have hl : j < resB.length := hj
  simp only [World.cell?]
  rw [heap_alloc_new]
  simp [List.getD, List.getElem?_eq_getElem hl]
theorem resD_succ (k : Nat) (h : k < 77) : resD (k + 1) = (resD k).put (.string (resB.getD k ⟨#[]⟩).data.toList) (.agg []) := by
  unfold resD
  rw [(res_get k h).2, List.map_append, List.map_cons, List.map_nil, setOf_snoc, (res_get k h).1]
theorem res_small (j : Nat) : (resB.getD j ⟨#[]⟩).size ≤ 20 := by
  have h : resB.all (fun b => decide (b.size ≤ 20)) = true := by kernel_rfl
  rcases Nat.lt_or_ge j resB.length with g | g
  · rw [List.getD, List.getElem?_eq_getElem g]
    have := List.all_eq_true.1 h _ (List.getElem_mem g)
    simpa using this
  · rw [List.getD, List.getElem?_eq_none g]; decide
set_option maxHeartbeats 1600000 in
theorem reservedWords_any (m : Int) (w : World) (hm : w.cell? ⟨2, 0, none⟩ = some (.int .i64 m)) (h2 : 2 < w.heap.size) :
    Calls Tryd.prog 33 #[] w fun e w' => e = .returned (.map (some w.heap.size)) ∧ w'.ownsMap Tryd.prog 9 (unitElem (H := Unit)) w.heap.size 77 (resD 77) ∧ Below w.heap.size w w' := by
  have hmm := @run_makeMap Tryd.prog
  have hm1 : ∀ o, (w.alloc o).cell? ⟨2, 0, none⟩ = some (.int .i64 m) := fun o => ((below_alloc w o).cell (p := ⟨2, 0, none⟩) h2).trans hm
  go_enter Tryd.func33, Tryd.ntmps33
  go_wp2_with (go_at_call 85; refine (split_any _ (by kernel_rfl) m _ (hm1 _)).mono ?_; rintro e w' ⟨rfl, rfl⟩)
  go_loopw [7] (fun i wr => ∃ k : Nat, k ≤ 77 ∧ i = .int .i64 k ∧ wr.ownsMap Tryd.prog 9 (unitElem (H := Unit)) w.heap.size k (resD k) ∧ Hid (Wd wr (w.heap.size + 1)) ∧ Below w.heap.size w wr ∧ w.heap.size + 2 ≤ wr.heap.size) (fun i _ => 77 - (intOf i).toNat)
  case atStart =>
    refine ⟨0, Nat.zero_le _, rfl, (World.ownsMap_made _ _ _ _).alloc _, ?_, ((Below.refl _ _).alloc (Nat.le_refl _) _).alloc (by simp) _, by simp⟩
    show Wd _ _
    have h := fun o => wd_new (w.alloc o)
    simp at h
    exact h _
  case round =>
    obtain ⟨k, hk, rfl, hown, HW, hnx, hws⟩ := hrel
    by_cases hlt : k < 77
    · have hck := HW.out k hlt
      have hsm := res_small k
      have HD := resD_succ k hlt
      obtain ⟨g, hg⟩ : ∃ g : ByteArray, resB.getD k ⟨#[]⟩ = g := ⟨_, rfl⟩
      rw [hg] at hck hsm HD
      have HD' : Hid (resD (k + 1) = (resD k).put (.string g.data.toList) (.agg [])) := HD
      clear HD hg
      have hkey : keyOf Tryd.prog 9 (.string g) = some (.string g.data.toList) := Go.WideMaps.keyOf_string_mk Tryd.underlying9 (by unfold maxLen; omega)
      go_wp2_with (at_mapUpdate; refine wpList_mapUpdate_own _ rfl _ _ _ 55 rfl 9 53 law9 Tryd.underlying55 (unitElem (H := Unit)) w.heap.size k _ rfl hown (by unfold maxLen; omega) _ _ _ rfl rfl hkey _ [] unitElem_mk ?_; intro w1 hown1 hgrow1)
      have hs1 := hgrow1.size
      go_roundw
      case rel =>
        refine ⟨k + 1, by omega, by go_num, by rw [HD'.out]; exact hown1, ?_, hnx.grown hgrow1 hnx.size (fun j hj => by cases hj; exact Nat.le_refl _), by omega⟩
        intro j hj
        rw [World.cell?_of_block (a := ⟨w.heap.size + 1, j, none⟩) (hgrow1.block (w.heap.size + 1) (by omega) (fun z => by have := Option.some.inj z; omega))]
        exact HW.out j hj
      case measure => simp [intOf]; omega
    · have hk77 : k = 77 := by omega
      subst hk77
      go_wp2
      go_ret
      exact ⟨rfl, hown, hnx⟩
def isRes (l : List UInt8) : Bool := resWords.contains l
theorem res_keys (k : Nat) : ∀ x ∈ (resWords.take k).map Lit.string, WideAt.IsKeyLit x := by
  intro x hx
  obtain ⟨l, _, rfl⟩ := List.mem_map.1 hx
  trivial
theorem has_res (s : ByteArray) : Maps.has (resD 77) (.string s.data.toList) = isRes s.data.toList := by
  unfold resD
  rw [has_setOf _ _ _ (res_keys 77)]
  have : resWords.take 77 = resWords := List.take_of_length_le (by decide)
  rw [this]
  unfold isRes
  rw [List.any_map]
  rw [Bool.eq_iff_iff]
  simp only [List.any_eq_true, List.contains_iff_mem]
  constructor
  · rintro ⟨x, hx, h⟩
    have : x = s.data.toList := by simpa [Lit.sameKey] using h
    rw [← this]; exact hx
  · intro h
    exact ⟨_, h, by simp [Lit.sameKey]⟩
set_option maxHeartbeats 800000 in
theorem reserved_any (s : ByteArray) (m : Int) (w : World) (hs : s.size ≤ maxLen) (hm : w.cell? ⟨2, 0, none⟩ = some (.int .i64 m)) (h2 : 2 < w.heap.size) :
    Calls Tryd.prog 12 #[.string s] w fun e w' => e = .returned (.bool (isRes s.data.toList)) ∧ Below w.heap.size w w' := by
  have hkey : keyOf Tryd.prog 9 (.string s) = some (.string s.data.toList) := Go.WideMaps.keyOf_string_mk Tryd.underlying9 hs
  have HH : Hid (Maps.has (resD 77) (.string s.data.toList) = isRes s.data.toList) := has_res s
  go_enter Tryd.func12, Tryd.ntmps12
  go_wp2_with (first | (go_at_call 33; refine (reservedWords_any m _ hm h2).mono ?_; rintro e w1 ⟨rfl, hown, hb1⟩) | (at_lookup; refine wpList_lookup_own_unit _ rfl _ _ 55 rfl 9 53 law9 Tryd.underlying55 (zero53 _) w.heap.size 77 _ rfl hown _ _ rfl hkey ?_))
  go_ret
  exact ⟨ret_bool HH.out, hb1.alloc hb1.size _⟩
end Go.Proofs.YtcgnkcehjcednaaDoor
