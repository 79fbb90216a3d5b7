import Derived.Test.YtjpcgnkgdaphoaaDoorQ1
import Derived.StringKeys
namespace Go.Proofs.YtjpcgnkgdaphoaaDoor
open Go.ChangeShapes Go.WideShapes Go.ChangeAt Go.RowKit Go.Shelf Go.Maps
set_option linter.unusedVariables false
set_option linter.unusedSimpArgs false
set_option maxRecDepth 100000
theorem law9 : Keyed Tryd.prog 9 := string_keyed Tryd.underlying9
theorem zero53 (w : World) : (zeroValue 24).run Tryd.prog w = .ok (.agg #[]) w := by kernel_rfl
def resD (k : Nat) : DataW Unit := setOf (.agg []) ((resWords.take k).map Lit.string)
def Wd (w : World) (B : Nat) : Prop := ∀ j, j < 77 → w.cell? ⟨B, j, none⟩ = some (.string (resB.getD j ⟨#[]⟩))
theorem res_get (j : Nat) (h : j < 77) : (resB.getD j ⟨#[]⟩).data.toList = resWords.getD j [] ∧ resWords.take (j + 1) = resWords.take j ++ [resWords.getD j []] := by
  have hl : j < resWords.length := h
  refine ⟨?_, ?_⟩
  · unfold resB
    simp [List.getD, List.getElem?_eq_getElem hl]
  · rw [List.take_add_one]
    simp [List.getD, List.getElem?_eq_getElem hl]
theorem wd_new (w : World) : Wd (w.alloc (.cells (resB.map Value.string).toArray 9)) w.heap.size := by
  intro j hj
  have hl : j < resB.length := hj
  simp only [World.cell?]
  rw [heap_alloc_new]
  simp [List.getD, List.getElem?_eq_getElem hl]
theorem resD_succ (k : Nat) (h : k < 77) : resD (k + 1) = (resD k).put (.string (resB.getD k ⟨#[]⟩).data.toList) (.agg []) := by
  unfold resD
  rw [(res_get k h).2, List.map_append, List.map_cons, List.map_nil, setOf_snoc, (res_get k h).1]
theorem res_small (j : Nat) : (resB.getD j ⟨#[]⟩).size ≤ 20 := by
  have h : resB.all (fun b => decide (b.size ≤ 20)) = true := by kernel_rfl
  rcases Nat.lt_or_ge j resB.length with g | g
  · rw [List.getD, List.getElem?_eq_getElem g]
    have := List.all_eq_true.1 h _ (List.getElem_mem g)
    simpa using this
  · rw [List.getD, List.getElem?_eq_none g]; decide
theorem run_mapHint (w : World) : (Instr.makeMap 26 (some (.int .i64 77))).run Tryd.prog w = .ok (.map (some w.heap.size)) (w.alloc (.map #[] 0)) := by
  simp [Instr.makeMap, run_underlying Tryd.underlying26, asInt, asIntOf, Result.andThen]
theorem wd_alloc {w : World} {B : Nat} (h : Wd w B) (hB : B < w.heap.size) (o : Obj) : Wd (w.alloc o) B := by
  intro j hj
  exact ((below_alloc w o).cell (p := ⟨B, j, none⟩) hB).trans (h j hj)
set_option maxHeartbeats 1600000 in
theorem reservedWords_any (m : Int) (w : World) (hm : w.cell? ⟨0, 0, none⟩ = some (.int .i64 m)) :
    Calls Tryd.prog 9 #[] w fun e w' => e = .returned (.map (some (w.heap.size + 1))) ∧ w'.ownsMap Tryd.prog 9 (unitElem (H := Unit)) (w.heap.size + 1) 77 (resD 77) ∧ Below w.heap.size w w' := by
  have hmm := run_mapHint
  go_enter Tryd.func9, Tryd.ntmps9
  go_wp2_with (go_at_call 14; refine (split_any _ (by kernel_rfl) m _ hm).mono ?_; rintro e w' ⟨rfl, rfl⟩)
  go_loopw [11] (fun i wr => ∃ k : Nat, k ≤ 77 ∧ i = .int .i64 k ∧ wr.ownsMap Tryd.prog 9 (unitElem (H := Unit)) (w.heap.size + 1) k (resD k) ∧ Hid (Wd wr w.heap.size) ∧ Below w.heap.size w wr ∧ w.heap.size + 2 ≤ wr.heap.size) (fun i _ => 77 - (intOf i).toNat)
  case atStart =>
    have hmade := World.ownsMap_made (w.alloc (.cells (resB.map Value.string).toArray 9)) Tryd.prog 9 (unitElem (H := Unit))
    simp at hmade
    refine ⟨0, Nat.zero_le _, rfl, hmade, ?_, ((Below.refl _ _).alloc (Nat.le_refl _) _).alloc (by simp) _, by simp⟩
    show Wd _ _
    exact wd_alloc (wd_new w) (by simp) _
  case round =>
    obtain ⟨k, hk, rfl, hown, HW, hnx, hws⟩ := hrel
    by_cases hlt : k < 77
    · have hck := HW.out k hlt
      have hsm := res_small k
      have HD := resD_succ k hlt
      obtain ⟨g, hg⟩ : ∃ g : ByteArray, resB.getD k ⟨#[]⟩ = g := ⟨_, rfl⟩
      rw [hg] at hck hsm HD
      have HD' : Hid (resD (k + 1) = (resD k).put (.string g.data.toList) (.agg [])) := HD
      clear HD hg
      have hkey : keyOf Tryd.prog 9 (.string g) = some (.string g.data.toList) := Go.WideMaps.keyOf_string_mk Tryd.underlying9 (by unfold maxLen; omega)
      go_wp2_with (at_mapUpdate; refine wpList_mapUpdate_own _ rfl _ _ _ 26 rfl 9 24 law9 Tryd.underlying26 (unitElem (H := Unit)) (w.heap.size + 1) k _ rfl hown (by unfold maxLen; omega) _ _ _ rfl rfl hkey _ [] unitElem_mk ?_; intro w1 hown1 hgrow1)
      have hs1 := hgrow1.size
      go_roundw
      case rel =>
        refine ⟨k + 1, by omega, by go_num, by rw [HD'.out]; exact hown1, ?_, hnx.grown hgrow1 hnx.size (fun j hj => by cases hj; omega), by omega⟩
        intro j hj
        rw [World.cell?_of_block (a := ⟨w.heap.size, j, none⟩) (hgrow1.block w.heap.size (by omega) (fun z => by have := Option.some.inj z; omega))]
        exact HW.out j hj
      case measure => simp [intOf]; omega
    · have hk77 : k = 77 := by omega
      subst hk77
      go_wp2
      go_ret
      exact ⟨rfl, hown, hnx⟩
def isRes (l : List UInt8) : Bool := resWords.contains l
theorem res_keys (k : Nat) : ∀ x ∈ (resWords.take k).map Lit.string, WideAt.IsKeyLit x := by
  intro x hx
  obtain ⟨l, _, rfl⟩ := List.mem_map.1 hx
  trivial
theorem has_res (s : ByteArray) : Maps.has (resD 77) (.string s.data.toList) = isRes s.data.toList := by
  unfold resD
  rw [has_setOf _ _ _ (res_keys 77)]
  have : resWords.take 77 = resWords := List.take_of_length_le (by decide)
  rw [this]
  unfold isRes
  rw [List.any_map]
  rw [Bool.eq_iff_iff]
  simp only [List.any_eq_true, List.contains_iff_mem]
  constructor
  · rintro ⟨x, hx, h⟩
    have : x = s.data.toList := by simpa [Lit.sameKey] using h
    rw [← this]; exact hx
  · intro h
    exact ⟨_, h, by simp [Lit.sameKey]⟩
set_option maxHeartbeats 800000 in
theorem reserved_any (s : ByteArray) (m : Int) (w : World) (hs : s.size ≤ maxLen) (hm : w.cell? ⟨0, 0, none⟩ = some (.int .i64 m)) :
    Calls Tryd.prog 6 #[.string s] w fun e w' => e = .returned (.bool (isRes s.data.toList)) ∧ Below w.heap.size w w' := by
  have hkey : keyOf Tryd.prog 9 (.string s) = some (.string s.data.toList) := Go.WideMaps.keyOf_string_mk Tryd.underlying9 hs
  have HH : Hid (Maps.has (resD 77) (.string s.data.toList) = isRes s.data.toList) := has_res s
  go_enter Tryd.func6, Tryd.ntmps6
  go_wp2_with (first | (go_at_call 9; refine (reservedWords_any m _ hm).mono ?_; rintro e w1 ⟨rfl, hown, hb1⟩) | (at_lookup; refine wpList_lookup_own_unit _ rfl _ _ 26 rfl 9 24 law9 Tryd.underlying26 (zero53 _) (w.heap.size + 1) 77 _ rfl hown _ _ rfl hkey ?_))
  go_ret
  exact ⟨ret_bool HH.out, hb1.alloc hb1.size _⟩
end Go.Proofs.YtjpcgnkgdaphoaaDoor
