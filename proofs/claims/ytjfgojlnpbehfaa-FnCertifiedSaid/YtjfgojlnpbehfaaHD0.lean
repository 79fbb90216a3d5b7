import Derived.Test.YtjfgojlnpbehfaaQC
namespace Go.Proofs.Ytjfgojlnpbehfaa
open Go.ChangeShapes Go.WideShapes Go.ChangeAt Go.RowKit
set_option linter.unusedVariables false
set_option linter.unusedSimpArgs false
set_option maxRecDepth 100000
theorem mode_any (c : Nat) (A : Int) (w : World) (h : IsCur w c A) (hA : A ≤ 100000000) :
    Calls Try.prog 34 #[.pointer (some ⟨c, 0, none⟩)] w fun e w' => Drawn c (A + 2) 3 w e w' := by
  have HP := hid (pick_any c A 10 w h hA (by omega) (by omega))
  clear h
  go_enter Try.func34, Try.ntmps34
  go_wp2_with (go_at_call 45; fail)
  refine HP.out.mono ?_
  rintro e w1 ⟨r, r0, r1, rfl, hc, hu⟩
  have HC := hid hc
  have HU := hid hu
  clear hc hu HP
  by_cases h9 : r = 9
  · have e9 : (r == 9) = true := by simpa using h9
    clear h9
    go_wp2
    go_ret
    exact ⟨2, by omega, by omega, rfl, HC.out, HU.out⟩
  · have e9 : (r == 9) = false := by simpa using h9
    by_cases h7 : r = 7
    · have e7 : (r == 7) = true := by simpa using h7
      clear h7 h9
      go_wp2
      go_ret
      exact ⟨1, by omega, by omega, rfl, HC.out, HU.out⟩
    · have e7 : (r == 7) = false := by simpa using h7
      by_cases h8 : r = 8
      · have e8 : (r == 8) = true := by simpa using h8
        clear h7 h8 h9
        go_wp2
        go_ret
        exact ⟨1, by omega, by omega, rfl, HC.out, HU.out⟩
      · have e8 : (r == 8) = false := by simpa using h8
        clear h7 h8 h9
        go_wp2
        go_ret
        exact ⟨0, by omega, by omega, rfl, HC.out, HU.out⟩
theorem own_same {w w' : World} {b e k n : Nat} {v : Value} {xs : List Value} (h : w.ownsRow b e k v n xs) (hs : ∀ j, v.ownBlock = some j → w'.heap[j]? = w.heap[j]?) : w'.ownsRow b e k v n xs := by
  obtain ⟨h1, h2⟩ := h
  refine ⟨h1, ?_⟩
  rcases h2 with h2 | ⟨g, cap, cur, rfl, hg1, hg2, hg3⟩
  · exact .inl h2
  · exact .inr ⟨g, cap, cur, rfl, hg1, (hs g rfl).trans hg2, hg3⟩
theorem own_base {w : World} {b b' e k n : Nat} {v : Value} {xs : List Value} (h : w.ownsRow b e k v n xs) (hb : b' ≤ b) : w.ownsRow b' e k v n xs := by
  obtain ⟨h1, h2⟩ := h
  refine ⟨h1, ?_⟩
  rcases h2 with h2 | ⟨g, cap, cur, rfl, hg1, hg2⟩
  · exact .inl h2
  · exact .inr ⟨g, cap, cur, rfl, Nat.le_trans hb hg1, hg2⟩
theorem own_type {w : World} {b e k n j : Nat} {v : Value} {xs : List Value} (h : w.ownsRow b e k v n xs) (hj : v.ownBlock = some j) : ∃ cur, w.heap[j]? = some (.cells cur e (0, 0)) := by
  obtain ⟨_, h2⟩ := h
  rcases h2 with ⟨rfl, _⟩ | ⟨g, cap, cur, rfl, _, hg2, _⟩
  · simp [Value.ownBlock] at hj
  · simp [Value.ownBlock] at hj
    subst hj
    exact ⟨cur, hg2⟩
theorem own_ne {w : World} {b b' e e' k k' n n' j : Nat} {v v' : Value} {xs xs' : List Value} (h : w.ownsRow b e k v n xs) (h' : w.ownsRow b' e' k' v' n' xs') (he : e ≠ e') (hj : v.ownBlock = some j) : v'.ownBlock ≠ some j := by
  intro hj'
  obtain ⟨c, hc⟩ := own_type h hj
  obtain ⟨c', hc'⟩ := own_type h' hj'
  rw [hc] at hc'
  simp at hc'
  exact he hc'.2
theorem infoI1 : (Try.prog.info? 3).map (fun i => (i.zero, i.size, i.bytes)) = some (some (.int .i64 0), 1, 8) := by kernel_rfl
/-- A row of numbers that is owned. -/
def IOw (b : Nat) (w : World) (v : Value) (xs : List Int) : Prop := w.ownsRow b 3 1 v xs.length (xs.map (Value.int .i64))
theorem IOw.form {b : Nat} {w : World} {v : Value} {xs : List Int} (h : IOw b w v xs) : ∃ oa oc, v = .slice oa xs.length oc := by
  rcases h.2 with ⟨rfl, h0⟩ | ⟨g, cap, cur, rfl, _⟩
  · exact ⟨none, 0, by rw [h0]⟩
  · exact ⟨_, _, rfl⟩
theorem IOw.push {b : Nat} {w : World} {v : Value} {xs : List Int} {x : Int} (h : w.ownsRow b 3 1 v (xs.length + 1) (xs.map (Value.int .i64) ++ [.int .i64 x])) : IOw b w v (xs ++ [x]) := by
  unfold IOw
  rw [List.map_append, List.length_append]
  exact h
theorem IOw.below {b : Nat} {w w' : World} {v : Value} {xs : List Int} (h : IOw b w v xs) (hb : Below w.heap.size w w') : IOw b w' v xs := own_below h hb
theorem IOw.upd {b c : Nat} {w w' : World} {v : Value} {xs : List Int} (h : IOw b w v xs) (u : Upd c w w') (hc : c < b) : IOw b w' v xs := own_same h (fun j hj => u.block j (World.ownsRow.lt h j hj).2 (by have := (World.ownsRow.lt h j hj).1; omega))
theorem IOw.made (w : World) {b : Nat} (hb : b ≤ w.heap.size) : IOw b (w.alloc (.cells #[] 3)) (.slice (some ⟨w.heap.size, 0, none⟩) 0 0) [] := World.ownsRow_made w #[] 0 hb (by unfold maxLen; omega) (by simp)
/-- A draw so far: the cursor, a row, all other older blocks as they were. -/
structure DrT (c : Nat) (w W : World) (A : Int) (v : Value) (xs : List Int) : Prop where
  cur : IsCur W c A
  row : IOw w.heap.size W v xs
  upd : Upd c w W
theorem DrT.step {c : Nat} {w W W' : World} {A B : Int} {v : Value} {xs : List Int} (h : DrT c w W A v xs) (hc : c < w.heap.size) (u : Upd c W W') (hi : IsCur W' c B) : DrT c w W' B v xs := ⟨hi, h.row.upd u hc, h.upd.trans u⟩
theorem DrT.alloc {c : Nat} {w W : World} {A : Int} {v : Value} {xs : List Int} (h : DrT c w W A v xs) (o : Obj) : DrT c w (W.alloc o) A v xs := ⟨h.cur.below (below_alloc _ _) h.cur.lt, h.row.below (below_alloc _ _), h.upd.trans (Upd.of_below (below_alloc _ _))⟩
theorem DrT.mono {c : Nat} {w W : World} {A B : Int} {v : Value} {xs : List Int} (h : DrT c w W A v xs) (hAB : A ≤ B) : DrT c w W B v xs := ⟨h.cur.mono hAB, h.row, h.upd⟩
theorem DrT.grown {c : Nat} {w W W' : World} {A : Int} {v v' : Value} {xs : List Int} {x : Int} (h : DrT c w W A v xs) (hc : c < w.heap.size) (hg : W.grownBy W' v.ownBlock) (ho : W'.ownsRow w.heap.size 3 1 v' (xs.length + 1) (xs.map (Value.int .i64) ++ [.int .i64 x])) : DrT c w W' A v' (xs ++ [x]) :=
  have hb : ∀ k, k < w.heap.size → W'.heap[k]? = W.heap[k]? := fun k hk => hg.block k (Nat.lt_of_lt_of_le hk h.upd.size) (fun e => by have := (World.ownsRow.lt h.row k e.symm).1; omega)
  ⟨h.cur.same (fun k hk => hb k (by omega)) (Nat.lt_of_lt_of_le h.cur.lt hg.size), IOw.push ho, ⟨hg.os.trans h.upd.os, hg.tape.trans h.upd.tape, hg.output.trans h.upd.output, Nat.le_trans h.upd.size hg.size, fun k hk hk2 => (hb k hk).trans (h.upd.block k hk hk2)⟩⟩
/-- What a draw of tables answers. -/
def TabD (c : Nat) (A : Int) (w : World) (e : Ending) (w' : World) : Prop := ∃ v xs, e = .returned v ∧ IOw w.heap.size w' v xs ∧ xs.length ≤ 4 ∧ IsCur w' c A ∧ Upd c w w'
set_option maxHeartbeats 4000000 in
theorem drawTables_any (c : Nat) (A : Int) (w : World) (h : IsCur w c A) (hA : A ≤ 1000000) : Calls Try.prog 46 #[.pointer (some ⟨c, 0, none⟩)] w fun e w' => TabD c (A + 8) w e w' := by
  obtain ⟨i0, hi, hz0, hz1, hz2⟩ := info_parts infoI1
  have hc := h.lt
  have HD0 : Hid (DrT c w (w.alloc (.cells #[] 3)) (A + 2 * ((0 : Nat) : Int)) (.slice (some ⟨w.heap.size, 0, none⟩) 0 0) []) := (⟨(h.below (below_alloc _ _) hc).mono (by omega), IOw.made w (Nat.le_refl _), Upd.of_below (below_alloc _ _)⟩ : DrT c w (w.alloc (.cells #[] 3)) (A + 2 * ((0 : Nat) : Int)) (.slice (some ⟨w.heap.size, 0, none⟩) 0 0) [])
  clear h
  go_enter Try.func46, Try.ntmps46
  go_wp2
  go_loopw [3, 4] (fun ov kv wx => ∃ (k : Nat) (xs : List Int) (oa : Option Addr) (oc : Nat), k ≤ 4 ∧ kv = .int .i64 (k : Int) ∧ ov = .slice oa xs.length oc ∧ xs.length ≤ k ∧ Hid (DrT c w wx (A + 2 * (k : Int)) (.slice oa xs.length oc) xs)) (fun _ kv _ => 4 - (intOf kv).toNat)
  case atStart => exact ⟨0, [], _, _, Nat.zero_le _, rfl, rfl, Nat.zero_le _, HD0⟩
  case round =>
    clear HD0
    obtain ⟨k, xs, oa, oc, hk, rfl, rfl, hxl, HD⟩ := hrel
    by_cases hlt : k < 4
    · have hli : (k : Int) < 4 := by omega
      go_wp2_with (go_at_call 45; fail)
      refine (pick_any c _ 3 _ HD.out.cur (by omega) (by omega) (by omega)).mono ?_
      rintro e w3 ⟨r, r0, r1, rfl, hcc, huu⟩
      have HD3 := hid (HD.out.step hc huu hcc)
      clear HD hcc huu
      by_cases hr : r = 0
      · have hr' : (r == 0) = true := by simpa using hr
        have HDA := hid (HD3.out.alloc (.cells #[.int .i64 (k : Int)] 3))
        have HN : Hid (∀ (j : Nat) (u : Value), [Value.int .i64 (k : Int)][j]? = some u → (w3.alloc (.cells #[.int .i64 (k : Int)] 3)).cell? ((⟨w3.heap.size, 0, none⟩ : Addr).add j) = some u) := (fun j u hj => by
          have hl : j = 0 := by
            by_cases h : j < 1
            · omega
            · rw [List.getElem?_eq_none (by simp; omega)] at hj; cases hj
          subst hl
          rw [Addr.add_lit, Nat.zero_add, World.cell?_alloc_at _ _ _ _ (by simp)]
          exact hj : ∀ (j : Nat) (u : Value), [Value.int .i64 (k : Int)][j]? = some u → (w3.alloc (.cells #[.int .i64 (k : Int)] 3)).cell? ((⟨w3.heap.size, 0, none⟩ : Addr).add j) = some u)
        have hsA : w.heap.size ≤ (w3.alloc (.cells #[.int .i64 (k : Int)] 3)).heap.size := HDA.out.upd.size
        clear HD3 hr
        go_wp2_with (at_builtin
                     refine wpList_append_own _ rfl (.tmp 13) (.tmp 15) 23 rfl w.heap.size 3 i0 (.int .i64 0) 1 8 Try.underlying23 hi hz0 hz1 hz2 rfl (by decide) _ _ _ rfl HDA.out.row ⟨w3.heap.size, 0, none⟩ 1 1 [.int .i64 (k : Int)] rfl rfl HN.out (by intro u hu; simp at hu; subst hu; rfl) (by unfold maxLen; omega) (by omega) hsA ?_
                     intro v7 w7 hown hgrow hiff
                     clear hiff
                     have HD7 := hid (HDA.out.grown hc hgrow hown)
                     obtain ⟨oa7, oc7, hv7⟩ := HD7.out.row.form
                     subst hv7
                     clear hown hgrow HDA HN)
        go_roundw
        case rel => exact ⟨k + 1, xs ++ [(k : Int)], oa7, oc7, by omega, by go_num, (by simp), by simp; omega, hid (HD7.out.mono (by omega))⟩
        case measure => simp [intOf]; omega
      · have hr' : (r == 0) = false := by simpa using hr
        clear hr
        go_wp2
        go_roundw
        case rel => exact ⟨k + 1, xs, oa, oc, by omega, by go_num, rfl, by omega, hid (HD3.out.mono (by omega))⟩
        case measure => simp [intOf]; omega
    · have hli : ¬ (k : Int) < 4 := by omega
      go_wp2
      go_ret
      exact ⟨_, xs, rfl, HD.out.row, by omega, HD.out.cur.mono (by omega), HD.out.upd⟩
end Go.Proofs.Ytjfgojlnpbehfaa
