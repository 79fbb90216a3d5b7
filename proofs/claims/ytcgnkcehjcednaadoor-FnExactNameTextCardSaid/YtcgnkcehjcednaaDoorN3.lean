import Derived.Test.YtcgnkcehjcednaaDoorN2
import Derived.Test.YtcgnkcehjcednaaDoorQ2
import Derived.Test.YtcgnkcehjcednaaDoorQ5
namespace Go.Proofs.YtcgnkcehjcednaaDoor
open Go.ChangeShapes Go.WideShapes Go.ChangeAt Go.RowKit Go.Shelf
set_option linter.unusedVariables false
set_option linter.unusedSimpArgs false
set_option maxRecDepth 100000
/-- What NameText answers. -/
def nameL (x : List UInt8) : List UInt8 := if isNameL x = true then (if isWordL x = true ∧ isRes x = false then x else markL 34 x) else [63]
theorem okB_2 (x : List UInt8) : okB 2 x = isNameL x := by
  have h := okB_iff 2 x
  have h2 : tokOK 2 x ↔ isNameL x = true := by unfold tokOK; simp
  cases a : okB 2 x <;> cases b : isNameL x <;> simp_all
theorem okB_1 (x : List UInt8) : okB 1 x = isWordL x := by
  have h := okB_iff 1 x
  have h2 : tokOK 1 x ↔ isWordL x = true := by unfold tokOK; simp
  cases a : okB 1 x <;> cases b : isWordL x <;> simp_all
set_option maxHeartbeats 1600000 in
theorem nameText_any (x : ByteArray) (w : World) (hs : x.size ≤ 1048576) (hT : Tabs w) (hM : ML w) :
    Calls Tryd.prog 19 #[.string x] w fun e w' => e = .returned (.string ⟨(nameL x.data.toList).toArray⟩) ∧ Below w.heap.size w w' := by
  have hT1 : ∀ o, Tabs (w.alloc o) := fun o => tabs_below hT (below_alloc _ _)
  have hM1 : ∀ o, ML (w.alloc o) := fun o => hM.below (below_alloc _ _)
  have hk2 := fun w hT hM => tokenOK_any 2 0 x w hs hT hM
  have hk1 := fun w hT hM => tokenOK_any 1 0 x w hs hT hM
  rw [okB_2] at hk2
  rw [okB_1] at hk1
  have hrv := fun w (hM : ML w) => let ⟨h2, m, hm⟩ := hM; reserved_any x m w (by unfold maxLen; omega) hm h2
  have htt := fun w hM => tokenText_any 2 0 x w hs hM
  have htx : tokText 2 x.data.toList = markL 34 x.data.toList := rfl
  rw [htx] at htt
  obtain ⟨R, hR⟩ : ∃ R, R = nameL x.data.toList := ⟨_, rfl⟩
  rw [← hR]
  unfold nameL at hR
  cases hn : isNameL x.data.toList
  · rw [hn] at hk2 hR
    have HR : Hid (R = [63]) := by show _ = _; simpa using hR
    clear hR
    go_enter Tryd.func19, Tryd.ntmps19
    go_wp2_with (go_at_call 47; refine (hk2 _ (hT1 _) (hM1 _)).mono ?_; rintro e w1 ⟨rfl, hb1⟩)
    go_ret
    exact ⟨ret_str (by rw [HR.out]), ((Below.refl _ _).alloc (Nat.le_refl _) _).trans (hb1.mono (by simp))⟩
  · rw [hn] at hk2 hR
    simp only [if_true] at hR
    cases hw : isWordL x.data.toList
    · rw [hw] at hk1 hR
      have HR : Hid (R = markL 34 x.data.toList) := by show _ = _; simpa using hR
      clear hR
      go_enter Tryd.func19, Tryd.ntmps19
      go_wp2_with (go_at_call 47; refine (hk2 _ (hT1 _) (hM1 _)).mono ?_; rintro e w1 ⟨rfl, hb1⟩; obtain ⟨hc1, hf1⟩ := bcell hb1; have hz1 : w.heap.size < w1.heap.size := (by have := hb1.size; simp at this; omega); have bw1 : Below w.heap.size w w1 := ((Below.refl _ _).alloc (Nat.le_refl _) _).trans (hb1.mono (by simp)); clear hb1 hk2)
      refine (hk1 _ (tabs_below hT bw1) (hM.below bw1)).mono ?_
      rintro e w2 ⟨rfl, hb2⟩
      obtain ⟨hc2, hf2⟩ := bcell hb2
      have hz2 : w.heap.size < w2.heap.size := by have := hb2.size; omega
      have bw2 : Below w.heap.size w w2 := bw1.trans (hb2.mono (Nat.le_of_lt hz1))
      go_wp2_with (go_at_call 48; refine (htt _ (hM.below bw2)).mono ?_; rintro e w3 ⟨rfl, hb3⟩)
      go_ret
      exact ⟨ret_str (by rw [HR.out]), bw2.trans (hb3.mono (Nat.le_of_lt hz2))⟩
    · rw [hw] at hk1 hR
      cases hv : isRes x.data.toList
      · have HR : Hid (R = x.data.toList) := by rw [hv] at hR; show _ = _; simpa using hR
        rw [hv] at hrv
        clear hR
        go_enter Tryd.func19, Tryd.ntmps19
        go_wp2_with (go_at_call 47; refine (hk2 _ (hT1 _) (hM1 _)).mono ?_; rintro e w1 ⟨rfl, hb1⟩; obtain ⟨hc1, hf1⟩ := bcell hb1; have hz1 : w.heap.size < w1.heap.size := (by have := hb1.size; simp at this; omega); have bw1 : Below w.heap.size w w1 := ((Below.refl _ _).alloc (Nat.le_refl _) _).trans (hb1.mono (by simp)); clear hb1 hk2)
        refine (hk1 _ (tabs_below hT bw1) (hM.below bw1)).mono ?_
        rintro e w2 ⟨rfl, hb2⟩
        obtain ⟨hc2, hf2⟩ := bcell hb2
        have hz2 : w.heap.size < w2.heap.size := by have := hb2.size; omega
        have bw2 : Below w.heap.size w w2 := bw1.trans (hb2.mono (Nat.le_of_lt hz1))
        go_wp2_with (go_at_call 12; refine (hrv _ (hM.below bw2)).mono ?_; rintro e w3 ⟨rfl, hb3⟩)
        go_ret
        exact ⟨ret_str (ba_ext (by rw [HR.out])), bw2.trans (hb3.mono (Nat.le_of_lt hz2))⟩
      · have HR : Hid (R = markL 34 x.data.toList) := by rw [hv] at hR; show _ = _; simpa using hR
        rw [hv] at hrv
        clear hR
        go_enter Tryd.func19, Tryd.ntmps19
        go_wp2_with (go_at_call 47; refine (hk2 _ (hT1 _) (hM1 _)).mono ?_; rintro e w1 ⟨rfl, hb1⟩; obtain ⟨hc1, hf1⟩ := bcell hb1; have hz1 : w.heap.size < w1.heap.size := (by have := hb1.size; simp at this; omega); have bw1 : Below w.heap.size w w1 := ((Below.refl _ _).alloc (Nat.le_refl _) _).trans (hb1.mono (by simp)); clear hb1 hk2)
        refine (hk1 _ (tabs_below hT bw1) (hM.below bw1)).mono ?_
        rintro e w2 ⟨rfl, hb2⟩
        obtain ⟨hc2, hf2⟩ := bcell hb2
        have hz2 : w.heap.size < w2.heap.size := by have := hb2.size; omega
        have bw2 : Below w.heap.size w w2 := bw1.trans (hb2.mono (Nat.le_of_lt hz1))
        go_wp2_with (go_at_call 12; refine (hrv _ (hM.below bw2)).mono ?_; rintro e w3 ⟨rfl, hb3⟩; obtain ⟨hc3, hf3⟩ := bcell hb3; have hz3 : w.heap.size < w3.heap.size := (by have := hb3.size; omega); have bw3 : Below w.heap.size w w3 := bw2.trans (hb3.mono (Nat.le_of_lt hz2)); clear hb3)
        refine (htt _ (hM.below bw3)).mono ?_
        rintro e w4 ⟨rfl, hb4⟩
        go_wp2
        go_ret
        exact ⟨ret_str (by rw [HR.out]), bw3.trans (hb4.mono (Nat.le_of_lt hz3))⟩
end Go.Proofs.YtcgnkcehjcednaaDoor
