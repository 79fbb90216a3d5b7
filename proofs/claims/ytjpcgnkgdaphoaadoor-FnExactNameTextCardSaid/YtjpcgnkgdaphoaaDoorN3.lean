import Derived.Test.YtjpcgnkgdaphoaaDoorN2
import Derived.Test.YtjpcgnkgdaphoaaDoorQ2
import Derived.Test.YtjpcgnkgdaphoaaDoorQ5
namespace Go.Proofs.YtjpcgnkgdaphoaaDoor
open Go.ChangeShapes Go.WideShapes Go.ChangeAt Go.RowKit Go.Shelf Go.Maps
set_option linter.unusedVariables false
set_option linter.unusedSimpArgs false
set_option maxRecDepth 100000
/-- What NameText answers. -/
def nameL (x : List UInt8) : List UInt8 := if isNameL x = true then (if isWordL x = true ∧ isRes x = false then x else markL 34 x) else [63]
theorem okB_2 (x : List UInt8) : okB 2 x = isNameL x := by
  have h := okB_iff 2 x
  have h2 : tokOK 2 x ↔ isNameL x = true := by unfold tokOK; simp
  cases a : okB 2 x <;> cases b : isNameL x <;> simp_all
theorem okB_1 (x : List UInt8) : okB 1 x = isWordL x := by
  have h := okB_iff 1 x
  have h2 : tokOK 1 x ↔ isWordL x = true := by unfold tokOK; simp
  cases a : okB 1 x <;> cases b : isWordL x <;> simp_all
set_option maxHeartbeats 1600000 in
theorem nameBeside_any (x : ByteArray) (B : Nat) (w : World) (hs : x.size ≤ 1048576) (hT : Tabs w) (hM : ML w) (hown : w.ownsMap Tryd.prog 9 (unitElem (H := Unit)) B 77 (resD 77)) :
    Calls Tryd.prog 13 #[.string x, .map (some B)] w fun e w' => e = .returned (.string ⟨(nameL x.data.toList).toArray⟩) ∧ Below w.heap.size w w' := by
  have hT2 : ∀ o o2, Tabs ((w.alloc o).alloc o2) := fun o o2 => tabs_below (tabs_below hT (below_alloc _ _)) (below_alloc _ _)
  have hM2 : ∀ o o2, ML ((w.alloc o).alloc o2) := fun o o2 => (hM.below (below_alloc _ _)).below (below_alloc _ _)
  have hk2 := fun w hT hM => tokenOK_any 2 0 x w hs hT hM
  have hk1 := fun w hT hM => tokenOK_any 1 0 x w hs hT hM
  rw [okB_2] at hk2
  rw [okB_1] at hk1
  have hkey : keyOf Tryd.prog 9 (.string x) = some (.string x.data.toList) := Go.WideMaps.keyOf_string_mk Tryd.underlying9 (by unfold maxLen; omega)
  have hh := has_res x
  have htt := fun w hM => tokenText_any 2 0 x w hs hM
  have htx : tokText 2 x.data.toList = markL 34 x.data.toList := rfl
  rw [htx] at htt
  obtain ⟨R, hR⟩ : ∃ R, R = nameL x.data.toList := ⟨_, rfl⟩
  rw [← hR]
  unfold nameL at hR
  cases hn : isNameL x.data.toList <;> cases hw : isWordL x.data.toList <;> cases hv : isRes x.data.toList
  · rw [hn, hw, hv] at hR
    rw [hn] at hk2
    rw [hw] at hk1
    rw [hv] at hh
    have HR : Hid (R = [63]) := by show _ = _; simpa using hR
    clear hR hn hw hv
    go_enter Tryd.func13, Tryd.ntmps13
    go_wp2_with (first | (at_lookup; refine wpList_lookup_own_unit _ rfl _ _ 26 rfl 9 24 law9 Tryd.underlying26 (zero53 _) B 77 _ rfl (hown.alloc _) _ _ rfl hkey ?_; (try rw [hh])) | (go_at_call 18; refine (hk2 _ (hT2 _ _) (hM2 _ _)).mono ?_; rintro e w1 ⟨rfl, hb1⟩; obtain ⟨hc1, hf1⟩ := bcell hb1; have hz1 : w.heap.size + 1 < w1.heap.size := (by have := hb1.size; simp at this; omega); have bw1 : Below w.heap.size w w1 := (((Below.refl _ _).alloc (Nat.le_refl _) _).alloc (by simp) _).trans (hb1.mono (by simp; omega)); clear hb1 hk2))
    go_ret
    exact ⟨ret_str (by rw [HR.out]), bw1⟩
  · rw [hn, hw, hv] at hR
    rw [hn] at hk2
    rw [hw] at hk1
    rw [hv] at hh
    have HR : Hid (R = [63]) := by show _ = _; simpa using hR
    clear hR hn hw hv
    go_enter Tryd.func13, Tryd.ntmps13
    go_wp2_with (first | (at_lookup; refine wpList_lookup_own_unit _ rfl _ _ 26 rfl 9 24 law9 Tryd.underlying26 (zero53 _) B 77 _ rfl (hown.alloc _) _ _ rfl hkey ?_; (try rw [hh])) | (go_at_call 18; refine (hk2 _ (hT2 _ _) (hM2 _ _)).mono ?_; rintro e w1 ⟨rfl, hb1⟩; obtain ⟨hc1, hf1⟩ := bcell hb1; have hz1 : w.heap.size + 1 < w1.heap.size := (by have := hb1.size; simp at this; omega); have bw1 : Below w.heap.size w w1 := (((Below.refl _ _).alloc (Nat.le_refl _) _).alloc (by simp) _).trans (hb1.mono (by simp; omega)); clear hb1 hk2))
    go_ret
    exact ⟨ret_str (by rw [HR.out]), bw1⟩
  · rw [hn, hw, hv] at hR
    rw [hn] at hk2
    rw [hw] at hk1
    rw [hv] at hh
    have HR : Hid (R = [63]) := by show _ = _; simpa using hR
    clear hR hn hw hv
    go_enter Tryd.func13, Tryd.ntmps13
    go_wp2_with (first | (at_lookup; refine wpList_lookup_own_unit _ rfl _ _ 26 rfl 9 24 law9 Tryd.underlying26 (zero53 _) B 77 _ rfl (hown.alloc _) _ _ rfl hkey ?_; (try rw [hh])) | (go_at_call 18; refine (hk2 _ (hT2 _ _) (hM2 _ _)).mono ?_; rintro e w1 ⟨rfl, hb1⟩; obtain ⟨hc1, hf1⟩ := bcell hb1; have hz1 : w.heap.size + 1 < w1.heap.size := (by have := hb1.size; simp at this; omega); have bw1 : Below w.heap.size w w1 := (((Below.refl _ _).alloc (Nat.le_refl _) _).alloc (by simp) _).trans (hb1.mono (by simp; omega)); clear hb1 hk2))
    go_ret
    exact ⟨ret_str (by rw [HR.out]), bw1⟩
  · rw [hn, hw, hv] at hR
    rw [hn] at hk2
    rw [hw] at hk1
    rw [hv] at hh
    have HR : Hid (R = [63]) := by show _ = _; simpa using hR
    clear hR hn hw hv
    go_enter Tryd.func13, Tryd.ntmps13
    go_wp2_with (first | (at_lookup; refine wpList_lookup_own_unit _ rfl _ _ 26 rfl 9 24 law9 Tryd.underlying26 (zero53 _) B 77 _ rfl (hown.alloc _) _ _ rfl hkey ?_; (try rw [hh])) | (go_at_call 18; refine (hk2 _ (hT2 _ _) (hM2 _ _)).mono ?_; rintro e w1 ⟨rfl, hb1⟩; obtain ⟨hc1, hf1⟩ := bcell hb1; have hz1 : w.heap.size + 1 < w1.heap.size := (by have := hb1.size; simp at this; omega); have bw1 : Below w.heap.size w w1 := (((Below.refl _ _).alloc (Nat.le_refl _) _).alloc (by simp) _).trans (hb1.mono (by simp; omega)); clear hb1 hk2))
    go_ret
    exact ⟨ret_str (by rw [HR.out]), bw1⟩
  · rw [hn, hw, hv] at hR
    rw [hn] at hk2
    rw [hw] at hk1
    rw [hv] at hh
    have HR : Hid (R = markL 34 x.data.toList) := by show _ = _; simpa using hR
    clear hR hn hw hv
    go_enter Tryd.func13, Tryd.ntmps13
    go_wp2_with (first | (at_lookup; refine wpList_lookup_own_unit _ rfl _ _ 26 rfl 9 24 law9 Tryd.underlying26 (zero53 _) B 77 _ rfl (hown.alloc _) _ _ rfl hkey ?_; (try rw [hh])) | (go_at_call 18; refine (hk2 _ (hT2 _ _) (hM2 _ _)).mono ?_; rintro e w1 ⟨rfl, hb1⟩; obtain ⟨hc1, hf1⟩ := bcell hb1; have hz1 : w.heap.size + 1 < w1.heap.size := (by have := hb1.size; simp at this; omega); have bw1 : Below w.heap.size w w1 := (((Below.refl _ _).alloc (Nat.le_refl _) _).alloc (by simp) _).trans (hb1.mono (by simp; omega)); clear hb1 hk2))
    have hy1 : w.heap.size < w1.heap.size := by omega
    refine (hk1 _ (tabs_below hT bw1) (hM.below bw1)).mono ?_
    rintro e w2 ⟨rfl, hb2⟩
    obtain ⟨hc2, hf2⟩ := bcell hb2
    have hz2 : w.heap.size < w2.heap.size := by have := hb2.size; omega
    have bw2 : Below w.heap.size w w2 := bw1.trans (hb2.mono (by omega))
    go_wp2_with (go_at_call 19; refine (htt _ (hM.below bw2)).mono ?_; rintro e w3 ⟨rfl, hb3⟩)
    go_ret
    exact ⟨ret_str (by rw [HR.out]), bw2.trans (hb3.mono (Nat.le_of_lt hz2))⟩
  · rw [hn, hw, hv] at hR
    rw [hn] at hk2
    rw [hw] at hk1
    rw [hv] at hh
    have HR : Hid (R = markL 34 x.data.toList) := by show _ = _; simpa using hR
    clear hR hn hw hv
    go_enter Tryd.func13, Tryd.ntmps13
    go_wp2_with (first | (at_lookup; refine wpList_lookup_own_unit _ rfl _ _ 26 rfl 9 24 law9 Tryd.underlying26 (zero53 _) B 77 _ rfl (hown.alloc _) _ _ rfl hkey ?_; (try rw [hh])) | (go_at_call 18; refine (hk2 _ (hT2 _ _) (hM2 _ _)).mono ?_; rintro e w1 ⟨rfl, hb1⟩; obtain ⟨hc1, hf1⟩ := bcell hb1; have hz1 : w.heap.size + 1 < w1.heap.size := (by have := hb1.size; simp at this; omega); have bw1 : Below w.heap.size w w1 := (((Below.refl _ _).alloc (Nat.le_refl _) _).alloc (by simp) _).trans (hb1.mono (by simp; omega)); clear hb1 hk2))
    have hy1 : w.heap.size < w1.heap.size := by omega
    refine (hk1 _ (tabs_below hT bw1) (hM.below bw1)).mono ?_
    rintro e w2 ⟨rfl, hb2⟩
    obtain ⟨hc2, hf2⟩ := bcell hb2
    have hz2 : w.heap.size < w2.heap.size := by have := hb2.size; omega
    have bw2 : Below w.heap.size w w2 := bw1.trans (hb2.mono (by omega))
    go_wp2_with (go_at_call 19; refine (htt _ (hM.below bw2)).mono ?_; rintro e w3 ⟨rfl, hb3⟩)
    go_ret
    exact ⟨ret_str (by rw [HR.out]), bw2.trans (hb3.mono (Nat.le_of_lt hz2))⟩
  · rw [hn, hw, hv] at hR
    rw [hn] at hk2
    rw [hw] at hk1
    rw [hv] at hh
    have HR : Hid (R = x.data.toList) := by show _ = _; simpa using hR
    clear hR hn hw hv
    go_enter Tryd.func13, Tryd.ntmps13
    go_wp2_with (first | (at_lookup; refine wpList_lookup_own_unit _ rfl _ _ 26 rfl 9 24 law9 Tryd.underlying26 (zero53 _) B 77 _ rfl (hown.alloc _) _ _ rfl hkey ?_; (try rw [hh])) | (go_at_call 18; refine (hk2 _ (hT2 _ _) (hM2 _ _)).mono ?_; rintro e w1 ⟨rfl, hb1⟩; obtain ⟨hc1, hf1⟩ := bcell hb1; have hz1 : w.heap.size + 1 < w1.heap.size := (by have := hb1.size; simp at this; omega); have bw1 : Below w.heap.size w w1 := (((Below.refl _ _).alloc (Nat.le_refl _) _).alloc (by simp) _).trans (hb1.mono (by simp; omega)); clear hb1 hk2))
    have hy1 : w.heap.size < w1.heap.size := by omega
    refine (hk1 _ (tabs_below hT bw1) (hM.below bw1)).mono ?_
    rintro e w2 ⟨rfl, hb2⟩
    obtain ⟨hc2, hf2⟩ := bcell hb2
    have hz2 : w.heap.size < w2.heap.size := by have := hb2.size; omega
    have bw2 : Below w.heap.size w w2 := bw1.trans (hb2.mono (by omega))
    go_wp2
    go_ret
    exact ⟨ret_str (ba_ext (by rw [HR.out])), bw2⟩
  · rw [hn, hw, hv] at hR
    rw [hn] at hk2
    rw [hw] at hk1
    rw [hv] at hh
    have HR : Hid (R = markL 34 x.data.toList) := by show _ = _; simpa using hR
    clear hR hn hw hv
    go_enter Tryd.func13, Tryd.ntmps13
    go_wp2_with (first | (at_lookup; refine wpList_lookup_own_unit _ rfl _ _ 26 rfl 9 24 law9 Tryd.underlying26 (zero53 _) B 77 _ rfl (hown.alloc _) _ _ rfl hkey ?_; (try rw [hh])) | (go_at_call 18; refine (hk2 _ (hT2 _ _) (hM2 _ _)).mono ?_; rintro e w1 ⟨rfl, hb1⟩; obtain ⟨hc1, hf1⟩ := bcell hb1; have hz1 : w.heap.size + 1 < w1.heap.size := (by have := hb1.size; simp at this; omega); have bw1 : Below w.heap.size w w1 := (((Below.refl _ _).alloc (Nat.le_refl _) _).alloc (by simp) _).trans (hb1.mono (by simp; omega)); clear hb1 hk2))
    have hy1 : w.heap.size < w1.heap.size := by omega
    refine (hk1 _ (tabs_below hT bw1) (hM.below bw1)).mono ?_
    rintro e w2 ⟨rfl, hb2⟩
    obtain ⟨hc2, hf2⟩ := bcell hb2
    have hz2 : w.heap.size < w2.heap.size := by have := hb2.size; omega
    have bw2 : Below w.heap.size w w2 := bw1.trans (hb2.mono (by omega))
    go_wp2_with (go_at_call 19; refine (htt _ (hM.below bw2)).mono ?_; rintro e w3 ⟨rfl, hb3⟩)
    go_ret
    exact ⟨ret_str (by rw [HR.out]), bw2.trans (hb3.mono (Nat.le_of_lt hz2))⟩
set_option maxHeartbeats 800000 in
theorem nameText_any (x : ByteArray) (w : World) (hs : x.size ≤ 1048576) (hT : Tabs w) (hM : ML w) :
    Calls Tryd.prog 8 #[.string x] w fun e w' => e = .returned (.string ⟨(nameL x.data.toList).toArray⟩) ∧ Below w.heap.size w w' := by
  obtain ⟨h2, m, hm⟩ := hM
  have hM : ML w := ⟨h2, m, hm⟩
  generalize hR : (⟨(nameL x.data.toList).toArray⟩ : ByteArray) = R
  have hnb := fun B w hT hM hown => nameBeside_any x B w hs hT hM hown
  rw [hR] at hnb
  go_enter Tryd.func8, Tryd.ntmps8
  go_wp2_with (go_at_call 9; refine (reservedWords_any m _ hm).mono ?_; rintro e w1 ⟨rfl, hown, hb1⟩)
  refine (hnb _ _ (tabs_below hT hb1) (hM.below hb1) hown).mono ?_
  rintro e w2 ⟨rfl, hb2⟩
  go_wp2
  go_ret
  exact ⟨rfl, hb1.trans (hb2.mono hb1.size)⟩
end Go.Proofs.YtjpcgnkgdaphoaaDoor
