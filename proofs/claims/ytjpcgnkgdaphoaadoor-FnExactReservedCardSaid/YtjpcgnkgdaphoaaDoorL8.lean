import Derived.Test.YtjpcgnkgdaphoaaDoorL7
namespace Go.Proofs.YtjpcgnkgdaphoaaDoor
open Go.ChangeShapes Go.WideShapes Go.ChangeAt Go.RowKit Go.Shelf
set_option linter.unusedVariables false
set_option linter.unusedSimpArgs false
set_option maxRecDepth 100000
/-- A cut as a value of the program's own struct. -/
def cutV : Cut → Value
  | .tok k x n => .agg #[.int .i64 k, .string ⟨x.toArray⟩, .int .i64 n, .int .i64 0, .int .i64 0]
  | .err c f => .agg #[.int .i64 0, .string ⟨#[]⟩, .int .i64 0, .int .i64 c, .int .i64 f]
theorem retV {a b : Value} (h : a = b) : Ending.returned a = .returned b := by rw [h]
set_option maxHeartbeats 2000000 in
theorem cutSign_any (s : ByteArray) (w : World) (hs : s.size ≤ 1048576) :
    Calls Tryd.prog 33 #[.string s] w fun e w' => e = .returned (cutV (sigL s.data.toList)) ∧ Below w.heap.size w w' := by
  go_enter Tryd.func33, Tryd.ntmps33
  go_wp2
  go_loopw [8] (fun i wr => ∃ k : Nat, k ≤ 18 ∧ i = .int .i64 k ∧ Hid (SigI s.data.toList k) ∧ Hid (Sg wr (w.heap.size + 1)) ∧ Hid (wr = (w.alloc (.cells #[.int .i64 0, .string ⟨#[]⟩, .int .i64 0, .int .i64 0, .int .i64 0] 46)).alloc (.cells #[.string ⟨#[60, 61]⟩, .string ⟨#[62, 61]⟩, .string ⟨#[60, 62]⟩, .string ⟨#[33, 61]⟩, .string ⟨#[124, 124]⟩, .string ⟨#[40]⟩, .string ⟨#[41]⟩, .string ⟨#[44]⟩, .string ⟨#[46]⟩, .string ⟨#[59]⟩, .string ⟨#[43]⟩, .string ⟨#[45]⟩, .string ⟨#[42]⟩, .string ⟨#[47]⟩, .string ⟨#[37]⟩, .string ⟨#[61]⟩, .string ⟨#[60]⟩, .string ⟨#[62]⟩] 9))) (fun i _ => 18 - (intOf i).toNat)
  case atStart =>
    have h := sg_new (w.alloc (.cells #[.int .i64 0, .string ⟨#[]⟩, .int .i64 0, .int .i64 0, .int .i64 0] 46))
    exact ⟨0, by omega, rfl, SigI.zero _, by simp at h; exact h, rfl⟩
  case round =>
    obtain ⟨k, hk, rfl, HI, HS, HW⟩ := hrel
    by_cases hlt : k < 18
    · have hck := HS.out k hlt
      have hsz := sgB_size k hlt
      have HN := HI.out.next hlt
      have HH := HI.out.hit hlt
      have hg : ∃ g : ByteArray, sgB k = g := ⟨_, rfl⟩
      obtain ⟨g, hg⟩ := hg
      rw [hg] at hck hsz HN HH
      clear hg
      have hpre := fun w => Tryd.strings_HasPrefix s g w
      unfold Lib.hasPrefix at hpre
      cases hp : g.data.toList.isPrefixOf s.data.toList
      · have hN2 : Hid (SigI s.data.toList (k + 1)) := HN hp
        rw [hp] at hpre
        clear HN HH hp
        go_wp2_with (go_at_call 26; refine (hpre _).mono ?_; rintro e w' ⟨rfl, rfl⟩)
        go_roundw
        case rel => exact ⟨k + 1, by omega, by go_num, hN2, HS, HW⟩
        case measure => simp [intOf]; omega
      · have hH2 : Hid (sigAt s.data.toList = some g.data.toList) := HH hp
        rw [hp] at hpre
        clear HN HH hp
        have HW' := HW.out
        subst HW'
        have hck2 := hck
        simp only [World.cell?] at hck2
        rw [show w.heap.size + 1 = (w.alloc (.cells #[.int .i64 0, .string ⟨#[]⟩, .int .i64 0, .int .i64 0, .int .i64 0] 46)).heap.size by simp, heap_alloc_new] at hck2
        simp only at hck2
        clear HW
        by_cases hne : g = ⟨#[33, 61]⟩
        · subst hne
          go_wp2_with (go_at_call 26; refine (hpre _).mono ?_; rintro e w' ⟨rfl, rfl⟩)
          refine bodyPost_ret (v := .agg #[.int .i64 6, .string ⟨#[60, 62]⟩, .int .i64 2, .int .i64 0, .int .i64 0]) (by simp [results, Tryd.results33, go_sem]) rfl ⟨?_, ?_⟩
          · refine retV ?_
            unfold sigL
            rw [hH2.out]; rfl
          · exact ((Below.refl _ _).alloc (Nat.le_refl _) _).alloc (by simp) _
        · have hne2 : (g.toList == [33, 61]) = false := by
            rw [beq_eq_false_iff_ne, Lib.toList_data]; intro z; exact hne (ba_ext z)
          have hne3 : ¬ g.data.toList = [33, 61] := fun z => hne (ba_ext z)
          clear hne
          go_wp2_with (go_at_call 26; refine (hpre _).mono ?_; rintro e w' ⟨rfl, rfl⟩)
          refine bodyPost_ret (v := .agg #[.int .i64 6, .string g, .int .i64 g.size, .int .i64 0, .int .i64 0]) (by simp [results, Tryd.results33, go_sem]) rfl ⟨?_, ?_⟩
          · refine retV ?_
            unfold sigL
            rw [hH2.out]
            simp only
            rw [if_neg hne3]
            unfold cutV
            simp only [ba_mk]
            simp
          · exact ((Below.refl _ _).alloc (Nat.le_refl _) _).alloc (by simp) _
    · have hk18 : k = 18 := by omega
      subst hk18
      have HE : Hid (sigAt s.data.toList = none) := HI.out.end
      have HW' := HW.out
      subst HW'
      clear HW
      go_wp2
      refine bodyPost_ret (v := .agg #[.int .i64 0, .string ⟨#[]⟩, .int .i64 0, .int .i64 2, .int .i64 0]) (by simp [results, Tryd.results33, go_sem]) rfl ⟨?_, ?_⟩
      · refine retV ?_
        unfold sigL
        rw [HE.out]; rfl
      · exact ((Below.refl _ _).alloc (Nat.le_refl _) _).alloc (by simp) _
end Go.Proofs.YtjpcgnkgdaphoaaDoor
