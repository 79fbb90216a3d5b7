import Derived.Test.YtjpcgnkgdaphoaaDoorL1
namespace Go.Proofs.YtjpcgnkgdaphoaaDoor
open Go.ChangeShapes Go.WideShapes Go.ChangeAt Go.RowKit Go.Shelf
set_option linter.unusedVariables false
set_option linter.unusedSimpArgs false
set_option maxHeartbeats 400000 in
theorem countAhead_any (g : Nat) (p : Int → Bool) (hg : Sorts g p) (s : ByteArray) (w : World) (hs : s.size ≤ maxLen) :
    Calls Tryd.prog 40 #[.string s, .func (.func g) #[] #[]] w fun e w' => e = .returned (.int .i64 (runN p s.data.toList)) ∧ w' = w := by
  unfold maxLen at hs
  have eg := hg.1
  have hc := hg.2
  go_enter Tryd.func40, Tryd.ntmps40
  go_wp2
  go_loop [5] (fun i => ∃ k : Nat, k ≤ s.size ∧ k ≤ runN p s.data.toList ∧ i = .int .i64 k) (fun i => s.size - (intOf i).toNat)
  case atStart => exact ⟨0, Nat.zero_le _, Nat.zero_le _, rfl⟩
  case round =>
    obtain ⟨k, hk, hr, rfl⟩ := hrel
    by_cases hlt : k < s.size
    · have hst := runN_step p s.data.toList k _ hr (bl_get s k hlt)
      cases hp : p ((s[k]'hlt).toNat : Int)
      · have h2 : Hid (runN p s.data.toList = k) := hst.2 hp
        clear hst
        have hc' := fun w => hc ((s[k]'hlt).toNat : Int) w
        rw [hp] at hc'
        go_wp2_with (go_at_fn g; refine (hc' _).mono ?_; rintro e w' ⟨rfl, rfl⟩)
        go_ret
        exact ⟨ret_int (by rw [h2.out]), rfl⟩
      · have h2 : Hid (k + 1 ≤ runN p s.data.toList) := hst.1 hp
        clear hst
        have hc' := fun w => hc ((s[k]'hlt).toNat : Int) w
        rw [hp] at hc'
        go_wp2_with (go_at_fn g; refine (hc' _).mono ?_; rintro e w' ⟨rfl, rfl⟩)
        go_round
        case rel => exact ⟨k + 1, by omega, h2.out, by go_num⟩
        case measure => simp [intOf]; omega
    · go_wp2
      go_ret
      refine ⟨ret_int ?_, rfl⟩
      have := runN_end p s.data.toList k hr (by simp; omega)
      rw [this]
      have : k = s.size := by omega
      rw [this]
end Go.Proofs.YtjpcgnkgdaphoaaDoor
