import Derived.Test.YtjpcgnkgdaphoaaDoorL3
namespace Go.Proofs.YtjpcgnkgdaphoaaDoor
open Go.ChangeShapes Go.WideShapes Go.ChangeAt Go.RowKit Go.Shelf
set_option linter.unusedVariables false
set_option linter.unusedSimpArgs false
set_option maxHeartbeats 400000 in
theorem printable_any (s : ByteArray) (w : World) (hs : s.size ≤ maxLen) :
    Calls Tryd.prog 15 #[.string s] w fun e w' => e = .returned (.bool (decide (runN priI s.data.toList = s.size))) ∧ w' = w := by
  unfold maxLen at hs
  go_enter Tryd.func15, Tryd.ntmps15
  go_wp2
  go_loop [3] (fun i => ∃ k : Nat, k ≤ s.size ∧ k ≤ runN priI s.data.toList ∧ i = .int .i64 k) (fun i => s.size - (intOf i).toNat)
  case atStart => exact ⟨0, Nat.zero_le _, Nat.zero_le _, rfl⟩
  case round =>
    obtain ⟨k, hk, hr, rfl⟩ := hrel
    by_cases hlt : k < s.size
    · have hst := runN_step priI s.data.toList k _ hr (bl_get s k hlt)
      by_cases h1 : ((s[k]'hlt).toNat : Int) < 32
      · have h2 : Hid (runN priI s.data.toList = k) := hst.2 (by unfold priI; simp; omega)
        clear hst
        go_wp2
        go_ret
        refine ⟨ret_bool ?_, rfl⟩
        rw [h2.out]; simp; omega
      · by_cases h3 : 126 < ((s[k]'hlt).toNat : Int)
        · have h2 : Hid (runN priI s.data.toList = k) := hst.2 (by unfold priI; simp; omega)
          clear hst
          go_wp2
          go_ret
          refine ⟨ret_bool ?_, rfl⟩
          rw [h2.out]; simp; omega
        · have h2 : Hid (k + 1 ≤ runN priI s.data.toList) := hst.1 (by unfold priI; simp; omega)
          clear hst
          go_wp2
          go_round
          case rel => exact ⟨k + 1, by omega, h2.out, by go_num⟩
          case measure => simp [intOf]; omega
    · have hfull := runN_end priI s.data.toList k hr (by simp; omega)
      have HF : Hid (runN priI s.data.toList = s.size) := by
        have : k = s.size := by omega
        rw [← this]; exact hfull
      clear hfull
      go_wp2
      go_ret
      refine ⟨ret_bool ?_, rfl⟩
      rw [HF.out]; simp
theorem digs_take (s : ByteArray) (k : Nat) (c : UInt8) (h : digs (s.data.toList.take k)) (e : s.data.toList[k]? = some c) (hc : digI (c.toNat : Int) = true) : digs (s.data.toList.take (k + 1)) := by
  intro d hd
  rw [List.take_add_one, e] at hd
  simp at hd
  rcases hd with hd | rfl
  · exact h d hd
  · exact hc
theorem val_take (s : ByteArray) (k : Nat) (c : UInt8) (e : s.data.toList[k]? = some c) : val (s.data.toList.take (k + 1)) = 10 * val (s.data.toList.take k) + (c.toNat - 48) := by
  rw [List.take_add_one, e]
  exact val_snoc _ _
/-- The row of bytes as a string. -/
theorem info5 : (Tryd.prog.info? 5).map (fun i => (i.zero, i.size, i.bytes)) = some (some (.int .u8 0), 1, 1) := by kernel_rfl
def bcells (l : List UInt8) : List Value := l.map (fun b => .int .u8 (b.toNat : Int))
theorem bcells_len (l : List UInt8) : (bcells l).length = l.length := by simp [bcells]
theorem strOf_bytes (l : List UInt8) : strOfNums (l.map (fun b => (b.toNat : Int))) = ⟨l.toArray⟩ := by
  unfold strOfNums
  congr 2
  rw [List.map_map]
  conv => rhs; rw [← List.map_id l]
  apply List.map_congr_left
  intro b _
  simp
theorem conv_own (w : World) (base : Nat) (v : Value) (l : List UInt8) (h : w.ownsRow base 5 1 v l.length (bcells l)) : (convert 33 9 v).run Tryd.prog w = .ok (.string ⟨l.toArray⟩) w := by
  obtain ⟨hlen, hcase⟩ := id h
  rcases hcase with ⟨rfl, h0⟩ | ⟨g, cap, cur, rfl, hg1, hg2, hg3, hg4, hg5, hg6⟩
  · have : l = [] := List.eq_nil_of_length_eq_zero h0
    subst this
    exact run_convert_bytes_nil (P := Tryd.prog) w 33 5 Tryd.underlying33 Tryd.underlying5 0 0 9 Tryd.underlying9
  · have hcells : ∀ i, i < (l.map (fun b => (b.toNat : Int))).length → w.cell? ⟨g, 0 + i, none⟩ = some (.int .u8 ((l.map (fun b => (b.toNat : Int))).getD i 0)) := fun i hi => by
      have hi' : i < l.length := by simpa using hi
      have := h.cells (g := g) rfl i (.int .u8 ((l.map (fun b => (b.toNat : Int))).getD i 0)) (by simp [bcells, List.getD, hi'])
      simp only [Addr.add] at this
      by_cases e : i = 0
      · subst e; simpa using this
      · simpa [e] using this
    have := run_convert_bytes_arg (P := Tryd.prog) w 33 5 Tryd.underlying33 Tryd.underlying5 g 0 _ cap _ rfl hcells 9 Tryd.underlying9
    rw [strOf_bytes] at this
    simpa using this
end Go.Proofs.YtjpcgnkgdaphoaaDoor
