import Derived.Test.YtdcdoeolaongkaaGreatDoorE6
import Derived.Test.YtdcdoeolaongkaaGreatDoorW3
namespace Go.Proofs.YtdcdoeolaongkaaGreatDoor.Dr
open Go.ChangeShapes Go.WideShapes Go.ChangeAt Go.RowKit
set_option linter.unusedVariables false
set_option linter.unusedSimpArgs false
set_option maxRecDepth 100000
def Read (w : World) (v0 : Option Addr) (len : Nat) : Prop := ∀ j, j < len → ∃ g o b, v0 = some ⟨g, o, none⟩ ∧ g < w.heap.size ∧ w.cell? ⟨g, o + j, none⟩ = some (.int .u8 b) ∧ 0 ≤ b ∧ b < 256
theorem Read.below {w w' : World} {v0 : Option Addr} {len : Nat} (h : Read w v0 len) (hb : Below w.heap.size w w') : Read w' v0 len := fun j hj => by
  obtain ⟨g, o, b, e1, e2, e3, e4, e5⟩ := h j hj
  exact ⟨g, o, b, e1, Nat.lt_of_lt_of_le e2 hb.size, (hb.cell (p := ⟨g, o + j, none⟩) e2).trans e3, e4, e5⟩
theorem cur_new (w : World) (v0 : Option Addr) (len cap : Nat) (c : Nat) (hc : c = w.heap.size) (hl : len ≤ 1048576) (hb : Read w v0 len) :
    IsCur (w.alloc (.cells #[.slice v0 len cap, .int .i64 0, .int .i64 0, .int .i64 0] 77)) c 0 := by
  subst hc
  refine ⟨v0, len, cap, 0, 0, 0, ⟨by simp [go_sem], by simp [go_sem], by simp [go_sem], by simp [go_sem], by simp [go_sem], by simp [go_sem], by omega, by omega, by omega, by omega, hl, by simp, ?_⟩⟩
  intro j hj
  obtain ⟨g, o, b, e1, e2, e3, e4, e5⟩ := hb j hj
  exact ⟨g, o, b, e1, e2, ((below_alloc w _).cell (p := ⟨g, o + j, none⟩) e2).trans e3, e4, e5⟩
/-- A drawn value, behind its cursor. -/
def Drawn1 (L : Nat) (w : World) (e : Ending) (w' : World) : Prop := ∃ (k n : Int) (s : ByteArray), s.size ≤ L ∧ inI n ∧ e = .returned (.agg #[.int .i64 k, .int .i64 n, .string s]) ∧ Below w.heap.size w w'
set_option maxHeartbeats 4000000 in
theorem drawPlain_any (v0 : Option Addr) (len cap : Nat) (w : World) (hl : len ≤ 1048576) (hb : Read w v0 len) :
    Calls Tryz.prog 13 #[.slice v0 len cap] w fun e w' => Drawn1 700 w e w' := by
  have bw0 := below_alloc w (.cells #[.int .i64 0, .int .i64 0, .string ⟨#[]⟩] 29)
  have hc0 : IsCur ((w.alloc (.cells #[.int .i64 0, .int .i64 0, .string ⟨#[]⟩] 29)).alloc (.cells #[.slice v0 len cap, .int .i64 0, .int .i64 0, .int .i64 0] 77)) (w.heap.size + 1) 0 :=
    cur_new _ v0 len cap _ (by simp) hl (hb.below bw0)
  have bw1 : Below w.heap.size w ((w.alloc (.cells #[.int .i64 0, .int .i64 0, .string ⟨#[]⟩] 29)).alloc (.cells #[.slice v0 len cap, .int .i64 0, .int .i64 0, .int .i64 0] 77)) := bw0.alloc (by simp) _
  have hne : w.heap.size ≠ w.heap.size + 1 := by omega
  clear hb
  go_enter Tryz.func13, Tryz.ntmps13
  go_wp2_with fail
  refine (drawValue_any (w.heap.size + 1) 0 _ hc0 (by omega)).mono ?_
  rintro e w1 ⟨k, n, s, hs, hn, rfl, hc1, hu1⟩
  have hz1 : w.heap.size < w1.heap.size := by have := hu1.size; simp at this; omega
  have hr1 : Holds w1 w.heap.size 0 0 ⟨#[]⟩ := ((Holds.new w 0 0 ⟨#[]⟩).below (below_alloc _ _) (by simp)).upd hu1 hne
  obtain ⟨a0, a1, a2, b0, b1, b2, _⟩ := hr1
  have HB : Hid (Below w.heap.size w w1) := Upd.below bw1 hu1 (by omega)
  have HS : Hid (s.size ≤ 700) := hs
  clear hs hu1 hc1 hc0 bw0 bw1
  go_wp2
  refine bodyPost_ret (v := .agg #[.int .i64 k, .int .i64 n, .string s]) (by simp [results, Tryz.results13, go_sem, a0, a1, a2, b0, b1, b2, hz1]) rfl ⟨k, n, s, HS.out, hn, rfl, ?_⟩
  exact ((HB.out.setCell (Nat.le_refl _) _).setCell (Nat.le_refl _) _).setCell (Nat.le_refl _) _
end Go.Proofs.YtdcdoeolaongkaaGreatDoor.Dr
