import Derived.Test.YtfgjleifhjegkaaDoorKV
import Derived.Lib.AppendStr
namespace Go.Proofs.YtfgjleifhjegkaaDoor
open Go.ChangeShapes Go.WideShapes Go.ChangeAt Go.RowKit
set_option linter.unusedVariables false
set_option linter.unusedSimpArgs false
set_option maxRecDepth 100000
/-- The bytes of a text. -/
def strI (s : ByteArray) : List Int := s.data.toList.map fun b => (b.toNat : Int)
theorem strI_cells (s : ByteArray) : Lib.strCells s = (strI s).map (Value.int .u8) := by
  unfold Lib.strCells strI
  rw [List.map_map]
  rfl
theorem strI_len (s : ByteArray) : (strI s).length = s.size := by unfold strI; rw [List.length_map, Array.length_toList]; rfl
theorem strI_at (s : ByteArray) (i : Nat) (h : i < s.size) : (strI s)[i]? = some ((s[i]'h).toNat : Int) := by
  unfold strI
  rw [List.getElem?_map]
  have h' : i < s.data.toList.length := by rw [Array.length_toList]; exact h
  rw [List.getElem?_eq_getElem h']
  rfl
/-- A text's bytes in a key. -/
def esc1 (b : Int) : List Int := if b = 0 then [0, 255] else [b]
def escL (l : List Int) : List Int := l.flatMap esc1
theorem escL_step {l : List Int} {i : Nat} {b : Int} (h : l[i]? = some b) : escL (l.take (i + 1)) = escL (l.take i) ++ esc1 b := by
  unfold escL
  rw [List.take_add_one, h]
  simp [List.flatMap_append]
theorem escL_len (l : List Int) : (escL l).length ≤ 2 * l.length := by
  induction l with
  | nil => simp [escL]
  | cons b r ih =>
    unfold escL at *
    rw [List.flatMap_cons, List.length_append, List.length_cons]
    have : (esc1 b).length ≤ 2 := by unfold esc1; split <;> simp
    omega
/-- A value's bytes in a key. -/
def keyP (k n : Int) (s : ByteArray) : List Int :=
  if k = 1 ∨ k = 2 then 16 * k :: beL 8 (n + 9223372036854775808).toNat
  else if k = 3 then 48 :: (escL (strI s) ++ [0, 1])
  else if k = 4 then [64, n]
  else if k = 5 then 80 :: beL 4 (n + 2147483648).toNat
  else [0]
theorem YOut.base {ty b b' : Nat} {w : World} {v : Value} {xs : List Int} (h : YOut ty b w v xs) (hb : b' ≤ b) : YOut ty b' w v xs := by
  obtain ⟨h1, h2⟩ := h
  refine ⟨h1, ?_⟩
  rcases h2 with h2 | ⟨g, cap, cur, rfl, hg1, hg2⟩
  · exact .inl h2
  · exact .inr ⟨g, cap, cur, rfl, Nat.le_trans hb hg1, hg2⟩
theorem YOut.more {ty b : Nat} {w : World} {v : Value} {xs ys : List Int} (h : w.ownsRow b ty 1 v (xs.length + ys.length) (xs.map (Value.int .u8) ++ ys.map (Value.int .u8))) : YOut ty b w v (xs ++ ys) := by
  unfold YOut
  rw [List.map_append, List.length_append]
  exact h
theorem YOut.made {ty b : Nat} (w : World) (xs : List Int) (hb : b ≤ w.heap.size) (hx : xs.length ≤ 1048576) : YOut ty b (w.alloc (.cells (xs.map (Value.int .u8)).toArray ty)) (.slice (some ⟨w.heap.size, 0, none⟩) xs.length xs.length) xs := by
  unfold YOut
  refine ⟨by simp, .inr ⟨w.heap.size, xs.length, _, rfl, hb, heap_alloc_new w _, Nat.le_refl _, by unfold maxLen; omega, by simp, by simp [List.take_of_length_le]⟩⟩
set_option maxHeartbeats 4000000 in
theorem kp_null (k n : Int) (s : ByteArray) (w : World) (hk : k ≠ 1) (hk2 : k ≠ 2) (hk3 : k ≠ 3) (hk4 : k ≠ 4) (hk5 : k ≠ 5) :
    Calls Tryd.prog 30 #[.agg #[.int .i64 k, .int .i64 n, .string s]] w fun e w' => (∃ v, e = .returned v ∧ YOut 5 w.heap.size w' v (keyP k n s)) ∧ Below w.heap.size w w' := by
  have HK : Hid (keyP k n s = [0]) := (by unfold keyP; simp [hk, hk2, hk3, hk4, hk5] : keyP k n s = [0])
  have HY : Hid (YOut 5 w.heap.size ((w.alloc (.cells #[.int .i64 k, .int .i64 n, .string s] 39)).alloc (.cells #[.int .u8 0] 5)) (.slice (some ⟨w.heap.size + 1, 0, none⟩) 1 1) [0]) := (by
    have := YOut.made (ty := 5) (b := w.heap.size) (w.alloc (.cells #[.int .i64 k, .int .i64 n, .string s] 39)) [0] (by simp) (by simp)
    simpa using this : YOut 5 w.heap.size ((w.alloc (.cells #[.int .i64 k, .int .i64 n, .string s] 39)).alloc (.cells #[.int .u8 0] 5)) (.slice (some ⟨w.heap.size + 1, 0, none⟩) 1 1) [0])
  go_enter Tryd.func30, Tryd.ntmps30
  go_wp2
  go_ret
  exact ⟨⟨_, rfl, by rw [HK.out]; exact HY.out⟩, by (go_light; repeat (first | with_reducible assumption | with_reducible exact Below.refl _ _ | (with_reducible refine Below.setCell ?_ ?_ _; rotate_left; (focus first | (simp; done) | (simp; omega) | omega)) | (with_reducible refine Below.alloc ?_ ?_ _; rotate_left; (focus first | (simp; done) | (simp; omega) | omega)) | with_reducible refine Below.drew ?_))⟩
set_option maxHeartbeats 4000000 in
theorem kp_bool (n : Int) (s : ByteArray) (w : World) (h0 : 0 ≤ n) (h1 : n ≤ 1) :
    Calls Tryd.prog 30 #[.agg #[.int .i64 4, .int .i64 n, .string s]] w fun e w' => (∃ v, e = .returned v ∧ YOut 5 w.heap.size w' v (keyP 4 n s)) ∧ Below w.heap.size w w' := by
  have HK : Hid (keyP 4 n s = [64, n]) := (by unfold keyP; simp : keyP 4 n s = [64, n])
  have HY : Hid (YOut 5 w.heap.size ((w.alloc (.cells #[.int .i64 4, .int .i64 n, .string s] 39)).alloc (.cells #[.int .u8 64, .int .u8 n] 5)) (.slice (some ⟨w.heap.size + 1, 0, none⟩) 2 2) [64, n]) := (by
    have := YOut.made (ty := 5) (b := w.heap.size) (w.alloc (.cells #[.int .i64 4, .int .i64 n, .string s] 39)) [64, n] (by simp) (by simp)
    simpa using this : YOut 5 w.heap.size ((w.alloc (.cells #[.int .i64 4, .int .i64 n, .string s] 39)).alloc (.cells #[.int .u8 64, .int .u8 n] 5)) (.slice (some ⟨w.heap.size + 1, 0, none⟩) 2 2) [64, n])
  have hw : IntKind.u8.wrap n = n := by simp only [IntKind.wrap, IntKind.bits, IntKind.signed]; simp; omega
  go_enter Tryd.func30, Tryd.ntmps30
  go_wp2
  go_ret
  exact ⟨⟨_, rfl, by rw [HK.out]; exact HY.out⟩, by (go_light; repeat (first | with_reducible assumption | with_reducible exact Below.refl _ _ | (with_reducible refine Below.setCell ?_ ?_ _; rotate_left; (focus first | (simp; done) | (simp; omega) | omega)) | (with_reducible refine Below.alloc ?_ ?_ _; rotate_left; (focus first | (simp; done) | (simp; omega) | omega)) | with_reducible refine Below.drew ?_))⟩
end Go.Proofs.YtfgjleifhjegkaaDoor
