import Derived.Test.YtjfgojlnpbehfaaXB
import Derived.Test.YtjfgojlnpbehfaaCH
namespace Go.Proofs.Ytjfgojlnpbehfaa
open Go.ChangeShapes Go.WideShapes Go.ChangeAt Go.RowKit
set_option linter.unusedVariables false
set_option linter.unusedSimpArgs false
set_option maxRecDepth 100000
theorem blkA2 (w : World) (c0 c1 : List Value) (t0 t1 : Nat) : Blk ((w.alloc (.cells c0.toArray t0)).alloc (.cells c1.toArray t1)) w.heap.size c0 := (blk_new w c0 t0).below (below_alloc _ _) (by simp)
theorem concurrent_impl (b c d e : Int) (r s x y : Value) (w : World) :
    Calls Try.prog 48 #[.agg #[.int .i64 b, .int .i64 c, r, s], .agg #[.int .i64 d, .int .i64 e, x, y]] w fun en w' => en = .returned (.bool (decide (b < e) && decide (d < c))) ∧ Below w.heap.size w w' := by
  have bw : Below w.heap.size w ((w.alloc (.cells #[.int .i64 b, .int .i64 c, r, s] 55)).alloc (.cells #[.int .i64 d, .int .i64 e, x, y] 55)) := (below_alloc w _).alloc (by simp) _
  by_cases h1 : b < e
  · by_cases h2 : d < c
    · have HE : (decide (b < e) && decide (d < c)) = true := by simp [h1, h2]
      rw [HE]
      clear HE
      go_enter Try.func48, Try.ntmps48
      go_wp2
      go_ret
      exact ⟨rfl, bw⟩
    · have HE : (decide (b < e) && decide (d < c)) = false := by simp [h2]
      rw [HE]
      clear HE
      go_enter Try.func48, Try.ntmps48
      go_wp2
      go_ret
      exact ⟨rfl, bw⟩
  · have HE : (decide (b < e) && decide (d < c)) = false := by simp [h1]
    rw [HE]
    clear HE
    go_enter Try.func48, Try.ntmps48
    go_wp2
    go_ret
    exact ⟨rfl, bw⟩
set_option maxHeartbeats 4000000 in
theorem leadsTo_impl (b c d e : Int) (r s x y : Nat) (w : World) (hr : r < 4294967296) (hy : y < 4294967296) :
    Calls Try.prog 42 #[.agg #[.int .i64 b, .int .i64 c, .int .u64 (r : Int), .int .u64 (s : Int)], .agg #[.int .i64 d, .int .i64 e, .int .u64 (x : Int), .int .u64 (y : Int)]] w fun en w' => RB (c ≠ e ∧ b < e ∧ d < c ∧ r &&& y ≠ 0) en ∧ Below w.heap.size w w' := by
  have bw : Below w.heap.size w ((w.alloc (.cells #[.int .i64 b, .int .i64 c, .int .u64 (r : Int), .int .u64 (s : Int)] 55)).alloc (.cells #[.int .i64 d, .int .i64 e, .int .u64 (x : Int), .int .u64 (y : Int)] 55)) := (below_alloc w _).alloc (by simp) _
  have KA := hid (blkA2 w [.int .i64 b, .int .i64 c, .int .u64 (r : Int), .int .u64 (s : Int)] [.int .i64 d, .int .i64 e, .int .u64 (x : Int), .int .u64 (y : Int)] 55 55)
  have KB := hid (blkD w [.int .i64 b, .int .i64 c, .int .u64 (r : Int), .int .u64 (s : Int)] [.int .i64 d, .int .i64 e, .int .u64 (x : Int), .int .u64 (y : Int)] 55 55)
  by_cases h1 : c = e
  · have hd : (c != e) = false := by simpa using h1
    have HF : Hid (¬ (c ≠ e ∧ b < e ∧ d < c ∧ r &&& y ≠ 0)) := (fun h => h.1 h1 : ¬ (c ≠ e ∧ b < e ∧ d < c ∧ r &&& y ≠ 0))
    clear h1 KA KB
    go_enter Try.func42, Try.ntmps42
    go_wp2
    go_ret
    exact ⟨rb_f HF.out, bw⟩
  · have hd : (c != e) = true := by simpa using h1
    cases hA : (decide (b < e) && decide (d < c)) with
    | false =>
      have HF : Hid (¬ (c ≠ e ∧ b < e ∧ d < c ∧ r &&& y ≠ 0)) := (fun h => by simp [h.2.1, h.2.2.1] at hA : ¬ (c ≠ e ∧ b < e ∧ d < c ∧ r &&& y ≠ 0))
      clear h1 KA KB
      go_enter Try.func42, Try.ntmps42
      go_wp2_with (go_at_call 48; fail)
      refine (concurrent_impl _ _ _ _ _ _ _ _ _).mono ?_
      rintro en w1 ⟨rfl, hb1⟩
      rw [hA]
      have bw1 := bw.trans (hb1.mono bw.size)
      clear hb1
      go_wp2
      go_ret
      exact ⟨rb_f HF.out, bw1⟩
    | true =>
      have hbits := bits_and_nat r y (by omega) (by omega)
      have HP : Hid ((c ≠ e ∧ b < e ∧ d < c ∧ r &&& y ≠ 0) ↔ r &&& y ≠ 0) := (by simp at hA; exact ⟨fun h => h.2.2.2, fun h => ⟨h1, hA.1, hA.2, h⟩⟩ : (c ≠ e ∧ b < e ∧ d < c ∧ r &&& y ≠ 0) ↔ r &&& y ≠ 0)
      generalize hz : r &&& y = z at hbits HP
      clear h1 hz
      go_enter Try.func42, Try.ntmps42
      go_wp2_with (go_at_call 48; fail)
      refine (concurrent_impl _ _ _ _ _ _ _ _ _).mono ?_
      rintro en w1 ⟨rfl, hb1⟩
      rw [hA]
      have bw1 := bw.trans (hb1.mono bw.size)
      have k2 : w1.cell? ⟨w.heap.size, 2, none⟩ = some (.int .u64 (r : Int)) := ((KA.out.below hb1 (by simp; omega)) 2 (by simp)).1
      have k3 : w1.cell? ⟨w.heap.size + 1, 3, none⟩ = some (.int .u64 (y : Int)) := ((KB.out.below hb1 (by simp)) 3 (by simp)).1
      clear hb1 KA KB
      by_cases hz : z = 0
      · subst hz
        go_wp2
        go_ret
        refine ⟨?_, bw1⟩
        first | (rw [hbits]; exact rb_f (fun h => (HP.out.1 h) rfl)) | exact rb_f (fun h => (HP.out.1 h) rfl)
      · have hzb : ((z : Int) != 0) = true := by simp; omega
        go_wp2
        go_ret
        refine ⟨?_, bw1⟩
        first | exact rb_t (HP.out.2 hz) | (rw [hbits]; simp [hz]; exact rb_t (HP.out.2 hz))
set_option maxHeartbeats 4000000 in
theorem ahead_impl (b c d e : Int) (r s x y : Nat) (w : World) (hr : r < 4294967296) (hy : y < 4294967296) :
    Calls Try.prog 33 #[.agg #[.int .i64 b, .int .i64 c, .int .u64 (r : Int), .int .u64 (s : Int)], .agg #[.int .i64 d, .int .i64 e, .int .u64 (x : Int), .int .u64 (y : Int)]] w fun en w' => RB (c ≤ d ∨ (c ≠ e ∧ b < e ∧ d < c ∧ r &&& y ≠ 0)) en ∧ Below w.heap.size w w' := by
  have bw : Below w.heap.size w ((w.alloc (.cells #[.int .i64 b, .int .i64 c, .int .u64 (r : Int), .int .u64 (s : Int)] 55)).alloc (.cells #[.int .i64 d, .int .i64 e, .int .u64 (x : Int), .int .u64 (y : Int)] 55)) := (below_alloc w _).alloc (by simp) _
  by_cases h1 : c ≤ d
  · have HT : Hid (c ≤ d ∨ (c ≠ e ∧ b < e ∧ d < c ∧ r &&& y ≠ 0)) := .inl h1
    go_enter Try.func33, Try.ntmps33
    go_wp2
    go_ret
    exact ⟨rb_t HT.out, bw⟩
  · have HP : Hid ((c ≤ d ∨ (c ≠ e ∧ b < e ∧ d < c ∧ r &&& y ≠ 0)) ↔ (c ≠ e ∧ b < e ∧ d < c ∧ r &&& y ≠ 0)) := (⟨fun h => h.elim (fun z => absurd z h1) id, .inr⟩ : (c ≤ d ∨ (c ≠ e ∧ b < e ∧ d < c ∧ r &&& y ≠ 0)) ↔ (c ≠ e ∧ b < e ∧ d < c ∧ r &&& y ≠ 0))
    go_enter Try.func33, Try.ntmps33
    go_wp2_with (go_at_call 42; fail)
    refine (leadsTo_impl _ _ _ _ _ _ _ _ _ hr hy).mono ?_
    rintro en w1 ⟨⟨q, rfl, hq⟩, hb1⟩
    have bw1 := bw.trans (hb1.mono bw.size)
    have HR : Hid (RB (c ≤ d ∨ (c ≠ e ∧ b < e ∧ d < c ∧ r &&& y ≠ 0)) (.returned (.bool q))) := ⟨q, rfl, hq.trans HP.out.symm⟩
    clear hb1 hq HP
    go_wp2
    go_ret
    exact ⟨HR.out, bw1⟩
def dealV (t : TI) : List Value := [.int .i64 t.bgn, .int .i64 t.com, .int .u64 (bitsOf t.reads : Nat), .int .u64 (bitsOf t.writes : Nat)]
/-- A transaction as a deal. -/
def CDl (B : Nat) (w : World) (cs : List Value) (t : TI) : Prop := cs = dealV t ∧ tabP t.reads ∧ tabP t.writes
theorem liesD : Lies 4 CDl := ⟨fun h => by rw [h.1]; rfl, fun h _ => h, fun h _ => h, fun h _ => h⟩
theorem oneD : ∀ {B : Nat} {w : World} {cs : List Value} {x : TI}, CDl B w cs x → ∀ u ∈ cs, u.oneCell' = true := fun h u hu => by
  rw [h.1] at hu
  unfold dealV at hu
  simp at hu
  rcases hu with rfl | rfl | rfl | rfl <;> rfl
theorem tab_bits {xs : List Int} (h : tabP xs) : bitsOf xs < 4294967296 := bitsOf_lt (tab_of h.2)
theorem tab_meet {xs ys : List Int} (h : tabP xs) (g : tabP ys) : bitsOf xs &&& bitsOf ys ≠ 0 ↔ meetP xs ys := bits_meet (tab_of h.2) (tab_of g.2)
end Go.Proofs.Ytjfgojlnpbehfaa
