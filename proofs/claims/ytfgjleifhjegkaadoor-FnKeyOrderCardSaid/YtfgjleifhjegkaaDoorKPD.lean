import Derived.Test.YtfgjleifhjegkaaDoorKP
import Derived.Deep.RegionHeldLaw
namespace Go.Proofs.YtfgjleifhjegkaaDoor
open Go.ChangeShapes Go.WideShapes Go.ChangeAt Go.RowKit
set_option linter.unusedVariables false
set_option linter.unusedSimpArgs false
set_option maxRecDepth 100000
set_option maxHeartbeats 4000000 in
theorem kp_date (n : Int) (s : ByteArray) (w : World) (h0 : -719162 ≤ n) (h1 : n ≤ 2932896) :
    Calls Tryd.prog 30 #[.agg #[.int .i64 5, .int .i64 n, .string s]] w fun e w' => (∃ v, e = .returned v ∧ YOut 5 w.heap.size w' v (keyP 5 n s)) ∧ Below w.heap.size w w' := by
  obtain ⟨i0, hi, hz0, hz1, hz2⟩ := info_parts infoU8
  obtain ⟨m, hm⟩ : ∃ m : Nat, n + 2147483648 = m := ⟨(n + 2147483648).toNat, by omega⟩
  have HK : Hid (keyP 5 n s = 80 :: beL 4 m) := (by unfold keyP; simp [hm] : keyP 5 n s = 80 :: beL 4 m)
  have HY : Hid (YOut 5 w.heap.size ((w.alloc (.cells #[.int .i64 5, .int .i64 n, .string s] 39)).alloc (.cells #[.int .u8 80] 5)) (.slice (some ⟨w.heap.size + 1, 0, none⟩) 1 1) [80]) := (by
    have := YOut.made (ty := 5) (b := w.heap.size) (w.alloc (.cells #[.int .i64 5, .int .i64 n, .string s] 39)) [80] (by simp) (by simp)
    simpa using this : YOut 5 w.heap.size ((w.alloc (.cells #[.int .i64 5, .int .i64 n, .string s] 39)).alloc (.cells #[.int .u8 80] 5)) (.slice (some ⟨w.heap.size + 1, 0, none⟩) 1 1) [80])
  have hw : IntKind.i64.wrap (n + 2147483648) = m := by rw [hm]; simp only [IntKind.wrap_i64, wrap64]; omega
  have hw2 : IntKind.u64.wrap (m : Int) = m := by simp only [IntKind.wrap, IntKind.bits, IntKind.signed]; simp; omega
  have hbs := fun W => bytes_spec m 4 W (by omega) (by omega)
  have hbl : (beL 4 m).length = 4 := beL_len _ _
  clear hm
  go_enter Tryd.func30, Tryd.ntmps30
  go_wp2_with (go_at_call 53; fail)
  refine (hbs _).mono ?_
  rintro e w1 ⟨rfl, hr1, hb1⟩
  have HY1 := hid (HY.out.below hb1)
  have bwA : Below w.heap.size w ((w.alloc (.cells #[.int .i64 5, .int .i64 n, .string s] 39)).alloc (.cells #[.int .u8 80] 5)) := by (go_light; repeat (first | with_reducible assumption | with_reducible exact Below.refl _ _ | (with_reducible refine Below.setCell ?_ ?_ _; rotate_left; (focus first | (simp; done) | (simp; omega) | omega)) | (with_reducible refine Below.alloc ?_ ?_ _; rotate_left; (focus first | (simp; done) | (simp; omega) | omega)) | with_reducible refine Below.drew ?_))
  have bw1 : Below w.heap.size w w1 := bwA.trans (hb1.mono bwA.size)
  have HC : Hid (∀ j u, ((beL 4 m).map (Value.int .u8))[j]? = some u → w1.cell? ((⟨w.heap.size + 1 + 1, 0, none⟩ : Addr).add j) = some u) := (fun j u hj => by
    rw [Addr.add_lit, Nat.zero_add]
    have h1 := own_cell (j := j) (u := u) hr1 hj
    simpa using h1 : ∀ j u, ((beL 4 m).map (Value.int .u8))[j]? = some u → w1.cell? ((⟨w.heap.size + 1 + 1, 0, none⟩ : Addr).add j) = some u)
  clear hbs hr1 hb1 bwA
  go_wp2_with (at_builtin; refine wpList_append_own _ rfl (.tmp 57) (.tmp 62) 24 rfl w.heap.size 5 i0 (.int .u8 0) 1 1 Tryd.underlying24 hi hz0 hz1 hz2 rfl (by decide) _ _ _ rfl HY1.out ⟨w.heap.size + 1 + 1, 0, none⟩ 4 4 ((beL 4 m).map (Value.int .u8)) rfl (by rw [List.length_map]; exact hbl) HC.out (by intro u hu; simp at hu; obtain ⟨_, _, rfl⟩ := hu; rfl) (by unfold maxLen; simp) (by simp) bw1.size ?_; intro v2 w2 hown2 hgrow2 hiff2; clear hiff2)
  have b2 : Below w.heap.size w w2 := bw1.grown hgrow2 bw1.size (fun j hj => (World.ownsRow.lt HY1.out j hj).1)
  have HR : Hid (YOut 5 w.heap.size w2 v2 (80 :: beL 4 m)) := (by
    refine YOut.more (xs := [80]) (ys := beL 4 m) ?_
    rw [hbl]; exact hown2 : YOut 5 w.heap.size w2 v2 (80 :: beL 4 m))
  clear hown2 hgrow2
  go_wp2
  go_ret
  exact ⟨⟨_, rfl, by rw [HK.out]; exact HR.out⟩, b2⟩
theorem bytes_out (n m : Nat) (w : World) (hn : n < 18446744073709551616) (hm : m ≤ 8) :
    Calls Tryd.prog 53 #[.int .u64 (n : Int), .int .i64 (m : Int)] w fun e w' => (∃ g, e = .returned (.slice (some ⟨g, 0, none⟩) m m) ∧ g < w'.heap.size ∧ ∀ j u, ((beL m n).map (Value.int .u8))[j]? = some u → w'.cell? ((⟨g, 0, none⟩ : Addr).add j) = some u) ∧ Below w.heap.size w w' := by
  refine (bytes_spec n m w hn hm).mono ?_
  rintro e w' ⟨rfl, hr, hb⟩
  refine ⟨⟨_, rfl, hr.lt.2, fun j u hj => ?_⟩, hb⟩
  rw [Addr.add_lit, Nat.zero_add]
  exact own_cell hr hj
set_option maxHeartbeats 8000000 in
theorem kp_num1 (n : Int) (s : ByteArray) (w : World) (h0 : -9223372036854775808 ≤ n) (h1 : n ≤ 9223372036854775807) :
    Calls Tryd.prog 30 #[.agg #[.int .i64 1, .int .i64 n, .string s]] w fun e w' => (∃ v, e = .returned v ∧ YOut 5 w.heap.size w' v (keyP 1 n s)) ∧ Below w.heap.size w w' := by
  obtain ⟨i0, hi, hz0, hz1, hz2⟩ := info_parts infoU8
  obtain ⟨m, hm⟩ : ∃ m : Nat, n + 9223372036854775808 = m := ⟨(n + 9223372036854775808).toNat, by omega⟩
  obtain ⟨l, hl⟩ : ∃ l, l = beL 8 m := ⟨_, rfl⟩
  have HK : Hid (keyP 1 n s = 16 :: l) := (by unfold keyP; simp [hm, hl] : keyP 1 n s = 16 :: l)
  have hw : IntKind.u64.wrap (IntKind.u64.wrap n + 9223372036854775808) = m := by rw [← hm]; simp only [IntKind.wrap, IntKind.bits, IntKind.signed]; simp; omega
  have hbl : l.length = 8 := by rw [hl]; exact beL_len _ _
  have hbs := fun W => bytes_out m 8 W (by omega) (by omega)
  rw [← hl] at hbs
  have hx1 : IntKind.u8.wrap (IntKind.i64.wrap 16) = 16 := by decide
  have HON  : Hid (∀ u ∈ l.map (Value.int .u8), u.oneCell' = true) := (by intro u hu; simp at hu; obtain ⟨_, _, rfl⟩ := hu; rfl : ∀ u ∈ l.map (Value.int .u8), u.oneCell' = true)
  have HLN : Hid ((l.map (Value.int .u8)).length = 8 * 1) := (by rw [List.length_map, hbl] : (l.map (Value.int .u8)).length = 8 * 1)
  have OB : Hid (((w.alloc (.cells #[.int .i64 1, .int .i64 n, .string s] 39)).alloc (.cells #[.int .u8 16] 5)).drew.ownsRow w.heap.size 5 1 (.slice (some ⟨w.heap.size + 1, 0, none⟩) 1 1) 1 [.int .u8 16]) := (by
    have := YOut.made (ty := 5) (b := w.heap.size) (w.alloc (.cells #[.int .i64 1, .int .i64 n, .string s] 39)) [16] (by simp) (by simp)
    have := this.drew
    simpa using this : ((w.alloc (.cells #[.int .i64 1, .int .i64 n, .string s] 39)).alloc (.cells #[.int .u8 16] 5)).drew.ownsRow w.heap.size 5 1 (.slice (some ⟨w.heap.size + 1, 0, none⟩) 1 1) 1 [.int .u8 16])
  clear hm hl hbl
  go_enter Tryd.func30, Tryd.ntmps30
  go_wp2
  go_region_held_law (fun W => W.cell? ⟨w.heap.size, 0, none⟩ = some (.int .i64 1) ∧ W.cell? ⟨w.heap.size, 1, none⟩ = some (.int .i64 n)) (go_keep)
    (first
      | (go_at_call 53
         refine (hbs _).mono ?_
         rintro e w1 ⟨⟨g1, rfl, hg1, hc1⟩, hb1⟩
         have bw1 : Below w.heap.size w w1 := by
           refine Below.trans ?_ (hb1.mono ?_)
           · (go_light; repeat (first | with_reducible assumption | with_reducible exact Below.refl _ _ | (with_reducible refine Below.setCell ?_ ?_ _; rotate_left; (focus first | (simp; done) | (simp; omega) | omega)) | (with_reducible refine Below.alloc ?_ ?_ _; rotate_left; (focus first | (simp; done) | (simp; omega) | omega)) | with_reducible refine Below.drew ?_))
           · first | (simp; done) | (simp; omega)
         have K1 : Blk w1 w.heap.size [.int .i64 1, .int .i64 n, .string s] := by
           refine Blk.below (blk_new w [.int .i64 1, .int .i64 n, .string s] 39) (Below.trans ?_ (hb1.mono ?_)) (by simp)
           · (go_light; repeat (first | with_reducible assumption | with_reducible exact Below.refl _ _ | (with_reducible refine Below.setCell ?_ ?_ _; rotate_left; (focus first | (simp; done) | (simp; omega) | omega)) | (with_reducible refine Below.alloc ?_ ?_ _; rotate_left; (focus first | (simp; done) | (simp; omega) | omega)) | with_reducible refine Below.drew ?_))
           · first | (simp; done) | (simp; omega)
         have HK1 := hid K1
         have y0 : w1.cell? ⟨w.heap.size, 0, none⟩ = some (.int .i64 1) := (K1 0 (by simp)).1
         have y1 : w1.cell? ⟨w.heap.size, 1, none⟩ = some (.int .i64 n) := (K1 1 (by simp)).1
         have HC1 := hid hc1
         have HC2 : Hid (∀ j u, (l.map (Value.int .u8))[j]? = some u → (w1.alloc (.cells #[.int .u8 16] 5)).cell? ((⟨g1, 0, none⟩ : Addr).add j) = some u) := (fun j u hj => by
           rw [Addr.add_lit, World.cell?_alloc_lt _ _ _ (by exact hg1)]
           have := hc1 j u hj
           rwa [Addr.add_lit] at this : ∀ j u, (l.map (Value.int .u8))[j]? = some u → (w1.alloc (.cells #[.int .u8 16] 5)).cell? ((⟨g1, 0, none⟩ : Addr).add j) = some u)
         have O2 : Hid ((w1.alloc (.cells #[.int .u8 16] 5)).ownsRow w.heap.size 5 1 (.slice (some ⟨w1.heap.size, 0, none⟩) 1 1) 1 [.int .u8 16]) := YOut.made (ty := 5) (b := w.heap.size) w1 [16] bw1.size (by simp)
         first
           | have O1 := hid (own_below OB.out hb1)
           | skip
         have hz1' : w.heap.size < w1.heap.size := by have := hb1.size; simp at this; omega
         clear hc1 K1 hb1)
      | (refine step_append_own rfl (.tmp 14) (.tmp 19) 24 rfl w.heap.size 5 i0 _ 1 1 Tryd.underlying24 hi hz0 hz1 hz2 rfl (by decide) (.slice (some ⟨_, 0, none⟩) 1 1) 1 [.int .u8 16] rfl ?_ ⟨g1, 0, none⟩ 8 8 (l.map (Value.int .u8)) rfl HLN.out ?_ HON.out ?_ ?_ ?_ ?_
         · first | with_reducible exact O2.out | with_reducible exact O1.out
         · first | with_reducible exact HC2.out | with_reducible exact HC1.out
         · unfold maxLen; omega
         · omega
         · first | (simp; done) | (simp; omega) | omega
         intro v2 w2 hown2 hgrow2 _
         have b2 : Below w.heap.size w w2 := by
           refine Below.grown ?_ hgrow2 ?_ ?_
           · (go_light; repeat (first | with_reducible assumption | with_reducible exact Below.refl _ _ | (with_reducible refine Below.setCell ?_ ?_ _; rotate_left; (focus first | (simp; done) | (simp; omega) | omega)) | (with_reducible refine Below.alloc ?_ ?_ _; rotate_left; (focus first | (simp; done) | (simp; omega) | omega)) | with_reducible refine Below.drew ?_))
           · first | (simp; done) | (simp; omega) | omega
           · intro k hk; simp [Value.ownBlock] at hk; first | omega | (subst hk; omega)
         have K2 : Blk w2 w.heap.size [.int .i64 1, .int .i64 n, .string s] := by
           first
             | refine Blk.grown HK1.out hgrow2 ?_ ?_
             | refine Blk.grown (Blk.below HK1.out (below_alloc _ _) ?_) hgrow2 ?_ ?_
           all_goals first | (simp [Value.ownBlock]; done) | (simp [Value.ownBlock]; omega) | omega
         have y2 : w2.cell? ⟨w.heap.size, 0, none⟩ = some (.int .i64 1) := (K2 0 (by simp)).1
         have y3 : w2.cell? ⟨w.heap.size, 1, none⟩ = some (.int .i64 n) := (K2 1 (by simp)).1
         have HR : Hid (YOut 5 w.heap.size w2 v2 (16 :: l)) := (by
           refine YOut.more (xs := [16]) (ys := l) ?_
           have hl8 : l.length = 8 := by have := HLN.out; rw [List.length_map] at this; omega
           rw [hl8]; exact hown2 : YOut 5 w.heap.size w2 v2 (16 :: l))
         clear hown2 hgrow2 K2))
  all_goals
    go_wp2
    go_ret
    exact ⟨⟨v2, by simp, by rw [HK.out]; exact HR.out⟩, b2⟩
set_option maxHeartbeats 8000000 in
theorem kp_num2 (n : Int) (s : ByteArray) (w : World) (h0 : -9223372036854775808 ≤ n) (h1 : n ≤ 9223372036854775807) :
    Calls Tryd.prog 30 #[.agg #[.int .i64 2, .int .i64 n, .string s]] w fun e w' => (∃ v, e = .returned v ∧ YOut 5 w.heap.size w' v (keyP 2 n s)) ∧ Below w.heap.size w w' := by
  obtain ⟨i0, hi, hz0, hz1, hz2⟩ := info_parts infoU8
  obtain ⟨m, hm⟩ : ∃ m : Nat, n + 9223372036854775808 = m := ⟨(n + 9223372036854775808).toNat, by omega⟩
  obtain ⟨l, hl⟩ : ∃ l, l = beL 8 m := ⟨_, rfl⟩
  have HK : Hid (keyP 2 n s = 32 :: l) := (by unfold keyP; simp [hm, hl] : keyP 2 n s = 32 :: l)
  have hw : IntKind.u64.wrap (IntKind.u64.wrap n + 9223372036854775808) = m := by rw [← hm]; simp only [IntKind.wrap, IntKind.bits, IntKind.signed]; simp; omega
  have hbl : l.length = 8 := by rw [hl]; exact beL_len _ _
  have hbs := fun W => bytes_out m 8 W (by omega) (by omega)
  rw [← hl] at hbs
  have hx1 : IntKind.u8.wrap (IntKind.i64.wrap 32) = 32 := by decide
  have HON  : Hid (∀ u ∈ l.map (Value.int .u8), u.oneCell' = true) := (by intro u hu; simp at hu; obtain ⟨_, _, rfl⟩ := hu; rfl : ∀ u ∈ l.map (Value.int .u8), u.oneCell' = true)
  have HLN : Hid ((l.map (Value.int .u8)).length = 8 * 1) := (by rw [List.length_map, hbl] : (l.map (Value.int .u8)).length = 8 * 1)
  have OB : Hid (((w.alloc (.cells #[.int .i64 2, .int .i64 n, .string s] 39)).alloc (.cells #[.int .u8 32] 5)).drew.ownsRow w.heap.size 5 1 (.slice (some ⟨w.heap.size + 1, 0, none⟩) 1 1) 1 [.int .u8 32]) := (by
    have := YOut.made (ty := 5) (b := w.heap.size) (w.alloc (.cells #[.int .i64 2, .int .i64 n, .string s] 39)) [32] (by simp) (by simp)
    have := this.drew
    simpa using this : ((w.alloc (.cells #[.int .i64 2, .int .i64 n, .string s] 39)).alloc (.cells #[.int .u8 32] 5)).drew.ownsRow w.heap.size 5 1 (.slice (some ⟨w.heap.size + 1, 0, none⟩) 1 1) 1 [.int .u8 32])
  clear hm hl hbl
  go_enter Tryd.func30, Tryd.ntmps30
  go_wp2
  go_region_held_law (fun W => W.cell? ⟨w.heap.size, 0, none⟩ = some (.int .i64 2) ∧ W.cell? ⟨w.heap.size, 1, none⟩ = some (.int .i64 n)) (go_keep)
    (first
      | (go_at_call 53
         refine (hbs _).mono ?_
         rintro e w1 ⟨⟨g1, rfl, hg1, hc1⟩, hb1⟩
         have bw1 : Below w.heap.size w w1 := by
           refine Below.trans ?_ (hb1.mono ?_)
           · (go_light; repeat (first | with_reducible assumption | with_reducible exact Below.refl _ _ | (with_reducible refine Below.setCell ?_ ?_ _; rotate_left; (focus first | (simp; done) | (simp; omega) | omega)) | (with_reducible refine Below.alloc ?_ ?_ _; rotate_left; (focus first | (simp; done) | (simp; omega) | omega)) | with_reducible refine Below.drew ?_))
           · first | (simp; done) | (simp; omega)
         have K1 : Blk w1 w.heap.size [.int .i64 2, .int .i64 n, .string s] := by
           refine Blk.below (blk_new w [.int .i64 2, .int .i64 n, .string s] 39) (Below.trans ?_ (hb1.mono ?_)) (by simp)
           · (go_light; repeat (first | with_reducible assumption | with_reducible exact Below.refl _ _ | (with_reducible refine Below.setCell ?_ ?_ _; rotate_left; (focus first | (simp; done) | (simp; omega) | omega)) | (with_reducible refine Below.alloc ?_ ?_ _; rotate_left; (focus first | (simp; done) | (simp; omega) | omega)) | with_reducible refine Below.drew ?_))
           · first | (simp; done) | (simp; omega)
         have HK1 := hid K1
         have y0 : w1.cell? ⟨w.heap.size, 0, none⟩ = some (.int .i64 2) := (K1 0 (by simp)).1
         have y1 : w1.cell? ⟨w.heap.size, 1, none⟩ = some (.int .i64 n) := (K1 1 (by simp)).1
         have HC1 := hid hc1
         have HC2 : Hid (∀ j u, (l.map (Value.int .u8))[j]? = some u → (w1.alloc (.cells #[.int .u8 32] 5)).cell? ((⟨g1, 0, none⟩ : Addr).add j) = some u) := (fun j u hj => by
           rw [Addr.add_lit, World.cell?_alloc_lt _ _ _ (by exact hg1)]
           have := hc1 j u hj
           rwa [Addr.add_lit] at this : ∀ j u, (l.map (Value.int .u8))[j]? = some u → (w1.alloc (.cells #[.int .u8 32] 5)).cell? ((⟨g1, 0, none⟩ : Addr).add j) = some u)
         have O2 : Hid ((w1.alloc (.cells #[.int .u8 32] 5)).ownsRow w.heap.size 5 1 (.slice (some ⟨w1.heap.size, 0, none⟩) 1 1) 1 [.int .u8 32]) := YOut.made (ty := 5) (b := w.heap.size) w1 [32] bw1.size (by simp)
         first
           | have O1 := hid (own_below OB.out hb1)
           | skip
         have hz1' : w.heap.size < w1.heap.size := by have := hb1.size; simp at this; omega
         clear hc1 K1 hb1)
      | (refine step_append_own rfl (.tmp 14) (.tmp 19) 24 rfl w.heap.size 5 i0 _ 1 1 Tryd.underlying24 hi hz0 hz1 hz2 rfl (by decide) (.slice (some ⟨_, 0, none⟩) 1 1) 1 [.int .u8 32] rfl ?_ ⟨g1, 0, none⟩ 8 8 (l.map (Value.int .u8)) rfl HLN.out ?_ HON.out ?_ ?_ ?_ ?_
         · first | with_reducible exact O2.out | with_reducible exact O1.out
         · first | with_reducible exact HC2.out | with_reducible exact HC1.out
         · unfold maxLen; omega
         · omega
         · first | (simp; done) | (simp; omega) | omega
         intro v2 w2 hown2 hgrow2 _
         have b2 : Below w.heap.size w w2 := by
           refine Below.grown ?_ hgrow2 ?_ ?_
           · (go_light; repeat (first | with_reducible assumption | with_reducible exact Below.refl _ _ | (with_reducible refine Below.setCell ?_ ?_ _; rotate_left; (focus first | (simp; done) | (simp; omega) | omega)) | (with_reducible refine Below.alloc ?_ ?_ _; rotate_left; (focus first | (simp; done) | (simp; omega) | omega)) | with_reducible refine Below.drew ?_))
           · first | (simp; done) | (simp; omega) | omega
           · intro k hk; simp [Value.ownBlock] at hk; first | omega | (subst hk; omega)
         have K2 : Blk w2 w.heap.size [.int .i64 2, .int .i64 n, .string s] := by
           first
             | refine Blk.grown HK1.out hgrow2 ?_ ?_
             | refine Blk.grown (Blk.below HK1.out (below_alloc _ _) ?_) hgrow2 ?_ ?_
           all_goals first | (simp [Value.ownBlock]; done) | (simp [Value.ownBlock]; omega) | omega
         have y2 : w2.cell? ⟨w.heap.size, 0, none⟩ = some (.int .i64 2) := (K2 0 (by simp)).1
         have y3 : w2.cell? ⟨w.heap.size, 1, none⟩ = some (.int .i64 n) := (K2 1 (by simp)).1
         have HR : Hid (YOut 5 w.heap.size w2 v2 (32 :: l)) := (by
           refine YOut.more (xs := [32]) (ys := l) ?_
           have hl8 : l.length = 8 := by have := HLN.out; rw [List.length_map] at this; omega
           rw [hl8]; exact hown2 : YOut 5 w.heap.size w2 v2 (32 :: l))
         clear hown2 hgrow2 K2))
  all_goals
    go_wp2
    go_ret
    exact ⟨⟨v2, by simp, by rw [HK.out]; exact HR.out⟩, b2⟩
end Go.Proofs.YtfgjleifhjegkaaDoor
