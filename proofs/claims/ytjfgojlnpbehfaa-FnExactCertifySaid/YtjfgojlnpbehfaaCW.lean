import Derived.Test.YtjfgojlnpbehfaaXC
import Derived.Test.YtjfgojlnpbehfaaDQ
import Derived.Test.YtjfgojlnpbehfaaDS
namespace Go.Proofs.Ytjfgojlnpbehfaa
open Go.ChangeShapes Go.WideShapes Go.ChangeAt Go.RowKit
set_option linter.unusedVariables false
set_option linter.unusedSimpArgs false
set_option maxRecDepth 100000
def CertC (us : List TI) (c : Int) : Prop := (¬ histP us ∧ c = 1) ∨ (histP us ∧ dangP us ∧ c = 21) ∨ (histP us ∧ ¬ dangP us ∧ c = 0)
theorem certC_of {us : List TI} {e : Ending} (h : CertR us e) : ∃ c, e = .returned (.int .i64 c) ∧ CertC us c := by
  rcases h with ⟨h1, h2⟩ | ⟨h1, h2, h3⟩ | ⟨h1, h2, h3⟩
  · exact ⟨1, h2, .inl ⟨h1, rfl⟩⟩
  · exact ⟨21, h3, .inr (.inl ⟨h1, h2, rfl⟩)⟩
  · exact ⟨0, h3, .inr (.inr ⟨h1, h2, rfl⟩)⟩
theorem certC_eq {us : List TI} {c d : Int} (h : CertC us c) (g : CertC us d) : c = d := by
  rcases h with ⟨h1, h2⟩ | ⟨h1, h2, h3⟩ | ⟨h1, h2, h3⟩ <;> rcases g with ⟨g1, g2⟩ | ⟨g1, g2, g3⟩ | ⟨g1, g2, g3⟩ <;> first | (exact absurd h1 g1) | (exact absurd g1 h1) | (exact absurd h2 g2) | (exact absurd g2 h2) | omega
set_option maxHeartbeats 8000000 in
theorem certify_law (la : Option Addr) (lc : Nat) (us : List TI) (t : TI) (cs : List Value) (w : World) (hus : BH maxLen us) (htm : BT maxLen t) (hv : RS 4 CT 0 w (.slice la us.length lc) us) (hC : CT 0 w cs t) :
    Calls Try.prog 3 #[.slice la us.length lc, .agg cs.toArray] w fun e w' => e = .returned (.bool true) ∧ Below w.heap.size w w' := by
  have HV : Hid (RS 4 CT 0 w (.slice la us.length lc) us) := hv
  have HC := hid hC
  obtain ⟨v0, v1, rfl, r0, r1⟩ := hC
  obtain ⟨a0, q0, rfl, _⟩ := r0
  obtain ⟨a1, q1, rfl, _⟩ := r1
  have bw0 := below_alloc w (.cells #[.int .i64 t.bgn, .int .i64 t.com, .slice a0 t.reads.length q0, .slice a1 t.writes.length q1] 25)
  have KB := hid (blk_new w [.int .i64 t.bgn, .int .i64 t.com, .slice a0 t.reads.length q0, .slice a1 t.writes.length q1] 25)
  have hz : w.heap.size < (w.alloc (.cells #[.int .i64 t.bgn, .int .i64 t.com, .slice a0 t.reads.length q0, .slice a1 t.writes.length q1] 25)).heap.size := by simp
  have hs1 := szTS_any la lc us 1048576 (w.alloc (.cells #[.int .i64 t.bgn, .int .i64 t.com, .slice a0 t.reads.length q0, .slice a1 t.writes.length q1] 25)) (by omega) (by omega) hus (HV.out.below liesT bw0)
  clear hv hus
  go_enter Try.func3, Try.ntmps3
  go_wp2_with (go_at_call 6; fail)
  refine hs1.mono ?_
  rintro e w1 ⟨rfl | ⟨m, hm, rfl, hBL⟩, hb1⟩
  · have bw1 : Below w.heap.size w w1 := bw0.trans (hb1.mono bw0.size)
    clear hs1 hb1
    go_wp2
    go_ret
    exact ⟨rfl, bw1⟩
  · replace KB := hid (KB.out.below hb1 hz)
    replace hz : w.heap.size < w1.heap.size := Nat.lt_of_lt_of_le hz hb1.size
    have bw1 : Below w.heap.size w w1 := bw0.trans (hb1.mono bw0.size)
    have HBL := hid hBL
    have hm0 : ¬ (m : Int) < 0 := by omega
    have hs2 := szT_e t [.int .i64 t.bgn, .int .i64 t.com, .slice a0 t.reads.length q0, .slice a1 t.writes.length q1] m w1 (by omega) (by omega) htm (liesT.below HC.out bw1)
    clear hs1 hb1 hBL bw0
    have k0 : w1.cell? ⟨w.heap.size, 0, none⟩ = some (.int .i64 t.bgn) := (KB.out 0 (by simp)).1
    have k1 : w1.cell? ⟨w.heap.size, 1, none⟩ = some (.int .i64 t.com) := (KB.out 1 (by simp)).1
    have k2 : w1.cell? ⟨w.heap.size, 2, none⟩ = some (.slice a0 t.reads.length q0) := (KB.out 2 (by simp)).1
    have k3 : w1.cell? ⟨w.heap.size, 3, none⟩ = some (.slice a1 t.writes.length q1) := (KB.out 3 (by simp)).1
    go_wp2_with (go_at_call 7; fail)
    refine hs2.mono ?_
    rintro e w2 ⟨rfl | ⟨m2, hm2, rfl, hBT⟩, hb2⟩
    · have bw2 : Below w.heap.size w w2 := bw1.trans (hb2.mono bw1.size)
      clear hs2 hb2
      go_wp2
      go_ret
      exact ⟨rfl, bw2⟩
    replace KB := hid (KB.out.below hb2 hz)
    replace hz : w.heap.size < w2.heap.size := Nat.lt_of_lt_of_le hz hb2.size
    have bw2 : Below w.heap.size w w2 := bw1.trans (hb2.mono bw1.size)
    have HBT := hid hBT
    have hm20 : ¬ (m2 : Int) < 0 := by omega
    clear hs2 hb2 hBT bw1 k0 k1 k2 k3 hm hm0 htm
    have ht9 := fun W (h : Below w.heap.size w W) => toTS_any la lc us W HBL.out (HV.out.below liesT h)
    have ht10 := fun W (h : Below w.heap.size w W) => toT_e t [.int .i64 t.bgn, .int .i64 t.com, .slice a0 t.reads.length q0, .slice a1 t.writes.length q1] W HBT.out (liesT.below HC.out h)
    have k0 : w2.cell? ⟨w.heap.size, 0, none⟩ = some (.int .i64 t.bgn) := (KB.out 0 (by simp)).1
    have k1 : w2.cell? ⟨w.heap.size, 1, none⟩ = some (.int .i64 t.com) := (KB.out 1 (by simp)).1
    have k2 : w2.cell? ⟨w.heap.size, 2, none⟩ = some (.slice a0 t.reads.length q0) := (KB.out 2 (by simp)).1
    have k3 : w2.cell? ⟨w.heap.size, 3, none⟩ = some (.slice a1 t.writes.length q1) := (KB.out 3 (by simp)).1
    go_wp2
    go_region_with (first
      | (go_at_call 9; refine (ht9 _ bw2.drew).mono ?_; rintro e w3 ⟨rfl, hr3, hb3⟩; replace hb3 := undrew hb3; have bw3 : Below w.heap.size w w3 := bw2.trans (hb3.mono bw2.size); replace KB := hid (KB.out.below hb3 hz); have hz3 : w.heap.size < w3.heap.size := Nat.lt_of_lt_of_le hz hb3.size; have HR3 := hid (hr3.mono liesT (Nat.zero_le _)); clear hr3 hb3; have k0 : w3.cell? ⟨w.heap.size, 0, none⟩ = some (.int .i64 t.bgn) := (KB.out 0 (by simp)).1; have k1 : w3.cell? ⟨w.heap.size, 1, none⟩ = some (.int .i64 t.com) := (KB.out 1 (by simp)).1; have k2 : w3.cell? ⟨w.heap.size, 2, none⟩ = some (.slice a0 t.reads.length q0) := (KB.out 2 (by simp)).1; have k3 : w3.cell? ⟨w.heap.size, 3, none⟩ = some (.slice a1 t.writes.length q1) := (KB.out 3 (by simp)).1)
      | (go_at_call 10; refine (ht10 _ bw3).mono ?_; rintro e w4 ⟨ds, rfl, hD4, hb4⟩; have bw4 : Below w.heap.size w w4 := bw3.trans (hb4.mono bw3.size); replace KB := hid (KB.out.below hb4 hz3); have hz4 : w.heap.size < w4.heap.size := Nat.lt_of_lt_of_le hz3 hb4.size; have hsp := certify_spec _ _ us t ds w4 HBL.out HBT.out (HR3.out.below liesT hb4) (liesT.mono hD4 (Nat.zero_le _)); clear hD4 hb4)
      | (go_at_call 8; refine hsp.mono ?_; rintro e w5 ⟨hc5, hb5⟩; obtain ⟨c, rfl, hc⟩ := certC_of hc5; have HCC := hid hc; have bw5 : Below w.heap.size w w5 := bw4.trans (hb5.mono bw4.size); replace KB := hid (KB.out.below hb5 hz4); have hz5 : w.heap.size < w5.heap.size := Nat.lt_of_lt_of_le hz4 hb5.size; clear hc5 hc hb5 hsp HR3))
    all_goals
      clear k0 k1 k2 k3
      go_wp2_with (go_at_call 9; fail)
      refine (ht9 _ bw5).mono ?_
      rintro e w6 ⟨rfl, hr6, hb6⟩
      have bw6 : Below w.heap.size w w6 := bw5.trans (hb6.mono bw5.size)
      replace KB := hid (KB.out.below hb6 hz5)
      have hz6 : w.heap.size < w6.heap.size := Nat.lt_of_lt_of_le hz5 hb6.size
      have HR6 := hid (hr6.mono liesT (Nat.zero_le _))
      obtain ⟨gx, hgx⟩ : ∃ x, x = w5.heap.size := ⟨_, rfl⟩
      rw [← hgx] at HR6 ⊢
      clear hr6 hb6 bw5 hz5 hgx
      have k0 : w6.cell? ⟨w.heap.size, 0, none⟩ = some (.int .i64 t.bgn) := (KB.out 0 (by simp)).1
      have k1 : w6.cell? ⟨w.heap.size, 1, none⟩ = some (.int .i64 t.com) := (KB.out 1 (by simp)).1
      have k2 : w6.cell? ⟨w.heap.size, 2, none⟩ = some (.slice a0 t.reads.length q0) := (KB.out 2 (by simp)).1
      have k3 : w6.cell? ⟨w.heap.size, 3, none⟩ = some (.slice a1 t.writes.length q1) := (KB.out 3 (by simp)).1
      go_wp2_with (go_at_call 10; fail)
      refine (ht10 _ bw6).mono ?_
      rintro e w7 ⟨ds, rfl, hD7, hb7⟩
      have bw7 : Below w.heap.size w w7 := bw6.trans (hb7.mono bw6.size)
      replace KB := hid (KB.out.below hb7 hz6)
      have hz7 : w.heap.size < w7.heap.size := Nat.lt_of_lt_of_le hz6 hb7.size
      replace HR6 := hid (HR6.out.below liesT hb7)
      have HD7 := hid (liesT.mono hD7 (Nat.zero_le _))
      obtain ⟨y0, y1, rfl, s0, s1⟩ := hD7
      obtain ⟨b0, p0, rfl, _⟩ := s0
      obtain ⟨b1, p1, rfl, _⟩ := s1
      clear hb7 k0 k1 k2 k3 bw6 hz6
      have bA := below_alloc w7 (.cells #[.int .i64 t.bgn, .int .i64 t.com, .slice b0 t.reads.length p0, .slice b1 t.writes.length p1] 31)
      have K8 := hid (blk_new w7 [.int .i64 t.bgn, .int .i64 t.com, .slice b0 t.reads.length p0, .slice b1 t.writes.length p1] 31)
      have bw8 : Below w.heap.size w (w7.alloc (.cells #[.int .i64 t.bgn, .int .i64 t.com, .slice b0 t.reads.length p0, .slice b1 t.writes.length p1] 31)) := bw7.alloc bw7.size _
      replace KB := hid (KB.out.below bA hz7)
      have hz8 : w.heap.size < (w7.alloc (.cells #[.int .i64 t.bgn, .int .i64 t.com, .slice b0 t.reads.length p0, .slice b1 t.writes.length p1] 31)).heap.size := Nat.lt_of_lt_of_le hz7 bA.size
      have hx8 : w7.heap.size < (w7.alloc (.cells #[.int .i64 t.bgn, .int .i64 t.com, .slice b0 t.reads.length p0, .slice b1 t.writes.length p1] 31)).heap.size := by simp
      replace HR6 := hid (HR6.out.below liesT bA)
      replace HD7 := hid (liesT.below HD7.out bA)
      have hi8 := certify_impl gx us.length us t [.int .i64 t.bgn, .int .i64 t.com, .slice b0 t.reads.length p0, .slice b1 t.writes.length p1] (w7.alloc (.cells #[.int .i64 t.bgn, .int .i64 t.com, .slice b0 t.reads.length p0, .slice b1 t.writes.length p1] 31)) HBL.out HBT.out HR6.out HD7.out
      go_wp2_with (go_at_call 11; fail)
      refine hi8.mono ?_
      rintro e w9 ⟨hc9, hb9⟩
      obtain ⟨c9, rfl, hc9'⟩ := certC_of hc9
      obtain rfl := certC_eq hc9' HCC.out
      have bw9 : Below w.heap.size w w9 := bw8.trans (hb9.mono bw8.size)
      replace KB := hid (KB.out.below hb9 hz8)
      replace K8 := hid (K8.out.below hb9 hx8)
      have hz9 : w.heap.size < w9.heap.size := Nat.lt_of_lt_of_le hz8 hb9.size
      have hx9 : w7.heap.size < w9.heap.size := Nat.lt_of_lt_of_le hx8 hb9.size
      replace HR6 := hid (HR6.out.below liesT hb9)
      replace HD7 := hid (liesT.below HD7.out hb9)
      clear hi8 hc9 hc9' HCC hb9 bw8 hz8 hx8 bA bw7 hz7
      go_wp2_with (go_at_call 9; fail)
      refine (ht9 _ bw9).mono ?_
      rintro e w10 ⟨rfl, hr10, hb10⟩
      have bw10 : Below w.heap.size w w10 := bw9.trans (hb10.mono bw9.size)
      replace KB := hid (KB.out.below hb10 hz9)
      replace K8 := hid (K8.out.below hb10 hx9)
      have hz10 : w.heap.size < w10.heap.size := Nat.lt_of_lt_of_le hz9 hb10.size
      have hx10 : w7.heap.size < w10.heap.size := Nat.lt_of_lt_of_le hx9 hb10.size
      replace HD7 := hid (liesT.below HD7.out hb10)
      have heq := eqTS_same _ _ us w10 HBL.out (HR6.out.below liesT hb10) (hr10.mono liesT (Nat.zero_le _))
      clear hb10 hr10 HR6 bw9 hz9 hx9
      go_wp2_with (go_at_call 12; fail)
      refine heq.mono ?_
      rintro e w11 ⟨rfl, hb11⟩
      have bw11 : Below w.heap.size w w11 := bw10.trans (hb11.mono bw10.size)
      replace KB := hid (KB.out.below hb11 hz10)
      replace K8 := hid (K8.out.below hb11 hx10)
      have hz11 : w.heap.size < w11.heap.size := Nat.lt_of_lt_of_le hz10 hb11.size
      have hx11 : w7.heap.size < w11.heap.size := Nat.lt_of_lt_of_le hx10 hb11.size
      replace HD7 := hid (liesT.below HD7.out hb11)
      clear hb11 heq bw10 hz10 hx10
      have k0 : w11.cell? ⟨w.heap.size, 0, none⟩ = some (.int .i64 t.bgn) := (KB.out 0 (by simp)).1
      have k1 : w11.cell? ⟨w.heap.size, 1, none⟩ = some (.int .i64 t.com) := (KB.out 1 (by simp)).1
      have k2 : w11.cell? ⟨w.heap.size, 2, none⟩ = some (.slice a0 t.reads.length q0) := (KB.out 2 (by simp)).1
      have k3 : w11.cell? ⟨w.heap.size, 3, none⟩ = some (.slice a1 t.writes.length q1) := (KB.out 3 (by simp)).1
      have l0 : w11.cell? ⟨w7.heap.size, 0, none⟩ = some (.int .i64 t.bgn) := (K8.out 0 (by simp)).1
      have l1 : w11.cell? ⟨w7.heap.size, 1, none⟩ = some (.int .i64 t.com) := (K8.out 1 (by simp)).1
      have l2 : w11.cell? ⟨w7.heap.size, 2, none⟩ = some (.slice b0 t.reads.length p0) := (K8.out 2 (by simp)).1
      have l3 : w11.cell? ⟨w7.heap.size, 3, none⟩ = some (.slice b1 t.writes.length p1) := (K8.out 3 (by simp)).1
      go_wp2
      go_region_with (first
        | (go_at_call 10; refine (ht10 _ bw11.drew).mono ?_; rintro e w12 ⟨ds, rfl, hD12, hb12⟩; replace hb12 := undrew hb12; have bw12 : Below w.heap.size w w12 := bw11.trans (hb12.mono bw11.size); replace K8 := hid (K8.out.below hb12 hx11); have hx12 : w7.heap.size < w12.heap.size := Nat.lt_of_lt_of_le hx11 hb12.size; have hq := eqT_e t [.int .i64 t.bgn, .int .i64 t.com, .slice b0 t.reads.length p0, .slice b1 t.writes.length p1] ds w12 HBT.out (liesT.below HD7.out hb12) (liesT.mono hD12 (Nat.zero_le _)); clear hb12 hD12; have l0 : w12.cell? ⟨w7.heap.size, 0, none⟩ = some (.int .i64 t.bgn) := (K8.out 0 (by simp)).1; have l1 : w12.cell? ⟨w7.heap.size, 1, none⟩ = some (.int .i64 t.com) := (K8.out 1 (by simp)).1; have l2 : w12.cell? ⟨w7.heap.size, 2, none⟩ = some (.slice b0 t.reads.length p0) := (K8.out 2 (by simp)).1; have l3 : w12.cell? ⟨w7.heap.size, 3, none⟩ = some (.slice b1 t.writes.length p1) := (K8.out 3 (by simp)).1)
        | (go_at_call 13; refine hq.mono ?_; rintro e w13 ⟨rfl, hb13⟩; have bw13 : Below w.heap.size w w13 := bw12.trans (hb13.mono bw12.size)))
      all_goals
        go_wp2
        go_ret
        exact ⟨rfl, by first | exact bw13 | exact bw13.drew⟩
end Go.Proofs.Ytjfgojlnpbehfaa
