import Derived.Test.YtfgjleifhjegkaaDoorRMqr
import Derived.Laws.BitsAllLaws
namespace Go.Proofs.YtfgjleifhjegkaaDoor
open Go.ChangeShapes Go.WideShapes Go.ChangeAt Go.RowKit
set_option linter.unusedVariables false
set_option linter.unusedSimpArgs false
set_option maxRecDepth 100000
theorem xor_none {x : Int} (h0 : 0 ≤ x) (h1 : x ≤ 9223372036854775807) : bits .xor .i64 x 0 = x := by
  show IntKind.i64.wrap ((BitVec.ofInt 64 x ^^^ BitVec.ofInt 64 0).toNat : Int) = _
  have e1 : (BitVec.ofInt 64 0).toNat = 0 := by decide
  have e2 : (BitVec.ofInt 64 x).toNat = x.toNat := by rw [BitVec.toNat_ofInt]; show (x % 18446744073709551616).toNat = _; omega
  rw [BitVec.toNat_xor, e1, e2, Nat.xor_zero, IntKind.wrap_i64]
  omega
theorem xor_minus {x : Int} (h0 : 0 ≤ x) (h1 : x ≤ 9223372036854775807) : bits .xor .i64 x (-1) = -x - 1 := by
  show IntKind.i64.wrap ((BitVec.ofInt 64 x ^^^ BitVec.ofInt 64 (-1)).toNat : Int) = _
  have e1 : (BitVec.ofInt 64 (-1)).toNat = 2 ^ 64 - 1 := by decide
  have e2 : (BitVec.ofInt 64 x).toNat = x.toNat := by rw [BitVec.toNat_ofInt]; show (x % 18446744073709551616).toNat = _; omega
  rw [BitVec.toNat_xor, e1, e2, xor_ones _ (by omega), IntKind.wrap_i64]
  omega
theorem and_one (n : Nat) (h : n < 18446744073709551616) : bits .and .u64 (n : Int) 1 = ((n % 2 : Nat) : Int) := by
  have := u64_and_nat n 1 h (by decide)
  rw [show ((1 : Nat) : Int) = 1 from rfl] at this
  rw [this, Nat.and_one_is_mod]
theorem or_above (n x j : Nat) (hj : 7 * j ≤ 64) (hn : n < 2 ^ (7 * j)) (hn64 : n < 18446744073709551616) : bits .or .u64 (n : Int) ((x * 2 ^ (7 * j) % 18446744073709551616 : Nat) : Int) = ((n + x * 2 ^ (7 * j) % 18446744073709551616 : Nat) : Int) := by
  have e64 : 18446744073709551616 = 2 ^ (7 * j) * 2 ^ (64 - 7 * j) := by rw [← Nat.pow_add, show 7 * j + (64 - 7 * j) = 64 by omega]
  have e : x * 2 ^ (7 * j) % 18446744073709551616 = 2 ^ (7 * j) * (x % 2 ^ (64 - 7 * j)) := by rw [e64, Nat.mul_comm x, Nat.mul_mod_mul_left]
  rw [u64_or_nat _ _ hn64 (Nat.mod_lt _ (by decide)), e, Nat.or_comm, ← Nat.two_pow_add_eq_or_of_lt hn, Nat.add_comm]
set_option maxHeartbeats 2000000 in
theorem unfold_impl (n : Nat) (w : World) (h : n < 18446744073709551616) :
    Calls Tryd.prog 67 #[.int .u64 (n : Int)] w fun e w' => e = .returned (.int .i64 (unfN n)) ∧ w' = w := by
  have ha := and_one n h
  have hw : IntKind.i64.wrap ((n : Int) / 2) = (n : Int) / 2 := by simp only [IntKind.wrap_i64]; omega
  by_cases hm : n % 2 = 1
  · have HE : Hid (unfN n = -((n : Int) / 2) - 1) := (by unfold unfN; rw [if_pos hm]; omega : unfN n = -((n : Int) / 2) - 1)
    have hx := xor_minus (x := (n : Int) / 2) (by omega) (by omega)
    rw [hm] at ha
    go_enter Tryd.func67, Tryd.ntmps67
    go_wp2
    go_ret
    exact ⟨ret_i (by first | exact HE.out.symm | (rw [HE.out]; exact hx) | (rw [HE.out, ← hx]; rfl)), rfl⟩
  · have hm0 : n % 2 = 0 := by omega
    have HE : Hid (unfN n = (n : Int) / 2) := (by unfold unfN; rw [if_neg hm]; omega : unfN n = (n : Int) / 2)
    have hx := xor_none (x := (n : Int) / 2) (by omega) (by omega)
    rw [hm0] at ha
    go_enter Tryd.func67, Tryd.ntmps67
    go_wp2
    go_ret
    exact ⟨ret_i (by first | exact HE.out.symm | (rw [HE.out]; exact hx) | (rw [HE.out, ← hx]; rfl)), rfl⟩
theorem nx_bound (n x j : Nat) (hj : 7 * j ≤ 64) (hx : x < 128) (hn : n < 2 ^ (7 * j)) : n + x * 2 ^ (7 * j) % 18446744073709551616 < 18446744073709551616 ∧ n + x * 2 ^ (7 * j) % 18446744073709551616 < 2 ^ (7 * (j + 1)) := by
  have e64 : 18446744073709551616 = 2 ^ (7 * j) * 2 ^ (64 - 7 * j) := by rw [← Nat.pow_add, show 7 * j + (64 - 7 * j) = 64 by omega]
  have h1 : x % 2 ^ (64 - 7 * j) < 2 ^ (64 - 7 * j) := Nat.mod_lt _ (Nat.two_pow_pos _)
  have h2 : x % 2 ^ (64 - 7 * j) ≤ x := Nat.mod_le _ _
  have h3 : 2 ^ (7 * j) * (x % 2 ^ (64 - 7 * j) + 1) ≤ 2 ^ (7 * j) * 2 ^ (64 - 7 * j) := Nat.mul_le_mul_left _ (by omega)
  have h4 : 2 ^ (7 * j) * (x % 2 ^ (64 - 7 * j) + 1) ≤ 2 ^ (7 * j) * 128 := Nat.mul_le_mul_left _ (by omega)
  rw [Nat.mul_add, Nat.mul_one] at h3 h4
  have e7 : 2 ^ (7 * (j + 1)) = 2 ^ (7 * j) * 128 := by rw [show 7 * (j + 1) = 7 * j + 7 by omega, Nat.pow_add]
  rw [e7]
  have e : x * 2 ^ (7 * j) % 18446744073709551616 = 2 ^ (7 * j) * (x % 2 ^ (64 - 7 * j)) := by rw [e64, Nat.mul_comm x, Nat.mul_mod_mul_left]
  rw [e]
  refine ⟨?_, ?_⟩
  · rw [e64]
    exact Nat.lt_of_lt_of_le (by omega : n + 2 ^ (7 * j) * (x % 2 ^ (64 - 7 * j)) < 2 ^ (7 * j) * (x % 2 ^ (64 - 7 * j)) + 2 ^ (7 * j)) h3
  · exact Nat.lt_of_lt_of_le (by omega : n + 2 ^ (7 * j) * (x % 2 ^ (64 - 7 * j)) < 2 ^ (7 * j) * (x % 2 ^ (64 - 7 * j)) + 2 ^ (7 * j)) h4
theorem sl_wrap (x j : Nat) : IntKind.u64.wrap ((x : Int) * 2 ^ (7 * j)) = ((x * 2 ^ (7 * j) % 18446744073709551616 : Nat) : Int) := by
  rw [IntKind.wrap_u64, Int.natCast_emod, Int.natCast_mul, Int.natCast_pow]
  rfl
/-- One round of a varint. -/
theorem vi_step {l l1 : List Int} {j n : Nat} (hj : j ≤ 9) (hn64 : n < 18446744073709551616) (hn : n < 2 ^ (7 * j)) (hB : Byt l1) (he : viI l = viF (10 - j) j n l1) :
    ∃ (b : Int) (y n2 : Nat), nmI (pcL l1 1).1 = b ∧ (0 ≤ b ∧ b ≤ 255) ∧ IntKind.u64.wrap (b % 128 * 2 ^ (7 * j)) = (y : Int) ∧ bits .or .u64 (n : Int) (y : Int) = (n2 : Int) ∧ n2 < 18446744073709551616 ∧ n2 < 2 ^ (7 * (j + 1)) ∧ Byt (pcL l1 1).2 ∧ (b < 128 → viI l = (n2, (pcL l1 1).2)) ∧ (¬ b < 128 → viI l = viF (10 - (j + 1)) (j + 1) n2 (pcL l1 1).2) := by
  obtain ⟨b, hb⟩ : ∃ b, nmI (pcL l1 1).1 = b := ⟨_, rfl⟩
  have hbr : 0 ≤ b ∧ b ≤ 255 := by
    rw [← hb]
    rcases l1 with _ | ⟨b, r⟩
    · rw [pc_one_nil, nm_nil]; exact ⟨by decide, by decide⟩
    · have := hB b (List.mem_cons_self ..)
      rw [pc_one, nm_one this.1 this.2]; exact this
  obtain ⟨x, hx⟩ : ∃ x : Nat, b % 128 = x := ⟨(b % 128).toNat, by omega⟩
  have hx8 : x < 128 := by omega
  have hxt : (b % 128).toNat = x := by omega
  obtain ⟨h1, h2⟩ := nx_bound n x j (by omega) hx8 hn
  refine ⟨b, x * 2 ^ (7 * j) % 18446744073709551616, n + x * 2 ^ (7 * j) % 18446744073709551616, hb, hbr, by rw [hx]; exact sl_wrap x j, or_above n x j (by omega) hn hn64, h1, h2, (byt_pc hB 1).2, fun h => ?_, fun h => ?_⟩
  · rw [he, show 10 - j = (9 - j) + 1 by omega, viF, hb, if_pos h, hxt]
  · rw [he, show 10 - j = (9 - j) + 1 by omega, viF, hb, if_neg h, hxt, show 10 - (j + 1) = 9 - j by omega]
def ViP (B q : Nat) (l : List Int) (w : World) (e : Ending) (w' : World) : Prop := ∃ rv sh, e = .returned (.int .u64 ((viI l).1 : Int)) ∧ St B q w w' rv sh (viI l).2
set_option maxHeartbeats 4000000 in
theorem varint_any (B q : Nat) (v : Value) (l : List Int) (sh : Bool) (w : World) (hq : q < w.heap.size) (hB : B ≤ q) (hK : Blk w q [v, .bool sh]) (hv : YS B w v l) (hb : Byt l) :
    Calls Tryd.prog 68 #[.pointer (some ⟨q, 0, none⟩)] w fun e w' => ViP B q l w e w' := by
  have HS0 : Hid (St B q w w v sh l) := ⟨GQ.refl _ _, hK, hv⟩
  have HB0 := hid hb
  clear hK hv hb
  go_enter Tryd.func68, Tryd.ntmps68
  go_wp2
  go_loopw [3, 4] (fun nv iv wr => ∃ (j n : Nat) (l1 : List Int) (rv : Value) (s1 : Bool), j ≤ 10 ∧ Hid (n < 18446744073709551616) ∧ nv = .int .u64 (n : Int) ∧ iv = .int .i64 (7 * (j : Int)) ∧ Hid (n < 2 ^ (7 * j)) ∧ Hid (St B q w wr rv s1 l1) ∧ Hid (Byt l1) ∧ Hid (viI l = viF (10 - j) j n l1)) (fun _ iv _ => (100 - intOf iv).toNat)
  case atStart => exact ⟨0, 0, l, v, sh, by omega, (by omega : 0 < 18446744073709551616), rfl, rfl, (by simp : 0 < 2 ^ (7 * 0)), HS0, HB0, rfl⟩
  case round =>
    clear HS0 HB0
    obtain ⟨j, n, l1, rv, s1, hj, HN64, rfl, rfl, HN, HS, HB, HE⟩ := hrel
    by_cases hj9 : j ≤ 9
    · have hi63 : 7 * (j : Int) < 64 := by omega
      have hsz := HS.out.gq.size
      have hnb := number_any B q rv l1 s1 1 wr (by omega) hB HS.out.blk HS.out.ys HB.out
      obtain ⟨b, y, n2, hbe, hbr, hsl, hor, hn2b, hn2c, hbr2, hend, hgo⟩ := vi_step hj9 HN64.out HN.out HB.out HE.out
      unfold NbP at hnb
      rw [hbe] at hnb
      have HN2 : Hid (n2 < 18446744073709551616) := hn2b
      have HN3 : Hid (n2 < 2 ^ (7 * (j + 1))) := hn2c
      have HBR : Hid (Byt (pcL l1 1).2) := hbr2
      have HEND : Hid (b < 128 → viI l = (n2, (pcL l1 1).2)) := hend
      have HGO : Hid (¬ b < 128 → viI l = viF (10 - (j + 1)) (j + 1) n2 (pcL l1 1).2) := hgo
      clear hn2b hn2c hbr2 hend hgo hbe HB HN HN64 HE
      have hwb : IntKind.u64.wrap b = b := by simp only [IntKind.wrap_u64]; omega
      have hw7 : IntKind.i64.wrap (7 * (j : Int) + 7) = 7 * ((j + 1 : Nat) : Int) := by simp only [IntKind.wrap_i64]; omega
      generalize (pcL l1 1).2 = r1 at *
      go_wp2_with (go_at_call 44; fail)
      refine hnb.mono ?_
      rintro e w1 ⟨rv1, s2, rfl, hg1, hk1, hv1⟩
      have HS1 := hid (HS.out.on hg1 hk1 hv1)
      clear hnb hg1 hk1 hv1 HS
      by_cases hb128 : b < 128
      · have HR : Hid (ViP B q l w (.returned (.int .u64 (n2 : Int))) w1) := (by
          have he := HEND.out hb128
          exact ⟨rv1, s2, by rw [he], by rw [he]; exact HS1.out⟩ : ViP B q l w (.returned (.int .u64 (n2 : Int))) w1)
        clear HEND HGO HS1 HN2 HN3
        go_wp2
        go_ret
        exact HR.out
      · have HE2 := hid (HGO.out (by omega))
        clear HEND HGO
        go_wp2
        go_roundw
        case rel => exact ⟨j + 1, n2, r1, rv1, s2, by omega, HN2, by first | rfl | go_num, by first | rfl | go_num, HN3, HS1, HBR, HE2⟩
        case measure => simp [intOf]; omega
    · have hj10 : j = 10 := by omega
      subst hj10
      have HR : Hid (ViP B q l w (.returned (.int .u64 (n : Int))) wr) := (by
        have he := HE.out
        exact ⟨rv, s1, by rw [he]; rfl, by rw [he]; exact HS.out⟩ : ViP B q l w (.returned (.int .u64 (n : Int))) wr)
      clear HE HS HN HB HN64
      go_wp2
      go_ret
      exact HR.out
end Go.Proofs.YtfgjleifhjegkaaDoor
namespace Go.Proofs.YtfgjleifhjegkaaDoor
open Go.ChangeShapes Go.WideShapes Go.ChangeAt Go.RowKit
set_option linter.unusedVariables false
set_option linter.unusedSimpArgs false
set_option maxRecDepth 100000
/-- The value at the head of a row's rest, and what is left. -/
def prI (l : List Int) : VA × List Int :=
  let b := nmI (pcL l 1).1
  let r := (pcL l 1).2
  if b = 1 ∨ b = 2 ∨ b = 5 then (⟨b, unfN (viI r).1, noS⟩, (viI r).2)
  else if b = 3 then (⟨3, 0, strOfNums (pcL (viI r).2 (wrap64 ((viI r).1 : Int))).1⟩, (pcL (viI r).2 (wrap64 ((viI r).1 : Int))).2)
  else if b = 4 then (⟨4, nmI (pcL r 1).1, noS⟩, (pcL r 1).2)
  else (⟨b, 0, noS⟩, r)
set_option maxHeartbeats 8000000 in
theorem rpi1 (B q : Nat) (v : Value) (b : Int) (r : List Int) (sh : Bool) (w : World) (hq : q < w.heap.size) (hB : B ≤ q) (hK : Blk w q [v, .bool sh]) (l : List Int) (hv : YS B w v l) (hb : Byt l) (hpb : nmI (pcL l 1).1 = b) (hpr : (pcL l 1).2 = r) (hbb : 0 ≤ b ∧ b ≤ 255) (hkd : b = 1) :
    Calls Tryd.prog 45 #[.pointer (some ⟨q, 0, none⟩)] w fun e w' => PkP B q ⟨1, unfN (viI r).1, noS⟩ (viI r).2 w e w' := by
  have HBR : Hid (Byt r) := (by rw [← hpr]; exact (byt_pc hb 1).2 : Byt r)
  have S0 : St B q w w v sh l := ⟨GQ.refl _ _, hK, hv⟩
  have S1 : St B q w (w.alloc (.cells #[.int .i64 0, .int .i64 0, .string ⟨#[]⟩] 39)) v sh l := S0.alloc hB hq
  have hnb := number_any B q v l sh 1 (w.alloc (.cells #[.int .i64 0, .int .i64 0, .string ⟨#[]⟩] 39)) (by simp; omega) hB S1.blk S1.ys hb
  unfold NbP at hnb
  rw [hpb, hpr] at hnb
  subst hkd
  have HS1 := hid S1
  have HR0 := hid (blk_new w [.int .i64 0, .int .i64 0, .string ⟨#[]⟩] 39)
  clear hK hv hb S0 S1 
  go_enter Tryd.func45, Tryd.ntmps45
  go_wp2_with (go_at_call 44; fail)
  refine hnb.mono ?_
  rintro e w1 ⟨rv1, s1, rfl, hg1, hk1, hv1⟩
  have hs1 : w.heap.size < w1.heap.size := by have := hg1.size; simp at this; omega
  have HS2 : Hid (St B q w (w1.alloc (.cells #[.int .i64 (1), .int .i64 0, .string ⟨#[]⟩] 39)) rv1 s1 r) := (HS1.out.on hg1 hk1 hv1).alloc hB hq
  have HR1 : Hid (Blk (w1.alloc (.cells #[.int .i64 (1), .int .i64 0, .string ⟨#[]⟩] 39)) w.heap.size [.int .i64 0, .int .i64 0, .string ⟨#[]⟩]) := (HR0.out.gq hg1 (by simp) (by omega)).below (below_alloc _ _) hs1
  have HN1 := hid (blk_new w1 [.int .i64 (1), .int .i64 0, .string ⟨#[]⟩] 39)
  clear hnb hg1 hk1 hv1 HS1 HR0
  have hnb2 := varint_any B q rv1 r s1 (w1.alloc (.cells #[.int .i64 (1), .int .i64 0, .string ⟨#[]⟩] 39)) (by simp; omega) hB HS2.out.blk HS2.out.ys HBR.out
  go_wp2_with (go_at_call 68; fail)
  refine hnb2.mono ?_
  rintro e w2 ⟨rv2, s2, rfl, hst2⟩
  obtain ⟨hg2, hk2, hv2⟩ := hst2
  have hs2 : w.heap.size < w2.heap.size ∧ w1.heap.size < w2.heap.size := by have := hg2.size; simp at this; omega
  have HS3 := hid (HS2.out.on hg2 hk2 hv2)
  have HR2 : Hid (Blk w2 w.heap.size [.int .i64 0, .int .i64 0, .string ⟨#[]⟩]) := HR1.out.gq hg2 (by simp; omega) (by omega)
  have HN2 : Hid (Blk w2 w1.heap.size [.int .i64 (1), .int .i64 0, .string ⟨#[]⟩]) := HN1.out.gq hg2 (by simp) (by omega)
  have hne : w.heap.size ≠ w1.heap.size := by omega
  have hne2 : w1.heap.size ≠ w.heap.size := by omega
  have c0 : w2.cell? ⟨w1.heap.size, 0, none⟩ = some (.int .i64 (1)) := (HN2.out 0 (by simp)).1
  have c1 : w2.cell? ⟨w1.heap.size, 1, none⟩ = some (.int .i64 0) := (HN2.out 1 (by simp)).1
  have c2 : w2.cell? ⟨w1.heap.size, 2, none⟩ = some (.string ⟨#[]⟩) := (HN2.out 2 (by simp)).1
  have f1 : w2.frozen? ⟨w1.heap.size, 1, none⟩ = false := (HN2.out 1 (by simp)).2
  have f2 : w2.frozen? ⟨w1.heap.size, 2, none⟩ = false := (HN2.out 2 (by simp)).2
  have r0 : w2.cell? ⟨w.heap.size, 0, none⟩ = some (.int .i64 0) := (HR2.out 0 (by simp)).1
  have r1 : w2.cell? ⟨w.heap.size, 1, none⟩ = some (.int .i64 0) := (HR2.out 1 (by simp)).1
  have r2 : w2.cell? ⟨w.heap.size, 2, none⟩ = some (.string ⟨#[]⟩) := (HR2.out 2 (by simp)).1
  have g0 : w2.frozen? ⟨w.heap.size, 0, none⟩ = false := (HR2.out 0 (by simp)).2
  have g1 : w2.frozen? ⟨w.heap.size, 1, none⟩ = false := (HR2.out 1 (by simp)).2
  have g2 : w2.frozen? ⟨w.heap.size, 2, none⟩ = false := (HR2.out 2 (by simp)).2
  clear hnb2 hg2 hk2 hv2 HS2 HR1 HN1 HR2 HN2
  have htu := fun W => unfold_impl (viI r).1 W (vi_range r)
  go_wp2_with (go_at_call 67; refine (htu _).mono ?_; rintro e w3 ⟨rfl, hw3⟩; replace hw3 := hw3.symm; subst hw3)
  refine bodyPost_ret (v := .agg #[.int .i64 (⟨1, unfN (viI r).1, noS⟩ : VA).k, .int .i64 (⟨1, unfN (viI r).1, noS⟩ : VA).n, .string (⟨1, unfN (viI r).1, noS⟩ : VA).s]) (by simp [results, Tryd.results45, go_sem, hne, hne2, noS, r0, r1, r2]) rfl ⟨rv2, s2, rfl, ?_⟩
  refine St.set ?_ hB hq (by omega)
  refine St.set ?_ hB hq (by omega)
  refine St.set ?_ hB hq (by omega)
  refine St.set ?_ hB hq (by omega)
  exact HS3.out
set_option maxHeartbeats 8000000 in
theorem rpi2 (B q : Nat) (v : Value) (b : Int) (r : List Int) (sh : Bool) (w : World) (hq : q < w.heap.size) (hB : B ≤ q) (hK : Blk w q [v, .bool sh]) (l : List Int) (hv : YS B w v l) (hb : Byt l) (hpb : nmI (pcL l 1).1 = b) (hpr : (pcL l 1).2 = r) (hbb : 0 ≤ b ∧ b ≤ 255) (hkd : b = 2) :
    Calls Tryd.prog 45 #[.pointer (some ⟨q, 0, none⟩)] w fun e w' => PkP B q ⟨2, unfN (viI r).1, noS⟩ (viI r).2 w e w' := by
  have HBR : Hid (Byt r) := (by rw [← hpr]; exact (byt_pc hb 1).2 : Byt r)
  have S0 : St B q w w v sh l := ⟨GQ.refl _ _, hK, hv⟩
  have S1 : St B q w (w.alloc (.cells #[.int .i64 0, .int .i64 0, .string ⟨#[]⟩] 39)) v sh l := S0.alloc hB hq
  have hnb := number_any B q v l sh 1 (w.alloc (.cells #[.int .i64 0, .int .i64 0, .string ⟨#[]⟩] 39)) (by simp; omega) hB S1.blk S1.ys hb
  unfold NbP at hnb
  rw [hpb, hpr] at hnb
  subst hkd
  have HS1 := hid S1
  have HR0 := hid (blk_new w [.int .i64 0, .int .i64 0, .string ⟨#[]⟩] 39)
  clear hK hv hb S0 S1 
  go_enter Tryd.func45, Tryd.ntmps45
  go_wp2_with (go_at_call 44; fail)
  refine hnb.mono ?_
  rintro e w1 ⟨rv1, s1, rfl, hg1, hk1, hv1⟩
  have hs1 : w.heap.size < w1.heap.size := by have := hg1.size; simp at this; omega
  have HS2 : Hid (St B q w (w1.alloc (.cells #[.int .i64 (2), .int .i64 0, .string ⟨#[]⟩] 39)) rv1 s1 r) := (HS1.out.on hg1 hk1 hv1).alloc hB hq
  have HR1 : Hid (Blk (w1.alloc (.cells #[.int .i64 (2), .int .i64 0, .string ⟨#[]⟩] 39)) w.heap.size [.int .i64 0, .int .i64 0, .string ⟨#[]⟩]) := (HR0.out.gq hg1 (by simp) (by omega)).below (below_alloc _ _) hs1
  have HN1 := hid (blk_new w1 [.int .i64 (2), .int .i64 0, .string ⟨#[]⟩] 39)
  clear hnb hg1 hk1 hv1 HS1 HR0
  have hnb2 := varint_any B q rv1 r s1 (w1.alloc (.cells #[.int .i64 (2), .int .i64 0, .string ⟨#[]⟩] 39)) (by simp; omega) hB HS2.out.blk HS2.out.ys HBR.out
  go_wp2_with (go_at_call 68; fail)
  refine hnb2.mono ?_
  rintro e w2 ⟨rv2, s2, rfl, hst2⟩
  obtain ⟨hg2, hk2, hv2⟩ := hst2
  have hs2 : w.heap.size < w2.heap.size ∧ w1.heap.size < w2.heap.size := by have := hg2.size; simp at this; omega
  have HS3 := hid (HS2.out.on hg2 hk2 hv2)
  have HR2 : Hid (Blk w2 w.heap.size [.int .i64 0, .int .i64 0, .string ⟨#[]⟩]) := HR1.out.gq hg2 (by simp; omega) (by omega)
  have HN2 : Hid (Blk w2 w1.heap.size [.int .i64 (2), .int .i64 0, .string ⟨#[]⟩]) := HN1.out.gq hg2 (by simp) (by omega)
  have hne : w.heap.size ≠ w1.heap.size := by omega
  have hne2 : w1.heap.size ≠ w.heap.size := by omega
  have c0 : w2.cell? ⟨w1.heap.size, 0, none⟩ = some (.int .i64 (2)) := (HN2.out 0 (by simp)).1
  have c1 : w2.cell? ⟨w1.heap.size, 1, none⟩ = some (.int .i64 0) := (HN2.out 1 (by simp)).1
  have c2 : w2.cell? ⟨w1.heap.size, 2, none⟩ = some (.string ⟨#[]⟩) := (HN2.out 2 (by simp)).1
  have f1 : w2.frozen? ⟨w1.heap.size, 1, none⟩ = false := (HN2.out 1 (by simp)).2
  have f2 : w2.frozen? ⟨w1.heap.size, 2, none⟩ = false := (HN2.out 2 (by simp)).2
  have r0 : w2.cell? ⟨w.heap.size, 0, none⟩ = some (.int .i64 0) := (HR2.out 0 (by simp)).1
  have r1 : w2.cell? ⟨w.heap.size, 1, none⟩ = some (.int .i64 0) := (HR2.out 1 (by simp)).1
  have r2 : w2.cell? ⟨w.heap.size, 2, none⟩ = some (.string ⟨#[]⟩) := (HR2.out 2 (by simp)).1
  have g0 : w2.frozen? ⟨w.heap.size, 0, none⟩ = false := (HR2.out 0 (by simp)).2
  have g1 : w2.frozen? ⟨w.heap.size, 1, none⟩ = false := (HR2.out 1 (by simp)).2
  have g2 : w2.frozen? ⟨w.heap.size, 2, none⟩ = false := (HR2.out 2 (by simp)).2
  clear hnb2 hg2 hk2 hv2 HS2 HR1 HN1 HR2 HN2
  have htu := fun W => unfold_impl (viI r).1 W (vi_range r)
  go_wp2_with (go_at_call 67; refine (htu _).mono ?_; rintro e w3 ⟨rfl, hw3⟩; replace hw3 := hw3.symm; subst hw3)
  refine bodyPost_ret (v := .agg #[.int .i64 (⟨2, unfN (viI r).1, noS⟩ : VA).k, .int .i64 (⟨2, unfN (viI r).1, noS⟩ : VA).n, .string (⟨2, unfN (viI r).1, noS⟩ : VA).s]) (by simp [results, Tryd.results45, go_sem, hne, hne2, noS, r0, r1, r2]) rfl ⟨rv2, s2, rfl, ?_⟩
  refine St.set ?_ hB hq (by omega)
  refine St.set ?_ hB hq (by omega)
  refine St.set ?_ hB hq (by omega)
  refine St.set ?_ hB hq (by omega)
  exact HS3.out
set_option maxHeartbeats 8000000 in
theorem rpi5 (B q : Nat) (v : Value) (b : Int) (r : List Int) (sh : Bool) (w : World) (hq : q < w.heap.size) (hB : B ≤ q) (hK : Blk w q [v, .bool sh]) (l : List Int) (hv : YS B w v l) (hb : Byt l) (hpb : nmI (pcL l 1).1 = b) (hpr : (pcL l 1).2 = r) (hbb : 0 ≤ b ∧ b ≤ 255) (hkd : b = 5) :
    Calls Tryd.prog 45 #[.pointer (some ⟨q, 0, none⟩)] w fun e w' => PkP B q ⟨5, unfN (viI r).1, noS⟩ (viI r).2 w e w' := by
  have HBR : Hid (Byt r) := (by rw [← hpr]; exact (byt_pc hb 1).2 : Byt r)
  have S0 : St B q w w v sh l := ⟨GQ.refl _ _, hK, hv⟩
  have S1 : St B q w (w.alloc (.cells #[.int .i64 0, .int .i64 0, .string ⟨#[]⟩] 39)) v sh l := S0.alloc hB hq
  have hnb := number_any B q v l sh 1 (w.alloc (.cells #[.int .i64 0, .int .i64 0, .string ⟨#[]⟩] 39)) (by simp; omega) hB S1.blk S1.ys hb
  unfold NbP at hnb
  rw [hpb, hpr] at hnb
  subst hkd
  have HS1 := hid S1
  have HR0 := hid (blk_new w [.int .i64 0, .int .i64 0, .string ⟨#[]⟩] 39)
  clear hK hv hb S0 S1 
  go_enter Tryd.func45, Tryd.ntmps45
  go_wp2_with (go_at_call 44; fail)
  refine hnb.mono ?_
  rintro e w1 ⟨rv1, s1, rfl, hg1, hk1, hv1⟩
  have hs1 : w.heap.size < w1.heap.size := by have := hg1.size; simp at this; omega
  have HS2 : Hid (St B q w (w1.alloc (.cells #[.int .i64 (5), .int .i64 0, .string ⟨#[]⟩] 39)) rv1 s1 r) := (HS1.out.on hg1 hk1 hv1).alloc hB hq
  have HR1 : Hid (Blk (w1.alloc (.cells #[.int .i64 (5), .int .i64 0, .string ⟨#[]⟩] 39)) w.heap.size [.int .i64 0, .int .i64 0, .string ⟨#[]⟩]) := (HR0.out.gq hg1 (by simp) (by omega)).below (below_alloc _ _) hs1
  have HN1 := hid (blk_new w1 [.int .i64 (5), .int .i64 0, .string ⟨#[]⟩] 39)
  clear hnb hg1 hk1 hv1 HS1 HR0
  have hnb2 := varint_any B q rv1 r s1 (w1.alloc (.cells #[.int .i64 (5), .int .i64 0, .string ⟨#[]⟩] 39)) (by simp; omega) hB HS2.out.blk HS2.out.ys HBR.out
  go_wp2_with (go_at_call 68; fail)
  refine hnb2.mono ?_
  rintro e w2 ⟨rv2, s2, rfl, hst2⟩
  obtain ⟨hg2, hk2, hv2⟩ := hst2
  have hs2 : w.heap.size < w2.heap.size ∧ w1.heap.size < w2.heap.size := by have := hg2.size; simp at this; omega
  have HS3 := hid (HS2.out.on hg2 hk2 hv2)
  have HR2 : Hid (Blk w2 w.heap.size [.int .i64 0, .int .i64 0, .string ⟨#[]⟩]) := HR1.out.gq hg2 (by simp; omega) (by omega)
  have HN2 : Hid (Blk w2 w1.heap.size [.int .i64 (5), .int .i64 0, .string ⟨#[]⟩]) := HN1.out.gq hg2 (by simp) (by omega)
  have hne : w.heap.size ≠ w1.heap.size := by omega
  have hne2 : w1.heap.size ≠ w.heap.size := by omega
  have c0 : w2.cell? ⟨w1.heap.size, 0, none⟩ = some (.int .i64 (5)) := (HN2.out 0 (by simp)).1
  have c1 : w2.cell? ⟨w1.heap.size, 1, none⟩ = some (.int .i64 0) := (HN2.out 1 (by simp)).1
  have c2 : w2.cell? ⟨w1.heap.size, 2, none⟩ = some (.string ⟨#[]⟩) := (HN2.out 2 (by simp)).1
  have f1 : w2.frozen? ⟨w1.heap.size, 1, none⟩ = false := (HN2.out 1 (by simp)).2
  have f2 : w2.frozen? ⟨w1.heap.size, 2, none⟩ = false := (HN2.out 2 (by simp)).2
  have r0 : w2.cell? ⟨w.heap.size, 0, none⟩ = some (.int .i64 0) := (HR2.out 0 (by simp)).1
  have r1 : w2.cell? ⟨w.heap.size, 1, none⟩ = some (.int .i64 0) := (HR2.out 1 (by simp)).1
  have r2 : w2.cell? ⟨w.heap.size, 2, none⟩ = some (.string ⟨#[]⟩) := (HR2.out 2 (by simp)).1
  have g0 : w2.frozen? ⟨w.heap.size, 0, none⟩ = false := (HR2.out 0 (by simp)).2
  have g1 : w2.frozen? ⟨w.heap.size, 1, none⟩ = false := (HR2.out 1 (by simp)).2
  have g2 : w2.frozen? ⟨w.heap.size, 2, none⟩ = false := (HR2.out 2 (by simp)).2
  clear hnb2 hg2 hk2 hv2 HS2 HR1 HN1 HR2 HN2
  have htu := fun W => unfold_impl (viI r).1 W (vi_range r)
  go_wp2_with (go_at_call 67; refine (htu _).mono ?_; rintro e w3 ⟨rfl, hw3⟩; replace hw3 := hw3.symm; subst hw3)
  refine bodyPost_ret (v := .agg #[.int .i64 (⟨5, unfN (viI r).1, noS⟩ : VA).k, .int .i64 (⟨5, unfN (viI r).1, noS⟩ : VA).n, .string (⟨5, unfN (viI r).1, noS⟩ : VA).s]) (by simp [results, Tryd.results45, go_sem, hne, hne2, noS, r0, r1, r2]) rfl ⟨rv2, s2, rfl, ?_⟩
  refine St.set ?_ hB hq (by omega)
  refine St.set ?_ hB hq (by omega)
  refine St.set ?_ hB hq (by omega)
  refine St.set ?_ hB hq (by omega)
  exact HS3.out
set_option maxHeartbeats 8000000 in
theorem rpi4 (B q : Nat) (v : Value) (b : Int) (r : List Int) (sh : Bool) (w : World) (hq : q < w.heap.size) (hB : B ≤ q) (hK : Blk w q [v, .bool sh]) (l : List Int) (hv : YS B w v l) (hb : Byt l) (hpb : nmI (pcL l 1).1 = b) (hpr : (pcL l 1).2 = r) (hbb : 0 ≤ b ∧ b ≤ 255) (hkd : b = 4) :
    Calls Tryd.prog 45 #[.pointer (some ⟨q, 0, none⟩)] w fun e w' => PkP B q ⟨4, nmI (pcL r 1).1, noS⟩ (pcL r 1).2 w e w' := by
  have HBR : Hid (Byt r) := (by rw [← hpr]; exact (byt_pc hb 1).2 : Byt r)
  have S0 : St B q w w v sh l := ⟨GQ.refl _ _, hK, hv⟩
  have S1 : St B q w (w.alloc (.cells #[.int .i64 0, .int .i64 0, .string ⟨#[]⟩] 39)) v sh l := S0.alloc hB hq
  have hnb := number_any B q v l sh 1 (w.alloc (.cells #[.int .i64 0, .int .i64 0, .string ⟨#[]⟩] 39)) (by simp; omega) hB S1.blk S1.ys hb
  unfold NbP at hnb
  rw [hpb, hpr] at hnb
  subst hkd
  have HS1 := hid S1
  have HR0 := hid (blk_new w [.int .i64 0, .int .i64 0, .string ⟨#[]⟩] 39)
  clear hK hv hb S0 S1 
  go_enter Tryd.func45, Tryd.ntmps45
  go_wp2_with (go_at_call 44; fail)
  refine hnb.mono ?_
  rintro e w1 ⟨rv1, s1, rfl, hg1, hk1, hv1⟩
  have hs1 : w.heap.size < w1.heap.size := by have := hg1.size; simp at this; omega
  have HS2 : Hid (St B q w (w1.alloc (.cells #[.int .i64 (4), .int .i64 0, .string ⟨#[]⟩] 39)) rv1 s1 r) := (HS1.out.on hg1 hk1 hv1).alloc hB hq
  have HR1 : Hid (Blk (w1.alloc (.cells #[.int .i64 (4), .int .i64 0, .string ⟨#[]⟩] 39)) w.heap.size [.int .i64 0, .int .i64 0, .string ⟨#[]⟩]) := (HR0.out.gq hg1 (by simp) (by omega)).below (below_alloc _ _) hs1
  have HN1 := hid (blk_new w1 [.int .i64 (4), .int .i64 0, .string ⟨#[]⟩] 39)
  clear hnb hg1 hk1 hv1 HS1 HR0
  have hnb2 := number_any B q rv1 r s1 1 (w1.alloc (.cells #[.int .i64 (4), .int .i64 0, .string ⟨#[]⟩] 39)) (by simp; omega) hB HS2.out.blk HS2.out.ys HBR.out
  go_wp2_with (go_at_call 44; fail)
  refine hnb2.mono ?_
  rintro e w2 ⟨rv2, s2, rfl, hg2, hk2, hv2⟩
  have hs2 : w.heap.size < w2.heap.size ∧ w1.heap.size < w2.heap.size := by have := hg2.size; simp at this; omega
  have HS3 := hid (HS2.out.on hg2 hk2 hv2)
  have HR2 : Hid (Blk w2 w.heap.size [.int .i64 0, .int .i64 0, .string ⟨#[]⟩]) := HR1.out.gq hg2 (by simp; omega) (by omega)
  have HN2 : Hid (Blk w2 w1.heap.size [.int .i64 (4), .int .i64 0, .string ⟨#[]⟩]) := HN1.out.gq hg2 (by simp) (by omega)
  have hne : w.heap.size ≠ w1.heap.size := by omega
  have hne2 : w1.heap.size ≠ w.heap.size := by omega
  have c0 : w2.cell? ⟨w1.heap.size, 0, none⟩ = some (.int .i64 (4)) := (HN2.out 0 (by simp)).1
  have c1 : w2.cell? ⟨w1.heap.size, 1, none⟩ = some (.int .i64 0) := (HN2.out 1 (by simp)).1
  have c2 : w2.cell? ⟨w1.heap.size, 2, none⟩ = some (.string ⟨#[]⟩) := (HN2.out 2 (by simp)).1
  have f1 : w2.frozen? ⟨w1.heap.size, 1, none⟩ = false := (HN2.out 1 (by simp)).2
  have f2 : w2.frozen? ⟨w1.heap.size, 2, none⟩ = false := (HN2.out 2 (by simp)).2
  have r0 : w2.cell? ⟨w.heap.size, 0, none⟩ = some (.int .i64 0) := (HR2.out 0 (by simp)).1
  have r1 : w2.cell? ⟨w.heap.size, 1, none⟩ = some (.int .i64 0) := (HR2.out 1 (by simp)).1
  have r2 : w2.cell? ⟨w.heap.size, 2, none⟩ = some (.string ⟨#[]⟩) := (HR2.out 2 (by simp)).1
  have g0 : w2.frozen? ⟨w.heap.size, 0, none⟩ = false := (HR2.out 0 (by simp)).2
  have g1 : w2.frozen? ⟨w.heap.size, 1, none⟩ = false := (HR2.out 1 (by simp)).2
  have g2 : w2.frozen? ⟨w.heap.size, 2, none⟩ = false := (HR2.out 2 (by simp)).2
  clear hnb2 hg2 hk2 hv2 HS2 HR1 HN1 HR2 HN2
  go_wp2
  refine bodyPost_ret (v := .agg #[.int .i64 (⟨4, nmI (pcL r 1).1, noS⟩ : VA).k, .int .i64 (⟨4, nmI (pcL r 1).1, noS⟩ : VA).n, .string (⟨4, nmI (pcL r 1).1, noS⟩ : VA).s]) (by simp [results, Tryd.results45, go_sem, hne, hne2, noS, r0, r1, r2]) rfl ⟨rv2, s2, rfl, ?_⟩
  refine St.set ?_ hB hq (by omega)
  refine St.set ?_ hB hq (by omega)
  refine St.set ?_ hB hq (by omega)
  refine St.set ?_ hB hq (by omega)
  exact HS3.out
set_option maxHeartbeats 8000000 in
theorem rpi3 (B q : Nat) (v : Value) (b : Int) (r : List Int) (sh : Bool) (w : World) (hq : q < w.heap.size) (hB : B ≤ q) (hK : Blk w q [v, .bool sh]) (l : List Int) (hv : YS B w v l) (hb : Byt l) (hpb : nmI (pcL l 1).1 = b) (hpr : (pcL l 1).2 = r) (hbb : 0 ≤ b ∧ b ≤ 255) (hkd : b = 3) :
    Calls Tryd.prog 45 #[.pointer (some ⟨q, 0, none⟩)] w fun e w' => PkP B q ⟨3, 0, strOfNums (pcL (viI r).2 (wrap64 ((viI r).1 : Int))).1⟩ (pcL (viI r).2 (wrap64 ((viI r).1 : Int))).2 w e w' := by
  have HBR : Hid (Byt r) := (by rw [← hpr]; exact (byt_pc hb 1).2 : Byt r)
  have S0 : St B q w w v sh l := ⟨GQ.refl _ _, hK, hv⟩
  have S1 : St B q w (w.alloc (.cells #[.int .i64 0, .int .i64 0, .string ⟨#[]⟩] 39)) v sh l := S0.alloc hB hq
  have hnb := number_any B q v l sh 1 (w.alloc (.cells #[.int .i64 0, .int .i64 0, .string ⟨#[]⟩] 39)) (by simp; omega) hB S1.blk S1.ys hb
  unfold NbP at hnb
  rw [hpb, hpr] at hnb
  subst hkd
  have HS1 := hid S1
  have HR0 := hid (blk_new w [.int .i64 0, .int .i64 0, .string ⟨#[]⟩] 39)
  clear hK hv hb S0 S1 
  go_enter Tryd.func45, Tryd.ntmps45
  go_wp2_with (go_at_call 44; fail)
  refine hnb.mono ?_
  rintro e w1 ⟨rv1, s1, rfl, hg1, hk1, hv1⟩
  have hs1 : w.heap.size < w1.heap.size := by have := hg1.size; simp at this; omega
  have HS2 : Hid (St B q w (w1.alloc (.cells #[.int .i64 (3), .int .i64 0, .string ⟨#[]⟩] 39)) rv1 s1 r) := (HS1.out.on hg1 hk1 hv1).alloc hB hq
  have HR1 : Hid (Blk (w1.alloc (.cells #[.int .i64 (3), .int .i64 0, .string ⟨#[]⟩] 39)) w.heap.size [.int .i64 0, .int .i64 0, .string ⟨#[]⟩]) := (HR0.out.gq hg1 (by simp) (by omega)).below (below_alloc _ _) hs1
  have HN1 := hid (blk_new w1 [.int .i64 (3), .int .i64 0, .string ⟨#[]⟩] 39)
  clear hnb hg1 hk1 hv1 HS1 HR0
  have hnb1 := varint_any B q rv1 r s1 (w1.alloc (.cells #[.int .i64 (3), .int .i64 0, .string ⟨#[]⟩] 39)) (by simp; omega) hB HS2.out.blk HS2.out.ys HBR.out
  obtain ⟨vn, hvn⟩ : ∃ z : Int, z = wrap64 ((viI r).1 : Int) := ⟨_, rfl⟩
  have hcw : IntKind.i64.wrap ((viI r).1 : Int) = vn := by rw [hvn]; simp only [IntKind.wrap_i64, wrap64]
  have HVN := hid hvn
  clear hvn
  go_wp2_with (go_at_call 68; fail)
  refine hnb1.mono ?_
  rintro e w2' ⟨rv2', s2', rfl, hst2⟩
  have hsz2' := hst2.gq.size
  have hnb2 := piece_any B q rv2' (viI r).2 s2' vn w2' (by simp at hsz2'; omega) hB hst2.blk hst2.ys
  have HGA := hid hst2.gq
  clear hnb1 hst2 hsz2'
  go_wp2_with (go_at_call 66; fail)
  refine hnb2.mono ?_
  rintro e w2 ⟨pv, rv2, s2, rfl, hg2', hk2, hp2, hv2⟩
  have hg2 := HGA.out.trans hg2'
  have HBP : Hid (B ≤ w2.heap.size) := (by have := hg2.size; simp at this; omega : B ≤ w2.heap.size)
  rw [HVN.out] at hp2 hv2
  obtain ⟨pa, pcap, hpv, hpv2⟩ := hp2
  have hcv := conv_rs (w := w2) (a := pa) (cap := pcap) (xs := (pcL (viI r).2 (wrap64 ((viI r).1 : Int))).1) (by rw [← hpv]; exact (YS.rs ⟨pa, pcap, hpv, hpv2⟩ HBP.out))
  subst hpv
  clear hpv2 HGA hg2'
  have hs2 : w.heap.size < w2.heap.size ∧ w1.heap.size < w2.heap.size := by have := hg2.size; simp at this; omega
  have HS3 := hid (HS2.out.on hg2 hk2 hv2)
  have HR2 : Hid (Blk w2 w.heap.size [.int .i64 0, .int .i64 0, .string ⟨#[]⟩]) := HR1.out.gq hg2 (by simp; omega) (by omega)
  have HN2 : Hid (Blk w2 w1.heap.size [.int .i64 (3), .int .i64 0, .string ⟨#[]⟩]) := HN1.out.gq hg2 (by simp) (by omega)
  have hne : w.heap.size ≠ w1.heap.size := by omega
  have hne2 : w1.heap.size ≠ w.heap.size := by omega
  have c0 : w2.cell? ⟨w1.heap.size, 0, none⟩ = some (.int .i64 (3)) := (HN2.out 0 (by simp)).1
  have c1 : w2.cell? ⟨w1.heap.size, 1, none⟩ = some (.int .i64 0) := (HN2.out 1 (by simp)).1
  have c2 : w2.cell? ⟨w1.heap.size, 2, none⟩ = some (.string ⟨#[]⟩) := (HN2.out 2 (by simp)).1
  have f1 : w2.frozen? ⟨w1.heap.size, 1, none⟩ = false := (HN2.out 1 (by simp)).2
  have f2 : w2.frozen? ⟨w1.heap.size, 2, none⟩ = false := (HN2.out 2 (by simp)).2
  have r0 : w2.cell? ⟨w.heap.size, 0, none⟩ = some (.int .i64 0) := (HR2.out 0 (by simp)).1
  have r1 : w2.cell? ⟨w.heap.size, 1, none⟩ = some (.int .i64 0) := (HR2.out 1 (by simp)).1
  have r2 : w2.cell? ⟨w.heap.size, 2, none⟩ = some (.string ⟨#[]⟩) := (HR2.out 2 (by simp)).1
  have g0 : w2.frozen? ⟨w.heap.size, 0, none⟩ = false := (HR2.out 0 (by simp)).2
  have g1 : w2.frozen? ⟨w.heap.size, 1, none⟩ = false := (HR2.out 1 (by simp)).2
  have g2 : w2.frozen? ⟨w.heap.size, 2, none⟩ = false := (HR2.out 2 (by simp)).2
  clear hnb2 hg2 hk2 hv2 HS2 HR1 HN1 HR2 HN2
  go_wp2
  refine bodyPost_ret (v := .agg #[.int .i64 (⟨3, 0, strOfNums (pcL (viI r).2 (wrap64 ((viI r).1 : Int))).1⟩ : VA).k, .int .i64 (⟨3, 0, strOfNums (pcL (viI r).2 (wrap64 ((viI r).1 : Int))).1⟩ : VA).n, .string (⟨3, 0, strOfNums (pcL (viI r).2 (wrap64 ((viI r).1 : Int))).1⟩ : VA).s]) (by simp [results, Tryd.results45, go_sem, hne, hne2, noS, r0, r1, r2]) rfl ⟨rv2, s2, rfl, ?_⟩
  refine St.set ?_ hB hq (by omega)
  refine St.set ?_ hB hq (by omega)
  refine St.set ?_ hB hq (by omega)
  refine St.set ?_ hB hq (by omega)
  exact HS3.out
set_option maxHeartbeats 8000000 in
theorem rpi0 (B q : Nat) (v : Value) (b : Int) (r : List Int) (sh : Bool) (w : World) (hq : q < w.heap.size) (hB : B ≤ q) (hK : Blk w q [v, .bool sh]) (l : List Int) (hv : YS B w v l) (hb : Byt l) (hpb : nmI (pcL l 1).1 = b) (hpr : (pcL l 1).2 = r) (hbb : 0 ≤ b ∧ b ≤ 255) (k1 : b ≠ 1) (k2 : b ≠ 2) (k3 : b ≠ 3) (k4 : b ≠ 4) (k5 : b ≠ 5) :
    Calls Tryd.prog 45 #[.pointer (some ⟨q, 0, none⟩)] w fun e w' => PkP B q ⟨b, 0, noS⟩ r w e w' := by
  have HBR : Hid (Byt r) := (by rw [← hpr]; exact (byt_pc hb 1).2 : Byt r)
  have S0 : St B q w w v sh l := ⟨GQ.refl _ _, hK, hv⟩
  have S1 : St B q w (w.alloc (.cells #[.int .i64 0, .int .i64 0, .string ⟨#[]⟩] 39)) v sh l := S0.alloc hB hq
  have hnb := number_any B q v l sh 1 (w.alloc (.cells #[.int .i64 0, .int .i64 0, .string ⟨#[]⟩] 39)) (by simp; omega) hB S1.blk S1.ys hb
  unfold NbP at hnb
  rw [hpb, hpr] at hnb
  have e1 : (b == 1) = false := by simp [k1]
  have e2 : (b == 2) = false := by simp [k2]
  have e3 : (b == 3) = false := by simp [k3]
  have e4 : (b == 4) = false := by simp [k4]
  have e5 : (b == 5) = false := by simp [k5]
  clear k1 k2 k3 k4 k5
  have HS1 := hid S1
  have HR0 := hid (blk_new w [.int .i64 0, .int .i64 0, .string ⟨#[]⟩] 39)
  clear hK hv hb S0 S1 
  go_enter Tryd.func45, Tryd.ntmps45
  go_wp2_with (go_at_call 44; fail)
  refine hnb.mono ?_
  rintro e w1 ⟨rv1, s1, rfl, hg1, hk1, hv1⟩
  have hs1 : w.heap.size < w1.heap.size := by have := hg1.size; simp at this; omega
  have HS2 : Hid (St B q w (w1.alloc (.cells #[.int .i64 (b), .int .i64 0, .string ⟨#[]⟩] 39)) rv1 s1 r) := (HS1.out.on hg1 hk1 hv1).alloc hB hq
  have HR1 : Hid (Blk (w1.alloc (.cells #[.int .i64 (b), .int .i64 0, .string ⟨#[]⟩] 39)) w.heap.size [.int .i64 0, .int .i64 0, .string ⟨#[]⟩]) := (HR0.out.gq hg1 (by simp) (by omega)).below (below_alloc _ _) hs1
  have HN1 := hid (blk_new w1 [.int .i64 (b), .int .i64 0, .string ⟨#[]⟩] 39)
  have HRT : Hid (Blk w1 w.heap.size [.int .i64 0, .int .i64 0, .string ⟨#[]⟩]) := HR0.out.gq hg1 (by simp) (by omega)
  have t0 : w1.cell? ⟨w.heap.size, 0, none⟩ = some (.int .i64 0) := (HRT.out 0 (by simp)).1
  have t1 : w1.cell? ⟨w.heap.size, 1, none⟩ = some (.int .i64 0) := (HRT.out 1 (by simp)).1
  have t2 : w1.cell? ⟨w.heap.size, 2, none⟩ = some (.string ⟨#[]⟩) := (HRT.out 2 (by simp)).1
  have t3 : w1.frozen? ⟨w.heap.size, 0, none⟩ = false := (HRT.out 0 (by simp)).2
  have t4 : w1.frozen? ⟨w.heap.size, 1, none⟩ = false := (HRT.out 1 (by simp)).2
  have t5 : w1.frozen? ⟨w.heap.size, 2, none⟩ = false := (HRT.out 2 (by simp)).2
  have HSW := hid (HS1.out.on hg1 hk1 hv1)
  have HFK : Hid (Blk ((((w1.setCell ⟨w.heap.size, 0, none⟩ (.int .i64 (b))).setCell ⟨w.heap.size, 1, none⟩ (.int .i64 0)).setCell ⟨w.heap.size, 2, none⟩ (.string ⟨#[]⟩)).alloc (.cells #[.int .i64 (b), .int .i64 0, .string ⟨#[]⟩] 39)) w.heap.size [.int .i64 (b), .int .i64 0, .string ⟨#[]⟩]) := (((HRT.out.set 0 (.int .i64 (b))).set 1 (.int .i64 0)).set 2 (.string ⟨#[]⟩)).below (below_alloc _ _) (by simp [World.setCell]; omega)
  clear HRT
  clear hnb hg1 hk1 hv1 HS1 HR0
  have hne : w.heap.size ≠ w1.heap.size := by omega
  have hne2 : w1.heap.size ≠ w.heap.size := by omega
  have r0 : (w1.alloc (.cells #[.int .i64 (b), .int .i64 0, .string ⟨#[]⟩] 39)).cell? ⟨w.heap.size, 0, none⟩ = some (.int .i64 0) := (HR1.out 0 (by simp)).1
  have r1 : (w1.alloc (.cells #[.int .i64 (b), .int .i64 0, .string ⟨#[]⟩] 39)).cell? ⟨w.heap.size, 1, none⟩ = some (.int .i64 0) := (HR1.out 1 (by simp)).1
  have r2 : (w1.alloc (.cells #[.int .i64 (b), .int .i64 0, .string ⟨#[]⟩] 39)).cell? ⟨w.heap.size, 2, none⟩ = some (.string ⟨#[]⟩) := (HR1.out 2 (by simp)).1
  have g0 : (w1.alloc (.cells #[.int .i64 (b), .int .i64 0, .string ⟨#[]⟩] 39)).frozen? ⟨w.heap.size, 0, none⟩ = false := (HR1.out 0 (by simp)).2
  have g1 : (w1.alloc (.cells #[.int .i64 (b), .int .i64 0, .string ⟨#[]⟩] 39)).frozen? ⟨w.heap.size, 1, none⟩ = false := (HR1.out 1 (by simp)).2
  have g2 : (w1.alloc (.cells #[.int .i64 (b), .int .i64 0, .string ⟨#[]⟩] 39)).frozen? ⟨w.heap.size, 2, none⟩ = false := (HR1.out 2 (by simp)).2
  clear HR1 HN1
  go_wp2
  have x0 := (HFK.out 0 (by simp)).1
  have x1 := (HFK.out 1 (by simp)).1
  have x2 := (HFK.out 2 (by simp)).1
  refine bodyPost_ret (v := .agg #[.int .i64 (⟨b, 0, noS⟩ : VA).k, .int .i64 (⟨b, 0, noS⟩ : VA).n, .string (⟨b, 0, noS⟩ : VA).s]) (by simp [results, Tryd.results45, go_sem, hne, hne2, noS, r0, r1, r2, x0, x1, x2]) rfl ⟨rv1, s1, rfl, ?_⟩
  refine St.alloc ?_ hB hq
  refine St.set ?_ hB hq (by omega)
  refine St.set ?_ hB hq (by omega)
  refine St.set ?_ hB hq (by omega)
  exact HSW.out
end Go.Proofs.YtfgjleifhjegkaaDoor
namespace Go.Proofs.YtfgjleifhjegkaaDoor
open Go.ChangeShapes Go.WideShapes Go.ChangeAt Go.RowKit
set_option linter.unusedVariables false
set_option linter.unusedSimpArgs false
set_option maxRecDepth 100000
theorem one_range {l : List Int} (h : Byt l) : 0 ≤ nmI (pcL l 1).1 ∧ nmI (pcL l 1).1 ≤ 255 := by
  rcases l with _ | ⟨b, r⟩
  · rw [pc_one_nil, nm_nil]; exact ⟨by decide, by decide⟩
  · have := h b (List.mem_cons_self ..)
    rw [pc_one, nm_one this.1 this.2]; exact this
theorem pk_to {B q F : Nat} {args : Array Value} {w : World} {p : VA × List Int} {t : VA} {r : List Int} (h : p = (t, r)) (hc : Calls Tryd.prog F args w fun e w' => PkP B q t r w e w') : Calls Tryd.prog F args w fun e w' => PkP B q p.1 p.2 w e w' := by
  subst h
  exact hc
theorem prI_num {l r : List Int} {b : Int} (h : b = 1 ∨ b = 2 ∨ b = 5) (hpb : nmI (pcL l 1).1 = b) (hpr : (pcL l 1).2 = r) : prI l = (⟨b, unfN (viI r).1, noS⟩, (viI r).2) := by
  unfold prI
  simp only []
  rw [hpb, hpr, if_pos h]
theorem prI_text {l r : List Int} (hpb : nmI (pcL l 1).1 = 3) (hpr : (pcL l 1).2 = r) : prI l = (⟨3, 0, strOfNums (pcL (viI r).2 (wrap64 ((viI r).1 : Int))).1⟩, (pcL (viI r).2 (wrap64 ((viI r).1 : Int))).2) := by
  unfold prI
  simp only []
  rw [hpb, hpr, if_neg (by decide), if_pos rfl]
theorem prI_bool {l r : List Int} (hpb : nmI (pcL l 1).1 = 4) (hpr : (pcL l 1).2 = r) : prI l = (⟨4, nmI (pcL r 1).1, noS⟩, (pcL r 1).2) := by
  unfold prI
  simp only []
  rw [hpb, hpr, if_neg (by decide), if_neg (by decide), if_pos rfl]
theorem prI_other {l r : List Int} {b : Int} (h1 : ¬ (b = 1 ∨ b = 2 ∨ b = 5)) (h3 : b ≠ 3) (h4 : b ≠ 4) (hpb : nmI (pcL l 1).1 = b) (hpr : (pcL l 1).2 = r) : prI l = (⟨b, 0, noS⟩, r) := by
  unfold prI
  simp only []
  rw [hpb, hpr, if_neg h1, if_neg h3, if_neg h4]
theorem rowPart_any (B q : Nat) (v : Value) (l : List Int) (sh : Bool) (w : World) (hq : q < w.heap.size) (hB : B ≤ q) (hK : Blk w q [v, .bool sh]) (hv : YS B w v l) (hb : Byt l) :
    Calls Tryd.prog 45 #[.pointer (some ⟨q, 0, none⟩)] w fun e w' => PkP B q (prI l).1 (prI l).2 w e w' := by
  have hr := one_range hb
  obtain ⟨b, hpb⟩ : ∃ z, nmI (pcL l 1).1 = z := ⟨_, rfl⟩
  obtain ⟨r, hpr⟩ : ∃ z, (pcL l 1).2 = z := ⟨_, rfl⟩
  rw [hpb] at hr
  by_cases h1 : b = 1
  · subst h1; exact pk_to (prI_num (Or.inl rfl) hpb hpr) (rpi1 B q v 1 r sh w hq hB hK l hv hb hpb hpr hr rfl)
  by_cases h2 : b = 2
  · subst h2; exact pk_to (prI_num (Or.inr (Or.inl rfl)) hpb hpr) (rpi2 B q v 2 r sh w hq hB hK l hv hb hpb hpr hr rfl)
  by_cases h5 : b = 5
  · subst h5; exact pk_to (prI_num (Or.inr (Or.inr rfl)) hpb hpr) (rpi5 B q v 5 r sh w hq hB hK l hv hb hpb hpr hr rfl)
  by_cases h3 : b = 3
  · subst h3; exact pk_to (prI_text hpb hpr) (rpi3 B q v 3 r sh w hq hB hK l hv hb hpb hpr hr rfl)
  by_cases h4 : b = 4
  · subst h4; exact pk_to (prI_bool hpb hpr) (rpi4 B q v 4 r sh w hq hB hK l hv hb hpb hpr hr rfl)
  exact pk_to (prI_other (fun h => h.elim h1 fun h => h.elim h2 h5) h3 h4 hpb hpr) (rpi0 B q v b r sh w hq hB hK l hv hb hpb hpr hr h1 h2 h3 h4 h5)
end Go.Proofs.YtfgjleifhjegkaaDoor
