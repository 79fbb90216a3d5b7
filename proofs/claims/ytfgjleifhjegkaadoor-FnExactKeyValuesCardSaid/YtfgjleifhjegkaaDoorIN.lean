import Derived.Test.YtfgjleifhjegkaaDoorIM
namespace Go.Proofs.YtfgjleifhjegkaaDoor
open Go.ChangeShapes Go.WideShapes Go.ChangeAt Go.RowKit
set_option linter.unusedVariables false
set_option linter.unusedSimpArgs false
set_option maxRecDepth 100000
theorem or_low {x b : Int} (h0 : -9223372036854775808 ≤ x) (h1 : x ≤ 9223372036854775807) (hx : x % 256 = 0) (b0 : 0 ≤ b) (b1 : b ≤ 255) : bits .or .i64 x b = x + b := by
  show IntKind.i64.wrap ((BitVec.ofInt 64 x ||| BitVec.ofInt 64 b).toNat : Int) = _
  have e1 : (BitVec.ofInt 64 x).toNat = (x % 18446744073709551616).toNat := by rw [BitVec.toNat_ofInt]; rfl
  have e2 : (BitVec.ofInt 64 b).toNat = b.toNat := by rw [BitVec.toNat_ofInt]; show (b % 18446744073709551616).toNat = _; omega
  obtain ⟨m, hm⟩ : ∃ m : Nat, (x % 18446744073709551616).toNat = 2 ^ 8 * m := ⟨(x % 18446744073709551616).toNat / 256, by omega⟩
  rw [BitVec.toNat_or, e1, e2, hm, ← Nat.two_pow_add_eq_or_of_lt (by omega : b.toNat < 2 ^ 8), ← hm, IntKind.wrap_i64]
  have e3 : ((x % 18446744073709551616).toNat + b.toNat : Nat) = (((x % 18446744073709551616) + b).toNat) := by omega
  rw [e3]
  omega
theorem wrap_mul (m : Int) : ∃ t : Int, wrap64 m = m + 18446744073709551616 * t := ⟨-((m + 9223372036854775808) / 18446744073709551616), by simp only [wrap64]; omega⟩
theorem wrap_add (m t : Int) : wrap64 (m + 18446744073709551616 * t) = wrap64 m := by simp only [wrap64]; omega
theorem wrap_low (m b : Int) (h0 : 0 ≤ b) (h1 : b ≤ 255) (hm : m % 256 = 0) : wrap64 m + b = wrap64 (m + b) := by simp only [wrap64]; omega
theorem wrap_step (m b : Int) (h0 : 0 ≤ b) (h1 : b ≤ 255) : wrap64 (wrap64 m * 256) + b = wrap64 (m * 256 + b) := by
  obtain ⟨t, ht⟩ := wrap_mul m
  rw [ht, show (m + 18446744073709551616 * t) * 256 = m * 256 + 18446744073709551616 * (256 * t) by omega, wrap_add, wrap_low _ _ h0 h1 (by omega)]
theorem wrap_range (m : Int) : -9223372036854775808 ≤ wrap64 m ∧ wrap64 m ≤ 9223372036854775807 := by simp only [wrap64]; omega
theorem wrap_mod (m : Int) : wrap64 (m * 256) % 256 = 0 := by simp only [wrap64]; omega
/-- A number out of bytes, as an int. -/
def nmI (p : List Int) : Int := wrap64 (numL p : Int)
theorem nmI_range (p : List Int) : -9223372036854775808 ≤ nmI p ∧ nmI p ≤ 9223372036854775807 := wrap_range _
def NbP (B q : Nat) (l : List Int) (n : Int) (w : World) (e : Ending) (w' : World) : Prop := ∃ rv sh, e = .returned (.int .i64 (nmI (pcL l n).1)) ∧ GQ q w w' ∧ Blk w' q [rv, .bool sh] ∧ YS B w' rv (pcL l n).2
theorem byt_pc {l : List Int} (hb : Byt l) (n : Int) : Byt (pcL l n).1 ∧ Byt (pcL l n).2 := by
  unfold pcL
  split
  · exact ⟨fun x hx => hb x (List.mem_of_mem_take hx), fun x hx => hb x (List.mem_of_mem_drop hx)⟩
  · exact ⟨fun x hx => by simp at hx, fun x hx => by simp at hx⟩
set_option maxHeartbeats 4000000 in
theorem number_any (B q : Nat) (v : Value) (l : List Int) (sh : Bool) (n : Int) (w : World) (hq : q < w.heap.size) (hB : B ≤ q) (hK : Blk w q [v, .bool sh]) (hv : YS B w v l) (hb : Byt l) :
    Calls Tryd.prog 44 #[.pointer (some ⟨q, 0, none⟩), .int .i64 n] w fun e w' => NbP B q l n w e w' := by
  have hpc := piece_any B q v l sh n w hq hB hK hv
  have hbp := byt_pc hb n
  clear hK hv hb
  go_enter Tryd.func44, Tryd.ntmps44
  go_wp2_with (go_at_call 66; fail)
  refine hpc.mono ?_
  rintro e w1 ⟨pv, rv, sh1, rfl, hg, hk1, hp, hr⟩
  have HE : Hid (∀ x, x = nmI (pcL l n).1 → NbP B q l n w (.returned (.int .i64 x)) w1) := (fun x hx => ⟨rv, sh1, by rw [hx], hg, hk1, hr⟩ : ∀ x, x = nmI (pcL l n).1 → NbP B q l n w (.returned (.int .i64 x)) w1)
  have HB : Hid (Byt (pcL l n).1) := hbp.1
  clear hpc hbp hg hk1 hr
  obtain ⟨p, hpe⟩ : ∃ p, p = (pcL l n).1 := ⟨_, rfl⟩
  rw [← hpe] at HE HB hp
  clear hpe
  obtain ⟨a, cap, rfl, h1, h2, h3⟩ := hp
  go_wp2
  go_loopw [5, 12] (fun nv iv wr => ∃ (k : Nat) (m : Int), k ≤ p.length ∧ iv = .int .i64 k ∧ nv = .int .i64 m ∧ Hid (m = nmI (p.take k)) ∧ wr = w1) (fun _ iv _ => p.length - (intOf iv).toNat)
  case atStart => exact ⟨0, 0, Nat.zero_le _, rfl, rfl, (by simp [nmI, numL, wrap64] : 0 = nmI (p.take 0)), rfl⟩
  case round =>
    obtain ⟨k, m, hk, rfl, rfl, HM, hww⟩ := hrel
    replace hww := hww.symm
    subst hww
    by_cases hlt : k < p.length
    · have hlti : (k : Int) < p.length := by omega
      rcases h3 with ⟨_, rfl⟩ | ⟨g, o, rfl, hg, hc⟩
      · omega
      have c0 := hc k hlt
      have hx := HB.out p[k] (List.getElem_mem hlt)
      obtain ⟨x8, hx8⟩ : ∃ z, z = wrap64 (m * 256) := ⟨_, rfl⟩
      have HS : Hid (nmI (p.take (k + 1)) = x8 + p[k]) := (by
        rw [hx8, HM.out]
        unfold nmI
        rw [wrap_step _ _ hx.1 hx.2, numL_take hlt]
        have hxt : ((p[k].toNat : Nat) : Int) = p[k] := by omega
        rw [Int.natCast_add, Int.natCast_mul, hxt]
        rfl : nmI (p.take (k + 1)) = x8 + p[k])
      have hw8 : IntKind.i64.wrap (m * 256) = x8 := by rw [hx8]; simp only [IntKind.wrap_i64, wrap64]
      have hor := or_low (x := x8) (b := p[k]) (by rw [hx8]; exact (wrap_range _).1) (by rw [hx8]; exact (wrap_range _).2) (by rw [hx8]; exact wrap_mod _) hx.1 hx.2
      have hwb : IntKind.i64.wrap p[k] = p[k] := by simp only [IntKind.wrap_i64]; omega
      clear HM hx8 hc
      generalize p[k] = b at *
      obtain ⟨y, hy⟩ : ∃ z, z = x8 + b := ⟨_, rfl⟩
      rw [← hy] at hor HS
      clear hy
      go_wp2
      go_roundw
      case rel => exact ⟨k + 1, y, by omega, by go_num, by first | rfl | go_num, HS.out.symm, by first | rfl | trivial⟩
      case measure => simp [intOf]; omega
    · have hlti : ¬ (k : Int) < p.length := by omega
      have HF : Hid (NbP B q l n w (.returned (.int .i64 m)) w1) := HE.out m (by rw [HM.out, List.take_of_length_le (by omega)])
      clear HM HE h3
      go_wp2
      go_ret
      exact HF.out
end Go.Proofs.YtfgjleifhjegkaaDoor
