import Derived.Test.YtfgjleifhjegkaaDoorIA
import Derived.Test.YtfgjleifhjegkaaDoorRC
namespace Go.Proofs.YtfgjleifhjegkaaDoor
open Go.ChangeShapes Go.WideShapes Go.ChangeAt Go.RowKit
set_option linter.unusedVariables false
set_option linter.unusedSimpArgs false
set_option maxRecDepth 100000
/-- Bytes that can be read, below a block. -/
def YS (B : Nat) (w : World) (v : Value) (l : List Int) : Prop := ∃ a cap, v = .slice a l.length cap ∧ l.length ≤ cap ∧ cap ≤ maxLen ∧ ((a = none ∧ cap = 0) ∨ ∃ g o, a = some ⟨g, o, none⟩ ∧ g < B ∧ ∀ i (h : i < l.length), w.cell? ⟨g, o + i, none⟩ = some (.int .u8 l[i]))
theorem YS.nil {B : Nat} {w : World} : YS B w (.slice none 0 0) [] := ⟨none, 0, rfl, by simp, by omega, .inl ⟨rfl, rfl⟩⟩
theorem YS.same {B : Nat} {w w' : World} {v : Value} {l : List Int} (h : YS B w v l) (hb : ∀ g j, g < B → w'.cell? ⟨g, j, none⟩ = w.cell? ⟨g, j, none⟩) : YS B w' v l := by
  obtain ⟨a, cap, rfl, h1, h2, h3⟩ := h
  refine ⟨a, cap, rfl, h1, h2, ?_⟩
  rcases h3 with h3 | ⟨g, o, rfl, hg, hc⟩
  · exact .inl h3
  · exact .inr ⟨g, o, rfl, hg, fun i hi => (hb g _ hg).trans (hc i hi)⟩
theorem YS.rs {B : Nat} {w : World} {v : Value} {l : List Int} (h : YS B w v l) (hB : B ≤ w.heap.size) : RS 1 CY 0 w v l := by
  obtain ⟨a, cap, rfl, h1, h2, h3⟩ := h
  refine ⟨a, cap, rfl, fun hp => ?_⟩
  rcases h3 with ⟨_, rfl⟩ | ⟨g, o, rfl, hg, hc⟩
  · omega
  · refine ⟨g, o, rfl, Nat.zero_le _, by omega, fun i hi => ⟨[.int .u8 l[i]], rfl, fun j hj => ?_⟩⟩
    have : j = 0 := by omega
    subst this
    rw [Nat.mul_one, Nat.add_zero]
    exact hc i hi
theorem YOut.ys {ty b B : Nat} {w : World} {v : Value} {xs : List Int} (h : YOut ty b w v xs) (hB : w.heap.size ≤ B) : YS B w v xs := by
  obtain ⟨hl, h2⟩ := h
  rcases h2 with ⟨rfl, h0⟩ | ⟨g, cap, cur, rfl, hg1, hg2, hg3, hg4, hg5⟩
  · exact ⟨none, 0, by rw [h0], by omega, Nat.zero_le _, .inl ⟨rfl, rfl⟩⟩
  · have ho : w.ownsRow b ty 1 (.slice (some ⟨g, 0, none⟩) xs.length cap) xs.length (xs.map (Value.int .u8)) := ⟨hl, .inr ⟨g, cap, cur, rfl, hg1, hg2, hg3, hg4, hg5⟩⟩
    have hlt : g < w.heap.size := (ho.lt g rfl).2
    refine ⟨some ⟨g, 0, none⟩, cap, rfl, hg3, hg4, .inr ⟨g, 0, rfl, by omega, fun i hi => ?_⟩⟩
    rw [Nat.zero_add]
    exact own_cell ho (by rw [List.getElem?_map, List.getElem?_eq_getElem hi]; rfl)
/-- Nothing but a block has changed. -/
abbrev GQ (q : Nat) (w w' : World) : Prop := w.grownBy w' (some q)
theorem GQ.refl (q : Nat) (w : World) : GQ q w w := ⟨rfl, rfl, rfl, Nat.le_refl _, fun _ _ _ => rfl⟩
theorem GQ.trans {q : Nat} {a b c : World} (h : GQ q a b) (k : GQ q b c) : GQ q a c := ⟨k.os.trans h.os, k.tape.trans h.tape, k.output.trans h.output, Nat.le_trans h.size k.size, fun i hi hn => (k.block i (Nat.lt_of_lt_of_le hi h.size) hn).trans (h.block i hi hn)⟩
theorem GQ.set (q j : Nat) (w : World) (u : Value) : GQ q w (w.setCell ⟨q, j, none⟩ u) := ⟨rfl, rfl, rfl, by simp [World.setCell], fun k hk hn => Below.heap_setCell _ _ _ _ (fun e => hn (by rw [e]))⟩
theorem GQ.alloc (q : Nat) (w : World) (o : Obj) : GQ q w (w.alloc o) := ⟨rfl, rfl, rfl, by simp, fun k hk _ => Below.heap_alloc _ _ _ hk⟩
theorem GQ.below {q : Nat} {w w' : World} (h : Below w.heap.size w w') : GQ q w w' := ⟨h.os, h.tape, h.output, h.size, fun k hk _ => h.block k hk⟩
theorem GQ.cell {q : Nat} {w w' : World} (h : GQ q w w') {p : Addr} (hp : p.block < w.heap.size) (hn : p.block ≠ q) : w'.cell? p = w.cell? p := World.cell?_of_block (w := w) (h.block p.block hp (fun e => hn (by injection e)))
theorem YS.gq {B q : Nat} {w w' : World} {v : Value} {l : List Int} (h : YS B w v l) (hg : GQ q w w') (hB : B ≤ q) (hq : q < w.heap.size) : YS B w' v l := h.same fun g j hgB => hg.cell (p := ⟨g, j, none⟩) (by simp; omega) (by simp; omega)
theorem Below.gq {B q : Nat} {a w w' : World} (h : Below B a w) (hg : GQ q w w') (hB : B ≤ q) (hs : B ≤ w.heap.size) : Below B a w' := h.grown hg hs (fun k hk => by injection hk with hk; omega)
theorem Blk.gq {q b : Nat} {w w' : World} {cs : List Value} (h : Blk w b cs) (hg : GQ q w w') (hb : b < w.heap.size) (hn : b ≠ q) : Blk w' b cs := h.grown hg hb (fun e => hn (by injection e))
theorem YOut.gq {ty b q : Nat} {w w' : World} {v : Value} {xs : List Int} (h : YOut ty b w v xs) (hg : GQ q w w') (hn : q < b) : YOut ty b w' v xs := by
  refine World.ownsRow.kept h hg ?_
  by_cases ho : v.ownBlock = none
  · exact .inl ho
  · refine .inr fun e => ?_
    have := (World.ownsRow.lt h q (by rw [e])).1
    omega
/-- So many bytes off the front, and what is left; none of both where there are too few. -/
def pcL (l : List Int) (n : Int) : List Int × List Int := if 0 ≤ n ∧ n ≤ l.length then (l.take n.toNat, l.drop n.toNat) else ([], [])
def PcP (B q : Nat) (l : List Int) (n : Int) (w : World) (e : Ending) (w' : World) : Prop := ∃ pv rv sh, e = .returned pv ∧ GQ q w w' ∧ Blk w' q [rv, .bool sh] ∧ YS B w' pv (pcL l n).1 ∧ YS B w' rv (pcL l n).2
theorem ys_take {B g o m : Nat} {w : World} {l : List Int} (hg : g < B) (hc : ∀ i (h : i < l.length), w.cell? ⟨g, o + i, none⟩ = some (.int .u8 l[i])) (hm : m ≤ l.length) (hb : m ≤ maxLen) : YS B w (.slice (some ⟨g, o, none⟩) m m) (l.take m) := by
  have hl : (l.take m).length = m := by rw [List.length_take]; omega
  refine ⟨some ⟨g, o, none⟩, m, by rw [hl], by omega, hb, .inr ⟨g, o, rfl, hg, fun i hi => ?_⟩⟩
  rw [hc i (by omega), List.getElem_take]
theorem ys_drop {B g o m cap : Nat} {w : World} {l : List Int} (hg : g < B) (hc : ∀ i (h : i < l.length), w.cell? ⟨g, o + i, none⟩ = some (.int .u8 l[i])) (hm : m ≤ l.length) (hcap : l.length ≤ cap) (hb : cap ≤ maxLen) : YS B w (.slice (some ⟨g, o + m, none⟩) (l.length - m) (cap - m)) (l.drop m) := by
  refine ⟨some ⟨g, o + m, none⟩, cap - m, by rw [List.length_drop], by rw [List.length_drop]; omega, by omega, .inr ⟨g, o + m, rfl, hg, fun i hi => ?_⟩⟩
  rw [List.length_drop] at hi
  rw [Nat.add_assoc, hc (m + i) (by omega), List.getElem_drop]
theorem ys_gone {B g o m : Nat} {w : World} {l : List Int} (hg : g < B) (hm : l.length = m) : YS B w (.slice (some ⟨g, o, none⟩) (l.length - m) 0) (l.drop m) := by
  have hd : l.drop m = [] := List.drop_eq_nil_of_le (by omega)
  rw [hd]
  exact ⟨some ⟨g, o, none⟩, 0, by rw [hm]; simp, by simp, by omega, .inr ⟨g, o, rfl, hg, fun i hi => absurd hi (by simp)⟩⟩
set_option maxHeartbeats 4000000 in
theorem piece_any (B q : Nat) (v : Value) (l : List Int) (sh : Bool) (n : Int) (w : World) (hq : q < w.heap.size) (hB : B ≤ q) (hK : Blk w q [v, .bool sh]) (hv : YS B w v l) :
    Calls Tryd.prog 66 #[.pointer (some ⟨q, 0, none⟩), .int .i64 n] w fun e w' => PcP B q l n w e w' := by
  have c0 : w.cell? ⟨q, 0, none⟩ = some v := (hK 0 (by simp)).1
  have c1 : w.cell? ⟨q, 1, none⟩ = some (.bool sh) := (hK 1 (by simp)).1
  have f0 : w.frozen? ⟨q, 0, none⟩ = false := (hK 0 (by simp)).2
  have f1 : w.frozen? ⟨q, 1, none⟩ = false := (hK 1 (by simp)).2
  have HV := hid hv
  have HK := hid hK
  clear hK
  obtain ⟨a, cap, rfl, h1, h2, h3⟩ := hv
  by_cases hn : 0 ≤ n ∧ n ≤ l.length
  · obtain ⟨m, rfl⟩ : ∃ m : Nat, n = m := ⟨n.toNat, by omega⟩
    obtain ⟨hn0, hn1⟩ := hn
    have HP : Hid (pcL l m = (l.take m, l.drop m)) := (by unfold pcL; rw [if_pos ⟨hn0, hn1⟩]; rfl : pcL l m = (l.take m, l.drop m))
    rcases h3 with ⟨rfl, rfl⟩ | ⟨g, o, rfl, hg, hc⟩
    · have hl0 : l.length = 0 := by omega
      have hm0 : m = 0 := by omega
      subst hm0
      have hl : l = [] := List.eq_nil_of_length_eq_zero hl0
      subst hl
      have HK2 := hid (HK.out.set 0 (.slice none 0 0))
      clear HK HV
      go_enter Tryd.func66, Tryd.ntmps66
      go_wp2
      go_ret
      refine ⟨_, _, sh, rfl, GQ.set _ _ _ _, HK2.out, ?_, ?_⟩
      · rw [HP.out]; exact YS.nil
      · rw [HP.out]; exact YS.nil
    · have HC := hid hc
      have HSM : Hid (∀ u, ∀ i (h : i < l.length), (w.setCell ⟨q, 0, none⟩ u).cell? ⟨g, o + i, none⟩ = some (.int .u8 l[i])) := (fun u i hi => (World.cell?_setCell_far w ⟨q, 0, none⟩ ⟨g, o + i, none⟩ u (by simp; omega)).trans (hc i hi) : ∀ u, ∀ i (h : i < l.length), (w.setCell ⟨q, 0, none⟩ u).cell? ⟨g, o + i, none⟩ = some (.int .u8 l[i]))
      clear hc HV
      go_enter Tryd.func66, Tryd.ntmps66
      go_wp2
      · go_ret
        refine ⟨_, _, sh, rfl, GQ.set _ _ _ _, HK.out.set 0 _, ?_, ?_⟩
        · rw [HP.out]; exact ys_take hg (HSM.out _) (by omega) (by omega)
        · rw [HP.out]; exact ys_gone hg (by omega)
      · go_ret
        refine ⟨_, _, sh, rfl, GQ.set _ _ _ _, HK.out.set 0 _, ?_, ?_⟩
        · rw [HP.out]; exact ys_take hg (HSM.out _) (by omega) (by omega)
        · rw [HP.out]; exact ys_drop hg (HSM.out _) (by omega) h1 h2
  · have HP : Hid (pcL l n = ([], [])) := (by unfold pcL; rw [if_neg hn] : pcL l n = ([], []))
    have HK2 := hid ((HK.out.set 0 (.slice none 0 0)).set 1 (.bool true))
    have HG : Hid (GQ q w ((w.setCell ⟨q, 0, none⟩ (.slice none 0 0)).setCell ⟨q, 1, none⟩ (.bool true))) := (GQ.set q 0 w _).trans (GQ.set q 1 _ _)
    clear HK HV h3
    by_cases hn0 : 0 ≤ n
    · have hn1 : ¬ n ≤ l.length := fun h => hn ⟨hn0, h⟩
      clear hn
      go_enter Tryd.func66, Tryd.ntmps66
      go_wp2
      go_ret
      refine ⟨_, _, true, rfl, HG.out, HK2.out, ?_, ?_⟩
      · rw [HP.out]; exact YS.nil
      · rw [HP.out]; exact YS.nil
    · clear hn
      go_enter Tryd.func66, Tryd.ntmps66
      go_wp2
      go_ret
      refine ⟨_, _, true, rfl, HG.out, HK2.out, ?_, ?_⟩
      · rw [HP.out]; exact YS.nil
      · rw [HP.out]; exact YS.nil
end Go.Proofs.YtfgjleifhjegkaaDoor
namespace Go.Proofs.YtfgjleifhjegkaaDoor
open Go.ChangeShapes Go.WideShapes Go.ChangeAt Go.RowKit
set_option linter.unusedVariables false
set_option linter.unusedSimpArgs false
set_option maxRecDepth 100000
theorem or_low {x b : Int} (h0 : -9223372036854775808 ≤ x) (h1 : x ≤ 9223372036854775807) (hx : x % 256 = 0) (b0 : 0 ≤ b) (b1 : b ≤ 255) : bits .or .i64 x b = x + b := by
  show IntKind.i64.wrap ((BitVec.ofInt 64 x ||| BitVec.ofInt 64 b).toNat : Int) = _
  have e1 : (BitVec.ofInt 64 x).toNat = (x % 18446744073709551616).toNat := by rw [BitVec.toNat_ofInt]; rfl
  have e2 : (BitVec.ofInt 64 b).toNat = b.toNat := by rw [BitVec.toNat_ofInt]; show (b % 18446744073709551616).toNat = _; omega
  obtain ⟨m, hm⟩ : ∃ m : Nat, (x % 18446744073709551616).toNat = 2 ^ 8 * m := ⟨(x % 18446744073709551616).toNat / 256, by omega⟩
  rw [BitVec.toNat_or, e1, e2, hm, ← Nat.two_pow_add_eq_or_of_lt (by omega : b.toNat < 2 ^ 8), ← hm, IntKind.wrap_i64]
  have e3 : ((x % 18446744073709551616).toNat + b.toNat : Nat) = (((x % 18446744073709551616) + b).toNat) := by omega
  rw [e3]
  omega
theorem wrap_mul (m : Int) : ∃ t : Int, wrap64 m = m + 18446744073709551616 * t := ⟨-((m + 9223372036854775808) / 18446744073709551616), by simp only [wrap64]; omega⟩
theorem wrap_add (m t : Int) : wrap64 (m + 18446744073709551616 * t) = wrap64 m := by simp only [wrap64]; omega
theorem wrap_low (m b : Int) (h0 : 0 ≤ b) (h1 : b ≤ 255) (hm : m % 256 = 0) : wrap64 m + b = wrap64 (m + b) := by simp only [wrap64]; omega
theorem wrap_step (m b : Int) (h0 : 0 ≤ b) (h1 : b ≤ 255) : wrap64 (wrap64 m * 256) + b = wrap64 (m * 256 + b) := by
  obtain ⟨t, ht⟩ := wrap_mul m
  rw [ht, show (m + 18446744073709551616 * t) * 256 = m * 256 + 18446744073709551616 * (256 * t) by omega, wrap_add, wrap_low _ _ h0 h1 (by omega)]
theorem wrap_range (m : Int) : -9223372036854775808 ≤ wrap64 m ∧ wrap64 m ≤ 9223372036854775807 := by simp only [wrap64]; omega
theorem wrap_mod (m : Int) : wrap64 (m * 256) % 256 = 0 := by simp only [wrap64]; omega
/-- A number out of bytes, as an int. -/
def nmI (p : List Int) : Int := wrap64 (numL p : Int)
theorem nmI_range (p : List Int) : -9223372036854775808 ≤ nmI p ∧ nmI p ≤ 9223372036854775807 := wrap_range _
def NbP (B q : Nat) (l : List Int) (n : Int) (w : World) (e : Ending) (w' : World) : Prop := ∃ rv sh, e = .returned (.int .i64 (nmI (pcL l n).1)) ∧ GQ q w w' ∧ Blk w' q [rv, .bool sh] ∧ YS B w' rv (pcL l n).2
theorem byt_pc {l : List Int} (hb : Byt l) (n : Int) : Byt (pcL l n).1 ∧ Byt (pcL l n).2 := by
  unfold pcL
  split
  · exact ⟨fun x hx => hb x (List.mem_of_mem_take hx), fun x hx => hb x (List.mem_of_mem_drop hx)⟩
  · exact ⟨fun x hx => by simp at hx, fun x hx => by simp at hx⟩
set_option maxHeartbeats 4000000 in
theorem number_any (B q : Nat) (v : Value) (l : List Int) (sh : Bool) (n : Int) (w : World) (hq : q < w.heap.size) (hB : B ≤ q) (hK : Blk w q [v, .bool sh]) (hv : YS B w v l) (hb : Byt l) :
    Calls Tryd.prog 44 #[.pointer (some ⟨q, 0, none⟩), .int .i64 n] w fun e w' => NbP B q l n w e w' := by
  have hpc := piece_any B q v l sh n w hq hB hK hv
  have hbp := byt_pc hb n
  clear hK hv hb
  go_enter Tryd.func44, Tryd.ntmps44
  go_wp2_with (go_at_call 66; fail)
  refine hpc.mono ?_
  rintro e w1 ⟨pv, rv, sh1, rfl, hg, hk1, hp, hr⟩
  have HE : Hid (∀ x, x = nmI (pcL l n).1 → NbP B q l n w (.returned (.int .i64 x)) w1) := (fun x hx => ⟨rv, sh1, by rw [hx], hg, hk1, hr⟩ : ∀ x, x = nmI (pcL l n).1 → NbP B q l n w (.returned (.int .i64 x)) w1)
  have HB : Hid (Byt (pcL l n).1) := hbp.1
  clear hpc hbp hg hk1 hr
  obtain ⟨p, hpe⟩ : ∃ p, p = (pcL l n).1 := ⟨_, rfl⟩
  rw [← hpe] at HE HB hp
  clear hpe
  obtain ⟨a, cap, rfl, h1, h2, h3⟩ := hp
  unfold maxLen at h2
  go_wp2
  go_loopw [5, 12] (fun nv iv wr => ∃ (k : Nat) (m : Int), k ≤ p.length ∧ iv = .int .i64 k ∧ nv = .int .i64 m ∧ Hid (m = nmI (p.take k)) ∧ wr = w1) (fun _ iv _ => p.length - (intOf iv).toNat)
  case atStart => exact ⟨0, 0, Nat.zero_le _, rfl, rfl, (by simp [nmI, numL, wrap64] : 0 = nmI (p.take 0)), rfl⟩
  case round =>
    obtain ⟨k, m, hk, rfl, rfl, HM, hww⟩ := hrel
    replace hww := hww.symm
    subst hww
    by_cases hlt : k < p.length
    · have hlti : (k : Int) < p.length := by omega
      rcases h3 with ⟨_, rfl⟩ | ⟨g, o, rfl, hg, hc⟩
      · omega
      have c0 := hc k hlt
      have hx := HB.out p[k] (List.getElem_mem hlt)
      obtain ⟨x8, hx8⟩ : ∃ z, z = wrap64 (m * 256) := ⟨_, rfl⟩
      have HS : Hid (nmI (p.take (k + 1)) = x8 + p[k]) := (by
        rw [hx8, HM.out]
        unfold nmI
        rw [wrap_step _ _ hx.1 hx.2, numL_take hlt]
        have hxt : ((p[k].toNat : Nat) : Int) = p[k] := by omega
        rw [Int.natCast_add, Int.natCast_mul, hxt]
        rfl : nmI (p.take (k + 1)) = x8 + p[k])
      have hw8 : IntKind.i64.wrap (m * 256) = x8 := by rw [hx8]; simp only [IntKind.wrap_i64, wrap64]
      have hor := or_low (x := x8) (b := p[k]) (by rw [hx8]; exact (wrap_range _).1) (by rw [hx8]; exact (wrap_range _).2) (by rw [hx8]; exact wrap_mod _) hx.1 hx.2
      have hwb : IntKind.i64.wrap p[k] = p[k] := by simp only [IntKind.wrap_i64]; omega
      clear HM hx8 hc
      generalize p[k] = b at *
      obtain ⟨y, hy⟩ : ∃ z, z = x8 + b := ⟨_, rfl⟩
      rw [← hy] at hor HS
      clear hy
      go_wp2
      go_roundw
      case rel => exact ⟨k + 1, y, by omega, by go_num, by first | rfl | go_num, HS.out.symm, by first | rfl | trivial⟩
      case measure => simp [intOf]; omega
    · have hlti : ¬ (k : Int) < p.length := by omega
      have HF : Hid (NbP B q l n w (.returned (.int .i64 m)) w1) := HE.out m (by rw [HM.out, List.take_of_length_le (by omega)])
      clear HM HE h3
      go_wp2
      go_ret
      exact HF.out
end Go.Proofs.YtfgjleifhjegkaaDoor
namespace Go.Proofs.YtfgjleifhjegkaaDoor
open Go.ChangeShapes Go.WideShapes Go.ChangeAt Go.RowKit
set_option linter.unusedVariables false
set_option linter.unusedSimpArgs false
set_option maxRecDepth 100000
theorem GQ.own {q : Nat} {w a b : World} {row : Option Nat} (h : GQ q w a) (hg : a.grownBy b row) (hr : ∀ k, row = some k → w.heap.size ≤ k) : GQ q w b :=
  ⟨hg.os.trans h.os, hg.tape.trans h.tape, hg.output.trans h.output, Nat.le_trans h.size hg.size, fun k hk hn => (hg.block k (Nat.lt_of_lt_of_le hk h.size) (fun e => by have := hr k e.symm; omega)).trans (h.block k hk hn)⟩
theorem GQ.setNew {q b j : Nat} {w a : World} {u : Value} (h : GQ q w a) (hb : w.heap.size ≤ b) : GQ q w (a.setCell ⟨b, j, none⟩ u) :=
  ⟨h.os, h.tape, h.output, by rw [show (a.setCell ⟨b, j, none⟩ u).heap.size = a.heap.size by simp [World.setCell]]; exact h.size, fun k hk hn => (Below.heap_setCell _ _ _ _ (by simp; omega)).trans (h.block k hk hn)⟩
/-- How many bytes are left. -/
def restN (q : Nat) (w : World) : Nat := match w.cell? ⟨q, 0, none⟩ with
  | some (.slice _ n _) => n
  | _ => 0
theorem restN_of {B q : Nat} {w : World} {rv : Value} {sh : Bool} {l : List Int} (hK : Blk w q [rv, .bool sh]) (hv : YS B w rv l) : restN q w = l.length := by
  obtain ⟨a, cap, rfl, _⟩ := hv
  have c0 : w.cell? ⟨q, 0, none⟩ = some (.slice a l.length cap) := (hK 0 (by simp)).1
  unfold restN
  rw [c0]
theorem pc_one_nil : pcL [] 1 = ([], []) := by simp [pcL]
theorem pc_one (b : Int) (r : List Int) : pcL (b :: r) 1 = ([b], r) := by
  unfold pcL
  rw [if_pos ⟨by decide, by simp; omega⟩]
  simp
theorem nm_nil : nmI [] = 0 := by simp [nmI, numL, wrap64]
theorem nm_one {b : Int} (h0 : 0 ≤ b) (h1 : b ≤ 255) : nmI [b] = b := by
  simp only [nmI, numL, List.foldl_cons, List.foldl_nil, wrap64]
  omega
/-- The text at the head of some bytes, and what is left. -/
def ktI : List Int → List Int × List Int
  | [] => ([], [])
  | [b] => if b = 0 then ([], []) else ([b], [])
  | b :: c :: r => if b = 0 then (if c = 255 then (0 :: (ktI r).1, (ktI r).2) else ([], r)) else (b :: (ktI (c :: r)).1, (ktI (c :: r)).2)
theorem ktI_plain {b : Int} (h : b ≠ 0) : ∀ (r : List Int), ktI (b :: r) = (b :: (ktI r).1, (ktI r).2)
  | [] => by simp [ktI, h]
  | c :: r => by
    conv => lhs; unfold ktI
    rw [if_neg h]
theorem ktI_one : ktI [0] = ([], []) := by simp [ktI]
theorem ktI_nought (r : List Int) : ktI (0 :: 255 :: r) = (0 :: (ktI r).1, (ktI r).2) := by
  conv => lhs; unfold ktI
  simp
theorem ktI_end {c : Int} (h : c ≠ 255) (r : List Int) : ktI (0 :: c :: r) = ([], r) := by
  conv => lhs; unfold ktI
  simp [h]
theorem ktI_len : ∀ (l : List Int), (ktI l).1.length ≤ l.length ∧ (ktI l).2.length ≤ l.length
  | [] => by simp [ktI]
  | [b] => by unfold ktI; split <;> simp
  | b :: c :: r => by
    have h1 := ktI_len r
    have h2 := ktI_len (c :: r)
    unfold ktI
    simp at h2
    split
    · split
      · simp; omega
      · simp; omega
    · simp; omega
theorem ktI_esc (R : List Int) : ∀ l : List Int, ktI (escL l ++ 0 :: 1 :: R) = (l, R)
  | [] => by simp [escL, ktI_end]
  | b :: r => by
    have ih := ktI_esc R r
    have he : escL (b :: r) = esc1 b ++ escL r := by simp [escL]
    rw [he]
    by_cases hb : b = 0
    · subst hb
      have : esc1 0 = [0, 255] := by simp [esc1]
      rw [this]
      show ktI (0 :: 255 :: (escL r ++ 0 :: 1 :: R)) = _
      rw [ktI_nought, ih]
    · have : esc1 b = [b] := by simp [esc1, hb]
      rw [this]
      show ktI (b :: (escL r ++ 0 :: 1 :: R)) = _
      rw [ktI_plain hb, ih]
def TxP (B q : Nat) (l : List Int) (w : World) (e : Ending) (w' : World) : Prop := ∃ rv sh, e = .returned (.string (strOfNums (ktI l).1)) ∧ GQ q w w' ∧ Blk w' q [rv, .bool sh] ∧ YS B w' rv (ktI l).2
set_option maxHeartbeats 8000000 in
theorem keyText_any (B q : Nat) (v : Value) (l : List Int) (sh : Bool) (w : World) (hq : q < w.heap.size) (hB : B ≤ q) (hK : Blk w q [v, .bool sh]) (hv : YS B w v l) (hb : Byt l) (hl : l.length ≤ 1000000000000) :
    Calls Tryd.prog 62 #[.pointer (some ⟨q, 0, none⟩)] w fun e w' => TxP B q l w e w' := by
  obtain ⟨i0, hi, hz0, hz1, hz2⟩ := info_parts infoU8
  have HK0 := hid hK
  have HV0 := hid hv
  have HB0 := hid hb
  clear hK hv hb
  go_enter Tryd.func62, Tryd.ntmps62
  go_wp2
  go_loopw [3] (fun tv wr => ∃ (l1 acc : List Int) (oa : Option Addr) (oc : Nat) (rv : Value) (s1 : Bool), tv = .slice oa acc.length oc ∧ acc.length + l1.length ≤ l.length ∧ Hid (YOut 5 w.heap.size wr (.slice oa acc.length oc) acc) ∧ Hid (Blk wr q [rv, .bool s1]) ∧ Hid (YS B wr rv l1) ∧ Hid (Byt l1) ∧ Hid (ktI l = (acc ++ (ktI l1).1, (ktI l1).2)) ∧ Hid (GQ q w wr) ∧ w.heap.size ≤ wr.heap.size) (fun _ wr => restN q wr)
  case atStart => exact ⟨l, [], none, 0, v, sh, rfl, by simp, (⟨rfl, .inl ⟨rfl, rfl⟩⟩ : YOut 5 w.heap.size w (.slice none 0 0) []), HK0, HV0, HB0, (by simp : ktI l = ([] ++ (ktI l).1, (ktI l).2)), GQ.refl _ _, Nat.le_refl _⟩
  case round =>
    clear HK0 HV0 HB0
    obtain ⟨l1, acc, oa, oc, rv, s1, rfl, hal, HY, HK, HV, HB, HE, HG, hsz⟩ := hrel
    have hnb := number_any B q rv l1 s1 1 wr (by omega) hB HK.out HV.out HB.out
    have HRN := hid (restN_of HK.out HV.out)
    have HQB : Hid (q < w.heap.size) := hq
    rcases l1 with _ | ⟨b, r⟩
    · unfold NbP at hnb
      rw [pc_one_nil, nm_nil] at hnb
      have HF : Hid (ktI l = (acc, [])) := (by rw [HE.out]; simp [ktI] : ktI l = (acc, []))
      clear HE HK HV
      go_wp2_with (go_at_call 44; fail)
      refine hnb.mono ?_
      rintro e w1 ⟨rv1, s2, rfl, hg1, hk1, hv1⟩
      have HY1 := hid (HY.out.gq hg1 HQB.out)
      have HG1 := hid (HG.out.trans hg1)
      have hs1 : w.heap.size ≤ w1.heap.size := by have := hg1.size; omega
      have hnb2 := number_any B q rv1 [] s2 1 w1 (by omega) hB hk1 hv1 (fun x hx => by simp at hx)
      unfold NbP at hnb2
      rw [pc_one_nil, nm_nil] at hnb2
      clear hnb hg1 hk1 hv1 HY HG
      go_wp2_with (go_at_call 44; fail)
      refine hnb2.mono ?_
      rintro e w2 ⟨rv2, s3, rfl, hg2, hk2, hv2⟩
      have HY2 := hid (HY1.out.gq hg2 HQB.out)
      have HG2 := hid (HG1.out.trans hg2)
      have hs2 : w.heap.size ≤ w2.heap.size := by have := hg2.size; omega
      have hcv := conv_rs ((HY2.out.rsw.rs (D := CY) id).mono liesY (Nat.zero_le _))
      have HR : Hid (TxP B q l w (.returned (.string (strOfNums acc))) w2) := ⟨rv2, s3, by rw [HF.out], HG2.out, hk2, by rw [HF.out]; exact hv2⟩
      clear hnb2 hg2 hk2 hv2 HY1 HG1 HY2 HG2 HF
      go_wp2
      go_ret
      exact HR.out
    · have hbb := HB.out b (List.mem_cons_self ..)
      have HBR : Hid (Byt r) := (fun x hx => HB.out x (List.mem_cons_of_mem _ hx) : Byt r)
      unfold NbP at hnb
      rw [pc_one, nm_one hbb.1 hbb.2] at hnb
      have hw8 : IntKind.u8.wrap b = b := by simp only [IntKind.wrap, IntKind.bits, IntKind.signed]; simp; omega
      simp only [List.length_cons] at hal
      by_cases hz : b = 0
      · subst hz
        clear hw8
        go_wp2_with (go_at_call 44; fail)
        refine hnb.mono ?_
        rintro e w1 ⟨rv1, s2, rfl, hg1, hk1, hv1⟩
        have HY1 := hid (HY.out.gq hg1 HQB.out)
        have HG1 := hid (HG.out.trans hg1)
        have hs1 : w.heap.size ≤ w1.heap.size := by have := hg1.size; omega
        have hnb2 := number_any B q rv1 r s2 1 w1 (by omega) hB hk1 hv1 HBR.out
        unfold NbP at hnb2
        clear hnb hg1 hk1 hv1 HY HG HK HV
        rcases r with _ | ⟨c, r⟩
        · rw [pc_one_nil, nm_nil] at hnb2
          have HF : Hid (ktI l = (acc, [])) := (by rw [HE.out]; simp [ktI_one] : ktI l = (acc, []))
          clear HE
          go_wp2_with (go_at_call 44; fail)
          refine hnb2.mono ?_
          rintro e w2 ⟨rv2, s3, rfl, hg2, hk2, hv2⟩
          have HY2 := hid (HY1.out.gq hg2 HQB.out)
          have HG2 := hid (HG1.out.trans hg2)
          have hcv := conv_rs ((HY2.out.rsw.rs (D := CY) id).mono liesY (Nat.zero_le _))
          have HR : Hid (TxP B q l w (.returned (.string (strOfNums acc))) w2) := ⟨rv2, s3, by rw [HF.out], HG2.out, hk2, by rw [HF.out]; exact hv2⟩
          clear hnb2 hg2 hk2 hv2 HY1 HG1 HY2 HG2 HF
          go_wp2
          go_ret
          exact HR.out
        · have hcb := HBR.out c (List.mem_cons_self ..)
          have HBR2 : Hid (Byt r) := (fun x hx => HBR.out x (List.mem_cons_of_mem _ hx) : Byt r)
          rw [pc_one, nm_one hcb.1 hcb.2] at hnb2
          simp only [List.length_cons] at hal
          by_cases hc : c = 255
          · subst hc
            have HF : Hid (ktI l = ((acc ++ [0]) ++ (ktI r).1, (ktI r).2)) := (by rw [HE.out, ktI_nought]; simp : ktI l = ((acc ++ [0]) ++ (ktI r).1, (ktI r).2))
            clear HE
            go_wp2_with (go_at_call 44; fail)
            refine hnb2.mono ?_
            rintro e w2 ⟨rv2, s3, rfl, hg2, hk2, hv2⟩
            have HY2 := hid (HY1.out.gq hg2 HQB.out)
            have HG2 := hid (HG1.out.trans hg2)
            have hs2 : w.heap.size ≤ w2.heap.size := by have := hg2.size; omega
            have HK2 := hid hk2
            have HV2 := hid hv2
            have HLT := hid (World.ownsRow.lt HY2.out)
            clear hnb2 hg2 hk2 hv2 HY1 HG1
            go_wp2_with (at_builtin; refine wpList_append_own _ rfl (.tmp 17) (.tmp 19) 24 rfl w.heap.size 5 i0 (.int .u8 0) 1 1 Tryd.underlying24 hi hz0 hz1 hz2 rfl (by decide) _ _ _ rfl (World.ownsRow.alloc HY2.out _) ⟨w2.heap.size, 0, none⟩ 1 1 [.int .u8 0] rfl rfl (blk_new w2 [.int .u8 0] 5).cells (by intro u hu; simp at hu; subst hu; rfl) (by unfold maxLen; omega) (by omega) (by simp; omega) ?_; intro v3 w3 hown3 hgrow3 hiff3; clear hiff3)
            have HG3 : Hid (GQ q w w3) := (HG2.out.trans (GQ.alloc q w2 _)).own hgrow3 (fun j hj => (HLT.out j hj).1)
            have HK3 : Hid (Blk w3 q [rv2, .bool s3]) := (HK2.out.below (below_alloc _ _) (by omega)).grown hgrow3 (by simp; omega) (fun e => by have := (HLT.out _ e.symm).1; omega)
            have HV3 : Hid (YS B w3 rv2 r) := (HV2.out.gq (GQ.alloc q w2 _) hB (by omega)).same (fun g j hgB => World.cell?_of_block (a := ⟨g, j, none⟩) (hgrow3.block g (by simp; omega) (fun e => by have := (HLT.out _ e.symm).1; omega)))
            have hs3 : w.heap.size ≤ w3.heap.size := by have := hgrow3.size; simp at this; omega
            have HR := hid (YOut.push hown3)
            obtain ⟨oa3, oc3, rfl⟩ := HR.out.form
            have hl3 : (acc ++ [0]).length = acc.length + 1 := by simp
            have HN3 := hid (restN_of HK3.out HV3.out)
            obtain ⟨acc3, hac⟩ : ∃ z, z = acc ++ [(0 : Int)] := ⟨_, rfl⟩
            rw [← hac] at HR HF hl3 ⊢
            clear hown3 hgrow3 HY2 HG2 HK2 HV2 HLT hac
            go_wp2
            go_roundw
            case rel => exact ⟨r, acc3, oa3, oc3, rv2, s3, rfl, by omega, HR, HK3, HV3, HBR2, HF, HG3, hs3⟩
            case measure => rw [HN3.out, HRN.out]; simp; omega
          · have HF : Hid (ktI l = (acc, r)) := (by rw [HE.out, ktI_end hc]; simp : ktI l = (acc, r))
            have hcn : (c == 255) = false := by simp [hc]
            clear HE
            go_wp2_with (go_at_call 44; fail)
            refine hnb2.mono ?_
            rintro e w2 ⟨rv2, s3, rfl, hg2, hk2, hv2⟩
            have HY2 := hid (HY1.out.gq hg2 HQB.out)
            have HG2 := hid (HG1.out.trans hg2)
            have hcv := conv_rs ((HY2.out.rsw.rs (D := CY) id).mono liesY (Nat.zero_le _))
            have HR : Hid (TxP B q l w (.returned (.string (strOfNums acc))) w2) := ⟨rv2, s3, by rw [HF.out], HG2.out, hk2, by rw [HF.out]; exact hv2⟩
            clear hnb2 hg2 hk2 hv2 HY1 HG1 HY2 HG2 HF
            go_wp2
            go_ret
            exact HR.out
      · have hzb : (b == 0) = false := by simp [hz]
        have HF : Hid (ktI l = ((acc ++ [b]) ++ (ktI r).1, (ktI r).2)) := (by rw [HE.out, ktI_plain hz]; simp : ktI l = ((acc ++ [b]) ++ (ktI r).1, (ktI r).2))
        clear HE
        go_wp2_with (go_at_call 44; fail)
        refine hnb.mono ?_
        rintro e w2 ⟨rv2, s3, rfl, hg2, hk2, hv2⟩
        have HY2 := hid (HY.out.gq hg2 HQB.out)
        have HG2 := hid (HG.out.trans hg2)
        have hs2 : w.heap.size ≤ w2.heap.size := by have := hg2.size; omega
        have HK2 := hid hk2
        have HV2 := hid hv2
        have HLT := hid (World.ownsRow.lt HY2.out)
        clear hnb hg2 hk2 hv2 HY HG HK HV
        go_wp2_with (at_builtin; refine wpList_append_own _ rfl (.tmp 17) (.tmp 19) 24 rfl w.heap.size 5 i0 (.int .u8 0) 1 1 Tryd.underlying24 hi hz0 hz1 hz2 rfl (by decide) _ _ _ rfl (World.ownsRow.alloc HY2.out _) ⟨w2.heap.size, 0, none⟩ 1 1 [.int .u8 b] rfl rfl (blk_new w2 [.int .u8 b] 5).cells (by intro u hu; simp at hu; subst hu; rfl) (by unfold maxLen; omega) (by omega) (by simp; omega) ?_; intro v3 w3 hown3 hgrow3 hiff3; clear hiff3)
        have HG3 : Hid (GQ q w w3) := (HG2.out.trans (GQ.alloc q w2 _)).own hgrow3 (fun j hj => (HLT.out j hj).1)
        have HK3 : Hid (Blk w3 q [rv2, .bool s3]) := (HK2.out.below (below_alloc _ _) (by omega)).grown hgrow3 (by simp; omega) (fun e => by have := (HLT.out _ e.symm).1; omega)
        have HV3 : Hid (YS B w3 rv2 r) := (HV2.out.gq (GQ.alloc q w2 _) hB (by omega)).same (fun g j hgB => World.cell?_of_block (a := ⟨g, j, none⟩) (hgrow3.block g (by simp; omega) (fun e => by have := (HLT.out _ e.symm).1; omega)))
        have hs3 : w.heap.size ≤ w3.heap.size := by have := hgrow3.size; simp at this; omega
        have HR := hid (YOut.push hown3)
        obtain ⟨oa3, oc3, rfl⟩ := HR.out.form
        have hl3 : (acc ++ [b]).length = acc.length + 1 := by simp
        have HN3 := hid (restN_of HK3.out HV3.out)
        obtain ⟨acc3, hac⟩ : ∃ z, z = acc ++ [b] := ⟨_, rfl⟩
        rw [← hac] at HR HF hl3 ⊢
        clear hown3 hgrow3 HY2 HG2 HK2 HV2 HLT hac
        go_wp2
        go_roundw
        case rel => exact ⟨r, acc3, oa3, oc3, rv2, s3, rfl, by omega, HR, HK3, HV3, HBR, HF, HG3, hs3⟩
        case measure => rw [HN3.out, HRN.out]; simp
end Go.Proofs.YtfgjleifhjegkaaDoor
