import Derived.Test.YtfgjleifhjegkaaDoorIA
import Derived.Test.YtfgjleifhjegkaaDoorRC
namespace Go.Proofs.YtfgjleifhjegkaaDoor
open Go.ChangeShapes Go.WideShapes Go.ChangeAt Go.RowKit
set_option linter.unusedVariables false
set_option linter.unusedSimpArgs false
set_option maxRecDepth 100000
/-- Bytes that can be read, below a block. -/
def YS (B : Nat) (w : World) (v : Value) (l : List Int) : Prop := ∃ a cap, v = .slice a l.length cap ∧ l.length ≤ cap ∧ cap ≤ 1000000000000 ∧ ((a = none ∧ cap = 0) ∨ ∃ g o, a = some ⟨g, o, none⟩ ∧ g < B ∧ ∀ i (h : i < l.length), w.cell? ⟨g, o + i, none⟩ = some (.int .u8 l[i]))
theorem YS.nil {B : Nat} {w : World} : YS B w (.slice none 0 0) [] := ⟨none, 0, rfl, by simp, by omega, .inl ⟨rfl, rfl⟩⟩
theorem YS.same {B : Nat} {w w' : World} {v : Value} {l : List Int} (h : YS B w v l) (hb : ∀ g j, g < B → w'.cell? ⟨g, j, none⟩ = w.cell? ⟨g, j, none⟩) : YS B w' v l := by
  obtain ⟨a, cap, rfl, h1, h2, h3⟩ := h
  refine ⟨a, cap, rfl, h1, h2, ?_⟩
  rcases h3 with h3 | ⟨g, o, rfl, hg, hc⟩
  · exact .inl h3
  · exact .inr ⟨g, o, rfl, hg, fun i hi => (hb g _ hg).trans (hc i hi)⟩
theorem YS.rs {B : Nat} {w : World} {v : Value} {l : List Int} (h : YS B w v l) (hB : B ≤ w.heap.size) : RS 1 CY 0 w v l := by
  obtain ⟨a, cap, rfl, h1, h2, h3⟩ := h
  refine ⟨a, cap, rfl, fun hp => ?_⟩
  rcases h3 with ⟨_, rfl⟩ | ⟨g, o, rfl, hg, hc⟩
  · omega
  · refine ⟨g, o, rfl, Nat.zero_le _, by omega, fun i hi => ⟨[.int .u8 l[i]], rfl, fun j hj => ?_⟩⟩
    have : j = 0 := by omega
    subst this
    rw [Nat.mul_one, Nat.add_zero]
    exact hc i hi
/-- Nothing but a block has changed. -/
abbrev GQ (q : Nat) (w w' : World) : Prop := w.grownBy w' (some q)
theorem GQ.refl (q : Nat) (w : World) : GQ q w w := ⟨rfl, rfl, rfl, Nat.le_refl _, fun _ _ _ => rfl⟩
theorem GQ.trans {q : Nat} {a b c : World} (h : GQ q a b) (k : GQ q b c) : GQ q a c := ⟨k.os.trans h.os, k.tape.trans h.tape, k.output.trans h.output, Nat.le_trans h.size k.size, fun i hi hn => (k.block i (Nat.lt_of_lt_of_le hi h.size) hn).trans (h.block i hi hn)⟩
theorem GQ.set (q j : Nat) (w : World) (u : Value) : GQ q w (w.setCell ⟨q, j, none⟩ u) := ⟨rfl, rfl, rfl, by simp [World.setCell], fun k hk hn => Below.heap_setCell _ _ _ _ (fun e => hn (by rw [e]))⟩
theorem GQ.alloc (q : Nat) (w : World) (o : Obj) : GQ q w (w.alloc o) := ⟨rfl, rfl, rfl, by simp, fun k hk _ => Below.heap_alloc _ _ _ hk⟩
theorem GQ.below {q : Nat} {w w' : World} (h : Below w.heap.size w w') : GQ q w w' := ⟨h.os, h.tape, h.output, h.size, fun k hk _ => h.block k hk⟩
theorem GQ.cell {q : Nat} {w w' : World} (h : GQ q w w') {p : Addr} (hp : p.block < w.heap.size) (hn : p.block ≠ q) : w'.cell? p = w.cell? p := World.cell?_of_block (w := w) (h.block p.block hp (fun e => hn (by injection e)))
theorem YS.gq {B q : Nat} {w w' : World} {v : Value} {l : List Int} (h : YS B w v l) (hg : GQ q w w') (hB : B ≤ q) (hq : q < w.heap.size) : YS B w' v l := h.same fun g j hgB => hg.cell (p := ⟨g, j, none⟩) (by simp; omega) (by simp; omega)
theorem Below.gq {B q : Nat} {a w w' : World} (h : Below B a w) (hg : GQ q w w') (hB : B ≤ q) (hs : B ≤ w.heap.size) : Below B a w' := h.grown hg hs (fun k hk => by injection hk with hk; omega)
theorem Blk.gq {q b : Nat} {w w' : World} {cs : List Value} (h : Blk w b cs) (hg : GQ q w w') (hb : b < w.heap.size) (hn : b ≠ q) : Blk w' b cs := h.grown hg hb (fun e => hn (by injection e))
theorem YOut.gq {ty b q : Nat} {w w' : World} {v : Value} {xs : List Int} (h : YOut ty b w v xs) (hg : GQ q w w') (hn : q < b) : YOut ty b w' v xs := by
  refine World.ownsRow.kept h hg ?_
  by_cases ho : v.ownBlock = none
  · exact .inl ho
  · refine .inr fun e => ?_
    have := (World.ownsRow.lt h q (by rw [e])).1
    omega
/-- So many bytes off the front, and what is left; none of both where there are too few. -/
def pcL (l : List Int) (n : Int) : List Int × List Int := if 0 ≤ n ∧ n ≤ l.length then (l.take n.toNat, l.drop n.toNat) else ([], [])
def PcP (B q : Nat) (l : List Int) (n : Int) (w : World) (e : Ending) (w' : World) : Prop := ∃ pv rv sh, e = .returned pv ∧ GQ q w w' ∧ Blk w' q [rv, .bool sh] ∧ YS B w' pv (pcL l n).1 ∧ YS B w' rv (pcL l n).2
theorem ys_take {B g o m : Nat} {w : World} {l : List Int} (hg : g < B) (hc : ∀ i (h : i < l.length), w.cell? ⟨g, o + i, none⟩ = some (.int .u8 l[i])) (hm : m ≤ l.length) (hb : m ≤ 1000000000000) : YS B w (.slice (some ⟨g, o, none⟩) m m) (l.take m) := by
  have hl : (l.take m).length = m := by rw [List.length_take]; omega
  refine ⟨some ⟨g, o, none⟩, m, by rw [hl], by omega, hb, .inr ⟨g, o, rfl, hg, fun i hi => ?_⟩⟩
  rw [hc i (by omega), List.getElem_take]
theorem ys_drop {B g o m cap : Nat} {w : World} {l : List Int} (hg : g < B) (hc : ∀ i (h : i < l.length), w.cell? ⟨g, o + i, none⟩ = some (.int .u8 l[i])) (hm : m ≤ l.length) (hcap : l.length ≤ cap) (hb : cap ≤ 1000000000000) : YS B w (.slice (some ⟨g, o + m, none⟩) (l.length - m) (cap - m)) (l.drop m) := by
  refine ⟨some ⟨g, o + m, none⟩, cap - m, by rw [List.length_drop], by rw [List.length_drop]; omega, by omega, .inr ⟨g, o + m, rfl, hg, fun i hi => ?_⟩⟩
  rw [List.length_drop] at hi
  rw [Nat.add_assoc, hc (m + i) (by omega), List.getElem_drop]
theorem ys_gone {B g o m : Nat} {w : World} {l : List Int} (hg : g < B) (hm : l.length = m) : YS B w (.slice (some ⟨g, o, none⟩) (l.length - m) 0) (l.drop m) := by
  have hd : l.drop m = [] := List.drop_eq_nil_of_le (by omega)
  rw [hd]
  exact ⟨some ⟨g, o, none⟩, 0, by rw [hm]; simp, by simp, by omega, .inr ⟨g, o, rfl, hg, fun i hi => absurd hi (by simp)⟩⟩
set_option maxHeartbeats 4000000 in
theorem piece_any (B q : Nat) (v : Value) (l : List Int) (sh : Bool) (n : Int) (w : World) (hq : q < w.heap.size) (hB : B ≤ q) (hK : Blk w q [v, .bool sh]) (hv : YS B w v l) :
    Calls Tryd.prog 66 #[.pointer (some ⟨q, 0, none⟩), .int .i64 n] w fun e w' => PcP B q l n w e w' := by
  have c0 : w.cell? ⟨q, 0, none⟩ = some v := (hK 0 (by simp)).1
  have c1 : w.cell? ⟨q, 1, none⟩ = some (.bool sh) := (hK 1 (by simp)).1
  have f0 : w.frozen? ⟨q, 0, none⟩ = false := (hK 0 (by simp)).2
  have f1 : w.frozen? ⟨q, 1, none⟩ = false := (hK 1 (by simp)).2
  have HV := hid hv
  have HK := hid hK
  clear hK
  obtain ⟨a, cap, rfl, h1, h2, h3⟩ := hv
  by_cases hn : 0 ≤ n ∧ n ≤ l.length
  · obtain ⟨m, rfl⟩ : ∃ m : Nat, n = m := ⟨n.toNat, by omega⟩
    obtain ⟨hn0, hn1⟩ := hn
    have HP : Hid (pcL l m = (l.take m, l.drop m)) := (by unfold pcL; rw [if_pos ⟨hn0, hn1⟩]; rfl : pcL l m = (l.take m, l.drop m))
    rcases h3 with ⟨rfl, rfl⟩ | ⟨g, o, rfl, hg, hc⟩
    · have hl0 : l.length = 0 := by omega
      have hm0 : m = 0 := by omega
      subst hm0
      have hl : l = [] := List.eq_nil_of_length_eq_zero hl0
      subst hl
      have HK2 := hid (HK.out.set 0 (.slice none 0 0))
      clear HK HV
      go_enter Tryd.func66, Tryd.ntmps66
      go_wp2
      go_ret
      refine ⟨_, _, sh, rfl, GQ.set _ _ _ _, HK2.out, ?_, ?_⟩
      · rw [HP.out]; exact YS.nil
      · rw [HP.out]; exact YS.nil
    · have HC := hid hc
      have HSM : Hid (∀ u, ∀ i (h : i < l.length), (w.setCell ⟨q, 0, none⟩ u).cell? ⟨g, o + i, none⟩ = some (.int .u8 l[i])) := (fun u i hi => (World.cell?_setCell_far w ⟨q, 0, none⟩ ⟨g, o + i, none⟩ u (by simp; omega)).trans (hc i hi) : ∀ u, ∀ i (h : i < l.length), (w.setCell ⟨q, 0, none⟩ u).cell? ⟨g, o + i, none⟩ = some (.int .u8 l[i]))
      clear hc HV
      go_enter Tryd.func66, Tryd.ntmps66
      go_wp2
      · go_ret
        refine ⟨_, _, sh, rfl, GQ.set _ _ _ _, HK.out.set 0 _, ?_, ?_⟩
        · rw [HP.out]; exact ys_take hg (HSM.out _) (by omega) (by omega)
        · rw [HP.out]; exact ys_gone hg (by omega)
      · go_ret
        refine ⟨_, _, sh, rfl, GQ.set _ _ _ _, HK.out.set 0 _, ?_, ?_⟩
        · rw [HP.out]; exact ys_take hg (HSM.out _) (by omega) (by omega)
        · rw [HP.out]; exact ys_drop hg (HSM.out _) (by omega) h1 h2
  · have HP : Hid (pcL l n = ([], [])) := (by unfold pcL; rw [if_neg hn] : pcL l n = ([], []))
    have HK2 := hid ((HK.out.set 0 (.slice none 0 0)).set 1 (.bool true))
    have HG : Hid (GQ q w ((w.setCell ⟨q, 0, none⟩ (.slice none 0 0)).setCell ⟨q, 1, none⟩ (.bool true))) := (GQ.set q 0 w _).trans (GQ.set q 1 _ _)
    clear HK HV h3
    by_cases hn0 : 0 ≤ n
    · have hn1 : ¬ n ≤ l.length := fun h => hn ⟨hn0, h⟩
      clear hn
      go_enter Tryd.func66, Tryd.ntmps66
      go_wp2
      go_ret
      refine ⟨_, _, true, rfl, HG.out, HK2.out, ?_, ?_⟩
      · rw [HP.out]; exact YS.nil
      · rw [HP.out]; exact YS.nil
    · clear hn
      go_enter Tryd.func66, Tryd.ntmps66
      go_wp2
      go_ret
      refine ⟨_, _, true, rfl, HG.out, HK2.out, ?_, ?_⟩
      · rw [HP.out]; exact YS.nil
      · rw [HP.out]; exact YS.nil
end Go.Proofs.YtfgjleifhjegkaaDoor
