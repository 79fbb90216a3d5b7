import Derived.Test.YtcgnkcehjcednaaDoorJL2
import Derived.Deep.QuietTactic
import Derived.BigQuiet
namespace Go.Proofs.YtcgnkcehjcednaaDoor
open Go.ChangeShapes Go.WideShapes Go.ChangeAt Go.RowKit
namespace Lk
set_option linter.unusedVariables false
set_option linter.unusedSimpArgs false
set_option maxRecDepth 100000
theorem row_cell {w : World} {b e s g n c : Nat} {xs : List Value} {u : Value} {j : Nat} (h : w.ownsRow b e s (.slice (some ⟨g, 0, none⟩) n c) n xs) (hj : xs[j]? = some u) : w.cell? ⟨g, j, none⟩ = some u := by
  have := h.cells rfl j u hj
  by_cases hz : j = 0
  · subst hz; simpa [Addr.add] using this
  · simpa [Addr.add, hz] using this
/-- Characters that lie readable. -/
def RdT (w : World) (v : Value) (t : List Int) : Prop :=
  ∃ (a : Option Addr) (cap : Nat), v = .slice a t.length cap ∧ ∀ i (h : i < t.length), ∃ g, a = some ⟨g, 0, none⟩ ∧ g < w.heap.size ∧ w.cell? ⟨g, i, none⟩ = some (.int .i32 t[i])
/-- Pieces that lie readable. -/
def RdP (w : World) (v : Value) (ps : List (Bool × Bool × Int)) : Prop :=
  ∃ (a : Option Addr) (cap : Nat), v = .slice a ps.length cap ∧ ∀ j (h : j < ps.length), ∃ g, a = some ⟨g, 0, none⟩ ∧ g < w.heap.size ∧ w.cell? ⟨g, j * 3, none⟩ = some (.bool ps[j].1) ∧ w.cell? ⟨g, j * 3 + 1, none⟩ = some (.bool ps[j].2.1) ∧ w.cell? ⟨g, j * 3 + 2, none⟩ = some (.int .i32 ps[j].2.2)
theorem RdT.of_own {w : World} {b : Nat} {v : Value} {t : List Int} (h : w.ownsRow b 21 1 v t.length (ch32 t)) : RdT w v t := by
  have h0 := h
  rcases h.2 with ⟨rfl, e⟩ | ⟨g, cap, cur, rfl, _, hg, _⟩
  · exact ⟨none, 0, by rw [e], fun i hi => by omega⟩
  · refine ⟨_, cap, rfl, fun i hi => ⟨g, rfl, (Array.getElem?_eq_some_iff.1 hg).1, row_cell h0 ?_⟩⟩
    simp [ch32, hi]
theorem pc3_get : ∀ (ps : List (Bool × Bool × Int)) (j : Nat) (h : j < ps.length), (pc3 ps)[j * 3]? = some (.bool ps[j].1) ∧ (pc3 ps)[j * 3 + 1]? = some (.bool ps[j].2.1) ∧ (pc3 ps)[j * 3 + 2]? = some (.int .i32 ps[j].2.2)
  | x :: ps, 0, _ => by simp [pc3]
  | x :: ps, j + 1, h => by
    have ih := pc3_get ps j (by simpa using h)
    have e : pc3 (x :: ps) = .bool x.1 :: .bool x.2.1 :: .int .i32 x.2.2 :: pc3 ps := by simp [pc3]
    rw [e, show (j + 1) * 3 = j * 3 + 3 by omega]
    simpa using ih
theorem RdP.of_own {w : World} {b : Nat} {v : Value} {ps : List (Bool × Bool × Int)} (h : w.ownsRow b 111 3 v ps.length (pc3 ps)) : RdP w v ps := by
  have h0 := h
  rcases h.2 with ⟨rfl, e⟩ | ⟨g, cap, cur, rfl, _, hg, _⟩
  · exact ⟨none, 0, by rw [e], fun i hi => by omega⟩
  · refine ⟨_, cap, rfl, fun j hj => ?_⟩
    obtain ⟨q0, q1, q2⟩ := pc3_get ps j hj
    exact ⟨g, rfl, (Array.getElem?_eq_some_iff.1 hg).1, row_cell h0 q0, row_cell h0 q1, row_cell h0 q2⟩
theorem below_drewN {B : Nat} {w w' : World} (h : Below B w w') (n : Nat) : Below B w (w'.drewN n) := ⟨h.os, h.tape, h.output, h.size, h.block⟩
theorem meas_many {L P j bi i : Nat} (h1 : bi ≤ i) (h2 : j < P) : (L - i) * (P + 1) + (P - (j + 1)) < (L - bi) * (P + 1) + (P - j) := by
  have := Nat.mul_le_mul_right (P + 1) (show L - i ≤ L - bi by omega)
  omega
theorem meas_back {L P j bi b : Nat} (h1 : bi < L) : (L - (bi + 1)) * (P + 1) + (P - (b + 1)) < (L - bi) * (P + 1) + (P - j) := by
  have e : L - bi = (L - (bi + 1)) + 1 := by omega
  rw [e, Nat.succ_mul]
  omega
def MatR (t : List Int) (ps : List (Bool × Bool × Int)) (w : World) (vi vj vb vp : Value) (wr : World) : Prop :=
  ∃ (i j bi : Nat) (bj : Int), vi = .int .i64 i ∧ vj = .int .i64 j ∧ vb = .int .i64 bi ∧ vp = .int .i64 bj ∧ Hid (Inv t (ps.map part) i j bi bj) ∧ i ≤ t.length ∧ j ≤ ps.length ∧ bi ≤ i ∧ -1 ≤ bj ∧ bj < ps.length ∧ Below w.heap.size w wr
theorem map_get {ps : List (Bool × Bool × Int)} {j : Nat} (h : j < ps.length) {m a : Bool} {c : Int} (e : ps[j] = (m, a, c)) : (ps.map part)[j]? = some (part (m, a, c)) := by
  simp [h, e]
open Classical in
set_option maxHeartbeats 16000000 in
theorem matches_any (t : List Int) (ps : List (Bool × Bool × Int)) (v0 v1 : Value) (w : World) (ht : RdT w v0 t) (hp : RdP w v1 ps) (hn : ∀ c ∈ t, (0 : Int) ≤ c) (hq : ∀ x ∈ ps, (0 : Int) ≤ x.2.2) (hl : t.length ≤ 1048576) (hk : ps.length ≤ 1048577) :
    Calls Tryd.prog 41 #[v0, v1] w fun e w' => e = .returned (.bool (decide (Mt (ps.map part) t))) ∧ Below w.heap.size w w' := by
  obtain ⟨ta, tc, rfl, HT⟩ := ht
  obtain ⟨pa, pc, rfl, HP⟩ := hp
  have HT' : Hid (∀ i (h : i < t.length), ∃ g, ta = some ⟨g, 0, none⟩ ∧ g < w.heap.size ∧ w.cell? ⟨g, i, none⟩ = some (.int .i32 t[i])) := HT
  have HP' : Hid (∀ j (h : j < ps.length), ∃ g, pa = some ⟨g, 0, none⟩ ∧ g < w.heap.size ∧ w.cell? ⟨g, j * 3, none⟩ = some (.bool ps[j].1) ∧ w.cell? ⟨g, j * 3 + 1, none⟩ = some (.bool ps[j].2.1) ∧ w.cell? ⟨g, j * 3 + 2, none⟩ = some (.int .i32 ps[j].2.2)) := HP
  have HN : Hid (∀ c ∈ t, (0 : Int) ≤ c) := hn
  have HQ : Hid (∀ x ∈ ps, (0 : Int) ≤ x.2.2) := hq
  clear HT HP hn hq
  go_enter Tryd.func41, Tryd.ntmps41
  go_wp2
  go_loopw [5, 6, 7, 8] (fun vi vj vb vp wr => MatR t ps w vi vj vb vp wr) (fun _ vj vb _ _ => (t.length - (intOf vb).toNat) * (ps.length + 1) + (ps.length - (intOf vj).toNat))
  case atStart => exact ⟨0, 0, 0, -1, rfl, rfl, rfl, rfl, Inv.start _ _, by omega, by omega, by omega, by omega, by omega, Below.refl _ _⟩
  case round =>
    obtain ⟨i, j, bi, bj, rfl, rfl, rfl, rfl, HI, hi, hj, hbi, hbj, hbk, hbel⟩ := hrel
    by_cases hlt : i < t.length
    · have hlti : (i : Int) < t.length := by omega
      obtain ⟨gt, rfl, hgt, ht0⟩ := HT'.out i hlt
      have ct : ∀ n, (wr.drewN n).cell? ⟨gt, i, none⟩ = some (.int .i32 t[i]) := fun n => (hbel.cell (p := ⟨gt, i, none⟩) hgt).trans ht0
      have hti : 0 ≤ t[i] := HN.out _ (List.getElem_mem hlt)
      have htg : t[i]? = some t[i] := List.getElem?_eq_getElem hlt
      generalize t[i] = tc0 at *
      by_cases hjl : j < ps.length
      · have hjli : (j : Int) < ps.length := by omega
        have hjd : decide ((j : Int) < (ps.length : Int)) = true := by simpa using hjli
        obtain ⟨gp, rfl, hgp, p0, p1, p2⟩ := HP'.out j hjl
        have hpn : 0 ≤ ps[j].2.2 := HQ.out _ (List.getElem_mem hjl)
        have hmap : (ps.map part)[j]? = some (part ps[j]) := by simp [hjl]
        obtain ⟨x, hx⟩ : ∃ x, ps[j] = x := ⟨_, rfl⟩
        rw [hx] at p0 p1 p2 hpn hmap
        clear hx
        obtain ⟨m, a, c⟩ := x
        simp only at p0 p1 p2 hpn
        have q0 : ∀ n, (wr.drewN n).cell? ⟨gp, j * 3, none⟩ = some (.bool m) := fun n => (hbel.cell (p := ⟨gp, j * 3, none⟩) hgp).trans p0
        have q1 : ∀ n, (wr.drewN n).cell? ⟨gp, j * 3 + 1, none⟩ = some (.bool a) := fun n => (hbel.cell (p := ⟨gp, j * 3 + 1, none⟩) hgp).trans p1
        have q2 : ∀ n, (wr.drewN n).cell? ⟨gp, j * 3 + 2, none⟩ = some (.int .i32 c) := fun n => (hbel.cell (p := ⟨gp, j * 3 + 2, none⟩) hgp).trans p2
        have r0 : wr.cell? ⟨gp, j * 3, none⟩ = some (.bool m) := q0 0
        have r1 : wr.cell? ⟨gp, j * 3 + 1, none⟩ = some (.bool a) := q1 0
        have r2 : wr.cell? ⟨gp, j * 3 + 2, none⟩ = some (.int .i32 c) := q2 0
        have rt : wr.cell? ⟨gt, i, none⟩ = some (.int .i32 tc0) := ct 0
        clear p0 p1 p2 ht0
        cases m with
        | true =>
          have HI2 : Hid (Inv t (ps.map part) i (j + 1) i j) := HI.out.many (by rw [hmap]; simp [part])
          clear HI hmap
          go_wp2
          go_roundw
          case rel => exact ⟨i, j + 1, i, j, rfl, by go_num, rfl, rfl, HI2, hi, by omega, Nat.le_refl _, by omega, by omega, hbel⟩
          case measure => have := meas_many (L := t.length) hbi hjl; simpa [intOf] using this
        | false =>
          have hnm : part (false, a, c) ≠ -1 := by rw [ne_eq, part_many hpn]; simp
          by_cases hmt : a = true ∨ c = tc0
          · have HI2 : Hid (Inv t (ps.map part) (i + 1) (j + 1) bi bj) := HI.out.one hmap hnm htg ((part_one hpn hti).2 hmt)
            clear HI hmap
            cases a with
            | true =>
              go_wp2
              go_quiet (fail)
              go_wp2
              go_roundw
              case rel => exact ⟨i + 1, j + 1, bi, bj, by go_num, by go_num, rfl, rfl, HI2, by omega, by omega, by omega, hbj, hbk, below_drewN hbel _⟩
              case measure => simp [intOf]; omega
            | false =>
              have hct : (c == tc0) = true := by simpa using hmt
              clear hmt
              go_wp2
              go_quiet (fail)
              go_wp2
              go_roundw
              case rel => exact ⟨i + 1, j + 1, bi, bj, by go_num, by go_num, rfl, rfl, HI2, by omega, by omega, by omega, hbj, hbk, below_drewN hbel _⟩
              case measure => simp [intOf]; omega
          · have hst : stuck t (ps.map part) i j := ⟨hlt, .inr ⟨_, tc0, hmap, hnm, htg, fun h => hmt ((part_one hpn hti).1 (.inl h)), fun h => hmt ((part_one hpn hti).1 (.inr h))⟩⟩
            have HST : Hid (stuck t (ps.map part) i j) := hst
            obtain ⟨ha, hc⟩ : a = false ∧ (c == tc0) = false := by simpa using hmt
            subst ha
            clear hst hmap hmt
            by_cases hb0 : 0 ≤ bj
            · obtain ⟨b, rfl⟩ : ∃ b : Nat, bj = b := ⟨bj.toNat, by omega⟩
              obtain ⟨i1, i2, i3⟩ := HI.out.back HST.out
              have HI2 : Hid (Inv t (ps.map part) (bi + 1) (b + 1) (bi + 1) b) := i1
              simp at i3
              clear i1 HI HST
              go_wp2
              go_quiet (fail)
              go_wp2
              go_roundw
              case rel => exact ⟨bi + 1, b + 1, bi + 1, b, by go_num, by go_num, by go_num, rfl, HI2, by omega, by omega, Nat.le_refl _, by omega, by omega, below_drewN hbel _⟩
              case measure => have := meas_back (L := t.length) (P := ps.length) (j := j) (bi := bi) (b := b) (by omega); simpa [intOf] using this
            · have HF : Hid (¬ Mt (ps.map part) t) := HI.out.fail HST.out (by omega)
              clear HI HST
              go_wp2
              go_quiet (fail)
              go_wp2
              go_ret
              exact ⟨by rw [decide_eq_false HF.out]; rfl, below_drewN hbel _⟩
      · have hjli : ¬ (j : Int) < ps.length := by omega
        have hjd : decide ((j : Int) < (ps.length : Int)) = false := by simpa using hjli
        have hst : stuck t (ps.map part) i j := ⟨hlt, .inl (by simp; omega)⟩
        have HST : Hid (stuck t (ps.map part) i j) := hst
        clear hst
        by_cases hb0 : 0 ≤ bj
        · obtain ⟨b, rfl⟩ : ∃ b : Nat, bj = b := ⟨bj.toNat, by omega⟩
          obtain ⟨i1, i2, i3⟩ := HI.out.back HST.out
          have HI2 : Hid (Inv t (ps.map part) (bi + 1) (b + 1) (bi + 1) b) := i1
          simp at i3
          clear i1 HI HST
          go_wp2
          go_quiet (fail)
          go_wp2
          go_roundw
          case rel => exact ⟨bi + 1, b + 1, bi + 1, b, by go_num, by go_num, by go_num, rfl, HI2, by omega, by omega, Nat.le_refl _, by omega, by omega, below_drewN hbel _⟩
          case measure => have := meas_back (L := t.length) (P := ps.length) (j := j) (bi := bi) (b := b) (by omega); simpa [intOf] using this
        · have HF : Hid (¬ Mt (ps.map part) t) := HI.out.fail HST.out (by omega)
          clear HI HST
          go_wp2
          go_quiet (fail)
          go_wp2
          go_ret
          exact ⟨by rw [decide_eq_false HF.out]; rfl, below_drewN hbel _⟩
    · have hlti : ¬ (i : Int) < t.length := by omega
      have HF : Hid (Mt (ps.map part) t ↔ A t (ps.map part) t.length j) := HI.out.fin hlt
      clear HI
      go_wp2
      go_loopw [6] (fun vj wr => ∃ j : Nat, vj = .int .i64 j ∧ j ≤ ps.length ∧ Hid (Mt (ps.map part) t ↔ A t (ps.map part) t.length j) ∧ Below w.heap.size w wr) (fun vj _ => ps.length - (intOf vj).toNat)
      case atStart => exact ⟨j, rfl, hj, HF, hbel⟩
      case round =>
        clear hbel HF hj
        obtain ⟨j, rfl, hj, HF, hbel⟩ := hrel
        by_cases hjl : j < ps.length
        · have hjli : (j : Int) < ps.length := by omega
          obtain ⟨gp, rfl, hgp, p0, p1, p2⟩ := HP'.out j hjl
          have hpn : 0 ≤ ps[j].2.2 := HQ.out _ (List.getElem_mem hjl)
          have hmap : (ps.map part)[j]? = some (part ps[j]) := by simp [hjl]
          obtain ⟨x, hx⟩ : ∃ x, ps[j] = x := ⟨_, rfl⟩
          rw [hx] at p0 hpn hmap
          clear hx p1 p2
          obtain ⟨m, a, c⟩ := x
          simp only at p0 hpn
          have r0 : wr.cell? ⟨gp, j * 3, none⟩ = some (.bool m) := (hbel.cell (p := ⟨gp, j * 3, none⟩) hgp).trans p0
          clear p0
          cases m with
          | true =>
            have HF2 : Hid (Mt (ps.map part) t ↔ A t (ps.map part) t.length (j + 1)) := HF.out.trans (tail_many (by rw [hmap]; simp [part]))
            clear HF hmap
            go_wp2
            go_roundw
            case rel => exact ⟨j + 1, by go_num, by omega, HF2, hbel⟩
            case measure => simp [intOf]; omega
          | false =>
            have HF2 : Hid (¬ Mt (ps.map part) t) := fun h => tail_stop hmap (by rw [ne_eq, part_many hpn]; simp) (HF.out.1 h)
            have hje : ((j : Int) == (ps.length : Int)) = false := by simp; omega
            clear HF hmap
            go_wp2
            go_ret
            exact ⟨by rw [decide_eq_false HF2.out]; simp [hje], hbel⟩
        · have hjli : ¬ (j : Int) < ps.length := by omega
          obtain rfl : j = ps.length := by omega
          have HF2 : Hid (Mt (ps.map part) t) := HF.out.2 (by have := tail_end (t := t) (ps := ps.map part); simpa using this)
          clear HF
          go_wp2
          go_ret
          exact ⟨by rw [decide_eq_true HF2.out]; simp, hbel⟩
end Lk
end Go.Proofs.YtcgnkcehjcednaaDoor
