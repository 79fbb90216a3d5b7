import Derived.Test.YtfgjleifhjegkaaDoorMF
import Derived.Test.YtfgjleifhjegkaaDoorKB
import Derived.Deep.RegionHeld
namespace Go.Proofs.YtfgjleifhjegkaaDoor
open Go.ChangeShapes Go.WideShapes Go.ChangeAt Go.RowKit
set_option linter.unusedVariables false
set_option linter.unusedSimpArgs false
set_option maxRecDepth 100000
theorem YRow.rsw {ty b g : Nat} {w : World} {xs : List Int} (h : YRow ty b w g xs) : RSW 1 CY b w (.slice (some ⟨g, 0, none⟩) xs.length xs.length) xs := YOut.rsw (ty := ty) h
theorem set_at {xs : List Int} {k : Nat} (h : k < xs.length) : (xs.take k ++ List.replicate (xs.length - k) 0).set k xs[k] = xs.take (k + 1) ++ List.replicate (xs.length - (k + 1)) 0 := by
  have e : List.replicate (xs.length - k) (0 : Int) = 0 :: List.replicate (xs.length - (k + 1)) 0 := by
    rw [show xs.length - k = (xs.length - (k + 1)) + 1 by omega, List.replicate_succ]
  rw [e, List.set_append_right (h := by rw [List.length_take]; omega)]
  rw [List.length_take, Nat.min_eq_left (by omega), Nat.sub_self, List.set_cons_zero, List.take_add_one, List.getElem?_eq_getElem h, List.append_assoc]
  rfl
set_option maxHeartbeats 4000000 in
theorem toByteS_w (a : Option Addr) (ca : Nat) (xs : List Int) (w : World) (hn : xs.length ≤ 1048576) (hv : RS 1 CY 0 w (.slice a xs.length ca) xs) :
    Calls Tryd.prog 20 #[.slice a xs.length ca] w fun e w' => e = .returned (.slice (some ⟨w.heap.size, 0, none⟩) xs.length xs.length) ∧ YRow 5 w.heap.size w' w.heap.size xs ∧ Below w.heap.size w w' := by
  obtain ⟨i0, hi, hz0, hz1, hz2⟩ := info_parts infoU8
  obtain ⟨a', ca', he, hva⟩ := hv
  simp only [Value.slice.injEq] at he
  obtain ⟨rfl, _, rfl⟩ := he
  go_enter Tryd.func20, Tryd.ntmps20
  go_wp2_with (refine wpList_make_full _ rfl (.tmp 6) (.tmp 6) 24 rfl w.heap.size 5 i0 _ 1 Tryd.underlying24 hi hz0 hz1 .i64 .i64 xs.length xs.length xs.length rfl rfl rfl rfl (by rw [hz2]; omega) (by unfold maxLen; omega) (Nat.le_refl _) ?_; intro w1 hown hgrow)
  have hb1 : Below w.heap.size w w1 := (Below.refl _ _).grown hgrow (Nat.le_refl _) (fun k hk => by simp at hk)
  have R0 : Hid (YRow 5 w.heap.size w1 w.heap.size (List.replicate xs.length 0)) := rowY (xs := List.replicate xs.length (Value.int .u8 0)) (by simpa [toList_madeCells_one, Value.cells] using hown) (by simp)
  clear hown hgrow
  go_wp2
  go_loopw [4] (fun iv wr => ∃ (k : Nat) (l : List Int), k ≤ xs.length ∧ iv = .int .i64 k ∧ l.length = xs.length ∧ Hid (l = xs.take k ++ List.replicate (xs.length - k) 0) ∧ Hid (YRow 5 w.heap.size wr w.heap.size l) ∧ Below w.heap.size w wr) (fun iv _ => xs.length - (intOf iv).toNat)
  case atStart => exact ⟨0, _, Nat.zero_le _, rfl, by simp, (by simp : List.replicate xs.length 0 = xs.take 0 ++ List.replicate (xs.length - 0) 0), R0, hb1⟩
  case round =>
    clear R0 hb1
    obtain ⟨k, l, hk, rfl, hl, HL, R, hb⟩ := hrel
    by_cases hlt : k < xs.length
    · have hlti : (k : Int) < xs.length := by omega
      obtain ⟨g, o, rfl, _, hg, hgc⟩ := hva (by omega)
      obtain ⟨cs, hC, hcell⟩ := hgc k hlt
      unfold CY at hC
      subst hC
      have c0 : wr.cell? ⟨g, o + k, none⟩ = some (.int .u8 xs[k]) := by
        have := hcell 0 (by omega)
        rw [Nat.mul_one, Nat.add_zero] at this
        exact (hb.cell (p := ⟨g, o + k, none⟩) hg).trans this
      have hkl : k < l.length := by omega
      have d0 := R.out.cell hkl
      have f0 := R.out.frozen k
      have R2 := hid (R.out.set k xs[k])
      have HL2 : Hid (l.set k xs[k] = xs.take (k + 1) ++ List.replicate (xs.length - (k + 1)) 0) := (by rw [HL.out]; exact set_at hlt : l.set k xs[k] = xs.take (k + 1) ++ List.replicate (xs.length - (k + 1)) 0)
      have hl2 : (l.set k xs[k]).length = xs.length := by rw [List.length_set]; exact hl
      have b2 := hb.setCell (show w.heap.size ≤ (⟨w.heap.size, k, none⟩ : Addr).block by simp) (.int .u8 xs[k])
      generalize hx : xs[k] = x at *
      generalize l[k] = x0 at d0
      obtain ⟨l2, hl2e⟩ : ∃ z, z = l.set k x := ⟨_, rfl⟩
      rw [← hl2e] at R2 HL2 hl2
      clear R HL hb hcell hgc hva hx hl2e hl
      have HL3 := hid hl2
      clear hl2
      go_wp2
      go_roundw
      case rel => exact ⟨k + 1, l2, by omega, by go_num, HL3.out, HL2, R2, b2⟩
      case measure => simp [intOf]; omega
    · have hlti : ¬ (k : Int) < xs.length := by omega
      have HE : Hid (YRow 5 w.heap.size wr w.heap.size xs) := (by
        have e := HL.out
        rw [show xs.length - k = 0 by omega, List.replicate_zero, List.append_nil, List.take_of_length_le (by omega)] at e
        rw [← e]; exact R.out : YRow 5 w.heap.size wr w.heap.size xs)
      clear HL R hl
      go_wp2
      go_ret
      exact ⟨rfl, HE.out, hb⟩
/-- The cells that a slice of values leads to hold the marks. -/
def ToldV (w : World) (a : Option Addr) (n k : Nat) : Prop := 0 < n → ∃ b o, a = some ⟨b, o, none⟩ ∧ b < w.heap.size ∧ ∀ j, j < n → w.cell? ⟨b, o + j * 3, none⟩ = some (.int .i64 ((k + 3 * j : Nat) : Int)) ∧ w.cell? ⟨b, o + j * 3 + 1, none⟩ = some (.int .i64 ((k + 3 * j + 1 : Nat) : Int)) ∧ w.cell? ⟨b, o + j * 3 + 2, none⟩ = some (.string (mtx (k + 3 * j + 2)))
theorem ToldV.below {w w' : World} {a : Option Addr} {n k : Nat} (h : ToldV w a n k) (hb : Below w.heap.size w w') : ToldV w' a n k := fun hp => by
  obtain ⟨b, o, h1, h2, h3⟩ := h hp
  exact ⟨b, o, h1, Nat.lt_of_lt_of_le h2 hb.size, fun j hj => ⟨(hb.cell (p := ⟨b, o + j * 3, none⟩) h2).trans (h3 j hj).1, (hb.cell (p := ⟨b, o + j * 3 + 1, none⟩) h2).trans (h3 j hj).2.1, (hb.cell (p := ⟨b, o + j * 3 + 2, none⟩) h2).trans (h3 j hj).2.2⟩⟩
set_option maxHeartbeats 8000000 in
theorem heldV_told (a : Option Addr) (n cap k : Nat) (w : World) (hk : 0 < k) (hk2 : k + 3 * n ≤ 1152921504606846976) (hv : ToldV w a n k) :
    Calls Tryd.prog 22 #[.slice a n cap, .int .i64 (k : Int)] w fun e w' => e = .returned (.int .i64 ((k + 3 * n : Nat) : Int)) ∧ Below w.heap.size w w' := by
  go_enter Tryd.func22, Tryd.ntmps22
  go_wp2
  go_loopw [1, 5] (fun kv iv wr => ∃ i : Nat, i ≤ n ∧ kv = .int .i64 ((k + 3 * i : Nat) : Int) ∧ iv = .int .i64 i ∧ Below w.heap.size w wr) (fun _ iv _ => n - (intOf iv).toNat)
  case atStart => exact ⟨0, Nat.zero_le _, by simp, rfl, Below.refl _ _⟩
  case round =>
    obtain ⟨i, hin, rfl, rfl, hb⟩ := hrel
    have hbs := hb.size
    by_cases hlt : i < n
    · have hlti : (i : Int) < n := by omega
      obtain ⟨g, o, rfl, hg, hc⟩ := hv (by omega)
      have c0 : wr.cell? ⟨g, o + i * 3, none⟩ = some (.int .i64 ((k + 3 * i : Nat) : Int)) := (hb.cell (p := ⟨g, o + i * 3, none⟩) hg).trans (hc i hlt).1
      have c1 : wr.cell? ⟨g, o + i * 3 + 1, none⟩ = some (.int .i64 ((k + 3 * i + 1 : Nat) : Int)) := (hb.cell (p := ⟨g, o + i * 3 + 1, none⟩) hg).trans (hc i hlt).2.1
      have c2 : wr.cell? ⟨g, o + i * 3 + 2, none⟩ = some (.string (mtx (k + 3 * i + 2))) := (hb.cell (p := ⟨g, o + i * 3 + 2, none⟩) hg).trans (hc i hlt).2.2
      obtain ⟨K, hK⟩ : ∃ z, z = k + 3 * i := ⟨_, rfl⟩
      rw [← hK] at c0 c1 c2 ⊢
      have hmt := fun W => markText_any (K + 2) W (by omega) (by omega)
      have hw1 : IntKind.i64.wrap ((K : Int) + 1) = ((K + 1 : Nat) : Int) := by simp only [IntKind.wrap_i64, wrap64]; omega
      have hw2 : IntKind.i64.wrap (((K + 1 : Nat) : Int) + 1) = ((K + 2 : Nat) : Int) := by simp only [IntKind.wrap_i64, wrap64]; omega
      have hw3 : IntKind.i64.wrap (((K + 2 : Nat) : Int) + 1) = ((K + 3 : Nat) : Int) := by simp only [IntKind.wrap_i64, wrap64]; omega
      obtain ⟨K1, hK1⟩ : ∃ z : Int, ((K + 1 : Nat) : Int) = z := ⟨_, rfl⟩
      obtain ⟨K2, hK2⟩ : ∃ z : Int, ((K + 2 : Nat) : Int) = z := ⟨_, rfl⟩
      obtain ⟨K3, hK3⟩ : ∃ z : Int, ((K + 3 : Nat) : Int) = z := ⟨_, rfl⟩
      rw [hK1] at c1 hw1 hw2
      rw [hK2] at hw2 hw3 hmt
      rw [hK3] at hw3
      have HK3 : Hid (K3 = ((k + 3 * (i + 1) : Nat) : Int)) := (by rw [← hK3, hK]; congr 1 : K3 = ((k + 3 * (i + 1) : Nat) : Int))
      generalize mtx (K + 2) = tx at *
      clear hc hv hK hK1 hK2 hK3
      go_wp2
      go_region_held (fun W => W.cell? ⟨g, o + i * 3 + 2, none⟩ = some (.string tx)) (go_keep) ((go_at_call 35; refine (hmt _).mono ?_; rintro e w3 ⟨rfl, hb3⟩; replace hb3 := undrew hb3; have bw3 : Below w.heap.size w w3 := hb.trans (hb3.mono hbs); have y0 : w3.cell? ⟨g, o + i * 3 + 2, none⟩ = some (.string tx) := (hb3.cell (p := ⟨g, o + i * 3 + 2, none⟩) (by simp; omega)).trans c2; clear hb3))
      all_goals
        go_wp2
        go_roundw
        case rel => exact ⟨i + 1, by omega, by first | (rw [HK3.out]; done) | (simp [HK3.out]; done), by go_num, bw3⟩
        case measure => simp [intOf]; omega
    · have hie : i = n := by omega
      subst hie
      have hlti : ¬ (i : Int) < i := by omega
      go_wp2
      go_ret
      exact ⟨rfl, hb⟩
end Go.Proofs.YtfgjleifhjegkaaDoor
namespace Go.Proofs.YtfgjleifhjegkaaDoor
open Go.ChangeShapes Go.WideShapes Go.ChangeAt Go.RowKit
set_option linter.unusedVariables false
set_option linter.unusedSimpArgs false
set_option maxRecDepth 100000
theorem RSW.keptV {B : Nat} {w w' : World} {v : Value} {us : List VA} (h : RSW 3 CV B w v us) (hs : w.heap.size ≤ w'.heap.size) (hh : ∀ b, B ≤ b → b < w.heap.size → w'.heap[b]? = w.heap[b]?) : RSW 3 CV B w' v us := by
  obtain ⟨a, cap, rfl, h2⟩ := h
  refine ⟨a, cap, rfl, fun hp => ?_⟩
  obtain ⟨g, o, ha, hB, hg, hc⟩ := h2 hp
  refine ⟨g, o, ha, hB, by omega, fun i hi => ?_⟩
  obtain ⟨cs, x, y⟩ := hc i hi
  have hb := hh g hB hg
  exact ⟨cs, x, fun j hj => ⟨(World.cell?_of_block (a := ⟨g, o + i * 3 + j, none⟩) hb).trans (y j hj).1, (World.frozen?_of_block (a := ⟨g, o + i * 3 + j, none⟩) hb).trans (y j hj).2⟩⟩
theorem markValueS_none (a : Option Addr) (cap : Nat) (k : Int) (w : World) :
    Calls Tryd.prog 14 #[.slice a 0 cap, .int .i64 k] w fun e w' => e = .returned (.int .i64 k) ∧ w' = w := by
  go_enter Tryd.func14, Tryd.ntmps14
  go_wp2
  go_loopw [1, 5] (fun kv iv wr => kv = .int .i64 k ∧ iv = .int .i64 0 ∧ wr = w) (fun _ _ _ => 0)
  case atStart => exact ⟨rfl, rfl, rfl⟩
  case round =>
    obtain ⟨rfl, rfl, hww⟩ := hrel
    replace hww := hww.symm
    subst hww
    go_wp2
    go_ret
    exact ⟨rfl, rfl⟩
theorem markV_told (a : Option Addr) (cap B : Nat) (us : List VA) (w a0 : World) (B0 : Nat) (hn : us.length ≤ 1048576) (hb : Below B0 a0 w) (hB : B0 ≤ B) (hv : RSW 3 CV B w (.slice a us.length cap) us) :
    Calls Tryd.prog 14 #[.slice a us.length cap, .int .i64 1] w fun e w' => e = .returned (.int .i64 ((1 + 3 * us.length : Nat) : Int)) ∧ Below B0 a0 w' ∧ ToldV w' a us.length 1 := by
  rcases Nat.eq_zero_or_pos us.length with h0 | h0
  · rw [h0]
    refine (markValueS_none a cap 1 w).mono ?_
    rintro e w' ⟨rfl, rfl⟩
    exact ⟨by simp, hb, fun h => absurd h (Nat.lt_irrefl _)⟩
  · obtain ⟨a', cap', he, h2⟩ := hv
    simp only [Value.slice.injEq] at he
    obtain ⟨rfl, _, rfl⟩ := he
    obtain ⟨g, o, rfl, hgB, hg, hc⟩ := h2 h0
    refine (markVS_any g o us.length cap 1 w a0 B0 (by omega) (by omega) hb (by omega) hg (fun j hj => ?_)).mono ?_
    · obtain ⟨cs, x, y⟩ := hc j hj
      unfold CV at x
      subst x
      have y0 := y 0 (by omega)
      have y1 := y 1 (by omega)
      have y2 := y 2 (by omega)
      rw [Nat.add_zero] at y0
      exact ⟨⟨_, y0.1⟩, ⟨_, y1.1⟩, ⟨_, y2.1⟩, y0.2, y1.2, y2.2⟩
    · rintro e w' ⟨rfl, hb', hm⟩
      exact ⟨rfl, hb', fun _ => ⟨g, o, rfl, Nat.lt_of_lt_of_le hg hm.size, hm.told⟩⟩
/-- Marking a row of bytes that was made: its block alone is written. -/
theorem markY_row (g cap : Nat) (xs : List Int) (w5 w a0 : World) (ty B0 B : Nat) (hn : xs.length ≤ 1048576) (hrow : YRow ty B w5 g xs) (hold : Below w5.heap.size w5 w) (hb : Below B0 a0 w) (hB : B0 ≤ g) :
    Calls Tryd.prog 15 #[.slice (some ⟨g, 0, none⟩) xs.length cap, .int .i64 1] w fun e w' => e = .returned (.int .i64 ((1 + xs.length : Nat) : Int)) ∧ Below B0 a0 w' ∧ w.heap.size ≤ w'.heap.size ∧ ∀ b, b < w.heap.size → b ≠ g → w'.heap[b]? = w.heap[b]? := by
  have hr := RowOf.below hrow hold
  refine (markByteS_any g 0 xs.length cap 1 w a0 B0 (by omega) hb hB (fun j hj => ?_)).mono ?_
  · rw [Nat.zero_add]
    exact ⟨⟨_, hr.cell hj⟩, hr.frozen j⟩
  · rintro e w' ⟨rfl, hb', hm⟩
    exact ⟨rfl, hb', Nat.le_of_eq hm.size.symm, fun b _ hn => hm.block b hn⟩
end Go.Proofs.YtfgjleifhjegkaaDoor
