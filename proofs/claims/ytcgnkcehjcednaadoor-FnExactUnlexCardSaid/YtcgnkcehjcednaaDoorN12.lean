import Derived.Test.YtcgnkcehjcednaaDoorZ1
import Derived.Test.YtcgnkcehjcednaaDoorN9
import Derived.Test.YtcgnkcehjcednaaDoorN10
namespace Go.Proofs.YtcgnkcehjcednaaDoor
open Go.ChangeShapes Go.WideShapes Go.ChangeAt Go.RowKit Go.Shelf
set_option linter.unusedVariables false
set_option linter.unusedSimpArgs false
set_option maxRecDepth 100000
set_option maxHeartbeats 1000000 in
theorem szToken_no (k p : Int) (m : Nat) (x : ByteArray) (w : World) (hx : x.size ≤ maxLen) (hm2 : m ≤ 1048576) (h : m < x.size) :
    Calls Tryd.prog 61 #[.agg #[.int .i64 k, .string x, .int .i64 p], .int .i64 m] w fun e w' => e = .returned (.int .i64 (-1)) ∧ Below w.heap.size w w' := by
  unfold maxLen at hx
  have hlt : (m : Int) - (x.size : Int) < 0 := by omega
  go_enter Tryd.func61, Tryd.ntmps61
  go_wp2
  all_goals first | (exfalso; go_light; omega) | skip
  go_ret
  exact ⟨rfl, below_alloc _ _⟩
set_option maxHeartbeats 1000000 in
theorem szToken_yes (k p : Int) (m : Nat) (x : ByteArray) (w : World) (hm2 : m ≤ 1048576) (h : x.size ≤ m) :
    Calls Tryd.prog 61 #[.agg #[.int .i64 k, .string x, .int .i64 p], .int .i64 m] w fun e w' => e = .returned (.int .i64 ((m - x.size : Nat) : Int)) ∧ Below w.heap.size w w' := by
  have hlt : ¬ (m : Int) - (x.size : Int) < 0 := by omega
  go_enter Tryd.func61, Tryd.ntmps61
  go_wp2
  all_goals first | (exfalso; go_light; omega) | skip
  go_ret
  have e : ((m - x.size : Nat) : Int) = m - x.size := by omega
  rw [e]
  exact ⟨rfl, below_alloc _ _⟩
set_option maxHeartbeats 1000000 in
theorem toToken_any (k p : Int) (x : ByteArray) (w : World) :
    Calls Tryd.prog 64 #[.agg #[.int .i64 k, .string x, .int .i64 p]] w fun e w' => e = .returned (.agg #[.int .i64 k, .string x, .int .i64 p]) ∧ Below w.heap.size w w' := by
  go_enter Tryd.func64, Tryd.ntmps64
  go_wp2
  refine bodyPost_ret (v := .agg #[.int .i64 k, .string x, .int .i64 p]) (by simp [results, Tryd.results64, go_sem]) rfl ⟨rfl, ?_⟩
  go_light
  repeat (first | with_reducible exact Below.refl _ _ | refine Below.setCell ?_ (by simp) _ | refine Below.alloc ?_ (by simp; try omega) _)
/-- Tokens that a slice leads to, from anywhere in its block. -/
def RTO (w : World) (v : Value) (ts : List (Int × ByteArray × Int)) : Prop :=
  ∃ a cap, v = .slice a ts.length cap ∧ (0 < ts.length → ∃ g o, a = some ⟨g, o, none⟩ ∧ g < w.heap.size ∧ ∀ i (h : i < ts.length), w.cell? ⟨g, o + i * 3, none⟩ = some (.int .i64 ts[i].1) ∧ w.cell? ⟨g, o + i * 3 + 1, none⟩ = some (.string ts[i].2.1) ∧ w.cell? ⟨g, o + i * 3 + 2, none⟩ = some (.int .i64 ts[i].2.2))
theorem RTO.below {w w' : World} {v : Value} {ts : List (Int × ByteArray × Int)} (h : RTO w v ts) (hb : Below w.heap.size w w') : RTO w' v ts := by
  obtain ⟨a, cap, rfl, h2⟩ := h
  refine ⟨a, cap, rfl, fun hp => ?_⟩
  obtain ⟨g, o, ha, hg, hc⟩ := h2 hp
  refine ⟨g, o, ha, Nat.lt_of_lt_of_le hg hb.size, fun i hi => ?_⟩
  have h3 := hc i hi
  exact ⟨(hb.cell (p := ⟨g, o + i * 3, none⟩) hg).trans h3.1, (hb.cell (p := ⟨g, o + i * 3 + 1, none⟩) hg).trans h3.2.1, (hb.cell (p := ⟨g, o + i * 3 + 2, none⟩) hg).trans h3.2.2⟩
/-- What the size's count may answer. -/
def Sz (us : List TV) (e : Ending) : Prop := e = .returned (.int .i64 (-1)) ∨ ∃ m : Nat, m ≤ 1048576 ∧ e = .returned (.int .i64 m) ∧ us.length ≤ 1048576 ∧ ∀ t ∈ us, t.2.1.size ≤ 1048576
set_option maxHeartbeats 1600000 in
theorem szTokenS_any (la : Option Addr) (lc : Nat) (us : List TV) (w : World) (hn : us.length ≤ maxLen) (hsz : ∀ t ∈ us, t.2.1.size ≤ maxLen) (hv : RTO w (.slice la us.length lc) us) :
    Calls Tryd.prog 25 #[.slice la us.length lc, .int .i64 1048576] w fun e w' => Sz us e ∧ Below w.heap.size w w' := by
  unfold maxLen at hn
  by_cases hbig : 1048576 < us.length
  · have hbi : (1048576 : Int) - us.length < 0 := by omega
    go_enter Tryd.func25, Tryd.ntmps25
    go_wp2
    all_goals first | (exfalso; go_light; omega) | skip
    go_ret
    exact ⟨.inl rfl, Below.refl _ _⟩
  · have hbi : ¬ (1048576 : Int) - us.length < 0 := by omega
    obtain ⟨a, cap, hsl, hcells⟩ := hv
    simp only [Value.slice.injEq] at hsl
    obtain ⟨rfl, _, rfl⟩ := hsl
    go_enter Tryd.func25, Tryd.ntmps25
    go_wp2
    all_goals first | (exfalso; go_light; omega) | skip
    go_loopw [1, 5] (fun r i wr => ∃ (k m : Nat), k ≤ us.length ∧ m ≤ 1048576 ∧ r = .int .i64 m ∧ i = .int .i64 k ∧ Hid (∀ t ∈ us.take k, t.2.1.size ≤ 1048576) ∧ Below w.heap.size w wr) (fun _ i _ => us.length - (intOf i).toNat)
    case atStart => exact ⟨0, 1048576 - us.length, Nat.zero_le _, by omega, by go_num, rfl, fun t h => by simp at h, Below.refl _ _⟩
    case round =>
      obtain ⟨k, m, hk, hm, rfl, rfl, HO, hbel⟩ := hrel
      have hbs := hbel.size
      by_cases hlt : k < us.length
      · have hlti : (k : Int) < us.length := by omega
        obtain ⟨g, o, rfl, hg, hgc⟩ := hcells (by omega)
        obtain ⟨a0, a1, a2⟩ := hgc k hlt
        have c0 := (hbel.cell (p := ⟨g, o + k * 3, none⟩) hg).trans a0
        have c1 := (hbel.cell (p := ⟨g, o + k * 3 + 1, none⟩) hg).trans a1
        have c2 := (hbel.cell (p := ⟨g, o + k * 3 + 2, none⟩) hg).trans a2
        have hin : us[k] ∈ us := List.getElem_mem hlt
        have hsx := hsz us[k] hin
        have htk : us.take (k + 1) = us.take k ++ [us[k]] := by rw [List.take_add_one, List.getElem?_eq_getElem hlt]; rfl
        have HYES : us[k].2.1.size ≤ m → Hid (∀ t ∈ us.take (k + 1), t.2.1.size ≤ 1048576) := fun z t ht => by
          rw [htk] at ht
          rcases List.mem_append.1 ht with h | h
          · exact HO.out t h
          · rw [List.mem_singleton] at h; rw [h]; omega
        clear a0 a1 a2 hgc hin
        obtain ⟨t, htt⟩ : ∃ t, us[k] = t := ⟨_, rfl⟩
        rw [htt] at c0 c1 c2 hsx HYES
        clear htt htk
        obtain ⟨tk, tx, tp⟩ := t
        simp only at c0 c1 c2 hsx HYES
        by_cases hb : m < tx.size
        · have hcn := fun w => szToken_no tk tp m tx w hsx hm hb
          clear HYES
          go_wp2_with (go_at_call 61; refine (hcn _).mono ?_; rintro e w1 ⟨rfl, hb1⟩)
          go_ret
          exact ⟨.inl rfl, hbel.trans (hb1.mono hbs)⟩
        · have hcn := fun w => szToken_yes tk tp m tx w hm (by omega)
          have HY := HYES (by omega)
          obtain ⟨m', hm'⟩ : ∃ m', m' = m - tx.size := ⟨_, rfl⟩
          rw [← hm'] at hcn
          have hm1 : m' ≤ 1048576 := by omega
          have hm0 : ¬ (m' : Int) < 0 := by omega
          clear HYES hm'
          go_wp2_with (go_at_call 61; refine (hcn _).mono ?_; rintro e w1 ⟨rfl, hb1⟩)
          go_roundw
          case rel => exact ⟨k + 1, m', by omega, hm1, rfl, by go_num, HY, hbel.trans (hb1.mono hbs)⟩
          case measure => simp [intOf]; omega
      · have hkn : k = us.length := by omega
        subst hkn
        rw [List.take_length] at HO
        have hlti : ¬ (us.length : Int) < us.length := by omega
        have HS : Hid (Sz us (.returned (.int .i64 m))) := .inr ⟨m, hm, rfl, by omega, HO.out⟩
        clear HO
        go_wp2
        go_ret
        exact ⟨HS.out, hbel⟩
end Go.Proofs.YtcgnkcehjcednaaDoor
