import Derived.Test.YtcgnkcehjcednaaDoorZ1
import Derived.Test.YtcgnkcehjcednaaDoorN9
import Derived.Test.YtcgnkcehjcednaaDoorN10
import Derived.Test.YtcgnkcehjcednaaDoorX1
import Derived.Test.YtcgnkcehjcednaaDoorN11
namespace Go.Proofs.YtcgnkcehjcednaaDoor
open Go.ChangeShapes Go.WideShapes Go.ChangeAt Go.RowKit Go.Shelf
set_option linter.unusedVariables false
set_option linter.unusedSimpArgs false
set_option maxRecDepth 100000
set_option maxHeartbeats 1000000 in
theorem szToken_no (k p : Int) (m : Nat) (x : ByteArray) (w : World) (hx : x.size ≤ maxLen) (hm2 : m ≤ 1048576) (h : m < x.size) :
    Calls Tryd.prog 61 #[.agg #[.int .i64 k, .string x, .int .i64 p], .int .i64 m] w fun e w' => e = .returned (.int .i64 (-1)) ∧ Below w.heap.size w w' := by
  unfold maxLen at hx
  have hlt : (m : Int) - (x.size : Int) < 0 := by omega
  go_enter Tryd.func61, Tryd.ntmps61
  go_wp2
  all_goals first | (exfalso; go_light; omega) | skip
  go_ret
  exact ⟨rfl, below_alloc _ _⟩
set_option maxHeartbeats 1000000 in
theorem szToken_yes (k p : Int) (m : Nat) (x : ByteArray) (w : World) (hm2 : m ≤ 1048576) (h : x.size ≤ m) :
    Calls Tryd.prog 61 #[.agg #[.int .i64 k, .string x, .int .i64 p], .int .i64 m] w fun e w' => e = .returned (.int .i64 ((m - x.size : Nat) : Int)) ∧ Below w.heap.size w w' := by
  have hlt : ¬ (m : Int) - (x.size : Int) < 0 := by omega
  go_enter Tryd.func61, Tryd.ntmps61
  go_wp2
  all_goals first | (exfalso; go_light; omega) | skip
  go_ret
  have e : ((m - x.size : Nat) : Int) = m - x.size := by omega
  rw [e]
  exact ⟨rfl, below_alloc _ _⟩
set_option maxHeartbeats 1000000 in
theorem toToken_any (k p : Int) (x : ByteArray) (w : World) :
    Calls Tryd.prog 64 #[.agg #[.int .i64 k, .string x, .int .i64 p]] w fun e w' => e = .returned (.agg #[.int .i64 k, .string x, .int .i64 p]) ∧ Below w.heap.size w w' := by
  go_enter Tryd.func64, Tryd.ntmps64
  go_wp2
  refine bodyPost_ret (v := .agg #[.int .i64 k, .string x, .int .i64 p]) (by simp [results, Tryd.results64, go_sem]) rfl ⟨rfl, ?_⟩
  go_light
  repeat (first | with_reducible exact Below.refl _ _ | refine Below.setCell ?_ (by simp) _ | refine Below.alloc ?_ (by simp; try omega) _)
/-- Tokens that a slice leads to, from anywhere in its block. -/
def RTO (w : World) (v : Value) (ts : List (Int × ByteArray × Int)) : Prop :=
  ∃ a cap, v = .slice a ts.length cap ∧ (0 < ts.length → ∃ g o, a = some ⟨g, o, none⟩ ∧ g < w.heap.size ∧ ∀ i (h : i < ts.length), w.cell? ⟨g, o + i * 3, none⟩ = some (.int .i64 ts[i].1) ∧ w.cell? ⟨g, o + i * 3 + 1, none⟩ = some (.string ts[i].2.1) ∧ w.cell? ⟨g, o + i * 3 + 2, none⟩ = some (.int .i64 ts[i].2.2))
theorem RTO.below {w w' : World} {v : Value} {ts : List (Int × ByteArray × Int)} (h : RTO w v ts) (hb : Below w.heap.size w w') : RTO w' v ts := by
  obtain ⟨a, cap, rfl, h2⟩ := h
  refine ⟨a, cap, rfl, fun hp => ?_⟩
  obtain ⟨g, o, ha, hg, hc⟩ := h2 hp
  refine ⟨g, o, ha, Nat.lt_of_lt_of_le hg hb.size, fun i hi => ?_⟩
  have h3 := hc i hi
  exact ⟨(hb.cell (p := ⟨g, o + i * 3, none⟩) hg).trans h3.1, (hb.cell (p := ⟨g, o + i * 3 + 1, none⟩) hg).trans h3.2.1, (hb.cell (p := ⟨g, o + i * 3 + 2, none⟩) hg).trans h3.2.2⟩
/-- What the size's count may answer. -/
def Sz (us : List TV) (e : Ending) : Prop := e = .returned (.int .i64 (-1)) ∨ ∃ m : Nat, m ≤ 1048576 ∧ e = .returned (.int .i64 m) ∧ us.length ≤ 1048576 ∧ ∀ t ∈ us, t.2.1.size ≤ 1048576
set_option maxHeartbeats 1600000 in
theorem szTokenS_any (la : Option Addr) (lc : Nat) (us : List TV) (w : World) (hn : us.length ≤ maxLen) (hsz : ∀ t ∈ us, t.2.1.size ≤ maxLen) (hv : RTO w (.slice la us.length lc) us) :
    Calls Tryd.prog 25 #[.slice la us.length lc, .int .i64 1048576] w fun e w' => Sz us e ∧ Below w.heap.size w w' := by
  unfold maxLen at hn
  by_cases hbig : 1048576 < us.length
  · have hbi : (1048576 : Int) - us.length < 0 := by omega
    go_enter Tryd.func25, Tryd.ntmps25
    go_wp2
    all_goals first | (exfalso; go_light; omega) | skip
    go_ret
    exact ⟨.inl rfl, Below.refl _ _⟩
  · have hbi : ¬ (1048576 : Int) - us.length < 0 := by omega
    obtain ⟨a, cap, hsl, hcells⟩ := hv
    simp only [Value.slice.injEq] at hsl
    obtain ⟨rfl, _, rfl⟩ := hsl
    go_enter Tryd.func25, Tryd.ntmps25
    go_wp2
    all_goals first | (exfalso; go_light; omega) | skip
    go_loopw [1, 5] (fun r i wr => ∃ (k m : Nat), k ≤ us.length ∧ m ≤ 1048576 ∧ r = .int .i64 m ∧ i = .int .i64 k ∧ Hid (∀ t ∈ us.take k, t.2.1.size ≤ 1048576) ∧ Below w.heap.size w wr) (fun _ i _ => us.length - (intOf i).toNat)
    case atStart => exact ⟨0, 1048576 - us.length, Nat.zero_le _, by omega, by go_num, rfl, fun t h => by simp at h, Below.refl _ _⟩
    case round =>
      obtain ⟨k, m, hk, hm, rfl, rfl, HO, hbel⟩ := hrel
      have hbs := hbel.size
      by_cases hlt : k < us.length
      · have hlti : (k : Int) < us.length := by omega
        obtain ⟨g, o, rfl, hg, hgc⟩ := hcells (by omega)
        obtain ⟨a0, a1, a2⟩ := hgc k hlt
        have c0 := (hbel.cell (p := ⟨g, o + k * 3, none⟩) hg).trans a0
        have c1 := (hbel.cell (p := ⟨g, o + k * 3 + 1, none⟩) hg).trans a1
        have c2 := (hbel.cell (p := ⟨g, o + k * 3 + 2, none⟩) hg).trans a2
        have hin : us[k] ∈ us := List.getElem_mem hlt
        have hsx := hsz us[k] hin
        have htk : us.take (k + 1) = us.take k ++ [us[k]] := by rw [List.take_add_one, List.getElem?_eq_getElem hlt]; rfl
        have HYES : us[k].2.1.size ≤ m → Hid (∀ t ∈ us.take (k + 1), t.2.1.size ≤ 1048576) := fun z t ht => by
          rw [htk] at ht
          rcases List.mem_append.1 ht with h | h
          · exact HO.out t h
          · rw [List.mem_singleton] at h; rw [h]; omega
        clear a0 a1 a2 hgc hin
        obtain ⟨t, htt⟩ : ∃ t, us[k] = t := ⟨_, rfl⟩
        rw [htt] at c0 c1 c2 hsx HYES
        clear htt htk
        obtain ⟨tk, tx, tp⟩ := t
        simp only at c0 c1 c2 hsx HYES
        by_cases hb : m < tx.size
        · have hcn := fun w => szToken_no tk tp m tx w hsx hm hb
          clear HYES
          go_wp2_with (go_at_call 61; refine (hcn _).mono ?_; rintro e w1 ⟨rfl, hb1⟩)
          go_ret
          exact ⟨.inl rfl, hbel.trans (hb1.mono hbs)⟩
        · have hcn := fun w => szToken_yes tk tp m tx w hm (by omega)
          have HY := HYES (by omega)
          obtain ⟨m', hm'⟩ : ∃ m', m' = m - tx.size := ⟨_, rfl⟩
          rw [← hm'] at hcn
          have hm1 : m' ≤ 1048576 := by omega
          have hm0 : ¬ (m' : Int) < 0 := by omega
          clear HYES hm'
          go_wp2_with (go_at_call 61; refine (hcn _).mono ?_; rintro e w1 ⟨rfl, hb1⟩)
          go_roundw
          case rel => exact ⟨k + 1, m', by omega, hm1, rfl, by go_num, HY, hbel.trans (hb1.mono hbs)⟩
          case measure => simp [intOf]; omega
      · have hkn : k = us.length := by omega
        subst hkn
        rw [List.take_length] at HO
        have hlti : ¬ (us.length : Int) < us.length := by omega
        have HS : Hid (Sz us (.returned (.int .i64 m))) := .inr ⟨m, hm, rfl, by omega, HO.out⟩
        clear HO
        go_wp2
        go_ret
        exact ⟨HS.out, hbel⟩
end Go.Proofs.YtcgnkcehjcednaaDoor
namespace Go.Proofs.YtcgnkcehjcednaaDoor
open Go.ChangeShapes Go.WideShapes Go.ChangeAt Go.RowKit Go.Shelf
set_option linter.unusedVariables false
set_option linter.unusedSimpArgs false
set_option maxRecDepth 100000
/-- A row that is filled up to k. -/
def FillT (us : List TV) (k : Nat) (xs : List Value) : Prop := xs.length = us.length * 3 ∧ ∀ i (h : i < us.length), i < k → xs[i * 3]? = some (.int .i64 us[i].1) ∧ xs[i * 3 + 1]? = some (.string us[i].2.1) ∧ xs[i * 3 + 2]? = some (.int .i64 us[i].2.2)
theorem FillT.step {us : List TV} {k : Nat} {xs : List Value} (h : FillT us k xs) (hk : k < us.length) : FillT us (k + 1) (((xs.set (k * 3) (.int .i64 us[k].1)).set (k * 3 + 1) (.string us[k].2.1)).set (k * 3 + 2) (.int .i64 us[k].2.2)) := by
  obtain ⟨h1, h2⟩ := h
  refine ⟨by simpa using h1, fun i hi hik => ?_⟩
  by_cases e : i = k
  · subst e
    refine ⟨?_, ?_, ?_⟩ <;> simp only [List.getElem?_set, List.length_set] <;> simp <;> omega
  · obtain ⟨a, b, c⟩ := h2 i hi (by omega)
    refine ⟨?_, ?_, ?_⟩ <;> simp only [List.getElem?_set, List.length_set]
    · rw [if_neg (by omega), if_neg (by omega), if_neg (by omega)]; exact a
    · rw [if_neg (by omega), if_neg (by omega), if_neg (by omega)]; exact b
    · rw [if_neg (by omega), if_neg (by omega), if_neg (by omega)]; exact c
theorem own_cell {w : World} {b e s g n c : Nat} {xs : List Value} {u : Value} {j : Nat} (h : w.ownsRow b e s (.slice (some ⟨g, 0, none⟩) n c) n xs) (hj : xs[j]? = some u) : w.cell? ⟨g, j, none⟩ = some u := by
  have := h.cells rfl j u hj
  by_cases hz : j = 0
  · subst hz; simpa [Addr.add] using this
  · simpa [Addr.add, hz] using this
set_option maxHeartbeats 1600000 in
theorem toTokenS_any (la : Option Addr) (lc : Nat) (us : List TV) (w : World) (hn : us.length ≤ 1048576) (hv : RTO w (.slice la us.length lc) us) :
    Calls Tryd.prog 27 #[.slice la us.length lc] w fun e w' => e = .returned (.slice (some ⟨w.heap.size, 0, none⟩) us.length us.length) ∧ RT w' (.slice (some ⟨w.heap.size, 0, none⟩) us.length us.length) us ∧ Below w.heap.size w w' := by
  obtain ⟨i0, hi, hz0, hz1, hz2⟩ := info_parts info47
  obtain ⟨a, cap, hsl, hcells⟩ := hv
  simp only [Value.slice.injEq] at hsl
  obtain ⟨rfl, _, rfl⟩ := hsl
  go_enter Tryd.func27, Tryd.ntmps27
  go_wp2_with (refine wpList_make_full _ rfl (.tmp 6) (.tmp 6) 33 rfl w.heap.size 47 i0 _ 3 Tryd.underlying33 hi hz0 hz1 .i64 .i64 us.length us.length us.length rfl rfl rfl rfl (by rw [hz2]; omega) (by unfold maxLen; omega) (Nat.le_refl _) ?_; intro w1 hown hgrow)
  have HB : Hid (Below w.heap.size w w1) := (Below.refl _ _).grown hgrow (Nat.le_refl _) (fun k hk => by simp at hk)
  have hb := HB.out
  have hw1 := hb.size
  go_loopw [4] (fun i wr => ∃ (k : Nat) (xs : List Value), k ≤ us.length ∧ i = .int .i64 k ∧ Hid (FillT us k xs) ∧ wr.ownsRow w.heap.size 47 3 (.slice (some ⟨w.heap.size, 0, none⟩) us.length us.length) us.length xs ∧ Below w.heap.size w wr) (fun i _ => us.length - (intOf i).toNat)
  case atStart => exact ⟨0, _, Nat.zero_le _, rfl, ⟨by simp [size_madeCells], fun i _ h => absurd h (Nat.not_lt_zero _)⟩, hown, hb⟩
  case round =>
    obtain ⟨k, xs, hk, rfl, HF, ho, hbel⟩ := hrel
    have hbs := hbel.size
    by_cases hlt : k < us.length
    · have hlti : (k : Int) < us.length := by omega
      obtain ⟨g, o, rfl, hg, hgc⟩ := hcells (by omega)
      obtain ⟨a0, a1, a2⟩ := hgc k hlt
      have c0 := (hbel.cell (p := ⟨g, o + k * 3, none⟩) hg).trans a0
      have c1 := (hbel.cell (p := ⟨g, o + k * 3 + 1, none⟩) hg).trans a1
      have c2 := (hbel.cell (p := ⟨g, o + k * 3 + 2, none⟩) hg).trans a2
      have HS : Hid (FillT us (k + 1) _) := HF.out.step hlt
      clear a0 a1 a2 hgc
      obtain ⟨t, htt⟩ : ∃ t, us[k] = t := ⟨_, rfl⟩
      rw [htt] at c0 c1 c2 HS
      clear htt
      obtain ⟨tk, tx, tp⟩ := t
      simp only at c0 c1 c2 HS
      have hxl := HF.out.1
      obtain ⟨y0, hy0⟩ : ∃ u, xs[k * 3]? = some u := ⟨_, List.getElem?_eq_getElem (by omega)⟩
      obtain ⟨y1, hy1⟩ : ∃ u, xs[k * 3 + 1]? = some u := ⟨_, List.getElem?_eq_getElem (by omega)⟩
      obtain ⟨y2, hy2⟩ : ∃ u, xs[k * 3 + 2]? = some u := ⟨_, List.getElem?_eq_getElem (by omega)⟩
      clear hcells HF hxl
      go_wp2_with (go_at_call 64; refine (toToken_any _ _ _ _).mono ?_; rintro e w2 ⟨rfl, hb1⟩; have ho1 := own_below ho hb1; have bw1 : Below w.heap.size w w2 := hbel.trans (hb1.mono hbs); have e0 := own_cell ho1 hy0; have e1 := own_cell ho1 hy1; have e2 := own_cell ho1 hy2; have f0 := ho1.frozenAt (k * 3); have f1 := ho1.frozenAt (k * 3 + 1); have f2 := ho1.frozenAt (k * 3 + 2); clear hb1)
      have HO2 : Hid (World.ownsRow (((w2.setCell ⟨w.heap.size, k * 3, none⟩ (.int .i64 tk)).setCell ⟨w.heap.size, k * 3 + 1, none⟩ (.string tx)).setCell ⟨w.heap.size, k * 3 + 2, none⟩ (.int .i64 tp)) w.heap.size 47 3 (.slice (some ⟨w.heap.size, 0, none⟩) us.length us.length) us.length _) := (((ho1.stored (k * 3) (.int .i64 tk)).1.stored (k * 3 + 1) (.string tx)).1.stored (k * 3 + 2) (.int .i64 tp)).1
      go_roundw
      case rel => exact ⟨k + 1, _, by omega, by go_num, HS, HO2.out, ((bw1.setCell (Nat.le_refl _) _).setCell (Nat.le_refl _) _).setCell (Nat.le_refl _) _⟩
      case measure => simp [intOf]; omega
    · have hkn : k = us.length := by omega
      subst hkn
      have hlti : ¬ (us.length : Int) < us.length := by omega
      go_wp2
      go_ret
      refine ⟨rfl, ?_, hbel⟩
      refine ⟨_, _, rfl, fun hp => ⟨w.heap.size, rfl, (ho.lt _ rfl).2, fun i hi => ?_⟩⟩
      obtain ⟨q0, q1, q2⟩ := HF.out.2 i hi hi
      exact ⟨own_cell ho q0, own_cell ho q1, own_cell ho q2⟩
end Go.Proofs.YtcgnkcehjcednaaDoor
namespace Go.Proofs.YtcgnkcehjcednaaDoor
open Go.ChangeShapes Go.WideShapes Go.ChangeAt Go.RowKit Go.Shelf
set_option linter.unusedVariables false
set_option linter.unusedSimpArgs false
set_option maxRecDepth 100000
set_option maxHeartbeats 1600000 in
theorem eqTokenS_big (v u : Value) (ts : List (Int × ByteArray × Int)) (w : World) (hn : ts.length ≤ 1048576) (hv : RT w v ts) (hu : RT w u ts) :
    Calls Tryd.prog 22 #[v, u] w fun e w' => e = .returned (.bool true) ∧ Below w.heap.size w w' := by
  obtain ⟨a, ca, rfl, hva⟩ := hv
  obtain ⟨b, cb, rfl, hub⟩ := hu
  go_enter Tryd.func22, Tryd.ntmps22
  go_wp2
  go_loopw [5] (fun i wr => ∃ k : Nat, k ≤ ts.length ∧ i = .int .i64 k ∧ Below w.heap.size w wr) (fun i _ => ts.length - (intOf i).toNat)
  case atStart => exact ⟨0, Nat.zero_le _, rfl, Below.refl _ _⟩
  case round =>
    obtain ⟨k, hk, rfl, hbel⟩ := hrel
    have hbs := hbel.size
    by_cases hlt : k < ts.length
    · have hlti : (k : Int) < ts.length := by omega
      obtain ⟨g, rfl, hg, hgc⟩ := hva (by omega)
      obtain ⟨g2, rfl, hg2, hgc2⟩ := hub (by omega)
      obtain ⟨a0, a1, a2⟩ := hgc k hlt
      obtain ⟨b0, b1, b2⟩ := hgc2 k hlt
      have c0 := (hbel.cell (p := ⟨g, k * 3, none⟩) hg).trans a0
      have c1 := (hbel.cell (p := ⟨g, k * 3 + 1, none⟩) hg).trans a1
      have c2 := (hbel.cell (p := ⟨g, k * 3 + 2, none⟩) hg).trans a2
      have d0 := (hbel.cell (p := ⟨g2, k * 3, none⟩) hg2).trans b0
      have d1 := (hbel.cell (p := ⟨g2, k * 3 + 1, none⟩) hg2).trans b1
      have d2 := (hbel.cell (p := ⟨g2, k * 3 + 2, none⟩) hg2).trans b2
      clear hgc hgc2 a0 a1 a2 b0 b1 b2 hva hub
      generalize ts[k] = t at *
      obtain ⟨tk, tx, tp⟩ := t
      simp only at c0 c1 c2 d0 d1 d2
      go_wp2
      go_region_with (go_at_call 59; refine (eqToken_same _ _ _ _).mono ?_; rintro e w1 ⟨rfl, hb'⟩; replace hb' := undrew hb'; have bw1 : Below w.heap.size w w1 := hbel.trans (hb'.mono hbs))
      all_goals
        go_wp2
        go_roundw
        case rel => exact ⟨k + 1, by omega, by go_num, by first | exact bw1 | exact bw1.drew⟩
        case measure => simp [intOf]; omega
    · go_wp2
      go_ret
      exact ⟨rfl, hbel⟩
set_option maxHeartbeats 1600000 in
theorem unlex_walk (la : Option Addr) (lc : Nat) (us : List TV) (w : World) (hn : us.length ≤ maxLen) (hsz : ∀ t ∈ us, t.2.1.size ≤ maxLen) (hv : RTO w (.slice la us.length lc) us) (hT : Tabs w) (hM : ML w) :
    Calls Tryd.prog 7 #[.slice la us.length lc] w fun e w' => e = .returned (.bool true) ∧ Below w.heap.size w w' := by
  go_enter Tryd.func7, Tryd.ntmps7
  go_wp2_with (go_at_call 25; fail)
  refine (szTokenS_any la lc us _ hn hsz hv).mono ?_
  rintro e w1 ⟨rfl | ⟨m, hm, rfl, hn1, hs1⟩, hb1⟩
  · go_wp2
    go_ret
    exact ⟨rfl, hb1⟩
  · have hm0 : ¬ (m : Int) < 0 := by omega
    have hm1 : us.length ≤ maxLen := hn
    have hv1 := hv.below hb1
    go_wp2_with (go_at_call 27; fail)
    refine (toTokenS_any la lc us _ hn1 hv1).mono ?_
    rintro e w2 ⟨rfl, hr2, hb2⟩
    have bw2 : Below w.heap.size w w2 := hb1.trans (hb2.mono hb1.size)
    have hS := unlexS_any _ _ us w2 hn hs1 hr2
    have hI := fun a c w h t l => unlex_any a c us w hn hs1 h t l
    obtain ⟨S, hSe⟩ : ∃ S, (unlexR us).1 = S := ⟨_, rfl⟩
    obtain ⟨c, hce⟩ : ∃ c, (unlexR us).2 = c := ⟨_, rfl⟩
    rw [hSe, hce] at hS
    simp only [hSe, hce] at hI
    clear hSe hce
    go_wp2_with (go_at_call 26; fail)
    refine hS.mono ?_
    rintro e w3 ⟨rfl, hb3⟩
    have bw3 : Below w.heap.size w w3 := bw2.trans (hb3.mono bw2.size)
    go_wp2_with (go_at_call 27; fail)
    refine (toTokenS_any la lc us _ hn1 (hv.below bw3)).mono ?_
    rintro e w4 ⟨rfl, hr4, hb4⟩
    have bw4 : Below w.heap.size w w4 := bw3.trans (hb4.mono bw3.size)
    go_wp2_with (go_at_call 28; fail)
    refine (hI _ _ _ hr4 (tabs_below hT bw4) (hM.below bw4)).mono ?_
    rintro e w5 ⟨rfl, hb5⟩
    have bw5 : Below w.heap.size w w5 := bw4.trans (hb5.mono bw4.size)
    go_wp2_with (go_at_call 27; fail)
    refine (toTokenS_any la lc us _ hn1 (hv.below bw5)).mono ?_
    rintro e w6 ⟨rfl, hr6, hb6⟩
    have bw6 : Below w.heap.size w w6 := bw5.trans (hb6.mono bw5.size)
    have hr46 := (hr4.below hb5).below hb6
    go_wp2_with (go_at_call 22; fail)
    refine (eqTokenS_big _ _ us _ hn1 hr46 hr6).mono ?_
    rintro e w7 ⟨rfl, hb7⟩
    go_wp2
    go_ret
    exact ⟨rfl, bw6.trans (hb7.mono bw6.size)⟩
end Go.Proofs.YtcgnkcehjcednaaDoor
