import Derived.Test.YtcgnkcehjcednaaDoorY5
namespace Go.Proofs.YtcgnkcehjcednaaDoor
open Go.ChangeShapes Go.WideShapes Go.ChangeAt Go.RowKit Go.Shelf
set_option linter.unusedVariables false
set_option linter.unusedSimpArgs false
set_option maxRecDepth 100000
theorem undrew {W w' : World} (hb : Below W.drew.heap.size W.drew w') : Below W.heap.size W w' := (Below.refl W.heap.size W).drew.trans hb
/-- A mark's text. -/
def mkD (n : Nat) (acc : List UInt8) : List UInt8 := if h : n = 0 then acc else mkD (n / 10) (UInt8.ofNat (48 + n % 10) :: acc)
  termination_by n
  decreasing_by omega
theorem mkD_zero (acc : List UInt8) : mkD 0 acc = acc := by rw [mkD]; simp
theorem mkD_step (n : Nat) (acc : List UInt8) (h : 0 < n) : mkD n acc = mkD (n / 10) (UInt8.ofNat (48 + n % 10) :: acc) := by rw [mkD]; rw [dif_neg (by omega)]
def mkT (n : Nat) : ByteArray := ⟨(109 :: mkD n []).toArray⟩
theorem conv_one (W : World) (x : UInt8) : (convert 44 9 (.slice (some ⟨W.heap.size, 0, none⟩) 1 1)).run Tryd.prog (W.alloc (.cells #[.int .u8 (x.toNat : Int)] 5)) = .ok (.string ⟨#[x]⟩) (W.alloc (.cells #[.int .u8 (x.toNat : Int)] 5)) := by
  have h := conv_own (W.alloc (.cells #[.int .u8 (x.toNat : Int)] 5)) W.heap.size (.slice (some ⟨W.heap.size, 0, none⟩) 1 1) [x] ⟨by simp [bcells], .inr ⟨W.heap.size, 1, #[.int .u8 (x.toNat : Int)], rfl, Nat.le_refl _, heap_alloc_new W _, by simp, by unfold maxLen; simp, by simp, by simp [bcells]⟩⟩
  exact h
set_option maxHeartbeats 1600000 in
theorem markText_any (m : Nat) (w : World) (h0 : 0 < m) (hm : m ≤ 100000) : Calls Tryd.prog 60 #[.int .i64 m] w fun e w' => e = .returned (.string (mkT m)) ∧ Below w.heap.size w w' := by
  have hmi : ¬ (m : Int) ≤ 0 := by omega
  go_enter Tryd.func60, Tryd.ntmps60
  go_wp2
  go_loopw [0, 3] (fun i v wr => ∃ (n : Nat) (acc : ByteArray), i = .int .i64 n ∧ n ≤ m ∧ v = .string acc ∧ acc.size + n ≤ 100000 ∧ Hid (mkD n acc.data.toList = mkD m []) ∧ Below w.heap.size w wr) (fun i _ _ => (intOf i).toNat)
  case atStart => exact ⟨m, ⟨#[]⟩, rfl, Nat.le_refl _, rfl, by simp [ByteArray.size]; omega, rfl, Below.refl _ _⟩
  case round =>
    obtain ⟨n, acc, rfl, hn, rfl, hac, HM, hbel⟩ := hrel
    by_cases hp : 0 < n
    · have hpi : (0 : Int) < n := by omega
      have HS := mkD_step n acc.data.toList hp
      have hx : ((UInt8.ofNat (48 + n % 10)).toNat : Int) = 48 + (n : Int) % 10 := by simp; omega
      have hcv := fun W => conv_one W (UInt8.ofNat (48 + n % 10))
      rw [hx] at hcv
      have HS2 : Hid (mkD (n / 10) ((⟨#[UInt8.ofNat (48 + n % 10)]⟩ : ByteArray) ++ acc).data.toList = mkD m []) := by
        show mkD (n / 10) ((⟨#[UInt8.ofNat (48 + n % 10)]⟩ : ByteArray) ++ acc).data.toList = mkD m []
        rw [ByteArray.data_append, Array.toList_append]
        show mkD (n / 10) (UInt8.ofNat (48 + n % 10) :: acc.data.toList) = mkD m []
        rw [← HS, HM.out]
      clear HS HM
      have hsz : ((⟨#[UInt8.ofNat (48 + n % 10)]⟩ : ByteArray)).size = 1 := rfl
      generalize (⟨#[UInt8.ofNat (48 + n % 10)]⟩ : ByteArray) = d at *
      go_wp2
      go_roundw
      case rel => exact ⟨n / 10, d ++ acc, by (first | go_num | (congr 1; omega) | simp), by omega, rfl, by rw [ByteArray.size_append]; omega, HS2.out, hbel.alloc hbel.size _⟩
      case measure => simp [intOf]; omega
    · have hn0 : n = 0 := by omega
      subst hn0
      have HE : Hid (acc.data.toList = mkD m []) := by have := HM.out; rw [mkD_zero] at this; exact this
      clear HM
      go_wp2
      go_ret
      refine ⟨ret_str (ba_ext ?_), hbel⟩
      rw [ByteArray.data_append, Array.toList_append, HE.out]; rfl
/-- Tokens that a slice leads to. -/
def RT (w : World) (v : Value) (ts : List (Int × ByteArray × Int)) : Prop :=
  ∃ a cap, v = .slice a ts.length cap ∧ (0 < ts.length → ∃ g, a = some ⟨g, 0, none⟩ ∧ g < w.heap.size ∧ ∀ i (h : i < ts.length), w.cell? ⟨g, i * 3, none⟩ = some (.int .i64 ts[i].1) ∧ w.cell? ⟨g, i * 3 + 1, none⟩ = some (.string ts[i].2.1) ∧ w.cell? ⟨g, i * 3 + 2, none⟩ = some (.int .i64 ts[i].2.2))
theorem RT.below {w w' : World} {v : Value} {ts : List (Int × ByteArray × Int)} (h : RT w v ts) (hb : Below w.heap.size w w') : RT w' v ts := by
  obtain ⟨a, cap, rfl, h2⟩ := h
  refine ⟨a, cap, rfl, fun hp => ?_⟩
  obtain ⟨g, ha, hg, hc⟩ := h2 hp
  refine ⟨g, ha, Nat.lt_of_lt_of_le hg hb.size, fun i hi => ?_⟩
  have h3 := hc i hi
  exact ⟨(hb.cell (p := ⟨g, i * 3, none⟩) hg).trans h3.1, (hb.cell (p := ⟨g, i * 3 + 1, none⟩) hg).trans h3.2.1, (hb.cell (p := ⟨g, i * 3 + 2, none⟩) hg).trans h3.2.2⟩
def tvs (l : List (Int × ByteArray × Int)) : List Value := l.flatMap fun t => [.int .i64 t.1, .string t.2.1, .int .i64 t.2.2]
theorem tvs_len (l : List (Int × ByteArray × Int)) : (tvs l).length = l.length * 3 := by
  induction l with
  | nil => rfl
  | cons t l ih => simp [tvs] at ih ⊢; omega
theorem tvs_get : ∀ (l : List (Int × ByteArray × Int)) (i : Nat) (h : i < l.length), (tvs l)[i * 3]? = some (.int .i64 l[i].1) ∧ (tvs l)[i * 3 + 1]? = some (.string l[i].2.1) ∧ (tvs l)[i * 3 + 2]? = some (.int .i64 l[i].2.2)
  | [], i, h => by simp at h
  | t :: l, 0, h => by simp [tvs]
  | t :: l, i + 1, h => by
    have ih := tvs_get l i (by simpa using h)
    have e : tvs (t :: l) = [.int .i64 t.1, .string t.2.1, .int .i64 t.2.2] ++ tvs l := by simp [tvs]
    have hs : ∀ k, (tvs (t :: l))[k + 3]? = (tvs l)[k]? := fun k => by rw [e, List.getElem?_append_right (by simp)]; simp
    refine ⟨?_, ?_, ?_⟩
    · rw [show (i + 1) * 3 = i * 3 + 3 by omega, hs]; exact ih.1
    · rw [show (i + 1) * 3 + 1 = i * 3 + 1 + 3 by omega, hs]; exact ih.2.1
    · rw [show (i + 1) * 3 + 2 = i * 3 + 2 + 3 by omega, hs]; exact ih.2.2
theorem RT.of_owns {w : World} {b : Nat} {v : Value} {ts : List (Int × ByteArray × Int)} (h : w.ownsRow b 47 3 v ts.length (tvs ts)) : RT w v ts := by
  have hl := h.lt
  rcases h.2 with ⟨rfl, h0⟩ | ⟨g, cap, cur, rfl, hg1, hg2, hg3⟩
  · exact ⟨none, 0, by rw [h0], fun hp => by omega⟩
  · refine ⟨_, _, rfl, fun hp => ⟨g, rfl, (hl g rfl).2, fun i hi => ?_⟩⟩
    have t := tvs_get ts i hi
    exact ⟨(h.cellAt (i * 3) (by omega)).trans t.1, (h.cellAt (i * 3 + 1) (by omega)).trans t.2.1, (h.cellAt (i * 3 + 2) (by omega)).trans t.2.2⟩
def tv (l : List Tok) : List (Int × ByteArray × Int) := l.map fun t => (t.1, ⟨t.2.1.toArray⟩, (t.2.2 : Int))
theorem tcells_tv (l : List Tok) : tcells l = tvs (tv l) := by simp [tcells, tvs, tv, List.flatMap_map]
theorem tv_len (l : List Tok) : (tv l).length = l.length := by simp [tv]
set_option maxHeartbeats 400000 in
theorem eqToken_same (k p : Int) (x : ByteArray) (w : World) : Calls Tryd.prog 59 #[.agg #[.int .i64 k, .string x, .int .i64 p], .agg #[.int .i64 k, .string x, .int .i64 p]] w fun e w' => e = .returned (.bool true) ∧ Below w.heap.size w w' := by
  go_enter Tryd.func59, Tryd.ntmps59
  go_wp2
  go_ret
  exact ⟨rfl, ((Below.refl _ _).alloc (Nat.le_refl _) _).alloc (by simp) _⟩
set_option maxHeartbeats 1600000 in
theorem eqTokenS_same (v u : Value) (ts : List (Int × ByteArray × Int)) (w : World) (hn : ts.length ≤ 2000) (hv : RT w v ts) (hu : RT w u ts) :
    Calls Tryd.prog 22 #[v, u] w fun e w' => e = .returned (.bool true) ∧ Below w.heap.size w w' := by
  obtain ⟨a, ca, rfl, hva⟩ := hv
  obtain ⟨b, cb, rfl, hub⟩ := hu
  go_enter Tryd.func22, Tryd.ntmps22
  go_wp2
  go_loopw [5] (fun i wr => ∃ k : Nat, k ≤ ts.length ∧ i = .int .i64 k ∧ Below w.heap.size w wr) (fun i _ => ts.length - (intOf i).toNat)
  case atStart => exact ⟨0, Nat.zero_le _, rfl, Below.refl _ _⟩
  case round =>
    obtain ⟨k, hk, rfl, hbel⟩ := hrel
    have hbs := hbel.size
    by_cases hlt : k < ts.length
    · have hlti : (k : Int) < ts.length := by omega
      obtain ⟨g, rfl, hg, hgc⟩ := hva (by omega)
      obtain ⟨g2, rfl, hg2, hgc2⟩ := hub (by omega)
      obtain ⟨a0, a1, a2⟩ := hgc k hlt
      obtain ⟨b0, b1, b2⟩ := hgc2 k hlt
      have c0 := (hbel.cell (p := ⟨g, k * 3, none⟩) hg).trans a0
      have c1 := (hbel.cell (p := ⟨g, k * 3 + 1, none⟩) hg).trans a1
      have c2 := (hbel.cell (p := ⟨g, k * 3 + 2, none⟩) hg).trans a2
      have d0 := (hbel.cell (p := ⟨g2, k * 3, none⟩) hg2).trans b0
      have d1 := (hbel.cell (p := ⟨g2, k * 3 + 1, none⟩) hg2).trans b1
      have d2 := (hbel.cell (p := ⟨g2, k * 3 + 2, none⟩) hg2).trans b2
      clear hgc hgc2 a0 a1 a2 b0 b1 b2 hva hub
      generalize ts[k] = t at *
      obtain ⟨tk, tx, tp⟩ := t
      simp only at c0 c1 c2 d0 d1 d2
      go_wp2
      go_region_with (go_at_call 59; refine (eqToken_same _ _ _ _).mono ?_; rintro e w1 ⟨rfl, hb'⟩; replace hb' := undrew hb'; have bw1 : Below w.heap.size w w1 := hbel.trans (hb'.mono hbs))
      all_goals
        go_wp2
        go_roundw
        case rel => exact ⟨k + 1, by omega, by go_num, by first | exact bw1 | exact bw1.drew⟩
        case measure => simp [intOf]; omega
    · go_wp2
      go_ret
      exact ⟨rfl, hbel⟩
end Go.Proofs.YtcgnkcehjcednaaDoor
