import Derived.Test.YtghdjagomdgnfaaDoorHAA
namespace Go.Proofs.YtghdjagomdgnfaaDoor
open Go.ChangeShapes Go.WideShapes Go.ChangeAt Go.RowKit
set_option linter.unusedVariables false
set_option linter.unusedSimpArgs false
set_option maxRecDepth 100000
theorem ret_b {a b : Bool} (h : a = b) : Ending.returned (.bool a) = .returned (.bool b) := by rw [h]
def isE (x : Int) : Bool := decide (1 ≤ x) && decide (x ≤ 17)
theorem isExpr_any (x : Int) (w : World) : Calls Tryd.prog 21 #[.int .i64 x] w fun e w' => e = .returned (.bool (isE x)) ∧ w' = w := by
  by_cases h1 : 1 ≤ x
  · by_cases h2 : x ≤ 17
    · go_enter Tryd.func21, Tryd.ntmps21
      go_wp2
      go_ret
      exact ⟨by simp [isE, h1, h2], rfl⟩
    · go_enter Tryd.func21, Tryd.ntmps21
      go_wp2
      go_ret
      exact ⟨by simp [isE, h1, h2], rfl⟩
  · go_enter Tryd.func21, Tryd.ntmps21
    go_wp2
    go_ret
    exact ⟨ret_b (by simp only [isE]; rw [decide_eq_false (show ¬ 1 ≤ x by omega)]; rfl), rfl⟩
def isSrc (x : Int) : Bool := x == 31 || x == 32 || x == 33
theorem isSource_any (x : Int) (w : World) : Calls Tryd.prog 48 #[.int .i64 x] w fun e w' => e = .returned (.bool (isSrc x)) ∧ w' = w := by
  cases h1 : (x == 31)
  · cases h2 : (x == 32)
    · go_enter Tryd.func48, Tryd.ntmps48
      go_wp2
      go_ret
      exact ⟨by simp [isSrc, h1, h2], rfl⟩
    · go_enter Tryd.func48, Tryd.ntmps48
      go_wp2
      go_ret
      exact ⟨by simp [isSrc, h1, h2], rfl⟩
  · go_enter Tryd.func48, Tryd.ntmps48
    go_wp2
    go_ret
    exact ⟨by simp [isSrc, h1], rfl⟩
def isTrm (x : Int) : Bool := x == 25 || x == 27
theorem isTerm_any (x : Int) (w : World) : Calls Tryd.prog 50 #[.int .i64 x] w fun e w' => e = .returned (.bool (isTrm x)) ∧ w' = w := by
  cases h1 : (x == 25)
  · go_enter Tryd.func50, Tryd.ntmps50
    go_wp2
    go_ret
    exact ⟨by simp [isTrm, h1], rfl⟩
  · go_enter Tryd.func50, Tryd.ntmps50
    go_wp2
    go_ret
    exact ⟨by simp [isTrm, h1], rfl⟩
def flg (x : Int) : Bool := x == 0 || x == 1
theorem flag_any (x : Int) (w : World) : Calls Tryd.prog 47 #[.int .i64 x] w fun e w' => e = .returned (.bool (flg x)) ∧ w' = w := by
  cases h1 : (x == 0)
  · go_enter Tryd.func47, Tryd.ntmps47
    go_wp2
    go_ret
    exact ⟨by simp [flg, h1], rfl⟩
  · go_enter Tryd.func47, Tryd.ntmps47
    go_wp2
    go_ret
    exact ⟨by simp [flg, h1], rfl⟩
theorem take_all {f : Int → Bool} {l : List Int} {k : Nat} (h : k < l.length) (hp : (l.take k).all f = true) (hk : f l[k] = true) : (l.take (k + 1)).all f = true := by
  rw [List.take_add_one, List.getElem?_eq_getElem h]
  simp only [List.all_append, Bool.and_eq_true]
  exact ⟨hp, by simp [hk]⟩
theorem not_all {f : Int → Bool} {l : List Int} {k : Nat} (h : k < l.length) (hk : f l[k] = false) : l.all f = false := by
  rw [List.all_eq_false]
  exact ⟨l[k], List.getElem_mem h, by simp [hk]⟩
set_option maxHeartbeats 1600000 in
theorem allExpr_any (ops : List Int) (v : Value) (w : World) (hn : ops.length ≤ 1048576) (hv : RI w v ops) :
    Calls Tryd.prog 43 #[v] w fun e w' => e = .returned (.bool (ops.all isE)) ∧ w' = w := by
  obtain ⟨a, cap, rfl, hcells⟩ := hv
  go_enter Tryd.func43, Tryd.ntmps43
  go_wp2
  go_loopw [4, 7] (fun _ i wr => ∃ k : Nat, k ≤ ops.length ∧ i = .int .i64 k ∧ Hid ((ops.take k).all isE = true) ∧ wr = w) (fun _ i _ => ops.length - (intOf i).toNat)
  case atStart => exact ⟨0, Nat.zero_le _, rfl, (by simp : (ops.take 0).all isE = true), rfl⟩
  case round =>
    obtain ⟨k, hk, rfl, HA, rfl⟩ := hrel
    by_cases hlt : k < ops.length
    · have hlti : (k : Int) < ops.length := by omega
      obtain ⟨g, o, rfl, hg, hgc⟩ := hcells (by omega)
      have c0 := hgc k hlt
      have HY : Hid (isE ops[k] = true → (ops.take (k + 1)).all isE = true) := fun h => take_all hlt HA.out h
      have HN : Hid (isE ops[k] = false → ops.all isE = false) := fun h => not_all hlt h
      clear hgc hcells HA
      generalize ops[k] = x at *
      have hcn := fun W => isExpr_any x W
      cases hx : isE x
      · have HN2 : Hid (ops.all isE = false) := HN.out hx
        rw [hx] at hcn
        go_wp2_with (go_at_call 21; refine (hcn _).mono ?_; rintro e w' ⟨rfl, rfl⟩)
        go_ret
        exact ⟨ret_b HN2.out.symm, rfl⟩
      · have HY2 : Hid ((ops.take (k + 1)).all isE = true) := HY.out hx
        rw [hx] at hcn
        go_wp2_with (go_at_call 21; refine (hcn _).mono ?_; rintro e w' ⟨rfl, rfl⟩)
        go_roundw
        case rel => exact ⟨k + 1, by omega, by go_num, HY2, by first | rfl | trivial⟩
        case measure => simp [intOf]; omega
    · have hkn : k = ops.length := by omega
      subst hkn
      have hlti : ¬ (ops.length : Int) < ops.length := by omega
      rw [List.take_length] at HA
      go_wp2
      go_ret
      exact ⟨ret_b HA.out.symm, rfl⟩
def isV (x : Int) : Bool := isE x || x == 45
set_option maxHeartbeats 1600000 in
theorem valuesOK_any (ops : List Int) (v : Value) (w : World) (hn : ops.length ≤ 1048576) (hv : RI w v ops) :
    Calls Tryd.prog 52 #[v] w fun e w' => e = .returned (.bool (ops.all isV && decide (1 ≤ (ops.length : Int)))) ∧ w' = w := by
  obtain ⟨a, cap, rfl, hcells⟩ := hv
  go_enter Tryd.func52, Tryd.ntmps52
  go_wp2
  go_loopw [4, 7] (fun _ i wr => ∃ k : Nat, k ≤ ops.length ∧ i = .int .i64 k ∧ Hid ((ops.take k).all isV = true) ∧ wr = w) (fun _ i _ => ops.length - (intOf i).toNat)
  case atStart => exact ⟨0, Nat.zero_le _, rfl, (by simp : (ops.take 0).all isV = true), rfl⟩
  case round =>
    obtain ⟨k, hk, rfl, HA, rfl⟩ := hrel
    by_cases hlt : k < ops.length
    · have hlti : (k : Int) < ops.length := by omega
      obtain ⟨g, o, rfl, hg, hgc⟩ := hcells (by omega)
      have c0 := hgc k hlt
      have HY : Hid (isV ops[k] = true → (ops.take (k + 1)).all isV = true) := fun h => take_all hlt HA.out h
      have HN : Hid (isV ops[k] = false → ops.all isV = false) := fun h => not_all hlt h
      clear hgc hcells HA
      generalize ops[k] = x at *
      have hcn := fun W => isExpr_any x W
      cases hx : isE x
      · rw [hx] at hcn
        cases hy : (x == 45)
        · have HN2 : Hid (ops.all isV = false) := HN.out (by simp [isV, hx, hy])
          have hy' : (x != 45) = true := by simp [bne, hy]
          go_wp2_with (go_at_call 21; refine (hcn _).mono ?_; rintro e w' ⟨rfl, rfl⟩)
          go_ret
          exact ⟨ret_b (by rw [HN2.out]; rfl), rfl⟩
        · have HY2 : Hid ((ops.take (k + 1)).all isV = true) := HY.out (by simp [isV, hy])
          have hy' : (x != 45) = false := by simp [bne, hy]
          go_wp2_with (go_at_call 21; refine (hcn _).mono ?_; rintro e w' ⟨rfl, rfl⟩)
          go_roundw
          case rel => exact ⟨k + 1, by omega, by go_num, HY2, by first | rfl | trivial⟩
          case measure => simp [intOf]; omega
      · have HY2 : Hid ((ops.take (k + 1)).all isV = true) := HY.out (by simp [isV, hx])
        rw [hx] at hcn
        go_wp2_with (go_at_call 21; refine (hcn _).mono ?_; rintro e w' ⟨rfl, rfl⟩)
        go_roundw
        case rel => exact ⟨k + 1, by omega, by go_num, HY2, by first | rfl | trivial⟩
        case measure => simp [intOf]; omega
    · have hkn : k = ops.length := by omega
      subst hkn
      have hlti : ¬ (ops.length : Int) < ops.length := by omega
      rw [List.take_length] at HA
      go_wp2
      go_ret
      exact ⟨ret_b (by rw [HA.out]; rfl), rfl⟩
end Go.Proofs.YtghdjagomdgnfaaDoor
namespace Go.Proofs.YtghdjagomdgnfaaDoor
open Go.ChangeShapes Go.WideShapes Go.ChangeAt Go.RowKit
set_option linter.unusedVariables false
set_option linter.unusedSimpArgs false
set_option maxRecDepth 100000
/-- Numbers in a block, with room behind them. -/
structure RC (w : World) (g o cap : Nat) (ks : List Int) : Prop where
  lt : g < w.heap.size
  le : ks.length ≤ cap
  c : ∀ i (h : i < ks.length), w.cell? ⟨g, o + i, none⟩ = some (.int .i64 ks[i])
theorem RC.ri {w : World} {g o cap : Nat} {ks : List Int} (h : RC w g o cap ks) : RI w (.slice (some ⟨g, o, none⟩) ks.length cap) ks :=
  ⟨_, _, rfl, fun _ => ⟨g, o, rfl, h.lt, h.c⟩⟩
theorem RC.below {w w' : World} {g o cap : Nat} {ks : List Int} (h : RC w g o cap ks) (hb : Below w.heap.size w w') : RC w' g o cap ks :=
  ⟨Nat.lt_of_lt_of_le h.lt hb.size, h.le, fun i hi => (hb.cell (p := ⟨g, o + i, none⟩) h.lt).trans (h.c i hi)⟩
set_option maxHeartbeats 1600000 in
theorem all_any (ops : List Int) (g o cap : Nat) (op : Int) (w : World) (hn : ops.length ≤ 1048576) (hcap : cap ≤ 1048576) (hv : RC w g o cap ops) :
    Calls Tryd.prog 51 #[.slice (some ⟨g, o, none⟩) ops.length cap, .int .i64 0, .int .i64 op] w fun e w' => e = .returned (.bool (ops.all (· == op) && decide ((0 : Int) < ops.length))) ∧ w' = w := by
  obtain ⟨hg, hle, hgc⟩ := hv
  have hlei : (ops.length : Int) ≤ cap := by omega
  go_enter Tryd.func51, Tryd.ntmps51
  go_wp2
  go_loopw [8, 13] (fun _ i wr => ∃ k : Nat, k ≤ ops.length ∧ i = .int .i64 k ∧ Hid ((ops.take k).all (· == op) = true) ∧ wr = w) (fun _ i _ => ops.length - (intOf i).toNat)
  case atStart => exact ⟨0, Nat.zero_le _, rfl, (by simp : (ops.take 0).all (· == op) = true), rfl⟩
  case round =>
    obtain ⟨k, hk, rfl, HA, rfl⟩ := hrel
    by_cases hlt : k < ops.length
    · have hlti : (k : Int) < ops.length := by omega
      have c0 := hgc k hlt
      have HY : Hid ((ops[k] == op) = true → (ops.take (k + 1)).all (· == op) = true) := fun h => take_all (f := (· == op)) hlt HA.out h
      have HN : Hid ((ops[k] == op) = false → ops.all (· == op) = false) := fun h => not_all (f := (· == op)) hlt h
      clear hgc HA
      generalize ops[k] = x at *
      cases hx : (x == op)
      · have HN2 : Hid (ops.all (· == op) = false) := HN.out hx
        have hx' : (x != op) = true := by simp [bne, hx]
        go_wp2
        go_ret
        exact ⟨ret_b (by rw [HN2.out]; rfl), rfl⟩
      · have HY2 : Hid ((ops.take (k + 1)).all (· == op) = true) := HY.out hx
        have hx' : (x != op) = false := by simp [bne, hx]
        go_wp2
        go_roundw
        case rel => exact ⟨k + 1, by omega, by go_num, HY2, by first | rfl | trivial⟩
        case measure => simp [intOf]; omega
    · have hkn : k = ops.length := by omega
      subst hkn
      have hlti : ¬ (ops.length : Int) < ops.length := by omega
      rw [List.take_length] at HA
      go_wp2
      go_ret
      exact ⟨ret_b (by rw [HA.out]; rfl), rfl⟩
/-- Some of a list, each once at most, in its order: from place k of it on. -/
def someL (l : List Int) : List Int → Nat → Bool
  | [], _ => true
  | o :: os, k => match (l.drop k).findIdx? (· == o) with
    | none => false
    | some j => someL l os (k + j + 1)
end Go.Proofs.YtghdjagomdgnfaaDoor
namespace Go.Proofs.YtghdjagomdgnfaaDoor
open Go.ChangeShapes Go.WideShapes Go.ChangeAt Go.RowKit
set_option linter.unusedVariables false
set_option linter.unusedSimpArgs false
set_option maxRecDepth 100000
theorem someL_hit {l : List Int} {o : Int} {os : List Int} {k j : Nat} (hkj : k ≤ j) (hj : j < l.length) (hm : ∀ i (h : i < l.length), k ≤ i → i < j → l[i] ≠ o) (he : l[j] = o) : someL l (o :: os) k = someL l os (j + 1) := by
  have hf : (l.drop k).findIdx? (· == o) = some (j - k) := by
    rw [List.findIdx?_eq_some_iff_getElem]
    refine ⟨by rw [List.length_drop]; omega, ?_, fun i hi => ?_⟩
    · rw [List.getElem_drop]
      have : k + (j - k) = j := by omega
      simp [this, he]
    · rw [List.getElem_drop]
      have := hm (k + i) (by omega) (by omega) (by omega)
      simpa using this
  rw [someL, hf]
  show someL l os (k + (j - k) + 1) = _
  congr 1
  omega
theorem someL_miss {l : List Int} {o : Int} {os : List Int} {k : Nat} (hm : ∀ i (h : i < l.length), k ≤ i → l[i] ≠ o) : someL l (o :: os) k = false := by
  have hf : (l.drop k).findIdx? (· == o) = none := by
    rw [List.findIdx?_eq_none_iff]
    intro x hx
    obtain ⟨i, hi, rfl⟩ := List.getElem_of_mem hx
    rw [List.getElem_drop]
    rw [List.length_drop] at hi
    simpa using hm (k + i) (by omega) (by omega)
  rw [someL, hf]
theorem drop_cons {l : List Int} {k : Nat} (h : k < l.length) : l.drop k = l[k] :: l.drop (k + 1) := List.drop_eq_getElem_cons h
set_option maxHeartbeats 4000000 in
theorem some_any (ops l : List Int) (v u : Value) (w : World) (hn : ops.length ≤ 1048576) (hl : l.length ≤ 1048576) (hv : RI w v ops) (hu : RI w u l) :
    Calls Tryd.prog 49 #[v, u] w fun e w' => e = .returned (.bool (someL l ops 0)) ∧ w' = w := by
  obtain ⟨a, cap, rfl, hcells⟩ := hv
  obtain ⟨b, cap2, rfl, hcells2⟩ := hu
  go_enter Tryd.func49, Tryd.ntmps49
  go_wp2
  go_loopw [5, 7, 10] (fun kv _ iv wr => ∃ (i k : Nat), i ≤ ops.length ∧ k ≤ l.length ∧ iv = .int .i64 i ∧ kv = .int .i64 k ∧ Hid (someL l (ops.drop i) k = someL l ops 0) ∧ wr = w) (fun _ _ iv _ => ops.length - (intOf iv).toNat)
  case atStart => exact ⟨0, 0, Nat.zero_le _, Nat.zero_le _, rfl, rfl, (by simp : someL l (ops.drop 0) 0 = someL l ops 0), rfl⟩
  case round =>
    obtain ⟨i, k, hi, hk, rfl, rfl, HS, hw⟩ := hrel
    subst hw
    by_cases hlt : i < ops.length
    · have hlti : (i : Int) < ops.length := by omega
      obtain ⟨g, o, rfl, hg, hgc⟩ := hcells (by omega)
      have c0 := hgc i hlt
      have HD : Hid (someL l (ops[i] :: ops.drop (i + 1)) k = someL l ops 0) := (by rw [← drop_cons hlt]; exact HS.out : someL l (ops[i] :: ops.drop (i + 1)) k = someL l ops 0)
      clear hgc hcells HS
      generalize ops[i] = x at *
      go_wp2
      go_loopw [5] (fun kv wx => ∃ j : Nat, k ≤ j ∧ j ≤ l.length ∧ kv = .int .i64 j ∧ Hid (∀ m (h : m < l.length), k ≤ m → m < j → l[m] ≠ x) ∧ wx = wr) (fun kv _ => l.length - (intOf kv).toNat)
      case atStart => exact ⟨k, Nat.le_refl _, hk, rfl, (fun m h h1 h2 => by omega : ∀ m (h : m < l.length), k ≤ m → m < k → l[m] ≠ x), by first | rfl | trivial⟩
      case round =>
        obtain ⟨j, hkj, hj, rfl, HM, hw2⟩ := hrel
        subst hw2
        by_cases hjl : j < l.length
        · have hjli : (j : Int) < l.length := by omega
          obtain ⟨g2, o2, rfl, hg2, hgc2⟩ := hcells2 (by omega)
          have d0 := hgc2 j hjl
          by_cases hx : l[j] = x
          · have HH : Hid (someL l (ops.drop (i + 1)) (j + 1) = someL l ops 0) := ((someL_hit hkj hjl HM.out hx).symm.trans HD.out)
            have hnx : (l[j] != x) = false := by simp [hx]
            have hge : ¬ (l.length : Int) ≤ j := by omega
            clear hgc2 HM HD
            generalize l[j] = z at *
            subst hx
            go_wp2
            go_roundw
            case rel => exact ⟨i + 1, j + 1, by omega, by omega, by go_num, by go_num, HH, by first | rfl | trivial⟩
            case measure => simp [intOf]; omega
          · have hnx : (l[j] != x) = true := by simp [hx]
            have HM2 : Hid (∀ m (h : m < l.length), k ≤ m → m < j + 1 → l[m] ≠ x) := (fun m h h1 h2 => by
              by_cases e : m = j
              · subst e; exact hx
              · exact HM.out m h h1 (by omega) : ∀ m (h : m < l.length), k ≤ m → m < j + 1 → l[m] ≠ x)
            clear hgc2 HM hx
            generalize l[j] = z at d0 hnx
            go_wp2
            go_roundw
            case rel => exact ⟨j + 1, by omega, by omega, by go_num, HM2, by first | rfl | trivial⟩
            case measure => simp [intOf]; omega
        · have hjli : ¬ (j : Int) < l.length := by omega
          have hge : (l.length : Int) ≤ j := by omega
          have HF : Hid (someL l ops 0 = false) := (HD.out.symm.trans (someL_miss (fun m h h1 => HM.out m h h1 (by omega))))
          clear HM HD
          go_wp2
          go_ret
          exact ⟨ret_b HF.out.symm, by first | rfl | trivial⟩
    · have hin : i = ops.length := by omega
      subst hin
      have hlti : ¬ (ops.length : Int) < ops.length := by omega
      have HE : Hid (someL l ops 0 = true) := (by have := HS.out; rw [List.drop_length] at this; rw [← this, someL] : someL l ops 0 = true)
      go_wp2
      go_ret
      exact ⟨ret_b HE.out.symm, by first | rfl | trivial⟩
end Go.Proofs.YtghdjagomdgnfaaDoor
namespace Go.Proofs.YtghdjagomdgnfaaDoor
open Go.ChangeShapes Go.WideShapes Go.ChangeAt Go.RowKit
set_option linter.unusedVariables false
set_option linter.unusedSimpArgs false
set_option maxRecDepth 100000
/-- Signs alone. -/
def pr (s : ByteArray) : Bool := s.data.toList.all fun c => decide (32 ≤ c.toNat) && decide (c.toNat ≤ 126)
theorem pr_no {s : ByteArray} {k : Nat} (h : k < s.size) (hc : (s[k]'h).toNat < 32 ∨ 126 < (s[k]'h).toNat) : pr s = false := by
  unfold pr
  rw [List.all_eq_false]
  have h' : k < s.data.toList.length := by simpa using h
  refine ⟨s.data.toList[k]'h', List.getElem_mem h', ?_⟩
  have hx : s.data.toList[k]'h' = s[k]'h := rfl
  rw [hx]
  simp; omega
theorem pr_yes {s : ByteArray} (h : ∀ k (hk : k < s.size), 32 ≤ (s[k]'hk).toNat ∧ (s[k]'hk).toNat ≤ 126) : pr s = true := by
  unfold pr
  rw [List.all_eq_true]
  intro c hc
  obtain ⟨k, hk, rfl⟩ := List.getElem_of_mem hc
  have := h k (by simpa using hk)
  have hx : s.data.toList[k]'hk = s[k]'(by simpa using hk) := rfl
  rw [hx]
  simp; omega
set_option maxHeartbeats 1600000 in
theorem printable_any (s : ByteArray) (w : World) (hs : s.size ≤ 1048576) : Calls Tryd.prog 37 #[.string s] w fun e w' => e = .returned (.bool (pr s)) ∧ w' = w := by
  go_enter Tryd.func37, Tryd.ntmps37
  go_wp2
  go_loopw [3] (fun i wr => ∃ k : Nat, k ≤ s.size ∧ i = .int .i64 k ∧ Hid (∀ m (h : m < s.size), m < k → 32 ≤ (s[m]'h).toNat ∧ (s[m]'h).toNat ≤ 126) ∧ wr = w) (fun i _ => s.size - (intOf i).toNat)
  case atStart => exact ⟨0, Nat.zero_le _, rfl, (fun m h hm => by omega : ∀ m (h : m < s.size), m < 0 → 32 ≤ (s[m]'h).toNat ∧ (s[m]'h).toNat ≤ 126), rfl⟩
  case round =>
    obtain ⟨k, hk, rfl, HA, hw⟩ := hrel
    subst hw
    by_cases hlt : k < s.size
    · have hlti : (k : Int) < s.size := by omega
      by_cases h1 : (s[k]'hlt).toNat < 32
      · have h1i : ((s[k]'hlt).toNat : Int) < 32 := by omega
        have HN : Hid (pr s = false) := pr_no hlt (.inl h1)
        go_wp2
        go_ret
        exact ⟨ret_b HN.out.symm, rfl⟩
      · have h1i : ¬ ((s[k]'hlt).toNat : Int) < 32 := by omega
        have h1b : decide (((s[k]'hlt).toNat : Int) < 32) = false := by simpa using h1i
        by_cases h2 : 126 < (s[k]'hlt).toNat
        · have h2i : (126 : Int) < (s[k]'hlt).toNat := by omega
          have HN : Hid (pr s = false) := pr_no hlt (.inr h2)
          go_wp2
          go_ret
          exact ⟨ret_b HN.out.symm, rfl⟩
        · have h2i : ¬ (126 : Int) < (s[k]'hlt).toNat := by omega
          have HA2 : Hid (∀ m (h : m < s.size), m < k + 1 → 32 ≤ (s[m]'h).toNat ∧ (s[m]'h).toNat ≤ 126) := (fun m h hm => by
            by_cases e : m = k
            · subst e; omega
            · exact HA.out m h (by omega) : ∀ m (h : m < s.size), m < k + 1 → 32 ≤ (s[m]'h).toNat ∧ (s[m]'h).toNat ≤ 126)
          clear HA
          go_wp2
          go_roundw
          case rel => exact ⟨k + 1, by omega, by go_num, HA2, by first | rfl | trivial⟩
          case measure => simp [intOf]; omega
    · have hlti : ¬ (k : Int) < s.size := by omega
      have HY : Hid (pr s = true) := pr_yes (fun m h => HA.out m h (by omega))
      clear HA
      go_wp2
      go_ret
      exact ⟨ret_b HY.out.symm, rfl⟩
def isNm (s : ByteArray) : Bool := decide (1 ≤ (s.size : Int)) && decide ((s.size : Int) ≤ 30) && pr s
theorem isName_any (s : ByteArray) (w : World) (hs : s.size ≤ 1048576) : Calls Tryd.prog 16 #[.string s] w fun e w' => e = .returned (.bool (isNm s)) ∧ w' = w := by
  by_cases h1 : 1 ≤ (s.size : Int)
  · by_cases h2 : (s.size : Int) ≤ 30
    · go_enter Tryd.func16, Tryd.ntmps16
      go_wp2_with (go_at_call 37; refine (printable_any s _ hs).mono ?_; rintro e w' ⟨rfl, rfl⟩)
      go_ret
      exact ⟨ret_b (by unfold isNm; rw [decide_eq_true h1, decide_eq_true h2]; rfl), rfl⟩
    · have h2b : decide ((s.size : Int) ≤ 30) = false := decide_eq_false h2
      have HR : Hid (isNm s = false) := (by unfold isNm; rw [h2b]; simp : isNm s = false)
      go_enter Tryd.func16, Tryd.ntmps16
      go_wp2
      go_ret
      exact ⟨ret_b HR.out.symm, rfl⟩
  · have h1b : decide (1 ≤ (s.size : Int)) = false := decide_eq_false h1
    have HR : Hid (isNm s = false) := (by unfold isNm; rw [h1b]; simp : isNm s = false)
    go_enter Tryd.func16, Tryd.ntmps16
    go_wp2
    go_ret
    exact ⟨ret_b HR.out.symm, rfl⟩
end Go.Proofs.YtghdjagomdgnfaaDoor
namespace Go.Proofs.YtghdjagomdgnfaaDoor
open Go.ChangeShapes Go.WideShapes Go.ChangeAt Go.RowKit
set_option linter.unusedVariables false
set_option linter.unusedSimpArgs false
set_option maxRecDepth 100000
def noS (s : ByteArray) : Bool := s.toList.isEmpty
def mayN (s : ByteArray) : Bool := noS s || isNm s
theorem maybe_any (s : ByteArray) (w : World) (hs : s.size ≤ 1048576) : Calls Tryd.prog 46 #[.string s] w fun e w' => e = .returned (.bool (mayN s)) ∧ w' = w := by
  by_cases h : s.toList = []
  · have h' : s.toList.isEmpty = true := by rw [h]; rfl
    go_enter Tryd.func46, Tryd.ntmps46
    go_wp2
    go_ret
    exact ⟨ret_b (by unfold mayN noS; rw [h']; rfl), rfl⟩
  · have h' : s.toList.isEmpty = false := by simpa using h
    go_enter Tryd.func46, Tryd.ntmps46
    go_wp2_with (go_at_call 16; refine (isName_any s _ hs).mono ?_; rintro e w' ⟨rfl, rfl⟩)
    go_ret
    exact ⟨ret_b (by unfold mayN noS; rw [h']; rfl), rfl⟩
def noV (t : Nd) : Bool := t.vk == 0 && t.vn == 0 && noS t.vs
def only (t : Nd) (a b c d f : Bool) : Bool := (a || noS t.name) && (b || noS t.qual) && (c || t.n == 0) && (d || t.m == 0) && (f || noV t)
set_option maxHeartbeats 16000000 in
theorem only_any (t : Nd) (kv : Value) (a b c d f : Bool) (w : World) :
    Calls Tryd.prog 44 #[ndV t kv, .bool a, .bool b, .bool c, .bool d, .bool f] w fun e w' => e = .returned (.bool (only t a b c d f)) ∧ Below w.heap.size w w' := by
  obtain ⟨op, name, qual, n, m, vk, vn, vs, kids, pos⟩ := t
  simp only [ndV]
  go_enter Tryd.func44, Tryd.ntmps44
  go_wp2
  all_goals
    go_ret
    refine ⟨ret_b ?_, below_alloc _ _⟩
    simp_all [only, noS, noV]
end Go.Proofs.YtghdjagomdgnfaaDoor
