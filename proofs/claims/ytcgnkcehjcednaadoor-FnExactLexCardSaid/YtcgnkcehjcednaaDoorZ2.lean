import Derived.Test.YtcgnkcehjcednaaDoorZ1
namespace Go.Proofs.YtcgnkcehjcednaaDoor
open Go.ChangeShapes Go.WideShapes Go.ChangeAt Go.RowKit Go.Shelf
set_option linter.unusedVariables false
set_option linter.unusedSimpArgs false
set_option maxRecDepth 100000
def markAt (i : Nat) : Int × ByteArray × Int := (((1 + 3 * i : Nat) : Int), mkT (2 + 3 * i), ((3 + 3 * i : Nat) : Int))
def marks (n : Nat) : List (Int × ByteArray × Int) := (List.range n).map markAt
theorem marks_len (n : Nat) : (marks n).length = n := by simp [marks]
theorem marks_get (n i : Nat) (h : i < (marks n).length) : (marks n)[i] = markAt i := by simp [marks]
/-- The first tokens of a row are marked. -/
def Marked (ys : List Value) (k : Nat) : Prop := ∀ i, i < k → ys[i * 3]? = some (.int .i64 (markAt i).1) ∧ ys[i * 3 + 1]? = some (.string (markAt i).2.1) ∧ ys[i * 3 + 2]? = some (.int .i64 (markAt i).2.2)
theorem Marked.next {ys : List Value} {k n : Nat} (h : Marked ys k) (hl : ys.length = n * 3) (hk : k < n) (a c : Int) (b : ByteArray) (ha : a = (markAt k).1) (hb : b = (markAt k).2.1) (hc : c = (markAt k).2.2) :
    Marked (((ys.set (k * 3) (.int .i64 a)).set (k * 3 + 1) (.string b)).set (k * 3 + 2) (.int .i64 c)) (k + 1) := by
  intro i hi
  rcases Nat.lt_or_ge i k with g | g
  · have h1 := h i g
    refine ⟨?_, ?_, ?_⟩
    · rw [List.getElem?_set_ne (by omega), List.getElem?_set_ne (by omega), List.getElem?_set_ne (by omega)]; exact h1.1
    · rw [List.getElem?_set_ne (by omega), List.getElem?_set_ne (by omega), List.getElem?_set_ne (by omega)]; exact h1.2.1
    · rw [List.getElem?_set_ne (by omega), List.getElem?_set_ne (by omega), List.getElem?_set_ne (by omega)]; exact h1.2.2
  · have e : i = k := by omega
    subst e
    refine ⟨?_, ?_, ?_⟩
    · rw [List.getElem?_set_ne (by omega), List.getElem?_set_ne (by omega), List.getElem?_set_self (by omega), ha]
    · rw [List.getElem?_set_ne (by omega), List.getElem?_set_self (by simp; omega), hb]
    · rw [List.getElem?_set_self (by simp; omega), hc]
set_option maxHeartbeats 1600000 in
theorem mark_any (la : Option Addr) (lc n b : Nat) (xs : List Value) (w : World) (hn : n ≤ 2000) (hown : w.ownsRow b 47 3 (.slice la n lc) n xs) (hb : b ≤ w.heap.size) :
    Calls Tryd.prog 23 #[.slice la n lc, .int .i64 1] w fun e w' => e = .returned (.int .i64 ((1 + 3 * n : Nat) : Int)) ∧ (∃ ys, w'.ownsRow b 47 3 (.slice la n lc) n ys ∧ Marked ys n) ∧ Below b w w' := by
  go_enter Tryd.func23, Tryd.ntmps23
  go_wp2
  go_loopw [1, 5] (fun m i wr => ∃ (k : Nat) (ys : List Value), k ≤ n ∧ i = .int .i64 k ∧ m = .int .i64 ((1 + 3 * k : Nat) : Int) ∧ wr.ownsRow b 47 3 (.slice la n lc) n ys ∧ Hid (Marked ys k) ∧ Below b w wr) (fun _ i _ => n - (intOf i).toNat)
  case atStart => exact ⟨0, xs, Nat.zero_le _, rfl, rfl, hown, fun i h => by omega, Below.refl _ _⟩
  case round =>
    obtain ⟨k, ys, hk, rfl, rfl, ho, HM, hbel⟩ := hrel
    have hbs := hbel.size
    by_cases hlt : k < n
    · have hlti : (k : Int) < n := by omega
      have hlen := ho.1
      obtain ⟨g, hlag⟩ : ∃ g, la = some ⟨g, 0, none⟩ := by
        rcases ho.2 with ⟨h', h0⟩ | ⟨g, cap, cur, h', _⟩
        · omega
        · simp only [Value.slice.injEq] at h'; exact ⟨g, h'.1⟩
      subst hlag
      have hgb : b ≤ g ∧ g < wr.heap.size := ho.lt g rfl
      have c0 := ho.cellAt (k * 3) (by omega)
      have c1 := ho.cellAt (k * 3 + 1) (by omega)
      have c2 := ho.cellAt (k * 3 + 2) (by omega)
      rw [List.getElem?_eq_getElem (by omega)] at c0 c1 c2
      have f0 := ho.frozenAt (k * 3)
      have f1 := ho.frozenAt (k * 3 + 1)
      have f2 := ho.frozenAt (k * 3 + 2)
      have hmt := fun w => markText_any (2 + 3 * k) w (by omega) (by omega)
      have s0 := (ho.stored (k * 3) (.int .i64 ((1 + 3 * k : Nat) : Int))).1
      have HMN := HM.out.next hlen hlt ((1 + 3 * k : Nat) : Int) ((3 + 3 * k : Nat) : Int) (mkT (2 + 3 * k)) rfl rfl rfl
      have HMN' : Hid (Marked (((ys.set (k * 3) (.int .i64 ((1 + 3 * k : Nat) : Int))).set (k * 3 + 1) (.string (mkT (2 + 3 * k)))).set (k * 3 + 2) (.int .i64 ((3 + 3 * k : Nat) : Int))) (k + 1)) := HMN
      clear HMN HM
      obtain ⟨A, hA⟩ : ∃ A : Int, ((1 + 3 * k : Nat) : Int) = A := ⟨_, rfl⟩
      have hB : ((2 + 3 * k : Nat) : Int) = A + 1 := by omega
      have hC : ((3 + 3 * k : Nat) : Int) = A + 1 + 1 := by omega
      have hD : ((1 + 3 * (k + 1) : Nat) : Int) = A + 1 + 1 + 1 := by omega
      have HD : Hid (((1 + 3 * (k + 1) : Nat) : Int) = A + 1 + 1 + 1) := hD
      have hAb : A ≤ 10000 ∧ 0 ≤ A := by omega
      rw [hB] at hmt
      rw [hA, hC] at HMN'
      rw [hA] at s0
      generalize mkT (2 + 3 * k) = T at *
      simp only [hA]
      clear hA hB hC hD
      obtain ⟨hA1, hA2⟩ := hAb
      go_wp2_with (go_at_call 60; refine (hmt _).mono ?_; rintro e w2 ⟨rfl, hb2⟩; have s1 := own_below s0 hb2; have e1 := s1.cellAt (k * 3 + 1) (by omega); have e2 := s1.cellAt (k * 3 + 2) (by omega); rw [List.getElem?_eq_getElem (by rw [s1.1]; omega)] at e1 e2; have q1 := s1.frozenAt (k * 3 + 1); have q2 := s1.frozenAt (k * 3 + 2); have hz2 : g < w2.heap.size := (s1.lt g rfl).2; have bw2 : Below b w w2 := (hbel.setCell hgb.1 _).trans (hb2.mono (by simp; omega)); clear hb2)
      have s2 := ((s1.stored (k * 3 + 1) (.string T)).1.stored (k * 3 + 2) (.int .i64 (A + 1 + 1))).1
      go_roundw
      case rel => exact ⟨k + 1, _, by omega, by go_num, by rw [HD.out], s2, HMN'.out, (bw2.setCell hgb.1 _).setCell hgb.1 _⟩
      case measure => simp [intOf]; omega
    · have hkn : k = n := by omega
      subst hkn
      have HM2 := HM.out
      clear HM
      have HY : Hid (∃ ys, wr.ownsRow b 47 3 (.slice la k lc) k ys ∧ Marked ys k) := ⟨ys, ho, HM2⟩
      clear HM2 ho hown
      go_wp2
      go_ret
      exact ⟨rfl, HY.out, hbel⟩
/-- Marks can be read. -/
def MarkRow (w : World) (la : Option Addr) (n : Nat) : Prop := 0 < n → ∃ g, la = some ⟨g, 0, none⟩ ∧ g < w.heap.size ∧ ∀ i, i < n → w.cell? ⟨g, i * 3, none⟩ = some (.int .i64 (markAt i).1) ∧ w.cell? ⟨g, i * 3 + 1, none⟩ = some (.string (markAt i).2.1) ∧ w.cell? ⟨g, i * 3 + 2, none⟩ = some (.int .i64 (markAt i).2.2)
theorem MarkRow.of {w : World} {la : Option Addr} {lc n b : Nat} {ys : List Value} (ho : w.ownsRow b 47 3 (.slice la n lc) n ys) (hm : Marked ys n) : MarkRow w la n := by
  intro hp
  obtain ⟨g, rfl⟩ : ∃ g, la = some ⟨g, 0, none⟩ := by
    rcases ho.2 with ⟨h', h0⟩ | ⟨g, cap, cur, h', _⟩
    · omega
    · simp only [Value.slice.injEq] at h'; exact ⟨g, h'.1⟩
  refine ⟨g, rfl, (ho.lt g rfl).2, fun i hi => ?_⟩
  have h := hm i hi
  exact ⟨(ho.cellAt (i * 3) (by omega)).trans h.1, (ho.cellAt (i * 3 + 1) (by omega)).trans h.2.1, (ho.cellAt (i * 3 + 2) (by omega)).trans h.2.2⟩
theorem MarkRow.below {w w' : World} {la : Option Addr} {n : Nat} (h : MarkRow w la n) (hb : Below w.heap.size w w') : MarkRow w' la n := by
  intro hp
  obtain ⟨g, rfl, hg, hc⟩ := h hp
  refine ⟨g, rfl, Nat.lt_of_lt_of_le hg hb.size, fun i hi => ?_⟩
  have h3 := hc i hi
  exact ⟨(hb.cell (p := ⟨g, i * 3, none⟩) hg).trans h3.1, (hb.cell (p := ⟨g, i * 3 + 1, none⟩) hg).trans h3.2.1, (hb.cell (p := ⟨g, i * 3 + 2, none⟩) hg).trans h3.2.2⟩
set_option maxHeartbeats 1600000 in
theorem held_any (la : Option Addr) (lc n : Nat) (w : World) (hn : n ≤ 2000) (hm : MarkRow w la n) :
    Calls Tryd.prog 24 #[.slice la n lc, .int .i64 1] w fun e w' => e = .returned (.int .i64 ((1 + 3 * n : Nat) : Int)) ∧ Below w.heap.size w w' := by
  go_enter Tryd.func24, Tryd.ntmps24
  go_wp2
  go_loopw [1, 5] (fun m i wr => ∃ k : Nat, k ≤ n ∧ i = .int .i64 k ∧ m = .int .i64 ((1 + 3 * k : Nat) : Int) ∧ Below w.heap.size w wr) (fun _ i _ => n - (intOf i).toNat)
  case atStart => exact ⟨0, Nat.zero_le _, rfl, rfl, Below.refl _ _⟩
  case round =>
    obtain ⟨k, hk, rfl, rfl, hbel⟩ := hrel
    have hbs := hbel.size
    by_cases hlt : k < n
    · have hlti : (k : Int) < n := by omega
      obtain ⟨g, rfl, hg, hc⟩ := hm (by omega)
      obtain ⟨a0, a1, a2⟩ := hc k hlt
      have c0 := (hbel.cell (p := ⟨g, k * 3, none⟩) hg).trans a0
      have c1 := (hbel.cell (p := ⟨g, k * 3 + 1, none⟩) hg).trans a1
      have c2 := (hbel.cell (p := ⟨g, k * 3 + 2, none⟩) hg).trans a2
      have hmt := fun w => markText_any (2 + 3 * k) w (by omega) (by omega)
      unfold markAt at c0 c1 c2
      simp only at c0 c1 c2
      obtain ⟨A, hA⟩ : ∃ A : Int, ((1 + 3 * k : Nat) : Int) = A := ⟨_, rfl⟩
      have hB : ((2 + 3 * k : Nat) : Int) = A + 1 := by omega
      have hC : ((3 + 3 * k : Nat) : Int) = A + 1 + 1 := by omega
      have hD : ((1 + 3 * (k + 1) : Nat) : Int) = A + 1 + 1 + 1 := by omega
      have HD : Hid (((1 + 3 * (k + 1) : Nat) : Int) = A + 1 + 1 + 1) := hD
      have hAb : A ≤ 10000 ∧ 0 ≤ A := by omega
      rw [hB] at hmt
      rw [hA] at c0
      rw [hC] at c2
      generalize mkT (2 + 3 * k) = T at *
      simp only [hA]
      clear hA hB hC hD a0 a1 a2 hc hm
      obtain ⟨hA1, hA2⟩ := hAb
      go_wp2
      go_region_with (go_at_call 60; refine (hmt _).mono ?_; rintro e w1 ⟨rfl, hb'⟩; replace hb' := undrew hb'; have bw1 : Below w.heap.size w w1 := hbel.trans (hb'.mono hbs); have d1 := (hb'.cell (p := ⟨g, k * 3 + 1, none⟩) (by show g < _; omega)).trans c1; have d2 := (hb'.cell (p := ⟨g, k * 3 + 2, none⟩) (by show g < _; omega)).trans c2)
      all_goals
        go_wp2
        go_roundw
        case rel => exact ⟨k + 1, by omega, by go_num, by rw [HD.out], by first | exact bw1 | exact bw1.drew⟩
        case measure => simp [intOf]; omega
    · have hkn : k = n := by omega
      subst hkn
      go_wp2
      go_ret
      exact ⟨rfl, hbel⟩
end Go.Proofs.YtcgnkcehjcednaaDoor
