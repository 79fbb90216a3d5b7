import Derived.Test.YtdcdoeolaongkaaGreatDoorG1
import Derived.Test.YtdcdoeolaongkaaGreatDoorD3
import Derived.Lib.TrimByte
namespace Go.Proofs.YtdcdoeolaongkaaGreatDoor
open Go.ChangeShapes Go.WideShapes Go.ChangeAt Go.RowKit Go.Shelf
set_option linter.unusedVariables false
set_option linter.unusedSimpArgs false
set_option maxRecDepth 100000
def wideL (l : List UInt8) (d : Nat) : List UInt8 := List.replicate (d - l.length) 48 ++ l
theorem wide_start (l : List UInt8) (d : Nat) (h : d ≤ l.length) : wideL l d = l := by
  unfold wideL; rw [show d - l.length = 0 by omega]; simp
theorem wide_step (l : List UInt8) (d : Nat) (h : l.length < d) : wideL l d = wideL (48 :: l) d := by
  unfold wideL
  obtain ⟨k, hk⟩ : ∃ k, d - l.length = k + 1 := ⟨d - l.length - 1, by omega⟩
  rw [hk, show d - (48 :: l).length = k by simp; omega, List.replicate_succ', List.append_assoc]; rfl
set_option maxHeartbeats 2000000 in
theorem wide_any (n : Int) (d : Nat) (w : World) (wn : (Lit.int .i64 n).wf = true) (hd : d ≤ 4) : Calls Tryz.prog 176 #[.int .i64 n, .int .i64 d] w fun e w' => e = .returned (.string ⟨(wideL (Lib.itoa n) d).toArray⟩) ∧ Below w.heap.size w w' := by
  have bl := Lib.itoa_length_le n (wf_in wn).1 (wf_in wn).2
  go_enter Tryz.func176, Tryz.ntmps176
  go_wp2_with fail
  refine (dec_any _ _ wn).mono ?_
  rintro e w1 ⟨rfl, hb⟩
  clear wn
  go_wp2
  go_loop [5] (fun o => ∃ l : List UInt8, o = .string ⟨l.toArray⟩ ∧ wideL (Lib.itoa n) d = wideL l d ∧ l.length ≤ 30) (fun o => match o with | .string s => 4 - s.size | _ => 0)
  case atStart => exact ⟨Lib.itoa n, rfl, rfl, by omega⟩
  case round =>
    obtain ⟨l, rfl, hw, hl⟩ := hrel
    by_cases hlt : l.length < d
    · have HW : Hid (wideL (Lib.itoa n) d = wideL (48 :: l) d) := hw.trans (wide_step l d hlt)
      clear hw
      have hlt' : (l.length : Int) < d := by omega
      go_wp2
      go_round
      case rel => exact ⟨48 :: l, congrArg Value.string (cons_str _ _), HW.out, by simp; omega⟩
      case measure =>
        go_light
        simp [ByteArray.size]
        omega
    · have HW : Hid (wideL (Lib.itoa n) d = l) := hw.trans (wide_start l d (by omega))
      clear hw
      have hlt' : ¬ (l.length : Int) < d := by omega
      go_wp2
      go_ret
      exact ⟨ret_str (by rw [HW.out]), hb⟩
theorem in_wf {a : Int} (h1 : -9223372036854775808 ≤ a) (h2 : a ≤ 9223372036854775807) : (Lit.int .i64 a).wf = true := by
  have := wrap64_wf a
  rwa [show wrap64 a = a by unfold wrap64; omega] at this
/-- The four digits behind the point. -/
def frac (r : Nat) : List UInt8 := wideL (Lib.decDigits r) 4
theorem frac_len (r : Nat) (h : r < 10000) : (frac r).length = 4 := by
  have : (Lib.decDigits r).length ≤ 4 := by
    by_cases h1 : r < 10
    · rw [Lib.decDigits_one h1]; simp
    by_cases h2 : r < 100
    · rw [Lib.decDigits, dif_neg h1, Lib.decDigits_one (by omega)]; simp
    by_cases h3 : r < 1000
    · rw [Lib.decDigits, dif_neg h1, Lib.decDigits, dif_neg (by omega), Lib.decDigits_one (by omega)]; simp
    · rw [Lib.decDigits, dif_neg h1, Lib.decDigits, dif_neg (by omega), Lib.decDigits, dif_neg (by omega), Lib.decDigits_one (by omega)]; simp
  unfold frac wideL; simp; omega
theorem digit_ne (k : Nat) (h : k < 10) (h0 : k ≠ 0) : UInt8.ofNat (48 + k) ≠ 48 := by
  intro e
  have := congrArg UInt8.toNat e
  simp at this
  omega
theorem digits_nz (r : Nat) (h0 : r ≠ 0) : ∃ b ∈ Lib.decDigits r, b ≠ 48 := by
  induction r using Nat.strongRecOn with
  | _ r ih =>
    by_cases h1 : r < 10
    · rw [Lib.decDigits_one h1]; exact ⟨_, by simp, digit_ne r h1 h0⟩
    · rw [Lib.decDigits, dif_neg h1]
      obtain ⟨b, hb, hne⟩ := ih (r / 10) (by omega) (by omega)
      exact ⟨b, by simp [hb], hne⟩
theorem frac_nz (r : Nat) (h0 : r ≠ 0) : ∃ b ∈ frac r, b ≠ 48 := by
  obtain ⟨b, hb, hne⟩ := digits_nz r h0
  exact ⟨b, by unfold frac wideL; simp [hb], hne⟩
/-- The text of a Dec. -/
def decT (n : Int) : List UInt8 :=
  (if n < 0 then [45] else []) ++ (Lib.decDigits (n.natAbs / 10000) ++ (if n.natAbs % 10000 = 0 then [] else 46 :: Lib.trimRightB (frac (n.natAbs % 10000)) 48))
theorem take_all (g : List UInt8) (k : Nat) (h : g.length ≤ k) : g.take k = g := List.take_of_length_le h
theorem nz_take {g : List UInt8} {k : Nat} (hz : ∀ (j : Nat) b, k ≤ j → g[j]? = some b → b = 48) (hex : ∃ b ∈ g, b ≠ 48) : 1 ≤ k := by
  obtain ⟨b, hb, hne⟩ := hex
  by_cases h : k = 0
  · subst h
    obtain ⟨j, hj, e⟩ := List.getElem_of_mem hb
    exact absurd (hz j b (by omega) (by rw [List.getElem?_eq_getElem hj, e])) hne
  · omega
/-- What is left of g while noughts are cut off its end. -/
structure Cutting (g : List UInt8) (t : ByteArray) : Prop where
  is : t.data.toList = g.take t.size
  le : t.size ≤ g.length
  zs : ∀ (j : Nat) b, t.size ≤ j → g[j]? = some b → b = 48
theorem cut_size (t : ByteArray) (h : 1 ≤ t.size) : (t.extract 0 (t.size - 1)).size = t.size - 1 := by
  have e : (t.extract 0 (t.size - 1)).data.toList.length = t.size - 1 := by
    rw [Lib.extract_data, List.length_take, List.length_drop, ← Lib.size_eq]; omega
  rw [Lib.size_eq]; exact e
theorem last_eq {g : List UInt8} {t : ByteArray} (c : Cutting g t) (h : 1 ≤ t.size) (hix : t.size - 1 < t.size) : g[t.size - 1]? = some (t[t.size - 1]'hix) := by
  have e : t.data.toList[t.size - 1]? = some (t[t.size - 1]'hix) := by
    rw [List.getElem?_eq_getElem (by rw [← Lib.size_eq]; omega)]; rfl
  rw [c.is, List.getElem?_take_of_lt (by omega)] at e
  exact e
theorem cut_step {g : List UInt8} {t : ByteArray} (c : Cutting g t) (h : 1 ≤ t.size) {hix : t.size - 1 < t.size} (hb : (t[t.size - 1]'hix).toNat = 48) : Cutting g (t.extract 0 (t.size - 1)) := by
  have hs := cut_size t h
  refine ⟨?_, by rw [hs]; have := c.le; omega, fun j b hj e => ?_⟩
  · rw [hs, Lib.extract_data, c.is, List.drop_zero, List.take_take, show min (t.size - 1 - 0) t.size = t.size - 1 by omega]
  · rw [hs] at hj
    by_cases ej : j = t.size - 1
    · subst ej
      rw [last_eq c h hix] at e
      cases e
      exact UInt8.toNat_inj.1 hb
    · exact c.zs j b (by omega) e
theorem cut_end {g : List UInt8} {t : ByteArray} (c : Cutting g t) (h : 1 ≤ t.size) {hix : t.size - 1 < t.size} (hb : ¬ (t[t.size - 1]'hix).toNat = 48) : Lib.trimRightB g 48 = t.data.toList := by
  rw [c.is]
  refine Lib.trimRightB_take g 48 t.size c.le c.zs (fun b _ e => ?_)
  rw [last_eq c h hix] at e
  cases e
  intro e2
  rw [e2] at hb
  exact hb rfl
set_option maxHeartbeats 4000000 in
theorem decText_spec (n : Int) (w : World) (h1 : -999999999999999999 ≤ n) (h2 : n ≤ 999999999999999999) : Calls Tryz.prog 127 #[.int .i64 n] w fun e w' => e = .returned (.string ⟨(decT n).toArray⟩) ∧ Below w.heap.size w w' := by
  have wn : (Lit.int .i64 n).wf = true := in_wf (by omega) (by omega)
  have hab : (n.natAbs : Int) ≤ 999999999999999999 := by omega
  have wq : (Lit.int .i64 ((n.natAbs : Int) / 10000)).wf = true := in_wf (by omega) (by omega)
  have wr : (Lit.int .i64 ((n.natAbs : Int) % 10000)).wf = true := in_wf (by omega) (by omega)
  have EQ : Hid (Lib.itoa ((n.natAbs : Int) / 10000) = Lib.decDigits (n.natAbs / 10000)) := (by have := Lib.itoa_nonneg (n.natAbs / 10000); simpa using this : Lib.itoa ((n.natAbs : Int) / 10000) = Lib.decDigits (n.natAbs / 10000))
  have ER : Hid (Lib.itoa ((n.natAbs : Int) % 10000) = Lib.decDigits (n.natAbs % 10000)) := (by have := Lib.itoa_nonneg (n.natAbs % 10000); simpa using this : Lib.itoa ((n.natAbs : Int) % 10000) = Lib.decDigits (n.natAbs % 10000))
  have bl := Lib.itoa_length_le ((n.natAbs : Int) / 10000) (by omega) (by omega)
  rw [EQ.out] at bl
  have hfl := frac_len (n.natAbs % 10000) (by omega)
  go_enter Tryz.func127, Tryz.ntmps127
  go_wp2_with fail
  refine (size_any _ _ wn).mono ?_
  rintro e w0 ⟨rfl, hw⟩
  rw [hw]
  clear hw w0
  have hcast : (n.natAbs : Int) = if n < 0 then -n else n := by split <;> omega
  have HC : Hid ((n.natAbs : Int) = if n < 0 then -n else n) := hcast
  clear hcast
  generalize hA : n.natAbs = A at *
  have HA : Hid (n.natAbs = A) := hA
  clear hA
  go_wp2_with fail
  refine (dec_any _ _ wq).mono ?_
  rw [EQ.out]
  rintro e w1 ⟨rfl, hb1⟩
  by_cases h0 : A % 10000 = 0
  · have e0 : ((A : Int) % 10000 != 0) = false := by simp; omega
    by_cases hn : n < 0
    · have HT : Hid (decT n = 45 :: Lib.decDigits (A / 10000)) := (by unfold decT; rw [HA.out, if_pos hn, if_pos h0]; simp : decT n = 45 :: Lib.decDigits (A / 10000))
      go_wp2
      go_ret
      exact ⟨ret_str (by rw [HT.out]; exact cons_str _ _), hb1⟩
    · have HT : Hid (decT n = Lib.decDigits (A / 10000)) := (by unfold decT; rw [HA.out, if_neg hn, if_pos h0]; simp : decT n = Lib.decDigits (A / 10000))
      go_wp2
      go_ret
      exact ⟨ret_str (by rw [HT.out]), hb1⟩
  · have e0 : ((A : Int) % 10000 != 0) = true := by simp; omega
    have HX : Hid (∃ b ∈ frac (A % 10000), b ≠ 48) := frac_nz _ h0
    have HT : Hid (decT n = (if n < 0 then [45] else []) ++ (Lib.decDigits (A / 10000) ++ 46 :: Lib.trimRightB (frac (A % 10000)) 48)) := (by unfold decT; rw [HA.out, if_neg h0] : decT n = (if n < 0 then [45] else []) ++ (Lib.decDigits (A / 10000) ++ 46 :: Lib.trimRightB (frac (A % 10000)) 48))
    clear h0
    go_wp2_with fail
    refine (wide_any _ 4 _ wr (by omega)).mono ?_
    rw [ER.out]
    rintro e w2 ⟨rfl, hb2⟩
    have bw2 : Below w.heap.size w w2 := hb1.trans (hb2.mono hb1.size)
    have FE : Hid (wideL (Lib.decDigits (A % 10000)) 4 = frac (A % 10000)) := rfl
    rw [FE.out]
    generalize frac (A % 10000) = g at *
    go_wp2
    go_loop [6] (fun o => ∃ t : ByteArray, o = .string t ∧ Cutting g t) (fun o => match o with | .string s => s.size | _ => 0)
    case atStart => exact ⟨_, rfl, ⟨by simp [ByteArray.size], by simp [ByteArray.size], fun j b hj hb => by rw [List.getElem?_eq_none (by simp [ByteArray.size] at hj; omega)] at hb; cases hb⟩⟩
    case round =>
      obtain ⟨t, rfl, hcut⟩ := hrel
      have hk1 := nz_take hcut.zs HX.out
      have hk2 : t.size ≤ 4 := by have := hcut.le; omega
      have CU : Hid (Cutting g t) := hcut
      clear hcut
      have hix : t.size - 1 < t.size := by omega
      by_cases hb : (t[t.size - 1]'hix).toNat = 48
      · have CN : Hid (Cutting g (t.extract 0 (t.size - 1))) := cut_step CU.out hk1 hb
        have hb' : (((t[t.size - 1]'hix).toNat : Int) == 48) = true := by rw [beq_iff_eq]; omega
        clear hb
        go_wp2
        go_round
        case rel => exact ⟨_, rfl, CN.out⟩
        case measure =>
          go_light
          have := cut_size t hk1
          simp only [this]
          omega
      · have CE : Hid (Lib.trimRightB g 48 = t.data.toList) := cut_end CU.out hk1 hb
        have hb' : (((t[t.size - 1]'hix).toNat : Int) == 48) = false := by rw [beq_eq_false_iff_ne]; omega
        clear hb
        by_cases hn : n < 0
        · go_wp2
          go_ret
          refine ⟨ret_str ?_, bw2⟩
          go_light
          rw [HT.out, if_pos hn, CE.out]
          apply ByteArray.ext
          apply Array.ext'
          simp
        · go_wp2
          go_ret
          refine ⟨ret_str ?_, bw2⟩
          go_light
          rw [HT.out, if_neg (by omega), CE.out]
          apply ByteArray.ext
          apply Array.ext'
          simp
end Go.Proofs.YtdcdoeolaongkaaGreatDoor
