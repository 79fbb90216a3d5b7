import Derived.Test.YtdcdoeolaongkaaGreatDoorR2
import Derived.Lib.IndexMore
namespace Go.Proofs.YtdcdoeolaongkaaGreatDoor.Rd
open Go.ChangeShapes Go.WideShapes Go.ChangeAt Go.RowKit Go.Shelf
set_option linter.unusedVariables false
set_option linter.unusedSimpArgs false
set_option maxRecDepth 100000
theorem fold_app (b : List UInt8) : ∀ acc : Nat, b.foldl (fun n c => 10 * n + (c.toNat - 48)) acc = acc * 10 ^ b.length + b.foldl (fun n c => 10 * n + (c.toNat - 48)) 0 := by
  induction b with
  | nil => intro acc; simp
  | cons c b ih =>
    intro acc
    rw [List.foldl_cons, List.foldl_cons, ih (10 * acc + (c.toNat - 48)), ih (10 * 0 + (c.toNat - 48)), List.length_cons, Nat.pow_succ]
    rw [Nat.add_mul, Nat.mul_comm 10 acc, Nat.mul_assoc acc 10, Nat.mul_comm 10 (10 ^ b.length)]
    simp
    omega
theorem numL_app (a b : List UInt8) : numL (a ++ b) = numL a * 10 ^ b.length + numL b := by
  unfold numL
  rw [List.foldl_append]
  exact fold_app b _
theorem numL_noughts (k : Nat) : numL (List.replicate k 48) = 0 := by
  induction k with
  | zero => rfl
  | succ k ih => rw [List.replicate_succ', numL_snoc, ih]; rfl
theorem allD_app (a b : List UInt8) : allD (a ++ b) = (allD a && allD b) := by simp [allD]
theorem allD_noughts (k : Nat) : allD (List.replicate k 48) = true := by
  simp only [allD, List.all_eq_true]
  intro x hx
  have := List.eq_of_mem_replicate hx
  subst this; decide
/-- A text cut at its first point. -/
def ptL (l : List UInt8) : List UInt8 × List UInt8 × Bool := Lib.cut l [46]
theorem ptL_hit {l : List UInt8} {i : Nat} (hn : ∀ j, j < i → l[j]? ≠ some 46) (h : l[i]? = some 46) : ptL l = (l.take i, l.drop (i + 1), true) := by
  have hix : Lib.index l [46] = i := by
    rw [Lib.index_one]
    have hne : Lib.indexByte l 46 ≠ -1 := fun e => Lib.indexByte_none e i h
    have hge := Lib.index_ge l [46]
    rw [Lib.index_one] at hge
    obtain ⟨o, ho⟩ : ∃ o : Nat, Lib.indexByte l 46 = o := ⟨(Lib.indexByte l 46).toNat, by omega⟩
    obtain ⟨g1, g2⟩ := Lib.indexByte_some ho
    have : o = i := by
      rcases Nat.lt_trichotomy o i with c | c | c
      · exact absurd g1 (hn o c)
      · exact c
      · exact absurd h (g2 i c)
    rw [ho, this]
  unfold ptL Lib.cut
  rw [hix, if_pos (by omega)]
  simp
theorem ptL_none {l : List UInt8} (hn : ∀ j, j < l.length → l[j]? ≠ some 46) : ptL l = (l, [], false) := by
  have hix : Lib.index l [46] = -1 := by
    rw [Lib.index_one]
    have hge := Lib.index_ge l [46]
    rw [Lib.index_one] at hge
    rcases Int.lt_or_le (Lib.indexByte l 46) 0 with c | c
    · omega
    · obtain ⟨o, ho⟩ : ∃ o : Nat, Lib.indexByte l 46 = o := ⟨(Lib.indexByte l 46).toNat, by omega⟩
      obtain ⟨g1, g2⟩ := Lib.indexByte_some ho
      have hl : o < l.length := by
        rcases Nat.lt_or_ge o l.length with c | c
        · exact c
        · rw [List.getElem?_eq_none c] at g1; cases g1
      exact absurd g1 (hn o hl)
  unfold ptL Lib.cut
  rw [hix, if_neg (by omega)]
theorem ptL_false {l : List UInt8} (h : (ptL l).2.2 = false) : (ptL l).2.1 = [] := by
  unfold ptL Lib.cut at h ⊢
  split at h
  · cases h
  · rename_i c; rw [if_neg c]
theorem ptL_le (l : List UInt8) : (ptL l).1.length + (ptL l).2.1.length ≤ l.length := by
  unfold ptL Lib.cut
  split
  · simp; omega
  · simp
/-- The units that the parts make. -/
def unitsL (a b : List UInt8) : Nat := numL a * 10000 + numL b * 10 ^ (4 - b.length)
def okD (c : List UInt8 × List UInt8 × Bool) : Bool := arD c.1 14 && (!c.2.2 || arD c.2.1 4)
/-- A Dec that is read, and whether there is one. -/
def rdD (l : List UInt8) : Int × Bool := if okD (ptL (bodyL l)) = true then ((if negL l = true then -(unitsL (ptL (bodyL l)).1 (ptL (bodyL l)).2.1 : Int) else (unitsL (ptL (bodyL l)).1 (ptL (bodyL l)).2.1 : Int)), true) else (0, false)
theorem pow_le {l : List UInt8} {k : Nat} (h : arD l k = true) : numL l < 10 ^ k := by
  obtain ⟨h1, h2, h3⟩ := arD_is h
  exact Nat.lt_of_lt_of_le (numL_lt h1) (Nat.pow_le_pow_right (by omega) h3)
theorem frac_lt {b : List UInt8} (h : allD b = true) (hl : b.length ≤ 4) : numL b * 10 ^ (4 - b.length) ≤ 9999 := by
  have h1 := numL_lt h
  have h2 : 10 ^ b.length * 10 ^ (4 - b.length) = 10000 := by rw [← Nat.pow_add, show b.length + (4 - b.length) = 4 by omega]
  have h3 : (numL b + 1) * 10 ^ (4 - b.length) ≤ 10 ^ b.length * 10 ^ (4 - b.length) := Nat.mul_le_mul_right _ h1
  rw [h2, Nat.add_mul, Nat.one_mul] at h3
  have h4 : 1 ≤ 10 ^ (4 - b.length) := Nat.pow_pos (by omega)
  omega
theorem units_lt {a b : List UInt8} (h : arD a 14 = true) (hb : allD b = true) (hl : b.length ≤ 4) : unitsL a b < 1000000000000000000 := by
  have h1 := pow_le h
  have h2 := frac_lt hb hl
  have h3 : (10 : Nat) ^ 14 = 100000000000000 := by decide
  unfold unitsL
  omega
theorem units_all {a b : List UInt8} (hl : b.length ≤ 4) : numL (a ++ b ++ List.replicate (4 - b.length) 48) = unitsL a b := by
  rw [numL_app, numL_app, numL_noughts, List.length_replicate]
  unfold unitsL
  rw [Nat.add_mul, Nat.mul_assoc, ← Nat.pow_add, show b.length + (4 - b.length) = 4 by omega]
  rfl
theorem cat_bytes (a b : ByteArray) : (a ++ b).data.toList = a.data.toList ++ b.data.toList := by simp
theorem cat_lists (a b : List UInt8) : (⟨a.toArray⟩ : ByteArray) ++ ⟨b.toArray⟩ = ⟨(a ++ b).toArray⟩ := by
  apply ByteArray.ext; apply Array.ext'; simp
theorem cat3b (a b c : List UInt8) : ((⟨a.toArray⟩ : ByteArray) ++ (⟨b.toArray⟩ : ByteArray)) ++ (⟨c.toArray⟩ : ByteArray) = (⟨(a ++ b ++ c).toArray⟩ : ByteArray) := by rw [cat_lists, cat_lists]
theorem hid_of {p : Prop} (h : p) : Hid p := h
theorem frac_ok {c : List UInt8 × List UInt8 × Bool} (hf : c.2.2 = false → c.2.1 = []) (h : okD c = true) : arD c.1 14 = true ∧ allD c.2.1 = true ∧ c.2.1.length ≤ 4 := by
  simp only [okD, Bool.and_eq_true, Bool.or_eq_true, Bool.not_eq_true'] at h
  refine ⟨h.1, ?_⟩
  rcases h.2 with g | g
  · rw [hf g]; exact ⟨rfl, by simp⟩
  · exact ⟨(arD_is g).1, (arD_is g).2.2⟩
theorem rep_any (k : Nat) (w : World) (hk : k ≤ 4) : Calls Tryz.prog 161 #[.string ⟨#[48]⟩, .int .i64 k] w fun e w' => e = .returned (.string ⟨(List.replicate k 48).toArray⟩) ∧ Below w.heap.size w w' := repeat_any k w hk
set_option maxHeartbeats 4000000 in
theorem readDec_impl (s : ByteArray) (w : World) (hs : s.size ≤ 1048576) (hsh : w.ShapedOpen Tryz.prog) :
    Calls Tryz.prog 103 #[.string s] w fun e w' => e = .returned (.tuple #[.int .i64 (rdD s.data.toList).1, .bool (rdD s.data.toList).2]) ∧ Below w.heap.size w w' := by
  have htp := fun w => Tryz.strings_TrimPrefix s ⟨#[45]⟩ w
  have hhp := fun w => Tryz.strings_HasPrefix s ⟨#[45]⟩ w
  have e45 : (⟨#[45]⟩ : ByteArray).data.toList = [45] := rfl
  have e46 : (⟨#[46]⟩ : ByteArray).data.toList = [46] := rfl
  rw [e45, trimP] at htp
  rw [e45, hasP] at hhp
  have hbl : (bodyL s.data.toList).length ≤ s.size := by rw [body_len, len_eq]; split <;> omega
  have hcut := Tryz.strings_Cut_shaped ⟨(bodyL s.data.toList).toArray⟩ ⟨#[46]⟩ w hsh (by rw [mk_size]; omega)
  rw [e46, mk_list] at hcut
  have hle := ptL_le (bodyL s.data.toList)
  have HFA : Hid ((ptL (bodyL s.data.toList)).2.2 = false → (ptL (bodyL s.data.toList)).2.1 = []) := ptL_false
  have HRD : Hid (rdD s.data.toList = if okD (ptL (bodyL s.data.toList)) = true then ((if negL s.data.toList = true then -(unitsL (ptL (bodyL s.data.toList)).1 (ptL (bodyL s.data.toList)).2.1 : Int) else (unitsL (ptL (bodyL s.data.toList)).1 (ptL (bodyL s.data.toList)).2.1 : Int)), true) else (0, false)) := rfl
  change Calls Tryz.prog 160 _ _ (fun e w' => e = .returned (.tuple #[.string ⟨(ptL (bodyL s.data.toList)).1.toArray⟩, .string ⟨(ptL (bodyL s.data.toList)).2.1.toArray⟩, .bool (ptL (bodyL s.data.toList)).2.2]) ∧ ∃ n, w' = w.drewN n) at hcut
  generalize bodyL s.data.toList = d at *
  generalize negL s.data.toList = ng at *
  generalize ptL d = c at *
  obtain ⟨a, b, pt⟩ := c
  simp only at hcut HRD HFA hle
  have ha := fun w => areDigits_any ⟨a.toArray⟩ 14 w (by rw [mk_size]; omega) (by omega)
  have hb := fun w => areDigits_any ⟨b.toArray⟩ 4 w (by rw [mk_size]; omega) (by omega)
  rw [mk_list] at ha hb
  cases hok : okD (a, b, pt)
  · have HV : Hid (rdD s.data.toList = (0, false)) := by have := HRD.out; rw [hok] at this; exact this
    have cs : arD a 14 = false ∨ (arD a 14 = true ∧ pt = true ∧ arD b 4 = false) := by
      simp only [okD] at hok
      cases h1 : arD a 14
      · exact .inl rfl
      · right
        rw [h1] at hok
        cases pt <;> simp_all
    clear HRD HFA hok
    rcases cs with h1 | ⟨h1, rfl, h2⟩
    · rw [h1] at ha
      go_enter Tryz.func103, Tryz.ntmps103
      go_wp2_with (first | (go_at_call 156; refine (htp _).mono ?_; rintro e w0 ⟨rfl, hw⟩; rw [hw]; clear hw w0) | (go_at_call 160; refine hcut.mono ?_; rintro e w1 ⟨rfl, nq, rfl⟩) | (go_at_call 157; refine (ha _).mono ?_; rintro e w2 ⟨rfl, b1⟩))
      go_ret2
      exact ⟨ret_nb (by rw [HV.out]) (by rw [HV.out]), (drew_below w nq).trans (b1.mono (drew_below w nq).size)⟩
    · rw [h1] at ha
      rw [h2] at hb
      go_enter Tryz.func103, Tryz.ntmps103
      go_wp2_with (first | (go_at_call 156; refine (htp _).mono ?_; rintro e w0 ⟨rfl, hw⟩; rw [hw]; clear hw w0) | (go_at_call 160; refine hcut.mono ?_; rintro e w1 ⟨rfl, nq, rfl⟩) | (go_at_call 157; fail))
      refine (ha _).mono ?_
      rintro e w2 ⟨rfl, b1⟩
      go_wp2_with (go_at_call 157; refine (hb _).mono ?_; rintro e w3 ⟨rfl, b2⟩)
      go_ret2
      have bw1 := (drew_below w nq).trans (b1.mono (drew_below w nq).size)
      exact ⟨ret_nb (by rw [HV.out]) (by rw [HV.out]), bw1.trans (b2.mono bw1.size)⟩
  · obtain ⟨k1, k2, k3⟩ := frac_ok (c := (a, b, pt)) HFA.out hok
    simp only at k1 k2 k3
    have hu := units_lt k1 k2 k3
    have HV : Hid (rdD s.data.toList = ((if ng = true then -(unitsL a b : Int) else (unitsL a b : Int)), true)) := by have := HRD.out; rw [hok] at this; exact this
    have hwl : (a ++ b ++ List.replicate (4 - b.length) 48).length ≤ 18 := by
      have := (arD_is k1).2.2
      simp; omega
    have hw := fun w => wordOf_any ⟨(a ++ b ++ List.replicate (4 - b.length) 48).toArray⟩ w (by rw [mk_size]; omega) (by rw [mk_list, allD_app, allD_app, (arD_is k1).1, k2, allD_noughts]; rfl)
    rw [mk_list, units_all k3] at hw
    have hsg := fun w => signed_any (unitsL a b) ng w (by omega)
    have hse : sgR (unitsL a b) ng = (if ng = true then -(unitsL a b : Int) else (unitsL a b : Int), 0) := by unfold sgR; cases ng <;> simp <;> omega
    rw [hse] at hsg
    simp only at hsg
    have hrp := fun w => rep_any (4 - b.length) w (by omega)
    have EC : Hid (((4 - b.length : Nat) : Int) = (4 : Int) - b.length) := (by omega : ((4 - b.length : Nat) : Int) = (4 : Int) - b.length)
    rw [EC.out] at hrp
    have HCAT := hid_of (cat3b a b (List.replicate (4 - b.length) 48))
    have hbi : (b.length : Int) ≤ 4 := by omega
    have hal : a.length ≤ 14 := (arD_is k1).2.2
    generalize (if ng = true then -(unitsL a b : Int) else (unitsL a b : Int)) = z at *
    generalize unitsL a b = x at *
    have hzl : (List.replicate (4 - b.length) (48 : UInt8)).length ≤ 4 := by simp
    generalize List.replicate (4 - b.length) (48 : UInt8) = zz at *
    rw [k1] at ha
    have cs : pt = false ∨ (pt = true ∧ arD b 4 = true) := by
      simp only [okD] at hok
      rw [k1] at hok
      cases pt <;> simp_all
    clear HRD HFA hok hse hwl k1 k2 EC
    rcases cs with rfl | ⟨rfl, h2⟩
    · go_enter Tryz.func103, Tryz.ntmps103
      go_wp2_with (first | (go_at_call 156; refine (htp _).mono ?_; rintro e w0 ⟨rfl, hw⟩; rw [hw]; clear hw w0) | (go_at_call 160; refine hcut.mono ?_; rintro e w1 ⟨rfl, nq, rfl⟩) | (go_at_call 157; refine (ha _).mono ?_; rintro e w2 ⟨rfl, b1⟩) | (go_at_call 161; refine (hrp _).mono ?_; rintro e w3 ⟨rfl, b2⟩) | (go_at_call 159; rw [HCAT.out]; refine (hw _).mono ?_; rintro e w4 ⟨rfl, b3⟩) | (go_at_call 162; refine (hhp _).mono ?_; rintro e w0 ⟨rfl, hw0⟩; rw [hw0]; clear hw0 w0) | (go_at_call 158; refine (hsg _).mono ?_; rintro e w0 ⟨rfl, hw0⟩; rw [hw0]; clear hw0 w0))
      go_ret2
      have bw1 := (drew_below w nq).trans (b1.mono (drew_below w nq).size)
      have bw2 := bw1.trans (b2.mono bw1.size)
      exact ⟨ret_nb (by rw [HV.out]) (by rw [HV.out]), bw2.trans (b3.mono bw2.size)⟩
    · rw [h2] at hb
      go_enter Tryz.func103, Tryz.ntmps103
      go_wp2_with (first | (go_at_call 156; refine (htp _).mono ?_; rintro e w0 ⟨rfl, hw⟩; rw [hw]; clear hw w0) | (go_at_call 160; refine hcut.mono ?_; rintro e w1 ⟨rfl, nq, rfl⟩) | (go_at_call 157; fail))
      refine (ha _).mono ?_
      rintro e w2 ⟨rfl, b1⟩
      go_wp2_with (first | (go_at_call 157; refine (hb _).mono ?_; rintro e w7 ⟨rfl, b4⟩) | (go_at_call 161; refine (hrp _).mono ?_; rintro e w3 ⟨rfl, b2⟩) | (go_at_call 159; rw [HCAT.out]; refine (hw _).mono ?_; rintro e w4 ⟨rfl, b3⟩) | (go_at_call 162; refine (hhp _).mono ?_; rintro e w0 ⟨rfl, hw0⟩; rw [hw0]; clear hw0 w0) | (go_at_call 158; refine (hsg _).mono ?_; rintro e w0 ⟨rfl, hw0⟩; rw [hw0]; clear hw0 w0))
      go_ret2
      have bw1 := (drew_below w nq).trans (b1.mono (drew_below w nq).size)
      have bw4 := bw1.trans (b4.mono bw1.size)
      have bw2 := bw4.trans (b2.mono bw4.size)
      exact ⟨ret_nb (by rw [HV.out]) (by rw [HV.out]), bw2.trans (b3.mono bw2.size)⟩
end Go.Proofs.YtdcdoeolaongkaaGreatDoor.Rd
