import Derived.Test.YtdcdoeolaongkaaGreatDoorMF
import Derived.Laws.EntriesVeiled
namespace Go.Proofs.YtdcdoeolaongkaaGreatDoor.Mp
open Go.MapKept Go.ChangeMaps
open Go.ChangeShapes Go.WideShapes Go.ChangeAt Go.RowKit
open Go.Proofs.YtdcdoeolaongkaaGreatDoor.Ok
set_option linter.unusedVariables false
set_option linter.unusedSimpArgs false
set_option maxRecDepth 100000
def gvK (fn : Int) (ks : List Int) : Int := if fn = 1 then absK ks else if fn = 6 then nullifK ks else if fn = 12 ∨ fn = 13 then twoK ks else takeK (resK fn) (wantK fn) ks
def allK (ks : List Int) : Bool := ks.all isK
def ckK (fn : Int) (ks : List Int) : Int := if fn < 1 ∨ 13 < fn then -1 else if allK ks then gvK fn ks else -1
theorem mem13 {fn : Int} (h : 1 ≤ fn ∧ fn ≤ 13) : fn ∈ ([1, 2, 3, 4, 5, 6, 7, 8, 9, 10, 11, 12, 13] : List Int) := by simp; omega
theorem not13 {fn : Int} (h : fn < 1 ∨ 13 < fn) : fn ∉ ([1, 2, 3, 4, 5, 6, 7, 8, 9, 10, 11, 12, 13] : List Int) := by simp; omega
theorem allK_step {ks : List Int} {k : Nat} (h : k < ks.length) (hp : allK (ks.take k) = true) (hk : isK ks[k] = true) : allK (ks.take (k + 1)) = true := by
  rw [List.take_add_one, List.getElem?_eq_getElem h]
  simp only [allK, List.all_append, Bool.and_eq_true] at hp ⊢
  exact ⟨hp, by simp [hk]⟩
theorem allK_no {ks : List Int} {k : Nat} (h : k < ks.length) (hk : isK ks[k] = false) : allK ks = false := by
  simp only [allK, List.all_eq_false]
  exact ⟨ks[k], List.getElem_mem h, by simp [hk]⟩
theorem ckK_no {fn : Int} {ks : List Int} (h : allK ks = false) : ckK fn ks = -1 := by
  unfold ckK
  split
  · rfl
  · simp [h]
theorem ckK_yes {fn : Int} {ks : List Int} (h1 : 1 ≤ fn ∧ fn ≤ 13) (h : allK ks = true) : ckK fn ks = gvK fn ks := by
  unfold ckK
  rw [if_neg (by omega)]
  simp [h]
set_option maxHeartbeats 2000000 in
theorem callKind_82 (fn : Int) (ks : List Int) (a : Option Addr) (cap : Nat) (w : World) (hn : ks.length ≤ 1048576) (hk : RIO w (.slice a ks.length cap) ks) (h13 : 1 ≤ fn ∧ fn ≤ 13) (hfn : Hid (fn = 1)) :
    Calls Tryz.prog 11 #[.int .i64 fn, .slice a ks.length cap] w fun e w' => e = .returned (.int .i64 (ckK fn ks)) ∧ Below w.heap.size w w' := by
  go_enter Tryz.func11, Tryz.ntmps11
  go_wp2_with (go_at_call 39; fail)
  refine (table_any _).mono ?_
  rintro e w1 ⟨rfl, hst⟩
  obtain ⟨l, hm, hks, hgood, hbel⟩ := hst
  have HB : Hid (Below w.heap.size w w1) := hbel
  have hrun := hm.look Tryz.underlying72 Tryz.underlying3 (Tryz.zeroValue70 _) fn
  obtain ⟨v, hv1, hv2⟩ := lookL_some (l := l) (k := fn) (by rw [hks]; exact mem13 h13)
  obtain ⟨g, hvg, hG⟩ := hgood _ hv2
  replace hG : GoodG w1 w.heap.size fn g := hG
  simp only at hvg
  subst hvg
  rw [hv1] at hrun
  simp only [Option.getD_some, Option.isSome_some] at hrun
  generalize workN fn = wn at hrun
  have hkk := hk.below hbel
  have HK : Hid (RIO w1 (.slice a ks.length cap) ks) := hkk
  clear hgood hks hm hv1 hv2 hbel hk
  obtain ⟨a', cap', hsl, hcells⟩ := hkk
  simp only [Value.slice.injEq] at hsl
  obtain ⟨rfl, _, rfl⟩ := hsl
  have hg : g = fnV 82 := by simpa [GoodG, hfn.out] using hG
  subst hg
  have HG : Hid (gvK fn ks = absK ks) := (by simp [gvK, hfn.out] : gvK fn ks = absK ks)
  clear hG
  go_wp2
  go_loopw [8, 19] (fun _ i wr => ∃ k : Nat, k ≤ ks.length ∧ i = .int .i64 k ∧ Hid (allK (ks.take k) = true) ∧ wr.cell? ⟨w1.heap.size, 0, none⟩ = some (Value.func (Fn.func 82) #[] #[]) ∧ Below w1.heap.size w1 wr) (fun _ i _ => ks.length - (intOf i).toNat)
  case atStart => exact ⟨0, Nat.zero_le _, rfl, (rfl : allK [] = true), by simp [go_sem], by repeat (first | with_reducible exact Below.refl _ _ | refine Below.setCell ?_ (by simp) _ | refine Below.alloc ?_ (by simp) _)⟩
  case round =>
    obtain ⟨k, hkl, rfl, HA, hgc, hb⟩ := hrel
    by_cases hlt : k < ks.length
    · have hlti : (k : Int) < ks.length := by omega
      obtain ⟨gb, o, rfl, hgb, hcs⟩ := hcells (by omega)
      have d1 := (hb.cell (p := ⟨gb, o + k, none⟩) hgb).trans (hcs k hlt)
      have HN : Hid (isK ks[k] = false → ckK fn ks = -1) := fun h => ckK_no (allK_no hlt h)
      have HY : Hid (isK ks[k] = true → allK (ks.take (k + 1)) = true) := fun h => allK_step hlt HA.out h
      clear hcs hcells HA
      generalize ks[k] = x at d1 HN HY
      have hcon := fun w => isKind_impl x w
      cases hf : isK x
      · have HN' : Hid (ckK fn ks = -1) := HN.out hf
        clear HN HY
        rw [hf] at hcon
        go_wp2_with (go_at_call 40; refine (hcon _).mono ?_; rintro e w' ⟨rfl, rfl⟩)
        go_ret
        exact ⟨ret_int HN'.out.symm, HB.out.trans (hb.mono HB.out.size)⟩
      · have HY' : Hid (allK (ks.take (k + 1)) = true) := HY.out hf
        clear HN HY
        rw [hf] at hcon
        go_wp2_with (go_at_call 40; refine (hcon _).mono ?_; rintro e w' ⟨rfl, rfl⟩)
        go_roundw
        case rel => exact ⟨k + 1, by omega, by go_num, HY', hgc, hb⟩
        case measure => simp [intOf]; omega
    · have hkn : k = ks.length := by omega
      subst hkn
      have hlti : ¬ (ks.length : Int) < ks.length := by omega
      rw [List.take_length] at HA
      have HR : Hid (ckK fn ks = gvK fn ks) := ckK_yes h13 HA.out
      clear HA
      go_wp2_with (go_at_call 82; fail)
      refine (abs_any ks _ _ _ hn (HK.out.below hb)).mono ?_
      rintro e w2 ⟨rfl, hb2⟩
      go_wp2
      go_ret
      exact ⟨ret_int (HR.out.trans HG.out).symm, HB.out.trans ((hb.trans (hb2.mono hb.size)).mono HB.out.size)⟩
set_option maxHeartbeats 2000000 in
theorem callKind_89 (fn : Int) (ks : List Int) (a : Option Addr) (cap : Nat) (w : World) (hn : ks.length ≤ 1048576) (hk : RIO w (.slice a ks.length cap) ks) (h13 : 1 ≤ fn ∧ fn ≤ 13) (hfn : Hid (fn = 6)) :
    Calls Tryz.prog 11 #[.int .i64 fn, .slice a ks.length cap] w fun e w' => e = .returned (.int .i64 (ckK fn ks)) ∧ Below w.heap.size w w' := by
  go_enter Tryz.func11, Tryz.ntmps11
  go_wp2_with (go_at_call 39; fail)
  refine (table_any _).mono ?_
  rintro e w1 ⟨rfl, hst⟩
  obtain ⟨l, hm, hks, hgood, hbel⟩ := hst
  have HB : Hid (Below w.heap.size w w1) := hbel
  have hrun := hm.look Tryz.underlying72 Tryz.underlying3 (Tryz.zeroValue70 _) fn
  obtain ⟨v, hv1, hv2⟩ := lookL_some (l := l) (k := fn) (by rw [hks]; exact mem13 h13)
  obtain ⟨g, hvg, hG⟩ := hgood _ hv2
  replace hG : GoodG w1 w.heap.size fn g := hG
  simp only at hvg
  subst hvg
  rw [hv1] at hrun
  simp only [Option.getD_some, Option.isSome_some] at hrun
  generalize workN fn = wn at hrun
  have hkk := hk.below hbel
  have HK : Hid (RIO w1 (.slice a ks.length cap) ks) := hkk
  clear hgood hks hm hv1 hv2 hbel hk
  obtain ⟨a', cap', hsl, hcells⟩ := hkk
  simp only [Value.slice.injEq] at hsl
  obtain ⟨rfl, _, rfl⟩ := hsl
  have hg : g = fnV 89 := by simpa [GoodG, hfn.out] using hG
  subst hg
  have HG : Hid (gvK fn ks = nullifK ks) := (by simp [gvK, hfn.out] : gvK fn ks = nullifK ks)
  clear hG
  go_wp2
  go_loopw [8, 19] (fun _ i wr => ∃ k : Nat, k ≤ ks.length ∧ i = .int .i64 k ∧ Hid (allK (ks.take k) = true) ∧ wr.cell? ⟨w1.heap.size, 0, none⟩ = some (Value.func (Fn.func 89) #[] #[]) ∧ Below w1.heap.size w1 wr) (fun _ i _ => ks.length - (intOf i).toNat)
  case atStart => exact ⟨0, Nat.zero_le _, rfl, (rfl : allK [] = true), by simp [go_sem], by repeat (first | with_reducible exact Below.refl _ _ | refine Below.setCell ?_ (by simp) _ | refine Below.alloc ?_ (by simp) _)⟩
  case round =>
    obtain ⟨k, hkl, rfl, HA, hgc, hb⟩ := hrel
    by_cases hlt : k < ks.length
    · have hlti : (k : Int) < ks.length := by omega
      obtain ⟨gb, o, rfl, hgb, hcs⟩ := hcells (by omega)
      have d1 := (hb.cell (p := ⟨gb, o + k, none⟩) hgb).trans (hcs k hlt)
      have HN : Hid (isK ks[k] = false → ckK fn ks = -1) := fun h => ckK_no (allK_no hlt h)
      have HY : Hid (isK ks[k] = true → allK (ks.take (k + 1)) = true) := fun h => allK_step hlt HA.out h
      clear hcs hcells HA
      generalize ks[k] = x at d1 HN HY
      have hcon := fun w => isKind_impl x w
      cases hf : isK x
      · have HN' : Hid (ckK fn ks = -1) := HN.out hf
        clear HN HY
        rw [hf] at hcon
        go_wp2_with (go_at_call 40; refine (hcon _).mono ?_; rintro e w' ⟨rfl, rfl⟩)
        go_ret
        exact ⟨ret_int HN'.out.symm, HB.out.trans (hb.mono HB.out.size)⟩
      · have HY' : Hid (allK (ks.take (k + 1)) = true) := HY.out hf
        clear HN HY
        rw [hf] at hcon
        go_wp2_with (go_at_call 40; refine (hcon _).mono ?_; rintro e w' ⟨rfl, rfl⟩)
        go_roundw
        case rel => exact ⟨k + 1, by omega, by go_num, HY', hgc, hb⟩
        case measure => simp [intOf]; omega
    · have hkn : k = ks.length := by omega
      subst hkn
      have hlti : ¬ (ks.length : Int) < ks.length := by omega
      rw [List.take_length] at HA
      have HR : Hid (ckK fn ks = gvK fn ks) := ckK_yes h13 HA.out
      clear HA
      go_wp2_with (go_at_call 89; fail)
      refine (nullif_any ks _ _ _ hn (HK.out.below hb)).mono ?_
      rintro e w2 ⟨rfl, hb2⟩
      go_wp2
      go_ret
      exact ⟨ret_int (HR.out.trans HG.out).symm, HB.out.trans ((hb.trans (hb2.mono hb.size)).mono HB.out.size)⟩
set_option maxHeartbeats 2000000 in
theorem callKind_96 (fn : Int) (ks : List Int) (a : Option Addr) (cap : Nat) (w : World) (hn : ks.length ≤ 1048576) (hk : RIO w (.slice a ks.length cap) ks) (h13 : 1 ≤ fn ∧ fn ≤ 13) (hfn : Hid (fn = 12 ∨ fn = 13)) :
    Calls Tryz.prog 11 #[.int .i64 fn, .slice a ks.length cap] w fun e w' => e = .returned (.int .i64 (ckK fn ks)) ∧ Below w.heap.size w w' := by
  go_enter Tryz.func11, Tryz.ntmps11
  go_wp2_with (go_at_call 39; fail)
  refine (table_any _).mono ?_
  rintro e w1 ⟨rfl, hst⟩
  obtain ⟨l, hm, hks, hgood, hbel⟩ := hst
  have HB : Hid (Below w.heap.size w w1) := hbel
  have hrun := hm.look Tryz.underlying72 Tryz.underlying3 (Tryz.zeroValue70 _) fn
  obtain ⟨v, hv1, hv2⟩ := lookL_some (l := l) (k := fn) (by rw [hks]; exact mem13 h13)
  obtain ⟨g, hvg, hG⟩ := hgood _ hv2
  replace hG : GoodG w1 w.heap.size fn g := hG
  simp only at hvg
  subst hvg
  rw [hv1] at hrun
  simp only [Option.getD_some, Option.isSome_some] at hrun
  generalize workN fn = wn at hrun
  have hkk := hk.below hbel
  have HK : Hid (RIO w1 (.slice a ks.length cap) ks) := hkk
  clear hgood hks hm hv1 hv2 hbel hk
  obtain ⟨a', cap', hsl, hcells⟩ := hkk
  simp only [Value.slice.injEq] at hsl
  obtain ⟨rfl, _, rfl⟩ := hsl
  have hg : g = fnV 96 := by
    unfold GoodG at hG
    rw [if_neg (by have := hfn.out; omega), if_neg (by have := hfn.out; omega), if_pos hfn.out] at hG
    exact hG
  subst hg
  have HG : Hid (gvK fn ks = twoK ks) := (by unfold gvK; rw [if_neg (by have := hfn.out; omega), if_neg (by have := hfn.out; omega), if_pos hfn.out] : gvK fn ks = twoK ks)
  clear hG
  go_wp2
  go_loopw [8, 19] (fun _ i wr => ∃ k : Nat, k ≤ ks.length ∧ i = .int .i64 k ∧ Hid (allK (ks.take k) = true) ∧ wr.cell? ⟨w1.heap.size, 0, none⟩ = some (Value.func (Fn.func 96) #[] #[]) ∧ Below w1.heap.size w1 wr) (fun _ i _ => ks.length - (intOf i).toNat)
  case atStart => exact ⟨0, Nat.zero_le _, rfl, (rfl : allK [] = true), by simp [go_sem], by repeat (first | with_reducible exact Below.refl _ _ | refine Below.setCell ?_ (by simp) _ | refine Below.alloc ?_ (by simp) _)⟩
  case round =>
    obtain ⟨k, hkl, rfl, HA, hgc, hb⟩ := hrel
    by_cases hlt : k < ks.length
    · have hlti : (k : Int) < ks.length := by omega
      obtain ⟨gb, o, rfl, hgb, hcs⟩ := hcells (by omega)
      have d1 := (hb.cell (p := ⟨gb, o + k, none⟩) hgb).trans (hcs k hlt)
      have HN : Hid (isK ks[k] = false → ckK fn ks = -1) := fun h => ckK_no (allK_no hlt h)
      have HY : Hid (isK ks[k] = true → allK (ks.take (k + 1)) = true) := fun h => allK_step hlt HA.out h
      clear hcs hcells HA
      generalize ks[k] = x at d1 HN HY
      have hcon := fun w => isKind_impl x w
      cases hf : isK x
      · have HN' : Hid (ckK fn ks = -1) := HN.out hf
        clear HN HY
        rw [hf] at hcon
        go_wp2_with (go_at_call 40; refine (hcon _).mono ?_; rintro e w' ⟨rfl, rfl⟩)
        go_ret
        exact ⟨ret_int HN'.out.symm, HB.out.trans (hb.mono HB.out.size)⟩
      · have HY' : Hid (allK (ks.take (k + 1)) = true) := HY.out hf
        clear HN HY
        rw [hf] at hcon
        go_wp2_with (go_at_call 40; refine (hcon _).mono ?_; rintro e w' ⟨rfl, rfl⟩)
        go_roundw
        case rel => exact ⟨k + 1, by omega, by go_num, HY', hgc, hb⟩
        case measure => simp [intOf]; omega
    · have hkn : k = ks.length := by omega
      subst hkn
      have hlti : ¬ (ks.length : Int) < ks.length := by omega
      rw [List.take_length] at HA
      have HR : Hid (ckK fn ks = gvK fn ks) := ckK_yes h13 HA.out
      clear HA
      go_wp2_with (go_at_call 96; fail)
      refine (two_any ks _ _ _ hn (HK.out.below hb)).mono ?_
      rintro e w2 ⟨rfl, hb2⟩
      go_wp2
      go_ret
      exact ⟨ret_int (HR.out.trans HG.out).symm, HB.out.trans ((hb.trans (hb2.mono hb.size)).mono HB.out.size)⟩
set_option maxHeartbeats 2000000 in
theorem callKind_149 (fn : Int) (ks : List Int) (a : Option Addr) (cap : Nat) (w : World) (hn : ks.length ≤ 1048576) (hk : RIO w (.slice a ks.length cap) ks) (h13 : 1 ≤ fn ∧ fn ≤ 13) (hfn : Hid (¬ fn = 1 ∧ ¬ fn = 6 ∧ ¬ (fn = 12 ∨ fn = 13))) :
    Calls Tryz.prog 11 #[.int .i64 fn, .slice a ks.length cap] w fun e w' => e = .returned (.int .i64 (ckK fn ks)) ∧ Below w.heap.size w w' := by
  go_enter Tryz.func11, Tryz.ntmps11
  go_wp2_with (go_at_call 39; fail)
  refine (table_any _).mono ?_
  rintro e w1 ⟨rfl, hst⟩
  obtain ⟨l, hm, hks, hgood, hbel⟩ := hst
  have HB : Hid (Below w.heap.size w w1) := hbel
  have hrun := hm.look Tryz.underlying72 Tryz.underlying3 (Tryz.zeroValue70 _) fn
  obtain ⟨v, hv1, hv2⟩ := lookL_some (l := l) (k := fn) (by rw [hks]; exact mem13 h13)
  obtain ⟨g, hvg, hG⟩ := hgood _ hv2
  replace hG : GoodG w1 w.heap.size fn g := hG
  simp only at hvg
  subst hvg
  rw [hv1] at hrun
  simp only [Option.getD_some, Option.isSome_some] at hrun
  generalize workN fn = wn at hrun
  have hkk := hk.below hbel
  have HK : Hid (RIO w1 (.slice a ks.length cap) ks) := hkk
  clear hgood hks hm hv1 hv2 hbel hk
  obtain ⟨a', cap', hsl, hcells⟩ := hkk
  simp only [Value.slice.injEq] at hsl
  obtain ⟨rfl, _, rfl⟩ := hsl
  have hT : Taker w1 w.heap.size g (resK fn) (wantK fn) := by
    unfold GoodG at hG
    rw [if_neg hfn.out.1, if_neg hfn.out.2.1, if_neg hfn.out.2.2] at hG
    exact hG
  have HG : Hid (gvK fn ks = takeK (resK fn) (wantK fn) ks) := (by unfold gvK; rw [if_neg hfn.out.1, if_neg hfn.out.2.1, if_neg hfn.out.2.2] : gvK fn ks = takeK (resK fn) (wantK fn) ks)
  have HW : Hid ((wantK fn).length ≤ 100) := (by unfold wantK; (repeat' split) <;> simp : (wantK fn).length ≤ 100)
  clear hG
  generalize resK fn = rs at HG hT
  generalize wantK fn = ws at HG HW hT
  have HT0 : Hid (Taker w1 w.heap.size g rs ws) := hT
  obtain ⟨bw, br, sb, rfl, _, ⟨l1, l2, l3⟩, t1, t2, t3⟩ := hT
  have HT : Hid ((bw < w1.heap.size ∧ br < w1.heap.size ∧ sb < w1.heap.size) ∧ w1.cell? ⟨bw, 0, none⟩ = some (.slice (some ⟨sb, 0, none⟩) ws.length ws.length) ∧ w1.cell? ⟨br, 0, none⟩ = some (.int .i64 rs) ∧ ∀ i (h : i < ws.length), w1.cell? ⟨sb, i, none⟩ = some (.int .i64 ws[i])) := ⟨⟨l1, l2, l3⟩, t1, t2, t3⟩
  clear HT0 t1 t2 t3 l1 l2 l3
  go_wp2
  go_loopw [8, 19] (fun _ i wr => ∃ k : Nat, k ≤ ks.length ∧ i = .int .i64 k ∧ Hid (allK (ks.take k) = true) ∧ wr.cell? ⟨w1.heap.size, 0, none⟩ = some (Value.func (Fn.func 149) #[] #[Value.pointer (some ⟨bw, 0, none⟩), Value.pointer (some ⟨br, 0, none⟩)]) ∧ Below w1.heap.size w1 wr) (fun _ i _ => ks.length - (intOf i).toNat)
  case atStart => exact ⟨0, Nat.zero_le _, rfl, (rfl : allK [] = true), by simp [go_sem], by repeat (first | with_reducible exact Below.refl _ _ | refine Below.setCell ?_ (by simp) _ | refine Below.alloc ?_ (by simp) _)⟩
  case round =>
    obtain ⟨k, hkl, rfl, HA, hgc, hb⟩ := hrel
    by_cases hlt : k < ks.length
    · have hlti : (k : Int) < ks.length := by omega
      obtain ⟨gb, o, rfl, hgb, hcs⟩ := hcells (by omega)
      have d1 := (hb.cell (p := ⟨gb, o + k, none⟩) hgb).trans (hcs k hlt)
      have HN : Hid (isK ks[k] = false → ckK fn ks = -1) := fun h => ckK_no (allK_no hlt h)
      have HY : Hid (isK ks[k] = true → allK (ks.take (k + 1)) = true) := fun h => allK_step hlt HA.out h
      clear hcs hcells HA
      generalize ks[k] = x at d1 HN HY
      have hcon := fun w => isKind_impl x w
      cases hf : isK x
      · have HN' : Hid (ckK fn ks = -1) := HN.out hf
        clear HN HY
        rw [hf] at hcon
        go_wp2_with (go_at_call 40; refine (hcon _).mono ?_; rintro e w' ⟨rfl, rfl⟩)
        go_ret
        exact ⟨ret_int HN'.out.symm, HB.out.trans (hb.mono HB.out.size)⟩
      · have HY' : Hid (allK (ks.take (k + 1)) = true) := HY.out hf
        clear HN HY
        rw [hf] at hcon
        go_wp2_with (go_at_call 40; refine (hcon _).mono ?_; rintro e w' ⟨rfl, rfl⟩)
        go_roundw
        case rel => exact ⟨k + 1, by omega, by go_num, HY', hgc, hb⟩
        case measure => simp [intOf]; omega
    · have hkn : k = ks.length := by omega
      subst hkn
      have hlti : ¬ (ks.length : Int) < ks.length := by omega
      rw [List.take_length] at HA
      have HR : Hid (ckK fn ks = gvK fn ks) := ckK_yes h13 HA.out
      clear HA
      go_wp2_with (go_at_call 149; fail)
      refine (taking1_any 0 rs ws ks _ _ bw br sb _ hn HW.out (HK.out.below hb) ((hb.cell (p := ⟨bw, 0, none⟩) HT.out.1.1).trans HT.out.2.1) ((hb.cell (p := ⟨br, 0, none⟩) HT.out.1.2.1).trans HT.out.2.2.1) (fun i hi => (hb.cell (p := ⟨sb, i, none⟩) HT.out.1.2.2).trans (HT.out.2.2.2 i hi))).mono ?_
      rintro e w2 ⟨rfl, rfl⟩
      go_wp2
      go_ret
      exact ⟨ret_int (HR.out.trans HG.out).symm, HB.out.trans (hb.mono HB.out.size)⟩
set_option maxHeartbeats 1000000 in
theorem callKind_none (fn : Int) (ks : List Int) (a : Option Addr) (cap : Nat) (w : World) (hfn : fn < 1 ∨ 13 < fn) :
    Calls Tryz.prog 11 #[.int .i64 fn, .slice a ks.length cap] w fun e w' => e = .returned (.int .i64 (ckK fn ks)) ∧ Below w.heap.size w w' := by
  have HR : Hid (ckK fn ks = -1) := (by unfold ckK; rw [if_pos hfn] : ckK fn ks = -1)
  go_enter Tryz.func11, Tryz.ntmps11
  go_wp2_with (go_at_call 39; fail)
  refine (table_any _).mono ?_
  rintro e w1 ⟨rfl, hst⟩
  obtain ⟨l, hm, hks, hgood, hbel⟩ := hst
  have hrun := hm.look Tryz.underlying72 Tryz.underlying3 (Tryz.zeroValue70 _) fn
  rw [lookL_none (by rw [hks]; exact not13 hfn)] at hrun
  simp only [Option.getD_none, Option.isSome_none] at hrun
  clear hgood hks hm
  go_wp2
  go_ret
  refine ⟨ret_int HR.out.symm, hbel.trans ?_⟩
  have hs := hbel.size
  exact (Below.refl _ _).alloc hs _
theorem callKind_any (fn : Int) (ks : List Int) (a : Option Addr) (cap : Nat) (w : World) (hn : ks.length ≤ 1048576) (hk : RIO w (.slice a ks.length cap) ks) :
    Calls Tryz.prog 11 #[.int .i64 fn, .slice a ks.length cap] w fun e w' => e = .returned (.int .i64 (ckK fn ks)) ∧ Below w.heap.size w w' := by
  by_cases h : fn < 1 ∨ 13 < fn
  · exact callKind_none fn ks a cap w h
  have h13 : 1 ≤ fn ∧ fn ≤ 13 := by omega
  by_cases c1 : fn = 1
  · exact callKind_82 fn ks a cap w hn hk h13 c1
  by_cases c2 : fn = 6
  · exact callKind_89 fn ks a cap w hn hk h13 c2
  by_cases c3 : fn = 12 ∨ fn = 13
  · exact callKind_96 fn ks a cap w hn hk h13 c3
  · exact callKind_149 fn ks a cap w hn hk h13 ⟨c1, c2, c3⟩
end Go.Proofs.YtdcdoeolaongkaaGreatDoor.Mp
