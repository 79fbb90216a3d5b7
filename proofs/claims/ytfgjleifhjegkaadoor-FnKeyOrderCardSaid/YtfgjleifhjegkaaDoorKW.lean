import Derived.Test.YtfgjleifhjegkaaDoorKV
import Derived.Test.YtfgjleifhjegkaaDoorW4
namespace Go.Proofs.YtfgjleifhjegkaaDoor
open Go.ChangeShapes Go.WideShapes Go.ChangeAt Go.RowKit
set_option linter.unusedVariables false
set_option linter.unusedSimpArgs false
set_option maxRecDepth 100000
def valsB (us : List VA) : Bool := decide (us.length ≤ 16) && us.all (fun t => vok t.k t.n t.s)
theorem ret_bb {a b : Bool} (h : a = b) : Ending.returned (.bool a) = .returned (.bool b) := by rw [h]
set_option maxHeartbeats 8000000 in
theorem valid_spec (a : Option Addr) (ca : Nat) (us : List VA) (w : World) (hb : BVS 1048576 us) (ha : RS 3 CV 0 w (.slice a us.length ca) us) :
    Calls Tryd.prog 29 #[.slice a us.length ca] w fun e w' => e = .returned (.bool (valsB us)) ∧ Below w.heap.size w w' := by
  have hn := hb.1
  have HZ : Hid (∀ t ∈ us, BV 1048576 t) := hb.2
  clear hb
  by_cases hbig : (16 : Int) < us.length
  · have HF : Hid (valsB us = false) := (by unfold valsB; rw [decide_eq_false (show ¬ us.length ≤ 16 by omega)]; rfl : valsB us = false)
    clear ha
    go_enter Tryd.func29, Tryd.ntmps29
    go_wp2
    go_ret
    exact ⟨ret_bb HF.out.symm, Below.refl _ _⟩
  obtain ⟨a', ca', he, hva⟩ := ha
  simp only [Value.slice.injEq] at he
  obtain ⟨rfl, _, rfl⟩ := he
  have HA : Hid (valsB us = us.all (fun t => vok t.k t.n t.s)) := (by unfold valsB; rw [decide_eq_true (show us.length ≤ 16 by omega)]; rfl : valsB us = us.all (fun t => vok t.k t.n t.s))
  go_enter Tryd.func29, Tryd.ntmps29
  go_wp2
  go_loopw [10] (fun i wr => ∃ k : Nat, k ≤ us.length ∧ i = .int .i64 k ∧ Hid (∀ j (h : j < us.length), j < k → vok us[j].k us[j].n us[j].s = true) ∧ Below w.heap.size w wr) (fun i _ => us.length - (intOf i).toNat)
  case atStart => exact ⟨0, Nat.zero_le _, rfl, (fun j _ h => absurd h (Nat.not_lt_zero _) : ∀ j (h : j < us.length), j < 0 → vok us[j].k us[j].n us[j].s = true), Below.refl _ _⟩
  case round =>
    obtain ⟨k, hk, rfl, HO, hbel⟩ := hrel
    have hbs := hbel.size
    by_cases hlt : k < us.length
    · have hlti : (k : Int) < us.length := by omega
      obtain ⟨g, o, rfl, _, hg, hgc⟩ := hva (by omega)
      obtain ⟨cs, hC, hcell⟩ := hgc k hlt
      have hB := HZ.out us[k] (List.getElem_mem hlt)
      have HST : Hid (vok us[k].k us[k].n us[k].s = true → ∀ j (h : j < us.length), j < k + 1 → vok us[j].k us[j].n us[j].s = true) := (fun z j h hj => by
        by_cases e : j = k
        · subst e; exact z
        · exact HO.out j h (by omega) : vok us[k].k us[k].n us[k].s = true → ∀ j (h : j < us.length), j < k + 1 → vok us[j].k us[j].n us[j].s = true)
      have HNo : Hid (vok us[k].k us[k].n us[k].s = false → valsB us = false) := (fun z => by rw [HA.out, List.all_eq_false]; exact ⟨us[k], List.getElem_mem hlt, by simp [z]⟩ : vok us[k].k us[k].n us[k].s = false → valsB us = false)
      clear HO hgc hva
      generalize hx : us[k] = t at *
      clear hx
      unfold CV at hC
      subst hC
      have c0 : wr.cell? ⟨g, o + k * 3, none⟩ = some (.int .i64 t.k) := (hbel.cell (p := ⟨g, o + k * 3, none⟩) hg).trans (hcell 0 (by omega))
      have c1 : wr.cell? ⟨g, o + k * 3 + 1, none⟩ = some (.int .i64 t.n) := (hbel.cell (p := ⟨g, o + k * 3 + 1, none⟩) hg).trans (hcell 1 (by omega))
      have c2 : wr.cell? ⟨g, o + k * 3 + 2, none⟩ = some (.string t.s) := (hbel.cell (p := ⟨g, o + k * 3 + 2, none⟩) hg).trans (hcell 2 (by omega))
      clear hcell
      have bwA : Below w.heap.size w (wr.alloc (.cells #[.int .i64 t.k, .int .i64 t.n, .string t.s] 39)) := hbel.alloc hbs _
      have hvk := vok_spec t.k t.n t.s (wr.alloc (.cells #[.int .i64 t.k, .int .i64 t.n, .string t.s] 39)) hB
      cases hv : vok t.k t.n t.s
      · have HF := hid (HNo.out hv)
        rw [hv] at hvk
        clear HST HNo hv
        go_wp2_with (go_at_call 26; fail)
        refine hvk.mono ?_
        rintro e w1 ⟨rfl, hb1⟩
        have bw1 : Below w.heap.size w w1 := bwA.trans (hb1.mono bwA.size)
        clear hvk hb1
        go_wp2
        go_ret
        exact ⟨ret_bb HF.out.symm, bw1⟩
      · have HV := hid (HST.out hv)
        rw [hv] at hvk
        clear HST HNo hv
        go_wp2_with (go_at_call 26; fail)
        refine hvk.mono ?_
        rintro e w1 ⟨rfl, hb1⟩
        have bw1 : Below w.heap.size w w1 := bwA.trans (hb1.mono bwA.size)
        clear hvk hb1
        go_wp2
        go_roundw
        case rel => exact ⟨k + 1, by omega, by go_num, HV, bw1⟩
        case measure => simp [intOf]; omega
    · have hkn : k = us.length := by omega
      subst hkn
      have hlti : ¬ (us.length : Int) < us.length := by omega
      have HT : Hid (valsB us = true) := (by rw [HA.out, List.all_eq_true]; intro t ht; obtain ⟨j, hj, rfl⟩ := List.getElem_of_mem ht; exact HO.out j hj hj : valsB us = true)
      clear HO
      go_wp2
      go_ret
      exact ⟨ret_bb HT.out.symm, hbel⟩
end Go.Proofs.YtfgjleifhjegkaaDoor
