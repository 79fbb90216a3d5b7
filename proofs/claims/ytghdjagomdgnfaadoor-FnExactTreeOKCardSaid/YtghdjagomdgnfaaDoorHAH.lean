import Derived.Test.YtghdjagomdgnfaaDoorHAG
namespace Go.Proofs.YtghdjagomdgnfaaDoor
open Go.ChangeShapes Go.WideShapes Go.ChangeAt Go.RowKit
set_option linter.unusedVariables false
set_option linter.unusedSimpArgs false
set_option maxRecDepth 100000
open K
theorem RIK.nil {w : World} {a : Option Addr} {cap : Nat} {l : List Int} (h : l = []) : RIK w (.slice a 0 cap) l := by
  subst h
  exact ⟨a, cap, rfl, Nat.zero_le _, fun h => absurd h (by simp)⟩
theorem RIK.dropS {w0 w' : World} {cg co cap c d : Nat} {kids ks : List Int} (hks : kids.drop d = ks) (hc : c ≤ ks.length) (hcap : ks.length ≤ cap) (hcg : cg < w0.heap.size) (hB : Below w0.heap.size w0 w')
    (hcells : ∀ i (h : i < ks.length), w0.cell? ⟨cg, co + i, none⟩ = some (.int .i64 ks[i])) : RIK w' (.slice (some ⟨cg, co + c, none⟩) (ks.length - c) (cap - c)) (kids.drop (d + c)) := by
  have e : kids.drop (d + c) = ks.drop c := by rw [← hks, List.drop_drop]
  rw [e]
  refine ⟨some ⟨cg, co + c, none⟩, cap - c, by simp, by simp; omega, fun _ => ⟨cg, co + c, rfl, Nat.lt_of_lt_of_le hcg hB.size, fun i hi => ?_⟩⟩
  rw [List.length_drop] at hi
  have := (hB.cell (p := ⟨cg, co + (c + i), none⟩) hcg).trans (hcells (c + i) (by omega))
  rw [List.getElem_drop, Nat.add_assoc]
  exact this
set_option maxHeartbeats 16000000 in
theorem kidsFit_any (ts : List Nd) (kids ops : List Int) (ps : List (Int × Int × Int)) (kv nv pv : Value) (w : World)
    (hl : ops.length = kids.length) (hn : kids.length ≤ 1048576) (hpn : ps.length ≤ 1048576)
    (hk : ∀ i (h : i < kids.length), ∃ (j : Nat) (hj : j < ts.length), kids[i] = (j : Int) ∧ ops[i]'(by omega) = ts[j].op ∧ 0 ≤ ts[j].op ∧ ts[j].op ≤ 64)
    (hK : RIK w kv kids) (hN : RNK w nv ts) (hP : RP w pv ps) (hpm : ∀ p ∈ ps, 0 ≤ p.2.2 ∧ p.2.2 ≤ 9223372036854775807) :
    Calls Tryd.prog 57 #[kv, nv, pv] w fun e w' => e = .returned (.bool (fit ops ps)) ∧ Below w.heap.size w w' := by
  obtain ⟨pa, pcap, rfl, hpc⟩ := hP
  obtain ⟨na, ncap, rfl, hnc⟩ := hN
  go_enter Tryd.func57, Tryd.ntmps57
  go_wp2
  go_loopw [0, 12] (fun cv jv wr => ∃ (j d : Nat), j ≤ ps.length ∧ d ≤ kids.length ∧ jv = .int .i64 j ∧ Hid (RIK wr cv (kids.drop d)) ∧ Hid (fit (ops.drop d) (ps.drop j) = fit ops ps) ∧ Below w.heap.size w wr) (fun _ jv _ => ps.length - (intOf jv).toNat)
  case atStart => exact ⟨0, 0, Nat.zero_le _, Nat.zero_le _, rfl, hK, (by simp : fit (ops.drop 0) (ps.drop 0) = fit ops ps), Below.refl _ _⟩
  case round =>
    obtain ⟨j, d, hj, hd, rfl, HK, HF, hbel⟩ := hrel
    obtain ⟨w0, hw0⟩ : ∃ x, x = wr := ⟨_, rfl⟩
    subst hw0
    have hbs := hbel.size
    by_cases hlt : j < ps.length
    · have hlti : (j : Int) < ps.length := by omega
      obtain ⟨pg, po, rfl, hpg, hpc2⟩ := hpc (by omega)
      obtain ⟨p0, p1, p2⟩ := hpc2 j hlt
      have q0 := (hbel.cell (p := ⟨pg, po + j * 3, none⟩) hpg).trans p0
      have q1 := (hbel.cell (p := ⟨pg, po + j * 3 + 1, none⟩) hpg).trans p1
      have q2 := (hbel.cell (p := ⟨pg, po + j * 3 + 2, none⟩) hpg).trans p2
      obtain ⟨hm0, hm1⟩ := hpm _ (List.getElem_mem hlt)
      have HD : Hid (fit (ops.drop d) ((ps[j].1, ps[j].2.1, ps[j].2.2) :: ps.drop (j + 1)) = fit ops ps) := (by rw [show (ps[j].1, ps[j].2.1, ps[j].2.2) = ps[j] from rfl, ← List.drop_eq_getElem_cons hlt]; exact HF.out : fit (ops.drop d) ((ps[j].1, ps[j].2.1, ps[j].2.2) :: ps.drop (j + 1)) = fit ops ps)
      obtain ⟨ca, ccap, rfl, hcp, hcc⟩ := HK.out
      clear p0 p1 p2 HF hpc hpc2
      generalize ps[j].1 = S at *
      generalize ps[j].2.1 = lo at *
      generalize ps[j].2.2 = hi at *
      go_wp2
      have hdl : (kids.drop d).length = kids.length - d := List.length_drop
      have hol : (ops.drop d).length = (kids.drop d).length := by simp [hl]
      have hkd : ∀ i, i < (kids.drop d).length → ∃ (j : Nat) (hj : j < ts.length), (kids.drop d)[i]? = some (j : Int) ∧ (ops.drop d)[i]? = some ts[j].op ∧ 0 ≤ ts[j].op ∧ ts[j].op ≤ 64 := by
        intro i h
        obtain ⟨j, hj, a, b, c⟩ := hk (d + i) (by omega)
        exact ⟨j, hj, by rw [List.getElem?_drop, List.getElem?_eq_getElem (by omega), a], by rw [List.getElem?_drop, List.getElem?_eq_getElem (by omega), b], c⟩
      have HD2 : Hid (∀ (v' : Value) (c : Nat), c ≤ (kids.drop d).length → lead S (ops.drop d) hi.toNat = c → ¬ (c : Int) < lo → fit (ops.drop (d + c)) (ps.drop (j + 1)) = fit ops ps) := (fun v' c _ hc hlo => by
        have := HD.out
        rw [fit, hc, if_neg hlo, List.drop_drop] at this
        exact this : ∀ (v' : Value) (c : Nat), c ≤ (kids.drop d).length → lead S (ops.drop d) hi.toNat = c → ¬ (c : Int) < lo → fit (ops.drop (d + c)) (ps.drop (j + 1)) = fit ops ps)
      have HD3 : Hid (∀ c : Nat, lead S (ops.drop d) hi.toNat = c → (c : Int) < lo → fit ops ps = false) := (fun c hc hlo => by
        have := HD.out
        rw [fit, hc, if_pos hlo] at this
        exact this.symm : ∀ c : Nat, lead S (ops.drop d) hi.toNat = c → (c : Int) < lo → fit ops ps = false)
      clear HD hk hK
      generalize hks : kids.drop d = ks at *
      generalize ops.drop d = os at *
      have hkl : ks.length ≤ 1048576 := by omega
      have HL : Hid (ks.length = kids.length - d) := hdl
      have HO : Hid (os.length = ks.length) := hol
      have HKS : Hid (kids.drop d = ks) := hks
      clear hdl hol HK hks
      go_loopw [9] (fun cv wx => ∃ c : Nat, c ≤ ks.length ∧ (c : Int) ≤ hi ∧ cv = .int .i64 c ∧ Hid (∀ i (h : i < os.length), i < c → hasOp S os[i] = true) ∧ wx.cell? ⟨w0.heap.size, 0, none⟩ = some (.int .u64 S) ∧ wx.cell? ⟨w0.heap.size, 1, none⟩ = some (.int .i64 lo) ∧ wx.cell? ⟨w0.heap.size, 2, none⟩ = some (.int .i64 hi) ∧ w0.heap.size < wx.heap.size ∧ Below w0.heap.size w0 wx) (fun cv _ => ks.length - (intOf cv).toNat)
      case atStart => exact ⟨0, Nat.zero_le _, by omega, rfl, (fun i h hi => by omega : ∀ i (h : i < os.length), i < 0 → hasOp S os[i] = true), by simp [go_sem], by simp [go_sem], by simp [go_sem], by simp, by (go_light; repeat (first | with_reducible assumption | with_reducible exact Below.refl _ _ | (with_reducible refine Below.setCell ?_ ?_ _; rotate_left; (focus first | (simp; done) | (simp; omega) | omega)) | (with_reducible refine Below.alloc ?_ ?_ _; rotate_left; (focus first | (simp; done) | (simp; omega) | omega)) | with_reducible refine Below.drew ?_))⟩
      case round =>
        obtain ⟨c, hc, hch, rfl, HH, e0, e1, e2, hwx, hbx⟩ := hrel
        by_cases hg : c < ks.length ∧ (c : Int) < hi
        · obtain ⟨hg1, hg2⟩ := hg
          obtain ⟨mn, hmn⟩ : ∃ mn, (if hi < (ks.length : Int) then hi else (ks.length : Int)) = mn := ⟨_, rfl⟩
          have hmin : (c : Int) < mn := by rw [← hmn]; split <;> omega
          obtain ⟨x, hx, hkx, hox, hx0, hx1⟩ := hkd c hg1
          obtain ⟨cg, co, rfl, hcg, hcells⟩ := hcc (by omega)
          have d0 := (hbx.cell (p := ⟨cg, co + c, none⟩) hcg).trans (hcells c hg1)
          rw [List.getElem?_eq_getElem hg1] at hkx
          rw [Option.some.inj hkx] at d0
          obtain ⟨ng, no, rfl, hng, hnodes⟩ := hnc (by omega)
          obtain ⟨nkv, hNA, _⟩ := hnodes x hx
          have n0 := (hbx.cell (p := ⟨ng, no + x * 10, none⟩) (show ng < w0.heap.size by omega)).trans ((hbel.cell (p := ⟨ng, no + x * 10, none⟩) hng).trans hNA.c0)
          have hxt : (x : Int) < ts.length := by omega
          have hg1i : (c : Int) < ks.length := by omega
          rw [List.getElem?_eq_getElem (by have := HO.out; omega)] at hox
          have HOX : Hid (∃ h : c < os.length, os[c] = ts[x].op) := ⟨_, Option.some.inj hox⟩
          have HC : Hid (∀ i (h : i < ks.length), w0.cell? ⟨cg, co + i, none⟩ = some (.int .i64 ks[i])) := hcells
          clear hcells hnodes hNA hkx hcc hnc hkd hox
          generalize ts[x].op = y at *
          go_wp2
          go_region_with (go_at_call 76; refine (setOf_any [y] _ _ (by simp) (fun z hz => by rw [List.mem_singleton] at hz; subst hz; exact ⟨hx0, hx1⟩) ?_).mono ?_; exact ri1 _ _ _ _ (by simp); rintro e w1 ⟨rfl, rfl⟩)
          all_goals
            cases hy : (bits .and .u64 S (setI [y]) != 0)
            · have HLD : Hid (lead S os hi.toNat = c) := (by
                obtain ⟨h1, h2⟩ := HOX.out
                exact lead_go h1 (by omega) HH.out (by rw [h2]; exact hy) : lead S os hi.toNat = c)
              have HBX : Hid (Below w.heap.size w ((wr.alloc (.cells #[.int .i64 y] 3)).drew)) := (Below.drew ((hbel.trans (hbx.mono hbs)).alloc (by omega) _) : Below w.heap.size w ((wr.alloc (.cells #[.int .i64 y] 3)).drew))
              by_cases hlo : (c : Int) < lo
              · have HR := HD3.out c HLD.out hlo
                go_wp2
                go_ret
                exact ⟨ret_b HR.symm, HBX.out⟩
              · have HR : Hid (fit (ops.drop (d + c)) (ps.drop (j + 1)) = fit ops ps) := HD2.out kv c hc HLD.out (by omega)
                have HRK : Hid (RIK ((wr.alloc (.cells #[.int .i64 y] 3)).drew) (.slice (some ⟨cg, co + c, none⟩) (ks.length - c) (ccap - c)) (kids.drop (d + c))) := RIK.dropS HKS.out hc hcp hcg (Below.drew (hbx.alloc (by omega) _)) HC.out
                go_wp2
                refine ⟨⟨j + 1, d + c, by omega, (by have := HL.out; omega), by go_num, HRK, HR, HBX.out⟩, ?_⟩
                simp [intOf]; omega
            · have HH2 : Hid (∀ i (h : i < os.length), i < c + 1 → hasOp S os[i] = true) := (fun i h hi => by
                by_cases e : i = c
                · subst e
                  obtain ⟨h1, h2⟩ := HOX.out
                  rw [h2]; exact hy
                · exact HH.out i h (by omega) : ∀ i (h : i < os.length), i < c + 1 → hasOp S os[i] = true)
              have HBX : Hid (Below w0.heap.size w0 ((wr.alloc (.cells #[.int .i64 y] 3)).drew)) := (Below.drew (hbx.alloc (by omega) _) : Below w0.heap.size w0 ((wr.alloc (.cells #[.int .i64 y] 3)).drew))
              clear HD2 HD3 HC HL HO HKS HH
              go_wp2
              refine ⟨⟨c + 1, by omega, by omega, by go_num, HH2, by simp [go_sem, e0, hwx], by simp [go_sem, e1, hwx], by simp [go_sem, e2, hwx], by simp; omega, HBX.out⟩, ?_⟩
              simp [intOf]; omega
        · obtain ⟨mn, hmn⟩ : ∃ mn, (if hi < (ks.length : Int) then hi else (ks.length : Int)) = mn := ⟨_, rfl⟩
          have hmin : ¬ (c : Int) < mn := by rw [← hmn]; split <;> omega
          have hminb : decide ((c : Int) < mn) = false := decide_eq_false hmin
          have HLD : Hid (lead S os hi.toNat = c) := lead_end (by have := HO.out; omega) (by omega) (by have := HO.out; omega) HH.out
          have HBX : Hid (Below w.heap.size w wr) := (hbel.trans (hbx.mono hbs) : Below w.heap.size w wr)
          clear hkd HH hnc
          by_cases hlo : (c : Int) < lo
          · have HR := HD3.out c HLD.out hlo
            clear HD2 HD3
            go_wp2
            go_quiet (fail)
            all_goals
              go_wp2
              go_ret
              exact ⟨ret_b HR.symm, HBX.out.trans ((below_drewNt wr _).mono (HBX.out.size))⟩
          · have HR : Hid (fit (ops.drop (d + c)) (ps.drop (j + 1)) = fit ops ps) := HD2.out kv c hc HLD.out (by omega)
            by_cases hcl : c < ks.length
            · obtain ⟨cg, co, rfl, hcg, hcells⟩ := hcc (by omega)
              have HRK : Hid (∀ w', Below w0.heap.size w0 w' → RIK w' (.slice (some ⟨cg, co + c, none⟩) (ks.length - c) (ccap - c)) (kids.drop (d + c))) := fun w' hb => RIK.dropS HKS.out hc hcp hcg hb hcells
              have hhi : hi = (c : Int) := by omega
              have hci : (c : Int) < ks.length := by omega
              clear HD2 HD3 hcells hmn hmin hminb HLD hg
              subst hhi
              go_wp2
              go_quiet (fail)
              all_goals
                go_wp2
                refine ⟨⟨j + 1, d + c, by omega, (by have := HL.out; omega), by go_num, HRK.out _ (hbx.trans ((below_drewNt wr _).mono hbx.size)), HR, HBX.out.trans ((below_drewNt wr _).mono HBX.out.size)⟩, ?_⟩
                simp [intOf]; omega
            · have hce : c = ks.length := by omega
              have HRK : Hid (∀ w' a cap, RIK w' (.slice a 0 cap) (kids.drop (d + ks.length))) := fun w' a cap => RIK.nil (by rw [← List.drop_drop, HKS.out, List.drop_length])
              clear HD2 HD3 hcc
              subst hce
              by_cases hcap : ccap = ks.length
              · subst hcap
                go_wp2
                go_quiet (fail)
                all_goals
                  go_wp2
                  refine ⟨⟨j + 1, d + ks.length, by omega, (by have := HL.out; omega), by go_num, HRK.out _ _ _, HR, HBX.out.trans ((below_drewNt wr _).mono HBX.out.size)⟩, ?_⟩
                  simp [intOf]; omega
              · go_wp2
                go_quiet (fail)
                all_goals
                  go_wp2
                  refine ⟨⟨j + 1, d + ks.length, by omega, (by have := HL.out; omega), by go_num, HRK.out _ _ _, HR, HBX.out.trans ((below_drewNt wr _).mono HBX.out.size)⟩, ?_⟩
                  simp [intOf]; omega
    · have hjn : j = ps.length := by omega
      subst hjn
      have hlti : ¬ (ps.length : Int) < ps.length := by omega
      obtain ⟨ca, ccap, rfl, hcp, hcc⟩ := HK.out
      have HE : Hid (fit ops ps = decide (((kids.drop d).length : Int) = 0)) := (by
        have := HF.out
        rw [List.drop_length] at this
        rw [← this, fit]
        cases h : ops.drop d with
        | nil =>
          have : (kids.drop d).length = 0 := by rw [List.length_drop]; rw [List.drop_eq_nil_iff] at h; omega
          simp [this]
        | cons x xs =>
          have h2 : (ops.drop d).length = (kids.drop d).length := by simp [hl]
          rw [h] at h2
          simp at h2
          simp; omega : fit ops ps = decide (((kids.drop d).length : Int) = 0))
      clear HK hcc hcp
      generalize (kids.drop d).length = kl at *
      go_wp2
      go_ret
      exact ⟨ret_b (by rw [HE.out]; rfl), hbel⟩
end Go.Proofs.YtghdjagomdgnfaaDoor
