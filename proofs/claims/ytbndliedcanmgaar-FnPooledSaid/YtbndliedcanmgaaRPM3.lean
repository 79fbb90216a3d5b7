import Derived.Test.YtbndliedcanmgaaRPB
import Derived.Deep.CutRange
import Derived.Deep.DeepCutAuto
namespace Go.Proofs.YtbndliedcanmgaaR
open Go.ChangeShapes Go.WideShapes Go.ChangeAt Go.RowKit
set_option linter.unusedVariables false
set_option linter.unusedSimpArgs false
set_option maxRecDepth 100000
set_option maxHeartbeats 8000000 in
theorem pooled_law (v0 : Option Addr) (len cap : Nat) (w : World) (hlen : len ≤ maxLen) (hby : Bytes w w.heap.size v0 len) :
    Calls Try.prog 3 #[.slice v0 len cap] w fun e w' => e = .returned (.bool true) ∧ Below w.heap.size w w' := by
  have HBY := hid hby
  clear hby
  by_cases hbig : 1048576 < len
  · have hbi : (1048576 : Int) < len := by omega
    go_enter Try.func3, Try.ntmps3
    go_wp2
    go_ret
    exact ⟨rfl, Below.refl _ _⟩
  have hbi : ¬ (1048576 : Int) < len := by omega
  go_enter Try.func3, Try.ntmps3
  go_wp2_with (go_at_call 5; fail)
  refine (draw_any v0 len cap w (by omega) HBY.out).mono ?_
  rintro e w1 ⟨v, ds, rfl, hop, hdl, hb1⟩
  have HSU := hid hop.sub
  obtain ⟨oa, oc, rfl⟩ := hop.form
  have HB1 := hid hb1
  clear HBY hop hb1 hbi hlen hbig
  go_upto_if 24 with (fail)
  go_cut [3] from 17 (fun s3 wc => ∃ (ds' : List POp), ds'.length ≤ 4001 ∧ Hid (SubR w.heap.size wc s3 ds') ∧ Hid (Below w.heap.size w wc) ∧ ∃ a n c, s3 = .slice a n c)
  case first =>
    by_cases h4 : ds.length = 4000
    · have hd : ((ds.length : Int) == 4000) = true := by rw [h4]; rfl
      rcases HSU.out with ⟨hv, _⟩ | ⟨g, off, cp, hv, hs⟩
      · simp only [Value.slice.injEq] at hv
        omega
      · simp only [Value.slice.injEq] at hv
        obtain ⟨rfl, _, rfl⟩ := hv
        obtain ⟨d, r, rfl⟩ : ∃ d r, ds = d :: r := by
          cases ds with
          | nil => simp at h4
          | cons d r => exact ⟨d, r, rfl⟩
        have HT := hid hs.tail
        have hle := hs.le
        rw [h4] at hle hd ⊢
        have hr : r.length = 3999 := by simpa using h4
        have HR := hid hr
        clear hs HSU h4 hdl hr
        go_wp2
        go_meet
        case rel => exact ⟨r, by have := HR.out; omega, hid (.inr ⟨g, off + 2, oc - 1, by rw [HR.out], HT.out⟩), HB1, _, _, _, rfl⟩
    · have hd : ((ds.length : Int) == 4000) = false := by simp; omega
      go_wp2
      go_meet
      case rel => exact ⟨ds, hdl, HSU, HB1, _, _, _, rfl⟩
  case rest =>
    obtain ⟨ds', hl', HS, HBc, ca, cn, cc, rfl⟩ := hcut
    clear HSU HB1 hdl
    have HBA : Hid (Below w.heap.size w (wc.alloc (.cells #[.int .i64 4, .int .i64 0] 26))) := HBc.out.alloc HBc.out.size _
    have HSA : Hid (SubR w.heap.size (wc.alloc (.cells #[.int .i64 4, .int .i64 0] 26)) (.slice ca cn cc) ds') := HS.out.below (below_alloc _ _)
    have HN := hid (op_new wc 4 0)
    obtain ⟨us, hus⟩ : ∃ z, z = ds' ++ [(⟨4, 0⟩ : POp)] := ⟨_, rfl⟩
    have HUS := hid hus
    clear HBc HS
    go_wp2_with (at_builtin
                 refine append_sub rfl (.tmp 27) (.tmp 29) rfl w.heap.size w w _ _ ds' ⟨4, 0⟩ rfl HSA.out (Nat.le_refl _) HBA.out hl' ⟨wc.heap.size, 0, none⟩ rfl HN.out ?_
                 intro v2 w2 hom hbw2
                 rw [← hus] at hom
                 clear hus
                 have HOM := hid hom
                 have HB2 := hid hbw2
                 obtain ⟨hpos, g, off, cp, rfl, hg2, hc2⟩ := hom
                 clear hc2 hbw2 HSA HBA HN)
    have hul : us.length ≤ 4002 := by have := HUS.out; rw [this]; simp; omega
    obtain ⟨⟨L, cd⟩, hLc⟩ : ∃ z, poolF us = z := ⟨_, rfl⟩
    have HLC := hid hLc
    clear hLc hl'
    refine (poolRun_spec (some ⟨g, off, none⟩) cp us w2 HOM.out.rs).mono ?_
    rintro e w3 ⟨v3, ps3, rfl, ho3, _, hb3⟩
    rw [HLC.out]
    simp only
    obtain ⟨a3, c3, rfl⟩ := ho3.form
    have HB3 : Hid (Below w.heap.size w w3) := HB2.out.trans (hb3.mono HB2.out.size)
    have HOM3 := hid (HOM.out.below hb3)
    have hg3 : g < w3.heap.size := Nat.lt_of_lt_of_le hg2 hb3.size
    clear HB2 HOM ho3 hb3 hg2
    obtain ⟨i0, hi0, hz0, hz1, hz2⟩ := info_parts infoOp
    have HM3 := hid (OpR.made w3 (Nat.le_refl _))
    have HOA := hid (HOM3.out.below (below_alloc w3 (.cells #[] 26)))
    have HNA : Hid (∀ (j : Nat) (u : Value), (us.flatMap opC)[j]? = some u → (w3.alloc (.cells #[] 26)).cell? ((⟨g, off, none⟩ : Addr).add j) = some u) := (fun j u hj => by
      obtain ⟨g', off', cp', hv, _, hc⟩ := HOA.out.at'
      simp only [Value.slice.injEq, Option.some.injEq, Addr.mk.injEq] at hv
      obtain ⟨⟨rfl, rfl, _⟩, _⟩ := hv
      rw [Addr.add_lit]
      exact hc j u hj : ∀ (j : Nat) (u : Value), (us.flatMap opC)[j]? = some u → (w3.alloc (.cells #[] 26)).cell? ((⟨g, off, none⟩ : Addr).add j) = some u)
    have hsA : w3.heap.size ≤ (w3.alloc (.cells #[] 26)).heap.size := by simp
    have HOC : Hid (∀ u ∈ us.flatMap opC, u.oneCell' = true) := (fun u hu => by
      obtain ⟨o, _, ho⟩ := List.mem_flatMap.1 hu
      simp [opC] at ho
      rcases ho with rfl | rfl <;> rfl : ∀ u ∈ us.flatMap opC, u.oneCell' = true)
    have HBA3 : Hid (Below w.heap.size w (w3.alloc (.cells #[] 26))) := HB3.out.alloc HB3.out.size _
    have HFL := hid (flatO_len us)
    clear HOM3
    go_wp2_with (at_builtin
                 refine wpList_append_own _ rfl (.tmp 37) (.tmp 38) 23 rfl w3.heap.size 26 i0 _ 2 16 Try.underlying23 hi0 hz0 hz1 hz2 rfl (by decide) _ _ _ rfl HM3.out ⟨g, off, none⟩ us.length cp (us.flatMap opC) rfl HFL.out HNA.out HOC.out (by unfold maxLen; simp; omega) (by simp; omega) hsA ?_
                 intro v4 w4 hown hgrow hiff
                 clear hiff
                 have HO4 : Hid (OpR w3.heap.size w4 v4 us) := (by unfold OpR; simpa using hown : OpR w3.heap.size w4 v4 us)
                 obtain ⟨a4, c4, hv4⟩ := HO4.out.form
                 subst hv4
                 have hlow : ∀ k, k < w3.heap.size → w4.heap[k]? = (w3.alloc (.cells #[] 26)).heap[k]? := fun k hk => hgrow.block k (by simp; omega) (fun e => by have := (HM3.out.lt k e.symm).1; omega)
                 have HB4 : Hid (Below w.heap.size w w4) := (⟨hgrow.os.trans HBA3.out.os, hgrow.tape.trans HBA3.out.tape, hgrow.output.trans HBA3.out.output, Nat.le_trans HBA3.out.size hgrow.size, fun k hk => (hlow k (Nat.lt_of_lt_of_le hk HB3.out.size)).trans (HBA3.out.block k hk)⟩ : Below w.heap.size w w4)
                 have HOM4 : Hid (OpsM w4 (.slice (some ⟨g, off, none⟩) us.length cp) us) := (by
                   obtain ⟨hp, g', off', cp', hv, hg', hc⟩ := HOA.out
                   simp only [Value.slice.injEq, Option.some.injEq, Addr.mk.injEq] at hv
                   obtain ⟨⟨rfl, rfl, _⟩, _, rfl⟩ := hv
                   exact ⟨hp, g, off, cp, rfl, Nat.lt_of_lt_of_le hg' hgrow.size, fun j u hj => (World.cell?_of_block (a := ⟨g, off + j, none⟩) (hlow g hg3)).trans (hc j u hj)⟩ : OpsM w4 (.slice (some ⟨g, off, none⟩) us.length cp) us)
                 clear hown hgrow hlow HM3 HOA HNA HBA3 hsA HB3 HFL HOC)
    refine (poolRun_impl a4 c4 us w4 HO4.out.rs).mono ?_
    rintro e w5 ⟨v5, ps, rfl, ho5, hm5, hb5⟩
    rw [HLC.out] at hm5 ⊢
    simp only at hm5 ⊢
    obtain ⟨a5, c5, rfl⟩ := ho5.form
    have HO5 := hid ho5
    have HM5 := hid hm5
    have HB5 : Hid (Below w.heap.size w w5) := HB4.out.trans (hb5.mono HB4.out.size)
    have HOM5 := hid (HOM4.out.below hb5)
    clear HB4 HOM4 HO4 ho5 hm5 hb5 hg3 hi0 hz0 hz1 hz2 i0
    by_cases hcd : cd = 0
    · subst hcd
      obtain ⟨hu4, hall, hLr⟩ := poolF_zero HLC.out
      have hpl : ps.length = us.length := by have := congrArg List.length HM5.out; rw [List.length_map, hLr, (run_len us _ _).1] at this; exact this
      obtain ⟨g5, cg5, hv5, hgot⟩ := HO5.out.got (by omega)
      simp only [Value.slice.injEq] at hv5
      obtain ⟨rfl, _, rfl⟩ := hv5
      have HGM := hid hgot
      have HALL := hid hall
      rw [hLr] at HM5
      rw [hpl]
      have HPL := hid hpl
      clear hpl hall hgot HO5 HLC hul
      go_wp2_with (first | (refine make_bools rfl _ _ _ rfl rfl rfl ?_; intro w8 hA8 hb8; have HA8 := hid hA8; have HB8 := hid hb8; clear hA8 hb8) | (have hq6 := HA6; refine make_ints rfl _ _ _ rfl rfl rfl ?_; intro w7 hA7 hb7; have HA7 := hid hA7; have HB7 := hid hb7; clear hA7 hb7 hq6) | (refine make_ints rfl _ _ _ rfl rfl rfl ?_; intro w6 hA6 hb6; have HA6 := hid hA6; have HB6 := hid hb6; clear hA6 hb6))
      have hs56 : w5.heap.size < w6.heap.size := HA6.out.lt
      have hs67 : w6.heap.size < w7.heap.size := HA7.out.lt
      have hs78 : w7.heap.size < w8.heap.size := HA8.out.lt
      have HT0 : Hid (Tri w5 w8 w5.heap.size w6.heap.size w7.heap.size (fun _ => 0) (fun _ => 0) (fun _ => false)) := (⟨(HA6.out.below HB7.out).below HB8.out, HA7.out.below HB8.out, HA8.out, (HB6.out.trans (HB7.out.mono HB6.out.size)).trans (HB8.out.mono (by omega)), by omega, by omega⟩ : Tri w5 w8 w5.heap.size w6.heap.size w7.heap.size (fun _ => 0) (fun _ => 0) (fun _ => false))
      obtain ⟨gl, hgl⟩ : ∃ z, z = w5.heap.size := ⟨_, rfl⟩
      have HGL := hid hgl
      rw [← hgl] at HT0 ⊢
      clear HA6 HA7 HA8 HB6 HB7 HB8 hs56 hs67 hs78 hgl
      generalize w6.heap.size = gd at HT0 ⊢
      generalize w7.heap.size = gm at HT0 ⊢
      go_loopw [58] (fun iv wx => ∃ (i : Nat) (fs : List Fr) (hd : Nat) (la di : Nat → Int) (me : Nat → Bool), i ≤ us.length ∧ iv = .int .i64 (i : Int) ∧ Hid (LS us i fs hd la di me) ∧ Hid (Tri w5 wx gl gd gm la di me)) (fun iv _ => us.length - (intOf iv).toNat)
      case atStart => exact ⟨0, _, _, _, _, _, Nat.zero_le _, rfl, ls0 us, HT0⟩
      case round =>
        clear HT0
        obtain ⟨i, fs, hd, la, di, me, hiu, rfl, HL, HT⟩ := hrel
        have hneg := HT.out.ne
        by_cases hlt : i < us.length
        · have hlti : (i : Int) < us.length := by omega
          have hip : i < ps.length := by have := HPL.out; omega
          have hb5r : Below w5.heap.size w5 wr := by have h5 := HT.out.bel; rw [HGL.out] at h5; exact h5
          have hok := (List.all_eq_true.1 HALL.out) us[i] (List.getElem_mem hlt)
          obtain ⟨g', off', cp', hv', hg', hc'⟩ := (HOM5.out.below hb5r).at'
          simp only [Value.slice.injEq, Option.some.injEq, Addr.mk.injEq] at hv'
          obtain ⟨⟨rfl, rfl, _⟩, _, rfl⟩ := hv'
          have u0 : wr.cell? ⟨g, off + i * 2, none⟩ = some (.int .i64 us[i].kd) := hc' (i * 2) _ ((flatO us i hlt 0 (by omega)).trans rfl)
          have u1 : wr.cell? ⟨g, off + i * 2 + 1, none⟩ = some (.int .i64 us[i].pg) := by have := hc' (i * 2 + 1) _ (flatO us i hlt 1 (by omega)); rw [show off + i * 2 + 1 = off + (i * 2 + 1) by omega]; exact this
          have HG2 := hid (HGM.out.below hb5r)
          obtain ⟨r0, r1, r2⟩ := HG2.out.row i hip
          obtain ⟨oa, oc, hps, hnest⟩ := HG2.out.nest i hip
          have hout := HL.out.out hlt HM5.out hip
          have hgl5 : g5 < gl := by rw [HGL.out]; exact HGM.out.lt
          rw [hps] at r2
          rw [hout] at r0 r1 r2 hnest
          have hglr : gl < wr.heap.size := HT.out.al.lt
          have hgdr : gd < wr.heap.size := HT.out.ad.lt
          have hgmr : gm < wr.heap.size := HT.out.am.lt
          have hg5r : g5 < wr.heap.size := by omega
          have hnl : 0 < (stepF us[i] fs hd).1.all.length → ∃ b, oa = some ⟨b, 0, none⟩ ∧ b < gl ∧ ∀ t (ht : t < (stepF us[i] fs hd).1.all.length), wr.cell? ⟨b, t, none⟩ = some (.int .i64 (stepF us[i] fs hd).1.all[t]) := fun hp => by
            obtain ⟨oa', oc', hps', hn5⟩ := HGM.out.nest i hip
            rw [hps] at hps'
            simp only [Value.slice.injEq] at hps'
            obtain ⟨rfl, _, rfl⟩ := hps'
            rw [hout] at hn5
            obtain ⟨b, e1, e2, e3⟩ := hn5 hp
            exact ⟨b, e1, by rw [HGL.out]; exact e2, fun t ht => (hb5r.cell (p := ⟨b, t, none⟩) e2).trans (e3 t ht)⟩
          have HNL := hid hnl
          have HOK := hid hok
          obtain ⟨x, hx⟩ : ∃ x, stepF us[i] fs hd = x := ⟨_, rfl⟩
          have HX := hid hx
          rw [hx] at r0 r1 r2 HNL
          have hal := step_len us[i] fs hd
          rw [hx] at hal
          obtain ⟨⟨rd, wt, al⟩, fs2, h2⟩ := x
          simp only at hal
          simp only at r0 r1 r2 HNL
          obtain ⟨kd, hkd⟩ : ∃ z, us[i].kd = z := ⟨_, rfl⟩
          obtain ⟨pg, hpg⟩ : ∃ z, us[i].pg = z := ⟨_, rfl⟩
          have HKD := hid hkd
          have HPG := hid hpg
          rw [hkd] at u0
          rw [hpg] at u1
          clear hc' hb5r hok hnest hnl hout hps hx hkd hpg HG2 hg'
          have HRC := hid (rcase hlt HL.out HOK.out HX.out HKD.out HPG.out)
          have HLK := hid (HRC.out.lok HL.out)
          go_wp2
          have HR0 : Hid (RdB ((wr.alloc (.cells #[.int .i64 kd, .int .i64 pg] 26)).alloc (.cells #[.int .i64 rd, .int .i64 wt, .slice oa al.length oc] 33)) wr.heap.size kd pg rd wt oa oc al gl) := rb_new (Nat.le_of_lt hglr) HNL.out
          have HT0 : Hid (Tri w5 ((wr.alloc (.cells #[.int .i64 kd, .int .i64 pg] 26)).alloc (.cells #[.int .i64 rd, .int .i64 wt, .slice oa al.length oc] 33)) gl gd gm la (diK la di (al.take 0)) me) := (by rw [List.take_zero, diK_nil]; exact HT.out.below ((below_alloc wr _).alloc (by simp) _) : Tri w5 ((wr.alloc (.cells #[.int .i64 kd, .int .i64 pg] 26)).alloc (.cells #[.int .i64 rd, .int .i64 wt, .slice oa al.length oc] 33)) gl gd gm la (diK la di (al.take 0)) me)
          clear u0 u1 r0 r1 r2 HNL HT HOK hg5r hgl5 hlti
          generalize (wr.alloc (.cells #[.int .i64 kd, .int .i64 pg] 26)).alloc (.cells #[.int .i64 rd, .int .i64 wt, .slice oa al.length oc] 33) = W0 at HR0 HT0 ⊢
          generalize wr.heap.size = nb at *
          go_loopw [70] (fun kv wx => ∃ k : Nat, k ≤ al.length ∧ kv = .int .i64 (k : Int) ∧ Hid (RdB wx nb kd pg rd wt oa oc al gl) ∧ Hid (Tri w5 wx gl gd gm la (diK la di (al.take k)) me)) (fun kv _ => al.length - (intOf kv).toNat)
          case atStart => exact ⟨0, Nat.zero_le _, rfl, HR0, HT0⟩
          case round =>
            clear HR0 HT0
            rename World => wx
            obtain ⟨k, hkl, rfl, HR, HT⟩ := hrel
            by_cases hk : k < al.length
            · have hki : (k : Int) < al.length := by omega
              obtain ⟨b, rfl, hbg, hbc⟩ := HR.out.nest (by omega)
              obtain ⟨x0, x3⟩ := HLK.out.1 al[k] (List.getElem_mem hk)
              obtain ⟨pn, hpn⟩ : ∃ z : Nat, al[k] = (z : Int) := ⟨al[k].toNat, by omega⟩
              have hp3 : pn < 300 := by omega
              have hp3i : ¬ (300 : Int) ≤ pn := by omega
              have hp0i : ¬ (pn : Int) < 0 := by omega
              have ck := hbc k hk
              rw [hpn] at ck
              have cl := (HT.out.al.at' pn hp3).1
              obtain ⟨cd1, fd1⟩ := HT.out.ad.at' pn hp3
              have p2 := HR.out.p2
              have HTN : Hid (Tri w5 (wx.setCell ⟨gd, pn, none⟩ (.int .i64 (la pn))) gl gd gm la (diK la di (al.take (k + 1))) me) := (by rw [← diK_on la di al k pn hk hpn]; exact HT.out.setD pn hp3 _ : Tri w5 (wx.setCell ⟨gd, pn, none⟩ (.int .i64 (la pn))) gl gd gm la (diK la di (al.take (k + 1))) me)
              have HRN : Hid (RdB (wx.setCell ⟨gd, pn, none⟩ (.int .i64 (la pn))) nb kd pg rd wt (some ⟨b, 0, none⟩) oc al gl) := HR.out.setO (by omega) hgdr
              have hinc : ∀ k' (h : k = k' + 1), ¬ (pn : Int) ≤ al[k']'(by omega) ∧ wx.cell? ⟨b, k', none⟩ = some (.int .i64 (al[k']'(by omega))) := fun k' h => by
                subst h
                have := HLK.out.2 k' hk
                exact ⟨by omega, hbc k' (by omega)⟩
              have HINC := hid hinc
              generalize la pn = lx at cl HTN HRN
              generalize diK la di (al.take k) pn = dx at cd1
              clear hbc hinc hpn x0 x3 HR HT
              cases k with
              | zero =>
                as_aux_lemma =>
                  go_wp2
                  go_roundw
                  case rel => exact ⟨1, by omega, by go_num, HRN, HTN⟩
                  case measure => simp [intOf]; omega
              | succ k' =>
                obtain ⟨hn1, cp1⟩ := HINC.out k' rfl
                have hk0 : (0 : Int) < (k' : Int) + 1 := by omega
                have hwk : IntKind.i64.wrap (k' : Int) = (k' : Int) := by simp only [IntKind.wrap_i64]; omega
                have hwk2 : IntKind.i64.wrap ((k' : Int) + 1 - 1) = (k' : Int) := by simp only [IntKind.wrap_i64]; omega
                have hk'l : (k' : Int) < al.length := by omega
                generalize al[k'] = qx at hn1 cp1
                clear HINC
                as_aux_lemma =>
                  go_wp2
                  go_roundw
                  case rel => exact ⟨k' + 1 + 1, by omega, by go_num, HRN, HTN⟩
                  case measure => simp [intOf]; omega
            · have hki : ¬ (k : Int) < al.length := by omega
              have hke : k = al.length := by omega
              subst hke
              rw [List.take_length] at HT
              have o0 := HR.out.o0
              have o1 := HR.out.o1
              have p0 := HR.out.p0
              have p1 := HR.out.p1
              have p2 := HR.out.p2
              have hnb : nb + 2 ≤ wx.heap.size := HR.out.sz
              rcases HRC.out with ⟨rfl, rfl, rfl, hcl, rfl⟩ | ⟨hk3, hp0, hp3, rfl, U⟩
              · have HLN := hid (HL.out.next4 hlt HKD.out hcl)
                clear hcl HRC HLK HR
                as_aux_lemma =>
                  go_wp2
                  go_roundw
                  case rel => exact ⟨i + 1, _, _, _, _, _, by omega, by go_num, HLN, HT⟩
                  case measure => simp [intOf]; omega
              · obtain ⟨pn, rfl⟩ : ∃ z : Nat, pg = (z : Int) := ⟨pg.toNat, by omega⟩
                rw [diK_nil] at HT
                have hpt : us[i].pg.toNat = pn := by rw [HPG.out]; omega
                have uw0 := U.wr0
                have uw1 := U.wr1
                have ur := U.rd
                have ur3 := U.rd3
                have urm := U.rdm
                have ug := U.got
                have HLN := HL.out.nextU hlt (by rw [HKD.out]; exact hk3) U
                have hla : laU la us[i] = if 1 < kd then updN la pn (la pn + 1) else la := by unfold laU; rw [HKD.out, hpt]
                rw [HX.out] at uw0 uw1 ur ur3 urm ug HLN
                simp only [HPG.out, HKD.out, hpt, hla, Int.toNat_natCast] at uw0 uw1 ur ur3 urm ug HLN
                replace HLN := hid HLN
                have hpn3 : pn < 300 := by omega
                have hpi : (pn : Int) < 300 := by omega
                have hpi0 : (0 : Int) ≤ pn := by omega
                obtain ⟨mp, fm⟩ := HT.out.am.at' pn hpn3
                obtain ⟨cl, fl⟩ := HT.out.al.at' pn hpn3
                have hw1 : ¬ wt < -1 := by omega
                have hw2 : ¬ (300 : Int) ≤ wt := by omega
                have hbg := (HL.out.big pn)
                have hwl : IntKind.i64.wrap (la pn + 1) = la pn + 1 := by simp only [IntKind.wrap_i64]; omega
                clear U HRC HLK hla hpt
                have hk4 : (kd == 4) = false := by simp; omega
                have HUG := hid ug
                have HKR := hid hk3
                go_upto_region 32 with (fail)
                go_cut [169] (fun s wy => s = .bool false ∧ wy = wx)
                case first =>
                  by_cases hk3' : kd < 3
                  · have hke : (kd == 3) = false := by simp; omega
                    rcases ur with hr | hr
                    · have hm : me pn = true := by
                        cases hmm : me pn with
                        | false => exact absurd ((urm hk3' hmm).symm.trans hr) (by omega)
                        | true => rfl
                      rw [hm] at mp
                      rw [hr] at p0
                      clear hm hr urm ur3 ug
                      as_aux_lemma =>
                        go_wp2
                        go_meet
                        case rel => exact ⟨rfl, rfl⟩
                    · have hr1 : ((pn : Int) != -1) = true := by simp
                      rw [hr] at p0
                      clear hr urm ur3 ug
                      cases hmm : me pn with
                      | true =>
                        rw [hmm] at mp
                        clear hmm
                        as_aux_lemma =>
                          go_wp2
                          go_meet
                          case rel => exact ⟨rfl, rfl⟩
                      | false =>
                        rw [hmm] at mp
                        clear hmm
                        as_aux_lemma =>
                          go_wp2
                          go_meet
                          case rel => exact ⟨rfl, rfl⟩
                  · have hkd3 : kd = 3 := by omega
                    have hr := ur3 hkd3
                    rw [hr] at p0
                    rw [hkd3] at o0
                    clear hr urm ur3 ug ur hk3'
                    as_aux_lemma =>
                      go_wp2
                      go_meet
                      case rel => exact ⟨rfl, rfl⟩
                case rest =>
                  obtain ⟨rfl, hwy⟩ := hcut
                  subst hwy
                  clear ur3 urm ug mp fm cl fl p2 o0 o1
                  go_upto_if 172 with (fail)
                  go_cut [] (fun wy => Hid (Tri w5 wy gl gd gm la (diU la di wt) me) ∧ Hid (RdB wy nb kd (pn : Int) rd wt oa oc [] gl))
                  case first =>
                    by_cases hwt : wt = -1
                    · have hw0 : ¬ (0 : Int) ≤ wt := by omega
                      have hdu : diU la di wt = di := by unfold diU; rw [if_neg hw0]
                      have HTF : Hid (Tri w5 wc gl gd gm la (diU la di wt) me) := (by rw [hdu]; exact HT.out : Tri w5 wc gl gd gm la (diU la di wt) me)
                      clear hdu hwt
                      as_aux_lemma =>
                        go_wp2
                        go_meet
                        case rel => exact ⟨HTF, HR⟩
                    · obtain ⟨wn, hwn⟩ : ∃ z : Nat, wt = (z : Int) := ⟨wt.toNat, by omega⟩
                      have hw0 : (0 : Int) ≤ wt := by omega
                      have hwn3 : wn < 300 := by omega
                      have hwni : (wn : Int) < 300 := by omega
                      have hdu : diU la di wt = updN di wn (la wn) := by unfold diU; rw [if_pos hw0, hwn]; rfl
                      obtain ⟨cw, fw⟩ := HT.out.al.at' wn hwn3
                      obtain ⟨cdw, fdw⟩ := HT.out.ad.at' wn hwn3
                      have HTF : Hid (Tri w5 ((wc.setCell ⟨gd, wn, none⟩ (.int .i64 (la wn))).drew) gl gd gm la (diU la di wt) me) := (by rw [hdu]; exact (HT.out.setD wn hwn3 (la wn)).drew : Tri w5 ((wc.setCell ⟨gd, wn, none⟩ (.int .i64 (la wn))).drew) gl gd gm la (diU la di wt) me)
                      have HRF : Hid (RdB ((wc.setCell ⟨gd, wn, none⟩ (.int .i64 (la wn))).drew) nb kd (pn : Int) rd wt oa oc [] gl) := (HR.out.setO (Nat.le_of_lt hneg.1) hgdr).drew
                      rw [hwn] at p1
                      clear hdu hwt hwn
                      as_aux_lemma =>
                        go_wp2
                        go_region
                        go_wp2
                        go_meet
                        case rel => exact ⟨HTF, HRF⟩
                  case rest =>
                    clear HT HR p0 p1 hnb
                    obtain ⟨HT, HR⟩ := hcut
                    have o0 := HR.out.o0
                    have o1 := HR.out.o1
                    have p0 := HR.out.p0
                    have p1 := HR.out.p1
                    have hnb := HR.out.sz
                    obtain ⟨mp, fm⟩ := HT.out.am.at' pn hpn3
                    obtain ⟨cl, fl⟩ := HT.out.al.at' pn hpn3
                    go_upto_region 36 with (fail)
                    go_cut [197] (fun s wz => s = .bool false ∧ Hid (Tri w5 wz gl gd gm la (diU la di wt) me) ∧ Hid (RdB wz nb kd (pn : Int) rd wt oa oc [] gl))
                    case first =>
                      rcases ur with hr | hr
                      · rw [hr] at p0
                        have hd0 : decide ((0 : Int) ≤ -1) = false := rfl
                        clear hr mp fm fl o0 o1 p1
                        as_aux_lemma =>
                          go_quiet (fail)
                          go_wp2
                          go_meet
                          case rel => exact ⟨rfl, hid (HT.out.drewN _), hid (HR.out.drewN _)⟩
                      · have cdp := (HT.out.ad.at' pn hpn3).1
                        rw [HUG.out (by omega)] at cdp
                        rw [hr] at p0
                        have hd0 : decide ((0 : Int) ≤ (pn : Int)) = true := by simp
                        clear hr mp fm fl o0 o1 p1
                        generalize la pn = lx at cl cdp
                        as_aux_lemma =>
                          go_quiet (fail)
                          go_wp2
                          go_meet
                          case rel => exact ⟨rfl, hid (HT.out.drewN _), hid (HR.out.drewN _)⟩
                    case rest =>
                      clear HT HR o0 o1 p0 p1 hnb mp fm cl fl
                      obtain ⟨rfl, HT, HR⟩ := hcut
                      have o0 := HR.out.o0
                      have o1 := HR.out.o1
                      have p0 := HR.out.p0
                      have p1 := HR.out.p1
                      have hnb := HR.out.sz
                      obtain ⟨mp, fm⟩ := HT.out.am.at' pn hpn3
                      obtain ⟨cl, fl⟩ := HT.out.al.at' pn hpn3
                      clear p0 p1
                      by_cases hk1 : 1 < kd
                      · go_wp2
                        go_roundw
                        case rel => first | (exact ⟨i + 1, _, _, _, _, _, by omega, by go_num, (by have h := HLN.out; rw [if_pos hk1] at h; exact hid h), hid ((HT.out.setM pn hpn3 true).setL pn hpn3 _)⟩) | ((repeat apply Exists.intro); exact ⟨⟨i + 1, _, _, _, _, _, by omega, by go_num, (by have h := HLN.out; rw [if_pos hk1] at h; exact hid h), hid ((HT.out.setM pn hpn3 true).setL pn hpn3 _)⟩, rfl⟩)
                        case measure => simp [intOf]; omega
                      · go_wp2
                        go_roundw
                        case rel => first | (exact ⟨i + 1, _, _, _, _, _, by omega, by go_num, (by have h := HLN.out; rw [if_neg hk1] at h; exact hid h), hid (HT.out.setM pn hpn3 true)⟩) | ((repeat apply Exists.intro); exact ⟨⟨i + 1, _, _, _, _, _, by omega, by go_num, (by have h := HLN.out; rw [if_neg hk1] at h; exact hid h), hid (HT.out.setM pn hpn3 true)⟩, rfl⟩)
                        case measure => simp [intOf]; omega
        · have hie : i = us.length := by omega
          subst hie
          have hlti : ¬ (us.length : Int) < us.length := by omega
          have HEQ : Hid (∀ p, p < 300 → la p = di p) := (HL.out.fin ⟨hpos, by omega⟩ (by
            have e := HUS.out
            have hl : us.length - 1 = ds'.length := by rw [e]; simp
            simp only [hl]
            simp [e]) : ∀ p, p < 300 → la p = di p)
          have HBW : Hid (Below w.heap.size w wr) := HB5.out.trans (by have h5 := HT.out.bel; rw [HGL.out] at h5; exact h5.mono HB5.out.size)
          clear HL HOM5 HGM HM5 HALL hlti
          go_wp2
          go_loopw [215] (fun pv wx => ∃ p : Nat, p ≤ 300 ∧ pv = .int .i64 (p : Int) ∧ Hid (Tri w5 wx gl gd gm la di me) ∧ Hid (Below w.heap.size w wx)) (fun pv _ => 300 - (intOf pv).toNat)
          case atStart => exact ⟨0, Nat.zero_le _, rfl, HT, HBW⟩
          case round =>
            clear HT HBW
            obtain ⟨p, hp, rfl, HT, HBW⟩ := hrel
            by_cases hp3 : p < 300
            · have hpi : (p : Int) < 300 := by omega
              have cl := (HT.out.al.at' p hp3).1
              have cd' := (HT.out.ad.at' p hp3).1
              rw [← HEQ.out p hp3] at cd'
              generalize la p = x at cl cd'
              as_aux_lemma =>
                go_wp2
                go_quiet (fail)
                go_wp2
                go_roundw
                case rel => exact ⟨p + 1, by omega, by go_num, hid (HT.out.drewN _), hid (HBW.out.trans ((below_drewNt _ _).mono HBW.out.size))⟩
                case measure => simp [intOf]; omega
            · have hpi : ¬ (p : Int) < 300 := by omega
              as_aux_lemma =>
                go_wp2
                go_ret
                exact ⟨rfl, HBW.out⟩
    · have hcd' : (cd != 0) = true := by simpa using hcd
      clear hcd
      as_aux_lemma =>
        go_wp2
        go_ret
        exact ⟨rfl, HB5.out⟩
end Go.Proofs.YtbndliedcanmgaaR
