import Derived.Test.YtjfgojlnpbehfaaHF
import Derived.Test.YtjfgojlnpbehfaaCE
import Derived.Test.YtjfgojlnpbehfaaSO
import Derived.Test.YtjfgojlnpbehfaaFM
import Derived.Test.YtjfgojlnpbehfaaAH
import Derived.Deep.RegionLawGrows
import Derived.Deep.RegionHeld
import Derived.Deep.CutRange
import Derived.Deep.DeepCutAuto
namespace Go.Proofs.Ytjfgojlnpbehfaa
open Go.ChangeShapes Go.WideShapes Go.ChangeAt Go.RowKit
set_option linter.unusedVariables false
set_option linter.unusedSimpArgs false
set_option maxRecDepth 100000
theorem kept_hst {b b2 : Nat} {w W : World} {kv : Value} {ks : List (Value × Value × TI)} (hn : ∀ x ∈ ks, IOw b w x.1 x.2.2.reads ∧ IOw b w x.2.1 x.2.2.writes) (hr : W.ownsRow b2 31 4 kv ks.length (ks.flatMap tC)) (hB : Below w.heap.size w W) (hb : b ≤ b2) : HstN b W kv ks := ⟨own_base hr hb, fun x hx => ⟨(hn x hx).1.below hB, (hn x hx).2.below hB⟩⟩
theorem serC_bad {us : List TI} {l : List Int} {c : Int} (h : SerC us l c) : c = 1 ∨ (histP us ∧ c ≠ 1) := by
  rcases h with ⟨_, _, h⟩ | ⟨h, _, _, _, _, hc⟩ | ⟨h, _, _, _, _, _, hc⟩
  · exact .inl h
  · exact .inr ⟨h, by omega⟩
  · exact .inr ⟨h, by omega⟩
theorem hist_nil : histP [] ∧ ¬ dangP [] := by
  refine ⟨?_, ?_⟩
  · unfold histP; simp
  · unfold dangP; simp
theorem tsI_len (ts : List (Value × Value × TI)) : (tsI ts).length = ts.length := by simp [tsI]
theorem tsI_push (ts : List (Value × Value × TI)) (x : Value × Value × TI) : tsI (ts ++ [x]) = tsI ts ++ [x.2.2] := by simp [tsI]
theorem flat_len (ts : List (Value × Value × TI)) : (ts.flatMap tC).length = ts.length * 4 := by
  induction ts with
  | nil => rfl
  | cons a r ih => rw [List.flatMap_cons, List.length_append, ih, List.length_cons]; simp [tC]; omega
def CertN (us : List TI) (c : Int) : Prop := (¬ histP us ∧ c = 1) ∨ (histP us ∧ dangP us ∧ c = 21) ∨ (histP us ∧ ¬ dangP us ∧ c = 0)
theorem certN_of {us : List TI} {e : Ending} (h : CertR us e) : ∃ c, e = .returned (.int .i64 c) ∧ CertN us c := by
  rcases h with ⟨h1, h2⟩ | ⟨h1, h2, h3⟩ | ⟨h1, h2, h3⟩
  · exact ⟨1, h2, .inl ⟨h1, rfl⟩⟩
  · exact ⟨21, h3, .inr (.inl ⟨h1, h2, rfl⟩)⟩
  · exact ⟨0, h3, .inr (.inr ⟨h1, h2, rfl⟩)⟩
theorem certN_eq {us : List TI} {c d : Int} (h : CertN us c) (g : CertN us d) : c = d := by
  rcases h with ⟨h1, h2⟩ | ⟨h1, h2, h3⟩ | ⟨h1, h2, h3⟩ <;> rcases g with ⟨g1, g2⟩ | ⟨g1, g2, g3⟩ | ⟨g1, g2, g3⟩ <;> first | (exact absurd h1 g1) | (exact absurd g1 h1) | (exact absurd h2 g2) | (exact absurd g2 h2) | omega
theorem certN_ok {us : List TI} (h : CertN us 0) : histP us ∧ ¬ dangP us := by
  rcases h with ⟨_, h⟩ | ⟨_, _, h⟩ | ⟨h1, h2, _⟩
  · omega
  · omega
  · exact ⟨h1, h2⟩
theorem order_cells {w : World} {a : Option Addr} {n c : Nat} {out : List Nat} (h : RS 1 CI 0 w (.slice a n c) (out.map Int.ofNat)) (hn : out.length = n) (hp : 0 < n) : ∃ g o, a = some ⟨g, o, none⟩ ∧ g < w.heap.size ∧ n ≤ n ∧ ∀ i (x : Nat), out[i]? = some x → w.cell? ⟨g, o + i, none⟩ = some (.int .i64 (x : Int)) := by
  obtain ⟨a', c', he, h2⟩ := h
  simp only [Value.slice.injEq] at he
  obtain ⟨rfl, _, rfl⟩ := he
  obtain ⟨g, o, rfl, _, hg, hc⟩ := h2 (by rw [List.length_map]; omega)
  refine ⟨g, o, rfl, hg, Nat.le_refl _, fun i x hx => ?_⟩
  obtain ⟨hi, rfl⟩ := List.getElem?_eq_some_iff.1 hx
  obtain ⟨cs, hcs, hcc⟩ := hc i (by rw [List.length_map]; exact hi)
  have := hcc 0 (by omega)
  rw [hcs] at this
  simpa using this
theorem tsI_at {ks : List (Value × Value × TI)} {y : Nat} (h : y < ks.length) : (tsI ks)[y]? = some ks[y].2.2 := by simp [tsI, h]
theorem rb_none {p : Prop} {b : Bool} (h : b = true ↔ p) (hn : ¬ p) : b = false := by cases b with | false => rfl | true => exact absurd (h.1 rfl) hn
def CertImpl : Prop := ∀ (g ca : Nat) (us : List TI) (t : TI) (cs : List Value) (w : World), BH 1048576 us → BT 1048576 t → RS 4 CT 0 w (.slice (some ⟨g, 0, none⟩) us.length ca) us → CT 0 w cs t →
    Calls Try.prog 11 #[.slice (some ⟨g, 0, none⟩) us.length ca, .agg cs.toArray] w fun e w' => CertR (us ++ [t]) e ∧ Below w.heap.size w w'
def SerPost2 (us : List TI) (w : World) (e : Ending) (w' : World) : Prop := ∃ (a : Option Addr) (q : Nat) (c : Int) (l : List Int), e = .returned (.tuple #[.slice a l.length q, .int .i64 c]) ∧ l.length ≤ q ∧ RSW 1 CI w.heap.size w' (.slice a l.length q) l ∧ SerC us l c ∧ Below w.heap.size w w'
def SerImpl : Prop := ∀ (a : Option Addr) (ca : Nat) (us : List TI) (w : World), BH 1048576 us → RS 4 CT 0 w (.slice a us.length ca) us →
    Calls Try.prog 15 #[.slice a us.length ca] w fun e w' => SerPost2 us w e w'
set_option maxHeartbeats 8000000 in
theorem certified_law (him : CertImpl) (hse : SerImpl) (v0 : Option Addr) (len cap : Nat) (w : World) (hlen : len ≤ maxLen) (hby : Bytes w w.heap.size v0 len) :
    Calls Try.prog 5 #[.slice v0 len cap] w fun e w' => e = .returned (.bool true) ∧ Below w.heap.size w w' := by
  have HBY := hid hby
  clear hby
  by_cases hbig : 1048576 < len
  · have hbi : (1048576 : Int) < len := by omega
    go_enter Try.func5, Try.ntmps5
    go_wp2
    go_ret
    exact ⟨rfl, Below.refl _ _⟩
  have hbi : ¬ (1048576 : Int) < len := by omega
  go_enter Try.func5, Try.ntmps5
  go_wp2_with (go_at_call 20; fail)
  refine (drawSerial_any v0 len cap w (by omega) HBY.out).mono ?_
  rintro e w1 ⟨v, ts, rfl, hh, hl1, hx1, hb1⟩
  have HR1 := hid (hh.rs.mono liesT (Nat.zero_le _))
  have HBH1 := hid (tsI_small (n := 1048576) hl1 hx1 (by omega))
  have HB1 := hid hb1
  have hnl : (tsI ts).length ≤ 60 := by simpa [tsI] using Nat.le_trans hl1 (by omega)
  clear hh hl1 hx1 hb1
  generalize tsI ts = us at HR1 HBH1 hnl
  obtain ⟨ua, uc, hv, -⟩ := HR1.out
  subst hv
  go_wp2_with (go_at_call 14; fail)
  refine (serial_spec ua uc us w1 HBH1.out HR1.out).mono ?_
  rintro e w2 ⟨lv, c, l, rfl, hrw, hsc, hb2⟩
  have HB2 : Hid (Below w.heap.size w w2) := (HB1.out.trans (hb2.mono HB1.out.size) : Below w.heap.size w w2)
  have hcc := serC_bad hsc
  obtain ⟨la, lc, hlv⟩ : ∃ la lc, lv = .slice la l.length lc := by
    obtain ⟨a, c, h, _⟩ := hrw
    exact ⟨a, c, h⟩
  subst hlv
  clear hrw hsc hb2 HB1 HR1 HBH1
  rcases hcc with rfl | ⟨_, hc1⟩
  · go_wp2
    go_ret
    exact ⟨rfl, HB2.out⟩
  have hce : (c == 1) = false := by simpa using hc1
  have hn6 : ¬ (60 : Int) < us.length := by omega
  have HBY2 : Hid (Bytes w2 w.heap.size v0 len) := (fun j hj => by
    obtain ⟨g, o, b, e1, e2, e3, e4⟩ := HBY.out j hj
    exact ⟨g, o, b, e1, e2, (HB2.out.cell (p := ⟨g, o + j, none⟩) e2).trans e3, e4⟩ : Bytes w2 w.heap.size v0 len)
  clear HBY hc1 hnl
  go_wp2_with (go_at_call 20; fail)
  refine (drawSerial_any v0 len cap w2 (by omega) (fun j hj => ?_)).mono ?_
  · obtain ⟨g, o, b, e1, e2, e3, e4⟩ := HBY2.out j hj
    exact ⟨g, o, b, e1, Nat.lt_of_lt_of_le e2 HB2.out.size, e3, e4⟩
  clear HBY2 hbi hce hn6
  rintro e w3 ⟨v3, ds, rfl, hh, hl3, hx3, hb3⟩
  have HB3 : Hid (Below w.heap.size w w3) := (HB2.out.trans (hb3.mono HB2.out.size) : Below w.heap.size w w3)
  have HH := hid hh
  have HX := hid hx3
  obtain ⟨ha, hcp, hv3⟩ : ∃ a c, v3 = .slice a ds.length c := own_form hh.row
  subst hv3
  have HBB : Hid (w2.heap.size ≤ w3.heap.size) := hb3.size
  clear hh hx3 hb3 HB2
  have HK0 : Hid ((w3.alloc (.cells #[] 31)).ownsRow w3.heap.size 31 4 (.slice (some ⟨w3.heap.size, 0, none⟩) 0 0) 0 []) := World.ownsRow_made w3 #[] 0 (Nat.le_refl _) (by unfold maxLen; omega) (by simp)
  have HBA : Hid (Below w3.heap.size w3 (w3.alloc (.cells #[] 31))) := below_alloc _ _
  go_wp2
  go_loopw [6, 39] (fun kv iv wx => ∃ (k : Nat) (ks : List (Value × Value × TI)) (ga gc : Nat), k ≤ ds.length ∧ iv = .int .i64 (k : Int) ∧ kv = .slice (some ⟨ga, 0, none⟩) ks.length gc ∧ ks.length ≤ k ∧ Hid (∀ x ∈ ks, x ∈ ds) ∧ Hid (wx.ownsRow w3.heap.size 31 4 (.slice (some ⟨ga, 0, none⟩) ks.length gc) ks.length (ks.flatMap tC)) ∧ Hid (Below w3.heap.size w3 wx) ∧ Hid (histP (tsI ks) ∧ ¬ dangP (tsI ks))) (fun _ iv _ => ds.length - (intOf iv).toNat)
  case atStart => exact ⟨0, [], _, _, Nat.zero_le _, rfl, rfl, Nat.zero_le _, hid (fun x hx => by cases hx), HK0, HBA, hid hist_nil⟩
  case round =>
    clear HK0 HBA
    obtain ⟨k, ks, ga, gc, hk, rfl, rfl, hkl, HS, HK, HW, HP⟩ := hrel
    by_cases hlt : k < ds.length
    · have hli : (k : Int) < ds.length := by omega
      obtain ⟨hg, rfl⟩ : ∃ g, ha = some ⟨g, 0, none⟩ := by
        rcases HH.out.row.2 with ⟨_, h0⟩ | ⟨g, cp, cur, he, _⟩
        · omega
        · simp only [Value.slice.injEq] at he; exact ⟨g, he.1⟩
      have hgl := (HH.out.row.lt hg rfl).2
      have HM := hid (HH.out.nest ds[k] (List.getElem_mem hlt))
      have HCT := hid (liesT.below (liesT.mono (tC_lies HM.out) (Nat.zero_le _)) HW.out)
      have cell : ∀ j, j < 4 → wr.cell? ⟨hg, k * 4 + j, none⟩ = (tC ds[k])[j]? := fun j hj => by
        have hf := flatT ds k hlt j hj
        have hl : j < (tC ds[k]).length := by simpa [tC] using hj
        rw [List.getElem?_eq_getElem hl] at hf ⊢
        exact (HW.out.cell (p := ⟨hg, k * 4 + j, none⟩) hgl).trans (own_cell HH.out.row hf)
      have c0 : wr.cell? ⟨hg, k * 4, none⟩ = some (.int .i64 ds[k].2.2.bgn) := cell 0 (by omega)
      have c1 : wr.cell? ⟨hg, k * 4 + 1, none⟩ = some (.int .i64 ds[k].2.2.com) := cell 1 (by omega)
      have c2 : wr.cell? ⟨hg, k * 4 + 2, none⟩ = some ds[k].1 := cell 2 (by omega)
      have c3 : wr.cell? ⟨hg, k * 4 + 3, none⟩ = some ds[k].2.1 := cell 3 (by omega)
      have hgx : hg < wr.heap.size := Nat.lt_of_lt_of_le hgl HW.out.size
      clear cell
      obtain ⟨ra, rc, hra⟩ := HM.out.1.form
      obtain ⟨wa, wc, hwa⟩ := HM.out.2.form
      rw [hra] at c2
      rw [hwa] at c3
      have HCS : Hid (CT 0 wr [.int .i64 ds[k].2.2.bgn, .int .i64 ds[k].2.2.com, .slice ra ds[k].2.2.reads.length rc, .slice wa ds[k].2.2.writes.length wc] ds[k].2.2) := (by have := HCT.out; unfold tC at this; rw [hra, hwa] at this; exact this : CT 0 wr [.int .i64 ds[k].2.2.bgn, .int .i64 ds[k].2.2.com, .slice ra ds[k].2.2.reads.length rc, .slice wa ds[k].2.2.writes.length wc] ds[k].2.2)
      have HTC : Hid (tC ds[k] = [.int .i64 ds[k].2.2.bgn, .int .i64 ds[k].2.2.com, .slice ra ds[k].2.2.reads.length rc, .slice wa ds[k].2.2.writes.length wc]) := (by unfold tC; rw [hra, hwa] : tC ds[k] = [.int .i64 ds[k].2.2.bgn, .int .i64 ds[k].2.2.com, .slice ra ds[k].2.2.reads.length rc, .slice wa ds[k].2.2.writes.length wc])
      have HBT : Hid (BT 1048576 ds[k].2.2) := (⟨by have := (HX.out ds[k] (List.getElem_mem hlt)).1; omega, by have := (HX.out ds[k] (List.getElem_mem hlt)).2; omega⟩ : BT 1048576 ds[k].2.2)
      clear hra hwa HCT HM
      have HDK : Hid (ds[k].2.2 = ds[k].2.2) := rfl
      generalize ht : ds[k].2.2 = t at c0 c1 c2 c3 HCS HTC HBT
      have HT := hid ht
      clear ht HDK
      obtain ⟨wt, hwt⟩ : ∃ z, z = wr.alloc (.cells #[.int .i64 t.bgn, .int .i64 t.com, .slice ra t.reads.length rc, .slice wa t.writes.length wc] 31) := ⟨_, rfl⟩
      have HWT := hid hwt
      have HBT1 : Hid (Below wr.heap.size wr wt) := (by rw [hwt]; exact below_alloc _ _ : Below wr.heap.size wr wt)
      have HBK1 : Hid (Blk wt wr.heap.size [.int .i64 t.bgn, .int .i64 t.com, .slice ra t.reads.length rc, .slice wa t.writes.length wc]) := (by rw [hwt]; exact blk_new wr [.int .i64 t.bgn, .int .i64 t.com, .slice ra t.reads.length rc, .slice wa t.writes.length wc] 31 : Blk wt wr.heap.size [.int .i64 t.bgn, .int .i64 t.com, .slice ra t.reads.length rc, .slice wa t.writes.length wc])
      have hzt : wr.heap.size < wt.heap.size := by rw [hwt]; simp
      have HSB := hid (kept_hst (w := w3) (fun x hx => HH.out.nest x (HS.out x hx)) HK.out HW.out (HBB.out))
      have HBK := hid (tsI_small (ts := ks) (n := 1048576) (by omega) (fun x hx => HX.out x (HS.out x hx)) (by omega))
      have hsp := certify_spec ga gc (tsI ks) t [.int .i64 t.bgn, .int .i64 t.com, .slice ra t.reads.length rc, .slice wa t.writes.length wc] wt HBK.out HBT.out (by rw [tsI_len]; exact (HSB.out.below HBT1.out).rs.mono liesT (Nat.zero_le _)) (liesT.below HCS.out HBT1.out)
      rw [tsI_len] at hsp
      go_wp2_with (go_at_call 8; fail)
      rw [← hwt]
      refine hsp.mono ?_
      rintro e w4 ⟨hr4, hb4⟩
      obtain ⟨a, rfl, hca⟩ := certN_of hr4
      have HA := hid hca
      have HB4 : Hid (Below wr.heap.size wr w4) := (HBT1.out.trans (hb4.mono HBT1.out.size) : Below wr.heap.size wr w4)
      have HK4 := hid (HBK1.out.below hb4 hzt)
      have hz4 : wr.heap.size < w4.heap.size := Nat.lt_of_lt_of_le hzt hb4.size
      clear hsp hr4 hca hb4 HBK1 HBT1 hwt HWT hzt c0 c1 c2 c3
      obtain ⟨i0, hi, hz0, hz1, hz2⟩ := info_parts infoTI
      have HS4 := hid (HSB.out.below HB4.out)
      have HON := hid (Fill.one (fun h => oneT h) liesT HS4.out.fill)
      have HNL := hid (flat_len ks)
      have HK4r := hid (own_below HK.out HB4.out)
      have HCW : Hid (∀ j u, (ks.flatMap tC)[j]? = some u → ((w4.alloc (.cells #[] 31)).drew).cell? ((⟨ga, 0, none⟩ : Addr).add j) = some u) := (fun j u hj => by
        have := own_cell (own_below HK4r.out (below_alloc w4 (.cells #[] 31))) hj
        rw [Addr.add_lit, Nat.zero_add]
        simpa using this : ∀ j u, (ks.flatMap tC)[j]? = some u → ((w4.alloc (.cells #[] 31)).drew).cell? ((⟨ga, 0, none⟩ : Addr).add j) = some u)
      have OA : Hid (((w4.alloc (.cells #[] 31)).drew).ownsRow w4.heap.size 31 4 (.slice (some ⟨w4.heap.size, 0, none⟩) 0 0) 0 []) := (World.ownsRow_made w4 #[] 0 (Nat.le_refl _) (by unfold maxLen; omega) (by simp)).drew
      have o0 : w4.cell? ⟨wr.heap.size, 0, none⟩ = some (.int .i64 t.bgn) := (HK4.out 0 (by simp)).1
      have o1 : w4.cell? ⟨wr.heap.size, 1, none⟩ = some (.int .i64 t.com) := (HK4.out 1 (by simp)).1
      have o2 : w4.cell? ⟨wr.heap.size, 2, none⟩ = some (.slice ra t.reads.length rc) := (HK4.out 2 (by simp)).1
      have o3 : w4.cell? ⟨wr.heap.size, 3, none⟩ = some (.slice wa t.writes.length wc) := (HK4.out 3 (by simp)).1
      have hkb : ks.length ≤ 8 := by omega
      go_wp2
      go_region_law (first
        | (refine step_append_own rfl (.tmp 46) (.tmp 47) 29 rfl w4.heap.size 31 i0 _ 4 64 Try.underlying29 hi hz0 hz1 hz2 rfl (by decide) (.slice (some ⟨w4.heap.size, 0, none⟩) 0 0) 0 [] rfl OA.out ⟨ga, 0, none⟩ ks.length gc (ks.flatMap tC) rfl HNL.out HCW.out HON.out (by unfold maxLen; omega) (by omega) (by simp) ?_
           intro v5 w5 hown5 hgrow5 hn5
           have hb5 : Below w4.heap.size w4 w5 := by
             refine Below.grown (by (go_light; repeat (first | with_reducible assumption | with_reducible exact Below.refl _ _ | (with_reducible refine Below.setCell ?_ ?_ _; rotate_left; (focus first | (simp; done) | (simp; omega) | omega)) | (with_reducible refine Below.alloc ?_ ?_ _; rotate_left; (focus first | (simp; done) | (simp; omega) | omega)) | with_reducible refine Below.drew ?_))) hgrow5 (by simp) ?_
             intro k hk; simp [Value.ownBlock] at hk; omega
           obtain ⟨a5, c5, hv5⟩ := own_form hown5
           subst hv5
           obtain ⟨g5, rfl⟩ : ∃ g, a5 = some ⟨g, 0, none⟩ := by
             rcases hown5.2 with ⟨he, _⟩ | ⟨g, cp, cur, he, _⟩
             · exact absurd (hn5.1 he).1 (by simp)
             · simp only [Value.slice.injEq] at he; exact ⟨g, he.1⟩
           have HB5 := hid hb5
           have HK5 := hid (HK4.out.below hb5 hz4)
           have hsi := him g5 c5 (tsI ks) t [.int .i64 t.bgn, .int .i64 t.com, .slice ra t.reads.length rc, .slice wa t.writes.length wc] w5 HBK.out HBT.out (by
             rw [tsI_len]
             have := (Fill.below liesT HS4.out.fill hb5).mono liesT (Nat.zero_le _)
             have ho := own_base hown5 (Nat.zero_le _)
             rw [Nat.zero_add, List.nil_append] at ho
             have hq := this.own liesT (by rw [tsI_len]; exact ho) (Nat.le_refl _)
             simpa [Nat.zero_add] using hq) (liesT.below (liesT.below HCS.out HB4.out) hb5)
           rw [tsI_len] at hsi
           rw [Nat.zero_add] at *
           have p0 : w5.cell? ⟨wr.heap.size, 0, none⟩ = some (.int .i64 t.bgn) := (HK5.out 0 (by simp)).1
           have p1 : w5.cell? ⟨wr.heap.size, 1, none⟩ = some (.int .i64 t.com) := (HK5.out 1 (by simp)).1
           have p2 : w5.cell? ⟨wr.heap.size, 2, none⟩ = some (.slice ra t.reads.length rc) := (HK5.out 2 (by simp)).1
           have p3 : w5.cell? ⟨wr.heap.size, 3, none⟩ = some (.slice wa t.writes.length wc) := (HK5.out 3 (by simp)).1
           have hz5 : wr.heap.size < w5.heap.size := Nat.lt_of_lt_of_le hz4 hb5.size
           clear hown5 hgrow5 hn5 hb5)
        | (go_simp
           refine hsi.mono ?_
           rintro e w6 ⟨hr6, hb6⟩
           obtain ⟨a6, rfl, hca6⟩ := certN_of hr6
           obtain rfl := certN_eq HA.out hca6
           have HB6 : Hid (Below wr.heap.size wr w6) := ((HB4.out.trans (HB5.out.mono HB4.out.size)).trans (hb6.mono (Nat.le_trans HB4.out.size HB5.out.size)) : Below wr.heap.size wr w6)
           have HK6 := hid (HK5.out.below hb6 hz5)
           clear hr6 hb6 hca6 hsi))
      all_goals
        have HB6w : Hid (Below w3.heap.size w3 w6) := (HW.out.trans (HB6.out.mono HW.out.size) : Below w3.heap.size w3 w6)
        have HKr6 := hid (own_below HK.out HB6.out)
        clear o0 o1 o2 o3 p0 p1 p2 p3 HCW OA HS4 HON HNL HK4r HK4 HK5 HB4 HB5 HB6 HSB HBK
        by_cases ha0 : a = 0
        · subst ha0
          have HPN := hid (certN_ok HA.out)
          have q0 : w6.cell? ⟨wr.heap.size, 0, none⟩ = some (.int .i64 t.bgn) := (HK6.out 0 (by simp)).1
          have q1 : w6.cell? ⟨wr.heap.size, 1, none⟩ = some (.int .i64 t.com) := (HK6.out 1 (by simp)).1
          have q2 : w6.cell? ⟨wr.heap.size, 2, none⟩ = some (.slice ra t.reads.length rc) := (HK6.out 2 (by simp)).1
          have q3 : w6.cell? ⟨wr.heap.size, 3, none⟩ = some (.slice wa t.writes.length wc) := (HK6.out 3 (by simp)).1
          have HKA := hid (own_below HKr6.out (below_alloc w6 (.cells #[.int .i64 t.bgn, .int .i64 t.com, .slice ra t.reads.length rc, .slice wa t.writes.length wc] 31)))
          have HBA : Hid (Below w3.heap.size w3 (w6.alloc (.cells #[.int .i64 t.bgn, .int .i64 t.com, .slice ra t.reads.length rc, .slice wa t.writes.length wc] 31))) := HB6w.out.alloc HB6w.out.size _
          have HNC := hid (Blk.cells (blk_new w6 [.int .i64 t.bgn, .int .i64 t.com, .slice ra t.reads.length rc, .slice wa t.writes.length wc] 31))
          have hsA : w3.heap.size ≤ (w6.alloc (.cells #[.int .i64 t.bgn, .int .i64 t.com, .slice ra t.reads.length rc, .slice wa t.writes.length wc] 31)).heap.size := HBA.out.size
          have HO1 : Hid (∀ u ∈ ([.int .i64 t.bgn, .int .i64 t.com, .slice ra t.reads.length rc, .slice wa t.writes.length wc] : List Value), u.oneCell' = true) := (by intro u hu; simp at hu; rcases hu with rfl | rfl | rfl | rfl <;> rfl : ∀ u ∈ ([.int .i64 t.bgn, .int .i64 t.com, .slice ra t.reads.length rc, .slice wa t.writes.length wc] : List Value), u.oneCell' = true)
          clear HA HKr6 HB6w
          go_wp2_with (at_builtin
                       refine wpList_append_own _ rfl (.tmp 56) (.tmp 58) 29 rfl w3.heap.size 31 i0 _ 4 64 Try.underlying29 hi hz0 hz1 hz2 rfl (by decide) _ _ _ rfl HKA.out ⟨w6.heap.size, 0, none⟩ 1 1 [.int .i64 t.bgn, .int .i64 t.com, .slice ra t.reads.length rc, .slice wa t.writes.length wc] rfl rfl HNC.out HO1.out (by unfold maxLen; omega) (by omega) hsA ?_
                       intro v7 w7 hown hgrow hn7
                       have HB7 : Hid (Below w3.heap.size w3 w7) := (by
                         refine Below.grown HBA.out hgrow hsA ?_
                         intro q hq
                         exact (HKA.out.lt q hq).1 : Below w3.heap.size w3 w7)
                       obtain ⟨a7, c7, hv7⟩ := own_form hown
                       subst hv7
                       obtain ⟨g7, rfl⟩ : ∃ g, a7 = some ⟨g, 0, none⟩ := by
                         rcases hown.2 with ⟨he, _⟩ | ⟨g, cp, cur, he, _⟩
                         · have hq := (hn7.1 he).1; cases hq
                         · simp only [Value.slice.injEq] at he; exact ⟨g, he.1⟩
                       have HO7 : Hid (w7.ownsRow w3.heap.size 31 4 (.slice (some ⟨g7, 0, none⟩) (ks ++ [ds[k]]).length c7) (ks ++ [ds[k]]).length ((ks ++ [ds[k]]).flatMap tC)) := (by
                         rw [List.length_append, List.flatMap_append, List.flatMap_singleton, HTC.out]
                         exact hown : w7.ownsRow w3.heap.size 31 4 (.slice (some ⟨g7, 0, none⟩) (ks ++ [ds[k]]).length c7) (ks ++ [ds[k]]).length ((ks ++ [ds[k]]).flatMap tC))
                       clear hown hgrow hn7 HKA HNC HBA)
          go_roundw
          case rel => exact ⟨k + 1, ks ++ [ds[k]], g7, c7, by omega, by go_num, by simp, by simp; omega, hid (fun x hx => by
            rcases List.mem_append.1 hx with hx | hx
            · exact HS.out x hx
            · rw [List.mem_singleton.1 hx]; exact List.getElem_mem hlt), HO7, HB7, hid (by rw [tsI_push, HT.out]; exact HPN.out)⟩
          case measure => simp [intOf]; omega
        · have hae : (a == 0) = false := by simpa using ha0
          clear ha0
          go_wp2
          go_roundw
          case rel => exact ⟨k + 1, ks, ga, gc, by omega, by go_num, rfl, by omega, HS, HKr6, HB6w, HP⟩
          case measure => simp [intOf]; omega
    · have hli : ¬ (k : Int) < ds.length := by omega
      obtain ⟨i0, hi, hz0, hz1, hz2⟩ := info_parts infoTI
      have HSB := hid (kept_hst (w := w3) (fun x hx => HH.out.nest x (HS.out x hx)) HK.out HW.out HBB.out)
      have HBK := hid (tsI_small (ts := ks) (n := 1048576) (by omega) (fun x hx => HX.out x (HS.out x hx)) (by omega))
      have HON := hid (Fill.one (fun h => oneT h) liesT HSB.out.fill)
      have HNL := hid (flat_len ks)
      have HCW : Hid (∀ j u, (ks.flatMap tC)[j]? = some u → (wr.alloc (.cells #[] 31)).cell? ((⟨ga, 0, none⟩ : Addr).add j) = some u) := (fun j u hj => by
        have := own_cell (own_below HK.out (below_alloc wr (.cells #[] 31))) hj
        rw [Addr.add_lit, Nat.zero_add]
        exact this : ∀ j u, (ks.flatMap tC)[j]? = some u → (wr.alloc (.cells #[] 31)).cell? ((⟨ga, 0, none⟩ : Addr).add j) = some u)
      have OA : Hid ((wr.alloc (.cells #[] 31)).ownsRow wr.heap.size 31 4 (.slice (some ⟨wr.heap.size, 0, none⟩) 0 0) 0 []) := World.ownsRow_made wr #[] 0 (Nat.le_refl _) (by unfold maxLen; omega) (by simp)
      have hkb : ks.length ≤ 8 := by omega
      go_wp2_with (at_builtin
                   go_loud (refine wpList_append_own _ rfl (.tmp 62) (.tmp 63) 29 rfl wr.heap.size 31 i0 _ 4 64 Try.underlying29 hi hz0 hz1 hz2 rfl (by decide) (.slice (some ⟨wr.heap.size, 0, none⟩) 0 0) 0 [] rfl OA.out ⟨ga, 0, none⟩ ks.length gc (ks.flatMap tC) rfl HNL.out HCW.out HON.out (by unfold maxLen; omega) (by omega) (by simp) ?_
                            intro v5 w5 hown5 hgrow5 hn5
                            have hb5 : Below wr.heap.size wr w5 := by
                              refine Below.grown (by (go_light; repeat (first | with_reducible assumption | with_reducible exact Below.refl _ _ | (with_reducible refine Below.setCell ?_ ?_ _; rotate_left; (focus first | (simp; done) | (simp; omega) | omega)) | (with_reducible refine Below.alloc ?_ ?_ _; rotate_left; (focus first | (simp; done) | (simp; omega) | omega)) | with_reducible refine Below.drew ?_))) hgrow5 (by simp) ?_
                              intro k hk; simp [Value.ownBlock] at hk; omega
                            obtain ⟨a5, c5, hv5⟩ := own_form hown5
                            subst hv5
                            have HB5 := hid hb5
                            have hsi := hse a5 c5 (tsI ks) w5 HBK.out (by
                              rw [tsI_len]
                              have := (Fill.below liesT HSB.out.fill hb5).mono liesT (Nat.zero_le _)
                              have ho := own_base hown5 (Nat.zero_le _)
                              rw [Nat.zero_add, List.nil_append] at ho
                              have hq := this.own liesT (by rw [tsI_len]; exact ho) (Nat.le_refl _)
                              simpa [Nat.zero_add] using hq)
                            rw [tsI_len] at hsi
                            rw [Nat.zero_add] at *
                            clear hown5 hgrow5 hn5 hb5))
      refine hsi.mono ?_
      rintro e w6 ⟨oa, oc, c6, l6, rfl, hlq, hrw, hsc, hb6⟩
      obtain ⟨out, hso, hol, rfl, rfl⟩ := serC_good HP.out.1 HP.out.2 hsc
      rw [tsI_len] at hol
      have HB6 : Hid (Below wr.heap.size wr w6) := (HB5.out.trans (hb6.mono HB5.out.size) : Below wr.heap.size wr w6)
      have hrs := (hrw.rs (D := CI) (fun h => h)).mono liesI (Nat.zero_le _)
      have HSO := hid hso
      have hlm : (out.map Int.ofNat).length = ks.length := by rw [List.length_map, hol]
      rw [hlm] at hlq hrs ⊢
      have HRW := hid hrs
      clear hrs hlm
      clear hsi hrw hsc hb6 hso HB5 HCW OA HON HNL
      go_wp2
      go_loopw [79] (fun iv wx => ∃ m : Nat, m ≤ ks.length ∧ iv = .int .i64 (m : Int) ∧ Hid (Below w6.heap.size w6 wx)) (fun iv _ => ks.length - (intOf iv).toNat)
      case atStart => exact ⟨0, Nat.zero_le _, rfl, hid (Below.refl _ _)⟩
      case round =>
        obtain ⟨m, hm, rfl, HM⟩ := hrel
        by_cases hml : m < ks.length
        · have hmi : (m : Int) < ks.length := by omega
          obtain ⟨og, oo, rfl, hog, _, hoc⟩ := order_cells HRW.out hol (by omega)
          have HOC := hid hoc
          have hx0 := List.getElem?_eq_getElem (show m < out.length by omega)
          generalize hx : out[m]'(show m < out.length by omega) = x at hx0
          have HX0 := hid hx0
          have hxl : x < ks.length := by have := serOut_lt HSO.out hx0; rw [tsI_len] at this; exact this
          have d0 := (HM.out.cell (p := ⟨og, oo + m, none⟩) hog).trans (hoc m x hx0)
          have hx1 : ¬ (x : Int) < 0 := by omega
          have hx2 : ¬ (ks.length : Int) ≤ x := by omega
          clear hoc hx hx0
          by_cases hcap : oc = m + 1
          · have HKM : Hid (ks.length = m + 1) := (by omega : ks.length = m + 1)
            have heq : (oc : Int) = (m : Int) + 1 := by omega
            have hq0 : ¬ (0 : Int) < ((ks.length - (m + 1) : Nat) : Int) := by omega
            clear hcap
            go_wp2
            go_loopw [97] (fun jv wx => jv = .int .i64 0 ∧ Hid (Below w6.heap.size w6 wx)) (fun _ _ => 0)
            case atStart => exact ⟨rfl, HM⟩
            case round =>
              obtain ⟨rfl, HQ⟩ := hrel
              go_wp2
              go_roundw
              case rel => exact ⟨m + 1, by omega, by go_num, HQ⟩
              case measure => simp [intOf]; omega
          · have hne : ¬ ((oc : Int) = (m : Int) + 1) := by omega
            go_wp2
            go_loopw [97] (fun jv wx => ∃ q : Nat, q ≤ ks.length - (m + 1) ∧ jv = .int .i64 (q : Int) ∧ Hid (Below w6.heap.size w6 wx)) (fun jv _ => ks.length - (m + 1) - (intOf jv).toNat)
            case atStart => exact ⟨0, Nat.zero_le _, rfl, HM⟩
            case round =>
              obtain ⟨q, hq, rfl, HQ⟩ := hrel
              by_cases hql : q < ks.length - (m + 1)
              · have hqi : (q : Int) < ((ks.length - (m + 1) : Nat) : Int) := by omega
                have hy0 := List.getElem?_eq_getElem (show m + 1 + q < out.length by omega)
                generalize hy : out[m + 1 + q]'(show m + 1 + q < out.length by omega) = y at hy0
                have hyl : y < ks.length := by have := serOut_lt HSO.out hy0; rw [tsI_len] at this; exact this
                have d1 : wr.cell? ⟨og, oo + (m + 1) + q, none⟩ = some (.int .i64 (y : Int)) := by
                  rw [Nat.add_assoc]
                  exact (HQ.out.cell (p := ⟨og, oo + (m + 1 + q), none⟩) hog).trans (HOC.out _ y hy0)
                have hy1 : ¬ (y : Int) < 0 := by omega
                have hy2 : ¬ (ks.length : Int) ≤ y := by omega
                have hok := serOut_ok HSO.out (show m < m + 1 + q by omega) HX0.out hy0
                have hxy : ((x : Int) == (y : Int)) = false := by have := hok.1; simp; omega
                have HSQ := hid ((HSB.out.below HB6.out).below HQ.out)
                have HNA : Hid (¬ (ks[y].2.2.com ≤ ks[x].2.2.bgn ∨ leadsP ks[y].2.2 ks[x].2.2)) := (by
                  have hq := hok.2
                  rw [aheadB_at (tsI_at hyl) (tsI_at hxl)] at hq
                  have hn : (y != x) = true := by have := hok.1; simp; omega
                  rw [hn] at hq
                  simpa using hq : ¬ (ks[y].2.2.com ≤ ks[x].2.2.bgn ∨ leadsP ks[y].2.2 ks[x].2.2))
                have HAL := hid (fun (W : World) (h : Below wr.heap.size wr W) => ahead_law ks[y].2.2 ks[x].2.2 (tC ks[y]) (tC ks[x]) W (HBK.out.2 _ (List.mem_map.2 ⟨_, List.getElem_mem hyl, rfl⟩)) (HBK.out.2 _ (List.mem_map.2 ⟨_, List.getElem_mem hxl, rfl⟩)) (liesT.below (liesT.mono (tC_lies (HSQ.out.nest _ (List.getElem_mem hyl))) (Nat.zero_le _)) h) (liesT.below (liesT.mono (tC_lies (HSQ.out.nest _ (List.getElem_mem hxl))) (Nat.zero_le _)) h))
                have cell : ∀ z (hz : z < ks.length) j, j < 4 → wr.cell? ⟨ga, z * 4 + j, none⟩ = (tC ks[z])[j]? := fun z hz j hj => by
                  have hf := flatT ks z hz j hj
                  have hl : j < (tC ks[z]).length := by simpa [tC] using hj
                  rw [List.getElem?_eq_getElem hl] at hf ⊢
                  exact own_cell HSQ.out.row hf
                have e0 : wr.cell? ⟨ga, y * 4, none⟩ = some (.int .i64 ks[y].2.2.bgn) := cell y hyl 0 (by omega)
                have e1 : wr.cell? ⟨ga, y * 4 + 1, none⟩ = some (.int .i64 ks[y].2.2.com) := cell y hyl 1 (by omega)
                have e2 : wr.cell? ⟨ga, y * 4 + 2, none⟩ = some ks[y].1 := cell y hyl 2 (by omega)
                have e3 : wr.cell? ⟨ga, y * 4 + 3, none⟩ = some ks[y].2.1 := cell y hyl 3 (by omega)
                have f0 : wr.cell? ⟨ga, x * 4, none⟩ = some (.int .i64 ks[x].2.2.bgn) := cell x hxl 0 (by omega)
                have f1 : wr.cell? ⟨ga, x * 4 + 1, none⟩ = some (.int .i64 ks[x].2.2.com) := cell x hxl 1 (by omega)
                have f2 : wr.cell? ⟨ga, x * 4 + 2, none⟩ = some ks[x].1 := cell x hxl 2 (by omega)
                have f3 : wr.cell? ⟨ga, x * 4 + 3, none⟩ = some ks[x].2.1 := cell x hxl 3 (by omega)
                clear cell hok hy hy0
                have HE : Hid (∀ W, Below wr.heap.size wr W → W.cell? ⟨ga, y * 4, none⟩ = some (.int .i64 ks[y].2.2.bgn) ∧ W.cell? ⟨ga, y * 4 + 1, none⟩ = some (.int .i64 ks[y].2.2.com) ∧ W.cell? ⟨ga, y * 4 + 2, none⟩ = some ks[y].1 ∧ W.cell? ⟨ga, y * 4 + 3, none⟩ = some ks[y].2.1 ∧ W.cell? ⟨ga, x * 4, none⟩ = some (.int .i64 ks[x].2.2.bgn) ∧ W.cell? ⟨ga, x * 4 + 1, none⟩ = some (.int .i64 ks[x].2.2.com) ∧ W.cell? ⟨ga, x * 4 + 2, none⟩ = some ks[x].1 ∧ W.cell? ⟨ga, x * 4 + 3, none⟩ = some ks[x].2.1) := (fun W hW => by
                  have hgl := (HSQ.out.row.lt ga rfl).2
                  exact ⟨(hW.cell (p := ⟨ga, y * 4, none⟩) hgl).trans e0, (hW.cell (p := ⟨ga, y * 4 + 1, none⟩) hgl).trans e1, (hW.cell (p := ⟨ga, y * 4 + 2, none⟩) hgl).trans e2, (hW.cell (p := ⟨ga, y * 4 + 3, none⟩) hgl).trans e3, (hW.cell (p := ⟨ga, x * 4, none⟩) hgl).trans f0, (hW.cell (p := ⟨ga, x * 4 + 1, none⟩) hgl).trans f1, (hW.cell (p := ⟨ga, x * 4 + 2, none⟩) hgl).trans f2, (hW.cell (p := ⟨ga, x * 4 + 3, none⟩) hgl).trans f3⟩ : ∀ W, Below wr.heap.size wr W → W.cell? ⟨ga, y * 4, none⟩ = some (.int .i64 ks[y].2.2.bgn) ∧ W.cell? ⟨ga, y * 4 + 1, none⟩ = some (.int .i64 ks[y].2.2.com) ∧ W.cell? ⟨ga, y * 4 + 2, none⟩ = some ks[y].1 ∧ W.cell? ⟨ga, y * 4 + 3, none⟩ = some ks[y].2.1 ∧ W.cell? ⟨ga, x * 4, none⟩ = some (.int .i64 ks[x].2.2.bgn) ∧ W.cell? ⟨ga, x * 4 + 1, none⟩ = some (.int .i64 ks[x].2.2.com) ∧ W.cell? ⟨ga, x * 4 + 2, none⟩ = some ks[x].1 ∧ W.cell? ⟨ga, x * 4 + 3, none⟩ = some ks[x].2.1)
                unfold tC at HAL
                have hyi : (y : Int) < ks.length := by omega
                have hxi : (x : Int) < ks.length := by omega
                clear HSQ
                generalize ks[y].2.2 = ty at e0 e1 HE HNA HAL
                generalize ks[y].1 = ry at e2 HE HAL
                generalize ks[y].2.1 = wy at e3 HE HAL
                generalize ks[x].2.2 = tx at f0 f1 HE HNA HAL
                generalize ks[x].1 = rx at f2 HE HAL
                generalize ks[x].2.1 = wx at f3 HE HAL
                go_upto_region 30 with (fail)
                go_cut [124] (fun s wz => s = .bool false ∧ Hid (Below w6.heap.size w6 wz))
                case first =>
                  have g1 : decide ((y : Int) < 0) = false := decide_eq_false hy1
                  have g2 : decide ((ks.length : Int) ≤ y) = false := decide_eq_false hy2
                  have g2n : decide (ks.length ≤ y) = false := decide_eq_false (by omega)
                  clear d0 d1 HX0 HOC HRW HSO HBK HSB
                  go_region_held (fun W => W.cell? ⟨ga, y * 4, none⟩ = some (.int .i64 ty.bgn) ∧ W.cell? ⟨ga, y * 4 + 1, none⟩ = some (.int .i64 ty.com) ∧ W.cell? ⟨ga, y * 4 + 2, none⟩ = some ry ∧ W.cell? ⟨ga, y * 4 + 3, none⟩ = some wy ∧ W.cell? ⟨ga, x * 4, none⟩ = some (.int .i64 tx.bgn) ∧ W.cell? ⟨ga, x * 4 + 1, none⟩ = some (.int .i64 tx.com) ∧ W.cell? ⟨ga, x * 4 + 2, none⟩ = some rx ∧ W.cell? ⟨ga, x * 4 + 3, none⟩ = some wx) (go_keep) ((go_at_call 21; refine (HAL.out wr.drew (Below.refl wr.heap.size wr).drew).mono ?_; rintro e w9 ⟨⟨b9, rfl, hb9⟩, hbb9⟩; obtain rfl := rb_none hb9 HNA.out; have HB9 : Hid (Below w6.heap.size w6 w9) := (HQ.out.trans (((Below.refl wr.heap.size wr).drew.trans hbb9).mono HQ.out.size) : Below w6.heap.size w6 w9); obtain ⟨y0, y1, y2, y3, z0, z1, z2, z3⟩ := HE.out w9 ((Below.refl wr.heap.size wr).drew.trans hbb9); clear hb9 hbb9))
                  all_goals
                    go_wp2
                    go_meet
                    case rel => exact ⟨rfl, HB9⟩
                case rest =>
                  obtain ⟨rfl, HB9⟩ := hcut
                  go_wp2
                  go_roundw
                  case rel => exact ⟨q + 1, by omega, by go_num, HB9⟩
                  case measure => simp [intOf]; omega
              · have hqi : ¬ (q : Int) < ((ks.length - (m + 1) : Nat) : Int) := by omega
                go_wp2
                go_roundw
                case rel => exact ⟨m + 1, by omega, by go_num, HQ⟩
                case measure => simp [intOf]; omega
        · have hmi : ¬ (m : Int) < ks.length := by omega
          have HBE : Hid (Below w.heap.size w wr) := ((HB3.out.trans (HW.out.mono HB3.out.size)).trans ((HB6.out.trans (HM.out.mono HB6.out.size)).mono (Nat.le_trans HB3.out.size HW.out.size)) : Below w.heap.size w wr)
          go_wp2
          go_ret
          exact ⟨rfl, HBE.out⟩
end Go.Proofs.Ytjfgojlnpbehfaa
