import Derived.Test.YtblkgicbimflhaaGreatSBF
namespace Go.Proofs.YtblkgicbimflhaaGreat
open Go.ChangeShapes Go.WideShapes Go.ChangeAt Go.RowKit
set_option linter.unusedVariables false
set_option linter.unusedSimpArgs false
set_option maxRecDepth 100000
set_option maxHeartbeats 16000000
theorem deal_at {B : Nat} {w : World} {a : Option Addr} {n c : Nat} {us : List TI} (h : RS 4 CDl B w (.slice a n c) us) (hp : 0 < us.length) : ∃ g o, a = some ⟨g, o, none⟩ /\ B <= g /\ g < w.heap.size /\ ∀ j (hj : j < us.length), (tabP us[j].reads /\ tabP us[j].writes) /\ w.cell? ⟨g, o + j * 4, none⟩ = some (.int .i64 us[j].bgn) /\ w.cell? ⟨g, o + j * 4 + 1, none⟩ = some (.int .i64 us[j].com) /\ w.cell? ⟨g, o + j * 4 + 2, none⟩ = some (.int .u64 (bitsOf us[j].reads : Nat)) /\ w.cell? ⟨g, o + j * 4 + 3, none⟩ = some (.int .u64 (bitsOf us[j].writes : Nat)) := by
 obtain ⟨a', c', he, hh⟩ := h
 obtain ⟨g, o, e2, h1, h2, h3⟩ := hh hp
 simp only [Value.slice.injEq] at he
 refine ⟨g, o, he.1.trans e2, h1, h2, fun j hj => ?_⟩
 obtain ⟨cs, hc, hcell⟩ := h3 j hj
 obtain ⟨rfl, ht⟩ := hc
 exact ⟨ht, hcell 0 (by omega), hcell 1 (by omega), hcell 2 (by omega), hcell 3 (by omega)⟩
def dealA (t : TI) : Value := .agg #[.int .i64 t.bgn, .int .i64 t.com, .int .u64 (bitsOf t.reads : Nat), .int .u64 (bitsOf t.writes : Nat)]
theorem index_between (P : TI -> Prop) (pv : Value) (a : Option Addr) (c : Nat) (us : List TI) (B : Nat) (w : World) (h : us.length <= 1000) (hr : RS 4 CDl B w (.slice a us.length c) us)
 (hcall : ∀ x ∈ us, ∀ W, Below w.heap.size w W -> Calls Tryz.prog 102 #[pv, dealA x] W fun e w' => RB (P x) e /\ Below W.heap.size W w') :
 Calls Tryz.prog 111 #[.slice a us.length c, .func (.func 102) #[pv] #[]] w fun e w' => ∃ k : Int, e = .returned (.int .i64 k) /\ (0 <= k ↔ ∃ x ∈ us, P x) /\ Below w.heap.size w w' := by
 have HR := hid hr
 have HC := hid hcall
 clear hr hcall
 go_enter Tryz.func111, Tryz.ntmps111
 go_wp2
 go_loopw [8] (fun iv wx => ∃ j : Nat, iv = .int .i64 (j : Int) /\ j <= us.length /\ Hid (∀ x ∈ us.take j, ¬ P x) /\ Below w.heap.size w wx) (fun iv _ => us.length - (intOf iv).toNat)
 case atStart => exact ⟨0, rfl, Nat.zero_le _, (fun x h => by simp at h : ∀ x ∈ us.take 0, ¬ P x), Below.refl _ _⟩
 case round =>
  obtain ⟨j, rfl, hj, HA, hb⟩ := hrel
  by_cases hlt : j < us.length
  .have hlti : (j : Int) < us.length := by omega
   obtain ⟨g, o, rfl, _, hg, hc⟩ := deal_at (HR.out.below liesD hb) (by omega)
   obtain ⟨_, c0, c1, c2, c3⟩ := hc j hlt
   clear hc
   have HST := hid (fun z => take_step (P := fun x => ¬ P x) hlt HA.out z)
   have HM := hid (List.getElem_mem hlt)
   have hcx := HC.out us[j] (List.getElem_mem hlt) wr hb
   have hbs := hb.size
   clear HA
   unfold dealA at hcx
   generalize us[j] = x at *
   go_wp2_with (go_at_call 102; fail)
   refine hcx.mono ?_
   rintro e w1 ⟨⟨r, rfl, hr⟩, hb1⟩
   have bw1 : Below w.heap.size w w1 := hb.trans (hb1.mono hbs)
   clear hcx hb1
   rcases r with _ | _
   .have HV := hid (HST.out (fun z => by have := hr.2 z; cases this))
    clear hr HST
    go_wp2
    go_roundw
    case rel => exact ⟨j + 1, by go_num, by omega, HV, bw1⟩
    case measure => simp [intOf]; omega
   .have HV := hid (hr.1 rfl)
    clear hr HST
    go_wp2
    go_ret
    exact ⟨_, rfl, ⟨fun _ => ⟨x, HM.out, HV.out⟩, fun _ => by omega⟩, bw1⟩
  .have hje : j = us.length := by omega
   subst hje
   rw [List.take_length] at HA
   go_wp2
   go_ret
   exact ⟨-1, rfl, ⟨fun z => by omega, fun ⟨x, h1, h2⟩ => absurd h2 (HA.out x h1)⟩, hb⟩
theorem contains_between (P : TI -> Prop) (pv : Value) (a : Option Addr) (c : Nat) (us : List TI) (B : Nat) (w : World) (h : us.length <= 1000) (hr : RS 4 CDl B w (.slice a us.length c) us)
 (hcall : ∀ x ∈ us, ∀ W, Below w.heap.size w W -> Calls Tryz.prog 102 #[pv, dealA x] W fun e w' => RB (P x) e /\ Below W.heap.size W w') :
 Calls Tryz.prog 101 #[.slice a us.length c, .func (.func 102) #[pv] #[]] w fun e w' => RB (∃ x ∈ us, P x) e /\ Below w.heap.size w w' := by
 have HI := hid (index_between P pv a c us B w h hr hcall)
 clear hr hcall
 go_enter Tryz.func101, Tryz.ntmps101
 go_wp2_with (go_at_call 111; fail)
 refine HI.out.mono ?_
 rintro e w' ⟨k, rfl, hk, hb⟩
 have HK := hid hk
 have HB := hid hb
 clear hk hb HI
 go_wp2
 go_ret
 exact ⟨⟨decide (0 <= k), rfl, by rw [decide_eq_true_iff]; exact HK.out⟩, HB.out⟩
theorem index_leads (P : TI -> Prop) (dv : Value) (a : Option Addr) (c : Nat) (us : List TI) (B : Nat) (w : World) (h : us.length <= 1000) (hr : RS 4 CDl B w (.slice a us.length c) us)
 (hcall : ∀ x ∈ us, ∀ W, Below w.heap.size w W -> Calls Tryz.prog 53 #[dv, dealA x] W fun e w' => RB (P x) e /\ Below W.heap.size W w') :
 Calls Tryz.prog 111 #[.slice a us.length c, .func (.func 53) #[dv] #[]] w fun e w' => ∃ k : Int, e = .returned (.int .i64 k) /\ (0 <= k ↔ ∃ x ∈ us, P x) /\ Below w.heap.size w w' := by
 have HR := hid hr
 have HC := hid hcall
 clear hr hcall
 go_enter Tryz.func111, Tryz.ntmps111
 go_wp2
 go_loopw [8] (fun iv wx => ∃ j : Nat, iv = .int .i64 (j : Int) /\ j <= us.length /\ Hid (∀ x ∈ us.take j, ¬ P x) /\ Below w.heap.size w wx) (fun iv _ => us.length - (intOf iv).toNat)
 case atStart => exact ⟨0, rfl, Nat.zero_le _, (fun x h => by simp at h : ∀ x ∈ us.take 0, ¬ P x), Below.refl _ _⟩
 case round =>
  obtain ⟨j, rfl, hj, HA, hb⟩ := hrel
  by_cases hlt : j < us.length
  .have hlti : (j : Int) < us.length := by omega
   obtain ⟨g, o, rfl, _, hg, hc⟩ := deal_at (HR.out.below liesD hb) (by omega)
   obtain ⟨_, c0, c1, c2, c3⟩ := hc j hlt
   clear hc
   have HST := hid (fun z => take_step (P := fun x => ¬ P x) hlt HA.out z)
   have HM := hid (List.getElem_mem hlt)
   have hcx := HC.out us[j] (List.getElem_mem hlt) wr hb
   have hbs := hb.size
   clear HA
   unfold dealA at hcx
   generalize us[j] = x at *
   go_wp2_with (go_at_call 53; fail)
   refine hcx.mono ?_
   rintro e w1 ⟨⟨r, rfl, hr⟩, hb1⟩
   have bw1 : Below w.heap.size w w1 := hb.trans (hb1.mono hbs)
   clear hcx hb1
   rcases r with _ | _
   .have HV := hid (HST.out (fun z => by have := hr.2 z; cases this))
    clear hr HST
    go_wp2
    go_roundw
    case rel => exact ⟨j + 1, by go_num, by omega, HV, bw1⟩
    case measure => simp [intOf]; omega
   .have HV := hid (hr.1 rfl)
    clear hr HST
    go_wp2
    go_ret
    exact ⟨_, rfl, ⟨fun _ => ⟨x, HM.out, HV.out⟩, fun _ => by omega⟩, bw1⟩
  .have hje : j = us.length := by omega
   subst hje
   rw [List.take_length] at HA
   go_wp2
   go_ret
   exact ⟨-1, rfl, ⟨fun z => by omega, fun ⟨x, h1, h2⟩ => absurd h2 (HA.out x h1)⟩, hb⟩
theorem contains_leads (P : TI -> Prop) (dv : Value) (a : Option Addr) (c : Nat) (us : List TI) (B : Nat) (w : World) (h : us.length <= 1000) (hr : RS 4 CDl B w (.slice a us.length c) us)
 (hcall : ∀ x ∈ us, ∀ W, Below w.heap.size w W -> Calls Tryz.prog 53 #[dv, dealA x] W fun e w' => RB (P x) e /\ Below W.heap.size W w') :
 Calls Tryz.prog 101 #[.slice a us.length c, .func (.func 53) #[dv] #[]] w fun e w' => RB (∃ x ∈ us, P x) e /\ Below w.heap.size w w' := by
 have HI := hid (index_leads P dv a c us B w h hr hcall)
 clear hr hcall
 go_enter Tryz.func101, Tryz.ntmps101
 go_wp2_with (go_at_call 111; fail)
 refine HI.out.mono ?_
 rintro e w' ⟨k, rfl, hk, hb⟩
 have HK := hid hk
 have HB := hid hb
 clear hk hb HI
 go_wp2
 go_ret
 exact ⟨⟨decide (0 <= k), rfl, by rw [decide_eq_true_iff]; exact HK.out⟩, HB.out⟩
theorem index_led (P : TI -> Prop) (b : Nat) (a : Option Addr) (c : Nat) (us : List TI) (B : Nat) (w : World) (h : us.length <= 1000) (hr : RS 4 CDl B w (.slice a us.length c) us)
 (hcall : ∀ x ∈ us, ∀ W, Below w.heap.size w W -> Calls Tryz.prog 112 #[dealA x, .pointer (some ⟨b, 0, none⟩)] W fun e w' => RB (P x) e /\ Below W.heap.size W w') :
 Calls Tryz.prog 111 #[.slice a us.length c, .func (.func 112) #[] #[.pointer (some ⟨b, 0, none⟩)]] w fun e w' => ∃ k : Int, e = .returned (.int .i64 k) /\ (0 <= k ↔ ∃ x ∈ us, P x) /\ Below w.heap.size w w' := by
 have HR := hid hr
 have HC := hid hcall
 clear hr hcall
 go_enter Tryz.func111, Tryz.ntmps111
 go_wp2
 go_loopw [8] (fun iv wx => ∃ j : Nat, iv = .int .i64 (j : Int) /\ j <= us.length /\ Hid (∀ x ∈ us.take j, ¬ P x) /\ Below w.heap.size w wx) (fun iv _ => us.length - (intOf iv).toNat)
 case atStart => exact ⟨0, rfl, Nat.zero_le _, (fun x h => by simp at h : ∀ x ∈ us.take 0, ¬ P x), Below.refl _ _⟩
 case round =>
  obtain ⟨j, rfl, hj, HA, hb⟩ := hrel
  by_cases hlt : j < us.length
  .have hlti : (j : Int) < us.length := by omega
   obtain ⟨g, o, rfl, _, hg, hc⟩ := deal_at (HR.out.below liesD hb) (by omega)
   obtain ⟨_, c0, c1, c2, c3⟩ := hc j hlt
   clear hc
   have HST := hid (fun z => take_step (P := fun x => ¬ P x) hlt HA.out z)
   have HM := hid (List.getElem_mem hlt)
   have hcx := HC.out us[j] (List.getElem_mem hlt) wr hb
   have hbs := hb.size
   clear HA
   unfold dealA at hcx
   generalize us[j] = x at *
   go_wp2_with (go_at_call 112; fail)
   refine hcx.mono ?_
   rintro e w1 ⟨⟨r, rfl, hr⟩, hb1⟩
   have bw1 : Below w.heap.size w w1 := hb.trans (hb1.mono hbs)
   clear hcx hb1
   rcases r with _ | _
   .have HV := hid (HST.out (fun z => by have := hr.2 z; cases this))
    clear hr HST
    go_wp2
    go_roundw
    case rel => exact ⟨j + 1, by go_num, by omega, HV, bw1⟩
    case measure => simp [intOf]; omega
   .have HV := hid (hr.1 rfl)
    clear hr HST
    go_wp2
    go_ret
    exact ⟨_, rfl, ⟨fun _ => ⟨x, HM.out, HV.out⟩, fun _ => by omega⟩, bw1⟩
  .have hje : j = us.length := by omega
   subst hje
   rw [List.take_length] at HA
   go_wp2
   go_ret
   exact ⟨-1, rfl, ⟨fun z => by omega, fun ⟨x, h1, h2⟩ => absurd h2 (HA.out x h1)⟩, hb⟩
theorem contains_led (P : TI -> Prop) (b : Nat) (a : Option Addr) (c : Nat) (us : List TI) (B : Nat) (w : World) (h : us.length <= 1000) (hr : RS 4 CDl B w (.slice a us.length c) us)
 (hcall : ∀ x ∈ us, ∀ W, Below w.heap.size w W -> Calls Tryz.prog 112 #[dealA x, .pointer (some ⟨b, 0, none⟩)] W fun e w' => RB (P x) e /\ Below W.heap.size W w') :
 Calls Tryz.prog 101 #[.slice a us.length c, .func (.func 112) #[] #[.pointer (some ⟨b, 0, none⟩)]] w fun e w' => RB (∃ x ∈ us, P x) e /\ Below w.heap.size w w' := by
 have HI := hid (index_led P b a c us B w h hr hcall)
 clear hr hcall
 go_enter Tryz.func101, Tryz.ntmps101
 go_wp2_with (go_at_call 111; fail)
 refine HI.out.mono ?_
 rintro e w' ⟨k, rfl, hk, hb⟩
 have HK := hid hk
 have HB := hid hb
 clear hk hb HI
 go_wp2
 go_ret
 exact ⟨⟨decide (0 <= k), rfl, by rw [decide_eq_true_iff]; exact HK.out⟩, HB.out⟩
def leadB (s t : TI) : Prop := s.com ≠ t.com /\ leadsP s t
theorem leads_deal (s t : TI) (hs : tabP s.reads) (ht : tabP t.writes) (W : World) :
 Calls Tryz.prog 53 #[dealA s, dealA t] W fun e w' => RB (leadB s t) e /\ Below W.heap.size W w' := by
 refine (leadsTo_impl s.bgn s.com t.bgn t.com (bitsOf s.reads) (bitsOf s.writes) (bitsOf t.reads) (bitsOf t.writes) W (tab_bits hs) (tab_bits ht)).mono ?_
 rintro e w' ⟨⟨r, rfl, hr⟩, hb⟩
 refine ⟨⟨r, rfl, hr.trans ?_⟩, hb⟩
 rw [tab_meet hs ht]
 exact Iff.rfl
theorem led_impl (s d : TI) (b : Nat) (w : World) (hs : tabP s.reads) (hd : tabP d.writes) (hB : Blk w b (dealV d)) (hb : b < w.heap.size) :
 Calls Tryz.prog 112 #[dealA s, .pointer (some ⟨b, 0, none⟩)] w fun e w' => RB (leadB s d) e /\ Below w.heap.size w w' := by
 have bw := below_alloc w (.cells #[.int .i64 s.bgn, .int .i64 s.com, .int .u64 (bitsOf s.reads : Nat), .int .u64 (bitsOf s.writes : Nat)] 89)
 have hl := leads_deal s d hs hd (w.alloc (.cells #[.int .i64 s.bgn, .int .i64 s.com, .int .u64 (bitsOf s.reads : Nat), .int .u64 (bitsOf s.writes : Nat)] 89))
 obtain ⟨k0, k1, k2, k3⟩ := kc3 hB
 unfold dealA at hl ⊢
 clear hB
 go_enter Tryz.func112, Tryz.ntmps112
 go_wp2_with (go_at_call 53; fail)
 refine hl.mono ?_
 rintro e w1 ⟨⟨r, rfl, hr⟩, hb1⟩
 have bw1 := bw.trans (hb1.mono bw.size)
 have HR : Hid (RB (leadB s d) (.returned (.bool r))) := ⟨r, rfl, hr⟩
 clear hl hb1 hr
 go_wp2
 go_ret
 exact ⟨HR.out, bw1⟩
def betP (us : List TI) (d : TI) : Prop := (∃ x ∈ us, leadB d x) /\ ∃ x ∈ us, leadB x d
theorem between_impl (a : Option Addr) (c : Nat) (us : List TI) (B : Nat) (d : TI) (w : World) (h : us.length <= 1000) (hr : RS 4 CDl B w (.slice a us.length c) us) (ht : ∀ x ∈ us, tabP x.reads /\ tabP x.writes) (hd : tabP d.reads /\ tabP d.writes) :
 Calls Tryz.prog 102 #[.slice a us.length c, dealA d] w fun e w' => RB (betP us d) e /\ Below w.heap.size w w' := by
 have bw := below_alloc w (.cells #[.int .i64 d.bgn, .int .i64 d.com, .int .u64 (bitsOf d.reads : Nat), .int .u64 (bitsOf d.writes : Nat)] 89)
 have KD := hid (blk_new w (dealV d) 89)
 unfold dealV at KD
 have HRS := hid hr
 have h1 := contains_leads (fun x => leadB d x) (dealA d) a c us B (w.alloc (.cells #[.int .i64 d.bgn, .int .i64 d.com, .int .u64 (bitsOf d.reads : Nat), .int .u64 (bitsOf d.writes : Nat)] 89)) h (hr.below liesD bw) (fun x hx W _ => leads_deal d x hd.1 (ht x hx).2 W)
 have HTT := hid ht
 have HD2 := hid hd.2
 clear hr ht hd
 unfold dealA at h1 ⊢
 go_enter Tryz.func102, Tryz.ntmps102
 go_wp2_with (go_at_call 101; fail)
 refine h1.mono ?_
 rintro e w1 ⟨⟨r, rfl, hr⟩, hb1⟩
 have bw1 := bw.trans (hb1.mono bw.size)
 have K1 := hid (KD.out.below hb1 (by simp))
 clear h1 KD
 rcases r with _ | _
 .have HF : Hid (¬ betP us d) := hid (fun z => absurd (hr.2 z.1) (by simp))
  clear hr hb1 K1
  go_wp2
  go_ret
  exact ⟨rb_f HF.out, bw1⟩
 .have HA := hid (hr.1 rfl)
  have hsz : w.heap.size < w1.heap.size := Nat.lt_of_lt_of_le (by simp) hb1.size
  have h2 := contains_led (fun x => leadB x d) w.heap.size a c us B w1 h (HRS.out.below liesD bw1) (fun x hx W hW => led_impl x d w.heap.size W (HTT.out x hx).1 HD2.out (K1.out.below hW hsz) (Nat.lt_of_lt_of_le hsz hW.size))
  clear hr hb1 K1 HRS HTT HD2
  go_wp2_with (go_at_call 101; fail)
  refine h2.mono ?_
  rintro e w2 ⟨⟨r, rfl, hr⟩, hb2⟩
  have bw2 := bw1.trans (hb2.mono bw1.size)
  have HR : Hid (RB (betP us d) (.returned (.bool r))) := ⟨r, rfl, hr.trans ⟨fun z => ⟨HA.out, z⟩, fun z => z.2⟩⟩
  clear h2 hb2 hr HA
  go_wp2
  go_ret
  exact ⟨HR.out, bw2⟩
theorem com_rise {us : List TI} (h : histP us) : ∀ (d i : Nat) (hd : i + d + 1 < us.length), (us[i]'(by omega)).com < us[i + d + 1].com
 | 0, i, hd => by
   have := (h.2 (i + 1) hd us[i + 1] (List.getElem?_eq_getElem hd)).2.2.1 (us[i]'(by omega)) (by omega) (by simp)
   simpa using this
 | d + 1, i, hd => by
   have ih := com_rise h d i (by omega)
   have := (h.2 (i + d + 1 + 1) hd us[i + d + 1 + 1] (List.getElem?_eq_getElem hd)).2.2.1 (us[i + d + 1]'(by omega)) (by omega) (by simp)
   have e : us[i + (d + 1) + 1].com = us[i + d + 1 + 1].com := rfl
   rw [e]
   omega
theorem com_lt {us : List TI} (h : histP us) {i j : Nat} (hij : i < j) (hj : j < us.length) : (us[i]'(by omega)).com < us[j].com := by
 have := com_rise h (j - i - 1) i (by omega)
 have e : i + (j - i - 1) + 1 = j := by omega
 simpa [e] using this
theorem com_ne {us : List TI} (h : histP us) {i j : Nat} {s t : TI} (hs : us[i]? = some s) (ht : us[j]? = some t) : s.com ≠ t.com ↔ i ≠ j := by
 obtain ⟨hi, rfl⟩ := List.getElem?_eq_some_iff.1 hs
 obtain ⟨hj, rfl⟩ := List.getElem?_eq_some_iff.1 ht
 constructor
 .intro hc e
  subst e
  exact hc rfl
 .intro e
  rcases Nat.lt_or_gt_of_ne e with hl | hl
  .have := com_lt h hl hj; omega
  .have := com_lt h hl hi; omega
theorem dang_bet {us : List TI} (h : histP us) : (∃ d ∈ us, betP us d) ↔ dangP us := by
 constructor
 .rintro ⟨d, hd, ⟨x, hx, hx1, hx2⟩, y, hy, hy1, hy2⟩
  obtain ⟨i, hi, rfl⟩ := List.getElem_of_mem hd
  obtain ⟨j, hj, rfl⟩ := List.getElem_of_mem hx
  obtain ⟨k, hk, rfl⟩ := List.getElem_of_mem hy
  have ei := List.getElem?_eq_getElem hi
  have ej := List.getElem?_eq_getElem hj
  have ek := List.getElem?_eq_getElem hk
  exact ⟨i, hi, us[i], ei, ⟨k, us[k], hk, (com_ne h ek ei).1 hy1, ek, hy2⟩, ⟨j, us[j], hj, ((com_ne h ej ei).1 (Ne.symm hx1)), ej, hx2⟩⟩
 .rintro ⟨i, hi, p, hp, ⟨k, y, hk, hk1, hk2, hk3⟩, j, x, hj, hj1, hj2, hj3⟩
  exact ⟨p, List.mem_of_getElem? hp, ⟨x, List.mem_of_getElem? hj2, (com_ne h hp hj2).2 (Ne.symm hj1), hj3⟩, y, List.mem_of_getElem? hk2, (com_ne h hk2 hp).2 hk1, hk3⟩
theorem certify_impl (ga : Option Addr) (ca : Nat) (us : List TI) (t : TI) (cs : List Value) (w : World) (hb : BH 1048576 us) (ht : BT 1048576 t) (ha : RS 4 CT 0 w (.slice ga us.length ca) us) (hC : CT 0 w cs t) (hga : (ga = none /\ us = [] /\ ca = 0) \/ ∃ g, ga = some ⟨g, 0, none⟩) :
 Calls Tryz.prog 88 #[.slice ga us.length ca, .agg cs.toArray] w fun e w' => CertR (us ++ [t]) e /\ Below w.heap.size w w' := by
 have HCT := hid hC
 obtain ⟨v0, v1, rfl, r0, r1⟩ := hC
 obtain ⟨a0, q0, rfl, _⟩ := r0
 obtain ⟨a1, q1, rfl, _⟩ := r1
 have hn := hb.1
 obtain ⟨W3, hW3⟩ : ∃ W, W = ((w.alloc (.cells #[.int .i64 t.bgn, .int .i64 t.com, .slice a0 t.reads.length q0, .slice a1 t.writes.length q1] 131)).alloc (.cells #[.int .i64 t.bgn, .int .i64 t.com, .slice a0 t.reads.length q0, .slice a1 t.writes.length q1] 131)).alloc (.cells #[.slice ga us.length ca, .slice (some ⟨w.heap.size + 1, 0, none⟩) 1 1] 25) := ⟨_, rfl⟩
 have bw3 : Below w.heap.size w W3 := by
  rw [hW3]
  exact ((below_alloc w _).alloc (by simp) _).alloc (by simp; omega) _
 have K1 := hid (blkB w [.int .i64 t.bgn, .int .i64 t.com, .slice a0 t.reads.length q0, .slice a1 t.writes.length q1] [.int .i64 t.bgn, .int .i64 t.com, .slice a0 t.reads.length q0, .slice a1 t.writes.length q1] [.slice ga us.length ca, .slice (some ⟨w.heap.size + 1, 0, none⟩) 1 1] 131 131 25)
 have K2 := hid (blkC w [.int .i64 t.bgn, .int .i64 t.com, .slice a0 t.reads.length q0, .slice a1 t.writes.length q1] [.int .i64 t.bgn, .int .i64 t.com, .slice a0 t.reads.length q0, .slice a1 t.writes.length q1] [.slice ga us.length ca, .slice (some ⟨w.heap.size + 1, 0, none⟩) 1 1] 131 131 25)
 have hsz : W3.heap.size = w.heap.size + 1 + 1 + 1 := by rw [hW3]; simp
 rw [<- hW3] at K1 K2
 have HT1 : Hid (RS 4 CT 0 W3 (.slice (some ⟨w.heap.size + 1, 0, none⟩) [t].length 1) [t]) := hid (⟨_, _, rfl, fun _ => ⟨w.heap.size + 1, 0, rfl, Nat.zero_le _, by omega, fun i hi => ⟨_, by
  have : i = 0 := by simp at hi; omega
  subst this
  exact liesT.below HCT.out bw3, fun j hj => by
  have : i = 0 := by simp at hi; omega
  subst this
  simpa using (K1.out j (by simpa using hj)).1⟩⟩⟩)
 have hcc : Calls Tryz.prog 100 #[.slice (some ⟨w.heap.size + 1 + 1, 0, none⟩) 2 2] W3 fun e w' => ∃ v, e = .returned v /\ RS 4 CT 0 w' v (us ++ [t]) /\ Below W3.heap.size W3 w' := by
  have q0 := (K2.out 0 (by simp)).1
  have q1 := (K2.out 1 (by simp)).1
  rcases hga with ⟨rfl, rfl, rfl⟩ | ⟨g, rfl⟩
  .exact concat_nil (w.heap.size + 1 + 1) (w.heap.size + 1) t W3 (by omega) q0 q1 HT1.out
  .exact concat_impl g ca (w.heap.size + 1 + 1) (w.heap.size + 1) us t W3 hn (by omega) q0 q1 (ha.below liesT bw3) HT1.out
 obtain ⟨al, hal⟩ : ∃ al : List TI, al = us ++ [t] := ⟨_, rfl⟩
 have HAL : Hid (al.length = us.length + 1) := hid (by rw [hal]; simp)
 have HBA : Hid (∀ x ∈ al, BT 1048576 x) := hid (by
  rw [hal]
  intro x hx
  rcases List.mem_append.1 hx with h | h
  .exact hb.2 x h
  .rw [List.mem_singleton] at h; rw [h]; exact ht)
 rw [<- hal] at hcc ⊢
 clear hal ha hb K1 K2 HT1 HCT hsz hga
 subst hW3
 go_enter Tryz.func88, Tryz.ntmps88
 go_wp2_with (go_at_call 100; fail)
 refine hcc.mono ?_
 rintro e w4 ⟨v, rfl, hr4, hb4⟩
 have bw4 : Below w.heap.size w w4 := bw3.trans (hb4.mono bw3.size)
 obtain ⟨a4, c4, hv4, _⟩ := id hr4
 have hp := past_impl a4 c4 al w4 (by have := HAL.out; omega) HBA.out (by rw [<- hv4]; exact hr4)
 subst hv4
 clear hcc hr4 hb4 bw3
 go_wp2_with (go_at_call 23; fail)
 refine hp.mono ?_
 rintro e w5 ⟨hP, hb5⟩
 have bw5 : Below w.heap.size w w5 := bw4.trans (hb5.mono bw4.size)
 clear hp bw4 hb5
 rcases hP with ⟨hH, v5, rfl, hr5⟩ | ⟨hH, rfl⟩
 .have HH := hid hH
  have hl5 : al.length <= 1000 := hH.1
  obtain ⟨a5, c5, hv5, _⟩ := id hr5
  subst hv5
  have hq := contains_between (fun d => betP al d) (.slice a5 al.length c5) a5 c5 al _ w5 hl5 hr5 (fun x hx W hW => between_impl a5 c5 al _ x W hl5 (hr5.below liesD hW) (hist_tabs hH.2) (hist_tabs hH.2 x hx))
  clear hH hr5
  go_wp2_with (go_at_call 101; fail)
  refine hq.mono ?_
  rintro e w6 ⟨⟨r, rfl, hr⟩, hb6⟩
  have bw6 : Below w.heap.size w w6 := bw5.trans (hb6.mono bw5.size)
  clear hq hb6
  rcases r with _ | _
  .have HF : Hid (CertR al (.returned (.int .i64 0))) := .inr (.inr ⟨HH.out, fun z => absurd (hr.2 ((dang_bet HH.out).2 z)) (by simp), rfl⟩)
   clear hr
   go_wp2
   go_ret
   exact ⟨HF.out, bw6⟩
  .have HF : Hid (CertR al (.returned (.int .i64 21))) := .inr (.inl ⟨HH.out, (dang_bet HH.out).1 (hr.1 rfl), rfl⟩)
   clear hr
   go_wp2
   go_ret
   exact ⟨HF.out, bw6⟩
 .have HF : Hid (CertR al (.returned (.int .i64 1))) := .inl ⟨hH, rfl⟩
  clear hH
  go_wp2
  go_ret
  exact ⟨HF.out, bw5⟩
end Go.Proofs.YtblkgicbimflhaaGreat
