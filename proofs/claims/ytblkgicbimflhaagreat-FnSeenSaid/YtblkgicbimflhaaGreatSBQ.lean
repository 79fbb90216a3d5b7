import Derived.Test.YtblkgicbimflhaaGreatSBP
import Derived.Test.YtblkgicbimflhaaGreatSAU
import Derived.Test.YtblkgicbimflhaaGreatSAR
namespace Go.Proofs.YtblkgicbimflhaaGreat
open Go.ChangeShapes Go.WideShapes Go.ChangeAt Go.RowKit
set_option linter.unusedVariables false
set_option linter.unusedSimpArgs false
set_option maxRecDepth 100000
set_option maxHeartbeats 16000000
theorem mode_any (c : Nat) (A : Int) (w : World) (h : IsCur w c A) (hA : A <= 100000000) :
 Calls Tryz.prog 27 #[.pointer (some ⟨c, 0, none⟩)] w fun e w' => Drawn c (A + 2) 3 w e w' := by
 have HP := hid (pick_any c A 10 w h hA (by omega) (by omega))
 clear h
 go_enter Tryz.func27, Tryz.ntmps27
 go_wp2_with (go_at_call 28; fail)
 refine HP.out.mono ?_
 rintro e w1 ⟨r, r0, r1, rfl, hc, hu⟩
 have HC := hid hc
 have HU := hid hu
 clear hc hu HP
 by_cases h9 : r = 9
 .have e9 : (r == 9) = true := by simpa using h9
  clear h9
  go_wp2
  go_ret
  exact ⟨2, by omega, by omega, rfl, HC.out, HU.out⟩
 .have e9 : (r == 9) = false := by simpa using h9
  by_cases h7 : r = 7
  .have e7 : (r == 7) = true := by simpa using h7
   clear h7 h9
   go_wp2
   go_ret
   exact ⟨1, by omega, by omega, rfl, HC.out, HU.out⟩
  .have e7 : (r == 7) = false := by simpa using h7
   by_cases h8 : r = 8
   .have e8 : (r == 8) = true := by simpa using h8
    clear h7 h8 h9
    go_wp2
    go_ret
    exact ⟨1, by omega, by omega, rfl, HC.out, HU.out⟩
   .have e8 : (r == 8) = false := by simpa using h8
    clear h7 h8 h9
    go_wp2
    go_ret
    exact ⟨0, by omega, by omega, rfl, HC.out, HU.out⟩
theorem cur_new (w : World) (v0 : Option Addr) (len cap : Nat) (c : Nat) (hc : c = w.heap.size) (hl : len <= 1048576) (hb : ∀ j, j < len -> ∃ g o b, v0 = some ⟨g, o, none⟩ /\ g < w.heap.size /\ w.cell? ⟨g, o + j, none⟩ = some (.int .u8 b) /\ 0 <= b /\ b < 256) :
 IsCur (w.alloc (.cells #[.slice v0 len cap, .int .i64 0, .int .i64 0, .int .i64 0] 60)) c 0 := by
 subst hc
 refine ⟨v0, len, cap, 0, 0, 0, ⟨by simp [go_sem], by simp [go_sem], by simp [go_sem], by simp [go_sem], by simp [go_sem], by simp [go_sem], by omega, by omega, by omega, by omega, hl, by simp, ?_⟩⟩
 intro j hj
 obtain ⟨g, o, b, e1, e2, e3, e4, e5⟩ := hb j hj
 exact ⟨g, o, b, e1, e2, ((below_alloc w _).cell (p := ⟨g, o + j, none⟩) e2).trans e3, e4, e5⟩
def DrR (w : World) (e : Ending) (w' : World) : Prop := ∃ (us : List Opn) (v : Value), e = .returned v /\ w'.ownsRow w.heap.size 41 7 v us.length (us.flatMap opK) /\ us.length <= 1100 /\ (∀ u ∈ us, u.nm.size <= 4) /\ Below w.heap.size w w'
theorem DR.fin {b c : Nat} {A : Int} {w w1 wr : World} {us : List Opn} {v : Value} (h : DR b c A w1 wr us v) (hb : Below w.heap.size w w1) (hc : c = w.heap.size) (hwb : w.heap.size <= b) (hl : us.length <= 1100) : DrR w (.returned v) wr := ⟨us, v, rfl, own_bs h.row hwb, hl, h.nam, Upd.below hb h.upd (by omega)⟩
theorem tab3_at {k : Nat} (h : k < 3) : ∃ v : Int, ([.int .i64 (-1), .int .i64 32, .int .i64 31] : List Value)[k]? = some (.int .i64 v) := by
 match k, h with
 | 0, _ => exact ⟨_, rfl⟩
 | 1, _ => exact ⟨_, rfl⟩
 | 2, _ => exact ⟨_, rfl⟩
theorem drawRun_any (v0 : Option Addr) (len cap : Nat) (w : World) (hl : len <= 1048576) (hb : ∀ j, j < len -> ∃ g o b, v0 = some ⟨g, o, none⟩ /\ g < w.heap.size /\ w.cell? ⟨g, o + j, none⟩ = some (.int .u8 b) /\ 0 <= b /\ b < 256) :
 Calls Tryz.prog 12 #[.slice v0 len cap] w fun e w' => DrR w e w' := by
 obtain ⟨j0, hj, hy0, hy1, hy2⟩ := info_parts infoOp
 have HC0 := hid (cur_new w v0 len cap _ rfl hl hb)
 clear hb
 go_enter Tryz.func12, Tryz.ntmps12
 go_wp2_with (go_at_call 27; fail)
 refine (mode_any w.heap.size 0 _ HC0.out (by omega)).mono ?_
 rintro e w1 ⟨r, r0, r1, rfl, hc1, hu1⟩
 have HB1 : Hid (Below w.heap.size w w1) := hid (Upd.below (below_alloc w _) hu1 (Nat.le_refl _))
 have HC1 := hid hc1
 have hcl : w.heap.size < w1.heap.size := hc1.lt
 clear HC0 hc1 hu1
 go_wp2_with (go_at_call 20; fail)
 refine (drawOps_any w.heap.size _ _ HC1.out (by omega)).mono ?_
 rintro e w2 ⟨us, v, rfl, hrow, hl2, hl3, hnm, hc2, hu2⟩
 have hD : DR w1.heap.size w.heap.size 2002 w1 w2 us v := ⟨hrow, hc2.more _ (by omega), hu2, fun u hu => by have := hnm u hu; omega⟩
 obtain ⟨g, cp, rfl, hcp, hcm, hgl⟩ := own_shape hrow (by omega)
 have HD := hid hD
 have HF0 : Hid (DrR w (.returned (.slice (some ⟨g, 0, none⟩) us.length cp)) w2) := hid (hD.fin HB1.out rfl (by omega) (by omega))
 have hlu : (2 : Int) <= (us.length : Int) := by omega
 clear hrow hnm hc2 hu2 hD HC1
 by_cases hr1 : r = 1
 .have e1 : (r == 1) = true := by simpa using hr1
  have e2 : (r == 2) = false := by rw [hr1]; rfl
  clear hr1 HF0
  have HP := hid (pick_any w.heap.size 2002 us.length w2 HD.out.cur (by omega) (by omega) (by omega))
  go_wp2_with (go_at_call 28; fail)
  refine HP.out.mono ?_
  rintro e w3 ⟨i3, a3, b3, rfl, hc3, hu3⟩
  have HD3 := hid (HD.out.draw hcl hc3 hu3)
  have HP := hid (pick_any w.heap.size (2002 + 2) 4 w3 hc3 (by omega) (by omega) (by omega))
  clear hc3 hu3 HD
  obtain ⟨i, rfl⟩ : ∃ i : Nat, i3 = i := ⟨i3.toNat, by omega⟩
  have hil : i < us.length := by omega
  go_wp2_with (go_at_call 28; fail)
  refine HP.out.mono ?_
  rintro e w4 ⟨q, a4, b4, rfl, hc4, hu4⟩
  have HD4 := hid (HD3.out.draw hcl hc4 hu4)
  have HC4 := hid hc4
  clear hc4 hu4 HD3 HP
  by_cases q0 : q = 0
  .have q0' : (q == 0) = true := by simpa using q0
   clear q0
   have HP := hid (pick_any w.heap.size (2002 + 2 + 2) 13 w4 HC4.out (by omega) (by omega) (by omega))
   clear HC4
   go_wp2_with (go_at_call 28; fail)
   refine HP.out.mono ?_
   rintro e w5 ⟨r5, a5, b5, rfl, hc5, hu5⟩
   have d5 := HD4.out.draw hcl hc5 hu5
   obtain ⟨⟨y5, hy5⟩, hf5⟩ := d5.atF rfl hil (j := 0) (by omega)
   have HF : Hid (DrR w (.returned (.slice (some ⟨g, 0, none⟩) us.length cp)) (w5.setCell ⟨g, i * 7 + 0, none⟩ (.int .i64 (r5 - 1)))) := hid (by
    have := (d5.setF hcl (Nat.le_refl _) rfl { us[i] with kd := (r5 - 1) } 0 (.int .i64 (r5 - 1)) (by omega) i hil rfl rfl).fin HB1.out rfl (by omega) (by simp; omega)
    exact this)
   clear d5 hc5 hu5 HD4 HP
   rw [Nat.add_zero] at hy5 hf5 HF
   go_wp2
   go_ret
   exact HF.out
  have q0' : (q == 0) = false := by simpa using q0
  by_cases q1 : q = 1
  .have q1' : (q == 1) = true := by simpa using q1
   clear q0 q1
   have HP := hid (pick_any w.heap.size (2002 + 2 + 2) 7 w4 HC4.out (by omega) (by omega) (by omega))
   clear HC4
   go_wp2_with (go_at_call 28; fail)
   refine HP.out.mono ?_
   rintro e w5 ⟨r5, a5, b5, rfl, hc5, hu5⟩
   have d5 := HD4.out.draw hcl hc5 hu5
   obtain ⟨⟨y5, hy5⟩, hf5⟩ := d5.atF rfl hil (j := 1) (by omega)
   have HF : Hid (DrR w (.returned (.slice (some ⟨g, 0, none⟩) us.length cp)) (w5.setCell ⟨g, i * 7 + 1, none⟩ (.int .i64 (r5 - 1)))) := hid (by
    have := (d5.setF hcl (Nat.le_refl _) rfl { us[i] with ss := (r5 - 1) } 1 (.int .i64 (r5 - 1)) (by omega) i hil rfl rfl).fin HB1.out rfl (by omega) (by simp; omega)
    exact this)
   clear d5 hc5 hu5 HD4 HP
   go_wp2
   go_ret
   exact HF.out
  have q1' : (q == 1) = false := by simpa using q1
  by_cases q2 : q = 2
  .have q2' : (q == 2) = true := by simpa using q2
   clear q0 q1 q2
   have dA := HD4.out.below hcl (below_alloc w4 (.cells #[.int .i64 (-1), .int .i64 32, .int .i64 31] 3))
   have kA : Blk (w4.alloc (.cells #[.int .i64 (-1), .int .i64 32, .int .i64 31] 3)) w4.heap.size [.int .i64 (-1), .int .i64 32, .int .i64 31] := blk_new w4 [.int .i64 (-1), .int .i64 32, .int .i64 31] _
   have hzA : w4.heap.size < (w4.alloc (.cells #[.int .i64 (-1), .int .i64 32, .int .i64 31] 3)).heap.size := by simp
   have h4c : w.heap.size < w4.heap.size := HC4.out.lt
   have HP := hid (pick_any w.heap.size (2002 + 2 + 2) 3 _ dA.cur (by omega) (by omega) (by omega))
   have HDA := hid dA
   have HKA := hid kA
   clear HC4 dA kA
   go_wp2_with (go_at_call 28; fail)
   refine HP.out.mono ?_
   rintro e w5 ⟨r5, a5, b5, rfl, hc5, hu5⟩
   have d5 := HDA.out.draw hcl hc5 hu5
   obtain ⟨k5, rfl⟩ : ∃ k : Nat, r5 = k := ⟨r5.toNat, by omega⟩
   obtain ⟨tv, htv⟩ := tab3_at (k := k5) (by omega)
   have x5 : w5.cell? ⟨w4.heap.size, k5, none⟩ = some (.int .i64 tv) := ((HKA.out.upd hu5 hzA (by omega)) k5 (by simp; omega)).1.trans htv
   obtain ⟨⟨y5, hy5⟩, hf5⟩ := d5.atF rfl hil (j := 2) (by omega)
   have HF : Hid (DrR w (.returned (.slice (some ⟨g, 0, none⟩) us.length cp)) (w5.setCell ⟨g, i * 7 + 2, none⟩ (.int .i64 tv))) := hid (by
    have := (d5.setF hcl (Nat.le_refl _) rfl { us[i] with tb := tv } 2 (.int .i64 tv) (by omega) i hil rfl rfl).fin HB1.out rfl (by omega) (by simp; omega)
    exact this)
   clear d5 hc5 hu5 HD4 HP htv HKA HDA
   go_wp2
   go_ret
   exact HF.out
  have q2' : (q == 2) = false := by simpa using q2
  have q3' : (q == 3) = true := by simp; omega
  clear q0 q1 q2
  have HP := hid (pick_any w.heap.size (2002 + 2 + 2) 4 w4 HC4.out (by omega) (by omega) (by omega))
  clear HC4
  go_wp2_with (go_at_call 28; fail)
  refine HP.out.mono ?_
  rintro e w5 ⟨r5, a5, b5, rfl, hc5, hu5⟩
  have d5 := HD4.out.draw hcl hc5 hu5
  obtain ⟨⟨y5, hy5⟩, hf5⟩ := d5.atF rfl hil (j := 5) (by omega)
  have HF : Hid (DrR w (.returned (.slice (some ⟨g, 0, none⟩) us.length cp)) (w5.setCell ⟨g, i * 7 + 5, none⟩ (.int .i64 r5))) := hid (by
   have := (d5.setF hcl (Nat.le_refl _) rfl { us[i] with md := r5 } 5 (.int .i64 r5) (by omega) i hil rfl rfl).fin HB1.out rfl (by omega) (by simp; omega)
   exact this)
  clear d5 hc5 hu5 HD4 HP
  go_wp2
  go_ret
  exact HF.out
 have e1 : (r == 1) = false := by simpa using hr1
 by_cases hr2 : r = 2
 .have e2 : (r == 2) = true := by simpa using hr2
  clear hr1 hr2 HF0
  have HP := hid (pick_any w.heap.size 2002 2 w2 HD.out.cur (by omega) (by omega) (by omega))
  go_wp2_with (go_at_call 28; fail)
  refine HP.out.mono ?_
  rintro e w3 ⟨q, a3, b3, rfl, hc3, hu3⟩
  have HD3 := hid (HD.out.draw hcl hc3 hu3)
  clear hc3 hu3 HD HP
  by_cases hq : q = 0
  .have q0 : (q == 0) = true := by simpa using hq
   clear hq
   go_wp2
   go_loopw [5] (fun lv wr => ∃ (us : List Opn) (pa : Option Addr) (pc : Nat), lv = .slice pa us.length pc /\ us.length <= 1001 /\ Hid (DR w1.heap.size w.heap.size (2004 + 2 * us.length) w1 wr us (.slice pa us.length pc))) (fun lv _ => match lv with | .slice _ n _ => 1001 - n | _ => 0)
   case atStart => exact ⟨us, _, cp, rfl, by omega, hid (HD3.out.more (by omega))⟩
   case round =>
    clear HD3 hlu hl2 hl3 hgl hcp hcm
    obtain ⟨us, pa, pc, rfl, hul, HD⟩ := hrel
    have HP := hid (pick_any w.heap.size (2004 + 2 * us.length) 2 wr HD.out.cur (by omega) (by omega) (by omega))
    go_wp2_with (go_at_call 28; fail)
    refine HP.out.mono ?_
    rintro e w4 ⟨x, a4, b4, rfl, hc4, hu4⟩
    have HD4 := hid (HD.out.draw hcl hc4 hu4)
    clear hc4 hu4 HD HP
    by_cases hlt : (us.length : Int) < 1000 + x
    .have dA := HD4.out.below hcl (below_alloc w4 (.cells #[.int .i64 8, .int .i64 1, .int .i64 0, .int .i64 0, .int .i64 0, .int .i64 0, .string ⟨#[97]⟩] 41))
     have HDA := hid dA
     have hbA : w1.heap.size <= (w4.alloc (.cells #[.int .i64 8, .int .i64 1, .int .i64 0, .int .i64 0, .int .i64 0, .int .i64 0, .string ⟨#[97]⟩] 41)).heap.size := HDA.out.upd.size
     have HCN := hid (cells_new w4 (opK ⟨8, 1, 0, 0, 0, 0, ⟨#[97]⟩⟩) 41 _ rfl)
     clear dA HD4
     go_wp2_with (at_builtin; go_loud (refine wpList_append_own_at _ rfl (.tmp 71) (.tmp 73) 23 rfl w1.heap.size 41 j0 _ 7 64 Tryz.underlying23 hj hy0 hy1 hy2 rfl (by decide) (.slice pa us.length pc) us.length (us.flatMap opK) rfl HDA.out.row ⟨w4.heap.size, 0, none⟩ 1 1 (opK ⟨8, 1, 0, 0, 0, 0, ⟨#[97]⟩⟩) rfl rfl HCN.out (oneOp _) (by unfold maxLen; omega) (by omega) hbA ?_; intro v' w' hown hgrow _ hat; obtain ⟨na, nc, hvn⟩ := formR hown; subst hvn; have HDN := hid (HDA.out.push hcl (Nat.le_refl _) hgrow hown (by decide)); clear hown hgrow hat))
     go_roundw
     case rel => exact ⟨us ++ [⟨8, 1, 0, 0, 0, 0, ⟨#[97]⟩⟩], na, nc, by simp, by simp; omega, hid (by simpa using HDN.out.more (A' := 2004 + 2 * ((us.length : Int) + 1)) (by omega))⟩
     case measure => simp; omega
    .have HF := hid (HD4.out.fin HB1.out rfl (by omega) (by omega))
     clear HD4
     go_wp2
     go_ret
     exact HF.out
  .have q0 : (q == 0) = false := by simpa using hq
   clear hq
   have dA := HD3.out.below hcl (below_alloc w3 (.cells #[.int .i64 1, .int .i64 4, .int .i64 0, .int .i64 0, .int .i64 0, .int .i64 1, .string ⟨#[]⟩] 41))
   have HDA := hid dA
   have hbA : w1.heap.size <= (w3.alloc (.cells #[.int .i64 1, .int .i64 4, .int .i64 0, .int .i64 0, .int .i64 0, .int .i64 1, .string ⟨#[]⟩] 41)).heap.size := HDA.out.upd.size
   have HCN := hid (cells_new w3 (opK ⟨1, 4, 0, 0, 0, 1, ⟨#[]⟩⟩) 41 _ rfl)
   clear dA HD3
   go_wp2_with (at_builtin; go_loud (refine wpList_append_own_at _ rfl (.tmp 75) (.tmp 77) 23 rfl w1.heap.size 41 j0 _ 7 64 Tryz.underlying23 hj hy0 hy1 hy2 rfl (by decide) (.slice (some ⟨g, 0, none⟩) us.length cp) us.length (us.flatMap opK) rfl HDA.out.row ⟨w3.heap.size, 0, none⟩ 1 1 (opK ⟨1, 4, 0, 0, 0, 1, ⟨#[]⟩⟩) rfl rfl HCN.out (oneOp _) (by unfold maxLen; omega) (by omega) hbA ?_; intro v' w' hown hgrow _ hat; obtain ⟨na, nc, hvn⟩ := formR hown; subst hvn; have HDN := hid (HDA.out.push hcl (Nat.le_refl _) hgrow hown (by decide)); clear hown hgrow hat))
   obtain ⟨us2, hus2⟩ : ∃ z, z = us ++ [(⟨1, 4, 0, 0, 0, 1, ⟨#[]⟩⟩ : Opn)] := ⟨_, rfl⟩
   have hl4 : us2.length = us.length + 1 := by rw [hus2]; simp
   have HD4 : Hid (DR w1.heap.size w.heap.size 2004 w1 w' us2 (.slice na us2.length nc)) := hid (by rw [hl4, hus2]; exact HDN.out.more (by omega))
   rw [<- hl4]
   have hl5 : us2.length <= 142 := by omega
   clear HDN HDA HCN hl4 hus2 hbA
   go_loopw [5, 7] (fun lv iv wr => ∃ (k : Nat) (us : List Opn) (pa : Option Addr) (pc : Nat), k <= 9 /\ iv = .int .i64 (k : Int) /\ lv = .slice pa us.length pc /\ us.length <= 142 + k /\ Hid (DR w1.heap.size w.heap.size (2004 + 2 * k) w1 wr us (.slice pa us.length pc))) (fun _ iv _ => (9 - intOf iv).toNat)
   case atStart => exact ⟨0, us2, na, nc, by omega, rfl, rfl, by omega, hid (HD4.out.more (by omega))⟩
   case round =>
    clear HD4 hl5 hlu hl2 hl3 hgl hcp hcm
    obtain ⟨k, us, pa, pc, hk, rfl, rfl, hul, HD⟩ := hrel
    have HP := hid (pick_any w.heap.size (2004 + 2 * k) 2 wr HD.out.cur (by omega) (by omega) (by omega))
    go_wp2_with (go_at_call 28; fail)
    refine HP.out.mono ?_
    rintro e w4 ⟨x, a4, b4, rfl, hc4, hu4⟩
    have HD4 := hid (HD.out.draw hcl hc4 hu4)
    clear hc4 hu4 HD HP
    by_cases hlt : (k : Int) < 8 + x
    .go_wp2_with (go_at_call 29; fail)
     refine (dec_one k w4 (by omega)).mono ?_
     rintro e w5 ⟨sx, hsx, rfl, hb5⟩
     have d5 := HD4.out.below hcl hb5
     have HD5 := hid d5
     have dA := d5.below hcl (below_alloc w5 (.cells #[.int .i64 8, .int .i64 4, .int .i64 0, .int .i64 0, .int .i64 0, .int .i64 0, .string (⟨#[115]⟩ ++ sx)] 41))
     have HDA := hid dA
     have hbA : w1.heap.size <= (w5.alloc (.cells #[.int .i64 8, .int .i64 4, .int .i64 0, .int .i64 0, .int .i64 0, .int .i64 0, .string (⟨#[115]⟩ ++ sx)] 41)).heap.size := HDA.out.upd.size
     have HCN := hid (cells_new w5 (opK ⟨8, 4, 0, 0, 0, 0, ⟨#[115]⟩ ++ sx⟩) 41 _ rfl)
     have hsz : (⟨#[115]⟩ ++ sx : ByteArray).size <= 4 := by rw [ByteArray.size_append]; show 1 + sx.size <= 4; omega
     have HSZ := hid hsz
     clear dA d5 HD4 hb5 HD5 hsz
     go_wp2_with (at_builtin; go_loud (refine wpList_append_own_at _ rfl (.tmp 86) (.tmp 91) 23 rfl w1.heap.size 41 j0 _ 7 64 Tryz.underlying23 hj hy0 hy1 hy2 rfl (by decide) (.slice pa us.length pc) us.length (us.flatMap opK) rfl HDA.out.row ⟨w5.heap.size, 0, none⟩ 1 1 (opK ⟨8, 4, 0, 0, 0, 0, ⟨#[115]⟩ ++ sx⟩) rfl rfl HCN.out (oneOp _) (by unfold maxLen; omega) (by omega) hbA ?_; intro v' w' hown hgrow _ hat; obtain ⟨na, nc, hvn⟩ := formR hown; subst hvn; have HDN := hid (HDA.out.push hcl (Nat.le_refl _) hgrow hown HSZ.out); clear hown hgrow hat))
     go_roundw
     case rel => exact ⟨k + 1, us ++ [⟨8, 4, 0, 0, 0, 0, ⟨#[115]⟩ ++ sx⟩], na, nc, by omega, by go_num, by simp, by simp; omega, hid (by simpa using HDN.out.more (by omega))⟩
     case measure => simp [intOf]; omega
    .have HF := hid (HD4.out.fin HB1.out rfl (by omega) (by omega))
     clear HD4
     go_wp2
     go_ret
     exact HF.out
 .have e2 : (r == 2) = false := by simpa using hr2
  clear hr1 hr2 HD
  go_wp2
  go_ret
  exact HF0.out
theorem list_fst (cms : List Com) (bg t : Int) (own : List Cel) : ((listF cms bg own t).map Prod.fst).Pairwise (· < ·) := by
 refine fm_fst (fun k p hp => ?_) _ (keysF_sorted cms own t).1
 unfold pairAt at hp
 split at hp
 .injection hp with hp; rw [<- hp]
 .cases hp
theorem list_mem {cms : List Com} {bg t y v : Int} {own : List Cel} : (y, v) ∈ listF cms bg own t ↔ seesN cms bg own t y = (v, true) := by
 unfold listF pairsF
 rw [List.mem_filterMap]
 constructor
 .rintro ⟨k, hk, he⟩
  have hn := seesF_N cms bg own t k
  unfold pairAt at he
  revert he
  generalize seesF cms bg own t k = z at hn
  obtain ⟨z1, z2⟩ := z
  cases z2
  .intro he; simp at he
  .intro he; simp at he hn; obtain ⟨rfl, rfl⟩ := he; exact hn.symm
 .intro hv
  refine ⟨y, sees_key hv, ?_⟩
  have hn := seesF_N cms bg own t y
  unfold pairAt
  revert hn
  generalize seesF cms bg own t y = z
  obtain ⟨z1, z2⟩ := z
  rw [hv]
  cases z2
  .intro hn; simp at hn
  .intro hn; simp at hn ⊢; exact hn
theorem list_ext {cms cms' : List Com} {bg bg' t : Int} {own own' : List Cel} (h : ∀ y, seesN cms bg own t y = seesN cms' bg' own' t y) : listF cms bg own t = listF cms' bg' own' t :=
 list_is (list_fst cms bg t own) (fun y v => by rw [list_mem, h])
theorem seen_new {cms : List Com} {bg t y : Int} {c : Com} (h : bg < c.st) : seenC (cms ++ [c]) bg t y = seenC cms bg t y := by
 unfold seenC
 rw [List.reverse_append, List.reverse_singleton, List.singleton_append, List.findSome?_cons]
 unfold comN
 rw [if_pos h]
theorem list_new {cms : List Com} {bg t : Int} {own : List Cel} {c : Com} (h : bg < c.st) : listF (cms ++ [c]) bg own t = listF cms bg own t :=
 list_ext (fun y => by unfold seesN; rw [seen_new h])
theorem newC_put {own : List Cel} {c : Cel} {t y : Int} (h : c.tb ≠ t) : newC (own ++ [c]) t y = newC own t y := by
 unfold newC
 rw [List.filter_append]
 have : [c].filter (hits t y) = [] := by
  rw [List.filter_eq_nil_iff]
  intro a ha
  rw [List.mem_singleton] at ha
  subst ha
  unfold hits
  simp [h]
 rw [this, List.append_nil]
theorem list_put {cms : List Com} {bg t : Int} {own : List Cel} {c : Cel} (h : c.tb ≠ t) : listF cms bg (own ++ [c]) t = listF cms bg own t :=
 list_ext (fun y => by unfold seesN; rw [newC_put h])
structure Sn where
 op : Bool
 un : Bool
 bg : Int
 cm : Int
 ks : List (Int × Int)
 td : List Bool
 ls : List (List (Int × Int))
def sn0 : Sn := ⟨false, false, 0, 0, [], [], []⟩
def ll0 : List (List (Int × Int)) := List.replicate 32 []
def OKp (x y : Sn) : Prop := x.un = true \/ y.un = true \/ y.cm <= x.bg \/ x.cm <= y.bg \/ ∀ k ∈ x.ks, k ∉ y.ks
structure SnOK (cms : List Com) (t : Txn) (n : Sn) : Prop where
 bg : n.bg = t.bg
 tl : n.td.length = 32
 ll : n.ls.length = 32
 ls : ∀ k : Nat, k < 32 -> n.td.getD k false = true -> n.ls.getD k [] = listF cms t.bg t.own k
 ks : n.un = false -> ∀ k ∈ n.ks, ∃ c ∈ t.own, (c.tb, c.ky) = k
structure SI (x : Bas) (nw : List Sn) (ps : List Sn) : Prop where
 n : nw.length = 5
 x4 : x.tx.length = 4
 tx : ∀ i t, x.tx[i]? = some t -> t.op = true -> t.bg <= x.ck /\ ∃ s, nw[i + 1]? = some s /\ SnOK x.cms t s
 ck : ∀ c ∈ x.cms, c.st <= x.ck
 pa : ∀ p ∈ ps, p.un = false -> ∃ c ∈ x.cms, c.st = p.cm /\ ∀ k ∈ p.ks, ∃ d ∈ c.cs, (d.tb, d.ky) = k
 pw : ps.Pairwise (fun y x => OKp x y)
theorem si0 : SI bas0 (List.replicate 5 sn0) [] := by
 refine ⟨by simp, by simp [bas0], fun i t h ho => ?_, by simp [bas0], by simp, List.Pairwise.nil⟩
 exfalso
 have : t ∈ bas0.tx := List.mem_of_getElem? h
 simp [bas0] at this
 subst this
 cases ho
theorem SI.shut {x : Bas} {nw ps : List Sn} (h : SI x nw ps) {i : Nat} {t : Txn} (ht : t.op = false) (n : Sn) : SI { x with tx := x.tx.set i t } (nw.set (i + 1) n) ps := by
 refine ⟨by simpa using h.n, by simpa using h.x4, fun j u hu ho => ?_, h.ck, h.pa, h.pw⟩
 simp only at hu ⊢
 by_cases e : i = j
 .subst e
  rw [List.getElem?_set_self'] at hu
  cases hx : x.tx[i]? with
  | none => rw [hx] at hu; cases hu
  | some z => rw [hx] at hu; simp at hu; subst hu; rw [ht] at ho; cases ho
 .rw [List.getElem?_set_ne e] at hu
  obtain ⟨h1, s, h2, h3⟩ := h.tx j u hu ho
  exact ⟨h1, s, by rw [List.getElem?_set_ne (by omega)]; exact h2, h3⟩
theorem SI.put {x : Bas} {nw ps : List Sn} (h : SI x nw ps) {i : Nat} {t : Txn} {n : Sn} (hb : t.bg <= x.ck) (hs : SnOK x.cms t n) (hi : i < 4) : SI { x with tx := x.tx.set i t } (nw.set (i + 1) n) ps := by
 have hn := h.n
 refine ⟨by simpa using h.n, by simpa using h.x4, fun j u hu ho => ?_, h.ck, h.pa, h.pw⟩
 simp only at hu ⊢
 by_cases e : i = j
 .subst e
  rw [List.getElem?_set_self'] at hu
  cases hx : x.tx[i]? with
  | none => rw [hx] at hu; cases hu
  | some z => rw [hx] at hu; simp at hu; subst hu; exact ⟨hb, n, by rw [List.getElem?_set_self (by omega)], hs⟩
 .rw [List.getElem?_set_ne e] at hu
  obtain ⟨h1, s, h2, h3⟩ := h.tx j u hu ho
  exact ⟨h1, s, by rw [List.getElem?_set_ne (by omega)]; exact h2, h3⟩
theorem set_smN {α : Type} {l : List α} {i : Nat} {a : α} (h : l[i]? = some a) : l.set i a = l := by
 obtain ⟨h1, rfl⟩ := List.getElem?_eq_some_iff.1 h
 exact List.set_getElem_self h1
theorem SI.same {x : Bas} {nw ps : List Sn} (h : SI x nw ps) {i : Nat} {t u : Txn} (hi : x.tx[i]? = some t) (ht : t.op = true) (h1 : u.bg = t.bg) (h2 : u.own = t.own) : SI { x with tx := x.tx.set i u } nw ps := by
 have hl : i < 4 := by have := (List.getElem?_eq_some_iff.1 hi).1; rw [h.x4] at this; exact this
 obtain ⟨b, s, hs, ho⟩ := h.tx i t hi ht
 have := h.put (t := u) (n := s) (by rw [h1]; exact b) ⟨ho.bg.trans h1.symm, ho.tl, ho.ll, fun k hk hd => by rw [h1, h2]; exact ho.ls k hk hd, fun hu k hk => by rw [h2]; exact ho.ks hu k hk⟩ hl
 rw [set_smN hs] at this
 exact this
theorem SI.commit {x : Bas} {nw ps : List Sn} (h : SI x nw ps) {i : Nat} {t : Txn} {s : Sn} (hi : x.tx[i]? = some t) (ht : t.op = true) (hs : nw[i + 1]? = some s) (hc : conflictF x.cms t.bg t.own = false) (hs' : List TI) :
 SI { ck := x.ck + 1, cms := x.cms ++ [⟨x.ck + 1, t.own⟩], hs := hs', tx := x.tx.set i tx0 } (nw.set (i + 1) sn0) (ps ++ [{ s with cm := x.ck + 1 }]) := by
 obtain ⟨b, s', hs2, ho⟩ := h.tx i t hi ht
 rw [hs] at hs2
 injection hs2 with hs2
 subst hs2
 have h0 := h.shut (i := i) (t := tx0) rfl sn0
 refine ⟨h0.n, h0.x4, fun j u hu huo => ?_, fun c hc => ?_, fun p hp hu => ?_, ?_⟩
 .obtain ⟨a1, q, a2, a3⟩ := h0.tx j u hu huo
  simp only at a1 a3 ⊢
  refine ⟨by omega, q, a2, a3.bg, a3.tl, a3.ll, fun k hk hd => ?_, a3.ks⟩
  rw [list_new (by simp only; omega)]
  exact a3.ls k hk hd
 .simp only at hc ⊢
  rcases List.mem_append.1 hc with z | z
  .have := h.ck c z; omega
  .rw [List.mem_singleton] at z; rw [z]; exact Int.le_refl _
 .rcases List.mem_append.1 hp with z | z
  .obtain ⟨c, c1, c2⟩ := h.pa p z hu
   exact ⟨c, List.mem_append_left _ c1, c2⟩
  .rw [List.mem_singleton] at z
   subst z
   exact ⟨⟨x.ck + 1, t.own⟩, List.mem_append_right _ (List.mem_singleton.2 rfl), rfl, fun k hk => ho.ks hu k hk⟩
 .refine List.pairwise_append.2 ⟨h.pw, List.pairwise_singleton _ _, fun y hy z hz => ?_⟩
  rw [List.mem_singleton] at hz
  subst hz
  unfold OKp
  simp only
  by_cases u1 : s.un = true
  .exact .inl u1
  by_cases u2 : y.un = true
  .exact .inr (.inl u2)
  by_cases u3 : y.cm <= s.bg
  .exact .inr (.inr (.inl u3))
  refine .inr (.inr (.inr (.inr (fun k hk hy2 => ?_))))
  obtain ⟨c, c1, c2, c3⟩ := h.pa y hy (by simpa using u2)
  obtain ⟨d, d1, d2⟩ := c3 k hy2
  obtain ⟨e, e1, e2⟩ := ho.ks (by simpa using u1) k hk
  have hb := ho.bg
  unfold conflictF at hc
  have q := List.any_eq_false.1 hc c c1
  apply q
  unfold clashC
  rw [Bool.and_eq_true, decide_eq_true_eq, List.any_eq_true]
  refine ⟨by omega, e, e1, ?_⟩
  rw [<- e2] at d2
  injection d2 with d2 d3
  unfold newC
  cases hq : (c.cs.filter (hits e.tb e.ky)).getLast? with
  | some z => rfl
  | none =>
    exfalso
    have hn := List.filter_eq_nil_iff.1 (List.getLast?_eq_none_iff.1 hq)
    exact hn d d1 (by unfold hits; simp [d2, d3])
noncomputable def stepS (nw ps : List Sn) (o : Opn) (a : Obn) : List Sn × List Sn :=
 if o.ss < 1 \/ 4 < o.ss then (nw, ps)
 else
  if a.code ≠ 0 then (if o.kd = 6 then (nw.set o.ss.toNat sn0, ps) else (nw, ps))
  else if o.kd = 1 then (nw.set o.ss.toNat ⟨true, false, a.st, 0, [], rd0, ll0⟩, ps)
  else if o.kd = 3 then (nw.set o.ss.toNat { nw.getD o.ss.toNat sn0 with td := (nw.getD o.ss.toNat sn0).td.set o.tb.toNat true, ls := (nw.getD o.ss.toNat sn0).ls.set o.tb.toNat a.ps }, ps)
  else if o.kd = 4 \/ o.kd = 5 then (nw.set o.ss.toNat { nw.getD o.ss.toNat sn0 with td := (nw.getD o.ss.toNat sn0).td.set o.tb.toNat false, ks := (nw.getD o.ss.toNat sn0).ks ++ [(o.tb, o.ky)] }, ps)
  else if o.kd = 9 then (nw.set o.ss.toNat { nw.getD o.ss.toNat sn0 with un := true, td := rd0 }, ps)
  else if o.kd = 6 then (nw.set o.ss.toNat sn0, ps ++ [{ nw.getD o.ss.toNat sn0 with cm := a.st }])
  else if o.kd = 7 then (nw.set o.ss.toNat sn0, ps)
  else (nw.set o.ss.toNat (nw.getD o.ss.toNat sn0), ps)
def StepF (nw : List Sn) (o : Opn) (a : Obn) : Prop := ¬ (o.ss < 1 \/ 4 < o.ss) -> a.code = 0 -> (o.kd = 3 \/ o.kd = 4 \/ o.kd = 5) -> 0 <= o.tb /\ o.tb < 32 /\ (nw.getD o.ss.toNat sn0).td.length = 32 /\ (nw.getD o.ss.toNat sn0).ls.length = 32 /\ (o.kd = 3 -> (nw.getD o.ss.toNat sn0).td.getD o.tb.toNat false = true -> (nw.getD o.ss.toNat sn0).ls.getD o.tb.toNat [] = a.ps)
theorem getD_stN {α : Type} (l : List α) (i j : Nat) (a d : α) (hi : i < l.length) : (l.set i a).getD j d = if i = j then a else l.getD j d := by
 rw [List.getD_eq_getElem?_getD, List.getD_eq_getElem?_getD]
 by_cases e : i = j
 .subst e
  rw [if_pos rfl, List.getElem?_set_self hi]
  rfl
 .rw [if_neg e, List.getElem?_set_ne e]
theorem rd0_len : rd0.length = 32 := by unfold rd0; rw [List.length_replicate]
theorem rd0_at (k : Nat) : rd0.getD k false = false := by
 unfold rd0
 rw [List.getD_eq_getElem?_getD, List.getElem?_replicate]
 split <;> rfl
theorem ll0_len : ll0.length = 32 := by unfold ll0; rw [List.length_replicate]
theorem step_ok {x : Bas} {nw ps : List Sn} (h : SI x nw ps) (o : Opn) : SI (runF x o).1 (stepS nw ps o (runF x o).2).1 (stepS nw ps o (runF x o).2).2 /\ StepF nw o (runF x o).2 := by
 unfold stepS StepF
 by_cases hg : o.kd < 1 \/ 10 < o.kd \/ o.ss < 1 \/ 4 < o.ss
 .have er : runF x o = (x, ⟨1, 0, 0, false, []⟩) := by unfold runF; rw [if_pos hg]
  rw [er]
  refine ⟨?_, fun h1 h2 h3 => by simp at h2⟩
  by_cases hs : o.ss < 1 \/ 4 < o.ss
  .rw [if_pos hs]; exact h
  .rw [if_neg hs, if_pos (by simp), if_neg (by omega)]; exact h
 have hs : ¬ (o.ss < 1 \/ 4 < o.ss) := by omega
 obtain ⟨i, hi⟩ : ∃ i : Nat, o.ss = (i : Int) + 1 := ⟨(o.ss - 1).toNat, by omega⟩
 have hi4 : i < 4 := by omega
 have e1 : (o.ss - 1).toNat = i := by omega
 have e2 : o.ss.toNat = i + 1 := by omega
 have hl := h.x4
 obtain ⟨t, ht⟩ : ∃ t, x.tx[i]? = some t := ⟨_, List.getElem?_eq_getElem (by omega)⟩
 have hd : x.tx.getD i tx0 = t := by rw [List.getD_eq_getElem?_getD, ht]; rfl
 have hsame : x.tx.set i t = x.tx := set_smN ht
 rw [if_neg hs, e2]
 by_cases hop : (o.kd == 1) = t.op
 .have er : runF x o = (x, ⟨22, 0, 0, false, []⟩) := by unfold runF; rw [if_neg hg]; simp only [e1, hd]; rw [if_pos hop]
  rw [er]
  refine ⟨?_, fun h1 h2 h3 => by simp at h2⟩
  rw [if_pos (by simp)]
  by_cases h6 : o.kd = 6
  .rw [if_pos h6]
   have := h.shut (i := i) (t := t) (by rw [<- hop, h6]; rfl) sn0
   rw [hsame] at this
   exact this
  .rw [if_neg h6]; exact h
 by_cases htb : (2 <= o.kd /\ o.kd <= 5) /\ (o.tb < 0 \/ 32 <= o.tb)
 .have er : runF x o = (x, ⟨6, 0, 0, false, []⟩) := by unfold runF; rw [if_neg hg]; simp only [e1, hd]; rw [if_neg hop, if_pos htb]
  rw [er]
  refine ⟨?_, fun h1 h2 h3 => by simp at h2⟩
  rw [if_pos (by simp), if_neg (by omega)]
  exact h
 by_cases k1 : o.kd = 1
 .by_cases hm : o.md ≠ 1 /\ o.md ≠ 2
  .have er : runF x o = (x, ⟨1, 0, 0, false, []⟩) := by unfold runF; rw [if_neg hg]; simp only [e1, hd]; rw [if_neg hop, if_neg htb, if_pos k1, if_pos hm]
   rw [er]
   refine ⟨?_, fun h1 h2 h3 => by simp at h2⟩
   rw [if_pos (by simp), if_neg (by omega)]
   exact h
  .have er : runF x o = ({ x with tx := x.tx.set i ⟨true, o.md, x.ck, [], rd0, []⟩ }, ⟨0, 0, x.ck, false, []⟩) := by unfold runF; rw [if_neg hg]; simp only [e1, hd]; rw [if_neg hop, if_neg htb, if_pos k1, if_neg hm]
   rw [er]
   refine ⟨?_, fun h1 h2 h3 => by omega⟩
   rw [if_neg (by simp), if_pos k1]
   exact h.put (Int.le_refl _) ⟨rfl, rd0_len, ll0_len, fun k hk hq => (by rw [rd0_at] at hq; cases hq), fun _ k hk => (by cases hk)⟩ hi4
 have hto : t.op = true := by
  have : (o.kd == 1) = false := by simpa using k1
  rw [this] at hop
  cases hq : t.op with
  | true => rfl
  | false => rw [hq] at hop; exact absurd rfl hop
 obtain ⟨hbg, s, hsn, hok⟩ := h.tx i t ht hto
 have hsd : nw.getD (i + 1) sn0 = s := by rw [List.getD_eq_getElem?_getD, hsn]; rfl
 rw [hsd]
 by_cases k2 : o.kd = 2
 .have er : (runF x o).1 = { x with tx := x.tx.set i { t with rs := t.rs.set o.tb.toNat true } } /\ (runF x o).2.code = 0 := by
   unfold runF; rw [if_neg hg]; simp only [e1, hd]; rw [if_neg hop, if_neg htb, if_neg k1, if_pos k2]
   refine ⟨rfl, ?_⟩
   simp only
   split <;> rfl
  rw [er.1]
  refine ⟨?_, fun h1 h2 h3 => by omega⟩
  rw [if_neg (by rw [er.2]; simp), if_neg k1, if_neg (by omega), if_neg (by omega), if_neg (by omega), if_neg (by omega), if_neg (by omega), set_smN hsn]
  exact h.same ht hto rfl rfl
 by_cases k3 : o.kd = 3
 .have er : runF x o = ({ x with tx := x.tx.set i { t with rs := t.rs.set o.tb.toNat true } }, ⟨0, 0, 0, false, listF x.cms t.bg t.own o.tb⟩) := by
   unfold runF; rw [if_neg hg]; simp only [e1, hd]; rw [if_neg hop, if_neg htb, if_neg k1, if_neg k2, if_pos k3]
  rw [er]
  obtain ⟨b, hb⟩ : ∃ b : Nat, o.tb = b := ⟨o.tb.toNat, by omega⟩
  have hb32 : b < 32 := by omega
  refine ⟨?_, fun h1 h2 h3 => ⟨by omega, by omega, hok.tl, hok.ll, fun _ hq => ?_⟩⟩
  .rw [if_neg (by simp), if_neg k1, if_pos k3]
   refine h.put hbg ⟨hok.bg, by simpa using hok.tl, by simpa using hok.ll, fun k hk hq => ?_, hok.ks⟩ hi4
   simp only at hq ⊢
   rw [getD_stN _ _ _ _ _ (by rw [hok.tl]; omega)] at hq
   rw [getD_stN _ _ _ _ _ (by rw [hok.ll]; omega)]
   by_cases e : o.tb.toNat = k
   .rw [if_pos e, <- e, show ((o.tb.toNat : Nat) : Int) = o.tb by omega]
   .rw [if_neg e] at hq ⊢
    exact hok.ls k hk hq
  .simp only
   have := hok.ls o.tb.toNat (by omega) hq
   rw [show ((o.tb.toNat : Nat) : Int) = o.tb by omega] at this
   exact this
 by_cases k5 : o.kd <= 5
 .have er : runF x o = ({ x with tx := x.tx.set i { t with own := t.own ++ [⟨o.tb, o.ky, o.vl, decide (o.kd = 5)⟩] } }, ⟨0, 0, 0, false, []⟩) := by
   unfold runF; rw [if_neg hg]; simp only [e1, hd]; rw [if_neg hop, if_neg htb, if_neg k1, if_neg k2, if_neg k3, if_pos k5]
  rw [er]
  refine ⟨?_, fun h1 h2 h3 => ⟨by omega, by omega, hok.tl, hok.ll, fun z => absurd z k3⟩⟩
  rw [if_neg (by simp), if_neg k1, if_neg k3, if_pos (by omega)]
  refine h.put hbg ⟨hok.bg, by simpa using hok.tl, hok.ll, fun k hk hq => ?_, fun hu k hk => ?_⟩ hi4
  .simp only at hq ⊢
   rw [getD_stN _ _ _ _ _ (by rw [hok.tl]; omega)] at hq
   by_cases e : o.tb.toNat = k
   .rw [if_pos e] at hq; cases hq
   .rw [if_neg e] at hq
    rw [list_put (by simp only; omega)]
    exact hok.ls k hk hq
  .simp only at hk ⊢
   rcases List.mem_append.1 hk with z | z
   .obtain ⟨c, c1, c2⟩ := hok.ks hu k z
    exact ⟨c, List.mem_append_left _ c1, c2⟩
   .rw [List.mem_singleton] at z
    exact ⟨_, List.mem_append_right _ (List.mem_singleton.2 rfl), z.symm⟩
 by_cases k6 : o.kd = 6
 .have er : runF x o = ((commitF x i).1, ⟨(commitF x i).2.2, 0, (commitF x i).2.1, false, []⟩) := by
   unfold runF; rw [if_neg hg]; simp only [e1, hd]; rw [if_neg hop, if_neg htb, if_neg k1, if_neg k2, if_neg k3, if_neg k5, if_pos k6]
  rw [er]
  refine ⟨?_, fun h1 h2 h3 => by omega⟩
  simp only
  unfold commitF
  simp only [hd]
  by_cases hc : conflictF x.cms t.bg t.own = true
  .rw [if_pos hc]
   simp only
   rw [if_pos (by decide), if_pos k6]
   exact h.shut rfl sn0
  .have hcf : conflictF x.cms t.bg t.own = false := by simpa using hc
   rw [if_neg hc]
   by_cases hm : t.md = 2 /\ certF (x.hs ++ [infoF t.bg (x.ck + 1) t.own t.rs]) ≠ 0
   .rw [if_pos hm]
    simp only
    rw [if_pos hm.2, if_pos k6]
    exact h.shut rfl sn0
   .rw [if_neg hm]
    simp only
    rw [if_neg (show ¬ ((0 : Int) ≠ 0) by simp), if_neg k1, if_neg k3, if_neg (show ¬ (o.kd = 4 \/ o.kd = 5) by omega), if_neg (show ¬ o.kd = 9 by omega), if_pos k6]
    exact h.commit ht hto hsn hcf _
 by_cases k7 : o.kd = 7
 .have er : runF x o = ({ x with tx := x.tx.set i tx0 }, ⟨0, 0, 0, false, []⟩) := by
   unfold runF; rw [if_neg hg]; simp only [e1, hd]; rw [if_neg hop, if_neg htb, if_neg k1, if_neg k2, if_neg k3, if_neg k5, if_neg k6, if_pos k7]
  rw [er]
  refine ⟨?_, fun h1 h2 h3 => by omega⟩
  rw [if_neg (by simp), if_neg k1, if_neg k3, if_neg (by omega), if_neg (by omega), if_neg k6, if_pos k7]
  exact h.shut rfl sn0
 have er : runF x o = ((savesF x i o).1, ⟨(savesF x i o).2, 0, 0, false, []⟩) := by
  unfold runF; rw [if_neg hg]; simp only [e1, hd]; rw [if_neg hop, if_neg htb, if_neg k1, if_neg k2, if_neg k3, if_neg k5, if_neg k6, if_neg k7]
 rw [er]
 refine ⟨?_, fun h1 h2 h3 => by omega⟩
 simp only
 unfold savesF
 simp only [hd]
 by_cases k8 : o.kd = 8
 .rw [if_pos k8]
  by_cases h8 : 8 <= t.sv.length
  .rw [if_pos h8]
   simp only
   rw [if_pos (by decide), if_neg k6]
   exact h
  .rw [if_neg h8]
   simp only
   rw [if_neg (by simp), if_neg k1, if_neg k3, if_neg (by omega), if_neg (by omega), if_neg k6, if_neg k7, set_smN hsn]
   exact h.same ht hto rfl rfl
 .rw [if_neg k8]
  cases hsv : savedF t.sv o.nm with
  | none =>
    simp only
    rw [if_pos (by decide), if_neg k6]
    exact h
  | some k =>
    simp only
    by_cases k9 : o.kd = 9
    .simp only [if_pos k9]
     rw [if_neg (by simp), if_neg k1, if_neg k3, if_neg (by omega)]
     exact h.put hbg ⟨hok.bg, rd0_len, hok.ll, fun k hk hq => (by simp only at hq; rw [rd0_at] at hq; cases hq), fun hu => (by cases hu)⟩ hi4
    .simp only [if_neg k9]
     rw [if_neg (by simp), if_neg k1, if_neg k3, if_neg (by omega), if_neg k6, if_neg k7, set_smN hsn]
     exact h.same ht hto rfl rfl
end Go.Proofs.YtblkgicbimflhaaGreat
