import Derived.Test.YtblkgicbimflhaaGreatSBO
import Derived.Test.YtblkgicbimflhaaGreatSBA
import Derived.Lib.ItoaNum
import Derived.Lib.ItoaMem
import Derived.Laws.BytesArg
namespace Go.Proofs.YtblkgicbimflhaaGreat
open Go.ChangeShapes Go.WideShapes Go.ChangeAt Go.RowKit
set_option linter.unusedVariables false
set_option linter.unusedSimpArgs false
set_option maxRecDepth 100000
set_option maxHeartbeats 16000000
theorem infoOp : (Tryz.prog.info? 41).map (fun i => (i.zero, i.size, i.bytes)) = some (some (.agg #[.int .i64 0, .int .i64 0, .int .i64 0, .int .i64 0, .int .i64 0, .int .i64 0, .string ByteArray.empty]), 7, 64) := by kernel_rfl
theorem infoBoo : (Tryz.prog.info? 4).map (fun i => (i.zero, i.size, i.bytes)) = some (some (.bool false), 1, 1) := by kernel_rfl
theorem mk5 (W : World) : (Instr.makeSlice 39 (.int .i64 5) (.int .i64 5)).run Tryz.prog W = .ok (.slice (some ⟨W.heap.size, 0, none⟩) 5 5) (W.alloc (.cells #[.bool false, .bool false, .bool false, .bool false, .bool false] 4)) := by
 obtain ⟨i0, hi, hz0, hz1, hz2⟩ := info_parts infoBoo
 have h := run_makeSlice W 39 4 i0 _ Tryz.underlying39 hi hz0 .i64 .i64 5 5 (by decide) (by decide) (by rw [hz1]; decide) (by rw [hz2]; decide) (by decide)
 rw [hz1] at h
 have e : madeCells (Value.bool false).cells (Int.toNat 5 * 1) = #[.bool false, .bool false, .bool false, .bool false, .bool false] := by first | rfl | kernel_rfl | decide
 rw [e] at h
 exact h
theorem DS.setB {w : World} {c : Nat} {A : Int} {ob : Nat} {wr : World} {us : List Opn} {v : Value} (h : DS w c A ob wr us v) (hcl : c < w.heap.size) {g : Nat} (hg : w.heap.size <= g) (hv : v.ownBlock ≠ some g) (ho : g ≠ ob) (j : Nat) (u : Value) : DS w c A ob (wr.setCell ⟨g, j, none⟩ u) us v := by
 obtain ⟨bs, hb, kb⟩ := h.opn
 have hl := h.obl
 have ub : Upd g wr (wr.setCell ⟨g, j, none⟩ u) := (Upd.refl _ _).setCell j u
 exact ⟨own_fr h.row (Fr.setCell wr g j u) (fun q hq e => hv (by rw [hq]; exact congrArg some e)), ⟨bs, hb, kb.upd ub hl.2 (fun e => ho e.symm)⟩, h.cur.new ub (by omega), h.upd.new ub hg, h.nam, ⟨hl.1, by simpa using hl.2⟩, h.nob⟩
theorem oneOp (o : Opn) : ∀ u ∈ opK o, u.oneCell' = true := fun u hu => by
 unfold opK at hu
 simp at hu
 rcases hu with rfl | rfl | rfl | rfl | rfl | rfl | rfl <;> rfl
def DrO (w : World) (c : Nat) (A : Int) (e : Ending) (w' : World) : Prop := ∃ (us : List Opn) (v : Value), e = .returned v /\ w'.ownsRow w.heap.size 41 7 v us.length (us.flatMap opK) /\ 2 <= us.length /\ us.length <= 141 /\ (∀ u ∈ us, u.nm.size <= 1) /\ IsCur w' c (A + 2000) /\ Upd c w w'
theorem drawOps_any (c : Nat) (A : Int) (w : World) (h : IsCur w c A) (hA : A <= 1000000) :
 Calls Tryz.prog 20 #[.pointer (some ⟨c, 0, none⟩), .int .i64 0] w fun e w' => DrO w c A e w' := by
 obtain ⟨j0, hj, hy0, hy1, hy2⟩ := info_parts infoOp
 have hcl := h.lt
 obtain ⟨w0, hw0⟩ : ∃ z, z = (w.alloc (.cells #[] 41)).alloc (.cells #[.bool false, .bool false, .bool false, .bool false, .bool false] 4) := ⟨_, rfl⟩
 have b0 : Below w.heap.size w w0 := by rw [hw0]; exact (below_alloc _ _).trans ((below_alloc _ _).mono (by simp))
 have D0 : DS w c A (w.heap.size + 1) w0 [] (.slice (some ⟨w.heap.size, 0, none⟩) 0 0) := by
  refine ⟨?_, ⟨[false, false, false, false, false], rfl, ?_⟩, h.same (fun k hk => b0.block k (by omega)) (Nat.lt_of_lt_of_le hcl b0.size), Upd.of_below b0, fun u hu => by simp at hu, ⟨Nat.le_succ _, by rw [hw0]; simp⟩, fun e => by simp [Value.ownBlock] at e⟩
  .have := World.ownsRow_made (base := w.heap.size) (e := 41) (size := 7) w #[] 0 (by simp) (by unfold maxLen; omega) (by simp)
   rw [hw0]
   exact own_below (by simpa using this) (below_alloc _ _)
  .have := blk_new (w.alloc (.cells #[] 41)) [.bool false, .bool false, .bool false, .bool false, .bool false] 4
   rw [show (w.alloc (.cells #[] 41)).heap.size = w.heap.size + 1 by simp] at this
   rw [hw0]; exact this
 have HP := hid (pick_any c A 60 w0 D0.cur (by omega) (by omega) (by omega))
 have HD0 := hid D0
 have hmk := mk5
 clear D0 h
 rw [hw0] at HP
 go_enter Tryz.func20, Tryz.ntmps20
 go_wp2_with (go_at_call 28; fail)
 rw [<- hw0] at HP ⊢
 clear hw0 b0 hmk
 refine HP.out.mono ?_
 rintro e w1 ⟨r1, a1, b1, rfl, hc1, hu1⟩
 have HD1 := hid (HD0.out.draw hcl hc1 hu1)
 clear hc1 hu1 HP HD0
 go_wp2
 go_loopw [5, 7] (fun lv nv wr => ∃ (k : Nat) (us : List Opn) (pa : Option Addr) (pc : Nat), k <= 69 /\ nv = .int .i64 k /\ lv = .slice pa us.length pc /\ us.length + 2 * k <= 138 /\ Hid (DS w c (A + 2 + 28 * (69 - k)) (w.heap.size + 1) wr us (.slice pa us.length pc))) (fun _ nv _ => (intOf nv).toNat)
 case atStart => exact ⟨(10 + r1).toNat, [], _, 0, by omega, by congr 1; omega, rfl, by simp; omega, hid (HD1.out.more (by omega))⟩
 case round =>
  clear HD1
  obtain ⟨k, us, pa, pc, hk, rfl, rfl, hul, HD⟩ := hrel
  by_cases hk0 : k = 0
  .subst hk0
   have hkn : ¬ (0 : Int) < ((0 : Nat) : Int) := by omega
   have hD0 : Hid (DS w c (A + 1934) (w.heap.size + 1) wr us (.slice pa us.length pc)) := hid (HD.out.more (by omega))
   clear HD
   go_wp2
   rename World => wq
   go_loopw [5, 10] (fun lv nv wr => ∃ (j : Nat) (us : List Opn) (pa : Option Addr) (pc : Nat), j <= 3 /\ nv = .int .i64 ((j : Int) + 1) /\ lv = .slice pa us.length pc /\ j <= us.length /\ us.length <= 138 + j /\ Hid (DS w c (A + 1934) (w.heap.size + 1) wr us (.slice pa us.length pc))) (fun _ nv _ => (4 - intOf nv).toNat)
   case atStart => exact ⟨0, us, pa, pc, by omega, rfl, rfl, by omega, by omega, hD0⟩
   case round =>
    clear hD0 hul
    obtain ⟨j, us2, qa, qc, hj3, rfl, rfl, hju, hul, HD⟩ := hrel
    by_cases hlt : j < 3
    .have hle : (j : Int) + 1 <= 3 := by omega
     have dA := HD.out.below hcl (below_alloc wr (.cells #[.int .i64 6, .int .i64 ((j : Int) + 1), .int .i64 0, .int .i64 0, .int .i64 0, .int .i64 0, .string ⟨#[]⟩] 41))
     have HDA := hid dA
     have hbA : w.heap.size <= (wr.alloc (.cells #[.int .i64 6, .int .i64 ((j : Int) + 1), .int .i64 0, .int .i64 0, .int .i64 0, .int .i64 0, .string ⟨#[]⟩] 41)).heap.size := HDA.out.upd.size
     have hcn := cells_new wr (opK ⟨6, (j : Int) + 1, 0, 0, 0, 0, ⟨#[]⟩⟩) 41 _ rfl
     have HCN := hid hcn
     clear dA hcn HD
     go_wp2_with (at_builtin; go_loud (refine wpList_append_own_at _ rfl (.tmp 100) (.tmp 103) 23 rfl w.heap.size 41 j0 _ 7 64 Tryz.underlying23 hj hy0 hy1 hy2 rfl (by decide) (.slice qa us2.length qc) us2.length (us2.flatMap opK) rfl HDA.out.row ⟨wr.heap.size, 0, none⟩ 1 1 (opK ⟨6, (j : Int) + 1, 0, 0, 0, 0, ⟨#[]⟩⟩) rfl rfl HCN.out (oneOp _) (by unfold maxLen; omega) (by omega) hbA ?_; intro v' w' hown hgrow _ hat; obtain ⟨na, nc, hvn⟩ := formR hown; subst hvn; have HDN := hid (HDA.out.push hcl hgrow hown hat (Nat.zero_le _)); clear hown hgrow hat))
     go_roundw
     case rel => exact ⟨j + 1, us2 ++ [⟨6, (j : Int) + 1, 0, 0, 0, 0, ⟨#[]⟩⟩], na, nc, by omega, by go_num, by simp, by simp; omega, by simp; omega, hid (by simpa using HDN.out)⟩
     case measure => simp [intOf]; omega
    .have hle : ¬ (j : Int) + 1 <= 3 := by omega
     have HF : Hid (DrO w c A (.returned (.slice qa us2.length qc)) wr) := hid ⟨us2, _, rfl, HD.out.row, by omega, by omega, HD.out.nam, HD.out.cur.more _ (by omega), HD.out.upd⟩
     clear HD
     go_wp2
     go_ret
     exact HF.out
  .have hkp : (0 : Int) < k := by omega
   have HP := hid (drawOp_any c (A + 2 + 28 * (69 - k)) wr HD.out.cur (by omega))
   go_wp2_with (go_at_call 37; fail)
   refine HP.out.mono ?_
   rintro e w2 ⟨o, rfl, ho, hc2, hu2⟩
   have HD2 := hid (HD.out.draw hcl hc2 hu2)
   clear HD HP hc2 hu2
   obtain ⟨kd, ss, tb, ky, vl, om, nm⟩ := o
   obtain ⟨⟨k1, k2⟩, ⟨s1, s2⟩, hn1⟩ := ho
   simp only at k1 k2 s1 s2 hn1
   obtain ⟨sn, rfl⟩ : ∃ q : Nat, ss = q := ⟨ss.toNat, by omega⟩
   simp only [opV]
   have bb := below_alloc w2 (.cells #[.int .i64 kd, .int .i64 (sn : Int), .int .i64 tb, .int .i64 ky, .int .i64 vl, .int .i64 om, .string nm] 41)
   have KO : Blk (w2.alloc (.cells #[.int .i64 kd, .int .i64 (sn : Int), .int .i64 tb, .int .i64 ky, .int .i64 vl, .int .i64 om, .string nm] 41)) w2.heap.size (opL kd sn tb ky vl om nm) := blk_new w2 (opL kd sn tb ky vl om nm) _
   have D3 := HD2.out.below hcl bb
   have hz3 : w2.heap.size < (w2.alloc (.cells #[.int .i64 kd, .int .i64 (sn : Int), .int .i64 tb, .int .i64 ky, .int .i64 vl, .int .i64 om, .string nm] 41)).heap.size := by simp
   have hw2 := HD2.out.obl
   obtain ⟨p0, p1⟩ := kc1 KO
   obtain ⟨ob, ho1, _⟩ := D3.at (s := sn) (by omega)
   have HD3 := hid D3
   have HKO := hid KO
   have hsi : (sn : Int) < 5 := by omega
   have HPN : Hid ((Value.slice pa us.length pc).ownBlock ≠ some w2.heap.size) := hid (fun e => by have := (HD2.out.row.lt _ e).2; omega)
   clear bb KO D3 HD2
   go_upto_region 7 with fail
   go_cut [38] (fun s wx => ∃ b : Bool, s = .bool b /\ Hid (DS w c (A + 2 + 28 * (69 - k) + 16) (w.heap.size + 1) wx us (.slice pa us.length pc)) /\ Hid (Blk wx w2.heap.size (opL kd sn tb ky vl om nm)) /\ w2.heap.size < wx.heap.size)
   case first =>
    by_cases hk1 : kd = 1
    .subst hk1
     go_wp2
     go_meet
     case rel => exact ⟨_, rfl, hid (HD3.out.more (by omega)), HKO, hz3⟩
    .have e1 : (kd != 1) = true := by simpa using hk1
     cases ob with
     | true =>
       go_wp2
       go_meet
       case rel => exact ⟨_, rfl, hid (HD3.out.more (by omega)), HKO, hz3⟩
     | false =>
       have HP := hid (pick_any c (A + 2 + 28 * (69 - k) + 14) 8 _ HD3.out.cur (by omega) (by omega) (by omega))
       go_wp2_with (go_at_call 28; fail)
       refine HP.out.mono ?_
       rintro e w4 ⟨r4, a4, b4, rfl, hc4, hu4⟩
       have HD4 := hid (HD3.out.draw hcl hc4 hu4)
       have HK4 := hid (HKO.out.upd hu4 hz3 (by omega))
       have hs4 := Nat.lt_of_lt_of_le hz3 hu4.size
       clear hc4 hu4 HP
       go_wp2
       go_meet
       case rel => exact ⟨_, rfl, hid (HD4.out.more (by omega)), HK4, hs4⟩
   case rest =>
    obtain ⟨b7, rfl, HD4, HK4, hz4⟩ := hcut
    clear HD3 HKO p0 p1 ho1 hz3
    have hpn : (Value.slice pa us.length pc).ownBlock ≠ some w2.heap.size := HPN.out
    have p1 : wc.cell? ⟨w2.heap.size, 1, none⟩ = some (.int .i64 (sn : Int)) := (HK4.out 1 (by simp [opL])).1
    go_upto_if 38 with fail
    go_cut [5] (fun s wx => ∃ (us' : List Opn) (qa : Option Addr) (qc : Nat), s = .slice qa us'.length qc /\ us'.length <= us.length + 1 /\ Hid (DS w c (A + 2 + 28 * (69 - k) + 18) (w.heap.size + 1) wx us' (.slice qa us'.length qc)) /\ Hid (Blk wx w2.heap.size (opL kd sn tb ky vl om nm)) /\ w2.heap.size < wx.heap.size /\ (Value.slice qa us'.length qc).ownBlock ≠ some w2.heap.size)
    case first =>
     cases b7 with
     | false =>
       go_wp2
       go_meet
       case rel => exact ⟨us, pa, pc, rfl, by omega, hid (HD4.out.more (by omega)), HK4, hz4, hpn⟩
     | true =>
       have bB := below_alloc wc (.cells #[.int .i64 1, .int .i64 (sn : Int), .int .i64 0, .int .i64 0, .int .i64 0, .int .i64 0, .string ⟨#[]⟩] 41)
       have HD5 := hid (HD4.out.below hcl bB)
       have HK5 := hid (HK4.out.below bB hz4)
       have kb : Blk (wc.alloc (.cells #[.int .i64 1, .int .i64 (sn : Int), .int .i64 0, .int .i64 0, .int .i64 0, .int .i64 0, .string ⟨#[]⟩] 41)) wc.heap.size (opL 1 sn 0 0 0 0 ⟨#[]⟩) := blk_new wc (opL 1 sn 0 0 0 0 ⟨#[]⟩) _
       have HKB := hid kb
       have hzc : wc.heap.size < (wc.alloc (.cells #[.int .i64 1, .int .i64 (sn : Int), .int .i64 0, .int .i64 0, .int .i64 0, .int .i64 0, .string ⟨#[]⟩] 41)).heap.size := by simp
       have hwc : w.heap.size <= wc.heap.size := HD4.out.upd.size
       have HP := hid (pick_any c (A + 2 + 28 * (69 - k) + 16) 2 _ HD5.out.cur (by omega) (by omega) (by omega))
       clear bB kb
       go_wp2_with (go_at_call 28; fail)
       refine HP.out.mono ?_
       rintro e w5 ⟨r5, a5, b5, rfl, hc5, hu5⟩
       have hs5 := Nat.lt_of_lt_of_le hzc hu5.size
       have kz5 := HKB.out.upd hu5 hzc (by omega)
       have d5 := HD5.out.draw hcl hc5 hu5
       have ub : Upd wc.heap.size w5 (w5.setCell ⟨wc.heap.size, 5, none⟩ (.int .i64 (1 + r5))) := (Upd.refl _ _).setCell 5 (.int .i64 (1 + r5))
       have k5 := HK5.out.upd hu5 (Nat.lt_trans hz4 hzc) (by omega)
       have HK6 := hid (k5.upd ub (by omega) (by omega))
       have kb6 : Blk (w5.setCell ⟨wc.heap.size, 5, none⟩ (.int .i64 (1 + r5))) wc.heap.size (opL 1 sn 0 0 0 (1 + r5) ⟨#[]⟩) := kz5.set 5 (.int .i64 (1 + r5)) (by simp [opL])
       have HD6 : Hid (DS w c (A + 2 + 28 * (69 - k) + 18) (w.heap.size + 1) (w5.setCell ⟨wc.heap.size, 5, none⟩ (.int .i64 (1 + r5))) us (.slice pa us.length pc)) := hid ((d5.setB hcl hwc (fun e => by have := (HD4.out.row.lt _ e).2; omega) (by have := HD4.out.obl; omega) 5 (.int .i64 (1 + r5))).more (by omega))
       obtain ⟨⟨-, -⟩, ⟨-, -⟩, ⟨-, -⟩, ⟨-, -⟩, ⟨-, -⟩, ⟨y5, z5⟩⟩ := kb5 kz5
       obtain ⟨e0, e1, e2, e3, e4, e5, e6⟩ := kc6 kb6
       clear kz5 d5 ub k5 kb6 HKB HP hc5 hu5 HD5 HK5
       have dA := HD6.out.below hcl (below_alloc (w5.setCell ⟨wc.heap.size, 5, none⟩ (.int .i64 (1 + r5))) (.cells #[.int .i64 1, .int .i64 (sn : Int), .int .i64 0, .int .i64 0, .int .i64 0, .int .i64 (1 + r5), .string ⟨#[]⟩] 41))
       have HDA := hid dA
       have hzk : w2.heap.size < (w5.setCell ⟨wc.heap.size, 5, none⟩ (.int .i64 (1 + r5))).heap.size := by first | omega | (simp; omega)
       have kA := HK6.out.below (below_alloc (w5.setCell ⟨wc.heap.size, 5, none⟩ (.int .i64 (1 + r5))) (.cells #[.int .i64 1, .int .i64 (sn : Int), .int .i64 0, .int .i64 0, .int .i64 0, .int .i64 (1 + r5), .string ⟨#[]⟩] 41)) hzk
       have HKA := hid kA
       have hzA : (w5.setCell ⟨wc.heap.size, 5, none⟩ (.int .i64 (1 + r5))).heap.size < ((w5.setCell ⟨wc.heap.size, 5, none⟩ (.int .i64 (1 + r5))).alloc (.cells #[.int .i64 1, .int .i64 (sn : Int), .int .i64 0, .int .i64 0, .int .i64 0, .int .i64 (1 + r5), .string ⟨#[]⟩] 41)).heap.size := by simp
       have hbA : w.heap.size <= ((w5.setCell ⟨wc.heap.size, 5, none⟩ (.int .i64 (1 + r5))).alloc (.cells #[.int .i64 1, .int .i64 (sn : Int), .int .i64 0, .int .i64 0, .int .i64 0, .int .i64 (1 + r5), .string ⟨#[]⟩] 41)).heap.size := HDA.out.upd.size
       have hcn := cells_new (w5.setCell ⟨wc.heap.size, 5, none⟩ (.int .i64 (1 + r5))) (opK ⟨1, sn, 0, 0, 0, (1 + r5), ⟨#[]⟩⟩) 41 _ rfl
       rw [show (w5.setCell ⟨wc.heap.size, 5, none⟩ (.int .i64 (1 + r5))).heap.size = w5.heap.size by simp] at hcn
       have HCN := hid hcn
       clear dA kA hcn
       go_wp2_with (at_builtin; go_loud (refine wpList_append_own_at _ rfl (.tmp 49) (.tmp 51) 23 rfl w.heap.size 41 j0 _ 7 64 Tryz.underlying23 hj hy0 hy1 hy2 rfl (by decide) (.slice pa us.length pc) us.length (us.flatMap opK) rfl HDA.out.row ⟨w5.heap.size, 0, none⟩ 1 1 (opK ⟨1, sn, 0, 0, 0, (1 + r5), ⟨#[]⟩⟩) rfl rfl HCN.out (oneOp _) (by unfold maxLen; omega) (by omega) hbA ?_; intro v' w' hown hgrow _ hat; obtain ⟨na, nc, hvn⟩ := formR hown; subst hvn; have HDN := hid (HDA.out.push hcl hgrow hown hat (Nat.zero_le _)); have HKN := hid (HKA.out.fr (Fr.grown hgrow) (Nat.lt_trans hzk hzA) (fun z => hpn z)); have hsN : w2.heap.size < w'.heap.size := Nat.lt_of_lt_of_le (Nat.lt_trans hzk hzA) hgrow.size; have HPN2 : Hid ((Value.slice na (us.length + 1) nc).ownBlock ≠ some w2.heap.size) := hid (fun z => by rcases hat with y | y; exact hpn (y ▸ z); rw [y] at z; injection z with z; omega); obtain ⟨qb, q1, q2⟩ := HDN.out.at (s := sn) (by omega); have q3 : w'.cell? ⟨w2.heap.size, 1, none⟩ = some (.int .i64 (sn : Int)) := (HKN.out 1 (by simp [opL])).1; clear hown hgrow hat))
       go_meet
       case rel => exact ⟨us ++ [⟨1, sn, 0, 0, 0, (1 + r5), ⟨#[]⟩⟩], na, nc, by simp, by simp, hid (by simpa using (HDN.out.setO hcl (by omega) true).more (by omega)), hid (HKN.out.fr (Fr.setCell _ _ _ _) hsN (fun e => by have := HDN.out.obl; omega)), by simpa using hsN, by simpa using HPN2.out⟩
    case rest =>
     obtain ⟨us5, qa, qc, rfl, hl5, HD5, HK5, hz5, hpn5⟩ := hcut
     clear HD4 HK4 hz4 hpn p1 HPN
     obtain ⟨p0, p1⟩ := kc1 HK5.out
     obtain ⟨ob5, o51, o52⟩ := HD5.out.at (s := sn) (by omega)
     have hob5 := HD5.out.obl
     go_upto_region 13 with fail
     go_cut [71] (fun s wx => ∃ b : Bool, s = .bool b /\ Hid (DS w c (A + 2 + 28 * (69 - k) + 20) (w.heap.size + 1) wx us5 (.slice qa us5.length qc)) /\ Hid (Blk wx w2.heap.size (opL kd sn tb ky vl om nm)) /\ w2.heap.size < wx.heap.size)
     case first =>
      by_cases hk1 : kd = 1
      .subst hk1
       cases ob5 with
       | false =>
         go_wp2
         go_meet
         case rel => exact ⟨_, rfl, hid (HD5.out.more (by omega)), HK5, hz5⟩
       | true =>
         have HP := hid (pick_any c (A + 2 + 28 * (69 - k) + 18) 6 _ HD5.out.cur (by omega) (by omega) (by omega))
         go_wp2_with (go_at_call 28; fail)
         refine HP.out.mono ?_
         rintro e w6 ⟨r6, a6, b6, rfl, hc6, hu6⟩
         have HD6 := hid (HD5.out.draw hcl hc6 hu6)
         have HK6 := hid (HK5.out.upd hu6 hz5 (by omega))
         have hs6 := Nat.lt_of_lt_of_le hz5 hu6.size
         clear hc6 hu6 HP
         go_wp2
         go_meet
         case rel => exact ⟨_, rfl, hid (HD6.out.more (by omega)), HK6, hs6⟩
      .have e1 : (kd == 1) = false := by simpa using hk1
       go_wp2
       go_meet
       case rel => exact ⟨_, rfl, hid (HD5.out.more (by omega)), HK5, hz5⟩
     case rest =>
      obtain ⟨b13, rfl, HD6, HK6, hz6⟩ := hcut
      clear HD5 HK5 hz5 p0 p1 o51 o52
      have p0 : wc.cell? ⟨w2.heap.size, 0, none⟩ = some (.int .i64 kd) := (HK6.out 0 (by simp [opL])).1
      have f0 : wc.frozen? ⟨w2.heap.size, 0, none⟩ = false := (HK6.out 0 (by simp [opL])).2
      go_upto_if 71 with fail
      go_cut [] (fun wx => ∃ kd' : Int, Hid (DS w c (A + 2 + 28 * (69 - k) + 20) (w.heap.size + 1) wx us5 (.slice qa us5.length qc)) /\ Hid (Blk wx w2.heap.size (opL kd' sn tb ky vl om nm)) /\ w2.heap.size < wx.heap.size)
      case first =>
       cases b13 with
       | false =>
         go_wp2
         go_meet
         case rel => exact ⟨kd, HD6, HK6, hz6⟩
       | true =>
         go_wp2
         go_meet
         case rel => exact ⟨2, hid (HD6.out.setB hcl (by omega) hpn5 (by omega) 0 (.int .i64 2)), hid (HK6.out.set 0 (.int .i64 2) (by simp [opL])), by simpa using hz6⟩
      case rest =>
       obtain ⟨kd', HD7, HK7, hz7⟩ := hcut
       clear HD6 HK6 hz6 p0 f0
       obtain ⟨p0, p1⟩ := kc1 HK7.out
       obtain ⟨ob7, o71, o72⟩ := HD7.out.at (s := sn) (by omega)
       go_upto_if 75 with fail
       go_cut [] (fun wx => Hid (DS w c (A + 2 + 28 * (69 - k) + 20) (w.heap.size + 1) wx us5 (.slice qa us5.length qc)) /\ Hid (Blk wx w2.heap.size (opL kd' sn tb ky vl om nm)) /\ w2.heap.size < wx.heap.size)
       case first =>
        by_cases hk1 : kd' = 1
        .subst hk1
         go_wp2
         go_meet
         case rel => exact ⟨hid (HD7.out.setO hcl (by omega) true), hid (HK7.out.fr (Fr.setCell _ _ _ _) hz7 (fun e => by have := HD7.out.obl; omega)), by simpa using hz7⟩
        .have e1 : (kd' == 1) = false := by simpa using hk1
         go_wp2
         go_meet
         case rel => exact ⟨HD7, HK7, hz7⟩
       case rest =>
        obtain ⟨HD8, HK8, hz8⟩ := hcut
        clear HD7 HK7 hz7 p0 p1 o71 o72
        obtain ⟨p0, p1⟩ := kc1 HK8.out
        obtain ⟨ob8, o81, o82⟩ := HD8.out.at (s := sn) (by omega)
        go_upto_region 17 with fail
        go_cut [87] (fun s wx => ∃ b : Bool, s = .bool b /\ wx = wc)
        case first =>
         by_cases hk6 : kd' = 6
         .subst hk6
          go_wp2
          go_meet
          case rel => exact ⟨_, rfl, rfl⟩
         .have e6 : (kd' == 6) = false := by simpa using hk6
          go_wp2
          go_meet
          case rel => exact ⟨_, rfl, rfl⟩
        case rest =>
         obtain ⟨b17, rfl, rfl⟩ := hcut
         go_upto_if 87 with fail
         go_cut [] (fun wx => Hid (DS w c (A + 2 + 28 * (69 - k) + 20) (w.heap.size + 1) wx us5 (.slice qa us5.length qc)) /\ Hid (Blk wx w2.heap.size (opL kd' sn tb ky vl om nm)) /\ w2.heap.size < wx.heap.size)
         case first =>
          cases b17 with
          | false =>
            go_wp2
            go_meet
            case rel => exact ⟨HD8, HK8, hz8⟩
          | true =>
            go_wp2
            go_meet
            case rel => exact ⟨hid (HD8.out.setO hcl (by omega) false), hid (HK8.out.fr (Fr.setCell _ _ _ _) hz8 (fun e => by have := HD8.out.obl; omega)), by simpa using hz8⟩
         case rest =>
          obtain ⟨HD9, HK9, hz9⟩ := hcut
          clear HD8 HK8 hz8 p0 p1 o81 o82
          obtain ⟨p0, p1, p2, p3, p4, p5, p6⟩ := kc6 HK9.out
          have dA := HD9.out.below hcl (below_alloc wc (.cells #[.int .i64 kd', .int .i64 (sn : Int), .int .i64 tb, .int .i64 ky, .int .i64 vl, .int .i64 om, .string nm] 41))
          have HDA := hid dA
          have hbA : w.heap.size <= (wc.alloc (.cells #[.int .i64 kd', .int .i64 (sn : Int), .int .i64 tb, .int .i64 ky, .int .i64 vl, .int .i64 om, .string nm] 41)).heap.size := HDA.out.upd.size
          have hcn := cells_new wc (opK ⟨kd', sn, tb, ky, vl, om, nm⟩) 41 _ rfl
          have HCN := hid hcn
          clear dA hcn HD9 HK9
          go_wp2_with (at_builtin; go_loud (refine wpList_append_own_at _ rfl (.tmp 92) (.tmp 94) 23 rfl w.heap.size 41 j0 _ 7 64 Tryz.underlying23 hj hy0 hy1 hy2 rfl (by decide) (.slice qa us5.length qc) us5.length (us5.flatMap opK) rfl HDA.out.row ⟨wc.heap.size, 0, none⟩ 1 1 (opK ⟨kd', sn, tb, ky, vl, om, nm⟩) rfl rfl HCN.out (oneOp _) (by unfold maxLen; omega) (by omega) hbA ?_; intro v' w' hown hgrow _ hat; obtain ⟨na, nc, hvn⟩ := formR hown; subst hvn; have HDN := hid (HDA.out.push hcl hgrow hown hat hn1); clear hown hgrow hat))
          go_roundw
          case rel => exact ⟨k - 1, us5 ++ [⟨kd', sn, tb, ky, vl, om, nm⟩], na, nc, by omega, by congr 1; omega, by simp, by simp; omega, hid (by simpa using HDN.out.more (by omega))⟩
          case measure => simp [intOf]; omega
theorem size_small (n : Nat) (w : World) (hn : n < 10) : Calls Tryz.prog 55 #[.int .i64 (n : Int)] w fun e w' => e = .returned (.int .u64 (n : Int)) /\ w' = w := by
 have h : ¬ (n : Int) < 0 := by omega
 go_enter Tryz.func55, Tryz.ntmps55
 go_wp2
 go_ret
 refine ⟨ret_int ?_, rfl⟩
 go_light
 simp only [IntKind.wrap, IntKind.bits, IntKind.signed, wrap64] at *
 try simp
 try omega
theorem conv_b1 (W : World) (x : Int) : (convert 22 9 (.slice (some ⟨W.heap.size, 0, none⟩) 1 1)).run Tryz.prog (W.alloc (.cells #[.int .u8 x] 5)) = .ok (.string ⟨#[UInt8.ofNat x.toNat]⟩) (W.alloc (.cells #[.int .u8 x] 5)) := by
 have := run_convert_bytes_arg (P := Tryz.prog) (W.alloc (.cells #[.int .u8 x] 5)) 22 5 Tryz.underlying22 Tryz.underlying5 W.heap.size 0 1 1 [x] rfl (by
  intro i hi
  have : i = 0 := by omega
  subst this
  simp [go_sem]) 9 Tryz.underlying9
 simpa [strOfNums] using this
theorem dec_one (n : Nat) (w : World) (hn : n < 10) : Calls Tryz.prog 29 #[.int .i64 (n : Int)] w fun e w' => ∃ s : ByteArray, s.size <= 2 /\ e = .returned (.string s) /\ Below w.heap.size w w' := by
 go_enter Tryz.func29, Tryz.ntmps29
 go_wp2_with fail
 refine (size_small _ _ hn).mono ?_
 rintro e w0 ⟨rfl, hw⟩
 rw [hw]
 clear hw w0
 go_wp2
 go_loopw [3, 4] (fun u o wr => u = .int .u64 (n : Int) /\ o = .string ⟨#[]⟩ /\ Below w.heap.size w wr) (fun u _ _ => 0)
 case atStart => exact ⟨rfl, rfl, Below.refl _ _⟩
 case round =>
  obtain ⟨rfl, rfl, hb⟩ := hrel
  have hcv := conv_b1
  have hm10 : (n : Int) % 10 < 10 := by omega
  have hm0 : 0 <= (n : Int) % 10 := by omega
  have hq : ((n : Int) / 10 == 0) = true := by rw [beq_iff_eq]; omega
  have hs : ¬ (n : Int) < 0 := by omega
  go_wp2
  go_ret
  exact ⟨_, by simp [ByteArray.size], rfl, hb.alloc hb.size _⟩
structure DR (b c : Nat) (A : Int) (w wr : World) (us : List Opn) (v : Value) : Prop where
 row : wr.ownsRow b 41 7 v us.length (us.flatMap opK)
 cur : IsCur wr c A
 upd : Upd c w wr
 nam : ∀ u ∈ us, u.nm.size <= 4
theorem DR.draw {b c : Nat} {A A' : Int} {w wr w' : World} {us : List Opn} {v : Value} (h : DR b c A w wr us v) (hcl : c < b) (hc : IsCur w' c A') (hu : Upd c wr w') : DR b c A' w w' us v := ⟨own_upd h.row hu hcl, hc, h.upd.trans hu, h.nam⟩
theorem DR.more {b c : Nat} {A A' : Int} {w wr : World} {us : List Opn} {v : Value} (h : DR b c A w wr us v) (hA : A <= A') : DR b c A' w wr us v := ⟨h.row, h.cur.more _ hA, h.upd, h.nam⟩
theorem DR.below {b c : Nat} {A : Int} {w wr w' : World} {us : List Opn} {v : Value} (h : DR b c A w wr us v) (hcl : c < b) (hb : Below wr.heap.size wr w') : DR b c A w w' us v := h.draw hcl (h.cur.same (fun k hk => hb.block k (by have := h.cur.lt; omega)) (Nat.lt_of_lt_of_le h.cur.lt hb.size)) (Upd.of_below hb)
theorem DR.push {b c : Nat} {A : Int} {w wr w' : World} {us : List Opn} {v v' : Value} {o : Opn} (h : DR b c A w wr us v) (hcl : c < b) (hwb : w.heap.size <= b) (hg : wr.grownBy w' v.ownBlock) (ho : w'.ownsRow b 41 7 v' (us.length + 1) (us.flatMap opK ++ opK o)) (hn : o.nm.size <= 4) : DR b c A w w' (us ++ [o]) v' := by
 have hl : ∀ g, v.ownBlock = some g -> b <= g := fun g hg => (h.row.lt g hg).1
 have hne : ∀ k, k < wr.heap.size -> v.ownBlock ≠ some k -> w'.heap[k]? = wr.heap[k]? := fun k hk hn => hg.block k hk hn.symm
 refine ⟨by rw [List.length_append, List.flatMap_append]; simpa using ho, h.cur.same (fun k hk => hne k (by have := h.cur.lt; omega) (fun e => by have := hl k e; omega)) (Nat.lt_of_lt_of_le h.cur.lt hg.size), ⟨hg.os.trans h.upd.os, hg.tape.trans h.upd.tape, hg.output.trans h.upd.output, Nat.le_trans h.upd.size hg.size, fun k hk hc => (hne k (Nat.lt_of_lt_of_le hk h.upd.size) (fun e => by have := hl k e; omega)).trans (h.upd.block k hk hc)⟩, fun u hu => ?_⟩
 rcases List.mem_append.1 hu with z | z
 .exact h.nam u z
 .rw [List.mem_singleton] at z; rw [z]; exact hn
theorem opK_len (o : Opn) : (opK o).length = 7 := rfl
theorem flat_setK (o' : Opn) (j : Nat) (u : Value) (hj : j < 7) : ∀ (us : List Opn) (i : Nat) (hi : i < us.length), opK o' = (opK us[i]).set j u -> (us.set i o').flatMap opK = (us.flatMap opK).set (i * 7 + j) u
 | [], _, h, _ => by cases h
 | a :: r, 0, _, h => by
   rw [List.set_cons_zero, List.flatMap_cons, List.flatMap_cons, List.set_append_left _ _ (by rw [opK_len]; omega)]
   rw [h]
   simp
 | a :: r, i + 1, hi, h => by
   rw [List.set_cons_succ, List.flatMap_cons, List.flatMap_cons, flat_setK o' j u hj r i (by simpa using hi) (by simpa using h), List.set_append_right _ _ (by rw [opK_len]; omega), opK_len]
   rw [show (i + 1) * 7 + j - 7 = i * 7 + j by omega]
theorem DR.setF {b c : Nat} {A : Int} {w wr : World} {us : List Opn} {g n cap : Nat} (h : DR b c A w wr us (.slice (some ⟨g, 0, none⟩) n cap)) (hcl : c < b) (hwb : w.heap.size <= b) (hn : n = us.length) (o' : Opn) (j : Nat) (u : Value) (hj : j < 7) (i : Nat) (hi : i < us.length) (ho : opK o' = (opK us[i]).set j u) (hnm : o'.nm = us[i].nm) : DR b c A w (wr.setCell ⟨g, i * 7 + j, none⟩ u) (us.set i o') (.slice (some ⟨g, 0, none⟩) n cap) := by
 subst hn
 have hb := (h.row.lt g rfl).1
 have ub : Upd g wr (wr.setCell ⟨g, i * 7 + j, none⟩ u) := (Upd.refl _ _).setCell _ u
 refine ⟨?_, h.cur.new ub (by omega), h.upd.new ub (by omega), fun u hu => ?_⟩
 .rw [flat_setK o' j u hj us i hi ho, List.length_set]
  exact own_setJ h.row _ u
 .rcases List.mem_or_eq_of_mem_set hu with z | z
  .exact h.nam u z
  .rw [z, hnm]; exact h.nam _ (List.getElem_mem hi)
theorem DR.atF {b c : Nat} {A : Int} {w wr : World} {us : List Opn} {g n cap : Nat} (h : DR b c A w wr us (.slice (some ⟨g, 0, none⟩) n cap)) (hn : n = us.length) {i : Nat} (hi : i < us.length) {j : Nat} (hj : j < 7) : (∃ u, wr.cell? ⟨g, i * 7 + j, none⟩ = some u) /\ wr.frozen? ⟨g, i * 7 + j, none⟩ = false := by
 subst hn
 have hl : (us.flatMap opK).length = us.length * 7 := h.row.1
 exact ⟨⟨_, own_cells h.row rfl (List.getElem?_eq_getElem (by omega))⟩, own_unfro h.row rfl _⟩
end Go.Proofs.YtblkgicbimflhaaGreat
