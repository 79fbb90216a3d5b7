import Derived.Test.YtblkgicbimflhaaGreatSAV
import Derived.Deep.RegionWith
import Derived.Deep.RegionHeld3
import Derived.Test.YtblkgicbimflhaaGreatSAW
namespace Go.Proofs.YtblkgicbimflhaaGreat
open Go.ChangeShapes Go.WideShapes Go.ChangeAt Go.RowKit
set_option linter.unusedVariables false
set_option linter.unusedSimpArgs false
set_option maxRecDepth 100000
set_option maxHeartbeats 16000000
theorem range_below {w w' : World} {n b o : Nat} {cs : List Value} (h : w.rangeAt b o cs) (hb : Below n w w') (hl : b < n) : w'.rangeAt b o cs := fun j v hv => (hb.cell (p := ⟨b, o + j, none⟩) hl).trans (h j v hv)
def set4 (w : World) (g : Nat) (a b c d : Value) : World := (((w.setCell ⟨g, 0, none⟩ a).setCell ⟨g, 1, none⟩ b).setCell ⟨g, 2, none⟩ c).setCell ⟨g, 3, none⟩ d
theorem fr_set4 (w : World) (g : Nat) (a b c d : Value) : Fr (fun q => q = g) w (set4 w g a b c d) := (((Fr.setCell w g 0 a).trans (Fr.setCell _ g 1 b)).trans (Fr.setCell _ g 2 c)).trans (Fr.setCell _ g 3 d)
structure InfM (g mb : Nat) (bg : Int) (rd : List Bool) (M : List (Spt × Vsn)) (w wr : World) (D : List Spt) : Prop where
 it : IT wr (w.heap.size + 1 + 1) mb M D
 bw : Blk wr (w.heap.size + 1) ((marksD D).map Value.bool)
 bz : Blk wr w.heap.size [.int .i64 0, .int .i64 0, .slice none 0 0, .slice none 0 0]
 be : Below w.heap.size w wr
 hd : ∀ k ∈ D, ∃ v, (k, v) ∈ M
theorem info_any (g mb : Nat) (bg cm : Int) (rd : List Bool) (M : List (Spt × Vsn)) (w : World) (hg : g < w.heap.size) (hrl : rd.length = 32) (c0 : w.cell? ⟨g, 0, none⟩ = some (.int .i64 bg)) (hr : w.rangeAt g 2 (rd.map Value.bool)) (c1 : w.cell? ⟨g, 34, none⟩ = some (.map (some mb))) (hM : MP w mb M) (hk : InT M) :
 Calls Tryz.prog 89 #[.pointer (some ⟨g, 0, none⟩), .int .i64 cm] w fun e w' => ∃ v2 v3, e = .returned (.agg #[.int .i64 bg, .int .i64 cm, v2, v3]) /\ IGr w.heap.size w' v2 (tabsT (readAt rd) 32) /\ (∃ D, (∀ m ∈ M, m.1 ∈ D) /\ (∀ k ∈ D, ∃ v, (k, v) ∈ M) /\ IGr w.heap.size w' v3 (tabsT (readAt (marksD D)) 32)) /\ (∀ a, v2.ownBlock = some a -> v3.ownBlock ≠ some a) /\ Below w.heap.size w w' := by
 have hbw : Below w.heap.size w ((w.alloc (.cells #[.int .i64 0, .int .i64 0, .slice none 0 0, .slice none 0 0] 131)).alloc (.cells #[.bool false, .bool false, .bool false, .bool false, .bool false, .bool false, .bool false, .bool false, .bool false, .bool false, .bool false, .bool false, .bool false, .bool false, .bool false, .bool false, .bool false, .bool false, .bool false, .bool false, .bool false, .bool false, .bool false, .bool false, .bool false, .bool false, .bool false, .bool false, .bool false, .bool false, .bool false, .bool false] 115)) := (below_alloc w _).trans ((below_alloc _ _).mono (by simp))
 have hM0 := hM.fr (Fr.of_below (fun _ => False) hbw) (fun z => z)
 obtain ⟨o, hrun, hit⟩ := run_rangeM _ mb M hM0
 have hz : (w.alloc (.cells #[.int .i64 0, .int .i64 0, .slice none 0 0, .slice none 0 0] 131)).heap.size = w.heap.size + 1 := by simp
 have hz2 : ((w.alloc (.cells #[.int .i64 0, .int .i64 0, .slice none 0 0, .slice none 0 0] 131)).alloc (.cells #[.bool false, .bool false, .bool false, .bool false, .bool false, .bool false, .bool false, .bool false, .bool false, .bool false, .bool false, .bool false, .bool false, .bool false, .bool false, .bool false, .bool false, .bool false, .bool false, .bool false, .bool false, .bool false, .bool false, .bool false, .bool false, .bool false, .bool false, .bool false, .bool false, .bool false, .bool false, .bool false] 115)).heap.size = w.heap.size + 1 + 1 := by simp
 have K0 : Blk ((w.alloc (.cells #[.int .i64 0, .int .i64 0, .slice none 0 0, .slice none 0 0] 131)).alloc (.cells #[.bool false, .bool false, .bool false, .bool false, .bool false, .bool false, .bool false, .bool false, .bool false, .bool false, .bool false, .bool false, .bool false, .bool false, .bool false, .bool false, .bool false, .bool false, .bool false, .bool false, .bool false, .bool false, .bool false, .bool false, .bool false, .bool false, .bool false, .bool false, .bool false, .bool false, .bool false, .bool false] 115)) w.heap.size [.int .i64 0, .int .i64 0, .slice none 0 0, .slice none 0 0] := (blk_new w [.int .i64 0, .int .i64 0, .slice none 0 0, .slice none 0 0] 131).below (below_alloc _ _) (by simp)
 have K1 : Blk ((w.alloc (.cells #[.int .i64 0, .int .i64 0, .slice none 0 0, .slice none 0 0] 131)).alloc (.cells #[.bool false, .bool false, .bool false, .bool false, .bool false, .bool false, .bool false, .bool false, .bool false, .bool false, .bool false, .bool false, .bool false, .bool false, .bool false, .bool false, .bool false, .bool false, .bool false, .bool false, .bool false, .bool false, .bool false, .bool false, .bool false, .bool false, .bool false, .bool false, .bool false, .bool false, .bool false, .bool false] 115)) (w.heap.size + 1) ((marksD []).map Value.bool) := by
  have := blk_new (w.alloc (.cells #[.int .i64 0, .int .i64 0, .slice none 0 0, .slice none 0 0] 131)) ((marksD []).map Value.bool) 115
  rw [hz] at this
  exact this
 rw [hz2] at hrun hit
 have HI : Hid (InfM g mb bg rd M w (((w.alloc (.cells #[.int .i64 0, .int .i64 0, .slice none 0 0, .slice none 0 0] 131)).alloc (.cells #[.bool false, .bool false, .bool false, .bool false, .bool false, .bool false, .bool false, .bool false, .bool false, .bool false, .bool false, .bool false, .bool false, .bool false, .bool false, .bool false, .bool false, .bool false, .bool false, .bool false, .bool false, .bool false, .bool false, .bool false, .bool false, .bool false, .bool false, .bool false, .bool false, .bool false, .bool false, .bool false] 115)).alloc o) []) := hid (⟨hit, K1.below (below_alloc _ _) (by rw [hz2]; omega), K0.below (below_alloc _ _) (by rw [hz2]; omega), hbw.trans ((below_alloc _ _).mono (by rw [hz2]; omega)), fun k h => by cases h⟩)
 clear K0 K1 hit hbw hM0
 have HR := hid hr
 have HC0 := hid c0
 clear hr
 go_enter Tryz.func89, Tryz.ntmps89
 go_wp2
 obtain ⟨WA, hWA⟩ : ∃ z, z = (((w.alloc (.cells #[.int .i64 0, .int .i64 0, .slice none 0 0, .slice none 0 0] 131)).alloc (.cells #[.bool false, .bool false, .bool false, .bool false, .bool false, .bool false, .bool false, .bool false, .bool false, .bool false, .bool false, .bool false, .bool false, .bool false, .bool false, .bool false, .bool false, .bool false, .bool false, .bool false, .bool false, .bool false, .bool false, .bool false, .bool false, .bool false, .bool false, .bool false, .bool false, .bool false, .bool false, .bool false] 115)).alloc o) := ⟨_, rfl⟩
 rw [<- hWA] at HI ⊢
 clear hrun hz hz2 hWA
 go_loopw [] (fun wr => ∃ D, Hid (InfM g mb bg rd M w wr D)) (fun wr => wr.rangeLeft mb (w.heap.size + 1 + 1))
 case atStart => exact ⟨[], HI⟩
 case round =>
  clear HI
  obtain ⟨D, HI⟩ := hrel
  have hrl2 := HI.out.it.lt
  have hmb := hM.lt
  rcases HI.out.it.next 0 with ⟨hall, hrun⟩ | ⟨m, w1, hm, hnD, hrun, hit1, hf1, hz1, hlt, hen⟩
  .have HAL : Hid (∀ m ∈ M, m.1 ∈ D) := hall
   have hbe := HI.out.be
   have H3 := hid (HR.out)
   have d0 : wr.cell? ⟨g, 0, none⟩ = some (.int .i64 bg) := ct hbe hg c0
   clear hall hM hk c0 c1
   have HR1 : Hid (wr.drew.rangeAt g 2 (rd.map Value.bool)) := hid (fun j u hu => (hbe.cell (p := ⟨g, 2 + j, none⟩) hg).trans (HR.out j u hu))
   have HR2 : Hid (wr.drew.rangeAt (w.heap.size + 1) 0 ((marksD D).map Value.bool)) := (range_blk HI.out.bw 0 _ (fun j u hu => by rw [Nat.zero_add]; exact hu) : wr.rangeAt (w.heap.size + 1) 0 ((marksD D).map Value.bool))
   obtain ⟨vs, hvs⟩ : ∃ vs, vs = rd.map Value.bool := ⟨_, rfl⟩
   obtain ⟨ms, hms⟩ : ∃ ms, ms = (marksD D).map Value.bool := ⟨_, rfl⟩
   have hcv := fun W => marked_any rd W hrl
   have hcm := fun W => marked_any (marksD D) W (marksD_len D)
   have hvl : (Tryz.prog.info? 115).map (·.size) = some vs.length := by rw [size32, hvs, List.length_map, hrl]
   have hml : (Tryz.prog.info? 115).map (·.size) = some ms.length := by rw [size32, hms, List.length_map, marksD_len]
   rw [<- hvs] at HR1 hcv
   rw [<- hms] at HR2 hcm
   have HCV := hid hcv
   have HCM := hid hcm
   clear hcv hcm hvs hms
   go_wp2
   refine wp_region_till_drew (S := (fun W => W.cell? ⟨g, 0, none⟩ = some (.int .i64 bg) /\ W.rangeAt g 2 vs /\ W.rangeAt (w.heap.size + 1) 0 ms)) (late := [13]) (by kernel_rfl) ⟨by go_keep, HR1.out, HR2.out⟩ (fun hHeld => ?_)
   refine tT 0 rfl hHeld ?_
   try simp only [Act.put, q1, q2, q3]
   refine tT 1 rfl hHeld ?_
   try simp only [Act.put, q1, q2, q3]
   refine tT 2 rfl hHeld ?_
   try simp only [Act.put, q1, q2, q3]
   refine till_ld (i := 3) (v := ?_) rfl (Or.inl ⟨by rfl, ?_⟩) hHeld ?_
   rotate_left
   .intro w hSw
    try dsimp only at hSw
    go_simp
    try with_reducible rfl
   try simp only [Act.put, q1, q2, q3]
   refine tT 4 rfl hHeld ?_
   try simp only [Act.put, q1, q2, q3]
   refine tT 5 rfl hHeld ?_
   try simp only [Act.put, q1, q2, q3]
   refine tT 6 rfl hHeld ?_
   try simp only [Act.put, q1, q2, q3]
   refine tT 7 rfl hHeld ?_
   try simp only [Act.put, q1, q2, q3]
   refine till_load (i := 8) (v := .agg vs.toArray) rfl (by kernel_rfl) (by kernel_rfl) (by kernel_rfl) (by kernel_rfl) (by kernel_rfl) (by kernel_rfl) (fun _ _ _ h => h) (yieldsIf_load_mid (by rfl) 115 (.tmp 26) rfl g 2 (by go_simp) vs _ (fun W h => h.2.1) Tryz.underlying115 rfl hvl) hHeld ?_
   try simp only [Act.put, q1, q2, q3]
   refine till_load (i := 10) (v := .agg ms.toArray) rfl (by kernel_rfl) (by kernel_rfl) (by kernel_rfl) (by kernel_rfl) (by kernel_rfl) (by kernel_rfl) (fun _ _ _ h => h) (yieldsIf_load_mid (by rfl) 115 (.tmp 5) rfl (w.heap.size + 1) 0 (by go_simp) ms _ (fun W h => h.2.2) Tryz.underlying115 rfl hml) hHeld ?_
   try simp only [Act.put, q1, q2, q3]
   have hzr : wr.drew.heap.size = wr.heap.size := rfl
   refine rE 9 rfl fun K hK => ?_
   go_simp
   refine (HCV.out _).mono ?_
   rintro e W2 ⟨v2, rfl, hG2, hb2⟩
   replace hb2 : Below wr.heap.size wr W2 := undrew hb2
   obtain ⟨a2, q2, hf2⟩ := hG2.form
   subst hf2
   have HG2 := hid hG2
   have HB2 := hid hb2
   have l0 : W2.cell? ⟨g, 0, none⟩ = some (.int .i64 bg) := ct hb2 (by show g < _; omega) d0
   clear hG2 hb2
   have y1 : W2.rangeAt g 2 vs := range_below (n := wr.heap.size) (w := wr) HR1.out HB2.out (by omega)
   have y2 : W2.rangeAt (w.heap.size + 1) 0 ms := range_below (n := wr.heap.size) (w := wr) HR2.out HB2.out (by omega)
   have Y1 := hid y1
   have Y2 := hid y2
   clear y1 y2
   refine hK _ _ ⟨⟨l0, Y1.out, Y2.out⟩, ?_⟩
   try simp only [Act.put, q1, q2, q3]
   clear hK K
   have hs2 := HB2.out.size
   refine rE 11 rfl fun K hK => ?_
   go_simp
   refine (HCM.out _).mono ?_
   rintro e W3 ⟨v3, rfl, hG3, hb3⟩
   obtain ⟨a3, q3, hf3⟩ := hG3.form
   subst hf3
   have HG3 := hid hG3
   have HB3 := hid hb3
   have l1 : W3.cell? ⟨g, 0, none⟩ = some (.int .i64 bg) := ct hb3 (by show g < _; omega) l0
   clear hG3 hb3
   refine hK _ _ ⟨⟨l1, range_below (n := W2.heap.size) Y1.out HB3.out (by omega), range_below (n := W2.heap.size) Y2.out HB3.out (by omega)⟩, ?_⟩
   try simp only [Act.put, q1, q2, q3]
   clear hK K
   have hs3 := HB3.out.size
   have KZ := (HI.out.bz.below HB2.out (by omega)).below HB3.out (by omega)
   obtain ⟨⟨r0, s0⟩, ⟨r1, s1⟩, ⟨r2, s2⟩, ⟨r3, s3⟩⟩ := kb3 KZ
   have hlw : w.heap.size < W3.heap.size := by omega
   clear KZ
   refine rE 12 rfl fun K hK => ?_
   go_simp
   refine hK _ _ ⟨⟨l1, range_below (n := W2.heap.size) Y1.out HB3.out (by omega), range_below (n := W2.heap.size) Y2.out HB3.out (by omega)⟩, ?_⟩
   clear hK K
   try simp only [Act.put, q1, q2, q3]
   refine rL 13 rfl fun K hK => ?_
   go_simp
   refine hK _ _ ?_
   clear hK K
   try simp only [Act.put, q1, q2, q3]
   refine till_done (by kernel_rfl) ?_ _
   have G2 : IGr w.heap.size W3 (.slice a2 (tabsT (readAt rd) 32).length q2) (tabsT (readAt rd) 32) := (HG2.out.below HB3.out).base (by rw [hzr]; omega)
   have G3 : IGr w.heap.size W3 (.slice a3 (tabsT (readAt (marksD D)) 32).length q3) (tabsT (readAt (marksD D)) 32) := HG3.out.base (by omega)
   have HF : Hid (∃ v2 v3, Ending.returned (.agg #[.int .i64 bg, .int .i64 cm, .slice a2 (tabsT (readAt rd) 32).length q2, .slice a3 (tabsT (readAt (marksD D)) 32).length q3]) = .returned (.agg #[.int .i64 bg, .int .i64 cm, v2, v3]) /\ IGr w.heap.size (set4 W3 w.heap.size (.int .i64 bg) (.int .i64 cm) (.slice a2 (tabsT (readAt rd) 32).length q2) (.slice a3 (tabsT (readAt (marksD D)) 32).length q3)) v2 (tabsT (readAt rd) 32) /\ (∃ E, (∀ m ∈ M, m.1 ∈ E) /\ (∀ k ∈ E, ∃ v, (k, v) ∈ M) /\ IGr w.heap.size (set4 W3 w.heap.size (.int .i64 bg) (.int .i64 cm) (.slice a2 (tabsT (readAt rd) 32).length q2) (.slice a3 (tabsT (readAt (marksD D)) 32).length q3)) v3 (tabsT (readAt (marksD E)) 32)) /\ (∀ a, v2.ownBlock = some a -> v3.ownBlock ≠ some a) /\ Below w.heap.size w (set4 W3 w.heap.size (.int .i64 bg) (.int .i64 cm) (.slice a2 (tabsT (readAt rd) 32).length q2) (.slice a3 (tabsT (readAt (marksD D)) 32).length q3))) := (by
    have f := fr_set4 W3 w.heap.size (.int .i64 bg) (.int .i64 cm) (.slice a2 (tabsT (readAt rd) 32).length q2) (.slice a3 (tabsT (readAt (marksD D)) 32).length q3)
    have n2 : ∀ q, (Value.slice a2 (tabsT (readAt rd) 32).length q2).ownBlock = some q -> wr.heap.size <= q /\ q < W2.heap.size := fun q hq => HG2.out.lt hq
    have n3 : ∀ q, (Value.slice a3 (tabsT (readAt (marksD D)) 32).length q3).ownBlock = some q -> W2.heap.size <= q := fun q hq => (HG3.out.lt hq).1
    refine ⟨_, _, rfl, own_fr G2 f (fun q hq e => ?_), ⟨D, HAL.out, HI.out.hd, own_fr G3 f (fun q hq e => ?_)⟩, fun q hq hq2 => ?_, ?_⟩
    .have := n2 q hq; have e2 : q = w.heap.size := e; omega
    .have := n3 q hq; have e2 : q = w.heap.size := e; omega
    .have h2 := n2 q hq; have h3 := n3 q hq2; omega
    .exact (HI.out.be.trans ((HB2.out.mono HI.out.be.size).trans (HB3.out.mono (by have := HI.out.be.size; omega)))).trans (f.below (by omega) (fun q e => by rw [e]; exact Nat.le_refl _)))
   unfold set4 at HF
   clear G2 G3
   go_wp2
   refine bodyPost_ret (v := .agg #[.int .i64 bg, .int .i64 cm, .slice a2 (tabsT (readAt rd) 32).length q2, .slice a3 (tabsT (readAt (marksD D)) 32).length q3]) (by simp [results, Tryz.results89, go_sem, r0, r1, r2, r3, s0, s1, s2, s3]) rfl ?_
   exact HF.out
  .obtain ⟨⟨t, y⟩, v, b⟩ := m
   have ht := hk _ hm
   simp only at ht
   obtain ⟨n, rfl⟩ : ∃ n : Nat, t = (n : Int) := ⟨t.toNat, by omega⟩
   have hn : n < 32 := by omega
   have hni : (n : Int) < 32 := by omega
   have HN : Hid (InfM g mb bg rd M w ((w1.alloc (.cells #[.int .i64 (n : Int), .int .i64 y] 113)).setCell ⟨w.heap.size + 1, n, none⟩ (.bool true)) (((n : Int), y) :: D) /\ ((w1.alloc (.cells #[.int .i64 (n : Int), .int .i64 y] 113)).setCell ⟨w.heap.size + 1, n, none⟩ (.bool true)).rangeLeft mb (w.heap.size + 1 + 1) < wr.rangeLeft mb (w.heap.size + 1 + 1)) := hid (by
    have q1 := hit1.fr (Fr.of_below (fun _ => False) (below_alloc w1 (.cells #[.int .i64 (n : Int), .int .i64 y] 113))) (fun z => z) (fun z => z)
    have q2 := q1.1.fr (Fr.setCell (w1.alloc (.cells #[.int .i64 (n : Int), .int .i64 y] 113)) (w.heap.size + 1) n (.bool true)) (fun (e : mb = w.heap.size + 1) => by omega) (fun (e : w.heap.size + 1 + 1 = w.heap.size + 1) => by omega)
    have k1 := ((HI.out.bw.fr hf1 (by omega) (fun (e : w.heap.size + 1 = w.heap.size + 1 + 1) => by omega)).below (below_alloc w1 (.cells #[.int .i64 (n : Int), .int .i64 y] 113)) (by omega)).set n (.bool true) (by rw [List.length_map, marksD_len]; exact hn)
    rw [<- List.map_set, marksD_set D n y hn] at k1
    have k0 := ((HI.out.bz.fr hf1 (by omega) (fun (e : w.heap.size = w.heap.size + 1 + 1) => by omega)).below (below_alloc w1 (.cells #[.int .i64 (n : Int), .int .i64 y] 113)) (by omega)).other (c := w.heap.size + 1) (j := n) (u := .bool true) (by omega)
    refine ⟨⟨q2.1, k1, k0, ?_, fun k hk2 => ?_⟩, by rw [q2.2, q1.2]; exact hlt⟩
    .have b1 : Below w.heap.size w w1 := HI.out.be.trans (hf1.below HI.out.be.size (fun q e => by rw [e]; omega))
     exact (b1.alloc b1.size _).setCell (p := ⟨w.heap.size + 1, n, none⟩) (by simp) _
    .rcases List.mem_cons.1 hk2 with z | z
     .rw [z]; exact ⟨_, hm⟩
     .exact HI.out.hd k z)
   have KB := HI.out.bw.fr hf1 (by omega) (fun (e : w.heap.size + 1 = w.heap.size + 1 + 1) => by omega)
   have c3 : w1.cell? ⟨w.heap.size + 1, n, none⟩ = some (.bool (readAt (marksD D) n)) := (KB n (by rw [List.length_map, marksD_len]; exact hn)).1.trans (by
    rw [List.getElem?_map]
    unfold readAt
    rw [List.getD_eq_getElem?_getD, List.getElem?_eq_getElem (by rw [marksD_len]; exact hn)]
    rfl)
   have f3 := (KB n (by rw [List.length_map, marksD_len]; exact hn)).2
   have hw1 : w.heap.size + 1 < w1.heap.size := by omega
   have c4 : (w1.alloc (.cells #[.int .i64 (n : Int), .int .i64 y] 113)).cell? ⟨w.heap.size + 1, n, none⟩ = some (.bool (readAt (marksD D) n)) := ((below_alloc w1 _).cell (p := ⟨w.heap.size + 1, n, none⟩) hw1).trans c3
   have f4 : (w1.alloc (.cells #[.int .i64 (n : Int), .int .i64 y] 113)).frozen? ⟨w.heap.size + 1, n, none⟩ = false := ((below_alloc w1 _).frozen (p := ⟨w.heap.size + 1, n, none⟩) hw1).trans f3
   have hw2 : ¬ w1.heap.size = w.heap.size + 1 := by omega
   have hw3 : ¬ w.heap.size + 1 = w1.heap.size := by omega
   clear KB HI hit1 hf1 hlt hm hnD hk ht hM c0 c1
   simp only [sptV, vsnV] at hrun hen
   go_wp2
   go_roundw
   case rel => exact ⟨_, hid HN.out.1⟩
   case measure => exact HN.out.2
end Go.Proofs.YtblkgicbimflhaaGreat
