import Derived.Test.YtblkgicbimflhaaGreatSBA
import Derived.Test.YtblkgicbimflhaaGreatSAT
import Derived.Deep.RegionHeld3
import Derived.Carry
import Derived.Deep.DeepCutAuto
import Derived.Test.YtblkgicbimflhaaGreatSAS
namespace Go.Proofs.YtblkgicbimflhaaGreat
open Go.ChangeShapes Go.WideShapes Go.ChangeAt Go.RowKit
set_option linter.unusedVariables false
set_option linter.unusedSimpArgs false
set_option maxRecDepth 100000
set_option maxHeartbeats 16000000
theorem versionsAt_any (B b o tb : Nat) (htb : tb < 32) (kv vv : Value) (ks : List Int) (f : Int -> Value × Value) (x : Int) (w : World) (hbl : b < w.heap.size) (c0 : w.cell? ⟨b, o + 1 + tb * 2, none⟩ = some kv) (c1 : w.cell? ⟨b, o + 1 + tb * 2 + 1, none⟩ = some vv) (hK : w.ownsRow B 3 1 kv ks.length (ks.map (Value.int .i64))) (hV : w.ownsRow B 155 2 vv ks.length (ks.flatMap (fun y => [(f y).1, (f y).2]))) (hs : ks.Pairwise (· < ·)) (hn : ks.length <= 1048576) (hf : ∀ y, ¬ y ∈ ks -> f y = (.slice none 0 0, .slice none 0 0)) (hff : ∀ y, (∃ a n c, (f y).1 = .slice a n c) /\ ∃ a n c, (f y).2 = .slice a n c) :
 Calls Tryz.prog 64 #[.pointer (some ⟨b, o, none⟩), .agg #[.int .i64 (tb : Int), .int .i64 x]] w fun e w' => e = .returned (.agg #[(f x).1, (f x).2]) /\ Below w.heap.size w w' := by
 have hti : (tb : Int) < 32 := by omega
 obtain ⟨⟨a1, n1, q1, e1⟩, a2, n2, q2, e2⟩ := hff x
 have HU : Hid (∀ (W : World), Below w.heap.size w W -> Calls Tryz.prog 81 #[.pointer (some ⟨b, o + 1 + tb * 2, none⟩), .int .i64 x] W fun e w' => e = .returned (.agg #[.slice a1 n1 q1, .slice a2 n2 q2]) /\ Below W.heap.size W w') := hid (fun (W : World) (hB : Below w.heap.size w W) => by
  have h := under_any B b (o + 1 + tb * 2) kv vv ks f x W (Nat.lt_of_lt_of_le hbl hB.size) ((hB.cell (p := ⟨b, o + 1 + tb * 2, none⟩) hbl).trans c0) ((hB.cell (p := ⟨b, o + 1 + tb * 2 + 1, none⟩) hbl).trans c1) (own_below hK hB) (own_below hV hB) hs hn hf hff
  rw [e1, e2] at h
  exact h)
 rw [e1, e2]
 have hz : (w.alloc (.cells #[.int .i64 (tb : Int), .int .i64 x] 113)).heap.size = w.heap.size + 1 := by simp
 have K0 : Blk ((w.alloc (.cells #[.int .i64 (tb : Int), .int .i64 x] 113)).alloc (.cells #[.slice none 0 0, .slice none 0 0] 155)) w.heap.size [.int .i64 (tb : Int), .int .i64 x] := (blk_new w [.int .i64 (tb : Int), .int .i64 x] 113).below (below_alloc _ _) (by simp)
 have K1 : Blk ((w.alloc (.cells #[.int .i64 (tb : Int), .int .i64 x] 113)).alloc (.cells #[.slice none 0 0, .slice none 0 0] 155)) (w.heap.size + 1) [.slice none 0 0, .slice none 0 0] := by
  have := blk_new (w.alloc (.cells #[.int .i64 (tb : Int), .int .i64 x] 113)) [.slice none 0 0, .slice none 0 0] 155
  rw [hz] at this
  exact this
 have l0 : w.heap.size < ((w.alloc (.cells #[.int .i64 (tb : Int), .int .i64 x] 113)).alloc (.cells #[.slice none 0 0, .slice none 0 0] 155)).heap.size := by simp; omega
 have l1 : w.heap.size + 1 < ((w.alloc (.cells #[.int .i64 (tb : Int), .int .i64 x] 113)).alloc (.cells #[.slice none 0 0, .slice none 0 0] 155)).heap.size := by simp
 have HK0 : Hid (Blk ((w.alloc (.cells #[.int .i64 (tb : Int), .int .i64 x] 113)).alloc (.cells #[.slice none 0 0, .slice none 0 0] 155)).drew w.heap.size [.int .i64 (tb : Int), .int .i64 x]) := hid (K0.below (Below.refl _ _).drew l0)
 have HK1 : Hid (Blk ((w.alloc (.cells #[.int .i64 (tb : Int), .int .i64 x] 113)).alloc (.cells #[.slice none 0 0, .slice none 0 0] 155)).drew (w.heap.size + 1) [.slice none 0 0, .slice none 0 0]) := hid (K1.below (Below.refl _ _).drew l1)
 have HL0 : Hid (w.heap.size < ((w.alloc (.cells #[.int .i64 (tb : Int), .int .i64 x] 113)).alloc (.cells #[.slice none 0 0, .slice none 0 0] 155)).drew.heap.size) := (l0 : w.heap.size < ((w.alloc (.cells #[.int .i64 (tb : Int), .int .i64 x] 113)).alloc (.cells #[.slice none 0 0, .slice none 0 0] 155)).heap.size)
 have HL1 : Hid (w.heap.size + 1 < ((w.alloc (.cells #[.int .i64 (tb : Int), .int .i64 x] 113)).alloc (.cells #[.slice none 0 0, .slice none 0 0] 155)).drew.heap.size) := (l1 : w.heap.size + 1 < ((w.alloc (.cells #[.int .i64 (tb : Int), .int .i64 x] 113)).alloc (.cells #[.slice none 0 0, .slice none 0 0] 155)).heap.size)
 obtain ⟨z0, z1⟩ := kc1 K0
 have hbw : Below w.heap.size w ((w.alloc (.cells #[.int .i64 (tb : Int), .int .i64 x] 113)).alloc (.cells #[.slice none 0 0, .slice none 0 0] 155)) := (below_alloc w _).trans ((below_alloc _ _).mono (by simp))
 clear K0 K1 hz e1 e2 l0 l1
 clear hK hV hs hn hf hff c0 c1
 go_enter Tryz.func64, Tryz.ntmps64
 go_wp2
 go_region_held (fun W => W.cell? ⟨w.heap.size, 0, none⟩ = some (.int .i64 (tb : Int)) /\ W.cell? ⟨w.heap.size, 1, none⟩ = some (.int .i64 x)) (go_keep) (first
  | (go_at_call 81
     with_reducible refine (HU.out _ hbw.drew).mono ?_
     rintro e W2 ⟨rfl, hb2⟩
     have KK0 := HK0.out.below hb2 HL0.out
     have KK1 := HK1.out.below hb2 HL1.out
     obtain ⟨t0, t1⟩ := kc1 KK0
     obtain ⟨⟨r0, s0⟩, ⟨r1, s1⟩⟩ := kb1 KK1
     have b2 : Below w.heap.size w W2 := hbw.drew.trans (hb2.mono (Nat.le_of_lt HL0.out))
     have HB2 := hid b2
     clear hb2 KK0 KK1 b2))
 go_wp2
 refine bodyPost_ret (v := .agg #[.slice a1 n1 q1, .slice a2 n2 q2]) (by simp [results, Tryz.results64, go_sem, r0, r1, s0, s1]) rfl ?_
 refine ⟨rfl, ?_⟩
 have b2 := HB2.out
 exact bl
theorem seen_own (b o g mb tb : Nat) (x bg : Int) (v : Vsn) (M : List (Spt × Vsn)) (w : World) (hgl : g < w.heap.size) (c0 : w.cell? ⟨g, 0, none⟩ = some (.int .i64 bg)) (c1 : w.cell? ⟨g, 34, none⟩ = some (.map (some mb))) (hM : MP w mb M) (hg : mget M ((tb : Int), x) = some v) :
 Calls Tryz.prog 44 #[.pointer (some ⟨b, o, none⟩), .pointer (some ⟨g, 0, none⟩), .agg #[.int .i64 (tb : Int), .int .i64 x]] w fun e w' => e = .returned (.agg #[.int .i64 v.1, .bool v.2]) /\ Below w.heap.size w w' := by
 have hz : (w.alloc (.cells #[.int .i64 (tb : Int), .int .i64 x] 113)).heap.size = w.heap.size + 1 := by simp
 have hbw : Below w.heap.size w ((w.alloc (.cells #[.int .i64 (tb : Int), .int .i64 x] 113)).alloc (.cells #[.int .i64 0, .bool false] 121)) := (below_alloc w _).trans ((below_alloc _ _).mono (by simp))
 have K0 : Blk ((w.alloc (.cells #[.int .i64 (tb : Int), .int .i64 x] 113)).alloc (.cells #[.int .i64 0, .bool false] 121)) w.heap.size [.int .i64 (tb : Int), .int .i64 x] := (blk_new w [.int .i64 (tb : Int), .int .i64 x] 113).below (below_alloc _ _) (by simp)
 obtain ⟨z0, z1⟩ := kc1 K0
 have z2 : ((w.alloc (.cells #[.int .i64 (tb : Int), .int .i64 x] 113)).alloc (.cells #[.int .i64 0, .bool false] 121)).cell? ⟨g, 34, none⟩ = some (.map (some mb)) := (hbw.cell (p := ⟨g, 34, none⟩) hgl).trans c1
 have HM0 : Hid (MP ((w.alloc (.cells #[.int .i64 (tb : Int), .int .i64 x] 113)).alloc (.cells #[.int .i64 0, .bool false] 121)).drew mb M) := hid (hM.fr (Fr.of_below (fun _ => False) hbw.drew) (fun z => z))
 clear K0 hz
 go_enter Tryz.func44, Tryz.ntmps44
 go_wp2
 refine wp_region_till_drew (S := (fun W => W.cell? ⟨g, 34, none⟩ = some (.map (some mb)) /\ W.cell? ⟨w.heap.size, 0, none⟩ = some (.int .i64 (tb : Int)) /\ W.cell? ⟨w.heap.size, 1, none⟩ = some (.int .i64 x) /\ MP W mb M)) (late := [10, 11]) (by kernel_rfl) ⟨z2, z0, z1, HM0.out⟩ (fun hHeld => ?_)
 refine tT 0 rfl hHeld ?_
 try simp only [Act.put, q1, q2, q3]
 refine tT 1 rfl hHeld ?_
 try simp only [Act.put, q1, q2, q3]
 refine tT 2 rfl hHeld ?_
 try simp only [Act.put, q1, q2, q3]
 refine till_ld (i := 3) (v := ?_) rfl (Or.inl ⟨by rfl, ?_⟩) hHeld ?_
 rotate_left
 .intro w hSw
  try dsimp only at hSw
  go_simp
  try with_reducible rfl
 try simp only [Act.put, q1, q2, q3]
 refine till_ld (i := 4) (v := ?_) rfl (Or.inl ⟨by rfl, ?_⟩) hHeld ?_
 rotate_left
 .intro w hSw
  try dsimp only at hSw
  go_simp
  try with_reducible rfl
 try simp only [Act.put, q1, q2, q3]
 refine till_ld (i := 5) (v := ?_) rfl (Or.inl ⟨by rfl, ?_⟩) hHeld ?_
 rotate_left
 .intro W hSw
  have hl := run_look W mb M hSw.2.2.2 (tb, x)
  rw [hg] at hl
  simp only [sptV, vsnV, Option.getD_some, Option.isSome_some] at hl
  simp [execOp, go_sem, hl]
  try with_reducible rfl
 try simp only [Act.put, q1, q2, q3]
 refine tT 6 rfl hHeld ?_
 try simp only [Act.put, q1, q2, q3]
 refine tT 7 rfl hHeld ?_
 try simp only [Act.put, q1, q2, q3]
 refine tT 8 rfl hHeld ?_
 try simp only [Act.put, q1, q2, q3]
 refine till_ready (rs := [9]) (by kernel_rfl) (by simp) ?_
 refine TillAll.cons rfl (fun K hK => ?_) TillAll.nil
 go_simp
 refine hK _ _ ⟨⟨by go_keep, by go_keep, by go_keep, HM0.out.fr (Fr.of_below (fun _ => False) (below_alloc _ _)) (fun z => z)⟩, ?_⟩
 clear hK K
 try simp only [Act.put, q1, q2, q3]
 refine rL 10 rfl fun K hK => ?_
 go_simp
 refine hK _ _ ?_
 clear hK K
 try simp only [Act.put, q1, q2, q3]
 refine rL 11 rfl fun K hK => ?_
 go_simp
 refine hK _ _ ?_
 clear hK K
 try simp only [Act.put, q1, q2, q3]
 refine till_done (by kernel_rfl) ?_ _
 go_wp2
 refine bodyPost_ret (v := .agg #[.int .i64 v.1, .bool v.2]) (by simp [results, Tryz.results44, go_sem]) rfl ?_
 refine ⟨rfl, ?_⟩
 exact bl
theorem seen_past (b o g mb tb : Nat) (x bg : Int) (M : List (Spt × Vsn)) (w : World) (hgl : g < w.heap.size) (c0 : w.cell? ⟨g, 0, none⟩ = some (.int .i64 bg)) (c1 : w.cell? ⟨g, 34, none⟩ = some (.map (some mb))) (hM : MP w mb M) (hg : mget M ((tb : Int), x) = none) (htb : tb < 32) (B : Nat) (kv vv : Value) (ks : List Int) (f : Int -> Value × Value) (vs : List Ver) (hbl : b < w.heap.size) (d0 : w.cell? ⟨b, o + 1 + tb * 2, none⟩ = some kv) (d1 : w.cell? ⟨b, o + 1 + tb * 2 + 1, none⟩ = some vv) (hK : w.ownsRow B 3 1 kv ks.length (ks.map (Value.int .i64))) (hV : w.ownsRow B 155 2 vv ks.length (ks.flatMap (fun y => [(f y).1, (f y).2]))) (hs : ks.Pairwise (· < ·)) (hn : ks.length <= 1048576) (hf : ∀ y, ¬ y ∈ ks -> f y = (.slice none 0 0, .slice none 0 0)) (hff : ∀ y, (∃ a n c, (f y).1 = .slice a n c) /\ ∃ a n c, (f y).2 = .slice a n c) (hK2 : w.ownsRow B 3 1 (f x).1 vs.length ((vs.map (·.1)).map (Value.int .i64))) (hV2 : w.ownsRow B 121 2 (f x).2 vs.length (vs.flatMap verV)) (hs2 : (vs.map (·.1)).Pairwise (· < ·)) (hn2 : vs.length <= 1048576) :
 Calls Tryz.prog 44 #[.pointer (some ⟨b, o, none⟩), .pointer (some ⟨g, 0, none⟩), .agg #[.int .i64 (tb : Int), .int .i64 x]] w fun e w' => e = .returned (.agg #[.int .i64 (verAt vs bg).1, .bool (verAt vs bg).2]) /\ Below w.heap.size w w' := by
 have hz : (w.alloc (.cells #[.int .i64 (tb : Int), .int .i64 x] 113)).heap.size = w.heap.size + 1 := by simp
 have hbw : Below w.heap.size w ((w.alloc (.cells #[.int .i64 (tb : Int), .int .i64 x] 113)).alloc (.cells #[.int .i64 0, .bool false] 121)) := (below_alloc w _).trans ((below_alloc _ _).mono (by simp))
 have K0 : Blk ((w.alloc (.cells #[.int .i64 (tb : Int), .int .i64 x] 113)).alloc (.cells #[.int .i64 0, .bool false] 121)) w.heap.size [.int .i64 (tb : Int), .int .i64 x] := (blk_new w [.int .i64 (tb : Int), .int .i64 x] 113).below (below_alloc _ _) (by simp)
 obtain ⟨z0, z1⟩ := kc1 K0
 have z2 : ((w.alloc (.cells #[.int .i64 (tb : Int), .int .i64 x] 113)).alloc (.cells #[.int .i64 0, .bool false] 121)).cell? ⟨g, 34, none⟩ = some (.map (some mb)) := (hbw.cell (p := ⟨g, 34, none⟩) hgl).trans c1
 have HM0 : Hid (MP ((w.alloc (.cells #[.int .i64 (tb : Int), .int .i64 x] 113)).alloc (.cells #[.int .i64 0, .bool false] 121)).drew mb M) := hid (hM.fr (Fr.of_below (fun _ => False) hbw.drew) (fun z => z))
 obtain ⟨⟨a1, n1, q1, e1⟩, a2, n2, q2, e2⟩ := hff x
 have HU : Hid (∀ (W : World), Below w.heap.size w W -> Calls Tryz.prog 64 #[.pointer (some ⟨b, o, none⟩), .agg #[.int .i64 (tb : Int), .int .i64 x]] W fun e w' => e = .returned (.agg #[.slice a1 n1 q1, .slice a2 n2 q2]) /\ Below W.heap.size W w') := hid (fun (W : World) (hB : Below w.heap.size w W) => by
  have h := versionsAt_any B b o tb htb kv vv ks f x W (Nat.lt_of_lt_of_le hbl hB.size) ((hB.cell (p := ⟨b, o + 1 + tb * 2, none⟩) hbl).trans d0) ((hB.cell (p := ⟨b, o + 1 + tb * 2 + 1, none⟩) hbl).trans d1) (own_below hK hB) (own_below hV hB) hs hn hf hff
  rw [e1, e2] at h
  exact h)
 rw [e1] at hK2
 rw [e2] at hV2
 have HUP := hid (fun (W : World) (r : Nat) (hr : r < W.heap.size) (g0 : W.cell? ⟨r, 0, none⟩ = some (.slice a1 n1 q1)) (g1 : W.cell? ⟨r, 0 + 1, none⟩ = some (.slice a2 n2 q2)) (hB : Below w.heap.size w W) => upTo_any B r 0 (.slice a1 n1 q1) (.slice a2 n2 q2) vs bg W hr g0 g1 (own_below hK2 hB) (own_below hV2 hB) hs2 hn2)
 generalize verAt vs bg = v at HUP ⊢
 have HK1 : Hid (Blk ((((w.alloc (.cells #[.int .i64 (tb : Int), .int .i64 x] 113)).alloc (.cells #[.int .i64 0, .bool false] 121)).alloc (.cells #[.int .i64 0, .bool false] 121)).drew) (w.heap.size + 1) [.int .i64 0, .bool false]) := by
  have h := blk_new (w.alloc (.cells #[.int .i64 (tb : Int), .int .i64 x] 113)) [.int .i64 0, .bool false] 121
  rw [hz] at h
  exact hid ((h.below (below_alloc _ _) (by simp)).below (Below.refl _ _).drew (by simp))
 have HL1 : Hid (w.heap.size + 1 < ((((w.alloc (.cells #[.int .i64 (tb : Int), .int .i64 x] 113)).alloc (.cells #[.int .i64 0, .bool false] 121)).alloc (.cells #[.int .i64 0, .bool false] 121)).drew).heap.size) := hid (by show w.heap.size + 1 < (((w.alloc (.cells #[.int .i64 (tb : Int), .int .i64 x] 113)).alloc (.cells #[.int .i64 0, .bool false] 121)).alloc _).heap.size; simp)
 have hbx : Below w.heap.size w ((((w.alloc (.cells #[.int .i64 (tb : Int), .int .i64 x] 113)).alloc (.cells #[.int .i64 0, .bool false] 121)).alloc (.cells #[.int .i64 0, .bool false] 121)).drew) := (hbw.trans ((below_alloc _ _).mono (by simp; omega))).drew
 have HBX := hid hbx
 clear hbx hK hV hs hn hf hff hK2 hV2 hs2 hn2 e1 e2 d0 d1
 clear K0 hz
 go_enter Tryz.func44, Tryz.ntmps44
 go_wp2
 refine wp_region_till_drew (S := (fun W => W.cell? ⟨g, 34, none⟩ = some (.map (some mb)) /\ W.cell? ⟨w.heap.size, 0, none⟩ = some (.int .i64 (tb : Int)) /\ W.cell? ⟨w.heap.size, 1, none⟩ = some (.int .i64 x) /\ MP W mb M)) (late := [10, 11]) (by kernel_rfl) ⟨z2, z0, z1, HM0.out⟩ (fun hHeld => ?_)
 refine tT 0 rfl hHeld ?_
 try simp only [Act.put, q1, q2, q3]
 refine tT 1 rfl hHeld ?_
 try simp only [Act.put, q1, q2, q3]
 refine tT 2 rfl hHeld ?_
 try simp only [Act.put, q1, q2, q3]
 refine till_ld (i := 3) (v := ?_) rfl (Or.inl ⟨by rfl, ?_⟩) hHeld ?_
 rotate_left
 .intro w hSw
  try dsimp only at hSw
  go_simp
  try with_reducible rfl
 try simp only [Act.put, q1, q2, q3]
 refine till_ld (i := 4) (v := ?_) rfl (Or.inl ⟨by rfl, ?_⟩) hHeld ?_
 rotate_left
 .intro w hSw
  try dsimp only at hSw
  go_simp
  try with_reducible rfl
 try simp only [Act.put, q1, q2, q3]
 refine till_ld (i := 5) (v := ?_) rfl (Or.inl ⟨by rfl, ?_⟩) hHeld ?_
 rotate_left
 .intro W hSw
  have hl := run_look W mb M hSw.2.2.2 (tb, x)
  rw [hg] at hl
  simp only [sptV, vsnV, Option.getD_none, Option.isSome_none] at hl
  simp [execOp, go_sem, hl]
  try with_reducible rfl
 try simp only [Act.put, q1, q2, q3]
 refine tT 6 rfl hHeld ?_
 try simp only [Act.put, q1, q2, q3]
 refine tT 7 rfl hHeld ?_
 try simp only [Act.put, q1, q2, q3]
 refine tT 8 rfl hHeld ?_
 try simp only [Act.put, q1, q2, q3]
 refine till_ready (rs := [9]) (by kernel_rfl) (by simp) ?_
 refine TillAll.cons rfl (fun K hK => ?_) TillAll.nil
 go_simp
 refine hK _ _ ⟨⟨by go_keep, by go_keep, by go_keep, HM0.out.fr (Fr.of_below (fun _ => False) (below_alloc _ _)) (fun z => z)⟩, ?_⟩
 clear hK K
 try simp only [Act.put, q1, q2, q3]
 refine rL 10 rfl fun K hK => ?_
 go_simp
 refine hK _ _ ?_
 clear hK K
 try simp only [Act.put, q1, q2, q3]
 refine rL 11 rfl fun K hK => ?_
 go_simp
 refine hK _ _ ?_
 clear hK K
 try simp only [Act.put, q1, q2, q3]
 refine till_done (by kernel_rfl) ?_ _
 go_wp2_with (go_at_call 64; fail)
 refine (HU.out _ HBX.out).mono ?_
 rintro e W2 ⟨rfl, hb2⟩
 have KK1 := HK1.out.below hb2 HL1.out
 obtain ⟨⟨r0, s0⟩, ⟨r1, s1⟩⟩ := kb1 KK1
 have b2 : Below w.heap.size w W2 := HBX.out.trans (hb2.mono (Nat.le_of_lt (Nat.lt_of_succ_lt HL1.out)))
 have t0 : W2.cell? ⟨g, 0, none⟩ = some (.int .i64 bg) := ct b2 hgl c0
 have hl2 : w.heap.size + 1 < W2.heap.size := Nat.lt_of_lt_of_le HL1.out hb2.size
 have HKK := hid KK1
 have HB2 := hid b2
 have hgl2 : g < W2.heap.size := by omega
 have hng : ¬ W2.heap.size = g := by omega
 have hng2 : ¬ g = W2.heap.size := by omega
 clear hb2 KK1 HU HBX b2
 go_wp2_with (go_at_call 65; fail)
 refine (HUP.out _ _ (by simp) (by simp) (by simp) (HB2.out.trans ((below_alloc _ _).mono (by omega)))).mono ?_
 rintro e W3 ⟨rfl, hb3⟩
 have KK3 := (HKK.out.below (below_alloc W2 (.cells #[.slice a1 n1 q1, .slice a2 n2 q2] 155)) hl2).below hb3 (by simp; omega)
 obtain ⟨⟨r3, s3⟩, ⟨r4, s4⟩⟩ := kb1 KK3
 have b3 : Below w.heap.size w W3 := (HB2.out.trans ((below_alloc _ _).mono (by omega))).trans (hb3.mono (by simp; omega))
 have HB3 := hid b3
 clear hb3 KK3 b3
 go_wp2
 refine bodyPost_ret (v := .agg #[.int .i64 v.1, .bool v.2]) (by simp [results, Tryz.results44, go_sem, r3, r4, s3, s4]) rfl ?_
 refine ⟨rfl, ?_⟩
 have b3 := HB3.out
 exact bl
def noMarks : List Bool := List.replicate 32 false
def tranC (cl md : Int) (rd : List Bool) (mb : Nat) (sv : Value) : List Value := [.int .i64 cl, .int .i64 md] ++ rd.map Value.bool ++ [.map (some mb), sv]
theorem tranC_new (cl md : Int) (w : World) : tranC cl md noMarks w.heap.size (.slice none 0 0) = [.int .i64 cl, .int .i64 md, .bool false, .bool false, .bool false, .bool false, .bool false, .bool false, .bool false, .bool false, .bool false, .bool false, .bool false, .bool false, .bool false, .bool false, .bool false, .bool false, .bool false, .bool false, .bool false, .bool false, .bool false, .bool false, .bool false, .bool false, .bool false, .bool false, .bool false, .bool false, .bool false, .bool false, .bool false, .bool false, .map (some w.heap.size), .slice none 0 0] := rfl
theorem newTran_any (b o : Nat) (cl md : Int) (w : World) (hbl : b < w.heap.size) (c0 : w.cell? ⟨b, o, none⟩ = some (.int .i64 cl)) :
 Calls Tryz.prog 43 #[.pointer (some ⟨b, o, none⟩), .int .i64 md] w fun e w' => e = .returned (.pointer (some ⟨w.heap.size + 1, 0, none⟩)) /\ Blk w' (w.heap.size + 1) (tranC cl md noMarks w.heap.size (.slice none 0 0)) /\ MP w' w.heap.size [] /\ Below w.heap.size w w' /\ w'.heap.size = w.heap.size + 2 := by
 have hz : (w.alloc (.map #[] 0)).heap.size = w.heap.size + 1 := by simp
 have HX : Hid (Blk ((w.alloc (.map #[] 0)).alloc (.cells #[.int .i64 cl, .int .i64 md, .bool false, .bool false, .bool false, .bool false, .bool false, .bool false, .bool false, .bool false, .bool false, .bool false, .bool false, .bool false, .bool false, .bool false, .bool false, .bool false, .bool false, .bool false, .bool false, .bool false, .bool false, .bool false, .bool false, .bool false, .bool false, .bool false, .bool false, .bool false, .bool false, .bool false, .bool false, .bool false, .map (some w.heap.size), .slice none 0 0] 119)) (w.heap.size + 1) (tranC cl md noMarks w.heap.size (.slice none 0 0)) /\ MP ((w.alloc (.map #[] 0)).alloc (.cells #[.int .i64 cl, .int .i64 md, .bool false, .bool false, .bool false, .bool false, .bool false, .bool false, .bool false, .bool false, .bool false, .bool false, .bool false, .bool false, .bool false, .bool false, .bool false, .bool false, .bool false, .bool false, .bool false, .bool false, .bool false, .bool false, .bool false, .bool false, .bool false, .bool false, .bool false, .bool false, .bool false, .bool false, .bool false, .bool false, .map (some w.heap.size), .slice none 0 0] 119)) w.heap.size [] /\ Below w.heap.size w ((w.alloc (.map #[] 0)).alloc (.cells #[.int .i64 cl, .int .i64 md, .bool false, .bool false, .bool false, .bool false, .bool false, .bool false, .bool false, .bool false, .bool false, .bool false, .bool false, .bool false, .bool false, .bool false, .bool false, .bool false, .bool false, .bool false, .bool false, .bool false, .bool false, .bool false, .bool false, .bool false, .bool false, .bool false, .bool false, .bool false, .bool false, .bool false, .bool false, .bool false, .map (some w.heap.size), .slice none 0 0] 119)) /\ ((w.alloc (.map #[] 0)).alloc (.cells #[.int .i64 cl, .int .i64 md, .bool false, .bool false, .bool false, .bool false, .bool false, .bool false, .bool false, .bool false, .bool false, .bool false, .bool false, .bool false, .bool false, .bool false, .bool false, .bool false, .bool false, .bool false, .bool false, .bool false, .bool false, .bool false, .bool false, .bool false, .bool false, .bool false, .bool false, .bool false, .bool false, .bool false, .bool false, .bool false, .map (some w.heap.size), .slice none 0 0] 119)).heap.size = w.heap.size + 2) := hid (by
  have h1 := blk_new (w.alloc (.map #[] 0)) [.int .i64 cl, .int .i64 md, .bool false, .bool false, .bool false, .bool false, .bool false, .bool false, .bool false, .bool false, .bool false, .bool false, .bool false, .bool false, .bool false, .bool false, .bool false, .bool false, .bool false, .bool false, .bool false, .bool false, .bool false, .bool false, .bool false, .bool false, .bool false, .bool false, .bool false, .bool false, .bool false, .bool false, .bool false, .bool false, .map (some w.heap.size), .slice none 0 0] 119
  rw [hz] at h1
  refine ⟨by rw [tranC_new]; exact h1, ?_, ?_, ?_⟩
  .exact (mp_new w).fr (Fr.of_below (fun _ => False) (below_alloc _ _)) (fun z => z)
  .exact (below_alloc w _).trans ((below_alloc _ _).mono (by simp))
  .rw [show ∀ (W : World) (ob : Obj), (W.alloc ob).heap.size = W.heap.size + 1 from fun W ob => by simp, hz])
 have hmk := @run_makeMap Tryz.prog
 clear hz
 go_enter Tryz.func43, Tryz.ntmps43
 go_wp2
 refine bodyPost_ret (v := .pointer (some ⟨w.heap.size + 1, 0, none⟩)) (by simp [results, Tryz.results43, go_sem]) rfl ?_
 exact ⟨rfl, HX.out⟩
def faultC (k se tb md : Int) (nil : Bool) : Int :=
 if ¬ (1 <= k /\ k <= 10) \/ ¬ (1 <= se /\ se <= 4) then 1 else if (decide (k = 1)) ≠ nil then 22 else if (2 <= k /\ k <= 5) /\ ¬ (0 <= tb /\ tb <= 31) then 6 else if k = 1 /\ md ≠ 1 /\ md ≠ 2 then 1 else 0
theorem fault_in (b n : Nat) (k tb md ky vl : Int) (nm : Value) (pt : Option Addr) (w : World) (hbl : b < w.heap.size) (hk1 : 1 <= k) (hk2 : k <= 10) (hn1 : 1 <= n) (hn2 : n <= 4) (c0 : w.cell? ⟨b, 66 + n, none⟩ = some (.pointer pt)) :
 Calls Tryz.prog 42 #[.pointer (some ⟨b, 0, none⟩), .agg #[.int .i64 k, .int .i64 (n : Int), .int .i64 tb, .int .i64 ky, .int .i64 vl, .int .i64 md, nm]] w fun e w' => e = .returned (.int .i64 (faultC k n tb md pt.isNone)) /\ Below w.heap.size w w' := by
 have hi1 : (1 : Int) <= (n : Int) := by omega
 have hi2 : (n : Int) <= 4 := by omega
 have hi3 : (n : Int) < 5 := by omega
 have hi4 : (0 : Int) <= (n : Int) := by omega
 have hnb : ¬ w.heap.size = b := by omega
 have hnb2 : ¬ b = w.heap.size := by omega
 have hkc : k = 1 \/ (2 <= k /\ ¬ k = 1 /\ (k == 1) = false) := by
  rcases Int.lt_or_le k 2 with z | z
  .exact .inl (by omega)
  .exact .inr ⟨z, by omega, beq_eq_false_iff_ne.2 (by omega)⟩
 rcases hkc with rfl | ⟨hk3, hk4, hk5⟩ <;> cases pt
 all_goals
  go_enter Tryz.func42, Tryz.ntmps42
  go_wp2
  go_quiet (fail)
  go_wp2
 all_goals first | (refine bodyPost_ret (v := .int .i64 0) (by simp [results, Tryz.results42, go_sem]) rfl ?_; (refine ⟨congrArg (fun z => Ending.returned (Value.int .i64 z)) ?_, below_drewN (below_alloc w _) _⟩; unfold faultC; (repeat' split) <;> first | rfl | omega | (simp at *; omega) | (simp_all; done) | (simp_all; omega))) | (refine bodyPost_ret (v := .int .i64 1) (by simp [results, Tryz.results42, go_sem]) rfl ?_; (refine ⟨congrArg (fun z => Ending.returned (Value.int .i64 z)) ?_, below_drewN (below_alloc w _) _⟩; unfold faultC; (repeat' split) <;> first | rfl | omega | (simp at *; omega) | (simp_all; done) | (simp_all; omega))) | (refine bodyPost_ret (v := .int .i64 6) (by simp [results, Tryz.results42, go_sem]) rfl ?_; (refine ⟨congrArg (fun z => Ending.returned (Value.int .i64 z)) ?_, below_drewN (below_alloc w _) _⟩; unfold faultC; (repeat' split) <;> first | rfl | omega | (simp at *; omega) | (simp_all; done) | (simp_all; omega))) | (refine bodyPost_ret (v := .int .i64 22) (by simp [results, Tryz.results42, go_sem]) rfl ?_; (refine ⟨congrArg (fun z => Ending.returned (Value.int .i64 z)) ?_, below_drewN (below_alloc w _) _⟩; unfold faultC; (repeat' split) <;> first | rfl | omega | (simp at *; omega) | (simp_all; done) | (simp_all; omega)))
theorem fault_out (b : Nat) (k se tb md ky vl : Int) (nm : Value) (nil : Bool) (w : World) (hout : (k < 1 \/ 10 < k) \/ (1 <= k /\ k <= 10 /\ (se < 1 \/ 4 < se))) :
 Calls Tryz.prog 42 #[.pointer (some ⟨b, 0, none⟩), .agg #[.int .i64 k, .int .i64 se, .int .i64 tb, .int .i64 ky, .int .i64 vl, .int .i64 md, nm]] w fun e w' => e = .returned (.int .i64 (faultC k se tb md nil)) /\ Below w.heap.size w w' := by
 have e1 : faultC k se tb md nil = 1 := by unfold faultC; rw [if_pos (by omega)]
 rw [e1]
 clear e1
 rcases hout with (h | h) | ⟨h1, h2, h | h⟩
 .have n1 : ¬ 1 <= k := by omega
  go_enter Tryz.func42, Tryz.ntmps42
  go_wp2
  all_goals (refine bodyPost_ret (v := .int .i64 1) (by simp [results, Tryz.results42, go_sem]) rfl ⟨rfl, bl⟩)
 .have n1 : ¬ k <= 10 := by omega
  have n2 : 1 <= k := by omega
  go_enter Tryz.func42, Tryz.ntmps42
  go_wp2
  all_goals (refine bodyPost_ret (v := .int .i64 1) (by simp [results, Tryz.results42, go_sem]) rfl ⟨rfl, bl⟩)
 .have n1 : ¬ 1 <= se := by omega
  go_enter Tryz.func42, Tryz.ntmps42
  go_wp2
  all_goals (refine bodyPost_ret (v := .int .i64 1) (by simp [results, Tryz.results42, go_sem]) rfl ⟨rfl, bl⟩)
 .have n1 : ¬ se <= 4 := by omega
  have n2 : 1 <= se := by omega
  go_enter Tryz.func42, Tryz.ntmps42
  go_wp2
  all_goals (refine bodyPost_ret (v := .int .i64 1) (by simp [results, Tryz.results42, go_sem]) rfl ⟨rfl, bl⟩)
def setLs : List Value -> Nat -> List Value -> List Value
 | xs, _, [] => xs
 | xs, o, v :: r => setLs (xs.set o v) (o + 1) r
theorem setLs_all : ∀ (vs pre rest : List Value), vs.length = rest.length -> setLs (pre ++ rest) pre.length vs = pre ++ vs
 | [], pre, rest, h => by
   have : rest = [] := List.length_eq_zero_iff.1 h.symm
   subst this
   rfl
 | v :: r, pre, [], h => by simp at h
 | v :: r, pre, y :: ys, h => by
   have := setLs_all r (pre ++ [v]) ys (by simpa using h)
   unfold setLs
   rw [List.set_append_right _ _ (Nat.le_refl _), Nat.sub_self, List.set_cons_zero]
   rw [List.append_assoc, List.length_append] at this
   rw [List.append_assoc] at this
   exact this
theorem own_setCells {B e K n g c : Nat} : ∀ (vs : List Value) (o : Nat) (w : World) (xs : List Value), w.ownsRow B e K (.slice (some ⟨g, 0, none⟩) n c) n xs -> (w.setCells g o vs).ownsRow B e K (.slice (some ⟨g, 0, none⟩) n c) n (setLs xs o vs)
 | [], _, _, _, h => h
 | v :: r, o, w, xs, h => own_setCells r (o + 1) (w.setCell ⟨g, o, none⟩ v) (xs.set o v) (own_setJ h o v)
theorem fr_setCells (g : Nat) : ∀ (vs : List Value) (o : Nat) (w : World), Fr (fun q => q = g) w (w.setCells g o vs)
 | [], _, w => Fr.refl _ w
 | v :: r, o, w => (Fr.setCell w g o v).trans (fr_setCells g r (o + 1) _)
theorem own_cut {B e K n n' g c : Nat} {w : World} {xs : List Value} (h : w.ownsRow B e K (.slice (some ⟨g, 0, none⟩) n c) n xs) (hn : n' <= n) : w.ownsRow B e K (.slice (some ⟨g, 0, none⟩) n' c) n' (xs.take (n' * K)) := by
 obtain ⟨h1, h2⟩ := h
 have hle : n' * K <= n * K := Nat.mul_le_mul_right K hn
 refine ⟨by rw [List.length_take, h1]; omega, ?_⟩
 rcases h2 with ⟨h2, _⟩ | ⟨g', cap, cur, h2, h3, h4, h5, h6, h7, h8⟩
 .cases h2
 .injection h2 with h2 _ hc
  injection h2 with h2
  injection h2 with h2 _ _
  subst h2 hc
  refine .inr ⟨g, c, cur, rfl, h3, h4, by omega, h6, h7, ?_⟩
  rw [<- h8, List.take_take, Nat.min_eq_left hle]
theorem del_int (B : Nat) (v : Value) (xs : List Int) (i : Nat) (w : World) (hrow : w.ownsRow B 3 1 v xs.length (xs.map (Value.int .i64))) (hi : i < xs.length) (hn : xs.length <= 1048576) :
 Calls Tryz.prog 86 #[v, .int .i64 (i : Int), .int .i64 ((i : Int) + 1)] w fun en w' => ∃ a c, en = .returned (.slice a (xs.length - 1) c) /\ w'.ownsRow B 3 1 (.slice a (xs.length - 1) c) (xs.length - 1) ((xs.take i ++ xs.drop (i + 1)).map (Value.int .i64)) /\ (Value.slice a (xs.length - 1) c).ownBlock = v.ownBlock /\ Fr (fun g => v.ownBlock = some g) w w' := by
 obtain ⟨g, c, hv, hgc, hgm, hgl⟩ := own_shape hrow (by omega)
 have hm : c <= 9223372036854775807 := by have : maxLen <= 9223372036854775807 := (by decide); omega
 have hd := Tryz.slices_Delete_int_cells g 0 xs.length c i (i + 1) xs w (Nat.le_refl _) hgc hm (by omega) (by omega) (fun j hj => by
  rw [Nat.zero_add]
  exact own_cells hrow hv (by rw [List.getElem?_map, List.getElem?_eq_getElem hj, Option.map_some, List.getD_eq_getElem?_getD, List.getElem?_eq_getElem hj]; rfl)) (fun j hj => by rw [Nat.zero_add]; exact own_unfro hrow hv j)
 rw [show ((i + 1 : Nat) : Int) = (i : Int) + 1 from rfl] at hd
 rw [hv]
 refine hd.mono ?_
 rintro en w' ⟨rfl, q, rfl⟩
 have hsub : xs.length - (i + 1 - i) = xs.length - 1 := by omega
 rw [hsub]
 have hL : (((xs.take xs.length).take i ++ (xs.take xs.length).drop (i + 1) ++ List.replicate (i + 1 - i) 0).map (Value.int .i64)) = (xs.take i ++ xs.drop (i + 1)).map (Value.int .i64) ++ [.int .i64 0] := by
  rw [List.take_length, show i + 1 - i = 1 by omega]; simp
 rw [hL]
 have hlen : (xs.take i ++ xs.drop (i + 1)).length = xs.length - 1 := by rw [List.length_append, List.length_take, List.length_drop]; omega
 have b1 := below_drewNt w q
 have h1 := own_below hrow b1
 rw [hv] at h1
 have h2 := own_setCells ((xs.take i ++ xs.drop (i + 1)).map (Value.int .i64) ++ [.int .i64 0]) 0 (w.drewN q) _ h1
 have h3 := setLs_all ((xs.take i ++ xs.drop (i + 1)).map (Value.int .i64) ++ [.int .i64 0]) [] (xs.map (Value.int .i64)) (by rw [List.length_append, List.length_map, hlen, List.length_map, List.length_singleton]; omega)
 rw [List.nil_append, List.nil_append, List.length_nil] at h3
 rw [h3] at h2
 have h4 := own_cut h2 (n' := xs.length - 1) (by omega)
 rw [Nat.mul_one, List.take_append_of_le_length (by rw [List.length_map, hlen]; exact Nat.le_refl _), List.take_of_length_le (l := (xs.take i ++ xs.drop (i + 1)).map (Value.int .i64)) (by rw [List.length_map, hlen]; exact Nat.le_refl _)] at h4
 refine ⟨_, _, rfl, h4, rfl, ?_⟩
 exact (Fr.of_below _ b1).trans ((fr_setCells g _ 0 _).mono (fun z hz => by rw [hz]; rfl))
end Go.Proofs.YtblkgicbimflhaaGreat
