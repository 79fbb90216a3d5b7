import Derived.Test.YtbndliedcanmgaaRQL0
namespace Go.Proofs.YtbndliedcanmgaaR
open Go.ChangeShapes Go.WideShapes Go.ChangeAt Go.RowKit
set_option linter.unusedVariables false
set_option linter.unusedSimpArgs false
set_option maxRecDepth 100000
def PoolA (L : List POut) (cd : Int) (w : World) (e : Ending) (w' : World) : Prop := ∃ v ps, e = .returned (.tuple #[v, .int .i64 cd]) ∧ OutR w.heap.size w' v ps ∧ RS 3 CPr 0 w' v L ∧ Below w.heap.size w w' ∧ ps.length ≤ 4000 ∧ (∀ x ∈ ps, x.2.all.length ≤ 2400) ∧ ps.map Prod.snd = L
set_option maxHeartbeats 8000000 in
theorem pool_law (la : Option Addr) (lc : Nat) (us : List POp) (w : World) (hus : us.length ≤ maxLen) (hv : RS 2 CPo 0 w (.slice la us.length lc) us) :
    Calls Try.prog 4 #[.slice la us.length lc] w fun e w' => e = .returned (.bool true) ∧ Below w.heap.size w w' := by
  have HV : Hid (RS 2 CPo 0 w (.slice la us.length lc) us) := hv
  have hs1 := szPoS_any la us.length lc 1048576 w (by omega) (by omega) hus
  obtain ⟨⟨L, cd⟩, hLc⟩ : ∃ z, poolF us = z := ⟨_, rfl⟩
  have hlen := poolF_len us
  rw [hLc] at hlen
  have HBL : Hid (L.length ≤ 1048576 ∧ ∀ t ∈ L, BPr 1048576 t) := (⟨by have := hlen.1; simp only at this; omega, fun t ht => by have := hlen.2 t ht; unfold BPr; omega⟩ : L.length ≤ 1048576 ∧ ∀ t ∈ L, BPr 1048576 t)
  have HSP : Hid (∀ (W : World) (a : Option Addr) (c : Nat), RS 2 CPo 0 W (.slice a us.length c) us → Calls Try.prog 6 #[.slice a us.length c] W fun e w' => PoolA L cd W e w') := (fun W a c hr => (poolRun_spec a c us W hr).mono fun e w' hp => by
    obtain ⟨v, ps, h1, h2, h3, h4, h5, h6, h7⟩ := hp.all
    rw [hLc] at h1 h3 h7
    exact ⟨v, ps, h1, h2, h3, h4, h5, h6, h7⟩ : ∀ (W : World) (a : Option Addr) (c : Nat), RS 2 CPo 0 W (.slice a us.length c) us → Calls Try.prog 6 #[.slice a us.length c] W fun e w' => PoolA L cd W e w')
  have HIM : Hid (∀ (W : World) (a : Option Addr) (c : Nat), RS 2 CPo 0 W (.slice a us.length c) us → Calls Try.prog 7 #[.slice a us.length c] W fun e w' => PoolA L cd W e w') := (fun W a c hr => (poolRun_impl a c us W hr).mono fun e w' hp => by
    obtain ⟨v, ps, h1, h2, h3, h4, h5, h6, h7⟩ := hp.all
    rw [hLc] at h1 h3 h7
    exact ⟨v, ps, h1, h2, h3, h4, h5, h6, h7⟩ : ∀ (W : World) (a : Option Addr) (c : Nat), RS 2 CPo 0 W (.slice a us.length c) us → Calls Try.prog 7 #[.slice a us.length c] W fun e w' => PoolA L cd W e w')
  clear hLc hlen hv hus
  go_enter Try.func4, Try.ntmps4
  go_wp2_with (go_at_call 8; fail)
  refine hs1.mono ?_
  rintro e w1 ⟨hsz, hw1⟩
  replace hw1 := hw1.symm
  subst hw1
  rcases hsz with rfl | ⟨m, hm, rfl, hn⟩
  · clear hs1
    go_wp2
    go_ret
    exact ⟨rfl, Below.refl _ _⟩
  have hm0 : ¬ (m : Int) < 0 := by omega
  have HBO : Hid (us.length ≤ 1048576 ∧ ∀ t ∈ us, BPo 1048576 t) := (⟨hn, fun _ _ => trivial⟩ : us.length ≤ 1048576 ∧ ∀ t ∈ us, BPo 1048576 t)
  have ht9 := fun W (h : Below w.heap.size w W) => toPoS_w la lc us W HBO.out (HV.out.below liesPo h)
  have bw1 : Below w.heap.size w w := Below.refl _ _
  clear hs1 hm
  go_wp2_with (go_at_call 9; fail)
  refine (ht9 _ bw1).mono ?_
  rintro e w2 ⟨rfl, hr2, hb2, _, _⟩
  have bw2 : Below w.heap.size w w2 := bw1.trans (hb2.mono bw1.size)
  have hsp := HSP.out w2 _ _ (hr2.mono liesPo (Nat.zero_le _))
  clear hr2 hb2 hm0
  go_wp2_with (go_at_call 6; fail)
  refine hsp.mono ?_
  rintro e w3 ⟨v3, ps3, rfl, _, hr3, hb3, _, _, _⟩
  have bw3 : Below w.heap.size w w3 := bw2.trans (hb3.mono bw2.size)
  have HR33 := hid hr3
  have HBW3 := hid bw3
  obtain ⟨wa, wc, rfl, _⟩ := hr3
  clear hsp hb3 bw1 bw2
  go_wp2_with (go_at_call 9; fail)
  refine (ht9 _ bw3).mono ?_
  rintro e w4 ⟨rfl, hr4, hb4, hfz4, hlt4⟩
  have bw4 : Below w.heap.size w w4 := bw3.trans (hb4.mono bw3.size)
  have HR34 := hid (HR33.out.below liesPr hb4)
  have HB34 := hid hb4
  have HR4 := hid hr4
  have HFZ4 := hid hfz4
  have him := HIM.out w4 _ _ (hr4.mono liesPo (Nat.zero_le _))
  obtain ⟨gx, hgx⟩ : ∃ x, x = w3.heap.size := ⟨_, rfl⟩
  rw [← hgx] at him HR4 HB34 HFZ4 hlt4 ⊢
  have HGX : Hid (w.heap.size ≤ gx) := (by rw [hgx]; exact bw3.size : w.heap.size ≤ gx)
  have HG3 := hid hgx
  clear hr4 hb4 hgx hfz4
  go_wp2_with (go_at_call 7; fail)
  refine him.mono ?_
  rintro e w5 ⟨v5, ps, rfl, ho5, hr5, hb5, hpl, hpm, hpe⟩
  have HPE := hid hpe
  have HPM := hid hpm
  have bw5 : Below w.heap.size w w5 := bw4.trans (hb5.mono bw4.size)
  have HO5 := hid ho5
  obtain ⟨ga, gc, rfl⟩ := ho5.form
  have hgl : ps.length = L.length := by
    obtain ⟨a', c', h1, _⟩ := hr5
    simp only [Value.slice.injEq] at h1
    exact h1.2.1
  have HR45 := hid (HR4.out.below liesPo hb5)
  have HB5 := hid hb5
  have HR35 := hid (HR34.out.below liesPr hb5)
  have he1 := eqPrS_same _ _ L w5 HBL.out hr5 HR35.out
  have HGL := hid hgl
  clear him hb5 hr5 HR34 hpm ho5 hgl hpe
  go_wp2_with (go_at_call 10; fail)
  refine he1.mono ?_
  rintro e w6 ⟨rfl, hb6⟩
  have bw6 : Below w.heap.size w w6 := bw5.trans (hb6.mono bw5.size)
  replace HO5 := hid (HO5.out.below (hb6))
  replace HR45 := hid (HR45.out.below liesPo hb6)
  have HB6 : Hid (Below w4.heap.size w4 w6) := HB5.out.trans (hb6.mono HB5.out.size)
  clear he1 hb6 HR35 HB5 bw5 bw4 bw3
  go_wp2_with (go_at_call 9; fail)
  refine (ht9 _ bw6).mono ?_
  rintro e w7 ⟨rfl, hr7, hb7, _, _⟩
  have bw7 : Below w.heap.size w w7 := bw6.trans (hb7.mono bw6.size)
  replace HO5 := hid (HO5.out.below hb7)
  have HB7 : Hid (Below w4.heap.size w4 w7) := HB6.out.trans (hb7.mono HB6.out.size)
  have he2 := eqPoS_same _ _ us w7 HBO.out ((HR45.out.below liesPo hb7).mono liesPo (Nat.zero_le _)) (hr7.mono liesPo (Nat.zero_le _))
  clear hb7 hr7 HR45 HB6 bw6
  go_wp2_with (go_at_call 11; fail)
  refine he2.mono ?_
  rintro e w8 ⟨rfl, hb8⟩
  replace HO5 := hid (HO5.out.below hb8)
  have hb48 : Below w4.heap.size w4 w8 := HB7.out.trans (hb8.mono HB7.out.size)
  have X8 : Below gx w3 w8 := HB34.out.trans (hb48.mono (by omega))
  have hrm : ∀ j, j < us.length * 2 → (∃ x, w8.cell? ⟨gx, j, none⟩ = some (.int .i64 x)) ∧ w8.frozen? ⟨gx, j, none⟩ = false := fun j hj => by
    refine ⟨?_, (hb48.frozen (p := ⟨gx, j, none⟩) hlt4).trans (HFZ4.out j)⟩
    rw [hb48.cell (p := ⟨gx, j, none⟩) hlt4]
    obtain ⟨g', o', h1, _, _, h4⟩ := po_at (HR4.out.mono liesPo (Nat.zero_le _)) (by omega)
    simp only [Option.some.injEq, Addr.mk.injEq] at h1
    obtain ⟨rfl, rfl, _⟩ := h1
    have h5 := h4 (j / 2) (by omega)
    rcases Nat.mod_two_eq_zero_or_one j with hm | hm
    · exact ⟨_, (by rw [show j = 0 + j / 2 * 2 by omega]; exact h5.1)⟩
    · exact ⟨_, (by rw [show j = 0 + j / 2 * 2 + 1 by omega]; exact h5.2)⟩
  have hmk := markPo_any gx us.length us.length 1 w8 w3 gx (by omega) (by omega) X8 (Nat.le_refl _) hrm
  clear he2 hb8 HB7 hb48 HB34 X8 bw7 hrm HR4 HFZ4
  go_wp2_with (go_at_call 12; fail)
  refine hmk.mono ?_
  rintro e w9 ⟨rfl, X9, hm9⟩
  obtain ⟨k9, hk9, hk9n⟩ : ∃ z : Int, (1 + 2 * (us.length : Int)) = z ∧ ¬ z < 0 := ⟨_, rfl, by omega⟩
  rw [hk9]
  replace HO5 := hid (HO5.out.blk (fun j hj => hm9.block j (by omega)))
  have Y9 : Below w3.heap.size w3 w9 := (by rw [← HG3.out]; exact X9)
  have HR39 := hid (HR33.out.below liesPr Y9)
  have hr59 : RS 3 CPr 0 w9 (.slice ga ps.length gc) L := (by have := HO5.out.rs; rwa [HPE.out] at this)
  have he3 := eqPrS_same _ _ L w9 HBL.out hr59 HR39.out
  have hx9 : gx ≤ w9.heap.size := by have := Y9.size; have := HG3.out; omega
  clear hmk hm9 HR39 Y9 hr59 hk9
  go_wp2_with (go_at_call 10; fail)
  refine he3.mono ?_
  rintro e w10 ⟨rfl, hb10⟩
  replace HO5 := hid (HO5.out.below hb10)
  have X10 : Below gx w3 w10 := X9.trans (hb10.mono hx9)
  have hmi := markP_all _ ps w10 w3 gx w4.heap.size HPM.out hpl X10 (by omega) HO5.out
  clear he3 hb10 X9 hx9 HO5 X10
  go_wp2_with (go_at_call 13; fail)
  refine hmi.mono ?_
  rintro e w11 ⟨rfl, X11, hT⟩
  have HT := hid hT
  obtain ⟨mm, hmm⟩ : ∃ x : Nat, (1 : Int) + kO ps ps.length = x := ⟨1 + kO ps ps.length, by omega⟩
  have hhe := heldP_all _ ps w11 HPM.out hpl hT
  rw [hmm] at hhe ⊢
  have hmm0 : ¬ (mm : Int) < 0 := by omega
  have HMM := hid hmm
  clear hmi hT hmm
  go_wp2_with (go_at_call 14; fail)
  refine hhe.mono ?_
  rintro e w11' ⟨rfl, hww⟩
  replace hww := hww.symm
  subst hww
  have bw11 : Below w.heap.size w w11 := HBW3.out.trans (X11.mono HGX.out)
  have Y11 : Below w3.heap.size w3 w11 := (by rw [← HG3.out]; exact X11)
  have HR311 := hid (HR33.out.below liesPr Y11)
  clear hhe Y11 X11
  go_wp2_with (go_at_call 9; fail)
  refine (ht9 _ bw11).mono ?_
  rintro e w12 ⟨rfl, hr12, hb12, _, _⟩
  have bw12 : Below w.heap.size w w12 := bw11.trans (hb12.mono bw11.size)
  replace HT := hid (HT.out.below hb12)
  replace HR311 := hid (HR311.out.below liesPr hb12)
  have him2 := HIM.out w12 _ _ (hr12.mono liesPo (Nat.zero_le _))
  clear hr12 hb12 bw11
  go_wp2_with (go_at_call 7; fail)
  refine him2.mono ?_
  rintro e w13 ⟨v13, ps13, rfl, ho13, hr13, hb13, _, _, _⟩
  have bw13 : Below w.heap.size w w13 := bw12.trans (hb13.mono bw12.size)
  replace HT := hid (HT.out.below hb13)
  replace HR311 := hid (HR311.out.below liesPr hb13)
  have he4 := eqPrS_same _ _ L w13 HBL.out hr13 HR311.out
  obtain ⟨ha, hc, rfl⟩ := ho13.form
  clear him2 hb13 bw12 HR311 ho13 hr13
  go_wp2_with (go_at_call 10; fail)
  refine he4.mono ?_
  rintro e w14 ⟨rfl, hb14⟩
  have bw14 : Below w.heap.size w w14 := bw13.trans (hb14.mono bw13.size)
  have hhe2 := heldP_all _ ps w14 HPM.out hpl (HT.out.below hb14)
  rw [HMM.out] at hhe2
  clear he4 hb14 bw13 HT
  go_wp2_with (go_at_call 14; fail)
  refine hhe2.mono ?_
  rintro e w15 ⟨rfl, hww⟩
  replace hww := hww.symm
  subst hww
  go_wp2
  go_ret
  exact ⟨rfl, bw14⟩
end Go.Proofs.YtbndliedcanmgaaR
