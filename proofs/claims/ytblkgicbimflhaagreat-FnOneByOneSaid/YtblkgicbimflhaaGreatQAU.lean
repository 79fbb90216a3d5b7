import Derived.Test.YtblkgicbimflhaaGreatQAM
import Derived.Test.YtblkgicbimflhaaGreatQAT
namespace Go.Proofs.YtblkgicbimflhaaGreat
open Go.ChangeShapes Go.WideShapes Go.ChangeAt Go.RowKit
set_option linter.unusedVariables false
set_option linter.unusedSimpArgs false
set_option maxRecDepth 100000
set_option maxHeartbeats 16000000
def byteF (bs : List Int) (z : Int × Int) : Int × (Int × Int) :=
 if 200 + 40 * (bs.length : Int) < z.1 + 1 then (0, (z.1 + 1, z.2))
 else if (bs.length : Int) < z.1 + 1 then ((z.2 * 1103515245 + 12345) % 2147483648 / 65536 % 256, (z.1 + 1, (z.2 * 1103515245 + 12345) % 2147483648))
 else (bs.getD z.1.toNat 0, (z.1 + 1, (z.2 * 31 + bs.getD z.1.toNat 0 + 7) % 2147483648))
def pickF (bs : List Int) (z : Int × Int) (n : Int) : Int × (Int × Int) := ((byteF bs z).1 % n, (byteF bs z).2)
def BytesF (bs : List Int) (w : World) (c : Nat) (v0 : Option Addr) : Prop := ∀ j, j < bs.length -> ∃ g o b, v0 = some ⟨g, o, none⟩ /\ g < c /\ w.cell? ⟨g, o + j, none⟩ = some (.int .u8 b) /\ b = bs.getD j 0
theorem BytesF.upd {bs : List Int} {w w' : World} {c : Nat} {v0 : Option Addr} (h : BytesF bs w c v0) (u : Upd c w w') (hc : c < w.heap.size) : BytesF bs w' c v0 := fun j hj => by
 obtain ⟨g, o, b, e1, e2, e4, e5⟩ := h j hj
 exact ⟨g, o, b, e1, e2, (u.cell (p := ⟨g, o + j, none⟩) (Nat.lt_trans e2 hc) (Nat.ne_of_lt e2)).trans e4, e5⟩
theorem BytesF.same {bs : List Int} {w w' : World} {c : Nat} {v0 : Option Addr} (h : BytesF bs w c v0) (u : ∀ k, k < c -> w'.heap[k]? = w.heap[k]?) : BytesF bs w' c v0 := fun j hj => by
 obtain ⟨g, o, b, e1, e2, e4, e5⟩ := h j hj
 exact ⟨g, o, b, e1, e2, (World.cell?_of_block (w := w) (u g e2)).trans e4, e5⟩
def CurF (bs : List Int) (z : Int × Int) (w : World) (c : Nat) (A : Int) : Prop := ∃ v0 cap room, Cur w c A v0 bs.length cap z.1 z.2 room /\ BytesF bs w c v0
theorem CurF.lt {bs : List Int} {z : Int × Int} {w : World} {c : Nat} {A : Int} (h : CurF bs z w c A) : c < w.heap.size := by
 obtain ⟨_, _, _, hC, _⟩ := h
 exact hC.lt
theorem CurF.same {bs : List Int} {z : Int × Int} {w w' : World} {c : Nat} {A : Int} (h : CurF bs z w c A) (u : ∀ k, k <= c -> w'.heap[k]? = w.heap[k]?) (hz : c < w'.heap.size) : CurF bs z w' c A := by
 obtain ⟨v0, cap, room, hC, hB⟩ := h
 have hb := u c (Nat.le_refl _)
 exact ⟨v0, cap, room, ⟨(World.cell?_of_block (w := w) (a := ⟨c, 0, none⟩) hb).trans hC.c0, (World.cell?_of_block (w := w) (a := ⟨c, 1, none⟩) hb).trans hC.c1, (World.cell?_of_block (w := w) (a := ⟨c, 2, none⟩) hb).trans hC.c2, (World.cell?_of_block (w := w) (a := ⟨c, 3, none⟩) hb).trans hC.c3, (World.frozen?_of_block (w := w) (a := ⟨c, 1, none⟩) hb).trans hC.f1, (World.frozen?_of_block (w := w) (a := ⟨c, 2, none⟩) hb).trans hC.f2, hC.a0, hC.a1, hC.s0, hC.s1, hC.ln, hz, hC.bs.same (fun k hk => u k (Nat.le_of_lt hk))⟩, hB.same (fun k hk => u k (Nat.le_of_lt hk))⟩
theorem CurF.more {bs : List Int} {z : Int × Int} {w : World} {c : Nat} {A : Int} (h : CurF bs z w c A) (B : Int) (hAB : A <= B) : CurF bs z w c B := by
 obtain ⟨v0, cap, room, hC, hB⟩ := h
 exact ⟨v0, cap, room, ⟨hC.c0, hC.c1, hC.c2, hC.c3, hC.f1, hC.f2, hC.a0, Int.le_trans hC.a1 hAB, hC.s0, hC.s1, hC.ln, hC.lt, hC.bs⟩, hB⟩
theorem CurF.alloc {bs : List Int} {z : Int × Int} {w : World} {c : Nat} {A : Int} (h : CurF bs z w c A) (o : Obj) : CurF bs z (w.alloc o) c A := h.same (fun k hk => Below.heap_alloc w o k (by have := h.lt; omega)) (by have := h.lt; simp; omega)
theorem byte_fn (bs : List Int) (z : Int × Int) (c : Nat) (A : Int) (w : World) (h : CurF bs z w c A) (hA : A <= 1000000000) : Calls Tryz.prog 54 #[.pointer (some ⟨c, 0, none⟩)] w fun e w' => ∃ r z', 0 <= r /\ r < 256 /\ Hid (byteF bs z = (r, z')) /\ e = .returned (.int .i64 r) /\ CurF bs z' w' c (A + 1) /\ Upd c w w' := by
 obtain ⟨v0, cap, room, hC, hBF⟩ := h
 obtain ⟨at', seed⟩ := z
 simp only at hC
 obtain ⟨len, hlen⟩ : ∃ n, n = bs.length := ⟨_, rfl⟩
 have HBF := hid hBF
 rw [<- hlen] at hC
 have HC : Hid (Cur w c A v0 len cap at' seed room) := hC
 obtain ⟨c0, c1, c2, c3, f1, f2, a0, a1, s0, s1, ln, lt, bbs⟩ := hC
 have hLE := hid hlen
 have HB : Hid (Bytes w c v0 len) := bbs
 clear bbs hlen hBF
 have MK : Hid (∀ (w' : World) (q : Int × Int), Cur w' c (A + 1) v0 len cap q.1 q.2 room -> Upd c w w' -> CurF bs q w' c (A + 1)) := hid (fun w' q h1 h2 => ⟨v0, cap, room, by rw [<- hLE.out]; exact h1, HBF.out.upd h2 lt⟩)
 by_cases h1 : 200 + 40 * (len : Int) < at' + 1
 .go_enter Tryz.func54, Tryz.ntmps54
  go_wp2
  go_quiet (fail)
  go_wp2
  go_ret
  exact ⟨0, (at' + 1, seed), by omega, by omega, hid (by unfold byteF; rw [<- hLE.out, if_pos h1]), rfl, MK.out _ (at' + 1, seed) (HC.out.at.drewN _) (((Upd.refl c w).setCell _ _).drewN _), ((Upd.refl c w).setCell _ _).drewN _⟩
 .by_cases h2 : (len : Int) < at' + 1
  .have HQ : Hid (byteF bs (at', seed) = ((seed * 1103515245 + 12345) % 2147483648 / 65536 % 256, (at' + 1, (seed * 1103515245 + 12345) % 2147483648))) := hid (by unfold byteF; rw [<- hLE.out, if_neg h1, if_pos h2])
   go_enter Tryz.func54, Tryz.ntmps54
   go_wp2
   go_quiet (fail)
   go_wp2
   go_quiet (fail)
   go_wp2
   go_ret
   refine ⟨(seed * 1103515245 + 12345) % 2147483648 / 65536 % 256, (at' + 1, (seed * 1103515245 + 12345) % 2147483648), by omega, by omega, HQ, ?_, MK.out _ (at' + 1, (seed * 1103515245 + 12345) % 2147483648) ((HC.out.at.seed ((seed * 1103515245 + 12345) % 2147483648) (by omega) (by omega)).drewN _) ((((Upd.refl c w).setCell _ _).setCell _ _).drewN _), (((Upd.refl c w).setCell _ _).setCell _ _).drewN _⟩
   first | rfl | (go_light; rfl)
  .have hj : at'.toNat < len := by omega
   obtain ⟨g, o, b, rfl, hgc0, hcell, hb0, hb1⟩ := HB.out at'.toNat hj
   obtain ⟨g2, o2, b2, e2, _, hcell2, hbe⟩ := HBF.out at'.toNat (by rw [<- hLE.out]; exact hj)
   cases e2
   rw [hcell] at hcell2
   simp at hcell2
   have HBE : Hid (bs.getD at'.toNat 0 = b) := hid (by rw [hcell2]; exact hbe.symm)
   clear hcell2 hbe
   have HQ : Hid (byteF bs (at', seed) = (b, (at' + 1, (seed * 31 + b + 7) % 2147483648))) := hid (by unfold byteF; simp only; rw [<- hLE.out, if_neg h1, if_neg h2, HBE.out])
   have hgc : g ≠ c := Nat.ne_of_lt hgc0
   clear hgc0
   have e1 : ((at'.toNat : Nat) : Int) = at' := by omega
   go_enter Tryz.func54, Tryz.ntmps54
   go_wp2
   go_quiet (fail)
   go_wp2
   go_quiet (fail)
   go_wp2
   have hcell' : ∀ n, ((w.setCell ⟨c, 1, none⟩ (.int .i64 (at' + 1))).drewN n).cell? ⟨g, o + at'.toNat, none⟩ = some (.int .u8 b) := fun n => by simp [go_sem, *]
   have hi0 : 0 <= at' + 1 - 1 := by omega
   have hi1 : at' + 1 - 1 < (len : Int) := by omega
   go_region
   all_goals
    go_wp2
    go_quiet (fail)
    go_wp2
    go_ret
    refine ⟨b, (at' + 1, (seed * 31 + b + 7) % 2147483648), hb0, hb1, HQ, ret_int ?_, MK.out _ (at' + 1, (seed * 31 + b + 7) % 2147483648) ((((HC.out.at).drewN _).seed _ (by omega) (by omega)).drewN _) (((((Upd.refl c w).setCell _ _).drewN _).setCell _ _).drewN _), ((((Upd.refl c w).setCell _ _).drewN _).setCell _ _).drewN _⟩
    go_light
    first | rfl | omega
def DrawnF (bs : List Int) (z : Int × Int) (c : Nat) (A : Int) (n : Int) (w : World) (e : Ending) (w' : World) : Prop := ∃ r z', 0 <= r /\ r < n /\ Hid (pickF bs z n = (r, z')) /\ e = .returned (.int .i64 r) /\ CurF bs z' w' c A /\ Upd c w w'
theorem pick_fn (bs : List Int) (z : Int × Int) (c : Nat) (A n : Int) (w : World) (h : CurF bs z w c A) (hA : A <= 100000000) (h1 : 2 <= n) (h2 : n <= 256) : Calls Tryz.prog 28 #[.pointer (some ⟨c, 0, none⟩), .int .i64 n] w fun e w' => DrawnF bs z c (A + 2) n w e w' := by
 go_enter Tryz.func28, Tryz.ntmps28
 go_wp2_with fail
 refine (byte_fn bs z c A _ h (by omega)).mono ?_
 rintro e w1 ⟨r, z', r0, r1, hq, rfl, hc1, hu1⟩
 have hm0 : 0 <= r % n := Int.emod_nonneg _ (by omega)
 have hm1 : r % n < n := Int.emod_lt_of_pos _ (by omega)
 have hn0 : (n == 0) = false := by rw [beq_eq_false_iff_ne]; omega
 go_wp2
 go_ret
 exact ⟨_, z', by omega, by omega, hid (by unfold pickF; rw [hq.out]), rfl, hc1.more _ (by omega), hu1⟩
theorem CurF.new {bs : List Int} {z : Int × Int} {c g : Nat} {A : Int} {W W' : World} (h : CurF bs z W c A) (k : Upd g W W') (hg : c < g) : CurF bs z W' c A := h.same (fun j hj => k.block j (by have := h.lt; omega) (by omega)) (Nat.lt_of_lt_of_le h.lt k.size)
def nmF (k : Nat) : ByteArray := if k = 0 then ⟨#[97]⟩ else ⟨#[98]⟩
def opF (bs : List Int) (z : Int × Int) : Opn × (Int × Int) :=
 let p1 := pickF bs z 3
 let p2 := pickF bs p1.2 3
 let p3 := pickF bs p2.2 3
 let p4 := pickF bs p3.2 99
 let p5 := pickF bs p4.2 16
 let p6 := pickF bs p5.2 2
 (⟨kinds16.getD p5.1.toNat 0, 1 + p1.1, p2.1, p3.1, 1 + p4.1, if kinds16.getD p5.1.toNat 0 = 1 then 2 else 0, nmF p6.1.toNat⟩, p6.2)
theorem drawOp_fn (bs : List Int) (z : Int × Int) (c : Nat) (A : Int) (w : World) (h : CurF bs z w c A) (hA : A <= 10000000) :
 Calls Tryz.prog 37 #[.pointer (some ⟨c, 0, none⟩), .int .i64 2] w fun e w' => ∃ (o : Opn) (z' : Int × Int), Hid (opF bs z = (o, z')) /\ e = .returned (opV o) /\ DOp o /\ CurF bs z' w' c (A + 14) /\ Upd c w w' := by
 have hcl := h.lt
 obtain ⟨w0, hw0⟩ : ∃ z, z = w.alloc (.cells #[.int .i64 0, .int .i64 0, .int .i64 0, .int .i64 0, .int .i64 0, .int .i64 0, .string ⟨#[]⟩] 41) := ⟨_, rfl⟩
 have u0 : Upd c w w0 := by rw [hw0]; exact Upd.of_below (below_alloc _ _)
 have K0 : Blk w0 w.heap.size [.int .i64 0, .int .i64 0, .int .i64 0, .int .i64 0, .int .i64 0, .int .i64 0, .string ⟨#[]⟩] := by rw [hw0]; exact blk_new w [.int .i64 0, .int .i64 0, .int .i64 0, .int .i64 0, .int .i64 0, .int .i64 0, .string ⟨#[]⟩] _
 have hz0 : w.heap.size < w0.heap.size := by rw [hw0]; simp
 have i0 : CurF bs z w0 c A := by rw [hw0]; exact h.alloc _
 have HP := hid (pick_fn bs z c A 3 w0 i0 (by omega) (by omega) (by omega))
 have HK0 := hid K0
 have HU0 := hid u0
 clear h i0 K0 u0
 rw [hw0] at HP
 go_enter Tryz.func37, Tryz.ntmps37
 go_wp2_with (go_at_call 28; fail)
 rw [<- hw0] at HP ⊢
 clear hw0
 refine HP.out.mono ?_
 rintro e w1 ⟨r1, z1, a1, b1, q1, rfl, hc1, hu1⟩
 have HP := hid (pick_fn bs z1 c (A + 2) 3 w1 hc1 (by omega) (by omega) (by omega))
 have hs1 := hu1.size
 have HU1 := hid (HU0.out.trans hu1)
 have HK1 := hid (HK0.out.upd hu1 hz0 (by omega))
 clear hc1 hu1
 go_wp2_with (go_at_call 28; fail)
 refine HP.out.mono ?_
 rintro e w2 ⟨r2, z2, a2, b2, q2, rfl, hc2, hu2⟩
 have HP := hid (pick_fn bs z2 c (A + 2 + 2) 3 w2 hc2 (by omega) (by omega) (by omega))
 have hs2 := hu2.size
 have HU2 := hid (HU1.out.trans hu2)
 have HK2 := hid (HK1.out.upd hu2 (by omega) (by omega))
 clear hc2 hu2
 go_wp2_with (go_at_call 28; fail)
 refine HP.out.mono ?_
 rintro e w3 ⟨r3, z3, a3, b3, q3, rfl, hc3, hu3⟩
 have HP := hid (pick_fn bs z3 c (A + 2 + 2 + 2) 99 w3 hc3 (by omega) (by omega) (by omega))
 have hs3 := hu3.size
 have HU3 := hid (HU2.out.trans hu3)
 have HK3 := hid (HK2.out.upd hu3 (by omega) (by omega))
 clear hc3 hu3
 go_wp2_with (go_at_call 28; fail)
 refine HP.out.mono ?_
 rintro e w4 ⟨r4, z4, a4, b4, q4, rfl, hc4, hu4⟩
 have hs4 := hu4.size
 have HU4 := hid (HU3.out.trans hu4)
 have HK4 := hid (HK3.out.upd hu4 (by omega) (by omega))
 have HC4 := hid hc4
 clear hc4 hu4 HP HU0 HU1 HU2 HU3 HK0 HK1 HK2 HK3
 obtain ⟨w5, hw5⟩ : ∃ z, z = (w4.alloc (.cells #[.int .i64 0, .int .i64 (1 + r1), .int .i64 r2, .int .i64 r3, .int .i64 (1 + r4), .int .i64 0, .string ⟨#[]⟩] 41)).alloc (.cells #[.int .i64 1, .int .i64 1, .int .i64 2, .int .i64 2, .int .i64 3, .int .i64 3, .int .i64 4, .int .i64 4, .int .i64 4, .int .i64 5, .int .i64 6, .int .i64 6, .int .i64 7, .int .i64 8, .int .i64 9, .int .i64 10] 3) := ⟨_, rfl⟩
 have b5 : Below w4.heap.size w4 w5 := by rw [hw5]; exact (below_alloc _ _).trans ((below_alloc _ _).mono (by simp))
 have hz5 : w4.heap.size + 1 < w5.heap.size := by rw [hw5]; simp
 have KO5 : Blk w5 w4.heap.size [.int .i64 0, .int .i64 (1 + r1), .int .i64 r2, .int .i64 r3, .int .i64 (1 + r4), .int .i64 0, .string ⟨#[]⟩] := by rw [hw5]; exact (blk_new w4 [.int .i64 0, .int .i64 (1 + r1), .int .i64 r2, .int .i64 r3, .int .i64 (1 + r4), .int .i64 0, .string ⟨#[]⟩] _).below (below_alloc _ _) (by simp)
 have KR5 : Blk w5 (w4.heap.size + 1) (kinds16.map (Value.int .i64)) := by
  have := blk_new (w4.alloc (.cells #[.int .i64 0, .int .i64 (1 + r1), .int .i64 r2, .int .i64 r3, .int .i64 (1 + r4), .int .i64 0, .string ⟨#[]⟩] 41)) (kinds16.map (Value.int .i64)) 3
  have e : (w4.alloc (.cells #[.int .i64 0, .int .i64 (1 + r1), .int .i64 r2, .int .i64 r3, .int .i64 (1 + r4), .int .i64 0, .string ⟨#[]⟩] 41)).heap.size = w4.heap.size + 1 := by simp
  rw [e] at this
  rw [hw5]; exact this
 have i5 : CurF bs z4 w5 c (A + 2 + 2 + 2 + 2) := by rw [hw5]; exact (HC4.out.alloc _).alloc _
 have HP := hid (pick_fn bs z4 c (A + 2 + 2 + 2 + 2) 16 w5 i5 (by omega) (by omega) (by omega))
 have HU5 := hid (HU4.out.trans (Upd.of_below b5))
 have HK5 := hid (HK4.out.below b5 (by omega))
 have HKO := hid KO5
 have HKR := hid KR5
 have HW5 := hid hw5
 clear i5 b5 KO5 KR5 hw5 HC4 HU4 HK4
 rw [HW5.out] at HP
 go_wp2_with (go_at_call 28; fail)
 rw [<- HW5.out] at HP ⊢
 clear HW5
 refine HP.out.mono ?_
 rintro e w6 ⟨r6, z6, a6, b6, q6, rfl, hc6, hu6⟩
 obtain ⟨k6, rfl⟩ : ∃ k : Nat, r6 = k := ⟨r6.toNat, by omega⟩
 have hs6 := hu6.size
 obtain ⟨kd, hkd, kd1, kd2⟩ := kinds_at (k := k6) (by omega)
 have HKD : Hid (kinds16.getD k6 0 = kd) := hid (by
  rw [List.getElem?_map] at hkd
  rw [List.getD_eq_getElem?_getD]
  cases hq : kinds16[k6]? with
  | none => rw [hq] at hkd; cases hkd
  | some v => rw [hq] at hkd; simp at hkd; simpa using hkd)
 have HKO6 := hid (HKO.out.upd hu6 (by omega) (by omega))
 have KR6 := HKR.out.upd hu6 hz5 (by omega)
 have x6 : w6.cell? ⟨w4.heap.size + 1, k6, none⟩ = some (.int .i64 kd) := (KR6 k6 (by simp [kinds16]; omega)).1.trans hkd
 have y0 : w6.cell? ⟨w4.heap.size, 0, none⟩ = some (.int .i64 0) := (HKO6.out 0 (by simp)).1
 have z0 : w6.frozen? ⟨w4.heap.size, 0, none⟩ = false := (HKO6.out 0 (by simp)).2
 have HU6 := hid (HU5.out.trans hu6)
 have HK6 := hid (HK5.out.upd hu6 (by omega) (by omega))
 have HC6 := hid hc6
 clear hc6 hu6 HP HKO HKR KR6 HU5 HK5 hkd
 obtain ⟨w8, hw8⟩ : ∃ z, z = (w6.setCell ⟨w4.heap.size, 0, none⟩ (.int .i64 kd)).alloc (.cells #[.string ⟨#[97]⟩, .string ⟨#[98]⟩] 9) := ⟨_, rfl⟩
 have u8 : Upd w4.heap.size w6 w8 := by rw [hw8]; exact ((Upd.refl _ w6).setCell 0 (.int .i64 kd)).trans (Upd.of_below (below_alloc _ _))
 have hz8 : w6.heap.size < w8.heap.size := by rw [hw8]; simp
 have KO8 : Blk w8 w4.heap.size [.int .i64 kd, .int .i64 (1 + r1), .int .i64 r2, .int .i64 r3, .int .i64 (1 + r4), .int .i64 0, .string ⟨#[]⟩] := by rw [hw8]; exact (HKO6.out.set 0 (.int .i64 kd) (by simp)).below (below_alloc _ _) (by simp; omega)
 have KR8 : Blk w8 w6.heap.size [.string ⟨#[97]⟩, .string ⟨#[98]⟩] := by
  have := blk_new (w6.setCell ⟨w4.heap.size, 0, none⟩ (.int .i64 kd)) [.string ⟨#[97]⟩, .string ⟨#[98]⟩] 9
  have e : (w6.setCell ⟨w4.heap.size, 0, none⟩ (.int .i64 kd)).heap.size = w6.heap.size := by simp
  rw [e] at this
  rw [hw8]; exact this
 have i8 : CurF bs z6 w8 c (A + 2 + 2 + 2 + 2 + 2) := HC6.out.same (fun k hk => u8.block k (by omega) (by omega)) (by omega)
 have HP := hid (pick_fn bs z6 c (A + 2 + 2 + 2 + 2 + 2) 2 w8 i8 (by omega) (by omega) (by omega))
 have HU8 : Hid (Upd c w w8) := hid ⟨u8.os.trans HU6.out.os, u8.tape.trans HU6.out.tape, u8.output.trans HU6.out.output, by omega, fun k hk hc => (u8.block k (by omega) (by omega)).trans (HU6.out.block k hk hc)⟩
 have HK8 := hid (HK6.out.upd u8 (by omega) (by omega))
 have HKO := hid KO8
 have HKR := hid KR8
 have HW8 := hid hw8
 clear i8 u8 KO8 KR8 hw8 HC6 HU6 HK6 HKO6
 rw [HW8.out] at HP
 go_wp2_with (go_at_call 28; fail)
 rw [<- HW8.out] at HP ⊢
 clear HW8 x6 y0 z0
 refine HP.out.mono ?_
 rintro e w9 ⟨r9, z9, a9, b9, q9, rfl, hc9, hu9⟩
 obtain ⟨k9, rfl⟩ : ∃ k : Nat, r9 = k := ⟨r9.toNat, by omega⟩
 have hs9 := hu9.size
 obtain ⟨nm, hnm, hn1, HNM⟩ : ∃ nm : ByteArray, ([.string ⟨#[97]⟩, .string ⟨#[98]⟩] : List Value)[k9]? = some (.string nm) /\ nm.size <= 1 /\ Hid (nmF k9 = nm) := by
  have : k9 = 0 \/ k9 = 1 := by omega
  rcases this with rfl | rfl
  .exact ⟨_, rfl, by decide, hid rfl⟩
  .exact ⟨_, rfl, by decide, hid rfl⟩
 have HKO9 := hid (HKO.out.upd hu9 (by omega) (by omega))
 have KR9 := HKR.out.upd hu9 (by omega) (by omega)
 have x9 : w9.cell? ⟨w6.heap.size, k9, none⟩ = some (.string nm) := (KR9 k9 (by simp; omega)).1.trans hnm
 obtain ⟨⟨y0, -⟩, ⟨-, -⟩, ⟨-, -⟩, ⟨-, -⟩, ⟨-, -⟩, ⟨-, -⟩, ⟨y6, z6⟩⟩ := kb6 HKO9.out
 have HU9 := hid (HU8.out.trans hu9)
 have HK9 := hid (HK8.out.upd hu9 (by omega) (by omega))
 have HC9 := hid hc9
 clear hc9 hu9 HP HKO HKR KR9 HU8 HK8 hnm
 have u10 : Upd w4.heap.size w9 (w9.setCell ⟨w4.heap.size, 6, none⟩ (.string nm)) := (Upd.refl _ w9).setCell 6 (.string nm)
 have KO : Blk (w9.setCell ⟨w4.heap.size, 6, none⟩ (.string nm)) w4.heap.size (opL kd (1 + r1) r2 r3 (1 + r4) 0 nm) := HKO9.out.set 6 (.string nm) (by simp)
 have KZ := HK9.out.upd u10 (by omega) (by omega)
 have HC10 := hid (HC9.out.new u10 (by omega))
 have HU10 := hid (HU9.out.new u10 (by omega))
 clear u10 HC9 HU9 HK9 HKO9
 by_cases hk1 : kd = 1
 .subst hk1
  have u11 : Upd w4.heap.size (w9.setCell ⟨w4.heap.size, 6, none⟩ (.string nm)) ((w9.setCell ⟨w4.heap.size, 6, none⟩ (.string nm)).setCell ⟨w4.heap.size, 5, none⟩ (.int .i64 2)) := (Upd.refl _ _).setCell 5 (.int .i64 2)
  obtain ⟨⟨y00, -⟩, ⟨-, -⟩, ⟨-, -⟩, ⟨-, -⟩, ⟨-, -⟩, ⟨y5, g5⟩⟩ := kb5 KO
  have KO : Blk ((w9.setCell ⟨w4.heap.size, 6, none⟩ (.string nm)).setCell ⟨w4.heap.size, 5, none⟩ (.int .i64 2)) w4.heap.size (opL 1 (1 + r1) r2 r3 (1 + r4) 2 nm) := KO.set 5 (.int .i64 2) (by simp [opL])
  have hl10 : w.heap.size < (w9.setCell ⟨w4.heap.size, 6, none⟩ (.string nm)).heap.size := by simp; omega
  have KZ := KZ.upd u11 hl10 (by omega)
  have HC11 := hid (HC10.out.new u11 (by omega))
  have HU11 := hid (HU10.out.new u11 (by omega))
  clear u11 HC10 HU10
  have e2 : ((2 : Int) == 0) = false := by decide
  have HC14 := hid (HC11.out.more (A + 14) (by omega))
  obtain ⟨p0, p1, p2, p3, p4, p5, p6⟩ := kc6 KO
  obtain ⟨⟨s0, f0⟩, ⟨s1, f1⟩, ⟨s2, f2⟩, ⟨s3, f3⟩, ⟨s4, f4⟩, ⟨s5, f5⟩, ⟨s6, f6⟩⟩ := kb6 KZ
  obtain ⟨wf, hwf⟩ : ∃ z, z = set7 ((w9.setCell ⟨w4.heap.size, 6, none⟩ (.string nm)).setCell ⟨w4.heap.size, 5, none⟩ (.int .i64 2)) w.heap.size 1 (1 + r1) r2 r3 (1 + r4) 2 nm := ⟨_, rfl⟩
  have kf : Blk wf w.heap.size (opL 1 (1 + r1) r2 r3 (1 + r4) 2 nm) := by rw [hwf]; exact blk_set7 KZ rfl
  have uf : Upd w.heap.size ((w9.setCell ⟨w4.heap.size, 6, none⟩ (.string nm)).setCell ⟨w4.heap.size, 5, none⟩ (.int .i64 2)) wf := by rw [hwf]; exact upd_set7 _ _ _ _ _ _ _ _ _
  obtain ⟨t0, t1, t2, t3, t4, t5, t6⟩ := kc6 kf
  have HUF := hid uf
  unfold set7 at hwf
  clear KO KZ kf uf
  go_wp2
  rw [<- hwf]
  refine bodyPost_ret (v := opV ⟨1, 1 + r1, r2, r3, 1 + r4, 2, nm⟩) (by simp [results, Tryz.results37, go_sem, opV, t0, t1, t2, t3, t4, t5, t6]) rfl ?_
  exact ⟨_, z9, hid (by simp only [opF, q1.out, q2.out, q3.out, q4.out, q6.out, q9.out, Int.toNat_natCast, HKD.out, HNM.out, eq_self, if_true]), rfl, ⟨⟨by simp only; omega, by simp only; omega⟩, ⟨by simp only; omega, by simp only; omega⟩, hn1⟩, (HC14.out).new HUF.out (by omega), (HU11.out).new HUF.out (Nat.le_refl _)⟩
 .have e1 : (kd == 1) = false := by simpa using hk1
  have HC14 := hid (HC10.out.more (A + 14) (by omega))
  obtain ⟨p0, p1, p2, p3, p4, p5, p6⟩ := kc6 KO
  obtain ⟨⟨s0, f0⟩, ⟨s1, f1⟩, ⟨s2, f2⟩, ⟨s3, f3⟩, ⟨s4, f4⟩, ⟨s5, f5⟩, ⟨s6, f6⟩⟩ := kb6 KZ
  obtain ⟨wf, hwf⟩ : ∃ z, z = set7 (w9.setCell ⟨w4.heap.size, 6, none⟩ (.string nm)) w.heap.size kd (1 + r1) r2 r3 (1 + r4) 0 nm := ⟨_, rfl⟩
  have kf : Blk wf w.heap.size (opL kd (1 + r1) r2 r3 (1 + r4) 0 nm) := by rw [hwf]; exact blk_set7 KZ rfl
  have uf : Upd w.heap.size (w9.setCell ⟨w4.heap.size, 6, none⟩ (.string nm)) wf := by rw [hwf]; exact upd_set7 _ _ _ _ _ _ _ _ _
  obtain ⟨t0, t1, t2, t3, t4, t5, t6⟩ := kc6 kf
  have HUF := hid uf
  unfold set7 at hwf
  clear KO KZ kf uf
  go_wp2
  rw [<- hwf]
  refine bodyPost_ret (v := opV ⟨kd, 1 + r1, r2, r3, 1 + r4, 0, nm⟩) (by simp [results, Tryz.results37, go_sem, opV, t0, t1, t2, t3, t4, t5, t6]) rfl ?_
  exact ⟨_, z9, hid (by simp only [opF, q1.out, q2.out, q3.out, q4.out, q6.out, q9.out, Int.toNat_natCast, HKD.out, HNM.out, if_neg hk1]), rfl, ⟨⟨by simp only; omega, by simp only; omega⟩, ⟨by simp only; omega, by simp only; omega⟩, hn1⟩, (HC14.out).new HUF.out (by omega), (HU10.out).new HUF.out (Nat.le_refl _)⟩
def f7 (bs : List Int) (kd : Int) (ob : Bool) (z : Int × Int) : Bool × (Int × Int) := if kd ≠ 1 /\ ob = false then ((pickF bs z 8).1 != 7, (pickF bs z 8).2) else (false, z)
def f13 (bs : List Int) (kd : Int) (ob : Bool) (z : Int × Int) : Bool × (Int × Int) := if kd = 1 /\ ob = true then ((pickF bs z 6).1 != 5, (pickF bs z 6).2) else (false, z)
def StF : Type := List Opn × List Bool × (Int × Int)
def rest1F (bs : List Int) (us : List Opn) (op : List Bool) (o : Opn) (a : Bool × (Int × Int)) : List Opn × List Bool × (Int × Int) :=
 if a.1 then (us ++ [⟨1, o.ss, 0, 0, 0, 2, ⟨#[]⟩⟩], op.set o.ss.toNat true, a.2) else (us, op, a.2)
def rest2F (us : List Opn) (op : List Bool) (o : Opn) (b : Bool × (Int × Int)) : StF :=
 let kd' := if b.1 then 2 else o.kd
 let op2 := if kd' = 1 then op.set o.ss.toNat true else op
 let op3 := if kd' = 6 \/ kd' = 7 then op2.set o.ss.toNat false else op2
 (us ++ [⟨kd', o.ss, o.tb, o.ky, o.vl, o.md, o.nm⟩], op3, b.2)
def roundF (bs : List Int) (st : StF) : StF :=
 let q := opF bs st.2.2
 let a := f7 bs q.1.kd (st.2.1.getD q.1.ss.toNat false) q.2
 let u := rest1F bs st.1 st.2.1 q.1 a
 let b := f13 bs q.1.kd (u.2.1.getD q.1.ss.toNat false) u.2.2
 rest2F u.1 u.2.1 q.1 b
def loopF (bs : List Int) : Nat -> StF -> StF
 | 0, st => st
 | k + 1, st => loopF bs k (roundF bs st)
def fin3 (us : List Opn) : Nat -> List Opn
 | 0 => us
 | j + 1 => fin3 us j ++ [⟨6, (j : Int) + 1, 0, 0, 0, 0, ⟨#[]⟩⟩]
def drawF (bs : List Int) : List Opn := fin3 (loopF bs (10 + (pickF bs (0, 0) 60).1).toNat ([], [false, false, false, false, false], (pickF bs (0, 0) 60).2)).1 3
structure DG (bs : List Int) (z : Int × Int) (op : List Bool) (w : World) (c : Nat) (A : Int) (ob : Nat) (wr : World) (us : List Opn) (v : Value) : Prop where
 row : wr.ownsRow w.heap.size 41 7 v us.length (us.flatMap opK)
 opn : op.length = 5 /\ Blk wr ob (op.map Value.bool)
 cur : CurF bs z wr c A
 upd : Upd c w wr
 obl : w.heap.size <= ob /\ ob < wr.heap.size
 nob : v.ownBlock ≠ some ob
theorem DG.draw {bs : List Int} {z : Int × Int} {op : List Bool} {w : World} {c : Nat} {A : Int} {ob : Nat} {wr : World} {us : List Opn} {v : Value} (h : DG bs z op w c A ob wr us v) {w' : World} {z' : Int × Int} {A' : Int} (hcl : c < w.heap.size) (hc : CurF bs z' w' c A') (hu : Upd c wr w') : DG bs z' op w c A' ob w' us v := by
 have := h.obl
 have hs := hu.size
 exact ⟨own_upd h.row hu hcl, ⟨h.opn.1, h.opn.2.upd hu h.obl.2 (by omega)⟩, hc, h.upd.trans hu, ⟨h.obl.1, by omega⟩, h.nob⟩
theorem DG.more {bs : List Int} {z : Int × Int} {op : List Bool} {w : World} {c : Nat} {A : Int} {ob : Nat} {wr : World} {us : List Opn} {v : Value} (h : DG bs z op w c A ob wr us v) {A' : Int} (hA : A <= A') : DG bs z op w c A' ob wr us v := ⟨h.row, h.opn, h.cur.more _ hA, h.upd, h.obl, h.nob⟩
theorem DG.below {bs : List Int} {z : Int × Int} {op : List Bool} {w : World} {c : Nat} {A : Int} {ob : Nat} {wr : World} {us : List Opn} {v : Value} (h : DG bs z op w c A ob wr us v) {w' : World} (hcl : c < w.heap.size) (hb : Below wr.heap.size wr w') : DG bs z op w c A ob w' us v := h.draw hcl (h.cur.same (fun k hk => hb.block k (by have := h.cur.lt; omega)) (Nat.lt_of_lt_of_le h.cur.lt hb.size)) (Upd.of_below hb)
theorem DG.setO {bs : List Int} {z : Int × Int} {op : List Bool} {w : World} {c : Nat} {A : Int} {ob : Nat} {wr : World} {us : List Opn} {v : Value} (h : DG bs z op w c A ob wr us v) (hcl : c < w.heap.size) {s : Nat} (hs : s < 5) (b : Bool) : DG bs z (op.set s b) w c A ob (wr.setCell ⟨ob, s, none⟩ (.bool b)) us v := by
 have ho := h.obl
 have h5 := h.opn.1
 have u : Upd ob wr (wr.setCell ⟨ob, s, none⟩ (.bool b)) := (Upd.refl _ _).setCell s (.bool b)
 refine ⟨own_fr h.row (Fr.setCell wr ob s (.bool b)) (fun g hg e => h.nob (by rw [hg]; exact congrArg some e)), ⟨by simpa using h5, ?_⟩, h.cur.new u (by omega), h.upd.new u ho.1, ⟨ho.1, by simpa using ho.2⟩, h.nob⟩
 have := h.opn.2.set s (.bool b) (by simp; omega)
 rwa [<- List.map_set] at this
theorem DG.at {bs : List Int} {z : Int × Int} {op : List Bool} {w : World} {c : Nat} {A : Int} {ob : Nat} {wr : World} {us : List Opn} {v : Value} (h : DG bs z op w c A ob wr us v) {s : Nat} (hs : s < 5) : wr.cell? ⟨ob, s, none⟩ = some (.bool (op.getD s false)) /\ wr.frozen? ⟨ob, s, none⟩ = false := by
 have h5 := h.opn.1
 have := h.opn.2 s (by simp; omega)
 rw [List.getElem?_map, List.getElem?_eq_getElem (by omega)] at this
 rw [List.getD_eq_getElem?_getD, List.getElem?_eq_getElem (by omega)]
 exact this
theorem DG.push {bs : List Int} {z : Int × Int} {op : List Bool} {w : World} {c : Nat} {A : Int} {ob : Nat} {wr : World} {us : List Opn} {v : Value} (h : DG bs z op w c A ob wr us v) {w' : World} {v' : Value} {o : Opn} (hcl : c < w.heap.size) (hg : wr.grownBy w' v.ownBlock) (ho : w'.ownsRow w.heap.size 41 7 v' (us.length + 1) (us.flatMap opK ++ opK o)) (hat : v'.ownBlock = v.ownBlock \/ v'.ownBlock = some wr.heap.size) : DG bs z op w c A ob w' (us ++ [o]) v' := by
 have hbl := h.obl
 have hl : ∀ g, v.ownBlock = some g -> w.heap.size <= g := fun g hg => (h.row.lt g hg).1
 have hne : ∀ k, k < wr.heap.size -> v.ownBlock ≠ some k -> w'.heap[k]? = wr.heap[k]? := fun k hk hn => hg.block k hk hn.symm
 refine ⟨by rw [List.length_append, List.flatMap_append]; simpa using ho, ⟨h.opn.1, h.opn.2.fr (Fr.grown hg) hbl.2 (fun z => h.nob z)⟩, h.cur.same (fun k hk => hne k (by have := h.cur.lt; omega) (fun e => by have := hl k e; omega)) (Nat.lt_of_lt_of_le h.cur.lt hg.size), ⟨hg.os.trans h.upd.os, hg.tape.trans h.upd.tape, hg.output.trans h.upd.output, Nat.le_trans h.upd.size hg.size, fun k hk hc => (hne k (Nat.lt_of_lt_of_le hk h.upd.size) (fun e => by have := hl k e; omega)).trans (h.upd.block k hk hc)⟩, ⟨hbl.1, Nat.lt_of_lt_of_le hbl.2 hg.size⟩, fun e => ?_⟩
 rcases hat with z | z
 .exact h.nob (z ▸ e)
 .rw [z] at e; injection e with e; omega
theorem DG.setB {bs : List Int} {z : Int × Int} {op : List Bool} {w : World} {c : Nat} {A : Int} {ob : Nat} {wr : World} {us : List Opn} {v : Value} (h : DG bs z op w c A ob wr us v) (hcl : c < w.heap.size) {g : Nat} (hg : w.heap.size <= g) (hv : v.ownBlock ≠ some g) (ho : g ≠ ob) (j : Nat) (u : Value) : DG bs z op w c A ob (wr.setCell ⟨g, j, none⟩ u) us v := by
 have hl := h.obl
 have ub : Upd g wr (wr.setCell ⟨g, j, none⟩ u) := (Upd.refl _ _).setCell j u
 exact ⟨own_fr h.row (Fr.setCell wr g j u) (fun q hq e => hv (by rw [hq]; exact congrArg some e)), ⟨h.opn.1, h.opn.2.upd ub hl.2 (fun e => ho e.symm)⟩, h.cur.new ub (by omega), h.upd.new ub hg, ⟨hl.1, by simpa using hl.2⟩, h.nob⟩
theorem pickF_in (bs : List Int) (z : Int × Int) {n : Int} (hn : 0 < n) : 0 <= (pickF bs z n).1 /\ (pickF bs z n).1 < n := by
 unfold pickF
 exact ⟨Int.emod_nonneg _ (by omega), Int.emod_lt_of_pos _ hn⟩
theorem opF_ok (bs : List Int) (z : Int × Int) : SerO (opF bs z).1 := by
 unfold opF SerO
 simp only
 have h1 := pickF_in bs z (n := 3) (by omega)
 have h5 := pickF_in bs (pickF bs (pickF bs (pickF bs (pickF bs z 3).2 3).2 3).2 99).2 (n := 16) (by omega)
 generalize (pickF bs (pickF bs (pickF bs (pickF bs (pickF bs z 3).2 3).2 3).2 99).2 16).1 = k at *
 obtain ⟨m, rfl⟩ : ∃ m : Nat, k = m := ⟨k.toNat, by omega⟩
 have hm : m < 16 := by omega
 obtain ⟨v, hv, v1, v2⟩ := kinds_at hm
 have hg : kinds16.getD m 0 = v := by
  rw [List.getElem?_map] at hv
  rw [List.getD_eq_getElem?_getD]
  cases hq : kinds16[m]? with
  | none => rw [hq] at hv; cases hv
  | some u => rw [hq] at hv; simp at hv; simpa using hv
 rw [Int.toNat_natCast, hg]
 exact ⟨⟨v1, v2⟩, ⟨by omega, by omega⟩, fun e => if_pos e⟩
theorem round_ok (bs : List Int) (st : StF) (h : ∀ o ∈ st.1, SerO o) : ∀ o ∈ (roundF bs st).1, SerO o := by
 have ho := opF_ok bs st.2.2
 unfold roundF rest2F
 simp only
 have h1 : ∀ u ∈ (rest1F bs st.1 st.2.1 (opF bs st.2.2).1 (f7 bs (opF bs st.2.2).1.kd (st.2.1.getD (opF bs st.2.2).1.ss.toNat false) (opF bs st.2.2).2)).1, SerO u := by
  unfold rest1F
  split
  .intro u hu
   rcases List.mem_append.1 hu with z | z
   .exact h u z
   .rw [List.mem_singleton] at z
    subst z
    exact ⟨⟨by simp only; omega, by simp only; omega⟩, ho.2.1, fun _ => rfl⟩
  .exact h
 intro u hu
 rcases List.mem_append.1 hu with z | z
 .exact h1 u z
 .rw [List.mem_singleton] at z
  subst z
  refine ⟨?_, ho.2.1, fun hk => ?_⟩
  .simp only
   split
   .exact ⟨by omega, by omega⟩
   .exact ho.1
  .simp only at hk ⊢
   split at hk
   .omega
   .exact ho.2.2 hk
theorem loop_ok (bs : List Int) : ∀ (k : Nat) (st : StF), (∀ o ∈ st.1, SerO o) -> ∀ o ∈ (loopF bs k st).1, SerO o
 | 0, st, h => h
 | k + 1, st, h => loop_ok bs k (roundF bs st) (round_ok bs st h)
theorem fin3_ok (us : List Opn) (h : ∀ o ∈ us, SerO o) : ∀ j, j <= 3 -> ∀ o ∈ fin3 us j, SerO o
 | 0, _ => h
 | j + 1, hj => fun o ho => by
   rcases List.mem_append.1 ho with z | z
   .exact fin3_ok us h j (by omega) o z
   .rw [List.mem_singleton] at z
    subst z
    exact ⟨⟨by simp only; omega, by simp only; omega⟩, ⟨by simp only; omega, by simp only; omega⟩, fun e => by simp at e⟩
theorem drawF_ok (bs : List Int) : ∀ o ∈ drawF bs, SerO o := by
 unfold drawF
 exact fin3_ok _ (loop_ok bs _ _ (fun o h => by simp at h)) 3 (Nat.le_refl _)
noncomputable def histF (us : List Opn) : Nat -> Bas × List (List Nat) × List (List Nat)
 | 0 => (bas0, [[], [], [], [], []], [])
 | n + 1 => stepH (histF us n).1 (histF us n).2.1 (histF us n).2.2 n (us.getD n ⟨0, 0, 0, 0, 0, 0, ⟨#[]⟩⟩)
theorem hist_run {us : List Opn} : ∀ n, n <= us.length -> (histF us n).1 = (runsF bas0 (us.take n)).1
 | 0, _ => rfl
 | n + 1, h => by
   have hn : n < us.length := by omega
   have ih := hist_run (us := us) n (by omega)
   have hg : us.getD n ⟨0, 0, 0, 0, 0, 0, ⟨#[]⟩⟩ = us[n] := by rw [List.getD_eq_getElem?_getD, List.getElem?_eq_getElem hn]; rfl
   show (stepH _ _ _ n (us.getD n ⟨0, 0, 0, 0, 0, 0, ⟨#[]⟩⟩)).1 = _
   rw [hg, show us.take (n + 1) = us.take n ++ [us[n]] by rw [List.take_add_one, List.getElem?_eq_getElem hn]; rfl, runsF_snoc]
   simp only
   unfold stepH
   split
   .rename_i hs
    simp only
    rw [ih]
    unfold runF
    rw [if_pos (by omega)]
   .simp only
    rw [ih]
theorem hist_hi {us : List Opn} (hs : ∀ o ∈ us, SerO o) : ∀ n, n <= us.length -> HI us (runsF bas0 us).2 n (histF us n).1 (histF us n).2.1 (histF us n).2.2
 | 0, _ => hi0 _ _
 | n + 1, h => by
   have hn : n < us.length := by omega
   have hg : us.getD n ⟨0, 0, 0, 0, 0, 0, ⟨#[]⟩⟩ = us[n] := by rw [List.getD_eq_getElem?_getD, List.getElem?_eq_getElem hn]; rfl
   show HI us _ (n + 1) (stepH _ _ _ n (us.getD n ⟨0, 0, 0, 0, 0, 0, ⟨#[]⟩⟩)).1 (stepH _ _ _ n (us.getD n ⟨0, 0, 0, 0, 0, 0, ⟨#[]⟩⟩)).2.1 (stepH _ _ _ n (us.getD n ⟨0, 0, 0, 0, 0, 0, ⟨#[]⟩⟩)).2.2
   rw [hg]
   refine (hist_hi hs n (by omega)).step (List.getElem?_eq_getElem hn) (hs _ (List.getElem_mem hn)) ?_
   rw [hist_run n (by omega)]
   have key : ∀ (us : List Opn) (x : Bas) (k : Nat) (h : k < us.length), (runsF x us).2[k]? = some (runF (runsF x (us.take k)).1 us[k]).2 := by
    intro us
    induction us with
    | nil => intro x k h; cases h
    | cons u r ih =>
      intro x k h
      cases k with
      | zero => rfl
      | succ k =>
        have := ih (runF x u).1 k (by simpa using h)
        show ((runF x u).2 :: (runsF (runF x u).1 r).2)[k + 1]? = _
        rw [List.getElem?_cons_succ, this]
        rfl
   exact key us bas0 n hn
theorem getD_set0 (l : List Txn) (i : Nat) : ((l.set i tx0).getD i tx0).op = false := by
 rw [List.getD_eq_getElem?_getD, List.getElem?_set_self']
 cases l[i]? <;> rfl
theorem saves_hs (x : Bas) (i : Nat) (o : Opn) : (savesF x i o).1.hs = x.hs := by
 unfold savesF
 simp only
 split
 .split <;> rfl
 .split
  .rfl
  .split <;> rfl
theorem run_closes {x : Bas} {o : Opn} (hs : 1 <= o.ss) : ∀ r, r = runF x o -> x.hs.length < r.1.hs.length -> (r.1.tx.getD (o.ss.toNat - 1) tx0).op = false := by
 intro r hr hl
 have hi : (o.ss - 1).toNat = o.ss.toNat - 1 := by omega
 unfold runF at hr
 split at hr
 .subst hr; exact absurd hl (Nat.lt_irrefl _)
 simp only at hr
 split at hr
 .subst hr; exact absurd hl (Nat.lt_irrefl _)
 split at hr
 .subst hr; exact absurd hl (Nat.lt_irrefl _)
 split at hr
 .split at hr
  .subst hr; exact absurd hl (Nat.lt_irrefl _)
  .subst hr; exact absurd hl (Nat.lt_irrefl _)
 split at hr
 .subst hr; exact absurd hl (Nat.lt_irrefl _)
 split at hr
 .subst hr; exact absurd hl (Nat.lt_irrefl _)
 split at hr
 .subst hr; exact absurd hl (Nat.lt_irrefl _)
 split at hr
 .subst hr
  simp only at hl ⊢
  unfold commitF at hl ⊢
  simp only at hl ⊢
  split
  .rw [hi]; exact getD_set0 _ _
  .split
   .rw [hi]; exact getD_set0 _ _
   .rw [hi]; exact getD_set0 _ _
 split at hr
 .subst hr; exact absurd hl (Nat.lt_irrefl _)
 .subst hr
  simp only [saves_hs] at hl
  exact absurd hl (Nat.lt_irrefl _)
def sumL (l : List (List Nat)) : Nat := (l.map List.length).sum
theorem sumL_set : ∀ (l : List (List Nat)) (i : Nat) (a : List Nat), i < l.length -> sumL (l.set i a) + (l.getD i []).length = sumL l + a.length
 | [], i, a, h => by simp at h
 | x :: r, 0, a, _ => by simp [sumL]; omega
 | x :: r, i + 1, a, h => by
   have := sumL_set r i a (by simpa using h)
   simp [sumL] at this ⊢
   omega
theorem sumL_snoc (l : List (List Nat)) (a : List Nat) : sumL (l ++ [a]) = sumL l + a.length := by simp [sumL]
theorem hist_sum {us : List Opn} (hs : ∀ o ∈ us, SerO o) : ∀ n, n <= us.length -> sumL (histF us n).2.2 + sumL (histF us n).2.1 <= n
 | 0, _ => by simp [histF, sumL]
 | n + 1, h => by
   have hn : n < us.length := by omega
   have ih := hist_sum hs n (by omega)
   have h5 := (hist_hi hs n (by omega)).o5
   have hg : us.getD n ⟨0, 0, 0, 0, 0, 0, ⟨#[]⟩⟩ = us[n] := by rw [List.getD_eq_getElem?_getD, List.getElem?_eq_getElem hn]; rfl
   show sumL (stepH _ _ _ n (us.getD n ⟨0, 0, 0, 0, 0, 0, ⟨#[]⟩⟩)).2.2 + sumL (stepH _ _ _ n (us.getD n ⟨0, 0, 0, 0, 0, 0, ⟨#[]⟩⟩)).2.1 <= n + 1
   rw [hg]
   obtain ⟨_, ⟨s1, s4⟩, _⟩ := hs _ (List.getElem_mem hn)
   generalize us[n] = o at *
   generalize (histF us n).1 = x at *
   generalize (histF us n).2.1 = on at *
   generalize (histF us n).2.2 = ls at *
   unfold stepH
   rw [if_neg (by omega)]
   simp only
   have e1 := sumL_set on o.ss.toNat [] (by omega)
   have e2 := sumL_set on o.ss.toNat (on.getD o.ss.toNat [] ++ [n]) (by omega)
   simp only [List.length_nil, List.length_append, List.length_cons] at e1 e2
   by_cases hgt : x.hs.length < (runF x o).1.hs.length
   .have hop := run_closes s1 _ rfl hgt
    rw [if_pos hgt, hop]
    simp only [Bool.false_eq_true, if_false]
    rw [sumL_snoc]
    simp only [List.length_append, List.length_cons, List.length_nil]
    omega
   .rw [if_neg hgt]
    split
    .omega
    .omega
theorem sum_out (f : Nat -> Nat) (a : Nat) : ∀ out : List Nat, out.Nodup -> a ∈ out -> (out.map f).sum = ((out.filter (fun k => k != a)).map f).sum + f a
 | [], _, h => by simp at h
 | x :: r, hn, h => by
   rw [List.nodup_cons] at hn
   by_cases e : x = a
   .subst e
    have hr : r.filter (fun k => k != x) = r := List.filter_eq_self.2 (fun k hk => by
     have : k ≠ x := fun z => hn.1 (z ▸ hk)
     simpa using this)
    simp [hr]
    omega
   .have hm : a ∈ r := by
     rcases List.mem_cons.1 h with z | z
     .exact absurd z.symm e
     .exact z
    have ih := sum_out f a r hn.2 hm
    have : (x != a) = true := by simpa using e
    simp [List.filter_cons, this]
    omega
theorem sum_nodup (f : Nat -> Nat) : ∀ (n : Nat) (out : List Nat), out.Nodup -> (∀ k ∈ out, k < n) -> (out.map f).sum <= ((List.range n).map f).sum
 | 0, out, _, h => by
   cases out with
   | nil => simp
   | cons x r => exact absurd (h x List.mem_cons_self) (by omega)
 | n + 1, out, hn, h => by
   rw [List.range_succ, List.map_append, List.sum_append]
   simp only [List.map_cons, List.map_nil, List.sum_cons, List.sum_nil]
   by_cases hm : n ∈ out
   .rw [sum_out f n out hn hm]
    have := sum_nodup f n (out.filter (fun k => k != n)) (hn.filter _) (fun k hk => by
     obtain ⟨h1, h2⟩ := List.mem_filter.1 hk
     have := h k h1
     have : k ≠ n := by simpa using h2
     omega)
    omega
   .have := sum_nodup f n out hn (fun k hk => by
     have h1 := h k hk
     have : k ≠ n := fun z => hm (z ▸ hk)
     omega)
    omega
theorem sum_range (ls : List (List Nat)) : ((List.range ls.length).map (fun k => (ls.getD k []).length)).sum = sumL ls := by
 unfold sumL
 congr 1
 apply List.ext_getElem
 .simp
 .intro i h1 h2
  simp only [List.length_map] at h2
  simp [List.getD_eq_getElem?_getD, List.getElem?_eq_getElem h2]
theorem from_len (ls : List (List Nat)) (out : List Nat) (p : Nat) : (fromP ls out p).length = ((out.take p).map (fun k => (ls.getD k []).length)).sum := by
 unfold fromP
 rw [List.length_flatMap]
theorem from_small {ls : List (List Nat)} {out : List Nat} (hn : out.Nodup) (hl : ∀ k ∈ out, k < ls.length) : (fromP ls out out.length).length <= sumL ls := by
 rw [from_len, List.take_length, <- sum_range]
 exact sum_nodup _ _ _ hn hl
theorem from_step {ls : List (List Nat)} {out : List Nat} {p k : Nat} (hk : out[p]? = some k) : fromP ls out (p + 1) = fromP ls out p ++ ls.getD k [] := by
 unfold fromP
 rw [List.take_add_one, hk]
 simp only [Option.toList_some]
 rw [List.flatMap_append, List.flatMap_cons, List.flatMap_nil, List.append_nil]
theorem from_pre {ls : List (List Nat)} {out : List Nat} : ∀ (d p : Nat), ∃ r, fromP ls out (p + d) = fromP ls out p ++ r
 | 0, p => ⟨[], by simp⟩
 | d + 1, p => by
   obtain ⟨r, hr⟩ := from_pre (ls := ls) (out := out) d p
   cases hk : out[p + d]? with
   | none =>
     refine ⟨r, ?_⟩
     rw [<- hr]
     unfold fromP
     have hlen := List.getElem?_eq_none_iff.1 hk
     rw [List.take_of_length_le (by omega), List.take_of_length_le (by omega)]
   | some k =>
     refine ⟨r ++ ls.getD k [], ?_⟩
     rw [show p + (d + 1) = (p + d) + 1 by omega, from_step hk, hr, List.append_assoc]
theorem from_at {ls : List (List Nat)} {out : List Nat} {p k j n : Nat} (hk : out[p]? = some k) (hn : (ls.getD k [])[j]? = some n) : (fromP ls out out.length)[(fromP ls out p).length + j]? = some n := by
 have hp := (List.getElem?_eq_some_iff.1 hk).1
 obtain ⟨r, hr⟩ := from_pre (ls := ls) (out := out) (out.length - (p + 1)) (p + 1)
 rw [show p + 1 + (out.length - (p + 1)) = out.length by omega, from_step hk] at hr
 rw [hr, List.append_assoc, List.getElem?_append_right (by omega)]
 rw [show (fromP ls out p).length + j - (fromP ls out p).length = j by omega, List.getElem?_append_left (List.getElem?_eq_some_iff.1 hn).1]
 exact hn
end Go.Proofs.YtblkgicbimflhaaGreat
