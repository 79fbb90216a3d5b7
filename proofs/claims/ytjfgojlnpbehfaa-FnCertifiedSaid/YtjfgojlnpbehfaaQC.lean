import Derived.Test.YtjfgojlnpbehfaaDA
namespace Go.Proofs.Ytjfgojlnpbehfaa
open Go.ChangeShapes Go.WideShapes Go.ChangeAt Go.RowKit
set_option linter.unusedVariables false
set_option linter.unusedSimpArgs false
set_option maxRecDepth 100000
theorem ret_int {k : IntKind} {a b : Int} (h : a = b) : Ending.returned (.int k a) = .returned (.int k b) := by rw [h]
/-- All but block c is as it was. -/
structure Upd (c : Nat) (w w' : World) : Prop where
  os : w'.os = w.os
  tape : w'.tape = w.tape
  output : w'.output = w.output
  size : w.heap.size ≤ w'.heap.size
  block : ∀ k, k < w.heap.size → k ≠ c → w'.heap[k]? = w.heap[k]?
theorem Upd.refl (c : Nat) (w : World) : Upd c w w := ⟨rfl, rfl, rfl, Nat.le_refl _, fun _ _ _ => rfl⟩
theorem Upd.trans {c : Nat} {a b d : World} (h : Upd c a b) (k : Upd c b d) : Upd c a d :=
  ⟨k.os.trans h.os, k.tape.trans h.tape, k.output.trans h.output, Nat.le_trans h.size k.size, fun j hj hc => (k.block j (Nat.lt_of_lt_of_le hj h.size) hc).trans (h.block j hj hc)⟩
theorem Upd.of_below {c : Nat} {w w' : World} (h : Below w.heap.size w w') : Upd c w w' := ⟨h.os, h.tape, h.output, h.size, fun k hk _ => h.block k hk⟩
theorem Upd.drewN {c : Nat} {w w' : World} (h : Upd c w w') (n : Nat) : Upd c w (w'.drewN n) := ⟨h.os, h.tape, h.output, h.size, h.block⟩
theorem Upd.setCell {c : Nat} {w w' : World} (h : Upd c w w') (o : Nat) (u : Value) : Upd c w (w'.setCell ⟨c, o, none⟩ u) := by
  have hb := (Below.refl 0 w').setCell (p := ⟨c, o, none⟩) (Nat.zero_le _) u
  exact ⟨hb.os.trans h.os, hb.tape.trans h.tape, hb.output.trans h.output, Nat.le_trans h.size hb.size, fun k hk hc => (Below.heap_setCell w' ⟨c, o, none⟩ u k hc).trans (h.block k hk hc)⟩
theorem Upd.cell {c : Nat} {w w' : World} (h : Upd c w w') {p : Addr} (hp : p.block < w.heap.size) (hc : p.block ≠ c) : w'.cell? p = w.cell? p := World.cell?_of_block (w := w) (h.block p.block hp hc)
theorem Upd.frozen {c : Nat} {w w' : World} (h : Upd c w w') {p : Addr} (hp : p.block < w.heap.size) (hc : p.block ≠ c) : w'.frozen? p = w.frozen? p := World.frozen?_of_block (w := w) (h.block p.block hp hc)
theorem Upd.below {c : Nat} {w W w' : World} (hb : Below w.heap.size w W) (h : Upd c W w') (hc : w.heap.size ≤ c) : Below w.heap.size w w' :=
  ⟨h.os.trans hb.os, h.tape.trans hb.tape, h.output.trans hb.output, Nat.le_trans hb.size h.size, fun k hk => (h.block k (Nat.lt_of_lt_of_le hk hb.size) (by omega)).trans (hb.block k hk)⟩
/-- The code's bytes lie readable, apart from block c. -/
def Bytes (w : World) (c : Nat) (v0 : Option Addr) (len : Nat) : Prop :=
  ∀ j, j < len → ∃ g o b, v0 = some ⟨g, o, none⟩ ∧ g < c ∧ w.cell? ⟨g, o + j, none⟩ = some (.int .u8 b) ∧ 0 ≤ b ∧ b < 256
theorem Bytes.upd {w w' : World} {c : Nat} {v0 : Option Addr} {len : Nat} (h : Bytes w c v0 len) (u : Upd c w w') (hc : c < w.heap.size) : Bytes w' c v0 len := fun j hj => by
  obtain ⟨g, o, b, e1, e2, e4, e5, e6⟩ := h j hj
  exact ⟨g, o, b, e1, e2, (u.cell (p := ⟨g, o + j, none⟩) (Nat.lt_trans e2 hc) (Nat.ne_of_lt e2)).trans e4, e5, e6⟩
theorem Bytes.same {w w' : World} {c : Nat} {v0 : Option Addr} {len : Nat} (h : Bytes w c v0 len) (u : ∀ k, k < c → w'.heap[k]? = w.heap[k]?) : Bytes w' c v0 len := fun j hj => by
  obtain ⟨g, o, b, e1, e2, e4, e5, e6⟩ := h j hj
  exact ⟨g, o, b, e1, e2, (World.cell?_of_block (w := w) (u g e2)).trans e4, e5, e6⟩
/-- A cursor at block c that has been asked at most A times. -/
structure Cur (w : World) (c : Nat) (A : Int) (v0 : Option Addr) (len cap : Nat) (at' seed room : Int) : Prop where
  c0 : w.cell? ⟨c, 0, none⟩ = some (.slice v0 len cap)
  c1 : w.cell? ⟨c, 1, none⟩ = some (.int .i64 at')
  c2 : w.cell? ⟨c, 2, none⟩ = some (.int .i64 seed)
  c3 : w.cell? ⟨c, 3, none⟩ = some (.int .i64 room)
  f1 : w.frozen? ⟨c, 1, none⟩ = false
  f2 : w.frozen? ⟨c, 2, none⟩ = false
  a0 : 0 ≤ at'
  a1 : at' ≤ A
  s0 : 0 ≤ seed
  s1 : seed < 2147483648
  ln : len ≤ 1048576
  lt : c < w.heap.size
  bs : Bytes w c v0 len
def IsCur (w : World) (c : Nat) (A : Int) : Prop := ∃ v0 len cap at' seed room, Cur w c A v0 len cap at' seed room
theorem Cur.size (w : World) (p : Addr) (u : Value) : w.heap.size ≤ (w.setCell p u).heap.size := ((Below.refl 0 w).setCell (p := p) (Nat.zero_le _) u).size
theorem Cur.at {w : World} {c : Nat} {A : Int} {v0 : Option Addr} {len cap : Nat} {at' seed room : Int} (h : Cur w c A v0 len cap at' seed room) : Cur (w.setCell ⟨c, 1, none⟩ (.int .i64 (at' + 1))) c (A + 1) v0 len cap (at' + 1) seed room := by
  have hb := h.bs.upd ((Upd.refl c w).setCell 1 (.int .i64 (at' + 1))) h.lt
  have hs := Cur.size w ⟨c, 1, none⟩ (.int .i64 (at' + 1))
  obtain ⟨c0, c1, c2, c3, f1, f2, a0, a1, s0, s1, ln, lt, bs⟩ := h
  clear bs
  exact ⟨by simp [go_sem, *], by simp [go_sem, *], by simp [go_sem, *], by simp [go_sem, *], by simp [go_sem, *], by simp [go_sem, *], by omega, by omega, s0, s1, ln, by omega, hb⟩
theorem Cur.seed {w : World} {c : Nat} {A : Int} {v0 : Option Addr} {len cap : Nat} {at' seed room : Int} (h : Cur w c A v0 len cap at' seed room) (x : Int) (x0 : 0 ≤ x) (x1 : x < 2147483648) : Cur (w.setCell ⟨c, 2, none⟩ (.int .i64 x)) c A v0 len cap at' x room := by
  have hb := h.bs.upd ((Upd.refl c w).setCell 2 (.int .i64 x)) h.lt
  have hs := Cur.size w ⟨c, 2, none⟩ (.int .i64 x)
  obtain ⟨c0, c1, c2, c3, f1, f2, a0, a1, s0, s1, ln, lt, bs⟩ := h
  clear bs
  exact ⟨by simp [go_sem, *], by simp [go_sem, *], by simp [go_sem, *], by simp [go_sem, *], by simp [go_sem, *], by simp [go_sem, *], by omega, by omega, x0, x1, ln, by omega, hb⟩
theorem Cur.drewN {w : World} {c : Nat} {A : Int} {v0 : Option Addr} {len cap : Nat} {at' seed room : Int} (h : Cur w c A v0 len cap at' seed room) (n : Nat) : Cur (w.drewN n) c A v0 len cap at' seed room :=
  ⟨h.c0, h.c1, h.c2, h.c3, h.f1, h.f2, h.a0, h.a1, h.s0, h.s1, h.ln, h.lt, h.bs⟩
set_option maxHeartbeats 4000000 in
theorem byte_any (c : Nat) (A : Int) (w : World) (h : IsCur w c A) (hA : A ≤ 1000000000) : Calls Try.prog 49 #[.pointer (some ⟨c, 0, none⟩)] w fun e w' => ∃ r : Int, 0 ≤ r ∧ r < 256 ∧ e = .returned (.int .i64 r) ∧ IsCur w' c (A + 1) ∧ Upd c w w' := by
  obtain ⟨v0, len, cap, at', seed, room, hC⟩ := h
  have HC : Hid (Cur w c A v0 len cap at' seed room) := hC
  obtain ⟨c0, c1, c2, c3, f1, f2, a0, a1, s0, s1, ln, lt, bs⟩ := hC
  have HB : Hid (Bytes w c v0 len) := bs
  clear bs
  by_cases h1 : 200 + 40 * (len : Int) < at' + 1
  · go_enter Try.func49, Try.ntmps49
    go_wp2
    go_quiet (fail)
    go_wp2
    go_ret
    exact ⟨0, by omega, by omega, rfl, ⟨_, _, _, _, _, _, HC.out.at.drewN _⟩, ((Upd.refl c w).setCell _ _).drewN _⟩
  · by_cases h2 : (len : Int) < at' + 1
    · go_enter Try.func49, Try.ntmps49
      go_wp2
      go_quiet (fail)
      go_wp2
      go_quiet (fail)
      go_wp2
      go_ret
      refine ⟨_, ?_, ?_, rfl, ⟨_, _, _, _, _, _, (HC.out.at.seed ((seed * 1103515245 + 12345) % 2147483648) (by omega) (by omega)).drewN _⟩, (((Upd.refl c w).setCell _ _).setCell _ _).drewN _⟩
      all_goals
        go_light
        omega
    · have hj : at'.toNat < len := by omega
      obtain ⟨g, o, b, rfl, hgc0, hcell, hb0, hb1⟩ := HB.out at'.toNat hj
      have hgc : g ≠ c := Nat.ne_of_lt hgc0
      clear hgc0
      have e1 : ((at'.toNat : Nat) : Int) = at' := by omega
      go_enter Try.func49, Try.ntmps49
      go_wp2
      go_quiet (fail)
      go_wp2
      go_quiet (fail)
      go_wp2
      have hcell' : ∀ n, ((w.setCell ⟨c, 1, none⟩ (.int .i64 (at' + 1))).drewN n).cell? ⟨g, o + at'.toNat, none⟩ = some (.int .u8 b) := fun n => by simp [go_sem, *]
      have hi0 : 0 ≤ at' + 1 - 1 := by omega
      have hi1 : at' + 1 - 1 < (len : Int) := by omega
      go_region
      all_goals
        go_wp2
        go_quiet (fail)
        go_wp2
        go_ret
        refine ⟨b, hb0, hb1, ret_int ?_, ?_, ?_⟩
        · go_light
          first | rfl | omega
        · exact ⟨_, _, _, _, _, _, (((HC.out.at).drewN _).seed _ (by omega) (by omega)).drewN _⟩
        · exact ((((Upd.refl c w).setCell _ _).drewN _).setCell _ _).drewN _
theorem IsCur.same {w w' : World} {c : Nat} {A : Int} (h : IsCur w c A) (u : ∀ k, k ≤ c → w'.heap[k]? = w.heap[k]?) (hz : c < w'.heap.size) : IsCur w' c A := by
  obtain ⟨v0, len, cap, at', seed, room, hC⟩ := h
  have hb := u c (Nat.le_refl _)
  exact ⟨v0, len, cap, at', seed, room, ⟨(World.cell?_of_block (w := w) (a := ⟨c, 0, none⟩) hb).trans hC.c0, (World.cell?_of_block (w := w) (a := ⟨c, 1, none⟩) hb).trans hC.c1, (World.cell?_of_block (w := w) (a := ⟨c, 2, none⟩) hb).trans hC.c2, (World.cell?_of_block (w := w) (a := ⟨c, 3, none⟩) hb).trans hC.c3, (World.frozen?_of_block (w := w) (a := ⟨c, 1, none⟩) hb).trans hC.f1, (World.frozen?_of_block (w := w) (a := ⟨c, 2, none⟩) hb).trans hC.f2, hC.a0, hC.a1, hC.s0, hC.s1, hC.ln, hz, hC.bs.same fun k hk => u k (Nat.le_of_lt hk)⟩⟩
theorem IsCur.lt {w : World} {c : Nat} {A : Int} (h : IsCur w c A) : c < w.heap.size := by
  obtain ⟨_, _, _, _, _, _, hC⟩ := h
  exact hC.lt
theorem IsCur.below {w w' : World} {c B : Nat} {A : Int} (h : IsCur w c A) (hb : Below B w w') (hB : c < B) : IsCur w' c A :=
  h.same (fun k hk => hb.block k (Nat.lt_of_le_of_lt hk hB)) (Nat.lt_of_lt_of_le h.lt hb.size)
theorem IsCur.mono {w : World} {c : Nat} {A B : Int} (h : IsCur w c A) (hAB : A ≤ B) : IsCur w c B := by
  obtain ⟨v0, len, cap, at', seed, room, hC⟩ := h
  exact ⟨v0, len, cap, at', seed, room, ⟨hC.c0, hC.c1, hC.c2, hC.c3, hC.f1, hC.f2, hC.a0, Int.le_trans hC.a1 hAB, hC.s0, hC.s1, hC.ln, hC.lt, hC.bs⟩⟩
/-- What a draw leaves: a number in its range, the cursor, all else as it was. -/
def Drawn (c : Nat) (A : Int) (n : Int) (w : World) (e : Ending) (w' : World) : Prop := ∃ r : Int, 0 ≤ r ∧ r < n ∧ e = .returned (.int .i64 r) ∧ IsCur w' c A ∧ Upd c w w'
set_option maxHeartbeats 4000000 in
theorem pick_any (c : Nat) (A n : Int) (w : World) (h : IsCur w c A) (hA : A ≤ 100000000) (h1 : 2 ≤ n) (h2 : n ≤ 65536) : Calls Try.prog 45 #[.pointer (some ⟨c, 0, none⟩), .int .i64 n] w fun e w' => Drawn c (A + 2) n w e w' := by
  by_cases h256 : n ≤ 256
  · go_enter Try.func45, Try.ntmps45
    go_wp2_with fail
    refine (byte_any c A _ h (by omega)).mono ?_
    rintro e w1 ⟨r, r0, r1, rfl, hc1, hu1⟩
    have hm0 : 0 ≤ r % n := Int.emod_nonneg _ (by omega)
    have hm1 : r % n < n := Int.emod_lt_of_pos _ (by omega)
    have hn0 : (n == 0) = false := by rw [beq_eq_false_iff_ne]; omega
    go_wp2
    go_ret
    exact ⟨_, by omega, by omega, rfl, hc1.mono (by omega), hu1⟩
  · go_enter Try.func45, Try.ntmps45
    go_wp2_with fail
    refine (byte_any c A _ h (by omega)).mono ?_
    rintro e w1 ⟨r, r0, r1, rfl, hc1, hu1⟩
    go_wp2_with fail
    refine (byte_any c (A + 1) _ hc1 (by omega)).mono ?_
    rintro e w2 ⟨q, q0, q1, rfl, hc2, hu2⟩
    have hm0 : 0 ≤ (r * 256 + q) % n := Int.emod_nonneg _ (by omega)
    have hm1 : (r * 256 + q) % n < n := Int.emod_lt_of_pos _ (by omega)
    have hn0 : (n == 0) = false := by rw [beq_eq_false_iff_ne]; omega
    go_wp2
    go_ret
    exact ⟨_, by omega, by omega, rfl, hc2.mono (by omega), hu1.trans hu2⟩
end Go.Proofs.Ytjfgojlnpbehfaa
