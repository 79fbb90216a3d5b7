import Derived.Test.YtfgjleifhjegkaaDoorRows
import Derived.WalkKit
import Derived.ProofKit
import Derived.OpenShut
import Derived.WalkLawsBesides
import Derived.Deep.Light
import Derived.WalkSpells
import Derived.Deep.QuietTactic
import Derived.BigQuiet
import Derived.Lib.AppendStr
import Derived.Laws.BytesArg
import Derived.Deep.RegionWith
import Derived.Deep.CutRange
import Derived.Deep.DeepCutAuto
namespace Go.Proofs.YtfgjleifhjegkaaDoor.Dr
open Go.ChangeShapes Go.WideShapes Go.ChangeAt Go.RowKit
set_option linter.unusedVariables false
set_option linter.unusedSimpArgs false
set_option maxRecDepth 100000
theorem ret_int {k : IntKind} {a b : Int} (h : a = b) : Ending.returned (.int k a) = .returned (.int k b) := by rw [h]
/-- All but block c is as it was. -/
structure Upd (c : Nat) (w w' : World) : Prop where
  os : w'.os = w.os
  tape : w'.tape = w.tape
  output : w'.output = w.output
  size : w.heap.size ≤ w'.heap.size
  block : ∀ k, k < w.heap.size → k ≠ c → w'.heap[k]? = w.heap[k]?
theorem Upd.refl (c : Nat) (w : World) : Upd c w w := ⟨rfl, rfl, rfl, Nat.le_refl _, fun _ _ _ => rfl⟩
theorem Upd.trans {c : Nat} {a b d : World} (h : Upd c a b) (k : Upd c b d) : Upd c a d :=
  ⟨k.os.trans h.os, k.tape.trans h.tape, k.output.trans h.output, Nat.le_trans h.size k.size, fun j hj hc => (k.block j (Nat.lt_of_lt_of_le hj h.size) hc).trans (h.block j hj hc)⟩
theorem Upd.of_below {c : Nat} {w w' : World} (h : Below w.heap.size w w') : Upd c w w' := ⟨h.os, h.tape, h.output, h.size, fun k hk _ => h.block k hk⟩
theorem Upd.drewN {c : Nat} {w w' : World} (h : Upd c w w') (n : Nat) : Upd c w (w'.drewN n) := ⟨h.os, h.tape, h.output, h.size, h.block⟩
theorem Upd.setCell {c : Nat} {w w' : World} (h : Upd c w w') (o : Nat) (u : Value) : Upd c w (w'.setCell ⟨c, o, none⟩ u) := by
  have hb := (Below.refl 0 w').setCell (p := ⟨c, o, none⟩) (Nat.zero_le _) u
  exact ⟨hb.os.trans h.os, hb.tape.trans h.tape, hb.output.trans h.output, Nat.le_trans h.size hb.size, fun k hk hc => (Below.heap_setCell w' ⟨c, o, none⟩ u k hc).trans (h.block k hk hc)⟩
theorem Upd.cell {c : Nat} {w w' : World} (h : Upd c w w') {p : Addr} (hp : p.block < w.heap.size) (hc : p.block ≠ c) : w'.cell? p = w.cell? p := World.cell?_of_block (w := w) (h.block p.block hp hc)
theorem Upd.frozen {c : Nat} {w w' : World} (h : Upd c w w') {p : Addr} (hp : p.block < w.heap.size) (hc : p.block ≠ c) : w'.frozen? p = w.frozen? p := World.frozen?_of_block (w := w) (h.block p.block hp hc)
theorem Upd.below {c : Nat} {w W w' : World} (hb : Below w.heap.size w W) (h : Upd c W w') (hc : w.heap.size ≤ c) : Below w.heap.size w w' :=
  ⟨h.os.trans hb.os, h.tape.trans hb.tape, h.output.trans hb.output, Nat.le_trans hb.size h.size, fun k hk => (h.block k (Nat.lt_of_lt_of_le hk hb.size) (by omega)).trans (hb.block k hk)⟩
/-- The code's bytes lie readable, apart from block c. -/
def Bytes (w : World) (c : Nat) (v0 : Option Addr) (len : Nat) : Prop :=
  ∀ j, j < len → ∃ g o b, v0 = some ⟨g, o, none⟩ ∧ g < c ∧ w.cell? ⟨g, o + j, none⟩ = some (.int .u8 b) ∧ 0 ≤ b ∧ b < 256
theorem Bytes.upd {w w' : World} {c : Nat} {v0 : Option Addr} {len : Nat} (h : Bytes w c v0 len) (u : Upd c w w') (hc : c < w.heap.size) : Bytes w' c v0 len := fun j hj => by
  obtain ⟨g, o, b, e1, e2, e4, e5, e6⟩ := h j hj
  exact ⟨g, o, b, e1, e2, (u.cell (p := ⟨g, o + j, none⟩) (Nat.lt_trans e2 hc) (Nat.ne_of_lt e2)).trans e4, e5, e6⟩
theorem Bytes.same {w w' : World} {c : Nat} {v0 : Option Addr} {len : Nat} (h : Bytes w c v0 len) (u : ∀ k, k < c → w'.heap[k]? = w.heap[k]?) : Bytes w' c v0 len := fun j hj => by
  obtain ⟨g, o, b, e1, e2, e4, e5, e6⟩ := h j hj
  exact ⟨g, o, b, e1, e2, (World.cell?_of_block (w := w) (u g e2)).trans e4, e5, e6⟩
/-- A cursor at block c that has been asked at most A times. -/
structure Cur (w : World) (c : Nat) (A : Int) (v0 : Option Addr) (len cap : Nat) (at' seed room : Int) : Prop where
  c0 : w.cell? ⟨c, 0, none⟩ = some (.slice v0 len cap)
  c1 : w.cell? ⟨c, 1, none⟩ = some (.int .i64 at')
  c2 : w.cell? ⟨c, 2, none⟩ = some (.int .i64 seed)
  c3 : w.cell? ⟨c, 3, none⟩ = some (.int .i64 room)
  f1 : w.frozen? ⟨c, 1, none⟩ = false
  f2 : w.frozen? ⟨c, 2, none⟩ = false
  a0 : 0 ≤ at'
  a1 : at' ≤ A
  s0 : 0 ≤ seed
  s1 : seed < 2147483648
  ln : len ≤ 1048576
  lt : c < w.heap.size
  bs : Bytes w c v0 len
def IsCur (w : World) (c : Nat) (A : Int) : Prop := ∃ v0 len cap at' seed room, Cur w c A v0 len cap at' seed room
theorem Cur.size (w : World) (p : Addr) (u : Value) : w.heap.size ≤ (w.setCell p u).heap.size := ((Below.refl 0 w).setCell (p := p) (Nat.zero_le _) u).size
theorem Cur.at {w : World} {c : Nat} {A : Int} {v0 : Option Addr} {len cap : Nat} {at' seed room : Int} (h : Cur w c A v0 len cap at' seed room) : Cur (w.setCell ⟨c, 1, none⟩ (.int .i64 (at' + 1))) c (A + 1) v0 len cap (at' + 1) seed room := by
  have hb := h.bs.upd ((Upd.refl c w).setCell 1 (.int .i64 (at' + 1))) h.lt
  have hs := Cur.size w ⟨c, 1, none⟩ (.int .i64 (at' + 1))
  obtain ⟨c0, c1, c2, c3, f1, f2, a0, a1, s0, s1, ln, lt, bs⟩ := h
  clear bs
  exact ⟨by simp [go_sem, *], by simp [go_sem, *], by simp [go_sem, *], by simp [go_sem, *], by simp [go_sem, *], by simp [go_sem, *], by omega, by omega, s0, s1, ln, by omega, hb⟩
theorem Cur.seed {w : World} {c : Nat} {A : Int} {v0 : Option Addr} {len cap : Nat} {at' seed room : Int} (h : Cur w c A v0 len cap at' seed room) (x : Int) (x0 : 0 ≤ x) (x1 : x < 2147483648) : Cur (w.setCell ⟨c, 2, none⟩ (.int .i64 x)) c A v0 len cap at' x room := by
  have hb := h.bs.upd ((Upd.refl c w).setCell 2 (.int .i64 x)) h.lt
  have hs := Cur.size w ⟨c, 2, none⟩ (.int .i64 x)
  obtain ⟨c0, c1, c2, c3, f1, f2, a0, a1, s0, s1, ln, lt, bs⟩ := h
  clear bs
  exact ⟨by simp [go_sem, *], by simp [go_sem, *], by simp [go_sem, *], by simp [go_sem, *], by simp [go_sem, *], by simp [go_sem, *], by omega, by omega, x0, x1, ln, by omega, hb⟩
theorem Cur.drewN {w : World} {c : Nat} {A : Int} {v0 : Option Addr} {len cap : Nat} {at' seed room : Int} (h : Cur w c A v0 len cap at' seed room) (n : Nat) : Cur (w.drewN n) c A v0 len cap at' seed room :=
  ⟨h.c0, h.c1, h.c2, h.c3, h.f1, h.f2, h.a0, h.a1, h.s0, h.s1, h.ln, h.lt, h.bs⟩
set_option maxHeartbeats 4000000 in
theorem byte_any (c : Nat) (A : Int) (w : World) (h : IsCur w c A) (hA : A ≤ 1000000000) : Calls Tryd.prog 71 #[.pointer (some ⟨c, 0, none⟩)] w fun e w' => ∃ r : Int, 0 ≤ r ∧ r < 256 ∧ e = .returned (.int .i64 r) ∧ IsCur w' c (A + 1) ∧ Upd c w w' := by
  obtain ⟨v0, len, cap, at', seed, room, hC⟩ := h
  have HC : Hid (Cur w c A v0 len cap at' seed room) := hC
  obtain ⟨c0, c1, c2, c3, f1, f2, a0, a1, s0, s1, ln, lt, bs⟩ := hC
  have HB : Hid (Bytes w c v0 len) := bs
  clear bs
  by_cases h1 : 200 + 40 * (len : Int) < at' + 1
  · go_enter Tryd.func71, Tryd.ntmps71
    go_wp2
    go_quiet (fail)
    go_wp2
    go_ret
    exact ⟨0, by omega, by omega, rfl, ⟨_, _, _, _, _, _, HC.out.at.drewN _⟩, ((Upd.refl c w).setCell _ _).drewN _⟩
  · by_cases h2 : (len : Int) < at' + 1
    · go_enter Tryd.func71, Tryd.ntmps71
      go_wp2
      go_quiet (fail)
      go_wp2
      go_quiet (fail)
      go_wp2
      go_ret
      refine ⟨_, ?_, ?_, rfl, ⟨_, _, _, _, _, _, (HC.out.at.seed ((seed * 1103515245 + 12345) % 2147483648) (by omega) (by omega)).drewN _⟩, (((Upd.refl c w).setCell _ _).setCell _ _).drewN _⟩
      all_goals
        go_light
        omega
    · have hj : at'.toNat < len := by omega
      obtain ⟨g, o, b, rfl, hgc0, hcell, hb0, hb1⟩ := HB.out at'.toNat hj
      have hgc : g ≠ c := Nat.ne_of_lt hgc0
      clear hgc0
      have e1 : ((at'.toNat : Nat) : Int) = at' := by omega
      go_enter Tryd.func71, Tryd.ntmps71
      go_wp2
      go_quiet (fail)
      go_wp2
      go_quiet (fail)
      go_wp2
      have hcell' : ∀ n, ((w.setCell ⟨c, 1, none⟩ (.int .i64 (at' + 1))).drewN n).cell? ⟨g, o + at'.toNat, none⟩ = some (.int .u8 b) := fun n => by simp [go_sem, *]
      have hi0 : 0 ≤ at' + 1 - 1 := by omega
      have hi1 : at' + 1 - 1 < (len : Int) := by omega
      go_region
      all_goals
        go_wp2
        go_quiet (fail)
        go_wp2
        go_ret
        refine ⟨b, hb0, hb1, ret_int ?_, ?_, ?_⟩
        · go_light
          first | rfl | omega
        · exact ⟨_, _, _, _, _, _, (((HC.out.at).drewN _).seed _ (by omega) (by omega)).drewN _⟩
        · exact ((((Upd.refl c w).setCell _ _).drewN _).setCell _ _).drewN _
theorem IsCur.same {w w' : World} {c : Nat} {A : Int} (h : IsCur w c A) (u : ∀ k, k ≤ c → w'.heap[k]? = w.heap[k]?) (hz : c < w'.heap.size) : IsCur w' c A := by
  obtain ⟨v0, len, cap, at', seed, room, hC⟩ := h
  have hb := u c (Nat.le_refl _)
  exact ⟨v0, len, cap, at', seed, room, ⟨(World.cell?_of_block (w := w) (a := ⟨c, 0, none⟩) hb).trans hC.c0, (World.cell?_of_block (w := w) (a := ⟨c, 1, none⟩) hb).trans hC.c1, (World.cell?_of_block (w := w) (a := ⟨c, 2, none⟩) hb).trans hC.c2, (World.cell?_of_block (w := w) (a := ⟨c, 3, none⟩) hb).trans hC.c3, (World.frozen?_of_block (w := w) (a := ⟨c, 1, none⟩) hb).trans hC.f1, (World.frozen?_of_block (w := w) (a := ⟨c, 2, none⟩) hb).trans hC.f2, hC.a0, hC.a1, hC.s0, hC.s1, hC.ln, hz, hC.bs.same fun k hk => u k (Nat.le_of_lt hk)⟩⟩
theorem IsCur.lt {w : World} {c : Nat} {A : Int} (h : IsCur w c A) : c < w.heap.size := by
  obtain ⟨_, _, _, _, _, _, hC⟩ := h
  exact hC.lt
theorem IsCur.below {w w' : World} {c B : Nat} {A : Int} (h : IsCur w c A) (hb : Below B w w') (hB : c < B) : IsCur w' c A :=
  h.same (fun k hk => hb.block k (Nat.lt_of_le_of_lt hk hB)) (Nat.lt_of_lt_of_le h.lt hb.size)
theorem IsCur.mono {w : World} {c : Nat} {A B : Int} (h : IsCur w c A) (hAB : A ≤ B) : IsCur w c B := by
  obtain ⟨v0, len, cap, at', seed, room, hC⟩ := h
  exact ⟨v0, len, cap, at', seed, room, ⟨hC.c0, hC.c1, hC.c2, hC.c3, hC.f1, hC.f2, hC.a0, Int.le_trans hC.a1 hAB, hC.s0, hC.s1, hC.ln, hC.lt, hC.bs⟩⟩
/-- What a draw leaves: a number in its range, the cursor, all else as it was. -/
def Drawn (c : Nat) (A : Int) (n : Int) (w : World) (e : Ending) (w' : World) : Prop := ∃ r : Int, 0 ≤ r ∧ r < n ∧ e = .returned (.int .i64 r) ∧ IsCur w' c A ∧ Upd c w w'
set_option maxHeartbeats 4000000 in
theorem pick_any (c : Nat) (A n : Int) (w : World) (h : IsCur w c A) (hA : A ≤ 100000000) (h1 : 2 ≤ n) (h2 : n ≤ 65536) : Calls Tryd.prog 47 #[.pointer (some ⟨c, 0, none⟩), .int .i64 n] w fun e w' => Drawn c (A + 2) n w e w' := by
  by_cases h256 : n ≤ 256
  · go_enter Tryd.func47, Tryd.ntmps47
    go_wp2_with fail
    refine (byte_any c A _ h (by omega)).mono ?_
    rintro e w1 ⟨r, r0, r1, rfl, hc1, hu1⟩
    have hm0 : 0 ≤ r % n := Int.emod_nonneg _ (by omega)
    have hm1 : r % n < n := Int.emod_lt_of_pos _ (by omega)
    have hn0 : (n == 0) = false := by rw [beq_eq_false_iff_ne]; omega
    go_wp2
    go_ret
    exact ⟨_, by omega, by omega, rfl, hc1.mono (by omega), hu1⟩
  · go_enter Tryd.func47, Tryd.ntmps47
    go_wp2_with fail
    refine (byte_any c A _ h (by omega)).mono ?_
    rintro e w1 ⟨r, r0, r1, rfl, hc1, hu1⟩
    go_wp2_with fail
    refine (byte_any c (A + 1) _ hc1 (by omega)).mono ?_
    rintro e w2 ⟨q, q0, q1, rfl, hc2, hu2⟩
    have hm0 : 0 ≤ (r * 256 + q) % n := Int.emod_nonneg _ (by omega)
    have hm1 : (r * 256 + q) % n < n := Int.emod_lt_of_pos _ (by omega)
    have hn0 : (n == 0) = false := by rw [beq_eq_false_iff_ne]; omega
    go_wp2
    go_ret
    exact ⟨_, by omega, by omega, rfl, hc2.mono (by omega), hu1.trans hu2⟩
end Go.Proofs.YtfgjleifhjegkaaDoor.Dr
namespace Go.Proofs.YtfgjleifhjegkaaDoor.Dr
open Go.ChangeShapes Go.WideShapes Go.ChangeAt Go.RowKit
set_option linter.unusedVariables false
set_option linter.unusedSimpArgs false
set_option maxRecDepth 100000
theorem in_wf {a : Int} (h1 : -9223372036854775808 ≤ a) (h2 : a ≤ 9223372036854775807) : (Lit.int .i64 a).wf = true := by
  have := wrap64_wf a
  rwa [show wrap64 a = a by unfold wrap64; omega] at this
theorem alloc_ints (w : World) (xs : List Int) (i : Nat) (h : i < xs.length) : (w.alloc (.cells (xs.map (Value.int .i64)).toArray 3)).cell? ⟨w.heap.size, i, none⟩ = some (.int .i64 (xs.getD i 0)) := by
  rw [World.cell?_alloc_at _ _ _ _ rfl]
  simp [List.getD, h]
theorem alloc_strs (w : World) (xs : List ByteArray) (i : Nat) (h : i < xs.length) : (w.alloc (.cells (xs.map Value.string).toArray 9)).cell? ⟨w.heap.size, i, none⟩ = some (.string (xs.getD i ByteArray.empty)) := by
  rw [World.cell?_alloc_at _ _ _ _ rfl]
  simp [List.getD, h]
theorem getD_all {α : Type} {P : α → Prop} {d : α} {xs : List α} (h : ∀ x ∈ xs, P x) (hd : P d) (i : Nat) : P (xs.getD i d) := by
  rw [List.getD]
  cases e : xs[i]? with
  | none => exact hd
  | some x => exact h x (List.mem_of_getElem? e)
theorem cur_alloc {w : World} {c : Nat} {A : Int} (h : IsCur w c A) (o : Obj) : IsCur (w.alloc o) c A :=
  h.below ((Below.refl _ w).alloc (Nat.le_refl _) o) h.lt
theorem upd_alloc (c : Nat) (w : World) (o : Obj) : Upd c w (w.alloc o) := Upd.of_below ((Below.refl _ w).alloc (Nat.le_refl _) o)
def ints16 : List Int := [0, 1, 2, 3, -1, 5, 7, 10, -4, 100, 12345, 9223372036854775807, -9223372036854775808, 3037000500, -3037000500, 99999999999999]
def decs16 : List Int := [0, 10000, 5000, 15000, -10000, -5000, 1, -1, 12345678, 33333, 999999999999999999, -999999999999999999, 99999999999999, 20000, 1000000000000, 25000]
/-- A drawn number. -/
def DrawnI (P : Int → Prop) (c : Nat) (A : Int) (w : World) (e : Ending) (w' : World) : Prop := ∃ x : Int, P x ∧ e = .returned (.int .i64 x) ∧ IsCur w' c A ∧ Upd c w w'
set_option maxHeartbeats 4000000 in
theorem drawInt_any (c : Nat) (A : Int) (w : World) (h : IsCur w c A) (hA : A ≤ 100000000) : Calls Tryd.prog 76 #[.pointer (some ⟨c, 0, none⟩)] w fun e w' => DrawnI (fun x => -9223372036854775808 ≤ x ∧ x ≤ 9223372036854775807) c (A + 2) w e w' := by
  have hlt := h.lt
  have hne : w.heap.size ≠ c := by omega
  have hP : ∀ i, -9223372036854775808 ≤ ints16.getD i 0 ∧ ints16.getD i 0 ≤ 9223372036854775807 := fun i => getD_all (P := fun x => -9223372036854775808 ≤ x ∧ x ≤ 9223372036854775807) (by decide) (by decide) i
  have HP := hP
  go_enter Tryd.func76, Tryd.ntmps76
  go_wp2_with fail
  refine (pick_any c A 16 _ (cur_alloc h _) (by omega) (by omega) (by omega)).mono ?_
  rintro e w1 ⟨r, r0, r1, rfl, hc1, hu1⟩
  have hcell : w1.cell? ⟨w.heap.size, r.toNat, none⟩ = some (.int .i64 (ints16.getD r.toNat 0)) := (hu1.cell (p := ⟨w.heap.size, r.toNat, none⟩) (by simp) hne).trans (alloc_ints w ints16 r.toNat (by show r.toNat < 16; omega))
  have hx := hP r.toNat
  clear hP HP
  generalize ints16.getD r.toNat 0 = x at *
  have HX : Hid (-9223372036854775808 ≤ x ∧ x ≤ 9223372036854775807) := hx
  clear hx
  go_wp2
  go_ret
  exact ⟨x, HX.out, rfl, hc1, (upd_alloc c w _).trans hu1⟩
set_option maxHeartbeats 4000000 in
theorem drawDec_any (c : Nat) (A : Int) (w : World) (h : IsCur w c A) (hA : A ≤ 100000000) : Calls Tryd.prog 77 #[.pointer (some ⟨c, 0, none⟩)] w fun e w' => DrawnI (fun x => -999999999999999999 ≤ x ∧ x ≤ 999999999999999999) c (A + 2) w e w' := by
  have hlt := h.lt
  have hne : w.heap.size ≠ c := by omega
  have hP : ∀ i, -999999999999999999 ≤ decs16.getD i 0 ∧ decs16.getD i 0 ≤ 999999999999999999 := fun i => getD_all (P := fun x => -999999999999999999 ≤ x ∧ x ≤ 999999999999999999) (by decide) (by decide) i
  go_enter Tryd.func77, Tryd.ntmps77
  go_wp2_with fail
  refine (pick_any c A 16 _ (cur_alloc h _) (by omega) (by omega) (by omega)).mono ?_
  rintro e w1 ⟨r, r0, r1, rfl, hc1, hu1⟩
  have hcell : w1.cell? ⟨w.heap.size, r.toNat, none⟩ = some (.int .i64 (decs16.getD r.toNat 0)) := (hu1.cell (p := ⟨w.heap.size, r.toNat, none⟩) (by simp) hne).trans (alloc_ints w decs16 r.toNat (by show r.toNat < 16; omega))
  have hx := hP r.toNat
  clear hP
  generalize decs16.getD r.toNat 0 = x at *
  have HX : Hid (-999999999999999999 ≤ x ∧ x ≤ 999999999999999999) := hx
  clear hx
  go_wp2
  go_ret
  exact ⟨x, HX.out, rfl, hc1, (upd_alloc c w _).trans hu1⟩
end Go.Proofs.YtfgjleifhjegkaaDoor.Dr
namespace Go.Proofs.YtfgjleifhjegkaaDoor.Dr
open Go.ChangeShapes Go.WideShapes Go.ChangeAt Go.RowKit
set_option linter.unusedVariables false
set_option linter.unusedSimpArgs false
set_option maxRecDepth 100000
def strs18 : List ByteArray := [⟨#[97]⟩, ⟨#[98]⟩, ⟨#[65]⟩, ⟨#[32]⟩, ⟨#[37]⟩, ⟨#[95]⟩, ⟨#[92]⟩, ⟨#[39]⟩, ⟨#[195, 169]⟩, ⟨#[230, 176, 180]⟩, ⟨#[45, 49, 50]⟩, ⟨#[51, 46, 53]⟩, ⟨#[116, 114, 117, 101]⟩, ⟨#[50, 48, 50, 48, 45, 48, 50, 45, 50, 57]⟩, ⟨#[240, 159, 152, 128]⟩, ⟨#[120, 121, 122]⟩, ⟨#[48]⟩, ⟨#[57]⟩]
theorem strs18_size (i : Nat) : (strs18.getD i ByteArray.empty).size ≤ 12 := getD_all (P := fun t : ByteArray => t.size ≤ 12) (by decide) (by decide) i
/-- A drawn text, short. -/
def DrawnS (L : Nat) (c : Nat) (A : Int) (w : World) (e : Ending) (w' : World) : Prop := ∃ s : ByteArray, s.size ≤ L ∧ e = .returned (.string s) ∧ IsCur w' c A ∧ Upd c w w'
set_option maxHeartbeats 4000000 in
theorem drawText_any (c : Nat) (A : Int) (w : World) (h : IsCur w c A) (hA : A ≤ 10000000) : Calls Tryd.prog 78 #[.pointer (some ⟨c, 0, none⟩)] w fun e w' => DrawnS 60 c (A + 20) w e w' := by
  have hlt := h.lt
  have hne : w.heap.size ≠ c := by omega
  go_enter Tryd.func78, Tryd.ntmps78
  go_wp2_with fail
  refine (pick_any c A 5 _ (cur_alloc h _) (by omega) (by omega) (by omega)).mono ?_
  rintro e w1 ⟨r, r0, r1, rfl, hc1, hu1⟩
  have hl : ∀ i, i < 18 → w1.cell? ⟨w.heap.size, i, none⟩ = some (.string (strs18.getD i ByteArray.empty)) := fun i hi => (hu1.cell (p := ⟨w.heap.size, i, none⟩) (by simp) hne).trans (alloc_strs w strs18 i hi)
  have hz1 : w.heap.size < w1.heap.size := by have := hu1.size; simp at this; omega
  have HL : Hid (∀ i, i < 18 → w1.cell? ⟨w.heap.size, i, none⟩ = some (.string (strs18.getD i ByteArray.empty))) := hl
  have HU : Hid (Upd c w w1) := (upd_alloc c w _).trans hu1
  have HC1 : Hid (IsCur w1 c (A + 2)) := hc1
  clear hl hu1 hc1 h
  go_wp2
  go_loopw [4, 5] (fun o k wr => ∃ (m : Nat) (s : ByteArray), m ≤ 4 ∧ k = .int .i64 m ∧ o = .string s ∧ s.size + 12 * m ≤ 48 ∧ IsCur wr c (A + 2 + 2 * (4 - (m : Int))) ∧ Upd c w1 wr) (fun _ k _ => (intOf k).toNat)
  case atStart => exact ⟨r.toNat, ByteArray.empty, by omega, by go_num, rfl, by show 0 + 12 * r.toNat ≤ 48; omega, HC1.out.mono (by omega), Upd.refl _ _⟩
  case round =>
    obtain ⟨m, s, hm, rfl, rfl, hs, hcr, hur⟩ := hrel
    by_cases h0 : 0 < m
    · have h0' : (0 : Int) < m := by omega
      have hzr : w.heap.size < wr.heap.size := Nat.lt_of_lt_of_le hz1 hur.size
      have HCR : Hid (IsCur wr c (A + 2 + 2 * (4 - (m : Int)))) := hcr
      have HUR : Hid (Upd c w1 wr) := hur
      clear hcr hur
      go_wp2_with fail
      refine (pick_any c _ 18 _ HCR.out (by omega) (by omega) (by omega)).mono ?_
      rintro e w2 ⟨q, q0, q1, rfl, hc2, hu2⟩
      have hcell : w2.cell? ⟨w.heap.size, q.toNat, none⟩ = some (.string (strs18.getD q.toNat ByteArray.empty)) := (hu2.cell (p := ⟨w.heap.size, q.toNat, none⟩) hzr hne).trans ((HUR.out.cell (p := ⟨w.heap.size, q.toNat, none⟩) hz1 hne).trans (HL.out q.toNat (by omega)))
      have hts := strs18_size q.toNat
      generalize strs18.getD q.toNat ByteArray.empty = t at *
      have HC2 : Hid (IsCur w2 c (A + 2 + 2 * (4 - (m : Int)) + 2)) := hc2
      have HU2 : Hid (Upd c wr w2) := hu2
      clear hc2 hu2
      go_wp2
      go_roundw
      case rel => exact ⟨m - 1, s ++ t, by omega, by go_num, rfl, by simp; omega, HC2.out.mono (by omega), HUR.out.trans HU2.out⟩
      case measure => simp [intOf]; omega
    · have h0' : ¬ (0 : Int) < m := by omega
      go_wp2
      go_ret
      exact ⟨s, by omega, rfl, hcr.mono (by omega), HU.out.trans hur⟩
end Go.Proofs.YtfgjleifhjegkaaDoor.Dr
namespace Go.Proofs.YtfgjleifhjegkaaDoor.Dr
open Go.ChangeShapes Go.WideShapes Go.ChangeAt Go.RowKit
set_option linter.unusedVariables false
set_option linter.unusedSimpArgs false
set_option maxRecDepth 100000
theorem info5 : (Tryd.prog.info? 5).map (fun i => (i.zero, i.size, i.bytes)) = some (some (.int .u8 0), 1, 1) := by kernel_rfl
theorem strOf_size (ns : List Int) : (strOfNums ns).size = ns.length := by simp [strOfNums, ByteArray.size]
theorem strCells_map (s : ByteArray) : Lib.strCells s = (s.data.toList.map (fun b => (b.toNat : Int))).map (Value.int .u8) := by
  simp [Lib.strCells]
set_option maxHeartbeats 4000000 in
theorem times_any (n : Nat) (w : World) (h1 : 1 ≤ n) (h2 : n ≤ 300) : Calls Tryd.prog 75 #[.string ⟨#[195, 169]⟩, .int .i64 n] w fun e w' => ∃ t : ByteArray, t.size ≤ 600 ∧ e = .returned (.string t) ∧ Below w.heap.size w w' := by
  obtain ⟨i0, hi, hz0, hz1, hz2⟩ := info_parts info5
  go_enter Tryd.func75, Tryd.ntmps75
  go_wp2
  go_loopw [5, 6] (fun v i wr => ∃ (j : Nat) (ns : List Int), j ≤ n ∧ i = .int .i64 j ∧ ns.length = 2 * j ∧ wr.ownsRow w.heap.size 5 1 v ns.length (ns.map (Value.int .u8)) ∧ Below w.heap.size w wr) (fun _ i _ => n - (intOf i).toNat)
  case atStart => exact ⟨0, [], by omega, rfl, rfl, World.ownsRow_made w #[] 0 (Nat.le_refl _) (by unfold maxLen; omega) (by simp), (Below.refl _ _).alloc (Nat.le_refl _) _⟩
  case round =>
    obtain ⟨j, ns, hj, rfl, hl, hown, hbel⟩ := hrel
    have HL : Hid (ns.length = 2 * j) := hl
    have hl1 : ns.length ≤ 600 := by omega
    clear hl
    by_cases hlt : j < n
    · have hlt' : (j : Int) < n := by omega
      go_wp2_with (at_builtin; refine Lib.wpList_append_own_string _ rfl (.tmp 13) (.tmp 14) 24 9 rfl w.heap.size 5 i0 Tryd.underlying24 Tryd.underlying9 hi hz0 hz1 hz2 _ _ _ rfl hown ⟨#[195, 169]⟩ rfl (by show _ + 2 ≤ _; unfold maxLen; omega) (by show _ + 2 ≤ _; omega) hbel.size ?_; intro v' w1 hown' hgrow _)
      have HB1 : Hid (Below w.heap.size w w1) := hbel.grown hgrow hbel.size (fun k hk => (hown.lt k hk).1)
      have ho1 : w1.ownsRow w.heap.size 5 1 v' (ns ++ [195, 169]).length ((ns ++ [195, 169]).map (Value.int .u8)) := by
        rw [strCells_map, show ({ data := #[195, 169] } : ByteArray).size = 2 from rfl] at hown'
        simpa using hown'
      have HO : Hid (w1.ownsRow w.heap.size 5 1 v' (ns ++ [195, 169]).length ((ns ++ [195, 169]).map (Value.int .u8))) := ho1
      clear ho1
      clear hown' hgrow hown hbel
      go_wp2
      go_roundw
      case rel => exact ⟨j + 1, ns ++ [195, 169], by omega, by go_num, by have := HL.out; simp; omega, HO.out, HB1.out⟩
      case measure => simp [intOf]; omega
    · have hlt' : ¬ (j : Int) < n := by omega
      have hpos : 1 ≤ ns.length := by have := HL.out; omega
      have hown0 := hown
      obtain ⟨hlen, hcase⟩ := hown0
      rcases hcase with ⟨_, h0⟩ | ⟨g, cap, cur, rfl, hg1, hg2, hg3, hg4, hg5, hg6⟩
      · omega
      have hcells : ∀ i, i < ns.length → wr.cell? ⟨g, 0 + i, none⟩ = some (.int .u8 (ns.getD i 0)) := fun i hi => by
        have := hown.cells (g := g) rfl i (.int .u8 (ns.getD i 0)) (by simp [List.getD, hi])
        simp only [Addr.add] at this
        by_cases e : i = 0
        · subst e; simpa using this
        · simpa [e] using this
      clear hown hg2 hg3 hg4 hg5 hg6 hlen
      have hcv := run_convert_bytes_arg (P := Tryd.prog) wr 24 5 Tryd.underlying24 Tryd.underlying5 g 0 ns.length cap ns rfl hcells 9 Tryd.underlying9
      have hss := strOf_size ns
      generalize strOfNums ns = t at *
      have HS : Hid (t.size = ns.length) := hss
      clear hss hcells
      go_wp2
      go_ret
      exact ⟨t, by rw [HS.out]; omega, rfl, hbel⟩
end Go.Proofs.YtfgjleifhjegkaaDoor.Dr
namespace Go.Proofs.YtfgjleifhjegkaaDoor.Dr
open Go.ChangeShapes Go.WideShapes Go.ChangeAt Go.RowKit
set_option linter.unusedVariables false
set_option linter.unusedSimpArgs false
set_option maxRecDepth 100000
theorem Upd.thenB {c B : Nat} {w w1 w2 : World} (h : Upd c w w1) (hb : Below B w1 w2) (hB : w.heap.size ≤ B) : Upd c w w2 :=
  ⟨hb.os.trans h.os, hb.tape.trans h.tape, hb.output.trans h.output, Nat.le_trans h.size hb.size, fun k hk hc => (hb.block k (Nat.lt_of_lt_of_le hk hB)).trans (h.block k hk hc)⟩
theorem ucell {c : Nat} {W w1 : World} (hb : Upd c W w1) : (∀ b o, b < W.heap.size → b ≠ c → w1.cell? ⟨b, o, none⟩ = W.cell? ⟨b, o, none⟩) ∧ (∀ b o, b < W.heap.size → b ≠ c → w1.frozen? ⟨b, o, none⟩ = W.frozen? ⟨b, o, none⟩) :=
  ⟨fun b o h h' => hb.cell (p := ⟨b, o, none⟩) h h', fun b o h h' => hb.frozen (p := ⟨b, o, none⟩) h h'⟩
def dates10 : List Int := [0, 1, 18321, -1, -719162, 2932896, 11016, 59, 60, -719103]
/-- A number of Go's. -/
def NR (n : Int) : Prop := -9223372036854775808 ≤ n ∧ n ≤ 9223372036854775807
theorem dates10_nr (i : Nat) : NR (dates10.getD i 0) := getD_all (P := NR) (by unfold NR; decide) (by unfold NR; decide) i
/-- A drawn value. -/
def DrawnV (L : Nat) (c : Nat) (A : Int) (w : World) (e : Ending) (w' : World) : Prop := ∃ (k n : Int) (s : ByteArray), s.size ≤ L ∧ NR n ∧ e = .returned (.agg #[.int .i64 k, .int .i64 n, .string s]) ∧ IsCur w' c A ∧ Upd c w w'
theorem drawnV_mk {L c : Nat} {A A' : Int} {w w1 w2 : World} {k n : Int} {s : ByteArray} (hlt : c < w.heap.size) (hs : s.size ≤ L) (hn : NR n) (hc : IsCur w1 c A') (hA : A' ≤ A) (hu : Upd c w w1) (hb : Below w.heap.size w1 w2) : DrawnV L c A w (.returned (.agg #[.int .i64 k, .int .i64 n, .string s])) w2 :=
  ⟨k, n, s, hs, hn, rfl, (hc.below hb hlt).mono hA, hu.thenB hb (Nat.le_refl _)⟩
set_option maxHeartbeats 4000000 in
theorem drawKind_any (c : Nat) (A k : Int) (w : World) (h : IsCur w c A) (hA : A ≤ 1000000) : Calls Tryd.prog 70 #[.pointer (some ⟨c, 0, none⟩), .int .i64 k] w fun e w' => DrawnV 60 c (A + 20) w e w' := by
  have hlt := h.lt
  have hne : w.heap.size ≠ c := by omega
  have hne' : w.heap.size + 1 ≠ c := by omega
  by_cases k1 : k = 1
  · subst k1
    go_enter Tryd.func70, Tryd.ntmps70
    go_wp2_with fail
    refine (drawInt_any c A _ (cur_alloc h _) (by omega)).mono ?_
    rintro e w1 ⟨x, hx, rfl, hc1, hu1⟩
    have hz1 : w.heap.size < w1.heap.size := by have := hu1.size; simp at this; omega
    obtain ⟨hk, hf⟩ := ucell hu1
    have HU : Hid (Upd c w w1) := (upd_alloc c w _).trans hu1
    have HX : Hid (NR x) := hx
    clear h hx hu1
    go_wp2
    refine bodyPost_ret (v := .agg #[.int .i64 1, .int .i64 x, .string ⟨#[]⟩]) (by simp [results, Tryd.results70, go_sem, hk, hf, hz1, hne]) rfl ?_
    refine drawnV_mk hlt (by decide) HX.out hc1 (by omega) HU.out ?_
    go_light
    repeat (first | exact Below.refl _ _ | refine Below.setCell ?_ (by simp) _ | refine Below.alloc ?_ (by simp; try omega) _)
  have e1 : (k == 1) = false := by simpa using k1
  by_cases k2 : k = 2
  · subst k2
    clear k1
    go_enter Tryd.func70, Tryd.ntmps70
    go_wp2_with fail
    refine (drawDec_any c A _ (cur_alloc h _) (by omega)).mono ?_
    rintro e w1 ⟨x, hx, rfl, hc1, hu1⟩
    have hz1 : w.heap.size < w1.heap.size := by have := hu1.size; simp at this; omega
    obtain ⟨hk, hf⟩ := ucell hu1
    have HU : Hid (Upd c w w1) := (upd_alloc c w _).trans hu1
    have HX : Hid (NR x) := ⟨by omega, by omega⟩
    clear h hx hu1
    go_wp2
    refine bodyPost_ret (v := .agg #[.int .i64 2, .int .i64 x, .string ⟨#[]⟩]) (by simp [results, Tryd.results70, go_sem, hk, hf, hz1, hne]) rfl ?_
    refine drawnV_mk hlt (by decide) HX.out hc1 (by omega) HU.out ?_
    go_light
    repeat (first | exact Below.refl _ _ | refine Below.setCell ?_ (by simp) _ | refine Below.alloc ?_ (by simp; try omega) _)
  have e2 : (k == 2) = false := by simpa using k2
  by_cases k3 : k = 3
  · subst k3
    clear k1 k2
    go_enter Tryd.func70, Tryd.ntmps70
    go_wp2_with fail
    refine (drawText_any c A _ (cur_alloc h _) (by omega)).mono ?_
    rintro e w1 ⟨x, hx, rfl, hc1, hu1⟩
    have hz1 : w.heap.size < w1.heap.size := by have := hu1.size; simp at this; omega
    obtain ⟨hk, hf⟩ := ucell hu1
    have HU : Hid (Upd c w w1) := (upd_alloc c w _).trans hu1
    have HX : Hid (x.size ≤ 60) := hx
    clear h hx hu1
    go_wp2
    refine bodyPost_ret (v := .agg #[.int .i64 3, .int .i64 0, .string x]) (by simp [results, Tryd.results70, go_sem, hk, hf, hz1, hne]) rfl ?_
    refine drawnV_mk hlt HX.out ⟨by decide, by decide⟩ hc1 (by omega) HU.out ?_
    go_light
    repeat (first | exact Below.refl _ _ | refine Below.setCell ?_ (by simp) _ | refine Below.alloc ?_ (by simp; try omega) _)
  have e3 : (k == 3) = false := by simpa using k3
  by_cases k4 : k = 4
  · subst k4
    clear k1 k2 k3
    go_enter Tryd.func70, Tryd.ntmps70
    go_wp2_with fail
    refine (pick_any c A 2 _ (cur_alloc h _) (by omega) (by omega) (by omega)).mono ?_
    rintro e w1 ⟨x, hx, hx', rfl, hc1, hu1⟩
    have hz1 : w.heap.size < w1.heap.size := by have := hu1.size; simp at this; omega
    obtain ⟨hk, hf⟩ := ucell hu1
    have HU : Hid (Upd c w w1) := (upd_alloc c w _).trans hu1
    have HX : Hid (NR x) := ⟨by omega, by omega⟩
    clear h hx hx' hu1
    go_wp2
    refine bodyPost_ret (v := .agg #[.int .i64 4, .int .i64 x, .string ⟨#[]⟩]) (by simp [results, Tryd.results70, go_sem, hk, hf, hz1, hne]) rfl ?_
    refine drawnV_mk hlt (by decide) HX.out hc1 (by omega) HU.out ?_
    go_light
    repeat (first | exact Below.refl _ _ | refine Below.setCell ?_ (by simp) _ | refine Below.alloc ?_ (by simp; try omega) _)
  have e4 : (k == 4) = false := by simpa using k4
  by_cases k5 : k = 5
  · subst k5
    clear k1 k2 k3 k4
    go_enter Tryd.func70, Tryd.ntmps70
    go_wp2_with fail
    refine (pick_any c A 10 _ (cur_alloc (cur_alloc h _) _) (by omega) (by omega) (by omega)).mono ?_
    rintro e w1 ⟨r, r0, r1, rfl, hc1, hu1⟩
    have hz1 : w.heap.size + 1 < w1.heap.size := by have := hu1.size; simp at this; omega
    have hy1 : w.heap.size < w1.heap.size := by omega
    have hcell : w1.cell? ⟨w.heap.size + 1, r.toNat, none⟩ = some (.int .i64 (dates10.getD r.toNat 0)) := (hu1.cell (p := ⟨w.heap.size + 1, r.toNat, none⟩) (by simp) hne').trans (by
      rw [show w.heap.size + 1 = (w.alloc (.cells #[.int .i64 0, .int .i64 0, .string ⟨#[]⟩] 39)).heap.size by simp]
      exact alloc_ints _ dates10 r.toNat (by show r.toNat < 10; omega))
    have hxn := dates10_nr r.toNat
    generalize dates10.getD r.toNat 0 = x at *
    have HX : Hid (NR x) := hxn
    clear hxn
    obtain ⟨hk, hf⟩ := ucell hu1
    have HU : Hid (Upd c w w1) := ((upd_alloc c w _).trans (upd_alloc c _ _)).trans hu1
    clear h hu1
    go_wp2
    refine bodyPost_ret (v := .agg #[.int .i64 5, .int .i64 x, .string ⟨#[]⟩]) (by have hy2 : w.heap.size < w.heap.size + 1 + 1 := (by omega); simp [results, Tryd.results70, go_sem, hk, hf, hz1, hy1, hy2, hne]) rfl ?_
    refine drawnV_mk hlt (by decide) HX.out hc1 (by omega) HU.out ?_
    go_light
    repeat (first | exact Below.refl _ _ | refine Below.setCell ?_ (by simp) _ | refine Below.alloc ?_ (by simp; try omega) _)
  have e5 : (k == 5) = false := by simpa using k5
  clear k1 k2 k3 k4 k5
  go_enter Tryd.func70, Tryd.ntmps70
  go_wp2
  refine bodyPost_ret (v := .agg #[.int .i64 0, .int .i64 0, .string ⟨#[]⟩]) (by simp [results, Tryd.results70, go_sem]) rfl ?_
  refine drawnV_mk hlt (by decide) ⟨by decide, by decide⟩ h (by omega) (Upd.refl c w) ?_
  go_light
  repeat (first | exact Below.refl _ _ | refine Below.setCell ?_ (by simp) _ | refine Below.alloc ?_ (by simp; try omega) _)
end Go.Proofs.YtfgjleifhjegkaaDoor.Dr
namespace Go.Proofs.YtfgjleifhjegkaaDoor.Dr
open Go.ChangeShapes Go.WideShapes Go.ChangeAt Go.RowKit
set_option linter.unusedVariables false
set_option linter.unusedSimpArgs false
set_option maxRecDepth 100000
theorem nr0 : NR 0 := ⟨by decide, by decide⟩
def bads6 : List Int := [1000000000000000000, -1000000000000000000, 2, -1, 2932897, -719163]
theorem bads6_nr (i : Nat) : NR (bads6.getD i 0) := getD_all (P := NR) (by unfold NR; decide) (by unfold NR; decide) i
/-- A block that holds a value, free to be written. -/
structure Holds (w : World) (b : Nat) (k n : Int) (s : ByteArray) : Prop where
  c0 : w.cell? ⟨b, 0, none⟩ = some (.int .i64 k)
  c1 : w.cell? ⟨b, 1, none⟩ = some (.int .i64 n)
  c2 : w.cell? ⟨b, 2, none⟩ = some (.string s)
  f0 : w.frozen? ⟨b, 0, none⟩ = false
  f1 : w.frozen? ⟨b, 1, none⟩ = false
  f2 : w.frozen? ⟨b, 2, none⟩ = false
  lt : b < w.heap.size
theorem Holds.same {w w' : World} {b : Nat} {k n : Int} {s : ByteArray} (h : Holds w b k n s) (u : w'.heap[b]? = w.heap[b]?) (hz : b < w'.heap.size) : Holds w' b k n s :=
  ⟨(World.cell?_of_block (w := w) (a := ⟨b, 0, none⟩) u).trans h.c0, (World.cell?_of_block (w := w) (a := ⟨b, 1, none⟩) u).trans h.c1, (World.cell?_of_block (w := w) (a := ⟨b, 2, none⟩) u).trans h.c2,
   (World.frozen?_of_block (w := w) (a := ⟨b, 0, none⟩) u).trans h.f0, (World.frozen?_of_block (w := w) (a := ⟨b, 1, none⟩) u).trans h.f1, (World.frozen?_of_block (w := w) (a := ⟨b, 2, none⟩) u).trans h.f2, hz⟩
theorem Holds.upd {c : Nat} {w w' : World} {b : Nat} {k n : Int} {s : ByteArray} (h : Holds w b k n s) (u : Upd c w w') (hb : b ≠ c) : Holds w' b k n s := h.same (u.block b h.lt hb) (Nat.lt_of_lt_of_le h.lt u.size)
theorem Holds.below {B : Nat} {w w' : World} {b : Nat} {k n : Int} {s : ByteArray} (h : Holds w b k n s) (u : Below B w w') (hb : b < B) : Holds w' b k n s := h.same (u.block b hb) (Nat.lt_of_lt_of_le h.lt u.size)
theorem Holds.new (w : World) (k n : Int) (s : ByteArray) : Holds (w.alloc (.cells #[.int .i64 k, .int .i64 n, .string s] 39)) w.heap.size k n s :=
  ⟨by simp [go_sem], by simp [go_sem], by simp [go_sem], by simp [go_sem], by simp [go_sem], by simp [go_sem], by simp⟩
set_option maxHeartbeats 8000000 in
theorem drawValue_any (c : Nat) (A : Int) (w : World) (h : IsCur w c A) (hA : A ≤ 100000) : Calls Tryd.prog 69 #[.pointer (some ⟨c, 0, none⟩)] w fun e w' => DrawnV 700 c (A + 30) w e w' := by
  have hlt := h.lt
  have hne : w.heap.size ≠ c := by omega
  go_enter Tryd.func69, Tryd.ntmps69
  go_wp2_with fail
  refine (pick_any c A 6 _ (cur_alloc h _) (by omega) (by omega) (by omega)).mono ?_
  rintro e w1 ⟨q, q0, q1, rfl, hc1, hu1⟩
  have hr1 := (Holds.new w 0 0 ⟨#[]⟩).upd hu1 hne
  have HU1 : Hid (Upd c w w1) := (upd_alloc c w _).trans hu1
  clear h hu1
  go_wp2_with fail
  refine (drawKind_any c _ q _ hc1 (by omega)).mono ?_
  rintro e w2 ⟨k, n, s, hs, hnr, rfl, hc2, hu2⟩
  have hr2 := hr1.upd hu2 hne
  have HU2 : Hid (Upd c w w2) := HU1.out.trans hu2
  have HS : Hid (s.size ≤ 60) := hs
  have HNR : Hid (NR n) := hnr
  clear hnr
  have hz2 := hr2.lt
  have hv : w2.heap.size ≠ c := by omega
  have hv' : w.heap.size ≠ w2.heap.size := by omega
  have hv'' : w2.heap.size ≠ w.heap.size := by omega
  clear HU1 hu2 hs q0 q1 hr1 hc1
  go_wp2_with fail
  refine (pick_any c (A + 22) 24 _ ((hc2.below (B := w2.heap.size) (by (go_light; repeat (first | with_reducible exact Below.refl _ _ | (with_reducible refine Below.setCell ?_ ?_ _; rotate_left; (focus first | (simp; done) | (simp; omega) | omega)) | (with_reducible refine Below.alloc ?_ ?_ _; rotate_left; (focus first | (simp; done) | (simp; omega) | omega)) | with_reducible refine Below.drew ?_))) (by omega)).mono (by omega)) (by omega) (by omega) (by omega)).mono ?_
  rintro e w3 ⟨r, r0, r1, rfl, hc3, hu3⟩
  have hr3 := Holds.upd (hr2.below (B := w2.heap.size) (by (go_light; repeat (first | with_reducible exact Below.refl _ _ | (with_reducible refine Below.setCell ?_ ?_ _; rotate_left; (focus first | (simp; done) | (simp; omega) | omega)) | (with_reducible refine Below.alloc ?_ ?_ _; rotate_left; (focus first | (simp; done) | (simp; omega) | omega)) | with_reducible refine Below.drew ?_))) hz2) hu3 hne
  have hv3 : Holds w3 w2.heap.size k n s := Holds.upd ⟨by simp [go_sem], by simp [go_sem], by simp [go_sem], by simp [go_sem], by simp [go_sem], by simp [go_sem], by simp⟩ hu3 hv
  have HU3 : Hid (Upd c w w3) := (HU2.out.thenB (B := w2.heap.size) (by (go_light; repeat (first | with_reducible exact Below.refl _ _ | (with_reducible refine Below.setCell ?_ ?_ _; rotate_left; (focus first | (simp; done) | (simp; omega) | omega)) | (with_reducible refine Below.alloc ?_ ?_ _; rotate_left; (focus first | (simp; done) | (simp; omega) | omega)) | with_reducible refine Below.drew ?_))) (Nat.le_of_lt hz2)).trans hu3
  clear HU2 hu3 hr2 hc2
  obtain ⟨a0, a1, a2, b0, b1, b2, hz3⟩ := hr3
  obtain ⟨v0, v1, v2, g0, g1, g2, hy3⟩ := hv3
  by_cases t0 : r = 20
  · subst t0
    have hs := HS.out
    go_wp2
    refine bodyPost_ret (v := .agg #[.int .i64 k, .int .i64 n, .string (s ++ ⟨#[255]⟩)]) (by simp [results, Tryd.results69, go_sem, *]) rfl ?_
    refine drawnV_mk hlt (by have := HS.out; rw [ByteArray.size_append, show (ByteArray.mk #[255]).size = 1 from rfl]; omega) HNR.out hc3 (by omega) HU3.out ?_
    (go_light; repeat (first | with_reducible exact Below.refl _ _ | (with_reducible refine Below.setCell ?_ ?_ _; rotate_left; (focus first | (simp; done) | (simp; omega) | omega)) | (with_reducible refine Below.alloc ?_ ?_ _; rotate_left; (focus first | (simp; done) | (simp; omega) | omega)) | with_reducible refine Below.drew ?_))
  have e0 : (r == 20) = false := by simpa using t0
  by_cases t1 : r = 21
  · subst t1
    clear t0
    go_wp2_with fail
    refine (pick_any c (A + 24) 6 _ ((hc3.below (B := w3.heap.size) (by (go_light; repeat (first | with_reducible exact Below.refl _ _ | (with_reducible refine Below.setCell ?_ ?_ _; rotate_left; (focus first | (simp; done) | (simp; omega) | omega)) | (with_reducible refine Below.alloc ?_ ?_ _; rotate_left; (focus first | (simp; done) | (simp; omega) | omega)) | with_reducible refine Below.drew ?_))) (by omega)).mono (by omega)) (by omega) (by omega) (by omega)).mono ?_
    rintro e w4 ⟨p, p0, p1, rfl, hc4, hu4⟩
    have hu4' : Upd c w3 w4 := Upd.trans (Upd.of_below (by (go_light; repeat (first | with_reducible exact Below.refl _ _ | (with_reducible refine Below.setCell ?_ ?_ _; rotate_left; (focus first | (simp; done) | (simp; omega) | omega)) | (with_reducible refine Below.alloc ?_ ?_ _; rotate_left; (focus first | (simp; done) | (simp; omega) | omega)) | with_reducible refine Below.drew ?_)))) hu4
    have hcell : w4.cell? ⟨w3.heap.size, p.toNat, none⟩ = some (.int .i64 (bads6.getD p.toNat 0)) := (hu4.cell (p := ⟨w3.heap.size, p.toNat, none⟩) (by simp) (by show w3.heap.size ≠ c; omega)).trans (alloc_ints _ bads6 p.toNat (by show p.toNat < 6; omega))
    have hxn := bads6_nr p.toNat
    generalize bads6.getD p.toNat 0 = x at *
    have HXN : Hid (NR x) := hxn
    clear hxn
    have hr4 := Holds.upd ⟨a0, a1, a2, b0, b1, b2, hz3⟩ hu4' hne
    have hv4 := Holds.upd ⟨v0, v1, v2, g0, g1, g2, hy3⟩ hu4' hv
    clear a0 a1 a2 b0 b1 b2 hz3 v0 v1 v2 g0 g1 g2 hy3
    obtain ⟨a0, a1, a2, b0, b1, b2, hz3⟩ := hr4
    obtain ⟨v0, v1, v2, g0, g1, g2, hy3⟩ := hv4
    have HU4 : Hid (Upd c w w4) := HU3.out.trans hu4'
    clear hu4 hu4' HU3 hc3
    go_wp2
    refine bodyPost_ret (v := .agg #[.int .i64 k, .int .i64 x, .string s]) (by simp [results, Tryd.results69, go_sem, *]) rfl ?_
    refine drawnV_mk hlt (by have := HS.out; omega) HXN.out hc4 (by omega) HU4.out ?_
    (go_light; repeat (first | with_reducible exact Below.refl _ _ | (with_reducible refine Below.setCell ?_ ?_ _; rotate_left; (focus first | (simp; done) | (simp; omega) | omega)) | (with_reducible refine Below.alloc ?_ ?_ _; rotate_left; (focus first | (simp; done) | (simp; omega) | omega)) | with_reducible refine Below.drew ?_))
  have e1 : (r == 21) = false := by simpa using t1
  by_cases t2 : r = 22
  · subst t2
    clear t0 t1
    go_wp2_with fail
    refine (pick_any c (A + 24) 2 _ (hc3.mono (by omega)) (by omega) (by omega) (by omega)).mono ?_
    rintro e w4 ⟨p, p0, p1, rfl, hc4, hu4⟩
    have hr4 := Holds.upd ⟨a0, a1, a2, b0, b1, b2, hz3⟩ hu4 hne
    have hv4 := Holds.upd ⟨v0, v1, v2, g0, g1, g2, hy3⟩ hu4 hv
    have HU4 : Hid (Upd c w w4) := HU3.out.trans hu4
    clear a0 a1 a2 b0 b1 b2 hz3 v0 v1 v2 g0 g1 g2 hy3 hu4 HU3 hc3
    obtain ⟨m, hm⟩ : ∃ m : Nat, 255 + p = m := ⟨(255 + p).toNat, by omega⟩
    go_wp2_with fail
    refine (times_any m w4 (by omega) (by omega)).mono ?_
    rintro e w5 ⟨t, ht, rfl, hb5⟩
    have hc5 := hc4.below hb5 hc4.lt
    have hr5 := hr4.below hb5 hr4.lt
    have hv5 := hv4.below hb5 hv4.lt
    have HU5 : Hid (Upd c w w5) := HU4.out.thenB hb5 HU4.out.size
    have HT : Hid (t.size ≤ 600) := ht
    clear hr4 hv4 HU4 hb5 hc4 ht
    obtain ⟨a0, a1, a2, b0, b1, b2, hz3⟩ := hr5
    obtain ⟨v0, v1, v2, g0, g1, g2, hy3⟩ := hv5
    go_wp2
    refine bodyPost_ret (v := .agg #[.int .i64 3, .int .i64 0, .string t]) (by simp [results, Tryd.results69, go_sem, *]) rfl ?_
    refine drawnV_mk hlt (by have := HT.out; omega) nr0 hc5 (by omega) HU5.out ?_
    (go_light; repeat (first | with_reducible exact Below.refl _ _ | (with_reducible refine Below.setCell ?_ ?_ _; rotate_left; (focus first | (simp; done) | (simp; omega) | omega)) | (with_reducible refine Below.alloc ?_ ?_ _; rotate_left; (focus first | (simp; done) | (simp; omega) | omega)) | with_reducible refine Below.drew ?_))
  have e2 : (r == 22) = false := by simpa using t2
  by_cases t3 : r = 23
  · subst t3
    clear t0 t1 t2
    go_wp2_with fail
    refine (pick_any c (A + 24) 9 _ (hc3.mono (by omega)) (by omega) (by omega) (by omega)).mono ?_
    rintro e w4 ⟨p, p0, p1, rfl, hc4, hu4⟩
    have hr4 := Holds.upd ⟨a0, a1, a2, b0, b1, b2, hz3⟩ hu4 hne
    have hv4 := Holds.upd ⟨v0, v1, v2, g0, g1, g2, hy3⟩ hu4 hv
    clear a0 a1 a2 b0 b1 b2 hz3 v0 v1 v2 g0 g1 g2 hy3
    obtain ⟨a0, a1, a2, b0, b1, b2, hz3⟩ := hr4
    obtain ⟨v0, v1, v2, g0, g1, g2, hy3⟩ := hv4
    have HU4 : Hid (Upd c w w4) := HU3.out.trans hu4
    clear hu4 HU3 hc3
    go_wp2
    refine bodyPost_ret (v := .agg #[.int .i64 (p - 1), .int .i64 n, .string s]) (by simp [results, Tryd.results69, go_sem, *]) rfl ?_
    refine drawnV_mk hlt (by have := HS.out; omega) HNR.out hc4 (by omega) HU4.out ?_
    (go_light; repeat (first | with_reducible exact Below.refl _ _ | (with_reducible refine Below.setCell ?_ ?_ _; rotate_left; (focus first | (simp; done) | (simp; omega) | omega)) | (with_reducible refine Below.alloc ?_ ?_ _; rotate_left; (focus first | (simp; done) | (simp; omega) | omega)) | with_reducible refine Below.drew ?_))
  have e3 : (r == 23) = false := by simpa using t3
  clear t0 t1 t2 t3
  go_wp2
  refine bodyPost_ret (v := .agg #[.int .i64 k, .int .i64 n, .string s]) (by simp [results, Tryd.results69, go_sem, *]) rfl ?_
  refine drawnV_mk hlt (by have := HS.out; omega) HNR.out hc3 (by omega) HU3.out ?_
  (go_light; repeat (first | with_reducible exact Below.refl _ _ | (with_reducible refine Below.setCell ?_ ?_ _; rotate_left; (focus first | (simp; done) | (simp; omega) | omega)) | (with_reducible refine Below.alloc ?_ ?_ _; rotate_left; (focus first | (simp; done) | (simp; omega) | omega)) | with_reducible refine Below.drew ?_))
end Go.Proofs.YtfgjleifhjegkaaDoor.Dr
namespace Go.Proofs.YtfgjleifhjegkaaDoor.Dr
open Go.ChangeShapes Go.WideShapes Go.ChangeAt Go.RowKit
set_option linter.unusedVariables false
set_option linter.unusedSimpArgs false
set_option maxRecDepth 100000
def kinds4 : List Int := [2, 1, 0, 1]
theorem below_alloc (w : World) (o : Obj) : Below w.heap.size w (w.alloc o) := (Below.refl _ w).alloc (Nat.le_refl _) o
/-- Two drawn values. -/
def DrawnVV (L : Nat) (c : Nat) (A : Int) (w : World) (e : Ending) (w' : World) : Prop := ∃ (k n : Int) (s : ByteArray) (k' n' : Int) (s' : ByteArray), s.size ≤ L ∧ s'.size ≤ L ∧ NR n ∧ NR n' ∧ e = .returned (.tuple #[.agg #[.int .i64 k, .int .i64 n, .string s], .agg #[.int .i64 k', .int .i64 n', .string s']]) ∧ IsCur w' c A ∧ Upd c w w'
theorem drawnVV_mk {L c : Nat} {A A' : Int} {w w1 w2 : World} {k n : Int} {s : ByteArray} {k' n' : Int} {s' : ByteArray} (hlt : c < w.heap.size) (hs : s.size ≤ L) (hs' : s'.size ≤ L) (hn : NR n) (hn' : NR n') (hc : IsCur w1 c A') (hA : A' ≤ A) (hu : Upd c w w1) (hb : Below w.heap.size w1 w2) : DrawnVV L c A w (.returned (.tuple #[.agg #[.int .i64 k, .int .i64 n, .string s], .agg #[.int .i64 k', .int .i64 n', .string s']])) w2 :=
  ⟨k, n, s, k', n', s', hs, hs', hn, hn', rfl, (hc.below hb hlt).mono hA, hu.thenB hb (Nat.le_refl _)⟩
theorem IsCur.drew {w : World} {c : Nat} {A : Int} (h : IsCur w c A) : IsCur w.drew c A := h.same (fun _ _ => rfl) h.lt
theorem Holds.drew {w : World} {b : Nat} {k n : Int} {s : ByteArray} (h : Holds w b k n s) : Holds w.drew b k n s := h.same rfl h.lt
theorem below_drew (w : World) : Below w.heap.size w w.drew := (Below.refl w.heap.size w).drew
set_option maxHeartbeats 8000000 in
theorem drawTwo_any (c : Nat) (A : Int) (w : World) (h : IsCur w c A) (hA : A ≤ 10000) : Calls Tryd.prog 46 #[.pointer (some ⟨c, 0, none⟩)] w fun e w' => DrawnVV 700 c (A + 100) w e w' := by
  have hlt := h.lt
  have hne : w.heap.size ≠ c := by omega
  have hne' : w.heap.size + 1 ≠ c := by omega
  go_enter Tryd.func46, Tryd.ntmps46
  go_wp2_with fail
  refine (drawValue_any c A _ (cur_alloc (cur_alloc h _) _) (by omega)).mono ?_
  rintro e w1 ⟨k, n, s, hs, hnr, rfl, hc1, hu1⟩
  have hr1 : Holds w1 w.heap.size 0 0 ⟨#[]⟩ := ((Holds.new w 0 0 ⟨#[]⟩).below (below_alloc _ _) (by simp)).upd hu1 hne
  have hq1 : Holds w1 (w.heap.size + 1) 0 0 ⟨#[]⟩ := by
    have := (Holds.new (w.alloc (.cells #[.int .i64 0, .int .i64 0, .string ⟨#[]⟩] 39)) 0 0 ⟨#[]⟩).upd hu1 (by simpa using hne')
    simpa using this
  have HU1 : Hid (Upd c w w1) := ((upd_alloc c w _).trans (upd_alloc c _ _)).trans hu1
  have HS : Hid (s.size ≤ 700) := hs
  have HNR : Hid (NR n) := hnr
  clear hnr
  have hz1 := hq1.lt
  have hy1 := hr1.lt
  have hv : w1.heap.size ≠ c := by omega
  clear h hu1 hs
  go_wp2_with fail
  refine (pick_any c (A + 30) 4 _ (hc1.below (B := w1.heap.size) (by (go_light; repeat (first | with_reducible exact Below.refl _ _ | (with_reducible refine Below.setCell ?_ ?_ _; rotate_left; (focus first | (simp; done) | (simp; omega) | omega)) | (with_reducible refine Below.alloc ?_ ?_ _; rotate_left; (focus first | (simp; done) | (simp; omega) | omega)) | with_reducible refine Below.drew ?_))) (by omega)) (by omega) (by omega) (by omega)).mono ?_
  rintro e w2 ⟨r, r0, r1, rfl, hc2, hu2⟩
  have hr2 := Holds.upd (hr1.below (B := w1.heap.size) (by (go_light; repeat (first | with_reducible exact Below.refl _ _ | (with_reducible refine Below.setCell ?_ ?_ _; rotate_left; (focus first | (simp; done) | (simp; omega) | omega)) | (with_reducible refine Below.alloc ?_ ?_ _; rotate_left; (focus first | (simp; done) | (simp; omega) | omega)) | with_reducible refine Below.drew ?_))) hy1) hu2 hne
  have hq2 := Holds.upd (hq1.below (B := w1.heap.size) (by (go_light; repeat (first | with_reducible exact Below.refl _ _ | (with_reducible refine Below.setCell ?_ ?_ _; rotate_left; (focus first | (simp; done) | (simp; omega) | omega)) | (with_reducible refine Below.alloc ?_ ?_ _; rotate_left; (focus first | (simp; done) | (simp; omega) | omega)) | with_reducible refine Below.drew ?_))) hz1) hu2 hne'
  have hv2 : Holds w2 w1.heap.size k n s := Holds.upd ⟨by simp [go_sem], by simp [go_sem], by simp [go_sem], by simp [go_sem], by simp [go_sem], by simp [go_sem], by simp⟩ hu2 hv
  have HU2 : Hid (Upd c w w2) := (HU1.out.thenB (B := w1.heap.size) (by (go_light; repeat (first | with_reducible exact Below.refl _ _ | (with_reducible refine Below.setCell ?_ ?_ _; rotate_left; (focus first | (simp; done) | (simp; omega) | omega)) | (with_reducible refine Below.alloc ?_ ?_ _; rotate_left; (focus first | (simp; done) | (simp; omega) | omega)) | with_reducible refine Below.drew ?_))) (by omega)).trans hu2
  have d1 : w.heap.size ≠ w1.heap.size := by omega
  have d2 : w1.heap.size ≠ w.heap.size := by omega
  have d3 : w.heap.size + 1 ≠ w1.heap.size := by omega
  have d4 : w1.heap.size ≠ w.heap.size + 1 := by omega
  clear HU1 hu2 hr1 hq1 hc1
  by_cases t : r = 3
  · subst t
    have hr2' := hr2
    have hq2' := hq2
    have hv2' := hv2
    obtain ⟨v0, v1, v2, g0, g1, g2, hy3⟩ := hv2'
    clear hr2' hq2' g0 g1 g2
    go_wp2
    have hrd := Holds.drew hr2
    have hqd := Holds.drew hq2
    have hvd := Holds.drew hv2
    have hcd := IsCur.drew hc2
    go_region_with (go_at_call 69; refine (drawValue_any c (A + 32) w2.drew (hcd.mono (by omega)) (by omega)).mono ?_; rintro e w3 ⟨k3, n3, s3, hs3, hn3, rfl, hc3, hu3⟩; have hs3' := HS.out; obtain ⟨p0, p1, p2, p3, p4, p5, p6⟩ := Holds.upd hrd hu3 hne; obtain ⟨q0, q1, q2, q3, q4, q5, q6⟩ := Holds.upd hqd hu3 hne'; obtain ⟨o0, o1, o2, o3, o4, o5, o6⟩ := Holds.upd hvd hu3 hv; have HU3 : Hid (Upd c w w3) := HU2.out.trans ((Upd.of_below (below_drew _)).trans hu3))
    all_goals
      go_wp2
      refine bodyPost_ret (v := .tuple #[.agg #[.int .i64 k, .int .i64 n, .string s], .agg #[.int .i64 k3, .int .i64 n3, .string s3]]) (by simp [results, Tryd.results46, go_sem, p0, p1, p2, p3, p4, p5, p6, q0, q1, q2, q3, q4, q5, q6, o0, o1, o2, d1, d2, d3, d4]) rfl ?_
      refine drawnVV_mk hlt HS.out hs3 HNR.out hn3 hc3 (by omega) HU3.out ?_
      (go_light; repeat (first | with_reducible exact Below.refl _ _ | (with_reducible refine Below.setCell ?_ ?_ _; rotate_left; (focus first | (simp; done) | (simp; omega) | omega)) | (with_reducible refine Below.alloc ?_ ?_ _; rotate_left; (focus first | (simp; done) | (simp; omega) | omega)) | with_reducible refine Below.drew ?_))
  have t' : (r == 3) = false := by simpa using t
  have hv2' := hv2
  obtain ⟨v0, v1, v2, g0, g1, g2, hy3⟩ := hv2'
  clear t g0 g1 g2
  go_wp2_with fail
  refine (pick_any c (A + 32) 6 _ (hc2.mono (by omega)) (by omega) (by omega) (by omega)).mono ?_
  rintro e w4 ⟨u, u0, u1, rfl, hc4, hu4⟩
  have hr4 := hr2.upd hu4 hne
  have hq4 := hq2.upd hu4 hne'
  have hv4 := hv2.upd hu4 hv
  have HU4 : Hid (Upd c w w4) := HU2.out.trans hu4
  clear v0 v1 v2 hy3 hr2 hq2 hv2 HU2 hu4 hc2
  by_cases t1 : u = 5
  · subst t1
    obtain ⟨p0, p1, p2, p3, p4, p5, p6⟩ := hr4
    obtain ⟨q0, q1, q2, q3, q4, q5, q6⟩ := hq4
    obtain ⟨o0, o1, o2, o3, o4, o5, o6⟩ := hv4
    go_wp2
    go_region
    all_goals
      go_wp2
      refine bodyPost_ret (v := .tuple #[.agg #[.int .i64 k, .int .i64 n, .string s], .agg #[.int .i64 k, .int .i64 n, .string s]]) (by simp [results, Tryd.results46, go_sem, p0, p1, p2, p3, p4, p5, p6, q0, q1, q2, q3, q4, q5, q6, o0, o1, o2, d1, d2, d3, d4]) rfl ?_
      refine drawnVV_mk hlt HS.out HS.out HNR.out HNR.out hc4 (by omega) HU4.out ?_
      (go_light; repeat (first | with_reducible exact Below.refl _ _ | (with_reducible refine Below.setCell ?_ ?_ _; rotate_left; (focus first | (simp; done) | (simp; omega) | omega)) | (with_reducible refine Below.alloc ?_ ?_ _; rotate_left; (focus first | (simp; done) | (simp; omega) | omega)) | with_reducible refine Below.drew ?_))
  have t1' : (u == 5) = false := by simpa using t1
  have hv4' := hv4
  obtain ⟨v0, v1, v2, g0, g1, g2, hy3⟩ := hv4'
  clear t1 g0 g1 g2
  go_wp2_with fail
  refine (pick_any c (A + 34) 4 _ (hc4.mono (by omega)) (by omega) (by omega) (by omega)).mono ?_
  rintro e w5 ⟨x, x0, x1, rfl, hc5, hu5⟩
  have hr5 := hr4.upd hu5 hne
  have hq5 := hq4.upd hu5 hne'
  have hv5 := hv4.upd hu5 hv
  have HU5 : Hid (Upd c w w5) := HU4.out.trans hu5
  clear v0 v1 v2 hy3 hr4 hq4 hv4 HU4 hu5 hc4
  by_cases t2 : x = 3
  · subst t2
    have h5 : w.heap.size < w5.heap.size := hr5.lt
    have h5' : w5.heap.size ≠ c := by omega
    go_wp2_with fail
    refine (pick_any c (A + 36) 4 _ ((cur_alloc hc5 _).mono (by omega)) (by omega) (by omega) (by omega)).mono ?_
    rintro e w6 ⟨y, y0, y1, rfl, hc6, hu6⟩
    have hu6' : Upd c w5 w6 := (upd_alloc c w5 _).trans hu6
    have hcell : w6.cell? ⟨w5.heap.size, y.toNat, none⟩ = some (.int .i64 (kinds4.getD y.toNat 0)) := (hu6.cell (p := ⟨w5.heap.size, y.toNat, none⟩) (by simp) h5').trans (alloc_ints _ kinds4 y.toNat (by show y.toNat < 4; omega))
    generalize kinds4.getD y.toNat 0 = z at *
    have hr6 := hr5.upd hu6' hne
    have hq6 := hq5.upd hu6' hne'
    have hv6 := hv5.upd hu6' hv
    have HU6 : Hid (Upd c w w6) := HU5.out.trans hu6'
    clear hr5 hq5 hv5 HU5 hu6 hu6' hc5
    have hv6' := hv6
    obtain ⟨v0, v1, v2, g0, g1, g2, hy3⟩ := hv6'
    clear g0 g1 g2
    go_wp2
    have hrd := Holds.drew hr6
    have hqd := Holds.drew hq6
    have hvd := Holds.drew hv6
    have hcd := IsCur.drew hc6
    go_region_with (go_at_call 70; refine (drawKind_any c (A + 40) _ w6.drew (hcd.mono (by omega)) (by omega)).mono ?_; rintro e w3 ⟨k3, n3, s3, hs3, hn3, rfl, hc3, hu3⟩; have hs3' := HS.out; obtain ⟨p0, p1, p2, p3, p4, p5, p6⟩ := Holds.upd hrd hu3 hne; obtain ⟨q0, q1, q2, q3, q4, q5, q6⟩ := Holds.upd hqd hu3 hne'; obtain ⟨o0, o1, o2, o3, o4, o5, o6⟩ := Holds.upd hvd hu3 hv; have HU3 : Hid (Upd c w w3) := HU6.out.trans ((Upd.of_below (below_drew _)).trans hu3))
    all_goals
      go_wp2
      refine bodyPost_ret (v := .tuple #[.agg #[.int .i64 k, .int .i64 n, .string s], .agg #[.int .i64 k3, .int .i64 n3, .string s3]]) (by simp [results, Tryd.results46, go_sem, p0, p1, p2, p3, p4, p5, p6, q0, q1, q2, q3, q4, q5, q6, o0, o1, o2, d1, d2, d3, d4]) rfl ?_
      refine drawnVV_mk hlt HS.out (Nat.le_trans hs3 (by decide)) HNR.out hn3 hc3 (by omega) HU3.out ?_
      (go_light; repeat (first | with_reducible exact Below.refl _ _ | (with_reducible refine Below.setCell ?_ ?_ _; rotate_left; (focus first | (simp; done) | (simp; omega) | omega)) | (with_reducible refine Below.alloc ?_ ?_ _; rotate_left; (focus first | (simp; done) | (simp; omega) | omega)) | with_reducible refine Below.drew ?_))
  have t2' : (x == 3) = false := by simpa using t2
  have hv5' := hv5
  obtain ⟨v0, v1, v2, g0, g1, g2, hy3⟩ := hv5'
  clear t2 g0 g1 g2
  go_wp2
  have hrd := Holds.drew hr5
  have hqd := Holds.drew hq5
  have hvd := Holds.drew hv5
  have hcd := IsCur.drew hc5
  go_region_with (go_at_call 70; refine (drawKind_any c (A + 40) _ w5.drew (hcd.mono (by omega)) (by omega)).mono ?_; rintro e w3 ⟨k3, n3, s3, hs3, hn3, rfl, hc3, hu3⟩; have hs3' := HS.out; obtain ⟨p0, p1, p2, p3, p4, p5, p6⟩ := Holds.upd hrd hu3 hne; obtain ⟨q0, q1, q2, q3, q4, q5, q6⟩ := Holds.upd hqd hu3 hne'; obtain ⟨o0, o1, o2, o3, o4, o5, o6⟩ := Holds.upd hvd hu3 hv; have HU3 : Hid (Upd c w w3) := HU5.out.trans ((Upd.of_below (below_drew _)).trans hu3))
  all_goals
    go_wp2
    refine bodyPost_ret (v := .tuple #[.agg #[.int .i64 k, .int .i64 n, .string s], .agg #[.int .i64 k3, .int .i64 n3, .string s3]]) (by simp [results, Tryd.results46, go_sem, p0, p1, p2, p3, p4, p5, p6, q0, q1, q2, q3, q4, q5, q6, o0, o1, o2, d1, d2, d3, d4]) rfl ?_
    refine drawnVV_mk hlt HS.out (Nat.le_trans hs3 (by decide)) HNR.out hn3 hc3 (by omega) HU3.out ?_
    (go_light; repeat (first | with_reducible exact Below.refl _ _ | (with_reducible refine Below.setCell ?_ ?_ _; rotate_left; (focus first | (simp; done) | (simp; omega) | omega)) | (with_reducible refine Below.alloc ?_ ?_ _; rotate_left; (focus first | (simp; done) | (simp; omega) | omega)) | with_reducible refine Below.drew ?_))
end Go.Proofs.YtfgjleifhjegkaaDoor.Dr
namespace Go.Proofs.YtfgjleifhjegkaaDoor.Dr
open Go.ChangeShapes Go.WideShapes Go.ChangeAt Go.RowKit
set_option linter.unusedVariables false
set_option linter.unusedSimpArgs false
set_option maxRecDepth 100000
def tails5 : List ByteArray := [⟨#[]⟩, ⟨#[0]⟩, ⟨#[1]⟩, ⟨#[0, 0]⟩, ⟨#[97]⟩]
def tails5' : List ByteArray := [⟨#[]⟩, ⟨#[97]⟩, ⟨#[0]⟩, ⟨#[1]⟩, ⟨#[122]⟩]
theorem tails5_size (i : Nat) : (tails5.getD i ByteArray.empty).size ≤ 2 := getD_all (P := fun t : ByteArray => t.size ≤ 2) (by decide) (by decide) i
theorem tails5'_size (i : Nat) : (tails5'.getD i ByteArray.empty).size ≤ 2 := getD_all (P := fun t : ByteArray => t.size ≤ 2) (by decide) (by decide) i
theorem lit_tails5 (i : Nat) (h : i < 5) (h' : i < ([Value.string ⟨#[]⟩, Value.string ⟨#[0]⟩, Value.string ⟨#[1]⟩, Value.string ⟨#[0, 0]⟩, Value.string ⟨#[97]⟩] : List Value).length) : ([Value.string ⟨#[]⟩, Value.string ⟨#[0]⟩, Value.string ⟨#[1]⟩, Value.string ⟨#[0, 0]⟩, Value.string ⟨#[97]⟩] : List Value)[i]'h' = .string (tails5.getD i ByteArray.empty) := by
  have e : i = 0 ∨ i = 1 ∨ i = 2 ∨ i = 3 ∨ i = 4 := by omega
  rcases e with rfl | rfl | rfl | rfl | rfl <;> rfl
theorem lit_tails5' (i : Nat) (h : i < 5) (h' : i < ([Value.string ⟨#[]⟩, Value.string ⟨#[97]⟩, Value.string ⟨#[0]⟩, Value.string ⟨#[1]⟩, Value.string ⟨#[122]⟩] : List Value).length) : ([Value.string ⟨#[]⟩, Value.string ⟨#[97]⟩, Value.string ⟨#[0]⟩, Value.string ⟨#[1]⟩, Value.string ⟨#[122]⟩] : List Value)[i]'h' = .string (tails5'.getD i ByteArray.empty) := by
  have e : i = 0 ∨ i = 1 ∨ i = 2 ∨ i = 3 ∨ i = 4 := by omega
  rcases e with rfl | rfl | rfl | rfl | rfl <;> rfl
/-- Two drawn values, the cursor forgotten. -/
def Pair (w : World) (e : Ending) (w' : World) : Prop := ∃ (k n : Int) (s : ByteArray) (k' n' : Int) (s' : ByteArray), s.size ≤ 800 ∧ s'.size ≤ 800 ∧ NR n ∧ NR n' ∧ e = .returned (.tuple #[.agg #[.int .i64 k, .int .i64 n, .string s], .agg #[.int .i64 k', .int .i64 n', .string s']]) ∧ Below w.heap.size w w'
theorem pair_mk {w w1 w2 : World} {k n : Int} {s : ByteArray} {k' n' : Int} {s' : ByteArray} (hs : s.size ≤ 800) (hs' : s'.size ≤ 800) (hn : NR n) (hn' : NR n') (hu : Below w.heap.size w w1) (hb : Below w.heap.size w1 w2) : Pair w (.returned (.tuple #[.agg #[.int .i64 k, .int .i64 n, .string s], .agg #[.int .i64 k', .int .i64 n', .string s']])) w2 :=
  ⟨k, n, s, k', n', s', hs, hs', hn, hn', rfl, hu.trans hb⟩
theorem cur_new (w : World) (v0 : Option Addr) (len cap : Nat) (c : Nat) (hc : c = w.heap.size) (hl : len ≤ 1048576) (hb : ∀ j, j < len → ∃ g o b, v0 = some ⟨g, o, none⟩ ∧ g < w.heap.size ∧ w.cell? ⟨g, o + j, none⟩ = some (.int .u8 b) ∧ 0 ≤ b ∧ b < 256) :
    IsCur (w.alloc (.cells #[.slice v0 len cap, .int .i64 0, .int .i64 0, .int .i64 0] 65)) c 0 := by
  subst hc
  refine ⟨v0, len, cap, 0, 0, 0, ⟨by simp [go_sem], by simp [go_sem], by simp [go_sem], by simp [go_sem], by simp [go_sem], by simp [go_sem], by omega, by omega, by omega, by omega, hl, by simp, ?_⟩⟩
  intro j hj
  obtain ⟨g, o, b, e1, e2, e3, e4, e5⟩ := hb j hj
  exact ⟨g, o, b, e1, e2, ((below_alloc w _).cell (p := ⟨g, o + j, none⟩) e2).trans e3, e4, e5⟩
set_option maxHeartbeats 8000000 in
theorem drawCompare_any (v0 : Option Addr) (len cap : Nat) (w : World) (hl : len ≤ 1048576) (hb : ∀ j, j < len → ∃ g o b, v0 = some ⟨g, o, none⟩ ∧ g < w.heap.size ∧ w.cell? ⟨g, o + j, none⟩ = some (.int .u8 b) ∧ 0 ≤ b ∧ b < 256) :
    Calls Tryd.prog 25 #[.slice v0 len cap] w fun e w' => Pair w e w' := by
  have hc0 : IsCur (((w.alloc (.cells #[.int .i64 0, .int .i64 0, .string ⟨#[]⟩] 39)).alloc (.cells #[.int .i64 0, .int .i64 0, .string ⟨#[]⟩] 39)).alloc (.cells #[.slice v0 len cap, .int .i64 0, .int .i64 0, .int .i64 0] 65)) (w.heap.size + 1 + 1) 0 :=
    cur_new _ v0 len cap _ (by simp) hl (fun j hj => by
      obtain ⟨g, o, b, e1, e2, e3, e4, e5⟩ := hb j hj
      exact ⟨g, o, b, e1, by simp; omega, (((below_alloc w _).alloc (by simp) _).cell (p := ⟨g, o + j, none⟩) e2).trans e3, e4, e5⟩)
  have hne : w.heap.size ≠ w.heap.size + 1 + 1 := by omega
  have hne' : w.heap.size + 1 ≠ w.heap.size + 1 + 1 := by omega
  clear hb
  go_enter Tryd.func25, Tryd.ntmps25
  go_wp2_with fail
  refine (drawTwo_any (w.heap.size + 1 + 1) 0 _ hc0 (by omega)).mono ?_
  rintro e w1 ⟨k, n, s, k', n', s', hs, hs', hnr, hnr', rfl, hc1, hu1⟩
  have hr1 : Holds w1 w.heap.size 0 0 ⟨#[]⟩ := ((Holds.new w 0 0 ⟨#[]⟩).below ((below_alloc _ _).alloc (by simp) _) (by simp)).upd hu1 hne
  have hq1 : Holds w1 (w.heap.size + 1) 0 0 ⟨#[]⟩ := by
    have := ((Holds.new (w.alloc (.cells #[.int .i64 0, .int .i64 0, .string ⟨#[]⟩] 39)) 0 0 ⟨#[]⟩).below (below_alloc _ _) (by simp)).upd hu1 (by simp)
    simpa using this
  have BW1 : Hid (Below w.heap.size w w1) := Upd.below (((below_alloc w _).alloc (by simp) _).alloc (by simp; omega) _) hu1 (by omega)
  have hlt := hc1.lt
  clear hu1 hc0
  generalize hC : w.heap.size + 1 + 1 = c at *
  have HC : Hid (w.heap.size + 1 + 1 = c) := hC
  have hz := hq1.lt
  have hz' := hr1.lt
  have d1 : w.heap.size ≠ w1.heap.size := by omega
  have d2 : w1.heap.size ≠ w.heap.size := by omega
  have d3 : w.heap.size + 1 ≠ w1.heap.size := by omega
  have d4 : w1.heap.size ≠ w.heap.size + 1 := by omega
  have d5 : w.heap.size ≠ w1.heap.size + 1 := by omega
  have d6 : w1.heap.size + 1 ≠ w.heap.size := by omega
  have d7 : w.heap.size + 1 ≠ w1.heap.size + 1 := by omega
  have d8 : w1.heap.size + 1 ≠ w.heap.size + 1 := by omega
  have HS : Hid (s.size ≤ 700) := hs
  have HNR : Hid (NR n) := hnr
  have HNR' : Hid (NR n') := hnr'
  clear hnr hnr'
  have HS' : Hid (s'.size ≤ 700) := hs'
  clear hs hs'
  by_cases t3 : k = 3 ∧ k' = 3
  · obtain ⟨rfl, rfl⟩ := t3
    clear hC
    go_wp2_with fail
    refine (pick_any c 100 4 _ (hc1.below (B := w1.heap.size) (by (go_light; repeat (first | with_reducible exact Below.refl _ _ | (with_reducible refine Below.setCell ?_ ?_ _; rotate_left; (focus first | (simp; done) | (simp; omega) | omega)) | (with_reducible refine Below.alloc ?_ ?_ _; rotate_left; (focus first | (simp; done) | (simp; omega) | omega)) | with_reducible refine Below.drew ?_))) hlt) (by omega) (by omega) (by omega)).mono ?_
    rintro e w3 ⟨r, r0, r1, rfl, hc3, hu3⟩
    have va : w1.heap.size ≠ c := by omega
    have vb : w1.heap.size + 1 ≠ c := by omega
    have hr3 := Holds.upd (hr1.below (B := w1.heap.size) (by (go_light; repeat (first | with_reducible exact Below.refl _ _ | (with_reducible refine Below.setCell ?_ ?_ _; rotate_left; (focus first | (simp; done) | (simp; omega) | omega)) | (with_reducible refine Below.alloc ?_ ?_ _; rotate_left; (focus first | (simp; done) | (simp; omega) | omega)) | with_reducible refine Below.drew ?_))) hz') hu3 hne
    have hq3 := Holds.upd (hq1.below (B := w1.heap.size) (by (go_light; repeat (first | with_reducible exact Below.refl _ _ | (with_reducible refine Below.setCell ?_ ?_ _; rotate_left; (focus first | (simp; done) | (simp; omega) | omega)) | (with_reducible refine Below.alloc ?_ ?_ _; rotate_left; (focus first | (simp; done) | (simp; omega) | omega)) | with_reducible refine Below.drew ?_))) hz) hu3 hne'
    have ha3 : Holds w3 w1.heap.size 3 n s := Holds.upd ⟨by simp [go_sem], by simp [go_sem], by simp [go_sem], by simp [go_sem], by simp [go_sem], by simp [go_sem], by simp; omega⟩ hu3 va
    have hb3 : Holds w3 (w1.heap.size + 1) 3 n' s' := Holds.upd ⟨by simp [go_sem], by simp [go_sem], by simp [go_sem], by simp [go_sem], by simp [go_sem], by simp [go_sem], by simp⟩ hu3 vb
    have BW3 : Hid (Below w.heap.size w w3) := Upd.below (BW1.out.trans (by (go_light; repeat (first | with_reducible exact Below.refl _ _ | (with_reducible refine Below.setCell ?_ ?_ _; rotate_left; (focus first | (simp; done) | (simp; omega) | omega)) | (with_reducible refine Below.alloc ?_ ?_ _; rotate_left; (focus first | (simp; done) | (simp; omega) | omega)) | with_reducible refine Below.drew ?_)))) hu3 (by have := HC.out; omega)
    clear hr1 hq1 hc1 BW1 hu3
    by_cases e3 : r = 3
    · subst e3
      go_upto_region 4 with fail
      go_cut [28] from 28 to 36 (fun x wx => ∃ t : ByteArray, t.size ≤ 800 ∧ Holds wx w.heap.size 0 0 ⟨#[]⟩ ∧ Holds wx (w.heap.size + 1) 0 0 ⟨#[]⟩ ∧ Holds wx w1.heap.size 3 n s ∧ Holds wx (w1.heap.size + 1) 3 n' t ∧ IsCur wx c 110 ∧ Below w.heap.size w wx)
      case first =>
        have ha := ha3
        have hb := hb3
        have hcc := hc3
        have hcx : w3.heap.size ≠ c := by have := hc3.lt; omega
        have hs0 := HS.out
        have hs1 := HS'.out
        obtain ⟨a0, a1, a2, a3, a4, a5, a6⟩ := ha3
        obtain ⟨b0, b1, b2, b3, b4, b5, b6⟩ := hb3
        go_region_with (first | (go_at_call 47; refine (pick_any c 102 5 (w3.alloc (.cells (tails5.map Value.string).toArray 9)).drew ((cur_alloc hcc _).drew.mono (by omega)) (by omega) (by omega) (by omega)).mono ?_; rintro e w6 ⟨p, pz, po, rfl, hc6, hu6⟩; have hu6' : Upd c w3 w6 := ((upd_alloc c w3 _).trans (Upd.of_below (below_drew _))).trans hu6; have hx : w6.cell? ⟨w3.heap.size, p.toNat, none⟩ = some (.string (tails5.getD p.toNat ByteArray.empty)) := (hu6.cell (p := ⟨w3.heap.size, p.toNat, none⟩) (by simp) hcx).trans (alloc_strs w3 tails5 p.toNat (by show p.toNat < 5; omega)); have ht6 := tails5_size p.toNat; generalize tails5.getD p.toNat ByteArray.empty = t6 at *; obtain ⟨o0, o1, o2, o3, o4, o5, o6⟩ := Holds.upd ha hu6' va; obtain ⟨m0, m1, m2, m3, m4, m5, m6⟩ := Holds.upd hb hu6' vb) | (go_at_call 47; refine (pick_any c 102 5 w3.drew (hcc.drew.mono (by omega)) (by omega) (by omega) (by omega)).mono ?_; rintro e w6 ⟨p, pz, po, rfl, hc6, hu6⟩; have hu6' : Upd c w3 w6 := (Upd.of_below (below_drew _)).trans hu6; have hx2 : ∀ h', ([Value.string ⟨#[]⟩, Value.string ⟨#[0]⟩, Value.string ⟨#[1]⟩, Value.string ⟨#[0, 0]⟩, Value.string ⟨#[97]⟩] : List Value)[p.toNat]'h' = .string (tails5.getD p.toNat ByteArray.empty) := lit_tails5 p.toNat (by omega); have ht6 := tails5_size p.toNat; generalize tails5.getD p.toNat ByteArray.empty = t6 at *; obtain ⟨o0, o1, o2, o3, o4, o5, o6⟩ := Holds.upd ha hu6' va; obtain ⟨m0, m1, m2, m3, m4, m5, m6⟩ := Holds.upd hb hu6' vb))
        all_goals
          go_wp2_with fail
          go_meet
          refine ⟨s ++ t6, by rw [ByteArray.size_append]; omega, (hr3.upd hu6' hne).below (B := w1.heap.size + 1) (by (go_light; repeat (first | with_reducible exact Below.refl _ _ | (with_reducible refine Below.setCell ?_ ?_ _; rotate_left; (focus first | (simp; done) | (simp; omega) | omega)) | (with_reducible refine Below.alloc ?_ ?_ _; rotate_left; (focus first | (simp; done) | (simp; omega) | omega)) | with_reducible refine Below.drew ?_))) (by omega), (hq3.upd hu6' hne').below (B := w1.heap.size + 1) (by (go_light; repeat (first | with_reducible exact Below.refl _ _ | (with_reducible refine Below.setCell ?_ ?_ _; rotate_left; (focus first | (simp; done) | (simp; omega) | omega)) | (with_reducible refine Below.alloc ?_ ?_ _; rotate_left; (focus first | (simp; done) | (simp; omega) | omega)) | with_reducible refine Below.drew ?_))) (by omega), (ha.upd hu6' va).below (B := w1.heap.size + 1) (by (go_light; repeat (first | with_reducible exact Below.refl _ _ | (with_reducible refine Below.setCell ?_ ?_ _; rotate_left; (focus first | (simp; done) | (simp; omega) | omega)) | (with_reducible refine Below.alloc ?_ ?_ _; rotate_left; (focus first | (simp; done) | (simp; omega) | omega)) | with_reducible refine Below.drew ?_))) (by omega), ⟨by simp [go_sem, m0, m1, m2, m3, m4, m5, m6], by simp [go_sem, m0, m1, m2, m3, m4, m5, m6], by simp [go_sem, m0, m1, m2, m3, m4, m5, m6], by simp [go_sem, m0, m1, m2, m3, m4, m5, m6], by simp [go_sem, m0, m1, m2, m3, m4, m5, m6], by simp [go_sem, m0, m1, m2, m3, m4, m5, m6], by first | (simp [go_sem, m6]; done) | (simp [go_sem]; omega)⟩, (hc6.below (B := w1.heap.size + 1) (by (go_light; repeat (first | with_reducible exact Below.refl _ _ | (with_reducible refine Below.setCell ?_ ?_ _; rotate_left; (focus first | (simp; done) | (simp; omega) | omega)) | (with_reducible refine Below.alloc ?_ ?_ _; rotate_left; (focus first | (simp; done) | (simp; omega) | omega)) | with_reducible refine Below.drew ?_))) (by omega)).mono (by omega), (Upd.below BW3.out hu6' (by have := HC.out; omega)).trans (by (go_light; repeat (first | with_reducible exact Below.refl _ _ | (with_reducible refine Below.setCell ?_ ?_ _; rotate_left; (focus first | (simp; done) | (simp; omega) | omega)) | (with_reducible refine Below.alloc ?_ ?_ _; rotate_left; (focus first | (simp; done) | (simp; omega) | omega)) | with_reducible refine Below.drew ?_)))⟩
      case rest =>
        obtain ⟨t, ht, hr4, hq4, ha4, hb4, hc4, bw4⟩ := hcut
        have HT : Hid (t.size ≤ 800) := ht
        have BW4 : Hid (Below w.heap.size w wc) := bw4
        clear ht bw4 ha3 hb3 hr3 hq3 hc3 BW3
        go_upto_region 5 with fail
        go_cut [37] from 37 to 46 (fun x wx => ∃ u : ByteArray, u.size ≤ 800 ∧ Holds wx w.heap.size 0 0 ⟨#[]⟩ ∧ Holds wx (w.heap.size + 1) 0 0 ⟨#[]⟩ ∧ Holds wx w1.heap.size 3 n u ∧ Holds wx (w1.heap.size + 1) 3 n' t ∧ Below w.heap.size w wx)
        case first =>
          have ha := ha4
          have hb := hb4
          have hcc := hc4
          have hcx : wc.heap.size ≠ c := by have := hc4.lt; omega
          have hs0 := HS.out
          obtain ⟨a0, a1, a2, a3, a4, a5, a6⟩ := ha4
          obtain ⟨b0, b1, b2, b3, b4, b5, b6⟩ := hb4
          go_region_with (first | (go_at_call 47; refine (pick_any c 110 5 (wc.alloc (.cells (tails5'.map Value.string).toArray 9)).drew ((cur_alloc hcc _).drew.mono (by omega)) (by omega) (by omega) (by omega)).mono ?_; rintro e w6 ⟨p, pz, po, rfl, hc6, hu6⟩; have hu6' : Upd c wc w6 := ((upd_alloc c wc _).trans (Upd.of_below (below_drew _))).trans hu6; have hx : w6.cell? ⟨wc.heap.size, p.toNat, none⟩ = some (.string (tails5'.getD p.toNat ByteArray.empty)) := (hu6.cell (p := ⟨wc.heap.size, p.toNat, none⟩) (by simp) hcx).trans (alloc_strs wc tails5' p.toNat (by show p.toNat < 5; omega)); have ht6 := tails5'_size p.toNat; generalize tails5'.getD p.toNat ByteArray.empty = t6 at *; obtain ⟨o0, o1, o2, o3, o4, o5, o6⟩ := Holds.upd ha hu6' va; obtain ⟨m0, m1, m2, m3, m4, m5, m6⟩ := Holds.upd hb hu6' vb) | (go_at_call 47; refine (pick_any c 110 5 wc.drew (hcc.drew.mono (by omega)) (by omega) (by omega) (by omega)).mono ?_; rintro e w6 ⟨p, pz, po, rfl, hc6, hu6⟩; have hu6' : Upd c wc w6 := (Upd.of_below (below_drew _)).trans hu6; have hx2 : ∀ h', ([Value.string ⟨#[]⟩, Value.string ⟨#[97]⟩, Value.string ⟨#[0]⟩, Value.string ⟨#[1]⟩, Value.string ⟨#[122]⟩] : List Value)[p.toNat]'h' = .string (tails5'.getD p.toNat ByteArray.empty) := lit_tails5' p.toNat (by omega); have ht6 := tails5'_size p.toNat; generalize tails5'.getD p.toNat ByteArray.empty = t6 at *; obtain ⟨o0, o1, o2, o3, o4, o5, o6⟩ := Holds.upd ha hu6' va; obtain ⟨m0, m1, m2, m3, m4, m5, m6⟩ := Holds.upd hb hu6' vb))
          all_goals
            go_wp2_with fail
            go_meet
            refine ⟨s ++ (⟨#[0]⟩ ++ t6), by rw [ByteArray.size_append, ByteArray.size_append, show (ByteArray.mk #[0]).size = 1 from rfl]; omega, (hr4.upd hu6' hne).below (B := w1.heap.size) (by (go_light; repeat (first | with_reducible exact Below.refl _ _ | (with_reducible refine Below.setCell ?_ ?_ _; rotate_left; (focus first | (simp; done) | (simp; omega) | omega)) | (with_reducible refine Below.alloc ?_ ?_ _; rotate_left; (focus first | (simp; done) | (simp; omega) | omega)) | with_reducible refine Below.drew ?_))) (by omega), (hq4.upd hu6' hne').below (B := w1.heap.size) (by (go_light; repeat (first | with_reducible exact Below.refl _ _ | (with_reducible refine Below.setCell ?_ ?_ _; rotate_left; (focus first | (simp; done) | (simp; omega) | omega)) | (with_reducible refine Below.alloc ?_ ?_ _; rotate_left; (focus first | (simp; done) | (simp; omega) | omega)) | with_reducible refine Below.drew ?_))) (by omega), ⟨by simp [go_sem, o0, o1, o2, o3, o4, o5, o6], by simp [go_sem, o0, o1, o2, o3, o4, o5, o6], by simp [go_sem, o0, o1, o2, o3, o4, o5, o6], by simp [go_sem, o0, o1, o2, o3, o4, o5, o6], by simp [go_sem, o0, o1, o2, o3, o4, o5, o6], by simp [go_sem, o0, o1, o2, o3, o4, o5, o6], by first | (simp [go_sem, o6]; done) | (simp [go_sem]; omega)⟩, ⟨by simp [go_sem, m0, m1, m2, m3, m4, m5, m6], by simp [go_sem, m0, m1, m2, m3, m4, m5, m6], by simp [go_sem, m0, m1, m2, m3, m4, m5, m6], by simp [go_sem, m0, m1, m2, m3, m4, m5, m6], by simp [go_sem, m0, m1, m2, m3, m4, m5, m6], by simp [go_sem, m0, m1, m2, m3, m4, m5, m6], by first | (simp [go_sem, m6]; done) | (simp [go_sem]; omega)⟩, (Upd.below BW4.out hu6' (by have := HC.out; omega)).trans (by (go_light; repeat (first | with_reducible exact Below.refl _ _ | (with_reducible refine Below.setCell ?_ ?_ _; rotate_left; (focus first | (simp; done) | (simp; omega) | omega)) | (with_reducible refine Below.alloc ?_ ?_ _; rotate_left; (focus first | (simp; done) | (simp; omega) | omega)) | with_reducible refine Below.drew ?_)))⟩
        case rest =>
          obtain ⟨u, hu, hr5, hq5, ha5, hb5, bw5⟩ := hcut
          have HU : Hid (u.size ≤ 800) := hu
          have BW5 : Hid (Below w.heap.size w wc) := bw5
          obtain ⟨p0, p1, p2, p3, p4, p5, p6⟩ := hr5
          obtain ⟨q0, q1, q2, q3, q4, q5, q6⟩ := hq5
          obtain ⟨a0, a1, a2, a3, a4, a5, a6⟩ := ha5
          obtain ⟨b0, b1, b2, b3, b4, b5, b6⟩ := hb5
          clear hu bw5 hr4 hq4 ha4 hb4 hc4
          go_wp2
          go_region
          all_goals
            go_wp2
            refine bodyPost_ret (v := .tuple #[.agg #[.int .i64 3, .int .i64 n, .string u], .agg #[.int .i64 3, .int .i64 n', .string t]]) (by simp [results, Tryd.results25, go_sem, a0, a1, a2, b0, b1, b2, p0, p1, p2, p3, p4, p5, p6, q0, q1, q2, q3, q4, q5, q6, d1, d2, d3, d4, d5, d6, d7, d8]) rfl ?_
            refine pair_mk HU.out HT.out HNR.out HNR'.out BW5.out ?_
            (go_light; repeat (first | with_reducible exact Below.refl _ _ | (with_reducible refine Below.setCell ?_ ?_ _; rotate_left; (focus first | (simp; done) | (simp; omega) | omega)) | (with_reducible refine Below.alloc ?_ ?_ _; rotate_left; (focus first | (simp; done) | (simp; omega) | omega)) | with_reducible refine Below.drew ?_))
    · have e3' : (r == 3) = false := by simpa using e3
      clear e3
      obtain ⟨p0, p1, p2, p3, p4, p5, p6⟩ := hr3
      obtain ⟨q0, q1, q2, q3, q4, q5, q6⟩ := hq3
      obtain ⟨a0, a1, a2, a3, a4, a5, a6⟩ := ha3
      obtain ⟨b0, b1, b2, b3, b4, b5, b6⟩ := hb3
      go_wp2
      go_region
      all_goals
        go_wp2
        refine bodyPost_ret (v := .tuple #[.agg #[.int .i64 3, .int .i64 n, .string s], .agg #[.int .i64 3, .int .i64 n', .string s']]) (by simp [results, Tryd.results25, go_sem, a0, a1, a2, b0, b1, b2, p0, p1, p2, p3, p4, p5, p6, q0, q1, q2, q3, q4, q5, q6, d1, d2, d3, d4, d5, d6, d7, d8]) rfl ?_
        refine pair_mk (Nat.le_trans HS.out (by decide)) (Nat.le_trans HS'.out (by decide)) HNR.out HNR'.out BW3.out ?_
        (go_light; repeat (first | with_reducible exact Below.refl _ _ | (with_reducible refine Below.setCell ?_ ?_ _; rotate_left; (focus first | (simp; done) | (simp; omega) | omega)) | (with_reducible refine Below.alloc ?_ ?_ _; rotate_left; (focus first | (simp; done) | (simp; omega) | omega)) | with_reducible refine Below.drew ?_))
  · have t4 : (k == 3) = false ∨ ((k == 3) = true ∧ (k' == 3) = false) := by
      by_cases e1 : k = 3
      · right; simp [e1]; simp [e1] at t3; exact t3
      · left; simpa using e1
    clear t3 hC
    obtain ⟨p0, p1, p2, p3, p4, p5, p6⟩ := hr1
    obtain ⟨q0, q1, q2, q3, q4, q5, q6⟩ := hq1
    rcases t4 with e1 | ⟨e1, e2⟩
    · go_wp2
      go_region
      all_goals
        go_wp2
        refine bodyPost_ret (v := .tuple #[.agg #[.int .i64 k, .int .i64 n, .string s], .agg #[.int .i64 k', .int .i64 n', .string s']]) (by simp [results, Tryd.results25, go_sem, p0, p1, p2, p3, p4, p5, p6, q0, q1, q2, q3, q4, q5, q6, d1, d2, d3, d4, d5, d6, d7, d8]) rfl ?_
        refine pair_mk (Nat.le_trans HS.out (by decide)) (Nat.le_trans HS'.out (by decide)) HNR.out HNR'.out BW1.out ?_
        (go_light; repeat (first | with_reducible exact Below.refl _ _ | (with_reducible refine Below.setCell ?_ ?_ _; rotate_left; (focus first | (simp; done) | (simp; omega) | omega)) | (with_reducible refine Below.alloc ?_ ?_ _; rotate_left; (focus first | (simp; done) | (simp; omega) | omega)) | with_reducible refine Below.drew ?_))
    · go_wp2
      go_region
      all_goals
        go_wp2
        refine bodyPost_ret (v := .tuple #[.agg #[.int .i64 k, .int .i64 n, .string s], .agg #[.int .i64 k', .int .i64 n', .string s']]) (by simp [results, Tryd.results25, go_sem, p0, p1, p2, p3, p4, p5, p6, q0, q1, q2, q3, q4, q5, q6, d1, d2, d3, d4, d5, d6, d7, d8]) rfl ?_
        refine pair_mk (Nat.le_trans HS.out (by decide)) (Nat.le_trans HS'.out (by decide)) HNR.out HNR'.out BW1.out ?_
        (go_light; repeat (first | with_reducible exact Below.refl _ _ | (with_reducible refine Below.setCell ?_ ?_ _; rotate_left; (focus first | (simp; done) | (simp; omega) | omega)) | (with_reducible refine Below.alloc ?_ ?_ _; rotate_left; (focus first | (simp; done) | (simp; omega) | omega)) | with_reducible refine Below.drew ?_))
end Go.Proofs.YtfgjleifhjegkaaDoor.Dr
