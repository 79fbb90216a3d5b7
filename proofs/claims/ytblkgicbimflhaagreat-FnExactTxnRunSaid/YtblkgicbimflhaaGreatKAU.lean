import Derived.Test.YtblkgicbimflhaaGreatKAT
import Derived.Test.YtblkgicbimflhaaGreatKAF
namespace Go.Proofs.YtblkgicbimflhaaGreat
open Go.ChangeShapes Go.WideShapes Go.ChangeAt Go.RowKit
set_option linter.unusedVariables false
set_option linter.unusedSimpArgs false
set_option maxRecDepth 100000
open List (setIfInBounds_toArray set_cons_zero set_cons_succ)
set_option maxHeartbeats 16000000 in
theorem eqO_e (t : Opn) (cs ds : List Value) (w : World) (hB : BO 1048576 t) (hC : CO 0 w cs t) (hD : CO 0 w ds t) :
 Calls Tryz.prog 33 #[.agg cs.toArray, .agg ds.toArray] w fun e w' => e = .returned (.bool true) ∧ Below w.heap.size w w' := by
 unfold CO at hC hD
 subst hC hD
 go_enter Tryz.func33, Tryz.ntmps33
 go_wp2
 go_ret
 exact ⟨rfl, (below_alloc w _).alloc (by simp) _⟩
set_option maxHeartbeats 8000000 in
theorem eqOS_same (v u : Value) (us : List Opn) (w : World) (hb : us.length ≤ 1048576 ∧ ∀ t ∈ us, BO 1048576 t) (hv : RS 7 CO 0 w v us) (hu : RS 7 CO 0 w u us) :
 Calls Tryz.prog 16 #[v, u] w fun e w' => e = .returned (.bool true) ∧ Below w.heap.size w w' := by
 obtain ⟨hn, hz⟩ := hb
 have HZ : Hid (∀ t ∈ us, BO 1048576 t) := hz
 clear hz
 obtain ⟨a, ca, rfl, hva⟩ := hv
 obtain ⟨b, cb, rfl, hub⟩ := hu
 go_enter Tryz.func16, Tryz.ntmps16
 go_wp2
 go_loopw [5] (fun i wr => ∃ k : Nat, k ≤ us.length ∧ i = .int .i64 k ∧ Below w.heap.size w wr) (fun i _ => us.length - (intOf i).toNat)
 case atStart => exact ⟨0, Nat.zero_le _, rfl, Below.refl _ _⟩
 case round =>
  obtain ⟨k, hk, rfl, hbel⟩ := hrel
  have hbs := hbel.size
  by_cases hlt : k < us.length
  ·have hlti : (k : Int) < us.length := by omega
   obtain ⟨g, o, rfl, _, hg, hgc⟩ := hva (by omega)
   obtain ⟨g2, o2, rfl, _, hg2, hgc2⟩ := hub (by omega)
   obtain ⟨cs, hC, hcell⟩ := hgc k hlt
   obtain ⟨ds, hD, hcell2⟩ := hgc2 k hlt
   have hC1 := liesO.below hC hbel
   have hD1 := liesO.below hD hbel
   have hB := HZ.out us[k] (List.getElem_mem hlt)
   clear hgc hgc2 hva hub
   generalize us[k] = t at *
   have hcn := fun W (h : Below wr.heap.size wr W) => eqO_e t cs ds W hB (liesO.below hC1 h) (liesO.below hD1 h)
   clear hC1 hD1
   have he := hC
   unfold CO at he
   subst he
   have hxe := hD
   unfold CO at hxe
   subst hxe
   have c0 : wr.cell? ⟨g, o + k * 7, none⟩ = some (.int .i64 t.kd) := (hbel.cell (p := ⟨g, o + k * 7, none⟩) hg).trans (hcell 0 (by omega))
   have c1 : wr.cell? ⟨g, o + k * 7 + 1, none⟩ = some (.int .i64 t.ss) := (hbel.cell (p := ⟨g, o + k * 7 + 1, none⟩) hg).trans (hcell 1 (by omega))
   have c2 : wr.cell? ⟨g, o + k * 7 + 2, none⟩ = some (.int .i64 t.tb) := (hbel.cell (p := ⟨g, o + k * 7 + 2, none⟩) hg).trans (hcell 2 (by omega))
   have c3 : wr.cell? ⟨g, o + k * 7 + 3, none⟩ = some (.int .i64 t.ky) := (hbel.cell (p := ⟨g, o + k * 7 + 3, none⟩) hg).trans (hcell 3 (by omega))
   have c4 : wr.cell? ⟨g, o + k * 7 + 4, none⟩ = some (.int .i64 t.vl) := (hbel.cell (p := ⟨g, o + k * 7 + 4, none⟩) hg).trans (hcell 4 (by omega))
   have c5 : wr.cell? ⟨g, o + k * 7 + 5, none⟩ = some (.int .i64 t.md) := (hbel.cell (p := ⟨g, o + k * 7 + 5, none⟩) hg).trans (hcell 5 (by omega))
   have c6 : wr.cell? ⟨g, o + k * 7 + 6, none⟩ = some (.string t.nm) := (hbel.cell (p := ⟨g, o + k * 7 + 6, none⟩) hg).trans (hcell 6 (by omega))
   have d0 : wr.cell? ⟨g2, o2 + k * 7, none⟩ = some (.int .i64 t.kd) := (hbel.cell (p := ⟨g2, o2 + k * 7, none⟩) hg2).trans (hcell2 0 (by omega))
   have d1 : wr.cell? ⟨g2, o2 + k * 7 + 1, none⟩ = some (.int .i64 t.ss) := (hbel.cell (p := ⟨g2, o2 + k * 7 + 1, none⟩) hg2).trans (hcell2 1 (by omega))
   have d2 : wr.cell? ⟨g2, o2 + k * 7 + 2, none⟩ = some (.int .i64 t.tb) := (hbel.cell (p := ⟨g2, o2 + k * 7 + 2, none⟩) hg2).trans (hcell2 2 (by omega))
   have d3 : wr.cell? ⟨g2, o2 + k * 7 + 3, none⟩ = some (.int .i64 t.ky) := (hbel.cell (p := ⟨g2, o2 + k * 7 + 3, none⟩) hg2).trans (hcell2 3 (by omega))
   have d4 : wr.cell? ⟨g2, o2 + k * 7 + 4, none⟩ = some (.int .i64 t.vl) := (hbel.cell (p := ⟨g2, o2 + k * 7 + 4, none⟩) hg2).trans (hcell2 4 (by omega))
   have d5 : wr.cell? ⟨g2, o2 + k * 7 + 5, none⟩ = some (.int .i64 t.md) := (hbel.cell (p := ⟨g2, o2 + k * 7 + 5, none⟩) hg2).trans (hcell2 5 (by omega))
   have d6 : wr.cell? ⟨g2, o2 + k * 7 + 6, none⟩ = some (.string t.nm) := (hbel.cell (p := ⟨g2, o2 + k * 7 + 6, none⟩) hg2).trans (hcell2 6 (by omega))
   clear hcell hcell2
   have hdr : Below wr.heap.size wr wr.drew := (Below.refl _ wr).drew
   go_wp2
   go_region_with (go_at_call 33; refine (hcn _ hdr).mono ?_; rintro e w1 ⟨rfl, hb'⟩; replace hb' := undrew hb'; have bw1 : Below w.heap.size w w1 := hbel.trans (hb'.mono hbs))
   all_goals
    go_wp2
    go_roundw
    case rel => exact ⟨k + 1, by omega, by go_num, by first | exact bw1 | exact bw1.drew⟩
    case measure => simp [intOf]; omega
  ·go_wp2
   go_ret
   exact ⟨rfl, hbel⟩
set_option maxHeartbeats 16000000 in
theorem eqP_e (t : (Int × Int)) (cs ds : List Value) (w : World) (hC : CPr 0 w cs t) (hD : CPr 0 w ds t) :
 Calls Tryz.prog 78 #[.agg cs.toArray, .agg ds.toArray] w fun e w' => e = .returned (.bool true) ∧ Below w.heap.size w w' := by
 unfold CPr pairV at hC hD
 subst hC hD
 go_enter Tryz.func78, Tryz.ntmps78
 go_wp2
 go_ret
 exact ⟨rfl, (below_alloc w _).alloc (by simp) _⟩
set_option maxHeartbeats 8000000 in
theorem eqPS_same (v u : Value) (us : List (Int × Int)) (w : World) (hb : us.length ≤ 1048576) (hv : RS 2 CPr 0 w v us) (hu : RS 2 CPr 0 w u us) :
 Calls Tryz.prog 56 #[v, u] w fun e w' => e = .returned (.bool true) ∧ Below w.heap.size w w' := by
 have hn := hb
 obtain ⟨a, ca, rfl, hva⟩ := hv
 obtain ⟨b, cb, rfl, hub⟩ := hu
 go_enter Tryz.func56, Tryz.ntmps56
 go_wp2
 go_loopw [5] (fun i wr => ∃ k : Nat, k ≤ us.length ∧ i = .int .i64 k ∧ Below w.heap.size w wr) (fun i _ => us.length - (intOf i).toNat)
 case atStart => exact ⟨0, Nat.zero_le _, rfl, Below.refl _ _⟩
 case round =>
  obtain ⟨k, hk, rfl, hbel⟩ := hrel
  have hbs := hbel.size
  by_cases hlt : k < us.length
  ·have hlti : (k : Int) < us.length := by omega
   obtain ⟨g, o, rfl, _, hg, hgc⟩ := hva (by omega)
   obtain ⟨g2, o2, rfl, _, hg2, hgc2⟩ := hub (by omega)
   obtain ⟨cs, hC, hcell⟩ := hgc k hlt
   obtain ⟨ds, hD, hcell2⟩ := hgc2 k hlt
   have hC1 := liesPr.below hC hbel
   have hD1 := liesPr.below hD hbel
   clear hgc hgc2 hva hub
   generalize us[k] = t at *
   have hcn := fun W (h : Below wr.heap.size wr W) => eqP_e t cs ds W (liesPr.below hC1 h) (liesPr.below hD1 h)
   clear hC1 hD1
   have he := hC
   unfold CPr pairV at he
   subst he
   have hxe := hD
   unfold CPr pairV at hxe
   subst hxe
   have c0 : wr.cell? ⟨g, o + k * 2, none⟩ = some (.int .i64 t.1) := (hbel.cell (p := ⟨g, o + k * 2, none⟩) hg).trans (hcell 0 (by omega))
   have c1 : wr.cell? ⟨g, o + k * 2 + 1, none⟩ = some (.int .i64 t.2) := (hbel.cell (p := ⟨g, o + k * 2 + 1, none⟩) hg).trans (hcell 1 (by omega))
   have d0 : wr.cell? ⟨g2, o2 + k * 2, none⟩ = some (.int .i64 t.1) := (hbel.cell (p := ⟨g2, o2 + k * 2, none⟩) hg2).trans (hcell2 0 (by omega))
   have d1 : wr.cell? ⟨g2, o2 + k * 2 + 1, none⟩ = some (.int .i64 t.2) := (hbel.cell (p := ⟨g2, o2 + k * 2 + 1, none⟩) hg2).trans (hcell2 1 (by omega))
   clear hcell hcell2
   have hdr : Below wr.heap.size wr wr.drew := (Below.refl _ wr).drew
   go_wp2
   go_region_with (go_at_call 78; refine (hcn _ hdr).mono ?_; rintro e w1 ⟨rfl, hb'⟩; replace hb' := undrew hb'; have bw1 : Below w.heap.size w w1 := hbel.trans (hb'.mono hbs))
   all_goals
    go_wp2
    go_roundw
    case rel => exact ⟨k + 1, by omega, by go_num, by first | exact bw1 | exact bw1.drew⟩
    case measure => simp [intOf]; omega
  ·go_wp2
   go_ret
   exact ⟨rfl, hbel⟩
set_option maxHeartbeats 16000000 in
theorem eqA_e (t : Obn) (cs ds : List Value) (w : World) (hB : BA 1048576 t) (hC : CA 0 w cs t) (hD : CA 0 w ds t) :
 Calls Tryz.prog 32 #[.agg cs.toArray, .agg ds.toArray] w fun e w' => e = .returned (.bool true) ∧ Below w.heap.size w w' := by
 obtain ⟨v0, rfl, r0⟩ := hC
 have R0 := hid r0
 obtain ⟨a0, q0, rfl, _⟩ := r0
 obtain ⟨xv0, rfl, xr0⟩ := hD
 have S0 := hid xr0
 obtain ⟨xa0, xq0, rfl, _⟩ := xr0
 have bw : Below w.heap.size w ((w.alloc (.cells #[.int .i64 t.code, .int .i64 t.vl, .int .i64 t.st, .bool t.fd, .slice a0 t.ps.length q0] 38)).alloc (.cells #[.int .i64 t.code, .int .i64 t.vl, .int .i64 t.st, .bool t.fd, .slice xa0 t.ps.length xq0] 38)) := (below_alloc w _).alloc (by simp) _
 have K0 := hid ((blk_new w [.int .i64 t.code, .int .i64 t.vl, .int .i64 t.st, .bool t.fd, .slice a0 t.ps.length q0] 38).below (below_alloc _ (.cells #[.int .i64 t.code, .int .i64 t.vl, .int .i64 t.st, .bool t.fd, .slice xa0 t.ps.length xq0] 38)) (by simp))
 have K1 : Hid (Blk ((w.alloc (.cells #[.int .i64 t.code, .int .i64 t.vl, .int .i64 t.st, .bool t.fd, .slice a0 t.ps.length q0] 38)).alloc (.cells #[.int .i64 t.code, .int .i64 t.vl, .int .i64 t.st, .bool t.fd, .slice xa0 t.ps.length xq0] 38)) (w.heap.size + 1) [.int .i64 t.code, .int .i64 t.vl, .int .i64 t.st, .bool t.fd, .slice xa0 t.ps.length xq0]) := blkD w [.int .i64 t.code, .int .i64 t.vl, .int .i64 t.st, .bool t.fd, .slice a0 t.ps.length q0] [.int .i64 t.code, .int .i64 t.vl, .int .i64 t.st, .bool t.fd, .slice xa0 t.ps.length xq0] 38 38
 have hz : w.heap.size + 1 < (((w.alloc (.cells #[.int .i64 t.code, .int .i64 t.vl, .int .i64 t.st, .bool t.fd, .slice a0 t.ps.length q0] 38)).alloc (.cells #[.int .i64 t.code, .int .i64 t.vl, .int .i64 t.st, .bool t.fd, .slice xa0 t.ps.length xq0] 38))).heap.size := by simp
 go_enter Tryz.func32, Tryz.ntmps32
 go_wp2_with (go_at_call 56; fail)
 refine (eqPS_same _ _ t.ps _ hB (R0.out.below liesPr bw) (S0.out.below liesPr bw)).mono ?_
 rintro e w1 ⟨rfl, hb1⟩
 replace bw : Below w.heap.size w w1 := bw.trans (hb1.mono bw.size)
 replace K0 := hid (K0.out.below hb1 (by omega))
 replace K1 := hid (K1.out.below hb1 (by omega))
 replace hz : w.heap.size + 1 < w1.heap.size := Nat.lt_of_lt_of_le hz hb1.size
 clear hb1
 clear K0 K1
 go_wp2
 go_ret
 exact ⟨rfl, bw⟩
set_option maxHeartbeats 8000000 in
theorem eqAS_same (v u : Value) (us : List Obn) (w : World) (hb : us.length ≤ 1048576 ∧ ∀ t ∈ us, BA 1048576 t) (hv : RS 5 CA 0 w v us) (hu : RS 5 CA 0 w u us) :
 Calls Tryz.prog 15 #[v, u] w fun e w' => e = .returned (.bool true) ∧ Below w.heap.size w w' := by
 obtain ⟨hn, hz⟩ := hb
 have HZ : Hid (∀ t ∈ us, BA 1048576 t) := hz
 clear hz
 obtain ⟨a, ca, rfl, hva⟩ := hv
 obtain ⟨b, cb, rfl, hub⟩ := hu
 go_enter Tryz.func15, Tryz.ntmps15
 go_wp2
 go_loopw [5] (fun i wr => ∃ k : Nat, k ≤ us.length ∧ i = .int .i64 k ∧ Below w.heap.size w wr) (fun i _ => us.length - (intOf i).toNat)
 case atStart => exact ⟨0, Nat.zero_le _, rfl, Below.refl _ _⟩
 case round =>
  obtain ⟨k, hk, rfl, hbel⟩ := hrel
  have hbs := hbel.size
  by_cases hlt : k < us.length
  ·have hlti : (k : Int) < us.length := by omega
   obtain ⟨g, o, rfl, _, hg, hgc⟩ := hva (by omega)
   obtain ⟨g2, o2, rfl, _, hg2, hgc2⟩ := hub (by omega)
   obtain ⟨cs, hC, hcell⟩ := hgc k hlt
   obtain ⟨ds, hD, hcell2⟩ := hgc2 k hlt
   have hC1 := liesA.below hC hbel
   have hD1 := liesA.below hD hbel
   have hB := HZ.out us[k] (List.getElem_mem hlt)
   clear hgc hgc2 hva hub
   generalize us[k] = t at *
   have hcn := fun W (h : Below wr.heap.size wr W) => eqA_e t cs ds W hB (liesA.below hC1 h) (liesA.below hD1 h)
   clear hC1 hD1
   obtain ⟨v0, rfl, r0⟩ := hC
   obtain ⟨a0, q0, rfl, _⟩ := r0
   obtain ⟨xv0, rfl, xr0⟩ := hD
   obtain ⟨xa0, xq0, rfl, _⟩ := xr0
   have c0 : wr.cell? ⟨g, o + k * 5, none⟩ = some (.int .i64 t.code) := (hbel.cell (p := ⟨g, o + k * 5, none⟩) hg).trans (hcell 0 (by omega))
   have c1 : wr.cell? ⟨g, o + k * 5 + 1, none⟩ = some (.int .i64 t.vl) := (hbel.cell (p := ⟨g, o + k * 5 + 1, none⟩) hg).trans (hcell 1 (by omega))
   have c2 : wr.cell? ⟨g, o + k * 5 + 2, none⟩ = some (.int .i64 t.st) := (hbel.cell (p := ⟨g, o + k * 5 + 2, none⟩) hg).trans (hcell 2 (by omega))
   have c3 : wr.cell? ⟨g, o + k * 5 + 3, none⟩ = some (.bool t.fd) := (hbel.cell (p := ⟨g, o + k * 5 + 3, none⟩) hg).trans (hcell 3 (by omega))
   have c4 : wr.cell? ⟨g, o + k * 5 + 4, none⟩ = some (.slice a0 t.ps.length q0) := (hbel.cell (p := ⟨g, o + k * 5 + 4, none⟩) hg).trans (hcell 4 (by omega))
   have d0 : wr.cell? ⟨g2, o2 + k * 5, none⟩ = some (.int .i64 t.code) := (hbel.cell (p := ⟨g2, o2 + k * 5, none⟩) hg2).trans (hcell2 0 (by omega))
   have d1 : wr.cell? ⟨g2, o2 + k * 5 + 1, none⟩ = some (.int .i64 t.vl) := (hbel.cell (p := ⟨g2, o2 + k * 5 + 1, none⟩) hg2).trans (hcell2 1 (by omega))
   have d2 : wr.cell? ⟨g2, o2 + k * 5 + 2, none⟩ = some (.int .i64 t.st) := (hbel.cell (p := ⟨g2, o2 + k * 5 + 2, none⟩) hg2).trans (hcell2 2 (by omega))
   have d3 : wr.cell? ⟨g2, o2 + k * 5 + 3, none⟩ = some (.bool t.fd) := (hbel.cell (p := ⟨g2, o2 + k * 5 + 3, none⟩) hg2).trans (hcell2 3 (by omega))
   have d4 : wr.cell? ⟨g2, o2 + k * 5 + 4, none⟩ = some (.slice xa0 t.ps.length xq0) := (hbel.cell (p := ⟨g2, o2 + k * 5 + 4, none⟩) hg2).trans (hcell2 4 (by omega))
   clear hcell hcell2
   have hdr : Below wr.heap.size wr wr.drew := (Below.refl _ wr).drew
   go_wp2
   go_region_with (go_at_call 32; refine (hcn _ hdr).mono ?_; rintro e w1 ⟨rfl, hb'⟩; replace hb' := undrew hb'; have bw1 : Below w.heap.size w w1 := hbel.trans (hb'.mono hbs))
   all_goals
    go_wp2
    go_roundw
    case rel => exact ⟨k + 1, by omega, by go_num, by first | exact bw1 | exact bw1.drew⟩
    case measure => simp [intOf]; omega
  ·go_wp2
   go_ret
   exact ⟨rfl, hbel⟩
theorem szO_e (t : Opn) (cs : List Value) (left : Int) (w : World) (h0 : 0 ≤ left) (hl : left ≤ 1048576) (hB : BO maxLen t) (hC : CO 0 w cs t) : Calls Tryz.prog 30 #[.agg cs.toArray, .int .i64 left] w fun e w' => SzR (BO 1048576 t) left e ∧ Below w.heap.size w w' := by
 unfold CO at hC
 subst hC
 unfold BO maxLen at hB
 by_cases h : (t.nm.size : Int) ≤ left
 ·obtain ⟨m, hm⟩ : ∃ m : Nat, left - (t.nm.size : Int) = m := ⟨(left - t.nm.size).toNat, by omega⟩
  have HR : Hid (SzR (BO 1048576 t) left (.returned (.int .i64 (left - t.nm.size)))) := .inr ⟨m, by omega, by rw [hm], by unfold BO; omega⟩
  clear hm
  go_enter Tryz.func30, Tryz.ntmps30
  go_wp2
  go_ret
  exact ⟨HR.out, below_alloc _ _⟩
 ·have h' : left < (t.nm.size : Int) := by omega
  clear h
  go_enter Tryz.func30, Tryz.ntmps30
  go_wp2
  go_ret
  exact ⟨.inl rfl, below_alloc _ _⟩
set_option maxHeartbeats 4000000 in
theorem szOS_any (a : Option Addr) (cap : Nat) (us : List Opn) (left : Int) (w : World) (h0 : 0 ≤ left) (hl : left ≤ 1048576) (hb : us.length ≤ maxLen ∧ ∀ t ∈ us, BO maxLen t) (hv : RS 7 CO 0 w (.slice a us.length cap) us) :
 Calls Tryz.prog 13 #[.slice a us.length cap, .int .i64 left] w fun e w' => SzR (us.length ≤ 1048576 ∧ ∀ t ∈ us, BO 1048576 t) left e ∧ Below w.heap.size w w' := by
 obtain ⟨hn, hsz⟩ := hb
 have HSZ : Hid (∀ t ∈ us, BO maxLen t) := hsz
 clear hsz
 unfold maxLen at hn
 have hw : IntKind.i64.wrap (left - us.length) = left - us.length := by simp only [IntKind.wrap_i64, wrap64]; omega
 by_cases hbig : left - (us.length : Int) < 0
 ·clear hv
  go_enter Tryz.func13, Tryz.ntmps13
  go_wp2
  all_goals first | (exfalso; go_light; omega) | skip
  go_ret
  exact ⟨.inl rfl, Below.refl _ _⟩
 ·obtain ⟨a', cap', hsl, hcells⟩ := hv
  simp only [Value.slice.injEq] at hsl
  obtain ⟨rfl, _, rfl⟩ := hsl
  obtain ⟨m0, hm0⟩ : ∃ m : Nat, left - (us.length : Int) = m := ⟨(left - us.length).toNat, by omega⟩
  rw [hm0] at hw hbig
  go_enter Tryz.func13, Tryz.ntmps13
  go_wp2
  all_goals first | (exfalso; go_light; omega) | skip
  go_loopw [1, 5] (fun r i wr => ∃ (k m : Nat), k ≤ us.length ∧ (m : Int) ≤ left ∧ r = .int .i64 m ∧ i = .int .i64 k ∧ Hid (∀ t ∈ us.take k, BO 1048576 t) ∧ Below w.heap.size w wr) (fun _ i _ => us.length - (intOf i).toNat)
  case atStart => exact ⟨0, m0, Nat.zero_le _, by omega, rfl, rfl, fun t h => by simp at h, Below.refl _ _⟩
  case round =>
   obtain ⟨k, m, hk, hm, rfl, rfl, HO, hbel⟩ := hrel
   have hbs := hbel.size
   by_cases hlt : k < us.length
   ·have hlti : (k : Int) < us.length := by omega
    obtain ⟨g, o, rfl, _, hg, hgc⟩ := hcells (by omega)
    obtain ⟨cs, hC, hcell⟩ := hgc k hlt
    have hC1 := liesO.below hC hbel
    have hB := HSZ.out us[k] (List.getElem_mem hlt)
    have HST : Hid (BO 1048576 us[k] → ∀ t ∈ us.take (k + 1), BO 1048576 t) := hid (fun z t ht => by
     rw [show us.take (k + 1) = us.take k ++ [us[k]] by rw [List.take_add_one, List.getElem?_eq_getElem hlt]; rfl] at ht
     rcases List.mem_append.1 ht with h | h
     ·exact HO.out t h
     ·rw [List.mem_singleton] at h; rw [h]; exact z)
    clear hgc hcells
    generalize us[k] = t at *
    have hcn := szO_e t cs m wr (by omega) (by omega) hB hC1
    clear hC1
    have he := hC
    unfold CO at he
    subst he
    have c0 : wr.cell? ⟨g, o + k * 7, none⟩ = some (.int .i64 t.kd) := (hbel.cell (p := ⟨g, o + k * 7, none⟩) hg).trans (hcell 0 (by omega))
    have c1 : wr.cell? ⟨g, o + k * 7 + 1, none⟩ = some (.int .i64 t.ss) := (hbel.cell (p := ⟨g, o + k * 7 + 1, none⟩) hg).trans (hcell 1 (by omega))
    have c2 : wr.cell? ⟨g, o + k * 7 + 2, none⟩ = some (.int .i64 t.tb) := (hbel.cell (p := ⟨g, o + k * 7 + 2, none⟩) hg).trans (hcell 2 (by omega))
    have c3 : wr.cell? ⟨g, o + k * 7 + 3, none⟩ = some (.int .i64 t.ky) := (hbel.cell (p := ⟨g, o + k * 7 + 3, none⟩) hg).trans (hcell 3 (by omega))
    have c4 : wr.cell? ⟨g, o + k * 7 + 4, none⟩ = some (.int .i64 t.vl) := (hbel.cell (p := ⟨g, o + k * 7 + 4, none⟩) hg).trans (hcell 4 (by omega))
    have c5 : wr.cell? ⟨g, o + k * 7 + 5, none⟩ = some (.int .i64 t.md) := (hbel.cell (p := ⟨g, o + k * 7 + 5, none⟩) hg).trans (hcell 5 (by omega))
    have c6 : wr.cell? ⟨g, o + k * 7 + 6, none⟩ = some (.string t.nm) := (hbel.cell (p := ⟨g, o + k * 7 + 6, none⟩) hg).trans (hcell 6 (by omega))
    clear hcell
    go_wp2_with (go_at_call 30; fail)
    refine hcn.mono ?_
    rintro e w1 ⟨hS, hb1⟩
    have bw1 : Below w.heap.size w w1 := hbel.trans (hb1.mono hbs)
    clear hb1 hcn
    rcases hS with rfl | ⟨m', hm', rfl, hp⟩
    ·go_wp2
     go_ret
     exact ⟨.inl rfl, bw1⟩
    ·have hm0 : ¬ (m' : Int) < 0 := by omega
     have HY := hid (HST.out hp)
     clear HST
     go_wp2
     go_roundw
     case rel => exact ⟨k + 1, m', by omega, by omega, rfl, by go_num, HY, bw1⟩
     case measure => simp [intOf]; omega
   ·have hkn : k = us.length := by omega
    subst hkn
    rw [List.take_length] at HO
    have hlti : ¬ (us.length : Int) < us.length := by omega
    have HS : Hid (SzR (us.length ≤ 1048576 ∧ ∀ t ∈ us, BO 1048576 t) left (.returned (.int .i64 m))) := .inr ⟨m, hm, rfl, by omega, HO.out⟩
    clear HO
    go_wp2
    go_ret
    exact ⟨HS.out, hbel⟩
theorem own_same {w w' : World} {b e k n : Nat} {v : Value} {xs : List Value} (h : w.ownsRow b e k v n xs) (hs : ∀ j, v.ownBlock = some j → w'.heap[j]? = w.heap[j]?) : w'.ownsRow b e k v n xs := by
 obtain ⟨h1, h2⟩ := h
 refine ⟨h1, ?_⟩
 rcases h2 with h2 | ⟨g, cap, cur, rfl, hg1, hg2, hg3⟩
 ·exact .inl h2
 ·exact .inr ⟨g, cap, cur, rfl, hg1, by rw [hs g rfl]; exact hg2, hg3⟩
theorem AnR.below {b : Nat} {w w' : World} {v : Value} {ps : List (Value × Obn)} (h : AnR b w v ps) (hb : Below w.heap.size w w') : AnR b w' v ps :=
 ⟨own_below h.1 hb, fun x hx => (h.2.1 x hx).below hb, h.2.2⟩
theorem AnR.blk {b : Nat} {w w' : World} {v : Value} {ps : List (Value × Obn)} (h : AnR b w v ps) (hs : ∀ j, b ≤ j → j < w.heap.size → w'.heap[j]? = w.heap[j]?) : AnR b w' v ps :=
 ⟨own_same h.1 (fun j hj => hs j (h.1.lt j hj).1 (h.1.lt j hj).2), fun x hx => own_same (h.2.1 x hx) (fun j hj => hs j (World.ownsRow.lt (h.2.1 x hx) j hj).1 (World.ownsRow.lt (h.2.1 x hx) j hj).2), h.2.2⟩
theorem AnR.form {b : Nat} {w : World} {v : Value} {ps : List (Value × Obn)} (h : AnR b w v ps) : ∃ a c, v = .slice a ps.length c := formR h.1
theorem AnR.rs {b : Nat} {w : World} {v : Value} {ps : List (Value × Obn)} (h : AnR b w v ps) : RS 5 CA 0 w v (ps.map Prod.snd) := by
 have hf : Fill 5 CA 0 (ps.map Prod.snd) (ps.map Prod.snd).length (ps.flatMap obC) w := by
  have key : ∀ qs : List (Value × Obn), (∀ x ∈ qs, Gr pairV 92 2 b w x.1 x.2.ps) → Fill 5 CA 0 (qs.map Prod.snd) (qs.map Prod.snd).length (qs.flatMap obC) w := by
   intro qs
   induction qs with
   | nil => intro _; exact fill_nil _ _ _ _
   | cons x r ih =>
     intro hq
     have h1 : Fill 5 CA 0 [x.2] 1 (obC x) w := fill_one liesA ⟨x.1, rfl, ((hq x List.mem_cons_self).rs liesPr (fun p _ => rfl)).mono liesPr (Nat.zero_le _)⟩
     exact h1.append (ih (fun y hy => hq y (List.mem_cons_of_mem _ hy)))
  exact key ps h.2.1
 exact hf.own liesA (own_base0 (by rw [List.length_map]; exact h.1)) (Nat.le_refl _)
def HeldA (w : World) (v : Value) (ps : List (Value × Obn)) : Prop := ∃ a cap, v = .slice a ps.length cap ∧ (0 < ps.length → ∃ g B, a = some ⟨g, 0, none⟩ ∧ OM B w g ps 1 ps.length ps.length)
theorem HeldA.below {w w' : World} {v : Value} {ps : List (Value × Obn)} (h : HeldA w v ps) (hb : Below w.heap.size w w') : HeldA w' v ps := by
 obtain ⟨a, cap, rfl, h2⟩ := h
 refine ⟨a, cap, rfl, fun hp => ?_⟩
 obtain ⟨g, B, h3, h4⟩ := h2 hp
 exact ⟨g, B, h3, h4.below hb⟩
theorem markA_all (v : Value) (ps : List (Value × Obn)) (w a0 : World) (B0 B : Nat) (hM : ∀ x ∈ ps, x.2.ps.length ≤ 1048576) (hn : ps.length ≤ 1000) (hb : Below B0 a0 w) (hB : B0 ≤ B) (h : AnR B w v ps) :
 Calls Tryz.prog 18 #[v, .int .i64 1] w fun e w' => e = .returned (.int .i64 (1 + kA ps ps.length)) ∧ Below B0 a0 w' ∧ HeldA w' v ps := by
 obtain ⟨a, cap, rfl⟩ := h.form
 rcases Nat.eq_zero_or_pos ps.length with h0 | h0
 ·have hp : ps = [] := by cases ps with | nil => rfl | cons x r => simp at h0
  subst hp
  refine (markAS_none a cap 1 w).mono ?_
  rintro e w' ⟨rfl, rfl⟩
  exact ⟨by simp [kA], hb, a, cap, rfl, fun h => absurd h (Nat.lt_irrefl _)⟩
 ·have h2 := h.1.2
  rcases h2 with ⟨_, hz⟩ | ⟨g, cp, cur, he, hg1, hg2⟩
  ·omega
  ·simp only [Value.slice.injEq] at he
   obtain ⟨rfl, _, rfl⟩ := he
   refine (markAS_any g cap ps 1 w a0 B0 B (by omega) (by omega) h.dis hM hn hb hB (h.om 1)).mono ?_
   rintro e w' ⟨rfl, hb', hm⟩
   exact ⟨rfl, hb', _, _, rfl, fun _ => ⟨g, B, rfl, hm⟩⟩
theorem heldA_all (v : Value) (ps : List (Value × Obn)) (w : World) (hM : ∀ x ∈ ps, x.2.ps.length ≤ 1048576) (hn : ps.length ≤ 1000) (h : HeldA w v ps) :
 Calls Tryz.prog 19 #[v, .int .i64 1] w fun e w' => e = .returned (.int .i64 (1 + kA ps ps.length)) ∧ w' = w := by
 obtain ⟨a, cap, rfl, h2⟩ := h
 rcases Nat.eq_zero_or_pos ps.length with h0 | h0
 ·have hp : ps = [] := by cases ps with | nil => rfl | cons x r => simp at h0
  subst hp
  refine (heldAS_none a cap 1 w).mono ?_
  rintro e w' ⟨rfl, rfl⟩
  exact ⟨by simp [kA], rfl⟩
 ·obtain ⟨g, B, rfl, hm⟩ := h2 h0
  exact heldAS_any g cap ps 1 w B (by omega) (by omega) hM hn hm
def TxnA (L : List Obn) (cd : Int) (w : World) (e : Ending) (w' : World) : Prop := ∃ v ps, e = .returned (.tuple #[v, .int .i64 cd]) ∧ AnR w.heap.size w' v ps ∧ RS 5 CA 0 w' v L ∧ Below w.heap.size w w' ∧ ps.length ≤ 1000 ∧ (∀ x ∈ ps, x.2.ps.length ≤ 1048576) ∧ ps.map Prod.snd = L
def TxnOf (F : Nat) (us : List Opn) (L : List Obn) (cd : Int) : Prop := ∀ (W : World) (a : Option Addr) (c : Nat), RS 7 CO 0 W (.slice a us.length c) us → Calls Tryz.prog F #[.slice a us.length c] W fun e w' => TxnA L cd W e w'
set_option maxHeartbeats 8000000 in
theorem txn_law (la : Option Addr) (lc : Nat) (us : List Opn) (w : World) (hus : us.length ≤ maxLen ∧ ∀ t ∈ us, BO maxLen t) (hv : RS 7 CO 0 w (.slice la us.length lc) us) (L : List Obn) (cd : Int) (hlen : L.length ≤ 1000 ∧ ∀ t ∈ L, t.ps.length ≤ 1048576)
 (hspec : (us.length ≤ 1048576 ∧ ∀ t ∈ us, BO 1048576 t) → TxnOf 8 us L cd) (himpl : (us.length ≤ 1048576 ∧ ∀ t ∈ us, BO 1048576 t) → TxnOf 9 us L cd) :
 Calls Tryz.prog 5 #[.slice la us.length lc] w fun e w' => e = .returned (.bool true) ∧ Below w.heap.size w w' := by
 have HV : Hid (RS 7 CO 0 w (.slice la us.length lc) us) := hv
 have hs1 := szOS_any la lc us 1048576 w (by omega) (by omega) hus hv
 have HBL : Hid (L.length ≤ 1048576 ∧ ∀ t ∈ L, BA 1048576 t) := hid (⟨by have := hlen.1; omega, fun t ht => hlen.2 t ht⟩)
 have HS0 := hid hspec
 have HI0 := hid himpl
 clear hlen hv hus hspec himpl
 go_enter Tryz.func5, Tryz.ntmps5
 go_wp2_with (go_at_call 13; fail)
 refine hs1.mono ?_
 rintro e w1 ⟨hsz, bw1⟩
 rcases hsz with rfl | ⟨m, hm, rfl, hn⟩
 ·clear hs1
  go_wp2
  go_ret
  exact ⟨rfl, bw1⟩
 have hm0 : ¬ (m : Int) < 0 := by omega
 have HBO := hid hn
 have hnl := hn.1
 have HSP := hid (HS0.out hn)
 have HIM := hid (HI0.out hn)
 unfold TxnOf at HSP HIM
 have ht9 := fun W (h : Below w.heap.size w W) => toOS_w la lc us W HBO.out (HV.out.below liesO h)
 clear hs1 hm hn HS0 HI0
 go_wp2_with (go_at_call 14; fail)
 refine (ht9 _ bw1).mono ?_
 rintro e w2 ⟨rfl, hr2, hb2⟩
 have bw2 : Below w.heap.size w w2 := bw1.trans (hb2.mono bw1.size)
 have hsp := HSP.out w2 _ us.length (hr2.rs (fun h => h))
 clear hr2 hb2 hm0
 go_wp2_with (go_at_call 8; fail)
 refine hsp.mono ?_
 rintro e w3 ⟨v3, ps3, rfl, _, hr3, hb3, _, _, _⟩
 have bw3 : Below w.heap.size w w3 := bw2.trans (hb3.mono bw2.size)
 have HR33 := hid hr3
 have HBW3 := hid bw3
 obtain ⟨wa, wc, rfl, _⟩ := hr3
 clear hsp hb3 bw1 bw2
 go_wp2_with (go_at_call 14; fail)
 refine (ht9 _ bw3).mono ?_
 rintro e w4 ⟨rfl, hr4, hb4⟩
 have bw4 : Below w.heap.size w w4 := bw3.trans (hb4.mono bw3.size)
 have HR34 := hid (HR33.out.below liesA hb4)
 have HB34 := hid hb4
 have HR4 := hid hr4
 have hlt4 := hr4.1
 have him := HIM.out w4 _ us.length (hr4.rs (fun h => h))
 obtain ⟨gx, hgx⟩ : ∃ x, x = w3.heap.size := ⟨_, rfl⟩
 rw [← hgx] at him HR4 HB34 hlt4 ⊢
 have HGX : Hid (w.heap.size ≤ gx) := hid (by rw [hgx]; exact bw3.size)
 have HG3 := hid hgx
 clear hr4 hb4 hgx
 go_wp2_with (go_at_call 9; fail)
 refine him.mono ?_
 rintro e w5 ⟨v5, ps, rfl, ho5, hr5, hb5, hpl, hpm, hpe⟩
 have HPE := hid hpe
 have HPM := hid hpm
 have bw5 : Below w.heap.size w w5 := bw4.trans (hb5.mono bw4.size)
 have HO5 := hid ho5
 obtain ⟨ga, gc, rfl⟩ := ho5.form
 have hgl : ps.length = L.length := by
  obtain ⟨a', c', h1, _⟩ := hr5
  simp only [Value.slice.injEq] at h1
  exact h1.2.1
 have HR45 := hid (HR4.out.below liesO hb5)
 have HB5 := hid hb5
 have HR35 := hid (HR34.out.below liesA hb5)
 have he1 := eqAS_same _ _ L w5 HBL.out hr5 HR35.out
 have HGL := hid hgl
 clear him hb5 hr5 HR34 hpm ho5 hgl hpe
 go_wp2_with (go_at_call 15; fail)
 refine he1.mono ?_
 rintro e w6 ⟨rfl, hb6⟩
 have bw6 : Below w.heap.size w w6 := bw5.trans (hb6.mono bw5.size)
 replace HO5 := hid (HO5.out.below (hb6))
 replace HR45 := hid (HR45.out.below liesO hb6)
 have HB6 : Hid (Below w4.heap.size w4 w6) := HB5.out.trans (hb6.mono HB5.out.size)
 clear he1 hb6 HR35 HB5 bw5 bw4 bw3
 go_wp2_with (go_at_call 14; fail)
 refine (ht9 _ bw6).mono ?_
 rintro e w7 ⟨rfl, hr7, hb7⟩
 have bw7 : Below w.heap.size w w7 := bw6.trans (hb7.mono bw6.size)
 replace HO5 := hid (HO5.out.below hb7)
 have HB7 : Hid (Below w4.heap.size w4 w7) := HB6.out.trans (hb7.mono HB6.out.size)
 have he2 := eqOS_same _ _ us w7 HBO.out ((HR45.out.below liesO hb7).rs (cap := us.length) (fun h => h)) (hr7.rs (cap := us.length) (fun h => h))
 clear hb7 hr7 HR45 HB6 bw6
 go_wp2_with (go_at_call 16; fail)
 refine he2.mono ?_
 rintro e w8 ⟨rfl, hb8⟩
 replace HO5 := hid (HO5.out.below hb8)
 have hb48 : Below w4.heap.size w4 w8 := HB7.out.trans (hb8.mono HB7.out.size)
 have X8 : Below gx w3 w8 := HB34.out.trans (hb48.mono (by omega))
 have hmk := markOS_any gx us.length us _ w8 w3 gx hnl (HR4.out.below liesO hb48) X8 (Nat.le_refl _)
 clear he2 hb8 HB7 HB34 X8 bw7 HR4
 go_wp2_with (go_at_call 17; fail)
 refine hmk.mono ?_
 rintro e w9 ⟨⟨k9, hk9, rfl⟩, X9, hs9, hm9⟩
 have hk9n : ¬ k9 < 0 := by omega
 replace HO5 := hid (HO5.out.blk (fun j hj hjl => hm9 j hjl (by omega)))
 have Y9 : Below w3.heap.size w3 w9 := (by rw [← HG3.out]; exact X9)
 have HR39 := hid (HR33.out.below liesA Y9)
 have hr59 : RS 5 CA 0 w9 (.slice ga ps.length gc) L := (by have := HO5.out.rs; rwa [HPE.out] at this)
 have he3 := eqAS_same _ _ L w9 HBL.out hr59 HR39.out
 have hx9 : gx ≤ w9.heap.size := by have := Y9.size; have := HG3.out; omega
 clear hmk hm9 HR39 Y9 hr59 hk9 hs9 hb48
 go_wp2_with (go_at_call 15; fail)
 refine he3.mono ?_
 rintro e w10 ⟨rfl, hb10⟩
 replace HO5 := hid (HO5.out.below hb10)
 have X10 : Below gx w3 w10 := X9.trans (hb10.mono hx9)
 have hmi := markA_all _ ps w10 w3 gx w4.heap.size HPM.out hpl X10 (by omega) HO5.out
 clear he3 hb10 X9 hx9 HO5 X10
 go_wp2_with (go_at_call 18; fail)
 refine hmi.mono ?_
 rintro e w11 ⟨rfl, X11, hT⟩
 have HT := hid hT
 obtain ⟨mm, hmm⟩ : ∃ x : Nat, (1 : Int) + kA ps ps.length = x := ⟨1 + kA ps ps.length, by omega⟩
 have hhe := heldA_all _ ps w11 HPM.out hpl hT
 rw [hmm] at hhe ⊢
 have hmm0 : ¬ (mm : Int) < 0 := by omega
 have HMM := hid hmm
 clear hmi hT hmm
 go_wp2_with (go_at_call 19; fail)
 refine hhe.mono ?_
 rintro e w11' ⟨rfl, hww⟩
 replace hww := hww.symm
 subst hww
 have bw11 : Below w.heap.size w w11 := HBW3.out.trans (X11.mono HGX.out)
 have Y11 : Below w3.heap.size w3 w11 := (by rw [← HG3.out]; exact X11)
 have HR311 := hid (HR33.out.below liesA Y11)
 clear hhe Y11 X11
 go_wp2_with (go_at_call 14; fail)
 refine (ht9 _ bw11).mono ?_
 rintro e w12 ⟨rfl, hr12, hb12⟩
 have bw12 : Below w.heap.size w w12 := bw11.trans (hb12.mono bw11.size)
 replace HT := hid (HT.out.below hb12)
 replace HR311 := hid (HR311.out.below liesA hb12)
 have him2 := HIM.out w12 _ us.length (hr12.rs (fun h => h))
 clear hr12 hb12 bw11
 go_wp2_with (go_at_call 9; fail)
 refine him2.mono ?_
 rintro e w13 ⟨v13, ps13, rfl, ho13, hr13, hb13, _, _, _⟩
 have bw13 : Below w.heap.size w w13 := bw12.trans (hb13.mono bw12.size)
 replace HT := hid (HT.out.below hb13)
 replace HR311 := hid (HR311.out.below liesA hb13)
 have he4 := eqAS_same _ _ L w13 HBL.out hr13 HR311.out
 obtain ⟨ha, hc, rfl⟩ := ho13.form
 clear him2 hb13 bw12 HR311 ho13 hr13
 go_wp2_with (go_at_call 15; fail)
 refine he4.mono ?_
 rintro e w14 ⟨rfl, hb14⟩
 have bw14 : Below w.heap.size w w14 := bw13.trans (hb14.mono bw13.size)
 have hhe2 := heldA_all _ ps w14 HPM.out hpl (HT.out.below hb14)
 rw [HMM.out] at hhe2
 clear he4 hb14 bw13 HT
 go_wp2_with (go_at_call 19; fail)
 refine hhe2.mono ?_
 rintro e w15 ⟨rfl, hww⟩
 replace hww := hww.symm
 subst hww
 go_wp2
 go_ret
 exact ⟨rfl, bw14⟩
end Go.Proofs.YtblkgicbimflhaaGreat
