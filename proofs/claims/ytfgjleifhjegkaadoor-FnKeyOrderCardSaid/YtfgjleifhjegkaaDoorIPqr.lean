import Derived.Test.YtfgjleifhjegkaaDoorNA
import Derived.Test.YtfgjleifhjegkaaDoorKG0
namespace Go.Proofs.YtfgjleifhjegkaaDoor
open Go.ChangeShapes Go.WideShapes Go.ChangeAt Go.RowKit
set_option linter.unusedVariables false
set_option linter.unusedSimpArgs false
set_option maxRecDepth 100000
/-- An intake, as it stands. -/
structure St (B q : Nat) (w W : World) (rv : Value) (sh : Bool) (l : List Int) : Prop where
  gq : GQ q w W
  blk : Blk W q [rv, .bool sh]
  ys : YS B W rv l
theorem St.set {B q b j : Nat} {w W : World} {rv : Value} {sh : Bool} {l : List Int} {u : Value} (h : St B q w W rv sh l) (hB : B ≤ q) (hq : q < w.heap.size) (hb : w.heap.size ≤ b) : St B q w (W.setCell ⟨b, j, none⟩ u) rv sh l :=
  ⟨h.gq.setNew hb, h.blk.other (by omega), h.ys.same fun g i hg => World.cell?_setCell_far W ⟨b, j, none⟩ ⟨g, i, none⟩ u (by simp; omega)⟩
theorem St.alloc {B q : Nat} {w W : World} {rv : Value} {sh : Bool} {l : List Int} {o : Obj} (h : St B q w W rv sh l) (hB : B ≤ q) (hq : q < w.heap.size) : St B q w (W.alloc o) rv sh l :=
  have hs := h.gq.size
  ⟨h.gq.trans (GQ.alloc q W o), h.blk.below (below_alloc _ _) (by omega), h.ys.gq (GQ.alloc q W o) hB (by omega)⟩
theorem St.on {B q : Nat} {w W W' : World} {rv rv' : Value} {sh sh' : Bool} {l l' : List Int} (h : St B q w W rv sh l) (hg : GQ q W W') (hb : Blk W' q [rv', .bool sh']) (hy : YS B W' rv' l') : St B q w W' rv' sh' l' := ⟨h.gq.trans hg, hb, hy⟩
def PkP (B q : Nat) (t : VA) (r : List Int) (w : World) (e : Ending) (w' : World) : Prop := ∃ rv sh, e = .returned (.agg #[.int .i64 t.k, .int .i64 t.n, .string t.s]) ∧ St B q w w' rv sh r
/-- The value at the head of a key, and what is left. -/
def pkI : List Int → VA × List Int
  | [] => (⟨0, 0, noS⟩, [])
  | b :: r => if b / 16 = 1 ∨ b / 16 = 2 then (⟨b / 16, turnN (nmI (pcL r 8).1), noS⟩, (pcL r 8).2)
    else if b / 16 = 3 then (⟨3, 0, strOfNums (ktI r).1⟩, (ktI r).2)
    else if b / 16 = 4 then (⟨4, nmI (pcL r 1).1, noS⟩, (pcL r 1).2)
    else if b / 16 = 5 then (⟨5, nmI (pcL r 4).1 - 2147483648, noS⟩, (pcL r 4).2)
    else (⟨b / 16, 0, noS⟩, r)
theorem nm_small4 {r : List Int} (hb : Byt r) : 0 ≤ nmI (pcL r 4).1 ∧ nmI (pcL r 4).1 ≤ 4294967295 := by
  have h1 := numL_lt _ (byt_pc hb 4).1
  have h2 : (pcL r 4).1.length ≤ 4 := by
    unfold pcL
    split
    · rw [List.length_take]; omega
    · simp
  have h3 : 256 ^ (pcL r 4).1.length ≤ 256 ^ 4 := Nat.pow_le_pow_right (by omega) h2
  have h4 : 256 ^ 4 = 4294967296 := by decide
  generalize (pcL r 4).1 = p at *
  have h5 : numL p < 4294967296 := by omega
  clear h1 h2 h3 h4
  simp only [nmI, wrap64]
  omega
theorem sub_small4 {r : List Int} (hb : Byt r) : IntKind.i64.wrap (nmI (pcL r 4).1 - 2147483648) = nmI (pcL r 4).1 - 2147483648 := by
  have := nm_small4 hb
  generalize nmI (pcL r 4).1 = z at *
  simp only [IntKind.wrap_i64]
  omega
set_option maxHeartbeats 8000000 in
theorem kpi1 (B q : Nat) (v : Value) (b : Int) (r : List Int) (sh : Bool) (w : World) (hq : q < w.heap.size) (hB : B ≤ q) (hK : Blk w q [v, .bool sh]) (hv : YS B w v (b :: r)) (hb : Byt (b :: r)) (hl : r.length ≤ 1000000000000) (hkd : b / 16 = 1) :
    Calls Tryd.prog 41 #[.pointer (some ⟨q, 0, none⟩)] w fun e w' => PkP B q ⟨1, turnN (nmI (pcL r 8).1), noS⟩ (pcL r 8).2 w e w' := by
  have hbb := hb b (List.mem_cons_self ..)
  have HBR : Hid (Byt r) := (fun x hx => hb x (List.mem_cons_of_mem _ hx) : Byt r)
  have S0 : St B q w w v sh (b :: r) := ⟨GQ.refl _ _, hK, hv⟩
  have S1 : St B q w (w.alloc (.cells #[.int .i64 0, .int .i64 0, .string ⟨#[]⟩] 39)) v sh (b :: r) := S0.alloc hB hq
  have hnb := number_any B q v (b :: r) sh 1 (w.alloc (.cells #[.int .i64 0, .int .i64 0, .string ⟨#[]⟩] 39)) (by simp; omega) hB S1.blk S1.ys hb
  unfold NbP at hnb
  rw [pc_one, nm_one hbb.1 hbb.2] at hnb
  have hqt : b.tdiv 16 = 1 := by rw [Int.tdiv_eq_ediv_of_nonneg hbb.1]; exact hkd
  have hqd : b / 16 = 1 := hkd
  have HS1 := hid S1
  have HR0 := hid (blk_new w [.int .i64 0, .int .i64 0, .string ⟨#[]⟩] 39)
  clear hK hv hb S0 S1 hkd
  go_enter Tryd.func41, Tryd.ntmps41
  go_wp2_with (go_at_call 44; fail)
  refine hnb.mono ?_
  rintro e w1 ⟨rv1, s1, rfl, hg1, hk1, hv1⟩
  have hs1 : w.heap.size < w1.heap.size := by have := hg1.size; simp at this; omega
  have HS2 : Hid (St B q w (w1.alloc (.cells #[.int .i64 (1), .int .i64 0, .string ⟨#[]⟩] 39)) rv1 s1 r) := (HS1.out.on hg1 hk1 hv1).alloc hB hq
  have HR1 : Hid (Blk (w1.alloc (.cells #[.int .i64 (1), .int .i64 0, .string ⟨#[]⟩] 39)) w.heap.size [.int .i64 0, .int .i64 0, .string ⟨#[]⟩]) := (HR0.out.gq hg1 (by simp) (by omega)).below (below_alloc _ _) hs1
  have HN1 := hid (blk_new w1 [.int .i64 (1), .int .i64 0, .string ⟨#[]⟩] 39)
  clear hnb hg1 hk1 hv1 HS1 HR0
  have hnb2 := number_any B q rv1 r s1 8 (w1.alloc (.cells #[.int .i64 (1), .int .i64 0, .string ⟨#[]⟩] 39)) (by simp; omega) hB HS2.out.blk HS2.out.ys HBR.out
  go_wp2_with (go_at_call 44; fail)
  refine hnb2.mono ?_
  rintro e w2 ⟨rv2, s2, rfl, hg2, hk2, hv2⟩
  have hs2 : w.heap.size < w2.heap.size ∧ w1.heap.size < w2.heap.size := by have := hg2.size; simp at this; omega
  have HS3 := hid (HS2.out.on hg2 hk2 hv2)
  have HR2 : Hid (Blk w2 w.heap.size [.int .i64 0, .int .i64 0, .string ⟨#[]⟩]) := HR1.out.gq hg2 (by simp; omega) (by omega)
  have HN2 : Hid (Blk w2 w1.heap.size [.int .i64 (1), .int .i64 0, .string ⟨#[]⟩]) := HN1.out.gq hg2 (by simp) (by omega)
  have hne : w.heap.size ≠ w1.heap.size := by omega
  have hne2 : w1.heap.size ≠ w.heap.size := by omega
  have c0 : w2.cell? ⟨w1.heap.size, 0, none⟩ = some (.int .i64 (1)) := (HN2.out 0 (by simp)).1
  have c1 : w2.cell? ⟨w1.heap.size, 1, none⟩ = some (.int .i64 0) := (HN2.out 1 (by simp)).1
  have c2 : w2.cell? ⟨w1.heap.size, 2, none⟩ = some (.string ⟨#[]⟩) := (HN2.out 2 (by simp)).1
  have f1 : w2.frozen? ⟨w1.heap.size, 1, none⟩ = false := (HN2.out 1 (by simp)).2
  have f2 : w2.frozen? ⟨w1.heap.size, 2, none⟩ = false := (HN2.out 2 (by simp)).2
  have r0 : w2.cell? ⟨w.heap.size, 0, none⟩ = some (.int .i64 0) := (HR2.out 0 (by simp)).1
  have r1 : w2.cell? ⟨w.heap.size, 1, none⟩ = some (.int .i64 0) := (HR2.out 1 (by simp)).1
  have r2 : w2.cell? ⟨w.heap.size, 2, none⟩ = some (.string ⟨#[]⟩) := (HR2.out 2 (by simp)).1
  have g0 : w2.frozen? ⟨w.heap.size, 0, none⟩ = false := (HR2.out 0 (by simp)).2
  have g1 : w2.frozen? ⟨w.heap.size, 1, none⟩ = false := (HR2.out 1 (by simp)).2
  have g2 : w2.frozen? ⟨w.heap.size, 2, none⟩ = false := (HR2.out 2 (by simp)).2
  clear hnb2 hg2 hk2 hv2 HS2 HR1 HN1 HR2 HN2
  have htu := fun W => turned_impl (nmI (pcL r 8).1) W (nmI_range _).1 (nmI_range _).2
  go_wp2_with (go_at_call 56; refine (htu _).mono ?_; rintro e w3 ⟨rfl, hw3⟩; replace hw3 := hw3.symm; subst hw3)
  refine bodyPost_ret (v := .agg #[.int .i64 (⟨1, turnN (nmI (pcL r 8).1), noS⟩ : VA).k, .int .i64 (⟨1, turnN (nmI (pcL r 8).1), noS⟩ : VA).n, .string (⟨1, turnN (nmI (pcL r 8).1), noS⟩ : VA).s]) (by simp [results, Tryd.results41, go_sem, hne, hne2, noS, r0, r1, r2]) rfl ⟨rv2, s2, rfl, ?_⟩
  refine St.set ?_ hB hq (by omega)
  refine St.set ?_ hB hq (by omega)
  refine St.set ?_ hB hq (by omega)
  refine St.set ?_ hB hq (by omega)
  exact HS3.out
set_option maxHeartbeats 8000000 in
theorem kpi2 (B q : Nat) (v : Value) (b : Int) (r : List Int) (sh : Bool) (w : World) (hq : q < w.heap.size) (hB : B ≤ q) (hK : Blk w q [v, .bool sh]) (hv : YS B w v (b :: r)) (hb : Byt (b :: r)) (hl : r.length ≤ 1000000000000) (hkd : b / 16 = 2) :
    Calls Tryd.prog 41 #[.pointer (some ⟨q, 0, none⟩)] w fun e w' => PkP B q ⟨2, turnN (nmI (pcL r 8).1), noS⟩ (pcL r 8).2 w e w' := by
  have hbb := hb b (List.mem_cons_self ..)
  have HBR : Hid (Byt r) := (fun x hx => hb x (List.mem_cons_of_mem _ hx) : Byt r)
  have S0 : St B q w w v sh (b :: r) := ⟨GQ.refl _ _, hK, hv⟩
  have S1 : St B q w (w.alloc (.cells #[.int .i64 0, .int .i64 0, .string ⟨#[]⟩] 39)) v sh (b :: r) := S0.alloc hB hq
  have hnb := number_any B q v (b :: r) sh 1 (w.alloc (.cells #[.int .i64 0, .int .i64 0, .string ⟨#[]⟩] 39)) (by simp; omega) hB S1.blk S1.ys hb
  unfold NbP at hnb
  rw [pc_one, nm_one hbb.1 hbb.2] at hnb
  have hqt : b.tdiv 16 = 2 := by rw [Int.tdiv_eq_ediv_of_nonneg hbb.1]; exact hkd
  have hqd : b / 16 = 2 := hkd
  have HS1 := hid S1
  have HR0 := hid (blk_new w [.int .i64 0, .int .i64 0, .string ⟨#[]⟩] 39)
  clear hK hv hb S0 S1 hkd
  go_enter Tryd.func41, Tryd.ntmps41
  go_wp2_with (go_at_call 44; fail)
  refine hnb.mono ?_
  rintro e w1 ⟨rv1, s1, rfl, hg1, hk1, hv1⟩
  have hs1 : w.heap.size < w1.heap.size := by have := hg1.size; simp at this; omega
  have HS2 : Hid (St B q w (w1.alloc (.cells #[.int .i64 (2), .int .i64 0, .string ⟨#[]⟩] 39)) rv1 s1 r) := (HS1.out.on hg1 hk1 hv1).alloc hB hq
  have HR1 : Hid (Blk (w1.alloc (.cells #[.int .i64 (2), .int .i64 0, .string ⟨#[]⟩] 39)) w.heap.size [.int .i64 0, .int .i64 0, .string ⟨#[]⟩]) := (HR0.out.gq hg1 (by simp) (by omega)).below (below_alloc _ _) hs1
  have HN1 := hid (blk_new w1 [.int .i64 (2), .int .i64 0, .string ⟨#[]⟩] 39)
  clear hnb hg1 hk1 hv1 HS1 HR0
  have hnb2 := number_any B q rv1 r s1 8 (w1.alloc (.cells #[.int .i64 (2), .int .i64 0, .string ⟨#[]⟩] 39)) (by simp; omega) hB HS2.out.blk HS2.out.ys HBR.out
  go_wp2_with (go_at_call 44; fail)
  refine hnb2.mono ?_
  rintro e w2 ⟨rv2, s2, rfl, hg2, hk2, hv2⟩
  have hs2 : w.heap.size < w2.heap.size ∧ w1.heap.size < w2.heap.size := by have := hg2.size; simp at this; omega
  have HS3 := hid (HS2.out.on hg2 hk2 hv2)
  have HR2 : Hid (Blk w2 w.heap.size [.int .i64 0, .int .i64 0, .string ⟨#[]⟩]) := HR1.out.gq hg2 (by simp; omega) (by omega)
  have HN2 : Hid (Blk w2 w1.heap.size [.int .i64 (2), .int .i64 0, .string ⟨#[]⟩]) := HN1.out.gq hg2 (by simp) (by omega)
  have hne : w.heap.size ≠ w1.heap.size := by omega
  have hne2 : w1.heap.size ≠ w.heap.size := by omega
  have c0 : w2.cell? ⟨w1.heap.size, 0, none⟩ = some (.int .i64 (2)) := (HN2.out 0 (by simp)).1
  have c1 : w2.cell? ⟨w1.heap.size, 1, none⟩ = some (.int .i64 0) := (HN2.out 1 (by simp)).1
  have c2 : w2.cell? ⟨w1.heap.size, 2, none⟩ = some (.string ⟨#[]⟩) := (HN2.out 2 (by simp)).1
  have f1 : w2.frozen? ⟨w1.heap.size, 1, none⟩ = false := (HN2.out 1 (by simp)).2
  have f2 : w2.frozen? ⟨w1.heap.size, 2, none⟩ = false := (HN2.out 2 (by simp)).2
  have r0 : w2.cell? ⟨w.heap.size, 0, none⟩ = some (.int .i64 0) := (HR2.out 0 (by simp)).1
  have r1 : w2.cell? ⟨w.heap.size, 1, none⟩ = some (.int .i64 0) := (HR2.out 1 (by simp)).1
  have r2 : w2.cell? ⟨w.heap.size, 2, none⟩ = some (.string ⟨#[]⟩) := (HR2.out 2 (by simp)).1
  have g0 : w2.frozen? ⟨w.heap.size, 0, none⟩ = false := (HR2.out 0 (by simp)).2
  have g1 : w2.frozen? ⟨w.heap.size, 1, none⟩ = false := (HR2.out 1 (by simp)).2
  have g2 : w2.frozen? ⟨w.heap.size, 2, none⟩ = false := (HR2.out 2 (by simp)).2
  clear hnb2 hg2 hk2 hv2 HS2 HR1 HN1 HR2 HN2
  have htu := fun W => turned_impl (nmI (pcL r 8).1) W (nmI_range _).1 (nmI_range _).2
  go_wp2_with (go_at_call 56; refine (htu _).mono ?_; rintro e w3 ⟨rfl, hw3⟩; replace hw3 := hw3.symm; subst hw3)
  refine bodyPost_ret (v := .agg #[.int .i64 (⟨2, turnN (nmI (pcL r 8).1), noS⟩ : VA).k, .int .i64 (⟨2, turnN (nmI (pcL r 8).1), noS⟩ : VA).n, .string (⟨2, turnN (nmI (pcL r 8).1), noS⟩ : VA).s]) (by simp [results, Tryd.results41, go_sem, hne, hne2, noS, r0, r1, r2]) rfl ⟨rv2, s2, rfl, ?_⟩
  refine St.set ?_ hB hq (by omega)
  refine St.set ?_ hB hq (by omega)
  refine St.set ?_ hB hq (by omega)
  refine St.set ?_ hB hq (by omega)
  exact HS3.out
set_option maxHeartbeats 8000000 in
theorem kpi3 (B q : Nat) (v : Value) (b : Int) (r : List Int) (sh : Bool) (w : World) (hq : q < w.heap.size) (hB : B ≤ q) (hK : Blk w q [v, .bool sh]) (hv : YS B w v (b :: r)) (hb : Byt (b :: r)) (hl : r.length ≤ 1000000000000) (hkd : b / 16 = 3) :
    Calls Tryd.prog 41 #[.pointer (some ⟨q, 0, none⟩)] w fun e w' => PkP B q ⟨3, 0, strOfNums (ktI r).1⟩ (ktI r).2 w e w' := by
  have hbb := hb b (List.mem_cons_self ..)
  have HBR : Hid (Byt r) := (fun x hx => hb x (List.mem_cons_of_mem _ hx) : Byt r)
  have S0 : St B q w w v sh (b :: r) := ⟨GQ.refl _ _, hK, hv⟩
  have S1 : St B q w (w.alloc (.cells #[.int .i64 0, .int .i64 0, .string ⟨#[]⟩] 39)) v sh (b :: r) := S0.alloc hB hq
  have hnb := number_any B q v (b :: r) sh 1 (w.alloc (.cells #[.int .i64 0, .int .i64 0, .string ⟨#[]⟩] 39)) (by simp; omega) hB S1.blk S1.ys hb
  unfold NbP at hnb
  rw [pc_one, nm_one hbb.1 hbb.2] at hnb
  have hqt : b.tdiv 16 = 3 := by rw [Int.tdiv_eq_ediv_of_nonneg hbb.1]; exact hkd
  have hqd : b / 16 = 3 := hkd
  have HS1 := hid S1
  have HR0 := hid (blk_new w [.int .i64 0, .int .i64 0, .string ⟨#[]⟩] 39)
  clear hK hv hb S0 S1 hkd
  go_enter Tryd.func41, Tryd.ntmps41
  go_wp2_with (go_at_call 44; fail)
  refine hnb.mono ?_
  rintro e w1 ⟨rv1, s1, rfl, hg1, hk1, hv1⟩
  have hs1 : w.heap.size < w1.heap.size := by have := hg1.size; simp at this; omega
  have HS2 : Hid (St B q w (w1.alloc (.cells #[.int .i64 (3), .int .i64 0, .string ⟨#[]⟩] 39)) rv1 s1 r) := (HS1.out.on hg1 hk1 hv1).alloc hB hq
  have HR1 : Hid (Blk (w1.alloc (.cells #[.int .i64 (3), .int .i64 0, .string ⟨#[]⟩] 39)) w.heap.size [.int .i64 0, .int .i64 0, .string ⟨#[]⟩]) := (HR0.out.gq hg1 (by simp) (by omega)).below (below_alloc _ _) hs1
  have HN1 := hid (blk_new w1 [.int .i64 (3), .int .i64 0, .string ⟨#[]⟩] 39)
  clear hnb hg1 hk1 hv1 HS1 HR0
  have hnb2 := keyText_any B q rv1 r s1 (w1.alloc (.cells #[.int .i64 (3), .int .i64 0, .string ⟨#[]⟩] 39)) (by simp; omega) hB HS2.out.blk HS2.out.ys HBR.out hl
  go_wp2_with (go_at_call 62; fail)
  refine hnb2.mono ?_
  rintro e w2 ⟨rv2, s2, rfl, hg2, hk2, hv2⟩
  have hs2 : w.heap.size < w2.heap.size ∧ w1.heap.size < w2.heap.size := by have := hg2.size; simp at this; omega
  have HS3 := hid (HS2.out.on hg2 hk2 hv2)
  have HR2 : Hid (Blk w2 w.heap.size [.int .i64 0, .int .i64 0, .string ⟨#[]⟩]) := HR1.out.gq hg2 (by simp; omega) (by omega)
  have HN2 : Hid (Blk w2 w1.heap.size [.int .i64 (3), .int .i64 0, .string ⟨#[]⟩]) := HN1.out.gq hg2 (by simp) (by omega)
  have hne : w.heap.size ≠ w1.heap.size := by omega
  have hne2 : w1.heap.size ≠ w.heap.size := by omega
  have c0 : w2.cell? ⟨w1.heap.size, 0, none⟩ = some (.int .i64 (3)) := (HN2.out 0 (by simp)).1
  have c1 : w2.cell? ⟨w1.heap.size, 1, none⟩ = some (.int .i64 0) := (HN2.out 1 (by simp)).1
  have c2 : w2.cell? ⟨w1.heap.size, 2, none⟩ = some (.string ⟨#[]⟩) := (HN2.out 2 (by simp)).1
  have f1 : w2.frozen? ⟨w1.heap.size, 1, none⟩ = false := (HN2.out 1 (by simp)).2
  have f2 : w2.frozen? ⟨w1.heap.size, 2, none⟩ = false := (HN2.out 2 (by simp)).2
  have r0 : w2.cell? ⟨w.heap.size, 0, none⟩ = some (.int .i64 0) := (HR2.out 0 (by simp)).1
  have r1 : w2.cell? ⟨w.heap.size, 1, none⟩ = some (.int .i64 0) := (HR2.out 1 (by simp)).1
  have r2 : w2.cell? ⟨w.heap.size, 2, none⟩ = some (.string ⟨#[]⟩) := (HR2.out 2 (by simp)).1
  have g0 : w2.frozen? ⟨w.heap.size, 0, none⟩ = false := (HR2.out 0 (by simp)).2
  have g1 : w2.frozen? ⟨w.heap.size, 1, none⟩ = false := (HR2.out 1 (by simp)).2
  have g2 : w2.frozen? ⟨w.heap.size, 2, none⟩ = false := (HR2.out 2 (by simp)).2
  clear hnb2 hg2 hk2 hv2 HS2 HR1 HN1 HR2 HN2
  go_wp2
  refine bodyPost_ret (v := .agg #[.int .i64 (⟨3, 0, strOfNums (ktI r).1⟩ : VA).k, .int .i64 (⟨3, 0, strOfNums (ktI r).1⟩ : VA).n, .string (⟨3, 0, strOfNums (ktI r).1⟩ : VA).s]) (by simp [results, Tryd.results41, go_sem, hne, hne2, noS, r0, r1, r2]) rfl ⟨rv2, s2, rfl, ?_⟩
  refine St.set ?_ hB hq (by omega)
  refine St.set ?_ hB hq (by omega)
  refine St.set ?_ hB hq (by omega)
  refine St.set ?_ hB hq (by omega)
  exact HS3.out
set_option maxHeartbeats 8000000 in
theorem kpi4 (B q : Nat) (v : Value) (b : Int) (r : List Int) (sh : Bool) (w : World) (hq : q < w.heap.size) (hB : B ≤ q) (hK : Blk w q [v, .bool sh]) (hv : YS B w v (b :: r)) (hb : Byt (b :: r)) (hl : r.length ≤ 1000000000000) (hkd : b / 16 = 4) :
    Calls Tryd.prog 41 #[.pointer (some ⟨q, 0, none⟩)] w fun e w' => PkP B q ⟨4, nmI (pcL r 1).1, noS⟩ (pcL r 1).2 w e w' := by
  have hbb := hb b (List.mem_cons_self ..)
  have HBR : Hid (Byt r) := (fun x hx => hb x (List.mem_cons_of_mem _ hx) : Byt r)
  have S0 : St B q w w v sh (b :: r) := ⟨GQ.refl _ _, hK, hv⟩
  have S1 : St B q w (w.alloc (.cells #[.int .i64 0, .int .i64 0, .string ⟨#[]⟩] 39)) v sh (b :: r) := S0.alloc hB hq
  have hnb := number_any B q v (b :: r) sh 1 (w.alloc (.cells #[.int .i64 0, .int .i64 0, .string ⟨#[]⟩] 39)) (by simp; omega) hB S1.blk S1.ys hb
  unfold NbP at hnb
  rw [pc_one, nm_one hbb.1 hbb.2] at hnb
  have hqt : b.tdiv 16 = 4 := by rw [Int.tdiv_eq_ediv_of_nonneg hbb.1]; exact hkd
  have hqd : b / 16 = 4 := hkd
  have HS1 := hid S1
  have HR0 := hid (blk_new w [.int .i64 0, .int .i64 0, .string ⟨#[]⟩] 39)
  clear hK hv hb S0 S1 hkd
  go_enter Tryd.func41, Tryd.ntmps41
  go_wp2_with (go_at_call 44; fail)
  refine hnb.mono ?_
  rintro e w1 ⟨rv1, s1, rfl, hg1, hk1, hv1⟩
  have hs1 : w.heap.size < w1.heap.size := by have := hg1.size; simp at this; omega
  have HS2 : Hid (St B q w (w1.alloc (.cells #[.int .i64 (4), .int .i64 0, .string ⟨#[]⟩] 39)) rv1 s1 r) := (HS1.out.on hg1 hk1 hv1).alloc hB hq
  have HR1 : Hid (Blk (w1.alloc (.cells #[.int .i64 (4), .int .i64 0, .string ⟨#[]⟩] 39)) w.heap.size [.int .i64 0, .int .i64 0, .string ⟨#[]⟩]) := (HR0.out.gq hg1 (by simp) (by omega)).below (below_alloc _ _) hs1
  have HN1 := hid (blk_new w1 [.int .i64 (4), .int .i64 0, .string ⟨#[]⟩] 39)
  clear hnb hg1 hk1 hv1 HS1 HR0
  have hnb2 := number_any B q rv1 r s1 1 (w1.alloc (.cells #[.int .i64 (4), .int .i64 0, .string ⟨#[]⟩] 39)) (by simp; omega) hB HS2.out.blk HS2.out.ys HBR.out
  go_wp2_with (go_at_call 44; fail)
  refine hnb2.mono ?_
  rintro e w2 ⟨rv2, s2, rfl, hg2, hk2, hv2⟩
  have hs2 : w.heap.size < w2.heap.size ∧ w1.heap.size < w2.heap.size := by have := hg2.size; simp at this; omega
  have HS3 := hid (HS2.out.on hg2 hk2 hv2)
  have HR2 : Hid (Blk w2 w.heap.size [.int .i64 0, .int .i64 0, .string ⟨#[]⟩]) := HR1.out.gq hg2 (by simp; omega) (by omega)
  have HN2 : Hid (Blk w2 w1.heap.size [.int .i64 (4), .int .i64 0, .string ⟨#[]⟩]) := HN1.out.gq hg2 (by simp) (by omega)
  have hne : w.heap.size ≠ w1.heap.size := by omega
  have hne2 : w1.heap.size ≠ w.heap.size := by omega
  have c0 : w2.cell? ⟨w1.heap.size, 0, none⟩ = some (.int .i64 (4)) := (HN2.out 0 (by simp)).1
  have c1 : w2.cell? ⟨w1.heap.size, 1, none⟩ = some (.int .i64 0) := (HN2.out 1 (by simp)).1
  have c2 : w2.cell? ⟨w1.heap.size, 2, none⟩ = some (.string ⟨#[]⟩) := (HN2.out 2 (by simp)).1
  have f1 : w2.frozen? ⟨w1.heap.size, 1, none⟩ = false := (HN2.out 1 (by simp)).2
  have f2 : w2.frozen? ⟨w1.heap.size, 2, none⟩ = false := (HN2.out 2 (by simp)).2
  have r0 : w2.cell? ⟨w.heap.size, 0, none⟩ = some (.int .i64 0) := (HR2.out 0 (by simp)).1
  have r1 : w2.cell? ⟨w.heap.size, 1, none⟩ = some (.int .i64 0) := (HR2.out 1 (by simp)).1
  have r2 : w2.cell? ⟨w.heap.size, 2, none⟩ = some (.string ⟨#[]⟩) := (HR2.out 2 (by simp)).1
  have g0 : w2.frozen? ⟨w.heap.size, 0, none⟩ = false := (HR2.out 0 (by simp)).2
  have g1 : w2.frozen? ⟨w.heap.size, 1, none⟩ = false := (HR2.out 1 (by simp)).2
  have g2 : w2.frozen? ⟨w.heap.size, 2, none⟩ = false := (HR2.out 2 (by simp)).2
  clear hnb2 hg2 hk2 hv2 HS2 HR1 HN1 HR2 HN2
  go_wp2
  refine bodyPost_ret (v := .agg #[.int .i64 (⟨4, nmI (pcL r 1).1, noS⟩ : VA).k, .int .i64 (⟨4, nmI (pcL r 1).1, noS⟩ : VA).n, .string (⟨4, nmI (pcL r 1).1, noS⟩ : VA).s]) (by simp [results, Tryd.results41, go_sem, hne, hne2, noS, r0, r1, r2]) rfl ⟨rv2, s2, rfl, ?_⟩
  refine St.set ?_ hB hq (by omega)
  refine St.set ?_ hB hq (by omega)
  refine St.set ?_ hB hq (by omega)
  refine St.set ?_ hB hq (by omega)
  exact HS3.out
set_option maxHeartbeats 8000000 in
theorem kpi5 (B q : Nat) (v : Value) (b : Int) (r : List Int) (sh : Bool) (w : World) (hq : q < w.heap.size) (hB : B ≤ q) (hK : Blk w q [v, .bool sh]) (hv : YS B w v (b :: r)) (hb : Byt (b :: r)) (hl : r.length ≤ 1000000000000) (hkd : b / 16 = 5) :
    Calls Tryd.prog 41 #[.pointer (some ⟨q, 0, none⟩)] w fun e w' => PkP B q ⟨5, nmI (pcL r 4).1 - 2147483648, noS⟩ (pcL r 4).2 w e w' := by
  have hbb := hb b (List.mem_cons_self ..)
  have HBR : Hid (Byt r) := (fun x hx => hb x (List.mem_cons_of_mem _ hx) : Byt r)
  have S0 : St B q w w v sh (b :: r) := ⟨GQ.refl _ _, hK, hv⟩
  have S1 : St B q w (w.alloc (.cells #[.int .i64 0, .int .i64 0, .string ⟨#[]⟩] 39)) v sh (b :: r) := S0.alloc hB hq
  have hnb := number_any B q v (b :: r) sh 1 (w.alloc (.cells #[.int .i64 0, .int .i64 0, .string ⟨#[]⟩] 39)) (by simp; omega) hB S1.blk S1.ys hb
  unfold NbP at hnb
  rw [pc_one, nm_one hbb.1 hbb.2] at hnb
  have hqt : b.tdiv 16 = 5 := by rw [Int.tdiv_eq_ediv_of_nonneg hbb.1]; exact hkd
  have hqd : b / 16 = 5 := hkd
  have hwn := sub_small4 HBR.out
  have HS1 := hid S1
  have HR0 := hid (blk_new w [.int .i64 0, .int .i64 0, .string ⟨#[]⟩] 39)
  clear hK hv hb S0 S1 hkd
  go_enter Tryd.func41, Tryd.ntmps41
  go_wp2_with (go_at_call 44; fail)
  refine hnb.mono ?_
  rintro e w1 ⟨rv1, s1, rfl, hg1, hk1, hv1⟩
  have hs1 : w.heap.size < w1.heap.size := by have := hg1.size; simp at this; omega
  have HS2 : Hid (St B q w (w1.alloc (.cells #[.int .i64 (5), .int .i64 0, .string ⟨#[]⟩] 39)) rv1 s1 r) := (HS1.out.on hg1 hk1 hv1).alloc hB hq
  have HR1 : Hid (Blk (w1.alloc (.cells #[.int .i64 (5), .int .i64 0, .string ⟨#[]⟩] 39)) w.heap.size [.int .i64 0, .int .i64 0, .string ⟨#[]⟩]) := (HR0.out.gq hg1 (by simp) (by omega)).below (below_alloc _ _) hs1
  have HN1 := hid (blk_new w1 [.int .i64 (5), .int .i64 0, .string ⟨#[]⟩] 39)
  clear hnb hg1 hk1 hv1 HS1 HR0
  have hnb2 := number_any B q rv1 r s1 4 (w1.alloc (.cells #[.int .i64 (5), .int .i64 0, .string ⟨#[]⟩] 39)) (by simp; omega) hB HS2.out.blk HS2.out.ys HBR.out
  go_wp2_with (go_at_call 44; fail)
  refine hnb2.mono ?_
  rintro e w2 ⟨rv2, s2, rfl, hg2, hk2, hv2⟩
  have hs2 : w.heap.size < w2.heap.size ∧ w1.heap.size < w2.heap.size := by have := hg2.size; simp at this; omega
  have HS3 := hid (HS2.out.on hg2 hk2 hv2)
  have HR2 : Hid (Blk w2 w.heap.size [.int .i64 0, .int .i64 0, .string ⟨#[]⟩]) := HR1.out.gq hg2 (by simp; omega) (by omega)
  have HN2 : Hid (Blk w2 w1.heap.size [.int .i64 (5), .int .i64 0, .string ⟨#[]⟩]) := HN1.out.gq hg2 (by simp) (by omega)
  have hne : w.heap.size ≠ w1.heap.size := by omega
  have hne2 : w1.heap.size ≠ w.heap.size := by omega
  have c0 : w2.cell? ⟨w1.heap.size, 0, none⟩ = some (.int .i64 (5)) := (HN2.out 0 (by simp)).1
  have c1 : w2.cell? ⟨w1.heap.size, 1, none⟩ = some (.int .i64 0) := (HN2.out 1 (by simp)).1
  have c2 : w2.cell? ⟨w1.heap.size, 2, none⟩ = some (.string ⟨#[]⟩) := (HN2.out 2 (by simp)).1
  have f1 : w2.frozen? ⟨w1.heap.size, 1, none⟩ = false := (HN2.out 1 (by simp)).2
  have f2 : w2.frozen? ⟨w1.heap.size, 2, none⟩ = false := (HN2.out 2 (by simp)).2
  have r0 : w2.cell? ⟨w.heap.size, 0, none⟩ = some (.int .i64 0) := (HR2.out 0 (by simp)).1
  have r1 : w2.cell? ⟨w.heap.size, 1, none⟩ = some (.int .i64 0) := (HR2.out 1 (by simp)).1
  have r2 : w2.cell? ⟨w.heap.size, 2, none⟩ = some (.string ⟨#[]⟩) := (HR2.out 2 (by simp)).1
  have g0 : w2.frozen? ⟨w.heap.size, 0, none⟩ = false := (HR2.out 0 (by simp)).2
  have g1 : w2.frozen? ⟨w.heap.size, 1, none⟩ = false := (HR2.out 1 (by simp)).2
  have g2 : w2.frozen? ⟨w.heap.size, 2, none⟩ = false := (HR2.out 2 (by simp)).2
  clear hnb2 hg2 hk2 hv2 HS2 HR1 HN1 HR2 HN2
  go_wp2
  refine bodyPost_ret (v := .agg #[.int .i64 (⟨5, nmI (pcL r 4).1 - 2147483648, noS⟩ : VA).k, .int .i64 (⟨5, nmI (pcL r 4).1 - 2147483648, noS⟩ : VA).n, .string (⟨5, nmI (pcL r 4).1 - 2147483648, noS⟩ : VA).s]) (by simp [results, Tryd.results41, go_sem, hne, hne2, noS, r0, r1, r2]) rfl ⟨rv2, s2, rfl, ?_⟩
  refine St.set ?_ hB hq (by omega)
  refine St.set ?_ hB hq (by omega)
  refine St.set ?_ hB hq (by omega)
  refine St.set ?_ hB hq (by omega)
  exact HS3.out
set_option maxHeartbeats 8000000 in
theorem kpi0 (B q : Nat) (v : Value) (b : Int) (r : List Int) (sh : Bool) (w : World) (hq : q < w.heap.size) (hB : B ≤ q) (hK : Blk w q [v, .bool sh]) (hv : YS B w v (b :: r)) (hb : Byt (b :: r)) (hl : r.length ≤ 1000000000000) (k1 : b / 16 ≠ 1) (k2 : b / 16 ≠ 2) (k3 : b / 16 ≠ 3) (k4 : b / 16 ≠ 4) (k5 : b / 16 ≠ 5) :
    Calls Tryd.prog 41 #[.pointer (some ⟨q, 0, none⟩)] w fun e w' => PkP B q ⟨b / 16, 0, noS⟩ r w e w' := by
  have hbb := hb b (List.mem_cons_self ..)
  have HBR : Hid (Byt r) := (fun x hx => hb x (List.mem_cons_of_mem _ hx) : Byt r)
  have S0 : St B q w w v sh (b :: r) := ⟨GQ.refl _ _, hK, hv⟩
  have S1 : St B q w (w.alloc (.cells #[.int .i64 0, .int .i64 0, .string ⟨#[]⟩] 39)) v sh (b :: r) := S0.alloc hB hq
  have hnb := number_any B q v (b :: r) sh 1 (w.alloc (.cells #[.int .i64 0, .int .i64 0, .string ⟨#[]⟩] 39)) (by simp; omega) hB S1.blk S1.ys hb
  unfold NbP at hnb
  rw [pc_one, nm_one hbb.1 hbb.2] at hnb
  have hqt : b.tdiv 16 = b / 16 := by rw [Int.tdiv_eq_ediv_of_nonneg hbb.1]
  have e1 : (b / 16 == 1) = false := by simp [k1]
  have e2 : (b / 16 == 2) = false := by simp [k2]
  have e3 : (b / 16 == 3) = false := by simp [k3]
  have e4 : (b / 16 == 4) = false := by simp [k4]
  have e5 : (b / 16 == 5) = false := by simp [k5]
  clear k1 k2 k3 k4 k5
  have HS1 := hid S1
  have HR0 := hid (blk_new w [.int .i64 0, .int .i64 0, .string ⟨#[]⟩] 39)
  clear hK hv hb S0 S1 
  go_enter Tryd.func41, Tryd.ntmps41
  go_wp2_with (go_at_call 44; fail)
  refine hnb.mono ?_
  rintro e w1 ⟨rv1, s1, rfl, hg1, hk1, hv1⟩
  have hs1 : w.heap.size < w1.heap.size := by have := hg1.size; simp at this; omega
  have HS2 : Hid (St B q w (w1.alloc (.cells #[.int .i64 (b / 16), .int .i64 0, .string ⟨#[]⟩] 39)) rv1 s1 r) := (HS1.out.on hg1 hk1 hv1).alloc hB hq
  have HR1 : Hid (Blk (w1.alloc (.cells #[.int .i64 (b / 16), .int .i64 0, .string ⟨#[]⟩] 39)) w.heap.size [.int .i64 0, .int .i64 0, .string ⟨#[]⟩]) := (HR0.out.gq hg1 (by simp) (by omega)).below (below_alloc _ _) hs1
  have HN1 := hid (blk_new w1 [.int .i64 (b / 16), .int .i64 0, .string ⟨#[]⟩] 39)
  have HRT : Hid (Blk w1 w.heap.size [.int .i64 0, .int .i64 0, .string ⟨#[]⟩]) := HR0.out.gq hg1 (by simp) (by omega)
  have t0 : w1.cell? ⟨w.heap.size, 0, none⟩ = some (.int .i64 0) := (HRT.out 0 (by simp)).1
  have t1 : w1.cell? ⟨w.heap.size, 1, none⟩ = some (.int .i64 0) := (HRT.out 1 (by simp)).1
  have t2 : w1.cell? ⟨w.heap.size, 2, none⟩ = some (.string ⟨#[]⟩) := (HRT.out 2 (by simp)).1
  have t3 : w1.frozen? ⟨w.heap.size, 0, none⟩ = false := (HRT.out 0 (by simp)).2
  have t4 : w1.frozen? ⟨w.heap.size, 1, none⟩ = false := (HRT.out 1 (by simp)).2
  have t5 : w1.frozen? ⟨w.heap.size, 2, none⟩ = false := (HRT.out 2 (by simp)).2
  have HSW := hid (HS1.out.on hg1 hk1 hv1)
  have HFK : Hid (Blk ((((w1.setCell ⟨w.heap.size, 0, none⟩ (.int .i64 (b / 16))).setCell ⟨w.heap.size, 1, none⟩ (.int .i64 0)).setCell ⟨w.heap.size, 2, none⟩ (.string ⟨#[]⟩)).alloc (.cells #[.int .i64 (b / 16), .int .i64 0, .string ⟨#[]⟩] 39)) w.heap.size [.int .i64 (b / 16), .int .i64 0, .string ⟨#[]⟩]) := (((HRT.out.set 0 (.int .i64 (b / 16))).set 1 (.int .i64 0)).set 2 (.string ⟨#[]⟩)).below (below_alloc _ _) (by simp [World.setCell]; omega)
  clear HRT
  clear hnb hg1 hk1 hv1 HS1 HR0
  have hne : w.heap.size ≠ w1.heap.size := by omega
  have hne2 : w1.heap.size ≠ w.heap.size := by omega
  have r0 : (w1.alloc (.cells #[.int .i64 (b / 16), .int .i64 0, .string ⟨#[]⟩] 39)).cell? ⟨w.heap.size, 0, none⟩ = some (.int .i64 0) := (HR1.out 0 (by simp)).1
  have r1 : (w1.alloc (.cells #[.int .i64 (b / 16), .int .i64 0, .string ⟨#[]⟩] 39)).cell? ⟨w.heap.size, 1, none⟩ = some (.int .i64 0) := (HR1.out 1 (by simp)).1
  have r2 : (w1.alloc (.cells #[.int .i64 (b / 16), .int .i64 0, .string ⟨#[]⟩] 39)).cell? ⟨w.heap.size, 2, none⟩ = some (.string ⟨#[]⟩) := (HR1.out 2 (by simp)).1
  have g0 : (w1.alloc (.cells #[.int .i64 (b / 16), .int .i64 0, .string ⟨#[]⟩] 39)).frozen? ⟨w.heap.size, 0, none⟩ = false := (HR1.out 0 (by simp)).2
  have g1 : (w1.alloc (.cells #[.int .i64 (b / 16), .int .i64 0, .string ⟨#[]⟩] 39)).frozen? ⟨w.heap.size, 1, none⟩ = false := (HR1.out 1 (by simp)).2
  have g2 : (w1.alloc (.cells #[.int .i64 (b / 16), .int .i64 0, .string ⟨#[]⟩] 39)).frozen? ⟨w.heap.size, 2, none⟩ = false := (HR1.out 2 (by simp)).2
  clear HR1 HN1
  go_wp2
  have x0 := (HFK.out 0 (by simp)).1
  have x1 := (HFK.out 1 (by simp)).1
  have x2 := (HFK.out 2 (by simp)).1
  refine bodyPost_ret (v := .agg #[.int .i64 (⟨b / 16, 0, noS⟩ : VA).k, .int .i64 (⟨b / 16, 0, noS⟩ : VA).n, .string (⟨b / 16, 0, noS⟩ : VA).s]) (by simp [results, Tryd.results41, go_sem, hne, hne2, noS, r0, r1, r2, x0, x1, x2]) rfl ⟨rv1, s1, rfl, ?_⟩
  refine St.alloc ?_ hB hq
  refine St.set ?_ hB hq (by omega)
  refine St.set ?_ hB hq (by omega)
  refine St.set ?_ hB hq (by omega)
  exact HSW.out
theorem keyPart_any (B q : Nat) (v : Value) (l : List Int) (sh : Bool) (w : World) (hq : q < w.heap.size) (hB : B ≤ q) (hK : Blk w q [v, .bool sh]) (hv : YS B w v l) (hb : Byt l) (hl : l.length ≤ 1000000000000) (hne : l ≠ []) :
    Calls Tryd.prog 41 #[.pointer (some ⟨q, 0, none⟩)] w fun e w' => PkP B q (pkI l).1 (pkI l).2 w e w' := by
  rcases l with _ | ⟨b, r⟩
  · exact absurd rfl hne
  simp only [List.length_cons] at hl
  simp only [pkI]
  by_cases h1 : b / 16 = 1
  · rw [if_pos (Or.inl h1), h1]; exact kpi1 B q v b r sh w hq hB hK hv hb (by omega) h1
  by_cases h2 : b / 16 = 2
  · rw [if_pos (Or.inr h2), h2]; exact kpi2 B q v b r sh w hq hB hK hv hb (by omega) h2
  rw [if_neg (by simp [h1, h2])]
  by_cases h3 : b / 16 = 3
  · rw [if_pos h3]; exact kpi3 B q v b r sh w hq hB hK hv hb (by omega) h3
  rw [if_neg h3]
  by_cases h4 : b / 16 = 4
  · rw [if_pos h4]; exact kpi4 B q v b r sh w hq hB hK hv hb (by omega) h4
  rw [if_neg h4]
  by_cases h5 : b / 16 = 5
  · rw [if_pos h5]; exact kpi5 B q v b r sh w hq hB hK hv hb (by omega) h5
  rw [if_neg h5]
  exact kpi0 B q v b r sh w hq hB hK hv hb (by omega) h1 h2 h3 h4 h5
end Go.Proofs.YtfgjleifhjegkaaDoor
