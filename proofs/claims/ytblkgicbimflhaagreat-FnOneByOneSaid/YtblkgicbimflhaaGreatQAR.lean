import Derived.Test.YtblkgicbimflhaaGreatQAQ
namespace Go.Proofs.YtblkgicbimflhaaGreat
open Go.ChangeShapes Go.WideShapes Go.ChangeAt Go.RowKit
set_option linter.unusedVariables false
set_option linter.unusedSimpArgs false
set_option maxRecDepth 100000
set_option maxHeartbeats 16000000
open Go.ChangeMaps (setBlock)
def behM (c : Led) (bg : Int) (m : Spt) : Bool := behindB ((c.T m.1.toNat m.2).map (·.1)) bg
open Classical in
noncomputable def verdM (c : Led) (ck : Int) (M : List (Spt × Vsn)) (x : Txn) : Int := if M.any (fun m => behM c x.bg m.1) then 20 else if x.md = 2 then certF (c.hs ++ [infoF x.bg (ck + 1) x.own x.rs]) else 0
theorem verdict_any (B sb : Nat) (w : World) (L : LIx -> Value) (c : Led) (ck : Int) (op : Nat -> Option Addr) (t : TG) (x : Txn) (hL : LedM B w L c) (hLb : LedB c) (hS : Blk w sb (sesC ck L op)) (hsb : sb < w.heap.size) (hT : TrM B w t x) (hck : 0 <= ck) (hck2 : ck <= 1000) :
 Calls Tryz.prog 70 #[.pointer (some ⟨sb, 0, none⟩), .pointer (some ⟨t.g, 0, none⟩)] w fun e w' => e = .returned (.int .i64 (verdM c ck t.M x)) /\ Below w.heap.size w w' := by
 obtain ⟨o, hrun, hit⟩ := run_rangeM w t.mb t.M hT.mp
 have hb0 := below_alloc w o
 have c34 := hT.c34
 have hgl := hT.gl
 have hmb := hT.mp.lt
 have HT := hid hT
 have HL := hid hL
 have HS := hid hS
 have HIT := hid hit
 have HLB := hid hLb
 clear hT hL hS hit hLb
 go_enter Tryz.func70, Tryz.ntmps70
 go_wp2
 clear hrun
 go_loopw [] (fun wr => ∃ D, Hid (IT wr w.heap.size t.mb t.M D) /\ Hid (∀ m ∈ t.M, m.1 ∈ D -> behM c x.bg m.1 = false) /\ Below w.heap.size w wr) (fun wr => wr.rangeLeft t.mb w.heap.size)
 case atStart => exact ⟨[], HIT, hid (fun m _ h => absurd h (by simp)), hb0⟩
 case round =>
  clear HIT hb0
  obtain ⟨D, HIT, HD, hbel⟩ := hrel
  have hbs := hbel.size
  rcases HIT.out.next 0 with ⟨hall, hrun⟩ | ⟨m, w1, hm, hnD, hrun, hit1, hf1, hz1, hlt, hen⟩
  .have HNO : Hid (t.M.any (fun m => behM c x.bg m.1) = false) := hid (List.any_eq_false.2 (fun m hm => by rw [HD.out m hm (hall m hm)]; simp))
   have hT1 := HT.out.below hbel
   have hL1 := HL.out.below hbel
   have hS1 := HS.out.below hbel hsb
   have d1 := hT1.c1
   have e0 := (ses_cell hS1 (j := 0) (by omega)).1
   have e65 := (ses_cell hS1 (j := 65) (by omega)).1
   rw [sesAt_0] at e0
   rw [sesAt_hs] at e65
   obtain ⟨ga, ca, hhs, hga⟩ := hL1.hform
   rw [hhs] at e65
   clear hall HIT HD hbs c34
   by_cases hmd : x.md = 2
   .have hmb2 : (x.md == 2) = true := by rw [hmd]; rfl
    have HV : Hid (verdM c ck t.M x = certF (c.hs ++ [infoF x.bg (ck + 1) x.own x.rs])) := hid (by unfold verdM; rw [HNO.out]; simp [hmd])
    have hw1 : IntKind.i64.wrap (ck + 1) = ck + 1 := by simp only [IntKind.wrap_i64, wrap64]; omega
    have hsb1 : sb < wr.heap.size := by have := hbel.size; omega
    have HCI := hid ((hT1.below (Below.refl _ wr).drew).info (ck + 1))
    have HH := hid hL1.hist
    clear hmd HNO hL1 hS1 hT1
    go_wp2
    refine wp_region_till_drew (S := (fun W => W.cell? ⟨sb, 0, none⟩ = some (.int .i64 ck) /\ W.cell? ⟨sb, 65, none⟩ = some (.slice ga c.hs.length ca))) (late := [12]) (by kernel_rfl) ⟨e0, e65⟩ (fun hHeld => ?_)
    refine tT 0 rfl hHeld ?_
    try simp only [Act.put, q1, q2, q3]
    refine tT 1 rfl hHeld ?_
    try simp only [Act.put, q1, q2, q3]
    refine tT 2 rfl hHeld ?_
    try simp only [Act.put, q1, q2, q3]
    refine till_ld (i := 3) (v := ?_) rfl (Or.inl ⟨by rfl, ?_⟩) hHeld ?_
    rotate_left
    .intro w hSw
     try dsimp only at hSw
     go_simp
     try with_reducible rfl
    try simp only [Act.put, q1, q2, q3]
    refine tT 4 rfl hHeld ?_
    try simp only [Act.put, q1, q2, q3]
    refine tT 5 rfl hHeld ?_
    try simp only [Act.put, q1, q2, q3]
    refine tT 6 rfl hHeld ?_
    try simp only [Act.put, q1, q2, q3]
    refine tT 7 rfl hHeld ?_
    try simp only [Act.put, q1, q2, q3]
    refine till_ld (i := 8) (v := ?_) rfl (Or.inl ⟨by rfl, ?_⟩) hHeld ?_
    rotate_left
    .intro w hSw
     try dsimp only at hSw
     go_simp
     try with_reducible rfl
    try simp only [Act.put, q1, q2, q3]
    refine tT 9 rfl hHeld ?_
    try simp only [Act.put, q1, q2, q3]
    refine rE 10 rfl fun K hK => ?_
    go_simp
    refine HCI.out.mono ?_
    rintro e W2 ⟨v2, v3, rfl, hG2, hG3, hds, hb2⟩
    replace hb2 : Below wr.heap.size wr W2 := undrew hb2
    have g0 : W2.cell? ⟨sb, 0, none⟩ = some (.int .i64 ck) := ct hb2 hsb1 e0
    have g65 : W2.cell? ⟨sb, 65, none⟩ = some (.slice ga c.hs.length ca) := ct hb2 hsb1 e65
    have HCT : Hid (CT 0 W2 [.int .i64 x.bg, .int .i64 (ck + 1), v2, v3] (infoF x.bg (ck + 1) x.own x.rs)) := ⟨v2, v3, rfl, hG2.rs.mono liesI (Nat.zero_le _), hG3.rs.mono liesI (Nat.zero_le _)⟩
    have HBT : Hid (BT 1048576 (infoF x.bg (ck + 1) x.own x.rs)) := ⟨Nat.le_trans (tabsT_len _ _) (by omega), Nat.le_trans (tabsT_len _ _) (by omega)⟩
    have HRS : Hid (RS 4 CT 0 W2 (.slice ga c.hs.length ca) c.hs) := hid (by rw [hhs] at HH; exact HH.out.below liesT hb2)
    have HBH : Hid (BH 1048576 c.hs) := ⟨by have := HLB.out.hl; omega, fun h hh => ⟨by have := (HLB.out.hb h hh).1; omega, by have := (HLB.out.hb h hh).2; omega⟩⟩
    have HCE := hid (certify_impl ga ca c.hs _ _ W2 HBH.out HBT.out HRS.out HCT.out hga)
    obtain ⟨a2, q2, hf2⟩ := hG2.form
    obtain ⟨a3, q3, hf3⟩ := hG3.form
    subst hf2 hf3
    refine hK _ _ ⟨⟨g0, g65⟩, ?_⟩
    clear hK K hG2 hG3 hds HCT HBT HRS HBH HCI
    try simp only [Act.put, q1, q2, q3]
    refine rE 11 rfl fun K hK => ?_
    go_simp
    refine HCE.out.mono ?_
    rintro e W3 ⟨hR, hb3⟩
    have hRe := certR_f hR
    rw [<- HV.out] at hRe
    subst hRe
    have hs3 := hb2.size
    have g0' : W3.cell? ⟨sb, 0, none⟩ = some (.int .i64 ck) := (hb3.cell (p := ⟨sb, 0, none⟩) (by show sb < _; omega)).trans g0
    have g65' : W3.cell? ⟨sb, 65, none⟩ = some (.slice ga c.hs.length ca) := (hb3.cell (p := ⟨sb, 65, none⟩) (by show sb < _; omega)).trans g65
    have bw3 : Below w.heap.size w W3 := (hbel.trans (hb2.mono hbel.size)).trans (hb3.mono (by have := hbel.size; omega))
    refine hK _ _ ⟨⟨g0', g65'⟩, ?_⟩
    clear hK K hR HCE hb2 hb3
    try simp only [Act.put, q1, q2, q3]
    refine rL 12 rfl fun K hK => ?_
    go_simp
    refine hK _ _ ?_
    clear hK K
    try simp only [Act.put, q1, q2, q3]
    refine till_done (by kernel_rfl) ?_ _
    go_wp2
    refine bodyPost_ret (v := .int .i64 (verdM c ck t.M x)) (by simp [results, Tryz.results70, go_sem]) rfl ?_
    exact ⟨rfl, bw3⟩
   .have hmb2 : (x.md == 2) = false := beq_eq_false_iff_ne.2 hmd
    have HV : Hid (verdM c ck t.M x = 0) := hid (by unfold verdM; rw [HNO.out]; simp [hmd])
    clear hmd HNO hL1 hS1 hT1
    go_wp2
    refine bodyPost_ret (v := .int .i64 0) (by simp [results, Tryz.results70, go_sem]) rfl ?_
    exact ⟨by rw [HV.out], hbel⟩
  .obtain ⟨⟨a, y⟩, v, b⟩ := m
   have ht := HT.out.mi _ hm
   simp only at ht
   obtain ⟨n, rfl⟩ : ∃ n : Nat, a = (n : Int) := ⟨a.toNat, by omega⟩
   have hn : n < 32 := by omega
   have b1 : Below w.heap.size w w1 := hbel.trans (hf1.below hbs (fun q e => by rw [e]; exact Nat.le_refl _))
   have hsb1 : sb < w1.heap.size := by have := b1.size; omega
   obtain ⟨w2, hw2⟩ : ∃ z, z = w1.alloc (.cells #[.int .i64 (n : Int), .int .i64 y] 113) := ⟨_, rfl⟩
   have b2 : Below w.heap.size w w2 := by rw [hw2]; exact b1.alloc b1.size _
   have HIT2 : Hid (IT w2 w.heap.size t.mb t.M (((n : Int), y) :: D) /\ w2.rangeLeft t.mb w.heap.size < wr.rangeLeft t.mb w.heap.size) := hid (by
    rw [hw2]
    have q := hit1.fr (Fr.of_below (fun _ => False) (below_alloc w1 (.cells #[.int .i64 (n : Int), .int .i64 y] 113))) (fun z => z) (fun z => z)
    exact ⟨q.1, by rw [q.2]; exact hlt⟩)
   have hsb2 : sb < w2.heap.size := by have := b2.size; omega
   have hva := (HL.out.below b2).vat HLB.out (HS.out.below b2 hsb) hsb2 n hn y
   obtain ⟨⟨ka, kn, kc, hek⟩, va, vn, vc, hev⟩ := HL.out.ff n y
   have HM := hid hm
   clear hit1 hf1 hlt hm hnD ht HIT
   simp only [sptV, vsnV] at hrun hen
   rw [hw2] at hva
   go_wp2_with (go_at_call 64; fail)
   refine hva.mono ?_
   rw [<- hw2]
   rintro e w3 ⟨rfl, hb3⟩
   have b3 : Below w.heap.size w w3 := b2.trans (hb3.mono b2.size)
   have hl3 := HL.out.below b3
   have r1 : w3.ownsRow B 3 1 (L (.ek n y)) (c.T n y).length (((c.T n y).map (·.1)).map (Value.int .i64)) := hl3.rm.rows (.ek n y)
   obtain ⟨w4, hw4⟩ : ∃ z, z = w3.alloc (.cells #[L (.ek n y), L (.ev n y)] 155) := ⟨_, rfl⟩
   have b4 : Below w.heap.size w w4 := by rw [hw4]; exact b3.alloc b3.size _
   have kb := blk_new w3 [L (.ek n y), L (.ev n y)] 155
   rw [<- hw4] at kb
   have hml : ((c.T n y).map (·.1)).length = (c.T n y).length := List.length_map _
   have hbh := behind_any B w3.heap.size 0 (L (.ek n y)) ((c.T n y).map (·.1)) x.bg w4 (kb 0 (by simp)).1 (by rw [hml, hw4]; exact own_below r1 (below_alloc _ _)) (by rw [hml]; exact Nat.le_of_lt (HLB.out.tb n y))
   have HI4 : Hid (IT w4 w.heap.size t.mb t.M (((n : Int), y) :: D) /\ w4.rangeLeft t.mb w.heap.size < wr.rangeLeft t.mb w.heap.size) := hid (by
    have q := HIT2.out.1.fr (Fr.of_below (fun _ => False) hb3) (fun z => z) (fun z => z)
    have q2 := q.1.fr (Fr.of_below (fun _ => False) (below_alloc w3 (.cells #[L (.ek n y), L (.ev n y)] 155))) (fun z => z) (fun z => z)
    rw [<- hw4] at q2
    exact ⟨q2.1, by rw [q2.2, q.2]; exact HIT2.out.2⟩)
   have d0 : w4.cell? ⟨t.g, 0, none⟩ = some (.int .i64 x.bg) := (HT.out.below b4).c0
   obtain ⟨bb, hbb⟩ : ∃ z, z = behindB ((c.T n y).map (·.1)) x.bg := ⟨_, rfl⟩
   rw [<- hbb] at hbh
   have HBB : Hid (behM c x.bg ((n : Int), y) = bb) := hid (by unfold behM; rw [hbb]; simp)
   clear hva hl3 r1 kb hml hbb HIT2 hb3 b2 b1
   rw [hek, hev] at hw4 ⊢
   have gl3 : t.g < w3.heap.size := by have := b3.size; omega
   rw [hw4] at hbh d0
   go_wp2_with (go_at_call 87; fail)
   refine hbh.mono ?_
   rw [<- hw4]
   rintro e w5 ⟨rfl, hb5⟩
   have b5 : Below w.heap.size w w5 := b4.trans (hb5.mono b4.size)
   have HI5 : Hid (IT w5 w.heap.size t.mb t.M (((n : Int), y) :: D) /\ w5.rangeLeft t.mb w.heap.size < wr.rangeLeft t.mb w.heap.size) := hid (by
    have q := HI4.out.1.fr (Fr.of_below (fun _ => False) hb5) (fun z => z) (fun z => z)
    exact ⟨q.1, by rw [q.2]; exact HI4.out.2⟩)
   clear hbh HI4 hb5 b4 d0 hw4 hw2
   rcases bb with _ | _
   .have HDN : Hid (∀ m ∈ t.M, m.1 ∈ (((n : Int), y) :: D) -> behM c x.bg m.1 = false) := hid (fun m hm hd => by
     rcases List.mem_cons.1 hd with z | z
     .rw [z]; exact HBB.out
     .exact HD.out m hm z)
    clear HBB HD
    go_wp2
    go_roundw
    case rel => exact ⟨_, hid HI5.out.1, HDN, b5⟩
    case measure => exact HI5.out.2
   .have HV : Hid (verdM c ck t.M x = 20) := hid (by
     have : t.M.any (fun m => behM c x.bg m.1) = true := List.any_eq_true.2 ⟨_, HM.out, HBB.out⟩
     unfold verdM; rw [this]; simp)
    clear HBB HD HI5
    go_wp2
    refine bodyPost_ret (v := .int .i64 20) (by simp [results, Tryz.results70, go_sem]) rfl ?_
    exact ⟨by rw [HV.out], b5⟩
end Go.Proofs.YtblkgicbimflhaaGreat
namespace Go.Proofs.YtblkgicbimflhaaGreat
open Go.ChangeShapes Go.WideShapes Go.ChangeAt Go.RowKit
set_option linter.unusedVariables false
set_option linter.unusedSimpArgs false
set_option maxRecDepth 100000
set_option maxHeartbeats 16000000
theorem pos_split {x : Int} : ∀ {ks : List Int}, ks.Pairwise (· < ·) -> (∀ z ∈ ks.take (posN ks x), z < x) /\ ∀ z ∈ ks.drop (posN ks x), x <= z
 | [], _ => by simp [posN]
 | y :: r, h => by
   obtain ⟨h1, h2⟩ := List.pairwise_cons.1 h
   obtain ⟨i1, i2⟩ := pos_split (x := x) h2
   by_cases e : y < x
   .have hp : posN (y :: r) x = posN r x + 1 := by unfold posN; rw [List.countP_cons]; simp [e]
    rw [hp]
    refine ⟨fun z hz => ?_, fun z hz => i2 z (by simpa using hz)⟩
    rw [List.take_succ_cons] at hz
    rcases List.mem_cons.1 hz with q | q
    .rw [q]; exact e
    .exact i1 z q
   .have h0 : posN (y :: r) x = 0 := by
     unfold posN
     refine List.countP_eq_zero.2 (fun z hz => ?_)
     rcases List.mem_cons.1 hz with q | q
     .rw [q]; simpa using e
     .have := h1 z q; simp; omega
    rw [h0]
    refine ⟨fun z hz => by simp at hz, fun z hz => ?_⟩
    rw [List.drop_zero] at hz
    rcases List.mem_cons.1 hz with q | q
    .rw [q]; omega
    .have := h1 z q; omega
theorem putKs_mem (ks : List Int) (x z : Int) : z ∈ putKs ks x ↔ z ∈ ks \/ z = x := by
 unfold putKs
 cases hc : ks.contains x
 .rw [if_neg (by simp)]
  have e : z ∈ ks ↔ z ∈ ks.take (posN ks x) \/ z ∈ ks.drop (posN ks x) := by rw [<- List.mem_append, List.take_append_drop]
  rw [List.mem_append, List.mem_append, List.mem_singleton, e]
  constructor
  .rintro ((q | q) | q)
   .exact .inl (.inl q)
   .exact .inr q
   .exact .inl (.inr q)
  .rintro ((q | q) | q)
   .exact .inl (.inl q)
   .exact .inr q
   .exact .inl (.inr q)
 .rw [if_pos rfl]
  exact ⟨fun q => .inl q, fun q => q.elim id (fun q => by rw [q]; simpa using hc)⟩
theorem putKs_sorted {ks : List Int} (hs : ks.Pairwise (· < ·)) (x : Int) : (putKs ks x).Pairwise (· < ·) := by
 unfold putKs
 cases hc : ks.contains x
 .rw [if_neg (by simp)]
  have hx : ¬ x ∈ ks := fun z => by rw [List.contains_iff_mem.2 z] at hc; cases hc
  obtain ⟨h1, h2⟩ := pos_split (x := x) hs
  have e := List.take_append_drop (posN ks x) ks
  have hs2 := hs
  rw [<- e] at hs2
  obtain ⟨p1, p2, p3⟩ := List.pairwise_append.1 hs2
  have h3 : ∀ z ∈ ks.drop (posN ks x), x < z := fun z hz => by
   have := h2 z hz
   have hn : x ≠ z := fun q => hx (by rw [q]; exact List.mem_of_mem_drop hz)
   omega
  refine List.pairwise_append.2 ⟨List.pairwise_append.2 ⟨p1, List.pairwise_singleton _ _, fun a ha b hb => ?_⟩, p2, fun a ha b hb => ?_⟩
  .rw [List.mem_singleton] at hb; rw [hb]; exact h1 a ha
  .rcases List.mem_append.1 ha with q | q
   .exact p3 a q b hb
   .rw [List.mem_singleton] at q; rw [q]; exact h3 b hb
 .rw [if_pos rfl]; exact hs
theorem putKs_le (ks : List Int) (x : Int) : (putKs ks x).length <= ks.length + 1 := by
 unfold putKs
 cases hc : ks.contains x
 .rw [if_neg (by simp)]; simp; omega
 .rw [if_pos rfl]; omega
theorem putVs_map {α : Type} {ks : List Int} (hs : ks.Pairwise (· < ·)) (f g : Int -> α) (x : Int) (hfg : ∀ z, z ≠ x -> g z = f z) : putVs ks (ks.map f) x (g x) = (putKs ks x).map g := by
 unfold putVs putKs
 cases hc : ks.contains x
 .rw [if_neg (by simp), if_neg (by simp)]
  have hx : ¬ x ∈ ks := fun z => by rw [List.contains_iff_mem.2 z] at hc; cases hc
  have hm : ks.map f = ks.map g := List.map_congr_left (fun z hz => (hfg z (fun q => hx (by rw [<- q]; exact hz))).symm)
  rw [hm, List.map_append, List.map_append, List.map_take, List.map_drop]
  rfl
 .rw [if_pos rfl, if_pos rfl]
  have hx : x ∈ ks := by simpa using hc
  have hp := posN_at hs hx
  refine List.ext_getElem? (fun i => ?_)
  rw [List.getElem?_set, List.getElem?_map, List.getElem?_map, List.length_map]
  by_cases e : posN ks x = i
  .subst e
   rw [if_pos rfl, if_pos (posN_lt hs hx), hp]
   rfl
  .rw [if_neg e]
   cases hq : ks[i]? with
   | none => rfl
   | some z =>
     have hz : z ≠ x := fun q => by
      subst q
      obtain ⟨a1, a2⟩ := List.getElem?_eq_some_iff.1 hq
      obtain ⟨b1, b2⟩ := List.getElem?_eq_some_iff.1 hp
      have hpw := List.pairwise_iff_getElem.1 hs
      rcases Nat.lt_or_gt_of_ne e with l | l
      .have := hpw _ _ b1 a1 l; omega
      .have := hpw _ _ a1 b1 l; omega
     show some (f z) = some (g z)
     rw [hfg z hz]
theorem putKs_end {ks : List Int} {x : Int} (h : ∀ k ∈ ks, k < x) : putKs ks x = ks ++ [x] := by
 unfold putKs
 have hc : ks.contains x = false := by
  cases hq : ks.contains x
  .rfl
  .have hm : x ∈ ks := by simpa using hq
   have := h x hm; omega
 have hp : posN ks x = ks.length := by unfold posN; exact List.countP_eq_length.2 (fun k hk => by simpa using h k hk)
 rw [hc, if_neg (by simp), hp]
 simp
theorem putVs_end {α : Type} {ks : List Int} {us : List α} {x : Int} {u : α} (hl : us.length = ks.length) (h : ∀ k ∈ ks, k < x) : putVs ks us x u = us ++ [u] := by
 unfold putVs
 have hc : ks.contains x = false := by
  cases hq : ks.contains x
  .rfl
  .have hm : x ∈ ks := by simpa using hq
   have := h x hm; omega
 have hp : posN ks x = ks.length := by unfold posN; exact List.countP_eq_length.2 (fun k hk => by simpa using h k hk)
 rw [hc, if_neg (by simp), hp, <- hl]
 simp
def addT (T : Nat -> Int -> List Ver) (n : Nat) (y : Int) (v : Ver) : Nat -> Int -> List Ver := fun k z => if k = n /\ z = y then T k z ++ [v] else T k z
def addK (K : Nat -> List Int) (n : Nat) (y : Int) : Nat -> List Int := fun k => if k = n then putKs (K k) y else K k
theorem LedM.step {B sb vb n : Nat} {y : Int} {v : Ver} {w w1 w2 : World} {L : LIx -> Value} {c : Led} {ck : Int} {op : Nat -> Option Addr} {kv' vv' kv2 vv2 : Value} (h : LedM B w L c) (hn : n < 32) (hsb : sb < w.heap.size) (hvb : w.heap.size <= vb \/ ¬ ldF L vb) (hns : ¬ ldF L sb) (hlt : ∀ z ∈ c.T n y, z.1 < v.1)
 (hfr1 : Fr (fun g => g = vb \/ (L (.ek n y)).ownBlock = some g \/ (L (.ev n y)).ownBlock = some g) w w1) (hk1 : w1.ownsRow B 3 1 kv' ((c.T n y).length + 1) (((c.T n y ++ [v]).map (·.1)).map (Value.int .i64))) (hv1 : w1.ownsRow B 121 2 vv' ((c.T n y).length + 1) ((c.T n y ++ [v]).flatMap verV)) (hkn : ∀ g, kv'.ownBlock = some g -> (L (.ek n y)).ownBlock = some g \/ w.heap.size <= g) (hvn : ∀ g, vv'.ownBlock = some g -> (L (.ev n y)).ownBlock = some g \/ w.heap.size <= g) (hds : ∀ g, kv'.ownBlock = some g -> vv'.ownBlock ≠ some g) (hvb2 : ∀ g, g = vb -> ¬ ldF L g)
 (R2 : PutR B sb (1 + n * 2) 155 2 w1 (sesC ck L op) (L (.tk n)) (L (.tv n)) (putKs (c.K n) y) (putVs (c.K n) ((c.K n).map (fun z => [L (.ek n z), L (.ev n z)])) y [kv', vv']).flatten w2 kv2 vv2) :
 ∃ L', LedM B w2 L' { c with T := addT c.T n y v, K := addK c.K n y } /\ Blk w2 sb (sesC ck L' op) /\ (∀ g, ldF L' g -> ldF L g \/ w.heap.size <= g) := by
 have hs1 := hfr1.size
 have hee : (LIx.ek n y) ≠ LIx.ev n y := fun z => by cases z
 have M1 : RowsM B w1 (upd (upd L (.ek n y) kv') (.ev n y) vv') (upd (upd (lLen c) (.ek n y) ((c.T n y).length + 1)) (.ev n y) ((c.T n y).length + 1)) (upd (upd (lCel L c) (.ek n y) (((c.T n y ++ [v]).map (·.1)).map (Value.int .i64))) (.ev n y) ((c.T n y ++ [v]).flatMap verV)) :=
  h.rm.upd2 hee hfr1 (fun g hg => by
   rcases hg with z | z | z
   .exact .inr (.inr (hvb2 g z))
   .exact .inl z
   .exact .inr (.inl z)) hk1 hv1 hkn hvn hds
 obtain ⟨L1, hL1⟩ : ∃ z, z = upd (upd L (.ek n y) kv') (.ev n y) vv' := ⟨_, rfl⟩
 rw [<- hL1] at M1
 have off : ∀ i, i ≠ .ek n y -> i ≠ .ev n y -> L1 i = L i := fun i a b => by rw [hL1, upd_ne _ _ b, upd_ne _ _ a]
 have oek : L1 (.ek n y) = kv' := by rw [hL1, upd_ne _ _ hee, upd_same]
 have oev : L1 (.ev n y) = vv' := by rw [hL1, upd_same]
 have otk : ∀ k, L1 (.tk k) = L (.tk k) := fun k => off _ (by simp) (by simp)
 have otv : ∀ k, L1 (.tv k) = L (.tv k) := fun k => off _ (by simp) (by simp)
 have ohs : L1 .hs = L .hs := off _ (by simp) (by simp)
 have hnew : ∀ g, ldF L1 g -> ldF L g \/ w.heap.size <= g := fun g hg => by
  obtain ⟨i, hi⟩ := hg
  by_cases a : i = .ek n y
  .subst a
   rw [oek] at hi
   rcases hkn g hi with z | z
   .exact .inl ⟨_, z⟩
   .exact .inr z
  .by_cases b : i = .ev n y
   .subst b
    rw [oev] at hi
    rcases hvn g hi with z | z
    .exact .inl ⟨_, z⟩
    .exact .inr z
   .rw [off i a b] at hi; exact .inl ⟨i, hi⟩
 have htt : (LIx.tk n) ≠ LIx.tv n := fun z => by cases z
 have hns1 : ¬ ldF L1 sb := fun z => by
  rcases hnew sb z with q | q
  .exact hns q
  .omega
 have M2 := M1.upd2 htt R2.fr (fun g hg => by
  rcases hg with z | z | z
  .exact .inr (.inr (by rw [z]; exact hns1))
  .exact .inl (by rw [otk]; exact z)
  .exact .inr (.inl (by rw [otv]; exact z))) R2.kr R2.vr (fun g hg => by rw [otk]; exact R2.kn g hg) (fun g hg => by rw [otv]; exact R2.vn g hg) R2.ds
 obtain ⟨L2, hL2⟩ : ∃ z, z = upd (upd L1 (.tk n) kv2) (.tv n) vv2 := ⟨_, rfl⟩
 rw [<- hL2] at M2
 have off2 : ∀ i, i ≠ .tk n -> i ≠ .tv n -> L2 i = L1 i := fun i a b => by rw [hL2, upd_ne _ _ b, upd_ne _ _ a]
 have otk2 : L2 (.tk n) = kv2 := by rw [hL2, upd_ne _ _ htt, upd_same]
 have otv2 : L2 (.tv n) = vv2 := by rw [hL2, upd_same]
 have oe2 : ∀ k z, ¬ (k = n /\ z = y) -> L2 (.ek k z) = L (.ek k z) /\ L2 (.ev k z) = L (.ev k z) := fun k z hkz => by
  have e1 : LIx.ek k z ≠ LIx.ek n y := fun q => by injection q with q1 q2; exact hkz ⟨q1, q2⟩
  have e2 : LIx.ev k z ≠ LIx.ev n y := fun q => by injection q with q1 q2; exact hkz ⟨q1, q2⟩
  exact ⟨by rw [off2 _ (by simp) (by simp), off _ e1 (by simp)], by rw [off2 _ (by simp) (by simp), off _ (by simp) e2]⟩
 have oeN : L2 (.ek n y) = kv' /\ L2 (.ev n y) = vv' := ⟨by rw [off2 _ (by simp) (by simp), oek], by rw [off2 _ (by simp) (by simp), oev]⟩
 refine ⟨L2, ⟨M2.congr (fun _ => rfl) (fun i => ?_) (fun i => ?_), fun k => ?_, fun k z => ?_, fun k z hz => ?_, fun k z => ?_⟩, ?_, fun g hg => ?_⟩
 .cases i with
  | tk k =>
    by_cases e : k = n
    .subst e; rw [upd_ne _ _ htt, upd_same]; simp [lLen, addK]
    .have a1 : LIx.tk k ≠ LIx.tk n := fun q => by injection q with q; exact e q
     rw [upd_ne _ _ (by simp), upd_ne _ _ a1, upd_ne _ _ (by simp), upd_ne _ _ (by simp)]
     simp [lLen, addK, e]
  | tv k =>
    by_cases e : k = n
    .subst e; rw [upd_same]; simp [lLen, addK]
    .have a1 : LIx.tv k ≠ LIx.tv n := fun q => by injection q with q; exact e q
     rw [upd_ne _ _ a1, upd_ne _ _ (by simp), upd_ne _ _ (by simp), upd_ne _ _ (by simp)]
     simp [lLen, addK, e]
  | ek k z =>
    rw [upd_ne _ _ (by simp), upd_ne _ _ (by simp), upd_ne _ _ (by simp)]
    by_cases e : k = n /\ z = y
    .obtain ⟨rfl, rfl⟩ := e
     rw [upd_same]; simp [lLen, addT]
    .have a1 : LIx.ek k z ≠ LIx.ek n y := fun q => by injection q with q1 q2; exact e ⟨q1, q2⟩
     rw [upd_ne _ _ a1]; simp only [lLen, addT, if_neg e]
  | ev k z =>
    rw [upd_ne _ _ (by simp), upd_ne _ _ (by simp)]
    by_cases e : k = n /\ z = y
    .obtain ⟨rfl, rfl⟩ := e
     rw [upd_same]; simp [lLen, addT]
    .have a1 : LIx.ev k z ≠ LIx.ev n y := fun q => by injection q with q1 q2; exact e ⟨q1, q2⟩
     rw [upd_ne _ _ a1, upd_ne _ _ (by simp)]; simp only [lLen, addT, if_neg e]
  | hs => rw [upd_ne _ _ (by simp), upd_ne _ _ (by simp), upd_ne _ _ (by simp), upd_ne _ _ (by simp)]; rfl
  | hr j => rw [upd_ne _ _ (by simp), upd_ne _ _ (by simp), upd_ne _ _ (by simp), upd_ne _ _ (by simp)]; rfl
  | hw j => rw [upd_ne _ _ (by simp), upd_ne _ _ (by simp), upd_ne _ _ (by simp), upd_ne _ _ (by simp)]; rfl
 .cases i with
  | tk k =>
    by_cases e : k = n
    .subst e; rw [upd_ne _ _ htt, upd_same]; simp [lCel, addK]
    .have a1 : LIx.tk k ≠ LIx.tk n := fun q => by injection q with q; exact e q
     rw [upd_ne _ _ (by simp), upd_ne _ _ a1, upd_ne _ _ (by simp), upd_ne _ _ (by simp)]
     simp [lCel, addK, e]
  | tv k =>
    by_cases e : k = n
    .subst e
     rw [upd_same]
     simp only [lCel, addK, if_true]
     rw [List.flatMap_def]
     congr 1
     have := putVs_map (h.srt k) (fun z => [L (.ek k z), L (.ev k z)]) (fun z => [L2 (.ek k z), L2 (.ev k z)]) y (fun z hz => by
      obtain ⟨q1, q2⟩ := oe2 k z (fun q => hz q.2)
      simp only [q1, q2])
     simp only [oeN.1, oeN.2] at this
     exact this
    .have a1 : LIx.tv k ≠ LIx.tv n := fun q => by injection q with q; exact e q
     rw [upd_ne _ _ a1, upd_ne _ _ (by simp), upd_ne _ _ (by simp), upd_ne _ _ (by simp)]
     simp only [lCel, addK, if_neg e]
     refine congrArg (fun f => List.flatMap f (c.K k)) (funext (fun z => ?_))
     obtain ⟨q1, q2⟩ := oe2 k z (fun q => e q.1)
     rw [q1, q2]
  | ek k z =>
    rw [upd_ne _ _ (by simp), upd_ne _ _ (by simp), upd_ne _ _ (by simp)]
    by_cases e : k = n /\ z = y
    .obtain ⟨rfl, rfl⟩ := e
     rw [upd_same]; simp [lCel, addT]
    .have a1 : LIx.ek k z ≠ LIx.ek n y := fun q => by injection q with q1 q2; exact e ⟨q1, q2⟩
     rw [upd_ne _ _ a1]; simp only [lCel, addT, if_neg e]
  | ev k z =>
    rw [upd_ne _ _ (by simp), upd_ne _ _ (by simp)]
    by_cases e : k = n /\ z = y
    .obtain ⟨rfl, rfl⟩ := e
     rw [upd_same]; simp [lCel, addT]
    .have a1 : LIx.ev k z ≠ LIx.ev n y := fun q => by injection q with q1 q2; exact e ⟨q1, q2⟩
     rw [upd_ne _ _ a1, upd_ne _ _ (by simp)]; simp only [lCel, addT, if_neg e]
  | hs =>
    rw [upd_ne _ _ (by simp), upd_ne _ _ (by simp), upd_ne _ _ (by simp), upd_ne _ _ (by simp)]
    simp only [lCel]
    refine congrArg (fun f => List.flatMap f (List.range c.hs.length)) (funext (fun j => ?_))
    unfold hsC
    rw [off2 _ (by simp) (by simp), off2 _ (by simp) (by simp), off _ (by simp) (by simp), off _ (by simp) (by simp)]
  | hr j => rw [upd_ne _ _ (by simp), upd_ne _ _ (by simp), upd_ne _ _ (by simp), upd_ne _ _ (by simp)]; rfl
  | hw j => rw [upd_ne _ _ (by simp), upd_ne _ _ (by simp), upd_ne _ _ (by simp), upd_ne _ _ (by simp)]; rfl
 .simp only [addK]
  split
  .exact putKs_sorted (h.srt k) y
  .exact h.srt k
 .simp only [addK, addT]
  by_cases e : k = n
  .subst e
   rw [if_pos rfl, putKs_mem, h.mem]
   by_cases e2 : z = y
   .subst e2; simp
   .simp [e2]
  .rw [if_neg e, if_neg (fun q => e q.1)]; exact h.mem k z
 .simp only [addK] at hz
  have hkz : ¬ (k = n /\ z = y) := fun q => by
   obtain ⟨rfl, rfl⟩ := q
   rw [if_pos rfl, putKs_mem] at hz
   exact hz (.inr rfl)
  obtain ⟨q1, q2⟩ := oe2 k z hkz
  rw [q1, q2]
  refine h.nil k z (fun q => hz ?_)
  by_cases e : k = n
  .rw [if_pos e, putKs_mem]; exact .inl q
  .rw [if_neg e]; exact q
 .simp only [addT]
  split
  .rename_i e
   obtain ⟨rfl, rfl⟩ := e
   rw [List.map_append]
   refine List.pairwise_append.2 ⟨h.tst k z, List.pairwise_singleton _ _, fun a ha b hb => ?_⟩
   simp at hb
   obtain ⟨q, hq, rfl⟩ := List.mem_map.1 ha
   rw [hb]; exact hlt q hq
  .exact h.tst k z
 .have hb := R2.bk
  have e : ((sesC ck L op).set (1 + n * 2) kv2).set (1 + n * 2 + 1) vv2 = sesC ck L2 op := sesC_is (by rw [List.length_set, List.length_set, sesC_len]) (fun j hj => by
   rw [List.getElem?_set, List.length_set, sesC_len, List.getElem?_set, sesC_len]
   by_cases e1 : 1 + n * 2 + 1 = j
   .subst e1
    rw [if_pos rfl, if_pos hj, sesAt_tv _ _ _ hn, otv2]
   .rw [if_neg e1]
    by_cases e2 : 1 + n * 2 = j
    .subst e2
     rw [if_pos rfl, if_pos hj, sesAt_tk _ _ _ hn, otk2]
    .rw [if_neg e2, sesC_at _ _ _ hj]
     unfold sesAt
     by_cases a0 : j = 0
     .rw [if_pos a0, if_pos a0]
     .rw [if_neg a0, if_neg a0]
      by_cases a1 : j < 65
      .rw [if_pos a1, if_pos a1]
       by_cases a2 : j % 2 = 1
       .rw [if_pos a2, if_pos a2, off2 _ (fun q => by injection q with q; omega) (by simp), otk]
       .rw [if_neg a2, if_neg a2, off2 _ (by simp) (fun q => by injection q with q; omega), otv]
      .rw [if_neg a1, if_neg a1]
       by_cases a3 : j = 65
       .rw [if_pos a3, if_pos a3, off2 _ (by simp) (by simp), ohs]
       .rw [if_neg a3, if_neg a3])
  rw [e] at hb
  exact hb
 .obtain ⟨i, hi⟩ := hg
  by_cases a : i = .tk n
  .subst a
   rw [otk2] at hi
   rcases R2.kn g hi with z | z
   .exact .inl ⟨_, z⟩
   .exact .inr (by omega)
  .by_cases b : i = .tv n
   .subst b
    rw [otv2] at hi
    rcases R2.vn g hi with z | z
    .exact .inl ⟨_, z⟩
    .exact .inr (by omega)
   .rw [off2 i a b] at hi; exact hnew g ⟨i, hi⟩
theorem getD_snoc {hs : List TI} {h : TI} (j : Nat) : (hs ++ [h]).getD j ti0 = if j = hs.length then h else hs.getD j ti0 := by
 rw [List.getD_eq_getElem?_getD, List.getD_eq_getElem?_getD, List.getElem?_append]
 by_cases e : j < hs.length
 .rw [if_pos e, if_neg (by omega)]
 .rw [if_neg e]
  by_cases e2 : j = hs.length
  .rw [if_pos e2, e2]; simp
  .rw [if_neg e2, List.getElem?_eq_none (by simp; omega), List.getElem?_eq_none (by omega)]
theorem LedM.pushH {B : Nat} {w w1 w2 : World} {L : LIx -> Value} {c : Led} {hi : TI} {v2 v3 v' : Value} (h : LedM B w L c) (hB : B <= w.heap.size) (hb1 : Below w.heap.size w w1) (r2 : IGr w.heap.size w1 v2 hi.reads) (r3 : IGr w.heap.size w1 v3 hi.writes) (hd : ∀ a, v2.ownBlock = some a -> v3.ownBlock ≠ some a)
 (hf : Fr (fun g => (L .hs).ownBlock = some g) w1 w2) (ho : w2.ownsRow B 131 4 v' (c.hs.length + 1) ((List.range c.hs.length).flatMap (hsC L c.hs) ++ [.int .i64 hi.bgn, .int .i64 hi.com, v2, v3])) (hv : v'.ownBlock = (L .hs).ownBlock \/ ∃ q, v'.ownBlock = some q /\ w1.heap.size <= q) :
 ∃ L', LedM B w2 L' { c with hs := c.hs ++ [hi] } /\ (∀ k, L' (.tk k) = L (.tk k) /\ L' (.tv k) = L (.tv k)) /\ L' .hs = v' /\ (∀ g, ldF L' g -> ldF L g \/ w.heap.size <= g) := by
 obtain ⟨n, hn⟩ : ∃ n, n = c.hs.length := ⟨_, rfl⟩
 have hrw : (LIx.hr n) ≠ LIx.hw n := fun z => by cases z
 have n2 : ∀ g, v2.ownBlock = some g -> w.heap.size <= g /\ g < w1.heap.size := fun g hg => r2.lt hg
 have n3 : ∀ g, v3.ownBlock = some g -> w.heap.size <= g /\ g < w1.heap.size := fun g hg => r3.lt hg
 have M1 := h.rm.upd2 (i := .hr n) (j := .hw n) hrw (Fr.of_below (fun _ => False) hb1) (fun g z => z.elim) (r2.base hB) (r3.base hB) (fun g hg => .inr (n2 g hg).1) (fun g hg => .inr (n3 g hg).1) hd
 obtain ⟨L1, hL1⟩ : ∃ z, z = upd (upd L (.hr n) v2) (.hw n) v3 := ⟨_, rfl⟩
 rw [<- hL1] at M1
 have off : ∀ i, i ≠ .hr n -> i ≠ .hw n -> L1 i = L i := fun i a b => by rw [hL1, upd_ne _ _ b, upd_ne _ _ a]
 have ohr : L1 (.hr n) = v2 := by rw [hL1, upd_ne _ _ hrw, upd_same]
 have ohw : L1 (.hw n) = v3 := by rw [hL1, upd_same]
 have ohs : L1 .hs = L .hs := off _ (by simp) (by simp)
 have hs1 := hb1.size
 have hnew : ∀ g, ldF L1 g -> ldF L g \/ w.heap.size <= g := fun g hg => by
  obtain ⟨i, hi⟩ := hg
  by_cases a : i = .hr n
  .subst a; rw [ohr] at hi; exact .inr (n2 g hi).1
  .by_cases b : i = .hw n
   .subst b; rw [ohw] at hi; exact .inr (n3 g hi).1
   .rw [off i a b] at hi; exact .inl ⟨i, hi⟩
 have M2 := M1.upd1 (i := .hs) hf (fun g hg => .inl (by rw [ohs]; exact hg)) ho (fun g hg => by
  rcases hv with e | ⟨q, e, hq⟩
  .exact .inl (by rw [ohs, <- e]; exact hg)
  .rw [e] at hg; injection hg with hg; exact .inr (by omega))
 obtain ⟨L2, hL2⟩ : ∃ z, z = upd L1 .hs v' := ⟨_, rfl⟩
 rw [<- hL2] at M2
 have off2 : ∀ i, i ≠ .hs -> L2 i = L1 i := fun i a => by rw [hL2, upd_ne _ _ a]
 have otk : ∀ k, L2 (.tk k) = L (.tk k) /\ L2 (.tv k) = L (.tv k) := fun k => ⟨by rw [off2 _ (by simp), off _ (by simp) (by simp)], by rw [off2 _ (by simp), off _ (by simp) (by simp)]⟩
 have oe : ∀ k y, L2 (.ek k y) = L (.ek k y) /\ L2 (.ev k y) = L (.ev k y) := fun k y => ⟨by rw [off2 _ (by simp), off _ (by simp) (by simp)], by rw [off2 _ (by simp), off _ (by simp) (by simp)]⟩
 have or2 : ∀ j, j ≠ n -> L2 (.hr j) = L (.hr j) /\ L2 (.hw j) = L (.hw j) := fun j hj => by
  have a1 : LIx.hr j ≠ LIx.hr n := fun q => by injection q with q; exact hj q
  have a2 : LIx.hw j ≠ LIx.hw n := fun q => by injection q with q; exact hj q
  exact ⟨by rw [off2 _ (by simp), off _ a1 (by simp)], by rw [off2 _ (by simp), off _ (by simp) a2]⟩
 have orN : L2 (.hr n) = v2 /\ L2 (.hw n) = v3 := ⟨by rw [off2 _ (by simp), ohr], by rw [off2 _ (by simp), ohw]⟩
 refine ⟨L2, ⟨M2.congr (fun _ => rfl) (fun i => ?_) (fun i => ?_), h.srt, h.mem, fun k z hz => ?_, h.tst⟩, otk, by rw [hL2, upd_same], fun g hg => ?_⟩
 .cases i with
  | tk k => rw [upd_ne _ _ (by simp), upd_ne _ _ (by simp), upd_ne _ _ (by simp)]; rfl
  | tv k => rw [upd_ne _ _ (by simp), upd_ne _ _ (by simp), upd_ne _ _ (by simp)]; rfl
  | ek k z => rw [upd_ne _ _ (by simp), upd_ne _ _ (by simp), upd_ne _ _ (by simp)]; rfl
  | ev k z => rw [upd_ne _ _ (by simp), upd_ne _ _ (by simp), upd_ne _ _ (by simp)]; rfl
  | hs => rw [upd_same]; simp [lLen]
  | hr j =>
    rw [upd_ne _ _ (by simp), upd_ne _ _ (by simp)]
    simp only [lLen, getD_snoc]
    by_cases e : j = n
    .subst e; rw [upd_same, if_pos hn]
    .have a1 : LIx.hr j ≠ LIx.hr n := fun q => by injection q with q; exact e q
     rw [upd_ne _ _ a1, if_neg (by omega)]
     rfl
  | hw j =>
    rw [upd_ne _ _ (by simp)]
    simp only [lLen, getD_snoc]
    by_cases e : j = n
    .subst e; rw [upd_same, if_pos hn]
    .have a1 : LIx.hw j ≠ LIx.hw n := fun q => by injection q with q; exact e q
     rw [upd_ne _ _ a1, upd_ne _ _ (by simp), if_neg (by omega)]
     rfl
 .cases i with
  | tk k => rw [upd_ne _ _ (by simp), upd_ne _ _ (by simp), upd_ne _ _ (by simp)]; rfl
  | tv k =>
    rw [upd_ne _ _ (by simp), upd_ne _ _ (by simp), upd_ne _ _ (by simp)]
    simp only [lCel]
    refine congrArg (fun f => List.flatMap f (c.K k)) (funext (fun z => ?_))
    rw [(oe k z).1, (oe k z).2]
  | ek k z => rw [upd_ne _ _ (by simp), upd_ne _ _ (by simp), upd_ne _ _ (by simp)]; rfl
  | ev k z => rw [upd_ne _ _ (by simp), upd_ne _ _ (by simp), upd_ne _ _ (by simp)]; rfl
  | hs =>
    rw [upd_same]
    simp only [lCel, List.length_append, List.length_cons, List.length_nil, Nat.zero_add]
    rw [List.range_succ, List.flatMap_append, List.flatMap_cons, List.flatMap_nil, List.append_nil]
    congr 1
    .rw [List.flatMap_def, List.flatMap_def]
     refine congrArg List.flatten (List.map_congr_left (fun j hj => ?_))
     rw [List.mem_range] at hj
     obtain ⟨q1, q2⟩ := or2 j (by omega)
     unfold hsC
     rw [q1, q2, getD_snoc, if_neg (by omega)]
    .unfold hsC
     rw [getD_snoc, if_pos rfl, <- hn, orN.1, orN.2]
  | hr j =>
    rw [upd_ne _ _ (by simp), upd_ne _ _ (by simp)]
    simp only [lCel, getD_snoc]
    by_cases e : j = n
    .subst e; rw [upd_same, if_pos hn]
    .have a1 : LIx.hr j ≠ LIx.hr n := fun q => by injection q with q; exact e q
     rw [upd_ne _ _ a1, if_neg (by omega)]
     rfl
  | hw j =>
    rw [upd_ne _ _ (by simp)]
    simp only [lCel, getD_snoc]
    by_cases e : j = n
    .subst e; rw [upd_same, if_pos hn]
    .have a1 : LIx.hw j ≠ LIx.hw n := fun q => by injection q with q; exact e q
     rw [upd_ne _ _ a1, upd_ne _ _ (by simp), if_neg (by omega)]
     rfl
 .rw [(oe k z).1, (oe k z).2]; exact h.nil k z hz
 .obtain ⟨i, hi⟩ := hg
  by_cases a : i = .hs
  .subst a
   rw [hL2, upd_same] at hi
   rcases hv with e | ⟨q, e, hq⟩
   .exact .inl ⟨.hs, by rw [<- e]; exact hi⟩
   .rw [e] at hi; injection hi with hi; exact .inr (by omega)
  .rw [off2 i a] at hi; exact hnew g ⟨i, hi⟩
theorem ses_hist {w : World} {sb : Nat} {ck : Int} {L L' : LIx -> Value} {op : Nat -> Option Addr} {v' : Value} (h : Blk w sb (sesC ck L op)) (ht : ∀ k, L' (.tk k) = L (.tk k) /\ L' (.tv k) = L (.tv k)) (hh : L' .hs = v') : Blk (w.setCell ⟨sb, 65, none⟩ v') sb (sesC ck L' op) := by
 have h1 := h.set 65 v' (by rw [sesC_len]; omega)
 have e : (sesC ck L op).set 65 v' = sesC ck L' op := sesC_is (by rw [List.length_set, sesC_len]) (fun j hj => by
  rw [List.getElem?_set, sesC_len]
  by_cases e : 65 = j
  .subst e; rw [if_pos rfl, if_pos hj, sesAt_hs, hh]
  .rw [if_neg e, sesC_at _ _ _ hj]
   unfold sesAt
   by_cases a0 : j = 0
   .rw [if_pos a0, if_pos a0]
   .rw [if_neg a0, if_neg a0]
    by_cases a1 : j < 65
    .rw [if_pos a1, if_pos a1]
     split
     .rw [(ht _).1]
     .rw [(ht _).2]
    .rw [if_neg a1, if_neg a1, if_neg (fun z => e z.symm), if_neg (fun z => e z.symm)])
 rw [e] at h1
 exact h1
theorem sub_len : ∀ {D E : List Spt}, D.Nodup -> (∀ d ∈ D, d ∈ E) -> D.length <= E.length
 | [], _, _, _ => Nat.zero_le _
 | d :: r, E, hn, hs => by
   obtain ⟨h1, h2⟩ := List.nodup_cons.1 hn
   have hd := hs d List.mem_cons_self
   have ih := sub_len (D := r) (E := E.erase d) h2 (fun x hx => by
    refine (List.mem_erase_of_ne (fun e => h1 (by rw [<- e]; exact hx))).2 (hs x (List.mem_cons_of_mem _ hx)))
   rw [List.length_erase_of_mem hd] at ih
   have : 0 < E.length := List.length_pos_of_mem hd
   rw [List.length_cons]
   omega
end Go.Proofs.YtblkgicbimflhaaGreat
namespace Go.Proofs.YtblkgicbimflhaaGreat
open Go.ChangeShapes Go.WideShapes Go.ChangeAt Go.RowKit
set_option linter.unusedVariables false
set_option linter.unusedSimpArgs false
set_option maxRecDepth 100000
set_option maxHeartbeats 16000000
open Go.ChangeMaps (setBlock)
theorem it_own {w : World} {r b : Nat} {M : List (Spt × Vsn)} {D : List Spt} {B e K n : Nat} {v : Value} {xs : List Value} (h : IT w r b M D) (ho : w.ownsRow B e K v n xs) : v.ownBlock ≠ some r /\ v.ownBlock ≠ some b := by
 refine ⟨fun hg => ?_, fun hg => own_map ho hg h.mp⟩
 obtain ⟨es, cl, seen, _, _, _, _, _, h6, _⟩ := h
 rcases ho.2 with ⟨h2, _⟩ | ⟨g', cap, cur, rfl, h3, h4, _⟩
 .rw [h2] at hg; simp [Value.ownBlock] at hg
 .have : g' = r := by simpa [Value.ownBlock] using hg
  subst this
  rw [h4] at h6
  cases h6
theorem it_blk {w : World} {r b c : Nat} {M : List (Spt × Vsn)} {D : List Spt} {cs : List Value} (h : IT w r b M D) (hb : Blk w c cs) (hl : 0 < cs.length) : c ≠ r /\ c ≠ b := by
 refine ⟨fun e => ?_, fun e => blk_map hb hl (by rw [e]; exact h.mp)⟩
 subst e
 obtain ⟨es, cl, seen, _, _, _, _, _, h6, _⟩ := h
 have := (hb 0 hl).1
 rw [List.getElem?_eq_getElem hl] at this
 simp [World.cell?, h6] at this
def newV (M : List (Spt × Vsn)) (st : Int) (k : Nat) (y : Int) : List Ver := match mget M ((k : Int), y) with
 | some v => [(st, v)]
 | none => []
structure SetM (B sb : Nat) (w0 : World) (L0 : LIx -> Value) (c0 : Led) (st : Int) (op : Nat -> Option Addr) (mb : Nat) (M : List (Spt × Vsn)) (r : Nat) (wr : World) (L : LIx -> Value) (c : Led) (D : List Spt) : Prop where
 led : LedM B wr L c
 ses : Blk wr sb (sesC st L op)
 it : IT wr r mb M D
 hT : ∀ k y, c.T k y = c0.T k y ++ (if ((k : Int), y) ∈ D then newV M st k y else [])
 hH : c.hs = c0.hs
 kl : ∀ k, (c.K k).length <= (c0.K k).length + D.length
 nw : ∀ g, ldF L g -> ldF L0 g \/ w0.heap.size <= g
 fr : Fr (fun g => g = sb \/ ldF L0 g) w0 wr
 nd : D.Nodup
 hd : ∀ k ∈ D, ∃ v, (k, v) ∈ M
 ns : ¬ ldF L0 sb
 sl : sb < w0.heap.size
 rl : w0.heap.size <= r
 lt : ∀ k y z, z ∈ c0.T k y -> z.1 < st
theorem SetM.nsb {B sb : Nat} {w0 : World} {L0 : LIx -> Value} {c0 : Led} {st : Int} {op : Nat -> Option Addr} {mb : Nat} {M : List (Spt × Vsn)} {r : Nat} {wr : World} {L : LIx -> Value} {c : Led} {D : List Spt} (h : SetM B sb w0 L0 c0 st op mb M r wr L c D) : ¬ ldF L sb := fun z => by
 rcases h.nw sb z with q | q
 .exact h.ns q
 .have := h.sl; omega
theorem SetM.step {B sb : Nat} {w0 : World} {L0 : LIx -> Value} {c0 : Led} {st : Int} {op : Nat -> Option Addr} {mb : Nat} {M : List (Spt × Vsn)} {r : Nat} {wr w1 wp w5 w6 : World} {L : LIx -> Value} {c : Led} {D : List Spt} {n : Nat} {y : Int} {v : Vsn} {vb : Nat} {kv' vv' kv2 vv2 : Value} (h : SetM B sb w0 L0 c0 st op mb M r wr L c D) (hn : n < 32) (hm : (((n : Int), y), v) ∈ M) (hnD : ¬ ((n : Int), y) ∈ D)
 (hit : IT w1 r mb M (((n : Int), y) :: D)) (hf1 : Fr (fun g => g = r) wr w1) (hlt : w1.rangeLeft mb r < wr.rangeLeft mb r) (hbp : Below w1.heap.size w1 wp) (hvb : w1.heap.size <= vb) (hvl : vb < wp.heap.size)
 (R1 : PutR B vb 0 121 2 wp [L (.ek n y), L (.ev n y)] (L (.ek n y)) (L (.ev n y)) (putKs ((c.T n y).map (·.1)) st) (putVs ((c.T n y).map (·.1)) ((c.T n y).map verV) st [.int .i64 v.1, .bool v.2]).flatten w5 kv' vv')
 (R2 : PutR B sb (1 + n * 2) 155 2 w5 (sesC st L op) (L (.tk n)) (L (.tv n)) (putKs (c.K n) y) (putVs (c.K n) ((c.K n).map (fun z => [L (.ek n z), L (.ev n z)])) y [kv', vv']).flatten w6 kv2 vv2) :
 ∃ L' c', SetM B sb w0 L0 c0 st op mb M r w6 L' c' (((n : Int), y) :: D) /\ w6.rangeLeft mb r < wr.rangeLeft mb r := by
 have hs1 := hf1.size
 have hsp := hbp.size
 have hsr := h.fr.size
 have hsl := h.sl
 have nr : ∀ g, ldF L g -> g ≠ r /\ g ≠ mb := fun g hg => by
  obtain ⟨i, hi⟩ := hg
  obtain ⟨q1, q2⟩ := it_own h.it (h.led.rm.rows i)
  exact ⟨fun e => q1 (by rw [<- e]; exact hi), fun e => q2 (by rw [<- e]; exact hi)⟩
 have led1 : LedM B w1 L c := h.led.fr hf1 (fun g hg => (nr g hg).1)
 have ledp : LedM B wp L c := led1.below hbp
 have hTn : c.T n y = c0.T n y := by rw [h.hT, if_neg hnD, List.append_nil]
 have hall : ∀ k ∈ (c.T n y).map (·.1), k < st := fun k hk => by
  obtain ⟨z, hz, rfl⟩ := List.mem_map.1 hk
  rw [hTn] at hz
  exact h.lt n y z hz
 have e1 : putKs ((c.T n y).map (·.1)) st = (c.T n y ++ [(st, v)]).map (·.1) := by rw [putKs_end hall, List.map_append]; rfl
 have e2 : (putVs ((c.T n y).map (·.1)) ((c.T n y).map verV) st [.int .i64 v.1, .bool v.2]).flatten = (c.T n y ++ [(st, v)]).flatMap verV := by
  rw [putVs_end (by simp) hall, List.flatMap_def, List.map_append]; rfl
 have l1 : ((c.T n y ++ [(st, v)]).map (·.1)).length = (c.T n y).length + 1 := by simp
 have k1 := R1.kr
 have v1 := R1.vr
 rw [e1, l1] at k1 v1
 rw [e2] at v1
 have hvn : ¬ ldF L vb := fun z => by have := (led1.rm.lt z).2; omega
 obtain ⟨L', hL', hS', hN'⟩ := ledp.step (v := (st, v)) hn (by omega) (.inr hvn) h.nsb (fun z hz => hall z.1 (List.mem_map_of_mem hz)) R1.fr k1 v1 R1.kn R1.vn R1.ds (fun g e => by rw [e]; exact hvn) R2
 have sbr := it_blk h.it h.ses (by rw [sesC_len]; omega)
 have hrlt := h.it.lt
 have hmlt := h.it.mp.lt
 have itp := hit.fr (Fr.of_below (fun _ => False) hbp) (fun z => z) (fun z => z)
 have it5 := itp.1.fr R1.fr (fun z => by
  rcases z with z | z | z
  .omega
  .exact (nr mb ⟨_, z⟩).2 rfl
  .exact (nr mb ⟨_, z⟩).2 rfl) (fun z => by
  rcases z with z | z | z
  .omega
  .exact (nr r ⟨_, z⟩).1 rfl
  .exact (nr r ⟨_, z⟩).1 rfl)
 have it6 := it5.1.fr R2.fr (fun z => by
  rcases z with z | z | z
  .exact sbr.2 z.symm
  .exact (nr mb ⟨_, z⟩).2 rfl
  .exact (nr mb ⟨_, z⟩).2 rfl) (fun z => by
  rcases z with z | z | z
  .exact sbr.1 z.symm
  .exact (nr r ⟨_, z⟩).1 rfl
  .exact (nr r ⟨_, z⟩).1 rfl)
 have back : ∀ g, ldF L g -> (g = sb \/ ldF L0 g) \/ w0.heap.size <= g := fun g hg => by
  rcases h.nw g hg with q | q
  .exact .inl (.inr q)
  .exact .inr q
 have hs5 := R1.fr.size
 refine ⟨L', _, ⟨hL', hS', it6.1, fun k z => ?_, h.hH, fun k => ?_, fun g hg => ?_, ?_, List.nodup_cons.2 ⟨hnD, h.nd⟩, fun k hk => ?_, h.ns, h.sl, h.rl, h.lt⟩, by rw [it6.2, it5.2, itp.2]; exact hlt⟩
 .simp only [addT]
  by_cases e : k = n /\ z = y
  .obtain ⟨rfl, rfl⟩ := e
   rw [if_pos ⟨rfl, rfl⟩, hTn, if_pos List.mem_cons_self]
   have hg : mget M ((k : Int), z) = some v := mget_mem h.it.mp.nodup hm
   unfold newV
   rw [hg]
  .rw [if_neg e, h.hT]
   have : (((k : Int), z) ∈ ((n : Int), y) :: D) ↔ ((k : Int), z) ∈ D := by
    rw [List.mem_cons]
    constructor
    .rintro (q | q)
     .injection q with q1 q2; exact absurd ⟨by omega, q2⟩ e
     .exact q
    .exact fun q => .inr q
   by_cases e2 : ((k : Int), z) ∈ D
   .rw [if_pos e2, if_pos (this.2 e2)]
   .rw [if_neg e2, if_neg (fun q => e2 (this.1 q))]
 .simp only [addK, List.length_cons]
  have := h.kl k
  by_cases e : k = n
  .rw [if_pos e]; have := putKs_le (c.K k) y; omega
  .rw [if_neg e]; omega
 .rcases hN' g hg with q | q
  .exact h.nw g q
  .exact .inr (by omega)
 .refine (((h.fr.then hf1 (fun g e => .inr (by rw [e]; exact h.rl))).trans (Fr.of_below _ hbp)).then R1.fr (fun g z => ?_)).then R2.fr (fun g z => ?_)
  .rcases z with z | z | z
   .exact .inr (by omega)
   .exact back g ⟨_, z⟩
   .exact back g ⟨_, z⟩
  .rcases z with z | z | z
   .exact .inl (.inl z)
   .exact back g ⟨_, z⟩
   .exact back g ⟨_, z⟩
 .rcases List.mem_cons.1 hk with q | q
  .rw [q]; exact ⟨v, hm⟩
  .exact h.hd k q
end Go.Proofs.YtblkgicbimflhaaGreat
namespace Go.Proofs.YtblkgicbimflhaaGreat
open Go.ChangeShapes Go.WideShapes Go.ChangeAt Go.RowKit
set_option linter.unusedVariables false
set_option linter.unusedSimpArgs false
set_option maxRecDepth 100000
set_option maxHeartbeats 16000000
open Go.ChangeMaps (setBlock)
theorem PutR.undrew {B b o e K : Nat} {w : World} {cs : List Value} {kv vv : Value} {ks' : List Int} {ys : List Value} {w' : World} {kv' vv' : Value} (h : PutR B b o e K w.drew cs kv vv ks' ys w' kv' vv') : PutR B b o e K w cs kv vv ks' ys w' kv' vv' := ⟨h.bk, h.kr, h.vr, ⟨h.fr.os, h.fr.tape, h.fr.output, h.fr.size, h.fr.block⟩, h.kn, h.vn, h.ds⟩
def SettP (B sb : Nat) (w : World) (L : LIx -> Value) (c : Led) (ck : Int) (op : Nat -> Option Addr) (t : TG) (x : Txn) (w' : World) : Prop := ∃ L' c', LedM B w' L' c' /\ Blk w' sb (sesC (ck + 1) L' op) /\ (∀ k y, c'.T k y = c.T k y ++ newV t.M (ck + 1) k y) /\ c'.hs = (if x.md = 2 then c.hs ++ [infoF x.bg (ck + 1) x.own x.rs] else c.hs) /\ (∀ g, ldF L' g -> ldF L g \/ w.heap.size <= g) /\ Fr (fun g => g = sb \/ ldF L g) w w'
theorem settle_1 (B sb : Nat) (w : World) (L : LIx -> Value) (c : Led) (ck : Int) (op : Nat -> Option Addr) (t : TG) (x : Txn) (hL : LedM B w L c) (hLb : LedB c) (hS : Blk w sb (sesC ck L op)) (hsb : sb < w.heap.size) (hT : TrM B w t x) (hck : 0 <= ck) (hck2 : ck <= 1000) (hB : B <= w.heap.size) (hns : ¬ ldF L sb) (hdt : ∀ b, trF t b -> ¬ ldF L b /\ b ≠ sb) (hst : ∀ k y z, z ∈ c.T k y -> z.1 <= ck) (hKb : ∀ k, (c.K k).length + t.M.length < 1048576) (hTb : ∀ k y, (c.T k y).length + 1 < 1048576) (hmd : ¬ x.md = 2) :
 Calls Tryz.prog 71 #[.pointer (some ⟨sb, 0, none⟩), .pointer (some ⟨t.g, 0, none⟩)] w fun e w' => (∃ r, e = .returned r) /\ SettP B sb w L c ck op t x w' := by
 obtain ⟨wA, hwA⟩ : ∃ z, z = w.setCell ⟨sb, 0, none⟩ (.int .i64 (ck + 1)) := ⟨_, rfl⟩
 have fA : Fr (fun g => g = sb) w wA := by rw [hwA]; exact Fr.setCell w sb 0 _
 have TA : TrM B wA t x := hT.fr fA (fun b hb => (hdt b hb).2)
 have LA : LedM B wA L c := hL.fr fA (fun g hg e => hns (by rw [<- e]; exact hg))
 have SA : Blk wA sb (sesC (ck + 1) L op) := by rw [hwA]; exact ses_clock hS
 have hzA : wA.heap.size = w.heap.size := by rw [hwA]; simp
 have c0 := (ses_cell hS (j := 0) (by omega)).1
 have f0 := (ses_cell hS (j := 0) (by omega)).2
 rw [sesAt_0] at c0
 have d1 := TA.c1
 have d34 := TA.c34
 have hw1 : IntKind.i64.wrap (ck + 1) = ck + 1 := by simp only [IntKind.wrap_i64, wrap64]; omega
 have hmb2 : (x.md == 2) = false := beq_eq_false_iff_ne.2 hmd
 obtain ⟨o, hrun, hit⟩ := run_rangeM wA t.mb t.M TA.mp
 rw [hzA] at hrun hit
 have HSM : Hid (SetM B sb w L { c with hs := c.hs } (ck + 1) op t.mb t.M w.heap.size (wA.alloc o) L c []) := hid (⟨LA.below (below_alloc _ _), SA.below (below_alloc _ _) (by omega), hit, fun k y => by simp, rfl, fun k => by simp, fun g hg => .inl hg, (fA.mono (fun g e => .inl e)).trans (Fr.of_below _ (below_alloc _ _)), List.nodup_nil, fun k h => absurd h (by simp), hns, hsb, by omega, fun k y z hz => by have := hst k y z hz; omega⟩)
 clear hit SA LA TA fA hS hL hzA
 rw [hwA] at hrun d1 d34
 go_enter Tryz.func71, Tryz.ntmps71
 go_wp2
 rw [<- hwA]
 rw [<- hwA] at hrun d1 d34
 clear hrun d1 d34 c0 f0
 go_loopw [] (fun wr => ∃ L1 c1 D, Hid (SetM B sb w L { c with hs := c.hs } (ck + 1) op t.mb t.M w.heap.size wr L1 c1 D)) (fun wr => wr.rangeLeft t.mb w.heap.size)
 case atStart => exact ⟨_, _, [], HSM⟩
 case round =>
  clear HSM
  obtain ⟨L1, c1, D, HSM⟩ := hrel
  have hsm := HSM.out
  have hrl := hsm.rl
  rcases hsm.it.next 0 with ⟨hall, hrun⟩ | ⟨m, w1, hm, hnD, hrun, hit1, hf1, hz1, hlt, hen⟩
  .have HF : Hid (SettP B sb w L c ck op t x wr) := hid (by
    have hc : ∀ k y, c1.T k y = c.T k y ++ newV t.M (ck + 1) k y := fun k y => by
     have h1 : c1.T k y = c.T k y ++ (if ((k : Int), y) ∈ D then newV t.M (ck + 1) k y else []) := hsm.hT k y
     rw [h1]
     by_cases e : ((k : Int), y) ∈ D
     .rw [if_pos e]
     .rw [if_neg e]
      have : mget t.M ((k : Int), y) = none := by
       cases hq : mget t.M ((k : Int), y) with
       | none => rfl
       | some z => exact absurd (hall _ (mget_some hq)) e
      unfold newV
      rw [this]
    exact ⟨L1, c1, hsm.led, hsm.ses, hc, by rw [hsm.hH]; simp [hmd], hsm.nw, hsm.fr⟩)
   clear hall hsm HSM
   go_wp2
   go_end0
   exact ⟨⟨_, rfl⟩, HF.out⟩
  .obtain ⟨⟨a, y⟩, v, b⟩ := m
   have ht := hT.mi _ hm
   simp only at ht
   obtain ⟨n, rfl⟩ : ∃ n : Nat, a = (n : Int) := ⟨a.toNat, by omega⟩
   have hn : n < 32 := by omega
   have hni : (n : Int) < 32 := by omega
   have hsr := hsm.fr.size
   have hs1 := hf1.size
   have nr : ∀ g, ldF L1 g -> g ≠ w.heap.size /\ g ≠ t.mb := fun g hg => by
    obtain ⟨i, hi⟩ := hg
    obtain ⟨q1, q2⟩ := it_own hsm.it (hsm.led.rm.rows i)
    exact ⟨fun e => q1 (by rw [<- e]; exact hi), fun e => q2 (by rw [<- e]; exact hi)⟩
   have sbr := it_blk hsm.it hsm.ses (by rw [sesC_len]; omega)
   have led1 : LedM B w1 L1 c1 := hsm.led.fr hf1 (fun g hg => (nr g hg).1)
   have ses1 : Blk w1 sb (sesC (ck + 1) L1 op) := hsm.ses.fr hf1 (by omega) sbr.1
   have hkl := hsm.kl n
   have hDl : D.length < t.M.length := by
    have := sub_len (D := ((n : Int), y) :: D) (E := t.M.map Prod.fst) (List.nodup_cons.2 ⟨hnD, hsm.nd⟩) (fun d hd => by
     rcases List.mem_cons.1 hd with z | z
     .rw [z]; exact List.mem_map_of_mem hm
     .obtain ⟨u, hu⟩ := hsm.hd d z; exact List.mem_map_of_mem hu)
    rw [List.length_cons, List.length_map] at this
    omega
   have hTn : c1.T n y = c.T n y := by have h1 : c1.T n y = c.T n y ++ (if ((n : Int), y) ∈ D then newV t.M (ck + 1) n y else []) := hsm.hT n y; rw [h1, if_neg hnD, List.append_nil]
   have hLB : LedB c1 := ⟨fun k => by have h1 : (c1.K k).length <= (c.K k).length + D.length := hsm.kl k; have h2 := hKb k; have h3 : D.length < t.M.length := hDl; omega, fun k z => by
    have h1 : c1.T k z = c.T k z ++ (if ((k : Int), z) ∈ D then newV t.M (ck + 1) k z else []) := hsm.hT k z
    rw [h1, List.length_append]
    have h2 := hTb k z
    have h3 : (if ((k : Int), z) ∈ D then newV t.M (ck + 1) k z else []).length <= 1 := by
     split
     .unfold newV; split <;> simp
     .simp
    omega, by rw [hsm.hH]; exact hLb.hl, by rw [hsm.hH]; exact hLb.hb⟩
   obtain ⟨wb, hwb⟩ : ∃ z, z = (w1.alloc (.cells #[.int .i64 (n : Int), .int .i64 y] 113)).alloc (.cells #[.int .i64 v, .bool b] 121) := ⟨_, rfl⟩
   have bb1 : Below w1.heap.size w1 wb := by rw [hwb]; exact (below_alloc w1 _).trans ((below_alloc _ _).mono (by simp))
   have hzb : wb.heap.size = w1.heap.size + 1 + 1 := by rw [hwb]; simp
   have ksp : Blk wb w1.heap.size [.int .i64 (n : Int), .int .i64 y] := by rw [hwb]; exact (blk_new w1 [.int .i64 (n : Int), .int .i64 y] 113).below (below_alloc _ _) (by simp)
   have kvn : Blk wb (w1.heap.size + 1) [.int .i64 v, .bool b] := by
    have := blk_new (w1.alloc (.cells #[.int .i64 (n : Int), .int .i64 y] 113)) [.int .i64 v, .bool b] 121
    rw [show (w1.alloc (.cells #[.int .i64 (n : Int), .int .i64 y] 113)).heap.size = w1.heap.size + 1 by simp] at this
    rw [hwb]; exact this
   have sl1 : sb < w1.heap.size := by omega
   have hva := (led1.below bb1).vat hLB (ses1.below bb1 sl1) (by omega) n hn y
   obtain ⟨⟨ka, kn, kc, hek⟩, va, vn, vc, hev⟩ := led1.ff n y
   have HM := hid hm
   have HND := hid hnD
   have HI1 := hid hit1
   have HF1 := hid hf1
   have HLT := hid hlt
   have HLE := hid led1
   have HSE := hid ses1
   have HLB := hid hLB
   clear hit1 hf1 hlt hm hnD ht led1 ses1 hLB hsm nr
   simp only [sptV, vsnV] at hrun hen
   have hzq := hid hz1
   clear hz1
   rw [hwb] at hva
   go_wp2_with (go_at_call 64; fail)
   refine hva.mono ?_
   rw [<- hwb]
   rintro e w3 ⟨rfl, hb3⟩
   have b13 : Below w1.heap.size w1 w3 := bb1.trans (hb3.mono bb1.size)
   have hs3 := hb3.size
   obtain ⟨w4, hw4⟩ : ∃ z, z = w3.alloc (.cells #[L1 (.ek n y), L1 (.ev n y)] 155) := ⟨_, rfl⟩
   have b14 : Below w1.heap.size w1 w4 := by rw [hw4]; exact b13.trans ((below_alloc _ _).mono (by omega))
   have hz4 : w4.heap.size = w3.heap.size + 1 := by rw [hw4]; simp
   have led4 := HLE.out.below b14
   have ses4 := HSE.out.below b14 sl1
   have kvb : Blk w4 w3.heap.size [L1 (.ek n y), L1 (.ev n y)] := by rw [hw4]; exact blk_new w3 [L1 (.ek n y), L1 (.ev n y)] 155
   have ksp4 : Blk w4 w1.heap.size [.int .i64 (n : Int), .int .i64 y] := by rw [hw4]; exact (ksp.below hb3 (by omega)).below (below_alloc _ _) (by omega)
   have kvn4 : Blk w4 (w1.heap.size + 1) [.int .i64 v, .bool b] := by rw [hw4]; exact (kvn.below hb3 (by omega)).below (below_alloc _ _) (by omega)
   have q0 := (ses_cell ses4 (j := 0) (by omega)).1
   rw [sesAt_0] at q0
   obtain ⟨p0, p1⟩ := kc1 kvn4
   have nvb : ∀ g, ldF L1 g -> g ≠ w3.heap.size := fun g hg e => by have h1 := (HLE.out.rm.lt hg).2; omega
   have ndk : ∀ g, (L1 (.ek n y)).ownBlock = some g -> (L1 (.ev n y)).ownBlock ≠ some g := fun g h1 h2 => by have := led4.rm.inj _ _ g h1 h2; cases this
   have ndt : ∀ g, (L1 (.tk n)).ownBlock = some g -> (L1 (.tv n)).ownBlock ≠ some g := fun g h1 h2 => by have := led4.rm.inj _ _ g h1 h2; cases this
   have hml : ((c1.T n y).map (·.1)).length = (c1.T n y).length := List.length_map _
   have hall : ∀ k ∈ (c1.T n y).map (·.1), k < ck + 1 := fun k hk => by
    obtain ⟨z, hz, rfl⟩ := List.mem_map.1 hk
    rw [hTn] at hz
    have := hst n y z hz
    omega
   have HP1 := hid (put_ver_new B w3.heap.size 0 [L1 (.ek n y), L1 (.ev n y)] (L1 (.ek n y)) (L1 (.ev n y)) ((c1.T n y).map (·.1)) ((c1.T n y).map verV) (ck + 1) v b w4.drew kvb (by show w3.heap.size < w4.heap.size; omega) rfl rfl (by rw [hml]; exact led4.rm.rows (.ek n y)) (by rw [hml]; exact led4.rm.rows (.ev n y)) (by simp) (fun l hl => by
    obtain ⟨z, hz, rfl⟩ := List.mem_map.1 hl
    exact ⟨rfl, fun u hu => by simp [verV] at hu; rcases hu with rfl | rfl <;> rfl⟩) (led4.tst n y) (by rw [hml]; exact HLB.out.tb n y) (fun e => nvb _ ⟨_, e⟩ rfl) (fun e => nvb _ ⟨_, e⟩ rfl) ndk (by show B <= w4.heap.size; omega) hall)
   have HL4 := hid led4
   have HS4 := hid ses4
   have HK4 := hid ksp4
   have HB4 := hid b14
   clear hva ksp kvn kvb ksp4 kvn4 led4 ses4 b14 hb3 b13 hall hml
   rw [hek, hev] at hw4 ⊢
   rw [hw4] at q0 p0 p1
   go_wp2
   rw [<- hw4] at q0 p0 p1 ⊢
   have hz4a : w3.heap.size < w4.heap.size := by omega
   have hz3a : w1.heap.size + 1 < w3.heap.size := by omega
   clear hw4 hwb hz4 hzb
   refine wp_region_till_drew (S := (fun W => W.cell? ⟨sb, 0, none⟩ = some (.int .i64 (ck + 1)) /\ W.cell? ⟨w1.heap.size + 1, 0, none⟩ = some (.int .i64 v) /\ W.cell? ⟨w1.heap.size + 1, 1, none⟩ = some (.bool b))) (late := []) (by kernel_rfl) ⟨q0, p0, p1⟩ (fun hHeld => ?_)
   refine tT 0 rfl hHeld ?_
   try simp only [Act.put, q1, q2, q3]
   refine tT 1 rfl hHeld ?_
   try simp only [Act.put, q1, q2, q3]
   refine tT 2 rfl hHeld ?_
   try simp only [Act.put, q1, q2, q3]
   refine tT 3 rfl hHeld ?_
   try simp only [Act.put, q1, q2, q3]
   refine till_ld (i := 4) (v := ?_) rfl (Or.inl ⟨by rfl, ?_⟩) hHeld ?_
   rotate_left
   .intro w hSw
    try dsimp only at hSw
    go_simp
    try with_reducible rfl
   try simp only [Act.put, q1, q2, q3]
   refine till_ld (i := 5) (v := ?_) rfl (Or.inl ⟨by rfl, ?_⟩) hHeld ?_
   rotate_left
   .intro w hSw
    try dsimp only at hSw
    go_simp
    try with_reducible rfl
   try simp only [Act.put, q1, q2, q3]
   have hbl : ∀ g, ldF L1 g -> g < w1.heap.size := fun g hg => (HLE.out.rm.lt hg).2
   have hnsb := HSM.out.nsb
   refine rE 6 rfl fun K hK => ?_
   go_simp
   rw [hek, hev] at HP1
   refine HP1.out.mono ?_
   rintro e w5 ⟨kv', vv', r1, rfl, R1d⟩
   rw [<- hek, <- hev] at R1d
   have R1 := R1d.undrew
   clear R1d
   have n5 : ∀ g, g < w4.heap.size -> ¬ ldF L1 g -> g ≠ w3.heap.size -> w5.heap[g]? = w4.heap[g]? := fun g h1 h2 h3 => R1.fr.block g h1 (fun z => by
    rcases z with z | z | z
    .exact h3 z
    .exact h2 ⟨_, z⟩
    .exact h2 ⟨_, z⟩)
   have fsb := n5 sb (by omega) hnsb (by omega)
   have fvn := n5 (w1.heap.size + 1) (by omega) (fun z => by have := hbl _ z; omega) (by omega)
   have fsp := n5 w1.heap.size (by omega) (fun z => by have := hbl _ z; omega) (by omega)
   have q05 := (World.cell?_of_block (a := ⟨sb, 0, none⟩) fsb).trans q0
   have p05 := (World.cell?_of_block (a := ⟨w1.heap.size + 1, 0, none⟩) fvn).trans p0
   have p15 := (World.cell?_of_block (a := ⟨w1.heap.size + 1, 1, none⟩) fvn).trans p1
   have s0 : w5.cell? ⟨w1.heap.size, 0, none⟩ = some (.int .i64 (n : Int)) := (World.cell?_of_block (a := ⟨w1.heap.size, 0, none⟩) fsp).trans (HK4.out 0 (by simp)).1
   have s1 : w5.cell? ⟨w1.heap.size, 1, none⟩ = some (.int .i64 y) := (World.cell?_of_block (a := ⟨w1.heap.size, 1, none⟩) fsp).trans (HK4.out 1 (by simp)).1
   have kv0 : w5.cell? ⟨w3.heap.size, 0, none⟩ = some kv' := (R1.bk 0 (by simp)).1
   have kv1 : w5.cell? ⟨w3.heap.size, 1, none⟩ = some vv' := (R1.bk 1 (by simp)).1
   have hs5 := R1.fr.size
   have ses5 : Blk w5 sb (sesC (ck + 1) L1 op) := fun j hj => ⟨(World.cell?_of_block (a := ⟨sb, j, none⟩) fsb).trans (HS4.out j hj).1, (World.frozen?_of_block (a := ⟨sb, j, none⟩) fsb).trans (HS4.out j hj).2⟩
   have nt : ∀ i, i ≠ .ek n y -> i ≠ .ev n y -> w5.ownsRow B (lTy i) (lSz i) (L1 i) (lLen c1 i) (lCel L1 c1 i) := fun i h1 h2 => own_fr (HL4.out.rm.rows i) R1.fr (fun g hg z => by
    rcases z with z | z | z
    .exact nvb g ⟨_, hg⟩ z
    .exact h1 (HL4.out.rm.inj _ _ g hg z)
    .exact h2 (HL4.out.rm.inj _ _ g hg z))
   obtain ⟨fa, fm, fc, hkf⟩ : ∃ a m q, kv' = .slice a m q := by obtain ⟨a, q, e⟩ := formR R1.kr; exact ⟨_, _, _, e⟩
   obtain ⟨ga, gm, gc, hvf⟩ : ∃ a m q, vv' = .slice a m q := by obtain ⟨a, q, e⟩ := formR R1.vr; exact ⟨_, _, _, e⟩
   rw [hkf] at kv0 R1
   rw [hvf] at kv1 R1
   have HP2 := hid (put_vss B sb (1 + n * 2) (sesC (ck + 1) L1 op) (L1 (.tk n)) (L1 (.tv n)) (c1.K n) ((c1.K n).map (fun z => [L1 (.ek n z), L1 (.ev n z)])) y fa ga fm fc gm gc w5.drew ses5 (by show sb < w5.heap.size; omega) (by rw [sesC_at _ _ _ (by omega), sesAt_tk _ _ _ hn]) (by rw [sesC_at _ _ _ (by omega), sesAt_tv _ _ _ hn]) (nt (.tk n) (by simp) (by simp)) (by have := nt (.tv n) (by simp) (by simp); simp only [lTy, lSz, lLen, lCel, List.flatMap_def] at this; exact this) (by simp) (fun l hl => by
    obtain ⟨z, hz, rfl⟩ := List.mem_map.1 hl
    refine ⟨rfl, fun u hu => ?_⟩
    obtain ⟨⟨a1, a2, a3, e1⟩, b1, b2, b3, e2⟩ := HL4.out.ff n z
    simp only [List.mem_cons, List.not_mem_nil, or_false] at hu
    rcases hu with rfl | rfl
    .rw [e1]; rfl
    .rw [e2]; rfl) (HL4.out.srt n) (HLB.out.kb n) (fun e => hnsb ⟨_, e⟩) (fun e => hnsb ⟨_, e⟩) ndt (by show B <= w5.heap.size; omega))
   have HR1 := hid R1
   clear R1 nt n5 fsb fvn fsp ses5 hkf hvf
   refine hK _ _ ⟨⟨q05, p05, p15⟩, ?_⟩
   clear hK K HP1
   try simp only [Act.put, q1, q2, q3]
   refine till_done (by kernel_rfl) ?_ _
   clear q05 p05 p15 q0 p0 p1
   go_wp2
   refine wp_region_till_drew (S := (fun W => W.cell? ⟨w1.heap.size, 0, none⟩ = some (.int .i64 (n : Int)) /\ W.cell? ⟨w1.heap.size, 1, none⟩ = some (.int .i64 y) /\ W.cell? ⟨w3.heap.size, 0, none⟩ = some (.slice fa fm fc) /\ W.cell? ⟨w3.heap.size, 1, none⟩ = some (.slice ga gm gc))) (late := []) (by kernel_rfl) ⟨s0, s1, kv0, kv1⟩ (fun hHeld => ?_)
   refine tT 0 rfl hHeld ?_
   try simp only [Act.put, q1, q2, q3]
   refine tT 1 rfl hHeld ?_
   try simp only [Act.put, q1, q2, q3]
   refine till_ld (i := 2) (v := ?_) rfl (Or.inl ⟨by rfl, ?_⟩) hHeld ?_
   rotate_left
   .intro w hSw
    try dsimp only at hSw
    go_simp
    try with_reducible rfl
   try simp only [Act.put, q1, q2, q3]
   refine tT 3 rfl hHeld ?_
   try simp only [Act.put, q1, q2, q3]
   refine tT 4 rfl hHeld ?_
   try simp only [Act.put, q1, q2, q3]
   refine tT 5 rfl hHeld ?_
   try simp only [Act.put, q1, q2, q3]
   refine tT 6 rfl hHeld ?_
   try simp only [Act.put, q1, q2, q3]
   refine till_ld (i := 7) (v := ?_) rfl (Or.inl ⟨by rfl, ?_⟩) hHeld ?_
   rotate_left
   .intro w hSw
    try dsimp only at hSw
    go_simp
    try with_reducible rfl
   try simp only [Act.put, q1, q2, q3]
   refine till_ld (i := 8) (v := ?_) rfl (Or.inl ⟨by rfl, ?_⟩) hHeld ?_
   rotate_left
   .intro w hSw
    try dsimp only at hSw
    go_simp
    try with_reducible rfl
   try simp only [Act.put, q1, q2, q3]
   refine rE 9 rfl fun K hK => ?_
   go_simp
   refine HP2.out.mono ?_
   rintro e w6 ⟨kv2, vv2, r2, rfl, R2d⟩
   have R2 := R2d.undrew
   have HST := hid (HSM.out.step hn HM.out HND.out HI1.out HF1.out HLT.out HB4.out (by omega) hz4a HR1.out R2)
   have n6 : ∀ g, g < w5.heap.size -> ¬ ldF L1 g -> g ≠ sb -> w6.heap[g]? = w5.heap[g]? := fun g h1 h2 h3 => R2.fr.block g h1 (fun z => by
    rcases z with z | z | z
    .exact h3 z
    .exact h2 ⟨_, z⟩
    .exact h2 ⟨_, z⟩)
   have gsp := n6 w1.heap.size (by omega) (fun z => by have := hbl _ z; omega) (by omega)
   have gvb := n6 w3.heap.size (by omega) (fun z => by have := hbl _ z; omega) (by omega)
   have s06 := (World.cell?_of_block (a := ⟨w1.heap.size, 0, none⟩) gsp).trans s0
   have s16 := (World.cell?_of_block (a := ⟨w1.heap.size, 1, none⟩) gsp).trans s1
   have k06 := (World.cell?_of_block (a := ⟨w3.heap.size, 0, none⟩) gvb).trans kv0
   have k16 := (World.cell?_of_block (a := ⟨w3.heap.size, 1, none⟩) gvb).trans kv1
   clear R2d R2 n6 gsp gvb HP2
   refine hK _ _ ⟨⟨s06, s16, k06, k16⟩, ?_⟩
   clear hK K
   try simp only [Act.put, q1, q2, q3]
   refine till_done (by kernel_rfl) ?_ _
   obtain ⟨L2, c2, hs2, hl2⟩ := HST.out
   have HS2 := hid hs2
   clear hs2 HST s06 s16 k06 k16
   go_wp2
   go_roundw
   case rel => exact ⟨_, _, _, HS2⟩
   case measure => exact hl2
end Go.Proofs.YtblkgicbimflhaaGreat
