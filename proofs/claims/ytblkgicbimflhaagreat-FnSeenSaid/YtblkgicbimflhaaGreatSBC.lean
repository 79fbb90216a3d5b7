import Derived.Test.YtblkgicbimflhaaGreatSBB
import Derived.Test.YtblkgicbimflhaaGreatSAV
import Derived.Test.YtblkgicbimflhaaGreatSAX
namespace Go.Proofs.YtblkgicbimflhaaGreat
open Go.ChangeShapes Go.WideShapes Go.ChangeAt Go.RowKit
set_option linter.unusedVariables false
set_option linter.unusedSimpArgs false
set_option maxRecDepth 100000
set_option maxHeartbeats 16000000
def dropKs (ks : List Int) (x : Int) : List Int := if ks.contains x then ks.take (posN ks x) ++ ks.drop (posN ks x + 1) else ks
def dropVs (ks us : List Int) (x : Int) : List Int := if ks.contains x then us.take (posN ks x) ++ us.drop (posN ks x + 1) else us
theorem drop_end {B b o : Nat} {w W3 : World} {cs : List Value} {kv vv k' v' : Value} {ks' : List Int} {ys : List Value} (hb : Blk W3 b cs) (hkr : W3.ownsRow B 3 1 k' ks'.length (ks'.map (Value.int .i64))) (hvr : W3.ownsRow B 3 1 v' ks'.length ys) (hk' : k'.ownBlock = kv.ownBlock) (hv' : v'.ownBlock = vv.ownBlock) (hkb : kv.ownBlock ≠ some b) (hvb : vv.ownBlock ≠ some b) (hkv : ∀ g, kv.ownBlock = some g -> vv.ownBlock ≠ some g) (ho1 : o + 1 < cs.length) (hf : Fr (fun g => g = b \/ kv.ownBlock = some g \/ vv.ownBlock = some g) w W3) (r : Value) :
 PutP B b o 3 1 w cs kv vv ks' ys (.returned r) ((W3.setCell ⟨b, o, none⟩ k').setCell ⟨b, o + 1, none⟩ v') := by
 have f1 := Fr.setCell W3 b o k'
 have f2 := Fr.setCell (W3.setCell ⟨b, o, none⟩ k') b (o + 1) v'
 have n1 : ∀ g, k'.ownBlock = some g -> g ≠ b := fun g hg e => hkb (by rw [<- hk', hg, e])
 have n2 : ∀ g, v'.ownBlock = some g -> g ≠ b := fun g hg e => hvb (by rw [<- hv', hg, e])
 refine ⟨k', v', r, rfl, (hb.set o k' (by omega)).set (o + 1) v' (by simpa using ho1), own_fr (own_fr hkr f1 n1) f2 n1, own_fr (own_fr hvr f1 n2) f2 n2, (hf.trans (f1.mono (fun g z => .inl z))).trans (f2.mono (fun g z => .inl z)), fun g hg => .inl (by rw [<- hk']; exact hg), fun g hg => .inl (by rw [<- hv']; exact hg), fun g hg => ?_⟩
 rw [hk'] at hg
 rw [hv']
 exact hkv g hg
theorem drop_int_there (B b o : Nat) (cs : List Value) (kv vv : Value) (ks us : List Int) (x : Int) (w : World) (hb : Blk w b cs) (hbl : b < w.heap.size) (hk : cs[o]? = some kv) (hv : cs[o + 1]? = some vv) (hK : w.ownsRow B 3 1 kv ks.length (ks.map (Value.int .i64))) (hV : w.ownsRow B 3 1 vv ks.length (us.map (Value.int .i64))) (hs : ks.Pairwise (· < ·)) (hn : ks.length < 1048576) (hkb : kv.ownBlock ≠ some b) (hvb : vv.ownBlock ≠ some b) (hkv : ∀ g, kv.ownBlock = some g -> vv.ownBlock ≠ some g) (hx : ks.contains x = true) :
 Calls Tryz.prog 69 #[.pointer (some ⟨b, o, none⟩), .int .i64 x] w fun en w' => PutP B b o 3 1 w cs kv vv (dropKs ks x) ((dropVs ks us x).map (Value.int .i64)) en w' := by
 have hol : o < cs.length := (List.getElem?_eq_some_iff.1 hk).1
 have ho1 : o + 1 < cs.length := (List.getElem?_eq_some_iff.1 hv).1
 have c0 : w.cell? ⟨b, o, none⟩ = some kv := (hb o hol).1.trans hk
 have c1 : w.cell? ⟨b, o + 1, none⟩ = some vv := (hb (o + 1) ho1).1.trans hv
 have hbin := bin_any B kv ks x w hK hs (by omega)
 have hmx : x ∈ ks := List.contains_iff_mem.1 hx
 have hp := posN_lt hs hmx
 have hul : us.length = ks.length := by have := hV.1; rw [List.length_map, Nat.mul_one] at this; exact this
 have eK : dropKs ks x = ks.take (posN ks x) ++ ks.drop (posN ks x + 1) := by unfold dropKs; rw [if_pos hx]
 have eV : dropVs ks us x = us.take (posN ks x) ++ us.drop (posN ks x + 1) := by unfold dropVs; rw [if_pos hx]
 rw [eK, eV]
 clear eK eV
 obtain ⟨ka, kc, hkf⟩ := formR hK
 obtain ⟨va, vc, hvf⟩ := formR hV
 obtain ⟨p, hpp⟩ : ∃ p, p = posN ks x := ⟨_, rfl⟩
 rw [<- hpp] at hbin hp ⊢
 rw [hx] at hbin
 subst hkf hvf
 have hlen : (ks.take p ++ ks.drop (p + 1)).length = ks.length - 1 := by rw [List.length_append, List.length_take, List.length_drop]; omega
 have HK := hid hK
 have HV : Hid (w.ownsRow B 3 1 (.slice va ks.length vc) us.length (us.map (Value.int .i64))) := hid (by rw [hul]; exact hV)
 have HKV := hid hkv
 have HKB := hid hkb
 have HVB := hid hvb
 have HLEN := hid hlen
 have HUL := hid hul
 have HNS : Hid (¬ ((Value.slice ka ks.length kc).ownBlock = some b \/ (Value.slice va ks.length vc).ownBlock = some b)) := hid (fun z => by rcases z with z | z; exact hkb z; exact hvb z)
 have hpu : p < us.length := by omega
 have hnn : ks.length <= 1048576 := by omega
 have hnu : us.length <= 1048576 := by omega
 have HB := hid hb
 have hpw : IntKind.i64.wrap ((p : Int) + 1) = (p : Int) + 1 := by rw [IntKind.wrap_i64]; omega
 clear hpp hK hV hb hs hmx hx hul hlen hkv hkb hvb
 go_enter Tryz.func69, Tryz.ntmps69
 go_wp2_with (go_at_call 82; fail)
 refine hbin.mono ?_
 rintro e w1 ⟨rfl, q, hq⟩
 have b1 : Below w.heap.size w w1 := by rw [hq]; exact below_drewNt w q
 have d0 : w1.cell? ⟨b, o, none⟩ = some (.slice ka ks.length kc) := ct b1 hbl c0
 have d1 : w1.cell? ⟨b, o + 1, none⟩ = some (.slice va ks.length vc) := ct b1 hbl c1
 have hb1 : b < w1.heap.size := Nat.lt_of_lt_of_le hbl b1.size
 clear hq hbin c0 c1
 go_wp2
 refine wp_region_till_drew (S := (fun W => W.cell? ⟨b, o, none⟩ = some (.slice ka ks.length kc) /\ W.cell? ⟨b, o + 1, none⟩ = some (.slice va ks.length vc))) (late := [18, 19, 20, 21, 22, 23]) (by kernel_rfl) (by go_keep) (fun hHeld => ?_)
 refine tT 0 rfl hHeld ?_
 try simp only [Act.put, q1, q2, q3]
 refine tT 1 rfl hHeld ?_
 try simp only [Act.put, q1, q2, q3]
 refine tT 2 rfl hHeld ?_
 try simp only [Act.put, q1, q2, q3]
 refine tT 3 rfl hHeld ?_
 try simp only [Act.put, q1, q2, q3]
 refine tT 4 rfl hHeld ?_
 try simp only [Act.put, q1, q2, q3]
 refine till_ld (i := 5) (v := ?_) rfl (Or.inl ⟨by rfl, ?_⟩) hHeld ?_
 rotate_left
 .intro w hSw
  try dsimp only at hSw
  go_simp
  try with_reducible rfl
 try simp only [Act.put, q1, q2, q3]
 refine tT 6 rfl hHeld ?_
 try simp only [Act.put, q1, q2, q3]
 refine tT 7 rfl hHeld ?_
 try simp only [Act.put, q1, q2, q3]
 refine tT 8 rfl hHeld ?_
 try simp only [Act.put, q1, q2, q3]
 refine tT 10 rfl hHeld ?_
 try simp only [Act.put, q1, q2, q3]
 refine tT 11 rfl hHeld ?_
 try simp only [Act.put, q1, q2, q3]
 refine tT 12 rfl hHeld ?_
 try simp only [Act.put, q1, q2, q3]
 refine till_ld (i := 13) (v := ?_) rfl (Or.inl ⟨by rfl, ?_⟩) hHeld ?_
 rotate_left
 .intro w hSw
  try dsimp only at hSw
  go_simp
  try with_reducible rfl
 try simp only [Act.put, q1, q2, q3]
 refine tT 14 rfl hHeld ?_
 try simp only [Act.put, q1, q2, q3]
 refine tT 15 rfl hHeld ?_
 try simp only [Act.put, q1, q2, q3]
 refine tT 16 rfl hHeld ?_
 try simp only [Act.put, q1, q2, q3]
 refine till_ready (rs := [9]) (by kernel_rfl) (by simp) ?_
 refine TillAll.cons rfl (fun K hK => ?_) TillAll.nil
 go_simp
 go_wp2_with
  (go_at_call 86
   with_reducible refine (del_int B _ ks p w1.drew (own_below HK.out b1.drew) hp hnn).mono ?_
   rintro e W2 ⟨a2, c2, rfl, hr2, hn2, hf2⟩
   have KR := hid hr2
   have KN := hid hn2
   have KF := hid ((Fr.of_below _ b1.drew).trans (hf2.mono (T := fun g => (Value.slice ka ks.length kc).ownBlock = some g \/ (Value.slice va ks.length vc).ownBlock = some g) (fun g z => .inl z)))
   have KB2 := HB.out.fr KF.out hbl HNS.out
   have HV2 := hid (own_fr (own_below HV.out b1.drew) hf2 (fun g z1 z2 => HKV.out g z2 z1))
   have j0 : W2.cell? ⟨b, o, none⟩ = some (.slice ka ks.length kc) := (KB2 o hol).1.trans hk
   have j1 : W2.cell? ⟨b, o + 1, none⟩ = some (.slice va ks.length vc) := (KB2 (o + 1) ho1).1.trans hv
   clear hr2 hn2 hf2 KB2)
 refine ⟨?_, ?_⟩
 .go_keep
 try simp only [Act.put, q1, q2, q3]
 refine till_ready (rs := [17]) (by kernel_rfl) (by simp) ?_
 refine TillAll.cons rfl (fun K hK => ?_) TillAll.nil
 go_simp
 go_wp2_with
  (go_at_call 86
   with_reducible refine (del_int B _ us p W2 HV2.out hpu hnu).mono ?_
   rintro e W3 ⟨a3, c3, rfl, hr3, hn3, hf3⟩
   have KR3 := hid (own_fr KR.out hf3 (fun g z1 z2 => HKV.out g (by rw [<- KN.out]; exact z1) z2))
   have VR3 := hid hr3
   have VN := hid hn3
   have VF := hid (KF.out.trans (hf3.mono (fun g z => .inr z)))
   have KB3 := hid (HB.out.fr VF.out hbl HNS.out)
   have m0 : W3.cell? ⟨b, o, none⟩ = some (.slice ka ks.length kc) := (KB3.out o hol).1.trans hk
   have m1 : W3.cell? ⟨b, o + 1, none⟩ = some (.slice va ks.length vc) := (KB3.out (o + 1) ho1).1.trans hv
   have n0 : W3.frozen? ⟨b, o, none⟩ = false := (KB3.out o hol).2
   have n1 : W3.frozen? ⟨b, o + 1, none⟩ = false := (KB3.out (o + 1) ho1).2
   clear hr3 hn3 hf3)
 refine ⟨?_, ?_⟩
 .go_keep
 try simp only [Act.put, q1, q2, q3]
 refine rL 18 rfl fun K hK => ?_
 go_simp
 refine hK _ _ ?_
 clear hK K
 try simp only [Act.put, q1, q2, q3]
 refine rL 19 rfl fun K hK => ?_
 go_simp
 refine hK _ _ ?_
 clear hK K
 try simp only [Act.put, q1, q2, q3]
 refine rL 20 rfl fun K hK => ?_
 go_simp
 refine hK _ _ ?_
 clear hK K
 try simp only [Act.put, q1, q2, q3]
 refine rL 21 rfl fun K hK => ?_
 go_simp
 refine hK _ _ ?_
 clear hK K
 try simp only [Act.put, q1, q2, q3]
 refine rL 22 rfl fun K hK => ?_
 go_simp
 refine hK _ _ ?_
 clear hK K
 try simp only [Act.put, q1, q2, q3]
 refine rL 23 rfl fun K hK => ?_
 go_simp
 refine hK _ _ ?_
 clear hK K
 try simp only [Act.put, q1, q2, q3]
 refine till_done (by kernel_rfl) ?_ _
 go_wp2
 refine bodyPost_ret (results_none rfl _ _ _) rfl ?_
 refine drop_end KB3.out (by rw [HLEN.out]; exact KR3.out) (by rw [HLEN.out, <- HUL.out]; exact VR3.out) KN.out VN.out HKB.out HVB.out HKV.out ho1 (VF.out.mono (fun g z => .inr z)) _
theorem set_same {cs : List Value} {o : Nat} {v : Value} (h : cs[o]? = some v) : cs.set o v = cs := by
 obtain ⟨h1, h2⟩ := List.getElem?_eq_some_iff.1 h
 rw [<- h2]; exact List.set_getElem_self h1
theorem put_same {B b o e K : Nat} {w w1 : World} {cs : List Value} {kv vv : Value} {ks : List Int} {ys : List Value} (hb : Blk w b cs) (hbl : b < w.heap.size) (hk : cs[o]? = some kv) (hv : cs[o + 1]? = some vv) (hK : w.ownsRow B 3 1 kv ks.length (ks.map (Value.int .i64))) (hV : w.ownsRow B e K vv ks.length ys) (hkv : ∀ g, kv.ownBlock = some g -> vv.ownBlock ≠ some g) (b1 : Below w.heap.size w w1) (r : Value) : PutP B b o e K w cs kv vv ks ys (.returned r) w1 :=
 ⟨kv, vv, r, rfl, by rw [set_same hk, set_same hv]; exact hb.below b1 hbl, own_below hK b1, own_below hV b1, Fr.of_below _ b1, fun _ z => .inl z, fun _ z => .inl z, hkv⟩
theorem drop_int_no (B b o : Nat) (cs : List Value) (kv vv : Value) (ks us : List Int) (x : Int) (w : World) (hb : Blk w b cs) (hbl : b < w.heap.size) (hk : cs[o]? = some kv) (hv : cs[o + 1]? = some vv) (hK : w.ownsRow B 3 1 kv ks.length (ks.map (Value.int .i64))) (hV : w.ownsRow B 3 1 vv ks.length (us.map (Value.int .i64))) (hs : ks.Pairwise (· < ·)) (hn : ks.length < 1048576) (hkv : ∀ g, kv.ownBlock = some g -> vv.ownBlock ≠ some g) (hx : ks.contains x = false) :
 Calls Tryz.prog 69 #[.pointer (some ⟨b, o, none⟩), .int .i64 x] w fun en w' => PutP B b o 3 1 w cs kv vv (dropKs ks x) ((dropVs ks us x).map (Value.int .i64)) en w' := by
 have hol : o < cs.length := (List.getElem?_eq_some_iff.1 hk).1
 have c0 : w.cell? ⟨b, o, none⟩ = some kv := (hb o hol).1.trans hk
 have hbin := bin_any B kv ks x w hK hs (by omega)
 have eK : dropKs ks x = ks := by unfold dropKs; rw [if_neg (by rw [hx]; decide)]
 have eV : dropVs ks us x = us := by unfold dropVs; rw [if_neg (by rw [hx]; decide)]
 rw [eK, eV]
 clear eK eV
 obtain ⟨ka, kc, hkf⟩ := formR hK
 obtain ⟨p, hpp⟩ : ∃ p, p = posN ks x := ⟨_, rfl⟩
 rw [<- hpp] at hbin
 rw [hx] at hbin
 have HF := hid (fun (w1 : World) (b1 : Below w.heap.size w w1) (r : Value) => put_same hb hbl hk hv hK hV hkv b1 r)
 subst hkf
 clear hpp hK hV hb hs hx hkv hk hv
 go_enter Tryz.func69, Tryz.ntmps69
 go_wp2_with (go_at_call 82; fail)
 refine hbin.mono ?_
 rintro e w1 ⟨rfl, q, hq⟩
 have b1 : Below w.heap.size w w1 := by rw [hq]; exact below_drewNt w q
 clear hq hbin c0
 go_wp2
 refine bodyPost_ret (results_none rfl _ _ _) rfl ?_
 exact HF.out _ bl _
theorem drop_int (B b o : Nat) (cs : List Value) (kv vv : Value) (ks us : List Int) (x : Int) (w : World) (hb : Blk w b cs) (hbl : b < w.heap.size) (hk : cs[o]? = some kv) (hv : cs[o + 1]? = some vv) (hK : w.ownsRow B 3 1 kv ks.length (ks.map (Value.int .i64))) (hV : w.ownsRow B 3 1 vv ks.length (us.map (Value.int .i64))) (hs : ks.Pairwise (· < ·)) (hn : ks.length < 1048576) (hkb : kv.ownBlock ≠ some b) (hvb : vv.ownBlock ≠ some b) (hkv : ∀ g, kv.ownBlock = some g -> vv.ownBlock ≠ some g) :
 Calls Tryz.prog 69 #[.pointer (some ⟨b, o, none⟩), .int .i64 x] w fun en w' => PutP B b o 3 1 w cs kv vv (dropKs ks x) ((dropVs ks us x).map (Value.int .i64)) en w' := by
 cases hx : ks.contains x
 .exact drop_int_no B b o cs kv vv ks us x w hb hbl hk hv hK hV hs hn hkv hx
 .exact drop_int_there B b o cs kv vv ks us x w hb hbl hk hv hK hV hs hn hkb hvb hkv hx
structure TG where
 g : Nat
 mb : Nat
 M : List (Spt × Vsn)
 sv : Value
 sm : List (Nat × List (Spt × Vsn))
def trF (t : TG) (b : Nat) : Prop := b = t.g \/ b = t.mb \/ b ∈ t.sm.map Prod.fst \/ t.sv.ownBlock = some b
def svCell (s : Sav) (b : Nat) : List Value := [.string s.nm, .map (some b)]
def svC (ss : List Sav) (bs : List Nat) : List Value := (List.zipWith svCell ss bs).flatten
theorem tranC_len (cl md : Int) (rd : List Bool) (mb : Nat) (sv : Value) (hr : rd.length = 32) : (tranC cl md rd mb sv).length = 36 := by
 unfold tranC
 simp [hr]
theorem tranC_34 (cl md : Int) (rd : List Bool) (mb : Nat) (sv : Value) (hr : rd.length = 32) : (tranC cl md rd mb sv)[34]? = some (.map (some mb)) := by
 unfold tranC
 rw [List.getElem?_append_right (by simp [hr])]
 simp [hr]
theorem tranC_35 (cl md : Int) (rd : List Bool) (mb : Nat) (sv : Value) (hr : rd.length = 32) : (tranC cl md rd mb sv)[35]? = some sv := by
 unfold tranC
 rw [List.getElem?_append_right (by simp [hr])]
 simp [hr]
theorem tranC_rd (cl md : Int) (rd : List Bool) (mb : Nat) (sv : Value) {j : Nat} (hj : j < rd.length) : (tranC cl md rd mb sv)[2 + j]? = some (.bool rd[j]) := by
 unfold tranC
 rw [List.getElem?_append_left (by simp; omega), List.getElem?_append_right (by simp)]
 simp [hj]
theorem tranC_setsv (cl md : Int) (rd : List Bool) (mb : Nat) (sv sv' : Value) (hr : rd.length = 32) : (tranC cl md rd mb sv).set 35 sv' = tranC cl md rd mb sv' := by
 unfold tranC
 rw [List.set_append_right _ _ (by simp [hr])]
 simp [hr]
theorem tranC_setrd (cl md : Int) (rd : List Bool) (mb : Nat) (sv : Value) (b : Bool) {j : Nat} (hj : j < rd.length) : (tranC cl md rd mb sv).set (2 + j) (.bool b) = tranC cl md (rd.set j b) mb sv := by
 unfold tranC
 rw [List.set_append_left _ _ (by simp; omega), List.set_append_right _ _ (by simp)]
 simp [List.map_set]
structure TrM (B : Nat) (w : World) (t : TG) (x : Txn) : Prop where
 bk : Blk w t.g (tranC x.bg x.md x.rs t.mb t.sv)
 gl : t.g < w.heap.size
 rl : x.rs.length = 32
 mp : MP w t.mb t.M
 mr : RelM t.M x.own
 mi : InT t.M
 sl : t.sm.length = x.sv.length
 s8 : x.sv.length <= 8
 sr : w.ownsRow B 169 2 t.sv x.sv.length (svC x.sv (t.sm.map Prod.fst))
 ss : ∀ j (h : j < t.sm.length) (h' : j < x.sv.length), MP w t.sm[j].1 t.sm[j].2 /\ RelM t.sm[j].2 x.sv[j].cs /\ InT t.sm[j].2
 nd : (t.mb :: t.sm.map Prod.fst).Nodup
 sg : t.sv.ownBlock ≠ some t.g
 ge : ∀ b, trF t b -> B <= b
theorem blk_map {w : World} {b : Nat} {cs : List Value} {M : List (Spt × Vsn)} (h : Blk w b cs) (hl : 0 < cs.length) (hm : MP w b M) : False := by
 obtain ⟨es, cl, h1, _⟩ := hm
 have := (h 0 hl).1
 rw [List.getElem?_eq_getElem hl] at this
 simp [World.cell?, h1] at this
theorem own_map {w : World} {B e K n g : Nat} {v : Value} {xs : List Value} {M : List (Spt × Vsn)} (h : w.ownsRow B e K v n xs) (hg : v.ownBlock = some g) (hm : MP w g M) : False := by
 obtain ⟨es, cl, h1, _⟩ := hm
 rcases h.2 with ⟨h2, _⟩ | ⟨g', cap, cur, rfl, h3, h4, _⟩
 .rw [h2] at hg; simp [Value.ownBlock] at hg
 .have : g' = g := by simpa [Value.ownBlock] using hg
  subst this
  rw [h4] at h1
  cases h1
theorem TrM.lt {B : Nat} {w : World} {t : TG} {x : Txn} (h : TrM B w t x) {b : Nat} (hb : trF t b) : b < w.heap.size := by
 rcases hb with rfl | rfl | z | z
 .exact h.gl
 .exact h.mp.lt
 .obtain ⟨p, hp, rfl⟩ := List.mem_map.1 z
  obtain ⟨j, hj, rfl⟩ := List.getElem_of_mem hp
  exact (h.ss j hj (by rw [<- h.sl]; exact hj)).1.lt
 .exact (h.sr.lt b z).2
theorem TrM.g_mb {B : Nat} {w : World} {t : TG} {x : Txn} (h : TrM B w t x) : t.g ≠ t.mb := fun e => blk_map (h.bk) (by rw [tranC_len _ _ _ _ _ h.rl]; omega) (by rw [e]; exact h.mp)
theorem TrM.sm_mp {B : Nat} {w : World} {t : TG} {x : Txn} (h : TrM B w t x) {b : Nat} (hb : b ∈ t.sm.map Prod.fst) : ∃ N, MP w b N := by
 obtain ⟨p, hp, rfl⟩ := List.mem_map.1 hb
 obtain ⟨j, hj, rfl⟩ := List.getElem_of_mem hp
 exact ⟨_, (h.ss j hj (by rw [<- h.sl]; exact hj)).1⟩
theorem TrM.g_sm {B : Nat} {w : World} {t : TG} {x : Txn} (h : TrM B w t x) : ¬ t.g ∈ t.sm.map Prod.fst := fun e => by
 obtain ⟨N, hN⟩ := h.sm_mp e
 exact blk_map h.bk (by rw [tranC_len _ _ _ _ _ h.rl]; omega) hN
theorem TrM.sv_mb {B : Nat} {w : World} {t : TG} {x : Txn} (h : TrM B w t x) : t.sv.ownBlock ≠ some t.mb := fun e => own_map h.sr e h.mp
theorem TrM.sv_sm {B : Nat} {w : World} {t : TG} {x : Txn} (h : TrM B w t x) {b : Nat} (hb : t.sv.ownBlock = some b) : ¬ b ∈ t.sm.map Prod.fst := fun e => by
 obtain ⟨N, hN⟩ := h.sm_mp e
 exact own_map h.sr hb hN
theorem TrM.fr {B : Nat} {S : Nat -> Prop} {w w' : World} {t : TG} {x : Txn} (h : TrM B w t x) (hk : Fr S w w') (hS : ∀ b, trF t b -> ¬ S b) : TrM B w' t x :=
 ⟨h.bk.fr hk h.gl (hS _ (.inl rfl)), Nat.lt_of_lt_of_le h.gl hk.size, h.rl, h.mp.fr hk (hS _ (.inr (.inl rfl))), h.mr, h.mi, h.sl, h.s8, own_fr h.sr hk (fun g hg => hS g (.inr (.inr (.inr hg)))), fun j hj hj' => ⟨(h.ss j hj hj').1.fr hk (hS _ (.inr (.inr (.inl (List.mem_map_of_mem (List.getElem_mem hj)))))), (h.ss j hj hj').2⟩, h.nd, h.sg, h.ge⟩
theorem TrM.below {B : Nat} {w w' : World} {t : TG} {x : Txn} (h : TrM B w t x) (hb : Below w.heap.size w w') : TrM B w' t x := h.fr (Fr.of_below (fun _ => False) hb) (fun _ _ z => z)
theorem TrM.c0 {B : Nat} {w : World} {t : TG} {x : Txn} (h : TrM B w t x) : w.cell? ⟨t.g, 0, none⟩ = some (.int .i64 x.bg) := (h.bk 0 (by rw [tranC_len _ _ _ _ _ h.rl]; omega)).1
theorem TrM.c1 {B : Nat} {w : World} {t : TG} {x : Txn} (h : TrM B w t x) : w.cell? ⟨t.g, 1, none⟩ = some (.int .i64 x.md) := (h.bk 1 (by rw [tranC_len _ _ _ _ _ h.rl]; omega)).1
theorem TrM.c34 {B : Nat} {w : World} {t : TG} {x : Txn} (h : TrM B w t x) : w.cell? ⟨t.g, 34, none⟩ = some (.map (some t.mb)) := (h.bk 34 (by rw [tranC_len _ _ _ _ _ h.rl]; omega)).1.trans (tranC_34 _ _ _ _ _ h.rl)
theorem TrM.c35 {B : Nat} {w : World} {t : TG} {x : Txn} (h : TrM B w t x) : w.cell? ⟨t.g, 35, none⟩ = some t.sv /\ w.frozen? ⟨t.g, 35, none⟩ = false := ⟨(h.bk 35 (by rw [tranC_len _ _ _ _ _ h.rl]; omega)).1.trans (tranC_35 _ _ _ _ _ h.rl), (h.bk 35 (by rw [tranC_len _ _ _ _ _ h.rl]; omega)).2⟩
theorem TrM.rr {B : Nat} {w : World} {t : TG} {x : Txn} (h : TrM B w t x) : w.rangeAt t.g 2 (x.rs.map Value.bool) := range_blk h.bk 2 _ (fun j v hv => by
 rw [List.getElem?_map] at hv
 cases hq : x.rs[j]? with
 | none => rw [hq] at hv; cases hv
 | some b =>
   rw [hq] at hv
   obtain ⟨hj, hb⟩ := List.getElem?_eq_some_iff.1 hq
   rw [tranC_rd _ _ _ _ _ hj, hb]
   exact hv)
theorem TrM.svf {B : Nat} {w : World} {t : TG} {x : Txn} (h : TrM B w t x) : ∃ a c, t.sv = .slice a x.sv.length c := formR h.sr
theorem TrM.info {B : Nat} {w : World} {t : TG} {x : Txn} (h : TrM B w t x) (cm : Int) :
 Calls Tryz.prog 89 #[.pointer (some ⟨t.g, 0, none⟩), .int .i64 cm] w fun e w' => ∃ v2 v3, e = .returned (.agg #[.int .i64 x.bg, .int .i64 cm, v2, v3]) /\ IGr w.heap.size w' v2 (infoF x.bg cm x.own x.rs).reads /\ IGr w.heap.size w' v3 (infoF x.bg cm x.own x.rs).writes /\ (∀ a, v2.ownBlock = some a -> v3.ownBlock ≠ some a) /\ Below w.heap.size w w' := by
 refine (info_any t.g t.mb x.bg cm x.rs t.M w h.gl h.rl h.c0 h.rr h.c34 h.mp h.mi).mono ?_
 rintro e w' ⟨v2, v3, h1, h2, ⟨D, d1, d2, h3⟩, h4, h5⟩
 rw [wrote_marks h.mr h.mp.nodup d1 d2] at h3
 exact ⟨v2, v3, h1, h2, h3, h4, h5⟩
end Go.Proofs.YtblkgicbimflhaaGreat
namespace Go.Proofs.YtblkgicbimflhaaGreat
open Go.ChangeShapes Go.WideShapes Go.ChangeAt Go.RowKit
set_option linter.unusedVariables false
set_option linter.unusedSimpArgs false
set_option maxRecDepth 100000
set_option maxHeartbeats 16000000
open Go.ChangeMaps (setBlock)
theorem svC_at : ∀ (ss : List Sav) (bs : List Nat) (i : Nat) (h : i < ss.length) (h' : i < bs.length), (svC ss bs)[i * 2]? = some (.string ss[i].nm) /\ (svC ss bs)[i * 2 + 1]? = some (.map (some bs[i]))
 | s :: r, b :: q, 0, _, _ => ⟨rfl, rfl⟩
 | s :: r, b :: q, i + 1, h, h' => by
   have ih := svC_at r q i (by simpa using h) (by simpa using h')
   have e : svC (s :: r) (b :: q) = [.string s.nm, .map (some b)] ++ svC r q := rfl
   rw [e, show (i + 1) * 2 = i * 2 + 2 by omega]
   exact ⟨ih.1, ih.2⟩
theorem svC_take : ∀ (ss : List Sav) (bs : List Nat) (n : Nat), svC (ss.take n) (bs.take n) = (svC ss bs).take (n * 2)
 | _, _, 0 => by simp [svC]
 | [], _, n + 1 => by simp [svC]
 | s :: r, [], n + 1 => by simp [svC]
 | s :: r, b :: q, n + 1 => by
   have ih := svC_take r q n
   have e : svC (s :: r) (b :: q) = [.string s.nm, .map (some b)] ++ svC r q := rfl
   have e2 : svC ((s :: r).take (n + 1)) ((b :: q).take (n + 1)) = [.string s.nm, .map (some b)] ++ svC (r.take n) (q.take n) := rfl
   rw [e, e2, ih, show (n + 1) * 2 = n * 2 + 2 by omega]
   rfl
theorem own_take {B e K n m : Nat} {w : World} {a : Option Addr} {c : Nat} {xs : List Value} (h : w.ownsRow B e K (.slice a n c) n xs) (hm : m <= n) : w.ownsRow B e K (.slice a m c) m (xs.take (m * K)) := by
 obtain ⟨h1, h2⟩ := h
 have hmk : m * K <= n * K := Nat.mul_le_mul_right K hm
 refine ⟨by rw [List.length_take, h1]; omega, ?_⟩
 rcases h2 with ⟨e1, e2⟩ | ⟨g, cap, cur, e1, hg1, hg2, hg3, hg4, hg5, hg6⟩
 .injection e1 with e1 _ e3
  left
  refine ⟨?_, by omega⟩
  rw [e1, e3, show m = 0 by omega]
 .injection e1 with e1 _ e3
  right
  refine ⟨g, cap, cur, by rw [e1, e3], hg1, hg2, by omega, hg4, hg5, ?_⟩
  rw [<- hg6, List.take_take, Nat.min_eq_left hmk]
theorem nd_take {t : TG} (hn : (t.mb :: t.sm.map Prod.fst).Nodup) (n : Nat) {j : Nat} (hj : j < t.sm.length) (hjn : j < n) : ¬ t.sm[j].1 ∈ (t.sm.drop n).map Prod.fst := fun z => by
 have h2 := (List.nodup_cons.1 hn).2
 have e : t.sm.map Prod.fst = (t.sm.take n).map Prod.fst ++ (t.sm.drop n).map Prod.fst := by rw [<- List.map_append, List.take_append_drop]
 rw [e] at h2
 have hm : t.sm[j].1 ∈ (t.sm.take n).map Prod.fst := List.mem_map_of_mem (List.mem_take_iff_getElem.2 ⟨j, by omega, rfl⟩)
 exact (List.nodup_append.1 h2).2.2 _ hm _ z rfl
theorem nd_mb {t : TG} (hn : (t.mb :: t.sm.map Prod.fst).Nodup) (n : Nat) : ¬ t.mb ∈ (t.sm.drop n).map Prod.fst := fun z => by
 obtain ⟨p, hp, e⟩ := List.mem_map.1 z
 exact (List.nodup_cons.1 hn).1 (by rw [<- e]; exact List.mem_map_of_mem (List.mem_of_mem_drop hp))
theorem TrM.cut {B : Nat} {w w1 : World} {t : TG} {x : Txn} (h : TrM B w t x) {n : Nat} (hn : n <= x.sv.length) (hfr : Fr (fun b => b ∈ (t.sm.drop n).map Prod.fst) w w1) {a : Option Addr} {c : Nat} (hsv : t.sv = .slice a x.sv.length c) :
 (∃ sv', TrM B (w1.setCell ⟨t.g, 35, none⟩ (.slice a n c)) ⟨t.g, t.mb, t.M, sv', t.sm.take n⟩ { x with sv := x.sv.take n } /\ sv'.ownBlock = t.sv.ownBlock) /\ Fr (fun b => b = t.g \/ b ∈ (t.sm.drop n).map Prod.fst) w (w1.setCell ⟨t.g, 35, none⟩ (.slice a n c)) := by
 have hob : (Value.slice a n c).ownBlock = t.sv.ownBlock := by rw [hsv]; cases a <;> rfl
 have hdm : ∀ b, b ∈ (t.sm.drop n).map Prod.fst -> b ∈ t.sm.map Prod.fst := fun b hb => by
  obtain ⟨p, hp, e⟩ := List.mem_map.1 hb
  rw [<- e]; exact List.mem_map_of_mem (List.mem_of_mem_drop hp)
 have f2 := Fr.setCell w1 t.g 35 (.slice a n c)
 refine ⟨⟨.slice a n c, ⟨?_, ?_, h.rl, ?_, h.mr, h.mi, ?_, ?_, ?_, fun j hj hj' => ?_, ?_, ?_, fun b hb => ?_⟩, hob⟩, (hfr.mono (fun b z => .inr z)).trans (f2.mono (fun b z => .inl z))⟩
 .have k1 := (h.bk.fr hfr h.gl (fun z => h.g_sm (hdm _ z))).set 35 (.slice a n c) (by rw [tranC_len _ _ _ _ _ h.rl]; omega)
  rw [tranC_setsv _ _ _ _ _ _ h.rl] at k1
  exact k1
 .simpa using Nat.lt_of_lt_of_le h.gl hfr.size
 .exact (h.mp.fr hfr (nd_mb h.nd n)).fr f2 (fun e => h.g_mb e.symm)
 .simp only [List.length_take, h.sl]
 .simp only [List.length_take]; have := h.s8; omega
 .simp only
  have hr := h.sr
  rw [hsv] at hr
  have r1 := own_take hr hn
  rw [List.map_take, svC_take, List.length_take, Nat.min_eq_left hn]
  refine own_fr (own_fr r1 hfr (fun g hg z => ?_)) f2 (fun g hg z => ?_)
  .exact h.sv_sm (by rw [<- hob]; exact hg) (hdm _ z)
  .have e : g = t.g := z
   subst e
   exact h.sg (by rw [<- hob]; exact hg)
 .simp only [List.length_take] at hj hj'
  simp only [List.getElem_take]
  have hj1 : j < t.sm.length := by omega
  have hj2 : j < x.sv.length := by omega
  obtain ⟨q1, q2⟩ := h.ss j hj1 hj2
  refine ⟨(q1.fr hfr (nd_take h.nd n hj1 (by omega))).fr f2 (fun e => ?_), q2⟩
  have e2 : t.sm[j].1 = t.g := e
  exact h.g_sm (by rw [<- e2]; exact List.mem_map_of_mem (List.getElem_mem hj1))
 .refine List.Sublist.nodup ?_ h.nd
  exact List.Sublist.cons_cons _ ((List.take_sublist n t.sm).map Prod.fst)
 .rw [hob]; exact h.sg
 .refine h.ge b ?_
  rcases hb with z | z | z | z
  .exact .inl z
  .exact .inr (.inl z)
  .refine .inr (.inr (.inl ?_))
   obtain ⟨p, hp, e⟩ := List.mem_map.1 z
   rw [<- e]; exact List.mem_map_of_mem (List.mem_of_mem_take hp)
  .exact .inr (.inr (.inr (by rw [<- hob]; exact z)))
theorem giveUpSaves_any (B : Nat) (w : World) (t : TG) (x : Txn) (h : TrM B w t x) (n : Nat) (hn : n <= x.sv.length) :
 Calls Tryz.prog 75 #[.pointer (some ⟨t.g, 0, none⟩), .int .i64 (n : Int)] w fun e w' => (∃ r, e = .returned r) /\ (∃ sv', TrM B w' ⟨t.g, t.mb, t.M, sv', t.sm.take n⟩ { x with sv := x.sv.take n } /\ sv'.ownBlock = t.sv.ownBlock) /\ Fr (fun b => b = t.g \/ b ∈ (t.sm.drop n).map Prod.fst) w w' := by
 obtain ⟨c35, f35⟩ := h.c35
 have hs8 := h.s8
 have hgl := h.gl
 rcases h.sr.2 with ⟨e1, e2⟩ | ⟨gs, cap, cur, e1, hg1, hg2, hg3, hg4, hg5, hg6⟩
 .rw [e1] at c35
  have hn0 : n = 0 := by omega
  subst hn0
  have HC := hid (h.cut (n := 0) hn (Fr.refl _ w) (a := none) (c := 0) (by rw [e1, e2]))
  go_enter Tryz.func75, Tryz.ntmps75
  go_wp2
  go_loopw [13] (fun iv wr => iv = .int .i64 0 /\ wr = w) (fun _ _ => 0)
  case atStart => exact ⟨rfl, rfl⟩
  case round =>
   obtain ⟨rfl, rfl⟩ := hrel
   go_wp2
   go_end0
   exact ⟨⟨_, rfl⟩, HC.out⟩
 .rw [e1] at c35
  have hcn : (n : Int) <= x.sv.length := by omega
  have hcc : n <= cap := by omega
  obtain ⟨o', ho', hoc⟩ : ∃ o' : Nat, (if cap = n then (some ⟨gs, 0, none⟩ : Option Addr) else some ⟨gs, n * 2, none⟩) = some ⟨gs, o', none⟩ /\ (n < cap -> o' = n * 2) := by
   by_cases e : cap = n
   .exact ⟨0, by rw [if_pos e], fun z => by omega⟩
   .exact ⟨n * 2, by rw [if_neg e], fun z => rfl⟩
  go_enter Tryz.func75, Tryz.ntmps75
  go_wp2
  have HT := hid h
  have HOC := hid hoc
  clear hoc ho' hg2 hg6 h
  go_loopw [13] (fun iv wr => ∃ j : Nat, j <= x.sv.length - n /\ iv = .int .i64 j /\ Fr (fun b => b ∈ ((t.sm.drop n).take j).map Prod.fst) w wr) (fun iv _ => x.sv.length - n - (intOf iv).toNat)
  case atStart => exact ⟨0, Nat.zero_le _, rfl, Fr.refl _ _⟩
  case round =>
   obtain ⟨j, hj, rfl, hfr⟩ := hrel
   have hsz := hfr.size
   by_cases hlt : j < x.sv.length - n
   .have hlti : (j : Int) < ((x.sv.length - n : Nat) : Int) := by omega
    have hoe := HOC.out (by omega)
    subst hoe
    have h1 : n + j < x.sv.length := by omega
    have h2 : n + j < t.sm.length := by rw [HT.out.sl]; exact h1
    have hsub : ∀ b, b ∈ ((t.sm.drop n).take j).map Prod.fst -> b ∈ t.sm.map Prod.fst := fun b hb => by
     obtain ⟨p, hp, e⟩ := List.mem_map.1 hb
     rw [<- e]; exact List.mem_map_of_mem (List.mem_of_mem_drop (List.mem_of_mem_take hp))
    have hgs : t.sv.ownBlock = some gs := by rw [e1]; rfl
    have hgsl : gs < w.heap.size := (HT.out.sr.lt gs hgs).2
    obtain ⟨k1, k2⟩ := svC_at x.sv (t.sm.map Prod.fst) (n + j) h1 (by rw [List.length_map]; exact h2)
    rw [List.getElem_map, show (n + j) * 2 = n * 2 + j * 2 by omega] at *
    have hb := hfr.block gs hgsl (fun z => HT.out.sv_sm hgs (hsub _ z))
    have d0 : wr.cell? ⟨gs, n * 2 + j * 2, none⟩ = some (.string x.sv[n + j].nm) := (World.cell?_of_block (a := ⟨gs, n * 2 + j * 2, none⟩) hb).trans (own_cells HT.out.sr e1 k1)
    have d1 : wr.cell? ⟨gs, n * 2 + j * 2 + 1, none⟩ = some (.map (some t.sm[n + j].1)) := (World.cell?_of_block (a := ⟨gs, n * 2 + j * 2 + 1, none⟩) hb).trans (own_cells HT.out.sr e1 k2)
    have hnot : ¬ t.sm[n + j].1 ∈ ((t.sm.drop n).take j).map Prod.fst := fun z => by
     have hnd := (List.nodup_cons.1 HT.out.nd).2
     have hnd2 : ((t.sm.drop n).map Prod.fst).Nodup := List.Sublist.nodup ((List.drop_sublist n t.sm).map Prod.fst) hnd
     have e : (t.sm.drop n).map Prod.fst = ((t.sm.drop n).take j).map Prod.fst ++ ((t.sm.drop n).drop j).map Prod.fst := by rw [<- List.map_append, List.take_append_drop]
     rw [e] at hnd2
     refine (List.nodup_append.1 hnd2).2.2 _ z _ ?_ rfl
     refine List.mem_map_of_mem ?_
     rw [List.drop_drop]
     exact List.mem_drop_iff_getElem.2 ⟨0, by omega, by simp⟩
    obtain ⟨q1, _⟩ := HT.out.ss (n + j) h2 h1
    have q2 := (q1.fr hfr hnot).fr (Fr.of_below (fun _ => False) (below_alloc wr (.cells #[.string x.sv[n + j].nm, .map (some t.sm[n + j].1)] 169))) (fun z => z)
    obtain ⟨o, hcl, _⟩ := run_clearM _ t.sm[n + j].1 0 _ q2
    have HFN : Hid (Fr (fun b => b ∈ ((t.sm.drop n).take (j + 1)).map Prod.fst) w (setBlock (wr.alloc (.cells #[.string x.sv[n + j].nm, .map (some t.sm[n + j].1)] 169)) t.sm[n + j].1 o)) := hid (by
     have hm : (t.sm.drop n).take (j + 1) = (t.sm.drop n).take j ++ [t.sm[n + j]] := by
      rw [List.take_add_one, List.getElem?_drop, List.getElem?_eq_getElem h2]
      rfl
     rw [hm, List.map_append]
     exact ((hfr.mono (fun b z => List.mem_append_left _ z)).trans (Fr.of_below _ (below_alloc _ _))).trans ((fr_setBlock _ _ _).mono (fun b z => List.mem_append_right _ (by rw [z]; exact List.mem_cons_self))))
    clear q1 q2 hnot k1 k2 hsub hfr hb
    generalize x.sv[n + j].nm = nm at *
    generalize t.sm[n + j].1 = mj at *
    go_wp2
    go_roundw
    case rel => exact ⟨j + 1, by omega, by go_num, HFN.out⟩
    case measure => simp [intOf]; omega
   .have hje : j = x.sv.length - n := by omega
    have hlti : ¬ (j : Int) < ((x.sv.length - n : Nat) : Int) := by omega
    have hfr2 : Fr (fun b => b ∈ (t.sm.drop n).map Prod.fst) w wr := by
     have e : (t.sm.drop n).take j = t.sm.drop n := List.take_of_length_le (by rw [List.length_drop, HT.out.sl]; omega)
     rw [e] at hfr; exact hfr
    have HC := hid (HT.out.cut hn hfr2 e1)
    have hng : ¬ t.g ∈ (t.sm.drop n).map Prod.fst := fun z => by
     obtain ⟨p, hp, e⟩ := List.mem_map.1 z
     exact HT.out.g_sm (by rw [<- e]; exact List.mem_map_of_mem (List.mem_of_mem_drop hp))
    have KB := HT.out.bk.fr hfr2 hgl hng
    have d35 : wr.cell? ⟨t.g, 35, none⟩ = some (.slice (some ⟨gs, 0, none⟩) x.sv.length cap) := (KB 35 (by rw [tranC_len _ _ _ _ _ HT.out.rl]; omega)).1.trans (by rw [tranC_35 _ _ _ _ _ HT.out.rl, e1])
    have k35 : wr.frozen? ⟨t.g, 35, none⟩ = false := (KB 35 (by rw [tranC_len _ _ _ _ _ HT.out.rl]; omega)).2
    clear KB hng hfr2 hfr hje HOC
    go_wp2
    go_end0
    have hc := HC.out
    rw [e1, List.map_drop] at hc
    exact ⟨⟨_, rfl⟩, hc⟩
end Go.Proofs.YtblkgicbimflhaaGreat
namespace Go.Proofs.YtblkgicbimflhaaGreat
open Go.ChangeShapes Go.WideShapes Go.ChangeAt Go.RowKit
set_option linter.unusedVariables false
set_option linter.unusedSimpArgs false
set_option maxRecDepth 100000
set_option maxHeartbeats 16000000
open Go.ChangeMaps (setBlock)
theorem giveUp_any (B : Nat) (w : World) (t : TG) (x : Txn) (h : TrM B w t x) :
 Calls Tryz.prog 72 #[.pointer (some ⟨t.g, 0, none⟩)] w fun e w' => (∃ r, e = .returned r) /\ Fr (trF t) w w' := by
 have hgu := giveUpSaves_any B w t x h 0 (Nat.zero_le _)
 rw [show ((0 : Nat) : Int) = 0 from rfl] at hgu
 go_enter Tryz.func72, Tryz.ntmps72
 go_wp2_with (go_at_call 75; fail)
 refine hgu.mono ?_
 rintro e w1 ⟨⟨r, rfl⟩, ⟨sv', hT, _⟩, hfr⟩
 have c34 := hT.c34
 obtain ⟨o, hcl, _⟩ := run_clearM w1 t.mb 0 _ hT.mp
 have HF : Hid (Fr (trF t) w (setBlock w1 t.mb o)) := hid ((hfr.mono (fun b z => by
  rcases z with z | z
  .exact .inl z
  .refine .inr (.inr (.inl ?_))
   obtain ⟨p, hp, e⟩ := List.mem_map.1 z
   rw [<- e]; exact List.mem_map_of_mem (List.mem_of_mem_drop hp))).trans ((fr_setBlock w1 t.mb o).mono (fun b z => .inr (.inl z))))
 clear hgu hT hfr h
 simp only at c34
 go_wp2
 go_end0
 exact ⟨⟨_, rfl⟩, HF.out⟩
end Go.Proofs.YtblkgicbimflhaaGreat
