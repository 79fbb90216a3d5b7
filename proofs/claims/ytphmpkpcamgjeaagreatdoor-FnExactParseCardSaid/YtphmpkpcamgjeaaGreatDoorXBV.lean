import Derived.Test.YtphmpkpcamgjeaaGreatDoorXAA
import Derived.Test.YtphmpkpcamgjeaaGreatDoorXBU
import Derived.Test.YtphmpkpcamgjeaaGreatDoorXAI
set_option linter.unusedVariables false
set_option linter.unusedSimpArgs false
set_option maxRecDepth 100000
set_option maxHeartbeats 16000000
namespace Go.Proofs.YtphmpkpcamgjeaaGreatDoor
open Go.ChangeShapes Go.WideShapes Go.ChangeAt Go.RowKit Go.Proofs.Tryz
theorem NO.tags {w:World} {B:Nat} {D:Nat->Prop}:∀ {xs:List Value} {o:List Nd} {ks:List Value},NO w B D xs o ks->∀ kv∈ks,∀ g,kv.ownBlock=some g->tag w g 3
 | _,[],[],_,kv,h,_,_=>by simp at h
 | _,t::r,kw::ks,⟨ys,a,b,d,e,c⟩,kv,h,g,hg=>by
  rcases List.mem_cons.1 h with z | z
  .subst z;exact a0n b hg
  exact NO.tags c kv z g hg
 | _,[],_::_,h,_,_,_,_=>h.elim
 | _,_::_,[],h,_,_,_,_=>h.elim
theorem a8i (z B B0 k:Nat) (v:Value) (o:List Nd) (xs ks:List Value) (w a0:World) (hz:tag w z 24) (hol:o.length<=1152921504606846976) (hk0:0<k) (hk:endK o k<=1152921504606846976) (h:TR w B v o xs ks) (hb:Below B0 a0 w) (hB:B0<=B) (hw:B0<=w.heap.size) :
 Calls prog 7 #[.agg #[v],.int .i64 (k:Int)] w fun e w'=>e=.returned (.int .i64 ((endK o k:Nat):Int))/\Below B0 a0 w'/\(∃ xs',TR w' B v (mkL o k) xs' ks)/\w'.heap[z]?=w.heap[z]?:=by
 rcases h.row.2 with⟨e,h0⟩ | ⟨g,cap,cur,e,_⟩
 .have ho:o=[]:=List.length_eq_zero_iff.1 h0;subst e;subst ho;have b1:Below B0 a0 (w.alloc (.cells #[.slice none 0 0] 24)):=hb.alloc hw _;have h1:=hid (h.below (below_alloc w (.cells #[.slice none 0 0] 24)));have a2:=hid ((below_alloc w (.cells #[.slice none 0 0] 24)).block z (a0x hz));go_enter func7,ntmps7;go_wp2_with fail;refine(a8d _ none k _ (.inl rfl)).mono ?_;rintro e w1 ⟨rfl,a1⟩;replace a1:=a1.symm;subst a1;go_wp2;go_ret;exact⟨rfl,b1,⟨xs,h1.out⟩,a2.out⟩
 subst e;exact a8c z B B0 k g cap o xs ks w a0 (a0t hz h.tg (by decide)) (fun kv hkv e=>a0t hz (h.no.tags kv hkv z e) (by decide) rfl) (a0x hz) hol hk0 hk h hb hB
structure QG (w:World):Prop where
  tb:Lx.Tabs w
  ml:MLt w
  er:w.cell? ⟨0,0,none⟩=some (.iface 135 (.agg #[.pointer (some ⟨4,83,none⟩)]))
  e0:0<w.heap.size
theorem QG.below {w w':World} (h:QG w) (hb:Below w.heap.size w w'):QG w':=
  ⟨Lx.tabs_below h.tb hb,h.ml.heap (hb.block 3 (a0x h.ml.1)),(hb.cell (p:=⟨0,0,none⟩) h.e0).trans h.er,Nat.lt_of_lt_of_le h.e0 hb.size⟩
theorem b4H (m:Nat):∀ (o:List Nd) (k:Nat),(∀ t∈o,t.kids.length<=m)->endK o k<=k+o.length*(m+9)
 | [],k,_=>by simp[endK]
 | t::r,k,h=>by
  have h1:=b4H m r (k+9+t.kids.length) (fun u hu=>h u (List.mem_cons_of_mem _ hu));have h2:=h t List.mem_cons_self;simp only[endK,List.length_cons,Nat.succ_mul];omega
theorem b4I (w:World) (v:Value):(w.alloc (.cells #[v] 24)).heap[w.heap.size]?=some (.cells #[v] 24 (0,0)):=heap_alloc_new _ _
theorem a8j (s:ByteArray) (o:List Nd) (c p:Int) (w:World) (hs:s.size<=1048576) (hQ:QG w)
    (hS:∀ w,QG w->Calls prog 4 #[.string s] w fun e w'=>∃ v,e=.returned (.tuple #[.agg #[v],.int .i64 c,.int .i64 p])/\RS 10 CN 0 w' v o/\(o.length<=4000000/\∀ t∈o,t.kids.length<=10000)/\Below w.heap.size w w')
    (hI:∀ w,QG w->Calls prog 5 #[.string s] w fun e w'=>∃ v xs ks,e=.returned (.tuple #[.agg #[v],.int .i64 c,.int .i64 p])/\TR w' w.heap.size v o xs ks/\Below w.heap.size w w') :
 Calls prog 3 #[.string s] w fun e w'=>e=.returned (.bool true)/\Below w.heap.size w w':=by
 have hsi:¬ (1048576:Int)<s.size:=by omega
 have hcc:((c:Int) != c)=false:=by simp
 have hpp:((p:Int) != p)=false:=by simp
 go_enter func3,ntmps3;go_wp2_with fail;refine(hS _ hQ).mono ?_;rintro e w1 ⟨v,rfl,r1,⟨hol,hok⟩,b1⟩
 have hE:endK o 1<=1152921504606846976:=by
  have h1:=b4H 10000 o 1 hok;have h2:o.length*(10000+9)<=4000000*(10000+9):=Nat.mul_le_mul_right _ hol;omega
 have hk:∀ t∈o,t.kids.length<=4611686018427387904:=fun t ht=>Nat.le_trans (hok t ht) (by decide)
 have c8:¬ ((endK o 1:Nat):Int)<0:=by omega
 obtain⟨E,hEE⟩:∃ E:Int,E=((endK o 1:Nat):Int):=⟨_,rfl⟩
 have hEr:((E:Int) != E)=false:=by simp
 have HM:=fun z B B0 v xs ks w a0 hz h hb hB hw=>a8i z B B0 1 v o xs ks w a0 hz (Nat.le_trans hol (by decide)) (by decide) hE h hb hB hw;have HH:=fun v w h=>a8e 1 o v w (Nat.le_trans hol (by decide)) (by decide) hE h;rw[<- hEE] at HM HH c8;clear hEE hE
 obtain⟨va,vc,hv⟩:∃ a c,v=.slice a o.length c:=by obtain⟨a,c,e,_⟩:=r1;exact⟨a,c,e⟩
 subst hv;go_wp2_with fail;have n1:=b4I w1 (.slice va o.length vc)
 have l1:w1.heap.size<(w1.alloc (.cells #[.slice va o.length vc] 24)).heap.size:=by simp
 have c0:=r1.below a5W (below_alloc w1 (.cells #[.slice va o.length vc] 24));have a4:Below w.heap.size w (w1.alloc (.cells #[.slice va o.length vc] 24)):=b1.alloc b1.size _;generalize w1.alloc (.cells #[.slice va o.length vc] 24)=W1 at *;obtain⟨p3,c1⟩:∃ x,x=w1.heap.size:=⟨_,rfl⟩;rw[<- c1] at n1 l1 ⊢;clear c1 r1 b1;refine(hI _ (hQ.below a4)).mono ?_;rintro e w2 ⟨u,xs,ks,rfl,t2,b2⟩
 obtain⟨ua,uc,hu⟩:∃ a c,u=.slice a o.length c:=by obtain⟨a,c,e,_⟩:=t2.rs;exact⟨a,c,e⟩
 subst hu;have n2:=(b2.block p3 l1).trans n1;have l2:=Nat.lt_of_lt_of_le l1 b2.size;have hcl:W1.heap.size<=w2.heap.size:=b2.size;have y3:(w2.alloc (.cells #[.slice ua o.length uc] 24)).cell? ⟨p3,0,none⟩=some (.slice va o.length vc):=(cell_of (((below_alloc w2 _).block p3 l2).trans n2)).1;go_wp2_with fail;have m2:=b4I w2 (.slice ua o.length uc)
 have k2:w2.heap.size<(w2.alloc (.cells #[.slice ua o.length uc] 24)).heap.size:=by simp
 have c2:=((below_alloc w2 (.cells #[.slice ua o.length uc] 24)).block p3 l2).trans n2;have a7:=t2.below (below_alloc w2 (.cells #[.slice ua o.length uc] 24));have a5:Below W1.heap.size W1 (w2.alloc (.cells #[.slice ua o.length uc] 24)):=b2.alloc b2.size _;generalize w2.alloc (.cells #[.slice ua o.length uc] 24)=W2 at *;obtain⟨p6,c3⟩:∃ x,x=w2.heap.size:=⟨_,rfl⟩;rw[<- c3] at m2 k2 hcl ⊢;clear c3 t2 b2 n2 l2;refine(a5M o _ _ _ (Nat.le_trans hol (by decide)) hk a7.rs (c0.below a5W a5)).mono ?_;rintro e w3 ⟨rfl,b3⟩;have l3:p3<W2.heap.size:=Nat.lt_of_lt_of_le l1 a5.size;have m3:=(b3.block p6 k2).trans m2;have n3:=(b3.block p3 l3).trans c2;have t3:=a7.below b3;have a8:Below W1.heap.size W1 w3:=a5.trans (b3.mono a5.size);have k3:=Nat.lt_of_lt_of_le k2 b3.size
 have x6:w3.cell? ⟨p6,0,none⟩=some (.slice ua o.length uc):=(cell_of m3).1;clear y3 a5 b3 a7 m2 c2 k2 l3;go_wp2_with fail;refine(HM p6 W1.heap.size W1.heap.size _ xs ks w3 W1 ⟨_,_,m3⟩ t3 a8 (Nat.le_refl _) a8.size).mono ?_;rintro e w4 ⟨rfl,b4,⟨d3,t4⟩,m4⟩;replace m4:=m4.trans m3;have n4:=(b4.block p3 l1).trans n1;have k4:p6<w4.heap.size:=(Array.getElem?_eq_some_iff.1 m4).1;have c9:w4.cell? ⟨p6,0,none⟩=some (.slice ua o.length uc):=(cell_of m4).1;clear x6 m3 n3 t3 a8 k3;go_wp2_with fail;refine(HH _ w4 t4.rs).mono ?_;rintro e w5 ⟨rfl,b5⟩;have m5:=(b5.block p6 k4).trans m4;have t5:=t4.below b5;have a6:Below W1.heap.size W1 w5:=b4.trans (b5.mono b4.size);have c4:Below w.heap.size w w5:=a4.trans (a6.mono a4.size);have k5:=Nat.lt_of_lt_of_le k4 b5.size;have n5:=(a6.block p3 l1).trans n1;clear c9 m4 t4 b4 b5 k4 n4;go_wp2_with fail
 refine(hI _ (hQ.below c4)).mono ?_;rintro e w6 ⟨u6,d4,d5,rfl,t6,b6⟩
 obtain⟨a1,a2,d0⟩:∃ a c,u6=.slice a o.length c:=by obtain⟨a,c,e,_⟩:=t6.rs;exact⟨a,c,e⟩
 subst d0;have m6:=(b6.block p6 k5).trans m5;have k6:=Nat.lt_of_lt_of_le k5 b6.size;have c5:=t5.below b6;have a3:Below W1.heap.size W1 w6:=a6.trans (b6.mono a6.size);have l6:p3<w6.heap.size:=Nat.lt_of_lt_of_le l1 a3.size;have n6:=(a3.block p3 l1).trans n1;have y3:(w6.alloc (.cells #[.slice a1 o.length a2] 24)).cell? ⟨p3,0,none⟩=some (.slice va o.length vc):=(cell_of (((below_alloc w6 _).block p3 l6).trans n6)).1;have a9:Below w.heap.size w w6:=a4.trans (a3.mono a4.size);clear m5 k5 t5 a6 b6 c4 n5;go_wp2_with fail;have m7:=((below_alloc w6 (.cells #[.slice a1 o.length a2] 24)).block p6 k6).trans m6
 have k7:p6<(w6.alloc (.cells #[.slice a1 o.length a2] 24)).heap.size:=by simp;omega
 have t7:=c5.below (below_alloc w6 (.cells #[.slice a1 o.length a2] 24));have c6:=t6.below (below_alloc w6 (.cells #[.slice a1 o.length a2] 24));have c7:Below W1.heap.size W1 (w6.alloc (.cells #[.slice a1 o.length a2] 24)):=a3.alloc a3.size _;have b0:Below w.heap.size w (w6.alloc (.cells #[.slice a1 o.length a2] 24)):=a9.alloc a9.size _;generalize w6.alloc (.cells #[.slice a1 o.length a2] 24)=W6 at *;clear m6 k6 c5 t6 a3 a9 n6 l6;refine(a5M o _ _ _ (Nat.le_trans hol (by decide)) hk c6.rs (c0.below a5W c7)).mono ?_;rintro e w8 ⟨rfl,b8⟩;have m8:=(b8.block p6 k7).trans m7;have t8:=t7.below b8;have b7:Below w.heap.size w w8:=b0.trans (b8.mono b0.size);have d1:w8.cell? ⟨p6,0,none⟩=some (.slice ua o.length uc):=(cell_of m8).1;clear m7 t7 c6 c7 b0 b8 k7 y3;go_wp2_with fail;refine(HH _ w8 t8.rs).mono ?_
 rintro e w9 ⟨rfl,b9⟩;have d2:Below w.heap.size w w9:=b7.trans (b9.mono b7.size);clear d1 m8 t8 b7 b9;go_wp2;go_ret;exact⟨rfl,d2⟩
theorem b2M (s:ByteArray) (w:World) (hm:s.size<=maxLen) (hs:1048576<s.size):Calls prog 3 #[.string s] w fun e w'=>e=.returned (.bool true)/\Below w.heap.size w w':=by
 have hz':(1048576:Int)<s.size:=by omega
 unfold maxLen at hm;go_enter func3,ntmps3;go_wp2;go_ret;exact⟨rfl,Below.refl _ _⟩
end Go.Proofs.YtphmpkpcamgjeaaGreatDoor
