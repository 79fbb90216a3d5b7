import Derived.Test.YtphmpkpcamgjeaaGreatDoorXAA
import Derived.Test.YtphmpkpcamgjeaaGreatDoorXBG
import Derived.Deep.CutBlock
import Derived.Deep.DeepCutAuto
set_option linter.unusedVariables false
set_option linter.unusedSimpArgs false
set_option maxRecDepth 100000
set_option maxHeartbeats 16000000
namespace Go.Proofs.YtphmpkpcamgjeaaGreatDoor
open Go.ChangeShapes Go.WideShapes Go.ChangeAt Go.RowKit Go.Proofs.Tryz
theorem Lp.listUB {V:Env} {A:M Int} {β:Type} {K:List Int->M β} {k:Nat} {ks:List Int} {F:List Nd->R β} {p:Nat} {x:Option (List Nd)} {m q:Nat} {y:Option (List Nd)} {m2 d c:Nat} (l:Lp V d c F (fun o=>(a1w V A k ks q o).bind K) p x m q y m2) (hk:∀ o,y=some o->V.ts.length-q<k):Lp V d c F (fun o=>(A q o).bind fun a q3 o=>if sees V q3 a1c then(a1w V A (k-1) (ks++[a]) (q3+1) o).bind K else K (ks++[a]) q3 o) p x m q y m2:=
 l.congr (fun o e=>by
 have:=hk o e;obtain⟨k',rfl⟩:∃ k',k=k'+1:=⟨k-1,by omega⟩
 show((A q o).bind _).bind K=_
 rw[R.bind_bind];congr 1;funext a q3 o3;simp only[Nat.add_sub_cancel]
 split<;>rfl)
theorem Res.nameS {V:Env} {d c p m q m':Nat} {y:Option (List Nd)} {a:ByteArray} {o:List Nd} (h:Res V d c (name V p) p (some o) m q y m' a) (hn:isNm V p=true):q=p+1/\y=some o/\a=V.tx p:=by
 have h1:=h.yes o rfl
 cases y with
 | none=>simp[name,hn,rOf] at h1
 | some o1=>
 simp[name,hn,rOf] at h1;exact⟨h1.2.1.symm,by rw[h1.2.2],h1.1.symm⟩
section
variable {V : Env} {src : ByteArray} {r B : Nat} {D : Nat -> Prop} {b : Nat} {w : World} {p : Nat} {x : Option (List Nd)} {m g : Nat} {t : Nd} {v : Value} {ks : List Int}
theorem NV.kid2 (h:NV V src r B D b w p x m g t v ks) (k:Int) (hl:ks.length<=100000) :
 ∃ na nl nc w',(Builtin.append_ #[37,37] 37 #[v,.slice (some ⟨w.heap.size,0,none⟩) 1 1]).run prog (w.alloc (.cells #[.int .i64 k] 3))=.ok (.slice na nl nc) w'/\NV V src r B D b (w'.setCell ⟨g,8,none⟩ (.slice na nl nc)) p x m g t (.slice na nl nc) (ks++[k])/\(∀ w0,Sp 3 r w0 w->w0.heap.size<=b->Sp 3 r w0 (w'.setCell ⟨g,8,none⟩ (.slice na nl nc)))/\w'.cell? ⟨g,8,none⟩=some v/\w'.frozen? ⟨g,8,none⟩=false/\(∀ c,tag (w.alloc (.cells #[.int .i64 k] 3)) c 42->w'.heap[c]?=(w.alloc (.cells #[.int .i64 k] 3)).heap[c]?):=by
 obtain⟨v',w',h1,h2,h3,h4,_⟩:=a5r h.pk k hl;obtain⟨na,nc,e⟩:=a2c h2.row;subst e;have hgl:=h.nb.1;have e1:w'.heap[g]?=w.heap[g]?:=(h4.block g (by simp;omega) (fun e=>a0t h.tg (a0n h.pk.row e.symm) (by decide) rfl)).trans ((below_alloc w _).block g hgl);have hrl:=h.pk.sm.rl;have e2:w'.heap[r]?=(w.alloc (.cells #[.int .i64 k] 3)).heap[r]?:=h4.block r (by simp;omega) (fun e=>a0t h.pk.sm.rt (a0n h.pk.row e.symm) (by decide) rfl);have a0:w'.heap[g]?=some (.cells (ndA t v) 42 (0,0)):=e1.trans h.cell;exact⟨na,_,nc,w',h1,h.push (below_alloc _ _) h2 h4 (.inr trivial) (a3w e2),fun w0 s a1=>(h3 w0 s a1).set _ (Nat.le_trans a1 h.lo),(cell_of a0).1,(cell_of a0).2,fun c hc=>h4.block c (a0x hc) (fun e=>a0t hc (a0n (own_below h.pk.row (below_alloc w (.cells #[.int .i64 k] 3))) e.symm) (by decide) rfl)⟩
theorem PK.newL (h:SM V src r B D w p x m) (hb:b<=w.heap.size) (ks:List Int) (hk:ks.length<=1000):PK V src r B D b (w.alloc (.cells (kidC ks).toArray 3)) p x m (.slice (some ⟨w.heap.size,0,none⟩) ks.length ks.length) ks:=by
 refine⟨h.belowD (fun g hg=>?_) (fun g h1 hg=>?_) (below_alloc _ _),⟨by simp[kidC],.inr ⟨w.heap.size,ks.length,(kidC ks).toArray,rfl,hb,heap_alloc_new _ _,Nat.le_refl _,by unfold maxLen;omega,by simp[kidC],by simp[kidC,List.take_of_length_le]⟩⟩,by simp;omega⟩
 .rcases hg with z | z
  .have:=h.dl g z;simp;omega
  have:w.heap.size=g:=by simpa[Value.ownBlock] using z
  simp;omega
 rcases hg with z | z
 .exact z
 have:w.heap.size=g:=by simpa[Value.ownBlock] using z
 omega
theorem NV.kidsL (h:NV V src r B D b w p x m g t v ks) (ks':List Int) (hk:ks'.length<=1000):NV V src r B D b ((w.setCell ⟨g,8,none⟩ (.slice (some ⟨w.heap.size,0,none⟩) ks'.length ks'.length)).alloc (.cells (kidC ks').toArray 3)) p x m g t (.slice (some ⟨w.heap.size,0,none⟩) ks'.length ks'.length) ks':=by
 rw[<- World.setCell_alloc_past _ g 8 _ h.nb.1];exact(h.row (PK.newL h.pk.out h.pk.bl ks' hk) ((h.pk.sm.sp.alloc _).nods)).1
end
theorem a7H {V:Env} {src:ByteArray} {n:Nat} {E Q:M Int} (hV:VO V src) (hE:SV V) (hA:0<n->a0w V src 87 10 (n-1) E) (hQ:0<n->a0w V src 24 240 (n-1) Q):a0w V src 127 10 n (negF V E Q)/\a0w V src 87 10 n (a2t V E Q):=by
 have a1:a0w V src 154 10 n (a3K V E Q):=b5y hV hE hA hQ;have a2:a0w V src 127 10 n (negF V E Q):=fun h hn hp=>b3m hV a1 (V.ts.length+1) h hn (fun o _=>by omega) hp;have a4:a0w V src 174 10 n (a4z V (catF V E Q) E Q):=b5z hV (b7h hV (b7g hV (b7f hV (b7i a2)))) hA hQ;have a5:a0w V src 153 10 n (notF V E Q):=fun h hn hp=>not_any hV a4 (V.ts.length+1) h hn (fun o _=>by omega) hp;have a6:a0w V src 123 10 n (andF V E Q):=b7e hV a5;exact⟨a2,b4X hV a6⟩
theorem b5A {V:Env} {src:ByteArray} {n:Nat} {E:M Int} (hV:VO V src) (hE:SV V) (hA:a0w V src 87 10 n E):a0w V src 128 12 n (a2D V E):=fun {r B D w p x m} h hn hp=>by
 have hT:=hV.n;have hle:=h.le;have l0:=Lp.refl V ((a2D V E) p) p x m;have i1:=l0.le;go_enter func128,ntmps128;go_wp2_with fail;refine(a0C hV h).mono ?_;rintro e w1 ⟨rfl,b1⟩;have h1:=h.below b1;have s1:=h.sp.below b1;go_wp2_with fail;refine(a0b hV h1 g_star).mono ?_;rintro e w2 ⟨c2,rfl,t2,h2,z2⟩
 cases c2 with
 | true=>
  replace h2:SM V src r B _ w2 (p+1) x m:=h2;have s2:=s1.trans z2;obtain⟨o2,e2,g2,f5⟩:=t2.yes;have l2:=l0.tkT t2;have f6:=l2.le;have h5:=h2.le;go_wp2_with fail;refine(a0g h2 (by have:=a0r (V:=V) (p:=(p+1)) (x:=x) (m:=m);omega) { op:=18,pos:=V.pos p } (.slice none 0 0) (TL.nil _ _ _ _) (fun h=>by simp at h)).mono ?_;rintro e w3 ⟨rfl,h3,z3,r3⟩;have s3:=s2.trans z3;have HR:=hid (l2.lastS e2 r3);go_wp2;go_ret;exact⟨_,_,_,_,rfl,h3,s3,HR.out.weak (by omega) (by omega)⟩
 | false=>
 replace h2:SM V src r B _ w2 p x m:=h2;have s2:=s1.trans z2;have l2:=l0.tkF t2;have f6:=l2.le;obtain⟨ta,tc,oa,oc,c0,c1,c2,c3,c4,f2,f3,f4,ht⟩:=h2.cells
 cases x with
 | none=>
  have d3:=l2.congr (G':=fun o=>(E p o).bind fun k q o=>(a2C V q o).bind fun s q o=>lay { op:=19,name:=s,kids:=[k],pos:=V.pos p } q o) (fun o e=>by cases e);have h6:=d3.le;go_wp2_with fail;refine(hA h2 (d3.fuel hn) (by omega)).mono ?_;rintro e f7 ⟨e1,i2,i3,f8,rfl,a9,f9,e3⟩;have b4:=s2.trans f9;have h7:=e3.le;have e4:=d3.bind e3;have h8:=e4.le;go_wp2_with fail;refine(a3y hV hE a9).mono ?_;rintro e g0 ⟨g1,g3,g4,rfl,d4,g5,e5⟩;have g6:=b4.trans g5;have h9:=e5.le;have a0:=e4.bind e5;have b6:=a0.le;go_wp2_with fail;refine(a0g (d4.alloc _) (by have:=a0r (V:=V) (p:=g1) (x:=g3) (m:=f8);omega) { op:=19,name:=g4,kids:=[e1],pos:=V.pos p } _ (KS.new g0 [e1]) (fun _=>d4.outN (Nat.le_refl _))).mono ?_;rintro e d2 ⟨rfl,a5,a3,a2⟩
  replace a3:=(d4.sp.alloc _).trans a3;have a8:=g6.trans a3;have HR:=hid (a0.last a2);go_wp2;go_ret;exact⟨_,_,_,_,rfl,a5,a8,HR.out.weak (by omega) (by omega)⟩
 | some o=>
 go_wp2_with fail;refine(a4B hV hE h2).mono ?_;rintro e f7 ⟨rfl,e6⟩;have a9:=h2.below e6;have b4:=s2.below e6
 cases hnm:isNm V p with
 | false=>
  have a0:=l2.congr (G':=fun o=>(E p o).bind fun k q o=>(a2C V q o).bind fun s q o=>lay { op:=19,name:=s,kids:=[k],pos:=V.pos p } q o) (fun o _=>by simp[hnm]);have b6:=a0.le;clear hnm;go_wp2_with fail;refine(hA a9 (a0.fuel hn) (by omega)).mono ?_;rintro e d2 ⟨a6,d5,d6,b7,rfl,a5,a3,a2⟩;have a8:=b4.trans a3;have d7:=a2.le;have b0:=a0.bind a2;have d8:=b0.le;go_wp2_with fail;refine(a3y hV hE a5).mono ?_;rintro e b8 ⟨b9,c5,c6,rfl,a1,c7,b2⟩;have b3:=a8.trans c7;have d9:=b2.le;have a7:=b0.bind b2;have e0:=a7.le;go_wp2_with fail;refine(a0g (a1.alloc _) (by have:=a0r (V:=V) (p:=b9) (x:=c5) (m:=b7);omega) { op:=19,name:=c6,kids:=[a6],pos:=V.pos p } _ (KS.new b8 [a6]) (fun _=>a1.outN (Nat.le_refl _))).mono ?_;rintro e e7 ⟨rfl,c8,a4,c9⟩
  replace a4:=(a1.sp.alloc _).trans a4;have d0:=b3.trans a4;have HR:=hid (a7.last c9);go_wp2;go_ret;exact⟨_,_,_,_,rfl,c8,d0,HR.out.weak (by omega) (by omega)⟩
 | true=>
 go_wp2_with fail;refine(a2X hV a9 1 (by omega) a3R).mono ?_;rintro e wx ⟨rfl,jx⟩;replace jx:=jx.symm;subst jx
 cases b5:sees V (p+1) a3R with
 | false=>
  have a0:=l2.congr (G':=fun o=>(E p o).bind fun k q o=>(a2C V q o).bind fun s q o=>lay { op:=19,name:=s,kids:=[k],pos:=V.pos p } q o) (fun o _=>by simp[hnm,b5]);have b6:=a0.le;clear hnm b5;go_wp2_with fail;refine(hA a9 (a0.fuel hn) (by omega)).mono ?_;rintro e d2 ⟨a6,d5,d6,b7,rfl,a5,a3,a2⟩;have a8:=b4.trans a3;have d7:=a2.le;have b0:=a0.bind a2;have d8:=b0.le;go_wp2_with fail;refine(a3y hV hE a5).mono ?_;rintro e b8 ⟨b9,c5,c6,rfl,a1,c7,b2⟩;have b3:=a8.trans c7;have d9:=b2.le;have a7:=b0.bind b2;have e0:=a7.le;go_wp2_with fail;refine(a0g (a1.alloc _) (by have:=a0r (V:=V) (p:=b9) (x:=c5) (m:=b7);omega) { op:=19,name:=c6,kids:=[a6],pos:=V.pos p } _ (KS.new b8 [a6]) (fun _=>a1.outN (Nat.le_refl _))).mono ?_
  rintro e e7 ⟨rfl,c8,a4,c9⟩;replace a4:=(a1.sp.alloc _).trans a4;have d0:=b3.trans a4;have HR:=hid (a7.last c9);go_wp2;go_ret;exact⟨_,_,_,_,rfl,c8,d0,HR.out.weak (by omega) (by omega)⟩
 | true=>
 go_wp2_with fail;refine(a2X hV a9 2 (by omega) g_star).mono ?_;rintro e wx ⟨rfl,jx⟩;replace jx:=jx.symm;subst jx
 cases d1:sees V (p+2) g_star with
 | false=>
  have a0:=l2.congr (G':=fun o=>(E p o).bind fun k q o=>(a2C V q o).bind fun s q o=>lay { op:=19,name:=s,kids:=[k],pos:=V.pos p } q o) (fun o _=>by simp[hnm,b5,d1]);have b6:=a0.le;clear hnm b5 d1;go_wp2_with fail;refine(hA a9 (a0.fuel hn) (by omega)).mono ?_;rintro e d2 ⟨a6,d5,d6,b7,rfl,a5,a3,a2⟩;have a8:=b4.trans a3;have d7:=a2.le;have b0:=a0.bind a2;have d8:=b0.le;go_wp2_with fail;refine(a3y hV hE a5).mono ?_;rintro e b8 ⟨b9,c5,c6,rfl,a1,c7,b2⟩;have b3:=a8.trans c7;have d9:=b2.le;have a7:=b0.bind b2;have e0:=a7.le;go_wp2_with fail;refine(a0g (a1.alloc _) (by have:=a0r (V:=V) (p:=b9) (x:=c5) (m:=b7);omega) { op:=19,name:=c6,kids:=[a6],pos:=V.pos p } _ (KS.new b8 [a6]) (fun _=>a1.outN (Nat.le_refl _))).mono ?_
  rintro e e7 ⟨rfl,c8,a4,c9⟩;replace a4:=(a1.sp.alloc _).trans a4;have d0:=b3.trans a4;have HR:=hid (a7.last c9);go_wp2;go_ret;exact⟨_,_,_,_,rfl,c8,d0,HR.out.weak (by omega) (by omega)⟩
 | true=>
 have f5:=a0c d1;have i4:=a8t hnm;have HD:=hid (⟨hnm,b5,d1⟩:_/\_/\_);clear b5 d1 hnm;have a0:=l2.congr (G':=fun o=>lay { op:=18,qual:=V.tx p,pos:=V.pos p } (p+3) o) (fun o _=>by simp[HD.out.1,HD.out.2.1,HD.out.2.2]);have b6:=a0.le;go_wp2_with fail;refine(name_any hV hE a9).mono ?_;rintro e d2 ⟨d5,d6,a6,rfl,a5,a3,a2⟩;obtain⟨g7,g8,e8⟩:=a2.nameS HD.out.1;subst g7 g8;have hax:=hid e8;clear e8;have a8:=b4.trans a3
 have i5:(p:Int)<=2000:=by omega
 obtain⟨ta,tc,oa,oc,c0,c1,c2,c3,c4,f2,f3,f4,ht⟩:=a5.cells;have a1:=a5.at (q:=p+1+1+1) (by omega) (z:=(p:Int)+1+2) (by omega);have b3:=a8.setR (j:=2) (.int .i64 ((p:Int)+1+2)) (by decide);have a7:=(a0.step (q:=p) rfl (by omega) (A:=fun o=>lay { op:=18,qual:=V.tx p,pos:=V.pos p } (p+3) o) (fun _ _=>rfl));have g9:=(a7.step rfl (by omega) (A:=fun o=>lay { op:=18,qual:=V.tx p,pos:=V.pos p } (p+3) o) (fun _ _=>rfl));have e9:=(g9.step rfl (by omega) (A:=fun o=>lay { op:=18,qual:=V.tx p,pos:=V.pos p } (p+3) o) (fun _ _=>rfl));have i0:=e9.le;go_wp2_with fail;refine(a0g a1 (by have:=a0r (V:=V) (p:=(p+1+1+1)) (x:=(some o)) (m:=m);omega) { op:=18,qual:=a6,pos:=V.pos p } (.slice none 0 0) (TL.nil _ _ _ _) (fun h=>by simp at h)).mono ?_
 rintro e i6 ⟨rfl,f0,h0,f1⟩;have h4:=b3.trans h0;rw[hax.out] at f1 f0;have HR:=hid (e9.last f1);go_wp2;go_ret;exact⟨_,_,_,_,rfl,f0,h4,HR.out.weak (by omega) (by omega)⟩
theorem b2a {V:Env} {src:ByteArray} {n:Nat} {Q:M Int} (hV:VO V src) (hE:SV V) (hQ:0<n->a0w V src 24 240 (n-1) Q):a0w V src 156 12 n (a1x V Q):=fun {r B D w p x m} h hn hp=>by
 have hT:=hV.n;have hle:=h.le;have l0:=Lp.refl V ((a1x V Q) p) p x m;have f8:=l0.le;go_enter func156,ntmps156;go_wp2_with fail;refine(a0C hV h).mono ?_;rintro e w1 ⟨rfl,b1⟩;have h1:=h.below b1;have s1:=h.sp.below b1;go_wp2_with fail;refine(a0b hV h1 g_lp).mono ?_;rintro e w2 ⟨c2,rfl,t2,h2,z2⟩
 cases c2 with
 | false=>
  replace h2:SM V src r B _ w2 p x m:=h2;have s2:=s1.trans z2;have l2:=l0.tkF t2;have c0:=l2.le;go_wp2_with fail;refine(name_any hV hE h2).mono ?_;rintro e w3 ⟨q3,y3,a3,rfl,h3,z3,r3⟩;have s3:=s2.trans z3;have f9:=r3.le;have l3:=l2.bind r3;have g0:=l3.le;go_wp2_with fail;refine(a3y hV hE h3).mono ?_;rintro e w4 ⟨q4,y4,a4,rfl,h4,z4,r4⟩;have s4:=s3.trans z4;have g1:=r4.le;have l4:=l3.bind r4;have g3:=l4.le;go_wp2_with fail;refine(a0g h4 (by have:=a0r (V:=V) (p:=q4) (x:=y4) (m:=m);omega) { op:=31,name:=a3,qual:=a4,pos:=V.pos p } (.slice none 0 0) (TL.nil _ _ _ _) (fun h=>by simp at h)).mono ?_;rintro e w5 ⟨rfl,h5,z5,r5⟩;have s5:=s4.trans z5;have HR:=hid (l4.last r5);go_wp2;go_ret;exact⟨_,_,_,_,rfl,h5,s5,HR.out.weak (by omega) (by omega)⟩
 | true=>
 replace h2:SM V src r B _ w2 (p+1) x m:=h2;have s2:=s1.trans z2;obtain⟨o2,e2,g2,c1⟩:=t2.yes;have l2:=l0.tkT t2;have c0:=l2.le;have e7:=h2.le;have c3:a0w V src 24 240 (n-1) Q:=hQ (by have:=hn o2 e2;omega);have hps:=a0j (m:=m) e2 c1
 have a9:∀ o,x=some o->V.ts.length-(p+1)<n-1:=fun o e=>by have:=hn o e;omega
 have a0:=l2.congr (G':=fun o=>(Q (p+1) o).bind fun k q o=>(must V g_rp q o).bind fun _ q o=>(name V (q+stp (sees V q k_as)) o).bind fun s q o=>lay { op:=32,name:=s,kids:=[k],pos:=V.pos p } q o) (fun o _=>by rw[a5i,show must V g_lp p o=.ok () (p+1) o by simp[must,g2]];rfl);have e8:=a0.le;have b0:=a0.rest;have e9:=b0.le;go_wp2_with fail;refine(c3 h2 a9 (by omega)).mono ?_;rintro e g4 ⟨a1,g5,g6,c4,rfl,c5,c6,a2⟩;have c7:=s2.trans c6;have f0:=a2.le;have b2:=b0.bind a2;have f1:=b2.le;have b7:=a2.fuel a9;go_wp2_with fail;refine(a0i hV c5 g_rp).mono ?_;rintro e g7 ⟨b3,c8,rfl,c9,d0,a5⟩;have d1:=c7.trans d0;have f2:=a5.le;have b4:=b2.bind a5;have f3:=b4.le;have b8:=a5.fuel b7;go_wp2_with fail;refine(a0b hV c9 k_as).mono ?_
 rintro e g8 ⟨d2,rfl,d3,d4,d5⟩;have d6:=d1.trans d5;have b5:=b4.opt (fun b=>fun o=>(name V (b3+stp b) o).bind fun s q o=>lay { op:=32,name:=s,kids:=[a1],pos:=V.pos p } q o) d3 (fun _=>rfl);have f4:=b5.le;have b9:∀ o,c8=some o->V.ts.length-(b3+stp d2)<_:=fun o e=>Nat.lt_of_le_of_lt (by omega) (b8 o e);go_wp2_with fail;refine(name_any hV hE d4).mono ?_;rintro e d7 ⟨d8,d9,e0,rfl,a6,e1,a7⟩;have e3:=d6.trans e1;have f5:=a7.le;have b6:=b5.bind a7;have f6:=b6.le;have f7:=a7.fuel b9;go_wp2_with fail;refine(a0g (a6.alloc _) (by have:=a0r (V:=V) (p:=d8) (x:=d9) (m:=c4);omega) { op:=32,name:=e0,kids:=[a1],pos:=V.pos p } _ (KS.new d7 [a1]) (fun _=>a6.outN (Nat.le_refl _))).mono ?_;rintro e g9 ⟨rfl,e4,a8,e5⟩
 replace a8:=(a6.sp.alloc _).trans a8;have e6:=e3.trans a8;have HR:=hid (b6.last e5);replace HR:=hid (a0.lastS e2 HR.out);go_wp2;go_ret;exact⟨_,_,_,_,rfl,e4,e6,HR.out.weak (by omega) (by omega)⟩
theorem Res.same {V:Env} {s:ByteArray} {d c p m q m':Nat} {x y:Option (List Nd)} {a:Unit} {o:List Nd} (h:Res V d c (must V s p) p x m q y m' a) (e:y=some o):x=some o:=by
 obtain⟨_,o0,e0⟩:=h.ok e;have h1:=h.yes o0 e0;rw[e] at h1;unfold must rOf at h1;split at h1
 .cases h1;exact e0
 cases h1
def a8F (V:Env) (E Q:M Int) (k:Nat) (l ps j:Int):M Int:=fun q o=>(a1x V Q q o).bind fun m q o=>if j=3 then a2W V E Q k (o.length:Int) q (o++[{ op:=33,n:=j,kids:=[l,m],pos:=ps }])
      else(must V k_on q o).bind fun _ q o=>(E q o).bind fun c q o=>a2W V E Q k (o.length:Int) q (o++[{ op:=33,n:=j,kids:=[l,m,c],pos:=ps }])
theorem Lp.fromU {V:Env} {E Q:M Int} {l:Int} {k:Nat} {F:List Nd->R Int} {p:Nat} {x:Option (List Nd)} {m q:Nat} {y:Option (List Nd)} {m2 d c:Nat} (h:Lp V d c F (a2W V E Q k l q) p x m q y m2) (hk:∀ o,y=some o->V.ts.length-q<k):Lp V d c F (fun o=>if sees V q a1V then a8F V E Q (k-1) l (V.pos q) 1 (q+1) o
  else if sees V q a5n then(must V a1V (q+1) o).bind fun _ p o=>a8F V E Q (k-1) l (V.pos q) 1 p o
  else if sees V q a7m then(must V a1V (q+1+stp (sees V (q+1) a6A)) o).bind fun _ p o=>a8F V E Q (k-1) l (V.pos q) 2 p o
  else if sees V q a5o then(must V a1V (q+1) o).bind fun _ p o=>a8F V E Q (k-1) l (V.pos q) 3 p o
  else .ok l q o) p x m q y m2:=
 h.congr (fun o e=>by
 have:=hk o e;obtain⟨k',rfl⟩:∃ k',k=k'+1:=⟨k-1,by omega⟩;simp only[a2W,a6B,Nat.add_sub_cancel];by_cases h1:sees V q a1V=true
 .simp[h1,R.bind_ok,a8F]
 by_cases h2:sees V q a5n=true
 .rw[if_neg h1,if_neg h1,if_pos h2,if_pos h2,R.bind_bind];rfl
 by_cases h3:sees V q a7m=true
 .rw[if_neg h1,if_neg h1,if_neg h2,if_neg h2,if_pos h3,if_pos h3,R.bind_bind];rfl
 by_cases h4:sees V q a5o=true
 .rw[if_neg h1,if_neg h1,if_neg h2,if_neg h2,if_neg h3,if_neg h3,if_pos h4,if_pos h4,R.bind_bind];rfl
 simp[h1,h2,h3,h4,R.bind_ok])
theorem b5B {V:Env} {src:ByteArray} {n:Nat} {E Q:M Int} (hV:VO V src) (hA:a0w V src 87 10 n E) (hS:a0w V src 156 12 n (a1x V Q)):a0w V src 129 12 n (a2R V E Q):=fun {r B D w p x m} h hn hp=>by
 have hT:=hV.n;have hle:=h.le;have l0:=Lp.refl V ((a2R V E Q) p) p x m;have s6:=l0.le;go_enter func129,ntmps129;go_wp2_with fail;refine(hS h (l0.fuel hn) (by omega)).mono ?_;rintro e w1 ⟨a1,q1,y1,m1,rfl,h1,z1,r1⟩;have s1:=h.sp.trans z1;have s7:=r1.le;have l1:=l0.bind r1;have s8:=l1.le;have l9:Lp V 12 508 (a2R V E Q p) (a2W V E Q (V.ts.length+1) a1 q1) p x m q1 y1 m1:=(l1).weak (by omega) (by omega);go_wp2_with fail;go_loopw [3] (fun lv wr=>∃ (l:Int) (k q:Nat) (y:Option (List Nd)) (m1:Nat),lv=.int .i64 l/\SM V src r B D wr q y m1/\Sp 3 r w wr/\Hid (∀ o,y=some o->V.ts.length-q<k)/\Lp V 12 508 (a2R V E Q p) (a2W V E Q k l q) p x m q y m1) (fun _ wr=>V.ts.length-atN r wr)
 case atStart=>exact⟨_,_,_,_,_,rfl,h1,s1,(fun o _=>by omega:∀ o,y1=some o->V.ts.length-q1<V.ts.length+1),l9⟩
 case round=>
 obtain⟨l,k,a0,a3,a2,rfl,g3,n9,HK,o0⟩:=hrel;have k5:=g3.atN;have r3:=g3.le;have h0:=o0.fromU HK.out;have r4:=h0.le;go_wp2_with fail;refine(a0C hV g3).mono ?_;rintro e b3 ⟨rfl,k6⟩;have o4:=g3.below k6;have k7:=n9.below k6;have h2:=NV.new (b:=w.heap.size) o4 (by have:=k7.size;omega) { op:=33,n:=1,pos:=V.pos a0 };have k8:=k7.alloc (.cells (ndA { op:=33,n:=1,pos:=V.pos a0 } (.slice none 0 0)) 42);go_upto_block 2 with fail;go_cut [] (fun wx=>∃ (j:Int) (q:Nat) (y:Option (List Nd)),(j=1\/j=2\/j=3)/\NV V src r B D w.heap.size wx q y a2 b3.heap.size { op:=33,n:=j,pos:=V.pos a0 } (.slice none 0 0) []/\Sp 3 r w wx/\Lp V 12 1508 (a2R V E Q p) (a8F V E Q (k-1) l (V.pos a0) j q) p x m q y a2/\a0<q/\Hid (∀ o,y=some o->a3=some o)/\pot V q y a2+900<=pot V p x m)
 case first=>
  go_wp2_with fail;refine(a0b hV h2.pk.sm a1V).mono ?_;rintro e k9 ⟨o5,rfl,h3,b6,g4⟩
  cases o5 with
  | true=>
   replace b6:SM V src r B _ k9 (a0+1) a3 a2:=b6;have f2:=h2.step b6 g4;have g5:=k8.trans g4;obtain⟨s9,o6,t0,l6⟩:=h3.yes;have c7:=h0.tkT h3;have l7:=c7.le;have p3:=b6.le;have hps:=a0j (m:=a2) o6 l6;go_wp2;go_meet
   case rel=>exact⟨1,_,_,.inl rfl,f2,g5,(c7).weak (by omega) (by omega),by omega,(fun o e=>e:∀ o,a3=some o->a3=some o),by omega⟩
  | false=>
  replace b6:SM V src r B _ k9 a0 a3 a2:=b6;have f2:=h2.step b6 g4;have g5:=k8.trans g4;have c7:=h0.tkF h3;have l7:=c7.le;go_wp2_with fail;refine(a0b hV f2.pk.sm a5n).mono ?_;rintro e l2 ⟨o7,rfl,h4,b7,g6⟩
  cases o7 with
  | true=>
   replace b7:SM V src r B _ l2 (a0+1) a3 a2:=b7;have c8:=f2.step b7 g6;have g7:=g5.trans g6;obtain⟨t1,l3,t2,l8⟩:=h4.yes;have c9:=c7.tkT h4;have m0:=c9.le;have p4:=b7.le;have hps:=a0j (m:=a2) l3 l8;go_wp2_with fail;refine(a0i hV c8.pk.sm a1V).mono ?_;rintro e h5 ⟨t3,o8,rfl,a7,b8,g8⟩;have b4:=c8.step a7 b8;have e0:=g7.trans b8;have r5:=g8.le;have a8:=c9.pay l3 g8 (fun _=>rfl);have i6:=a8.le;have r6:=g8.up;have hyy:Hid (∀ o,o8=some o->a3=some o):=fun o e=>g8.same e;go_wp2;go_meet
   case rel=>exact⟨1,_,_,by omega,b4,e0,(a8).weak (by omega) (by omega),by omega,hyy,by omega⟩
  | false=>
  replace b7:SM V src r B _ l2 a0 a3 a2:=b7;have c8:=f2.step b7 g6;have g7:=g5.trans g6;have c9:=c7.tkF h4;have m0:=c9.le;go_wp2_with fail;refine(a0b hV c8.pk.sm a7m).mono ?_;rintro e h5 ⟨p0,rfl,h6,a7,b8⟩
  cases p0 with
  | true=>
   replace a7:SM V src r B _ h5 (a0+1) a3 a2:=a7;have b4:=c8.step a7 b8;have e0:=g7.trans b8;obtain⟨t4,l4,t5,m2⟩:=h6.yes;have a8:=c9.tkT h6;have i6:=a8.le;have p5:=a7.le;have hps:=a0j (m:=a2) l4 m2;go_wp2_with fail;refine(a0b hV b4.pk.sm a6A).mono ?_;rintro e h7 ⟨h8,rfl,f3,a9,b9⟩;have c0:=b4.step a9 b9;have f4:=e0.trans b9;have b5:=a8.opt (fun b=>fun o=>(must V a1V ((a0+1)+stp b) o).bind fun _ p o=>a8F V E Q (k-1) l (V.pos a0) 2 p o) f3 (fun _=>rfl);have i7:=b5.le;have hpm:=b4W (V:=V) (x:=a3) (m:=a2) (show(a0+1)<=((a0+1)+stp h8) from Nat.le_add_right _ _);go_wp2_with fail;refine(a0i hV c0.pk.sm a1V).mono ?_;rintro e p1 ⟨p2,h9,rfl,i0,f5,b0⟩;have b1:=c0.step i0 f5;have i1:=f4.trans f5;have m3:=b0.le
   have f6:=b5.pay l4 b0 (fun _=>rfl);have m4:=f6.le;obtain⟨d0,d1,d2,d3,d4,d5,d6,d7,d8,d9⟩:=b1.cells;have dz:=b1.fz;go_wp2_with fail;clear d0 d1 d2 d3 d4 d5 d6 d7 d8 d9 dz;have i2:=b1.set 3 (.int .i64 2) { op:=33,n:=2,pos:=V.pos a0 } rfl;have i3:=i1.set (j:=3) (.int .i64 2) b1.lo;have m5:=b0.up;have hyy:Hid (∀ o,h9=some o->a3=some o):=fun o e=>b0.same e;go_wp2;go_meet
   case rel=>exact⟨2,_,_,by omega,i2,i3,(f6).weak (by omega) (by omega),by omega,hyy,by omega⟩
  | false=>
  replace a7:SM V src r B _ h5 a0 a3 a2:=a7;have b4:=c8.step a7 b8;have e0:=g7.trans b8;have a8:=c9.tkF h6;have i6:=a8.le;go_wp2_with fail;refine(a0b hV b4.pk.sm a5o).mono ?_;rintro e h7 ⟨h8,rfl,f3,a9,b9⟩
  cases h8 with
  | false=>
   replace a9:SM V src r B _ h7 a0 a3 a2:=a9;have c0:=b4.step a9 b9;have f4:=e0.trans b9;have b5:=a8.tkF f3;have i7:=b5.le;have HR:=hid (b5.done (a:=l) (fun _ _=>rfl));go_wp2;go_ret;exact⟨_,_,_,_,rfl,c0.pk.out,f4,HR.out.weak (by omega) (by omega)⟩
  | true=>
  replace a9:SM V src r B _ h7 (a0+1) a3 a2:=a9;have c0:=b4.step a9 b9;have f4:=e0.trans b9;obtain⟨t6,l5,t7,m6⟩:=f3.yes;have b5:=a8.tkT f3;have i7:=b5.le;have p6:=a9.le;have hps:=a0j (m:=a2) l5 m6;go_wp2_with fail;refine(a0i hV c0.pk.sm a1V).mono ?_;rintro e p1 ⟨p2,h9,rfl,i0,f5,b0⟩;have b1:=c0.step i0 f5;have i1:=f4.trans f5;have m3:=b0.le;have f6:=b5.pay l5 b0 (fun _=>rfl);have m4:=f6.le;obtain⟨d0,d1,d2,d3,d4,d5,d6,d7,d8,d9⟩:=b1.cells;have dz:=b1.fz;go_wp2_with fail;clear d0 d1 d2 d3 d4 d5 d6 d7 d8 d9 dz;have i2:=b1.set 3 (.int .i64 3) { op:=33,n:=3,pos:=V.pos a0 } rfl;have i3:=i1.set (j:=3) (.int .i64 3) b1.lo;have m5:=b0.up;have hyy:Hid (∀ o,h9=some o->a3=some o):=fun o e=>b0.same e;go_wp2;go_meet
  case rel=>exact⟨3,_,_,by omega,i2,i3,(f6).weak (by omega) (by omega),by omega,hyy,by omega⟩
 case rest=>
 rename World=>w224;obtain⟨j,r7,r8,hj,i8,m7,e4,hlt,HY,hpq⟩:=hcut;have hnr:=e4.fuel hn;have i9:=e4.rest;have p7:=i9.le;go_wp2_with fail;refine(hS i8.pk.sm hnr (by omega)).mono ?_;rintro e c1 ⟨a5,e5,j0,m8,rfl,m9,j1,b2⟩;have a6:=i8.step m9 j1;have n0:=m7.trans j1;have p8:=b2.le;have f8:=i9.bind b2;have p9:=f8.le;have g9:=b2.fuel hnr;have t8:=a6.pk.sm.atN;have t9:=b2.up;have r9:=a6.pk.sm.le;obtain⟨d0,d1,d2,d3,d4,d5,d6,d7,d8,d9⟩:=a6.cells;have dz:=a6.fz;have dnb:=a6.nb.1;have ez:∀ o,(c1.alloc o).frozen? ⟨b3.heap.size,8,none⟩=false:=fun o=>((below_alloc _ o).frozen (p:=⟨b3.heap.size,8,none⟩) dnb).trans (dz 8)
 have e8:∀ o,(c1.alloc o).cell? ⟨b3.heap.size,8,none⟩=some (.slice none 0 0):=fun o=>((below_alloc _ o).cell (p:=⟨b3.heap.size,8,none⟩) dnb).trans d8;have e3:∀ o,(c1.alloc o).cell? ⟨b3.heap.size,3,none⟩=some (.int .i64 j):=fun o=>((below_alloc _ o).cell (p:=⟨b3.heap.size,3,none⟩) dnb).trans d3;have c2:=a6.kidsL [l,a5] (by simp);have j2:=(n0.set (j:=8) (.slice (some ⟨c1.heap.size,0,none⟩) 2 2) a6.lo).alloc (.cells #[.int .i64 l,.int .i64 a5] 3);by_cases i4:j=3
 .subst i4;clear hj;have c3:=f8.congr (G':=fun o=>(lay { op:=33,n:=3,kids:=[l,a5],pos:=V.pos a0 } e5 o).bind fun b q o=>a2W V E Q (k-1) b q o) (fun o _=>rfl);have k0:=c3.le;go_wp2_with fail;refine(a0g c2.pk.out (by have:=a0r (V:=V) (p:=e5) (x:=j0) (m:=m8);omega) { op:=33,n:=3,kids:=[l,a5],pos:=V.pos a0 } _ c2.pk.kids (fun _=>c2.pk.far (fun g hg=>h.dl g hg))).mono ?_;rintro e n1 ⟨rfl,c4,e6,a4⟩;have f9:=j2.trans e6;have k1:=a4.le;have c5:=c3.bind a4;have k2:=c5.le;have f1:=a4.fuel g9
  have hcc:Hid (∀ o,(Option.map (·++[{ op:=33,n:=3,kids:=[l,a5],pos:=V.pos a0 }]) (j0))=some o->V.ts.length-e5<k-1):=fun o e=>by
   obtain⟨_,o1,e1⟩:=a4.ok e;obtain⟨_,o9,e9⟩:=b2.ok e1;have:=HK.out _ (HY.out _ e9);omega
  have hx:=c4.atN;have hlx:=c4.le;have i5:=(e4.over hpq c5 (by omega)).weak (d':=12) (c':=508) (by omega) (by omega);go_wp2;go_roundw
  case rel=>exact⟨_,_,_,_,_,rfl,c4,f9,hcc,i5⟩
  case measure=>rw[k5,hx];omega
 have u0:(j != 3)=true:=by simpa using i4
 clear hj d0 d1 d2 d4 d5 d6 d7 d8 d9;have c3:=f8.congr (G':=fun o=>(must V k_on e5 o).bind fun _ q o=>(E q o).bind fun c q o=>(lay { op:=33,n:=j,kids:=[l,a5,c],pos:=V.pos a0 } q o).bind fun b q o=>a2W V E Q (k-1) b q o) (fun o _=>by rw[if_neg i4];rfl);have k0:=c3.le;go_wp2_with fail;refine(a0i hV c2.pk.sm k_on).mono ?_;rintro e n1 ⟨s0,s2,rfl,c4,e6,a4⟩;have j3:=c2.step c4 e6;have f9:=j2.trans e6;have k1:=a4.le;have c5:=c3.bind a4;have k2:=c5.le;have f1:=a4.fuel g9;clear e3 e8 ez d3 dz dnb;go_wp2;refine a0a (S:=(fun W=>W.cell? ⟨b3.heap.size,8,none⟩=some (.slice (some ⟨c1.heap.size,0,none⟩) 2 2))) (late:=[6,7]) (by kernel_rfl) (by first | exact j3.cells.2.2.2.2.2.2.2.2.1 | go_keep) (fun hHeld=>?_);refine tT 0 rfl hHeld ?_
 try simp only[Act.put,q1,q2,q3]
 refine tL 1 rfl hHeld ?_
 try simp only[Act.put,q1,q2,q3]
 refine tT 2 rfl hHeld ?_
 try simp only[Act.put,q1,q2,q3]
 refine rE 3 rfl fun K hK=>?_;go_simp;have j4:=j3.below ((Below.refl _ _).drew);refine(hA j4.pk.sm f1 (by omega)).mono ?_;rintro e s3 ⟨g0,j5,j6,n2,rfl,n3,j7,c6⟩;have g1:=j4.step n3 j7;have n4:=f9.drew.trans j7;have q0:=c6.le;have j8:=c5.bind c6;have q4:=j8.le;have k3:=c6.fuel f1;obtain⟨q5,q6,q7,s4,f7,e7,n5,k4,q8⟩:=g1.kid g0 (by first | (simp;done) | (simp;omega) | omega);refine hK _ _ ⟨g1.cells.2.2.2.2.2.2.2.2.1,?_⟩;clear hK K
 try simp only[Act.put,q1,q2,q3]
 refine rE 4 rfl fun K hK=>?_;go_simp;refine hK _ _ ⟨(g1.below (below_alloc _ _)).cells.2.2.2.2.2.2.2.2.1,?_⟩;clear hK K
 try simp only[Act.put,q1,q2,q3]
 refine rE 5 rfl fun K hK=>?_;refine a0e rfl (.tmp 46) (.tmp 49) 37 rfl _ _ rfl rfl _ _ f7 ?_;refine hK _ _ ⟨k4,?_⟩;clear hK K f7
 try simp only[Act.put,q1,q2,q3]
 refine rL 6 rfl fun K hK=>?_;go_simp;refine hK _ _ ?_;clear hK K
 try simp only[Act.put,q1,q2,q3]
 refine rL 7 rfl fun K hK=>?_;go_simp;refine hK _ _ ?_;clear hK K
 try simp only[Act.put,q1,q2,q3]
 refine a0h (by kernel_rfl) ?_ _;have n6:=n5 w n4 (by first | exact Nat.le_refl _ | omega);have u1:=a4.up;have u2:=c6.up;obtain⟨x0,x1,x2,x3,x4,x5,x6,x7,x8,x9⟩:=e7.cells;go_wp2_with fail;refine(a0g e7.pk.out (by have:=a0r (V:=V) (p:=j5) (x:=j6) (m:=n2);omega) { op:=33,n:=j,kids:=[l,a5]++[g0],pos:=V.pos a0 } _ e7.pk.kids (fun _=>e7.pk.far (fun g hg=>h.dl g hg))).mono ?_;rintro e s5 ⟨rfl,g2,n7,f0⟩;have n8:=n6.trans n7;have q9:=f0.le;have j9:=j8.bind f0;have r0:=j9.le;have r2:=f0.fuel k3
 have hcc:Hid (∀ o,(Option.map (·++[{ op:=33,n:=j,kids:=[l,a5]++[g0],pos:=V.pos a0 }]) (j6))=some o->V.ts.length-j5<k-1):=fun o e=>by
  obtain⟨_,o1,e1⟩:=f0.ok e;obtain⟨_,o2,e2⟩:=c6.ok e1;obtain⟨_,o3,e3⟩:=a4.ok e2;obtain⟨_,o9,e9⟩:=b2.ok e3;have:=HK.out _ (HY.out _ e9);omega
 have hx:=g2.atN;have hlx:=g2.le;have i5:=(e4.over hpq j9 (by omega)).weak (d':=12) (c':=508) (by omega) (by omega);go_wp2;go_roundw
 case rel=>exact⟨_,_,_,_,_,rfl,g2,n8,hcc,i5⟩
 case measure=>rw[k5,hx];omega
theorem a3d {β:Type} (V:Env) (f:M Int) (K:List Int->Nat->List Nd->R β) (p:Nat) (o:List Nd):(a1E V f p o).bind K=(must V g_lp p o).bind fun _ p o=>(a0F V f p o).bind fun k p o=>(must V g_rp p o).bind fun _ p o=>K k p o:=by
 unfold a1E;rw[R.bind_bind];congr 1;funext _ p o;rw[R.bind_bind];congr 1;funext _ p o;rw[R.bind_bind];congr 1
theorem a7I {V:Env} {src:ByteArray} {n:Nat} {E:M Int} (hV:VO V src) (hA:a0w V src 87 10 n E):a0w V src 86 12 n (a1y V E):=fun {r B D w p x m} h hn hp=>by
 have hT:=hV.n;have hle:=h.le;have l0:=Lp.refl V ((a1y V E) p) p x m;have a2:=l0.le;go_enter func86,ntmps86;go_wp2_with fail;refine(a0C hV h).mono ?_;rintro e w1 ⟨rfl,b1⟩;have h1:=h.below b1;have s1:=h.sp.below b1;go_wp2_with fail;refine(a0b hV h1 a2h).mono ?_;rintro e w2 ⟨c2,rfl,t2,h2,z2⟩
 cases c2 with
 | false=>
  replace h2:SM V src r B _ w2 p x m:=h2;have s2:=s1.trans z2;have l2:=l0.tkF t2;have a0:=l2.le;go_wp2_with fail;refine(hA h2 (l2.fuel hn) (by omega)).mono ?_;rintro e w3 ⟨a3,q3,y3,m3,rfl,h3,z3,r3⟩;have s3:=s2.trans z3;have HR:=hid (l2.last r3);go_wp2;go_ret;exact⟨_,_,_,_,rfl,h3,s3,HR.out.weak (by omega) (by omega)⟩
 | true=>
 replace h2:SM V src r B _ w2 (p+1) x m:=h2;have s2:=s1.trans z2;obtain⟨o2,e2,g2,a4⟩:=t2.yes;have l2:=l0.tkT t2;have a0:=l2.le;have a1:=h2.le;go_wp2_with fail;refine(a0g h2 (by have:=a0r (V:=V) (p:=(p+1)) (x:=x) (m:=m);omega) { op:=45,pos:=V.pos p } (.slice none 0 0) (TL.nil _ _ _ _) (fun h=>by simp at h)).mono ?_;rintro e w3 ⟨rfl,h3,z3,r3⟩;have s3:=s2.trans z3;have HR:=hid (l2.lastS e2 r3);go_wp2;go_ret;exact⟨_,_,_,_,rfl,h3,s3,HR.out.weak (by omega) (by omega)⟩
theorem check_any {V:Env} {src:ByteArray} {n:Nat} {E:M Int} (hV:VO V src) (hA:a0w V src 87 10 n E) {r B:Nat} {D:Nat->Prop} {w:World} {p:Nat} {x:Option (List Nd)} {m:Nat} (ps:Int) (h:SM V src r B D w p x m) (hn:∀ o,x=some o->V.ts.length-p<n) (hp:pot V p x m+12<=4000000) :
 Calls prog 125 #[.pointer (some ⟨r,0,none⟩),.int .i64 ps] w fun e w'=>a3h V src r B D 12 (a3r V E ps p) w p x m e w':=by
 have hT:=hV.n;have hle:=h.le;have l0:=Lp.refl V (a3r V E ps p) p x m;have a0:=l0.le;go_enter func125,ntmps125;have l1:=l0.congr (G':=fun o=>(must V g_lp p o).bind fun _ p o=>(E p o).bind fun k p o=>(must V g_rp p o).bind fun _ p o=>lay { op:=52,kids:=[k],pos:=ps } p o) (fun o _=>a5i V E _ p o);have a1:=l1.le;go_wp2_with fail;refine(a0i hV h g_lp).mono ?_;rintro e w2 ⟨q2,y2,rfl,h2,z2,r2⟩;have s2:=h.sp.trans z2;have a2:=r2.le;have l2:=l1.bind r2;have a4:=l2.le;go_wp2_with fail;refine(hA h2 (l2.fuel hn) (by omega)).mono ?_;rintro e w3 ⟨a3,q3,y3,m3,rfl,h3,z3,r3⟩;have s3:=s2.trans z3;have a5:=r3.le;have l3:=l2.bind r3;have a6:=l3.le;go_wp2_with fail;refine(a0i hV h3 g_rp).mono ?_;rintro e w4 ⟨q4,y4,rfl,h4,z4,r4⟩;have s4:=s3.trans z4;have a7:=r4.le;have l4:=l3.bind r4;have a8:=l4.le
 go_wp2_with fail;refine(a0g (h4.alloc _) (by have:=a0r (V:=V) (p:=q4) (x:=y4) (m:=m3);omega) { op:=52,kids:=[a3],pos:=ps } _ (KS.new w4 [a3]) (fun _=>h4.outN (Nat.le_refl _))).mono ?_;rintro e w5 ⟨rfl,h5,z5,r5⟩;replace z5:=(h4.sp.alloc _).trans z5;have s5:=s4.trans z5;have HR:=hid (l4.last r5);go_wp2;go_ret;exact⟨_,_,_,_,rfl,h5,s5,HR.out.weak (by omega) (by omega)⟩
theorem a7J {V:Env} {src:ByteArray} {n:Nat} (hV:VO V src) (hE:SV V) {r B:Nat} {D:Nat->Prop} {w:World} {p:Nat} {x:Option (List Nd)} {m:Nat} (op ps:Int) (h:SM V src r B D w p x m) (hn:∀ o,x=some o->V.ts.length-p<n) (hp:pot V p x m+12<=4000000) :
 Calls prog 124 #[.pointer (some ⟨r,0,none⟩),.int .i64 op,.int .i64 ps] w fun e w'=>a3h V src r B D 12 (a4O V op ps p) w p x m e w':=by
 have hT:=hV.n;have hle:=h.le;have l0:=Lp.refl V (a4O V op ps p) p x m;have a0:=l0.le;go_enter func124,ntmps124;have l1:=l0.congr (G':=fun o=>(must V g_lp p o).bind fun _ p o=>(a0F V (a0R V) p o).bind fun k p o=>(must V g_rp p o).bind fun _ p o=>lay { op:=op,kids:=k,pos:=ps } p o) (fun o _=>a3d V (a0R V) _ p o);have a1:=l1.le;go_wp2_with fail;refine(a0i hV h g_lp).mono ?_;rintro e w2 ⟨q2,y2,rfl,h2,z2,r2⟩;have s2:=h.sp.trans z2;have a2:=r2.le;have l2:=l1.bind r2;have a3:=l2.le;go_wp2_with fail;refine(a5t hV hE h2 (by omega)).mono ?_;rintro e w3 ⟨v3,k3,q3,y3,m3,rfl,f3,z3,r3,a4⟩;obtain⟨a5,a6,rfl⟩:=a2c f3.row;have h3:=f3.sm;have s3:=s2.trans z3;have a7:=r3.le;have l3:=l2.bind r3;have a8:=l3.le;go_wp2_with fail;refine(a0i hV f3.sm g_rp).mono ?_
 rintro e w4 ⟨q4,y4,rfl,h4,z4,r4⟩;have f4:=f3.step h4 z4;have s4:=s3.trans z4;have a9:=r4.le;have l4:=l3.bind r4;have b0:=l4.le;go_wp2_with fail;refine(a0g f4.out (by have:=a0r (V:=V) (p:=q4) (x:=y4) (m:=m3);omega) { op:=op,kids:=k3,pos:=ps } _ f4.kids (fun _=>f4.far (fun g hg=>h2.dl g hg))).mono ?_;rintro e w5 ⟨rfl,h5,z5,r5⟩;have s5:=s4.trans z5;have HR:=hid (l4.last r5);go_wp2;go_ret;exact⟨_,_,_,_,rfl,h5,s5,HR.out.weak (by omega) (by omega)⟩
end Go.Proofs.YtphmpkpcamgjeaaGreatDoor
