import Derived.Test.YtphmpkpcamgjeaaGreatDoorXAA
import Derived.Test.YtphmpkpcamgjeaaGreatDoorXBH
import Derived.Test.YtphmpkpcamgjeaaGreatDoorXBR
import Derived.Test.YtphmpkpcamgjeaaGreatDoorXAS
set_option linter.unusedVariables false
set_option linter.unusedSimpArgs false
set_option maxRecDepth 100000
set_option maxHeartbeats 16000000
namespace Go.Proofs.YtphmpkpcamgjeaaGreatDoor
open Go.ChangeShapes Go.WideShapes Go.ChangeAt Go.RowKit Go.Proofs.Tryz
structure NF (V:Env) (src:ByteArray) (r B:Nat) (D:Nat->Prop) (b:Nat) (w:World) (p:Nat) (x:Option (List Nd)) (m g:Nat) (t:Nd) (v:Value) (ks:List Int) (gf:Nat) (fa fb fc:Int):Prop where
  nv:NV V src r B (fun c=>D c\/c=gf) b w p x m g t v ks
  fl:w.heap[gf]?=some (.cells #[.int .i64 fa,.int .i64 fb,.int .i64 fc] 3 (0,0))
  ne:v.ownBlock≠some gf
  bf:b<=gf
section
variable {V : Env} {src : ByteArray} {r B : Nat} {D : Nat -> Prop} {b : Nat} {w : World} {p : Nat} {x : Option (List Nd)} {m g : Nat} {t : Nd} {v : Value} {ks : List Int} {gf : Nat} {fa fb fc : Int}
theorem NF.pk (h:NF V src r B D b w p x m g t v ks gf fa fb fc):PK V src r B (fun c=>D c\/c=gf) b w p x m v ks:=h.nv.pk
theorem NF.nb (h:NF V src r B D b w p x m g t v ks gf fa fb fc):NB 3 r w g:=h.nv.nb
theorem NF.lo (h:NF V src r B D b w p x m g t v ks gf fa fb fc):b<=g:=h.nv.lo
theorem NF.cells (h:NF V src r B D b w p x m g t v ks gf fa fb fc):w.cell? ⟨g,0,none⟩=some (.int .i64 t.op)/\w.cell? ⟨g,1,none⟩=some (.string t.name)/\w.cell? ⟨g,2,none⟩=some (.string t.qual)/\w.cell? ⟨g,3,none⟩=some (.int .i64 t.n)/\w.cell? ⟨g,4,none⟩=some (.int .i64 t.m)/\w.cell? ⟨g,5,none⟩=some (.int .i64 t.vk)/\w.cell? ⟨g,6,none⟩=some (.int .i64 t.vn)/\w.cell? ⟨g,7,none⟩=some (.string t.vs)/\w.cell? ⟨g,8,none⟩=some v/\w.cell? ⟨g,9,none⟩=some (.int .i64 t.pos):=h.nv.cells
theorem NF.fz (h:NF V src r B D b w p x m g t v ks gf fa fb fc) (j:Nat):w.frozen? ⟨g,j,none⟩=false:=h.nv.fz j
theorem NF.ft (h:NF V src r B D b w p x m g t v ks gf fa fb fc):tag w gf 3:=⟨_,_,h.fl⟩
theorem NF.flags (h:NF V src r B D b w p x m g t v ks gf fa fb fc):w.cell? ⟨gf,0,none⟩=some (.int .i64 fa)/\w.cell? ⟨gf,1,none⟩=some (.int .i64 fb)/\w.cell? ⟨gf,2,none⟩=some (.int .i64 fc):=⟨(cell_of h.fl).1,(cell_of h.fl).1,(cell_of h.fl).1⟩
theorem NF.ffz (h:NF V src r B D b w p x m g t v ks gf fa fb fc) (j:Nat):w.frozen? ⟨gf,j,none⟩=false:=(cell_of h.fl).2
theorem NF.step (h:NF V src r B D b w p x m g t v ks gf fa fb fc) {w':World} {q:Nat} {y:Option (List Nd)} {m':Nat} (s:SM V src r B (fun g=>(D g\/g=gf)\/v.ownBlock=some g) w' q y m') (f:Sp 3 r w w'):NF V src r B D b w' q y m' g t v ks gf fa fb fc:=
  ⟨h.nv.step s f,((h.pk.sm.nb h.ft (by decide) (by decide)).heap f).trans h.fl,h.ne,h.bf⟩
theorem NF.below (h:NF V src r B D b w p x m g t v ks gf fa fb fc) {w':World} (hb:Below w.heap.size w w'):NF V src r B D b w' p x m g t v ks gf fa fb fc:=h.step (h.pk.sm.below hb) (h.pk.sm.sp.below hb)
theorem NF.new (h:NV V src r B D b w p x m g t (.slice none 0 0) []):NF V src r B D b (w.alloc (.cells #[.int .i64 0,.int .i64 0,.int .i64 0] 3)) p x m g t (.slice none 0 0) [] w.heap.size 0 0 0:=
  have hb:=below_alloc w (.cells #[.int .i64 0,.int .i64 0,.int .i64 0] 3)
 ⟨⟨PK.nil (h.pk.out.belowD (fun c hc=>by
 rcases hc with z | z
 .have:=h.pk.out.dl c z;simp;omega
 .simp;omega) (fun c a0 hc=>by
 rcases hc with z | z
 .exact z
 omega) hb) (by have:=h.pk.bl;simp;omega),(hb.block g h.nb.1).trans h.cell,h.nb.sp (h.pk.sm.sp.alloc _),h.lo⟩,heap_alloc_new _ _,by simp[Value.ownBlock],h.pk.bl⟩
theorem NF.set (h:NF V src r B D b w p x m g t v ks gf fa fb fc) (j:Nat) (u:Value) (t':Nd) (he:(ndA t v).setIfInBounds j u=ndA t' v):NF V src r B D b (w.setCell ⟨g,j,none⟩ u) p x m g t' v ks gf fa fb fc:=
  ⟨h.nv.set j u t' he,(heap_setCell_other w _ gf u (a0t h.ft h.nv.tg (by decide))).trans h.fl,h.ne,h.bf⟩
theorem NF.flag (h:NF V src r B D b w p x m g t v ks gf fa fb fc) (j:Nat) {fa' fb' fc':Int} (he:(#[.int .i64 fa,.int .i64 fb,.int .i64 fc]:Array Value).setIfInBounds j (.int .i64 1)=#[.int .i64 fa',.int .i64 fb',.int .i64 fc']):NF V src r B D b (w.setCell ⟨gf,j,none⟩ (.int .i64 1)) p x m g t v ks gf fa' fb' fc':=
  have hk:∀ c,c≠gf->(w.setCell ⟨gf,j,none⟩ (.int .i64 1)).heap[c]?=w.heap[c]?:=fun c hc=>heap_setCell_other w _ c _ hc
  have hn:=h.pk.sm.nb h.ft (by decide) (by decide)
  have hr:(w.setCell ⟨gf,j,none⟩ (.int .i64 1)).heap[r]?=w.heap[r]?:=hk r (fun e=>hn.2.1 e.symm)
  have hsz:(w.setCell ⟨gf,j,none⟩ (.int .i64 1)).heap.size=w.heap.size:=by simp
  have hg:(w.setCell ⟨gf,j,none⟩ (.int .i64 1)).heap[g]?=w.heap[g]?:=hk g (a0t h.nv.tg h.ft (by decide))
  ⟨⟨⟨h.pk.sm.keep (Nat.le_of_eq hsz.symm) hr (fun c hc=>hk c (fun e=>hn.2.2 (by rw[hc,e]))) (fun c hc=>hk c (a0t hc h.ft (by decide))) (fun c _ hd=>hk c (fun e=>hd (.inl (.inr e)))),a0L h.pk.row (fun c hc=>hk c (fun e=>h.ne (by rw[hc,e]))),by have:=h.pk.bl;omega⟩,hg.trans h.nv.cell,⟨by have:=h.nb.1;omega,h.nb.2.1,fun e=>h.nb.2.2 (by rw[<- a3w hr];exact e)⟩,h.lo⟩,by rw[heap_setCell_same w gf j _ _ _ h.fl,he],h.ne,h.bf⟩
theorem NF.kid (h:NF V src r B D b w p x m g t v ks gf fa fb fc) (k:Int) (hl:ks.length<=100000) :
 ∃ na nl nc w',(Builtin.append_ #[37,37] 37 #[v,.slice (some ⟨w.heap.size,0,none⟩) 1 1]).run prog (w.alloc (.cells #[.int .i64 k] 3))=.ok (.slice na nl nc) w'/\NF V src r B D b (w'.setCell ⟨g,8,none⟩ (.slice na nl nc)) p x m g t (.slice na nl nc) (ks++[k]) gf fa fb fc/\(∀ w0,Sp 3 r w0 w->w0.heap.size<=b->Sp 3 r w0 (w'.setCell ⟨g,8,none⟩ (.slice na nl nc)))/\w'.cell? ⟨g,8,none⟩=some v/\w'.frozen? ⟨g,8,none⟩=false:=by
 obtain⟨v',w',h1,h2,h3,h4,h5⟩:=a5r h.pk k hl;obtain⟨na,nc,e⟩:=a2c h2.row;subst e;have hgl:=h.nb.1;have hfl:=a0x h.ft;have e1:w'.heap[g]?=w.heap[g]?:=(h4.block g (by simp;omega) (fun e=>a0t h.nv.tg (a0n h.pk.row e.symm) (by decide) rfl)).trans ((below_alloc w _).block g hgl);have hrl:=h.pk.sm.rl;have e2:w'.heap[r]?=(w.alloc (.cells #[.int .i64 k] 3)).heap[r]?:=h4.block r (by simp;omega) (fun e=>a0t h.pk.sm.rt (a0n h.pk.row e.symm) (by decide) rfl);have e3:w'.heap[gf]?=w.heap[gf]?:=(h4.block gf (by simp;omega) (fun e=>h.ne e.symm)).trans ((below_alloc w _).block gf hfl);have a0:w'.heap[g]?=some (.cells (ndA t v) 42 (0,0)):=e1.trans h.nv.cell
 refine⟨na,_,nc,w',h1,⟨h.nv.push (below_alloc _ _) h2 h4 (.inr trivial) (a3w e2),?_,?_,h.bf⟩,fun w0 s a1=>(h3 w0 s a1).set _ (Nat.le_trans a1 h.lo),(cell_of a0).1,(cell_of a0).2⟩
 .rw[heap_setCell_other w' _ gf _ (a0t h.ft h.nv.tg (by decide))];exact e3.trans h.fl
 intro e;rcases h5 with z | z
 .exact h.ne (z.symm.trans e)
 rw[e] at z
 have:gf=w.heap.size+1:=by simpa using z
 omega
theorem NF.outD (h:NF V src r B D b w p x m g t v ks gf fa fb fc):SM V src r B D w p x m:=h.pk.out.sub (fun g hg=>.inl hg)
theorem NF.far (h:NF V src r B D b w p x m g t v ks gf fa fb fc) (hd:∀ g,D g->g<b):Out D v:=fun g hg a0=>by
 have:=a2Y h.pk.row hg;have:=hd g a0;omega
end
theorem Lp.colU {V:Env} {E G:M Int} {s:ByteArray} {kd ps:Int} {k:Nat} {fa fb fc:Bool} {ks:List Int} {F:List Nd->R Int} {p:Nat} {x:Option (List Nd)} {m q:Nat} {y:Option (List Nd)} {m2 d c:Nat} (h:Lp V d c F (colL V E G s kd ps k fa fb fc ks q) p x m q y m2) (hk:∀ o,y=some o->V.ts.length-q<k):Lp V d c F (fun o=>
    if sees V q a1t then(must V a1h (q+1) o).bind fun _ t o=>colL V E G s kd ps (k-1) true fb fc ks t o
    else if sees V q a2i then(must V a7o (q+1) o).bind fun _ t o=>colL V E G s kd ps (k-1) fa true fc ks t o
    else if sees V q a0W then colL V E G s kd ps (k-1) fa fb true ks (q+1) o
    else if sees V q a2h then(G (q+1) o).bind fun a t o=>(lay { op:=51,kids:=[a],pos:=V.pos q } t o).bind fun a t o=>colL V E G s kd ps (k-1) fa fb fc (ks++[a]) t o
    else if sees V q a1D then(a3r V E (V.pos q) (q+1) o).bind fun a t o=>colL V E G s kd ps (k-1) fa fb fc (ks++[a]) t o
    else lay { op:=50,name:=s,n:=kd,m:=bit fa+2*bit fb+4*bit fc,kids:=ks,pos:=ps } q o) p x m q y m2:=
 h.congr (fun o e=>by
 have:=hk o e;obtain⟨k',rfl⟩:∃ k',k=k'+1:=⟨k-1,by omega⟩;simp only[colL,Nat.add_sub_cancel];rfl)
theorem a8E {V:Env} {src:ByteArray} {n:Nat} {E G:M Int} (hV:VO V src) (hE:SV V) (hA:a0w V src 87 10 n E) (hG:a0w V src 127 10 n G):a0w V src 88 20 n (a2u V E G):=fun {r B D w p x m} h hn hp=>by
 have hT:=hV.n;have hle:=h.le;have l0:=Lp.refl V ((a2u V E G) p) p x m;have x6:=l0.le;go_enter func88,ntmps88;go_wp2_with fail;refine(a0C hV h).mono ?_;rintro e w1 ⟨rfl,b1⟩;have h1:=h.below b1;have s1:=h.sp.below b1;go_wp2_with fail;refine(a0b hV h1 a2i).mono ?_;rintro e w2 ⟨c2,rfl,t2,h2,z2⟩
 cases c2 with
 | true=>
  replace h2:SM V src r B _ w2 (p+1) x m:=h2;have s2:=s1.trans z2;obtain⟨o2,e2,g2,x7⟩:=t2.yes;have l2:=l0.tkT t2;have p8:=l2.le;have w0:=h2.le;go_wp2_with fail;refine(a0i hV h2 a7o).mono ?_;rintro e w3 ⟨q3,y3,rfl,h3,z3,r3⟩;have s3:=s2.trans z3;have x8:=r3.le;have l3:=l2.pay e2 r3 (fun _=>rfl);have l9:=l3.le;go_wp2_with fail;refine(a7J (n:=n) hV hE 53 (V.pos p) h3 (l3.fuel hn) (by omega)).mono ?_;rintro e w4 ⟨a4,q4,y4,m4,rfl,h4,z4,r4⟩;have s4:=s3.trans z4;have HR:=hid (l3.last r4);go_wp2;go_ret;exact⟨_,_,_,_,rfl,h4,s4,HR.out.weak (by omega) (by omega)⟩
 | false=>
 replace h2:SM V src r B _ w2 p x m:=h2;have s2:=s1.trans z2;have l2:=l0.tkF t2;have p8:=l2.le;go_wp2_with fail;refine(a0b hV h2 a0W).mono ?_;rintro e w3 ⟨c3,rfl,t3,h3,z3⟩
 cases c3 with
 | true=>
  replace h3:SM V src r B _ w3 (p+1) x m:=h3;have s3:=s2.trans z3;obtain⟨o3,e3,g3,x9⟩:=t3.yes;have l3:=l2.tkT t3;have l9:=l3.le;have w7:=h3.le;go_wp2_with fail;refine(a7J (n:=n) hV hE 54 (V.pos p) h3 (l3.fuel hn) (by omega)).mono ?_;rintro e w4 ⟨a4,q4,y4,m4,rfl,h4,z4,r4⟩;have s4:=s3.trans z4;have HR:=hid (l3.lastS e3 r4);go_wp2;go_ret;exact⟨_,_,_,_,rfl,h4,s4,HR.out.weak (by omega) (by omega)⟩
 | false=>
 replace h3:SM V src r B _ w3 p x m:=h3;have s3:=s2.trans z3;have l3:=l2.tkF t3;have l9:=l3.le;go_wp2_with fail;refine(a0b hV h3 a1D).mono ?_;rintro e w4 ⟨c4,rfl,t4,h4,z4⟩
 cases c4 with
 | true=>
  replace h4:SM V src r B _ w4 (p+1) x m:=h4;have s4:=s3.trans z4;obtain⟨o4,e4,g4,y0⟩:=t4.yes;have l4:=l3.tkT t4;have p9:=l4.le;have w9:=h4.le;go_wp2_with fail;refine(check_any hV hA (V.pos p) h4 (l4.fuel hn) (by omega)).mono ?_;rintro e w5 ⟨a5,q5,y5,m5,rfl,h5,z5,r5⟩;have s5:=s4.trans z5;have HR:=hid (l4.lastS e4 r5);go_wp2;go_ret;exact⟨_,_,_,_,rfl,h5,s5,HR.out.weak (by omega) (by omega)⟩
 | false=>
 replace h4:SM V src r B _ w4 p x m:=h4;have s4:=s3.trans z4;have l4:=l3.tkF t4;have p9:=l4.le;have f5:=NV.new (b:=w.heap.size) h4 (by have:=s4.size;omega) { op:=50,pos:=V.pos p };have s5:=s4.alloc (.cells (ndA { op:=50,pos:=V.pos p } (.slice none 0 0)) 42);go_wp2_with fail;refine(name_any hV hE f5.pk.sm).mono ?_;rintro e w6 ⟨q6,y6,a6,rfl,h6,z6,r6⟩;have f6:=f5.step h6 z6;have s6:=s5.trans z6;have y1:=r6.le;have l6:=l4.bind r6;have y2:=l6.le;obtain⟨d0,d1,d2,d3,d4,d5,d6,d7,d8,d9⟩:=f6.cells;have dz:=f6.fz;go_wp2_with fail;clear d0 d1 d2 d3 d4 d5 d6 d7 d8 d9 dz;have f7:=f6.set 1 (.string a6) { op:=50,name:=a6,pos:=V.pos p } rfl;have s7:=s6.set (j:=1) (.string a6) f6.lo;go_wp2_with fail;refine(a4i hV f7.pk.sm).mono ?_;rintro e w8 ⟨a8,q8,y8,rfl,h8,z8,r8⟩;have f8:=f7.step h8 z8;have s8:=s7.trans z8
 have y7:=r8.le;have l8:=l6.bind r8;have y9:=l8.le;obtain⟨d0,d1,d2,d3,d4,d5,d6,d7,d8,d9⟩:=f8.cells;have dz:=f8.fz;go_wp2_with fail;clear d0 d1 d2 d3 d4 d5 d6 d7 d8 d9 dz;have f9:=f8.set 3 (.int .i64 a8) { op:=50,name:=a6,n:=a8,pos:=V.pos p } rfl;have s9:=s8.set (j:=3) (.int .i64 a8) f8.lo;have m0:=NF.new f9;have q0:=s9.alloc (.cells #[.int .i64 0,.int .i64 0,.int .i64 0] 3);have lq:Lp V 12 508 (a2u V E G p) (colL V E G a6 a8 (V.pos p) (V.ts.length+1) false false false [] q8) p x m q8 y8 m:=(l8).weak (by omega) (by omega);obtain⟨gf,hgf⟩:∃ c,c=w8.heap.size:=⟨_,rfl⟩;rw[show(w8.setCell ⟨w4.heap.size,3,none⟩ (.int .i64 a8)).heap.size=w8.heap.size by simp,<- hgf] at m0;go_wp2_with fail;rw[<- hgf];clear hgf
 go_loopw [] (fun wr=>∃ (fa fb fc:Bool) (ks:List Int) (k q:Nat) (y:Option (List Nd)) (m1:Nat) (va:Option Addr) (vn vc:Nat),NF V src r B D w.heap.size wr q y m1 w4.heap.size { op:=50,name:=a6,n:=a8,pos:=V.pos p } (.slice va vn vc) ks gf (bit fa) (bit fb) (bit fc)/\Sp 3 r w wr/\Hid (∀ o,y=some o->V.ts.length-q<k)/\Lp V 12 508 (a2u V E G p) (colL V E G a6 a8 (V.pos p) k fa fb fc ks q) p x m q y m1/\Hid (ks.length<=q)) (fun wr=>V.ts.length-atN r wr)
 case atStart=>exact⟨false,false,false,[],V.ts.length+1,_,_,_,_,_,_,m0,q0,(fun o _=>by omega:∀ o,y8=some o->V.ts.length-q8<V.ts.length+1),lq,(by simp:([]:List Int).length<=q8)⟩
 case round=>
 obtain⟨fa,fb,fc,ks,k,a0,a1,a2,va,vn,vc,i2,q7,HK,c8,HL⟩:=hrel;have hkl:=HL.out;have f4:=i2.pk.sm.atN;have x0:=i2.pk.sm.le;have x1:=c8.le;have i3:=c8.colU HK.out;have x2:=i3.le;have e9:=i3.fuel hn;go_wp2_with fail;refine(a0C hV i2.pk.sm).mono ?_;rintro e z0 ⟨rfl,m2⟩;have j8:=i2.below m2;have m3:=q7.below m2;go_wp2_with fail;refine(a0b hV j8.pk.sm a1t).mono ?_;rintro e m6 ⟨q9,rfl,j9,c9,i4⟩
 cases q9 with
 | true=>
  replace c9:SM V src r B _ m6 (a0+1) a1 a2:=c9;have f0:=j8.step c9 i4;have i5:=m3.trans i4;obtain⟨r0,i6,z1,n7⟩:=j9.yes;have e0:=i3.tkT j9;have n8:=e0.le;have v5:=c9.le;have n9:∀ o,a1=some o->V.ts.length-(a0+1)<_:=fun o e=>Nat.lt_of_le_of_lt (by omega) (e9 o e);have hps:=a0j (m:=a2) i6 n7;have hpo:=(c8.ok i6).1;have i7:=HK.out r0 i6;have b6:=e0.rest;have l1:=b6.le;go_wp2_with fail;refine(a0i hV f0.pk.sm a1h).mono ?_;rintro e k0 ⟨m7,r1,rfl,b7,e1,i8⟩;have a9:=f0.step b7 e1;have f1:=i5.trans e1;have x3:=i8.le;have b3:=b6.bind i8;have g9:=b3.le;have o0:=i8.fuel n9;obtain⟨b0,b1,b2⟩:=a9.flags;have bz:=a9.ffz;have a3:=a9.flag 0 (fa':=1) (fb':=bit fb) (fc':=bit fc) (by rfl)
  have c6:=f1.set (j:=0) (.int .i64 1) a9.bf;have hx:=a3.pk.sm.atN;have hlx:=a3.pk.sm.le;have v1:=i8.up;have hcc:=hid ((fun o _=>by omega):∀ o,r1=some o->V.ts.length-m7<k-1)
  have hll:Hid (ks.length<=m7):=by simp[Hid];omega
  have b8:=(e0.compS i6 b3).weak (d':=12) (c':=508) (by omega) (by omega);go_wp2;go_roundw
  case rel=>exact⟨true,fb,fc,_,_,_,_,_,_,_,_,a3,c6,hcc,b8,hll⟩
  case measure=>rw[f4,hx];omega
 | false=>
 replace c9:SM V src r B _ m6 a0 a1 a2:=c9;have f0:=j8.step c9 i4;have i5:=m3.trans i4;have e0:=i3.tkF j9;have n8:=e0.le;go_wp2_with fail;refine(a0b hV f0.pk.sm a2i).mono ?_;rintro e m8 ⟨r2,rfl,k1,e5,i9⟩
 cases r2 with
 | true=>
  replace e5:SM V src r B _ m8 (a0+1) a1 a2:=e5;have f2:=f0.step e5 i9;have j0:=i5.trans i9;obtain⟨r7,j1,z7,o1⟩:=k1.yes;have b6:=e0.tkT k1;have l1:=b6.le;have v6:=e5.le;have o5:∀ o,a1=some o->V.ts.length-(a0+1)<_:=fun o e=>Nat.lt_of_le_of_lt (by omega) (e9 o e);have hps:=a0j (m:=a2) j1 o1;have hpo:=(c8.ok j1).1;have i7:=HK.out r7 j1;have b3:=b6.rest;have g9:=b3.le;go_wp2_with fail;refine(a0i hV f2.pk.sm a7o).mono ?_;rintro e k2 ⟨m9,r9,rfl,b9,e6,j2⟩;have a3:=f2.step b9 e6;have c6:=j0.trans e6;have x4:=j2.le;have b4:=b3.bind j2;have h0:=b4.le;have h7:=j2.fuel o5;obtain⟨b0,b1,b2⟩:=a3.flags;have bz:=a3.ffz;have a7:=a3.flag 1 (fa':=bit fa) (fb':=1) (fc':=bit fc) (by rfl);have e7:=c6.set (j:=1) (.int .i64 1) a3.bf
  have hx:=a7.pk.sm.atN;have hlx:=a7.pk.sm.le;have v2:=j2.up;have hcc:=hid ((fun o _=>by omega):∀ o,r9=some o->V.ts.length-m9<k-1)
  have hll:Hid (ks.length<=m9):=by simp[Hid];omega
  have b8:=(b6.compS j1 b4).weak (d':=12) (c':=508) (by omega) (by omega);go_wp2;go_roundw
  case rel=>exact⟨fa,true,fc,_,_,_,_,_,_,_,_,a7,e7,hcc,b8,hll⟩
  case measure=>rw[f4,hx];omega
 | false=>
 replace e5:SM V src r B _ m8 a0 a1 a2:=e5;have f2:=f0.step e5 i9;have j0:=i5.trans i9;have b6:=e0.tkF k1;have l1:=b6.le;go_wp2_with fail;refine(a0b hV f2.pk.sm a0W).mono ?_;rintro e k0 ⟨s0,rfl,k3,b7,e1⟩
 cases s0 with
 | true=>
  replace b7:SM V src r B _ k0 (a0+1) a1 a2:=b7;have a9:=f2.step b7 e1;have f1:=j0.trans e1;obtain⟨t0,j3,z9,o6⟩:=k3.yes;have b3:=b6.tkT k3;have g9:=b3.le;have v7:=b7.le;have o0:∀ o,a1=some o->V.ts.length-(a0+1)<_:=fun o e=>Nat.lt_of_le_of_lt (by omega) (e9 o e);have hps:=a0j (m:=a2) j3 o6;have hpo:=(c8.ok j3).1;have i7:=HK.out t0 j3;have b4:=b3.rest;have h0:=b4.le;obtain⟨b0,b1,b2⟩:=a9.flags;have bz:=a9.ffz;have a7:=a9.flag 2 (fa':=bit fa) (fb':=bit fb) (fc':=1) (by rfl);have e7:=f1.set (j:=2) (.int .i64 1) a9.bf;have hx:=a7.pk.sm.atN;have hlx:=a7.pk.sm.le;have hcc:=hid ((fun o _=>by omega):∀ o,a1=some o->V.ts.length-(a0+1)<k-1)
  have hll:Hid (ks.length<=(a0+1)):=by simp[Hid];omega
  have b8:=(b3.compS j3 b4).weak (d':=12) (c':=508) (by omega) (by omega);go_wp2;go_roundw
  case rel=>exact⟨fa,fb,true,_,_,_,_,_,_,_,_,a7,e7,hcc,b8,hll⟩
  case measure=>rw[f4,hx];omega
 | false=>
 replace b7:SM V src r B _ k0 a0 a1 a2:=b7;have a9:=f2.step b7 e1;have f1:=j0.trans e1;have b3:=b6.tkF k3;have g9:=b3.le;go_wp2_with fail;refine(a0b hV a9.pk.sm a2h).mono ?_;rintro e k2 ⟨t1,rfl,k4,b9,e6⟩
 cases t1 with
 | true=>
  replace b9:SM V src r B _ k2 (a0+1) a1 a2:=b9;have a3:=a9.step b9 e6;have c6:=f1.trans e6;obtain⟨t5,j4,A0,o7⟩:=k4.yes;have b4:=b3.tkT k4;have h0:=b4.le;have v8:=b9.le;have h7:∀ o,a1=some o->V.ts.length-(a0+1)<_:=fun o e=>Nat.lt_of_le_of_lt (by omega) (e9 o e);have hps:=a0j (m:=a2) j4 o7;have hpo:=(c8.ok j4).1;have i7:=HK.out t5 j4;have c0:=b4.rest;have l5:=c0.le;go_wp2_with fail;refine(hG a3.pk.sm h7 (by omega)).mono ?_;rintro e A1 ⟨g0,k5,n0,k6,rfl,t6,n1,j5⟩;have n2:=a3.step t6 n1;have t7:=c6.trans n1;have x5:=j5.le;have g1:=c0.bind j5;have o8:=g1.le;have o9:=j5.fuel h7;have h9:=hid (n2.cells.2.2.2.2.2.2.2.2.1);go_wp2
  refine a0a (S:=(fun W=>W.cell? ⟨w4.heap.size,8,none⟩=some (.slice va vn vc))) (late:=[10,11]) (by kernel_rfl) (by first | exact h9.out | go_keep) (fun hHeld=>?_);refine tT 0 rfl hHeld ?_
  try simp only[Act.put,q1,q2,q3]
  refine tL 1 rfl hHeld ?_
  try simp only[Act.put,q1,q2,q3]
  refine tT 2 rfl hHeld ?_
  try simp only[Act.put,q1,q2,q3]
  refine tT 3 rfl hHeld ?_
  try simp only[Act.put,q1,q2,q3]
  refine tT 5 rfl hHeld ?_
  try simp only[Act.put,q1,q2,q3]
  have f3:=n2.below ((Below.refl _ _).drew);refine rE 4 rfl fun K hK=>?_;go_simp;refine hK _ _ ⟨(f3.below (below_alloc _ _)).cells.2.2.2.2.2.2.2.2.1,?_⟩;clear hK K
  try simp only[Act.put,q1,q2,q3]
  have i0:=f3.below (below_alloc _ (.cells #[.int .i64 g0] 3));replace hHeld:=i0.cells.2.2.2.2.2.2.2.2.1;refine tT 6 rfl hHeld ?_
  try simp only[Act.put,q1,q2,q3]
  refine rE 7 rfl fun K hK=>?_;go_simp;refine(a0g i0.pk.sm (by have:=a0r (V:=V) (p:=k5) (x:=n0) (m:=k6);omega) { op:=51,kids:=[g0],pos:=V.pos a0 } _ (KS.new _ [g0]) (fun _=>f3.pk.sm.outN (Nat.le_refl _))).mono ?_;rintro e t8 ⟨rfl,k7,g5,c7⟩;have c1:=i0.step k7 g5;have g6:=(t7.drew.alloc (.cells #[.int .i64 g0] 3)).trans g5;have p0:=c7.le;have g7:=g1.bind c7;have p1:=g7.le;have p2:=c7.fuel o9;obtain⟨p3,p4,p5,t9,c5,b5,k8,i1,p6⟩:=c1.kid (k6:Int) (by first | (simp;done) | (simp;omega) | omega);refine hK _ _ ⟨c1.cells.2.2.2.2.2.2.2.2.1,?_⟩;clear hK K
  try simp only[Act.put,q1,q2,q3]
  refine rE 8 rfl fun K hK=>?_;go_simp;refine hK _ _ ⟨(c1.below (below_alloc _ _)).cells.2.2.2.2.2.2.2.2.1,?_⟩;clear hK K
  try simp only[Act.put,q1,q2,q3]
  refine rE 9 rfl fun K hK=>?_;refine a0e rfl (.tmp 83) (.tmp 90) 37 rfl _ _ rfl rfl _ _ c5 ?_;refine hK _ _ ⟨i1,?_⟩;clear hK K c5
  try simp only[Act.put,q1,q2,q3]
  refine rL 10 rfl fun K hK=>?_;go_simp;refine hK _ _ ?_;clear hK K
  try simp only[Act.put,q1,q2,q3]
  refine rL 11 rfl fun K hK=>?_;go_simp;refine hK _ _ ?_;clear hK K
  try simp only[Act.put,q1,q2,q3]
  refine a0h (by kernel_rfl) ?_ _;have g8:=k8 w g6 (by first | exact Nat.le_refl _ | omega);have hx:=b5.pk.sm.atN;have hlx:=b5.pk.sm.le;have v3:=j5.up;have hcc:=hid ((fun o _=>by omega):∀ o,(Option.map (·++[{ op:=51,kids:=[g0],pos:=V.pos a0 }]) (n0))=some o->V.ts.length-k5<k-1)
  have hll:Hid ((ks++[(k6:Int)]).length<=k5):=by simp[Hid];omega
  have b8:=(b4.compS j4 g7).weak (d':=12) (c':=508) (by omega) (by omega);go_wp2;go_roundw
  case rel=>exact⟨fa,fb,fc,_,_,_,_,_,_,_,_,b5,g8,hcc,b8,hll⟩
  case measure=>rw[f4,hx];omega
 | false=>
 replace b9:SM V src r B _ k2 a0 a1 a2:=b9;have a3:=a9.step b9 e6;have c6:=f1.trans e6;have b4:=b3.tkF k4;have h0:=b4.le;go_wp2_with fail;refine(a0b hV a3.pk.sm a1D).mono ?_;rintro e n3 ⟨u0,rfl,k9,e8,j6⟩
 cases u0 with
 | true=>
  replace e8:SM V src r B _ n3 (a0+1) a1 a2:=e8;have a7:=a3.step e8 j6;have e7:=c6.trans j6;obtain⟨u1,j7,A2,p7⟩:=k9.yes;have c0:=b4.tkT k9;have l5:=c0.le;have v9:=e8.le;have l7:∀ o,a1=some o->V.ts.length-(a0+1)<_:=fun o e=>Nat.lt_of_le_of_lt (by omega) (e9 o e);have hps:=a0j (m:=a2) j7 p7;have hpo:=(c8.ok j7).1;have i7:=HK.out u1 j7;have g1:=c0.rest;have o8:=g1.le;have h9:=hid (a7.cells.2.2.2.2.2.2.2.2.1);go_wp2;refine a0a (S:=(fun W=>W.cell? ⟨w4.heap.size,8,none⟩=some (.slice va vn vc))) (late:=[7,8]) (by kernel_rfl) (by first | exact h9.out | go_keep) (fun hHeld=>?_);refine tT 0 rfl hHeld ?_
  try simp only[Act.put,q1,q2,q3]
  refine tL 1 rfl hHeld ?_
  try simp only[Act.put,q1,q2,q3]
  refine tT 2 rfl hHeld ?_
  try simp only[Act.put,q1,q2,q3]
  refine tT 3 rfl hHeld ?_
  try simp only[Act.put,q1,q2,q3]
  have f3:=a7.below ((Below.refl _ _).drew);refine rE 4 rfl fun K hK=>?_;go_simp;refine(check_any hV hA (V.pos a0) f3.pk.sm l7 (by omega)).mono ?_;rintro e t8 ⟨n4,n5,u2,A3,rfl,k7,g5,c7⟩;have c1:=f3.step k7 g5;have g6:=e7.drew.trans g5;have p0:=c7.le;have g7:=g1.bind c7;have p1:=g7.le;have p2:=c7.fuel l7;obtain⟨p3,p4,p5,t9,c5,b5,k8,i1,p6⟩:=c1.kid n4 (by first | (simp;done) | (simp;omega) | omega);refine hK _ _ ⟨c1.cells.2.2.2.2.2.2.2.2.1,?_⟩;clear hK K
  try simp only[Act.put,q1,q2,q3]
  refine rE 5 rfl fun K hK=>?_;go_simp;refine hK _ _ ⟨(c1.below (below_alloc _ _)).cells.2.2.2.2.2.2.2.2.1,?_⟩;clear hK K
  try simp only[Act.put,q1,q2,q3]
  refine rE 6 rfl fun K hK=>?_;refine a0e rfl (.tmp 97) (.tmp 101) 37 rfl _ _ rfl rfl _ _ c5 ?_;refine hK _ _ ⟨i1,?_⟩;clear hK K c5
  try simp only[Act.put,q1,q2,q3]
  refine rL 7 rfl fun K hK=>?_;go_simp;refine hK _ _ ?_;clear hK K
  try simp only[Act.put,q1,q2,q3]
  refine rL 8 rfl fun K hK=>?_;go_simp;refine hK _ _ ?_;clear hK K
  try simp only[Act.put,q1,q2,q3]
  refine a0h (by kernel_rfl) ?_ _;have g8:=k8 w g6 (by first | exact Nat.le_refl _ | omega);have hx:=b5.pk.sm.atN;have hlx:=b5.pk.sm.le;have v4:=c7.up;have hcc:=hid ((fun o _=>by omega):∀ o,u2=some o->V.ts.length-n5<k-1)
  have hll:Hid ((ks++[n4]).length<=n5):=by simp[Hid];omega
  have b8:=(c0.compS j7 g7).weak (d':=12) (c':=508) (by omega) (by omega);go_wp2;go_roundw
  case rel=>exact⟨fa,fb,fc,_,_,_,_,_,_,_,_,b5,g8,hcc,b8,hll⟩
  case measure=>rw[f4,hx];omega
 | false=>
 replace e8:SM V src r B _ n3 a0 a1 a2:=e8;have a7:=a3.step e8 j6;have e7:=c6.trans j6;have c0:=b4.tkF k9;have l5:=c0.le;have HS:=hid (a7.flags)
 have u3:IntKind.i64.wrap (2*bit fb)=2*bit fb:=by cases fb<;>rfl
 have u4:IntKind.i64.wrap (bit fa+2*bit fb)=bit fa+2*bit fb:=by cases fa<;>cases fb<;>rfl
 have u5:IntKind.i64.wrap (4*bit fc)=4*bit fc:=by cases fc<;>rfl
 have u6:IntKind.i64.wrap (bit fa+2*bit fb+4*bit fc)=bit fa+2*bit fb+4*bit fc:=by cases fa<;>cases fb<;>cases fc<;>rfl
 go_wp2;refine a0a (S:=(fun W=>W.cell? ⟨gf,0,none⟩=some (.int .i64 (bit fa))/\W.cell? ⟨gf,1,none⟩=some (.int .i64 (bit fb))/\W.cell? ⟨gf,2,none⟩=some (.int .i64 (bit fc)))) (late:=[13,14]) (by kernel_rfl) (by first | exact HS.out | go_keep) (fun hHeld=>?_);refine tT 0 rfl hHeld ?_
 try simp only[Act.put,q1,q2,q3]
 refine tT 1 rfl hHeld ?_
 try simp only[Act.put,q1,q2,q3]
 refine tL 2 rfl hHeld ?_
 try simp only[Act.put,q1,q2,q3]
 refine tT 3 rfl hHeld ?_
 try simp only[Act.put,q1,q2,q3]
 refine tT 4 rfl hHeld ?_
 try simp only[Act.put,q1,q2,q3]
 refine tL 5 rfl hHeld ?_
 try simp only[Act.put,q1,q2,q3]
 refine tT 6 rfl hHeld ?_
 try simp only[Act.put,q1,q2,q3]
 refine tT 7 rfl hHeld ?_
 try simp only[Act.put,q1,q2,q3]
 refine tT 8 rfl hHeld ?_
 try simp only[Act.put,q1,q2,q3]
 refine tT 9 rfl hHeld ?_
 try simp only[Act.put,q1,q2,q3]
 refine tL 10 rfl hHeld ?_
 try simp only[Act.put,q1,q2,q3]
 refine tT 11 rfl hHeld ?_
 try simp only[Act.put,q1,q2,q3]
 refine tT 12 rfl hHeld ?_
 try simp only[Act.put,q1,q2,q3]
 have n6:=a7.below ((Below.refl _ _).drew);obtain⟨d0,d1,d2,d3,d4,d5,d6,d7,d8,d9⟩:=n6.cells;have dz:=n6.fz;refine rL 13 rfl fun K hK=>?_;go_simp;refine hK _ _ ?_;clear hK K
 try simp only[Act.put,q1,q2,q3]
 refine rL 14 rfl fun K hK=>?_;go_simp;refine hK _ _ ?_;clear hK K
 try simp only[Act.put,q1,q2,q3]
 refine a0h (by kernel_rfl) ?_ _;clear d0 d1 d2 d3 d4 d5 d6 d7 d8 d9 dz;have c1:=a7.set 4 (.int .i64 (bit fa+2*bit fb+4*bit fc)) { op:=50,name:=a6,n:=a8,m:=bit fa+2*bit fb+4*bit fc,pos:=V.pos p } rfl;have g6:=e7.set (j:=4) (.int .i64 (bit fa+2*bit fb+4*bit fc)) a7.lo;have b5:=c1.below ((Below.refl _ _).drew);have g8:=g6.drew;clear u3 u4 u5 u6;obtain⟨d0,d1,d2,d3,d4,d5,d6,d7,d8,d9⟩:=b5.cells;have dz:=b5.fz;go_wp2_with fail;refine(a0g b5.outD (by have:=a0r (V:=V) (p:=a0) (x:=a1) (m:=a2);omega) { op:=50,name:=a6,n:=a8,m:=bit fa+2*bit fb+4*bit fc,kids:=ks,pos:=V.pos p } _ b5.pk.kids (fun _=>b5.far (fun g hg=>h.dl g hg))).mono ?_;rintro e A4 ⟨rfl,u7,u8,u9⟩;have v0:=g8.trans u8;have HR:=hid (c0.last u9);go_wp2;go_ret
 exact⟨_,_,_,_,rfl,u7,v0,HR.out.weak (by omega) (by omega)⟩
end Go.Proofs.YtphmpkpcamgjeaaGreatDoor
namespace Go.Proofs.YtphmpkpcamgjeaaGreatDoor
open Go.ChangeShapes Go.WideShapes Go.ChangeAt Go.RowKit Go.Proofs.Tryz
open Go.Extern.Stop Go.Stop Go.Extern
abbrev cW (w:World):World:=((w.alloc (.cells #[.slice none 0 0] 24)).alloc (.cells #[.int .i64 0] 3)).alloc (.cells #[.int .i64 0] 3)
theorem b4G (w:World):(cW w).heap.size=w.heap.size+3:=by simp
theorem b8n (w:World):(cW w).heap[w.heap.size]?=some (.cells #[.slice none 0 0] 24 (0,0))/\(cW w).heap[w.heap.size+1]?=some (.cells #[.int .i64 0] 3 (0,0))/\(cW w).heap[w.heap.size+2]?=some (.cells #[.int .i64 0] 3 (0,0)):=by
 refine⟨?_,?_,?_⟩
 .exact((below_alloc _ _).block w.heap.size (by simp;omega)).trans (((below_alloc _ _).block w.heap.size (by simp)).trans (heap_alloc_new _ _))
 .have:=heap_alloc_new (w.alloc (.cells #[.slice none 0 0] 24)) (.cells #[.int .i64 0] 3);exact((below_alloc _ _).block (w.heap.size+1) (by simp)).trans (by simpa using this)
 have:=heap_alloc_new ((w.alloc (.cells #[.slice none 0 0] 24)).alloc (.cells #[.int .i64 0] 3)) (.cells #[.int .i64 0] 3);simpa using this
theorem b6g (a:Nat) (w:World) (hg:w.cell? ⟨0,0,none⟩=some (.iface 135 (.agg #[.pointer (some ⟨4,83,none⟩)]))) {P:Option Addr->Nat->Nat->World->Prop} {Er:Int->Int->Prop}
    (hW:Calls prog 15 #[.pointer (some ⟨a,0,none⟩)] (cW w) fun e w'=>Below (cW w).heap.size (cW w) w'/\((∃ oa n oc,e=.returned (.agg #[.slice oa n oc])/\P oa n oc w')\/∃ c p,e=.panicked (flt c p)/\Er c p)) :
 Calls prog 14 #[.func (.func 15) #[] #[.pointer (some ⟨a,0,none⟩)]] w fun e w'=>Below w.heap.size w w'/\((∃ oa n oc w1,e=.returned (.tuple #[.agg #[.slice oa n oc],.int .i64 0,.int .i64 0])/\P oa n oc w1/\(∀ g,w.heap.size+3<=g->w'.heap[g]?=w1.heap[g]?)/\w1.heap.size=w'.heap.size)\/∃ c p,e=.returned (.tuple #[.agg #[.slice none 0 0],.int .i64 c,.int .i64 p])/\Er c p):=by
 have hmf:∀ (fn:Fn) (first cap:Array Value) (w:World),(Instr.makeFunc fn first cap).run prog w=.ok (.func fn first cap) w:=fun _ _ _ _=>rfl;have hsz:=b4G w;obtain⟨x0,x1,x2⟩:=b8n w;have bc:Below w.heap.size w (cW w):=(((Below.refl _ w).alloc (Nat.le_refl _) _).alloc (by simp) _).alloc (by simp;omega) _
 have hlt:0<w.heap.size:=by
  rcases Nat.eq_zero_or_pos w.heap.size with h0 | h
  .simp[World.cell?,h0] at hg
  exact h
 go_enter_defers func14,ntmps14;go_wp2_with fail;refine hW.mono ?_;rintro e w1 ⟨b1,hh⟩;have a1:=b1.size;have y0:=(b1.block w.heap.size (by omega)).trans x0;have y1:=(b1.block (w.heap.size+1) (by omega)).trans x1;have y2:=(b1.block (w.heap.size+2) (by omega)).trans x2;have bw:Below w.heap.size w w1:=bc.trans (b1.mono (by omega));have a0:=(bw.cell (p:=⟨0,0,none⟩) hlt).trans hg;rcases hh with⟨oa,n,oc,rfl,hP⟩ | ⟨c,p,rfl,hE⟩
 .have c0:w1.cell? ⟨w.heap.size,0,none⟩=some (.slice none 0 0):=(cell_of y0).1;have c1:w1.cell? ⟨w.heap.size+1,0,none⟩=some (.int .i64 0):=(cell_of y1).1;have c2:w1.cell? ⟨w.heap.size+1+1,0,none⟩=some (.int .i64 0):=(cell_of y2).1;have f0:w1.frozen? ⟨w.heap.size,0,none⟩=false:=(cell_of y0).2;have f1:w1.frozen? ⟨w.heap.size+1,0,none⟩=false:=(cell_of y1).2;have f2:w1.frozen? ⟨w.heap.size+1+1,0,none⟩=false:=(cell_of y2).2;have Y0:=hid y0;have Y1:=hid y1;have Y2:=hid y2;clear y0 y1 y2 x0 x1 x2 hg a0 hsz b1 bc;go_wp2;refine leaves_cons (f:=28) (args:=#[.pointer (some ⟨w.heap.size+1,0,none⟩),.pointer (some ⟨w.heap.size+1+1,0,none⟩)]) (by simp) (by simp[go_sem]) ?_;have e0:=heap_setCell_same w1 w.heap.size 0 _ _ (.slice oa n oc) Y0.out
  have e1:=heap_setCell_same (w1.setCell ⟨w.heap.size,0,none⟩ (.slice oa n oc)) (w.heap.size+1) 0 _ _ (.int .i64 0) ((heap_setCell_other w1 ⟨w.heap.size,0,none⟩ (w.heap.size+1) _ (by dsimp only;omega)).trans Y1.out);have e2:=heap_setCell_same ((w1.setCell ⟨w.heap.size,0,none⟩ (.slice oa n oc)).setCell ⟨w.heap.size+1,0,none⟩ (.int .i64 0)) (w.heap.size+2) 0 _ _ (.int .i64 0) ((heap_setCell_other _ ⟨w.heap.size+1,0,none⟩ (w.heap.size+2) _ (by dsimp only;omega)).trans ((heap_setCell_other w1 ⟨w.heap.size,0,none⟩ (w.heap.size+2) _ (by dsimp only;omega)).trans Y2.out));have g1:=(heap_setCell_other ((w1.setCell ⟨w.heap.size,0,none⟩ (.slice oa n oc)).setCell ⟨w.heap.size+1,0,none⟩ (.int .i64 0)) ⟨w.heap.size+1+1,0,none⟩ (w.heap.size+1) (.int .i64 0) (by dsimp only;omega)).trans e1
  have g0:=(heap_setCell_other ((w1.setCell ⟨w.heap.size,0,none⟩ (.slice oa n oc)).setCell ⟨w.heap.size+1,0,none⟩ (.int .i64 0)) ⟨w.heap.size+1+1,0,none⟩ w.heap.size (.int .i64 0) (by dsimp only;omega)).trans ((heap_setCell_other (w1.setCell ⟨w.heap.size,0,none⟩ (.slice oa n oc)) ⟨w.heap.size+1,0,none⟩ w.heap.size (.int .i64 0) (by dsimp only;omega)).trans e0);have hoth:∀ g,w.heap.size+3<=g->(((w1.setCell ⟨w.heap.size,0,none⟩ (.slice oa n oc)).setCell ⟨w.heap.size+1,0,none⟩ (.int .i64 0)).setCell ⟨w.heap.size+1+1,0,none⟩ (.int .i64 0)).heap[g]?=w1.heap[g]?:=fun g hgg=>(heap_setCell_other _ ⟨w.heap.size+1+1,0,none⟩ g _ (by dsimp only;omega)).trans ((heap_setCell_other _ ⟨w.heap.size+1,0,none⟩ g _ (by dsimp only;omega)).trans (heap_setCell_other w1 ⟨w.heap.size,0,none⟩ g _ (by dsimp only;omega)))
  have hszz:w1.heap.size=(((w1.setCell ⟨w.heap.size,0,none⟩ (.slice oa n oc)).setCell ⟨w.heap.size+1,0,none⟩ (.int .i64 0)).setCell ⟨w.heap.size+1+1,0,none⟩ (.int .i64 0)).heap.size:=by simp
  have bf:Below w.heap.size w (((w1.setCell ⟨w.heap.size,0,none⟩ (.slice oa n oc)).setCell ⟨w.heap.size+1,0,none⟩ (.int .i64 0)).setCell ⟨w.heap.size+1+1,0,none⟩ (.int .i64 0)):=((bw.setCell (p:=⟨w.heap.size,0,none⟩) (Nat.le_refl _) _).setCell (p:=⟨w.heap.size+1,0,none⟩) (by simp) _).setCell (p:=⟨w.heap.size+1+1,0,none⟩) (by simp;omega) _;refine(b9t (w.heap.size+1) (w.heap.size+1+1) _).mono ?_;rintro e u' w'' ⟨rfl,rfl,hw⟩;rw[<- hw] at g0 g1 e2 hoth hszz bf;clear hw;have k0:w''.cell? ⟨w.heap.size,0,none⟩=some (.slice oa n oc):=(cell_of g0).1;have k1:w''.cell? ⟨w.heap.size+1,0,none⟩=some (.int .i64 0):=(cell_of g1).1;have k2:w''.cell? ⟨w.heap.size+1+1,0,none⟩=some (.int .i64 0):=(cell_of e2).1
  exact⟨.tuple #[.agg #[.slice oa n oc],.int .i64 0,.int .i64 0],by simp[results,results14,go_sem,k0,k1,k2],bf,.inl ⟨oa,n,oc,w1,rfl,hP,hoth,hszz⟩⟩
 have c1:w1.cell? ⟨w.heap.size+1,0,none⟩=some (.int .i64 0):=(cell_of y1).1;have c2:w1.cell? ⟨w.heap.size+1+1,0,none⟩=some (.int .i64 0):=(cell_of y2).1;have f1:w1.frozen? ⟨w.heap.size+1,0,none⟩=false:=(cell_of y1).2;have f2:w1.frozen? ⟨w.heap.size+1+1,0,none⟩=false:=(cell_of y2).2;go_wp2;refine leaves_cons (f:=28) (args:=#[.pointer (some ⟨w.heap.size+1,0,none⟩),.pointer (some ⟨w.heap.size+1+1,0,none⟩)]) (by simp) (by simp[go_sem]) ?_;refine(b8m (w.heap.size+1) (w.heap.size+1+1) c p 0 0 w1 a0 c1 c2 f1 f2 (by omega)).mono ?_;rintro e u' w'' ⟨rfl,rfl,w2,b2,hw⟩;have a2:=b2.size;have z0:=(b2.block w.heap.size (by omega)).trans y0;have z1:=(b2.block (w.heap.size+1) (by omega)).trans y1;have z2:=(b2.block (w.heap.size+2) (by omega)).trans y2
 have e1:=heap_setCell_same w2 (w.heap.size+1) 0 _ _ (.int .i64 c) z1;have e2:=heap_setCell_same (w2.setCell ⟨w.heap.size+1,0,none⟩ (.int .i64 c)) (w.heap.size+2) 0 _ _ (.int .i64 p) ((heap_setCell_other w2 ⟨w.heap.size+1,0,none⟩ (w.heap.size+2) _ (by dsimp only;omega)).trans z2);have g1:=(heap_setCell_other (w2.setCell ⟨w.heap.size+1,0,none⟩ (.int .i64 c)) ⟨w.heap.size+1+1,0,none⟩ (w.heap.size+1) (.int .i64 p) (by dsimp only;omega)).trans e1;have g0:=(heap_setCell_other (w2.setCell ⟨w.heap.size+1,0,none⟩ (.int .i64 c)) ⟨w.heap.size+1+1,0,none⟩ w.heap.size (.int .i64 p) (by dsimp only;omega)).trans ((heap_setCell_other w2 ⟨w.heap.size+1,0,none⟩ w.heap.size (.int .i64 c) (by dsimp only;omega)).trans z0)
 have bf:Below w.heap.size w ((w2.setCell ⟨w.heap.size+1,0,none⟩ (.int .i64 c)).setCell ⟨w.heap.size+1+1,0,none⟩ (.int .i64 p)):=((bw.trans (b2.mono (by omega))).setCell (p:=⟨w.heap.size+1,0,none⟩) (by simp) _).setCell (p:=⟨w.heap.size+1+1,0,none⟩) (by simp;omega) _;rw[<- hw] at g0 g1 e2 bf;clear hw;have k0:w''.cell? ⟨w.heap.size,0,none⟩=some (.slice none 0 0):=(cell_of g0).1;have k1:w''.cell? ⟨w.heap.size+1,0,none⟩=some (.int .i64 c):=(cell_of g1).1;have k2:w''.cell? ⟨w.heap.size+1+1,0,none⟩=some (.int .i64 p):=(cell_of e2).1;exact⟨.tuple #[.agg #[.slice none 0 0],.int .i64 c,.int .i64 p],by simp[results,results14,go_sem,k0,k1,k2],bf,.inr ⟨c,p,rfl,hE⟩⟩
end Go.Proofs.YtphmpkpcamgjeaaGreatDoor
