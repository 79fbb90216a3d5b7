import Derived.Test.YtphmpkpcamgjeaaGreatDoorXAA
import Derived.Test.YtphmpkpcamgjeaaGreatDoorXAX
import Derived.Test.YtphmpkpcamgjeaaGreatDoorXAW
import Derived.Test.YtphmpkpcamgjeaaGreatDoorXBA
set_option linter.unusedVariables false
set_option linter.unusedSimpArgs false
set_option maxRecDepth 100000
set_option maxHeartbeats 16000000
namespace Go.Proofs.YtphmpkpcamgjeaaGreatDoor
open Go.ChangeShapes Go.WideShapes Go.ChangeAt Go.RowKit Go.Proofs.Tryz
open Go.Maps
def IPostN (V:Env) (Mx:DataW Unit) (r B:Nat) (D:Nat->Prop) (b n g:Nat) (t:Nd) (F:R (List Int)) (w:World) (e:Ending) (w':World):Prop:=match F with
 | .ok ks q o=>∃ va vn vc,e=.returned (.slice va vn vc)/\PI V Mx r B D b w' q o (.slice va vn vc) ks/\(∀ w0,Sp 4 r w0 w->w0.heap.size<=b->Sp 4 r w0 w')/\ks.length<=n+1/\NI r w' g t
 | .bad q=>e=.panicked (flt 3 (V.pos q))/\Below B w w'
theorem IPostN.bad {V:Env} {Mx:DataW Unit} {r B b n g:Nat} {t:Nd} {D:Nat->Prop} {F:R (List Int)} {w:World} {e:Ending} {w':World} {q:Nat} (hF:F=.bad q) (h1:e=.panicked (flt 3 (V.pos q))) (h2:Below B w w'):IPostN V Mx r B D b n g t F w e w':=by
 subst hF;exact⟨h1,h2⟩
theorem IPostN.ok {V:Env} {Mx:DataW Unit} {r B b n g:Nat} {t:Nd} {D:Nat->Prop} {F:R (List Int)} {w:World} {e:Ending} {w':World} {ks:List Int} {q:Nat} {o:List Nd} {va:Option Addr} {vn vc:Nat} (hF:F=.ok ks q o) (h1:e=.returned (.slice va vn vc)) (h2:PI V Mx r B D b w' q o (.slice va vn vc) ks) (h3:∀ w0,Sp 4 r w0 w->w0.heap.size<=b->Sp 4 r w0 w') (h4:ks.length<=n+1) (h5:NI r w' g t):IPostN V Mx r B D b n g t F w e w':=by
 subst hF;exact⟨va,vn,vc,h1,h2,h3,h4,h5⟩
section
variable {V : Env} {Mx : DataW Unit} {r B : Nat} {D : Nat -> Prop} {w : World} {p : Nat} {o : List Nd} {m : Nat} {E Q : M Int}
theorem a3B (hV:IV V Mx) (hE:a0p V Mx 147 m E) (gE:Gro 999 E) {b g:Nat} {t:Nd} {va:Option Addr} {vn vc:Nat} {ks:List Int} (s:ByteArray) (op:Int) (f:PI V Mx r B D b w p o (.slice va vn vc) ks) (n:NI r w g t) (hkl:ks.length<=50000) (hn:V.ts.length-p<m+1) (hl:o.length<=1000*p+500) :
 Calls prog 116 #[.pointer (some ⟨r,0,none⟩),.slice va vn vc,.string s,.int .i64 op] w fun e w'=>IPostN V Mx r B D b ks.length g t (a2b V E s op ks p o) w e w':=by
 have h:=f.sm;have hT:=hV.n;have hle:=h.le;obtain⟨F0,L0⟩:=hidEq (a2b V E s op ks p o);rw[<- L0.out];go_enter func116,ntmps116;have d6:=f.sm.sp;go_wp2_with fail;refine(a0v hV f.sm).mono ?_;rintro e e5 ⟨rfl,b5⟩;have a8:=f.sm.spB b5;have c5:=f.sm.below b5;have a4:=n.step a8;have b6:=d6.trans a8;have a9:=f.step c5 a8;go_wp2_with fail;refine(a0N hV a9.sm s).mono ?_;rintro e e6 (⟨a2,rfl,b0,a0⟩ | ⟨a2,rfl,b0,a0⟩)
 .have a1:=a4.step a0;have a5:=b6.trans a0;have a6:=a9.step b0 a0;have a7:=hid (It.seT L0.out a2 rfl);have d9:=a0c a2;go_wp2_with fail;refine(hE a6.sm (by omega) (by omega)).mono ?_;intro e e7 c1;rcases c1.cs with⟨e8,a3,rfl,c2⟩ | ⟨c6,e9,c7,a3,rfl,b7,b1⟩
  .have c3:=hid (It.bad a7.out a3 rfl);have c4:=(h.low a5).trans c2;go_wp2;exact⟨rfl,IPostN.bad c3.out rfl c4⟩
  have e0:=gE _ _ _ _ _ a3;have b3:=a1.step b1;have c8:=a5.trans b1;have b8:=a6.step b7 b1;have d8:=b7.le;have c9:=hid (It.ok a7.out a3 rfl);go_wp2_with fail;refine(addZ b8.sm (by omega) ({ op:=op,kids:=[c6],pos:=V.pos p }:Nd) (by simp)).mono ?_;rintro e f0 ⟨rfl,b9,b2⟩;have b4:=b3.step b2;have d0:=c8.trans b2;have d1:=b8.step b9 b2;have d2:=hid (It.layT c9.out rfl);have e1:=b9.ol;go_wp2_with (at_builtin;refine a0s rfl _ _ rfl rfl d1 b4 (c7.length:Int) rfl rfl (by omega) ?_;intro f1 f2 c0 d3 d4;obtain⟨e2,e3,e4,d5⟩:=a1J c0.row;subst d5);go_ret;exact IPostN.ok d2.out rfl c0 (fun w0 s0 d7=>d3 w0 (s0.trans d0) d7) (by simp) d4
 have a1:=a4.step a0;have a5:=b6.trans a0;have a6:=a9.step b0 a0;have a7:=hid (It.seF L0.out a2 rfl);go_wp2;go_ret;exact IPostN.ok a7.out rfl a6 (fun w0 s0 _=>s0.trans a5) (by simp) a1
end
end Go.Proofs.YtphmpkpcamgjeaaGreatDoor
namespace Go.Proofs.YtphmpkpcamgjeaaGreatDoor
open Go.ChangeShapes Go.WideShapes Go.ChangeAt Go.RowKit Go.Proofs.Tryz
open Go.Maps
section
variable {V : Env} {Mx : DataW Unit} {r B : Nat} {D : Nat -> Prop} {w : World} {p : Nat} {o : List Nd} {m : Nat} {E Q : M Int}
theorem b8S (hV:IV V Mx) (hE:a0p V Mx 147 (m+1) E) (gE:Gro 999 E) (h:IM V Mx r B D w p o) (hn:V.ts.length-p<m+1) (hl:o.length<=1000*p+500) :
 Calls prog 213 #[.pointer (some ⟨r,0,none⟩)] w fun e w'=>IPost V Mx r B D vInt (a2D V E p o) w e w':=by
 have hT:=hV.n;have hle:=h.le;obtain⟨F0,L0⟩:=hidEq (a2D V E p o);rw[<- L0.out];go_enter func213,ntmps213;go_wp2_with fail;refine(a0v hV h).mono ?_;rintro e j1 ⟨rfl,b7⟩;have e3:=h.spB b7;have e4:=h.below b7;have b8:=h.sp.trans e3;go_wp2_with fail;refine(a0N hV e4 g_star).mono ?_;rintro e j2 (⟨a1,rfl,a7,b1⟩ | ⟨a1,rfl,a7,b1⟩)
 .have b2:=b8.trans b1;have a8:=hid (It.seT L0.out a1 rfl);have i1:=a0c a1;go_wp2_with fail;refine(add0 a7 (by omega) ({ op:=18,pos:=V.pos p }:Nd) rfl).mono ?_;rintro e j3 ⟨rfl,b9,e5⟩;have e6:=b2.trans e5;have e7:=hid (It.done a8.out rfl);have i2:=b9.ol;exact okI e7.out b9 e6
 have b2:=b8.trans b1;have a8:=hid (It.seF L0.out a1 rfl);go_wp2_with fail;refine(a2N hV a7).mono ?_;rintro e j4 ⟨rfl,c0⟩;have e8:=a7.spB c0;have a9:=a7.below c0;have b3:=b2.trans e8
 cases a2:isNm V p with
 | false=>
  have L2:=hid (It.seF a8.out (c:=(isNm V p&&sees V (p+1) a3R&&sees V (p+2) g_star)) (by rw[a2];rfl) rfl);go_wp2_with fail;refine(hE a9 (by omega) (by omega)).mono ?_;intro e j5 d4;rcases d4.cs with⟨j6,a3,rfl,d5⟩ | ⟨e9,j7,j8,a3,rfl,c1,f0⟩
  .exact bd (It.bad L2.out a3 rfl) ((h.low b3).trans d5)
  have i3:=gE _ _ _ _ _ a3;have c2:=b3.trans f0;have h7:=c1.le;have c3:=hid (It.ok L2.out a3 rfl);go_wp2_with fail;refine(a8z hV c1).mono ?_;intro e j9 d6;rcases d6.cs with⟨k0,a4,rfl,d7⟩ | ⟨f1,k1,k2,a4,rfl,c4,f2⟩
  .exact bd (It.bad c3.out a4 rfl) ((h.low c2).trans d7)
  have i4:=a3b _ _ _ _ _ a4;have f3:=c2.trans f2;have h8:=c4.le;have f4:=hid (It.ok c3.out a4 rfl);go_wp2_with fail;refine(addZ c4 (by omega) ({ op:=19,name:=f1,kids:=[e9],pos:=V.pos p }:Nd) (by simp)).mono ?_;rintro e k3 ⟨rfl,c5,f5⟩;have f6:=f3.trans f5;have f7:=hid (It.done f4.out rfl);have i5:=c5.ol;exact okI f7.out c5 f6
 | true=>
 go_wp2_with fail;refine(b1N hV a9 a3R g_star).mono ?_;rintro e k4 ⟨rfl,c6⟩;have f8:=a9.spB c6;have c7:=a9.below c6;have b4:=b3.trans f8
 cases a0:(sees V (p+1) a3R&&sees V (p+2) g_star) with
 | true=>
  have e2:sees V (p+1) a3R=true:=by simp only[Bool.and_eq_true] at a0;exact a0.1
  have b6:sees V (p+1+1) g_star=true:=by simp only[Bool.and_eq_true] at a0;exact a0.2
  have l7:=a0c b6;have L2:=hid (It.seT a8.out (c:=(isNm V p&&sees V (p+1) a3R&&sees V (p+2) g_star)) (by rw[a2,e2];exact b6) rfl);go_wp2_with fail;refine(a3k hV c7).mono ?_;rintro e k5 (⟨b0,rfl,f9,g0⟩ | ⟨b0,rfl,i6⟩)
  rotate_left
  .rw[a2] at b0;cases b0
  have g1:=b4.trans g0;go_wp2_with fail;refine(a4E hV f9 [a3R,g_star] (by simp)).mono ?_;intro e k6 b5;rw[show a1q V [a3R,g_star] (p+1) o=.ok () (p+1+1+1) o by simp[a1q,must,e2,b6,R.bind_ok]] at b5;obtain⟨rfl,g2,g3⟩:=b5;have g4:=g1.trans g3;go_wp2_with fail;refine(add0 g2 (by omega) ({ op:=18,qual:=V.tx p,pos:=V.pos p }:Nd) rfl).mono ?_;rintro e k7 ⟨rfl,c8,g5⟩;have g6:=g4.trans g5;have g7:=hid (It.done L2.out rfl);have i7:=c8.ol;exact okI g7.out c8 g6
 | false=>
 have L2:=hid (It.seF a8.out (c:=(isNm V p&&sees V (p+1) a3R&&sees V (p+2) g_star)) (by rw[a2,Bool.true_and];exact a0) rfl);go_wp2_with fail;refine(hE c7 (by omega) (by omega)).mono ?_;intro e k8 d8;rcases d8.cs with⟨k9,a5,rfl,d9⟩ | ⟨g8,l0,l1,a5,rfl,c9,g9⟩
 .exact bd (It.bad L2.out a5 rfl) ((h.low b4).trans d9)
 have i8:=gE _ _ _ _ _ a5;have d0:=b4.trans g9;have h9:=c9.le;have d1:=hid (It.ok L2.out a5 rfl);go_wp2_with fail;refine(a8z hV c9).mono ?_;intro e l2 e0;rcases e0.cs with⟨l3,a6,rfl,e1⟩ | ⟨h0,l4,l5,a6,rfl,d2,h1⟩
 .exact bd (It.bad d1.out a6 rfl) ((h.low d0).trans e1)
 have i9:=a3b _ _ _ _ _ a6;have h2:=d0.trans h1;have i0:=d2.le;have h3:=hid (It.ok d1.out a6 rfl);go_wp2_with fail;refine(addZ d2 (by omega) ({ op:=19,name:=h0,kids:=[g8],pos:=V.pos p }:Nd) (by simp)).mono ?_;rintro e l6 ⟨rfl,d3,h4⟩;have h5:=h2.trans h4;have h6:=hid (It.done h3.out rfl);have j0:=d3.ol;exact okI h6.out d3 h5
theorem b7C (hV:IV V Mx) (hI:a0p V Mx 213 (m+1) (a2D V E)) (gE:Gro 999 E) (h:IM V Mx r B D w p o) (hn:V.ts.length-p<m+1) (hl:o.length<=1000*p+500) :
 Calls prog 192 #[.pointer (some ⟨r,0,none⟩)] w fun e w'=>IPost V Mx r B D vInt ((fun p o=>(a0F V (a2D V E) p o).bind fun gs q o=>lay { op:=20,kids:=gs,pos:=V.pos p } q o) p o) w e w':=by
 have hmf:=@mkf;have hT:=hV.n;have hle:=h.le;obtain⟨F0,L0⟩:=hidEq ((fun p o=>(a0F V (a2D V E) p o).bind fun gs q o=>lay { op:=20,kids:=gs,pos:=V.pos p } q o) p o);rw[<- L0.out];go_enter func192,ntmps192;go_wp2_with fail;refine(a0v hV h).mono ?_;rintro e c2 ⟨rfl,a3⟩;have a8:=h.spB a3;have a9:=h.below a3;have a4:=h.sp.trans a8;go_wp2_with fail;refine(a1s (n:=m+1) hV b7s hI (a3A gE) (by omega) a9 (by omega) (by omega)).mono ?_;intro e c3 a1
 cases a0:(a0F V (a2D V E)) p o with
 | bad c4=>
  rw[a0] at a1;obtain⟨rfl,a7⟩:=a1;exact bd (It.bad L0.out a0 rfl) ((h.low a4).trans a7)
 | ok a5 c5 c6=>
 rw[a0] at a1;obtain⟨b7,b8,rfl,a2,b0,b9⟩:=a1;have c0:=(a0D (a3A gE) (by omega)) _ _ _ _ _ a0;have b1:=a4.trans b0;have b6:=a2.sm.le;have b2:=hid (It.ok L0.out a0 rfl);go_wp2_with fail;refine(add_any a2.out (by omega) ({ op:=20,kids:=a5,pos:=V.pos p }:Nd) _ a2.kids (show a5.length<=100000 by omega)).mono ?_;rintro e c7 ⟨rfl,a6,b3⟩;have b4:=b1.trans b3;have b5:=hid (It.done b2.out rfl);have c1:=a6.ol;exact okI b5.out a6 b4
end
end Go.Proofs.YtphmpkpcamgjeaaGreatDoor
namespace Go.Proofs.YtphmpkpcamgjeaaGreatDoor
open Go.ChangeShapes Go.WideShapes Go.ChangeAt Go.RowKit Go.Proofs.Tryz
open Go.Maps
theorem b1U {V:Env} {E:M Int} (hE:Gro 999 E):Gro 997 (fun p o=>(a0F V (a2D V E) p o).bind fun gs q o=>lay { op:=20,kids:=gs,pos:=V.pos p } q o:M Int):=fun p o a q o' h=>by
 simp only[R.bind_iff,a0y] at h;obtain⟨b,s,u,h1,rfl,rfl,rfl⟩:=h;have e1:=a0D (a3A hE) (by omega) _ _ _ _ _ h1;simp;omega
section
variable {V : Env} {Mx : DataW Unit} {r B : Nat} {D : Nat -> Prop} {w : World} {p : Nat} {o : List Nd} {m : Nat} {E Q : M Int}
theorem a8B (hV:IV V Mx) (hE:a0p V Mx 147 (m+1) E) (gE:Gro 999 E) (hI:a0p V Mx 213 (m+1) (a2D V E)) (hF:a0p V Mx 193 (m+1) (a2R V E Q)) (gQ:Gro 900 Q) (h:IM V Mx r B D w p o) (hn:V.ts.length-p<m+1) (hl:o.length<=1000*p+500) :
 Calls prog 172 #[.pointer (some ⟨r,0,none⟩)] w fun e w'=>IPost V Mx r B D vInt (selF V E Q p o) w e w':=by
 have hmf:=@mkf;have hT:=hV.n;have hle:=h.le;obtain⟨F0,L0⟩:=hidEq (selF V E Q p o);rw[<- L0.out];go_enter func172,ntmps172;go_wp2_with fail;refine(a0v hV h).mono ?_;rintro e s7 ⟨rfl,l5⟩;have s8:=h.spB l5;have g8:=h.below l5;have l6:=h.sp.trans s8;have j7:=NI.new g8 { op:=25,pos:=(V.pos p) };have s9:=g8.sp.alloc (.cells (ndA { op:=25,pos:=(V.pos p) } (.slice none 0 0)) 42);have t0:=g8.alloc (.cells (ndA { op:=25,pos:=(V.pos p) } (.slice none 0 0)) 42);have ng_n:w.heap.size<=s7.heap.size:=l6.size;have l7:=l6.trans s9;go_wp2_with fail;refine(a0u hV t0 a0l).mono ?_;rintro e G3 (⟨b6,rfl,t1,l8⟩ | ⟨b6,rfl,q4⟩)
 rotate_left
 .exact bd (It.mustF L0.out b6 rfl) ((h.low l7).trans q4)
 have j8:=j7.step l8;have t2:=l7.trans l8;have t3:=hid (It.mustT L0.out b6 rfl);have A3:=a0c b6;go_wp2_with fail;refine(a3j hV t1 a0m).mono ?_;rintro e G4 ⟨rfl,l9,m0⟩;have z1:=a5z (sees V (p+1) a0m);have a0:=j8.step m0;have t4:=t2.trans m0;have z2:=l9.le;obtain⟨nb,hnb⟩:∃ nb,nb=bit (sees V (p+1) a0m):=⟨_,rfl⟩;rw[<- hnb];have L1:=hid (show F0=sel1 V E Q nb (V.pos p) ((p+1)+stp (sees V (p+1) a0m)) o from by rw[hnb];exact t3.out);clear hnb;generalize hqq:((p+1)+stp (sees V (p+1) a0m))=qq at *
 have hqp:p<qq:=by omega
 clear hqq;obtain⟨d0,d1,d2,d3,d4,d5,d6,d7,d8,d9⟩:=a0.cells;have dz:=a0.fz;have j9:=a0.set 3 (.int .i64 nb) { op:=25,n:=nb,pos:=(V.pos p) } rfl;have t5:=a0.im l9 3 (.int .i64 nb);have m1:=t4.set (j:=3) (.int .i64 nb) ng_n;have L2:=hid (show F0=((fun p o=>(a0F V (a2D V E) p o).bind fun gs q o=>lay { op:=20,kids:=gs,pos:=V.pos p } q o) qq o).bind (fun i q o=>sel2 V E Q nb (V.pos p) [i] q o) from L1.out.trans (R.bind_assoc _ _ _).symm);go_wp2_with fail;clear d0 d1 d2 d3 d4 d5 d6 d7 d8 d9 dz;refine(b7C hV hI gE t5 (by omega) (by omega)).mono ?_;intro e G5 q5;rcases q5.cs with⟨G6,b7,rfl,q6⟩ | ⟨e2,f8,m2,b7,rfl,g9,m3⟩
 .exact bd (It.bad L2.out b7 rfl) ((h.low m1).trans q6)
 have A4:=(b1U gE) _ _ _ _ _ b7;have k0:=j9.step m3;have m4:=m1.trans m3;have z3:=g9.le;have m5:=hid (It.ok L2.out b7 rfl);have f9:=PI.lit g9 (b:=w.heap.size) m4.size [e2] (by simp) (by simp);have t6:=m4.alloc (.cells #[.int .i64 e2] 3);have k1:=k0.step (g9.sp.alloc (.cells #[.int .i64 e2] 3));go_wp2_with fail;refine(a0v hV f9.sm).mono ?_;rintro e G7 ⟨rfl,m6⟩;have h0:=f9.sm.spB m6;have t7:=f9.sm.below m6;have f1:=k1.step h0;have m7:=t6.trans h0;have h1:=f9.step t7 h0;go_wp2_with fail;refine(a0N hV h1.sm a2z).mono ?_;rintro e G8 (⟨b8,rfl,h2,a1⟩ | ⟨b8,rfl,h2,a1⟩)
 .have a4:=f1.step a1;have e3:=m7.trans a1;have g0:=h1.step h2 a1;have e4:=hid (It.seT m5.out b8 rfl);have A5:=a0c b8;go_wp2_with fail;refine(a1s (n:=m+1) hV b7r hF (a4n gE gQ) (by omega) g0.sm (by omega) (by omega)).mono ?_;intro e G9 b9
  cases a7:(a0F V (a2R V E Q)) (f8+1) m2 with
  | bad H0=>
   rw[a7] at b9;obtain⟨rfl,q7⟩:=b9;exact bd (It.bad e4.out a7 rfl) ((h.low e3).trans q7)
  | ok h3 t8 h4=>
  rw[a7] at b9;obtain⟨A6,A7,rfl,g1,h5,A8⟩:=b9;have A9:=(a0D (a4n gE gQ) (by omega)) _ _ _ _ _ a7;have k2:=a4.step h5;have t9:=e3.trans h5;have z4:=g1.sm.le;have u0:=hid (It.ok e4.out a7 rfl);have q8:=g0.step g1.out h5;go_wp2_with fail;refine(add_any g1.out (by omega) ({ op:=21,kids:=h3,pos:=V.pos f8 }:Nd) _ g1.kids (show h3.length<=100000 by omega)).mono ?_;rintro e H1 ⟨rfl,m8,h6⟩;have k3:=k2.step h6;have u1:=t9.trans h6;have u2:=q8.step m8 h6;have m9:=hid (It.layT u0.out rfl);have B0:=m8.ol
  go_wp2_with (at_builtin;refine a0s rfl _ _ rfl rfl u2 k3 (h4.length:Int) rfl rfl (by first | (simp;done) | (simp;omega) | omega) ?_;intro H2 H3 n0 u3 k4;obtain⟨B1,B2,B3,u4⟩:=a1J n0.row;subst u4);have n1:=u3 w u1 (Nat.le_refl _);go_wp2_with fail;refine(a3B hV hE gE a1n 22 n0 k4 (by first | (simp;done) | (simp;omega) | omega) (by omega) (by omega)).mono ?_;intro e H4 c0
  cases a8:a2b V E a1n 22 ([e2]++[(h4.length:Int)]) t8 (h4++[({ op:=21,kids:=h3,pos:=V.pos f8 }:Nd)]) with
  | bad H5=>
   rw[a8] at c0;obtain⟨rfl,q9⟩:=c0;exact bd (It.bad m9.out a8 rfl) ((h.low n1).trans q9)
  | ok n2 g2 n3=>
  rw[a8] at c0;obtain⟨B4,B5,B6,rfl,e5,u5,r0,k5⟩:=c0;have B7:=a1j gE _ _ _ _ _ _ _ _ a8;have u6:=u5 w n1 (Nat.le_refl _);have z5:=e5.sm.le;have n4:=hid (It.ok m9.out a8 rfl)
  try simp only[List.length_append,List.length_cons,List.length_nil] at r0
  go_wp2_with fail;refine(a0v hV e5.sm).mono ?_;rintro e H6 ⟨rfl,n5⟩;have h7:=e5.sm.spB n5;have u7:=e5.sm.below n5;have f2:=k5.step h7;have n6:=u6.trans h7;have h8:=e5.step u7 h7;go_wp2_with fail;refine(a0N hV h8.sm a6z).mono ?_;rintro e H7 (⟨c1,rfl,h9,a2⟩ | ⟨c1,rfl,h9,a2⟩)
  .have a5:=f2.step a2;have e6:=n6.trans a2;have g3:=h8.step h9 a2;have e7:=hid (It.seT n4.out c1 rfl);have B8:=a0c c1;go_wp2_with fail;refine(a0u hV g3.sm k_by).mono ?_;rintro e H8 (⟨c2,rfl,u8,i0⟩ | ⟨c2,rfl,r1⟩)
   rotate_left
   .exact bd (It.mustF e7.out c2 rfl) ((h.low e6).trans r1)
   have k6:=a5.step i0;have n7:=e6.trans i0;have n8:=g3.step u8 i0;have n9:=hid (It.mustT e7.out c2 rfl);have B9:=a0c c2;go_wp2_with fail;refine(a1s (n:=m+1) hV a1g hE gE (by omega) n8.sm (by omega) (by omega)).mono ?_;intro e H9 c3
   cases a9:(a0F V E) ((g2+1)+1) n3 with
   | bad I0=>
    rw[a9] at c3;obtain⟨rfl,r2⟩:=c3;exact bd (It.bad n9.out a9 rfl) ((h.low n7).trans r2)
   | ok i1 u9 i2=>
   rw[a9] at c3;obtain⟨C0,C1,rfl,g4,i3,C2⟩:=c3;have C3:=(a0D gE (by omega)) _ _ _ _ _ a9;have k7:=k6.step i3;have v0:=n7.trans i3;have z6:=g4.sm.le;have v1:=hid (It.ok n9.out a9 rfl);have r3:=n8.step g4.out i3;go_wp2_with fail;refine(add_any g4.out (by omega) ({ op:=23,kids:=i1,pos:=V.pos g2 }:Nd) _ g4.kids (show i1.length<=100000 by omega)).mono ?_;rintro e I1 ⟨rfl,o0,i4⟩;have k8:=k7.step i4;have v2:=v0.trans i4;have v3:=r3.step o0 i4;have o1:=hid (It.layT v1.out rfl);have C4:=o0.ol
   go_wp2_with (at_builtin;refine a0s rfl _ _ rfl rfl v3 k8 (i2.length:Int) rfl rfl (by first | (simp;done) | (simp;omega) | omega) ?_;intro I2 I3 o2 v4 k9;obtain⟨C5,C6,C7,v5⟩:=a1J o2.row;subst v5);have o3:=v4 w v2 (Nat.le_refl _);go_wp2_with fail;refine(a3B hV hE gE a1N 24 o2 k9 (by first | (simp;done) | (simp;omega) | omega) (by omega) (by omega)).mono ?_;intro e I4 c4
   cases b0:a2b V E a1N 24 (n2++[(i2.length:Int)]) u9 (i2++[({ op:=23,kids:=i1,pos:=V.pos g2 }:Nd)]) with
   | bad I5=>
    rw[b0] at c4;obtain⟨rfl,r4⟩:=c4;exact bd (It.bad o1.out b0 rfl) ((h.low o3).trans r4)
   | ok o4 I6 I7=>
   rw[b0] at c4;obtain⟨C8,C9,D0,rfl,i5,v6,r5,f3⟩:=c4;have D1:=a1j gE _ _ _ _ _ _ _ _ b0;have v7:=v6 w o3 (Nat.le_refl _);have z7:=i5.sm.le;have v8:=hid (It.ok o1.out b0 rfl)
   try simp only[List.length_append,List.length_cons,List.length_nil] at r5
   obtain⟨d0,d1,d2,d3,d4,d5,d6,d7,d8,d9⟩:=f3.cells;have dz:=f3.fz;go_wp2_with fail;refine(add_any i5.out (by omega) ({ op:=25,n:=nb,kids:=o4,pos:=(V.pos p) }:Nd) _ i5.kids (by first | (simp;done) | (simp;omega) | (show o4.length<=100000;omega))).mono ?_;clear d0 d1 d2 d3 d4 d5 d6 d7 d8 d9 dz;rintro e I8 ⟨rfl,o5,v9⟩;have w0:=v7.trans v9;have w1:=hid (It.done v8.out rfl);have D2:=o5.ol;exact okI w1.out o5 w0
  have a5:=f2.step a2;have e6:=n6.trans a2;have g3:=h8.step h9 a2;have e7:=hid (It.seF n4.out c1 rfl);go_wp2_with fail;refine(a3B hV hE gE a1N 24 g3 a5 (by first | (simp;done) | (simp;omega) | omega) (by omega) (by omega)).mono ?_;intro e I9 c5
  cases b1:a2b V E a1N 24 n2 g2 n3 with
  | bad J0=>
   rw[b1] at c5;obtain⟨rfl,r6⟩:=c5;exact bd (It.bad e7.out b1 rfl) ((h.low e6).trans r6)
  | ok o6 J1 J2=>
  rw[b1] at c5;obtain⟨D3,D4,D5,rfl,i6,w2,r7,f4⟩:=c5;have D6:=a1j gE _ _ _ _ _ _ _ _ b1;have w3:=w2 w e6 (Nat.le_refl _);have z8:=i6.sm.le;have w4:=hid (It.ok e7.out b1 rfl)
  try simp only[List.length_append,List.length_cons,List.length_nil] at r7
  obtain⟨d0,d1,d2,d3,d4,d5,d6,d7,d8,d9⟩:=f4.cells;have dz:=f4.fz;go_wp2_with fail;refine(add_any i6.out (by omega) ({ op:=25,n:=nb,kids:=o6,pos:=(V.pos p) }:Nd) _ i6.kids (by first | (simp;done) | (simp;omega) | (show o6.length<=100000;omega))).mono ?_;clear d0 d1 d2 d3 d4 d5 d6 d7 d8 d9 dz;rintro e J3 ⟨rfl,o7,w5⟩;have w6:=w3.trans w5;have w7:=hid (It.done w4.out rfl);have D7:=o7.ol;exact okI w7.out o7 w6
 have a4:=f1.step a1;have e3:=m7.trans a1;have g0:=h1.step h2 a1;have e4:=hid (It.seF m5.out b8 rfl);go_wp2_with fail;refine(a3B hV hE gE a1n 22 g0 a4 (by first | (simp;done) | (simp;omega) | omega) (by omega) (by omega)).mono ?_;intro e J4 c6
 cases b2:a2b V E a1n 22 [e2] f8 m2 with
 | bad J5=>
  rw[b2] at c6;obtain⟨rfl,r8⟩:=c6;exact bd (It.bad e4.out b2 rfl) ((h.low e3).trans r8)
 | ok o8 g5 o9=>
 rw[b2] at c6;obtain⟨D8,D9,E0,rfl,e8,w8,r9,l0⟩:=c6;have E1:=a1j gE _ _ _ _ _ _ _ _ b2;have w9:=w8 w e3 (Nat.le_refl _);have z9:=e8.sm.le;have p0:=hid (It.ok e4.out b2 rfl)
 try simp only[List.length_append,List.length_cons,List.length_nil] at r9
 go_wp2_with fail;refine(a0v hV e8.sm).mono ?_;rintro e J6 ⟨rfl,p1⟩;have i7:=e8.sm.spB p1;have x0:=e8.sm.below p1;have f5:=l0.step i7;have p2:=w9.trans i7;have i8:=e8.step x0 i7;go_wp2_with fail;refine(a0N hV i8.sm a6z).mono ?_;rintro e J7 (⟨c7,rfl,i9,a3⟩ | ⟨c7,rfl,i9,a3⟩)
 .have a6:=f5.step a3;have e9:=p2.trans a3;have g6:=i8.step i9 a3;have f0:=hid (It.seT p0.out c7 rfl);have E2:=a0c c7;go_wp2_with fail;refine(a0u hV g6.sm k_by).mono ?_;rintro e J8 (⟨c8,rfl,x1,j0⟩ | ⟨c8,rfl,s0⟩)
  rotate_left
  .exact bd (It.mustF f0.out c8 rfl) ((h.low e9).trans s0)
  have l1:=a6.step j0;have p3:=e9.trans j0;have p4:=g6.step x1 j0;have p5:=hid (It.mustT f0.out c8 rfl);have E3:=a0c c8;go_wp2_with fail;refine(a1s (n:=m+1) hV a1g hE gE (by omega) p4.sm (by omega) (by omega)).mono ?_;intro e J9 c9
  cases b3:(a0F V E) ((g5+1)+1) o9 with
  | bad K0=>
   rw[b3] at c9;obtain⟨rfl,s1⟩:=c9;exact bd (It.bad p5.out b3 rfl) ((h.low p3).trans s1)
  | ok j1 x2 j2=>
  rw[b3] at c9;obtain⟨E4,E5,rfl,g7,j3,E6⟩:=c9;have E7:=(a0D gE (by omega)) _ _ _ _ _ b3;have l2:=l1.step j3;have x3:=p3.trans j3;have A0:=g7.sm.le;have x4:=hid (It.ok p5.out b3 rfl);have s2:=p4.step g7.out j3;go_wp2_with fail;refine(add_any g7.out (by omega) ({ op:=23,kids:=j1,pos:=V.pos g5 }:Nd) _ g7.kids (show j1.length<=100000 by omega)).mono ?_;rintro e K1 ⟨rfl,p6,j4⟩;have l3:=l2.step j4;have x5:=x3.trans j4;have x6:=s2.step p6 j4;have p7:=hid (It.layT x4.out rfl);have E8:=p6.ol
  go_wp2_with (at_builtin;refine a0s rfl _ _ rfl rfl x6 l3 (j2.length:Int) rfl rfl (by first | (simp;done) | (simp;omega) | omega) ?_;intro K2 K3 p8 x7 l4;obtain⟨E9,F1,F2,x8⟩:=a1J p8.row;subst x8);have p9:=x7 w x5 (Nat.le_refl _);go_wp2_with fail;refine(a3B hV hE gE a1N 24 p8 l4 (by first | (simp;done) | (simp;omega) | omega) (by omega) (by omega)).mono ?_;intro e K4 e0
  cases b4:a2b V E a1N 24 (o8++[(j2.length:Int)]) x2 (j2++[({ op:=23,kids:=j1,pos:=V.pos g5 }:Nd)]) with
  | bad K5=>
   rw[b4] at e0;obtain⟨rfl,s3⟩:=e0;exact bd (It.bad p7.out b4 rfl) ((h.low p9).trans s3)
  | ok q0 K6 K7=>
  rw[b4] at e0;obtain⟨F3,F4,F5,rfl,j5,x9,s4,f6⟩:=e0;have F6:=a1j gE _ _ _ _ _ _ _ _ b4;have y0:=x9 w p9 (Nat.le_refl _);have A1:=j5.sm.le;have y1:=hid (It.ok p7.out b4 rfl)
  try simp only[List.length_append,List.length_cons,List.length_nil] at s4
  obtain⟨d0,d1,d2,d3,d4,d5,d6,d7,d8,d9⟩:=f6.cells;have dz:=f6.fz;go_wp2_with fail;refine(add_any j5.out (by omega) ({ op:=25,n:=nb,kids:=q0,pos:=(V.pos p) }:Nd) _ j5.kids (by first | (simp;done) | (simp;omega) | (show q0.length<=100000;omega))).mono ?_;clear d0 d1 d2 d3 d4 d5 d6 d7 d8 d9 dz;rintro e K8 ⟨rfl,q1,y2⟩;have y3:=y0.trans y2;have y4:=hid (It.done y1.out rfl);have F7:=q1.ol;exact okI y4.out q1 y3
 have a6:=f5.step a3;have e9:=p2.trans a3;have g6:=i8.step i9 a3;have f0:=hid (It.seF p0.out c7 rfl);go_wp2_with fail;refine(a3B hV hE gE a1N 24 g6 a6 (by first | (simp;done) | (simp;omega) | omega) (by omega) (by omega)).mono ?_;intro e K9 e1
 cases b5:a2b V E a1N 24 o8 g5 o9 with
 | bad L3=>
  rw[b5] at e1;obtain⟨rfl,s5⟩:=e1;exact bd (It.bad f0.out b5 rfl) ((h.low e9).trans s5)
 | ok q2 L4 L5=>
 rw[b5] at e1;obtain⟨F8,F9,G0,rfl,j6,y5,s6,f7⟩:=e1;have G1:=a1j gE _ _ _ _ _ _ _ _ b5;have y6:=y5 w e9 (Nat.le_refl _);have A2:=j6.sm.le;have y7:=hid (It.ok f0.out b5 rfl)
 try simp only[List.length_append,List.length_cons,List.length_nil] at s6
 obtain⟨d0,d1,d2,d3,d4,d5,d6,d7,d8,d9⟩:=f7.cells;have dz:=f7.fz;go_wp2_with fail;refine(add_any j6.out (by omega) ({ op:=25,n:=nb,kids:=q2,pos:=(V.pos p) }:Nd) _ j6.kids (by first | (simp;done) | (simp;omega) | (show q2.length<=100000;omega))).mono ?_;clear d0 d1 d2 d3 d4 d5 d6 d7 d8 d9 dz;rintro e L6 ⟨rfl,q3,y8⟩;have y9:=y6.trans y8;have z0:=hid (It.done y7.out rfl);have G2:=q3.ol;exact okI z0.out q3 y9
end
end Go.Proofs.YtphmpkpcamgjeaaGreatDoor
namespace Go.Proofs.YtphmpkpcamgjeaaGreatDoor
open Go.ChangeShapes Go.WideShapes Go.ChangeAt Go.RowKit Go.Proofs.Tryz
open Go.Maps
section
variable {V : Env} {Mx : DataW Unit} {r B : Nat} {D : Nat -> Prop} {w : World} {p : Nat} {o : List Nd} {m : Nat} {E Q : M Int}
theorem b9I (hV:IV V Mx) (hE:a0p V Mx 147 (m+1) E) (gE:Gro 999 E) (h:IM V Mx r B D w p o) (hn:V.ts.length-p<m+1) (hl:o.length<=1000*p+500) :
 Calls prog 151 #[.pointer (some ⟨r,0,none⟩)] w fun e w'=>IPost V Mx r B D vInt (keyF V E p o) w e w':=by
 have hT:=hV.n;have hle:=h.le;obtain⟨F0,L0⟩:=hidEq (keyF V E p o);rw[<- L0.out];go_enter func151,ntmps151;go_wp2_with fail;refine(a0v hV h).mono ?_;rintro e j8 ⟨rfl,h2⟩;have j9:=h.spB h2;have f8:=h.below h2;have h3:=h.sp.trans j9;have h1:=NI.new f8 { op:=29,pos:=(V.pos p) };have k0:=f8.sp.alloc (.cells (ndA { op:=29,pos:=(V.pos p) } (.slice none 0 0)) 42);have k1:=f8.alloc (.cells (ndA { op:=29,pos:=(V.pos p) } (.slice none 0 0)) 42);have ng_n:w.heap.size<=j8.heap.size:=h3.size;have h4:=h3.trans k0;go_wp2_with fail;refine(hE k1 (by omega) (by omega)).mono ?_;intro e q2 j0;rcases j0.cs with⟨q3,c3,rfl,j1⟩ | ⟨a6,a0,a1,c3,rfl,h5,h6⟩
 .exact bd (It.bad L0.out c3 rfl) ((h.low h4).trans j1)
 have o7:=gE _ _ _ _ _ c3;have e8:=h1.step h6;have h7:=h4.trans h6;have o6:=h5.le;have f9:=hid (It.ok L0.out c3 rfl);go_wp2_with fail;refine(a0N hV h5 b3h).mono ?_;rintro e q4 (⟨b8,rfl,g0,c7⟩ | ⟨b8,rfl,g0,c7⟩)
 .have a7:=e8.step c7;have c8:=h7.trans c7;have o8:=a0c b8;have L2:=hid (show F0=keyE V a6 0 (V.pos p) (a0+1) a1 from(It.seF f9.out (a3m b8 (t:=a7n) (by simp[ByteArray.toList_eq])) rfl).trans (by rw[b8];rfl));go_wp2_with fail;refine(a0N hV g0 a4y).mono ?_;rintro e q5 (⟨c4,rfl,g1,c9⟩ | ⟨c4,rfl,g1,c9⟩)
  .have a8:=a7.step c9;have e0:=c8.trans c9;have f1:=hid (It.seT L2.out c4 rfl);have o9:=a0c c4;go_wp2_with fail;refine(a6l hV g1 [a1o,a1W] (by simp)).mono ?_;intro e q6 b2
   cases b3:sees V ((a0+1)+1) a1o with
   | true=>
    have f2:=hid (It.seT f1.out b3 rfl);rw[show a0Z V [a1o,a1W] ((a0+1)+1) a1=.ok 1 (((a0+1)+1)+1) a1 by simp[a0Z,pick,b3]] at b2;obtain⟨rfl,g2,e1⟩:=b2;have j2:=a0c b3;have a3:=a8.step e1;have g3:=e0.trans e1;obtain⟨d0,d1,d2,d3,d4,d5,d6,d7,d8,d9⟩:=a3.cells;have dz:=a3.fz;have k2:=a3.im g2 4 (.int .i64 1);have k3:=g3.set (j:=4) (.int .i64 1) ng_n;go_wp2_with fail;refine(addZ k2 (by omega) ({ op:=29,m:=1,kids:=[a6],pos:=(V.pos p) }:Nd) (by simp)).mono ?_;clear d0 d1 d2 d3 d4 d5 d6 d7 d8 d9 dz;rintro e q7 ⟨rfl,h8,k4⟩;have k5:=k3.trans k4;have k6:=hid (It.done f2.out rfl);have p0:=h8.ol;exact okI k6.out h8 k5
   | false=>
   have f2:=hid (It.seF f1.out b3 rfl)
   cases b9:sees V ((a0+1)+1) a1W with
   | false=>
    rw[show a0Z V [a1o,a1W] ((a0+1)+1) a1=.bad ((a0+1)+1) by simp[a0Z,pick,b3,b9]] at b2;obtain⟨rfl,j3⟩:=b2;exact bd (It.mustF f2.out b9 rfl) ((h.low e0).trans j3)
   | true=>
   have k7:=hid (It.mustT f2.out b9 rfl);rw[show a0Z V [a1o,a1W] ((a0+1)+1) a1=.ok 2 (((a0+1)+1)+1) a1 by simp[a0Z,pick,b3,b9]] at b2;obtain⟨rfl,g2,e1⟩:=b2;have j2:=a0c b9;have a3:=a8.step e1;have g3:=e0.trans e1;obtain⟨d0,d1,d2,d3,d4,d5,d6,d7,d8,d9⟩:=a3.cells;have dz:=a3.fz;have k8:=a3.im g2 4 (.int .i64 2);have k9:=g3.set (j:=4) (.int .i64 2) ng_n;go_wp2_with fail;refine(addZ k8 (by omega) ({ op:=29,m:=2,kids:=[a6],pos:=(V.pos p) }:Nd) (by simp)).mono ?_;clear d0 d1 d2 d3 d4 d5 d6 d7 d8 d9 dz;rintro e q8 ⟨rfl,h9,l0⟩;have l1:=k9.trans l0;have l2:=hid (It.done k7.out rfl);have p1:=h9.ol;exact okI l2.out h9 l1
  have a8:=a7.step c9;have e0:=c8.trans c9;have f1:=hid (It.seF L2.out c4 rfl);obtain⟨d0,d1,d2,d3,d4,d5,d6,d7,d8,d9⟩:=a8.cells;have dz:=a8.fz;go_wp2_with fail;refine(addZ g1 (by omega) ({ op:=29,kids:=[a6],pos:=(V.pos p) }:Nd) (by simp)).mono ?_;clear d0 d1 d2 d3 d4 d5 d6 d7 d8 d9 dz;rintro e q9 ⟨rfl,i0,l3⟩;have l4:=e0.trans l3;have l5:=hid (It.done f1.out rfl);have p2:=i0.ol;exact okI l5.out i0 l4
 have a7:=e8.step c7;have c8:=h7.trans c7;go_wp2_with fail;refine(a3j hV g0 a7n).mono ?_;rintro e i1 ⟨rfl,b1,f3⟩
 cases c0:sees V a0 a7n with
 | false=>
  rw[c0] at b1;replace b1:IM V Mx r B _ i1 a0 a1:=b1;have a2:=a7.step f3;have g4:=c8.trans f3;rw[show bit false=0 from rfl];have L2:=hid (show F0=keyE V a6 0 (V.pos p) a0 a1 from(It.seF f9.out c0 rfl).trans (by rw[b8];rfl));obtain⟨d0,d1,d2,d3,d4,d5,d6,d7,d8,d9⟩:=a2.cells;have dz:=a2.fz;have e9:=a2.set 3 (.int .i64 0) { op:=29,n:=0,pos:=(V.pos p) } rfl;have l6:=a2.im b1 3 (.int .i64 0);have i2:=g4.set (j:=3) (.int .i64 0) ng_n;go_wp2_with fail;clear d0 d1 d2 d3 d4 d5 d6 d7 d8 d9 dz;refine(a0N hV l6 a4y).mono ?_;rintro e r0 (⟨c5,rfl,g5,e2⟩ | ⟨c5,rfl,g5,e2⟩)
  .have a9:=e9.step e2;have e3:=i2.trans e2;have f4:=hid (It.seT L2.out c5 rfl);have p3:=a0c c5;go_wp2_with fail;refine(a6l hV g5 [a1o,a1W] (by simp)).mono ?_;intro e r1 b4
   cases b5:sees V (a0+1) a1o with
   | true=>
    have f5:=hid (It.seT f4.out b5 rfl);rw[show a0Z V [a1o,a1W] (a0+1) a1=.ok 1 ((a0+1)+1) a1 by simp[a0Z,pick,b5]] at b4;obtain⟨rfl,g6,e4⟩:=b4;have j4:=a0c b5;have a4:=a9.step e4;have g7:=e3.trans e4;obtain⟨d0,d1,d2,d3,d4,d5,d6,d7,d8,d9⟩:=a4.cells;have dz:=a4.fz;have l7:=a4.im g6 4 (.int .i64 1);have l8:=g7.set (j:=4) (.int .i64 1) ng_n;go_wp2_with fail;refine(addZ l7 (by omega) ({ op:=29,n:=0,m:=1,kids:=[a6],pos:=(V.pos p) }:Nd) (by simp)).mono ?_;clear d0 d1 d2 d3 d4 d5 d6 d7 d8 d9 dz;rintro e r2 ⟨rfl,i3,l9⟩;have m0:=l8.trans l9;have m1:=hid (It.done f5.out rfl);have p4:=i3.ol;exact okI m1.out i3 m0
   | false=>
   have f5:=hid (It.seF f4.out b5 rfl)
   cases c1:sees V (a0+1) a1W with
   | false=>
    rw[show a0Z V [a1o,a1W] (a0+1) a1=.bad (a0+1) by simp[a0Z,pick,b5,c1]] at b4;obtain⟨rfl,j5⟩:=b4;exact bd (It.mustF f5.out c1 rfl) ((h.low e3).trans j5)
   | true=>
   have m2:=hid (It.mustT f5.out c1 rfl);rw[show a0Z V [a1o,a1W] (a0+1) a1=.ok 2 ((a0+1)+1) a1 by simp[a0Z,pick,b5,c1]] at b4;obtain⟨rfl,g6,e4⟩:=b4;have j4:=a0c c1;have a4:=a9.step e4;have g7:=e3.trans e4;obtain⟨d0,d1,d2,d3,d4,d5,d6,d7,d8,d9⟩:=a4.cells;have dz:=a4.fz;have m3:=a4.im g6 4 (.int .i64 2);have m4:=g7.set (j:=4) (.int .i64 2) ng_n;go_wp2_with fail;refine(addZ m3 (by omega) ({ op:=29,n:=0,m:=2,kids:=[a6],pos:=(V.pos p) }:Nd) (by simp)).mono ?_;clear d0 d1 d2 d3 d4 d5 d6 d7 d8 d9 dz;rintro e r3 ⟨rfl,i4,m5⟩;have m6:=m4.trans m5;have m7:=hid (It.done m2.out rfl);have p5:=i4.ol;exact okI m7.out i4 m6
  have a9:=e9.step e2;have e3:=i2.trans e2;have f4:=hid (It.seF L2.out c5 rfl);obtain⟨d0,d1,d2,d3,d4,d5,d6,d7,d8,d9⟩:=a9.cells;have dz:=a9.fz;go_wp2_with fail;refine(addZ g5 (by omega) ({ op:=29,n:=0,kids:=[a6],pos:=(V.pos p) }:Nd) (by simp)).mono ?_;clear d0 d1 d2 d3 d4 d5 d6 d7 d8 d9 dz;rintro e r4 ⟨rfl,i5,m8⟩;have m9:=e3.trans m8;have n0:=hid (It.done f4.out rfl);have p6:=i5.ol;exact okI n0.out i5 m9
 | true=>
 rw[c0] at b1;replace b1:IM V Mx r B _ i1 (a0+1) a1:=b1;have a2:=a7.step f3;have g4:=c8.trans f3;rw[show bit true=1 from rfl];have L2:=hid (It.seT f9.out c0 rfl);have p7:=a0c c0;obtain⟨d0,d1,d2,d3,d4,d5,d6,d7,d8,d9⟩:=a2.cells;have dz:=a2.fz;have f0:=a2.set 3 (.int .i64 1) { op:=29,n:=1,pos:=(V.pos p) } rfl;have n1:=a2.im b1 3 (.int .i64 1);have i6:=g4.set (j:=3) (.int .i64 1) ng_n;go_wp2_with fail;clear d0 d1 d2 d3 d4 d5 d6 d7 d8 d9 dz;refine(a0N hV n1 a4y).mono ?_;rintro e r5 (⟨c6,rfl,g8,e5⟩ | ⟨c6,rfl,g8,e5⟩)
 .have b0:=f0.step e5;have e6:=i6.trans e5;have f6:=hid (It.seT L2.out c6 rfl);have p8:=a0c c6;go_wp2_with fail;refine(a6l hV g8 [a1o,a1W] (by simp)).mono ?_;intro e r6 b6
  cases b7:sees V ((a0+1)+1) a1o with
  | true=>
   have f7:=hid (It.seT f6.out b7 rfl);rw[show a0Z V [a1o,a1W] ((a0+1)+1) a1=.ok 1 (((a0+1)+1)+1) a1 by simp[a0Z,pick,b7]] at b6;obtain⟨rfl,g9,e7⟩:=b6;have j6:=a0c b7;have a5:=b0.step e7;have h0:=e6.trans e7;obtain⟨d0,d1,d2,d3,d4,d5,d6,d7,d8,d9⟩:=a5.cells;have dz:=a5.fz;have n2:=a5.im g9 4 (.int .i64 1);have n3:=h0.set (j:=4) (.int .i64 1) ng_n;go_wp2_with fail;refine(addZ n2 (by omega) ({ op:=29,n:=1,m:=1,kids:=[a6],pos:=(V.pos p) }:Nd) (by simp)).mono ?_;clear d0 d1 d2 d3 d4 d5 d6 d7 d8 d9 dz;rintro e r7 ⟨rfl,i7,n4⟩;have n5:=n3.trans n4;have n6:=hid (It.done f7.out rfl);have p9:=i7.ol;exact okI n6.out i7 n5
  | false=>
  have f7:=hid (It.seF f6.out b7 rfl)
  cases c2:sees V ((a0+1)+1) a1W with
  | false=>
   rw[show a0Z V [a1o,a1W] ((a0+1)+1) a1=.bad ((a0+1)+1) by simp[a0Z,pick,b7,c2]] at b6;obtain⟨rfl,j7⟩:=b6;exact bd (It.mustF f7.out c2 rfl) ((h.low e6).trans j7)
  | true=>
  have n7:=hid (It.mustT f7.out c2 rfl);rw[show a0Z V [a1o,a1W] ((a0+1)+1) a1=.ok 2 (((a0+1)+1)+1) a1 by simp[a0Z,pick,b7,c2]] at b6;obtain⟨rfl,g9,e7⟩:=b6;have j6:=a0c c2;have a5:=b0.step e7;have h0:=e6.trans e7;obtain⟨d0,d1,d2,d3,d4,d5,d6,d7,d8,d9⟩:=a5.cells;have dz:=a5.fz;have n8:=a5.im g9 4 (.int .i64 2);have n9:=h0.set (j:=4) (.int .i64 2) ng_n;go_wp2_with fail;refine(addZ n8 (by omega) ({ op:=29,n:=1,m:=2,kids:=[a6],pos:=(V.pos p) }:Nd) (by simp)).mono ?_;clear d0 d1 d2 d3 d4 d5 d6 d7 d8 d9 dz;rintro e r8 ⟨rfl,i8,o0⟩;have o1:=n9.trans o0;have o2:=hid (It.done n7.out rfl);have q0:=i8.ol;exact okI o2.out i8 o1
 have b0:=f0.step e5;have e6:=i6.trans e5;have f6:=hid (It.seF L2.out c6 rfl);obtain⟨d0,d1,d2,d3,d4,d5,d6,d7,d8,d9⟩:=b0.cells;have dz:=b0.fz;go_wp2_with fail;refine(addZ g8 (by omega) ({ op:=29,n:=1,kids:=[a6],pos:=(V.pos p) }:Nd) (by simp)).mono ?_;clear d0 d1 d2 d3 d4 d5 d6 d7 d8 d9 dz;rintro e r9 ⟨rfl,i9,o3⟩;have o4:=e6.trans o3;have o5:=hid (It.done f6.out rfl);have q1:=i9.ol;exact okI o5.out i9 o4
end
end Go.Proofs.YtphmpkpcamgjeaaGreatDoor
