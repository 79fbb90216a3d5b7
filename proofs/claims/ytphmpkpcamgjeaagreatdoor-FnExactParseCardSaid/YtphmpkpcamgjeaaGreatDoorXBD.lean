import Derived.Test.YtphmpkpcamgjeaaGreatDoorXAA
import Derived.Test.YtphmpkpcamgjeaaGreatDoorXBC
set_option linter.unusedVariables false
set_option linter.unusedSimpArgs false
set_option maxRecDepth 100000
set_option maxHeartbeats 16000000
namespace Go.Proofs.YtphmpkpcamgjeaaGreatDoor
open Go.ChangeShapes Go.WideShapes Go.ChangeAt Go.RowKit Go.Proofs.Tryz
open Go.Maps
def cM (a b c:Bool):Int:=bit a+2*bit b+4*bit c
def colF (V:Env) (E G:M Int):M Int:=fun p o=>(name V p o).bind fun s q o=>(a3s V q o).bind fun kd q o=>colL V E G s kd (V.pos p) (V.ts.length+1) false false false [] q o
theorem b8W {V:Env} {E:M Int} {p:Nat} {o:List Nd} {β:Type} {K:Int->Nat->List Nd->R β} (h:sees V p a1D=true):(a3r V E (V.pos p) (p+1) o).bind K=(chkF V E p o).bind K:=by
 unfold chkF;rw[show must V a1D p o=.ok () (p+1) o by simp[must,h],R.bind_ok]
theorem b5s {V:Env} {E:M Int} (hE:Gro 999 E):Gro 1000 (chkF V E):=fun p o a q o' h=>by
 unfold chkF at h;simp only[R.bind_iff,a0E] at h;obtain⟨_,_,_,⟨_,rfl,rfl⟩,h1⟩:=h;have e1:=a4D hE _ _ _ _ _ _ h1;omega
theorem b5t {V:Env} {E G:M Int} {s:ByteArray} {kd ps:Int} {k q:Nat} {a b c:Bool} {ks:List Int} {o:List Nd} (hk:V.ts.length-q<k):colL V E G s kd ps k a b c ks q o =
    if sees V q a1t then(must V a1h (q+1) o).bind fun _ q o=>colL V E G s kd ps (k-1) true b c ks q o
    else if sees V q a2i then(must V a7o (q+1) o).bind fun _ q o=>colL V E G s kd ps (k-1) a true c ks q o
    else if sees V q a0W then colL V E G s kd ps (k-1) a b true ks (q+1) o
    else if sees V q a2h then(G (q+1) o).bind fun x q2 o=>(lay { op:=51,kids:=[x],pos:=V.pos q } q2 o).bind fun y q2 o=>colL V E G s kd ps (k-1) a b c (ks++[y]) q2 o
    else if sees V q a1D then(a3r V E (V.pos q) (q+1) o).bind fun x q o=>colL V E G s kd ps (k-1) a b c (ks++[x]) q o
 else lay { op:=50,name:=s,n:=kd,m:=cM a b c,kids:=ks,pos:=ps } q o:=by
 obtain⟨k',rfl⟩:∃ k',k=k'+1:=⟨k-1,by omega⟩;rfl
theorem orM1 (a b c:Bool):bits BinOp.or IntKind.i64 (cM a b c) 1=cM true b c:=by cases a<;>cases b<;>cases c<;>first | rfl | decide | (show _=_;kernel_rfl)
theorem orM2 (a b c:Bool):bits BinOp.or IntKind.i64 (cM a b c) 2=cM a true c:=by cases a<;>cases b<;>cases c<;>first | rfl | decide | (show _=_;kernel_rfl)
theorem orM4 (a b c:Bool):bits BinOp.or IntKind.i64 (cM a b c) 4=cM a b true:=by cases a<;>cases b<;>cases c<;>first | rfl | decide | (show _=_;kernel_rfl)
section
variable {V : Env} {Mx : DataW Unit} {r B : Nat} {D : Nat -> Prop} {w : World} {p : Nat} {o : List Nd} {m : Nat} {E Q : M Int}
theorem b5u (hV:IV V Mx) (hE:a0p V Mx 147 m E) (gE:Gro 999 E) {G:M Int} (hG:a0p V Mx 171 m G) (gG:Gro 999 G) (h:IM V Mx r B D w p o) (hn:V.ts.length-p<m) (hl:o.length<=1000*p+500) :
 Calls prog 149 #[.pointer (some ⟨r,0,none⟩)] w fun e w'=>IPost V Mx r B D vInt (colF V E G p o) w e w':=by
 have hT:=hV.n;have hle:=h.le;obtain⟨F0,L0⟩:=hidEq (colF V E G p o);rw[<- L0.out];go_enter func149,ntmps149;go_wp2_with fail;refine(a0v hV h).mono ?_;rintro e f1 ⟨rfl,i1⟩;have l5:=h.spB i1;have f3:=h.below i1;have i2:=h.sp.trans l5;have h0:=NI.new f3 { op:=50,pos:=(V.pos p) };have l6:=f3.sp.alloc (.cells (ndA { op:=50,pos:=(V.pos p) } (.slice none 0 0)) 42);have l7:=f3.alloc (.cells (ndA { op:=50,pos:=(V.pos p) } (.slice none 0 0)) 42);have ng_n:w.heap.size<=f1.heap.size:=i2.size;have i3:=i2.trans l6;go_wp2_with fail;refine(a3k hV l7).mono ?_;rintro e s1 (⟨b9,rfl,l8,i4⟩ | ⟨b9,rfl,k6⟩)
 rotate_left
 .exact bd (It.nameF L0.out b9 rfl) ((h.low i3).trans k6)
 have a5:=h0.step i4;have l9:=i3.trans i4;have i5:=hid (It.nameT L0.out b9 rfl);have q2:=a3V b9;generalize hnm:V.tx p=nm at *;clear hnm;obtain⟨d0,d1,d2,d3,d4,d5,d6,d7,d8,d9⟩:=a5.cells;have dz:=a5.fz;have h1:=a5.set 1 (.string nm) { op:=50,name:=nm,pos:=(V.pos p) } rfl;have m0:=a5.im l8 1 (.string nm);have i6:=l9.set (j:=1) (.string nm) ng_n;go_wp2_with fail;refine(b6x hV m0).mono ?_;clear d0 d1 d2 d3 d4 d5 d6 d7 d8 d9 dz;intro e s3 k7;rcases k7.cs with⟨s4,c0,rfl,k8⟩ | ⟨a1,m1,m2,c0,rfl,i7,i8⟩
 .exact bd (It.bad i5.out c0 rfl) ((h.low i6).trans k8)
 have q3:=a4l _ _ _ _ _ c0;have a2:=h1.step i8;have i9:=i6.trans i8;have p9:=i7.le;have m3:=hid (It.ok i5.out c0 rfl);have j0:=PI.nil (b:=w.heap.size) i7 i9.size;obtain⟨d0,d1,d2,d3,d4,d5,d6,d7,d8,d9⟩:=a2.cells;have dz:=a2.fz;have h2:=a2.set 3 (.int .i64 a1) { op:=50,name:=nm,n:=a1,pos:=(V.pos p) } rfl;have s5:=a2.im j0.sm 3 (.int .i64 a1);have m4:=i9.set (j:=3) (.int .i64 a1) ng_n;have m5:=a2.pi j0 3 (.int .i64 a1);go_wp2_with fail;clear d0 d1 d2 d3 d4 d5 d6 d7 d8 d9 dz;have p7:NI r _ f1.heap.size { op:=50,name:=nm,n:=a1,m:=cM false false false,pos:=(V.pos p) }:=h2
 go_loopw [4] (fun kv wr=>∃ (a b c:Bool) (ks:List Int) (k q:Nat) (o2:List Nd) (va:Option Addr) (vn vc:Nat),kv=.slice va vn vc/\PI V Mx r B D w.heap.size wr q o2 (.slice va vn vc) ks/\NI r wr f1.heap.size { op:=50,name:=nm,n:=a1,m:=(cM a b c),pos:=(V.pos p) }/\Sp 4 r w wr/\Hid (F0=colL V E G nm a1 (V.pos p) k a b c ks q o2)/\V.ts.length-q<k/\p<=q/\o2.length<=1000*q+500/\ks.length+(V.ts.length-q)<=4000) (fun _ wr=>V.ts.length-atI r wr)
 case atStart=>exact⟨false,false,false,[],V.ts.length+1,m1,m2,_,_,_,rfl,m5,p7,m4,m3,by omega,by omega,by omega,by simp;omega⟩
 case round=>
 obtain⟨a,b,c,ks,k,q,o2,va,vn,vc,rfl,f2,n2,s2,L2,p8,s6,v3,s7⟩:=hrel;have s8:=f2.sm.le;have f0:=f2.sm.atI;have L3:=hid (L2.out.trans (b5t p8));go_wp2_with fail;refine(a0v hV f2.sm).mono ?_;rintro e s9 ⟨rfl,j1⟩;have f4:=f2.sm.spB j1;have m6:=f2.sm.below j1;have e5:=n2.step f4;have j2:=s2.trans f4;have f5:=f2.step m6 f4;go_wp2_with fail;refine(a0N hV f5.sm a1t).mono ?_;rintro e t0 (⟨c1,rfl,f6,a8⟩ | ⟨c1,rfl,f6,a8⟩)
 .have a6:=e5.step a8;have e0:=j2.trans a8;have b6:=f5.step f6 a8;have e1:=hid (It.seT L3.out c1 rfl);have q4:=a0c c1;go_wp2_with fail;refine(a0u hV b6.sm a1h).mono ?_;rintro e t1 (⟨c2,rfl,m7,f7⟩ | ⟨c2,rfl,k9⟩)
  rotate_left
  .exact bd (It.mustF e1.out c2 rfl) ((h.low e0).trans k9)
  have a3:=a6.step f7;have m8:=e0.trans f7;have j3:=b6.step m7 f7;have m9:=hid (It.mustT e1.out c2 rfl);have q5:=a0c c2;obtain⟨d0,d1,d2,d3,d4,d5,d6,d7,d8,d9⟩:=a3.cells;have dz:=a3.fz;have hor:=orM1 a b c;have h3:=a3.set 4 (.int .i64 (cM true b c)) { op:=50,name:=nm,n:=a1,m:=(cM true b c),pos:=(V.pos p) } rfl;have t2:=a3.im j3.sm 4 (.int .i64 (cM true b c));have n0:=m8.set (j:=4) (.int .i64 (cM true b c)) ng_n;have j4:=a3.pi j3 4 (.int .i64 (cM true b c));have b5:=j4.sm.atI;go_wp2;go_roundw
  case rel=>exact⟨true,b,c,ks,k-1,_,_,_,_,_,rfl,j4,h3,n0,m9,by omega,by omega,by omega,by first | omega | (simp;omega)⟩
  case measure=>rw[f0,b5];omega
 have a6:=e5.step a8;have e0:=j2.trans a8;have b6:=f5.step f6 a8;have e1:=hid (It.seF L3.out c1 rfl);go_wp2_with fail;refine(a0N hV b6.sm a2i).mono ?_;rintro e t3 (⟨c3,rfl,f8,a9⟩ | ⟨c3,rfl,f8,a9⟩)
 .have a7:=a6.step a9;have e2:=e0.trans a9;have b7:=b6.step f8 a9;have e3:=hid (It.seT e1.out c3 rfl);have q6:=a0c c3;go_wp2_with fail;refine(a0u hV b7.sm a7o).mono ?_;rintro e t4 (⟨c4,rfl,n1,f9⟩ | ⟨c4,rfl,l0⟩)
  rotate_left
  .exact bd (It.mustF e3.out c4 rfl) ((h.low e2).trans l0)
  have a4:=a7.step f9;have n3:=e2.trans f9;have j5:=b7.step n1 f9;have n4:=hid (It.mustT e3.out c4 rfl);have q7:=a0c c4;obtain⟨d0,d1,d2,d3,d4,d5,d6,d7,d8,d9⟩:=a4.cells;have dz:=a4.fz;have hor:=orM2 a b c;have h4:=a4.set 4 (.int .i64 (cM a true c)) { op:=50,name:=nm,n:=a1,m:=(cM a true c),pos:=(V.pos p) } rfl;have t5:=a4.im j5.sm 4 (.int .i64 (cM a true c));have n5:=n3.set (j:=4) (.int .i64 (cM a true c)) ng_n;have j6:=a4.pi j5 4 (.int .i64 (cM a true c));have b5:=j6.sm.atI;go_wp2;go_roundw
  case rel=>exact⟨a,true,c,ks,k-1,_,_,_,_,_,rfl,j6,h4,n5,n4,by omega,by omega,by omega,by first | omega | (simp;omega)⟩
  case measure=>rw[f0,b5];omega
 have a7:=a6.step a9;have e2:=e0.trans a9;have b7:=b6.step f8 a9;have e3:=hid (It.seF e1.out c3 rfl);go_wp2_with fail;refine(a0N hV b7.sm a0W).mono ?_;rintro e t6 (⟨c5,rfl,g0,b0⟩ | ⟨c5,rfl,g0,b0⟩)
 .have a0:=a7.step b0;have e6:=e2.trans b0;have b8:=b7.step g0 b0;have e7:=hid (It.seT e3.out c5 rfl);have q8:=a0c c5;obtain⟨d0,d1,d2,d3,d4,d5,d6,d7,d8,d9⟩:=a0.cells;have dz:=a0.fz;have hor:=orM4 a b c;have h5:=a0.set 4 (.int .i64 (cM a b true)) { op:=50,name:=nm,n:=a1,m:=(cM a b true),pos:=(V.pos p) } rfl;have t7:=a0.im b8.sm 4 (.int .i64 (cM a b true));have n6:=e6.set (j:=4) (.int .i64 (cM a b true)) ng_n;have j7:=a0.pi b8 4 (.int .i64 (cM a b true));have b5:=j7.sm.atI;go_wp2;go_roundw
  case rel=>exact⟨a,b,true,ks,k-1,_,_,_,_,_,rfl,j7,h5,n6,e7,by omega,by omega,by omega,by first | omega | (simp;omega)⟩
  case measure=>rw[f0,b5];omega
 have a0:=a7.step b0;have e6:=e2.trans b0;have b8:=b7.step g0 b0;have e7:=hid (It.seF e3.out c5 rfl);go_wp2_with fail;refine(a0N hV b8.sm a2h).mono ?_;rintro e t8 (⟨c6,rfl,g1,b1⟩ | ⟨c6,rfl,g1,b1⟩)
 .have b3:=a0.step b1;have e8:=e6.trans b1;have b2:=b8.step g1 b1;have e4:=hid (It.seT e7.out c6 rfl);have q9:=a0c c6;go_wp2_with fail;refine(hG b2.sm (by omega) (by omega)).mono ?_;intro e t9 l1;rcases l1.cs with⟨u0,c7,rfl,l2⟩ | ⟨n7,u1,j8,c7,rfl,j9,g2⟩
  .exact bd (It.bad e4.out c7 rfl) ((h.low e8).trans l2)
  have r0:=gG _ _ _ _ _ c7;have h6:=b3.step g2;have n8:=e8.trans g2;have k0:=b2.step j9 g2;have q0:=j9.le;have n9:=hid (It.ok e4.out c7 rfl);go_wp2_with fail;refine(addZ k0.sm (by omega) ({ op:=51,kids:=[n7],pos:=V.pos q }:Nd) (by simp)).mono ?_;rintro e u2 ⟨rfl,k1,g3⟩;have h7:=h6.step g3;have o0:=n8.trans g3;have o1:=k0.step k1 g3;have o3:=hid (It.layT n9.out rfl);have r1:=k1.ol;go_wp2_with (at_builtin;refine a0s rfl _ _ rfl rfl o1 h7 (j8.length:Int) rfl rfl (by first | (simp;done) | (simp;omega) | omega) ?_;intro u3 u4 g4 o4 h8;obtain⟨r2,r3,r4,o5⟩:=a1J g4.row;subst o5);have o6:=o4 w o0 (Nat.le_refl _);have b5:=g4.sm.atI;go_wp2;go_roundw
  case rel=>exact⟨a,b,c,(ks++[(j8.length:Int)]),k-1,_,_,_,_,_,rfl,g4,h8,o6,o3,by omega,by omega,by omega,by first | omega | (simp;omega)⟩
  case measure=>rw[f0,b5];omega
 have b3:=a0.step b1;have e8:=e6.trans b1;have b2:=b8.step g1 b1;have e4:=hid (It.seF e7.out c6 rfl);go_wp2_with fail;refine(a3L hV b2.sm a1D).mono ?_;rintro e u5 ⟨rfl,k2⟩;have g5:=b2.sm.spB k2;have o7:=b2.sm.below k2;have b4:=b3.step g5;have g6:=e8.trans g5;have e9:=b2.step o7 g5
 cases c8:sees V q a1D with
 | false=>
  have g7:=hid (It.seF e4.out c8 rfl);obtain⟨d0,d1,d2,d3,d4,d5,d6,d7,d8,d9⟩:=b4.cells;have dz:=b4.fz;go_wp2_with fail;refine(add_any e9.out (by omega) ({ op:=50,name:=nm,n:=a1,m:=(cM a b c),kids:=ks,pos:=(V.pos p) }:Nd) _ e9.kids (show ks.length<=100000 by omega)).mono ?_;clear d0 d1 d2 d3 d4 d5 d6 d7 d8 d9 dz;rintro e u6 ⟨rfl,k3,o8⟩;have o9:=g6.trans o8;have p0:=hid (It.done g7.out rfl);have r5:=k3.ol;exact okI p0.out k3 o9
 | true=>
 have g7:=hid (It.seT e4.out c8 rfl);have r6:=a0c c8;have M1:=hid (g7.out.trans (b8W c8));go_wp2_with fail;refine(b3y hV hE gE e9.sm (by omega) (by omega)).mono ?_;intro e u7 l3;rcases l3.cs with⟨u8,c9,rfl,l4⟩ | ⟨k4,u9,v0,c9,rfl,k5,g8⟩
 .exact bd (It.bad M1.out c9 rfl) ((h.low g6).trans l4)
 have r7:=(b5s gE) _ _ _ _ _ c9;have h9:=b4.step g8;have p1:=g6.trans g8;have p2:=e9.step k5 g8;have q1:=k5.le;have p3:=hid (It.ok M1.out c9 rfl);go_wp2_with (at_builtin;refine a0s rfl _ _ rfl rfl p2 h9 k4 rfl rfl (by first | (simp;done) | (simp;omega) | omega) ?_;intro v1 v2 g9 p4 i0;obtain⟨r8,r9,s0,p5⟩:=a1J g9.row;subst p5);have p6:=p4 w p1 (Nat.le_refl _);have b5:=g9.sm.atI;go_wp2;go_roundw
 case rel=>exact⟨a,b,c,(ks++[k4]),k-1,_,_,_,_,_,rfl,g9,i0,p6,p3,by omega,by omega,by omega,by first | omega | (simp;omega)⟩
 case measure=>rw[f0,b5];omega
end
end Go.Proofs.YtphmpkpcamgjeaaGreatDoor
namespace Go.Proofs.YtphmpkpcamgjeaaGreatDoor
open Go.ChangeShapes Go.WideShapes Go.ChangeAt Go.RowKit Go.Proofs.Tryz
open Go.Maps
section
variable {V : Env} {Mx : DataW Unit} {r B : Nat} {D : Nat -> Prop} {w : World} {p : Nat} {o : List Nd} {m : Nat} {E Q : M Int}
theorem b3z (hV:IV V Mx) (hE:a0p V Mx 147 m E) (gE:Gro 999 E) {G:M Int} (hG:a0p V Mx 171 m G) (gG:Gro 999 G) (hN:a0p V Mx 112 m (a0R V)) (h:IM V Mx r B D w p o) (hn:V.ts.length-p<m) (hl:o.length<=1000*p+500) :
 Calls prog 117 #[.pointer (some ⟨r,0,none⟩)] w fun e w'=>IPost V Mx r B D vInt (a2u V E G p o) w e w':=by
 have hmf:=@mkf;have hT:=hV.n;have hle:=h.le;obtain⟨F0,L0⟩:=hidEq (a2u V E G p o);rw[<- L0.out];go_enter func117,ntmps117;go_wp2_with fail;refine(a0v hV h).mono ?_;rintro e i2 ⟨rfl,c2⟩;have e1:=h.spB c2;have e2:=h.below c2;have c3:=h.sp.trans e1;go_wp2_with fail;refine(a0N hV e2 a2i).mono ?_;rintro e i3 (⟨a2,rfl,b7,b8⟩ | ⟨a2,rfl,b7,b8⟩)
 .have a8:=c3.trans b8;have a9:=hid (It.seT L0.out a2 rfl);have g8:=a0c a2;go_wp2_with fail;refine(a0u hV b7 a7o).mono ?_;rintro e i4 (⟨a3,rfl,e3,e4⟩ | ⟨a3,rfl,d4⟩)
  rotate_left
  .exact bd (It.mustF a9.out a3 rfl) ((h.low a8).trans d4)
  have c4:=a8.trans e4;have c5:=hid (It.mustT a9.out a3 rfl);have g9:=a0c a3;go_wp2_with fail;refine(a1v (n:=m) hV a3n hN a0O (by omega) (by omega) e3 (by omega) (by omega)).mono ?_;intro e i5 a4
  cases a0:(a1E V (a0R V)) ((p+1)+1) o with
  | bad i6=>
   rw[a0] at a4;obtain⟨rfl,d5⟩:=a4;exact bd (It.bad c5.out a0 rfl) ((h.low c4).trans d5)
  | ok c6 i7 i8=>
  rw[a0] at a4;obtain⟨h0,h1,rfl,b9,e5,h2⟩:=a4;have h3:=(a1d a0O (by omega)) _ _ _ _ _ a0;have e6:=c4.trans e5;have g4:=b9.sm.le;have e7:=hid (It.ok c5.out a0 rfl);go_wp2_with fail;refine(add_any b9.out (by omega) ({ op:=53,kids:=c6,pos:=V.pos p }:Nd) _ b9.kids (show c6.length<=100000 by omega)).mono ?_;rintro e i9 ⟨rfl,c7,e8⟩;have e9:=e6.trans e8;have f0:=hid (It.done e7.out rfl);have h4:=c7.ol;exact okI f0.out c7 e9
 have a8:=c3.trans b8;have a9:=hid (It.seF L0.out a2 rfl);go_wp2_with fail;refine(a0N hV b7 a0W).mono ?_;rintro e j0 (⟨a5,rfl,b0,c0⟩ | ⟨a5,rfl,b0,c0⟩)
 .have b2:=a8.trans c0;have b1:=hid (It.seT a9.out a5 rfl);have h5:=a0c a5;go_wp2_with fail;refine(a1v (n:=m) hV a3n hN a0O (by omega) (by omega) b0 (by omega) (by omega)).mono ?_;intro e j1 a6
  cases a1:(a1E V (a0R V)) (p+1) o with
  | bad j2=>
   rw[a1] at a6;obtain⟨rfl,d6⟩:=a6;exact bd (It.bad b1.out a1 rfl) ((h.low b2).trans d6)
  | ok c8 j3 j4=>
  rw[a1] at a6;obtain⟨h6,h7,rfl,c1,f1,h8⟩:=a6;have h9:=(a1d a0O (by omega)) _ _ _ _ _ a1;have f2:=b2.trans f1;have g5:=c1.sm.le;have f3:=hid (It.ok b1.out a1 rfl);go_wp2_with fail;refine(add_any c1.out (by omega) ({ op:=54,kids:=c8,pos:=V.pos p }:Nd) _ c1.kids (show c8.length<=100000 by omega)).mono ?_;rintro e j5 ⟨rfl,c9,f4⟩;have f5:=f2.trans f4;have f6:=hid (It.done f3.out rfl);have i0:=c9.ol;exact okI f6.out c9 f5
 have b2:=a8.trans c0;have b1:=hid (It.seF a9.out a5 rfl);go_wp2_with fail;refine(a3L hV b0 a1D).mono ?_;rintro e j6 ⟨rfl,d0⟩;have f7:=b0.spB d0;have d1:=b0.below d0;have b3:=b2.trans f7
 cases a7:sees V p a1D with
 | false=>
  have b4:=hid (It.seF b1.out a7 rfl);go_wp2_with fail;refine(b5u hV hE gE hG gG d1 (by omega) (by omega)).mono ?_;intro e j7 d7;rcases d7.cs with⟨j8,b5,rfl,d8⟩ | ⟨j9,k0,k1,b5,rfl,d2,f8⟩
  .exact bd (It.tail b4.out b5 rfl) ((h.low b3).trans d8)
  have f9:=b3.trans f8;have g6:=d2.le;have g0:=hid (It.tail b4.out b5 rfl);exact okI g0.out d2 f9
 | true=>
 have b4:=hid (It.seT b1.out a7 rfl);have i1:=a0c a7;have M1:=hid (show F0=chkF V E p o from b4.out.trans (by unfold chkF;rw[show must V a1D p o=.ok () (p+1) o by simp[must,a7],R.bind_ok]));go_wp2_with fail;refine(b3y hV hE gE d1 (by omega) (by omega)).mono ?_;intro e k2 d9;rcases d9.cs with⟨k3,b6,rfl,e0⟩ | ⟨k4,k5,k6,b6,rfl,d3,g1⟩
 .exact bd (It.tail M1.out b6 rfl) ((h.low b3).trans e0)
 have g2:=b3.trans g1;have g7:=d3.le;have g3:=hid (It.tail M1.out b6 rfl);exact okI g3.out d3 g2
theorem b5v (hV:IV V Mx) (gE:Gro 999 E) {G:M Int} (gG:Gro 999 G) (hL:a0p V Mx 117 m (a2u V E G)) (hN:a0p V Mx 112 m (a0R V)) (ps:Int) (h:IM V Mx r B D w p o) (hn:V.ts.length-p<m) (hl:o.length<=1000*p+500) :
 Calls prog 72 #[.pointer (some ⟨r,0,none⟩),.int .i64 ps] w fun e w'=>IPost V Mx r B D vInt (a2U V E G ps p o) w e w':=by
 have hmf:=@mkf;have hT:=hV.n;have hle:=h.le;obtain⟨F0,L0⟩:=hidEq (a2U V E G ps p o);rw[<- L0.out];go_enter func72,ntmps72;go_wp2_with fail;refine(a0N hV h a2Q).mono ?_;rintro e l4 (⟨a5,rfl,b7,b8⟩ | ⟨a5,rfl,b7,b8⟩)
 .have b4:=h.sp.trans b8;have b5:=hid (It.seT L0.out a5 rfl);have j8:=a0c a5;go_wp2_with fail;refine(a3k hV b7).mono ?_;rintro e l5 (⟨a6,rfl,h0,h1⟩ | ⟨a6,rfl,f8⟩)
  rotate_left
  .exact bd (It.nameF b5.out a6 rfl) ((h.low b4).trans f8)
  have c7:=b4.trans h1;have c8:=hid (It.nameT b5.out a6 rfl);have j9:=a3V a6;go_wp2_with fail;refine(a1v (n:=m) hV b1T hL (a4q gE gG) (by omega) (by omega) h0 (by omega) (by omega)).mono ?_;intro e l6 a7
  cases a3:(a1E V (a2u V E G)) ((p+1)+1) o with
  | bad l7=>
   rw[a3] at a7;obtain⟨rfl,f9⟩:=a7;exact bd (It.bad c8.out a3 rfl) ((h.low c7).trans f9)
  | ok c9 l8 l9=>
  rw[a3] at a7;obtain⟨k0,k1,rfl,b9,h2,k2⟩:=a7;have k3:=(a1d (a4q gE gG) (by omega)) _ _ _ _ _ a3;have h3:=c7.trans h2;have j4:=b9.sm.le;have h4:=hid (It.ok c8.out a3 rfl);go_wp2_with fail;refine(add_any b9.out (by omega) ({ op:=49,name:=(V.tx (p+1)),kids:=c9,pos:=ps }:Nd) _ b9.kids (show c9.length<=100000 by omega)).mono ?_;rintro e m0 ⟨rfl,e0,h5⟩;have h6:=h3.trans h5;have h7:=hid (It.done h4.out rfl);have k4:=e0.ol;exact okI h7.out e0 h6
 have b4:=h.sp.trans b8;have b5:=hid (It.seF L0.out a5 rfl);go_wp2_with fail;refine(a3j hV b7 a0W).mono ?_;rintro e a0 ⟨rfl,b6,h8⟩;have j5:=a5z (sees V p a0W);have e1:=b4.trans h8;have j6:=b6.le;obtain⟨nb,hnb⟩:∃ nb,nb=bit (sees V p a0W):=⟨_,rfl⟩;rw[<- hnb];have M1:=hid (show F0=(must V a2o (p+stp (sees V p a0W)) o).bind (fun _ q o=>(name V q o).bind fun s q o=>(must V k_on q o).bind fun _ q o=>(name V q o).bind fun x q o=>(a1E V (a0R V) q o).bind fun ks q o=>lay { op:=55,name:=s,qual:=x,n:=nb,kids:=ks,pos:=ps } q o) from by rw[hnb];exact b5.out);clear hnb;generalize hqq:(p+stp (sees V p a0W))=qq at *
 have hqp:p<=qq:=by omega
 clear hqq;have c1:=NI.new b6 { op:=55,n:=nb,pos:=ps };have h9:=b6.sp.alloc (.cells (ndA { op:=55,n:=nb,pos:=ps } (.slice none 0 0)) 42);have i0:=b6.alloc (.cells (ndA { op:=55,n:=nb,pos:=ps } (.slice none 0 0)) 42);have ng_n:w.heap.size<=a0.heap.size:=e1.size;have e2:=e1.trans h9;go_wp2_with fail;refine(a0u hV i0 a2o).mono ?_;rintro e m1 (⟨a8,rfl,i1,e3⟩ | ⟨a8,rfl,g0⟩)
 rotate_left
 .exact bd (It.mustF M1.out a8 rfl) ((h.low e2).trans g0)
 have c2:=c1.step e3;have e4:=e2.trans e3;have e5:=hid (It.mustT M1.out a8 rfl);have k5:=a0c a8;go_wp2_with fail;refine(a3k hV i1).mono ?_;rintro e m2 (⟨a9,rfl,i2,e6⟩ | ⟨a9,rfl,g1⟩)
 rotate_left
 .exact bd (It.nameF e5.out a9 rfl) ((h.low e4).trans g1)
 have a1:=c2.step e6;have i3:=e4.trans e6;have e7:=hid (It.nameT e5.out a9 rfl);have k6:=a3V a9;generalize hnm:V.tx (qq+1)=nm at *;clear hnm;obtain⟨d0,d1,d2,d3,d4,d5,d6,d7,d8,d9⟩:=a1.cells;have dz:=a1.fz;have c3:=a1.set 1 (.string nm) { op:=55,n:=nb,name:=nm,pos:=ps } rfl;have i4:=a1.im i2 1 (.string nm);have e8:=i3.set (j:=1) (.string nm) ng_n;go_wp2_with fail;refine(a0u hV i4 k_on).mono ?_;clear d0 d1 d2 d3 d4 d5 d6 d7 d8 d9 dz;rintro e m3 (⟨b0,rfl,i5,e9⟩ | ⟨b0,rfl,g2⟩)
 rotate_left
 .exact bd (It.mustF e7.out b0 rfl) ((h.low e8).trans g2)
 have c4:=c3.step e9;have f0:=e8.trans e9;have f1:=hid (It.mustT e7.out b0 rfl);have k7:=a0c b0;go_wp2_with fail;refine(a3k hV i5).mono ?_;rintro e m4 (⟨b1,rfl,i6,f2⟩ | ⟨b1,rfl,g3⟩)
 rotate_left
 .exact bd (It.nameF f1.out b1 rfl) ((h.low f0).trans g3)
 have a2:=c4.step f2;have i7:=f0.trans f2;have f3:=hid (It.nameT f1.out b1 rfl);have k8:=a3V b1;generalize hxn:V.tx (((qq+1)+1)+1)=xn at *;clear hxn;obtain⟨d0,d1,d2,d3,d4,d5,d6,d7,d8,d9⟩:=a2.cells;have dz:=a2.fz;have b3:=a2.set 2 (.string xn) { op:=55,n:=nb,name:=nm,qual:=xn,pos:=ps } rfl;have f4:=a2.im i6 2 (.string xn);have i8:=i7.set (j:=2) (.string xn) ng_n;have g4:=hid b3.cells;go_wp2
 refine a0a (S:=(fun W=>W.cell? ⟨a0.heap.size,0,none⟩=some (.int .i64 55)/\W.cell? ⟨a0.heap.size,1,none⟩=some (.string nm)/\W.cell? ⟨a0.heap.size,2,none⟩=some (.string xn)/\W.cell? ⟨a0.heap.size,3,none⟩=some (.int .i64 nb)/\W.cell? ⟨a0.heap.size,4,none⟩=some (.int .i64 0)/\W.cell? ⟨a0.heap.size,5,none⟩=some (.int .i64 0)/\W.cell? ⟨a0.heap.size,6,none⟩=some (.int .i64 0)/\W.cell? ⟨a0.heap.size,7,none⟩=some (.string ⟨#[]⟩)/\W.cell? ⟨a0.heap.size,8,none⟩=some (.slice none 0 0)/\W.cell? ⟨a0.heap.size,9,none⟩=some (.int .i64 ps))) (late:=[6,7]) (by kernel_rfl) (by first | exact g4.out | go_keep) (fun hHeld=>?_);refine tT 0 rfl hHeld ?_
 try simp only[Act.put,q1,q2,q3]
 refine tL 1 rfl hHeld ?_
 try simp only[Act.put,q1,q2,q3]
 refine tT 2 rfl hHeld ?_
 try simp only[Act.put,q1,q2,q3]
 refine tT 3 rfl hHeld ?_
 try simp only[Act.put,q1,q2,q3]
 refine tT 4 rfl hHeld ?_
 try simp only[Act.put,q1,q2,q3]
 have g5:=f4.below ((Below.refl _ _).drew);have c6:=i8.drew;have g6:=b3.step (f4.sp.drew);refine rE 5 rfl fun K hK=>?_;go_simp;refine(a1v (n:=m) hV a3n hN a0O (by omega) (by omega) g5 (by omega) (by omega)).mono ?_;intro e m5 b2
 cases a4:a1E V (a0R V) ((((qq+1)+1)+1)+1) o with
 | bad m6=>
  rw[a4] at b2;obtain⟨rfl,g7⟩:=b2;have g8:=hid (It.bad f3.out a4 rfl);have g9:=(h.low c6).trans g7;go_simp;exact⟨rfl,IPost.bad g8.out rfl g9⟩
 | ok f5 m7 m8=>
 rw[a4] at b2;obtain⟨k9,l0,rfl,c0,f6,l1⟩:=b2;have l2:=(a1d a0O (by omega)) _ _ _ _ _ a4;have c5:=g6.step f6;have i9:=c6.trans f6;have j7:=c0.sm.le;have j0:=hid (It.ok f3.out a4 rfl);refine hK _ _ ⟨c5.cells,?_⟩;clear hK K
 try simp only[Act.put,q1,q2,q3]
 refine rL 6 rfl fun K hK=>?_;go_simp;refine(add_any c0.out (by omega) ({ op:=55,n:=nb,name:=nm,qual:=xn,kids:=f5,pos:=ps }:Nd) _ c0.kids (show f5.length<=100000 by omega)).mono ?_;rintro e m9 ⟨rfl,f7,j1⟩;have j2:=i9.trans j1;have j3:=hid (It.done j0.out rfl);have l3:=f7.ol;refine hK _ _ ?_;clear hK K
 try simp only[Act.put,q1,q2,q3]
 refine rL 7 rfl fun K hK=>?_;go_simp;refine hK _ _ ?_;clear hK K
 try simp only[Act.put,q1,q2,q3]
 refine a0h (by kernel_rfl) ?_ _;exact okI j3.out f7 j2
end
end Go.Proofs.YtphmpkpcamgjeaaGreatDoor
namespace Go.Proofs.YtphmpkpcamgjeaaGreatDoor
open Go.ChangeShapes Go.WideShapes Go.ChangeAt Go.RowKit Go.Proofs.Tryz
open Go.Maps
section
variable {V : Env} {Mx : DataW Unit} {r B : Nat} {D : Nat -> Prop} {w : World} {p : Nat} {o : List Nd} {m : Nat} {E Q : M Int}
theorem b5q (hV:IV V Mx) (hE:a0p V Mx 147 m E) (gE:Gro 999 E) (hS:a0p V Mx 115 m (setF V E)) (ps:Int) (h:IM V Mx r B D w p o) (hn:V.ts.length-p<m) (hl:o.length<=1000*p+500) :
 Calls prog 70 #[.pointer (some ⟨r,0,none⟩),.int .i64 ps] w fun e w'=>IPost V Mx r B D vInt (a2T V E ps p o) w e w':=by
 have hmf:=@mkf;have hT:=hV.n;have hle:=h.le;obtain⟨F0,L0⟩:=hidEq (a2T V E ps p o);rw[<- L0.out];go_enter func70,ntmps70;go_wp2_with fail;refine(a3k hV h).mono ?_;rintro e a0 (⟨a3,rfl,a8,d5⟩ | ⟨a3,rfl,c4⟩)
 rotate_left
 .exact bd (It.nameF L0.out a3 rfl) ((h.low h.sp).trans c4)
 have b4:=h.sp.trans d5;have b5:=hid (It.nameT L0.out a3 rfl);have f1:=a3V a3;generalize hnm:V.tx p=nm at *;clear hnm;have b1:=NI.new a8 { op:=46,name:=nm,pos:=ps };have d6:=a8.sp.alloc (.cells (ndA { op:=46,name:=nm,pos:=ps } (.slice none 0 0)) 42);have d7:=a8.alloc (.cells (ndA { op:=46,name:=nm,pos:=ps } (.slice none 0 0)) 42);have ng_n:w.heap.size<=a0.heap.size:=b4.size;have b6:=b4.trans d6;go_wp2_with fail;refine(a0u hV d7 b7d).mono ?_;rintro e g2 (⟨a4,rfl,d8,b7⟩ | ⟨a4,rfl,c5⟩)
 rotate_left
 .exact bd (It.mustF b5.out a4 rfl) ((h.low b6).trans c5)
 have b2:=b1.step b7;have a9:=b6.trans b7;have b8:=hid (It.mustT b5.out a4 rfl);have f2:=a0c a4;go_wp2_with fail;refine(a1s (n:=m) hV b8H hS (a5g gE) (by omega) d8 (by omega) (by omega)).mono ?_;intro e g3 a5
 cases a1:(a0F V (setF V E)) ((p+1)+1) o with
 | bad g4=>
  rw[a1] at a5;obtain⟨rfl,c6⟩:=a5;exact bd (It.bad b8.out a1 rfl) ((h.low a9).trans c6)
 | ok d9 e0 e1=>
 rw[a1] at a5;obtain⟨f3,f4,rfl,b9,c0,f5⟩:=a5;have f6:=(a0D (a5g gE) (by omega)) _ _ _ _ _ a1;have a7:=b2.step c0;have e2:=a9.trans c0;have e9:=b9.sm.le;have c1:=hid (It.ok b8.out a1 rfl);have fx:=b9.loose a9.size;have c7:=hid a7.cells;go_wp2
 refine a0a (S:=(fun W=>W.cell? ⟨a0.heap.size,0,none⟩=some (.int .i64 46)/\W.cell? ⟨a0.heap.size,1,none⟩=some (.string nm)/\W.cell? ⟨a0.heap.size,2,none⟩=some (.string ⟨#[]⟩)/\W.cell? ⟨a0.heap.size,3,none⟩=some (.int .i64 0)/\W.cell? ⟨a0.heap.size,4,none⟩=some (.int .i64 0)/\W.cell? ⟨a0.heap.size,5,none⟩=some (.int .i64 0)/\W.cell? ⟨a0.heap.size,6,none⟩=some (.int .i64 0)/\W.cell? ⟨a0.heap.size,7,none⟩=some (.string ⟨#[]⟩)/\W.cell? ⟨a0.heap.size,8,none⟩=some (.slice none 0 0)/\W.cell? ⟨a0.heap.size,9,none⟩=some (.int .i64 ps))) (late:=[5,6]) (by kernel_rfl) (by first | exact c7.out | go_keep) (fun hHeld=>?_);refine tT 0 rfl hHeld ?_
 try simp only[Act.put,q1,q2,q3]
 refine tL 1 rfl hHeld ?_
 try simp only[Act.put,q1,q2,q3]
 refine tT 2 rfl hHeld ?_
 try simp only[Act.put,q1,q2,q3]
 refine tT 3 rfl hHeld ?_
 try simp only[Act.put,q1,q2,q3]
 have c8:=fx.below ((Below.refl _ _).drew);have b3:=e2.drew;have c9:=a7.step (fx.sm.sp.drew);refine rE 4 rfl fun K hK=>?_;go_simp;refine(a3B (m:=m) hV hE gE a1n 22 c8 c9 (by first | (simp;done) | (simp;omega) | omega) (by omega) (by omega)).mono ?_;intro e g5 a6
 cases a2:a2b V E a1n 22 d9 e0 e1 with
 | bad g6=>
  rw[a2] at a6;obtain⟨rfl,d0⟩:=a6;have d1:=hid (It.bad c1.out a2 rfl);have d2:=(h.low b3).trans d0;go_simp;exact⟨rfl,IPost.bad d1.out rfl d2⟩
 | ok c2 g7 g8=>
 rw[a2] at a6;obtain⟨f7,f8,f9,rfl,b0,e3,d3,d4⟩:=a6;have g0:=a1j gE _ _ _ _ _ _ _ _ a2;have e4:=e3 w b3 (Nat.le_refl _);have f0:=b0.sm.le;have e5:=hid (It.ok c1.out a2 rfl)
 try simp only[List.length_append,List.length_cons,List.length_nil] at d3
 refine hK _ _ ⟨d4.cells,?_⟩;clear hK K
 try simp only[Act.put,q1,q2,q3]
 refine rL 5 rfl fun K hK=>?_;go_simp;refine(add_any b0.out (by omega) ({ op:=46,name:=nm,kids:=c2,pos:=ps }:Nd) _ b0.kids (show c2.length<=100000 by omega)).mono ?_;rintro e g9 ⟨rfl,c3,e6⟩;have e7:=e4.trans e6;have e8:=hid (It.done e5.out rfl);have g1:=c3.ol;refine hK _ _ ?_;clear hK K
 try simp only[Act.put,q1,q2,q3]
 refine rL 6 rfl fun K hK=>?_;go_simp;refine hK _ _ ?_;clear hK K
 try simp only[Act.put,q1,q2,q3]
 refine a0h (by kernel_rfl) ?_ _;exact okI e8.out c3 e7
theorem b1W (hV:IV V Mx) (hE:a0p V Mx 147 m E) (gE:Gro 999 E) (ps:Int) (h:IM V Mx r B D w p o) (hn:V.ts.length-p<m) (hl:o.length<=1000*p+500) :
 Calls prog 71 #[.pointer (some ⟨r,0,none⟩),.int .i64 ps] w fun e w'=>IPost V Mx r B D vInt (a3v V E ps p o) w e w':=by
 have hT:=hV.n;have hle:=h.le;obtain⟨F0,L0⟩:=hidEq (a3v V E ps p o);rw[<- L0.out];go_enter func71,ntmps71;go_wp2_with fail;refine(a0u hV h a2z).mono ?_;rintro e e5 (⟨a2,rfl,c6,c7⟩ | ⟨a2,rfl,b6⟩)
 rotate_left
 .exact bd (It.mustF L0.out a2 rfl) ((h.low h.sp).trans b6)
 have a9:=h.sp.trans c7;have b0:=hid (It.mustT L0.out a2 rfl);have d8:=a0c a2;go_wp2_with fail;refine(a3k hV c6).mono ?_;rintro e a0 (⟨a3,rfl,a6,c8⟩ | ⟨a3,rfl,b7⟩)
 rotate_left
 .exact bd (It.nameF b0.out a3 rfl) ((h.low a9).trans b7)
 have b1:=a9.trans c8;have b2:=hid (It.nameT b0.out a3 rfl);have d9:=a3V a3;generalize hnm:V.tx (p+1)=nm at *;clear hnm;have a5:=NI.new a6 { op:=48,name:=nm,pos:=ps };have c9:=a6.sp.alloc (.cells (ndA { op:=48,name:=nm,pos:=ps } (.slice none 0 0)) 42);have d0:=a6.alloc (.cells (ndA { op:=48,name:=nm,pos:=ps } (.slice none 0 0)) 42);have ng_n:w.heap.size<=a0.heap.size:=b1.size;have b3:=b1.trans c9;have fx:=PI.nil (b:=w.heap.size) d0 b3.size;have b8:=hid a5.cells;go_wp2
 refine a0a (S:=(fun W=>W.cell? ⟨a0.heap.size,0,none⟩=some (.int .i64 48)/\W.cell? ⟨a0.heap.size,1,none⟩=some (.string nm)/\W.cell? ⟨a0.heap.size,2,none⟩=some (.string ⟨#[]⟩)/\W.cell? ⟨a0.heap.size,3,none⟩=some (.int .i64 0)/\W.cell? ⟨a0.heap.size,4,none⟩=some (.int .i64 0)/\W.cell? ⟨a0.heap.size,5,none⟩=some (.int .i64 0)/\W.cell? ⟨a0.heap.size,6,none⟩=some (.int .i64 0)/\W.cell? ⟨a0.heap.size,7,none⟩=some (.string ⟨#[]⟩)/\W.cell? ⟨a0.heap.size,8,none⟩=some (.slice none 0 0)/\W.cell? ⟨a0.heap.size,9,none⟩=some (.int .i64 ps))) (late:=[4,5]) (by kernel_rfl) (by first | exact b8.out | go_keep) (fun hHeld=>?_);refine tT 0 rfl hHeld ?_
 try simp only[Act.put,q1,q2,q3]
 refine tL 1 rfl hHeld ?_
 try simp only[Act.put,q1,q2,q3]
 refine tT 2 rfl hHeld ?_
 try simp only[Act.put,q1,q2,q3]
 have b9:=fx.below ((Below.refl _ _).drew);have a8:=b3.drew;have c0:=a5.step (fx.sm.sp.drew);refine rE 3 rfl fun K hK=>?_;go_simp;refine(a3B (m:=m) hV hE gE a1n 22 b9 c0 (by first | (simp;done) | (simp;omega) | omega) (by omega) (by omega)).mono ?_;intro e e6 a4
 cases a1:a2b V E a1n 22 [] ((p+1)+1) o with
 | bad e7=>
  rw[a1] at a4;obtain⟨rfl,c1⟩:=a4;have c2:=hid (It.bad b2.out a1 rfl);have c3:=(h.low a8).trans c1;go_simp;exact⟨rfl,IPost.bad c2.out rfl c3⟩
 | ok b4 e8 e9=>
 rw[a1] at a4;obtain⟨e0,e1,e2,rfl,a7,d1,c4,c5⟩:=a4;have e3:=a1j gE _ _ _ _ _ _ _ _ a1;have d2:=d1 w a8 (Nat.le_refl _);have d7:=a7.sm.le;have d3:=hid (It.ok b2.out a1 rfl)
 try simp only[List.length_append,List.length_cons,List.length_nil] at c4
 refine hK _ _ ⟨c5.cells,?_⟩;clear hK K
 try simp only[Act.put,q1,q2,q3]
 refine rL 4 rfl fun K hK=>?_;go_simp;refine(add_any a7.out (by omega) ({ op:=48,name:=nm,kids:=b4,pos:=ps }:Nd) _ a7.kids (show b4.length<=100000 by omega)).mono ?_;rintro e f0 ⟨rfl,b5,d4⟩;have d5:=d2.trans d4;have d6:=hid (It.done d3.out rfl);have e4:=b5.ol;refine hK _ _ ?_;clear hK K
 try simp only[Act.put,q1,q2,q3]
 refine rL 5 rfl fun K hK=>?_;go_simp;refine hK _ _ ?_;clear hK K
 try simp only[Act.put,q1,q2,q3]
 refine a0h (by kernel_rfl) ?_ _;exact okI d6.out b5 d5
end
end Go.Proofs.YtphmpkpcamgjeaaGreatDoor
