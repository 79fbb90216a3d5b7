import Derived.Test.YtphmpkpcamgjeaaGreatDoorXAA
import Derived.Test.YtphmpkpcamgjeaaGreatDoorXAX
set_option linter.unusedVariables false
set_option linter.unusedSimpArgs false
set_option maxRecDepth 100000
set_option maxHeartbeats 16000000
namespace Go.Proofs.YtphmpkpcamgjeaaGreatDoor
open Go.ChangeShapes Go.WideShapes Go.ChangeAt Go.RowKit Go.Proofs.Tryz
open Go.Maps
def b3u (V:Env) (E:M Int) (k:Nat) (ks:List Int):M (List Int):=fun q o=>(E q o).bind fun a p o=>(must V a4M p o).bind fun _ p o=>(E p o).bind fun b p o=>if sees V p a1f then a1X V E k (ks++[a,b]) p o else .ok (ks++[a,b]) p o
theorem a3W {V:Env} {E:M Int} {k:Nat} {ks:List Int} {p:Nat} {o:List Nd} (hk:0<k):a1X V E k ks p o=(must V a1f p o).bind fun _ p o=>b3u V E (k-1) ks p o:=by
 obtain⟨k',rfl⟩:∃ k',k=k'+1:=⟨k-1,by omega⟩;rfl
theorem R.bind_assoc {α β γ:Type} (x:R α) (f:α->Nat->List Nd->R β) (g:β->Nat->List Nd->R γ):(x.bind f).bind g=x.bind fun a p o=>(f a p o).bind g:=by cases x<;>rfl
def a4R (V:Env) (E:M Int) (mm ps:Int) (b:Bool) (k:Nat) (ks:List Int):M Int:=fun q o=>if b=true then(b3u V E k ks q o).bind fun ks p o=>a1Y V E mm ps ks p o else a1Y V E mm ps ks q o
theorem b0X {V:Env} {E:M Int} {mm ps:Int} {k:Nat} {ks:List Int} {q:Nat} {o:List Nd}:a4R V E mm ps true k ks q o=(E q o).bind fun a p o=>(must V a4M p o).bind fun _ p o=>(E p o).bind fun b p o=>(if sees V p a1f then a1X V E k (ks++[a,b]) p o else .ok (ks++[a,b]) p o).bind fun ks p o=>a1Y V E mm ps ks p o:=by
 unfold a4R b3u;rw[if_pos rfl];simp only[R.bind_assoc]
theorem b0Y {V:Env} {E:M Int} {mm ps:Int} {k:Nat} {ks:List Int} {q:Nat} {o:List Nd} (hs:sees V q a1f=true) (hk:0<k):((if sees V q a1f then a1X V E k ks q o else .ok ks q o).bind fun ks p o=>a1Y V E mm ps ks p o)=a4R V E mm ps true (k-1) ks (q+1) o:=by
 rw[if_pos hs,a3W hk,show must V a1f q o=.ok () (q+1) o by simp[must,hs],R.bind_ok];rfl
theorem b0Z {V:Env} {E:M Int} {mm ps:Int} {k j:Nat} {ks:List Int} {q:Nat} {o:List Nd} (hs:sees V q a1f=false):((if sees V q a1f then a1X V E k ks q o else .ok ks q o).bind fun ks p o=>a1Y V E mm ps ks p o)=a4R V E mm ps false j ks q o:=by
 rw[if_neg (by rw[hs];simp)];rfl
section
variable {V : Env} {Mx : DataW Unit} {r B : Nat} {D : Nat -> Prop} {w : World} {p : Nat} {o : List Nd} {m : Nat} {E Q : M Int}
theorem b5i (hV:IV V Mx) (hE:a0p V Mx 147 m E) (gE:Gro 999 E) (ps:Int) (h:IM V Mx r B D w p o) (hn:V.ts.length-p<m) (hl:o.length<=1000*p+500) :
 Calls prog 210 #[.pointer (some ⟨r,0,none⟩),.int .i64 ps] w fun e w'=>IPost V Mx r B D vInt (a3q V E ps p o) w e w':=by
 have hT:=hV.n;have hle:=h.le;obtain⟨F0,L0⟩:=hidEq (a3q V E ps p o);rw[<- L0.out];go_enter func210,ntmps210;have k4:=NI.new h { op:=12,pos:=ps };have t7:=h.sp.alloc (.cells (ndA { op:=12,pos:=ps } (.slice none 0 0)) 42);have t8:=h.alloc (.cells (ndA { op:=12,pos:=ps } (.slice none 0 0)) 42);have ng_n:w.heap.size<=w.heap.size:=h.sp.size;have m6:=h.sp.trans t7;have g0:=PI.nil (b:=w.heap.size) t8 m6.size;go_wp2_with fail;refine(a3L hV g0.sm a1f).mono ?_;rintro e I0 ⟨rfl,m7⟩;have h3:=g0.sm.spB m7;have t9:=g0.sm.below m7;have a2:=k4.step h3;have h4:=m6.trans h3;have g1:=g0.step t9 h3
 cases g8:sees V p a1f with
 | true=>
  have C4:=a0c g8;have L1:=hid (It.seT L0.out g8 rfl);have L2:=hid (show F0=(must V a1f p o).bind (fun _ p o=>a4R V E 0 ps true V.ts.length [] p o) from L1.out.trans (by rw[a3W (by omega),R.bind_assoc];rfl));go_wp2_with fail;refine(a0u hV g1.sm a1f).mono ?_;rintro e I1 (⟨c1,rfl,u0,h5⟩ | ⟨c1,rfl,r5⟩)
  rotate_left
  .exact bd (It.mustF L2.out c1 rfl) ((h.low h4).trans r5)
  have k5:=a2.step h5;have u1:=h4.trans h5;have u2:=g1.step u0 h5;have u3:=hid (It.mustT L2.out c1 rfl);have C5:=a0c c1;go_wp2_with fail;go_loopw [6,7] (fun kv bv wr=>∃ (b:Bool) (ks:List Int) (k q:Nat) (o2:List Nd) (va:Option Addr) (vn vc:Nat),kv=.slice va vn vc/\bv=.bool b/\PI V Mx r B D w.heap.size wr q o2 (.slice va vn vc) ks/\NI r wr w.heap.size ({ op:=12,pos:=ps }:Nd)/\Sp 4 r w wr/\Hid (F0=a4R V E 0 ps b k ks q o2)/\V.ts.length-q<k/\p<=q/\o2.length<=1000*q+500/\ks.length+2*(V.ts.length-q)<=8000) (fun _ _ wr=>V.ts.length-atI r wr)
  case atStart=>exact⟨true,[],V.ts.length,(p+1),o,_,_,_,rfl,rfl,u2,k5,u1,u3,by omega,by omega,by omega,by first | (simp;omega) | omega⟩
  case round=>
  obtain⟨u4,a3,h6,u5,u6,C6,C7,C8,rfl,rfl,a5,g9,g2,m8,C9,A9,D0,B0⟩:=hrel;have B1:=a5.sm.le;have m4:=a5.sm.atI
  have B2:a3.length<=8000:=by omega
  cases u4 with
  | true=>
   have b9:=hid (m8.out.trans b0X);go_wp2_with fail;refine(hE a5.sm (by omega) (by omega)).mono ?_;intro e I2 r6;rcases r6.cs with⟨I3,c2,rfl,r7⟩ | ⟨a6,I4,I5,c2,rfl,m9,h7⟩
   .exact bd (It.bad b9.out c2 rfl) ((h.low g2).trans r7)
   have D1:=gE _ _ _ _ _ c2;have k6:=g9.step h7;have u7:=g2.trans h7;have u8:=a5.step m9 h7;have B3:=m9.le;have n0:=hid (It.ok b9.out c2 rfl);go_wp2_with (at_builtin;refine a0s rfl _ _ rfl rfl u8 k6 a6 rfl rfl (by first | (simp;done) | (simp;omega) | omega) ?_;intro I6 I7 h8 u9 k7;obtain⟨D2,D3,D4,v0⟩:=a1J h8.row;subst v0);have n1:=u9 w u7 (Nat.le_refl _);go_wp2_with fail;refine(a0u hV h8.sm a4M).mono ?_;rintro e I8 (⟨c3,rfl,v1,h9⟩ | ⟨c3,rfl,r8⟩)
   rotate_left
   .exact bd (It.mustF n0.out c3 rfl) ((h.low n1).trans r8)
   have k8:=k7.step h9;have n2:=n1.trans h9;have n3:=h8.step v1 h9;have n4:=hid (It.mustT n0.out c3 rfl);have D5:=a0c c3;go_wp2_with fail;refine(hE n3.sm (by omega) (by omega)).mono ?_;intro e I9 r9;rcases r9.cs with⟨J0,c4,rfl,s0⟩ | ⟨a7,J1,J2,c4,rfl,n5,i0⟩
   .exact bd (It.bad n4.out c4 rfl) ((h.low n2).trans s0)
   have D6:=gE _ _ _ _ _ c4;have k9:=k8.step i0;have v2:=n2.trans i0;have v3:=n3.step n5 i0;have B4:=n5.le;have n6:=hid (It.ok n4.out c4 rfl);go_wp2_with (at_builtin;refine a0s rfl _ _ rfl rfl v3 k9 a7 rfl rfl (by first | (simp;done) | (simp;omega) | omega) ?_;intro J3 J4 g3 v4 f4;obtain⟨D7,D8,D9,v5⟩:=a1J g3.row;subst v5);have n7:=v4 w v2 (Nat.le_refl _);go_wp2_with fail;refine(a0N hV g3.sm a1f).mono ?_;rintro e J5 (⟨c5,rfl,i1,a8⟩ | ⟨c5,rfl,i1,a8⟩)
   .have b7:=f4.step a8;have i2:=n7.trans a8;have a9:=g3.step i1 a8
    have ek:(a3++[a6])++[a7]=(a3++[a6,a7]):=by simp
    rw[ek] at a9;have E0:=a0c c5;have Ln:=hid (n6.out.trans (b0Y c5 (by omega)));have h0:=a9.sm.atI;go_wp2;go_roundw
    case rel=>exact⟨true,(a3++[a6,a7]),h6-1,_,_,_,_,_,rfl,rfl,a9,b7,i2,Ln,by omega,by omega,by omega,by simp;omega⟩
    case measure=>rw[m4,h0];omega
   have b7:=f4.step a8;have i2:=n7.trans a8;have a9:=g3.step i1 a8
   have ek:(a3++[a6])++[a7]=(a3++[a6,a7]):=by simp
   rw[ek] at a9;have Ln:=hid (n6.out.trans (b0Z (j:=h6-1) c5));have h0:=a9.sm.atI;go_wp2;go_roundw
   case rel=>exact⟨false,(a3++[a6,a7]),h6-1,_,_,_,_,_,rfl,rfl,a9,b7,i2,Ln,by omega,by omega,by omega,by simp;omega⟩
   case measure=>rw[m4,h0];omega
  | false=>
  have b9:Hid (F0=a1Y V E 0 ps a3 u5 u6):=m8;go_wp2_with fail;refine(a0N hV a5.sm a7l).mono ?_;rintro e J6 (⟨c6,rfl,i3,b0⟩ | ⟨c6,rfl,i3,b0⟩)
  .have a0:=g9.step b0;have g4:=g2.trans b0;have f0:=a5.step i3 b0;have f1:=hid (It.seT b9.out c6 rfl);have E1:=a0c c6;obtain⟨d0,d1,d2,d3,d4,d5,d6,d7,d8,d9⟩:=a0.cells;have dz:=a0.fz;have l0:=a0.set 3 (.int .i64 1) { op:=12,n:=1,pos:=ps } rfl;have J7:=a0.im f0.sm 3 (.int .i64 1);have n8:=g4.set (j:=3) (.int .i64 1) ng_n;have n9:=a0.pi f0 3 (.int .i64 1);go_wp2_with fail;clear d0 d1 d2 d3 d4 d5 d6 d7 d8 d9 dz;refine(hE n9.sm (by omega) (by omega)).mono ?_;intro e J8 s1;rcases s1.cs with⟨J9,c7,rfl,s2⟩ | ⟨o0,K0,K1,c7,rfl,o1,i4⟩
   .exact bd (It.bad f1.out c7 rfl) ((h.low n8).trans s2)
   have E2:=gE _ _ _ _ _ c7;have l1:=l0.step i4;have v6:=n8.trans i4;have v7:=n9.step o1 i4;have B5:=o1.le;have o3:=hid (It.ok f1.out c7 rfl);go_wp2_with (at_builtin;refine a0s rfl _ _ rfl rfl v7 l1 o0 rfl rfl (by first | (simp;done) | (simp;omega) | omega) ?_;intro K2 K3 i5 v8 l2;obtain⟨E3,E4,E5,v9⟩:=a1J i5.row;subst v9);have o4:=v8 w v6 (Nat.le_refl _);go_wp2_with fail;refine(a0u hV i5.sm a5Q).mono ?_;rintro e K4 (⟨c8,rfl,w0,i6⟩ | ⟨c8,rfl,s3⟩)
   rotate_left
   .exact bd (It.mustF o3.out c8 rfl) ((h.low o4).trans s3)
   have f5:=l2.step i6;have w1:=o4.trans i6;have o5:=i5.step w0 i6;have w2:=hid (It.mustT o3.out c8 rfl);have E6:=a0c c8;obtain⟨d0,d1,d2,d3,d4,d5,d6,d7,d8,d9⟩:=f5.cells;have dz:=f5.fz;go_wp2_with fail;refine(add_any o5.out (by omega) ({ op:=12,n:=1,kids:=(a3++[o0]),pos:=ps }:Nd) _ o5.kids (by first | (simp;done) | (simp;omega) | omega)).mono ?_;clear d0 d1 d2 d3 d4 d5 d6 d7 d8 d9 dz;rintro e K5 ⟨rfl,o6,w3⟩;have w4:=w1.trans w3;have w5:=hid (It.done w2.out rfl);have E7:=o6.ol;exact okI w5.out o6 w4
  have a0:=g9.step b0;have g4:=g2.trans b0;have f0:=a5.step i3 b0;have f1:=hid (It.seF b9.out c6 rfl);go_wp2_with fail;refine(a0u hV f0.sm a5Q).mono ?_;rintro e K6 (⟨c9,rfl,w6,i7⟩ | ⟨c9,rfl,s4⟩)
  rotate_left
  .exact bd (It.mustF f1.out c9 rfl) ((h.low g4).trans s4)
  have f6:=a0.step i7;have w7:=g4.trans i7;have o7:=f0.step w6 i7;have w8:=hid (It.mustT f1.out c9 rfl);have E8:=a0c c9;obtain⟨d0,d1,d2,d3,d4,d5,d6,d7,d8,d9⟩:=f6.cells;have dz:=f6.fz;go_wp2_with fail;refine(add_any o7.out (by omega) ({ op:=12,kids:=a3,pos:=ps }:Nd) _ o7.kids (by first | (simp;done) | (simp;omega) | omega)).mono ?_;clear d0 d1 d2 d3 d4 d5 d6 d7 d8 d9 dz;rintro e K7 ⟨rfl,o8,w9⟩;have x0:=w7.trans w9;have x1:=hid (It.done w8.out rfl);have E9:=o8.ol;exact okI x1.out o8 x0
 | false=>
 have L1:=hid (It.seF L0.out g8 rfl);obtain⟨d0,d1,d2,d3,d4,d5,d6,d7,d8,d9⟩:=a2.cells;have dz:=a2.fz;have l3:=a2.set 4 (.int .i64 1) { op:=12,m:=1,pos:=ps } rfl;have K8:=a2.im g1.sm 4 (.int .i64 1);have o9:=h4.set (j:=4) (.int .i64 1) ng_n;have p0:=a2.pi g1 4 (.int .i64 1);go_wp2_with fail;clear d0 d1 d2 d3 d4 d5 d6 d7 d8 d9 dz;refine(hE p0.sm (by omega) (by omega)).mono ?_;intro e K9 s5;rcases s5.cs with⟨L3,e0,rfl,s6⟩ | ⟨i8,p1,p2,e0,rfl,p3,i9⟩
 .exact bd (It.bad L1.out e0 rfl) ((h.low o9).trans s6)
 have F1:=gE _ _ _ _ _ e0;have l4:=l3.step i9;have x2:=o9.trans i9;have x3:=p0.step p3 i9;have B6:=p3.le;have x4:=hid (It.ok L1.out e0 rfl);go_wp2_with (at_builtin;refine a0s rfl _ _ rfl rfl x3 l4 i8 rfl rfl (by first | (simp;done) | (simp;omega) | omega) ?_;intro L4 L5 j0 x5 l5;obtain⟨F2,F3,F4,x6⟩:=a1J j0.row;subst x6);have p4:=x5 w x2 (Nat.le_refl _);have L2:=hid (show F0=(must V a1f p1 p2).bind (fun _ p o=>a4R V E 1 ps true V.ts.length ([]++[i8]) p o) from x4.out.trans (by rw[a3W (by omega),R.bind_assoc];rfl));go_wp2_with fail;refine(a0u hV j0.sm a1f).mono ?_;rintro e L6 (⟨e1,rfl,x7,j1⟩ | ⟨e1,rfl,s7⟩)
 rotate_left
 .exact bd (It.mustF L2.out e1 rfl) ((h.low p4).trans s7)
 have l6:=l5.step j1;have x8:=p4.trans j1;have x9:=j0.step x7 j1;have y0:=hid (It.mustT L2.out e1 rfl);have F5:=a0c e1;go_wp2_with fail;go_loopw [6,7] (fun kv bv wr=>∃ (b:Bool) (ks:List Int) (k q:Nat) (o2:List Nd) (va:Option Addr) (vn vc:Nat),kv=.slice va vn vc/\bv=.bool b/\PI V Mx r B D w.heap.size wr q o2 (.slice va vn vc) ks/\NI r wr w.heap.size ({ op:=12,m:=1,pos:=ps }:Nd)/\Sp 4 r w wr/\Hid (F0=a4R V E 1 ps b k ks q o2)/\V.ts.length-q<k/\p<=q/\o2.length<=1000*q+500/\ks.length+2*(V.ts.length-q)<=8000) (fun _ _ wr=>V.ts.length-atI r wr)
 case atStart=>exact⟨true,([]++[i8]),V.ts.length,(p1+1),p2,_,_,_,rfl,rfl,x9,l6,x8,y0,by omega,by omega,by omega,by first | (simp;omega) | omega⟩
 case round=>
 obtain⟨y1,a4,j2,y2,y3,F6,F7,F8,rfl,rfl,b1,h1,g5,p5,F9,B7,G0,B8⟩:=hrel;have B9:=b1.sm.le;have m5:=b1.sm.atI
 have C0:a4.length<=8000:=by omega
 cases y1 with
 | true=>
  have c0:=hid (p5.out.trans b0X);go_wp2_with fail;refine(hE b1.sm (by omega) (by omega)).mono ?_;intro e L7 s8;rcases s8.cs with⟨L8,e2,rfl,s9⟩ | ⟨b2,L9,M0,e2,rfl,p6,j3⟩
  .exact bd (It.bad c0.out e2 rfl) ((h.low g5).trans s9)
  have G1:=gE _ _ _ _ _ e2;have l7:=h1.step j3;have y4:=g5.trans j3;have y5:=b1.step p6 j3;have C1:=p6.le;have p7:=hid (It.ok c0.out e2 rfl);go_wp2_with (at_builtin;refine a0s rfl _ _ rfl rfl y5 l7 b2 rfl rfl (by first | (simp;done) | (simp;omega) | omega) ?_;intro M1 M2 j4 y6 l8;obtain⟨G2,G3,G4,y7⟩:=a1J j4.row;subst y7);have p8:=y6 w y4 (Nat.le_refl _);go_wp2_with fail;refine(a0u hV j4.sm a4M).mono ?_;rintro e M3 (⟨e3,rfl,y8,j5⟩ | ⟨e3,rfl,t0⟩)
  rotate_left
  .exact bd (It.mustF p7.out e3 rfl) ((h.low p8).trans t0)
  have l9:=l8.step j5;have p9:=p8.trans j5;have q0:=j4.step y8 j5;have q1:=hid (It.mustT p7.out e3 rfl);have G5:=a0c e3;go_wp2_with fail;refine(hE q0.sm (by omega) (by omega)).mono ?_;intro e M4 t1;rcases t1.cs with⟨M5,e4,rfl,t2⟩ | ⟨b3,M6,M7,e4,rfl,q2,j6⟩
  .exact bd (It.bad q1.out e4 rfl) ((h.low p9).trans t2)
  have G6:=gE _ _ _ _ _ e4;have m0:=l9.step j6;have y9:=p9.trans j6;have z0:=q0.step q2 j6;have C2:=q2.le;have q3:=hid (It.ok q1.out e4 rfl);go_wp2_with (at_builtin;refine a0s rfl _ _ rfl rfl z0 m0 b3 rfl rfl (by first | (simp;done) | (simp;omega) | omega) ?_;intro M8 M9 g6 z1 f7;obtain⟨G7,G8,G9,z2⟩:=a1J g6.row;subst z2);have q4:=z1 w y9 (Nat.le_refl _);go_wp2_with fail;refine(a0N hV g6.sm a1f).mono ?_;rintro e N0 (⟨e5,rfl,j7,b4⟩ | ⟨e5,rfl,j7,b4⟩)
  .have b8:=f7.step b4;have j8:=q4.trans b4;have b5:=g6.step j7 b4
   have ek:(a4++[b2])++[b3]=(a4++[b2,b3]):=by simp
   rw[ek] at b5;have H0:=a0c e5;have Ln:=hid (q3.out.trans (b0Y e5 (by omega)));have h2:=b5.sm.atI;go_wp2;go_roundw
   case rel=>exact⟨true,(a4++[b2,b3]),j2-1,_,_,_,_,_,rfl,rfl,b5,b8,j8,Ln,by omega,by omega,by omega,by simp;omega⟩
   case measure=>rw[m5,h2];omega
  have b8:=f7.step b4;have j8:=q4.trans b4;have b5:=g6.step j7 b4
  have ek:(a4++[b2])++[b3]=(a4++[b2,b3]):=by simp
  rw[ek] at b5;have Ln:=hid (q3.out.trans (b0Z (j:=j2-1) e5));have h2:=b5.sm.atI;go_wp2;go_roundw
  case rel=>exact⟨false,(a4++[b2,b3]),j2-1,_,_,_,_,_,rfl,rfl,b5,b8,j8,Ln,by omega,by omega,by omega,by simp;omega⟩
  case measure=>rw[m5,h2];omega
 | false=>
 have c0:Hid (F0=a1Y V E 1 ps a4 y2 y3):=p5;go_wp2_with fail;refine(a0N hV b1.sm a7l).mono ?_;rintro e N1 (⟨e6,rfl,j9,b6⟩ | ⟨e6,rfl,j9,b6⟩)
 .have a1:=h1.step b6;have g7:=g5.trans b6;have f2:=b1.step j9 b6;have f3:=hid (It.seT c0.out e6 rfl);have H1:=a0c e6;obtain⟨d0,d1,d2,d3,d4,d5,d6,d7,d8,d9⟩:=a1.cells;have dz:=a1.fz;have m1:=a1.set 3 (.int .i64 1) { op:=12,m:=1,n:=1,pos:=ps } rfl;have N2:=a1.im f2.sm 3 (.int .i64 1);have q5:=g7.set (j:=3) (.int .i64 1) ng_n;have q6:=a1.pi f2 3 (.int .i64 1);go_wp2_with fail;clear d0 d1 d2 d3 d4 d5 d6 d7 d8 d9 dz;refine(hE q6.sm (by omega) (by omega)).mono ?_;intro e N3 t3;rcases t3.cs with⟨N4,e7,rfl,t4⟩ | ⟨q7,N5,N6,e7,rfl,q8,k0⟩
  .exact bd (It.bad f3.out e7 rfl) ((h.low q5).trans t4)
  have H2:=gE _ _ _ _ _ e7;have m2:=m1.step k0;have z3:=q5.trans k0;have z4:=q6.step q8 k0;have C3:=q8.le;have q9:=hid (It.ok f3.out e7 rfl);go_wp2_with (at_builtin;refine a0s rfl _ _ rfl rfl z4 m2 q7 rfl rfl (by first | (simp;done) | (simp;omega) | omega) ?_;intro N7 N8 k1 z5 m3;obtain⟨H3,H4,H5,z6⟩:=a1J k1.row;subst z6);have r0:=z5 w z3 (Nat.le_refl _);go_wp2_with fail;refine(a0u hV k1.sm a5Q).mono ?_;rintro e N9 (⟨e8,rfl,z7,k2⟩ | ⟨e8,rfl,t5⟩)
  rotate_left
  .exact bd (It.mustF q9.out e8 rfl) ((h.low r0).trans t5)
  have f8:=m3.step k2;have z8:=r0.trans k2;have r1:=k1.step z7 k2;have z9:=hid (It.mustT q9.out e8 rfl);have H6:=a0c e8;obtain⟨d0,d1,d2,d3,d4,d5,d6,d7,d8,d9⟩:=f8.cells;have dz:=f8.fz;go_wp2_with fail;refine(add_any r1.out (by omega) ({ op:=12,m:=1,n:=1,kids:=(a4++[q7]),pos:=ps }:Nd) _ r1.kids (by first | (simp;done) | (simp;omega) | omega)).mono ?_;clear d0 d1 d2 d3 d4 d5 d6 d7 d8 d9 dz;rintro e O0 ⟨rfl,r2,A0⟩;have A1:=z8.trans A0;have A2:=hid (It.done z9.out rfl);have H7:=r2.ol;exact okI A2.out r2 A1
 have a1:=h1.step b6;have g7:=g5.trans b6;have f2:=b1.step j9 b6;have f3:=hid (It.seF c0.out e6 rfl);go_wp2_with fail;refine(a0u hV f2.sm a5Q).mono ?_;rintro e O1 (⟨e9,rfl,A3,k3⟩ | ⟨e9,rfl,t6⟩)
 rotate_left
 .exact bd (It.mustF f3.out e9 rfl) ((h.low g7).trans t6)
 have f9:=a1.step k3;have A4:=g7.trans k3;have r3:=f2.step A3 k3;have A5:=hid (It.mustT f3.out e9 rfl);have H8:=a0c e9;obtain⟨d0,d1,d2,d3,d4,d5,d6,d7,d8,d9⟩:=f9.cells;have dz:=f9.fz;go_wp2_with fail;refine(add_any r3.out (by omega) ({ op:=12,m:=1,kids:=a4,pos:=ps }:Nd) _ r3.kids (by first | (simp;done) | (simp;omega) | omega)).mono ?_;clear d0 d1 d2 d3 d4 d5 d6 d7 d8 d9 dz;rintro e O2 ⟨rfl,r4,A6⟩;have A7:=A4.trans A6;have A8:=hid (It.done A5.out rfl);have H9:=r4.ol;exact okI A8.out r4 A7
end
end Go.Proofs.YtphmpkpcamgjeaaGreatDoor
namespace Go.Proofs.YtphmpkpcamgjeaaGreatDoor
open Go.ChangeShapes Go.WideShapes Go.ChangeAt Go.RowKit Go.Proofs.Tryz
open Go.Maps
theorem a5C {V:Env} {E:M Int} {q:Nat} {o:List Nd} {β:Type} {K:List Int->Nat->List Nd->R β} (h:sees V q g_lp=true):(a1E V E q o).bind K=(a0F V E (q+1) o).bind fun ks p o=>(must V g_rp p o).bind fun _ p o=>K ks p o:=by
 unfold a1E;rw[show must V g_lp q o=.ok () (q+1) o by simp[must,h],R.bind_ok]
 cases a0F V E (q+1) o with
 | bad t=>rfl
 | ok ks t u=>
 rw[R.bind_ok,R.bind_ok]
 cases must V g_rp t u<;>rfl
section
variable {V : Env} {Mx : DataW Unit} {r B : Nat} {D : Nat -> Prop} {w : World} {p : Nat} {o : List Nd} {m : Nat} {E Q : M Int}
theorem b7w (hV:IV V Mx) (hE:a0p V Mx 147 m E) (gE:Gro 999 E) (h:IM V Mx r B D w p o) (hn:V.ts.length-p<m+1) (hl:o.length<=1000*p+500) :
 Calls prog 209 #[.pointer (some ⟨r,0,none⟩)] w fun e w'=>IPost V Mx r B D vInt (a3M V E (V.pos p) p o) w e w':=by
 have hmf:=@mkf;have hT:=hV.n;have hle:=h.le;obtain⟨F0,L0⟩:=hidEq (a3M V E (V.pos p) p o);rw[<- L0.out];go_enter func209,ntmps209;go_wp2_with fail;refine(a0v hV h).mono ?_;rintro e a1 ⟨rfl,e1⟩;have h7:=h.spB e1;have c3:=h.below e1;have e2:=h.sp.trans h7;have c6:=NI.new c3 { op:=2,pos:=(V.pos p) };have h8:=c3.sp.alloc (.cells (ndA { op:=2,pos:=(V.pos p) } (.slice none 0 0)) 42);have h9:=c3.alloc (.cells (ndA { op:=2,pos:=(V.pos p) } (.slice none 0 0)) 42);have ng_n:w.heap.size<=a1.heap.size:=e2.size;have e3:=e2.trans h8;go_wp2_with fail;refine(a3k hV h9).mono ?_;rintro e m0 (⟨b1,rfl,i0,e4⟩ | ⟨b1,rfl,g3⟩)
 rotate_left
 .exact bd (It.nameF L0.out b1 rfl) ((h.low e3).trans g3)
 have a4:=c6.step e4;have i1:=e3.trans e4;have b9:=hid (It.nameT L0.out b1 rfl);have k9:=a3V b1;generalize hnm:V.tx p=nm at *;clear hnm;obtain⟨d0,d1,d2,d3,d4,d5,d6,d7,d8,d9⟩:=a4.cells;have dz:=a4.fz;have b3:=a4.set 1 (.string nm) { op:=2,name:=nm,pos:=(V.pos p) } rfl;have i2:=a4.im i0 1 (.string nm);have e5:=i1.set (j:=1) (.string nm) ng_n;go_wp2_with fail;refine(a1m hV i2 a3R).mono ?_;clear d0 d1 d2 d3 d4 d5 d6 d7 d8 d9 dz;rintro e e6 ⟨rfl,a2,c0⟩
 cases a6:sees V (p+1) a3R with
 | true=>
  rw[a6] at a2;replace a2:IM V Mx r B _ e6 ((p+1)+1) o:=a2;have a5:=b3.step c0;have c4:=e5.trans c0;have L1:=hid (It.seF b9.out (a3m a6 (by simp[ByteArray.toList_eq])) rfl);have L2:=hid (It.seT L1.out a6 rfl);have l0:=a0c a6;have g4:=hid a5.cells.2.1;go_wp2;refine a0a (S:=(fun W=>W.cell? ⟨a1.heap.size,1,none⟩=some (.string nm))) (late:=[5,6,7]) (by kernel_rfl) (by first | exact g4.out | go_keep) (fun hHeld=>?_);refine tT 0 rfl hHeld ?_
  try simp only[Act.put,q1,q2,q3]
  refine tL 1 rfl hHeld ?_
  try simp only[Act.put,q1,q2,q3]
  refine tT 2 rfl hHeld ?_
  try simp only[Act.put,q1,q2,q3]
  refine tT 4 rfl hHeld ?_
  try simp only[Act.put,q1,q2,q3]
  have g5:=a2.below ((Below.refl _ _).drew);have c8:=c4.drew;have g6:=a5.step (a2.sp.drew);refine rE 3 rfl fun K hK=>?_;go_simp;refine(a3k hV g5).mono ?_;rintro e m1 (⟨c2,rfl,i3,e7⟩ | ⟨c2,rfl,g7⟩)
  rotate_left
  .have g8:=hid (It.nameF L2.out c2 rfl);have g9:=(h.low c8).trans g7;go_simp;exact⟨rfl,IPost.bad g8.out rfl g9⟩
  have a3:=g6.step e7;have i4:=c8.trans e7;have L3:=hid (It.nameT L2.out c2 rfl);refine hK _ _ ⟨a3.cells.2.1,?_⟩;clear hK K
  try simp only[Act.put,q1,q2,q3]
  generalize V.tx ((p+1)+1)=cn at *;obtain⟨d0,d1,d2,d3,d4,d5,d6,d7,d8,d9⟩:=a3.cells;have dz:=a3.fz;have b4:=a3.set 2 (.string nm) { op:=2,name:=nm,qual:=nm,pos:=(V.pos p) } rfl;have i5:=a3.im i3 2 (.string nm);have i6:=i4.set (j:=2) (.string nm) ng_n;have b5:=b4.set 1 (.string cn) { op:=2,name:=cn,qual:=nm,pos:=(V.pos p) } rfl;have i7:=b4.im i5 1 (.string cn);have i8:=i6.set (j:=1) (.string cn) ng_n;refine rL 5 rfl fun K hK=>?_;go_simp;refine hK _ _ ?_;clear hK K
  try simp only[Act.put,q1,q2,q3]
  refine rL 6 rfl fun K hK=>?_;go_simp;refine hK _ _ ?_;clear hK K
  try simp only[Act.put,q1,q2,q3]
  refine rL 7 rfl fun K hK=>?_;go_simp;refine hK _ _ ?_;clear hK K
  try simp only[Act.put,q1,q2,q3]
  refine a0h (by kernel_rfl) ?_ _;clear d0 d1 d2 d3 d4 d5 d6 d7 d8 d9 dz;obtain⟨d0,d1,d2,d3,d4,d5,d6,d7,d8,d9⟩:=b5.cells;have dz:=b5.fz;go_wp2_with fail;refine(add0 i7 (by omega) ({ op:=2,name:=cn,qual:=nm,pos:=(V.pos p) }:Nd) rfl).mono ?_;clear d0 d1 d2 d3 d4 d5 d6 d7 d8 d9 dz;rintro e m2 ⟨rfl,e8,i9⟩;have j0:=i8.trans i9;have j1:=hid (It.done L3.out rfl);have l1:=e8.ol;exact okI j1.out e8 j0
 | false=>
 rw[a6] at a2;replace a2:IM V Mx r B _ e6 (p+1) o:=a2;have a5:=b3.step c0;have c4:=e5.trans c0;go_wp2_with fail;refine(a7C hV a2 g_lp g_rp).mono ?_;rintro e m3 ⟨rfl,e9⟩;have f0:=a2.spB e9;have c1:=a2.below e9;have b6:=a5.step f0;have f1:=c4.trans f0
 cases a7:(sees V (p+1) g_lp&&sees V ((p+1)+1) g_rp) with
 | true=>
  have h6:sees V (p+1) g_lp=true:=by simp only[Bool.and_eq_true] at a7;exact a7.1
  have b8:sees V ((p+1)+1) g_rp=true:=by simp only[Bool.and_eq_true] at a7;exact a7.2
  have n3:=a0c b8;have L1:=hid (It.seT b9.out h6 rfl);have L2:=hid (It.seT L1.out b8 rfl);have L3:=hid (It.mustT L2.out b8 rfl);go_wp2_with fail;refine(a4E hV c1 [g_lp,g_rp] (by simp)).mono ?_;intro e m4 c9;rw[show a1q V [g_lp,g_rp] (p+1) o=.ok () ((p+1)+1+1) o by simp[a1q,must,h6,b8,R.bind_ok]] at c9;obtain⟨rfl,j2,f2⟩:=c9;have a8:=b6.step f2;have j3:=f1.trans f2;obtain⟨d0,d1,d2,d3,d4,d5,d6,d7,d8,d9⟩:=a8.cells;have dz:=a8.fz;have j4:=a8.im j2 0 (.int .i64 14);have j5:=j3.set (j:=0) (.int .i64 14) ng_n;go_wp2_with fail;clear d0 d1 d2 d3 d4 d5 d6 d7 d8 d9 dz;refine(add0 j4 (by omega) ({ op:=14,name:=nm,pos:=(V.pos p) }:Nd) rfl).mono ?_;rintro e m5 ⟨rfl,f3,j6⟩;have j7:=j5.trans j6;have j8:=hid (It.done L3.out rfl)
  have l2:=f3.ol;exact okI j8.out f3 j7
 | false=>
 go_wp2_with fail;refine(a3L hV c1 g_lp).mono ?_;rintro e m6 ⟨rfl,f4⟩;have f5:=c1.spB f4;have f6:=c1.below f4;have a0:=b6.step f5;have f7:=f1.trans f5
 cases a9:sees V (p+1) g_lp with
 | false=>
  have L1:=hid (It.seF b9.out a9 rfl);have L2:=hid (It.seF L1.out a6 rfl);obtain⟨d0,d1,d2,d3,d4,d5,d6,d7,d8,d9⟩:=a0.cells;have dz:=a0.fz;go_wp2_with fail;refine(add0 f6 (by omega) ({ op:=2,name:=nm,pos:=(V.pos p) }:Nd) rfl).mono ?_;clear d0 d1 d2 d3 d4 d5 d6 d7 d8 d9 dz;rintro e m7 ⟨rfl,f8,j9⟩;have k0:=f7.trans j9;have k1:=hid (It.done L2.out rfl);have l3:=f8.ol;exact okI k1.out f8 k0
 | true=>
 have l4:=a0c a9
 have b8:sees V ((p+1)+1) g_rp=false:=by rw[a9] at a7;simpa using a7
 have L1:=hid (It.seT b9.out a9 rfl);have L2:=hid (It.seF L1.out b8 rfl);have L3:=hid (show F0=(a1E V E (p+1) o).bind (fun ks q o=>lay { op:=14,name:=nm,kids:=ks,pos:=V.pos p } q o) from L2.out.trans (a5C a9).symm);obtain⟨d0,d1,d2,d3,d4,d5,d6,d7,d8,d9⟩:=a0.cells;have dz:=a0.fz;have b7:=a0.set 0 (.int .i64 14) { op:=14,name:=nm,pos:=(V.pos p) } rfl;have f9:=a0.im f6 0 (.int .i64 14);have k2:=f7.set (j:=0) (.int .i64 14) ng_n;have h0:=hid b7.cells;go_wp2
 refine a0a (S:=(fun W=>W.cell? ⟨a1.heap.size,0,none⟩=some (.int .i64 14)/\W.cell? ⟨a1.heap.size,1,none⟩=some (.string nm)/\W.cell? ⟨a1.heap.size,2,none⟩=some (.string ⟨#[]⟩)/\W.cell? ⟨a1.heap.size,3,none⟩=some (.int .i64 0)/\W.cell? ⟨a1.heap.size,4,none⟩=some (.int .i64 0)/\W.cell? ⟨a1.heap.size,5,none⟩=some (.int .i64 0)/\W.cell? ⟨a1.heap.size,6,none⟩=some (.int .i64 0)/\W.cell? ⟨a1.heap.size,7,none⟩=some (.string ⟨#[]⟩)/\W.cell? ⟨a1.heap.size,8,none⟩=some (.slice none 0 0)/\W.cell? ⟨a1.heap.size,9,none⟩=some (.int .i64 (V.pos p)))) (late:=[6,7]) (by kernel_rfl) (by first | exact h0.out | go_keep) (fun hHeld=>?_);refine tT 0 rfl hHeld ?_
 try simp only[Act.put,q1,q2,q3]
 refine tL 1 rfl hHeld ?_
 try simp only[Act.put,q1,q2,q3]
 refine tT 2 rfl hHeld ?_
 try simp only[Act.put,q1,q2,q3]
 refine tT 3 rfl hHeld ?_
 try simp only[Act.put,q1,q2,q3]
 refine tT 4 rfl hHeld ?_
 try simp only[Act.put,q1,q2,q3]
 have h1:=f9.below ((Below.refl _ _).drew);have e0:=k2.drew;have h2:=b7.step (f9.sp.drew);refine rE 5 rfl fun K hK=>?_;go_simp;refine(a1v (n:=m) hV a1g hE gE (by omega) (by omega) h1 (by omega) (by omega)).mono ?_;intro e m8 b2
 cases b0:a1E V E (p+1) o with
 | bad m9=>
  rw[b0] at b2;obtain⟨rfl,h3⟩:=b2;have h4:=hid (It.bad L3.out b0 rfl);have h5:=(h.low e0).trans h3;go_simp;exact⟨rfl,IPost.bad h4.out rfl h5⟩
 | ok g0 n0 n1=>
 rw[b0] at b2;obtain⟨l5,l6,rfl,c5,g1,l7⟩:=b2;have l8:=(a1d gE (by omega)) _ _ _ _ _ b0;have c7:=h2.step g1;have k3:=e0.trans g1;have k8:=c5.sm.le;have k4:=hid (It.ok L3.out b0 rfl);refine hK _ _ ⟨c7.cells,?_⟩;clear hK K
 try simp only[Act.put,q1,q2,q3]
 refine rL 6 rfl fun K hK=>?_;go_simp;refine(add_any c5.out (by omega) ({ op:=14,name:=nm,kids:=g0,pos:=(V.pos p) }:Nd) _ c5.kids (show g0.length<=100000 by omega)).mono ?_;rintro e n2 ⟨rfl,g2,k5⟩;have k6:=k3.trans k5;have k7:=hid (It.done k4.out rfl);have l9:=g2.ol;refine hK _ _ ?_;clear hK K
 try simp only[Act.put,q1,q2,q3]
 refine rL 7 rfl fun K hK=>?_;go_simp;refine hK _ _ ?_;clear hK K
 try simp only[Act.put,q1,q2,q3]
 refine a0h (by kernel_rfl) ?_ _;exact okI k7.out g2 k6
end
end Go.Proofs.YtphmpkpcamgjeaaGreatDoor
namespace Go.Proofs.YtphmpkpcamgjeaaGreatDoor
open Go.ChangeShapes Go.WideShapes Go.ChangeAt Go.RowKit Go.Proofs.Tryz
open Go.Maps
def aggA (V:Env) (E:M Int) (ps:Int):M Int:=fun p o=>match pick V aggWords p with
 | some i=>aggF V E i ps (p+1) o
 | none=>.bad p
section
variable {V : Env} {Mx : DataW Unit} {r B : Nat} {D : Nat -> Prop} {w : World} {p : Nat} {o : List Nd} {m : Nat} {E Q : M Int}
theorem a8A (hV:IV V Mx) (hE:a0p V Mx 147 m E) (gE:Gro 999 E) (ps:Int) (h:IM V Mx r B D w p o) (hn:V.ts.length-p<m+1) (hl:o.length<=1000*p+500) :
 Calls prog 212 #[.pointer (some ⟨r,0,none⟩),.int .i64 ps] w fun e w'=>IPost V Mx r B D vInt (aggA V E ps p o) w e w':=by
 have hT:=hV.n;have hle:=h.le;obtain⟨F0,L0⟩:=hidEq (aggA V E ps p o);rw[<- L0.out];go_enter func212,ntmps212;go_wp2_with fail;refine(b8F hV h a2n g_lp g_star).mono ?_;rintro e a8 ⟨rfl,c8⟩;have g1:=h.spB c8;have b0:=h.below c8;have b1:=h.sp.trans g1
 cases a0:(sees V p a2n&&(sees V (p+1) g_lp&&sees V (p+1+1) g_star)) with
 | true=>
  have c6:sees V p a2n=true:=by simp only[Bool.and_eq_true] at a0;exact a0.1
  have c7:sees V (p+1) g_lp=true:=by simp only[Bool.and_eq_true] at a0;exact a0.2.1
  have b8:sees V (p+1+1) g_star=true:=by simp only[Bool.and_eq_true] at a0;exact a0.2.2
  have i5:pick V aggWords p=some 0:=by unfold aggWords pick;rw[if_pos c6]
  have L1:=hid (L0.out.trans (show aggA V E ps p o=aggF V E 0 ps (p+1) o by unfold aggA;rw[i5]));have L2:=hid (It.mustT L1.out c7 rfl);have L3:=hid (It.seT L2.out (c:=(0==0&&sees V (p+1+1) g_star)) (by rw[b8];rfl) rfl);go_wp2_with fail;refine(a4E hV b0 [a2n,g_lp,g_star,g_rp] (by simp)).mono ?_;intro e j5 a4;have k5:=a0c b8
  cases b9:sees V (p+1+1+1) g_rp with
  | false=>
   rw[show a1q V [a2n,g_lp,g_star,g_rp] p o=.bad (p+1+1+1) by simp[a1q,must,c6,c7,b8,b9,R.bind_ok,R.bind_bad]] at a4;obtain⟨rfl,f4⟩:=a4;exact bd (It.mustF L3.out b9 rfl) ((h.low b1).trans f4)
  | true=>
  rw[show a1q V [a2n,g_lp,g_star,g_rp] p o=.ok () (p+1+1+1+1) o by simp[a1q,must,c6,c7,b8,b9,R.bind_ok]] at a4;obtain⟨rfl,g2,g3⟩:=a4;have g4:=b1.trans g3;have L4:=hid (It.mustT L3.out b9 rfl);go_wp2_with fail;refine(add0 g2 (by omega) ({ op:=15,n:=1,pos:=ps }:Nd) rfl).mono ?_;rintro e j6 ⟨rfl,e0,g5⟩;have g6:=g4.trans g5;have g7:=hid (It.done L4.out rfl);have j0:=e0.ol;exact okI g7.out e0 g6
 | false=>
 have b3:=NI.new b0 { op:=15,pos:=ps };have g8:=b0.sp.alloc (.cells (ndA { op:=15,pos:=ps } (.slice none 0 0)) 42);have b2:=b0.alloc (.cells (ndA { op:=15,pos:=ps } (.slice none 0 0)) 42);have ng_n:w.heap.size<=a8.heap.size:=b1.size;have e1:=b1.trans g8;have c0:=b2.alloc (.cells #[.int .i64 2,.int .i64 3,.int .i64 4,.int .i64 5,.int .i64 6] 3);have c1:=b2.sp.alloc (.cells #[.int .i64 2,.int .i64 3,.int .i64 4,.int .i64 5,.int .i64 6] 3);have c2:tag ((a8.alloc (.cells (ndA { op:=15,pos:=ps } (.slice none 0 0)) 42)).alloc (.cells #[.int .i64 2,.int .i64 3,.int .i64 4,.int .i64 5,.int .i64 6] 3)) ((a8.alloc (.cells (ndA { op:=15,pos:=ps } (.slice none 0 0)) 42)).heap.size) 3:=⟨_,_,heap_alloc_new _ _⟩
 have c3:=heap_alloc_new (a8.alloc (.cells (ndA { op:=15,pos:=ps } (.slice none 0 0)) 42)) (.cells #[.int .i64 2,.int .i64 3,.int .i64 4,.int .i64 5,.int .i64 6] 3);have c4:=c0.nb c2 (by decide) (by decide);go_wp2_with fail;refine(a6l hV c0 aggWords (by simp[aggWords])).mono ?_;intro e g9 a5
 cases hp:pick V aggWords p with
 | none=>
  rw[show a0Z V aggWords p o=.bad p by unfold a0Z;rw[hp]] at a5;obtain⟨rfl,i6⟩:=a5;have f5:=(b2.low c1).trans i6;exact bd (L0.out.trans (show aggA V E ps p o=.bad p by unfold aggA;rw[hp])) ((h.low e1).trans f5)
 | some i=>
 rw[show a0Z V aggWords p o=.ok ((i:Int)+1) (p+1) o by unfold a0Z;rw[hp]] at a5;obtain⟨rfl,h0,c5⟩:=a5;have e2:=c1.trans c5;have k6:i<5:=(a1Q hp).2;have ltp:=(a1Q hp).1;have g0:=(c4.heap c5).trans c3
 have c9:g9.cell? ⟨(a8.alloc (.cells (ndA { op:=15,pos:=ps } (.slice none 0 0)) 42)).heap.size,i,none⟩=some (.int .i64 ((i:Int)+2)):=by
  rw[(cell_of g0).1]
  rcases(by omega:i=0\/i=1\/i=2\/i=3\/i=4) with rfl | rfl | rfl | rfl | rfl<;>rfl
 have a1:=b3.step e2;have h2:=e1.trans e2
 have k7:IntKind.i64.wrap ((i:Int)+1-1)=i:=by simp only[IntKind.wrap_i64,wrap64];omega
 have hie:(i:Int)+1-1=i:=by omega
 have k8:(i:Int)<5:=by omega
 simp at c9;clear g0 c3 c4 c2;have L1:=hid (L0.out.trans (show aggA V E ps p o=aggF V E i ps (p+1) o by unfold aggA;rw[hp]));obtain⟨d0,d1,d2,d3,d4,d5,d6,d7,d8,d9⟩:=a1.cells;have dz:=a1.fz;have b4:=a1.set 3 (.int .i64 ((i:Int)+2)) { op:=15,n:=((i:Int)+2),pos:=ps } rfl;have h3:=a1.im h0 3 (.int .i64 ((i:Int)+2));have e3:=h2.set (j:=3) (.int .i64 ((i:Int)+2)) ng_n;go_wp2_with fail;clear d0 d1 d2 d3 d4 d5 d6 d7 d8 d9 dz;refine(a0u hV h3 g_lp).mono ?_;rintro e j7 (⟨a3,rfl,h4,e4⟩ | ⟨a3,rfl,f6⟩)
 rotate_left
 .exact bd (It.mustF L1.out a3 rfl) ((h.low e3).trans f6)
 have b5:=b4.step e4;have h5:=e3.trans e4;have L2:=hid (It.mustT L1.out a3 rfl);have j1:=a0c a3
 have hcs:(i==0&&sees V (p+1+1) g_star)=false:=by
  rcases Nat.eq_zero_or_pos i with z | z
  .subst z;have h1:=b9H hp;rw[h1,a3] at a0;simpa using a0
  have:(i==0)=false:=by simpa using(by omega:i≠0)
  rw[this];rfl
 have L3:=hid (It.seF L2.out hcs rfl);go_wp2_with fail;refine(a3j hV h4 a0m).mono ?_;rintro e j8 ⟨rfl,e5,e6⟩;have i7:=a5z (sees V (p+1+1) a0m);have a2:=b5.step e6;have h6:=h5.trans e6;have i8:=e5.le;obtain⟨d0,d1,d2,d3,d4,d5,d6,d7,d8,d9⟩:=a2.cells;have dz:=a2.fz;have b6:=a2.set 4 (.int .i64 (bit (sees V (p+1+1) a0m))) { op:=15,n:=((i:Int)+2),m:=(bit (sees V (p+1+1) a0m)),pos:=ps } rfl;have h7:=a2.im e5 4 (.int .i64 (bit (sees V (p+1+1) a0m)));have e7:=h6.set (j:=4) (.int .i64 (bit (sees V (p+1+1) a0m))) ng_n;go_wp2_with fail;clear d0 d1 d2 d3 d4 d5 d6 d7 d8 d9 dz;refine(hE h7 (by omega) (by omega)).mono ?_;intro e j9 f7
 rcases f7.cs with⟨k0,a6,rfl,f8⟩ | ⟨h8,k1,k2,a6,rfl,e8,e9⟩
 .exact bd (It.bad L3.out a6 rfl) ((h.low e7).trans f8)
 have j2:=gE _ _ _ _ _ a6;have b7:=b6.step e9;have f0:=e7.trans e9;have i9:=e8.le;have f1:=hid (It.ok L3.out a6 rfl);go_wp2_with fail;refine(a0u hV e8 g_rp).mono ?_;rintro e k3 (⟨a7,rfl,h9,f2⟩ | ⟨a7,rfl,f9⟩)
 rotate_left
 .exact bd (It.mustF f1.out a7 rfl) ((h.low f0).trans f9)
 have a9:=b7.step f2;have i0:=f0.trans f2;have i1:=hid (It.mustT f1.out a7 rfl);have j3:=a0c a7;obtain⟨d0,d1,d2,d3,d4,d5,d6,d7,d8,d9⟩:=a9.cells;have dz:=a9.fz;go_wp2_with fail;refine(addZ h9 (by omega) ({ op:=15,n:=((i:Int)+2),m:=(bit (sees V (p+1+1) a0m)),kids:=[h8],pos:=ps }:Nd) (by simp)).mono ?_;rintro e k4 ⟨rfl,f3,i2⟩;have i3:=i0.trans i2;have i4:=hid (It.done i1.out rfl);have j4:=f3.ol;exact okI i4.out f3 i3
end
end Go.Proofs.YtphmpkpcamgjeaaGreatDoor
