import Derived.Test.YtphmpkpcamgjeaaGreatDoorXAA
import Derived.Test.YtphmpkpcamgjeaaGreatDoorXBC
import Derived.Test.YtphmpkpcamgjeaaGreatDoorXBD
import Derived.Test.YtphmpkpcamgjeaaGreatDoorXBN
set_option linter.unusedVariables false
set_option linter.unusedSimpArgs false
set_option maxRecDepth 100000
set_option maxHeartbeats 16000000
namespace Go.Proofs.YtphmpkpcamgjeaaGreatDoor
open Go.ChangeShapes Go.WideShapes Go.ChangeAt Go.RowKit Go.Proofs.Tryz
open Go.Maps
section
variable {V : Env} {Mx : DataW Unit} {r B : Nat} {D : Nat -> Prop} {w : World} {p : Nat} {o : List Nd} {m : Nat} {E Q : M Int}
theorem b5r (hV:IV V Mx) (gE:Gro 999 E) (hQ:a0p V Mx 78 m Q) (gQ:Gro 900 Q) (hR:a0p V Mx 114 m (rowF V E)) (hN:a0p V Mx 112 m (a0R V)) (ps:Int) (h:IM V Mx r B D w p o) (hn:V.ts.length-p<m) (hl:o.length<=1000*p+500) :
 Calls prog 69 #[.pointer (some ⟨r,0,none⟩),.int .i64 ps] w fun e w'=>IPost V Mx r B D vInt (a2S V E Q ps p o) w e w':=by
 have hmf:=@mkf;have hT:=hV.n;have hle:=h.le;obtain⟨F0,L0⟩:=hidEq (a2S V E Q ps p o);rw[<- L0.out];go_enter func69,ntmps69;go_wp2_with fail;refine(a0u hV h b3i).mono ?_;rintro e N5 (⟨b7,rfl,v0,v1⟩ | ⟨b7,rfl,t0⟩)
 rotate_left
 .exact bd (It.mustF L0.out b7 rfl) ((h.low h.sp).trans t0)
 have o1:=h.sp.trans v1;have o2:=hid (It.mustT L0.out b7 rfl);have G2:=a0c b7;go_wp2_with fail;refine(a3k hV v0).mono ?_;rintro e v2 (⟨b8,rfl,i1,v3⟩ | ⟨b8,rfl,t1⟩)
 rotate_left
 .exact bd (It.nameF o2.out b8 rfl) ((h.low o1).trans t1)
 have o3:=o1.trans v3;have h2:=hid (It.nameT o2.out b8 rfl);have G3:=a3V b8;generalize hnm:V.tx (p+1)=nm at *;clear hnm;have m2:=NI.new i1 { op:=40,name:=nm,pos:=ps };have v4:=i1.sp.alloc (.cells (ndA { op:=40,name:=nm,pos:=ps } (.slice none 0 0)) 42);have v5:=i1.alloc (.cells (ndA { op:=40,name:=nm,pos:=ps } (.slice none 0 0)) 42);have ng_n:w.heap.size<=v2.heap.size:=o3.size;have o4:=o3.trans v4;have h3:=PI.nil (b:=w.heap.size) v5 o4.size;go_wp2_with fail;refine(a0v hV h3.sm).mono ?_;rintro e N6 ⟨rfl,o5⟩;have i2:=h3.sm.spB o5;have v6:=h3.sm.below o5;have m3:=m2.step i2;have v7:=o4.trans i2;have h4:=h3.step v6 i2;go_wp2_with fail;refine(a3L hV h4.sm g_lp).mono ?_;rintro e N7 ⟨rfl,o6⟩
 have i3:=h4.sm.spB o6;have v8:=h4.sm.below o6;have f7:=m3.step i3;have o7:=v7.trans i3;have a0:=h4.step v8 i3
 cases b0:sees V ((p+1)+1) g_lp with
 | false=>
  have M1:=hid (It.seF h2.out (c:=(sees V ((p+1)+1) g_lp&&!sees V (((p+1)+1)+1) a0l&&!sees V (((p+1)+1)+1) g_lp)) (by rw[b0];rfl) rfl);go_wp2_with fail;refine(a0v hV a0.sm).mono ?_;rintro e N8 ⟨rfl,o8⟩;have i4:=a0.sm.spB o8;have v9:=a0.sm.below o8;have f8:=f7.step i4;have o9:=o7.trans i4;have i5:=a0.step v9 i4;go_wp2_with fail;refine(a0N hV i5.sm a3H).mono ?_;rintro e N9 (⟨b9,rfl,i6,a2⟩ | ⟨b9,rfl,i6,a2⟩)
  .have a6:=f8.step a2;have e4:=o9.trans a2;have e5:=i5.step i6 a2;have e6:=hid (It.seT M1.out b9 rfl);have G4:=a0c b9;go_wp2_with fail;refine(a1s (n:=m) hV b0W hR (a2f gE) (by omega) e5.sm (by omega) (by omega)).mono ?_;intro e O0 c0
   cases b1:(a0F V (rowF V E)) (((p+1)+1)+1) o with
   | bad O1=>
    rw[b1] at c0;obtain⟨rfl,t2⟩:=c0;exact bd (It.bad e6.out b1 rfl) ((h.low e4).trans t2)
   | ok p0 O2 p1=>
   rw[b1] at c0;obtain⟨G5,G6,rfl,h5,i7,G7⟩:=c0;have G8:=(a0D (a2f gE) (by omega)) _ _ _ _ _ b1;have m4:=a6.step i7;have w0:=e4.trans i7;have F3:=h5.sm.le;have w1:=hid (It.ok e6.out b1 rfl);have t3:=e5.step h5.out i7;go_wp2_with fail;refine(add_any h5.out (by omega) ({ op:=43,kids:=p0,pos:=V.pos ((p+1)+1) }:Nd) _ h5.kids (show p0.length<=100000 by omega)).mono ?_;rintro e O3 ⟨rfl,p2,i8⟩;have m5:=m4.step i8;have w2:=w0.trans i8;have w3:=t3.step p2 i8;have w4:=hid (It.layT w1.out rfl);have G9:=p2.ol
   go_wp2_with (at_builtin;refine a0s rfl _ _ rfl rfl w3 m5 (p1.length:Int) rfl rfl (by first | (simp;done) | (simp;omega) | omega) ?_;intro O4 O5 i9 w5 f9;obtain⟨H0,H1,H2,w6⟩:=a1J i9.row;subst w6;obtain⟨d0,d1,d2,d3,d4,d5,d6,d7,d8,d9⟩:=f9.cells;have dz:=f9.fz);have w7:=w5 w w2 (Nat.le_refl _);go_wp2_with fail;refine(add_any i9.out (by omega) ({ op:=40,name:=nm,kids:=([]++[(p1.length:Int)]),pos:=ps }:Nd) _ i9.kids (by first | (simp;done) | (simp;omega) | omega)).mono ?_;clear d0 d1 d2 d3 d4 d5 d6 d7 d8 d9 dz;rintro e O6 ⟨rfl,p3,w8⟩;have w9:=w7.trans w8;have x0:=hid (It.done w4.out rfl);have H3:=p3.ol;exact okI x0.out p3 w9
  have a6:=f8.step a2;have e4:=o9.trans a2;have e5:=i5.step i6 a2;have e6:=hid (It.seF M1.out b9 rfl);go_wp2_with fail;refine(hQ e5.sm (by omega) (by omega)).mono ?_;intro e O7 t4;rcases t4.cs with⟨O8,c1,rfl,t5⟩ | ⟨p4,O9,P0,c1,rfl,p5,j0⟩
  .exact bd (It.bad e6.out c1 rfl) ((h.low e4).trans t5)
  have H4:=gQ _ _ _ _ _ c1;have m6:=a6.step j0;have x1:=e4.trans j0;have x2:=e5.step p5 j0;have F4:=p5.le;have x3:=hid (It.ok e6.out c1 rfl);go_wp2_with (at_builtin;refine a0s rfl _ _ rfl rfl x2 m6 p4 rfl rfl (by first | (simp;done) | (simp;omega) | omega) ?_;intro P1 P2 j1 x4 g0;obtain⟨H5,H6,H7,x5⟩:=a1J j1.row;subst x5;obtain⟨d0,d1,d2,d3,d4,d5,d6,d7,d8,d9⟩:=g0.cells;have dz:=g0.fz);have x6:=x4 w x1 (Nat.le_refl _);go_wp2_with fail;refine(add_any j1.out (by omega) ({ op:=40,name:=nm,kids:=([]++[p4]),pos:=ps }:Nd) _ j1.kids (by first | (simp;done) | (simp;omega) | omega)).mono ?_;clear d0 d1 d2 d3 d4 d5 d6 d7 d8 d9 dz;rintro e P3 ⟨rfl,p6,x7⟩;have x8:=x6.trans x7
  have x9:=hid (It.done x3.out rfl);have H8:=p6.ol;exact okI x9.out p6 x8
 | true=>
 have H9:=a0c b0;go_wp2_with fail;refine(a7C hV a0.sm g_lp a0l).mono ?_;rintro e P4 ⟨rfl,p7⟩;have j2:=a0.sm.spB p7;have y0:=a0.sm.below p7;have g1:=f7.step j2;have p8:=o7.trans j2;have a1:=a0.step y0 j2
 cases c2:(sees V ((p+1)+1) g_lp&&sees V (((p+1)+1)+1) a0l) with
 | true=>
  have n9:sees V (((p+1)+1)+1) a0l=true:=by simp only[Bool.and_eq_true] at c2;exact c2.2
  have M1:=hid (It.seF h2.out (c:=(sees V ((p+1)+1) g_lp&&!sees V (((p+1)+1)+1) a0l&&!sees V (((p+1)+1)+1) g_lp)) (by rw[n9];simp) rfl);go_wp2_with fail;refine(a0v hV a1.sm).mono ?_;rintro e P5 ⟨rfl,p9⟩;have j3:=a1.sm.spB p9;have y1:=a1.sm.below p9;have g2:=g1.step j3;have q0:=p8.trans j3;have j4:=a1.step y1 j3;go_wp2_with fail;refine(a0N hV j4.sm a3H).mono ?_;rintro e P6 (⟨c3,rfl,j5,a3⟩ | ⟨c3,rfl,j5,a3⟩)
  .have a7:=g2.step a3;have e7:=q0.trans a3;have e8:=j4.step j5 a3;have e9:=hid (It.seT M1.out c3 rfl);have I0:=a0c c3;go_wp2_with fail;refine(a1s (n:=m) hV b0W hR (a2f gE) (by omega) e8.sm (by omega) (by omega)).mono ?_;intro e P7 c4
   cases b2:(a0F V (rowF V E)) (((p+1)+1)+1) o with
   | bad P8=>
    rw[b2] at c4;obtain⟨rfl,t6⟩:=c4;exact bd (It.bad e9.out b2 rfl) ((h.low e7).trans t6)
   | ok q1 P9 q2=>
   rw[b2] at c4;obtain⟨I1,I2,rfl,h6,j6,I3⟩:=c4;have I4:=(a0D (a2f gE) (by omega)) _ _ _ _ _ b2;have m7:=a7.step j6;have y2:=e7.trans j6;have F5:=h6.sm.le;have y3:=hid (It.ok e9.out b2 rfl);have t7:=e8.step h6.out j6;go_wp2_with fail;refine(add_any h6.out (by omega) ({ op:=43,kids:=q1,pos:=V.pos ((p+1)+1) }:Nd) _ h6.kids (show q1.length<=100000 by omega)).mono ?_;rintro e Q0 ⟨rfl,q3,j7⟩;have m8:=m7.step j7;have y4:=y2.trans j7;have y5:=t7.step q3 j7;have y6:=hid (It.layT y3.out rfl);have I5:=q3.ol
   go_wp2_with (at_builtin;refine a0s rfl _ _ rfl rfl y5 m8 (q2.length:Int) rfl rfl (by first | (simp;done) | (simp;omega) | omega) ?_;intro Q1 Q2 j8 y7 g3;obtain⟨I6,I7,I8,y8⟩:=a1J j8.row;subst y8;obtain⟨d0,d1,d2,d3,d4,d5,d6,d7,d8,d9⟩:=g3.cells;have dz:=g3.fz);have y9:=y7 w y4 (Nat.le_refl _);go_wp2_with fail;refine(add_any j8.out (by omega) ({ op:=40,name:=nm,kids:=([]++[(q2.length:Int)]),pos:=ps }:Nd) _ j8.kids (by first | (simp;done) | (simp;omega) | omega)).mono ?_;clear d0 d1 d2 d3 d4 d5 d6 d7 d8 d9 dz;rintro e Q3 ⟨rfl,q4,z0⟩;have z1:=y9.trans z0;have z2:=hid (It.done y6.out rfl);have I9:=q4.ol;exact okI z2.out q4 z1
  have a7:=g2.step a3;have e7:=q0.trans a3;have e8:=j4.step j5 a3;have e9:=hid (It.seF M1.out c3 rfl);go_wp2_with fail;refine(hQ e8.sm (by omega) (by omega)).mono ?_;intro e Q4 t8;rcases t8.cs with⟨Q5,c5,rfl,t9⟩ | ⟨q5,Q6,Q7,c5,rfl,q6,j9⟩
  .exact bd (It.bad e9.out c5 rfl) ((h.low e7).trans t9)
  have J0:=gQ _ _ _ _ _ c5;have m9:=a7.step j9;have z3:=e7.trans j9;have z4:=e8.step q6 j9;have F6:=q6.le;have z5:=hid (It.ok e9.out c5 rfl);go_wp2_with (at_builtin;refine a0s rfl _ _ rfl rfl z4 m9 q5 rfl rfl (by first | (simp;done) | (simp;omega) | omega) ?_;intro Q8 Q9 k0 z6 g4;obtain⟨J1,J2,J3,z7⟩:=a1J k0.row;subst z7;obtain⟨d0,d1,d2,d3,d4,d5,d6,d7,d8,d9⟩:=g4.cells;have dz:=g4.fz);have z8:=z6 w z3 (Nat.le_refl _);go_wp2_with fail;refine(add_any k0.out (by omega) ({ op:=40,name:=nm,kids:=([]++[q5]),pos:=ps }:Nd) _ k0.kids (by first | (simp;done) | (simp;omega) | omega)).mono ?_;clear d0 d1 d2 d3 d4 d5 d6 d7 d8 d9 dz;rintro e R0 ⟨rfl,q7,z9⟩;have A0:=z8.trans z9
  have A1:=hid (It.done z5.out rfl);have J4:=q7.ol;exact okI A1.out q7 A0
 | false=>
 go_wp2_with fail;refine(a7C hV a1.sm g_lp g_lp).mono ?_;rintro e R1 ⟨rfl,q8⟩;have k1:=a1.sm.spB q8;have A2:=a1.sm.below q8;have g5:=g1.step k1;have k2:=p8.trans k1;have b6:=a1.step A2 k1
 cases c6:(sees V ((p+1)+1) g_lp&&sees V (((p+1)+1)+1) g_lp) with
 | true=>
  have o0:sees V (((p+1)+1)+1) g_lp=true:=by simp only[Bool.and_eq_true] at c6;exact c6.2
  have M1:=hid (It.seF h2.out (c:=(sees V ((p+1)+1) g_lp&&!sees V (((p+1)+1)+1) a0l&&!sees V (((p+1)+1)+1) g_lp)) (by rw[o0];simp) rfl);go_wp2_with fail;refine(a0v hV b6.sm).mono ?_;rintro e R2 ⟨rfl,q9⟩;have k3:=b6.sm.spB q9;have A3:=b6.sm.below q9;have g6:=g5.step k3;have r0:=k2.trans k3;have k4:=b6.step A3 k3;go_wp2_with fail;refine(a0N hV k4.sm a3H).mono ?_;rintro e R3 (⟨c7,rfl,k5,a4⟩ | ⟨c7,rfl,k5,a4⟩)
  .have a8:=g6.step a4;have f0:=r0.trans a4;have f1:=k4.step k5 a4;have f2:=hid (It.seT M1.out c7 rfl);have J5:=a0c c7;go_wp2_with fail;refine(a1s (n:=m) hV b0W hR (a2f gE) (by omega) f1.sm (by omega) (by omega)).mono ?_;intro e R4 c8
   cases b3:(a0F V (rowF V E)) (((p+1)+1)+1) o with
   | bad R5=>
    rw[b3] at c8;obtain⟨rfl,u0⟩:=c8;exact bd (It.bad f2.out b3 rfl) ((h.low f0).trans u0)
   | ok r1 R6 r2=>
   rw[b3] at c8;obtain⟨J6,J7,rfl,h7,k6,J8⟩:=c8;have J9:=(a0D (a2f gE) (by omega)) _ _ _ _ _ b3;have n0:=a8.step k6;have A4:=f0.trans k6;have F7:=h7.sm.le;have A5:=hid (It.ok f2.out b3 rfl);have u1:=f1.step h7.out k6;go_wp2_with fail;refine(add_any h7.out (by omega) ({ op:=43,kids:=r1,pos:=V.pos ((p+1)+1) }:Nd) _ h7.kids (show r1.length<=100000 by omega)).mono ?_;rintro e R7 ⟨rfl,r3,k7⟩;have n1:=n0.step k7;have A6:=A4.trans k7;have A7:=u1.step r3 k7;have A8:=hid (It.layT A5.out rfl);have K0:=r3.ol
   go_wp2_with (at_builtin;refine a0s rfl _ _ rfl rfl A7 n1 (r2.length:Int) rfl rfl (by first | (simp;done) | (simp;omega) | omega) ?_;intro R8 R9 k8 A9 g7;obtain⟨K1,K2,K3,B0⟩:=a1J k8.row;subst B0;obtain⟨d0,d1,d2,d3,d4,d5,d6,d7,d8,d9⟩:=g7.cells;have dz:=g7.fz);have B1:=A9 w A6 (Nat.le_refl _);go_wp2_with fail;refine(add_any k8.out (by omega) ({ op:=40,name:=nm,kids:=([]++[(r2.length:Int)]),pos:=ps }:Nd) _ k8.kids (by first | (simp;done) | (simp;omega) | omega)).mono ?_;clear d0 d1 d2 d3 d4 d5 d6 d7 d8 d9 dz;rintro e S0 ⟨rfl,r4,B2⟩;have B3:=B1.trans B2;have B4:=hid (It.done A8.out rfl);have K4:=r4.ol;exact okI B4.out r4 B3
  have a8:=g6.step a4;have f0:=r0.trans a4;have f1:=k4.step k5 a4;have f2:=hid (It.seF M1.out c7 rfl);go_wp2_with fail;refine(hQ f1.sm (by omega) (by omega)).mono ?_;intro e S1 u2;rcases u2.cs with⟨S2,c9,rfl,u3⟩ | ⟨r5,S3,S4,c9,rfl,r6,k9⟩
  .exact bd (It.bad f2.out c9 rfl) ((h.low f0).trans u3)
  have K5:=gQ _ _ _ _ _ c9;have n2:=a8.step k9;have B5:=f0.trans k9;have B6:=f1.step r6 k9;have F8:=r6.le;have B7:=hid (It.ok f2.out c9 rfl);go_wp2_with (at_builtin;refine a0s rfl _ _ rfl rfl B6 n2 r5 rfl rfl (by first | (simp;done) | (simp;omega) | omega) ?_;intro S5 S6 l0 B8 g8;obtain⟨K6,K7,K8,B9⟩:=a1J l0.row;subst B9;obtain⟨d0,d1,d2,d3,d4,d5,d6,d7,d8,d9⟩:=g8.cells;have dz:=g8.fz);have C0:=B8 w B5 (Nat.le_refl _);go_wp2_with fail;refine(add_any l0.out (by omega) ({ op:=40,name:=nm,kids:=([]++[r5]),pos:=ps }:Nd) _ l0.kids (by first | (simp;done) | (simp;omega) | omega)).mono ?_;clear d0 d1 d2 d3 d4 d5 d6 d7 d8 d9 dz;rintro e S7 ⟨rfl,r7,C1⟩;have C2:=C0.trans C1
  have C3:=hid (It.done B7.out rfl);have K9:=r7.ol;exact okI C3.out r7 C2
 | false=>
 have n9:sees V (((p+1)+1)+1) a0l=false:=by rw[b0] at c2;simpa using c2
 have o0:sees V (((p+1)+1)+1) g_lp=false:=by rw[b0] at c6;simpa using c6
 have M1:=hid (It.seT h2.out (c:=(sees V ((p+1)+1) g_lp&&!sees V (((p+1)+1)+1) a0l&&!sees V (((p+1)+1)+1) g_lp)) (by rw[b0,n9,o0];rfl) rfl);go_wp2_with fail;refine(a1v (n:=m) hV a3n hN a0O (by omega) (by omega) b6.sm (by omega) (by omega)).mono ?_;intro e S8 e0
 cases b4:(a1E V (a0R V)) ((p+1)+1) o with
 | bad S9=>
  rw[b4] at e0;obtain⟨rfl,u4⟩:=e0;exact bd (It.bad M1.out b4 rfl) ((h.low k2).trans u4)
 | ok l1 r8 h8=>
 rw[b4] at e0;obtain⟨L1,L2,rfl,h9,l2,L3⟩:=e0;have L4:=(a1d a0O (by omega)) _ _ _ _ _ b4;have n3:=g5.step l2;have C4:=k2.trans l2;have F9:=h9.sm.le;have C5:=hid (It.ok M1.out b4 rfl);have u5:=b6.step h9.out l2;go_wp2_with fail;refine(add_any h9.out (by omega) ({ op:=41,kids:=l1,pos:=V.pos ((p+1)+1) }:Nd) _ h9.kids (show l1.length<=100000 by omega)).mono ?_;rintro e T0 ⟨rfl,r9,l3⟩;have n4:=n3.step l3;have C6:=C4.trans l3;have C7:=u5.step r9 l3;have s0:=hid (It.layT C5.out rfl);have L5:=r9.ol
 go_wp2_with (at_builtin;refine a0s rfl _ _ rfl rfl C7 n4 (h8.length:Int) rfl rfl (by first | (simp;done) | (simp;omega) | omega) ?_;intro T1 T2 f3 C8 n5;obtain⟨L6,L7,L8,C9⟩:=a1J f3.row;subst C9);have D0:=C8 w C6 (Nat.le_refl _);go_wp2_with fail;refine(a0v hV f3.sm).mono ?_;rintro e T3 ⟨rfl,s1⟩;have l4:=f3.sm.spB s1;have D1:=f3.sm.below s1;have g9:=n5.step l4;have s2:=D0.trans l4;have l5:=f3.step D1 l4;go_wp2_with fail;refine(a0N hV l5.sm a3H).mono ?_;rintro e T4 (⟨e1,rfl,l6,a5⟩ | ⟨e1,rfl,l6,a5⟩)
 .have a9:=g9.step a5;have f4:=s2.trans a5;have f5:=l5.step l6 a5;have f6:=hid (It.seT s0.out e1 rfl);have L9:=a0c e1;go_wp2_with fail;refine(a1s (n:=m) hV b0W hR (a2f gE) (by omega) f5.sm (by omega) (by omega)).mono ?_;intro e T5 e2
  cases b5:(a0F V (rowF V E)) (r8+1) (h8++[({ op:=41,kids:=l1,pos:=V.pos ((p+1)+1) }:Nd)]) with
  | bad T6=>
   rw[b5] at e2;obtain⟨rfl,u6⟩:=e2;exact bd (It.bad f6.out b5 rfl) ((h.low f4).trans u6)
  | ok s3 T7 s4=>
  rw[b5] at e2;obtain⟨M0,M2,rfl,i0,l7,M3⟩:=e2;have M4:=(a0D (a2f gE) (by omega)) _ _ _ _ _ b5;have n6:=a9.step l7;have D2:=f4.trans l7;have G0:=i0.sm.le;have D3:=hid (It.ok f6.out b5 rfl);have u7:=f5.step i0.out l7;go_wp2_with fail;refine(add_any i0.out (by omega) ({ op:=43,kids:=s3,pos:=V.pos r8 }:Nd) _ i0.kids (show s3.length<=100000 by omega)).mono ?_;rintro e T8 ⟨rfl,s5,l8⟩;have n7:=n6.step l8;have D4:=D2.trans l8;have D5:=u7.step s5 l8;have D6:=hid (It.layT D3.out rfl);have M5:=s5.ol
  go_wp2_with (at_builtin;refine a0s rfl _ _ rfl rfl D5 n7 (s4.length:Int) rfl rfl (by first | (simp;done) | (simp;omega) | omega) ?_;intro T9 U0 l9 D7 h0;obtain⟨M6,M7,M8,D8⟩:=a1J l9.row;subst D8;obtain⟨d0,d1,d2,d3,d4,d5,d6,d7,d8,d9⟩:=h0.cells;have dz:=h0.fz);have D9:=D7 w D4 (Nat.le_refl _);go_wp2_with fail;refine(add_any l9.out (by omega) ({ op:=40,name:=nm,kids:=(([]++[(h8.length:Int)])++[(s4.length:Int)]),pos:=ps }:Nd) _ l9.kids (by first | (simp;done) | (simp;omega) | omega)).mono ?_;clear d0 d1 d2 d3 d4 d5 d6 d7 d8 d9 dz;rintro e U1 ⟨rfl,s6,E0⟩;have E1:=D9.trans E0;have E2:=hid (It.done D6.out rfl);have M9:=s6.ol;exact okI E2.out s6 E1
 have a9:=g9.step a5;have f4:=s2.trans a5;have f5:=l5.step l6 a5;have f6:=hid (It.seF s0.out e1 rfl);go_wp2_with fail;refine(hQ f5.sm (by omega) (by omega)).mono ?_;intro e U2 u8;rcases u8.cs with⟨U3,e3,rfl,u9⟩ | ⟨s7,U4,U5,e3,rfl,s8,m0⟩
 .exact bd (It.bad f6.out e3 rfl) ((h.low f4).trans u9)
 have N0:=gQ _ _ _ _ _ e3;have n8:=a9.step m0;have E3:=f4.trans m0;have E4:=f5.step s8 m0;have G1:=s8.le;have E5:=hid (It.ok f6.out e3 rfl);go_wp2_with (at_builtin;refine a0s rfl _ _ rfl rfl E4 n8 s7 rfl rfl (by first | (simp;done) | (simp;omega) | omega) ?_;intro U6 U7 m1 E6 h1;obtain⟨N1,N2,N3,E7⟩:=a1J m1.row;subst E7;obtain⟨d0,d1,d2,d3,d4,d5,d6,d7,d8,d9⟩:=h1.cells;have dz:=h1.fz);have E8:=E6 w E3 (Nat.le_refl _);go_wp2_with fail;refine(add_any m1.out (by omega) ({ op:=40,name:=nm,kids:=(([]++[(h8.length:Int)])++[s7]),pos:=ps }:Nd) _ m1.kids (by first | (simp;done) | (simp;omega) | omega)).mono ?_;clear d0 d1 d2 d3 d4 d5 d6 d7 d8 d9 dz;rintro e U8 ⟨rfl,s9,E9⟩;have F1:=E8.trans E9
 have F2:=hid (It.done E5.out rfl);have N4:=s9.ol;exact okI F2.out s9 F1
end
end Go.Proofs.YtphmpkpcamgjeaaGreatDoor
namespace Go.Proofs.YtphmpkpcamgjeaaGreatDoor
open Go.ChangeShapes Go.WideShapes Go.ChangeAt Go.RowKit Go.Proofs.Tryz
open Go.Maps
section
variable {V : Env} {Mx : DataW Unit} {r B : Nat} {D : Nat -> Prop} {w : World} {p : Nat} {o : List Nd} {m : Nat} {E Q : M Int}
theorem b1X (hV:IV V Mx) (ps:Int) (h:IM V Mx r B D w p o) (hl:o.length<=1000*p+500) :
 Calls prog 77 #[.pointer (some ⟨r,0,none⟩),.int .i64 ps] w fun e w'=>IPost V Mx r B D vInt (a8q V ps p o) w e w':=by
 have hT:=hV.n;have hle:=h.le;obtain⟨F0,L0⟩:=hidEq (a8q V ps p o);rw[<- L0.out];go_enter func77,ntmps77;have a5:=NI.new h { op:=60,pos:=ps };have b4:=h.sp.alloc (.cells (ndA { op:=60,pos:=ps } (.slice none 0 0)) 42);have b5:=h.alloc (.cells (ndA { op:=60,pos:=ps } (.slice none 0 0)) 42);have ng_n:w.heap.size<=w.heap.size:=h.sp.size;have a9:=h.sp.trans b4;go_wp2_with fail;refine(a0N hV b5 k_to).mono ?_;rintro e e1 (⟨a2,rfl,a8,a4⟩ | ⟨a2,rfl,a8,a4⟩)
 .have a0:=a5.step a4;have a6:=a9.trans a4;have a7:=hid (It.seT L0.out a2 rfl);have c7:=a0c a2;go_wp2_with fail;refine(a3k hV a8).mono ?_;rintro e e2 (⟨a3,rfl,b6,b0⟩ | ⟨a3,rfl,b3⟩)
  rotate_left
  .exact bd (It.nameF a7.out a3 rfl) ((h.low a6).trans b3)
  have a1:=a0.step b0;have b7:=a6.trans b0;have b8:=hid (It.nameT a7.out a3 rfl);have c8:=a3V a3;generalize hnm:V.tx (p+1)=nm at *;clear hnm;obtain⟨d0,d1,d2,d3,d4,d5,d6,d7,d8,d9⟩:=a1.cells;have dz:=a1.fz;have b9:=a1.im b6 1 (.string nm);have c0:=b7.set (j:=1) (.string nm) ng_n;go_wp2_with fail;clear d0 d1 d2 d3 d4 d5 d6 d7 d8 d9 dz;refine(add0 b9 (by omega) ({ op:=60,name:=nm,pos:=ps }:Nd) rfl).mono ?_;rintro e e3 ⟨rfl,b1,c1⟩;have c2:=c0.trans c1;have c3:=hid (It.done b8.out rfl);have c9:=b1.ol;exact okI c3.out b1 c2
 have a0:=a5.step a4;have a6:=a9.trans a4;have a7:=hid (It.seF L0.out a2 rfl);obtain⟨d0,d1,d2,d3,d4,d5,d6,d7,d8,d9⟩:=a0.cells;have dz:=a0.fz;go_wp2_with fail;refine(add0 a8 (by omega) ({ op:=60,pos:=ps }:Nd) rfl).mono ?_;clear d0 d1 d2 d3 d4 d5 d6 d7 d8 d9 dz;rintro e e4 ⟨rfl,b2,c4⟩;have c5:=a6.trans c4;have c6:=hid (It.done a7.out rfl);have e0:=b2.ol;exact okI c6.out b2 c5
theorem a8D (hV:IV V Mx) (hE:a0p V Mx 147 m E) (gE:Gro 999 E) (hQ:a0p V Mx 78 m Q) (gQ:Gro 900 Q) {G:M Int} (gG:Gro 999 G) (hR:a0p V Mx 114 m (rowF V E)) (hS:a0p V Mx 115 m (setF V E)) (hL:a0p V Mx 117 m (a2u V E G)) (hN:a0p V Mx 112 m (a0R V)) (h:IM V Mx r B D w p o) (hn:V.ts.length-p<m) (hl:o.length<=1000*p+500) :
 Calls prog 32 #[.pointer (some ⟨r,0,none⟩)] w fun e w'=>IPost V Mx r B D vInt (stmF V E Q G p o) w e w':=by
 have hT:=hV.n;have hle:=h.le;obtain⟨F0,L0⟩:=hidEq (stmF V E Q G p o);rw[<- L0.out];go_enter func32,ntmps32;go_wp2_with fail;refine(a0v hV h).mono ?_;rintro e w8 ⟨rfl,i9⟩;have m9:=h.spB i9;have n0:=h.below i9;have j0:=h.sp.trans m9;go_wp2_with fail;refine(a0N hV n0 a0Q).mono ?_;rintro e w9 (⟨a7,rfl,g2,g3⟩ | ⟨a7,rfl,g2,g3⟩)
 .have c4:=j0.trans g3;have c5:=hid (It.seT L0.out a7 rfl);have u4:=a0c a7;go_wp2_with fail;refine(b5r hV gE hQ gQ hR hN (V.pos p) g2 (by omega) (by omega)).mono ?_;intro e x0 l0;rcases l0.cs with⟨x1,f1,rfl,l1⟩ | ⟨x2,x3,x4,f1,rfl,j1,n1⟩
  .exact bd (It.tail c5.out f1 rfl) ((h.low c4).trans l1)
  have n2:=c4.trans n1;have t7:=j1.le;have n3:=hid (It.tail c5.out f1 rfl);exact okI n3.out j1 n2
 have c4:=j0.trans g3;have c5:=hid (It.seF L0.out a7 rfl);go_wp2_with fail;refine(a0N hV g2 a0S).mono ?_;rintro e x5 (⟨a8,rfl,g4,g5⟩ | ⟨a8,rfl,g4,g5⟩)
 .have c6:=c4.trans g5;have c7:=hid (It.seT c5.out a8 rfl);have u5:=a0c a8;go_wp2_with fail;refine(b5q hV hE gE hS (V.pos p) g4 (by omega) (by omega)).mono ?_;intro e x6 l2;rcases l2.cs with⟨x7,f2,rfl,l3⟩ | ⟨x8,x9,y0,f2,rfl,j2,n4⟩
  .exact bd (It.tail c7.out f2 rfl) ((h.low c6).trans l3)
  have n5:=c6.trans n4;have t8:=j2.le;have n6:=hid (It.tail c7.out f2 rfl);exact okI n6.out j2 n5
 have c6:=c4.trans g5;have c7:=hid (It.seF c5.out a8 rfl);go_wp2_with fail;refine(a0N hV g4 a0V).mono ?_;rintro e y1 (⟨a9,rfl,g6,g7⟩ | ⟨a9,rfl,g6,g7⟩)
 .have c8:=c6.trans g7;have d0:=hid (It.seT c7.out a9 rfl);have u6:=a0c a9;go_wp2_with fail;refine(b1W hV hE gE (V.pos p) g6 (by omega) (by omega)).mono ?_;intro e y2 l4;rcases l4.cs with⟨y3,f3,rfl,l5⟩ | ⟨y4,y5,y6,f3,rfl,j3,n7⟩
  .exact bd (It.tail d0.out f3 rfl) ((h.low c8).trans l5)
  have n8:=c8.trans n7;have t9:=j3.le;have n9:=hid (It.tail d0.out f3 rfl);exact okI n9.out j3 n8
 have c8:=c6.trans g7;have d0:=hid (It.seF c7.out a9 rfl);go_wp2_with fail;refine(a0N hV g6 a1a).mono ?_;rintro e y7 (⟨b0,rfl,g8,g9⟩ | ⟨b0,rfl,g8,g9⟩)
 .have d1:=c8.trans g9;have d2:=hid (It.seT d0.out b0 rfl);have u7:=a0c b0;go_wp2_with fail;refine(b5v hV gE gG hL hN (V.pos p) g8 (by omega) (by omega)).mono ?_;intro e y8 l6;rcases l6.cs with⟨y9,f4,rfl,l7⟩ | ⟨z0,z1,z2,f4,rfl,j4,o0⟩
  .exact bd (It.tail d2.out f4 rfl) ((h.low d1).trans l7)
  have o1:=d1.trans o0;have u0:=j4.le;have o2:=hid (It.tail d2.out f4 rfl);exact okI o2.out j4 o1
 have d1:=c8.trans g9;have d2:=hid (It.seF d0.out b0 rfl);go_wp2_with fail;refine(a0N hV g8 a2L).mono ?_;rintro e d3 (⟨b1,rfl,d4,h0⟩ | ⟨b1,rfl,d4,h0⟩)
 .have a6:=d1.trans h0;have d5:=hid (It.seT d2.out b1 rfl);have u8:=a0c b1;have i8:=d4.alloc (.cells #[.int .i64 56,.int .i64 57] 3);have f5:=d4.sp.alloc (.cells #[.int .i64 56,.int .i64 57] 3);have f6:tag (d3.alloc (.cells #[.int .i64 56,.int .i64 57] 3)) (d3.heap.size) 3:=⟨_,_,heap_alloc_new _ _⟩;have b2:=heap_alloc_new d3 (.cells #[.int .i64 56,.int .i64 57] 3);have b3:=i8.nb f6 (by decide) (by decide);go_wp2_with fail;refine(a6l hV i8 [a2Q,a2o] (by simp)).mono ?_;intro e j5 a1
  cases a2:sees V (p+1) a2Q with
  | true=>
   have Lt:=hid (It.seT d5.out a2 rfl);have ltt:=a0c a2;rw[show a0Z V [a2Q,a2o] (p+1) o=.ok 1 (p+1+1) o by simp[a0Z,pick,a2]] at a1;obtain⟨rfl,h1,a3⟩:=a1;have h2:=f5.trans a3;have g1:=(b3.heap a3).trans b2;have c9:j5.cell? ⟨d3.heap.size,0,none⟩=some (.int .i64 56):=(cell_of g1).1;have d6:=a6.trans h2;clear g1 b2 b3 f6;go_wp2_with fail;refine(a3k hV h1).mono ?_;clear c9;rintro e z3 (⟨f7,rfl,o3,o4⟩ | ⟨f7,rfl,l8⟩)
   rotate_left
   .exact bd (It.nameF Lt.out f7 rfl) ((h.low d6).trans l8)
   have o5:=d6.trans o4;have o6:=hid (It.nameT Lt.out f7 rfl);go_wp2_with fail;refine(add0 o3 (by omega) ({ op:=56,name:=(V.tx (p+1+1)),pos:=V.pos p }:Nd) rfl).mono ?_;rintro e z4 ⟨rfl,j6,o7⟩;have o8:=o5.trans o7;have o9:=hid (It.done o6.out rfl);have u9:=j6.ol;exact okI o9.out j6 o8
  | false=>
  have Lf:=hid (It.seF d5.out a2 rfl)
  cases a4:sees V (p+1) a2o with
  | false=>
   rw[show a0Z V [a2Q,a2o] (p+1) o=.bad (p+1) by simp[a0Z,pick,a2,a4]] at a1;obtain⟨rfl,t6⟩:=a1;have l9:=(d4.low f5).trans t6;exact bd (It.mustF Lf.out a4 rfl) ((h.low a6).trans l9)
  | true=>
  have Lt:=hid (It.mustT Lf.out a4 rfl);have ltt:=a0c a4;rw[show a0Z V [a2Q,a2o] (p+1) o=.ok 2 (p+1+1) o by simp[a0Z,pick,a2,a4]] at a1;obtain⟨rfl,h1,a3⟩:=a1;have h2:=f5.trans a3;have g1:=(b3.heap a3).trans b2;have c9:j5.cell? ⟨d3.heap.size,1,none⟩=some (.int .i64 57):=(cell_of g1).1;have d6:=a6.trans h2;clear g1 b2 b3 f6;go_wp2_with fail;refine(a3k hV h1).mono ?_;clear c9;rintro e z5 (⟨f8,rfl,p0,p1⟩ | ⟨f8,rfl,m0⟩)
  rotate_left
  .exact bd (It.nameF Lt.out f8 rfl) ((h.low d6).trans m0)
  have p2:=d6.trans p1;have p3:=hid (It.nameT Lt.out f8 rfl);go_wp2_with fail;refine(add0 p0 (by omega) ({ op:=57,name:=(V.tx (p+1+1)),pos:=V.pos p }:Nd) rfl).mono ?_;rintro e z6 ⟨rfl,j7,p4⟩;have p5:=p2.trans p4;have p6:=hid (It.done p3.out rfl);have v0:=j7.ol;exact okI p6.out j7 p5
 have a6:=d1.trans h0;have d5:=hid (It.seF d2.out b1 rfl);go_wp2_with fail;refine(a0N hV d4 a2a).mono ?_;rintro e z7 (⟨b4,rfl,h3,h4⟩ | ⟨b4,rfl,h3,h4⟩)
 .have d7:=a6.trans h4;have d8:=hid (It.seT d5.out b4 rfl);have v1:=a0c b4;go_wp2_with fail;refine(a8w hV h3 [a2w,a1l] (by simp)).mono ?_;rintro e j8 ⟨rfl,a0,j9⟩
  cases a5:pick V [a2w,a1l] (p+1) with
  | none=>
   rw[a5] at a0;replace a0:IM V Mx r B _ j8 (p+1) o:=a0;rw[show chN none=0 from rfl];have Lb:=hid (show F0=lay { op:=58,pos:=V.pos p } (p+1) o from d8.out.trans (by unfold a4f;rw[a5]));have h5:=d7.trans j9;go_wp2_with fail;refine(add0 a0 (by omega) ({ op:=58,pos:=V.pos p }:Nd) rfl).mono ?_;rintro e z8 ⟨rfl,k0,p7⟩;have p8:=h5.trans p7;have p9:=hid (It.done Lb.out rfl);have v2:=k0.ol;exact okI p9.out k0 p8
  | some i=>
  rw[a5] at a0;replace a0:IM V Mx r B _ j8 (p+1+1) o:=a0;have ltb:=a1Q a5;rw[show chN (some i)=(i:Int)+1 from rfl];have Lb:=hid (show F0=lay { op:=58,n:=(i:Int)+1,pos:=V.pos p } (p+1+1) o from d8.out.trans (by unfold a4f;rw[a5]));have h5:=d7.trans j9;go_wp2_with fail;refine(add0 a0 (by omega) ({ op:=58,n:=(i:Int)+1,pos:=V.pos p }:Nd) rfl).mono ?_;rintro e z9 ⟨rfl,k1,q0⟩;have q1:=h5.trans q0;have q2:=hid (It.done Lb.out rfl);have v3:=k1.ol;exact okI q2.out k1 q1
 have d7:=a6.trans h4;have d8:=hid (It.seF d5.out b4 rfl);go_wp2_with fail;refine(a0N hV h3 a1C).mono ?_;rintro e A0 (⟨b5,rfl,h6,h7⟩ | ⟨b5,rfl,h6,h7⟩)
 .have e7:=d7.trans h7;have e8:=hid (It.seT d8.out b5 rfl);have v4:=a0c b5;go_wp2_with fail;refine(add0 h6 (by omega) ({ op:=59,pos:=V.pos p }:Nd) rfl).mono ?_;rintro e A1 ⟨rfl,k2,q3⟩;have q4:=e7.trans q3;have q5:=hid (It.done e8.out rfl);have v5:=k2.ol;exact okI q5.out k2 q4
 have e7:=d7.trans h7;have e8:=hid (It.seF d8.out b5 rfl);go_wp2_with fail;refine(a0N hV h6 a1b).mono ?_;rintro e A2 (⟨b6,rfl,h8,h9⟩ | ⟨b6,rfl,h8,h9⟩)
 .have d9:=e7.trans h9;have e0:=hid (It.seT e8.out b6 rfl);have v6:=a0c b6;go_wp2_with fail;refine(b1X hV (V.pos p) h8 (by omega)).mono ?_;intro e A3 m1;rcases m1.cs with⟨A4,f9,rfl,m2⟩ | ⟨A5,A6,A7,f9,rfl,k3,q6⟩
  .exact bd (It.tail e0.out f9 rfl) ((h.low d9).trans m2)
  have q7:=d9.trans q6;have u1:=k3.le;have q8:=hid (It.tail e0.out f9 rfl);exact okI q8.out k3 q7
 have d9:=e7.trans h9;have e0:=hid (It.seF e8.out b6 rfl);go_wp2_with fail;refine(a0N hV h8 a0Y).mono ?_;rintro e A8 (⟨b7,rfl,i0,i1⟩ | ⟨b7,rfl,i0,i1⟩)
 .have e1:=d9.trans i1;have e2:=hid (It.seT e0.out b7 rfl);have v7:=a0c b7;go_wp2_with fail;refine(a3k hV i0).mono ?_;rintro e A9 (⟨b8,rfl,q9,r0⟩ | ⟨b8,rfl,m3⟩)
  rotate_left
  .exact bd (It.nameF e2.out b8 rfl) ((h.low e1).trans m3)
  have r1:=e1.trans r0;have r2:=hid (It.nameT e2.out b8 rfl);have v8:=a3V b8;go_wp2_with fail;refine(add0 q9 (by omega) ({ op:=61,name:=(V.tx (p+1)),pos:=V.pos p }:Nd) rfl).mono ?_;rintro e B0 ⟨rfl,k4,r3⟩;have r4:=r1.trans r3;have r5:=hid (It.done r2.out rfl);have v9:=k4.ol;exact okI r5.out k4 r4
 have e1:=d9.trans i1;have e2:=hid (It.seF e0.out b7 rfl);go_wp2_with fail;refine(a0N hV i0 a1O).mono ?_;rintro e B1 (⟨b9,rfl,i2,i3⟩ | ⟨b9,rfl,i2,i3⟩)
 .have e3:=e1.trans i3;have e4:=hid (It.seT e2.out b9 rfl);have w0:=a0c b9;go_wp2_with fail;refine(a3k hV i2).mono ?_;rintro e B2 (⟨c0,rfl,r6,r7⟩ | ⟨c0,rfl,m4⟩)
  rotate_left
  .exact bd (It.nameF e4.out c0 rfl) ((h.low e3).trans m4)
  have r8:=e3.trans r7;have r9:=hid (It.nameT e4.out c0 rfl);have w1:=a3V c0;go_wp2_with fail;refine(add0 r6 (by omega) ({ op:=62,name:=(V.tx (p+1)),pos:=V.pos p }:Nd) rfl).mono ?_;rintro e B3 ⟨rfl,k5,s0⟩;have s1:=r8.trans s0;have s2:=hid (It.done r9.out rfl);have w2:=k5.ol;exact okI s2.out k5 s1
 have e3:=e1.trans i3;have e4:=hid (It.seF e2.out b9 rfl);go_wp2_with fail;refine(a0N hV i2 a2j).mono ?_;rintro e B4 (⟨c1,rfl,i4,i5⟩ | ⟨c1,rfl,i4,i5⟩)
 .have e5:=e3.trans i5;have e6:=hid (It.seT e4.out c1 rfl);have w3:=a0c c1;go_wp2_with fail;refine(hQ i4 (by omega) (by omega)).mono ?_;intro e B5 m5;rcases m5.cs with⟨B6,c2,rfl,m6⟩ | ⟨s3,B7,B8,c2,rfl,k6,s4⟩
  .exact bd (It.bad e6.out c2 rfl) ((h.low e5).trans m6)
  have w4:=gQ _ _ _ _ _ c2;have s5:=e5.trans s4;have u2:=k6.le;have s6:=hid (It.ok e6.out c2 rfl);go_wp2_with fail;refine(addZ k6 (by omega) ({ op:=63,kids:=[s3],pos:=V.pos p }:Nd) (by simp)).mono ?_;rintro e B9 ⟨rfl,k7,s7⟩;have s8:=s5.trans s7;have s9:=hid (It.done s6.out rfl);have w5:=k7.ol;exact okI s9.out k7 s8
 have e5:=e3.trans i5;have e6:=hid (It.seF e4.out c1 rfl);go_wp2_with fail;refine(a0N hV i4 a1r).mono ?_;rintro e C0 (⟨c3,rfl,i6,i7⟩ | ⟨c3,rfl,i6,i7⟩)
 .have e9:=e5.trans i7;have f0:=hid (It.seT e6.out c3 rfl);have w6:=a0c c3;go_wp2_with fail;refine(add0 i6 (by omega) ({ op:=64,pos:=V.pos p }:Nd) rfl).mono ?_;rintro e C1 ⟨rfl,k8,t0⟩;have t1:=e9.trans t0;have t2:=hid (It.done f0.out rfl);have w7:=k8.ol;exact okI t2.out k8 t1
 have e9:=e5.trans i7;have f0:=hid (It.seF e6.out c3 rfl);go_wp2_with fail;refine(hQ i6 (by omega) (by omega)).mono ?_;intro e C2 m7;rcases m7.cs with⟨C3,g0,rfl,m8⟩ | ⟨C4,C5,C6,g0,rfl,k9,t3⟩
 .exact bd (It.tail f0.out g0 rfl) ((h.low e9).trans m8)
 have t4:=e9.trans t3;have u3:=k9.le;have t5:=hid (It.tail f0.out g0 rfl);exact okI t5.out k9 t4
end
end Go.Proofs.YtphmpkpcamgjeaaGreatDoor
namespace Go.Proofs.YtphmpkpcamgjeaaGreatDoor
open Go.ChangeShapes Go.WideShapes Go.ChangeAt Go.RowKit Go.Proofs.Tryz
theorem b3H {V:Env} {src:ByteArray} (hV:VO V src) (hE:SV V) {n:Nat} {E Q:M Int} (hA:0<n->a0w V src 87 10 (n-1) E) (hQ:0<n->a0w V src 24 240 (n-1) Q):a0w V src 87 10 n (a2t V E Q)/\SRule0 V src 24 240 n (a2M V (a2t V E Q) Q):=by
 obtain⟨_,e1⟩:=a7H hV hE hA hQ;have i1:a0w V src 128 12 n (a2D V (a2t V E Q)):=b5A hV hE e1;have s1:a0w V src 156 12 n (a1x V Q):=b2a hV hE hQ;have f1:a0w V src 129 12 n (a2R V (a2t V E Q) Q):=b5B hV e1 s1;have t1:a0w V src 91 100 n (a2I V (a2t V E Q) Q):=b5C hV hE e1 hQ i1 f1;exact⟨e1,b3E hV hE (b5D hV t1) (b7j hV e1)⟩
theorem b1d {V:Env} {src:ByteArray} (hV:VO V src) (hE:SV V):∀ n,a0w V src 87 10 n (gr V n).1/\SRule0 V src 24 240 n (gr V n).2
 | 0=>b3H hV hE (fun h=>absurd h (by omega)) (fun h=>absurd h (by omega))
 | n+1=>b3H hV hE (fun _=>@(b1d hV hE n).1) (fun _=>SRule0.r @(b1d hV hE n).2)
theorem b3I {V:Env} (E Q:M Int) (p:Nat) (o:List Nd) (h1:sees V p a0l=false) (h2:sees V p g_lp=false):a2M V E Q p o=.bad p:=by
 have a:selF V E Q p o=.bad p:=by
  unfold selF must;rw[h1];rfl
 have b:a2I V E Q p o=.bad p:=by
  unfold a2I;rw[h2];exact a
 have c:bodyF V E Q p o=.bad p:=by
  unfold bodyF;rw[b];rfl
 unfold a2M;rw[c];rfl
def stmG (V:Env):M Int:=stmF V (gr V (V.ts.length+1)).1 (gr V (V.ts.length+1)).2 (negF V (gr V V.ts.length).1 (gr V V.ts.length).2)
theorem b3J {V:Env} {src:ByteArray} (hV:VO V src) (hE:SV V):a0w V src 10 500 (V.ts.length+1) (stmG V):=by
 obtain⟨a1,a2⟩:=b1d hV hE (V.ts.length+1);obtain⟨b1,b2⟩:=b1d hV hE V.ts.length;obtain⟨g1,_⟩:=a7H hV hE (n:=V.ts.length+1) (E:=(gr V V.ts.length).1) (Q:=(gr V V.ts.length).2) (fun _=>@b1) (fun _=>SRule0.r @b2);exact a6I hV hE a1 a2 (a8E hV hE a1 g1) (fun p o h1 h2=>b3I _ _ p o h1 h2)
end Go.Proofs.YtphmpkpcamgjeaaGreatDoor
namespace Go.Proofs.YtphmpkpcamgjeaaGreatDoor
open Go.ChangeShapes Go.WideShapes Go.ChangeAt Go.RowKit Go.Proofs.Tryz
open Go.Maps
section
variable {V : Env} {Mx : DataW Unit} {r B : Nat} {D : Nat -> Prop} {w : World} {p : Nat} {o : List Nd} {m : Nat} {E Q : M Int}
theorem b5I (hV:IV V Mx) (hX:IX V) (hLP:∀ p,sees V p g_lp=true->isNm V p=false):a0p V Mx 32 (V.ts.length+1) (stmG V):=by
 obtain⟨e1,q1⟩:=i_gr hV hX hLP (V.ts.length+1);obtain⟨e0,q0⟩:=i_gr hV hX hLP V.ts.length;obtain⟨gE,gQ⟩:=a5A (V:=V) (V.ts.length+1);obtain⟨a0,a1⟩:=a5A (V:=V) V.ts.length;obtain⟨n1,_,_⟩:=b3x hV hX hLP e0 a0 q0 a1;have gG:Gro 999 (negF V (gr V V.ts.length).1 (gr V V.ts.length).2):=a4m a0 a1;have hN:a0p V Mx 112 (V.ts.length+2) (a0R V):=fun h hn hl=>a7E hV h hn hl;have hW:a0p V Mx 146 (V.ts.length+2) (a1y V (gr V (V.ts.length+1)).1):=fun h hn hl=>b7H hV e1 gE h hn hl;have hR:a0p V Mx 114 (V.ts.length+2) (rowF V (gr V (V.ts.length+1)).1):=fun h hn hl=>b9J hV gE hW h hn hl;have hS:a0p V Mx 115 (V.ts.length+2) (setF V (gr V (V.ts.length+1)).1):=fun h hn hl=>b9K hV gE hW h hn hl
 have hL:a0p V Mx 117 (V.ts.length+2) (a2u V (gr V (V.ts.length+1)).1 (negF V (gr V V.ts.length).1 (gr V V.ts.length).2)):=fun h hn hl=>b3z hV e1 gE n1 gG hN h hn hl;exact fun {r B D w p o} h hn hl=>a8D hV e1 gE q1 gQ gG hR hS hL hN h (by omega) hl
end
end Go.Proofs.YtphmpkpcamgjeaaGreatDoor
