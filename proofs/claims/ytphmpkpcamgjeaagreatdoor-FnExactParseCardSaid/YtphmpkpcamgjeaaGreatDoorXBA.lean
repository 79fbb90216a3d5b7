import Derived.Test.YtphmpkpcamgjeaaGreatDoorXAA
import Derived.Test.YtphmpkpcamgjeaaGreatDoorXAZ
import Derived.Test.YtphmpkpcamgjeaaGreatDoorXAW
set_option linter.unusedVariables false
set_option linter.unusedSimpArgs false
set_option maxRecDepth 100000
set_option maxHeartbeats 16000000
namespace Go.Proofs.YtphmpkpcamgjeaaGreatDoor
open Go.ChangeShapes Go.WideShapes Go.ChangeAt Go.RowKit Go.Proofs.Tryz
open Go.Maps
section
variable {V : Env} {Mx : DataW Unit} {r B : Nat} {D : Nat -> Prop} {w : World} {p : Nat} {o : List Nd} {m : Nat} {E Q : M Int}
theorem b8O {C:M Int} (hV:IV V Mx) (hC:a0p V Mx 220 (m+1) C) (gC:Gro 999 C) (hE:a0p V Mx 147 m E) (gE:Gro 999 E) (hQ:a0p V Mx 78 m Q) (gQ:Gro 900 Q) (h:IM V Mx r B D w p o) (hn:V.ts.length-p<m+1) (hl:o.length<=1000*p+500) :
 Calls prog 207 #[.pointer (some ⟨r,0,none⟩)] w fun e w'=>IPost V Mx r B D vInt (a4z V C E Q p o) w e w':=by
 have hT:=hV.n;have hle:=h.le;obtain⟨F0,L0⟩:=hidEq (a4z V C E Q p o);rw[<- L0.out];go_enter func207,ntmps207;go_wp2_with fail;refine(hC h (by omega) (by omega)).mono ?_;intro e t5 k2;rcases k2.cs with⟨t6,b3,rfl,k3⟩ | ⟨a5,a0,a9,b3,rfl,e9,n3⟩
 .exact bd (It.bad L0.out b3 rfl) ((h.low h.sp).trans k3)
 have s2:=gC _ _ _ _ _ b3;have n4:=h.sp.trans n3;have r3:=e9.le;have h1:=hid (It.ok L0.out b3 rfl);go_wp2_with fail;refine(a0v hV e9).mono ?_;rintro e a1 ⟨rfl,h2⟩;have n5:=e9.spB h2;have f9:=e9.below h2;have h3:=n4.trans n5;have e0:=NI.new f9 { op:=0,pos:=(V.pos a0) };have n6:=f9.sp.alloc (.cells (ndA { op:=0,pos:=(V.pos a0) } (.slice none 0 0)) 42);have n7:=f9.alloc (.cells (ndA { op:=0,pos:=(V.pos a0) } (.slice none 0 0)) 42);have ng_n:w.heap.size<=a1.heap.size:=h3.size;have h4:=h3.trans n6;go_wp2_with fail;refine(b3r hV n7 [7,8,9,10,11,12] (by simp) (by simp) (by first | rfl | (simp;done))).mono ?_;rintro e h5 ⟨rfl,b0,f0⟩
 cases hp:pick V (([7,8,9,10,11,12]:List Int).map opS) a0 with
 | some j=>
  rw[hp] at b0;replace b0:IM V Mx r B _ h5 (a0+1) a9:=b0;have a2:=e0.step f0;have f1:=h4.trans f0;have ltp:=a1Q hp;have x2:j<6:=ltp.2
  have hop:opN [7,8,9,10,11,12] (some j)=(j:Int)+7:=by rcases(by omega:j=0\/j=1\/j=2\/j=3\/j=4\/j=5) with rfl | rfl | rfl | rfl | rfl | rfl<;>rfl
  rw[hop];have h0:pick V cmpWords a0=some j:=hp;have L2:=hid (show F0=(C (a0+1) a9).bind (fun m q o=>lay { op:=5,n:=(j:Int)+7,kids:=[a5,m],pos:=V.pos a0 } q o) from h1.out.trans (by unfold a5R;rw[h0]))
  have hne:((j:Int)+7 != 0)=true:=by simpa using(by omega:(j:Int)+7≠0)
  have n8:¬ (j:Int)+7=0:=by omega
  obtain⟨jj,hjj⟩:∃ jj,jj=(j:Int)+7:=⟨_,rfl⟩;rw[<- hjj] at hne n8 ⊢;have L3:=hid (show F0=(C (a0+1) a9).bind (fun m q o=>lay { op:=5,n:=jj,kids:=[a5,m],pos:=V.pos a0 } q o) from by rw[hjj];exact L2.out);clear hjj hop;obtain⟨d0,d1,d2,d3,d4,d5,d6,d7,d8,d9⟩:=a2.cells;have dz:=a2.fz;have e1:=a2.set 0 (.int .i64 5) { op:=5,pos:=(V.pos a0) } rfl;have n9:=a2.im b0 0 (.int .i64 5);have o0:=f1.set (j:=0) (.int .i64 5) ng_n;have e2:=e1.set 3 (.int .i64 jj) { op:=5,n:=jj,pos:=(V.pos a0) } rfl;have h6:=e1.im n9 3 (.int .i64 jj);have o1:=o0.set (j:=3) (.int .i64 jj) ng_n;have k4:=hid e2.cells;go_wp2
  refine a0a (S:=(fun W=>W.cell? ⟨a1.heap.size,0,none⟩=some (.int .i64 5)/\W.cell? ⟨a1.heap.size,1,none⟩=some (.string ⟨#[]⟩)/\W.cell? ⟨a1.heap.size,2,none⟩=some (.string ⟨#[]⟩)/\W.cell? ⟨a1.heap.size,3,none⟩=some (.int .i64 jj)/\W.cell? ⟨a1.heap.size,4,none⟩=some (.int .i64 0)/\W.cell? ⟨a1.heap.size,5,none⟩=some (.int .i64 0)/\W.cell? ⟨a1.heap.size,6,none⟩=some (.int .i64 0)/\W.cell? ⟨a1.heap.size,7,none⟩=some (.string ⟨#[]⟩)/\W.cell? ⟨a1.heap.size,8,none⟩=some (.slice none 0 0)/\W.cell? ⟨a1.heap.size,9,none⟩=some (.int .i64 (V.pos a0)))) (late:=[6,7]) (by kernel_rfl) (by first | exact k4.out | go_keep) (fun hHeld=>?_);refine tT 0 rfl hHeld ?_
  try simp only[Act.put,q1,q2,q3]
  refine tL 1 rfl hHeld ?_
  try simp only[Act.put,q1,q2,q3]
  refine tT 2 rfl hHeld ?_
  try simp only[Act.put,q1,q2,q3]
  refine tT 3 rfl hHeld ?_
  try simp only[Act.put,q1,q2,q3]
  have k5:=h6.below ((Below.refl _ _).drew);have g7:=o1.drew;have k6:=e2.step (h6.sp.drew);refine rE 4 rfl fun K hK=>?_;go_simp;refine(hC k5 (by omega) (by omega)).mono ?_;intro e t7 k7;rcases k7.cs with⟨t8,b4,rfl,k8⟩ | ⟨h7,t9,u0,b4,rfl,g0,h8⟩
  .have k9:=hid (It.bad L3.out b4 rfl);have l0:=(h.low g7).trans k8;go_simp;exact⟨rfl,IPost.bad k9.out rfl l0⟩
  have s3:=gC _ _ _ _ _ b4;have e3:=k6.step h8;have o2:=g7.trans h8;have r4:=g0.le;have o3:=hid (It.ok L3.out b4 rfl);refine hK _ _ ⟨e3.cells,?_⟩;clear hK K
  try simp only[Act.put,q1,q2,q3]
  refine rE 5 rfl fun K hK=>?_;go_simp;refine hK _ _ ⟨(e3.step (g0.sp.alloc (.cells #[.int .i64 a5,.int .i64 h7] 3))).cells,?_⟩;clear hK K
  try simp only[Act.put,q1,q2,q3]
  refine rL 6 rfl fun K hK=>?_;go_simp;refine(addZ g0 (by omega) ({ op:=5,n:=jj,kids:=[a5,h7],pos:=(V.pos a0) }:Nd) (by simp)).mono ?_;rintro e u1 ⟨rfl,h9,o4⟩;have o5:=o2.trans o4;have o6:=hid (It.done o3.out rfl);have s4:=h9.ol;refine hK _ _ ?_;clear hK K
  try simp only[Act.put,q1,q2,q3]
  refine rL 7 rfl fun K hK=>?_;go_simp;refine hK _ _ ?_;clear hK K
  try simp only[Act.put,q1,q2,q3]
  refine a0h (by kernel_rfl) ?_ _;exact okI o6.out h9 o5
 | none=>
 rw[hp] at b0;replace b0:IM V Mx r B _ h5 a0 a9:=b0;have a2:=e0.step f0;have f1:=h4.trans f0;rw[show opN [7,8,9,10,11,12] none=0 from rfl];have h0:pick V cmpWords a0=none:=hp;have L2:=hid (show F0=a8p V C E Q a5 a0 a9 from h1.out.trans (by unfold a5R;rw[h0]));go_wp2_with fail;refine(a0N hV b0 k_is).mono ?_;rintro e u2 (⟨b5,rfl,g1,c2⟩ | ⟨b5,rfl,g1,c2⟩)
 .have a7:=a2.step c2;have f2:=f1.trans c2;have f3:=hid (It.seT L2.out b5 rfl);have s5:=a0c b5;obtain⟨d0,d1,d2,d3,d4,d5,d6,d7,d8,d9⟩:=a7.cells;have dz:=a7.fz;go_wp2_with fail;refine(b5k hV hC gC a5 (V.pos a0) g1 (by omega) (by omega)).mono ?_;clear d0 d1 d2 d3 d4 d5 d6 d7 d8 d9 dz;intro e u3 l1;rcases l1.cs with⟨u4,f7,rfl,l2⟩ | ⟨u5,u6,u7,f7,rfl,i0,o7⟩
  .exact bd (It.tail f3.out f7 rfl) ((h.low f2).trans l2)
  have o8:=f2.trans o7;have r5:=i0.le;have o9:=hid (It.tail f3.out f7 rfl);exact okI o9.out i0 o8
 have a7:=a2.step c2;have f2:=f1.trans c2;have f3:=hid (It.seF L2.out b5 rfl);go_wp2_with fail;refine(a3j hV g1 a1t).mono ?_;rintro e u8 ⟨rfl,i1,i2⟩;have r6:=a5z (sees V a0 a1t);have a8:=a7.step i2;have p0:=f2.trans i2;have r7:=i1.le;have Lx:=hid (show F0=a8o V C E Q a5 (V.pos a0) (sees V a0 a1t) (a0+stp (sees V a0 a1t)) a9 from f3.out);generalize hqq:a0+stp (sees V a0 a1t)=qq at *
 have hqp:a0<=qq:=by omega
 clear hqq;generalize hbb:sees V a0 a1t=bb at *;clear hbb;obtain⟨d0,d1,d2,d3,d4,d5,d6,d7,d8,d9⟩:=a8.cells;have dz:=a8.fz;have e4:=a8.set 3 (.int .i64 (bit bb)) { op:=0,n:=(bit bb),pos:=(V.pos a0) } rfl;have p1:=a8.im i1 3 (.int .i64 (bit bb));have i3:=p0.set (j:=3) (.int .i64 (bit bb)) ng_n;go_wp2_with fail;refine(a1m hV p1 k_in).mono ?_;clear d0 d1 d2 d3 d4 d5 d6 d7 d8 d9 dz;rintro e i4 ⟨rfl,b1,f4⟩
 cases b2:sees V qq k_in with
 | true=>
  rw[b2] at b1;replace b1:IM V Mx r B _ i4 (qq+1) a9:=b1;have a6:=e4.step f4;have c3:=i3.trans f4;have c4:=hid (It.seT Lx.out b2 rfl);have s6:=a0c b2;obtain⟨d0,d1,d2,d3,d4,d5,d6,d7,d8,d9⟩:=a6.cells;have dz:=a6.fz;go_wp2_with fail;refine(b5l hV hE gE hQ gQ a5 (bit bb) (V.pos a0) b1 (by omega) (by omega)).mono ?_;clear d0 d1 d2 d3 d4 d5 d6 d7 d8 d9 dz;intro e u9 l3;rcases l3.cs with⟨v0,f8,rfl,l4⟩ | ⟨v1,v2,v3,f8,rfl,i5,p2⟩
  .exact bd (It.tail c4.out f8 rfl) ((h.low c3).trans l4)
  have p3:=c3.trans p2;have r8:=i5.le;have p4:=hid (It.tail c4.out f8 rfl);exact okI p4.out i5 p3
 | false=>
 rw[b2] at b1;replace b1:IM V Mx r B _ i4 qq a9:=b1;have a6:=e4.step f4;have c3:=i3.trans f4;have c4:=hid (It.seF Lx.out b2 rfl);go_wp2_with fail;refine(a0N hV b1 a5m).mono ?_;rintro e v4 (⟨b6,rfl,g2,c5⟩ | ⟨b6,rfl,g2,c5⟩)
 .have a3:=a6.step c5;have f5:=c3.trans c5;have c6:=hid (It.seT c4.out b6 rfl);have s7:=a0c b6;obtain⟨d0,d1,d2,d3,d4,d5,d6,d7,d8,d9⟩:=a3.cells;have dz:=a3.fz;have g5:=a3.set 0 (.int .i64 10) { op:=10,n:=(bit bb),pos:=(V.pos a0) } rfl;have p5:=a3.im g2 0 (.int .i64 10);have i6:=f5.set (j:=0) (.int .i64 10) ng_n;go_wp2_with fail;clear d0 d1 d2 d3 d4 d5 d6 d7 d8 d9 dz;refine(hC p5 (by omega) (by omega)).mono ?_;intro e v5 l5;rcases l5.cs with⟨v6,b7,rfl,l6⟩ | ⟨i7,v7,v8,b7,rfl,i8,i9⟩
  .exact bd (It.bad c6.out b7 rfl) ((h.low i6).trans l6)
  have s8:=gC _ _ _ _ _ b7;have g6:=g5.step i9;have j0:=i6.trans i9;have r9:=i8.le;have j1:=hid (It.ok c6.out b7 rfl);go_wp2_with fail;refine(a0u hV i8 k_and).mono ?_;rintro e v9 (⟨b8,rfl,j2,j3⟩ | ⟨b8,rfl,l7⟩)
  rotate_left
  .exact bd (It.mustF j1.out b8 rfl) ((h.low j0).trans l7)
  have e5:=g6.step j3;have p6:=j0.trans j3;have j4:=hid (It.mustT j1.out b8 rfl);have s9:=a0c b8;have l8:=hid e5.cells;go_wp2
  refine a0a (S:=(fun W=>W.cell? ⟨a1.heap.size,0,none⟩=some (.int .i64 10)/\W.cell? ⟨a1.heap.size,1,none⟩=some (.string ⟨#[]⟩)/\W.cell? ⟨a1.heap.size,2,none⟩=some (.string ⟨#[]⟩)/\W.cell? ⟨a1.heap.size,3,none⟩=some (.int .i64 (bit bb))/\W.cell? ⟨a1.heap.size,4,none⟩=some (.int .i64 0)/\W.cell? ⟨a1.heap.size,5,none⟩=some (.int .i64 0)/\W.cell? ⟨a1.heap.size,6,none⟩=some (.int .i64 0)/\W.cell? ⟨a1.heap.size,7,none⟩=some (.string ⟨#[]⟩)/\W.cell? ⟨a1.heap.size,8,none⟩=some (.slice none 0 0)/\W.cell? ⟨a1.heap.size,9,none⟩=some (.int .i64 (V.pos a0)))) (late:=[7,8]) (by kernel_rfl) (by first | exact l8.out | go_keep) (fun hHeld=>?_);refine tT 0 rfl hHeld ?_
  try simp only[Act.put,q1,q2,q3]
  refine tL 1 rfl hHeld ?_
  try simp only[Act.put,q1,q2,q3]
  refine tT 2 rfl hHeld ?_
  try simp only[Act.put,q1,q2,q3]
  refine tT 3 rfl hHeld ?_
  try simp only[Act.put,q1,q2,q3]
  refine tT 4 rfl hHeld ?_
  try simp only[Act.put,q1,q2,q3]
  have l9:=j2.below ((Below.refl _ _).drew);have g8:=p6.drew;have m0:=e5.step (j2.sp.drew);refine rE 5 rfl fun K hK=>?_;go_simp;refine(hC l9 (by omega) (by omega)).mono ?_;intro e w0 m1;rcases m1.cs with⟨w1,b9,rfl,m2⟩ | ⟨j5,w2,w3,b9,rfl,g3,j6⟩
  .have m3:=hid (It.bad j4.out b9 rfl);have m4:=(h.low g8).trans m2;go_simp;exact⟨rfl,IPost.bad m3.out rfl m4⟩
  have t0:=gC _ _ _ _ _ b9;have e6:=m0.step j6;have p7:=g8.trans j6;have s0:=g3.le;have p8:=hid (It.ok j4.out b9 rfl);refine hK _ _ ⟨e6.cells,?_⟩;clear hK K
  try simp only[Act.put,q1,q2,q3]
  refine rE 6 rfl fun K hK=>?_;go_simp;refine hK _ _ ⟨(e6.step (g3.sp.alloc (.cells #[.int .i64 a5,.int .i64 i7,.int .i64 j5] 3))).cells,?_⟩;clear hK K
  try simp only[Act.put,q1,q2,q3]
  refine rL 7 rfl fun K hK=>?_;go_simp;refine(addZ g3 (by omega) ({ op:=10,n:=(bit bb),kids:=[a5,i7,j5],pos:=(V.pos a0) }:Nd) (by simp)).mono ?_;rintro e w4 ⟨rfl,j7,p9⟩;have q0:=p7.trans p9;have q4:=hid (It.done p8.out rfl);have t1:=j7.ol;refine hK _ _ ?_;clear hK K
  try simp only[Act.put,q1,q2,q3]
  refine rL 8 rfl fun K hK=>?_;go_simp;refine hK _ _ ?_;clear hK K
  try simp only[Act.put,q1,q2,q3]
  refine a0h (by kernel_rfl) ?_ _;exact okI q4.out j7 q0
 have a3:=a6.step c5;have f5:=c3.trans c5;have c6:=hid (It.seF c4.out b6 rfl);go_wp2_with fail;refine(a0N hV g2 b3e).mono ?_;rintro e w5 (⟨c0,rfl,c7,c8⟩ | ⟨c0,rfl,c7,c8⟩)
 .have a4:=a3.step c8;have f6:=f5.trans c8;have c9:=hid (It.seT c6.out c0 rfl);have t2:=a0c c0;obtain⟨d0,d1,d2,d3,d4,d5,d6,d7,d8,d9⟩:=a4.cells;have dz:=a4.fz;have e7:=a4.set 0 (.int .i64 11) { op:=11,n:=(bit bb),pos:=(V.pos a0) } rfl;have j8:=a4.im c7 0 (.int .i64 11);have q5:=f6.set (j:=0) (.int .i64 11) ng_n;have m5:=hid e7.cells;go_wp2
  refine a0a (S:=(fun W=>W.cell? ⟨a1.heap.size,0,none⟩=some (.int .i64 11)/\W.cell? ⟨a1.heap.size,1,none⟩=some (.string ⟨#[]⟩)/\W.cell? ⟨a1.heap.size,2,none⟩=some (.string ⟨#[]⟩)/\W.cell? ⟨a1.heap.size,3,none⟩=some (.int .i64 (bit bb))/\W.cell? ⟨a1.heap.size,4,none⟩=some (.int .i64 0)/\W.cell? ⟨a1.heap.size,5,none⟩=some (.int .i64 0)/\W.cell? ⟨a1.heap.size,6,none⟩=some (.int .i64 0)/\W.cell? ⟨a1.heap.size,7,none⟩=some (.string ⟨#[]⟩)/\W.cell? ⟨a1.heap.size,8,none⟩=some (.slice none 0 0)/\W.cell? ⟨a1.heap.size,9,none⟩=some (.int .i64 (V.pos a0)))) (late:=[6,7]) (by kernel_rfl) (by first | exact m5.out | go_keep) (fun hHeld=>?_);refine tT 0 rfl hHeld ?_
  try simp only[Act.put,q1,q2,q3]
  refine tL 1 rfl hHeld ?_
  try simp only[Act.put,q1,q2,q3]
  refine tT 2 rfl hHeld ?_
  try simp only[Act.put,q1,q2,q3]
  refine tT 3 rfl hHeld ?_
  try simp only[Act.put,q1,q2,q3]
  have m6:=j8.below ((Below.refl _ _).drew);have g9:=q5.drew;have m7:=e7.step (j8.sp.drew);refine rE 4 rfl fun K hK=>?_;go_simp;refine(hC m6 (by omega) (by omega)).mono ?_;intro e w6 m8;rcases m8.cs with⟨w7,c1,rfl,m9⟩ | ⟨j9,w8,w9,c1,rfl,g4,k0⟩
  .have n0:=hid (It.bad c9.out c1 rfl);have n1:=(h.low g9).trans m9;go_simp;exact⟨rfl,IPost.bad n0.out rfl n1⟩
  have t3:=gC _ _ _ _ _ c1;have e8:=m7.step k0;have q6:=g9.trans k0;have s1:=g4.le;have q7:=hid (It.ok c9.out c1 rfl);refine hK _ _ ⟨e8.cells,?_⟩;clear hK K
  try simp only[Act.put,q1,q2,q3]
  refine rE 5 rfl fun K hK=>?_;go_simp;refine hK _ _ ⟨(e8.step (g4.sp.alloc (.cells #[.int .i64 a5,.int .i64 j9] 3))).cells,?_⟩;clear hK K
  try simp only[Act.put,q1,q2,q3]
  refine rL 6 rfl fun K hK=>?_;go_simp;refine(addZ g4 (by omega) ({ op:=11,n:=(bit bb),kids:=[a5,j9],pos:=(V.pos a0) }:Nd) (by simp)).mono ?_;rintro e x0 ⟨rfl,k1,q8⟩;have q9:=q6.trans q8;have r0:=hid (It.done q7.out rfl);have t4:=k1.ol;refine hK _ _ ?_;clear hK K
  try simp only[Act.put,q1,q2,q3]
  refine rL 7 rfl fun K hK=>?_;go_simp;refine hK _ _ ?_;clear hK K
  try simp only[Act.put,q1,q2,q3]
  refine a0h (by kernel_rfl) ?_ _;exact okI r0.out k1 q9
 have a4:=a3.step c8;have f6:=f5.trans c8;have c9:=hid (It.seF c6.out c0 rfl);obtain⟨d0,d1,d2,d3,d4,d5,d6,d7,d8,d9⟩:=a4.cells;have dz:=a4.fz
 cases bb with
 | false=>
  have r2:(bit false==1)=false:=rfl;have LN:=hid (It.seF c9.out (c:=false) rfl rfl);exact okI LN.out c7 f6
 | true=>
 have r2:(bit true==1)=true:=rfl;have LN:=hid (It.seT c9.out (c:=true) rfl rfl);go_wp2_with fail;refine(a1u hV c7).mono ?_;rintro e x1 ⟨rfl,r1⟩;have n2:=c7.lowB r1;exact bd (LN.out) ((h.low f6).trans n2)
end
end Go.Proofs.YtphmpkpcamgjeaaGreatDoor
namespace Go.Proofs.YtphmpkpcamgjeaaGreatDoor
open Go.ChangeShapes Go.WideShapes Go.ChangeAt Go.RowKit Go.Proofs.Tryz
open Go.Maps
section
variable {V : Env} {Mx : DataW Unit} {r B : Nat} {D : Nat -> Prop} {w : World} {p : Nat} {o : List Nd} {m : Nat} {E Q : M Int}
theorem b8P (hV:IV V Mx) (hX:IX V) (hLP:∀ p,sees V p g_lp=true->isNm V p=false) {E Q:M Int} (hE:a0p V Mx 147 m E) (gE:Gro 999 E) (hQ:a0p V Mx 78 m Q) (gQ:Gro 900 Q):a0p V Mx 171 (m+1) (negF V E Q)/\a0p V Mx 147 (m+1) (a2t V E Q):=by
 have a1:a0p V Mx 191 (m+1) (a3K V E Q):=fun h hn hl=>b8N hV hE gE hQ gQ hX hLP h hn hl;have n1:a0p V Mx 171 (m+1) (negF V E Q):=b5n hV gE gQ a1;have m1:a0p V Mx 233 (m+1) (mulF V E Q):=fun h hn hl=>mul_any hV gE gQ n1 h hn hl;have s1:a0p V Mx 229 (m+1) (sumF V E Q):=fun h hn hl=>sum_any hV gE gQ m1 h hn hl;have c1:a0p V Mx 220 (m+1) (catF V E Q):=fun h hn hl=>b7A hV gE gQ s1 h hn hl;have t1:a0p V Mx 207 (m+1) (a4z V (catF V E Q) E Q):=fun h hn hl=>b8O hV c1 (a6E gE gQ) hE gE hQ gQ h hn hl;have o1:a0p V Mx 189 (m+1) (notF V E Q):=b5o hV gE gQ t1;have d1:a0p V Mx 168 (m+1) (andF V E Q):=fun h hn hl=>b5m hV gE gQ o1 h hn hl;exact⟨n1,fun h hn hl=>b3w hV gE gQ d1 h hn hl⟩
end
end Go.Proofs.YtphmpkpcamgjeaaGreatDoor
namespace Go.Proofs.YtphmpkpcamgjeaaGreatDoor
open Go.ChangeShapes Go.WideShapes Go.ChangeAt Go.RowKit Go.Proofs.Tryz
open Go.Maps
theorem b7D {V:Env} {E Q:M Int} {k q:Nat} {l:Int} {o:List Nd} (hk:V.ts.length-q<k) (h:pick V [a2P,a1B] q=none):bodyL V E Q k l q o=.ok l q o:=by
 obtain⟨k',rfl⟩:∃ k',k=k'+1:=⟨k-1,by omega⟩;unfold bodyL;rw[h]
theorem b7E {V:Env} {E Q:M Int} {k q i:Nat} {l:Int} {o:List Nd} (hk:V.ts.length-q<k) (h:pick V [a2P,a1B] q=some i):bodyL V E Q k l q o=(a2I V E Q (q+1+stp (sees V (q+1) a4c)) o).bind fun m2 q2 o=>(lay { op:=26,n:=(i:Int)+1,m:=bit (sees V (q+1) a4c),kids:=[l,m2],pos:=V.pos q } q2 o).bind fun c q2 o=>bodyL V E Q (k-1) c q2 o:=by
 obtain⟨k',rfl⟩:∃ k',k=k'+1:=⟨k-1,by omega⟩;simp only[bodyL,h,Nat.add_sub_cancel];rfl
section
variable {V : Env} {Mx : DataW Unit} {r B : Nat} {D : Nat -> Prop} {w : World} {p : Nat} {o : List Nd} {m : Nat} {E Q : M Int}
theorem b8T (hV:IV V Mx) (hQ:a0p V Mx 78 m Q) (gQ:Gro 900 Q) (hS:a0p V Mx 172 (m+1) (selF V E Q)) (h:IM V Mx r B D w p o) (hn:V.ts.length-p<m+1) (hl:o.length<=1000*p+500) :
 Calls prog 150 #[.pointer (some ⟨r,0,none⟩)] w fun e w'=>IPost V Mx r B D vInt (a2I V E Q p o) w e w':=by
 have hmf:=@mkf;have hT:=hV.n;have hle:=h.le;obtain⟨F0,L0⟩:=hidEq (a2I V E Q p o);rw[<- L0.out];go_enter func150,ntmps150;go_wp2_with fail;refine(a3L hV h g_lp).mono ?_;rintro e c3 ⟨rfl,a5⟩;have b3:=h.spB a5;have a6:=h.below a5;have a1:=h.sp.trans b3
 cases a2:sees V p g_lp with
 | false=>
  have a0:=hid (It.seF L0.out a2 rfl);go_wp2_with fail;refine(hS a6 (by omega) (by omega)).mono ?_;intro e c4 a9;rcases a9.cs with⟨c5,a3,rfl,b0⟩ | ⟨c6,c7,c8,a3,rfl,a7,b4⟩
  .exact bd (It.tail a0.out a3 rfl) ((h.low a1).trans b0)
  have b5:=a1.trans b4;have c0:=a7.le;have b6:=hid (It.tail a0.out a3 rfl);exact okI b6.out a7 b5
 | true=>
 have a0:=hid (It.seT L0.out a2 rfl);have c2:=a0c a2;go_wp2_with fail;refine(a3l (n:=m) hV a4s hQ gQ a6 (by omega) (by omega)).mono ?_;intro e c9 b1;rcases b1.cs with⟨d0,a4,rfl,b2⟩ | ⟨d1,d2,d3,a4,rfl,a8,b7⟩
 .exact bd (It.tail a0.out a4 rfl) ((h.low a1).trans b2)
 have b8:=a1.trans b7;have c1:=a8.le;have b9:=hid (It.tail a0.out a4 rfl);exact okI b9.out a8 b8
theorem b8U (hV:IV V Mx) (gE:Gro 999 E) (gQ:Gro 900 Q) (hTm:a0p V Mx 150 (m+1) (a2I V E Q)) (h:IM V Mx r B D w p o) (hn:V.ts.length-p<m+1) (hl:o.length<=1000*p+500) :
 Calls prog 120 #[.pointer (some ⟨r,0,none⟩)] w fun e w'=>IPost V Mx r B D vInt (bodyF V E Q p o) w e w':=by
 have hT:=hV.n;have hle:=h.le;obtain⟨F0,L0⟩:=hidEq (bodyF V E Q p o);rw[<- L0.out];go_enter func120,ntmps120;go_wp2_with fail;refine(hTm h (by omega) (by omega)).mono ?_;intro e h7 c6;rcases c6.cs with⟨h8,a4,rfl,c7⟩ | ⟨e6,e7,e8,a4,rfl,b6,e9⟩
 .exact bd (It.bad L0.out a4 rfl) ((h.low h.sp).trans c7)
 have h4:=(a4o gE gQ) _ _ _ _ _ a4;have f0:=h.sp.trans e9;have g9:=b6.le;have f1:=hid (It.ok L0.out a4 rfl);go_wp2_with fail;go_loopw [3] (fun lv wr=>∃ (l:Int) (k q:Nat) (o2:List Nd),lv=.int .i64 l/\IM V Mx r B D wr q o2/\Sp 4 r w wr/\Hid (F0=bodyL V E Q k l q o2)/\V.ts.length-q<k/\V.ts.length-q<m+1/\o2.length<=1000*q+400) (fun _ wr=>V.ts.length-atI r wr)
 case atStart=>exact⟨e6,V.ts.length+1,e7,e8,rfl,b6,f0,f1,by omega,by omega,by omega⟩
 case round=>
 obtain⟨l,k,q,o2,rfl,h2,s2,L2,e5,i5,i6⟩:=hrel;have h9:=h2.le;have g7:=h2.atI;go_wp2_with fail;refine(a0v hV h2).mono ?_;rintro e a1 ⟨rfl,b7⟩;have f2:=h2.spB b7;have b0:=h2.below b7;have b8:=s2.trans f2;have a6:=NI.new b0 { op:=26,pos:=(V.pos q) };have f3:=b0.sp.alloc (.cells (ndA { op:=26,pos:=(V.pos q) } (.slice none 0 0)) 42);have f4:=b0.alloc (.cells (ndA { op:=26,pos:=(V.pos q) } (.slice none 0 0)) 42);have ng_n:w.heap.size<=a1.heap.size:=b8.size;have b9:=b8.trans f3;go_wp2_with fail;refine(a8w hV f4 [a2P,a1B] (by simp)).mono ?_;rintro e c0 ⟨rfl,a3,a9⟩
 cases hp:pick V [a2P,a1B] q with
 | none=>
  rw[hp] at a3;replace a3:IM V Mx r B _ c0 q o2:=a3;rw[show chN none=0 from rfl];have a0:=a6.step a9;have b1:=b9.trans a9;have LN:=hid (L2.out.trans (b7D e5 hp));obtain⟨d0,d1,d2,d3,d4,d5,d6,d7,d8,d9⟩:=a0.cells;have dz:=a0.fz;have f5:=a0.im a3 3 (.int .i64 0);have f6:=b1.set (j:=3) (.int .i64 0) ng_n;exact okI LN.out f5 f6
 | some i=>
 rw[hp] at a3;replace a3:IM V Mx r B _ c0 (q+1) o2:=a3;have a0:=a6.step a9;have b1:=b9.trans a9;have ltq:=a1Q hp;have LN:=hid (L2.out.trans (b7E e5 hp));obtain⟨op,hop⟩:∃ op,op=(i:Int)+1:=⟨_,rfl⟩;have LO:=hid (show F0=(a2I V E Q (q+1+stp (sees V (q+1) a4c)) o2).bind (fun m2 q2 o=>(lay { op:=26,n:=op,m:=bit (sees V (q+1) a4c),kids:=[l,m2],pos:=V.pos q } q2 o).bind fun c q2 o=>bodyL V E Q (k-1) c q2 o) from by rw[hop];exact LN.out);rw[show chN (some i)=op from hop.symm]
 have hopb:(op==0)=false:=by simpa using(by omega:op≠0)
 clear hop;obtain⟨d0,d1,d2,d3,d4,d5,d6,d7,d8,d9⟩:=a0.cells;have dz:=a0.fz;have b4:=a0.set 3 (.int .i64 op) { op:=26,n:=op,pos:=(V.pos q) } rfl;have f7:=a0.im a3 3 (.int .i64 op);have f8:=b1.set (j:=3) (.int .i64 op) ng_n;go_wp2_with fail;refine(a3j hV f7 a4c).mono ?_;clear d0 d1 d2 d3 d4 d5 d6 d7 d8 d9 dz;rintro e i0 ⟨rfl,c1,c2⟩;have h0:=a5z (sees V (q+1) a4c);have a2:=b4.step c2;have f9:=f8.trans c2;have h1:=c1.le;obtain⟨nb,hnb⟩:∃ nb,nb=bit (sees V (q+1) a4c):=⟨_,rfl⟩;rw[<- hnb];have LP:=hid (show F0=(a2I V E Q (q+1+stp (sees V (q+1) a4c)) o2).bind (fun m2 q2 o=>(lay { op:=26,n:=op,m:=nb,kids:=[l,m2],pos:=V.pos q } q2 o).bind fun c q2 o=>bodyL V E Q (k-1) c q2 o) from by rw[hnb];exact LO.out);clear hnb
 obtain⟨d0,d1,d2,d3,d4,d5,d6,d7,d8,d9⟩:=a2.cells;have dz:=a2.fz;have a7:=a2.set 4 (.int .i64 nb) { op:=26,n:=op,m:=nb,pos:=(V.pos q) } rfl;have c3:=a2.im c1 4 (.int .i64 nb);have g0:=f9.set (j:=4) (.int .i64 nb) ng_n;have c8:=hid a7.cells;go_wp2
 refine a0a (S:=(fun W=>W.cell? ⟨a1.heap.size,0,none⟩=some (.int .i64 26)/\W.cell? ⟨a1.heap.size,1,none⟩=some (.string ⟨#[]⟩)/\W.cell? ⟨a1.heap.size,2,none⟩=some (.string ⟨#[]⟩)/\W.cell? ⟨a1.heap.size,3,none⟩=some (.int .i64 op)/\W.cell? ⟨a1.heap.size,4,none⟩=some (.int .i64 nb)/\W.cell? ⟨a1.heap.size,5,none⟩=some (.int .i64 0)/\W.cell? ⟨a1.heap.size,6,none⟩=some (.int .i64 0)/\W.cell? ⟨a1.heap.size,7,none⟩=some (.string ⟨#[]⟩)/\W.cell? ⟨a1.heap.size,8,none⟩=some (.slice none 0 0)/\W.cell? ⟨a1.heap.size,9,none⟩=some (.int .i64 (V.pos q)))) (late:=[6,7]) (by kernel_rfl) (by first | exact c8.out | go_keep) (fun hHeld=>?_);refine tT 0 rfl hHeld ?_
 try simp only[Act.put,q1,q2,q3]
 refine tL 1 rfl hHeld ?_
 try simp only[Act.put,q1,q2,q3]
 refine tT 2 rfl hHeld ?_
 try simp only[Act.put,q1,q2,q3]
 refine tT 3 rfl hHeld ?_
 try simp only[Act.put,q1,q2,q3]
 have c9:=c3.below ((Below.refl _ _).drew);have b5:=g0.drew;have e0:=a7.step (c3.sp.drew);refine rE 4 rfl fun K hK=>?_;go_simp;refine(hTm c9 (by omega) (by omega)).mono ?_;intro e i1 e1;rcases e1.cs with⟨i2,a5,rfl,e2⟩ | ⟨c4,g1,i3,a5,rfl,b2,c5⟩
 .have e3:=hid (It.bad LP.out a5 rfl);have e4:=(h.low b5).trans e2;go_simp;exact⟨rfl,IPost.bad e3.out rfl e4⟩
 have h5:=(a4o gE gQ) _ _ _ _ _ a5;have a8:=e0.step c5;have g2:=b5.trans c5;have h3:=b2.le;have g3:=hid (It.ok LP.out a5 rfl);refine hK _ _ ⟨a8.cells,?_⟩;clear hK K
 try simp only[Act.put,q1,q2,q3]
 refine rE 5 rfl fun K hK=>?_;go_simp;refine hK _ _ ⟨(a8.step (b2.sp.alloc (.cells #[.int .i64 l,.int .i64 c4] 3))).cells,?_⟩;clear hK K
 try simp only[Act.put,q1,q2,q3]
 refine rL 6 rfl fun K hK=>?_;go_simp;refine(addZ b2 (by omega) ({ op:=26,n:=op,m:=nb,kids:=[l,c4],pos:=(V.pos q) }:Nd) (by simp)).mono ?_;rintro e i4 ⟨rfl,b3,g4⟩;have g5:=g2.trans g4;have g6:=hid (It.layT g3.out rfl);have h6:=b3.ol;refine hK _ _ ?_;clear hK K
 try simp only[Act.put,q1,q2,q3]
 refine rL 7 rfl fun K hK=>?_;go_simp;refine hK _ _ ?_;clear hK K
 try simp only[Act.put,q1,q2,q3]
 refine a0h (by kernel_rfl) ?_ _;have g8:=b3.atI;go_wp2;go_roundw
 case rel=>exact⟨_,k-1,g1,_,rfl,b3,g5,g6,by omega,by omega,by omega⟩
 case measure=>rw[g7,g8];omega
end
end Go.Proofs.YtphmpkpcamgjeaaGreatDoor
namespace Go.Proofs.YtphmpkpcamgjeaaGreatDoor
open Go.ChangeShapes Go.WideShapes Go.ChangeAt Go.RowKit Go.Proofs.Tryz
open Go.Maps
section
variable {V : Env} {Mx : DataW Unit} {r B : Nat} {D : Nat -> Prop} {w : World} {p : Nat} {o : List Nd} {m : Nat} {E Q : M Int}
theorem a8C (hV:IV V Mx) (hX:IX V) (h:IM V Mx r B D w p o) :
 Calls prog 152 #[.pointer (some ⟨r,0,none⟩)] w fun e w'=>IPost V Mx r B D vInt (a0X V p o) w e w':=by
 obtain⟨G,a0⟩:∃ G,G=a0X V p o:=⟨_,rfl⟩;have HG:=hid a0;rw[<- a0];clear a0;go_enter func152,ntmps152;go_wp2_with fail;refine(take_any hV h 3 (by decide)).mono ?_;intro e w1 hP;by_cases hk:V.kd p=3
 .rw[show a4k V 3 p o=.ok (V.tx p) (p+1) o by simp[a4k,hk]] at hP;obtain⟨rfl,h1,z1⟩:=hP;have HF:=hid (HG.out.trans (show a0X V p o=.ok (V.ri (V.tx p)) (p+1) o by simp[a0X,hk]));go_wp2_with fail;refine(hX.ri p hk w1).mono ?_;rintro e w2 ⟨rfl,b2⟩;have h2:=h1.below b2;have s2:=z1.trans (h1.spB b2);exact okI HF.out h2 s2
 rw[show a4k V 3 p o=.bad p by simp[a4k,hk]] at hP;obtain⟨rfl,b3⟩:=hP;have HF:=hid (HG.out.trans (show a0X V p o=.bad p by simp[a0X,hk]));go_wp2;exact⟨rfl,IPost.bad HF.out rfl b3⟩
end
end Go.Proofs.YtphmpkpcamgjeaaGreatDoor
namespace Go.Proofs.YtphmpkpcamgjeaaGreatDoor
open Go.ChangeShapes Go.WideShapes Go.ChangeAt Go.RowKit Go.Proofs.Tryz
open Go.Maps
def a6m (V:Env) (E:M Int):M Int:=fun p o=>(must V a2m p o).bind fun _ q o=>(must V k_by q o).bind fun _ q o=>(a0F V (keyF V E) q o).bind fun gs q o=>lay { op:=28,kids:=gs,pos:=V.pos p } q o
def limF (V:Env):M Int:=fun p o=>(numF V a1Z p o).bind fun a q o=>(numF V a0K q o).bind fun b q o=>lay { op:=30,n:=a,m:=b,pos:=V.pos p } q o
theorem a7G {V:Env} {s:ByteArray} {p:Nat} {o:List Nd} (h:sees V p s=true):numF V s p o=a0X V (p+1) o:=by unfold numF;rw[if_pos h]
theorem a6n {V:Env} {s:ByteArray} {p:Nat} {o:List Nd} (h:sees V p s=false):numF V s p o=.ok (-1) p o:=by unfold numF;rw[if_neg (by rw[h];simp)]
theorem a4F {V:Env}:Gro 1000 (a0X V):=fun p o a q o' h=>by
 unfold a0X at h;simp only[a0o] at h;rcases h with⟨_,h⟩ | ⟨_,h⟩
 .simp at h;obtain⟨rfl,rfl,rfl⟩:=h;omega
 simp at h
theorem a6F {V:Env} {p:Nat} {o:List Nd} {a:Int} {q:Nat} {o':List Nd} (h:a0X V p o=.ok a q o'):o'=o:=by
 unfold a0X at h;simp only[a0o] at h;rcases h with⟨_,h⟩ | ⟨_,h⟩
 .simp at h;exact h.2.2.symm
 simp at h
section
variable {V : Env} {Mx : DataW Unit} {r B : Nat} {D : Nat -> Prop} {w : World} {p : Nat} {o : List Nd} {m : Nat} {E Q : M Int}
theorem b7F (hV:IV V Mx) (gE:Gro 999 E) (hK:a0p V Mx 151 (m+1) (keyF V E)) (h:IM V Mx r B D w p o) (hn:V.ts.length-p<m+1) (hl:o.length<=1000*p+500) :
 Calls prog 121 #[.pointer (some ⟨r,0,none⟩)] w fun e w'=>IPost V Mx r B D vInt (a6m V E p o) w e w':=by
 have hmf:=@mkf;have hT:=hV.n;have hle:=h.le;obtain⟨F0,L0⟩:=hidEq (a6m V E p o);rw[<- L0.out];go_enter func121,ntmps121;go_wp2_with fail;refine(a0v hV h).mono ?_;rintro e d2 ⟨rfl,b0⟩;have b5:=h.spB b0;have b6:=h.below b0;have a6:=h.sp.trans b5;go_wp2_with fail;refine(a4E hV b6 [a2m,k_by] (by simp)).mono ?_;intro e d3 a0
 cases a1:sees V p a2m with
 | false=>
  rw[show a1q V [a2m,k_by] p o=.bad p by simp[a1q,must,a1,R.bind_bad]] at a0;obtain⟨rfl,a5⟩:=a0;exact bd (It.mustF L0.out a1 rfl) ((h.low a6).trans a5)
 | true=>
 have a8:=hid (It.mustT L0.out a1 rfl)
 cases a2:sees V (p+1) k_by with
 | false=>
  rw[show a1q V [a2m,k_by] p o=.bad (p+1) by simp[a1q,must,a1,a2,R.bind_bad,R.bind_ok]] at a0;obtain⟨rfl,a5⟩:=a0;exact bd (It.mustF a8.out a2 rfl) ((h.low a6).trans a5)
 | true=>
 rw[show a1q V [a2m,k_by] p o=.ok () (p+1+1) o by simp[a1q,must,a1,a2,R.bind_ok]] at a0;obtain⟨rfl,b7,b8⟩:=a0;have b1:=a6.trans b8;have a9:=hid (It.mustT a8.out a2 rfl);have c6:=a0c a2;go_wp2_with fail;refine(a1s (n:=m+1) hV b8G hK (a4p gE) (by omega) b7 (by omega) (by omega)).mono ?_;intro e d4 a4
 cases a3:(a0F V (keyF V E)) (p+1+1) o with
 | bad d5=>
  rw[a3] at a4;obtain⟨rfl,b4⟩:=a4;exact bd (It.bad a9.out a3 rfl) ((h.low b1).trans b4)
 | ok b2 d6 d7=>
 rw[a3] at a4;obtain⟨c7,c8,rfl,a7,b9,c9⟩:=a4;have d0:=(a0D (a4p gE) (by omega)) _ _ _ _ _ a3;have c0:=b1.trans b9;have c5:=a7.sm.le;have c1:=hid (It.ok a9.out a3 rfl);go_wp2_with fail;refine(add_any a7.out (by omega) ({ op:=28,kids:=b2,pos:=V.pos p }:Nd) _ a7.kids (show b2.length<=100000 by omega)).mono ?_;rintro e d8 ⟨rfl,b3,c2⟩;have c3:=c0.trans c2;have c4:=hid (It.done c1.out rfl);have d1:=b3.ol;exact okI c4.out b3 c3
theorem a6G (hV:IV V Mx) (hX:IX V) (h:IM V Mx r B D w p o) (hn:V.ts.length-p<m+1) (hl:o.length<=1000*p+500) :
 Calls prog 122 #[.pointer (some ⟨r,0,none⟩)] w fun e w'=>IPost V Mx r B D vInt (limF V p o) w e w':=by
 have hT:=hV.n;have hle:=h.le;obtain⟨F0,L0⟩:=hidEq (limF V p o);rw[<- L0.out];go_enter func122,ntmps122;go_wp2_with fail;refine(a0v hV h).mono ?_;rintro e g5 ⟨rfl,c9⟩;have g6:=h.spB c9;have c3:=h.below c9;have e0:=h.sp.trans g6;have b7:=NI.new c3 { op:=30,n:=(-1),m:=(-1),pos:=(V.pos p) };have g7:=c3.sp.alloc (.cells (ndA { op:=30,n:=(-1),m:=(-1),pos:=(V.pos p) } (.slice none 0 0)) 42);have g8:=c3.alloc (.cells (ndA { op:=30,n:=(-1),m:=(-1),pos:=(V.pos p) } (.slice none 0 0)) 42);have ng_n:w.heap.size<=g5.heap.size:=e0.size;have e1:=e0.trans g7;go_wp2_with fail;refine(a0N hV g8 a1Z).mono ?_;rintro e k4 (⟨b0,rfl,c4,b3⟩ | ⟨b0,rfl,c4,b3⟩)
 .have a0:=b7.step b3;have b4:=e1.trans b3;have j4:=a0c b0;have M1:=hid (show F0=(a0X V (p+1) o).bind (fun a q o=>(numF V a0K q o).bind fun b q o=>lay { op:=30,n:=a,m:=b,pos:=V.pos p } q o) from L0.out.trans (by unfold limF;rw[a7G b0]));go_wp2_with fail;refine(a8C hV hX c4).mono ?_;intro e k5 f6;rcases f6.cs with⟨k6,a7,rfl,f7⟩ | ⟨a4,e2,e3,a7,rfl,e4,e5⟩
  .exact bd (It.bad M1.out a7 rfl) ((h.low b4).trans f7)
  have j5:=a4F _ _ _ _ _ a7;have a1:=a0.step e5;have g9:=b4.trans e5;have j1:=e4.le;have e6:=hid (It.ok M1.out a7 rfl);have f8:=a6F a7;subst f8;obtain⟨d0,d1,d2,d3,d4,d5,d6,d7,d8,d9⟩:=a1.cells;have dz:=a1.fz;have b8:=a1.set 3 (.int .i64 a4) { op:=30,n:=a4,m:=(-1),pos:=(V.pos p) } rfl;have h0:=a1.im e4 3 (.int .i64 a4);have e7:=g9.set (j:=3) (.int .i64 a4) ng_n;go_wp2_with fail;clear d0 d1 d2 d3 d4 d5 d6 d7 d8 d9 dz;refine(a0N hV h0 a0K).mono ?_;rintro e k7 (⟨b1,rfl,c5,b5⟩ | ⟨b1,rfl,c5,b5⟩)
  .have a2:=b8.step b5;have b9:=e7.trans b5;have j6:=a0c b1;have c0:=hid (show F0=(a0X V (e2+1) e3).bind (fun b q o=>lay { op:=30,n:=a4,m:=b,pos:=V.pos p } q o) from e6.out.trans (by rw[a7G b1]));go_wp2_with fail;refine(a8C hV hX c5).mono ?_;intro e k8 f9;rcases f9.cs with⟨k9,a8,rfl,g0⟩ | ⟨c6,l0,l1,a8,rfl,e8,e9⟩
   .exact bd (It.bad c0.out a8 rfl) ((h.low b9).trans g0)
   have j7:=a4F _ _ _ _ _ a8;have a5:=a2.step e9;have h1:=b9.trans e9;have j2:=e8.le;have h2:=hid (It.ok c0.out a8 rfl);have g1:=a6F a8;subst g1;obtain⟨d0,d1,d2,d3,d4,d5,d6,d7,d8,d9⟩:=a5.cells;have dz:=a5.fz;have h3:=a5.im e8 4 (.int .i64 c6);have h4:=h1.set (j:=4) (.int .i64 c6) ng_n;go_wp2_with fail;refine(add0 h3 (by omega) ({ op:=30,n:=a4,m:=c6,pos:=(V.pos p) }:Nd) rfl).mono ?_;clear d0 d1 d2 d3 d4 d5 d6 d7 d8 d9 dz;rintro e l2 ⟨rfl,f0,h5⟩;have h6:=h4.trans h5;have h7:=hid (It.done h2.out rfl);have j8:=f0.ol;exact okI h7.out f0 h6
  have a2:=b8.step b5;have b9:=e7.trans b5;have c0:=hid (show F0=lay { op:=30,n:=a4,m:=-1,pos:=V.pos p } e2 e3 from e6.out.trans (by rw[a6n b1];rfl));obtain⟨d0,d1,d2,d3,d4,d5,d6,d7,d8,d9⟩:=a2.cells;have dz:=a2.fz;go_wp2_with fail;refine(add0 c5 (by omega) ({ op:=30,n:=a4,m:=(-1),pos:=(V.pos p) }:Nd) rfl).mono ?_;clear d0 d1 d2 d3 d4 d5 d6 d7 d8 d9 dz;rintro e l3 ⟨rfl,f1,h8⟩;have h9:=b9.trans h8;have i0:=hid (It.done c0.out rfl);have j9:=f1.ol;exact okI i0.out f1 h9
 have a0:=b7.step b3;have b4:=e1.trans b3;have M1:=hid (show F0=(numF V a0K p o).bind (fun b q o=>lay { op:=30,n:=-1,m:=b,pos:=V.pos p } q o) from L0.out.trans (by unfold limF;rw[a6n b0];rfl));go_wp2_with fail;refine(a0N hV c4 a0K).mono ?_;rintro e l4 (⟨b2,rfl,c7,b6⟩ | ⟨b2,rfl,c7,b6⟩)
 .have a3:=a0.step b6;have c1:=b4.trans b6;have k0:=a0c b2;have c2:=hid (show F0=(a0X V (p+1) o).bind (fun b q o=>lay { op:=30,n:=-1,m:=b,pos:=V.pos p } q o) from M1.out.trans (by rw[a7G b2]));go_wp2_with fail;refine(a8C hV hX c7).mono ?_;intro e l5 g2;rcases g2.cs with⟨l6,a9,rfl,g3⟩ | ⟨c8,l7,l8,a9,rfl,f2,f3⟩
  .exact bd (It.bad c2.out a9 rfl) ((h.low c1).trans g3)
  have k1:=a4F _ _ _ _ _ a9;have a6:=a3.step f3;have i1:=c1.trans f3;have j3:=f2.le;have i2:=hid (It.ok c2.out a9 rfl);have g4:=a6F a9;subst g4;obtain⟨d0,d1,d2,d3,d4,d5,d6,d7,d8,d9⟩:=a6.cells;have dz:=a6.fz;have i3:=a6.im f2 4 (.int .i64 c8);have i4:=i1.set (j:=4) (.int .i64 c8) ng_n;go_wp2_with fail;refine(add0 i3 (by omega) ({ op:=30,n:=(-1),m:=c8,pos:=(V.pos p) }:Nd) rfl).mono ?_;clear d0 d1 d2 d3 d4 d5 d6 d7 d8 d9 dz;rintro e l9 ⟨rfl,f4,i5⟩;have i6:=i4.trans i5;have i7:=hid (It.done i2.out rfl);have k2:=f4.ol;exact okI i7.out f4 i6
 have a3:=a0.step b6;have c1:=b4.trans b6;have c2:=hid (show F0=lay { op:=30,n:=-1,m:=-1,pos:=V.pos p } p o from M1.out.trans (by rw[a6n b2];rfl));obtain⟨d0,d1,d2,d3,d4,d5,d6,d7,d8,d9⟩:=a3.cells;have dz:=a3.fz;go_wp2_with fail;refine(add0 c7 (by omega) ({ op:=30,n:=(-1),m:=(-1),pos:=(V.pos p) }:Nd) rfl).mono ?_;clear d0 d1 d2 d3 d4 d5 d6 d7 d8 d9 dz;rintro e m0 ⟨rfl,f5,i8⟩;have i9:=c1.trans i8;have j0:=hid (It.done c2.out rfl);have k3:=f5.ol;exact okI j0.out f5 i9
end
end Go.Proofs.YtphmpkpcamgjeaaGreatDoor
