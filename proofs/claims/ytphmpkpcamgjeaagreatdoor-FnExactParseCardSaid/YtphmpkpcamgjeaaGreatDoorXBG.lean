import Derived.Test.YtphmpkpcamgjeaaGreatDoorXAA
import Derived.Test.YtphmpkpcamgjeaaGreatDoorXBF
set_option linter.unusedVariables false
set_option linter.unusedSimpArgs false
set_option maxRecDepth 100000
set_option maxHeartbeats 16000000
namespace Go.Proofs.YtphmpkpcamgjeaaGreatDoor
open Go.ChangeShapes Go.WideShapes Go.ChangeAt Go.RowKit Go.Proofs.Tryz
section
variable {α : Type} {V : Env} {d c : Nat} {F G : List Nd -> R α} {p : Nat} {x : Option (List Nd)} {m q : Nat} {y : Option (List Nd)} {m' : Nat}
theorem Lp.ifF {b:Bool} {A B:List Nd->R α} (h:Lp V d c F G p x m q y m') (hb:∀ o,y=some o->b=false) (e:∀ o,G o=if b then A o else B o):Lp V d c F B p x m q y m':=h.congr (fun o ho=>by rw[e o,hb o ho];rfl)
theorem Lp.ifT {b:Bool} {A B:List Nd->R α} (h:Lp V d c F G p x m q y m') (hb:b=true) (e:∀ o,G o=if b then A o else B o):Lp V d c F A p x m q y m':=h.congr (fun o ho=>by rw[e o,hb];rfl)
theorem b3D {k:Int} (h:true=(x.isSome&&V.kd p==k)):∃ o,x=some o/\(V.kd p==k)=true/\V.kd p=k:=by
 cases x with
 | none=>simp at h
 | some o=>
 simp at h;exact⟨o,rfl,by simpa using h,h⟩
theorem b7I {k:Int} (h:false=(x.isSome&&V.kd p==k)):∀ o,x=some o->(V.kd p==k)=false:=fun o e=>by subst e;simpa using h.symm
end
theorem a5i {β:Type} (V:Env) (f:M Int) (K:Int->Nat->List Nd->R β) (p:Nat) (o:List Nd):(inB V f p o).bind K=(must V g_lp p o).bind fun _ p o=>(f p o).bind fun k p o=>(must V g_rp p o).bind fun _ p o=>K k p o:=by
 unfold inB;rw[R.bind_bind];congr 1;funext _ p1 o1;rw[R.bind_bind];congr 1;funext k p2 o2;rw[R.bind_bind];congr 1
theorem b5y {V:Env} {src:ByteArray} {n:Nat} {E Q:M Int} (hV:VO V src) (hE:SV V) (hA:0<n->a0w V src 87 10 (n-1) E) (hQ:0<n->a0w V src 24 240 (n-1) Q):a0w V src 154 10 n (a3K V E Q):=fun {r B D w p x m} h hn hp=>by
 have hT:=hV.n;have hle:=h.le;have l0:=Lp.refl V ((a3K V E Q) p) p x m;have E0:=l0.le;go_enter func154,ntmps154;go_wp2_with fail;refine(a0C hV h).mono ?_;rintro e w1 ⟨rfl,b1⟩;have h1:=h.below b1;have s1:=h.sp.below b1;go_wp2_with fail;refine(a4h hV h1 3 (by omega)).mono ?_;rintro e w2 ⟨c2,rfl,t2,b2⟩;have h2:=h1.below b2;have s2:=s1.below b2
 cases c2 with
 | true=>
  obtain⟨o2,e2,g2,k2⟩:=b3D t2;have s0:=b1L k2 (by omega);have l2:=l0.ifT g2 (fun _=>rfl);have u0:=l2.le;clear t2;have HK:=hid k2;clear k2 g2;have a5:=l2.step e2 s0 (fun _ _=>rfl);have m1:=a5.le;go_wp2_with fail;refine(number_any hV hE h2 HK.out).mono ?_;rintro e u1 ⟨rfl,g1,u2⟩;have h0:=s2.trans u2;go_wp2_with fail;refine(a1F g1 (by have:=a0r (V:=V) (p:=(p+1)) (x:=x) (m:=m);omega) (1) (V.ri (V.tx p)) (⟨#[]⟩) (V.pos p)).mono ?_;rintro e E1 ⟨E2,rfl,d1,u3,u4⟩;have d8:=h0.trans u3;have HR:=hid (a5.lastS e2 u4);go_wp2;go_ret;exact⟨_,_,_,_,rfl,d1,d8,HR.out.weak (by omega) (by omega)⟩
 | false=>
 have l2:=l0.ifF (b7I t2) (fun _=>rfl);have u0:=l2.le;clear t2;go_wp2_with fail;refine(a4h hV h2 4 (by omega)).mono ?_;rintro e w3 ⟨c3,rfl,t3,b3⟩;have h3:=h2.below b3;have s3:=s2.below b3
 cases c3 with
 | true=>
  obtain⟨o3,e3,g3,k3⟩:=b3D t3;have n1:=b1L k3 (by omega);have l3:=l2.ifT g3 (fun _=>rfl);have u5:=l3.le;clear t3;have a5:=l3.step e3 n1 (fun _ _=>rfl);have m1:=a5.le;obtain⟨ta,tc,oa,oc,c0,c1,c2,c3,c4,f2,f3,f4,ht⟩:=h3.cells
  have u6:(p:Int)<=2000:=by omega
  obtain⟨g,o,rfl,htk⟩:=ht (by omega);obtain⟨t0,t1,t2⟩:=htk p n1
  have u7:(p:Int)<V.ts.length:=by omega
  have u8:(0:Int)<=(p:Int):=by omega
  clear htk ht t0 t2 c0 c3 c4 f3 f4;have hcl:=hE.rdd p k3;clear k3 g3;obtain⟨tx,htx⟩:∃ tx,V.tx p=tx:=⟨_,rfl⟩;obtain⟨rd,hrd⟩:∃ rd,V.rd (V.tx p)=rd:=⟨_,rfl⟩;have HX:=hid hrd;rw[hrd] at hcl;rw[htx] at hcl t1;clear htx hrd;go_wp2
  go_region_held3 (fun W=>W.cell? ⟨r,1,none⟩=some (.slice (some ⟨g,o,none⟩) V.ts.length tc)/\W.cell? ⟨r,2,none⟩=some (.int .i64 p)/\W.cell? ⟨g,o+p*3+1,none⟩=some (.string tx)) (go_keep)
    ((go_at_call 176;refine(hcl _).mono ?_;rintro e u1 ⟨rfl,d2⟩;have g1:=h3.below (a1p d2);have h0:=s3.below (a1p d2);have y0:=(a1p d2).cell (p:=⟨r,1,none⟩) h3.rl;have y1:=(a1p d2).cell (p:=⟨r,2,none⟩) h3.rl;have y2:=(a1p d2).frozen (p:=⟨r,2,none⟩) h3.rl;rw[c1] at y0;rw[c2] at y1;rw[f2] at y2;have y3:=(a1p d2).cell (p:=⟨g,o+p*3+1,none⟩) (cell_lt t1);rw[t1] at y3))
  have d1:=g1.at (q:=p+1) (by omega) (z:=(p:Int)+1) rfl;have d8:=h0.setR (j:=2) (.int .i64 ((p:Int)+1)) (by decide);go_wp2_with fail;refine(a1F d1 (by have:=a0r (V:=V) (p:=(p+1)) (x:=x) (m:=m);omega) 2 rd ⟨#[]⟩ (V.pos p)).mono ?_;rintro e E3 ⟨E4,rfl,i0,u9,n2⟩;have i1:=d8.trans u9;rw[<- HX.out] at n2;have HR:=hid (a5.lastS e3 n2);go_wp2;go_ret;exact⟨_,_,_,_,rfl,i0,i1,HR.out.weak (by omega) (by omega)⟩
 | false=>
 have l3:=l2.ifF (b7I t3) (fun _=>rfl);have u5:=l3.le;clear t3;go_wp2_with fail;refine(a4h hV h3 5 (by omega)).mono ?_;rintro e w4 ⟨c4,rfl,t4,b4⟩;have h4:=h3.below b4;have s4:=s3.below b4
 cases c4 with
 | true=>
  obtain⟨o4,e4,g4,k4⟩:=b3D t4;have n3:=b1L k4 (by omega);have l4:=l3.ifT g4 (fun _=>rfl);have v0:=l4.le;clear t4;have a5:=l4.step e4 n3 (fun _ _=>rfl);have m1:=a5.le;obtain⟨_,_,_,_,_,_,b2,_,_,E5,_,_,_⟩:=h4.cells
  have u6:(p:Int)<=2000:=by omega
  have d1:=h4.at (q:=p+1) (by omega) (z:=(p:Int)+1) rfl;have d8:=s4.setR (j:=2) (.int .i64 ((p:Int)+1)) (by decide);obtain⟨ta,tc,oa,oc,c0,c1,c2,c3,c4,f2,f3,f4,ht⟩:=d1.cells;obtain⟨g,o,rfl,htk⟩:=ht (by omega);obtain⟨t0,t1,t2⟩:=htk p n3
  have u7:(p:Int)<V.ts.length:=by omega
  have u8:(0:Int)<=(p:Int):=by omega
  clear htk ht t0 t2 c0 c3 c4 f2 f3 f4;clear k4 g4
  have E6:IntKind.i64.wrap ((p:Int)+1-1)=p:=by simp only[IntKind.wrap_i64,wrap64];omega
  have E7:IntKind.i64.wrap ((p:Int))=p:=by simp only[IntKind.wrap_i64,wrap64];omega
  have HS:=hid (⟨c1,c2,t1⟩:_/\_/\_);go_wp2;refine a0a (S:=(fun W=>W.cell? ⟨r,1,none⟩=some (.slice (some ⟨g,o,none⟩) V.ts.length tc)/\W.cell? ⟨r,2,none⟩=some (.int .i64 ((p:Int)+1))/\W.cell? ⟨g,o+p*3+1,none⟩=some (.string (V.tx p)))) (late:=[15,16]) (by kernel_rfl) (by first | exact HS.out | go_keep) (fun hHeld=>?_);refine tT 0 rfl hHeld ?_
  try simp only[Act.put,q1,q2,q3]
  refine tT 1 rfl hHeld ?_
  try simp only[Act.put,q1,q2,q3]
  refine tT 2 rfl hHeld ?_
  try simp only[Act.put,q1,q2,q3]
  refine tT 3 rfl hHeld ?_
  try simp only[Act.put,q1,q2,q3]
  refine tL 4 rfl hHeld ?_
  try simp only[Act.put,q1,q2,q3]
  refine tT 5 rfl hHeld ?_
  try simp only[Act.put,q1,q2,q3]
  refine tT 6 rfl hHeld ?_
  try simp only[Act.put,q1,q2,q3]
  refine tT 7 rfl hHeld ?_
  try simp only[Act.put,q1,q2,q3]
  refine tL 8 rfl hHeld ?_
  try simp only[Act.put,q1,q2,q3]
  refine tT 9 rfl hHeld ?_
  try simp only[Act.put,q1,q2,q3]
  refine tT 10 rfl hHeld ?_
  try simp only[Act.put,q1,q2,q3]
  refine tT 11 rfl hHeld ?_
  try simp only[Act.put,q1,q2,q3]
  refine tL 12 rfl hHeld ?_
  try simp only[Act.put,q1,q2,q3]
  refine tT 13 rfl hHeld ?_
  try simp only[Act.put,q1,q2,q3]
  refine tT 14 rfl hHeld ?_
  try simp only[Act.put,q1,q2,q3]
  have i0:=d1.below ((Below.refl _ _).drew);have i1:=d8.drew;refine rL 15 rfl fun K hK=>?_;go_simp;refine(a1F i0 (by have:=a0r (V:=V) (p:=(p+1)) (x:=x) (m:=m);omega) 3 0 (V.tx p) (V.pos p)).mono ?_;rintro e E8 ⟨E9,rfl,v1,v2,v3⟩;have v4:=i1.trans v2;refine hK _ _ ?_;clear hK K
  try simp only[Act.put,q1,q2,q3]
  refine rL 16 rfl fun K hK=>?_;go_simp;refine hK _ _ ?_;clear hK K
  try simp only[Act.put,q1,q2,q3]
  refine a0h (by kernel_rfl) ?_ _;have HR:=hid (a5.lastS e4 v3);go_wp2;go_ret;exact⟨_,_,_,_,rfl,v1,v4,HR.out.weak (by omega) (by omega)⟩
 | false=>
 have l4:=l3.ifF (b7I t4) (fun _=>rfl);have v0:=l4.le;clear t4;go_wp2_with fail;refine(a0b hV h4 a1h).mono ?_;rintro e w5 ⟨c5,rfl,t5,h5,z5⟩
 cases c5 with
 | true=>
  replace h5:SM V src r B _ w5 (p+1) x m:=h5;have s5:=s4.trans z5;obtain⟨o5,e5,g5,F0⟩:=t5.yes;have l5:=l4.tkT t5;have v5:=l5.le;have C3:=h5.le;go_wp2_with fail;refine(a1F h5 (by have:=a0r (V:=V) (p:=(p+1)) (x:=x) (m:=m);omega) (0) (0) (⟨#[]⟩) (V.pos p)).mono ?_;rintro e w6 ⟨y6,rfl,h6,z6,r6⟩;have s6:=s5.trans z6;have HR:=hid (l5.lastS e5 r6);go_wp2;go_ret;exact⟨_,_,_,_,rfl,h6,s6,HR.out.weak (by omega) (by omega)⟩
 | false=>
 replace h5:SM V src r B _ w5 p x m:=h5;have s5:=s4.trans z5;have l5:=l4.tkF t5;have v5:=l5.le;go_wp2_with fail;refine(a0b hV h5 k_true).mono ?_;rintro e w6 ⟨c6,rfl,t6,h6,z6⟩
 cases c6 with
 | true=>
  replace h6:SM V src r B _ w6 (p+1) x m:=h6;have s6:=s5.trans z6;obtain⟨o6,e6,g6,F1⟩:=t6.yes;have l6:=l5.tkT t6;have v6:=l6.le;have C4:=h6.le;go_wp2_with fail;refine(a1F h6 (by have:=a0r (V:=V) (p:=(p+1)) (x:=x) (m:=m);omega) (4) (1) (⟨#[]⟩) (V.pos p)).mono ?_;rintro e w7 ⟨y7,rfl,h7,z7,r7⟩;have s7:=s6.trans z7;have HR:=hid (l6.lastS e6 r7);go_wp2;go_ret;exact⟨_,_,_,_,rfl,h7,s7,HR.out.weak (by omega) (by omega)⟩
 | false=>
 replace h6:SM V src r B _ w6 p x m:=h6;have s6:=s5.trans z6;have l6:=l5.tkF t6;have v6:=l6.le;go_wp2_with fail;refine(a0b hV h6 a2A).mono ?_;rintro e w7 ⟨c7,rfl,t7,h7,z7⟩
 cases c7 with
 | true=>
  replace h7:SM V src r B _ w7 (p+1) x m:=h7;have s7:=s6.trans z7;obtain⟨o7,e7,g7,F2⟩:=t7.yes;have l7:=l6.tkT t7;have v7:=l7.le;have C5:=h7.le;go_wp2_with fail;refine(a1F h7 (by have:=a0r (V:=V) (p:=(p+1)) (x:=x) (m:=m);omega) (4) (0) (⟨#[]⟩) (V.pos p)).mono ?_;rintro e w8 ⟨y8,rfl,h8,z8,r8⟩;have s8:=s7.trans z8;have HR:=hid (l7.lastS e7 r8);go_wp2;go_ret;exact⟨_,_,_,_,rfl,h8,s8,HR.out.weak (by omega) (by omega)⟩
 | false=>
 replace h7:SM V src r B _ w7 p x m:=h7;have s7:=s6.trans z7;have l7:=l6.tkF t7;have v7:=l7.le;go_wp2_with fail;refine(a0b hV h7 a3p).mono ?_;rintro e w8 ⟨c8,rfl,t8,h8,z8⟩
 cases c8 with
 | true=>
  replace h8:SM V src r B _ w8 (p+1) x m:=h8;have s8:=s7.trans z8;obtain⟨o8,e8,g8,v8⟩:=t8.yes;have l8:=l7.tkT t8;have v9:=l8.le;have C6:=h8.le;have hps:=a0j (m:=m) e8 v8;go_wp2_with fail;refine(b7k hV hE h8 (V.pos p) (by omega)).mono ?_;rintro e w9 ⟨a9,q9,y9,m9,rfl,h9,z9,r9⟩;have s9:=s8.trans z9;have HR:=hid (l8.lastS e8 r9);go_wp2;go_ret;exact⟨_,_,_,_,rfl,h9,s9,HR.out.weak (by omega) (by omega)⟩
 | false=>
 replace h8:SM V src r B _ w8 p x m:=h8;have s8:=s7.trans z8;have l8:=l7.tkF t8;have v9:=l8.le;go_wp2_with fail;refine(a0b hV h8 k_exists).mono ?_;rintro e w9 ⟨c9,rfl,t9,h9,z9⟩
 cases c9 with
 | true=>
  replace h9:SM V src r B _ w9 (p+1) x m:=h9;have s9:=s8.trans z9;obtain⟨o9,e9,g9,w0⟩:=t9.yes;have l9:=l8.tkT t9;have x0:=l9.le;have C7:=h9.le;have d3:a0w V src 87 10 (n-1) E:=hA (by have:=hn o9 e9;omega);have i2:a0w V src 24 240 (n-1) Q:=hQ (by have:=hn o9 e9;omega)
  have p8:∀ o,x=some o->V.ts.length-(p+1)<n-1:=fun o e=>by have:=hn o e;omega
  have i3:=l9.congr (fun o _=>a5i V Q (fun k q o=>lay { op:=16,kids:=[k],pos:=V.pos p } q o) (p+1) o);have C8:=i3.le;have hps:=a0j (m:=m) e9 w0;have d9:=i3.rest;have p9:=d9.le;go_wp2_with fail;refine(a0i hV h9 g_lp).mono ?_;rintro e x1 ⟨x2,x3,rfl,i4,i5,b5⟩;have i6:=s9.trans i5;have q0:=b5.le;have a6:=d9.bind b5;have m2:=a6.le;have d6:=b5.fuel p8;go_wp2_with fail;refine(i2 i4 d6 (by omega)).mono ?_;rintro e i7 ⟨f6,i8,i9,n4,rfl,b6,e0,a0⟩;have e1:=i6.trans e0;have m3:=a0.le;have a7:=a6.bind a0;have m4:=a7.le;have d7:=a0.fuel d6;go_wp2_with fail;refine(a0i hV b6 g_rp).mono ?_;rintro e j0 ⟨n5,n6,rfl,b7,b8,a1⟩;have f0:=e1.trans b8;have q4:=a1.le;have f1:=a7.bind a1;have q5:=f1.le;have q6:=a1.fuel d7;go_wp2_with fail
  refine(a0g (b7.alloc _) (by have:=a0r (V:=V) (p:=n5) (x:=n6) (m:=n4);omega) { op:=16,kids:=[f6],pos:=V.pos p } _ (KS.new j0 [f6]) (fun _=>b7.outN (Nat.le_refl _))).mono ?_;rintro e F3 ⟨rfl,x4,j1,x5⟩;replace j1:=(b7.sp.alloc _).trans j1;have x6:=f0.trans j1;have HR:=hid (f1.last x5);replace HR:=hid (i3.lastS e9 HR.out);go_wp2;go_ret;exact⟨_,_,_,_,rfl,x4,x6,HR.out.weak (by omega) (by omega)⟩
 | false=>
 replace h9:SM V src r B _ w9 p x m:=h9;have s9:=s8.trans z9;have l9:=l8.tkF t9;have x0:=l9.le;go_wp2_with fail;refine(a0b hV h9 a4d).mono ?_;rintro e n7 ⟨x7,rfl,j2,b9,n8⟩
 cases x7 with
 | true=>
  replace b9:SM V src r B _ n7 (p+1) x m:=b9;have f7:=s9.trans n8;obtain⟨x8,j3,F4,q7⟩:=j2.yes;have d4:=l9.tkT j2;have q8:=d4.le;have C0:=b9.le;have d3:a0w V src 87 10 (n-1) E:=hA (by have:=hn x8 j3;omega)
  have m8:∀ o,x=some o->V.ts.length-(p+1)<n-1:=fun o e=>by have:=hn o e;omega
  have hps:=a0j (m:=m) j3 q7;go_wp2_with fail;refine(b3A hV d3 (V.pos p) b9 m8 (by omega)).mono ?_;rintro e j4 ⟨F5,F6,F7,F8,rfl,a2,f8,x9⟩;have d5:=f7.trans f8;have HR:=hid (d4.lastS j3 x9);go_wp2;go_ret;exact⟨_,_,_,_,rfl,a2,d5,HR.out.weak (by omega) (by omega)⟩
 | false=>
 replace b9:SM V src r B _ n7 p x m:=b9;have f7:=s9.trans n8;have d4:=l9.tkF j2;have q8:=d4.le;go_wp2_with fail;refine(a0b hV b9 a4e).mono ?_;rintro e j4 ⟨y4,rfl,j5,a2,f8⟩
 cases y4 with
 | true=>
  replace a2:SM V src r B _ j4 (p+1) x m:=a2;have d5:=f7.trans f8;obtain⟨y5,j6,F9,r0⟩:=j5.yes;have d0:=d4.tkT j5;have r1:=d0.le;have C1:=a2.le;have d3:a0w V src 87 10 (n-1) E:=hA (by have:=hn y5 j6;omega)
  have n0:∀ o,x=some o->V.ts.length-(p+1)<n-1:=fun o e=>by have:=hn o e;omega
  have hps:=a0j (m:=m) j6 r0;have a3:=d0.rest;have m5:=a3.le;go_wp2_with fail;refine(a0i hV a2 g_lp).mono ?_;rintro e n9 ⟨z0,z1,rfl,j7,j8,f5⟩;have j9:=d5.trans j8;have C9:=f5.le;have a8:=a3.bind f5;have m6:=a8.le;have m7:=f5.fuel n0;go_wp2_with fail;refine(d3 j7 m7 (by omega)).mono ?_;rintro e G0 ⟨o0,G1,G2,z2,rfl,z3,z4,k0⟩;have A0:=j9.trans z4;have D0:=k0.le;have o1:=a8.bind k0;have D1:=o1.le;have r2:=k0.fuel m7;go_wp2_with fail;refine(a0i hV z3 k_as).mono ?_;rintro e G3 ⟨G4,G5,rfl,A1,A2,k1⟩;have A3:=A0.trans A2;have D2:=k1.le;have p0:=o1.bind k1;have D3:=p0.le;have r3:=k1.fuel r2;go_wp2_with fail;refine(a4i hV A1).mono ?_;rintro e G6 ⟨A4,G7,G8,rfl,A5,A6,k5⟩;have A7:=A3.trans A6;have D4:=k5.le
  have p1:=p0.bind k5;have D5:=p1.le;have r4:=k5.fuel r3;go_wp2_with fail;refine(a0i hV A5 g_rp).mono ?_;rintro e A8 ⟨A9,B0,rfl,k6,B1,k7⟩;have B2:=A7.trans B1;have D6:=k7.le;have p2:=p1.bind k7;have D7:=p2.le;have D8:=k7.fuel r4;go_wp2_with fail;refine(a0g (k6.alloc _) (by have:=a0r (V:=V) (p:=A9) (x:=B0) (m:=z2);omega) { op:=13,n:=A4,kids:=[o0],pos:=V.pos p } _ (KS.new A8 [o0]) (fun _=>k6.outN (Nat.le_refl _))).mono ?_;rintro e G9 ⟨rfl,B3,k8,B4⟩;replace k8:=(k6.sp.alloc _).trans k8;have B5:=B2.trans k8;have HR:=hid (p2.last B4);replace HR:=hid (d0.lastS j6 HR.out);go_wp2;go_ret;exact⟨_,_,_,_,rfl,B3,B5,HR.out.weak (by omega) (by omega)⟩
 | false=>
 replace a2:SM V src r B _ j4 p x m:=a2;have d5:=f7.trans f8;have d0:=d4.tkF j5;have r1:=d0.le;go_wp2_with fail;refine(a0b hV a2 g_lp).mono ?_;rintro e p3 ⟨B6,rfl,k9,a4,p4⟩
 cases B6 with
 | false=>
  replace a4:SM V src r B _ p3 p x m:=a4;have f9:=d5.trans p4;have a3:=d0.tkF k9;have m5:=a3.le;go_wp2_with fail;refine(b3B hV hE hA (V.pos p) a4 hn (by omega)).mono ?_;rintro e n9 ⟨H0,z0,z1,H1,rfl,j7,j8,f5⟩;have j9:=f9.trans j8;have HR:=hid (a3.last f5);go_wp2;go_ret;exact⟨_,_,_,_,rfl,j7,j9,HR.out.weak (by omega) (by omega)⟩
 | true=>
 replace a4:SM V src r B _ p3 (p+1) x m:=a4;have f9:=d5.trans p4;obtain⟨p5,g0,p6,r5⟩:=k9.yes;have a3:=d0.tkT k9;have m5:=a3.le;have C2:=a4.le;have d3:a0w V src 87 10 (n-1) E:=hA (by have:=hn p5 g0;omega);have i2:a0w V src 24 240 (n-1) Q:=hQ (by have:=hn p5 g0;omega)
 have b0:∀ o,x=some o->V.ts.length-(p+1)<n-1:=fun o e=>by have:=hn o e;omega
 have hps:=a0j (m:=m) g0 r5;go_wp2_with fail;refine(a0G hV a4 a0l).mono ?_;rintro e n9 ⟨B7,rfl,l1,m0⟩;replace m0:=m0.symm;subst m0
 cases B7 with
 | false=>
  have a8:=a3.tkF l1;have m6:=a8.le;have a6:=a8.congr (G':=fun o=>(E (p+1) o).bind fun k q o=>(must V g_rp q o).bind fun _ q o=>.ok k q o) (fun o _=>by unfold inB;rw[show must V g_lp p o=.ok () (p+1) o by simp[must,p6]];rfl);have m2:=a6.le;go_wp2_with fail;refine(d3 a4 b0 (by omega)).mono ?_;rintro e i7 ⟨f6,i8,i9,n4,rfl,b6,e0,a0⟩;have e1:=f9.trans e0;have m3:=a0.le;have a7:=a6.pay g0 a0 (fun _=>rfl);have m4:=a7.le;have d7:=a0.fuel b0;go_wp2_with fail;refine(a0i hV b6 g_rp).mono ?_;rintro e j0 ⟨n5,n6,rfl,b7,b8,a1⟩;have f0:=e1.trans b8;have q4:=a1.le;have f1:=a7.bind a1;have q5:=f1.le;have q6:=a1.fuel d7;have HR:=hid (f1.done (a:=f6) (fun _ _=>rfl));go_wp2;go_ret;exact⟨_,_,_,_,rfl,b7,f0,HR.out.weak (by omega) (by omega)⟩
 | true=>
 obtain⟨H2,B8,H3,D9⟩:=l1.yes;have a8:=a3.seT l1 (fun _=>rfl);have m6:=a8.le;have d9:=a8.congr (G':=fun o=>(Q (p+1) o).bind fun k q o=>(must V g_rp q o).bind fun _ q o=>lay { op:=17,kids:=[k],pos:=V.pos p } q o) (fun o _=>by rw[a5i,show must V g_lp p o=.ok () (p+1) o by simp[must,p6]];rfl);have p9:=d9.le;go_wp2_with fail;refine(i2 a4 b0 (by omega)).mono ?_;rintro e x1 ⟨p7,x2,x3,B9,rfl,i4,i5,b5⟩;have i6:=f9.trans i5;have q0:=b5.le;have a6:=d9.pay B8 b5 (fun _=>rfl);have m2:=a6.le;have d6:=b5.fuel b0;go_wp2_with fail;refine(a0i hV i4 g_rp).mono ?_;rintro e i7 ⟨i8,i9,rfl,b6,e0,a0⟩;have e1:=i6.trans e0;have m3:=a0.le;have a7:=a6.bind a0;have m4:=a7.le;have d7:=a0.fuel d6;go_wp2_with fail
 refine(a0g (b6.alloc _) (by have:=a0r (V:=V) (p:=i8) (x:=i9) (m:=B9);omega) { op:=17,kids:=[p7],pos:=V.pos p } _ (KS.new i7 [p7]) (fun _=>b6.outN (Nat.le_refl _))).mono ?_;rintro e j0 ⟨rfl,b7,b8,a1⟩;replace b8:=(b6.sp.alloc _).trans b8;have f0:=e1.trans b8;have HR:=hid (a7.last a1);go_wp2;go_ret;exact⟨_,_,_,_,rfl,b7,f0,HR.out.weak (by omega) (by omega)⟩
theorem b1Y {V:Env} {C E Q:M Int} {l:Int} {q i:Nat} (o:List Nd) (h:pick V cmpWords q=some i):a5R V C E Q l q o=(C (q+1) o).bind fun m q2 o=>lay { op:=5,n:=(i+7:Int),kids:=[l,m],pos:=V.pos q } q2 o:=by unfold a5R;rw[h]
theorem b1Z {V:Env} {C E Q:M Int} {l:Int} {q:Nat} (o:List Nd) (h:pick V cmpWords q=none):a5R V C E Q l q o=a8p V C E Q l q o:=by unfold a5R;rw[h]
theorem b5z {V:Env} {src:ByteArray} {n:Nat} {C E Q:M Int} (hV:VO V src) (hC:∀ {r B:Nat} {D:Nat->Prop} {w:World} {p:Nat} {x:Option (List Nd)} {m:Nat},SM V src r B D w p x m->(∀ o,x=some o->V.ts.length-p<n)->pot V p x m+10<=4000000->Calls prog 198 #[.pointer (some ⟨r,0,none⟩),.int .i64 0] w fun e w'=>a3h V src r B D 10 (C p) w p x m e w') (hA:0<n->a0w V src 87 10 (n-1) E) (hQ:0<n->a0w V src 24 240 (n-1) Q):a0w V src 174 10 n (a4z V C E Q):=fun {r B D w p x m} h hn hp=>by
 have hT:=hV.n;have hle:=h.le;have l0:=Lp.refl V ((a4z V C E Q) p) p x m;have r0:=l0.le;go_enter func174,ntmps174;go_wp2_with fail;refine(hC h (l0.fuel hn) (by omega)).mono ?_;rintro e w1 ⟨a1,q1,y1,m1,rfl,h1,z1,r1⟩;have s1:=h.sp.trans z1;have r2:=r1.le;have l1:=l0.bind r1;have r3:=l1.le;go_wp2_with fail;refine(a0C hV h1).mono ?_;rintro e w2 ⟨rfl,b2⟩;have h2:=h1.below b2;have s2:=s1.below b2;have l5:=WR.new w2 cmpWords;have l6:=h2.alloc (.cells (cmpWords.map Value.string).toArray 9);have l7:=s2.alloc (.cells (cmpWords.map Value.string).toArray 9);have P0:=hid (Pn.zero V q1 y1 cmpWords);go_wp2_with fail;go_loopw [22] (fun iv wr=>∃ i:Nat,i<=6/\iv=.int .i64 i/\SM V src r B D wr q1 y1 m1/\Sp 3 r w wr/\WR wr w2.heap.size cmpWords/\Hid (Pn V q1 y1 cmpWords i)) (fun iv _=>6-(intOf iv).toNat)
 case atStart=>exact⟨0,by omega,rfl,l6,l7,l5,P0⟩
 case round=>
 obtain⟨i,hi,rfl,f5,e4,i9,P1⟩:=hrel;by_cases hlt:i<6
 .obtain⟨ws,hws⟩:∃ s,cmpWords[i]?=some s:=⟨cmpWords[i]'hlt,List.getElem?_eq_getElem hlt⟩;have c9:=i9.2 i ws hws
  have l8:(i:Int)<6:=by omega
  go_wp2_with fail;refine(a0b hV f5 ws).mono ?_;rintro e j0 ⟨l9,rfl,f6,b7,f7⟩
  cases l9 with
  | false=>
   replace b7:SM V src r B _ j0 q1 y1 m1:=b7;have f8:=e4.trans f7;have m0:=i9.sp f5 f7;have P2:=hid (P1.out.next hws f6);go_wp2;go_roundw
   case rel=>exact⟨i+1,by omega,by go_num,b7,f8,m0,P2⟩
   case measure=>simp[intOf];omega
  | true=>
  replace b7:SM V src r B _ j0 (q1+1) y1 m1:=b7;have f8:=e4.trans f7;obtain⟨r4,f9,r5,i2⟩:=f6.yes;have p4:=b7.le;have pq:=P1.out.hit hws f6;have b8:=l1.step (A:=fun o=>(C (q1+1) o).bind fun m q2 o=>lay { op:=5,n:=(i+7:Int),kids:=[a1,m],pos:=(V.pos q1) } q2 o) f9 i2 (fun o _=>by obtain⟨_,_,pe,_⟩:=pq.some;exact b1Y o pe);have k4:=b8.le;clear pq;have hps:=a0j (m:=m1) f9 i2;have j1:=b8.rest;have p8:=j1.le;have hnz:=b8.fuel hn;go_wp2_with fail;refine(hC b7 hnz (by omega)).mono ?_;rintro e m2 ⟨e5,m3,m4,m5,rfl,g0,m6,g1⟩;have m7:=f8.trans m6;have p9:=g1.le;have j2:=j1.bind g1;have q0:=j2.le;have q3:=g1.fuel hnz;have m8:=hid ((by omega):(7:Int)+i=i+7);go_wp2_with fail
  refine(a0g (g0.alloc _) (by have:=a0r (V:=V) (p:=m3) (x:=m4) (m:=m5);omega) { op:=5,n:=(7+i:Int),kids:=[a1,e5],pos:=(V.pos q1) } _ (KS.new m2 [a1,e5]) (fun _=>g0.outN (Nat.le_refl _))).mono ?_;rintro e r6 ⟨rfl,j3,g2,j4⟩;replace g2:=(g0.sp.alloc _).trans g2;have m9:=m7.trans g2
  have hnd:Hid (({ op:=5,n:=(7+i:Int),kids:=[a1,e5],pos:=(V.pos q1) }:Nd)={ op:=5,n:=(i+7:Int),kids:=[a1,e5],pos:=(V.pos q1) }):=by unfold Hid;rw[m8.out]
  rw[hnd.out] at j4 j3;have HR:=hid (j2.last j4);replace HR:=hid (b8.lastS f9 HR.out);go_wp2;go_ret;exact⟨_,_,_,_,rfl,j3,m9,HR.out.weak (by omega) (by omega)⟩
 have l8:¬ (i:Int)<6:=by omega
 have pq:=P1.out.fin (by simp[cmpWords];omega);have g3:Lp V _ _ (a4z V C E Q p) (a8p V C E Q a1 q1) p x m q1 y1 m1:=l1.congr (fun o e=>b1Z o (pq.2 o e).symm);have q4:=g3.le;clear pq;go_wp2_with fail;refine(a0b hV f5 k_is).mono ?_;rintro e j5 ⟨n0,rfl,g4,b9,j6⟩
 cases n0 with
 | true=>
  replace b9:SM V src r B _ j5 (q1+1) y1 m1:=b9;have g5:=e4.trans j6;obtain⟨r7,g6,r8,k5⟩:=g4.yes;have b0:=g3.tkT g4;have k6:=b0.le;have p5:=b9.le;have hps:=a0j (m:=m1) g6 k5;have c5:=b0.rest;have k7:=c5.le;have hnz:=b0.fuel hn;go_wp2_with fail;refine(a0b hV b9 a1t).mono ?_;rintro e r9 ⟨b1,rfl,n1,n2,n3⟩;have j7:=g5.trans n3;have g7:=c5.opt (fun b=>fun o=>if sees V ((q1+1)+stp b) a1h then lay { op:=6,n:=bit b,kids:=[a1],pos:=(V.pos q1) } ((q1+1)+stp b+1) o else(must V a0m ((q1+1)+stp b) o).bind fun _ q o=>(must V a2z q o).bind fun _ q o=>(C q o).bind fun m q o=>lay { op:=7,n:=bit b,kids:=[a1,m],pos:=(V.pos q1) } q o) n1 (fun _=>rfl);have q5:=g7.le
  have i3:∀ o,y1=some o->V.ts.length-((q1+1)+stp b1)<_:=fun o e=>Nat.lt_of_le_of_lt (by omega) (hnz o e);go_wp2_with fail;refine(a1H b1 _).mono ?_;rintro e s0 ⟨rfl,g8⟩;replace g8:=g8.symm;subst g8;go_wp2_with fail;refine(a0b hV n2 a1h).mono ?_;rintro e c6 ⟨g9,rfl,c7,a0,c8⟩
  cases g9 with
  | true=>
   replace a0:SM V src r B _ c6 (((q1+1)+stp b1)+1) y1 m1:=a0;have a7:=j7.trans c8;obtain⟨n4,e6,n5,i4⟩:=c7.yes;have a2:=g7.tkT c7;have e2:=a2.le;have i8:=a0.le;have q6:∀ o,y1=some o->V.ts.length-(((q1+1)+stp b1)+1)<_:=fun o e=>Nat.lt_of_le_of_lt (by omega) (i3 o e);go_wp2_with fail;refine(a0g (a0.alloc _) (by have:=a0r (V:=V) (p:=(((q1+1)+stp b1)+1)) (x:=y1) (m:=m1);omega) { op:=6,n:=bit b1,kids:=[a1],pos:=(V.pos q1) } _ (KS.new c6 [a1]) (fun _=>a0.outN (Nat.le_refl _))).mono ?_;rintro e e7 ⟨rfl,a4,b3,d7⟩;replace b3:=(a0.sp.alloc _).trans b3;have b4:=a7.trans b3;have HR:=hid (a2.lastS e6 d7);replace HR:=hid (b0.lastS g6 HR.out);go_wp2;go_ret;exact⟨_,_,_,_,rfl,a4,b4,HR.out.weak (by omega) (by omega)⟩
  | false=>
  replace a0:SM V src r B _ c6 ((q1+1)+stp b1) y1 m1:=a0;have a7:=j7.trans c8;have a2:=g7.tkF c7;have e2:=a2.le;go_wp2_with fail;refine(a0i hV a0 a0m).mono ?_;rintro e e7 ⟨s3,s4,rfl,a4,b3,d7⟩;have b4:=a7.trans b3;have q7:=d7.le;have a3:=a2.bind d7;have e3:=a3.le;have k8:=d7.fuel i3;go_wp2_with fail;refine(a0i hV a4 a2z).mono ?_;rintro e n6 ⟨n7,n8,rfl,h0,h3,d0⟩;have h4:=b4.trans h3;have k9:=d0.le;have b5:=a3.bind d0;have i5:=b5.le;have d5:=d0.fuel k8;go_wp2_with fail;refine(hC h0 d5 (by omega)).mono ?_;rintro e e8 ⟨d8,e9,f0,h5,rfl,a8,d9,a6⟩;have e0:=h4.trans d9;have i6:=a6.le;have b6:=b5.bind a6;have i7:=b6.le;have d6:=a6.fuel d5;go_wp2_with fail
  refine(a0g (a8.alloc _) (by have:=a0r (V:=V) (p:=e9) (x:=f0) (m:=h5);omega) { op:=7,n:=bit b1,kids:=[a1,d8],pos:=(V.pos q1) } _ (KS.new e8 [a1,d8]) (fun _=>a8.outN (Nat.le_refl _))).mono ?_;rintro e h6 ⟨rfl,d1,a9,d2⟩;replace a9:=(a8.sp.alloc _).trans a9;have e1:=e0.trans a9;have HR:=hid (b6.last d2);replace HR:=hid (b0.lastS g6 HR.out);go_wp2;go_ret;exact⟨_,_,_,_,rfl,d1,e1,HR.out.weak (by omega) (by omega)⟩
 | false=>
 replace b9:SM V src r B _ j5 q1 y1 m1:=b9;have g5:=e4.trans j6;have b0:=g3.tkF g4;have k6:=b0.le;go_wp2_with fail;refine(a0b hV b9 a1t).mono ?_;rintro e s5 ⟨a5,rfl,n9,o0,o1⟩;have j8:=g5.trans o1;have c5:=b0.opt (fun b=>a8o V C E Q a1 (V.pos q1) b (q1+stp b)) n9 (fun _=>rfl);have k7:=c5.le;go_wp2_with fail;refine(a1H a5 _).mono ?_;rintro e s6 ⟨rfl,h7⟩;replace h7:=h7.symm;subst h7;go_wp2_with fail;refine(a0b hV o0 k_in).mono ?_;rintro e j9 ⟨o2,rfl,h8,d3,k0⟩
 cases o2 with
 | true=>
  replace d3:SM V src r B _ j9 ((q1+stp a5)+1) y1 m1:=d3;have f1:=j8.trans k0;obtain⟨o3,h9,s7,l2⟩:=h8.yes;have d4:=c5.tkT h8;have l3:=d4.le;have p6:=d3.le;have hps:=a0j (m:=m1) h9 l2;have hnq:=d4.fuel hn o3 h9;have o4:a0w V src 87 10 (n-1) E:=hA (by omega);have o5:a0w V src 24 240 (n-1) Q:=hQ (by omega);have hnx:=c5.fuel hn
  have hnz:∀ o,y1=some o->V.ts.length-((q1+stp a5)+1)<n-1:=fun o e=>by have:=hnx o e;omega
  go_wp2_with fail;refine(b8Y hV o4 o5 a1 (bit a5) (V.pos q1) d3 hnz (by omega)).mono ?_;rintro e c6 ⟨s8,s9,t0,t1,rfl,a0,c8,o6⟩;have a7:=f1.trans c8;have HR:=hid (d4.lastS h9 o6);go_wp2;go_ret;exact⟨_,_,_,_,rfl,a0,a7,HR.out.weak (by omega) (by omega)⟩
 | false=>
 replace d3:SM V src r B _ j9 (q1+stp a5) y1 m1:=d3;have f1:=j8.trans k0;have d4:=c5.tkF h8;have l3:=d4.le;go_wp2_with fail;refine(a0b hV d3 a5m).mono ?_;rintro e c6 ⟨g9,rfl,c7,a0,c8⟩
 cases g9 with
 | true=>
  replace a0:SM V src r B _ c6 ((q1+stp a5)+1) y1 m1:=a0;have a7:=f1.trans c8;obtain⟨n4,e6,n5,i4⟩:=c7.yes;have a2:=d4.tkT c7;have e2:=a2.le;have i8:=a0.le;have hps:=a0j (m:=m1) e6 i4;have a3:=a2.rest;have e3:=a3.le;have hnz:=a2.fuel hn;go_wp2_with fail;refine(hC a0 hnz (by omega)).mono ?_;rintro e n6 ⟨k1,n7,n8,t2,rfl,h0,h3,d0⟩;have h4:=a7.trans h3;have k9:=d0.le;have b5:=a3.bind d0;have i5:=b5.le;have d5:=d0.fuel hnz;go_wp2_with fail;refine(a0i hV h0 k_and).mono ?_;rintro e e8 ⟨e9,f0,rfl,a8,d9,a6⟩;have e0:=h4.trans d9;have i6:=a6.le;have b6:=b5.bind a6;have i7:=b6.le;have d6:=a6.fuel d5;go_wp2_with fail;refine(hC a8 d6 (by omega)).mono ?_;rintro e h6 ⟨k2,o7,o8,o9,rfl,d1,a9,d2⟩;have e1:=e0.trans a9
  have q8:=d2.le;have b8:=b6.bind d2;have k4:=b8.le;have q9:=d2.fuel d6;go_wp2_with fail;refine(a0g (d1.alloc _) (by have:=a0r (V:=V) (p:=o7) (x:=o8) (m:=o9);omega) { op:=10,n:=bit a5,kids:=[a1,k1,k2],pos:=(V.pos q1) } _ (KS.new h6 [a1,k1,k2]) (fun _=>d1.outN (Nat.le_refl _))).mono ?_;rintro e t3 ⟨rfl,p0,i0,p1⟩;replace i0:=(d1.sp.alloc _).trans i0;have p2:=e1.trans i0;have HR:=hid (b8.last p1);replace HR:=hid (a2.lastS e6 HR.out);go_wp2;go_ret;exact⟨_,_,_,_,rfl,p0,p2,HR.out.weak (by omega) (by omega)⟩
 | false=>
 replace a0:SM V src r B _ c6 (q1+stp a5) y1 m1:=a0;have a7:=f1.trans c8;have a2:=d4.tkF c7;have e2:=a2.le;go_wp2_with fail;refine(a0b hV a0 b3e).mono ?_;rintro e e7 ⟨p3,rfl,i1,a4,b3⟩
 cases p3 with
 | false=>
  replace a4:SM V src r B _ e7 (q1+stp a5) y1 m1:=a4;have b4:=a7.trans b3;have a3:=a2.tkF i1;have e3:=a3.le;obtain⟨ta,tc,oa,oc,c0,c1,c2,c3,c4,f2,f3,f4,ht⟩:=a4.cells
  cases a5 with
  | false=>
   have HR:=hid (a3.done (a:=a1) (fun o _=>rfl));go_wp2;go_ret;exact⟨_,_,_,_,rfl,a4,b4,HR.out.weak (by omega) (by omega)⟩
  | true=>
  have HR:=hid (a3.fail (a:=a1) (fun o _=>rfl) 510);go_wp2;go_ret;exact⟨_,_,_,_,rfl,a4.bad,b4.setR _ (by decide),HR.out.weak (by omega) (by omega)⟩
 | true=>
 replace a4:SM V src r B _ e7 ((q1+stp a5)+1) y1 m1:=a4;have b4:=a7.trans b3;obtain⟨t4,k3,t5,l4⟩:=i1.yes;have a3:=a2.tkT i1;have e3:=a3.le;have p7:=a4.le;have hps:=a0j (m:=m1) k3 l4;have b5:=a3.rest;have i5:=b5.le;have hnz:=a3.fuel hn;go_wp2_with fail;refine(hC a4 hnz (by omega)).mono ?_;rintro e e8 ⟨d8,e9,f0,h5,rfl,a8,d9,a6⟩;have e0:=b4.trans d9;have i6:=a6.le;have b6:=b5.bind a6;have i7:=b6.le;have d6:=a6.fuel hnz;go_wp2_with fail;refine(a0g (a8.alloc _) (by have:=a0r (V:=V) (p:=e9) (x:=f0) (m:=h5);omega) { op:=11,n:=bit a5,kids:=[a1,d8],pos:=(V.pos q1) } _ (KS.new e8 [a1,d8]) (fun _=>a8.outN (Nat.le_refl _))).mono ?_;rintro e h6 ⟨rfl,d1,a9,d2⟩;replace a9:=(a8.sp.alloc _).trans a9;have e1:=e0.trans a9
 have HR:=hid (b6.last d2);replace HR:=hid (a3.lastS k3 HR.out);go_wp2;go_ret;exact⟨_,_,_,_,rfl,d1,e1,HR.out.weak (by omega) (by omega)⟩
theorem not_any {V:Env} {src:ByteArray} {n:Nat} {A:M Int} (hV:VO V src) (hA:a0w V src 174 10 n A):∀ k,∀ {r B:Nat} {D:Nat->Prop} {w:World} {p:Nat} {x:Option (List Nd)} {m:Nat},SM V src r B D w p x m->(∀ o,x=some o->V.ts.length-p<n)->(∀ o,x=some o->V.ts.length-p<k)->pot V p x m+10<=4000000->Calls prog 153 #[.pointer (some ⟨r,0,none⟩)] w fun e w'=>a3h V src r B D 10 (pre V a1t 3 A k p) w p x m e w'
 | k,r,B,D,w,p,x,m,h,hn,hk,hp=>by
  have hT:=hV.n;have hle:=h.le
  have a0:(p:Int)<=2000:=by omega
  obtain⟨ta,tc,oa,oc,c0,c1,c2,c3,c4,f2,f3,f4,ht⟩:=h.cells;go_enter func153,ntmps153;go_wp2_with fail;refine(a0G hV h a1t).mono ?_;rintro e w1 ⟨b,rfl,hq,h1⟩;replace h1:=h1.symm;subst h1
  cases b with
  | false=>
   go_wp2_with fail;refine(hA h hn hp).mono ?_;rintro e w3 ⟨a,q,y,m3,rfl,h3,s3,r3⟩;have HR:=hid (Res.preF (s:=a1t) (op:=3) hq hk r3);go_wp2;go_ret;exact⟨_,_,_,_,rfl,h3,s3,HR.out⟩
  | true=>
  obtain⟨o,e1,e2,e3⟩:=hq.yes;have a2:=hk o e1;have a3:=hn o e1;obtain⟨k',rfl⟩:∃ k',k=k'+1:=⟨k-1,by omega⟩;go_wp2_with fail;refine(a0C hV h).mono ?_;rintro e w1 ⟨rfl,a0⟩;have h1:=h.below a0;have s1:=h.sp.below a0;clear c0 c1 c2 c3 c4 f2 f3 f4 ht;obtain⟨ta,tc,oa,oc,c0,c1,c2,c3,c4,f2,f3,f4,ht⟩:=h1.cells;have h2:=h1.at (q:=p+1) (by omega) (z:=(p:Int)+1) rfl;have s2:=s1.setR (j:=2) (.int .i64 ((p:Int)+1)) (by decide);go_wp2_with fail;refine(not_any hV hA k' h2 (fun o _=>by omega) (fun o _=>by omega) (by have:=a0j (m:=m) e1 e3;omega)).mono ?_;rintro e w3 ⟨a,q,y,m3,rfl,h3,s3,r3⟩;have a1:=s2.trans s3;have a4:=r3.le;have a5:=a0r (V:=V) (p:=q) (x:=y) (m:=m3);have hps:=a0j (m:=m) e1 e3;go_wp2_with fail
  refine(a0g (h3.alloc _) (by omega) { op:=3,kids:=[a],pos:=V.pos p } _ (KS.new w3 [a]) (fun _=>h3.outN (Nat.le_refl _))).mono ?_;rintro e w4 ⟨rfl,h4,s4,r4⟩;have HR:=hid (Res.preT hq r3 r4);go_wp2;go_ret;exact⟨_,_,_,_,rfl,h4,(a1.alloc _).trans s4,HR.out.weak (by omega) (by omega)⟩
end Go.Proofs.YtphmpkpcamgjeaaGreatDoor
