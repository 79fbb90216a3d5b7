import Derived.Test.YtphmpkpcamgjeaaGreatDoorXAA
import Derived.Test.YtphmpkpcamgjeaaGreatDoorXBH
set_option linter.unusedVariables false
set_option linter.unusedSimpArgs false
set_option maxRecDepth 100000
set_option maxHeartbeats 16000000
namespace Go.Proofs.YtphmpkpcamgjeaaGreatDoor
open Go.ChangeShapes Go.WideShapes Go.ChangeAt Go.RowKit Go.Proofs.Tryz
theorem b7J (V:Env) (E:M Int) (d ps:Int) (ks:List Int) (q:Nat) (o:List Nd):sel5 V E d ps ks q o=if sees V q a1N then(E (q+1) o).bind fun k r o=>(lay { op:=24,kids:=[k],pos:=V.pos q } r o).bind fun cc r o=>lay { op:=25,n:=d,kids:=ks++[cc],pos:=ps } r o else lay { op:=25,n:=d,kids:=ks,pos:=ps } q o:=by
 unfold sel5 a2b;split
 .rw[R.bind_bind];rfl
 rfl
theorem b5C {V:Env} {src:ByteArray} {n:Nat} {E Q:M Int} (hV:VO V src) (hE:SV V) (hA:a0w V src 87 10 n E) (hQ:0<n->a0w V src 24 240 (n-1) Q) (hI:a0w V src 128 12 n (a2D V E)) (hF:a0w V src 129 12 n (a2R V E Q)):a0w V src 91 100 n (a2I V E Q):=fun {r B D w p x m} h hn hp=>by
 have hT:=hV.n;have hle:=h.le;have l0:=Lp.refl V ((a2I V E Q) p) p x m;have X3:=l0.le;go_enter func91,ntmps91;go_wp2_with fail;refine(a0b hV h g_lp).mono ?_;rintro e w1 ⟨c1,rfl,t1,h1,z1⟩
 cases c1 with
 | true=>
  replace h1:SM V src r B _ w1 (p+1) x m:=h1;have s1:=h.sp.trans z1;obtain⟨o1,e1,g1,H4⟩:=t1.yes;have l1:=l0.tkT t1;have H5:=l1.le;have R6:=h1.le;have H6:a0w V src 24 240 (n-1) Q:=hQ (by have:=hn o1 e1;omega);have hps:=a0j (m:=m) e1 H4
  have q8:∀ o,x=some o->V.ts.length-(p+1)<n-1:=fun o e=>by have:=hn o e;omega
  have n6:=l1.congr (G':=fun o=>(Q (p+1) o).bind fun k q o=>(must V g_rp q o).bind fun _ q o=>.ok k q o) (fun o _=>by unfold inB;rw[show must V g_lp p o=.ok () (p+1) o by simp[must,g1]];rfl);have R7:=n6.le;have c6:=n6.rest;have q9:=c6.le;go_wp2_with fail;refine(H6 h1 q8 (by omega)).mono ?_;rintro e X4 ⟨H7,X5,X6,X7,rfl,H8,H9,n7⟩;have I0:=s1.trans H9;have R8:=n7.le;have y7:=c6.bind n7;have R9:=y7.le;have B3:=n7.fuel q8;go_wp2_with fail;refine(a0i hV H8 g_rp).mono ?_;rintro e y8 ⟨X8,X9,rfl,n8,i1,c9⟩;have n9:=I0.trans i1;have B4:=c9.le;have i2:=y7.bind c9;have B5:=i2.le;have B6:=c9.fuel B3;have HR:=hid (i2.done (a:=H7) (fun _ _=>rfl));replace HR:=hid (n6.lastS e1 HR.out);go_wp2;go_ret;exact⟨_,_,_,_,rfl,n8,n9,HR.out.weak (by omega) (by omega)⟩
 | false=>
 replace h1:SM V src r B _ w1 p x m:=h1;have s1:=h.sp.trans z1;have l1:=l0.tkF t1;have H5:=l1.le;go_wp2_with fail;refine(a0C hV h1).mono ?_;rintro e w2 ⟨rfl,b2⟩;have h2:=h1.below b2;have s2:=s1.below b2;have f3:=NV.new (b:=w.heap.size) h2 (by have:=s2.size;omega) { op:=25,pos:=V.pos p };have s3:=s2.alloc (.cells (ndA { op:=25,pos:=V.pos p } (.slice none 0 0)) 42);go_wp2_with fail;refine(a0i hV f3.pk.sm a0l).mono ?_;rintro e w4 ⟨q4,y4,rfl,h4,z4,r4⟩;have f4:=f3.step h4 z4;have s4:=s3.trans z4;have Y0:=r4.le;have l4:=l1.bind r4;have Y1:=l4.le;go_wp2_with fail;refine(a0b hV f4.pk.sm a0m).mono ?_;rintro e w5 ⟨c5,rfl,t5,h5,z5⟩;have f5:=f4.step h5 z5;have s5:=s4.trans z5;have l5:=l4.opt (fun b=>sel1 V E Q (bit b) (V.pos p) (q4+stp b)) t5 (fun _=>rfl);have Y2:=l5.le;go_wp2_with fail
 refine(a1H c5 _).mono ?_;rintro e x6 ⟨rfl,j6⟩;replace j6:=j6.symm;subst j6;obtain⟨d0,d1,d2,d3,d4,d5,d6,d7,d8,d9⟩:=f5.cells;have dz:=f5.fz;go_wp2_with fail;clear d0 d1 d2 d3 d4 d5 d6 d7 d8 d9 dz;have f7:=f5.set 3 (.int .i64 (bit c5)) { op:=25,n:=bit c5,pos:=V.pos p } rfl;have s7:=s5.set (j:=3) (.int .i64 (bit c5)) f5.lo;go_wp2_with fail;refine(a0C hV f7.pk.sm).mono ?_;rintro e w8 ⟨rfl,b8⟩;have f8:=f7.below b8;have s8:=s7.below b8;have w0:=f8.pk.sm.sp;have S0:=s8.size;have I1:=NV.new (b:=w8.heap.size) f8.pk.sm (by have:=s8.size;omega) { op:=20,pos:=V.pos (q4+stp c5) };have I2:=s8.alloc (.cells (ndA { op:=20,pos:=V.pos (q4+stp c5) } (.slice none 0 0)) 42);have v5:=w0.alloc (.cells (ndA { op:=20,pos:=V.pos (q4+stp c5) } (.slice none 0 0)) 42);have w3:=l5.fuel hn;have y9:=l5.rest
 have S1:=y9.le;have I3:Lp V 0 (1000*([]:List Int).length) (fun o=>(a0F V (a2D V E) (q4+stp c5) o).bind (fun gs q o=>(lay { op:=20,kids:=gs,pos:=V.pos (q4+stp c5) } q o).bind fun i q o=>sel2 V E Q (bit c5) (V.pos p) [i] q o)) (fun o=>(a1w V (a2D V E) (V.ts.length+1) [] (q4+stp c5) o).bind (fun gs q o=>(lay { op:=20,kids:=gs,pos:=V.pos (q4+stp c5) } q o).bind fun i q o=>sel2 V E Q (bit c5) (V.pos p) [i] q o)) (q4+stp c5) y4 m (q4+stp c5) y4 m:=y9;go_wp2_with fail
 go_loopw [] (fun wr=>∃ (ks:List Int) (k q:Nat) (y:Option (List Nd)) (m1:Nat) (va:Option Addr) (vn vc:Nat),NV V src r B (fun g=>D g\/((.slice none 0 0):Value).ownBlock=some g) w8.heap.size wr q y m1 w8.heap.size { op:=20,pos:=V.pos (q4+stp c5) } (.slice va vn vc) ks/\Sp 3 r w wr/\Sp 3 r w8 wr/\Hid (∀ o,y=some o->V.ts.length-q<k)/\Lp V 0 (1000*ks.length) (fun o=>(a0F V (a2D V E) (q4+stp c5) o).bind (fun gs q o=>(lay { op:=20,kids:=gs,pos:=V.pos (q4+stp c5) } q o).bind fun i q o=>sel2 V E Q (bit c5) (V.pos p) [i] q o)) (fun o=>(a1w V (a2D V E) k ks q o).bind (fun gs q o=>(lay { op:=20,kids:=gs,pos:=V.pos (q4+stp c5) } q o).bind fun i q o=>sel2 V E Q (bit c5) (V.pos p) [i] q o)) (q4+stp c5) y4 m q y m1/\Hid (ks.length<=4100)) (fun wr=>V.ts.length-atN r wr)
 case atStart=>exact⟨[],V.ts.length+1,_,_,_,_,_,_,I1,I2,v5,(fun o _=>by omega:∀ o,y4=some o->V.ts.length-(q4+stp c5)<V.ts.length+1),I3,(by simp:([]:List Int).length<=4100)⟩
 case round=>
 obtain⟨b0,I4,Y3,Y4,Y5,I5,I6,I7,l9,I8,v6,z0,I9,J0⟩:=hrel;have S2:=J0.out;have J1:=l9.pk.sm.atN;have N2:=l9.pk.sm.le;have o0:=I9.listUB z0.out;have S3:=o0.le;have r0:=o0.fuel w3;go_wp2;refine a0a (S:=(fun W=>W.cell? ⟨w8.heap.size,8,none⟩=some (.slice I5 I6 I7))) (late:=[6,7]) (by kernel_rfl) (by first | exact l9.cells.2.2.2.2.2.2.2.2.1 | go_keep) (fun hHeld=>?_);refine tT 0 rfl hHeld ?_
 try simp only[Act.put,q1,q2,q3]
 refine tL 1 rfl hHeld ?_
 try simp only[Act.put,q1,q2,q3]
 refine tT 2 rfl hHeld ?_
 try simp only[Act.put,q1,q2,q3]
 refine rE 3 rfl fun K hK=>?_;go_simp;have z2:=l9.below ((Below.refl _ _).drew);refine(hI z2.pk.sm r0 (by omega)).mono ?_;rintro e Y6 ⟨b1,a0,b3,a1,rfl,J2,o2,i3⟩;have o3:=z2.step J2 o2;have J3:=I8.drew.trans o2;have v7:=v6.drew.trans o2;have S4:=i3.le;have o4:=o0.bind i3;have S5:=o4.le;have r1:=i3.fuel r0;obtain⟨B7,B8,B9,Y7,m3,o5,z3,C0,S6⟩:=o3.kid b1 (by first | (simp;done) | (simp;omega) | omega);refine hK _ _ ⟨o3.cells.2.2.2.2.2.2.2.2.1,?_⟩;clear hK K
 try simp only[Act.put,q1,q2,q3]
 refine rE 4 rfl fun K hK=>?_;go_simp;refine hK _ _ ⟨(o3.below (below_alloc _ _)).cells.2.2.2.2.2.2.2.2.1,?_⟩;clear hK K
 try simp only[Act.put,q1,q2,q3]
 refine rE 5 rfl fun K hK=>?_;refine a0e rfl (.tmp 30) (.tmp 33) 37 rfl _ _ rfl rfl _ _ m3 ?_;refine hK _ _ ⟨C0,?_⟩;clear hK K m3
 try simp only[Act.put,q1,q2,q3]
 refine rL 6 rfl fun K hK=>?_;go_simp;refine hK _ _ ?_;clear hK K
 try simp only[Act.put,q1,q2,q3]
 refine rL 7 rfl fun K hK=>?_;go_simp;refine hK _ _ ?_;clear hK K
 try simp only[Act.put,q1,q2,q3]
 refine a0h (by kernel_rfl) ?_ _;have z6:=z3 w J3 (by first | exact Nat.le_refl _ | omega);have j3:=z3 _ v7 (by first | exact Nat.le_refl _ | omega);go_wp2_with fail;refine(a0b hV o5.pk.sm a1c).mono ?_;rintro e z7 ⟨J4,rfl,o6,e0,e7⟩
 cases J4 with
 | true=>
  replace e0:SM V src r B _ z7 (a0+1) b3 a1:=e0;have e8:=o5.step e0 e7;have o7:=z6.trans e7;have e6:=j3.trans e7;obtain⟨Y8,o8,Y9,S7⟩:=o6.yes;have i4:=o4.tkT o6;have C1:=i4.le;have N3:=e0.le;have S8:∀ o,b3=some o->V.ts.length-(a0+1)<_:=fun o e=>Nat.lt_of_le_of_lt (by omega) (r1 o e)
  have S9:(b0++[b1]).length=b0.length+1:=by simp
  have z8:=i4.norm o8 (1000*(b0++[b1]).length) (by omega);have T0:=(z8.ok o8).1;have J5:=e8.pk.sm.atN;obtain⟨_,J6,J7⟩:=i3.ok o8;have Z0:=z0.out J6 J7;have Z1:=i3.up;have C2:=hid ((fun o _=>by omega):∀ o,b3=some o->V.ts.length-(a0+1)<I4-1);have C3:=hid ((by omega):(b0++[b1]).length<=4100);go_wp2;go_roundw
  case rel=>exact⟨_,_,_,_,_,_,_,_,e8,o7,e6,C2,z8,C3⟩
  case measure=>rw[J1,J5];omega
 | false=>
 replace e0:SM V src r B _ z7 a0 b3 a1:=e0;have e8:=o5.step e0 e7;have o7:=z6.trans e7;have e6:=j3.trans e7;have i4:=o4.tkF o6;have C1:=i4.le;have z9:=f8.step e8.pk.out e6;have C4:=hid (⟨z9.cells.2.2.2.2.2.2.2.2.1,e8.cells⟩:_/\_);go_wp2
 refine a0a (S:=(fun W=>W.cell? ⟨w2.heap.size,8,none⟩=some (.slice none 0 0)/\W.cell? ⟨w8.heap.size,0,none⟩=some (.int .i64 ({ op:=20,pos:=V.pos (q4+stp c5) }:Nd).op)/\W.cell? ⟨w8.heap.size,1,none⟩=some (.string ({ op:=20,pos:=V.pos (q4+stp c5) }:Nd).name)/\W.cell? ⟨w8.heap.size,2,none⟩=some (.string ({ op:=20,pos:=V.pos (q4+stp c5) }:Nd).qual)/\W.cell? ⟨w8.heap.size,3,none⟩=some (.int .i64 ({ op:=20,pos:=V.pos (q4+stp c5) }:Nd).n)/\W.cell? ⟨w8.heap.size,4,none⟩=some (.int .i64 ({ op:=20,pos:=V.pos (q4+stp c5) }:Nd).m)/\W.cell? ⟨w8.heap.size,5,none⟩=some (.int .i64 ({ op:=20,pos:=V.pos (q4+stp c5) }:Nd).vk)/\W.cell? ⟨w8.heap.size,6,none⟩=some (.int .i64 ({ op:=20,pos:=V.pos (q4+stp c5) }:Nd).vn)/\W.cell? ⟨w8.heap.size,7,none⟩=some (.string ({ op:=20,pos:=V.pos (q4+stp c5) }:Nd).vs)/\W.cell? ⟨w8.heap.size,8,none⟩=some ((.slice B7 B8 B9))/\W.cell? ⟨w8.heap.size,9,none⟩=some (.int .i64 ({ op:=20,pos:=V.pos (q4+stp c5) }:Nd).pos))) (late:=[7,8]) (by kernel_rfl) (by first | exact C4.out | go_keep) (fun hHeld=>?_)
 refine tT 0 rfl hHeld ?_
 try simp only[Act.put,q1,q2,q3]
 refine tL 1 rfl hHeld ?_
 try simp only[Act.put,q1,q2,q3]
 refine tT 2 rfl hHeld ?_
 try simp only[Act.put,q1,q2,q3]
 refine tL 3 rfl hHeld ?_
 try simp only[Act.put,q1,q2,q3]
 refine rE 4 rfl fun K hK=>?_;go_simp;have i5:=e8.below ((Below.refl _ _).drew);have C5:=z9.below ((Below.refl _ _).drew);refine(a0g i5.pk.out (by have:=a0r (V:=V) (p:=a0) (x:=b3) (m:=a1);omega) { op:=20,kids:=(b0++[b1]),pos:=V.pos (q4+stp c5) } _ i5.pk.kids (fun _=>i5.pk.far (fun g hg=>f8.pk.sm.dl g hg))).mono ?_;rintro e J8 ⟨rfl,J9,o9,p0⟩;have p1:=C5.step J9 o9;have K0:=o7.drew.trans o9;have a3:=hid ((i5.nb.heap o9).trans i5.cell);have T1:=p0.le;have i6:=i4.bind p0;have T2:=i6.le;have r2:=p0.fuel r1;obtain⟨f9,g0,g2,Z2,m4,A0,K1,C6,T3,C7⟩:=p1.kid2 (a1:Int) (by first | (simp;done) | (simp;omega) | omega)
 refine hK _ _ ⟨⟨p1.cells.2.2.2.2.2.2.2.2.1,(cell_of a3.out).1,(cell_of a3.out).1,(cell_of a3.out).1,(cell_of a3.out).1,(cell_of a3.out).1,(cell_of a3.out).1,(cell_of a3.out).1,(cell_of a3.out).1,(cell_of a3.out).1,(cell_of a3.out).1⟩,?_⟩;clear hK K
 try simp only[Act.put,q1,q2,q3]
 have a4:=hid (((below_alloc J8 (.cells #[.int .i64 (a1:Int)] 3)).block _ (Array.getElem?_eq_some_iff.1 a3.out).1).trans a3.out);refine rE 5 rfl fun K hK=>?_;go_simp;refine hK _ _ ⟨⟨(p1.below (below_alloc _ _)).cells.2.2.2.2.2.2.2.2.1,(cell_of a4.out).1,(cell_of a4.out).1,(cell_of a4.out).1,(cell_of a4.out).1,(cell_of a4.out).1,(cell_of a4.out).1,(cell_of a4.out).1,(cell_of a4.out).1,(cell_of a4.out).1,(cell_of a4.out).1⟩,?_⟩;clear hK K
 try simp only[Act.put,q1,q2,q3]
 have a8:=hid ((C7 _ ⟨_,_,a4.out⟩).trans a4.out);refine rE 6 rfl fun K hK=>?_;refine a0e rfl (.tmp 40) (.tmp 44) 37 rfl _ _ rfl rfl _ _ m4 ?_;refine hK _ _ ⟨⟨C6,(cell_of a8.out).1,(cell_of a8.out).1,(cell_of a8.out).1,(cell_of a8.out).1,(cell_of a8.out).1,(cell_of a8.out).1,(cell_of a8.out).1,(cell_of a8.out).1,(cell_of a8.out).1,(cell_of a8.out).1⟩,?_⟩;clear hK K m4
 try simp only[Act.put,q1,q2,q3]
 refine rL 7 rfl fun K hK=>?_;go_simp;refine hK _ _ ?_;clear hK K
 try simp only[Act.put,q1,q2,q3]
 refine rL 8 rfl fun K hK=>?_;go_simp;refine hK _ _ ?_;clear hK K
 try simp only[Act.put,q1,q2,q3]
 refine a0h (by kernel_rfl) ?_ _;have K2:=K1 w K0 (by first | exact Nat.le_refl _ | omega);go_wp2_with fail;refine(a0C hV A0.pk.sm).mono ?_;rintro e Z3 ⟨rfl,A1⟩;have A2:=A0.below A1;have K3:=K2.below A1;have p2:=i6.rest;have T4:=p2.le;go_wp2_with fail;refine(a0b hV A2.pk.sm a2z).mono ?_;rintro e a2 ⟨K4,rfl,p3,K5,A3⟩;have b9:=A2.step K5 A3;have m0:=K3.trans A3;go_upto_if 50 with fail
 go_cut [] (fun wx=>∃ (ks:List Int) (q:Nat) (y:Option (List Nd)) (m1:Nat) (va:Option Addr) (vn vc:Nat),NV V src r B D w.heap.size wx q y m1 w2.heap.size { op:=25,n:=bit c5,pos:=V.pos p } (.slice va vn vc) ks/\Sp 3 r w wx/\Lp V 14 14 (sel2 V E Q (bit c5) (V.pos p) [(a1:Int)] a0) (sel3 V E (bit c5) (V.pos p) ks q) a0 (Option.map (·++[{ op:=20,kids:=(b0++[b1]),pos:=V.pos (q4+stp c5) }]) (b3)) (a1+1) q y m1/\Hid (ks.length<=3))
 case first=>
  cases K4 with
  | false=>
   replace b9:NV V src r B D w.heap.size a2 a0 (Option.map (·++[{ op:=20,kids:=(b0++[b1]),pos:=V.pos (q4+stp c5) }]) (b3)) (a1+1) w2.heap.size { op:=25,n:=bit c5,pos:=V.pos p } (.slice f9 g0 g2) ([]++[(a1:Int)]):=b9;have e9:=p2.tkF p3;have C8:=e9.le;have lm:=(e9).weak (d':=14) (c':=14) (by omega) (by omega)
   have hkm:Hid ((([]++[(a1:Int)]):List Int).length<=3):=by simp[Hid];try omega
   go_wp2;go_meet
   case rel=>exact⟨_,_,_,_,_,_,_,b9,m0,lm,hkm⟩
  | true=>
  have r3:=b9;replace b9:NV V src r B D w.heap.size a2 (a0+1) (Option.map (·++[{ op:=20,kids:=(b0++[b1]),pos:=V.pos (q4+stp c5) }]) (b3)) (a1+1) w2.heap.size { op:=25,n:=bit c5,pos:=V.pos p } (.slice f9 g0 g2) ([]++[(a1:Int)]):=r3;clear r3;obtain⟨Z4,A4,Z5,C9⟩:=p3.yes;have e9:=p2.tkT p3;have C8:=e9.le;have N4:=a0j (m:=(a1+1)) A4 C9;have w6:∀ o,(Option.map (·++[{ op:=20,kids:=(b0++[b1]),pos:=V.pos (q4+stp c5) }]) (b3))=some o->V.ts.length-(a0+1)<n:=fun o e=>Nat.lt_of_le_of_lt (by omega) (r2 o e);have p4:=e9.rest;have T5:=p4.le;have v8:=b9.pk.sm.sp;have N5:=m0.size;have K6:=NV.new (b:=a2.heap.size) b9.pk.sm (by have:=m0.size;omega) { op:=21,pos:=V.pos a0 }
  have K7:=m0.alloc (.cells (ndA { op:=21,pos:=V.pos a0 } (.slice none 0 0)) 42);have n2:=v8.alloc (.cells (ndA { op:=21,pos:=V.pos a0 } (.slice none 0 0)) 42);have A5:=p4.rest;have T6:=A5.le
  have K8:Lp V 0 (1000*([]:List Int).length) (fun o=>(a0F V (a2R V E Q) (a0+1) o).bind (fun gs q o=>(lay { op:=21,kids:=gs,pos:=V.pos a0 } q o).bind fun cc q o=>sel3 V E (bit c5) (V.pos p) ([(a1:Int)]++[cc]) q o)) (fun o=>(a1w V (a2R V E Q) (V.ts.length+1) [] (a0+1) o).bind (fun gs q o=>(lay { op:=21,kids:=gs,pos:=V.pos a0 } q o).bind fun cc q o=>sel3 V E (bit c5) (V.pos p) ([(a1:Int)]++[cc]) q o)) (a0+1) (Option.map (·++[{ op:=20,kids:=(b0++[b1]),pos:=V.pos (q4+stp c5) }]) (b3)) (a1+1) (a0+1) (Option.map (·++[{ op:=20,kids:=(b0++[b1]),pos:=V.pos (q4+stp c5) }]) (b3)) (a1+1):=A5;go_wp2_with fail
  go_loopw [] (fun wr=>∃ (ks:List Int) (k q:Nat) (y:Option (List Nd)) (m1:Nat) (va:Option Addr) (vn vc:Nat),NV V src r B (fun g=>D g\/((.slice f9 g0 g2):Value).ownBlock=some g) a2.heap.size wr q y m1 a2.heap.size { op:=21,pos:=V.pos a0 } (.slice va vn vc) ks/\Sp 3 r w wr/\Sp 3 r a2 wr/\Hid (∀ o,y=some o->V.ts.length-q<k)/\Lp V 0 (1000*ks.length) (fun o=>(a0F V (a2R V E Q) (a0+1) o).bind (fun gs q o=>(lay { op:=21,kids:=gs,pos:=V.pos a0 } q o).bind fun cc q o=>sel3 V E (bit c5) (V.pos p) ([(a1:Int)]++[cc]) q o)) (fun o=>(a1w V (a2R V E Q) k ks q o).bind (fun gs q o=>(lay { op:=21,kids:=gs,pos:=V.pos a0 } q o).bind fun cc q o=>sel3 V E (bit c5) (V.pos p) ([(a1:Int)]++[cc]) q o)) (a0+1) (Option.map (·++[{ op:=20,kids:=(b0++[b1]),pos:=V.pos (q4+stp c5) }]) (b3)) (a1+1) q y m1/\Hid (ks.length<=4100)) (fun wr=>V.ts.length-atN r wr)
  case atStart=>exact⟨[],V.ts.length+1,_,_,_,_,_,_,K6,K7,n2,(fun o _=>by omega:∀ o,(Option.map (·++[{ op:=20,kids:=(b0++[b1]),pos:=V.pos (q4+stp c5) }]) (b3))=some o->V.ts.length-(a0+1)<V.ts.length+1),K8,(by simp:([]:List Int).length<=4100)⟩
  case round=>
  obtain⟨i7,K9,Z6,Z7,Z8,L0,L1,L2,m2,L3,n3,A6,L4,L5⟩:=hrel;have T7:=L5.out;have L6:=m2.pk.sm.atN;have N6:=m2.pk.sm.le;have p5:=L4.listUB A6.out;have T8:=p5.le;have r5:=p5.fuel w6;go_wp2;refine a0a (S:=(fun W=>W.cell? ⟨a2.heap.size,8,none⟩=some (.slice L0 L1 L2))) (late:=[6,7]) (by kernel_rfl) (by first | exact m2.cells.2.2.2.2.2.2.2.2.1 | go_keep) (fun hHeld=>?_);refine tT 0 rfl hHeld ?_
  try simp only[Act.put,q1,q2,q3]
  refine tL 1 rfl hHeld ?_
  try simp only[Act.put,q1,q2,q3]
  refine tT 2 rfl hHeld ?_
  try simp only[Act.put,q1,q2,q3]
  refine rE 3 rfl fun K hK=>?_;go_simp;have A7:=m2.below ((Below.refl _ _).drew);refine(hF A7.pk.sm r5 (by omega)).mono ?_;rintro e Z9 ⟨i8,i9,j0,f0,rfl,L7,p6,j1⟩;have p7:=A7.step L7 p6;have L8:=L3.drew.trans p6;have n4:=n3.drew.trans p6;have T9:=j1.le;have p8:=p5.bind j1;have U0:=p8.le;have r6:=j1.fuel r5;obtain⟨D0,D1,D2,w30,m5,p9,A8,D3,U1⟩:=p7.kid i8 (by first | (simp;done) | (simp;omega) | omega);refine hK _ _ ⟨p7.cells.2.2.2.2.2.2.2.2.1,?_⟩;clear hK K
  try simp only[Act.put,q1,q2,q3]
  refine rE 4 rfl fun K hK=>?_;go_simp;refine hK _ _ ⟨(p7.below (below_alloc _ _)).cells.2.2.2.2.2.2.2.2.1,?_⟩;clear hK K
  try simp only[Act.put,q1,q2,q3]
  refine rE 5 rfl fun K hK=>?_;refine a0e rfl (.tmp 54) (.tmp 57) 37 rfl _ _ rfl rfl _ _ m5 ?_;refine hK _ _ ⟨D3,?_⟩;clear hK K m5
  try simp only[Act.put,q1,q2,q3]
  refine rL 6 rfl fun K hK=>?_;go_simp;refine hK _ _ ?_;clear hK K
  try simp only[Act.put,q1,q2,q3]
  refine rL 7 rfl fun K hK=>?_;go_simp;refine hK _ _ ?_;clear hK K
  try simp only[Act.put,q1,q2,q3]
  refine a0h (by kernel_rfl) ?_ _;have A9:=A8 w L8 (by first | exact Nat.le_refl _ | omega);have f6:=A8 _ n4 (by first | exact Nat.le_refl _ | omega);go_wp2_with fail;refine(a0b hV p9.pk.sm a1c).mono ?_;rintro e B0 ⟨L9,rfl,q0,e2,f1⟩
  cases L9 with
  | true=>
   replace e2:SM V src r B _ B0 (i9+1) j0 f0:=e2;have f2:=p9.step e2 f1;have q5:=A9.trans f1;have c4:=f6.trans f1;obtain⟨o31,q6,g31,U2⟩:=q0.yes;have c6:=p8.tkT q0;have q9:=c6.le;have N7:=e2.le;have U3:∀ o,j0=some o->V.ts.length-(i9+1)<_:=fun o e=>Nat.lt_of_le_of_lt (by omega) (r6 o e)
   have U4:(i7++[i8]).length=i7.length+1:=by simp
   have B1:=c6.norm q6 (1000*(i7++[i8]).length) (by omega);have U5:=(B1.ok q6).1;have M0:=f2.pk.sm.atN;obtain⟨_,M1,M2⟩:=j1.ok q6;have hk2:=A6.out M1 M2;have up2:=j1.up;have D4:=hid ((fun o _=>by omega):∀ o,j0=some o->V.ts.length-(i9+1)<K9-1);have D5:=hid ((by omega):(i7++[i8]).length<=4100);go_wp2;go_roundw
   case rel=>exact⟨_,_,_,_,_,_,_,_,f2,q5,c4,D4,B1,D5⟩
   case measure=>rw[L6,M0];omega
  | false=>
  replace e2:SM V src r B _ B0 i9 j0 f0:=e2;have f2:=p9.step e2 f1;have q5:=A9.trans f1;have c4:=f6.trans f1;have c6:=p8.tkF q0;have q9:=c6.le;have B2:=b9.step f2.pk.out c4;have D6:=hid (⟨B2.cells.2.2.2.2.2.2.2.2.1,f2.cells⟩:_/\_);go_wp2
  refine a0a (S:=(fun W=>W.cell? ⟨w2.heap.size,8,none⟩=some (.slice f9 g0 g2)/\W.cell? ⟨a2.heap.size,0,none⟩=some (.int .i64 ({ op:=21,pos:=V.pos a0 }:Nd).op)/\W.cell? ⟨a2.heap.size,1,none⟩=some (.string ({ op:=21,pos:=V.pos a0 }:Nd).name)/\W.cell? ⟨a2.heap.size,2,none⟩=some (.string ({ op:=21,pos:=V.pos a0 }:Nd).qual)/\W.cell? ⟨a2.heap.size,3,none⟩=some (.int .i64 ({ op:=21,pos:=V.pos a0 }:Nd).n)/\W.cell? ⟨a2.heap.size,4,none⟩=some (.int .i64 ({ op:=21,pos:=V.pos a0 }:Nd).m)/\W.cell? ⟨a2.heap.size,5,none⟩=some (.int .i64 ({ op:=21,pos:=V.pos a0 }:Nd).vk)/\W.cell? ⟨a2.heap.size,6,none⟩=some (.int .i64 ({ op:=21,pos:=V.pos a0 }:Nd).vn)/\W.cell? ⟨a2.heap.size,7,none⟩=some (.string ({ op:=21,pos:=V.pos a0 }:Nd).vs)/\W.cell? ⟨a2.heap.size,8,none⟩=some ((.slice D0 D1 D2))/\W.cell? ⟨a2.heap.size,9,none⟩=some (.int .i64 ({ op:=21,pos:=V.pos a0 }:Nd).pos))) (late:=[7,8]) (by kernel_rfl) (by first | exact D6.out | go_keep) (fun hHeld=>?_)
  refine tT 0 rfl hHeld ?_
  try simp only[Act.put,q1,q2,q3]
  refine tL 1 rfl hHeld ?_
  try simp only[Act.put,q1,q2,q3]
  refine tT 2 rfl hHeld ?_
  try simp only[Act.put,q1,q2,q3]
  refine tL 3 rfl hHeld ?_
  try simp only[Act.put,q1,q2,q3]
  refine rE 4 rfl fun K hK=>?_;go_simp;have j2:=f2.below ((Below.refl _ _).drew);have D7:=B2.below ((Below.refl _ _).drew);refine(a0g j2.pk.out (by have:=a0r (V:=V) (p:=i9) (x:=j0) (m:=f0);omega) { op:=21,kids:=(i7++[i8]),pos:=V.pos a0 } _ j2.pk.kids (fun _=>j2.pk.far (fun g hg=>b9.pk.sm.dl g hg))).mono ?_;rintro e y8 ⟨rfl,n8,i1,c9⟩;have q7:=D7.step n8 i1;have n9:=q5.drew.trans i1;have a5:=hid ((j2.nb.heap i1).trans j2.cell);have B4:=c9.le;have i2:=c6.bind c9;have B5:=i2.le;have B6:=c9.fuel r6;obtain⟨U6,U7,U8,w34,m6,M3,M4,D8,U9,D9⟩:=q7.kid2 (f0:Int) (by first | (simp;done) | (simp;omega) | omega)
  refine hK _ _ ⟨⟨q7.cells.2.2.2.2.2.2.2.2.1,(cell_of a5.out).1,(cell_of a5.out).1,(cell_of a5.out).1,(cell_of a5.out).1,(cell_of a5.out).1,(cell_of a5.out).1,(cell_of a5.out).1,(cell_of a5.out).1,(cell_of a5.out).1,(cell_of a5.out).1⟩,?_⟩;clear hK K
  try simp only[Act.put,q1,q2,q3]
  have a6:=hid (((below_alloc y8 (.cells #[.int .i64 (f0:Int)] 3)).block _ (Array.getElem?_eq_some_iff.1 a5.out).1).trans a5.out);refine rE 5 rfl fun K hK=>?_;go_simp;refine hK _ _ ⟨⟨(q7.below (below_alloc _ _)).cells.2.2.2.2.2.2.2.2.1,(cell_of a6.out).1,(cell_of a6.out).1,(cell_of a6.out).1,(cell_of a6.out).1,(cell_of a6.out).1,(cell_of a6.out).1,(cell_of a6.out).1,(cell_of a6.out).1,(cell_of a6.out).1,(cell_of a6.out).1⟩,?_⟩;clear hK K
  try simp only[Act.put,q1,q2,q3]
  have a9:=hid ((D9 _ ⟨_,_,a6.out⟩).trans a6.out);refine rE 6 rfl fun K hK=>?_;refine a0e rfl (.tmp 64) (.tmp 68) 37 rfl _ _ rfl rfl _ _ m6 ?_;refine hK _ _ ⟨⟨D8,(cell_of a9.out).1,(cell_of a9.out).1,(cell_of a9.out).1,(cell_of a9.out).1,(cell_of a9.out).1,(cell_of a9.out).1,(cell_of a9.out).1,(cell_of a9.out).1,(cell_of a9.out).1,(cell_of a9.out).1⟩,?_⟩;clear hK K m6
  try simp only[Act.put,q1,q2,q3]
  refine rL 7 rfl fun K hK=>?_;go_simp;refine hK _ _ ?_;clear hK K
  try simp only[Act.put,q1,q2,q3]
  refine rL 8 rfl fun K hK=>?_;go_simp;refine hK _ _ ?_;clear hK K
  try simp only[Act.put,q1,q2,q3]
  refine a0h (by kernel_rfl) ?_ _;have M5:=M4 w n9 (by first | exact Nat.le_refl _ | omega);have lm:=((e9.compS A4 (p4.comp i2))).weak (d':=14) (c':=14) (by omega) (by omega)
  have hkm:Hid (([]++[(a1:Int)]++[(f0:Int)]:List Int).length<=3):=by simp[Hid];try omega
  go_wp2;go_meet
  case rel=>exact⟨_,_,_,_,_,_,_,M3,M5,lm,hkm⟩
 case rest=>
 rename World=>w222;obtain⟨N8,V0,V1,V2,N9,O0,O1,g3,E0,g4,w7⟩:=hcut;have M6:=w7.out;have O2:=g4.le;have m7:=g4.fuel r2;obtain⟨d0,d1,d2,d3,d4,d5,d6,d7,d8,d9⟩:=g3.cells;have dz:=g3.fz;go_wp2_with fail;refine(a5E hV hA g3.pk E0 (by first | (simp;done) | (simp;omega) | omega) m7 (fun o e=>by have:=((l5.comp (i6.comp g4)).ok e).1;omega)).mono ?_;rintro e V3 ⟨c7,c8,a7,c0,g5,g6,rfl,E1,E2,w9,j8,M7⟩;clear d0 d1 d2 d3 d4 d5 d6 d7 d8 d9 dz;obtain⟨j9,O3,O4⟩:=g3.row E1 w9;have E3:=E2.set (j:=8) (.slice c7 a7.length c8) j9.lo;have O5:=j8.le;have g7:=g4.bind j8;have O6:=g7.le;have m8:=j8.fuel m7;go_wp2_with fail;refine(a0C hV j9.pk.sm).mono ?_;rintro e V4 ⟨rfl,r7⟩
 have r8:=j9.below r7;have E4:=E3.below r7;have k0:=g7.rest;have O7:=k0.le;go_wp2_with fail;refine(a0b hV r8.pk.sm a6z).mono ?_;rintro e r9 ⟨E5,rfl,k1,E6,s0⟩;have b5:=r8.step E6 s0;have s6:=E4.trans s0;go_upto_if 79 with fail;go_cut [] (fun wx=>∃ (ks:List Int) (q:Nat) (y:Option (List Nd)) (m1:Nat) (va:Option Addr) (vn vc:Nat),NV V src r B D w.heap.size wx q y m1 w2.heap.size { op:=25,n:=bit c5,pos:=V.pos p } (.slice va vn vc) ks/\Sp 3 r w wx/\Lp V 12 12 (sel4 V E (bit c5) (V.pos p) a7 c0) (sel5 V E (bit c5) (V.pos p) ks q) c0 g5 g6 q y m1/\Hid (ks.length<=10))
 case first=>
  cases E5 with
  | false=>
   replace b5:NV V src r B D w.heap.size r9 c0 g5 g6 w2.heap.size { op:=25,n:=bit c5,pos:=V.pos p } (.slice c7 a7.length c8) a7:=b5;have c2:=k0.tkF k1;have x0:=c2.le;have lm:=(c2).weak (d':=12) (c':=12) (by omega) (by omega)
   have hkm:Hid ((a7:List Int).length<=10):=by simp[Hid];try omega
   go_wp2;go_meet
   case rel=>exact⟨_,_,_,_,_,_,_,b5,s6,lm,hkm⟩
  | true=>
  have m9:=b5;replace b5:NV V src r B D w.heap.size r9 (c0+1) g5 g6 w2.heap.size { op:=25,n:=bit c5,pos:=V.pos p } (.slice c7 a7.length c8) a7:=m9;clear m9;obtain⟨V5,s9,V6,x1⟩:=k1.yes;have c2:=k0.tkT k1;have x0:=c2.le;have M8:=a0j (m:=g6) s9 x1;have v9:∀ o,g5=some o->V.ts.length-(c0+1)<n:=fun o e=>Nat.lt_of_le_of_lt (by omega) (m8 o e);have t0:=c2.rest;have O8:=t0.le;go_wp2_with fail;refine(a0i hV b5.pk.sm k_by).mono ?_;rintro e V7 ⟨V8,V9,rfl,E7,t2,k2⟩;have g8:=b5.step E7 t2;have t3:=s6.trans t2;have O9:=k2.le;have t4:=t0.bind k2;have P0:=t4.le;have n0:=k2.fuel v9;have n5:=g8.pk.sm.sp;have M9:=t3.size;go_wp2_with fail
  refine(a5s hV hA g8.pk.sm n0 (by omega)).mono ?_;rintro e W0 ⟨W1,E8,E9,F0,k3,rfl,g9,t6,k4,P1⟩;obtain⟨P2,P3,rfl⟩:=a2c g9.row;have W2:=g9.sm;have F1:=t3.trans t6;have j7:=n5.trans t6;have P4:=k4.le;have t7:=t4.bind k4;have P5:=t7.le;have x2:=k4.fuel n0;have t8:=g8.step g9.out j7;have x3:=hid (t8.cells.2.2.2.2.2.2.2.2.1);go_wp2;refine a0a (S:=(fun W=>W.cell? ⟨w2.heap.size,8,none⟩=some (.slice c7 a7.length c8))) (late:=[9,10]) (by kernel_rfl) (by first | exact x3.out | go_keep) (fun hHeld=>?_);refine tT 0 rfl hHeld ?_
  try simp only[Act.put,q1,q2,q3]
  refine tL 1 rfl hHeld ?_
  try simp only[Act.put,q1,q2,q3]
  refine tT 2 rfl hHeld ?_
  try simp only[Act.put,q1,q2,q3]
  refine tT 3 rfl hHeld ?_
  try simp only[Act.put,q1,q2,q3]
  refine tT 4 rfl hHeld ?_
  try simp only[Act.put,q1,q2,q3]
  refine tT 5 rfl hHeld ?_
  try simp only[Act.put,q1,q2,q3]
  have F2:=t8.below ((Below.refl _ _).drew);refine rE 6 rfl fun K hK=>?_;go_simp;have h8:=g9.below ((Below.refl _ _).drew);refine(a0g h8.out (by have:=a0r (V:=V) (p:=E9) (x:=F0) (m:=k3);omega) { op:=23,kids:=E8,pos:=V.pos c0 } _ h8.kids (fun _=>h8.far (fun g hg=>g8.pk.sm.dl g hg))).mono ?_;rintro e W3 ⟨rfl,F3,t9,k5⟩;have k6:=F2.step F3 t9;have F4:=F1.drew.trans t9;have P6:=k5.le;have u0:=t7.bind k5;have P7:=u0.le;have P8:=k5.fuel x2;obtain⟨P9,Q0,Q1,W4,j4,F5,F6,x4,Q2⟩:=k6.kid (k3:Int) (by first | (simp;done) | (simp;omega) | omega);refine hK _ _ ⟨k6.cells.2.2.2.2.2.2.2.2.1,?_⟩;clear hK K
  try simp only[Act.put,q1,q2,q3]
  refine rE 7 rfl fun K hK=>?_;go_simp;refine hK _ _ ⟨(k6.below (below_alloc _ _)).cells.2.2.2.2.2.2.2.2.1,?_⟩;clear hK K
  try simp only[Act.put,q1,q2,q3]
  refine rE 8 rfl fun K hK=>?_;refine a0e rfl (.tmp 85) (.tmp 91) 37 rfl _ _ rfl rfl _ _ j4 ?_;refine hK _ _ ⟨x4,?_⟩;clear hK K j4
  try simp only[Act.put,q1,q2,q3]
  refine rL 9 rfl fun K hK=>?_;go_simp;refine hK _ _ ?_;clear hK K
  try simp only[Act.put,q1,q2,q3]
  refine rL 10 rfl fun K hK=>?_;go_simp;refine hK _ _ ?_;clear hK K
  try simp only[Act.put,q1,q2,q3]
  refine a0h (by kernel_rfl) ?_ _;have F7:=F6 w F4 (by first | exact Nat.le_refl _ | omega);have lm:=((c2.compS s9 u0)).weak (d':=12) (c':=12) (by omega) (by omega)
  have hkm:Hid ((a7++[(k3:Int)]:List Int).length<=10):=by simp[Hid];try omega
  go_wp2;go_meet
  case rel=>exact⟨_,_,_,_,_,_,_,F5,F7,lm,hkm⟩
 case rest=>
 rename World=>w427;obtain⟨h9,b6,h0,h3,x5,x7,x8,u1,F8,e3,x9⟩:=hcut;have N0:=x9.out;have Q3:=e3.le;have y0:=e3.fuel m8;go_wp2_with fail;refine(a0C hV u1.pk.sm).mono ?_;rintro e W5 ⟨rfl,u2⟩;have k7:=u1.below u2;have u3:=F8.below u2;have u4:=e3.rest;have Q4:=u4.le;have k8:=u4.congr (fun o _=>b7J V E (bit c5) (V.pos p) h9 b6 o);have Q5:=k8.le;go_wp2_with fail;refine(a0b hV k7.pk.sm a1N).mono ?_;rintro e u5 ⟨F9,rfl,k9,b7,h6⟩
 cases F9 with
 | false=>
  replace b7:SM V src r B _ u5 b6 h0 h3:=b7;have b4:=k7.step b7 h6;have l2:=u3.trans h6;have c3:=k8.tkF k9;have y1:=c3.le;obtain⟨d0,d1,d2,d3,d4,d5,d6,d7,d8,d9⟩:=b4.cells;have dz:=b4.fz;go_wp2_with fail;refine(a0g b4.pk.out (by have:=a0r (V:=V) (p:=b6) (x:=h0) (m:=h3);omega) { op:=25,n:=bit c5,kids:=h9,pos:=V.pos p } _ b4.pk.kids (fun _=>b4.pk.far (fun g hg=>h.dl g hg))).mono ?_;rintro e W6 ⟨rfl,G0,G1,G2⟩;have G3:=l2.trans G1;have HR:=hid (c3.last G2);replace HR:=hid (e3.last HR.out);replace HR:=hid (g7.last HR.out);replace HR:=hid (i6.last HR.out);replace HR:=hid (l5.last HR.out);go_wp2;go_ret;exact⟨_,_,_,_,rfl,G0,G3,HR.out.weak (by omega) (by omega)⟩
 | true=>
 replace b7:SM V src r B _ u5 (b6+1) h0 h3:=b7;have b4:=k7.step b7 h6;have l2:=u3.trans h6;obtain⟨W7,u6,W8,y2⟩:=k9.yes;have c3:=k8.tkT k9;have y1:=c3.le;have N1:=b7.le;have n1:∀ o,h0=some o->V.ts.length-(b6+1)<_:=fun o e=>Nat.lt_of_le_of_lt (by omega) (y0 o e);have hps:=a0j (m:=h3) u6 y2;have u7:=c3.rest;have Q6:=u7.le;go_wp2_with fail;refine(hA b4.pk.sm n1 (by omega)).mono ?_;rintro e W9 ⟨e4,u8,u9,h7,rfl,G4,v0,l3⟩;have v1:=b4.step G4 v0;have G5:=l2.trans v0;have Q7:=l3.le;have v2:=u7.bind l3;have Q8:=v2.le;have y3:=l3.fuel n1;have y5:=hid (v1.cells.2.2.2.2.2.2.2.2.1);go_wp2
 refine a0a (S:=(fun W=>W.cell? ⟨w2.heap.size,8,none⟩=some (.slice x5 x7 x8))) (late:=[10,11]) (by kernel_rfl) (by first | exact y5.out | go_keep) (fun hHeld=>?_);refine tT 0 rfl hHeld ?_
 try simp only[Act.put,q1,q2,q3]
 refine tL 1 rfl hHeld ?_
 try simp only[Act.put,q1,q2,q3]
 refine tT 2 rfl hHeld ?_
 try simp only[Act.put,q1,q2,q3]
 refine tT 3 rfl hHeld ?_
 try simp only[Act.put,q1,q2,q3]
 refine tT 5 rfl hHeld ?_
 try simp only[Act.put,q1,q2,q3]
 have l6:=v1.below ((Below.refl _ _).drew);refine rE 4 rfl fun K hK=>?_;go_simp;refine hK _ _ ⟨(l6.below (below_alloc _ _)).cells.2.2.2.2.2.2.2.2.1,?_⟩;clear hK K
 try simp only[Act.put,q1,q2,q3]
 have i0:=l6.below (below_alloc _ (.cells #[.int .i64 e4] 3));replace hHeld:=i0.cells.2.2.2.2.2.2.2.2.1;refine tT 6 rfl hHeld ?_
 try simp only[Act.put,q1,q2,q3]
 refine rE 7 rfl fun K hK=>?_;go_simp;refine(a0g i0.pk.sm (by have:=a0r (V:=V) (p:=u8) (x:=u9) (m:=h7);omega) { op:=24,kids:=[e4],pos:=V.pos b6 } _ (KS.new _ [e4]) (fun _=>l6.pk.sm.outN (Nat.le_refl _))).mono ?_;rintro e X0 ⟨rfl,G6,v3,l7⟩;have l8:=i0.step G6 v3;have G7:=(G5.drew.alloc (.cells #[.int .i64 e4] 3)).trans v3;have Q9:=l7.le;have v4:=v2.bind l7;have R0:=v4.le;have R1:=l7.fuel y3;obtain⟨R2,R3,R4,X1,j5,e5,G8,y6,R5⟩:=l8.kid (h7:Int) (by first | (simp;done) | (simp;omega) | omega);refine hK _ _ ⟨l8.cells.2.2.2.2.2.2.2.2.1,?_⟩;clear hK K
 try simp only[Act.put,q1,q2,q3]
 refine rE 8 rfl fun K hK=>?_;go_simp;refine hK _ _ ⟨(l8.below (below_alloc _ _)).cells.2.2.2.2.2.2.2.2.1,?_⟩;clear hK K
 try simp only[Act.put,q1,q2,q3]
 refine rE 9 rfl fun K hK=>?_;refine a0e rfl (.tmp 101) (.tmp 108) 37 rfl _ _ rfl rfl _ _ j5 ?_;refine hK _ _ ⟨y6,?_⟩;clear hK K j5
 try simp only[Act.put,q1,q2,q3]
 refine rL 10 rfl fun K hK=>?_;go_simp;refine hK _ _ ?_;clear hK K
 try simp only[Act.put,q1,q2,q3]
 refine rL 11 rfl fun K hK=>?_;go_simp;refine hK _ _ ?_;clear hK K
 try simp only[Act.put,q1,q2,q3]
 refine a0h (by kernel_rfl) ?_ _;have G9:=G8 w G7 (by first | exact Nat.le_refl _ | omega);obtain⟨d0,d1,d2,d3,d4,d5,d6,d7,d8,d9⟩:=e5.cells;have dz:=e5.fz;go_wp2_with fail;refine(a0g e5.pk.out (by have:=a0r (V:=V) (p:=u8) (x:=(Option.map (·++[{ op:=24,kids:=[e4],pos:=V.pos b6 }]) (u9))) (m:=(h7+1));omega) { op:=25,n:=bit c5,kids:=h9++[(h7:Int)],pos:=V.pos p } _ e5.pk.kids (fun _=>e5.pk.far (fun g hg=>h.dl g hg))).mono ?_;rintro e X2 ⟨rfl,H0,H1,H2⟩;have H3:=G9.trans H1;have HR:=hid (v4.last H2);replace HR:=hid (c3.lastS u6 HR.out);replace HR:=hid (e3.last HR.out);replace HR:=hid (g7.last HR.out);replace HR:=hid (i6.last HR.out);replace HR:=hid (l5.last HR.out);go_wp2;go_ret;exact⟨_,_,_,_,rfl,H0,H3,HR.out.weak (by omega) (by omega)⟩
end Go.Proofs.YtphmpkpcamgjeaaGreatDoor
