import Derived.Test.YtphmpkpcamgjeaaGreatDoorXAA
import Derived.Test.YtphmpkpcamgjeaaGreatDoorXAX
import Derived.Test.YtphmpkpcamgjeaaGreatDoorXAY
set_option linter.unusedVariables false
set_option linter.unusedSimpArgs false
set_option maxRecDepth 100000
set_option maxHeartbeats 16000000
namespace Go.Proofs.YtphmpkpcamgjeaaGreatDoor
open Go.ChangeShapes Go.WideShapes Go.ChangeAt Go.RowKit Go.Proofs.Tryz
open Go.Maps
def b7x (V:Env) (E Q:M Int):M Int:=fun p o=>
  if sees V p k_exists then(inB V Q (p+1) o).bind fun k q o=>lay { op:=16,kids:=[k],pos:=V.pos p } q o
  else if sees V p a4d then a3q V E (V.pos p) (p+1) o
  else if sees V p a4e then a7p V E (V.pos p) (p+1) o
  else if sees V p g_lp then(if sees V (p+1) a0l then(inB V Q p o).bind fun k q o=>lay { op:=17,kids:=[k],pos:=V.pos p } q o else inB V E p o)
  else a2B V E (V.pos p) p o
theorem b5j (V : Env) (E Q : M Int) (p : Nat) (o : List Nd) : (∀ v q o', litV V p o = .ok (some v) q o' -> a3K V E Q p o = lit v.1 v.2.1 v.2.2 (V.pos p) q o') /\ (∀ t, litV V p o = .bad t -> a3K V E Q p o = .bad t) /\ (∀ q o', litV V p o = .ok none q o' -> q = p /\ o' = o /\ a3K V E Q p o = b7x V E Q p o) := by
 unfold litV a3K
 cases h3 : V.kd p == 3 with
 | true => refine ⟨fun v q o' h => ?_, fun t h => ?_, fun q o' h => ?_⟩ <;> simp at h ⊢ <;> (try (obtain ⟨rfl, rfl, rfl⟩ := h)) <;> rfl
 | false =>
 cases h4 : V.kd p == 4 with
 | true => refine ⟨fun v q o' h => ?_, fun t h => ?_, fun q o' h => ?_⟩ <;> simp at h ⊢ <;> (try (obtain ⟨rfl, rfl, rfl⟩ := h)) <;> rfl
 | false =>
 cases h5 : V.kd p == 5 with
 | true => refine ⟨fun v q o' h => ?_, fun t h => ?_, fun q o' h => ?_⟩ <;> simp at h ⊢ <;> (try (obtain ⟨rfl, rfl, rfl⟩ := h)) <;> rfl
 | false =>
 cases ht : sees V p k_true with
 | true =>
   rw [a3m ht (t := a1h) (by simp [ByteArray.toList_eq])]
   refine ⟨fun v q o' h => ?_, fun t h => ?_, fun q o' h => ?_⟩ <;> simp at h ⊢ <;> (try (obtain ⟨rfl, rfl, rfl⟩ := h)) <;> rfl
 | false =>
 cases hf : sees V p a2A with
 | true =>
   rw [a3m hf (t := a1h) (by simp [ByteArray.toList_eq])]
   refine ⟨fun v q o' h => ?_, fun t h => ?_, fun q o' h => ?_⟩ <;> simp at h ⊢ <;> (try (obtain ⟨rfl, rfl, rfl⟩ := h)) <;> rfl
 | false =>
 cases hd : sees V p a3p with
 | true =>
   rw [a3m hd (t := a1h) (by simp [ByteArray.toList_eq])]
   simp only [Bool.false_eq_true, if_false, if_true]
   unfold dayV dayF dayE
   cases h5 : V.kd (p + 1) == 5 with
   | false =>
     have e5 : ¬ V.kd (p + 1) = 5 := by simpa using h5
     refine ⟨fun v q o' h => ?_, fun t h => ?_, fun q o' h => ?_⟩ <;> simp [e5, R.bind_bad] at h ⊢
     exact h
   | true =>
     have e5 : V.kd (p + 1) = 5 := by simpa using h5
     cases hr : V.rt (V.tx (p + 1)) with
     | none => refine ⟨fun v q o' h => ?_, fun t h => ?_, fun q o' h => ?_⟩ <;> simp [e5, R.bind_bad] at h ⊢ <;> exact h
     | some n =>
       refine ⟨fun v q o' h => ?_, fun t h => ?_, fun q o' h => ?_⟩ <;> simp [e5, R.bind_ok] at h ⊢
       obtain ⟨rfl, rfl, rfl⟩ := h
       rfl
 | false =>
 cases hn : sees V p a1h with
 | true => refine ⟨fun v q o' h => ?_, fun t h => ?_, fun q o' h => ?_⟩ <;> simp at h ⊢ <;> (try (obtain ⟨rfl, rfl, rfl⟩ := h)) <;> rfl
 | false =>
   refine ⟨fun v q o' h => ?_, fun t h => ?_, fun q o' h => ?_⟩ <;> simp at h ⊢
   obtain ⟨rfl, rfl⟩ := h
   exact ⟨rfl, rfl, rfl⟩
theorem b7y {V:Env} {E Q:M Int} (hX:IX V) (hLP:∀ p,sees V p g_lp=true->isNm V p=false) {p:Nat} {o:List Nd} (h:isNm V p=true):b7x V E Q p o=a3M V E (V.pos p) p o:=by
 have hw:∀ s,s∈[k_exists,a4d,a4e,a2n,b1D,b1E,b1F,b1G,a1h,k_true,a2A,a3p,k_as,a0l]->sees V p s=false:=fun s hs=>by
  cases hc:sees V p s with
  | false=>rfl
  | true=>
  rw[hX.rw p s hs hc] at h;cases h
 have hl:sees V p g_lp=false:=by
  cases hc:sees V p g_lp with
  | false=>rfl
  | true=>
  rw[hLP p hc] at h;cases h
 unfold b7x a2B aggWords;simp[pick,hw k_exists (by simp),hw a4d (by simp),hw a4e (by simp),hw a2n (by simp),hw b1D (by simp),hw b1E (by simp),hw b1F (by simp),hw b1G (by simp),hl]
theorem b7z {V:Env} {E:M Int} {p:Nat} {o:List Nd} (h:isNm V p=false):a2B V E (V.pos p) p o=aggA V E (V.pos p) p o:=by
 unfold a2B aggA
 cases pick V aggWords p with
 | some i=>rfl
 | none=>
 simp only;unfold a3M name;rw[h];rfl
theorem b8M {V:Env} {p:Nat} {o:List Nd} {v:Option (Int×Int×ByteArray)} {q:Nat} {o':List Nd} (h:litV V p o=.ok v q o'):o'=o:=by
 unfold litV dayV at h;simp only[a0o,R.bind_iff] at h;rcases h with⟨_,h⟩ | ⟨_,h⟩
 .simp at h;exact h.2.2.symm
 rcases h with⟨_,h⟩ | ⟨_,h⟩
 .simp at h;exact h.2.2.symm
 rcases h with⟨_,h⟩ | ⟨_,h⟩
 .simp at h;exact h.2.2.symm
 rcases h with⟨_,h⟩ | ⟨_,h⟩
 .simp at h;exact h.2.2.symm
 rcases h with⟨_,h⟩ | ⟨_,h⟩
 .simp at h;exact h.2.2.symm
 rcases h with⟨_,b,s,u,h1,h2⟩ | ⟨_,h⟩
 .simp at h2;obtain⟨_,_,rfl⟩:=h2;rcases h1 with⟨_,h1⟩ | ⟨_,h1⟩
  .split at h1<;>simp at h1
   exact h1.2.2.symm
  simp at h1
 rcases h with⟨_,h⟩ | ⟨_,h⟩
 .simp at h;exact h.2.2.symm
 simp at h;exact h.2.2.symm
section
variable {V : Env} {Mx : DataW Unit} {r B : Nat} {D : Nat -> Prop} {w : World} {p : Nat} {o : List Nd} {m : Nat} {E Q : M Int}
theorem b8N (hV:IV V Mx) (hE:a0p V Mx 147 m E) (gE:Gro 999 E) (hQ:a0p V Mx 78 m Q) (gQ:Gro 900 Q) (hX:IX V) (hLP:∀ p,sees V p g_lp=true->isNm V p=false) (h:IM V Mx r B D w p o) (hn:V.ts.length-p<m+1) (hl:o.length<=1000*p+500) :
 Calls prog 191 #[.pointer (some ⟨r,0,none⟩)] w fun e w'=>IPost V Mx r B D vInt (a3K V E Q p o) w e w':=by
 have hmf:=@mkf;have hT:=hV.n;have hle:=h.le;obtain⟨F0,L0⟩:=hidEq (a3K V E Q p o);rw[<- L0.out];go_enter func191,ntmps191;go_wp2_with fail;refine(a0v hV h).mono ?_;rintro e n5 ⟨rfl,d3⟩;have h2:=h.spB d3;have h3:=h.below d3;have c2:=h.sp.trans h2;go_wp2_with fail;refine(b3t hV hX h3).mono ?_;intro e n6 a4;obtain⟨g8,g9,h0⟩:=b5j V E Q p o
 cases a0:litV V p o with
 | bad n7=>
  rw[a0] at a4;obtain⟨rfl,f3⟩:=a4;exact bd (L0.out.trans (g9 _ a0)) ((h.low c2).trans f3)
 | ok h4 n8 n9=>
 rw[a0] at a4;obtain⟨rfl,b6,d4⟩:=a4
 cases h4 with
 | some v=>
  have c3:=c2.trans d4;obtain⟨vk,vn,vs⟩:=v;have L1:=hid (L0.out.trans (g8 _ _ _ a0));have glo:=b8M a0;subst glo;have h5:=b6.sp.alloc (.cells #[.int .i64 vk,.int .i64 vn,.string vs] 40);have h6:=b6.alloc (.cells #[.int .i64 vk,.int .i64 vn,.string vs] 40);have h7:=c3.trans h5;go_wp2_with fail;refine(add0 h6 (by omega) ({ op:=1,vk:=vk,vn:=vn,vs:=vs,pos:=V.pos p }:Nd) rfl).mono ?_;rintro e o0 ⟨rfl,d5,h8⟩;have h9:=h7.trans h8;have i0:=hid (It.done L1.out rfl);have m2:=d5.ol;exact okI i0.out d5 h9
 | none=>
 have c3:=c2.trans d4;obtain⟨e1,e2,e3⟩:=h0 _ _ a0;replace e1:=e1.symm;replace e2:=e2.symm;subst e1;subst e2;have L1:=hid (L0.out.trans e3);clear e3 g8 g9 h0 a0;have i1:=b6.sp.alloc (.cells #[.int .i64 0,.int .i64 0,.string ⟨#[]⟩] 40);have c4:=b6.alloc (.cells #[.int .i64 0,.int .i64 0,.string ⟨#[]⟩] 40);have i2:=c3.trans i1;go_wp2_with fail;refine(a2N hV c4).mono ?_;rintro e o1 ⟨rfl,d6⟩;have i3:=c4.spB d6;have d7:=c4.below d6;have b7:=i2.trans i3
 cases d1:isNm V p with
 | true=>
  have L2:=hid (L1.out.trans (b7y hX hLP d1));go_wp2_with fail;refine(b7w hV hE gE d7 (by omega) (by omega)).mono ?_;intro e o2 f4;rcases f4.cs with⟨o3,a5,rfl,f5⟩ | ⟨o4,o5,o6,a5,rfl,d8,i4⟩
  .exact bd (It.tail L2.out a5 rfl) ((h.low b7).trans f5)
  have m3:=(a6i gE (V.pos p)) _ _ _ _ _ a5;have i5:=b7.trans i4;have l5:=d8.le;have i6:=hid (It.tail L2.out a5 rfl);exact okI i6.out d8 i5
 | false=>
 go_wp2_with fail;refine(a0N hV d7 a4d).mono ?_;rintro e o7 (⟨a1,rfl,c5,c6⟩ | ⟨a1,rfl,c5,c6⟩)
 .have b3:=b7.trans c6;have m4:=a0c a1;have L2:=hid (It.seF L1.out (a3m a1 (by simp[ByteArray.toList_eq])) rfl);have L3:=hid (It.seT L2.out a1 rfl);go_wp2_with fail;refine(b5i hV hE gE (V.pos p) c5 (by omega) (by omega)).mono ?_;intro e o8 f6;rcases f6.cs with⟨o9,a6,rfl,f7⟩ | ⟨p0,p1,p2,a6,rfl,d9,i7⟩
  .exact bd (It.tail L3.out a6 rfl) ((h.low b3).trans f7)
  have m5:=(a6h gE (V.pos p)) _ _ _ _ _ a6;have i8:=b3.trans i7;have l6:=d9.le;have i9:=hid (It.tail L3.out a6 rfl);exact okI i9.out d9 i8
 have b3:=b7.trans c6;go_wp2_with fail;refine(a0N hV c5 a4e).mono ?_;rintro e p3 (⟨a3,rfl,c7,c8⟩ | ⟨a3,rfl,c7,c8⟩)
 .have b4:=b3.trans c8;have m6:=a0c a3;have L2:=hid (It.seF L1.out (a3m a3 (by simp[ByteArray.toList_eq])) rfl);have L3:=hid (It.seF L2.out a1 rfl);have L4:=hid (It.seT L3.out a3 rfl);go_wp2_with fail;refine(b8L hV hE gE (V.pos p) c7 (by omega) (by omega)).mono ?_;intro e p4 f8;rcases f8.cs with⟨p5,a7,rfl,f9⟩ | ⟨p6,p7,p8,a7,rfl,e0,j0⟩
  .exact bd (It.tail L4.out a7 rfl) ((h.low b4).trans f9)
  have m7:=(a7v gE (V.pos p)) _ _ _ _ _ a7;have j1:=b4.trans j0;have l7:=e0.le;have j2:=hid (It.tail L4.out a7 rfl);exact okI j2.out e0 j1
 have b4:=b3.trans c8;go_wp2_with fail;refine(a0N hV c7 k_exists).mono ?_;rintro e p9 (⟨a8,rfl,b5,c9⟩ | ⟨a8,rfl,b5,c9⟩)
 .have b8:=b4.trans c9;have m8:=a0c a8;have L2:=hid (It.seT L1.out a8 rfl);go_wp2_with fail;refine(a3l (n:=m) hV a4s hQ gQ b5 (by omega) (by omega)).mono ?_;intro e q0 g0;rcases g0.cs with⟨q1,a9,rfl,g1⟩ | ⟨j3,q2,q3,a9,rfl,e4,j4⟩
  .exact bd (It.bad L2.out a9 rfl) ((h.low b8).trans g1)
  have m9:=(a2p gQ) _ _ _ _ _ a9;have j5:=b8.trans j4;have l8:=e4.le;have j6:=hid (It.ok L2.out a9 rfl);go_wp2_with fail;refine(addZ e4 (by omega) ({ op:=16,kids:=[j3],pos:=V.pos p }:Nd) (by simp)).mono ?_;rintro e q4 ⟨rfl,e5,j7⟩;have j8:=j5.trans j7;have j9:=hid (It.done j6.out rfl);have n0:=e5.ol;exact okI j9.out e5 j8
 have b8:=b4.trans c9;have L2:=hid (It.seF L1.out a8 rfl);have L3:=hid (It.seF L2.out a1 rfl);have L4:=hid (It.seF L3.out a3 rfl);go_wp2_with fail;refine(a7C hV b5 g_lp a0l).mono ?_;rintro e q5 ⟨rfl,e6⟩;have k0:=b5.spB e6;have b9:=b5.below e6;have d0:=b8.trans k0
 cases a2:(sees V p g_lp&&sees V (p+1) a0l) with
 | true=>
  have h1:sees V p g_lp=true:=by simp only[Bool.and_eq_true] at a2;exact a2.1
  have d2:sees V (p+1) a0l=true:=by simp only[Bool.and_eq_true] at a2;exact a2.2
  have s2:=a0c h1;have L5:=hid (It.seT L4.out h1 rfl);have L6:=hid (It.seT L5.out d2 rfl);go_wp2_with fail;refine(a3l (n:=m) hV a4s hQ gQ b9 (by omega) (by omega)).mono ?_;intro e q6 g2;rcases g2.cs with⟨q7,b0,rfl,g3⟩ | ⟨k1,q8,q9,b0,rfl,e7,k2⟩
  .exact bd (It.bad L6.out b0 rfl) ((h.low d0).trans g3)
  have n1:=(a2p gQ) _ _ _ _ _ b0;have k3:=d0.trans k2;have l9:=e7.le;have k4:=hid (It.ok L6.out b0 rfl);go_wp2_with fail;refine(addZ e7 (by omega) ({ op:=17,kids:=[k1],pos:=V.pos p }:Nd) (by simp)).mono ?_;rintro e r0 ⟨rfl,e8,k5⟩;have k6:=k3.trans k5;have k7:=hid (It.done k4.out rfl);have n2:=e8.ol;exact okI k7.out e8 k6
 | false=>
 go_wp2_with fail;refine(a3L hV b9 g_lp).mono ?_;rintro e r1 ⟨rfl,e9⟩;have k8:=b9.spB e9;have f0:=b9.below e9;have c0:=d0.trans k8
 cases b1:sees V p g_lp with
 | false=>
  have L5:=hid (It.seF L4.out b1 rfl);have L6:=hid (L5.out.trans (b7z d1));go_wp2_with fail;refine(a8A hV hE gE (V.pos p) f0 (by omega) (by omega)).mono ?_;intro e r2 g4;rcases g4.cs with⟨r3,c1,rfl,g5⟩ | ⟨r4,r5,r6,c1,rfl,f1,k9⟩
  .exact bd (It.tail L6.out c1 rfl) ((h.low c0).trans g5)
  have l0:=c0.trans k9;have m0:=f1.le;have l1:=hid (It.tail L6.out c1 rfl);exact okI l1.out f1 l0
 | true=>
 have n3:=a0c b1
 have d2:sees V (p+1) a0l=false:=by rw[b1] at a2;simpa using a2
 have L5:=hid (It.seT L4.out b1 rfl);have L6:=hid (It.seF L5.out d2 rfl);go_wp2_with fail;refine(a3l (n:=m) hV a1g hE gE f0 (by omega) (by omega)).mono ?_;intro e r7 g6;rcases g6.cs with⟨r8,b2,rfl,g7⟩ | ⟨r9,s0,s1,b2,rfl,f2,l2⟩
 .exact bd (It.tail L6.out b2 rfl) ((h.low c0).trans g7)
 have n4:=(a2p gE) _ _ _ _ _ b2;have l3:=c0.trans l2;have m1:=f2.le;have l4:=hid (It.tail L6.out b2 rfl);exact okI l4.out f2 l3
end
end Go.Proofs.YtphmpkpcamgjeaaGreatDoor
namespace Go.Proofs.YtphmpkpcamgjeaaGreatDoor
open Go.ChangeShapes Go.WideShapes Go.ChangeAt Go.RowKit Go.Proofs.Tryz
open Go.Maps
section
variable {V : Env} {Mx : DataW Unit} {r B : Nat} {D : Nat -> Prop} {w : World} {p : Nat} {o : List Nd} {m : Nat} {E Q : M Int}
theorem a7F {b:Nat} {v:Value} {ks ks2:List Int} {ka:Option Addr} {kn kc:Nat} (pk:PI V Mx r B D b w p o v ks) (hk:KS w (.slice ka kn kc) ks2) (hl:ks.length+ks2.length<=100000) :
 ∃ na nn nc w',(Builtin.append_ #[37,37] 37 #[v,.slice ka kn kc]).run prog w=.ok (.slice na nn nc) w'/\PI V Mx r B D b w' p o (.slice na nn nc) (ks++ks2)/\(∀ w0,Sp 4 r w0 w->w0.heap.size<=b->Sp 4 r w0 w')/\w.grownBy w' v.ownBlock:=by
 obtain⟨i0,hi,a1,a2,a3⟩:=info_parts b1K;obtain⟨⟨a',c',he,hh⟩,_⟩:=hk;simp only[Value.slice.injEq] at he;obtain⟨rfl,rfl,rfl⟩:=he;rcases Nat.eq_zero_or_pos ks2.length with h0 | hp
 .have hks:ks2=[]:=List.length_eq_zero_iff.1 h0;subst hks
  have a0:∀ W,(Go.sizeOf 3).run prog W=.ok i0.size W:=fun W=>by simp[Go.sizeOf,typeInfo,hi]
  obtain⟨na,nn,nc,rfl⟩:=a1J pk.row;refine⟨na,nn,nc,w,?_,by simpa using pk,fun w0 s _=>s,⟨rfl,rfl,rfl,Nat.le_refl _,fun _ _ _=>rfl⟩⟩;obtain⟨_,h2⟩:=pk.row;rcases h2 with⟨e,_⟩ | ⟨g,cap,cur,e,_,_,hnc,_⟩
  .cases e
   cases ka with
   | none=>simp[Builtin.append_,run_underlying underlying37,a0,Builtin.lenOf,Builtin.firstCells]
   | some a=>
   simp[Builtin.append_,run_underlying underlying37,a0,Builtin.lenOf,Builtin.firstCells,loadCells,loadCellsFrom]
  cases e
  cases ka with
  | none=>simp[Builtin.append_,run_underlying underlying37,a0,Builtin.lenOf,Builtin.firstCells,hnc,storeCells]
  | some a=>
  simp[Builtin.append_,run_underlying underlying37,a0,Builtin.lenOf,Builtin.firstCells,hnc,loadCells,loadCellsFrom,storeCells]
 obtain⟨g,q,e2,_,_,h3⟩:=hh hp;subst e2
 obtain⟨v',w',hrun,hown,hgrow,_,hat⟩:=run_append_own_at (P:=prog) w b 37 37 3 i0 _ 1 8 underlying37 hi a1 a2 a3 rfl (by omega) v ks.length (kidC ks) pk.row ⟨g,q,none⟩ ks2.length kc (kidC ks2) (by simp[kidC]) (fun j u hj=>by
  rw[Addr.add_lit]
  have hjl:j<ks2.length:=by
   have:=(List.getElem?_eq_some_iff.1 hj).1;simpa[kidC] using this
  obtain⟨cs,hc,h6⟩:=h3 j hjl;unfold CI at hc;subst hc;have:=h6 0 (by omega);simp[kidC,List.getElem?_eq_getElem hjl] at hj;rw[<- hj]
  simpa using this) (by simp[kidC,Value.oneCell']) (by unfold maxLen;omega) (by omega) pk.bl
 have hsz:=hgrow.size;obtain⟨na,nn,nc,rfl⟩:=a1J hown;refine⟨na,nn,nc,w',hrun,⟨?_,?_,by have:=pk.bl;omega⟩,fun w0 s a4=>s.grow hgrow (fun g hg=>Nat.le_trans a4 (a2Y pk.row hg)),hgrow⟩
 .refine pk.sm.growD (fun g hg=>?_) (fun g a6 a5=>?_) hgrow (fun g hg=>⟨.inr hg,a0n pk.row hg⟩)
  .rcases hg with z | z
   .have:=pk.sm.dl g (.inl z);omega
   exact a0x (a0n hown z)
  rcases a5 with z | z
  .exact .inl z
  rcases hat with z2 | z2
  .exact .inr (z2 ▸ z)
  rw[z] at z2
  have:g=w.heap.size:=by simpa using z2
  omega
 rw[show(ks++ks2).length=ks.length+ks2.length by simp,show kidC (ks++ks2)=kidC ks++kidC ks2 by simp[kidC]];exact hown
end
end Go.Proofs.YtphmpkpcamgjeaaGreatDoor
namespace Go.Proofs.YtphmpkpcamgjeaaGreatDoor
open Go.ChangeShapes Go.WideShapes Go.ChangeAt Go.RowKit Go.Proofs.Tryz
open Go.Maps
section
variable {V : Env} {Mx : DataW Unit} {r B : Nat} {D : Nat -> Prop} {w : World} {p : Nat} {o : List Nd} {m : Nat} {E Q : M Int}
theorem b5k {C:M Int} (hV:IV V Mx) (hC:a0p V Mx 220 (m+1) C) (gC:Gro 999 C) (l ps:Int) (h:IM V Mx r B D w p o) (hn:V.ts.length-p<m+1) (hl:o.length<=1000*p+500) :
 Calls prog 221 #[.pointer (some ⟨r,0,none⟩),.agg (ndA { op:=0,pos:=ps } (.slice none 0 0)),.int .i64 l] w fun e w'=>IPost V Mx r B D vInt (isF V C l ps p o) w e w':=by
 have hT:=hV.n;have hle:=h.le;obtain⟨F0,L0⟩:=hidEq (isF V C l ps p o);rw[<- L0.out];go_enter func221,ntmps221;have b6:=NI.new h { op:=0,pos:=ps };have e7:=h.sp.alloc (.cells (ndA { op:=0,pos:=ps } (.slice none 0 0)) 42);have e8:=h.alloc (.cells (ndA { op:=0,pos:=ps } (.slice none 0 0)) 42);have ng_n:w.heap.size<=w.heap.size:=h.sp.size;have e9:=h.sp.trans e7;go_wp2_with fail;refine(a3j hV e8 a1t).mono ?_;rintro e h3 ⟨rfl,c0,c1⟩;have g5:=a5z (sees V p a1t);have a1:=b6.step c1;have f0:=e9.trans c1;have g6:=c0.le;obtain⟨nb,hnb⟩:∃ nb,nb=bit (sees V p a1t):=⟨_,rfl⟩;rw[<- hnb];have HNB:=hid hnb;clear hnb
 have L1:=hid (show F0=(if sees V (p+stp (sees V p a1t)) a1h then lay { op:=6,n:=nb,kids:=[l],pos:=ps } ((p+stp (sees V p a1t))+1) o else(must V a0m (p+stp (sees V p a1t)) o).bind fun _ q o=>(must V a2z q o).bind fun _ q o=>(C q o).bind fun m q o=>lay { op:=7,n:=nb,kids:=[l,m],pos:=ps } q o) from by rw[HNB.out];exact L0.out);generalize hqq:p+stp (sees V p a1t)=qq at *
 have hqp:p<=qq:=by omega
 clear hqq;obtain⟨d0,d1,d2,d3,d4,d5,d6,d7,d8,d9⟩:=a1.cells;have dz:=a1.fz;have b0:=a1.set 3 (.int .i64 nb) { op:=0,n:=nb,pos:=ps } rfl;have f1:=a1.im c0 3 (.int .i64 nb);have c2:=f0.set (j:=3) (.int .i64 nb) ng_n;go_wp2_with fail;refine(a1m hV f1 a1h).mono ?_;clear d0 d1 d2 d3 d4 d5 d6 d7 d8 d9 dz;rintro e c3 ⟨rfl,a3,b3⟩
 cases a5:sees V qq a1h with
 | true=>
  rw[a5] at a3;replace a3:IM V Mx r B _ c3 (qq+1) o:=a3;have a0:=b0.step b3;have a9:=c2.trans b3;have L2:=hid (It.seT L1.out a5 rfl);have g8:=a0c a5;obtain⟨d0,d1,d2,d3,d4,d5,d6,d7,d8,d9⟩:=a0.cells;have dz:=a0.fz;have f2:=a0.im a3 0 (.int .i64 6);have f3:=a9.set (j:=0) (.int .i64 6) ng_n;go_wp2_with fail;clear d0 d1 d2 d3 d4 d5 d6 d7 d8 d9 dz;refine(addZ f2 (by omega) ({ op:=6,n:=nb,kids:=[l],pos:=ps }:Nd) (by simp)).mono ?_;rintro e h4 ⟨rfl,c4,f4⟩;have f5:=f3.trans f4;have f6:=hid (It.done L2.out rfl);have g9:=c4.ol;exact okI f6.out c4 f5
 | false=>
 rw[a5] at a3;replace a3:IM V Mx r B _ c3 qq o:=a3;have a0:=b0.step b3;have a9:=c2.trans b3;have L2:=hid (It.seF L1.out a5 rfl);go_wp2_with fail;refine(a4E hV a3 [a0m,a2z] (by simp)).mono ?_;intro e h5 a4
 cases a6:sees V qq a0m with
 | false=>
  rw[show a1q V [a0m,a2z] qq o=.bad qq by simp[a1q,must,a6,R.bind_bad]] at a4;obtain⟨rfl,b4⟩:=a4;exact bd (It.mustF L2.out a6 rfl) ((h.low a9).trans b4)
 | true=>
 have b7:=hid (It.mustT L2.out a6 rfl)
 cases a7:sees V (qq+1) a2z with
 | false=>
  rw[show a1q V [a0m,a2z] qq o=.bad (qq+1) by simp[a1q,must,a6,a7,R.bind_bad,R.bind_ok]] at a4;obtain⟨rfl,b4⟩:=a4;exact bd (It.mustF b7.out a7 rfl) ((h.low a9).trans b4)
 | true=>
 rw[show a1q V [a0m,a2z] qq o=.ok () (qq+1+1) o by simp[a1q,must,a6,a7,R.bind_ok]] at a4;obtain⟨rfl,f7,c5⟩:=a4;have a2:=a0.step c5;have f8:=a9.trans c5;have b8:=hid (It.mustT b7.out a7 rfl);have h0:=a0c a7;obtain⟨d0,d1,d2,d3,d4,d5,d6,d7,d8,d9⟩:=a2.cells;have dz:=a2.fz;have b1:=a2.set 0 (.int .i64 7) { op:=7,n:=nb,pos:=ps } rfl;have c6:=a2.im f7 0 (.int .i64 7);have f9:=f8.set (j:=0) (.int .i64 7) ng_n;have e0:=hid b1.cells;go_wp2
 refine a0a (S:=(fun W=>W.cell? ⟨w.heap.size,0,none⟩=some (.int .i64 7)/\W.cell? ⟨w.heap.size,1,none⟩=some (.string ⟨#[]⟩)/\W.cell? ⟨w.heap.size,2,none⟩=some (.string ⟨#[]⟩)/\W.cell? ⟨w.heap.size,3,none⟩=some (.int .i64 nb)/\W.cell? ⟨w.heap.size,4,none⟩=some (.int .i64 0)/\W.cell? ⟨w.heap.size,5,none⟩=some (.int .i64 0)/\W.cell? ⟨w.heap.size,6,none⟩=some (.int .i64 0)/\W.cell? ⟨w.heap.size,7,none⟩=some (.string ⟨#[]⟩)/\W.cell? ⟨w.heap.size,8,none⟩=some (.slice none 0 0)/\W.cell? ⟨w.heap.size,9,none⟩=some (.int .i64 ps))) (late:=[6,7]) (by kernel_rfl) (by first | exact e0.out | go_keep) (fun hHeld=>?_);refine tT 0 rfl hHeld ?_
 try simp only[Act.put,q1,q2,q3]
 refine tL 1 rfl hHeld ?_
 try simp only[Act.put,q1,q2,q3]
 refine tT 2 rfl hHeld ?_
 try simp only[Act.put,q1,q2,q3]
 refine tT 3 rfl hHeld ?_
 try simp only[Act.put,q1,q2,q3]
 have e1:=c6.below ((Below.refl _ _).drew);have b9:=f9.drew;have e2:=b1.step (c6.sp.drew);refine rE 4 rfl fun K hK=>?_;go_simp;refine(hC e1 (by omega) (by omega)).mono ?_;intro e h6 e3;rcases e3.cs with⟨h7,a8,rfl,e4⟩ | ⟨c7,h8,h9,a8,rfl,b5,c8⟩
 .have e5:=hid (It.bad b8.out a8 rfl);have e6:=(h.low b9).trans e4;go_simp;exact⟨rfl,IPost.bad e5.out rfl e6⟩
 have h1:=gC _ _ _ _ _ a8;have b2:=e2.step c8;have g0:=b9.trans c8;have g7:=b5.le;have g1:=hid (It.ok b8.out a8 rfl);refine hK _ _ ⟨b2.cells,?_⟩;clear hK K
 try simp only[Act.put,q1,q2,q3]
 refine rE 5 rfl fun K hK=>?_;go_simp;refine hK _ _ ⟨(b2.step (b5.sp.alloc (.cells #[.int .i64 l,.int .i64 c7] 3))).cells,?_⟩;clear hK K
 try simp only[Act.put,q1,q2,q3]
 refine rL 6 rfl fun K hK=>?_;go_simp;refine(addZ b5 (by omega) ({ op:=7,n:=nb,kids:=[l,c7],pos:=ps }:Nd) (by simp)).mono ?_;rintro e i0 ⟨rfl,c9,g2⟩;have g3:=g0.trans g2;have g4:=hid (It.done g1.out rfl);have h2:=c9.ol;refine hK _ _ ?_;clear hK K
 try simp only[Act.put,q1,q2,q3]
 refine rL 7 rfl fun K hK=>?_;go_simp;refine hK _ _ ?_;clear hK K
 try simp only[Act.put,q1,q2,q3]
 refine a0h (by kernel_rfl) ?_ _;exact okI g4.out c9 g3
end
end Go.Proofs.YtphmpkpcamgjeaaGreatDoor
namespace Go.Proofs.YtphmpkpcamgjeaaGreatDoor
open Go.ChangeShapes Go.WideShapes Go.ChangeAt Go.RowKit Go.Proofs.Tryz
open Go.Maps
theorem b3v {V:Env} {E:M Int} {q:Nat} {o:List Nd} {β:Type} {K:Int->Nat->List Nd->R β} (h:sees V q g_lp=true):(inB V E q o).bind K=(E (q+1) o).bind fun k p o=>(must V g_rp p o).bind fun _ p o=>K k p o:=by
 unfold inB;rw[show must V g_lp q o=.ok () (q+1) o by simp[must,h],R.bind_ok]
 cases E (q+1) o with
 | bad t=>rfl
 | ok ks t u=>
 rw[R.bind_ok,R.bind_ok]
 cases must V g_rp t u<;>rfl
section
variable {V : Env} {Mx : DataW Unit} {r B : Nat} {D : Nat -> Prop} {w : World} {p : Nat} {o : List Nd} {m : Nat} {E Q : M Int}
theorem b5l (hV:IV V Mx) (hE:a0p V Mx 147 m E) (gE:Gro 999 E) (hQ:a0p V Mx 78 m Q) (gQ:Gro 900 Q) (l nt ps:Int) (h:IM V Mx r B D w p o) (hn:V.ts.length-p<m+1) (hl:o.length<=1000*p+500) :
 Calls prog 222 #[.pointer (some ⟨r,0,none⟩),.agg (ndA { op:=0,n:=nt,pos:=ps } (.slice none 0 0)),.int .i64 l] w fun e w'=>IPost V Mx r B D vInt (inF V E Q l nt ps p o) w e w':=by
 have hmf:=@mkf;have hT:=hV.n;have hle:=h.le;obtain⟨F0,L0⟩:=hidEq (inF V E Q l nt ps p o);rw[<- L0.out];go_enter func222,ntmps222;have c4:=NI.new h { op:=0,n:=nt,pos:=ps };have h0:=h.sp.alloc (.cells (ndA { op:=0,n:=nt,pos:=ps } (.slice none 0 0)) 42);have b9:=h.alloc (.cells (ndA { op:=0,n:=nt,pos:=ps } (.slice none 0 0)) 42);have ng_n:w.heap.size<=w.heap.size:=h.sp.size;have h1:=h.sp.trans h0;go_wp2_with fail;refine(a7C hV b9 g_lp a0l).mono ?_;rintro e h2 ⟨rfl,c9⟩;have e0:=b9.spB c9;have e1:=b9.below c9;have a0:=c4.step e0;have e2:=h1.trans e0
 cases a1:(sees V p g_lp&&sees V (p+1) a0l) with
 | true=>
  have a2:sees V p g_lp=true:=by simp only[Bool.and_eq_true] at a1;exact a1.1
  have c8:sees V (p+1) a0l=true:=by simp only[Bool.and_eq_true] at a1;exact a1.2
  have m7:=a0c a2;have L1:=hid (It.mustT L0.out a2 rfl);have L2:=hid (It.seT L1.out c8 rfl);have L3:=hid (show F0=(inB V Q p o).bind (fun k p o=>lay { op:=9,n:=nt,kids:=[l,k],pos:=ps } p o) from L2.out.trans (b3v a2).symm);obtain⟨d0,d1,d2,d3,d4,d5,d6,d7,d8,d9⟩:=a0.cells;have dz:=a0.fz;have b0:=a0.set 0 (.int .i64 9) { op:=9,n:=nt,pos:=ps } rfl;have e3:=a0.im e1 0 (.int .i64 9);have h3:=e2.set (j:=0) (.int .i64 9) ng_n;have f4:=hid b0.cells;go_wp2
  refine a0a (S:=(fun W=>W.cell? ⟨w.heap.size,0,none⟩=some (.int .i64 9)/\W.cell? ⟨w.heap.size,1,none⟩=some (.string ⟨#[]⟩)/\W.cell? ⟨w.heap.size,2,none⟩=some (.string ⟨#[]⟩)/\W.cell? ⟨w.heap.size,3,none⟩=some (.int .i64 nt)/\W.cell? ⟨w.heap.size,4,none⟩=some (.int .i64 0)/\W.cell? ⟨w.heap.size,5,none⟩=some (.int .i64 0)/\W.cell? ⟨w.heap.size,6,none⟩=some (.int .i64 0)/\W.cell? ⟨w.heap.size,7,none⟩=some (.string ⟨#[]⟩)/\W.cell? ⟨w.heap.size,8,none⟩=some (.slice none 0 0)/\W.cell? ⟨w.heap.size,9,none⟩=some (.int .i64 ps))) (late:=[8,9]) (by kernel_rfl) (by first | exact f4.out | go_keep) (fun hHeld=>?_);refine tT 0 rfl hHeld ?_
  try simp only[Act.put,q1,q2,q3]
  refine tL 1 rfl hHeld ?_
  try simp only[Act.put,q1,q2,q3]
  refine tT 2 rfl hHeld ?_
  try simp only[Act.put,q1,q2,q3]
  refine tT 3 rfl hHeld ?_
  try simp only[Act.put,q1,q2,q3]
  refine tT 4 rfl hHeld ?_
  try simp only[Act.put,q1,q2,q3]
  refine tT 5 rfl hHeld ?_
  try simp only[Act.put,q1,q2,q3]
  have f5:=e3.below ((Below.refl _ _).drew);have c5:=h3.drew;have f6:=b0.step (e3.sp.drew);refine rE 6 rfl fun K hK=>?_;go_simp;refine(a3l (n:=m) hV a4s hQ gQ f5 (by omega) (by omega)).mono ?_;intro e l1 f7;rcases f7.cs with⟨l2,a5,rfl,f8⟩ | ⟨e4,l3,l4,a5,rfl,c0,e5⟩
  .have f9:=hid (It.bad L3.out a5 rfl);have g0:=(h.low c5).trans f8;go_simp;exact⟨rfl,IPost.bad f9.out rfl g0⟩
  have j9:=(a2p gQ) _ _ _ _ _ a5;have b1:=f6.step e5;have h4:=c5.trans e5;have j6:=c0.le;have h5:=hid (It.ok L3.out a5 rfl);refine hK _ _ ⟨b1.cells,?_⟩;clear hK K
  try simp only[Act.put,q1,q2,q3]
  refine rE 7 rfl fun K hK=>?_;go_simp;refine hK _ _ ⟨(b1.step (c0.sp.alloc (.cells #[.int .i64 l,.int .i64 e4] 3))).cells,?_⟩;clear hK K
  try simp only[Act.put,q1,q2,q3]
  refine rL 8 rfl fun K hK=>?_;go_simp;refine(addZ c0 (by omega) ({ op:=9,n:=nt,kids:=[l,e4],pos:=ps }:Nd) (by simp)).mono ?_;rintro e l5 ⟨rfl,e6,h6⟩;have h7:=h4.trans h6;have h8:=hid (It.done h5.out rfl);have k0:=e6.ol;refine hK _ _ ?_;clear hK K
  try simp only[Act.put,q1,q2,q3]
  refine rL 9 rfl fun K hK=>?_;go_simp;refine hK _ _ ?_;clear hK K
  try simp only[Act.put,q1,q2,q3]
  refine a0h (by kernel_rfl) ?_ _;exact okI h8.out e6 h7
 | false=>
 have gl:=a1d (V:=V) gE (by omega)
 have L1:=hid (show F0=(a1E V E p o).bind (fun ks p o=>lay { op:=8,n:=nt,kids:=l::ks,pos:=ps } p o) from by
  cases a2:sees V p g_lp with
  | true=>
   have c8:sees V (p+1) a0l=false:=by rw[a2] at a1;simpa using a1
   rw[a5C a2];exact It.seF (It.mustT L0.out a2 rfl) c8 rfl
  | false=>
  rw[show a1E V E p o=.bad p by simp[a1E,must,a2,R.bind_bad],R.bind_bad];exact It.mustF L0.out a2 rfl)
 obtain⟨d0,d1,d2,d3,d4,d5,d6,d7,d8,d9⟩:=a0.cells;have dz:=a0.fz;have b2:=a0.set 0 (.int .i64 8) { op:=8,n:=nt,pos:=ps } rfl;have e7:=a0.im e1 0 (.int .i64 8);have h9:=e2.set (j:=0) (.int .i64 8) ng_n;have g1:=hid b2.cells;go_wp2;generalize (h2.setCell ⟨w.heap.size,0,none⟩ (.int .i64 8))=W9 at *;clear d0 d1 d2 d3 d4 d5 d6 d7 d8 d9 dz
 refine a0a (S:=(fun W=>W.cell? ⟨w.heap.size,0,none⟩=some (.int .i64 8)/\W.cell? ⟨w.heap.size,1,none⟩=some (.string ⟨#[]⟩)/\W.cell? ⟨w.heap.size,2,none⟩=some (.string ⟨#[]⟩)/\W.cell? ⟨w.heap.size,3,none⟩=some (.int .i64 nt)/\W.cell? ⟨w.heap.size,4,none⟩=some (.int .i64 0)/\W.cell? ⟨w.heap.size,5,none⟩=some (.int .i64 0)/\W.cell? ⟨w.heap.size,6,none⟩=some (.int .i64 0)/\W.cell? ⟨w.heap.size,7,none⟩=some (.string ⟨#[]⟩)/\W.cell? ⟨w.heap.size,8,none⟩=some (.slice none 0 0)/\W.cell? ⟨w.heap.size,9,none⟩=some (.int .i64 ps))) (late:=[9,10]) (by kernel_rfl) (by first | exact g1.out | go_keep) (fun hHeld=>?_);refine tT 0 rfl hHeld ?_
 try simp only[Act.put,q1,q2,q3]
 refine tL 1 rfl hHeld ?_
 try simp only[Act.put,q1,q2,q3]
 refine tT 2 rfl hHeld ?_
 try simp only[Act.put,q1,q2,q3]
 refine tT 4 rfl hHeld ?_
 try simp only[Act.put,q1,q2,q3]
 refine tT 5 rfl hHeld ?_
 try simp only[Act.put,q1,q2,q3]
 refine tT 6 rfl hHeld ?_
 try simp only[Act.put,q1,q2,q3]
 have b4:=e7.below ((Below.refl _ _).drew);have a6:=h9.drew;have c6:=b2.step (e7.sp.drew);refine a4A (rs:=[3,7]) (by kernel_rfl) (by simp) (TillAll.cons rfl (fun K hK=>?_) (TillAll.cons rfl (fun K hK=>?_) TillAll.nil))
 .go_simp;have fl:=PI.lit b4 (b:=w.heap.size) a6.size [l] (by simp) (by simp);have sl:=a6.alloc (.cells #[.int .i64 l] 3);have nl:=c6.step (b4.sp.alloc (.cells #[.int .i64 l] 3));refine hK _ _ ⟨nl.cells,?_⟩;clear hK K
  try simp only[Act.put,q1,q2,q3]
  refine rE 7 rfl fun K hK=>?_;go_simp;refine(a1v (n:=m) hV a1g hE gE (by omega) (by omega) fl.sm (by omega) (by omega)).mono ?_;intro e l6 a7
  cases a3:a1E V E p o with
  | bad l7=>
   rw[a3] at a7;obtain⟨rfl,g2⟩:=a7;have g3:=hid (It.bad L1.out a3 rfl);have g4:=(h.low sl).trans g2;go_simp;exact⟨rfl,IPost.bad g3.out rfl g4⟩
  | ok i0 l8 l9=>
  rw[a3] at a7;obtain⟨k1,k2,rfl,c1,c2,k3⟩:=a7;have k4:=gl _ _ _ _ _ a3;have j7:=c1.sm.le;have a8:=nl.step c2;have i1:=sl.trans c2;have i2:=hid (It.ok L1.out a3 rfl);have fm:=fl.step c1.out c2;refine hK _ _ ⟨a8.cells,?_⟩;clear hK K
  try simp only[Act.put,q1,q2,q3]
  obtain⟨na,nn,nc,m0,b7,e8,i3,b5⟩:=a7F fm c1.kids (by simp;omega);have g5:=a8.of b5.size (b5.block w.heap.size (a8.nb.1) (fun e=>a0t a8.tg (a0n fm.row e.symm) (by decide) rfl)) (b5.block r fm.sm.rl (fun e=>a0t fm.sm.rt (a0n fm.row e.symm) (by decide) rfl));refine rE 8 rfl fun K hK=>?_;refine a0e rfl (.tmp 24) (.tmp 28) 37 rfl _ _ rfl rfl _ _ b7 ?_;refine hK _ _ ⟨g5.cells,?_⟩;clear hK K b7
  try simp only[Act.put,q1,q2,q3]
  have i4:=i3 w i1 (Nat.le_refl _);refine rL 9 rfl fun K hK=>?_;go_simp;refine(add_any e8.out (by omega) ({ op:=8,n:=nt,kids:=(l::i0),pos:=ps }:Nd) _ e8.kids (by simp;omega)).mono ?_;rintro e m1 ⟨rfl,e9,i5⟩;have i6:=i4.trans i5;have i7:=hid (It.done i2.out rfl);have k5:=e9.ol;refine hK _ _ ?_;clear hK K
  try simp only[Act.put,q1,q2,q3]
  refine rL 10 rfl fun K hK=>?_;go_simp;refine hK _ _ ?_;clear hK K
  try simp only[Act.put,q1,q2,q3]
  refine a0h (by kernel_rfl) ?_ _;exact okI i7.out e9 i6
 go_simp;refine(a1v (n:=m) hV a1g hE gE (by omega) (by omega) b4 (by omega) (by omega)).mono ?_;intro e c3 a9
 cases a4:a1E V E p o with
 | bad m2=>
  rw[a4] at a9;obtain⟨rfl,g6⟩:=a9;have g7:=hid (It.bad L1.out a4 rfl);have g8:=(h.low a6).trans g6;go_simp;exact⟨rfl,IPost.bad g7.out rfl g8⟩
 | ok i8 m3 m4=>
 rw[a4] at a9;obtain⟨k6,k7,rfl,b3,f0,k8⟩:=a9;have k9:=gl _ _ _ _ _ a4;have j8:=b3.sm.le;have c7:=c6.step f0;have f1:=a6.trans f0;have i9:=hid (It.ok L1.out a4 rfl);refine hK _ _ ⟨c7.cells,?_⟩;clear hK K
 try simp only[Act.put,q1,q2,q3]
 refine rE 3 rfl fun K hK=>?_;go_simp;have fl:=PI.lit b3.out (b:=w.heap.size) f1.size [l] (by simp) (by simp);have j5:=b3.kids.keep (by simp:c3.heap.size<=(c3.alloc (.cells #[.int .i64 l] 3)).heap.size) (fun g hg=>(below_alloc c3 (.cells #[.int .i64 l] 3)).block g (a0x hg));have sl:=f1.alloc (.cells #[.int .i64 l] 3);have nl:=c7.step (b3.out.sp.alloc (.cells #[.int .i64 l] 3));refine hK _ _ ⟨nl.cells,?_⟩;clear hK K
 try simp only[Act.put,q1,q2,q3]
 obtain⟨na,nn,nc,m5,b8,f2,j0,b6⟩:=a7F fl j5 (by simp;omega);have g9:=nl.of b6.size (b6.block w.heap.size (nl.nb.1) (fun e=>a0t nl.tg (a0n fl.row e.symm) (by decide) rfl)) (b6.block r fl.sm.rl (fun e=>a0t fl.sm.rt (a0n fl.row e.symm) (by decide) rfl));refine rE 8 rfl fun K hK=>?_;refine a0e rfl (.tmp 24) (.tmp 28) 37 rfl _ _ rfl rfl _ _ b8 ?_;refine hK _ _ ⟨g9.cells,?_⟩;clear hK K b8
 try simp only[Act.put,q1,q2,q3]
 have j1:=j0 w sl (Nat.le_refl _);refine rL 9 rfl fun K hK=>?_;go_simp;refine(add_any f2.out (by omega) ({ op:=8,n:=nt,kids:=(l::i8),pos:=ps }:Nd) _ f2.kids (by simp;omega)).mono ?_;rintro e m6 ⟨rfl,f3,j2⟩;have j3:=j1.trans j2;have j4:=hid (It.done i9.out rfl);have l0:=f3.ol;refine hK _ _ ?_;clear hK K
 try simp only[Act.put,q1,q2,q3]
 refine rL 10 rfl fun K hK=>?_;go_simp;refine hK _ _ ?_;clear hK K
 try simp only[Act.put,q1,q2,q3]
 refine a0h (by kernel_rfl) ?_ _;exact okI j4.out f3 j3
end
end Go.Proofs.YtphmpkpcamgjeaaGreatDoor
