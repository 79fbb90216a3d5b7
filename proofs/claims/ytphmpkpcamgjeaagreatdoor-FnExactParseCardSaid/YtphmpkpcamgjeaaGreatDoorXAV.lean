import Derived.Test.YtphmpkpcamgjeaaGreatDoorXAU
import Derived.Test.YtphmpkpcamgjeaaGreatDoorXAA
set_option linter.unusedVariables false
set_option linter.unusedSimpArgs false
set_option maxRecDepth 100000
set_option maxHeartbeats 16000000
namespace Go.Proofs.YtphmpkpcamgjeaaGreatDoor
section
variable {V : Env} {E Q : M Int}
theorem b0P (hE:Gro 999 E) (d ps:Int) (ks:List Int):Gr0 1 (sel5 V E d ps ks):=fun p o a q o' h=>by
 unfold sel5 at h;simp only[R.bind_iff,a0y] at h;obtain⟨b,s,u,h1,rfl,rfl,rfl⟩:=h;have e1:=a1j hE _ _ _ _ _ _ _ _ h1;simp;try omega
theorem b5b (hE:Gro 999 E) (d ps:Int) (ks:List Int):Gr0 1 (sel4 V E d ps ks):=fun p o a q o' h=>by
 unfold sel4 at h;simp only[R.bind_iff,a0y,a0o,a0E] at h;rcases h with⟨_,_,_,_,⟨_,rfl,rfl⟩,b,s,u,h1,_,_,_,⟨rfl,rfl,rfl⟩,h2⟩ | ⟨_,h⟩
 .have e1:=a0D hE (by omega) _ _ _ _ _ h1;have e2:=b0P hE _ _ _ _ _ _ _ _ h2;simp at e2;omega
 exact b0P hE _ _ _ _ _ _ _ _ h
theorem b0Q (hE:Gro 999 E) (d ps:Int) (ks:List Int):Gr0 1 (sel3 V E d ps ks):=fun p o a q o' h=>by
 unfold sel3 at h;simp only[R.bind_iff] at h;obtain⟨b,s,u,h1,h2⟩:=h;have e1:=a1j hE _ _ _ _ _ _ _ _ h1;have e2:=b5b hE _ _ _ _ _ _ _ _ h2;omega
theorem b5c (hE:Gro 999 E) (hQ:Gro 900 Q) (d ps:Int) (ks:List Int):Gr0 1 (sel2 V E Q d ps ks):=fun p o a q o' h=>by
 unfold sel2 at h;simp only[R.bind_iff,a0y,a0o] at h;rcases h with⟨_,b,s,u,h1,_,_,_,⟨rfl,rfl,rfl⟩,h2⟩ | ⟨_,h⟩
 .have e1:=a0D (a4n hE hQ) (by omega) _ _ _ _ _ h1;have e2:=b0Q hE _ _ _ _ _ _ _ _ h2;simp at e2;omega
 exact b0Q hE _ _ _ _ _ _ _ _ h
theorem b5d (hE:Gro 999 E) (hQ:Gro 900 Q):Gro 1900 (selF V E Q):=fun p o a q o' h=>by
 unfold selF sel1 at h;simp only[R.bind_iff,a0y,a0E] at h;obtain⟨_,_,_,⟨_,rfl,rfl⟩,b,s,u,h1,_,_,_,⟨rfl,rfl,rfl⟩,h2⟩:=h;have e1:=a0D (a3A hE) (by omega) _ _ _ _ _ h1;have e2:=b5c hE hQ _ _ _ _ _ _ _ _ h2;simp at e2;omega
theorem a4o (hE:Gro 999 E) (hQ:Gro 900 Q):Gro 1900 (a2I V E Q):=fun p o a q o' h=>by
 unfold a2I at h;simp only[a0o] at h;rcases h with⟨_,h⟩ | ⟨_,h⟩
 .have:=a2p hQ _ _ _ _ _ h;omega
 exact b5d hE hQ _ _ _ _ _ h
theorem a7A (hE:Gro 999 E) (hQ:Gro 900 Q):∀ k l,Gr0 0 (bodyL V E Q k l)
 | 0,l=>fun p o a q o' h=>by simp[bodyL] at h
 | k+1,l=>fun p o a q o' h=>by
  have ih:=a7A hE hQ k;unfold bodyL at h;split at h
  .simp at h;obtain⟨rfl,rfl,rfl⟩:=h;omega
  simp only[R.bind_iff] at h;obtain⟨b,s,u,h1,h2⟩:=h;have e1:=a4o hE hQ _ _ _ _ _ h1;have e2:=ih _ _ _ _ _ _ h2;simp at e2;omega
theorem a7B (hE:Gro 999 E) (hQ:Gro 900 Q):Gro 1900 (bodyF V E Q):=fun p o a q o' h=>by
 unfold bodyF at h;simp only[R.bind_iff] at h;obtain⟨b,s,u,h1,h2⟩:=h;have e1:=a4o hE hQ _ _ _ _ _ h1;have e2:=a7A hE hQ _ _ _ _ _ _ _ h2;omega
theorem b0R (k d ps:Int):Gr0 1 (keyE V k d ps):=fun p o a q o' h=>by
 unfold keyE at h;simp only[R.bind_iff,a0y,a0o,a0E] at h;rcases h with⟨_,(⟨_,rfl,rfl,rfl⟩ | ⟨_,_,_,_,⟨_,rfl,rfl⟩,rfl,rfl,rfl⟩)⟩ | ⟨_,rfl,rfl,rfl⟩
 .simp;try omega
 .simp;try omega
 simp
theorem a4p (hE:Gro 999 E):Gro 998 (keyF V E):=fun p o a q o' h=>by
 unfold keyF at h;simp only[R.bind_iff,a0o] at h;obtain⟨b,s,u,h1,h⟩:=h;have e1:=hE _ _ _ _ _ h1;have:=a5z (sees V s b3h);rcases h with⟨_,h⟩ | ⟨_,h⟩
 .have:=b0R _ _ _ _ _ _ _ _ h;omega
 have:=b0R _ _ _ _ _ _ _ _ h;omega
theorem a5f (s:ByteArray):Gr0 0 (numF V s):=fun p o a q o' h=>by
 unfold numF a0X at h;simp only[a0o] at h;rcases h with⟨_,(⟨_,h⟩ | ⟨_,h⟩)⟩ | ⟨_,h⟩
 .simp at h;obtain⟨rfl,rfl,rfl⟩:=h;omega
 .simp at h
 simp at h;obtain⟨rfl,rfl,rfl⟩:=h;omega
theorem b0S (ps:Int) (ks:List Int):Gr0 1 (qry4 ps ks):=fun p o a q o' h=>by
 unfold qry4 at h;simp only[a0y] at h;obtain⟨rfl,rfl,rfl⟩:=h;simp
theorem b0T (ps:Int) (ks:List Int):Gr0 2 (qry3 V ps ks):=fun p o a q o' h=>by
 unfold qry3 at h;simp only[R.bind_iff,a0o,a0y] at h;obtain⟨b,s,u,h1,b2,s2,u2,h2,h⟩:=h;have e1:=a5f _ _ _ _ _ _ h1;have e2:=a5f _ _ _ _ _ _ h2;rcases h with⟨_,_,_,_,⟨rfl,rfl,rfl⟩,h⟩ | ⟨_,h⟩
 .have e3:=b0S _ _ _ _ _ _ _ h;simp at e3;omega
 have e3:=b0S _ _ _ _ _ _ _ h;omega
theorem a6j (hE:Gro 999 E) (hQ:Gro 900 Q):Gro 900 (a2M V E Q):=fun p o a q o' h=>by
 unfold a2M qry2 at h;simp only[R.bind_iff,a0o,a0y,a0E] at h;obtain⟨b,s,u,h1,h⟩:=h;have e1:=a7B hE hQ _ _ _ _ _ h1;rcases h with⟨_,_,_,_,⟨_,rfl,rfl⟩,b2,s2,u2,h2,_,_,_,⟨rfl,rfl,rfl⟩,h⟩ | ⟨_,h⟩
 .have e2:=a0D (a4p hE) (by omega) _ _ _ _ _ h2;have e3:=b0T _ _ _ _ _ _ _ h;simp at e3;omega
 have e3:=b0T _ _ _ _ _ _ _ h;omega
theorem a1k {c:Nat}:Gro c a5S:=fun p o a q o' h=>by simp[a5S] at h
theorem a5A:∀ n,Gro 999 (gr V n).1/\Gro 900 (gr V n).2
 | 0=>⟨a2E a1k a1k,a6j (a2E a1k a1k) a1k⟩
 | n+1=>by
  obtain⟨h1,h2⟩:=a5A n;exact⟨a2E h1 h2,a6j (a2E h1 h2) h2⟩
theorem a2x (hE:Gro 999 E):Gro 999 (a1y V E):=fun p o a q o' h=>by
 unfold a1y at h;simp only[a0o,a0y] at h;rcases h with⟨_,rfl,rfl,rfl⟩ | ⟨_,h⟩
 .simp
 exact hE _ _ _ _ _ h
theorem a2f (hE:Gro 999 E):Gro 1000 (rowF V E):=fun p o a q o' h=>by
 unfold rowF at h;simp only[R.bind_iff,a0y] at h;obtain⟨b,s,u,h1,rfl,rfl,rfl⟩:=h;have:=a1d (a2x hE) (by omega) _ _ _ _ _ h1;simp;try omega
theorem a0O:Gro 999 (a0R V):=fun p o a q o' h=>by
 unfold a0R at h;simp only[R.bind_iff,a0y,a1R] at h;obtain⟨_,_,_,⟨_,rfl,rfl,rfl⟩,rfl,rfl,rfl⟩:=h;simp
theorem a5g (hE:Gro 999 E):Gro 1000 (setF V E):=fun p o a q o' h=>by
 unfold setF at h;simp only[R.bind_iff,a0y,a1R,a0E] at h;obtain⟨_,_,_,⟨_,rfl,rfl,rfl⟩,_,_,_,⟨_,rfl,rfl⟩,b,s,u,h1,rfl,rfl,rfl⟩:=h;have:=a2x hE _ _ _ _ _ h1;simp;try omega
theorem a4D (hE:Gro 999 E) (ps:Int):Gro 1000 (a3r V E ps):=fun p o a q o' h=>by
 unfold a3r at h;simp only[R.bind_iff,a0y] at h;obtain⟨b,s,u,h1,rfl,rfl,rfl⟩:=h;have:=a2p hE _ _ _ _ _ h1;simp;try omega
theorem a6k (op ps:Int):Gro 1000 (a4O V op ps):=fun p o a q o' h=>by
 unfold a4O at h;simp only[R.bind_iff,a0y] at h;obtain⟨b,s,u,h1,rfl,rfl,rfl⟩:=h;have:=a1d a0O (by omega) _ _ _ _ _ h1;simp;try omega
theorem b0U {G:M Int} (hE:Gro 999 E) (hG:Gro 999 G) (s:ByteArray) (kd ps:Int):∀ k a b c ks,Gr0 1 (colL V E G s kd ps k a b c ks)
 | 0,a,b,c,ks=>fun p o x q o' h=>by simp[colL] at h
 | k+1,a,b,c,ks=>fun p o x q o' h=>by
  have ih:=b0U hE hG s kd ps k;simp only[colL,a0o,R.bind_iff,a0E,a0y] at h;rcases h with⟨_,_,_,_,⟨_,rfl,rfl⟩,h⟩ | ⟨_,h⟩
  .have:=ih _ _ _ _ _ _ _ _ _ h;omega
  rcases h with⟨_,_,_,_,⟨_,rfl,rfl⟩,h⟩ | ⟨_,h⟩
  .have:=ih _ _ _ _ _ _ _ _ _ h;omega
  rcases h with⟨_,h⟩ | ⟨_,h⟩
  .have:=ih _ _ _ _ _ _ _ _ _ h;omega
  rcases h with⟨_,b1,s1,u1,h1,h⟩ | ⟨_,h⟩
  .have e1:=hG _ _ _ _ _ h1;have e2:=ih _ _ _ _ _ _ _ _ _ h;simp at e2;omega
  rcases h with⟨_,b1,s1,u1,h1,h⟩ | ⟨_,rfl,rfl,rfl⟩
  .have e1:=a4D hE _ _ _ _ _ _ h1;have e2:=ih _ _ _ _ _ _ _ _ _ h;omega
  simp
theorem a4q {G:M Int} (hE:Gro 999 E) (hG:Gro 999 G):Gro 1000 (a2u V E G):=fun p o a q o' h=>by
 unfold a2u at h;simp only[a0o,R.bind_iff,a0E,a1R] at h;rcases h with⟨_,_,_,_,⟨_,rfl,rfl⟩,h⟩ | ⟨_,h⟩
 .have:=a6k _ _ _ _ _ _ _ h;omega
 rcases h with⟨_,h⟩ | ⟨_,h⟩
 .have:=a6k _ _ _ _ _ _ _ h;omega
 rcases h with⟨_,h⟩ | ⟨_,_,_,_,⟨_,rfl,rfl,rfl⟩,b,s,u,h1,h⟩
 .have:=a4D hE _ _ _ _ _ _ h;omega
 have e1:=a4l _ _ _ _ _ h1;have e2:=b0U hE hG _ _ _ _ _ _ _ _ _ _ _ _ _ h;omega
end
end Go.Proofs.YtphmpkpcamgjeaaGreatDoor
namespace Go.Proofs.YtphmpkpcamgjeaaGreatDoor
open Go.ChangeShapes Go.WideShapes Go.ChangeAt Go.RowKit Go.Proofs.Tryz
open Go.Maps
def a0p (V:Env) (Mx:DataW Unit) (K n:Nat) (F:M Int):Prop:=∀ {r B:Nat} {D:Nat->Prop} {w:World} {p:Nat} {o:List Nd},IM V Mx r B D w p o->V.ts.length-p<n->o.length<=1000*p+500->Calls prog K #[.pointer (some ⟨r,0,none⟩)] w fun e w'=>IPost V Mx r B D vInt (F p o) w e w'
abbrev fv (K r:Nat):Value:=.func (.func K) #[.pointer (some ⟨r,0,none⟩)] #[]
def CF (K:Nat):Prop:=∀ args w,(callFunc K args).run prog w=.ok (.enter K args) w
theorem a3U {K:Nat} (hc:CF K) {o:Oper} {a:Act} {args:Array Value} {w:World} {next:Act->World->Prop} {Q:Exit->Act->World->Prop} (h:Calls prog K args w fun
 | .returned v,w''=>next (a.put o.dst v) w''
 | .panicked chain,w''=>Q (.panic chain) a w''
 | .outgrown,_=>LetsOut Q):Oper.upon prog o a next Q (Sem.run prog (callFunc K args) w):=by
  rw[hc]
  exact h
section
variable {α β : Type} {V : Env} {F G A B : R α} {q : Nat} {o : List Nd} {s : ByteArray}
theorem It.mustT {K:Unit->Nat->List Nd->R α} (h:F=G) (hs:sees V q s=true) (e:G=(must V s q o).bind K):F=K () (q+1) o:=by rw[h,e];simp[must,hs,R.bind_ok]
theorem It.mustF {K:Unit->Nat->List Nd->R α} (h:F=G) (hs:sees V q s=false) (e:G=(must V s q o).bind K):F=.bad q:=by rw[h,e];simp[must,hs,R.bind_bad]
theorem It.seT {c:Bool} (h:F=G) (hs:c=true) (e:G=if c=true then A else B):F=A:=by rw[h,e,if_pos hs]
theorem It.seF {c:Bool} (h:F=G) (hs:c=false) (e:G=if c=true then A else B):F=B:=by rw[h,e,if_neg (by rw[hs];simp)]
theorem It.nameT {K:ByteArray->Nat->List Nd->R α} (h:F=G) (hs:isNm V q=true) (e:G=(name V q o).bind K):F=K (V.tx q) (q+1) o:=by rw[h,e];simp[name,hs,R.bind_ok]
theorem It.nameF {K:ByteArray->Nat->List Nd->R α} (h:F=G) (hs:isNm V q=false) (e:G=(name V q o).bind K):F=.bad q:=by rw[h,e];simp[name,hs,R.bind_bad]
theorem It.ok {H:R β} {K:β->Nat->List Nd->R α} {a:β} {t:Nat} {o1:List Nd} (h:F=G) (hE:H=.ok a t o1) (e:G=H.bind K):F=K a t o1:=by rw[h,e,hE];rfl
theorem It.bad {H:R β} {K:β->Nat->List Nd->R α} {t:Nat} (h:F=G) (hE:H=.bad t) (e:G=H.bind K):F=.bad t:=by rw[h,e,hE];rfl
theorem It.layT {K:Int->Nat->List Nd->R α} {t:Nd} (h:F=G) (e:G=(lay t q o).bind K):F=K (o.length:Int) q (o++[t]):=by rw[h,e];rfl
theorem It.done {F G:R Int} {t:Nd} (h:F=G) (e:G=lay t q o):F=.ok (o.length:Int) q (o++[t]):=by rw[h,e];rfl
theorem It.tail {X:R α} (h:F=G) (hE:A=X) (e:G=A):F=X:=by rw[h,e,hE]
end
section
variable {V : Env} {Mx : DataW Unit} {r B : Nat} {D : Nat -> Prop} {w : World} {p : Nat} {o : List Nd}
theorem IM.ks (h:IM V Mx r B D w p o) {w':World} {v:Value} {ks:List Int} (k:KS w v ks) (s:Sp 4 r w w'):KS w' v ks:=k.keep s.size (fun g hg=>(h.nb hg (by decide) (by decide)).heap s)
theorem b8E {V:Env} {s:ByteArray} {p:Nat} {o:List Nd}:a1q V [s] p o=must V s p o:=by
 unfold a1q a1q must;by_cases h:sees V p s=true
 .simp[h,R.bind_ok]
 simp[h,R.bind_bad]
theorem a3L (hV:IV V Mx) (h:IM V Mx r B D w p o) (s:ByteArray) {z:Nat} (hz:z=w.heap.size:=by first | rfl | (simp;done)) :
    Calls prog 110 #[.pointer (some ⟨r,0,none⟩),.slice (some ⟨z,0,none⟩) 1 1] (w.alloc (.cells #[.string s] 9)) fun e w'=>e=.returned (.bool (sees V p s))/\Below w.heap.size w w':=hz ▸ a7s hV h s
theorem a7C (hV:IV V Mx) (h:IM V Mx r B D w p o) (s t:ByteArray) {z:Nat} (hz:z=w.heap.size:=by first | rfl | (simp;done)) :
    Calls prog 110 #[.pointer (some ⟨r,0,none⟩),.slice (some ⟨z,0,none⟩) 2 2] (w.alloc (.cells #[.string s,.string t] 9)) fun e w'=>e=.returned (.bool (sees V p s&&sees V (p+1) t))/\Below w.heap.size w w':=hz ▸ b3n hV h s t
theorem b8F (hV:IV V Mx) (h:IM V Mx r B D w p o) (s t u:ByteArray) {z:Nat} (hz:z=w.heap.size:=by first | rfl | (simp;done)) :
    Calls prog 110 #[.pointer (some ⟨r,0,none⟩),.slice (some ⟨z,0,none⟩) 3 3] (w.alloc (.cells #[.string s,.string t,.string u] 9)) fun e w'=>e=.returned (.bool (sees V p s&&(sees V (p+1) t&&sees V (p+1+1) u)))/\Below w.heap.size w w':=hz ▸ b3o hV h s t u
theorem a8w (hV:IV V Mx) (h:IM V Mx r B D w p o) (ms:List ByteArray) (hm:ms.length<=10) {z:Nat} (hz:z=w.heap.size:=by first | rfl | (simp;done)) :
    Calls prog 76 #[.pointer (some ⟨r,0,none⟩),.slice (some ⟨z,0,none⟩) ms.length ms.length] (w.alloc (.cells (ms.map Value.string).toArray 9)) fun e w'=>e=.returned (.int .i64 (chN (pick V ms p)))/\IM V Mx r B D w' (p+chS (pick V ms p)) o/\Sp 4 r w w':=hz ▸ a5x hV h ms hm
theorem a3j (hV:IV V Mx) (h:IM V Mx r B D w p o) (s:ByteArray) {z:Nat} (hz:z=w.heap.size:=by first | rfl | (simp;done)) :
 Calls prog 76 #[.pointer (some ⟨r,0,none⟩),.slice (some ⟨z,0,none⟩) 1 1] (w.alloc (.cells #[.string s] 9)) fun e w'=>e=.returned (.int .i64 (bit (sees V p s)))/\IM V Mx r B D w' (p+stp (sees V p s)) o/\Sp 4 r w w':=by
 refine(a8w hV h [s] (by simp) hz).mono ?_;rintro e w' ⟨h1,h2,h3⟩
 cases hs:sees V p s with
 | false=>
  have hp:pick V [s] p=none:=by simp[pick,hs]
  rw[hp] at h1 h2;exact⟨h1,h2,h3⟩
 | true=>
 have hp:pick V [s] p=some 0:=by simp[pick,hs]
 rw[hp] at h1 h2;exact⟨h1,h2,h3⟩
theorem a6l (hV:IV V Mx) (h:IM V Mx r B D w p o) (ms:List ByteArray) (hm:ms.length<=10) {z:Nat} (hz:z=w.heap.size:=by first | rfl | (simp;done)) :
    Calls prog 73 #[.pointer (some ⟨r,0,none⟩),.slice (some ⟨z,0,none⟩) ms.length ms.length] (w.alloc (.cells (ms.map Value.string).toArray 9)) fun e w'=>IPost V Mx r B D vInt (a0Z V ms p o) w e w':=hz ▸ a7t hV h ms hm
theorem a4E (hV:IV V Mx) (h:IM V Mx r B D w p o) (ms:List ByteArray) (hm:ms.length<=10) {z:Nat} (hz:z=w.heap.size:=by first | rfl | (simp;done)) :
    Calls prog 109 #[.pointer (some ⟨r,0,none⟩),.slice (some ⟨z,0,none⟩) ms.length ms.length] (w.alloc (.cells (ms.map Value.string).toArray 9)) fun e w'=>IPost V Mx r B D b7l (a1q V ms p o) w e w':=hz ▸ b1P hV h ms hm
theorem a0u (hV:IV V Mx) (h:IM V Mx r B D w p o) (s:ByteArray) {z:Nat} (hz:z=w.heap.size:=by first | rfl | (simp;done)) :
 Calls prog 109 #[.pointer (some ⟨r,0,none⟩),.slice (some ⟨z,0,none⟩) 1 1] (w.alloc (.cells #[.string s] 9)) fun e w'=>(sees V p s=true/\e=.returned (.tuple #[])/\IM V Mx r B D w' (p+1) o/\Sp 4 r w w')\/(sees V p s=false/\e=.panicked (flt 3 (V.pos p))/\Below B w w'):=by
 refine(a4E hV h [s] (by simp) hz).mono ?_;intro e w' hP;rw[b8E] at hP
 cases hs:sees V p s with
 | false=>
  rw[show must V s p o=.bad p by simp[must,hs]] at hP;exact .inr ⟨rfl,hP.1,hP.2⟩
 | true=>
 rw[show must V s p o=.ok () (p+1) o by simp[must,hs]] at hP;exact .inl ⟨rfl,hP.1,hP.2.1,hP.2.2⟩
theorem a3k (hV:IV V Mx) (h:IM V Mx r B D w p o) :
 Calls prog 75 #[.pointer (some ⟨r,0,none⟩)] w fun e w'=>(isNm V p=true/\e=.returned (.string (V.tx p))/\IM V Mx r B D w' (p+1) o/\Sp 4 r w w')\/(isNm V p=false/\e=.panicked (flt 3 (V.pos p))/\Below B w w'):=by
 refine(a5y hV h).mono ?_;intro e w' hP
 cases hs:isNm V p with
 | false=>
  rw[show name V p o=.bad p by simp[name,hs]] at hP;exact .inr ⟨rfl,hP.1,hP.2⟩
 | true=>
 rw[show name V p o=.ok (V.tx p) (p+1) o by simp[name,hs]] at hP;exact .inl ⟨rfl,hP.1,hP.2.1,hP.2.2⟩
theorem addZ (h:IM V Mx r B D w p o) (hm:o.length<=5000000) (t:Nd) (hkl:t.kids.length<=100000) {z:Nat} (hz:z=w.heap.size:=by first | rfl | (simp;done)) :
 Calls prog 74 #[.pointer (some ⟨r,0,none⟩),.agg (ndA t (.slice none 0 0)),.slice (some ⟨z,0,none⟩) t.kids.length t.kids.length] (w.alloc (.cells (t.kids.map (Value.int .i64)).toArray 3)) fun e w'=>e=.returned (.int .i64 (o.length:Int))/\IM V Mx r B D w' p (o++[t])/\Sp 4 r w w':=by
 subst hz;refine(add_any (h.alloc (.cells (t.kids.map (Value.int .i64)).toArray 3)) hm t _ (KS.new w t.kids) hkl).mono ?_;rintro e w' ⟨h1,h2,h3⟩;exact⟨h1,h2,(h.sp.alloc _).trans h3⟩
theorem add0 (h:IM V Mx r B D w p o) (hm:o.length<=5000000) (t:Nd) (hk:t.kids=[]) :
    Calls prog 74 #[.pointer (some ⟨r,0,none⟩),.agg (ndA t (.slice none 0 0)),.slice none 0 0] w fun e w'=>e=.returned (.int .i64 (o.length:Int))/\IM V Mx r B D w' p (o++[t])/\Sp 4 r w w':=
  add_any h hm t _ (by rw[hk];exact TL.nil _ _ _ _) (by rw[hk];simp)
end
structure NI (r:Nat) (w:World) (g:Nat) (t:Nd):Prop where
  cell:w.heap[g]?=some (.cells (ndA t (.slice none 0 0)) 42 (0,0))
  nb:NB 4 r w g
section
variable {V : Env} {Mx : DataW Unit} {r B : Nat} {D : Nat -> Prop} {w : World} {p : Nat} {o : List Nd} {g : Nat} {t : Nd}
theorem NI.tg (n:NI r w g t):tag w g 42:=⟨_,_,n.cell⟩
theorem NI.step (n:NI r w g t) {w':World} (s:Sp 4 r w w'):NI r w' g t:=⟨(n.nb.heap s).trans n.cell,n.nb.sp s⟩
theorem NI.new (h:IM V Mx r B D w p o) (t:Nd):NI r (w.alloc (.cells (ndA t (.slice none 0 0)) 42)) w.heap.size t:=⟨heap_alloc_new _ _,by simp,fun e=>by have:=h.rl;omega,fun e=>by
 have hs:ob 4 r (w.alloc (.cells (ndA t (.slice none 0 0)) 42))=ob 4 r w:=a3w ((below_alloc w _).block r h.rl);rw[hs] at e;have:=a0x (h.obt e);omega⟩
theorem NI.cells (n:NI r w g t):w.cell? ⟨g,0,none⟩=some (.int .i64 t.op)/\w.cell? ⟨g,1,none⟩=some (.string t.name)/\w.cell? ⟨g,2,none⟩=some (.string t.qual)/\w.cell? ⟨g,3,none⟩=some (.int .i64 t.n)/\w.cell? ⟨g,4,none⟩=some (.int .i64 t.m)/\w.cell? ⟨g,5,none⟩=some (.int .i64 t.vk)/\w.cell? ⟨g,6,none⟩=some (.int .i64 t.vn)/\w.cell? ⟨g,7,none⟩=some (.string t.vs)/\w.cell? ⟨g,8,none⟩=some (.slice none 0 0)/\w.cell? ⟨g,9,none⟩=some (.int .i64 t.pos):=
  ⟨(cell_of n.cell).1,(cell_of n.cell).1,(cell_of n.cell).1,(cell_of n.cell).1,(cell_of n.cell).1,(cell_of n.cell).1,(cell_of n.cell).1,(cell_of n.cell).1,(cell_of n.cell).1,(cell_of n.cell).1⟩
theorem NI.fz (n:NI r w g t) (j:Nat):w.frozen? ⟨g,j,none⟩=false:=(cell_of n.cell).2
theorem NI.set (n:NI r w g t) (j:Nat) (u:Value) (t':Nd) (he:(ndA t (.slice none 0 0)).setIfInBounds j u=ndA t' (.slice none 0 0)):NI r (w.setCell ⟨g,j,none⟩ u) g t':=by
 have hk:∀ c,c≠g->(w.setCell ⟨g,j,none⟩ u).heap[c]?=w.heap[c]?:=fun c hc=>heap_setCell_other w _ c u hc;have hr:(w.setCell ⟨g,j,none⟩ u).heap[r]?=w.heap[r]?:=hk r (fun e=>n.nb.2.1 e.symm);exact⟨by rw[heap_setCell_same w g j _ _ u n.cell,he],by simpa using n.nb.1,n.nb.2.1,fun e=>n.nb.2.2 (by rw[<- a3w hr];exact e)⟩
theorem NI.im (n:NI r w g t) (h:IM V Mx r B D w p o) (j:Nat) (u:Value):IM V Mx r B D (w.setCell ⟨g,j,none⟩ u) p o:=h.setN u n.nb n.tg (by decide) (.inl (by decide))
end
end Go.Proofs.YtphmpkpcamgjeaaGreatDoor
namespace Go.Proofs.YtphmpkpcamgjeaaGreatDoor
open Go.ChangeShapes Go.WideShapes Go.ChangeAt Go.RowKit Go.Proofs.Tryz
open Go.Maps
def IPostL (V:Env) (Mx:DataW Unit) (r B:Nat) (D:Nat->Prop) (F:R (List Int)) (w:World) (e:Ending) (w':World):Prop:=match F with
 | .ok ks q o=>∃ va vc,e=.returned (.slice va ks.length vc)/\PI V Mx r B D w.heap.size w' q o (.slice va ks.length vc) ks/\Sp 4 r w w'/\ks.length<=5000
 | .bad q=>e=.panicked (flt 3 (V.pos q))/\Below B w w'
theorem IPostL.bad {V:Env} {Mx:DataW Unit} {r B:Nat} {D:Nat->Prop} {F:R (List Int)} {w:World} {e:Ending} {w':World} {q:Nat} (hF:F=.bad q) (h1:e=.panicked (flt 3 (V.pos q))) (h2:Below B w w'):IPostL V Mx r B D F w e w':=by
 subst hF;exact⟨h1,h2⟩
theorem IPostL.ok {V:Env} {Mx:DataW Unit} {r B:Nat} {D:Nat->Prop} {F:R (List Int)} {w:World} {e:Ending} {w':World} {ks:List Int} {q:Nat} {o:List Nd} {va:Option Addr} {vc:Nat} (hF:F=.ok ks q o) (h1:e=.returned (.slice va ks.length vc)) (h2:PI V Mx r B D w.heap.size w' q o (.slice va ks.length vc) ks) (h3:Sp 4 r w w') (h4:ks.length<=5000):IPostL V Mx r B D F w e w':=by
 subst hF;exact⟨va,vc,h1,h2,h3,h4⟩
def a8x (V:Env) (f:M Int) (k:Nat) (ks:List Int):M (List Int):=fun q o=>if sees V q a1c then a1w V f k ks (q+1) o else .ok ks q o
theorem b5e {V:Env} {f:M Int} {p q:Nat} {o o1:List Nd} {a:Int} (h:f p o=.ok a q o1):a0F V f p o=a8x V f V.ts.length [a] q o1:=by
 unfold a0F a1w;rw[h];rfl
theorem b3q {V:Env} {f:M Int} {p q:Nat} {o:List Nd} (h:f p o=.bad q):a0F V f p o=.bad q:=by
 unfold a0F a1w;rw[h];rfl
theorem b7o {V:Env} {f:M Int} {k q:Nat} {ks:List Int} {o:List Nd} (hs:sees V q a1c=true) (hk:V.ts.length-q<k):a8x V f k ks q o=(f (q+1) o).bind fun a q o=>a8x V f (k-1) (ks++[a]) q o:=by
 obtain⟨k',rfl⟩:∃ k',k=k'+1:=⟨k-1,by omega⟩;unfold a8x;rw[if_pos hs];rfl
theorem b7p {V:Env} {f:M Int} {k q:Nat} {ks:List Int} {o:List Nd} (hs:sees V q a1c=false) (hk:V.ts.length-q<k):a8x V f k ks q o=.ok ks q o:=by
 unfold a8x;rw[if_neg (by rw[hs];simp)]
def atI (r:Nat) (w:World):Nat:=match w.cell? ⟨r,1,none⟩ with
 | some (.int _ z)=>z.toNat
 | _=>0
theorem IM.atI {V:Env} {Mx:DataW Unit} {r B:Nat} {D:Nat->Prop} {w:World} {p:Nat} {o:List Nd} (h:IM V Mx r B D w p o):atI r w=p:=by
 obtain⟨ta,tc,mb,oa,oc,c0,c1,_⟩:=h.cells;unfold Go.Proofs.YtphmpkpcamgjeaaGreatDoor.atI;rw[c1];simp
section
variable {V : Env} {Mx : DataW Unit} {r B : Nat} {D : Nat -> Prop} {w : World} {p : Nat} {o : List Nd}
theorem a3l {K n:Nat} {F:M Int} {c:Nat} (hV:IV V Mx) (hc:CF K) (hF:a0p V Mx K n F) (hG:Gro c F) (h:IM V Mx r B D w p o) (hn:V.ts.length-p<n+1) (hl:o.length<=1000*p+500) :
 Calls prog 169 #[.pointer (some ⟨r,0,none⟩),fv K r] w fun e w'=>IPost V Mx r B D vInt (inB V F p o) w e w':=by
 have hT:=hV.n;have hle:=h.le;obtain⟨F0,L0⟩:=hidEq (inB V F p o);rw[<- L0.out];go_enter func169,ntmps169;go_wp2_with fail;refine(a0u hV h g_lp).mono ?_;rintro e w1 (⟨a0,rfl,h1,z1⟩ | ⟨a0,rfl,a4⟩)
 rotate_left
 .exact bd (It.mustF L0.out a0 rfl) ((h.low h.sp).trans a4)
 have s1:=h.sp.trans z1;have L1:=hid (It.mustT L0.out a0 rfl);have a9:=a0c a0;go_wp2;refine a3U hc ?_;refine(hF h1 (by omega) (by omega)).mono ?_;intro e w2 a5;rcases a5.cs with⟨t2,a1,rfl,a6⟩ | ⟨a2,q2,o2,a1,rfl,h2,z2⟩
 .exact bd (It.bad L1.out a1 rfl) ((h.low s1).trans a6)
 have b0:=hG _ _ _ _ _ a1;have s2:=s1.trans z2;have a8:=h2.le;have L2:=hid (It.ok L1.out a1 rfl);go_wp2_with fail;refine(a0u hV h2 g_rp).mono ?_;rintro e w3 (⟨a3,rfl,h3,z3⟩ | ⟨a3,rfl,a7⟩)
 rotate_left
 .exact bd (It.mustF L2.out a3 rfl) ((h.low s2).trans a7)
 have s3:=s2.trans z3;have L3:=hid (It.mustT L2.out a3 rfl);have b1:=a0c a3;exact okI L3.out h3 s3
theorem a7D {K K2 n k:Nat} {A:M Int} {c:Nat} {s:ByteArray} {op:Int} (hV:IV V Mx) (hc1:CF K) (hc2:CF K2) (hA:a0p V Mx K2 n A) (hG:Gro c A) (hcc:c<=1000) (hcd:2<=c)
    (hS:∀ {r B:Nat} {D:Nat->Prop} {w:World} {p:Nat} {o:List Nd},IM V Mx r B D w p o->V.ts.length-p<min n k->o.length<=1000*p+500->Calls prog K #[.pointer (some ⟨r,0,none⟩)] w fun e w'=>IPost V Mx r B D vInt (pre V s op A k p o) w e w') (h:IM V Mx r B D w p o) (hn:V.ts.length-p<min n (k+1)) (hl:o.length<=1000*p+500) :
 Calls prog 190 #[.pointer (some ⟨r,0,none⟩),.string s,.int .i64 op,fv K r,fv K2 r] w fun e w'=>IPost V Mx r B D vInt (pre V s op A (k+1) p o) w e w':=by
 have hT:=hV.n;have hle:=h.le;obtain⟨F0,L0⟩:=hidEq (pre V s op A (k+1) p o);rw[<- L0.out];go_enter func190,ntmps190;go_wp2_with fail;refine(a0v hV h).mono ?_;rintro e w4 ⟨rfl,b4⟩;have z4:=h.spB b4;have h4:=h.below b4;have s4:=h.sp.trans z4;go_wp2_with fail;refine(a0N hV h4 s).mono ?_;rintro e w5 (⟨a0,rfl,h5,z5⟩ | ⟨a0,rfl,h5,z5⟩)
 .have s5:=s4.trans z5;have L5:=hid (It.seT L0.out a0 rfl);have b1:=a0c a0;go_wp2;refine a3U hc1 ?_;refine(hS h5 (by omega) (by omega)).mono ?_;intro e w6 a3;rcases a3.cs with⟨t6,a1,rfl,a4⟩ | ⟨a6,q6,o6,a1,rfl,h6,z6⟩
  .exact bd (It.bad L5.out a1 rfl) ((h.low s5).trans a4)
  have b2:=(a6D hG (by omega) k) _ _ _ _ _ a1;have s6:=s5.trans z6;have a9:=h6.le;have L6:=hid (It.ok L5.out a1 rfl);go_wp2_with fail;refine(addZ h6 (by omega) ({ op:=op,kids:=[a6],pos:=V.pos p }:Nd) (by simp)).mono ?_;rintro e w7 ⟨rfl,h7,z7⟩;have s7:=s6.trans z7;have L7:=hid (It.done L6.out rfl);have b3:=h7.ol;exact okI L7.out h7 s7
 have s5:=s4.trans z5;have L5:=hid (It.seF L0.out a0 rfl);go_wp2;refine a3U hc2 ?_;refine(hA h5 (by omega) (by omega)).mono ?_;intro e w8 a5;rcases a5.cs with⟨t8,a2,rfl,a7⟩ | ⟨a8,q8,o8,a2,rfl,h8,z8⟩
 .exact bd (It.tail L5.out a2 rfl) ((h.low s5).trans a7)
 have b5:=hG _ _ _ _ _ a2;have s8:=s5.trans z8;have b0:=h8.le;have L8:=hid (It.tail L5.out a2 rfl);exact okI L8.out h8 s8
theorem a1s {K n:Nat} {F:M Int} {c:Nat} (hV:IV V Mx) (hc:CF K) (hF:a0p V Mx K n F) (hG:Gro c F) (hcc:500<=c) (h:IM V Mx r B D w p o) (hn:V.ts.length-p<n) (hl:o.length<=1000*p+500) :
 Calls prog 113 #[.pointer (some ⟨r,0,none⟩),fv K r] w fun e w'=>IPostL V Mx r B D (a0F V F p o) w e w':=by
 have hT:=hV.n;have hle:=h.le;obtain⟨F0,L0⟩:=hidEq (a0F V F p o);rw[<- L0.out];go_enter func113,ntmps113;go_wp2;refine a3U hc ?_;refine(hF h (by omega) (by omega)).mono ?_;intro e w9 b0;rcases b0.cs with⟨t9,a1,rfl,b1⟩ | ⟨a9,q9,o9,a1,rfl,h9,z9⟩
 .have b2:=hid (L0.out.trans (b3q a1));have b3:=(h.low h.sp).trans b1;go_wp2;exact⟨rfl,IPostL.bad b2.out rfl b3⟩
 have c6:=hG _ _ _ _ _ a1;have c2:=h9.le;have f9:=PI.lit h9 (b:=w.heap.size) z9.size [a9] (by simp) (by simp);have s9:=z9.alloc (.cells #[.int .i64 a9] 3);have L1:=hid (L0.out.trans (b5e a1));go_wp2_with fail;go_loopw [5] (fun kv wr=>∃ (ks:List Int) (k q:Nat) (o2:List Nd) (va:Option Addr) (vc:Nat),kv=.slice va ks.length vc/\PI V Mx r B D w.heap.size wr q o2 (.slice va ks.length vc) ks/\Sp 4 r w wr/\Hid (F0=a8x V F k ks q o2)/\V.ts.length-q<k/\V.ts.length-q<n/\o2.length+c<=1000*q+500/\ks.length+(V.ts.length-q)<=3000) (fun _ wr=>V.ts.length-atI r wr)
 case atStart=>exact⟨[a9],V.ts.length,q9,o9,_,_,rfl,f9,s9,L1,by omega,by omega,by omega,by simp;omega⟩
 case round=>
 obtain⟨ks,k,q,o2,va,vc,rfl,f2,s2,L2,hk,c7,c8,hkl⟩:=hrel;have h2:=f2.sm;have c3:=h2.le;have b4:=h2.atI
 have c4:ks.length<=3000:=by omega
 go_wp2_with fail;refine(a1m hV h2 a1c).mono ?_;rintro e w3 ⟨rfl,h3,z3⟩
 cases hs:sees V q a1c with
 | false=>
  rw[hs] at h3;replace h3:IM V Mx r B _ w3 q o2:=h3;have f3:=f2.step h3 z3;have s3:=s2.trans z3;have L3:=hid (L2.out.trans (b7p hs hk));go_wp2;go_ret;exact IPostL.ok L3.out rfl f3 s3 (by omega)
 | true=>
 rw[hs] at h3;replace h3:IM V Mx r B _ w3 (q+1) o2:=h3;have c9:=a0c hs;have f3:=f2.step h3 z3;have s3:=s2.trans z3;have L3:=hid (L2.out.trans (b7o hs hk));go_wp2;refine a3U hc ?_;refine(hF h3 (by omega) (by omega)).mono ?_;intro e d0 a5;rcases a5.cs with⟨d1,a0,rfl,a6⟩ | ⟨a2,b5,b6,a0,rfl,a3,a4⟩
 .have a7:=hid (It.bad L3.out a0 rfl);have a8:=(h.low s3).trans a6;go_wp2;exact⟨rfl,IPostL.bad a7.out rfl a8⟩
 have c5:=hG _ _ _ _ _ a0;have c1:=a3.le;have b7:=f3.step a3 a4;have b8:=s3.trans a4;have b9:=hid (It.ok L3.out a0 rfl);go_wp2_with (at_builtin;refine a2d rfl _ _ rfl rfl b7 a2 rfl rfl (by omega) ?_;intro v4 w4 f4 g4;obtain⟨d2,d3,e4⟩:=a2c f4.row;subst e4);have s4:=g4 w b8 (Nat.le_refl _);have c0:=f4.sm.atI;go_roundw
 case rel=>exact⟨ks++[a2],k-1,b5,b6,_,_,by simp,f4,s4,b9,by omega,by omega,by omega,by simp;omega⟩
 case measure=>rw[b4,c0];omega
end
end Go.Proofs.YtphmpkpcamgjeaaGreatDoor
namespace Go.Proofs.YtphmpkpcamgjeaaGreatDoor
open Go.ChangeShapes Go.WideShapes Go.ChangeAt Go.RowKit Go.Proofs.Tryz
open Go.Maps
def opS (k:Int):ByteArray:=(([⟨#[]⟩,g_plus,g_minus,g_star,g_slash,g_pct,g_cat,g_eq,g_ne,g_lt,g_le,g_gt,g_ge,k_is,k_and,k_or]:List ByteArray)[k.toNat]?).getD ⟨#[]⟩
theorem b9F (k:Nat) (h2:k<=15) (w:World):(Instr.index 194 (Value.agg #[.string ⟨#[]⟩,.string g_plus,.string g_minus,.string g_star,.string g_slash,.string g_pct,.string g_cat,.string g_eq,.string g_ne,.string g_lt,.string g_le,.string g_gt,.string g_ge,.string k_is,.string k_and,.string k_or]) (.int .i64 (k:Int))).run prog w=.ok (.string (opS k)) w:=by
 have hk:k=0\/k=1\/k=2\/k=3\/k=4\/k=5\/k=6\/k=7\/k=8\/k=9\/k=10\/k=11\/k=12\/k=13\/k=14\/k=15:=by omega
 rcases hk with rfl | rfl | rfl | rfl | rfl | rfl | rfl | rfl | rfl | rfl | rfl | rfl | rfl | rfl | rfl | rfl<;>first | rfl | (show _=_;kernel_rfl)
theorem b1S (w:World) (k:Nat) (h2:k<=15) :
 Calls prog 206 #[.int .i64 (k:Int)] w fun e w'=>e=.returned (.string (opS k))/\w'=w:=by
 have hi:=b9F k h2;go_enter func206,ntmps206;go_wp2;go_ret;exact⟨rfl,rfl⟩
section
variable {V : Env} {Mx : DataW Unit} {r B : Nat} {D : Nat -> Prop} {w : World} {p : Nat} {o : List Nd}
def opN (ks:List Int):Option Nat->Int
 | none=>0
 | some i=>(ks[i]?).getD 0
theorem a4r (hV:IV V Mx) (h:IM V Mx r B D w p o) {ka:Option Addr} {kc:Nat} {ks:List Int} (hk:KS w (.slice ka ks.length kc) ks) (hl:ks.length<=10) (hb:∀ k∈ks,1<=k/\k<=15) :
 Calls prog 188 #[.pointer (some ⟨r,0,none⟩),.slice ka ks.length kc] w fun e w'=>e=.returned (.int .i64 (opN ks (pick V (ks.map opS) p)))/\IM V Mx r B D w' (p+chS (pick V (ks.map opS) p)) o/\Sp 4 r w w':=by
 have hT:=hV.n;have hle:=h.le;obtain⟨P0,a0⟩:∃ P0,P0=pick V (ks.map opS) p:=⟨_,rfl⟩;rw[<- a0];have a2:=hid a0;clear a0;generalize hn:ks.length=n at *;go_enter func188,ntmps188;go_wp2;go_loopw [9] (fun iv wr=>∃ i:Nat,i<=n/\iv=.int .i64 i/\IM V Mx r B D wr p o/\Sp 4 r w wr/\Hid (∀ j t,j<i->(ks.map opS)[j]?=some t->sees V p t=false)) (fun iv _=>n-(intOf iv).toNat)
 case atStart=>exact⟨0,by omega,rfl,h,h.sp,fun j t hj=>by omega⟩
 case round=>
 obtain⟨i,hi,rfl,h1,s1,HS⟩:=hrel;by_cases hlt:i<n
 .obtain⟨k,hs⟩:∃ k,ks[i]?=some k:=⟨ks[i]'(by omega),List.getElem?_eq_getElem (by omega)⟩;obtain⟨k1,k2⟩:=hb k (List.mem_of_getElem? hs)
  have a5:i<ks.length:=by omega
  obtain⟨⟨a',c',he,hh⟩,_⟩:=h.ks hk s1;obtain⟨g,q,e2,_,_,h3⟩:=hh (by omega);simp only[Value.slice.injEq] at he;obtain⟨rfl,a3,rfl⟩:=he;clear a3;subst e2;obtain⟨cs,hc,h6⟩:=h3 i (by omega);unfold CI at hc;subst hc
  have c9:wr.cell? ⟨g,q+i,none⟩=some (.int .i64 k):=by
   have:=h6 0 (by omega)
   have e9:ks[i]'(by omega)=k:=by
    have:=List.getElem?_eq_getElem (l:=ks) (i:=i) (by omega);rw[hs] at this;simpa using this.symm
   rw[e9] at this;simpa using this
  clear h3 h6 hh;obtain⟨m,rfl⟩:∃ m:Nat,k=(m:Int):=⟨k.toNat,by omega⟩
  have hm:m<=15:=by omega
  have a4:(i:Int)<n:=by omega
  have a6:(i:Int)<=10:=by omega
  have HMS:=hid (show(ks.map opS)[i]?=some (opS m) by simp[hs]);have HSS:=hid hs;clear hs hb hk hn;go_wp2_with fail;refine(b1S _ m hm).mono ?_;rintro e w2 ⟨rfl,a1⟩;replace a1:=a1.symm;subst a1;go_wp2_with fail;refine(a1m hV h1 (opS m)).mono ?_;rintro e w3 ⟨rfl,h3,z3⟩;have s3:=s1.trans z3
  cases hse:sees V p (opS m) with
  | true=>
   have HP:=hid (a2.out.trans (a5w HMS.out hse HS.out));have HO:=hid (show opN ks (some i)=m by simp[opN,HSS.out]);rw[hse] at h3;clear c9;go_wp2;go_ret;exact⟨by rw[HP.out,HO.out];rfl,by rw[HP.out];exact h3,s3⟩
  | false=>
  have HN:=hid (show ∀ j t,j<i+1->(ks.map opS)[j]?=some t->sees V p t=false from fun j t hj ht=>by
   by_cases hji:j=i
   .subst hji;rw[HMS.out] at ht;cases ht;exact hse
   exact HS.out j t (by omega) ht)
  rw[hse] at h3;replace h3:IM V Mx r B D w3 p o:=h3;clear c9;go_wp2;go_roundw
  case rel=>exact⟨i+1,by omega,by go_num,h3,s3,HN⟩
  case measure=>simp[intOf];omega
 have a4:¬ (i:Int)<n:=by omega
 have hin:i=n:=by omega
 subst hin;have HP:=hid (a2.out.trans (a5v (V:=V) (p:=p) (ms:=ks.map opS) (fun j t ht=>HS.out j t (by have:=(List.getElem?_eq_some_iff.1 ht).1;simp at this;omega) ht)));go_wp2;go_ret;exact⟨by rw[HP.out];rfl,by rw[HP.out];exact h1,s1⟩
theorem b3r (hV:IV V Mx) (h:IM V Mx r B D w p o) (ks:List Int) (hl:ks.length<=10) (hb:∀ k∈ks,1<=k/\k<=15) {z:Nat} (hz:z=w.heap.size) :
 Calls prog 188 #[.pointer (some ⟨r,0,none⟩),.slice (some ⟨z,0,none⟩) ks.length ks.length] (w.alloc (.cells (ks.map (Value.int .i64)).toArray 3)) fun e w'=>e=.returned (.int .i64 (opN ks (pick V (ks.map opS) p)))/\IM V Mx r B D w' (p+chS (pick V (ks.map opS) p)) o/\Sp 4 r w w':=by
 subst hz;refine(a4r hV (h.alloc (.cells (ks.map (Value.int .i64)).toArray 3)) (KS.new w ks) hl hb).mono ?_;rintro e w' ⟨h1,h2,h3⟩;exact⟨h1,h2,(h.sp.alloc _).trans h3⟩
end
end Go.Proofs.YtphmpkpcamgjeaaGreatDoor
