import Derived.Test.YtphmpkpcamgjeaaGreatDoorXAA
import Derived.Lib.ItoaNum
import Derived.Lib.ItoaMem
import Derived.Laws.BytesArg
import Derived.Lib.ItoaLen
import Derived.Deep.Heap
import Derived.Test.YtphmpkpcamgjeaaGreatDoorXBM
import Derived.Test.YtphmpkpcamgjeaaGreatDoorXBS
set_option linter.unusedVariables false
set_option linter.unusedSimpArgs false
set_option maxRecDepth 100000
set_option maxHeartbeats 16000000
namespace Go.Proofs.YtphmpkpcamgjeaaGreatDoor
open Go.ChangeShapes Go.WideShapes Go.ChangeAt Go.RowKit Go.Proofs.Tryz
theorem b5Y (W:World) (x:Int):(convert 100 9 (.slice (some ⟨W.heap.size,0,none⟩) 1 1)).run prog (W.alloc (.cells #[.int .u8 x] 5))=.ok (.string ⟨#[UInt8.ofNat x.toNat]⟩) (W.alloc (.cells #[.int .u8 x] 5)):=by
 have:=run_convert_bytes_arg (P:=prog) (W.alloc (.cells #[.int .u8 x] 5)) 100 5 underlying100 underlying5 W.heap.size 0 1 1 [x] rfl (by
   intro i hi
   have:i=0:=by omega
   subst this
   simp[go_sem]) 9 underlying9
 simpa[strOfNums] using this
theorem b2G (n:Nat) (h:n<=9223372036854775807):(Lib.decDigits n).length<=21:=by
 have:=Lib.itoa_length_le (n:Int) (by omega) (by omega);unfold Lib.itoa at this;rw[if_neg (by omega)] at this;simpa using this
def DI (K m:Nat) (acc:List UInt8):Prop:=if m=0 then Lib.decDigits K=acc else Lib.decDigits K=Lib.decDigits m++acc
theorem DI.step {K m:Nat} {acc:List UInt8} (h:DI K m acc) (hm:m≠0):DI K (m/10) ((48+UInt8.ofNat (m%10))::acc):=by
 unfold DI at h ⊢;rw[if_neg hm] at h;by_cases hl:m<10
 .rw[if_pos (by omega),h,Lib.decDigits_one hl]
  have e:m%10=m:=by omega
  rw[UInt8.ofNat_add,e];simp
 rw[if_neg (by omega),h,Lib.decDigits,dif_neg hl];rw[UInt8.ofNat_add];simp
theorem DI.len {K m:Nat} {acc:List UInt8} (h:DI K m acc) (hK:K<=9223372036854775807):acc.length<=21:=by
 have:=b2G K hK;unfold DI at h;split at h
 .rw[h] at this;exact this
 rw[h] at this;simp at this;omega
theorem b5Z (d:UInt8) (acc:List UInt8):((⟨#[d]⟩:ByteArray)++(⟨acc.toArray⟩:ByteArray))=⟨(d::acc).toArray⟩:=by
 apply ByteArray.ext;simp
theorem ret_str {a b:ByteArray} (h:a=b):Ending.returned (.string a)=.returned (.string b):=by rw[h]
def mtx (K:Nat):ByteArray:=⟨(109::Lib.decDigits K).toArray⟩
theorem a7W (K:Nat) (w:World) (h0:0<K) (hK:K<=4611686018427387904):Calls prog 37 #[.int .i64 (K:Int)] w fun e w'=>e=.returned (.string (mtx K))/\Below w.heap.size w w':=by
 have D0:Hid (DI K K []):=hid (by unfold DI;rw[if_neg (by omega)];simp)
 have a3:¬ (K:Int)<=0:=by omega
 go_enter func37,ntmps37;go_wp2;go_loopw [0,3] (fun u o wr=>∃ (m:Nat) (acc:List UInt8),m<=K/\u=.int .i64 (m:Int)/\o=.string ⟨acc.toArray⟩/\Hid (DI K m acc)/\Below w.heap.size w wr) (fun u _ _=>(intOf u).toNat)
 case atStart=>exact⟨K,[],Nat.le_refl _,rfl,rfl,D0,Below.refl _ _⟩
 case round=>
 clear D0;obtain⟨m,acc,hm,rfl,rfl,HD,hb⟩:=hrel;have hal:=HD.out.len (by omega);have hcv:=b5Y;by_cases hz:m=0
 .have HE:Hid (Lib.decDigits K=acc):=hid (by have:=HD.out;unfold DI at this;rw[if_pos hz] at this;exact this);subst hz;clear HD;go_wp2;go_ret;refine⟨ret_str ?_,hb⟩;go_light;unfold mtx;rw[HE.out];apply ByteArray.ext;simp
 have hzi:(0:Int)<m:=by omega
 have a0:=hid (HD.out.step hz)
 have a1:(m:Int)%10<10:=by omega
 have a2:0<=(m:Int)%10:=by omega
 clear HD;go_wp2;go_roundw
 case rel=>
  refine⟨m/10,(48+UInt8.ofNat (m%10))::acc,by omega,by go_num,?_,a0,hb.alloc hb.size _⟩;rw[<- b5Z]
  first
    | rfl
    | (congr 1;apply ByteArray.ext;simp;try omega)
 case measure=>simp[intOf];omega
def mkK (k:Nat):Nat->List Int
 | 0=>[]
 | n+1=>mkK k n++[((k+n:Nat):Int)]
theorem a2q (k:Nat):∀ n,(mkK k n).length=n
 | 0=>rfl
 | n+1=>by simp[mkK,a2q k n]
theorem b4x (k:Nat):∀ n i,i<n->(mkK k n)[i]?=some ((k+i:Nat):Int)
 | 0,i,h=>by omega
 | n+1,i,h=>by
  unfold mkK;rcases Nat.lt_or_ge i n with z | z
  .rw[List.getElem?_append_left (by rw[a2q];exact z)];exact b4x k n i z
  have:i=n:=by omega
  subst this;rw[List.getElem?_append_right (by rw[a2q];exact Nat.le_refl _),a2q];simp
def mkNd (t:Nd) (k:Nat):Nd:={ op:=((k:Nat):Int),name:=mtx (k+1),qual:=mtx (k+2),n:=((k+3:Nat):Int),m:=((k+4:Nat):Int),vk:=((k+5:Nat):Int),vn:=((k+6:Nat):Int),vs:=mtx (k+7),kids:=mkK (k+8) t.kids.length,pos:=((k+8+t.kids.length:Nat):Int) }
def mkL:List Nd->Nat->List Nd
 | [],_=>[]
 | t::r,k=>mkNd t k::mkL r (k+9+t.kids.length)
def endK:List Nd->Nat->Nat
 | [],k=>k
 | t::r,k=>endK r (k+9+t.kids.length)
theorem a3X:∀ (o:List Nd) (k:Nat),(mkL o k).length=o.length
 | [],_=>rfl
 | t::r,k=>by simp[mkL,a3X r]
theorem b1v (t:Nd):∀ (o:List Nd) (k:Nat),mkL (o++[t]) k=mkL o k++[mkNd t (endK o k)]
 | [],_=>rfl
 | u::r,k=>by simp[mkL,endK,b1v t r]
theorem a7X (t:Nd):∀ (o:List Nd) (k:Nat),endK (o++[t]) k=endK o k+9+t.kids.length
 | [],_=>rfl
 | u::r,k=>by simp[endK,a7X t r]
theorem a7a:∀ (o:List Nd) (k:Nat),k<=endK o k
 | [],_=>Nat.le_refl _
 | u::r,k=>by have:=a7a r (k+9+u.kids.length);simp only[endK];omega
theorem a7Y (o:List Nd) (k i:Nat):endK (o.take i) k<=endK o k:=by
 rw[<- List.take_append_drop i o]
 have h:∀ (a b:List Nd) k,endK (a++b) k=endK b (endK a k):=fun a=>by
  induction a with
  | nil=>intro b k;rfl
  | cons t a ih=>
  intro b k;simp[endK,ih]
 rw[h]
 have:endK (List.take i (List.take i o++List.drop i o)) k=endK (List.take i o) k:=by rw[List.take_append_drop]
 rw[this];exact a7a _ _
def pmL (o:List Nd) (k i:Nat):List Nd:=mkL (o.take i) k++o.drop i
theorem b8j (o:List Nd) (k i:Nat):(pmL o k i).length=o.length:=by
 unfold pmL;rw[List.length_append,a3X,<- List.length_append,List.take_append_drop]
theorem b9s (o:List Nd) (k i:Nat) (h:i<o.length):(pmL o k i)[i]?=some o[i]:=by
 unfold pmL
 have hl:(mkL (o.take i) k).length=i:=by rw[a3X,List.length_take];omega
 rw[List.getElem?_append_right (by omega),hl,Nat.sub_self,List.getElem?_drop,Nat.add_zero,List.getElem?_eq_getElem h]
theorem b1w (o:List Nd) (k i:Nat) (h:i<o.length):(pmL o k i).set i (mkNd o[i] (endK (o.take i) k))=pmL o k (i+1)/\endK (o.take (i+1)) k=endK (o.take i) k+9+o[i].kids.length:=by
 have hl:(mkL (o.take i) k).length=i:=by rw[a3X,List.length_take];omega
 have ht:o.take (i+1)=o.take i++[o[i]]:=by rw[List.take_succ_eq_append_getElem h]
 refine⟨?_,by rw[ht,a7X]⟩;unfold pmL;rw[ht,b1v,List.set_append_right _ _ (by omega),hl,Nat.sub_self,List.drop_eq_getElem_cons h,List.set_cons_zero,List.append_assoc];rfl
theorem NO.upd {w:World} {B:Nat} {D:Nat->Prop} {j:Nat} {u:Value} {t t':Nd} (hk:t'.kids=t.kids) (hj:j<10) (hu:∀ kv,(ndC t kv).set j u=ndC t' kv):∀ {xs:List Value} {o:List Nd} {ks:List Value} (i:Nat),o[i]?=some t->NO w B D xs o ks->NO w B D (xs.set (i*10+j) u) (o.set i t') ks
 | _,[],[],i,hi,h=>by simp at hi
 | _,s::r,kv::ks,i,hi,⟨ys,a,b,d,e,c⟩=>by
  subst a
  cases i with
  | zero=>
   simp at hi;subst hi;refine⟨ys,?_,by rw[hk];exact b,d,e,c⟩;rw[Nat.zero_mul,Nat.zero_add,List.set_append_left _ _ (by simp[ndC];omega),hu]
  | succ i=>
  refine⟨ys.set (i*10+j) u,?_,b,d,e,NO.upd hk hj hu i (by simpa using hi) c⟩;rw[List.set_append_right _ _ (by simp[ndC];omega)];congr 2;simp[ndC];omega
 | _,[],_::_,_,_,h=>h.elim
 | _,_::_,[],_,_,h=>h.elim
theorem NO.kid {w w':World} {B:Nat} {D:Nat->Prop} {t t':Nd} (hn:∀ kv,ndC t kv=ndC t' kv):∀ {xs:List Value} {o:List Nd} {ks:List Value} (i:Nat) (kv:Value),o[i]?=some t->ks[i]?=some kv->(∀ g,g<w.heap.size->kv.ownBlock≠some g->w'.heap[g]?=w.heap[g]?)->w'.ownsRow B 3 1 kv t'.kids.length (kidC t'.kids)->NO w B D xs o ks->NO w' B D xs (o.set i t') ks
 | _,[],[],i,kv,hi,_,_,_,h=>by simp at hi
 | _,s::r,kw::ks,i,kv,hi,hk,hb,hr,⟨ys,a,b,d,e,c⟩=>by
  cases i with
  | succ i=>
   have hkm:kv∈ks:=List.mem_of_getElem? (by simpa using hk);refine⟨ys,a,a0L b (fun g hg=>hb g (b.lt g hg).2 (fun z=>e kv hkm g z hg)),d,e,NO.kid hn i kv (by simpa using hi) (by simpa using hk) hb hr c⟩
  | zero=>
  simp at hi hk;subst hi;subst hk;refine⟨ys,by rw[a,hn],hr,d,e,?_⟩
  have go:∀ {xs:List Value} {o:List Nd} {ks:List Value},(∀ k∈ks,∀ g,k.ownBlock=some g->kw.ownBlock≠some g)->NO w B D xs o ks->NO w' B D xs o ks:=by
    intro xs o ks
    induction o generalizing xs ks with
    | nil=>intro _ h;cases ks with
      | nil=>exact h
      | cons _ _=>exact h.elim
    | cons q o ih=>
      intro h1 h
      cases ks with
      | nil=>exact h.elim
      | cons kx ks=>
        obtain⟨zs,a',b',d',e',c'⟩:=h
        exact⟨zs,a',a0L b' (fun g hg=>hb g (b'.lt g hg).2 (h1 kx List.mem_cons_self g hg)),d',e',ih (fun k hm=>h1 k (List.mem_cons_of_mem _ hm)) c'⟩
  exact go e c
 | _,[],_::_,_,_,_,_,_,_,h=>h.elim
 | _,_::_,[],_,_,_,_,_,_,h=>h.elim
theorem NO.get {w:World} {B:Nat} {D:Nat->Prop} {t:Nd}:∀ {xs:List Value} {o:List Nd} {ks:List Value} (i:Nat),o[i]?=some t->NO w B D xs o ks->∃ kv,ks[i]?=some kv/\w.ownsRow B 3 1 kv t.kids.length (kidC t.kids)/\∀ j,j<10->xs[i*10+j]?=(ndC t kv)[j]?
 | _,[],[],i,hi,h=>by simp at hi
 | _,s::r,kv::ks,i,hi,⟨ys,a,b,d,e,c⟩=>by
  subst a
  cases i with
  | zero=>
   simp at hi;subst hi;exact⟨kv,rfl,b,fun j hj=>by rw[Nat.zero_mul,Nat.zero_add,List.getElem?_append_left (by simp[ndC];omega)]⟩
  | succ i=>
  obtain⟨kx,h1,h2,h3⟩:=NO.get i (by simpa using hi) c;refine⟨kx,by simpa using h1,h2,fun j hj=>?_⟩;rw[List.getElem?_append_right (by simp[ndC];omega)]
  have:(i+1)*10+j-(ndC s kv).length=i*10+j:=by simp[ndC];omega
  rw[this];exact h3 j hj
 | _,[],_::_,_,_,h=>h.elim
 | _,_::_,[],_,_,h=>h.elim
section
variable {w : World} {B g n c : Nat} {o : List Nd} {xs ks : List Value}
theorem TR.glt (h:TR w B (.slice (some ⟨g,0,none⟩) o.length c) o xs ks):B<=g/\g<w.heap.size:=h.row.lt g rfl
theorem TR.tg (h:TR w B (.slice (some ⟨g,0,none⟩) o.length c) o xs ks):tag w g 42:=a0n h.row rfl
theorem TR.cell (h:TR w B (.slice (some ⟨g,0,none⟩) o.length c) o xs ks) {i:Nat} {t:Nd} (hi:o[i]?=some t) {kv:Value} (hk:ks[i]?=some kv) (j:Nat) (hj:j<10):w.cell? ⟨g,i*10+j,none⟩=(ndC t kv)[j]?/\w.frozen? ⟨g,i*10+j,none⟩=false:=by
 obtain⟨kx,h1,h2,h3⟩:=h.no.get i hi;rw[hk] at h1;cases h1;have hh:=h3 j hj;obtain⟨u,hu⟩:∃ u,(ndC t kv)[j]?=some u:=⟨_,List.getElem?_eq_getElem (show j<(ndC t kv).length from hj)⟩;rw[hu] at hh ⊢;exact⟨a1M h.row hh,h.row.frozenAt _⟩
theorem TR.put (h:TR w B (.slice (some ⟨g,0,none⟩) n c) o xs ks) (hn:n=o.length) {i j:Nat} {t t':Nd} {u:Value} (hi:o[i]?=some t) (hk:t'.kids=t.kids) (hj:j<10) (hu:∀ kv,(ndC t kv).set j u=ndC t' kv):TR (w.setCell ⟨g,i*10+j,none⟩ u) B (.slice (some ⟨g,0,none⟩) n c) (o.set i t') (xs.set (i*10+j) u) ks:=by
 subst hn;have ho:=(h.row.stored (i*10+j) u).1;refine⟨by rw[List.length_set];exact ho,?_⟩;refine(h.no.upd hk hj hu i hi).keep (by simp) (fun b hb _=>heap_setCell_other w _ b u ?_);exact a0t hb h.tg (by decide)
theorem TR.kid {w':World} (h:TR w B (.slice (some ⟨g,0,none⟩) n c) o xs ks) (hn:n=o.length) {i:Nat} {t t':Nd} {kv:Value} (hi:o[i]?=some t) (hk:ks[i]?=some kv) (hnd:∀ kv,ndC t kv=ndC t' kv) (hb:∀ b,b<w.heap.size->kv.ownBlock≠some b->w'.heap[b]?=w.heap[b]?) (hr:w'.ownsRow B 3 1 kv t'.kids.length (kidC t'.kids)):TR w' B (.slice (some ⟨g,0,none⟩) n c) (o.set i t') xs ks:=by
 subst hn;obtain⟨kx,h1,h2,_⟩:=h.no.get i hi;rw[hk] at h1;cases h1;refine⟨by rw[List.length_set];exact a0L h.row (fun b a0=>hb b (h.row.lt b a0).2 (fun e=>a0t (a0n h2 e) (a0n h.row a0) (by decide) rfl)),h.no.kid hnd i kv hi hk hb hr⟩
end
theorem b6a (k:Nat) (ks:List Int) (i:Nat) (h:i<ks.length):(kidC (mkK k i++ks.drop i)).set i (.int .i64 ((k+i:Nat):Int))=kidC (mkK k (i+1)++ks.drop (i+1)):=by
 have hl:=a2q k i;unfold kidC;rw[<- List.map_set,List.set_append_right _ _ (by omega),hl,Nat.sub_self,List.drop_eq_getElem_cons h,List.set_cons_zero];simp[mkK]
theorem a7Z (B B0 k:Nat) (v:Value) (ks:List Int) (w a0:World) (hk:k+ks.length<=1152921504606846976) (hr:w.ownsRow B 3 1 v ks.length (kidC ks)) (hb:Below B0 a0 w) (hB:B0<=B) :
 Calls prog 38 #[v,.int .i64 (k:Int)] w fun e w'=>e=.returned (.int .i64 ((k+ks.length:Nat):Int))/\Below B0 a0 w'/\w'.heap.size=w.heap.size/\(∀ b,v.ownBlock≠some b->w'.heap[b]?=w.heap[b]?)/\w'.ownsRow B 3 1 v ks.length (kidC (mkK k ks.length)):=by
 obtain⟨a,c,rfl⟩:=a2c hr
 have H0:Hid (w.ownsRow B 3 1 (.slice a ks.length c) ks.length (kidC (mkK k 0++ks.drop 0))):=by
  show w.ownsRow B 3 1 (.slice a ks.length c) ks.length (kidC (mkK k 0++ks.drop 0))
  simpa[mkK] using hr
 clear hr;go_enter func38,ntmps38;go_wp2;go_loopw [1,5] (fun kv iv wr=>∃ i:Nat,i<=ks.length/\kv=.int .i64 ((k+i:Nat):Int)/\iv=.int .i64 i/\Below B0 a0 wr/\wr.heap.size=w.heap.size/\Hid (∀ b,(Value.slice a ks.length c).ownBlock≠some b->wr.heap[b]?=w.heap[b]?)/\Hid (wr.ownsRow B 3 1 (.slice a ks.length c) ks.length (kidC (mkK k i++ks.drop i)))) (fun _ iv _=>ks.length-(intOf iv).toNat)
 case atStart=>exact⟨0,Nat.zero_le _,rfl,rfl,hb,rfl,hid (fun _ _=>rfl),H0⟩
 case round=>
 clear H0 hb;obtain⟨i,hi,rfl,rfl,hb,hs,HO,HR⟩:=hrel;by_cases hlt:i<ks.length
 .have hlti:(i:Int)<ks.length:=by omega
  obtain⟨g,rfl⟩:∃ g,a=some ⟨g,0,none⟩:=by
   rcases HR.out.2 with⟨e,h0⟩ | ⟨g,cap,cur,e,_⟩
   .omega
   simp only[Value.slice.injEq] at e;exact⟨g,e.1⟩
  obtain⟨x,hx⟩:∃ x,w.heap.size=w.heap.size/\wr.cell? ⟨g,i,none⟩=some (.int .i64 x):=⟨ks[i],rfl,a1M HR.out (by
    have hl:=a2q k i
    unfold kidC
    rw[List.getElem?_map,List.getElem?_append_right (by omega),hl,Nat.sub_self,List.getElem?_drop,Nat.add_zero,List.getElem?_eq_getElem hlt]
    rfl)⟩
  have c0:=hx.2;have f0:=HR.out.frozenAt i;have hBg:=(HR.out.lt g rfl).1
  have a1:Hid (World.ownsRow (wr.setCell ⟨g,i,none⟩ (.int .i64 ((k+i:Nat):Int))) B 3 1 (.slice (some ⟨g,0,none⟩) ks.length c) ks.length (kidC (mkK k (i+1)++ks.drop (i+1)))):=by
   have:=(HR.out.stored i (.int .i64 ((k+i:Nat):Int))).1;rw[b6a k ks i hlt] at this;exact this
  have a2:Hid (∀ b,(Value.slice (some ⟨g,0,none⟩) ks.length c).ownBlock≠some b->(wr.setCell ⟨g,i,none⟩ (.int .i64 ((k+i:Nat):Int))).heap[b]?=w.heap[b]?):=fun b hbb=>(heap_setCell_other wr ⟨g,i,none⟩ b _ (fun e=>hbb (by rw[e];rfl))).trans (HO.out b hbb);have b2:=hb.setCell (show B0<=(⟨g,i,none⟩:Addr).block by simp;omega) (.int .i64 ((k+i:Nat):Int))
  have a3:IntKind.i64.wrap (((k+i:Nat):Int)+1)=((k+(i+1):Nat):Int):=by simp only[IntKind.wrap_i64,wrap64];omega
  clear hx HR HO hb;go_wp2;go_roundw
  case rel=>exact⟨i+1,by omega,rfl,by go_num,b2,by simpa using hs,a2,a1⟩
  case measure=>simp[intOf];omega
 have hin:i=ks.length:=by omega
 subst hin
 have hlti:¬ (ks.length:Int)<ks.length:=by omega
 go_wp2;go_ret;refine⟨rfl,hb,hs,HO.out,?_⟩;have:=HR.out;rwa[List.drop_length,List.append_nil] at this
section
variable {z : Nat} {Z : Option Obj} {w : World} {B g n c : Nat} {o : List Nd} {i : Nat} {t t' : Nd} {xs ks : List Value}
def TQ (z:Nat) (Z:Option Obj) (w:World) (B g n c:Nat) (o:List Nd) (i:Nat) (t:Nd) (ks:List Value):Prop:=(z≠g/\(∀ kv∈ks,kv.ownBlock≠some z)/\z<w.heap.size/\w.heap[z]?=Z)/\n=o.length/\i<o.length/\∃ xs,TR w B (.slice (some ⟨g,0,none⟩) n c) (o.set i t) xs ks
theorem TQ.put (h:TQ z Z w B g n c o i t ks) (j:Nat) {u:Value} (hk:t'.kids=t.kids) (hj:j<10) (hu:∀ kv,(ndC t kv).set j u=ndC t' kv) {a:Nat} (ha:a=i*10+j):TQ z Z (w.setCell ⟨g,a,none⟩ u) B g n c o i t' ks:=by
 subst ha;obtain⟨⟨z1,z2,z3,z4⟩,h1,h2,xs,h3⟩:=h;have:=h3.put (by simp[h1]) (i:=i) (j:=j) (t:=t) (t':=t') (u:=u) (by simp[h2]) hk hj hu;rw[List.set_set] at this;exact⟨⟨z1,z2,by simpa using z3,(heap_setCell_other w ⟨g,_,none⟩ z u z1).trans z4⟩,h1,h2,_,this⟩
theorem TQ.below (h:TQ z Z w B g n c o i t ks) {w':World} (hb:Below w.heap.size w w'):TQ z Z w' B g n c o i t ks:=by
 obtain⟨⟨z1,z2,z3,z4⟩,h1,h2,xs,h3⟩:=h;exact⟨⟨z1,z2,Nat.lt_of_lt_of_le z3 hb.size,(hb.block z z3).trans z4⟩,h1,h2,xs,h3.below hb⟩
theorem TQ.cell (h:TQ z Z w B g n c o i t ks) {kv:Value} (hk:ks[i]?=some kv) (j:Nat) (hj:j<10) {a:Nat} (ha:a=i*10+j):w.cell? ⟨g,a,none⟩=(ndC t kv)[j]?/\w.frozen? ⟨g,a,none⟩=false:=by
 subst ha;obtain⟨⟨z1,z2,z3,z4⟩,h1,h2,xs,h3⟩:=h;rw[h1,show o.length=(o.set i t).length by simp] at h3;exact h3.cell (by simp[h2]) hk j hj
theorem TQ.row (h:TQ z Z w B g n c o i t ks):∃ kv,ks[i]?=some kv/\w.ownsRow B 3 1 kv t.kids.length (kidC t.kids):=by
 obtain⟨⟨z1,z2,z3,z4⟩,h1,h2,xs,h3⟩:=h;obtain⟨kv,a,b,_⟩:=h3.no.get i (t:=t) (by simp[h2]);exact⟨kv,a,b⟩
theorem TQ.kid (h:TQ z Z w B g n c o i t ks) {w':World} {kv:Value} (hk:ks[i]?=some kv) (hnd:∀ kv,ndC t kv=ndC t' kv) (hs:w'.heap.size=w.heap.size) (hb:∀ b,kv.ownBlock≠some b->w'.heap[b]?=w.heap[b]?) (hr:w'.ownsRow B 3 1 kv t'.kids.length (kidC t'.kids)):TQ z Z w' B g n c o i t' ks:=by
 obtain⟨⟨z1,z2,z3,z4⟩,h1,h2,xs,h3⟩:=h;have:=h3.kid (by simp[h1]) (i:=i) (t:=t) (t':=t') (by simp[h2]) hk hnd (fun b _=>hb b) hr;rw[List.set_set] at this;exact⟨⟨z1,z2,by omega,(hb z (z2 kv (List.mem_of_getElem? hk))).trans z4⟩,h1,h2,xs,this⟩
theorem TQ.zz (h:TQ z Z w B g n c o i t ks):z<w.heap.size/\w.heap[z]?=Z:=h.1.2.2
theorem TQ.lt (h:TQ z Z w B g n c o i t ks):B<=g/\g<w.heap.size:=by
 obtain⟨⟨z1,z2,z3,z4⟩,h1,h2,xs,h3⟩:=h;exact h3.row.lt g rfl
end
theorem a3t {a:Nat} (h:a<=4611686018427387904):IntKind.i64.wrap ((a:Int)+1)=((a+1:Nat):Int):=by simp only[IntKind.wrap_i64,wrap64];omega
theorem a3g (K:Nat) (w:World) {k:Int} (hk:k=(K:Int)) (h0:0<K) (hK:K<=4611686018427387904):Calls prog 37 #[.int .i64 k] w fun e w'=>e=.returned (.string (mtx K))/\Below w.heap.size w w':=hk ▸ a7W K w h0 hK
theorem a7b (z B B0 k g c:Nat) (o:List Nd) (xs ks:List Value) (w a0:World) (hzg:z≠g) (hzk:∀ kv∈ks,kv.ownBlock≠some z) (hzl:z<w.heap.size) (hol:o.length<=1152921504606846976) (hk0:0<k) (hk:endK o k<=1152921504606846976) (h:TR w B (.slice (some ⟨g,0,none⟩) o.length c) o xs ks) (hb:Below B0 a0 w) (hB:B0<=B) :
 Calls prog 18 #[.slice (some ⟨g,0,none⟩) o.length c,.int .i64 (k:Int)] w fun e w'=>e=.returned (.int .i64 ((endK o k:Nat):Int))/\Below B0 a0 w'/\(∃ xs',TR w' B (.slice (some ⟨g,0,none⟩) o.length c) (mkL o k) xs' ks)/\w'.heap[z]?=w.heap[z]?:=by
 obtain⟨Z,hZ⟩:∃ Z,Z=w.heap[z]?:=⟨_,rfl⟩;rw[<- hZ];have d9:Hid (z<w.heap.size/\w.heap[z]?=Z):=⟨hzl,hZ.symm⟩;clear hZ hzl;have H0:Hid (∃ xs',TR w B (.slice (some ⟨g,0,none⟩) o.length c) (pmL o k 0) xs' ks):=⟨xs,h⟩;have HK:=hid hk;clear h hk;go_enter func18,ntmps18;go_wp2;go_loopw [1,5] (fun kv iv wr=>∃ i K:Nat,i<=o.length/\kv=.int .i64 ((K:Nat):Int)/\iv=.int .i64 i/\Hid (K=endK (o.take i) k)/\Below B0 a0 wr/\Hid (z<wr.heap.size/\wr.heap[z]?=Z)/\Hid (∃ xs',TR wr B (.slice (some ⟨g,0,none⟩) o.length c) (pmL o k i) xs' ks)) (fun _ iv _=>o.length-(intOf iv).toNat)
 case atStart=>exact⟨0,k,Nat.zero_le _,rfl,rfl,hid rfl,hb,d9,H0⟩
 case round=>
 clear H0 hb d9;obtain⟨i,K,hi,rfl,rfl,HE,hb,HZ,HR⟩:=hrel;by_cases hlt:i<o.length
 .have hlti:(i:Int)<o.length:=by omega
  have hpn:=b1w o k i hlt
  have hKK:K+9+o[i].kids.length<=1152921504606846976:=by
   have:=a7Y o k (i+1);rw[hpn.2,<- HE.out] at this;exact Nat.le_trans this HK.out
  have i9:0<K:=by rw[HE.out];exact Nat.lt_of_lt_of_le hk0 (a7a _ _)
  have HN:=hid hpn;obtain⟨P,hP⟩:∃ P,P=pmL o k i:=⟨_,rfl⟩
  have hPl:o.length=P.length:=by rw[hP,b8j]
  have q0:TQ z Z wr B g o.length c P i o[i] ks:=by
   obtain⟨xs',h⟩:=HR.out;rw[<- hP] at h
   have hs:P.set i o[i]=P:=by
    obtain⟨h1,h2⟩:=List.getElem?_eq_some_iff.1 (show P[i]?=some o[i] by rw[hP];exact b9s o k i hlt);rw[<- h2];exact List.set_getElem_self h1
   exact⟨⟨hzg,hzk,HZ.out.1,HZ.out.2⟩,hPl,by omega,xs',by rw[hs];exact h⟩
  have HNN:Hid (∀ x:Nd,x=mkNd o[i] K->P.set i x=pmL o k (i+1)):=fun x hx=>by rw[hx,hP,<- hpn.1,HE.out]
  have HEN:Hid (K+9+o[i].kids.length=endK (o.take (i+1)) k):=by
   show K+9+o[i].kids.length=endK (o.take (i+1)) k
   rw[hpn.2,<- HE.out]
  clear hpn hP HN HE HR hPl HZ;generalize o[i]=t at *;obtain⟨kv,hkv,hro⟩:=q0.row;obtain⟨ka,kc,hke⟩:=a2c hro;clear hro;subst hke;obtain⟨L,hL⟩:∃ L,L=t.kids.length:=⟨_,rfl⟩;have hLL:=hid hL;rw[<- hL] at hKK hkv HEN;clear hL;have h3:IntKind.i64.wrap (((K:Nat):Int)+1)=((K+1:Nat):Int):=a3t (by omega);have h4:IntKind.i64.wrap (((K+1:Nat):Int)+1)=((K+2:Nat):Int):=a3t (by omega);have h5:IntKind.i64.wrap (((K+2:Nat):Int)+1)=((K+3:Nat):Int):=a3t (by omega);have h6:IntKind.i64.wrap (((K+3:Nat):Int)+1)=((K+4:Nat):Int):=a3t (by omega);have h7:IntKind.i64.wrap (((K+4:Nat):Int)+1)=((K+5:Nat):Int):=a3t (by omega);have h8:IntKind.i64.wrap (((K+5:Nat):Int)+1)=((K+6:Nat):Int):=a3t (by omega)
  have i0:IntKind.i64.wrap (((K+6:Nat):Int)+1)=((K+7:Nat):Int):=a3t (by omega);have i1:IntKind.i64.wrap (((K+7:Nat):Int)+1)=((K+8:Nat):Int):=a3t (by omega);have hwp:IntKind.i64.wrap (((K+8+L:Nat):Int)+1)=((K+9+L:Nat):Int):=(a3t (by omega)).trans (congrArg Int.ofNat (by omega));obtain⟨k0,e0⟩:∃ x:Int,x=((K:Nat):Int):=⟨_,rfl⟩;obtain⟨k1,e1⟩:∃ x:Int,x=((K+1:Nat):Int):=⟨_,rfl⟩;obtain⟨k2,e2⟩:∃ x:Int,x=((K+2:Nat):Int):=⟨_,rfl⟩;obtain⟨k3,e3⟩:∃ x:Int,x=((K+3:Nat):Int):=⟨_,rfl⟩;obtain⟨k4,e4⟩:∃ x:Int,x=((K+4:Nat):Int):=⟨_,rfl⟩;obtain⟨k5,e5⟩:∃ x:Int,x=((K+5:Nat):Int):=⟨_,rfl⟩;obtain⟨k6,e6⟩:∃ x:Int,x=((K+6:Nat):Int):=⟨_,rfl⟩;obtain⟨k7,e7⟩:∃ x:Int,x=((K+7:Nat):Int):=⟨_,rfl⟩
  obtain⟨k8,e8⟩:∃ x:Int,x=((K+8:Nat):Int):=⟨_,rfl⟩;obtain⟨k9,e9⟩:∃ x:Int,x=((K+9+L:Nat):Int):=⟨_,rfl⟩;obtain⟨kp,ep⟩:∃ x:Int,x=((K+8+L:Nat):Int):=⟨_,rfl⟩;rw[<- e0,<- e1] at h3;rw[<- e1,<- e2] at h4;rw[<- e2,<- e3] at h5;rw[<- e3,<- e4] at h6;rw[<- e4,<- e5] at h7;rw[<- e5,<- e6] at h8;rw[<- e6,<- e7] at i0;rw[<- e7,<- e8] at i1;rw[<- ep,<- e9] at hwp;have E0:=hid e0;have E1:=hid e1;have E2:=hid e2;have E3:=hid e3;have E4:=hid e4;have E5:=hid e5;have E6:=hid e6;have E7:=hid e7;have E8:=hid e8;have E9:=hid e9;have Ep:=hid ep;rw[<- e0];clear e0 e1 e2 e3 e4 e5 e6 e7 e8 e9 ep;have hBg:=q0.lt.1;obtain⟨y0,c0⟩:∃ y,wr.cell? ⟨g,i*10,none⟩=some y:=⟨_,(q0.cell hkv 0 (by omega) (by omega)).1⟩;have f0:wr.frozen? ⟨g,i*10,none⟩=false:=(q0.cell hkv 0 (by omega) (by omega)).2
  have q1:TQ z Z (wr.setCell ⟨g,i*10,none⟩ (.int .i64 k0)) B g o.length c P i { t with op:=k0 } ks:=q0.put (t':={ t with op:=k0 }) (u:=(.int .i64 k0)) (a:=i*10) 0 rfl (by omega) (fun _=>rfl) (by omega);obtain⟨t1,a7⟩:∃ x,x=({ t with op:=k0 }:Nd):=⟨_,rfl⟩;rw[<- a7] at q1;have b1:=hb.setCell (show B0<=(⟨g,i*10,none⟩:Addr).block by have:=q0.lt.1;simp;omega) (.int .i64 k0);have f8:=hid a7;clear a7;go_wp2_with fail;refine(a3g (K+1) _ E1.out (by omega) (by omega)).mono ?_;rintro e v1 ⟨rfl,d1⟩;have b2:=b1.trans (d1.mono (by have:=q1.lt;have:=q0.lt.1;omega));have q2:=q1.below d1;clear q1 b1 d1;clear c0 f0;obtain⟨y1,c1⟩:∃ y,v1.cell? ⟨g,i*10+1,none⟩=some y:=⟨_,(q2.cell hkv 1 (by omega) (by omega)).1⟩;have f1:v1.frozen? ⟨g,i*10+1,none⟩=false:=(q2.cell hkv 1 (by omega) (by omega)).2
  have q3:TQ z Z (v1.setCell ⟨g,i*10+1,none⟩ (.string (mtx (K+1)))) B g o.length c P i { t1 with name:=mtx (K+1) } ks:=q2.put (t':={ t1 with name:=mtx (K+1) }) (u:=(.string (mtx (K+1)))) (a:=i*10+1) 1 rfl (by omega) (fun _=>rfl) (by omega);obtain⟨t3,a8⟩:∃ x,x=({ t1 with name:=mtx (K+1) }:Nd):=⟨_,rfl⟩;rw[<- a8] at q3;have b3:=b2.setCell (show B0<=(⟨g,i*10+1,none⟩:Addr).block by have:=q0.lt.1;simp;omega) (.string (mtx (K+1)));have g0:=hid a8;clear a8;clear q2;go_wp2_with fail;refine(a3g (K+2) _ E2.out (by omega) (by omega)).mono ?_;rintro e v2 ⟨rfl,d2⟩;have b4:=b3.trans (d2.mono (by have:=q3.lt;have:=q0.lt.1;omega));have q4:=q3.below d2;clear q3 b3 d2;clear c1 f1;obtain⟨y2,c2⟩:∃ y,v2.cell? ⟨g,i*10+2,none⟩=some y:=⟨_,(q4.cell hkv 2 (by omega) (by omega)).1⟩
  have f2:v2.frozen? ⟨g,i*10+2,none⟩=false:=(q4.cell hkv 2 (by omega) (by omega)).2;obtain⟨y3,c3⟩:∃ y,v2.cell? ⟨g,i*10+3,none⟩=some y:=⟨_,(q4.cell hkv 3 (by omega) (by omega)).1⟩;have f3:v2.frozen? ⟨g,i*10+3,none⟩=false:=(q4.cell hkv 3 (by omega) (by omega)).2;obtain⟨y4,c4⟩:∃ y,v2.cell? ⟨g,i*10+4,none⟩=some y:=⟨_,(q4.cell hkv 4 (by omega) (by omega)).1⟩;have f4:v2.frozen? ⟨g,i*10+4,none⟩=false:=(q4.cell hkv 4 (by omega) (by omega)).2;obtain⟨y5,c5⟩:∃ y,v2.cell? ⟨g,i*10+5,none⟩=some y:=⟨_,(q4.cell hkv 5 (by omega) (by omega)).1⟩;have f5:v2.frozen? ⟨g,i*10+5,none⟩=false:=(q4.cell hkv 5 (by omega) (by omega)).2;obtain⟨y6,c6⟩:∃ y,v2.cell? ⟨g,i*10+5+1,none⟩=some y:=⟨_,(q4.cell hkv 6 (by omega) (by omega)).1⟩
  have f6:v2.frozen? ⟨g,i*10+5+1,none⟩=false:=(q4.cell hkv 6 (by omega) (by omega)).2;have q5:TQ z Z (v2.setCell ⟨g,i*10+2,none⟩ (.string (mtx (K+2)))) B g o.length c P i { t3 with qual:=mtx (K+2) } ks:=q4.put (t':={ t3 with qual:=mtx (K+2) }) (u:=(.string (mtx (K+2)))) (a:=i*10+2) 2 rfl (by omega) (fun _=>rfl) (by omega);obtain⟨t5,a9⟩:∃ x,x=({ t3 with qual:=mtx (K+2) }:Nd):=⟨_,rfl⟩;rw[<- a9] at q5;have b5:=b4.setCell (show B0<=(⟨g,i*10+2,none⟩:Addr).block by have:=q0.lt.1;simp;omega) (.string (mtx (K+2)));have g1:=hid a9;clear a9;clear q4
  have q6:TQ z Z ((v2.setCell ⟨g,i*10+2,none⟩ (.string (mtx (K+2)))).setCell ⟨g,i*10+3,none⟩ (.int .i64 k3)) B g o.length c P i { t5 with n:=k3 } ks:=q5.put (t':={ t5 with n:=k3 }) (u:=(.int .i64 k3)) (a:=i*10+3) 3 rfl (by omega) (fun _=>rfl) (by omega);obtain⟨t6,b0⟩:∃ x,x=({ t5 with n:=k3 }:Nd):=⟨_,rfl⟩;rw[<- b0] at q6;have b6:=b5.setCell (show B0<=(⟨g,i*10+3,none⟩:Addr).block by have:=q0.lt.1;simp;omega) (.int .i64 k3);have g2:=hid b0;clear b0;clear q5;have q7:TQ z Z (((v2.setCell ⟨g,i*10+2,none⟩ (.string (mtx (K+2)))).setCell ⟨g,i*10+3,none⟩ (.int .i64 k3)).setCell ⟨g,i*10+4,none⟩ (.int .i64 k4)) B g o.length c P i { t6 with m:=k4 } ks:=q6.put (t':={ t6 with m:=k4 }) (u:=(.int .i64 k4)) (a:=i*10+4) 4 rfl (by omega) (fun _=>rfl) (by omega)
  obtain⟨t7,d0⟩:∃ x,x=({ t6 with m:=k4 }:Nd):=⟨_,rfl⟩;rw[<- d0] at q7;have b7:=b6.setCell (show B0<=(⟨g,i*10+4,none⟩:Addr).block by have:=q0.lt.1;simp;omega) (.int .i64 k4);have g3:=hid d0;clear d0;clear q6;have q8:TQ z Z ((((v2.setCell ⟨g,i*10+2,none⟩ (.string (mtx (K+2)))).setCell ⟨g,i*10+3,none⟩ (.int .i64 k3)).setCell ⟨g,i*10+4,none⟩ (.int .i64 k4)).setCell ⟨g,i*10+5,none⟩ (.int .i64 k5)) B g o.length c P i { t7 with vk:=k5 } ks:=q7.put (t':={ t7 with vk:=k5 }) (u:=(.int .i64 k5)) (a:=i*10+5) 5 rfl (by omega) (fun _=>rfl) (by omega);obtain⟨t8,d4⟩:∃ x,x=({ t7 with vk:=k5 }:Nd):=⟨_,rfl⟩;rw[<- d4] at q8;have b8:=b7.setCell (show B0<=(⟨g,i*10+5,none⟩:Addr).block by have:=q0.lt.1;simp;omega) (.int .i64 k5);have g4:=hid d4;clear d4;clear q7
  have q9:TQ z Z (((((v2.setCell ⟨g,i*10+2,none⟩ (.string (mtx (K+2)))).setCell ⟨g,i*10+3,none⟩ (.int .i64 k3)).setCell ⟨g,i*10+4,none⟩ (.int .i64 k4)).setCell ⟨g,i*10+5,none⟩ (.int .i64 k5)).setCell ⟨g,i*10+5+1,none⟩ (.int .i64 k6)) B g o.length c P i { t8 with vn:=k6 } ks:=q8.put (t':={ t8 with vn:=k6 }) (u:=(.int .i64 k6)) (a:=i*10+5+1) 6 rfl (by omega) (fun _=>rfl) (by omega);obtain⟨t9,d5⟩:∃ x,x=({ t8 with vn:=k6 }:Nd):=⟨_,rfl⟩;rw[<- d5] at q9;have b9:=b8.setCell (show B0<=(⟨g,i*10+5+1,none⟩:Addr).block by have:=q0.lt.1;simp;omega) (.int .i64 k6);have g5:=hid d5;clear d5;clear q8;go_wp2_with fail;refine(a3g (K+7) _ E7.out (by omega) (by omega)).mono ?_;rintro e v3 ⟨rfl,d3⟩;have i2:=b9.trans (d3.mono (by have:=q9.lt;have:=q0.lt.1;omega));have a1:=q9.below d3
  clear q9 b9 d3;clear c2 f2 c3 f3 c4 f4 c5 f5 c6 f6;obtain⟨y7,c7⟩:∃ y,v3.cell? ⟨g,i*10+5+2,none⟩=some y:=⟨_,(a1.cell hkv 7 (by omega) (by omega)).1⟩;have f7:v3.frozen? ⟨g,i*10+5+2,none⟩=false:=(a1.cell hkv 7 (by omega) (by omega)).2;have c8:v3.cell? ⟨g,i*10+8,none⟩=some (.slice ka L kc):=(a1.cell hkv 8 (by omega) (by omega)).1;have a5:TQ z Z (v3.setCell ⟨g,i*10+5+2,none⟩ (.string (mtx (K+7)))) B g o.length c P i { t9 with vs:=mtx (K+7) } ks:=a1.put (t':={ t9 with vs:=mtx (K+7) }) (u:=(.string (mtx (K+7)))) (a:=i*10+5+2) 7 rfl (by omega) (fun _=>rfl) (by omega);obtain⟨d6,a3⟩:∃ x,x=({ t9 with vs:=mtx (K+7) }:Nd):=⟨_,rfl⟩;rw[<- a3] at a5;have i3:=i2.setCell (show B0<=(⟨g,i*10+5+2,none⟩:Addr).block by have:=q0.lt.1;simp;omega) (.string (mtx (K+7)))
  have d8:=hid a3;clear a3;clear a1;go_wp2_with fail;obtain⟨kw,hkw,hro⟩:=a5.row;rw[hkv] at hkw;cases hkw
  have hkk:d6.kids=t.kids:=by simp only[d8.out,g5.out,g4.out,g3.out,g2.out,g1.out,g0.out,f8.out]
  rw[hkk] at hro;have hmk:=a7Z B B0 (K+8) _ t.kids (v3.setCell ⟨g,i*10+5+2,none⟩ (.string (mtx (K+7)))) a0 (by have:=hLL.out;omega) (by rw[<- hLL.out];rw[<- hLL.out] at hro;exact hro) i3 (by omega);rw[<- hLL.out,<- E8.out,<- Ep.out] at hmk;refine hmk.mono ?_;rintro e v9 ⟨rfl,g6,g7,hbo,g8⟩;have a2:TQ z Z v9 B g o.length c P i { d6 with kids:=mkK (K+8) L } ks:=a5.kid hkv (fun _=>rfl) g7 hbo (by rw[a2q];exact g8);obtain⟨g9,a4⟩:∃ x,x=({ d6 with kids:=mkK (K+8) L }:Nd):=⟨_,rfl⟩;rw[<- a4] at a2;have h0:=hid a4;clear a4 a5 hmk hro g8 hbo g7 c7 f7 c8;obtain⟨y9,c9⟩:∃ y,v9.cell? ⟨g,i*10+9,none⟩=some y:=⟨_,(a2.cell hkv 9 (by omega) (by omega)).1⟩;have f9:v9.frozen? ⟨g,i*10+9,none⟩=false:=(a2.cell hkv 9 (by omega) (by omega)).2
  have d7:TQ z Z (v9.setCell ⟨g,i*10+9,none⟩ (.int .i64 kp)) B g o.length c P i { g9 with pos:=kp } ks:=a2.put (t':={ g9 with pos:=kp }) (u:=.int .i64 kp) (a:=i*10+9) 9 rfl (by omega) (fun _=>rfl) (by omega);have i4:=g6.setCell (show B0<=(⟨g,i*10+9,none⟩:Addr).block by simp;omega) (.int .i64 kp)
  have HF:Hid (∃ xs',TR (v9.setCell ⟨g,i*10+9,none⟩ (.int .i64 kp)) B (.slice (some ⟨g,0,none⟩) o.length c) (pmL o k (i+1)) xs' ks):=by
   obtain⟨_,_,_,i5,h9⟩:=d7;rw[HNN.out _ (by simp only[h0.out,d8.out,g5.out,g4.out,g3.out,g2.out,g1.out,g0.out,f8.out,mkNd,hLL.out,E0.out,E3.out,E4.out,E5.out,E6.out,Ep.out])] at h9;exact⟨i5,h9⟩
  have i6:=hid d7.zz;clear a2 d7 g6 q0;go_wp2;go_roundw
  case rel=>exact⟨i+1,K+9+L,by omega,by rw[E9.out],by go_num,HEN,i4,i6,HF⟩
  case measure=>simp[intOf];omega
 have hin:i=o.length:=by omega
 subst hin
 have hlti:¬ (o.length:Int)<o.length:=by omega
 have i7:Hid (K=endK o k):=by
  have:=HE.out;rw[List.take_length] at this;exact this
 have a6:=HR.out;unfold pmL at a6;rw[List.take_length,List.drop_length,List.append_nil] at a6;have i8:=hid a6;clear a6 HR HE;go_wp2;go_ret;refine⟨?_,hb,i8.out,HZ.out.2⟩;have h:=i7.out;subst h;rfl
end Go.Proofs.YtphmpkpcamgjeaaGreatDoor
