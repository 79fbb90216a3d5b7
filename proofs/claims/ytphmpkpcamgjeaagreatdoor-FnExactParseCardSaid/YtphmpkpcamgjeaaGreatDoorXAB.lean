import Derived.Lib.RuneCountTail
import Derived.Lib.ValidLaws
import Derived.Lib.RuneCount
import Derived.Lib.Replace
import Derived.Lib.MapLaws
import Derived.Lib.TrimAscii
import Derived.Lib.IndexBytes
import Derived.Lib.Join
set_option linter.unusedVariables false
set_option linter.unusedSimpArgs false
set_option maxRecDepth 100000
set_option maxHeartbeats 16000000
namespace Go.Proofs.YtphmpkpcamgjeaaGreatDoor.Rx
def ext (s:ByteArray) (pos:Nat) (c0:Int):Nat->Int
 | 0=>c0
 | j+1=>ext s pos c0 j*64+((s.get! (pos+(j+1))).toNat:Int)-128
end Go.Proofs.YtphmpkpcamgjeaaGreatDoor.Rx
namespace Go.Proofs.YtphmpkpcamgjeaaGreatDoor.Rx
open Go.Lib
end Go.Proofs.YtphmpkpcamgjeaaGreatDoor.Rx
namespace Go.Proofs.YtphmpkpcamgjeaaGreatDoor.Lx
def chF (s:ByteArray):Nat->Nat->Option (List Int)
 | 0,pos=>if pos<s.size then none else some []
 | f+1,pos=>if pos<s.size then(if Utf8.decode s pos=(65533,1) then none else(chF s f (pos+(Utf8.decode s pos).2)).map (fun l=>((Utf8.decode s pos).1:Int)::l)) else some []
def a2g (s:ByteArray):Option (List Int):=chF s s.size 0
theorem a5j (s:ByteArray) (f pos:Nat) (h:¬ pos<s.size):chF s f pos=some []:=by cases f<;>simp[chF,h]
theorem b4O (s:ByteArray) (b pos:Nat) (acc:List Int) (c:Int) (n:Nat) (h:pos<s.size) (hb:s.size<=pos+b) (hd:Utf8.decode s pos=(c.toNat,n)) (hc:0<=c) (hn:¬ (c=65533/\n=1)) (hn1:1<=n)
 (hi:(chF s b pos).map (acc++·)=a2g s):(chF s (b-1) (pos+n)).map ((acc++[c])++·)=a2g s:=by
 obtain⟨f,rfl⟩:∃ f,b=f+1:=⟨b-1,by omega⟩;rw[<- hi,chF,if_pos h,hd,if_neg (by intro e;simp at e;omega)];simp only[Nat.add_sub_cancel,Option.map_map];congr 1;funext l;simp;omega
theorem a1K (s:ByteArray) (b pos:Nat) (acc:List Int) (h:pos<s.size) (hb:s.size<=pos+b) (hd:Utf8.decode s pos=(65533,1)) (hi:(chF s b pos).map (acc++·)=a2g s):a2g s=none:=by
 obtain⟨f,rfl⟩:∃ f,b=f+1:=⟨b-1,by omega⟩;rw[<- hi,chF,if_pos h,hd,if_pos rfl];rfl
theorem b6N (s:ByteArray) (b pos:Nat) (acc:List Int) (h:¬ pos<s.size) (hi:(chF s b pos).map (acc++·)=a2g s):a2g s=some acc:=by
 rw[<- hi,a5j s b pos h];simp
theorem a0U (s:ByteArray) (i:Nat) (h:i<s.size):s.get! i=s[i]'h:=by
 simp[ByteArray.get!,getElem!_pos,h];rfl
theorem b9v (s:ByteArray) (pos:Nat) (h:pos<s.size) (h0:((s[pos]'h).toNat:Int)<128):Utf8.decode s pos=(((s[pos]'h).toNat:Int).toNat,1):=by
 rw[Lib.decode_at,a0U s pos h];unfold Lib.decodeN;rw[if_pos (by omega)];simp
theorem b8s (s:ByteArray) (pos:Nat) (h:pos<s.size) (h0:(128<=((s[pos]'h).toNat:Int)/\((s[pos]'h).toNat:Int)<194)\/245<=((s[pos]'h).toNat:Int)):Utf8.decode s pos=(65533,1):=by
 rw[Lib.decode_at,a0U s pos h];unfold Lib.decodeN;have:=(s[pos]'h).toNat_lt;have:=(s.get! (pos+1)).toNat_lt;have:=(s.get! (pos+2)).toNat_lt;have:=(s.get! (pos+3)).toNat_lt;rw[if_neg (by omega)]
 repeat' split
 all_goals first | rfl | (exfalso;omega)
theorem a5k (s:ByteArray) (pos n:Nat) (h:pos<s.size) (h0:(194<=((s[pos]'h).toNat:Int)/\((s[pos]'h).toNat:Int)<224/\n=1)\/(224<=((s[pos]'h).toNat:Int)/\((s[pos]'h).toNat:Int)<240/\n=2)\/(240<=((s[pos]'h).toNat:Int)/\((s[pos]'h).toNat:Int)<245/\n=3)) (hs:s.size<=pos+n):Utf8.decode s pos=(65533,1):=by
 rw[Lib.decode_at,a0U s pos h];unfold Lib.decodeN;rw[if_neg (by omega)]
 repeat' split
 all_goals first | rfl | (exfalso;omega)
theorem a3F (s:ByteArray) (pos n j:Nat) (h:pos<s.size) (h0:(194<=((s[pos]'h).toNat:Int)/\((s[pos]'h).toNat:Int)<224/\n=1)\/(224<=((s[pos]'h).toNat:Int)/\((s[pos]'h).toNat:Int)<240/\n=2)\/(240<=((s[pos]'h).toNat:Int)/\((s[pos]'h).toNat:Int)<245/\n=3)) (hj1:1<=j) (hj2:j<=n) (hj:pos+j<s.size) (hb:((s[pos+j]'hj).toNat:Int)<128\/191<((s[pos+j]'hj).toNat:Int)):Utf8.decode s pos=(65533,1):=by
 have ej:=a0U s (pos+j) hj;have:=(s.get! (pos+1)).toNat_lt;have:=(s.get! (pos+2)).toNat_lt;have:=(s.get! (pos+3)).toNat_lt;rw[<- ej] at hb;rw[Lib.decode_at,a0U s pos h];unfold Lib.decodeN
 have e:j=1\/j=2\/j=3:=by omega
 rw[if_neg (by omega)];rcases e with rfl | rfl | rfl
 all_goals
   repeat' split
   all_goals first | rfl | (exfalso;omega)
theorem b9w (s:ByteArray) (pos:Nat) (h:pos<s.size) (h1:pos+1<s.size) (h0:194<=((s[pos]'h).toNat:Int)/\((s[pos]'h).toNat:Int)<224) (b1:128<=((s[pos+1]'h1).toNat:Int)/\((s[pos+1]'h1).toNat:Int)<=191) (c:Int) (hc:c=(((s[pos]'h).toNat:Int)-192)*64+((s[pos+1]'h1).toNat:Int)-128):Utf8.decode s pos=(c.toNat,2):=by
 rw[Lib.decode_at,a0U s pos h,a0U s (pos+1) h1];unfold Lib.decodeN;rw[if_neg (by omega)]
 repeat' split
 all_goals first | (exfalso;omega) | (apply Prod.ext<;>simp only<;>omega)
theorem b9x (s:ByteArray) (pos:Nat) (h:pos<s.size) (h1:pos+1<s.size) (h2:pos+2<s.size) (h0:224<=((s[pos]'h).toNat:Int)/\((s[pos]'h).toNat:Int)<240) (b1:128<=((s[pos+1]'h1).toNat:Int)/\((s[pos+1]'h1).toNat:Int)<=191) (b2:128<=((s[pos+2]'h2).toNat:Int)/\((s[pos+2]'h2).toNat:Int)<=191) (c:Int) (hc:c=((((s[pos]'h).toNat:Int)-224)*64+((s[pos+1]'h1).toNat:Int)-128)*64+((s[pos+2]'h2).toNat:Int)-128) :
 Utf8.decode s pos=if c<2048\/1114111<c\/(55296<=c/\c<=57343) then(65533,1) else(c.toNat,3):=by
 rw[Lib.decode_at,a0U s pos h,a0U s (pos+1) h1,a0U s (pos+2) h2];unfold Lib.decodeN;rw[if_neg (by omega)]
 repeat' split
 all_goals first | rfl | (exfalso;omega) | (apply Prod.ext<;>simp only<;>omega)
theorem b9y (s:ByteArray) (pos:Nat) (h:pos<s.size) (h1:pos+1<s.size) (h2:pos+2<s.size) (h3:pos+3<s.size) (h0:240<=((s[pos]'h).toNat:Int)/\((s[pos]'h).toNat:Int)<245) (b1:128<=((s[pos+1]'h1).toNat:Int)/\((s[pos+1]'h1).toNat:Int)<=191) (b2:128<=((s[pos+2]'h2).toNat:Int)/\((s[pos+2]'h2).toNat:Int)<=191) (b3:128<=((s[pos+3]'h3).toNat:Int)/\((s[pos+3]'h3).toNat:Int)<=191) (c:Int) (hc:c=(((((s[pos]'h).toNat:Int)-240)*64+((s[pos+1]'h1).toNat:Int)-128)*64+((s[pos+2]'h2).toNat:Int)-128)*64+((s[pos+3]'h3).toNat:Int)-128) :
 Utf8.decode s pos=if c<65536\/1114111<c\/(55296<=c/\c<=57343) then(65533,1) else(c.toNat,4):=by
 rw[Lib.decode_at,a0U s pos h,a0U s (pos+1) h1,a0U s (pos+2) h2,a0U s (pos+3) h3];unfold Lib.decodeN;rw[if_neg (by omega)]
 repeat' split
 all_goals first | rfl | (exfalso;omega) | (apply Prod.ext<;>simp only<;>omega)
def ext (s:ByteArray) (pos:Nat) (c0:Int):Nat->Int
 | 0=>c0
 | j+1=>ext s pos c0 j*64+((s.get! (pos+(j+1))).toNat:Int)-128
def a2J (s:ByteArray) (pos j:Nat):Prop:=∀ i:Nat,1<=i->i<=j->128<=((s.get! (pos+i)).toNat:Int)/\((s.get! (pos+i)).toNat:Int)<=191
theorem b2O (s:ByteArray) (pos:Nat) (c0:Int) (j:Nat) (h:a2J s pos j) (h0:0<=c0) (h1:c0<=31) (hj:j<=3):0<=ext s pos c0 j/\ext s pos c0 j<=8388607:=by
 have e:j=0\/j=1\/j=2\/j=3:=by omega
 rcases e with rfl | rfl | rfl | rfl
 .simp only[ext];omega
 .have k1:=h (0+1) (by omega) (by omega);simp only[ext];omega
 .have k1:=h (0+1) (by omega) (by omega);have k2:=h (1+1) (by omega) (by omega);simp only[ext];omega
 have k1:=h (0+1) (by omega) (by omega);have k2:=h (1+1) (by omega) (by omega);have k3:=h (2+1) (by omega) (by omega);simp only[ext];omega
theorem a3O (s:ByteArray) (pos:Nat):a2J s pos 0:=fun i h1 h2=>by omega
theorem a3P {s:ByteArray} {pos j:Nat} (h:a2J s pos j) (hb:pos+(j+1)<s.size) (h1:128<=((s[pos+(j+1)]'hb).toNat:Int)) (h2:((s[pos+(j+1)]'hb).toNat:Int)<=191):a2J s pos (j+1):=by
 intro i a0 a1;by_cases e:i=j+1
 .subst e;rw[a0U s _ hb];exact⟨h1,h2⟩
 exact h i a0 (by omega)
theorem a6v (s:ByteArray) (pos:Nat) (c0:Int) (j:Nat) (hb:pos+(j+1)<s.size):ext s pos c0 (j+1)=ext s pos c0 j*64+((s[pos+(j+1)]'hb).toNat:Int)-128:=by
 rw[ext,a0U s _ hb]
def cls (b0:Int) (n:Nat) (least base:Int):Prop:=(194<=b0/\b0<224/\n=1/\least=128/\base=192)\/(224<=b0/\b0<240/\n=2/\least=2048/\base=224)\/(240<=b0/\b0<245/\n=3/\least=65536/\base=240)
theorem a8l (s:ByteArray) (pos n:Nat) (least base:Int) (h:pos<s.size) (hc:cls ((s[pos]'h).toNat:Int) n least base) (hs:pos+n<s.size) (hk:a2J s pos n) (c:Int) (e:c=ext s pos (((s[pos]'h).toNat:Int)-base) n) :
 Utf8.decode s pos=if c<least\/1114111<c\/(55296<=c/\c<=57343) then(65533,1) else(c.toNat,n+1):=by
 rcases hc with⟨h1,h2,rfl,rfl,rfl⟩ | ⟨h1,h2,rfl,rfl,rfl⟩ | ⟨h1,h2,rfl,rfl,rfl⟩
 .have k1:=hk 1 (by omega) (by omega);rw[a0U s (pos+1) (by omega)] at k1;rw[b9w s pos h (by omega) ⟨h1,h2⟩ k1 c (by rw[e];simp only[ext];rw[a0U s (pos+(0+1)) (by omega)]),if_neg];simp only[ext] at e;rw[a0U s (pos+(0+1)) (by omega)] at e;simp only[Nat.zero_add] at e;omega
 .have k1:=hk 1 (by omega) (by omega);have k2:=hk 2 (by omega) (by omega);rw[a0U s (pos+1) (by omega)] at k1;rw[a0U s (pos+2) (by omega)] at k2;rw[b9x s pos h (by omega) (by omega) ⟨h1,h2⟩ k1 k2 c (by rw[e];simp only[ext];rw[a0U s (pos+(0+1)) (by omega),a0U s (pos+(1+1)) (by omega)])]
 have k1:=hk 1 (by omega) (by omega);have k2:=hk 2 (by omega) (by omega);have k3:=hk 3 (by omega) (by omega);rw[a0U s (pos+1) (by omega)] at k1;rw[a0U s (pos+2) (by omega)] at k2;rw[a0U s (pos+3) (by omega)] at k3;rw[b9y s pos h (by omega) (by omega) (by omega) ⟨h1,h2⟩ k1 k2 k3 c (by rw[e];simp only[ext];rw[a0U s (pos+(0+1)) (by omega),a0U s (pos+(1+1)) (by omega),a0U s (pos+(2+1)) (by omega)])]
theorem a1L {b0:Int} {n:Nat} {least base:Int} (h:cls b0 n least base):(194<=b0/\b0<224/\n=1)\/(224<=b0/\b0<240/\n=2)\/(240<=b0/\b0<245/\n=3):=by
 unfold cls at h;omega
end Go.Proofs.YtphmpkpcamgjeaaGreatDoor.Lx
namespace Go.Proofs.YtphmpkpcamgjeaaGreatDoor.Lx
open Go.Lib
theorem decodeL_drop (s:ByteArray) (pos:Nat):decodeL (s.data.toList.drop pos)=Utf8.decode s pos:=by
 have h:=tail_decode s pos 0;rw[Nat.add_zero] at h;rw[<- h]
 have e:(s.extract pos s.size)=⟨(s.data.toList.drop pos).toArray⟩:=by
  have:=extract_data s pos s.size
  have e2:(s.extract pos s.size).data.toList=s.data.toList.drop pos:=by
   rw[this];apply List.take_of_length_le;rw[List.length_drop,<- size_eq];omega
  cases hx:s.extract pos s.size with
  | mk d=>
  rw[hx] at e2;simp only at e2;rw[<- e2]
 rw[e];rfl
theorem width_le (s:ByteArray) (pos:Nat) (h:pos<s.size):pos+(Utf8.decode s pos).2<=s.size/\(Utf8.decode s pos).2<=4:=by
 rw[decode_at];unfold decodeN
 repeat' split
 all_goals(simp only;omega)
theorem b2P (s:ByteArray):∀ f pos,s.size<=pos+f->(chF s f pos).isSome=validD (s.data.toList.drop pos)
 | 0,pos,h=>by
  have e:s.data.toList.drop pos=[]:=List.drop_eq_nil_of_le (by rw[<- size_eq];omega);rw[e,a5j s 0 pos (by omega),validD_nil];rfl
 | f+1,pos,h=>by
  by_cases hp:pos<s.size
  .have hne:s.data.toList.drop pos≠[]:=by
    intro e;have:=congrArg List.length e;rw[List.length_drop,<- size_eq] at this;simp at this;omega
   rw[validD_step _ hne,decodeL_drop,chF,if_pos hp];by_cases hb:Utf8.decode s pos=(65533,1)
   .rw[if_pos hb,if_pos (by rw[hb];exact⟨rfl,rfl⟩)];rfl
   have hw:=decode_width_pos s pos hp;rw[if_neg hb,if_neg (fun e=>hb (Prod.ext e.1 e.2)),List.drop_drop];have ih:=b2P s f (pos+(Utf8.decode s pos).2) (by omega);rw[<- ih];simp
  have e:s.data.toList.drop pos=[]:=List.drop_eq_nil_of_le (by rw[<- size_eq];omega);rw[e,a5j s _ pos hp,validD_nil];rfl
theorem b2Q (s:ByteArray):∀ f pos cs,s.size<=pos+f->chF s f pos=some cs->runeCountFrom s f pos=cs.length/\s.size-pos<=4*cs.length/\cs.length<=s.size-pos
 | 0,pos,cs,h,e=>by
  rw[a5j s 0 pos (by omega)] at e;simp at e;subst e;simp[runeCountFrom];omega
 | f+1,pos,cs,h,e=>by
  by_cases hp:pos<s.size
  .have hw:=decode_width_pos s pos hp;have hl:=width_le s pos hp;rw[chF,if_pos hp] at e;by_cases hb:Utf8.decode s pos=(65533,1)
   .rw[if_pos hb] at e;cases e
   rw[if_neg hb] at e;obtain⟨l,e1,e2⟩:=Option.map_eq_some_iff.1 e;have ih:=b2Q s f (pos+(Utf8.decode s pos).2) l (by omega) e1;subst e2;unfold runeCountFrom;rw[if_pos hp];simp only[List.length_cons];omega
  rw[a5j s _ pos hp] at e;simp at e;subst e;rw[runeCountFrom_end s _ pos hp];simp;omega
theorem b2R (s:ByteArray):validD s.data.toList=(a2g s).isSome:=by
 have:=b2P s s.size 0 (by omega);rw[List.drop_zero] at this;exact this.symm
theorem count_eq (s:ByteArray) (cs:List Int) (h:a2g s=some cs):runeCount s=cs.length/\s.size<=4*cs.length/\cs.length<=s.size:=by
 have:=b2Q s s.size 0 cs (by omega) h;simpa[runeCount] using this
end Go.Proofs.YtphmpkpcamgjeaaGreatDoor.Lx
namespace Go.Proofs.YtphmpkpcamgjeaaGreatDoor.Lx
def wdI (b:Int):Bool:=(decide (97<=b)&&decide (b<=122)) || (decide (65<=b)&&decide (b<=90)) || decide (b=95)
def digI (b:Int):Bool:=decide (48<=b)&&decide (b<=57)
def goI (b:Int):Bool:=wdI b || digI b
def priI (b:Int):Bool:=decide (32<=b)&&decide (b<=126)
def nulI (b:Int):Bool:=decide (b=48)
def runN (p:Int->Bool):List UInt8->Nat
 | []=>0
 | c::t=>if p (c.toNat:Int) then runN p t+1 else 0
theorem runN_le (p:Int->Bool):∀ l,runN p l<=l.length
 | []=>Nat.le_refl _
 | c::t=>by have:=runN_le p t;unfold runN;split<;>simp<;>omega
theorem a2y (p:Int->Bool):∀ (l:List UInt8) (k:Nat) (c:UInt8),k<=runN p l->l[k]?=some c->(p (c.toNat:Int)=true->k+1<=runN p l)/\(p (c.toNat:Int)=false->runN p l=k)
 | [],k,c,h,e=>by simp at e
 | d::t,0,c,h,e=>by
  simp only[List.getElem?_cons_zero,Option.some.injEq] at e;subst e;unfold runN
  constructor<;>intro g<;>simp[g]
 | d::t,k+1,c,h,e=>by
  have ih:=a2y p t k c;simp only[List.getElem?_cons_succ] at e;unfold runN at h ⊢;by_cases g:p (d.toNat:Int)=true
  .simp only[g,if_true] at h ⊢;have:=ih (by omega) e;exact⟨fun x=>by have:=this.1 x;omega,fun x=>by have:=this.2 x;omega⟩
  simp[g] at h
theorem a5b (p:Int->Bool) (l:List UInt8) (k:Nat) (h:k<=runN p l) (e:l.length<=k):runN p l=k:=by
 have:=runN_le p l;omega
theorem runN_at (p:Int->Bool):∀ (l:List UInt8) (k:Nat) (c:UInt8),k<runN p l->l[k]?=some c->p (c.toNat:Int)=true
 | [],k,c,h,e=>by simp at e
 | d::t,0,c,h,e=>by
  simp only[List.getElem?_cons_zero,Option.some.injEq] at e;subst e;unfold runN at h;by_cases g:p (d.toNat:Int)=true
  .exact g
  simp[g] at h
 | d::t,k+1,c,h,e=>by
  simp only[List.getElem?_cons_succ] at e;unfold runN at h;by_cases g:p (d.toNat:Int)=true
  .simp only[g,if_true] at h;exact runN_at p t k c (by omega) e
  simp[g] at h
theorem a0P (s:ByteArray) (k:Nat) (h:k<s.size):s.data.toList[k]?=some (s[k]'h):=by
 rw[List.getElem?_eq_getElem (by simpa using h)];rfl
theorem b2S (s:ByteArray) (a k:Nat) (h:a+k<s.size):(s.data.toList.drop a)[k]?=some (s[a+k]'h):=by
 rw[List.getElem?_drop];exact a0P s (a+k) h
def noughts (l:List UInt8):List UInt8:=l.drop (min (runN nulI l) (l.length-1))
def val (l:List UInt8):Nat:=l.foldl (fun n c=>10*n+(c.toNat-48)) 0
def bigI (l:List UInt8):Bool:=decide (19<l.length) || decide (9223372036854775807<val l)
def unq (q:UInt8):List UInt8->Option (List UInt8×Nat)
 | []=>none
 | [c]=>if c=q then some ([],1) else none
 | c::d::t=>if c=q then(if d=q then(unq q t).map (fun x=>(q::x.1,x.2+2)) else some ([],1)) else(unq q (d::t)).map (fun x=>(c::x.1,x.2+1))
def signs:List (List UInt8):=[[60,61],[62,61],[60,62],[33,61],[124,124],[40],[41],[44],[46],[59],[43],[45],[42],[47],[37],[61],[60],[62]]
inductive Cut where
 | tok (kind:Int) (text:List UInt8) (size:Nat)
 | err (code:Int) (fault:Nat)
def lowC (c:UInt8):UInt8:=if 65<=c.toNat/\c.toNat<=90 then UInt8.ofNat (c.toNat+32) else c
def wordL (l:List UInt8):Cut:=if 30<runN goI l then .err 5 0 else .tok 1 ((l.take (runN goI l)).map lowC) (runN goI l)
def b6O (o:Option UInt8):Bool:=match o with | some c=>wdI (c.toNat:Int) | none=>false
def isDig (o:Option UInt8):Bool:=match o with | some c=>digI (c.toNat:Int) | none=>false
def a5X (l:List UInt8) (k:Int) (x:List UInt8) (n:Nat):Cut:=if b6O l[n]? then .err 2 n else .tok k x n
def decAt (l:List UInt8):Bool:=decide (l[runN digI l]?=some 46)&&isDig l[runN digI l+1]?
def numL (l:List UInt8):Cut:=
  if decAt l then
    (if 14<(noughts (l.take (runN digI l))).length\/4<runN digI (l.drop (runN digI l+1)) then .err 5 0
     else a5X l 4 (noughts (l.take (runN digI l))++(l.drop (runN digI l)).take (1+runN digI (l.drop (runN digI l+1)))) (runN digI l+1+runN digI (l.drop (runN digI l+1))))
  else if bigI (noughts (l.take (runN digI l))) then .err 5 0
  else a5X l 3 (noughts (l.take (runN digI l))) (runN digI l)
def quoL (l:List UInt8):Cut:=match unq 34 (l.drop 1) with
 | none=>.err 2 0
 | some x=>if x.1=[]\/runN priI x.1<x.1.length then .err 2 0 else if 30<x.1.length then .err 5 0 else .tok 2 x.1 (x.2+1)
def strL (l:List UInt8):Cut:=match unq 39 (l.drop 1) with
 | none=>.err 2 0
 | some x=>match a2g ⟨x.1.toArray⟩ with
 | none=>.err 2 0
 | some cs=>if 255<cs.length then .err 5 0 else .tok 5 x.1 (x.2+1)
def a4Y (l:List UInt8):Option (List UInt8):=signs.find? (fun g=>g.isPrefixOf l)
def sigL (l:List UInt8):Cut:=match a4Y l with
 | none=>.err 2 0
 | some g=>.tok 6 (if g=[33,61] then[60,62] else g) g.length
def cutL (l:List UInt8):Cut:=match l with
 | []=>.err 2 0
 | c::_=>if wdI (c.toNat:Int) then wordL l else if digI (c.toNat:Int) then numL l else if c=34 then quoL l else if c=39 then strL l else sigL l
end Go.Proofs.YtphmpkpcamgjeaaGreatDoor.Lx
namespace Go.Proofs.YtphmpkpcamgjeaaGreatDoor.Lx
theorem unq_len (q:UInt8):∀ (l:List UInt8) (x:List UInt8) (n:Nat),unq q l=some (x,n)->x.length+1<=n/\n<=l.length
 | [],x,n,h=>by simp[unq] at h
 | [c],x,n,h=>by
  unfold unq at h;split at h
  .simp at h;obtain⟨rfl,rfl⟩:=h;simp
  simp at h
 | c::d::t,x,n,h=>by
  unfold unq at h;split at h
  .split at h
   .cases hu:unq q t with
    | none=>simp[hu] at h
    | some y=>
    have:=unq_len q t y.1 y.2 (by simpa using hu);simp[hu] at h;obtain⟨rfl,rfl⟩:=h;simp;omega
   simp at h;obtain⟨rfl,rfl⟩:=h;simp
  cases hu:unq q (d::t) with
  | none=>simp[hu] at h
  | some y=>
  have:=unq_len q (d::t) y.1 y.2 (by simpa using hu);simp[hu] at h;obtain⟨rfl,rfl⟩:=h;simp at this ⊢;omega
def UnqI (q:UInt8) (l:List UInt8) (i:Nat) (out:List UInt8):Prop:=unq q (l.drop 1)=(unq q (l.drop i)).map (fun x=>(out++x.1,i-1+x.2))
theorem UnqI.zero (q:UInt8) (l:List UInt8):UnqI q l 1 []:=by unfold UnqI;simp
theorem drop_cons (l:List UInt8) (i:Nat) (c:UInt8) (h:l[i]?=some c):l.drop i=c::l.drop (i+1):=by
 obtain⟨hi,e⟩:=List.getElem?_eq_some_iff.1 h;rw[List.drop_eq_getElem_cons hi,e]
theorem drop_nil (l:List UInt8) (i:Nat) (h:l[i]?=none):l.drop i=[]:=List.drop_eq_nil_of_le (List.getElem?_eq_none_iff.1 h)
theorem b2T (q c:UInt8) (t:List UInt8) (h:c≠q):unq q (c::t)=(unq q t).map (fun x=>(c::x.1,x.2+1)):=by
 cases t with
 | nil=>simp[unq,h]
 | cons d t=>
 rw[unq];simp[h]
theorem UnqI.other {q c:UInt8} {l out:List UInt8} {i:Nat} (h:UnqI q l i out) (hi:1<=i) (e:l[i]?=some c) (hc:c≠q):UnqI q l (i+1) (out++[c]):=by
 unfold UnqI at h ⊢;rw[h,drop_cons l i c e,b2T q c _ hc]
 cases unq q (l.drop (i+1)) with
 | none=>rfl
 | some x=>
 simp;omega
theorem UnqI.twice {q:UInt8} {l out:List UInt8} {i:Nat} (h:UnqI q l i out) (hi:1<=i) (e:l[i]?=some q) (e2:l[i+1]?=some q):UnqI q l (i+1+1) (out++[q]):=by
 unfold UnqI at h ⊢;rw[h,drop_cons l i q e,drop_cons l (i+1) q e2];rw[unq];simp only[if_true]
 cases unq q (l.drop (i+1+1)) with
 | none=>rfl
 | some x=>
 simp;omega
theorem UnqI.done {q:UInt8} {l out:List UInt8} {i:Nat} (h:UnqI q l i out) (hi:1<=i) (e:l[i]?=some q) (e2:l[i+1]?≠some q):unq q (l.drop 1)=some (out,i):=by
 unfold UnqI at h;rw[h,drop_cons l i q e]
 cases g:l[i+1]? with
 | none=>rw[drop_nil l (i+1) g];simp[unq];omega
 | some d=>
 rw[drop_cons l (i+1) d g,unq];have:d≠q:=fun x=>e2 (by rw[g,x]);simp[this];omega
theorem UnqI.none {q:UInt8} {l out:List UInt8} {i:Nat} (h:UnqI q l i out) (e:l.length<=i):unq q (l.drop 1)=none:=by
 unfold UnqI at h;rw[h,List.drop_eq_nil_of_le e];simp[unq]
theorem a7d (c:UInt8) (t:List UInt8):noughts (48::c::t)=noughts (c::t):=by
 unfold noughts
 have:runN nulI (48::c::t)=runN nulI (c::t)+1:=by rw[runN];simp[nulI]
 rw[this];have h:=runN_le nulI (c::t);simp only[List.length_cons] at h ⊢
 have e:min (runN nulI (c::t)+1) (t.length+1+1-1)=min (runN nulI (c::t)) (t.length+1-1)+1:=by omega
 rw[e,List.drop_succ_cons]
theorem a7e (c:UInt8) (t:List UInt8) (h:c≠48):noughts (c::t)=c::t:=by
 unfold noughts
 have:runN nulI (c::t)=0:=by
  rw[runN,if_neg];simp[nulI];intro x;exact h (UInt8.toNat.inj (show c.toNat=48 by omega))
 rw[this];simp
theorem a8m (c:UInt8):noughts [c]=[c]:=by unfold noughts;simp
theorem a8n:noughts []=[]:=by unfold noughts;simp
theorem noughts_len (l:List UInt8):(noughts l).length<=l.length/\(1<=l.length->1<=(noughts l).length):=by
 unfold noughts;rw[List.length_drop];omega
abbrev Tok:=Int×List UInt8×Nat
inductive LexRes where
 | ok (l:List Tok)
 | err (code:Int) (pos:Nat)
def blank (c:UInt8):Bool:=decide (c=32) || decide (c=9) || decide (c=10) || decide (c=13)
def a2H (l:List UInt8) (k:Nat):Bool:=decide (l[k]?=some 45)&&decide (l[k+1]?=some 45)
def nlI (b:Int):Bool:=!decide (b=10)
inductive LexR (l:List UInt8):Nat->List Tok->LexRes->Prop
 | fin {k:Nat} {acc:List Tok} (h:l.length<=k):LexR l k acc (.ok acc)
 | blank {k:Nat} {acc:List Tok} {r:LexRes} {c:UInt8} (h:l[k]?=some c) (hb:blank c=true) (nx:LexR l (k+1) acc r):LexR l k acc r
 | cmt {k:Nat} {acc:List Tok} {r:LexRes} (hc:a2H l k=true) (nx:LexR l (k+runN nlI (l.drop k)) acc r):LexR l k acc r
 | many {k:Nat} {acc:List Tok} {c:UInt8} (h:l[k]?=some c) (hb:Go.Proofs.YtphmpkpcamgjeaaGreatDoor.Lx.blank c=false) (hc:a2H l k=false) (hm:acc.length=2000):LexR l k acc (.err 5 k)
 | bad {k:Nat} {acc:List Tok} {c:UInt8} {e:Int} {f:Nat} (h:l[k]?=some c) (hb:Go.Proofs.YtphmpkpcamgjeaaGreatDoor.Lx.blank c=false) (hc:a2H l k=false) (hm:acc.length≠2000) (hk:cutL (l.drop k)=.err e f):LexR l k acc (.err e (k+f))
 | tok {k:Nat} {acc:List Tok} {c:UInt8} {r:LexRes} {t:Int} {x:List UInt8} {n:Nat} (h:l[k]?=some c) (hb:Go.Proofs.YtphmpkpcamgjeaaGreatDoor.Lx.blank c=false) (hc:a2H l k=false) (hm:acc.length≠2000) (hk:cutL (l.drop k)=.tok t x n) (nx:LexR l (k+n) (acc++[(t,x,k)]) r):LexR l k acc r
theorem a3G {l:List UInt8} {k:Nat} (h:a2H l k=true):l[k]?=some 45:=by
 unfold a2H at h;simp at h;exact h.1
theorem a2K {l:List UInt8} {k:Nat} {c:UInt8} (h:l[k]?=some c):k<l.length:=(List.getElem?_eq_some_iff.1 h).1
theorem LexR.det {l:List UInt8} {k:Nat} {acc:List Tok} {r r':LexRes} (h:LexR l k acc r) (h':LexR l k acc r'):r=r':=by
 induction h with
 | many h hb hc hm=>
  cases h' with
  | many _ _ _ _=>rfl
  | bad _ _ _ gm _=>exact absurd hm gm
  | tok _ _ _ gm _ _=>exact absurd hm gm
  | fin g=>have:=a2K h;omega
  | cmt gc _=>rw[hc] at gc;cases gc
  | blank g gb _=>
  rw[h] at g;cases g;rw[hb] at gb;cases gb
 | fin h=>
  cases h' with
  | fin _=>rfl
  | blank g _ _=>have:=a2K g;omega
  | many g _ _ _=>have:=a2K g;omega
  | bad g _ _ _ _=>have:=a2K g;omega
  | tok g _ _ _ _ _=>have:=a2K g;omega
  | cmt hc _=>
  have:=a2K (a3G hc);omega
 | bad h hb hc hm hk=>
  cases h' with
  | many _ _ _ gm=>exact absurd gm hm
  | fin g=>have:=a2K h;omega
  | cmt gc _=>rw[hc] at gc;cases gc
  | tok _ _ _ _ gk _=>rw[hk] at gk;cases gk
  | bad _ _ _ _ gk=>rw[hk] at gk;cases gk;rfl
  | blank g gb _=>
  rw[h] at g;cases g;rw[hb] at gb;cases gb
 | tok h hb hc hm hk nx ih=>
  cases h' with
  | many _ _ _ gm=>exact absurd gm hm
  | fin g=>have:=a2K h;omega
  | cmt gc _=>rw[hc] at gc;cases gc
  | bad _ _ _ _ gk=>rw[hk] at gk;cases gk
  | tok _ _ _ _ gk n2=>rw[hk] at gk;cases gk;exact ih n2
  | blank g gb _=>
  rw[h] at g;cases g;rw[hb] at gb;cases gb
 | cmt hc nx ih=>
  cases h' with
  | cmt _ n2=>exact ih n2
  | many g gb gc _=>rw[hc] at gc;cases gc
  | bad g gb gc _ _=>rw[hc] at gc;cases gc
  | tok g gb gc _ _ _=>rw[hc] at gc;cases gc
  | fin g=>have:=a2K (a3G hc);omega
  | blank g gb _=>
  have:=a3G hc;rw[g] at this;cases this;exact absurd gb (by decide)
 | blank h hb nx ih=>
 cases h' with
 | blank g _ n2=>exact ih n2
 | fin g=>have:=a2K h;omega
 | many g gb _ _=>rw[h] at g;cases g;rw[hb] at gb;cases gb
 | bad g gb _ _ _=>rw[h] at g;cases g;rw[hb] at gb;cases gb
 | tok g gb _ _ _ _=>rw[h] at g;cases g;rw[hb] at gb;cases gb
 | cmt hc _=>
 have:=a3G hc;rw[h] at this;cases this;exact absurd hb (by decide)
theorem runN_pos (p:Int->Bool) (c:UInt8) (t:List UInt8) (h:p (c.toNat:Int)=true):1<=runN p (c::t):=by rw[runN,if_pos h];omega
theorem sigAt_len {l g:List UInt8} (h:a4Y l=some g):1<=g.length/\g.length<=l.length:=by
 unfold a4Y at h;have h1:=List.mem_of_find?_eq_some h;have h2:=List.find?_some h
 have h3:g.length<=l.length:=by
  obtain⟨t,e⟩:=List.isPrefixOf_iff_prefix.1 h2;rw[<- e];simp
 refine⟨?_,h3⟩;unfold signs at h1;simp only[List.mem_cons,List.not_mem_nil,or_false] at h1
 rcases h1 with h1 | h1 | h1 | h1 | h1 | h1 | h1 | h1 | h1 | h1 | h1 | h1 | h1 | h1 | h1 | h1 | h1 | h1<;>(subst h1;decide)
theorem afterN_tok {l x y:List UInt8} {k t:Int} {n m:Nat} (h:a5X l k x n=.tok t y m):t=k/\y=x/\m=n:=by
 unfold a5X at h;split at h
 .cases h
 cases h;exact⟨rfl,rfl,rfl⟩
theorem cut_size {l x:List UInt8} {k:Int} {n:Nat} (h:cutL l=.tok k x n):1<=n/\n<=l.length:=by
 cases l with
 | nil=>cases h
 | cons c t=>
 unfold cutL at h;simp only at h;split at h
 .rename_i hw;have h1:=runN_pos goI c t (by unfold goI;rw[hw];rfl);have h2:=runN_le goI (c::t);unfold wordL at h;split at h
  .cases h
  cases h;exact⟨h1,h2⟩
 split at h
 .rename_i hw;have h1:=runN_pos digI c t hw;have h2:=runN_le digI (c::t);unfold numL at h;split at h
  .rename_i hd;split at h
   .cases h
   obtain⟨_,_,rfl⟩:=afterN_tok h;unfold decAt at hd;simp only[Bool.and_eq_true] at hd
   cases hg:(c::t)[runN digI (c::t)+1]? with
   | none=>rw[hg] at hd;exact absurd hd.2 (by decide)
   | some d=>
   have:=a2K hg;have h3:=runN_le digI ((c::t).drop (runN digI (c::t)+1));rw[List.length_drop] at h3;omega
  split at h
  .cases h
  obtain⟨_,_,rfl⟩:=afterN_tok h;exact⟨h1,h2⟩
 split at h
 .unfold quoL at h;split at h
  .cases h
  rename_i y hy;have:=unq_len 34 _ y.1 y.2 hy;rw[List.length_drop] at this;split at h
  .cases h
  split at h
  .cases h
  cases h;simp at this ⊢;omega
 split at h
 .unfold strL at h;split at h
  .cases h
  rename_i y hy;have:=unq_len 39 _ y.1 y.2 hy;rw[List.length_drop] at this;split at h
  .cases h
  split at h
  .cases h
  cases h;simp at this ⊢;omega
 unfold sigL at h;split at h
 .cases h
 rename_i g hg;cases h;exact sigAt_len hg
end Go.Proofs.YtphmpkpcamgjeaaGreatDoor.Lx
namespace Go.Proofs.YtphmpkpcamgjeaaGreatDoor.Lx
open Go.Lib
theorem a4Z (n:Nat) (h:n<128):encodeRune (n:Int)=[n.toUInt8]:=by
 unfold encodeRune;rw[encodeRuneZ_one (by omega) (by omega)];simp
theorem a5Y (f:Int->Int) (g:UInt8->UInt8):∀ l:List UInt8,(∀ c∈l,c.toNat<128/\f (c.toNat:Int)=((g c).toNat:Int)/\(g c).toNat<128)->mapD f l=l.map g
 | [],_=>rfl
 | c::t,h=>by
  obtain⟨h1,h2,h3⟩:=h c (by simp);have ih:=a5Y f g t (fun x hx=>h x (by simp[hx]));rw[mapD_step f (c::t) (by simp),decodeL_ascii c t h1];simp only[h2];rw[if_pos (by omega),a4Z _ h3];simp[ih]
def digs (l:List UInt8):Prop:=∀ c∈l,digI (c.toNat:Int)=true
theorem a5c (c:UInt8):digI (c.toNat:Int)=true↔48<=c.toNat/\c.toNat<=57:=by unfold digI;simp;omega
theorem b8t (l:List UInt8):∀ n,l.foldl (fun n c=>10*n+(c.toNat-48)) n=n*10^l.length+val l:=by
 induction l with
 | nil=>intro n;simp[val]
 | cons c t ih=>
 intro n;unfold val;simp only[List.foldl_cons,List.length_cons];rw[ih,ih (10*0+(c.toNat-48)),Nat.pow_succ];simp only[Nat.mul_zero,Nat.zero_add,Nat.add_mul]
 have:10*n*10^t.length=n*(10^t.length*10):=by rw[Nat.mul_comm 10 n,Nat.mul_assoc,Nat.mul_comm 10]
 omega
theorem a6w (c:UInt8) (t:List UInt8):val (c::t)=(c.toNat-48)*10^t.length+val t:=by
 have:=b8t t (10*0+(c.toNat-48));unfold val;simp only[List.foldl_cons];rw[this];simp[val]
theorem b4P (l:List UInt8) (c:UInt8):val (l++[c])=10*val l+(c.toNat-48):=by
 unfold val;rw[List.foldl_append];rfl
theorem a3Y:∀ l:List UInt8,digs l->val l<10^l.length
 | [],_=>by simp[val]
 | c::t,h=>by
  have ih:=a3Y t (fun x hx=>h x (by simp[hx]));have hc:=(a5c c).1 (h c (by simp));rw[a6w,List.length_cons,Nat.pow_succ];have:(c.toNat-48)*10^t.length<=9*10^t.length:=Nat.mul_le_mul_right _ (by omega);omega
theorem a6x:∀ (a b:List UInt8),digs a->digs b->a.length=b.length->(Op.bytesLess a b=true↔val a<val b)
 | [],[],_,_,_=>by simp[Op.bytesLess,val]
 | [],_::_,_,_,h=>by simp at h
 | _::_,[],_,_,h=>by simp at h
 | x::a,y::b,ha,hb,h=>by
  have ih:=a6x a b (fun z hz=>ha z (by simp[hz])) (fun z hz=>hb z (by simp[hz])) (by simpa using h);have hx:=(a5c x).1 (ha x (by simp));have hy:=(a5c y).1 (hb y (by simp));have la:=a3Y a (fun z hz=>ha z (by simp[hz]));have lb:=a3Y b (fun z hz=>hb z (by simp[hz]))
  have hl:a.length=b.length:=by simpa using h
  rw[a6w,a6w,hl];rw[hl] at la;unfold Op.bytesLess;rcases Nat.lt_trichotomy x.toNat y.toNat with g | g | g
  .have e:(x.toNat-48+1)*10^b.length<=(y.toNat-48)*10^b.length:=Nat.mul_le_mul_right _ (by omega);rw[Nat.add_mul] at e;have:x<y:=UInt8.lt_iff_toNat_lt.2 g;simp[this];omega
  .have:x=y:=UInt8.toNat.inj g;subst this;simp[ih]
  have e:(y.toNat-48+1)*10^b.length<=(x.toNat-48)*10^b.length:=Nat.mul_le_mul_right _ (by omega);rw[Nat.add_mul] at e
  have h1:¬ x<y:=fun z=>by have:=UInt8.lt_iff_toNat_lt.1 z;omega
  have h2:¬ x=y:=fun z=>by subst z;omega
  simp only[h1,h2,decide_false,beq_eq_false_iff_ne.2 h2,Bool.false_and,Bool.or_false];constructor
  .intro z;cases z
  intro z;omega
end Go.Proofs.YtphmpkpcamgjeaaGreatDoor.Lx
namespace Go.Proofs.YtphmpkpcamgjeaaGreatDoor.Lx
theorem b6P {c:UInt8} (h:¬ (65<=c.toNat/\c.toNat<=90)):lowC c=c:=by unfold lowC;rw[if_neg h]
end Go.Proofs.YtphmpkpcamgjeaaGreatDoor.Lx
namespace Go.Proofs.YtphmpkpcamgjeaaGreatDoor.Lx
theorem b6Q (t:List UInt8):cutL (34::t)=quoL (34::t):=by
 unfold cutL;simp only;rw[if_neg (by decide),if_neg (by decide),if_pos trivial]
theorem b6R (t:List UInt8):cutL (39::t)=strL (39::t):=by
 unfold cutL;simp only;rw[if_neg (by decide),if_neg (by decide),if_neg (by decide),if_pos trivial]
end Go.Proofs.YtphmpkpcamgjeaaGreatDoor.Lx
namespace Go.Proofs.YtphmpkpcamgjeaaGreatDoor.Lx
end Go.Proofs.YtphmpkpcamgjeaaGreatDoor.Lx
namespace Go.Proofs.YtphmpkpcamgjeaaGreatDoor.Lx
end Go.Proofs.YtphmpkpcamgjeaaGreatDoor.Lx
