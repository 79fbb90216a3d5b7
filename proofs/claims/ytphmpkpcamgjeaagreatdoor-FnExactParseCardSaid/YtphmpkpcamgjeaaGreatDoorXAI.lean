import Derived.Test.YtphmpkpcamgjeaaGreatDoorXAH
import Derived.Test.YtphmpkpcamgjeaaGreatDoorXAD
import Derived.Test.YtphmpkpcamgjeaaGreatDoorXAA
import Derived.Test.YtphmpkpcamgjeaaGreatDoorRows
import Derived.Test.YtphmpkpcamgjeaaGreatDoorXAB
import Derived.Test.YtphmpkpcamgjeaaGreatDoorS1
import Derived.WalkKit
import Derived.ProofKit
import Derived.OpenShut
import Derived.WalkLawsBesides
import Derived.Deep.Light
import Derived.WalkSpells
import Derived.Laws.RangeString
import Derived.Laws.RangeAny
set_option linter.unusedVariables false
set_option linter.unusedSimpArgs false
set_option maxRecDepth 100000
set_option maxHeartbeats 16000000
namespace Go.Proofs.YtphmpkpcamgjeaaGreatDoor.Lx
open Go.ChangeShapes Go.WideShapes Go.ChangeAt Go.RowKit Go.Proofs.Tryz Go.Shelf
def UnqPost (s:ByteArray) (q:UInt8) (w:World) (e:Ending) (w':World):Prop:=
  (match unq q (s.data.toList.drop 1) with
 | none=>e=.returned (.tuple #[.string ⟨#[]⟩,.int .i64 0,.bool false])
 | some x=>e=.returned (.tuple #[.string ⟨x.1.toArray⟩,.int .i64 ((x.2+1:Nat):Int),.bool true]))/\Below w.heap.size w w'
theorem UnqPost.none {s:ByteArray} {q:UInt8} {w w':World} (h:unq q (s.data.toList.drop 1)=none) (hb:Below w.heap.size w w'):UnqPost s q w (.returned (.tuple #[.string ⟨#[]⟩,.int .i64 0,.bool false])) w':=by
 unfold UnqPost;rw[h];exact⟨rfl,hb⟩
theorem UnqPost.some {s:ByteArray} {q:UInt8} {w w':World} {x:List UInt8} {n:Nat} {p:Int} (h:unq q (s.data.toList.drop 1)=some (x,n)) (hp:p=((n+1:Nat):Int)) (hb:Below w.heap.size w w'):UnqPost s q w (.returned (.tuple #[.string ⟨x.toArray⟩,.int .i64 p,.bool true])) w':=by
 unfold UnqPost;rw[h,hp];exact⟨rfl,hb⟩
theorem b3M (l:List UInt8) (c:UInt8):Lib.byteCells (l++[c])=Lib.byteCells l++[.int .u8 (c.toNat:Int)]:=by simp[Lib.byteCells]
theorem a8K (w:World):Lib.IsBuilder 153 5 w.heap.size w.heap.size [] (w.alloc (.cells #[.pointer none,.slice none 0 0] 153)):=
  .inl ⟨Nat.le_refl _,.slice none 0 0,heap_alloc_new w _,⟨rfl,.inl ⟨rfl,rfl⟩⟩,by simp[Value.ownBlock]⟩
theorem a3D {T e:TypeId} {B b:Nat} {bs:List Value} {w:World} (h:Lib.IsBuilder T e B b bs w):∀ n,Lib.IsBuilder T e B b bs (w.drewN n)
 | 0=>h
 | n+1=>by have:=a3D h n;exact this.imp (fun x=>x.drew) (fun x=>x.drew)
theorem below_drewN {B:Nat} {w w':World} (h:Below B w w'):∀ n,Below B w (w'.drewN n)
 | 0=>h
 | n+1=>(below_drewN h n).drew
theorem a4T (s:ByteArray) (q:UInt8) (w:World) (hs:s.size<=1048576) (h0:0<s.size) (hq:s[0]'h0=q) :
 Calls prog 103 #[.string s] w fun e w'=>UnqPost s q w e w':=by
 have hqi:((s[0]'h0).toNat:Int)=(q.toNat:Int):=by rw[hq]
 have HLEN:Hid (s.data.toList.length=s.size):=by show s.data.toList.length=s.size;simp
 have b0:(0:Int)<s.size:=by omega
 go_enter func103,ntmps103;go_wp2;go_loopw [6] (fun i wr=>∃ (p:Nat) (out:List UInt8),1<=p/\p<=s.size/\i=.int .i64 p/\out.length<=p/\Hid (UnqI q s.data.toList p out)/\Lib.IsBuilder 153 5 w.heap.size w.heap.size (Lib.byteCells out) wr/\Below w.heap.size w wr) (fun i _=>s.size-(intOf i).toNat)
 case atStart=>
  exact⟨1,[],by omega,by omega,rfl,by simp,UnqI.zero q s.data.toList,a8K w,(Below.refl _ _).alloc (Nat.le_refl _) _⟩
 case round=>
 obtain⟨p,out,a3,b1,rfl,hol,HU,hbu,hbel⟩:=hrel;have hbs:=hbel.size;by_cases hlt:p<s.size
 .have HG:Hid (s.data.toList[p]?=some (s[p]'hlt)):=a0P s p hlt
  have hlti:(p:Int)<s.size:=by omega
  by_cases hc:s[p]'hlt=q
  .have hci:((s[p]'hlt).toNat:Int)=(q.toNat:Int):=by rw[hc]
   have HG':Hid (s.data.toList[p]?=some q):=by have:=HG.out;rw[hc] at this;exact this
   clear hc HG;by_cases hlt2:p+1<s.size
   .have a4:Hid (s.data.toList[p+1]?=some (s[p+1]'hlt2)):=a0P s (p+1) hlt2
    have a6:(p:Int)+1<s.size:=by omega
    have a7:(((p:Int)+1)==(s.size:Int))=false:=by rw[beq_eq_false_iff_ne];omega
    by_cases hd:s[p+1]'hlt2=q
    .have hdi:((s[p+1]'hlt2).toNat:Int)=(q.toNat:Int):=by rw[hd]
     have a1:Hid (s.data.toList[p+1]?=some q):=by have:=a4.out;rw[hd] at this;exact this
     clear hd a4;go_wp2;go_quiet (fail);go_wp2;go_quiet (fail);go_wp2_with (go_at_call 140;refine(Tryz.Builder_WriteByte _ _ (Lib.byteCells out) _ _ (a3D hbu _) (by rw[Lib.byteCells_length];omega) (below_drewN hbel _).size).mono ?_;rintro e w1 ⟨rfl,hAt,a0⟩);have a5:Hid (Below w.heap.size w w1):=(below_drewN hbel _).trans a0;have HO:Hid (Lib.IsBuilder 153 5 w.heap.size w.heap.size (Lib.byteCells (out++[q])) w1):=.inr (by rw[b3M];exact hAt);clear hAt a0 hbu hbel;go_wp2;go_roundw
     case rel=>exact⟨p+1+1,out++[q],by omega,by omega,by go_num,by simp;omega,UnqI.twice HU.out a3 HG'.out a1.out,HO.out,a5.out⟩
     case measure=>simp[intOf];omega
    have a2:¬ ((s[p+1]'hlt2).toNat:Int)=(q.toNat:Int):=fun z=>hd (UInt8.toNat.inj (by omega));obtain⟨d,hdd⟩:∃ d:Int,((s[p+1]'hlt2).toNat:Int)=d:=⟨_,rfl⟩
    have hdi:(d==(q.toNat:Int))=false:=by rw[beq_eq_false_iff_ne,<- hdd];exact a2
    have a8:(d != (q.toNat:Int))=true:=by rw[bne_iff_ne,<- hdd];exact a2
    clear a2
    have a1:Hid (s.data.toList[p+1]?≠some q):=by
     show s.data.toList[p+1]?≠some q
     rw[a4.out];intro z;exact hd (Option.some.inj z)
    clear hd a4;go_wp2;go_quiet (fail);go_wp2;go_quiet (fail);go_wp2_with (go_at_call 139;refine(Tryz.Builder_String_any _ _ out _ (a3D hbu _) (below_drewN hbel _).size).mono ?_;rintro e w1 ⟨rfl,a0⟩);go_ret3;exact UnqPost.some (UnqI.done HU.out a3 HG'.out a1.out) (by omega) ((below_drewN hbel _).trans a0)
   have a9:(((p:Int)+1)==(s.size:Int))=true:=by rw[beq_iff_eq];omega
   have a1:Hid (s.data.toList[p+1]?≠some q):=by
    show s.data.toList[p+1]?≠some q
    rw[List.getElem?_eq_none (by rw[HLEN.out];omega)];intro z;cases z
   go_wp2;go_quiet (fail);go_wp2;go_quiet (fail);go_wp2_with (go_at_call 139;refine(Tryz.Builder_String_any _ _ out _ (a3D hbu _) (below_drewN hbel _).size).mono ?_;rintro e w1 ⟨rfl,a0⟩);go_ret3;exact UnqPost.some (UnqI.done HU.out a3 HG'.out a1.out) (by omega) ((below_drewN hbel _).trans a0)
  have hci:((((s[p]'hlt).toNat:Int))==(q.toNat:Int))=false:=by
   rw[beq_eq_false_iff_ne];exact fun z=>hc (UInt8.toNat.inj (by omega))
  go_wp2;go_quiet (fail);go_wp2_with (go_at_call 140;refine(Tryz.Builder_WriteByte _ _ (Lib.byteCells out) _ _ (a3D hbu _) (by rw[Lib.byteCells_length];omega) (below_drewN hbel _).size).mono ?_;rintro e w1 ⟨rfl,hAt,a0⟩);have a5:Hid (Below w.heap.size w w1):=(below_drewN hbel _).trans a0;have HO:Hid (Lib.IsBuilder 153 5 w.heap.size w.heap.size (Lib.byteCells (out++[s[p]'hlt])) w1):=.inr (by rw[b3M];exact hAt);clear hAt a0 hbu hbel;go_wp2;go_roundw
  case rel=>exact⟨p+1,out++[s[p]'hlt],by omega,by omega,by go_num,by simp;omega,UnqI.other HU.out a3 HG.out hc,HO.out,a5.out⟩
  case measure=>simp[intOf];omega
 go_wp2;go_ret3;exact UnqPost.none (UnqI.none HU.out (by rw[HLEN.out];omega)) hbel
end Go.Proofs.YtphmpkpcamgjeaaGreatDoor.Lx
namespace Go.Proofs.YtphmpkpcamgjeaaGreatDoor.Lx
open Go.ChangeShapes Go.WideShapes Go.ChangeAt Go.RowKit Go.Proofs.Tryz Go.Shelf
def sgB (i:Nat):ByteArray:=⟨(signs.getD i []).toArray⟩
def Sg (w:World) (B:Nat):Prop:=∀ i,i<18->w.cell? ⟨B,i,none⟩=some (.string (sgB i))
theorem b6B (w:World):Sg (w.alloc (.cells #[.string ⟨#[60,61]⟩,.string ⟨#[62,61]⟩,.string ⟨#[60,62]⟩,.string ⟨#[33,61]⟩,.string ⟨#[124,124]⟩,.string ⟨#[40]⟩,.string ⟨#[41]⟩,.string ⟨#[44]⟩,.string ⟨#[46]⟩,.string ⟨#[59]⟩,.string ⟨#[43]⟩,.string ⟨#[45]⟩,.string ⟨#[42]⟩,.string ⟨#[47]⟩,.string ⟨#[37]⟩,.string ⟨#[61]⟩,.string ⟨#[60]⟩,.string ⟨#[62]⟩] 9)) w.heap.size:=by
 intro i hi
 have h:i=0\/i=1\/i=2\/i=3\/i=4\/i=5\/i=6\/i=7\/i=8\/i=9\/i=10\/i=11\/i=12\/i=13\/i=14\/i=15\/i=16\/i=17:=by omega
 rcases h with h | h | h | h | h | h | h | h | h | h | h | h | h | h | h | h | h | h<;>(subst h;simp only[World.cell?];rw[heap_alloc_new];rfl)
def SigI (l:List UInt8) (k:Nat):Prop:=a4Y l=(signs.drop k).find? (fun g=>g.isPrefixOf l)
theorem SigI.zero (l:List UInt8):SigI l 0:=rfl
theorem b1e (k:Nat) (h:k<18):signs.drop k=(sgB k).data.toList::signs.drop (k+1):=by
 have hl:k<signs.length:=h;rw[List.drop_eq_getElem_cons hl];congr 1;unfold sgB;simp[List.getD,List.getElem?_eq_getElem hl]
theorem SigI.next {l:List UInt8} {k:Nat} (h:SigI l k) (hk:k<18) (hp:(sgB k).data.toList.isPrefixOf l=false):SigI l (k+1):=by
 unfold SigI at h ⊢;rw[h,b1e k hk,List.find?_cons_of_neg (by rw[hp];decide)]
theorem SigI.hit {l:List UInt8} {k:Nat} (h:SigI l k) (hk:k<18) (hp:(sgB k).data.toList.isPrefixOf l=true):a4Y l=some (sgB k).data.toList:=by
 unfold SigI at h;rw[h,b1e k hk];simp[List.find?_cons,hp]
theorem SigI.end {l:List UInt8} (h:SigI l 18):a4Y l=none:=h
theorem b1f (k:Nat) (h:k<18):1<=(sgB k).size/\(sgB k).size<=2:=by
 have h':k=0\/k=1\/k=2\/k=3\/k=4\/k=5\/k=6\/k=7\/k=8\/k=9\/k=10\/k=11\/k=12\/k=13\/k=14\/k=15\/k=16\/k=17:=by omega
 rcases h' with h | h | h | h | h | h | h | h | h | h | h | h | h | h | h | h | h | h<;>(subst h;decide)
theorem a7N (s:ByteArray) (a b:Nat):(s.extract a b).data.toList=(s.data.toList.drop a).take (b-a):=by
 rw[ByteArray.data_extract,Array.toList_extract,List.extract_eq_take_drop]
theorem pre_eq (s g:ByteArray) (a:Nat) (h:a+g.size<=s.size):((s.extract a (a+g.size)).toList==g.toList)=g.data.toList.isPrefixOf (s.data.toList.drop a):=by
 rw[Lib.toList_data,Lib.toList_data,a7N,Nat.add_sub_cancel_left];rw[Bool.eq_iff_iff,beq_iff_eq,List.isPrefixOf_iff_prefix]
 have hl:g.data.toList.length=g.size:=by simp
 constructor
 .intro e;rw[<- e];exact List.take_prefix _ _
 intro e;obtain⟨t,e⟩:=e;rw[<- e,<- hl,List.take_left]
theorem b5K (s g:ByteArray) (a:Nat) (h:s.size<a+g.size) (ha:a<=s.size):g.data.toList.isPrefixOf (s.data.toList.drop a)=false:=by
 rw[Bool.eq_false_iff];intro e;obtain⟨t,e⟩:=List.isPrefixOf_iff_prefix.1 e;have:=congrArg List.length e;simp at this;omega
theorem b2k (s:ByteArray) (a:Nat) (w:World) (hs:s.size<=1048576) (ha:a<=s.size) :
 Calls prog 48 #[.string s,.int .i64 a] w fun e w'=>e=.returned (.string ⟨((a4Y (s.data.toList.drop a)).getD []).toArray⟩)/\Below w.heap.size w w':=by
 go_enter func48,ntmps48;go_wp2;go_loopw [11] (fun i wr=>∃ k:Nat,k<=18/\i=.int .i64 k/\Hid (SigI (s.data.toList.drop a) k)/\Hid (Sg wr w.heap.size)/\Below w.heap.size w wr) (fun i _=>18-(intOf i).toNat)
 case atStart=>exact⟨0,by omega,rfl,SigI.zero _,b6B w,(Below.refl _ _).alloc (Nat.le_refl _) _⟩
 case round=>
 obtain⟨k,hk,rfl,HI,HS,hbel⟩:=hrel;by_cases hlt:k<18
 .have hck:=HS.out k hlt;have hsz:=b1f k hlt;have HPE:=pre_eq s (sgB k) a;have HPL:=b5K s (sgB k) a;have HN:=HI.out.next hlt;have HH:=HI.out.hit hlt;have hg:∃ g:ByteArray,sgB k=g:=⟨_,rfl⟩;obtain⟨g,hg⟩:=hg;rw[hg] at hck hsz HPE HPL HN HH;clear hg;by_cases hroom:a+g.size<=s.size
  .have he:=HPE hroom;cases hp:g.data.toList.isPrefixOf (s.data.toList.drop a)
   .have a0:Hid (SigI (s.data.toList.drop a) (k+1)):=HN hp;rw[hp] at he;clear HPE HPL HN HH hp;go_wp2;go_roundw
    case rel=>exact⟨k+1,by omega,by go_num,a0,HS,hbel⟩
    case measure=>simp[intOf];omega
   have a2:Hid (a4Y (s.data.toList.drop a)=some g.data.toList):=HH hp;rw[hp] at he;clear HPE HPL HN HH hp;go_wp2;go_ret;refine⟨ret_str ?_,hbel⟩;rw[a2.out];exact(a3C g).symm
  have a0:Hid (SigI (s.data.toList.drop a) (k+1)):=HN (HPL (by omega) ha);clear HPE HPL HN HH
  have hroom':¬ (a:Int)+(g.size:Int)<=s.size:=by omega
  go_wp2;go_roundw
  case rel=>exact⟨k+1,by omega,by go_num,a0,HS,hbel⟩
  case measure=>simp[intOf];omega
 have a1:k=18:=by omega
 subst a1;have HE:Hid (a4Y (s.data.toList.drop a)=none):=HI.out.end;go_wp2;go_ret;refine⟨ret_str ?_,hbel⟩;rw[HE.out];rfl
end Go.Proofs.YtphmpkpcamgjeaaGreatDoor.Lx
namespace Go.Proofs.YtphmpkpcamgjeaaGreatDoor.Lx
open Go.ChangeShapes Go.WideShapes Go.ChangeAt Go.RowKit Go.Proofs.Tryz Go.Shelf
def cutV:Cut->Value
 | .tok k x n=>.agg #[.int .i64 k,.string ⟨x.toArray⟩,.int .i64 n,.int .i64 0,.int .i64 0]
 | .err c f=>.agg #[.int .i64 0,.string ⟨#[]⟩,.int .i64 0,.int .i64 c,.int .i64 f]
theorem retV {a b:Value} (h:a=b):Ending.returned a=.returned b:=by rw[h]
theorem a8L (s:ByteArray) (w:World) (hs:s.size<=1048576) :
 Calls prog 66 #[.string s] w fun e w'=>e=.returned (cutV (sigL s.data.toList))/\Below w.heap.size w w':=by
 go_enter func66,ntmps66;go_wp2;go_loopw [8] (fun i wr=>∃ k:Nat,k<=18/\i=.int .i64 k/\Hid (SigI s.data.toList k)/\Hid (Sg wr (w.heap.size+1))/\Hid (wr=(w.alloc (.cells #[.int .i64 0,.string ⟨#[]⟩,.int .i64 0,.int .i64 0,.int .i64 0] 88)).alloc (.cells #[.string ⟨#[60,61]⟩,.string ⟨#[62,61]⟩,.string ⟨#[60,62]⟩,.string ⟨#[33,61]⟩,.string ⟨#[124,124]⟩,.string ⟨#[40]⟩,.string ⟨#[41]⟩,.string ⟨#[44]⟩,.string ⟨#[46]⟩,.string ⟨#[59]⟩,.string ⟨#[43]⟩,.string ⟨#[45]⟩,.string ⟨#[42]⟩,.string ⟨#[47]⟩,.string ⟨#[37]⟩,.string ⟨#[61]⟩,.string ⟨#[60]⟩,.string ⟨#[62]⟩] 9))) (fun i _=>18-(intOf i).toNat)
 case atStart=>
  have h:=b6B (w.alloc (.cells #[.int .i64 0,.string ⟨#[]⟩,.int .i64 0,.int .i64 0,.int .i64 0] 88));exact⟨0,by omega,rfl,SigI.zero _,by simp at h;exact h,rfl⟩
 case round=>
 obtain⟨k,hk,rfl,HI,HS,HW⟩:=hrel;by_cases hlt:k<18
 .have hck:=HS.out k hlt;have hsz:=b1f k hlt;have HN:=HI.out.next hlt;have HH:=HI.out.hit hlt;have hg:∃ g:ByteArray,sgB k=g:=⟨_,rfl⟩;obtain⟨g,hg⟩:=hg;rw[hg] at hck hsz HN HH;clear hg;have hpre:=fun w=>Tryz.strings_HasPrefix s g w;unfold Lib.hasPrefix at hpre;cases hp:g.data.toList.isPrefixOf s.data.toList
  .have a4:Hid (SigI s.data.toList (k+1)):=HN hp;rw[hp] at hpre;clear HN HH hp;go_wp2_with (go_at_call 59;refine ws (hpre _) ?_);go_roundw
   case rel=>exact⟨k+1,by omega,by go_num,a4,HS,HW⟩
   case measure=>simp[intOf];omega
  have a1:Hid (a4Y s.data.toList=some g.data.toList):=HH hp;rw[hp] at hpre;clear HN HH hp;have HW':=HW.out;subst HW';have a0:=hck;simp only[World.cell?] at a0;rw[show w.heap.size+1=(w.alloc (.cells #[.int .i64 0,.string ⟨#[]⟩,.int .i64 0,.int .i64 0,.int .i64 0] 88)).heap.size by simp,heap_alloc_new] at a0;simp only at a0;clear HW;by_cases hne:g=⟨#[33,61]⟩
  .subst hne;go_wp2_with (go_at_call 59;refine ws (hpre _) ?_);refine bodyPost_ret (v:=.agg #[.int .i64 6,.string ⟨#[60,62]⟩,.int .i64 2,.int .i64 0,.int .i64 0]) (by simp[results,results66,go_sem]) rfl ⟨?_,?_⟩
   .refine retV ?_;unfold sigL;rw[a1.out];rfl
   exact((Below.refl _ _).alloc (Nat.le_refl _) _).alloc (by simp) _
  have a5:(g.toList==[33,61])=false:=by
   rw[beq_eq_false_iff_ne,Lib.toList_data];intro z;exact hne (a4S z)
  have a2:¬ g.data.toList=[33,61]:=fun z=>hne (a4S z);clear hne;go_wp2_with (go_at_call 59;refine ws (hpre _) ?_);refine bodyPost_ret (v:=.agg #[.int .i64 6,.string g,.int .i64 g.size,.int .i64 0,.int .i64 0]) (by simp[results,results66,go_sem]) rfl ⟨?_,?_⟩
  .refine retV ?_;unfold sigL;rw[a1.out];simp only;rw[if_neg a2];unfold cutV;simp only[a3C];simp
  exact((Below.refl _ _).alloc (Nat.le_refl _) _).alloc (by simp) _
 have a3:k=18:=by omega
 subst a3;have HE:Hid (a4Y s.data.toList=none):=HI.out.end;have HW':=HW.out;subst HW';clear HW;go_wp2;refine bodyPost_ret (v:=.agg #[.int .i64 0,.string ⟨#[]⟩,.int .i64 0,.int .i64 2,.int .i64 0]) (by simp[results,results66,go_sem]) rfl ⟨?_,?_⟩
 .refine retV ?_;unfold sigL;rw[HE.out];rfl
 exact((Below.refl _ _).alloc (Nat.le_refl _) _).alloc (by simp) _
end Go.Proofs.YtphmpkpcamgjeaaGreatDoor.Lx
namespace Go.Proofs.YtphmpkpcamgjeaaGreatDoor.Lx
open Go.ChangeShapes Go.WideShapes Go.ChangeAt Go.RowKit Go.Proofs.Tryz Go.Shelf
theorem iter_below (w:World) (s:ByteArray) (p:Nat):Below w.heap.size w (w.iter s p):=
  (Below.refl _ w).alloc (Nat.le_refl _) _
theorem a6L (s:ByteArray) (w:World) (hs:s.size<9223372036854775807) :
 Calls prog 106 #[.string s] w fun e w'=>e=.returned (.int .i64 (Lib.runeCount s))/\Below w.heap.size w w':=by
 go_enter func106,ntmps106;go_wp2;go_loopw [3] (fun n w'=>∃ (pos b acc:Nat),w'=w.iter s pos/\n=.int .i64 acc/\acc+Lib.runeCountFrom s b pos=Lib.runeCount s/\s.size<=pos+b/\acc<=pos) (fun _ w'=>s.size-w'.iterPos w.heap.size)
 case atStart=>exact⟨0,s.size,0,rfl,rfl,by simp[Lib.runeCount],by omega,Nat.le_refl _⟩
 case round=>
 obtain⟨pos,b,acc,rfl,rfl,hc,hb,ha⟩:=hrel;by_cases hp:pos<s.size
 .have hnx:∀ ty,(Instr.next (.pointer (some ⟨w.heap.size,0,none⟩)) true ty).run prog (w.iter s pos)=_:=fun ty=>run_next_any w s pos ty hp;have hwd:=Lib.decode_width_pos s pos hp;go_wp2;go_roundw
  case rel=>
   cases b with
   | zero=>omega
   | succ b=>
   refine⟨pos+(Utf8.decode s pos).2,b,acc+1,rfl,by go_num,?_,by omega,by omega⟩;rw[<- hc];simp[Lib.runeCountFrom,hp];omega
  case measure=>
  simp;omega
 have hnx:∀ ty,(Instr.next (.pointer (some ⟨w.heap.size,0,none⟩)) true ty).run prog (w.iter s pos)=_:=fun ty=>run_next_end w s pos ty hp;go_wp2;go_ret;rw[Lib.runeCountFrom_end s b pos hp,Nat.add_zero] at hc;subst hc;exact⟨rfl,iter_below _ _ _⟩
end Go.Proofs.YtphmpkpcamgjeaaGreatDoor.Lx
namespace Go.Proofs.YtphmpkpcamgjeaaGreatDoor.Lx
open Go.ChangeShapes Go.WideShapes Go.ChangeAt Go.RowKit Go.Proofs.Tryz Go.Shelf
def Tabs (w:World):Prop:=Lib.Utf8Tabs (Tryz.laysValid_ren.g 3) (Tryz.laysValid_ren.g 4) w
theorem tabs_below {w w':World} (h:Tabs w) (hb:Below w.heap.size w w'):Tabs w':=Utf8Tabs_below h hb
theorem below_alloc (w:World) (o:Obj):Below w.heap.size w (w.alloc o):=(Below.refl _ w).alloc (Nat.le_refl _) o
theorem bcell {W w1:World} (hb:Below W.heap.size W w1):(∀ b o,b<W.heap.size->w1.cell? ⟨b,o,none⟩=W.cell? ⟨b,o,none⟩)/\(∀ b o,b<W.heap.size->w1.frozen? ⟨b,o,none⟩=W.frozen? ⟨b,o,none⟩):=
  ⟨fun b o h=>hb.cell (p:=⟨b,o,none⟩) h,fun b o h=>hb.frozen (p:=⟨b,o,none⟩) h⟩
theorem b3N (s:ByteArray) (w:World) (hs:s.size<=9223372036854775807) (hT:Tabs w):Calls prog 105 #[.string s] w fun e w'=>e=.returned (.bool (Lib.validD s.data.toList))/\Below w.heap.size w w':=
  Any.utf8_ValidString Tryz.laysValid s w hs hT
def a2O (a b d:Int) (c:Int):Int:=if a<=c/\c<=b then c+d else c
theorem b2l (a b d:Int) (B:Nat) (x:Nat) (w:World) (hx:x<=1114111) (hd:-1000<=d) (hd2:d<=1000)
    (h1:w.cell? ⟨B,0,none⟩=some (.int .i32 a)) (h2:w.cell? ⟨B+1,0,none⟩=some (.int .i32 b)) (h3:w.cell? ⟨B+2,0,none⟩=some (.int .i32 d)) :
 Calls prog 137 #[.int .i32 x,.pointer (some ⟨B,0,none⟩),.pointer (some ⟨B+1,0,none⟩),.pointer (some ⟨B+2,0,none⟩)] w fun e w'=>e=.returned (.int .i32 (a2O a b d x))/\w'=w:=by
 by_cases g1:a<=(x:Int)
 .by_cases g2:(x:Int)<=b
  .go_enter func137,ntmps137;go_wp2;go_ret;refine⟨ret_int ?_,rfl⟩;unfold a2O;rw[if_pos ⟨g1,g2⟩]
  go_enter func137,ntmps137;go_wp2;go_ret;refine⟨ret_int ?_,rfl⟩;unfold a2O;rw[if_neg (by omega)]
 go_enter func137,ntmps137;go_wp2;go_ret;refine⟨ret_int ?_,rfl⟩;unfold a2O;rw[if_neg (by omega)]
theorem a6M (s:ByteArray) (w:World):Calls prog 135 #[.string s] w fun e w'=>e=.returned (.agg #[.int .i64 3,.int .i64 0,.string s])/\Below w.heap.size w w':=by
 go_enter func135,ntmps135;go_wp2;exact bodyPost_ret (v:=.agg #[.int .i64 3,.int .i64 0,.string s]) (by simp[results,results135,go_sem]) rfl ⟨rfl,(Below.refl _ _).alloc (Nat.le_refl _) _⟩
theorem a8M (a b d:Int) (B:Nat) (W:World) (hd:-1000<=d) (hd2:d<=1000) (hB:B+2<W.heap.size)
    (h1:W.cell? ⟨B,0,none⟩=some (.int .i32 a)) (h2:W.cell? ⟨B+1,0,none⟩=some (.int .i32 b)) (h3:W.cell? ⟨B+2,0,none⟩=some (.int .i32 d)) :
 MapGrows prog 137 #[.pointer (some ⟨B,0,none⟩),.pointer (some ⟨B+1,0,none⟩),.pointer (some ⟨B+2,0,none⟩)] (a2O a b d) W:=by
 intro W' x hx hb;have c1:=(hb.cell (p:=⟨B,0,none⟩) (by show B<_;omega)).trans h1;have c2:=(hb.cell (p:=⟨B+1,0,none⟩) (by show B+1<_;omega)).trans h2;have c3:=(hb.cell (p:=⟨B+2,0,none⟩) (by show B+2<_;omega)).trans h3;refine(b2l a b d B x W' hx hd hd2 c1 c2 c3).mono ?_;rintro e w' ⟨rfl,rfl⟩;exact⟨rfl,Below.refl _ _⟩
theorem a8N (s:ByteArray) (a b d:Int) (w:World) (hs:s.size<35184372088832) (hd:-1000<=d) (hd2:d<=1000) (hT:Tabs w) :
 Calls prog 101 #[.string s,.int .i32 a,.int .i32 b,.int .i32 d] w fun e w'=>e=.returned (.agg #[.int .i64 3,.int .i64 0,.string ⟨(Lib.mapD (a2O a b d) s.data.toList).toArray⟩])/\Below w.heap.size w w':=by
 have eg:∀ args w,(callFunc 137 args).run prog w=.ok (.enter 137 args) w:=enters_of func137 (by kernel_rfl) rfl
 have hm:=fun W (hB:w.heap.size+2<W.heap.size) h1 h2 h3 (hT:Tabs W)=>Tryz.strings_Map_grows 137 _ eg (a2O a b d) s W hs (a8M a b d w.heap.size W hd hd2 hB h1 h2 h3) (fun x hx=>by unfold a2O;split<;>omega) hT
 have a3:∀ o1 o2 o3 o4,Tabs ((((w.alloc o1).alloc o2).alloc o3).alloc o4):=fun o1 o2 o3 o4=>tabs_below (tabs_below (tabs_below (tabs_below hT (below_alloc _ _)) (below_alloc _ _)) (below_alloc _ _)) (below_alloc _ _);go_enter func101,ntmps101;go_wp2_with (go_at_call 136;refine Calls.mono (hm _ (by simp) (by go_simp) (by go_simp) (by go_simp) (a3 _ _ _ _)) ?_;rintro e w1 ⟨rfl,a0⟩;obtain⟨a4,a5⟩:=bcell a0;have a6:w.heap.size+3<w1.heap.size:=(by have:=a0.size;simp at this;omega);have a2:Below w.heap.size w w1:=(((((Below.refl _ _).alloc (Nat.le_refl _) _).alloc (by simp) _).alloc (by simp;omega) _).alloc (by simp;omega) _).trans (a0.mono (by simp;omega));clear a0);refine(a6M _ _).mono ?_;rintro e w2 ⟨rfl,a1⟩;obtain⟨a7,a8⟩:=bcell a1
 have a9:w.heap.size+3<w2.heap.size:=by have:=a1.size;omega
 have b0:Below w.heap.size w w2:=a2.trans (a1.mono (by have:=a2.size;omega));go_wp2;refine bodyPost_ret (v:=.agg #[.int .i64 3,.int .i64 0,.string ⟨(Lib.mapD (a2O a b d) s.data.toList).toArray⟩]) (by simp[results,results101,go_sem,a4,a5,a6,a7,a8,a9]) rfl ⟨rfl,?_⟩;exact((b0.setCell (by show w.heap.size<=w.heap.size+3;omega) _).setCell (by show w.heap.size<=w.heap.size+3;omega) _).setCell (by show w.heap.size<=w.heap.size+3;omega) _
end Go.Proofs.YtphmpkpcamgjeaaGreatDoor.Lx
namespace Go.Proofs.YtphmpkpcamgjeaaGreatDoor.Lx
open Go.ChangeShapes Go.WideShapes Go.ChangeAt Go.RowKit Go.Proofs.Tryz Go.Shelf
theorem b3O {c:UInt8} (h:goI (c.toNat:Int)=true):c.toNat<128:=by
 unfold goI wdI digI at h;simp at h;omega
theorem b2m (c:UInt8) (h:c.toNat<128):a2O 65 90 32 (c.toNat:Int)=((lowC c).toNat:Int)/\(lowC c).toNat<128:=by
 unfold a2O lowC;by_cases g:65<=c.toNat/\c.toNat<=90
 .rw[if_pos (by omega),if_pos g];simp;omega
 rw[if_neg (by omega),if_neg g];exact⟨rfl,h⟩
theorem a4U (p:Int->Bool) (l:List UInt8) (c:UInt8) (h:c∈l.take (runN p l)):p (c.toNat:Int)=true:=by
 obtain⟨i,hi,e⟩:=List.getElem_of_mem h;rw[List.length_take] at hi;refine runN_at p l i c (by omega) ?_;rw[List.getElem_take] at e;rw[List.getElem?_eq_getElem (by omega),e]
theorem b5L (l:List UInt8):Lib.mapD (a2O 65 90 32) (l.take (runN goI l))=(l.take (runN goI l)).map lowC:=
 a5Y _ lowC _ fun c hc=>by
 have h1:=b3O (a4U goI l c hc);have h2:=b2m c h1;exact⟨h1,h2.1,h2.2⟩
theorem a8O (s:ByteArray) (w:World) (hs:s.size<=1048576) (hT:Tabs w) :
 Calls prog 61 #[.string s] w fun e w'=>e=.returned (cutV (wordL s.data.toList))/\Below w.heap.size w w':=by
 have hc:=fun w=>a1z 100 goI Sorts.goesOn s w (by unfold maxLen;omega);have HL:Hid (Lib.mapD (a2O 65 90 32) (s.data.toList.take (runN goI s.data.toList))=(s.data.toList.take (runN goI s.data.toList)).map lowC):=b5L _
 have hle:runN goI s.data.toList<=s.size:=by have:=runN_le goI s.data.toList;simpa using this
 have HW:Hid (wordL s.data.toList=if 30<runN goI s.data.toList then .err 5 0 else .tok 1 ((s.data.toList.take (runN goI s.data.toList)).map lowC) (runN goI s.data.toList)):=rfl;generalize runN goI s.data.toList=n at *;by_cases h30:30<n
 .have a1:Hid (wordL s.data.toList=.err 5 0):=by have:=HW.out;rw[if_pos h30] at this;exact this
  clear HW HL;go_enter func61,ntmps61;go_wp2_with (go_at_call 99;refine ws (hc _) ?_);refine bodyPost_ret (v:=.agg #[.int .i64 0,.string ⟨#[]⟩,.int .i64 0,.int .i64 5,.int .i64 0]) (by simp[results,results61,go_sem]) rfl ⟨?_,?_⟩
  .rw[a1.out];rfl
  exact(Below.refl _ _).alloc (Nat.le_refl _) _
 have a1:Hid (wordL s.data.toList=.tok 1 ((s.data.toList.take n).map lowC) n):=by have:=HW.out;rw[if_neg h30] at this;exact this
 have hsh:=fun W hT=>a8N (s.extract 0 n) 65 90 32 W (by simp;omega) (by omega) (by omega) hT;obtain⟨t,ht⟩:∃ t:ByteArray,t=⟨(Lib.mapD (a2O 65 90 32) (s.extract 0 n).data.toList).toArray⟩:=⟨_,rfl⟩;rw[<- ht] at hsh
 have HE:Hid (t=⟨((s.data.toList.take n).map lowC).toArray⟩):=by
  show t=_
  rw[ht,b3K,HL.out]
 clear ht HL
 have hfd:∀ w:World,(Instr.field 40 (.agg #[.int .i64 3,.int .i64 0,.string t]) 2).run prog w=.ok (.string t) w:=fun _=>by kernel_rfl
 have a2:∀ o,Tabs (w.alloc o):=fun o=>tabs_below hT (below_alloc _ _);clear HW;go_enter func61,ntmps61;go_wp2_with (first | (go_at_call 99;refine ws (hc _) ?_) | (go_at_call 101;refine(hsh _ (a2 _)).mono ?_;rintro e w1 ⟨rfl,a0⟩;obtain⟨a3,a4⟩:=bcell a0;have a5:w.heap.size<w1.heap.size:=(by have:=a0.size;simp at this;omega);have a6:Below w.heap.size w w1:=((Below.refl _ _).alloc (Nat.le_refl _) _).trans (a0.mono (by simp));clear a0));refine bodyPost_ret (v:=.agg #[.int .i64 1,.string t,.int .i64 n,.int .i64 0,.int .i64 0]) (by simp[results,results61,go_sem,a3,a4,a5]) rfl ⟨?_,?_⟩
 .rw[a1.out,HE.out];rfl
 exact((((a6.setCell (Nat.le_refl _) _).setCell (Nat.le_refl _) _).setCell (Nat.le_refl _) _).setCell (Nat.le_refl _) _).setCell (Nat.le_refl _) _
theorem a6N (s:ByteArray) (w:World) (hs:s.size<=1048576) (h0:0<s.size) (hq:s[0]'h0=34) :
 Calls prog 64 #[.string s] w fun e w'=>e=.returned (cutV (quoL s.data.toList))/\Below w.heap.size w w':=by
 have hun:=fun w=>a4T s 34 w hs h0 hq;unfold UnqPost at hun
 have HQ:Hid (quoL s.data.toList=match unq 34 (s.data.toList.drop 1) with
   | none=>.err 2 0
   | some x=>if x.1=[]\/runN priI x.1<x.1.length then .err 2 0 else if 30<x.1.length then .err 5 0 else .tok 2 x.1 (x.2+1)):=rfl
 have hlen:=unq_len 34 (s.data.toList.drop 1)
 cases hu:unq 34 (s.data.toList.drop 1) with
 | none=>
  rw[hu] at hun
  have a5:Hid (quoL s.data.toList=.err 2 0):=by have:=HQ.out;rw[hu] at this;exact this
  clear HQ hlen hu;go_enter func64,ntmps64;go_wp2_with (go_at_call 103;refine(hun _).mono ?_;rintro e w1 ⟨rfl,a0⟩;obtain⟨a1,a2⟩:=bcell a0;have a3:w.heap.size<w1.heap.size:=(by have:=a0.size;simp at this;omega);have a4:Below w.heap.size w w1:=((Below.refl _ _).alloc (Nat.le_refl _) _).trans (a0.mono (by simp));clear a0);refine bodyPost_ret (v:=.agg #[.int .i64 0,.string ⟨#[]⟩,.int .i64 0,.int .i64 2,.int .i64 0]) (by simp[results,results64,go_sem,a1,a2,a3]) rfl ⟨?_,?_⟩
  .rw[a5.out];rfl
  exact((((a4.setCell (Nat.le_refl _) _).setCell (Nat.le_refl _) _).setCell (Nat.le_refl _) _).setCell (Nat.le_refl _) _).setCell (Nat.le_refl _) _
 | some x=>
 have hl:=hlen x.1 x.2 hu;rw[List.length_drop] at hl
 have hsl:s.data.toList.length=s.size:=by simp
 rw[hsl] at hl;rw[hu] at hun
 have a6:Hid (quoL s.data.toList=if x.1=[]\/runN priI x.1<x.1.length then .err 2 0 else if 30<x.1.length then .err 5 0 else .tok 2 x.1 (x.2+1)):=by have:=HQ.out;rw[hu] at this;exact this
 clear HQ hlen hu hsl;obtain⟨x1,x2⟩:=x;simp only at hun hl a6;obtain⟨c,hcl⟩:∃ c:ByteArray,c=⟨x1.toArray⟩:=⟨_,rfl⟩
 have a7:x1=c.data.toList:=by rw[hcl]
 rw[<- hcl] at hun;clear hcl;subst a7
 have hcs:c.data.toList.length=c.size:=by simp
 rw[hcs] at hl a6;have hcnt:=fun w=>a1z 104 priI Sorts.isName c w (by unfold maxLen;omega)
 have hemp:c.data.toList=[]↔c.size=0:=by rw[<- hcs,List.length_eq_zero_iff]
 by_cases e0:c.size=0
 .have a5:Hid (quoL s.data.toList=.err 2 0):=by have:=a6.out;rw[if_pos (.inl (hemp.2 e0))] at this;exact this
  have he:c.toList=[]:=by rw[Lib.toList_data];exact hemp.2 e0
  clear a6 hemp;go_enter func64,ntmps64;go_wp2_with (first | (go_at_call 103;refine(hun _).mono ?_;rintro e w1 ⟨rfl,a0⟩;obtain⟨a1,a2⟩:=bcell a0;have a3:w.heap.size<w1.heap.size:=(by have:=a0.size;simp at this;omega);have a4:Below w.heap.size w w1:=((Below.refl _ _).alloc (Nat.le_refl _) _).trans (a0.mono (by simp));clear a0) | (go_at_call 99;refine ws (hcnt _) ?_));refine bodyPost_ret (v:=.agg #[.int .i64 0,.string ⟨#[]⟩,.int .i64 0,.int .i64 2,.int .i64 0]) (by simp[results,results64,go_sem,a1,a2,a3]) rfl ⟨?_,?_⟩
  .rw[a5.out];rfl
  exact((((a4.setCell (Nat.le_refl _) _).setCell (Nat.le_refl _) _).setCell (Nat.le_refl _) _).setCell (Nat.le_refl _) _).setCell (Nat.le_refl _) _
 have hne:¬ c.data.toList=[]:=fun z=>e0 (hemp.1 z)
 have he:c.toList.isEmpty=false:=by rw[Lib.toList_data];simpa using hne
 have a8:(c.toList==[])=false:=by rw[Lib.toList_data,beq_eq_false_iff_ne];exact hne
 have hr:=runN_le priI c.data.toList;rw[hcs] at hr;by_cases hp:runN priI c.data.toList<c.size
 .have a5:Hid (quoL s.data.toList=.err 2 0):=by have:=a6.out;rw[if_pos (.inr hp)] at this;exact this
  clear a6 hemp hne;generalize runN priI c.data.toList=m at *;go_enter func64,ntmps64;go_wp2_with (first | (go_at_call 103;refine(hun _).mono ?_;rintro e w1 ⟨rfl,a0⟩;obtain⟨a1,a2⟩:=bcell a0;have a3:w.heap.size<w1.heap.size:=(by have:=a0.size;simp at this;omega);have a4:Below w.heap.size w w1:=((Below.refl _ _).alloc (Nat.le_refl _) _).trans (a0.mono (by simp));clear a0) | (go_at_call 99;refine ws (hcnt _) ?_));refine bodyPost_ret (v:=.agg #[.int .i64 0,.string ⟨#[]⟩,.int .i64 0,.int .i64 2,.int .i64 0]) (by simp[results,results64,go_sem,a1,a2,a3]) rfl ⟨?_,?_⟩
  .rw[a5.out];rfl
  exact((((a4.setCell (Nat.le_refl _) _).setCell (Nat.le_refl _) _).setCell (Nat.le_refl _) _).setCell (Nat.le_refl _) _).setCell (Nat.le_refl _) _
 have a5:Hid (quoL s.data.toList=if 30<c.size then .err 5 0 else .tok 2 c.data.toList (x2+1)):=by
  have:=a6.out;rw[if_neg (fun z=>z.elim hne hp)] at this;exact this
 clear a6 hemp hne;generalize runN priI c.data.toList=m at *;by_cases hb30:30<c.size
 .go_enter func64,ntmps64;go_wp2_with (first | (go_at_call 103;refine(hun _).mono ?_;rintro e w1 ⟨rfl,a0⟩;obtain⟨a1,a2⟩:=bcell a0;have a3:w.heap.size<w1.heap.size:=(by have:=a0.size;simp at this;omega);have a4:Below w.heap.size w w1:=((Below.refl _ _).alloc (Nat.le_refl _) _).trans (a0.mono (by simp));clear a0) | (go_at_call 99;refine ws (hcnt _) ?_));refine bodyPost_ret (v:=.agg #[.int .i64 0,.string ⟨#[]⟩,.int .i64 0,.int .i64 5,.int .i64 0]) (by simp[results,results64,go_sem,a1,a2,a3]) rfl ⟨?_,?_⟩
  .rw[a5.out,if_pos hb30];rfl
  exact((((a4.setCell (Nat.le_refl _) _).setCell (Nat.le_refl _) _).setCell (Nat.le_refl _) _).setCell (Nat.le_refl _) _).setCell (Nat.le_refl _) _
 go_enter func64,ntmps64;go_wp2_with (first | (go_at_call 103;refine(hun _).mono ?_;rintro e w1 ⟨rfl,a0⟩;obtain⟨a1,a2⟩:=bcell a0;have a3:w.heap.size<w1.heap.size:=(by have:=a0.size;simp at this;omega);have a4:Below w.heap.size w w1:=((Below.refl _ _).alloc (Nat.le_refl _) _).trans (a0.mono (by simp));clear a0) | (go_at_call 99;refine ws (hcnt _) ?_));refine bodyPost_ret (v:=.agg #[.int .i64 2,.string c,.int .i64 ((x2+1:Nat):Int),.int .i64 0,.int .i64 0]) (by simp[results,results64,go_sem,a1,a2,a3]) rfl ⟨?_,?_⟩
 .rw[a5.out,if_neg hb30];simp only[cutV,a3C]
 exact((((a4.setCell (Nat.le_refl _) _).setCell (Nat.le_refl _) _).setCell (Nat.le_refl _) _).setCell (Nat.le_refl _) _).setCell (Nat.le_refl _) _
end Go.Proofs.YtphmpkpcamgjeaaGreatDoor.Lx
