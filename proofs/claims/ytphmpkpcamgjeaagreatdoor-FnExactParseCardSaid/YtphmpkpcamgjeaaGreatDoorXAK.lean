import Derived.Test.YtphmpkpcamgjeaaGreatDoorXAJ
import Derived.Test.YtphmpkpcamgjeaaGreatDoorXAB
import Derived.OneCell
import Derived.Test.YtphmpkpcamgjeaaGreatDoorXAA
import Derived.Test.YtphmpkpcamgjeaaGreatDoorXAG
import Derived.Lib.IndexBytes
import Derived.Lib.Join
import Derived.Maps.Own
import Derived.Maps.OwnOps
import Derived.Maps.OwnSet
import Derived.Maps.Views
set_option linter.unusedVariables false
set_option linter.unusedSimpArgs false
set_option maxRecDepth 100000
set_option maxHeartbeats 16000000
namespace Go.Proofs.YtphmpkpcamgjeaaGreatDoor.Lx
open Go.ChangeShapes Go.WideShapes Go.ChangeAt Go.RowKit Go.Proofs.Tryz Go.Shelf
theorem a6P (s:ByteArray) (w:World) (hs:s.size<=1048576) (h0:0<s.size) (hd0:digI ((s[0]'h0).toNat:Int)=true) :
 Calls prog 63 #[.string s] w fun e w'=>e=.returned (cutV (numL s.data.toList))/\Below w.heap.size w w':=by
 have hsl:s.data.toList.length=s.size:=by simp
 obtain⟨n,hn⟩:∃ n,n=runN digI s.data.toList:=⟨_,rfl⟩
 have a1:1<=n:=by
  rw[hn,wit0 s h0];exact runN_pos digI _ _ hd0
 have a4:n<=s.size:=by rw[hn,<- hsl];exact runN_le _ _
 have hcnt:=fun w=>a1z 62 digI Sorts.isDigit s w (by unfold maxLen;omega);have hwn:=fun w=>a4t (s.extract 0 n) w (by unfold maxLen;simp;omega) (by simp;omega);rw[b3K] at hwn;rw[<- hn] at hcnt;obtain⟨t,ht⟩:∃ t:ByteArray,t=⟨(noughts (s.data.toList.take n)).toArray⟩:=⟨_,rfl⟩;rw[<- ht] at hwn
 have htd:t.data.toList=noughts (s.data.toList.take n):=by rw[ht]
 have htl:t.data.toList.length=t.size:=by simp
 have hnl:=noughts_len (s.data.toList.take n);rw[<- htd,htl,List.length_take,hsl] at hnl;have a2:1<=t.size:=hnl.2 (by omega)
 have a3:t.size<=n:=by have:=hnl.1;omega
 have hdt:digs t.data.toList:=by rw[htd,hn];exact a4V _ (b1i _)
 by_cases hdec:decAt s.data.toList=true
 .have hdec':=hdec;unfold decAt at hdec';rw[<- hn] at hdec';simp only[Bool.and_eq_true,decide_eq_true_eq] at hdec';obtain⟨g1,g2⟩:=hdec'
  have hA:n+1<s.size:=by
   cases hg:s.data.toList[n+1]? with
   | none=>rw[hg] at g2;cases g2
   | some d=>
   have:=a2K hg;omega
  have hnn:n<s.size:=by omega
  have hB:((s[n]'hnn).toNat:Int)=46:=by
   rw[a0P s n hnn] at g1;rw[Option.some.inj g1];rfl
  have hC:digI ((s[n+1]'hA).toNat:Int)=true:=by rw[a0P s (n+1) hA] at g2;exact g2
  have hcm:=fun w=>a1z 62 digI Sorts.isDigit (s.extract (n+1) s.size) w (by unfold maxLen;simp;omega);rw[a2F] at hcm;have a5:=runN_le digI (s.data.toList.drop (n+1));rw[List.length_drop,hsl] at a5
  have a6:1<=runN digI (s.data.toList.drop (n+1)):=by
   rw[drop_cons _ _ _ (a0P s (n+1) hA)];exact runN_pos digI _ _ hC
  refine a8U s t n (runN digI (s.data.toList.drop (n+1))) (numL s.data.toList) w hs a1 a2 a3 hcnt hwn hcm a6 (by omega) ?_ hnn hA hB hC
  show numL s.data.toList=_
  unfold numL;rw[hdec,<- hn,<- htd,htl];rfl
 have a0:decAt s.data.toList=false:=by simpa using hdec
 have HR:Hid (numL s.data.toList=if bigI t.data.toList then .err 5 0 else if a1e s n then .err 2 n else .tok 3 t.data.toList n):=by
  show numL s.data.toList=_
  unfold numL;rw[a0,<- hn,<- htd];rfl
 by_cases hA:n+1<s.size
 .have hnn:n<s.size:=by omega
  by_cases hB:((s[n]'hnn).toNat:Int)=46
  .have hC:digI ((s[n+1]'hA).toNat:Int)=false:=by
    unfold decAt at a0;rw[<- hn,a0P s n hnn,a0P s (n+1) hA] at a0;have:s[n]'hnn=46:=UInt8.toNat.inj (show(s[n]'hnn).toNat=46 by omega);rw[this] at a0;simpa[isDig] using a0
   exact a8T s t n _ w hs a1 a4 a2 a3 hcnt hwn hdt HR hnn hA hB hC
  exact a8S s t n _ w hs a1 a4 a2 a3 hcnt hwn hdt HR hnn hA hB
 exact a8R s t n _ w hs a1 a4 a2 a3 hcnt hwn hdt HR hA
end Go.Proofs.YtphmpkpcamgjeaaGreatDoor.Lx
namespace Go.Proofs.YtphmpkpcamgjeaaGreatDoor.Lx
open Go.ChangeShapes Go.WideShapes Go.ChangeAt Go.RowKit Go.Proofs.Tryz Go.Shelf
theorem a6o {l x:List UInt8} {k c:Int} {n f:Nat} (h:a5X l k x n=.err c f):c=2/\f=n:=by
 unfold a5X at h;split at h
 .cases h;exact⟨rfl,rfl⟩
 cases h
theorem cut_err {l:List UInt8} {c:Int} {f:Nat} (h:cutL l=.err c f):(c=2\/c=5)/\f<=l.length:=by
 cases l with
 | nil=>cases h;exact⟨.inl rfl,Nat.le_refl _⟩
 | cons d t=>
 unfold cutL at h;simp only at h;split at h
 .unfold wordL at h;split at h
  .cases h;exact⟨.inr rfl,Nat.zero_le _⟩
  cases h
 split at h
 .have h2:=runN_le digI (d::t);unfold numL at h;split at h
  .rename_i hd;split at h
   .cases h;exact⟨.inr rfl,Nat.zero_le _⟩
   obtain⟨rfl,rfl⟩:=a6o h;unfold decAt at hd;simp only[Bool.and_eq_true] at hd
   cases hg:(d::t)[runN digI (d::t)+1]? with
   | none=>rw[hg] at hd;exact absurd hd.2 (by decide)
   | some d'=>
   have:=a2K hg;have h3:=runN_le digI ((d::t).drop (runN digI (d::t)+1));rw[List.length_drop] at h3;exact⟨.inl rfl,by omega⟩
  split at h
  .cases h;exact⟨.inr rfl,Nat.zero_le _⟩
  obtain⟨rfl,rfl⟩:=a6o h;exact⟨.inl rfl,h2⟩
 split at h
 .unfold quoL at h;repeat' split at h
  all_goals first | (cases h;exact⟨.inl rfl,Nat.zero_le _⟩) | (cases h;exact⟨.inr rfl,Nat.zero_le _⟩) | (cases h;done)
 split at h
 .unfold strL at h;repeat' split at h
  all_goals first | (cases h;exact⟨.inl rfl,Nat.zero_le _⟩) | (cases h;exact⟨.inr rfl,Nat.zero_le _⟩) | (cases h;done)
 unfold sigL at h;split at h
 .cases h;exact⟨.inl rfl,Nat.zero_le _⟩
 cases h
theorem own_below {w w':World} {b e k n:Nat} {v:Value} {xs:List Value} (h:w.ownsRow b e k v n xs) (hb:Below w.heap.size w w'):w'.ownsRow b e k v n xs:=by
 have hl:=h.lt;obtain⟨h1,h2⟩:=h;refine⟨h1,?_⟩;rcases h2 with h2 | ⟨g,cap,cur,rfl,a0,a1,a2⟩
 .exact .inl h2
 exact .inr ⟨g,cap,cur,rfl,a0,(hb.block g (hl g rfl).2).trans a1,a2⟩
theorem a4H {w:World} {base e size n:Nat} {v:Value} {xs:List Value} (h:w.ownsRow base e size v n xs):∃ a cap,v=.slice a n cap:=by
 rcases h.2 with⟨rfl,rfl⟩ | ⟨g,cap,cur,rfl,_⟩
 .exact⟨_,_,rfl⟩
 exact⟨_,_,rfl⟩
def tcells (l:List Tok):List Value:=l.flatMap fun t=>[.int .i64 t.1,.string ⟨t.2.1.toArray⟩,.int .i64 (t.2.2:Int)]
theorem a2e (l:List Tok) (k:Int) (x:List UInt8) (p:Nat):tcells (l++[(k,x,p)])=tcells l++[.int .i64 k,.string ⟨x.toArray⟩,.int .i64 (p:Int)]:=by simp[tcells]
theorem b6C:(prog.info? 50).map (fun i=>(i.zero,i.size,i.bytes))=some (some (.agg #[.int .i64 0,.string ⟨#[]⟩,.int .i64 0]),3,32):=by kernel_rfl
def LexPost (s:ByteArray) (w:World) (e:Ending) (w':World):Prop:=
  ∃ r,LexR s.data.toList 0 [] r/\(match r with
 | .ok ts=>∃ v,e=.returned (.tuple #[v,.int .i64 0,.int .i64 0])/\w'.ownsRow w.heap.size 50 3 v ts.length (tcells ts)
 | .err c p=>e=.returned (.tuple #[.slice none 0 0,.int .i64 c,.int .i64 (p:Int)]))/\Below w.heap.size w w'
theorem LexPost.ok {s:ByteArray} {w w':World} {ts:List Tok} {v:Value} (h:LexR s.data.toList 0 [] (.ok ts)) (ho:w'.ownsRow w.heap.size 50 3 v ts.length (tcells ts)) (hb:Below w.heap.size w w') :
    LexPost s w (.returned (.tuple #[v,.int .i64 0,.int .i64 0])) w':=⟨_,h,⟨v,rfl,ho⟩,hb⟩
theorem LexPost.err {s:ByteArray} {w w':World} {c q:Int} {p:Nat} (h:LexR s.data.toList 0 [] (.err c p)) (hq:q=(p:Int)) (hb:Below w.heap.size w w') :
    LexPost s w (.returned (.tuple #[.slice none 0 0,.int .i64 c,.int .i64 q])) w':=⟨_,h,by rw[hq],hb⟩
theorem b3Q (s:ByteArray) (p:Nat) (h:p<s.size):∃ h0:0<(s.extract p s.size).size,(s.extract p s.size)[0]'h0=s[p]'h:=by
 have hz:0<(s.extract p s.size).size:=by simp;omega
 refine⟨hz,?_⟩;have h1:=a0P (s.extract p s.size) 0 hz;rw[a2F,List.getElem?_drop,Nat.add_zero,a0P s p h] at h1;exact(Option.some.inj h1).symm
theorem b5M (s:ByteArray) (p:Nat) (hs:s.size<=8000) (h:p<s.size) (hw:wdI ((s[p]'h).toNat:Int)=true) (W:World) (hT:Tabs W) :
 Calls prog 61 #[.string (s.extract p s.size)] W fun e w'=>e=.returned (cutV (cutL (s.data.toList.drop p)))/\Below W.heap.size W w':=by
 have hc:=a8O (s.extract p s.size) W (by simp;omega) hT;rw[a2F] at hc
 have e:cutL (s.data.toList.drop p)=wordL (s.data.toList.drop p):=by
  rw[drop_cons _ _ _ (a0P s p h)];unfold cutL;simp only[hw,if_true]
 rw[e];exact hc
theorem b7K (s:ByteArray) (p:Nat) (hs:s.size<=8000) (h:p<s.size) (hw:wdI ((s[p]'h).toNat:Int)=false) (hd:digI ((s[p]'h).toNat:Int)=true) (W:World) (hT:Tabs W) :
 Calls prog 63 #[.string (s.extract p s.size)] W fun e w'=>e=.returned (cutV (cutL (s.data.toList.drop p)))/\Below W.heap.size W w':=by
 obtain⟨h0,h1⟩:=b3Q s p h;have hc:=a6P (s.extract p s.size) W (by simp;omega) h0 (by rw[h1];exact hd);rw[a2F] at hc
 have e:cutL (s.data.toList.drop p)=numL (s.data.toList.drop p):=by
  rw[drop_cons _ _ _ (a0P s p h)];unfold cutL;simp only;rw[if_neg (by rw[hw];decide),if_pos hd]
 rw[e];exact hc
theorem b7L (s:ByteArray) (p:Nat) (hs:s.size<=8000) (h:p<s.size) (hw:s[p]'h=34) (W:World) (hT:Tabs W) :
 Calls prog 64 #[.string (s.extract p s.size)] W fun e w'=>e=.returned (cutV (cutL (s.data.toList.drop p)))/\Below W.heap.size W w':=by
 obtain⟨h0,h1⟩:=b3Q s p h;have hc:=a6N (s.extract p s.size) W (by simp;omega) h0 (by rw[h1];exact hw);rw[a2F] at hc
 have e:cutL (s.data.toList.drop p)=quoL (s.data.toList.drop p):=by
  rw[drop_cons _ _ _ (a0P s p h),hw];exact b6Q _
 rw[e];exact hc
theorem b7M (s:ByteArray) (p:Nat) (hs:s.size<=8000) (h:p<s.size) (hw:s[p]'h=39) (W:World) (hT:Tabs W) :
 Calls prog 65 #[.string (s.extract p s.size)] W fun e w'=>e=.returned (cutV (cutL (s.data.toList.drop p)))/\Below W.heap.size W w':=by
 obtain⟨h0,h1⟩:=b3Q s p h;have hc:=a6O (s.extract p s.size) W (by simp;omega) h0 (by rw[h1];exact hw) hT;rw[a2F] at hc
 have e:cutL (s.data.toList.drop p)=strL (s.data.toList.drop p):=by
  rw[drop_cons _ _ _ (a0P s p h),hw];exact b6R _
 rw[e];exact hc
theorem b7N (s:ByteArray) (p:Nat) (hs:s.size<=8000) (h:p<s.size) (hw:wdI ((s[p]'h).toNat:Int)=false) (hd:digI ((s[p]'h).toNat:Int)=false) (h34:s[p]'h≠34) (h39:s[p]'h≠39) (W:World) (hT:Tabs W) :
 Calls prog 66 #[.string (s.extract p s.size)] W fun e w'=>e=.returned (cutV (cutL (s.data.toList.drop p)))/\Below W.heap.size W w':=by
 have hc:=a8L (s.extract p s.size) W (by simp;omega);rw[a2F] at hc
 have e:cutL (s.data.toList.drop p)=sigL (s.data.toList.drop p):=by
  rw[drop_cons _ _ _ (a0P s p h)];unfold cutL;simp only;rw[if_neg (by rw[hw];decide),if_neg (by rw[hd];decide),if_neg h34,if_neg h39]
 rw[e];exact hc
end Go.Proofs.YtphmpkpcamgjeaaGreatDoor.Lx
namespace Go.Proofs.YtphmpkpcamgjeaaGreatDoor.Lx
open Go.ChangeShapes Go.WideShapes Go.ChangeAt Go.RowKit Go.Proofs.Tryz Go.Shelf Go.Maps
def resWords:List (List UInt8):=[[97,108,108],[97,110,100],[97,115],[97,115,99],[97,118,103],[98,101,103,105,110],[98,101,116,119,101,101,110],[98,121],[98,111,111,108,101,97,110],[99,97,115,101],[99,97,115,116],[99,104,101,99,107],[99,104,101,99,107,112,111,105,110,116],[99,111,109,109,105,116],[99,111,117,110,116],[99,114,101,97,116,101],[99,114,111,115,115],[100,97,116,101],[100,101,99,105,109,97,108],[100,101,102,97,117,108,116],[100,101,108,101,116,101],[100,101,115,99],[100,105,115,116,105,110,99,116],[100,114,111,112],[101,108,115,101],[101,110,100],[101,120,99,101,112,116],[101,120,105,115,116,115],[101,120,112,108,97,105,110],[102,97,108,115,101],[102,105,114,115,116],[102,114,111,109],[103,114,111,117,112],[104,97,118,105,110,103],[105,110],[105,110,100,101,120],[105,110,110,101,114],[105,110,115,101,114,116],[105,110,116],[105,110,116,111],[105,115],[106,111,105,110],[107,101,121],[108,97,115,116],[108,101,102,116],[108,105,107,101],[108,105,109,105,116],[109,97,120],[109,105,110],[110,111,116],[110,117,108,108],[110,117,108,108,115],[111,102,102,115,101,116],[111,110],[111,114],[111,114,100,101,114],[111,117,116,101,114],[112,114,105,109,97,114,121],[114,101,108,101,97,115,101],[114,111,108,108,98,97,99,107],[115,97,118,101,112,111,105,110,116],[115,101,108,101,99,116],[115,101,114,105,97,108,105,122,97,98,108,101],[115,101,116],[115,110,97,112,115,104,111,116],[115,117,109],[116,97,98,108,101],[116,101,120,116],[116,104,101,110],[116,111],[116,114,117,101],[117,110,105,111,110],[117,110,105,113,117,101],[117,112,100,97,116,101],[118,97,108,117,101,115],[119,104,101,110],[119,104,101,114,101]]
def resText:ByteArray:=⟨#[97,108,108,32,97,110,100,32,97,115,32,97,115,99,32,97,118,103,32,98,101,103,105,110,32,98,101,116,119,101,101,110,32,98,121,32,98,111,111,108,101,97,110,32,99,97,115,101,32,99,97,115,116,32,99,104,101,99,107,32,99,104,101,99,107,112,111,105,110,116,32,99,111,109,109,105,116,32,99,111,117,110,116,32,99,114,101,97,116,101,32,99,114,111,115,115,32,100,97,116,101,32,100,101,99,105,109,97,108,32,100,101,102,97,117,108,116,32,100,101,108,101,116,101,32,100,101,115,99,32,100,105,115,116,105,110,99,116,32,100,114,111,112,32,101,108,115,101,32,101,110,100,32,101,120,99,101,112,116,32,101,120,105,115,116,115,32,101,120,112,108,97,105,110,32,102,97,108,115,101,32,102,105,114,115,116,32,102,114,111,109,32,103,114,111,117,112,32,104,97,118,105,110,103,32,105,110,32,105,110,100,101,120,32,105,110,110,101,114,32,105,110,115,101,114,116,32,105,110,116,32,105,110,116,111,32,105,115,32,106,111,105,110,32,107,101,121,32,108,97,115,116,32,108,101,102,116,32,108,105,107,101,32,108,105,109,105,116,32,109,97,120,32,109,105,110,32,110,111,116,32,110,117,108,108,32,110,117,108,108,115,32,111,102,102,115,101,116,32,111,110,32,111,114,32,111,114,100,101,114,32,111,117,116,101,114,32,112,114,105,109,97,114,121,32,114,101,108,101,97,115,101,32,114,111,108,108,98,97,99,107,32,115,97,118,101,112,111,105,110,116,32,115,101,108,101,99,116,32,115,101,114,105,97,108,105,122,97,98,108,101,32,115,101,116,32,115,110,97,112,115,104,111,116,32,115,117,109,32,116,97,98,108,101,32,116,101,120,116,32,116,104,101,110,32,116,111,32,116,114,117,101,32,117,110,105,111,110,32,117,110,105,113,117,101,32,117,112,100,97,116,101,32,118,97,108,117,101,115,32,119,104,101,110,32,119,104,101,114,101]⟩
def resB:List ByteArray:=resWords.map fun l=>⟨l.toArray⟩
theorem b3R:Lib.countB resText ⟨#[32]⟩=76:=by kernel_rfl
theorem a4W (t:List UInt8):∀ w:List UInt8,(32:UInt8) ∉ w->Lib.indexByte (w++32::t) 32=(w.length:Int)
 | [],_=>by simp[Lib.indexByte]
 | c::w,h=>by
  have ih:=a4W t w (fun z=>h (List.mem_cons_of_mem _ z));have hc:¬ c=32:=fun z=>h (by rw[z];exact List.mem_cons_self);rw[List.cons_append,Lib.indexByte,ih]
  have h1:(c==32)=false:=by rw[beq_eq_false_iff_ne];exact hc
  have h2:(((w.length:Int))==-1)=false:=by rw[beq_eq_false_iff_ne];omega
  rw[h1,h2];simp
theorem a5G:∀ (ws:List (List UInt8)),ws≠[]->(∀ w∈ws,(32:UInt8) ∉ w)->Lib.splitK [32] 0 (ws.length-1) (Lib.join ws [32])=ws
 | [],h,_=>absurd rfl h
 | [w],_,_=>by rw[Lib.join_one];rfl
 | w::u::r,_,h=>by
  have ih:=a5G (u::r) (by simp) (fun x hx=>h x (List.mem_cons_of_mem _ hx))
  have hj:Lib.join (w::u::r) [32]=w++32::Lib.join (u::r) [32]:=by
   rw[Lib.join_cons,Lib.join_cons];simp[Lib.joinTail]
  have hi:Lib.index (w++32::Lib.join (u::r) [32]) [32]=(w.length:Int):=by
   rw[Lib.index_one];exact a4W _ w (h w List.mem_cons_self)
  rw[hj]
  show Lib.splitK [32] 0 (r.length+1) _=_
  rw[Lib.splitK,hi]
  have h2:(((w.length:Int))==-1)=false:=by rw[beq_eq_false_iff_ne];omega
  rw[h2];simp only[Bool.false_eq_true,if_false,Int.toNat_natCast,Nat.add_zero,List.take_left,List.length_cons,List.length_nil,Nat.zero_add];rw[<- List.drop_drop,List.drop_left];simp only[List.drop_succ_cons,List.drop_zero];congr 1
theorem b2n:resText.data.toList=Lib.join resWords [32]:=by kernel_rfl
theorem b5N:∀ w∈resWords,(32:UInt8) ∉ w:=by
 have h:resWords.all (fun w=>!w.contains 32)=true:=by kernel_rfl
 intro w hw;have:=List.all_eq_true.1 h w hw;simpa using this
theorem b3S:Lib.splitB ⟨#[32]⟩ 0 76 resText=resB:=by
 have h:=Lib.splitB_data ⟨#[32]⟩ 0 76 resText;rw[b2n] at h;have h2:=a5G resWords (by intro z;cases z) b5N;have h3:(Lib.splitB ⟨#[32]⟩ 0 76 resText).map (·.data.toList)=resWords:=h.trans h2;unfold resB;rw[<- h3,List.map_map]
 conv=>lhs;rw[<- List.map_id (Lib.splitB ⟨#[32]⟩ 0 76 resText)]
 apply List.map_congr_left;intro a _;exact(a3C a).symm
theorem b3T (t:ByteArray) (ht:t=resText) (m:Int) (W:World) (hm:W.cell? ⟨3,0,none⟩=some (.int .i64 m)) :
 Calls prog 67 #[.string t,.string ⟨#[32]⟩] W fun e w'=>e=.returned (.slice (some ⟨W.heap.size,0,none⟩) 77 77)/\w'=W.alloc (.cells (resB.map Value.string).toArray 9):=by
 subst ht;have h:=Tryz.strings_Split resText ⟨#[32]⟩ m W (by decide) hm (by decide);rw[b3R,b3S] at h;exact h
end Go.Proofs.YtphmpkpcamgjeaaGreatDoor.Lx
namespace Go.Proofs.YtphmpkpcamgjeaaGreatDoor.Lx
open Go.ChangeShapes Go.WideShapes Go.ChangeAt Go.RowKit Go.Proofs.Tryz Go.Shelf Go.Maps
theorem b2o (s:ByteArray) (w:World) (hl:s.toList=[97,108,108]):Calls prog 90 #[.string s] w fun e w'=>e=.returned (.bool true)/\w'=w:=by
 go_enter func90,ntmps90;go_wp2;go_ret;exact⟨rfl,rfl⟩
theorem b2p (s:ByteArray) (w:World) (hl:s.toList=[97,110,100]):Calls prog 90 #[.string s] w fun e w'=>e=.returned (.bool true)/\w'=w:=by
 go_enter func90,ntmps90;go_wp2;go_ret;exact⟨rfl,rfl⟩
theorem b2q (s:ByteArray) (w:World) (hl:s.toList=[97,115]):Calls prog 90 #[.string s] w fun e w'=>e=.returned (.bool true)/\w'=w:=by
 go_enter func90,ntmps90;go_wp2;go_ret;exact⟨rfl,rfl⟩
theorem b2r (s:ByteArray) (w:World) (hl:s.toList=[97,115,99]):Calls prog 90 #[.string s] w fun e w'=>e=.returned (.bool true)/\w'=w:=by
 go_enter func90,ntmps90;go_wp2;go_ret;exact⟨rfl,rfl⟩
theorem b2s (s:ByteArray) (w:World) (hl:s.toList=[97,118,103]):Calls prog 90 #[.string s] w fun e w'=>e=.returned (.bool true)/\w'=w:=by
 go_enter func90,ntmps90;go_wp2;go_ret;exact⟨rfl,rfl⟩
theorem b2t (s:ByteArray) (w:World) (hl:s.toList=[98,101,103,105,110]):Calls prog 90 #[.string s] w fun e w'=>e=.returned (.bool true)/\w'=w:=by
 go_enter func90,ntmps90;go_wp2;go_ret;exact⟨rfl,rfl⟩
theorem b2u (s:ByteArray) (w:World) (hl:s.toList=[98,101,116,119,101,101,110]):Calls prog 90 #[.string s] w fun e w'=>e=.returned (.bool true)/\w'=w:=by
 go_enter func90,ntmps90;go_wp2;go_ret;exact⟨rfl,rfl⟩
theorem b2v (s:ByteArray) (w:World) (hl:s.toList=[98,121]):Calls prog 90 #[.string s] w fun e w'=>e=.returned (.bool true)/\w'=w:=by
 go_enter func90,ntmps90;go_wp2;go_ret;exact⟨rfl,rfl⟩
theorem b2w (s:ByteArray) (w:World) (hl:s.toList=[98,111,111,108,101,97,110]):Calls prog 90 #[.string s] w fun e w'=>e=.returned (.bool true)/\w'=w:=by
 go_enter func90,ntmps90;go_wp2;go_ret;exact⟨rfl,rfl⟩
theorem b2x (s:ByteArray) (w:World) (hl:s.toList=[99,97,115,101]):Calls prog 90 #[.string s] w fun e w'=>e=.returned (.bool true)/\w'=w:=by
 go_enter func90,ntmps90;go_wp2;go_ret;exact⟨rfl,rfl⟩
theorem a8W (s:ByteArray) (w:World) (hl:s.toList=[99,97,115,116]):Calls prog 90 #[.string s] w fun e w'=>e=.returned (.bool true)/\w'=w:=by
 go_enter func90,ntmps90;go_wp2;go_ret;exact⟨rfl,rfl⟩
theorem a8X (s:ByteArray) (w:World) (hl:s.toList=[99,104,101,99,107]):Calls prog 90 #[.string s] w fun e w'=>e=.returned (.bool true)/\w'=w:=by
 go_enter func90,ntmps90;go_wp2;go_ret;exact⟨rfl,rfl⟩
theorem a8Y (s:ByteArray) (w:World) (hl:s.toList=[99,104,101,99,107,112,111,105,110,116]):Calls prog 90 #[.string s] w fun e w'=>e=.returned (.bool true)/\w'=w:=by
 go_enter func90,ntmps90;go_wp2;go_ret;exact⟨rfl,rfl⟩
theorem a8Z (s:ByteArray) (w:World) (hl:s.toList=[99,111,109,109,105,116]):Calls prog 90 #[.string s] w fun e w'=>e=.returned (.bool true)/\w'=w:=by
 go_enter func90,ntmps90;go_wp2;go_ret;exact⟨rfl,rfl⟩
theorem a9a (s:ByteArray) (w:World) (hl:s.toList=[99,111,117,110,116]):Calls prog 90 #[.string s] w fun e w'=>e=.returned (.bool true)/\w'=w:=by
 go_enter func90,ntmps90;go_wp2;go_ret;exact⟨rfl,rfl⟩
theorem a9b (s:ByteArray) (w:World) (hl:s.toList=[99,114,101,97,116,101]):Calls prog 90 #[.string s] w fun e w'=>e=.returned (.bool true)/\w'=w:=by
 go_enter func90,ntmps90;go_wp2;go_ret;exact⟨rfl,rfl⟩
theorem a9c (s:ByteArray) (w:World) (hl:s.toList=[99,114,111,115,115]):Calls prog 90 #[.string s] w fun e w'=>e=.returned (.bool true)/\w'=w:=by
 go_enter func90,ntmps90;go_wp2;go_ret;exact⟨rfl,rfl⟩
theorem a9d (s:ByteArray) (w:World) (hl:s.toList=[100,97,116,101]):Calls prog 90 #[.string s] w fun e w'=>e=.returned (.bool true)/\w'=w:=by
 go_enter func90,ntmps90;go_wp2;go_ret;exact⟨rfl,rfl⟩
theorem a9e (s:ByteArray) (w:World) (hl:s.toList=[100,101,99,105,109,97,108]):Calls prog 90 #[.string s] w fun e w'=>e=.returned (.bool true)/\w'=w:=by
 go_enter func90,ntmps90;go_wp2;go_ret;exact⟨rfl,rfl⟩
theorem a9f (s:ByteArray) (w:World) (hl:s.toList=[100,101,102,97,117,108,116]):Calls prog 90 #[.string s] w fun e w'=>e=.returned (.bool true)/\w'=w:=by
 go_enter func90,ntmps90;go_wp2;go_ret;exact⟨rfl,rfl⟩
theorem a9g (s:ByteArray) (w:World) (hl:s.toList=[100,101,108,101,116,101]):Calls prog 90 #[.string s] w fun e w'=>e=.returned (.bool true)/\w'=w:=by
 go_enter func90,ntmps90;go_wp2;go_ret;exact⟨rfl,rfl⟩
theorem a9h (s:ByteArray) (w:World) (hl:s.toList=[100,101,115,99]):Calls prog 90 #[.string s] w fun e w'=>e=.returned (.bool true)/\w'=w:=by
 go_enter func90,ntmps90;go_wp2;go_ret;exact⟨rfl,rfl⟩
theorem a9i (s:ByteArray) (w:World) (hl:s.toList=[100,105,115,116,105,110,99,116]):Calls prog 90 #[.string s] w fun e w'=>e=.returned (.bool true)/\w'=w:=by
 go_enter func90,ntmps90;go_wp2;go_ret;exact⟨rfl,rfl⟩
theorem a9j (s:ByteArray) (w:World) (hl:s.toList=[100,114,111,112]):Calls prog 90 #[.string s] w fun e w'=>e=.returned (.bool true)/\w'=w:=by
 go_enter func90,ntmps90;go_wp2;go_ret;exact⟨rfl,rfl⟩
theorem a9k (s:ByteArray) (w:World) (hl:s.toList=[101,108,115,101]):Calls prog 90 #[.string s] w fun e w'=>e=.returned (.bool true)/\w'=w:=by
 go_enter func90,ntmps90;go_wp2;go_ret;exact⟨rfl,rfl⟩
theorem a9l (s:ByteArray) (w:World) (hl:s.toList=[101,110,100]):Calls prog 90 #[.string s] w fun e w'=>e=.returned (.bool true)/\w'=w:=by
 go_enter func90,ntmps90;go_wp2;go_ret;exact⟨rfl,rfl⟩
theorem a9m (s:ByteArray) (w:World) (hl:s.toList=[101,120,99,101,112,116]):Calls prog 90 #[.string s] w fun e w'=>e=.returned (.bool true)/\w'=w:=by
 go_enter func90,ntmps90;go_wp2;go_ret;exact⟨rfl,rfl⟩
theorem a9n (s:ByteArray) (w:World) (hl:s.toList=[101,120,105,115,116,115]):Calls prog 90 #[.string s] w fun e w'=>e=.returned (.bool true)/\w'=w:=by
 go_enter func90,ntmps90;go_wp2;go_ret;exact⟨rfl,rfl⟩
theorem a9o (s:ByteArray) (w:World) (hl:s.toList=[101,120,112,108,97,105,110]):Calls prog 90 #[.string s] w fun e w'=>e=.returned (.bool true)/\w'=w:=by
 go_enter func90,ntmps90;go_wp2;go_ret;exact⟨rfl,rfl⟩
theorem a9p (s:ByteArray) (w:World) (hl:s.toList=[102,97,108,115,101]):Calls prog 90 #[.string s] w fun e w'=>e=.returned (.bool true)/\w'=w:=by
 go_enter func90,ntmps90;go_wp2;go_ret;exact⟨rfl,rfl⟩
theorem a9q (s:ByteArray) (w:World) (hl:s.toList=[102,105,114,115,116]):Calls prog 90 #[.string s] w fun e w'=>e=.returned (.bool true)/\w'=w:=by
 go_enter func90,ntmps90;go_wp2;go_ret;exact⟨rfl,rfl⟩
theorem a9r (s:ByteArray) (w:World) (hl:s.toList=[102,114,111,109]):Calls prog 90 #[.string s] w fun e w'=>e=.returned (.bool true)/\w'=w:=by
 go_enter func90,ntmps90;go_wp2;go_ret;exact⟨rfl,rfl⟩
theorem a9s (s:ByteArray) (w:World) (hl:s.toList=[103,114,111,117,112]):Calls prog 90 #[.string s] w fun e w'=>e=.returned (.bool true)/\w'=w:=by
 go_enter func90,ntmps90;go_wp2;go_ret;exact⟨rfl,rfl⟩
theorem a9t (s:ByteArray) (w:World) (hl:s.toList=[104,97,118,105,110,103]):Calls prog 90 #[.string s] w fun e w'=>e=.returned (.bool true)/\w'=w:=by
 go_enter func90,ntmps90;go_wp2;go_ret;exact⟨rfl,rfl⟩
theorem a9u (s:ByteArray) (w:World) (hl:s.toList=[105,110]):Calls prog 90 #[.string s] w fun e w'=>e=.returned (.bool true)/\w'=w:=by
 go_enter func90,ntmps90;go_wp2;go_ret;exact⟨rfl,rfl⟩
theorem a9v (s:ByteArray) (w:World) (hl:s.toList=[105,110,100,101,120]):Calls prog 90 #[.string s] w fun e w'=>e=.returned (.bool true)/\w'=w:=by
 go_enter func90,ntmps90;go_wp2;go_ret;exact⟨rfl,rfl⟩
theorem a9w (s:ByteArray) (w:World) (hl:s.toList=[105,110,110,101,114]):Calls prog 90 #[.string s] w fun e w'=>e=.returned (.bool true)/\w'=w:=by
 go_enter func90,ntmps90;go_wp2;go_ret;exact⟨rfl,rfl⟩
theorem a9x (s:ByteArray) (w:World) (hl:s.toList=[105,110,115,101,114,116]):Calls prog 90 #[.string s] w fun e w'=>e=.returned (.bool true)/\w'=w:=by
 go_enter func90,ntmps90;go_wp2;go_ret;exact⟨rfl,rfl⟩
theorem a9y (s:ByteArray) (w:World) (hl:s.toList=[105,110,116]):Calls prog 90 #[.string s] w fun e w'=>e=.returned (.bool true)/\w'=w:=by
 go_enter func90,ntmps90;go_wp2;go_ret;exact⟨rfl,rfl⟩
theorem a9z (s:ByteArray) (w:World) (hl:s.toList=[105,110,116,111]):Calls prog 90 #[.string s] w fun e w'=>e=.returned (.bool true)/\w'=w:=by
 go_enter func90,ntmps90;go_wp2;go_ret;exact⟨rfl,rfl⟩
theorem a9A (s:ByteArray) (w:World) (hl:s.toList=[105,115]):Calls prog 90 #[.string s] w fun e w'=>e=.returned (.bool true)/\w'=w:=by
 go_enter func90,ntmps90;go_wp2;go_ret;exact⟨rfl,rfl⟩
theorem a9B (s:ByteArray) (w:World) (hl:s.toList=[106,111,105,110]):Calls prog 90 #[.string s] w fun e w'=>e=.returned (.bool true)/\w'=w:=by
 go_enter func90,ntmps90;go_wp2;go_ret;exact⟨rfl,rfl⟩
theorem a9C (s:ByteArray) (w:World) (hl:s.toList=[107,101,121]):Calls prog 90 #[.string s] w fun e w'=>e=.returned (.bool true)/\w'=w:=by
 go_enter func90,ntmps90;go_wp2;go_ret;exact⟨rfl,rfl⟩
theorem a9D (s:ByteArray) (w:World) (hl:s.toList=[108,97,115,116]):Calls prog 90 #[.string s] w fun e w'=>e=.returned (.bool true)/\w'=w:=by
 go_enter func90,ntmps90;go_wp2;go_ret;exact⟨rfl,rfl⟩
theorem a9E (s:ByteArray) (w:World) (hl:s.toList=[108,101,102,116]):Calls prog 90 #[.string s] w fun e w'=>e=.returned (.bool true)/\w'=w:=by
 go_enter func90,ntmps90;go_wp2;go_ret;exact⟨rfl,rfl⟩
end Go.Proofs.YtphmpkpcamgjeaaGreatDoor.Lx
namespace Go.Proofs.YtphmpkpcamgjeaaGreatDoor.Lx
open Go.ChangeShapes Go.WideShapes Go.ChangeAt Go.RowKit Go.Proofs.Tryz Go.Shelf Go.Maps
theorem a0k (l w:List UInt8) (h:resWords.contains l=false) (hw:resWords.contains w=true):(l==w)=false:=by
 rw[beq_eq_false_iff_ne];rintro rfl;rw[h] at hw;cases hw
theorem a5a (s:ByteArray) (w:World) (h:resWords.contains s.data.toList=false) :
 Calls prog 90 #[.string s] w fun e w'=>e=.returned (.bool false)/\w'=w:=by
 rw[<- Lib.toList_data] at h;generalize hl:s.toList=l at h;have h0:(l==[97,108,108])=false:=a0k l _ h (by kernel_rfl);have h1:(l==[97,110,100])=false:=a0k l _ h (by kernel_rfl);have h2:(l==[97,115])=false:=a0k l _ h (by kernel_rfl);have h3:(l==[97,115,99])=false:=a0k l _ h (by kernel_rfl);have h4:(l==[97,118,103])=false:=a0k l _ h (by kernel_rfl);have h5:(l==[98,101,103,105,110])=false:=a0k l _ h (by kernel_rfl);have h6:(l==[98,101,116,119,101,101,110])=false:=a0k l _ h (by kernel_rfl);have h7:(l==[98,121])=false:=a0k l _ h (by kernel_rfl);have h8:(l==[98,111,111,108,101,97,110])=false:=a0k l _ h (by kernel_rfl);have h9:(l==[99,97,115,101])=false:=a0k l _ h (by kernel_rfl)
 have a0:(l==[99,97,115,116])=false:=a0k l _ h (by kernel_rfl);have a1:(l==[99,104,101,99,107])=false:=a0k l _ h (by kernel_rfl);have a2:(l==[99,104,101,99,107,112,111,105,110,116])=false:=a0k l _ h (by kernel_rfl);have a3:(l==[99,111,109,109,105,116])=false:=a0k l _ h (by kernel_rfl);have a4:(l==[99,111,117,110,116])=false:=a0k l _ h (by kernel_rfl);have a5:(l==[99,114,101,97,116,101])=false:=a0k l _ h (by kernel_rfl);have a6:(l==[99,114,111,115,115])=false:=a0k l _ h (by kernel_rfl);have a7:(l==[100,97,116,101])=false:=a0k l _ h (by kernel_rfl);have a8:(l==[100,101,99,105,109,97,108])=false:=a0k l _ h (by kernel_rfl);have a9:(l==[100,101,102,97,117,108,116])=false:=a0k l _ h (by kernel_rfl)
 have b0:(l==[100,101,108,101,116,101])=false:=a0k l _ h (by kernel_rfl);have b1:(l==[100,101,115,99])=false:=a0k l _ h (by kernel_rfl);have b2:(l==[100,105,115,116,105,110,99,116])=false:=a0k l _ h (by kernel_rfl);have b3:(l==[100,114,111,112])=false:=a0k l _ h (by kernel_rfl);have b4:(l==[101,108,115,101])=false:=a0k l _ h (by kernel_rfl);have b5:(l==[101,110,100])=false:=a0k l _ h (by kernel_rfl);have b6:(l==[101,120,99,101,112,116])=false:=a0k l _ h (by kernel_rfl);have b7:(l==[101,120,105,115,116,115])=false:=a0k l _ h (by kernel_rfl);have b8:(l==[101,120,112,108,97,105,110])=false:=a0k l _ h (by kernel_rfl);have b9:(l==[102,97,108,115,101])=false:=a0k l _ h (by kernel_rfl)
 have c0:(l==[102,105,114,115,116])=false:=a0k l _ h (by kernel_rfl);have c1:(l==[102,114,111,109])=false:=a0k l _ h (by kernel_rfl);have c2:(l==[103,114,111,117,112])=false:=a0k l _ h (by kernel_rfl);have c3:(l==[104,97,118,105,110,103])=false:=a0k l _ h (by kernel_rfl);have c4:(l==[105,110])=false:=a0k l _ h (by kernel_rfl);have c5:(l==[105,110,100,101,120])=false:=a0k l _ h (by kernel_rfl);have c6:(l==[105,110,110,101,114])=false:=a0k l _ h (by kernel_rfl);have c7:(l==[105,110,115,101,114,116])=false:=a0k l _ h (by kernel_rfl);have c8:(l==[105,110,116])=false:=a0k l _ h (by kernel_rfl);have c9:(l==[105,110,116,111])=false:=a0k l _ h (by kernel_rfl);have d0:(l==[105,115])=false:=a0k l _ h (by kernel_rfl)
 have d1:(l==[106,111,105,110])=false:=a0k l _ h (by kernel_rfl);have d2:(l==[107,101,121])=false:=a0k l _ h (by kernel_rfl);have d3:(l==[108,97,115,116])=false:=a0k l _ h (by kernel_rfl);have d4:(l==[108,101,102,116])=false:=a0k l _ h (by kernel_rfl);have d5:(l==[108,105,107,101])=false:=a0k l _ h (by kernel_rfl);have d6:(l==[108,105,109,105,116])=false:=a0k l _ h (by kernel_rfl);have d7:(l==[109,97,120])=false:=a0k l _ h (by kernel_rfl);have d8:(l==[109,105,110])=false:=a0k l _ h (by kernel_rfl);have d9:(l==[110,111,116])=false:=a0k l _ h (by kernel_rfl);have e0:(l==[110,117,108,108])=false:=a0k l _ h (by kernel_rfl);have e1:(l==[110,117,108,108,115])=false:=a0k l _ h (by kernel_rfl)
 have e2:(l==[111,102,102,115,101,116])=false:=a0k l _ h (by kernel_rfl);have e3:(l==[111,110])=false:=a0k l _ h (by kernel_rfl);have e4:(l==[111,114])=false:=a0k l _ h (by kernel_rfl);have e5:(l==[111,114,100,101,114])=false:=a0k l _ h (by kernel_rfl);have e6:(l==[111,117,116,101,114])=false:=a0k l _ h (by kernel_rfl);have e7:(l==[112,114,105,109,97,114,121])=false:=a0k l _ h (by kernel_rfl);have e8:(l==[114,101,108,101,97,115,101])=false:=a0k l _ h (by kernel_rfl);have e9:(l==[114,111,108,108,98,97,99,107])=false:=a0k l _ h (by kernel_rfl);have f0:(l==[115,97,118,101,112,111,105,110,116])=false:=a0k l _ h (by kernel_rfl);have f1:(l==[115,101,108,101,99,116])=false:=a0k l _ h (by kernel_rfl)
 have f2:(l==[115,101,114,105,97,108,105,122,97,98,108,101])=false:=a0k l _ h (by kernel_rfl);have f3:(l==[115,101,116])=false:=a0k l _ h (by kernel_rfl);have f4:(l==[115,110,97,112,115,104,111,116])=false:=a0k l _ h (by kernel_rfl);have f5:(l==[115,117,109])=false:=a0k l _ h (by kernel_rfl);have f6:(l==[116,97,98,108,101])=false:=a0k l _ h (by kernel_rfl);have f7:(l==[116,101,120,116])=false:=a0k l _ h (by kernel_rfl);have f8:(l==[116,104,101,110])=false:=a0k l _ h (by kernel_rfl);have f9:(l==[116,111])=false:=a0k l _ h (by kernel_rfl);have g0:(l==[116,114,117,101])=false:=a0k l _ h (by kernel_rfl);have g1:(l==[117,110,105,111,110])=false:=a0k l _ h (by kernel_rfl)
 have g2:(l==[117,110,105,113,117,101])=false:=a0k l _ h (by kernel_rfl);have g3:(l==[117,112,100,97,116,101])=false:=a0k l _ h (by kernel_rfl);have g4:(l==[118,97,108,117,101,115])=false:=a0k l _ h (by kernel_rfl);have g5:(l==[119,104,101,110])=false:=a0k l _ h (by kernel_rfl);have g6:(l==[119,104,101,114,101])=false:=a0k l _ h (by kernel_rfl);clear h;go_enter func90,ntmps90;go_wp2;go_ret;exact⟨rfl,rfl⟩
end Go.Proofs.YtphmpkpcamgjeaaGreatDoor.Lx
