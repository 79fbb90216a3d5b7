import Derived.Test.YtphmpkpcamgjeaaGreatDoorXAI
import Derived.RegionTactic
import Derived.ChangeAlike
import Derived.Test.YtphmpkpcamgjeaaGreatDoorXAA
set_option linter.unusedVariables false
set_option linter.unusedSimpArgs false
set_option maxRecDepth 100000
set_option maxHeartbeats 16000000
namespace Go.Proofs.YtphmpkpcamgjeaaGreatDoor.Lx
open Go.ChangeShapes Go.WideShapes Go.ChangeAt Go.RowKit Go.Proofs.Tryz Go.Shelf
theorem a6O (s:ByteArray) (w:World) (hs:s.size<=1048576) (h0:0<s.size) (hq:s[0]'h0=39) (hT:Tabs w) :
 Calls prog 65 #[.string s] w fun e w'=>e=.returned (cutV (strL s.data.toList))/\Below w.heap.size w w':=by
 have hun:=fun w=>a4T s 39 w hs h0 hq;unfold UnqPost at hun
 have HQ:Hid (strL s.data.toList=match unq 39 (s.data.toList.drop 1) with
   | none=>.err 2 0
   | some x=>match a2g ⟨x.1.toArray⟩ with
     | none=>.err 2 0
     | some cs=>if 255<cs.length then .err 5 0 else .tok 5 x.1 (x.2+1)):=rfl
 have hlen:=unq_len 39 (s.data.toList.drop 1)
 cases hu:unq 39 (s.data.toList.drop 1) with
 | none=>
  rw[hu] at hun
  have a8:Hid (strL s.data.toList=.err 2 0):=by have:=HQ.out;rw[hu] at this;exact this
  clear HQ hlen hu;go_enter func65,ntmps65;go_wp2_with (go_at_call 103;refine(hun _).mono ?_;rintro e w1 ⟨rfl,a0⟩;obtain⟨a5,a6⟩:=bcell a0;have a2:w.heap.size<w1.heap.size:=(by have:=a0.size;simp at this;omega);have a3:Below w.heap.size w w1:=((Below.refl _ _).alloc (Nat.le_refl _) _).trans (a0.mono (by simp));clear a0);refine bodyPost_ret (v:=.agg #[.int .i64 0,.string ⟨#[]⟩,.int .i64 0,.int .i64 2,.int .i64 0]) (by simp[results,results65,go_sem,a5,a6,a2]) rfl ⟨?_,?_⟩
  .rw[a8.out];rfl
  exact((((a3.setCell (Nat.le_refl _) _).setCell (Nat.le_refl _) _).setCell (Nat.le_refl _) _).setCell (Nat.le_refl _) _).setCell (Nat.le_refl _) _
 | some x=>
 have hl:=hlen x.1 x.2 hu;rw[List.length_drop] at hl
 have hsl:s.data.toList.length=s.size:=by simp
 rw[hsl] at hl;rw[hu] at hun
 have a9:Hid (strL s.data.toList=match a2g ⟨x.1.toArray⟩ with
   | none=>.err 2 0
   | some cs=>if 255<cs.length then .err 5 0 else .tok 5 x.1 (x.2+1)):=by have:=HQ.out;rw[hu] at this;exact this
 clear HQ hlen hu hsl;obtain⟨x1,x2⟩:=x;simp only at hun hl a9;obtain⟨c,hcl⟩:∃ c:ByteArray,c=⟨x1.toArray⟩:=⟨_,rfl⟩
 have b8:x1=c.data.toList:=by rw[hcl]
 rw[<- hcl] at hun a9;clear hcl;subst b8
 have hcs:c.data.toList.length=c.size:=by simp
 rw[hcs] at hl;have hva:=fun w hT=>b3N c w (by omega) hT;have hcc:=fun w=>a6L c w (by omega);rw[b2R c] at hva;have c0:∀ o,Tabs (w.alloc o):=fun o=>tabs_below hT (below_alloc _ _)
 cases hch:a2g c with
 | none=>
  have a8:Hid (strL s.data.toList=.err 2 0):=by have:=a9.out;rw[hch] at this;exact this
  rw[hch] at hva;clear a9 hch;simp only[Option.isSome_none] at hva;go_enter func65,ntmps65;go_wp2_with (first | (go_at_call 103;refine(hun _).mono ?_;rintro e w1 ⟨rfl,a0⟩;obtain⟨a5,a6⟩:=bcell a0;have a2:w.heap.size<w1.heap.size:=(by have:=a0.size;simp at this;omega);have a3:Below w.heap.size w w1:=((Below.refl _ _).alloc (Nat.le_refl _) _).trans (a0.mono (by simp));have b0:Tabs w1:=tabs_below hT a3;clear a0) | (go_at_call 105;refine(hva _ b0).mono ?_;rintro e w2 ⟨rfl,a1⟩;obtain⟨b1,b2⟩:=bcell a1;have a7:w.heap.size<w2.heap.size:=(by have:=a1.size;omega);have b3:Below w.heap.size w w2:=a3.trans (a1.mono (Nat.le_of_lt a2));clear a1))
  refine bodyPost_ret (v:=.agg #[.int .i64 0,.string ⟨#[]⟩,.int .i64 0,.int .i64 2,.int .i64 0]) (by simp[results,results65,go_sem,a5,a6,a2,b1,b2,a7]) rfl ⟨?_,?_⟩
  .rw[a8.out];rfl
  exact((((b3.setCell (Nat.le_refl _) _).setCell (Nat.le_refl _) _).setCell (Nat.le_refl _) _).setCell (Nat.le_refl _) _).setCell (Nat.le_refl _) _
 | some cs=>
 have a8:Hid (strL s.data.toList=if 255<cs.length then .err 5 0 else .tok 5 c.data.toList (x2+1)):=by have:=a9.out;rw[hch] at this;exact this
 rw[hch] at hva;have hcnt:=(count_eq c cs hch).1;have b9:=(count_eq c cs hch).2.2;rw[hcnt] at hcc;clear a9 hch hcnt;simp only[Option.isSome_some] at hva;generalize cs.length=m at *;by_cases hb:255<m
 .go_enter func65,ntmps65
  go_wp2_with (first | (go_at_call 103;refine(hun _).mono ?_;rintro e w1 ⟨rfl,a0⟩;obtain⟨a5,a6⟩:=bcell a0;have a2:w.heap.size<w1.heap.size:=(by have:=a0.size;simp at this;omega);have a3:Below w.heap.size w w1:=((Below.refl _ _).alloc (Nat.le_refl _) _).trans (a0.mono (by simp));have b0:Tabs w1:=tabs_below hT a3;clear a0) | (go_at_call 105;refine(hva _ b0).mono ?_;rintro e w2 ⟨rfl,a1⟩;obtain⟨b1,b2⟩:=bcell a1;have a7:w.heap.size<w2.heap.size:=(by have:=a1.size;omega);have b3:Below w.heap.size w w2:=a3.trans (a1.mono (Nat.le_of_lt a2));clear a1) | (go_at_call 106;refine(hcc _).mono ?_;rintro e w3 ⟨rfl,a4⟩;obtain⟨b4,b5⟩:=bcell a4;have b6:w.heap.size<w3.heap.size:=(by have:=a4.size;omega);have b7:Below w.heap.size w w3:=b3.trans (a4.mono (Nat.le_of_lt a7));clear a4))
  refine bodyPost_ret (v:=.agg #[.int .i64 0,.string ⟨#[]⟩,.int .i64 0,.int .i64 5,.int .i64 0]) (by simp[results,results65,go_sem,a5,a6,a2,b1,b2,a7,b4,b5,b6]) rfl ⟨?_,?_⟩
  .rw[a8.out,if_pos hb];rfl
  exact((((b7.setCell (Nat.le_refl _) _).setCell (Nat.le_refl _) _).setCell (Nat.le_refl _) _).setCell (Nat.le_refl _) _).setCell (Nat.le_refl _) _
 go_enter func65,ntmps65
 go_wp2_with (first | (go_at_call 103;refine(hun _).mono ?_;rintro e w1 ⟨rfl,a0⟩;obtain⟨a5,a6⟩:=bcell a0;have a2:w.heap.size<w1.heap.size:=(by have:=a0.size;simp at this;omega);have a3:Below w.heap.size w w1:=((Below.refl _ _).alloc (Nat.le_refl _) _).trans (a0.mono (by simp));have b0:Tabs w1:=tabs_below hT a3;clear a0) | (go_at_call 105;refine(hva _ b0).mono ?_;rintro e w2 ⟨rfl,a1⟩;obtain⟨b1,b2⟩:=bcell a1;have a7:w.heap.size<w2.heap.size:=(by have:=a1.size;omega);have b3:Below w.heap.size w w2:=a3.trans (a1.mono (Nat.le_of_lt a2));clear a1) | (go_at_call 106;refine(hcc _).mono ?_;rintro e w3 ⟨rfl,a4⟩;obtain⟨b4,b5⟩:=bcell a4;have b6:w.heap.size<w3.heap.size:=(by have:=a4.size;omega);have b7:Below w.heap.size w w3:=b3.trans (a4.mono (Nat.le_of_lt a7));clear a4))
 refine bodyPost_ret (v:=.agg #[.int .i64 5,.string c,.int .i64 ((x2+1:Nat):Int),.int .i64 0,.int .i64 0]) (by simp[results,results65,go_sem,a5,a6,a2,b1,b2,a7,b4,b5,b6]) rfl ⟨?_,?_⟩
 .rw[a8.out,if_neg hb];simp only[cutV,a3C]
 exact((((b7.setCell (Nat.le_refl _) _).setCell (Nat.le_refl _) _).setCell (Nat.le_refl _) _).setCell (Nat.le_refl _) _).setCell (Nat.le_refl _) _
end Go.Proofs.YtphmpkpcamgjeaaGreatDoor.Lx
namespace Go.Proofs.YtphmpkpcamgjeaaGreatDoor.Lx
open Go.ChangeShapes Go.WideShapes Go.ChangeAt Go.RowKit Go.Proofs.Tryz Go.Shelf
theorem b1g:∀ a b:List UInt8,Op.bytesLess a b=false->Op.bytesLess b a=false->a=b
 | [],[],_,_=>rfl
 | [],y::b,h,_=>by simp[Op.bytesLess] at h
 | x::a,[],_,h=>by simp[Op.bytesLess] at h
 | x::a,y::b,h1,h2=>by
  unfold Op.bytesLess at h1 h2;simp only[Bool.or_eq_false_iff,decide_eq_false_iff_not,Bool.and_eq_false_iff,beq_eq_false_iff_ne] at h1 h2
  have e:x=y:=by
   apply UInt8.toNat.inj;have a1:¬ x.toNat<y.toNat:=fun z=>h1.1 (UInt8.lt_iff_toNat_lt.2 z);have a2:¬ y.toNat<x.toNat:=fun z=>h2.1 (UInt8.lt_iff_toNat_lt.2 z);omega
  subst e
  have b1:Op.bytesLess a b=false:=by rcases h1.2 with z | z;exact absurd rfl z;exact z
  have b2:Op.bytesLess b a=false:=by rcases h2.2 with z | z;exact absurd rfl z;exact z
  rw[b1g a b b1 b2]
def maxL:List UInt8:=[57,50,50,51,51,55,50,48,51,54,56,53,52,55,55,53,56,48,55]
theorem b1h:val maxL=9223372036854775807:=by decide
theorem a7O:digs maxL:=by intro c hc;unfold maxL at hc;simp only[List.mem_cons,List.not_mem_nil,or_false] at hc;rcases hc with h | h | h | h | h | h | h | h | h | h | h | h | h | h | h | h | h | h | h<;>(subst h;decide)
theorem b9b (x:List UInt8) (hd:digs x) (hl:x.length=19):(!(Op.bytesLess x maxL || x==maxL))=decide (9223372036854775807<val x):=by
 have h1:=a6x x maxL hd a7O (by rw[hl];rfl);have h2:=a6x maxL x a7O hd (by rw[hl];rfl);rw[b1h] at h1 h2;rw[Bool.eq_iff_iff,Bool.not_eq_true',Bool.or_eq_false_iff,beq_eq_false_iff_ne,decide_eq_true_eq];constructor
 .rintro⟨a,b⟩;rw[<- h2];cases c:Op.bytesLess maxL x
  .exact absurd (b1g _ _ a c) b
  rfl
 intro h;refine⟨?_,?_⟩
 .cases c:Op.bytesLess x maxL
  .rfl
  have:=h1.1 c;omega
 rintro rfl;rw[b1h] at h;omega
theorem a4V (l:List UInt8) (h:digs l):digs (noughts l):=fun c hc=>h c (List.mem_of_mem_drop hc)
theorem b1i (l:List UInt8):digs (l.take (runN digI l)):=fun c hc=>a4U digI l c hc
theorem a8P (x:List UInt8) (hd:digs x) (hl:x.length<19):bigI x=false:=by
 have h:=a3Y x hd;have:10^x.length<=10^18:=Nat.pow_le_pow_right (by omega) (by omega);unfold bigI;simp;omega
theorem a4G (x:List UInt8) (hl:19<x.length):bigI x=true:=by unfold bigI;simp[hl]
theorem a8Q (x:List UInt8) (hd:digs x) (hl:x.length=19):bigI x=(!(Op.bytesLess x maxL || x==maxL)):=by
 rw[b9b x hd hl];unfold bigI;simp[hl]
def a1e (s:ByteArray) (e:Nat):Bool:=b6O s.data.toList[e]?
theorem a1T (s:ByteArray) (e:Nat) (h:e<s.size):a1e s e=wdI ((s[e]'h).toNat:Int):=by unfold a1e;rw[a0P s e h];rfl
theorem a3E (s:ByteArray) (e:Nat) (h:¬ e<s.size):a1e s e=false:=by unfold a1e;rw[List.getElem?_eq_none (by simp;omega)];rfl
end Go.Proofs.YtphmpkpcamgjeaaGreatDoor.Lx
namespace Go.Proofs.YtphmpkpcamgjeaaGreatDoor.Lx
open Go.ChangeShapes Go.WideShapes Go.ChangeAt Go.RowKit Go.Proofs.Tryz Go.Shelf
theorem a8R (s t:ByteArray) (n:Nat) (r:Cut) (w:World) (hs:s.size<=1048576) (hn1:1<=n) (hn2:n<=s.size) (ht1:1<=t.size) (ht2:t.size<=n)
    (hcnt:∀ w,Calls prog 99 #[.string s,.func (.func 62) #[] #[]] w fun e w'=>e=.returned (.int .i64 n)/\w'=w)
    (hwn:∀ w,Calls prog 102 #[.string (s.extract 0 n)] w fun e w'=>e=.returned (.string t)/\w'=w)
    (hdt:digs t.data.toList) (HR:Hid (r=if bigI t.data.toList then .err 5 0 else if a1e s n then .err 2 n else .tok 3 t.data.toList n))
    (hA:¬ n+1<s.size) :
 Calls prog 63 #[.string s] w fun e w'=>e=.returned (cutV r)/\Below w.heap.size w w':=by
 have htl:t.data.toList.length=t.size:=by simp
 have hA':¬ (n:Int)+1<s.size:=by omega
 have hdg:=fun w=>a1G 0 w;rcases Nat.lt_trichotomy t.size 19 with a0 | a0 | a0
 .have HB:Hid (bigI t.data.toList=false):=a8P _ hdt (by rw[htl];exact a0)
  have a1:¬ (19:Int)<t.size:=by omega
  have a2:((t.size:Int)==19)=false:=by rw[beq_eq_false_iff_ne];omega
  by_cases he:n<s.size
  .have hbw:=fun w=>a0q ((s[n]'he).toNat:Int) w;have hX:=a1T s n he;cases hw:wdI ((s[n]'he).toNat:Int)
   .rw[hw] at hbw hX;have HX:Hid (a1e s n=false):=hX;clear hX hw;go_enter func63,ntmps63;go_wp2_with (first | (go_at_call 99;refine ws (hcnt _) ?_) | (go_at_call 102;refine ws (hwn _) ?_) | (go_at_call 62;refine ws (hdg _) ?_) | (go_at_call 60;refine ws (hbw _) ?_));refine bodyPost_ret (v:=.agg #[.int .i64 3,.string t,.int .i64 n,.int .i64 0,.int .i64 0]) (by simp[results,results63,go_sem]) rfl ⟨?_,((Below.refl _ _).alloc (Nat.le_refl _) _).alloc (by simp) _⟩;rw[HR.out];rw[if_neg (by rw[HB.out];decide)];rw[if_neg (by rw[HX.out];decide)];simp only[cutV,a3C]
   rw[hw] at hbw hX;have HX:Hid (a1e s n=true):=hX;clear hX hw;go_enter func63,ntmps63;go_wp2_with (first | (go_at_call 99;refine ws (hcnt _) ?_) | (go_at_call 102;refine ws (hwn _) ?_) | (go_at_call 62;refine ws (hdg _) ?_) | (go_at_call 60;refine ws (hbw _) ?_));refine bodyPost_ret (v:=.agg #[.int .i64 0,.string ⟨#[]⟩,.int .i64 0,.int .i64 2,.int .i64 n]) (by simp[results,results63,go_sem]) rfl ⟨?_,((Below.refl _ _).alloc (Nat.le_refl _) _).alloc (by simp) _⟩;rw[HR.out];rw[if_neg (by rw[HB.out];decide)];rw[if_pos HX.out];rfl
  have HX:Hid (a1e s n=false):=a3E s n he
  have he':¬ (n:Int)<s.size:=by omega
  have hbw:=fun w=>a0q 0 w;go_enter func63,ntmps63;go_wp2_with (first | (go_at_call 99;refine ws (hcnt _) ?_) | (go_at_call 102;refine ws (hwn _) ?_) | (go_at_call 62;refine ws (hdg _) ?_) | (go_at_call 60;refine ws (hbw _) ?_));refine bodyPost_ret (v:=.agg #[.int .i64 3,.string t,.int .i64 n,.int .i64 0,.int .i64 0]) (by simp[results,results63,go_sem]) rfl ⟨?_,((Below.refl _ _).alloc (Nat.le_refl _) _).alloc (by simp) _⟩;rw[HR.out];rw[if_neg (by rw[HB.out];decide)];rw[if_neg (by rw[HX.out];decide)];simp only[cutV,a3C]
 .have hgb:=a8Q _ hdt (htl.trans a0)
  have a2:(t.size:Int)=19:=by omega
  have htt:t.toList=t.data.toList:=Lib.toList_data t;cases hg:(!(Op.bytesLess t.data.toList maxL || t.data.toList==maxL))
  .rw[hg] at hgb;have HB:Hid (bigI t.data.toList=false):=hgb
   have a3:(Op.bytesLess t.toList [57,50,50,51,51,55,50,48,51,54,56,53,52,55,55,53,56,48,55] || t.toList==[57,50,50,51,51,55,50,48,51,54,56,53,52,55,55,53,56,48,55])=true:=by
    rw[htt]
    show(Op.bytesLess t.data.toList maxL || t.data.toList==maxL)=true
    rw[Bool.not_eq_false'] at hg;exact hg
   clear hgb hg htt;by_cases he:n<s.size
   .have hbw:=fun w=>a0q ((s[n]'he).toNat:Int) w;have hX:=a1T s n he;cases hw:wdI ((s[n]'he).toNat:Int)
    .rw[hw] at hbw hX;have HX:Hid (a1e s n=false):=hX;clear hX hw;go_enter func63,ntmps63;go_wp2_with (first | (go_at_call 99;refine ws (hcnt _) ?_) | (go_at_call 102;refine ws (hwn _) ?_) | (go_at_call 62;refine ws (hdg _) ?_) | (go_at_call 60;refine ws (hbw _) ?_));refine bodyPost_ret (v:=.agg #[.int .i64 3,.string t,.int .i64 n,.int .i64 0,.int .i64 0]) (by simp[results,results63,go_sem]) rfl ⟨?_,((Below.refl _ _).alloc (Nat.le_refl _) _).alloc (by simp) _⟩;rw[HR.out];rw[if_neg (by rw[HB.out];decide)];rw[if_neg (by rw[HX.out];decide)];simp only[cutV,a3C]
    rw[hw] at hbw hX;have HX:Hid (a1e s n=true):=hX;clear hX hw;go_enter func63,ntmps63;go_wp2_with (first | (go_at_call 99;refine ws (hcnt _) ?_) | (go_at_call 102;refine ws (hwn _) ?_) | (go_at_call 62;refine ws (hdg _) ?_) | (go_at_call 60;refine ws (hbw _) ?_));refine bodyPost_ret (v:=.agg #[.int .i64 0,.string ⟨#[]⟩,.int .i64 0,.int .i64 2,.int .i64 n]) (by simp[results,results63,go_sem]) rfl ⟨?_,((Below.refl _ _).alloc (Nat.le_refl _) _).alloc (by simp) _⟩;rw[HR.out];rw[if_neg (by rw[HB.out];decide)];rw[if_pos HX.out];rfl
   have HX:Hid (a1e s n=false):=a3E s n he
   have he':¬ (n:Int)<s.size:=by omega
   have hbw:=fun w=>a0q 0 w;go_enter func63,ntmps63;go_wp2_with (first | (go_at_call 99;refine ws (hcnt _) ?_) | (go_at_call 102;refine ws (hwn _) ?_) | (go_at_call 62;refine ws (hdg _) ?_) | (go_at_call 60;refine ws (hbw _) ?_));refine bodyPost_ret (v:=.agg #[.int .i64 3,.string t,.int .i64 n,.int .i64 0,.int .i64 0]) (by simp[results,results63,go_sem]) rfl ⟨?_,((Below.refl _ _).alloc (Nat.le_refl _) _).alloc (by simp) _⟩;rw[HR.out];rw[if_neg (by rw[HB.out];decide)];rw[if_neg (by rw[HX.out];decide)];simp only[cutV,a3C]
  rw[hg] at hgb;have HB:Hid (bigI t.data.toList=true):=hgb
  have a3:(Op.bytesLess t.toList [57,50,50,51,51,55,50,48,51,54,56,53,52,55,55,53,56,48,55] || t.toList==[57,50,50,51,51,55,50,48,51,54,56,53,52,55,55,53,56,48,55])=false:=by
   rw[htt]
   show(Op.bytesLess t.data.toList maxL || t.data.toList==maxL)=false
   rw[Bool.not_eq_true'] at hg;exact hg
  clear hgb hg htt;have hbw:=fun w=>a0q 0 w;go_enter func63,ntmps63;go_wp2_with (first | (go_at_call 99;refine ws (hcnt _) ?_) | (go_at_call 102;refine ws (hwn _) ?_) | (go_at_call 62;refine ws (hdg _) ?_) | (go_at_call 60;refine ws (hbw _) ?_));refine bodyPost_ret (v:=.agg #[.int .i64 0,.string ⟨#[]⟩,.int .i64 0,.int .i64 5,.int .i64 0]) (by simp[results,results63,go_sem]) rfl ⟨?_,((Below.refl _ _).alloc (Nat.le_refl _) _).alloc (by simp) _⟩;rw[HR.out];rw[if_pos HB.out];rfl
 have HB:Hid (bigI t.data.toList=true):=a4G _ (by rw[htl];exact a0)
 have a1:(19:Int)<t.size:=by omega
 have hbw:=fun w=>a0q 0 w;go_enter func63,ntmps63;go_wp2_with (first | (go_at_call 99;refine ws (hcnt _) ?_) | (go_at_call 102;refine ws (hwn _) ?_) | (go_at_call 62;refine ws (hdg _) ?_) | (go_at_call 60;refine ws (hbw _) ?_));refine bodyPost_ret (v:=.agg #[.int .i64 0,.string ⟨#[]⟩,.int .i64 0,.int .i64 5,.int .i64 0]) (by simp[results,results63,go_sem]) rfl ⟨?_,((Below.refl _ _).alloc (Nat.le_refl _) _).alloc (by simp) _⟩;rw[HR.out];rw[if_pos HB.out];rfl
end Go.Proofs.YtphmpkpcamgjeaaGreatDoor.Lx
namespace Go.Proofs.YtphmpkpcamgjeaaGreatDoor.Lx
open Go.ChangeShapes Go.WideShapes Go.ChangeAt Go.RowKit Go.Proofs.Tryz Go.Shelf
theorem b3P (s t:ByteArray) (n m:Nat):(.agg #[.int .i64 4,.string (t++s.extract n (n+1+m)),.int .i64 ((n:Int)+(1+(m:Int))),.int .i64 0,.int .i64 0]:Value)=cutV (.tok 4 (t.data.toList++(s.data.toList.drop n).take (1+m)) (n+1+m)):=by
 have h1:t++s.extract n (n+1+m)=⟨(t.data.toList++(s.data.toList.drop n).take (1+m)).toArray⟩:=by
  apply a4S;rw[ByteArray.data_append,Array.toList_append,a7N,show n+1+m-n=1+m by omega]
 have h2:(n:Int)+(1+(m:Int))=((n+1+m:Nat):Int):=by omega
 rw[h1,h2];rfl
theorem a8U (s t:ByteArray) (n m:Nat) (r:Cut) (w:World) (hs:s.size<=1048576) (hn1:1<=n) (ht1:1<=t.size) (ht2:t.size<=n)
    (hcnt:∀ w,Calls prog 99 #[.string s,.func (.func 62) #[] #[]] w fun e w'=>e=.returned (.int .i64 n)/\w'=w)
    (hwn:∀ w,Calls prog 102 #[.string (s.extract 0 n)] w fun e w'=>e=.returned (.string t)/\w'=w)
    (hcm:∀ w,Calls prog 99 #[.string (s.extract (n+1) s.size),.func (.func 62) #[] #[]] w fun e w'=>e=.returned (.int .i64 m)/\w'=w)
    (hm1:1<=m) (hm2:n+1+m<=s.size)
    (HR:Hid (r=if 14<t.size\/4<m then .err 5 0 else if a1e s (n+1+m) then .err 2 (n+1+m) else .tok 4 (t.data.toList++(s.data.toList.drop n).take (1+m)) (n+1+m)))
    (hn:n<s.size) (hA:n+1<s.size) (hB:((s[n]'hn).toNat:Int)=46) (hC:digI ((s[n+1]'hA).toNat:Int)=true) :
 Calls prog 63 #[.string s] w fun e w'=>e=.returned (cutV r)/\Below w.heap.size w w':=by
 have hAi:(n:Int)+1<s.size:=by omega
 have hdg:=fun w=>a1G ((s[n+1]'hA).toNat:Int) w;rw[hC] at hdg;clear hC;by_cases a1:14<t.size
 .have a2:(14:Int)<t.size:=by omega
  go_enter func63,ntmps63;go_wp2_with (first | (go_at_call 99;(first | with_reducible refine(hcnt _).mono ?_ | with_reducible refine(hcm _).mono ?_);rintro e w' ⟨rfl,rfl⟩) | (go_at_call 102;refine ws (hwn _) ?_) | (go_at_call 62;refine ws (hdg _) ?_));refine bodyPost_ret (v:=.agg #[.int .i64 0,.string ⟨#[]⟩,.int .i64 0,.int .i64 5,.int .i64 0]) (by simp[results,results63,go_sem]) rfl ⟨?_,((Below.refl _ _).alloc (Nat.le_refl _) _).alloc (by simp) _⟩;rw[HR.out,if_pos (.inl a1)];rfl
 have a2:¬ (14:Int)<t.size:=by omega
 by_cases h4:4<m
 .have a3:(4:Int)<m:=by omega
  go_enter func63,ntmps63;go_wp2_with (first | (go_at_call 99;(first | with_reducible refine(hcnt _).mono ?_ | with_reducible refine(hcm _).mono ?_);rintro e w' ⟨rfl,rfl⟩) | (go_at_call 102;refine ws (hwn _) ?_) | (go_at_call 62;refine ws (hdg _) ?_));refine bodyPost_ret (v:=.agg #[.int .i64 0,.string ⟨#[]⟩,.int .i64 0,.int .i64 5,.int .i64 0]) (by simp[results,results63,go_sem]) rfl ⟨?_,((Below.refl _ _).alloc (Nat.le_refl _) _).alloc (by simp) _⟩;rw[HR.out,if_pos (.inr h4)];rfl
 have a3:¬ (4:Int)<m:=by omega
 have a0:Hid (r=if a1e s (n+1+m) then .err 2 (n+1+m) else .tok 4 (t.data.toList++(s.data.toList.drop n).take (1+m)) (n+1+m)):=by
  have:=HR.out;rw[if_neg (fun z=>z.elim a1 h4)] at this;exact this
 clear HR;by_cases he:n+(1+m)<s.size
 .have he':(n:Int)+(1+m)<s.size:=by omega
  have hbw:=fun w=>a0q ((s[n+(1+m)]'he).toNat:Int) w;have hX:=a1T s (n+(1+m)) he;cases hw:wdI ((s[n+(1+m)]'he).toNat:Int)
  .rw[hw] at hbw hX;have HX:Hid (a1e s (n+(1+m))=false):=hX;clear hX hw;go_enter func63,ntmps63;go_wp2_with (first | (go_at_call 99;(first | with_reducible refine(hcnt _).mono ?_ | with_reducible refine(hcm _).mono ?_);rintro e w' ⟨rfl,rfl⟩) | (go_at_call 102;refine ws (hwn _) ?_) | (go_at_call 62;refine ws (hdg _) ?_));go_region;go_wp2_with (go_at_call 60;refine ws (hbw _) ?_);refine bodyPost_ret (v:=.agg #[.int .i64 4,.string (t++s.extract n (n+1+m)),.int .i64 ((n:Int)+(1+(m:Int))),.int .i64 0,.int .i64 0]) (by simp[results,results63,go_sem]) rfl ⟨?_,(((Below.refl _ _).alloc (Nat.le_refl _) _).alloc (by simp) _).drew⟩;rw[a0.out,if_neg (by rw[Nat.add_assoc,HX.out];decide)];exact retV (b3P s t n m)
  rw[hw] at hbw hX;have HX:Hid (a1e s (n+(1+m))=true):=hX;clear hX hw;go_enter func63,ntmps63;go_wp2_with (first | (go_at_call 99;(first | with_reducible refine(hcnt _).mono ?_ | with_reducible refine(hcm _).mono ?_);rintro e w' ⟨rfl,rfl⟩) | (go_at_call 102;refine ws (hwn _) ?_) | (go_at_call 62;refine ws (hdg _) ?_));go_region;go_wp2_with (go_at_call 60;refine ws (hbw _) ?_);refine bodyPost_ret (v:=.agg #[.int .i64 0,.string ⟨#[]⟩,.int .i64 0,.int .i64 2,.int .i64 ((n:Int)+(1+(m:Int)))]) (by simp[results,results63,go_sem]) rfl ⟨?_,(((Below.refl _ _).alloc (Nat.le_refl _) _).alloc (by simp) _).drew⟩;rw[a0.out,if_pos (by rw[Nat.add_assoc];exact HX.out)];refine retV ?_
  have h2:(n:Int)+(1+(m:Int))=((n+1+m:Nat):Int):=by omega
  rw[h2];rfl
 have he':¬ (n:Int)+(1+m)<s.size:=by omega
 have HX:Hid (a1e s (n+(1+m))=false):=a3E s _ he;go_enter func63,ntmps63;go_wp2_with (first | (go_at_call 99;(first | with_reducible refine(hcnt _).mono ?_ | with_reducible refine(hcm _).mono ?_);rintro e w' ⟨rfl,rfl⟩) | (go_at_call 102;refine ws (hwn _) ?_) | (go_at_call 62;refine ws (hdg _) ?_));go_region;go_wp2;refine bodyPost_ret (v:=.agg #[.int .i64 4,.string (t++s.extract n (n+1+m)),.int .i64 ((n:Int)+(1+(m:Int))),.int .i64 0,.int .i64 0]) (by simp[results,results63,go_sem]) rfl ⟨?_,(((Below.refl _ _).alloc (Nat.le_refl _) _).alloc (by simp) _).drew⟩;rw[a0.out,if_neg (by rw[Nat.add_assoc,HX.out];decide)];exact retV (b3P s t n m)
end Go.Proofs.YtphmpkpcamgjeaaGreatDoor.Lx
namespace Go.Proofs.YtphmpkpcamgjeaaGreatDoor.Lx
open Go.ChangeShapes Go.WideShapes Go.ChangeAt Go.RowKit Go.Proofs.Tryz Go.Shelf
theorem a8S (s t:ByteArray) (n:Nat) (r:Cut) (w:World) (hs:s.size<=1048576) (hn1:1<=n) (hn2:n<=s.size) (ht1:1<=t.size) (ht2:t.size<=n)
    (hcnt:∀ w,Calls prog 99 #[.string s,.func (.func 62) #[] #[]] w fun e w'=>e=.returned (.int .i64 n)/\w'=w)
    (hwn:∀ w,Calls prog 102 #[.string (s.extract 0 n)] w fun e w'=>e=.returned (.string t)/\w'=w)
    (hdt:digs t.data.toList) (HR:Hid (r=if bigI t.data.toList then .err 5 0 else if a1e s n then .err 2 n else .tok 3 t.data.toList n))
    (hn:n<s.size) (hA:n+1<s.size) (hB:((s[n]'hn).toNat:Int)≠46) :
 Calls prog 63 #[.string s] w fun e w'=>e=.returned (cutV r)/\Below w.heap.size w w':=by
 have htl:t.data.toList.length=t.size:=by simp
 have hAi:(n:Int)+1<s.size:=by omega
 obtain⟨c,hcc⟩:∃ c:Int,((s[n]'hn).toNat:Int)=c:=⟨_,rfl⟩;rw[hcc] at hB
 have hB':(c==46)=false:=by rw[beq_eq_false_iff_ne];exact hB
 have hdg:=fun w=>a1G 0 w;rcases Nat.lt_trichotomy t.size 19 with a0 | a0 | a0
 .have HB:Hid (bigI t.data.toList=false):=a8P _ hdt (by rw[htl];exact a0)
  have a1:¬ (19:Int)<t.size:=by omega
  have a2:((t.size:Int)==19)=false:=by rw[beq_eq_false_iff_ne];omega
  have hbw:=fun w=>a0q c w;have hX:=a1T s n hn;rw[hcc] at hX;cases hw:wdI c
  .rw[hw] at hbw hX;have HX:Hid (a1e s n=false):=hX;clear hX hw;go_enter func63,ntmps63;go_wp2_with (first | (go_at_call 99;refine ws (hcnt _) ?_) | (go_at_call 102;refine ws (hwn _) ?_) | (go_at_call 62;refine ws (hdg _) ?_) | (go_at_call 60;refine ws (hbw _) ?_));refine bodyPost_ret (v:=.agg #[.int .i64 3,.string t,.int .i64 n,.int .i64 0,.int .i64 0]) (by simp[results,results63,go_sem]) rfl ⟨?_,((Below.refl _ _).alloc (Nat.le_refl _) _).alloc (by simp) _⟩;rw[HR.out];rw[if_neg (by rw[HB.out];decide)];rw[if_neg (by rw[HX.out];decide)];simp only[cutV,a3C]
  rw[hw] at hbw hX;have HX:Hid (a1e s n=true):=hX;clear hX hw;go_enter func63,ntmps63;go_wp2_with (first | (go_at_call 99;refine ws (hcnt _) ?_) | (go_at_call 102;refine ws (hwn _) ?_) | (go_at_call 62;refine ws (hdg _) ?_) | (go_at_call 60;refine ws (hbw _) ?_));refine bodyPost_ret (v:=.agg #[.int .i64 0,.string ⟨#[]⟩,.int .i64 0,.int .i64 2,.int .i64 n]) (by simp[results,results63,go_sem]) rfl ⟨?_,((Below.refl _ _).alloc (Nat.le_refl _) _).alloc (by simp) _⟩;rw[HR.out];rw[if_neg (by rw[HB.out];decide)];rw[if_pos HX.out];rfl
 .have hgb:=a8Q _ hdt (htl.trans a0)
  have a2:(t.size:Int)=19:=by omega
  have htt:t.toList=t.data.toList:=Lib.toList_data t;cases hg:(!(Op.bytesLess t.data.toList maxL || t.data.toList==maxL))
  .rw[hg] at hgb;have HB:Hid (bigI t.data.toList=false):=hgb
   have a3:(Op.bytesLess t.toList [57,50,50,51,51,55,50,48,51,54,56,53,52,55,55,53,56,48,55] || t.toList==[57,50,50,51,51,55,50,48,51,54,56,53,52,55,55,53,56,48,55])=true:=by
    rw[htt]
    show(Op.bytesLess t.data.toList maxL || t.data.toList==maxL)=true
    rw[Bool.not_eq_false'] at hg;exact hg
   clear hgb hg htt;have hbw:=fun w=>a0q c w;have hX:=a1T s n hn;rw[hcc] at hX;cases hw:wdI c
   .rw[hw] at hbw hX;have HX:Hid (a1e s n=false):=hX;clear hX hw;go_enter func63,ntmps63;go_wp2_with (first | (go_at_call 99;refine ws (hcnt _) ?_) | (go_at_call 102;refine ws (hwn _) ?_) | (go_at_call 62;refine ws (hdg _) ?_) | (go_at_call 60;refine ws (hbw _) ?_));refine bodyPost_ret (v:=.agg #[.int .i64 3,.string t,.int .i64 n,.int .i64 0,.int .i64 0]) (by simp[results,results63,go_sem]) rfl ⟨?_,((Below.refl _ _).alloc (Nat.le_refl _) _).alloc (by simp) _⟩;rw[HR.out];rw[if_neg (by rw[HB.out];decide)];rw[if_neg (by rw[HX.out];decide)];simp only[cutV,a3C]
   rw[hw] at hbw hX;have HX:Hid (a1e s n=true):=hX;clear hX hw;go_enter func63,ntmps63;go_wp2_with (first | (go_at_call 99;refine ws (hcnt _) ?_) | (go_at_call 102;refine ws (hwn _) ?_) | (go_at_call 62;refine ws (hdg _) ?_) | (go_at_call 60;refine ws (hbw _) ?_));refine bodyPost_ret (v:=.agg #[.int .i64 0,.string ⟨#[]⟩,.int .i64 0,.int .i64 2,.int .i64 n]) (by simp[results,results63,go_sem]) rfl ⟨?_,((Below.refl _ _).alloc (Nat.le_refl _) _).alloc (by simp) _⟩;rw[HR.out];rw[if_neg (by rw[HB.out];decide)];rw[if_pos HX.out];rfl
  rw[hg] at hgb;have HB:Hid (bigI t.data.toList=true):=hgb
  have a3:(Op.bytesLess t.toList [57,50,50,51,51,55,50,48,51,54,56,53,52,55,55,53,56,48,55] || t.toList==[57,50,50,51,51,55,50,48,51,54,56,53,52,55,55,53,56,48,55])=false:=by
   rw[htt]
   show(Op.bytesLess t.data.toList maxL || t.data.toList==maxL)=false
   rw[Bool.not_eq_true'] at hg;exact hg
  clear hgb hg htt;have hbw:=fun w=>a0q 0 w;go_enter func63,ntmps63;go_wp2_with (first | (go_at_call 99;refine ws (hcnt _) ?_) | (go_at_call 102;refine ws (hwn _) ?_) | (go_at_call 62;refine ws (hdg _) ?_) | (go_at_call 60;refine ws (hbw _) ?_));refine bodyPost_ret (v:=.agg #[.int .i64 0,.string ⟨#[]⟩,.int .i64 0,.int .i64 5,.int .i64 0]) (by simp[results,results63,go_sem]) rfl ⟨?_,((Below.refl _ _).alloc (Nat.le_refl _) _).alloc (by simp) _⟩;rw[HR.out];rw[if_pos HB.out];rfl
 have HB:Hid (bigI t.data.toList=true):=a4G _ (by rw[htl];exact a0)
 have a1:(19:Int)<t.size:=by omega
 have hbw:=fun w=>a0q 0 w;go_enter func63,ntmps63;go_wp2_with (first | (go_at_call 99;refine ws (hcnt _) ?_) | (go_at_call 102;refine ws (hwn _) ?_) | (go_at_call 62;refine ws (hdg _) ?_) | (go_at_call 60;refine ws (hbw _) ?_));refine bodyPost_ret (v:=.agg #[.int .i64 0,.string ⟨#[]⟩,.int .i64 0,.int .i64 5,.int .i64 0]) (by simp[results,results63,go_sem]) rfl ⟨?_,((Below.refl _ _).alloc (Nat.le_refl _) _).alloc (by simp) _⟩;rw[HR.out];rw[if_pos HB.out];rfl
end Go.Proofs.YtphmpkpcamgjeaaGreatDoor.Lx
namespace Go.Proofs.YtphmpkpcamgjeaaGreatDoor.Lx
open Go.ChangeShapes Go.WideShapes Go.ChangeAt Go.RowKit Go.Proofs.Tryz Go.Shelf
theorem a8T (s t:ByteArray) (n:Nat) (r:Cut) (w:World) (hs:s.size<=1048576) (hn1:1<=n) (hn2:n<=s.size) (ht1:1<=t.size) (ht2:t.size<=n)
    (hcnt:∀ w,Calls prog 99 #[.string s,.func (.func 62) #[] #[]] w fun e w'=>e=.returned (.int .i64 n)/\w'=w)
    (hwn:∀ w,Calls prog 102 #[.string (s.extract 0 n)] w fun e w'=>e=.returned (.string t)/\w'=w)
    (hdt:digs t.data.toList) (HR:Hid (r=if bigI t.data.toList then .err 5 0 else if a1e s n then .err 2 n else .tok 3 t.data.toList n))
    (hn:n<s.size) (hA:n+1<s.size) (hB:((s[n]'hn).toNat:Int)=46) (hC:digI ((s[n+1]'hA).toNat:Int)=false) :
 Calls prog 63 #[.string s] w fun e w'=>e=.returned (cutV r)/\Below w.heap.size w w':=by
 have htl:t.data.toList.length=t.size:=by simp
 have hAi:(n:Int)+1<s.size:=by omega
 have hdg:=fun w=>a1G ((s[n+1]'hA).toNat:Int) w;rw[hC] at hdg;clear hC;rcases Nat.lt_trichotomy t.size 19 with a0 | a0 | a0
 .have HB:Hid (bigI t.data.toList=false):=a8P _ hdt (by rw[htl];exact a0)
  have a1:¬ (19:Int)<t.size:=by omega
  have a2:((t.size:Int)==19)=false:=by rw[beq_eq_false_iff_ne];omega
  have hbw:=fun w=>a0q 46 w;have hX:=a1T s n hn;rw[hB] at hX
  have hw:wdI 46=false:=by decide
  rw[hw] at hbw hX;have HX:Hid (a1e s n=false):=hX;clear hX hw;go_enter func63,ntmps63;go_wp2_with (first | (go_at_call 99;refine ws (hcnt _) ?_) | (go_at_call 102;refine ws (hwn _) ?_) | (go_at_call 62;refine ws (hdg _) ?_) | (go_at_call 60;refine ws (hbw _) ?_));refine bodyPost_ret (v:=.agg #[.int .i64 3,.string t,.int .i64 n,.int .i64 0,.int .i64 0]) (by simp[results,results63,go_sem]) rfl ⟨?_,((Below.refl _ _).alloc (Nat.le_refl _) _).alloc (by simp) _⟩;rw[HR.out];rw[if_neg (by rw[HB.out];decide)];rw[if_neg (by rw[HX.out];decide)];simp only[cutV,a3C]
 .have hgb:=a8Q _ hdt (htl.trans a0)
  have a2:(t.size:Int)=19:=by omega
  have htt:t.toList=t.data.toList:=Lib.toList_data t;cases hg:(!(Op.bytesLess t.data.toList maxL || t.data.toList==maxL))
  .rw[hg] at hgb;have HB:Hid (bigI t.data.toList=false):=hgb
   have a3:(Op.bytesLess t.toList [57,50,50,51,51,55,50,48,51,54,56,53,52,55,55,53,56,48,55] || t.toList==[57,50,50,51,51,55,50,48,51,54,56,53,52,55,55,53,56,48,55])=true:=by
    rw[htt]
    show(Op.bytesLess t.data.toList maxL || t.data.toList==maxL)=true
    rw[Bool.not_eq_false'] at hg;exact hg
   clear hgb hg htt;have hbw:=fun w=>a0q 46 w;have hX:=a1T s n hn;rw[hB] at hX
   have hw:wdI 46=false:=by decide
   rw[hw] at hbw hX;have HX:Hid (a1e s n=false):=hX;clear hX hw;go_enter func63,ntmps63;go_wp2_with (first | (go_at_call 99;refine ws (hcnt _) ?_) | (go_at_call 102;refine ws (hwn _) ?_) | (go_at_call 62;refine ws (hdg _) ?_) | (go_at_call 60;refine ws (hbw _) ?_));refine bodyPost_ret (v:=.agg #[.int .i64 3,.string t,.int .i64 n,.int .i64 0,.int .i64 0]) (by simp[results,results63,go_sem]) rfl ⟨?_,((Below.refl _ _).alloc (Nat.le_refl _) _).alloc (by simp) _⟩;rw[HR.out];rw[if_neg (by rw[HB.out];decide)];rw[if_neg (by rw[HX.out];decide)];simp only[cutV,a3C]
  rw[hg] at hgb;have HB:Hid (bigI t.data.toList=true):=hgb
  have a3:(Op.bytesLess t.toList [57,50,50,51,51,55,50,48,51,54,56,53,52,55,55,53,56,48,55] || t.toList==[57,50,50,51,51,55,50,48,51,54,56,53,52,55,55,53,56,48,55])=false:=by
   rw[htt]
   show(Op.bytesLess t.data.toList maxL || t.data.toList==maxL)=false
   rw[Bool.not_eq_true'] at hg;exact hg
  clear hgb hg htt;have hbw:=fun w=>a0q 0 w;go_enter func63,ntmps63;go_wp2_with (first | (go_at_call 99;refine ws (hcnt _) ?_) | (go_at_call 102;refine ws (hwn _) ?_) | (go_at_call 62;refine ws (hdg _) ?_) | (go_at_call 60;refine ws (hbw _) ?_));refine bodyPost_ret (v:=.agg #[.int .i64 0,.string ⟨#[]⟩,.int .i64 0,.int .i64 5,.int .i64 0]) (by simp[results,results63,go_sem]) rfl ⟨?_,((Below.refl _ _).alloc (Nat.le_refl _) _).alloc (by simp) _⟩;rw[HR.out];rw[if_pos HB.out];rfl
 have HB:Hid (bigI t.data.toList=true):=a4G _ (by rw[htl];exact a0)
 have a1:(19:Int)<t.size:=by omega
 have hbw:=fun w=>a0q 0 w;go_enter func63,ntmps63;go_wp2_with (first | (go_at_call 99;refine ws (hcnt _) ?_) | (go_at_call 102;refine ws (hwn _) ?_) | (go_at_call 62;refine ws (hdg _) ?_) | (go_at_call 60;refine ws (hbw _) ?_));refine bodyPost_ret (v:=.agg #[.int .i64 0,.string ⟨#[]⟩,.int .i64 0,.int .i64 5,.int .i64 0]) (by simp[results,results63,go_sem]) rfl ⟨?_,((Below.refl _ _).alloc (Nat.le_refl _) _).alloc (by simp) _⟩;rw[HR.out];rw[if_pos HB.out];rfl
end Go.Proofs.YtphmpkpcamgjeaaGreatDoor.Lx
