import Derived.Test.YtphmpkpcamgjeaaGreatDoorXAA
import Derived.Test.YtphmpkpcamgjeaaGreatDoorXAL
set_option linter.unusedVariables false
set_option linter.unusedSimpArgs false
set_option maxRecDepth 100000
set_option maxHeartbeats 16000000
namespace Go.Proofs.YtphmpkpcamgjeaaGreatDoor.Lx
open Go.ChangeShapes Go.WideShapes Go.ChangeAt Go.RowKit Go.Proofs.Tryz Go.Shelf
theorem b6j (s t:ByteArray) (a n:Nat) (r:Cut) (w:World) (hs:s.size<=8000) (hn1:1<=n) (hn2:a+n<=s.size) (ht1:1<=t.size) (ht2:t.size<=n)
    (hrun:∀ w,Calls prog 41 #[.string s,.int .i64 a,.int .i64 1] w fun e w'=>e=.returned (.int .i64 n)/\w'=w)
    (hno:∀ w,Calls prog 83 #[.string (s.extract a (a+n))] w fun e w'=>e=.returned (.string t)/\w'=w)
    (hdt:digs t.data.toList) (HR:Hid (r=if bigI t.data.toList then .err 5 0 else if a1e s (a+n) then .err 2 n else .tok 3 t.data.toList n))
    (hA:¬ a+n+1<s.size) :
 Calls prog 44 #[.string s,.int .i64 a] w fun e w'=>e=.returned (cutT a r)/\Below w.heap.size w w':=by
 have htl:t.data.toList.length=t.size:=by simp
 have hA':¬ (a:Int)+n+1<s.size:=by omega
 have hdg:=fun w=>a1S 0 w;have hrm:=hrun;by_cases h19:19<t.size
 .have a0:(19:Int)<t.size:=by omega
  have a1:decide ((19:Int)<t.size)=true:=by simp;omega
  have HB:Hid (bigI t.data.toList=true):=a4G _ (by rw[htl];exact h19);have hbw:=fun w=>a0z 0 w;have hdv:=fun w=>a0z 0 w;go_enter func44,ntmps44;go_wp2_with (first | (go_at_call 41;(first | with_reducible refine(hrun _).mono ?_ | with_reducible refine(hrm _).mono ?_);rintro e w' ⟨rfl,rfl⟩) | (go_at_call 83;refine ws (hno _) ?_) | (go_at_call 84;refine ws (hdv _) ?_) | (go_at_call 43;refine ws (hdg _) ?_) | (go_at_call 40;refine ws (hbw _) ?_));refine bodyPost_ret (v:=.tuple #[.agg #[.int .i64 0,.string ⟨#[]⟩,.int .i64 0],.int .i64 0,.int .i64 5,.int .i64 (a:Int)]) (by simp[results,results44,go_sem]) rfl ⟨?_,((Below.refl _ _).alloc (Nat.le_refl _) _).alloc (by simp) _⟩;rw[HR.out];rw[if_pos HB.out];exact retV (a0M a 5 0 _ (by omega))
 have a0:¬ (19:Int)<t.size:=by omega
 have a1:decide ((19:Int)<t.size)=false:=by simp;omega
 have hdv:=fun w=>a3I t w ht1 (by omega) hdt;have hvl:=a3Y _ hdt;rw[htl] at hvl;have hvp:(10:Nat)^t.size<=10^19:=Nat.pow_le_pow_right (by omega) (by omega)
 have hbig:bigI t.data.toList=decide (9223372036854775807<val t.data.toList):=by unfold bigI;rw[htl];simp[h19]
 have hvb:val t.data.toList<10000000000000000000:=by omega
 clear hvl hvp;generalize val t.data.toList=vv at *;by_cases hmx:9223372036854775807<vv
 .have hmxi:(9223372036854775807:Int)<vv:=by omega
  have hmxc:decide ((9223372036854775807:Int)<vv)=true:=by simp;omega
  have HB:Hid (bigI t.data.toList=true):=by show bigI t.data.toList=true;rw[hbig];simp[hmx]
  clear hbig;have hbw:=fun w=>a0z 0 w;go_enter func44,ntmps44;go_wp2_with (first | (go_at_call 41;(first | with_reducible refine(hrun _).mono ?_ | with_reducible refine(hrm _).mono ?_);rintro e w' ⟨rfl,rfl⟩) | (go_at_call 83;refine ws (hno _) ?_) | (go_at_call 84;refine ws (hdv _) ?_) | (go_at_call 43;refine ws (hdg _) ?_) | (go_at_call 40;refine ws (hbw _) ?_));refine bodyPost_ret (v:=.tuple #[.agg #[.int .i64 0,.string ⟨#[]⟩,.int .i64 0],.int .i64 0,.int .i64 5,.int .i64 (a:Int)]) (by simp[results,results44,go_sem]) rfl ⟨?_,((Below.refl _ _).alloc (Nat.le_refl _) _).alloc (by simp) _⟩;rw[HR.out];rw[if_pos HB.out];exact retV (a0M a 5 0 _ (by omega))
 have hmxi:¬ (9223372036854775807:Int)<vv:=by omega
 have hmxc:decide ((9223372036854775807:Int)<vv)=false:=by simp;omega
 have HB:Hid (bigI t.data.toList=false):=by show bigI t.data.toList=false;rw[hbig];simp;omega
 clear hbig;by_cases he:a+n<s.size
 .have he':(a:Int)+n<s.size:=by omega
  have hbw:=fun w=>a0z ((s[a+n]'he).toNat:Int) w;have hX:=a1T s (a+n) he;cases hw:wdI ((s[a+n]'he).toNat:Int)
  .rw[hw] at hbw hX;have HX:Hid (a1e s (a+n)=false):=hX;clear hX hw;go_enter func44,ntmps44;go_wp2_with (first | (go_at_call 41;(first | with_reducible refine(hrun _).mono ?_ | with_reducible refine(hrm _).mono ?_);rintro e w' ⟨rfl,rfl⟩) | (go_at_call 83;refine ws (hno _) ?_) | (go_at_call 84;refine ws (hdv _) ?_) | (go_at_call 43;refine ws (hdg _) ?_) | (go_at_call 40;refine ws (hbw _) ?_));refine bodyPost_ret (v:=.tuple #[.agg #[.int .i64 3,.string t,.int .i64 (a:Int)],.int .i64 ((a:Int)+n),.int .i64 0,.int .i64 0]) (by simp[results,results44,go_sem]) rfl ⟨?_,((Below.refl _ _).alloc (Nat.le_refl _) _).alloc (by simp) _⟩;rw[HR.out];rw[if_neg (by rw[HB.out];decide),if_neg (by rw[HX.out];decide)];exact retV (a2v a 3 t n _ (by omega))
  rw[hw] at hbw hX;have HX:Hid (a1e s (a+n)=true):=hX;clear hX hw;go_enter func44,ntmps44;go_wp2_with (first | (go_at_call 41;(first | with_reducible refine(hrun _).mono ?_ | with_reducible refine(hrm _).mono ?_);rintro e w' ⟨rfl,rfl⟩) | (go_at_call 83;refine ws (hno _) ?_) | (go_at_call 84;refine ws (hdv _) ?_) | (go_at_call 43;refine ws (hdg _) ?_) | (go_at_call 40;refine ws (hbw _) ?_));refine bodyPost_ret (v:=.tuple #[.agg #[.int .i64 0,.string ⟨#[]⟩,.int .i64 0],.int .i64 0,.int .i64 2,.int .i64 ((a:Int)+n)]) (by simp[results,results44,go_sem]) rfl ⟨?_,((Below.refl _ _).alloc (Nat.le_refl _) _).alloc (by simp) _⟩;rw[HR.out];rw[if_neg (by rw[HB.out];decide),if_pos HX.out];exact retV (a0M a 2 n _ (by omega))
 have HX:Hid (a1e s (a+n)=false):=a3E s _ he
 have he':¬ (a:Int)+n<s.size:=by omega
 have hbw:=fun w=>a0z 0 w;go_enter func44,ntmps44;go_wp2_with (first | (go_at_call 41;(first | with_reducible refine(hrun _).mono ?_ | with_reducible refine(hrm _).mono ?_);rintro e w' ⟨rfl,rfl⟩) | (go_at_call 83;refine ws (hno _) ?_) | (go_at_call 84;refine ws (hdv _) ?_) | (go_at_call 43;refine ws (hdg _) ?_) | (go_at_call 40;refine ws (hbw _) ?_));refine bodyPost_ret (v:=.tuple #[.agg #[.int .i64 3,.string t,.int .i64 (a:Int)],.int .i64 ((a:Int)+n),.int .i64 0,.int .i64 0]) (by simp[results,results44,go_sem]) rfl ⟨?_,((Below.refl _ _).alloc (Nat.le_refl _) _).alloc (by simp) _⟩;rw[HR.out];rw[if_neg (by rw[HB.out];decide),if_neg (by rw[HX.out];decide)];exact retV (a2v a 3 t n _ (by omega))
end Go.Proofs.YtphmpkpcamgjeaaGreatDoor.Lx
namespace Go.Proofs.YtphmpkpcamgjeaaGreatDoor.Lx
open Go.ChangeShapes Go.WideShapes Go.ChangeAt Go.RowKit Go.Proofs.Tryz Go.Shelf
theorem b1y (s t:ByteArray) (a n m:Nat):(.tuple #[.agg #[.int .i64 4,.string (t++s.extract (a+n) (a+n+1+m)),.int .i64 (a:Int)],.int .i64 ((a:Int)+n+(1+(m:Int))),.int .i64 0,.int .i64 0]:Value)=cutT a (.tok 4 (t.data.toList++((s.data.toList.drop a).drop n).take (1+m)) (n+1+m)):=by
 have h1:t++s.extract (a+n) (a+n+1+m)=⟨(t.data.toList++((s.data.toList.drop a).drop n).take (1+m)).toArray⟩:=by
  apply a4S;rw[ByteArray.data_append,Array.toList_append,a7N,show a+n+1+m-(a+n)=1+m by omega,List.drop_drop]
 have h2:(a:Int)+n+(1+(m:Int))=((a+(n+1+m):Nat):Int):=by omega
 rw[h1,h2];rfl
theorem b6m (s t:ByteArray) (a n:Nat) (r:Cut) (w:World) (hs:s.size<=8000) (hn1:1<=n) (hn2:a+n<=s.size) (ht1:1<=t.size) (ht2:t.size<=n)
    (hrun:∀ w,Calls prog 41 #[.string s,.int .i64 a,.int .i64 1] w fun e w'=>e=.returned (.int .i64 n)/\w'=w)
    (hno:∀ w,Calls prog 83 #[.string (s.extract a (a+n))] w fun e w'=>e=.returned (.string t)/\w'=w)
    (hdt:digs t.data.toList) (m:Nat)
    (hrm:∀ w,Calls prog 41 #[.string s,.int .i64 ((a:Int)+n+1),.int .i64 1] w fun e w'=>e=.returned (.int .i64 m)/\w'=w)
    (hm1:1<=m) (hm2:a+n+1+m<=s.size)
    (HR:Hid (r=if 14<t.size\/4<m then .err 5 0 else if a1e s (a+(n+1+m)) then .err 2 (n+1+m) else .tok 4 (t.data.toList++((s.data.toList.drop a).drop n).take (1+m)) (n+1+m)))
    (hn:a+n<s.size) (hA:a+n+1<s.size) (hB:((s[a+n]'hn).toNat:Int)=46) (hC:digI ((s[a+n+1]'hA).toNat:Int)=true) :
 Calls prog 44 #[.string s,.int .i64 a] w fun e w'=>e=.returned (cutT a r)/\Below w.heap.size w w':=by
 have htl:t.data.toList.length=t.size:=by simp
 have hAi:(a:Int)+n+1<s.size:=by omega
 have hdg:=fun w=>a1S ((s[a+n+1]'hA).toNat:Int) w;rw[hC] at hdg;clear hC;by_cases h19:19<t.size
 .have a3:(19:Int)<t.size:=by omega
  have a4:decide ((19:Int)<t.size)=true:=by simp;omega
  have a1:(14:Int)<t.size:=by omega
  have a2:decide ((14:Int)<t.size)=true:=by simp;omega
  have hbw:=fun w=>a0z 0 w;have hdv:=fun w=>a0z 0 w;go_enter func44,ntmps44;go_wp2_with (first | (go_at_call 41;(first | with_reducible refine(hrun _).mono ?_ | with_reducible refine(hrm _).mono ?_);rintro e w' ⟨rfl,rfl⟩) | (go_at_call 83;refine ws (hno _) ?_) | (go_at_call 84;refine ws (hdv _) ?_) | (go_at_call 43;refine ws (hdg _) ?_) | (go_at_call 40;refine ws (hbw _) ?_));refine bodyPost_ret (v:=.tuple #[.agg #[.int .i64 0,.string ⟨#[]⟩,.int .i64 0],.int .i64 0,.int .i64 5,.int .i64 (a:Int)]) (by simp[results,results44,go_sem]) rfl ⟨?_,((Below.refl _ _).alloc (Nat.le_refl _) _).alloc (by simp) _⟩;rw[HR.out,if_pos (.inl (by omega))];exact retV (a0M a 5 0 _ (by omega))
 have a3:¬ (19:Int)<t.size:=by omega
 have a4:decide ((19:Int)<t.size)=false:=by simp;omega
 have hdv:=fun w=>a3I t w ht1 (by omega) hdt;have hvl:=a3Y _ hdt;rw[htl] at hvl;have hvp:(10:Nat)^t.size<=10^19:=Nat.pow_le_pow_right (by omega) (by omega)
 have hvb:val t.data.toList<10000000000000000000:=by omega
 clear hvl hvp;generalize val t.data.toList=vv at *;by_cases a0:14<t.size
 .have a1:(14:Int)<t.size:=by omega
  have a2:decide ((14:Int)<t.size)=true:=by simp;omega
  have hbw:=fun w=>a0z 0 w;go_enter func44,ntmps44;go_wp2_with (first | (go_at_call 41;(first | with_reducible refine(hrun _).mono ?_ | with_reducible refine(hrm _).mono ?_);rintro e w' ⟨rfl,rfl⟩) | (go_at_call 83;refine ws (hno _) ?_) | (go_at_call 84;refine ws (hdv _) ?_) | (go_at_call 43;refine ws (hdg _) ?_) | (go_at_call 40;refine ws (hbw _) ?_));refine bodyPost_ret (v:=.tuple #[.agg #[.int .i64 0,.string ⟨#[]⟩,.int .i64 0],.int .i64 0,.int .i64 5,.int .i64 (a:Int)]) (by simp[results,results44,go_sem]) rfl ⟨?_,((Below.refl _ _).alloc (Nat.le_refl _) _).alloc (by simp) _⟩;rw[HR.out,if_pos (.inl a0)];exact retV (a0M a 5 0 _ (by omega))
 have a1:¬ (14:Int)<t.size:=by omega
 have a2:decide ((14:Int)<t.size)=false:=by simp;omega
 by_cases h4:4<m
 .have a5:(4:Int)<m:=by omega
  have a6:decide ((4:Int)<m)=true:=by simp;omega
  have hbw:=fun w=>a0z 0 w;go_enter func44,ntmps44;go_wp2_with (first | (go_at_call 41;(first | with_reducible refine(hrun _).mono ?_ | with_reducible refine(hrm _).mono ?_);rintro e w' ⟨rfl,rfl⟩) | (go_at_call 83;refine ws (hno _) ?_) | (go_at_call 84;refine ws (hdv _) ?_) | (go_at_call 43;refine ws (hdg _) ?_) | (go_at_call 40;refine ws (hbw _) ?_));refine bodyPost_ret (v:=.tuple #[.agg #[.int .i64 0,.string ⟨#[]⟩,.int .i64 0],.int .i64 0,.int .i64 5,.int .i64 (a:Int)]) (by simp[results,results44,go_sem]) rfl ⟨?_,((Below.refl _ _).alloc (Nat.le_refl _) _).alloc (by simp) _⟩;rw[HR.out,if_pos (.inr h4)];exact retV (a0M a 5 0 _ (by omega))
 have a5:¬ (4:Int)<m:=by omega
 have a6:decide ((4:Int)<m)=false:=by simp;omega
 by_cases he:a+n+(1+m)<s.size
 .have he':(a:Int)+n+(1+m)<s.size:=by omega
  have hbw:=fun w=>a0z ((s[a+n+(1+m)]'he).toNat:Int) w;have hX:=a1T s (a+n+(1+m)) he;cases hw:wdI ((s[a+n+(1+m)]'he).toNat:Int)
  .rw[hw] at hbw hX;have HX:Hid (a1e s (a+n+(1+m))=false):=hX;clear hX hw;go_enter func44,ntmps44;go_wp2_with (first | (go_at_call 41;(first | with_reducible refine(hrun _).mono ?_ | with_reducible refine(hrm _).mono ?_);rintro e w' ⟨rfl,rfl⟩) | (go_at_call 83;refine ws (hno _) ?_) | (go_at_call 84;refine ws (hdv _) ?_) | (go_at_call 43;refine ws (hdg _) ?_) | (go_at_call 40;refine ws (hbw _) ?_));refine bodyPost_ret (v:=.tuple #[.agg #[.int .i64 4,.string (t++s.extract (a+n) (a+n+1+m)),.int .i64 (a:Int)],.int .i64 ((a:Int)+n+(1+(m:Int))),.int .i64 0,.int .i64 0]) (by simp[results,results44,go_sem]) rfl ⟨?_,((Below.refl _ _).alloc (Nat.le_refl _) _).alloc (by simp) _⟩;rw[HR.out,if_neg (fun z=>z.elim a0 h4),if_neg (by rw[Nat.add_assoc n,<- Nat.add_assoc a,HX.out];decide)];exact retV (b1y s t a n m)
  rw[hw] at hbw hX;have HX:Hid (a1e s (a+n+(1+m))=true):=hX;clear hX hw;go_enter func44,ntmps44;go_wp2_with (first | (go_at_call 41;(first | with_reducible refine(hrun _).mono ?_ | with_reducible refine(hrm _).mono ?_);rintro e w' ⟨rfl,rfl⟩) | (go_at_call 83;refine ws (hno _) ?_) | (go_at_call 84;refine ws (hdv _) ?_) | (go_at_call 43;refine ws (hdg _) ?_) | (go_at_call 40;refine ws (hbw _) ?_));refine bodyPost_ret (v:=.tuple #[.agg #[.int .i64 0,.string ⟨#[]⟩,.int .i64 0],.int .i64 0,.int .i64 2,.int .i64 ((a:Int)+n+(1+(m:Int)))]) (by simp[results,results44,go_sem]) rfl ⟨?_,((Below.refl _ _).alloc (Nat.le_refl _) _).alloc (by simp) _⟩;rw[HR.out,if_neg (fun z=>z.elim a0 h4),if_pos (by rw[Nat.add_assoc n,<- Nat.add_assoc a];exact HX.out)];exact retV (a0M a 2 (n+1+m) _ (by omega))
 have HX:Hid (a1e s (a+n+(1+m))=false):=a3E s _ he
 have he':¬ (a:Int)+n+(1+m)<s.size:=by omega
 have hbw:=fun w=>a0z 0 w;go_enter func44,ntmps44;go_wp2_with (first | (go_at_call 41;(first | with_reducible refine(hrun _).mono ?_ | with_reducible refine(hrm _).mono ?_);rintro e w' ⟨rfl,rfl⟩) | (go_at_call 83;refine ws (hno _) ?_) | (go_at_call 84;refine ws (hdv _) ?_) | (go_at_call 43;refine ws (hdg _) ?_) | (go_at_call 40;refine ws (hbw _) ?_));refine bodyPost_ret (v:=.tuple #[.agg #[.int .i64 4,.string (t++s.extract (a+n) (a+n+1+m)),.int .i64 (a:Int)],.int .i64 ((a:Int)+n+(1+(m:Int))),.int .i64 0,.int .i64 0]) (by simp[results,results44,go_sem]) rfl ⟨?_,((Below.refl _ _).alloc (Nat.le_refl _) _).alloc (by simp) _⟩;rw[HR.out,if_neg (fun z=>z.elim a0 h4),if_neg (by rw[Nat.add_assoc n,<- Nat.add_assoc a,HX.out];decide)];exact retV (b1y s t a n m)
end Go.Proofs.YtphmpkpcamgjeaaGreatDoor.Lx
namespace Go.Proofs.YtphmpkpcamgjeaaGreatDoor.Lx
open Go.ChangeShapes Go.WideShapes Go.ChangeAt Go.RowKit Go.Proofs.Tryz Go.Shelf
theorem b6k (s t:ByteArray) (a n:Nat) (r:Cut) (w:World) (hs:s.size<=8000) (hn1:1<=n) (hn2:a+n<=s.size) (ht1:1<=t.size) (ht2:t.size<=n)
    (hrun:∀ w,Calls prog 41 #[.string s,.int .i64 a,.int .i64 1] w fun e w'=>e=.returned (.int .i64 n)/\w'=w)
    (hno:∀ w,Calls prog 83 #[.string (s.extract a (a+n))] w fun e w'=>e=.returned (.string t)/\w'=w)
    (hdt:digs t.data.toList) (HR:Hid (r=if bigI t.data.toList then .err 5 0 else if a1e s (a+n) then .err 2 n else .tok 3 t.data.toList n))
    (hn:a+n<s.size) (hA:a+n+1<s.size) (hB:((s[a+n]'hn).toNat:Int)≠46) :
 Calls prog 44 #[.string s,.int .i64 a] w fun e w'=>e=.returned (cutT a r)/\Below w.heap.size w w':=by
 have htl:t.data.toList.length=t.size:=by simp
 have hAi:(a:Int)+n+1<s.size:=by omega
 obtain⟨c,hcc⟩:∃ c:Int,((s[a+n]'hn).toNat:Int)=c:=⟨_,rfl⟩;rw[hcc] at hB
 have hB':(c==46)=false:=by rw[beq_eq_false_iff_ne];exact hB
 have hdg:=fun w=>a1S 0 w;have hrm:=hrun;by_cases h19:19<t.size
 .have a0:(19:Int)<t.size:=by omega
  have a1:decide ((19:Int)<t.size)=true:=by simp;omega
  have HB:Hid (bigI t.data.toList=true):=a4G _ (by rw[htl];exact h19);have hbw:=fun w=>a0z 0 w;have hdv:=fun w=>a0z 0 w;go_enter func44,ntmps44;go_wp2_with (first | (go_at_call 41;(first | with_reducible refine(hrun _).mono ?_ | with_reducible refine(hrm _).mono ?_);rintro e w' ⟨rfl,rfl⟩) | (go_at_call 83;refine ws (hno _) ?_) | (go_at_call 84;refine ws (hdv _) ?_) | (go_at_call 43;refine ws (hdg _) ?_) | (go_at_call 40;refine ws (hbw _) ?_));refine bodyPost_ret (v:=.tuple #[.agg #[.int .i64 0,.string ⟨#[]⟩,.int .i64 0],.int .i64 0,.int .i64 5,.int .i64 (a:Int)]) (by simp[results,results44,go_sem]) rfl ⟨?_,((Below.refl _ _).alloc (Nat.le_refl _) _).alloc (by simp) _⟩;rw[HR.out];rw[if_pos HB.out];exact retV (a0M a 5 0 _ (by omega))
 have a0:¬ (19:Int)<t.size:=by omega
 have a1:decide ((19:Int)<t.size)=false:=by simp;omega
 have hdv:=fun w=>a3I t w ht1 (by omega) hdt;have hvl:=a3Y _ hdt;rw[htl] at hvl;have hvp:(10:Nat)^t.size<=10^19:=Nat.pow_le_pow_right (by omega) (by omega)
 have hbig:bigI t.data.toList=decide (9223372036854775807<val t.data.toList):=by unfold bigI;rw[htl];simp[h19]
 have hvb:val t.data.toList<10000000000000000000:=by omega
 clear hvl hvp;generalize val t.data.toList=vv at *;by_cases hmx:9223372036854775807<vv
 .have hmxi:(9223372036854775807:Int)<vv:=by omega
  have hmxc:decide ((9223372036854775807:Int)<vv)=true:=by simp;omega
  have HB:Hid (bigI t.data.toList=true):=by show bigI t.data.toList=true;rw[hbig];simp[hmx]
  clear hbig;have hbw:=fun w=>a0z 0 w;go_enter func44,ntmps44;go_wp2_with (first | (go_at_call 41;(first | with_reducible refine(hrun _).mono ?_ | with_reducible refine(hrm _).mono ?_);rintro e w' ⟨rfl,rfl⟩) | (go_at_call 83;refine ws (hno _) ?_) | (go_at_call 84;refine ws (hdv _) ?_) | (go_at_call 43;refine ws (hdg _) ?_) | (go_at_call 40;refine ws (hbw _) ?_));refine bodyPost_ret (v:=.tuple #[.agg #[.int .i64 0,.string ⟨#[]⟩,.int .i64 0],.int .i64 0,.int .i64 5,.int .i64 (a:Int)]) (by simp[results,results44,go_sem]) rfl ⟨?_,((Below.refl _ _).alloc (Nat.le_refl _) _).alloc (by simp) _⟩;rw[HR.out];rw[if_pos HB.out];exact retV (a0M a 5 0 _ (by omega))
 have hmxi:¬ (9223372036854775807:Int)<vv:=by omega
 have hmxc:decide ((9223372036854775807:Int)<vv)=false:=by simp;omega
 have HB:Hid (bigI t.data.toList=false):=by show bigI t.data.toList=false;rw[hbig];simp;omega
 clear hbig;have hbw:=fun w=>a0z c w;have hX:=a1T s (a+n) hn;rw[hcc] at hX;cases hw:wdI c
 .rw[hw] at hbw hX;have HX:Hid (a1e s (a+n)=false):=hX;clear hX hw;go_enter func44,ntmps44;go_wp2_with (first | (go_at_call 41;(first | with_reducible refine(hrun _).mono ?_ | with_reducible refine(hrm _).mono ?_);rintro e w' ⟨rfl,rfl⟩) | (go_at_call 83;refine ws (hno _) ?_) | (go_at_call 84;refine ws (hdv _) ?_) | (go_at_call 43;refine ws (hdg _) ?_) | (go_at_call 40;refine ws (hbw _) ?_));refine bodyPost_ret (v:=.tuple #[.agg #[.int .i64 3,.string t,.int .i64 (a:Int)],.int .i64 ((a:Int)+n),.int .i64 0,.int .i64 0]) (by simp[results,results44,go_sem]) rfl ⟨?_,((Below.refl _ _).alloc (Nat.le_refl _) _).alloc (by simp) _⟩;rw[HR.out];rw[if_neg (by rw[HB.out];decide),if_neg (by rw[HX.out];decide)];exact retV (a2v a 3 t n _ (by omega))
 rw[hw] at hbw hX;have HX:Hid (a1e s (a+n)=true):=hX;clear hX hw;go_enter func44,ntmps44;go_wp2_with (first | (go_at_call 41;(first | with_reducible refine(hrun _).mono ?_ | with_reducible refine(hrm _).mono ?_);rintro e w' ⟨rfl,rfl⟩) | (go_at_call 83;refine ws (hno _) ?_) | (go_at_call 84;refine ws (hdv _) ?_) | (go_at_call 43;refine ws (hdg _) ?_) | (go_at_call 40;refine ws (hbw _) ?_));refine bodyPost_ret (v:=.tuple #[.agg #[.int .i64 0,.string ⟨#[]⟩,.int .i64 0],.int .i64 0,.int .i64 2,.int .i64 ((a:Int)+n)]) (by simp[results,results44,go_sem]) rfl ⟨?_,((Below.refl _ _).alloc (Nat.le_refl _) _).alloc (by simp) _⟩;rw[HR.out];rw[if_neg (by rw[HB.out];decide),if_pos HX.out];exact retV (a0M a 2 n _ (by omega))
end Go.Proofs.YtphmpkpcamgjeaaGreatDoor.Lx
namespace Go.Proofs.YtphmpkpcamgjeaaGreatDoor.Lx
open Go.ChangeShapes Go.WideShapes Go.ChangeAt Go.RowKit Go.Proofs.Tryz Go.Shelf
theorem number_any (s:ByteArray) (a:Nat) (w:World) (hs:s.size<=8000) (ha:a<s.size) (hd0:digI ((s[a]'ha).toNat:Int)=true) :
 Calls prog 44 #[.string s,.int .i64 a] w fun e w'=>e=.returned (cutT a (numL (s.data.toList.drop a)))/\Below w.heap.size w w':=by
 have hsl:s.data.toList.length=s.size:=by simp
 have hdl:(s.data.toList.drop a).length=s.size-a:=by rw[List.length_drop,hsl]
 obtain⟨n,hn⟩:∃ n,n=runN digI (s.data.toList.drop a):=⟨_,rfl⟩
 have a1:1<=n:=by
  rw[hn,drop_cons _ _ _ (a0P s a ha)];exact runN_pos digI _ _ hd0
 have a2:a+n<=s.size:=by
  have:=runN_le digI (s.data.toList.drop a);rw[<- hn,hdl] at this;omega
 have hrun:=fun w=>run_any s a false w (by unfold maxLen;omega) (by omega);simp only[Bool.false_eq_true,if_false] at hrun;rw[<- hn] at hrun;have hno:=fun w=>a8I (s.extract a (a+n)) w (by unfold maxLen;simp;omega);rw[a7N,Nat.add_sub_cancel_left] at hno;obtain⟨t,ht⟩:∃ t:ByteArray,t=⟨(noughts ((s.data.toList.drop a).take n)).toArray⟩:=⟨_,rfl⟩;rw[<- ht] at hno
 have htd:t.data.toList=noughts ((s.data.toList.drop a).take n):=by rw[ht]
 have htl:t.data.toList.length=t.size:=by simp
 have hnl:=noughts_len ((s.data.toList.drop a).take n);rw[<- htd,htl,List.length_take,hdl] at hnl;have a3:1<=t.size:=hnl.2 (by omega)
 have a4:t.size<=n:=by have:=hnl.1;omega
 have hdt:digs t.data.toList:=by rw[htd,hn];exact a4V _ (b1i _)
 have hnx:∀ e,a1e s (a+e)=b6O (s.data.toList.drop a)[e]?:=fun e=>by unfold a1e;rw[List.getElem?_drop]
 by_cases hdec:decAt (s.data.toList.drop a)=true
 .have hdec':=hdec;unfold decAt at hdec';rw[<- hn,List.getElem?_drop,List.getElem?_drop] at hdec';simp only[Bool.and_eq_true,decide_eq_true_eq] at hdec';obtain⟨g1,g2⟩:=hdec'
  have hA:a+n+1<s.size:=by
   cases hg:s.data.toList[a+(n+1)]? with
   | none=>rw[hg] at g2;cases g2
   | some d=>
   have:=a2K hg;omega
  have hnn:a+n<s.size:=by omega
  have hB:((s[a+n]'hnn).toNat:Int)=46:=by
   rw[a0P s (a+n) hnn] at g1;rw[Option.some.inj g1];rfl
  have hC:digI ((s[a+n+1]'hA).toNat:Int)=true:=by rw[<- Nat.add_assoc,a0P s (a+n+1) hA] at g2;exact g2
  have hrm:=fun w=>run_any s (a+n+1) false w (by unfold maxLen;omega) (by omega);simp only[Bool.false_eq_true,if_false] at hrm
  have hcast:(((a+n+1:Nat)):Int)=(a:Int)+n+1:=by omega
  rw[hcast] at hrm;have a5:=runN_le digI (s.data.toList.drop (a+n+1));rw[List.length_drop,hsl] at a5
  have a6:1<=runN digI (s.data.toList.drop (a+n+1)):=by
   rw[drop_cons _ _ _ (a0P s (a+n+1) hA)];exact runN_pos digI _ _ hC
  refine b6m s t a n (numL (s.data.toList.drop a)) w hs a1 a2 a3 a4 hrun hno hdt (runN digI (s.data.toList.drop (a+n+1))) hrm a6 (by omega) ?_ hnn hA hB hC
  show numL (s.data.toList.drop a)=_
  unfold numL;rw[hdec,<- hn,<- htd,htl,hnx];rw[show(s.data.toList.drop a).drop (n+1)=s.data.toList.drop (a+n+1) by rw[List.drop_drop];congr 1];rfl
 have a0:decAt (s.data.toList.drop a)=false:=by simpa using hdec
 have HR:Hid (numL (s.data.toList.drop a)=if bigI t.data.toList then .err 5 0 else if a1e s (a+n) then .err 2 n else .tok 3 t.data.toList n):=by
  show numL (s.data.toList.drop a)=_
  unfold numL;rw[a0,<- hn,<- htd,hnx];rfl
 by_cases hA:a+n+1<s.size
 .have hnn:a+n<s.size:=by omega
  by_cases hB:((s[a+n]'hnn).toNat:Int)=46
  .have hC:digI ((s[a+n+1]'hA).toNat:Int)=false:=by
    unfold decAt at a0;rw[<- hn,List.getElem?_drop,List.getElem?_drop,<- Nat.add_assoc,a0P s (a+n) hnn,a0P s (a+n+1) hA] at a0;have:s[a+n]'hnn=46:=UInt8.toNat.inj (show(s[a+n]'hnn).toNat=46 by omega);rw[this] at a0;simpa[isDig] using a0
   exact b6l s t a n _ w hs a1 a2 a3 a4 hrun hno hdt HR hnn hA hB hC
  exact b6k s t a n _ w hs a1 a2 a3 a4 hrun hno hdt HR hnn hA hB
 exact b6j s t a n _ w hs a1 a2 a3 a4 hrun hno hdt HR hA
end Go.Proofs.YtphmpkpcamgjeaaGreatDoor.Lx
