import Derived.Test.YthccpacmklhejabGreatDoorTk
import Derived.Test.YthccpacmklhejabGreatDoorK04
import Derived.Test.YthccpacmklhejabGreatDoorK02
set_option maxHeartbeats 1000000
set_option maxRecDepth 100000
namespace Go.Proofs.YthccpacmklhejabGreatDoor
section
open Go.RowKit
theorem QdA{s:ByteArray}{x:Ev × Nat}(h:firstS s=some x):x=(evAt s,szAt s)/\2<=s.size/\szAt s<=s.size/\refuse (evAt s)=0/\recB (evAt s)=s.data.toList.take (szAt s):=by
 unfold firstS at h;split at h
 ·cases h
 ·rename_i h1
  split at h
  ·rename_i h2
   exact⟨(Option.some.inj h).symm,by omega,by omega,h2.1,h2.2⟩
  ·cases h
theorem QeL(s:ByteArray)(h:2+gb s 1<=s.size):(evAt s).key.size=gb s 1:=by
 show(s.extract 2 (2+gb s 1)).size=_
 rw[ByteArray.size_extract];omega
theorem QmD(s:ByteArray):gb s 1+5<=szAt s:=by unfold szAt;omega
theorem QfE{s:ByteArray}(h:∀x,firstS s=some x->False):firstS s=none:=by
 cases hf:firstS s with
 | none=>rfl
 | some x=>exact absurd (h x hf) id
theorem QmE(s:ByteArray)(h4:4+gb s 1<=s.size):
  ((decide (refuse (evAt s)=0) && decide ((encStr (evAt s)).size<=s.size) && ((s.extract 0 (encStr (evAt s)).size).toList==(encStr (evAt s)).toList))=true->firstS s=some (evAt s,(encStr (evAt s)).size))/\
  ((decide (refuse (evAt s)=0) && decide ((encStr (evAt s)).size<=s.size) && ((s.extract 0 (encStr (evAt s)).size).toList==(encStr (evAt s)).toList))=false->firstS s=none):=by
 have hks:=QeL s omQ;have hop:(evAt s).op=gb s 0:=rfl
 have hlen:(recB (evAt s)).length=szAt s:=by
  rw[Qc0,hks,hop];unfold szAt
  split<;>omega
 refine⟨λh=>?_,λh=>?_⟩
 ·rw[Bool.and_eq_true,Bool.and_eq_true,decide_eq_true_eq,decide_eq_true_eq,beq_iff_eq]at h;obtain⟨⟨h1,h2⟩,h3⟩:=h;have hel:=Qcf h1
  have hsz:(encStr (evAt s)).size=szAt s:=by rw[<-Qam,hel,hlen]
  rw[hsz]at h2 h3 ⊢;rw[ByteArray.toList_eq,ByteArray.toList_eq,hel,QaA]at h3;simp at h3;unfold firstS;rw[if_neg omQ,if_pos ⟨h1,h3.symm⟩]
 ·refine QfE λx hx=>?_
  obtain⟨_,_,h3,h4,h5⟩:=QdA hx;have hel:=Qcf h4
  have hsz:(encStr (evAt s)).size=szAt s:=by rw[<-Qam,hel,hlen]
  rw[hsz,decide_eq_true h4,decide_eq_true h3,Bool.true_and,Bool.true_and,beq_eq_false_iff_ne,ByteArray.toList_eq,ByteArray.toList_eq,hel,QaA]at h;apply h;rw[h5];simp
theorem Qi3(s:ByteArray)(w:World)(hmx:s.size<=400):
  Calls Tryz.prog 35 #[.string s] w λen w'=>∃(e:Ev) (t:ByteArray) (ok:Bool),en=.returned (.tuple #[e.value,.string t,.bool ok])/\
   Hid ((ok=true->firstS s=some (e,t.size))/\(ok=false->firstS s=none))/\Below w.heap.size w w':=by
 have hk':=QaE s 1
 by_cases hsh:s.size<6\/(6<=s.size/\8<gb s 1)\/(6<=s.size/\gb s 1<=8/\s.size<4+gb s 1)
 ·refine(QgH s w (gb s 1) hsh (λh=>Qa6 s 1 h) hk').mono ?_;rintro en w' ⟨rfl,hb⟩;refine⟨evZero,⟨#[]⟩,false,rfl,⟨λh=>(by cases h),λ_=>QfE λx hx=>?_⟩,hb⟩;obtain⟨_,h2,h3,h4,h5⟩:=QdA hx;have hg:=QmD s;have hks:=QeL s omQ;have:=QbB h4;rw[hks]at this;omega
 have h6:6<=s.size:=omQ;have k8:gb s 1<=8:=omQ;have h4:4+gb s 1<=s.size:=omQ;have b0:=Qa6 s 0 omQ;have b1:=Qa6 s 1 omQ;have hok:=QfD s
 have hx1:(s.extract (2+gb s 1) s.size).size=s.size-(2+gb s 1):=by rw[ByteArray.size_extract];omega
 have l1:=QaE s (2+gb s 1);have l2:=QaE s (2+gb s 1+1)
 have hN:Hid (∀w,Calls Tryz.prog 58 #[.string (s.extract (2+gb s 1) s.size)] w λe w'=>e=.returned (.int .i64 ((gb s (2+gb s 1)*256+gb s (2+gb s 1+1):Nat):Int))/\∃n,w'=w.drewN n):=by
  intro w;have:=Qe8 (s.extract (2+gb s 1) s.size) w omQ;rw[Qcz,Qcz]at this;exact this
 have hkz:(evAt s).key.size<=9223372036854775800:=by rw[QeL s omQ];omega
 have hE:=λw=>Qeo (evAt s) w hok hkz
 have hiff:=QmE s h4
 by_cases h1:gb s 0=1
 ·by_cases hl:s.size<6+gb s 1
  ·refine(QhJ s w (gb s 1) _ h6 hmx (by rw[b0,h1]) b1 k8 h4 hl omQ hN).mono ?_;rintro en w' ⟨rfl,hb⟩;refine⟨⟨1,s.extract 2 (2+gb s 1),gb s (2+gb s 1)*256+gb s (2+gb s 1+1),0⟩,⟨#[]⟩,false,rfl,⟨λh=>(by cases h),λ_=>QfE λx hx=>?_⟩,hb⟩;obtain⟨_,_,h3,_,_⟩:=QdA hx
   have:szAt s=gb s 1+7:=by unfold szAt;rw[if_pos h1]
   omega
  ·have l3:=QaE s (2+gb s 1+2);have l4:=QaE s (2+gb s 1+2+1)
   have hN2:Hid (∀w,Calls Tryz.prog 58 #[.string (s.extract (2+gb s 1+2) s.size)] w λe w'=>e=.returned (.int .i64 ((gb s (2+gb s 1+2)*256+gb s (2+gb s 1+2+1):Nat):Int))/\∃n,w'=w.drewN n):=by
    intro w;have:=Qe8 (s.extract (2+gb s 1+2) s.size) w (by rw[ByteArray.size_extract];omega);rw[Qcz,Qcz]at this;exact this
   have hev:evAt s=⟨1,s.extract 2 (2+gb s 1),gb s (2+gb s 1)*256+gb s (2+gb s 1+1),sg (gb s (2+gb s 1+2)*256+gb s (2+gb s 1+2+1))⟩:=by
    unfold evAt;rw[if_pos h1,h1]
   by_cases hv:gb s (2+gb s 1+2)*256+gb s (2+gb s 1+2+1)<=32767
   ·have hsg:sg (gb s (2+gb s 1+2)*256+gb s (2+gb s 1+2+1))=((gb s (2+gb s 1+2)*256+gb s (2+gb s 1+2+1):Nat):Int):=by unfold sg;rw[if_pos omQ]
    refine(Qi2 s w (gb s 1) _ _ h6 hmx (by rw[b0,h1]) b1 k8 omQ omQ hv hN hN2 (encStr (evAt s)) (refuse (evAt s)) ?_ _ (show Hid (_=_)from rfl)).mono ?_
    ·intro w;have:=hE w;rw[hev,hsg]at this ⊢;exact this
    ·rintro en w' ⟨rfl,hb⟩;refine⟨evAt s,encStr (evAt s),_,?_,hiff,hb⟩;simp only[hev,hsg]
     rfl
   ·have hsg:sg (gb s (2+gb s 1+2)*256+gb s (2+gb s 1+2+1))=((gb s (2+gb s 1+2)*256+gb s (2+gb s 1+2+1):Nat):Int)-65536:=by unfold sg;rw[if_neg omQ]
    refine(QhK s w (gb s 1) _ _ h6 hmx (by rw[b0,h1]) b1 k8 omQ omQ omQ omQ hN hN2 (encStr (evAt s)) (refuse (evAt s)) ?_ _ (show Hid (_=_)from rfl)).mono ?_
    ·intro w;have:=hE w;rw[hev,hsg]at this ⊢;exact this
    ·rintro en w' ⟨rfl,hb⟩;refine⟨evAt s,encStr (evAt s),_,?_,hiff,hb⟩;simp only[hev,hsg]
     rfl
 ·have hev:evAt s=⟨gb s 0,s.extract 2 (2+gb s 1),gb s (2+gb s 1)*256+gb s (2+gb s 1+1),0⟩:=by
   unfold evAt;rw[if_neg h1]
  refine(QgI s w (gb s 0) (gb s 1) _ h6 hmx b0 b1 k8 h4 (by rw[beq_eq_false_iff_ne];omega) omQ hN (encStr (evAt s)) (refuse (evAt s)) ?_ _ (show Hid (_=_)from rfl)).mono ?_
  ·intro w;have:=hE w;rw[hev]at this ⊢;exact this
  ·rintro en w' ⟨rfl,hb⟩;refine⟨evAt s,encStr (evAt s),_,?_,hiff,hb⟩;simp only[hev]
   rfl
theorem QcJ(s:ByteArray)(w:World)(h:400<s.size):
  Calls Tryz.prog 14 #[.string s] w λen w'=>en=.returned (.tuple #[.slice none 0 0,.int .i64 0,.int .i64 1])/\Below w.heap.size w w':=by
 go_enter Tryz.func14,Tryz.ntmps14;go_wp2
 go_ret3
 exact⟨rfl,Below.refl _ _⟩
theorem Qbq(s:ByteArray)(w:World)(h:s.size<=400):
  Calls Tryz.prog 14 #[.string s] w λen w'=>∃(v:Value) (es:List Ev) (n r:Nat),en=.returned (.tuple #[v,.int .i64 (n:Int),.int .i64 (r:Int)])/\Hid (Parsed s es n/\r=errOf s n)/\
   w'.ownsRow w.heap.size 40 4 v es.length (evCells es)/\Below w.heap.size w w':=by
 obtain⟨i0,hi,hz0,hz1,hz2⟩:=info_parts Tryz.infoEv;go_enter Tryz.func14,Tryz.ntmps14;go_wp2
 go_loopw [5,6] (λv i wr=>∃(es:List Ev) (n:Nat),i=.int .i64 (n:Int)/\n<=s.size/\Hid ((∀e∈es,Good e)/\recs es=s.data.toList.take n)/\wr.ownsRow w.heap.size 40 4 v es.length (evCells es)/\Below w.heap.size w wr) (λ_ i _=>s.size-(intOf i).toNat)
 case atStart=>exact⟨[],0,rfl,Nat.zero_le _,⟨by simp,by simp[recs]⟩,World.ownsRow_nil _ _ _ _,Below.refl _ _⟩
 case round=>
  obtain⟨es,n,rfl,hn,hacc,hown,hbw⟩:=hrel
  have hlen:5*es.length<=400:=by
   have a:=Qc3 es;rw[hacc.out.2,List.length_take,Qam]at a;omega
  have hBz:=hbw.size
  by_cases hlt:n<s.size
  ·have hF:=show Hid _ from λw=>Qi3 (s.extract n s.size) w (by rw[ByteArray.size_extract];omega)
   go_wp2_with fail
   refine(hF.out _).mono ?_;rintro en w1 ⟨e,t,ok,rfl,hfs,hb⟩;have hown1:=Qao hown hb;have hbw1:=hbw.trans (hb.mono hBz);have hBz1:=Nat.le_trans hBz hb.size;clear hown hbw hb hBz hF;obtain⟨op,key,seq,val⟩:=e;unfold Ev.value
   cases ok with
   | false=>
    have hf:=hfs.out.2 rfl
    have hP:=show Hid (Parsed s es n)from⟨hacc.out.1,hacc.out.2,hn,QiL hf⟩
    clear hacc hfs hf;go_wp2
    go_ret3
    exact⟨_,es,n,6,rfl,⟨hP.out,by unfold errOf;rw[if_neg omQ]⟩,hown1.alloc _,hbw1.alloc hBz1 _⟩
   | true=>
    have hf:=hfs.out.1 rfl;obtain⟨f1,f2,f3,f4,f5⟩:=Qc2 hf
    have hm5:5<=t.size:=by have:=Qb7 ⟨op,key,seq,val⟩;omega
    have hmn:n+t.size<=s.size:=by rw[ByteArray.size_extract]at f5;omega
    have hacc2:=show Hid ((∀e∈es++[⟨op,key,seq,val⟩],Good e)/\recs (es++[⟨op,key,seq,val⟩])=s.data.toList.take (n+t.size))from by
     refine⟨λe he=>?_,?_⟩
     ·rcases List.mem_append.1 he with he | he
      ·exact hacc.out.1 e he
      ·simp at he;subst he;exact⟨f1,f2⟩
     ·rw[Qem,QgC,hacc.out.2,f3,QaA,List.take_take,List.take_add];congr 2;omega
    clear hacc hf hfs f1 f2 f3 f4 f5
    go_wp2_with(first
     | (at_builtin;refine wpList_append_own _ rfl (.tmp 29) (.tmp 31) 33 rfl w.heap.size 40 i0 (.agg #[.int .u8 0,.string ⟨#[]⟩,.int .u16 0,.int .i16 0]) 4 32 Tryz.underlying33 hi hz0 hz1 hz2 rfl (by decide) _ es.length (evCells es) rfl ((hown1.alloc _).alloc _) ⟨w1.heap.size+1,0,none⟩ 1 1 (evCells1 ⟨op,key,seq,val⟩) rfl rfl (by have:=QaC (w1.alloc (.cells #[.int .u8 (op:Int),.string key,.int .u16 (seq:Int),.int .i16 val] 40)) (.int .u8 (op:Int)) (.string key) (.int .u16 (seq:Int)) (.int .i16 val) 40;simpa[evCells1]using this) (Qbl _) (by unfold maxLen;omega) (by omega) (by simp;omega) ?_;intro v2 w2 hown2 hgrow2 _;obtain⟨hB2,hZ2⟩:=Qa1 (((hbw1.alloc hBz1 _).alloc (by simp;omega) _)) (by simp;omega) ((hown1.alloc _).alloc _) hgrow2;rw[<-QbN,<-QaU]at hown2;clear hgrow2 hown1 hbw1 hBz1))
    go_roundw
    case rel=>exact⟨es++[⟨op,key,seq,val⟩],n+t.size,by go_num,hmn,hacc2,by simpa using hown2,hB2⟩
    case measure=>simp[intOf];omega
  ·have hP:=show Hid (Parsed s es n)from⟨hacc.out.1,hacc.out.2,hn,.inl (List.drop_of_length_le (by rw[Qam];omega))⟩
   clear hacc;go_wp2
   go_ret3
   exact⟨_,es,n,0,rfl,⟨hP.out,by unfold errOf;rw[if_pos omQ]⟩,hown,hbw⟩
def wrap16(n:Int):Int:=if 32767<n % 65536 then n % 65536-65536 else n % 65536
theorem QbZ(n:Int):-32768<=wrap16 n/\wrap16 n<=32767:=by
 unfold wrap16
 split<;>omega
def dig(n:Nat):UInt8:=UInt8.ofNat (48+n)
def decN(n:Nat):List UInt8:=if n<10 then[dig n]else decN (n / 10)++[dig (n % 10)]
termination_by n
decreasing_by omega
theorem QbJ{n:Nat}(h:n<10):decN n=[dig n]:=by rw[decN];simp[h]
theorem QeM{n:Nat}(h:¬n<10):decN n=decN (n / 10)++[dig (n % 10)]:=by rw[decN];simp[h]
def decI(n:Int):List UInt8:=if n<0 then 45 :: decN (-n).toNat else decN n.toNat
theorem Qbg:∀(k n:Nat),n<10 ^ (k+1)->(decN n).length<=k+1
 | 0,n,h=>by rw[QbJ omQ];simp
 | k+1,n,h=>by
  by_cases h10:n<10
  ·rw[QbJ h10];simp
  ·rw[QeM h10,List.length_append];have:=Qbg k (n / 10) (by rw[Nat.pow_succ]at h;omega);simp;omega
structure Kn where
 had:Bool
 last:Nat
 there:Bool
 value:Int
 count:Nat
def Kn.none:Kn:=⟨false,0,false,0,0⟩
def Kn.counts(k:Kn)(e:Ev):Bool:=!k.had || decide (0<wrap16 ((e.seq:Int)-(k.last:Int)))
def Kn.step(k:Kn)(e:Ev):Kn:=if k.counts e then⟨true,e.seq,decide (e.op=1),e.val,k.count+1⟩else k
def knOf(key:ByteArray)(es:List Ev):Kn:=(es.filter (λe=>decide (e.key=key))).foldl Kn.step Kn.none
theorem QaW(key:ByteArray)(es:List Ev)(e:Ev):knOf key (es++[e])=if e.key=key then(knOf key es).step e else knOf key es:=by
 unfold knOf;rw[List.filter_append,List.foldl_append]
 by_cases h:e.key=key
 ·simp[h]
 ·simp[h]
theorem Qi4(n:Int):∃t,n.tmod 65536=t/\-65536<t/\t<65536/\(t<0->t+65536=n % 65536)/\(0<=t->t=n % 65536):=by
 refine⟨_,rfl,?_⟩
 by_cases h:0<=n
 ·rw[Int.tmod_eq_emod_of_nonneg h];omega
 ·have e:n.tmod 65536=-((-n) % 65536):=by
   have:=Int.neg_tmod (-n) 65536;rw[Int.neg_neg]at this;rw[this,Int.tmod_eq_emod_of_nonneg omQ]
  rw[e];omega
theorem QgJ(n:Int)(w:World):
  Calls Tryz.prog 67 #[.int .i64 n] w λe w'=>e=.returned (.int .i64 (wrap16 n))/\w'=w:=by
 obtain⟨t,ht,t1,t2,t3,t4⟩:=Qi4 n;have hw:Hid (wrap16 n=if 32767<n % 65536 then n % 65536-65536 else n % 65536):=rfl;generalize wrap16 n=r at hw;go_enter Tryz.func67,Tryz.ntmps67;go_wp2
 all_goals go_ret
 all_goals refine⟨congrArg (λx=>Ending.returned (Value.int .i64 x)) ?_,rfl⟩
 all_goals have hr:=hw.out
 all_goals split at hr<;>omega
theorem QeN:∀n:Fin 10,((⟨#[48,49,50,51,52,53,54,55,56,57]⟩:ByteArray).extract n.val (n.val+1))=⟨#[dig n.val]⟩:=by decide+kernel
theorem QlG(ds:List UInt8)(d:UInt8):(⟨ds.toArray⟩:ByteArray)++⟨#[d]⟩=⟨(ds++[d]).toArray⟩:=by
 apply ByteArray.ext;simp
theorem QgK:∀(k n:Nat) (w:World),n<10 ^ (k+1)->n<=4611686018427387904->k<=30->
  Calls Tryz.prog 66 #[.int .i64 (n:Int)] w λe w'=>e=.returned (.string ⟨(decN n).toArray⟩)/\∃m,w'=w.drewN m:=by
 intro k
 induction k with
 | zero=>
  intro n w h hm _;have hn:n<10:=omQ;rw[QbJ hn];have hd:=QeN ⟨n,hn⟩;simp only at hd;go_enter Tryz.func66,Tryz.ntmps66;go_wp2;go_ret
  exact⟨rfl,0,rfl⟩
 | succ k ih=>
  intro n w h hm hk
  by_cases hn:n<10
  ·rw[QbJ hn];have hd:=QeN ⟨n,hn⟩;simp only at hd;clear ih;go_enter Tryz.func66,Tryz.ntmps66;go_wp2;go_ret;exact⟨rfl,0,rfl⟩
  ·rw[QeM hn]
   have hI:Hid (∀w,Calls Tryz.prog 66 #[.int .i64 ((n / 10:Nat):Int)] w λe w'=>e=.returned (.string ⟨(decN (n / 10)).toArray⟩)/\∃m,w'=w.drewN m):=λw=>ih (n / 10) w (by rw[Nat.pow_succ]at h;omega) omQ omQ
   clear ih;have hlen:(decN (n / 10)).length<=31:=Nat.le_trans (Qbg k (n / 10) (by rw[Nat.pow_succ]at h;omega)) omQ;have hd:=QeN ⟨n % 10,by omega⟩;simp only at hd;generalize decN (n / 10)=ds at hI hlen
   have q1:(n:Int).tdiv 10=((n / 10:Nat):Int):=by rw[Int.tdiv_eq_ediv_of_nonneg omQ];omega
   have q2:(n:Int).tmod 10=((n % 10:Nat):Int):=by rw[Int.tmod_eq_emod_of_nonneg omQ];omega
   have hp:=QlG ds (dig (n % 10));go_enter Tryz.func66,Tryz.ntmps66;go_wp2
   go_quiet (first | (go_at_call 66;refine Calls.quiet_of (hI.out _)))
   go_wp2;go_ret;exact⟨rfl,nq,rfl⟩
theorem Qkm(ds:List UInt8):(⟨#[45]⟩:ByteArray)++⟨ds.toArray⟩=⟨(45 :: ds).toArray⟩:=by
 apply ByteArray.ext;simp
theorem Qc5(n:Int)(w:World)(h1:-100000<=n)(h2:n<=100000):
  Calls Tryz.prog 66 #[.int .i64 n] w λe w'=>e=.returned (.string ⟨(decI n).toArray⟩)/\∃m,w'=w.drewN m:=by
 unfold decI
 by_cases hn:n<0
 ·rw[if_pos hn]
  have hI:Hid (∀w,Calls Tryz.prog 66 #[.int .i64 (((-n).toNat:Nat):Int)] w λe w'=>e=.returned (.string ⟨(decN (-n).toNat).toArray⟩)/\∃m,w'=w.drewN m):=λw=>QgK 6 (-n).toNat w omQ omQ omQ
  have hlen:(decN (-n).toNat).length<=7:=Qbg 6 _ omQ;generalize decN (-n).toNat=ds at hI hlen;rw[show(((-n).toNat:Nat):Int)=-n from by omega]at hI;have hp:=Qkm ds;go_enter Tryz.func66,Tryz.ntmps66
  go_wp2_with(go_at_call 66;refine(hI.out _).mono ?_;rintro e w1 ⟨rfl,m,rfl⟩)
  go_ret;exact⟨rfl,m,rfl⟩
 ·rw[if_neg hn];have:=QgK 6 n.toNat w omQ omQ omQ;rw[show((n.toNat:Nat):Int)=n from by omega]at this;exact this
def Kn.value'(k:Kn):Value:=.agg #[.bool k.had,.int .i64 (k.last:Int),.bool k.there,.int .i64 k.value,.int .i64 (k.count:Int)]
theorem QcA(k:Kn)(e:Ev)(w:World)(hk:k.last<65536)(he:e.seq<65536):
  Calls Tryz.prog 77 #[k.value',e.value] w λen w'=>en=.returned (.bool (k.counts e))/\Below w.heap.size w w':=by
 obtain⟨had,last,there,value,count⟩:=k;obtain⟨op,key,seq,val⟩:=e;unfold Kn.value' Ev.value Kn.counts;simp only at hk he ⊢;have hW:=hdQ QgJ
 cases had with
 | false=>
  go_enter Tryz.func77,Tryz.ntmps77;go_wp2;go_ret
  exact⟨rfl,((Below.refl _ _).alloc (Nat.le_refl _) _).alloc (by simp) _⟩
 | true=>
  go_enter Tryz.func77,Tryz.ntmps77
  go_wp2_with(go_at_call 67;refine(hW.out _ _).mono ?_;rintro en w1 ⟨rfl,rfl⟩)
  go_ret;exact⟨rfl,((Below.refl _ _).alloc (Nat.le_refl _) _).alloc (by simp) _⟩
theorem Qaa{W:World}{b:Nat}{cs:Array Value}{t:TypeId}(h:W.heap[b]? =some (.cells cs t (0,0)))(j:Nat):W.cell? ⟨b,j,none⟩=cs[j]? :=cell_of_row W b j cs t (0,0) h
theorem Qab{W:World}{b:Nat}{cs:Array Value}{t:TypeId}(h:W.heap[b]? =some (.cells cs t (0,0)))(j:Nat):W.frozen? ⟨b,j,none⟩=false:=by simp[World.frozen?,h]
theorem QfR:∀(es:List Ev) (k:Kn),k.last<65536->(∀e∈es,e.seq<65536)->(es.foldl Kn.step k).last<65536/\(es.foldl Kn.step k).count<=k.count+es.length
 | [],k,hk,_=>by simp[hk]
 | e :: es,k,hk,h=>by
  have hs:(k.step e).last<65536/\(k.step e).count<=k.count+1:=by
   unfold Kn.step;split
   ·exact⟨h e (by simp),Nat.le_refl _⟩
   ·exact⟨hk,by omega⟩
  have:=QfR es (k.step e) hs.1 (λx hx=>h x (by simp[hx]));simp only[List.foldl_cons,List.length_cons];omega
theorem Qco{key:ByteArray}{es:List Ev}(h:∀e∈es,e.seq<65536):(knOf key es).last<65536/\(knOf key es).count<=es.length:=by
 have:=QfR (es.filter (λe=>decide (e.key=key))) Kn.none (by decide) (λe he=>h e (List.mem_filter.1 he |>.1));refine⟨this.1,Nat.le_trans this.2 ?_⟩;have:=List.length_filter_le (λe=>decide (e.key=key)) es;simp[Kn.none];exact this
theorem QgL{a b:ByteArray}(h:¬a=b):(!a.toList==b.toList)=true:=by
 have:¬a.toList=b.toList:=λe=>h (by
  apply ByteArray.ext;apply Array.ext'
  simpa[ByteArray.toList_eq]using e)
 simp[this]
theorem QmF(n:Nat):((n:Int)==1)=decide (n=1):=by
 by_cases h:n=1
 ·subst h;rfl
 ·have:¬(n:Int)=1:=omQ;simp[h,this]
def KSt(w:World)(k:Kn)(w':World):Prop:=
 w'.heap[w.heap.size+1]? =some (.cells #[.bool k.had,.int .i64 (k.last:Int),.bool k.there,.int .i64 k.value,.int .i64 (k.count:Int)] 144 (0,0))/\w'.heap[w.heap.size]? =some (.cells #[.bool false,.int .i64 0,.bool false,.int .i64 0,.int .i64 0] 144 (0,0))/\Below w.heap.size w w'
theorem KSt.below{w w' w'':World}{k:Kn}(h:KSt w k w')(hb:Below w'.heap.size w' w''):KSt w k w'':=
 ⟨(hb.block _ (Array.getElem?_eq_some_iff.1 h.1).1).trans h.1,(hb.block _ (Array.getElem?_eq_some_iff.1 h.2.1).1).trans h.2.1,h.2.2.trans (hb.mono h.2.2.size)⟩
theorem KSt.new(w:World):KSt w Kn.none ((w.alloc (.cells #[.bool false,.int .i64 0,.bool false,.int .i64 0,.int .i64 0] 144)).alloc (.cells #[.bool false,.int .i64 0,.bool false,.int .i64 0,.int .i64 0] 144)):=by
 refine⟨?_,?_,((Below.refl _ _).alloc (Nat.le_refl _) _).alloc (by simp) _⟩
 ·have:=heap_alloc_new (w.alloc (.cells #[.bool false,.int .i64 0,.bool false,.int .i64 0,.int .i64 0] 144)) (.cells #[.bool false,.int .i64 0,.bool false,.int .i64 0,.int .i64 0] 144);simpa[Kn.none]using this
 ·rw[Below.heap_alloc _ _ _ (by simp)];exact heap_alloc_new w _
theorem Qag{W:World}{b j:Nat}{cs:Array Value}{t:TypeId}(h:W.heap[b]? =some (.cells cs t (0,0)))(u:Value):(W.setCell ⟨b,j,none⟩ u).heap[b]? =some (.cells (cs.setIfInBounds j u) t (0,0)):=by
 simp only[World.setCell,Array.getElem?_modify,if_true,h];simp
theorem KSt.stored{w w':World}{k k':Kn}(h:KSt w k w'):KSt w k' (((((w'.setCell ⟨w.heap.size+1,0,none⟩ (.bool k'.had)).setCell ⟨w.heap.size+1,1,none⟩ (.int .i64 (k'.last:Int))).setCell ⟨w.heap.size+1,2,none⟩ (.bool k'.there)).setCell ⟨w.heap.size+1,3,none⟩ (.int .i64 k'.value)).setCell ⟨w.heap.size+1,4,none⟩ (.int .i64 (k'.count:Int))):=by
 refine⟨?_,?_,((((h.2.2.setCell (p:=⟨w.heap.size+1,0,none⟩) (by simp) _).setCell (p:=⟨w.heap.size+1,1,none⟩) (by simp) _).setCell (p:=⟨w.heap.size+1,2,none⟩) (by simp) _).setCell (p:=⟨w.heap.size+1,3,none⟩) (by simp) _).setCell (p:=⟨w.heap.size+1,4,none⟩) (by simp) _⟩
 ·have:=Qag (j:=4) (Qag (j:=3) (Qag (j:=2) (Qag (j:=1) (Qag (j:=0) h.1 (.bool k'.had)) (.int .i64 (k'.last:Int))) (.bool k'.there)) (.int .i64 k'.value)) (.int .i64 (k'.count:Int))
  simpa using this
 ·rw[Below.heap_setCell _ _ _ _ (by simp),Below.heap_setCell _ _ _ _ (by simp),Below.heap_setCell _ _ _ _ (by simp),Below.heap_setCell _ _ _ _ (by simp),Below.heap_setCell _ _ _ _ (by simp)];exact h.2.1
theorem QcB(a:Option Addr)(cap:Nat)(es:List Ev)(key:ByteArray)(w:World)(hlen:es.length<=1000)(hev:IsEvs w a es):
  Calls Tryz.prog 69 #[.slice a es.length cap,.string key] w λen w'=>en=.returned (knOf key es).value'/\Below w.heap.size w w':=by
 have Hev:=show Hid (IsEvs w a es)from hev
 clear hev;go_enter Tryz.func69,Tryz.ntmps69;go_wp2
 have H0:=show Hid _ from KSt.new w
 go_loopw [6] (λi wr=>∃j:Nat,j<=es.length/\i=.int .i64 (j:Int)/\KSt w (knOf key (es.take j)) wr) (λi _=>es.length-(intOf i).toNat)
 case atStart=>exact⟨0,Nat.zero_le _,rfl,H0.out⟩
 case round=>
  obtain⟨j,hj,rfl,hS⟩:=hrel;clear H0
  by_cases hjl:j<es.length
  ·rcases Hev.out.2 with h0 | ⟨b,off,rfl,hbl,hcs⟩
   ·rw[h0]at hjl;simp at hjl
   obtain⟨d0,d1,d2,d3⟩:=hcs j hjl;have hok:=Hev.out.1 (es[j]'hjl) (List.getElem_mem hjl)
   have hkl:(knOf key (es.take j)).last<65536/\(knOf key (es.take j)).count<=(es.take j).length:=Qco λe he=>(Hev.out.1 e (List.mem_of_mem_take he)).2.1
   have hnx:knOf key (es.take (j+1))=if(es[j]'hjl).key=key then(knOf key (es.take j)).step (es[j]'hjl)else knOf key (es.take j):=by
    rw[List.take_succ_eq_append_getElem hjl,QaW]
   clear hcs Hev
   have hCt:=show Hid _ from λw=>QcA (knOf key (es.take j)) (es[j]'hjl) w hkl.1 hok.2.1
   rw[List.length_take]at hkl
   have HN:=show Hid (_=_)from hnx
   have HS:=hdQ hS;clear hnx hS;generalize knOf key (es.take j)=k at HS hkl hCt HN;generalize es[j]'hjl=e at d0 d1 d2 d3 hok hCt HN;obtain⟨had,last,there,value,count⟩:=k;obtain⟨op,ky,seq,val⟩:=e;unfold Kn.value' Ev.value at hCt;simp only at hCt hkl d0 d1 d2 d3;have hji:(j:Int)<(es.length:Int):=omQ;have hj0:(0:Int)<=(j:Int):=omQ;have c1:=(HS.out.2.2.cell (p:=⟨b,off+j*4+1,none⟩) hbl).trans d1
   by_cases hky:ky=key
   ·subst hky;have hH0:KSt w ⟨had,last,there,value,count⟩ wr.drew:=KSt.below HS.out (Below.refl _ _).drew;go_wp2;refine wp_region_held_drew (S:=KSt w ⟨had,last,there,value,count⟩) krQ hH0 (λhH=>?_);clear hH0 HS c1;refine tlQ 0 (.agg #[.bool had,.int .i64 (last:Int),.bool there,.int .i64 value,.int .i64 (count:Int)]) rfl (by intro v hSw;have s0:v.cell? ⟨w.heap.size+1,0,none⟩=some (.bool had):=Qaa hSw.1 0;have s1:v.cell? ⟨w.heap.size+1,1,none⟩=some (.int .i64 (last:Int)):=Qaa hSw.1 1;have s2:v.cell? ⟨w.heap.size+1,2,none⟩=some (.bool there):=Qaa hSw.1 2;have s3:v.cell? ⟨w.heap.size+1,3,none⟩=some (.int .i64 value):=Qaa hSw.1 3;have s4:v.cell? ⟨w.heap.size+1,4,none⟩=some (.int .i64 (count:Int)):=Qaa hSw.1 4;clear hSw;go_simp) hH ?_;refine tlQ 1 (.slice (some ⟨b,off,none⟩) es.length cap) rfl (by intro w hSw;clear hSw;go_simp) hH ?_;refine tlQ 2 (.int .i64 (j:Int)) rfl (by intro w hSw;clear hSw;go_simp) hH ?_;refine tlQ 3 (.pointer (some ⟨b,off+j*4,none⟩)) rfl (by intro w hSw;clear hSw;go_simp) hH ?_;refine tlQ 4 (.agg #[.int .u8 (op:Int),.string ky,.int .u16 (seq:Int),.int .i16 val]) rfl (by intro v hSw;have t0:=(hSw.2.2.cell (p:=⟨b,off+j*4,none⟩) hbl).trans d0;have t1:=(hSw.2.2.cell (p:=⟨b,off+j*4+1,none⟩) hbl).trans d1;have t2:=(hSw.2.2.cell (p:=⟨b,off+j*4+2,none⟩) hbl).trans d2;have t3:=(hSw.2.2.cell (p:=⟨b,off+j*4+3,none⟩) hbl).trans d3;clear hSw;go_simp) hH ?_;refine rdQ [5] ?_
    refine arQ λK hK=>?_
    generalize hct:Kn.counts ⟨had,last,there,value,count⟩ ⟨op,ky,seq,val⟩=ct at hCt
    have HH:=show Hid (KSt w ⟨had,last,there,value,count⟩ wr.drew)from hH
    clear hH;go_simp
    go_wp2_with(go_at_call 77;refine(hCt.out _).mono ?_;rintro en w1 ⟨rfl,hb1⟩)
    refine hK.out _ _ (HH.out.below hb1) (λhH=>?_);clear hK K HH hb1;refine tlQ 6 (.bool ct) rfl (by intro w hSw;clear hSw;go_simp) hH ?_;refine wpAnyH_done krQ ?_ _
    have HS:=show Hid (KSt w ⟨had,last,there,value,count⟩ w1)from hH
    clear hH hCt
    cases ct with
    | false=>
     go_wp2
     go_roundw
     case rel=>exact⟨j+1,by omega,by go_num,by rw[HN.out];simp only[if_true,Kn.step,hct];exact HS.out⟩
     case measure=>simp[intOf];omega
    | true=>
     go_wp2;have hH1:KSt w ⟨had,last,there,value,count⟩ w1.drew:=KSt.below HS.out (Below.refl _ _).drew;clear HS;obtain⟨o1,o2,o3,o4⟩:=hok;simp only at o1 o2 o3 o4;refine wp_region_held_drew (S:=λw':World=>w'.heap[w.heap.size]? =some (.cells #[.bool false,.int .i64 0,.bool false,.int .i64 0,.int .i64 0] 144 (0,0))/\Below w.heap.size w w') krQ hH1.2 (λhH=>?_);refine tkQ 0 (.slice (some ⟨b,off,none⟩) es.length cap) hH ?_;refine tkQ 1 (.int .i64 (j:Int)) hH ?_;refine tkQ 2 (.pointer (some ⟨b,off+j*4,none⟩)) hH ?_;refine tkQ 3 (.pointer (some ⟨b,off+j*4+2,none⟩)) hH ?_;refine tlQ 4 (.int .u16 (seq:Int)) rfl (by intro v hSw;have t2:=(hSw.2.cell (p:=⟨b,off+j*4+2,none⟩) hbl).trans d2;clear hSw;go_simp) hH ?_;refine tlQ 5 (.int .i64 (seq:Int)) rfl (by intro v hSw;clear hSw;go_simp;exact wrap_small _ omQ omQ) hH ?_;refine tkQ 6 (.slice (some ⟨b,off,none⟩) es.length cap) hH ?_;refine tkQ 7 (.int .i64 (j:Int)) hH ?_;refine tkQ 8 (.pointer (some ⟨b,off+j*4,none⟩)) hH ?_;refine tkQ 9 (.pointer (some ⟨b,off+j*4,none⟩)) hH ?_;refine tlQ 10 (.int .u8 (op:Int)) rfl (by intro v hSw;have t0:=(hSw.2.cell (p:=⟨b,off+j*4,none⟩) hbl).trans d0;clear hSw;go_simp) hH ?_;refine tlQ 11 (.bool (decide (op=1))) rfl (by intro v hSw;clear hSw;go_simp;exact QmF op) hH ?_;refine tkQ 12 (.slice (some ⟨b,off,none⟩) es.length cap) hH ?_;refine tkQ 13 (.int .i64 (j:Int)) hH ?_;refine tkQ 14 (.pointer (some ⟨b,off+j*4,none⟩)) hH ?_;refine tkQ 15 (.pointer (some ⟨b,off+j*4+3,none⟩)) hH ?_;refine tlQ 16 (.int .i16 val) rfl (by intro v hSw;have t3:=(hSw.2.cell (p:=⟨b,off+j*4+3,none⟩) hbl).trans d3;clear hSw;go_simp) hH ?_;refine tlQ 17 (.int .i64 val) rfl (by intro v hSw;clear hSw;go_simp;exact IntWalk.i64_in val ⟨by omega,by omega⟩) hH ?_;refine tkQ 18 (.pointer (some ⟨w.heap.size+1,4,none⟩)) hH ?_;refine rdQ [19] ?_
     refine arQ λK hK=>?_
     have b4:w1.drew.cell? ⟨w.heap.size+1,4,none⟩=some (.int .i64 (count:Int)):=Qaa hH1.1 4
     have HH:=show Hid (KSt w ⟨had,last,there,value,count⟩ w1.drew)from hH1
     clear hH hH1;generalize w1.drew=w2 at b4 HH ⊢;go_simp;refine hK.out _ _ HH.out.2 (λhH=>?_);clear hK K;refine tlQ 20 (.int .i64 ((count:Int)+1)) rfl (by intro v hSw;clear hSw;go_simp;exact IntWalk.i64_in ((count:Int)+1) ⟨by omega,by omega⟩) hH ?_;refine tkQ 21 (.agg #[.bool true,.int .i64 (seq:Int),.bool (decide (op=1)),.int .i64 val,.int .i64 ((count:Int)+1)]) hH ?_;refine rdQ [22] ?_
     refine arQ λK hK=>?_
     clear hH;have b0:w2.cell? ⟨w.heap.size+1,0,none⟩=some (.bool had):=Qaa HH.out.1 0;have b1:w2.cell? ⟨w.heap.size+1,1,none⟩=some (.int .i64 (last:Int)):=Qaa HH.out.1 1;have b2:w2.cell? ⟨w.heap.size+1,2,none⟩=some (.bool there):=Qaa HH.out.1 2;have b3:w2.cell? ⟨w.heap.size+1,3,none⟩=some (.int .i64 value):=Qaa HH.out.1 3;have z0:=Qab HH.out.1 0;have z1:=Qab HH.out.1 1;have z2:=Qab HH.out.1 2;have z3:=Qab HH.out.1 3;have z4:=Qab HH.out.1 4;go_simp;have HT:Hid (KSt w ⟨true,seq,decide (op=1),val,count+1⟩ (((((w2.setCell ⟨w.heap.size+1,0,none⟩ (.bool true)).setCell ⟨w.heap.size+1,1,none⟩ (.int .i64 (seq:Int))).setCell ⟨w.heap.size+1,2,none⟩ (.bool (decide (op=1)))).setCell ⟨w.heap.size+1,3,none⟩ (.int .i64 val)).setCell ⟨w.heap.size+1,4,none⟩ (.int .i64 ((count:Int)+1)))):=KSt.stored HH.out;refine hK.out _ _ HT.out.2 (λhH=>?_);clear hK K hH HH b0 b1 b2 b3 b4 z0 z1 z2 z3 z4;refine wpAnyH_done krQ ?_ _;generalize(((((w2.setCell ⟨w.heap.size+1,0,none⟩ (.bool true)).setCell ⟨w.heap.size+1,1,none⟩ (.int .i64 (seq:Int))).setCell ⟨w.heap.size+1,2,none⟩ (.bool (decide (op=1)))).setCell ⟨w.heap.size+1,3,none⟩ (.int .i64 val)).setCell ⟨w.heap.size+1,4,none⟩ (.int .i64 ((count:Int)+1)))=w3 at HT ⊢;go_wp2
     go_roundw
     case rel=>exact⟨j+1,by omega,by go_num,by rw[HN.out];simp only[if_true,Kn.step,hct];exact HT.out⟩
     case measure=>simp[intOf];omega
   ·have hne:=QgL hky;go_wp2
    go_roundw
    case rel=>exact⟨j+1,by omega,by go_num,by rw[HN.out,if_neg hky];exact HS.out⟩
    case measure=>simp[intOf];omega
  ·have hjj:j=es.length:=omQ;subst hjj;rw[List.take_length]at hS
   obtain⟨k,hk2⟩:∃k,knOf key es=k:=⟨_,rfl⟩
   rw[hk2]at hS
   have HK:=show Hid (_=_)from hk2
   have HS:=hdQ hS;clear hS Hev hk2;obtain⟨had,last,there,value,count⟩:=k;have b0:wr.cell? ⟨w.heap.size+1,0,none⟩=some (.bool had):=Qaa HS.out.1 0;have b1:wr.cell? ⟨w.heap.size+1,1,none⟩=some (.int .i64 (last:Int)):=Qaa HS.out.1 1;have b2:wr.cell? ⟨w.heap.size+1,2,none⟩=some (.bool there):=Qaa HS.out.1 2;have b3:wr.cell? ⟨w.heap.size+1,3,none⟩=some (.int .i64 value):=Qaa HS.out.1 3;have b4:wr.cell? ⟨w.heap.size+1,4,none⟩=some (.int .i64 (count:Int)):=Qaa HS.out.1 4;have r0:=Qaa HS.out.2.1 0;have r1:=Qaa HS.out.2.1 1;have r2:=Qaa HS.out.2.1 2;have r3:=Qaa HS.out.2.1 3;have r4:=Qaa HS.out.2.1 4;have z0:=Qab HS.out.2.1 0;have z1:=Qab HS.out.2.1 1;have z2:=Qab HS.out.2.1 2;have z3:=Qab HS.out.2.1 3;have z4:=Qab HS.out.2.1 4;simp at r0 r1 r2 r3 r4;go_wp2;have hg:=Qag (j:=4) (Qag (j:=3) (Qag (j:=2) (Qag (j:=1) (Qag (j:=0) HS.out.2.1 (.bool had)) (.int .i64 (last:Int))) (.bool there)) (.int .i64 value)) (.int .i64 (count:Int));have hg':_=some (Obj.cells #[.bool had,.int .i64 (last:Int),.bool there,.int .i64 value,.int .i64 (count:Int)] 144 (0,0)):=hg;refine bodyPost_ret (results_cell_row (p:=4) (ty:=144) rfl _ _ w.heap.size 144 #[.bool had,.int .i64 (last:Int),.bool there,.int .i64 value,.int .i64 (count:Int)] (0,0) _ rfl hg' Tryz.underlying144 rfl krQ) rfl ⟨?_,?_⟩
   ·rw[HK.out]
    rfl
   ·exact((((HS.out.2.2.setCell (p:=⟨w.heap.size,0,none⟩) (Nat.le_refl _) _).setCell (p:=⟨w.heap.size,1,none⟩) (Nat.le_refl _) _).setCell (p:=⟨w.heap.size,2,none⟩) (Nat.le_refl _) _).setCell (p:=⟨w.heap.size,3,none⟩) (Nat.le_refl _) _).setCell (p:=⟨w.heap.size,4,none⟩) (Nat.le_refl _) _
structure RowV where
 pt:Nat
 tx:ByteArray
 live:Nat
 sum:Int
 ev:Nat
def rowCells1(r:RowV):List Value:=[.int .i64 (r.pt:Int),.string r.tx,.int .i64 (r.live:Int),.int .i64 r.sum,.int .i64 (r.ev:Int)]
def rowCells(rs:List RowV):List Value:=rs.flatMap rowCells1
theorem Qb0(rs:List RowV):(rowCells rs).length=rs.length*5:=by
 induction rs with
 | nil=>rfl
 | cons r rs ih=>simp[rowCells,rowCells1]at ih ⊢;omega
theorem QaR(rs ts:List RowV):rowCells (rs++ts)=rowCells rs++rowCells ts:=by simp[rowCells]
theorem QbO:∀(rs:List RowV) (k:Nat) (h:k<rs.length) (j:Nat),j<5->(rowCells rs)[k*5+j]? =(rowCells1 rs[k])[j]?
 | r :: rs,0,_,j,hj=>by
  simp only[rowCells,List.flatMap_cons,Nat.zero_mul,Nat.zero_add,List.getElem_cons_zero]
  rw[List.getElem?_append_left (by simp[rowCells1];omega)]
 | r :: rs,k+1,h,j,hj=>by
  have ih:=QbO rs k (by simpa using h) j hj;simp only[rowCells,List.flatMap_cons,List.getElem_cons_succ]at ih ⊢;rw[List.getElem?_append_right (by simp[rowCells1];omega),<-ih];congr 1;simp[rowCells1];omega
def placeS(rs:List RowV)(p:Nat):Nat:=rs.findIdx (λr=>decide (r.pt=p))
theorem QcR(a:Option Addr)(c:Nat)(rs:List RowV)(p B:Nat)(w:World)(hlen:rs.length<=1000)(hown:w.ownsRow B 140 5 (.slice a rs.length c) rs.length (rowCells rs)):
  Calls Tryz.prog 70 #[.slice a rs.length c,.int .i64 (p:Int)] w λen w'=>en=.returned (.int .i64 (placeS rs p:Int))/\w'=w:=by
 have HO:Hid (w.ownsRow B 140 5 (.slice a rs.length c) rs.length (rowCells rs)):=hown;clear hown;go_enter Tryz.func70,Tryz.ntmps70;go_wp2
 go_loopw [5] (λi wr=>∃j:Nat,j<=rs.length/\i=.int .i64 (j:Int)/\(∀k (h:k<rs.length),k<j->¬rs[k].pt=p)/\wr=w) (λi _=>rs.length-(intOf i).toNat)
 case atStart=>exact⟨0,Nat.zero_le _,rfl,λ_ _ h=>absurd h (Nat.not_lt_zero _),rfl⟩
 case round=>
  obtain⟨j,hj,rfl,hno,rfl⟩:=hrel
  by_cases hjl:j<rs.length
  ·rcases Qai HO.out with⟨_,h0⟩ | ⟨g,rfl⟩
   ·omega
   have c0:=(HO.out.cellAt (j*5) omQ).trans (QbO rs j hjl 0 (by decide));have e0:(rowCells1 (rs[j]'hjl))[0]? =some (.int .i64 ((rs[j]'hjl).pt:Int)):=rfl;rw[e0]at c0;clear e0 HO;have hji:(j:Int)<(rs.length:Int):=omQ;have hj0:(0:Int)<=(j:Int):=omQ
   by_cases hp:(rs[j]'hjl).pt=p
   ·have hf:placeS rs p=j:=by
     unfold placeS;rw[List.findIdx_eq hjl];exact⟨by simp[hp],λk hk=>by simpa using hno k omQ hk⟩
    rw[hp]at c0;go_wp2;go_ret;exact⟨by rw[hf];rfl,rfl⟩
   ·have hpi:¬(((rs[j]'hjl).pt:Int)=(p:Int)):=omQ
    have hno':∀k (h:k<rs.length),k<j+1->¬rs[k].pt=p:=by
     intro k h hk
     by_cases e:k=j
     ·subst e;exact hp
     ·exact hno k h omQ
    generalize(rs[j]'hjl).pt=q at c0 hpi;go_wp2
    go_roundw
    case rel=>exact⟨j+1,by omega,by go_num,hno',by first | trivial | rfl⟩
    case measure=>simp[intOf];omega
  ·have hf:placeS rs p=rs.length:=by
    unfold placeS;rw[List.findIdx_eq_length];intro x hx;obtain⟨k,hk,rfl⟩:=List.getElem_of_mem hx
    simpa using hno k hk omQ
   go_wp2;go_ret;exact⟨by rw[hf];rfl,rfl⟩
def grp(key:ByteArray):Nat × ByteArray:=((ptS key 0).1,key.extract 0 (ptS key 0).2)
theorem Qnf(s:ByteArray)(h:0<s.size):(ptS s 0).2<=s.size:=by
 by_cases h0:(ptS s 0).2=0
 ·omega
 ·have:=((Qei s 0 0 h).2 h0).2;omega
theorem Qc6(key:ByteArray)(w:World)(h:0<key.size)(hs:key.size<=1000):
  Calls Tryz.prog 68 #[.string key] w λen w'=>en=.returned (.tuple #[.int .i64 ((grp key).1:Int),.string (grp key).2])/\∃m,w'=w.drewN m:=by
 have hP:=show Hid _ from λw=>QfQ key 0 w h omQ
 have hle:=Qnf key h;unfold grp;generalize ptS key 0=q at hP hle;obtain⟨q1,q2⟩:=q;simp only at hP hle ⊢;go_enter Tryz.func68,Tryz.ntmps68
 go_wp2_with(go_at_call 61;refine(hP.out _).mono ?_;rintro e w1 ⟨rfl,rfl⟩)
 go_quiet (fail)
 go_wp2
 go_ret2
 exact⟨rfl,nq,rfl⟩
end
end Go.Proofs.YthccpacmklhejabGreatDoor
