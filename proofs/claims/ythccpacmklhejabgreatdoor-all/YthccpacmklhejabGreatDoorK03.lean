import Derived.Test.YthccpacmklhejabGreatDoorTk
import Derived.Test.YthccpacmklhejabGreatDoorK02
import Derived.Lib.DecodeN
import Derived.Laws.RangeAny
import Derived.Deep.QuietTactic
import Derived.BigQuiet
import Derived.Deep.RegionHeld3
set_option maxHeartbeats 2000000
set_option maxRecDepth 100000
namespace Go.Proofs.YthccpacmklhejabGreatDoor
section
theorem get!_gb(s:ByteArray)(i:Nat):(s.get! i).toNat=gb s i:=by
 unfold gb
 cases s with
 | mk d=>
  simp[ByteArray.get!,List.getD_eq_getElem?_getD];rw[getElem!_def]
  cases d[i]? <;>rfl
theorem QaP(s:ByteArray)(pos:Nat)(h:pos<s.size):s.data.toList.drop pos=UInt8.ofNat (gb s pos) :: s.data.toList.drop (pos+1):=by
 rw[List.drop_eq_getElem_cons (by rw[Qam];exact h)];congr 1;rw[<-Qa6 s pos h];simp
 rfl
theorem Qbm{a b:Nat}(h:a=b):UInt8.ofNat a=UInt8.ofNat b:=by rw[h]
theorem Qe5(s:ByteArray)(pos:Nat)(h:pos<s.size):
  Utf8.decode s pos=(65533,1)\/
  ((Utf8.encode (Utf8.decode s pos).1).data.toList++s.data.toList.drop (pos+(Utf8.decode s pos).2)=s.data.toList.drop pos/\(Utf8.encode (Utf8.decode s pos).1).data.toList.length=(Utf8.decode s pos).2):=by
 have b0:=QaE s pos;have b1:=QaE s (pos+1);have b2:=QaE s (pos+2);have b3:=QaE s (pos+3);rw[Lib.decode_at];simp only[get!_gb];unfold Lib.decodeN
 by_cases c1:gb s pos<128
 ·right
  rw[if_pos c1];simp only
  have hv:Utf8.valid (gb s pos:Int)=true:=by simp[Utf8.valid];omega
  have e:(Utf8.encode (gb s pos:Int)).data.toList=[UInt8.ofNat (gb s pos)]:=by
   unfold Utf8.encode;simp only[hv,if_true];rw[if_pos omQ]
   rfl
  rw[e,QaP s pos h];simp
 rw[if_neg c1]
 by_cases c2:gb s pos / 32=6/\(1<s.size-pos/\gb s (pos+1) / 64=2)
 ·rw[if_pos c2];split
  ·right
   rename_i c3
   simp only;generalize hc:gb s pos % 32*64+gb s (pos+1) % 64=c at c3
   have hv:Utf8.valid (c:Int)=true:=by simp[Utf8.valid];omega
   have e:(Utf8.encode (c:Int)).data.toList=[UInt8.ofNat (gb s pos),UInt8.ofNat (gb s (pos+1))]:=by
    unfold Utf8.encode;simp only[hv,if_true,Int.toNat_natCast];rw[if_neg omQ,if_pos omQ];simp only;rw[Qbm (show 192+c / 64=gb s pos by omega),Qbm (show 128+c % 64=gb s (pos+1) by omega)]
   rw[e,QaP s pos h,QaP s (pos+1) omQ];simp
  ·left;rfl
 rw[if_neg c2]
 by_cases c4:gb s pos / 16=14/\(1<s.size-pos/\gb s (pos+1) / 64=2)/\(2<s.size-pos/\gb s (pos+2) / 64=2)
 ·rw[if_pos c4];split
  ·right
   rename_i c3
   simp only;generalize hc:gb s pos % 16*4096+gb s (pos+1) % 64*64+gb s (pos+2) % 64=c at c3
   have hv:Utf8.valid (c:Int)=true:=by simp[Utf8.valid];omega
   have e:(Utf8.encode (c:Int)).data.toList=[UInt8.ofNat (gb s pos),UInt8.ofNat (gb s (pos+1)),UInt8.ofNat (gb s (pos+2))]:=by
    unfold Utf8.encode;simp only[hv,if_true,Int.toNat_natCast];rw[if_neg omQ,if_neg omQ,if_pos omQ];simp only;rw[Qbm (show 224+c / 4096=gb s pos by omega),Qbm (show 128+c / 64 % 64=gb s (pos+1) by omega),Qbm (show 128+c % 64=gb s (pos+2) by omega)]
   rw[e,QaP s pos h,QaP s (pos+1) omQ,QaP s (pos+1+1) omQ];simp
  ·left;rfl
 rw[if_neg c4]
 by_cases c5:gb s pos / 8=30/\(1<s.size-pos/\gb s (pos+1) / 64=2)/\(2<s.size-pos/\gb s (pos+2) / 64=2)/\(3<s.size-pos/\gb s (pos+3) / 64=2)
 ·rw[if_pos c5];split
  ·right
   rename_i c3
   simp only;generalize hc:gb s pos % 8*262144+gb s (pos+1) % 64*4096+gb s (pos+2) % 64*64+gb s (pos+3) % 64=c at c3
   have hv:Utf8.valid (c:Int)=true:=by simp[Utf8.valid];omega
   have e:(Utf8.encode (c:Int)).data.toList=[UInt8.ofNat (gb s pos),UInt8.ofNat (gb s (pos+1)),UInt8.ofNat (gb s (pos+2)),UInt8.ofNat (gb s (pos+3))]:=by
    unfold Utf8.encode;simp only[hv,if_true,Int.toNat_natCast];rw[if_neg omQ,if_neg omQ,if_neg omQ];simp only;rw[Qbm (show 240+c / 262144=gb s pos by omega),Qbm (show 128+c / 4096 % 64=gb s (pos+1) by omega),Qbm (show 128+c / 64 % 64=gb s (pos+2) by omega),Qbm (show 128+c % 64=gb s (pos+3) by omega)]
   rw[e,QaP s pos h,QaP s (pos+1) omQ,QaP s (pos+1+1) omQ,QaP s (pos+1+1+1) omQ];simp
  ·left;rfl
 rw[if_neg c5]
 left;rfl
theorem QmB:(Utf8.encode ((65533:Nat):Int)).data.toList=[239,191,189]:=by decide
theorem wide(s:ByteArray)(pos:Nat)(h:pos<s.size):1<=(Utf8.decode s pos).2:=by
 by_cases ha:(s[pos]'h).toNat<128
 ·rw[decode_ascii s pos h ha];exact Nat.le_refl _
 ·exact(decode_high s pos h omQ).2
theorem QgE{s:ByteArray}{pos:Nat}{r:List UInt8}(h:s.data.toList.drop pos=[239,191,189]++r):repl s pos=true:=by
 have hl:=congrArg List.length h;rw[List.length_drop,Qam]at hl;simp at hl;have h3:pos+3<=s.size:=omQ;unfold repl;rw[decide_eq_true h3,Bool.true_and,beq_iff_eq,ByteArray.toList_eq,QaA,h];simp
theorem QhH{s:ByteArray}{pos:Nat}(h:repl s pos=true):Utf8.decode s pos=(65533,3):=by
 unfold repl at h;rw[Bool.and_eq_true,decide_eq_true_eq,beq_iff_eq,ByteArray.toList_eq,QaA]at h;obtain⟨h3,h⟩:=h;have e3:pos+3-pos=3:=omQ;rw[e3,QaP s pos omQ,QaP s (pos+1) omQ,QaP s (pos+1+1) omQ]at h;simp at h;have b0:=QaE s pos;have b1:=QaE s (pos+1);have b2:=QaE s (pos+2)
 have g0:gb s pos=239:=by have:=congrArg UInt8.toNat h.1;simp at this;omega
 have g1:gb s (pos+1)=191:=by have:=congrArg UInt8.toNat h.2.1;simp at this;omega
 have g2:gb s (pos+2)=189:=by have:=congrArg UInt8.toNat h.2.2;simp at this;have e2:pos+1+1=pos+2:=rfl;rw[e2]at this;omega
 rw[Lib.decode_at];simp only[get!_gb,g0,g1,g2];unfold Lib.decodeN;rw[if_neg omQ,if_neg omQ,if_pos omQ,if_pos omQ]
end
section
open Go.RowKit
theorem Qe6:∀(n:Nat) (l:List UInt8),l.length<=n->∃es r,l=recs es++r/\(∀e∈es,Good e)/\Stop r
 | 0,l,h=>⟨[],[],by simp at h;simp[recs,h],by simp,.inl rfl⟩
 | n+1,l,h=>by
  cases hf:firstS ⟨l.toArray⟩with
  | none=>exact⟨[],l,by simp[recs],by simp,.inr hf⟩
  | some x=>
   obtain⟨e,m⟩:=x;obtain⟨f1,f2,f3,f4,f5⟩:=Qc2 hf;simp at f3;have hp:=Qb7 e;obtain⟨es,r,h1,h2,h3⟩:=Qe6 n (l.drop m) (by rw[List.length_drop];omega);refine⟨e :: es,r,?_,?_,h3⟩
   ·rw[QfP,List.append_assoc,<-h1,f3,List.take_append_drop]
   ·intro x hx
    rcases List.mem_cons.1 hx with rfl | hx
    ·exact⟨f1,f2⟩
    ·exact h2 x hx
theorem QdT(s:ByteArray):∃es n,Parsed s es n:=by
 obtain⟨es,r,h1,h2,h3⟩:=Qe6 s.data.toList.length s.data.toList (Nat.le_refl _);refine⟨es,(recs es).length,h2,?_,?_,?_⟩
 ·rw[h1];simp
 ·rw[<-Qam,h1,List.length_append];omega
 ·rw[h1];simpa using h3
theorem Qai{w:World}{B n cap:Nat}{e:TypeId}{s:Nat}{a:Option Addr}{xs:List Value}(hown:w.ownsRow B e s (.slice a n cap) n xs):(a=none/\n=0)\/∃g,a=some ⟨g,0,none⟩:=by
 rcases hown.2 with⟨h,h0⟩ | ⟨g,cap',cur,h,_⟩
 ·simp at h;exact .inl ⟨h.1,h0⟩
 ·simp at h;exact .inr ⟨g,h.1⟩
theorem QbY:∀(es:List Ev) (k:Nat) (h:k<es.length),(evCells es)[k*4]? =some (.int .u8 ((es[k]).op:Int))/\(evCells es)[k*4+1]? =some (.string (es[k]).key)/\(evCells es)[k*4+2]? =some (.int .u16 ((es[k]).seq:Int))/\(evCells es)[k*4+3]? =some (.int .i16 (es[k]).val)
 | e :: es,0,_=>by simp[evCells,evCells1]
 | e :: es,k+1,h=>by
  have ih:=QbY es k (by simpa using h)
  have e1:evCells (e :: es)=evCells1 e++evCells es:=by simp[evCells]
  rw[e1];have l4:(evCells1 e).length=4:=rfl;refine⟨?_,?_,?_,?_⟩
  ·rw[List.getElem?_append_right omQ,l4,show(k+1)*4-4=k*4 from by omega];exact ih.1
  ·rw[List.getElem?_append_right omQ,l4,show(k+1)*4+1-4=k*4+1 from by omega];exact ih.2.1
  ·rw[List.getElem?_append_right omQ,l4,show(k+1)*4+2-4=k*4+2 from by omega];exact ih.2.2.1
  ·rw[List.getElem?_append_right omQ,l4,show(k+1)*4+3-4=k*4+3 from by omega];exact ih.2.2.2
theorem QcQ{w:World}{B g cap:Nat}{es:List Ev}(hown:w.ownsRow B 40 4 (.slice (some ⟨g,0,none⟩) es.length cap) es.length (evCells es))(k:Nat)(h:k<es.length):
  w.cell? ⟨g,k*4,none⟩=some (.int .u8 ((es[k]).op:Int))/\w.cell? ⟨g,k*4+1,none⟩=some (.string (es[k]).key)/\w.cell? ⟨g,k*4+2,none⟩=some (.int .u16 ((es[k]).seq:Int))/\w.cell? ⟨g,k*4+3,none⟩=some (.int .i16 (es[k]).val):=by
 have hc:=QbY es k h;exact⟨(hown.cellAt _ omQ).trans hc.1,(hown.cellAt _ omQ).trans hc.2.1,(hown.cellAt _ omQ).trans hc.2.2.1,(hown.cellAt _ omQ).trans hc.2.2.2⟩
theorem QgF(n:Int):(Utf8.encode n).size<=4:=by
 rw[<-Qam];unfold Utf8.encode;simp only;generalize(if Utf8.valid n=true then n.toNat else Utf8.runeError)=c;split
 ·simp
 ·split
  ·simp
  ·split<;>simp
def IsEvs(w:World)(a:Option Addr)(evs:List Ev):Prop:=
 (∀e∈evs,e.ok)/\(evs=[]\/∃b off,a=some ⟨b,off,none⟩/\b<w.heap.size/\∀k (h:k<evs.length),
  w.cell? ⟨b,off+k*4,none⟩=some (.int .u8 ((evs[k]).op:Int))/\w.cell? ⟨b,off+k*4+1,none⟩=some (.string (evs[k]).key)/\w.cell? ⟨b,off+k*4+2,none⟩=some (.int .u16 ((evs[k]).seq:Int))/\w.cell? ⟨b,off+k*4+3,none⟩=some (.int .i16 (evs[k]).val))
def tl(s:ByteArray)(i:Nat):Int:=if i<s.size/\128<=gb s i/\gb s i<=191 then(gb s i:Int)-128 else -1
theorem QeK(s:ByteArray)(j:Int)(i:Nat)(hj:j=i)(w:World):
  Calls Tryz.prog 87 #[.string s,.int .i64 j] w λe w'=>e=.returned (.int .i64 (tl s i))/\w=w':=by
 subst hj
 by_cases h:i<s.size
 ·have hg:=Qa6 s i h;have hb:=QaE s i;have hd:decide ((s.size:Int)<=(i:Int))=false:=decide_eq_false omQ
  by_cases h1:gb s i<128
  ·have e:tl s i=-1:=if_neg omQ;rw[e];clear e;generalize gb s i=x at hg hb h1;have hd1:decide ((x:Int)<128)=true:=decide_eq_true omQ;go_enter Tryz.func87,Tryz.ntmps87;go_wp2;go_ret;exact⟨rfl,rfl⟩
  by_cases h2:191<gb s i
  ·have e:tl s i=-1:=if_neg omQ;rw[e];clear e;generalize gb s i=x at hg hb h1 h2;have hd1:decide ((x:Int)<128)=false:=decide_eq_false omQ;have hd2:decide ((191:Int)<(x:Int))=true:=decide_eq_true omQ;go_enter Tryz.func87,Tryz.ntmps87;go_wp2;go_ret;exact⟨rfl,rfl⟩
  ·have e:tl s i=(gb s i:Int)-128:=if_pos ⟨h,by omega,by omega⟩;rw[e];clear e;generalize gb s i=x at hg hb h1 h2;have hd1:decide ((x:Int)<128)=false:=decide_eq_false omQ;have hd2:decide ((191:Int)<(x:Int))=false:=decide_eq_false omQ;go_enter Tryz.func87,Tryz.ntmps87;go_wp2;go_ret;exact⟨rfl,rfl⟩
 ·have e:tl s i=-1:=if_neg omQ;rw[e];clear e;have hd:decide ((s.size:Int)<=(i:Int))=true:=decide_eq_true omQ;go_enter Tryz.func87,Tryz.ntmps87;go_wp2;go_ret;exact⟨rfl,rfl⟩
def ptF(c a b d:Int):Int × Int:=
 if c<128 then(c,1)
 else if 194<=c/\c<=223/\0<=a then((c-192)*64+a,2)
 else if 224<=c/\c<=239/\0<=a/\0<=b then
  (if 2048<=(c-224)*4096+a*64+b/\((c-224)*4096+a*64+b<55296\/57343<(c-224)*4096+a*64+b)then((c-224)*4096+a*64+b,3)else(0,0))
 else if 240<=c/\c<=244/\0<=a/\0<=b/\0<=d then
  (if 65536<=(c-240)*262144+a*4096+b*64+d/\(c-240)*262144+a*4096+b*64+d<=1114111 then((c-240)*262144+a*4096+b*64+d,4)else(0,0))
 else(0,0)
theorem Qi0(s:ByteArray)(i x:Nat)(a b d:Int)(w:World)(h:i<s.size)(hs:s.size<=9223372036854775800)(hg:(s[i]'h).toNat=x)(hx:x<256)
  (ha:-1<=a) (ha':a<=63) (hb:-1<=b) (hb':b<=63) (hd:-1<=d) (hd':d<=63)
  (c1:Hid (∀w,Calls Tryz.prog 87 #[.string s,.int .i64 ((i:Int)+1)] w λe w'=>e=.returned (.int .i64 a)/\w=w'))
  (c2:Hid (∀w,Calls Tryz.prog 87 #[.string s,.int .i64 ((i:Int)+2)] w λe w'=>e=.returned (.int .i64 b)/\w=w'))
  (c3:Hid (∀w,Calls Tryz.prog 87 #[.string s,.int .i64 ((i:Int)+3)] w λe w'=>e=.returned (.int .i64 d)/\w=w')):
  Calls Tryz.prog 61 #[.string s,.int .i64 i] w λe w'=>e=.returned (.tuple #[.int .i64 (ptF x a b d).1,.int .i64 (ptF x a b d).2])/\w=w':=by
 by_cases h1:x<128
 ·have e:ptF x a b d=((x:Int),1):=by unfold ptF;rw[if_pos omQ]
  rw[e];clear e;go_enter Tryz.func61,Tryz.ntmps61
  go_wp2_with fail
  refine(c1.out _).mono ?_;rintro e w1 ⟨rfl,rfl⟩
  go_wp2_with fail
  refine(c2.out _).mono ?_;rintro e w1 ⟨rfl,rfl⟩
  go_wp2_with fail
  refine(c3.out _).mono ?_;rintro e w1 ⟨rfl,rfl⟩;go_wp2
  all_goals (go_ret2;exact⟨rfl,rfl⟩)
 by_cases h2:194<=(x:Int)/\(x:Int)<=223/\0<=a
 ·have e:ptF x a b d=(((x:Int)-192)*64+a,2):=by unfold ptF;rw[if_neg omQ,if_pos h2]
  rw[e];clear e;obtain⟨h3,h4,h5⟩:=h2;go_enter Tryz.func61,Tryz.ntmps61
  go_wp2_with fail
  refine(c1.out _).mono ?_;rintro e w1 ⟨rfl,rfl⟩
  go_wp2_with fail
  refine(c2.out _).mono ?_;rintro e w1 ⟨rfl,rfl⟩
  go_wp2_with fail
  refine(c3.out _).mono ?_;rintro e w1 ⟨rfl,rfl⟩;go_wp2
  all_goals (go_ret2;exact⟨rfl,rfl⟩)
 by_cases h3:224<=(x:Int)/\(x:Int)<=239/\0<=a/\0<=b
 ·by_cases hq:2048<=((x:Int)-224)*4096+a*64+b/\(((x:Int)-224)*4096+a*64+b<55296\/57343<((x:Int)-224)*4096+a*64+b)
  ·have e:ptF x a b d=(((x:Int)-224)*4096+a*64+b,3):=by unfold ptF;rw[if_neg omQ,if_neg h2,if_pos h3,if_pos hq]
   rw[e];clear e h2;obtain⟨g1,g2,g3,g4⟩:=h3;obtain⟨g5,g6 | g6⟩:=hq
   ·skip
    go_enter Tryz.func61,Tryz.ntmps61
    go_wp2_with fail
    refine(c1.out _).mono ?_;rintro e w1 ⟨rfl,rfl⟩
    go_wp2_with fail
    refine(c2.out _).mono ?_;rintro e w1 ⟨rfl,rfl⟩
    go_wp2_with fail
    refine(c3.out _).mono ?_;rintro e w1 ⟨rfl,rfl⟩;go_wp2
    all_goals (go_ret2;exact⟨rfl,rfl⟩)
   ·skip
    go_enter Tryz.func61,Tryz.ntmps61
    go_wp2_with fail
    refine(c1.out _).mono ?_;rintro e w1 ⟨rfl,rfl⟩
    go_wp2_with fail
    refine(c2.out _).mono ?_;rintro e w1 ⟨rfl,rfl⟩
    go_wp2_with fail
    refine(c3.out _).mono ?_;rintro e w1 ⟨rfl,rfl⟩;go_wp2
    all_goals (go_ret2;exact⟨rfl,rfl⟩)
  ·have e:ptF x a b d=(0,0):=by unfold ptF;rw[if_neg omQ,if_neg h2,if_pos h3,if_neg hq]
   rw[e];clear e h2;obtain⟨g1,g2,g3,g4⟩:=h3
   rcases(show((x:Int)-224)*4096+a*64+b<2048\/(55296<=((x:Int)-224)*4096+a*64+b/\((x:Int)-224)*4096+a*64+b<=57343) by omega)with g5 | ⟨g5,g6⟩
   ·clear hq;go_enter Tryz.func61,Tryz.ntmps61
    go_wp2_with fail
    refine(c1.out _).mono ?_;rintro e w1 ⟨rfl,rfl⟩
    go_wp2_with fail
    refine(c2.out _).mono ?_;rintro e w1 ⟨rfl,rfl⟩
    go_wp2_with fail
    refine(c3.out _).mono ?_;rintro e w1 ⟨rfl,rfl⟩;go_wp2
    all_goals (go_ret2;exact⟨rfl,rfl⟩)
   ·clear hq;go_enter Tryz.func61,Tryz.ntmps61
    go_wp2_with fail
    refine(c1.out _).mono ?_;rintro e w1 ⟨rfl,rfl⟩
    go_wp2_with fail
    refine(c2.out _).mono ?_;rintro e w1 ⟨rfl,rfl⟩
    go_wp2_with fail
    refine(c3.out _).mono ?_;rintro e w1 ⟨rfl,rfl⟩;go_wp2
    all_goals (go_ret2;exact⟨rfl,rfl⟩)
 by_cases h4:240<=(x:Int)/\(x:Int)<=244/\0<=a/\0<=b/\0<=d
 ·by_cases hq:65536<=((x:Int)-240)*262144+a*4096+b*64+d/\((x:Int)-240)*262144+a*4096+b*64+d<=1114111
  ·have e:ptF x a b d=(((x:Int)-240)*262144+a*4096+b*64+d,4):=by unfold ptF;rw[if_neg omQ,if_neg h2,if_neg h3,if_pos h4,if_pos hq]
   rw[e];clear e h2 h3;obtain⟨g1,g2,g3,g4,g5⟩:=h4;obtain⟨g6,g7⟩:=hq;go_enter Tryz.func61,Tryz.ntmps61
   go_wp2_with fail
   refine(c1.out _).mono ?_;rintro e w1 ⟨rfl,rfl⟩
   go_wp2_with fail
   refine(c2.out _).mono ?_;rintro e w1 ⟨rfl,rfl⟩
   go_wp2_with fail
   refine(c3.out _).mono ?_;rintro e w1 ⟨rfl,rfl⟩;go_wp2
   all_goals (go_ret2;exact⟨rfl,rfl⟩)
  ·have e:ptF x a b d=(0,0):=by unfold ptF;rw[if_neg omQ,if_neg h2,if_neg h3,if_pos h4,if_neg hq]
   rw[e];clear e h2 h3;obtain⟨g1,g2,g3,g4,g5⟩:=h4
   rcases(show((x:Int)-240)*262144+a*4096+b*64+d<65536\/1114111<((x:Int)-240)*262144+a*4096+b*64+d by omega)with g6 | g6
   ·clear hq;go_enter Tryz.func61,Tryz.ntmps61
    go_wp2_with fail
    refine(c1.out _).mono ?_;rintro e w1 ⟨rfl,rfl⟩
    go_wp2_with fail
    refine(c2.out _).mono ?_;rintro e w1 ⟨rfl,rfl⟩
    go_wp2_with fail
    refine(c3.out _).mono ?_;rintro e w1 ⟨rfl,rfl⟩;go_wp2
    all_goals (go_ret2;exact⟨rfl,rfl⟩)
   ·clear hq;go_enter Tryz.func61,Tryz.ntmps61
    go_wp2_with fail
    refine(c1.out _).mono ?_;rintro e w1 ⟨rfl,rfl⟩
    go_wp2_with fail
    refine(c2.out _).mono ?_;rintro e w1 ⟨rfl,rfl⟩
    go_wp2_with fail
    refine(c3.out _).mono ?_;rintro e w1 ⟨rfl,rfl⟩;go_wp2
    all_goals (go_ret2;exact⟨rfl,rfl⟩)
 ·have e:ptF x a b d=(0,0):=by unfold ptF;rw[if_neg omQ,if_neg h2,if_neg h3,if_neg h4]
  rw[e];clear e;go_enter Tryz.func61,Tryz.ntmps61
  go_wp2_with fail
  refine(c1.out _).mono ?_;rintro e w1 ⟨rfl,rfl⟩
  go_wp2_with fail
  refine(c2.out _).mono ?_;rintro e w1 ⟨rfl,rfl⟩
  go_wp2_with fail
  refine(c3.out _).mono ?_;rintro e w1 ⟨rfl,rfl⟩;go_wp2
  all_goals (go_ret2;exact⟨rfl,rfl⟩)
theorem Qdz(s:ByteArray)(i:Nat):(i<s.size/\gb s i / 64=2/\tl s i=(gb s i:Int)-128/\128<=gb s i/\gb s i<=191)\/(¬(i<s.size/\gb s i / 64=2)/\tl s i=-1):=by
 have hb:=QaE s i;unfold tl
 by_cases h:i<s.size/\128<=gb s i/\gb s i<=191
 ·left;rw[if_pos h];exact⟨h.1,by omega,rfl,h.2.1,h.2.2⟩
 ·right;rw[if_neg h];exact⟨by omega,rfl⟩
theorem QdX(s:ByteArray)(i:Nat):-1<=tl s i/\tl s i<=63:=by
 rcases Qdz s i with⟨_,_,h,_,_⟩ | ⟨_,h⟩<;>omega
def ptS(s:ByteArray)(i:Nat):Nat × Nat:=if Utf8.decode s i=(65533,1)then(0,0)else Utf8.decode s i
theorem Qi1(s:ByteArray)(i:Nat):ptF (gb s i) (tl s (i+1)) (tl s (i+2)) (tl s (i+3))=(((ptS s i).1:Int),((ptS s i).2:Int)):=by
 have b0:=QaE s i;unfold ptS;rw[Lib.decode_at];simp only[get!_gb];have h1:=Qdz s (i+1);have h2:=Qdz s (i+2);have h3:=Qdz s (i+3);generalize tl s (i+1)=a at h1;generalize tl s (i+2)=b at h2;generalize tl s (i+3)=d at h3;generalize gb s i=c at b0;generalize gb s (i+1)=x1 at h1;generalize gb s (i+2)=x2 at h2;generalize gb s (i+3)=x3 at h3;have q1:(1<s.size-i)=(i+1<s.size):=propext ⟨λh=>by omega,λh=>by omega⟩;have q2:(2<s.size-i)=(i+2<s.size):=propext ⟨λh=>by omega,λh=>by omega⟩;have q3:(3<s.size-i)=(i+3<s.size):=propext ⟨λh=>by omega,λh=>by omega⟩;unfold Lib.decodeN;simp only[q1,q2,q3];clear q1 q2 q3;unfold ptF
 by_cases c1:c<128
 ·rw[if_pos omQ,if_pos c1,if_neg (by simp;omega)]
  rfl
 rw[if_neg omQ,if_neg c1]
 by_cases c2:c / 32=6/\(i+1<s.size/\x1 / 64=2)
 ·rcases h1 with⟨_,_,ea,_,_⟩ | ⟨hn,_⟩
  ·rw[if_pos c2]
   by_cases c3:c % 32*64+x1 % 64≥128
   ·rw[if_pos omQ,if_pos c3,if_neg (by simp)];simp only[Prod.mk.injEq];omega
   ·rw[if_neg omQ,if_neg omQ,if_neg omQ,if_neg c3,if_pos rfl]
    rfl
  ·exact absurd c2.2 hn
 rw[if_neg c2]
 by_cases c4:c / 16=14/\(i+1<s.size/\x1 / 64=2)/\(i+2<s.size/\x2 / 64=2)
 ·rcases h1 with⟨_,_,ea,_,_⟩ | ⟨hn,_⟩
  ·rcases h2 with⟨_,_,eb,_,_⟩ | ⟨hn,_⟩
   ·rw[if_pos c4,if_neg omQ,if_pos omQ]
    by_cases c5:c % 16*4096+x1 % 64*64+x2 % 64≥2048/\(c % 16*4096+x1 % 64*64+x2 % 64<55296\/(57344<=c % 16*4096+x1 % 64*64+x2 % 64/\c % 16*4096+x1 % 64*64+x2 % 64<=1114111))
    ·rw[if_pos c5,if_pos omQ,if_neg (by simp)];simp only[Prod.mk.injEq];omega
    ·rw[if_neg c5,if_neg omQ,if_pos rfl]
     rfl
   ·exact absurd c4.2.2 hn
  ·exact absurd c4.2.1 hn
 rw[if_neg c4]
 by_cases c6:c / 8=30/\(i+1<s.size/\x1 / 64=2)/\(i+2<s.size/\x2 / 64=2)/\(i+3<s.size/\x3 / 64=2)
 ·rcases h1 with⟨_,_,ea,_,_⟩ | ⟨hn,_⟩
  ·rcases h2 with⟨_,_,eb,_,_⟩ | ⟨hn,_⟩
   ·rcases h3 with⟨_,_,ed,_,_⟩ | ⟨hn,_⟩
    ·rw[if_pos c6]
     by_cases c7:c % 8*262144+x1 % 64*4096+x2 % 64*64+x3 % 64≥65536/\(c % 8*262144+x1 % 64*4096+x2 % 64*64+x3 % 64<55296\/(57344<=c % 8*262144+x1 % 64*4096+x2 % 64*64+x3 % 64/\c % 8*262144+x1 % 64*4096+x2 % 64*64+x3 % 64<=1114111))
     ·rw[if_pos c7,if_neg omQ,if_neg omQ,if_pos omQ,if_pos omQ,if_neg (by simp)];simp only[Prod.mk.injEq];omega
     ·rw[if_neg c7,if_pos rfl,if_neg omQ,if_neg omQ]
      by_cases c8:c<=244
      ·rw[if_pos omQ,if_neg omQ];rfl
      ·rw[if_neg omQ];rfl
    ·exact absurd c6.2.2.2 hn
   ·exact absurd c6.2.2.1 hn
  ·exact absurd c6.2.1 hn
 rw[if_neg c6,if_pos rfl]
 rcases h1 with⟨p1,y1,ea,_,_⟩ | ⟨hn1,e1⟩
 ·rw[if_neg (λh=>c2 ⟨by omega,p1,y1⟩)]
  rcases h2 with⟨p2,y2,eb,_,_⟩ | ⟨hn2,e2⟩
  ·rw[if_neg (λh=>c4 ⟨by omega,⟨p1,y1⟩,⟨p2,y2⟩⟩)]
   rcases h3 with⟨p3,y3,ed,_,_⟩ | ⟨hn3,e3⟩
   ·rw[if_neg (λh=>c6 ⟨by omega,⟨p1,y1⟩,⟨p2,y2⟩,⟨p3,y3⟩⟩)]
    rfl
   ·rw[if_neg omQ];rfl
  ·rw[if_neg omQ,if_neg omQ];rfl
 ·rw[if_neg omQ,if_neg omQ,if_neg omQ];rfl
theorem QfQ(s:ByteArray)(i:Nat)(w:World)(h:i<s.size)(hs:s.size<=9223372036854775800):
  Calls Tryz.prog 61 #[.string s,.int .i64 i] w λe w'=>e=.returned (.tuple #[.int .i64 (ptS s i).1,.int .i64 (ptS s i).2])/\w=w':=by
 have t1:=QdX s (i+1);have t2:=QdX s (i+2);have t3:=QdX s (i+3)
 have:=Qi0 s i (gb s i) (tl s (i+1)) (tl s (i+2)) (tl s (i+3)) w h hs (Qa6 s i h) (QaE s i) t1.1 t1.2 t2.1 t2.2 t3.1 t3.2
  (λw=>QeK s _ (i+1) omQ w) (λw=>QeK s _ (i+2) omQ w) (λw=>QeK s _ (i+3) omQ w)
 rw[Qi1]at this;exact this
theorem Qei(s:ByteArray)(f pos:Nat)(hp:pos<s.size):((ptS s pos).2=0->okFrom s (f+1) pos=false)/\
  ((ptS s pos).2≠0->okFrom s (f+1) pos=okFrom s f (pos+(ptS s pos).2)/\pos+(ptS s pos).2<=s.size):=by
 have hw:=wide s pos hp;unfold ptS
 by_cases hb:Utf8.decode s pos=(65533,1)
 ·rw[if_pos hb];refine⟨λ_=>?_,λh=>absurd rfl h⟩;simp only[okFrom,if_pos hp];rw[if_pos];refine⟨by rw[hb],?_⟩
  cases hr:repl s pos with
  | false=>rfl
  | true=>rw[QhH hr]at hb;simp at hb
 ·rw[if_neg hb];refine⟨λh=>by omega,λ_=>?_⟩
  rcases Qe5 s pos hp with hbad | ⟨ht,hl⟩
  ·exact absurd hbad hb
  ·refine⟨?_,?_⟩
   ·simp only[okFrom,if_pos hp];rw[if_neg];rintro⟨h1,h2⟩;rw[h1,QmB]at ht;rw[QgE ht.symm]at h2;cases h2
   ·have:=congrArg List.length ht;rw[List.length_append,hl,List.length_drop,List.length_drop,Qam]at this;omega
theorem Qkk(s:ByteArray)(w:World)(hs:s.size<=9223372036854775800):
  Calls Tryz.prog 37 #[.string s] w λe w'=>e=.returned (.bool (validB s))/\w=w':=by
 go_enter Tryz.func37,Tryz.ntmps37;go_wp2
 go_loop [3] (λi=>∃(pos fuel:Nat),i=.int .i64 (pos:Int)/\Hid (okFrom s fuel pos=okFrom s s.size 0)/\s.size<=pos+fuel/\pos<=s.size) (λi=>s.size-(intOf i).toNat)
 case atStart=>exact⟨0,s.size,rfl,rfl,by omega,by omega⟩
 case round=>
  obtain⟨pos,fuel,rfl,hacc,hfu,hps⟩:=hrel
  by_cases hp:pos<s.size
  ·obtain⟨f,rfl⟩:∃f,fuel=f+1:=⟨fuel-1,by omega⟩
   have hst:=Qei s f pos hp
   have hP:=show Hid _ from λw=>QfQ s pos w hp hs
   generalize ptS s pos=q at hst hP;obtain⟨c,wd⟩:=q;simp only at hst hP
   by_cases h0:wd=0
   ·have Hr:=show Hid (validB s=false)from by
     have h1:=hst.1 h0;rw[hacc.out]at h1
     show validB s=false
     simp[validB,h1]
    subst h0;clear hst hacc
    go_wp2_with(go_at_call 61;refine(hP.out _).mono ?_;rintro e w' ⟨rfl,rfl⟩)
    go_ret;exact⟨by rw[Hr.out];rfl,rfl⟩
   ·obtain⟨h1,h2⟩:=hst.2 h0
    have Ha:=show Hid (okFrom s f (pos+wd)=okFrom s s.size 0)from by
     show _=_
     rw[<-h1,hacc.out]
    have hz:((wd:Int)==0)=false:=by rw[beq_eq_false_iff_ne];omega
    clear hst hacc h1
    go_wp2_with(go_at_call 61;refine(hP.out _).mono ?_;rintro e w' ⟨rfl,rfl⟩)
    go_round
    case rel=>exact⟨pos+wd,f,by go_num,Ha,by omega,h2⟩
    case measure=>simp[intOf];omega
  ·have hk:okFrom s s.size 0=true:=by rw[<-hacc.out,Qe2 s fuel pos hp]
   have Hr:=show Hid (validB s=(decide (1<=s.size) && decide (s.size<=8)))from by
    show validB s=_
    simp[validB,hk]
   clear hk hacc
   by_cases z1:1<=s.size
   ·have d1:decide ((1:Int)<=(s.size:Int))=true:=decide_eq_true omQ
    by_cases z8:s.size<=8
    ·have d8:decide ((s.size:Int)<=8)=true:=decide_eq_true omQ
     have HR:=show Hid (validB s=true)from by show _=_;rw[Hr.out];simp[z1,z8]
     go_wp2;go_ret;exact⟨by rw[HR.out];rfl,rfl⟩
    ·have d8:decide ((s.size:Int)<=8)=false:=decide_eq_false omQ
     have HR:=show Hid (validB s=false)from by show _=_;rw[Hr.out];simp[z8]
     go_wp2;go_ret;exact⟨by rw[HR.out];rfl,rfl⟩
   ·have d1:decide ((1:Int)<=(s.size:Int))=false:=decide_eq_false omQ
    have HR:=show Hid (validB s=false)from by show _=_;rw[Hr.out];simp[z1]
    go_wp2;go_ret;exact⟨by rw[HR.out];rfl,rfl⟩
def byteOf(x:Int):UInt8:=UInt8.ofNat x.toNat
theorem Qe7{W:World}{B n c:Nat}(l:List UInt8)(hn:l.length=n)(h:∀j (hj:j<l.length),W.cell? ⟨B,j,none⟩=some (.int .u8 (l[j].toNat:Int))):
  (convert 131 9 (.slice (some ⟨B,0,none⟩) n c)).run Tryz.prog W=.ok (.string ⟨l.toArray⟩) W:=by
 subst hn;refine run_convert_bytes_back W 131 9 5 ⟨B,0,none⟩ c l Tryz.underlying131 Tryz.underlying5 Tryz.underlying9 ?_;intro j hj
 have e:(⟨B,0,none⟩:Addr).add j=⟨B,j,none⟩:=by unfold Addr.add;split<;>simp_all
 rw[e];exact h j hj
theorem QbE{W:World}{B c:Nat}{x y:Int}(hx0:0<=x)(hx:x<256)(hy0:0<=y)(hy:y<256)(h0:W.cell? ⟨B,0,none⟩=some (.int .u8 x))(h1:W.cell? ⟨B,1,none⟩=some (.int .u8 y)):
  (convert 131 9 (.slice (some ⟨B,0,none⟩) 2 c)).run Tryz.prog W=.ok (.string ⟨#[byteOf x,byteOf y]⟩) W:=by
 refine Qe7 [byteOf x,byteOf y] rfl ?_;intro j hj
 match j,hj with
 | 0,_=>rw[h0];simp[byteOf];omega
 | 1,_=>rw[h1];simp[byteOf];omega
theorem QlF{W:World}{B c:Nat}{x:Int}(hx0:0<=x)(hx:x<256)(h0:W.cell? ⟨B,0,none⟩=some (.int .u8 x)):
  (convert 131 9 (.slice (some ⟨B,0,none⟩) 1 c)).run Tryz.prog W=.ok (.string ⟨#[byteOf x]⟩) W:=by
 refine Qe7 [byteOf x] rfl ?_;intro j hj
 match j,hj with
 | 0,_=>rw[h0];simp[byteOf];omega
def twoB(v:Nat):ByteArray:=⟨#[UInt8.ofNat (v / 256),UInt8.ofNat (v % 256)]⟩
theorem Qdl(n:Int)(w:World)(h1:-32768<=n)(h2:n<=65535):
  Calls Tryz.prog 62 #[.int .i64 n] w λe w'=>e=.returned (.string (twoB (u16 n)))/\Below w.heap.size w w':=by
 by_cases h:n<0
 ·have hq:(n+65536) / 256<256:=omQ;have hc:=QbE (W:=w.alloc (.cells #[.int .u8 ((n+65536) / 256),.int .u8 ((n+65536) % 256)] 5)) (B:=w.heap.size) (c:=2) (x:=(n+65536) / 256) (y:=(n+65536) % 256) omQ omQ omQ omQ (by simp) (by simp)
  have e:(⟨#[byteOf ((n+65536) / 256),byteOf ((n+65536) % 256)]⟩:ByteArray)=twoB (u16 n):=by
   unfold twoB byteOf u16;rw[show((n+65536) / 256).toNat=(n % 65536).toNat / 256 from by omega,show((n+65536) % 256).toNat=(n % 65536).toNat % 256 from by omega]
  rw[e]at hc;clear e;go_enter Tryz.func62,Tryz.ntmps62;go_wp2;go_ret;exact⟨rfl,(Below.refl _ _).alloc (Nat.le_refl _) _⟩
 ·have hc:=QbE (W:=w.alloc (.cells #[.int .u8 (n / 256),.int .u8 (n % 256)] 5)) (B:=w.heap.size) (c:=2) (x:=n / 256) (y:=n % 256) omQ omQ omQ omQ (by simp) (by simp)
  have e:(⟨#[byteOf (n / 256),byteOf (n % 256)]⟩:ByteArray)=twoB (u16 n):=by
   unfold twoB byteOf u16;rw[show(n / 256).toNat=(n % 65536).toNat / 256 from by omega,show(n % 256).toNat=(n % 65536).toNat % 256 from by omega]
  rw[e]at hc;clear e;go_enter Tryz.func62,Tryz.ntmps62;go_wp2;go_ret;exact⟨rfl,(Below.refl _ _).alloc (Nat.le_refl _) _⟩
theorem Qkl(l:List UInt8)(b:UInt8):((l++[b]).map UInt8.toNat).sum=(l.map UInt8.toNat).sum+b.toNat:=by simp
theorem QmC(l:List UInt8):(l.map UInt8.toNat).sum<=255*l.length:=by
 induction l with
 | nil=>simp
 | cons a l ih=>have:=a.toNat_lt;simp;omega
theorem Qb8(s:ByteArray)(w:World)(hs:s.size<=1000):
  Calls Tryz.prog 63 #[.string s] w λe w'=>e=.returned (.string ⟨#[UInt8.ofNat (sumB s.data.toList)]⟩)/\Below w.heap.size w w':=by
 go_enter Tryz.func63,Tryz.ntmps63;go_wp2
 go_loop [3,4] (λt i=>∃k:Nat,k<=s.size/\i=.int .i64 (k:Int)/\t=.int .i64 (((s.data.toList.take k).map UInt8.toNat).sum:Int)) (λ_ i=>s.size-(intOf i).toNat)
 case atStart=>exact⟨0,Nat.zero_le _,rfl,rfl⟩
 case round=>
  obtain⟨k,hk,rfl,rfl⟩:=hrel;have hsm:=QmC (s.data.toList.take k);rw[List.length_take]at hsm
  by_cases hlt:k<s.size
  ·have hl:k<s.data.toList.length:=by rw[Qam];exact hlt
   have HS:=show Hid (((s.data.toList.take (k+1)).map UInt8.toNat).sum=((s.data.toList.take k).map UInt8.toNat).sum+(s[k]'hlt).toNat)from by
    show _=_
    rw[<-List.take_append_getElem hl,Qkl]
    rfl
   have hb:=(s[k]'hlt).toNat_lt;generalize((s.data.toList.take k).map UInt8.toNat).sum=q at hsm HS;go_wp2
   go_round
   case rel=>exact⟨k+1,by omega,by go_num,by rw[HS.out];go_num⟩
   case measure=>simp[intOf];omega
  ·have HS:=show Hid (sumB s.data.toList=((s.data.toList.take k).map UInt8.toNat).sum % 256)from by
    show _=_
    rw[List.take_of_length_le (by rw[Qam];omega)]
    rfl
   generalize((s.data.toList.take k).map UInt8.toNat).sum=q at hsm HS;have hc:=QlF (W:=w.alloc (.cells #[.int .u8 ((q:Int) % 256)] 5)) (B:=w.heap.size) (c:=1) (x:=(q:Int) % 256) omQ omQ (by simp)
   have e:byteOf ((q:Int) % 256)=UInt8.ofNat (sumB s.data.toList):=by
    unfold byteOf;rw[HS.out,show((q:Int) % 256).toNat=q % 256 from by omega]
   rw[e]at hc;clear e;go_wp2;go_ret;exact⟨rfl,(Below.refl _ _).alloc (Nat.le_refl _) _⟩
end
end Go.Proofs.YthccpacmklhejabGreatDoor
