import Derived.Test.YthccpacmklhejabGreatDoorTk
import Derived.Test.YthccpacmklhejabGreatDoorK26
import Derived.Test.YthccpacmklhejabGreatDoorK08
import Derived.Deep.AppendSrc
import Derived.Deep.MidRow
import Derived.Deep.Upon
set_option maxRecDepth 4000
namespace Go.Proofs.YthccpacmklhejabGreatDoor
section
open Go.RowKit
theorem AdderM.openC(a:AdderM)(W:Nat)(hp:a.pipes.length=W)(hs:a.stopped.length=W):
  (a.take W=none/\∀(q:Nat) (p:List ChgM),a.pipes[q]? =some p->∀b,a.stopped[q]? =some b->b=true\/p=[])\/
  ∃c rest,a.pipes[a.firstOpen]? =some (c :: rest)/\a.stopped[a.firstOpen]? =some false/\a.firstOpen<W/\
   ∀(q:Nat),q<a.firstOpen->∀(p:List ChgM),a.pipes[q]? =some p->∀b,a.stopped[q]? =some b->b=true\/p=[]:=by
 have hz:(a.stopped.zip a.pipes).length=W:=by simp[hp,hs]
 have closed:∀(q:Nat),q<a.firstOpen->∀(p:List ChgM),a.pipes[q]? =some p->∀b,a.stopped[q]? =some b->b=true\/p=[]:=λq hq p h1 b h2=>by
  obtain⟨l1,e1⟩:=List.getElem?_eq_some_iff.1 h1;obtain⟨l2,e2⟩:=List.getElem?_eq_some_iff.1 h2;have:=List.not_of_lt_findIdx (p:=λx:Bool × List ChgM=>!x.1 && !x.2.isEmpty) (xs:=a.stopped.zip a.pipes) (i:=q) hq;simp only[List.getElem_zip,e1,e2]at this
  cases b with
  | true=>exact .inl rfl
  | false=>
   have h5:p.isEmpty=true:=by simpa using this
   exact .inr (List.isEmpty_iff.1 h5)
 by_cases hlt:a.firstOpen<W
 ·have h1:a.firstOpen<a.pipes.length:=omQ;have h2:a.firstOpen<a.stopped.length:=omQ;have hf:=List.findIdx_getElem (p:=λx:Bool × List ChgM=>!x.1 && !x.2.isEmpty) (xs:=a.stopped.zip a.pipes) (w:=by show a.firstOpen<_;omega);simp only[List.getElem_zip,Bool.and_eq_true,Bool.not_eq_true']at hf;have hf1:a.stopped[a.firstOpen]=false:=hf.1;have hf2:(a.pipes[a.firstOpen]).isEmpty=false:=hf.2;refine .inr ?_
  cases hpp:a.pipes[a.firstOpen]with
  | nil=>rw[hpp]at hf2;cases hf2
  | cons c rest=>exact⟨c,rest,by rw[List.getElem?_eq_getElem h1,hpp],by rw[List.getElem?_eq_getElem h2,hf1],hlt,closed⟩
 ·refine .inl ⟨?_,λq p h1 b h2=>closed q (by have:=(List.getElem?_eq_some_iff.1 h1).1;omega) p h1 b h2⟩;unfold AdderM.take;rw[List.getElem?_eq_none omQ]
section
variable {F:Fx} {X:Nat->Prop} {w:World} {m:CM} {j:JobM}
theorem Abs.blocked(h:Abs m j){k:Nat}{a:AdderM}(ha:j.adders[k]? =some a){q:Nat}(hq:q<j.width)(hb:∀(p:List ChgM),a.pipes[q]? =some p->∀b,a.stopped[q]? =some b->b=true\/p=[]):m.st k q=true\/m.ap k q=[]:=by
 have o:=h.flow.adders k a ha;have hp:a.pipes[q]? =some (a.pipes[q]'(by rw[o.lenP];exact hq)):=List.getElem?_eq_getElem _;have hs:a.stopped[q]? =some (a.stopped[q]'(by rw[o.lenS];exact hq)):=List.getElem?_eq_getElem _
 rcases hb _ hp _ hs with e | e
 ·exact .inl ((h.st k a ha q _ hs).trans e)
 ·refine .inr ?_;rw[h.ap k a ha q _ hp,e]
  rfl
theorem QkV(h:Abs m j){k:Nat}{a:AdderM}(ha:j.adders[k]? =some a):a.marked<=a.got.length:=by
 have o:=h.flow.adders k a ha
 by_cases hp:j.fl=true->a.passed=false
 ·rw[o.still hp];exact o.kept_le
 ·have h1:j.fl=true:=Classical.byContradiction λy=>hp λz=>absurd z y
  have h2:a.passed=true:=by
   cases hh:a.passed with
   | true=>rfl
   | false=>exact absurd (λ_=>hh) hp
  exact(o.mark h1 h2).2.1
theorem QiX{l:List AdderM}{k:Nat}{a a':AdderM}(ha:l[k]? =some a)(hk:keyA a'=keyA a)(x:Nat):((l.set k a')[x]?).map keyA=(l[x]?).map keyA:=by
 by_cases e:x=k
 ·subst e;rw[List.getElem?_set_self (List.getElem?_eq_some_iff.1 ha).1,ha];simp[hk]
 ·rw[List.getElem?_set_ne (λy=>e y.symm)]
theorem QmX(h:Abs m j){k:Nat}{a:AdderM}(ha:j.adders[k]? =some a){c:ChgM}{rest:List ChgM}(hp:a.pipes[a.firstOpen]? =some (c :: rest))(hc:0<=c.pt):Abs {m with ap:=updF2 m.ap k a.firstOpen (rest.map itA),tb:=updF m.tb k (addX c.pt.toNat c.live (wrap16 c.delta) (m.tb k))} {j with adders:=j.adders.set k {a with pipes:=a.pipes.set a.firstOpen rest,got:=a.got++[c]}}:=by
 have hfl:=QcU h.flow k;have hop:=Qd8 h.flow h.opn k
 have ht:a.take j.width=some {a with pipes:=a.pipes.set a.firstOpen rest,got:=a.got++[c]}:=by
  unfold AdderM.take;simp only[hp,if_pos hc]
 have hs2:j.adds k=(0,{j with adders:=j.adders.set k {a with pipes:=a.pipes.set a.firstOpen rest,got:=a.got++[c]}}):=by
  unfold JobM.adds;simp only[ha,ht]
 rw[hs2]at hfl hop;have hml:=QkV h ha
 have hk:keyA {a with pipes:=a.pipes.set a.firstOpen rest,got:=a.got++[c]}=keyA a:=by
  unfold keyA;simp only;rw[List.take_append_of_le_length hml]
 refine⟨h.W,h.R,h.w4,h.r4,h.evs,h.len,h.ev,hfl,hop,h.sent,h.sp,h.spl,λk' a' ha' q p hq=>?_,λk' a' ha' q p hq=>?_,λk' a' ha' q b hq=>?_,λk' a' ha'=>?_,h.state,h.off,?_,h.ready.congr rfl rfl (λx=>QiX ha hk x),h.last,h.view,h.offset⟩
 ·show updF2 m.ap k a.firstOpen (rest.map itA) k' q=_
  rcases Qal ha' with⟨e1,e2,_⟩ | ⟨e1,e2⟩
  ·subst e1;subst e2
   rcases Qal hq with⟨d1,d2,_⟩ | ⟨d1,d2⟩
   ·subst d1;subst d2;rw[Qbc]
   ·rw[QaK (.inr d1)];exact h.ap _ a ha q p d2
  ·rw[QaK (.inl e1)];exact h.ap k' a' e2 q p hq
 ·rcases Qal ha' with⟨e1,e2,_⟩ | ⟨e1,e2⟩
  ·subst e1;subst e2
   rcases Qal hq with⟨d1,d2,_⟩ | ⟨d1,d2⟩
   ·subst d2;have:=h.apl _ a ha _ _ hp;simp only[List.length_cons]at this
    show p.length<=j.room
    omega
   ·exact h.apl _ a ha q p d2
  ·exact h.apl k' a' e2 q p hq
 ·rcases Qal ha' with⟨e1,e2,_⟩ | ⟨e1,e2⟩
  ·subst e1;subst e2;exact h.st _ a ha q b hq
  ·exact h.st k' a' e2 q b hq
 ·show TabIs (updF m.tb k (addX c.pt.toNat c.live (wrap16 c.delta) (m.tb k)) k') _ _
  rcases Qal ha' with⟨e1,e2,_⟩ | ⟨e1,e2⟩
  ·subst e1;subst e2;rw[QaQ];simp only;rw[List.drop_append_of_le_length hml];exact(h.tb _ a ha).add omQ
  ·rw[Qa0 e1];exact h.tb k' a' e2
 ·have:=h.laid;unfold laidOf at this ⊢
  show m.laid=if j.under then cntP (j.adders.set k {a with pipes:=a.pipes.set a.firstOpen rest,got:=a.got++[c]})else 0
  rw[Qed (a':={a with pipes:=a.pipes.set a.firstOpen rest,got:=a.got++[c]}) ha rfl];exact this
theorem Qmi(h:Abs m j){k:Nat}{a:AdderM}(ha:j.adders[k]? =some a){c:ChgM}{rest:List ChgM}(hp:a.pipes[a.firstOpen]? =some (c :: rest))(hc:¬0<=c.pt)(hna:(a.stopped.set a.firstOpen true).all id=false):Abs {m with ap:=updF2 m.ap k a.firstOpen (rest.map itA),st:=updF2 m.st k a.firstOpen true} {j with adders:=j.adders.set k {a with pipes:=a.pipes.set a.firstOpen rest,stopped:=a.stopped.set a.firstOpen true}}:=by
 have hfl:=QcU h.flow k;have hop:=Qd8 h.flow h.opn k
 have ht:a.take j.width=some {a with pipes:=a.pipes.set a.firstOpen rest,stopped:=a.stopped.set a.firstOpen true}:=by
  unfold AdderM.take;simp only[hp,if_neg hc,hna]
  rfl
 have hs2:j.adds k=(0,{j with adders:=j.adders.set k {a with pipes:=a.pipes.set a.firstOpen rest,stopped:=a.stopped.set a.firstOpen true}}):=by
  unfold JobM.adds;simp only[ha,ht]
 rw[hs2]at hfl hop;refine⟨h.W,h.R,h.w4,h.r4,h.evs,h.len,h.ev,hfl,hop,h.sent,h.sp,h.spl,λk' a' ha' q p hq=>?_,λk' a' ha' q p hq=>?_,λk' a' ha' q b hq=>?_,λk' a' ha'=>?_,h.state,h.off,?_,h.ready.congr rfl rfl (λx=>QiX (a':={a with pipes:=a.pipes.set a.firstOpen rest,stopped:=a.stopped.set a.firstOpen true}) ha rfl x),h.last,h.view,h.offset⟩
 ·show updF2 m.ap k a.firstOpen (rest.map itA) k' q=_
  rcases Qal ha' with⟨e1,e2,_⟩ | ⟨e1,e2⟩
  ·subst e1;subst e2
   rcases Qal hq with⟨d1,d2,_⟩ | ⟨d1,d2⟩
   ·subst d1;subst d2;rw[Qbc]
   ·rw[QaK (.inr d1)];exact h.ap _ a ha q p d2
  ·rw[QaK (.inl e1)];exact h.ap k' a' e2 q p hq
 ·rcases Qal ha' with⟨e1,e2,_⟩ | ⟨e1,e2⟩
  ·subst e1;subst e2
   rcases Qal hq with⟨d1,d2,_⟩ | ⟨d1,d2⟩
   ·subst d2;have:=h.apl _ a ha _ _ hp;simp only[List.length_cons]at this
    show p.length<=j.room
    omega
   ·exact h.apl _ a ha q p d2
  ·exact h.apl k' a' e2 q p hq
 ·show updF2 m.st k a.firstOpen true k' q=b
  rcases Qal ha' with⟨e1,e2,_⟩ | ⟨e1,e2⟩
  ·subst e1;subst e2
   rcases Qal hq with⟨d1,d2,_⟩ | ⟨d1,d2⟩
   ·subst d1;subst d2;rw[Qbc]
   ·rw[QaK (.inr d1)];exact h.st _ a ha q b d2
  ·rw[QaK (.inl e1)];exact h.st k' a' e2 q b hq
 ·rcases Qal ha' with⟨e1,e2,_⟩ | ⟨e1,e2⟩
  ·subst e1;subst e2;exact h.tb _ a ha
  ·exact h.tb k' a' e2
 ·have:=h.laid;unfold laidOf at this ⊢
  show m.laid=if j.under then cntP (j.adders.set k {a with pipes:=a.pipes.set a.firstOpen rest,stopped:=a.stopped.set a.firstOpen true})else 0
  rw[Qed (a':={a with pipes:=a.pipes.set a.firstOpen rest,stopped:=a.stopped.set a.firstOpen true}) ha rfl];exact this
theorem QmY(h:Abs m j){k:Nat}{a:AdderM}(ha:j.adders[k]? =some a){c:ChgM}{rest:List ChgM}(hp:a.pipes[a.firstOpen]? =some (c :: rest))(hc:¬0<=c.pt)(hst:a.stopped[a.firstOpen]? =some false)(hall:(a.stopped.set a.firstOpen true).all id=true):
  Abs {m with ap:=updF2 m.ap k a.firstOpen (rest.map itA),st:=clrTo (updF2 m.st k a.firstOpen true) k m.W,tb:=updF m.tb k ((m.tb k).map calmX),ready:=layX (takenX (m.tb k)) m.ready,laid:=m.laid+1} {j with adders:=j.adders.set k {a with pipes:=a.pipes.set a.firstOpen rest,stopped:=List.replicate j.width false,marked:=a.got.length,passed:=true}}:=by
 have hfl:=QcU h.flow k;have hop:=Qd8 h.flow h.opn k
 have ht:a.take j.width=some {a with pipes:=a.pipes.set a.firstOpen rest,stopped:=List.replicate j.width false,marked:=a.got.length,passed:=true}:=by
  unfold AdderM.take;simp only[hp,if_neg hc,hall,if_true]
 have hs2:j.adds k=(0,{j with adders:=j.adders.set k {a with pipes:=a.pipes.set a.firstOpen rest,stopped:=List.replicate j.width false,marked:=a.got.length,passed:=true}}):=by
  unfold JobM.adds;simp only[ha,ht]
 rw[hs2]at hfl hop;have o:=h.flow.adders k a ha
 have hfo:a.firstOpen<j.width:=by have:=(List.getElem?_eq_some_iff.1 hp).1;rw[o.lenP]at this;exact this
 obtain⟨R,_,hL⟩:=o.links;have hsg:j.sorters[a.firstOpen]? =some (j.sorters[a.firstOpen]'(by rw[h.flow.lenS];exact hfo)):=List.getElem?_eq_getElem _;obtain⟨g1,g2,g3,_⟩:=(hL _ hfo _ _ _ hsg hst hp).bar hc
 have hu:j.under=true:=by unfold JobM.fl at g1;simp only[Bool.and_eq_true]at g1;exact g1.1
 have hmk:a.marked=a.kept:=o.still (λ_=>g3);have hklt:k<j.adders.length:=(List.getElem?_eq_some_iff.1 ha).1;have hnew:(j.adders.set k {a with pipes:=a.pipes.set a.firstOpen rest,stopped:=List.replicate j.width false,marked:=a.got.length,passed:=true})[k]? =some {a with pipes:=a.pipes.set a.firstOpen rest,stopped:=List.replicate j.width false,marked:=a.got.length,passed:=true}:=List.getElem?_set_self hklt
 have hmod:∀c∈a.got,c.pt.toNat % j.width=k:=λc hc=>by
  have o':=hfl.adders k _ hnew;have hpm:=(o'.mark g1 rfl).2.2.1;simp only at hpm;rw[List.take_length]at hpm;exact(Qf3 (hpm.mem_iff.1 hc)).2.1
 have htk:=(h.tb k a ha).taken (λc hc=>List.mem_of_mem_drop hc);have hlay:=QdN (takenX (m.tb k)) m.ready h.ready.1 (Qg9 (h.tb k a ha).sorted)
 have hpk:∀x∈takenX (m.tb k),x.v.pt % j.width=k:=λx hx=>by
  obtain⟨⟨c,hc,hcp⟩,_⟩:=(htk x).1 hx;have:=hmod c (List.mem_of_mem_drop hc);rw[hcp,Int.toNat_natCast]at this;exact this
 refine⟨h.W,h.R,h.w4,h.r4,h.evs,h.len,h.ev,hfl,hop,h.sent,h.sp,h.spl,λk' a' ha' q p hq=>?_,λk' a' ha' q p hq=>?_,λk' a' ha' q b hq=>?_,λk' a' ha'=>?_,h.state,h.off,?_,⟨hlay.1,λx=>(hlay.2 x).trans ?_⟩,h.last,h.view,h.offset⟩
 ·show updF2 m.ap k a.firstOpen (rest.map itA) k' q=_
  rcases Qal ha' with⟨e1,e2,_⟩ | ⟨e1,e2⟩
  ·subst e1;subst e2
   rcases Qal hq with⟨d1,d2,_⟩ | ⟨d1,d2⟩
   ·subst d1;subst d2;rw[Qbc]
   ·rw[QaK (.inr d1)];exact h.ap _ a ha q p d2
  ·rw[QaK (.inl e1)];exact h.ap k' a' e2 q p hq
 ·rcases Qal ha' with⟨e1,e2,_⟩ | ⟨e1,e2⟩
  ·subst e1;subst e2
   rcases Qal hq with⟨d1,d2,_⟩ | ⟨d1,d2⟩
   ·subst d2;have:=h.apl _ a ha _ _ hp;simp only[List.length_cons]at this
    show p.length<=j.room
    omega
   ·exact h.apl _ a ha q p d2
  ·exact h.apl k' a' e2 q p hq
 ·show clrTo (updF2 m.st k a.firstOpen true) k m.W k' q=b
  rcases Qal ha' with⟨e1,e2,_⟩ | ⟨e1,e2⟩
  ·subst e1;subst e2;simp only[List.getElem?_replicate]at hq;split at hq
   ·rename_i hqW
    unfold clrTo;rw[if_pos ⟨rfl,by rw[h.W];exact hqW⟩];exact Option.some.inj hq
   ·cases hq
  ·unfold clrTo;rw[if_neg (λy=>e1 y.1),QaK (.inl e1)];exact h.st k' a' e2 q b hq
 ·show TabIs (updF m.tb k ((m.tb k).map calmX) k') _ _
  rcases Qal ha' with⟨e1,e2,_⟩ | ⟨e1,e2⟩
  ·subst e1;subst e2;rw[QaQ];simp only;rw[List.drop_length];exact(h.tb _ a ha).calmed
  ·rw[Qa0 e1];exact h.tb k' a' e2
 ·have:=h.laid;unfold laidOf at this ⊢
  show m.laid+1=if j.under then cntP (j.adders.set k {a with pipes:=a.pipes.set a.firstOpen rest,stopped:=List.replicate j.width false,marked:=a.got.length,passed:=true})else 0
  rw[if_pos hu]at this ⊢;rw[QkT (a':={a with pipes:=a.pipes.set a.firstOpen rest,stopped:=List.replicate j.width false,marked:=a.got.length,passed:=true}) ha g3 rfl,this]
 ·show _↔j.under=true/\∃b,(j.adders.set k {a with pipes:=a.pipes.set a.firstOpen rest,stopped:=List.replicate j.width false,marked:=a.got.length,passed:=true})[x.v.pt % j.width]? =some b/\b.passed=true/\b.chgd x.v.pt/\x.v=gvC (b.got.take b.marked) x.v.pt/\x.ch=false
  have hch:∀p,AdderM.chgd {a with pipes:=a.pipes.set a.firstOpen rest,stopped:=List.replicate j.width false,marked:=a.got.length,passed:=true} p↔∃c∈a.got.drop a.marked,c.pt=(p:Int):=λp=>by
   unfold AdderM.chgd;simp only;rw[List.take_length,hmk]
  constructor
  ·rintro(hx | ⟨hx,hno⟩)
   ·refine⟨hu,_,by rw[hpk x hx];exact hnew,rfl,?_⟩;obtain⟨t1,t2,t3⟩:=(htk x).1 hx;refine⟨(hch _).2 t1,?_,t3⟩;simp only;rw[List.take_length];exact t2
   ·obtain⟨_,b,hb,hbp,hrest⟩:=(h.ready.2 x).1 hx
    have hne:x.v.pt % j.width≠k:=λe=>by
     rw[e,ha]at hb;simp only[Option.some.injEq]at hb;rw[<-hb,g3]at hbp;cases hbp
    exact⟨hu,b,by rw[List.getElem?_set_ne (λy=>hne y.symm)];exact hb,hbp,hrest⟩
  ·rintro⟨_,b,hb,hbp,b1,b2,b3⟩
   by_cases hne:x.v.pt % j.width=k
   ·rw[hne,hnew]at hb;simp only[Option.some.injEq]at hb;subst hb;refine .inl ((htk x).2 ⟨(hch _).1 b1,?_,b3⟩);simp only at b2;rw[List.take_length]at b2;exact b2
   ·rw[List.getElem?_set_ne (λy=>hne y.symm)]at hb;refine .inr ⟨(h.ready.2 x).2 ⟨hu,b,hb,hbp,b1,b2,b3⟩,λz hz e=>hne ?_⟩;rw[<-e];exact hpk z hz
theorem QkW(hC:CLX F X w m)(hA:Abs m j)(k:Nat)(hk:k<j.width):Calls Tryz.prog 74 #[.pointer (some ⟨F.jb,0,none⟩),.int .i64 (k:Int)] w λen w'=>∃r:Int,en=.returned (.int .i64 r)/\StepP X w F.jb (j.adds k) r w':=by
 have hr:=hA.r4;have hWW:=hA.W;have hw4:=hA.w4;have hkW:k<m.W:=omQ;have ha:j.adders[k]? =some (j.adders[k]'(by rw[hA.flow.lenA];exact hk)):=List.getElem?_eq_getElem _;generalize j.adders[k]'(by rw[hA.flow.lenA];exact hk)=a at ha;have o:=hA.flow.adders k a ha
 have hlen:∀q,q<m.W->(m.ap k q).length<=1000:=λq hq=>by
  have:=hA.apw ha (i:=q) omQ;omega
 rcases a.openC j.width o.lenP o.lenS with⟨hn,hcl⟩ | ⟨c,rest,hp,hs,hfo,hcl⟩
 ·have hs2:j.adds k=(8,j):=by unfold JobM.adds;simp only[ha,hn]
  rw[hs2]
  exact(Qia hC k hkW hlen λq hq=>hA.blocked ha omQ (λp h1 b h2=>hcl q p h1 b h2)).mono λen w' ⟨h1,h2⟩=>⟨8,h1,rfl,After.ofB hC hA h2⟩
 ·have hprev:∀q,q<a.firstOpen->m.st k q=true\/m.ap k q=[]:=λq hq=>hA.blocked ha omQ (λp h1 b h2=>hcl q hq p h1 b h2)
  have hst0:=hA.st k a ha _ _ hs;have hap:=hA.ap k a ha _ _ hp;simp only[List.map_cons]at hap;have htb:=hA.tabBounds ha;have hcm:=(Qhn hA.flow ha).2.2 _ _ hp c (by simp)
  by_cases hc:0<=c.pt
  ·have hs2:j.adds k=(0,{j with adders:=j.adders.set k {a with pipes:=a.pipes.set a.firstOpen rest,got:=a.got++[c]}}):=by
    have ht:a.take j.width=some {a with pipes:=a.pipes.set a.firstOpen rest,got:=a.got++[c]}:=by
     unfold AdderM.take;simp only[hp,if_pos hc]
    unfold JobM.adds;simp only[ha,ht]
   rw[hs2]
   have hok:ChOk j.events c:=by
    rcases hcm with e | e
    ·rw[e]at hc;exact absurd hc (by decide)
    ·exact e.2
   have hia:itA c=chI c.pt.toNat c.live (wrap16 c.delta):=by unfold itA;rw[if_neg omQ]
   rw[hia]at hap
   exact(QjC hC k hkW hlen a.firstOpen omQ hprev hst0 hap rfl (p:=c.pt.toNat) rfl omQ hok.2 htb.2).mono λen w' ⟨h1,h2⟩=>⟨0,h1,rfl,After.of h2 (QmX hA ha hp hc)⟩
  ·have hib:itA c=barI:=by unfold itA;rw[if_pos omQ]
   rw[hib]at hap
   cases hall:(a.stopped.set a.firstOpen true).all id with
   | true=>
    have hs2:j.adds k=(0,{j with adders:=j.adders.set k {a with pipes:=a.pipes.set a.firstOpen rest,stopped:=List.replicate j.width false,marked:=a.got.length,passed:=true}}):=by
     have ht:a.take j.width=some {a with pipes:=a.pipes.set a.firstOpen rest,stopped:=List.replicate j.width false,marked:=a.got.length,passed:=true}:=by
      unfold AdderM.take;simp only[hp,if_neg hc,hall,if_true]
     unfold JobM.adds;simp only[ha,ht]
    rw[hs2];have hrl:=hA.readyLen
    have hla:m.laid<=1000:=by
     rw[hA.laid];unfold laidOf;have:=QiV j.adders;have:=hA.flow.lenA
     split<;>omega
    exact(Qfq hC k hkW hlen a.firstOpen omQ hprev hst0 hap rfl (λX' w' h'=>Qma h' k hkW (λq hq=>by
     show updF2 m.st k a.firstOpen true k q=true
     by_cases e:q=a.firstOpen
     ·subst e;rw[Qbc]
     ·rw[QaK (.inr e)];have hq2:q<m.W:=hq
      have hq':q<a.stopped.length:=by rw[o.lenS];omega
      have hsq:a.stopped[q]? =some (a.stopped[q]):=List.getElem?_eq_getElem hq';rw[hA.st k a ha q _ hsq];rw[List.all_eq_true]at hall;have:=hall _ (List.mem_of_getElem? (show(a.stopped.set a.firstOpen true)[q]? =some (a.stopped[q])from by rw[List.getElem?_set_ne (λy=>e y.symm)];exact hsq))
      exact this) (by simp only;omega) (by simp only;exact hla))).mono λen w' ⟨h1,h2⟩=>⟨0,h1,rfl,After.of h2 (QmY hA ha hp hc hs hall)⟩
   | false=>
    have hs2:j.adds k=(0,{j with adders:=j.adders.set k {a with pipes:=a.pipes.set a.firstOpen rest,stopped:=a.stopped.set a.firstOpen true}}):=by
     have ht:a.take j.width=some {a with pipes:=a.pipes.set a.firstOpen rest,stopped:=a.stopped.set a.firstOpen true}:=by
      unfold AdderM.take;simp only[hp,if_neg hc,hall]
      rfl
     unfold JobM.adds;simp only[ha,ht]
    rw[hs2];rw[List.all_eq_false]at hall;obtain⟨b,hbm,hbf⟩:=hall;obtain⟨q1,hq1,hqe⟩:=List.getElem_of_mem hbm
    have hq1':q1<a.stopped.length:=by simpa using hq1
    have hqn:q1≠a.firstOpen:=λe=>by
     subst e;rw[List.getElem_set_self]at hqe;rw[<-hqe]at hbf;exact hbf rfl
    have hbf':b=false:=by cases b with | false=>rfl | true=>exact absurd rfl hbf
    rw[List.getElem_set_ne (λy=>hqn y.symm)]at hqe
    have hsq:a.stopped[q1]? =some b:=by rw[List.getElem?_eq_getElem hq1',hqe]
    have hna:(a.stopped.set a.firstOpen true).all id=false:=by
     rw[List.all_eq_false];exact⟨b,hbm,hbf⟩
    exact(Qfq hC k hkW hlen a.firstOpen omQ hprev hst0 hap rfl (m':={m with ap:=updF2 m.ap k a.firstOpen (rest.map itA),st:=updF2 m.st k a.firstOpen true}) (λX' w' h'=>(Ql9 h' k hkW q1 (by rw[o.lenS]at hq1';show q1<m.W;omega) (by
     show updF2 m.st k a.firstOpen true k q1=false
     rw[QaK (.inr hqn),hA.st k a ha q1 _ hsq,hbf'])).mono λen w'' ⟨h1,h2⟩=>⟨h1,by rw[h2];exact h'.aft⟩)).mono λen w' ⟨h1,h2⟩=>⟨0,h1,rfl,After.of h2 (Qmi hA ha hp hc hna)⟩
end
end
section
open Go.RowKit
theorem stateOf_three{j:JobM}:stateOf j=3↔(j.under=true/\j.barriers=true/\j.complete=true):=by
 unfold stateOf
 cases j.under<;>cases j.barriers<;>cases j.complete<;>simp
section
variable {F:Fx} {X:Nat->Prop} {w:World} {m:CM} {j:JobM}
theorem Qfu(h:Abs m j)(hu:j.under=true)(hc:j.complete=true):Abs m.committed j.commit:=by
 have hfl:=Qci h.flow hu hc;have hop:=Qev h.opn;obtain⟨hb,_,hpa⟩:=h.flow.comp hu hc
 have hf:j.fl=true:=by unfold JobM.fl;rw[hu,hb];rfl
 obtain⟨l1,l2⟩:=QdN m.ready m.view h.view.1 h.ready.1
 have hmemV:∀r,r∈tabOf (j.events.take j.base)↔∃y∈m.view,y.v=r:=λr=>by
  rw[<-h.view.2];simp only[List.mem_map]
 have hadd:∀p:Nat,∃a,j.adders[p % j.width]? =some a:=λp=>⟨_,List.getElem?_eq_getElem (by rw[h.flow.lenA];exact Nat.mod_lt _ h.flow.hW)⟩
 have hview:(layX m.ready m.view).map (λx=>x.v)=tabOf (j.events.take j.off):=by
  refine Qjq h.flow hf hpa (by rw[List.map_map];exact l1) λr=>?_
  simp only[List.mem_map];constructor
  ·rintro⟨y,hy,rfl⟩
   rcases(l2 y).1 hy with hy | ⟨hy,hno⟩
   ·obtain⟨_,a,ha,_,c1,c2,_⟩:=(h.ready.2 y).1 hy;exact⟨a,ha,.inl ⟨c1,c2⟩⟩
   ·obtain⟨a,ha⟩:=hadd y.v.pt;refine⟨a,ha,.inr ⟨λhcg=>?_,(hmemV _).2 ⟨y,hy,rfl⟩⟩⟩;have hz:(⟨gvC (a.got.take a.marked) y.v.pt,false⟩:GX)∈m.ready:=(h.ready.2 _).2 ⟨hu,a,ha,hpa a (List.mem_of_getElem? ha),hcg,rfl,rfl⟩;exact hno _ hz rfl
  ·rintro⟨a,ha,⟨c1,c2⟩ | ⟨c1,c2⟩⟩
   ·refine⟨⟨r,false⟩,(l2 _).2 (.inl ((h.ready.2 _).2 ⟨hu,a,ha,hpa a (List.mem_of_getElem? ha),c1,c2,rfl⟩)),rfl⟩
   ·obtain⟨y,hy,rfl⟩:=(hmemV r).1 c2;refine⟨y,(l2 y).2 (.inr ⟨hy,λz hz e=>c1 ?_⟩),rfl⟩;obtain⟨_,a',ha',_,d1,_⟩:=(h.ready.2 z).1 hz;rw[e]at ha' d1;rw[ha]at ha';simp only[Option.some.injEq]at ha';rw[ha'];exact d1
 refine⟨h.W,h.R,h.w4,h.r4,h.evs,h.len,h.ev,hfl,hop,h.sent,λi s hs=>?_,λi s hs=>?_,λk a ha q p hp=>?_,λk a ha q p hp=>?_,λk a ha q b hb=>?_,λk a ha=>?_,rfl,(λx=>by cases x),rfl,⟨by simp[CM.committed,sortedX],λx=>?_⟩,h.last,⟨l1,hview⟩,h.off hf⟩
 ·simp only[JobM.commit,List.getElem?_map,Option.map_eq_some_iff]at hs;obtain⟨s0,hs0,rfl⟩:=hs;exact h.sp i s0 hs0
 ·simp only[JobM.commit,List.getElem?_map,Option.map_eq_some_iff]at hs;obtain⟨s0,hs0,rfl⟩:=hs;exact h.spl i s0 hs0
 ·simp only[JobM.commit,List.getElem?_map,Option.map_eq_some_iff]at ha;obtain⟨a0,ha0,rfl⟩:=ha;exact h.ap k a0 ha0 q p hp
 ·simp only[JobM.commit,List.getElem?_map,Option.map_eq_some_iff]at ha;obtain⟨a0,ha0,rfl⟩:=ha;exact h.apl k a0 ha0 q p hp
 ·simp only[JobM.commit,List.getElem?_map,Option.map_eq_some_iff]at ha;obtain⟨a0,ha0,rfl⟩:=ha;exact h.st k a0 ha0 q b hb
 ·simp only[JobM.commit,List.getElem?_map,Option.map_eq_some_iff]at ha;obtain⟨a0,ha0,rfl⟩:=ha;exact h.tb k a0 ha0
 ·simp only[CM.committed,List.not_mem_nil,false_iff];rintro⟨hx,_⟩;cases hx
theorem Qho(h:Abs m j)(hp:j.passedAll=true):Abs {m with state:=3} {j with complete:=true}:=by
 have hfl:=Qfm h.flow;have hop:=Qjm h.opn;have hp':=hp;unfold JobM.passedAll at hp';simp only[Bool.and_eq_true,List.all_eq_true]at hp';obtain⟨⟨⟨hu,hb⟩,_⟩,_⟩:=hp'
 have hflow:FlowOk {j with complete:=true}:=by
  by_cases hc:j.complete=true
  ·have:({j with complete:=true}:JobM)=j:=by rw[<-hc]
   rw[this];exact h.flow
  ·have hk:j.keeps=(0,{j with complete:=true}):=by
    unfold JobM.keeps;rw[if_neg (by simp[hc]),if_pos hp]
   rw[hk]at hfl;exact hfl
 exact⟨h.W,h.R,h.w4,h.r4,h.evs,h.len,h.ev,hflow,h.opn,h.sent,h.sp,h.spl,h.ap,h.apl,h.st,h.tb,by unfold stateOf;simp[hu,hb],h.off,h.laid,h.ready,h.last,h.view,h.offset⟩
theorem Qio(h:Abs m j)(hu:j.under=true)(hc:j.complete=true):j.passedAll=true:=by
 obtain⟨hb,h1,h2⟩:=h.flow.comp hu hc;unfold JobM.passedAll;simp only[Bool.and_eq_true,List.all_eq_true];exact⟨⟨⟨hu,hb⟩,h1⟩,h2⟩
theorem QjN(hC:CLX F X w m)(hA:Abs m j):Calls Tryz.prog 75 #[.pointer (some ⟨F.jb,0,none⟩)] w λen w'=>∃r:Int,en=.returned (.int .i64 r)/\StepP X w F.jb j.keeps r w':=by
 have hwk:=QeD hA
 by_cases hp:j.passedAll=true
 ·rw[if_pos hp]at hwk;have hw1:workN m=1:=omQ
  by_cases hc:j.under=true/\j.complete=true
  ·have hk:j.keeps=(0,j.commit):=by unfold JobM.keeps;rw[hc.1,hc.2];rfl
   rw[hk]
   have h3:m.state=3:=by rw[hA.state];exact stateOf_three.2 ⟨hc.1,(hA.flow.comp hc.1 hc.2).1,hc.2⟩
   have l1:=hA.viewLen;have l2:=hA.readyLen
   exact(QfJ hC hw1 h3 omQ).mono λen w' ⟨h1,h2⟩=>⟨0,h1,rfl,After.of h2 (Qfu hA hc.1 hc.2)⟩
  ·have hk:j.keeps=(0,{j with complete:=true}):=by
    unfold JobM.keeps;rw[if_neg (by simpa using hc),if_pos hp]
   rw[hk]
   have h3:m.state≠3:=by rw[hA.state];exact λx=>hc ⟨(stateOf_three.1 x).1,(stateOf_three.1 x).2.2⟩
   exact(QeX hC hw1 h3).mono λen w' ⟨h1,h2⟩=>⟨0,h1,rfl,After.of h2 (Qho hA hp)⟩
 ·rw[if_neg hp]at hwk
  have hc:¬(j.under=true/\j.complete=true):=λx=>hp (Qio hA x.1 x.2)
  have hk:j.keeps=(8,j):=by
   unfold JobM.keeps;rw[if_neg (by simpa using hc),if_neg hp]
  rw[hk]
  exact(Qhd hC omQ).mono λen w' ⟨h1,h2⟩=>⟨8,h1,rfl,After.ofB hC hA h2⟩
theorem Qfv(h:Abs m j){tb:Nat->List GX}(htb:∀k,k<m.W->TabIs (tb k) (allTo m.W k m.offset m.evs) []):Abs {m with sent:=m.offset,sp:=nilTo m.sp m.W,sk:=skTo {m with sk:=nilTo m.sk m.W} m.offset,ap:=nilAll m.ap m.W m.W,st:=clrAll m.st m.W m.W,tb:=tb,state:=0,off:=0,laid:=0,ready:=[]} j.forget:=by
 have hfl:=Qdd h.flow;have hop:=QhS h.flow.hW h.opn
 have hiS:∀(i:Nat) (s:SorterM),j.sorters[i]? =some s->i<m.W:=λi s hs=>by rw[h.W,<-h.flow.lenS];exact(List.getElem?_eq_some_iff.1 hs).1
 have hkA:∀(k:Nat) (a:AdderM),j.adders[k]? =some a->k<m.W:=λk a ha=>by rw[h.W,<-h.flow.lenA];exact(List.getElem?_eq_some_iff.1 ha).1
 refine⟨h.W,h.R,h.w4,h.r4,h.evs,h.len,h.ev,hfl,hop,h.offset,λi s hs=>?_,λi s hs=>?_,λk a ha q p hp=>?_,λk a ha q p hp=>?_,λk a ha q b hb=>?_,λk a ha=>?_,rfl,(λx=>by cases x),rfl,⟨by simp[sortedX],λx=>?_⟩,h.last,h.view,h.offset⟩
 ·simp only[JobM.forget,List.getElem?_map,Option.map_eq_some_iff]at hs;obtain⟨s0,hs0,rfl⟩:=hs;have hi:=hiS i s0 hs0;refine⟨show nilTo m.sp m.W i=[]from if_pos hi,?_⟩
  show skTo {m with sk:=nilTo m.sk m.W} m.offset i=entsOf (s0.got.take s0.kept)
  unfold skTo;simp only;rw[if_pos hi,(h.flow.sorters i s0 hs0).kept_eq,h.W,h.evs,h.offset]
 ·simp only[JobM.forget,List.getElem?_map,Option.map_eq_some_iff]at hs;obtain⟨s0,hs0,rfl⟩:=hs;exact Nat.zero_le _
 ·simp only[JobM.forget,List.getElem?_map,Option.map_eq_some_iff]at ha;obtain⟨a0,ha0,rfl⟩:=ha;simp only[List.getElem?_replicate]at hp;split at hp
  ·rename_i hq
   have:p=[]:=(Option.some.inj hp).symm;rw[this];exact if_pos ⟨hkA k a0 ha0,by rw[h.W];exact hq⟩
  ·cases hp
 ·simp only[JobM.forget,List.getElem?_map,Option.map_eq_some_iff]at ha;obtain⟨a0,ha0,rfl⟩:=ha;simp only[List.getElem?_replicate]at hp;split at hp
  ·have:p=[]:=(Option.some.inj hp).symm;rw[this];exact Nat.zero_le _
  ·cases hp
 ·simp only[JobM.forget,List.getElem?_map,Option.map_eq_some_iff]at ha;obtain⟨a0,ha0,rfl⟩:=ha;simp only[List.getElem?_replicate]at hb;split at hb
  ·rename_i hq
   have:b=false:=(Option.some.inj hb).symm;rw[this];exact if_pos ⟨hkA k a0 ha0,by rw[h.W];exact hq⟩
  ·cases hb
 ·simp only[JobM.forget,List.getElem?_map,Option.map_eq_some_iff]at ha;obtain⟨a0,ha0,rfl⟩:=ha;have h1:=htb k (hkA k a0 ha0);have h2:=(h.flow.adders k a0 ha0).kept_perm;rw[h.W,h.offset,h.evs]at h1;simp only;refine h1.perm h2.symm (λc=>?_);rw[List.drop_eq_nil_of_le (by rw[List.length_take];omega)]
 ·simp only[List.not_mem_nil,false_iff];rintro⟨hx,_⟩;cases hx
theorem Qmj(h:CJob X w F.jb j):Calls Tryz.prog 30 #[.pointer (some ⟨F.jb,0,none⟩)] w λen w'=>en=.returned (.tuple #[])/\After CJob X w F.jb j.fail w':=by
 obtain⟨F',m,hF,hC,hA⟩:=h;rw[<-hF];refine wFail ?_
 have hE:m.evs.length<=400:=by rw[hA.evs];exact hA.len
 have hev:∀e∈m.evs,validB e.key=true/\0<e.key.size/\e.key.size<=1000:=by rw[hA.evs];exact hA.ev
 by_cases hc:j.under=true/\j.complete=true
 ·have hk:j.fail=j.commit.forget:=by unfold JobM.fail;rw[hc.1,hc.2];rfl
  rw[hk];obtain⟨hb,_⟩:=hA.flow.comp hc.1 hc.2
  have h3:m.state=3:=by rw[hA.state];exact stateOf_three.2 ⟨hc.1,hb,hc.2⟩
  have hf:j.fl=true:=by unfold JobM.fl;rw[hc.1,hb];rfl
  have l1:=hA.viewLen;have l2:=hA.readyLen
  refine(Qhg hC h3 omQ hE (by rw[hA.evs,hA.off hf];exact Nat.le_trans (hA.flow.off hf).2 hA.flow.sent) hev).mono λen w' ⟨h1,X1,w1,f1,f2,tb,ha,ht⟩=>⟨h1,?_⟩
  exact After.of (Aft.then f1 f2 ha) (Qfv (Qfu hA hc.1 hc.2) ht)
 ·have hk:j.fail=j.forget:=by unfold JobM.fail;rw[if_neg (by simpa using hc)]
  rw[hk]
  have h3:m.state≠3:=by rw[hA.state];exact λx=>hc ⟨(stateOf_three.1 x).1,(stateOf_three.1 x).2.2⟩
  exact(QjF hC h3 hE (by rw[hA.offset,hA.evs];exact Nat.le_trans hA.flow.base hA.flow.sent) hev).mono λen w' ⟨h1,tb,ha,ht⟩=>⟨h1,After.of ha (Qfv hA ht)⟩
theorem Qmk(h:CJob X w F.jb j)(t:Int)(h0:-9223372036854775808<=t)(h1:t<=9223372036854775807):Calls Tryz.prog 21 #[.pointer (some ⟨F.jb,0,none⟩),.int .i64 t] w λen w'=>en=.returned (.int .i64 ((j.step t).1:Int))/\After CJob X w F.jb (j.step t).2 w':=by
 obtain⟨F',m,hF,hC,hA⟩:=h;rw[<-hF]
 refine(wStep (P:=λr w'=>StepP X w F'.jb (j.step t) r w') ?_).mono λen w' ⟨r,h1,h2,h3⟩=>⟨by rw[h1,h2],h3⟩
 have hw:=hA.w4;have hWW:=hA.W;unfold JobM.step
 by_cases c1:t<0\/2*(j.width:Int)+1<t
 ·rw[if_pos c1]
  exact(QjG hC t h0 h1 (by rw[hWW];exact c1)).mono λen w' ⟨h1,h2⟩=>⟨7,h1,rfl,by rw[h2];exact After.of hC.aft hA⟩
 ·rw[if_neg c1]
  by_cases c2:t=0
  ·subst c2;rw[if_pos rfl];exact Qhh hC (QjL hC hA)
  ·rw[if_neg c2]
   by_cases c3:t<=(j.width:Int)
   ·rw[if_pos c3]
    obtain⟨i,rfl⟩:∃i:Nat,t=(i:Int)+1:=⟨(t-1).toNat,by omega⟩
    have ei:((i:Int)+1-1).toNat=i:=omQ;rw[ei];exact Qhi hC i omQ (QjM hC hA i omQ)
   ·rw[if_neg c3]
    by_cases c4:t<=2*(j.width:Int)
    ·rw[if_pos c4]
     obtain⟨k,rfl⟩:∃k:Nat,t=(j.width:Int)+1+(k:Int):=⟨(t-(j.width:Int)-1).toNat,by omega⟩
     have ek:((j.width:Int)+1+(k:Int)-(j.width:Int)-1).toNat=k:=omQ;rw[ek];have:=Qih hC k omQ (QkW hC hA k omQ);rw[hWW]at this;exact this
    ·rw[if_neg c4];have et:t=2*(j.width:Int)+1:=omQ;subst et;have:=Qhj hC (QjN hC hA);rw[hWW]at this;exact this
end
theorem Qf7:JobIface CJob where
 lt:=λ⟨_,_,_,hC,_⟩=>hC.lt
 frm:=λ⟨F,m,hF,hC,hA⟩ _ _ hf hz=>⟨F,m,hF,hC.frm hf hz,hA⟩
 good:=λ⟨_,_,_,_,hA⟩=>⟨⟨hA.flow,hA.opn⟩,hA.w4,hA.len⟩
 step:=λh t h0 h1=>by
  obtain⟨F,m,rfl,hC,hA⟩:=h;exact Qmk ⟨F,m,rfl,hC,hA⟩ t h0 h1
 trigger:=λh hn=>Qin h hn
 fail:=λh=>by
  obtain⟨F,m,rfl,hC,hA⟩:=h;exact Qmj ⟨F,m,rfl,hC,hA⟩
 queue:=λh t h0 h1=>QkU h t h0 h1
 offset:=λh=>QjK h
 view:=λh ht=>Qmc h ht
 new:=QmU
end
section
open Go.RowKit
def qRow(w:World)(B:Nat)(e:TypeId)(s:Nat)(v:Value)(n:Nat)(xs:List Value):Prop:=
 xs.length=n*s/\((v=.slice none 0 0/\n=0)\/∃g off cap cur,v=.slice (some ⟨g,off,none⟩) n cap/\B<=g/\w.heap[g]? =some (.cells cur e (0,0))/\off+cap*s<=cur.size/\n<=cap/\cap<=maxLen/\w.rangeAt g off xs)
theorem qRow.shape{w:World}{B n:Nat}{e:TypeId}{s:Nat}{v:Value}{xs:List Value}(h:qRow w B e s v n xs):∃a c,v=.slice a n c:=by
 rcases h.2 with⟨rfl,rfl⟩ | ⟨g,off,cap,cur,rfl,_⟩
 ·exact⟨none,0,rfl⟩
 ·exact⟨_,_,rfl⟩
theorem qRow.lt{w:World}{B n:Nat}{e:TypeId}{s:Nat}{v:Value}{xs:List Value}(h:qRow w B e s v n xs):∀g,v.ownBlock=some g->B<=g/\∃cur,w.heap[g]? =some (.cells cur e (0,0)):=by
 intro g hg
 rcases h.2 with⟨rfl,_⟩ | ⟨g',off,cap,cur,rfl,hb,hh,_⟩
 ·simp[Value.ownBlock]at hg
 ·simp[Value.ownBlock]at hg;subst hg;exact⟨hb,cur,hh⟩
theorem qRow.kept{w w':World}{row:Option Nat}{B n:Nat}{e:TypeId}{s:Nat}{v:Value}{xs:List Value}(h:qRow w B e s v n xs)(hg:w.grownBy w' row)(hne:∀g,v.ownBlock=some g->row≠some g):qRow w' B e s v n xs:=by
 refine⟨h.1,?_⟩
 rcases h.2 with h0 | ⟨g,off,cap,cur,rfl,hb,hh,h1,h2,h3,h4⟩
 ·exact .inl h0
 ·have hb':w'.heap[g]? =w.heap[g]? :=hg.block g (Qac hh) λe=>hne g rfl e.symm
  refine .inr ⟨g,off,cap,cur,rfl,hb,by rw[hb'];exact hh,h1,h2,h3,λj u hu=>?_⟩;rw[World.cell?_of_block (a:=⟨g,off+j,none⟩) hb'];exact h4 j u hu
theorem qRow.old{w w':World}{B n:Nat}{e:TypeId}{s:Nat}{v:Value}{xs:List Value}(h:qRow w B e s v n xs)(hb:Below w.heap.size w w'):qRow w' B e s v n xs:=
 h.kept (row:=none) ⟨hb.os,hb.tape,hb.output,hb.size,λk hk _=>hb.block k hk⟩ (by simp)
theorem qRow.cell{w:World}{B n g off c:Nat}{e:TypeId}{s:Nat}{xs:List Value}(h:qRow w B e s (.slice (some ⟨g,off,none⟩) n c) n xs)(j:Nat)(u:Value)(hu:xs[j]? =some u):w.cell? ⟨g,off+j,none⟩=some u:=by
 rcases h.2 with⟨h0,_⟩ | ⟨g',off',cap,cur,h0,_,_,_,_,_,h4⟩
 ·simp at h0
 ·simp at h0;obtain⟨⟨rfl,rfl⟩,rfl⟩:=h0;exact h4 j u hu
theorem qRow.addr{w:World}{B n c:Nat}{e:TypeId}{s:Nat}{a:Option Addr}{xs:List Value}(h:qRow w B e s (.slice a n c) n xs):(a=none/\n=0)\/∃g off,a=some ⟨g,off,none⟩:=by
 rcases h.2 with⟨h0,h1⟩ | ⟨g,off,cap,cur,h0,_⟩
 ·simp at h0;exact .inl ⟨h0.1,h1⟩
 ·simp at h0;exact .inr ⟨g,off,h0.1⟩
theorem qRow.cap{w:World}{B n c:Nat}{e:TypeId}{s:Nat}{a:Option Addr}{xs:List Value}(h:qRow w B e s (.slice a n c) n xs):n<=c/\c<=maxLen:=by
 rcases h.2 with⟨h0,h1⟩ | ⟨g,off,cap,cur,h0,_,_,_,h2,h3,_⟩
 ·simp at h0;rw[h1,h0.2.2];exact⟨Nat.le_refl _,by decide⟩
 ·simp at h0;rw[h0.2];exact⟨h2,h3⟩
theorem qRow.tail{w:World}{B n g off c off':Nat}{e:TypeId}{s:Nat}{xs:List Value}(h:qRow w B e s (.slice (some ⟨g,off,none⟩) (n+1) c) (n+1) xs)(ho:off'=off+s\/(c=1/\off'=off)):qRow w B e s (.slice (some ⟨g,off',none⟩) n (c-1)) n (xs.drop s):=by
 refine⟨by rw[List.length_drop,h.1,Nat.add_mul];omega,.inr ?_⟩
 rcases h.2 with⟨h0,_⟩ | ⟨g',o',cap,cur,h0,hb,hh,h1,h2,h3,h4⟩
 ·simp at h0
 ·simp at h0;obtain⟨⟨rfl,rfl⟩,rfl⟩:=h0
  have hcs:c*s=(c-1)*s+s:=by
   obtain⟨k,rfl⟩:∃k,c=k+1:=⟨c-1,by omega⟩
   rw[Nat.add_mul];simp
  refine⟨g,off',c-1,cur,rfl,hb,hh,?_,by omega,by omega,λj u hu=>?_⟩
  ·rcases ho with rfl | ⟨rfl,rfl⟩
   ·omega
   ·simp;omega
  ·rw[List.getElem?_drop]at hu
   rcases ho with rfl | ⟨rfl,rfl⟩
   ·rw[Nat.add_assoc];exact h4 (s+j) u hu
   ·exfalso
    have hn:n=0:=omQ;have hl:=h.1;have:s+j<xs.length:=(List.getElem?_eq_some_iff.1 hu).1;rw[hl,hn]at this;simp at this;omega
theorem QdV{t:TypeId}{g:Nat}:∀(vs:List Value) (o:Nat) (w:World) (cur:Array Value),w.heap[g]? =some (.cells cur t (0,0))->∃cur',(w.setCells g o vs).heap[g]? =some (.cells cur' t (0,0))/\cur'.size=cur.size
 | [],_,_,cur,h=>⟨cur,h,rfl⟩
 | v :: vs,o,w,cur,h=>by
  rw[World.setCells];obtain⟨cur',h1,h2⟩:=QdV vs (o+1) (w.setCell ⟨g,o,none⟩ v) _ (Qas (j:=o) h v);exact⟨cur',h1,by rw[h2];simp⟩
theorem Qcw(g:Nat):∀(vs:List Value) (o:Nat) (w:World),(w.setCells g o vs).tape=w.tape/\(w.setCells g o vs).heap.size=w.heap.size
 | [],_,_=>⟨rfl,rfl⟩
 | v :: vs,o,w=>by
  rw[World.setCells];have:=Qcw g vs (o+1) (w.setCell ⟨g,o,none⟩ v);exact⟨this.1,this.2.trans (by simp[World.setCell])⟩
theorem Qhp{P:Program}(w:World)(B:Nat)(t ty e:TypeId)(i:TypeInfo)(z:Value)(size bytes:Nat)(ht:P.underlying t=some (.slice e))(hi:P.info? e=some i)(hz:i.zero=some z)
  (hsize:i.size=size) (hby:i.bytes=bytes) (hzs:z.cells.size=size) (v:Value) (n:Nat) (xs:List Value) (hq:qRow w B e size v n xs)
  (a:Addr) (c:Nat) (news:List Value) (hl:news.length=size) (hnews:∀j u,news[j]? =some u->w.cell? (a.add j)=some u) (h1:∀u∈news,u.oneCell'=true)
  (hn:n<=1000000) (hb0:bytes<=1000) (hB:B<=w.heap.size):
  ∃v' w',(Builtin.append_ #[t,t] ty #[v,.slice (some a) 1 c]).run P w=.ok v' w'/\qRow w' B e size v' (n+1) (xs++news)/\
   ((w.grownBy w' none/\v'.ownBlock=some w.heap.size)\/(w.grownBy w' v.ownBlock/\v'.ownBlock=v.ownBlock/\v.ownBlock≠none)):=by
 subst hsize;subst hby;have hb:(n+1+(n+1) / 4+192)*i.bytes<=281474976710656:=Nat.le_trans (Nat.mul_le_mul (show _<=2000000 by omega) hb0) (by decide)
 have hlen:(xs++news).length=(n+1)*i.size:=by rw[List.length_append,hq.1,hl,Nat.add_mul];omega
 have hm63:n+1<=maxLen:=by unfold maxLen;omega
 have new:∀(old:Nat),qRow (w.drew.alloc (.cells (xs.toArray++news.toArray++Builtin.zeroCells z.cells (grownCap w (n+1) old e-(n+1))) e)) B e i.size (.slice (some ⟨w.heap.size,0,none⟩) (n+1) (grownCap w (n+1) old e)) (n+1) (xs++news):=by
  intro old;have hge:=grownCap_ge w (n+1) old e;refine⟨hlen,.inr ⟨w.heap.size,0,_,_,rfl,hB,heap_alloc_new w.drew _,?_,hge,grownCap_le_maxLen w _ _ _ hm63,λj u hu=>?_⟩⟩
  ·rw[Array.size_append,Array.size_append,size_zeroCells,hzs,List.size_toArray,List.size_toArray,<-List.length_append,hlen,<-Nat.add_mul];have:n+1+(grownCap w (n+1) old e-(n+1))=grownCap w (n+1) old e:=omQ;rw[this];omega
  ·have hj:j<(xs++news).length:=(List.getElem?_eq_some_iff.1 hu).1;have:=World.cell?_alloc_new w.drew (xs.toArray++news.toArray++Builtin.zeroCells z.cells (grownCap w (n+1) old e-(n+1))) e j;rw[show w.drew.heap.size=w.heap.size from rfl]at this;rw[Nat.zero_add,this,Array.getElem?_append_left (by simpa using hj)];rw[<-hu,<-List.getElem?_toArray];congr 1;simp
 rcases hq.2 with⟨rfl,rfl⟩ | ⟨g,off,cap,cur,rfl,hbg,hg,hcs,hnc,hcm,hr⟩
 ·have hr2:=run_append_nil (P:=P) w t ty e i z ht hi hz a 1 c news omQ hnews omQ omQ (by have hb':=hb;simp only[Nat.zero_add]at hb';exact Nat.le_trans (Nat.mul_le_mul_right _ omQ) hb');have hx:xs=[]:=List.length_eq_zero_iff.1 (by rw[hq.1];simp);subst hx;refine⟨_,_,hr2,?_,.inl ⟨⟨rfl,rfl,rfl,by simp,λk hk _=>Below.heap_alloc w.drew _ k hk⟩,rfl⟩⟩;have:=new 0
  simpa using this
 ·by_cases hroom:n+1<=cap
  ·have hfit:off+n*i.size+i.size<=cur.size:=by
    have:(n+1)*i.size<=cap*i.size:=Nat.mul_le_mul_right _ hroom;rw[Nat.add_mul]at this;omega
   have hth:w.there g (off+n*i.size) news.length:=by
    intro j hj;have hc:=cell_of_row w g (off+n*i.size+j) cur e (0,0) hg;refine⟨?_,by simp[World.frozen?,hg]⟩;rw[hc,Array.getElem?_eq_getElem omQ]
    rfl
   have hr2:=Go.run_append_room_src (P:=P) w t t ty e i ht hi g off n cap (.slice (some a) 1 c) 1 news (Src.ofSlice (P:=P) w ht a 1 c news omQ hnews h1) hroom (λj hj=>(hth j hj).1) (λj hj=>(hth j hj).2);refine⟨_,_,hr2,⟨hlen,.inr ?_⟩,.inr ⟨⟨World.os_setCells _ _ _ _,(Qcw g news _ w).1,World.output_setCells _ _ _ _,Nat.le_of_eq (Qcw g news _ w).2.symm,λk hk hne=>World.heap_setCells_other w g _ news hk λe=>hne (by rw[e];rfl)⟩,rfl,by simp[Value.ownBlock]⟩⟩;obtain⟨cur',h2,h3⟩:=QdV news (off+n*i.size) w cur hg;refine⟨g,off,cap,cur',rfl,hbg,h2,by omega,hroom,hcm,λj u hu=>?_⟩
   by_cases hj:j<xs.length
   ·rw[List.getElem?_append_left hj]at hu;exact World.rangeAt_setCells_apart hr g (off+n*i.size) news (.inr (.inl (by rw[hq.1];omega))) j u hu
   ·rw[List.getElem?_append_right omQ]at hu;have:=World.rangeAt_setCells_same w g (off+n*i.size) news hth (j-xs.length) u hu;rw[hq.1]at this;have hx:=hq.1;rw[show off+n*i.size+(j-n*i.size)=off+j from by omega]at this;exact this
  ·have hr2:=run_append_grow (P:=P) w t ty e i z ht hi hz ⟨g,off,none⟩ n cap xs hq.1 (λj u hu=>by rw[Addr.add_mid];exact hr j u hu) a 1 c news omQ hnews omQ omQ (growslice_fits_wide omQ hb);exact⟨_,_,hr2,new cap,.inl ⟨⟨rfl,rfl,rfl,by simp,λk hk _=>Below.heap_alloc w.drew _ k hk⟩,rfl⟩⟩
theorem QbP{P:Program}(w:World){o:Oper}{a:Act}{K:Act->World->Prop}{Q:Exit->Act->World->Prop}(s x:Operand)(t:TypeId)
  (ho:o.op=.call {callee:=.builtin .append,args:=#[s,x],argTypes:=#[t,t]})
  (base:Nat) (e:TypeId) (i:TypeInfo) (z:Value) (size bytes:Nat) (ht:P.underlying t=some (.slice e)) (hi:P.info? e=some i) (hz:i.zero=some z)
  (hsize:i.size=size) (hby:i.bytes=bytes) (hzs:z.cells.size=size)
  (v:Value) (n:Nat) (xs:List Value) (hs:a.eval s=v) (hown:qRow w base e size v n xs)
  (ad:Addr) (c:Nat) (news:List Value) (hx:a.eval x=.slice (some ad) 1 c) (hl:news.length=size) (hnews:∀j u,news[j]? =some u->w.cell? (ad.add j)=some u) (h1:∀u∈news,u.oneCell'=true)
  (hn:n<=1000000) (hb0:bytes<=1000) (hbase:base<=w.heap.size)
  (h:∀v' w',qRow w' base e size v' (n+1) (xs++news)->((w.grownBy w' none/\v'.ownBlock=some w.heap.size)\/(w.grownBy w' v.ownBlock/\v'.ownBlock=v.ownBlock/\v.ownBlock≠none))->K (a.put o.dst v') w'):o.wp P a w K Q:=by
 obtain⟨v',w',hr,h2,h3⟩:=Qhp (P:=P) w base t o.type e i z size bytes ht hi hz hsize hby hzs v n xs hown ad c news hl hnews h1 hn hb0 hbase;unfold Oper.wp execOp;simp only[ho,resolve,invoke,builtin,Sem.run_bind,Sem.run_pure,Result.andThen_ok,List.map_toArray,List.map_cons,List.map_nil,hs,hx,hr];exact h v' w' h2 h3
abbrev Owners:=Nat->Option Nat
structure FrmO (f:Owners) (S:Nat->Prop) (w w':World):Prop where
 os:w'.os=w.os
 tape:w'.tape=w.tape
 output:w'.output=w.output
 size:w.heap.size<=w'.heap.size
 keep:∀g,g<w.heap.size->(∀c,f g=some c->¬S c)->w'.heap[g]? =w.heap[g]?
def Same(n:Nat)(f f':Owners):Prop:=∀g,g<n->f' g=f g
theorem Same.refl(n:Nat)(f:Owners):Same n f f:=λ_ _=>rfl
theorem Same.trans{n m:Nat}{f f1 f2:Owners}(h:Same n f f1)(h':Same m f1 f2)(hnm:n<=m):Same n f f2:=λg hg=>(h' g (Nat.lt_of_lt_of_le hg hnm)).trans (h g hg)
def Owners.put(f:Owners)(g c:Nat):Owners:=λx=>if x=g then some c else f x
theorem Owners.put_self(f:Owners)(g c:Nat):f.put g c g=some c:=by simp[Owners.put]
theorem Owners.put_same(f:Owners)(g c:Nat):Same g f (f.put g c):=λx hx=>by
 have:¬x=g:=omQ;simp[Owners.put,this]
theorem FrmO.refl(f:Owners)(S:Nat->Prop)(w:World):FrmO f S w w:=⟨rfl,rfl,rfl,Nat.le_refl _,λ_ _ _=>rfl⟩
theorem FrmO.trans{f f1:Owners}{S:Nat->Prop}{w w1 w2:World}(h:FrmO f S w w1)(hs:Same w.heap.size f f1)(h':FrmO f1 S w1 w2):FrmO f S w w2:=
 ⟨h'.os.trans h.os,h'.tape.trans h.tape,h'.output.trans h.output,Nat.le_trans h.size h'.size,λg hg hc=>by
  rw[h'.keep g (Nat.lt_of_lt_of_le hg h.size) (λc he=>hc c ((hs g hg).symm.trans he)),h.keep g hg hc]⟩
theorem FrmO.mono{f:Owners}{S T:Nat->Prop}{w w':World}(h:FrmO f S w w')(hst:∀c,S c->T c):FrmO f T w w':=
 ⟨h.os,h.tape,h.output,h.size,λg hg hc=>h.keep g hg λc he hs=>hc c he (hst c hs)⟩
theorem FrmO.of_below{f:Owners}{S:Nat->Prop}{w w':World}(h:Below w.heap.size w w'):FrmO f S w w':=⟨h.os,h.tape,h.output,h.size,λg hg _=>h.block g hg⟩
theorem FrmO.drew{f:Owners}{S:Nat->Prop}{w w':World}(h:FrmO f S w w'):FrmO f S w w'.drew:=⟨h.os,h.tape,h.output,h.size,h.keep⟩
theorem FrmO.drewN{f:Owners}{S:Nat->Prop}{w w':World}(h:FrmO f S w w')(n:Nat):FrmO f S w (w'.drewN n):=⟨h.os,h.tape,h.output,h.size,h.keep⟩
theorem FrmO.of_grown{f:Owners}{S:Nat->Prop}{w w':World}{row:Option Nat}(h:w.grownBy w' row)(hr:∀g,row=some g->∃c,f g=some c/\S c):FrmO f S w w':=
 ⟨h.os,h.tape,h.output,h.size,λg hg hc=>h.block g hg λe=>by
  obtain⟨c,h1,h2⟩:=hr g e.symm
  exact hc c h1 h2⟩
theorem FrmO.of_set{f:Owners}{S:Nat->Prop}{w:World}{g c o:Nat}(hg:f g=some c)(hc:S c)(u:Value):FrmO f S w (w.setCell ⟨g,o,none⟩ u):=
 .of_grown (Qak w g o u) λg' hg'=>⟨c,by simp only[Option.some.injEq]at hg';rw[<-hg'];exact hg,hc⟩
theorem FrmO.below{f:Owners}{S:Nat->Prop}{w w':World}(h:FrmO f S w w'){B:Nat}(hB:B<=w.heap.size)(hf:∀g c,g<B->f g=some c->¬S c):Below B w w':=
 ⟨h.os,h.tape,h.output,h.size,λg hg=>h.keep g (Nat.lt_of_lt_of_le hg hB) λc hc=>hf g c hg hc⟩
def IsOf(f:Owners)(c:Nat)(v:Value):Prop:=∀g,v.ownBlock=some g->f g=some c
theorem IsOf.same{f f':Owners}{c n:Nat}{v:Value}(h:IsOf f c v)(hs:Same n f f')(hl:∀g,v.ownBlock=some g->g<n):IsOf f' c v:=λg hg=>(hs g (hl g hg)).trans (h g hg)
theorem Qaq{f:Owners}{S:Nat->Prop}{w w':World}{g c:Nat}{o:Obj}(h:w.heap[g]? =some o)(hf:FrmO f S w w')(hg:f g=some c)(hc:¬S c):w'.heap[g]? =some o:=by
 rw[hf.keep g (Qac h) λc' he hs=>hc (by rw[hg]at he;simp only[Option.some.injEq]at he;rw[he];exact hs)];exact h
theorem Qaj{f:Owners}{S:Nat->Prop}{w w':World}{B n c:Nat}{e:TypeId}{s:Nat}{v:Value}{xs:List Value}(h:w.ownsRow B e s v n xs)(hf:FrmO f S w w')(hv:IsOf f c v)(hc:¬S c):w'.ownsRow B e s v n xs:=by
 refine⟨h.1,?_⟩
 rcases h.2 with h0 | ⟨g,cap,cur,rfl,hb,hg,rest⟩
 ·exact .inl h0
 ·exact .inr ⟨g,cap,cur,rfl,hb,Qaq hg hf (hv g rfl) hc,rest⟩
theorem Qbo{f:Owners}{S:Nat->Prop}{w w':World}{B n c:Nat}{e:TypeId}{s:Nat}{v:Value}{xs:List Value}(h:qRow w B e s v n xs)(hf:FrmO f S w w')(hv:IsOf f c v)(hc:¬S c):qRow w' B e s v n xs:=by
 refine⟨h.1,?_⟩
 rcases h.2 with h0 | ⟨g,off,cap,cur,rfl,hb,hg,h1,h2,h3,h4⟩
 ·exact .inl h0
 ·have hk:=hf.keep g (Qac hg) λc' he hs=>hc (by rw[hv g rfl]at he;simp only[Option.some.injEq]at he;rw[he];exact hs)
  refine .inr ⟨g,off,cap,cur,rfl,hb,hk.trans hg,h1,h2,h3,λj u hu=>?_⟩;rw[World.cell?_of_block (a:=⟨g,off+j,none⟩) hk];exact h4 j u hu
end
end Go.Proofs.YthccpacmklhejabGreatDoor
