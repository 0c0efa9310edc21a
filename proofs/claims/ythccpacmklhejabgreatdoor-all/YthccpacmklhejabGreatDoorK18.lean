import Derived.Test.YthccpacmklhejabGreatDoorTk
import Derived.Test.YthccpacmklhejabGreatDoorK17
import Derived.Test.YthccpacmklhejabGreatDoorK13
set_option maxRecDepth 4000
namespace Go.Proofs.YthccpacmklhejabGreatDoor
section
theorem Qds{W k:Nat}{l:List ChgM}{c:ChgM}(h:c∈toA W k l):c∈l/\c.pt.toNat % W=k:=by
 unfold toA at h;rw[List.mem_filter]at h;exact⟨h.1,by simpa using h.2⟩
theorem QhU(es:List Ev):∀pre,∀c∈outsFrom pre es,∃e∈es,c.pt=((grp e.key).1:Int)/\c.tx=(grp e.key).2:=by
 induction es with
 | nil=>intro pre c hc;simp[outsFrom]at hc
 | cons e es ih=>
  intro pre c hc;simp only[outsFrom,List.mem_append]at hc
  rcases hc with hc | hc
  ·split at hc
   ·simp only[List.mem_cons,List.not_mem_nil,or_false]at hc;exact⟨e,by simp,by rw[hc];rfl,by rw[hc];rfl⟩
   ·simp at hc
  ·obtain⟨e',h1,h2⟩:=ih _ c hc;exact⟨e',by simp[h1],h2⟩
theorem Qf3{W k n:Nat}{E:List Ev}{c:ChgM}(h:c∈allTo W k n E):0<=c.pt/\c.pt.toNat % W=k/\∃e∈E,c.pt=((grp e.key).1:Int)/\c.tx=(grp e.key).2:=by
 unfold allTo at h;obtain⟨i,_,hc⟩:=List.mem_flatMap.1 h;obtain⟨h1,h2⟩:=Qds hc;obtain⟨e,he,hp,ht⟩:=QhU _ _ c h1;unfold evs at he;exact⟨by rw[hp];exact Int.natCast_nonneg _,h2,e,List.mem_of_mem_take (List.mem_filter.1 he).1,hp,ht⟩
theorem Qcp{j:JobM}(hf:FlowOk j)(p n:Nat)(hn:n<=j.events.length){l:List ChgM}(h:l.Perm (allTo j.width (p % j.width) n j.events)):
  sumC (λc=>c.live) p l=tot fLive (j.events.take n) p/\sumC (λc=>c.delta) p l=tot fSum (j.events.take n) p/\sumC (λ_=>1) p l=tot fCnt (j.events.take n) p:=by
 rw[QbX h,QbX h,QbX h];exact⟨Qd5 says_live hf.hW _ _ _ hn,Qd5 says_sum hf.hW _ _ _ hn,Qd5 Ql0 hf.hW _ _ _ hn⟩
def gvC(l:List ChgM)(p:Nat):GV:=⟨p,sumC (λc=>c.live) p l,wrap16 (sumC (λc=>c.delta) p l),sumC (λ_=>1) p l % 256⟩
theorem QeW{j:JobM}(hf:FlowOk j)(p n:Nat)(hn:n<=j.events.length){l:List ChgM}(h:l.Perm (allTo j.width (p % j.width) n j.events)):gvC l p=gvOf (j.events.take n) p:=by
 obtain⟨h1,h2,h3⟩:=Qcp hf p n hn h;unfold gvC gvOf;rw[h1,h2,h3]
theorem QdL{j:JobM}(hf:FlowOk j)(p n:Nat)(hn:n<=j.events.length){l:List ChgM}(h:l.Perm (allTo j.width (p % j.width) n j.events)):p∈ptsOf (j.events.take n)↔∃c∈l,c.pt=(p:Int):=by
 rw[(QmM p (j.events.take n)).2,<-(Qcp hf p n hn h).2.2,(QcN p l).2]
theorem Qcq{g:ChgM->Int}{p:Nat}{l:List ChgM}(h:∀c∈l,c.pt≠(p:Int)):sumC g p l=0:=by
 induction l with
 | nil=>rfl
 | cons c l ih=>
  simp only[sumC];rw[if_neg (h c (by simp)),ih λx hx=>h x (by simp[hx])]
  rfl
def AdderM.chgd(a:AdderM)(p:Nat):Prop:=∃c∈(a.got.take a.marked).drop a.kept,c.pt=(p:Int)
theorem Qd9{j:JobM}(hf:FlowOk j)(hfl:j.fl=true){p:Nat}{a:AdderM}(ha:j.adders[p % j.width]? =some a)(hp:a.passed=true):
  (a.chgd p->p∈ptsOf (j.events.take j.off)/\gvC (a.got.take a.marked) p=gvOf (j.events.take j.off) p)/\
  (¬a.chgd p->gvOf (j.events.take j.off) p=gvOf (j.events.take j.base) p/\(p∈ptsOf (j.events.take j.off)↔p∈ptsOf (j.events.take j.base))):=by
 have o:=hf.adders _ a ha;obtain⟨m1,m2,m3,_⟩:=o.mark hfl hp;have hoff:=hf.off hfl;have hno:j.off<=j.events.length:=Nat.le_trans hoff.2 hf.sent;have hnb:j.base<=j.events.length:=Nat.le_trans hf.base hf.sent;refine⟨λh=>?_,λh=>?_⟩
 ·obtain⟨c,hc,hcp⟩:=h;exact⟨(QdL hf p _ hno m3).2 ⟨c,List.mem_of_mem_drop hc,hcp⟩,QeW hf p _ hno m3⟩
 ·have hspl:a.got.take a.marked=a.got.take a.kept++(a.got.take a.marked).drop a.kept:=by
   have h1:(a.got.take a.marked).take a.kept=a.got.take a.kept:=by rw[List.take_take,Nat.min_eq_left m1]
   rw[<-h1,List.take_append_drop]
  have hz:∀g:ChgM->Int,sumC g p (a.got.take a.marked)=sumC g p (a.got.take a.kept):=λg=>by
   rw[hspl,QaF,Qcq (l:=(a.got.take a.marked).drop a.kept) (λc hc e=>h ⟨c,hc,e⟩)];omega
  have hg:gvC (a.got.take a.marked) p=gvC (a.got.take a.kept) p:=by
   unfold gvC;rw[hz,hz,hz]
  refine⟨by rw[<-QeW hf p _ hno m3,hg,QeW hf p _ hnb o.kept_perm],?_⟩;rw[QdL hf p _ hno m3,QdL hf p _ hnb o.kept_perm,<-(QcN p _).2,<-(QcN p _).2,hz]
theorem Qjp{l1 l2:List GV}(h1:(l1.map (λr=>r.pt)).Pairwise (· < ·))(h2:(l2.map (λr=>r.pt)).Pairwise (· < ·))(h:∀r,r∈l1↔r∈l2):l1=l2:=by
 induction l1 generalizing l2 with
 | nil=>
  cases l2 with
  | nil=>rfl
  | cons r l2=>exact absurd ((h r).2 (by simp)) (by simp)
 | cons a l1 ih=>
  cases l2 with
  | nil=>exact absurd ((h a).1 (by simp)) (by simp)
  | cons b l2=>
   simp only[List.map_cons,List.pairwise_cons]at h1 h2
   have hlt1:∀r∈l1,a.pt<r.pt:=λr hr=>h1.1 r.pt (List.mem_map.2 ⟨r,hr,rfl⟩)
   have hlt2:∀r∈l2,b.pt<r.pt:=λr hr=>h2.1 r.pt (List.mem_map.2 ⟨r,hr,rfl⟩)
   have hab:a=b:=by
    rcases List.mem_cons.1 ((h a).1 (by simp))with e | ha
    ·exact e
    ·rcases List.mem_cons.1 ((h b).2 (by simp))with e | hb
     ·exact e.symm
     ·have:=hlt2 a ha;have:=hlt1 b hb;omega
   subst hab;congr 1
   refine ih h1.2 h2.2 λr=>⟨λhr=>?_,λhr=>?_⟩
   ·rcases List.mem_cons.1 ((h r).1 (by simp[hr]))with e | hr2
    ·subst e;have:=hlt1 r hr;omega
    ·exact hr2
   ·rcases List.mem_cons.1 ((h r).2 (by simp[hr]))with e | hr2
    ·subst e;have:=hlt2 r hr;omega
    ·exact hr2
theorem Qg7(es:List Ev):((tabOf es).map (λr=>r.pt)).Pairwise (· < ·):=by
 unfold tabOf;rw[List.map_map]
 have:(ptsOf es).map ((λr:GV=>r.pt) ∘ gvOf es)=ptsOf es:=by
  conv=>rhs;rw[<-List.map_id (ptsOf es)]
  exact List.map_congr_left λp _=>rfl
 rw[this];exact QaJ es
theorem Qea(es:List Ev)(r:GV):r∈tabOf es↔r.pt∈ptsOf es/\r=gvOf es r.pt:=by
 unfold tabOf;rw[List.mem_map];constructor
 ·rintro⟨p,hp,rfl⟩;exact⟨hp,rfl⟩
 ·rintro⟨h1,h2⟩;exact⟨r.pt,h1,h2.symm⟩
theorem Qjq{j:JobM}(hf:FlowOk j)(hfl:j.fl=true)(hp:∀a∈j.adders,a.passed=true){view:List GV}(hs:(view.map (λr=>r.pt)).Pairwise (· < ·))
  (hv:∀r,r∈view↔∃a,j.adders[r.pt % j.width]? =some a/\((a.chgd r.pt/\r=gvC (a.got.take a.marked) r.pt)\/(¬a.chgd r.pt/\r∈tabOf (j.events.take j.base)))):view=tabOf (j.events.take j.off):=by
 refine Qjp hs (Qg7 _) λr=>?_
 rw[hv];refine Iff.trans ?_ (Qea _ _).symm
 have hk:r.pt % j.width<j.adders.length:=by rw[hf.lenA];exact Nat.mod_lt _ hf.hW
 have ha:j.adders[r.pt % j.width]? =some (j.adders[r.pt % j.width]):=List.getElem?_eq_getElem hk;obtain⟨c1,c2⟩:=Qd9 hf hfl ha (hp _ (List.getElem_mem hk));constructor
 ·rintro⟨a,ha',h⟩;rw[ha]at ha';simp only[Option.some.injEq]at ha';subst ha'
  rcases h with⟨h1,h2⟩ | ⟨h1,h2⟩
  ·exact⟨(c1 h1).1,h2.trans (c1 h1).2⟩
  ·obtain⟨d1,d2⟩:=(Qea _ _).1 h2;exact⟨(c2 h1).2.2 d1,d2.trans (c2 h1).1.symm⟩
 ·rintro⟨h1,h2⟩;refine⟨_,ha,?_⟩
  by_cases hc:(j.adders[r.pt % j.width]).chgd r.pt
  ·exact .inl ⟨hc,h2.trans (c1 hc).2.symm⟩
  ·exact .inr ⟨hc,(Qea _ _).2 ⟨(c2 hc).2.1 h1,h2.trans (c2 hc).1⟩⟩
abbrev sortedX (t:List GX):Prop:=(t.map (λx=>x.v.pt)).Pairwise (· < ·)
theorem sortedX_cons{r:GX}{t:List GX}:sortedX (r :: t)↔(∀x∈t,r.v.pt<x.v.pt)/\sortedX t:=by
 unfold sortedX;rw[List.map_cons,List.pairwise_cons];simp
def putX(x:GX):List GX->List GX
 | []=>[x]
 | r :: rs=>if r.v.pt<x.v.pt then r :: putX x rs else if r.v.pt=x.v.pt then x :: rs else x :: r :: rs
theorem Qg8(x:GX):∀rs:List GX,(homeX x.v.pt rs).set (plcX x.v.pt rs) x=putX x rs
 | []=>by simp[homeX,plcX,putX]
 | r :: rs=>by
  by_cases c:r.v.pt<x.v.pt
  ·have e:plcX x.v.pt (r :: rs)=plcX x.v.pt rs+1:=by simp[plcX,c]
   have e2:homeX x.v.pt (r :: rs)=r :: homeX x.v.pt rs:=by
    unfold homeX;rw[e];simp only[List.getElem?_cons_succ,List.take_succ_cons,List.drop_succ_cons]
    split<;>simp
   rw[e,e2,List.set_cons_succ,Qg8 x rs]
   conv=>rhs;unfold putX
   rw[if_pos c]
  ·have e:plcX x.v.pt (r :: rs)=0:=by simp[plcX,c]
   by_cases d:r.v.pt=x.v.pt
   ·have e2:homeX x.v.pt (r :: rs)=r :: rs:=by
     unfold homeX;rw[e];simp[d]
    rw[e,e2,List.set_cons_zero];unfold putX;rw[if_neg c,if_pos d]
   ·have e2:homeX x.v.pt (r :: rs)=⟨⟨x.v.pt,0,0,0⟩,false⟩ :: r :: rs:=by
     unfold homeX;rw[e];simp[d]
    rw[e,e2,List.set_cons_zero];unfold putX;rw[if_neg c,if_neg d]
theorem QdM{x:GX}:∀ {t:List GX},sortedX t->∀y,y∈putX x t↔y=x\/(y∈t/\y.v.pt≠x.v.pt)
 | [],_,y=>by simp[putX]
 | r :: t,h,y=>by
  obtain⟨h1,h2⟩:=sortedX_cons.1 h;unfold putX
  by_cases c:r.v.pt<x.v.pt
  ·rw[if_pos c,List.mem_cons,QdM h2 y,List.mem_cons];constructor
   ·rintro(rfl | h | ⟨h3,h4⟩)
    ·exact .inr ⟨.inl rfl,by omega⟩
    ·exact .inl h
    ·exact .inr ⟨.inr h3,h4⟩
   ·rintro(h | ⟨h3 | h3,h4⟩)
    ·exact .inr (.inl h)
    ·exact .inl h3
    ·exact .inr (.inr ⟨h3,h4⟩)
  ·rw[if_neg c]
   by_cases d:r.v.pt=x.v.pt
   ·rw[if_pos d,List.mem_cons,List.mem_cons];constructor
    ·rintro(h | h)
     ·exact .inl h
     ·have:=h1 y h;exact .inr ⟨.inr h,by omega⟩
    ·rintro(h | ⟨h3 | h3,h4⟩)
     ·exact .inl h
     ·subst h3;exact absurd d h4
     ·exact .inr h3
   ·rw[if_neg d,List.mem_cons];constructor
    ·rintro(h | h)
     ·exact .inl h
     ·refine .inr ⟨h,?_⟩
      rcases List.mem_cons.1 h with rfl | h
      ·exact d
      ·have:=h1 y h;omega
    ·rintro(h | ⟨h3,h4⟩)
     ·exact .inl h
     ·exact .inr h3
theorem Qde{x:GX}:∀ {t:List GX},sortedX t->sortedX (putX x t)
 | [],_=>by simp[putX,sortedX]
 | r :: t,h=>by
  obtain⟨h1,h2⟩:=sortedX_cons.1 h;unfold putX
  by_cases c:r.v.pt<x.v.pt
  ·rw[if_pos c,sortedX_cons];refine⟨λy hy=>?_,Qde h2⟩
   rcases(QdM h2 y).1 hy with rfl | ⟨h3,_⟩
   ·exact c
   ·exact h1 y h3
  ·rw[if_neg c]
   by_cases d:r.v.pt=x.v.pt
   ·rw[if_pos d,sortedX_cons];exact⟨λy hy=>by have:=h1 y hy;omega,h2⟩
   ·rw[if_neg d,sortedX_cons];refine⟨λy hy=>?_,h⟩
    rcases List.mem_cons.1 hy with rfl | hy
    ·omega
    ·have:=h1 y hy;omega
def layX(over t:List GX):List GX:=over.foldl (λt x=>putX x t) t
theorem QdN:∀(over t:List GX),sortedX t->sortedX over->sortedX (layX over t)/\∀y,y∈layX over t↔y∈over\/(y∈t/\∀z∈over,z.v.pt≠y.v.pt)
 | [],t,h,_=>⟨h,λy=>by simp[layX]⟩
 | x :: over,t,h,ho=>by
  obtain⟨h1,h2⟩:=sortedX_cons.1 ho;obtain⟨i1,i2⟩:=QdN over (putX x t) (Qde h) h2;refine⟨i1,λy=>?_⟩;rw[show layX (x :: over) t=layX over (putX x t)from rfl,i2,QdM h];simp only[List.mem_cons];constructor
  ·rintro(h3 | ⟨rfl | ⟨h3,h4⟩,h5⟩)
   ·exact .inl (.inr h3)
   ·exact .inl (.inl rfl)
   ·refine .inr ⟨h3,λz hz=>?_⟩
    rcases hz with rfl | hz
    ·exact λe=>h4 e.symm
    ·exact h5 z hz
  ·rintro((rfl | h3) | ⟨h3,h4⟩)
   ·exact .inr ⟨.inl rfl,λz hz=>by have:=h1 z hz;omega⟩
   ·exact .inl h3
   ·exact .inr ⟨.inr ⟨h3,λe=>h4 x (.inl rfl) e.symm⟩,λz hz=>h4 z (.inr hz)⟩
theorem QhV(over:List GX):∀t:List GX,(layX over t).length<=t.length+over.length:=by
 have hp:∀(x:GX) (t:List GX),(putX x t).length<=t.length+1:=by
  intro x t
  induction t with
  | nil=>simp[putX]
  | cons r t ih=>
   unfold putX;split
   ·simp only[List.length_cons];omega
   ·split<;>simp only[List.length_cons]<;>omega
 induction over with
 | nil=>intro t;exact Nat.le_refl _
 | cons x over ih=>
  intro t;have:=ih (putX x t);have h2:=hp x t;rw[show layX (x :: over) t=layX over (putX x t)from rfl];simp only[List.length_cons];omega
def calmX(x:GX):GX:=⟨x.v,false⟩
def takenX(t:List GX):List GX:=(t.filter (λx=>x.ch)).map calmX
theorem Qew{t:List GX}(h:sortedX t):sortedX (t.map calmX):=by
 unfold sortedX;rw[List.map_map];exact h
theorem Qg9{t:List GX}(h:sortedX t):sortedX (takenX t):=by
 unfold takenX;refine Qew ?_;exact List.Pairwise.sublist (List.Sublist.map _ List.filter_sublist) h
theorem QkG{t:List GX}(x:GX):x∈takenX t↔∃y∈t,y.ch=true/\x=calmX y:=by
 unfold takenX;simp only[List.mem_map,List.mem_filter];constructor
 ·rintro⟨y,⟨h1,h2⟩,rfl⟩;exact⟨y,h1,h2,rfl⟩
 ·rintro⟨y,h1,h2,rfl⟩;exact⟨y,⟨h1,h2⟩,rfl⟩
structure TabIs (t:List GX) (got chg:List ChgM):Prop where
 sorted:sortedX t
 mem:∀x,x∈t↔(∃c∈got,c.pt=(x.v.pt:Int))/\x.v=gvC got x.v.pt/\(x.ch=true↔∃c∈chg,c.pt=(x.v.pt:Int))
theorem TabIs.nil:TabIs [] [] []:=⟨by simp[sortedX],λx=>by simp⟩
theorem TabIs.perm{t:List GX}{got got' chg chg':List ChgM}(h:TabIs t got chg)(hp:got.Perm got')(hc:∀c,c∈chg↔c∈chg'):TabIs t got' chg':=by
 refine⟨h.sorted,λx=>(h.mem x).trans ?_⟩
 have hg:gvC got x.v.pt=gvC got' x.v.pt:=by
  unfold gvC;rw[QbX hp,QbX hp,QbX hp]
 rw[hg];constructor
 ·rintro⟨⟨c,h1,h2⟩,h3,h4⟩;refine⟨⟨c,hp.mem_iff.1 h1,h2⟩,h3,h4.trans ?_⟩;exact⟨λ⟨c,a,b⟩=>⟨c,(hc c).1 a,b⟩,λ⟨c,a,b⟩=>⟨c,(hc c).2 a,b⟩⟩
 ·rintro⟨⟨c,h1,h2⟩,h3,h4⟩;refine⟨⟨c,hp.mem_iff.2 h1,h2⟩,h3,h4.trans ?_⟩;exact⟨λ⟨c,a,b⟩=>⟨c,(hc c).2 a,b⟩,λ⟨c,a,b⟩=>⟨c,(hc c).1 a,b⟩⟩
theorem QiT(p:Nat)(l s:Int):∀(t:List GX),sortedX t->∃x:GX,x.v.pt=p/\x.ch=true/\addX p l s t=putX x t/\((∃y∈t,y.v.pt=p/\x.v=y.v.plus l s)\/((∀y∈t,y.v.pt≠p)/\x.v=(GV.mk p 0 0 0).plus l s))
 | [],_=>⟨⟨(GV.mk p 0 0 0).plus l s,true⟩,rfl,rfl,rfl,.inr ⟨by simp,rfl⟩⟩
 | r :: t,h=>by
  obtain⟨h1,h2⟩:=sortedX_cons.1 h
  by_cases c:r.v.pt<p
  ·obtain⟨x,e1,e2,e3,e4⟩:=QiT p l s t h2;refine⟨x,e1,e2,?_,?_⟩
   ·unfold addX putX;rw[if_pos c,e1,if_pos c,e3]
   ·rcases e4 with⟨y,a,b⟩ | ⟨a,b⟩
    ·exact .inl ⟨y,by simp[a],b⟩
    ·refine .inr ⟨λy hy=>?_,b⟩
     rcases List.mem_cons.1 hy with rfl | hy
     ·omega
     ·exact a y hy
  ·by_cases d:r.v.pt=p
   ·refine⟨⟨r.v.plus l s,true⟩,d,rfl,?_,.inl ⟨r,by simp,d,rfl⟩⟩;have e:(GX.mk (r.v.plus l s) true).v.pt=r.v.pt:=rfl
    have c2:¬r.v.pt<(GX.mk (r.v.plus l s) true).v.pt:=by rw[e];omega
    unfold addX putX;rw[if_neg c,if_pos d,if_neg c2,if_pos e.symm]
   ·refine⟨⟨(GV.mk p 0 0 0).plus l s,true⟩,rfl,rfl,?_,.inr ⟨λy hy=>?_,rfl⟩⟩
    ·have e:(GX.mk ((GV.mk p 0 0 0).plus l s) true).v.pt=p:=rfl
     have c2:¬r.v.pt<(GX.mk ((GV.mk p 0 0 0).plus l s) true).v.pt:=by rw[e];exact c
     have d2:¬r.v.pt=(GX.mk ((GV.mk p 0 0 0).plus l s) true).v.pt:=by rw[e];exact d
     unfold addX putX;rw[if_neg c,if_neg d,if_neg c2,if_neg d2]
    ·rcases List.mem_cons.1 hy with rfl | hy
     ·exact d
     ·have:=h1 y hy;omega
theorem Ql3{got:List ChgM}{c:ChgM}{p:Nat}(h:c.pt=(p:Int)):gvC (got++[c]) p=(gvC got p).plus c.live (wrap16 c.delta):=by
 unfold gvC GV.plus;rw[QaF,QaF,QaF];simp only[sumC,if_pos h,Int.add_zero,GV.mk.injEq,true_and];refine⟨?_,?_⟩
 ·rw[Qc8,Qfb]
 ·omega
theorem QkH{got:List ChgM}{c:ChgM}{p:Nat}(h:c.pt≠(p:Int)):gvC (got++[c]) p=gvC got p:=by
 unfold gvC;rw[QaF,QaF,QaF];simp only[sumC,if_neg h,Int.add_zero]
theorem Ql4{got:List ChgM}{p:Nat}(h:∀c∈got,c.pt≠(p:Int)):gvC got p=⟨p,0,0,0⟩:=by
 unfold gvC;rw[Qcq h,Qcq h,Qcq h]
 rfl
theorem TabIs.add{t:List GX}{got chg:List ChgM}(h:TabIs t got chg){c:ChgM}{p:Nat}(hp:c.pt=(p:Int)):TabIs (addX p c.live (wrap16 c.delta) t) (got++[c]) (chg++[c]):=by
 obtain⟨x,e1,e2,e3,e4⟩:=QiT p c.live (wrap16 c.delta) t h.sorted
 have ex:x.v=gvC (got++[c]) p:=by
  rw[Ql3 hp]
  rcases e4 with⟨y,a,b,d⟩ | ⟨a,b⟩
  ·rw[d,((h.mem y).1 a).2.1,b]
  ·rw[b];rw[Ql4 λc' hc' e=>?_];have hm:(⟨gvC got p,decide (∃c∈chg,c.pt=(p:Int))⟩:GX)∈t:=(h.mem _).2 ⟨⟨c',hc',e⟩,rfl,by simp[gvC]⟩;exact a _ hm rfl
 rw[e3];refine⟨Qde h.sorted,λy=>(QdM h.sorted y).trans ?_⟩
 by_cases hy:y.v.pt=p
 ·have hcp:c.pt=(y.v.pt:Int):=by rw[hy];exact hp
  constructor
  ·rintro(rfl | ⟨_,hne⟩)
   ·refine⟨⟨c,by simp,hcp⟩,by rw[hy];exact ex,by rw[e2];exact⟨λ_=>⟨c,by simp,hcp⟩,λ_=>rfl⟩⟩
   ·exact absurd (hy.trans e1.symm) hne
  ·rintro⟨_,h2,h3⟩
   left
   have hch:y.ch=true:=h3.2 ⟨c,by simp,hcp⟩
   have hv:y.v=x.v:=by rw[h2,hy,ex]
   cases y;cases x;simp only at hch hv e2;rw[hv,hch,e2]
 ·have hcp:c.pt≠(y.v.pt:Int):=λe=>hy omQ
  have hm1:∀l:List ChgM,(∃c'∈l++[c],c'.pt=(y.v.pt:Int))↔∃c'∈l,c'.pt=(y.v.pt:Int):=λl=>by
   constructor
   ·rintro⟨c',h1,h2⟩
    rcases List.mem_append.1 h1 with h1 | h1
    ·exact⟨c',h1,h2⟩
    ·simp only[List.mem_singleton]at h1;subst h1;exact absurd h2 hcp
   ·rintro⟨c',h1,h2⟩;exact⟨c',by simp[h1],h2⟩
  rw[hm1,hm1,QkH hcp,<-h.mem y];constructor
  ·rintro(rfl | ⟨h1,_⟩)
   ·exact absurd e1 hy
   ·exact h1
  ·intro h1;exact .inr ⟨h1,λe=>hy (e.trans e1)⟩
theorem TabIs.calmed{t:List GX}{got chg:List ChgM}(h:TabIs t got chg):TabIs (t.map calmX) got []:=by
 refine⟨Qew h.sorted,λx=>?_⟩;simp only[List.mem_map];constructor
 ·rintro⟨y,hy,rfl⟩;obtain⟨a,b,_⟩:=(h.mem y).1 hy;exact⟨a,b,by simp[calmX]⟩
 ·rintro⟨a,b,d⟩;refine⟨⟨x.v,decide (∃c∈chg,c.pt=(x.v.pt:Int))⟩,(h.mem _).2 ⟨a,b,by simp⟩,?_⟩
  have hf:x.ch=false:=by
   cases e:x.ch with
   | false=>rfl
   | true=>obtain⟨c,hc,_⟩:=d.1 e;cases hc
  cases x;simp only at hf;rw[hf]
  rfl
theorem TabIs.taken{t:List GX}{got chg:List ChgM}(h:TabIs t got chg)(hsub:∀c∈chg,c∈got)(x:GX):x∈takenX t↔(∃c∈chg,c.pt=(x.v.pt:Int))/\x.v=gvC got x.v.pt/\x.ch=false:=by
 rw[QkG];constructor
 ·rintro⟨y,hy,hc,rfl⟩;obtain⟨a,b,d⟩:=(h.mem y).1 hy;exact⟨d.1 hc,b,rfl⟩
 ·rintro⟨⟨c,hc,hp⟩,b,d⟩;refine⟨⟨x.v,true⟩,(h.mem _).2 ⟨⟨c,hsub c hc,hp⟩,b,?_⟩,rfl,?_⟩
  ·simp only[true_iff];exact⟨c,hc,hp⟩
  ·cases x;simp only at d;rw[d]
   rfl
end
end Go.Proofs.YthccpacmklhejabGreatDoor
