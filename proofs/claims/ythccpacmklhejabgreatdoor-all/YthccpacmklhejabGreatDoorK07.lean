import Derived.Test.YthccpacmklhejabGreatDoorTk
import Derived.Test.YthccpacmklhejabGreatDoorK06
import Derived.Laws.IdiomStrings
import Derived.Test.YthccpacmklhejabGreatDoorK05
import Derived.Deep.DeepAppendWide
set_option maxHeartbeats 1000000
set_option maxRecDepth 100000
namespace Go.Proofs.YthccpacmklhejabGreatDoor
section
theorem QaI{α:Type}{P:List α->Prop}(h0:P [])(h1:∀l a,P l->P (l++[a]))(l:List α):P l:=by
 rw[<-List.reverse_reverse l]
 induction l.reverse with
 | nil=>exact h0
 | cons a t ih=>rw[List.reverse_cons];exact h1 _ _ ih
def keysOf(es:List Ev):List ByteArray:=es.foldl (λks e=>if ks.any (λk=>decide (k=e.key))then ks else ks++[e.key]) []
theorem Qeq(es:List Ev)(e:Ev):keysOf (es++[e])=if(keysOf es).any (λk=>decide (k=e.key))then keysOf es else keysOf es++[e.key]:=by
 unfold keysOf;rw[List.foldl_append]
 rfl
theorem QiM(ks:List ByteArray)(key:ByteArray):(ks.any λk=>decide (k=key))=true↔key∈ks:=by simp
theorem Qa7{es:List Ev}{e:Ev}(h:e.key∈keysOf es):keysOf (es++[e])=keysOf es:=by
 rw[Qeq,if_pos ((QiM _ _).2 h)]
theorem Qbn{es:List Ev}{e:Ev}(h:e.key∉keysOf es):keysOf (es++[e])=keysOf es++[e.key]:=by
 rw[Qeq,if_neg (λx=>h ((QiM _ _).1 x))]
theorem Qaz(key:ByteArray)(es:List Ev):key∈keysOf es↔∃e∈es,e.key=key:=by
 induction es using QaI with
 | h0=>simp[keysOf]
 | h1 l a ih=>
  by_cases hm:a.key∈keysOf l
  ·rw[Qa7 hm];constructor
   ·intro h;obtain⟨e,he,hk⟩:=ih.1 h;exact⟨e,by simp[he],hk⟩
   ·rintro⟨e,he,hk⟩
    rcases List.mem_append.1 he with he | he
    ·exact ih.2 ⟨e,he,hk⟩
    ·simp at he;subst he;rw[<-hk];exact hm
  ·rw[Qbn hm,List.mem_append];constructor
   ·rintro(h | h)
    ·obtain⟨e,he,hk⟩:=ih.1 h;exact⟨e,by simp[he],hk⟩
    ·simp at h;exact⟨a,by simp,h.symm⟩
   ·rintro⟨e,he,hk⟩
    rcases List.mem_append.1 he with he | he
    ·exact .inl (ih.2 ⟨e,he,hk⟩)
    ·simp at he;subst he;exact .inr (by simp[hk])
theorem QdY(es:List Ev):(keysOf es).Nodup:=by
 induction es using QaI with
 | h0=>simp[keysOf]
 | h1 l a ih=>
  by_cases hm:a.key∈keysOf l
  ·rw[Qa7 hm];exact ih
  ·rw[Qbn hm,List.nodup_append];refine⟨ih,by simp,?_⟩;intro x hx y hy e;simp at hy;subst hy;subst e;exact hm hx
theorem Qc7{key:ByteArray}{es:List Ev}(h:key∉keysOf es):knOf key es=Kn.none:=by
 unfold knOf;rw[List.filter_eq_nil_iff.2]
 ·rfl
 ·intro e he hk;exact h ((Qaz key es).2 ⟨e,he,by simpa using hk⟩)
theorem QlI(k:Kn)(e:Ev):(k.step e).had=true:=by
 unfold Kn.step Kn.counts;split
 ·rfl
 ·rename_i h
  simp at h;exact h.1
theorem QlJ{key:ByteArray}{es:List Ev}(h:key∈keysOf es):(knOf key es).had=true:=by
 induction es using QaI with
 | h0=>simp[keysOf]at h
 | h1 l a ih=>
  rw[QaW];split
  ·exact QlI _ _
  ·rename_i hne
   refine ih ?_;obtain⟨e,he,hk⟩:=(Qaz _ _).1 h
   rcases List.mem_append.1 he with he | he
   ·exact(Qaz _ _).2 ⟨e,he,hk⟩
   ·simp at he;subst he;exact absurd hk hne
def sumK(g:ByteArray->Int):List ByteArray->Int
 | []=>0
 | k :: ks=>g k+sumK g ks
theorem Qer(g:ByteArray->Int)(a b:List ByteArray):sumK g (a++b)=sumK g a+sumK g b:=by
 induction a with
 | nil=>simp[sumK]
 | cons k ks ih=>simp only[List.cons_append,sumK,ih];omega
theorem Qfa{g g':ByteArray->Int}{ks:List ByteArray}(h:∀k∈ks,g' k=g k):sumK g' ks=sumK g ks:=by
 induction ks with
 | nil=>rfl
 | cons k ks ih=>simp only[sumK];rw[h k (by simp),ih (λx hx=>h x (by simp[hx]))]
theorem QfS{g:ByteArray->Int}{ks:List ByteArray}(h:∀k∈ks,g k=0):sumK g ks=0:=by
 induction ks with
 | nil=>rfl
 | cons k ks ih=>simp only[sumK];rw[h k (by simp),ih (λx hx=>h x (by simp[hx]))];rfl
theorem QlK{g g':ByteArray->Int}{ks:List ByteArray}{k0:ByteArray}(hn:ks.Nodup)(hm:k0∈ks)(h:∀k∈ks,k≠k0->g' k=g k):sumK g' ks=sumK g ks+(g' k0-g k0):=by
 induction ks with
 | nil=>simp at hm
 | cons k ks ih=>
  rw[List.nodup_cons]at hn;simp only[sumK]
  by_cases e:k=k0
  ·subst e;rw[Qfa (λx hx=>h x (by simp[hx]) (λe=>hn.1 (e ▸ hx)))];omega
  ·rw[h k (by simp) e,ih hn.2 (by simpa[Ne.symm e]using hm) (λx hx=>h x (by simp[hx]))];omega
def tot(f:Kn->Int)(es:List Ev)(p:Nat):Int:=sumK (λk=>if(grp k).1=p then f (knOf k es)else 0) (keysOf es)
theorem QaS(f:Kn->Int)(h0:f Kn.none=0)(es:List Ev)(e:Ev)(p:Nat):
  tot f (es++[e]) p=tot f es p+(if(grp e.key).1=p then f ((knOf e.key es).step e)-f (knOf e.key es)else 0):=by
 unfold tot
 have hk:knOf e.key (es++[e])=(knOf e.key es).step e:=by rw[QaW,if_pos rfl]
 by_cases hm:e.key∈keysOf es
 ·rw[Qa7 hm,QlK (g:=λk=>if(grp k).1=p then f (knOf k es)else 0) (QdY es) hm (λk _ hk=>by rw[QaW,if_neg (Ne.symm hk)])];simp only[hk]
  split<;>omega
 ·rw[Qbn hm,Qer,Qfa (g:=λk=>if(grp k).1=p then f (knOf k es)else 0) (λk hx=>by have hne:¬e.key=k:=λx=>hm (by rw[x];exact hx);simp only[QaW,if_neg hne])];simp only[sumK,hk,Qc7 hm,h0]
  split<;>omega
def fLive(k:Kn):Int:=if k.there then 1 else 0
def fSum(k:Kn):Int:=if k.there then k.value else 0
def fCnt(k:Kn):Int:=k.count
def ins(p:Nat):List Nat->List Nat
 | []=>[p]
 | q :: qs=>if q<p then q :: ins p qs else if q=p then q :: qs else p :: q :: qs
def ptsOf(es:List Ev):List Nat:=es.foldl (λps e=>ins (grp e.key).1 ps) []
theorem QbK(es:List Ev)(e:Ev):ptsOf (es++[e])=ins (grp e.key).1 (ptsOf es):=by
 unfold ptsOf;rw[List.foldl_append]
 rfl
theorem QfF(p q:Nat)(ps:List Nat):q∈ins p ps↔q=p\/q∈ps:=by
 induction ps with
 | nil=>simp[ins]
 | cons r rs ih=>
  unfold ins;split
  ·simp only[List.mem_cons,ih];constructor
   ·rintro(h | h | h)
    ·exact .inr (.inl h)
    ·exact .inl h
    ·exact .inr (.inr h)
   ·rintro(h | h | h)
    ·exact .inr (.inl h)
    ·exact .inl h
    ·exact .inr (.inr h)
  ·split
   ·rename_i e
    subst e;simp
   ·simp
theorem Qi7{p:Nat}{ps:List Nat}(h:ps.Pairwise (· < ·)):(ins p ps).Pairwise (· < ·):=by
 induction ps with
 | nil=>simp[ins]
 | cons r rs ih=>
  rw[List.pairwise_cons]at h;unfold ins;split
  ·rename_i hlt
   rw[List.pairwise_cons];refine⟨λq hq=>?_,ih h.2⟩
   rcases(QfF p q rs).1 hq with rfl | hq
   ·exact hlt
   ·exact h.1 q hq
  ·split
   ·rw[List.pairwise_cons];exact h
   ·rename_i h1 h2
    rw[List.pairwise_cons];refine⟨λq hq=>?_,by rw[List.pairwise_cons];exact h⟩
    rcases List.mem_cons.1 hq with rfl | hq
    ·omega
    ·have:=h.1 q hq;omega
theorem QmG{p:Nat}{ps:List Nat}(h:ps.Pairwise (· < ·))(hm:p∈ps):ins p ps=ps:=by
 induction ps with
 | nil=>simp at hm
 | cons r rs ih=>
  rw[List.pairwise_cons]at h;unfold ins
  rcases List.mem_cons.1 hm with rfl | hm
  ·simp
  ·have:=h.1 p hm;rw[if_pos this,ih h.2 hm]
theorem QaJ(es:List Ev):(ptsOf es).Pairwise (· < ·):=by
 induction es using QaI with
 | h0=>simp[ptsOf]
 | h1 l a ih=>rw[QbK];exact Qi7 ih
theorem Qbj(p:Nat)(es:List Ev):p∈ptsOf es↔∃k∈keysOf es,(grp k).1=p:=by
 have:p∈ptsOf es↔∃e∈es,(grp e.key).1=p:=by
  induction es using QaI with
  | h0=>simp[ptsOf]
  | h1 l a ih=>
   rw[QbK,QfF,ih];constructor
   ·rintro(h | ⟨e,he,hp⟩)
    ·exact⟨a,by simp,h.symm⟩
    ·exact⟨e,by simp[he],hp⟩
   ·rintro⟨e,he,hp⟩
    rcases List.mem_append.1 he with he | he
    ·exact .inr ⟨e,he,hp⟩
    ·simp at he;subst he;exact .inl hp.symm
 rw[this];constructor
 ·rintro⟨e,he,hp⟩;exact⟨e.key,(Qaz _ _).2 ⟨e,he,rfl⟩,hp⟩
 ·rintro⟨k,hk,hp⟩;obtain⟨e,he,rfl⟩:=(Qaz _ _).1 hk;exact⟨e,he,hp⟩
theorem QeO(f:Kn->Int){es:List Ev}{p:Nat}(h:p∉ptsOf es):tot f es p=0:=
 QfS λk hk=>by rw[if_neg λe=>h ((Qbj p es).2 ⟨k,hk,e⟩)]
def textAt(p:Nat)(l s c:Int):List UInt8:=(Utf8.encode (p:Int)).data.toList++[32]++decI l++[32]++decI (wrap16 s)++[32]++decI (c % 256)++[59]
def foldB(es:List Ev):List UInt8:=(ptsOf es).flatMap λp=>textAt p (tot fLive es p) (tot fSum es p) (tot fCnt es p)
structure GV where
 pt:Nat
 live:Int
 sum:Int
 ev:Int
def gvOf(es:List Ev)(p:Nat):GV:=⟨p,tot fLive es p,wrap16 (tot fSum es p),tot fCnt es p % 256⟩
def tabOf(es:List Ev):List GV:=(ptsOf es).map (gvOf es)
def GV.plus(r:GV)(l s:Int):GV:=⟨r.pt,r.live+l,wrap16 (r.sum+s),(r.ev+1) % 256⟩
def addG(p:Nat)(l s:Int):List GV->List GV
 | []=>[(GV.mk p 0 0 0).plus l s]
 | r :: rs=>if r.pt<p then r :: addG p l s rs else if r.pt=p then r.plus l s :: rs else(GV.mk p 0 0 0).plus l s :: r :: rs
theorem QmH{p:Nat}{l s:Int}{ps:List Nat}{g g':Nat->GV}(hs:ps.Pairwise (· < ·))(hg:∀q,(g q).pt=q)(hq:∀q,q≠p->g' q=g q)
  (h1:p∈ps->g' p=(g p).plus l s) (h0:p∉ps->g' p=(GV.mk p 0 0 0).plus l s):(ins p ps).map g'=addG p l s (ps.map g):=by
 induction ps with
 | nil=>simp[ins,addG,h0]
 | cons q qs ih=>
  rw[List.pairwise_cons]at hs;unfold ins;simp only[List.map_cons,addG,hg]
  by_cases c1:q<p
  ·rw[if_pos c1,if_pos c1,List.map_cons,hq q omQ];congr 1;refine ih hs.2 (λhm=>h1 (by simp[hm])) (λhm=>h0 ?_);simp only[List.mem_cons,not_or];exact⟨by omega,hm⟩
  ·rw[if_neg c1,if_neg c1]
   by_cases c2:q=p
   ·subst c2;rw[if_pos rfl,if_pos rfl,List.map_cons,h1 (by simp)];congr 1
    exact List.map_congr_left λx hx=>hq x (by have:=hs.1 x hx;omega)
   ·rw[if_neg c2,if_neg c2,List.map_cons,List.map_cons,hq q c2]
    have hn:p∉q :: qs:=by
     intro hm
     rcases List.mem_cons.1 hm with e | hm
     ·exact c2 e.symm
     ·have:=hs.1 p hm;omega
    rw[h0 hn];congr 2
    exact List.map_congr_left λx hx=>hq x (by have:=hs.1 x hx;omega)
theorem Qfb(a b:Int):wrap16 (wrap16 a+b)=wrap16 (a+b):=by
 unfold wrap16
 split<;>split<;>split<;>omega
theorem Qc8(a b:Int):wrap16 (a+wrap16 b)=wrap16 (a+b):=by
 unfold wrap16
 split<;>split<;>split<;>omega
theorem QgM{es:List Ev}{e:Ev}(h:(knOf e.key es).counts e=true):
  tabOf (es++[e])=addG (grp e.key).1 (fLive ((knOf e.key es).step e)-fLive (knOf e.key es)) (wrap16 (fSum ((knOf e.key es).step e)-fSum (knOf e.key es))) (tabOf es):=by
 unfold tabOf;rw[QbK]
 have hc:fCnt ((knOf e.key es).step e)-fCnt (knOf e.key es)=1:=by
  unfold Kn.step fCnt;rw[if_pos h];simp only;omega
 refine QmH (QaJ es) (λq=>rfl) (λq hq=>?_) (λhm=>?_) (λhm=>?_)
 ·unfold gvOf;rw[QaS fLive rfl,QaS fSum rfl,QaS fCnt rfl,if_neg (Ne.symm hq),if_neg (Ne.symm hq),if_neg (Ne.symm hq),Int.add_zero,Int.add_zero,Int.add_zero]
 ·unfold gvOf GV.plus;rw[QaS fLive rfl,QaS fSum rfl,QaS fCnt rfl,if_pos rfl,if_pos rfl,if_pos rfl,Qfb,Qc8,hc];simp only[GV.mk.injEq,true_and];omega
 ·unfold gvOf GV.plus;rw[QaS fLive rfl,QaS fSum rfl,QaS fCnt rfl,if_pos rfl,if_pos rfl,if_pos rfl,Qc8,hc,QeO _ hm,QeO _ hm,QeO _ hm]
theorem Qbu{es:List Ev}{e:Ev}(h:e.key∉keysOf es):(knOf e.key es).counts e=true:=by
 rw[Qc7 h]
 rfl
theorem QgN{k:Kn}{e:Ev}(h:k.counts e=false):k.step e=k:=by
 unfold Kn.step;rw[h]
 rfl
theorem Qkp{es:List Ev}{e:Ev}(h:(knOf e.key es).counts e=false):tabOf (es++[e])=tabOf es:=by
 have hm:e.key∈keysOf es:=Classical.byContradiction λx=>by rw[Qbu x]at h;cases h
 unfold tabOf;rw[QbK,QmG (QaJ es) ((Qbj _ _).2 ⟨_,hm,rfl⟩)]
 refine List.map_congr_left λq _=>?_
 unfold gvOf;rw[QaS fLive rfl,QaS fSum rfl,QaS fCnt rfl,QgN h];simp
structure EV where
 name:ByteArray
 seq:Nat
 live:Int
 value:Int
def entOf(es:List Ev)(k:ByteArray):EV:=⟨k,(knOf k es).last,fLive (knOf k es),fSum (knOf k es)⟩
abbrev entsOf (es:List Ev):List EV:=(keysOf es).map (entOf es)
def madeE(e:Ev):EV:=⟨e.key,e.seq,if e.op=1 then 1 else 0,if e.op=1 then e.val else 0⟩
def plcE(l:List EV)(key:ByteArray):Nat:=l.findIdx (λr=>decide (r.name=key))
theorem QdD{es:List Ev}{e:Ev}(h:(knOf e.key es).counts e=true):entOf (es++[e]) e.key=madeE e:=by
 unfold entOf madeE;rw[QaW,if_pos rfl];unfold Kn.step fLive fSum;rw[if_pos h];simp
theorem Qc9{es:List Ev}{e:Ev}{k:ByteArray}(h:e.key≠k):entOf (es++[e]) k=entOf es k:=by
 unfold entOf;rw[QaW,if_neg h]
theorem QdE{es:List Ev}{key:ByteArray}(h:key∈keysOf es):∃hl:plcE (entsOf es) key<(entsOf es).length,(entsOf es)[plcE (entsOf es) key]=entOf es key:=by
 have hl:plcE (entsOf es) key<(entsOf es).length:=by
  unfold plcE;rw[List.findIdx_lt_length];exact⟨entOf es key,List.mem_map.2 ⟨key,h,rfl⟩,by simp[entOf]⟩
 refine⟨hl,?_⟩
 have hn:((entsOf es)[plcE (entsOf es) key]).name=key:=by
  have:=List.findIdx_getElem (xs:=entsOf es) (p:=λr:EV=>decide (r.name=key)) (w:=hl);exact of_decide_eq_true this
 obtain⟨k,_,e⟩:=List.mem_map.1 (List.getElem_mem hl);rw[<-e]at hn ⊢;have hk:k=key:=hn;rw[hk]
theorem Qda{es:List Ev}{key:ByteArray}(h:key∉keysOf es):plcE (entsOf es) key=(entsOf es).length:=by
 unfold plcE;rw[List.findIdx_eq_length];intro r hr;obtain⟨k,hk,rfl⟩:=List.mem_map.1 hr
 have hne:¬k=key:=λx=>h (by rw[<-x];exact hk)
 exact decide_eq_false hne
theorem Qfc{es:List Ev}{e:Ev}(h:(knOf e.key es).counts e=false):entsOf (es++[e])=entsOf es:=by
 have hm:e.key∈keysOf es:=Classical.byContradiction λx=>by rw[Qbu x]at h;cases h
 unfold entsOf;rw[Qa7 hm]
 refine List.map_congr_left λk _=>?_
 by_cases hk:e.key=k
 ·subst hk;unfold entOf;rw[QaW,if_pos rfl,QgN h]
 ·exact Qc9 hk
theorem Qi8{es:List Ev}{e:Ev}(h:e.key∉keysOf es):entsOf (es++[e])=entsOf es++[madeE e]:=by
 unfold entsOf;rw[Qbn h,List.map_append,List.map_cons,List.map_nil,QdD (Qbu h)];congr 1
 exact List.map_congr_left λk hk=>Qc9 λx=>h (x ▸ hk)
theorem Qi9{es:List Ev}{e:Ev}(hm:e.key∈keysOf es)(h:(knOf e.key es).counts e=true):entsOf (es++[e])=(entsOf es).set (plcE (entsOf es) e.key) (madeE e):=by
 obtain⟨hl,hp⟩:=QdE hm
 obtain⟨n,hn⟩:∃n,plcE (entsOf es) e.key=n:=⟨_,rfl⟩
 simp only[hn]at hl hp ⊢
 have hnk:(keysOf es)[n]? =some e.key:=by
  rw[List.length_map]at hl;rw[List.getElem_map]at hp;rw[List.getElem?_eq_getElem hl];exact congrArg some (congrArg EV.name hp)
 apply List.ext_getElem?;intro i;unfold entsOf;rw[List.getElem?_set,Qa7 hm,List.getElem?_map,List.getElem?_map]
 by_cases hi:n=i
 ·subst hi;rw[if_pos rfl,if_pos (by simpa using hl),hnk];simp only[Option.map_some];rw[QdD h]
 ·rw[if_neg hi]
  cases hk:(keysOf es)[i]? with
  | none=>rfl
  | some k=>
   simp only[Option.map_some];congr 1
   refine Qc9 λx=>hi ?_
   obtain⟨h1,e1⟩:=List.getElem?_eq_some_iff.1 hnk;obtain⟨h2,e2⟩:=List.getElem?_eq_some_iff.1 hk;exact(List.getElem_inj (QdY es)).1 (e1.trans (x.trans e2.symm))
def valK(f:Kn->Int)(es:List Ev)(ks:List ByteArray)(p:Nat):Int:=sumK (λk=>if(grp k).1=p then f (knOf k es)else 0) ks
theorem QbW(f:Kn->Int)(es:List Ev)(ks:List ByteArray)(key:ByteArray)(p:Nat):valK f es (ks++[key]) p=valK f es ks p+(if(grp key).1=p then f (knOf key es)else 0):=by
 unfold valK;rw[Qer];simp[sumK]
def RowIs(es:List Ev)(ks:List ByteArray)(r:RowV):Prop:=
 (r.live:Int)=valK fLive es ks r.pt/\r.sum=valK fSum es ks r.pt/\(r.ev:Int)=valK fCnt es ks r.pt/\∃k∈ks,grp k=(r.pt,r.tx)
def RowsAre(es:List Ev)(ks:List ByteArray)(rs:List RowV):Prop:=
 (rs.map (·.pt)).Nodup/\(∀k∈ks,(grp k).1∈rs.map (·.pt))/\∀r∈rs,RowIs es ks r
theorem RowIs.other{es:List Ev}{ks:List ByteArray}{r:RowV}{key:ByteArray}(h:RowIs es ks r)(hp:¬(grp key).1=r.pt):RowIs es (ks++[key]) r:=by
 obtain⟨h1,h2,h3,k,hk,hg⟩:=h;refine⟨?_,?_,?_,k,by simp[hk],hg⟩
 ·rw[QbW,if_neg hp,Int.add_zero];exact h1
 ·rw[QbW,if_neg hp,Int.add_zero];exact h2
 ·rw[QbW,if_neg hp,Int.add_zero];exact h3
theorem QfT{es:List Ev}{ks:List ByteArray}{r:RowV}{key:ByteArray}(h1:(r.live:Int)=valK fLive es ks r.pt)(h2:r.sum=valK fSum es ks r.pt)(h3:(r.ev:Int)=valK fCnt es ks r.pt)(hp:(grp key).1=r.pt)(ht:∃k∈ks++[key],grp k=(r.pt,r.tx)):
  RowIs es (ks++[key]) (addRow (knOf key es) r):=by
 have hpt:(addRow (knOf key es) r).pt=r.pt:=by unfold addRow;split<;>rfl
 have htx:(addRow (knOf key es) r).tx=r.tx:=by unfold addRow;split<;>rfl
 unfold RowIs;rw[hpt,htx,QbW,QbW,QbW,if_pos hp,if_pos hp,if_pos hp,<-h1,<-h2,<-h3];refine⟨?_,?_,?_,ht⟩
 ·unfold addRow fLive
  split<;>simp
 ·unfold addRow fSum
  split<;>simp
 ·unfold addRow fCnt
  split<;>simp
theorem Qja{rs:List RowV}{p:Nat}(h:placeS rs p<rs.length):(rs[placeS rs p]).pt=p:=by
 have:=List.findIdx_getElem (xs:=rs) (p:=λr:RowV=>decide (r.pt=p)) (w:=h);exact of_decide_eq_true this
theorem Qjb{rs:List RowV}{p:Nat}(h:¬placeS rs p<rs.length):p∉rs.map (·.pt):=by
 intro hm;obtain⟨r,hr,rfl⟩:=List.mem_map.1 hm;exact h (List.findIdx_lt_length.2 ⟨r,hr,by simp⟩)
theorem QgO{rs:List RowV}{n:Nat}(h:n<rs.length){x:RowV}(hx:x.pt=rs[n].pt):(rs.set n x).map (·.pt)=rs.map (·.pt):=by
 rw[List.map_set];apply List.ext_getElem?;intro i;rw[List.getElem?_set];split
 ·rename_i e
  subst e;rw[if_pos (by simpa using h),List.getElem?_map,List.getElem?_eq_getElem h,hx]
  rfl
 ·rfl
theorem Qjc{es:List Ev}{ks:List ByteArray}{rs:List RowV}{key:ByteArray}(h:RowsAre es ks rs):RowsAre es (ks++[key]) (addKey es rs key):=by
 obtain⟨hn,hc,hr⟩:=h
 by_cases hl:placeS rs (grp key).1<rs.length
 ·obtain⟨n,hnn⟩:∃n,placeS rs (grp key).1=n:=⟨_,rfl⟩
  have hp:=Qja hl;simp only[hnn]at hp;have hl2:n<rs.length:=omQ;rw[QdB hnn hl2]
  have hpt:(addRow (knOf key es) rs[n]).pt=rs[n].pt:=by unfold addRow;split<;>rfl
  have hm:=QgO hl2 hpt;refine⟨by rw[hm];exact hn,?_,?_⟩
  ·intro k hk;rw[hm]
   rcases List.mem_append.1 hk with hk | hk
   ·exact hc k hk
   ·simp at hk;subst hk;exact List.mem_map.2 ⟨rs[n],List.getElem_mem hl2,hp⟩
  ·intro r hr2;obtain⟨i,hi,rfl⟩:=List.getElem_of_mem hr2
   have hi':i<rs.length:=by simpa using hi
   rw[List.getElem_set];split
   ·obtain⟨a1,a2,a3,k,hk,hg⟩:=hr _ (List.getElem_mem hl2);exact QfT a1 a2 a3 hp.symm ⟨k,by simp[hk],hg⟩
   ·rename_i hne
    refine(hr _ (List.getElem_mem hi')).other λe=>hne ?_
    have hn2:(rs.map (·.pt))[n]'(by simpa using hl2)=(rs.map (·.pt))[i]'(by simpa using hi'):=by simp[hp,e]
    exact(List.getElem_inj hn).1 hn2
 ·have hle:placeS rs (grp key).1=rs.length:=Nat.le_antisymm (List.findIdx_le_length) omQ;have hno:=Qjb hl;rw[QdC hle]
  have hset:(rs++[RowV.mk (grp key).1 (grp key).2 0 0 0]).set rs.length (addRow (knOf key es) ⟨(grp key).1,(grp key).2,0,0,0⟩)=rs++[addRow (knOf key es) ⟨(grp key).1,(grp key).2,0,0,0⟩]:=by simp
  rw[hset]
  have hpt:(addRow (knOf key es) ⟨(grp key).1,(grp key).2,0,0,0⟩).pt=(grp key).1:=by unfold addRow;split<;>rfl
  have hz:∀f,valK f es ks (grp key).1=0:=λf=>QfS λk hk=>by rw[if_neg λe=>hno (by rw[<-e];exact hc k hk)]
  refine⟨?_,?_,?_⟩
  ·rw[List.map_append,List.nodup_append];refine⟨hn,by simp,?_⟩;intro x hx y hy e;simp only[List.map_cons,List.map_nil,List.mem_singleton,hpt]at hy;subst hy;subst e;exact hno hx
  ·intro k hk;rw[List.map_append]
   rcases List.mem_append.1 hk with hk | hk
   ·exact List.mem_append.2 (.inl (hc k hk))
   ·simp at hk;subst hk;exact List.mem_append.2 (.inr (by simp[hpt]))
  ·intro r hr2
   rcases List.mem_append.1 hr2 with hr2 | hr2
   ·refine(hr r hr2).other λe=>hno ?_
    rw[e];exact List.mem_map.2 ⟨r,hr2,rfl⟩
   ·simp at hr2;subst hr2;exact QfT (by rw[hz];rfl) (by rw[hz]) (by rw[hz];rfl) rfl ⟨key,by simp,rfl⟩
theorem Qb1(es:List Ev):∀i,i<=es.length->RowsAre es (keysOf (es.take i)) (rowsTo es i)
 | 0,_=>by simp[RowsAre,rowsTo,keysOf]
 | i+1,h=>by
  have ih:=Qb1 es i omQ;have hi:i<es.length:=omQ;rw[rowsTo,dif_pos hi,List.take_succ_eq_append_getElem hi]
  by_cases hm:(es[i]).key∈keysOf (es.take i)
  ·have ho:oldTo es i (es[i]).key=true:=by
    unfold oldTo;obtain⟨e,he,hk⟩:=(Qaz _ _).1 hm;exact List.any_eq_true.2 ⟨e,he,by simp[hk]⟩
   rw[if_pos ho,Qa7 hm];exact ih
  ·have ho:¬oldTo es i (es[i]).key=true:=λx=>by
    unfold oldTo at x;obtain⟨e,he,hk⟩:=List.any_eq_true.1 x;exact hm ((Qaz _ _).2 ⟨e,he,by simpa using hk⟩)
   rw[if_neg ho,Qbn hm];exact Qjc ih
def rowText(r:RowV):List UInt8:=r.tx.data.toList++[32]++decI (r.live:Int)++[32]++decI (wrap16 r.sum)++[32]++decI ((r.ev:Int) % 256)++[59]
def rankR(rs:List RowV)(p:Nat):Nat:=rs.countP (λq=>decide (q.pt<p))
def placed(rs:List RowV)(i:Nat):List (List UInt8):=(rs.take i).foldl (λts r=>ts.set (rankR rs r.pt) (rowText r)) (List.replicate rs.length [])
theorem QbR(rs:List RowV)(i:Nat):(placed rs i).length=rs.length:=by
 unfold placed;generalize rs.take i=l
 induction l using QaI with
 | h0=>simp
 | h1 l a ih=>rw[List.foldl_append];simpa using ih
theorem QhL(rs:List RowV)(i:Nat)(h:i<rs.length):placed rs (i+1)=(placed rs i).set (rankR rs (rs[i]).pt) (rowText rs[i]):=by
 unfold placed;rw[List.take_succ_eq_append_getElem h,List.foldl_append]
 rfl
theorem Qb2{ps:List Nat}(hs:ps.Pairwise (· < ·)):∀(i:Nat) (h:i<ps.length),ps.countP (λq=>decide (q<ps[i]))=i:=by
 induction ps with
 | nil=>intro i h;simp at h
 | cons q qs ih=>
  rw[List.pairwise_cons]at hs;intro i h
  cases i with
  | zero=>
   simp only[List.getElem_cons_zero];rw[List.countP_eq_zero];intro x hx
   rcases List.mem_cons.1 hx with rfl | hx
   ·simp
   ·have:=hs.1 x hx;simp
    omega
  | succ i=>
   have hi:i<qs.length:=by simpa using h
   simp only[List.getElem_cons_succ];rw[List.countP_cons_of_pos (by simpa using hs.1 _ (List.getElem_mem hi)),ih hs.2 i hi]
theorem QcL{a b:List Nat}(ha:a.Nodup)(hb:b.Nodup)(h:∀p,p∈a↔p∈b):a.Perm b:=by
 rw[List.perm_iff_count];intro p;have h1:=List.nodup_iff_count.1 ha p;have h2:=List.nodup_iff_count.1 hb p
 by_cases hm:p∈a
 ·have:=List.count_pos_iff.2 hm;have:=List.count_pos_iff.2 ((h p).1 hm);omega
 ·rw[List.count_eq_zero.2 hm,List.count_eq_zero.2 λx=>hm ((h p).2 x)]
theorem QdZ{ix:RowV->Nat}{tx:RowV->List UInt8}{ts:List (List UInt8)}{n:Nat}(hn:n<ts.length):
  ∀(l:List RowV),(∀r∈l,∀r'∈l,ix r=ix r'->tx r=tx r')->∀r∈l,ix r=n->(l.foldl (λts r=>ts.set (ix r) (tx r)) ts)[n]? =some (tx r):=by
 intro l
 have hlen:∀l:List RowV,(l.foldl (λts r=>ts.set (ix r) (tx r)) ts).length=ts.length:=by
  intro l
  induction l using QaI with
  | h0=>rfl
  | h1 l a ih=>rw[List.foldl_append];simpa using ih
 induction l using QaI with
 | h0=>intro _ r hr;simp at hr
 | h1 l a ih=>
  intro hinj r hr hx;rw[List.foldl_append];simp only[List.foldl_cons,List.foldl_nil,List.getElem?_set]
  by_cases e:ix a=n
  ·rw[if_pos e,if_pos (by rw[hlen,e];exact hn)];congr 1;exact hinj a (by simp) r hr (e.trans hx.symm)
  ·rw[if_neg e]
   have hrl:r∈l:=by
    rcases List.mem_append.1 hr with h | h
    ·exact h
    ·simp at h;subst h;exact absurd hx e
   exact ih (λx hx y hy=>hinj x (by simp[hx]) y (by simp[hy])) r hrl hx
theorem QiN{key:ByteArray}(h:validB key=true):(grp key).2.data.toList=(Utf8.encode ((grp key).1:Int)).data.toList:=by
 unfold validB at h;simp only[Bool.and_eq_true,decide_eq_true_eq]at h;have h0:0<key.size:=omQ
 have hs:(ptS key 0).2≠0:=by
  intro e;have:=(Qei key (key.size-1) 0 h0).1 e;rw[show key.size-1+1=key.size by omega,h.2]at this;cases this
 have hb:¬Utf8.decode key 0=(65533,1):=by
  intro e;unfold ptS at hs;rw[if_pos e]at hs;exact hs rfl
 have hp:ptS key 0=Utf8.decode key 0:=by unfold ptS;rw[if_neg hb]
 rcases Qe5 key 0 h0 with h1 | ⟨h1,h2⟩
 ·exact absurd h1 hb
 ·unfold grp;rw[hp];simp only;rw[QaA,List.drop_zero,Nat.sub_zero,<-h2];rw[List.drop_zero]at h1;rw[<-h1,List.take_left']
  rfl
theorem QhM{es:List Ev}(hv:∀e∈es,validB e.key=true):(placed (rowsTo es es.length) (rowsTo es es.length).length).flatten=foldB es:=by
 have hA:=Qb1 es es.length (Nat.le_refl _);rw[List.take_length]at hA;generalize rowsTo es es.length=rs at hA;obtain⟨hn,hc,hr⟩:=hA
 have hperm:(rs.map (·.pt)).Perm (ptsOf es):=by
  refine QcL hn ((QaJ es).imp λh=>Nat.ne_of_lt h) λp=>?_
  rw[Qbj];constructor
  ·intro hm;obtain⟨r,hr2,rfl⟩:=List.mem_map.1 hm;obtain⟨_,_,_,k,hk,hg⟩:=hr r hr2;exact⟨k,hk,by rw[hg]⟩
  ·rintro⟨k,hk,rfl⟩;exact hc k hk
 have hlen:rs.length=(ptsOf es).length:=by simpa using hperm.length_eq
 have hrank:∀p,rankR rs p=(ptsOf es).countP (λq=>decide (q<p)):=by
  intro p;rw[<-hperm.countP_eq,List.countP_map]
  rfl
 obtain⟨T,hT⟩:∃T:Nat->List UInt8,(λp=>textAt p (tot fLive es p) (tot fSum es p) (tot fCnt es p))=T:=⟨_,rfl⟩
 have htx:∀r∈rs,rowText r=T r.pt:=by
  intro r hr2;obtain⟨h1,h2,h3,k,hk,hg⟩:=hr r hr2;rw[<-hT];unfold rowText textAt;obtain⟨e,he,rfl⟩:=(Qaz _ _).1 hk;have hge:=QiN (hv e he);rw[hg]at hge;simp only at hge;rw[hge,h1,h2,h3]
  rfl
 have hix:∀r∈rs,∃h:rankR rs r.pt<(ptsOf es).length,(ptsOf es)[rankR rs r.pt]=r.pt:=by
  intro r hr2;obtain⟨i,hi,e⟩:=List.getElem_of_mem (hperm.mem_iff.1 (List.mem_map.2 ⟨r,hr2,rfl⟩));have hcs:=Qb2 (QaJ es) i hi;rw[e,<-hrank]at hcs;subst hcs;exact⟨hi,e⟩
 have hfin:placed rs rs.length=(ptsOf es).map T:=by
  apply List.ext_getElem?;intro n
  by_cases hl:n<(ptsOf es).length
  ·obtain⟨r,hr2,hp⟩:=List.mem_map.1 (hperm.mem_iff.2 (List.getElem_mem hl));have hcs:=Qb2 (QaJ es) n hl;rw[<-hp,<-hrank]at hcs;unfold placed;rw[List.take_length,QdZ (ix:=λr=>rankR rs r.pt) (tx:=rowText) (by simp;omega) rs ?_ r hr2 hcs,List.getElem?_map,List.getElem?_eq_getElem hl,htx r hr2,hp]
   ·rfl
   ·intro x hx y hy e;rw[htx x hx,htx y hy];obtain⟨a1,a2⟩:=hix x hx;obtain⟨b1,b2⟩:=hix y hy;rw[<-a2,<-b2];have e':rankR rs x.pt=rankR rs y.pt:=e;simp only[e']
  ·rw[List.getElem?_eq_none (by rw[QbR];omega),List.getElem?_eq_none (by simp;omega)]
 rw[hfin,<-List.flatMap_def,<-hT]
 rfl
end
section
open Go.RowKit
theorem Qfd(s:ByteArray):∀(bound i:Nat) (acc:Array Value) (j:Nat),j<acc.size->(Conv.runesFrom s bound i acc)[j]? =acc[j]?
 | 0,_,acc,j,_=>rfl
 | bound+1,i,acc,j,h=>by
  unfold Conv.runesFrom;split
  ·rw[Qfd s bound _ _ j (by simp;omega),Array.getElem?_push,if_neg omQ]
  ·rfl
theorem QhN(s:ByteArray)(h:0<s.size):(Conv.runesFrom s s.size 0 #[])[0]? =some (.int .i32 ((Utf8.decode s 0).1:Int)):=by
 obtain⟨n,hn⟩:∃n,s.size=n+1:=⟨s.size-1,by omega⟩
 rw[hn];unfold Conv.runesFrom;rw[if_pos h,Qfd _ _ _ _ 0 (by simp)]
 rfl
theorem QfU(key:ByteArray)(w:World)(h:0<key.size)(hs:key.size<=1000):
  Calls Tryz.prog 113 #[.string key] w λe w'=>e=.returned (.int .i32 ((Utf8.decode key 0).1:Int))/\Below w.heap.size w w':=by
 have h0:=QhN key h
 have hz:(Conv.runesFrom key key.size 0 #[]).size<=key.size:=by have:=size_runesFrom key key.size 0 #[];simpa using this
 have hconv:=run_runes_of_string (P:=Tryz.prog) w 9 190 21 key Tryz.underlying9 Tryz.underlying190 Tryz.underlying21 omQ;generalize Conv.runesFrom key key.size 0 #[]=rs at h0 hz hconv;generalize grownCap w rs.size 0 21=c at hconv;have hn:0<rs.size:=(Array.getElem?_eq_some_iff.1 h0).1
 have hc:(w.drew.alloc (.cells (rs++Array.replicate (c-rs.size) (.int .i32 0)) 21)).cell? ⟨w.heap.size,0,none⟩=some (.int .i32 ((Utf8.decode key 0).1:Int)):=by
  have:=World.cell?_alloc_new w.drew (rs++Array.replicate (c-rs.size) (.int .i32 0)) 21 0;rw[show w.drew.heap.size=w.heap.size from rfl]at this;rw[this,Array.getElem?_append_left hn,h0]
 have hb:Below w.heap.size w (w.drew.alloc (.cells (rs++Array.replicate (c-rs.size) (.int .i32 0)) 21)):=(Below.refl _ _).drew.alloc (Nat.le_refl _) _;generalize w.drew.alloc (.cells (rs++Array.replicate (c-rs.size) (.int .i32 0)) 21)=w1 at hconv hc hb;generalize(Utf8.decode key 0).1=p at hc
 have hne:((rs.size:Int)==0)=false:=by rw[beq_eq_false_iff_ne];omega
 have hni:(0:Int)<(rs.size:Int):=omQ;go_enter Tryz.func113,Tryz.ntmps113;go_wp2;go_ret;exact⟨rfl,hb⟩
theorem QeP(n:Int):IntKind.i16.wrap n=wrap16 n:=by
 simp only[IntKind.wrap,IntKind.bits,IntKind.signed,wrap16];simp
 split<;>split<;>omega
theorem Qkq(n:Int):IntKind.u16.wrap n=n % 65536:=by simp[IntKind.wrap,IntKind.bits,IntKind.signed]
theorem QgP(a b:Int):IntKind.i16.wrap (IntKind.u16.wrap (a-b))=wrap16 (a-b):=by
 rw[QeP,Qkq];unfold wrap16
 split<;>split<;>omega
theorem Qkr(a b:Nat)(w:World):
  Calls Tryz.prog 116 #[.int .u16 (a:Int),.int .u16 (b:Int)] w λe w'=>e=.returned (.bool (decide (0<wrap16 ((a:Int)-(b:Int)))))/\w'=w:=by
 have hw:=QgP (a:Int) (b:Int);go_enter Tryz.func116,Tryz.ntmps116;go_wp2;go_ret;exact⟨rfl,rfl⟩
def EV.val'(r:EV):Value:=.agg #[.string r.name,.int .u16 (r.seq:Int),.int .i64 r.live,.int .i16 r.value]
theorem QlL(e:Ev)(w:World):
  Calls Tryz.prog 112 #[e.value] w λen w'=>en=.returned (madeE e).val'/\Below w.heap.size w w':=by
 obtain⟨op,key,seq,val⟩:=e;unfold Ev.value EV.val' madeE
 by_cases h:op=1
 ·subst h;have hg:=heap_alloc_new (w.alloc (.cells #[.int .u8 1,.string key,.int .u16 (seq:Int),.int .i16 val] 40)) (.cells #[.string key,.int .u16 (seq:Int),.int .i64 1,.int .i16 val] 182);have hg2:_=w.heap.size+1:=World.size_alloc w (.cells #[.int .u8 1,.string key,.int .u16 (seq:Int),.int .i16 val] 40);rw[hg2]at hg;have Hg:=hdQ hg;clear hg hg2;go_enter Tryz.func112,Tryz.ntmps112;go_wp2;exact bodyPost_ret (results_cell_row (p:=2) (ty:=182) rfl _ _ (w.heap.size+1) 182 #[.string key,.int .u16 (seq:Int),.int .i64 1,.int .i16 val] (0,0) _ rfl Hg.out Tryz.underlying182 rfl krQ) rfl ⟨rfl,((Below.refl _ _).alloc (Nat.le_refl _) _).alloc (by simp) _⟩
 ·have h1:((op:Int)==1)=false:=by rw[beq_eq_false_iff_ne];omega
  have hg:=heap_alloc_new (w.alloc (.cells #[.int .u8 (op:Int),.string key,.int .u16 (seq:Int),.int .i16 val] 40)) (.cells #[.string key,.int .u16 (seq:Int),.int .i64 0,.int .i16 0] 182);have hg2:_=w.heap.size+1:=World.size_alloc w (.cells #[.int .u8 (op:Int),.string key,.int .u16 (seq:Int),.int .i16 val] 40);rw[hg2]at hg;have Hg:=hdQ hg;clear hg hg2;go_enter Tryz.func112,Tryz.ntmps112;go_wp2;refine bodyPost_ret (results_cell_row (p:=2) (ty:=182) rfl _ _ (w.heap.size+1) 182 #[.string key,.int .u16 (seq:Int),.int .i64 0,.int .i16 0] (0,0) _ rfl Hg.out Tryz.underlying182 rfl krQ) rfl ⟨?_,((Below.refl _ _).alloc (Nat.le_refl _) _).alloc (by simp) _⟩;simp only
def entCells1(r:EV):List Value:=[.string r.name,.int .u16 (r.seq:Int),.int .i64 r.live,.int .i16 r.value]
def entCells(rs:List EV):List Value:=rs.flatMap entCells1
theorem Qfe(rs:List EV):(entCells rs).length=rs.length*4:=by
 induction rs with
 | nil=>rfl
 | cons r rs ih=>simp[entCells,entCells1]at ih ⊢;omega
theorem Qb3(rs ts:List EV):entCells (rs++ts)=entCells rs++entCells ts:=by simp[entCells]
theorem Qbv:∀(rs:List EV) (k:Nat) (h:k<rs.length) (j:Nat),j<4->(entCells rs)[k*4+j]? =(entCells1 rs[k])[j]?
 | r :: rs,0,_,j,hj=>by
  simp only[entCells,List.flatMap_cons,Nat.zero_mul,Nat.zero_add,List.getElem_cons_zero]
  rw[List.getElem?_append_left (by simp[entCells1];omega)]
 | r :: rs,k+1,h,j,hj=>by
  have ih:=Qbv rs k (by simpa using h) j hj;simp only[entCells,List.flatMap_cons,List.getElem_cons_succ]at ih ⊢;rw[List.getElem?_append_right (by simp[entCells1];omega),<-ih];congr 1;simp[entCells1];omega
theorem Qff(kb o:Nat)(a:Option Addr)(c:Nat)(rs:List EV)(key:ByteArray)(B:Nat)(w:World)(hlen:rs.length<=1000)(hb0:w.cell? ⟨kb,o,none⟩=some (.slice a rs.length c))
  (hown:w.ownsRow B 182 4 (.slice a rs.length c) rs.length (entCells rs)):
  Calls Tryz.prog 111 #[.pointer (some ⟨kb,o,none⟩),.string key] w λen w'=>en=.returned (.int .i64 (plcE rs key:Int))/\w'=w:=by
 have HO:Hid (w.ownsRow B 182 4 (.slice a rs.length c) rs.length (entCells rs)):=hown;clear hown;go_enter Tryz.func111,Tryz.ntmps111;go_wp2
 go_loopw [5] (λi wr=>∃j:Nat,j<=rs.length/\i=.int .i64 (j:Int)/\(∀k (h:k<rs.length),k<j->¬rs[k].name=key)/\wr=w) (λi _=>rs.length-(intOf i).toNat)
 case atStart=>exact⟨0,Nat.zero_le _,rfl,λ_ _ h=>absurd h (Nat.not_lt_zero _),rfl⟩
 case round=>
  obtain⟨j,hj,rfl,hno,rfl⟩:=hrel
  by_cases hjl:j<rs.length
  ·rcases Qai HO.out with⟨_,h0⟩ | ⟨g,rfl⟩
   ·omega
   have c0:=(HO.out.cellAt (j*4) omQ).trans (Qbv rs j hjl 0 (by decide));have e0:(entCells1 (rs[j]'hjl))[0]? =some (.string (rs[j]'hjl).name):=rfl;rw[e0]at c0;clear e0 HO;have hji:(j:Int)<(rs.length:Int):=omQ;have hj0:(0:Int)<=(j:Int):=omQ
   by_cases hp:(rs[j]'hjl).name=key
   ·have hf:plcE rs key=j:=by
     unfold plcE;rw[List.findIdx_eq hjl];exact⟨by simp[hp],λk hk=>by simpa using hno k omQ hk⟩
    rw[hp]at c0;have Hf:=hdQ hf;clear hf hno hp
    have hne:(!key.toList==key.toList)=false:=by simp
    go_wp2;go_ret;exact⟨by rw[Hf.out];rfl,rfl⟩
   ·have hne:=QgL hp
    have hno':∀k (h:k<rs.length),k<j+1->¬rs[k].name=key:=by
     intro k h hk
     by_cases e:k=j
     ·subst e;exact hp
     ·exact hno k h omQ
    generalize(rs[j]'hjl).name=q at c0 hne;go_wp2
    go_roundw
    case rel=>exact⟨j+1,by omega,by go_num,hno',by first | trivial | rfl⟩
    case measure=>simp[intOf];omega
  ·have hjj:j=rs.length:=omQ
   have hf:plcE rs key=j:=by
    unfold plcE;rw[hjj,List.findIdx_eq_length];intro x hx;obtain⟨k,hk,rfl⟩:=List.getElem_of_mem hx
    simpa using hno k hk omQ
   go_wp2;go_ret;exact⟨by rw[hf];rfl,rfl⟩
theorem QgQ{v v':Value}{w w':World}(h:(Result.ok v w:Result Value)=.ok v' w'):v=v'/\w=w':=by
 cases h;exact⟨rfl,rfl⟩
theorem Qdn{P:Program}(w:World)(base:Nat)(t ty e:TypeId)(i:TypeInfo)(z:Value)(size bytes:Nat)(ht:P.underlying t=some (.slice e))(hi:P.info? e=some i)(hz:i.zero=some z)
  (hsize:i.size=size) (hby:i.bytes=bytes) (hzs:z.cells.size=size) (hsz:0<size)
  (v:Value) (n:Nat) (xs:List Value) (hown:w.ownsRow base e size v n xs)
  (a:Addr) (m c:Nat) (news:List Value) (hl:news.length=m*size) (hnews:∀j u,news[j]? =some u->w.cell? (a.add j)=some u) (h1:∀u∈news,u.oneCell'=true)
  (h63:n+m<=maxLen) (hbytes:((n+m)+(n+m) / 4+192)*bytes<=281474976710656) (hbase:base<=w.heap.size) (hm:0<m):
  ∃v' w',(Builtin.append_ #[t,t] ty #[v,.slice (some a) m c]).run P w=.ok v' w'/\w'.ownsRow base e size v' (n+m) (xs++news)/\
   ((w.grownBy w' none/\v'.ownBlock=some w.heap.size)\/(w.grownBy w' v.ownBlock/\v'.ownBlock=v.ownBlock/\v.ownBlock≠none)):=by
 obtain⟨v',w',hr,h2,h3,_⟩:=run_append_own_wide (P:=P) w base t ty e i z size bytes ht hi hz hsize hby hzs hsz v n xs hown a m c news hl hnews h1 h63 hbytes hbase;refine⟨v',w',hr,h2,?_⟩;subst hsize;subst hby
 have hsmall:n+m<=9223372036854775807:=by simp only[maxLen]at h63;omega
 rcases hown.2 with⟨rfl,rfl⟩ | ⟨g,cap,cur,rfl,hbg,hg,hnc,hcm,hcs,htake⟩
 ·left
  have hr2:=run_append_nil (P:=P) w t ty e i z ht hi hz a m c news hl hnews omQ omQ (by have hb:=hbytes;simp only[Nat.zero_add]at hb;exact Nat.le_trans (Nat.mul_le_mul_right _ omQ) hb);rw[hr]at hr2;obtain⟨rfl,rfl⟩:=QgQ hr2;exact⟨⟨rfl,rfl,rfl,by simp,λk hk _=>Below.heap_alloc w.drew _ k hk⟩,rfl⟩
 ·by_cases hroom:n+m<=cap
  ·right
   have hfit:n*i.size+news.length<=cur.size:=by rw[hl,hcs,<-Nat.add_mul];exact Nat.mul_le_mul_right _ hroom
   have hr2:=run_append_room (P:=P) w t ty e i ht hi g n cap cur hg a m c news hl hnews h1 hroom hfit;rw[hr]at hr2;obtain⟨rfl,rfl⟩:=QgQ hr2;exact⟨h3,rfl,by simp[Value.ownBlock]⟩
  ·left
   have holds:∀j u,xs[j]? =some u->w.cell? ((⟨g,0,none⟩:Addr).add j)=some u:=hown.cells (g:=g) rfl;have hr2:=run_append_grow (P:=P) w t ty e i z ht hi hz ⟨g,0,none⟩ n cap xs hown.1 holds a m c news hl hnews omQ omQ (growslice_fits_wide omQ hbytes);rw[hr]at hr2;obtain⟨rfl,rfl⟩:=QgQ hr2;exact⟨⟨rfl,rfl,rfl,by simp,λk hk _=>Below.heap_alloc w.drew _ k hk⟩,rfl⟩
theorem Qau{P:Program}(w:World){o:Oper}{a:Act}{K:Act->World->Prop}{Q:Exit->Act->World->Prop}(s x:Operand)(t:TypeId)
  (ho:o.op=.call {callee:=.builtin .append,args:=#[s,x],argTypes:=#[t,t]})
  (base:Nat) (e:TypeId) (i:TypeInfo) (z:Value) (size bytes:Nat) (ht:P.underlying t=some (.slice e)) (hi:P.info? e=some i) (hz:i.zero=some z)
  (hsize:i.size=size) (hby:i.bytes=bytes) (hzs:z.cells.size=size) (hsz:0<size)
  (v:Value) (n:Nat) (xs:List Value) (hs:a.eval s=v) (hown:w.ownsRow base e size v n xs)
  (ad:Addr) (m c:Nat) (news:List Value) (hx:a.eval x=.slice (some ad) m c) (hl:news.length=m*size) (hnews:∀j u,news[j]? =some u->w.cell? (ad.add j)=some u) (h1:∀u∈news,u.oneCell'=true)
  (h63:n+m<=maxLen) (hbytes:((n+m)+(n+m) / 4+192)*bytes<=281474976710656) (hbase:base<=w.heap.size) (hm:0<m)
  (h:∀v' w',w'.ownsRow base e size v' (n+m) (xs++news)->((w.grownBy w' none/\v'.ownBlock=some w.heap.size)\/(w.grownBy w' v.ownBlock/\v'.ownBlock=v.ownBlock/\v.ownBlock≠none))->K (a.put o.dst v') w'):o.wp P a w K Q:=by
 obtain⟨v',w',hr,h2,h3⟩:=Qdn (P:=P) w base t o.type e i z size bytes ht hi hz hsize hby hzs hsz v n xs hown ad m c news hl hnews h1 h63 hbytes hbase hm;unfold Oper.wp execOp;simp only[ho,resolve,invoke,builtin,Sem.run_bind,Sem.run_pure,Result.andThen_ok,List.map_toArray,List.map_cons,List.map_nil,hs,hx,hr];exact h v' w' h2 h3
theorem QaH{P:Program}(w:World){ops:Array Oper}{rest:List Oper}{o:Oper}{a:Act}{Q:Exit->Act->World->Prop}(hgd:o.guard=none)(s x:Operand)(t:TypeId)
  (ho:o.op=.call {callee:=.builtin .append,args:=#[s,x],argTypes:=#[t,t]})
  (base:Nat) (e:TypeId) (i:TypeInfo) (z:Value) (size bytes:Nat) (ht:P.underlying t=some (.slice e)) (hi:P.info? e=some i) (hz:i.zero=some z)
  (hsize:i.size=size) (hby:i.bytes=bytes) (hzs:z.cells.size=size) (hsz:0<size)
  (v:Value) (n:Nat) (xs:List Value) (hs:a.eval s=v) (hown:w.ownsRow base e size v n xs)
  (ad:Addr) (m c:Nat) (news:List Value) (hx:a.eval x=.slice (some ad) m c) (hl:news.length=m*size) (hnews:∀j u,news[j]? =some u->w.cell? (ad.add j)=some u) (h1:∀u∈news,u.oneCell'=true)
  (h63:n+m<=maxLen) (hbytes:((n+m)+(n+m) / 4+192)*bytes<=281474976710656) (hbase:base<=w.heap.size) (hm:0<m)
  (h:∀v' w',w'.ownsRow base e size v' (n+m) (xs++news)->((w.grownBy w' none/\v'.ownBlock=some w.heap.size)\/(w.grownBy w' v.ownBlock/\v'.ownBlock=v.ownBlock/\v.ownBlock≠none))->wpList P ops Q rest (a.put o.dst v') w'):wpList P ops Q (o :: rest) a w:=
 wpList_plain hgd λ_ hK=>Qau w s x t ho base e i z size bytes ht hi hz hsize hby hzs hsz v n xs hs hown ad m c news hx hl hnews h1 h63 hbytes hbase hm λv' w' h2 h3=>hK _ _ (h v' w' h2 h3)
theorem Qad{W:World}{wb:Nat}{cs:Array Value}{t:TypeId}(h:W.heap[wb]? =some (.cells cs t (0,0)))(j:Nat):W.cell? ⟨wb,j,none⟩=cs[j]? :=cell_of_row W wb j cs t (0,0) h
end
end Go.Proofs.YthccpacmklhejabGreatDoor
