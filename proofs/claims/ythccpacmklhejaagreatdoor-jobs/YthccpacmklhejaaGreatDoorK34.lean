import Derived.Test.YthccpacmklhejaaGreatDoorTk
import Derived.Test.YthccpacmklhejaaGreatDoorK33
import Derived.Test.YthccpacmklhejaaGreatDoorK18
import Derived.Test.YthccpacmklhejaaGreatDoorK23
import Derived.Test.YthccpacmklhejaaGreatDoorK06
import Derived.Test.YthccpacmklhejaaGreatDoorK17
set_option maxHeartbeats 1500000
set_option maxRecDepth 100000
namespace Go.Proofs.YthccpacmklhejaaGreatDoor
section
theorem QjT{es:List Ev}(hv:∀e∈es,validB e.key=true){rs:List RowV}(hA:RowsAre es (keysOf es) rs):(placed rs rs.length).flatten=foldB es:=by
 obtain⟨hn,hc,hr⟩:=hA
 have hperm:(rs.map (·.pt)).Perm (ptsOf es):=by
  refine QcL hn ((QaJ es).imp λh=>Nat.ne_of_lt h) λp=>?_
  rw[Qbj];constructor
  ·intro hm;obtain⟨r,hr2,rfl⟩:=List.mem_map.1 hm;obtain⟨_,_,_,k,hk,hg⟩:=hr r hr2;exact⟨k,hk,by rw[hg]⟩
  ·rintro⟨k,hk,rfl⟩;exact hc k hk
 have hlen:rs.length=(ptsOf es).length:=by simpa using hperm.length_eq
 have hrank:∀p,rankR rs p=(ptsOf es).countP (λq=>decide (q<p)):=by
  intro p;rw[<-hperm.countP_eq,List.countP_map]
  rfl
 obtain⟨T,hT⟩:∃T:Nat->List UInt8,(λp=>textAt p (tot fLive es p) (tot fSum es p) (tot fCnt es p))=T:=⟨_,rfl⟩
 have htx:∀r∈rs,rowText r=T r.pt:=by
  intro r hr2;obtain⟨h1,h2,h3,k,hk,hg⟩:=hr r hr2;rw[<-hT];unfold rowText textAt;obtain⟨e,he,rfl⟩:=(Qaz _ _).1 hk;have hge:=QiO (hv e he);rw[hg]at hge;simp only at hge;rw[hge,h1,h2,h3]
  rfl
 have hix:∀r∈rs,∃h:rankR rs r.pt<(ptsOf es).length,(ptsOf es)[rankR rs r.pt]=r.pt:=by
  intro r hr2;obtain⟨i,hi,e⟩:=List.getElem_of_mem (hperm.mem_iff.1 (List.mem_map.2 ⟨r,hr2,rfl⟩));have hcs:=Qb2 (QaJ es) i hi;rw[e,<-hrank]at hcs;subst hcs;exact⟨hi,e⟩
 have hfin:placed rs rs.length=(ptsOf es).map T:=by
  apply List.ext_getElem?;intro n
  by_cases hl:n<(ptsOf es).length
  ·obtain⟨r,hr2,hp⟩:=List.mem_map.1 (hperm.mem_iff.2 (List.getElem_mem hl));have hcs:=Qb2 (QaJ es) n hl;rw[<-hp,<-hrank]at hcs;unfold placed;rw[List.take_length,QdZ (ix:=λr=>rankR rs r.pt) (tx:=rowText) (by simp;omega) rs ?_ r hr2 hcs,List.getElem?_map,List.getElem?_eq_getElem hl,htx r hr2,hp]
   ·rfl
   ·intro x hx y hy e;rw[htx x hx,htx y hy];obtain⟨a1,a2⟩:=hix x hx;obtain⟨b1,b2⟩:=hix y hy;rw[<-a2,<-b2];have e':rankR rs x.pt=rankR rs y.pt:=e;simp only[e']
  ·rw[List.getElem?_eq_none (by rw[QbR];omega),List.getElem?_eq_none (by simp;omega)]
 rw[hfin,<-List.flatMap_def,<-hT]
 rfl
theorem Qni{es:List Ev}(hok:∀e∈es,e.ok)(hk:∀e∈es,0<e.key.size/\e.key.size<=1000)(hl:es.length<=400){rs:List RowV}(hA:RowsAre es (keysOf es) rs):∀r∈rs,TB r:=by
 intro r hr;obtain⟨h1,h2,h3,k,hkm,hg⟩:=hA.2.2 r hr;have hB:=Qb1 es es.length (Nat.le_refl _);rw[List.take_length]at hB;have hm:=hB.2.1 k hkm;rw[hg]at hm;obtain⟨r',hr',hp⟩:=List.mem_map.1 hm;simp only at hp;obtain⟨q1,q2,q3,_⟩:=hB.2.2 r' hr';obtain⟨b1,_,_,b4⟩:=QbQ hok hl es.length r' hr';rw[hp,<-h1]at q1;rw[hp,<-h3]at q3;obtain⟨e,he,rfl⟩:=(Qaz _ _).1 hkm;refine⟨by omega,by omega,?_⟩
 have ht:r.tx=(grp e.key).2:=by rw[hg]
 rw[ht];unfold grp;simp only;rw[<-Qam,QaA,List.length_take,List.length_drop,Qam];have:=hk e he;omega
theorem Qfx{es:List Ev}{rs:List RowV}(hA:RowsAre es (keysOf es) rs):rs.length<=es.length:=by
 have hB:=Qb1 es es.length (Nat.le_refl _);rw[List.take_length]at hB
 have hperm:(rs.map (·.pt)).Perm ((rowsTo es es.length).map (·.pt)):=by
  refine QcL hA.1 hB.1 λp=>⟨λh=>?_,λh=>?_⟩
  ·obtain⟨r,hr,rfl⟩:=List.mem_map.1 h;obtain⟨_,_,_,k,hk,hg⟩:=hA.2.2 r hr;have:=hB.2.1 k hk;rw[hg]at this;exact this
  ·obtain⟨r,hr,rfl⟩:=List.mem_map.1 h;obtain⟨_,_,_,k,hk,hg⟩:=hB.2.2 r hr;have:=hA.2.1 k hk;rw[hg]at this;exact this
 have h1:=hperm.length_eq;have h2:=QcS es es.length;simp at h1;omega
theorem Qlc(l:List ChgM)(p:Nat):(rowM l (p:Int)).live=sumC (λc=>c.live) p l/\(rowM l (p:Int)).sum=sumC (λc=>c.delta) p l/\((rowM l (p:Int)).ev:Int)=sumC (λ_=>1) p l:=by
 induction l using QaI with
 | h0=>exact⟨rfl,rfl,rfl⟩
 | h1 l c ih=>
  obtain⟨i1,i2,i3⟩:=ih;rw[Qct,QaF,QaF,QaF];simp only[sumC]
  by_cases h:c.pt=(p:Int)
  ·simp only[if_pos h];exact⟨by rw[i1];omega,by rw[i2];omega,by rw[<-i3];omega⟩
  ·simp only[if_neg h];exact⟨by rw[i1];omega,by rw[i2];omega,by rw[i3];omega⟩
theorem QfM{l:List ChgM}{p:Int}(h:∃c∈l,c.pt=p):(rowM l p).pt=p/\∃c∈l,c.pt=p/\(rowM l p).tx=c.tx:=by
 induction l using QaI with
 | h0=>obtain⟨c,hc,_⟩:=h;cases hc
 | h1 l c ih=>
  rw[Qct]
  by_cases hp:c.pt=p
  ·rw[if_pos hp];exact⟨rfl,c,by simp,hp,rfl⟩
  ·rw[if_neg hp];obtain⟨c',hc',hp'⟩:=h
   have hl:c'∈l:=by
    rcases List.mem_append.1 hc' with h | h
    ·exact h
    ·simp only[List.mem_cons,List.not_mem_nil,or_false]at h;rw[h]at hp';exact absurd hp' hp
   obtain⟨a,c2,b,d⟩:=ih ⟨c',hl,hp'⟩;exact⟨a,c2,by simp[b],d⟩
theorem Qmq{l:List Int}(h:l.Nodup){i k:Nat}{x:Int}(h1:l[i]? =some x)(h2:l[k]? =some x):i=k:=by
 obtain⟨hi,e1⟩:=List.getElem?_eq_some_iff.1 h1;obtain⟨hk,e2⟩:=List.getElem?_eq_some_iff.1 h2;rw[List.Nodup,List.pairwise_iff_getElem]at h
 rcases Nat.lt_trichotomy i k with hlt | he | hlt
 ·exact absurd (e1.trans e2.symm) (h i k hi hk hlt)
 ·exact he
 ·exact absurd (e2.trans e1.symm) (h k i hk hi hlt)
theorem QjU{rows:List RowM}{r:RowM}(hn:(rows.map (·.pt)).Nodup):((putRow rows r).map (·.pt)).Nodup/\∀x,x∈putRow rows r↔x=r\/(x∈rows/\x.pt≠r.pt):=by
 unfold putRow
 by_cases hf:rows.findIdx (λx=>decide (x.pt=r.pt))=rows.length
 ·rw[if_pos hf]
  have hno:∀x∈rows,x.pt≠r.pt:=λx hx e=>by
   have:=List.findIdx_lt_length_of_exists (p:=λx:RowM=>decide (x.pt=r.pt)) ⟨x,hx,by simp[e]⟩;omega
  refine⟨?_,λx=>?_⟩
  ·rw[List.map_append,List.nodup_append];refine⟨hn,by simp,λa ha b hb=>?_⟩;obtain⟨x,hx,rfl⟩:=List.mem_map.1 ha;simp only[List.map_cons,List.map_nil,List.mem_cons,List.not_mem_nil,or_false]at hb;rw[hb];exact hno x hx
  ·rw[List.mem_append];simp only[List.mem_cons,List.not_mem_nil,or_false];constructor
   ·rintro(h | h)
    ·exact .inr ⟨h,hno x h⟩
    ·exact .inl h
   ·rintro(h | h)
    ·exact .inr h
    ·exact .inl h.1
 ·rw[if_neg hf];have hlt:rows.findIdx (λx=>decide (x.pt=r.pt))<rows.length:=Nat.lt_of_le_of_ne List.findIdx_le_length hf;have hpt:=List.findIdx_getElem (p:=λx:RowM=>decide (x.pt=r.pt)) (w:=hlt);simp only[decide_eq_true_eq]at hpt;generalize rows.findIdx (λx=>decide (x.pt=r.pt))=i at hlt hpt
  have hmap:(rows.set i r).map (·.pt)=rows.map (·.pt):=by
   rw[List.map_set,<-hpt];apply List.ext_getElem?;intro k;rw[List.getElem?_set];split
   ·rename_i e
    subst e;rw[if_pos (by simpa using hlt),List.getElem?_map,List.getElem?_eq_getElem hlt]
    rfl
   ·rfl
  have hmi:(rows.map (·.pt))[i]? =some r.pt:=by
   rw[List.getElem?_map,List.getElem?_eq_getElem hlt,<-hpt]
   rfl
  refine⟨by rw[hmap];exact hn,λx=>⟨λhx=>?_,λhx=>?_⟩⟩
  ·obtain⟨k,hk⟩:=List.mem_iff_getElem?.1 hx;rw[List.getElem?_set]at hk;split at hk
   ·exact .inl (Option.some.inj hk).symm
   ·rename_i e
    refine .inr ⟨List.mem_iff_getElem?.2 ⟨k,hk⟩,λhp=>e ?_⟩
    have hmk:(rows.map (·.pt))[k]? =some r.pt:=by rw[List.getElem?_map,hk,<-hp];rfl
    exact Qmq hn hmi hmk
  ·rcases hx with rfl | ⟨hx,hp⟩
   ·exact List.mem_iff_getElem?.2 ⟨i,by rw[List.getElem?_set,if_pos rfl,if_pos hlt]⟩
   ·obtain⟨k,hk⟩:=List.mem_iff_getElem?.1 hx;refine List.mem_iff_getElem?.2 ⟨k,?_⟩;rw[List.getElem?_set,if_neg ?_]
    ·exact hk
    ·intro e;subst e;rw[List.getElem?_eq_getElem hlt]at hk;rw[Option.some.inj hk]at hpt;exact hp hpt
theorem Qmr{V:Int->RowM}{rows:List RowM}(hn:(rows.map (·.pt)).Nodup)(ps:List Int):(∀p∈ps,(V p).pt=p)->
  ((ps.foldl (λrs p=>putRow rs (V p)) rows).map (·.pt)).Nodup/\∀x,x∈ps.foldl (λrs p=>putRow rs (V p)) rows↔(∃p∈ps,x=V p)\/(x∈rows/\∀p∈ps,x.pt≠p):=by
 induction ps using QaI with
 | h0=>intro _;exact⟨hn,λx=>by simp⟩
 | h1 l p ih=>
  intro hV
  obtain⟨i1,i2⟩:=ih λq hq=>hV q (by simp[hq])
  rw[List.foldl_append];simp only[List.foldl_cons,List.foldl_nil];obtain⟨a1,a2⟩:=QjU (r:=V p) i1;refine⟨a1,λx=>?_⟩;rw[a2,i2,hV p (by simp)];constructor
  ·rintro(h | ⟨⟨q,hq,h⟩ | ⟨h1,h2⟩,h3⟩)
   ·exact .inl ⟨p,by simp,h⟩
   ·exact .inl ⟨q,by simp[hq],h⟩
   ·refine .inr ⟨h1,λq hq=>?_⟩
    rcases List.mem_append.1 hq with h | h
    ·exact h2 q h
    ·simp only[List.mem_cons,List.not_mem_nil,or_false]at h;rw[h];exact h3
  ·rintro(⟨q,hq,h⟩ | ⟨h1,h2⟩)
   ·by_cases e:x.pt=p
    ·have hqp:q=p:=by rw[<-hV q hq,<-h];exact e
     rw[hqp]at h;exact .inl h
    ·refine .inr ⟨.inl ⟨q,?_,h⟩,e⟩
     rcases List.mem_append.1 hq with h' | h'
     ·exact h'
     ·simp only[List.mem_cons,List.not_mem_nil,or_false]at h';rw[h,h']at e;exact absurd (hV p (by simp)) e
   ·exact .inr ⟨.inr ⟨h1,λq hq=>h2 q (by simp[hq])⟩,h2 p (by simp)⟩
def RowGood(es:List Ev)(r:RowM):Prop:=∃p:Nat,r.pt=(p:Int)/\r.live=tot fLive es p/\r.sum=tot fSum es p/\(r.ev:Int)=tot fCnt es p/\∃k∈keysOf es,grp k=(p,r.tx)
def RowsOk(es:List Ev)(rows:List RowM):Prop:=(rows.map (·.pt)).Nodup/\(∀p:Nat,p∈ptsOf es->∃r∈rows,r.pt=(p:Int))/\∀r∈rows,RowGood es r
theorem QjV:RowsOk [] []:=⟨by simp,λp hp=>by simp[ptsOf]at hp,λr hr=>by cases hr⟩
theorem QjW(W k n:Nat)(E:List Ev):allTo W k n E=allTo W k n (E.take n):=by
 unfold allTo evs;rw[List.take_take,Nat.min_self]
theorem Qm7(a:AdderM)(rows:List RowM):a.laid rows=(((a.got.take a.marked).drop a.kept).map (·.pt)).foldl (λrs p=>putRow rs (rowM (a.got.take a.marked) p)) rows:=by
 unfold AdderM.laid;rw[List.foldl_map]
theorem Qms{V:Int->RowM}(ads:List AdderM):∀rows:List RowM,(∀a∈ads,∀c∈(a.got.take a.marked).drop a.kept,V c.pt=rowM (a.got.take a.marked) c.pt)->
  ads.foldl (λrs a=>a.laid rs) rows=(ads.flatMap λa=>((a.got.take a.marked).drop a.kept).map (·.pt)).foldl (λrs p=>putRow rs (V p)) rows:=by
 induction ads with
 | nil=>intro rows _;rfl
 | cons a ads ih=>
  intro rows h;rw[List.foldl_cons,List.flatMap_cons,List.foldl_append,ih _ λb hb=>h b (by simp[hb]),Qm7];congr 1
  have:∀(cs:List ChgM) (rows:List RowM),(∀c∈cs,V c.pt=rowM (a.got.take a.marked) c.pt)->(cs.map (·.pt)).foldl (λrs p=>putRow rs (rowM (a.got.take a.marked) p)) rows=(cs.map (·.pt)).foldl (λrs p=>putRow rs (V p)) rows:=by
   intro cs
   induction cs with
   | nil=>intro _ _;rfl
   | cons c cs ih2=>
    intro rows hc;simp only[List.map_cons,List.foldl_cons];rw[hc c (by simp)]
    exact ih2 _ λx hx=>hc x (by simp[hx])
  exact this _ _ λc hc=>h a (by simp) c hc
theorem Qiv{j:JobM}(hf:FlowOk j)(hfl:j.fl=true)(hp:∀a∈j.adders,a.passed=true)(hr:RowsOk (j.events.take j.base) j.rows):RowsOk (j.events.take j.off) j.commit.rows:=by
 have hoff:=hf.off hfl;have hno:j.off<=j.events.length:=Nat.le_trans hoff.2 hf.sent;have hnb:j.base<=j.events.length:=Nat.le_trans hf.base hf.sent
 have hat:∀p:Nat,∃a,j.adders[p % j.width]? =some a:=λp=>⟨_,List.getElem?_eq_getElem (by rw[hf.lenA];exact Nat.mod_lt _ hf.hW)⟩
 have hmk:∀(k:Nat) a,j.adders[k]? =some a->a.kept<=a.marked/\a.marked<=a.got.length/\(a.got.take a.marked).Perm (allTo j.width k j.off j.events):=λk a ha=>by
  obtain⟨m1,m2,m3,_⟩:=(hf.adders k a ha).mark hfl (hp a (List.mem_of_getElem? ha));exact⟨m1,m2,m3⟩
 have hin:∀(k:Nat) a,j.adders[k]? =some a->∀c∈a.got.take a.marked,0<=c.pt/\c.pt.toNat % j.width=k/\∃e∈j.events.take j.off,c.pt=((grp e.key).1:Int)/\c.tx=(grp e.key).2:=λk a ha c hc=>by
  have hm:=(hmk k a ha).2.2.mem_iff.1 hc;rw[QjW]at hm;exact Qf3 hm
 obtain⟨V,hV⟩:∃V:Int->RowM,∀(p:Nat) a,j.adders[p % j.width]? =some a->V (p:Int)=rowM (a.got.take a.marked) (p:Int):=by
  refine⟨λp=>rowM (((j.adders[p.toNat % j.width]?).getD (newA 0)).got.take ((j.adders[p.toNat % j.width]?).getD (newA 0)).marked) p,λp a ha=>?_⟩;simp only[Int.toNat_natCast,ha,Option.getD_some]
 have hVc:∀(k:Nat) a,j.adders[k]? =some a->∀c∈a.got.take a.marked,V c.pt=rowM (a.got.take a.marked) c.pt:=λk a ha c hc=>by
  obtain⟨h0,hk,_⟩:=hin k a ha c hc;have:=hV c.pt.toNat a (by rw[hk];exact ha);rw[Int.toNat_of_nonneg h0]at this;exact this
 have hrows:j.commit.rows=(j.adders.flatMap λa=>((a.got.take a.marked).drop a.kept).map (·.pt)).foldl (λrs p=>putRow rs (V p)) j.rows:=by
  refine Qms j.adders j.rows λa ha c hc=>?_
  obtain⟨k,hk⟩:=List.mem_iff_getElem?.1 ha;exact hVc k a hk c (List.mem_of_mem_drop hc)
 have hPS:∀q,q∈(j.adders.flatMap λa=>((a.got.take a.marked).drop a.kept).map (·.pt))↔∃(p:Nat) (a:AdderM),q=(p:Int)/\j.adders[p % j.width]? =some a/\a.chgd p:=λq=>by
  rw[List.mem_flatMap];constructor
  ·rintro⟨a,ha,hq⟩;obtain⟨c,hc,rfl⟩:=List.mem_map.1 hq;obtain⟨k,hk⟩:=List.mem_iff_getElem?.1 ha;obtain⟨h0,h1,_⟩:=hin k a hk c (List.mem_of_mem_drop hc);exact⟨c.pt.toNat,a,by omega,by rw[h1];exact hk,c,hc,by omega⟩
  ·rintro⟨p,a,rfl,ha,c,hc,hcp⟩;exact⟨a,List.mem_of_getElem? ha,List.mem_map.2 ⟨c,hc,hcp⟩⟩
 have hVpt:∀q∈(j.adders.flatMap λa=>((a.got.take a.marked).drop a.kept).map (·.pt)),(V q).pt=q:=λq hq=>by
  obtain⟨p,a,rfl,ha,c,hc,hcp⟩:=(hPS q).1 hq;rw[hV p a ha];exact(QfM ⟨c,List.mem_of_mem_drop hc,hcp⟩).1
 obtain⟨b1,b2⟩:=Qmr (V:=V) hr.1 _ hVpt;rw[<-hrows]at b1 b2
 have hsame:∀(p:Nat) a,j.adders[p % j.width]? =some a->¬a.chgd p->tot fLive (j.events.take j.off) p=tot fLive (j.events.take j.base) p/\tot fSum (j.events.take j.off) p=tot fSum (j.events.take j.base) p/\tot fCnt (j.events.take j.off) p=tot fCnt (j.events.take j.base) p:=λp a ha hc=>by
  obtain⟨m1,m2,m3⟩:=hmk _ a ha
  have hspl:a.got.take a.marked=a.got.take a.kept++(a.got.take a.marked).drop a.kept:=by
   have h1:(a.got.take a.marked).take a.kept=a.got.take a.kept:=by rw[List.take_take,Nat.min_eq_left m1]
   rw[<-h1,List.take_append_drop]
  have hz:∀g:ChgM->Int,sumC g p (a.got.take a.marked)=sumC g p (a.got.take a.kept):=λg=>by
   rw[hspl,QaF,Qcq (l:=(a.got.take a.marked).drop a.kept) (λc hc' e=>hc ⟨c,hc',e⟩)];omega
  obtain⟨s1,s2,s3⟩:=Qcp hf p _ hno m3;obtain⟨t1,t2,t3⟩:=Qcp hf p _ hnb (hf.adders _ a ha).kept_perm;exact⟨by rw[<-s1,<-t1,hz],by rw[<-s2,<-t2,hz],by rw[<-s3,<-t3,hz]⟩
 have hkeys:∀k,k∈keysOf (j.events.take j.base)->k∈keysOf (j.events.take j.off):=λk hk=>by
  obtain⟨e,he,h⟩:=(Qaz _ _).1 hk;refine(Qaz _ _).2 ⟨e,?_,h⟩
  have:(j.events.take j.off).take j.base=j.events.take j.base:=by rw[List.take_take,Nat.min_eq_left hoff.1]
  rw[<-this]at he;exact List.mem_of_mem_take he
 refine⟨b1,λp hpp=>?_,λr hrm=>?_⟩
 ·obtain⟨a,ha⟩:=hat p;obtain⟨_,c2⟩:=Qd9 hf hfl ha (hp a (List.mem_of_getElem? ha))
  by_cases hc:a.chgd p
  ·have hq:=(hPS (p:Int)).2 ⟨p,a,rfl,ha,hc⟩;exact⟨V (p:Int),(b2 _).2 (.inl ⟨_,hq,rfl⟩),hVpt _ hq⟩
  ·obtain⟨r,hrm,hrp⟩:=hr.2.1 p ((c2 hc).2.1 hpp);refine⟨r,(b2 r).2 (.inr ⟨hrm,λq hq e=>?_⟩),hrp⟩;obtain⟨p',a',rfl,ha',hc'⟩:=(hPS q).1 hq;have hpp':p'=p:=omQ;subst hpp';rw[ha]at ha';rw[Option.some.inj ha']at hc;exact hc hc'
 ·rcases(b2 r).1 hrm with⟨q,hq,rfl⟩ | ⟨hrm,hno2⟩
  ·obtain⟨p,a,rfl,ha,hc⟩:=(hPS q).1 hq;obtain⟨s1,s2,s3⟩:=Qcp hf p _ hno (hmk _ a ha).2.2;obtain⟨u1,u2,u3⟩:=Qlc (a.got.take a.marked) p;obtain⟨c,hcm,hcp⟩:=hc;obtain⟨v1,c',hc',hcp',v2⟩:=QfM (p:=(p:Int)) ⟨c,List.mem_of_mem_drop hcm,hcp⟩;obtain⟨_,_,e,he,hg1,hg2⟩:=hin _ a ha c' hc';rw[hV p a ha];refine⟨p,v1,by rw[u1,s1],by rw[u2,s2],by rw[u3,s3],e.key,(Qaz _ _).2 ⟨e,he,rfl⟩,?_⟩;rw[v2,hg2];have:(grp e.key).1=p:=omQ;rw[<-this]
  ·obtain⟨p,g1,g2,g3,g4,k,hk,hg⟩:=hr.2.2 r hrm;obtain⟨a,ha⟩:=hat p
   have hc:¬a.chgd p:=λhc=>hno2 (p:Int) ((hPS _).2 ⟨p,a,rfl,ha,hc⟩) g1
   obtain⟨s1,s2,s3⟩:=hsame p a ha hc;exact⟨p,g1,by rw[s1];exact g2,by rw[s2];exact g3,by rw[s3];exact g4,k,hkeys k hk,hg⟩
def RowM.toV(r:RowM):RowV:=⟨r.pt.toNat,r.tx,r.live.toNat,r.sum,r.ev⟩
theorem Qiw{f:ByteArray->Int}(h:∀k,0<=f k)(ks:List ByteArray):0<=sumK f ks:=by
 induction ks with
 | nil=>simp[sumK]
 | cons k ks ih=>simp only[sumK];have:=h k;omega
theorem Qfy(es:List Ev)(p:Nat):0<=tot fLive es p:=by
 unfold tot;refine Qiw (λk=>?_) _;split
 ·unfold fLive;split<;>omega
 ·omega
theorem RowsOk.are{es:List Ev}{rows:List RowM}(h:RowsOk es rows):RowsAre es (keysOf es) (rows.map RowM.toV)/\rowmCells rows=rowCells (rows.map RowM.toV):=by
 obtain⟨h1,h2,h3⟩:=h
 have hpt:∀r∈rows,r.pt=((r.toV.pt:Nat):Int):=λr hr=>by
  obtain⟨p,g1,_⟩:=h3 r hr;simp only[RowM.toV];omega
 have hlv:∀r∈rows,r.live=((r.toV.live:Nat):Int):=λr hr=>by
  obtain⟨p,_,g2,_⟩:=h3 r hr;have:=Qfy es p;simp only[RowM.toV];omega
 refine⟨⟨?_,λk hk=>?_,λr hr=>?_⟩,?_⟩
 ·rw[List.map_map]
  have hm:rows.map (·.pt)=(rows.map ((·.pt) ∘ RowM.toV)).map (λn:Nat=>(n:Int)):=by
   rw[List.map_map]
   exact List.map_congr_left λr hr=>hpt r hr
  rw[hm]at h1;rw[List.Nodup,List.pairwise_map]at h1
  exact h1.imp λhne e=>hne (by rw[e])
 ·have hm:(grp k).1∈ptsOf es:=(Qbj _ _).2 ⟨k,hk,rfl⟩;obtain⟨r,hr,hp⟩:=h2 _ hm;refine List.mem_map.2 ⟨r.toV,List.mem_map.2 ⟨r,hr,rfl⟩,?_⟩;have:=hpt r hr;omega
 ·obtain⟨x,hx,rfl⟩:=List.mem_map.1 hr;obtain⟨p,g1,g2,g3,g4,k,hk,hg⟩:=h3 x hx
  have hp:x.toV.pt=p:=by have:=hpt x hx;omega
  refine⟨?_,?_,?_,k,hk,?_⟩
  ·rw[<-hlv x hx,hp];exact g2
  ·rw[hp];exact g3
  ·rw[hp];exact g4
  ·rw[hp];exact hg
 ·unfold rowmCells rowCells;rw[List.flatMap_map]
  have:∀l:List RowM,(∀r∈l,r∈rows)->l.flatMap rowmCells1=l.flatMap λr=>rowCells1 r.toV:=by
   intro l
   induction l with
   | nil=>intro _;rfl
   | cons r l ih=>
    intro hl;rw[List.flatMap_cons,List.flatMap_cons,ih λx hx=>hl x (by simp[hx])];congr 1;unfold rowmCells1 rowCells1;rw[hpt r (hl r (by simp)),hlv r (hl r (by simp))]
    rfl
  exact this rows λr hr=>hr
def DB(c:ChgM):Prop:=-1<=c.live/\c.live<=1/\-70000<=c.delta/\c.delta<=70000
theorem QjX{l:List ChgM}(h:∀c∈l,DB c)(p:Int):-(l.length:Int)<=(rowM l p).live/\(rowM l p).live<=(l.length:Int)/\-(70000*(l.length:Int))<=(rowM l p).sum/\(rowM l p).sum<=70000*(l.length:Int):=by
 induction l using QaI with
 | h0=>simp[rowM]
 | h1 l c ih=>
  obtain⟨i1,i2,i3,i4⟩:=ih λx hx=>h x (by simp[hx])
  obtain⟨b1,b2,b3,b4⟩:=h c (by simp);rw[Qct];simp only[List.length_append,List.length_cons,List.length_nil];split
  ·simp only;omega
  ·omega
theorem Qm8{l:List ChgM}(h:∀c∈l,DB c)(hl:l.length<=10000)(p:Int):SumsIn l p:=λn=>by
 obtain⟨i1,i2,i3,i4⟩:=QjX (l:=l.take n) (λc hc=>h c (List.mem_of_mem_take hc)) p;have:=List.length_take_le' n l;omega
theorem Qmt{k:Kn}{e:Ev}(hk:KB k)(he:e.ok):DB (chgOf k e):=by
 have:=Qfs k e;refine⟨this.1,this.2,?_⟩;obtain⟨_,_,h3,h4⟩:=he;obtain⟨k1,k2,_⟩:=hk;unfold chgOf;simp only
 constructor<;>split<;>split<;>omega
theorem Qix(es:List Ev):∀pre,(∀e∈pre++es,e.ok)->(pre++es).length<=400->∀c∈outsFrom pre es,DB c:=by
 induction es with
 | nil=>intro pre _ _ c hc;simp[outsFrom]at hc
 | cons e es ih=>
  intro pre hok hl c hc;simp only[outsFrom,List.mem_append]at hc
  rcases hc with hc | hc
  ·split at hc
   ·simp only[List.mem_cons,List.not_mem_nil,or_false]at hc;rw[hc];refine Qmt (Qcg (λx hx=>hok x (by simp[hx])) (by simp at hl;omega)) (hok e (by simp))
   ·simp at hc
  ·exact ih (pre++[e]) (by simpa using hok) (by simpa using hl) c hc
theorem QcF{j:JobM}(hf:FlowOk j){i:Nat}{s:SorterM}(h:j.sorters[i]? =some s):(∀e∈s.got,e∈j.events)/\s.got.length<=j.events.length/\∀x∈s.pipe,x<(j.events.length:Int):=by
 have so:=hf.sorters i s h
 have key:(∃l n,s.got++l=evs j.width j.events n i)/\∀x∈s.pipe,x<(j.events.length:Int):=by
  by_cases hp:j.fl=true->s.passed=true
  ·refine⟨⟨_,_,(so.free hp).2⟩,λx hx=>?_⟩;have:=(so.free hp).1 x hx;omega
  ·have h1:j.fl=true:=Classical.byContradiction λx=>hp λy=>absurd y x
   have h2:s.passed=false:=by
    cases hh:s.passed with
    | false=>rfl
    | true=>exact absurd (λ_=>hh) hp
   obtain⟨p1,p2,e0,i1,i2,e1,_⟩:=so.wait h1 h2;refine⟨⟨_,_,e1⟩,λx hx=>?_⟩;rw[e0]at hx
   rcases List.mem_append.1 hx with hx | hx
   ·have:=i1 x hx;omega
   ·rcases List.mem_cons.1 hx with hx | hx
    ·omega
    ·have:=i2 x hx;omega
 obtain⟨⟨l,n,e⟩,hx⟩:=key;refine⟨λx hx=>Qej x (by rw[<-e];simp[hx]),?_,hx⟩;have h1:=Qdu j.width j.events n i;rw[<-e,List.length_append]at h1;omega
theorem Qld{j:JobM}(hf:FlowOk j){k:Nat}{a:AdderM}(ha:j.adders[k]? =some a):(∀c∈a.got,∃(i:Nat) (s:SorterM),j.sorters[i]? =some s/\c∈outs s.got)/\a.got.length<=j.width*j.events.length:=by
 have o:=hf.adders k a ha;obtain⟨R,hR,hL⟩:=o.links
 have hlk:∀i,i<j.width->(∀c∈R i,∃(i:Nat) (s:SorterM),j.sorters[i]? =some s/\c∈outs s.got)/\(R i).length<=j.events.length:=λi hi=>by
  obtain⟨s,hs'⟩:∃s:SorterM,j.sorters[i]? =some s:=⟨_,List.getElem?_eq_getElem (by rw[hf.lenS];exact hi)⟩
  have hst:a.stopped[i]? =some (a.stopped[i]'(by rw[o.lenS];exact hi)):=List.getElem?_eq_getElem _;have hpp:a.pipes[i]? =some (a.pipes[i]'(by rw[o.lenP];exact hi)):=List.getElem?_eq_getElem _;have l:=hL i hi s _ _ hs' hst hpp
  have hol:(toA j.width k (outs s.got)).length<=j.events.length:=by
   have h1:=QdQ j.width k (outs s.got);have h2:=QcO s.got [];have h3:=(QcF hf hs').2.1;unfold outs at h1 ⊢;omega
  generalize a.stopped[i]'(by rw[o.lenS];exact hi)=sb at l hst;generalize a.pipes[i]'(by rw[o.lenP];exact hi)=pp at l hpp
  have key:∃q,R i++q=toA j.width k (outs s.got):=by
   by_cases hm:j.fl=true/\s.passed=true/\a.passed=false/\sb=false
   ·obtain⟨q1,q2,e1,c1,c2,e2,e3⟩:=l.mid hm.1 hm.2.1 hm.2.2.1 hm.2.2.2;exact⟨q1++q2,by rw[<-List.append_assoc];exact e3⟩
   ·exact⟨_,(l.free hm).2⟩
  obtain⟨q,e⟩:=key;refine⟨λc hc=>⟨i,s,hs',(Qds (W:=j.width) (k:=k) (by rw[<-e];simp[hc])).1⟩,?_⟩;have:=congrArg List.length e;simp only[List.length_append]at this;omega
 refine⟨λc hc=>?_,?_⟩
 ·obtain⟨i,hi,hc'⟩:=List.mem_flatMap.1 (hR.mem_iff.1 hc);exact(hlk i (by simpa using hi)).1 c hc'
 ·rw[hR.length_eq]
  exact QdR j.width λi hi=>(hlk i hi).2
def Fits(j:JobM):Prop:=(∀s∈j.sorters,s.pipe.length<=j.room)/\∀a∈j.adders,∀p∈a.pipes,p.length<=j.room
theorem Qiy{j:JobM}(h:Fits j):Fits j.source.2:=by
 unfold JobM.source;split
 ·split
  ·exact h
  ·rename_i hany
   refine⟨λs hs=>?_,h.2⟩;obtain⟨s0,hs0,rfl⟩:=List.mem_map.1 hs;have h1:=h.1 s0 hs0
   have h2:s0.pipe.length≠j.room:=λe=>hany (List.any_eq_true.2 ⟨s0,hs0,by simp[e]⟩)
   simp only[List.length_append,List.length_cons,List.length_nil];omega
 ·split
  ·exact h
  ·split
   ·exact h
   ·rename_i s hs
    split
    ·exact h
    ·rename_i hfl
     refine⟨λs' hs'=>?_,h.2⟩
     rcases List.mem_or_eq_of_mem_set hs' with h1 | rfl
     ·exact h.1 s' h1
     ·have h1:=h.1 s (List.mem_of_getElem? hs);simp only[List.length_append,List.length_cons,List.length_nil];omega
theorem Qf9{a:AdderM}{i room:Nat}{c:ChgM}(h:∀p∈a.pipes,p.length<=room)(hw:a.waits i≠room):∀p∈(a.push i c).pipes,p.length<=room:=by
 intro p hp;obtain⟨m,hm⟩:=List.mem_iff_getElem?.1 hp;unfold AdderM.push at hm
 rcases Qbd hm with⟨rfl,x,hx,rfl⟩ | ⟨_,hm⟩
 ·have h1:=h x (List.mem_of_getElem? hx);unfold AdderM.waits at hw;rw[List.getD_eq_getElem?_getD,hx]at hw;simp only[Option.getD_some]at hw;simp only[List.length_append,List.length_cons,List.length_nil];omega
 ·exact h p (List.mem_of_getElem? hm)
theorem QjY{j:JobM}(h:Fits j)(i:Nat):Fits (j.sorts i).2:=by
 unfold JobM.sorts;split
 ·exact h
 ·rename_i s hs
  split
  ·exact h
  ·rename_i x rest hp
   have hrest:rest.length<=j.room:=by
    have:=h.1 s (List.mem_of_getElem? hs);rw[hp]at this;simp at this;omega
   split
   ·split
    ·exact h
    ·rename_i hany
     refine⟨λs' hs'=>?_,λa' ha'=>?_⟩
     ·rcases List.mem_or_eq_of_mem_set hs' with h1 | rfl
      ·exact h.1 s' h1
      ·exact hrest
     ·obtain⟨a,ha,rfl⟩:=List.mem_map.1 ha'
      exact Qf9 (h.2 a ha) λe=>hany (List.any_eq_true.2 ⟨a,ha,by simp[e]⟩)
   ·split
    ·exact h
    ·split
     ·split
      ·exact h
      ·rename_i a ha
       split
       ·exact h
       ·rename_i hfl
        refine⟨λs' hs'=>?_,λa' ha'=>?_⟩
        ·rcases List.mem_or_eq_of_mem_set hs' with h1 | rfl
         ·exact h.1 s' h1
         ·exact hrest
        ·rcases List.mem_or_eq_of_mem_set ha' with h1 | rfl
         ·exact h.2 a' h1
         ·exact Qf9 (h.2 a (List.mem_of_getElem? ha)) hfl
     ·refine⟨λs' hs'=>?_,h.2⟩
      rcases List.mem_or_eq_of_mem_set hs' with h1 | rfl
      ·exact h.1 s' h1
      ·exact hrest
theorem Qle{a a':AdderM}{W room:Nat}(h:∀p∈a.pipes,p.length<=room)(ht:a.take W=some a'):∀p∈a'.pipes,p.length<=room:=by
 unfold AdderM.take at ht;split at ht
 ·rename_i c rest hp
  have hr:∀p∈a.pipes.set a.firstOpen rest,p.length<=room:=λp hp'=>by
   rcases List.mem_or_eq_of_mem_set hp' with h1 | rfl
   ·exact h p h1
   ·have:=h _ (List.mem_of_getElem? hp);simp at this;omega
  split at ht
  ·cases ht;exact hr
  ·split at ht
   ·cases ht;exact hr
   ·cases ht;exact hr
 ·cases ht
theorem Qlf{j:JobM}(h:Fits j)(i:Nat):Fits (j.adds i).2:=by
 unfold JobM.adds;split
 ·exact h
 ·rename_i a ha
  split
  ·exact h
  ·rename_i a' ht
   refine⟨h.1,λb hb=>?_⟩
   rcases List.mem_or_eq_of_mem_set hb with h1 | rfl
   ·exact h.2 b h1
   ·exact Qle (h.2 a (List.mem_of_getElem? ha)) ht
theorem QeF{j:JobM}(h:Fits j):Fits j.commit:=by
 refine⟨λs hs=>?_,λa ha=>?_⟩
 ·obtain⟨s0,hs0,rfl⟩:=List.mem_map.1 hs;exact h.1 s0 hs0
 ·obtain⟨a0,ha0,rfl⟩:=List.mem_map.1 ha;exact h.2 a0 ha0
theorem Qlg{j:JobM}(h:Fits j)(t:Int):Fits (j.step t).2:=by
 unfold JobM.step;split
 ·exact h
 ·split
  ·exact Qiy h
  ·split
   ·exact QjY h _
   ·split
    ·exact Qlf h _
    ·unfold JobM.keeps;split
     ·exact QeF h
     ·split<;>exact h
theorem Qhw{j:JobM}(h:Fits j):Fits j.trigger.2.2:=by
 unfold JobM.trigger;split
 ·exact h
 ·refine⟨λs hs=>?_,λa ha=>?_⟩
  ·obtain⟨s0,hs0,rfl⟩:=List.mem_map.1 hs;exact h.1 s0 hs0
  ·obtain⟨a0,ha0,rfl⟩:=List.mem_map.1 ha;exact h.2 a0 ha0
theorem Qiz(j:JobM):Fits j.forget:=by
 refine⟨λs hs=>?_,λa ha p hp=>?_⟩
 ·obtain⟨s0,hs0,rfl⟩:=List.mem_map.1 hs;simp
 ·obtain⟨a0,ha0,rfl⟩:=List.mem_map.1 ha;simp only[List.mem_replicate]at hp;rw[hp.2];simp
structure RPl (j:JobM):Prop where
 width:1<=j.width/\j.width<=4
 room:1<=j.room/\j.room<=4
 events:j.events.length<=100
 ev:∀e∈j.events,e.ok/\validB e.key=true/\0<e.key.size/\e.key.size<=1000
 flow:FlowOk j
 fits:Fits j
 rows:RowsOk (j.events.take j.base) j.rows
theorem QcX{j j':JobM}(h:RowsOk (j.events.take j.base) j.rows)(h1:j'.events=j.events)(h2:j'.base=j.base)(h3:j'.rows=j.rows):RowsOk (j'.events.take j'.base) j'.rows:=by
 rw[h1,h2,h3];exact h
theorem Qdi{j:JobM}(hf:FlowOk j)(hu:j.under=true)(hc:j.complete=true)(h:RowsOk (j.events.take j.base) j.rows):RowsOk (j.commit.events.take j.commit.base) j.commit.rows:=by
 obtain⟨h1,_,h3⟩:=hf.comp hu hc;exact Qiv hf (by unfold JobM.fl;rw[hu,h1];rfl) h3 h
theorem Qlh{j:JobM}(hf:FlowOk j)(h:RowsOk (j.events.take j.base) j.rows)(t:Int):RowsOk ((j.step t).2.events.take (j.step t).2.base) (j.step t).2.rows:=by
 unfold JobM.step;split
 ·exact h
 ·split
  ·refine QcX h ?_ ?_ ?_
   all_goals
    unfold JobM.source;split
    ·split<;>rfl
    ·split
     ·rfl
     ·split
      ·rfl
      ·split<;>rfl
  ·split
   ·refine QcX h ?_ ?_ ?_
    all_goals
     unfold JobM.sorts;split
     ·rfl
     ·split
      ·rfl
      ·split
       ·split<;>rfl
       ·split
        ·rfl
        ·split
         ·split
          ·rfl
          ·split<;>rfl
         ·rfl
   ·split
    ·refine QcX h ?_ ?_ ?_
     all_goals
      unfold JobM.adds;split
      ·rfl
      ·split<;>rfl
    ·unfold JobM.keeps;split
     ·rename_i hc
      rw[Bool.and_eq_true]at hc;exact Qdi hf hc.1 hc.2 h
     ·split
      ·exact h
      ·exact h
theorem Qfz{j j':JobM}(h:RPl j)(hs:SameJ j j')(hf:FlowOk j')(hfi:Fits j')(hr:RowsOk (j'.events.take j'.base) j'.rows):RPl j':=
 ⟨by rw[hs.width];exact h.width,by rw[hs.room];exact h.room,by rw[hs.events];exact h.events,by rw[hs.events];exact h.ev,hf,hfi,hr⟩
theorem Qmu{j:JobM}(h:RPl j)(t:Int):RPl (j.step t).2:=Qfz h (QkE j t) (QkC h.flow t) (Qlg h.fits t) (Qlh h.flow h.rows t)
theorem QiA{j:JobM}(h:RPl j):RPl j.trigger.2.2:=by
 refine Qfz h (Qg6 j) (Qd7 h.flow) (Qhw h.fits) (QcX h.rows ?_ ?_ ?_)
 all_goals
  unfold JobM.trigger
  split<;>rfl
theorem QjZ{j:JobM}(h:RPl j)(hu:j.under=true)(hc:j.complete=true):RPl j.commit:=
 Qfz h ⟨rfl,rfl,rfl⟩ (Qci h.flow hu hc) (QeF h.fits) (Qdi h.flow hu hc h.rows)
theorem Qmv{j:JobM}(h:RPl j):RPl j.fail:=by
 refine Qfz h (QkF j) (QkB h.flow) ?_ ?_
 ·unfold JobM.fail
  split<;>exact Qiz _
 ·unfold JobM.fail;split
  ·rename_i hc
   rw[Bool.and_eq_true]at hc;exact Qdi h.flow hc.1 hc.2 h.rows
  ·exact h.rows
theorem Qm9{W R:Nat}{es:List Ev}(hW:1<=W/\W<=4)(hR:1<=R/\R<=4)(he:es.length<=100)(hv:∀e∈es,e.ok/\validB e.key=true/\0<e.key.size/\e.key.size<=1000):RPl (newJ W R es):=by
 refine⟨hW,hR,he,hv,Qg3 W R es hW.1,⟨λs hs=>?_,λa ha p hp=>?_⟩,?_⟩
 ·simp only[newJ,List.mem_replicate]at hs;rw[hs.2];simp[newS]
 ·simp only[newJ,List.mem_replicate]at ha;rw[ha.2]at hp;simp only[newA,List.mem_replicate]at hp;rw[hp.2];simp
 ·simp only[newJ,List.take_zero];exact QjV
theorem RPl.got{j:JobM}(h:RPl j){k:Nat}{a:AdderM}(ha:j.adders[k]? =some a):(∀c∈a.got,DB c)/\a.got.length<=400:=by
 obtain⟨g1,g2⟩:=Qld h.flow ha;refine⟨λc hc=>?_,?_⟩
 ·obtain⟨i,s,hs,hm⟩:=g1 c hc;obtain⟨s1,s2,_⟩:=QcF h.flow hs;have:=h.events;exact Qix s.got [] (λe he=>(h.ev e (s1 e (by simpa using he))).1) (by simp;omega) c hm
 ·have h1:j.width*j.events.length<=4*100:=Nat.mul_le_mul h.width.2 h.events;omega
end
section
open Go.RowKit
section
variable {f:Owners} {w:World} {B k jb:Nat} {sb ab:List Nat} {j:JobM}
theorem RJob.tailA(h:RJob f w B k jb sb ab j)(m:Nat)(hm:m<ab.length)(hm':m<j.adders.length)(i:Nat)(hi:i<(j.adders[m]).pipes.length)(hwid:j.width<=9):
  ∃gp pc v,w.cell? ⟨ab[m],1,none⟩=some (.slice (some ⟨gp,0,none⟩) j.width pc)/\w.cell? ⟨gp,i,none⟩=some v/\w.frozen? ⟨gp,i,none⟩=false/\qRow w B 149 4 v ((j.adders[m]).pipes[i]).length (chgCells ((j.adders[m]).pipes[i]))/\
   (∀v' (rest:List ChgM),qRow w B 149 4 v' rest.length (chgCells rest)->(∀g,v'.ownBlock=some g->v.ownBlock=some g)->
    RAfter f w B k jb sb ab {j with adders:=j.adders.set m {j.adders[m]with pipes:=(j.adders[m]).pipes.set i rest}} (w.setCell ⟨gp,i,none⟩ v')):=by
 obtain⟨ho,vg,vp,vs,vt,hb,hg,og,hp,op,hq,ht,ot⟩:=h.adders m hm hm';obtain⟨pa,pc,rfl⟩:=Qaf hp;have hpl:=(h.pipes m hm').1
 have hmw:m<j.width:=by rw[<-h.lenA.1];exact hm
 rcases Qai hp with⟨_,h0⟩ | ⟨gp,rfl⟩
 ·omega
 obtain⟨v,hv,hqv,ov⟩:=hq i hi;have ogp:f gp=some (k+600+m):=op gp rfl;have hc1:w.cell? ⟨ab[m],1,none⟩=some (.slice (some ⟨gp,0,none⟩) (j.adders[m]).pipes.length pc):=Qad hb 1;rw[hpl]at hc1;refine⟨gp,pc,v,hc1,(hp.cellAt i omQ).trans hv,hp.frozenAt i,hqv,λv' rest hq' hv'=>?_⟩
 have ov':IsOf f (k+1000+10*m+i) v':=λg hg=>ov g (hv' g hg)
 have hf:FrmO f (λc=>c=k+600+m) w (w.setCell ⟨gp,i,none⟩ v'):=FrmO.of_set (S:=λc=>c=k+600+m) ogp rfl _;have hst:(w.setCell ⟨gp,i,none⟩ v').ownsRow B 98 1 (.slice (some ⟨gp,0,none⟩) (j.adders[m]).pipes.length pc) (j.adders[m]).pipes.length (vs.set i v'):=(hp.stored i v').1
 have hlen:((j.adders[m]).pipes.set i rest).length=(j.adders[m]).pipes.length:=by simp
 refine⟨f,h.putA m hm _ (S:=λc=>c=k+600+m) (λc hc=>.inr (.inr (.inl hc))) hf (Same.refl _ _) hwid ⟨ho,vg,_,vs.set i v',vt,Qaq hb hf ho omQ,Qaj hg hf og omQ,og,?_,op,λn hn=>?_,Qaj ht hf ot omQ,ot⟩ ⟨by rw[hlen];exact hpl,(h.pipes m hm').2⟩,hf.mono λ_ _=>trivial,Same.refl _ _⟩
 ·rw[hlen];exact hst
 ·have hn':n<(j.adders[m]).pipes.length:=by rw[hlen]at hn;exact hn
  have hvs:vs.length=(j.adders[m]).pipes.length:=by have:=hp.1;omega
  by_cases e:n=i
  ·subst e;refine⟨v',by rw[List.getElem?_set_self omQ],?_,ov'⟩;simp only[List.getElem_set_self];exact Qbo hq' hf ov' omQ
  ·obtain⟨v2,hv2,hqv2,ov2⟩:=hq n hn';refine⟨v2,by rw[List.getElem?_set_ne (λx=>e x.symm)];exact hv2,?_,ov2⟩;simp only[List.getElem_set_ne (λx=>e x.symm)];exact Qbo hqv2 hf ov2 omQ
theorem RJob.stopA(h:RJob f w B k jb sb ab j)(m:Nat)(hm:m<ab.length)(hm':m<j.adders.length)(i:Nat)(hi:i<(j.adders[m]).stopped.length)(hwid:j.width<=9):
  ∃gt tc,w.cell? ⟨ab[m],2,none⟩=some (.slice (some ⟨gt,0,none⟩) j.width tc)/\w.cell? ⟨gt,i,none⟩=some (.bool (j.adders[m]).stopped[i])/\w.frozen? ⟨gt,i,none⟩=false/\
   ∀b:Bool,RAfter f w B k jb sb ab {j with adders:=j.adders.set m {j.adders[m]with stopped:=(j.adders[m]).stopped.set i b}} (w.setCell ⟨gt,i,none⟩ (.bool b)):=by
 obtain⟨ho,vg,vp,vs,vt,hb,hg,og,hp,op,hq,ht,ot⟩:=h.adders m hm hm';obtain⟨ta,tc,rfl⟩:=Qaf ht;have hpl:=(h.pipes m hm').2;have hpp:=(h.pipes m hm').1
 have hmw:m<j.width:=by rw[<-h.lenA.1];exact hm
 rcases Qai ht with⟨_,h0⟩ | ⟨gt,rfl⟩
 ·omega
 have ogt:f gt=some (k+700+m):=ot gt rfl;have hc1:w.cell? ⟨ab[m],2,none⟩=some (.slice (some ⟨gt,0,none⟩) (j.adders[m]).stopped.length tc):=Qad hb 2;rw[hpl]at hc1;refine⟨gt,tc,hc1,?_,ht.frozenAt i,λb=>?_⟩
 ·refine(ht.cellAt i omQ).trans ?_;rw[List.getElem?_map,List.getElem?_eq_getElem hi]
  rfl
 have hf:FrmO f (λc=>c=k+700+m) w (w.setCell ⟨gt,i,none⟩ (.bool b)):=FrmO.of_set (S:=λc=>c=k+700+m) ogt rfl _;have hst:(w.setCell ⟨gt,i,none⟩ (.bool b)).ownsRow B 4 1 (.slice (some ⟨gt,0,none⟩) (j.adders[m]).stopped.length tc) (j.adders[m]).stopped.length (((j.adders[m]).stopped.map Value.bool).set i (.bool b)):=(ht.stored i (.bool b)).1
 have hlen:((j.adders[m]).stopped.set i b).length=(j.adders[m]).stopped.length:=by simp
 refine⟨f,h.putA m hm _ (S:=λc=>c=k+700+m) (λc hc=>.inr (.inr (.inr (.inl hc)))) hf (Same.refl _ _) hwid ⟨ho,vg,vp,vs,_,Qaq hb hf ho omQ,Qaj hg hf og omQ,og,Qaj hp hf op omQ,op,λn hn=>?_,?_,ot⟩ ⟨hpp,by rw[hlen];exact hpl⟩,hf.mono λ_ _=>trivial,Same.refl _ _⟩
 ·obtain⟨v2,hv2,hqv2,ov2⟩:=hq n hn;exact⟨v2,hv2,Qbo hqv2 hf ov2 omQ,ov2⟩
 ·rw[hlen];simp only[List.map_set];exact hst
end
end
section
open Go.RowKit
section
variable {f:Owners} {w:World} {B k jb:Nat} {sb ab:List Nat} {j:JobM}
theorem RJob.gotA(h:RJob f w B k jb sb ab j)(m:Nat)(hm:m<ab.length)(hm':m<j.adders.length)(hwid:j.width<=9):
  ∃vg,w.cell? ⟨ab[m],0,none⟩=some vg/\w.frozen? ⟨ab[m],0,none⟩=false/\w.ownsRow B 149 4 vg (j.adders[m]).got.length (chgCells (j.adders[m]).got)/\
   (∀wa v' w5 (c:ChgM),Below w.heap.size w wa->w5.ownsRow B 149 4 v' ((j.adders[m]).got.length+1) (chgCells (j.adders[m]).got++chgCells1 c)->AppQ wa w5 vg v'->
    w5.cell? ⟨ab[m],0,none⟩=some vg/\w5.frozen? ⟨ab[m],0,none⟩=false/\
    RAfter f w B k jb sb ab {j with adders:=j.adders.set m {j.adders[m]with got:=(j.adders[m]).got++[c]}} (w5.setCell ⟨ab[m],0,none⟩ v')):=by
 obtain⟨ho,vg,vp,vs,vt,hb,hg,og,hp,op,hq,ht,ot⟩:=h.adders m hm hm'
 have hmw:m<j.width:=by rw[<-h.lenA.1];exact hm
 have hpp:=(h.pipes m hm').1;refine⟨vg,Qad hb 0,Qab hb 0,hg,λwa v' w5 c hba hq5 happ=>?_⟩;have hf5:FrmO f (λc=>c=k+500+m) w w5:=(FrmO.of_below hba).trans (Same.refl _ _) (happ.frm og);have hb5:=Qaq hb hf5 ho omQ;obtain⟨f',hs',hv'⟩:=happ.owner hba og
 have hne:v'.ownBlock≠some ab[m]:=λe=>by
  obtain⟨a3,c3,rfl⟩:=Qaf hq5
  rcases Qai hq5 with⟨_,h0⟩ | ⟨g3,rfl⟩
  ·omega
  obtain⟨cur,hc⟩:=QbV hq5;have e':g3=ab[m]:=Option.some.inj e;rw[e',hb5]at hc;simp only[Option.some.injEq,Obj.cells.injEq]at hc;have:=hc.2.1;exact absurd this (by decide)
 have hf6:FrmO f (λc=>c=k+400+m\/c=k+500+m) w (w5.setCell ⟨ab[m],0,none⟩ v'):=
  (hf5.mono λ_ hc=>.inr hc).trans (Same.refl _ _) (FrmO.of_set (S:=λc=>c=k+400+m\/c=k+500+m) ho (.inl rfl) _)
 refine⟨Qad hb5 0,Qab hb5 0,f',h.putA m hm _ (S:=λc=>c=k+400+m\/c=k+500+m) (λc hc=>hc.elim .inl λe=>.inr (.inl e)) hf6 hs' hwid ⟨(hs' _ (Qac hb)).trans ho,v',vp,vs,vt,?_,?_,hv',Qaj hp hf6 op omQ,op.same hs' λg e=>(Qah hp g e).2,λn hn=>?_,Qaj ht hf6 ot omQ,ot.same hs' λg e=>(Qah ht g e).2⟩ (h.pipes m hm'),hf6.mono λ_ _=>trivial,hs'⟩
 ·have:=Qas (j:=0) hb5 v';exact this
 ·have hq6:=hq5.kept (Qak w5 ab[m] 0 v') (.inr hne);simp only[List.length_append,List.length_cons,List.length_nil,QcW,Qef];exact hq6
 ·obtain⟨v2,hv2,hqv2,ov2⟩:=hq n hn;exact⟨v2,hv2,Qbo hqv2 hf6 ov2 omQ,ov2.same hs' (q_lt hqv2)⟩
theorem RJob.openA(h:RJob f w B k jb sb ab j)(m:Nat)(hm:m<ab.length)(hm':m<j.adders.length)(hwid:j.width<=9)(w1:World)(v':Value)(hba:Below w.heap.size w w1)(hr:w1.ownsRow B 4 1 v' j.width (List.replicate j.width (.bool false)))(hv':∀g,v'.ownBlock=some g->w.heap.size<=g):
  RAfter f w B k jb sb ab {j with adders:=j.adders.set m {j.adders[m]with stopped:=List.replicate j.width false,marked:=(j.adders[m]).got.length,passed:=true}} (((w1.setCell ⟨ab[m],2,none⟩ v').setCell ⟨ab[m],3,none⟩ (.int .i64 ((j.adders[m]).got.length:Int))).setCell ⟨ab[m],5,none⟩ (.bool true)):=by
 obtain⟨ho,vg,vp,vs,vt,hb,hg,og,hp,op,hq,ht,ot⟩:=h.adders m hm hm'
 have hmw:m<j.width:=by rw[<-h.lenA.1];exact hm
 have hpp:=(h.pipes m hm').1;have hbl:=Qac hb
 obtain⟨f',hs',ov'⟩:∃f':Owners,Same w.heap.size f f'/\IsOf f' (k+700+m) v':=by
  cases hob:v'.ownBlock with
  | none=>exact⟨f,Same.refl _ _,λg hg=>by rw[hob]at hg;cases hg⟩
  | some g=>
   refine⟨f.put g (k+700+m),λx hx=>Owners.put_same f g (k+700+m) x (Nat.lt_of_lt_of_le hx (hv' g hob)),λx hx=>?_⟩;rw[hob]at hx;simp only[Option.some.injEq]at hx;rw[<-hx];exact Owners.put_self _ _ _
 have hs1:∀(o:Nat) (u:Value) (w:World),FrmO f (λc=>c=k+400+m) w (w.setCell ⟨ab[m],o,none⟩ u):=λo u w=>FrmO.of_set (S:=λc=>c=k+400+m) ho rfl _
 have hf0:FrmO f (λc=>c=k+400+m) w w1:=.of_below hba;have hf:=((hf0.trans (Same.refl _ _) (hs1 2 v' _)).trans (Same.refl _ _) (hs1 3 (.int .i64 ((j.adders[m]).got.length:Int)) _)).trans (Same.refl _ _) (hs1 5 (.bool true) _)
 have hne:v'.ownBlock≠some ab[m]:=λe=>by have:=hv' _ e;omega
 refine⟨f',h.putA m hm _ (S:=λc=>c=k+400+m) (λc hc=>.inl hc) hf hs' hwid ⟨(hs' _ hbl).trans ho,vg,vp,vs,v',?_,Qaj hg hf og omQ,og.same hs' λg e=>(Qah hg g e).2,Qaj hp hf op omQ,op.same hs' λg e=>(Qah hp g e).2,λn hn=>?_,?_,ov'⟩ ⟨hpp,by simp⟩,hf.mono λ_ _=>trivial,hs'⟩
 ·have hb1:=Qaq (S:=λ_=>False) hb (.of_below hba) ho id;have:=Qas (j:=5) (Qas (j:=3) (Qas (j:=2) hb1 v') (.int .i64 ((j.adders[m]).got.length:Int))) (.bool true);exact this
 ·obtain⟨v2,hv2,hqv2,ov2⟩:=hq n hn;exact⟨v2,hv2,Qbo hqv2 hf ov2 omQ,ov2.same hs' (q_lt hqv2)⟩
 ·have hk:=((hr.kept (Qak w1 ab[m] 2 v') (.inr hne)).kept (Qak _ ab[m] 3 (.int .i64 ((j.adders[m]).got.length:Int))) (.inr hne)).kept (Qak _ ab[m] 5 (.bool true)) (.inr hne);simp only[List.length_replicate,List.map_replicate];exact hk
end
end
section
open Go.RowKit
section
variable {f:Owners} {w:World} {B k jb:Nat} {sb ab:List Nat} {j:JobM}
theorem Qj0(h:RJob f w B k jb sb ab j)(hw:1<=j.width/\j.width<=4)(i:Nat)(hi:i<j.width)(ha:i<j.adders.length)
  (hno:∀m (h1:m<(j.adders[i]).pipes.length) (h2:m<(j.adders[i]).stopped.length),(j.adders[i]).stopped[m]=true\/((j.adders[i]).pipes[m]).length=0):
  Calls Tryz.prog 46 #[.pointer (some ⟨jb,0,none⟩),.int .i64 (i:Int)] w λen w'=>en=.returned (.int .i64 8)/\RAfter f w B k jb sb ab j w':=by
 have hib:i<ab.length:=by have:=h.lenA;omega
 obtain⟨c0,_,⟨ga,ca,c5,hA⟩⟩:=Qav h;obtain⟨g2,rfl,d1⟩:=hA i hib;have hpl:=h.pipes i ha
 have HS:=show Hid (RAfter f w B k jb sb ab j w)from⟨f,h,FrmO.refl _ _ _,Same.refl _ _⟩
 have hpipe:∀m,m<j.width->∃gp pc gt tc qa ln qc,∃st:Bool,w.cell? ⟨ab[i],1,none⟩=some (.slice (some ⟨gp,0,none⟩) j.width pc)/\w.cell? ⟨ab[i],2,none⟩=some (.slice (some ⟨gt,0,none⟩) j.width tc)/\w.cell? ⟨gp,m,none⟩=some (.slice qa ln qc)/\w.cell? ⟨gt,m,none⟩=some (.bool st)/\(st=true\/(st=false/\ln=0)):=λm hm=>by
  have h1:m<(j.adders[i]).pipes.length:=omQ;have h2:m<(j.adders[i]).stopped.length:=omQ;obtain⟨gp,pc,v,a1,a2,_,hqv,_⟩:=h.tailA i hib ha m h1 omQ;obtain⟨gt,tc,b1,b2,_⟩:=h.stopA i hib ha m h2 omQ;obtain⟨qa,qc,rfl⟩:=hqv.shape;refine⟨gp,pc,gt,tc,qa,_,qc,_,a1,b1,a2,b2,?_⟩
  rcases hno m h1 h2 with e | e
  ·exact .inl e
  ·cases hst:(j.adders[i]).stopped[m]with
   | true=>exact .inl rfl
   | false=>exact .inr ⟨rfl,e⟩
 have Hp:=hdQ hpipe;clear hpipe hno h hA hpl;generalize ab[i]=b2 at d1 Hp;have h1:(i:Int)<(j.width:Int):=omQ;have h2:(0:Int)<=(i:Int):=omQ;generalize hWW:j.width=W at *;clear hWW;go_enter Tryz.func46,Tryz.ntmps46;go_wp2
 go_loopw [6] (λiv wr=>∃n:Nat,n<=W/\iv=.int .i64 (n:Int)/\wr=w) (λiv _=>W-(intOf iv).toNat)
 case atStart=>exact⟨0,Nat.zero_le _,rfl,rfl⟩
 case round=>
  obtain⟨n,hn,rfl,rfl⟩:=hrel
  by_cases hnl:n<W
  ·have hni:(n:Int)<(W:Int):=omQ;have hn0:(0:Int)<=(n:Int):=omQ;obtain⟨gp,pc,gt,tc,qa,ln,qc,st,e1,e2,e3,e4,hst⟩:=Hp.out n hnl
   rcases hst with rfl | ⟨rfl,rfl⟩
   ·go_wp2
    go_roundw
    case rel=>exact⟨n+1,by omega,by go_num,trivial⟩
    case measure=>simp[intOf];omega
   ·go_wp2
    go_roundw
    case rel=>exact⟨n+1,by omega,by go_num,trivial⟩
    case measure=>simp[intOf];omega
  ·have hni:¬(n:Int)<(W:Int):=omQ;go_wp2;go_ret;exact⟨rfl,HS.out⟩
end
end
section
open Go.RowKit
theorem AdderM.openCases(a:AdderM)(W:Nat)(hp:a.pipes.length=W)(hs:a.stopped.length=W):
  (a.take W=none/\∀m (h1:m<a.pipes.length) (h2:m<a.stopped.length),a.stopped[m]=true\/(a.pipes[m]).length=0)\/
  ∃c rest,∃h1:a.firstOpen<a.pipes.length,∃h2:a.firstOpen<a.stopped.length,a.stopped[a.firstOpen]=false/\a.pipes[a.firstOpen]=c :: rest/\
   ∀m (_:m<a.firstOpen) (h3:m<a.pipes.length) (h4:m<a.stopped.length),a.stopped[m]=true\/(a.pipes[m]).length=0:=by
 have hz:(a.stopped.zip a.pipes).length=W:=by simp[hp,hs]
 have closed:∀m (h1:m<a.pipes.length) (h2:m<a.stopped.length),m<a.firstOpen->a.stopped[m]=true\/(a.pipes[m]).length=0:=λm h1 h2 hm=>by
  have hmz:m<(a.stopped.zip a.pipes).length:=omQ;have:=List.not_of_lt_findIdx (p:=λx:Bool × List ChgM=>!x.1 && !x.2.isEmpty) (xs:=a.stopped.zip a.pipes) (i:=m) hm;simp only[List.getElem_zip]at this
  cases hst:a.stopped[m]with
  | true=>exact .inl rfl
  | false=>
   have h5:(a.pipes[m]).isEmpty=true:=by rw[hst]at this;simpa using this
   exact .inr (by rw[List.isEmpty_iff]at h5;rw[h5];rfl)
 by_cases hlt:a.firstOpen<W
 ·have h1:a.firstOpen<a.pipes.length:=omQ;have h2:a.firstOpen<a.stopped.length:=omQ;have hf:=List.findIdx_getElem (p:=λx:Bool × List ChgM=>!x.1 && !x.2.isEmpty) (xs:=a.stopped.zip a.pipes) (w:=by show a.firstOpen<_;omega);simp only[List.getElem_zip,Bool.and_eq_true,Bool.not_eq_true']at hf;have hf1:a.stopped[a.firstOpen]=false:=hf.1;have hf2:(a.pipes[a.firstOpen]).isEmpty=false:=hf.2;refine .inr ?_
  cases hpp:a.pipes[a.firstOpen]with
  | nil=>rw[hpp]at hf2;cases hf2
  | cons c rest=>exact⟨c,rest,h1,h2,hf1,hpp,λm hm h3 h4=>closed m h3 h4 hm⟩
 ·refine .inl ⟨?_,λm h1 h2=>closed m h1 h2 omQ⟩;unfold AdderM.take;rw[List.getElem?_eq_none omQ]
end
end Go.Proofs.YthccpacmklhejaaGreatDoor
