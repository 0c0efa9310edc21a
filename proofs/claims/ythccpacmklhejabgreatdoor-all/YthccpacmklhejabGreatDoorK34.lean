import Derived.Test.YthccpacmklhejabGreatDoorTk
import Derived.Test.YthccpacmklhejabGreatDoorK33
import Derived.Test.YthccpacmklhejabGreatDoorK17
set_option maxHeartbeats 4000000
set_option maxRecDepth 100000
namespace Go.Proofs.YthccpacmklhejabGreatDoor
section
theorem QcF{j:JobM}(hf:FlowOk j){i:Nat}{s:SorterM}(h:j.sorters[i]? =some s):(∀e∈s.got,e∈j.events)/\s.got.length<=j.events.length/\∀x∈s.pipe,x<(j.events.length:Int):=by
 have so:=hf.sorters i s h
 have key:(∃l n,s.got++l=evs j.width j.events n i)/\∀x∈s.pipe,x<(j.events.length:Int):=by
  by_cases hp:j.fl=true->s.passed=true
  ·refine⟨⟨_,_,(so.free hp).2⟩,λx hx=>?_⟩;have:=(so.free hp).1 x hx;omega
  ·have h1:j.fl=true:=Classical.byContradiction λx=>hp λy=>absurd y x
   have h2:s.passed=false:=by
    cases hh:s.passed with
    | false=>rfl
    | true=>exact absurd (λ_=>hh) hp
   obtain⟨p1,p2,e0,i1,i2,e1,_⟩:=so.wait h1 h2;refine⟨⟨_,_,e1⟩,λx hx=>?_⟩;rw[e0]at hx
   rcases List.mem_append.1 hx with hx | hx
   ·have:=i1 x hx;omega
   ·rcases List.mem_cons.1 hx with hx | hx
    ·omega
    ·have:=i2 x hx;omega
 obtain⟨⟨l,n,e⟩,hx⟩:=key;refine⟨λx hx=>Qej x (by rw[<-e];simp[hx]),?_,hx⟩;have h1:=Qdu j.width j.events n i;rw[<-e,List.length_append]at h1;omega
theorem Qld{j:JobM}(hf:FlowOk j){k:Nat}{a:AdderM}(ha:j.adders[k]? =some a):(∀c∈a.got,∃(i:Nat) (s:SorterM),j.sorters[i]? =some s/\c∈outs s.got)/\a.got.length<=j.width*j.events.length:=by
 have o:=hf.adders k a ha;obtain⟨R,hR,hL⟩:=o.links
 have hlk:∀i,i<j.width->(∀c∈R i,∃(i:Nat) (s:SorterM),j.sorters[i]? =some s/\c∈outs s.got)/\(R i).length<=j.events.length:=λi hi=>by
  obtain⟨s,hs'⟩:∃s:SorterM,j.sorters[i]? =some s:=⟨_,List.getElem?_eq_getElem (by rw[hf.lenS];exact hi)⟩
  have hst:a.stopped[i]? =some (a.stopped[i]'(by rw[o.lenS];exact hi)):=List.getElem?_eq_getElem _;have hpp:a.pipes[i]? =some (a.pipes[i]'(by rw[o.lenP];exact hi)):=List.getElem?_eq_getElem _;have l:=hL i hi s _ _ hs' hst hpp
  have hol:(toA j.width k (outs s.got)).length<=j.events.length:=by
   have h1:=QdQ j.width k (outs s.got);have h2:=QcO s.got [];have h3:=(QcF hf hs').2.1;unfold outs at h1 ⊢;omega
  generalize a.stopped[i]'(by rw[o.lenS];exact hi)=sb at l hst;generalize a.pipes[i]'(by rw[o.lenP];exact hi)=pp at l hpp
  have key:∃q,R i++q=toA j.width k (outs s.got):=by
   by_cases hm:j.fl=true/\s.passed=true/\a.passed=false/\sb=false
   ·obtain⟨q1,q2,e1,c1,c2,e2,e3⟩:=l.mid hm.1 hm.2.1 hm.2.2.1 hm.2.2.2;exact⟨q1++q2,by rw[<-List.append_assoc];exact e3⟩
   ·exact⟨_,(l.free hm).2⟩
  obtain⟨q,e⟩:=key;refine⟨λc hc=>⟨i,s,hs',(Qds (W:=j.width) (k:=k) (by rw[<-e];simp[hc])).1⟩,?_⟩;have:=congrArg List.length e;simp only[List.length_append]at this;omega
 refine⟨λc hc=>?_,?_⟩
 ·obtain⟨i,hi,hc'⟩:=List.mem_flatMap.1 (hR.mem_iff.1 hc);exact(hlk i (by simpa using hi)).1 c hc'
 ·rw[hR.length_eq]
  exact QdR j.width λi hi=>(hlk i hi).2
def Fits(j:JobM):Prop:=(∀s∈j.sorters,s.pipe.length<=j.room)/\∀a∈j.adders,∀p∈a.pipes,p.length<=j.room
theorem Qiy{j:JobM}(h:Fits j):Fits j.source.2:=by
 unfold JobM.source;split
 ·split
  ·exact h
  ·rename_i hany
   refine⟨λs hs=>?_,h.2⟩;obtain⟨s0,hs0,rfl⟩:=List.mem_map.1 hs;have h1:=h.1 s0 hs0
   have h2:s0.pipe.length≠j.room:=λe=>hany (List.any_eq_true.2 ⟨s0,hs0,by simp[e]⟩)
   simp only[List.length_append,List.length_cons,List.length_nil];omega
 ·split
  ·exact h
  ·split
   ·exact h
   ·rename_i s hs
    split
    ·exact h
    ·rename_i hfl
     refine⟨λs' hs'=>?_,h.2⟩
     rcases List.mem_or_eq_of_mem_set hs' with h1 | rfl
     ·exact h.1 s' h1
     ·have h1:=h.1 s (List.mem_of_getElem? hs);simp only[List.length_append,List.length_cons,List.length_nil];omega
theorem Qf9{a:AdderM}{i room:Nat}{c:ChgM}(h:∀p∈a.pipes,p.length<=room)(hw:a.waits i≠room):∀p∈(a.push i c).pipes,p.length<=room:=by
 intro p hp;obtain⟨m,hm⟩:=List.mem_iff_getElem?.1 hp;unfold AdderM.push at hm
 rcases Qbd hm with⟨rfl,x,hx,rfl⟩ | ⟨_,hm⟩
 ·have h1:=h x (List.mem_of_getElem? hx);unfold AdderM.waits at hw;rw[List.getD_eq_getElem?_getD,hx]at hw;simp only[Option.getD_some]at hw;simp only[List.length_append,List.length_cons,List.length_nil];omega
 ·exact h p (List.mem_of_getElem? hm)
theorem QjX{j:JobM}(h:Fits j)(i:Nat):Fits (j.sorts i).2:=by
 unfold JobM.sorts;split
 ·exact h
 ·rename_i s hs
  split
  ·exact h
  ·rename_i x rest hp
   have hrest:rest.length<=j.room:=by
    have:=h.1 s (List.mem_of_getElem? hs);rw[hp]at this;simp at this;omega
   split
   ·split
    ·exact h
    ·rename_i hany
     refine⟨λs' hs'=>?_,λa' ha'=>?_⟩
     ·rcases List.mem_or_eq_of_mem_set hs' with h1 | rfl
      ·exact h.1 s' h1
      ·exact hrest
     ·obtain⟨a,ha,rfl⟩:=List.mem_map.1 ha'
      exact Qf9 (h.2 a ha) λe=>hany (List.any_eq_true.2 ⟨a,ha,by simp[e]⟩)
   ·split
    ·exact h
    ·split
     ·split
      ·exact h
      ·rename_i a ha
       split
       ·exact h
       ·rename_i hfl
        refine⟨λs' hs'=>?_,λa' ha'=>?_⟩
        ·rcases List.mem_or_eq_of_mem_set hs' with h1 | rfl
         ·exact h.1 s' h1
         ·exact hrest
        ·rcases List.mem_or_eq_of_mem_set ha' with h1 | rfl
         ·exact h.2 a' h1
         ·exact Qf9 (h.2 a (List.mem_of_getElem? ha)) hfl
     ·refine⟨λs' hs'=>?_,h.2⟩
      rcases List.mem_or_eq_of_mem_set hs' with h1 | rfl
      ·exact h.1 s' h1
      ·exact hrest
theorem Qle{a a':AdderM}{W room:Nat}(h:∀p∈a.pipes,p.length<=room)(ht:a.take W=some a'):∀p∈a'.pipes,p.length<=room:=by
 unfold AdderM.take at ht;split at ht
 ·rename_i c rest hp
  have hr:∀p∈a.pipes.set a.firstOpen rest,p.length<=room:=λp hp'=>by
   rcases List.mem_or_eq_of_mem_set hp' with h1 | rfl
   ·exact h p h1
   ·have:=h _ (List.mem_of_getElem? hp);simp at this;omega
  split at ht
  ·cases ht;exact hr
  ·split at ht
   ·cases ht;exact hr
   ·cases ht;exact hr
 ·cases ht
theorem Qlf{j:JobM}(h:Fits j)(i:Nat):Fits (j.adds i).2:=by
 unfold JobM.adds;split
 ·exact h
 ·rename_i a ha
  split
  ·exact h
  ·rename_i a' ht
   refine⟨h.1,λb hb=>?_⟩
   rcases List.mem_or_eq_of_mem_set hb with h1 | rfl
   ·exact h.2 b h1
   ·exact Qle (h.2 a (List.mem_of_getElem? ha)) ht
theorem QeF{j:JobM}(h:Fits j):Fits j.commit:=by
 refine⟨λs hs=>?_,λa ha=>?_⟩
 ·obtain⟨s0,hs0,rfl⟩:=List.mem_map.1 hs;exact h.1 s0 hs0
 ·obtain⟨a0,ha0,rfl⟩:=List.mem_map.1 ha;exact h.2 a0 ha0
theorem Qlg{j:JobM}(h:Fits j)(t:Int):Fits (j.step t).2:=by
 unfold JobM.step;split
 ·exact h
 ·split
  ·exact Qiy h
  ·split
   ·exact QjX h _
   ·split
    ·exact Qlf h _
    ·unfold JobM.keeps;split
     ·exact QeF h
     ·split<;>exact h
theorem Qhw{j:JobM}(h:Fits j):Fits j.trigger.2.2:=by
 unfold JobM.trigger;split
 ·exact h
 ·refine⟨λs hs=>?_,λa ha=>?_⟩
  ·obtain⟨s0,hs0,rfl⟩:=List.mem_map.1 hs;exact h.1 s0 hs0
  ·obtain⟨a0,ha0,rfl⟩:=List.mem_map.1 ha;exact h.2 a0 ha0
theorem Qiz(j:JobM):Fits j.forget:=by
 refine⟨λs hs=>?_,λa ha p hp=>?_⟩
 ·obtain⟨s0,hs0,rfl⟩:=List.mem_map.1 hs;simp
 ·obtain⟨a0,ha0,rfl⟩:=List.mem_map.1 ha;simp only[List.mem_replicate]at hp;rw[hp.2];simp
structure RPl (j:JobM):Prop where
 width:1<=j.width/\j.width<=4
 room:1<=j.room/\j.room<=4
 events:j.events.length<=100
 ev:∀e∈j.events,e.ok/\validB e.key=true/\0<e.key.size/\e.key.size<=1000
 flow:FlowOk j
 fits:Fits j
 rows:RowsOk (j.events.take j.base) j.rows
theorem QcX{j j':JobM}(h:RowsOk (j.events.take j.base) j.rows)(h1:j'.events=j.events)(h2:j'.base=j.base)(h3:j'.rows=j.rows):RowsOk (j'.events.take j'.base) j'.rows:=by
 rw[h1,h2,h3];exact h
theorem Qdi{j:JobM}(hf:FlowOk j)(hu:j.under=true)(hc:j.complete=true)(h:RowsOk (j.events.take j.base) j.rows):RowsOk (j.commit.events.take j.commit.base) j.commit.rows:=by
 obtain⟨h1,_,h3⟩:=hf.comp hu hc;exact Qiv hf (by unfold JobM.fl;rw[hu,h1];rfl) h3 h
theorem Qlh{j:JobM}(hf:FlowOk j)(h:RowsOk (j.events.take j.base) j.rows)(t:Int):RowsOk ((j.step t).2.events.take (j.step t).2.base) (j.step t).2.rows:=by
 unfold JobM.step;split
 ·exact h
 ·split
  ·refine QcX h ?_ ?_ ?_
   all_goals
    unfold JobM.source;split
    ·split<;>rfl
    ·split
     ·rfl
     ·split
      ·rfl
      ·split<;>rfl
  ·split
   ·refine QcX h ?_ ?_ ?_
    all_goals
     unfold JobM.sorts;split
     ·rfl
     ·split
      ·rfl
      ·split
       ·split<;>rfl
       ·split
        ·rfl
        ·split
         ·split
          ·rfl
          ·split<;>rfl
         ·rfl
   ·split
    ·refine QcX h ?_ ?_ ?_
     all_goals
      unfold JobM.adds;split
      ·rfl
      ·split<;>rfl
    ·unfold JobM.keeps;split
     ·rename_i hc
      rw[Bool.and_eq_true]at hc;exact Qdi hf hc.1 hc.2 h
     ·split
      ·exact h
      ·exact h
theorem Qfz{j j':JobM}(h:RPl j)(hs:SameJ j j')(hf:FlowOk j')(hfi:Fits j')(hr:RowsOk (j'.events.take j'.base) j'.rows):RPl j':=
 ⟨by rw[hs.width];exact h.width,by rw[hs.room];exact h.room,by rw[hs.events];exact h.events,by rw[hs.events];exact h.ev,hf,hfi,hr⟩
theorem Qmu{j:JobM}(h:RPl j)(t:Int):RPl (j.step t).2:=Qfz h (QkE j t) (QkC h.flow t) (Qlg h.fits t) (Qlh h.flow h.rows t)
theorem QiA{j:JobM}(h:RPl j):RPl j.trigger.2.2:=by
 refine Qfz h (Qg6 j) (Qd7 h.flow) (Qhw h.fits) (QcX h.rows ?_ ?_ ?_)
 all_goals
  unfold JobM.trigger
  split<;>rfl
theorem QjY{j:JobM}(h:RPl j)(hu:j.under=true)(hc:j.complete=true):RPl j.commit:=
 Qfz h ⟨rfl,rfl,rfl⟩ (Qci h.flow hu hc) (QeF h.fits) (Qdi h.flow hu hc h.rows)
theorem Qmv{j:JobM}(h:RPl j):RPl j.fail:=by
 refine Qfz h (QkF j) (QkB h.flow) ?_ ?_
 ·unfold JobM.fail
  split<;>exact Qiz _
 ·unfold JobM.fail;split
  ·rename_i hc
   rw[Bool.and_eq_true]at hc;exact Qdi h.flow hc.1 hc.2 h.rows
  ·exact h.rows
theorem Qm7{W R:Nat}{es:List Ev}(hW:1<=W/\W<=4)(hR:1<=R/\R<=4)(he:es.length<=100)(hv:∀e∈es,e.ok/\validB e.key=true/\0<e.key.size/\e.key.size<=1000):RPl (newJ W R es):=by
 refine⟨hW,hR,he,hv,Qg3 W R es hW.1,⟨λs hs=>?_,λa ha p hp=>?_⟩,?_⟩
 ·simp only[newJ,List.mem_replicate]at hs;rw[hs.2];simp[newS]
 ·simp only[newJ,List.mem_replicate]at ha;rw[ha.2]at hp;simp only[newA,List.mem_replicate]at hp;rw[hp.2];simp
 ·simp only[newJ,List.take_zero];exact QjU
theorem RPl.got{j:JobM}(h:RPl j){k:Nat}{a:AdderM}(ha:j.adders[k]? =some a):(∀c∈a.got,DB c)/\a.got.length<=400:=by
 obtain⟨g1,g2⟩:=Qld h.flow ha;refine⟨λc hc=>?_,?_⟩
 ·obtain⟨i,s,hs,hm⟩:=g1 c hc;obtain⟨s1,s2,_⟩:=QcF h.flow hs;have:=h.events;exact Qix s.got [] (λe he=>(h.ev e (s1 e (by simpa using he))).1) (by simp;omega) c hm
 ·have h1:j.width*j.events.length<=4*100:=Nat.mul_le_mul h.width.2 h.events;omega
end
section
open Go.RowKit
section
variable {f:Owners} {w:World} {B k jb:Nat} {sb ab:List Nat} {j:JobM}
theorem RJob.tailA(h:RJob f w B k jb sb ab j)(m:Nat)(hm:m<ab.length)(hm':m<j.adders.length)(i:Nat)(hi:i<(j.adders[m]).pipes.length)(hwid:j.width<=9):
  ∃gp pc v,w.cell? ⟨ab[m],1,none⟩=some (.slice (some ⟨gp,0,none⟩) j.width pc)/\w.cell? ⟨gp,i,none⟩=some v/\w.frozen? ⟨gp,i,none⟩=false/\qRow w B 151 4 v ((j.adders[m]).pipes[i]).length (chgCells ((j.adders[m]).pipes[i]))/\
   (∀v' (rest:List ChgM),qRow w B 151 4 v' rest.length (chgCells rest)->(∀g,v'.ownBlock=some g->v.ownBlock=some g)->
    RAfter f w B k jb sb ab {j with adders:=j.adders.set m {j.adders[m]with pipes:=(j.adders[m]).pipes.set i rest}} (w.setCell ⟨gp,i,none⟩ v')):=by
 obtain⟨ho,vg,vp,vs,vt,hb,hg,og,hp,op,hq,ht,ot⟩:=h.adders m hm hm';obtain⟨pa,pc,rfl⟩:=Qaf hp;have hpl:=(h.pipes m hm').1
 have hmw:m<j.width:=by rw[<-h.lenA.1];exact hm
 rcases Qai hp with⟨_,h0⟩ | ⟨gp,rfl⟩
 ·omega
 obtain⟨v,hv,hqv,ov⟩:=hq i hi;have ogp:f gp=some (k+600+m):=op gp rfl;have hc1:w.cell? ⟨ab[m],1,none⟩=some (.slice (some ⟨gp,0,none⟩) (j.adders[m]).pipes.length pc):=Qad hb 1;rw[hpl]at hc1;refine⟨gp,pc,v,hc1,(hp.cellAt i omQ).trans hv,hp.frozenAt i,hqv,λv' rest hq' hv'=>?_⟩
 have ov':IsOf f (k+1000+10*m+i) v':=λg hg=>ov g (hv' g hg)
 have hf:FrmO f (λc=>c=k+600+m) w (w.setCell ⟨gp,i,none⟩ v'):=FrmO.of_set (S:=λc=>c=k+600+m) ogp rfl _;have hst:(w.setCell ⟨gp,i,none⟩ v').ownsRow B 79 1 (.slice (some ⟨gp,0,none⟩) (j.adders[m]).pipes.length pc) (j.adders[m]).pipes.length (vs.set i v'):=(hp.stored i v').1
 have hlen:((j.adders[m]).pipes.set i rest).length=(j.adders[m]).pipes.length:=by simp
 refine⟨f,h.putA m hm _ (S:=λc=>c=k+600+m) (λc hc=>.inr (.inr (.inl hc))) hf (Same.refl _ _) hwid ⟨ho,vg,_,vs.set i v',vt,Qaq hb hf ho omQ,Qaj hg hf og omQ,og,?_,op,λn hn=>?_,Qaj ht hf ot omQ,ot⟩ ⟨by rw[hlen];exact hpl,(h.pipes m hm').2⟩,hf.mono λ_ _=>trivial,Same.refl _ _⟩
 ·rw[hlen];exact hst
 ·have hn':n<(j.adders[m]).pipes.length:=by rw[hlen]at hn;exact hn
  have hvs:vs.length=(j.adders[m]).pipes.length:=by have:=hp.1;omega
  by_cases e:n=i
  ·subst e;refine⟨v',by rw[List.getElem?_set_self omQ],?_,ov'⟩;simp only[List.getElem_set_self];exact Qbo hq' hf ov' omQ
  ·obtain⟨v2,hv2,hqv2,ov2⟩:=hq n hn';refine⟨v2,by rw[List.getElem?_set_ne (λx=>e x.symm)];exact hv2,?_,ov2⟩;simp only[List.getElem_set_ne (λx=>e x.symm)];exact Qbo hqv2 hf ov2 omQ
theorem RJob.stopA(h:RJob f w B k jb sb ab j)(m:Nat)(hm:m<ab.length)(hm':m<j.adders.length)(i:Nat)(hi:i<(j.adders[m]).stopped.length)(hwid:j.width<=9):
  ∃gt tc,w.cell? ⟨ab[m],2,none⟩=some (.slice (some ⟨gt,0,none⟩) j.width tc)/\w.cell? ⟨gt,i,none⟩=some (.bool (j.adders[m]).stopped[i])/\w.frozen? ⟨gt,i,none⟩=false/\
   ∀b:Bool,RAfter f w B k jb sb ab {j with adders:=j.adders.set m {j.adders[m]with stopped:=(j.adders[m]).stopped.set i b}} (w.setCell ⟨gt,i,none⟩ (.bool b)):=by
 obtain⟨ho,vg,vp,vs,vt,hb,hg,og,hp,op,hq,ht,ot⟩:=h.adders m hm hm';obtain⟨ta,tc,rfl⟩:=Qaf ht;have hpl:=(h.pipes m hm').2;have hpp:=(h.pipes m hm').1
 have hmw:m<j.width:=by rw[<-h.lenA.1];exact hm
 rcases Qai ht with⟨_,h0⟩ | ⟨gt,rfl⟩
 ·omega
 have ogt:f gt=some (k+700+m):=ot gt rfl;have hc1:w.cell? ⟨ab[m],2,none⟩=some (.slice (some ⟨gt,0,none⟩) (j.adders[m]).stopped.length tc):=Qad hb 2;rw[hpl]at hc1;refine⟨gt,tc,hc1,?_,ht.frozenAt i,λb=>?_⟩
 ·refine(ht.cellAt i omQ).trans ?_;rw[List.getElem?_map,List.getElem?_eq_getElem hi]
  rfl
 have hf:FrmO f (λc=>c=k+700+m) w (w.setCell ⟨gt,i,none⟩ (.bool b)):=FrmO.of_set (S:=λc=>c=k+700+m) ogt rfl _;have hst:(w.setCell ⟨gt,i,none⟩ (.bool b)).ownsRow B 4 1 (.slice (some ⟨gt,0,none⟩) (j.adders[m]).stopped.length tc) (j.adders[m]).stopped.length (((j.adders[m]).stopped.map Value.bool).set i (.bool b)):=(ht.stored i (.bool b)).1
 have hlen:((j.adders[m]).stopped.set i b).length=(j.adders[m]).stopped.length:=by simp
 refine⟨f,h.putA m hm _ (S:=λc=>c=k+700+m) (λc hc=>.inr (.inr (.inr (.inl hc)))) hf (Same.refl _ _) hwid ⟨ho,vg,vp,vs,_,Qaq hb hf ho omQ,Qaj hg hf og omQ,og,Qaj hp hf op omQ,op,λn hn=>?_,?_,ot⟩ ⟨hpp,by rw[hlen];exact hpl⟩,hf.mono λ_ _=>trivial,Same.refl _ _⟩
 ·obtain⟨v2,hv2,hqv2,ov2⟩:=hq n hn;exact⟨v2,hv2,Qbo hqv2 hf ov2 omQ,ov2⟩
 ·rw[hlen];simp only[List.map_set];exact hst
end
end
section
open Go.RowKit
section
variable {f:Owners} {w:World} {B k jb:Nat} {sb ab:List Nat} {j:JobM}
theorem RJob.gotA(h:RJob f w B k jb sb ab j)(m:Nat)(hm:m<ab.length)(hm':m<j.adders.length)(hwid:j.width<=9):
  ∃vg,w.cell? ⟨ab[m],0,none⟩=some vg/\w.frozen? ⟨ab[m],0,none⟩=false/\w.ownsRow B 151 4 vg (j.adders[m]).got.length (chgCells (j.adders[m]).got)/\
   (∀wa v' w5 (c:ChgM),Below w.heap.size w wa->w5.ownsRow B 151 4 v' ((j.adders[m]).got.length+1) (chgCells (j.adders[m]).got++chgCells1 c)->AppQ wa w5 vg v'->
    w5.cell? ⟨ab[m],0,none⟩=some vg/\w5.frozen? ⟨ab[m],0,none⟩=false/\
    RAfter f w B k jb sb ab {j with adders:=j.adders.set m {j.adders[m]with got:=(j.adders[m]).got++[c]}} (w5.setCell ⟨ab[m],0,none⟩ v')):=by
 obtain⟨ho,vg,vp,vs,vt,hb,hg,og,hp,op,hq,ht,ot⟩:=h.adders m hm hm'
 have hmw:m<j.width:=by rw[<-h.lenA.1];exact hm
 have hpp:=(h.pipes m hm').1;refine⟨vg,Qad hb 0,Qab hb 0,hg,λwa v' w5 c hba hq5 happ=>?_⟩;have hf5:FrmO f (λc=>c=k+500+m) w w5:=(FrmO.of_below hba).trans (Same.refl _ _) (happ.frm og);have hb5:=Qaq hb hf5 ho omQ;obtain⟨f',hs',hv'⟩:=happ.owner hba og
 have hne:v'.ownBlock≠some ab[m]:=λe=>by
  obtain⟨a3,c3,rfl⟩:=Qaf hq5
  rcases Qai hq5 with⟨_,h0⟩ | ⟨g3,rfl⟩
  ·omega
  obtain⟨cur,hc⟩:=QbV hq5;have e':g3=ab[m]:=Option.some.inj e;rw[e',hb5]at hc;simp only[Option.some.injEq,Obj.cells.injEq]at hc;have:=hc.2.1;exact absurd this (by decide)
 have hf6:FrmO f (λc=>c=k+400+m\/c=k+500+m) w (w5.setCell ⟨ab[m],0,none⟩ v'):=
  (hf5.mono λ_ hc=>.inr hc).trans (Same.refl _ _) (FrmO.of_set (S:=λc=>c=k+400+m\/c=k+500+m) ho (.inl rfl) _)
 refine⟨Qad hb5 0,Qab hb5 0,f',h.putA m hm _ (S:=λc=>c=k+400+m\/c=k+500+m) (λc hc=>hc.elim .inl λe=>.inr (.inl e)) hf6 hs' hwid ⟨(hs' _ (Qac hb)).trans ho,v',vp,vs,vt,?_,?_,hv',Qaj hp hf6 op omQ,op.same hs' λg e=>(Qah hp g e).2,λn hn=>?_,Qaj ht hf6 ot omQ,ot.same hs' λg e=>(Qah ht g e).2⟩ (h.pipes m hm'),hf6.mono λ_ _=>trivial,hs'⟩
 ·have:=Qas (j:=0) hb5 v';exact this
 ·have hq6:=hq5.kept (Qak w5 ab[m] 0 v') (.inr hne);simp only[List.length_append,List.length_cons,List.length_nil,QcW,Qef];exact hq6
 ·obtain⟨v2,hv2,hqv2,ov2⟩:=hq n hn;exact⟨v2,hv2,Qbo hqv2 hf6 ov2 omQ,ov2.same hs' (q_lt hqv2)⟩
theorem RJob.openA(h:RJob f w B k jb sb ab j)(m:Nat)(hm:m<ab.length)(hm':m<j.adders.length)(hwid:j.width<=9)(w1:World)(v':Value)(hba:Below w.heap.size w w1)(hr:w1.ownsRow B 4 1 v' j.width (List.replicate j.width (.bool false)))(hv':∀g,v'.ownBlock=some g->w.heap.size<=g):
  RAfter f w B k jb sb ab {j with adders:=j.adders.set m {j.adders[m]with stopped:=List.replicate j.width false,marked:=(j.adders[m]).got.length,passed:=true}} (((w1.setCell ⟨ab[m],2,none⟩ v').setCell ⟨ab[m],3,none⟩ (.int .i64 ((j.adders[m]).got.length:Int))).setCell ⟨ab[m],5,none⟩ (.bool true)):=by
 obtain⟨ho,vg,vp,vs,vt,hb,hg,og,hp,op,hq,ht,ot⟩:=h.adders m hm hm'
 have hmw:m<j.width:=by rw[<-h.lenA.1];exact hm
 have hpp:=(h.pipes m hm').1;have hbl:=Qac hb
 obtain⟨f',hs',ov'⟩:∃f':Owners,Same w.heap.size f f'/\IsOf f' (k+700+m) v':=by
  cases hob:v'.ownBlock with
  | none=>exact⟨f,Same.refl _ _,λg hg=>by rw[hob]at hg;cases hg⟩
  | some g=>
   refine⟨f.put g (k+700+m),λx hx=>Owners.put_same f g (k+700+m) x (Nat.lt_of_lt_of_le hx (hv' g hob)),λx hx=>?_⟩;rw[hob]at hx;simp only[Option.some.injEq]at hx;rw[<-hx];exact Owners.put_self _ _ _
 have hs1:∀(o:Nat) (u:Value) (w:World),FrmO f (λc=>c=k+400+m) w (w.setCell ⟨ab[m],o,none⟩ u):=λo u w=>FrmO.of_set (S:=λc=>c=k+400+m) ho rfl _
 have hf0:FrmO f (λc=>c=k+400+m) w w1:=.of_below hba;have hf:=((hf0.trans (Same.refl _ _) (hs1 2 v' _)).trans (Same.refl _ _) (hs1 3 (.int .i64 ((j.adders[m]).got.length:Int)) _)).trans (Same.refl _ _) (hs1 5 (.bool true) _)
 have hne:v'.ownBlock≠some ab[m]:=λe=>by have:=hv' _ e;omega
 refine⟨f',h.putA m hm _ (S:=λc=>c=k+400+m) (λc hc=>.inl hc) hf hs' hwid ⟨(hs' _ hbl).trans ho,vg,vp,vs,v',?_,Qaj hg hf og omQ,og.same hs' λg e=>(Qah hg g e).2,Qaj hp hf op omQ,op.same hs' λg e=>(Qah hp g e).2,λn hn=>?_,?_,ov'⟩ ⟨hpp,by simp⟩,hf.mono λ_ _=>trivial,hs'⟩
 ·have hb1:=Qaq (S:=λ_=>False) hb (.of_below hba) ho id;have:=Qas (j:=5) (Qas (j:=3) (Qas (j:=2) hb1 v') (.int .i64 ((j.adders[m]).got.length:Int))) (.bool true);exact this
 ·obtain⟨v2,hv2,hqv2,ov2⟩:=hq n hn;exact⟨v2,hv2,Qbo hqv2 hf ov2 omQ,ov2.same hs' (q_lt hqv2)⟩
 ·have hk:=((hr.kept (Qak w1 ab[m] 2 v') (.inr hne)).kept (Qak _ ab[m] 3 (.int .i64 ((j.adders[m]).got.length:Int))) (.inr hne)).kept (Qak _ ab[m] 5 (.bool true)) (.inr hne);simp only[List.length_replicate,List.map_replicate];exact hk
end
end
section
open Go.RowKit
section
variable {f:Owners} {w:World} {B k jb:Nat} {sb ab:List Nat} {j:JobM}
theorem QjZ(h:RJob f w B k jb sb ab j)(hw:1<=j.width/\j.width<=4)(i:Nat)(hi:i<j.width)(ha:i<j.adders.length)
  (hno:∀m (h1:m<(j.adders[i]).pipes.length) (h2:m<(j.adders[i]).stopped.length),(j.adders[i]).stopped[m]=true\/((j.adders[i]).pipes[m]).length=0):
  Calls Tryz.prog 47 #[.pointer (some ⟨jb,0,none⟩),.int .i64 (i:Int)] w λen w'=>en=.returned (.int .i64 8)/\RAfter f w B k jb sb ab j w':=by
 have hib:i<ab.length:=by have:=h.lenA;omega
 obtain⟨c0,_,⟨ga,ca,c5,hA⟩⟩:=Qav h;obtain⟨g2,rfl,d1⟩:=hA i hib;have hpl:=h.pipes i ha
 have HS:=show Hid (RAfter f w B k jb sb ab j w)from⟨f,h,FrmO.refl _ _ _,Same.refl _ _⟩
 have hpipe:∀m,m<j.width->∃gp pc gt tc qa ln qc,∃st:Bool,w.cell? ⟨ab[i],1,none⟩=some (.slice (some ⟨gp,0,none⟩) j.width pc)/\w.cell? ⟨ab[i],2,none⟩=some (.slice (some ⟨gt,0,none⟩) j.width tc)/\w.cell? ⟨gp,m,none⟩=some (.slice qa ln qc)/\w.cell? ⟨gt,m,none⟩=some (.bool st)/\(st=true\/(st=false/\ln=0)):=λm hm=>by
  have h1:m<(j.adders[i]).pipes.length:=omQ;have h2:m<(j.adders[i]).stopped.length:=omQ;obtain⟨gp,pc,v,a1,a2,_,hqv,_⟩:=h.tailA i hib ha m h1 omQ;obtain⟨gt,tc,b1,b2,_⟩:=h.stopA i hib ha m h2 omQ;obtain⟨qa,qc,rfl⟩:=hqv.shape;refine⟨gp,pc,gt,tc,qa,_,qc,_,a1,b1,a2,b2,?_⟩
  rcases hno m h1 h2 with e | e
  ·exact .inl e
  ·cases hst:(j.adders[i]).stopped[m]with
   | true=>exact .inl rfl
   | false=>exact .inr ⟨rfl,e⟩
 have Hp:=hdQ hpipe;clear hpipe hno h hA hpl;generalize ab[i]=b2 at d1 Hp;have h1:(i:Int)<(j.width:Int):=omQ;have h2:(0:Int)<=(i:Int):=omQ;generalize hWW:j.width=W at *;clear hWW;go_enter Tryz.func47,Tryz.ntmps47;go_wp2
 go_loopw [6] (λiv wr=>∃n:Nat,n<=W/\iv=.int .i64 (n:Int)/\wr=w) (λiv _=>W-(intOf iv).toNat)
 case atStart=>exact⟨0,Nat.zero_le _,rfl,rfl⟩
 case round=>
  obtain⟨n,hn,rfl,rfl⟩:=hrel
  by_cases hnl:n<W
  ·have hni:(n:Int)<(W:Int):=omQ;have hn0:(0:Int)<=(n:Int):=omQ;obtain⟨gp,pc,gt,tc,qa,ln,qc,st,e1,e2,e3,e4,hst⟩:=Hp.out n hnl
   rcases hst with rfl | ⟨rfl,rfl⟩
   ·go_wp2
    go_roundw
    case rel=>exact⟨n+1,by omega,by go_num,trivial⟩
    case measure=>simp[intOf];omega
   ·go_wp2
    go_roundw
    case rel=>exact⟨n+1,by omega,by go_num,trivial⟩
    case measure=>simp[intOf];omega
  ·have hni:¬(n:Int)<(W:Int):=omQ;go_wp2;go_ret;exact⟨rfl,HS.out⟩
end
end
section
open Go.RowKit
theorem AdderM.openCases(a:AdderM)(W:Nat)(hp:a.pipes.length=W)(hs:a.stopped.length=W):
  (a.take W=none/\∀m (h1:m<a.pipes.length) (h2:m<a.stopped.length),a.stopped[m]=true\/(a.pipes[m]).length=0)\/
  ∃c rest,∃h1:a.firstOpen<a.pipes.length,∃h2:a.firstOpen<a.stopped.length,a.stopped[a.firstOpen]=false/\a.pipes[a.firstOpen]=c :: rest/\
   ∀m (_:m<a.firstOpen) (h3:m<a.pipes.length) (h4:m<a.stopped.length),a.stopped[m]=true\/(a.pipes[m]).length=0:=by
 have hz:(a.stopped.zip a.pipes).length=W:=by simp[hp,hs]
 have closed:∀m (h1:m<a.pipes.length) (h2:m<a.stopped.length),m<a.firstOpen->a.stopped[m]=true\/(a.pipes[m]).length=0:=λm h1 h2 hm=>by
  have hmz:m<(a.stopped.zip a.pipes).length:=omQ;have:=List.not_of_lt_findIdx (p:=λx:Bool × List ChgM=>!x.1 && !x.2.isEmpty) (xs:=a.stopped.zip a.pipes) (i:=m) hm;simp only[List.getElem_zip]at this
  cases hst:a.stopped[m]with
  | true=>exact .inl rfl
  | false=>
   have h5:(a.pipes[m]).isEmpty=true:=by rw[hst]at this;simpa using this
   exact .inr (by rw[List.isEmpty_iff]at h5;rw[h5];rfl)
 by_cases hlt:a.firstOpen<W
 ·have h1:a.firstOpen<a.pipes.length:=omQ;have h2:a.firstOpen<a.stopped.length:=omQ;have hf:=List.findIdx_getElem (p:=λx:Bool × List ChgM=>!x.1 && !x.2.isEmpty) (xs:=a.stopped.zip a.pipes) (w:=by show a.firstOpen<_;omega);simp only[List.getElem_zip,Bool.and_eq_true,Bool.not_eq_true']at hf;have hf1:a.stopped[a.firstOpen]=false:=hf.1;have hf2:(a.pipes[a.firstOpen]).isEmpty=false:=hf.2;refine .inr ?_
  cases hpp:a.pipes[a.firstOpen]with
  | nil=>rw[hpp]at hf2;cases hf2
  | cons c rest=>exact⟨c,rest,h1,h2,hf1,hpp,λm hm h3 h4=>closed m h3 h4 hm⟩
 ·refine .inl ⟨?_,λm h1 h2=>closed m h1 h2 omQ⟩;unfold AdderM.take;rw[List.getElem?_eq_none omQ]
structure AddC (w:World) (jb W i g2 ca b2 gp pc gt tc:Nat):Prop where
 c0:w.cell? ⟨jb,0,none⟩=some (.int .i64 (W:Int))
 c5:w.cell? ⟨jb,5,none⟩=some (.slice (some ⟨g2,0,none⟩) W ca)
 d1:w.cell? ⟨g2,i,none⟩=some (.pointer (some ⟨b2,0,none⟩))
 e1:w.cell? ⟨b2,1,none⟩=some (.slice (some ⟨gp,0,none⟩) W pc)
 e2:w.cell? ⟨b2,2,none⟩=some (.slice (some ⟨gt,0,none⟩) W tc)
 hi:i<W
 hW:W<=4
 hbg:b2≠gp
def AddG(B b2 bx:Nat)(w:World)(vg:Value)(ng:Nat)(xs cs:List Value)(Q:World->Prop):Prop:=
 w.cell? ⟨b2,0,none⟩=some vg/\w.ownsRow B 151 4 vg ng xs/\ng<=1000/\B<=w.heap.size/\(∀g,vg.ownBlock=some g->g=bx->False)/\
  ∀wa w5 v',Below w.heap.size w wa->w5.ownsRow B 151 4 v' (ng+1) (xs++cs)->AppQ wa w5 vg v'->w5.cell? ⟨b2,0,none⟩=some vg/\w5.frozen? ⟨b2,0,none⟩=false/\Q (w5.setCell ⟨b2,0,none⟩ v')
def IsTail(gq off ln qc:Nat)(v:Value):Prop:=v=.slice (some ⟨gq,off+4,none⟩) ln (qc-1)\/(qc=1/\v=.slice (some ⟨gq,off,none⟩) ln 0)
theorem Qm8{w:World}{jb W i g2 ca b2 gp pc gt tc:Nat}(h:AddC w jb W i g2 ca b2 gp pc gt tc)(n0:Nat)(hn0:n0<W)
  (hskip:∀m,m<n0->∃qa ln qc,∃st:Bool,w.cell? ⟨gp,m,none⟩=some (.slice qa ln qc)/\w.cell? ⟨gt,m,none⟩=some (.bool st)/\(st=true\/(st=false/\ln=0)))
  (gq off ln qc:Nat) (f1:w.cell? ⟨gp,n0,none⟩=some (.slice (some ⟨gq,off,none⟩) (ln+1) qc)) (f2:w.cell? ⟨gt,n0,none⟩=some (.bool false))
  (pt:Int) (tx:ByteArray) (cl cd:Int) (u0:w.cell? ⟨gq,off,none⟩=some (.int .i64 pt)) (u1:w.cell? ⟨gq,off+1,none⟩=some (.string tx)) (u2:w.cell? ⟨gq,off+2,none⟩=some (.int .i64 cl)) (u3:w.cell? ⟨gq,off+3,none⟩=some (.int .i64 cd)) (hpt:0<=pt) (hcap:ln+1<=qc) (hz:∀w',Below w.heap.size w w'->w'.frozen? ⟨gp,n0,none⟩=false)
  (B:Nat) (Q:World->Prop) (HG:∀wd v1,Below w.heap.size w wd->IsTail gq off ln qc v1->∃vg ng xs,AddG B b2 w.heap.size (wd.setCell ⟨gp,n0,none⟩ v1) vg ng xs [.int .i64 pt,.string tx,.int .i64 cl,.int .i64 cd] Q):
  Calls Tryz.prog 47 #[.pointer (some ⟨jb,0,none⟩),.int .i64 (i:Int)] w λen w'=>en=.returned (.int .i64 0)/\Q w':=by
 obtain⟨c0,c5,d1,e1,e2,hi,hW,hbg⟩:=h;obtain⟨i0,hi0,hz0,hz1,hz2⟩:=info_parts Tryz.infoChange;have h1:(i:Int)<(W:Int):=omQ;have h2:(0:Int)<=(i:Int):=omQ;have Hk:=hdQ hskip;clear hskip;have hge:(0:Int)<=pt:=hpt;go_enter Tryz.func47,Tryz.ntmps47;go_wp2
 go_loopw [6] (λiv wr=>∃n:Nat,n<=n0/\iv=.int .i64 (n:Int)/\wr=w) (λiv _=>W-(intOf iv).toNat)
 case atStart=>exact⟨0,Nat.zero_le _,rfl,rfl⟩
 case round=>
  obtain⟨n,hn,rfl,rfl⟩:=hrel;have hni:(n:Int)<(W:Int):=omQ;have hn1:(0:Int)<=(n:Int):=omQ
  by_cases hnl:n<n0
  ·have HL:=show Hid (n+1<=n0)from hnl
   obtain⟨qa,ln',qc',st,e3,e4,hst⟩:=Hk.out n hnl
   rcases hst with rfl | ⟨rfl,rfl⟩
   ·go_wp2
    go_roundw
    case rel=>exact⟨n+1,HL.out,by go_num,trivial⟩
    case measure=>have:=HL.out;simp[intOf];omega
   ·go_wp2
    go_roundw
    case rel=>exact⟨n+1,HL.out,by go_num,trivial⟩
    case measure=>have:=HL.out;simp[intOf];omega
  ·have hnn:n=n0:=omQ;subst hnn;clear Hk
   have hl0:(((ln:Int)+1)==0)=false:=by rw[beq_eq_false_iff_ne];omega
   have hl1:(0:Int)<(ln:Int)+1:=omQ;go_wp2
   have HB:=show Hid (Below wr.heap.size wr (wr.alloc (.cells #[.int .i64 pt,.string tx,.int .i64 cl,.int .i64 cd] 151)).drew)from((Below.refl _ _).alloc (Nat.le_refl _) _).drew
   have q1:=(HB.out.cell (p:=⟨b2,1,none⟩) (Qan e1)).trans e1;have q2:=(HB.out.cell (p:=⟨gp,n,none⟩) (Qan f1)).trans f1;have lgp:=Qan f1;have lb2:=Qan e1;have zf:(wr.alloc (.cells #[.int .i64 pt,.string tx,.int .i64 cl,.int .i64 cd] 151)).drew.frozen? ⟨gp,n,none⟩=false:=hz _ HB.out;have hbx:(wr.alloc (.cells #[.int .i64 pt,.string tx,.int .i64 cl,.int .i64 cd] 151)).drew.heap[wr.heap.size]? =some (.cells #[.int .i64 pt,.string tx,.int .i64 cl,.int .i64 cd] 151 (0,0)):=heap_alloc_new wr _;refine wp_region_held_drew (S:=λw':World=>w'.cell? ⟨b2,1,none⟩=some (.slice (some ⟨gp,0,none⟩) W pc)) krQ q1 (λhH=>?_);generalize(wr.alloc (.cells #[.int .i64 pt,.string tx,.int .i64 cl,.int .i64 cd] 151)).drew=wd at HB q1 q2 zf hbx hH ⊢;clear c0 c5 d1 e1 e2 f1 f2 u0 u1 u2 u3 hz
   by_cases hqc:qc=1
   ·subst hqc;have HV:IsTail gq off ln 1 (.slice (some ⟨gq,off,none⟩) ln 0):=.inr ⟨rfl,rfl⟩;refine tkQ 0 (.pointer (some ⟨b2,0,none⟩)) hH ?_;refine tkQ 1 (.pointer (some ⟨b2,0,none⟩)) hH ?_;refine tkQ 2 (.pointer (some ⟨b2,1,none⟩)) hH ?_;refine tlQ 3 (.slice (some ⟨gp,0,none⟩) W pc) rfl (by intro v hSw;have s0:=hSw;clear hSw;go_simp) hH ?_;refine tkQ 4 (.int .i64 (n:Int)) hH ?_;refine tkQ 5 (.pointer (some ⟨b2,0,none⟩)) hH ?_;refine tkQ 6 (.pointer (some ⟨b2,0,none⟩)) hH ?_;refine tkQ 7 (.pointer (some ⟨b2,1,none⟩)) hH ?_;refine tlQ 8 (.slice (some ⟨gp,0,none⟩) W pc) rfl (by intro v hSw;have s0:=hSw;clear hSw;go_simp) hH ?_;refine tkQ 9 (.int .i64 (n:Int)) hH ?_;refine tkQ 10 (.pointer (some ⟨gp,n,none⟩)) hH ?_;refine rdQ [11] ?_
    refine arQ λK hK=>?_
    clear hH;go_simp;refine hK.out _ _ q1 (λhH=>?_);clear hK K;refine tlQ 12 (.slice (some ⟨gq,off,none⟩) ln 0) rfl (by intro v hSw;clear hSw;go_simp;first | (intro hx;exact absurd hx omQ) | (rw[if_pos omQ];have hl9:ln=0:=omQ;subst hl9;rfl)) hH ?_;refine tkQ 13 (.pointer (some ⟨gp,n,none⟩)) hH ?_;refine rdQ [14] ?_
    refine arQ λK hK=>?_
    clear hH;go_simp;have q3:(wd.setCell ⟨gp,n,none⟩ (.slice (some ⟨gq,off,none⟩) ln 0)).cell? ⟨b2,1,none⟩=some (.slice (some ⟨gp,0,none⟩) W pc):=(World.cell?_of_block (a:=⟨b2,1,none⟩) (Below.heap_setCell wd ⟨gp,n,none⟩ (.slice (some ⟨gq,off,none⟩) ln 0) b2 hbg)).trans q1;refine hK.out _ _ q3 (λhH=>?_);clear hK K hH q3;refine wpAnyH_done krQ ?_ _
    have HX:=show Hid _ from HG wd.drew (.slice (some ⟨gq,off,none⟩) ln 0) HB.out.drew HV
    have hb2:(wd.setCell ⟨gp,n,none⟩ (.slice (some ⟨gq,off,none⟩) ln 0)).heap[wr.heap.size]? =some (.cells #[.int .i64 pt,.string tx,.int .i64 cl,.int .i64 cd] 151 (0,0)):=(Below.heap_setCell wd ⟨gp,n,none⟩ (.slice (some ⟨gq,off,none⟩) ln 0) wr.heap.size (λe=>by have e':wr.heap.size=gp:=e;omega)).trans hbx
    have HB2:=show Hid (Below wr.heap.size wr.drew (wd.setCell ⟨gp,n,none⟩ (.slice (some ⟨gq,off,none⟩) ln 0)).drew->True)from λ_=>trivial
    have hwl:wr.heap.size<(wd.setCell ⟨gp,n,none⟩ (.slice (some ⟨gq,off,none⟩) ln 0)).drew.heap.size:=Qac hb2;have HX2:Hid (∃vg ng xs,AddG B b2 wr.heap.size (wd.setCell ⟨gp,n,none⟩ (.slice (some ⟨gq,off,none⟩) ln 0)).drew vg ng xs [.int .i64 pt,.string tx,.int .i64 cl,.int .i64 cd] Q):=HX.out;clear HX HB2 HB q1 q2 zf hbx;generalize wd.setCell ⟨gp,n,none⟩ (.slice (some ⟨gq,off,none⟩) ln 0)=w2 at hb2 HX2 hwl ⊢;have p0:w2.cell? ⟨wr.heap.size,0,none⟩=some (.int .i64 pt):=Qaa hb2 0;go_wp2;have hb3:w2.drew.heap[wr.heap.size]? =some (.cells #[.int .i64 pt,.string tx,.int .i64 cl,.int .i64 cd] 151 (0,0)):=hb2;refine wp_region_held_drew (S:=λw':World=>w'.heap[wr.heap.size]? =some (.cells #[.int .i64 pt,.string tx,.int .i64 cl,.int .i64 cd] 151 (0,0))) krQ hb3 (λhH=>?_);clear p0 hb2;obtain⟨vg,ng,xs,hG⟩:=HX2.out;obtain⟨r0,hrow,hng,hB,hvg,hgo⟩:=hG;have HG2:=hdQ hgo
    have HRow:=show Hid (w2.drew.ownsRow B 151 4 vg ng xs)from hrow
    clear hgo hrow HX2;generalize w2.drew=w3 at hb3 hH r0 HRow hB hwl HG2 ⊢;obtain⟨va,vc,rfl⟩:=Qaf HRow.out;refine tkQ 0 (.pointer (some ⟨b2,0,none⟩)) hH ?_;refine tkQ 1 (.pointer (some ⟨b2,0,none⟩)) hH ?_;refine tkQ 2 (.pointer (some ⟨b2,0,none⟩)) hH ?_;refine tkQ 3 (.pointer (some ⟨b2,0,none⟩)) hH ?_;refine tlQ 5 (.agg #[.int .i64 pt,.string tx,.int .i64 cl,.int .i64 cd]) rfl (by intro v hSw;have s0:v.cell? ⟨wr.heap.size,0,none⟩=some (.int .i64 pt):=Qaa hSw 0;have s1:v.cell? ⟨wr.heap.size,1,none⟩=some (.string tx):=Qaa hSw 1;have s2:v.cell? ⟨wr.heap.size,2,none⟩=some (.int .i64 cl):=Qaa hSw 2;have s3:v.cell? ⟨wr.heap.size,3,none⟩=some (.int .i64 cd):=Qaa hSw 3;clear hSw;go_simp) hH ?_;have hba:=(Below.refl w3.heap.size w3).alloc (Nat.le_refl _) (.cells #[.int .i64 pt,.string tx,.int .i64 cl,.int .i64 cd] 151);have hb4:(w3.alloc (.cells #[.int .i64 pt,.string tx,.int .i64 cl,.int .i64 cd] 151)).heap[wr.heap.size]? =some (.cells #[.int .i64 pt,.string tx,.int .i64 cl,.int .i64 cd] 151 (0,0)):=(Below.heap_alloc _ _ _ hwl).trans hb3;have r0a:(w3.alloc (.cells #[.int .i64 pt,.string tx,.int .i64 cl,.int .i64 cd] 151)).cell? ⟨b2,0,none⟩=some (.slice va ng vc):=(hba.cell (p:=⟨b2,0,none⟩) (Qan r0)).trans r0;have HBa:=hdQ hba;clear hba;refine rdQ [4,6] ?_;refine AllReadyH.cons rfl (λK hK=>?_) (arQ λK hK=>?_)
    focus
     clear hH;go_simp;refine hK.out _ _ hb3 (λhH=>?_);clear hK K;refine rdQ [6] ?_
     refine arQ λK hK=>?_
     clear hH;go_simp;refine hK.out _ _ hb4 (λhH=>?_);clear hK K
    rotate_left
    focus
     clear hH;go_simp;refine hK.out _ _ hb4 (λhH=>?_);clear hK K;refine rdQ [4] ?_
     refine arQ λK hK=>?_
     clear hH;go_simp;refine hK.out _ _ hb4 (λhH=>?_);clear hK K
    all_goals
     refine rdQ [7] ?_
     refine arQ λK hK=>?_
     refine QaM rfl ?_;refine Qau _ (.tmp 73) (.tmp 75) 79 rfl B 151 i0 (.agg #[.int .i64 0,.string ⟨#[]⟩,.int .i64 0,.int .i64 0]) 4 40 Tryz.underlying79 hi0 hz0 hz1 hz2 rfl (by decide) (.slice va ng vc) ng xs rfl (HRow.out.alloc _) ⟨w3.heap.size,0,none⟩ 1 1 [.int .i64 pt,.string tx,.int .i64 cl,.int .i64 cd] rfl rfl (by have:=QaC w3 (.int .i64 pt) (.string tx) (.int .i64 cl) (.int .i64 cd) 151;simpa using this) (Qcl ⟨pt,tx,cl,cd⟩) (by unfold maxLen;omega) (by omega) (by simp;omega) (by decide) ?_;intro v' w5 hown5 happ;obtain⟨r5,z5,hQ⟩:=HG2.out _ w5 v' HBa.out hown5 happ;have hb5:w5.heap[wr.heap.size]? =some (.cells #[.int .i64 pt,.string tx,.int .i64 cl,.int .i64 cd] 151 (0,0)):=((Qat happ).block _ (Qac hb4) (λe=>hvg _ e.symm rfl)).trans hb4;refine hK.out _ _ hb5 (λhH=>?_);have HQ:=hdQ hQ;obtain⟨a5,c5,rfl⟩:=Qaf hown5;clear hK K hown5 happ HRow HG2 HBa hQ r0a hb4 hb3;refine tkQ 8 (.pointer (some ⟨b2,0,none⟩)) hH ?_;refine tkQ 9 (.pointer (some ⟨b2,0,none⟩)) hH ?_;refine rdQ [10] ?_
     refine arQ λK hK=>?_
     clear hH;go_simp;have hb6:(w5.setCell ⟨b2,0,none⟩ (.slice a5 (ng+1) c5)).heap[wr.heap.size]? =some (.cells #[.int .i64 pt,.string tx,.int .i64 cl,.int .i64 cd] 151 (0,0)):=(Below.heap_setCell w5 ⟨b2,0,none⟩ (.slice a5 (ng+1) c5) wr.heap.size (λe=>by have e':wr.heap.size=b2:=e;omega)).trans hb5;refine hK.out _ _ hb6 (λhH=>?_);clear hK K hH;refine wpAnyH_done krQ ?_ _;clear r5 z5 hb5 hb6;generalize w5.setCell ⟨b2,0,none⟩ (.slice a5 (ng+1) c5)=w6 at HQ ⊢;go_wp2;go_ret;exact⟨rfl,HQ.out⟩
   ·have hq1:(1:Int)<(qc:Int):=omQ;have HV:IsTail gq off ln qc (.slice (some ⟨gq,off+4,none⟩) ln (qc-1)):=.inl rfl;refine tkQ 0 (.pointer (some ⟨b2,0,none⟩)) hH ?_;refine tkQ 1 (.pointer (some ⟨b2,0,none⟩)) hH ?_;refine tkQ 2 (.pointer (some ⟨b2,1,none⟩)) hH ?_;refine tlQ 3 (.slice (some ⟨gp,0,none⟩) W pc) rfl (by intro v hSw;have s0:=hSw;clear hSw;go_simp) hH ?_;refine tkQ 4 (.int .i64 (n:Int)) hH ?_;refine tkQ 5 (.pointer (some ⟨b2,0,none⟩)) hH ?_;refine tkQ 6 (.pointer (some ⟨b2,0,none⟩)) hH ?_;refine tkQ 7 (.pointer (some ⟨b2,1,none⟩)) hH ?_;refine tlQ 8 (.slice (some ⟨gp,0,none⟩) W pc) rfl (by intro v hSw;have s0:=hSw;clear hSw;go_simp) hH ?_;refine tkQ 9 (.int .i64 (n:Int)) hH ?_;refine tkQ 10 (.pointer (some ⟨gp,n,none⟩)) hH ?_;refine rdQ [11] ?_
    refine arQ λK hK=>?_
    clear hH;go_simp;refine hK.out _ _ q1 (λhH=>?_);clear hK K;refine tlQ 12 (.slice (some ⟨gq,off+4,none⟩) ln (qc-1)) rfl (by intro v hSw;clear hSw;go_simp;first | (intro hx;exact absurd hx omQ) | (rw[if_pos omQ];have hl9:ln=0:=omQ;subst hl9;rfl)) hH ?_;refine tkQ 13 (.pointer (some ⟨gp,n,none⟩)) hH ?_;refine rdQ [14] ?_
    refine arQ λK hK=>?_
    clear hH;go_simp;have q3:(wd.setCell ⟨gp,n,none⟩ (.slice (some ⟨gq,off+4,none⟩) ln (qc-1))).cell? ⟨b2,1,none⟩=some (.slice (some ⟨gp,0,none⟩) W pc):=(World.cell?_of_block (a:=⟨b2,1,none⟩) (Below.heap_setCell wd ⟨gp,n,none⟩ (.slice (some ⟨gq,off+4,none⟩) ln (qc-1)) b2 hbg)).trans q1;refine hK.out _ _ q3 (λhH=>?_);clear hK K hH q3;refine wpAnyH_done krQ ?_ _
    have HX:=show Hid _ from HG wd.drew (.slice (some ⟨gq,off+4,none⟩) ln (qc-1)) HB.out.drew HV
    have hb2:(wd.setCell ⟨gp,n,none⟩ (.slice (some ⟨gq,off+4,none⟩) ln (qc-1))).heap[wr.heap.size]? =some (.cells #[.int .i64 pt,.string tx,.int .i64 cl,.int .i64 cd] 151 (0,0)):=(Below.heap_setCell wd ⟨gp,n,none⟩ (.slice (some ⟨gq,off+4,none⟩) ln (qc-1)) wr.heap.size (λe=>by have e':wr.heap.size=gp:=e;omega)).trans hbx
    have HB2:=show Hid (Below wr.heap.size wr.drew (wd.setCell ⟨gp,n,none⟩ (.slice (some ⟨gq,off+4,none⟩) ln (qc-1))).drew->True)from λ_=>trivial
    have hwl:wr.heap.size<(wd.setCell ⟨gp,n,none⟩ (.slice (some ⟨gq,off+4,none⟩) ln (qc-1))).drew.heap.size:=Qac hb2;have HX2:Hid (∃vg ng xs,AddG B b2 wr.heap.size (wd.setCell ⟨gp,n,none⟩ (.slice (some ⟨gq,off+4,none⟩) ln (qc-1))).drew vg ng xs [.int .i64 pt,.string tx,.int .i64 cl,.int .i64 cd] Q):=HX.out;clear HX HB2 HB q1 q2 zf hbx;generalize wd.setCell ⟨gp,n,none⟩ (.slice (some ⟨gq,off+4,none⟩) ln (qc-1))=w2 at hb2 HX2 hwl ⊢;have p0:w2.cell? ⟨wr.heap.size,0,none⟩=some (.int .i64 pt):=Qaa hb2 0;go_wp2;have hb3:w2.drew.heap[wr.heap.size]? =some (.cells #[.int .i64 pt,.string tx,.int .i64 cl,.int .i64 cd] 151 (0,0)):=hb2;refine wp_region_held_drew (S:=λw':World=>w'.heap[wr.heap.size]? =some (.cells #[.int .i64 pt,.string tx,.int .i64 cl,.int .i64 cd] 151 (0,0))) krQ hb3 (λhH=>?_);clear p0 hb2;obtain⟨vg,ng,xs,hG⟩:=HX2.out;obtain⟨r0,hrow,hng,hB,hvg,hgo⟩:=hG;have HG2:=hdQ hgo
    have HRow:=show Hid (w2.drew.ownsRow B 151 4 vg ng xs)from hrow
    clear hgo hrow HX2;generalize w2.drew=w3 at hb3 hH r0 HRow hB hwl HG2 ⊢;obtain⟨va,vc,rfl⟩:=Qaf HRow.out;refine tkQ 0 (.pointer (some ⟨b2,0,none⟩)) hH ?_;refine tkQ 1 (.pointer (some ⟨b2,0,none⟩)) hH ?_;refine tkQ 2 (.pointer (some ⟨b2,0,none⟩)) hH ?_;refine tkQ 3 (.pointer (some ⟨b2,0,none⟩)) hH ?_;refine tlQ 5 (.agg #[.int .i64 pt,.string tx,.int .i64 cl,.int .i64 cd]) rfl (by intro v hSw;have s0:v.cell? ⟨wr.heap.size,0,none⟩=some (.int .i64 pt):=Qaa hSw 0;have s1:v.cell? ⟨wr.heap.size,1,none⟩=some (.string tx):=Qaa hSw 1;have s2:v.cell? ⟨wr.heap.size,2,none⟩=some (.int .i64 cl):=Qaa hSw 2;have s3:v.cell? ⟨wr.heap.size,3,none⟩=some (.int .i64 cd):=Qaa hSw 3;clear hSw;go_simp) hH ?_;have hba:=(Below.refl w3.heap.size w3).alloc (Nat.le_refl _) (.cells #[.int .i64 pt,.string tx,.int .i64 cl,.int .i64 cd] 151);have hb4:(w3.alloc (.cells #[.int .i64 pt,.string tx,.int .i64 cl,.int .i64 cd] 151)).heap[wr.heap.size]? =some (.cells #[.int .i64 pt,.string tx,.int .i64 cl,.int .i64 cd] 151 (0,0)):=(Below.heap_alloc _ _ _ hwl).trans hb3;have r0a:(w3.alloc (.cells #[.int .i64 pt,.string tx,.int .i64 cl,.int .i64 cd] 151)).cell? ⟨b2,0,none⟩=some (.slice va ng vc):=(hba.cell (p:=⟨b2,0,none⟩) (Qan r0)).trans r0;have HBa:=hdQ hba;clear hba;refine rdQ [4,6] ?_;refine AllReadyH.cons rfl (λK hK=>?_) (arQ λK hK=>?_)
    focus
     clear hH;go_simp;refine hK.out _ _ hb3 (λhH=>?_);clear hK K;refine rdQ [6] ?_
     refine arQ λK hK=>?_
     clear hH;go_simp;refine hK.out _ _ hb4 (λhH=>?_);clear hK K
    rotate_left
    focus
     clear hH;go_simp;refine hK.out _ _ hb4 (λhH=>?_);clear hK K;refine rdQ [4] ?_
     refine arQ λK hK=>?_
     clear hH;go_simp;refine hK.out _ _ hb4 (λhH=>?_);clear hK K
    all_goals
     refine rdQ [7] ?_
     refine arQ λK hK=>?_
     refine QaM rfl ?_;refine Qau _ (.tmp 73) (.tmp 75) 79 rfl B 151 i0 (.agg #[.int .i64 0,.string ⟨#[]⟩,.int .i64 0,.int .i64 0]) 4 40 Tryz.underlying79 hi0 hz0 hz1 hz2 rfl (by decide) (.slice va ng vc) ng xs rfl (HRow.out.alloc _) ⟨w3.heap.size,0,none⟩ 1 1 [.int .i64 pt,.string tx,.int .i64 cl,.int .i64 cd] rfl rfl (by have:=QaC w3 (.int .i64 pt) (.string tx) (.int .i64 cl) (.int .i64 cd) 151;simpa using this) (Qcl ⟨pt,tx,cl,cd⟩) (by unfold maxLen;omega) (by omega) (by simp;omega) (by decide) ?_;intro v' w5 hown5 happ;obtain⟨r5,z5,hQ⟩:=HG2.out _ w5 v' HBa.out hown5 happ;have hb5:w5.heap[wr.heap.size]? =some (.cells #[.int .i64 pt,.string tx,.int .i64 cl,.int .i64 cd] 151 (0,0)):=((Qat happ).block _ (Qac hb4) (λe=>hvg _ e.symm rfl)).trans hb4;refine hK.out _ _ hb5 (λhH=>?_);have HQ:=hdQ hQ;obtain⟨a5,c5,rfl⟩:=Qaf hown5;clear hK K hown5 happ HRow HG2 HBa hQ r0a hb4 hb3;refine tkQ 8 (.pointer (some ⟨b2,0,none⟩)) hH ?_;refine tkQ 9 (.pointer (some ⟨b2,0,none⟩)) hH ?_;refine rdQ [10] ?_
     refine arQ λK hK=>?_
     clear hH;go_simp;have hb6:(w5.setCell ⟨b2,0,none⟩ (.slice a5 (ng+1) c5)).heap[wr.heap.size]? =some (.cells #[.int .i64 pt,.string tx,.int .i64 cl,.int .i64 cd] 151 (0,0)):=(Below.heap_setCell w5 ⟨b2,0,none⟩ (.slice a5 (ng+1) c5) wr.heap.size (λe=>by have e':wr.heap.size=b2:=e;omega)).trans hb5;refine hK.out _ _ hb6 (λhH=>?_);clear hK K hH;refine wpAnyH_done krQ ?_ _;clear r5 z5 hb5 hb6;generalize w5.setCell ⟨b2,0,none⟩ (.slice a5 (ng+1) c5)=w6 at HQ ⊢;go_wp2;go_ret;exact⟨rfl,HQ.out⟩
end
end Go.Proofs.YthccpacmklhejabGreatDoor
