import Derived.Test.YthccpacmklhejabGreatDoorK16
set_option maxRecDepth 4000
namespace Go.Proofs.YthccpacmklhejabGreatDoor
section
def OpenJ(j:JobM):Prop:=0<j.room/\∀a∈j.adders,∃i:Nat,a.stopped[i]? =some false
theorem Ql2(width room:Nat)(events:List Ev)(hW:0<width)(hR:0<room):OpenJ (newJ width room events):=by
 refine⟨hR,λa ha=>?_⟩;simp only[newJ,List.mem_replicate]at ha;rw[ha.2];exact⟨0,by simp[newA,hW]⟩
theorem Qbi{j j':JobM}(h:OpenJ j)(hr:j'.room=j.room)(hm:∀a'∈j'.adders,(∃a∈j.adders,a'.stopped=a.stopped)\/∃i:Nat,a'.stopped[i]? =some false):OpenJ j':=by
 refine⟨by rw[hr];exact h.1,λa' ha'=>?_⟩
 rcases hm a' ha' with⟨a,ha,e⟩ | h2
 ·rw[e];exact h.2 a ha
 ·exact h2
theorem Qg5{j:JobM}(h:OpenJ j):OpenJ j.trigger.2.2:=by
 unfold JobM.trigger;split
 ·exact h
 ·refine Qbi h rfl λa' ha'=>?_
  simp only[List.mem_map]at ha';obtain⟨a,ha,rfl⟩:=ha';exact .inl ⟨a,ha,rfl⟩
theorem Qeu{j:JobM}(h:OpenJ j):OpenJ j.source.2:=by
 unfold JobM.source;split
 ·split
  ·exact h
  ·exact Qbi h rfl λa' ha'=>.inl ⟨a',ha',rfl⟩
 ·split
  ·exact h
  ·split
   ·exact h
   ·split
    ·exact h
    ·exact Qbi h rfl λa' ha'=>.inl ⟨a',ha',rfl⟩
theorem QdK{j:JobM}(h:OpenJ j)(i:Nat):OpenJ (j.sorts i).2:=by
 unfold JobM.sorts;split
 ·exact h
 ·split
  ·exact h
  ·split
   ·split
    ·exact h
    ·refine Qbi h rfl λa' ha'=>?_
     simp only[List.mem_map]at ha';obtain⟨a,ha,rfl⟩:=ha';exact .inl ⟨a,ha,rfl⟩
   ·split
    ·exact h
    ·split
     ·split
      ·exact h
      ·rename_i a ha
       split
       ·exact h
       ·refine Qbi h rfl λa' ha'=>?_
        rcases List.mem_or_eq_of_mem_set ha' with hx | hx
        ·exact .inl ⟨a',hx,rfl⟩
        ·exact .inl ⟨a,List.mem_of_getElem? ha,by rw[hx];rfl⟩
     ·exact Qbi h rfl λa' ha'=>.inl ⟨a',ha',rfl⟩
theorem Qd8{j:JobM}(hf:FlowOk j)(h:OpenJ j)(k:Nat):OpenJ (j.adds k).2:=by
 unfold JobM.adds;split
 ·exact h
 ·rename_i a ha
  split
  ·exact h
  ·rename_i a' ht
   refine Qbi h rfl λx hx=>?_
   rcases List.mem_or_eq_of_mem_set hx with hx | hx
   ·exact .inl ⟨x,hx,rfl⟩
   ·subst hx;unfold AdderM.take at ht;split at ht
    ·split at ht
     ·simp only[Option.some.injEq]at ht;exact .inl ⟨a,List.mem_of_getElem? ha,by rw[<-ht]⟩
     ·split at ht
      ·simp only[Option.some.injEq]at ht;refine .inr ⟨0,?_⟩;rw[<-ht];simp[hf.hW]
      ·rename_i hall
       simp only[Option.some.injEq]at ht
       right
       rw[<-ht];simp only
       have:∃b∈a.stopped.set a.firstOpen true,b=false:=by
        apply Classical.byContradiction;intro hc;apply hall;rw[List.all_eq_true];intro b hb
        cases hbb:b with
        | true=>rfl
        | false=>exact absurd ⟨b,hb,hbb⟩ hc
       obtain⟨b,hb,rfl⟩:=this;obtain⟨i,hi,he⟩:=List.getElem_of_mem hb;exact⟨i,by rw[List.getElem?_eq_getElem hi,he]⟩
    ·cases ht
theorem Qev{j:JobM}(h:OpenJ j):OpenJ j.commit:=by
 refine Qbi h rfl λa' ha'=>?_
 simp only[JobM.commit,List.mem_map]at ha';obtain⟨a,ha,rfl⟩:=ha';exact .inl ⟨a,ha,rfl⟩
theorem Qjm{j:JobM}(h:OpenJ j):OpenJ j.keeps.2:=by
 unfold JobM.keeps;split
 ·exact Qev h
 ·split
  ·exact Qbi h rfl λa' ha'=>.inl ⟨a',ha',rfl⟩
  ·exact h
theorem QhS{j:JobM}(hW:0<j.width)(h:OpenJ j):OpenJ j.forget:=by
 refine Qbi h rfl λa' ha'=>?_
 simp only[JobM.forget,List.mem_map]at ha';obtain⟨a,ha,rfl⟩:=ha';exact .inr ⟨0,by simp[hW]⟩
structure SameJ (j j':JobM):Prop where
 width:j'.width=j.width
 room:j'.room=j.room
 events:j'.events=j.events
theorem QhT(j:JobM):SameJ j j.source.2:=by
 unfold JobM.source;split
 ·split<;>exact⟨rfl,rfl,rfl⟩
 ·split
  ·exact⟨rfl,rfl,rfl⟩
  ·split
   ·exact⟨rfl,rfl,rfl⟩
   ·split<;>exact⟨rfl,rfl,rfl⟩
theorem Qjn(j:JobM)(i:Nat):SameJ j (j.sorts i).2:=by
 unfold JobM.sorts;split
 ·exact⟨rfl,rfl,rfl⟩
 ·split
  ·exact⟨rfl,rfl,rfl⟩
  ·split
   ·split<;>exact⟨rfl,rfl,rfl⟩
   ·split
    ·exact⟨rfl,rfl,rfl⟩
    ·split
     ·split
      ·exact⟨rfl,rfl,rfl⟩
      ·split<;>exact⟨rfl,rfl,rfl⟩
     ·exact⟨rfl,rfl,rfl⟩
theorem QkD(j:JobM)(k:Nat):SameJ j (j.adds k).2:=by
 unfold JobM.adds;split
 ·exact⟨rfl,rfl,rfl⟩
 ·split<;>exact⟨rfl,rfl,rfl⟩
theorem Qjo(j:JobM):SameJ j j.keeps.2:=by
 unfold JobM.keeps;split
 ·exact⟨rfl,rfl,rfl⟩
 ·split<;>exact⟨rfl,rfl,rfl⟩
theorem QkE(j:JobM)(t:Int):SameJ j (j.step t).2:=by
 unfold JobM.step;split
 ·exact⟨rfl,rfl,rfl⟩
 ·split
  ·exact QhT j
  ·split
   ·exact Qjn j _
   ·split
    ·exact QkD j _
    ·exact Qjo j
theorem Qg6(j:JobM):SameJ j j.trigger.2.2:=by
 unfold JobM.trigger
 split<;>exact⟨rfl,rfl,rfl⟩
theorem QkF(j:JobM):SameJ j j.fail:=by
 unfold JobM.fail
 split<;>exact⟨rfl,rfl,rfl⟩
def Good2(j:JobM):Prop:=FlowOk j/\OpenJ j
end
end Go.Proofs.YthccpacmklhejabGreatDoor
