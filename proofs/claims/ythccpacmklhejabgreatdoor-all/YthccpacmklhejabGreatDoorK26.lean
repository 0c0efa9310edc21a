import Derived.Test.YthccpacmklhejabGreatDoorTk
import Derived.Test.YthccpacmklhejabGreatDoorK25
set_option maxRecDepth 4000
namespace Go.Proofs.YthccpacmklhejabGreatDoor
section
open Go.RowKit
def CJob:CJT:=λX w jb j=>∃F m,F.jb=jb/\CLX F X w m/\Abs m j
theorem After.of{F:Fx}{X:Nat->Prop}{w w':World}{m':CM}{j':JobM}(ha:Aft F X w m' w')(hb:Abs m' j'):After CJob X w F.jb j' w':=by
 obtain⟨X',h1,h2,h3⟩:=ha;exact⟨X',⟨F,m',rfl,h1,hb⟩,h2,h3⟩
theorem After.ofB{F:Fx}{X:Nat->Prop}{w w':World}{m:CM}{j:JobM}(h:CLX F X w m)(hb:Abs m j)(hw:Below w.heap.size w w'):After CJob X w F.jb j w':=After.of (h.aft.below hw) hb
theorem stateOf_zero{j:JobM}:stateOf j=0↔j.under=false:=by
 unfold stateOf
 cases j.under<;>cases j.barriers<;>cases j.complete<;>simp
theorem QmT(W R:Nat)(log:ByteArray)(es:List Ev)(mm:Nat)(hlog:log.size<=400)(hp:Parsed log es mm)(hW1:1<=W)(hW4:W<=4)(hR1:1<=R)(hR4:R<=4):Abs (newM W R es) (newJ W R es):=by
 have hg:=QcC hp.good;have hf:=hp.few
 have hS:∀(i:Nat) (s:SorterM),(newJ W R es).sorters[i]? =some s->s=newS:=λi s h=>by
  simp only[newJ,List.getElem?_replicate]at h;split at h
  ·exact(Option.some.inj h).symm
  ·cases h
 have hA:∀(k:Nat) (a:AdderM),(newJ W R es).adders[k]? =some a->a=newA W:=λk a h=>by
  simp only[newJ,List.getElem?_replicate]at h;split at h
  ·exact(Option.some.inj h).symm
  ·cases h
 have hP:∀(k:Nat) (a:AdderM),(newJ W R es).adders[k]? =some a->∀(q:Nat) (p:List ChgM),a.pipes[q]? =some p->p=[]:=λk a h q p hq=>by
  rw[hA k a h]at hq;simp only[newA,List.getElem?_replicate]at hq;split at hq
  ·exact(Option.some.inj hq).symm
  ·cases hq
 refine⟨rfl,rfl,⟨hW1,hW4⟩,⟨hR1,hR4⟩,rfl,by show es.length<=400;omega,λe he=>⟨hg.2.1 e he,hg.2.2 e he⟩,Qg3 W R es omQ,Ql2 W R es omQ omQ,rfl,λi s h=>by rw[hS i s h];exact⟨rfl,rfl⟩,λi s h=>by rw[hS i s h];exact Nat.zero_le _,λk a h q p hq=>by rw[hP k a h q p hq];rfl,λk a h q p hq=>by rw[hP k a h q p hq];exact Nat.zero_le _,λk a h q b hq=>?_,λk a h=>by rw[hA k a h];exact TabIs.nil,rfl,(λh=>by cases h),rfl,⟨by simp[newM,sortedX],λx=>?_⟩,rfl,⟨by simp[newM,sortedX],rfl⟩,rfl⟩
 ·rw[hA k a h]at hq;simp only[newA,List.getElem?_replicate]at hq;split at hq
  ·exact Option.some.inj hq
  ·cases hq
 ·simp[newM,newJ]
theorem Qim{m:CM}{j:JobM}(h:Abs m j)(hu:j.under=false):Abs {m with state:=1,last:=m.last+1} j.trigger.2.2:=by
 have hfl:=Qd7 h.flow;have hop:=Qg5 h.opn
 have hfj:j.fl=false:=by unfold JobM.fl;rw[hu];rfl
 unfold JobM.trigger at hfl hop ⊢;rw[hu]at hfl hop ⊢;simp only[Bool.false_eq_true,if_false]at hfl hop ⊢
 have hready:m.ready=[]:=by
  cases hr:m.ready with
  | nil=>rfl
  | cons x t=>
   have:=(h.ready.2 x).1 (by rw[hr];simp);rw[hu]at this;cases this.1
 refine⟨h.W,h.R,h.w4,h.r4,h.evs,h.len,h.ev,hfl,hop,h.sent,λi s hs=>?_,λi s hs=>?_,λk a ha q p hp=>?_,λk a ha q p hp=>?_,λk a ha q b hb=>?_,λk a ha=>?_,by simp[stateOf],(λx=>by simp[JobM.fl]at x),?_,⟨by rw[hready];simp[sortedX],λx=>?_⟩,by simp[h.last],h.view,h.offset⟩
 ·simp only[List.getElem?_map,Option.map_eq_some_iff]at hs;obtain⟨s0,hs0,rfl⟩:=hs;exact h.sp i s0 hs0
 ·simp only[List.getElem?_map,Option.map_eq_some_iff]at hs;obtain⟨s0,hs0,rfl⟩:=hs;exact h.spl i s0 hs0
 ·simp only[List.getElem?_map,Option.map_eq_some_iff]at ha;obtain⟨a0,ha0,rfl⟩:=ha;exact h.ap k a0 ha0 q p hp
 ·simp only[List.getElem?_map,Option.map_eq_some_iff]at ha;obtain⟨a0,ha0,rfl⟩:=ha;exact h.apl k a0 ha0 q p hp
 ·simp only[List.getElem?_map,Option.map_eq_some_iff]at ha;obtain⟨a0,ha0,rfl⟩:=ha;exact h.st k a0 ha0 q b hb
 ·simp only[List.getElem?_map,Option.map_eq_some_iff]at ha;obtain⟨a0,ha0,rfl⟩:=ha;exact h.tb k a0 ha0
 ·have h1:=h.laid;unfold laidOf at h1 ⊢;rw[hu]at h1;simp only[Bool.false_eq_true,if_false]at h1;simp only[if_true,h1];rw[QkS];intro a ha;obtain⟨a0,_,rfl⟩:=List.mem_map.1 ha
  rfl
 ·rw[hready];simp only[List.not_mem_nil,false_iff];rintro⟨_,a,ha,hp,_⟩;simp only[List.getElem?_map,Option.map_eq_some_iff]at ha;obtain⟨a0,ha0,rfl⟩:=ha;cases hp
theorem Qin{X:Nat->Prop}{w:World}{jb:Nat}{j:JobM}(h:CJob X w jb j)(hn:j.number<4611686018427387904):Calls Tryz.prog 23 #[.pointer (some ⟨jb,0,none⟩)] w λen w'=>en=.returned (.tuple #[.int .i64 (j.trigger.1:Int),.int .i64 (j.trigger.2.1:Int)])/\After CJob X w jb j.trigger.2.2 w':=by
 obtain⟨F,m,rfl,hC,hA⟩:=h;have key:=wTrigger (jb:=F.jb) (w:=w) (P:=λr s w'=>r=(j.trigger.1:Int)/\s=(j.trigger.2.1:Int)/\After CJob X w F.jb j.trigger.2.2 w')
 refine(key ?_).mono λen w' ⟨r,s,he,hr,hs,ha⟩=>⟨by rw[he,hr,hs],ha⟩
 cases hu:j.under with
 | true=>
  have e:j.trigger=(0,10,j):=by unfold JobM.trigger;rw[hu];rfl
  rw[e]
  refine(Qgk hC (by rw[hA.state];intro x;rw[stateOf_zero.1 x]at hu;cases hu)).mono λen w' ⟨he,hw⟩=>⟨0,10,he,rfl,rfl,?_⟩
  rw[hw]
  exact After.of hC.aft hA
 | false=>
  have e1:j.trigger.1=j.number+1:=by unfold JobM.trigger;rw[hu];rfl
  have e2:j.trigger.2.1=0:=by unfold JobM.trigger;rw[hu];rfl
  refine(Qgl hC (by rw[hA.state];exact stateOf_zero.2 hu) (by rw[hA.last];exact hn)).mono λen w' ⟨he,hw⟩=>⟨_,_,he,by rw[e1,hA.last],by rw[e2];rfl,After.of hw (Qim hA hu)⟩
theorem QmU(w:World)(W R:Nat)(log:ByteArray)(es:List Ev)(m:Nat)(hlog:log.size<=400)(hp:Parsed log es m)(hW1:1<=W)(hW4:W<=4)(hR1:1<=R)(hR4:R<=4):
  Calls Tryz.prog 8 #[.agg #[.int .i64 (W:Int),.int .i64 (R:Int)],.string log] w λen w'=>∃jb X,en=.returned (.tuple #[.pointer (some ⟨jb,0,none⟩),.int .i64 0])/\CJob X w' jb (newJ W R es)/\(∀g,X g->w.heap.size<=g)/\Below w.heap.size w w':=
 (QmQ w W R log es m hlog hp hW1 hW4 hR1 hR4).mono λ_ _ ⟨F,X,he,hC,hX,hb⟩=>⟨F.jb,X,he,⟨F,_,rfl,hC,QmT W R log es m hlog hp hW1 hW4 hR1 hR4⟩,hX,hb⟩
theorem QjK{X:Nat->Prop}{w:World}{jb:Nat}{j:JobM}(h:CJob X w jb j):Calls Tryz.prog 26 #[.pointer (some ⟨jb,0,none⟩)] w λen w'=>en=.returned (.int .i64 (j.base:Int))/\Below w.heap.size w w':=by
 obtain⟨F,m,rfl,hC,hA⟩:=h;refine wOffset ((coffset hC).mono λen w' ⟨he,hw⟩=>⟨by rw[he,hA.offset],?_⟩);rw[hw];exact Below.refl _ _
theorem Qmc{X:Nat->Prop}{w:World}{jb:Nat}{j:JobM}(h:CJob X w jb j)(ht:Tab w):Calls Tryz.prog 28 #[.pointer (some ⟨jb,0,none⟩)] w λen w'=>en=.returned (.string ⟨(foldB (j.events.take j.base)).toArray⟩)/\Below w.heap.size w w':=by
 obtain⟨F,m,rfl,hC,hA⟩:=h;have hl:=hA.viewLen
 have he:m.view.flatMap xText=foldB (j.events.take j.base):=by rw[Qfh,hA.view.2,Qfi]
 rw[<-he];refine wView (cview hC ht omQ λr hr=>?_);refine QcM (es:=j.events.take j.base) (by rw[List.length_take];have:=hA.len;omega) r.v ?_;rw[<-hA.view.2];exact List.mem_map.2 ⟨r,hr,rfl⟩
theorem QeD{m:CM}{j:JobM}(h:Abs m j):(workN m:Int)=if j.passedAll then 1 else 0:=by
 have hl:j.adders.length=j.width:=h.flow.lenA;have hle:=QiV j.adders;unfold workN;rw[h.state,h.laid,h.W]
 by_cases hp:j.passedAll=true
 ·rw[if_pos hp];unfold JobM.passedAll at hp;simp only[Bool.and_eq_true,List.all_eq_true]at hp;obtain⟨⟨⟨h1,h2⟩,h3⟩,h4⟩:=hp
  have h5:stateOf j≥2:=by unfold stateOf;rw[h1,h2];simp;split<;>omega
  have h6:laidOf j=j.width:=by unfold laidOf;rw[if_pos h1,(Qhm _).2 h4,hl]
  rw[if_pos ⟨h5,by omega⟩]
  rfl
 ·rw[if_neg hp];rw[if_neg]
  ·rfl
  ·rintro⟨h1,h2⟩;apply hp
   have hu:j.under=true:=by
    cases hu:j.under with
    | true=>rfl
    | false=>unfold stateOf at h1;rw[hu]at h1;simp at h1
   have hbr:j.barriers=true:=by
    cases hb:j.barriers with
    | true=>rfl
    | false=>unfold stateOf at h1;rw[hu,hb]at h1;simp at h1
   have hfl:j.fl=true:=by unfold JobM.fl;rw[hu,hbr];rfl
   unfold laidOf at h2;rw[if_pos hu]at h2;have hall:∀a∈j.adders,a.passed=true:=(Qhm _).1 omQ
   have h0:0<j.adders.length:=by rw[hl];exact h.w4.1
   have ha0:j.adders[0]? =some (j.adders[0]):=List.getElem?_eq_getElem h0;have hs:=((h.flow.adders 0 _ ha0).mark hfl (hall _ (List.getElem_mem h0))).2.2.2;unfold JobM.passedAll;simp only[Bool.and_eq_true,List.all_eq_true];exact⟨⟨⟨hu,hbr⟩,hs⟩,hall⟩
theorem QkU{X:Nat->Prop}{w:World}{jb:Nat}{j:JobM}(h:CJob X w jb j)(t:Int)(h0:-9223372036854775808<=t)(h1:t<=9223372036854775807):
  Calls Tryz.prog 50 #[.pointer (some ⟨jb,0,none⟩),.int .i64 t] w λen w'=>∃v,en=.returned (.tuple #[v,.int .i64 ((j.queue t).2:Int)])/\w'.ownsRow w.heap.size 3 1 v (j.queue t).1.length ((j.queue t).1.map (Value.int .i64))/\Below w.heap.size w w':=by
 obtain⟨F,m,rfl,hC,hA⟩:=h;refine wQueue (P:=λv w'=>w'.ownsRow w.heap.size 3 1 v (j.queue t).1.length ((j.queue t).1.map (Value.int .i64))/\Below w.heap.size w w') ?_;have hw:=hA.w4;have hWW:=hA.W;unfold JobM.queue
 by_cases c1:t<0\/2*(j.width:Int)+1<t
 ·rw[if_pos c1];exact Qij hC t h0 h1 (by rw[hWW];exact c1)
 ·rw[if_neg c1]
  by_cases c2:t=0
  ·subst c2;rw[if_pos rfl];have:=Qgp hC (by rw[hA.evs];exact hA.len) (by rw[hA.evs,hA.sent];exact hA.flow.sent);rw[hA.evs,hA.sent]at this;exact this
  ·rw[if_neg c2]
   by_cases c3:t<=(j.width:Int)
   ·rw[if_pos c3]
    obtain⟨i,rfl⟩:∃i:Nat,t=(i:Int)+1:=⟨(t-1).toNat,by omega⟩
    have hi:i<j.width:=omQ;have ei:((i:Int)+1-1).toNat=i:=omQ;rw[ei];have hs:j.sorters[i]? =some (j.sorters[i]'(by rw[hA.flow.lenS];exact hi)):=List.getElem?_eq_getElem _
    have hg:j.sorters.getD i newS=j.sorters[i]'(by rw[hA.flow.lenS];exact hi):=by rw[List.getD_eq_getElem?_getD,hs];rfl
    have:=Qgn hC i (by rw[hWW];exact hi);rw[(hA.sp i _ hs).1,List.length_map]at this;rw[hg];exact this
   ·rw[if_neg c3]
    by_cases c4:t<=2*(j.width:Int)
    ·rw[if_pos c4]
     obtain⟨k,rfl⟩:∃k:Nat,t=(j.width:Int)+1+(k:Int):=⟨(t-(j.width:Int)-1).toNat,by omega⟩
     have hk:k<j.width:=omQ;have ek:((j.width:Int)+1+(k:Int)-(j.width:Int)-1).toNat=k:=omQ;rw[ek];have hs:j.adders[k]? =some (j.adders[k]'(by rw[hA.flow.lenA];exact hk)):=List.getElem?_eq_getElem _
     have hg:j.adders.getD k (newA 0)=j.adders[k]'(by rw[hA.flow.lenA];exact hk):=by rw[List.getD_eq_getElem?_getD,hs];rfl
     have hlp:=(hA.flow.adders k _ hs).lenP
     have hle:lensTo m k m.W=(j.adders[k]'(by rw[hA.flow.lenA];exact hk)).pipes.map λp=>(p.length:Int):=by
      apply List.ext_getElem?;intro q;unfold lensTo;rw[List.getElem?_map,List.getElem?_map]
      by_cases hq:q<j.width
      ·have hpq:(j.adders[k]'(by rw[hA.flow.lenA];exact hk)).pipes[q]? =some ((j.adders[k]'(by rw[hA.flow.lenA];exact hk)).pipes[q]'(by rw[hlp];exact hq)):=List.getElem?_eq_getElem _;have:=hA.ap k _ hs q _ hpq;rw[hpq,List.getElem?_range (by rw[hWW];exact hq)];simp only[Option.map_some,this,List.length_map]
      ·rw[List.getElem?_eq_none (by simp;omega),List.getElem?_eq_none (by rw[hlp];omega)]
       rfl
     have:=Qhk hC k (by rw[hWW];exact hk);rw[hle,hWW]at this;rw[hg];exact this
    ·rw[if_neg c4];have et:t=2*(j.width:Int)+1:=omQ;subst et;have:=Qgo hC;rw[QeD hA,hWW]at this
     by_cases hp:j.passedAll=true
     ·rw[if_pos hp]at this ⊢;exact this
     ·rw[if_neg hp]at this ⊢;exact this
def StepP(X:Nat->Prop)(w:World)(jb:Nat)(res:Nat × JobM)(r:Int)(w':World):Prop:=r=(res.1:Int)/\After CJob X w jb res.2 w'
theorem stateOf_one{j:JobM}:stateOf j=1↔(j.under=true/\j.barriers=false):=by
 unfold stateOf
 cases j.under<;>cases j.barriers<;>cases j.complete<;>simp
section
variable {F:Fx} {X:Nat->Prop} {w:World} {m:CM} {j:JobM}
theorem QmV(h:Abs m j)(hu:j.under=true)(hb:j.barriers=false)(hall:j.sorters.any (λs=>decide (s.pipe.length=j.room))=false):Abs {m with sp:=barTo m.sp m.W,state:=2,off:=m.sent} {j with sorters:=j.sorters.map (λs=>{s with pipe:=s.pipe++[-1]}),barriers:=true,off:=j.sent}:=by
 have hfl:=Qdc h.flow;have hop:=Qeu h.opn
 have hs2:j.source=(0,{j with sorters:=j.sorters.map (λs=>{s with pipe:=s.pipe++[-1]}),barriers:=true,off:=j.sent}):=by
  unfold JobM.source;rw[hu,hb,hall]
  rfl
 rw[hs2]at hfl hop
 have hco:j.complete=false:=by
  cases hc:j.complete with
  | false=>rfl
  | true=>have:=(h.flow.comp hu hc).1;rw[hb]at this;cases this
 have hno:∀s∈j.sorters,s.pipe.length≠j.room:=λs hs e=>by
  rw[List.any_eq_false]at hall;exact hall s hs (by simp[e])
 refine⟨h.W,h.R,h.w4,h.r4,h.evs,h.len,h.ev,hfl,hop,h.sent,λi s hs=>?_,λi s hs=>?_,h.ap,h.apl,h.st,h.tb,by unfold stateOf;simp[hu,hco],λ_=>h.sent,h.laid,h.ready,h.last,h.view,h.offset⟩
 ·simp only[List.getElem?_map,Option.map_eq_some_iff]at hs;obtain⟨s0,hs0,rfl⟩:=hs;obtain⟨e1,e2⟩:=h.sp i s0 hs0
  have hi:i<m.W:=by
   have:=(List.getElem?_eq_some_iff.1 hs0).1;rw[h.flow.lenS]at this;rw[h.W];exact this
  refine⟨?_,e2⟩
  show barTo m.sp m.W i=_
  unfold barTo;rw[if_pos hi,e1];simp[QmS]
 ·simp only[List.getElem?_map,Option.map_eq_some_iff]at hs;obtain⟨s0,hs0,rfl⟩:=hs;have h1:=h.spl i s0 hs0;have h2:=hno s0 (List.mem_of_getElem? hs0);simp only[List.length_append,List.length_cons,List.length_nil];omega
theorem Qmd(h:Abs m j){e:Ev}(he:j.events[j.sent]? =some e){s:SorterM}(hs:j.sorters[hashS e.key % j.width]? =some s)(hl:s.pipe.length≠j.room)(hub:(j.under && !j.barriers)=false):Abs {m with sp:=updF m.sp (hashS e.key % m.W) (m.sp (hashS e.key % m.W)++[evI e]),sent:=m.sent+1} {j with sorters:=j.sorters.set (hashS e.key % j.width) {s with pipe:=s.pipe++[(j.sent:Int)]},sent:=j.sent+1}:=by
 have hfl:=Qdc h.flow;have hop:=Qeu h.opn
 have hs2:j.source=(0,{j with sorters:=j.sorters.set (hashS e.key % j.width) {s with pipe:=s.pipe++[(j.sent:Int)]},sent:=j.sent+1}):=by
  unfold JobM.source;rw[hub];simp only[Bool.false_eq_true,if_false,he,hs];rw[if_neg hl]
 rw[hs2]at hfl hop
 have hit:itS j.events (j.sent:Int)=evI e:=by
  unfold itS;rw[if_neg omQ,Int.toNat_natCast,he]
  rfl
 refine⟨h.W,h.R,h.w4,h.r4,h.evs,h.len,h.ev,hfl,hop,by show m.sent+1=j.sent+1;rw[h.sent],λi s' hs'=>?_,λi s' hs'=>?_,h.ap,h.apl,h.st,h.tb,h.state,h.off,h.laid,h.ready,h.last,h.view,h.offset⟩
 ·show updF m.sp (hashS e.key % m.W) (m.sp (hashS e.key % m.W)++[evI e]) i=_/\_
  rw[h.W]
  rcases Qal hs' with⟨e1,e2,_⟩ | ⟨e1,e2⟩
  ·subst e1;subst e2;obtain⟨q1,q2⟩:=h.sp _ s hs;rw[QaQ];refine⟨?_,q2⟩;rw[q1];simp[hit]
  ·rw[Qa0 e1];exact h.sp i s' e2
 ·rcases Qal hs' with⟨e1,e2,_⟩ | ⟨e1,e2⟩
  ·subst e1;subst e2;have h1:=h.spl _ s hs;simp only[List.length_append,List.length_cons,List.length_nil];omega
  ·exact h.spl i s' e2
theorem QjL(hC:CLX F X w m)(hA:Abs m j):Calls Tryz.prog 72 #[.pointer (some ⟨F.jb,0,none⟩)] w λen w'=>∃r:Int,en=.returned (.int .i64 r)/\StepP X w F.jb j.source r w':=by
 have hr:=hA.r4
 by_cases hst:j.under=true/\j.barriers=false
 ·have h1:m.state=1:=by rw[hA.state];exact stateOf_one.2 hst
  cases hall:j.sorters.any (λs=>decide (s.pipe.length=j.room))with
  | true=>
   have hs2:j.source=(9,j):=by unfold JobM.source;rw[hst.1,hst.2,hall];rfl
   rw[hs2];obtain⟨s,hs,hl⟩:=List.any_eq_true.1 hall;obtain⟨i,hi,he⟩:=List.getElem_of_mem hs
   have hsi:j.sorters[i]? =some s:=by rw[List.getElem?_eq_getElem hi,he]
   have hiW:i<m.W:=by rw[hA.W,<-hA.flow.lenS];exact hi
   have:=QeB hC h1 (Qjx hC i hiW (by rw[(hA.sp i s hsi).1,List.length_map,hA.R];have:=of_decide_eq_true hl;omega))
   exact this.mono λen w' ⟨he,q,hq⟩=>⟨9,he,rfl,by rw[hq];exact After.of (hC.aft.drewN q) hA⟩
  | false=>
   have hs2:j.source=(0,{j with sorters:=j.sorters.map (λs=>{s with pipe:=s.pipe++[-1]}),barriers:=true,off:=j.sent}):=by unfold JobM.source;rw[hst.1,hst.2,hall];rfl
   rw[hs2]
   have:=QeB hC h1 (Ql7 hC (by rw[hA.R];omega) (λi hi=>by
    have hiS:i<j.sorters.length:=by rw[hA.flow.lenS,<-hA.W];exact hi
    have hsi:j.sorters[i]? =some (j.sorters[i]):=List.getElem?_eq_getElem hiS;rw[(hA.sp i _ hsi).1,List.length_map,hA.R];have h2:=hA.spl i _ hsi
    have h3:(j.sorters[i]).pipe.length≠j.room:=λe=>by
     rw[List.any_eq_false]at hall;exact hall _ (List.getElem_mem hiS) (by simp[e])
    omega))
   exact this.mono λen w' ⟨he,ha⟩=>⟨0,he,rfl,After.of ha (QmV hA hst.1 hst.2 hall)⟩
 ·have h1:m.state≠1:=by rw[hA.state];exact λx=>hst (stateOf_one.1 x)
  have hub:(j.under && !j.barriers)=false:=by
   cases hu:j.under with
   | false=>rfl
   | true=>
    cases hb:j.barriers with
    | false=>exact absurd ⟨hu,hb⟩ hst
    | true=>rfl
  cases he:j.events[j.sent]? with
  | none=>
   have hs2:j.source=(8,j):=by
    unfold JobM.source;rw[hub];simp only[Bool.false_eq_true,if_false,he]
   rw[hs2]
   have hn:j.events.length<=j.sent:=by
    apply Classical.byContradiction;intro x;rw[List.getElem?_eq_getElem omQ]at he;cases he
   exact(Qhb hC h1 (by rw[hA.evs,hA.sent];exact hn)).mono λen w' ⟨h2,h3⟩=>⟨8,h2,rfl,After.ofB hC hA h3⟩
  | some e=>
   have hev:=hA.ev e (List.mem_of_getElem? he);have hiW:hashS e.key % j.width<j.width:=Nat.mod_lt _ (by have:=hA.w4;omega);have hs:j.sorters[hashS e.key % j.width]? =some (j.sorters[hashS e.key % j.width]'(by rw[hA.flow.lenS];exact hiW)):=List.getElem?_eq_getElem _;generalize j.sorters[hashS e.key % j.width]'(by rw[hA.flow.lenS];exact hiW)=s at hs;have hsl:j.sent<j.events.length:=(List.getElem?_eq_some_iff.1 he).1;have hlen:=hA.len
   have hlp:(m.sp (hashS e.key % m.W)).length=s.pipe.length:=by rw[hA.W,(hA.sp _ s hs).1,List.length_map]
   have hpl:=hA.spl _ s hs;have hc:=Qjz hC h1 e (by rw[hA.evs,hA.sent];exact he) hev.2.2 (by rw[hA.R];omega) (by rw[hA.sent];omega);have hRR:=hA.R
   by_cases hf:s.pipe.length=j.room
   ·have hs2:j.source=(9,j):=by
     unfold JobM.source;rw[hub];simp only[Bool.false_eq_true,if_false,he,hs];rw[if_pos hf]
    rw[hs2]
    exact hc.mono λen w' ⟨g1,_⟩=>⟨9,(g1 omQ).1,rfl,After.ofB hC hA (g1 omQ).2⟩
   ·have hs2:j.source=(0,{j with sorters:=j.sorters.set (hashS e.key % j.width) {s with pipe:=s.pipe++[(j.sent:Int)]},sent:=j.sent+1}):=by
     unfold JobM.source;rw[hub];simp only[Bool.false_eq_true,if_false,he,hs];rw[if_neg hf]
    rw[hs2]
    exact hc.mono λen w' ⟨_,g2⟩=>⟨0,(g2 omQ).1,rfl,After.of (g2 omQ).2 (Qmd hA he hs hf hub)⟩
end
end
section
open Go.RowKit
def keyA(a:AdderM):Bool × List ChgM × Nat:=(a.passed,a.got.take a.marked,a.kept)
theorem QiW{l l':List AdderM}(h:∀k:Nat,(l'[k]?).map keyA=(l[k]?).map keyA){k:Nat}{a':AdderM}(ha:l'[k]? =some a'):∃a,l[k]? =some a/\a.passed=a'.passed/\a.got.take a.marked=a'.got.take a'.marked/\a.kept=a'.kept:=by
 have:=h k;rw[ha]at this
 cases hl:l[k]? with
 | none=>rw[hl]at this;cases this
 | some a=>
  rw[hl]at this;simp only[Option.map_some,Option.some.injEq,keyA,Prod.mk.injEq]at this;exact⟨a,rfl,this.1.symm,this.2.1.symm,this.2.2.symm⟩
theorem ReadyIs.congr{ready:List GX}{j j':JobM}(h:ReadyIs ready j)(hu:j'.under=j.under)(hw:j'.width=j.width)(hk:∀k:Nat,(j'.adders[k]?).map keyA=(j.adders[k]?).map keyA):ReadyIs ready j':=by
 refine⟨h.1,λx=>(h.2 x).trans ?_⟩;rw[hu,hw];constructor
 ·rintro⟨h1,a,ha,h2,h3,h4,h5⟩;obtain⟨a',ha',e1,e2,e3⟩:=QiW (λk=>(hk k).symm) ha;refine⟨h1,a',ha',by rw[e1];exact h2,?_,by rw[e2];exact h4,h5⟩;unfold AdderM.chgd at h3 ⊢;rw[e2,e3];exact h3
 ·rintro⟨h1,a,ha,h2,h3,h4,h5⟩;obtain⟨a',ha',e1,e2,e3⟩:=QiW hk ha;refine⟨h1,a',ha',by rw[e1];exact h2,?_,by rw[e2];exact h4,h5⟩;unfold AdderM.chgd at h3 ⊢;rw[e2,e3];exact h3
theorem Qme{f:AdderM->AdderM}(hf:∀a,(f a).passed=a.passed)(l:List AdderM):cntP (l.map f)=cntP l:=by
 unfold cntP
 induction l with
 | nil=>rfl
 | cons a l ih=>
  simp only[List.map_cons,List.filter_cons,hf a];split
  ·simp only[List.length_cons,ih]
  ·exact ih
theorem SOk.idx'{E:List Ev}{W i sent off base:Nat}{fl:Bool}{s:SorterM}(h:SOk E W i sent off base fl s):∀x∈s.pipe,0<=x->x.toNat<E.length:=λx hx h0=>by
 by_cases hp:fl=true->s.passed=true
 ·exact((h.free hp).1 x hx).2
 ·have h1:fl=true:=Classical.byContradiction λy=>hp λz=>absurd z y
  have h2:s.passed=false:=by
   cases hh:s.passed with
   | false=>rfl
   | true=>exact absurd (λ_=>hh) hp
  obtain⟨p1,p2,e,i1,i2,_⟩:=h.wait h1 h2;rw[e]at hx
  rcases List.mem_append.1 hx with hx | hx
  ·exact(i1 x hx).2
  ·rcases List.mem_cons.1 hx with hx | hx
   ·omega
   ·exact(i2 x hx).2
theorem QmW{es:List Ev}{e:Ev}(h:(knOf e.key es).counts e=true):itA (chgOf (knOf e.key es) e)=chI (grp e.key).1 (dLive es e) (dSum es e):=by
 obtain⟨s1,s2⟩:=Qft h;have hp:(chgOf (knOf e.key es) e).pt=((grp e.key).1:Int):=rfl;unfold itA;rw[if_neg (by rw[hp];omega),s1,s2,hp,Int.toNat_natCast]
section
variable {F:Fx} {X:Nat->Prop} {w:World} {m:CM} {j:JobM}
theorem Abs.apw(h:Abs m j){k i:Nat}{a:AdderM}(ha:j.adders[k]? =some a)(hi:i<j.width):(m.ap k i).length=a.waits i/\a.waits i<=j.room:=by
 have hl:=(h.flow.adders k a ha).lenP;have hp:a.pipes[i]? =some (a.pipes[i]'(by rw[hl];exact hi)):=List.getElem?_eq_getElem _
 have hw:a.waits i=(a.pipes[i]'(by rw[hl];exact hi)).length:=by
  unfold AdderM.waits;rw[List.getD_eq_getElem?_getD,hp]
  rfl
 rw[hw,h.ap k a ha i _ hp,List.length_map];exact⟨rfl,h.apl k a ha i _ hp⟩
theorem Qmf(h:Abs m j){i:Nat}{s:SorterM}(hs:j.sorters[i]? =some s){x:Int}{rest:List Int}(hp:s.pipe=x :: rest)(hx:x<0)(hall:j.adders.any (λa=>decide (a.waits i=j.room))=false):Abs {m with sp:=updF m.sp i (rest.map (itS j.events)),ap:=barTo2 m.ap i m.W} {j with adders:=j.adders.map (λa=>a.push i barM),sorters:=j.sorters.set i {s with marked:=s.got.length,passed:=true,pipe:=rest}}:=by
 have hfl:=QcD h.flow i;have hop:=QdK h.opn i
 have hs2:j.sorts i=(0,{j with adders:=j.adders.map (λa=>a.push i barM),sorters:=j.sorters.set i {s with marked:=s.got.length,passed:=true,pipe:=rest}}):=by
  unfold JobM.sorts;simp only[hs,hp,if_pos hx,hall]
  rfl
 rw[hs2]at hfl hop
 have hiW:i<j.width:=by rw[<-h.flow.lenS];exact(List.getElem?_eq_some_iff.1 hs).1
 have hno:∀(k:Nat) (a:AdderM),j.adders[k]? =some a->a.waits i≠j.room:=λk a ha e=>by
  rw[List.any_eq_false]at hall;exact hall a (List.mem_of_getElem? ha) (by simp[e])
 refine⟨h.W,h.R,h.w4,h.r4,h.evs,h.len,h.ev,hfl,hop,h.sent,λi' s' hs'=>?_,λi' s' hs'=>?_,λk a ha q p hq=>?_,λk a ha q p hq=>?_,λk a ha q b hq=>?_,λk a ha=>?_,h.state,h.off,?_,h.ready.congr rfl rfl (λk=>by simp only[List.getElem?_map,Option.map_map];rfl),h.last,h.view,h.offset⟩
 ·show updF m.sp i (rest.map (itS j.events)) i'=_/\_
  rcases Qal hs' with⟨e1,e2,_⟩ | ⟨e1,e2⟩
  ·subst e1;subst e2;rw[QaQ];exact⟨rfl,(h.sp _ s hs).2⟩
  ·rw[Qa0 e1];exact h.sp i' s' e2
 ·rcases Qal hs' with⟨e1,e2,_⟩ | ⟨e1,e2⟩
  ·subst e1;subst e2;have:=h.spl _ s hs;rw[hp]at this;simp only[List.length_cons]at this
   show rest.length<=j.room
   omega
  ·exact h.spl i' s' e2
 ·simp only[List.getElem?_map,Option.map_eq_some_iff]at ha;obtain⟨a0,ha0,rfl⟩:=ha
  have hkW:k<m.W:=by rw[h.W,<-h.flow.lenA];exact(List.getElem?_eq_some_iff.1 ha0).1
  show barTo2 m.ap i m.W k q=_
  unfold barTo2
  rcases Qbd hq with⟨e1,x0,hx0,rfl⟩ | ⟨e1,e2⟩
  ·subst e1;rw[if_pos ⟨hkW,rfl⟩,h.ap k a0 ha0 _ x0 hx0];simp[QmR]
  ·rw[if_neg (λy=>e1 y.2)];exact h.ap k a0 ha0 q p e2
 ·simp only[List.getElem?_map,Option.map_eq_some_iff]at ha;obtain⟨a0,ha0,rfl⟩:=ha
  rcases Qbd hq with⟨e1,x0,hx0,rfl⟩ | ⟨e1,e2⟩
  ·subst e1;have h1:=h.apl k a0 ha0 _ x0 hx0;have h2:=hno k a0 ha0;unfold AdderM.waits at h2;rw[List.getD_eq_getElem?_getD,hx0]at h2;simp only[Option.getD_some]at h2;simp only[List.length_append,List.length_cons,List.length_nil]
   show x0.length+(0+1)<=j.room
   omega
  ·exact h.apl k a0 ha0 q p e2
 ·simp only[List.getElem?_map,Option.map_eq_some_iff]at ha;obtain⟨a0,ha0,rfl⟩:=ha;exact h.st k a0 ha0 q b hq
 ·simp only[List.getElem?_map,Option.map_eq_some_iff]at ha;obtain⟨a0,ha0,rfl⟩:=ha;exact h.tb k a0 ha0
 ·have:=h.laid;unfold laidOf at this ⊢
  show m.laid=if j.under then cntP (j.adders.map λa=>a.push i barM)else 0
  rw[Qme (f:=λa=>a.push i barM) (λ_=>rfl)];exact this
theorem Qmg(h:Abs m j){i:Nat}{s:SorterM}(hs:j.sorters[i]? =some s){x:Int}{rest:List Int}(hp:s.pipe=x :: rest)(hx:¬x<0){e:Ev}(he:j.events[x.toNat]? =some e)(hc:(knOf e.key s.got).counts e=false):Abs {m with sp:=updF m.sp i (rest.map (itS j.events))} {j with sorters:=j.sorters.set i {s with got:=s.got++[e],pipe:=rest}}:=by
 have hfl:=QcD h.flow i;have hop:=QdK h.opn i
 have hs2:j.sorts i=(0,{j with sorters:=j.sorters.set i {s with got:=s.got++[e],pipe:=rest}}):=by
  unfold JobM.sorts;simp only[hs,hp,if_neg hx,he,hc]
  rfl
 rw[hs2]at hfl hop;refine⟨h.W,h.R,h.w4,h.r4,h.evs,h.len,h.ev,hfl,hop,h.sent,λi' s' hs'=>?_,λi' s' hs'=>?_,h.ap,h.apl,h.st,h.tb,h.state,h.off,h.laid,h.ready,h.last,h.view,h.offset⟩
 ·show updF m.sp i (rest.map (itS j.events)) i'=_/\_
  rcases Qal hs' with⟨e1,e2,_⟩ | ⟨e1,e2⟩
  ·subst e1;subst e2;rw[QaQ];exact⟨rfl,(h.sp _ s hs).2.trans (Qfc hc).symm⟩
  ·rw[Qa0 e1];exact h.sp i' s' e2
 ·rcases Qal hs' with⟨e1,e2,_⟩ | ⟨e1,e2⟩
  ·subst e1;subst e2;have:=h.spl _ s hs;rw[hp]at this;simp only[List.length_cons]at this
   show rest.length<=j.room
   omega
  ·exact h.spl i' s' e2
theorem Qmh(h:Abs m j){i:Nat}{s:SorterM}(hs:j.sorters[i]? =some s){x:Int}{rest:List Int}(hp:s.pipe=x :: rest)(hx:¬x<0){e:Ev}(he:j.events[x.toNat]? =some e)(hc:(knOf e.key s.got).counts e=true){a:AdderM}(ha:j.adders[(grp e.key).1 % j.width]? =some a)(hf:a.waits i≠j.room):
  Abs {m with sp:=updF m.sp i (rest.map (itS j.events)),sk:=updF m.sk i (entsOf (s.got++[e])),ap:=updF2 m.ap ((grp e.key).1 % m.W) i (m.ap ((grp e.key).1 % m.W) i++[chI (grp e.key).1 (dLive s.got e) (dSum s.got e)])} {j with adders:=j.adders.set ((grp e.key).1 % j.width) (a.push i (chgOf (knOf e.key s.got) e)),sorters:=j.sorters.set i {s with got:=s.got++[e],pipe:=rest}}:=by
 have hfl:=QcD h.flow i;have hop:=QdK h.opn i
 have hs2:j.sorts i=(0,{j with adders:=j.adders.set ((grp e.key).1 % j.width) (a.push i (chgOf (knOf e.key s.got) e)),sorters:=j.sorters.set i {s with got:=s.got++[e],pipe:=rest}}):=by
  unfold JobM.sorts;simp only[hs,hp,if_neg hx,he,hc,if_true,ha];rw[if_neg hf]
 rw[hs2]at hfl hop;refine⟨h.W,h.R,h.w4,h.r4,h.evs,h.len,h.ev,hfl,hop,h.sent,λi' s' hs'=>?_,λi' s' hs'=>?_,λk a' ha' q p hq=>?_,λk a' ha' q p hq=>?_,λk a' ha' q b hq=>?_,λk a' ha'=>?_,h.state,h.off,?_,h.ready.congr rfl rfl (λk=>?_),h.last,h.view,h.offset⟩
 ·show updF m.sp i (rest.map (itS j.events)) i'=_/\updF m.sk i (entsOf (s.got++[e])) i'=_
  rcases Qal hs' with⟨e1,e2,_⟩ | ⟨e1,e2⟩
  ·subst e1;subst e2;rw[QaQ,QaQ];exact⟨rfl,rfl⟩
  ·rw[Qa0 e1,Qa0 e1];exact h.sp i' s' e2
 ·rcases Qal hs' with⟨e1,e2,_⟩ | ⟨e1,e2⟩
  ·subst e1;subst e2;have:=h.spl _ s hs;rw[hp]at this;simp only[List.length_cons]at this
   show rest.length<=j.room
   omega
  ·exact h.spl i' s' e2
 ·show updF2 m.ap ((grp e.key).1 % m.W) i (m.ap ((grp e.key).1 % m.W) i++[chI (grp e.key).1 (dLive s.got e) (dSum s.got e)]) k q=_
  rw[h.W]
  rcases Qal ha' with⟨e1,e2,_⟩ | ⟨e1,e2⟩
  ·subst e1;subst e2
   rcases Qbd hq with⟨d1,x0,hx0,rfl⟩ | ⟨d1,d2⟩
   ·subst d1;rw[Qbc,h.ap _ a ha _ x0 hx0];simp[QmW hc]
   ·rw[QaK (.inr d1)];exact h.ap _ a ha q p d2
  ·rw[QaK (.inl e1)];exact h.ap k a' e2 q p hq
 ·rcases Qal ha' with⟨e1,e2,_⟩ | ⟨e1,e2⟩
  ·subst e1;subst e2
   rcases Qbd hq with⟨d1,x0,hx0,rfl⟩ | ⟨d1,d2⟩
   ·subst d1;have h1:=h.apl _ a ha _ x0 hx0;unfold AdderM.waits at hf;rw[List.getD_eq_getElem?_getD,hx0]at hf;simp only[Option.getD_some]at hf;simp only[List.length_append,List.length_cons,List.length_nil]
    show x0.length+(0+1)<=j.room
    omega
   ·exact h.apl _ a ha q p d2
  ·exact h.apl k a' e2 q p hq
 ·rcases Qal ha' with⟨e1,e2,_⟩ | ⟨e1,e2⟩
  ·subst e1;subst e2;exact h.st _ a ha q b hq
  ·exact h.st k a' e2 q b hq
 ·rcases Qal ha' with⟨e1,e2,_⟩ | ⟨e1,e2⟩
  ·subst e1;subst e2;exact h.tb _ a ha
  ·exact h.tb k a' e2
 ·have:=h.laid;unfold laidOf at this ⊢
  show m.laid=if j.under then cntP (j.adders.set ((grp e.key).1 % j.width) (a.push i (chgOf (knOf e.key s.got) e)))else 0
  rw[Qed (a':=a.push i (chgOf (knOf e.key s.got) e)) ha rfl];exact this
 ·show((j.adders.set ((grp e.key).1 % j.width) (a.push i (chgOf (knOf e.key s.got) e)))[k]?).map keyA=_
  by_cases hk:k=(grp e.key).1 % j.width
  ·subst hk;rw[List.getElem?_set_self (List.getElem?_eq_some_iff.1 ha).1,ha]
   rfl
  ·rw[List.getElem?_set_ne (λy=>hk y.symm)]
theorem QjM(hC:CLX F X w m)(hA:Abs m j)(i:Nat)(hi:i<j.width):Calls Tryz.prog 73 #[.pointer (some ⟨F.jb,0,none⟩),.int .i64 (i:Int)] w λen w'=>∃r:Int,en=.returned (.int .i64 r)/\StepP X w F.jb (j.sorts i) r w':=by
 have hr:=hA.r4;have hRR:=hA.R;have hWW:=hA.W;have hiW:i<m.W:=omQ;have hs:j.sorters[i]? =some (j.sorters[i]'(by rw[hA.flow.lenS];exact hi)):=List.getElem?_eq_getElem _;generalize j.sorters[i]'(by rw[hA.flow.lenS];exact hi)=s at hs;obtain⟨sp1,sk1⟩:=hA.sp i s hs;have hpl:=hA.spl i s hs;have hso:=hA.flow.sorters i s hs
 cases hp:s.pipe with
 | nil=>
  have hs2:j.sorts i=(8,j):=by unfold JobM.sorts;simp only[hs,hp]
  rw[hs2];rw[hp]at sp1
  exact(Qhc hC i hiW sp1).mono λen w' ⟨h1,h2⟩=>⟨8,h1,rfl,After.ofB hC hA h2⟩
 | cons x rest=>
  rw[hp]at sp1 hpl;simp only[List.map_cons]at sp1;simp only[List.length_cons]at hpl
  have hrl:(rest.map (itS j.events)).length<=1000:=by rw[List.length_map];omega
  by_cases hx:x<0
  ·have hxb:(itS j.events x).bar=true:=by unfold itS;rw[if_pos hx];rfl
   cases hall:j.adders.any (λa=>decide (a.waits i=j.room))with
   | true=>
    have hs2:j.sorts i=(9,j):=by unfold JobM.sorts;simp only[hs,hp,if_pos hx,hall,if_true]
    rw[hs2];obtain⟨a,ha,hl⟩:=List.any_eq_true.1 hall;obtain⟨k,hk,he⟩:=List.getElem_of_mem ha
    have hak:j.adders[k]? =some a:=by rw[List.getElem?_eq_getElem hk,he]
    have hw:=hA.apw hak hi;have hl':=of_decide_eq_true hl;have:=QeC hC i hiW sp1 hxb hrl (P:=λw' w''=>∃q,w''=w'.drewN q) (λw' h'=>QjA h' i hiW k (by rw[hWW,<-hA.flow.lenA];exact hk) omQ)
    exact this.mono λen w' ⟨h1,w1,h2,q,h3⟩=>⟨9,h1,rfl,by rw[h3];exact After.ofB hC hA (below_drewN h2 q)⟩
   | false=>
    have hs2:j.sorts i=(0,{j with adders:=j.adders.map (λa=>a.push i barM),sorters:=j.sorters.set i {s with marked:=s.got.length,passed:=true,pipe:=rest}}):=by
     unfold JobM.sorts;simp only[hs,hp,if_pos hx,hall]
     rfl
    rw[hs2]
    have:=QeC hC i hiW sp1 hxb hrl (P:=λw' w''=>Aft F X w' {m with sp:=updF m.sp i (rest.map (itS j.events)),ap:=barTo2 m.ap i m.W} w'') (λw' h'=>Ql8 h' i hiW omQ (λk hk=>by
     have hkl:k<j.adders.length:=by rw[hA.flow.lenA];omega
     have hak:j.adders[k]? =some (j.adders[k]):=List.getElem?_eq_getElem hkl;have hw:=hA.apw hak hi
     have hne:(j.adders[k]).waits i≠j.room:=λe=>by
      rw[List.any_eq_false]at hall;exact hall _ (List.getElem_mem hkl) (by simp[e])
     omega) sp1 hrl)
    exact this.mono λen w' ⟨h1,w1,h2,h3⟩=>⟨0,h1,rfl,After.of (Aft.from h3 h2) (Qmf hA hs hp hx hall)⟩
  ·have hxl:x.toNat<j.events.length:=hso.idx' x (by rw[hp];simp) omQ;have he:j.events[x.toNat]? =some (j.events[x.toNat]):=List.getElem?_eq_getElem hxl;generalize j.events[x.toNat]=e at he;have hev:=hA.ev e (List.mem_of_getElem? he)
   have hit:itS j.events x=evI e:=by unfold itS;rw[if_neg hx,he];rfl
   rw[hit]at sp1
   have hgl:s.got.length<=900:=by
    have h1:=hA.len
    have h2:s.got.length<=j.events.length:=by
     have key:∃l n,s.got++l=evs j.width j.events n i:=by
      by_cases hpp:j.fl=true->s.passed=true
      ·exact⟨_,_,(hso.free hpp).2⟩
      ·have g1:j.fl=true:=Classical.byContradiction λy=>hpp λz=>absurd z y
       have g2:s.passed=false:=by
        cases hh:s.passed with
        | false=>rfl
        | true=>exact absurd (λ_=>hh) hpp
       obtain⟨p1,p2,_,_,_,e1,_⟩:=hso.wait g1 g2;exact⟨_,_,e1⟩
     obtain⟨l,n,e⟩:=key;have h3:=Qdu j.width j.events n i;rw[<-e,List.length_append]at h3;omega
    omega
   have hc:=QjB hC i hiW sp1 rfl hrl s.got sk1 hgl hev.1 hev.2.1 hev.2.2 omQ;have hkW:(grp e.key).1 % j.width<j.width:=Nat.mod_lt _ omQ;have ha:j.adders[(grp e.key).1 % j.width]? =some (j.adders[(grp e.key).1 % j.width]'(by rw[hA.flow.lenA];exact hkW)):=List.getElem?_eq_getElem _;generalize j.adders[(grp e.key).1 % j.width]'(by rw[hA.flow.lenA];exact hkW)=a at ha;have hw:=hA.apw ha hi
   have hw1:(m.ap ((grp e.key).1 % m.W) i).length=a.waits i:=by rw[hWW];exact hw.1
   have hee:(evI e).e=e:=rfl;rw[hee]at hc
   cases hct:(knOf e.key s.got).counts e with
   | false=>
    have hs2:j.sorts i=(0,{j with sorters:=j.sorters.set i {s with got:=s.got++[e],pipe:=rest}}):=by
     unfold JobM.sorts;simp only[hs,hp,if_neg hx,he,hct]
     rfl
    rw[hs2]
    exact hc.mono λen w' ⟨g1,_,_⟩=>⟨0,(g1 hct).1,rfl,After.of (g1 hct).2 (Qmg hA hs hp hx he hct)⟩
   | true=>
    by_cases hf:a.waits i=j.room
    ·have hs2:j.sorts i=(9,j):=by
      unfold JobM.sorts;simp only[hs,hp,if_neg hx,he,hct,if_true,ha];rw[if_pos hf]
     rw[hs2]
     exact hc.mono λen w' ⟨_,g2,_⟩=>⟨9,(g2 hct omQ).1,rfl,After.ofB hC hA (g2 hct omQ).2⟩
    ·have hs2:j.sorts i=(0,{j with adders:=j.adders.set ((grp e.key).1 % j.width) (a.push i (chgOf (knOf e.key s.got) e)),sorters:=j.sorters.set i {s with got:=s.got++[e],pipe:=rest}}):=by
      unfold JobM.sorts;simp only[hs,hp,if_neg hx,he,hct,if_true,ha];rw[if_neg hf]
     rw[hs2]
     exact hc.mono λen w' ⟨_,_,g3⟩=>⟨0,(g3 hct omQ).1,rfl,After.of (g3 hct omQ).2 (Qmh hA hs hp hx he hct ha hf)⟩
end
end
end Go.Proofs.YthccpacmklhejabGreatDoor
