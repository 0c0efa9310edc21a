import Derived.Test.YthccpacmklhejabGreatDoorTk
import Derived.Test.YthccpacmklhejabGreatDoorK27
import Derived.Test.YthccpacmklhejabGreatDoorK15
import Derived.Test.YthccpacmklhejabGreatDoorK18
set_option maxHeartbeats 2000000
set_option maxRecDepth 100000
namespace Go.Proofs.YthccpacmklhejabGreatDoor
section
open Go.RowKit
def chgCells1(c:ChgM):List Value:=[.int .i64 c.pt,.string c.tx,.int .i64 c.live,.int .i64 c.delta]
def chgCells(cs:List ChgM):List Value:=cs.flatMap chgCells1
def rowmCells1(r:RowM):List Value:=[.int .i64 r.pt,.string r.tx,.int .i64 r.live,.int .i64 r.sum,.int .i64 (r.ev:Int)]
def rowmCells(rs:List RowM):List Value:=rs.flatMap rowmCells1
def RSorter(f:Owners)(w:World)(B k i b:Nat)(s:SorterM):Prop:=
 f b=some (k+100+i)/\∃vg vp,w.heap[b]? =some (.cells #[vg,vp,.int .i64 (s.marked:Int),.int .i64 (s.kept:Int),.bool s.passed] 75 (0,0))/\
  w.ownsRow B 40 4 vg s.got.length (evCells s.got)/\IsOf f (k+200+i) vg/\qRow w B 3 1 vp s.pipe.length (s.pipe.map (Value.int .i64))/\IsOf f (k+300+i) vp
def RAdder(f:Owners)(w:World)(B k i b:Nat)(a:AdderM):Prop:=
 f b=some (k+400+i)/\∃vg vp vs vt,w.heap[b]? =some (.cells #[vg,vp,vt,.int .i64 (a.marked:Int),.int .i64 (a.kept:Int),.bool a.passed] 81 (0,0))/\
  w.ownsRow B 151 4 vg a.got.length (chgCells a.got)/\IsOf f (k+500+i) vg/\
  w.ownsRow B 79 1 vp a.pipes.length vs/\IsOf f (k+600+i) vp/\
  (∀m (h:m<a.pipes.length),∃v,vs[m]? =some v/\qRow w B 151 4 v a.pipes[m].length (chgCells a.pipes[m])/\IsOf f (k+1000+10*i+m) v)/\
  w.ownsRow B 4 1 vt a.stopped.length (a.stopped.map Value.bool)/\IsOf f (k+700+i) vt
theorem q_lt{w:World}{B n:Nat}{e:TypeId}{s:Nat}{v:Value}{xs:List Value}(h:qRow w B e s v n xs):∀g,v.ownBlock=some g->g<w.heap.size:=λg hg=>by
 obtain⟨_,cur,hc⟩:=h.lt g hg;exact Qac hc
theorem RSorter.frm{f f':Owners}{S:Nat->Prop}{w w':World}{B k i b:Nat}{s:SorterM}(h:RSorter f w B k i b s)(hf:FrmO f S w w')(hs:Same w.heap.size f f')(h1:¬S (k+100+i))(h2:¬S (k+200+i))(h3:¬S (k+300+i)):RSorter f' w' B k i b s:=by
 obtain⟨ho,vg,vp,hb,hg,og,hp,op⟩:=h;exact⟨(hs b (Qac hb)).trans ho,vg,vp,Qaq hb hf ho h1,Qaj hg hf og h2,og.same hs λg e=>(Qah hg g e).2,Qbo hp hf op h3,op.same hs (q_lt hp)⟩
theorem RAdder.frm{f f':Owners}{S:Nat->Prop}{w w':World}{B k i b:Nat}{a:AdderM}(h:RAdder f w B k i b a)(hf:FrmO f S w w')(hs:Same w.heap.size f f')(h1:¬S (k+400+i))(h2:¬S (k+500+i))(h3:¬S (k+600+i))(h4:¬S (k+700+i))(h5:∀m,m<a.pipes.length->¬S (k+1000+10*i+m)):RAdder f' w' B k i b a:=by
 obtain⟨ho,vg,vp,vs,vt,hb,hg,og,hp,op,hq,ht,ot⟩:=h;refine⟨(hs b (Qac hb)).trans ho,vg,vp,vs,vt,Qaq hb hf ho h1,Qaj hg hf og h2,og.same hs λg e=>(Qah hg g e).2,Qaj hp hf op h3,op.same hs λg e=>(Qah hp g e).2,λm hm=>?_,Qaj ht hf ot h4,ot.same hs λg e=>(Qah ht g e).2⟩;obtain⟨v,hv,hqv,ov⟩:=hq m hm;exact⟨v,hv,Qbo hqv hf ov (h5 m hm),ov.same hs (q_lt hqv)⟩
structure RJob (f:Owners) (w:World) (B k jb:Nat) (sb ab:List Nat) (j:JobM):Prop where
 own:f jb=some (k+1)
 lenS:sb.length=j.width/\j.sorters.length=j.width
 lenA:ab.length=j.width/\j.adders.length=j.width
 box:∃ve vs va vr,w.heap[jb]? =some (.cells #[.int .i64 (j.width:Int),.int .i64 (j.room:Int),ve,.int .i64 (j.sent:Int),vs,va,.int .i64 (j.number:Int),.bool j.under,.bool j.barriers,.int .i64 (j.off:Int),.bool j.complete,.int .i64 (j.base:Int),vr] 72 (0,0))/\
  w.ownsRow B 40 4 ve j.events.length (evCells j.events)/\IsOf f (k+4) ve/\
  w.ownsRow B 73 1 vs sb.length (sb.map λb=>.pointer (some ⟨b,0,none⟩))/\IsOf f (k+2) vs/\
  w.ownsRow B 76 1 va ab.length (ab.map λb=>.pointer (some ⟨b,0,none⟩))/\IsOf f (k+3) va/\
  w.ownsRow B 140 5 vr j.rows.length (rowmCells j.rows)/\IsOf f (k+5) vr
 sorters:∀i (h:i<sb.length) (h':i<j.sorters.length),RSorter f w B k i sb[i] j.sorters[i]
 adders:∀i (h:i<ab.length) (h':i<j.adders.length),RAdder f w B k i ab[i] j.adders[i]
 pipes:∀i (h:i<j.adders.length),j.adders[i].pipes.length=j.width/\j.adders[i].stopped.length=j.width
theorem Qip{f:Owners}{w:World}{B k jb:Nat}{sb ab:List Nat}{j:JobM}(h:RJob f w B k jb sb ab j):
  Calls Tryz.prog 27 #[.pointer (some ⟨jb,0,none⟩)] w λen w'=>en=.returned (.int .i64 (j.base:Int))/\w'=w:=by
 obtain⟨ve,vs,va,vr,hb,_⟩:=h.box;have c11:w.cell? ⟨jb,11,none⟩=some (.int .i64 (j.base:Int)):=Qad hb 11;clear hb h;go_enter Tryz.func27,Tryz.ntmps27;go_wp2;go_ret;exact⟨rfl,rfl⟩
def accP(j:JobM)(i:Nat):Bool:=j.under && j.barriers && ((j.sorters.take i).all (·.passed) && (j.adders.take i).all (·.passed))
theorem QkX(j:JobM)(i:Nat)(h1:i<j.sorters.length)(h2:i<j.adders.length):accP j (i+1)=(accP j i && j.sorters[i].passed && j.adders[i].passed):=by
 unfold accP;rw[List.take_succ_eq_append_getElem h1,List.take_succ_eq_append_getElem h2,List.all_append,List.all_append];simp only[List.all_cons,List.all_nil,Bool.and_true]
 cases j.under<;>cases j.barriers<;>cases (j.sorters.take i).all (·.passed)<;>cases (j.adders.take i).all (·.passed)<;>cases j.sorters[i].passed<;>cases j.adders[i].passed<;>rfl
theorem QkY(j:JobM)(n:Nat)(h1:j.sorters.length<=n)(h2:j.adders.length<=n):accP j n=j.passedAll:=by
 unfold accP JobM.passedAll;rw[List.take_of_length_le h1,List.take_of_length_le h2]
 cases j.under<;>cases j.barriers<;>simp
theorem RJob.reads{f:Owners}{w:World}{B k jb:Nat}{sb ab:List Nat}{j:JobM}(h:RJob f w B k jb sb ab j):∃ve gs cs' ga ca vr,w.heap[jb]? =some (.cells #[.int .i64 (j.width:Int),.int .i64 (j.room:Int),ve,.int .i64 (j.sent:Int),.slice gs j.width cs',.slice ga j.width ca,.int .i64 (j.number:Int),.bool j.under,.bool j.barriers,.int .i64 (j.off:Int),.bool j.complete,.int .i64 (j.base:Int),vr] 72 (0,0))/\
  (∀i (hi:i<sb.length),∃g,gs=some ⟨g,0,none⟩/\w.cell? ⟨g,i,none⟩=some (.pointer (some ⟨sb[i],0,none⟩)))/\
  (∀i (hi:i<ab.length),∃g,ga=some ⟨g,0,none⟩/\w.cell? ⟨g,i,none⟩=some (.pointer (some ⟨ab[i],0,none⟩))):=by
 obtain⟨ve,vs,va,vr,hb,he,_,hs,_,ha,_,hr,_⟩:=h.box;obtain⟨gs,cs',rfl⟩:=Qaf hs;obtain⟨ga,ca,rfl⟩:=Qaf ha;rw[h.lenS.1]at hs;rw[h.lenA.1]at ha;refine⟨ve,gs,cs',ga,ca,vr,by rw[h.lenS.1,h.lenA.1]at hb;exact hb,λi hi=>?_,λi hi=>?_⟩
 ·rcases Qai hs with⟨_,h0⟩ | ⟨g,rfl⟩
  ·rw[h.lenS.1]at hi;omega
  ·refine⟨g,rfl,(hs.cellAt i (by rw[h.lenS.1]at hi;omega)).trans ?_⟩;rw[List.getElem?_map,List.getElem?_eq_getElem hi]
   rfl
 ·rcases Qai ha with⟨_,h0⟩ | ⟨g,rfl⟩
  ·rw[h.lenA.1]at hi;omega
  ·refine⟨g,rfl,(ha.cellAt i (by rw[h.lenA.1]at hi;omega)).trans ?_⟩;rw[List.getElem?_map,List.getElem?_eq_getElem hi]
   rfl
theorem QbA{f:Owners}{w:World}{B k jb:Nat}{sb ab:List Nat}{j:JobM}(h:RJob f w B k jb sb ab j)(hw:j.width<=4):
  Calls Tryz.prog 78 #[.pointer (some ⟨jb,0,none⟩)] w λen w'=>en=.returned (.bool j.passedAll)/\w'=w:=by
 obtain⟨ve,gs,cs',ga,ca,vr,hb,hS,hA⟩:=h.reads;have c0:w.cell? ⟨jb,0,none⟩=some (.int .i64 (j.width:Int)):=Qad hb 0;have c4:w.cell? ⟨jb,4,none⟩=some (.slice gs j.width cs'):=Qad hb 4;have c5:w.cell? ⟨jb,5,none⟩=some (.slice ga j.width ca):=Qad hb 5;have c7:w.cell? ⟨jb,7,none⟩=some (.bool j.under):=Qad hb 7;have c8:w.cell? ⟨jb,8,none⟩=some (.bool j.barriers):=Qad hb 8;clear hb
 have H:=show Hid (_/\_/\_)from And.intro h (And.intro hS hA)
 clear hS hA h
 have ha0:accP j 0=(j.under && j.barriers):=by unfold accP;simp
 have hfin:accP j j.width=j.passedAll:=QkY j j.width (by rw[H.out.1.lenS.2];exact Nat.le_refl _) (by rw[H.out.1.lenA.2];exact Nat.le_refl _);have Hfin:=hdQ hfin;clear hfin;generalize j.passedAll=fin at Hfin ⊢
 have H0:=show Hid (accP j 0=(j.under && j.barriers))from ha0
 clear ha0;generalize hu:j.under=u at c7 H0;generalize hbr:j.barriers=br at c8 H0;clear hu hbr;go_enter Tryz.func78,Tryz.ntmps78
 have hgo:∀(Q:Prop),(u=true->br=true->Q)->(u=true->br=false->Q)->(u=false->Q)->Q:=λQ h1 h2 h3=>by
  cases u
  ·exact h3 rfl
  ·cases br
   ·exact h2 rfl rfl
   ·exact h1 rfl rfl
 refine hgo _ (λe1 e2=>?_) (λe1 e2=>?_) (λe1=>?_)
 all_goals
  (try subst e1)
  (try subst e2)
  clear hgo;go_wp2
  go_loopw [3,4] (λal i wr=>∃n:Nat,n<=j.width/\i=.int .i64 (n:Int)/\al=.bool (accP j n)/\wr=w) (λ_ i _=>j.width-(intOf i).toNat)
  case atStart=>exact⟨0,Nat.zero_le _,rfl,by rw[H0.out];rfl,rfl⟩
  case round=>
   obtain⟨n,hn,rfl,rfl,rfl⟩:=hrel
   by_cases hnl:n<j.width
   ·have hs1:n<j.sorters.length:=by rw[H.out.1.lenS.2];exact hnl
    have ha1:n<j.adders.length:=by rw[H.out.1.lenA.2];exact hnl
    have hs2:n<sb.length:=by rw[H.out.1.lenS.1];exact hnl
    have ha2:n<ab.length:=by rw[H.out.1.lenA.1];exact hnl
    obtain⟨g1,rfl,d1⟩:=H.out.2.1 n hs2;obtain⟨g2,rfl,d2⟩:=H.out.2.2 n ha2;obtain⟨_,_,_,hsb,_⟩:=H.out.1.sorters n hs2 hs1;obtain⟨_,_,_,_,_,hab,_⟩:=H.out.1.adders n ha2 ha1;have d3:=Qad hsb 4;have d4:=Qad hab 5;have d3':wr.cell? ⟨sb[n],4,none⟩=some (.bool (j.sorters[n].passed)):=d3;have d4':wr.cell? ⟨ab[n],5,none⟩=some (.bool (j.adders[n].passed)):=d4;have hnx:=QkX j n hs1 ha1;have Hnx:=hdQ hnx;clear hnx d3 d4 hsb hab;generalize sb[n]=b1 at d1 d3';generalize ab[n]=b2 at d2 d4';generalize j.sorters[n].passed=p1 at d3' Hnx;generalize j.adders[n].passed=p2 at d4' Hnx;have hni:(n:Int)<(j.width:Int):=omQ;have hn0:(0:Int)<=(n:Int):=omQ;generalize accP j n=al at Hnx ⊢
    have hcase:∀(Q:Prop),(al=false->Q)->(al=true->p1=false->Q)->(al=true->p1=true->Q)->Q:=λQ h1 h2 h3=>by
     cases al
     ·exact h1 rfl
     ·cases p1
      ·exact h2 rfl rfl
      ·exact h3 rfl rfl
    refine hcase _ (λe1=>?_) (λe1 e2=>?_) (λe1 e2=>?_)
    all_goals
     (try subst e1)
     (try subst e2)
     clear hcase;go_wp2
     go_roundw
     case rel=>exact⟨n+1,by omega,by go_num,by rw[Hnx.out];simp,by first | trivial | rfl⟩
     case measure=>simp[intOf];omega
   ·have hnn:n=j.width:=omQ;subst hnn;have hni:¬((j.width:Int)<(j.width:Int)):=omQ;rw[Hfin.out];go_wp2;go_ret;exact⟨rfl,rfl⟩
def jobCells(j:JobM)(ve vs va vr:Value):Array Value:=#[.int .i64 (j.width:Int),.int .i64 (j.room:Int),ve,.int .i64 (j.sent:Int),vs,va,.int .i64 (j.number:Int),.bool j.under,.bool j.barriers,.int .i64 (j.off:Int),.bool j.complete,.int .i64 (j.base:Int),vr]
section
variable {f f':Owners} {w w':World} {B k jb:Nat} {sb ab:List Nat} {j j':JobM}
theorem RJob.putBox(h:RJob f w B k jb sb ab j)(hf:FrmO f (λc=>c=k+1) w w')(hs:Same w.heap.size f f')(hw:j'.width=j.width)(he:j'.events=j.events)(hss:j'.sorters=j.sorters)(haa:j'.adders=j.adders)(hr:j'.rows=j.rows)
  (hb:∀ve vs va vr,w.heap[jb]? =some (.cells (jobCells j ve vs va vr) 72 (0,0))->w'.heap[jb]? =some (.cells (jobCells j' ve vs va vr) 72 (0,0))):RJob f' w' B k jb sb ab j':=by
 obtain⟨ve,vs,va,vr,hbx,he1,oe,hs1,os,ha1,oa,hr1,or'⟩:=h.box;refine⟨(hs jb (Qac hbx)).trans h.own,by rw[hw,hss];exact h.lenS,by rw[hw,haa];exact h.lenA,⟨ve,vs,va,vr,hb ve vs va vr hbx,?_,oe.same hs λg e=>(Qah he1 g e).2,?_,os.same hs λg e=>(Qah hs1 g e).2,?_,oa.same hs λg e=>(Qah ha1 g e).2,?_,or'.same hs λg e=>(Qah hr1 g e).2⟩,λi hi hi'=>?_,λi hi hi'=>?_,λi hi=>?_⟩
 ·rw[he];exact Qaj he1 hf oe omQ
 ·exact Qaj hs1 hf os omQ
 ·exact Qaj ha1 hf oa omQ
 ·rw[hr];exact Qaj hr1 hf or' omQ
 ·have hi2:i<j.sorters.length:=by rw[<-hss];exact hi'
  have:=(h.sorters i hi hi2).frm hf hs omQ omQ omQ;simp only[hss];exact this
 ·have hi2:i<j.adders.length:=by rw[<-haa];exact hi'
  have hpl:=(h.pipes i hi2).1;have:=(h.adders i hi hi2).frm hf hs omQ omQ omQ omQ (λm hm=>by omega);simp only[haa];exact this
 ·have hi2:i<j.adders.length:=by rw[<-haa];exact hi
  simp only[haa,hw];exact h.pipes i hi2
theorem RJob.putS(h:RJob f w B k jb sb ab j)(i:Nat)(hi:i<sb.length)(s':SorterM){S:Nat->Prop}(hS:∀c,S c->c=k+100+i\/c=k+200+i\/c=k+300+i)(hf:FrmO f S w w')(hs:Same w.heap.size f f')(hwid:j.width<=9)(hn:RSorter f' w' B k i sb[i] s'):
  RJob f' w' B k jb sb ab {j with sorters:=j.sorters.set i s'}:=by
 obtain⟨ve,vs,va,vr,hbx,he1,oe,hs1,os,ha1,oa,hr1,or'⟩:=h.box
 have hiw:i<j.width:=by rw[<-h.lenS.1];exact hi
 have no:∀c,c≠k+100+i->c≠k+200+i->c≠k+300+i->¬S c:=λc h1 h2 h3 hc=>by
  rcases hS c hc with e | e | e
  ·exact h1 e
  ·exact h2 e
  ·exact h3 e
 refine⟨(hs jb (Qac hbx)).trans h.own,by simpa using h.lenS,h.lenA,⟨ve,vs,va,vr,Qaq hbx hf h.own (no _ omQ omQ omQ),Qaj he1 hf oe (no _ omQ omQ omQ),oe.same hs λg e=>(Qah he1 g e).2,Qaj hs1 hf os (no _ omQ omQ omQ),os.same hs λg e=>(Qah hs1 g e).2,Qaj ha1 hf oa (no _ omQ omQ omQ),oa.same hs λg e=>(Qah ha1 g e).2,Qaj hr1 hf or' (no _ omQ omQ omQ),or'.same hs λg e=>(Qah hr1 g e).2⟩,λm hm hm'=>?_,λm hm hm'=>?_,h.pipes⟩
 ·by_cases c:m=i
  ·subst c;simp only[List.getElem_set_self];exact hn
  ·simp only[List.getElem_set_ne (λx=>c x.symm)]
   have hm2:m<j.sorters.length:=by simpa using hm'
   have hmw:m<j.width:=by rw[<-h.lenS.1];exact hm
   exact(h.sorters m hm hm2).frm hf hs (no _ omQ omQ omQ) (no _ omQ omQ omQ) (no _ omQ omQ omQ)
 ·have hpl:=(h.pipes m hm').1
  have hmw:m<j.width:=by rw[<-h.lenA.1];exact hm
  exact(h.adders m hm hm').frm hf hs (no _ omQ omQ omQ) (no _ omQ omQ omQ) (no _ omQ omQ omQ) (no _ omQ omQ omQ) (λq hq=>no _ omQ omQ omQ)
theorem RJob.putA(h:RJob f w B k jb sb ab j)(i:Nat)(hi:i<ab.length)(a':AdderM){S:Nat->Prop}(hS:∀c,S c->c=k+400+i\/c=k+500+i\/c=k+600+i\/c=k+700+i\/(k+1000+10*i<=c/\c<k+1010+10*i))(hf:FrmO f S w w')(hs:Same w.heap.size f f')(hwid:j.width<=9)(hn:RAdder f' w' B k i ab[i] a')(hlen:a'.pipes.length=j.width/\a'.stopped.length=j.width):
  RJob f' w' B k jb sb ab {j with adders:=j.adders.set i a'}:=by
 obtain⟨ve,vs,va,vr,hbx,he1,oe,hs1,os,ha1,oa,hr1,or'⟩:=h.box
 have hiw:i<j.width:=by rw[<-h.lenA.1];exact hi
 have no:∀c,c≠k+400+i->c≠k+500+i->c≠k+600+i->c≠k+700+i->¬(k+1000+10*i<=c/\c<k+1010+10*i)->¬S c:=λc h1 h2 h3 h4 h5 hc=>by
  rcases hS c hc with e | e | e | e | e
  ·exact h1 e
  ·exact h2 e
  ·exact h3 e
  ·exact h4 e
  ·exact h5 e
 refine⟨(hs jb (Qac hbx)).trans h.own,h.lenS,by simpa using h.lenA,⟨ve,vs,va,vr,Qaq hbx hf h.own (no _ omQ omQ omQ omQ omQ),Qaj he1 hf oe (no _ omQ omQ omQ omQ omQ),oe.same hs λg e=>(Qah he1 g e).2,Qaj hs1 hf os (no _ omQ omQ omQ omQ omQ),os.same hs λg e=>(Qah hs1 g e).2,Qaj ha1 hf oa (no _ omQ omQ omQ omQ omQ),oa.same hs λg e=>(Qah ha1 g e).2,Qaj hr1 hf or' (no _ omQ omQ omQ omQ omQ),or'.same hs λg e=>(Qah hr1 g e).2⟩,λm hm hm'=>?_,λm hm hm'=>?_,λm hm=>?_⟩
 ·have hmw:m<j.width:=by rw[<-h.lenS.1];exact hm
  exact(h.sorters m hm hm').frm hf hs (no _ omQ omQ omQ omQ omQ) (no _ omQ omQ omQ omQ omQ) (no _ omQ omQ omQ omQ omQ)
 ·have hmw:m<j.width:=by rw[<-h.lenA.1];exact hm
  by_cases c:m=i
  ·subst c;simp only[List.getElem_set_self];exact hn
  ·simp only[List.getElem_set_ne (λx=>c x.symm)]
   have hm2:m<j.adders.length:=by simpa using hm'
   have hpl:=(h.pipes m hm2).1;exact(h.adders m hm hm2).frm hf hs (no _ omQ omQ omQ omQ omQ) (no _ omQ omQ omQ omQ omQ) (no _ omQ omQ omQ omQ omQ) (no _ omQ omQ omQ omQ omQ) (λq hq=>no _ omQ omQ omQ omQ omQ)
 ·by_cases c:m=i
  ·subst c;simp only[List.getElem_set_self];exact hlen
  ·simp only[List.getElem_set_ne (λx=>c x.symm)];exact h.pipes m (by simpa using hm)
theorem RJob.flagS(h:RJob f w B k jb sb ab j)(i:Nat)(hi:i<sb.length)(hi':i<j.sorters.length)(b:Bool)(hwid:j.width<=9):
  RJob f (w.setCell ⟨sb[i],4,none⟩ (.bool b)) B k jb sb ab {j with sorters:=j.sorters.set i {j.sorters[i]with passed:=b}}/\FrmO f (λ_=>True) w (w.setCell ⟨sb[i],4,none⟩ (.bool b)):=by
 obtain⟨ho,vg,vp,hb,hg,og,hp,op⟩:=h.sorters i hi hi'
 have hiw:i<j.width:=by rw[<-h.lenS.1];exact hi
 have hf:FrmO f (λc=>c=k+100+i) w (w.setCell ⟨sb[i],4,none⟩ (.bool b)):=FrmO.of_set (S:=λc=>c=k+100+i) ho rfl _;refine⟨h.putS i hi _ (S:=λc=>c=k+100+i) (λc hc=>.inl hc) hf (Same.refl _ _) hwid ⟨ho,vg,vp,?_,Qaj hg hf og omQ,og,Qbo hp hf op omQ,op⟩,hf.mono λ_ _=>trivial⟩;have:=Qas (j:=4) hb (.bool b);exact this
theorem RJob.flagA(h:RJob f w B k jb sb ab j)(i:Nat)(hi:i<ab.length)(hi':i<j.adders.length)(b:Bool)(hwid:j.width<=9):
  RJob f (w.setCell ⟨ab[i],5,none⟩ (.bool b)) B k jb sb ab {j with adders:=j.adders.set i {j.adders[i]with passed:=b}}/\FrmO f (λ_=>True) w (w.setCell ⟨ab[i],5,none⟩ (.bool b)):=by
 obtain⟨ho,vg,vp,vs,vt,hb,hg,og,hp,op,hq,ht,ot⟩:=h.adders i hi hi'
 have hiw:i<j.width:=by rw[<-h.lenA.1];exact hi
 have hpl:=(h.pipes i hi').1;have hf:FrmO f (λc=>c=k+400+i) w (w.setCell ⟨ab[i],5,none⟩ (.bool b)):=FrmO.of_set (S:=λc=>c=k+400+i) ho rfl _;refine⟨h.putA i hi _ (S:=λc=>c=k+400+i) (λc hc=>.inl hc) hf (Same.refl _ _) hwid ⟨ho,vg,vp,vs,vt,?_,Qaj hg hf og omQ,og,Qaj hp hf op omQ,op,λm hm=>?_,Qaj ht hf ot omQ,ot⟩ (h.pipes i hi'),hf.mono λ_ _=>trivial⟩
 ·have:=Qas (j:=5) hb (.bool b);exact this
 ·obtain⟨v,hv,hqv,ov⟩:=hq m hm;exact⟨v,hv,Qbo hqv hf ov omQ,ov⟩
end
end
section
open Go.RowKit
def firstN{α:Type}(g:α->α)(l:List α)(n:Nat):List α:=(l.take n).map g++l.drop n
theorem Qax{α:Type}(g:α->α)(l:List α)(n:Nat):(firstN g l n).length=l.length:=by
 unfold firstN;simp;omega
theorem Qbe{α:Type}(g:α->α)(l:List α)(n:Nat)(h:n<l.length)(h':n<(firstN g l n).length):(firstN g l n)[n]=l[n]:=by
 have hl:((l.take n).map g).length=n:=by simp;omega
 have:(firstN g l n)[n]? =l[n]? :=by
  unfold firstN;rw[List.getElem?_append_right omQ,hl,Nat.sub_self,List.getElem?_drop,Nat.add_zero]
 rw[List.getElem?_eq_getElem h',List.getElem?_eq_getElem h]at this;exact Option.some.inj this
theorem QaZ{α:Type}(g:α->α)(l:List α)(n:Nat)(h:n<l.length):(firstN g l n).set n (g l[n])=firstN g l (n+1):=by
 have hl:((l.take n).map g).length=n:=by simp;omega
 unfold firstN;rw[List.set_append_right _ _ omQ,hl,Nat.sub_self,List.drop_eq_getElem_cons h,List.set_cons_zero,List.take_succ_eq_append_getElem h,List.map_append,List.append_assoc]
 rfl
theorem Qbf{α:Type}(g:α->α)(l:List α)(n:Nat)(h:l.length<=n):firstN g l n=l.map g:=by
 unfold firstN;rw[List.take_of_length_le h,List.drop_eq_nil_of_le h,List.append_nil]
def unS(s:SorterM):SorterM:={s with passed:=false}
def unA(a:AdderM):AdderM:={a with passed:=false}
def JobM.trig(j:JobM)(n:Nat):JobM:={j with under:=true,barriers:=false,complete:=false,sorters:=firstN unS j.sorters n,adders:=firstN unA j.adders n}
theorem Qav{f:Owners}{w:World}{B k jb:Nat}{sb ab:List Nat}{j:JobM}(h:RJob f w B k jb sb ab j):w.cell? ⟨jb,0,none⟩=some (.int .i64 (j.width:Int))/\(∃gs cs',w.cell? ⟨jb,4,none⟩=some (.slice gs j.width cs')/\∀i (hi:i<sb.length),∃g,gs=some ⟨g,0,none⟩/\w.cell? ⟨g,i,none⟩=some (.pointer (some ⟨sb[i],0,none⟩)))/\
  (∃ga ca,w.cell? ⟨jb,5,none⟩=some (.slice ga j.width ca)/\∀i (hi:i<ab.length),∃g,ga=some ⟨g,0,none⟩/\w.cell? ⟨g,i,none⟩=some (.pointer (some ⟨ab[i],0,none⟩))):=by
 obtain⟨ve,gs,cs',ga,ca,vr,hb,hS,hA⟩:=h.reads;exact⟨Qad hb 0,⟨gs,cs',Qad hb 4,hS⟩,⟨ga,ca,Qad hb 5,hA⟩⟩
theorem Qhq{f:Owners}{w:World}{B k jb:Nat}{sb ab:List Nat}{j:JobM}(h:RJob f w B k jb sb ab j)(hw:j.width<=4)(hn:j.number<4611686018427387904):
  Calls Tryz.prog 24 #[.pointer (some ⟨jb,0,none⟩)] w λen w'=>en=.returned (.tuple #[.int .i64 (j.trigger.1:Int),.int .i64 (j.trigger.2.1:Int)])/\RJob f w' B k jb sb ab j.trigger.2.2/\FrmO f (λ_=>True) w w':=by
 obtain⟨ve,vs,va,vr,hb,_⟩:=h.box;have c7:w.cell? ⟨jb,7,none⟩=some (.bool j.under):=Qad hb 7;unfold JobM.trigger
 by_cases hu:j.under=true
 ·rw[if_pos hu];rw[hu]at c7;have HR:=hdQ h;clear h hb;go_enter Tryz.func24,Tryz.ntmps24;go_wp2
  go_ret2
  exact⟨rfl,HR.out,FrmO.refl _ _ _⟩
 ·rw[if_neg hu]
  have hu':j.under=false:=by simpa using hu
  rw[hu']at c7;have c8:w.cell? ⟨jb,8,none⟩=some (.bool j.barriers):=Qad hb 8;have c10:w.cell? ⟨jb,10,none⟩=some (.bool j.complete):=Qad hb 10;have z7:w.frozen? ⟨jb,7,none⟩=false:=Qab hb 7;have z8:w.frozen? ⟨jb,8,none⟩=false:=Qab hb 8;have z10:w.frozen? ⟨jb,10,none⟩=false:=Qab hb 10
  have hf1:FrmO f (λc=>c=k+1) w (((w.setCell ⟨jb,7,none⟩ (.bool true)).setCell ⟨jb,8,none⟩ (.bool false)).setCell ⟨jb,10,none⟩ (.bool false)):=
   ((FrmO.of_set (S:=λc=>c=k+1) h.own rfl _).trans (Same.refl _ _) (FrmO.of_set (S:=λc=>c=k+1) h.own rfl _)).trans (Same.refl _ _) (FrmO.of_set (S:=λc=>c=k+1) h.own rfl _)
  have hR1:RJob f (((w.setCell ⟨jb,7,none⟩ (.bool true)).setCell ⟨jb,8,none⟩ (.bool false)).setCell ⟨jb,10,none⟩ (.bool false)) B k jb sb ab (j.trig 0):=by
   refine h.putBox hf1 (Same.refl _ _) rfl rfl ?_ ?_ rfl λve vs va vr hbx=>?_
   ·simp[JobM.trig,firstN]
   ·simp[JobM.trig,firstN]
   ·have:=Qas (j:=10) (Qas (j:=8) (Qas (j:=7) hbx (.bool true)) (.bool false)) (.bool false);exact this
  have H1:=show Hid (_/\_)from And.intro hR1 (hf1.mono (T:=λ_=>True) λ_ _=>trivial)
  have hlS:=h.lenS;have hlA:=h.lenA;clear hR1 hf1 h hb;go_enter Tryz.func24,Tryz.ntmps24;go_wp2;clear c7 c8 c10 z7 z8 z10
  go_loopw [4] (λi wr=>∃n:Nat,n<=j.width/\i=.int .i64 (n:Int)/\RJob f wr B k jb sb ab (j.trig n)/\FrmO f (λ_=>True) w wr) (λi _=>j.width-(intOf i).toNat)
  case atStart=>exact⟨0,Nat.zero_le _,rfl,H1.out.1,H1.out.2⟩
  case round=>
   obtain⟨n,hnn,rfl,hR,hF⟩:=hrel;clear H1;obtain⟨c0,⟨gs,cs',c4,hS⟩,⟨ga,ca,c5,hA⟩⟩:=Qav hR;have c0':wr.cell? ⟨jb,0,none⟩=some (.int .i64 (j.width:Int)):=c0;have c4':wr.cell? ⟨jb,4,none⟩=some (.slice gs j.width cs'):=c4;have c5':wr.cell? ⟨jb,5,none⟩=some (.slice ga j.width ca):=c5;clear c0 c4 c5
   by_cases hnl:n<j.width
   ·have hni:(n:Int)<(j.width:Int):=omQ;have hn0:(0:Int)<=(n:Int):=omQ;have hs2:n<sb.length:=omQ;have ha2:n<ab.length:=omQ;obtain⟨g1,rfl,d1⟩:=hS n hs2;obtain⟨g2,rfl,d2⟩:=hA n ha2
    have hs1:n<(j.trig n).sorters.length:=by show n<(firstN unS j.sorters n).length;rw[Qax];omega
    have ha1:n<(j.trig n).adders.length:=by show n<(firstN unA j.adders n).length;rw[Qax];omega
    obtain⟨oS,_,_,hsb,_⟩:=hR.sorters n hs2 hs1;have d3:wr.cell? ⟨sb[n],4,none⟩=some (.bool ((j.trig n).sorters[n]).passed):=Qad hsb 4;have z3:wr.frozen? ⟨sb[n],4,none⟩=false:=Qab hsb 4;obtain⟨hR2,hF2⟩:=hR.flagS n hs2 hs1 false (by show j.width<=9;omega);obtain⟨_,_,⟨ga',ca',c5,hA'⟩⟩:=Qav hR2;have c5w:(wr.setCell ⟨sb[n],4,none⟩ (.bool false)).cell? ⟨jb,5,none⟩=some (.slice ga' j.width ca'):=c5;obtain⟨g2,rfl,d2⟩:=hA' n ha2;obtain⟨oA,_,_,_,_,hab,_⟩:=hR2.adders n ha2 ha1;have d4:(wr.setCell ⟨sb[n],4,none⟩ (.bool false)).cell? ⟨ab[n],5,none⟩=some (.bool ((j.trig n).adders[n]).passed):=Qad hab 5;have z4:(wr.setCell ⟨sb[n],4,none⟩ (.bool false)).frozen? ⟨ab[n],5,none⟩=false:=Qab hab 5;obtain⟨hR3,hF3⟩:=hR2.flagA n ha2 ha1 false (by show j.width<=9;omega);have hs1':n<(firstN unS j.sorters n).length:=hs1;have ha1':n<(firstN unA j.adders n).length:=ha1
    have e1:(firstN unS j.sorters n).set n (unS ((firstN unS j.sorters n)[n]'hs1'))=firstN unS j.sorters (n+1):=by
     rw[Qbe unS j.sorters n omQ];exact QaZ unS j.sorters n omQ
    have e2:(firstN unA j.adders n).set n (unA ((firstN unA j.adders n)[n]'ha1'))=firstN unA j.adders (n+1):=by
     rw[Qbe unA j.adders n omQ];exact QaZ unA j.adders n omQ
    have hR4:RJob f ((wr.setCell ⟨sb[n],4,none⟩ (.bool false)).setCell ⟨ab[n],5,none⟩ (.bool false)) B k jb sb ab (j.trig (n+1)):=by
     have hR3':RJob f ((wr.setCell ⟨sb[n],4,none⟩ (.bool false)).setCell ⟨ab[n],5,none⟩ (.bool false)) B k jb sb ab {j with under:=true,barriers:=false,complete:=false,sorters:=(firstN unS j.sorters n).set n (unS ((firstN unS j.sorters n)[n]'hs1')),adders:=(firstN unA j.adders n).set n (unA ((firstN unA j.adders n)[n]'ha1'))}:=hR3;rw[e1,e2]at hR3';exact hR3'
    have HN:=show Hid (_/\_)from And.intro hR4 ((hF.trans (Same.refl _ _) hF2).trans (Same.refl _ _) hF3)
    clear hR hF hR2 hR3 hR4 hF2 hF3 hsb hab e1 e2 hS hA hA' c5 c5' oS oA;generalize((j.trig n).sorters[n]).passed=p1 at d3;generalize((j.trig n).adders[n]).passed=p2 at d4
    obtain⟨b1,hb1⟩:∃b1,sb[n]=b1:=⟨_,rfl⟩
    obtain⟨b2,hb2⟩:∃b2,ab[n]=b2:=⟨_,rfl⟩
    rw[hb1]at d1 d3 z3 c5w d2 d4 z4 HN;rw[hb2]at d2 d4 z4 HN;clear hb1 hb2;go_wp2
    go_roundw
    case rel=>exact⟨n+1,by omega,by go_num,HN.out.1,HN.out.2⟩
    case measure=>simp[intOf];omega
   ·have hni:¬(n:Int)<(j.width:Int):=omQ;have hne:n=j.width:=omQ;obtain⟨ve,vs,va,vr,hbx,_⟩:=hR.box;have c6:wr.cell? ⟨jb,6,none⟩=some (.int .i64 (j.number:Int)):=Qad hbx 6;have z6:wr.frozen? ⟨jb,6,none⟩=false:=Qab hbx 6;have hsl:firstN unS j.sorters n=j.sorters.map unS:=Qbf unS j.sorters n omQ;have hal:firstN unA j.adders n=j.adders.map unA:=Qbf unA j.adders n omQ;have hf2:FrmO f (λc=>c=k+1) wr (wr.setCell ⟨jb,6,none⟩ (.int .i64 ((j.number:Int)+1))):=FrmO.of_set (S:=λc=>c=k+1) hR.own rfl _
    have hR2:RJob f (wr.setCell ⟨jb,6,none⟩ (.int .i64 ((j.number:Int)+1))) B k jb sb ab {j with under:=true,barriers:=false,complete:=false,sorters:=j.sorters.map (λs=>{s with passed:=false}),adders:=j.adders.map (λa=>{a with passed:=false}),number:=j.number+1}:=by
     refine hR.putBox hf2 (Same.refl _ _) rfl rfl hsl.symm hal.symm rfl λve vs va vr hbx=>?_
     have:=Qas (j:=6) hbx (.int .i64 ((j.number:Int)+1));exact this
    have HN:=show Hid (_/\_)from And.intro hR2 (hF.trans (Same.refl _ _) (hf2.mono (T:=λ_=>True) λ_ _=>trivial))
    clear hR hF hR2 hf2 hbx hS hA hsl hal c4' c5' hne;have hnum:((j.number+1:Nat):Int)=(j.number:Int)+1:=omQ;go_wp2
    go_ret2
    exact⟨rfl,HN.out.1,HN.out.2⟩
theorem Tryz.infoIntQ:(Tryz.prog.info? 3).map (λi=>(i.zero,i.size,i.bytes))=some (some (.int .i64 0),1,8):=by kernel_rfl
theorem Qek(w:World)(x:Int):(w.alloc (.cells #[.int .i64 x] 3)).ownsRow w.heap.size 3 1 (.slice (some ⟨w.heap.size,0,none⟩) 1 1) 1 [.int .i64 x]:=
 ⟨rfl,.inr ⟨w.heap.size,1,_,rfl,Nat.le_refl _,heap_alloc_new w _,Nat.le_refl _,by decide,by simp,by simp⟩⟩
def QGive(w:World)(l:List Int)(e:Nat)(en:Ending)(w':World):Prop:=∃v,en=.returned (.tuple #[v,.int .i64 (e:Int)])/\w'.ownsRow w.heap.size 3 1 v l.length (l.map (Value.int .i64))/\Below w.heap.size w w'
section
variable {f:Owners} {w:World} {B k jb:Nat} {sb ab:List Nat} {j:JobM}
theorem Qiq(h:RJob f w B k jb sb ab j)(hw:j.width<=4)(t:Int)(ht:t<0\/2*(j.width:Int)+1<t):
  Calls Tryz.prog 51 #[.pointer (some ⟨jb,0,none⟩),.int .i64 t] w λen w'=>QGive w [] 7 en w':=by
 have HP:=show Hid _ from λ(_:Unit)=>QbA h hw
 have c0:=(Qav h).1;clear h;generalize j.passedAll=p at HP;go_enter Tryz.func51,Tryz.ntmps51
 rcases ht with ht | ht
 ·have h1:t<0:=ht
  go_wp2_with(go_at_call 78;refine(HP.out ()).mono ?_;rintro en w1 ⟨rfl,rfl⟩)
  go_ret2
  exact⟨_,rfl,World.ownsRow_nil _ _ _ _,Below.refl _ _⟩
 ·have h1:¬t<0:=omQ
  go_wp2_with(go_at_call 78;refine(HP.out ()).mono ?_;rintro en w1 ⟨rfl,rfl⟩)
  go_ret2
  exact⟨_,rfl,World.ownsRow_nil _ _ _ _,Below.refl _ _⟩
theorem Qgr(h:RJob f w B k jb sb ab j)(hw:1<=j.width/\j.width<=4)(t:Int)(ht:t=2*(j.width:Int)+1):
  Calls Tryz.prog 51 #[.pointer (some ⟨jb,0,none⟩),.int .i64 t] w λen w'=>QGive w [if j.passedAll then 1 else 0] 0 en w':=by
 have HP:=show Hid _ from λ(_:Unit)=>QbA h hw.2
 have c0:=(Qav h).1;clear h;have h1:¬t<0:=omQ;have h2:¬2*(j.width:Int)+1<t:=omQ
 have h3:(t==0)=false:=by rw[beq_eq_false_iff_ne];omega
 have h4:¬t<=(j.width:Int):=omQ;have h5:¬t<=2*(j.width:Int):=omQ;clear ht
 cases hp:j.passedAll with
 | true=>
  rw[hp]at HP;go_enter Tryz.func51,Tryz.ntmps51
  go_wp2_with(go_at_call 78;refine(HP.out ()).mono ?_;rintro en w1 ⟨rfl,rfl⟩)
  go_ret2
  exact⟨_,rfl,Qek _ 1,(Below.refl _ _).alloc (Nat.le_refl _) _⟩
 | false=>
  rw[hp]at HP;go_enter Tryz.func51,Tryz.ntmps51
  go_wp2_with(go_at_call 78;refine(HP.out ()).mono ?_;rintro en w1 ⟨rfl,rfl⟩)
  go_ret2
  exact⟨_,rfl,Qek _ 0,(Below.refl _ _).alloc (Nat.le_refl _) _⟩
theorem Qgs(h:RJob f w B k jb sb ab j)(hw:1<=j.width/\j.width<=4)(i:Nat)(hi:i<j.width)(hs:i<j.sorters.length):
  Calls Tryz.prog 51 #[.pointer (some ⟨jb,0,none⟩),.int .i64 ((i:Int)+1)] w λen w'=>QGive w [((j.sorters[i]).pipe.length:Int)] 0 en w':=by
 have HP:=show Hid _ from λ(_:Unit)=>QbA h hw.2
 obtain⟨c0,⟨gs,cs',c4,hS⟩,_⟩:=Qav h
 have hi2:i<sb.length:=by rw[h.lenS.1];exact hi
 obtain⟨g1,rfl,d1⟩:=hS i hi2;obtain⟨_,vg,vp,hsb,_,_,hq,_⟩:=h.sorters i hi2 hs;obtain⟨qa,qc,rfl⟩:=hq.shape;have d2:w.cell? ⟨sb[i],1,none⟩=some (.slice qa (j.sorters[i]).pipe.length qc):=Qad hsb 1;clear h hS hsb hq;generalize(j.sorters[i]).pipe.length=n at d2 ⊢;generalize sb[i]=b1 at d1 d2;generalize j.passedAll=p at HP;have h1:¬((i:Int)+1<0):=omQ;have h2:¬2*(j.width:Int)+1<(i:Int)+1:=omQ
 have h3:(((i:Int)+1)==0)=false:=by rw[beq_eq_false_iff_ne];omega
 have h4:(i:Int)+1<=(j.width:Int):=omQ;have h6:(i:Int)<(j.width:Int):=omQ;have h7:(0:Int)<=(i:Int):=omQ;go_enter Tryz.func51,Tryz.ntmps51
 go_wp2_with(go_at_call 78;refine(HP.out ()).mono ?_;rintro en w1 ⟨rfl,rfl⟩)
 go_ret2
 exact⟨_,rfl,Qek _ _,(Below.refl _ _).alloc (Nat.le_refl _) _⟩
end
end
section
open Go.RowKit
section
variable {f:Owners} {w:World} {B k jb:Nat} {sb ab:List Nat} {j:JobM}
theorem Qgt(h:RJob f w B k jb sb ab j)(hw:1<=j.width/\j.width<=4)(hs:j.sent<=j.events.length)(hE:j.events.length<=400):
  Calls Tryz.prog 51 #[.pointer (some ⟨jb,0,none⟩),.int .i64 0] w λen w'=>QGive w [(j.events.length:Int)-(j.sent:Int)] 0 en w':=by
 have HP:=show Hid _ from λ(_:Unit)=>QbA h hw.2
 obtain⟨ve,vs,va,vr,hb,he,_⟩:=h.box;obtain⟨ea,ec,rfl⟩:=Qaf he;have c0:=(Qav h).1;have c2:w.drew.cell? ⟨jb,2,none⟩=some (.slice ea j.events.length ec):=Qad hb 2;have c3:w.drew.cell? ⟨jb,3,none⟩=some (.int .i64 (j.sent:Int)):=Qad hb 3;clear h hb he;generalize j.passedAll=p at HP;generalize j.events.length=N at *;generalize j.sent=sn at *;generalize j.width=W at *;have h2:¬2*(W:Int)+1<0:=omQ;go_enter Tryz.func51,Tryz.ntmps51
 go_wp2_with(go_at_call 78;refine(HP.out ()).mono ?_;rintro en w1 ⟨rfl,rfl⟩)
 have hS0:w1.drew.cell? ⟨jb,2,none⟩=some (.slice ea N ec)/\w1.drew.cell? ⟨jb,3,none⟩=some (.int .i64 (sn:Int)):=⟨c2,c3⟩
 have Hb:=show Hid _ from(Below.refl w1.heap.size w1).drew
 have hsz:w1.drew.heap.size=w1.heap.size:=rfl;refine wp_region_held_drew (S:=λw':World=>w'.cell? ⟨jb,2,none⟩=some (.slice ea N ec)/\w'.cell? ⟨jb,3,none⟩=some (.int .i64 (sn:Int))) krQ hS0 (λhH=>?_);clear c0 c2 c3;refine tkQ 0 (.pointer (some ⟨jb,0,none⟩)) hH ?_;refine tkQ 1 (.pointer (some ⟨jb,0,none⟩)) hH ?_;refine tkQ 2 (.pointer (some ⟨jb,2,none⟩)) hH ?_;refine tlQ 3 (.slice ea N ec) rfl (by intro v hSw;have s0:=hSw.1;clear hSw;go_simp) hH ?_;refine tkQ 4 (.int .i64 (N:Int)) hH ?_;refine tkQ 5 (.pointer (some ⟨jb,0,none⟩)) hH ?_;refine tkQ 6 (.pointer (some ⟨jb,0,none⟩)) hH ?_;refine tkQ 7 (.pointer (some ⟨jb,3,none⟩)) hH ?_;refine tlQ 8 (.int .i64 (sn:Int)) rfl (by intro v hSw;have s0:=hSw.2;clear hSw;go_simp) hH ?_;refine tlQ 9 (.int .i64 ((N:Int)-(sn:Int))) rfl (by intro v hSw;clear hSw;go_simp;first | done | (rw[IntWalk.i64_in _ ⟨by omega,by omega⟩])) hH ?_;refine rdQ [10] ?_
 refine arQ λK hK=>?_
 clear hH;go_simp;have hbA:=(Below.refl w1.drew.heap.size w1.drew).alloc (Nat.le_refl _) (.cells #[.int .i64 ((N:Int)-(sn:Int))] 3)
 have hjl:jb<w1.drew.heap.size:=by
  apply Classical.byContradiction;intro hn;have hnone:w1.drew.heap[jb]? =none:=Array.getElem?_eq_none omQ;have:=hS0.1;simp[World.cell?,hnone]at this
 refine hK.out _ _ ⟨(hbA.cell (p:=⟨jb,2,none⟩) hjl).trans hS0.1,(hbA.cell (p:=⟨jb,3,none⟩) hjl).trans hS0.2⟩ (λhH=>?_);clear hK K;refine tkQ 11 (.slice (some ⟨w1.heap.size,0,none⟩) 1 1) hH ?_;refine tkQ 12 (.int .i64 0) hH ?_;clear hH;refine wpAnyH_done krQ ?_ _;go_wp2
 go_ret2
 exact⟨_,rfl,Qek w1.drew _,Hb.out.alloc (Nat.le_refl _) _⟩
end
end
section
open Go.RowKit
theorem Qan{w:World}{b o:Nat}{v:Value}(h:w.cell? ⟨b,o,none⟩=some v):b<w.heap.size:=by
 apply Classical.byContradiction;intro hn;have hnone:w.heap[b]? =none:=Array.getElem?_eq_none omQ;simp[World.cell?,hnone]at h
section
variable {f:Owners} {w:World} {B k jb:Nat} {sb ab:List Nat} {j:JobM}
theorem Qhr(h:RJob f w B k jb sb ab j)(hw:1<=j.width/\j.width<=4)(i:Nat)(hi:i<j.width)(ha:i<j.adders.length):
  Calls Tryz.prog 51 #[.pointer (some ⟨jb,0,none⟩),.int .i64 ((j.width:Int)+1+(i:Int))] w λen w'=>QGive w ((j.adders[i]).pipes.map λp=>(p.length:Int)) 0 en w':=by
 have HP:=show Hid _ from λ(_:Unit)=>QbA h hw.2
 obtain⟨c0,_,⟨ga,ca,c5,hA⟩⟩:=Qav h
 have hi2:i<ab.length:=by rw[h.lenA.1];exact hi
 obtain⟨g2,rfl,d2⟩:=hA i hi2;obtain⟨_,vg,vp,vs,vt,hab,_,_,hpp,_,hq,_,_⟩:=h.adders i hi2 ha;obtain⟨pa,pc,rfl⟩:=Qaf hpp;have hpl:=(h.pipes i ha).1
 rcases Qai hpp with⟨_,h0⟩ | ⟨gp,rfl⟩
 ·omega
 have d3:w.cell? ⟨ab[i],1,none⟩=some (.slice (some ⟨gp,0,none⟩) (j.adders[i]).pipes.length pc):=Qad hab 1;rw[hpl]at d3
 have hrow:∀m (hm:m<(j.adders[i]).pipes.length),∃qa qc,w.cell? ⟨gp,m,none⟩=some (.slice qa ((j.adders[i]).pipes[m]).length qc):=λm hm=>by
  obtain⟨v,hv,hqv,_⟩:=hq m hm;obtain⟨qa,qc,rfl⟩:=hqv.shape;exact⟨qa,qc,(hpp.cellAt m omQ).trans hv⟩
 obtain⟨i0,hi0,hz0,hz1,hz2⟩:=info_parts Tryz.infoIntQ;have l0:=Qan c0;have l2:=Qan d2;have l3:=Qan d3;clear h hA hab hpp hq;generalize ab[i]=b2 at d2 d3 l3;generalize(j.adders[i]).pipes=ps at hpl hrow ⊢;generalize j.passedAll=p at HP;have Hrow:=hdQ hrow;clear hrow;generalize j.width=W at *;have h1:¬((W:Int)+1+(i:Int)<0):=omQ;have h2:¬2*(W:Int)+1<(W:Int)+1+(i:Int):=omQ
 have h3:(((W:Int)+1+(i:Int))==0)=false:=by rw[beq_eq_false_iff_ne];omega
 have h4:¬(W:Int)+1+(i:Int)<=(W:Int):=omQ;have h5:(W:Int)+1+(i:Int)<=2*(W:Int):=omQ;have h6:(i:Int)<(W:Int):=omQ;have h7:(0:Int)<=(i:Int):=omQ;go_enter Tryz.func51,Tryz.ntmps51
 go_wp2_with(go_at_call 78;refine(HP.out ()).mono ?_;rintro en w1 ⟨rfl,rfl⟩)
 go_loopw [7,8] (λl iv wr=>∃n:Nat,n<=W/\iv=.int .i64 (n:Int)/\wr.ownsRow w1.heap.size 3 1 l n ((ps.take n).map λp=>Value.int .i64 (p.length:Int))/\Below w1.heap.size w1 wr) (λ_ iv _=>W-(intOf iv).toNat)
 case atStart=>exact⟨0,Nat.zero_le _,rfl,World.ownsRow_nil _ _ _ _,Below.refl _ _⟩
 case round=>
  obtain⟨n,hn,rfl,hown,hbn⟩:=hrel;have c0':=(hbn.cell (p:=⟨jb,0,none⟩) l0).trans c0
  by_cases hnl:n<W
  ·have hni:(n:Int)<(W:Int):=omQ;have hn0:(0:Int)<=(n:Int):=omQ;obtain⟨qa,qc,d4⟩:=Hrow.out n omQ;have l4:=Qan d4;obtain⟨la,lc,rfl⟩:=Qaf hown
   have hnx:(ps.take (n+1)).map (λp=>Value.int .i64 (p.length:Int))=(ps.take n).map (λp=>Value.int .i64 (p.length:Int))++[.int .i64 ((ps[n]'omQ).length:Int)]:=by
    rw[List.take_succ_eq_append_getElem omQ,List.map_append]
    rfl
   have Hnx:=hdQ hnx;clear hnx;generalize(ps[n]'omQ).length=ln at d4 Hnx;generalize(ps.take n).map (λp=>Value.int .i64 (p.length:Int))=xs at hown Hnx
   have HO:=show Hid (_/\_)from And.intro (show wr.drew.ownsRow w1.heap.size 3 1 (.slice la n lc) n xs from hown) hbn.drew
   clear hown hbn;go_wp2;clear c0';refine wp_region_held_drew (S:=λw':World=>Below w1.heap.size w1 w') krQ HO.out.2 (λhH=>?_);generalize wr.drew=wd at HO hH ⊢;refine tkQ 0 (.slice la n lc) hH ?_;refine tkQ 1 (.pointer (some ⟨jb,0,none⟩)) hH ?_;refine tkQ 2 (.pointer (some ⟨jb,0,none⟩)) hH ?_;refine tkQ 3 (.pointer (some ⟨jb,5,none⟩)) hH ?_;refine tlQ 4 (.slice (some ⟨g2,0,none⟩) W ca) rfl (by intro v hSw;have s0:=(hSw.cell (p:=⟨jb,5,none⟩) l0).trans c5;clear hSw;go_simp) hH ?_;refine tkQ 5 (.int .i64 ((W:Int)+1+(i:Int))) hH ?_;refine tkQ 6 (.pointer (some ⟨jb,0,none⟩)) hH ?_;refine tkQ 7 (.pointer (some ⟨jb,0,none⟩)) hH ?_;refine tkQ 8 (.pointer (some ⟨jb,0,none⟩)) hH ?_;refine tlQ 9 (.int .i64 (W:Int)) rfl (by intro v hSw;have s0:=(hSw.cell (p:=⟨jb,0,none⟩) l0).trans c0;clear hSw;go_simp) hH ?_;refine tlQ 10 (.int .i64 ((i:Int)+1)) rfl (by intro v hSw;clear hSw;go_simp;first | done | (rw[IntWalk.i64_in _ ⟨by omega,by omega⟩];first | done | (congr 2;omega)) | (congr 2;omega)) hH ?_;refine tlQ 11 (.int .i64 (i:Int)) rfl (by intro v hSw;clear hSw;go_simp;first | done | (rw[IntWalk.i64_in _ ⟨by omega,by omega⟩];first | done | (congr 2;omega)) | (congr 2;omega)) hH ?_;refine tkQ 12 (.pointer (some ⟨g2,i,none⟩)) hH ?_;refine tlQ 13 (.pointer (some ⟨b2,0,none⟩)) rfl (by intro v hSw;have s0:=(hSw.cell (p:=⟨g2,i,none⟩) l2).trans d2;clear hSw;go_simp) hH ?_;refine tkQ 14 (.pointer (some ⟨b2,0,none⟩)) hH ?_;refine tkQ 15 (.pointer (some ⟨b2,1,none⟩)) hH ?_;refine tlQ 16 (.slice (some ⟨gp,0,none⟩) W pc) rfl (by intro v hSw;have s0:=(hSw.cell (p:=⟨b2,1,none⟩) l3).trans d3;clear hSw;go_simp) hH ?_;refine tkQ 17 (.int .i64 (n:Int)) hH ?_;refine tkQ 18 (.pointer (some ⟨gp,n,none⟩)) hH ?_;refine tlQ 19 (.slice qa ln qc) rfl (by intro v hSw;have s0:=(hSw.cell (p:=⟨gp,n,none⟩) l4).trans d4;clear hSw;go_simp) hH ?_;refine tkQ 20 (.int .i64 (ln:Int)) hH ?_;refine rdQ [21] ?_
   refine arQ λK hK=>?_
   clear hH;go_simp;refine hK.out _ _ (HO.out.2.alloc HO.out.2.size _) (λhH=>?_);clear hK K;refine rdQ [22] ?_
   refine arQ λK hK=>?_
   refine QaM rfl ?_;refine Qau _ (.tmp 74) (.tmp 95) 32 rfl w1.heap.size 3 i0 (.int .i64 0) 1 8 Tryz.underlying32 hi0 hz0 hz1 hz2 rfl (by decide) (.slice la n lc) n xs rfl (HO.out.1.alloc _) ⟨wd.heap.size,0,none⟩ 1 1 [.int .i64 (ln:Int)] rfl rfl (cell_one_new wd _ _) (λu hu=>by simp at hu;subst hu;rfl) (by unfold maxLen;omega) (by omega) (by have:=HO.out.2.size;simp;omega) (by decide) ?_;intro v3 w5 hown3 hfr3;have hgr:=Qat hfr3;have hb5:Below w1.heap.size w1 w5:=(HO.out.2.alloc HO.out.2.size (.cells #[.int .i64 (ln:Int)] 3)).grown hgr (by have:=HO.out.2.size;simp;omega) (λq hq=>(Qah HO.out.1 q hq).1);refine hK.out _ _ hb5 (λhH=>?_);clear hK K hfr3 hgr;refine tkQ 23 v3 hH ?_;clear hH;refine wpAnyH_done krQ ?_ _
   have HF:=show Hid (_/\_)from And.intro hown3 hb5
   clear hown3 hb5 HO;go_wp2
   go_roundw
   case rel=>exact⟨n+1,by omega,by go_num,by rw[Hnx.out];exact HF.out.1,HF.out.2⟩
   case measure=>simp[intOf];omega
  ·have hni:¬(n:Int)<(W:Int):=omQ;have hnn:n=W:=omQ;obtain⟨la,lc,rfl⟩:=Qaf hown
   have HF:=show Hid (wr.ownsRow w1.heap.size 3 1 (.slice la n lc) ps.length (ps.map λp=>Value.int .i64 (p.length:Int))/\Below w1.heap.size w1 wr)from⟨by
    have h:=hown;rw[List.take_of_length_le omQ]at h;rw[show ps.length=n from by omega]
    exact h,hbn⟩
   clear hown hbn hnn;go_wp2
   go_ret2
   refine⟨_,rfl,?_,HF.out.2⟩;rw[List.length_map,List.map_map];have:=HF.out.1;exact this
end
end
section
open Go.RowKit
theorem QjO{f:Owners}{w:World}{B k jb:Nat}{sb ab:List Nat}{j:JobM}(h:RJob f w B k jb sb ab j)(hf:FlowOk j)(hw:1<=j.width/\j.width<=4)(hE:j.events.length<=400)(t:Int):
  Calls Tryz.prog 51 #[.pointer (some ⟨jb,0,none⟩),.int .i64 t] w λen w'=>QGive w (j.queue t).1 (j.queue t).2 en w':=by
 unfold JobM.queue
 by_cases h1:t<0\/2*(j.width:Int)+1<t
 ·rw[if_pos h1];exact Qiq h hw.2 t h1
 ·rw[if_neg h1]
  by_cases h2:t=0
  ·subst h2;rw[if_pos rfl];exact Qgt h hw hf.sent hE
  ·rw[if_neg h2]
   by_cases h3:t<=(j.width:Int)
   ·rw[if_pos h3]
    obtain⟨i,rfl⟩:∃i:Nat,t=(i:Int)+1:=⟨(t-1).toNat,by omega⟩
    have hi:i<j.width:=omQ
    have hs:i<j.sorters.length:=by rw[hf.lenS];exact hi
    rw[show((i:Int)+1-1).toNat=i from by omega,List.getD_eq_getElem?_getD,List.getElem?_eq_getElem hs,Option.getD_some];exact Qgs h hw i hi hs
   ·rw[if_neg h3]
    by_cases h4:t<=2*(j.width:Int)
    ·rw[if_pos h4]
     obtain⟨i,rfl⟩:∃i:Nat,t=(j.width:Int)+1+(i:Int):=⟨(t-(j.width:Int)-1).toNat,by omega⟩
     have hi:i<j.width:=omQ
     have ha:i<j.adders.length:=by rw[hf.lenA];exact hi
     rw[show((j.width:Int)+1+(i:Int)-(j.width:Int)-1).toNat=i from by omega,List.getD_eq_getElem?_getD,List.getElem?_eq_getElem ha,Option.getD_some];exact Qhr h hw i hi ha
    ·rw[if_neg h4];have:=Qgr h hw t omQ
     cases hp:j.passedAll with
     | true=>rw[hp]at this;exact this
     | false=>rw[hp]at this;exact this
end
end Go.Proofs.YthccpacmklhejabGreatDoor
