import Derived.Test.YthccpacmklhejabGreatDoorTk
import Derived.Test.YthccpacmklhejabGreatDoorK29
import Derived.Test.YthccpacmklhejabGreatDoorK25
import Derived.Test.YthccpacmklhejabGreatDoorK20
import Derived.Test.YthccpacmklhejabGreatDoorK28
set_option maxHeartbeats 2000000
set_option maxRecDepth 100000
namespace Go.Proofs.YthccpacmklhejabGreatDoor
section
open Go.RowKit
theorem QcW(a b:List ChgM):chgCells (a++b)=chgCells a++chgCells b:=by simp[chgCells]
theorem Qef(c:ChgM):chgCells [c]=chgCells1 c:=by simp[chgCells]
theorem AppQ.owner{f:Owners}{w wa w5:World}{vp v':Value}{c:Nat}(happ:AppQ wa w5 vp v')(hba:Below w.heap.size w wa)(op:IsOf f c vp):∃f':Owners,Same w.heap.size f f'/\IsOf f' c v':=by
 rcases happ with⟨h1,h2⟩ | ⟨h1,h2,h3⟩
 ·refine⟨f.put wa.heap.size c,λg hg=>Owners.put_same f wa.heap.size c g (Nat.lt_of_lt_of_le hg hba.size),λg hg=>?_⟩;rw[h2]at hg;simp only[Option.some.injEq]at hg;rw[<-hg];exact Owners.put_self _ _ _
 ·exact⟨f,Same.refl _ _,λg hg=>op g (by rw[<-h2];exact hg)⟩
section
variable {f:Owners} {w:World} {B k jb:Nat} {sb ab:List Nat} {j:JobM}
def WayA(w:World)(jb g2 ca W b2 m gp pc:Nat):Prop:=w.cell? ⟨jb,5,none⟩=some (.slice (some ⟨g2,0,none⟩) W ca)/\w.cell? ⟨g2,m,none⟩=some (.pointer (some ⟨b2,0,none⟩))/\w.cell? ⟨b2,1,none⟩=some (.slice (some ⟨gp,0,none⟩) W pc)
theorem RJob.pipeA(h:RJob f w B k jb sb ab j)(m:Nat)(hm:m<ab.length)(hm':m<j.adders.length)(i:Nat)(hi:i<(j.adders[m]).pipes.length)(hwid:j.width<=9):
  ∃g2 ca gp pc v,WayA w jb g2 ca j.width ab[m] m gp pc/\w.cell? ⟨gp,i,none⟩=some v/\w.frozen? ⟨gp,i,none⟩=false/\qRow w B 151 4 v ((j.adders[m]).pipes[i]).length (chgCells ((j.adders[m]).pipes[i]))/\
   (∀wa v' w5 (c:ChgM),Below w.heap.size w wa->qRow w5 B 151 4 v' (((j.adders[m]).pipes[i]).length+1) (chgCells ((j.adders[m]).pipes[i])++chgCells1 c)->AppQ wa w5 v v'->
    w5.cell? ⟨gp,i,none⟩=some v/\w5.frozen? ⟨gp,i,none⟩=false/\WayA w5 jb g2 ca j.width ab[m] m gp pc/\WayA (w5.setCell ⟨gp,i,none⟩ v') jb g2 ca j.width ab[m] m gp pc/\
    RAfter f w B k jb sb ab {j with adders:=j.adders.set m ((j.adders[m]).push i c)} (w5.setCell ⟨gp,i,none⟩ v')):=by
 obtain⟨ve,vs0,va,vr,hbx,_,_,_,_,ha,oa,_⟩:=h.box;obtain⟨ga,ca,rfl⟩:=Qaf ha;obtain⟨ho,vg,vp,vs,vt,hb,hg,og,hp,op,hq,ht,ot⟩:=h.adders m hm hm';obtain⟨pa,pc,rfl⟩:=Qaf hp;have hpl:=(h.pipes m hm').1;have hal:=h.lenA.1;have hmw:m<j.width:=omQ
 rcases Qai ha with⟨_,h0⟩ | ⟨g2,rfl⟩
 ·omega
 rcases Qai hp with⟨_,h0⟩ | ⟨gp,rfl⟩
 ·omega
 obtain⟨v,hv,hqv,ov⟩:=hq i hi
 have one:∀ {w':World},w'.ownsRow B 76 1 (.slice (some ⟨g2,0,none⟩) ab.length ca) ab.length (ab.map λb=>.pointer (some ⟨b,0,none⟩))->w'.cell? ⟨g2,m,none⟩=some (.pointer (some ⟨ab[m],0,none⟩)):=λhh=>by
  refine(hh.cellAt m omQ).trans ?_;rw[List.getElem?_map,List.getElem?_eq_getElem hm]
  rfl
 have way:∀ {S:Nat->Prop} {w':World},FrmO f S w w'->¬S (k+1)->¬S (k+3)->¬S (k+400+m)->WayA w' jb g2 ca j.width ab[m] m gp pc:=λhf h1 h2 h3=>by
  refine⟨?_,one (Qaj ha hf oa h2),?_⟩
  ·have:=Qad (Qaq hbx hf h.own h1) 5;rw[<-hal];exact this
  ·have:=Qad (Qaq hb hf ho h3) 1;rw[<-hpl];exact this
 have ogp:f gp=some (k+600+m):=op gp rfl;refine⟨g2,ca,gp,pc,v,way (FrmO.refl f (λ_=>False) w) id id id,(hp.cellAt i omQ).trans hv,hp.frozenAt i,hqv,λwa v' w5 c hba hq5 happ=>?_⟩;have hf5:FrmO f (λc=>c=k+1000+10*m+i) w w5:=(FrmO.of_below hba).trans (Same.refl _ _) (happ.frm ov);have hp5:=Qaj hp hf5 op omQ;obtain⟨f',hs',hv'⟩:=happ.owner hba ov
 have hne:v'.ownBlock≠some gp:=λe=>by
  obtain⟨_,cur,hc⟩:=hq5.lt _ e;obtain⟨cur2,hc2⟩:=QbV hp5;rw[hc2]at hc;simp only[Option.some.injEq,Obj.cells.injEq]at hc;have:=hc.2.1;exact absurd this (by decide)
 have hf6:FrmO f (λc=>c=k+600+m\/c=k+1000+10*m+i) w (w5.setCell ⟨gp,i,none⟩ v'):=
  (hf5.mono λ_ hc=>.inr hc).trans (Same.refl _ _) (FrmO.of_set (S:=λc=>c=k+600+m\/c=k+1000+10*m+i) ogp (.inl rfl) _)
 refine⟨(hp5.cellAt i omQ).trans hv,hp5.frozenAt i,way hf5 omQ omQ omQ,way hf6 omQ omQ omQ,f',?_,hf6.mono λ_ _=>trivial,hs'⟩
 have hlen:((j.adders[m]).push i c).pipes.length=(j.adders[m]).pipes.length:=by simp[AdderM.push]
 have hst:(w5.setCell ⟨gp,i,none⟩ v').ownsRow B 79 1 (.slice (some ⟨gp,0,none⟩) (j.adders[m]).pipes.length pc) (j.adders[m]).pipes.length (vs.set i v'):=(hp5.stored i v').1;refine h.putA m hm _ (S:=λc=>c=k+600+m\/c=k+1000+10*m+i) (λc hc=>hc.elim (λe=>.inr (.inr (.inl e))) λe=>.inr (.inr (.inr (.inr omQ)))) hf6 hs' hwid ⟨(hs' _ (Qac hb)).trans ho,vg,_,vs.set i v',vt,Qaq hb hf6 ho omQ,Qaj hg hf6 og omQ,og.same hs' λg e=>(Qah hg g e).2,?_,op.same hs' λg e=>(Qah hp g e).2,λn hn=>?_,Qaj ht hf6 ot omQ,ot.same hs' λg e=>(Qah ht g e).2⟩ ⟨by rw[hlen];exact hpl,(h.pipes m hm').2⟩
 ·rw[hlen];exact hst
 ·have hn':n<(j.adders[m]).pipes.length:=by rw[hlen]at hn;exact hn
  have hvs:vs.length=(j.adders[m]).pipes.length:=by have:=hp.1;omega
  by_cases e:n=i
  ·subst e;refine⟨v',by rw[List.getElem?_set_self omQ],?_,hv'⟩;have hq6:=hq5.kept (Qak w5 gp n v') (λg hg e=>by simp only[Option.some.injEq]at e;exact hne (e ▸ hg))
   have hx:((j.adders[m]).push n c).pipes[n]=(j.adders[m]).pipes[n]++[c]:=by simp[AdderM.push]
   rw[hx,List.length_append,QcW,Qef];exact hq6
  ·obtain⟨v2,hv2,hqv2,ov2⟩:=hq n hn';refine⟨v2,by rw[List.getElem?_set_ne (λx=>e x.symm)];exact hv2,?_,ov2.same hs' (q_lt hqv2)⟩;have hx:((j.adders[m]).push i c).pipes[n]=(j.adders[m]).pipes[n]:=(List.getElem_modify (·++[c]) i (j.adders[m]).pipes n hn).trans (if_neg (λx=>e x.symm));rw[hx];exact Qbo hqv2 hf6 ov2 omQ
end
end
section
open Go.RowKit
structure OwnR (f:Owners) (W:World) (e:TypeId) (s c:Nat) (v:Value) (n:Nat) (xs:List Value):Prop where
 row:W.ownsRow 0 e s v n xs
 own:IsOf f c v
theorem OwnR.frm{f f':Owners}{S:Nat->Prop}{W W':World}{e:TypeId}{s c n:Nat}{v:Value}{xs:List Value}(h:OwnR f W e s c v n xs)(hf:FrmO f S W W')(hs:Same W.heap.size f f')(hc:¬S c):OwnR f' W' e s c v n xs:=
 ⟨Qaj h.row hf h.own hc,h.own.same hs λg hg=>(Qah h.row g hg).2⟩
def rep(n:Nat)(u:List Value):List Value:=(List.replicate n u).flatten
theorem QbG(n:Nat)(u:List Value):rep (n+1) u=rep n u++u:=by
 unfold rep;rw[List.replicate_succ',List.flatten_append];simp
theorem Qb6(n:Nat)(u:List Value):(rep n u).length=n*u.length:=by
 induction n with
 | zero=>simp[rep]
 | succ n ih=>rw[QbG,List.length_append,ih,Nat.succ_mul]
theorem Qmm(u:List Value){a b:Nat}(h:a<=b):(rep b u).take (a*u.length)=rep a u:=by
 induction b with
 | zero=>
  have:a=0:=omQ;subst this
  simp[rep]
 | succ b ih=>
  by_cases e:a=b+1
  ·subst e;rw[List.take_of_length_le (by rw[Qb6];exact Nat.le_refl _)]
  ·rw[QbG,List.take_append_of_le_length (by rw[Qb6];exact Nat.mul_le_mul_right _ omQ)];exact ih omQ
theorem Qmn(n:Nat)(m:Int):rep n [Value.int .i64 m]=List.replicate n (.int .i64 m):=by
 induction n with
 | zero=>rfl
 | succ n ih=>rw[QbG,ih,List.replicate_succ']
theorem QmZ(n:Nat)(m:Ev):rep n (evCells1 m)=evCells (List.replicate n m):=by
 induction n with
 | zero=>rfl
 | succ n ih=>rw[QbG,ih,List.replicate_succ',QaU,QbN]
def HoldsG(f:Owners)(W:World)(e:TypeId)(s:Nat)(a:Option Addr)(n k:Nat)(u:List Value):Prop:=
 n=0\/∃g cur,a=some ⟨g,0,none⟩/\f g=some (4*k+3)/\W.heap[g]? =some (.cells cur e (0,0))/\cur.toList.take (n*s)=rep n u
theorem HoldsG.frm{f f':Owners}{S:Nat->Prop}{W W':World}{e:TypeId}{s n k:Nat}{a:Option Addr}{u:List Value}(h:HoldsG f W e s a n k u)(hf:FrmO f S W W')(hs:Same W.heap.size f f')(hc:¬S (4*k+3)):HoldsG f' W' e s a n k u:=by
 rcases h with h | ⟨g,cur,ha,hg,hh,ht⟩
 ·exact .inl h
 ·exact .inr ⟨g,cur,ha,(hs g (Qac hh)).trans hg,Qaq hh hf hg hc,ht⟩
theorem HoldsG.of_own{f:Owners}{W:World}{e:TypeId}{s n k c:Nat}{a:Option Addr}{u:List Value}(h:OwnR f W e s (4*k+3) (.slice a n c) n (rep n u)):HoldsG f W e s a n k u:=by
 rcases h.row.2 with⟨_,h0⟩ | ⟨g,cap,cur,hv,hb,hh,_,_,_,ht⟩
 ·exact .inl h0
 ·simp at hv;exact .inr ⟨g,cur,hv.1,h.own g (by rw[hv.1];rfl),hh,ht⟩
theorem HoldsG.app{f f':Owners}{W w2:World}{e:TypeId}{s n xn k:Nat}{a:Option Addr}{u:List Value}{l l':Value}(h:HoldsG f W e s a xn k u)(hn:xn<=n)(hu:u.length=s)(hrow:w2.ownsRow 0 e s l' (n+1) (rep n u++u))(happ:AppQ W w2 l l')(hs:Same W.heap.size f f'):HoldsG f' w2 e s a xn k u:=by
 rcases h with h | ⟨g,cur,ha,hg,hh,ht⟩
 ·exact .inl h
 ·rcases happ with⟨h1,h2⟩ | ⟨h1,h2,h3⟩
  ·exact .inr ⟨g,cur,ha,(hs g (Qac hh)).trans hg,by rw[h1.block g (Qac hh) (by simp)];exact hh,ht⟩
  ·by_cases e1:l.ownBlock=some g
   ·rw[e1]at h2;obtain⟨cur2,hc2,_,ht2,_⟩:=QaO hrow h2;refine .inr ⟨g,cur2,ha,(hs g (Qac hh)).trans hg,hc2,?_⟩
    have h4:cur2.toList.take (xn*s)=(cur2.toList.take ((n+1)*s)).take (xn*s):=by rw[List.take_take,Nat.min_eq_left (Nat.mul_le_mul_right _ omQ)]
    rw[h4,ht2,<-QbG,<-hu];exact Qmm u omQ
   ·exact .inr ⟨g,cur,ha,(hs g (Qac hh)).trans hg,by rw[h1.block g (Qac hh) (λe=>e1 e.symm)];exact hh,ht⟩
structure JE where
 p:Nat
 r:Nat
 j:JobM
def JE.pv(x:JE):Value:=.pointer (some ⟨x.p,0,none⟩)
def JE.rv(x:JE):Value:=.pointer (some ⟨x.r,0,none⟩)
structure IEnt where
 a:Option Addr
 n:Nat
 c:Nat
 m:Int
 k:Nat
def IEnt.v(x:IEnt):Value:=.slice x.a x.n x.c
structure EEnt where
 a:Option Addr
 n:Nat
 c:Nat
 m:Ev
 k:Nat
def EEnt.v(x:EEnt):Value:=.slice x.a x.n x.c
def lty:Nat->TypeId
 | 0=>45
 | 1=>49
 | 2=>32
 | 3=>33
 | 4=>3
 | _=>40
def lsz:Nat->Nat
 | 5=>4
 | _=>1
structure KeepsJ (CJ:CJT):Prop where
 lt:∀ {X w jb j},CJ X w jb j->∀g,X g->g<w.heap.size
 frm:∀ {X w jb j},CJ X w jb j->∀ {Z:Nat->Prop} {w':World},FrmX Z w w'->(∀g,X g->¬Z g)->CJ X w' jb j
def JobOf(CJ:CJT)(f:Owners)(W:World)(c b:Nat)(j:JobM):Prop:=∃X,CJ X W b j/\∀g,X g->f g=some c
theorem FrmO.toX{f:Owners}{S:Nat->Prop}{w w':World}(h:FrmO f S w w'):FrmX (λg=>∃c,f g=some c/\S c) w w':=
 ⟨h.os,h.tape,h.output,h.size,λg hg hn=>h.keep g hg λc hc hs=>hn ⟨c,hc,hs⟩⟩
theorem JobOf.frm{CJ:CJT}(K:KeepsJ CJ){f f':Owners}{S:Nat->Prop}{W W':World}{c b:Nat}{j:JobM}(h:JobOf CJ f W c b j)(hf:FrmO f S W W')(hs:Same W.heap.size f f')(hc:¬S c):JobOf CJ f' W' c b j:=by
 obtain⟨X,hX,ho⟩:=h;refine⟨X,K.frm hX hf.toX λg hg ⟨c',h1,h2⟩=>?_,λg hg=>(hs g (K.lt hX g hg)).trans (ho g hg)⟩;rw[ho g hg]at h1;cases h1;exact hc h2
theorem JobOf.after{CJ:CJT}{f:Owners}{W W':World}{c b:Nat}{j':JobM}{X:Nat->Prop}(ho:∀g,X g->f g=some c)(ha:After CJ X W b j' W'):FrmO f (λx=>x=c) W W'/\∃f',Same W.heap.size f f'/\JobOf CJ f' W' c b j'/\∀g x,W.heap.size<=g->f' g=some x->x=c:=by
 obtain⟨X',h1,h2,h3⟩:=ha;refine⟨⟨h2.os,h2.tape,h2.output,h2.size,λg hg hn=>h2.keep g hg λhx=>hn c (ho g hx) rfl⟩,λg=>if g<W.heap.size then f g else some c,λg hg=>by simp only[if_pos hg],⟨X',h1,λg hg=>?_⟩,λg x hg hx=>?_⟩
 ·by_cases hl:g<W.heap.size
  ·simp only[if_pos hl]
   rcases h3 g hg with h | h
   ·exact ho g h
   ·omega
  ·simp only[if_neg hl]
 ·simp only[if_neg (Nat.not_lt.2 hg),Option.some.injEq]at hx;exact hx.symm
def upd{α:Type}(v:Nat->α)(r:Nat)(x:α):Nat->α:=λi=>if i=r then x else v i
theorem Qay{α:Type}(v:Nat->α)(r:Nat)(x:α):upd v r x r=x:=by simp[upd]
theorem Qap{α:Type}(v:Nat->α){r i:Nat}(x:α)(h:i≠r):upd v r x i=v i:=by simp[upd,h]
structure LInv (CJ RJ:CJT) (f:Owners) (W:World) (wb:Nat) (v:Nat->Value) (xs:Nat->List Value) (n:Nat->Nat) (js:List JE) (is:List IEnt) (es:List EEnt) (cnt:Nat):Prop where
 box:W.heap[wb]? =some (.cells #[v 0,v 1,v 2,v 3,v 4,v 5,.int .i64 (cnt:Int)] 35 (0,0))
 obox:f wb=some 0
 lo:∀g c,f g=some c->wb<=g
 rows:∀r,r<6->OwnR f W (lty r) (lsz r) (4*r+4) (v r) (n r) (xs r)
 hi:∀x∈is,x.k<cnt/\x.n<=1000/\HoldsG f W 3 1 x.a x.n x.k [.int .i64 x.m]
 he:∀x∈es,x.k<cnt/\x.n<=1000/\HoldsG f W 40 4 x.a x.n x.k (evCells1 x.m)
 jobs:∀i (h:i<js.length),JobOf CJ f W (4*i+1) (js[i]).p (js[i]).j/\JobOf RJ f W (4*i+2) (js[i]).r (js[i]).j
structure LRest (xs:Nat->List Value) (n:Nat->Nat) (js:List JE) (is:List IEnt) (es:List EEnt):Prop where
 n0:n 0=js.length
 n1:n 1=js.length
 n2:n 2=is.length
 n3:n 3=es.length
 n4:n 4=is.length
 n5:n 5=es.length
 x0:xs 0=js.map JE.pv
 x1:xs 1=js.map JE.rv
 x2:xs 2=is.map IEnt.v
 x3:xs 3=es.map EEnt.v
 x4:xs 4=is.map λx=>.int .i64 x.m
 x5:xs 5=evCells (es.map EEnt.m)
section
variable {CJ RJ:CJT} {f f':Owners} {S:Nat->Prop} {W W':World} {wb:Nat} {v:Nat->Value} {xs:Nat->List Value} {n:Nat->Nat} {js:List JE} {is:List IEnt} {es:List EEnt} {cnt:Nat}
theorem QcH(hlo:∀g c,f g=some c->wb<=g)(hs:Same W.heap.size f f')(hw:wb<W.heap.size):∀g c,f' g=some c->wb<=g:=λg c hc=>by
 by_cases h:g<W.heap.size
 ·exact hlo g c ((hs g h).symm.trans hc)
 ·omega
theorem LInv.wlt(h:LInv CJ RJ f W wb v xs n js is es cnt):wb<W.heap.size:=Qac h.box
theorem LInv.below(h:LInv CJ RJ f W wb v xs n js is es cnt)(hf:FrmO f S W W'):Below wb W W':=
 ⟨hf.os,hf.tape,hf.output,hf.size,λg hg=>hf.keep g (Nat.lt_trans hg h.wlt) λc hc=>absurd (h.lo g c hc) (Nat.not_le.2 hg)⟩
theorem LInv.keep(KC:KeepsJ CJ)(KR:KeepsJ RJ)(h:LInv CJ RJ f W wb v xs n js is es cnt)(hf:FrmO f S W W')(hs:Same W.heap.size f f')(hS:∀c,¬S c):LInv CJ RJ f' W' wb v xs n js is es cnt:=
 ⟨Qaq h.box hf h.obox (hS _),(hs wb h.wlt).trans h.obox,QcH h.lo hs h.wlt,λr hr=>(h.rows r hr).frm hf hs (hS _),λx hx=>⟨(h.hi x hx).1,(h.hi x hx).2.1,(h.hi x hx).2.2.frm hf hs (hS _)⟩,λx hx=>⟨(h.he x hx).1,(h.he x hx).2.1,(h.he x hx).2.2.frm hf hs (hS _)⟩,
  λi hi=>⟨(h.jobs i hi).1.frm KC hf hs (hS _),(h.jobs i hi).2.frm KR hf hs (hS _)⟩⟩
theorem LInv.old(KC:KeepsJ CJ)(KR:KeepsJ RJ)(h:LInv CJ RJ f W wb v xs n js is es cnt)(hb:Below W.heap.size W W'):LInv CJ RJ f W' wb v xs n js is es cnt:=
 h.keep KC KR (S:=λ_=>False) (.of_below hb) (Same.refl _ _) λ_ h=>h
theorem LInv.job(KC:KeepsJ CJ)(KR:KeepsJ RJ)(h:LInv CJ RJ f W wb v xs n js is es cnt)(i:Nat)(hi:i<js.length)(j':JobM)(hf:FrmO f (λc=>c=4*i+1\/c=4*i+2) W W')(hs:Same W.heap.size f f')
  (hC:JobOf CJ f' W' (4*i+1) (js[i]).p j') (hR:JobOf RJ f' W' (4*i+2) (js[i]).r j'):LInv CJ RJ f' W' wb v xs n (js.set i ⟨(js[i]).p,(js[i]).r,j'⟩) is es cnt:=by
 refine⟨Qaq h.box hf h.obox omQ,(hs wb h.wlt).trans h.obox,QcH h.lo hs h.wlt,λr hr=>(h.rows r hr).frm hf hs omQ,λx hx=>⟨(h.hi x hx).1,(h.hi x hx).2.1,(h.hi x hx).2.2.frm hf hs omQ⟩,λx hx=>⟨(h.he x hx).1,(h.he x hx).2.1,(h.he x hx).2.2.frm hf hs omQ⟩,λm hm=>?_⟩
 by_cases e:m=i
 ·subst e;simp only[List.getElem_set_self];exact⟨hC,hR⟩
 ·simp only[List.getElem_set_ne (λx=>e x.symm)]
  have hm':m<js.length:=by simpa using hm
  exact⟨(h.jobs m hm').1.frm KC hf hs omQ,(h.jobs m hm').2.frm KR hf hs omQ⟩
theorem LRest.job(h:LRest xs n js is es)(i:Nat)(hi:i<js.length)(j':JobM):LRest xs n (js.set i ⟨(js[i]).p,(js[i]).r,j'⟩) is es:=by
 have e:∀(g:JE->Value),g ⟨(js[i]).p,(js[i]).r,j'⟩=g js[i]->(js.set i ⟨(js[i]).p,(js[i]).r,j'⟩).map g=js.map g:=λg hg=>by
  apply List.ext_getElem?;intro m;rw[List.getElem?_map,List.getElem?_map,List.getElem?_set];split
  ·rename_i e
   subst e;rw[List.getElem?_eq_getElem hi];simp only[Option.map_some,hg]
  ·rfl
 exact⟨by simpa using h.n0,by simpa using h.n1,h.n2,h.n3,h.n4,h.n5,by rw[e JE.pv rfl];exact h.x0,by rw[e JE.rv rfl];exact h.x1,h.x2,h.x3,h.x4,h.x5⟩
theorem QkZ(v:Nat->Value)(c:Value)(r:Nat)(hr:r<6):(#[v 0,v 1,v 2,v 3,v 4,v 5,c]:Array Value)[r]? =some (v r):=by
 have:r=0\/r=1\/r=2\/r=3\/r=4\/r=5:=omQ
 rcases this with rfl | rfl | rfl | rfl | rfl | rfl<;>rfl
theorem Qm0(v:Nat->Value)(c x:Value)(r:Nat)(hr:r<6):(#[v 0,v 1,v 2,v 3,v 4,v 5,c]:Array Value).setIfInBounds r x=#[upd v r x 0,upd v r x 1,upd v r x 2,upd v r x 3,upd v r x 4,upd v r x 5,c]:=by
 have:r=0\/r=1\/r=2\/r=3\/r=4\/r=5:=omQ
 rcases this with rfl | rfl | rfl | rfl | rfl | rfl<;>simp[upd]
theorem LInv.cellAt(h:LInv CJ RJ f W wb v xs n js is es cnt)(r:Nat)(hr:r<6):W.cell? ⟨wb,r,none⟩=some (v r):=(Qad h.box r).trans (QkZ v _ r hr)
theorem LInv.cell6(h:LInv CJ RJ f W wb v xs n js is es cnt):W.cell? ⟨wb,6,none⟩=some (.int .i64 (cnt:Int)):=(Qad h.box 6).trans rfl
theorem LInv.app(KC:KeepsJ CJ)(KR:KeepsJ RJ)(h:LInv CJ RJ f W wb v xs n js is es cnt)(r:Nat)(hr:r<6){wa w5:World}{v':Value}{news:List Value}{m:Nat}(hba:Below W.heap.size W wa)(hrow:w5.ownsRow 0 (lty r) (lsz r) v' (n r+m) (xs r++news))(happ:AppQ wa w5 (v r) v'):
  w5.cell? ⟨wb,r,none⟩=some (v r)/\w5.frozen? ⟨wb,r,none⟩=false/\∃f',LInv CJ RJ f' (w5.setCell ⟨wb,r,none⟩ v') wb (upd v r v') (upd xs r (xs r++news)) (upd n r (n r+m)) js is es cnt/\FrmO f (λc=>c=0\/c=4*r+4) W (w5.setCell ⟨wb,r,none⟩ v')/\Same W.heap.size f f':=by
 have hv:=(h.rows r hr).own;have hf5:FrmO f (λc=>c=4*r+4) W w5:=(FrmO.of_below hba).trans (Same.refl _ _) (happ.frm hv);have hb5:=Qaq h.box hf5 h.obox omQ;obtain⟨f',hs',hv'⟩:=happ.owner hba hv
 have hf6:FrmO f (λc=>c=0\/c=4*r+4) W (w5.setCell ⟨wb,r,none⟩ v'):=
  (hf5.mono λ_ hc=>.inr hc).trans (Same.refl _ _) (FrmO.of_set (S:=λc=>c=0\/c=4*r+4) h.obox (.inl rfl) _)
 have hob':f' wb=some 0:=(hs' wb h.wlt).trans h.obox
 have hne:∀g,v'.ownBlock=some g->g≠wb:=λg hg e=>by
  have:=hv' g hg;rw[e,hob']at this;simp at this
 refine⟨(Qad hb5 r).trans (QkZ v _ r hr),Qab hb5 r,f',⟨?_,hob',QcH h.lo hs' h.wlt,λq hq=>?_,λx hx=>⟨(h.hi x hx).1,(h.hi x hx).2.1,(h.hi x hx).2.2.frm hf6 hs' omQ⟩,λx hx=>⟨(h.he x hx).1,(h.he x hx).2.1,(h.he x hx).2.2.frm hf6 hs' omQ⟩,λi hi=>⟨(h.jobs i hi).1.frm KC hf6 hs' omQ,(h.jobs i hi).2.frm KR hf6 hs' omQ⟩⟩,hf6,hs'⟩
 ·rw[<-Qm0 v _ v' r hr];exact Qag (j:=r) hb5 v'
 ·by_cases e:q=r
  ·subst e;rw[Qay,Qay,Qay];exact⟨QaV hrow (Qak w5 wb q v') λg hg e=>hne g hg (by simp at e;exact e.symm),hv'⟩
  ·rw[Qap _ _ e,Qap _ _ e,Qap _ _ e];exact(h.rows q hq).frm hf6 hs' omQ
theorem LInv.count(KC:KeepsJ CJ)(KR:KeepsJ RJ)(h:LInv CJ RJ f W wb v xs n js is es cnt):LInv CJ RJ f (W.setCell ⟨wb,6,none⟩ (.int .i64 ((cnt:Int)+1))) wb v xs n js is es (cnt+1)/\FrmO f (λc=>c=0) W (W.setCell ⟨wb,6,none⟩ (.int .i64 ((cnt:Int)+1))):=by
 have hf:FrmO f (λc=>c=0) W (W.setCell ⟨wb,6,none⟩ (.int .i64 ((cnt:Int)+1))):=FrmO.of_set (S:=λc=>c=0) h.obox rfl _;have hs:=Same.refl W.heap.size f;refine⟨⟨Qag (j:=6) h.box _,h.obox,h.lo,λr hr=>(h.rows r hr).frm hf hs omQ,λx hx=>⟨by have:=(h.hi x hx).1;omega,(h.hi x hx).2.1,(h.hi x hx).2.2.frm hf hs omQ⟩,λx hx=>⟨by have:=(h.he x hx).1;omega,(h.he x hx).2.1,(h.he x hx).2.2.frm hf hs omQ⟩,λi hi=>⟨(h.jobs i hi).1.frm KC hf hs omQ,(h.jobs i hi).2.frm KR hf hs omQ⟩⟩,hf⟩
theorem LInv.addI(h:LInv CJ RJ f W wb v xs n js is es cnt)(x:IEnt)(h1:x.k<cnt)(h2:x.n<=1000)(h3:HoldsG f W 3 1 x.a x.n x.k [.int .i64 x.m]):LInv CJ RJ f W wb v xs n js (is++[x]) es cnt:=
 ⟨h.box,h.obox,h.lo,h.rows,λy hy=>by
  rcases List.mem_append.1 hy with hy | hy
  ·exact h.hi y hy
  ·simp only[List.mem_cons,List.not_mem_nil,or_false]at hy;subst hy
   exact⟨h1,h2,h3⟩,h.he,h.jobs⟩
theorem LInv.addE(h:LInv CJ RJ f W wb v xs n js is es cnt)(x:EEnt)(h1:x.k<cnt)(h2:x.n<=1000)(h3:HoldsG f W 40 4 x.a x.n x.k (evCells1 x.m)):LInv CJ RJ f W wb v xs n js is (es++[x]) cnt:=
 ⟨h.box,h.obox,h.lo,h.rows,h.hi,λy hy=>by
  rcases List.mem_append.1 hy with hy | hy
  ·exact h.he y hy
  ·simp only[List.mem_cons,List.not_mem_nil,or_false]at hy;subst hy
   exact⟨h1,h2,h3⟩,h.jobs⟩
theorem LInv.addJ(h:LInv CJ RJ f W wb v xs n js is es cnt)(x:JE)(hC:JobOf CJ f W (4*js.length+1) x.p x.j)(hR:JobOf RJ f W (4*js.length+2) x.r x.j):LInv CJ RJ f W wb v xs n (js++[x]) is es cnt:=
 ⟨h.box,h.obox,h.lo,h.rows,h.hi,h.he,λi hi=>by
  by_cases e:i<js.length
  ·rw[List.getElem_append_left e];exact h.jobs i e
  ·have e2:i=js.length:=by simp at hi;omega
   subst e2;simp only[List.getElem_append_right (Nat.le_refl _),Nat.sub_self,List.getElem_cons_zero]
   exact⟨hC,hR⟩⟩
theorem LInv.growI(KC:KeepsJ CJ)(KR:KeepsJ RJ)(h:LInv CJ RJ f W wb v xs n js is es cnt){k m0:Nat}{mk:Int}{l l':Value}{wa w5:World}(hba:Below W.heap.size W wa)(hl:OwnR f W 3 1 (4*k+3) l m0 (rep m0 [.int .i64 mk]))(hrow:w5.ownsRow 0 3 1 l' (m0+1) (rep m0 [.int .i64 mk]++[.int .i64 mk]))(happ:AppQ wa w5 l l')
  (hx:∀x∈is,x.k=k->x.m=mk/\x.n<=m0) (hxe:∀x∈es,x.k≠k):∃f',LInv CJ RJ f' w5 wb v xs n js is es cnt/\OwnR f' w5 3 1 (4*k+3) l' (m0+1) (rep (m0+1) [.int .i64 mk])/\FrmO f (λc=>c=4*k+3) W w5/\Same W.heap.size f f':=by
 have hf:FrmO f (λc=>c=4*k+3) W w5:=(FrmO.of_below hba).trans (Same.refl _ _) (happ.frm hl.own);obtain⟨f',hs',hv'⟩:=happ.owner hba hl.own;refine⟨f',⟨Qaq h.box hf h.obox omQ,(hs' wb h.wlt).trans h.obox,QcH h.lo hs' h.wlt,λr hr=>(h.rows r hr).frm hf hs' omQ,λx hx'=>⟨(h.hi x hx').1,(h.hi x hx').2.1,?_⟩,λx hx'=>⟨(h.he x hx').1,(h.he x hx').2.1,(h.he x hx').2.2.frm hf hs' (by have:=hxe x hx';omega)⟩,λi hi=>⟨(h.jobs i hi).1.frm KC hf hs' omQ,(h.jobs i hi).2.frm KR hf hs' omQ⟩⟩,⟨by rw[QbG];exact hrow,hv'⟩,hf,hs'⟩
 by_cases e:x.k=k
 ·obtain⟨e1,e2⟩:=hx x hx' e
  have h0:=((h.hi x hx').2.2.frm (S:=λ_=>False) (.of_below hba) (Same.refl _ _) λh=>h)
  rw[e1]at h0 ⊢
  have hs2:Same wa.heap.size f (λg=>if g<W.heap.size then f' g else f g):=λg hg=>by
   by_cases hl:g<W.heap.size
   ·simp only[if_pos hl];exact hs' g hl
   ·simp only[if_neg hl]
  have h9:=h0.app (f':=λg=>if g<W.heap.size then f' g else f g) e2 rfl hrow happ hs2
  rcases h9 with h9 | ⟨g,cur,a1,a2,a3,a4⟩
  ·exact .inl h9
  ·rcases(h.hi x hx').2.2 with hz | ⟨g',cur',b1,b2,b3,b4⟩
   ·exact .inl hz
   ·have hgg:g'=g:=by rw[b1]at a1;simp at a1;exact a1
    subst hgg;refine .inr ⟨g',cur,a1,?_,a3,a4⟩;rw[hs' g' (Qac b3)];exact b2
 ·exact(h.hi x hx').2.2.frm hf hs' omQ
theorem LInv.growE(KC:KeepsJ CJ)(KR:KeepsJ RJ)(h:LInv CJ RJ f W wb v xs n js is es cnt){k m0:Nat}{mk:Ev}{l l':Value}{wa w5:World}(hba:Below W.heap.size W wa)(hl:OwnR f W 40 4 (4*k+3) l m0 (rep m0 (evCells1 mk)))(hrow:w5.ownsRow 0 40 4 l' (m0+1) (rep m0 (evCells1 mk)++evCells1 mk))(happ:AppQ wa w5 l l')
  (hx:∀x∈es,x.k=k->x.m=mk/\x.n<=m0) (hxe:∀x∈is,x.k≠k):∃f',LInv CJ RJ f' w5 wb v xs n js is es cnt/\OwnR f' w5 40 4 (4*k+3) l' (m0+1) (rep (m0+1) (evCells1 mk))/\FrmO f (λc=>c=4*k+3) W w5/\Same W.heap.size f f':=by
 have hf:FrmO f (λc=>c=4*k+3) W w5:=(FrmO.of_below hba).trans (Same.refl _ _) (happ.frm hl.own);obtain⟨f',hs',hv'⟩:=happ.owner hba hl.own;refine⟨f',⟨Qaq h.box hf h.obox omQ,(hs' wb h.wlt).trans h.obox,QcH h.lo hs' h.wlt,λr hr=>(h.rows r hr).frm hf hs' omQ,λx hx'=>⟨(h.hi x hx').1,(h.hi x hx').2.1,(h.hi x hx').2.2.frm hf hs' (by have:=hxe x hx';omega)⟩,λx hx'=>⟨(h.he x hx').1,(h.he x hx').2.1,?_⟩,λi hi=>⟨(h.jobs i hi).1.frm KC hf hs' omQ,(h.jobs i hi).2.frm KR hf hs' omQ⟩⟩,⟨by rw[QbG];exact hrow,hv'⟩,hf,hs'⟩
 by_cases e:x.k=k
 ·obtain⟨e1,e2⟩:=hx x hx' e
  have h0:=((h.he x hx').2.2.frm (S:=λ_=>False) (.of_below hba) (Same.refl _ _) λh=>h)
  rw[e1]at h0 ⊢
  have hs2:Same wa.heap.size f (λg=>if g<W.heap.size then f' g else f g):=λg hg=>by
   by_cases hl:g<W.heap.size
   ·simp only[if_pos hl];exact hs' g hl
   ·simp only[if_neg hl]
  have h9:=h0.app (f':=λg=>if g<W.heap.size then f' g else f g) e2 rfl hrow happ hs2
  rcases h9 with h9 | ⟨g,cur,a1,a2,a3,a4⟩
  ·exact .inl h9
  ·rcases(h.he x hx').2.2 with hz | ⟨g',cur',b1,b2,b3,b4⟩
   ·exact .inl hz
   ·have hgg:g'=g:=by rw[b1]at a1;simp at a1;exact a1
    subst hgg;refine .inr ⟨g',cur,a1,?_,a3,a4⟩;rw[hs' g' (Qac b3)];exact b2
 ·exact(h.he x hx').2.2.frm hf hs' omQ
end
theorem LInv.new(CJ RJ:CJT)(w:World):LInv CJ RJ (λg=>if g=w.heap.size then some 0 else none) (w.alloc (.cells #[.slice none 0 0,.slice none 0 0,.slice none 0 0,.slice none 0 0,.slice none 0 0,.slice none 0 0,.int .i64 0] 35)) w.heap.size (λ_=>.slice none 0 0) (λ_=>[]) (λ_=>0) [] [] [] 0:=by
 refine⟨heap_alloc_new w _,by simp,λg c hc=>?_,λr hr=>⟨Qdt _ _ _ _,λg hg=>by simp[Value.ownBlock]at hg⟩,λx hx=>(by cases hx),λx hx=>(by cases hx),λi hi=>(by simp at hi)⟩
 by_cases e:g=w.heap.size
 ·omega
 ·simp[e]at hc
theorem LRest.new:LRest (λ_=>[]) (λ_=>0) [] [] []:=⟨rfl,rfl,rfl,rfl,rfl,rfl,rfl,rfl,rfl,rfl,rfl,rfl⟩
end
section
open Go.RowKit
theorem Qnh(u:List Value){n i o:Nat}(hi:i<n)(ho:o<u.length):(rep n u)[i*u.length+o]? =u[o]? :=by
 induction n with
 | zero=>omega
 | succ n ih=>
  rw[QbG]
  by_cases e:i<n
  ·have hlt:i*u.length+o<n*u.length:=by
    have:(i+1)*u.length<=n*u.length:=Nat.mul_le_mul_right _ omQ;rw[Nat.succ_mul]at this;omega
   rw[List.getElem?_append_left (by rw[Qb6];exact hlt)];exact ih e
  ·have e2:i=n:=omQ;subst e2;rw[List.getElem?_append_right (by rw[Qb6];omega),Qb6];congr 1;omega
theorem HoldsG.cell{f:Owners}{W:World}{e:TypeId}{s n k:Nat}{a:Option Addr}{u:List Value}(h:HoldsG f W e s a n k u)(hu:u.length=s){i:Nat}(hi:i<n):∃g,a=some ⟨g,0,none⟩/\∀o,o<s->W.cell? ⟨g,i*s+o,none⟩=u[o]? :=by
 rcases h with h | ⟨g,cur,ha,_,hh,ht⟩
 ·omega
 ·refine⟨g,ha,λo ho=>?_⟩
  have hlt:i*s+o<n*s:=by
   have:(i+1)*s<=n*s:=Nat.mul_le_mul_right _ omQ;rw[Nat.succ_mul]at this;omega
  rw[Qad hh,<-Qnh u hi omQ,hu,<-ht,List.getElem?_take,if_pos hlt];simp
section
variable {CJ RJ:CJT} {f f':Owners} {S:Nat->Prop} {W W':World} {wb:Nat} {v:Nat->Value} {xs:Nat->List Value} {n:Nat->Nat} {js:List JE} {is:List IEnt} {es:List EEnt} {cnt:Nat}
theorem LInv.other(KC:KeepsJ CJ)(KR:KeepsJ RJ)(h:LInv CJ RJ f W wb v xs n js is es cnt){q:Nat}(hf:FrmO f (λc=>c=4*q+3) W W')(hs:Same W.heap.size f f')(h1:∀x∈is,x.k≠q)(h2:∀x∈es,x.k≠q):LInv CJ RJ f' W' wb v xs n js is es cnt:=
 ⟨Qaq h.box hf h.obox omQ,(hs wb h.wlt).trans h.obox,QcH h.lo hs h.wlt,λr hr=>(h.rows r hr).frm hf hs omQ,λx hx=>⟨(h.hi x hx).1,(h.hi x hx).2.1,(h.hi x hx).2.2.frm hf hs (by have:=h1 x hx;omega)⟩,λx hx=>⟨(h.he x hx).1,(h.he x hx).2.1,(h.he x hx).2.2.frm hf hs (by have:=h2 x hx;omega)⟩,
  λi hi=>⟨(h.jobs i hi).1.frm KC hf hs omQ,(h.jobs i hi).2.frm KR hf hs omQ⟩⟩
theorem LInv.shape(h:LInv CJ RJ f W wb v xs n js is es cnt)(r:Nat)(hr:r<6):∃a c,v r=.slice a (n r) c:=Qaf (h.rows r hr).row
theorem Qeg(h:LInv CJ RJ f W wb v xs n js is es cnt)(hR:LRest xs n js is es)(hN1:is.length<=4611686018427387904)(hN2:es.length<=4611686018427387904):
  Calls Tryz.prog 7 #[.pointer (some ⟨wb,0,none⟩)] W λe w'=>e=.returned (.bool true)/\∃n,w'=W.drewN n:=by
 obtain⟨a2,c2,e2⟩:=h.shape 2 (by decide);obtain⟨a3,c3,e3⟩:=h.shape 3 (by decide);obtain⟨a4,c4,e4⟩:=h.shape 4 (by decide);obtain⟨a5,c5,e5⟩:=h.shape 5 (by decide);have b2:=h.cellAt 2 (by decide);have b3:=h.cellAt 3 (by decide);have b4:=h.cellAt 4 (by decide);have b5:=h.cellAt 5 (by decide);have r2:W.ownsRow 0 32 1 (v 2) (n 2) (xs 2):=(h.rows 2 (by decide)).row;have r3:W.ownsRow 0 33 1 (v 3) (n 3) (xs 3):=(h.rows 3 (by decide)).row;have r4:W.ownsRow 0 3 1 (v 4) (n 4) (xs 4):=(h.rows 4 (by decide)).row;have r5:W.ownsRow 0 40 4 (v 5) (n 5) (xs 5):=(h.rows 5 (by decide)).row;rw[hR.n2]at e2 r2;rw[hR.n3]at e3 r3;rw[hR.n4]at e4 r4;rw[hR.n5]at e5 r5;rw[e2]at b2 r2;rw[e3]at b3 r3;rw[e4]at b4 r4;rw[e5]at b5 r5;rw[hR.x2]at r2;rw[hR.x3]at r3;rw[hR.x4]at r4;rw[hR.x5]at r5
 have HI:=show Hid (∀x∈is,x.n<=1000/\HoldsG f W 3 1 x.a x.n x.k [.int .i64 x.m])from λx hx=>(h.hi x hx).2
 have HE:=show Hid (∀x∈es,x.n<=1000/\HoldsG f W 40 4 x.a x.n x.k (evCells1 x.m))from λx hx=>(h.he x hx).2
 have H2:=show Hid (_/\_)from And.intro r2 r4
 have H3:=show Hid (_/\_)from And.intro r3 r5
 clear h hR e2 e3 e4 e5 r2 r3 r4 r5;go_enter Tryz.func7,Tryz.ntmps7;go_wp2
 go_loopw [3] (λi wr=>∃k nq:Nat,k<=is.length/\i=.int .i64 (k:Int)/\wr=W.drewN nq) (λi _=>is.length-(intOf i).toNat)
 case atStart=>exact⟨0,0,Nat.zero_le _,rfl,rfl⟩
 case round=>
  obtain⟨k,nq,hk,rfl,rfl⟩:=hrel
  by_cases hkl:k<is.length
  ·obtain⟨hrow,hmk⟩:=H2.out
   rcases Qai hrow with⟨_,h0⟩ | ⟨ge,rfl⟩
   ·omega
   rcases Qai hmk with⟨_,h0⟩ | ⟨gm,rfl⟩
   ·omega
   have ce0:W.cell? ⟨ge,k,none⟩=some ((is[k]'hkl).v):=by
    rw[hrow.cellAt k omQ];simp[hkl]
   have cm0:W.cell? ⟨gm,k,none⟩=some (.int .i64 (is[k]'hkl).m):=by
    rw[hmk.cellAt k omQ];simp[hkl]
   obtain⟨hx1000,hh⟩:=HI.out (is[k]'hkl) (List.getElem_mem hkl);clear hrow hmk HI HE H2 H3;generalize is[k]'hkl=x at ce0 cm0 hh hx1000;obtain⟨xa,xn,xc,mk,xk⟩:=x;unfold IEnt.v at ce0;simp only at ce0 cm0 hh hx1000
   have Hh:=show Hid (HoldsG f W 3 1 xa xn xk [.int .i64 mk])from hh
   clear hh;have hki:(k:Int)<(is.length:Int):=omQ;have hk0:(0:Int)<=(k:Int):=omQ;go_wp2
   go_loopw [4] (λi wr=>∃j nq:Nat,j<=xn/\i=.int .i64 (j:Int)/\wr=W.drewN nq) (λi _=>xn-(intOf i).toNat)
   case atStart=>exact⟨0,nq,Nat.zero_le _,rfl,rfl⟩
   case round=>
    obtain⟨j,nr,hj,rfl,rfl⟩:=hrel
    by_cases hjl:j<xn
    ·obtain⟨g,rfl,hc⟩:=HoldsG.cell Hh.out rfl hjl
     have p0:W.cell? ⟨g,j,none⟩=some (.int .i64 mk):=by
      have:=hc 0 (by decide)
      simpa using this
     clear hc Hh;have hji:(j:Int)<(xn:Int):=omQ;have hj0:(0:Int)<=(j:Int):=omQ
     have hmm:((mk:Int) !=mk)=false:=by simp
     go_wp2
     go_quiet (fail)
     go_wp2
     go_roundw
     case rel=>exact⟨j+1,_,by omega,by go_num,rfl⟩
     case measure=>simp[intOf];omega
    ·go_wp2
     go_roundw
     case rel=>exact⟨k+1,_,by omega,by go_num,rfl⟩
     case measure=>simp[intOf];omega
  ·clear H2 HI;go_wp2
   go_loopw [5] (λi wr=>∃k nq:Nat,k<=es.length/\i=.int .i64 (k:Int)/\wr=W.drewN nq) (λi _=>es.length-(intOf i).toNat)
   case atStart=>exact⟨0,nq,Nat.zero_le _,rfl,rfl⟩
   case round=>
    obtain⟨k,nq,hk,rfl,rfl⟩:=hrel
    by_cases hkl:k<es.length
    ·obtain⟨hrow,hmk⟩:=H3.out
     rcases Qai hrow with⟨_,h0⟩ | ⟨ge,rfl⟩
     ·omega
     rcases Qai hmk with⟨_,h0⟩ | ⟨gm,rfl⟩
     ·omega
     have ce0:W.cell? ⟨ge,k,none⟩=some ((es[k]'hkl).v):=by
      rw[hrow.cellAt k omQ];simp[hkl]
     have hmc:=QbY (es.map EEnt.m) k (by simpa using hkl);have hm0:=(hmk.cellAt (k*4) omQ).trans hmc.1;have hm1:=(hmk.cellAt (k*4+1) omQ).trans hmc.2.1;have hm2:=(hmk.cellAt (k*4+2) omQ).trans hmc.2.2.1;have hm3:=(hmk.cellAt (k*4+3) omQ).trans hmc.2.2.2;simp only[List.getElem_map]at hm0 hm1 hm2 hm3;obtain⟨hx1000,hh⟩:=HE.out (es[k]'hkl) (List.getElem_mem hkl);clear hrow hmk hmc HE H3;generalize es[k]'hkl=x at ce0 hm0 hm1 hm2 hm3 hh hx1000;obtain⟨xa,xn,xc,⟨mop,mkey,mseq,mval⟩,xk⟩:=x;unfold EEnt.v at ce0;simp only at ce0 hm0 hm1 hm2 hm3 hh hx1000
     have Hh:=show Hid (HoldsG f W 40 4 xa xn xk (evCells1 ⟨mop,mkey,mseq,mval⟩))from hh
     clear hh;have hki:(k:Int)<(es.length:Int):=omQ;have hk0:(0:Int)<=(k:Int):=omQ;go_wp2
     go_loopw [6] (λi wr=>∃j nq:Nat,j<=xn/\i=.int .i64 (j:Int)/\wr=W.drewN nq) (λi _=>xn-(intOf i).toNat)
     case atStart=>exact⟨0,nq,Nat.zero_le _,rfl,rfl⟩
     case round=>
      obtain⟨j,nr,hj,rfl,rfl⟩:=hrel
      by_cases hjl:j<xn
      ·obtain⟨g,rfl,hc⟩:=HoldsG.cell Hh.out rfl hjl;have p0:W.cell? ⟨g,j*4,none⟩=some (.int .u8 (mop:Int)):=hc 0 (by decide);have p1:W.cell? ⟨g,j*4+1,none⟩=some (.string mkey):=hc 1 (by decide);have p2:W.cell? ⟨g,j*4+2,none⟩=some (.int .u16 (mseq:Int)):=hc 2 (by decide);have p3:W.cell? ⟨g,j*4+3,none⟩=some (.int .i16 mval):=hc 3 (by decide);clear hc Hh;have hji:(j:Int)<(xn:Int):=omQ;have hj0:(0:Int)<=(j:Int):=omQ;go_wp2
       go_quiet (fail)
       go_wp2
       go_roundw
       case rel=>exact⟨j+1,_,by omega,by go_num,rfl⟩
       case measure=>simp[intOf];omega
      ·go_wp2
       go_roundw
       case rel=>exact⟨k+1,_,by omega,by go_num,rfl⟩
       case measure=>simp[intOf];omega
    ·go_wp2;go_ret;exact⟨rfl,nq,rfl⟩
end
end
section
open Go.RowKit
theorem Tryz.infoInts:(Tryz.prog.info? 32).map (λi=>(i.zero,i.size,i.bytes))=some (some (.slice none 0 0),1,24):=by kernel_rfl
theorem Qk0(m:Int)(ys:List Value)(k:Nat)(h:k<ys.length):(List.replicate k (Value.int .i64 m)++ys.drop k).set k (.int .i64 m)=List.replicate (k+1) (Value.int .i64 m)++ys.drop (k+1):=by
 rw[List.set_append_right _ _ (by simp),List.length_replicate,Nat.sub_self,List.drop_eq_getElem_cons h,List.set_cons_zero,List.replicate_succ',List.append_assoc]
 rfl
theorem QcP(w:World)(p:Addr)(x a:Value)(t:TypeId):∀j u,[a][j]? =some u->((w.setCell p x).alloc (.cells #[a] t)).cell? ((⟨w.heap.size,0,none⟩:Addr).add j)=some u:=by
 have h:=cell_one_new (w.setCell p x) a t
 have e:(w.setCell p x).heap.size=w.heap.size:=by simp[World.setCell]
 rw[e]at h;exact h
theorem Qk1(a:Option Addr)(n c:Nat):∀u∈[Value.slice a n c],u.oneCell'=true:=by
 intro u hu;simp only[List.mem_cons,List.not_mem_nil,or_false]at hu;rw[hu]
 rfl
theorem Qht(m:Int):∀u∈[Value.int .i64 m],u.oneCell'=true:=by
 intro u hu;simp only[List.mem_cons,List.not_mem_nil,or_false]at hu;rw[hu]
 rfl
section
variable {CJ RJ:CJT} {f:Owners} {W:World} {wb:Nat} {v:Nat->Value} {xs:Nat->List Value} {n:Nat->Nat} {js:List JE} {is:List IEnt} {es:List EEnt} {cnt:Nat}
structure KI (CJ RJ:CJT) (W0 W:World) (wb:Nat) (js:List JE) (E:List IEnt) (es:List EEnt) (cnt k:Nat) (m:Int) (l:Value) (ln:Nat) (v2 v4:Value) (x2 x4:List Value) (n2 n4:Nat):Prop where
 ex:∃f v xs n,LInv CJ RJ f W wb v xs n js E es cnt/\v 2=v2/\v 4=v4/\xs 2=x2/\xs 4=x4/\n 2=n2/\n 4=n4/\(n 0=js.length/\n 1=js.length/\n 3=es.length/\n 5=es.length/\xs 0=js.map JE.pv/\xs 1=js.map JE.rv/\xs 3=es.map EEnt.v/\xs 5=evCells (es.map EEnt.m))/\OwnR f W 3 1 (4*k+3) l ln (rep ln [.int .i64 m])
 hk:k<cnt
 own:∀x∈E,x.k=k->x.m=m/\x.n<=ln
 oth:∀x∈es,x.k≠k
 bel:Below wb W0 W
theorem KI.shape2{W0:World}{E:List IEnt}{k:Nat}{m:Int}{l:Value}{ln:Nat}{v2 v4:Value}{x2 x4:List Value}{n2 n4:Nat}(h:KI CJ RJ W0 W wb js E es cnt k m l ln v2 v4 x2 x4 n2 n4):W.ownsRow 0 32 1 v2 n2 x2/\W.ownsRow 0 3 1 v4 n4 x4/\W.ownsRow 0 3 1 l ln (rep ln [.int .i64 m])/\W.cell? ⟨wb,2,none⟩=some v2/\W.cell? ⟨wb,4,none⟩=some v4:=by
 obtain⟨f,v,xs,n,h1,rfl,rfl,rfl,rfl,rfl,rfl,_,h9⟩:=h.ex;exact⟨(h1.rows 2 (by decide)).row,(h1.rows 4 (by decide)).row,h9.row,h1.cellAt 2 (by decide),h1.cellAt 4 (by decide)⟩
theorem KI.stepA(KC:KeepsJ CJ)(KR:KeepsJ RJ){W0:World}{E:List IEnt}{k:Nat}{m:Int}{la:Option Addr}{ln lc:Nat}{v2 v4:Value}{x2 x4:List Value}{n2 n4:Nat}(h:KI CJ RJ W0 W wb js E es cnt k m (.slice la ln lc) ln v2 v4 x2 x4 n2 n4){wa w5:World}{v':Value}(hba:Below W.heap.size W wa)(hrow:w5.ownsRow 0 32 1 v' (n2+1) (x2++[.slice la ln lc]))(happ:AppQ wa w5 v2 v'):
  w5.cell? ⟨wb,2,none⟩=some v2/\w5.frozen? ⟨wb,2,none⟩=false/\KI CJ RJ W0 (w5.setCell ⟨wb,2,none⟩ v') wb js E es cnt k m (.slice la ln lc) ln v' v4 (x2++[.slice la ln lc]) x4 (n2+1) n4:=by
 obtain⟨f,v,xs,n,h1,rfl,rfl,rfl,rfl,rfl,rfl,hr,h9⟩:=h.ex;obtain⟨a1,a2,f',a3,a4,a5⟩:=h1.app KC KR 2 (by decide) (m:=1) hba hrow happ;refine⟨a1,a2,⟨f',_,_,_,a3,Qay _ _ _,Qap _ _ (by decide),Qay _ _ _,Qap _ _ (by decide),Qay _ _ _,Qap _ _ (by decide),?_,h9.frm a4 a5 omQ⟩,h.hk,h.own,h.oth,h.bel.trans (h1.below a4)⟩;simp only[Qap _ _ (show(0:Nat)≠2 by decide),Qap _ _ (show(1:Nat)≠2 by decide),Qap _ _ (show(3:Nat)≠2 by decide),Qap _ _ (show(5:Nat)≠2 by decide)];exact hr
theorem KI.stepB(KC:KeepsJ CJ)(KR:KeepsJ RJ){W0:World}{E:List IEnt}{k:Nat}{m:Int}{la:Option Addr}{ln lc:Nat}{v2 v4:Value}{x2 x4:List Value}{n2 n4:Nat}(h:KI CJ RJ W0 W wb js E es cnt k m (.slice la ln lc) ln v2 v4 x2 x4 n2 n4)(hln:ln<=1000){wa w5:World}{v':Value}(hba:Below W.heap.size W wa)(hrow:w5.ownsRow 0 3 1 v' (n4+1) (x4++[.int .i64 m]))(happ:AppQ wa w5 v4 v'):
  w5.cell? ⟨wb,4,none⟩=some v4/\w5.frozen? ⟨wb,4,none⟩=false/\KI CJ RJ W0 (w5.setCell ⟨wb,4,none⟩ v') wb js (E++[⟨la,ln,lc,m,k⟩]) es cnt k m (.slice la ln lc) ln v2 v' x2 (x4++[.int .i64 m]) n2 (n4+1):=by
 obtain⟨f,v,xs,n,h1,rfl,rfl,rfl,rfl,rfl,rfl,hr,h9⟩:=h.ex;obtain⟨a1,a2,f',a3,a4,a5⟩:=h1.app KC KR 4 (by decide) (m:=1) hba hrow happ;have h9':=h9.frm a4 a5 omQ;have a6:=a3.addI ⟨la,ln,lc,m,k⟩ h.hk hln (HoldsG.of_own h9');refine⟨a1,a2,⟨f',_,_,_,a6,Qap _ _ (by decide),Qay _ _ _,Qap _ _ (by decide),Qay _ _ _,Qap _ _ (by decide),Qay _ _ _,?_,h9'⟩,h.hk,λx hx=>?_,h.oth,h.bel.trans (h1.below a4)⟩
 ·simp only[Qap _ _ (show(0:Nat)≠4 by decide),Qap _ _ (show(1:Nat)≠4 by decide),Qap _ _ (show(3:Nat)≠4 by decide),Qap _ _ (show(5:Nat)≠4 by decide)];exact hr
 ·rcases List.mem_append.1 hx with hx | hx
  ·exact h.own x hx
  ·simp only[List.mem_cons,List.not_mem_nil,or_false]at hx;subst hx
   exact λ_=>⟨rfl,Nat.le_refl _⟩
theorem KI.stepC(KC:KeepsJ CJ)(KR:KeepsJ RJ){W0:World}{E:List IEnt}{k:Nat}{m:Int}{l:Value}{ln:Nat}{v2 v4:Value}{x2 x4:List Value}{n2 n4:Nat}(h:KI CJ RJ W0 W wb js E es cnt k m l ln v2 v4 x2 x4 n2 n4){wa w5:World}{l':Value}(hba:Below W.heap.size W wa)(hrow:w5.ownsRow 0 3 1 l' (ln+1) (rep ln [.int .i64 m]++[.int .i64 m]))(happ:AppQ wa w5 l l'):
  KI CJ RJ W0 w5 wb js E es cnt k m l' (ln+1) v2 v4 x2 x4 n2 n4:=by
 obtain⟨f,v,xs,n,h1,rfl,rfl,rfl,rfl,rfl,rfl,hr,h9⟩:=h.ex;obtain⟨f',a3,a4,a5,a6⟩:=h1.growI KC KR hba h9 hrow happ h.own h.oth;exact⟨⟨f',v,xs,n,a3,rfl,rfl,rfl,rfl,rfl,rfl,hr,a4⟩,h.hk,λx hx e=>⟨(h.own x hx e).1,by have:=(h.own x hx e).2;omega⟩,h.oth,h.bel.trans (h1.below a5)⟩
theorem Qhu(KC:KeepsJ CJ)(KR:KeepsJ RJ)(h:LInv CJ RJ f W wb v xs n js is es cnt)(hR:LRest xs n js is es)(la:Option Addr)(ln lc:Nat)(ys:List Value)(hl:OwnR f W 3 1 (4*cnt+3) (.slice la ln lc) ln ys)(hln:ln<=900)(hcnt:cnt<=2000000000000)(hlen:is.length<=6400000000000):
  Calls Tryz.prog 52 #[.pointer (some ⟨wb,0,none⟩),.slice la ln lc] W λe w'=>e=.returned (.tuple #[])/\∃f' v' xs' n' is',LInv CJ RJ f' w' wb v' xs' n' js is' es (cnt+1)/\LRest xs' n' js is' es/\is'.length=is.length+4/\Below wb W w':=by
 have b6:=h.cell6;have f6:W.frozen? ⟨wb,6,none⟩=false:=Qab h.box 6;obtain⟨hc1,hc2⟩:=h.count KC KR
 have hlo:∀x∈is,x.k<cnt:=λx hx=>(h.hi x hx).1
 have hle:∀x∈es,x.k<cnt:=λx hx=>(h.he x hx).1
 have HM:=show Hid (Calls Tryz.prog 64 #[.pointer (some ⟨wb,0,none⟩)] W λe w'=>e=.returned (.int .i64 (-((cnt:Int)+1)))/\LInv CJ RJ f w' wb v xs n js is es (cnt+1)/\OwnR f w' 3 1 (4*cnt+3) (.slice la ln lc) ln ys/\Below wb W w')from by
  refine(QgR W wb cnt b6 f6 omQ).mono ?_;rintro e w1 ⟨rfl,rfl⟩;exact⟨rfl,hc1,hl.frm hc2 (Same.refl _ _) omQ,h.below hc2⟩
 have HR:=hdQ hR
 have hyl:ys.length=ln:=by have:=hl.row.1;omega
 have HY:=show Hid (ys.length=ln)from hyl
 have HLO:=show Hid (_/\_)from And.intro hlo hle
 obtain⟨i0,hi0,hz0,hz1,hz2⟩:=info_parts Tryz.infoInts;obtain⟨i1,hi1,hy0,hy1,hy2⟩:=info_parts Tryz.infoIntQ;clear h hl b6 f6 hc1 hc2 hlo hle hR hyl;go_enter Tryz.func52,Tryz.ntmps52
 go_wp2_with fail
 refine HM.out.mono ?_;rintro e w1 ⟨rfl,hI,hl,hb1⟩;clear HM
 obtain⟨mk,hmk⟩:∃mk:Int,-((cnt:Int)+1)=mk:=⟨_,rfl⟩
 rw[hmk];clear hmk
 have H0:=show Hid (_/\_/\_)from And.intro hI (And.intro hl hb1)
 clear hI hl hb1;go_wp2
 go_loopw [5] (λi wr=>∃k:Nat,k<=ln/\i=.int .i64 (k:Int)/\LInv CJ RJ f wr wb v xs n js is es (cnt+1)/\OwnR f wr 3 1 (4*cnt+3) (.slice la ln lc) ln (List.replicate k (.int .i64 mk)++ys.drop k)/\Below wb W wr) (λi _=>ln-(intOf i).toNat)
 case atStart=>exact⟨0,Nat.zero_le _,rfl,H0.out.1,by simpa using H0.out.2.1,H0.out.2.2⟩
 case round=>
  obtain⟨k,hk,rfl,hI,hl,hb⟩:=hrel;clear H0
  by_cases hkl:k<ln
  ·rcases Qai hl.row with⟨_,h0⟩ | ⟨g,rfl⟩
   ·omega
   have og:f g=some (4*cnt+3):=hl.own g rfl
   have hkl2:k<ys.length:=by rw[HY.out];exact hkl
   have hcell:∃u,wr.cell? ⟨g,k,none⟩=some u:=by
    refine⟨_,(hl.row.cellAt k omQ).trans (List.getElem?_eq_getElem ?_)⟩;rw[List.length_append,List.length_replicate,List.length_drop];omega
   obtain⟨u,hu⟩:=hcell;have hz:wr.frozen? ⟨g,k,none⟩=false:=hl.row.frozenAt k;have hst:=(hl.row.stored k (.int .i64 mk)).1;rw[Qk0 mk ys k hkl2]at hst;have hfr:FrmO f (λc=>c=4*cnt+3) wr (wr.setCell ⟨g,k,none⟩ (.int .i64 mk)):=FrmO.of_set (S:=λc=>c=4*cnt+3) og rfl _
   have HN:=show Hid (_/\_/\_)from And.intro (hI.other KC KR hfr (Same.refl _ _) (λx hx=>by have:=HLO.out.1 x hx;omega) (λx hx=>by have:=HLO.out.2 x hx;omega)) (And.intro (OwnR.mk hst hl.own) (hb.trans (hI.below hfr)))
   clear hI hl hb hst hfr og hkl2;have hki:(k:Int)<(ln:Int):=omQ;have hk0:(0:Int)<=(k:Int):=omQ;go_wp2
   go_roundw
   case rel=>exact⟨k+1,by omega,by go_num,HN.out.1,HN.out.2.1,HN.out.2.2⟩
   case measure=>simp[intOf];omega
  ·have hkk:k=ln:=omQ;subst hkk;rw[List.drop_eq_nil_of_le (by rw[HY.out];exact Nat.le_refl _),List.append_nil,<-Qmn]at hl
   have HK:=show Hid (KI CJ RJ W wr wb js is es (cnt+1) cnt mk (.slice la k lc) k (v 2) (v 4) (is.map IEnt.v) (is.map λx=>.int .i64 x.m) is.length is.length)from
    ⟨⟨f,v,xs,n,hI,rfl,rfl,HR.out.x2,HR.out.x4,HR.out.n2,HR.out.n4,⟨HR.out.n0,HR.out.n1,HR.out.n3,HR.out.n5,HR.out.x0,HR.out.x1,HR.out.x3,HR.out.x5⟩,hl⟩,Nat.lt_succ_self _,λx hx e=>by have:=HLO.out.1 x hx;omega,λx hx=>by have:=HLO.out.2 x hx;omega,hb⟩
   clear hI hl hb HY HLO HR;go_wp2
   go_loopw [1,6] (λs1 i wr=>∃(j:Nat) (E:List IEnt) (la':Option Addr) (lc':Nat) (v2 v4:Value),j<=4/\i=.int .i64 (j:Int)/\s1=.slice la' (k+j) lc'/\E.length=is.length+j/\KI CJ RJ W wr wb js E es (cnt+1) cnt mk (.slice la' (k+j) lc') (k+j) v2 v4 (E.map IEnt.v) (E.map λx=>.int .i64 x.m) E.length E.length) (λ_ i _=>4-(intOf i).toNat)
   case atStart=>exact⟨0,is,la,lc,v 2,v 4,Nat.zero_le _,rfl,rfl,rfl,HK.out⟩
   case round=>
    obtain⟨j,E,la',lc',v2,v4,hj,rfl,rfl,hEl,hK⟩:=hrel;clear HK
    by_cases hj4:j<4
    ·have hji:(j:Int)<4:=omQ;obtain⟨r2,r4,rl,c2,c4⟩:=hK.shape2;obtain⟨a2,d2,rfl⟩:=Qaf r2;obtain⟨a4,d4,rfl⟩:=Qaf r4;have HK:=hdQ hK;clear hK rl;have hE1:E.length<=6400000000004:=omQ;generalize hEL:E.length=el at r2 r4 c2 c4 HK;have HEL:=hdQ hEL;rw[hEL]at hE1 hEl;clear hEL;have HEl:=hdQ hEl;clear hEl;have HR2:=hdQ r2;have HR4:=hdQ r4;clear r2 r4
     go_wp2_with(first
      | (at_builtin;refine QaH _ rfl (.tmp 28) (.tmp 30) 30 rfl 0 32 i0 (.slice none 0 0) 1 24 Tryz.underlying30 hi0 hz0 hz1 hz2 rfl (by decide) (.slice a2 el d2) el (E.map IEnt.v) rfl (World.ownsRow.alloc HR2.out _) ⟨wr.heap.size,0,none⟩ 1 1 [.slice la' (k+j) lc'] rfl rfl (cell_one_new _ _ _) (Qk1 _ _ _) (by unfold maxLen;omega) (by omega) (Nat.zero_le _) (by decide) ?_;intro v2' w2 hown2 hfr2;obtain⟨q1,q2,hK2⟩:=HK.out.stepA KC KR ((Below.refl wr.heap.size wr).alloc (Nat.le_refl _) _) hown2 hfr2;obtain⟨a2',d2',rfl⟩:=Qaf hown2;have HK2:=show Hid _ from hK2;have c4b:=hK2.shape2.2.2.2.2;have HR4b:=show Hid _ from hK2.shape2.2.1;clear hK2 HK hown2 hfr2 HR2 HR4)
      | (at_builtin;refine QaH _ rfl (.tmp 38) (.tmp 40) 32 rfl 0 3 i1 (.int .i64 0) 1 8 Tryz.underlying32 hi1 hy0 hy1 hy2 rfl (by decide) (.slice a4 el d4) el (E.map λx=>.int .i64 x.m) rfl (World.ownsRow.alloc HR4b.out _) ⟨w2.heap.size,0,none⟩ 1 1 [.int .i64 mk] rfl rfl (QcP _ _ _ _ _) (Qht _) (by unfold maxLen;omega) (by omega) (Nat.zero_le _) (by decide) ?_;intro v4' w3 hown3 hfr3;obtain⟨q3,q4,hK3⟩:=HK2.out.stepB KC KR (by omega) ((Below.refl _ _).alloc (Nat.le_refl _) _) hown3 hfr3;obtain⟨a4',d4',rfl⟩:=Qaf hown3;have HK3:=show Hid _ from hK3;have HRl:=show Hid _ from hK3.shape2.2.2.1;clear hK3 HK2 hown3 hfr3 HR4b)
      | (at_builtin;refine QaH _ rfl (.tmp 44) (.tmp 46) 32 rfl 0 3 i1 (.int .i64 0) 1 8 Tryz.underlying32 hi1 hy0 hy1 hy2 rfl (by decide) (.slice la' (k+j) lc') (k+j) (rep (k+j) [.int .i64 mk]) rfl (World.ownsRow.alloc HRl.out _) ⟨w3.heap.size,0,none⟩ 1 1 [.int .i64 mk] rfl rfl (QcP _ _ _ _ _) (Qht _) (by unfold maxLen;omega) (by omega) (Nat.zero_le _) (by decide) ?_;intro l' w4 hown4 hfr4;have hK4:=HK3.out.stepC KC KR ((Below.refl _ _).alloc (Nat.le_refl _) _) hown4 hfr4;obtain⟨al,dl,rfl⟩:=Qaf hown4;have HK4:=show Hid _ from hK4;clear hK4 HK3 hown4 hfr4 HRl))
     go_roundw
     case rel=>
      refine⟨j+1,E++[⟨la',k+j,lc',mk,cnt⟩],al,dl,.slice a2' (el+1) d2',.slice a4' (el+1) d4',by omega,by go_num,rfl,by rw[List.length_append,HEL.out,HEl.out];simp;omega,?_⟩;have hh:=HK4.out;rw[List.map_append,List.map_append,List.length_append,HEL.out];exact hh
     case measure=>simp[intOf];omega
    ·have hjj:j=4:=omQ;subst hjj
     have HF:=show Hid (∃f' v' xs' n' is',LInv CJ RJ f' wr wb v' xs' n' js is' es (cnt+1)/\LRest xs' n' js is' es/\is'.length=is.length+4/\Below wb W wr)from by
      obtain⟨f',v',xs',n',q1,q2,q3,q4,q5,q6,q7,⟨r0,r1,r3,r5,y0,y1,y3,y5⟩,_⟩:=hK.ex;exact⟨f',v',xs',n',E,q1,⟨r0,r1,q6,r3,q7,r5,y0,y1,q4,y3,q5,y5⟩,hEl,hK.bel⟩
     clear hK hEl;go_wp2
     go_end0
     exact⟨rfl,HF.out⟩
end
end
end Go.Proofs.YthccpacmklhejabGreatDoor
