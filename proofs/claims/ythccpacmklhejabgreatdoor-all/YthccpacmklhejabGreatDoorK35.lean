import Derived.Test.YthccpacmklhejabGreatDoorTk
import Derived.Test.YthccpacmklhejabGreatDoorK34
import Derived.Test.YthccpacmklhejabGreatDoorK30
set_option maxHeartbeats 1000000
set_option maxRecDepth 100000
namespace Go.Proofs.YthccpacmklhejabGreatDoor
section
open Go.RowKit
section
variable {f:Owners} {w:World} {B k jb:Nat} {sb ab:List Nat} {j:JobM}
theorem RJob.below(h:RJob f w B k jb sb ab j){w1:World}(hb:Below w.heap.size w w1):RJob f w1 B k jb sb ab j:=
 h.putBox (.of_below hb) (Same.refl _ _) rfl rfl rfl rfl rfl λ_ _ _ _ hbx=>Qaq (S:=λ_=>False) hbx (.of_below hb) h.own id
theorem Qga{gq off ln qc:Nat}{v1:Value}{c:ChgM}{rest:List ChgM}(hl:rest.length=ln)(hq:qRow w B 151 4 (.slice (some ⟨gq,off,none⟩) (ln+1) qc) (ln+1) (chgCells (c :: rest)))(ht:IsTail gq off ln qc v1):qRow w B 151 4 v1 rest.length (chgCells rest):=by
 have hd:(chgCells (c :: rest)).drop 4=chgCells rest:=rfl;rw[hl]
 rcases ht with rfl | ⟨rfl,rfl⟩
 ·have:=hq.tail (off':=off+4) (.inl rfl);rw[hd]at this;exact this
 ·have:=hq.tail (off':=off) (.inr ⟨rfl,rfl⟩);rw[hd]at this;exact this
theorem Qli(h:RJob f w B k jb sb ab j)(hB:B<=w.heap.size)(hw:1<=j.width/\j.width<=4)(i:Nat)(hi:i<j.width)(ha:i<j.adders.length)(hgl:(j.adders[i]).got.length<=1000)(n0:Nat)(h1:n0<(j.adders[i]).pipes.length)(h2:n0<(j.adders[i]).stopped.length)(hst:(j.adders[i]).stopped[n0]=false)(c:ChgM)(rest:List ChgM)(hp:(j.adders[i]).pipes[n0]=c :: rest)(hpt:0<=c.pt)
  (hskip:∀m (_:m<n0) (h3:m<(j.adders[i]).pipes.length) (h4:m<(j.adders[i]).stopped.length),(j.adders[i]).stopped[m]=true\/((j.adders[i]).pipes[m]).length=0):
  Calls Tryz.prog 47 #[.pointer (some ⟨jb,0,none⟩),.int .i64 (i:Int)] w λen w'=>en=.returned (.int .i64 0)/\RAfter f w B k jb sb ab {j with adders:=j.adders.set i {j.adders[i]with pipes:=(j.adders[i]).pipes.set n0 rest,got:=(j.adders[i]).got++[c]}} w':=by
 have hib:i<ab.length:=by have:=h.lenA;omega
 have hpl:=h.pipes i ha;obtain⟨g2,ca,gp,pc,_,way,_⟩:=h.pipeA i hib ha n0 h1 omQ;obtain⟨gt,tc,e2,_⟩:=h.stopA i hib ha n0 h2 omQ
 have tails:∀m (hm:m<(j.adders[i]).pipes.length),∃v,w.cell? ⟨gp,m,none⟩=some v/\(∀w',Below w.heap.size w w'->w'.frozen? ⟨gp,m,none⟩=false)/\qRow w B 151 4 v ((j.adders[i]).pipes[m]).length (chgCells ((j.adders[i]).pipes[m])):=λm hm=>by
  obtain⟨gp',pc',v,a1,a2,_,a4,_⟩:=h.tailA i hib ha m hm omQ
  have hg:gp'=gp:=by have:=Option.some.inj (a1.symm.trans way.2.2);simp at this;exact this.1
  subst hg;refine⟨v,a2,λw' hb=>?_,a4⟩;obtain⟨gp2,pc2,v2,b1,_,b3,_⟩:=(h.below hb).tailA i hib ha m hm omQ;have b1':=(hb.cell (p:=⟨ab[i],1,none⟩) (Qan way.2.2)).trans way.2.2
  have hg:gp2=gp':=by have:=Option.some.inj (b1.symm.trans b1');simp at this;exact this.1
  subst hg;exact b3
 have stops:∀m (hm:m<(j.adders[i]).stopped.length),w.cell? ⟨gt,m,none⟩=some (.bool (j.adders[i]).stopped[m]):=λm hm=>by
  obtain⟨gt',tc',a1,a2,_⟩:=h.stopA i hib ha m hm omQ
  have hg:gt'=gt:=by have:=Option.some.inj (a1.symm.trans e2);simp at this;exact this.1
  subst hg;exact a2
 obtain⟨v,f1,hz,hq⟩:=tails n0 h1;have f2:=stops n0 h2;rw[hst]at f2;rw[hp]at hq;obtain⟨qa,qc,rfl⟩:=hq.shape;have hql:(c :: rest).length=rest.length+1:=rfl;rw[hql]at f1 hq
 rcases hq.addr with⟨_,h0⟩ | ⟨gq,off,rfl⟩
 ·omega
 obtain⟨ho,vg0,vp,vs,vt,hbk,hg0,og,hpr,op,_⟩:=h.adders i hib ha;have hc0:w.cell? ⟨ab[i],0,none⟩=some vg0:=Qad hbk 0;have hc1:w.cell? ⟨ab[i],1,none⟩=some vp:=Qad hbk 1;have hvp:vp=.slice (some ⟨gp,0,none⟩) j.width pc:=Option.some.inj (hc1.symm.trans way.2.2)
 have hbg:ab[i]≠gp:=λe=>by
  rw[hvp,hpl.1]at hpr;obtain⟨cur,hcur⟩:=QbV hpr;rw[<-e,hbk]at hcur;simp only[Option.some.injEq,Obj.cells.injEq]at hcur;exact absurd hcur.2.1 (by decide)
 have hC:AddC w jb j.width i g2 ca ab[i] gp pc gt tc:=⟨(Qav h).1,way.1,way.2.1,way.2.2,e2,hi,hw.2,hbg⟩
 refine Qm8 hC n0 omQ (λm hm=>?_) gq off rest.length qc f1 f2 c.pt c.tx c.live c.delta (hq.cell 0 _ rfl) (hq.cell 1 _ rfl) (hq.cell 2 _ rfl) (hq.cell 3 _ rfl) hpt (by have:=hq.cap;omega) hz B _ λwd v1 hbd ht=>?_
 ·obtain⟨v,a1,_,a3⟩:=tails m omQ;obtain⟨qa,qc,rfl⟩:=a3.shape;refine⟨qa,_,qc,_,a1,stops m omQ,?_⟩
  rcases hskip m hm omQ omQ with e | e
  ·exact .inl e
  ·cases hs:(j.adders[i]).stopped[m]'omQ with
   | true=>exact .inl rfl
   | false=>exact .inr ⟨rfl,e⟩
 ·have hRd:=h.below hbd;obtain⟨gp',pc',v,a1,a2,_,_,hto⟩:=hRd.tailA i hib ha n0 h1 omQ;have a1':=(hbd.cell (p:=⟨ab[i],1,none⟩) (Qan way.2.2)).trans way.2.2
  have hgg:gp'=gp:=by have:=Option.some.inj (a1.symm.trans a1');simp at this;exact this.1
  subst hgg;have a2':=(hbd.cell (p:=⟨gp',n0,none⟩) (Qan f1)).trans f1;have hvv:v=.slice (some ⟨gq,off,none⟩) (rest.length+1) qc:=Option.some.inj (a2.symm.trans a2');have hqd:=Qga rfl (hq.old hbd) ht
  obtain⟨f2',hR2,hF2,hS2⟩:=hto v1 rest hqd (λg hg=>by
   rw[hvv]
   rcases ht with rfl | ⟨_,rfl⟩<;>exact hg)
  have hm2:i<({j with adders:=j.adders.set i {j.adders[i]with pipes:=(j.adders[i]).pipes.set n0 rest}}:JobM).adders.length:=by simpa using ha
  obtain⟨vg,b1,b2,b3,hgo⟩:=hR2.gotA i hib hm2 (by show j.width<=9;omega)
  have hvg:vg=vg0:=by
   have e3:(wd.setCell ⟨gp',n0,none⟩ v1).cell? ⟨ab[i],0,none⟩=some vg0:=(World.cell?_of_block (a:=⟨ab[i],0,none⟩) (Below.heap_setCell wd ⟨gp',n0,none⟩ v1 ab[i] hbg)).trans ((hbd.cell (p:=⟨ab[i],0,none⟩) (Qan hc0)).trans hc0);exact Option.some.inj (b1.symm.trans e3)
  simp only[List.getElem_set_self,List.set_set]at b3 hgo;refine⟨vg,_,_,b1,b3,hgl,Nat.le_trans hB (Nat.le_trans hbd.size hF2.size),λg hg e=>?_,λwa w5 v' hba hown happ=>?_⟩
  ·rw[hvg]at hg;have:=(Qah hg0 g hg).2;omega
  ·obtain⟨r1,r2,f3,hR3,hF3,hS3⟩:=hgo wa v' w5 c hba hown happ;have hFd:FrmO f (λ_=>True) w wd:=.of_below hbd;exact⟨r1,r2,f3,hR3,(hFd.trans (Same.refl _ _) hF2).trans (λg hg=>hS2 g (Nat.lt_of_lt_of_le hg hbd.size)) hF3,λg hg=>(hS3 g (Nat.lt_of_lt_of_le hg (Nat.le_trans hbd.size hF2.size))).trans (hS2 g (Nat.lt_of_lt_of_le hg hbd.size))⟩
end
end
section
open Go.RowKit
theorem Tryz.infoBool:(Tryz.prog.info? 4).map (λi=>(i.zero,i.size,i.bytes))=some (some (.bool false),1,1):=by kernel_rfl
theorem Qj0(n:Nat):madeCells (Value.bool false).cells n=Array.replicate n (.bool false):=by
 apply Array.ext
 ·simp[madeCells]
 ·intro i h1 h2;simp[madeCells,Value.cells,Nat.mod_one]
theorem QaY(w:World)(n B:Nat)(hn:n<=1000)(hB:B<=w.heap.size):∃w',(∀kl kc,(Instr.makeSlice 78 (.int kl (n:Int)) (.int kc (n:Int))).run Tryz.prog w=.ok (.slice (some ⟨w.heap.size,0,none⟩) n n) w')/\w'.ownsRow B 4 1 (.slice (some ⟨w.heap.size,0,none⟩) n n) n (List.replicate n (.bool false))/\Below w.heap.size w w':=by
 obtain⟨i,hi,hz,hs,hb⟩:=info_parts Tryz.infoBool;refine⟨w.alloc (.cells (madeCells (Value.bool false).cells n) 4),λkl kc=>?_,?_,(Below.refl _ _).alloc (Nat.le_refl _) _⟩
 ·have:=run_make (P:=Tryz.prog) w 78 4 i (.bool false) Tryz.underlying78 hi hz kl kc (n:Int) (n:Int) omQ (Int.le_refl _) (by rw[hb];omega) omQ;rw[hs]at this
  simpa using this
 ·refine⟨by simp,.inr ⟨w.heap.size,n,madeCells (Value.bool false).cells n,rfl,hB,heap_alloc_new w _,Nat.le_refl _,by unfold maxLen;omega,by rw[size_madeCells];omega,?_⟩⟩;rw[Qj0];simp
theorem Tryz.infoChs:(Tryz.prog.info? 79).map (λi=>(i.zero,i.size,i.bytes))=some (some (.slice none 0 0),1,24):=by kernel_rfl
theorem QdS{P:Program}{md:Region.Mode}{ops:Array Oper}{Q:Exit->Act->World->Prop}{S:World->Prop}{fuel:Nat}{listed:Array Bool}{a a':Act}{w:World}(h:a=a')(h2:wpAnyH P md ops Q S fuel listed a' w):wpAnyH P md ops Q S fuel listed a w:=by
 rw[h];exact h2
theorem Qlj(n:Nat):madeCells (Value.slice none 0 0).cells n=Array.replicate n (.slice none 0 0):=by
 apply Array.ext
 ·simp[madeCells]
 ·intro i h1 h2;simp[madeCells,Value.cells,Nat.mod_one]
theorem Qbp(w:World)(n B:Nat)(hn:n<=1000)(hB:B<=w.heap.size):∃w',(∀kl kc,(Instr.makeSlice 77 (.int kl (n:Int)) (.int kc (n:Int))).run Tryz.prog w=.ok (.slice (some ⟨w.heap.size,0,none⟩) n n) w')/\w'.ownsRow B 79 1 (.slice (some ⟨w.heap.size,0,none⟩) n n) n (List.replicate n (.slice none 0 0))/\Below w.heap.size w w':=by
 obtain⟨i,hi,hz,hs,hb⟩:=info_parts Tryz.infoChs;refine⟨w.alloc (.cells (madeCells (Value.slice none 0 0).cells n) 79),λkl kc=>?_,?_,(Below.refl _ _).alloc (Nat.le_refl _) _⟩
 ·have:=run_make (P:=Tryz.prog) w 77 79 i (.slice none 0 0) Tryz.underlying77 hi hz kl kc (n:Int) (n:Int) omQ (Int.le_refl _) (by rw[hb];omega) omQ;rw[hs]at this
  simpa using this
 ·refine⟨by simp,.inr ⟨w.heap.size,n,madeCells (Value.slice none 0 0).cells n,rfl,hB,heap_alloc_new w _,Nat.le_refl _,by unfold maxLen;omega,by rw[size_madeCells];omega,?_⟩⟩;rw[Qlj];simp
theorem Qgb{f:Owners}{a b k:Nat}{c:Nat}(ha:f a=some c)(hb:f b=some (k+1))(h:c≠k+1:=by omega):a≠b:=λe=>by
 rw[e,hb]at ha;exact h (Option.some.inj ha).symm
theorem Qgy(w:World)(B:Nat)(e:TypeId)(s:Nat):qRow w B e s (.slice none 0 0) 0 []:=⟨by simp,.inl ⟨rfl,rfl⟩⟩
def Owners.new(f:Owners)(n:Nat)(g:Nat->Option Nat):Owners:=λx=>if x<n then f x else g x
theorem Owners.new_same(f:Owners)(n:Nat)(g:Nat->Option Nat):Same n f (f.new n g):=λx hx=>by simp[Owners.new,hx]
theorem Owners.new_at(f:Owners){n x:Nat}(g:Nat->Option Nat)(h:n<=x):f.new n g x=g x:=by simp[Owners.new,Nat.not_lt.2 h]
section
variable {f:Owners} {w:World} {B k jb:Nat} {sb ab:List Nat} {j:JobM}
theorem RJob.swapS(h:RJob f w B k jb sb ab j)(i:Nat)(hi:i<sb.length)(hi':i<j.sorters.length)(_hwid:j.width<=9){g1 cs':Nat}(c4:w.cell? ⟨jb,4,none⟩=some (.slice (some ⟨g1,0,none⟩) j.width cs'))
  {w2:World} (hb:Below w.heap.size w w2) {nb:Nat} (hnb:w.heap.size<=nb) {vg:Value} (s':SorterM) (hs':s'.pipe=[]) (hblk:w2.heap[nb]? =some (.cells #[vg,.slice none 0 0,.int .i64 (s'.marked:Int),.int .i64 (s'.kept:Int),.bool s'.passed] 75 (0,0)))
  (hrow:w2.ownsRow B 40 4 vg s'.got.length (evCells s'.got)) (hvg:∀g,vg.ownBlock=some g->w.heap.size<=g):
  w2.cell? ⟨g1,i,none⟩=some (.pointer (some ⟨sb[i],0,none⟩))/\w2.frozen? ⟨g1,i,none⟩=false/\g1≠nb/\g1≠jb/\
   ∃f',RJob f' (w2.setCell ⟨g1,i,none⟩ (.pointer (some ⟨nb,0,none⟩))) B k jb (sb.set i nb) ab {j with sorters:=j.sorters.set i s'}/\FrmO f (λ_=>True) w (w2.setCell ⟨g1,i,none⟩ (.pointer (some ⟨nb,0,none⟩)))/\Same w.heap.size f f':=by
 obtain⟨ve,vs,va,vr,hbx,he1,oe,hs1,os,ha1,oa,hr1,or'⟩:=h.box;have hc:w.cell? ⟨jb,4,none⟩=some vs:=Qad hbx 4;have hv:vs=.slice (some ⟨g1,0,none⟩) j.width cs':=Option.some.inj (hc.symm.trans c4);have og:f g1=some (k+2):=os g1 (by rw[hv];rfl);have hgl:g1<w.heap.size:=(Qah hs1 g1 (by rw[hv];rfl)).2;have hlS:=h.lenS;have hiw:i<j.width:=omQ;have hs2:=Qao hs1 hb
 have hvgn:vg.ownBlock≠some nb:=λe=>by
  obtain⟨cur,h1,_⟩:=QaO hrow e;rw[hblk]at h1;simp only[Option.some.injEq,Obj.cells.injEq]at h1;exact absurd h1.2.1 (by decide)
 have hf2:FrmO f (λc=>c=k+2) w w2:=.of_below hb;have hf3:FrmO f (λc=>c=k+2) w (w2.setCell ⟨g1,i,none⟩ (.pointer (some ⟨nb,0,none⟩))):=hf2.trans (Same.refl _ _) (FrmO.of_set (S:=λc=>c=k+2) og rfl _)
 have hs2':w2.ownsRow B 73 1 (.slice (some ⟨g1,0,none⟩) sb.length cs') sb.length (sb.map λb=>.pointer (some ⟨b,0,none⟩)):=by
  have e:vs=.slice (some ⟨g1,0,none⟩) sb.length cs':=by rw[hv,hlS.1]
  rw[<-e];exact hs2
 refine⟨?_,hs2'.frozenAt i,λe=>by omega,Qgb og h.own,f.new w.heap.size (λx=>if x=nb then some (k+100+i)else some (k+200+i)),?_,hf3.mono λ_ _=>trivial,Owners.new_same _ _ _⟩
 ·refine(hs2'.cellAt i omQ).trans ?_;rw[List.getElem?_map,List.getElem?_eq_getElem hi]
  rfl
 ·have hs:=Owners.new_same f w.heap.size (λx=>if x=nb then some (k+100+i)else some (k+200+i));have hst:=(hs2'.stored i (.pointer (some ⟨nb,0,none⟩))).1;refine⟨(hs jb (Qac hbx)).trans h.own,by simpa using hlS,h.lenA,⟨ve,vs,va,vr,Qaq hbx hf3 h.own omQ,Qaj he1 hf3 oe omQ,oe.same hs λg e=>(Qah he1 g e).2,?_,os.same hs λg e=>(Qah hs1 g e).2,Qaj ha1 hf3 oa omQ,oa.same hs λg e=>(Qah ha1 g e).2,Qaj hr1 hf3 or' omQ,or'.same hs λg e=>(Qah hr1 g e).2⟩,λm hm hm'=>?_,λm hm hm'=>?_,h.pipes⟩
  ·have e:vs=.slice (some ⟨g1,0,none⟩) sb.length cs':=by rw[hv,hlS.1]
   rw[e,List.length_set,List.map_set];exact hst
  ·by_cases e:m=i
   ·subst e;simp only[List.getElem_set_self];have hne:nb≠g1:=omQ;refine⟨by rw[Owners.new_at _ _ hnb];simp,vg,.slice none 0 0,?_,?_,λg hg=>?_,?_,λg hg=>by simp[Value.ownBlock]at hg⟩
    ·rw[Below.heap_setCell _ _ _ _ hne];exact hblk
    ·exact QaV hrow (Qak w2 g1 m _) λg hg e=>by
      simp only[Option.some.injEq]at e;have:=hvg g hg;omega
    ·rw[Owners.new_at _ _ (hvg g hg),if_neg (λe=>hvgn (by rw[hg,e]))]
    ·rw[hs'];exact Qgy _ _ _ _
   ·have hm1:m<sb.length:=by simpa using hm
    have hm2:m<j.sorters.length:=by simpa using hm'
    simp only[List.getElem_set_ne (λx=>e x.symm)];exact(h.sorters m hm1 hm2).frm hf3 hs omQ omQ omQ
  ·have hpl:=(h.pipes m hm').1;exact(h.adders m hm hm').frm hf3 hs omQ omQ omQ omQ (λq hq=>by omega)
theorem RJob.swapA(h:RJob f w B k jb sb ab j)(i:Nat)(hi:i<ab.length)(hi':i<j.adders.length)(hwid:j.width<=9){g2 ca:Nat}(c5:w.cell? ⟨jb,5,none⟩=some (.slice (some ⟨g2,0,none⟩) j.width ca))
  {w2:World} (hb:Below w.heap.size w w2) {nb:Nat} (hnb:w.heap.size<=nb) {vg vp vt:Value} (a':AdderM) (hp':a'.pipes=List.replicate j.width []) (ht':a'.stopped=List.replicate j.width false) (hblk:w2.heap[nb]? =some (.cells #[vg,vp,vt,.int .i64 (a'.marked:Int),.int .i64 (a'.kept:Int),.bool a'.passed] 81 (0,0)))
  (hrow:w2.ownsRow B 151 4 vg a'.got.length (chgCells a'.got)) (hvg:∀g,vg.ownBlock=some g->w.heap.size<=g)
  (hrowp:w2.ownsRow B 79 1 vp j.width (List.replicate j.width (.slice none 0 0))) (hvp:∀g,vp.ownBlock=some g->w.heap.size<=g)
  (hrowt:w2.ownsRow B 4 1 vt j.width (List.replicate j.width (.bool false))) (hvt:∀g,vt.ownBlock=some g->w.heap.size<=g):
  w2.cell? ⟨g2,i,none⟩=some (.pointer (some ⟨ab[i],0,none⟩))/\w2.frozen? ⟨g2,i,none⟩=false/\g2≠nb/\g2≠jb/\
   ∃f',RJob f' (w2.setCell ⟨g2,i,none⟩ (.pointer (some ⟨nb,0,none⟩))) B k jb sb (ab.set i nb) {j with adders:=j.adders.set i a'}/\FrmO f (λ_=>True) w (w2.setCell ⟨g2,i,none⟩ (.pointer (some ⟨nb,0,none⟩)))/\Same w.heap.size f f':=by
 obtain⟨ve,vs,va,vr,hbx,he1,oe,hs1,os,ha1,oa,hr1,or'⟩:=h.box;have hc:w.cell? ⟨jb,5,none⟩=some va:=Qad hbx 5;have hv:va=.slice (some ⟨g2,0,none⟩) j.width ca:=Option.some.inj (hc.symm.trans c5);have og:f g2=some (k+3):=oa g2 (by rw[hv];rfl);have hgl:g2<w.heap.size:=(Qah ha1 g2 (by rw[hv];rfl)).2;have hlA:=h.lenA;have hiw:i<j.width:=omQ;have ha2:=Qao ha1 hb
 have apart:∀ {e:TypeId} {s n:Nat} {v:Value} {xs:List Value},w2.ownsRow B e s v n xs->81≠e->v.ownBlock≠some nb:=λhr hne e=>by
  obtain⟨cur,h1,_⟩:=QaO hr e;rw[hblk]at h1;simp only[Option.some.injEq,Obj.cells.injEq]at h1;exact hne h1.2.1
 have hf2:FrmO f (λc=>c=k+3) w w2:=.of_below hb;have hf3:FrmO f (λc=>c=k+3) w (w2.setCell ⟨g2,i,none⟩ (.pointer (some ⟨nb,0,none⟩))):=hf2.trans (Same.refl _ _) (FrmO.of_set (S:=λc=>c=k+3) og rfl _)
 have ha2':w2.ownsRow B 76 1 (.slice (some ⟨g2,0,none⟩) ab.length ca) ab.length (ab.map λb=>.pointer (some ⟨b,0,none⟩)):=by
  have e:va=.slice (some ⟨g2,0,none⟩) ab.length ca:=by rw[hv,hlA.1]
  rw[<-e];exact ha2
 have keep:∀ {e:TypeId} {s n:Nat} {v:Value} {xs:List Value},w2.ownsRow B e s v n xs->(∀g,v.ownBlock=some g->w.heap.size<=g)->(w2.setCell ⟨g2,i,none⟩ (.pointer (some ⟨nb,0,none⟩))).ownsRow B e s v n xs:=λhr hl=>
  QaV hr (Qak w2 g2 i _) λg hg e=>by
   simp only[Option.some.injEq]at e;have:=hl g hg;omega
 have hgp:vg.ownBlock=none\/vg.ownBlock≠vp.ownBlock:=by
  cases hq:vg.ownBlock with
  | none=>exact .inl rfl
  | some g=>exact .inr λe=>QcT hrow hrowp (by decide) g hq e.symm
 have hgt:vg.ownBlock=none\/vg.ownBlock≠vt.ownBlock:=by
  cases hq:vg.ownBlock with
  | none=>exact .inl rfl
  | some g=>exact .inr λe=>QcT hrow hrowt (by decide) g hq e.symm
 have hpt:vp.ownBlock=none\/vp.ownBlock≠vt.ownBlock:=by
  cases hq:vp.ownBlock with
  | none=>exact .inl rfl
  | some g=>exact .inr λe=>QcT hrowp hrowt (by decide) g hq e.symm
 obtain⟨F,hF⟩:∃F:Nat->Option Nat,F=λx=>if x=nb then some (k+400+i)else if vg.ownBlock=some x then some (k+500+i)else if vp.ownBlock=some x then some (k+600+i)else some (k+700+i):=⟨_,rfl⟩
 refine⟨?_,ha2'.frozenAt i,λe=>by omega,Qgb og h.own,f.new w.heap.size F,?_,hf3.mono λ_ _=>trivial,Owners.new_same _ _ _⟩
 ·refine(ha2'.cellAt i omQ).trans ?_;rw[List.getElem?_map,List.getElem?_eq_getElem hi]
  rfl
 ·have hs:=Owners.new_same f w.heap.size F;have hst:=(ha2'.stored i (.pointer (some ⟨nb,0,none⟩))).1;refine⟨(hs jb (Qac hbx)).trans h.own,h.lenS,by simpa using hlA,⟨ve,vs,va,vr,Qaq hbx hf3 h.own omQ,Qaj he1 hf3 oe omQ,oe.same hs λg e=>(Qah he1 g e).2,Qaj hs1 hf3 os omQ,os.same hs λg e=>(Qah hs1 g e).2,?_,oa.same hs λg e=>(Qah ha1 g e).2,Qaj hr1 hf3 or' omQ,or'.same hs λg e=>(Qah hr1 g e).2⟩,λm hm hm'=>?_,λm hm hm'=>?_,λm hm=>?_⟩
  ·have e:va=.slice (some ⟨g2,0,none⟩) ab.length ca:=by rw[hv,hlA.1]
   rw[e,List.length_set,List.map_set];exact hst
  ·exact(h.sorters m hm hm').frm hf3 hs omQ omQ omQ
  ·by_cases e:m=i
   ·subst e;simp only[List.getElem_set_self];have hne:nb≠g2:=omQ;refine⟨by rw[Owners.new_at _ _ hnb,hF];simp,vg,vp,List.replicate j.width (.slice none 0 0),vt,?_,keep hrow hvg,λg hg=>?_,?_,λg hg=>?_,λq hq=>?_,?_,λg hg=>?_⟩
    ·rw[Below.heap_setCell _ _ _ _ hne];exact hblk
    ·rw[Owners.new_at _ _ (hvg g hg),hF];simp only;rw[if_neg (λe=>apart hrow (by decide) (by rw[hg,e])),if_pos hg]
    ·rw[hp',List.length_replicate];exact keep hrowp hvp
    ·rw[Owners.new_at _ _ (hvp g hg),hF];simp only;rw[if_neg (λe=>apart hrowp (by decide) (by rw[hg,e])),if_neg (λe=>hgp.elim (λh0=>by rw[h0]at e;cases e) λh0=>h0 (e.trans hg.symm)),if_pos hg]
    ·have hq':q<j.width:=by rw[hp',List.length_replicate]at hq;exact hq
     refine⟨.slice none 0 0,by rw[List.getElem?_replicate,if_pos hq'],?_,λg hg=>by simp[Value.ownBlock]at hg⟩
     have e0:a'.pipes[q]=[]:=by
      have:a'.pipes[q]? =some []:=by rw[hp',List.getElem?_replicate,if_pos hq']
      rw[List.getElem?_eq_getElem hq]at this;exact Option.some.inj this
     rw[e0];exact Qgy _ _ _ _
    ·rw[ht',List.length_replicate,List.map_replicate];exact keep hrowt hvt
    ·rw[Owners.new_at _ _ (hvt g hg),hF];simp only;rw[if_neg (λe=>apart hrowt (by decide) (by rw[hg,e])),if_neg (λe=>hgt.elim (λh0=>by rw[h0]at e;cases e) λh0=>h0 (e.trans hg.symm)),if_neg (λe=>hpt.elim (λh0=>by rw[h0]at e;cases e) λh0=>h0 (e.trans hg.symm))]
   ·have hm1:m<ab.length:=by simpa using hm
    have hm2:m<j.adders.length:=by simpa using hm'
    have hpl:=(h.pipes m hm2).1;simp only[List.getElem_set_ne (λx=>e x.symm)];exact(h.adders m hm1 hm2).frm hf3 hs omQ omQ omQ omQ (λq hq=>by omega)
  ·by_cases e:m=i
   ·subst e;simp only[List.getElem_set_self];rw[hp',ht'];simp
   ·simp only[List.getElem_set_ne (λx=>e x.symm)];exact h.pipes m (by simpa using hm)
theorem RJob.backTo(h:RJob f w B k jb sb ab j):w.cell? ⟨jb,11,none⟩=some (.int .i64 (j.base:Int))/\w.cell? ⟨jb,7,none⟩=some (.bool j.under)/\w.cell? ⟨jb,3,none⟩=some (.int .i64 (j.sent:Int))/\w.frozen? ⟨jb,7,none⟩=false/\w.frozen? ⟨jb,3,none⟩=false/\
  RAfter f w B k jb sb ab {j with under:=false,sent:=j.base} ((w.setCell ⟨jb,7,none⟩ (.bool false)).setCell ⟨jb,3,none⟩ (.int .i64 (j.base:Int))):=by
 obtain⟨ve,vs,va,vr,hb,_⟩:=h.box;have hf:FrmO f (λc=>c=k+1) w ((w.setCell ⟨jb,7,none⟩ (.bool false)).setCell ⟨jb,3,none⟩ (.int .i64 (j.base:Int))):=(FrmO.of_set (S:=λc=>c=k+1) h.own rfl _).trans (Same.refl _ _) (FrmO.of_set (S:=λc=>c=k+1) h.own rfl _);refine⟨Qad hb 11,Qad hb 7,Qad hb 3,Qab hb 7,Qab hb 3,f,h.putBox hf (Same.refl _ _) rfl rfl rfl rfl rfl λve vs va vr hbx=>?_,hf.mono λ_ _=>trivial,Same.refl _ _⟩;have:=Qas (j:=3) (Qas (j:=7) hbx (.bool false)) (.int .i64 (j.base:Int));exact this
end
def forgS(s:SorterM):SorterM:=⟨s.got.take s.kept,[],s.kept,s.kept,false⟩
def forgA(W:Nat)(a:AdderM):AdderM:=⟨a.got.take a.kept,List.replicate W [],List.replicate W false,a.kept,a.kept,false⟩
def JobM.fgt(j:JobM)(a b:Nat):JobM:={j with under:=false,sent:=j.base,sorters:=firstN forgS j.sorters a,adders:=firstN (forgA j.width) j.adders b}
def RAfterF(f:Owners)(w:World)(B k jb:Nat)(j':JobM)(w':World):Prop:=∃f' sb' ab',RJob f' w' B k jb sb' ab' j'/\FrmO f (λ_=>True) w w'/\Same w.heap.size f f'
end
section
open Go.RowKit
structure RPart (f:Owners) (w:World) (B k jb:Nat) (sb ab:List Nat) (W R:Nat) (es:List Ev) (vs va:Value):Prop where
 own:f jb=some (k+1)
 box:∃ve,w.heap[jb]? =some (.cells #[.int .i64 (W:Int),.int .i64 (R:Int),ve,.int .i64 0,vs,va,.int .i64 0,.bool false,.bool false,.int .i64 0,.bool false,.int .i64 0,.slice none 0 0] 72 (0,0))/\
  w.ownsRow B 40 4 ve es.length (evCells es)/\IsOf f (k+4) ve
 rs:w.ownsRow B 73 1 vs sb.length (sb.map λb=>.pointer (some ⟨b,0,none⟩))
 os:IsOf f (k+2) vs
 ra:w.ownsRow B 76 1 va ab.length (ab.map λb=>.pointer (some ⟨b,0,none⟩))
 oa:IsOf f (k+3) va
 sorters:∀i (h:i<sb.length),RSorter f w B k i sb[i] newS
 adders:∀i (h:i<ab.length),RAdder f w B k i ab[i] (newA W)
section
variable {f:Owners} {w:World} {B k jb:Nat} {sb ab:List Nat} {W R:Nat} {es:List Ev} {vs va:Value}
theorem RPart.done(h:RPart f w B k jb sb ab W R es vs va)(h1:sb.length=W)(h2:ab.length=W):RJob f w B k jb sb ab (newJ W R es):=by
 obtain⟨ve,hb,he,oe⟩:=h.box;refine⟨h.own,⟨h1,by simp[newJ]⟩,⟨h2,by simp[newJ]⟩,⟨ve,vs,va,.slice none 0 0,hb,he,oe,h.rs,h.os,h.ra,h.oa,World.ownsRow_nil _ _ _ _,λg hg=>by simp[Value.ownBlock]at hg⟩,λi hi hi'=>?_,λi hi hi'=>?_,λi hi=>?_⟩
 ·have e:(newJ W R es).sorters[i]=newS:=by simp[newJ]
  rw[e];exact h.sorters i hi
 ·have e:(newJ W R es).adders[i]=newA W:=by simp[newJ]
  rw[e];exact h.adders i hi
 ·have e:(newJ W R es).adders[i]=newA W:=by simp[newJ]
  rw[e];simp[newA,newJ]
theorem RPart.addS(h:RPart f w B k jb sb ab W R es vs va)(_hl:sb.length<=9){wa w5:World}{nb:Nat}{v':Value}(hba:Below w.heap.size w wa)(hnb:w.heap.size<=nb)(hblk:wa.heap[nb]? =some (.cells #[.slice none 0 0,.slice none 0 0,.int .i64 0,.int .i64 0,.bool false] 75 (0,0)))
  (hrow:w5.ownsRow B 73 1 v' (sb.length+1) ((sb.map λb=>.pointer (some ⟨b,0,none⟩))++[.pointer (some ⟨nb,0,none⟩)])) (happ:AppQ wa w5 vs v'):
  w5.cell? ⟨jb,4,none⟩=some vs/\w5.frozen? ⟨jb,4,none⟩=false/\∃f',RPart f' (w5.setCell ⟨jb,4,none⟩ v') B k jb (sb++[nb]) ab W R es v' va/\FrmO f (λ_=>True) w (w5.setCell ⟨jb,4,none⟩ v')/\Same w.heap.size f f':=by
 obtain⟨ve,hbx,he,oe⟩:=h.box;have hjl:=Qac hbx;have hf5:FrmO f (λc=>c=k+2) w w5:=(FrmO.of_below hba).trans (Same.refl _ _) (happ.frm h.os);have hb5:=Qaq hbx hf5 h.own omQ;have hf6:FrmO f (λc=>c=k+1\/c=k+2) w (w5.setCell ⟨jb,4,none⟩ v'):=(hf5.mono λ_ hc=>.inr hc).trans (Same.refl _ _) (FrmO.of_set (S:=λc=>c=k+1\/c=k+2) h.own (.inl rfl) _);have hnl:=Qac hblk
 have hnb5:w5.heap[nb]? =some (.cells #[.slice none 0 0,.slice none 0 0,.int .i64 0,.int .i64 0,.bool false] 75 (0,0)):=by
  rw[(Qat happ).block nb hnl (λe=>by have:=(Qah h.rs nb e.symm).2;omega)];exact hblk
 have hs:=Owners.new_same f w.heap.size (λx=>if x=nb then some (k+100+sb.length)else some (k+2))
 have hv':IsOf (f.new w.heap.size (λx=>if x=nb then some (k+100+sb.length)else some (k+2))) (k+2) v':=λg hg=>by
  rcases happ with⟨_,h2⟩ | ⟨_,h2,_⟩
  ·rw[h2]at hg;simp only[Option.some.injEq]at hg;rw[Owners.new_at _ _ (by have:=hba.size;omega),if_neg omQ]
  ·rw[h2]at hg;rw[hs g (Qah h.rs g hg).2];exact h.os g hg
 have hne:∀g,v'.ownBlock=some g->g≠jb:=λg hg e=>by
  have h1:=hv' g hg;rw[e,hs jb hjl,h.own]at h1;simp at h1
 refine⟨Qad hb5 4,Qab hb5 4,_,⟨(hs jb hjl).trans h.own,⟨ve,?_,Qaj he hf6 oe omQ,oe.same hs λg e=>(Qah he g e).2⟩,?_,hv',Qaj h.ra hf6 h.oa omQ,h.oa.same hs λg e=>(Qah h.ra g e).2,λi hi=>?_,λi hi=>?_⟩,hf6.mono λ_ _=>trivial,hs⟩
 ·have:=Qas (j:=4) hb5 v';exact this
 ·rw[List.length_append,List.map_append]
  exact QaV hrow (Qak w5 jb 4 v') λg hg e=>hne g hg (by simp at e;exact e.symm)
 ·by_cases e:i<sb.length
  ·rw[List.getElem_append_left e];exact(h.sorters i e).frm hf6 hs omQ omQ omQ
  ·have e2:i=sb.length:=by simp at hi;omega
   subst e2;simp only[List.getElem_append_right (Nat.le_refl _),Nat.sub_self,List.getElem_cons_zero];refine⟨by rw[Owners.new_at _ _ hnb];simp,.slice none 0 0,.slice none 0 0,?_,World.ownsRow_nil _ _ _ _,λg hg=>by simp[Value.ownBlock]at hg,Qgy _ _ _ _,λg hg=>by simp[Value.ownBlock]at hg⟩;rw[Below.heap_setCell _ _ _ _ (by show nb≠jb;omega)];exact hnb5
 ·exact(h.adders i hi).frm hf6 hs omQ omQ omQ omQ (λm hm=>by omega)
theorem RPart.addA(h:RPart f w B k jb sb ab W R es vs va)(hl:ab.length<=9){wa w5:World}{nb:Nat}{v' vp vt:Value}(hba:Below w.heap.size w wa)(hnb:w.heap.size<=nb)(hblk:wa.heap[nb]? =some (.cells #[.slice none 0 0,vp,vt,.int .i64 0,.int .i64 0,.bool false] 81 (0,0)))
  (hrowp:wa.ownsRow B 79 1 vp W (List.replicate W (.slice none 0 0))) (hvp:∀g,vp.ownBlock=some g->w.heap.size<=g)
  (hrowt:wa.ownsRow B 4 1 vt W (List.replicate W (.bool false))) (hvt:∀g,vt.ownBlock=some g->w.heap.size<=g)
  (hrow:w5.ownsRow B 76 1 v' (ab.length+1) ((ab.map λb=>.pointer (some ⟨b,0,none⟩))++[.pointer (some ⟨nb,0,none⟩)])) (happ:AppQ wa w5 va v'):
  w5.cell? ⟨jb,5,none⟩=some va/\w5.frozen? ⟨jb,5,none⟩=false/\∃f',RPart f' (w5.setCell ⟨jb,5,none⟩ v') B k jb sb (ab++[nb]) W R es vs v'/\FrmO f (λ_=>True) w (w5.setCell ⟨jb,5,none⟩ v')/\Same w.heap.size f f':=by
 obtain⟨ve,hbx,he,oe⟩:=h.box;have hjl:=Qac hbx;have hf5:FrmO f (λc=>c=k+3) w w5:=(FrmO.of_below hba).trans (Same.refl _ _) (happ.frm h.oa);have hb5:=Qaq hbx hf5 h.own omQ;have hf6:FrmO f (λc=>c=k+1\/c=k+3) w (w5.setCell ⟨jb,5,none⟩ v'):=(hf5.mono λ_ hc=>.inr hc).trans (Same.refl _ _) (FrmO.of_set (S:=λc=>c=k+1\/c=k+3) h.own (.inl rfl) _);have hnl:=Qac hblk
 have hold:∀g,w.heap.size<=g->g<wa.heap.size->w5.heap[g]? =wa.heap[g]? :=λg h1 h2=>(Qat happ).block g h2 (λe=>by have:=(Qah h.ra g e.symm).2;omega)
 have apart:∀ {e:TypeId} {s n:Nat} {v:Value} {xs:List Value},wa.ownsRow B e s v n xs->81≠e->v.ownBlock≠some nb:=λhr hne e=>by
  obtain⟨cur,h1,_⟩:=QaO hr e;rw[hblk]at h1;simp only[Option.some.injEq,Obj.cells.injEq]at h1;exact hne h1.2.1
 have hpt:vp.ownBlock=none\/vp.ownBlock≠vt.ownBlock:=by
  cases hq:vp.ownBlock with
  | none=>exact .inl rfl
  | some g=>exact .inr λe=>QcT hrowp hrowt (by decide) g hq e.symm
 have keep:∀ {e:TypeId} {s n:Nat} {v:Value} {xs:List Value},wa.ownsRow B e s v n xs->(∀g,v.ownBlock=some g->w.heap.size<=g)->(w5.setCell ⟨jb,5,none⟩ v').ownsRow B e s v n xs:=λhr hv=>by
  refine QaV (QaV hr (Qat happ) λg hg e=>?_) (Qak w5 jb 5 v') λg hg e=>?_
  ·have h1:=(Qah h.ra g e).2;have h2:=hv g hg;omega
  ·simp only[Option.some.injEq]at e;have:=hv g hg;omega
 obtain⟨F,hF⟩:∃F:Nat->Option Nat,F=λx=>if x=nb then some (k+400+ab.length)else if vp.ownBlock=some x then some (k+600+ab.length)else if vt.ownBlock=some x then some (k+700+ab.length)else some (k+3):=⟨_,rfl⟩
 have hs:=Owners.new_same f w.heap.size F
 have hv':IsOf (f.new w.heap.size F) (k+3) v':=λg hg=>by
  rcases happ with⟨_,h2⟩ | ⟨_,h2,_⟩
  ·rw[h2]at hg;simp only[Option.some.injEq]at hg;rw[Owners.new_at _ _ (by have:=hba.size;omega),hF];simp only;rw[if_neg omQ,if_neg (λe=>by have:=(Qah hrowp g e).2;omega),if_neg (λe=>by have:=(Qah hrowt g e).2;omega)]
  ·rw[h2]at hg;rw[hs g (Qah h.ra g hg).2];exact h.oa g hg
 have hne:∀g,v'.ownBlock=some g->g≠jb:=λg hg e=>by
  have h1:=hv' g hg;rw[e,hs jb hjl,h.own]at h1;simp at h1
 refine⟨Qad hb5 5,Qab hb5 5,_,⟨(hs jb hjl).trans h.own,⟨ve,?_,Qaj he hf6 oe omQ,oe.same hs λg e=>(Qah he g e).2⟩,Qaj h.rs hf6 h.os omQ,h.os.same hs λg e=>(Qah h.rs g e).2,?_,hv',λi hi=>?_,λi hi=>?_⟩,hf6.mono λ_ _=>trivial,hs⟩
 ·have:=Qas (j:=5) hb5 v';exact this
 ·rw[List.length_append,List.map_append]
  exact QaV hrow (Qak w5 jb 5 v') λg hg e=>hne g hg (by simp at e;exact e.symm)
 ·exact(h.sorters i hi).frm hf6 hs omQ omQ omQ
 ·by_cases e:i<ab.length
  ·rw[List.getElem_append_left e];exact(h.adders i e).frm hf6 hs omQ omQ omQ omQ (λm hm=>by omega)
  ·have e2:i=ab.length:=by simp at hi;omega
   subst e2;simp only[List.getElem_append_right (Nat.le_refl _),Nat.sub_self,List.getElem_cons_zero];refine⟨by rw[Owners.new_at _ _ hnb,hF];simp,.slice none 0 0,vp,List.replicate W (.slice none 0 0),vt,?_,World.ownsRow_nil _ _ _ _,λg hg=>by simp[Value.ownBlock]at hg,?_,λg hg=>?_,λq hq=>?_,?_,λg hg=>?_⟩
   ·rw[Below.heap_setCell _ _ _ _ (by show nb≠jb;omega),hold nb hnb hnl];exact hblk
   ·simp only[newA,List.length_replicate];exact keep hrowp hvp
   ·rw[Owners.new_at _ _ (hvp g hg),hF];simp only;rw[if_neg (λe=>apart hrowp (by decide) (by rw[hg,e])),if_pos hg]
   ·have hq':q<W:=by simpa[newA]using hq
    refine⟨.slice none 0 0,by rw[List.getElem?_replicate,if_pos hq'],?_,λg hg=>by simp[Value.ownBlock]at hg⟩
    have e0:(newA W).pipes[q]=[]:=by simp[newA]
    rw[e0];exact Qgy _ _ _ _
   ·simp only[newA,List.length_replicate,List.map_replicate];exact keep hrowt hvt
   ·rw[Owners.new_at _ _ (hvt g hg),hF];simp only;rw[if_neg (λe=>apart hrowt (by decide) (by rw[hg,e])),if_neg (λe=>hpt.elim (λh0=>by rw[h0]at e;cases e) λh0=>h0 (e.trans hg.symm)),if_pos hg]
theorem RPart.start(w1:World)(B k W R:Nat)(es:List Ev)(ve:Value)(he:w1.ownsRow B 40 4 ve es.length (evCells es)):
  RPart (λx=>if x=w1.heap.size then some (k+1)else if ve.ownBlock=some x then some (k+4)else none) (w1.alloc (.cells #[.int .i64 (W:Int),.int .i64 (R:Int),ve,.int .i64 0,.slice none 0 0,.slice none 0 0,.int .i64 0,.bool false,.bool false,.int .i64 0,.bool false,.int .i64 0,.slice none 0 0] 72)) B k w1.heap.size [] [] W R es (.slice none 0 0) (.slice none 0 0):=by
 refine⟨by simp,⟨ve,heap_alloc_new w1 _,he.alloc _,λg hg=>?_⟩,World.ownsRow_nil _ _ _ _,λg hg=>by simp[Value.ownBlock]at hg,World.ownsRow_nil _ _ _ _,λg hg=>by simp[Value.ownBlock]at hg,λi hi=>by simp at hi,λi hi=>by simp at hi⟩;have:=(Qah he g hg).2;simp only;rw[if_neg omQ,if_pos hg]
end
end
section
open Go.RowKit
theorem QeZ(rs ts:List RowM):rowmCells (rs++ts)=rowmCells rs++rowmCells ts:=by simp[rowmCells]
theorem Qgv(r:RowM):rowmCells [r]=rowmCells1 r:=by simp[rowmCells]
theorem QaD:∀(rs:List RowM) (k:Nat) (h:k<rs.length) (j:Nat),j<5->(rowmCells rs)[k*5+j]? =(rowmCells1 rs[k])[j]?
 | r :: rs,0,_,j,hj=>by
  simp only[rowmCells,List.flatMap_cons,Nat.zero_mul,Nat.zero_add,List.getElem_cons_zero]
  rw[List.getElem?_append_left (by simp[rowmCells1];omega)]
 | r :: rs,k+1,h,j,hj=>by
  have ih:=QaD rs k (by simpa using h) j hj;simp only[rowmCells,List.flatMap_cons,List.getElem_cons_succ]at ih ⊢;rw[List.getElem?_append_right (by simp[rowmCells1];omega),<-ih];congr 1;simp[rowmCells1];omega
theorem Qgc(r:RowM):∀(rs:List RowM) (k:Nat),k<rs.length->
  (((((rowmCells rs).set (k*5) (.int .i64 r.pt)).set (k*5+1) (.string r.tx)).set (k*5+2) (.int .i64 r.live)).set (k*5+3) (.int .i64 r.sum)).set (k*5+4) (.int .i64 (r.ev:Int))=rowmCells (rs.set k r)
 | x :: rs,0,_=>by simp[rowmCells,rowmCells1]
 | x :: rs,k+1,h=>by
  have ih:=Qgc r rs k (by simpa using h);have hl:(rowmCells1 x).length=5:=rfl;simp only[rowmCells,List.flatMap_cons,List.set_cons_succ]at ih ⊢;rw[<-ih];rw[List.set_append_right _ _ omQ,List.set_append_right _ _ omQ,List.set_append_right _ _ omQ,List.set_append_right _ _ omQ,List.set_append_right _ _ omQ,hl];rw[show(k+1)*5-5=k*5 from by omega,show(k+1)*5+1-5=k*5+1 from by omega,show(k+1)*5+2-5=k*5+2 from by omega,show(k+1)*5+3-5=k*5+3 from by omega,show(k+1)*5+4-5=k*5+4 from by omega]
def placeM(rs:List RowM)(p:Int):Nat:=rs.findIdx (λr=>decide (r.pt=p))
theorem Qj1(a:Option Addr)(c:Nat)(rs:List RowM)(p:Int)(B:Nat)(w:World)(hlen:rs.length<=100000)(hown:w.ownsRow B 140 5 (.slice a rs.length c) rs.length (rowmCells rs)):
  Calls Tryz.prog 70 #[.slice a rs.length c,.int .i64 p] w λen w'=>en=.returned (.int .i64 (placeM rs p:Int))/\w'=w:=by
 have HO:Hid (w.ownsRow B 140 5 (.slice a rs.length c) rs.length (rowmCells rs)):=hown;clear hown;go_enter Tryz.func70,Tryz.ntmps70;go_wp2
 go_loopw [5] (λi wr=>∃j:Nat,j<=rs.length/\i=.int .i64 (j:Int)/\(∀k (h:k<rs.length),k<j->¬rs[k].pt=p)/\wr=w) (λi _=>rs.length-(intOf i).toNat)
 case atStart=>exact⟨0,Nat.zero_le _,rfl,λ_ _ h=>absurd h (Nat.not_lt_zero _),rfl⟩
 case round=>
  obtain⟨j,hj,rfl,hno,rfl⟩:=hrel
  by_cases hjl:j<rs.length
  ·rcases Qai HO.out with⟨_,h0⟩ | ⟨g,rfl⟩
   ·omega
   have c0:=(HO.out.cellAt (j*5) omQ).trans (QaD rs j hjl 0 (by decide));have e0:(rowmCells1 (rs[j]'hjl))[0]? =some (.int .i64 (rs[j]'hjl).pt):=rfl;rw[e0]at c0;clear e0 HO;have hji:(j:Int)<(rs.length:Int):=omQ;have hj0:(0:Int)<=(j:Int):=omQ
   by_cases hp:(rs[j]'hjl).pt=p
   ·have hf:placeM rs p=j:=by
     unfold placeM;rw[List.findIdx_eq hjl];exact⟨by simp[hp],λk hk=>by simpa using hno k omQ hk⟩
    rw[hp]at c0;go_wp2;go_ret;exact⟨by rw[hf];rfl,rfl⟩
   ·have hpi:((rs[j]'hjl).pt==p)=false:=by rw[beq_eq_false_iff_ne];exact hp
    have hno':∀k (h:k<rs.length),k<j+1->¬rs[k].pt=p:=by
     intro k h hk
     by_cases e:k=j
     ·subst e;exact hp
     ·exact hno k h omQ
    generalize(rs[j]'hjl).pt=q at c0 hpi;go_wp2
    go_roundw
    case rel=>exact⟨j+1,by omega,by go_num,hno',by first | trivial | rfl⟩
    case measure=>simp[intOf];omega
  ·have hjj:j=rs.length:=omQ;subst hjj
   have hf:placeM rs p=rs.length:=by
    unfold placeM;rw[List.findIdx_eq_length];intro x hx;obtain⟨k,hk,rfl⟩:=List.getElem_of_mem hx
    simpa using hno k hk hk
   go_wp2;go_ret;exact⟨by rw[hf];rfl,rfl⟩
theorem Qlk(rs:List RowM)(p:Int):placeM rs p<=rs.length:=List.findIdx_le_length
section
variable {f f':Owners} {w w':World} {B k jb:Nat} {sb ab:List Nat} {j:JobM}
def keptS(s:SorterM):SorterM:={s with kept:=s.marked}
def keptA(a:AdderM):AdderM:={a with kept:=a.marked}
theorem RJob.keepS(h:RJob f w B k jb sb ab j)(i:Nat)(hi:i<sb.length)(hi':i<j.sorters.length)(hwid:j.width<=9):
  w.cell? ⟨sb[i],2,none⟩=some (.int .i64 ((j.sorters[i]).marked:Int))/\w.cell? ⟨sb[i],3,none⟩=some (.int .i64 ((j.sorters[i]).kept:Int))/\w.frozen? ⟨sb[i],3,none⟩=false/\
   RAfter f w B k jb sb ab {j with sorters:=j.sorters.set i (keptS j.sorters[i])} (w.setCell ⟨sb[i],3,none⟩ (.int .i64 ((j.sorters[i]).marked:Int))):=by
 obtain⟨ho,vg,vp,hb,hg,og,hp,op⟩:=h.sorters i hi hi'
 have hiw:i<j.width:=by rw[<-h.lenS.1];exact hi
 have hf:FrmO f (λc=>c=k+100+i) w (w.setCell ⟨sb[i],3,none⟩ (.int .i64 ((j.sorters[i]).marked:Int))):=FrmO.of_set (S:=λc=>c=k+100+i) ho rfl _;refine⟨Qad hb 2,Qad hb 3,Qab hb 3,f,h.putS i hi _ (S:=λc=>c=k+100+i) (λc hc=>.inl hc) hf (Same.refl _ _) hwid ⟨ho,vg,vp,?_,Qaj hg hf og omQ,og,Qbo hp hf op omQ,op⟩,hf.mono λ_ _=>trivial,Same.refl _ _⟩;have:=Qas (j:=3) hb (.int .i64 ((j.sorters[i]).marked:Int));exact this
theorem RJob.keepA(h:RJob f w B k jb sb ab j)(i:Nat)(hi:i<ab.length)(hi':i<j.adders.length)(hwid:j.width<=9):
  w.cell? ⟨ab[i],3,none⟩=some (.int .i64 ((j.adders[i]).marked:Int))/\w.cell? ⟨ab[i],4,none⟩=some (.int .i64 ((j.adders[i]).kept:Int))/\w.frozen? ⟨ab[i],4,none⟩=false/\
   RAfter f w B k jb sb ab {j with adders:=j.adders.set i (keptA j.adders[i])} (w.setCell ⟨ab[i],4,none⟩ (.int .i64 ((j.adders[i]).marked:Int))):=by
 obtain⟨ho,vg,vp,vs,vt,hb,hg,og,hp,op,hq,ht,ot⟩:=h.adders i hi hi'
 have hiw:i<j.width:=by rw[<-h.lenA.1];exact hi
 have hpl:=(h.pipes i hi').1;have hf:FrmO f (λc=>c=k+400+i) w (w.setCell ⟨ab[i],4,none⟩ (.int .i64 ((j.adders[i]).marked:Int))):=FrmO.of_set (S:=λc=>c=k+400+i) ho rfl _;refine⟨Qad hb 3,Qad hb 4,Qab hb 4,f,h.putA i hi _ (S:=λc=>c=k+400+i) (λc hc=>.inl hc) hf (Same.refl _ _) hwid ⟨ho,vg,vp,vs,vt,?_,Qaj hg hf og omQ,og,Qaj hp hf op omQ,op,λm hm=>?_,Qaj ht hf ot omQ,ot⟩ (h.pipes i hi'),hf.mono λ_ _=>trivial,Same.refl _ _⟩
 ·have:=Qas (j:=4) hb (.int .i64 ((j.adders[i]).marked:Int));exact this
 ·obtain⟨v,hv,hqv,ov⟩:=hq m hm;exact⟨v,hv,Qbo hqv hf ov omQ,ov⟩
theorem RJob.putRows(h:RJob f w B k jb sb ab j)(rows:List RowM)(hf:FrmO f (λc=>c=k+1\/c=k+5) w w')(hs:Same w.heap.size f f')
  (hb:∀ve vs va vr,w.heap[jb]? =some (.cells (jobCells j ve vs va vr) 72 (0,0))->∃vr',w'.heap[jb]? =some (.cells (jobCells j ve vs va vr') 72 (0,0))/\w'.ownsRow B 140 5 vr' rows.length (rowmCells rows)/\IsOf f' (k+5) vr'):RJob f' w' B k jb sb ab {j with rows:=rows}:=by
 obtain⟨ve,vs,va,vr,hbx,he1,oe,hs1,os,ha1,oa,hr1,or'⟩:=h.box;obtain⟨vr',b1,b2,b3⟩:=hb ve vs va vr hbx;refine⟨(hs jb (Qac hbx)).trans h.own,h.lenS,h.lenA,⟨ve,vs,va,vr',b1,Qaj he1 hf oe omQ,oe.same hs λg e=>(Qah he1 g e).2,Qaj hs1 hf os omQ,os.same hs λg e=>(Qah hs1 g e).2,Qaj ha1 hf oa omQ,oa.same hs λg e=>(Qah ha1 g e).2,b2,b3⟩,λi hi hi'=>?_,λi hi hi'=>?_,h.pipes⟩
 ·exact(h.sorters i hi hi').frm hf hs omQ omQ omQ
 ·exact(h.adders i hi hi').frm hf hs omQ omQ omQ omQ (λm hm=>by omega)
theorem RJob.viewRows(h:RJob f w B k jb sb ab j):∃vr,w.cell? ⟨jb,12,none⟩=some vr/\w.frozen? ⟨jb,12,none⟩=false/\w.ownsRow B 140 5 vr j.rows.length (rowmCells j.rows)/\
  (∀wa v' w5 (r:RowM),Below w.heap.size w wa->w5.ownsRow B 140 5 v' (j.rows.length+1) (rowmCells j.rows++rowmCells1 r)->AppQ wa w5 vr v'->
   w5.cell? ⟨jb,12,none⟩=some vr/\w5.frozen? ⟨jb,12,none⟩=false/\RAfter f w B k jb sb ab {j with rows:=j.rows++[r]} (w5.setCell ⟨jb,12,none⟩ v'))/\
  (∀(m g c:Nat) (r:RowM),m<j.rows.length->vr=.slice (some ⟨g,0,none⟩) j.rows.length c->g≠jb/\(∀o,w.frozen? ⟨g,o,none⟩=false)/\RAfter f w B k jb sb ab {j with rows:=j.rows.set m r} (((((w.setCell ⟨g,m*5,none⟩ (.int .i64 r.pt)).setCell ⟨g,m*5+1,none⟩ (.string r.tx)).setCell ⟨g,m*5+2,none⟩ (.int .i64 r.live)).setCell ⟨g,m*5+3,none⟩ (.int .i64 r.sum)).setCell ⟨g,m*5+4,none⟩ (.int .i64 (r.ev:Int)))):=by
 obtain⟨ve,vs,va,vr,hbx,he1,oe,hs1,os,ha1,oa,hr1,or'⟩:=h.box;refine⟨vr,Qad hbx 12,Qab hbx 12,hr1,λwa v' w5 r hba hq5 happ=>?_,λm g c r hm hv=>?_⟩
 ·have hf5:FrmO f (λc=>c=k+5) w w5:=(FrmO.of_below hba).trans (Same.refl _ _) (happ.frm or');have hb5:=Qaq hbx hf5 h.own omQ;obtain⟨f',hs',hv'⟩:=happ.owner hba or'
  have hf6:FrmO f (λc=>c=k+1\/c=k+5) w (w5.setCell ⟨jb,12,none⟩ v'):=
   (hf5.mono λ_ hc=>.inr hc).trans (Same.refl _ _) (FrmO.of_set (S:=λc=>c=k+1\/c=k+5) h.own (.inl rfl) _)
  have hne:∀g,v'.ownBlock=some g->g≠jb:=λg hg e=>by
   have h1:=hv' g hg;rw[e,hs' jb (Qac hbx),h.own]at h1;simp at h1
  refine⟨Qad hb5 12,Qab hb5 12,f',h.putRows _ hf6 hs' λve' vs' va' vr' hbx'=>⟨v',?_,?_,hv'⟩,hf6.mono λ_ _=>trivial,hs'⟩
  ·have hbx5:=Qaq hbx' hf5 h.own omQ;have:=Qas (j:=12) hbx5 v';exact this
  ·rw[List.length_append,QeZ,Qgv]
   exact QaV hq5 (Qak w5 jb 12 v') λg hg e=>hne g hg (by simp at e;exact e.symm)
 ·subst hv;have og:f g=some (k+5):=or' g rfl
  have hgj:g≠jb:=λe=>by
   rw[e,h.own]at og;simp at og
  have one:∀(o:Nat) (u:Value) (w:World),FrmO f (λc=>c=k+1\/c=k+5) w (w.setCell ⟨g,o,none⟩ u):=λo u w=>FrmO.of_set (S:=λc=>c=k+1\/c=k+5) og (.inr rfl) _
  have s0:=(hr1.stored (m*5) (.int .i64 r.pt)).1;have s1:=(s0.stored (m*5+1) (.string r.tx)).1;have s2:=(s1.stored (m*5+2) (.int .i64 r.live)).1;have s3:=(s2.stored (m*5+3) (.int .i64 r.sum)).1;have s4:=(s3.stored (m*5+4) (.int .i64 (r.ev:Int))).1;rw[Qgc r j.rows m hm]at s4;have hf6:=((((one (m*5) (.int .i64 r.pt) w).trans (Same.refl _ _) (one (m*5+1) (.string r.tx) _)).trans (Same.refl _ _) (one (m*5+2) (.int .i64 r.live) _)).trans (Same.refl _ _) (one (m*5+3) (.int .i64 r.sum) _)).trans (Same.refl _ _) (one (m*5+4) (.int .i64 (r.ev:Int)) _);refine⟨hgj,λo=>hr1.frozenAt o,f,h.putRows _ hf6 (Same.refl _ _) λve' vs' va' vr' hbx'=>⟨vr',?_,?_,?_⟩,hf6.mono λ_ _=>trivial,Same.refl _ _⟩
  ·rw[Below.heap_setCell _ _ _ _ hgj.symm,Below.heap_setCell _ _ _ _ hgj.symm,Below.heap_setCell _ _ _ _ hgj.symm,Below.heap_setCell _ _ _ _ hgj.symm,Below.heap_setCell _ _ _ _ hgj.symm];exact hbx'
  ·have hvr:vr'=.slice (some ⟨g,0,none⟩) j.rows.length c:=by
    have h1:w.cell? ⟨jb,12,none⟩=some vr':=Qad hbx' 12;have h2:w.cell? ⟨jb,12,none⟩=some (.slice (some ⟨g,0,none⟩) j.rows.length c):=Qad hbx 12;exact Option.some.inj (h1.symm.trans h2)
   rw[hvr,List.length_set];exact s4
  ·have hvr:vr'=.slice (some ⟨g,0,none⟩) j.rows.length c:=by
    have h1:w.cell? ⟨jb,12,none⟩=some vr':=Qad hbx' 12;have h2:w.cell? ⟨jb,12,none⟩=some (.slice (some ⟨g,0,none⟩) j.rows.length c):=Qad hbx 12;exact Option.some.inj (h1.symm.trans h2)
   rw[hvr];exact or'
theorem RJob.gotCells(h:RJob f w B k jb sb ab j)(m:Nat)(hm:m<ab.length)(hm':m<j.adders.length)(hne:0<(j.adders[m]).got.length):∃g c,w.cell? ⟨ab[m],0,none⟩=some (.slice (some ⟨g,0,none⟩) (j.adders[m]).got.length c)/\(j.adders[m]).got.length<=c/\IsChgs w g (j.adders[m]).got:=by
 obtain⟨ho,vg,vp,vs,vt,hb,hg,og,_⟩:=h.adders m hm hm';obtain⟨a,c,rfl⟩:=Qaf hg
 rcases Qai hg with⟨_,h0⟩ | ⟨g,rfl⟩
 ·omega
 have hat:∀(cs:List ChgM) (n:Nat) (h:n<cs.length) (o:Nat),o<4->(chgCells cs)[n*4+o]? =(chgCells1 cs[n])[o]? :=by
  intro cs
  induction cs with
  | nil=>intro n h;simp at h
  | cons x cs ih=>
   intro n h o hoo
   cases n with
   | zero=>
    simp only[chgCells,List.flatMap_cons,Nat.zero_mul,Nat.zero_add,List.getElem_cons_zero]
    rw[List.getElem?_append_left (by simp[chgCells1];omega)]
   | succ n=>
    have:=ih n (by simpa using h) o hoo;simp only[chgCells,List.flatMap_cons,List.getElem_cons_succ]at this ⊢;rw[List.getElem?_append_right (by simp[chgCells1];omega),<-this];congr 1;simp[chgCells1];omega
 refine⟨g,c,Qad hb 0,Qdp hg,(Qbt hg).2,λn hn=>⟨?_,?_,?_,?_⟩⟩
 ·exact(hg.cellAt (n*4) omQ).trans (hat _ n hn 0 (by decide))
 ·exact(hg.cellAt (n*4+1) omQ).trans (hat _ n hn 1 (by decide))
 ·exact(hg.cellAt (n*4+2) omQ).trans (hat _ n hn 2 (by decide))
 ·exact(hg.cellAt (n*4+3) omQ).trans (hat _ n hn 3 (by decide))
end
theorem IsChgs.take{w:World}{b:Nat}{l:List ChgM}(h:IsChgs w b l)(n:Nat):IsChgs w b (l.take n):=⟨h.1,λj hj=>by
 have hj':j<l.length:=by rw[List.length_take]at hj;omega
 have e:(l.take n)[j]=l[j]:=List.getElem_take;rw[e]
 exact h.2 j hj'⟩
theorem Qcm{w w':World}{g o:Nat}{v:Value}(h:w.cell? ⟨g,o,none⟩=some v)(hb:Below w.heap.size w w')(hg:g<w.heap.size):w'.cell? ⟨g,o,none⟩=some v:=(hb.cell (p:=⟨g,o,none⟩) hg).trans h
theorem IsChgs.below{w w':World}{b:Nat}{l:List ChgM}(h:IsChgs w b l)(hb:Below w.heap.size w w'):IsChgs w' b l:=⟨Nat.lt_of_lt_of_le h.1 hb.size,λj hj=>by
 obtain⟨a1,a2,a3,a4⟩:=h.2 j hj
 exact⟨Qcm a1 hb h.1,Qcm a2 hb h.1,Qcm a3 hb h.1,Qcm a4 hb h.1⟩⟩
def JobM.com(j:JobM)(a b:Nat)(rows:List RowM):JobM:={j with sorters:=firstN keptS j.sorters a,adders:=firstN keptA j.adders b,rows:=rows}
end
end Go.Proofs.YthccpacmklhejabGreatDoor
