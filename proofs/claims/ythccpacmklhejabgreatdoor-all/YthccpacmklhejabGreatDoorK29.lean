import Derived.Test.YthccpacmklhejabGreatDoorTk
import Derived.Test.YthccpacmklhejabGreatDoorK28
import Derived.Test.YthccpacmklhejabGreatDoorK19
set_option maxHeartbeats 3000000
set_option maxRecDepth 100000
namespace Go.Proofs.YthccpacmklhejabGreatDoor
section
open Go.RowKit
def AppQ(w w':World)(v v':Value):Prop:=(w.grownBy w' none/\v'.ownBlock=some w.heap.size)\/(w.grownBy w' v.ownBlock/\v'.ownBlock=v.ownBlock/\v.ownBlock≠none)
theorem AppQ.frm{f:Owners}{w w':World}{v v':Value}{c:Nat}(h:AppQ w w' v v')(hv:IsOf f c v):FrmO f (λx=>x=c) w w':=by
 rcases h with⟨h1,_⟩ | ⟨h1,_,_⟩
 ·exact .of_grown h1 λg hg=>by cases hg
 ·exact .of_grown h1 λg hg=>⟨c,hv g hg,rfl⟩
section
variable {f:Owners} {w:World} {B k jb:Nat} {sb ab:List Nat} {j:JobM}
theorem RJob.pipeS(h:RJob f w B k jb sb ab j)(i:Nat)(hi:i<sb.length)(hi':i<j.sorters.length)(hwid:j.width<=9):
  ∃vp,w.cell? ⟨sb[i],1,none⟩=some vp/\w.frozen? ⟨sb[i],1,none⟩=false/\qRow w B 3 1 vp (j.sorters[i]).pipe.length ((j.sorters[i]).pipe.map (Value.int .i64))/\sb[i] <w.heap.size/\
   (∀wa v' w5 (x:Int),Below w.heap.size w wa->qRow w5 B 3 1 v' ((j.sorters[i]).pipe.length+1) ((j.sorters[i]).pipe.map (Value.int .i64)++[.int .i64 x])->AppQ wa w5 vp v'->
    w5.cell? ⟨sb[i],1,none⟩=some vp/\w5.frozen? ⟨sb[i],1,none⟩=false/\
    ∃f',RJob f' (w5.setCell ⟨sb[i],1,none⟩ v') B k jb sb ab {j with sorters:=j.sorters.set i {j.sorters[i]with pipe:=(j.sorters[i]).pipe++[x]}}/\FrmO f (λ_=>True) w (w5.setCell ⟨sb[i],1,none⟩ v')/\Same w.heap.size f f'):=by
 obtain⟨ho,vg,vp,hb,hg,og,hp,op⟩:=h.sorters i hi hi'
 have hiw:i<j.width:=by rw[<-h.lenS.1];exact hi
 have hsl:=Qac hb;refine⟨vp,Qad hb 1,Qab hb 1,hp,hsl,λwa v' w5 x hba hq happ=>?_⟩;have hfa:FrmO f (λc=>c=k+300+i) w wa:=.of_below hba;have opa:∀g,vp.ownBlock=some g->f g=some (k+300+i):=op;have hf5:FrmO f (λc=>c=k+300+i) w w5:=hfa.trans (Same.refl _ _) (happ.frm op);have hb5:w5.heap[sb[i]]? =some (.cells #[vg,vp,.int .i64 ((j.sorters[i]).marked:Int),.int .i64 ((j.sorters[i]).kept:Int),.bool (j.sorters[i]).passed] 75 (0,0)):=Qaq hb hf5 ho omQ
 have hne:v'.ownBlock≠some sb[i]:=λe=>by
  obtain⟨_,cur,hc⟩:=hq.lt _ e;rw[hb5]at hc;simp only[Option.some.injEq,Obj.cells.injEq]at hc;have:=hc.2.1;exact absurd this (by decide)
 refine⟨Qad hb5 1,Qab hb5 1,?_⟩
 obtain⟨f',hs',hv'⟩:∃f':Owners,Same w.heap.size f f'/\∀g,v'.ownBlock=some g->f' g=some (k+300+i):=by
  rcases happ with⟨h1,h2⟩ | ⟨h1,h2,h3⟩
  ·refine⟨f.put wa.heap.size (k+300+i),λg hg=>Owners.put_same f wa.heap.size (k+300+i) g (Nat.lt_of_lt_of_le hg hba.size),λg hg=>?_⟩;rw[h2]at hg;simp only[Option.some.injEq]at hg;rw[<-hg];exact Owners.put_self _ _ _
  ·exact⟨f,Same.refl _ _,λg hg=>op g (by rw[<-h2];exact hg)⟩
 have hf6:FrmO f (λc=>c=k+100+i\/c=k+300+i) w (w5.setCell ⟨sb[i],1,none⟩ v'):=
  (hf5.mono λ_ hc=>.inr hc).trans (Same.refl _ _) (FrmO.of_set (S:=λc=>c=k+100+i\/c=k+300+i) ho (.inl rfl) _)
 refine⟨f',h.putS i hi _ (S:=λc=>c=k+100+i\/c=k+300+i) (λc hc=>hc.elim .inl λe=>.inr (.inr e)) hf6 hs' hwid ⟨(hs' _ hsl).trans ho,vg,v',?_,?_,og.same hs' λg e=>(Qah hg g e).2,?_,hv'⟩,hf6.mono λ_ _=>trivial,hs'⟩
 ·have:=Qas (j:=1) hb5 v';exact this
 ·exact Qaj hg hf6 og omQ
 ·have hq6:=hq.kept (Qak w5 sb[i] 1 v') (λg hg e=>by simp only[Option.some.injEq]at e;exact hne (e ▸ hg));simp only[List.length_append,List.length_cons,List.length_nil,List.map_append,List.map_cons,List.map_nil];exact hq6
end
end
section
open Go.RowKit
theorem RJob.drewN{f:Owners}{w:World}{B k jb:Nat}{sb ab:List Nat}{j:JobM}(h:RJob f w B k jb sb ab j)(n:Nat):RJob f (w.drewN n) B k jb sb ab j:=
 h.putBox ((FrmO.refl f _ w).drewN n) (Same.refl _ _) rfl rfl rfl rfl rfl (λ_ _ _ _ h=>h)
def RAfter(f:Owners)(w:World)(B k jb:Nat)(sb ab:List Nat)(j':JobM)(w':World):Prop:=∃f',RJob f' w' B k jb sb ab j'/\FrmO f (λ_=>True) w w'/\Same w.heap.size f f'
theorem RAfter.same{f:Owners}{w:World}{B k jb:Nat}{sb ab:List Nat}{j:JobM}(h:RJob f w B k jb sb ab j)(n:Nat):RAfter f w B k jb sb ab j (w.drewN n):=⟨f,h.drewN n,(FrmO.refl f _ w).drewN n,Same.refl _ _⟩
section
variable {f:Owners} {w:World} {B k jb:Nat} {sb ab:List Nat} {j:JobM}
theorem Qee(h:RJob f w B k jb sb ab j):∃ea ec gs cs',w.cell? ⟨jb,0,none⟩=some (.int .i64 (j.width:Int))/\w.cell? ⟨jb,1,none⟩=some (.int .i64 (j.room:Int))/\w.cell? ⟨jb,2,none⟩=some (.slice ea j.events.length ec)/\w.cell? ⟨jb,3,none⟩=some (.int .i64 (j.sent:Int))/\w.cell? ⟨jb,4,none⟩=some (.slice gs j.width cs')/\w.cell? ⟨jb,7,none⟩=some (.bool j.under)/\w.cell? ⟨jb,8,none⟩=some (.bool j.barriers)/\
  (∀i (hi:i<sb.length),∃g,gs=some ⟨g,0,none⟩/\w.cell? ⟨g,i,none⟩=some (.pointer (some ⟨sb[i],0,none⟩)))/\
  (∀n (hn:n<j.events.length),∃g,ea=some ⟨g,0,none⟩/\w.cell? ⟨g,n*4+1,none⟩=some (.string (j.events[n]).key)):=by
 obtain⟨ve,vs,va,vr,hb,he,_,hs,_⟩:=h.box;obtain⟨ea,ec,rfl⟩:=Qaf he;obtain⟨gs,cs',rfl⟩:=Qaf hs;have hc4:w.cell? ⟨jb,4,none⟩=some (.slice gs sb.length cs'):=Qad hb 4;rw[h.lenS.1]at hc4;refine⟨ea,ec,gs,cs',Qad hb 0,Qad hb 1,Qad hb 2,Qad hb 3,hc4,Qad hb 7,Qad hb 8,λi hi=>?_,λn hn=>?_⟩
 ·rcases Qai hs with⟨_,h0⟩ | ⟨g,rfl⟩
  ·omega
  ·refine⟨g,rfl,(hs.cellAt i omQ).trans ?_⟩;rw[List.getElem?_map,List.getElem?_eq_getElem hi]
   rfl
 ·rcases Qai he with⟨_,h0⟩ | ⟨g,rfl⟩
  ·omega
  ·refine⟨g,rfl,?_⟩;have:=QcQ he n hn;exact this.2.1
theorem Qhs(h:RJob f w B k jb sb ab j)(hu:(j.under && !j.barriers)=false)(hs:j.sent=j.events.length):
  Calls Tryz.prog 45 #[.pointer (some ⟨jb,0,none⟩)] w λen w'=>en=.returned (.int .i64 8)/\RAfter f w B k jb sb ab j w':=by
 obtain⟨ea,ec,gs,cs',c0,c1,c2,c3,c4,c7,c8,hS,hEv⟩:=Qee h
 have HR:=show Hid _ from λn=>RAfter.same h n
 clear h hS hEv;rw[hs]at c3;clear hs
 have hq:((j.events.length:Int)==(j.events.length:Int))=true:=by simp
 generalize j.events.length=N at c2 c3 hq
 cases h7:j.under with
 | false=>
  rw[h7]at c7;go_enter Tryz.func45,Tryz.ntmps45;go_wp2
  go_quiet (fail)
  go_wp2;go_ret
  exact⟨rfl,HR.out nq⟩
 | true=>
  rw[h7]at c7 hu
  have h8:j.barriers=true:=by simpa using hu
  rw[h8]at c8;go_enter Tryz.func45,Tryz.ntmps45;go_wp2
  go_quiet (fail)
  go_wp2;go_ret;exact⟨rfl,HR.out nq⟩
end
end
section
open Go.RowKit
structure SrcC (w:World) (jb W rm N sn:Nat) (und bar:Bool) (g1 g2 b1 ec cs' i:Nat) (key:ByteArray):Prop where
 c0:w.cell? ⟨jb,0,none⟩=some (.int .i64 (W:Int))
 c1:w.cell? ⟨jb,1,none⟩=some (.int .i64 (rm:Int))
 c2:w.cell? ⟨jb,2,none⟩=some (.slice (some ⟨g2,0,none⟩) N ec)
 c3:w.cell? ⟨jb,3,none⟩=some (.int .i64 (sn:Int))
 c4:w.cell? ⟨jb,4,none⟩=some (.slice (some ⟨g1,0,none⟩) W cs')
 c7:w.cell? ⟨jb,7,none⟩=some (.bool und)
 c8:w.cell? ⟨jb,8,none⟩=some (.bool bar)
 d1:w.cell? ⟨g1,i,none⟩=some (.pointer (some ⟨b1,0,none⟩))
 d2:w.cell? ⟨g2,sn*4+1,none⟩=some (.string key)
 hu:(und && !bar)=false
 hs:sn<N
 hN:N<=400
 hW:1<=W/\W<=4
 hk:key.size<=1000
 hi:hashS key % W=i
theorem Qml{w:World}{jb W rm N sn:Nat}{und bar:Bool}{g1 g2 b1 ec cs' i:Nat}{key:ByteArray}(h:SrcC w jb W rm N sn und bar g1 g2 b1 ec cs' i key)(qa:Option Addr)(qc:Nat)(p1:w.cell? ⟨b1,1,none⟩=some (.slice qa rm qc)):
  Calls Tryz.prog 45 #[.pointer (some ⟨jb,0,none⟩)] w λen w'=>en=.returned (.int .i64 9)/\∃n,w'=w.drewN n:=by
 obtain⟨c0,c1,c2,c3,c4,c7,c8,d1,d2,hu,hs,hN,hW,hk,hix⟩:=h
 have HH:=show Hid _ from λw=>Qha key w hk
 generalize hhx:hashS key=hh at *
 have hq0:((sn:Int)==(N:Int))=false:=by rw[beq_eq_false_iff_ne];omega
 have hs0:(sn:Int)<(N:Int):=omQ;have hs1:(0:Int)<=(sn:Int):=omQ
 have hr0:((W:Int)==0)=false:=by rw[beq_eq_false_iff_ne];omega
 have hr1:(hh:Int).tmod (W:Int)=(i:Int):=by rw[Int.tmod_eq_emod_of_nonneg omQ];omega
 have hi0:(0:Int)<=(i:Int):=omQ
 have hilt:i<W:=by rw[<-hix];exact Nat.mod_lt _ omQ
 have hi1:(i:Int)<(W:Int):=omQ
 have hf0:((rm:Int)==(rm:Int))=true:=by simp
 clear hix hhx
 cases und with
 | false=>
  go_enter Tryz.func45,Tryz.ntmps45;go_wp2
  go_quiet (fail)
  go_wp2
  have HD:=show Hid (∃q,w.drewN nq=w.drewN q)from⟨_,rfl⟩
  have c0:(w.drewN nq).cell? ⟨jb,0,none⟩=_:=c0;have c1:(w.drewN nq).cell? ⟨jb,1,none⟩=_:=c1;have c2:(w.drewN nq).cell? ⟨jb,2,none⟩=_:=c2;have c3:(w.drewN nq).cell? ⟨jb,3,none⟩=_:=c3;have c4:(w.drewN nq).cell? ⟨jb,4,none⟩=_:=c4;have d1:(w.drewN nq).cell? ⟨g1,i,none⟩=_:=d1;have d2:(w.drewN nq).cell? ⟨g2,sn*4+1,none⟩=_:=d2;have p1:(w.drewN nq).cell? ⟨b1,1,none⟩=_:=p1;clear c7 c8;generalize w.drewN nq=w1 at HD c0 c1 c2 c3 c4 d1 d2 p1 ⊢;clear nq
  go_quiet (first | (go_at_call 76;refine Calls.quiet_of (HH.out _)))
  go_wp2
  go_quiet (fail)
  go_wp2;go_ret;obtain⟨q,rfl⟩:=HD.out;refine⟨rfl,?_⟩;simp only[World.drewN_drewN]
  exact⟨_,rfl⟩
 | true=>
  have h8:bar=true:=by simpa using hu
  subst h8;go_enter Tryz.func45,Tryz.ntmps45;go_wp2
  go_quiet (fail)
  go_wp2
  have HD:=show Hid (∃q,w.drewN nq=w.drewN q)from⟨_,rfl⟩
  have c0:(w.drewN nq).cell? ⟨jb,0,none⟩=_:=c0;have c1:(w.drewN nq).cell? ⟨jb,1,none⟩=_:=c1;have c2:(w.drewN nq).cell? ⟨jb,2,none⟩=_:=c2;have c3:(w.drewN nq).cell? ⟨jb,3,none⟩=_:=c3;have c4:(w.drewN nq).cell? ⟨jb,4,none⟩=_:=c4;have d1:(w.drewN nq).cell? ⟨g1,i,none⟩=_:=d1;have d2:(w.drewN nq).cell? ⟨g2,sn*4+1,none⟩=_:=d2;have p1:(w.drewN nq).cell? ⟨b1,1,none⟩=_:=p1;clear c7 c8;generalize w.drewN nq=w1 at HD c0 c1 c2 c3 c4 d1 d2 p1 ⊢;clear nq
  go_quiet (first | (go_at_call 76;refine Calls.quiet_of (HH.out _)))
  go_wp2
  go_quiet (fail)
  go_wp2;go_ret;obtain⟨q,rfl⟩:=HD.out;refine⟨rfl,?_⟩;simp only[World.drewN_drewN];exact⟨_,rfl⟩
theorem QcE{w:World}{B n sz:Nat}{e:TypeId}{v:Value}{xs:List Value}(h:qRow w B e sz v n xs)(o:Obj):qRow (w.alloc o) B e sz v n xs:=
 h.kept (w':=w.alloc o) (row:=none) ⟨rfl,rfl,rfl,by simp,λk hk _=>Below.heap_alloc w o k hk⟩ (λg hg e=>by cases e)
def SrcGo(w:World)(B jb b1 ln sn:Nat)(vp:Value)(xs:List Value)(en:Ending)(w':World):Prop:=
 en=.returned (.int .i64 0)/\∃wa v' w5,Below w.heap.size w wa/\qRow w5 B 3 1 v' (ln+1) (xs++[.int .i64 (sn:Int)])/\AppQ wa w5 vp v'/\w'=(w5.setCell ⟨b1,1,none⟩ v').setCell ⟨jb,3,none⟩ (.int .i64 ((sn:Int)+1))
theorem Qng{w:World}{jb W rm N sn:Nat}{und bar:Bool}{g1 g2 b1 ec cs' i:Nat}{key:ByteArray}(h:SrcC w jb W rm N sn und bar g1 g2 b1 ec cs' i key){B ln:Nat}{xs:List Value}(qa:Option Addr)(qc:Nat)(p1:w.cell? ⟨b1,1,none⟩=some (.slice qa ln qc))(hln:ln<rm/\rm<=400)(hB:B<=w.heap.size)(hq:qRow w B 3 1 (.slice qa ln qc) ln xs)
  (HP:∀wa v' w5,Below w.heap.size w wa->qRow w5 B 3 1 v' (ln+1) (xs++[.int .i64 (sn:Int)])->AppQ wa w5 (.slice qa ln qc) v'->w5.cell? ⟨b1,1,none⟩=some (.slice qa ln qc)/\w5.frozen? ⟨b1,1,none⟩=false/\(w5.cell? ⟨jb,3,none⟩=some (.int .i64 (sn:Int))/\(w5.setCell ⟨b1,1,none⟩ v').cell? ⟨jb,3,none⟩=some (.int .i64 (sn:Int)))/\(w5.setCell ⟨b1,1,none⟩ v').frozen? ⟨jb,3,none⟩=false):
  Calls Tryz.prog 45 #[.pointer (some ⟨jb,0,none⟩)] w λen w'=>SrcGo w B jb b1 ln sn (.slice qa ln qc) xs en w':=by
 obtain⟨c0,c1,c2,c3,c4,c7,c8,d1,d2,hu,hs,hN,hW,hk,hix⟩:=h;obtain⟨i0,hi0,hz0,hz1,hz2⟩:=info_parts Tryz.infoIntQ
 have HH:=show Hid _ from λw=>Qha key w hk
 generalize hhx:hashS key=hh at *
 have hq0:((sn:Int)==(N:Int))=false:=by rw[beq_eq_false_iff_ne];omega
 have hs0:(sn:Int)<(N:Int):=omQ;have hs1:(0:Int)<=(sn:Int):=omQ
 have hr0:((W:Int)==0)=false:=by rw[beq_eq_false_iff_ne];omega
 have hr1:(hh:Int).tmod (W:Int)=(i:Int):=by rw[Int.tmod_eq_emod_of_nonneg omQ];omega
 have hi5:(0:Int)<=(i:Int):=omQ
 have hilt:i<W:=by rw[<-hix];exact Nat.mod_lt _ omQ
 have hi6:(i:Int)<(W:Int):=omQ
 have hf0:((ln:Int)==(rm:Int))=false:=by rw[beq_eq_false_iff_ne];omega
 clear hix hhx
 cases und with
 | false=>
  go_enter Tryz.func45,Tryz.ntmps45;go_wp2
  go_quiet (fail)
  go_wp2
  have HD:=show Hid (Below w.heap.size w (w.drewN nq)/\qRow (w.drewN nq) B 3 1 (.slice qa ln qc) ln xs)from⟨below_drewN (Below.refl _ _) nq,hq⟩
  have c0:(w.drewN nq).cell? ⟨jb,0,none⟩=_:=c0;have c1:(w.drewN nq).cell? ⟨jb,1,none⟩=_:=c1;have c2:(w.drewN nq).cell? ⟨jb,2,none⟩=_:=c2;have c3:(w.drewN nq).cell? ⟨jb,3,none⟩=_:=c3;have c4:(w.drewN nq).cell? ⟨jb,4,none⟩=_:=c4;have d1:(w.drewN nq).cell? ⟨g1,i,none⟩=_:=d1;have d2:(w.drewN nq).cell? ⟨g2,sn*4+1,none⟩=_:=d2;have p1:(w.drewN nq).cell? ⟨b1,1,none⟩=_:=p1;clear c7 c8 hq;generalize w.drewN nq=w1 at HD c0 c1 c2 c3 c4 d1 d2 p1 ⊢;clear nq
  go_quiet (first | (go_at_call 76;refine Calls.quiet_of (HH.out _)))
  revert nq
  intro n1;go_wp2
  go_quiet (fail)
  go_wp2
  have HO:=show Hid (Below w.heap.size w ((w1.drewN n1).drewN nq).drew/\qRow ((w1.drewN n1).drewN nq).drew B 3 1 (.slice qa ln qc) ln xs)from⟨(below_drewN (below_drewN HD.out.1 _) _).drew,HD.out.2⟩
  have c3:((w1.drewN n1).drewN nq).drew.cell? ⟨jb,3,none⟩=_:=c3;have p1:((w1.drewN n1).drewN nq).drew.cell? ⟨b1,1,none⟩=_:=p1;clear HD;refine wp_region_held_drew (S:=λw':World=>w'.cell? ⟨jb,3,none⟩=some (.int .i64 (sn:Int))) krQ c3 (λhH=>?_);generalize((w1.drewN n1).drewN nq).drew=wd at HO c3 p1 hH ⊢;clear c0 c1 c2 c4 d1 d2;refine tkQ 0 (.pointer (some ⟨b1,0,none⟩)) hH ?_;refine tkQ 1 (.pointer (some ⟨b1,0,none⟩)) hH ?_;refine tkQ 2 (.pointer (some ⟨b1,0,none⟩)) hH ?_;refine tkQ 3 (.pointer (some ⟨b1,1,none⟩)) hH ?_;refine tkQ 5 (.pointer (some ⟨jb,0,none⟩)) hH ?_;refine tkQ 6 (.pointer (some ⟨jb,0,none⟩)) hH ?_;refine tkQ 7 (.pointer (some ⟨jb,3,none⟩)) hH ?_;refine tlQ 8 (.int .i64 (sn:Int)) rfl (by intro v hSw;have s0:=hSw;clear hSw;go_simp) hH ?_;have c3a:(wd.alloc (.cells #[.int .i64 (sn:Int)] 3)).cell? ⟨jb,3,none⟩=some (.int .i64 (sn:Int)):=(((Below.refl wd.heap.size wd).alloc (Nat.le_refl _) _).cell (p:=⟨jb,3,none⟩) (Qan c3)).trans c3;have p1a:(wd.alloc (.cells #[.int .i64 (sn:Int)] 3)).cell? ⟨b1,1,none⟩=some (.slice qa ln qc):=(((Below.refl wd.heap.size wd).alloc (Nat.le_refl _) _).cell (p:=⟨b1,1,none⟩) (Qan p1)).trans p1;refine rdQ [4,9] ?_;refine AllReadyH.cons rfl (λK hK=>?_) (arQ λK hK=>?_)
  focus
   clear hH;go_simp;refine hK.out _ _ c3 (λhH=>?_);clear hK K;refine rdQ [9] ?_
   refine arQ λK hK=>?_
   clear hH;go_simp;refine hK.out _ _ c3a (λhH=>?_);clear hK K
  rotate_left
  focus
   clear hH;go_simp;refine hK.out _ _ c3a (λhH=>?_);clear hK K;refine rdQ [4] ?_
   refine arQ λK hK=>?_
   clear hH;go_simp;refine hK.out _ _ c3a (λhH=>?_);clear hK K
  all_goals
   refine rdQ [10] ?_
   refine arQ λK hK=>?_
   refine QaM rfl ?_
   have HBa:=show Hid (Below w.heap.size w (wd.alloc (.cells #[.int .i64 (sn:Int)] 3)))from HO.out.1.alloc HO.out.1.size _
   refine QbP _ (.tmp 127) (.tmp 132) 32 rfl B 3 i0 (.int .i64 0) 1 8 Tryz.underlying32 hi0 hz0 hz1 hz2 rfl (.slice qa ln qc) ln xs rfl (QcE HO.out.2 _) ⟨wd.heap.size,0,none⟩ 1 [.int .i64 (sn:Int)] rfl rfl (cell_one_new wd _ _) (λu hu=>by simp at hu;subst hu;rfl) (by omega) (by omega) (by have:=HO.out.1.size;simp;omega) ?_;intro v' w5 hq5 happ;obtain⟨p5,z5,c5,z6⟩:=HP _ v' w5 HBa.out hq5 happ;have c5':w5.cell? ⟨jb,3,none⟩=some (.int .i64 (sn:Int)):=c5.1;refine hK.out _ _ c5' (λhH=>?_)
   have HF:=show Hid (_/\_/\_)from And.intro HBa.out (And.intro hq5 happ)
   obtain⟨va,vc,rfl⟩:=hq5.shape;clear hK K HO HBa hq5 happ p1a c3a;refine tkQ 11 (.pointer (some ⟨b1,0,none⟩)) hH ?_;refine tkQ 12 (.pointer (some ⟨b1,1,none⟩)) hH ?_;refine rdQ [13] ?_
   refine arQ λK hK=>?_
   clear hH;go_simp;refine hK.out _ _ c5.2 (λhH=>?_);clear hK K hH;refine wpAnyH_done krQ ?_ _;have c6:=c5.2;clear p5 z5 c5 c5';generalize hw6:w5.setCell ⟨b1,1,none⟩ (.slice va (ln+1) vc)=w6 at c6 z6 ⊢;go_wp2;go_ret
   exact⟨rfl,_,_,_,HF.out.1,HF.out.2.1,HF.out.2.2,by rw[hw6]⟩
 | true=>
  have h8:bar=true:=by simpa using hu
  subst h8;go_enter Tryz.func45,Tryz.ntmps45;go_wp2
  go_quiet (fail)
  go_wp2
  have HD:=show Hid (Below w.heap.size w (w.drewN nq)/\qRow (w.drewN nq) B 3 1 (.slice qa ln qc) ln xs)from⟨below_drewN (Below.refl _ _) nq,hq⟩
  have c0:(w.drewN nq).cell? ⟨jb,0,none⟩=_:=c0;have c1:(w.drewN nq).cell? ⟨jb,1,none⟩=_:=c1;have c2:(w.drewN nq).cell? ⟨jb,2,none⟩=_:=c2;have c3:(w.drewN nq).cell? ⟨jb,3,none⟩=_:=c3;have c4:(w.drewN nq).cell? ⟨jb,4,none⟩=_:=c4;have d1:(w.drewN nq).cell? ⟨g1,i,none⟩=_:=d1;have d2:(w.drewN nq).cell? ⟨g2,sn*4+1,none⟩=_:=d2;have p1:(w.drewN nq).cell? ⟨b1,1,none⟩=_:=p1;clear c7 c8 hq;generalize w.drewN nq=w1 at HD c0 c1 c2 c3 c4 d1 d2 p1 ⊢;clear nq
  go_quiet (first | (go_at_call 76;refine Calls.quiet_of (HH.out _)))
  revert nq
  intro n1;go_wp2
  go_quiet (fail)
  go_wp2
  have HO:=show Hid (Below w.heap.size w ((w1.drewN n1).drewN nq).drew/\qRow ((w1.drewN n1).drewN nq).drew B 3 1 (.slice qa ln qc) ln xs)from⟨(below_drewN (below_drewN HD.out.1 _) _).drew,HD.out.2⟩
  have c3:((w1.drewN n1).drewN nq).drew.cell? ⟨jb,3,none⟩=_:=c3;have p1:((w1.drewN n1).drewN nq).drew.cell? ⟨b1,1,none⟩=_:=p1;clear HD;refine wp_region_held_drew (S:=λw':World=>w'.cell? ⟨jb,3,none⟩=some (.int .i64 (sn:Int))) krQ c3 (λhH=>?_);generalize((w1.drewN n1).drewN nq).drew=wd at HO c3 p1 hH ⊢;clear c0 c1 c2 c4 d1 d2;refine tkQ 0 (.pointer (some ⟨b1,0,none⟩)) hH ?_;refine tkQ 1 (.pointer (some ⟨b1,0,none⟩)) hH ?_;refine tkQ 2 (.pointer (some ⟨b1,0,none⟩)) hH ?_;refine tkQ 3 (.pointer (some ⟨b1,1,none⟩)) hH ?_;refine tkQ 5 (.pointer (some ⟨jb,0,none⟩)) hH ?_;refine tkQ 6 (.pointer (some ⟨jb,0,none⟩)) hH ?_;refine tkQ 7 (.pointer (some ⟨jb,3,none⟩)) hH ?_;refine tlQ 8 (.int .i64 (sn:Int)) rfl (by intro v hSw;have s0:=hSw;clear hSw;go_simp) hH ?_;have c3a:(wd.alloc (.cells #[.int .i64 (sn:Int)] 3)).cell? ⟨jb,3,none⟩=some (.int .i64 (sn:Int)):=(((Below.refl wd.heap.size wd).alloc (Nat.le_refl _) _).cell (p:=⟨jb,3,none⟩) (Qan c3)).trans c3;have p1a:(wd.alloc (.cells #[.int .i64 (sn:Int)] 3)).cell? ⟨b1,1,none⟩=some (.slice qa ln qc):=(((Below.refl wd.heap.size wd).alloc (Nat.le_refl _) _).cell (p:=⟨b1,1,none⟩) (Qan p1)).trans p1;refine rdQ [4,9] ?_;refine AllReadyH.cons rfl (λK hK=>?_) (arQ λK hK=>?_)
  focus
   clear hH;go_simp;refine hK.out _ _ c3 (λhH=>?_);clear hK K;refine rdQ [9] ?_
   refine arQ λK hK=>?_
   clear hH;go_simp;refine hK.out _ _ c3a (λhH=>?_);clear hK K
  rotate_left
  focus
   clear hH;go_simp;refine hK.out _ _ c3a (λhH=>?_);clear hK K;refine rdQ [4] ?_
   refine arQ λK hK=>?_
   clear hH;go_simp;refine hK.out _ _ c3a (λhH=>?_);clear hK K
  all_goals
   refine rdQ [10] ?_
   refine arQ λK hK=>?_
   refine QaM rfl ?_
   have HBa:=show Hid (Below w.heap.size w (wd.alloc (.cells #[.int .i64 (sn:Int)] 3)))from HO.out.1.alloc HO.out.1.size _
   refine QbP _ (.tmp 127) (.tmp 132) 32 rfl B 3 i0 (.int .i64 0) 1 8 Tryz.underlying32 hi0 hz0 hz1 hz2 rfl (.slice qa ln qc) ln xs rfl (QcE HO.out.2 _) ⟨wd.heap.size,0,none⟩ 1 [.int .i64 (sn:Int)] rfl rfl (cell_one_new wd _ _) (λu hu=>by simp at hu;subst hu;rfl) (by omega) (by omega) (by have:=HO.out.1.size;simp;omega) ?_;intro v' w5 hq5 happ;obtain⟨p5,z5,c5,z6⟩:=HP _ v' w5 HBa.out hq5 happ;have c5':w5.cell? ⟨jb,3,none⟩=some (.int .i64 (sn:Int)):=c5.1;refine hK.out _ _ c5' (λhH=>?_)
   have HF:=show Hid (_/\_/\_)from And.intro HBa.out (And.intro hq5 happ)
   obtain⟨va,vc,rfl⟩:=hq5.shape;clear hK K HO HBa hq5 happ p1a c3a;refine tkQ 11 (.pointer (some ⟨b1,0,none⟩)) hH ?_;refine tkQ 12 (.pointer (some ⟨b1,1,none⟩)) hH ?_;refine rdQ [13] ?_
   refine arQ λK hK=>?_
   clear hH;go_simp;refine hK.out _ _ c5.2 (λhH=>?_);clear hK K hH;refine wpAnyH_done krQ ?_ _;have c6:=c5.2;clear p5 z5 c5 c5';generalize hw6:w5.setCell ⟨b1,1,none⟩ (.slice va (ln+1) vc)=w6 at c6 z6 ⊢;go_wp2;go_ret;exact⟨rfl,_,_,_,HF.out.1,HF.out.2.1,HF.out.2.2,by rw[hw6]⟩
section
variable {f:Owners} {w:World} {B k jb:Nat} {sb ab:List Nat} {j:JobM}
theorem RJob.sentMore(h:RJob f w B k jb sb ab j):w.cell? ⟨jb,3,none⟩=some (.int .i64 (j.sent:Int))/\w.frozen? ⟨jb,3,none⟩=false/\RJob f (w.setCell ⟨jb,3,none⟩ (.int .i64 ((j.sent:Int)+1))) B k jb sb ab {j with sent:=j.sent+1}/\FrmO f (λ_=>True) w (w.setCell ⟨jb,3,none⟩ (.int .i64 ((j.sent:Int)+1))):=by
 obtain⟨ve,vs,va,vr,hb,_⟩:=h.box;have hf:FrmO f (λc=>c=k+1) w (w.setCell ⟨jb,3,none⟩ (.int .i64 ((j.sent:Int)+1))):=FrmO.of_set (S:=λc=>c=k+1) h.own rfl _;refine⟨Qad hb 3,Qab hb 3,h.putBox hf (Same.refl _ _) rfl rfl rfl rfl rfl λve vs va vr hbx=>?_,hf.mono λ_ _=>trivial⟩;have:=Qas (j:=3) hbx (.int .i64 ((j.sent:Int)+1));exact this
theorem RJob.srcC(h:RJob f w B k jb sb ab j)(hw:1<=j.width/\j.width<=4)(hE:j.events.length<=400)(hu:(j.under && !j.barriers)=false)(hs:j.sent<j.events.length)(hk:(j.events[j.sent]).key.size<=1000)(i:Nat)(hi:hashS (j.events[j.sent]).key % j.width=i)(hi':i<sb.length):
  ∃g1 g2 ec cs',SrcC w jb j.width j.room j.events.length j.sent j.under j.barriers g1 g2 sb[i] ec cs' i (j.events[j.sent]).key:=by
 obtain⟨ea,ec,gs,cs',c0,c1,c2,c3,c4,c7,c8,hS,hEv⟩:=Qee h;obtain⟨g1,rfl,d1⟩:=hS i hi';obtain⟨g2,rfl,d2⟩:=hEv _ hs;exact⟨g1,g2,ec,cs',c0,c1,c2,c3,c4,c7,c8,d1,d2,hu,hs,hE,hw,hk,hi⟩
theorem Qgu(h:RJob f w B k jb sb ab j)(hB:B<=w.heap.size)(hw:1<=j.width/\j.width<=4)(hr:j.room<=400)(hE:j.events.length<=400)(hu:(j.under && !j.barriers)=false)(hs:j.sent<j.events.length)(hk:(j.events[j.sent]).key.size<=1000)
  (hfit:∀s∈j.sorters,s.pipe.length<=j.room):
  Calls Tryz.prog 45 #[.pointer (some ⟨jb,0,none⟩)] w λen w'=>en=.returned (.int .i64 (j.source.1:Int))/\RAfter f w B k jb sb ab j.source.2 w':=by
 have hl:=h.lenS
 obtain⟨i,hi⟩:∃i,hashS (j.events[j.sent]).key % j.width=i:=⟨_,rfl⟩
 have hiw:i<j.width:=by rw[<-hi];exact Nat.mod_lt _ omQ
 have hi1:i<sb.length:=omQ;have hi2:i<j.sorters.length:=omQ;obtain⟨g1,g2,ec,cs',hC⟩:=h.srcC hw hE hu hs hk i hi hi1;obtain⟨vp,p1,_,hq,_,hgo⟩:=h.pipeS i hi1 hi2 omQ;obtain⟨qa,qc,rfl⟩:=hq.shape
 have hsrc:j.source=if(j.sorters[i]).pipe.length=j.room then(9,j)else(0,{j with sorters:=j.sorters.set i {j.sorters[i]with pipe:=(j.sorters[i]).pipe++[(j.sent:Int)]},sent:=j.sent+1}):=by
  unfold JobM.source;rw[if_neg (by rw[hu];decide),List.getElem?_eq_getElem hs];simp only[hi,List.getElem?_eq_getElem hi2]
 rw[hsrc]
 by_cases hfl:(j.sorters[i]).pipe.length=j.room
 ·rw[if_pos hfl];rw[hfl]at p1;refine(Qml hC qa qc p1).mono ?_;rintro en w' ⟨rfl,n,rfl⟩;exact⟨rfl,RAfter.same h n⟩
 ·rw[if_neg hfl];have hfi:=hfit _ (List.getElem_mem hi2);refine(Qng hC qa qc p1 ⟨by omega,hr⟩ hB hq λwa v' w5 hba hq5 happ=>?_).mono ?_
  ·obtain⟨a1,a2,f',hR,_,_⟩:=hgo wa v' w5 (j.sent:Int) hba hq5 happ;have hm:=hR.sentMore;refine⟨a1,a2,⟨?_,hm.1⟩,hm.2.1⟩;obtain⟨ho,_,vq,hb,_,_,_,op⟩:=h.sorters i hi1 hi2;have hp1:w.cell? ⟨sb[i],1,none⟩=some vq:=Qad hb 1;have hvq:Value.slice qa (j.sorters[i]).pipe.length qc=vq:=Option.some.inj (p1.symm.trans hp1);obtain⟨ve,vs,va,vr,hbx,_⟩:=h.box;have hf5:FrmO f (λc=>c=k+300+i) w w5:=(FrmO.of_below hba).trans (Same.refl _ _) (happ.frm (by rw[hvq];exact op));exact Qad (Qaq hbx hf5 h.own omQ) 3
  ·rintro en w' ⟨rfl,wa,v',w5,hba,hq5,happ,rfl⟩;obtain⟨_,_,f',hR,hF,hS⟩:=hgo wa v' w5 (j.sent:Int) hba hq5 happ;obtain⟨_,_,hR2,hF2⟩:=hR.sentMore;exact⟨rfl,f',hR2,hF.trans hS hF2,hS⟩
end
end
section
open Go.RowKit
def barS(s:SorterM):SorterM:={s with pipe:=s.pipe++[-1]}
def JobM.bar(j:JobM)(n:Nat):JobM:={j with sorters:=firstN barS j.sorters n}
section
variable {f:Owners} {w:World} {B k jb:Nat} {sb ab:List Nat} {j:JobM}
theorem RJob.pipeC(h:RJob f w B k jb sb ab j)(i:Nat)(hi:i<sb.length)(hi':i<j.sorters.length):
  ∃g1 cs' vp,w.cell? ⟨jb,4,none⟩=some (.slice (some ⟨g1,0,none⟩) j.width cs')/\w.cell? ⟨g1,i,none⟩=some (.pointer (some ⟨sb[i],0,none⟩))/\w.cell? ⟨sb[i],1,none⟩=some vp/\
   ∀wa w5 v',Below w.heap.size w wa->AppQ wa w5 vp v'->(w5.cell? ⟨jb,4,none⟩=some (.slice (some ⟨g1,0,none⟩) j.width cs')/\w5.cell? ⟨g1,i,none⟩=some (.pointer (some ⟨sb[i],0,none⟩)))/\
    ((w5.setCell ⟨sb[i],1,none⟩ v').cell? ⟨jb,4,none⟩=some (.slice (some ⟨g1,0,none⟩) j.width cs')/\(w5.setCell ⟨sb[i],1,none⟩ v').cell? ⟨g1,i,none⟩=some (.pointer (some ⟨sb[i],0,none⟩))):=by
 obtain⟨ve,vs,va,vr,hbx,_,_,hs,os,_⟩:=h.box;obtain⟨gs,cs',rfl⟩:=Qaf hs;obtain⟨ho,vg,vp,hb,hg,og,hp,op⟩:=h.sorters i hi hi'
 rcases Qai hs with⟨_,h0⟩ | ⟨g1,rfl⟩
 ·omega
 have hiw:i<j.width:=by rw[<-h.lenS.1];exact hi
 have hl:=h.lenS.1
 have one:∀ {w':World},w'.ownsRow B 73 1 (.slice (some ⟨g1,0,none⟩) sb.length cs') sb.length (sb.map λb=>.pointer (some ⟨b,0,none⟩))->w'.cell? ⟨g1,i,none⟩=some (.pointer (some ⟨sb[i],0,none⟩)):=λhh=>by
  refine(hh.cellAt i omQ).trans ?_;rw[List.getElem?_map,List.getElem?_eq_getElem hi]
  rfl
 have both:∀ {S:Nat->Prop} {w':World},FrmO f S w w'->¬S (k+1)->¬S (k+2)->w'.cell? ⟨jb,4,none⟩=some (.slice (some ⟨g1,0,none⟩) j.width cs')/\w'.cell? ⟨g1,i,none⟩=some (.pointer (some ⟨sb[i],0,none⟩)):=λhf h1 h2=>by
  refine⟨?_,one (Qaj hs hf os h2)⟩;have:=Qad (Qaq hbx hf h.own h1) 4;rw[<-hl];exact this
 have b0:=both (FrmO.refl f (λ_=>False) w) id id;refine⟨g1,cs',vp,b0.1,b0.2,Qad hb 1,λwa w5 v' hba happ=>?_⟩;have hf5:FrmO f (λc=>c=k+300+i) w w5:=(FrmO.of_below hba).trans (Same.refl _ _) (happ.frm op);refine⟨both hf5 omQ omQ,both (S:=λc=>c=k+100+i\/c=k+300+i) ((hf5.mono λ_ hc=>.inr hc).trans (Same.refl _ _) (FrmO.of_set (S:=λc=>c=k+100+i\/c=k+300+i) ho (.inl rfl) _)) omQ omQ⟩
theorem RJob.barEnd(h:RJob f w B k jb sb ab j):RAfter f w B k jb sb ab {j with barriers:=true,off:=j.sent} ((w.setCell ⟨jb,8,none⟩ (.bool true)).setCell ⟨jb,9,none⟩ (.int .i64 (j.sent:Int))):=by
 have hf:FrmO f (λc=>c=k+1) w ((w.setCell ⟨jb,8,none⟩ (.bool true)).setCell ⟨jb,9,none⟩ (.int .i64 (j.sent:Int))):=(FrmO.of_set (S:=λc=>c=k+1) h.own rfl _).trans (Same.refl _ _) (FrmO.of_set (S:=λc=>c=k+1) h.own rfl _);refine⟨f,h.putBox hf (Same.refl _ _) rfl rfl rfl rfl rfl λve vs va vr hbx=>?_,hf.mono λ_ _=>trivial,Same.refl _ _⟩;have:=Qas (j:=9) (Qas (j:=8) hbx (.bool true)) (.int .i64 (j.sent:Int));exact this
theorem Qir(h:RJob f w B k jb sb ab j)(hB:B<=w.heap.size)(hw:1<=j.width/\j.width<=4)(hr:j.room<=400)(hu:(j.under && !j.barriers)=true)(hfit:∀s∈j.sorters,s.pipe.length<=j.room):
  Calls Tryz.prog 45 #[.pointer (some ⟨jb,0,none⟩)] w λen w'=>en=.returned (.int .i64 (j.source.1:Int))/\RAfter f w B k jb sb ab j.source.2 w':=by
 obtain⟨ea,ec,gs,cs0,c0,c1,c2,c3,c4,c7,c8,hS,hEv⟩:=Qee h;clear c2 hEv hS c4 c3;obtain⟨i0,hi0,hz0,hz1,hz2⟩:=info_parts Tryz.infoIntQ
 have hu7:j.under=true:=by revert hu;cases j.under<;>simp
 have hu8:j.barriers=false:=by revert hu;cases j.barriers<;>simp
 rw[hu7]at c7;rw[hu8]at c8;have hlS:=h.lenS
 have hsrc:j.source=if j.sorters.any (λs=>decide (s.pipe.length=j.room))then(9,j)else(0,{j with sorters:=j.sorters.map barS,barriers:=true,off:=j.sent}):=by
  unfold JobM.source;rw[if_pos hu]
  rfl
 have H:=show Hid (_/\_)from And.intro h hsrc
 have HFit:=hdQ hfit
 have hpipe:∀m (hm:m<j.sorters.length),∃g1 cs' qa qc b1,w.cell? ⟨jb,4,none⟩=some (.slice (some ⟨g1,0,none⟩) j.width cs')/\w.cell? ⟨g1,m,none⟩=some (.pointer (some ⟨b1,0,none⟩))/\w.cell? ⟨b1,1,none⟩=some (.slice qa (j.sorters[m]).pipe.length qc):=λm hm=>by
  obtain⟨g1,cs',vp,a1,a2,a3,_⟩:=h.pipeC m omQ hm;obtain⟨vp2,b3,_,hq,_⟩:=h.pipeS m omQ hm omQ;obtain⟨qa,qc,rfl⟩:=hq.shape;exact⟨g1,cs',qa,qc,_,a1,a2,b3⟩
 have Hp:=hdQ hpipe;clear hpipe h hsrc hfit;go_enter Tryz.func45,Tryz.ntmps45;go_wp2;clear c7 c8
 go_loopw [3] (λiv wr=>∃n:Nat,n<=j.width/\iv=.int .i64 (n:Int)/\(∀m (hm:m<j.sorters.length),m<n->(j.sorters[m]).pipe.length≠j.room)/\∃q,wr=w.drewN q) (λiv _=>j.width-(intOf iv).toNat)
 case atStart=>exact⟨0,Nat.zero_le _,rfl,λm _ hm=>absurd hm omQ,0,rfl⟩
 case round=>
  obtain⟨n,hn,rfl,hno,q,rfl⟩:=hrel
  by_cases hnl:n<j.width
  ·have hni:(n:Int)<(j.width:Int):=omQ;have hn0:(0:Int)<=(n:Int):=omQ;have hs1:n<j.sorters.length:=omQ;obtain⟨g1,cs',qa,qc,b1,c4,d1,d2⟩:=Hp.out n hs1;have Hno:=hdQ hno;clear hno
   by_cases hfl:(j.sorters[n]).pipe.length=j.room
   ·rw[hfl]at d2
    have hf0:((j.room:Int)==(j.room:Int))=true:=by simp
    have hE:j.source=(9,j):=by
     rw[H.out.2,if_pos (List.any_eq_true.mpr ⟨_,List.getElem_mem hs1,by simpa using hfl⟩)]
    have HE:=hdQ hE;clear hfl hE;go_wp2
    go_quiet (fail)
    go_wp2;go_ret;rw[HE.out];simp only[World.drewN_drewN];exact⟨rfl,RAfter.same H.out.1 _⟩
   ·have Hfl:=hdQ hfl
    have hf0:(((j.sorters[n]).pipe.length:Int)==(j.room:Int))=false:=by rw[beq_eq_false_iff_ne];omega
    clear hfl;generalize hln:(j.sorters[n]).pipe.length=ln at d2 hf0;go_wp2
    go_quiet (fail)
    go_wp2
    go_roundw
    case rel=>
     refine⟨n+1,by omega,by go_num,λm hm hmn=>?_,_,rfl⟩
     by_cases c:m=n
     ·subst c;exact Hfl.out
     ·exact Hno.out m hm omQ
    case measure=>simp[intOf];omega
  ·have hni:¬(n:Int)<(j.width:Int):=omQ;have hnw:n=j.width:=omQ
   have hE:j.source=(0,{j with sorters:=j.sorters.map barS,barriers:=true,off:=j.sent}):=by
    rw[H.out.2,if_neg];intro hany;obtain⟨s,hs,hsl⟩:=List.any_eq_true.mp hany;obtain⟨m,hm,rfl⟩:=List.getElem_of_mem hs;exact hno m hm omQ (by simpa using hsl)
   have HE:=hdQ hE;clear hE
   have HR:=show Hid (RAfter f w B k jb sb ab (j.bar 0) (w.drewN q))from by
    have:=RAfter.same H.out.1 q
    have e:j.bar 0=j:=by simp[JobM.bar,firstN]
    rw[e];exact this
   clear hno hnw H Hp;go_wp2;clear c0 c1 hni
   go_loopw [4] (λiv wr=>∃n:Nat,n<=j.width/\iv=.int .i64 (n:Int)/\RAfter f w B k jb sb ab (j.bar n) wr) (λiv _=>j.width-(intOf iv).toNat)
   case atStart=>exact⟨0,Nat.zero_le _,rfl,HR.out⟩
   case round=>
   obtain⟨n,hn,rfl,hA⟩:=hrel;clear HR;obtain⟨f1,hR,hF,hSm⟩:=hA
   by_cases hnl:n<j.width
   ·have hni:(n:Int)<(j.width:Int):=omQ;have hn0:(0:Int)<=(n:Int):=omQ;have hs0:n<j.sorters.length:=omQ
    have hs1:n<(j.bar n).sorters.length:=by show n<(firstN barS j.sorters n).length;rw[Qax];omega
    have hs2:n<sb.length:=omQ;have hsn:(j.bar n).sorters[n]=j.sorters[n]:=Qbe barS j.sorters n hs0 hs1;have c0:wr.cell? ⟨jb,0,none⟩=some (.int .i64 (j.width:Int)):=(Qav hR).1;obtain⟨g1,cs',vp,c4,d1,d2,hk1⟩:=hR.pipeC n hs2 hs1;obtain⟨vp2,d2',hz1',hq,hz2',hk2⟩:=hR.pipeS n hs2 hs1 (by show j.width<=9;omega);have hvv:vp2=vp:=Option.some.inj (d2'.symm.trans d2);subst hvv;have c4':wr.cell? ⟨jb,4,none⟩=some (.slice (some ⟨g1,0,none⟩) j.width cs'):=c4
    have hjn:{j.bar n with sorters:=(j.bar n).sorters.set n {(j.bar n).sorters[n]with pipe:=((j.bar n).sorters[n]).pipe++[(-1:Int)]}}=j.bar (n+1):=by
     have:=QaZ barS j.sorters n hs0;rw[hsn]
     show{j with sorters:=(firstN barS j.sorters n).set n (barS j.sorters[n])}=_
     rw[this]
     rfl
    have HK:=show Hid (∀wa w5 v',Below wr.heap.size wr wa->qRow w5 B 3 1 v' ((j.sorters[n]).pipe.length+1) ((j.sorters[n]).pipe.map (Value.int .i64)++[.int .i64 (-1)])->AppQ wa w5 vp2 v'->((w5.cell? ⟨jb,4,none⟩=some (.slice (some ⟨g1,0,none⟩) j.width cs')/\w5.cell? ⟨g1,n,none⟩=some (.pointer (some ⟨sb[n],0,none⟩)))/\((w5.setCell ⟨sb[n],1,none⟩ v').cell? ⟨jb,4,none⟩=some (.slice (some ⟨g1,0,none⟩) j.width cs')/\(w5.setCell ⟨sb[n],1,none⟩ v').cell? ⟨g1,n,none⟩=some (.pointer (some ⟨sb[n],0,none⟩))))/\w5.cell? ⟨sb[n],1,none⟩=some vp2/\w5.frozen? ⟨sb[n],1,none⟩=false/\RAfter f w B k jb sb ab (j.bar (n+1)) (w5.setCell ⟨sb[n],1,none⟩ v'))from λwa w5 v' hba hq5 happ=>by
     rw[hsn]at hk2;obtain⟨a1,a2,f2,hR2,hF2,hS2⟩:=hk2 wa v' w5 (-1) hba hq5 happ;rw[<-hsn,hjn]at hR2;exact⟨hk1 wa w5 v' hba happ,a1,a2,f2,hR2,hF.trans hSm hF2,hSm.trans hS2 hF.size⟩
    have hbs:=HFit.out _ (List.getElem_mem hs0);rw[hsn]at hq;obtain⟨qa,qc,rfl⟩:=hq.shape
    have HQ:=show Hid (qRow wr.drew B 3 1 (.slice qa (j.sorters[n]).pipe.length qc) (j.sorters[n]).pipe.length ((j.sorters[n]).pipe.map (Value.int .i64))/\B<=wr.drew.heap.size/\Below wr.heap.size wr wr.drew)from⟨hq,Nat.le_trans hB hF.size,(Below.refl _ _).drew⟩
    have e4:wr.drew.cell? ⟨jb,4,none⟩=some (.slice (some ⟨g1,0,none⟩) j.width cs'):=c4';have e1:wr.drew.cell? ⟨g1,n,none⟩=some (.pointer (some ⟨sb[n],0,none⟩)):=d1;have e2:wr.drew.cell? ⟨sb[n],1,none⟩=some (.slice qa (j.sorters[n]).pipe.length qc):=d2;clear hz1' hz2' hq hk1 hk2 hR hF hSm hjn hsn d2' d2 c4 c4' d1 hs1;generalize(j.sorters[n]).pipe.map (Value.int .i64)=xs at HQ HK;generalize(j.sorters[n]).pipe.length=ln at HQ HK e2 hbs;generalize sb[n]=b1 at HK e1 e2;clear hs2 hlS
    have HJ:=show Hid (∀P:Prop,P->P)from λ_ p=>p
    generalize hWW:j.width=W at *;go_wp2;clear c0;refine wp_region_held_drew (S:=λw':World=>w'.cell? ⟨jb,4,none⟩=some (.slice (some ⟨g1,0,none⟩) W cs')/\w'.cell? ⟨g1,n,none⟩=some (.pointer (some ⟨b1,0,none⟩))) krQ ⟨e4,e1⟩ (λhH=>?_);generalize wr.drew=wd at HQ e4 e1 e2 hH ⊢;refine tkQ 0 (.pointer (some ⟨jb,0,none⟩)) hH ?_;refine tkQ 1 (.pointer (some ⟨jb,0,none⟩)) hH ?_;refine tkQ 2 (.pointer (some ⟨jb,4,none⟩)) hH ?_;refine tlQ 3 (.slice (some ⟨g1,0,none⟩) W cs') rfl (by intro v hSw;have s0:=hSw.1;clear hSw;go_simp) hH ?_;refine tkQ 4 (.int .i64 (n:Int)) hH ?_;refine tkQ 5 (.pointer (some ⟨g1,n,none⟩)) hH ?_;refine tlQ 6 (.pointer (some ⟨b1,0,none⟩)) rfl (by intro v hSw;have s0:=hSw.2;clear hSw;go_simp) hH ?_;refine tkQ 7 (.pointer (some ⟨jb,0,none⟩)) hH ?_;refine tkQ 8 (.pointer (some ⟨jb,0,none⟩)) hH ?_;refine tkQ 9 (.pointer (some ⟨jb,4,none⟩)) hH ?_;refine tlQ 10 (.slice (some ⟨g1,0,none⟩) W cs') rfl (by intro v hSw;have s0:=hSw.1;clear hSw;go_simp) hH ?_;refine tkQ 11 (.int .i64 (n:Int)) hH ?_;refine tkQ 12 (.pointer (some ⟨g1,n,none⟩)) hH ?_;refine tlQ 13 (.pointer (some ⟨b1,0,none⟩)) rfl (by intro v hSw;have s0:=hSw.2;clear hSw;go_simp) hH ?_;refine tkQ 14 (.pointer (some ⟨b1,0,none⟩)) hH ?_;refine tkQ 15 (.pointer (some ⟨b1,1,none⟩)) hH ?_;have hba:=(Below.refl wd.heap.size wd).alloc (Nat.le_refl _) (.cells #[.int .i64 (-1)] 3);have e4a:(wd.alloc (.cells #[.int .i64 (-1)] 3)).cell? ⟨jb,4,none⟩=some (.slice (some ⟨g1,0,none⟩) W cs'):=(hba.cell (p:=⟨jb,4,none⟩) (Qan e4)).trans e4;have e1a:(wd.alloc (.cells #[.int .i64 (-1)] 3)).cell? ⟨g1,n,none⟩=some (.pointer (some ⟨b1,0,none⟩)):=(hba.cell (p:=⟨g1,n,none⟩) (Qan e1)).trans e1;have e2a:(wd.alloc (.cells #[.int .i64 (-1)] 3)).cell? ⟨b1,1,none⟩=some (.slice qa ln qc):=(hba.cell (p:=⟨b1,1,none⟩) (Qan e2)).trans e2;clear hba;refine rdQ [16,17] ?_;refine AllReadyH.cons rfl (λK hK=>?_) (arQ λK hK=>?_)
    focus
     clear hH;go_simp;refine hK.out _ _ ⟨e4,e1⟩ (λhH=>?_);clear hK K;refine rdQ [17] ?_
     refine arQ λK hK=>?_
     clear hH;go_simp;refine hK.out _ _ ⟨e4a,e1a⟩ (λhH=>?_);clear hK K
    rotate_left
    focus
     clear hH;go_simp;refine hK.out _ _ ⟨e4a,e1a⟩ (λhH=>?_);clear hK K;refine rdQ [16] ?_
     refine arQ λK hK=>?_
     clear hH;go_simp;refine hK.out _ _ ⟨e4a,e1a⟩ (λhH=>?_);clear hK K
    all_goals
     refine rdQ [18] ?_
     refine arQ λK hK=>?_
     refine QaM rfl ?_;refine QbP _ (.tmp 65) (.tmp 66) 32 rfl B 3 i0 (.int .i64 0) 1 8 Tryz.underlying32 hi0 hz0 hz1 hz2 rfl (.slice qa ln qc) ln xs rfl (QcE HQ.out.1 _) ⟨wd.heap.size,0,none⟩ 1 [.int .i64 (-1)] rfl rfl (cell_one_new wd _ _) (λu hu=>by simp at hu;subst hu;rfl) (by omega) (by omega) (by have:=HQ.out.2.1;simp;omega) ?_;intro v' w5 hq5 happ;obtain⟨s5,p5,z5,hN⟩:=HK.out _ w5 v' (HQ.out.2.2.alloc HQ.out.2.2.size _) hq5 happ;refine hK.out _ _ s5.1 (λhH=>?_);have HN:=hdQ hN;obtain⟨va,vc,rfl⟩:=hq5.shape;clear hK K HQ HK hq5 happ e4a e1a e2a hN;refine tkQ 19 (.pointer (some ⟨b1,0,none⟩)) hH ?_;refine tkQ 20 (.pointer (some ⟨b1,1,none⟩)) hH ?_;refine rdQ [21] ?_
     refine arQ λK hK=>?_
     clear hH;go_simp;refine hK.out _ _ s5.2 (λhH=>?_);clear hK K hH;refine wpAnyH_done krQ ?_ _;clear p5 z5 s5 e4 e1 e2;generalize w5.setCell ⟨b1,1,none⟩ (.slice va (ln+1) vc)=w6 at HN ⊢;go_wp2
     go_roundw
     case rel=>exact⟨n+1,by omega,by go_num,HN.out⟩
     case measure=>simp[intOf];omega
   ·have hni:¬(n:Int)<(j.width:Int):=omQ;have hnw:n=j.width:=omQ;obtain⟨ve,vs,va,vr,hbx,_⟩:=hR.box;have c0:wr.cell? ⟨jb,0,none⟩=some (.int .i64 (j.width:Int)):=Qad hbx 0;have c3:wr.cell? ⟨jb,3,none⟩=some (.int .i64 (j.sent:Int)):=Qad hbx 3;have c8:wr.cell? ⟨jb,8,none⟩=some (.bool j.barriers):=Qad hbx 8;have c9:wr.cell? ⟨jb,9,none⟩=some (.int .i64 (j.off:Int)):=Qad hbx 9;have z8:wr.frozen? ⟨jb,8,none⟩=false:=Qab hbx 8;have z9:wr.frozen? ⟨jb,9,none⟩=false:=Qab hbx 9
    have e:({j.bar n with barriers:=true,off:=(j.bar n).sent}:JobM)={j with sorters:=j.sorters.map barS,barriers:=true,off:=j.sent}:=by
     unfold JobM.bar;rw[Qbf barS j.sorters n omQ]
    have HN:=show Hid (RAfter f w B k jb sb ab j.source.2 ((wr.setCell ⟨jb,8,none⟩ (.bool true)).setCell ⟨jb,9,none⟩ (.int .i64 (j.sent:Int))))from by
     rw[HE.out];obtain⟨f2,hR2,hF2,hS2⟩:=hR.barEnd;rw[e]at hR2;exact⟨f2,hR2,hF.trans hSm hF2,hSm.trans hS2 hF.size⟩
    have hE1:j.source.1=0:=by rw[HE.out]
    have HE1:=hdQ hE1;clear hE1;clear hR hF hSm hbx e hnw HE;go_wp2;go_ret;exact⟨by rw[HE1.out];rfl,HN.out⟩
end
end
section
open Go.RowKit
section
variable {f:Owners} {w:World} {B k jb:Nat} {sb ab:List Nat} {j:JobM}
structure RFit (j:JobM):Prop where
 width:1<=j.width/\j.width<=4
 room:j.room<=400
 events:j.events.length<=400
 sent:j.sent<=j.events.length
 keys:∀e∈j.events,e.key.size<=1000
 pipes:∀s∈j.sorters,s.pipe.length<=j.room
theorem Qis(h:RJob f w B k jb sb ab j)(hB:B<=w.heap.size)(hf:RFit j):
  Calls Tryz.prog 45 #[.pointer (some ⟨jb,0,none⟩)] w λen w'=>en=.returned (.int .i64 (j.source.1:Int))/\RAfter f w B k jb sb ab j.source.2 w':=by
 cases hu:(j.under && !j.barriers)with
 | true=>exact Qir h hB hf.width hf.room hu hf.pipes
 | false=>
  by_cases hs:j.sent<j.events.length
  ·exact Qgu h hB hf.width hf.room hf.events hu hs (hf.keys _ (List.getElem_mem hs)) hf.pipes
  ·have hse:j.sent=j.events.length:=by have:=hf.sent;omega
   have hsrc:j.source=(8,j):=by
    unfold JobM.source;rw[if_neg (by rw[hu];decide),List.getElem?_eq_none omQ]
   rw[hsrc];exact Qhs h hu hse
end
end
end Go.Proofs.YthccpacmklhejabGreatDoor
