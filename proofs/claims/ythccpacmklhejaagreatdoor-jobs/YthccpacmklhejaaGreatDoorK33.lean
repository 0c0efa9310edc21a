import Derived.Test.YthccpacmklhejaaGreatDoorTk
import Derived.Test.YthccpacmklhejaaGreatDoorK32
set_option maxHeartbeats 3000000
set_option maxRecDepth 100000
namespace Go.Proofs.YthccpacmklhejaaGreatDoor
section
open Go.RowKit
theorem Tryz.infoChange:(Tryz.prog.info? 149).map (λi=>(i.zero,i.size,i.bytes))=some (some (.agg #[.int .i64 0,.string ⟨#[]⟩,.int .i64 0,.int .i64 0]),4,40):=by kernel_rfl
theorem Qcl(c:ChgM):∀u∈chgCells1 c,u.oneCell'=true:=λu hu=>by
 simp only[chgCells1,List.mem_cons,List.not_mem_nil,or_false]at hu
 rcases hu with rfl | rfl | rfl | rfl<;>rfl
def JobM.barA(j:JobM)(i n:Nat):JobM:={j with adders:=firstN (λa:AdderM=>a.push i barM) j.adders n}
theorem AdderM.waits_at(a:AdderM)(i:Nat)(h:i<a.pipes.length):a.waits i=(a.pipes[i]).length:=by
 unfold AdderM.waits;rw[List.getD_eq_getElem?_getD,List.getElem?_eq_getElem h]
 rfl
section
variable {f:Owners} {w:World} {B k jb:Nat} {sb ab:List Nat} {j:JobM}
theorem RJob.sorterBar(h:RJob f w B k jb sb ab j)(i:Nat)(hi:i<sb.length)(hi':i<j.sorters.length)(hwid:j.width<=9)(v':Value)(rest:List Int)(hq:qRow w B 3 1 v' rest.length (rest.map (Value.int .i64)))(vp:Value)(hvp:w.cell? ⟨sb[i],1,none⟩=some vp)(hv':∀g,v'.ownBlock=some g->vp.ownBlock=some g):
  RAfter f w B k jb sb ab {j with sorters:=j.sorters.set i {j.sorters[i]with marked:=(j.sorters[i]).got.length,passed:=true,pipe:=rest}} (((w.setCell ⟨sb[i],2,none⟩ (.int .i64 ((j.sorters[i]).got.length:Int))).setCell ⟨sb[i],4,none⟩ (.bool true)).setCell ⟨sb[i],1,none⟩ v'):=by
 obtain⟨ho,vg,vq,hb,hg,og,hp,op⟩:=h.sorters i hi hi';have h3:w.cell? ⟨sb[i],1,none⟩=some vq:=Qad hb 1;have hvq:vp=vq:=Option.some.inj (hvp.symm.trans h3);subst hvq
 have hiw:i<j.width:=by rw[<-h.lenS.1];exact hi
 have ho':IsOf f (k+300+i) v':=λg hg=>op g (hv' g hg)
 have hs1:∀(o:Nat) (u:Value) (w:World),FrmO f (λc=>c=k+100+i) w (w.setCell ⟨sb[i],o,none⟩ u):=λo u w=>FrmO.of_set (S:=λc=>c=k+100+i) ho rfl _
 have hf:=((hs1 2 (.int .i64 ((j.sorters[i]).got.length:Int)) w).trans (Same.refl _ _) (hs1 4 (.bool true) _)).trans (Same.refl _ _) (hs1 1 v' _);refine⟨f,h.putS i hi _ (S:=λc=>c=k+100+i) (λc hc=>.inl hc) hf (Same.refl _ _) hwid ⟨ho,vg,v',?_,Qaj hg hf og omQ,og,Qbo hq hf ho' omQ,ho'⟩,hf.mono λ_ _=>trivial,Same.refl _ _⟩;have:=Qas (j:=1) (Qas (j:=4) (Qas (j:=2) hb (.int .i64 ((j.sorters[i]).got.length:Int))) (.bool true)) v';exact this
theorem QjR(h:RJob f w B k jb sb ab j)(hB:B<=w.heap.size)(hf:RFit j)(hfA:∀a∈j.adders,∀p∈a.pipes,p.length<=j.room)(i:Nat)(hi:i<j.width)(hi':i<j.sorters.length)(x:Int)(rest:List Int)(hp:(j.sorters[i]).pipe=x :: rest)(hx:x<0):
  Calls Tryz.prog 45 #[.pointer (some ⟨jb,0,none⟩),.int .i64 (i:Int)] w λen w'=>en=.returned (.int .i64 ((j.sorts i).1:Int))/\RAfter f w B k jb sb ab (j.sorts i).2 w':=by
 have hib:i<sb.length:=by have:=h.lenS;omega
 obtain⟨g1,cs',qa,qc,c4,d1,d2,hq⟩:=h.wayS i hib hi';obtain⟨i0,hi0,hz0,hz1,hz2⟩:=info_parts Tryz.infoChange;have c0:w.cell? ⟨jb,0,none⟩=some (.int .i64 (j.width:Int)):=(Qav h).1;obtain⟨ve,vs0,va,vr,hbx,_⟩:=h.box;have c1:w.cell? ⟨jb,1,none⟩=some (.int .i64 (j.room:Int)):=Qad hbx 1;clear hbx;have hlA:=h.lenA;have hW:=hf.width;have hrm:=hf.room
 have hsrc:j.sorts i=if j.adders.any (λa=>decide (a.waits i=j.room))then(9,j)else(0,{j with adders:=j.adders.map (λa:AdderM=>a.push i barM),sorters:=j.sorters.set i {j.sorters[i]with marked:=(j.sorters[i]).got.length,passed:=true,pipe:=rest}}):=by
  unfold JobM.sorts;rw[List.getElem?_eq_getElem hi'];simp only[hp];rw[if_pos hx]
 have hpl:(j.sorters[i]).pipe.length=rest.length+1:=by rw[hp];rfl
 rw[hpl]at d2;have hq2:=hq;rw[hpl,hp]at hq2
 rcases hq2.addr with⟨_,h0⟩ | ⟨gq,off,rfl⟩
 ·omega
 have d3:w.cell? ⟨gq,off,none⟩=some (.int .i64 x):=hq2.cell 0 (.int .i64 x) rfl
 have hpipe:∀m (hm:m<j.adders.length),∃hip:i<(j.adders[m]).pipes.length,∃g2 ca gp pc va vc b2,WayA w jb g2 ca j.width b2 m gp pc/\w.cell? ⟨gp,i,none⟩=some (.slice va ((j.adders[m]).pipes[i]).length vc):=λm hm=>by
  have hip:i<(j.adders[m]).pipes.length:=by rw[(h.pipes m hm).1];exact hi
  obtain⟨g2,ca,gp,pc,v,hway,a1,_,hqv,_⟩:=h.pipeA m omQ hm i hip omQ;obtain⟨va,vc,rfl⟩:=hqv.shape;exact⟨hip,g2,ca,gp,pc,va,vc,_,hway,a1⟩
 have Hp:=hdQ hpipe;have HPX:=hdQ hp
 have H:=show Hid (_/\_/\_/\_)from And.intro h (And.intro hsrc (And.intro hfA hq2))
 clear hpipe h hsrc hfA hq hq2 hp hf;have hx':x<0:=hx
 have hn0:(((rest.length:Int)+1)==0)=false:=by rw[beq_eq_false_iff_ne];omega
 have hln1:(0:Int)<(rest.length:Int)+1:=omQ;have h1:(i:Int)<(j.width:Int):=omQ;have h2:(0:Int)<=(i:Int):=omQ
 obtain⟨b1,hb1⟩:∃b1,sb[i]=b1:=⟨_,rfl⟩
 rw[hb1]at d1 d2;go_enter Tryz.func45,Tryz.ntmps45;go_wp2;clear c4 d1 d2 d3
 go_loopw [6] (λiv wr=>∃n:Nat,n<=j.width/\iv=.int .i64 (n:Int)/\(∀m (hm:m<j.adders.length),m<n->(j.adders[m]).waits i≠j.room)/\∃q,wr=w.drewN q) (λiv _=>j.width-(intOf iv).toNat)
 case atStart=>exact⟨0,Nat.zero_le _,rfl,λm _ hm=>absurd hm omQ,0,rfl⟩
 case round=>
  obtain⟨n,hn,rfl,hno,q,rfl⟩:=hrel
  by_cases hnl:n<j.width
  ·have hni:(n:Int)<(j.width:Int):=omQ;have hn0:(0:Int)<=(n:Int):=omQ;have hs1:n<j.adders.length:=omQ;obtain⟨hip,g2,ca,gp,pc,va,vc,b2,⟨e5,e2,e1⟩,d4⟩:=Hp.out n hs1;have hwt:=AdderM.waits_at (j.adders[n]) i hip;have Hno:=hdQ hno;clear hno
   by_cases hfl:(j.adders[n]).waits i=j.room
   ·rw[<-hwt,hfl]at d4
    have hf0:((j.room:Int)==(j.room:Int))=true:=by simp
    have hE:j.sorts i=(9,j):=by
     rw[H.out.2.1,if_pos (List.any_eq_true.mpr ⟨_,List.getElem_mem hs1,by simpa using hfl⟩)]
    have HE:=hdQ hE;clear hfl hE hwt;go_wp2
    go_quiet (fail)
    go_wp2;go_ret;rw[HE.out];simp only[World.drewN_drewN];exact⟨rfl,RAfter.same H.out.1 _⟩
   ·have Hfl:=hdQ hfl;rw[<-hwt]at d4
    have hf0:(((j.adders[n]).waits i:Int)==(j.room:Int))=false:=by rw[beq_eq_false_iff_ne];omega
    clear hfl hwt;generalize hln:(j.adders[n]).waits i=ln at d4 hf0;go_wp2
    go_quiet (fail)
    go_wp2
    go_roundw
    case rel=>
     refine⟨n+1,by omega,by go_num,λm hm hmn=>?_,_,rfl⟩
     by_cases c:m=n
     ·subst c;exact Hfl.out
     ·exact Hno.out m hm omQ
    case measure=>simp[intOf];omega
  ·have hni:¬(n:Int)<(j.width:Int):=omQ;have hnw:n=j.width:=omQ
   have hE:j.sorts i=(0,{j with adders:=j.adders.map (λa:AdderM=>a.push i barM),sorters:=j.sorters.set i {j.sorters[i]with marked:=(j.sorters[i]).got.length,passed:=true,pipe:=rest}}):=by
    rw[H.out.2.1,if_neg];intro hany;obtain⟨s,hs,hsl⟩:=List.any_eq_true.mp hany;obtain⟨m,hm,rfl⟩:=List.getElem_of_mem hs;exact hno m hm omQ (by simpa using hsl)
   have HE:=hdQ hE;clear hE
   have HR:=show Hid (RAfter f w B k jb sb ab (j.barA i 0) (w.drewN q))from by
    have:=RAfter.same H.out.1 q
    have e:j.barA i 0=j:=by simp[JobM.barA,firstN]
    rw[e];exact this
   have HA:=show Hid _ from H.out.2.2.1
   clear hno hnw H Hp;go_wp2;clear c0 c1 hni
   go_loopw [7] (λiv wr=>∃n:Nat,n<=j.width/\iv=.int .i64 (n:Int)/\RAfter f w B k jb sb ab (j.barA i n) wr) (λiv _=>j.width-(intOf iv).toNat)
   case atStart=>exact⟨0,Nat.zero_le _,rfl,HR.out⟩
   case round=>
   obtain⟨n,hn,rfl,hA⟩:=hrel;clear HR;obtain⟨f1,hR,hF,hSm⟩:=hA
   by_cases hnl:n<j.width
   ·have hni:(n:Int)<(j.width:Int):=omQ;have hn0:(0:Int)<=(n:Int):=omQ;have hs0:n<j.adders.length:=omQ
    have hs1:n<(j.barA i n).adders.length:=by show n<(firstN _ j.adders n).length;rw[Qax];omega
    have hs2:n<ab.length:=omQ;have hsn:(j.barA i n).adders[n]=j.adders[n]:=Qbe _ j.adders n hs0 hs1;have c0:wr.cell? ⟨jb,0,none⟩=some (.int .i64 (j.width:Int)):=(Qav hR).1
    have hip:i<((j.barA i n).adders[n]).pipes.length:=by rw[(hR.pipes n hs1).1];exact hi
    have hip0:i<(j.adders[n]).pipes.length:=by rw[<-hsn];exact hip
    obtain⟨g2,ca,gp,pc,v,hway,d2,hz2',hq,hk2⟩:=hR.pipeA n hs2 hs1 i hip (by show j.width<=9;omega);have hw2:WayA wr jb g2 ca j.width ab[n] n gp pc:=hway
    have hpe:((j.barA i n).adders[n]).pipes[i]=(j.adders[n]).pipes[i]:=by simp only[hsn]
    rw[hpe]at hq
    have hjn:{j.barA i n with adders:=(j.barA i n).adders.set n (((j.barA i n).adders[n]).push i barM)}=j.barA i (n+1):=by
     have:=QaZ (λa:AdderM=>a.push i barM) j.adders n hs0;rw[hsn]
     show{j with adders:=(firstN (λa:AdderM=>a.push i barM) j.adders n).set n ((j.adders[n]).push i barM)}=_
     rw[this]
     rfl
    have HK:=show Hid (∀wa w5 v',Below wr.heap.size wr wa->qRow w5 B 149 4 v' (((j.adders[n]).pipes[i]).length+1) (chgCells ((j.adders[n]).pipes[i])++chgCells1 barM)->AppQ wa w5 v v'->w5.cell? ⟨gp,i,none⟩=some v/\w5.frozen? ⟨gp,i,none⟩=false/\WayA w5 jb g2 ca j.width ab[n] n gp pc/\WayA (w5.setCell ⟨gp,i,none⟩ v') jb g2 ca j.width ab[n] n gp pc/\RAfter f w B k jb sb ab (j.barA i (n+1)) (w5.setCell ⟨gp,i,none⟩ v'))from λwa w5 v' hba hq5 happ=>by
     rw[hpe]at hk2;obtain⟨a1,a2,a3,a4,f2,hR2,hF2,hS2⟩:=hk2 wa v' w5 barM hba hq5 happ;rw[hjn]at hR2;exact⟨a1,a2,a3,a4,f2,hR2,hF.trans hSm hF2,hSm.trans hS2 hF.size⟩
    have hbs:=HA.out _ (List.getElem_mem hs0) _ (List.getElem_mem hip0);obtain⟨qa,qc,rfl⟩:=hq.shape
    have HQ:=show Hid (qRow wr.drew B 149 4 (.slice qa ((j.adders[n]).pipes[i]).length qc) ((j.adders[n]).pipes[i]).length (chgCells ((j.adders[n]).pipes[i]))/\B<=wr.drew.heap.size/\Below wr.heap.size wr wr.drew)from⟨hq,Nat.le_trans hB hF.size,(Below.refl _ _).drew⟩
    have e5:WayA wr.drew jb g2 ca j.width ab[n] n gp pc:=hw2;have e2:wr.drew.cell? ⟨gp,i,none⟩=some (.slice qa ((j.adders[n]).pipes[i]).length qc):=d2;clear hz2' hq hk2 hR hF hSm hjn d2 hway hw2 hpe hsn;clear hip hs1;generalize chgCells ((j.adders[n]).pipes[i])=xs at HQ HK;generalize((j.adders[n]).pipes[i]).length=ln at HQ HK e2 hbs;generalize ab[n]=b2 at HK e5;clear hs2 hlA;generalize hWW:j.width=W at *;go_wp2;clear c0;refine wp_region_held_drew (S:=λw':World=>WayA w' jb g2 ca W b2 n gp pc) krQ e5 (λhH=>?_);generalize wr.drew=wd at HQ e5 e2 hH ⊢;refine tkQ 0 (.pointer (some ⟨jb,0,none⟩)) hH ?_;refine tkQ 1 (.pointer (some ⟨jb,0,none⟩)) hH ?_;refine tkQ 2 (.pointer (some ⟨jb,5,none⟩)) hH ?_;refine tlQ 3 (.slice (some ⟨g2,0,none⟩) W ca) rfl (by intro v hSw;have s0:=hSw.1;clear hSw;go_simp) hH ?_;refine tkQ 4 (.int .i64 (n:Int)) hH ?_;refine tkQ 5 (.pointer (some ⟨g2,n,none⟩)) hH ?_;refine tlQ 6 (.pointer (some ⟨b2,0,none⟩)) rfl (by intro v hSw;have s0:=hSw.2.1;clear hSw;go_simp) hH ?_;refine tkQ 7 (.pointer (some ⟨b2,0,none⟩)) hH ?_;refine tkQ 8 (.pointer (some ⟨b2,1,none⟩)) hH ?_;refine tlQ 9 (.slice (some ⟨gp,0,none⟩) W pc) rfl (by intro v hSw;have s0:=hSw.2.2;clear hSw;go_simp) hH ?_;refine tkQ 10 (.int .i64 (i:Int)) hH ?_;refine tkQ 11 (.pointer (some ⟨jb,0,none⟩)) hH ?_;refine tkQ 12 (.pointer (some ⟨jb,0,none⟩)) hH ?_;refine tkQ 13 (.pointer (some ⟨jb,5,none⟩)) hH ?_;refine tlQ 14 (.slice (some ⟨g2,0,none⟩) W ca) rfl (by intro v hSw;have s0:=hSw.1;clear hSw;go_simp) hH ?_;refine tkQ 15 (.int .i64 (n:Int)) hH ?_;refine tkQ 16 (.pointer (some ⟨g2,n,none⟩)) hH ?_;refine tlQ 17 (.pointer (some ⟨b2,0,none⟩)) rfl (by intro v hSw;have s0:=hSw.2.1;clear hSw;go_simp) hH ?_;refine tkQ 18 (.pointer (some ⟨b2,0,none⟩)) hH ?_;refine tkQ 19 (.pointer (some ⟨b2,1,none⟩)) hH ?_;refine tlQ 20 (.slice (some ⟨gp,0,none⟩) W pc) rfl (by intro v hSw;have s0:=hSw.2.2;clear hSw;go_simp) hH ?_;refine tkQ 21 (.int .i64 (i:Int)) hH ?_;refine tkQ 22 (.pointer (some ⟨gp,i,none⟩)) hH ?_;refine tkQ 24 (.agg #[.int .i64 (-1),.string ⟨#[]⟩,.int .i64 0,.int .i64 0]) hH ?_;have hba:=(Below.refl wd.heap.size wd).alloc (Nat.le_refl _) (.cells #[.int .i64 (-1),.string ⟨#[]⟩,.int .i64 0,.int .i64 0] 149)
    have e5a:WayA (wd.alloc (.cells #[.int .i64 (-1),.string ⟨#[]⟩,.int .i64 0,.int .i64 0] 149)) jb g2 ca W b2 n gp pc:=⟨(hba.cell (p:=⟨jb,5,none⟩) (Qan e5.1)).trans e5.1,(hba.cell (p:=⟨g2,n,none⟩) (Qan e5.2.1)).trans e5.2.1,(hba.cell (p:=⟨b2,1,none⟩) (Qan e5.2.2)).trans e5.2.2⟩
    have e2a:(wd.alloc (.cells #[.int .i64 (-1),.string ⟨#[]⟩,.int .i64 0,.int .i64 0] 149)).cell? ⟨gp,i,none⟩=some (.slice qa ln qc):=(hba.cell (p:=⟨gp,i,none⟩) (Qan e2)).trans e2;clear hba;refine rdQ [23,25] ?_;refine AllReadyH.cons rfl (λK hK=>?_) (arQ λK hK=>?_)
    focus
     clear hH;go_simp;refine hK.out _ _ e5 (λhH=>?_);clear hK K;refine rdQ [25] ?_
     refine arQ λK hK=>?_
     clear hH;go_simp;refine hK.out _ _ e5a (λhH=>?_);clear hK K
    rotate_left
    focus
     clear hH;go_simp;refine hK.out _ _ e5a (λhH=>?_);clear hK K;refine rdQ [23] ?_
     refine arQ λK hK=>?_
     clear hH;go_simp;refine hK.out _ _ e5a (λhH=>?_);clear hK K
    all_goals
     refine rdQ [26] ?_
     refine arQ λK hK=>?_
     refine QaM rfl ?_;refine QbP _ (.tmp 93) (.tmp 95) 98 rfl B 149 i0 (.agg #[.int .i64 0,.string ⟨#[]⟩,.int .i64 0,.int .i64 0]) 4 40 Tryz.underlying98 hi0 hz0 hz1 hz2 rfl (.slice qa ln qc) ln xs rfl (QcE HQ.out.1 _) ⟨wd.heap.size,0,none⟩ 1 (chgCells1 barM) rfl rfl (by have:=QaC wd (.int .i64 (-1)) (.string ⟨#[]⟩) (.int .i64 0) (.int .i64 0) 149;simpa[chgCells1,barM]using this) (Qcl _) (by omega) (by omega) (by have:=HQ.out.2.1;simp;omega) ?_;intro v' w5 hq5 happ;obtain⟨p5,z5,s5,s6,hN⟩:=HK.out _ w5 v' (HQ.out.2.2.alloc HQ.out.2.2.size _) hq5 happ;refine hK.out _ _ s5 (λhH=>?_);have HN:=hdQ hN;obtain⟨va,vc,rfl⟩:=hq5.shape;clear hK K HQ HK hq5 happ e5a e2a hN;refine tkQ 27 (.pointer (some ⟨gp,i,none⟩)) hH ?_;refine rdQ [28] ?_
     refine arQ λK hK=>?_
     clear hH;go_simp;refine hK.out _ _ s6 (λhH=>?_);clear hK K hH;refine wpAnyH_done krQ ?_ _;clear p5 z5 s5 s6 e5 e2;generalize w5.setCell ⟨gp,i,none⟩ (.slice va (ln+1) vc)=w6 at HN ⊢;go_wp2
     go_roundw
     case rel=>exact⟨n+1,by omega,by go_num,HN.out⟩
     case measure=>simp[intOf];omega
   ·have hni:¬(n:Int)<(j.width:Int):=omQ;have hnw:n=j.width:=omQ
    have e:j.barA i n={j with adders:=j.adders.map (λa:AdderM=>a.push i barM)}:=by
     unfold JobM.barA;rw[Qbf _ j.adders n omQ]
    rw[e]at hR;have c0:wr.cell? ⟨jb,0,none⟩=some (.int .i64 (j.width:Int)):=(Qav hR).1;obtain⟨ho,vg,vq,hb,hg,og,hqq,op⟩:=hR.sorters i hib hi';obtain⟨ga,gc,rfl⟩:=Qaf hg;obtain⟨qa',qc',rfl⟩:=hqq.shape;have hpl':(({j with adders:=j.adders.map (λa:AdderM=>a.push i barM)}:JobM).sorters[i]).pipe.length=rest.length+1:=hpl;rw[hpl']at hqq
    rcases hqq.addr with⟨_,h0⟩ | ⟨gq',off',rfl⟩
    ·omega
    rw[hpl']at hb
    have c3:wr.cell? ⟨b1,0,none⟩=some (.slice ga (j.sorters[i]).got.length gc):=by rw[<-hb1];exact Qad hb 0
    have c9:wr.cell? ⟨b1,1,none⟩=some (.slice (some ⟨gq',off',none⟩) (rest.length+1) qc'):=by rw[<-hb1];exact Qad hb 1
    have c2:wr.cell? ⟨b1,2,none⟩=some (.int .i64 ((j.sorters[i]).marked:Int)):=by rw[<-hb1];exact Qad hb 2
    have c4:wr.cell? ⟨b1,4,none⟩=some (.bool (j.sorters[i]).passed):=by rw[<-hb1];exact Qad hb 4
    have z1:wr.frozen? ⟨b1,1,none⟩=false:=by rw[<-hb1];exact Qab hb 1
    have z2:wr.frozen? ⟨b1,2,none⟩=false:=by rw[<-hb1];exact Qab hb 2
    have z4:wr.frozen? ⟨b1,4,none⟩=false:=by rw[<-hb1];exact Qab hb 4
    have hcap:=hqq.cap
    have hmp:(({j with adders:=j.adders.map (λa:AdderM=>a.push i barM)}:JobM).sorters[i]).pipe.map (Value.int .i64)=.int .i64 x :: rest.map (Value.int .i64):=by
     show(j.sorters[i]).pipe.map (Value.int .i64)=_
     rw[HPX.out]
     rfl
    rw[hmp]at hqq
    have hend:∀v':Value,qRow wr B 3 1 v' rest.length (rest.map (Value.int .i64))->(∀g,v'.ownBlock=some g->some gq'=some g)->RAfter f w B k jb sb ab (j.sorts i).2 (((wr.setCell ⟨b1,2,none⟩ (.int .i64 ((j.sorters[i]).got.length:Int))).setCell ⟨b1,4,none⟩ (.bool true)).setCell ⟨b1,1,none⟩ v'):=λv' hqv hov=>by
     have hh:=hR.sorterBar i hib hi' (by show j.width<=9;omega) v' rest hqv (.slice (some ⟨gq',off',none⟩) (rest.length+1) qc') (by rw[hb1];exact c9) hov;rw[hb1]at hh;rw[HE.out];obtain⟨f2,hR2,hF2,hS2⟩:=hh;exact⟨f2,hR2,hF.trans hSm hF2,hSm.trans hS2 hF.size⟩
    have HT1:=show Hid _ from hend _ (hqq.tail (.inl rfl)) (λg hg=>hg)
    have HT2:=show Hid (qc'=1->_)from λe:qc'=1=>hend (.slice (some ⟨gq',off',none⟩) rest.length 0) (by have:=hqq.tail (off':=off') (.inr ⟨e,rfl⟩);rw[e]at this;exact this) (λg hg=>hg)
    have hE1:(j.sorts i).1=0:=by rw[HE.out]
    have HE1:=hdQ hE1;clear hE1 hend hqq hb hg og op ho hR hF hSm HE hmp;go_wp2
    all_goals
     go_ret
    ·exact⟨by rw[HE1.out];rfl,HT2.out omQ⟩
    ·exact⟨by rw[HE1.out];rfl,HT1.out⟩
end
end
section
open Go.RowKit
section
variable {f:Owners} {w:World} {B k jb:Nat} {sb ab:List Nat} {j:JobM}
theorem Qlb(h:RJob f w B k jb sb ab j)(rs:List RowV)(hl:rs.length=j.rows.length)(hc:rowmCells j.rows=rowCells rs)(hlen:rs.length<=1000)(hb:∀r∈rs,TB r):
  Calls Tryz.prog 30 #[.pointer (some ⟨jb,0,none⟩)] w λen w'=>en=.returned (.string ⟨((placed rs rs.length).flatten).toArray⟩)/\Below w.heap.size w w':=by
 obtain⟨ve,vs,va,vr,hbx,_,_,_,_,_,_,hr,_⟩:=h.box;obtain⟨ra,rc,rfl⟩:=Qaf hr;rw[<-hl,hc]at hr;have c12:w.cell? ⟨jb,12,none⟩=some (.slice ra j.rows.length rc):=Qad hbx 12;rw[<-hl]at c12
 have HT:=show Hid _ from λ(_:Unit)=>Qf8 B ra rc rs w hlen hr hb
 clear h hbx hr hb hc hl;go_enter Tryz.func30,Tryz.ntmps30
 go_wp2_with(go_at_call 41;refine(HT.out ()).mono ?_;rintro en w1 ⟨rfl,hB1⟩)
 go_ret;exact⟨rfl,hB1⟩
end
end
section
open Go.RowKit
def RSt(w:World)(r:RowM)(w':World):Prop:=
 w'.heap[w.heap.size+1]? =some (.cells #[.int .i64 r.pt,.string r.tx,.int .i64 r.live,.int .i64 r.sum,.int .i64 (r.ev:Int)] 137 (0,0))/\w'.heap[w.heap.size]? =some (.cells #[.int .i64 0,.string ⟨#[]⟩,.int .i64 0,.int .i64 0,.int .i64 0] 137 (0,0))/\Below w.heap.size w w'
theorem RSt.below{w w' w'':World}{r:RowM}(h:RSt w r w')(hb:Below w'.heap.size w' w''):RSt w r w'':=
 ⟨(hb.block _ (Array.getElem?_eq_some_iff.1 h.1).1).trans h.1,(hb.block _ (Array.getElem?_eq_some_iff.1 h.2.1).1).trans h.2.1,h.2.2.trans (hb.mono h.2.2.size)⟩
theorem RSt.new(w:World):RSt w ⟨0,⟨#[]⟩,0,0,0⟩ ((w.alloc (.cells #[.int .i64 0,.string ⟨#[]⟩,.int .i64 0,.int .i64 0,.int .i64 0] 137)).alloc (.cells #[.int .i64 0,.string ⟨#[]⟩,.int .i64 0,.int .i64 0,.int .i64 0] 137)):=by
 refine⟨?_,?_,((Below.refl _ _).alloc (Nat.le_refl _) _).alloc (by simp) _⟩
 ·have:=heap_alloc_new (w.alloc (.cells #[.int .i64 0,.string ⟨#[]⟩,.int .i64 0,.int .i64 0,.int .i64 0] 137)) (.cells #[.int .i64 0,.string ⟨#[]⟩,.int .i64 0,.int .i64 0,.int .i64 0] 137)
  simpa using this
 ·rw[Below.heap_alloc _ _ _ (by simp)];exact heap_alloc_new w _
theorem RSt.stored{w w':World}{r r':RowM}(h:RSt w r w'):RSt w r' (((((w'.setCell ⟨w.heap.size+1,0,none⟩ (.int .i64 r'.pt)).setCell ⟨w.heap.size+1,1,none⟩ (.string r'.tx)).setCell ⟨w.heap.size+1,2,none⟩ (.int .i64 r'.live)).setCell ⟨w.heap.size+1,3,none⟩ (.int .i64 r'.sum)).setCell ⟨w.heap.size+1,4,none⟩ (.int .i64 (r'.ev:Int))):=by
 refine⟨?_,?_,((((h.2.2.setCell (p:=⟨w.heap.size+1,0,none⟩) (by simp) _).setCell (p:=⟨w.heap.size+1,1,none⟩) (by simp) _).setCell (p:=⟨w.heap.size+1,2,none⟩) (by simp) _).setCell (p:=⟨w.heap.size+1,3,none⟩) (by simp) _).setCell (p:=⟨w.heap.size+1,4,none⟩) (by simp) _⟩
 ·have:=Qag (j:=4) (Qag (j:=3) (Qag (j:=2) (Qag (j:=1) (Qag (j:=0) h.1 (.int .i64 r'.pt)) (.string r'.tx)) (.int .i64 r'.live)) (.int .i64 r'.sum)) (.int .i64 (r'.ev:Int))
  simpa using this
 ·rw[Below.heap_setCell _ _ _ _ (by simp),Below.heap_setCell _ _ _ _ (by simp),Below.heap_setCell _ _ _ _ (by simp),Below.heap_setCell _ _ _ _ (by simp),Below.heap_setCell _ _ _ _ (by simp)];exact h.2.1
theorem Qct(l:List ChgM)(c:ChgM)(p:Int):rowM (l++[c]) p=if c.pt=p then⟨p,c.tx,(rowM l p).live+c.live,(rowM l p).sum+c.delta,(rowM l p).ev+1⟩else rowM l p:=by
 unfold rowM;rw[List.foldl_append]
 rfl
theorem Qm6(l:List ChgM)(p:Int):(rowM l p).ev<=l.length:=by
 induction l using QaI with
 | h0=>exact Nat.le_refl _
 | h1 l c ih=>
  rw[Qct];split
  ·simp;omega
  ·simp;omega
def IsChgs(w:World)(b:Nat)(l:List ChgM):Prop:=b<w.heap.size/\∀j (h:j<l.length),w.cell? ⟨b,j*4,none⟩=some (.int .i64 (l[j]).pt)/\w.cell? ⟨b,j*4+1,none⟩=some (.string (l[j]).tx)/\w.cell? ⟨b,j*4+2,none⟩=some (.int .i64 (l[j]).live)/\w.cell? ⟨b,j*4+3,none⟩=some (.int .i64 (l[j]).delta)
def SumsIn(l:List ChgM)(p:Int):Prop:=∀n,-1000000000<=(rowM (l.take n) p).live/\(rowM (l.take n) p).live<=1000000000/\-1000000000<=(rowM (l.take n) p).sum/\(rowM (l.take n) p).sum<=1000000000
theorem Qmp(b:Nat)(cap:Nat)(l:List ChgM)(p:Int)(w:World)(hlen:l.length<=1000)(hc:IsChgs w b l)(hsum:SumsIn l p):
  Calls Tryz.prog 85 #[.slice (some ⟨b,0,none⟩) l.length cap,.int .i64 p] w λen w'=>en=.returned (.agg #[.int .i64 (rowM l p).pt,.string (rowM l p).tx,.int .i64 (rowM l p).live,.int .i64 (rowM l p).sum,.int .i64 ((rowM l p).ev:Int)])/\Below w.heap.size w w':=by
 have Hc:=hdQ hc;have Hs:=hdQ hsum;clear hc hsum;go_enter Tryz.func85,Tryz.ntmps85;go_wp2
 have H0:=show Hid _ from RSt.new w
 go_loopw [6] (λi wr=>∃j:Nat,j<=l.length/\i=.int .i64 (j:Int)/\RSt w (rowM (l.take j) p) wr) (λi _=>l.length-(intOf i).toNat)
 case atStart=>exact⟨0,Nat.zero_le _,rfl,H0.out⟩
 case round=>
  obtain⟨j,hj,rfl,hS⟩:=hrel;clear H0
  by_cases hjl:j<l.length
  ·obtain⟨d0,d1,d2,d3⟩:=Hc.out.2 j hjl;have hbl:=Hc.out.1
   have hnx:rowM (l.take (j+1)) p=if(l[j]).pt=p then⟨p,(l[j]).tx,(rowM (l.take j) p).live+(l[j]).live,(rowM (l.take j) p).sum+(l[j]).delta,(rowM (l.take j) p).ev+1⟩else rowM (l.take j) p:=by
    rw[List.take_succ_eq_append_getElem hjl,Qct]
   have hev:=Qm6 (l.take j) p;rw[List.length_take]at hev;have hs1:=Hs.out (j+1);rw[hnx]at hs1
   have HN:=show Hid (_=_)from hnx
   have HS:=hdQ hS;clear hnx hS Hc Hs;generalize rowM (l.take j) p=r at HS HN hev hs1;generalize l[j]=c at d0 d1 d2 d3 HN hs1;obtain⟨rp,rt,rl,rs,re⟩:=r;obtain⟨cp,tx,cl,cd⟩:=c;simp only at d0 d1 d2 d3 hev hs1;have hji:(j:Int)<(l.length:Int):=omQ;have hj0:(0:Int)<=(j:Int):=omQ;have c0:=(HS.out.2.2.cell (p:=⟨b,j*4,none⟩) hbl).trans d0
   by_cases hcp:cp=p
   ·subst hcp;rw[if_pos rfl]at hs1;simp only at hs1
    have heq:(cp==cp)=true:=by simp
    go_wp2
    have HH:=show Hid (RSt w ⟨rp,rt,rl,rs,re⟩ wr.drew)from RSt.below HS.out (Below.refl _ _).drew
    refine wp_region_held_drew (S:=λw':World=>w'.heap[w.heap.size]? =some (.cells #[.int .i64 0,.string ⟨#[]⟩,.int .i64 0,.int .i64 0,.int .i64 0] 137 (0,0))/\Below w.heap.size w w') krQ HH.out.2 (λhH=>?_);clear HS c0;have q2:wr.drew.cell? ⟨w.heap.size+1,2,none⟩=some (.int .i64 rl):=Qaa HH.out.1 2;have q3:wr.drew.cell? ⟨w.heap.size+1,3,none⟩=some (.int .i64 rs):=Qaa HH.out.1 3;have q4:wr.drew.cell? ⟨w.heap.size+1,4,none⟩=some (.int .i64 (re:Int)):=Qaa HH.out.1 4;generalize wr.drew=w2 at HH hH q2 q3 q4 ⊢;refine tkQ 0 (.int .i64 cp) hH ?_;refine tkQ 1 (.slice (some ⟨b,0,none⟩) l.length cap) hH ?_;refine tkQ 2 (.int .i64 (j:Int)) hH ?_;refine tkQ 3 (.pointer (some ⟨b,j*4,none⟩)) hH ?_;refine tkQ 4 (.pointer (some ⟨b,j*4+1,none⟩)) hH ?_;refine tlQ 5 (.string tx) rfl (by intro v hSw;have t0:=(hSw.2.cell (p:=⟨b,j*4+1,none⟩) hbl).trans d1;clear hSw;go_simp) hH ?_;refine tkQ 6 (.pointer (some ⟨w.heap.size+1,2,none⟩)) hH ?_;refine tkQ 8 (.slice (some ⟨b,0,none⟩) l.length cap) hH ?_;refine tkQ 9 (.int .i64 (j:Int)) hH ?_;refine tkQ 10 (.pointer (some ⟨b,j*4,none⟩)) hH ?_;refine tkQ 11 (.pointer (some ⟨b,j*4+2,none⟩)) hH ?_;refine tlQ 12 (.int .i64 cl) rfl (by intro v hSw;have t0:=(hSw.2.cell (p:=⟨b,j*4+2,none⟩) hbl).trans d2;clear hSw;go_simp) hH ?_;refine tkQ 14 (.pointer (some ⟨w.heap.size+1,3,none⟩)) hH ?_;refine tkQ 16 (.slice (some ⟨b,0,none⟩) l.length cap) hH ?_;refine tkQ 17 (.int .i64 (j:Int)) hH ?_;refine tkQ 18 (.pointer (some ⟨b,j*4,none⟩)) hH ?_;refine tkQ 19 (.pointer (some ⟨b,j*4+3,none⟩)) hH ?_;refine tlQ 20 (.int .i64 cd) rfl (by intro v hSw;have t0:=(hSw.2.cell (p:=⟨b,j*4+3,none⟩) hbl).trans d3;clear hSw;go_simp) hH ?_;refine tkQ 22 (.pointer (some ⟨w.heap.size+1,4,none⟩)) hH ?_;refine rdQ [7,15,23] ?_;refine(AllReadyH.cons rfl (λK hK=>?_) (AllReadyH.cons rfl (λK hK=>?_) (AllReadyH.cons rfl (λK hK=>?_) AllReadyH.nil)))
    focus
     clear hH;go_simp;refine hK.out _ _ HH.out.2 (λhH=>?_);clear hK K;refine tlQ 13 (.int .i64 (rl+cl)) rfl (by intro v hSw;clear hSw;go_simp;exact IntWalk.i64_in (rl+cl) ⟨by omega,by omega⟩) hH ?_;refine rdQ [15,23] ?_;refine(AllReadyH.cons rfl (λK hK=>?_) (AllReadyH.cons rfl (λK hK=>?_) AllReadyH.nil))
     focus
      clear hH;go_simp;refine hK.out _ _ HH.out.2 (λhH=>?_);clear hK K;refine tlQ 21 (.int .i64 (rs+cd)) rfl (by intro v hSw;clear hSw;go_simp;exact IntWalk.i64_in (rs+cd) ⟨by omega,by omega⟩) hH ?_;refine rdQ [23] ?_;refine(AllReadyH.cons rfl (λK hK=>?_) AllReadyH.nil)
      focus
       clear hH;go_simp;refine hK.out _ _ HH.out.2 (λhH=>?_);clear hK K;refine tlQ 24 (.int .i64 ((re:Int)+1)) rfl (by intro v hSw;clear hSw;go_simp;exact IntWalk.i64_in ((re:Int)+1) ⟨by omega,by omega⟩) hH ?_
     rotate_left 1
     focus
      clear hH;go_simp;refine hK.out _ _ HH.out.2 (λhH=>?_);clear hK K;refine tlQ 24 (.int .i64 ((re:Int)+1)) rfl (by intro v hSw;clear hSw;go_simp;exact IntWalk.i64_in ((re:Int)+1) ⟨by omega,by omega⟩) hH ?_;refine rdQ [15] ?_;refine(AllReadyH.cons rfl (λK hK=>?_) AllReadyH.nil)
      focus
       clear hH;go_simp;refine hK.out _ _ HH.out.2 (λhH=>?_);clear hK K;refine tlQ 21 (.int .i64 (rs+cd)) rfl (by intro v hSw;clear hSw;go_simp;exact IntWalk.i64_in (rs+cd) ⟨by omega,by omega⟩) hH ?_
    rotate_left 2
    focus
     clear hH;go_simp;refine hK.out _ _ HH.out.2 (λhH=>?_);clear hK K;refine tlQ 21 (.int .i64 (rs+cd)) rfl (by intro v hSw;clear hSw;go_simp;exact IntWalk.i64_in (rs+cd) ⟨by omega,by omega⟩) hH ?_;refine rdQ [7,23] ?_;refine(AllReadyH.cons rfl (λK hK=>?_) (AllReadyH.cons rfl (λK hK=>?_) AllReadyH.nil))
     focus
      clear hH;go_simp;refine hK.out _ _ HH.out.2 (λhH=>?_);clear hK K;refine tlQ 13 (.int .i64 (rl+cl)) rfl (by intro v hSw;clear hSw;go_simp;exact IntWalk.i64_in (rl+cl) ⟨by omega,by omega⟩) hH ?_;refine rdQ [23] ?_;refine(AllReadyH.cons rfl (λK hK=>?_) AllReadyH.nil)
      focus
       clear hH;go_simp;refine hK.out _ _ HH.out.2 (λhH=>?_);clear hK K;refine tlQ 24 (.int .i64 ((re:Int)+1)) rfl (by intro v hSw;clear hSw;go_simp;exact IntWalk.i64_in ((re:Int)+1) ⟨by omega,by omega⟩) hH ?_
     rotate_left 1
     focus
      clear hH;go_simp;refine hK.out _ _ HH.out.2 (λhH=>?_);clear hK K;refine tlQ 24 (.int .i64 ((re:Int)+1)) rfl (by intro v hSw;clear hSw;go_simp;exact IntWalk.i64_in ((re:Int)+1) ⟨by omega,by omega⟩) hH ?_;refine rdQ [7] ?_;refine(AllReadyH.cons rfl (λK hK=>?_) AllReadyH.nil)
      focus
       clear hH;go_simp;refine hK.out _ _ HH.out.2 (λhH=>?_);clear hK K;refine tlQ 13 (.int .i64 (rl+cl)) rfl (by intro v hSw;clear hSw;go_simp;exact IntWalk.i64_in (rl+cl) ⟨by omega,by omega⟩) hH ?_
    rotate_left 2
    focus
     clear hH;go_simp;refine hK.out _ _ HH.out.2 (λhH=>?_);clear hK K;refine tlQ 24 (.int .i64 ((re:Int)+1)) rfl (by intro v hSw;clear hSw;go_simp;exact IntWalk.i64_in ((re:Int)+1) ⟨by omega,by omega⟩) hH ?_;refine rdQ [7,15] ?_;refine(AllReadyH.cons rfl (λK hK=>?_) (AllReadyH.cons rfl (λK hK=>?_) AllReadyH.nil))
     focus
      clear hH;go_simp;refine hK.out _ _ HH.out.2 (λhH=>?_);clear hK K;refine tlQ 13 (.int .i64 (rl+cl)) rfl (by intro v hSw;clear hSw;go_simp;exact IntWalk.i64_in (rl+cl) ⟨by omega,by omega⟩) hH ?_;refine rdQ [15] ?_;refine(AllReadyH.cons rfl (λK hK=>?_) AllReadyH.nil)
      focus
       clear hH;go_simp;refine hK.out _ _ HH.out.2 (λhH=>?_);clear hK K;refine tlQ 21 (.int .i64 (rs+cd)) rfl (by intro v hSw;clear hSw;go_simp;exact IntWalk.i64_in (rs+cd) ⟨by omega,by omega⟩) hH ?_
     rotate_left 1
     focus
      clear hH;go_simp;refine hK.out _ _ HH.out.2 (λhH=>?_);clear hK K;refine tlQ 21 (.int .i64 (rs+cd)) rfl (by intro v hSw;clear hSw;go_simp;exact IntWalk.i64_in (rs+cd) ⟨by omega,by omega⟩) hH ?_;refine rdQ [7] ?_;refine(AllReadyH.cons rfl (λK hK=>?_) AllReadyH.nil)
      focus
       clear hH;go_simp;refine hK.out _ _ HH.out.2 (λhH=>?_);clear hK K;refine tlQ 13 (.int .i64 (rl+cl)) rfl (by intro v hSw;clear hSw;go_simp;exact IntWalk.i64_in (rl+cl) ⟨by omega,by omega⟩) hH ?_
    all_goals
     refine tkQ 25 (.agg #[.int .i64 cp,.string tx,.int .i64 (rl+cl),.int .i64 (rs+cd),.int .i64 ((re:Int)+1)]) hH ?_;refine rdQ [26] ?_
     refine arQ λK hK=>?_
     clear hH;have b0:w2.cell? ⟨w.heap.size+1,0,none⟩=some (.int .i64 rp):=Qaa HH.out.1 0;have b1:w2.cell? ⟨w.heap.size+1,1,none⟩=some (.string rt):=Qaa HH.out.1 1;have z0:=Qab HH.out.1 0;have z1:=Qab HH.out.1 1;have z2:=Qab HH.out.1 2;have z3:=Qab HH.out.1 3;have z4:=Qab HH.out.1 4;go_simp;have HT:Hid (RSt w ⟨cp,tx,rl+cl,rs+cd,re+1⟩ (((((w2.setCell ⟨w.heap.size+1,0,none⟩ (.int .i64 cp)).setCell ⟨w.heap.size+1,1,none⟩ (.string tx)).setCell ⟨w.heap.size+1,2,none⟩ (.int .i64 (rl+cl))).setCell ⟨w.heap.size+1,3,none⟩ (.int .i64 (rs+cd))).setCell ⟨w.heap.size+1,4,none⟩ (.int .i64 ((re:Int)+1)))):=RSt.stored HH.out;refine hK.out _ _ HT.out.2 (λhH=>?_);clear hK K hH HH b0 b1 q2 q3 q4 z0 z1 z2 z3 z4;refine wpAnyH_done krQ ?_ _;generalize(((((w2.setCell ⟨w.heap.size+1,0,none⟩ (.int .i64 cp)).setCell ⟨w.heap.size+1,1,none⟩ (.string tx)).setCell ⟨w.heap.size+1,2,none⟩ (.int .i64 (rl+cl))).setCell ⟨w.heap.size+1,3,none⟩ (.int .i64 (rs+cd))).setCell ⟨w.heap.size+1,4,none⟩ (.int .i64 ((re:Int)+1)))=w3 at HT ⊢;go_wp2
     go_roundw
     case rel=>exact⟨j+1,by omega,by go_num,by rw[HN.out,if_pos trivial];exact HT.out⟩
     case measure=>simp[intOf];omega
   ·have hne:(cp==p)=false:=by rw[beq_eq_false_iff_ne];exact hcp
    go_wp2
    go_roundw
    case rel=>exact⟨j+1,by omega,by go_num,by rw[HN.out,if_neg hcp];exact HS.out⟩
    case measure=>simp[intOf];omega
  ·have hjj:j=l.length:=omQ;subst hjj;rw[List.take_length]at hS
   obtain⟨r,hr2⟩:∃r,rowM l p=r:=⟨_,rfl⟩
   rw[hr2]at hS
   have HK:=show Hid (_=_)from hr2
   have HS:=hdQ hS;clear hS Hc Hs hr2;obtain⟨rp,rt,rl,rs,re⟩:=r;have b0:wr.cell? ⟨w.heap.size+1,0,none⟩=some (.int .i64 rp):=Qaa HS.out.1 0;have b1:wr.cell? ⟨w.heap.size+1,1,none⟩=some (.string rt):=Qaa HS.out.1 1;have b2:wr.cell? ⟨w.heap.size+1,2,none⟩=some (.int .i64 rl):=Qaa HS.out.1 2;have b3:wr.cell? ⟨w.heap.size+1,3,none⟩=some (.int .i64 rs):=Qaa HS.out.1 3;have b4:wr.cell? ⟨w.heap.size+1,4,none⟩=some (.int .i64 (re:Int)):=Qaa HS.out.1 4;have r0:=Qaa HS.out.2.1 0;have r1:=Qaa HS.out.2.1 1;have r2:=Qaa HS.out.2.1 2;have r3:=Qaa HS.out.2.1 3;have r4:=Qaa HS.out.2.1 4;have z0:=Qab HS.out.2.1 0;have z1:=Qab HS.out.2.1 1;have z2:=Qab HS.out.2.1 2;have z3:=Qab HS.out.2.1 3;have z4:=Qab HS.out.2.1 4;simp at r0 r1 r2 r3 r4;go_wp2;have hg:=Qag (j:=4) (Qag (j:=3) (Qag (j:=2) (Qag (j:=1) (Qag (j:=0) HS.out.2.1 (.int .i64 rp)) (.string rt)) (.int .i64 rl)) (.int .i64 rs)) (.int .i64 (re:Int));have hg':_=some (Obj.cells #[.int .i64 rp,.string rt,.int .i64 rl,.int .i64 rs,.int .i64 (re:Int)] 137 (0,0)):=hg;refine bodyPost_ret (results_cell_row (p:=4) (ty:=137) rfl _ _ w.heap.size 137 #[.int .i64 rp,.string rt,.int .i64 rl,.int .i64 rs,.int .i64 (re:Int)] (0,0) _ rfl hg' Tryz.underlying137 rfl krQ) rfl ⟨?_,?_⟩
   ·rw[HK.out]
   ·exact((((HS.out.2.2.setCell (p:=⟨w.heap.size,0,none⟩) (Nat.le_refl _) _).setCell (p:=⟨w.heap.size,1,none⟩) (Nat.le_refl _) _).setCell (p:=⟨w.heap.size,2,none⟩) (Nat.le_refl _) _).setCell (p:=⟨w.heap.size,3,none⟩) (Nat.le_refl _) _).setCell (p:=⟨w.heap.size,4,none⟩) (Nat.le_refl _) _
section
variable {f:Owners} {w:World} {B k jb:Nat} {sb ab:List Nat} {j:JobM}
theorem RJob.compl(h:RJob f w B k jb sb ab j):w.cell? ⟨jb,10,none⟩=some (.bool j.complete)/\w.frozen? ⟨jb,10,none⟩=false/\RAfter f w B k jb sb ab {j with complete:=true} (w.setCell ⟨jb,10,none⟩ (.bool true)):=by
 obtain⟨ve,vs,va,vr,hb,_⟩:=h.box;have hf:FrmO f (λc=>c=k+1) w (w.setCell ⟨jb,10,none⟩ (.bool true)):=FrmO.of_set (S:=λc=>c=k+1) h.own rfl _;refine⟨Qad hb 10,Qab hb 10,f,h.putBox hf (Same.refl _ _) rfl rfl rfl rfl rfl λve vs va vr hbx=>?_,hf.mono λ_ _=>trivial,Same.refl _ _⟩;have:=Qas (j:=10) hbx (.bool true);exact this
theorem QjS(h:RJob f w B k jb sb ab j)(hw:j.width<=4)
  (hcm:(j.under && j.complete)=true->Calls Tryz.prog 55 #[.pointer (some ⟨jb,0,none⟩)] w λen w'=>en=.returned (.tuple #[])/\RAfter f w B k jb sb ab j.commit w'):
  Calls Tryz.prog 47 #[.pointer (some ⟨jb,0,none⟩)] w λen w'=>en=.returned (.int .i64 (j.keeps.1:Int))/\RAfter f w B k jb sb ab j.keeps.2 w':=by
 have HP:=show Hid _ from λ(_:Unit)=>QbA h hw
 have HC:=hdQ hcm;obtain⟨c10,z10,hX⟩:=h.compl;have HX:=hdQ hX
 have HS:=show Hid (RAfter f w B k jb sb ab j w)from⟨f,h,FrmO.refl _ _ _,Same.refl _ _⟩
 obtain⟨ve,vs,va,vr,hb,_⟩:=h.box;have c7:w.cell? ⟨jb,7,none⟩=some (.bool j.under):=Qad hb 7
 obtain⟨u,hu⟩:∃u,j.under=u:=⟨_,rfl⟩
 obtain⟨c,hcp⟩:∃c,j.complete=c:=⟨_,rfl⟩
 have hk:j.keeps=if u && c then(0,j.commit)else if j.passedAll then(0,{j with complete:=true})else(8,j):=by
  rw[<-hu,<-hcp]
  rfl
 rw[hu]at c7 HC;rw[hcp]at c10 HC;clear h hcm hX hb;rw[hk];clear hk hu hcp;generalize j.passedAll=pa at HP ⊢
 cases u<;>cases c<;>cases pa
 all_goals
  go_enter Tryz.func47,Tryz.ntmps47
  go_wp2_with(first | (go_at_call 79;refine(HP.out ()).mono ?_;rintro en w1 ⟨rfl,rfl⟩) | (go_at_call 55;refine(HC.out rfl).mono ?_;rintro en w2 ⟨rfl,hR2⟩))
  go_ret
  first
  | exact⟨rfl,HS.out⟩
  | exact⟨rfl,hR2⟩
  | exact⟨rfl,HX.out⟩
end
end
end Go.Proofs.YthccpacmklhejaaGreatDoor
