import Derived.Test.YthccpacmklhejabGreatDoorTk
import Derived.Test.YthccpacmklhejabGreatDoorK35
import Derived.Test.YthccpacmklhejabGreatDoorK36
import Derived.Test.YthccpacmklhejabGreatDoorK20
set_option maxHeartbeats 8000000
set_option maxRecDepth 100000
namespace Go.Proofs.YthccpacmklhejabGreatDoor
section
open Go.RowKit
theorem Qaw{w:World}{b o b' o':Nat}{u v:Value}(h:w.cell? ⟨b,o,none⟩=some v)(hne:b'≠b\/o'≠o):(w.setCell ⟨b',o',none⟩ u).cell? ⟨b,o,none⟩=some v:=by
 rw[World.cell?_setCell_other]
 ·exact h
 ·intro e;simp only[Addr.mk.injEq,and_true]at e
  rcases hne with h | h
  ·exact h e.1
  ·exact h e.2
theorem Qe0{f:Owners}{a b ca cb:Nat}(ha:f a=some ca)(hb:f b=some cb)(h:ca≠cb):a≠b:=λe=>by
 rw[e,hb]at ha;exact h (Option.some.inj ha).symm
theorem QfA(w:World)(g o0 o1 o2 o3 o4:Nat)(u0 u1 u2 u3 u4:Value){b:Nat}(h:b≠g):(((((w.setCell ⟨g,o0,none⟩ u0).setCell ⟨g,o1,none⟩ u1).setCell ⟨g,o2,none⟩ u2).setCell ⟨g,o3,none⟩ u3).setCell ⟨g,o4,none⟩ u4).heap[b]? =w.heap[b]? :=by
 rw[Below.heap_setCell _ _ _ _ h,Below.heap_setCell _ _ _ _ h,Below.heap_setCell _ _ _ _ h,Below.heap_setCell _ _ _ _ h,Below.heap_setCell _ _ _ _ h]
def laidTo(a:AdderM)(rows:List RowM)(q:Nat):List RowM:=(((a.got.take a.marked).drop a.kept).take q).foldl (λrs c=>putRow rs (rowM (a.got.take a.marked) c.pt)) rows
theorem QiB(a:AdderM)(rows:List RowM):laidTo a rows 0=rows:=by simp[laidTo]
theorem QiC(a:AdderM)(rows:List RowM)(q:Nat)(h1:a.kept+q<a.marked)(h2:a.marked<=a.got.length)(h3:a.kept+q<a.got.length):laidTo a rows (q+1)=putRow (laidTo a rows q) (rowM (a.got.take a.marked) (a.got[a.kept+q]).pt):=by
 have hl:q<((a.got.take a.marked).drop a.kept).length:=by rw[List.length_drop,List.length_take];omega
 unfold laidTo;rw[List.take_succ_eq_append_getElem hl,List.foldl_append];simp only[List.foldl_cons,List.foldl_nil,List.getElem_drop,List.getElem_take]
theorem QeG(a:AdderM)(rows:List RowM):laidTo a rows (a.marked-a.kept)=a.laid rows:=by
 have h:((a.got.take a.marked).drop a.kept).take (a.marked-a.kept)=(a.got.take a.marked).drop a.kept:=List.take_of_length_le (by rw[List.length_drop,List.length_take];omega);unfold laidTo AdderM.laid;rw[h]
theorem Qgw(rows:List RowM)(r:RowM):(putRow rows r).length<=rows.length+1:=by
 unfold putRow
 split<;>simp
theorem QdW(a:AdderM)(rows:List RowM)(q:Nat):(laidTo a rows q).length<=rows.length+q:=by
 unfold laidTo
 have key:∀(cs:List ChgM) (rs:List RowM),(cs.foldl (λrs c=>putRow rs (rowM (a.got.take a.marked) c.pt)) rs).length<=rs.length+cs.length:=by
  intro cs
  induction cs with
  | nil=>intro rs;simp
  | cons c cs ih=>
   intro rs;rw[List.foldl_cons];have h1:=ih (putRow rs (rowM (a.got.take a.marked) c.pt));have h2:=Qgw rs (rowM (a.got.take a.marked) c.pt);simp only[List.length_cons];omega
 have h1:=key (((a.got.take a.marked).drop a.kept).take q) rows;have h2:=List.length_take_le q ((a.got.take a.marked).drop a.kept);omega
def rowsAt(j:JobM)(n:Nat):List RowM:=(j.adders.take n).foldl (λrs a=>a.laid rs) j.rows
theorem QiD(j:JobM)(n:Nat)(h:n<j.adders.length):rowsAt j (n+1)=(j.adders[n]).laid (rowsAt j n):=by
 unfold rowsAt;rw[List.take_succ_eq_append_getElem h,List.foldl_append]
 rfl
theorem Qnj{j:JobM}(n:Nat)(rows:List RowM)(hn:n<j.sorters.length)(hn':n<(j.com n n rows).sorters.length):{j.com n n rows with sorters:=(j.com n n rows).sorters.set n (keptS (j.com n n rows).sorters[n])}=j.com (n+1) n rows:=by
 have e:(firstN keptS j.sorters n).set n (keptS ((firstN keptS j.sorters n)[n]'(by rw[Qax];exact hn)))=firstN keptS j.sorters (n+1):=by
  rw[Qbe keptS j.sorters n hn];exact QaZ keptS j.sorters n hn
 exact congrArg (λx=>({j with sorters:=x,adders:=firstN keptA j.adders n,rows:=rows}:JobM)) e
theorem Qnk{j:JobM}(n:Nat)(rows:List RowM)(hn:n<j.adders.length)(hn':n<(j.com (n+1) n rows).adders.length):{j.com (n+1) n rows with adders:=(j.com (n+1) n rows).adders.set n (keptA (j.com (n+1) n rows).adders[n])}=j.com (n+1) (n+1) rows:=by
 have e:(firstN keptA j.adders n).set n (keptA ((firstN keptA j.adders n)[n]'(by rw[Qax];exact hn)))=firstN keptA j.adders (n+1):=by
  rw[Qbe keptA j.adders n hn];exact QaZ keptA j.adders n hn
 exact congrArg (λx=>({j with sorters:=firstN keptS j.sorters (n+1),adders:=x,rows:=rows}:JobM)) e
theorem QcY{j:JobM}(m n:Nat)(rows:List RowM)(hn:n<j.adders.length)(hn':n<(j.com m n rows).adders.length):(j.com m n rows).adders[n]=j.adders[n]:=Qbe keptA j.adders n hn (by rw[Qax];exact hn)
section
variable {f:Owners} {w:World} {B k jb:Nat} {sb ab:List Nat} {j:JobM}
theorem RAfter.then{j2:JobM}{w1 w2:World}{f1:Owners}(hF:FrmO f (λ_=>True) w w1)(hS:Same w.heap.size f f1)(h2:RAfter f1 w1 B k jb sb ab j2 w2):RAfter f w B k jb sb ab j2 w2:=by
 obtain⟨f2,hR2,hF2,hS2⟩:=h2;exact⟨f2,hR2,hF.trans hS hF2,hS.trans hS2 hF.size⟩
theorem RJob.markWay(h:RJob f w B k jb sb ab j)(i:Nat)(hi:i<sb.length)(hi':i<j.sorters.length):∃g1 cs',w.cell? ⟨jb,4,none⟩=some (.slice (some ⟨g1,0,none⟩) j.width cs')/\w.cell? ⟨g1,i,none⟩=some (.pointer (some ⟨sb[i],0,none⟩))/\sb[i]≠jb/\sb[i]≠g1:=by
 obtain⟨g1,cs',qa,qc,c4,d1,_⟩:=h.wayS i hi hi';obtain⟨ve,vs,va,vr,hbx,_,_,hs1,os,_⟩:=h.box;have hc:w.cell? ⟨jb,4,none⟩=some vs:=Qad hbx 4;have hv:vs=.slice (some ⟨g1,0,none⟩) j.width cs':=Option.some.inj (hc.symm.trans c4);have og:f g1=some (k+2):=os g1 (by rw[hv];rfl);have ho:=(h.sorters i hi hi').1;exact⟨g1,cs',c4,d1,Qe0 ho h.own omQ,Qe0 ho og omQ⟩
theorem RJob.adderWay(h:RJob f w B k jb sb ab j)(i:Nat)(hi:i<ab.length):∃g2 ca,w.cell? ⟨jb,5,none⟩=some (.slice (some ⟨g2,0,none⟩) j.width ca)/\w.cell? ⟨g2,i,none⟩=some (.pointer (some ⟨ab[i],0,none⟩)):=by
 obtain⟨_,_,⟨ga,ca,c5,hA⟩⟩:=Qav h;obtain⟨g,rfl,d⟩:=hA i hi;exact⟨g,ca,c5,d⟩
theorem RJob.endCom(h:RJob f w B k jb sb ab j):w.cell? ⟨jb,9,none⟩=some (.int .i64 (j.off:Int))/\w.cell? ⟨jb,11,none⟩=some (.int .i64 (j.base:Int))/\w.cell? ⟨jb,7,none⟩=some (.bool j.under)/\w.frozen? ⟨jb,11,none⟩=false/\w.frozen? ⟨jb,7,none⟩=false/\
  RAfter f w B k jb sb ab {j with base:=j.off,under:=false} ((w.setCell ⟨jb,11,none⟩ (.int .i64 (j.off:Int))).setCell ⟨jb,7,none⟩ (.bool false)):=by
 obtain⟨ve,vs,va,vr,hb,_⟩:=h.box;have hf:FrmO f (λc=>c=k+1) w ((w.setCell ⟨jb,11,none⟩ (.int .i64 (j.off:Int))).setCell ⟨jb,7,none⟩ (.bool false)):=(FrmO.of_set (S:=λc=>c=k+1) h.own rfl _).trans (Same.refl _ _) (FrmO.of_set (S:=λc=>c=k+1) h.own rfl _);refine⟨Qad hb 9,Qad hb 11,Qad hb 7,Qab hb 11,Qab hb 7,f,h.putBox hf (Same.refl _ _) rfl rfl rfl rfl rfl λve vs va vr hbx=>?_,hf.mono λ_ _=>trivial,Same.refl _ _⟩;have:=Qas (j:=7) (Qas (j:=11) hbx (.int .i64 (j.off:Int))) (.bool false);exact this
def ComS(b2 gg ng gc mk q:Nat)(pt:Int)(w:World):Prop:=w.cell? ⟨b2,0,none⟩=some (.slice (some ⟨gg,0,none⟩) ng gc)/\w.cell? ⟨b2,3,none⟩=some (.int .i64 (mk:Int))/\w.cell? ⟨gg,q*4,none⟩=some (.int .i64 pt)
theorem ComS.below{b2 gg ng gc mk q:Nat}{pt:Int}{w w':World}(h:ComS b2 gg ng gc mk q pt w)(hb:Below w.heap.size w w'):ComS b2 gg ng gc mk q pt w':=⟨Qae h.1 hb,Qae h.2.1 hb,Qae h.2.2 hb⟩
theorem Qhx(r:RowM):∀u∈rowmCells1 r,u.oneCell'=true:=by
 intro u hu;simp[rowmCells1]at hu
 rcases hu with rfl | rfl | rfl | rfl | rfl<;>rfl
theorem QeH(h:RJob f w B k jb sb ab j)(hB:B<=w.heap.size)(hp:RPl j)(huc:(j.under && j.complete)=true):
  Calls Tryz.prog 56 #[.pointer (some ⟨jb,0,none⟩)] w λen w'=>en=.returned (.tuple #[])/\RAfter f w B k jb sb ab j.commit w':=by
 have hW:=hp.width;have hlS:=h.lenS;have hlA:=h.lenA;obtain⟨i0,hi0,hz0,hz1,hz2⟩:=info_parts Tryz.infoRow
 have hA:Hid (∀n (hn:n<j.adders.length),(j.adders[n]).kept<=(j.adders[n]).marked/\(j.adders[n]).marked<=(j.adders[n]).got.length/\(j.adders[n]).got.length<=400/\∀c∈(j.adders[n]).got,DB c):=λn hn=>by
  rw[Bool.and_eq_true]at huc;obtain⟨hb,_,h3⟩:=hp.flow.comp huc.1 huc.2;obtain⟨m1,m2,_⟩:=(hp.flow.adders n _ (List.getElem?_eq_getElem hn)).mark (by unfold JobM.fl;rw[huc.1,hb];rfl) (h3 _ (List.getElem_mem hn));obtain⟨g1,g2⟩:=hp.got (List.getElem?_eq_getElem hn);exact⟨m1,m2,g2,g1⟩
 have hr0:j.rows.length<=1000:=by
  have h1:=Qfx hp.rows.are.1;have h2:=List.length_take_le' j.base j.events;have h3:=hp.events;rw[List.length_map]at h1;omega
 have H0:=show Hid (RAfter f w B k jb sb ab (j.com 0 0 (rowsAt j 0)) w)from⟨f,by
  have e:j.com 0 0 (rowsAt j 0)=j:=by simp[JobM.com,firstN,rowsAt]
  rw[e]
  exact h,FrmO.refl _ _ _,Same.refl _ _⟩
 clear h hp huc;go_enter Tryz.func56,Tryz.ntmps56;go_wp2
 go_loopw [2] (λi wr=>∃n:Nat,n<=j.width/\i=.int .i64 (n:Int)/\(rowsAt j n).length<=1000+1000*n/\RAfter f w B k jb sb ab (j.com n n (rowsAt j n)) wr) (λi _=>j.width-(intOf i).toNat)
 case atStart=>exact⟨0,Nat.zero_le _,rfl,by simpa[rowsAt]using hr0,H0.out⟩
 case round=>
  obtain⟨n,hn,rfl,hlr,f1,hR,hF,hS⟩:=hrel;clear H0
  by_cases hnl:n<j.width
  ·have hni:(n:Int)<(j.width:Int):=omQ;have hn0:(0:Int)<=(n:Int):=omQ;have hs1:n<sb.length:=omQ;have ha1:n<ab.length:=omQ;have hs2:n<j.sorters.length:=omQ;have ha2:n<j.adders.length:=omQ;obtain⟨ak,am,agl,aDB⟩:=hA.out n ha2;have c0:wr.cell? ⟨jb,0,none⟩=some (.int .i64 (j.width:Int)):=(Qav hR).1
   have hs2':n<(j.com n n (rowsAt j n)).sorters.length:=by show n<(firstN keptS j.sorters n).length;rw[Qax];exact hs2
   have hRd:=hR.below ((Below.refl wr.heap.size wr).drew);have hFd:=hF.drew;have hsz:wr.drew.heap.size=wr.heap.size:=rfl;obtain⟨k2,k3,z3,hK3⟩:=hRd.keepS n hs1 hs2' (by show j.width<=9;omega);rw[Qnj n _ hs2 hs2']at hK3;obtain⟨g1,cs',c4,d1,ne1,ne2⟩:=hRd.markWay n hs1 hs2';have c4':wr.drew.cell? ⟨jb,4,none⟩=some (.slice (some ⟨g1,0,none⟩) j.width cs'):=c4
   have HK3:=show Hid (RAfter f w B k jb sb ab (j.com (n+1) n (rowsAt j n)) (wr.drew.setCell ⟨sb[n],3,none⟩ (.int .i64 (((j.com n n (rowsAt j n)).sorters[n]).marked:Int))))from RAfter.then hFd hS hK3
   clear hK3 hRd hR hF hFd hS c4 hsz;generalize((j.com n n (rowsAt j n)).sorters[n]).marked=mk at k2 HK3;generalize((j.com n n (rowsAt j n)).sorters[n]).kept=kp at k3;generalize sb[n]=b1 at d1 ne1 ne2 k2 k3 z3 HK3;go_wp2;clear c0;refine wp_region_held_drew (S:=λw':World=>w'.cell? ⟨jb,4,none⟩=some (.slice (some ⟨g1,0,none⟩) j.width cs')/\w'.cell? ⟨g1,n,none⟩=some (.pointer (some ⟨b1,0,none⟩))/\w'.cell? ⟨b1,2,none⟩=some (.int .i64 (mk:Int))) krQ ⟨c4',d1,k2⟩ (λhH=>?_);generalize wr.drew=wd at c4' d1 k2 k3 z3 HK3 hH ⊢;refine tkQ 0 (.pointer (some ⟨jb,0,none⟩)) hH ?_;refine tkQ 1 (.pointer (some ⟨jb,0,none⟩)) hH ?_;refine tkQ 2 (.pointer (some ⟨jb,4,none⟩)) hH ?_;refine tlQ 3 (.slice (some ⟨g1,0,none⟩) j.width cs') rfl (by intro v hSw;have s0:=hSw.1;clear hSw;go_simp) hH ?_;refine tkQ 4 (.int .i64 (n:Int)) hH ?_;refine tkQ 5 (.pointer (some ⟨g1,n,none⟩)) hH ?_;refine tlQ 6 (.pointer (some ⟨b1,0,none⟩)) rfl (by intro v hSw;have s0:=hSw.2.1;clear hSw;go_simp) hH ?_;refine tkQ 7 (.pointer (some ⟨jb,0,none⟩)) hH ?_;refine tkQ 8 (.pointer (some ⟨jb,0,none⟩)) hH ?_;refine tkQ 9 (.pointer (some ⟨jb,4,none⟩)) hH ?_;refine tlQ 10 (.slice (some ⟨g1,0,none⟩) j.width cs') rfl (by intro v hSw;have s0:=hSw.1;clear hSw;go_simp) hH ?_;refine tkQ 11 (.int .i64 (n:Int)) hH ?_;refine tkQ 12 (.pointer (some ⟨g1,n,none⟩)) hH ?_;refine tlQ 13 (.pointer (some ⟨b1,0,none⟩)) rfl (by intro v hSw;have s0:=hSw.2.1;clear hSw;go_simp) hH ?_;refine tkQ 14 (.pointer (some ⟨b1,0,none⟩)) hH ?_;refine tkQ 15 (.pointer (some ⟨b1,2,none⟩)) hH ?_;refine tlQ 16 (.int .i64 (mk:Int)) rfl (by intro v hSw;have s0:=hSw.2.2;clear hSw;go_simp) hH ?_;refine tkQ 17 (.pointer (some ⟨b1,0,none⟩)) hH ?_;refine tkQ 18 (.pointer (some ⟨b1,3,none⟩)) hH ?_;refine rdQ [19] ?_
   refine arQ λK hK=>?_
   clear hH;go_simp;refine hK.out _ _ ⟨Qaw c4' (.inl ne1),Qaw d1 (.inl ne2),Qaw k2 (.inr (by decide))⟩ (λhH=>?_);clear hK K hH c4' d1 k2 k3 z3;refine wpAnyH_done krQ ?_ _;generalize wd.setCell ⟨b1,3,none⟩ (.int .i64 (mk:Int))=w3 at HK3 ⊢;clear wd ne1 ne2;obtain⟨f2,hR2,hF2,hS2⟩:=HK3.out;obtain⟨g2,ca,c5,d2⟩:=hR2.adderWay n ha1
   have ha2':n<(j.com (n+1) n (rowsAt j n)).adders.length:=by show n<(firstN keptA j.adders n).length;rw[Qax];exact ha2
   obtain⟨k3,k4,hzx,hkx⟩:=hR2.keepA n ha1 ha2' (by show j.width<=9;omega);clear hzx hkx;rw[QcY _ n _ ha2 ha2']at k3 k4;have c5':w3.cell? ⟨jb,5,none⟩=some (.slice (some ⟨g2,0,none⟩) j.width ca):=c5;clear hR2 hF2 hS2 c5 f2
   obtain⟨b2,hb2⟩:∃b2,ab[n]=b2:=⟨_,rfl⟩
   rw[hb2]at d2 k3 k4
   obtain⟨A,hAe⟩:∃A,j.adders[n]=A:=⟨_,rfl⟩
   rw[hAe]at k3 k4 ak am agl aDB
   have HA2:=show Hid (_/\_)from And.intro hb2 hAe
   have HDB:=hdQ aDB;clear hb2 hAe aDB
   obtain⟨R0,hR0⟩:∃R0,rowsAt j n=R0:=⟨_,rfl⟩
   have HR0:=hdQ hR0;rw[hR0]at hlr HK3;clear hR0;go_wp2;clear c5' d2 k4
   go_loopw [4] (λi wi=>∃q:Nat,A.kept<=q/\q<=A.marked/\i=.int .i64 (q:Int)/\RAfter f w B k jb sb ab (j.com (n+1) n (laidTo A R0 (q-A.kept))) wi) (λi _=>A.marked-(intOf i).toNat)
   case atStart=>exact⟨A.kept,Nat.le_refl _,ak,rfl,by rw[Nat.sub_self,QiB];exact HK3.out⟩
   case round=>
    obtain⟨q,hq1,hq2,rfl,f3,hR,hF,hS⟩:=hrel;clear HK3 k3
    have ha2':n<(j.com (n+1) n (laidTo A R0 (q-A.kept))).adders.length:=by show n<(firstN keptA j.adders n).length;rw[Qax];exact ha2
    obtain⟨k3,k4,z4,hKA⟩:=hR.keepA n ha1 ha2' (by show j.width<=9;omega);rw[Qnk n _ ha2 ha2']at hKA;rw[QcY _ n _ ha2 ha2',HA2.out.2]at k3 k4 hKA;rw[HA2.out.1]at k3 k4 z4 hKA
    by_cases hql:q<A.marked
    ·clear z4 hKA k4;have hqi:(q:Int)<(A.marked:Int):=omQ;have hgq:q<A.got.length:=omQ;obtain⟨gg,gc,g0,hcap,hch⟩:=hR.gotCells n ha1 ha2' (by rw[QcY _ n _ ha2 ha2',HA2.out.2];omega);rw[QcY _ n _ ha2 ha2',HA2.out.2]at g0 hcap hch;rw[HA2.out.1]at g0;have gpt:=(hch.2 q hgq).1
     obtain⟨pt,hpt⟩:∃pt,(A.got[q]).pt=pt:=⟨_,rfl⟩
     rw[hpt]at gpt;have hmem:A.got[q]∈A.got.take A.marked:=List.mem_iff_getElem.2 ⟨q,by rw[List.length_take];omega,by rw[List.getElem_take]⟩;have hrpt:=(QfM (l:=A.got.take A.marked) (p:=pt) ⟨_,hmem,hpt⟩).1;have hnx:=QiC A R0 (q-A.kept) omQ am omQ;have hidx:A.kept+(q-A.kept)=q:=omQ;simp only[hidx]at hnx;rw[hpt,show q-A.kept+1=q+1-A.kept from by omega]at hnx;have hll:=QdW A R0 (q-A.kept)
     have hlt:(A.got.take A.marked).length=A.marked:=by rw[List.length_take];omega
     have HRW:=show Hid (∀wx,Below wr.heap.size wr wx->Calls Tryz.prog 84 #[.slice (some ⟨gg,0,none⟩) A.marked gc,.int .i64 pt] wx λen w'=>en=.returned (.agg #[.int .i64 (rowM (A.got.take A.marked) pt).pt,.string (rowM (A.got.take A.marked) pt).tx,.int .i64 (rowM (A.got.take A.marked) pt).live,.int .i64 (rowM (A.got.take A.marked) pt).sum,.int .i64 ((rowM (A.got.take A.marked) pt).ev:Int)])/\Below wx.heap.size wx w')from λwx hbx=>by
      have h1:=Qmp gg gc (A.got.take A.marked) pt wx omQ ((hch.below hbx).take A.marked) (Qm6 (λc hc=>HDB.out c (List.mem_of_mem_take hc)) omQ pt);rw[hlt]at h1;exact h1
     obtain⟨rw0,hrw⟩:∃r,rowM (A.got.take A.marked) pt=r:=⟨_,rfl⟩
     rw[hrw]at HRW hrpt hnx
     obtain⟨RS,hRS⟩:∃RS,laidTo A R0 (q-A.kept)=RS:=⟨_,rfl⟩
     rw[hRS]at hR hnx hll
     have HNX:=show Hid (_/\_)from And.intro hnx hrpt
     have HRR:=show Hid (_/\_/\_)from And.intro hR (And.intro hF hS)
     have hS8:ComS b2 gg A.got.length gc A.marked q pt wr:=⟨g0,k3,gpt⟩
     clear hR hF hS hnx hrpt hch hmem hpt hrw hRS g0 gpt hidx hlt;have hq0:(0:Int)<=(q:Int):=omQ;have hqg:(q:Int)<(A.got.length:Int):=omQ;have hmc:(A.marked:Int)<=(gc:Int):=omQ;have hm0:(0:Int)<=(A.marked:Int):=omQ;have hRSl:RS.length<=100000:=omQ;clear hll hlr;obtain⟨rp,rt,rl,rs,re⟩:=rw0;simp only at HRW;go_wp2;have hS8d:ComS b2 gg A.got.length gc A.marked q pt wr.drew:=hS8
     have HBd:=show Hid (Below wr.heap.size wr wr.drew)from(Below.refl wr.heap.size wr).drew
     have HS8:=show Hid (ComS b2 gg A.got.length gc A.marked q pt wr)from hS8
     clear hS8 k3;refine wp_region_held_drew (S:=ComS b2 gg A.got.length gc A.marked q pt) krQ hS8d (λhH=>?_);generalize wr.drew=wd at hS8d HBd hH ⊢;refine tkQ 0 (.pointer (some ⟨b2,0,none⟩)) hH ?_;refine tkQ 1 (.pointer (some ⟨b2,0,none⟩)) hH ?_;refine tkQ 2 (.pointer (some ⟨b2,0,none⟩)) hH ?_;refine tlQ 3 (.slice (some ⟨gg,0,none⟩) A.got.length gc) rfl (by intro v hSw;have s0:=hSw.1;clear hSw;go_simp) hH ?_;refine tkQ 4 (.pointer (some ⟨b2,0,none⟩)) hH ?_;refine tkQ 5 (.pointer (some ⟨b2,0,none⟩)) hH ?_;refine tkQ 6 (.pointer (some ⟨b2,3,none⟩)) hH ?_;refine tlQ 7 (.int .i64 (A.marked:Int)) rfl (by intro v hSw;have s0:=hSw.2.1;clear hSw;go_simp) hH ?_;refine tkQ 8 (.slice (some ⟨gg,0,none⟩) A.marked gc) hH ?_;refine tkQ 9 (.pointer (some ⟨b2,0,none⟩)) hH ?_;refine tkQ 10 (.pointer (some ⟨b2,0,none⟩)) hH ?_;refine tkQ 11 (.pointer (some ⟨b2,0,none⟩)) hH ?_;refine tlQ 12 (.slice (some ⟨gg,0,none⟩) A.got.length gc) rfl (by intro v hSw;have s0:=hSw.1;clear hSw;go_simp) hH ?_;refine tkQ 13 (.int .i64 (q:Int)) hH ?_;refine tkQ 14 (.pointer (some ⟨gg,q*4,none⟩)) hH ?_;refine tkQ 15 (.pointer (some ⟨gg,q*4,none⟩)) hH ?_;refine tlQ 16 (.int .i64 pt) rfl (by intro v hSw;have s0:=hSw.2.2;clear hSw;go_simp) hH ?_;refine rdQ [17,18] ?_;refine AllReadyH.cons rfl (λK hK=>?_) (arQ λK hK=>?_)
     focus
      clear hH;go_simp
      go_wp2_with(go_at_call 84;refine(HRW.out _ HBd.out).mono ?_;rintro en w1 ⟨rfl,hb1⟩)
      have hS1:=hS8d.below hb1;have HB1:Below wr.heap.size wr w1:=HBd.out.trans (hb1.mono HBd.out.size);refine hK.out _ _ hS1 (λhH=>?_);clear hK K;refine rdQ [18] ?_
      refine arQ λK hK=>?_
      clear hH;go_simp;refine hK.out _ _ (hS1.below ((Below.refl _ _).alloc (Nat.le_refl _) _)) (λhH=>?_);clear hK K;refine rdQ [19] ?_
      refine arQ λK hK=>?_
      clear hH;go_simp;have hkk:=heap_alloc_new w1 (.cells #[.int .i64 rp,.string rt,.int .i64 rl,.int .i64 rs,.int .i64 (re:Int)] 140);have HBk:Below wr.heap.size wr (w1.alloc (.cells #[.int .i64 rp,.string rt,.int .i64 rl,.int .i64 rs,.int .i64 (re:Int)] 140)):=HB1.alloc HB1.size _;refine hK.out _ _ (hS1.below ((Below.refl _ _).alloc (Nat.le_refl _) _)) (λhH=>?_);clear hK K hH;have hrb:wr.heap.size<=w1.heap.size:=HB1.size;clear hS8d HBd hS1 HB1 hb1;generalize w1.alloc (.cells #[.int .i64 rp,.string rt,.int .i64 rl,.int .i64 rs,.int .i64 (re:Int)] 140)=wk at hkk HBk ⊢;generalize w1.heap.size=rb at hkk hrb ⊢;clear w1;refine wpAnyH_done krQ ?_ _
     rotate_left
     focus
      clear hH;go_simp;have hkk:=heap_alloc_new wd (.cells #[.int .i64 0,.string ⟨#[]⟩,.int .i64 0,.int .i64 0,.int .i64 0] 140);have hSk:=hS8d.below ((Below.refl wd.heap.size wd).alloc (Nat.le_refl _) (.cells #[.int .i64 0,.string ⟨#[]⟩,.int .i64 0,.int .i64 0,.int .i64 0] 140));have HBk:Below wr.heap.size wr (wd.alloc (.cells #[.int .i64 0,.string ⟨#[]⟩,.int .i64 0,.int .i64 0,.int .i64 0] 140)):=HBd.out.alloc HBd.out.size _;refine hK.out _ _ hSk (λhH=>?_);clear hK K;have hrb:wr.heap.size<=wd.heap.size:=HBd.out.size;clear HBd;generalize wd.alloc (.cells #[.int .i64 0,.string ⟨#[]⟩,.int .i64 0,.int .i64 0,.int .i64 0] 140)=wa at hkk hSk HBk hH ⊢;generalize wd.heap.size=rb at hkk hrb hH ⊢;clear hS8d;clear wd;refine rdQ [17] ?_
      refine arQ λK hK=>?_
      clear hH;go_simp
      go_wp2_with(go_at_call 84;refine(HRW.out _ HBk).mono ?_;rintro en w1 ⟨rfl,hb1⟩)
      have hkk1:=(hb1.block _ (Qac hkk)).trans hkk;have hS1:=hSk.below hb1;have HB1:Below wr.heap.size wr w1:=HBk.trans (hb1.mono HBk.size);refine hK.out _ _ hS1 (λhH=>?_);clear hK K hkk hSk HBk hb1;clear wa;refine rdQ [19] ?_
      refine arQ λK hK=>?_
      clear hH;have y0:w1.cell? ⟨rb,0,none⟩=some (.int .i64 0):=Qaa hkk1 0;have y1:w1.cell? ⟨rb,1,none⟩=some (.string ⟨#[]⟩):=Qaa hkk1 1;have y2:w1.cell? ⟨rb,2,none⟩=some (.int .i64 0):=Qaa hkk1 2;have y3:w1.cell? ⟨rb,3,none⟩=some (.int .i64 0):=Qaa hkk1 3;have y4:w1.cell? ⟨rb,4,none⟩=some (.int .i64 0):=Qaa hkk1 4;have z0:w1.frozen? ⟨rb,0,none⟩=false:=Qab hkk1 0;have z1:w1.frozen? ⟨rb,1,none⟩=false:=Qab hkk1 1;have z2:w1.frozen? ⟨rb,2,none⟩=false:=Qab hkk1 2;have z3:w1.frozen? ⟨rb,3,none⟩=false:=Qab hkk1 3;have z4:w1.frozen? ⟨rb,4,none⟩=false:=Qab hkk1 4;go_simp;obtain⟨hkk,HBk,hoth⟩:=fill5 hkk1 HB1 hrb (.int .i64 rp) (.string rt) (.int .i64 rl) (.int .i64 rs) (.int .i64 (re:Int))
      have hSk:ComS b2 gg A.got.length gc A.marked q pt (((((w1.setCell ⟨rb,0,none⟩ (.int .i64 rp)).setCell ⟨rb,1,none⟩ (.string rt)).setCell ⟨rb,2,none⟩ (.int .i64 rl)).setCell ⟨rb,3,none⟩ (.int .i64 rs)).setCell ⟨rb,4,none⟩ (.int .i64 (re:Int))):=by
       have hw:ComS b2 gg A.got.length gc A.marked q pt wr:=HS8.out;exact hw.below HBk
      clear hoth y0 y1 y2 y3 y4 z0 z1 z2 z3 z4 hkk1 hS1 HB1;generalize(((((w1.setCell ⟨rb,0,none⟩ (.int .i64 rp)).setCell ⟨rb,1,none⟩ (.string rt)).setCell ⟨rb,2,none⟩ (.int .i64 rl)).setCell ⟨rb,3,none⟩ (.int .i64 rs)).setCell ⟨rb,4,none⟩ (.int .i64 (re:Int)))=wk at hkk HBk hSk ⊢;refine hK.out _ _ hSk (λhH=>?_);clear hK K hH hSk;clear w1;refine wpAnyH_done krQ ?_ _
     all_goals
      obtain⟨vr,r12,_,hrow,_,_⟩:=HRR.out.1.viewRows;obtain⟨ve0,vs0,va0,vr0,hbx0,_⟩:=HRR.out.1.box;have hjlt:jb<wr.heap.size:=Qac hbx0;clear hbx0;obtain⟨ra,rc,rfl⟩:=Qaf hrow
      have hvb:∀g,(Value.slice ra RS.length rc).ownBlock=some g->g<wr.heap.size:=λg hg=>(Qah hrow g hg).2
      have r12':wk.cell? ⟨jb,12,none⟩=some (.slice ra RS.length rc):=Qae r12 HBk;have hrow':wk.ownsRow B 140 5 (.slice ra RS.length rc) RS.length (rowmCells RS):=Qao hrow HBk
      have HRK:=show Hid (RJob f3 wk B k jb sb ab (j.com (n+1) n RS)/\FrmO f (λ_=>True) w wk/\Same w.heap.size f f3)from⟨HRR.out.1.below HBk,HRR.out.2.1.trans HRR.out.2.2 (.of_below HBk),HRR.out.2.2⟩
      clear HRR HRW r12 hrow HS8;have y0:wk.cell? ⟨rb,0,none⟩=some (.int .i64 rp):=Qaa hkk 0
      have HPL:=show Hid (∀nq,Calls Tryz.prog 70 #[.slice ra RS.length rc,.int .i64 rp] (wk.drewN nq) λen w'=>en=.returned (.int .i64 (placeM RS rp:Int))/\w'=wk.drewN nq)from λnq=>Qj1 ra rc RS rp B (wk.drewN nq) hRSl hrow'
      have hple:=Qlk RS rp
      have HPR:=show Hid (putRow RS ⟨rp,rt,rl,rs,re⟩=if placeM RS rp=RS.length then RS++[⟨rp,rt,rl,rs,re⟩]else RS.set (placeM RS rp) ⟨rp,rt,rl,rs,re⟩)from rfl
      generalize placeM RS rp=m at HPL HPR hple;go_wp2
      go_quiet (first | (go_at_call 70;refine Calls.quiet_of_same (HPL.out _)))
      clear HPL y0
      have HR4:=show Hid (RJob f3 (wk.drewN nq) B k jb sb ab (j.com (n+1) n RS)/\FrmO f (λ_=>True) w (wk.drewN nq)/\Same w.heap.size f f3)from⟨HRK.out.1.below (Qby wk nq),HRK.out.2.1.drewN nq,HRK.out.2.2⟩
      have hkq:(wk.drewN nq).heap[rb]? =some (.cells #[.int .i64 rp,.string rt,.int .i64 rl,.int .i64 rs,.int .i64 (re:Int)] 140 (0,0)):=hkk;have r12q:(wk.drewN nq).cell? ⟨jb,12,none⟩=some (.slice ra RS.length rc):=r12';clear HRK hkk HBk r12' hrow';generalize wk.drewN nq=w4 at HR4 hkq r12q ⊢;clear wk
      by_cases hml:m=RS.length
      focus
       subst hml
       have hmm:((RS.length:Int)==(RS.length:Int))=true:=by simp
       go_wp2;clear hmm;have r12d:w4.drew.cell? ⟨jb,12,none⟩=some (.slice ra RS.length rc):=r12q;clear r12q;have hxd:w4.drew.heap[rb]? =some (.cells #[.int .i64 rp,.string rt,.int .i64 rl,.int .i64 rs,.int .i64 (re:Int)] 140 (0,0)):=hkq;have hR4d:=HR4.out.1.below ((Below.refl w4.heap.size w4).drew)
       have HF4d:=show Hid (FrmO f (λ_=>True) w w4.drew/\Same w.heap.size f f3)from⟨HR4.out.2.1.drew,HR4.out.2.2⟩
       clear HR4 hkq;refine wp_region_held_drew (S:=λw':World=>w'.heap[rb]? =some (.cells #[.int .i64 rp,.string rt,.int .i64 rl,.int .i64 rs,.int .i64 (re:Int)] 140 (0,0))) krQ hxd (λhH=>?_);generalize w4.drew=w5 at hxd hR4d HF4d r12d hH ⊢;clear w4;obtain⟨vr5,r12,zf12,hrow5,hgo,_⟩:=hR4d.viewRows;have hB5:B<=w5.heap.size:=Nat.le_trans hB HF4d.out.1.size;have e5:vr5=.slice ra RS.length rc:=Option.some.inj (r12.symm.trans r12d);subst e5;have HG:=hdQ hgo
       have HRow:=show Hid (w5.ownsRow B 140 5 (.slice ra RS.length rc) RS.length (rowmCells RS))from hrow5
       clear hgo hrow5 hR4d r12;refine tkQ 0 (.pointer (some ⟨jb,0,none⟩)) hH ?_;refine tkQ 1 (.pointer (some ⟨jb,0,none⟩)) hH ?_;refine tkQ 2 (.pointer (some ⟨jb,0,none⟩)) hH ?_;refine tkQ 3 (.pointer (some ⟨jb,12,none⟩)) hH ?_;refine tlQ 5 (.agg #[.int .i64 rp,.string rt,.int .i64 rl,.int .i64 rs,.int .i64 (re:Int)]) rfl (by intro v hSw;have s0:v.cell? ⟨rb,0,none⟩=some (.int .i64 rp):=Qaa hSw 0;have s1:v.cell? ⟨rb,1,none⟩=some (.string rt):=Qaa hSw 1;have s2:v.cell? ⟨rb,2,none⟩=some (.int .i64 rl):=Qaa hSw 2;have s3:v.cell? ⟨rb,3,none⟩=some (.int .i64 rs):=Qaa hSw 3;have s4:v.cell? ⟨rb,4,none⟩=some (.int .i64 (re:Int)):=Qaa hSw 4;clear hSw;go_simp) hH ?_;have hba:=(Below.refl w5.heap.size w5).alloc (Nat.le_refl _) (.cells #[.int .i64 rp,.string rt,.int .i64 rl,.int .i64 rs,.int .i64 (re:Int)] 140);have hb4:(w5.alloc (.cells #[.int .i64 rp,.string rt,.int .i64 rl,.int .i64 rs,.int .i64 (re:Int)] 140)).heap[rb]? =some (.cells #[.int .i64 rp,.string rt,.int .i64 rl,.int .i64 rs,.int .i64 (re:Int)] 140 (0,0)):=(Below.heap_alloc _ _ _ (Qac hxd)).trans hxd;have r0a:(w5.alloc (.cells #[.int .i64 rp,.string rt,.int .i64 rl,.int .i64 rs,.int .i64 (re:Int)] 140)).cell? ⟨jb,12,none⟩=some (.slice ra RS.length rc):=Qae r12d hba;have HBa:=hdQ hba;clear hba;refine rdQ [4,6] ?_;refine AllReadyH.cons rfl (λK hK=>?_) (arQ λK hK=>?_)
       focus
        clear hH;go_simp;refine hK.out _ _ hxd (λhH=>?_);clear hK K;refine rdQ [6] ?_
        refine arQ λK hK=>?_
        clear hH;go_simp;refine hK.out _ _ hb4 (λhH=>?_);clear hK K
       rotate_left
       focus
        clear hH;go_simp;refine hK.out _ _ hb4 (λhH=>?_);clear hK K;refine rdQ [4] ?_
        refine arQ λK hK=>?_
        clear hH;go_simp;refine hK.out _ _ hb4 (λhH=>?_);clear hK K
       all_goals
        refine rdQ [7] ?_
        refine arQ λK hK=>?_
        refine QaM rfl ?_;refine Qau _ (.tmp 89) (.tmp 91) 70 rfl B 140 i0 (.agg #[.int .i64 0,.string ⟨#[]⟩,.int .i64 0,.int .i64 0,.int .i64 0]) 5 48 Tryz.underlying70 hi0 hz0 hz1 hz2 rfl (by decide) (.slice ra RS.length rc) RS.length (rowmCells RS) rfl (HRow.out.alloc _) ⟨w5.heap.size,0,none⟩ 1 1 (rowmCells1 ⟨rp,rt,rl,rs,re⟩) rfl rfl (by have:=Qbs w5 (.int .i64 rp) (.string rt) (.int .i64 rl) (.int .i64 rs) (.int .i64 (re:Int)) 140;simpa[rowmCells1]using this) (Qhx _) (by unfold maxLen;omega) (by omega) (by simp;omega) (by decide) ?_;intro v' w6 hown6 happ;obtain⟨r6,z6,hAft⟩:=HG.out _ v' w6 ⟨rp,rt,rl,rs,re⟩ HBa.out hown6 happ
        have hne6:∀g,v'.ownBlock=some g->g≠rb:=λg hg e=>by
         rcases happ with⟨_,h2⟩ | ⟨_,h2,_⟩
         ·rw[h2]at hg;have:=Qac hb4;simp only[Option.some.injEq]at hg;omega
         ·rw[h2]at hg;have:=hvb g hg;omega
        have hb6:w6.heap[rb]? =some (.cells #[.int .i64 rp,.string rt,.int .i64 rl,.int .i64 rs,.int .i64 (re:Int)] 140 (0,0)):=((Qat happ).block _ (Qac hb4) (λe=>by have:=hvb rb e.symm;omega)).trans hb4;refine hK.out _ _ hb6 (λhH=>?_)
        have HR7:=show Hid (RAfter f w B k jb sb ab (j.com (n+1) n (RS++[⟨rp,rt,rl,rs,re⟩])) (w6.setCell ⟨jb,12,none⟩ v'))from RAfter.then HF4d.out.1 HF4d.out.2 hAft
        obtain⟨a6,c6,rfl⟩:=Qaf hown6;clear hK K hown6 happ HRow HG HBa hAft r0a hb4 HF4d;refine tkQ 8 (.pointer (some ⟨jb,0,none⟩)) hH ?_;refine tkQ 9 (.pointer (some ⟨jb,12,none⟩)) hH ?_;refine rdQ [10] ?_
        refine arQ λK hK=>?_
        clear hH;go_simp;have hb7:(w6.setCell ⟨jb,12,none⟩ (.slice a6 (RS.length+1) c6)).heap[rb]? =some (.cells #[.int .i64 rp,.string rt,.int .i64 rl,.int .i64 rs,.int .i64 (re:Int)] 140 (0,0)):=(Below.heap_setCell w6 ⟨jb,12,none⟩ (.slice a6 (RS.length+1) c6) rb (λe=>by have e':rb=jb:=e;omega)).trans hb6;refine hK.out _ _ hb7 (λhH=>?_);clear hK K hH;refine wpAnyH_done krQ ?_ _;have hvn:(w6.setCell ⟨jb,12,none⟩ (.slice a6 (RS.length+1) c6)).cell? ⟨jb,12,none⟩=some (.slice a6 (RS.length+1) c6):=World.cell?_setCell_same _ _ _ r6;clear r6 z6 hb6 hxd;generalize w6.setCell ⟨jb,12,none⟩ (.slice a6 (RS.length+1) c6)=w7 at HR7 hb7 hvn ⊢
        obtain⟨RS',hRS'⟩:∃RS':List RowM,RS++[⟨rp,rt,rl,rs,re⟩]=RS':=⟨_,rfl⟩
        have hl':RS'.length=RS.length+1:=by rw[<-hRS'];simp
        have HFI:=show Hid (putRow RS ⟨rp,rt,rl,rs,re⟩=RS'.set RS.length ⟨rp,rt,rl,rs,re⟩)from by
         show putRow RS _=_
         rw[HPR.out,<-hRS'];simp
        rw[hRS']at HR7;rw[<-hl']at hvn hne6;clear hRS' HPR
        obtain⟨M,hM⟩:∃M,RS.length=M:=⟨_,rfl⟩
        rw[hM]at hl' HFI ⊢;have hmr:M<RS'.length:=omQ;have hgn:=hne6;clear hl' hple hvb hne6 hM;obtain⟨f7,hR7,hF7,hS7⟩:=HR7.out;have hR7d:=hR7.below ((Below.refl w7.heap.size w7).drew)
        have HF7d:=show Hid (FrmO f (λ_=>True) w w7.drew/\Same w.heap.size f f7)from⟨hF7.drew,hS7⟩
        have hb7d:w7.drew.heap[rb]? =some (.cells #[.int .i64 rp,.string rt,.int .i64 rl,.int .i64 rs,.int .i64 (re:Int)] 140 (0,0)):=hb7;have r7d:w7.drew.cell? ⟨jb,12,none⟩=some (.slice a6 RS'.length c6):=hvn;have hmi:(M:Int)<(RS'.length:Int):=omQ;have hm0:(0:Int)<=(M:Int):=omQ;clear HR7 hR7 hF7 hS7 hb7 hvn;go_wp2;obtain⟨vr7,r12,_,hrow7,_,hset⟩:=hR7d.viewRows;have e7:vr7=.slice a6 RS'.length c6:=Option.some.inj (r12.symm.trans r7d);subst e7;have hrow8:w7.drew.ownsRow B 140 5 (.slice a6 RS'.length c6) RS'.length (rowmCells RS'):=hrow7
        rcases Qai hrow8 with⟨_,h0⟩ | ⟨gr,rfl⟩
        ·omega
        obtain⟨gj,fz,hAft⟩:=hset M gr c6 ⟨rp,rt,rl,rs,re⟩ hmr rfl;have hgr:gr≠rb:=hgn gr rfl
        have HX:=show Hid (RAfter f w B k jb sb ab (j.com (n+1) n (RS'.set M ⟨rp,rt,rl,rs,re⟩)) _)from RAfter.then HF7d.out.1 HF7d.out.2 hAft
        have y0:w7.drew.cell? ⟨gr,M*5,none⟩=some (.int .i64 (RS'[M]).pt):=(hrow8.cellAt (M*5) omQ).trans (QaD RS' M hmr 0 (by decide));have y1:w7.drew.cell? ⟨gr,M*5+1,none⟩=some (.string (RS'[M]).tx):=(hrow8.cellAt (M*5+1) omQ).trans (QaD RS' M hmr 1 (by decide));have y2:w7.drew.cell? ⟨gr,M*5+2,none⟩=some (.int .i64 (RS'[M]).live):=(hrow8.cellAt (M*5+2) omQ).trans (QaD RS' M hmr 2 (by decide));have y3:w7.drew.cell? ⟨gr,M*5+3,none⟩=some (.int .i64 (RS'[M]).sum):=(hrow8.cellAt (M*5+3) omQ).trans (QaD RS' M hmr 3 (by decide));have y4:w7.drew.cell? ⟨gr,M*5+4,none⟩=some (.int .i64 ((RS'[M]).ev:Int)):=(hrow8.cellAt (M*5+4) omQ).trans (QaD RS' M hmr 4 (by decide));have z0:=fz (M*5);have z1:=fz (M*5+1);have z2:=fz (M*5+2);have z3:=fz (M*5+3);have z4:=fz (M*5+4);generalize RS'[M]=xr at y0 y1 y2 y3 y4;obtain⟨xp,xt,xl,xs,xe⟩:=xr;simp only at y0 y1 y2 y3 y4;clear hR7d HF7d r12 hrow7 hrow8 hset fz hAft;refine wp_region_held_drew (S:=λw':World=>w'.cell? ⟨jb,12,none⟩=some (.slice (some ⟨gr,0,none⟩) RS'.length c6)/\w'.heap[rb]? =some (.cells #[.int .i64 rp,.string rt,.int .i64 rl,.int .i64 rs,.int .i64 (re:Int)] 140 (0,0))) krQ ⟨r7d,hb7d⟩ (λhH=>?_);generalize w7.drew=w8 at HX y0 y1 y2 y3 y4 z0 z1 z2 z3 z4 r7d hb7d hH ⊢;refine tkQ 0 (.pointer (some ⟨jb,0,none⟩)) hH ?_;refine tkQ 1 (.pointer (some ⟨jb,0,none⟩)) hH ?_;refine tkQ 2 (.pointer (some ⟨jb,12,none⟩)) hH ?_;refine tlQ 3 (.slice (some ⟨gr,0,none⟩) RS'.length c6) rfl (by intro v hSw;have s0:=hSw.1;clear hSw;go_simp) hH ?_;refine tkQ 4 (.int .i64 (M:Int)) hH ?_;refine tlQ 5 (.agg #[.int .i64 rp,.string rt,.int .i64 rl,.int .i64 rs,.int .i64 (re:Int)]) rfl (by intro v hSw;have s0:v.cell? ⟨rb,0,none⟩=some (.int .i64 rp):=Qaa hSw.2 0;have s1:v.cell? ⟨rb,1,none⟩=some (.string rt):=Qaa hSw.2 1;have s2:v.cell? ⟨rb,2,none⟩=some (.int .i64 rl):=Qaa hSw.2 2;have s3:v.cell? ⟨rb,3,none⟩=some (.int .i64 rs):=Qaa hSw.2 3;have s4:v.cell? ⟨rb,4,none⟩=some (.int .i64 (re:Int)):=Qaa hSw.2 4;clear hSw;go_simp) hH ?_;refine tkQ 6 (.pointer (some ⟨gr,M*5,none⟩)) hH ?_;refine rdQ [7] ?_
        refine arQ λK hK=>?_
        clear hH;go_simp;refine hK.out _ _ ⟨Qaw (Qaw (Qaw (Qaw (Qaw r7d (.inl gj)) (.inl gj)) (.inl gj)) (.inl gj)) (.inl gj),(QfA w8 _ _ _ _ _ _ _ _ _ _ _ (Ne.symm hgr)).trans hb7d⟩ (λhH=>?_);clear hK K hH y0 y1 y2 y3 y4 z0 z1 z2 z3 z4 r7d hb7d;refine wpAnyH_done krQ ?_ _;generalize(((((w8.setCell ⟨gr,M*5,none⟩ (.int .i64 rp)).setCell ⟨gr,M*5+1,none⟩ (.string rt)).setCell ⟨gr,M*5+2,none⟩ (.int .i64 rl)).setCell ⟨gr,M*5+3,none⟩ (.int .i64 rs)).setCell ⟨gr,M*5+4,none⟩ (.int .i64 (re:Int)))=w9 at HX ⊢;go_wp2
        go_roundw
        case rel=>exact⟨q+1,by omega,by omega,by go_num,by rw[HNX.out.1,HFI.out];exact HX.out⟩
        case measure=>simp[intOf];omega
      rotate_left
      focus
       have hmm:¬((m:Int)=(RS.length:Int)):=omQ
       have hmb:((m:Int)==(RS.length:Int))=false:=by rw[beq_eq_false_iff_ne];exact hmm
       go_wp2;clear hmm hmb
       have HR7:=show Hid (RAfter f w B k jb sb ab (j.com (n+1) n RS) w4)from⟨f3,HR4.out.1,HR4.out.2.1,HR4.out.2.2⟩
       have HFI:=show Hid (putRow RS ⟨rp,rt,rl,rs,re⟩=RS.set m ⟨rp,rt,rl,rs,re⟩)from by
        show putRow RS _=_
        rw[HPR.out,if_neg hml]
       have hb7:=hkq;have hvn:=r12q
       have hgn:∀g,(Value.slice ra RS.length rc).ownBlock=some g->g≠rb:=λg hg e=>by have:=hvb g hg;omega
       have hmr:m<RS.length:=omQ;clear HR4 hkq r12q HPR hml hple hvb;obtain⟨f7,hR7,hF7,hS7⟩:=HR7.out;have hR7d:=hR7.below ((Below.refl w4.heap.size w4).drew)
       have HF7d:=show Hid (FrmO f (λ_=>True) w w4.drew/\Same w.heap.size f f7)from⟨hF7.drew,hS7⟩
       have hb7d:w4.drew.heap[rb]? =some (.cells #[.int .i64 rp,.string rt,.int .i64 rl,.int .i64 rs,.int .i64 (re:Int)] 140 (0,0)):=hb7;have r7d:w4.drew.cell? ⟨jb,12,none⟩=some (.slice ra RS.length rc):=hvn;have hmi:(m:Int)<(RS.length:Int):=omQ;have hm0:(0:Int)<=(m:Int):=omQ;clear HR7 hR7 hF7 hS7 hb7 hvn;obtain⟨vr7,r12,_,hrow4,_,hset⟩:=hR7d.viewRows;have e7:vr7=.slice ra RS.length rc:=Option.some.inj (r12.symm.trans r7d);subst e7;have hrow8:w4.drew.ownsRow B 140 5 (.slice ra RS.length rc) RS.length (rowmCells RS):=hrow4
       rcases Qai hrow8 with⟨_,h0⟩ | ⟨gr,rfl⟩
       ·omega
       obtain⟨gj,fz,hAft⟩:=hset m gr rc ⟨rp,rt,rl,rs,re⟩ hmr rfl;have hgr:gr≠rb:=hgn gr rfl
       have HX:=show Hid (RAfter f w B k jb sb ab (j.com (n+1) n (RS.set m ⟨rp,rt,rl,rs,re⟩)) _)from RAfter.then HF7d.out.1 HF7d.out.2 hAft
       have y0:w4.drew.cell? ⟨gr,m*5,none⟩=some (.int .i64 (RS[m]).pt):=(hrow8.cellAt (m*5) omQ).trans (QaD RS m hmr 0 (by decide));have y1:w4.drew.cell? ⟨gr,m*5+1,none⟩=some (.string (RS[m]).tx):=(hrow8.cellAt (m*5+1) omQ).trans (QaD RS m hmr 1 (by decide));have y2:w4.drew.cell? ⟨gr,m*5+2,none⟩=some (.int .i64 (RS[m]).live):=(hrow8.cellAt (m*5+2) omQ).trans (QaD RS m hmr 2 (by decide));have y3:w4.drew.cell? ⟨gr,m*5+3,none⟩=some (.int .i64 (RS[m]).sum):=(hrow8.cellAt (m*5+3) omQ).trans (QaD RS m hmr 3 (by decide));have y4:w4.drew.cell? ⟨gr,m*5+4,none⟩=some (.int .i64 ((RS[m]).ev:Int)):=(hrow8.cellAt (m*5+4) omQ).trans (QaD RS m hmr 4 (by decide));have z0:=fz (m*5);have z1:=fz (m*5+1);have z2:=fz (m*5+2);have z3:=fz (m*5+3);have z4:=fz (m*5+4);generalize RS[m]=xr at y0 y1 y2 y3 y4;obtain⟨xp,xt,xl,xs,xe⟩:=xr;simp only at y0 y1 y2 y3 y4;clear hR7d HF7d r12 hrow4 hrow8 hset fz hAft;refine wp_region_held_drew (S:=λw':World=>w'.cell? ⟨jb,12,none⟩=some (.slice (some ⟨gr,0,none⟩) RS.length rc)/\w'.heap[rb]? =some (.cells #[.int .i64 rp,.string rt,.int .i64 rl,.int .i64 rs,.int .i64 (re:Int)] 140 (0,0))) krQ ⟨r7d,hb7d⟩ (λhH=>?_);generalize w4.drew=w8 at HX y0 y1 y2 y3 y4 z0 z1 z2 z3 z4 r7d hb7d hH ⊢;refine tkQ 0 (.pointer (some ⟨jb,0,none⟩)) hH ?_;refine tkQ 1 (.pointer (some ⟨jb,0,none⟩)) hH ?_;refine tkQ 2 (.pointer (some ⟨jb,12,none⟩)) hH ?_;refine tlQ 3 (.slice (some ⟨gr,0,none⟩) RS.length rc) rfl (by intro v hSw;have s0:=hSw.1;clear hSw;go_simp) hH ?_;refine tkQ 4 (.int .i64 (m:Int)) hH ?_;refine tlQ 5 (.agg #[.int .i64 rp,.string rt,.int .i64 rl,.int .i64 rs,.int .i64 (re:Int)]) rfl (by intro v hSw;have s0:v.cell? ⟨rb,0,none⟩=some (.int .i64 rp):=Qaa hSw.2 0;have s1:v.cell? ⟨rb,1,none⟩=some (.string rt):=Qaa hSw.2 1;have s2:v.cell? ⟨rb,2,none⟩=some (.int .i64 rl):=Qaa hSw.2 2;have s3:v.cell? ⟨rb,3,none⟩=some (.int .i64 rs):=Qaa hSw.2 3;have s4:v.cell? ⟨rb,4,none⟩=some (.int .i64 (re:Int)):=Qaa hSw.2 4;clear hSw;go_simp) hH ?_;refine tkQ 6 (.pointer (some ⟨gr,m*5,none⟩)) hH ?_;refine rdQ [7] ?_
       refine arQ λK hK=>?_
       clear hH;go_simp;refine hK.out _ _ ⟨Qaw (Qaw (Qaw (Qaw (Qaw r7d (.inl gj)) (.inl gj)) (.inl gj)) (.inl gj)) (.inl gj),(QfA w8 _ _ _ _ _ _ _ _ _ _ _ (Ne.symm hgr)).trans hb7d⟩ (λhH=>?_);clear hK K hH y0 y1 y2 y3 y4 z0 z1 z2 z3 z4 r7d hb7d;refine wpAnyH_done krQ ?_ _;generalize(((((w8.setCell ⟨gr,m*5,none⟩ (.int .i64 rp)).setCell ⟨gr,m*5+1,none⟩ (.string rt)).setCell ⟨gr,m*5+2,none⟩ (.int .i64 rl)).setCell ⟨gr,m*5+3,none⟩ (.int .i64 rs)).setCell ⟨gr,m*5+4,none⟩ (.int .i64 (re:Int)))=w9 at HX ⊢;go_wp2
       go_roundw
       case rel=>exact⟨q+1,by omega,by omega,by go_num,by rw[HNX.out.1,HFI.out];exact HX.out⟩
       case measure=>simp[intOf];omega
    ·have hqe:q=A.marked:=omQ;subst hqe;have hqi:¬(A.marked:Int)<(A.marked:Int):=omQ
     have HKA:=show Hid (RAfter f w B k jb sb ab (j.com (n+1) (n+1) (laidTo A R0 (A.marked-A.kept))) (wr.setCell ⟨b2,4,none⟩ (.int .i64 (A.marked:Int))))from RAfter.then hF hS hKA
     rw[QeG]at HKA
     have hnr:rowsAt j (n+1)=A.laid R0:=by rw[QiD j n ha2,HA2.out.2,HR0.out]
     have hll:=QdW A R0 (A.marked-A.kept);rw[QeG]at hll
     have HL:=show Hid (rowsAt j (n+1)=A.laid R0/\(A.laid R0).length<=1000+1000*(n+1))from⟨hnr,by omega⟩
     clear hR hF hS hKA hnr hll;go_wp2
     go_roundw
     case rel=>exact⟨n+1,by omega,by go_num,by rw[HL.out.1];exact HL.out.2,by rw[HL.out.1];exact HKA.out⟩
     case measure=>simp[intOf];omega
  ·have hni:¬(n:Int)<(j.width:Int):=omQ;have hnn:n=j.width:=omQ;have c0:wr.cell? ⟨jb,0,none⟩=some (.int .i64 (j.width:Int)):=(Qav hR).1;obtain⟨e9,e11,e7,z11,z7,hE⟩:=hR.endCom
   have HE:=show Hid (RAfter f w B k jb sb ab j.commit ((wr.setCell ⟨jb,11,none⟩ (.int .i64 (j.off:Int))).setCell ⟨jb,7,none⟩ (.bool false)))from by
    have hE2:=RAfter.then hF hS hE
    have e:{j.com n n (rowsAt j n)with base:=(j.com n n (rowsAt j n)).off,under:=false}=j.commit:=by
     subst hnn;unfold JobM.com JobM.commit;simp only;rw[Qbf keptS j.sorters j.width omQ,Qbf keptA j.adders j.width omQ];unfold rowsAt;rw[List.take_of_length_le omQ]
     rfl
    rw[e]at hE2;exact hE2
   have e9':wr.cell? ⟨jb,9,none⟩=some (.int .i64 (j.off:Int)):=e9;have e11':wr.cell? ⟨jb,11,none⟩=some (.int .i64 (j.base:Int)):=e11;have e7':wr.cell? ⟨jb,7,none⟩=some (.bool j.under):=e7;clear hR hF hS hE e9 e11 e7 hnn;generalize j.under=u at e7';go_wp2
   go_end0
   exact⟨rfl,HE.out⟩
end
end
end Go.Proofs.YthccpacmklhejabGreatDoor
