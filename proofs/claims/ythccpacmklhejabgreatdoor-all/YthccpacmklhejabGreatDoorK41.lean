import Derived.Test.YthccpacmklhejabGreatDoorTk
import Derived.Test.YthccpacmklhejabGreatDoorK35
import Derived.Test.YthccpacmklhejabGreatDoorK37
import Derived.Test.YthccpacmklhejabGreatDoorK40
import Derived.Test.YthccpacmklhejabGreatDoorK34
set_option maxHeartbeats 8000000
set_option maxRecDepth 100000
namespace Go.Proofs.YthccpacmklhejabGreatDoor
section
open Go.RowKit
theorem QcZ{P:Program}(w:World){o:Oper}{a:Act}{K:Act->World->Prop}{Q:Exit->Act->World->Prop}(s x:Operand)(t:TypeId)
  (ho:o.op=.call {callee:=.builtin .append,args:=#[s,x],argTypes:=#[t,t]})
  (B:Nat) (hB:B<=w.heap.size) (e:TypeId) (i:TypeInfo) (z:Value) (size bytes:Nat) (ht:P.underlying t=some (.slice e)) (hi:P.info? e=some i) (hz:i.zero=some z)
  (hsize:i.size=size) (hby:i.bytes=bytes) (hzs:z.cells.size=size) (hsz:0<size)
  (hs:a.eval s=.slice none 0 0) (xa:Option Addr) (m c:Nat) (hx:a.eval x=.slice xa m c) (news:List Value) (hl:news.length=m*size)
  (hnews:m=0\/∃ad,xa=some ad/\∀j u,news[j]? =some u->w.cell? (ad.add j)=some u) (h1:∀u∈news,u.oneCell'=true)
  (h63:m<=maxLen) (hbytes:(m+m / 4+192)*bytes<=281474976710656)
  (h:∀v' w',w'.ownsRow B e size v' m news->(∀g,v'.ownBlock=some g->w.heap.size<=g)->Below w.heap.size w w'->K (a.put o.dst v') w'):o.wp P a w K Q:=by
 have key:∃v' w',(Builtin.append_ #[t,t] o.type #[.slice none 0 0,.slice xa m c]).run P w=.ok v' w'/\w'.ownsRow B e size v' m news/\(∀g,v'.ownBlock=some g->w.heap.size<=g)/\Below w.heap.size w w':=by
  by_cases h0:m=0
  ·subst h0
   have hn:news=[]:=by
    rw[Nat.zero_mul]at hl;exact List.length_eq_zero_iff.1 hl
   subst hn;refine⟨.slice none 0 0,w,?_,Qdt _ _ _ _,λg hg=>by simp[Value.ownBlock]at hg,Below.refl _ _⟩;refine run_append_nothing w t t o.type e i ht hi none 0 0 (Nat.le_refl _) _ ⟨.inl ⟨e,ht⟩,λw'=>by simp[Builtin.lenOf],by cases xa<;>simp[Builtin.firstCells,loadCells,loadCellsFrom],by cases xa<;>simp[Builtin.firstCells,loadCells,loadCellsFrom],by simp,by simp⟩
  ·rcases hnews with h2 | ⟨ad,rfl,hc⟩
   ·exact absurd h2 h0
   obtain⟨v',w',hr,h2,h3⟩:=Qdn (P:=P) w w.heap.size t o.type e i z size bytes ht hi hz hsize hby hzs hsz (.slice none 0 0) 0 [] (Qdt _ _ _ _) ad m c news hl hc h1 omQ (by simpa using hbytes) (Nat.le_refl _) omQ;rw[Nat.zero_add,List.nil_append]at h2
   have hg:w.grownBy w' none:=h3.elim (λx=>x.1) λx=>absurd (rfl:(Value.slice none 0 0).ownBlock=none) x.2.2
   exact⟨v',w',hr,Qa3 h2 hB,λg hg=>(Qah h2 g hg).1,⟨hg.os,hg.tape,hg.output,hg.size,λk hk=>hg.block k hk (by simp)⟩⟩
 obtain⟨v',w',hr,a1,a2,a3⟩:=key;unfold Oper.wp execOp;simp only[ho,resolve,invoke,builtin,Sem.run_bind,Sem.run_pure,Result.andThen_ok,List.map_toArray,List.map_cons,List.map_nil,hs,hx,hr];exact h v' w' a1 a2 a3
theorem Qhz(es:List Ev)(n:Nat):evCells (es.take n)=(evCells es).take (n*4):=by
 induction es generalizing n with
 | nil=>simp[evCells]
 | cons e es ih=>
  cases n with
  | zero=>simp[evCells]
  | succ n=>
   have:=ih n;simp only[evCells,List.take_succ_cons,List.flatMap_cons]at this ⊢;rw[this,show(n+1)*4=(evCells1 e).length+n*4 from by simp[evCells1];omega,List.take_length_add_append]
theorem Qgx(cs:List ChgM)(n:Nat):chgCells (cs.take n)=(chgCells cs).take (n*4):=by
 induction cs generalizing n with
 | nil=>simp[chgCells]
 | cons e cs ih=>
  cases n with
  | zero=>simp[chgCells]
  | succ n=>
   have:=ih n;simp only[chgCells,List.take_succ_cons,List.flatMap_cons]at this ⊢;rw[this,show(n+1)*4=(chgCells1 e).length+n*4 from by simp[chgCells1];omega,List.take_length_add_append]
theorem QfB(cs:List ChgM):(chgCells cs).length=cs.length*4:=by
 induction cs with
 | nil=>rfl
 | cons c cs ih=>simp[chgCells,chgCells1]at ih ⊢;omega
theorem QiE(es:List Ev):∀u∈evCells es,u.oneCell'=true:=by
 intro u hu;unfold evCells at hu;obtain⟨e,_,h⟩:=List.mem_flatMap.1 hu;exact Qbl e u h
theorem QhA(cs:List ChgM):∀u∈chgCells cs,u.oneCell'=true:=by
 intro u hu;unfold chgCells at hu;obtain⟨c,_,h⟩:=List.mem_flatMap.1 hu;simp[chgCells1]at h
 rcases h with rfl | rfl | rfl | rfl<;>rfl
theorem Tryz.infoChg:(Tryz.prog.info? 151).map (λi=>(i.zero,i.size,i.bytes))=some (some (.agg #[.int .i64 0,.string ⟨#[]⟩,.int .i64 0,.int .i64 0]),4,40):=by kernel_rfl
theorem QeI{w:World}{B N c s:Nat}{e:TypeId}{a:Option Addr}{xs:List Value}(h:w.ownsRow B e s (.slice a N c) N xs)(m:Nat)(hm:m<=N):m=0\/∃ad,a=some ad/\∀j u,(xs.take (m*s))[j]? =some u->w.cell? (ad.add j)=some u:=by
 rcases Qai h with⟨_,h0⟩ | ⟨g,rfl⟩
 ·exact .inl omQ
 ·refine .inr ⟨_,rfl,λj u hu=>?_⟩;rw[List.getElem?_take]at hu;split at hu
  ·exact h.cells (g:=g) rfl j u hu
  ·cases hu
theorem Qnl{j:JobM}(n:Nat)(hn:n<j.sorters.length):{j.fgt n n with sorters:=(j.fgt n n).sorters.set n (forgS j.sorters[n])}=j.fgt (n+1) n:=by
 have e:=QaZ forgS j.sorters n hn;unfold JobM.fgt;simp only;rw[e]
theorem Qnm{j:JobM}(n:Nat)(hn:n<j.adders.length):{j.fgt (n+1) n with adders:=(j.fgt (n+1) n).adders.set n (forgA j.width j.adders[n])}=j.fgt (n+1) (n+1):=by
 have e:=QaZ (forgA j.width) j.adders n hn;unfold JobM.fgt;simp only;rw[e]
theorem Qj3{j:JobM}(m n:Nat)(hn:n<j.sorters.length)(hn':n<(j.fgt n m).sorters.length):(j.fgt n m).sorters[n]=j.sorters[n]:=Qbe forgS j.sorters n hn (by rw[Qax];exact hn)
theorem Qlr{j:JobM}(m n:Nat)(hn:n<j.adders.length)(hn':n<(j.fgt m n).adders.length):(j.fgt m n).adders[n]=j.adders[n]:=Qbe (forgA j.width) j.adders n hn (by rw[Qax];exact hn)
section
variable {f:Owners} {w:World} {B k jb:Nat} {sb ab:List Nat} {j:JobM}
theorem Qls(h:RJob f w B k jb sb ab j)(hB:B<=w.heap.size)(hp:RPl j):
  Calls Tryz.prog 31 #[.pointer (some ⟨jb,0,none⟩)] w λen w'=>en=.returned (.tuple #[])/\RAfterF f w B k jb j.fail w':=by
 have hW:=hp.width;obtain⟨i0,hi0,hz0,hz1,hz2⟩:=info_parts Tryz.infoEv;obtain⟨i1,hi1,hy0,hy1,hy2⟩:=info_parts Tryz.infoChg;obtain⟨ve,vs,va,vr,hb,_⟩:=h.box;have c7:w.cell? ⟨jb,7,none⟩=some (.bool j.under):=Qad hb 7;have c10:w.cell? ⟨jb,10,none⟩=some (.bool j.complete):=Qad hb 10
 obtain⟨j1,hj1⟩:∃j1,(if j.under && j.complete then j.commit else j)=j1:=⟨_,rfl⟩
 have HC:=show Hid ((j.under && j.complete)=true->Calls Tryz.prog 56 #[.pointer (some ⟨jb,0,none⟩)] w λen w'=>en=.returned (.tuple #[])/\RAfter f w B k jb sb ab j1 w')from λe=>by
  have h1:=QeH h hB hp e;rw[if_pos e]at hj1;rw[<-hj1];exact h1
 have HN:=show Hid ((j.under && j.complete)=false->RAfter f w B k jb sb ab j1 w)from λe=>by
  rw[if_neg (by rw[e];decide)]at hj1;rw[<-hj1];exact⟨f,h,FrmO.refl _ _ _,Same.refl _ _⟩
 have hfa:j.fail=j1.forget:=by
  unfold JobM.fail;rw[<-hj1]
  split<;>rfl
 have hp1:RPl j1:=by
  rw[<-hj1];split
  ·rename_i e
   rw[Bool.and_eq_true]at e;exact QjY hp e.1 e.2
  ·exact hp
 have hw1:j1.width=j.width:=by rw[<-hj1];split<;>rfl
 rw[hfa];rw[<-hw1]at hW
 have HB:=show Hid (B<=w.heap.size)from hB
 have HP:=show Hid (RPl j1)from hp1
 clear h hp hb hj1 hfa hp1 hw1 hB;generalize j.under=u at c7 HC HN;generalize j.complete=c at c10 HC HN;go_enter Tryz.func31,Tryz.ntmps31
 go_upto_region 0 with fail
 go_cut [16]from 7 (λs16 wc=>s16=Value.bool (u && c)/\wc=w)
 case first=>
  cases u<;>cases c
  all_goals
   go_wp2
   go_meet
   exact⟨rfl,rfl⟩
 case rest=>
 obtain⟨rfl,hwc⟩:=hcut;have hwc2:=hwc.symm;clear hwc;subst hwc2;clear c7 c10;generalize(u && c)=e at HC HN
 go_upto_if 16 with fail
 go_cut []from 7 (λwd=>RAfter f w B k jb sb ab j1 wd)
 case first=>
  cases e with
  | false=>
   go_wp2_with fail
   go_meet
   first | exact HN.out rfl | exact HN.out trivial
  | true=>
   go_wp2_with(go_at_call 56;refine(HC.out rfl).mono ?_;rintro en w2 ⟨rfl,hR2⟩)
   go_meet
   exact hR2
 case rest=>
  obtain⟨f1,hR,hF,hS⟩:=hcut;clear HC HN;obtain⟨b11,b7,b3,z7,z3,hBk⟩:=hR.backTo;have hlS:=hR.lenS;have hlA:=hR.lenA
  have H0:=show Hid (RAfterF f w B k jb (j1.fgt 0 0) ((wc.setCell ⟨jb,7,none⟩ (.bool false)).setCell ⟨jb,3,none⟩ (.int .i64 (j1.base:Int))))from by
   obtain⟨f2,hR2,hF2,hS2⟩:=hBk;refine⟨f2,sb,ab,?_,hF.trans hS hF2,hS.trans hS2 hF.size⟩
   have e:j1.fgt 0 0={j1 with under:=false,sent:=j1.base}:=by simp[JobM.fgt,firstN]
   rw[e];exact hR2
  clear hR hF hS hBk;clear f1;generalize j1.under=u1 at b7;go_wp2;clear b11 b7 b3 z7 z3;generalize(wc.setCell ⟨jb,7,none⟩ (.bool false)).setCell ⟨jb,3,none⟩ (.int .i64 (j1.base:Int))=w0 at H0 ⊢;clear wc
  go_loopw [2] (λi wr=>∃n:Nat,n<=j1.width/\i=.int .i64 (n:Int)/\RAfterF f w B k jb (j1.fgt n n) wr) (λi _=>j1.width-(intOf i).toNat)
  case atStart=>exact⟨0,Nat.zero_le _,rfl,H0.out⟩
  case round=>
   obtain⟨n,hn,rfl,f1,sb1,ab1,hR,hF,hS⟩:=hrel;clear H0;have c0:wr.cell? ⟨jb,0,none⟩=some (.int .i64 (j1.width:Int)):=(Qav hR).1
   by_cases hnl:n<j1.width
   ·have hni:(n:Int)<(j1.width:Int):=omQ;have hn0:(0:Int)<=(n:Int):=omQ;have hlS1:=hR.lenS;have hlA1:=hR.lenA
    have hs1:n<sb1.length:=by have:(j1.fgt n n).width=j1.width:=rfl;omega
    have ha1:n<ab1.length:=by have:(j1.fgt n n).width=j1.width:=rfl;omega
    have hs2:n<j1.sorters.length:=omQ;have ha2:n<j1.adders.length:=omQ
    have hs2':n<(j1.fgt n n).sorters.length:=by show n<(firstN forgS j1.sorters n).length;rw[Qax];exact hs2
    obtain⟨_,k3,_,_⟩:=hR.keepS n hs1 hs2' (by show j1.width<=9;omega);obtain⟨vg,c3,hg,_⟩:=hR.gotS n hs1 hs2' (by show j1.width<=9;omega);rw[Qj3 n n hs2 hs2']at k3 hg;obtain⟨g1,cs',c4,d1,ne1,ne2⟩:=hR.markWay n hs1 hs2';have c4':wr.cell? ⟨jb,4,none⟩=some (.slice (some ⟨g1,0,none⟩) j1.width cs'):=c4;have hkl:=(HP.out.flow.sorters n _ (List.getElem?_eq_getElem hs2)).kept_le;have hgl:=(QcF HP.out.flow (List.getElem?_eq_getElem hs2)).2.1;have hel:=HP.out.events;obtain⟨ga,gc,rfl⟩:=Qaf hg;have hcap:=Qdp hg;have hfc:=QeI hg (j1.sorters[n]).kept hkl;rw[<-Qhz]at hfc;have hBw:B<=wr.heap.size:=Nat.le_trans HB.out hF.size
    have HSW:=show Hid (∀(w2:World) (nb:Nat) (vg:Value),Below wr.heap.size wr w2->wr.heap.size<=nb->w2.heap[nb]? =some (.cells #[vg,.slice none 0 0,.int .i64 ((j1.sorters[n]).kept:Int),.int .i64 ((j1.sorters[n]).kept:Int),.bool false] 75 (0,0))->w2.ownsRow B 40 4 vg ((j1.sorters[n]).got.take (j1.sorters[n]).kept).length (evCells ((j1.sorters[n]).got.take (j1.sorters[n]).kept))->(∀g,vg.ownBlock=some g->wr.heap.size<=g)->
      w2.cell? ⟨g1,n,none⟩=some (.pointer (some ⟨sb1[n],0,none⟩))/\w2.frozen? ⟨g1,n,none⟩=false/\g1≠nb/\g1≠jb/\∃f2 sb2,RJob f2 (w2.setCell ⟨g1,n,none⟩ (.pointer (some ⟨nb,0,none⟩))) B k jb sb2 ab1 (j1.fgt (n+1) n)/\FrmO f (λ_=>True) w (w2.setCell ⟨g1,n,none⟩ (.pointer (some ⟨nb,0,none⟩)))/\Same w.heap.size f f2)from λw2 nb vg hb2 hnb hblk hrow hvg=>by
     obtain⟨a1,a2,a3,a4,f2,hR2,hF2,hS2⟩:=hR.swapS n hs1 hs2' (by show j1.width<=9;omega) c4 hb2 hnb (forgS j1.sorters[n]) rfl hblk hrow hvg;rw[Qnl n hs2]at hR2;exact⟨a1,a2,a3,a4,f2,_,hR2,hF.trans hS hF2,hS.trans hS2 hF.size⟩
    have hlt:((j1.sorters[n]).got.take (j1.sorters[n]).kept).length=(j1.sorters[n]).kept:=by rw[List.length_take];omega
    rw[hlt]at HSW
    obtain⟨ne3,ne4⟩:sb1[n]≠jb/\sb1[n]≠g1:=⟨ne1,ne2⟩
    clear hR hF hS hg c4 ne1 ne2 hlt hlS1 hlA1;have Hfc:=hdQ hfc
    have hnews:(evCells ((j1.sorters[n]).got.take (j1.sorters[n]).kept)).length=(j1.sorters[n]).kept*4:=by rw[Qdo,List.length_take];omega
    have hoc:=QiE ((j1.sorters[n]).got.take (j1.sorters[n]).kept);generalize evCells ((j1.sorters[n]).got.take (j1.sorters[n]).kept)=news at Hfc HSW hnews hoc
    have HOC:=show Hid (∀u∈news,u.oneCell'=true)from hoc
    clear hfc hoc;have Hnews:=hdQ hnews;clear hnews
    obtain⟨b1,hb1⟩:∃b1,sb1[n]=b1:=⟨_,rfl⟩
    rw[hb1]at k3 c3 d1 HSW ne3 ne4;clear hb1;have c3':wr.cell? ⟨b1,0,none⟩=some (.slice ga (j1.sorters[n]).got.length gc):=c3;clear c3;generalize(j1.sorters[n]).got.length=N at c3' hkl hgl hcap;generalize(j1.sorters[n]).kept=kp at k3 hkl HSW Hnews Hfc;have hkc:(kp:Int)<=(gc:Int):=omQ;have hk0:(0:Int)<=(kp:Int):=omQ;go_wp2;clear c0 d1;have c3d:wr.drew.cell? ⟨b1,0,none⟩=some (.slice ga N gc):=c3';have k3d:wr.drew.cell? ⟨b1,3,none⟩=some (.int .i64 (kp:Int)):=k3
    have HBd:=show Hid (Below wr.heap.size wr wr.drew)from(Below.refl wr.heap.size wr).drew
    have Hfd:=show Hid (kp=0\/∃ad,ga=some ad/\∀j u,news[j]? =some u->wr.drew.cell? (ad.add j)=some u)from Hfc.out
    clear c3' Hfc;have hBd:B<=wr.drew.heap.size:=hBw;refine wp_region_held_drew (S:=λw':World=>w'.cell? ⟨b1,0,none⟩=some (.slice ga N gc)/\w'.cell? ⟨b1,3,none⟩=some (.int .i64 (kp:Int))) krQ ⟨c3d,k3d⟩ (λhH=>?_);generalize wr.drew=wd at c3d k3d HBd Hfd hBd hH ⊢;refine tkQ 0 (.slice none 0 0) hH ?_;refine tkQ 1 (.pointer (some ⟨b1,0,none⟩)) hH ?_;refine tkQ 2 (.pointer (some ⟨b1,0,none⟩)) hH ?_;refine tkQ 3 (.pointer (some ⟨b1,0,none⟩)) hH ?_;refine tlQ 4 (.slice ga N gc) rfl (by intro v hSw;have s0:=hSw.1;clear hSw;go_simp) hH ?_;refine tkQ 5 (.pointer (some ⟨b1,0,none⟩)) hH ?_;refine tkQ 6 (.pointer (some ⟨b1,0,none⟩)) hH ?_;refine tkQ 7 (.pointer (some ⟨b1,3,none⟩)) hH ?_;refine tlQ 8 (.int .i64 (kp:Int)) rfl (by intro v hSw;have s0:=hSw.2;clear hSw;go_simp) hH ?_;refine tlQ 9 (.slice ga kp gc) rfl (by intro v hSw;clear hSw;cases ga<;>go_simp) hH ?_;refine rdQ [10] ?_
    refine arQ λK hK=>?_
    refine QaM rfl ?_;refine QcZ _ (.tmp 44) (.tmp 53) 33 rfl B hBd 40 i0 (.agg #[.int .u8 0,.string ⟨#[]⟩,.int .u16 0,.int .i16 0]) 4 32 Tryz.underlying33 hi0 hz0 hz1 hz2 rfl (by decide) (by kernel_rfl) ga kp gc (by kernel_rfl) news Hnews.out Hfd.out HOC.out (by unfold maxLen;omega) (by omega) ?_;intro v' w5 hown hnew hb5;obtain⟨va,vc,rfl⟩:=Qaf hown;refine hK.out _ _ ⟨Qae c3d hb5,Qae k3d hb5⟩ (λhH=>?_);clear hK K;refine tkQ 11 (.slice va kp vc) hH ?_;clear hH;refine wpAnyH_done krQ ?_ _
    have HO5:=show Hid (w5.ownsRow B 40 4 (.slice va kp vc) kp news/\(∀g,(Value.slice va kp vc).ownBlock=some g->wr.heap.size<=g)/\Below wr.heap.size wr w5)from⟨hown,λg hg=>Nat.le_trans HBd.out.size (hnew g hg),HBd.out.trans (hb5.mono HBd.out.size)⟩
    clear hown hnew hb5 c3d k3d HBd Hfd hBd HOC;go_wp2;clear Hnews;have c4d:w5.drew.cell? ⟨jb,4,none⟩=some (.slice (some ⟨g1,0,none⟩) j1.width cs'):=Qae c4' HO5.out.2.2.drew;have k3d:w5.drew.cell? ⟨b1,3,none⟩=some (.int .i64 (kp:Int)):=Qae k3 HO5.out.2.2.drew
    have HO6:=show Hid (w5.drew.ownsRow B 40 4 (.slice va kp vc) kp news/\(∀g,(Value.slice va kp vc).ownBlock=some g->wr.heap.size<=g)/\Below wr.heap.size wr w5.drew)from⟨HO5.out.1,HO5.out.2.1,HO5.out.2.2.drew⟩
    clear HO5 c4' k3;refine wp_region_held_drew (S:=λw':World=>w'.cell? ⟨jb,4,none⟩=some (.slice (some ⟨g1,0,none⟩) j1.width cs')/\w'.cell? ⟨b1,3,none⟩=some (.int .i64 (kp:Int))) krQ ⟨c4d,k3d⟩ (λhH=>?_);generalize w5.drew=wd at c4d k3d HO6 hH ⊢;clear w5;refine tkQ 0 (.pointer (some ⟨jb,0,none⟩)) hH ?_;refine tkQ 1 (.pointer (some ⟨jb,0,none⟩)) hH ?_;refine tkQ 2 (.pointer (some ⟨jb,4,none⟩)) hH ?_;refine tlQ 3 (.slice (some ⟨g1,0,none⟩) j1.width cs') rfl (by intro v hSw;have s0:=hSw.1;clear hSw;go_simp) hH ?_;refine tkQ 4 (.int .i64 (n:Int)) hH ?_;refine tkQ 5 (.slice va kp vc) hH ?_;refine tkQ 6 (.pointer (some ⟨b1,0,none⟩)) hH ?_;refine tkQ 7 (.pointer (some ⟨b1,0,none⟩)) hH ?_;refine tkQ 8 (.pointer (some ⟨b1,3,none⟩)) hH ?_;refine tlQ 9 (.int .i64 (kp:Int)) rfl (by intro v hSw;have s0:=hSw.2;clear hSw;go_simp) hH ?_;refine tkQ 10 (.pointer (some ⟨b1,0,none⟩)) hH ?_;refine tkQ 11 (.pointer (some ⟨b1,0,none⟩)) hH ?_;refine tkQ 12 (.pointer (some ⟨b1,3,none⟩)) hH ?_;refine tlQ 13 (.int .i64 (kp:Int)) rfl (by intro v hSw;have s0:=hSw.2;clear hSw;go_simp) hH ?_;refine tkQ 14 (.agg #[.slice va kp vc,.slice none 0 0,.int .i64 (kp:Int),.int .i64 (kp:Int),.bool false]) hH ?_;refine rdQ [15] ?_
    refine arQ λK hK=>?_
    clear hH;go_simp;have hbA:=(Below.refl wd.heap.size wd).alloc (Nat.le_refl _) (.cells #[.slice va kp vc,.slice none 0 0,.int .i64 (kp:Int),.int .i64 (kp:Int),.bool false] 75);obtain⟨a1,a2,a3,a4,HX⟩:=HSW.out (wd.alloc (.cells #[.slice va kp vc,.slice none 0 0,.int .i64 (kp:Int),.int .i64 (kp:Int),.bool false] 75)) wd.heap.size (.slice va kp vc) (HO6.out.2.2.trans (hbA.mono HO6.out.2.2.size)) HO6.out.2.2.size (heap_alloc_new wd _) (HO6.out.1.alloc _) HO6.out.2.1;have c4a:=Qae c4d hbA;have k3a:=Qae k3d hbA;have HXX:=hdQ HX;refine hK.out _ _ ⟨c4a,k3a⟩ (λhH=>?_);clear hK K HX HSW HO6 hbA c4d k3d;generalize wd.heap.size=nb at HXX a3 hH ⊢;generalize wd.alloc (.cells #[.slice va kp vc,.slice none 0 0,.int .i64 (kp:Int),.int .i64 (kp:Int),.bool false] 75)=w6 at HXX a1 a2 c4a k3a hH ⊢;refine tkQ 16 (.pointer (some ⟨g1,n,none⟩)) hH ?_;refine rdQ [17] ?_
    refine arQ λK hK=>?_
    clear hH;go_simp;refine hK.out _ _ ⟨Qaw c4a (.inl a4),Qaw k3a (.inl (Ne.symm ne4))⟩ (λhH=>?_);clear hK K hH c4a k3a a1 a2 a3 a4;refine wpAnyH_done krQ ?_ _;generalize w6.setCell ⟨g1,n,none⟩ (.pointer (some ⟨nb,0,none⟩))=w7 at HXX ⊢;obtain⟨f2,sb2,hR2,hF2,hS2⟩:=HXX.out;clear HXX ne3 ne4
    have ha2':n<(j1.fgt (n+1) n).adders.length:=by show n<(firstN (forgA j1.width) j1.adders n).length;rw[Qax];exact ha2
    obtain⟨_,k4,_,_⟩:=hR2.keepA n ha1 ha2' (by show j1.width<=9;omega);obtain⟨_,vg,vp,vs,vt,hbk,hg,_⟩:=hR2.adders n ha1 ha2';have c3:w7.cell? ⟨ab1[n],0,none⟩=some vg:=Qad hbk 0;rw[Qlr _ n ha2 ha2']at k4 hg;obtain⟨g2,ca,c5,d2⟩:=hR2.adderWay n ha1;have c5':w7.cell? ⟨jb,5,none⟩=some (.slice (some ⟨g2,0,none⟩) j1.width ca):=c5;have c0':w7.cell? ⟨jb,0,none⟩=some (.int .i64 (j1.width:Int)):=(Qav hR2).1
    have ne5:ab1[n]≠g2:=by
     obtain⟨_,_,va0,_,hbx0,_,_,_,_,ha0,oa0,_⟩:=hR2.box;have hc0:w7.cell? ⟨jb,5,none⟩=some va0:=Qad hbx0 5;have hv0:va0=.slice (some ⟨g2,0,none⟩) j1.width ca:=Option.some.inj (hc0.symm.trans c5);exact Qe0 (hR2.adders n ha1 ha2').1 (oa0 g2 (by rw[hv0];rfl)) omQ
    have hkl:=(HP.out.flow.adders n _ (List.getElem?_eq_getElem ha2)).kept_le;have hgl:=(HP.out.got (List.getElem?_eq_getElem ha2)).2;obtain⟨ga,gc,rfl⟩:=Qaf hg;have hcap:=Qdp hg;have hfc:=QeI hg (j1.adders[n]).kept hkl;rw[<-Qgx]at hfc;have hBw:B<=w7.heap.size:=Nat.le_trans HB.out hF2.size
    have HSW:=show Hid (∀(w2:World) (nb:Nat) (vg vp vt:Value),Below w7.heap.size w7 w2->w7.heap.size<=nb->w2.heap[nb]? =some (.cells #[vg,vp,vt,.int .i64 ((j1.adders[n]).kept:Int),.int .i64 ((j1.adders[n]).kept:Int),.bool false] 81 (0,0))->w2.ownsRow B 151 4 vg ((j1.adders[n]).got.take (j1.adders[n]).kept).length (chgCells ((j1.adders[n]).got.take (j1.adders[n]).kept))->(∀g,vg.ownBlock=some g->w7.heap.size<=g)->
      w2.ownsRow B 79 1 vp j1.width (List.replicate j1.width (.slice none 0 0))->(∀g,vp.ownBlock=some g->w7.heap.size<=g)->w2.ownsRow B 4 1 vt j1.width (List.replicate j1.width (.bool false))->(∀g,vt.ownBlock=some g->w7.heap.size<=g)->
      w2.cell? ⟨g2,n,none⟩=some (.pointer (some ⟨ab1[n],0,none⟩))/\w2.frozen? ⟨g2,n,none⟩=false/\g2≠nb/\g2≠jb/\RAfterF f w B k jb (j1.fgt (n+1) (n+1)) (w2.setCell ⟨g2,n,none⟩ (.pointer (some ⟨nb,0,none⟩))))from λw2 nb vg vp vt hb2 hnb hblk hrow hvg hrowp hvp hrowt hvt=>by
     obtain⟨a1,a2,a3,a4,f3,hR3,hF3,hS3⟩:=hR2.swapA n ha1 ha2' (by show j1.width<=9;omega) c5 hb2 hnb (forgA j1.width j1.adders[n]) rfl rfl hblk hrow hvg hrowp hvp hrowt hvt;rw[Qnm n ha2]at hR3;exact⟨a1,a2,a3,a4,f3,_,_,hR3,hF2.trans hS2 hF3,hS2.trans hS3 hF2.size⟩
    have hlt:((j1.adders[n]).got.take (j1.adders[n]).kept).length=(j1.adders[n]).kept:=by rw[List.length_take];omega
    rw[hlt]at HSW;clear hR2 hF2 hS2 hg c5 hlt hbk;have Hfc:=hdQ hfc
    have hnews:(chgCells ((j1.adders[n]).got.take (j1.adders[n]).kept)).length=(j1.adders[n]).kept*4:=by rw[QfB,List.length_take];omega
    have hoc:=QhA ((j1.adders[n]).got.take (j1.adders[n]).kept);generalize chgCells ((j1.adders[n]).got.take (j1.adders[n]).kept)=news2 at Hfc HSW hnews hoc
    have HOC:=show Hid (∀u∈news2,u.oneCell'=true)from hoc
    have Hnews:=hdQ hnews;clear hfc hoc hnews
    obtain⟨b2,hb2⟩:∃b2,ab1[n]=b2:=⟨_,rfl⟩
    rw[hb2]at k4 c3 d2 HSW ne5;clear hb2;generalize(j1.adders[n]).got.length=N2 at c3 hkl hgl hcap;generalize(j1.adders[n]).kept=kp2 at k4 hkl HSW Hnews Hfc;have hkc2:(kp2:Int)<=(gc:Int):=omQ;have hk02:(0:Int)<=(kp2:Int):=omQ;go_wp2;clear d2;have c3d:w7.drew.cell? ⟨b2,0,none⟩=some (.slice ga N2 gc):=c3;have k4d:w7.drew.cell? ⟨b2,4,none⟩=some (.int .i64 (kp2:Int)):=k4
    have HBd:=show Hid (Below w7.heap.size w7 w7.drew)from(Below.refl w7.heap.size w7).drew
    have Hfd:=show Hid (kp2=0\/∃ad,ga=some ad/\∀j u,news2[j]? =some u->w7.drew.cell? (ad.add j)=some u)from Hfc.out
    clear c3 Hfc;have hBd:B<=w7.drew.heap.size:=hBw;refine wp_region_held_drew (S:=λw':World=>w'.cell? ⟨b2,0,none⟩=some (.slice ga N2 gc)/\w'.cell? ⟨b2,4,none⟩=some (.int .i64 (kp2:Int))) krQ ⟨c3d,k4d⟩ (λhH=>?_);generalize w7.drew=wd at c3d k4d HBd Hfd hBd hH ⊢;refine tkQ 0 (.slice none 0 0) hH ?_;refine tkQ 1 (.pointer (some ⟨b2,0,none⟩)) hH ?_;refine tkQ 2 (.pointer (some ⟨b2,0,none⟩)) hH ?_;refine tkQ 3 (.pointer (some ⟨b2,0,none⟩)) hH ?_;refine tlQ 4 (.slice ga N2 gc) rfl (by intro v hSw;have s0:=hSw.1;clear hSw;go_simp) hH ?_;refine tkQ 5 (.pointer (some ⟨b2,0,none⟩)) hH ?_;refine tkQ 6 (.pointer (some ⟨b2,0,none⟩)) hH ?_;refine tkQ 7 (.pointer (some ⟨b2,4,none⟩)) hH ?_;refine tlQ 8 (.int .i64 (kp2:Int)) rfl (by intro v hSw;have s0:=hSw.2;clear hSw;go_simp) hH ?_;refine tlQ 9 (.slice ga kp2 gc) rfl (by intro v hSw;clear hSw;cases ga<;>go_simp) hH ?_;refine rdQ [10] ?_
    refine arQ λK hK=>?_
    refine QaM rfl ?_;refine QcZ wd (.tmp 79) (.tmp 88) 79 rfl B hBd 151 i1 (.agg #[.int .i64 0,.string ⟨#[]⟩,.int .i64 0,.int .i64 0]) 4 40 Tryz.underlying79 hi1 hy0 hy1 hy2 rfl (by decide) (by kernel_rfl) ga kp2 gc (by kernel_rfl) news2 Hnews.out Hfd.out HOC.out (by unfold maxLen;omega) (by omega) ?_;intro v' w5 hown hnew hb5;obtain⟨va,vc,rfl⟩:=Qaf hown;refine hK.out _ _ ⟨Qae c3d hb5,Qae k4d hb5⟩ (λhH=>?_);clear hK K;refine tkQ 11 (.slice va kp2 vc) hH ?_;clear hH;refine wpAnyH_done krQ ?_ _
    have HO5:=show Hid (w5.ownsRow B 151 4 (.slice va kp2 vc) kp2 news2/\(∀g,(Value.slice va kp2 vc).ownBlock=some g->w7.heap.size<=g)/\Below w7.heap.size w7 w5)from⟨hown,λg hg=>Nat.le_trans HBd.out.size (hnew g hg),HBd.out.trans (hb5.mono HBd.out.size)⟩
    clear hown hnew hb5 c3d k4d HBd Hfd hBd HOC;go_wp2;clear Hnews;have c5d:w5.drew.cell? ⟨jb,5,none⟩=some (.slice (some ⟨g2,0,none⟩) j1.width ca):=Qae c5' HO5.out.2.2.drew;have c0d:w5.drew.cell? ⟨jb,0,none⟩=some (.int .i64 (j1.width:Int)):=Qae c0' HO5.out.2.2.drew;have k4d:w5.drew.cell? ⟨b2,4,none⟩=some (.int .i64 (kp2:Int)):=Qae k4 HO5.out.2.2.drew
    have HO6:=show Hid (w5.drew.ownsRow B 151 4 (.slice va kp2 vc) kp2 news2/\(∀g,(Value.slice va kp2 vc).ownBlock=some g->w7.heap.size<=g)/\Below w7.heap.size w7 w5.drew)from⟨HO5.out.1,HO5.out.2.1,HO5.out.2.2.drew⟩
    clear HO5 c5' c0' k4;refine wp_region_held_drew (S:=λw':World=>w'.cell? ⟨jb,5,none⟩=some (.slice (some ⟨g2,0,none⟩) j1.width ca)/\w'.cell? ⟨jb,0,none⟩=some (.int .i64 (j1.width:Int))/\w'.cell? ⟨b2,4,none⟩=some (.int .i64 (kp2:Int))) krQ ⟨c5d,c0d,k4d⟩ (λhH=>?_);generalize w5.drew=wd at c5d c0d k4d HO6 hH ⊢;clear w5;refine tkQ 0 (.pointer (some ⟨jb,0,none⟩)) hH ?_;refine tkQ 1 (.pointer (some ⟨jb,0,none⟩)) hH ?_;refine tkQ 2 (.pointer (some ⟨jb,5,none⟩)) hH ?_;refine tlQ 3 (.slice (some ⟨g2,0,none⟩) j1.width ca) rfl (by intro v hSw;have s0:=hSw.1;clear hSw;go_simp) hH ?_;refine tkQ 4 (.int .i64 (n:Int)) hH ?_;refine tkQ 5 (.slice va kp2 vc) hH ?_;refine tkQ 6 (.pointer (some ⟨jb,0,none⟩)) hH ?_;refine tkQ 7 (.pointer (some ⟨jb,0,none⟩)) hH ?_;refine tkQ 8 (.pointer (some ⟨jb,0,none⟩)) hH ?_;refine tlQ 9 (.int .i64 (j1.width:Int)) rfl (by intro v hSw;have s0:=hSw.2.1;clear hSw;go_simp) hH ?_;refine QdS (by go_simp;exact rfl) ?_;refine tkQ 11 (.pointer (some ⟨jb,0,none⟩)) hH ?_;refine tkQ 12 (.pointer (some ⟨jb,0,none⟩)) hH ?_;refine tkQ 13 (.pointer (some ⟨jb,0,none⟩)) hH ?_;refine tlQ 14 (.int .i64 (j1.width:Int)) rfl (by intro v hSw;have s0:=hSw.2.1;clear hSw;go_simp) hH ?_;refine tkQ 16 (.pointer (some ⟨b2,0,none⟩)) hH ?_;refine tkQ 17 (.pointer (some ⟨b2,0,none⟩)) hH ?_;refine tkQ 18 (.pointer (some ⟨b2,4,none⟩)) hH ?_;refine tlQ 19 (.int .i64 (kp2:Int)) rfl (by intro v hSw;have s0:=hSw.2.2;clear hSw;go_simp) hH ?_;refine tkQ 20 (.pointer (some ⟨b2,0,none⟩)) hH ?_;refine tkQ 21 (.pointer (some ⟨b2,0,none⟩)) hH ?_;refine tkQ 22 (.pointer (some ⟨b2,4,none⟩)) hH ?_;refine tlQ 23 (.int .i64 (kp2:Int)) rfl (by intro v hSw;have s0:=hSw.2.2;clear hSw;go_simp) hH ?_;have hBd:B<=wd.heap.size:=Nat.le_trans hBw HO6.out.2.2.size;refine QdS (by go_simp;exact rfl) ?_;refine rdQ [10,15] ?_;refine AllReadyH.cons rfl (λK hK=>?_) (arQ λK hK=>?_)
    focus
     obtain⟨w8,hmk,hrp,hb8⟩:=Qbp wd j1.width B omQ hBd;clear hH;go_simp;refine hK.out _ _ ⟨Qae c5d hb8,Qae c0d hb8,Qae k4d hb8⟩ (λhH=>?_);clear hK K hmk;obtain⟨w9,hmk,hrt,hb9⟩:=QaY w8 j1.width B omQ (Nat.le_trans hBd hb8.size);refine rdQ [15] ?_
     refine arQ λK hK=>?_
     clear hH;go_simp;refine hK.out _ _ ⟨Qae (Qae c5d hb8) hb9,Qae (Qae c0d hb8) hb9,Qae (Qae k4d hb8) hb9⟩ (λhH=>?_);clear hK K hmk
     have HM:=show Hid (w9.ownsRow B 79 1 (.slice (some ⟨wd.heap.size,0,none⟩) j1.width j1.width) j1.width (List.replicate j1.width (.slice none 0 0))/\w9.ownsRow B 4 1 (.slice (some ⟨w8.heap.size,0,none⟩) j1.width j1.width) j1.width (List.replicate j1.width (.bool false))/\w7.heap.size<=wd.heap.size/\w7.heap.size<=w8.heap.size)from⟨Qao hrp hb9,hrt,HO6.out.2.2.size,Nat.le_trans HO6.out.2.2.size hb8.size⟩
     have HO7:=show Hid (w9.ownsRow B 151 4 (.slice va kp2 vc) kp2 news2/\(∀g,(Value.slice va kp2 vc).ownBlock=some g->w7.heap.size<=g)/\Below w7.heap.size w7 w9)from⟨Qao HO6.out.1 (hb8.trans (hb9.mono hb8.size)),HO6.out.2.1,HO6.out.2.2.trans ((hb8.trans (hb9.mono hb8.size)).mono HO6.out.2.2.size)⟩
     clear hrp hrt hb8 hb9 HO6 hBd;generalize w8.heap.size=gt at HM hH ⊢;generalize wd.heap.size=gp at HM hH ⊢
    rotate_left
    focus
     obtain⟨w8,hmk,hrt,hb8⟩:=QaY wd j1.width B omQ hBd;clear hH;go_simp;refine hK.out _ _ ⟨Qae c5d hb8,Qae c0d hb8,Qae k4d hb8⟩ (λhH=>?_);clear hK K hmk;obtain⟨w9,hmk,hrp,hb9⟩:=Qbp w8 j1.width B omQ (Nat.le_trans hBd hb8.size);refine rdQ [10] ?_
     refine arQ λK hK=>?_
     clear hH;go_simp;refine hK.out _ _ ⟨Qae (Qae c5d hb8) hb9,Qae (Qae c0d hb8) hb9,Qae (Qae k4d hb8) hb9⟩ (λhH=>?_);clear hK K hmk
     have HM:=show Hid (w9.ownsRow B 79 1 (.slice (some ⟨w8.heap.size,0,none⟩) j1.width j1.width) j1.width (List.replicate j1.width (.slice none 0 0))/\w9.ownsRow B 4 1 (.slice (some ⟨wd.heap.size,0,none⟩) j1.width j1.width) j1.width (List.replicate j1.width (.bool false))/\w7.heap.size<=w8.heap.size/\w7.heap.size<=wd.heap.size)from⟨hrp,Qao hrt hb9,Nat.le_trans HO6.out.2.2.size hb8.size,HO6.out.2.2.size⟩
     have HO7:=show Hid (w9.ownsRow B 151 4 (.slice va kp2 vc) kp2 news2/\(∀g,(Value.slice va kp2 vc).ownBlock=some g->w7.heap.size<=g)/\Below w7.heap.size w7 w9)from⟨Qao HO6.out.1 (hb8.trans (hb9.mono hb8.size)),HO6.out.2.1,HO6.out.2.2.trans ((hb8.trans (hb9.mono hb8.size)).mono HO6.out.2.2.size)⟩
     clear hrp hrt hb8 hb9 HO6 hBd;generalize w8.heap.size=gp at HM hH ⊢;generalize wd.heap.size=gt at HM hH ⊢
    all_goals
     have c5e:w9.cell? ⟨jb,5,none⟩=some (.slice (some ⟨g2,0,none⟩) j1.width ca):=hH.1;have c0e:w9.cell? ⟨jb,0,none⟩=some (.int .i64 (j1.width:Int)):=hH.2.1;have k4e:w9.cell? ⟨b2,4,none⟩=some (.int .i64 (kp2:Int)):=hH.2.2;refine tkQ 24 (.agg #[.slice va kp2 vc,.slice (some ⟨gp,0,none⟩) j1.width j1.width,.slice (some ⟨gt,0,none⟩) j1.width j1.width,.int .i64 (kp2:Int),.int .i64 (kp2:Int),.bool false]) hH ?_;refine rdQ [25] ?_
     refine arQ λK hK=>?_
     clear hH;go_simp;have hbA:=(Below.refl w9.heap.size w9).alloc (Nat.le_refl _) (.cells #[.slice va kp2 vc,.slice (some ⟨gp,0,none⟩) j1.width j1.width,.slice (some ⟨gt,0,none⟩) j1.width j1.width,.int .i64 (kp2:Int),.int .i64 (kp2:Int),.bool false] 81);obtain⟨a1,a2,a3,a4,HX⟩:=HSW.out (w9.alloc (.cells #[.slice va kp2 vc,.slice (some ⟨gp,0,none⟩) j1.width j1.width,.slice (some ⟨gt,0,none⟩) j1.width j1.width,.int .i64 (kp2:Int),.int .i64 (kp2:Int),.bool false] 81)) w9.heap.size (.slice va kp2 vc) (.slice (some ⟨gp,0,none⟩) j1.width j1.width) (.slice (some ⟨gt,0,none⟩) j1.width j1.width) (HO7.out.2.2.trans (hbA.mono HO7.out.2.2.size)) HO7.out.2.2.size (heap_alloc_new w9 _) (HO7.out.1.alloc _) HO7.out.2.1 (HM.out.1.alloc _) (λg hg=>by simp only[Value.ownBlock,Option.some.injEq]at hg;rw[<-hg];exact HM.out.2.2.1) (HM.out.2.1.alloc _) (λg hg=>by simp only[Value.ownBlock,Option.some.injEq]at hg;rw[<-hg];exact HM.out.2.2.2);have c5a:=Qae c5e hbA;have c0a:=Qae c0e hbA;have k4a:=Qae k4e hbA;have HXX:=hdQ HX;refine hK.out _ _ ⟨c5a,c0a,k4a⟩ (λhH=>?_);clear hK K HX HSW HO7 HM hbA c5e c0e k4e;generalize w9.heap.size=nb at HXX a3 hH ⊢;generalize w9.alloc (.cells #[.slice va kp2 vc,.slice (some ⟨gp,0,none⟩) j1.width j1.width,.slice (some ⟨gt,0,none⟩) j1.width j1.width,.int .i64 (kp2:Int),.int .i64 (kp2:Int),.bool false] 81)=wA at HXX a1 a2 c5a c0a k4a hH ⊢;refine tkQ 26 (.pointer (some ⟨g2,n,none⟩)) hH ?_;refine rdQ [27] ?_
     refine arQ λK hK=>?_
     clear hH;go_simp;refine hK.out _ _ ⟨Qaw c5a (.inl a4),Qaw c0a (.inl a4),Qaw k4a (.inl (Ne.symm ne5))⟩ (λhH=>?_);clear hK K hH c5a c0a k4a a1 a2 a3 a4;refine wpAnyH_done krQ ?_ _;generalize wA.setCell ⟨g2,n,none⟩ (.pointer (some ⟨nb,0,none⟩))=wB at HXX ⊢;go_wp2
     go_roundw
     case rel=>exact⟨n+1,by omega,by go_num,HXX.out⟩
     case measure=>simp[intOf];omega
   ·have hni:¬(n:Int)<(j1.width:Int):=omQ;have hnn:n=j1.width:=omQ
    have HE:=show Hid (RAfterF f w B k jb j1.forget wr)from by
     have e:j1.fgt n n=j1.forget:=by
      subst hnn;unfold JobM.fgt JobM.forget;rw[Qbf forgS j1.sorters j1.width omQ,Qbf (forgA j1.width) j1.adders j1.width omQ]
      rfl
     rw[<-e];exact⟨f1,sb1,ab1,hR,hF,hS⟩
    clear hR hF hS hnn;go_wp2
    go_end0
    exact⟨rfl,HE.out⟩
end
end
section
open Go.RowKit
section
variable {f:Owners} {w:World} {B k jb:Nat} {sb ab:List Nat} {j:JobM}
theorem RPl.fit(hp:RPl j):RFit j:=
 ⟨hp.width,by have:=hp.room;omega,by have:=hp.events;omega,hp.flow.sent,λe he=>(hp.ev e he).2.2.2,hp.fits.1⟩
theorem Qlt(h:RJob f w B k jb sb ab j)(hB:B<=w.heap.size)(hp:RPl j)(i:Nat)(hi:i<j.width):
  Calls Tryz.prog 46 #[.pointer (some ⟨jb,0,none⟩),.int .i64 (i:Int)] w λen w'=>en=.returned (.int .i64 ((j.sorts i).1:Int))/\RAfter f w B k jb sb ab (j.sorts i).2 w':=by
 have hi':i<j.sorters.length:=by rw[hp.flow.lenS];exact hi
 obtain⟨s1,s2,s3⟩:=QcF hp.flow (List.getElem?_eq_getElem hi');have:=hp.events
 exact Qj2 h hB hp.fit hp.fits.2 i hi hi' s3 omQ (λe he=>(hp.ev e (s1 e he)).1) λe he=>⟨(hp.ev e he).1,(hp.ev e he).2.2.1⟩
theorem Qmx(h:RJob f w B k jb sb ab j)(hB:B<=w.heap.size)(hp:RPl j)(i:Nat)(hi:i<j.width):
  Calls Tryz.prog 47 #[.pointer (some ⟨jb,0,none⟩),.int .i64 (i:Int)] w λen w'=>en=.returned (.int .i64 ((j.adds i).1:Int))/\RAfter f w B k jb sb ab (j.adds i).2 w':=by
 have hi':i<j.adders.length:=by rw[hp.flow.lenA];exact hi
 have:=(hp.got (List.getElem?_eq_getElem hi')).2;exact Qlo h hB hp.width i hi hi' omQ
theorem Qlu(h:RJob f w B k jb sb ab j)(hB:B<=w.heap.size)(hp:RPl j)
  (hcm:(j.under && j.complete)=true->Calls Tryz.prog 56 #[.pointer (some ⟨jb,0,none⟩)] w λen w'=>en=.returned (.tuple #[])/\RAfter f w B k jb sb ab j.commit w') (t:Int):
  Calls Tryz.prog 22 #[.pointer (some ⟨jb,0,none⟩),.int .i64 t] w λen w'=>en=.returned (.int .i64 ((j.step t).1:Int))/\RAfter f w B k jb sb ab (j.step t).2 w':=by
 have c0:=(Qav h).1;have hW:=hp.width
 have HS:=show Hid (RAfter f w B k jb sb ab j w)from⟨f,h,FrmO.refl _ _ _,Same.refl _ _⟩
 unfold JobM.step
 by_cases h1:t<0\/2*(j.width:Int)+1<t
 ·rw[if_pos h1];clear h hcm hp
  rcases h1 with h1 | h1
  ·go_enter Tryz.func22,Tryz.ntmps22;go_wp2;go_ret;exact⟨rfl,HS.out⟩
  ·have h2:¬t<0:=omQ;go_enter Tryz.func22,Tryz.ntmps22;go_wp2;go_ret;exact⟨rfl,HS.out⟩
 ·rw[if_neg h1]
  have a1:¬t<0:=λx=>h1 (.inl x)
  have a2:¬2*(j.width:Int)+1<t:=λx=>h1 (.inr x)
  clear h1
  by_cases h2:t=0
  ·subst h2;rw[if_pos rfl]
   have HC:=show Hid _ from λ(_:Unit)=>Qis h hB hp.fit
   clear h hcm hp HS;go_enter Tryz.func22,Tryz.ntmps22
   go_wp2_with(go_at_call 45;refine(HC.out ()).mono ?_;rintro en w1 ⟨rfl,hA⟩)
   go_ret;exact⟨rfl,hA⟩
  ·rw[if_neg h2]
   have a3:(t==0)=false:=by rw[beq_eq_false_iff_ne];exact h2
   by_cases h3:t<=(j.width:Int)
   ·rw[if_pos h3]
    obtain⟨i,rfl⟩:∃i:Nat,t=(i:Int)+1:=⟨(t-1).toNat,by omega⟩
    rw[show((i:Int)+1-1).toNat=i from by omega]
    have HC:=show Hid _ from λ(_:Unit)=>Qlt h hB hp i omQ
    clear h hcm hp HS;go_enter Tryz.func22,Tryz.ntmps22
    go_wp2_with(go_at_call 46;refine(HC.out ()).mono ?_;rintro en w1 ⟨rfl,hA⟩)
    go_ret;exact⟨rfl,hA⟩
   ·rw[if_neg h3]
    by_cases h4:t<=2*(j.width:Int)
    ·rw[if_pos h4]
     obtain⟨i,hti⟩:∃i:Nat,(i:Int)=t-(j.width:Int)-1:=⟨(t-(j.width:Int)-1).toNat,by omega⟩
     rw[show(t-(j.width:Int)-1).toNat=i from by omega]
     have HC:=show Hid _ from λ(_:Unit)=>Qmx h hB hp i omQ
     rw[hti]at HC;clear h hcm hp HS hti;go_enter Tryz.func22,Tryz.ntmps22
     go_wp2_with(go_at_call 47;refine(HC.out ()).mono ?_;rintro en w1 ⟨rfl,hA⟩)
     go_ret;exact⟨rfl,hA⟩
    ·rw[if_neg h4]
     have HC:=show Hid _ from λ(_:Unit)=>QjR h hW.2 hcm
     clear h hcm hp HS;go_enter Tryz.func22,Tryz.ntmps22
     go_wp2_with(go_at_call 48;refine(HC.out ()).mono ?_;rintro en w1 ⟨rfl,hA⟩)
     go_ret;exact⟨rfl,hA⟩
end
end
end Go.Proofs.YthccpacmklhejabGreatDoor
