import Derived.Test.YthccpacmklhejabGreatDoorTk
import Derived.Test.YthccpacmklhejabGreatDoorK35
import Derived.Test.YthccpacmklhejabGreatDoorK36
set_option maxHeartbeats 4000000
set_option maxRecDepth 100000
namespace Go.Proofs.YthccpacmklhejabGreatDoor
section
open Go.RowKit
def AddB(B jb W b2 gt tc n:Nat)(ss:List Bool)(w:World)(Q:World->Prop):Prop:=
 w.cell? ⟨b2,2,none⟩=some (.slice (some ⟨gt,0,none⟩) W tc)/\w.cell? ⟨gt,n,none⟩=some (.bool false)/\w.frozen? ⟨gt,n,none⟩=false/\
 (ss.length=W/\(w.setCell ⟨gt,n,none⟩ (.bool true)).cell? ⟨jb,0,none⟩=some (.int .i64 (W:Int))/\∀m (hm:m<ss.length),(w.setCell ⟨gt,n,none⟩ (.bool true)).cell? ⟨gt,m,none⟩=some (.bool ss[m]))/\
 (∃va ng vc vp,∃mk kp:Int,∃ps:Bool,(w.setCell ⟨gt,n,none⟩ (.bool true)).heap[b2]? =some (.cells #[.slice va ng vc,vp,.slice (some ⟨gt,0,none⟩) W tc,.int .i64 mk,.int .i64 kp,.bool ps] 81 (0,0)))/\
 (ss.all id=false->Q (w.setCell ⟨gt,n,none⟩ (.bool true)))/\
 (ss.all id=true->∀va ng vc,(w.setCell ⟨gt,n,none⟩ (.bool true)).cell? ⟨b2,0,none⟩=some (.slice va ng vc)->B<=(w.setCell ⟨gt,n,none⟩ (.bool true)).heap.size/\∀w4,Below (w.setCell ⟨gt,n,none⟩ (.bool true)).heap.size (w.setCell ⟨gt,n,none⟩ (.bool true)) w4->w4.ownsRow B 4 1 (.slice (some ⟨(w.setCell ⟨gt,n,none⟩ (.bool true)).heap.size,0,none⟩) W W) W (List.replicate W (.bool false))->Q (((w4.setCell ⟨b2,2,none⟩ (.slice (some ⟨(w.setCell ⟨gt,n,none⟩ (.bool true)).heap.size,0,none⟩) W W)).setCell ⟨b2,3,none⟩ (.int .i64 (ng:Int))).setCell ⟨b2,5,none⟩ (.bool true)))
theorem Qna{w:World}{jb W i g2 ca b2 gp pc gt tc:Nat}(h:AddC w jb W i g2 ca b2 gp pc gt tc)(n0:Nat)(hn0:n0<W)
  (hskip:∀m,m<n0->∃qa ln qc,∃st:Bool,w.cell? ⟨gp,m,none⟩=some (.slice qa ln qc)/\w.cell? ⟨gt,m,none⟩=some (.bool st)/\(st=true\/(st=false/\ln=0)))
  (gq off ln qc:Nat) (f1:w.cell? ⟨gp,n0,none⟩=some (.slice (some ⟨gq,off,none⟩) (ln+1) qc)) (f2:w.cell? ⟨gt,n0,none⟩=some (.bool false))
  (pt:Int) (tx:ByteArray) (cl cd:Int) (u0:w.cell? ⟨gq,off,none⟩=some (.int .i64 pt)) (u1:w.cell? ⟨gq,off+1,none⟩=some (.string tx)) (u2:w.cell? ⟨gq,off+2,none⟩=some (.int .i64 cl)) (u3:w.cell? ⟨gq,off+3,none⟩=some (.int .i64 cd)) (hpt:pt<0) (hcap:ln+1<=qc) (hz:∀w',Below w.heap.size w w'->w'.frozen? ⟨gp,n0,none⟩=false)
  (B:Nat) (ss:List Bool) (Q:World->Prop) (HG:∀wd v1,Below w.heap.size w wd->IsTail gq off ln qc v1->AddB B jb W b2 gt tc n0 ss (wd.setCell ⟨gp,n0,none⟩ v1) Q):
  Calls Tryz.prog 47 #[.pointer (some ⟨jb,0,none⟩),.int .i64 (i:Int)] w λen w'=>en=.returned (.int .i64 0)/\Q w':=by
 obtain⟨c0,c5,d1,e1,e2,hi,hW,hbg⟩:=h;have h1:(i:Int)<(W:Int):=omQ;have h2:(0:Int)<=(i:Int):=omQ;have Hk:=hdQ hskip;clear hskip;have hge:¬(0:Int)<=pt:=omQ;go_enter Tryz.func47,Tryz.ntmps47;go_wp2
 go_loopw [6] (λiv wr=>∃n:Nat,n<=n0/\iv=.int .i64 (n:Int)/\wr=w) (λiv _=>W-(intOf iv).toNat)
 case atStart=>exact⟨0,Nat.zero_le _,rfl,rfl⟩
 case round=>
  obtain⟨n,hn,rfl,rfl⟩:=hrel;have hni:(n:Int)<(W:Int):=omQ;have hn1:(0:Int)<=(n:Int):=omQ
  by_cases hnl:n<n0
  ·have HL:=show Hid (n+1<=n0)from hnl
   obtain⟨qa,ln',qc',st,e3,e4,hst⟩:=Hk.out n hnl
   rcases hst with rfl | ⟨rfl,rfl⟩
   ·go_wp2
    go_roundw
    case rel=>exact⟨n+1,HL.out,by go_num,trivial⟩
    case measure=>have:=HL.out;simp[intOf];omega
   ·go_wp2
    go_roundw
    case rel=>exact⟨n+1,HL.out,by go_num,trivial⟩
    case measure=>have:=HL.out;simp[intOf];omega
  ·have hnn:n=n0:=omQ;subst hnn;clear Hk
   have hl0:(((ln:Int)+1)==0)=false:=by rw[beq_eq_false_iff_ne];omega
   have hl1:(0:Int)<(ln:Int)+1:=omQ;go_wp2
   have HB:=show Hid (Below wr.heap.size wr (wr.alloc (.cells #[.int .i64 pt,.string tx,.int .i64 cl,.int .i64 cd] 151)).drew)from((Below.refl _ _).alloc (Nat.le_refl _) _).drew
   have q1:=(HB.out.cell (p:=⟨b2,1,none⟩) (Qan e1)).trans e1;have q2:=(HB.out.cell (p:=⟨gp,n,none⟩) (Qan f1)).trans f1;have lgp:=Qan f1;have lb2:=Qan e1;have zf:(wr.alloc (.cells #[.int .i64 pt,.string tx,.int .i64 cl,.int .i64 cd] 151)).drew.frozen? ⟨gp,n,none⟩=false:=hz _ HB.out;have hbx:(wr.alloc (.cells #[.int .i64 pt,.string tx,.int .i64 cl,.int .i64 cd] 151)).drew.heap[wr.heap.size]? =some (.cells #[.int .i64 pt,.string tx,.int .i64 cl,.int .i64 cd] 151 (0,0)):=heap_alloc_new wr _;refine wp_region_held_drew (S:=λw':World=>w'.cell? ⟨b2,1,none⟩=some (.slice (some ⟨gp,0,none⟩) W pc)) krQ q1 (λhH=>?_);generalize(wr.alloc (.cells #[.int .i64 pt,.string tx,.int .i64 cl,.int .i64 cd] 151)).drew=wd at HB q1 q2 zf hbx hH ⊢;clear c0 c5 d1 e1 e2 f1 f2 u0 u1 u2 u3 hz
   by_cases hqc:qc=1
   ·subst hqc;have HV:IsTail gq off ln 1 (.slice (some ⟨gq,off,none⟩) ln 0):=.inr ⟨rfl,rfl⟩;refine tkQ 0 (.pointer (some ⟨b2,0,none⟩)) hH ?_;refine tkQ 1 (.pointer (some ⟨b2,0,none⟩)) hH ?_;refine tkQ 2 (.pointer (some ⟨b2,1,none⟩)) hH ?_;refine tlQ 3 (.slice (some ⟨gp,0,none⟩) W pc) rfl (by intro v hSw;have s0:=hSw;clear hSw;go_simp) hH ?_;refine tkQ 4 (.int .i64 (n:Int)) hH ?_;refine tkQ 5 (.pointer (some ⟨b2,0,none⟩)) hH ?_;refine tkQ 6 (.pointer (some ⟨b2,0,none⟩)) hH ?_;refine tkQ 7 (.pointer (some ⟨b2,1,none⟩)) hH ?_;refine tlQ 8 (.slice (some ⟨gp,0,none⟩) W pc) rfl (by intro v hSw;have s0:=hSw;clear hSw;go_simp) hH ?_;refine tkQ 9 (.int .i64 (n:Int)) hH ?_;refine tkQ 10 (.pointer (some ⟨gp,n,none⟩)) hH ?_;refine rdQ [11] ?_
    refine arQ λK hK=>?_
    clear hH;go_simp;refine hK.out _ _ q1 (λhH=>?_);clear hK K;refine tlQ 12 (.slice (some ⟨gq,off,none⟩) ln 0) rfl (by intro v hSw;clear hSw;go_simp;first | (intro hx;exact absurd hx omQ) | (rw[if_pos omQ];have hl9:ln=0:=omQ;subst hl9;rfl)) hH ?_;refine tkQ 13 (.pointer (some ⟨gp,n,none⟩)) hH ?_;refine rdQ [14] ?_
    refine arQ λK hK=>?_
    clear hH;go_simp;have q3:(wd.setCell ⟨gp,n,none⟩ (.slice (some ⟨gq,off,none⟩) ln 0)).cell? ⟨b2,1,none⟩=some (.slice (some ⟨gp,0,none⟩) W pc):=(World.cell?_of_block (a:=⟨b2,1,none⟩) (Below.heap_setCell wd ⟨gp,n,none⟩ (.slice (some ⟨gq,off,none⟩) ln 0) b2 hbg)).trans q1;refine hK.out _ _ q3 (λhH=>?_);clear hK K hH q3;refine wpAnyH_done krQ ?_ _
    have HX:=show Hid (AddB B jb W b2 gt tc n ss (wd.setCell ⟨gp,n,none⟩ (.slice (some ⟨gq,off,none⟩) ln 0)) Q)from HG wd (.slice (some ⟨gq,off,none⟩) ln 0) HB.out HV
    have hb2:(wd.setCell ⟨gp,n,none⟩ (.slice (some ⟨gq,off,none⟩) ln 0)).heap[wr.heap.size]? =some (.cells #[.int .i64 pt,.string tx,.int .i64 cl,.int .i64 cd] 151 (0,0)):=(Below.heap_setCell wd ⟨gp,n,none⟩ (.slice (some ⟨gq,off,none⟩) ln 0) wr.heap.size (λe=>by have e':wr.heap.size=gp:=e;omega)).trans hbx;clear HB q1 q2 zf hbx;generalize wd.setCell ⟨gp,n,none⟩ (.slice (some ⟨gq,off,none⟩) ln 0)=w2 at hb2 HX ⊢;have p0:w2.cell? ⟨wr.heap.size,0,none⟩=some (.int .i64 pt):=Qaa hb2 0;obtain⟨x2,x3,x4,x5,x6,x7,x8⟩:=HX.out;have hsl:=x5.1;have y0:=x5.2.1
    have HSS:=show Hid _ from x5.2.2
    have HQ:=show Hid (_/\_)from And.intro x7 x8
    have HB6:=hdQ x6;clear x5 x6 x7 x8 HX hb2;go_wp2;clear x2 x3 x4 p0;generalize w2.setCell ⟨gt,n,none⟩ (.bool true)=w3 at y0 HSS HQ HB6 ⊢
    go_loopw [8,9] (λal mv wq=>∃m:Nat,m<=W/\mv=.int .i64 (m:Int)/\al=.bool ((ss.take m).all id)/\wq=w3) (λ_ mv _=>W-(intOf mv).toNat)
    case atStart=>exact⟨0,Nat.zero_le _,rfl,rfl,rfl⟩
    case round=>
    obtain⟨m,hm,rfl,rfl,rfl⟩:=hrel;obtain⟨va,ng,vc,vp,mk,kp,ps,hbk⟩:=HB6.out
    by_cases hml:m<W
    ·have hmi:(m:Int)<(W:Int):=omQ;have hm0:(0:Int)<=(m:Int):=omQ;have y2:wr.cell? ⟨b2,2,none⟩=some (.slice (some ⟨gt,0,none⟩) W tc):=Qad hbk 2;have y3:=HSS.out m omQ
     have hnx:(ss.take (m+1)).all id=((ss.take m).all id && ss[m]'omQ):=by
      rw[List.take_succ_eq_append_getElem omQ,List.all_append];simp
     have HNX:=hdQ hnx;clear hnx;generalize ss[m]'omQ=sm at y3 HNX;generalize(ss.take m).all id=al at HNX;clear hbk HB6 HQ HSS
     cases al with
     | true=>
      go_wp2
      go_roundw
      case rel=>exact⟨m+1,by omega,by go_num,by rw[HNX.out];rfl,trivial⟩
      case measure=>simp[intOf];omega
     | false=>
      go_wp2
      go_roundw
      case rel=>exact⟨m+1,by omega,by go_num,by rw[HNX.out];rfl,trivial⟩
      case measure=>simp[intOf];omega
    ·have hmi:¬(m:Int)<(W:Int):=omQ
     have hal:(ss.take m).all id=ss.all id:=by rw[List.take_of_length_le omQ]
     rw[hal];clear hal HSS
     cases hss:ss.all id with
     | false=>
      have HQ1:=show Hid (Q wr)from HQ.out.1 hss
      clear HQ HB6 hbk hss;go_wp2;go_ret
      exact⟨rfl,HQ1.out⟩
     | true=>
      have t0':wr.cell? ⟨b2,0,none⟩=some (.slice va ng vc):=Qad hbk 0;obtain⟨hBB,hgo⟩:=HQ.out.2 hss va ng vc t0';obtain⟨w4,hmk,hrow,hbw⟩:=QaY wr W B omQ hBB
      have HQ2:=show Hid (Q (((w4.setCell ⟨b2,2,none⟩ (.slice (some ⟨wr.heap.size,0,none⟩) W W)).setCell ⟨b2,3,none⟩ (.int .i64 (ng:Int))).setCell ⟨b2,5,none⟩ (.bool true)))from hgo w4 hbw hrow
      have hbk4:=(hbw.block b2 (Qac hbk)).trans hbk;have t0:w4.cell? ⟨b2,0,none⟩=some (.slice va ng vc):=Qad hbk4 0;have t2:w4.cell? ⟨b2,2,none⟩=some (.slice (some ⟨gt,0,none⟩) W tc):=Qad hbk4 2;have t3:w4.cell? ⟨b2,3,none⟩=some (.int .i64 mk):=Qad hbk4 3;have t5:w4.cell? ⟨b2,5,none⟩=some (.bool ps):=Qad hbk4 5;have s2:w4.frozen? ⟨b2,2,none⟩=false:=Qab hbk4 2;have s3:w4.frozen? ⟨b2,3,none⟩=false:=Qab hbk4 3;have s5:w4.frozen? ⟨b2,5,none⟩=false:=Qab hbk4 5;clear HQ HB6 hbk hbk4 hss hgo hrow hbw t0' hBB;go_wp2;go_ret;exact⟨rfl,HQ2.out⟩
   ·have hq1:(1:Int)<(qc:Int):=omQ;have HV:IsTail gq off ln qc (.slice (some ⟨gq,off+4,none⟩) ln (qc-1)):=.inl rfl;refine tkQ 0 (.pointer (some ⟨b2,0,none⟩)) hH ?_;refine tkQ 1 (.pointer (some ⟨b2,0,none⟩)) hH ?_;refine tkQ 2 (.pointer (some ⟨b2,1,none⟩)) hH ?_;refine tlQ 3 (.slice (some ⟨gp,0,none⟩) W pc) rfl (by intro v hSw;have s0:=hSw;clear hSw;go_simp) hH ?_;refine tkQ 4 (.int .i64 (n:Int)) hH ?_;refine tkQ 5 (.pointer (some ⟨b2,0,none⟩)) hH ?_;refine tkQ 6 (.pointer (some ⟨b2,0,none⟩)) hH ?_;refine tkQ 7 (.pointer (some ⟨b2,1,none⟩)) hH ?_;refine tlQ 8 (.slice (some ⟨gp,0,none⟩) W pc) rfl (by intro v hSw;have s0:=hSw;clear hSw;go_simp) hH ?_;refine tkQ 9 (.int .i64 (n:Int)) hH ?_;refine tkQ 10 (.pointer (some ⟨gp,n,none⟩)) hH ?_;refine rdQ [11] ?_
    refine arQ λK hK=>?_
    clear hH;go_simp;refine hK.out _ _ q1 (λhH=>?_);clear hK K;refine tlQ 12 (.slice (some ⟨gq,off+4,none⟩) ln (qc-1)) rfl (by intro v hSw;clear hSw;go_simp;first | (intro hx;exact absurd hx omQ) | (rw[if_pos omQ];have hl9:ln=0:=omQ;subst hl9;rfl)) hH ?_;refine tkQ 13 (.pointer (some ⟨gp,n,none⟩)) hH ?_;refine rdQ [14] ?_
    refine arQ λK hK=>?_
    clear hH;go_simp;have q3:(wd.setCell ⟨gp,n,none⟩ (.slice (some ⟨gq,off+4,none⟩) ln (qc-1))).cell? ⟨b2,1,none⟩=some (.slice (some ⟨gp,0,none⟩) W pc):=(World.cell?_of_block (a:=⟨b2,1,none⟩) (Below.heap_setCell wd ⟨gp,n,none⟩ (.slice (some ⟨gq,off+4,none⟩) ln (qc-1)) b2 hbg)).trans q1;refine hK.out _ _ q3 (λhH=>?_);clear hK K hH q3;refine wpAnyH_done krQ ?_ _
    have HX:=show Hid (AddB B jb W b2 gt tc n ss (wd.setCell ⟨gp,n,none⟩ (.slice (some ⟨gq,off+4,none⟩) ln (qc-1))) Q)from HG wd (.slice (some ⟨gq,off+4,none⟩) ln (qc-1)) HB.out HV
    have hb2:(wd.setCell ⟨gp,n,none⟩ (.slice (some ⟨gq,off+4,none⟩) ln (qc-1))).heap[wr.heap.size]? =some (.cells #[.int .i64 pt,.string tx,.int .i64 cl,.int .i64 cd] 151 (0,0)):=(Below.heap_setCell wd ⟨gp,n,none⟩ (.slice (some ⟨gq,off+4,none⟩) ln (qc-1)) wr.heap.size (λe=>by have e':wr.heap.size=gp:=e;omega)).trans hbx;clear HB q1 q2 zf hbx;generalize wd.setCell ⟨gp,n,none⟩ (.slice (some ⟨gq,off+4,none⟩) ln (qc-1))=w2 at hb2 HX ⊢;have p0:w2.cell? ⟨wr.heap.size,0,none⟩=some (.int .i64 pt):=Qaa hb2 0;obtain⟨x2,x3,x4,x5,x6,x7,x8⟩:=HX.out;have hsl:=x5.1;have y0:=x5.2.1
    have HSS:=show Hid _ from x5.2.2
    have HQ:=show Hid (_/\_)from And.intro x7 x8
    have HB6:=hdQ x6;clear x5 x6 x7 x8 HX hb2;go_wp2;clear x2 x3 x4 p0;generalize w2.setCell ⟨gt,n,none⟩ (.bool true)=w3 at y0 HSS HQ HB6 ⊢
    go_loopw [8,9] (λal mv wq=>∃m:Nat,m<=W/\mv=.int .i64 (m:Int)/\al=.bool ((ss.take m).all id)/\wq=w3) (λ_ mv _=>W-(intOf mv).toNat)
    case atStart=>exact⟨0,Nat.zero_le _,rfl,rfl,rfl⟩
    case round=>
    obtain⟨m,hm,rfl,rfl,rfl⟩:=hrel;obtain⟨va,ng,vc,vp,mk,kp,ps,hbk⟩:=HB6.out
    by_cases hml:m<W
    ·have hmi:(m:Int)<(W:Int):=omQ;have hm0:(0:Int)<=(m:Int):=omQ;have y2:wr.cell? ⟨b2,2,none⟩=some (.slice (some ⟨gt,0,none⟩) W tc):=Qad hbk 2;have y3:=HSS.out m omQ
     have hnx:(ss.take (m+1)).all id=((ss.take m).all id && ss[m]'omQ):=by
      rw[List.take_succ_eq_append_getElem omQ,List.all_append];simp
     have HNX:=hdQ hnx;clear hnx;generalize ss[m]'omQ=sm at y3 HNX;generalize(ss.take m).all id=al at HNX;clear hbk HB6 HQ HSS
     cases al with
     | true=>
      go_wp2
      go_roundw
      case rel=>exact⟨m+1,by omega,by go_num,by rw[HNX.out];rfl,trivial⟩
      case measure=>simp[intOf];omega
     | false=>
      go_wp2
      go_roundw
      case rel=>exact⟨m+1,by omega,by go_num,by rw[HNX.out];rfl,trivial⟩
      case measure=>simp[intOf];omega
    ·have hmi:¬(m:Int)<(W:Int):=omQ
     have hal:(ss.take m).all id=ss.all id:=by rw[List.take_of_length_le omQ]
     rw[hal];clear hal HSS
     cases hss:ss.all id with
     | false=>
      have HQ1:=show Hid (Q wr)from HQ.out.1 hss
      clear HQ HB6 hbk hss;go_wp2;go_ret
      exact⟨rfl,HQ1.out⟩
     | true=>
      have t0':wr.cell? ⟨b2,0,none⟩=some (.slice va ng vc):=Qad hbk 0;obtain⟨hBB,hgo⟩:=HQ.out.2 hss va ng vc t0';obtain⟨w4,hmk,hrow,hbw⟩:=QaY wr W B omQ hBB
      have HQ2:=show Hid (Q (((w4.setCell ⟨b2,2,none⟩ (.slice (some ⟨wr.heap.size,0,none⟩) W W)).setCell ⟨b2,3,none⟩ (.int .i64 (ng:Int))).setCell ⟨b2,5,none⟩ (.bool true)))from hgo w4 hbw hrow
      have hbk4:=(hbw.block b2 (Qac hbk)).trans hbk;have t0:w4.cell? ⟨b2,0,none⟩=some (.slice va ng vc):=Qad hbk4 0;have t2:w4.cell? ⟨b2,2,none⟩=some (.slice (some ⟨gt,0,none⟩) W tc):=Qad hbk4 2;have t3:w4.cell? ⟨b2,3,none⟩=some (.int .i64 mk):=Qad hbk4 3;have t5:w4.cell? ⟨b2,5,none⟩=some (.bool ps):=Qad hbk4 5;have s2:w4.frozen? ⟨b2,2,none⟩=false:=Qab hbk4 2;have s3:w4.frozen? ⟨b2,3,none⟩=false:=Qab hbk4 3;have s5:w4.frozen? ⟨b2,5,none⟩=false:=Qab hbk4 5;clear HQ HB6 hbk hbk4 hss hgo hrow hbw t0' hBB;go_wp2;go_ret;exact⟨rfl,HQ2.out⟩
def AdderM.barred(a:AdderM)(W n0:Nat)(rest:List ChgM):AdderM:=
 if(a.stopped.set n0 true).all id then{a with pipes:=a.pipes.set n0 rest,stopped:=List.replicate W false,marked:=a.got.length,passed:=true}
 else{a with pipes:=a.pipes.set n0 rest,stopped:=a.stopped.set n0 true}
section
variable {f:Owners} {w:World} {B k jb:Nat} {sb ab:List Nat} {j:JobM}
theorem RJob.flags(h:RJob f w B k jb sb ab j)(i:Nat)(hi:i<ab.length)(hi':i<j.adders.length):∃gt tc,w.cell? ⟨ab[i],2,none⟩=some (.slice (some ⟨gt,0,none⟩) j.width tc)/\ab[i]≠gt/\∀m (hm:m<(j.adders[i]).stopped.length),w.cell? ⟨gt,m,none⟩=some (.bool (j.adders[i]).stopped[m]):=by
 obtain⟨ho,vg,vp,vs,vt,hb,hg,og,hp,op,hq,ht,ot⟩:=h.adders i hi hi';obtain⟨ta,tc,rfl⟩:=Qaf ht;have hpl:=(h.pipes i hi').2
 have hmw:i<j.width:=by rw[<-h.lenA.1];exact hi
 rcases Qai ht with⟨_,h0⟩ | ⟨gt,rfl⟩
 ·omega
 have hc1:w.cell? ⟨ab[i],2,none⟩=some (.slice (some ⟨gt,0,none⟩) (j.adders[i]).stopped.length tc):=Qad hb 2;rw[hpl]at hc1;refine⟨gt,tc,hc1,λe=>?_,λm hm=>?_⟩
 ·obtain⟨cur,hcur⟩:=QbV ht;rw[<-e,hb]at hcur;simp only[Option.some.injEq,Obj.cells.injEq]at hcur;exact absurd hcur.2.1 (by decide)
 ·refine(ht.cellAt m omQ).trans ?_;rw[List.getElem?_map,List.getElem?_eq_getElem hm]
  rfl
theorem Qln(h:RJob f w B k jb sb ab j)(hB:B<=w.heap.size)(hw:1<=j.width/\j.width<=4)(i:Nat)(hi:i<j.width)(ha:i<j.adders.length)(n0:Nat)(h1:n0<(j.adders[i]).pipes.length)(h2:n0<(j.adders[i]).stopped.length)(hst:(j.adders[i]).stopped[n0]=false)(c:ChgM)(rest:List ChgM)(hp:(j.adders[i]).pipes[n0]=c :: rest)(hpt:c.pt<0)
  (hskip:∀m (_:m<n0) (h3:m<(j.adders[i]).pipes.length) (h4:m<(j.adders[i]).stopped.length),(j.adders[i]).stopped[m]=true\/((j.adders[i]).pipes[m]).length=0):
  Calls Tryz.prog 47 #[.pointer (some ⟨jb,0,none⟩),.int .i64 (i:Int)] w λen w'=>en=.returned (.int .i64 0)/\RAfter f w B k jb sb ab {j with adders:=j.adders.set i ((j.adders[i]).barred j.width n0 rest)} w':=by
 have hib:i<ab.length:=by have:=h.lenA;omega
 have hpl:=h.pipes i ha;obtain⟨g2,ca,gp,pc,_,way,_⟩:=h.pipeA i hib ha n0 h1 omQ;obtain⟨gt,tc,e2,hbt,stops⟩:=h.flags i hib ha
 have tails:∀m (hm:m<(j.adders[i]).pipes.length),∃v,w.cell? ⟨gp,m,none⟩=some v/\(∀w',Below w.heap.size w w'->w'.frozen? ⟨gp,m,none⟩=false)/\qRow w B 151 4 v ((j.adders[i]).pipes[m]).length (chgCells ((j.adders[i]).pipes[m])):=λm hm=>by
  obtain⟨gp',pc',v,a1,a2,_,a4,_⟩:=h.tailA i hib ha m hm omQ
  have hg:gp'=gp:=by have:=Option.some.inj (a1.symm.trans way.2.2);simp at this;exact this.1
  subst hg;refine⟨v,a2,λw' hb=>?_,a4⟩;obtain⟨gp2,pc2,v2,b1,_,b3,_⟩:=(h.below hb).tailA i hib ha m hm omQ;have b1':=(hb.cell (p:=⟨ab[i],1,none⟩) (Qan way.2.2)).trans way.2.2
  have hg:gp2=gp':=by have:=Option.some.inj (b1.symm.trans b1');simp at this;exact this.1
  subst hg;exact b3
 obtain⟨v,f1,hz,hq⟩:=tails n0 h1;have f2:=stops n0 h2;rw[hst]at f2;rw[hp]at hq;obtain⟨qa,qc,rfl⟩:=hq.shape;have hql:(c :: rest).length=rest.length+1:=rfl;rw[hql]at f1 hq
 rcases hq.addr with⟨_,h0⟩ | ⟨gq,off,rfl⟩
 ·omega
 obtain⟨ho,vg0,vp,vs,vt,hbk,hg0,og,hpr,op,_⟩:=h.adders i hib ha;have hc1:w.cell? ⟨ab[i],1,none⟩=some vp:=Qad hbk 1;have hvp:vp=.slice (some ⟨gp,0,none⟩) j.width pc:=Option.some.inj (hc1.symm.trans way.2.2)
 have hbg:ab[i]≠gp:=λe=>by
  rw[hvp,hpl.1]at hpr;obtain⟨cur,hcur⟩:=QbV hpr;rw[<-e,hbk]at hcur;simp only[Option.some.injEq,Obj.cells.injEq]at hcur;exact absurd hcur.2.1 (by decide)
 have hC:AddC w jb j.width i g2 ca ab[i] gp pc gt tc:=⟨(Qav h).1,way.1,way.2.1,way.2.2,e2,hi,hw.2,hbg⟩
 refine Qna hC n0 omQ (λm hm=>?_) gq off rest.length qc f1 f2 c.pt c.tx c.live c.delta (hq.cell 0 _ rfl) (hq.cell 1 _ rfl) (hq.cell 2 _ rfl) (hq.cell 3 _ rfl) hpt (by have:=hq.cap;omega) hz B ((j.adders[i]).stopped.set n0 true) _ λwd v1 hbd ht=>?_
 ·obtain⟨v,a1,_,a3⟩:=tails m omQ;obtain⟨qa,qc,rfl⟩:=a3.shape;refine⟨qa,_,qc,_,a1,stops m omQ,?_⟩
  rcases hskip m hm omQ omQ with e | e
  ·exact .inl e
  ·cases hs:(j.adders[i]).stopped[m]'omQ with
   | true=>exact .inl rfl
   | false=>exact .inr ⟨rfl,e⟩
 ·have hRd:=h.below hbd;obtain⟨gp',pc',v,a1,a2,_,_,hto⟩:=hRd.tailA i hib ha n0 h1 omQ;have a1':=(hbd.cell (p:=⟨ab[i],1,none⟩) (Qan way.2.2)).trans way.2.2
  have hgg:gp'=gp:=by have:=Option.some.inj (a1.symm.trans a1');simp at this;exact this.1
  subst hgg;have a2':=(hbd.cell (p:=⟨gp',n0,none⟩) (Qan f1)).trans f1;have hvv:v=.slice (some ⟨gq,off,none⟩) (rest.length+1) qc:=Option.some.inj (a2.symm.trans a2');have hqd:=Qga rfl (hq.old hbd) ht
  obtain⟨f2',hR2,hF2,hS2⟩:=hto v1 rest hqd (λg hg=>by
   rw[hvv]
   rcases ht with rfl | ⟨_,rfl⟩<;>exact hg)
  have hm2:i<(j.adders.set i {j.adders[i]with pipes:=(j.adders[i]).pipes.set n0 rest}).length:=by simpa using ha
  have c2:(wd.setCell ⟨gp',n0,none⟩ v1).cell? ⟨ab[i],2,none⟩=some (.slice (some ⟨gt,0,none⟩) j.width tc):=(World.cell?_of_block (a:=⟨ab[i],2,none⟩) (Below.heap_setCell wd ⟨gp',n0,none⟩ v1 ab[i] hbg)).trans ((hbd.cell (p:=⟨ab[i],2,none⟩) (Qan e2)).trans e2);obtain⟨gt',tc',b1,b2,b3,hsto⟩:=hR2.stopA i hib hm2 n0 (by simpa using h2) (by show j.width<=9;omega)
  have hgt:gt'=gt:=by have:=Option.some.inj (b1.symm.trans c2);simp at this;exact this.1
  subst hgt;obtain⟨f3,hR3,hF3,hS3⟩:=hsto true;simp only[List.getElem_set_self,List.set_set]at b2 hR3;have hFd:FrmO f (λ_=>True) w wd:=.of_below hbd;have hF23:FrmO f (λ_=>True) w ((wd.setCell ⟨gp',n0,none⟩ v1).setCell ⟨gt',n0,none⟩ (.bool true)):=(hFd.trans (Same.refl _ _) hF2).trans (λg hg=>hS2 g (Nat.lt_of_lt_of_le hg hbd.size)) hF3
  have hS23:Same w.heap.size f f3:=λg hg=>(hS3 g (Nat.lt_of_lt_of_le hg (Nat.le_trans hbd.size hF2.size))).trans (hS2 g (Nat.lt_of_lt_of_le hg hbd.size))
  have c3:((wd.setCell ⟨gp',n0,none⟩ v1).setCell ⟨gt',n0,none⟩ (.bool true)).cell? ⟨ab[i],2,none⟩=some (.slice (some ⟨gt',0,none⟩) j.width tc):=(World.cell?_of_block (a:=⟨ab[i],2,none⟩) (Below.heap_setCell (wd.setCell ⟨gp',n0,none⟩ v1) ⟨gt',n0,none⟩ (.bool true) ab[i] hbt)).trans c2
  have hm3:i<(j.adders.set i {j.adders[i]with pipes:=(j.adders[i]).pipes.set n0 rest,stopped:=(j.adders[i]).stopped.set n0 true}).length:=by simpa using ha
  obtain⟨gt2,tc2,d1,_,hfl⟩:=hR3.flags i hib hm3
  have hg2:gt2=gt':=by have:=Option.some.inj (d1.symm.trans c3);simp at this;exact this.1
  subst hg2;obtain⟨_,vg3,vp3,vs3,vt3,hb3,hg3,_,_,_,_,_,_⟩:=hR3.adders i hib hm3;have c4:((wd.setCell ⟨gp',n0,none⟩ v1).setCell ⟨gt2,n0,none⟩ (.bool true)).cell? ⟨ab[i],2,none⟩=some vt3:=Qad hb3 2;have hvt:vt3=.slice (some ⟨gt2,0,none⟩) j.width tc:=Option.some.inj (c4.symm.trans c3);simp only[List.getElem_set_self]at hfl hb3 hg3;obtain⟨va,vc,rfl⟩:=Qaf hg3;have c5:((wd.setCell ⟨gp',n0,none⟩ v1).setCell ⟨gt2,n0,none⟩ (.bool true)).cell? ⟨ab[i],0,none⟩=some (.slice va (j.adders[i]).got.length vc):=Qad hb3 0;refine⟨c2,by rw[b2,hst],b3,⟨by rw[List.length_set];exact hpl.2,(Qav hR3).1,λm hm=>hfl m hm⟩,⟨va,_,vc,vp3,_,_,_,by rw[<-hvt];exact hb3⟩,λhall=>?_,λhall va' ng vc' hcc=>⟨Nat.le_trans hB hF23.size,λw4 hb4 hrow=>?_⟩⟩
  ·unfold AdderM.barred;rw[if_neg (by rw[hall];decide)];exact⟨f3,hR3,hF23,hS23⟩
  ·have hng:ng=(j.adders[i]).got.length:=by have:=Option.some.inj (hcc.symm.trans c5);simp at this;exact this.2.1
   subst hng;unfold AdderM.barred;rw[if_pos hall];obtain⟨f4,hR4,hF4,hS4⟩:=hR3.openA i hib hm3 (by show j.width<=9;omega) w4 _ hb4 hrow (λg hg=>Nat.le_of_eq (Option.some.inj hg));simp only[List.getElem_set_self,List.set_set]at hR4 hF4;exact⟨f4,hR4,hF23.trans hS23 hF4,hS23.trans hS4 hF23.size⟩
end
end
section
open Go.RowKit
section
variable {f:Owners} {w:World} {B k jb:Nat} {sb ab:List Nat} {j:JobM}
theorem Qlo(h:RJob f w B k jb sb ab j)(hB:B<=w.heap.size)(hw:1<=j.width/\j.width<=4)(i:Nat)(hi:i<j.width)(ha:i<j.adders.length)(hgl:(j.adders[i]).got.length<=1000):
  Calls Tryz.prog 47 #[.pointer (some ⟨jb,0,none⟩),.int .i64 (i:Int)] w λen w'=>en=.returned (.int .i64 ((j.adds i).1:Int))/\RAfter f w B k jb sb ab (j.adds i).2 w':=by
 have hpl:=h.pipes i ha
 have hd:j.adds i=match(j.adders[i]).take j.width with
  | none=>(8,j)
  | some a'=>(0,{j with adders:=j.adders.set i a'}):=by
  unfold JobM.adds;rw[List.getElem?_eq_getElem ha];simp only[]
  cases (j.adders[i]).take j.width<;>rfl
 rw[hd]
 rcases(j.adders[i]).openCases j.width hpl.1 hpl.2 with⟨hn,hno⟩ | ⟨c,rest,h1,h2,hst,hp,hskip⟩
 ·rw[hn];exact QjZ h hw i hi ha hno
 ·have ht:(j.adders[i]).take j.width=if 0<=c.pt then some {j.adders[i]with pipes:=(j.adders[i]).pipes.set (j.adders[i]).firstOpen rest,got:=(j.adders[i]).got++[c]}else some ((j.adders[i]).barred j.width (j.adders[i]).firstOpen rest):=by
   unfold AdderM.take;rw[List.getElem?_eq_getElem h1,hp];simp only[AdderM.barred];split
   ·rfl
   ·split<;>rfl
  rw[ht]
  by_cases hc:0<=c.pt
  ·rw[if_pos hc];exact Qli h hB hw i hi ha hgl _ h1 h2 hst c rest hp hc hskip
  ·rw[if_neg hc];exact Qln h hB hw i hi ha _ h1 h2 hst c rest hp omQ hskip
end
end
section
open Go.RowKit
theorem Qlp{w:World}{jb W rm i g1 cs' b1 gq off ln qc ge N ec xn:Nat}{e:Ev}(h:SortC w jb W rm i g1 cs' b1 gq off ln qc ge N ec xn e)(gs:List Ev)(ga:Option Addr)(gc:Nat)(c3:w.cell? ⟨b1,0,none⟩=some (.slice ga gs.length gc))(hgs:IsEvs w ga gs)(hgl:gs.length<=900)(hct:(knOf e.key gs).counts e=true)
  (hk0:0<e.key.size) (hk1:e.key.size<=1000) (p:Nat) (tx:ByteArray) (hgr:grp e.key=(p,tx)) (a g2 ca b2 gp pc:Nat) (va:Option Addr) (vc:Nat) (hpa:p % W=a) (haw:a<W) (c5:w.cell? ⟨jb,5,none⟩=some (.slice (some ⟨g2,0,none⟩) W ca)) (d2:w.cell? ⟨g2,a,none⟩=some (.pointer (some ⟨b2,0,none⟩))) (e5:w.cell? ⟨b2,1,none⟩=some (.slice (some ⟨gp,0,none⟩) W pc)) (f1:w.cell? ⟨gp,i,none⟩=some (.slice va rm vc)):
  Calls Tryz.prog 46 #[.pointer (some ⟨jb,0,none⟩),.int .i64 (i:Int)] w λen w'=>en=.returned (.int .i64 9)/\Below w.heap.size w w':=by
 obtain⟨c0,c1,c2,c4,d1,p1,q0,e0,e1,e2,e3,hi,hW,hx,hN,hcap,hok⟩:=h;obtain⟨i0,hi0,hz0,hz1,hz2⟩:=info_parts Tryz.infoEv;have hkl:(knOf e.key gs).last<65536:=(Qco λe he=>(hgs.1 e he).2.1).1
 have HC:=show Hid (∀w,Calls Tryz.prog 77 #[(knOf e.key gs).value',e.value] w λen w'=>en=.returned (.bool ((knOf e.key gs).counts e))/\Below w.heap.size w w')from λw=>QcA (knOf e.key gs) e w hkl hok.2.1
 have HK:=show Hid (∀w',Below w.heap.size w w'->Calls Tryz.prog 69 #[.slice ga gs.length gc,.string e.key] w' λen w''=>en=.returned (knOf e.key gs).value'/\Below w'.heap.size w' w'')from λw' hb'=>QcB ga gc gs e.key w' omQ (hgs.below hb')
 rw[hct]at HC;have hvb:-32768<=e.val/\e.val<=32767:=hok.2.2;have hopb:e.op<256:=hok.1;clear hgs hct hkl hok;generalize knOf e.key gs=kn at HC HK;obtain⟨had,last,there,value,count⟩:=kn;obtain⟨op,key,seq,val⟩:=e;unfold Kn.value' Ev.value at HC;unfold Kn.value' at HK;simp only at HC HK e0 e1 e2 e3;have h1:(i:Int)<(W:Int):=omQ;have h2:(0:Int)<=(i:Int):=omQ;have h3:(xn:Int)<(N:Int):=omQ;have h4:(0:Int)<=(xn:Int):=omQ
 have hn0:(((ln:Int)+1)==0)=false:=by rw[beq_eq_false_iff_ne];omega
 have hln1:(0:Int)<(ln:Int)+1:=omQ;have hx0:¬(xn:Int)<0:=omQ
 have HS:=show Hid (SortS jb b1 gq off ln qc ge N ec xn op key seq val w)from⟨c2,p1,q0,e0,e1,e2,e3⟩
 generalize gs.length=ng at *
 have HGr:=show Hid _ from λw=>Qc6 key w hk0 hk1
 rw[hgr]at HGr;simp only at HGr
 have hr0:((W:Int)==0)=false:=by rw[beq_eq_false_iff_ne];omega
 have hr1:(p:Int).tmod (W:Int)=(a:Int):=by rw[Int.tmod_eq_emod_of_nonneg omQ];omega
 have ha5:(0:Int)<=(a:Int):=omQ;have ha6:(a:Int)<(W:Int):=omQ
 have HCC:=show Hid (_/\_/\_/\_/\_/\_)from And.intro c0 (And.intro c1 (And.intro c5 (And.intro d2 (And.intro e5 f1))))
 clear c0 c1 c5 d2 e5 f1;go_enter Tryz.func46,Tryz.ntmps46;go_wp2;have HSd:SortS jb b1 gq off ln qc ge N ec xn op key seq val w.drew:=HS.out;refine wp_region_held_drew (S:=SortS jb b1 gq off ln qc ge N ec xn op key seq val) krQ HSd (λhH=>?_);clear c2 c4 d1 p1 q0 e0 e1 e2 e3;refine tkQ 0 (.pointer (some ⟨jb,0,none⟩)) hH ?_;refine tkQ 1 (.pointer (some ⟨jb,0,none⟩)) hH ?_;refine tkQ 2 (.pointer (some ⟨jb,2,none⟩)) hH ?_;refine tlQ 3 (.slice (some ⟨ge,0,none⟩) N ec) rfl (by intro v hSw;have s0:=hSw.1;clear hSw;go_simp) hH ?_;refine tkQ 4 (.pointer (some ⟨b1,0,none⟩)) hH ?_;refine tkQ 5 (.pointer (some ⟨b1,0,none⟩)) hH ?_;refine tkQ 6 (.pointer (some ⟨b1,1,none⟩)) hH ?_;refine tlQ 7 (.slice (some ⟨gq,off,none⟩) (ln+1) qc) rfl (by intro v hSw;have s0:=hSw.2.1;clear hSw;go_simp) hH ?_;refine tkQ 8 (.pointer (some ⟨gq,off,none⟩)) hH ?_;refine tlQ 9 (.int .i64 (xn:Int)) rfl (by intro v hSw;have s0:=hSw.2.2.1;clear hSw;go_simp) hH ?_;refine tkQ 10 (.pointer (some ⟨ge,xn*4,none⟩)) hH ?_;refine tlQ 11 (.agg #[.int .u8 (op:Int),.string key,.int .u16 (seq:Int),.int .i16 val]) rfl (by intro v hSw;have s0:=hSw.2.2.2.1;have s1:=hSw.2.2.2.2.1;have s2:=hSw.2.2.2.2.2.1;have s3:=hSw.2.2.2.2.2.2;clear hSw;go_simp) hH ?_;refine rdQ [12] ?_
 refine arQ λK hK=>?_
 clear hH;go_simp;refine hK.out _ _ (HS.out.below ((Below.refl _ _).alloc (Nat.le_refl _) _).drew) (λhH=>?_);clear hK K;refine rdQ [13] ?_
 refine arQ λK hK=>?_
 clear hH;go_simp;have hbe:(w.alloc (.cells #[.int .u8 (op:Int),.string key,.int .u16 (seq:Int),.int .i16 val] 40)).drew.heap[w.heap.size]? =some (.cells #[.int .u8 (op:Int),.string key,.int .u16 (seq:Int),.int .i16 val] 40 (0,0)):=heap_alloc_new w _
 have HB:=show Hid (Below w.heap.size w (w.alloc (.cells #[.int .u8 (op:Int),.string key,.int .u16 (seq:Int),.int .i16 val] 40)).drew)from((Below.refl _ _).alloc (Nat.le_refl _) _).drew
 refine hK.out _ _ (HS.out.below HB.out) (λhH=>?_);clear hK K hH;refine wpAnyH_done krQ ?_ _;have c3e:=Qae c3 HB.out;clear HSd HS;generalize(w.alloc (.cells #[.int .u8 (op:Int),.string key,.int .u16 (seq:Int),.int .i16 val] 40)).drew=we at hbe HB c3e ⊢;go_wp2;have HBd:Below w.heap.size w we.drew:=HB.out.drew;have hbd:we.drew.heap[w.heap.size]? =some (.cells #[.int .u8 (op:Int),.string key,.int .u16 (seq:Int),.int .i16 val] 40 (0,0)):=hbe;have c3d:we.drew.cell? ⟨b1,0,none⟩=some (.slice ga ng gc):=c3e;clear c3e hbe HB;refine wp_region_held_drew (S:=λw':World=>w'.cell? ⟨b1,0,none⟩=some (.slice ga ng gc)/\w'.heap[w.heap.size]? =some (.cells #[.int .u8 (op:Int),.string key,.int .u16 (seq:Int),.int .i16 val] 40 (0,0))) krQ ⟨c3d,hbd⟩ (λhH=>?_);generalize we.drew=wd at HBd hbd c3d hH ⊢;refine tkQ 0 (.pointer (some ⟨b1,0,none⟩)) hH ?_;refine tkQ 1 (.pointer (some ⟨b1,0,none⟩)) hH ?_;refine tkQ 2 (.pointer (some ⟨b1,0,none⟩)) hH ?_;refine tlQ 3 (.slice ga ng gc) rfl (by intro v hSw;have s0:=hSw.1;clear hSw;go_simp) hH ?_;refine tkQ 4 (.pointer (some ⟨w.heap.size,1,none⟩)) hH ?_;refine tlQ 5 (.string key) rfl (by intro v hSw;have s0:v.cell? ⟨w.heap.size,1,none⟩=some (.string key):=Qaa hSw.2 1;clear hSw;go_simp) hH ?_;have hlt:=Qac hbd;refine rdQ [6,7] ?_;refine AllReadyH.cons rfl (λK hK=>?_) (arQ λK hK=>?_)
 focus
  clear hH;go_simp
  go_wp2_with(go_at_call 69;refine(HK.out _ HBd).mono ?_;rintro en w1 ⟨rfl,hb1⟩)
  have hbd1:=(hb1.block _ hlt).trans hbd;have c31:=Qae c3d hb1;have HB1:Below w.heap.size w w1:=HBd.trans (hb1.mono HBd.size);have hlt1:=Qac hbd1;refine hK.out _ _ ⟨c31,hbd1⟩ (λhH=>?_);clear hK K;refine rdQ [7] ?_
  refine arQ λK hK=>?_
  clear hH;go_simp;refine hK.out _ _ ⟨Qae c31 ((Below.refl _ _).alloc (Nat.le_refl _) _),(Below.heap_alloc _ _ _ hlt1).trans hbd1⟩ (λhH=>?_);clear hK K;refine rdQ [8] ?_
  refine arQ λK hK=>?_
  clear hH;go_simp;have hkk:=heap_alloc_new w1 (.cells #[.bool had,.int .i64 (last:Int),.bool there,.int .i64 value,.int .i64 (count:Int)] 144);have hbk:=(Below.heap_alloc w1 (.cells #[.bool had,.int .i64 (last:Int),.bool there,.int .i64 value,.int .i64 (count:Int)] 144) _ hlt1).trans hbd1;have c3k:=Qae c31 ((Below.refl w1.heap.size w1).alloc (Nat.le_refl _) (.cells #[.bool had,.int .i64 (last:Int),.bool there,.int .i64 value,.int .i64 (count:Int)] 144));have HBk:Below w.heap.size w (w1.alloc (.cells #[.bool had,.int .i64 (last:Int),.bool there,.int .i64 value,.int .i64 (count:Int)] 144)):=HB1.alloc HB1.size _;refine hK.out _ _ ⟨c3k,hbk⟩ (λhH=>?_);clear hK K hH;have hne:w1.heap.size≠w.heap.size:=Nat.ne_of_gt hlt1;clear hlt1 hlt c3d hbd HBd c31 hbd1 HB1 hb1;generalize w1.alloc (.cells #[.bool had,.int .i64 (last:Int),.bool there,.int .i64 value,.int .i64 (count:Int)] 144)=wk at hkk hbk c3k HBk ⊢;generalize w1.heap.size=kb at hkk hne ⊢;clear w1
 rotate_left
 focus
  clear hH;go_simp;have hkk:=heap_alloc_new wd (.cells #[.bool false,.int .i64 0,.bool false,.int .i64 0,.int .i64 0] 144);have hbk:=(Below.heap_alloc wd (.cells #[.bool false,.int .i64 0,.bool false,.int .i64 0,.int .i64 0] 144) _ hlt).trans hbd;have c3k:=Qae c3d ((Below.refl wd.heap.size wd).alloc (Nat.le_refl _) (.cells #[.bool false,.int .i64 0,.bool false,.int .i64 0,.int .i64 0] 144));have HBk:Below w.heap.size w (wd.alloc (.cells #[.bool false,.int .i64 0,.bool false,.int .i64 0,.int .i64 0] 144)):=HBd.alloc HBd.size _;refine hK.out _ _ ⟨c3k,hbk⟩ (λhH=>?_);clear hK K;have hne:wd.heap.size≠w.heap.size:=Nat.ne_of_gt hlt;have hle:w.heap.size<=wd.heap.size:=HBd.size;clear hlt c3d hbd HBd;generalize wd.alloc (.cells #[.bool false,.int .i64 0,.bool false,.int .i64 0,.int .i64 0] 144)=wa at hkk hbk c3k HBk hH ⊢;have hb1k:b1≠wd.heap.size:=Nat.ne_of_lt (Nat.lt_of_lt_of_le (Qan c3) hle);generalize wd.heap.size=kb at hkk hne hle hb1k hH ⊢;clear wd;refine rdQ [6] ?_
  refine arQ λK hK=>?_
  clear hH;go_simp
  go_wp2_with(go_at_call 69;refine(HK.out _ HBk).mono ?_;rintro en w1 ⟨rfl,hb1⟩)
  have hkk1:=(hb1.block _ (Qac hkk)).trans hkk;have hbk1:=(hb1.block _ (Qac hbk)).trans hbk;have c3k1:=Qae c3k hb1;have HBk1:Below w.heap.size w w1:=HBk.trans (hb1.mono HBk.size);refine hK.out _ _ ⟨c3k1,hbk1⟩ (λhH=>?_);clear hK K hkk hbk c3k HBk hb1;clear wa;refine rdQ [8] ?_
  refine arQ λK hK=>?_
  clear hH;have y0:w1.cell? ⟨kb,0,none⟩=some (.bool false):=Qaa hkk1 0;have y1:w1.cell? ⟨kb,1,none⟩=some (.int .i64 0):=Qaa hkk1 1;have y2:w1.cell? ⟨kb,2,none⟩=some (.bool false):=Qaa hkk1 2;have y3:w1.cell? ⟨kb,3,none⟩=some (.int .i64 0):=Qaa hkk1 3;have y4:w1.cell? ⟨kb,4,none⟩=some (.int .i64 0):=Qaa hkk1 4;have z0:w1.frozen? ⟨kb,0,none⟩=false:=Qab hkk1 0;have z1:w1.frozen? ⟨kb,1,none⟩=false:=Qab hkk1 1;have z2:w1.frozen? ⟨kb,2,none⟩=false:=Qab hkk1 2;have z3:w1.frozen? ⟨kb,3,none⟩=false:=Qab hkk1 3;have z4:w1.frozen? ⟨kb,4,none⟩=false:=Qab hkk1 4;go_simp;obtain⟨hkk,HBk,hoth⟩:=fill5 hkk1 HBk1 hle (.bool had) (.int .i64 (last:Int)) (.bool there) (.int .i64 value) (.int .i64 (count:Int));have hbk:=(hoth _ (Ne.symm hne)).trans hbk1;have c3k:=(World.cell?_of_block (a:=⟨b1,0,none⟩) (hoth b1 hb1k)).trans c3k1;clear hoth y0 y1 y2 y3 y4 z0 z1 z2 z3 z4 hkk1 hbk1 c3k1 HBk1 hle;generalize(((((w1.setCell ⟨kb,0,none⟩ (.bool had)).setCell ⟨kb,1,none⟩ (.int .i64 (last:Int))).setCell ⟨kb,2,none⟩ (.bool there)).setCell ⟨kb,3,none⟩ (.int .i64 value)).setCell ⟨kb,4,none⟩ (.int .i64 (count:Int)))=wk at hkk hbk c3k HBk ⊢;refine hK.out _ _ ⟨c3k,hbk⟩ (λhH=>?_);clear hK K hH;clear w1
 all_goals
  refine wpAnyH_done krQ ?_ _;have y0:wk.cell? ⟨kb,0,none⟩=some (.bool had):=Qaa hkk 0;have y1:wk.cell? ⟨kb,1,none⟩=some (.int .i64 (last:Int)):=Qaa hkk 1;have y2:wk.cell? ⟨kb,2,none⟩=some (.bool there):=Qaa hkk 2;have y3:wk.cell? ⟨kb,3,none⟩=some (.int .i64 value):=Qaa hkk 3;have y4:wk.cell? ⟨kb,4,none⟩=some (.int .i64 (count:Int)):=Qaa hkk 4;have v0:wk.cell? ⟨w.heap.size,0,none⟩=some (.int .u8 (op:Int)):=Qaa hbk 0;have v1:wk.cell? ⟨w.heap.size,1,none⟩=some (.string key):=Qaa hbk 1;have v2:wk.cell? ⟨w.heap.size,2,none⟩=some (.int .u16 (seq:Int)):=Qaa hbk 2;have v3:wk.cell? ⟨w.heap.size,3,none⟩=some (.int .i16 val):=Qaa hbk 3
  go_wp2_with(first | (go_at_call 77;refine(HC.out _).mono ?_;rintro en w4 ⟨rfl,hb4⟩;have v14:w4.cell? ⟨w.heap.size,1,none⟩=some (.string key):=Qae v1 hb4) | (go_at_call 68;refine(HGr.out _).mono ?_;rintro en w5 ⟨rfl,q5,rfl⟩))
  have hbe4:(w4.drewN q5).heap[w.heap.size]? =some (.cells #[.int .u8 (op:Int),.string key,.int .u16 (seq:Int),.int .i16 val] 40 (0,0)):=(hb4.block _ (Qac hbk)).trans hbk;have hkk4:(w4.drewN q5).heap[kb]? =some (.cells #[.bool had,.int .i64 (last:Int),.bool there,.int .i64 value,.int .i64 (count:Int)] 144 (0,0)):=(hb4.block _ (Qac hkk)).trans hkk;have HB4:Below w.heap.size w (w4.drewN q5):=below_drewN (HBk.trans (hb4.mono HBk.size)) q5;clear y0 y1 y2 y3 y4 v0 v1 v2 v3 v14 hkk hbk c3k HBk hb4;generalize w4.drewN q5=w5 at hbe4 hkk4 HB4 ⊢;clear w4 q5 wk;have c0:=Qae HCC.out.1 HB4;have c1:=Qae HCC.out.2.1 HB4;have c5:=Qae HCC.out.2.2.1 HB4;have d2:=Qae HCC.out.2.2.2.1 HB4;have e5:=Qae HCC.out.2.2.2.2.1 HB4;have f1:=Qae HCC.out.2.2.2.2.2 HB4
  go_quiet (fail)
  go_wp2
  go_quiet (fail)
  go_wp2;go_ret;exact⟨rfl,below_drewN (below_drewN HB4 _) _⟩
end
end Go.Proofs.YthccpacmklhejabGreatDoor
