import Derived.Test.YthccpacmklhejaaGreatDoorTk
import Derived.Test.YthccpacmklhejaaGreatDoorK34
set_option maxHeartbeats 4000000
set_option maxRecDepth 100000
namespace Go.Proofs.YthccpacmklhejaaGreatDoor
section
open Go.RowKit
structure AddC (w:World) (jb W i g2 ca b2 gp pc gt tc:Nat):Prop where
 c0:w.cell? ⟨jb,0,none⟩=some (.int .i64 (W:Int))
 c5:w.cell? ⟨jb,5,none⟩=some (.slice (some ⟨g2,0,none⟩) W ca)
 d1:w.cell? ⟨g2,i,none⟩=some (.pointer (some ⟨b2,0,none⟩))
 e1:w.cell? ⟨b2,1,none⟩=some (.slice (some ⟨gp,0,none⟩) W pc)
 e2:w.cell? ⟨b2,2,none⟩=some (.slice (some ⟨gt,0,none⟩) W tc)
 hi:i<W
 hW:W<=4
 hbg:b2≠gp
def AddG(B b2 bx:Nat)(w:World)(vg:Value)(ng:Nat)(xs cs:List Value)(Q:World->Prop):Prop:=
 w.cell? ⟨b2,0,none⟩=some vg/\w.ownsRow B 149 4 vg ng xs/\ng<=1000/\B<=w.heap.size/\(∀g,vg.ownBlock=some g->g=bx->False)/\
  ∀wa w5 v',Below w.heap.size w wa->w5.ownsRow B 149 4 v' (ng+1) (xs++cs)->AppQ wa w5 vg v'->w5.cell? ⟨b2,0,none⟩=some vg/\w5.frozen? ⟨b2,0,none⟩=false/\Q (w5.setCell ⟨b2,0,none⟩ v')
def IsTail(gq off ln qc:Nat)(v:Value):Prop:=v=.slice (some ⟨gq,off+4,none⟩) ln (qc-1)\/(qc=1/\v=.slice (some ⟨gq,off,none⟩) ln 0)
theorem Qna{w:World}{jb W i g2 ca b2 gp pc gt tc:Nat}(h:AddC w jb W i g2 ca b2 gp pc gt tc)(n0:Nat)(hn0:n0<W)
  (hskip:∀m,m<n0->∃qa ln qc,∃st:Bool,w.cell? ⟨gp,m,none⟩=some (.slice qa ln qc)/\w.cell? ⟨gt,m,none⟩=some (.bool st)/\(st=true\/(st=false/\ln=0)))
  (gq off ln qc:Nat) (f1:w.cell? ⟨gp,n0,none⟩=some (.slice (some ⟨gq,off,none⟩) (ln+1) qc)) (f2:w.cell? ⟨gt,n0,none⟩=some (.bool false))
  (pt:Int) (tx:ByteArray) (cl cd:Int) (u0:w.cell? ⟨gq,off,none⟩=some (.int .i64 pt)) (u1:w.cell? ⟨gq,off+1,none⟩=some (.string tx)) (u2:w.cell? ⟨gq,off+2,none⟩=some (.int .i64 cl)) (u3:w.cell? ⟨gq,off+3,none⟩=some (.int .i64 cd)) (hpt:0<=pt) (hcap:ln+1<=qc) (hz:∀w',Below w.heap.size w w'->w'.frozen? ⟨gp,n0,none⟩=false)
  (B:Nat) (Q:World->Prop) (HG:∀wd v1,Below w.heap.size w wd->IsTail gq off ln qc v1->∃vg ng xs,AddG B b2 w.heap.size (wd.setCell ⟨gp,n0,none⟩ v1) vg ng xs [.int .i64 pt,.string tx,.int .i64 cl,.int .i64 cd] Q):
  Calls Tryz.prog 46 #[.pointer (some ⟨jb,0,none⟩),.int .i64 (i:Int)] w λen w'=>en=.returned (.int .i64 0)/\Q w':=by
 obtain⟨c0,c5,d1,e1,e2,hi,hW,hbg⟩:=h;obtain⟨i0,hi0,hz0,hz1,hz2⟩:=info_parts Tryz.infoChange;have h1:(i:Int)<(W:Int):=omQ;have h2:(0:Int)<=(i:Int):=omQ;have Hk:=hdQ hskip;clear hskip;have hge:(0:Int)<=pt:=hpt;go_enter Tryz.func46,Tryz.ntmps46;go_wp2
 go_loopw [6] (λiv wr=>∃n:Nat,n<=n0/\iv=.int .i64 (n:Int)/\wr=w) (λiv _=>W-(intOf iv).toNat)
 case atStart=>exact⟨0,Nat.zero_le _,rfl,rfl⟩
 case round=>
  obtain⟨n,hn,rfl,rfl⟩:=hrel;have hni:(n:Int)<(W:Int):=omQ;have hn1:(0:Int)<=(n:Int):=omQ
  by_cases hnl:n<n0
  ·have HL:=show Hid (n+1<=n0)from hnl
   obtain⟨qa,ln',qc',st,e3,e4,hst⟩:=Hk.out n hnl
   rcases hst with rfl | ⟨rfl,rfl⟩
   ·go_wp2
    go_roundw
    case rel=>exact⟨n+1,HL.out,by go_num,trivial⟩
    case measure=>have:=HL.out;simp[intOf];omega
   ·go_wp2
    go_roundw
    case rel=>exact⟨n+1,HL.out,by go_num,trivial⟩
    case measure=>have:=HL.out;simp[intOf];omega
  ·have hnn:n=n0:=omQ;subst hnn;clear Hk
   have hl0:(((ln:Int)+1)==0)=false:=by rw[beq_eq_false_iff_ne];omega
   have hl1:(0:Int)<(ln:Int)+1:=omQ;go_wp2
   have HB:=show Hid (Below wr.heap.size wr (wr.alloc (.cells #[.int .i64 pt,.string tx,.int .i64 cl,.int .i64 cd] 149)).drew)from((Below.refl _ _).alloc (Nat.le_refl _) _).drew
   have q1:=(HB.out.cell (p:=⟨b2,1,none⟩) (Qan e1)).trans e1;have q2:=(HB.out.cell (p:=⟨gp,n,none⟩) (Qan f1)).trans f1;have lgp:=Qan f1;have lb2:=Qan e1;have zf:(wr.alloc (.cells #[.int .i64 pt,.string tx,.int .i64 cl,.int .i64 cd] 149)).drew.frozen? ⟨gp,n,none⟩=false:=hz _ HB.out;have hbx:(wr.alloc (.cells #[.int .i64 pt,.string tx,.int .i64 cl,.int .i64 cd] 149)).drew.heap[wr.heap.size]? =some (.cells #[.int .i64 pt,.string tx,.int .i64 cl,.int .i64 cd] 149 (0,0)):=heap_alloc_new wr _;refine wp_region_held_drew (S:=λw':World=>w'.cell? ⟨b2,1,none⟩=some (.slice (some ⟨gp,0,none⟩) W pc)) krQ q1 (λhH=>?_);generalize(wr.alloc (.cells #[.int .i64 pt,.string tx,.int .i64 cl,.int .i64 cd] 149)).drew=wd at HB q1 q2 zf hbx hH ⊢;clear c0 c5 d1 e1 e2 f1 f2 u0 u1 u2 u3 hz
   by_cases hqc:qc=1
   ·subst hqc;have HV:IsTail gq off ln 1 (.slice (some ⟨gq,off,none⟩) ln 0):=.inr ⟨rfl,rfl⟩;refine tkQ 0 (.pointer (some ⟨b2,0,none⟩)) hH ?_;refine tkQ 1 (.pointer (some ⟨b2,0,none⟩)) hH ?_;refine tkQ 2 (.pointer (some ⟨b2,1,none⟩)) hH ?_;refine tlQ 3 (.slice (some ⟨gp,0,none⟩) W pc) rfl (by intro v hSw;have s0:=hSw;clear hSw;go_simp) hH ?_;refine tkQ 4 (.int .i64 (n:Int)) hH ?_;refine tkQ 5 (.pointer (some ⟨b2,0,none⟩)) hH ?_;refine tkQ 6 (.pointer (some ⟨b2,0,none⟩)) hH ?_;refine tkQ 7 (.pointer (some ⟨b2,1,none⟩)) hH ?_;refine tlQ 8 (.slice (some ⟨gp,0,none⟩) W pc) rfl (by intro v hSw;have s0:=hSw;clear hSw;go_simp) hH ?_;refine tkQ 9 (.int .i64 (n:Int)) hH ?_;refine tkQ 10 (.pointer (some ⟨gp,n,none⟩)) hH ?_;refine rdQ [11] ?_
    refine arQ λK hK=>?_
    clear hH;go_simp;refine hK.out _ _ q1 (λhH=>?_);clear hK K;refine tlQ 12 (.slice (some ⟨gq,off,none⟩) ln 0) rfl (by intro v hSw;clear hSw;go_simp;first | (intro hx;exact absurd hx omQ) | (rw[if_pos omQ];have hl9:ln=0:=omQ;subst hl9;rfl)) hH ?_;refine tkQ 13 (.pointer (some ⟨gp,n,none⟩)) hH ?_;refine rdQ [14] ?_
    refine arQ λK hK=>?_
    clear hH;go_simp;have q3:(wd.setCell ⟨gp,n,none⟩ (.slice (some ⟨gq,off,none⟩) ln 0)).cell? ⟨b2,1,none⟩=some (.slice (some ⟨gp,0,none⟩) W pc):=(World.cell?_of_block (a:=⟨b2,1,none⟩) (Below.heap_setCell wd ⟨gp,n,none⟩ (.slice (some ⟨gq,off,none⟩) ln 0) b2 hbg)).trans q1;refine hK.out _ _ q3 (λhH=>?_);clear hK K hH q3;refine wpAnyH_done krQ ?_ _
    have HX:=show Hid _ from HG wd.drew (.slice (some ⟨gq,off,none⟩) ln 0) HB.out.drew HV
    have hb2:(wd.setCell ⟨gp,n,none⟩ (.slice (some ⟨gq,off,none⟩) ln 0)).heap[wr.heap.size]? =some (.cells #[.int .i64 pt,.string tx,.int .i64 cl,.int .i64 cd] 149 (0,0)):=(Below.heap_setCell wd ⟨gp,n,none⟩ (.slice (some ⟨gq,off,none⟩) ln 0) wr.heap.size (λe=>by have e':wr.heap.size=gp:=e;omega)).trans hbx
    have HB2:=show Hid (Below wr.heap.size wr.drew (wd.setCell ⟨gp,n,none⟩ (.slice (some ⟨gq,off,none⟩) ln 0)).drew->True)from λ_=>trivial
    have hwl:wr.heap.size<(wd.setCell ⟨gp,n,none⟩ (.slice (some ⟨gq,off,none⟩) ln 0)).drew.heap.size:=Qac hb2;have HX2:Hid (∃vg ng xs,AddG B b2 wr.heap.size (wd.setCell ⟨gp,n,none⟩ (.slice (some ⟨gq,off,none⟩) ln 0)).drew vg ng xs [.int .i64 pt,.string tx,.int .i64 cl,.int .i64 cd] Q):=HX.out;clear HX HB2 HB q1 q2 zf hbx;generalize wd.setCell ⟨gp,n,none⟩ (.slice (some ⟨gq,off,none⟩) ln 0)=w2 at hb2 HX2 hwl ⊢;have p0:w2.cell? ⟨wr.heap.size,0,none⟩=some (.int .i64 pt):=Qaa hb2 0;go_wp2;have hb3:w2.drew.heap[wr.heap.size]? =some (.cells #[.int .i64 pt,.string tx,.int .i64 cl,.int .i64 cd] 149 (0,0)):=hb2;refine wp_region_held_drew (S:=λw':World=>w'.heap[wr.heap.size]? =some (.cells #[.int .i64 pt,.string tx,.int .i64 cl,.int .i64 cd] 149 (0,0))) krQ hb3 (λhH=>?_);clear p0 hb2;obtain⟨vg,ng,xs,hG⟩:=HX2.out;obtain⟨r0,hrow,hng,hB,hvg,hgo⟩:=hG;have HG2:=hdQ hgo
    have HRow:=show Hid (w2.drew.ownsRow B 149 4 vg ng xs)from hrow
    clear hgo hrow HX2;generalize w2.drew=w3 at hb3 hH r0 HRow hB hwl HG2 ⊢;obtain⟨va,vc,rfl⟩:=Qaf HRow.out;refine tkQ 0 (.pointer (some ⟨b2,0,none⟩)) hH ?_;refine tkQ 1 (.pointer (some ⟨b2,0,none⟩)) hH ?_;refine tkQ 2 (.pointer (some ⟨b2,0,none⟩)) hH ?_;refine tkQ 3 (.pointer (some ⟨b2,0,none⟩)) hH ?_;refine tlQ 5 (.agg #[.int .i64 pt,.string tx,.int .i64 cl,.int .i64 cd]) rfl (by intro v hSw;have s0:v.cell? ⟨wr.heap.size,0,none⟩=some (.int .i64 pt):=Qaa hSw 0;have s1:v.cell? ⟨wr.heap.size,1,none⟩=some (.string tx):=Qaa hSw 1;have s2:v.cell? ⟨wr.heap.size,2,none⟩=some (.int .i64 cl):=Qaa hSw 2;have s3:v.cell? ⟨wr.heap.size,3,none⟩=some (.int .i64 cd):=Qaa hSw 3;clear hSw;go_simp) hH ?_;have hba:=(Below.refl w3.heap.size w3).alloc (Nat.le_refl _) (.cells #[.int .i64 pt,.string tx,.int .i64 cl,.int .i64 cd] 149);have hb4:(w3.alloc (.cells #[.int .i64 pt,.string tx,.int .i64 cl,.int .i64 cd] 149)).heap[wr.heap.size]? =some (.cells #[.int .i64 pt,.string tx,.int .i64 cl,.int .i64 cd] 149 (0,0)):=(Below.heap_alloc _ _ _ hwl).trans hb3;have r0a:(w3.alloc (.cells #[.int .i64 pt,.string tx,.int .i64 cl,.int .i64 cd] 149)).cell? ⟨b2,0,none⟩=some (.slice va ng vc):=(hba.cell (p:=⟨b2,0,none⟩) (Qan r0)).trans r0;have HBa:=hdQ hba;clear hba;refine rdQ [4,6] ?_;refine AllReadyH.cons rfl (λK hK=>?_) (arQ λK hK=>?_)
    focus
     clear hH;go_simp;refine hK.out _ _ hb3 (λhH=>?_);clear hK K;refine rdQ [6] ?_
     refine arQ λK hK=>?_
     clear hH;go_simp;refine hK.out _ _ hb4 (λhH=>?_);clear hK K
    rotate_left
    focus
     clear hH;go_simp;refine hK.out _ _ hb4 (λhH=>?_);clear hK K;refine rdQ [4] ?_
     refine arQ λK hK=>?_
     clear hH;go_simp;refine hK.out _ _ hb4 (λhH=>?_);clear hK K
    all_goals
     refine rdQ [7] ?_
     refine arQ λK hK=>?_
     refine QaM rfl ?_;refine Qau _ (.tmp 73) (.tmp 75) 98 rfl B 149 i0 (.agg #[.int .i64 0,.string ⟨#[]⟩,.int .i64 0,.int .i64 0]) 4 40 Tryz.underlying98 hi0 hz0 hz1 hz2 rfl (by decide) (.slice va ng vc) ng xs rfl (HRow.out.alloc _) ⟨w3.heap.size,0,none⟩ 1 1 [.int .i64 pt,.string tx,.int .i64 cl,.int .i64 cd] rfl rfl (by have:=QaC w3 (.int .i64 pt) (.string tx) (.int .i64 cl) (.int .i64 cd) 149;simpa using this) (Qcl ⟨pt,tx,cl,cd⟩) (by unfold maxLen;omega) (by omega) (by simp;omega) (by decide) ?_;intro v' w5 hown5 happ;obtain⟨r5,z5,hQ⟩:=HG2.out _ w5 v' HBa.out hown5 happ;have hb5:w5.heap[wr.heap.size]? =some (.cells #[.int .i64 pt,.string tx,.int .i64 cl,.int .i64 cd] 149 (0,0)):=((Qat happ).block _ (Qac hb4) (λe=>hvg _ e.symm rfl)).trans hb4;refine hK.out _ _ hb5 (λhH=>?_);have HQ:=hdQ hQ;obtain⟨a5,c5,rfl⟩:=Qaf hown5;clear hK K hown5 happ HRow HG2 HBa hQ r0a hb4 hb3;refine tkQ 8 (.pointer (some ⟨b2,0,none⟩)) hH ?_;refine tkQ 9 (.pointer (some ⟨b2,0,none⟩)) hH ?_;refine rdQ [10] ?_
     refine arQ λK hK=>?_
     clear hH;go_simp;have hb6:(w5.setCell ⟨b2,0,none⟩ (.slice a5 (ng+1) c5)).heap[wr.heap.size]? =some (.cells #[.int .i64 pt,.string tx,.int .i64 cl,.int .i64 cd] 149 (0,0)):=(Below.heap_setCell w5 ⟨b2,0,none⟩ (.slice a5 (ng+1) c5) wr.heap.size (λe=>by have e':wr.heap.size=b2:=e;omega)).trans hb5;refine hK.out _ _ hb6 (λhH=>?_);clear hK K hH;refine wpAnyH_done krQ ?_ _;clear r5 z5 hb5 hb6;generalize w5.setCell ⟨b2,0,none⟩ (.slice a5 (ng+1) c5)=w6 at HQ ⊢;go_wp2;go_ret;exact⟨rfl,HQ.out⟩
   ·have hq1:(1:Int)<(qc:Int):=omQ;have HV:IsTail gq off ln qc (.slice (some ⟨gq,off+4,none⟩) ln (qc-1)):=.inl rfl;refine tkQ 0 (.pointer (some ⟨b2,0,none⟩)) hH ?_;refine tkQ 1 (.pointer (some ⟨b2,0,none⟩)) hH ?_;refine tkQ 2 (.pointer (some ⟨b2,1,none⟩)) hH ?_;refine tlQ 3 (.slice (some ⟨gp,0,none⟩) W pc) rfl (by intro v hSw;have s0:=hSw;clear hSw;go_simp) hH ?_;refine tkQ 4 (.int .i64 (n:Int)) hH ?_;refine tkQ 5 (.pointer (some ⟨b2,0,none⟩)) hH ?_;refine tkQ 6 (.pointer (some ⟨b2,0,none⟩)) hH ?_;refine tkQ 7 (.pointer (some ⟨b2,1,none⟩)) hH ?_;refine tlQ 8 (.slice (some ⟨gp,0,none⟩) W pc) rfl (by intro v hSw;have s0:=hSw;clear hSw;go_simp) hH ?_;refine tkQ 9 (.int .i64 (n:Int)) hH ?_;refine tkQ 10 (.pointer (some ⟨gp,n,none⟩)) hH ?_;refine rdQ [11] ?_
    refine arQ λK hK=>?_
    clear hH;go_simp;refine hK.out _ _ q1 (λhH=>?_);clear hK K;refine tlQ 12 (.slice (some ⟨gq,off+4,none⟩) ln (qc-1)) rfl (by intro v hSw;clear hSw;go_simp;first | (intro hx;exact absurd hx omQ) | (rw[if_pos omQ];have hl9:ln=0:=omQ;subst hl9;rfl)) hH ?_;refine tkQ 13 (.pointer (some ⟨gp,n,none⟩)) hH ?_;refine rdQ [14] ?_
    refine arQ λK hK=>?_
    clear hH;go_simp;have q3:(wd.setCell ⟨gp,n,none⟩ (.slice (some ⟨gq,off+4,none⟩) ln (qc-1))).cell? ⟨b2,1,none⟩=some (.slice (some ⟨gp,0,none⟩) W pc):=(World.cell?_of_block (a:=⟨b2,1,none⟩) (Below.heap_setCell wd ⟨gp,n,none⟩ (.slice (some ⟨gq,off+4,none⟩) ln (qc-1)) b2 hbg)).trans q1;refine hK.out _ _ q3 (λhH=>?_);clear hK K hH q3;refine wpAnyH_done krQ ?_ _
    have HX:=show Hid _ from HG wd.drew (.slice (some ⟨gq,off+4,none⟩) ln (qc-1)) HB.out.drew HV
    have hb2:(wd.setCell ⟨gp,n,none⟩ (.slice (some ⟨gq,off+4,none⟩) ln (qc-1))).heap[wr.heap.size]? =some (.cells #[.int .i64 pt,.string tx,.int .i64 cl,.int .i64 cd] 149 (0,0)):=(Below.heap_setCell wd ⟨gp,n,none⟩ (.slice (some ⟨gq,off+4,none⟩) ln (qc-1)) wr.heap.size (λe=>by have e':wr.heap.size=gp:=e;omega)).trans hbx
    have HB2:=show Hid (Below wr.heap.size wr.drew (wd.setCell ⟨gp,n,none⟩ (.slice (some ⟨gq,off+4,none⟩) ln (qc-1))).drew->True)from λ_=>trivial
    have hwl:wr.heap.size<(wd.setCell ⟨gp,n,none⟩ (.slice (some ⟨gq,off+4,none⟩) ln (qc-1))).drew.heap.size:=Qac hb2;have HX2:Hid (∃vg ng xs,AddG B b2 wr.heap.size (wd.setCell ⟨gp,n,none⟩ (.slice (some ⟨gq,off+4,none⟩) ln (qc-1))).drew vg ng xs [.int .i64 pt,.string tx,.int .i64 cl,.int .i64 cd] Q):=HX.out;clear HX HB2 HB q1 q2 zf hbx;generalize wd.setCell ⟨gp,n,none⟩ (.slice (some ⟨gq,off+4,none⟩) ln (qc-1))=w2 at hb2 HX2 hwl ⊢;have p0:w2.cell? ⟨wr.heap.size,0,none⟩=some (.int .i64 pt):=Qaa hb2 0;go_wp2;have hb3:w2.drew.heap[wr.heap.size]? =some (.cells #[.int .i64 pt,.string tx,.int .i64 cl,.int .i64 cd] 149 (0,0)):=hb2;refine wp_region_held_drew (S:=λw':World=>w'.heap[wr.heap.size]? =some (.cells #[.int .i64 pt,.string tx,.int .i64 cl,.int .i64 cd] 149 (0,0))) krQ hb3 (λhH=>?_);clear p0 hb2;obtain⟨vg,ng,xs,hG⟩:=HX2.out;obtain⟨r0,hrow,hng,hB,hvg,hgo⟩:=hG;have HG2:=hdQ hgo
    have HRow:=show Hid (w2.drew.ownsRow B 149 4 vg ng xs)from hrow
    clear hgo hrow HX2;generalize w2.drew=w3 at hb3 hH r0 HRow hB hwl HG2 ⊢;obtain⟨va,vc,rfl⟩:=Qaf HRow.out;refine tkQ 0 (.pointer (some ⟨b2,0,none⟩)) hH ?_;refine tkQ 1 (.pointer (some ⟨b2,0,none⟩)) hH ?_;refine tkQ 2 (.pointer (some ⟨b2,0,none⟩)) hH ?_;refine tkQ 3 (.pointer (some ⟨b2,0,none⟩)) hH ?_;refine tlQ 5 (.agg #[.int .i64 pt,.string tx,.int .i64 cl,.int .i64 cd]) rfl (by intro v hSw;have s0:v.cell? ⟨wr.heap.size,0,none⟩=some (.int .i64 pt):=Qaa hSw 0;have s1:v.cell? ⟨wr.heap.size,1,none⟩=some (.string tx):=Qaa hSw 1;have s2:v.cell? ⟨wr.heap.size,2,none⟩=some (.int .i64 cl):=Qaa hSw 2;have s3:v.cell? ⟨wr.heap.size,3,none⟩=some (.int .i64 cd):=Qaa hSw 3;clear hSw;go_simp) hH ?_;have hba:=(Below.refl w3.heap.size w3).alloc (Nat.le_refl _) (.cells #[.int .i64 pt,.string tx,.int .i64 cl,.int .i64 cd] 149);have hb4:(w3.alloc (.cells #[.int .i64 pt,.string tx,.int .i64 cl,.int .i64 cd] 149)).heap[wr.heap.size]? =some (.cells #[.int .i64 pt,.string tx,.int .i64 cl,.int .i64 cd] 149 (0,0)):=(Below.heap_alloc _ _ _ hwl).trans hb3;have r0a:(w3.alloc (.cells #[.int .i64 pt,.string tx,.int .i64 cl,.int .i64 cd] 149)).cell? ⟨b2,0,none⟩=some (.slice va ng vc):=(hba.cell (p:=⟨b2,0,none⟩) (Qan r0)).trans r0;have HBa:=hdQ hba;clear hba;refine rdQ [4,6] ?_;refine AllReadyH.cons rfl (λK hK=>?_) (arQ λK hK=>?_)
    focus
     clear hH;go_simp;refine hK.out _ _ hb3 (λhH=>?_);clear hK K;refine rdQ [6] ?_
     refine arQ λK hK=>?_
     clear hH;go_simp;refine hK.out _ _ hb4 (λhH=>?_);clear hK K
    rotate_left
    focus
     clear hH;go_simp;refine hK.out _ _ hb4 (λhH=>?_);clear hK K;refine rdQ [4] ?_
     refine arQ λK hK=>?_
     clear hH;go_simp;refine hK.out _ _ hb4 (λhH=>?_);clear hK K
    all_goals
     refine rdQ [7] ?_
     refine arQ λK hK=>?_
     refine QaM rfl ?_;refine Qau _ (.tmp 73) (.tmp 75) 98 rfl B 149 i0 (.agg #[.int .i64 0,.string ⟨#[]⟩,.int .i64 0,.int .i64 0]) 4 40 Tryz.underlying98 hi0 hz0 hz1 hz2 rfl (by decide) (.slice va ng vc) ng xs rfl (HRow.out.alloc _) ⟨w3.heap.size,0,none⟩ 1 1 [.int .i64 pt,.string tx,.int .i64 cl,.int .i64 cd] rfl rfl (by have:=QaC w3 (.int .i64 pt) (.string tx) (.int .i64 cl) (.int .i64 cd) 149;simpa using this) (Qcl ⟨pt,tx,cl,cd⟩) (by unfold maxLen;omega) (by omega) (by simp;omega) (by decide) ?_;intro v' w5 hown5 happ;obtain⟨r5,z5,hQ⟩:=HG2.out _ w5 v' HBa.out hown5 happ;have hb5:w5.heap[wr.heap.size]? =some (.cells #[.int .i64 pt,.string tx,.int .i64 cl,.int .i64 cd] 149 (0,0)):=((Qat happ).block _ (Qac hb4) (λe=>hvg _ e.symm rfl)).trans hb4;refine hK.out _ _ hb5 (λhH=>?_);have HQ:=hdQ hQ;obtain⟨a5,c5,rfl⟩:=Qaf hown5;clear hK K hown5 happ HRow HG2 HBa hQ r0a hb4 hb3;refine tkQ 8 (.pointer (some ⟨b2,0,none⟩)) hH ?_;refine tkQ 9 (.pointer (some ⟨b2,0,none⟩)) hH ?_;refine rdQ [10] ?_
     refine arQ λK hK=>?_
     clear hH;go_simp;have hb6:(w5.setCell ⟨b2,0,none⟩ (.slice a5 (ng+1) c5)).heap[wr.heap.size]? =some (.cells #[.int .i64 pt,.string tx,.int .i64 cl,.int .i64 cd] 149 (0,0)):=(Below.heap_setCell w5 ⟨b2,0,none⟩ (.slice a5 (ng+1) c5) wr.heap.size (λe=>by have e':wr.heap.size=b2:=e;omega)).trans hb5;refine hK.out _ _ hb6 (λhH=>?_);clear hK K hH;refine wpAnyH_done krQ ?_ _;clear r5 z5 hb5 hb6;generalize w5.setCell ⟨b2,0,none⟩ (.slice a5 (ng+1) c5)=w6 at HQ ⊢;go_wp2;go_ret;exact⟨rfl,HQ.out⟩
section
variable {f:Owners} {w:World} {B k jb:Nat} {sb ab:List Nat} {j:JobM}
theorem RJob.below(h:RJob f w B k jb sb ab j){w1:World}(hb:Below w.heap.size w w1):RJob f w1 B k jb sb ab j:=
 h.putBox (.of_below hb) (Same.refl _ _) rfl rfl rfl rfl rfl λ_ _ _ _ hbx=>Qaq (S:=λ_=>False) hbx (.of_below hb) h.own id
theorem Qga{gq off ln qc:Nat}{v1:Value}{c:ChgM}{rest:List ChgM}(hl:rest.length=ln)(hq:qRow w B 149 4 (.slice (some ⟨gq,off,none⟩) (ln+1) qc) (ln+1) (chgCells (c :: rest)))(ht:IsTail gq off ln qc v1):qRow w B 149 4 v1 rest.length (chgCells rest):=by
 have hd:(chgCells (c :: rest)).drop 4=chgCells rest:=rfl;rw[hl]
 rcases ht with rfl | ⟨rfl,rfl⟩
 ·have:=hq.tail (off':=off+4) (.inl rfl);rw[hd]at this;exact this
 ·have:=hq.tail (off':=off) (.inr ⟨rfl,rfl⟩);rw[hd]at this;exact this
theorem Qli(h:RJob f w B k jb sb ab j)(hB:B<=w.heap.size)(hw:1<=j.width/\j.width<=4)(i:Nat)(hi:i<j.width)(ha:i<j.adders.length)(hgl:(j.adders[i]).got.length<=1000)(n0:Nat)(h1:n0<(j.adders[i]).pipes.length)(h2:n0<(j.adders[i]).stopped.length)(hst:(j.adders[i]).stopped[n0]=false)(c:ChgM)(rest:List ChgM)(hp:(j.adders[i]).pipes[n0]=c :: rest)(hpt:0<=c.pt)
  (hskip:∀m (_:m<n0) (h3:m<(j.adders[i]).pipes.length) (h4:m<(j.adders[i]).stopped.length),(j.adders[i]).stopped[m]=true\/((j.adders[i]).pipes[m]).length=0):
  Calls Tryz.prog 46 #[.pointer (some ⟨jb,0,none⟩),.int .i64 (i:Int)] w λen w'=>en=.returned (.int .i64 0)/\RAfter f w B k jb sb ab {j with adders:=j.adders.set i {j.adders[i]with pipes:=(j.adders[i]).pipes.set n0 rest,got:=(j.adders[i]).got++[c]}} w':=by
 have hib:i<ab.length:=by have:=h.lenA;omega
 have hpl:=h.pipes i ha;obtain⟨g2,ca,gp,pc,_,way,_⟩:=h.pipeA i hib ha n0 h1 omQ;obtain⟨gt,tc,e2,_⟩:=h.stopA i hib ha n0 h2 omQ
 have tails:∀m (hm:m<(j.adders[i]).pipes.length),∃v,w.cell? ⟨gp,m,none⟩=some v/\(∀w',Below w.heap.size w w'->w'.frozen? ⟨gp,m,none⟩=false)/\qRow w B 149 4 v ((j.adders[i]).pipes[m]).length (chgCells ((j.adders[i]).pipes[m])):=λm hm=>by
  obtain⟨gp',pc',v,a1,a2,_,a4,_⟩:=h.tailA i hib ha m hm omQ
  have hg:gp'=gp:=by have:=Option.some.inj (a1.symm.trans way.2.2);simp at this;exact this.1
  subst hg;refine⟨v,a2,λw' hb=>?_,a4⟩;obtain⟨gp2,pc2,v2,b1,_,b3,_⟩:=(h.below hb).tailA i hib ha m hm omQ;have b1':=(hb.cell (p:=⟨ab[i],1,none⟩) (Qan way.2.2)).trans way.2.2
  have hg:gp2=gp':=by have:=Option.some.inj (b1.symm.trans b1');simp at this;exact this.1
  subst hg;exact b3
 have stops:∀m (hm:m<(j.adders[i]).stopped.length),w.cell? ⟨gt,m,none⟩=some (.bool (j.adders[i]).stopped[m]):=λm hm=>by
  obtain⟨gt',tc',a1,a2,_⟩:=h.stopA i hib ha m hm omQ
  have hg:gt'=gt:=by have:=Option.some.inj (a1.symm.trans e2);simp at this;exact this.1
  subst hg;exact a2
 obtain⟨v,f1,hz,hq⟩:=tails n0 h1;have f2:=stops n0 h2;rw[hst]at f2;rw[hp]at hq;obtain⟨qa,qc,rfl⟩:=hq.shape;have hql:(c :: rest).length=rest.length+1:=rfl;rw[hql]at f1 hq
 rcases hq.addr with⟨_,h0⟩ | ⟨gq,off,rfl⟩
 ·omega
 obtain⟨ho,vg0,vp,vs,vt,hbk,hg0,og,hpr,op,_⟩:=h.adders i hib ha;have hc0:w.cell? ⟨ab[i],0,none⟩=some vg0:=Qad hbk 0;have hc1:w.cell? ⟨ab[i],1,none⟩=some vp:=Qad hbk 1;have hvp:vp=.slice (some ⟨gp,0,none⟩) j.width pc:=Option.some.inj (hc1.symm.trans way.2.2)
 have hbg:ab[i]≠gp:=λe=>by
  rw[hvp,hpl.1]at hpr;obtain⟨cur,hcur⟩:=QbV hpr;rw[<-e,hbk]at hcur;simp only[Option.some.injEq,Obj.cells.injEq]at hcur;exact absurd hcur.2.1 (by decide)
 have hC:AddC w jb j.width i g2 ca ab[i] gp pc gt tc:=⟨(Qav h).1,way.1,way.2.1,way.2.2,e2,hi,hw.2,hbg⟩
 refine Qna hC n0 omQ (λm hm=>?_) gq off rest.length qc f1 f2 c.pt c.tx c.live c.delta (hq.cell 0 _ rfl) (hq.cell 1 _ rfl) (hq.cell 2 _ rfl) (hq.cell 3 _ rfl) hpt (by have:=hq.cap;omega) hz B _ λwd v1 hbd ht=>?_
 ·obtain⟨v,a1,_,a3⟩:=tails m omQ;obtain⟨qa,qc,rfl⟩:=a3.shape;refine⟨qa,_,qc,_,a1,stops m omQ,?_⟩
  rcases hskip m hm omQ omQ with e | e
  ·exact .inl e
  ·cases hs:(j.adders[i]).stopped[m]'omQ with
   | true=>exact .inl rfl
   | false=>exact .inr ⟨rfl,e⟩
 ·have hRd:=h.below hbd;obtain⟨gp',pc',v,a1,a2,_,_,hto⟩:=hRd.tailA i hib ha n0 h1 omQ;have a1':=(hbd.cell (p:=⟨ab[i],1,none⟩) (Qan way.2.2)).trans way.2.2
  have hgg:gp'=gp:=by have:=Option.some.inj (a1.symm.trans a1');simp at this;exact this.1
  subst hgg;have a2':=(hbd.cell (p:=⟨gp',n0,none⟩) (Qan f1)).trans f1;have hvv:v=.slice (some ⟨gq,off,none⟩) (rest.length+1) qc:=Option.some.inj (a2.symm.trans a2');have hqd:=Qga rfl (hq.old hbd) ht
  obtain⟨f2',hR2,hF2,hS2⟩:=hto v1 rest hqd (λg hg=>by
   rw[hvv]
   rcases ht with rfl | ⟨_,rfl⟩<;>exact hg)
  have hm2:i<({j with adders:=j.adders.set i {j.adders[i]with pipes:=(j.adders[i]).pipes.set n0 rest}}:JobM).adders.length:=by simpa using ha
  obtain⟨vg,b1,b2,b3,hgo⟩:=hR2.gotA i hib hm2 (by show j.width<=9;omega)
  have hvg:vg=vg0:=by
   have e3:(wd.setCell ⟨gp',n0,none⟩ v1).cell? ⟨ab[i],0,none⟩=some vg0:=(World.cell?_of_block (a:=⟨ab[i],0,none⟩) (Below.heap_setCell wd ⟨gp',n0,none⟩ v1 ab[i] hbg)).trans ((hbd.cell (p:=⟨ab[i],0,none⟩) (Qan hc0)).trans hc0);exact Option.some.inj (b1.symm.trans e3)
  simp only[List.getElem_set_self,List.set_set]at b3 hgo;refine⟨vg,_,_,b1,b3,hgl,Nat.le_trans hB (Nat.le_trans hbd.size hF2.size),λg hg e=>?_,λwa w5 v' hba hown happ=>?_⟩
  ·rw[hvg]at hg;have:=(Qah hg0 g hg).2;omega
  ·obtain⟨r1,r2,f3,hR3,hF3,hS3⟩:=hgo wa v' w5 c hba hown happ;have hFd:FrmO f (λ_=>True) w wd:=.of_below hbd;exact⟨r1,r2,f3,hR3,(hFd.trans (Same.refl _ _) hF2).trans (λg hg=>hS2 g (Nat.lt_of_lt_of_le hg hbd.size)) hF3,λg hg=>(hS3 g (Nat.lt_of_lt_of_le hg (Nat.le_trans hbd.size hF2.size))).trans (hS2 g (Nat.lt_of_lt_of_le hg hbd.size))⟩
end
end
section
open Go.RowKit
theorem Tryz.infoBool:(Tryz.prog.info? 4).map (λi=>(i.zero,i.size,i.bytes))=some (some (.bool false),1,1):=by kernel_rfl
theorem Qj1(n:Nat):madeCells (Value.bool false).cells n=Array.replicate n (.bool false):=by
 apply Array.ext
 ·simp[madeCells]
 ·intro i h1 h2;simp[madeCells,Value.cells,Nat.mod_one]
theorem QaY(w:World)(n B:Nat)(hn:n<=1000)(hB:B<=w.heap.size):∃w',(∀kl kc,(Instr.makeSlice 97 (.int kl (n:Int)) (.int kc (n:Int))).run Tryz.prog w=.ok (.slice (some ⟨w.heap.size,0,none⟩) n n) w')/\w'.ownsRow B 4 1 (.slice (some ⟨w.heap.size,0,none⟩) n n) n (List.replicate n (.bool false))/\Below w.heap.size w w':=by
 obtain⟨i,hi,hz,hs,hb⟩:=info_parts Tryz.infoBool;refine⟨w.alloc (.cells (madeCells (Value.bool false).cells n) 4),λkl kc=>?_,?_,(Below.refl _ _).alloc (Nat.le_refl _) _⟩
 ·have:=run_make (P:=Tryz.prog) w 97 4 i (.bool false) Tryz.underlying97 hi hz kl kc (n:Int) (n:Int) omQ (Int.le_refl _) (by rw[hb];omega) omQ;rw[hs]at this
  simpa using this
 ·refine⟨by simp,.inr ⟨w.heap.size,n,madeCells (Value.bool false).cells n,rfl,hB,heap_alloc_new w _,Nat.le_refl _,by unfold maxLen;omega,by rw[size_madeCells];omega,?_⟩⟩;rw[Qj1];simp
theorem Tryz.infoChs:(Tryz.prog.info? 98).map (λi=>(i.zero,i.size,i.bytes))=some (some (.slice none 0 0),1,24):=by kernel_rfl
theorem QdS{P:Program}{md:Region.Mode}{ops:Array Oper}{Q:Exit->Act->World->Prop}{S:World->Prop}{fuel:Nat}{listed:Array Bool}{a a':Act}{w:World}(h:a=a')(h2:wpAnyH P md ops Q S fuel listed a' w):wpAnyH P md ops Q S fuel listed a w:=by
 rw[h];exact h2
theorem Qlj(n:Nat):madeCells (Value.slice none 0 0).cells n=Array.replicate n (.slice none 0 0):=by
 apply Array.ext
 ·simp[madeCells]
 ·intro i h1 h2;simp[madeCells,Value.cells,Nat.mod_one]
theorem Qbp(w:World)(n B:Nat)(hn:n<=1000)(hB:B<=w.heap.size):∃w',(∀kl kc,(Instr.makeSlice 96 (.int kl (n:Int)) (.int kc (n:Int))).run Tryz.prog w=.ok (.slice (some ⟨w.heap.size,0,none⟩) n n) w')/\w'.ownsRow B 98 1 (.slice (some ⟨w.heap.size,0,none⟩) n n) n (List.replicate n (.slice none 0 0))/\Below w.heap.size w w':=by
 obtain⟨i,hi,hz,hs,hb⟩:=info_parts Tryz.infoChs;refine⟨w.alloc (.cells (madeCells (Value.slice none 0 0).cells n) 98),λkl kc=>?_,?_,(Below.refl _ _).alloc (Nat.le_refl _) _⟩
 ·have:=run_make (P:=Tryz.prog) w 96 98 i (.slice none 0 0) Tryz.underlying96 hi hz kl kc (n:Int) (n:Int) omQ (Int.le_refl _) (by rw[hb];omega) omQ;rw[hs]at this
  simpa using this
 ·refine⟨by simp,.inr ⟨w.heap.size,n,madeCells (Value.slice none 0 0).cells n,rfl,hB,heap_alloc_new w _,Nat.le_refl _,by unfold maxLen;omega,by rw[size_madeCells];omega,?_⟩⟩;rw[Qlj];simp
theorem Qgb{f:Owners}{a b k:Nat}{c:Nat}(ha:f a=some c)(hb:f b=some (k+1))(h:c≠k+1:=by omega):a≠b:=λe=>by
 rw[e,hb]at ha;exact h (Option.some.inj ha).symm
theorem Qgy(w:World)(B:Nat)(e:TypeId)(s:Nat):qRow w B e s (.slice none 0 0) 0 []:=⟨by simp,.inl ⟨rfl,rfl⟩⟩
def Owners.new(f:Owners)(n:Nat)(g:Nat->Option Nat):Owners:=λx=>if x<n then f x else g x
theorem Owners.new_same(f:Owners)(n:Nat)(g:Nat->Option Nat):Same n f (f.new n g):=λx hx=>by simp[Owners.new,hx]
theorem Owners.new_at(f:Owners){n x:Nat}(g:Nat->Option Nat)(h:n<=x):f.new n g x=g x:=by simp[Owners.new,Nat.not_lt.2 h]
section
variable {f:Owners} {w:World} {B k jb:Nat} {sb ab:List Nat} {j:JobM}
theorem RJob.swapS(h:RJob f w B k jb sb ab j)(i:Nat)(hi:i<sb.length)(hi':i<j.sorters.length)(_hwid:j.width<=9){g1 cs':Nat}(c4:w.cell? ⟨jb,4,none⟩=some (.slice (some ⟨g1,0,none⟩) j.width cs'))
  {w2:World} (hb:Below w.heap.size w w2) {nb:Nat} (hnb:w.heap.size<=nb) {vg:Value} (s':SorterM) (hs':s'.pipe=[]) (hblk:w2.heap[nb]? =some (.cells #[vg,.slice none 0 0,.int .i64 (s'.marked:Int),.int .i64 (s'.kept:Int),.bool s'.passed] 94 (0,0)))
  (hrow:w2.ownsRow B 41 4 vg s'.got.length (evCells s'.got)) (hvg:∀g,vg.ownBlock=some g->w.heap.size<=g):
  w2.cell? ⟨g1,i,none⟩=some (.pointer (some ⟨sb[i],0,none⟩))/\w2.frozen? ⟨g1,i,none⟩=false/\g1≠nb/\g1≠jb/\
   ∃f',RJob f' (w2.setCell ⟨g1,i,none⟩ (.pointer (some ⟨nb,0,none⟩))) B k jb (sb.set i nb) ab {j with sorters:=j.sorters.set i s'}/\FrmO f (λ_=>True) w (w2.setCell ⟨g1,i,none⟩ (.pointer (some ⟨nb,0,none⟩)))/\Same w.heap.size f f':=by
 obtain⟨ve,vs,va,vr,hbx,he1,oe,hs1,os,ha1,oa,hr1,or'⟩:=h.box;have hc:w.cell? ⟨jb,4,none⟩=some vs:=Qad hbx 4;have hv:vs=.slice (some ⟨g1,0,none⟩) j.width cs':=Option.some.inj (hc.symm.trans c4);have og:f g1=some (k+2):=os g1 (by rw[hv];rfl);have hgl:g1<w.heap.size:=(Qah hs1 g1 (by rw[hv];rfl)).2;have hlS:=h.lenS;have hiw:i<j.width:=omQ;have hs2:=Qao hs1 hb
 have hvgn:vg.ownBlock≠some nb:=λe=>by
  obtain⟨cur,h1,_⟩:=QaO hrow e;rw[hblk]at h1;simp only[Option.some.injEq,Obj.cells.injEq]at h1;exact absurd h1.2.1 (by decide)
 have hf2:FrmO f (λc=>c=k+2) w w2:=.of_below hb;have hf3:FrmO f (λc=>c=k+2) w (w2.setCell ⟨g1,i,none⟩ (.pointer (some ⟨nb,0,none⟩))):=hf2.trans (Same.refl _ _) (FrmO.of_set (S:=λc=>c=k+2) og rfl _)
 have hs2':w2.ownsRow B 92 1 (.slice (some ⟨g1,0,none⟩) sb.length cs') sb.length (sb.map λb=>.pointer (some ⟨b,0,none⟩)):=by
  have e:vs=.slice (some ⟨g1,0,none⟩) sb.length cs':=by rw[hv,hlS.1]
  rw[<-e];exact hs2
 refine⟨?_,hs2'.frozenAt i,λe=>by omega,Qgb og h.own,f.new w.heap.size (λx=>if x=nb then some (k+100+i)else some (k+200+i)),?_,hf3.mono λ_ _=>trivial,Owners.new_same _ _ _⟩
 ·refine(hs2'.cellAt i omQ).trans ?_;rw[List.getElem?_map,List.getElem?_eq_getElem hi]
  rfl
 ·have hs:=Owners.new_same f w.heap.size (λx=>if x=nb then some (k+100+i)else some (k+200+i));have hst:=(hs2'.stored i (.pointer (some ⟨nb,0,none⟩))).1;refine⟨(hs jb (Qac hbx)).trans h.own,by simpa using hlS,h.lenA,⟨ve,vs,va,vr,Qaq hbx hf3 h.own omQ,Qaj he1 hf3 oe omQ,oe.same hs λg e=>(Qah he1 g e).2,?_,os.same hs λg e=>(Qah hs1 g e).2,Qaj ha1 hf3 oa omQ,oa.same hs λg e=>(Qah ha1 g e).2,Qaj hr1 hf3 or' omQ,or'.same hs λg e=>(Qah hr1 g e).2⟩,λm hm hm'=>?_,λm hm hm'=>?_,h.pipes⟩
  ·have e:vs=.slice (some ⟨g1,0,none⟩) sb.length cs':=by rw[hv,hlS.1]
   rw[e,List.length_set,List.map_set];exact hst
  ·by_cases e:m=i
   ·subst e;simp only[List.getElem_set_self];have hne:nb≠g1:=omQ;refine⟨by rw[Owners.new_at _ _ hnb];simp,vg,.slice none 0 0,?_,?_,λg hg=>?_,?_,λg hg=>by simp[Value.ownBlock]at hg⟩
    ·rw[Below.heap_setCell _ _ _ _ hne];exact hblk
    ·exact QaV hrow (Qak w2 g1 m _) λg hg e=>by
      simp only[Option.some.injEq]at e;have:=hvg g hg;omega
    ·rw[Owners.new_at _ _ (hvg g hg),if_neg (λe=>hvgn (by rw[hg,e]))]
    ·rw[hs'];exact Qgy _ _ _ _
   ·have hm1:m<sb.length:=by simpa using hm
    have hm2:m<j.sorters.length:=by simpa using hm'
    simp only[List.getElem_set_ne (λx=>e x.symm)];exact(h.sorters m hm1 hm2).frm hf3 hs omQ omQ omQ
  ·have hpl:=(h.pipes m hm').1;exact(h.adders m hm hm').frm hf3 hs omQ omQ omQ omQ (λq hq=>by omega)
theorem RJob.swapA(h:RJob f w B k jb sb ab j)(i:Nat)(hi:i<ab.length)(hi':i<j.adders.length)(hwid:j.width<=9){g2 ca:Nat}(c5:w.cell? ⟨jb,5,none⟩=some (.slice (some ⟨g2,0,none⟩) j.width ca))
  {w2:World} (hb:Below w.heap.size w w2) {nb:Nat} (hnb:w.heap.size<=nb) {vg vp vt:Value} (a':AdderM) (hp':a'.pipes=List.replicate j.width []) (ht':a'.stopped=List.replicate j.width false) (hblk:w2.heap[nb]? =some (.cells #[vg,vp,vt,.int .i64 (a'.marked:Int),.int .i64 (a'.kept:Int),.bool a'.passed] 100 (0,0)))
  (hrow:w2.ownsRow B 149 4 vg a'.got.length (chgCells a'.got)) (hvg:∀g,vg.ownBlock=some g->w.heap.size<=g)
  (hrowp:w2.ownsRow B 98 1 vp j.width (List.replicate j.width (.slice none 0 0))) (hvp:∀g,vp.ownBlock=some g->w.heap.size<=g)
  (hrowt:w2.ownsRow B 4 1 vt j.width (List.replicate j.width (.bool false))) (hvt:∀g,vt.ownBlock=some g->w.heap.size<=g):
  w2.cell? ⟨g2,i,none⟩=some (.pointer (some ⟨ab[i],0,none⟩))/\w2.frozen? ⟨g2,i,none⟩=false/\g2≠nb/\g2≠jb/\
   ∃f',RJob f' (w2.setCell ⟨g2,i,none⟩ (.pointer (some ⟨nb,0,none⟩))) B k jb sb (ab.set i nb) {j with adders:=j.adders.set i a'}/\FrmO f (λ_=>True) w (w2.setCell ⟨g2,i,none⟩ (.pointer (some ⟨nb,0,none⟩)))/\Same w.heap.size f f':=by
 obtain⟨ve,vs,va,vr,hbx,he1,oe,hs1,os,ha1,oa,hr1,or'⟩:=h.box;have hc:w.cell? ⟨jb,5,none⟩=some va:=Qad hbx 5;have hv:va=.slice (some ⟨g2,0,none⟩) j.width ca:=Option.some.inj (hc.symm.trans c5);have og:f g2=some (k+3):=oa g2 (by rw[hv];rfl);have hgl:g2<w.heap.size:=(Qah ha1 g2 (by rw[hv];rfl)).2;have hlA:=h.lenA;have hiw:i<j.width:=omQ;have ha2:=Qao ha1 hb
 have apart:∀ {e:TypeId} {s n:Nat} {v:Value} {xs:List Value},w2.ownsRow B e s v n xs->100≠e->v.ownBlock≠some nb:=λhr hne e=>by
  obtain⟨cur,h1,_⟩:=QaO hr e;rw[hblk]at h1;simp only[Option.some.injEq,Obj.cells.injEq]at h1;exact hne h1.2.1
 have hf2:FrmO f (λc=>c=k+3) w w2:=.of_below hb;have hf3:FrmO f (λc=>c=k+3) w (w2.setCell ⟨g2,i,none⟩ (.pointer (some ⟨nb,0,none⟩))):=hf2.trans (Same.refl _ _) (FrmO.of_set (S:=λc=>c=k+3) og rfl _)
 have ha2':w2.ownsRow B 95 1 (.slice (some ⟨g2,0,none⟩) ab.length ca) ab.length (ab.map λb=>.pointer (some ⟨b,0,none⟩)):=by
  have e:va=.slice (some ⟨g2,0,none⟩) ab.length ca:=by rw[hv,hlA.1]
  rw[<-e];exact ha2
 have keep:∀ {e:TypeId} {s n:Nat} {v:Value} {xs:List Value},w2.ownsRow B e s v n xs->(∀g,v.ownBlock=some g->w.heap.size<=g)->(w2.setCell ⟨g2,i,none⟩ (.pointer (some ⟨nb,0,none⟩))).ownsRow B e s v n xs:=λhr hl=>
  QaV hr (Qak w2 g2 i _) λg hg e=>by
   simp only[Option.some.injEq]at e;have:=hl g hg;omega
 have hgp:vg.ownBlock=none\/vg.ownBlock≠vp.ownBlock:=by
  cases hq:vg.ownBlock with
  | none=>exact .inl rfl
  | some g=>exact .inr λe=>QcT hrow hrowp (by decide) g hq e.symm
 have hgt:vg.ownBlock=none\/vg.ownBlock≠vt.ownBlock:=by
  cases hq:vg.ownBlock with
  | none=>exact .inl rfl
  | some g=>exact .inr λe=>QcT hrow hrowt (by decide) g hq e.symm
 have hpt:vp.ownBlock=none\/vp.ownBlock≠vt.ownBlock:=by
  cases hq:vp.ownBlock with
  | none=>exact .inl rfl
  | some g=>exact .inr λe=>QcT hrowp hrowt (by decide) g hq e.symm
 obtain⟨F,hF⟩:∃F:Nat->Option Nat,F=λx=>if x=nb then some (k+400+i)else if vg.ownBlock=some x then some (k+500+i)else if vp.ownBlock=some x then some (k+600+i)else some (k+700+i):=⟨_,rfl⟩
 refine⟨?_,ha2'.frozenAt i,λe=>by omega,Qgb og h.own,f.new w.heap.size F,?_,hf3.mono λ_ _=>trivial,Owners.new_same _ _ _⟩
 ·refine(ha2'.cellAt i omQ).trans ?_;rw[List.getElem?_map,List.getElem?_eq_getElem hi]
  rfl
 ·have hs:=Owners.new_same f w.heap.size F;have hst:=(ha2'.stored i (.pointer (some ⟨nb,0,none⟩))).1;refine⟨(hs jb (Qac hbx)).trans h.own,h.lenS,by simpa using hlA,⟨ve,vs,va,vr,Qaq hbx hf3 h.own omQ,Qaj he1 hf3 oe omQ,oe.same hs λg e=>(Qah he1 g e).2,Qaj hs1 hf3 os omQ,os.same hs λg e=>(Qah hs1 g e).2,?_,oa.same hs λg e=>(Qah ha1 g e).2,Qaj hr1 hf3 or' omQ,or'.same hs λg e=>(Qah hr1 g e).2⟩,λm hm hm'=>?_,λm hm hm'=>?_,λm hm=>?_⟩
  ·have e:va=.slice (some ⟨g2,0,none⟩) ab.length ca:=by rw[hv,hlA.1]
   rw[e,List.length_set,List.map_set];exact hst
  ·exact(h.sorters m hm hm').frm hf3 hs omQ omQ omQ
  ·by_cases e:m=i
   ·subst e;simp only[List.getElem_set_self];have hne:nb≠g2:=omQ;refine⟨by rw[Owners.new_at _ _ hnb,hF];simp,vg,vp,List.replicate j.width (.slice none 0 0),vt,?_,keep hrow hvg,λg hg=>?_,?_,λg hg=>?_,λq hq=>?_,?_,λg hg=>?_⟩
    ·rw[Below.heap_setCell _ _ _ _ hne];exact hblk
    ·rw[Owners.new_at _ _ (hvg g hg),hF];simp only;rw[if_neg (λe=>apart hrow (by decide) (by rw[hg,e])),if_pos hg]
    ·rw[hp',List.length_replicate];exact keep hrowp hvp
    ·rw[Owners.new_at _ _ (hvp g hg),hF];simp only;rw[if_neg (λe=>apart hrowp (by decide) (by rw[hg,e])),if_neg (λe=>hgp.elim (λh0=>by rw[h0]at e;cases e) λh0=>h0 (e.trans hg.symm)),if_pos hg]
    ·have hq':q<j.width:=by rw[hp',List.length_replicate]at hq;exact hq
     refine⟨.slice none 0 0,by rw[List.getElem?_replicate,if_pos hq'],?_,λg hg=>by simp[Value.ownBlock]at hg⟩
     have e0:a'.pipes[q]=[]:=by
      have:a'.pipes[q]? =some []:=by rw[hp',List.getElem?_replicate,if_pos hq']
      rw[List.getElem?_eq_getElem hq]at this;exact Option.some.inj this
     rw[e0];exact Qgy _ _ _ _
    ·rw[ht',List.length_replicate,List.map_replicate];exact keep hrowt hvt
    ·rw[Owners.new_at _ _ (hvt g hg),hF];simp only;rw[if_neg (λe=>apart hrowt (by decide) (by rw[hg,e])),if_neg (λe=>hgt.elim (λh0=>by rw[h0]at e;cases e) λh0=>h0 (e.trans hg.symm)),if_neg (λe=>hpt.elim (λh0=>by rw[h0]at e;cases e) λh0=>h0 (e.trans hg.symm))]
   ·have hm1:m<ab.length:=by simpa using hm
    have hm2:m<j.adders.length:=by simpa using hm'
    have hpl:=(h.pipes m hm2).1;simp only[List.getElem_set_ne (λx=>e x.symm)];exact(h.adders m hm1 hm2).frm hf3 hs omQ omQ omQ omQ (λq hq=>by omega)
  ·by_cases e:m=i
   ·subst e;simp only[List.getElem_set_self];rw[hp',ht'];simp
   ·simp only[List.getElem_set_ne (λx=>e x.symm)];exact h.pipes m (by simpa using hm)
theorem RJob.backTo(h:RJob f w B k jb sb ab j):w.cell? ⟨jb,11,none⟩=some (.int .i64 (j.base:Int))/\w.cell? ⟨jb,7,none⟩=some (.bool j.under)/\w.cell? ⟨jb,3,none⟩=some (.int .i64 (j.sent:Int))/\w.frozen? ⟨jb,7,none⟩=false/\w.frozen? ⟨jb,3,none⟩=false/\
  RAfter f w B k jb sb ab {j with under:=false,sent:=j.base} ((w.setCell ⟨jb,7,none⟩ (.bool false)).setCell ⟨jb,3,none⟩ (.int .i64 (j.base:Int))):=by
 obtain⟨ve,vs,va,vr,hb,_⟩:=h.box;have hf:FrmO f (λc=>c=k+1) w ((w.setCell ⟨jb,7,none⟩ (.bool false)).setCell ⟨jb,3,none⟩ (.int .i64 (j.base:Int))):=(FrmO.of_set (S:=λc=>c=k+1) h.own rfl _).trans (Same.refl _ _) (FrmO.of_set (S:=λc=>c=k+1) h.own rfl _);refine⟨Qad hb 11,Qad hb 7,Qad hb 3,Qab hb 7,Qab hb 3,f,h.putBox hf (Same.refl _ _) rfl rfl rfl rfl rfl λve vs va vr hbx=>?_,hf.mono λ_ _=>trivial,Same.refl _ _⟩;have:=Qas (j:=3) (Qas (j:=7) hbx (.bool false)) (.int .i64 (j.base:Int));exact this
end
def forgS(s:SorterM):SorterM:=⟨s.got.take s.kept,[],s.kept,s.kept,false⟩
def forgA(W:Nat)(a:AdderM):AdderM:=⟨a.got.take a.kept,List.replicate W [],List.replicate W false,a.kept,a.kept,false⟩
def JobM.fgt(j:JobM)(a b:Nat):JobM:={j with under:=false,sent:=j.base,sorters:=firstN forgS j.sorters a,adders:=firstN (forgA j.width) j.adders b}
def RAfterF(f:Owners)(w:World)(B k jb:Nat)(j':JobM)(w':World):Prop:=∃f' sb' ab',RJob f' w' B k jb sb' ab' j'/\FrmO f (λ_=>True) w w'/\Same w.heap.size f f'
end
end Go.Proofs.YthccpacmklhejaaGreatDoor
