import Derived.Test.YthccpacmklhejabGreatDoorTk
import Derived.Test.YthccpacmklhejabGreatDoorK32
import Derived.Test.YthccpacmklhejabGreatDoorK18
import Derived.Test.YthccpacmklhejabGreatDoorK23
import Derived.Test.YthccpacmklhejabGreatDoorK06
set_option maxHeartbeats 3000000
set_option maxRecDepth 100000
namespace Go.Proofs.YthccpacmklhejabGreatDoor
section
open Go.RowKit
def RSt(w:World)(r:RowM)(w':World):Prop:=
 w'.heap[w.heap.size+1]? =some (.cells #[.int .i64 r.pt,.string r.tx,.int .i64 r.live,.int .i64 r.sum,.int .i64 (r.ev:Int)] 140 (0,0))/\w'.heap[w.heap.size]? =some (.cells #[.int .i64 0,.string ⟨#[]⟩,.int .i64 0,.int .i64 0,.int .i64 0] 140 (0,0))/\Below w.heap.size w w'
theorem RSt.below{w w' w'':World}{r:RowM}(h:RSt w r w')(hb:Below w'.heap.size w' w''):RSt w r w'':=
 ⟨(hb.block _ (Array.getElem?_eq_some_iff.1 h.1).1).trans h.1,(hb.block _ (Array.getElem?_eq_some_iff.1 h.2.1).1).trans h.2.1,h.2.2.trans (hb.mono h.2.2.size)⟩
theorem RSt.new(w:World):RSt w ⟨0,⟨#[]⟩,0,0,0⟩ ((w.alloc (.cells #[.int .i64 0,.string ⟨#[]⟩,.int .i64 0,.int .i64 0,.int .i64 0] 140)).alloc (.cells #[.int .i64 0,.string ⟨#[]⟩,.int .i64 0,.int .i64 0,.int .i64 0] 140)):=by
 refine⟨?_,?_,((Below.refl _ _).alloc (Nat.le_refl _) _).alloc (by simp) _⟩
 ·have:=heap_alloc_new (w.alloc (.cells #[.int .i64 0,.string ⟨#[]⟩,.int .i64 0,.int .i64 0,.int .i64 0] 140)) (.cells #[.int .i64 0,.string ⟨#[]⟩,.int .i64 0,.int .i64 0,.int .i64 0] 140)
  simpa using this
 ·rw[Below.heap_alloc _ _ _ (by simp)];exact heap_alloc_new w _
theorem RSt.stored{w w':World}{r r':RowM}(h:RSt w r w'):RSt w r' (((((w'.setCell ⟨w.heap.size+1,0,none⟩ (.int .i64 r'.pt)).setCell ⟨w.heap.size+1,1,none⟩ (.string r'.tx)).setCell ⟨w.heap.size+1,2,none⟩ (.int .i64 r'.live)).setCell ⟨w.heap.size+1,3,none⟩ (.int .i64 r'.sum)).setCell ⟨w.heap.size+1,4,none⟩ (.int .i64 (r'.ev:Int))):=by
 refine⟨?_,?_,((((h.2.2.setCell (p:=⟨w.heap.size+1,0,none⟩) (by simp) _).setCell (p:=⟨w.heap.size+1,1,none⟩) (by simp) _).setCell (p:=⟨w.heap.size+1,2,none⟩) (by simp) _).setCell (p:=⟨w.heap.size+1,3,none⟩) (by simp) _).setCell (p:=⟨w.heap.size+1,4,none⟩) (by simp) _⟩
 ·have:=Qag (j:=4) (Qag (j:=3) (Qag (j:=2) (Qag (j:=1) (Qag (j:=0) h.1 (.int .i64 r'.pt)) (.string r'.tx)) (.int .i64 r'.live)) (.int .i64 r'.sum)) (.int .i64 (r'.ev:Int))
  simpa using this
 ·rw[Below.heap_setCell _ _ _ _ (by simp),Below.heap_setCell _ _ _ _ (by simp),Below.heap_setCell _ _ _ _ (by simp),Below.heap_setCell _ _ _ _ (by simp),Below.heap_setCell _ _ _ _ (by simp)];exact h.2.1
theorem Qct(l:List ChgM)(c:ChgM)(p:Int):rowM (l++[c]) p=if c.pt=p then⟨p,c.tx,(rowM l p).live+c.live,(rowM l p).sum+c.delta,(rowM l p).ev+1⟩else rowM l p:=by
 unfold rowM;rw[List.foldl_append]
 rfl
theorem Qm4(l:List ChgM)(p:Int):(rowM l p).ev<=l.length:=by
 induction l using QaI with
 | h0=>exact Nat.le_refl _
 | h1 l c ih=>
  rw[Qct];split
  ·simp;omega
  ·simp;omega
def IsChgs(w:World)(b:Nat)(l:List ChgM):Prop:=b<w.heap.size/\∀j (h:j<l.length),w.cell? ⟨b,j*4,none⟩=some (.int .i64 (l[j]).pt)/\w.cell? ⟨b,j*4+1,none⟩=some (.string (l[j]).tx)/\w.cell? ⟨b,j*4+2,none⟩=some (.int .i64 (l[j]).live)/\w.cell? ⟨b,j*4+3,none⟩=some (.int .i64 (l[j]).delta)
def SumsIn(l:List ChgM)(p:Int):Prop:=∀n,-1000000000<=(rowM (l.take n) p).live/\(rowM (l.take n) p).live<=1000000000/\-1000000000<=(rowM (l.take n) p).sum/\(rowM (l.take n) p).sum<=1000000000
theorem Qmp(b:Nat)(cap:Nat)(l:List ChgM)(p:Int)(w:World)(hlen:l.length<=1000)(hc:IsChgs w b l)(hsum:SumsIn l p):
  Calls Tryz.prog 84 #[.slice (some ⟨b,0,none⟩) l.length cap,.int .i64 p] w λen w'=>en=.returned (.agg #[.int .i64 (rowM l p).pt,.string (rowM l p).tx,.int .i64 (rowM l p).live,.int .i64 (rowM l p).sum,.int .i64 ((rowM l p).ev:Int)])/\Below w.heap.size w w':=by
 have Hc:=hdQ hc;have Hs:=hdQ hsum;clear hc hsum;go_enter Tryz.func84,Tryz.ntmps84;go_wp2
 have H0:=show Hid _ from RSt.new w
 go_loopw [6] (λi wr=>∃j:Nat,j<=l.length/\i=.int .i64 (j:Int)/\RSt w (rowM (l.take j) p) wr) (λi _=>l.length-(intOf i).toNat)
 case atStart=>exact⟨0,Nat.zero_le _,rfl,H0.out⟩
 case round=>
  obtain⟨j,hj,rfl,hS⟩:=hrel;clear H0
  by_cases hjl:j<l.length
  ·obtain⟨d0,d1,d2,d3⟩:=Hc.out.2 j hjl;have hbl:=Hc.out.1
   have hnx:rowM (l.take (j+1)) p=if(l[j]).pt=p then⟨p,(l[j]).tx,(rowM (l.take j) p).live+(l[j]).live,(rowM (l.take j) p).sum+(l[j]).delta,(rowM (l.take j) p).ev+1⟩else rowM (l.take j) p:=by
    rw[List.take_succ_eq_append_getElem hjl,Qct]
   have hev:=Qm4 (l.take j) p;rw[List.length_take]at hev;have hs1:=Hs.out (j+1);rw[hnx]at hs1
   have HN:=show Hid (_=_)from hnx
   have HS:=hdQ hS;clear hnx hS Hc Hs;generalize rowM (l.take j) p=r at HS HN hev hs1;generalize l[j]=c at d0 d1 d2 d3 HN hs1;obtain⟨rp,rt,rl,rs,re⟩:=r;obtain⟨cp,tx,cl,cd⟩:=c;simp only at d0 d1 d2 d3 hev hs1;have hji:(j:Int)<(l.length:Int):=omQ;have hj0:(0:Int)<=(j:Int):=omQ;have c0:=(HS.out.2.2.cell (p:=⟨b,j*4,none⟩) hbl).trans d0
   by_cases hcp:cp=p
   ·subst hcp;rw[if_pos rfl]at hs1;simp only at hs1
    have heq:(cp==cp)=true:=by simp
    go_wp2
    have HH:=show Hid (RSt w ⟨rp,rt,rl,rs,re⟩ wr.drew)from RSt.below HS.out (Below.refl _ _).drew
    refine wp_region_held_drew (S:=λw':World=>w'.heap[w.heap.size]? =some (.cells #[.int .i64 0,.string ⟨#[]⟩,.int .i64 0,.int .i64 0,.int .i64 0] 140 (0,0))/\Below w.heap.size w w') krQ HH.out.2 (λhH=>?_);clear HS c0;have q2:wr.drew.cell? ⟨w.heap.size+1,2,none⟩=some (.int .i64 rl):=Qaa HH.out.1 2;have q3:wr.drew.cell? ⟨w.heap.size+1,3,none⟩=some (.int .i64 rs):=Qaa HH.out.1 3;have q4:wr.drew.cell? ⟨w.heap.size+1,4,none⟩=some (.int .i64 (re:Int)):=Qaa HH.out.1 4;generalize wr.drew=w2 at HH hH q2 q3 q4 ⊢;refine tkQ 0 (.int .i64 cp) hH ?_;refine tkQ 1 (.slice (some ⟨b,0,none⟩) l.length cap) hH ?_;refine tkQ 2 (.int .i64 (j:Int)) hH ?_;refine tkQ 3 (.pointer (some ⟨b,j*4,none⟩)) hH ?_;refine tkQ 4 (.pointer (some ⟨b,j*4+1,none⟩)) hH ?_;refine tlQ 5 (.string tx) rfl (by intro v hSw;have t0:=(hSw.2.cell (p:=⟨b,j*4+1,none⟩) hbl).trans d1;clear hSw;go_simp) hH ?_;refine tkQ 6 (.pointer (some ⟨w.heap.size+1,2,none⟩)) hH ?_;refine tkQ 8 (.slice (some ⟨b,0,none⟩) l.length cap) hH ?_;refine tkQ 9 (.int .i64 (j:Int)) hH ?_;refine tkQ 10 (.pointer (some ⟨b,j*4,none⟩)) hH ?_;refine tkQ 11 (.pointer (some ⟨b,j*4+2,none⟩)) hH ?_;refine tlQ 12 (.int .i64 cl) rfl (by intro v hSw;have t0:=(hSw.2.cell (p:=⟨b,j*4+2,none⟩) hbl).trans d2;clear hSw;go_simp) hH ?_;refine tkQ 14 (.pointer (some ⟨w.heap.size+1,3,none⟩)) hH ?_;refine tkQ 16 (.slice (some ⟨b,0,none⟩) l.length cap) hH ?_;refine tkQ 17 (.int .i64 (j:Int)) hH ?_;refine tkQ 18 (.pointer (some ⟨b,j*4,none⟩)) hH ?_;refine tkQ 19 (.pointer (some ⟨b,j*4+3,none⟩)) hH ?_;refine tlQ 20 (.int .i64 cd) rfl (by intro v hSw;have t0:=(hSw.2.cell (p:=⟨b,j*4+3,none⟩) hbl).trans d3;clear hSw;go_simp) hH ?_;refine tkQ 22 (.pointer (some ⟨w.heap.size+1,4,none⟩)) hH ?_;refine rdQ [7,15,23] ?_;refine(AllReadyH.cons rfl (λK hK=>?_) (AllReadyH.cons rfl (λK hK=>?_) (AllReadyH.cons rfl (λK hK=>?_) AllReadyH.nil)))
    focus
     clear hH;go_simp;refine hK.out _ _ HH.out.2 (λhH=>?_);clear hK K;refine tlQ 13 (.int .i64 (rl+cl)) rfl (by intro v hSw;clear hSw;go_simp;exact IntWalk.i64_in (rl+cl) ⟨by omega,by omega⟩) hH ?_;refine rdQ [15,23] ?_;refine(AllReadyH.cons rfl (λK hK=>?_) (AllReadyH.cons rfl (λK hK=>?_) AllReadyH.nil))
     focus
      clear hH;go_simp;refine hK.out _ _ HH.out.2 (λhH=>?_);clear hK K;refine tlQ 21 (.int .i64 (rs+cd)) rfl (by intro v hSw;clear hSw;go_simp;exact IntWalk.i64_in (rs+cd) ⟨by omega,by omega⟩) hH ?_;refine rdQ [23] ?_;refine(AllReadyH.cons rfl (λK hK=>?_) AllReadyH.nil)
      focus
       clear hH;go_simp;refine hK.out _ _ HH.out.2 (λhH=>?_);clear hK K;refine tlQ 24 (.int .i64 ((re:Int)+1)) rfl (by intro v hSw;clear hSw;go_simp;exact IntWalk.i64_in ((re:Int)+1) ⟨by omega,by omega⟩) hH ?_
     rotate_left 1
     focus
      clear hH;go_simp;refine hK.out _ _ HH.out.2 (λhH=>?_);clear hK K;refine tlQ 24 (.int .i64 ((re:Int)+1)) rfl (by intro v hSw;clear hSw;go_simp;exact IntWalk.i64_in ((re:Int)+1) ⟨by omega,by omega⟩) hH ?_;refine rdQ [15] ?_;refine(AllReadyH.cons rfl (λK hK=>?_) AllReadyH.nil)
      focus
       clear hH;go_simp;refine hK.out _ _ HH.out.2 (λhH=>?_);clear hK K;refine tlQ 21 (.int .i64 (rs+cd)) rfl (by intro v hSw;clear hSw;go_simp;exact IntWalk.i64_in (rs+cd) ⟨by omega,by omega⟩) hH ?_
    rotate_left 2
    focus
     clear hH;go_simp;refine hK.out _ _ HH.out.2 (λhH=>?_);clear hK K;refine tlQ 21 (.int .i64 (rs+cd)) rfl (by intro v hSw;clear hSw;go_simp;exact IntWalk.i64_in (rs+cd) ⟨by omega,by omega⟩) hH ?_;refine rdQ [7,23] ?_;refine(AllReadyH.cons rfl (λK hK=>?_) (AllReadyH.cons rfl (λK hK=>?_) AllReadyH.nil))
     focus
      clear hH;go_simp;refine hK.out _ _ HH.out.2 (λhH=>?_);clear hK K;refine tlQ 13 (.int .i64 (rl+cl)) rfl (by intro v hSw;clear hSw;go_simp;exact IntWalk.i64_in (rl+cl) ⟨by omega,by omega⟩) hH ?_;refine rdQ [23] ?_;refine(AllReadyH.cons rfl (λK hK=>?_) AllReadyH.nil)
      focus
       clear hH;go_simp;refine hK.out _ _ HH.out.2 (λhH=>?_);clear hK K;refine tlQ 24 (.int .i64 ((re:Int)+1)) rfl (by intro v hSw;clear hSw;go_simp;exact IntWalk.i64_in ((re:Int)+1) ⟨by omega,by omega⟩) hH ?_
     rotate_left 1
     focus
      clear hH;go_simp;refine hK.out _ _ HH.out.2 (λhH=>?_);clear hK K;refine tlQ 24 (.int .i64 ((re:Int)+1)) rfl (by intro v hSw;clear hSw;go_simp;exact IntWalk.i64_in ((re:Int)+1) ⟨by omega,by omega⟩) hH ?_;refine rdQ [7] ?_;refine(AllReadyH.cons rfl (λK hK=>?_) AllReadyH.nil)
      focus
       clear hH;go_simp;refine hK.out _ _ HH.out.2 (λhH=>?_);clear hK K;refine tlQ 13 (.int .i64 (rl+cl)) rfl (by intro v hSw;clear hSw;go_simp;exact IntWalk.i64_in (rl+cl) ⟨by omega,by omega⟩) hH ?_
    rotate_left 2
    focus
     clear hH;go_simp;refine hK.out _ _ HH.out.2 (λhH=>?_);clear hK K;refine tlQ 24 (.int .i64 ((re:Int)+1)) rfl (by intro v hSw;clear hSw;go_simp;exact IntWalk.i64_in ((re:Int)+1) ⟨by omega,by omega⟩) hH ?_;refine rdQ [7,15] ?_;refine(AllReadyH.cons rfl (λK hK=>?_) (AllReadyH.cons rfl (λK hK=>?_) AllReadyH.nil))
     focus
      clear hH;go_simp;refine hK.out _ _ HH.out.2 (λhH=>?_);clear hK K;refine tlQ 13 (.int .i64 (rl+cl)) rfl (by intro v hSw;clear hSw;go_simp;exact IntWalk.i64_in (rl+cl) ⟨by omega,by omega⟩) hH ?_;refine rdQ [15] ?_;refine(AllReadyH.cons rfl (λK hK=>?_) AllReadyH.nil)
      focus
       clear hH;go_simp;refine hK.out _ _ HH.out.2 (λhH=>?_);clear hK K;refine tlQ 21 (.int .i64 (rs+cd)) rfl (by intro v hSw;clear hSw;go_simp;exact IntWalk.i64_in (rs+cd) ⟨by omega,by omega⟩) hH ?_
     rotate_left 1
     focus
      clear hH;go_simp;refine hK.out _ _ HH.out.2 (λhH=>?_);clear hK K;refine tlQ 21 (.int .i64 (rs+cd)) rfl (by intro v hSw;clear hSw;go_simp;exact IntWalk.i64_in (rs+cd) ⟨by omega,by omega⟩) hH ?_;refine rdQ [7] ?_;refine(AllReadyH.cons rfl (λK hK=>?_) AllReadyH.nil)
      focus
       clear hH;go_simp;refine hK.out _ _ HH.out.2 (λhH=>?_);clear hK K;refine tlQ 13 (.int .i64 (rl+cl)) rfl (by intro v hSw;clear hSw;go_simp;exact IntWalk.i64_in (rl+cl) ⟨by omega,by omega⟩) hH ?_
    all_goals
     refine tkQ 25 (.agg #[.int .i64 cp,.string tx,.int .i64 (rl+cl),.int .i64 (rs+cd),.int .i64 ((re:Int)+1)]) hH ?_;refine rdQ [26] ?_
     refine arQ λK hK=>?_
     clear hH;have b0:w2.cell? ⟨w.heap.size+1,0,none⟩=some (.int .i64 rp):=Qaa HH.out.1 0;have b1:w2.cell? ⟨w.heap.size+1,1,none⟩=some (.string rt):=Qaa HH.out.1 1;have z0:=Qab HH.out.1 0;have z1:=Qab HH.out.1 1;have z2:=Qab HH.out.1 2;have z3:=Qab HH.out.1 3;have z4:=Qab HH.out.1 4;go_simp;have HT:Hid (RSt w ⟨cp,tx,rl+cl,rs+cd,re+1⟩ (((((w2.setCell ⟨w.heap.size+1,0,none⟩ (.int .i64 cp)).setCell ⟨w.heap.size+1,1,none⟩ (.string tx)).setCell ⟨w.heap.size+1,2,none⟩ (.int .i64 (rl+cl))).setCell ⟨w.heap.size+1,3,none⟩ (.int .i64 (rs+cd))).setCell ⟨w.heap.size+1,4,none⟩ (.int .i64 ((re:Int)+1)))):=RSt.stored HH.out;refine hK.out _ _ HT.out.2 (λhH=>?_);clear hK K hH HH b0 b1 q2 q3 q4 z0 z1 z2 z3 z4;refine wpAnyH_done krQ ?_ _;generalize(((((w2.setCell ⟨w.heap.size+1,0,none⟩ (.int .i64 cp)).setCell ⟨w.heap.size+1,1,none⟩ (.string tx)).setCell ⟨w.heap.size+1,2,none⟩ (.int .i64 (rl+cl))).setCell ⟨w.heap.size+1,3,none⟩ (.int .i64 (rs+cd))).setCell ⟨w.heap.size+1,4,none⟩ (.int .i64 ((re:Int)+1)))=w3 at HT ⊢;go_wp2
     go_roundw
     case rel=>exact⟨j+1,by omega,by go_num,by rw[HN.out,if_pos trivial];exact HT.out⟩
     case measure=>simp[intOf];omega
   ·have hne:(cp==p)=false:=by rw[beq_eq_false_iff_ne];exact hcp
    go_wp2
    go_roundw
    case rel=>exact⟨j+1,by omega,by go_num,by rw[HN.out,if_neg hcp];exact HS.out⟩
    case measure=>simp[intOf];omega
  ·have hjj:j=l.length:=omQ;subst hjj;rw[List.take_length]at hS
   obtain⟨r,hr2⟩:∃r,rowM l p=r:=⟨_,rfl⟩
   rw[hr2]at hS
   have HK:=show Hid (_=_)from hr2
   have HS:=hdQ hS;clear hS Hc Hs hr2;obtain⟨rp,rt,rl,rs,re⟩:=r;have b0:wr.cell? ⟨w.heap.size+1,0,none⟩=some (.int .i64 rp):=Qaa HS.out.1 0;have b1:wr.cell? ⟨w.heap.size+1,1,none⟩=some (.string rt):=Qaa HS.out.1 1;have b2:wr.cell? ⟨w.heap.size+1,2,none⟩=some (.int .i64 rl):=Qaa HS.out.1 2;have b3:wr.cell? ⟨w.heap.size+1,3,none⟩=some (.int .i64 rs):=Qaa HS.out.1 3;have b4:wr.cell? ⟨w.heap.size+1,4,none⟩=some (.int .i64 (re:Int)):=Qaa HS.out.1 4;have r0:=Qaa HS.out.2.1 0;have r1:=Qaa HS.out.2.1 1;have r2:=Qaa HS.out.2.1 2;have r3:=Qaa HS.out.2.1 3;have r4:=Qaa HS.out.2.1 4;have z0:=Qab HS.out.2.1 0;have z1:=Qab HS.out.2.1 1;have z2:=Qab HS.out.2.1 2;have z3:=Qab HS.out.2.1 3;have z4:=Qab HS.out.2.1 4;simp at r0 r1 r2 r3 r4;go_wp2;have hg:=Qag (j:=4) (Qag (j:=3) (Qag (j:=2) (Qag (j:=1) (Qag (j:=0) HS.out.2.1 (.int .i64 rp)) (.string rt)) (.int .i64 rl)) (.int .i64 rs)) (.int .i64 (re:Int));have hg':_=some (Obj.cells #[.int .i64 rp,.string rt,.int .i64 rl,.int .i64 rs,.int .i64 (re:Int)] 140 (0,0)):=hg;refine bodyPost_ret (results_cell_row (p:=4) (ty:=140) rfl _ _ w.heap.size 140 #[.int .i64 rp,.string rt,.int .i64 rl,.int .i64 rs,.int .i64 (re:Int)] (0,0) _ rfl hg' Tryz.underlying140 rfl krQ) rfl ⟨?_,?_⟩
   ·rw[HK.out]
   ·exact((((HS.out.2.2.setCell (p:=⟨w.heap.size,0,none⟩) (Nat.le_refl _) _).setCell (p:=⟨w.heap.size,1,none⟩) (Nat.le_refl _) _).setCell (p:=⟨w.heap.size,2,none⟩) (Nat.le_refl _) _).setCell (p:=⟨w.heap.size,3,none⟩) (Nat.le_refl _) _).setCell (p:=⟨w.heap.size,4,none⟩) (Nat.le_refl _) _
section
variable {f:Owners} {w:World} {B k jb:Nat} {sb ab:List Nat} {j:JobM}
theorem RJob.compl(h:RJob f w B k jb sb ab j):w.cell? ⟨jb,10,none⟩=some (.bool j.complete)/\w.frozen? ⟨jb,10,none⟩=false/\RAfter f w B k jb sb ab {j with complete:=true} (w.setCell ⟨jb,10,none⟩ (.bool true)):=by
 obtain⟨ve,vs,va,vr,hb,_⟩:=h.box;have hf:FrmO f (λc=>c=k+1) w (w.setCell ⟨jb,10,none⟩ (.bool true)):=FrmO.of_set (S:=λc=>c=k+1) h.own rfl _;refine⟨Qad hb 10,Qab hb 10,f,h.putBox hf (Same.refl _ _) rfl rfl rfl rfl rfl λve vs va vr hbx=>?_,hf.mono λ_ _=>trivial,Same.refl _ _⟩;have:=Qas (j:=10) hbx (.bool true);exact this
theorem QjR(h:RJob f w B k jb sb ab j)(hw:j.width<=4)
  (hcm:(j.under && j.complete)=true->Calls Tryz.prog 56 #[.pointer (some ⟨jb,0,none⟩)] w λen w'=>en=.returned (.tuple #[])/\RAfter f w B k jb sb ab j.commit w'):
  Calls Tryz.prog 48 #[.pointer (some ⟨jb,0,none⟩)] w λen w'=>en=.returned (.int .i64 (j.keeps.1:Int))/\RAfter f w B k jb sb ab j.keeps.2 w':=by
 have HP:=show Hid _ from λ(_:Unit)=>QbA h hw
 have HC:=hdQ hcm;obtain⟨c10,z10,hX⟩:=h.compl;have HX:=hdQ hX
 have HS:=show Hid (RAfter f w B k jb sb ab j w)from⟨f,h,FrmO.refl _ _ _,Same.refl _ _⟩
 obtain⟨ve,vs,va,vr,hb,_⟩:=h.box;have c7:w.cell? ⟨jb,7,none⟩=some (.bool j.under):=Qad hb 7
 obtain⟨u,hu⟩:∃u,j.under=u:=⟨_,rfl⟩
 obtain⟨c,hcp⟩:∃c,j.complete=c:=⟨_,rfl⟩
 have hk:j.keeps=if u && c then(0,j.commit)else if j.passedAll then(0,{j with complete:=true})else(8,j):=by
  rw[<-hu,<-hcp]
  rfl
 rw[hu]at c7 HC;rw[hcp]at c10 HC;clear h hcm hX hb;rw[hk];clear hk hu hcp;generalize j.passedAll=pa at HP ⊢
 cases u<;>cases c<;>cases pa
 all_goals
  go_enter Tryz.func48,Tryz.ntmps48
  go_wp2_with(first | (go_at_call 78;refine(HP.out ()).mono ?_;rintro en w1 ⟨rfl,rfl⟩) | (go_at_call 56;refine(HC.out rfl).mono ?_;rintro en w2 ⟨rfl,hR2⟩))
  go_ret
  first
  | exact⟨rfl,HS.out⟩
  | exact⟨rfl,hR2⟩
  | exact⟨rfl,HX.out⟩
end
end
section
theorem QjS{es:List Ev}(hv:∀e∈es,validB e.key=true){rs:List RowV}(hA:RowsAre es (keysOf es) rs):(placed rs rs.length).flatten=foldB es:=by
 obtain⟨hn,hc,hr⟩:=hA
 have hperm:(rs.map (·.pt)).Perm (ptsOf es):=by
  refine QcL hn ((QaJ es).imp λh=>Nat.ne_of_lt h) λp=>?_
  rw[Qbj];constructor
  ·intro hm;obtain⟨r,hr2,rfl⟩:=List.mem_map.1 hm;obtain⟨_,_,_,k,hk,hg⟩:=hr r hr2;exact⟨k,hk,by rw[hg]⟩
  ·rintro⟨k,hk,rfl⟩;exact hc k hk
 have hlen:rs.length=(ptsOf es).length:=by simpa using hperm.length_eq
 have hrank:∀p,rankR rs p=(ptsOf es).countP (λq=>decide (q<p)):=by
  intro p;rw[<-hperm.countP_eq,List.countP_map]
  rfl
 obtain⟨T,hT⟩:∃T:Nat->List UInt8,(λp=>textAt p (tot fLive es p) (tot fSum es p) (tot fCnt es p))=T:=⟨_,rfl⟩
 have htx:∀r∈rs,rowText r=T r.pt:=by
  intro r hr2;obtain⟨h1,h2,h3,k,hk,hg⟩:=hr r hr2;rw[<-hT];unfold rowText textAt;obtain⟨e,he,rfl⟩:=(Qaz _ _).1 hk;have hge:=QiN (hv e he);rw[hg]at hge;simp only at hge;rw[hge,h1,h2,h3]
  rfl
 have hix:∀r∈rs,∃h:rankR rs r.pt<(ptsOf es).length,(ptsOf es)[rankR rs r.pt]=r.pt:=by
  intro r hr2;obtain⟨i,hi,e⟩:=List.getElem_of_mem (hperm.mem_iff.1 (List.mem_map.2 ⟨r,hr2,rfl⟩));have hcs:=Qb2 (QaJ es) i hi;rw[e,<-hrank]at hcs;subst hcs;exact⟨hi,e⟩
 have hfin:placed rs rs.length=(ptsOf es).map T:=by
  apply List.ext_getElem?;intro n
  by_cases hl:n<(ptsOf es).length
  ·obtain⟨r,hr2,hp⟩:=List.mem_map.1 (hperm.mem_iff.2 (List.getElem_mem hl));have hcs:=Qb2 (QaJ es) n hl;rw[<-hp,<-hrank]at hcs;unfold placed;rw[List.take_length,QdZ (ix:=λr=>rankR rs r.pt) (tx:=rowText) (by simp;omega) rs ?_ r hr2 hcs,List.getElem?_map,List.getElem?_eq_getElem hl,htx r hr2,hp]
   ·rfl
   ·intro x hx y hy e;rw[htx x hx,htx y hy];obtain⟨a1,a2⟩:=hix x hx;obtain⟨b1,b2⟩:=hix y hy;rw[<-a2,<-b2];have e':rankR rs x.pt=rankR rs y.pt:=e;simp only[e']
  ·rw[List.getElem?_eq_none (by rw[QbR];omega),List.getElem?_eq_none (by simp;omega)]
 rw[hfin,<-List.flatMap_def,<-hT]
 rfl
theorem Qni{es:List Ev}(hok:∀e∈es,e.ok)(hk:∀e∈es,0<e.key.size/\e.key.size<=1000)(hl:es.length<=400){rs:List RowV}(hA:RowsAre es (keysOf es) rs):∀r∈rs,TB r:=by
 intro r hr;obtain⟨h1,h2,h3,k,hkm,hg⟩:=hA.2.2 r hr;have hB:=Qb1 es es.length (Nat.le_refl _);rw[List.take_length]at hB;have hm:=hB.2.1 k hkm;rw[hg]at hm;obtain⟨r',hr',hp⟩:=List.mem_map.1 hm;simp only at hp;obtain⟨q1,q2,q3,_⟩:=hB.2.2 r' hr';obtain⟨b1,_,_,b4⟩:=QbQ hok hl es.length r' hr';rw[hp,<-h1]at q1;rw[hp,<-h3]at q3;obtain⟨e,he,rfl⟩:=(Qaz _ _).1 hkm;refine⟨by omega,by omega,?_⟩
 have ht:r.tx=(grp e.key).2:=by rw[hg]
 rw[ht];unfold grp;simp only;rw[<-Qam,QaA,List.length_take,List.length_drop,Qam];have:=hk e he;omega
theorem Qfx{es:List Ev}{rs:List RowV}(hA:RowsAre es (keysOf es) rs):rs.length<=es.length:=by
 have hB:=Qb1 es es.length (Nat.le_refl _);rw[List.take_length]at hB
 have hperm:(rs.map (·.pt)).Perm ((rowsTo es es.length).map (·.pt)):=by
  refine QcL hA.1 hB.1 λp=>⟨λh=>?_,λh=>?_⟩
  ·obtain⟨r,hr,rfl⟩:=List.mem_map.1 h;obtain⟨_,_,_,k,hk,hg⟩:=hA.2.2 r hr;have:=hB.2.1 k hk;rw[hg]at this;exact this
  ·obtain⟨r,hr,rfl⟩:=List.mem_map.1 h;obtain⟨_,_,_,k,hk,hg⟩:=hB.2.2 r hr;have:=hA.2.1 k hk;rw[hg]at this;exact this
 have h1:=hperm.length_eq;have h2:=QcS es es.length;simp at h1;omega
theorem Qlc(l:List ChgM)(p:Nat):(rowM l (p:Int)).live=sumC (λc=>c.live) p l/\(rowM l (p:Int)).sum=sumC (λc=>c.delta) p l/\((rowM l (p:Int)).ev:Int)=sumC (λ_=>1) p l:=by
 induction l using QaI with
 | h0=>exact⟨rfl,rfl,rfl⟩
 | h1 l c ih=>
  obtain⟨i1,i2,i3⟩:=ih;rw[Qct,QaF,QaF,QaF];simp only[sumC]
  by_cases h:c.pt=(p:Int)
  ·simp only[if_pos h];exact⟨by rw[i1];omega,by rw[i2];omega,by rw[<-i3];omega⟩
  ·simp only[if_neg h];exact⟨by rw[i1];omega,by rw[i2];omega,by rw[i3];omega⟩
theorem QfM{l:List ChgM}{p:Int}(h:∃c∈l,c.pt=p):(rowM l p).pt=p/\∃c∈l,c.pt=p/\(rowM l p).tx=c.tx:=by
 induction l using QaI with
 | h0=>obtain⟨c,hc,_⟩:=h;cases hc
 | h1 l c ih=>
  rw[Qct]
  by_cases hp:c.pt=p
  ·rw[if_pos hp];exact⟨rfl,c,by simp,hp,rfl⟩
  ·rw[if_neg hp];obtain⟨c',hc',hp'⟩:=h
   have hl:c'∈l:=by
    rcases List.mem_append.1 hc' with h | h
    ·exact h
    ·simp only[List.mem_cons,List.not_mem_nil,or_false]at h;rw[h]at hp';exact absurd hp' hp
   obtain⟨a,c2,b,d⟩:=ih ⟨c',hl,hp'⟩;exact⟨a,c2,by simp[b],d⟩
theorem Qmq{l:List Int}(h:l.Nodup){i k:Nat}{x:Int}(h1:l[i]? =some x)(h2:l[k]? =some x):i=k:=by
 obtain⟨hi,e1⟩:=List.getElem?_eq_some_iff.1 h1;obtain⟨hk,e2⟩:=List.getElem?_eq_some_iff.1 h2;rw[List.Nodup,List.pairwise_iff_getElem]at h
 rcases Nat.lt_trichotomy i k with hlt | he | hlt
 ·exact absurd (e1.trans e2.symm) (h i k hi hk hlt)
 ·exact he
 ·exact absurd (e2.trans e1.symm) (h k i hk hi hlt)
theorem QjT{rows:List RowM}{r:RowM}(hn:(rows.map (·.pt)).Nodup):((putRow rows r).map (·.pt)).Nodup/\∀x,x∈putRow rows r↔x=r\/(x∈rows/\x.pt≠r.pt):=by
 unfold putRow
 by_cases hf:rows.findIdx (λx=>decide (x.pt=r.pt))=rows.length
 ·rw[if_pos hf]
  have hno:∀x∈rows,x.pt≠r.pt:=λx hx e=>by
   have:=List.findIdx_lt_length_of_exists (p:=λx:RowM=>decide (x.pt=r.pt)) ⟨x,hx,by simp[e]⟩;omega
  refine⟨?_,λx=>?_⟩
  ·rw[List.map_append,List.nodup_append];refine⟨hn,by simp,λa ha b hb=>?_⟩;obtain⟨x,hx,rfl⟩:=List.mem_map.1 ha;simp only[List.map_cons,List.map_nil,List.mem_cons,List.not_mem_nil,or_false]at hb;rw[hb];exact hno x hx
  ·rw[List.mem_append];simp only[List.mem_cons,List.not_mem_nil,or_false];constructor
   ·rintro(h | h)
    ·exact .inr ⟨h,hno x h⟩
    ·exact .inl h
   ·rintro(h | h)
    ·exact .inr h
    ·exact .inl h.1
 ·rw[if_neg hf];have hlt:rows.findIdx (λx=>decide (x.pt=r.pt))<rows.length:=Nat.lt_of_le_of_ne List.findIdx_le_length hf;have hpt:=List.findIdx_getElem (p:=λx:RowM=>decide (x.pt=r.pt)) (w:=hlt);simp only[decide_eq_true_eq]at hpt;generalize rows.findIdx (λx=>decide (x.pt=r.pt))=i at hlt hpt
  have hmap:(rows.set i r).map (·.pt)=rows.map (·.pt):=by
   rw[List.map_set,<-hpt];apply List.ext_getElem?;intro k;rw[List.getElem?_set];split
   ·rename_i e
    subst e;rw[if_pos (by simpa using hlt),List.getElem?_map,List.getElem?_eq_getElem hlt]
    rfl
   ·rfl
  have hmi:(rows.map (·.pt))[i]? =some r.pt:=by
   rw[List.getElem?_map,List.getElem?_eq_getElem hlt,<-hpt]
   rfl
  refine⟨by rw[hmap];exact hn,λx=>⟨λhx=>?_,λhx=>?_⟩⟩
  ·obtain⟨k,hk⟩:=List.mem_iff_getElem?.1 hx;rw[List.getElem?_set]at hk;split at hk
   ·exact .inl (Option.some.inj hk).symm
   ·rename_i e
    refine .inr ⟨List.mem_iff_getElem?.2 ⟨k,hk⟩,λhp=>e ?_⟩
    have hmk:(rows.map (·.pt))[k]? =some r.pt:=by rw[List.getElem?_map,hk,<-hp];rfl
    exact Qmq hn hmi hmk
  ·rcases hx with rfl | ⟨hx,hp⟩
   ·exact List.mem_iff_getElem?.2 ⟨i,by rw[List.getElem?_set,if_pos rfl,if_pos hlt]⟩
   ·obtain⟨k,hk⟩:=List.mem_iff_getElem?.1 hx;refine List.mem_iff_getElem?.2 ⟨k,?_⟩;rw[List.getElem?_set,if_neg ?_]
    ·exact hk
    ·intro e;subst e;rw[List.getElem?_eq_getElem hlt]at hk;rw[Option.some.inj hk]at hpt;exact hp hpt
theorem Qmr{V:Int->RowM}{rows:List RowM}(hn:(rows.map (·.pt)).Nodup)(ps:List Int):(∀p∈ps,(V p).pt=p)->
  ((ps.foldl (λrs p=>putRow rs (V p)) rows).map (·.pt)).Nodup/\∀x,x∈ps.foldl (λrs p=>putRow rs (V p)) rows↔(∃p∈ps,x=V p)\/(x∈rows/\∀p∈ps,x.pt≠p):=by
 induction ps using QaI with
 | h0=>intro _;exact⟨hn,λx=>by simp⟩
 | h1 l p ih=>
  intro hV
  obtain⟨i1,i2⟩:=ih λq hq=>hV q (by simp[hq])
  rw[List.foldl_append];simp only[List.foldl_cons,List.foldl_nil];obtain⟨a1,a2⟩:=QjT (r:=V p) i1;refine⟨a1,λx=>?_⟩;rw[a2,i2,hV p (by simp)];constructor
  ·rintro(h | ⟨⟨q,hq,h⟩ | ⟨h1,h2⟩,h3⟩)
   ·exact .inl ⟨p,by simp,h⟩
   ·exact .inl ⟨q,by simp[hq],h⟩
   ·refine .inr ⟨h1,λq hq=>?_⟩
    rcases List.mem_append.1 hq with h | h
    ·exact h2 q h
    ·simp only[List.mem_cons,List.not_mem_nil,or_false]at h;rw[h];exact h3
  ·rintro(⟨q,hq,h⟩ | ⟨h1,h2⟩)
   ·by_cases e:x.pt=p
    ·have hqp:q=p:=by rw[<-hV q hq,<-h];exact e
     rw[hqp]at h;exact .inl h
    ·refine .inr ⟨.inl ⟨q,?_,h⟩,e⟩
     rcases List.mem_append.1 hq with h' | h'
     ·exact h'
     ·simp only[List.mem_cons,List.not_mem_nil,or_false]at h';rw[h,h']at e;exact absurd (hV p (by simp)) e
   ·exact .inr ⟨.inr ⟨h1,λq hq=>h2 q (by simp[hq])⟩,h2 p (by simp)⟩
def RowGood(es:List Ev)(r:RowM):Prop:=∃p:Nat,r.pt=(p:Int)/\r.live=tot fLive es p/\r.sum=tot fSum es p/\(r.ev:Int)=tot fCnt es p/\∃k∈keysOf es,grp k=(p,r.tx)
def RowsOk(es:List Ev)(rows:List RowM):Prop:=(rows.map (·.pt)).Nodup/\(∀p:Nat,p∈ptsOf es->∃r∈rows,r.pt=(p:Int))/\∀r∈rows,RowGood es r
theorem QjU:RowsOk [] []:=⟨by simp,λp hp=>by simp[ptsOf]at hp,λr hr=>by cases hr⟩
theorem QjV(W k n:Nat)(E:List Ev):allTo W k n E=allTo W k n (E.take n):=by
 unfold allTo evs;rw[List.take_take,Nat.min_self]
theorem Qm5(a:AdderM)(rows:List RowM):a.laid rows=(((a.got.take a.marked).drop a.kept).map (·.pt)).foldl (λrs p=>putRow rs (rowM (a.got.take a.marked) p)) rows:=by
 unfold AdderM.laid;rw[List.foldl_map]
theorem Qms{V:Int->RowM}(ads:List AdderM):∀rows:List RowM,(∀a∈ads,∀c∈(a.got.take a.marked).drop a.kept,V c.pt=rowM (a.got.take a.marked) c.pt)->
  ads.foldl (λrs a=>a.laid rs) rows=(ads.flatMap λa=>((a.got.take a.marked).drop a.kept).map (·.pt)).foldl (λrs p=>putRow rs (V p)) rows:=by
 induction ads with
 | nil=>intro rows _;rfl
 | cons a ads ih=>
  intro rows h;rw[List.foldl_cons,List.flatMap_cons,List.foldl_append,ih _ λb hb=>h b (by simp[hb]),Qm5];congr 1
  have:∀(cs:List ChgM) (rows:List RowM),(∀c∈cs,V c.pt=rowM (a.got.take a.marked) c.pt)->(cs.map (·.pt)).foldl (λrs p=>putRow rs (rowM (a.got.take a.marked) p)) rows=(cs.map (·.pt)).foldl (λrs p=>putRow rs (V p)) rows:=by
   intro cs
   induction cs with
   | nil=>intro _ _;rfl
   | cons c cs ih2=>
    intro rows hc;simp only[List.map_cons,List.foldl_cons];rw[hc c (by simp)]
    exact ih2 _ λx hx=>hc x (by simp[hx])
  exact this _ _ λc hc=>h a (by simp) c hc
theorem Qiv{j:JobM}(hf:FlowOk j)(hfl:j.fl=true)(hp:∀a∈j.adders,a.passed=true)(hr:RowsOk (j.events.take j.base) j.rows):RowsOk (j.events.take j.off) j.commit.rows:=by
 have hoff:=hf.off hfl;have hno:j.off<=j.events.length:=Nat.le_trans hoff.2 hf.sent;have hnb:j.base<=j.events.length:=Nat.le_trans hf.base hf.sent
 have hat:∀p:Nat,∃a,j.adders[p % j.width]? =some a:=λp=>⟨_,List.getElem?_eq_getElem (by rw[hf.lenA];exact Nat.mod_lt _ hf.hW)⟩
 have hmk:∀(k:Nat) a,j.adders[k]? =some a->a.kept<=a.marked/\a.marked<=a.got.length/\(a.got.take a.marked).Perm (allTo j.width k j.off j.events):=λk a ha=>by
  obtain⟨m1,m2,m3,_⟩:=(hf.adders k a ha).mark hfl (hp a (List.mem_of_getElem? ha));exact⟨m1,m2,m3⟩
 have hin:∀(k:Nat) a,j.adders[k]? =some a->∀c∈a.got.take a.marked,0<=c.pt/\c.pt.toNat % j.width=k/\∃e∈j.events.take j.off,c.pt=((grp e.key).1:Int)/\c.tx=(grp e.key).2:=λk a ha c hc=>by
  have hm:=(hmk k a ha).2.2.mem_iff.1 hc;rw[QjV]at hm;exact Qf3 hm
 obtain⟨V,hV⟩:∃V:Int->RowM,∀(p:Nat) a,j.adders[p % j.width]? =some a->V (p:Int)=rowM (a.got.take a.marked) (p:Int):=by
  refine⟨λp=>rowM (((j.adders[p.toNat % j.width]?).getD (newA 0)).got.take ((j.adders[p.toNat % j.width]?).getD (newA 0)).marked) p,λp a ha=>?_⟩;simp only[Int.toNat_natCast,ha,Option.getD_some]
 have hVc:∀(k:Nat) a,j.adders[k]? =some a->∀c∈a.got.take a.marked,V c.pt=rowM (a.got.take a.marked) c.pt:=λk a ha c hc=>by
  obtain⟨h0,hk,_⟩:=hin k a ha c hc;have:=hV c.pt.toNat a (by rw[hk];exact ha);rw[Int.toNat_of_nonneg h0]at this;exact this
 have hrows:j.commit.rows=(j.adders.flatMap λa=>((a.got.take a.marked).drop a.kept).map (·.pt)).foldl (λrs p=>putRow rs (V p)) j.rows:=by
  refine Qms j.adders j.rows λa ha c hc=>?_
  obtain⟨k,hk⟩:=List.mem_iff_getElem?.1 ha;exact hVc k a hk c (List.mem_of_mem_drop hc)
 have hPS:∀q,q∈(j.adders.flatMap λa=>((a.got.take a.marked).drop a.kept).map (·.pt))↔∃(p:Nat) (a:AdderM),q=(p:Int)/\j.adders[p % j.width]? =some a/\a.chgd p:=λq=>by
  rw[List.mem_flatMap];constructor
  ·rintro⟨a,ha,hq⟩;obtain⟨c,hc,rfl⟩:=List.mem_map.1 hq;obtain⟨k,hk⟩:=List.mem_iff_getElem?.1 ha;obtain⟨h0,h1,_⟩:=hin k a hk c (List.mem_of_mem_drop hc);exact⟨c.pt.toNat,a,by omega,by rw[h1];exact hk,c,hc,by omega⟩
  ·rintro⟨p,a,rfl,ha,c,hc,hcp⟩;exact⟨a,List.mem_of_getElem? ha,List.mem_map.2 ⟨c,hc,hcp⟩⟩
 have hVpt:∀q∈(j.adders.flatMap λa=>((a.got.take a.marked).drop a.kept).map (·.pt)),(V q).pt=q:=λq hq=>by
  obtain⟨p,a,rfl,ha,c,hc,hcp⟩:=(hPS q).1 hq;rw[hV p a ha];exact(QfM ⟨c,List.mem_of_mem_drop hc,hcp⟩).1
 obtain⟨b1,b2⟩:=Qmr (V:=V) hr.1 _ hVpt;rw[<-hrows]at b1 b2
 have hsame:∀(p:Nat) a,j.adders[p % j.width]? =some a->¬a.chgd p->tot fLive (j.events.take j.off) p=tot fLive (j.events.take j.base) p/\tot fSum (j.events.take j.off) p=tot fSum (j.events.take j.base) p/\tot fCnt (j.events.take j.off) p=tot fCnt (j.events.take j.base) p:=λp a ha hc=>by
  obtain⟨m1,m2,m3⟩:=hmk _ a ha
  have hspl:a.got.take a.marked=a.got.take a.kept++(a.got.take a.marked).drop a.kept:=by
   have h1:(a.got.take a.marked).take a.kept=a.got.take a.kept:=by rw[List.take_take,Nat.min_eq_left m1]
   rw[<-h1,List.take_append_drop]
  have hz:∀g:ChgM->Int,sumC g p (a.got.take a.marked)=sumC g p (a.got.take a.kept):=λg=>by
   rw[hspl,QaF,Qcq (l:=(a.got.take a.marked).drop a.kept) (λc hc' e=>hc ⟨c,hc',e⟩)];omega
  obtain⟨s1,s2,s3⟩:=Qcp hf p _ hno m3;obtain⟨t1,t2,t3⟩:=Qcp hf p _ hnb (hf.adders _ a ha).kept_perm;exact⟨by rw[<-s1,<-t1,hz],by rw[<-s2,<-t2,hz],by rw[<-s3,<-t3,hz]⟩
 have hkeys:∀k,k∈keysOf (j.events.take j.base)->k∈keysOf (j.events.take j.off):=λk hk=>by
  obtain⟨e,he,h⟩:=(Qaz _ _).1 hk;refine(Qaz _ _).2 ⟨e,?_,h⟩
  have:(j.events.take j.off).take j.base=j.events.take j.base:=by rw[List.take_take,Nat.min_eq_left hoff.1]
  rw[<-this]at he;exact List.mem_of_mem_take he
 refine⟨b1,λp hpp=>?_,λr hrm=>?_⟩
 ·obtain⟨a,ha⟩:=hat p;obtain⟨_,c2⟩:=Qd9 hf hfl ha (hp a (List.mem_of_getElem? ha))
  by_cases hc:a.chgd p
  ·have hq:=(hPS (p:Int)).2 ⟨p,a,rfl,ha,hc⟩;exact⟨V (p:Int),(b2 _).2 (.inl ⟨_,hq,rfl⟩),hVpt _ hq⟩
  ·obtain⟨r,hrm,hrp⟩:=hr.2.1 p ((c2 hc).2.1 hpp);refine⟨r,(b2 r).2 (.inr ⟨hrm,λq hq e=>?_⟩),hrp⟩;obtain⟨p',a',rfl,ha',hc'⟩:=(hPS q).1 hq;have hpp':p'=p:=omQ;subst hpp';rw[ha]at ha';rw[Option.some.inj ha']at hc;exact hc hc'
 ·rcases(b2 r).1 hrm with⟨q,hq,rfl⟩ | ⟨hrm,hno2⟩
  ·obtain⟨p,a,rfl,ha,hc⟩:=(hPS q).1 hq;obtain⟨s1,s2,s3⟩:=Qcp hf p _ hno (hmk _ a ha).2.2;obtain⟨u1,u2,u3⟩:=Qlc (a.got.take a.marked) p;obtain⟨c,hcm,hcp⟩:=hc;obtain⟨v1,c',hc',hcp',v2⟩:=QfM (p:=(p:Int)) ⟨c,List.mem_of_mem_drop hcm,hcp⟩;obtain⟨_,_,e,he,hg1,hg2⟩:=hin _ a ha c' hc';rw[hV p a ha];refine⟨p,v1,by rw[u1,s1],by rw[u2,s2],by rw[u3,s3],e.key,(Qaz _ _).2 ⟨e,he,rfl⟩,?_⟩;rw[v2,hg2];have:(grp e.key).1=p:=omQ;rw[<-this]
  ·obtain⟨p,g1,g2,g3,g4,k,hk,hg⟩:=hr.2.2 r hrm;obtain⟨a,ha⟩:=hat p
   have hc:¬a.chgd p:=λhc=>hno2 (p:Int) ((hPS _).2 ⟨p,a,rfl,ha,hc⟩) g1
   obtain⟨s1,s2,s3⟩:=hsame p a ha hc;exact⟨p,g1,by rw[s1];exact g2,by rw[s2];exact g3,by rw[s3];exact g4,k,hkeys k hk,hg⟩
def RowM.toV(r:RowM):RowV:=⟨r.pt.toNat,r.tx,r.live.toNat,r.sum,r.ev⟩
theorem Qiw{f:ByteArray->Int}(h:∀k,0<=f k)(ks:List ByteArray):0<=sumK f ks:=by
 induction ks with
 | nil=>simp[sumK]
 | cons k ks ih=>simp only[sumK];have:=h k;omega
theorem Qfy(es:List Ev)(p:Nat):0<=tot fLive es p:=by
 unfold tot;refine Qiw (λk=>?_) _;split
 ·unfold fLive;split<;>omega
 ·omega
theorem RowsOk.are{es:List Ev}{rows:List RowM}(h:RowsOk es rows):RowsAre es (keysOf es) (rows.map RowM.toV)/\rowmCells rows=rowCells (rows.map RowM.toV):=by
 obtain⟨h1,h2,h3⟩:=h
 have hpt:∀r∈rows,r.pt=((r.toV.pt:Nat):Int):=λr hr=>by
  obtain⟨p,g1,_⟩:=h3 r hr;simp only[RowM.toV];omega
 have hlv:∀r∈rows,r.live=((r.toV.live:Nat):Int):=λr hr=>by
  obtain⟨p,_,g2,_⟩:=h3 r hr;have:=Qfy es p;simp only[RowM.toV];omega
 refine⟨⟨?_,λk hk=>?_,λr hr=>?_⟩,?_⟩
 ·rw[List.map_map]
  have hm:rows.map (·.pt)=(rows.map ((·.pt) ∘ RowM.toV)).map (λn:Nat=>(n:Int)):=by
   rw[List.map_map]
   exact List.map_congr_left λr hr=>hpt r hr
  rw[hm]at h1;rw[List.Nodup,List.pairwise_map]at h1
  exact h1.imp λhne e=>hne (by rw[e])
 ·have hm:(grp k).1∈ptsOf es:=(Qbj _ _).2 ⟨k,hk,rfl⟩;obtain⟨r,hr,hp⟩:=h2 _ hm;refine List.mem_map.2 ⟨r.toV,List.mem_map.2 ⟨r,hr,rfl⟩,?_⟩;have:=hpt r hr;omega
 ·obtain⟨x,hx,rfl⟩:=List.mem_map.1 hr;obtain⟨p,g1,g2,g3,g4,k,hk,hg⟩:=h3 x hx
  have hp:x.toV.pt=p:=by have:=hpt x hx;omega
  refine⟨?_,?_,?_,k,hk,?_⟩
  ·rw[<-hlv x hx,hp];exact g2
  ·rw[hp];exact g3
  ·rw[hp];exact g4
  ·rw[hp];exact hg
 ·unfold rowmCells rowCells;rw[List.flatMap_map]
  have:∀l:List RowM,(∀r∈l,r∈rows)->l.flatMap rowmCells1=l.flatMap λr=>rowCells1 r.toV:=by
   intro l
   induction l with
   | nil=>intro _;rfl
   | cons r l ih=>
    intro hl;rw[List.flatMap_cons,List.flatMap_cons,ih λx hx=>hl x (by simp[hx])];congr 1;unfold rowmCells1 rowCells1;rw[hpt r (hl r (by simp)),hlv r (hl r (by simp))]
    rfl
  exact this rows λr hr=>hr
def DB(c:ChgM):Prop:=-1<=c.live/\c.live<=1/\-70000<=c.delta/\c.delta<=70000
theorem QjW{l:List ChgM}(h:∀c∈l,DB c)(p:Int):-(l.length:Int)<=(rowM l p).live/\(rowM l p).live<=(l.length:Int)/\-(70000*(l.length:Int))<=(rowM l p).sum/\(rowM l p).sum<=70000*(l.length:Int):=by
 induction l using QaI with
 | h0=>simp[rowM]
 | h1 l c ih=>
  obtain⟨i1,i2,i3,i4⟩:=ih λx hx=>h x (by simp[hx])
  obtain⟨b1,b2,b3,b4⟩:=h c (by simp);rw[Qct];simp only[List.length_append,List.length_cons,List.length_nil];split
  ·simp only;omega
  ·omega
theorem Qm6{l:List ChgM}(h:∀c∈l,DB c)(hl:l.length<=10000)(p:Int):SumsIn l p:=λn=>by
 obtain⟨i1,i2,i3,i4⟩:=QjW (l:=l.take n) (λc hc=>h c (List.mem_of_mem_take hc)) p;have:=List.length_take_le' n l;omega
theorem Qmt{k:Kn}{e:Ev}(hk:KB k)(he:e.ok):DB (chgOf k e):=by
 have:=Qfs k e;refine⟨this.1,this.2,?_⟩;obtain⟨_,_,h3,h4⟩:=he;obtain⟨k1,k2,_⟩:=hk;unfold chgOf;simp only
 constructor<;>split<;>split<;>omega
theorem Qix(es:List Ev):∀pre,(∀e∈pre++es,e.ok)->(pre++es).length<=400->∀c∈outsFrom pre es,DB c:=by
 induction es with
 | nil=>intro pre _ _ c hc;simp[outsFrom]at hc
 | cons e es ih=>
  intro pre hok hl c hc;simp only[outsFrom,List.mem_append]at hc
  rcases hc with hc | hc
  ·split at hc
   ·simp only[List.mem_cons,List.not_mem_nil,or_false]at hc;rw[hc];refine Qmt (Qcg (λx hx=>hok x (by simp[hx])) (by simp at hl;omega)) (hok e (by simp))
   ·simp at hc
  ·exact ih (pre++[e]) (by simpa using hok) (by simpa using hl) c hc
end
end Go.Proofs.YthccpacmklhejabGreatDoor
