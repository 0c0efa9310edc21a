import Derived.Test.YthccpacmklhejaaGreatDoorTk
import Derived.Test.YthccpacmklhejaaGreatDoorK07
import Derived.Test.YthccpacmklhejaaGreatDoorK08
import Derived.Laws.MakeOwn
import Derived.Test.YthccpacmklhejaaGreatDoorK14
import Derived.Test.YthccpacmklhejaaGreatDoorK31
import Derived.Test.YthccpacmklhejaaGreatDoorK30
set_option maxHeartbeats 2000000
set_option maxRecDepth 100000
namespace Go.Proofs.YthccpacmklhejaaGreatDoor
section
open Go.RowKit
def sCells(ts:List (List UInt8)):List Value:=ts.map λt=>.string ⟨t.toArray⟩
theorem Tryz.infoStr:(Tryz.prog.info? 9).map (λi=>(i.zero,i.size,i.bytes))=some (some (.string ⟨#[]⟩),1,16):=by kernel_rfl
theorem Qk4(n:Nat):madeCells (Value.string ⟨#[]⟩).cells n=Array.replicate n (.string ⟨#[]⟩):=by
 apply Array.ext
 ·simp[madeCells]
 ·intro i h1 h2;simp[madeCells,Value.cells,Nat.mod_one]
theorem Qk5(w:World)(n:Nat)(hn:n<=1000):∃w',(∀kl kc,(Instr.makeSlice 135 (.int kl (n:Int)) (.int kc (n:Int))).run Tryz.prog w=.ok (.slice (some ⟨w.heap.size,0,none⟩) n n) w')/\w'.ownsRow w.heap.size 9 1 (.slice (some ⟨w.heap.size,0,none⟩) n n) n (sCells (List.replicate n []))/\Below w.heap.size w w':=by
 obtain⟨i,hi,hz,hs,hb⟩:=info_parts Tryz.infoStr;refine⟨w.alloc (.cells (madeCells (Value.string ⟨#[]⟩).cells n) 9),λkl kc=>?_,?_,(Below.refl _ _).alloc (Nat.le_refl _) _⟩
 ·have:=run_make (P:=Tryz.prog) w 135 9 i (.string ⟨#[]⟩) Tryz.underlying135 hi hz kl kc (n:Int) (n:Int) omQ (Int.le_refl _) (by rw[hb];omega) omQ;rw[hs]at this
  simpa using this
 ·refine⟨by simp[sCells],.inr ⟨w.heap.size,n,madeCells (Value.string ⟨#[]⟩).cells n,rfl,Nat.le_refl _,heap_alloc_new w _,Nat.le_refl _,by unfold maxLen;omega,by rw[size_madeCells];omega,?_⟩⟩;rw[Qk4];simp[sCells]
theorem Qm3{rs:List RowV}{j:Nat}(h:j<rs.length):rankR rs (rs[j]).pt<rs.length:=by
 unfold rankR;have h1:=List.countP_le_length (p:=λq:RowV=>decide (q.pt<(rs[j]).pt)) (l:=rs)
 rcases Nat.lt_or_eq_of_le h1 with h2 | h2
 ·exact h2
 ·have:=List.countP_eq_length.1 h2 rs[j] (List.getElem_mem h);simp at this
def cntK(rs:List RowV)(p k:Nat):Nat:=(rs.take k).countP (λq=>decide (q.pt<p))
theorem Qk6(rs:List RowV)(p k:Nat)(h:k<rs.length):cntK rs p (k+1)=cntK rs p k+(if(rs[k]).pt<p then 1 else 0):=by
 unfold cntK;rw[List.take_succ_eq_append_getElem h,List.countP_append];congr 1;simp[List.countP_cons]
theorem Qk7(rs:List RowV)(p:Nat):cntK rs p 0=0:=by simp[cntK]
theorem Qk8(rs:List RowV)(p:Nat):cntK rs p rs.length=rankR rs p:=by simp[cntK,rankR]
theorem Qm4(rs:List RowV)(p k:Nat):cntK rs p k<=k:=by
 unfold cntK;have h1:=List.countP_le_length (p:=λx:RowV=>decide (x.pt<p)) (l:=rs.take k);have h2:=List.length_take_le k rs;omega
theorem Qce(n:Int)(h1:-100000<=n)(h2:n<=100000):(decI n).length<=8:=by
 unfold decI;split
 ·have:=Qbg 6 (-n).toNat omQ;simp;omega
 ·have:=Qbg 6 n.toNat omQ;omega
def TB(r:RowV):Prop:=r.live<=1000/\r.ev<=1000000/\r.tx.size<=1000
theorem QfL{r:RowV}(h:TB r):(rowText r).length<=2000:=by
 unfold rowText;have h2:=Qce (r.live:Int) omQ (by have:=h.1;omega);have h3:=Qce (wrap16 r.sum) (by have:=QbZ r.sum;omega) (by have:=QbZ r.sum;omega);have h4:=Qce ((r.ev:Int) % 256) omQ omQ;have h5:=h.2.2;rw[<-Qam]at h5;simp only[List.length_append,List.length_cons,List.length_nil];omega
theorem Qhv{rs:List RowV}(h:∀r∈rs,TB r)(i:Nat):∀t∈placed rs i,t.length<=2000:=by
 have:∀(l:List RowV),(∀r∈l,TB r)->∀t∈l.foldl (λts r=>ts.set (rankR rs r.pt) (rowText r)) (List.replicate rs.length []),t.length<=2000:=by
  intro l
  induction l using QaI with
  | h0=>
   intro _ t ht;simp at ht
   simp[ht.2]
  | h1 l x ih=>
   intro hl t ht;rw[List.foldl_append]at ht
   rcases List.mem_or_eq_of_mem_set ht with ht | rfl
   ·exact ih (λr hr=>hl r (by simp[hr])) t ht
   ·exact QfL (hl x (by simp))
 exact this (rs.take i) λr hr=>h r (List.mem_of_mem_take hr)
theorem QeE:∀(ts:List (List UInt8)),(∀t∈ts,t.length<=2000)->ts.flatten.length<=2000*ts.length
 | [],_=>by simp
 | t :: ts,h=>by
  have:=QeE ts λx hx=>h x (by simp[hx])
  have:=h t (by simp);simp only[List.flatten_cons,List.length_append,List.length_cons];omega
theorem Qf8(B:Nat)(a:Option Addr)(c:Nat)(rs:List RowV)(w:World)(hlen:rs.length<=1000)(hown:w.ownsRow B 137 5 (.slice a rs.length c) rs.length (rowCells rs))(hb:∀r∈rs,TB r):
  Calls Tryz.prog 41 #[.slice a rs.length c] w λen w'=>en=.returned (.string ⟨((placed rs rs.length).flatten).toArray⟩)/\Below w.heap.size w w':=by
 have HR:=show Hid (w.ownsRow B 137 5 (.slice a rs.length c) rs.length (rowCells rs))from hown
 clear hown;obtain⟨w1,hmk,ho1,hb1⟩:=Qk5 w rs.length hlen
 have H0:=show Hid (_/\_)from And.intro ho1 hb1
 clear ho1 hb1;go_enter Tryz.func41,Tryz.ntmps41;go_wp2;clear hmk
 go_loopw [4] (λi wr=>∃j:Nat,j<=rs.length/\i=.int .i64 (j:Int)/\wr.ownsRow w.heap.size 9 1 (.slice (some ⟨w.heap.size,0,none⟩) rs.length rs.length) rs.length (sCells (placed rs j))/\Below w.heap.size w wr) (λi _=>rs.length-(intOf i).toNat)
 case atStart=>exact⟨0,Nat.zero_le _,rfl,H0.out.1,H0.out.2⟩
 case round=>
  obtain⟨j,hj,rfl,hor,hbr⟩:=hrel;clear H0
  have HO:=show Hid (_/\_)from And.intro hor hbr
  have HRr:=show Hid _ from λ(_:Unit)=>Qao HR.out hbr
  clear hor hbr
  by_cases hjl:j<rs.length
  ·have hji:(j:Int)<(rs.length:Int):=omQ;have hj0:(0:Int)<=(j:Int):=omQ
   rcases Qai HR.out with⟨_,h0⟩ | ⟨g,rfl⟩
   ·omega
   have hcell:∀k (hk:k<rs.length) q,wr.cell? ⟨g,k*5+q,none⟩=(rowCells1 rs[k])[q]? \/¬q<5:=by
    intro k hk q
    by_cases hq:q<5
    ·exact .inl (((HRr.out ()).cellAt (k*5+q) omQ).trans (QbO rs k hk q hq))
    ·exact .inr hq
   have Hc:=hdQ hcell;clear hcell;have c0:wr.cell? ⟨g,j*5,none⟩=some (.int .i64 ((rs[j]'hjl).pt:Int)):=(Hc.out j hjl 0).resolve_right (by simp);go_wp2
   go_loopw [5,6] (λm k wq=>∃(kk:Nat),kk<=rs.length/\k=.int .i64 (kk:Int)/\m=.int .i64 ((cntK rs (rs[j]'hjl).pt kk:Nat):Int)/\∃q,wq=wr.drewN q) (λ_ k _=>rs.length-(intOf k).toNat)
   case atStart=>exact⟨0,Nat.zero_le _,rfl,by rw[Qk7];rfl,0,rfl⟩
   case round=>
    obtain⟨kk,hk,rfl,rfl,q,rfl⟩:=hrel
    by_cases hkl:kk<rs.length
    ·have hki:(kk:Int)<(rs.length:Int):=omQ;have hk0:(0:Int)<=(kk:Int):=omQ;have d0:wr.cell? ⟨g,kk*5,none⟩=some (.int .i64 ((rs[kk]'hkl).pt:Int)):=(Hc.out kk hkl 0).resolve_right (by simp);have hsu:=Qk6 rs (rs[j]'hjl).pt kk hkl;have hcl:=Qm4 rs (rs[j]'hjl).pt kk
     by_cases hlt:(rs[kk]'hkl).pt<(rs[j]'hjl).pt
     ·have hlti:((rs[kk]'hkl).pt:Int)<((rs[j]'hjl).pt:Int):=omQ;rw[if_pos hlt]at hsu;have Hsu:=hdQ hsu;clear hsu hlt;go_wp2
      go_quiet (fail)
      go_wp2
      go_roundw
      case rel=>exact⟨kk+1,by omega,by go_num,by rw[Hsu.out];go_num,q+nq,by simp[World.drewN]⟩
      case measure=>simp[intOf];omega
     ·have hlti:¬(((rs[kk]'hkl).pt:Int)<((rs[j]'hjl).pt:Int)):=omQ;rw[if_neg hlt]at hsu;have Hsu:=hdQ hsu;clear hsu hlt;go_wp2
      go_quiet (fail)
      go_wp2
      go_roundw
      case rel=>exact⟨kk+1,by omega,by go_num,by rw[Hsu.out];rfl,q+nq,by simp[World.drewN]⟩
      case measure=>simp[intOf];omega
    ·have hkk:kk=rs.length:=omQ;subst hkk;rw[Qk8];have hrl:=Qm3 hjl;have hpl:=QhL rs j hjl;have hbj:=hb _ (List.getElem_mem hjl);have c1:(wr.drewN q).cell? ⟨g,j*5,none⟩=some (.int .i64 ((rs[j]'hjl).pt:Int)):=c0;have c2:(wr.drewN q).cell? ⟨g,j*5+1,none⟩=some (.string (rs[j]'hjl).tx):=(Hc.out j hjl 1).resolve_right (by simp);have c3:(wr.drewN q).cell? ⟨g,j*5+2,none⟩=some (.int .i64 ((rs[j]'hjl).live:Int)):=(Hc.out j hjl 2).resolve_right (by simp);have c4:(wr.drewN q).cell? ⟨g,j*5+3,none⟩=some (.int .i64 (rs[j]'hjl).sum):=(Hc.out j hjl 3).resolve_right (by simp);have c5:(wr.drewN q).cell? ⟨g,j*5+4,none⟩=some (.int .i64 ((rs[j]'hjl).ev:Int)):=(Hc.out j hjl 4).resolve_right (by simp)
     have HOq:=show Hid (_/\_)from And.intro (Qdm HO.out.1 q) (below_drewN HO.out.2 q)
     clear c0 HO Hc HRr;generalize wr.drewN q=wq at c1 c2 c3 c4 c5 HOq ⊢;generalize rankR rs (rs[j]'hjl).pt=n at hrl hpl ⊢;generalize rs[j]'hjl=r at c1 c2 c3 c4 c5 hpl hbj;obtain⟨rp,rt,rl,rsm,re⟩:=r;obtain⟨b1,b2,b3⟩:=hbj;simp only at c1 c2 c3 c4 c5 b1 b2 b3
     have hfin:((((((rt++⟨#[32]⟩++⟨(decI (rl:Int)).toArray⟩)++⟨#[32]⟩)++⟨(decI (wrap16 rsm)).toArray⟩)++⟨#[32]⟩)++⟨(decI ((re:Int) % 256)).toArray⟩)++⟨#[59]⟩)=(⟨(rowText ⟨rp,rt,rl,rsm,re⟩).toArray⟩:ByteArray):=by
      apply QcI;unfold rowText;simp
     have Hfin:=hdQ hfin;clear hfin;have hwr:=QbZ rsm
     have h1:=show Hid _ from λw=>Qc5 (rl:Int) w omQ omQ
     have h2:=show Hid _ from λw=>Qc5 (wrap16 rsm) w omQ omQ
     have h3:=show Hid _ from λw=>Qc5 ((re:Int) % 256) w omQ omQ
     have hW:=show Hid _ from λw=>QgJ rsm w
     have hL:=Qce (rl:Int) omQ omQ;have hSl:=Qce (wrap16 rsm) omQ omQ;have hV:=Qce ((re:Int) % 256) omQ omQ;have hq:(re:Int).tmod 256=(re:Int) % 256:=Int.tmod_eq_emod_of_nonneg omQ;generalize decI (rl:Int)=L at hL h1 Hfin;generalize decI (wrap16 rsm)=S0 at hSl h2 Hfin;generalize decI ((re:Int) % 256)=V at hV h3 Hfin
     have hLs:(⟨L.toArray⟩:ByteArray).size=L.length:=by simp[ByteArray.size]
     have hSs:(⟨S0.toArray⟩:ByteArray).size=S0.length:=by simp[ByteArray.size]
     have hVs:(⟨V.toArray⟩:ByteArray).size=V.length:=by simp[ByteArray.size]
     have h32:(⟨#[32]⟩:ByteArray).size=1:=rfl;have h59:(⟨#[59]⟩:ByteArray).size=1:=rfl;generalize(⟨L.toArray⟩:ByteArray)=BL at hLs h1 Hfin;generalize(⟨S0.toArray⟩:ByteArray)=BS at hSs h2 Hfin;generalize(⟨V.toArray⟩:ByteArray)=BV at hVs h3 Hfin;have Hpl:=hdQ hpl;clear hpl;have hni:(n:Int)<(rs.length:Int):=omQ;have hn0:(0:Int)<=(n:Int):=omQ;have HO:=HOq;clear HOq;go_wp2;clear c1 c2 c3 c4 c5;have hS0:(wq.alloc (.cells #[.int .i64 (rp:Int),.string rt,.int .i64 (rl:Int),.int .i64 rsm,.int .i64 (re:Int)] 137)).drew.heap[wq.heap.size]? =some (.cells #[.int .i64 (rp:Int),.string rt,.int .i64 (rl:Int),.int .i64 rsm,.int .i64 (re:Int)] 137 (0,0)):=heap_alloc_new wq _
     have HO2:=show Hid (_/\_)from And.intro (QcK (HO.out.1.alloc (.cells #[.int .i64 (rp:Int),.string rt,.int .i64 (rl:Int),.int .i64 rsm,.int .i64 (re:Int)] 137))) (HO.out.2.alloc (by have:=HO.out.2.size;omega) (.cells #[.int .i64 (rp:Int),.string rt,.int .i64 (rl:Int),.int .i64 rsm,.int .i64 (re:Int)] 137)).drew
     have hrb:w.heap.size<wq.heap.size:=(Qbt HO.out.1).2;clear HO;refine wp_region_held_drew (S:=λw':World=>w'.heap[wq.heap.size]? =some (.cells #[.int .i64 (rp:Int),.string rt,.int .i64 (rl:Int),.int .i64 rsm,.int .i64 (re:Int)] 137 (0,0))) krQ hS0 (λhH=>?_);generalize(wq.alloc (.cells #[.int .i64 (rp:Int),.string rt,.int .i64 (rl:Int),.int .i64 rsm,.int .i64 (re:Int)] 137)).drew=wd at HO2 hH ⊢;clear hS0;generalize wq.heap.size=rb at hH hrb ⊢;refine tkQ 0 (.slice (some ⟨w.heap.size,0,none⟩) rs.length rs.length) hH ?_;refine tkQ 1 (.int .i64 (n:Int)) hH ?_;refine tkQ 2 (.pointer (some ⟨rb,1,none⟩)) hH ?_;refine tlQ 3 (.string rt) rfl (by intro v hSw;have s0:v.cell? ⟨rb,1,none⟩=some (.string rt):=Qaa hSw 1;clear hSw;go_simp) hH ?_;refine tlQ 4 (.string (rt++⟨#[32]⟩)) rfl (by intro v hSw;clear hSw;go_simp;omega) hH ?_;refine tkQ 5 (.pointer (some ⟨rb,2,none⟩)) hH ?_;refine tlQ 6 (.int .i64 (rl:Int)) rfl (by intro v hSw;have s0:v.cell? ⟨rb,2,none⟩=some (.int .i64 (rl:Int)):=Qaa hSw 2;clear hSw;go_simp) hH ?_;refine tkQ 10 (.pointer (some ⟨rb,3,none⟩)) hH ?_;refine tlQ 11 (.int .i64 rsm) rfl (by intro v hSw;have s0:v.cell? ⟨rb,3,none⟩=some (.int .i64 rsm):=Qaa hSw 3;clear hSw;go_simp) hH ?_;refine tkQ 16 (.pointer (some ⟨rb,4,none⟩)) hH ?_;refine tlQ 17 (.int .i64 (re:Int)) rfl (by intro v hSw;have s0:v.cell? ⟨rb,4,none⟩=some (.int .i64 (re:Int)):=Qaa hSw 4;clear hSw;go_simp) hH ?_;refine tkQ 18 (.int .i64 ((re:Int) % 256)) hH ?_;refine rdQ [7] ?_
     refine arQ λK hK=>?_
     have HS:=show Hid (_=_)from hH
     clear hH;go_simp
     go_wp2_with(go_at_call 67;refine(h1.out _).mono ?_;rintro en w2 ⟨rfl,mw2,rfl⟩)
     refine hK.out _ _ HS.out (λhH=>?_);clear hK K HS;refine tlQ 8 (.string (rt++⟨#[32]⟩++BL)) rfl (by intro v hSw;clear hSw;go_simp;omega) hH ?_;refine tlQ 9 (.string (rt++⟨#[32]⟩++BL++⟨#[32]⟩)) rfl (by intro v hSw;clear hSw;go_simp;omega) hH ?_;refine rdQ [12] ?_
     refine arQ λK hK=>?_
     have HS:=show Hid (_=_)from hH
     clear hH;go_simp
     go_wp2_with(go_at_call 68;refine(hW.out _).mono ?_;rintro en w3 ⟨rfl,rfl⟩)
     refine hK.out _ _ HS.out (λhH=>?_);clear hK K HS;refine rdQ [13] ?_
     refine arQ λK hK=>?_
     have HS:=show Hid (_=_)from hH
     clear hH;go_simp
     go_wp2_with(go_at_call 67;refine(h2.out _).mono ?_;rintro en w4 ⟨rfl,mw4,rfl⟩)
     refine hK.out _ _ HS.out (λhH=>?_);clear hK K HS;refine tlQ 14 (.string (rt++⟨#[32]⟩++BL++⟨#[32]⟩++BS)) rfl (by intro v hSw;clear hSw;go_simp;omega) hH ?_;refine tlQ 15 (.string (rt++⟨#[32]⟩++BL++⟨#[32]⟩++BS++⟨#[32]⟩)) rfl (by intro v hSw;clear hSw;go_simp;omega) hH ?_;refine rdQ [19] ?_
     refine arQ λK hK=>?_
     have HS:=show Hid (_=_)from hH
     clear hH;go_simp
     go_wp2_with(go_at_call 67;refine(h3.out _).mono ?_;rintro en w5 ⟨rfl,mw5,rfl⟩)
     refine hK.out _ _ HS.out (λhH=>?_);clear hK K HS;refine tlQ 20 (.string (rt++⟨#[32]⟩++BL++⟨#[32]⟩++BS++⟨#[32]⟩++BV)) rfl (by intro v hSw;clear hSw;go_simp;omega) hH ?_;refine tlQ 21 (.string (rt++⟨#[32]⟩++BL++⟨#[32]⟩++BS++⟨#[32]⟩++BV++⟨#[59]⟩)) rfl (by intro v hSw;clear hSw;go_simp;omega) hH ?_;refine tkQ 22 (.pointer (some ⟨w.heap.size,n,none⟩)) hH ?_;refine rdQ [23] ?_
     refine arQ λK hK=>?_
     have HS:=show Hid (_=_)from hH
     clear hH
     have HO3:=show Hid (_/\_)from And.intro (Qdm HO2.out.1 (mw2+mw4+mw5)) (below_drewN HO2.out.2 (mw2+mw4+mw5))
     clear HO2 h1 h2 h3 hW;generalize wd.drewN (mw2+mw4+mw5)=wx at HO3 HS ⊢;have hr1:=HO3.out.1.stored n (.string (rt++⟨#[32]⟩++BL++⟨#[32]⟩++BS++⟨#[32]⟩++BV++⟨#[59]⟩))
     have he:(sCells (placed rs j)).set n (.string (rt++⟨#[32]⟩++BL++⟨#[32]⟩++BS++⟨#[32]⟩++BV++⟨#[59]⟩))=sCells (placed rs (j+1)):=by
      rw[Hpl.out,Hfin.out];unfold sCells;rw[List.map_set]
     rw[he]at hr1
     obtain⟨u,hu⟩:∃u,(sCells (placed rs j))[n]? =some u:=⟨_,List.getElem?_eq_getElem (by unfold sCells;rw[List.length_map,QbR];omega)⟩
     have s0:wx.cell? ⟨w.heap.size,n,none⟩=some u:=(HO3.out.1.cellAt n omQ).trans hu;have z0:wx.frozen? ⟨w.heap.size,n,none⟩=false:=HO3.out.1.frozenAt n
     have HN:=show Hid (_/\_/\_)from And.intro hr1.1 (And.intro (HO3.out.2.setCell (p:=⟨w.heap.size,n,none⟩) (Nat.le_refl _) (.string (rt++⟨#[32]⟩++BL++⟨#[32]⟩++BS++⟨#[32]⟩++BV++⟨#[59]⟩))) ((hr1.2.block rb (Qac HS.out) (by simp only[ne_eq,Option.some.injEq];omega)).trans HS.out))
     clear hr1 he hu HO3 HS Hpl Hfin;go_simp;refine hK.out _ _ HN.out.2.2 (λhH=>?_);clear hK K hH s0 z0;refine wpAnyH_done krQ ?_ _;generalize wx.setCell ⟨w.heap.size,n,none⟩ (.string (rt++⟨#[32]⟩++BL++⟨#[32]⟩++BS++⟨#[32]⟩++BV++⟨#[59]⟩))=wy at HN ⊢;go_wp2
     go_roundw
     case rel=>exact⟨j+1,by omega,by go_num,HN.out.1,HN.out.2.1⟩
     case measure=>simp[intOf];omega
  ·have hjj:j=rs.length:=omQ;subst hjj;have hpb:=Qhv hb rs.length;have hpn:=QbR rs rs.length
   obtain⟨ts,hts⟩:∃ts,placed rs rs.length=ts:=⟨_,rfl⟩
   rw[hts]at HO hpb hpn;have Hts:=hdQ hts;clear hts;clear HR HRr
   have hoc:∀k (hk:k<ts.length),wr.cell? ⟨w.heap.size,k,none⟩=some (.string ⟨ts[k].toArray⟩):=by
    intro k hk;refine(HO.out.1.cellAt k omQ).trans ?_;unfold sCells;rw[List.getElem?_map,List.getElem?_eq_getElem hk]
    rfl
   have Hoc:=hdQ hoc;clear hoc;go_wp2
   go_loopw [8,9] (λt i wv=>∃(k:Nat) (tx:ByteArray),k<=rs.length/\i=.int .i64 (k:Int)/\t=.string tx/\Hid (tx.data.toList=(ts.take k).flatten)/\wv=wr) (λ_ i _=>rs.length-(intOf i).toNat)
   case atStart=>exact⟨0,⟨#[]⟩,Nat.zero_le _,rfl,rfl,by show _=_;simp,rfl⟩
   case round=>
    obtain⟨k,tx,hk,rfl,rfl,htx,rfl⟩:=hrel
    by_cases hkl:k<rs.length
    ·have hkt:k<ts.length:=omQ;have c0:=Hoc.out k hkt;have hl:=hpb _ (List.getElem_mem hkt)
     have hsz:tx.size<=2000*1000:=by
      rw[<-Qam,htx.out]
      have h1:=QeE (ts.take k) λx hx=>hpb x (List.mem_of_mem_take hx)
      have h2:=List.length_take_le k ts;omega
     have hnx:(ts.take (k+1)).flatten=(ts.take k).flatten++ts[k]'hkt:=by
      rw[List.take_succ_eq_append_getElem hkt,List.flatten_append];simp
     have Hnx:=hdQ hnx;clear hnx;generalize ts[k]'hkt=L at c0 hl Hnx
     have hLs:(⟨L.toArray⟩:ByteArray).size=L.length:=by simp[ByteArray.size]
     have hLl:(⟨L.toArray⟩:ByteArray).data.toList=L:=by simp
     generalize(⟨L.toArray⟩:ByteArray)=BL at hLs hLl c0;have hki:(k:Int)<(rs.length:Int):=omQ;have hk0:(0:Int)<=(k:Int):=omQ;go_wp2
     go_roundw
     case rel=>exact⟨k+1,tx++BL,by omega,by go_num,rfl,by show _=_;rw[Hnx.out,ByteArray.data_append,Array.toList_append,htx.out,hLl],by first | trivial | rfl⟩
     case measure=>simp[intOf];omega
    ·have hkk:k=rs.length:=omQ
     have Ht:=show Hid (tx=⟨(ts.flatten).toArray⟩)from by
      show _=_
      apply QcI;rw[htx.out,hkk,<-hpn,List.take_length]
     go_wp2;go_ret;exact⟨by rw[Hts.out,<-Ht.out];rfl,HO.out.2⟩
theorem Qm5{es:List Ev}(hok:∀e∈es,e.ok)(hk:∀e∈es,0<e.key.size/\e.key.size<=1000)(hl:es.length<=400):∀r∈rowsTo es es.length,TB r:=by
 intro r hr;obtain⟨h1,_,_,h4⟩:=QbQ hok hl es.length r hr;obtain⟨_,_,hA⟩:=Qb1 es es.length (Nat.le_refl _);obtain⟨_,_,_,k,hkm,hg⟩:=hA r hr;rw[List.take_length]at hkm;obtain⟨e,he,rfl⟩:=(Qaz _ _).1 hkm;refine⟨by omega,by omega,?_⟩
 have ht:r.tx=(grp e.key).2:=by rw[hg]
 rw[ht];unfold grp;simp only;rw[<-Qam,QaA,List.length_take,List.length_drop,Qam];have:=hk e he;omega
theorem QjQ(s:ByteArray)(n:Int)(w:World)(h:400<s.size):
  Calls Tryz.prog 20 #[.string s,.int .i64 n] w λen w'=>en=.returned (.tuple #[.string ⟨#[]⟩,.int .i64 1])/\Below w.heap.size w w':=by
 go_enter Tryz.func20,Tryz.ntmps20
 go_wp2_with(go_at_call 34;refine(QcJ s _ h).mono ?_;rintro e w1 ⟨rfl,hb⟩)
 go_ret2
 exact⟨rfl,hb⟩
theorem Qk9(s:ByteArray)(n:Int)(w:World)(h:s.size<=400)(es:List Ev)(m:Nat)(hp:Parsed s es m)(hn:n<0\/(es.length:Int)<n):
  Calls Tryz.prog 20 #[.string s,.int .i64 n] w λen w'=>en=.returned (.tuple #[.string ⟨#[]⟩,.int .i64 3])/\Below w.heap.size w w':=by
 have hD:=show Hid _ from λw=>Qbq s w h
 by_cases h0:n<0
 ·have h0d:decide (n<0)=true:=decide_eq_true h0;clear hn;go_enter Tryz.func20,Tryz.ntmps20
  go_wp2_with(go_at_call 34;refine(hD.out _).mono ?_;rintro e w1 ⟨v,es',m',r,rfl,hP,hown,hb⟩;obtain⟨rfl,rfl⟩:=Parsed.unique hp hP.out.1;have hr:((r:Int)==1)=false:=(by rw[hP.out.2];exact Qbh s m);obtain⟨a,c,rfl⟩:=Qaf hown)
  go_ret2
  exact⟨rfl,hb⟩
 ·have h1:(es.length:Int)<n:=omQ;clear hn;go_enter Tryz.func20,Tryz.ntmps20
  go_wp2_with(go_at_call 34;refine(hD.out _).mono ?_;rintro e w1 ⟨v,es',m',r,rfl,hP,hown,hb⟩;obtain⟨rfl,rfl⟩:=Parsed.unique hp hP.out.1;have hr:((r:Int)==1)=false:=(by rw[hP.out.2];exact Qbh s m);obtain⟨a,c,rfl⟩:=Qaf hown)
  go_ret2
  exact⟨rfl,hb⟩
theorem Qmo(s:ByteArray)(k:Nat)(w:World)(h:s.size<=400)(es:List Ev)(m:Nat)(hp:Parsed s es m)(hk:k<=es.length):
  Calls Tryz.prog 20 #[.string s,.int .i64 (k:Int)] w λen w'=>en=.returned (.tuple #[.string ⟨(foldB (es.take k)).toArray⟩,.int .i64 0])/\Below w.heap.size w w':=by
 have hD:=show Hid _ from λw=>Qbq s w h
 have h0:¬((k:Int)<0):=omQ;have h1:¬((es.length:Int)<(k:Int)):=omQ;have hf:=hp.few;have hg:=QcC hp.good
 have hlk:(es.take k).length=k:=by rw[List.length_take];omega
 have hga:∀e∈es.take k,e.ok:=λe he=>hg.1 e (List.mem_of_mem_take he)
 have hgk:∀e∈es.take k,0<e.key.size/\e.key.size<=1000:=λe he=>hg.2.2 e (List.mem_of_mem_take he)
 have hTB:=Qm5 hga hgk omQ
 have hrl:(rowsTo (es.take k) (es.take k).length).length<=1000:=by
  have:=QcS (es.take k) (es.take k).length;omega
 have HR:Hid (∀(a:Option Addr) (c:Nat) (w1:World),w1.ownsRow w.heap.size 41 4 (.slice a es.length c) es.length (evCells es)->Calls Tryz.prog 42 #[.slice a k c] w1 λen w'=>∃(v:Value),en=.returned v/\w'.ownsRow w1.heap.size 137 5 v (rowsTo (es.take k) (es.take k).length).length (rowCells (rowsTo (es.take k) (es.take k).length))/\Below w1.heap.size w1 w'):=by
  intro a c w1 ho;have:=QlH a c (es.take k) w1 omQ (Qd3 ho hg.1 k hk) hgk;rw[hlk]at this ⊢;exact this
 have hfo:=QhM (es:=es.take k) (λe he=>hg.2.1 e (List.mem_of_mem_take he))
 obtain⟨F,hF⟩:∃F:ByteArray,⟨(foldB (es.take k)).toArray⟩=F:=⟨_,rfl⟩
 rw[hF];rw[<-hfo]at hF;generalize rowsTo (es.take k) (es.take k).length=rs at HR hTB hrl hF
 have HT:Hid (∀(B:Nat) (a:Option Addr) (c:Nat) (w:World),w.ownsRow B 137 5 (.slice a rs.length c) rs.length (rowCells rs)->Calls Tryz.prog 41 #[.slice a rs.length c] w λen w'=>en=.returned (.string F)/\Below w.heap.size w w'):=by
  intro B a c w ho;have:=Qf8 B a c rs w hrl ho hTB;rw[hF]at this;exact this
 clear hg hf hfo hF hTB hga hgk hlk hrl;go_enter Tryz.func20,Tryz.ntmps20
 go_wp2_with(first
  | (go_at_call 34;refine(hD.out _).mono ?_;rintro e w1 ⟨v,es',m',r,rfl,hP,hown,hb⟩;obtain⟨rfl,rfl⟩:=Parsed.unique hp hP.out.1;have hr:((r:Int)==1)=false:=(by rw[hP.out.2];exact Qbh s m);obtain⟨a,c,rfl⟩:=Qaf hown;have hcp:=Qdp hown;have hkc:(k:Int)<=(c:Int):=omQ;have hk0:(0:Int)<=(k:Int):=omQ;have Ho:=show Hid (_/\_)from And.intro hown hb;clear hown hb hP)
  | (go_at_call 42;refine(HR.out a c w1 Ho.out.1).mono ?_;rintro e w2 ⟨v2,rfl,ho2,hb2⟩;obtain⟨a2,c2,rfl⟩:=Qaf ho2)
  | (go_at_call 41;refine(HT.out _ a2 c2 w2 ho2).mono ?_;rintro e w3 ⟨rfl,hb3⟩))
 all_goals go_ret2
 all_goals exact⟨rfl,(Ho.out.2.trans (hb2.mono Ho.out.2.size)).trans (hb3.mono (Nat.le_trans Ho.out.2.size hb2.size))⟩
theorem Qla(s:ByteArray)(n:Int):∃(t:ByteArray) (r:Nat),(∀w,Tab w->Calls Tryz.prog 19 #[.string s,.int .i64 n] w λen w'=>en=.returned (.tuple #[.string t,.int .i64 (r:Int)])/\Below w.heap.size w w')/\
  (∀w,Calls Tryz.prog 20 #[.string s,.int .i64 n] w λen w'=>en=.returned (.tuple #[.string t,.int .i64 (r:Int)])/\Below w.heap.size w w'):=by
 by_cases h:400<s.size
 ·exact⟨⟨#[]⟩,1,λw _=>QeU (QkA s n w h),λw=>QjQ s n w h⟩
 ·obtain⟨es,m,hp⟩:=QdT s
  by_cases hn:n<0\/(es.length:Int)<n
  ·exact⟨⟨#[]⟩,3,λw _=>QeU (QlU s n w omQ es m hp hn),λw=>Qk9 s n w omQ es m hp hn⟩
  ·obtain⟨k,rfl⟩:∃k:Nat,n=(k:Int):=⟨n.toNat,by omega⟩
   exact⟨⟨(foldB (es.take k)).toArray⟩,0,λw ht=>QeU (QmN s k w omQ es m hp omQ ht),λw=>Qmo s k w omQ es m hp omQ⟩
theorem Qit(W:World)(wb:Nat)(a b c d:Int)(s:ByteArray)(e:Ev)(ht:Tab W):
  Calls Tryz.prog 11 #[.pointer (some ⟨wb,0,none⟩),.agg #[.int .i64 3,.int .i64 a,.int .i64 b,.string s,.int .u8 (e.op:Int),.string e.key,.int .u16 (e.seq:Int),.int .i16 e.val,.int .i64 c,.int .i64 d]] W λen w'=>en=.returned (.bool true)/\Below W.heap.size W w':=by
 obtain⟨t,r,hC,hR⟩:=Qla s a;have hN:=hdQ Qcc;obtain⟨op,key,seq,val⟩:=e
 have HC:=show Hid _ from λ(_:Unit)=>hC (W.alloc (.cells #[.int .i64 3,.int .i64 a,.int .i64 b,.string s,.int .u8 (op:Int),.string key,.int .u16 (seq:Int),.int .i16 val,.int .i64 c,.int .i64 d] 43)) (ht.old ((Below.refl _ _).alloc (Nat.le_refl _) _))
 have HR:=hdQ hR;clear hC hR ht;go_enter Tryz.func11,Tryz.ntmps11
 go_wp2_with(first
  | (go_at_call 19;refine(HC.out ()).mono ?_;rintro en w1 ⟨rfl,hb1⟩;have hx:=(hb1.block W.heap.size (by simp)).trans (heap_alloc_new W _);have c1:w1.cell? ⟨W.heap.size,1,none⟩=some (.int .i64 a):=Qad hx 1;have c3:w1.cell? ⟨W.heap.size,3,none⟩=some (.string s):=Qad hx 3;have hB1:Below W.heap.size W w1:=((Below.refl _ _).alloc (Nat.le_refl _) _).trans (hb1.mono (by simp));clear hx hb1)
  | (go_at_call 20;refine(HR.out _).mono ?_;rintro en w2 ⟨rfl,hb2⟩)
  | (go_at_call 15;refine(hN.out _ _).mono ?_;rintro en w3 ⟨rfl,rfl⟩))
 go_ret;exact⟨rfl,hB1.trans (hb2.mono hB1.size)⟩
section
variable {f:Owners} {w:World} {B k jb:Nat} {sb ab:List Nat} {j:JobM}
theorem RJob.wayS(h:RJob f w B k jb sb ab j)(i:Nat)(hi:i<sb.length)(hi':i<j.sorters.length):∃g1 cs' qa qc,w.cell? ⟨jb,4,none⟩=some (.slice (some ⟨g1,0,none⟩) j.width cs')/\w.cell? ⟨g1,i,none⟩=some (.pointer (some ⟨sb[i],0,none⟩))/\w.cell? ⟨sb[i],1,none⟩=some (.slice qa (j.sorters[i]).pipe.length qc)/\qRow w B 3 1 (.slice qa (j.sorters[i]).pipe.length qc) (j.sorters[i]).pipe.length ((j.sorters[i]).pipe.map (Value.int .i64)):=by
 obtain⟨g1,cs',vp,a1,a2,a3,_⟩:=h.pipeC i hi hi';obtain⟨ho,vg,vq,hb,hg,og,hp,op⟩:=h.sorters i hi hi';have h3:w.cell? ⟨sb[i],1,none⟩=some vq:=Qad hb 1;obtain⟨qa,qc,rfl⟩:=hp.shape;exact⟨g1,cs',qa,qc,a1,a2,h3,hp⟩
theorem Qiu(h:RJob f w B k jb sb ab j)(i:Nat)(hi:i<j.width)(hi':i<j.sorters.length)(hp:(j.sorters[i]).pipe=[]):
  Calls Tryz.prog 45 #[.pointer (some ⟨jb,0,none⟩),.int .i64 (i:Int)] w λen w'=>en=.returned (.int .i64 8)/\RAfter f w B k jb sb ab j w':=by
 have hib:i<sb.length:=by have:=h.lenS;omega
 obtain⟨g1,cs',qa,qc,c4,d1,d2,hq⟩:=h.wayS i hib hi'
 have HR:=show Hid (RAfter f w B k jb sb ab j w)from⟨f,h,FrmO.refl _ _ _,Same.refl _ _⟩
 rw[hp]at d2;clear h hq hp;generalize sb[i]=b1 at d1 d2;have h1:(i:Int)<(j.width:Int):=omQ;have h2:(0:Int)<=(i:Int):=omQ;generalize j.width=W at c4 h1;have d2':w.cell? ⟨b1,1,none⟩=some (.slice qa 0 qc):=d2;clear d2;go_enter Tryz.func45,Tryz.ntmps45;go_wp2;go_ret;exact⟨rfl,HR.out⟩
end
end
end Go.Proofs.YthccpacmklhejaaGreatDoor
