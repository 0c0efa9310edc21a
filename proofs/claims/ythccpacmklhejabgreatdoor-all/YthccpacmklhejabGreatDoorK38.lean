import Derived.Test.YthccpacmklhejabGreatDoorTk
import Derived.Test.YthccpacmklhejabGreatDoorK35
import Derived.Test.YthccpacmklhejabGreatDoorK37
import Derived.Test.YthccpacmklhejabGreatDoorK32
set_option maxHeartbeats 8000000
set_option maxRecDepth 100000
namespace Go.Proofs.YthccpacmklhejabGreatDoor
section
open Go.RowKit
theorem Tryz.infoPS:(Tryz.prog.info? 73).map (λi=>(i.zero,i.size,i.bytes))=some (some (.pointer none),1,8):=by kernel_rfl
theorem Tryz.infoPA:(Tryz.prog.info? 76).map (λi=>(i.zero,i.size,i.bytes))=some (some (.pointer none),1,8):=by kernel_rfl
theorem Qel(b:Nat):∀u∈[Value.pointer (some ⟨b,0,none⟩)],u.oneCell'=true:=by
 intro u hu;simp only[List.mem_cons,List.not_mem_nil,or_false]at hu;rw[hu]
 rfl
theorem Qlm(w:World)(cw cr:Int)(s:ByteArray)(h:400<s.size):
  Calls Tryz.prog 9 #[.agg #[.int .i64 cw,.int .i64 cr],.string s] w λen w'=>en=.returned (.tuple #[.pointer none,.int .i64 1])/\Below w.heap.size w w':=by
 have HD:=show Hid _ from λw=>QcJ s w h
 go_enter Tryz.func9,Tryz.ntmps9
 go_wp2_with(go_at_call 14;refine(HD.out _).mono ?_;rintro e w1 ⟨rfl,hb⟩)
 go_ret2
 exact⟨rfl,((Below.refl w.heap.size w).alloc (Nat.le_refl _) _).trans (hb.mono (by simp))⟩
theorem Qmw(w:World)(cw cr:Int)(s:ByteArray)(h:s.size<=400)(hc:cw<1\/4<cw\/cr<1\/4<cr):
  Calls Tryz.prog 9 #[.agg #[.int .i64 cw,.int .i64 cr],.string s] w λen w'=>en=.returned (.tuple #[.pointer none,.int .i64 2])/\Below w.heap.size w w':=by
 have HD:=show Hid _ from λw=>Qbq s w h
 have hcase:(cw<1)\/(¬cw<1/\4<cw)\/(¬cw<1/\¬4<cw/\cr<1)\/(¬cw<1/\¬4<cw/\¬cr<1/\4<cr):=omQ;clear hc
 rcases hcase with h1 | ⟨h1,h2⟩ | ⟨h1,h2,h3⟩ | ⟨h1,h2,h3,h4⟩
 all_goals
  go_enter Tryz.func9,Tryz.ntmps9
  go_wp2_with(go_at_call 14;refine(HD.out _).mono ?_;rintro e w1 ⟨v,es',m',r,rfl,hP,hown,hb⟩;have hr:((r:Int)==1)=false:=(by rw[hP.out.2];exact Qbh s m');obtain⟨a,c,rfl⟩:=Qaf hown;have hx:=(hb.block w.heap.size (by simp)).trans (heap_alloc_new w _);have x0:w1.cell? ⟨w.heap.size,0,none⟩=some (.int .i64 cw):=Qad hx 0;have x1:w1.cell? ⟨w.heap.size,1,none⟩=some (.int .i64 cr):=Qad hx 1;clear hx)
  go_ret2
  exact⟨rfl,((Below.refl w.heap.size w).alloc (Nat.le_refl _) _).trans (hb.mono (by simp))⟩
def NewAt(w:World)(B jb W R:Nat)(es:List Ev)(n m:Nat)(w':World):Prop:=
 ∃f sb ab vs va,RPart f w' B 0 jb sb ab W R es vs va/\sb.length=n/\ab.length=m/\(∀g c,f g=some c->w.heap.size<=g/\g≠w.heap.size)/\w'.heap[w.heap.size]? =some (.cells #[.int .i64 (W:Int),.int .i64 (R:Int)] 23 (0,0))/\Below w.heap.size w w'
def NewIs(w:World)(W R:Nat)(es:List Ev)(jb:Nat)(w':World):Prop:=∃f sb ab,RJob f w' 0 0 jb sb ab (newJ W R es)/\(∀g c,f g=some c->w.heap.size<=g)/\Below w.heap.size w w'
theorem NewAt.then{w w1 w2:World}{B jb W R:Nat}{es:List Ev}{n m:Nat}{f f':Owners}{sb ab:List Nat}{vs va:Value}(hlo:∀g c,f g=some c->w.heap.size<=g/\g≠w.heap.size)(hc:w1.heap[w.heap.size]? =some (.cells #[.int .i64 (W:Int),.int .i64 (R:Int)] 23 (0,0)))(hb:Below w.heap.size w w1)
  (h:RPart f' w2 B 0 jb sb ab W R es vs va) (hF:FrmO f (λ_=>True) w1 w2) (hS:Same w1.heap.size f f') (h1:sb.length=n) (h2:ab.length=m):NewAt w B jb W R es n m w2:=by
 have hl:=Qac hc;refine⟨f',sb,ab,vs,va,h,h1,h2,λg c hg=>?_,?_,hb.trans (hF.below (Nat.le_of_lt hl) λg c hg he=>by have:=hlo g c he;omega)⟩
 ·by_cases e:g<w1.heap.size
  ·exact hlo g c ((hS g e).symm.trans hg)
  ·omega
 ·rw[hF.keep _ hl λc hf=>absurd rfl (hlo _ c hf).2];exact hc
def RNSt(wb X:World)(cb jb W:Nat)(c5:Value):Prop:=Below wb.heap.size wb X/\X.cell? ⟨cb,0,none⟩=some (.int .i64 (W:Int))/\X.cell? ⟨jb,5,none⟩=some c5
theorem RNSt.step{wb X Y:World}{cb jb W:Nat}{c5:Value}(h:RNSt wb X cb jb W c5)(hb:Below X.heap.size X Y):RNSt wb Y cb jb W c5:=⟨h.1.trans (hb.mono h.1.size),Qae h.2.1 hb,Qae h.2.2 hb⟩
def NM(wb X:World)(W gp gt:Nat):Prop:=X.ownsRow 0 79 1 (.slice (some ⟨gp,0,none⟩) W W) W (List.replicate W (.slice none 0 0))/\X.ownsRow 0 4 1 (.slice (some ⟨gt,0,none⟩) W W) W (List.replicate W (.bool false))/\wb.heap.size<=gp/\wb.heap.size<=gt
theorem NM.step{wb X Y:World}{W gp gt:Nat}(h:NM wb X W gp gt)(hb:Below X.heap.size X Y):NM wb Y W gp gt:=⟨Qao h.1 hb,Qao h.2.1 hb,h.2.2⟩
def NB(wb X:World)(W gp gt nb:Nat):Prop:=X.heap[nb]? =some (.cells #[.slice none 0 0,.slice (some ⟨gp,0,none⟩) W W,.slice (some ⟨gt,0,none⟩) W W,.int .i64 0,.int .i64 0,.bool false] 81 (0,0))/\wb.heap.size<=nb
theorem NB.step{wb X Y:World}{W gp gt nb:Nat}(h:NB wb X W gp gt nb)(hb:Below X.heap.size X Y):NB wb Y W gp gt nb:=⟨(hb.block _ (Qac h.1)).trans h.1,h.2⟩
theorem Qm9(w:World)(W R:Nat)(s:ByteArray)(es:List Ev)(mm:Nat)(h:s.size<=400)(hp:Parsed s es mm)(hW:1<=W/\W<=4)(hR:1<=R/\R<=4):
  Calls Tryz.prog 9 #[.agg #[.int .i64 (W:Int),.int .i64 (R:Int)],.string s] w λen w'=>∃jb,en=.returned (.tuple #[.pointer (some ⟨jb,0,none⟩),.int .i64 0])/\NewIs w W R es jb w':=by
 have HD:=show Hid _ from λw=>Qbq s w h
 have HPs:=hdQ hp;obtain⟨i0,hi0,hz0,hz1,hz2⟩:=info_parts Tryz.infoPS;obtain⟨i1,hi1,hy0,hy1,hy2⟩:=info_parts Tryz.infoPA;have h1:¬(W:Int)<1:=omQ;have h2:¬4<(W:Int):=omQ;have h3:¬(R:Int)<1:=omQ;have h4:¬4<(R:Int):=omQ;clear hp;go_enter Tryz.func9,Tryz.ntmps9
 go_wp2_with(go_at_call 14;refine(HD.out _).mono ?_;rintro e w1 ⟨v,es',m',r,rfl,hP,hown,hb⟩;have hr:((r:Int)==1)=false:=(by rw[hP.out.2];exact Qbh s m');obtain⟨rfl,rfl⟩:=Parsed.unique HPs.out hP.out.1;obtain⟨va0,vc0,rfl⟩:=Qaf hown;have Hown:=show Hid _ from hown;have Hb1:=show Hid _ from hb;have hx:=(hb.block w.heap.size (by simp)).trans (heap_alloc_new w _);have x0:w1.cell? ⟨w.heap.size,0,none⟩=some (.int .i64 (W:Int)):=Qad hx 0;have x1:w1.cell? ⟨w.heap.size,1,none⟩=some (.int .i64 (R:Int)):=Qad hx 1;have Hx:=show Hid _ from hx;clear hx hown hb)
 have H0:=show Hid (NewAt w 0 w1.heap.size W R es 0 0 (w1.alloc (.cells #[.int .i64 (W:Int),.int .i64 (R:Int),.slice va0 es.length vc0,.int .i64 0,.slice none 0 0,.slice none 0 0,.int .i64 0,.bool false,.bool false,.int .i64 0,.bool false,.int .i64 0,.slice none 0 0] 72)))from by
  have hb0:Below w.heap.size w w1:=((Below.refl w.heap.size w).alloc (Nat.le_refl _) _).trans (Hb1.out.mono (by simp));have hl:=Qac Hx.out;refine⟨_,[],[],_,_,RPart.start w1 0 0 W R es (.slice va0 es.length vc0) (Qa3 Hown.out (Nat.zero_le _)),rfl,rfl,λg c hg=>?_,(Below.heap_alloc _ _ _ hl).trans Hx.out,hb0.alloc hb0.size _⟩
  by_cases e1:g=w1.heap.size
  ·have:=Hb1.out.size;omega
  ·by_cases e2:(Value.slice va0 es.length vc0).ownBlock=some g
   ·have:=(Qah Hown.out g e2).1;simp at this;omega
   ·simp[e1,e2]at hg
 clear Hown Hb1 Hx x0 x1 HD HPs hr hP h1 h2 h3 h4;generalize hjb:w1.heap.size=jb at H0 ⊢;clear hjb;generalize w1.alloc (.cells #[.int .i64 (W:Int),.int .i64 (R:Int),.slice va0 es.length vc0,.int .i64 0,.slice none 0 0,.slice none 0 0,.int .i64 0,.bool false,.bool false,.int .i64 0,.bool false,.int .i64 0,.slice none 0 0] 72)=w2 at H0 ⊢
 go_loopw [10] (λi wr=>∃n:Nat,n<=W/\i=.int .i64 (n:Int)/\NewAt w 0 jb W R es n n wr) (λi _=>W-(intOf i).toNat)
 case atStart=>exact⟨0,Nat.zero_le _,rfl,H0.out⟩
 case round=>
  obtain⟨n,hn,rfl,hN⟩:=hrel;clear H0;obtain⟨f,sb,ab,vs,va,hP,hl1,hl2,hlo,hc,hbw⟩:=hN;have x0:wr.cell? ⟨w.heap.size,0,none⟩=some (.int .i64 (W:Int)):=Qad hc 0
  by_cases hnl:n<W
  ·have hni:(n:Int)<(W:Int):=omQ;obtain⟨ve,hbx,hex⟩:=hP.box;have c4:wr.cell? ⟨jb,4,none⟩=some vs:=Qad hbx 4;have hrs:=hP.rs;rw[hl1]at hrs;obtain⟨sa,sc,rfl⟩:=Qaf hrs;have HRs:=hdQ hrs
   have HA:=show Hid (∀(wa w5:World) (nb:Nat) (v':Value),Below wr.heap.size wr wa->wr.heap.size<=nb->wa.heap[nb]? =some (.cells #[.slice none 0 0,.slice none 0 0,.int .i64 0,.int .i64 0,.bool false] 75 (0,0))->w5.ownsRow 0 73 1 v' (n+1) ((sb.map λb=>.pointer (some ⟨b,0,none⟩))++[.pointer (some ⟨nb,0,none⟩)])->AppQ wa w5 (.slice sa n sc) v'->w5.cell? ⟨jb,4,none⟩=some (.slice sa n sc)/\w5.frozen? ⟨jb,4,none⟩=false/\NewAt w 0 jb W R es (n+1) n (w5.setCell ⟨jb,4,none⟩ v'))from λwa w5 nb v' hba hnb hblk hrow happ=>by
    obtain⟨a1,a2,f',hP',hF',hS'⟩:=hP.addS omQ hba hnb hblk (by rw[hl1];exact hrow) happ;exact⟨a1,a2,NewAt.then hlo hc hbw hP' hF' hS' (by simp[hl1]) hl2⟩
   generalize(sb.map λb=>Value.pointer (some ⟨b,0,none⟩))=xs at HRs HA;clear hP hlo hc hbw hrs hbx hl1 hl2 hex
   have hS1:∀(j:Nat) (u:Value),[Value.pointer (some ⟨wr.heap.size,0,none⟩)][j]? =some u->((wr.alloc (.cells #[.slice none 0 0,.slice none 0 0,.int .i64 0,.int .i64 0,.bool false] 75)).alloc (.cells #[.pointer (some ⟨wr.heap.size,0,none⟩)] 73)).cell? ((⟨wr.heap.size+1,0,none⟩:Addr).add j)=some u:=by
    have h9:=cell_one_new (wr.alloc (.cells #[.slice none 0 0,.slice none 0 0,.int .i64 0,.int .i64 0,.bool false] 75)) (.pointer (some ⟨wr.heap.size,0,none⟩)) 73;rw[World.size_alloc]at h9;exact h9
   have HS1:=hdQ hS1;have hnl2:=hnl;clear hS1
   go_wp2_with(at_builtin;go_loud (refine QaH _ rfl (.tmp 56) (.tmp 59) 68 rfl 0 73 i0 (.pointer none) 1 8 Tryz.underlying68 hi0 hz0 hz1 hz2 rfl (by decide) (.slice sa n sc) n xs rfl (World.ownsRow.alloc (World.ownsRow.alloc HRs.out _) _) ⟨wr.heap.size+1,0,none⟩ 1 1 [.pointer (some ⟨wr.heap.size,0,none⟩)] (by kernel_rfl) rfl HS1.out (Qel _) (by unfold maxLen;omega) (by omega) (Nat.zero_le _) (by decide) ?_;intro v' w5 hown happ;obtain⟨a1,a2,hN⟩:=HA.out _ w5 wr.heap.size v' (((Below.refl wr.heap.size wr).alloc (Nat.le_refl _) _).alloc (by simp) _) (Nat.le_refl _) ((Below.heap_alloc _ _ _ (by simp)).trans (heap_alloc_new wr _)) hown happ;have HN:=show Hid _ from hN;obtain⟨a5,c5,rfl⟩:=Qaf hown;clear hN hown happ))
   clear hnl2;generalize w5.setCell ⟨jb,4,none⟩ (.slice a5 (n+1) c5)=w6 at HN ⊢;obtain⟨f,sb,ab,vs,va,hP,hl1,hl2,hlo,hc,hbw⟩:=HN.out;obtain⟨ve,hbx,hex⟩:=hP.box;have c5':w6.cell? ⟨jb,5,none⟩=some va:=Qad hbx 5;have x0:w6.cell? ⟨w.heap.size,0,none⟩=some (.int .i64 (W:Int)):=Qad hc 0;have hra:=hP.ra;rw[hl2]at hra;obtain⟨aa,ac,rfl⟩:=Qaf hra;have HRa:=hdQ hra
   have HA2:=show Hid (∀(wa w5:World) (nb:Nat) (v' vp vt:Value),Below w6.heap.size w6 wa->w6.heap.size<=nb->wa.heap[nb]? =some (.cells #[.slice none 0 0,vp,vt,.int .i64 0,.int .i64 0,.bool false] 81 (0,0))->wa.ownsRow 0 79 1 vp W (List.replicate W (.slice none 0 0))->(∀g,vp.ownBlock=some g->w6.heap.size<=g)->wa.ownsRow 0 4 1 vt W (List.replicate W (.bool false))->(∀g,vt.ownBlock=some g->w6.heap.size<=g)->w5.ownsRow 0 76 1 v' (n+1) ((ab.map λb=>.pointer (some ⟨b,0,none⟩))++[.pointer (some ⟨nb,0,none⟩)])->AppQ wa w5 (.slice aa n ac) v'->w5.cell? ⟨jb,5,none⟩=some (.slice aa n ac)/\w5.frozen? ⟨jb,5,none⟩=false/\NewAt w 0 jb W R es (n+1) (n+1) (w5.setCell ⟨jb,5,none⟩ v'))from λwa w5 nb v' vp vt hba hnb hblk h1 h2 h3 h4 hrow happ=>by
    obtain⟨a1,a2,f',hP',hF',hS'⟩:=hP.addA omQ hba hnb hblk h1 h2 h3 h4 (by rw[hl2];exact hrow) happ;exact⟨a1,a2,NewAt.then hlo hc hbw hP' hF' hS' hl1 (by simp[hl2])⟩
   have hcj:w.heap.size≠jb:=λe=>by
    have h1:=hlo jb _ hP.own;omega
   generalize(ab.map λb=>Value.pointer (some ⟨b,0,none⟩))=ys at HRa HA2;clear hP hlo hc hbw hra hbx hl1 hl2 HN hex;go_wp2
   have HS:=show Hid (RNSt w6 w6.drew w.heap.size jb W (.slice aa n ac))from⟨(Below.refl w6.heap.size w6).drew,x0,c5'⟩
   clear x0 c5';refine wp_region_held_drew (S:=λw':World=>w'.cell? ⟨w.heap.size,0,none⟩=some (.int .i64 (W:Int))) krQ HS.out.2.1 (λhH=>?_);generalize w6.drew=wd at HS hH ⊢;refine tkQ 0 (.pointer (some ⟨jb,0,none⟩)) hH ?_;refine tkQ 1 (.pointer (some ⟨jb,0,none⟩)) hH ?_;refine tkQ 2 (.pointer (some ⟨jb,0,none⟩)) hH ?_;refine tkQ 3 (.pointer (some ⟨jb,5,none⟩)) hH ?_;refine tkQ 5 (.pointer (some ⟨w.heap.size,0,none⟩)) hH ?_;refine tlQ 6 (.int .i64 (W:Int)) rfl (by intro v hSw;have s0:=hSw;clear hSw;go_simp) hH ?_;refine tkQ 8 (.pointer (some ⟨w.heap.size,0,none⟩)) hH ?_;refine tlQ 9 (.int .i64 (W:Int)) rfl (by intro v hSw;have s0:=hSw;clear hSw;go_simp) hH ?_;refine QdS (by go_simp;exact rfl) ?_;refine rdQ [4,7,10] ?_;refine AllReadyH.cons rfl (λK hK=>?_) (AllReadyH.cons rfl (λK hK=>?_) (AllReadyH.cons rfl (λK hK=>?_) AllReadyH.nil))
   focus
    have c5x:=HS.out.2.2;have x0x:=HS.out.2.1;clear hH;go_simp;refine hK.out _ _ x0x (λhH=>?_);clear hK K c5x x0x;refine rdQ [7,10] ?_;refine AllReadyH.cons rfl (λK hK=>?_) (arQ λK hK=>?_)
    focus
     obtain⟨w8,hmk,hrp,hbw8⟩:=Qbp wd W 0 omQ (Nat.zero_le _);clear hH;go_simp
     have HS':=show Hid _ from RNSt.step HS.out hbw8
     refine hK.out _ _ HS'.out.2.1 (λhH=>?_);clear hK K hmk
     have H8:=show Hid (w8.ownsRow 0 79 1 (.slice (some ⟨wd.heap.size,0,none⟩) W W) W (List.replicate W (.slice none 0 0))/\w6.heap.size<=wd.heap.size)from⟨hrp,HS.out.1.size⟩
     clear hrp hbw8 HS;generalize wd.heap.size=gp at H8 hH ⊢
     have HS:=show Hid (RNSt w6 w8 w.heap.size jb W (.slice aa n ac))from HS'.out
     clear HS';refine rdQ [10] ?_
     refine arQ λK hK=>?_
     focus
      obtain⟨w9,hmk,hrt,hbw9⟩:=QaY w8 W 0 omQ (Nat.zero_le _);clear hH;go_simp
      have HS':=show Hid _ from RNSt.step HS.out hbw9
      refine hK.out _ _ HS'.out.2.1 (λhH=>?_);clear hK K hmk
      have HM:=show Hid (NM w6 w9 W gp w8.heap.size)from⟨Qao H8.out.1 hbw9,hrt,H8.out.2,HS.out.1.size⟩
      clear hrt hbw9 HS H8;generalize w8.heap.size=gt at HM hH ⊢
      have HS:=show Hid (RNSt w6 w9 w.heap.size jb W (.slice aa n ac))from HS'.out
      clear HS';refine tkQ 11 (.agg #[.slice none 0 0,.slice (some ⟨gp,0,none⟩) W W,.slice (some ⟨gt,0,none⟩) W W,.int .i64 0,.int .i64 0,.bool false]) hH ?_;refine rdQ [12] ?_
      refine arQ λK hK=>?_
      focus
       clear hH;go_simp;have hbA:=(Below.refl w9.heap.size w9).alloc (Nat.le_refl _) (.cells #[.slice none 0 0,.slice (some ⟨gp,0,none⟩) W W,.slice (some ⟨gt,0,none⟩) W W,.int .i64 0,.int .i64 0,.bool false] 81)
       have HS':=show Hid _ from RNSt.step HS.out hbA
       have HM':=show Hid _ from NM.step HM.out hbA
       have HB:=show Hid (NB w6 (w9.alloc (.cells #[.slice none 0 0,.slice (some ⟨gp,0,none⟩) W W,.slice (some ⟨gt,0,none⟩) W W,.int .i64 0,.int .i64 0,.bool false] 81)) W gp gt w9.heap.size)from⟨heap_alloc_new w9 _,HS.out.1.size⟩
       refine hK.out _ _ HS'.out.2.1 (λhH=>?_);clear hK K hbA HS HM;have HS:=HS';have HM:=HM';clear HS' HM';generalize w9.heap.size=nb at HB hH ⊢;generalize w9.alloc (.cells #[.slice none 0 0,.slice (some ⟨gp,0,none⟩) W W,.slice (some ⟨gt,0,none⟩) W W,.int .i64 0,.int .i64 0,.bool false] 81)=w12 at HS HM HB hH ⊢;refine rdQ [13] ?_
       refine arQ λK hK=>?_
       focus
        clear hH;go_simp;have hbA:=(Below.refl w12.heap.size w12).alloc (Nat.le_refl _) (.cells #[.pointer (some ⟨nb,0,none⟩)] 76)
        have HS':=show Hid _ from RNSt.step HS.out hbA
        have HM':=show Hid _ from NM.step HM.out hbA
        have HB':=show Hid _ from NB.step HB.out hbA
        have HC:=show Hid (∀(j:Nat) (u:Value),[Value.pointer (some ⟨nb,0,none⟩)][j]? =some u->(w12.alloc (.cells #[.pointer (some ⟨nb,0,none⟩)] 76)).cell? ((⟨w12.heap.size,0,none⟩:Addr).add j)=some u)from cell_one_new _ _ _
        refine hK.out _ _ HS'.out.2.1 (λhH=>?_);clear hK K hbA HS HM HB;have HS:=HS';have HM:=HM';have HB:=HB';clear HS' HM' HB';generalize w12.heap.size=sl at HC hH ⊢;generalize w12.alloc (.cells #[.pointer (some ⟨nb,0,none⟩)] 76)=w13 at HS HM HB HC hH ⊢
    rotate_left 1
    focus
     obtain⟨w8,hmk,hrt,hbw8⟩:=QaY wd W 0 omQ (Nat.zero_le _);clear hH;go_simp
     have HS':=show Hid _ from RNSt.step HS.out hbw8
     refine hK.out _ _ HS'.out.2.1 (λhH=>?_);clear hK K hmk
     have H8:=show Hid (w8.ownsRow 0 4 1 (.slice (some ⟨wd.heap.size,0,none⟩) W W) W (List.replicate W (.bool false))/\w6.heap.size<=wd.heap.size)from⟨hrt,HS.out.1.size⟩
     clear hrt hbw8 HS;generalize wd.heap.size=gt at H8 hH ⊢
     have HS:=show Hid (RNSt w6 w8 w.heap.size jb W (.slice aa n ac))from HS'.out
     clear HS';refine rdQ [7] ?_
     refine arQ λK hK=>?_
     focus
      obtain⟨w9,hmk,hrp,hbw9⟩:=Qbp w8 W 0 omQ (Nat.zero_le _);clear hH;go_simp
      have HS':=show Hid _ from RNSt.step HS.out hbw9
      refine hK.out _ _ HS'.out.2.1 (λhH=>?_);clear hK K hmk
      have HM:=show Hid (NM w6 w9 W w8.heap.size gt)from⟨hrp,Qao H8.out.1 hbw9,HS.out.1.size,H8.out.2⟩
      clear hrp hbw9 HS H8;generalize w8.heap.size=gp at HM hH ⊢
      have HS:=show Hid (RNSt w6 w9 w.heap.size jb W (.slice aa n ac))from HS'.out
      clear HS';refine tkQ 11 (.agg #[.slice none 0 0,.slice (some ⟨gp,0,none⟩) W W,.slice (some ⟨gt,0,none⟩) W W,.int .i64 0,.int .i64 0,.bool false]) hH ?_;refine rdQ [12] ?_
      refine arQ λK hK=>?_
      focus
       clear hH;go_simp;have hbA:=(Below.refl w9.heap.size w9).alloc (Nat.le_refl _) (.cells #[.slice none 0 0,.slice (some ⟨gp,0,none⟩) W W,.slice (some ⟨gt,0,none⟩) W W,.int .i64 0,.int .i64 0,.bool false] 81)
       have HS':=show Hid _ from RNSt.step HS.out hbA
       have HM':=show Hid _ from NM.step HM.out hbA
       have HB:=show Hid (NB w6 (w9.alloc (.cells #[.slice none 0 0,.slice (some ⟨gp,0,none⟩) W W,.slice (some ⟨gt,0,none⟩) W W,.int .i64 0,.int .i64 0,.bool false] 81)) W gp gt w9.heap.size)from⟨heap_alloc_new w9 _,HS.out.1.size⟩
       refine hK.out _ _ HS'.out.2.1 (λhH=>?_);clear hK K hbA HS HM;have HS:=HS';have HM:=HM';clear HS' HM';generalize w9.heap.size=nb at HB hH ⊢;generalize w9.alloc (.cells #[.slice none 0 0,.slice (some ⟨gp,0,none⟩) W W,.slice (some ⟨gt,0,none⟩) W W,.int .i64 0,.int .i64 0,.bool false] 81)=w12 at HS HM HB hH ⊢;refine rdQ [13] ?_
       refine arQ λK hK=>?_
       focus
        clear hH;go_simp;have hbA:=(Below.refl w12.heap.size w12).alloc (Nat.le_refl _) (.cells #[.pointer (some ⟨nb,0,none⟩)] 76)
        have HS':=show Hid _ from RNSt.step HS.out hbA
        have HM':=show Hid _ from NM.step HM.out hbA
        have HB':=show Hid _ from NB.step HB.out hbA
        have HC:=show Hid (∀(j:Nat) (u:Value),[Value.pointer (some ⟨nb,0,none⟩)][j]? =some u->(w12.alloc (.cells #[.pointer (some ⟨nb,0,none⟩)] 76)).cell? ((⟨w12.heap.size,0,none⟩:Addr).add j)=some u)from cell_one_new _ _ _
        refine hK.out _ _ HS'.out.2.1 (λhH=>?_);clear hK K hbA HS HM HB;have HS:=HS';have HM:=HM';have HB:=HB';clear HS' HM' HB';generalize w12.heap.size=sl at HC hH ⊢;generalize w12.alloc (.cells #[.pointer (some ⟨nb,0,none⟩)] 76)=w13 at HS HM HB HC hH ⊢
   rotate_left 2
   focus
    obtain⟨w8,hmk,hrp,hbw8⟩:=Qbp wd W 0 omQ (Nat.zero_le _);clear hH;go_simp
    have HS':=show Hid _ from RNSt.step HS.out hbw8
    refine hK.out _ _ HS'.out.2.1 (λhH=>?_);clear hK K hmk
    have H8:=show Hid (w8.ownsRow 0 79 1 (.slice (some ⟨wd.heap.size,0,none⟩) W W) W (List.replicate W (.slice none 0 0))/\w6.heap.size<=wd.heap.size)from⟨hrp,HS.out.1.size⟩
    clear hrp hbw8 HS;generalize wd.heap.size=gp at H8 hH ⊢
    have HS:=show Hid (RNSt w6 w8 w.heap.size jb W (.slice aa n ac))from HS'.out
    clear HS';refine rdQ [4,10] ?_;refine AllReadyH.cons rfl (λK hK=>?_) (arQ λK hK=>?_)
    focus
     have c5x:=HS.out.2.2;have x0x:=HS.out.2.1;clear hH;go_simp;refine hK.out _ _ x0x (λhH=>?_);clear hK K c5x x0x;refine rdQ [10] ?_
     refine arQ λK hK=>?_
     focus
      obtain⟨w9,hmk,hrt,hbw9⟩:=QaY w8 W 0 omQ (Nat.zero_le _);clear hH;go_simp
      have HS':=show Hid _ from RNSt.step HS.out hbw9
      refine hK.out _ _ HS'.out.2.1 (λhH=>?_);clear hK K hmk
      have HM:=show Hid (NM w6 w9 W gp w8.heap.size)from⟨Qao H8.out.1 hbw9,hrt,H8.out.2,HS.out.1.size⟩
      clear hrt hbw9 HS H8;generalize w8.heap.size=gt at HM hH ⊢
      have HS:=show Hid (RNSt w6 w9 w.heap.size jb W (.slice aa n ac))from HS'.out
      clear HS';refine tkQ 11 (.agg #[.slice none 0 0,.slice (some ⟨gp,0,none⟩) W W,.slice (some ⟨gt,0,none⟩) W W,.int .i64 0,.int .i64 0,.bool false]) hH ?_;refine rdQ [12] ?_
      refine arQ λK hK=>?_
      focus
       clear hH;go_simp;have hbA:=(Below.refl w9.heap.size w9).alloc (Nat.le_refl _) (.cells #[.slice none 0 0,.slice (some ⟨gp,0,none⟩) W W,.slice (some ⟨gt,0,none⟩) W W,.int .i64 0,.int .i64 0,.bool false] 81)
       have HS':=show Hid _ from RNSt.step HS.out hbA
       have HM':=show Hid _ from NM.step HM.out hbA
       have HB:=show Hid (NB w6 (w9.alloc (.cells #[.slice none 0 0,.slice (some ⟨gp,0,none⟩) W W,.slice (some ⟨gt,0,none⟩) W W,.int .i64 0,.int .i64 0,.bool false] 81)) W gp gt w9.heap.size)from⟨heap_alloc_new w9 _,HS.out.1.size⟩
       refine hK.out _ _ HS'.out.2.1 (λhH=>?_);clear hK K hbA HS HM;have HS:=HS';have HM:=HM';clear HS' HM';generalize w9.heap.size=nb at HB hH ⊢;generalize w9.alloc (.cells #[.slice none 0 0,.slice (some ⟨gp,0,none⟩) W W,.slice (some ⟨gt,0,none⟩) W W,.int .i64 0,.int .i64 0,.bool false] 81)=w12 at HS HM HB hH ⊢;refine rdQ [13] ?_
       refine arQ λK hK=>?_
       focus
        clear hH;go_simp;have hbA:=(Below.refl w12.heap.size w12).alloc (Nat.le_refl _) (.cells #[.pointer (some ⟨nb,0,none⟩)] 76)
        have HS':=show Hid _ from RNSt.step HS.out hbA
        have HM':=show Hid _ from NM.step HM.out hbA
        have HB':=show Hid _ from NB.step HB.out hbA
        have HC:=show Hid (∀(j:Nat) (u:Value),[Value.pointer (some ⟨nb,0,none⟩)][j]? =some u->(w12.alloc (.cells #[.pointer (some ⟨nb,0,none⟩)] 76)).cell? ((⟨w12.heap.size,0,none⟩:Addr).add j)=some u)from cell_one_new _ _ _
        refine hK.out _ _ HS'.out.2.1 (λhH=>?_);clear hK K hbA HS HM HB;have HS:=HS';have HM:=HM';have HB:=HB';clear HS' HM' HB';generalize w12.heap.size=sl at HC hH ⊢;generalize w12.alloc (.cells #[.pointer (some ⟨nb,0,none⟩)] 76)=w13 at HS HM HB HC hH ⊢
    rotate_left 1
    focus
     obtain⟨w9,hmk,hrt,hbw9⟩:=QaY w8 W 0 omQ (Nat.zero_le _);clear hH;go_simp
     have HS':=show Hid _ from RNSt.step HS.out hbw9
     refine hK.out _ _ HS'.out.2.1 (λhH=>?_);clear hK K hmk
     have HM:=show Hid (NM w6 w9 W gp w8.heap.size)from⟨Qao H8.out.1 hbw9,hrt,H8.out.2,HS.out.1.size⟩
     clear hrt hbw9 HS H8;generalize w8.heap.size=gt at HM hH ⊢
     have HS:=show Hid (RNSt w6 w9 w.heap.size jb W (.slice aa n ac))from HS'.out
     clear HS';refine tkQ 11 (.agg #[.slice none 0 0,.slice (some ⟨gp,0,none⟩) W W,.slice (some ⟨gt,0,none⟩) W W,.int .i64 0,.int .i64 0,.bool false]) hH ?_;refine rdQ [4,12] ?_;refine AllReadyH.cons rfl (λK hK=>?_) (arQ λK hK=>?_)
     focus
      have c5x:=HS.out.2.2;have x0x:=HS.out.2.1;clear hH;go_simp;refine hK.out _ _ x0x (λhH=>?_);clear hK K c5x x0x;refine rdQ [12] ?_
      refine arQ λK hK=>?_
      focus
       clear hH;go_simp;have hbA:=(Below.refl w9.heap.size w9).alloc (Nat.le_refl _) (.cells #[.slice none 0 0,.slice (some ⟨gp,0,none⟩) W W,.slice (some ⟨gt,0,none⟩) W W,.int .i64 0,.int .i64 0,.bool false] 81)
       have HS':=show Hid _ from RNSt.step HS.out hbA
       have HM':=show Hid _ from NM.step HM.out hbA
       have HB:=show Hid (NB w6 (w9.alloc (.cells #[.slice none 0 0,.slice (some ⟨gp,0,none⟩) W W,.slice (some ⟨gt,0,none⟩) W W,.int .i64 0,.int .i64 0,.bool false] 81)) W gp gt w9.heap.size)from⟨heap_alloc_new w9 _,HS.out.1.size⟩
       refine hK.out _ _ HS'.out.2.1 (λhH=>?_);clear hK K hbA HS HM;have HS:=HS';have HM:=HM';clear HS' HM';generalize w9.heap.size=nb at HB hH ⊢;generalize w9.alloc (.cells #[.slice none 0 0,.slice (some ⟨gp,0,none⟩) W W,.slice (some ⟨gt,0,none⟩) W W,.int .i64 0,.int .i64 0,.bool false] 81)=w12 at HS HM HB hH ⊢;refine rdQ [13] ?_
       refine arQ λK hK=>?_
       focus
        clear hH;go_simp;have hbA:=(Below.refl w12.heap.size w12).alloc (Nat.le_refl _) (.cells #[.pointer (some ⟨nb,0,none⟩)] 76)
        have HS':=show Hid _ from RNSt.step HS.out hbA
        have HM':=show Hid _ from NM.step HM.out hbA
        have HB':=show Hid _ from NB.step HB.out hbA
        have HC:=show Hid (∀(j:Nat) (u:Value),[Value.pointer (some ⟨nb,0,none⟩)][j]? =some u->(w12.alloc (.cells #[.pointer (some ⟨nb,0,none⟩)] 76)).cell? ((⟨w12.heap.size,0,none⟩:Addr).add j)=some u)from cell_one_new _ _ _
        refine hK.out _ _ HS'.out.2.1 (λhH=>?_);clear hK K hbA HS HM HB;have HS:=HS';have HM:=HM';have HB:=HB';clear HS' HM' HB';generalize w12.heap.size=sl at HC hH ⊢;generalize w12.alloc (.cells #[.pointer (some ⟨nb,0,none⟩)] 76)=w13 at HS HM HB HC hH ⊢
     rotate_left 1
     focus
      clear hH;go_simp;have hbA:=(Below.refl w9.heap.size w9).alloc (Nat.le_refl _) (.cells #[.slice none 0 0,.slice (some ⟨gp,0,none⟩) W W,.slice (some ⟨gt,0,none⟩) W W,.int .i64 0,.int .i64 0,.bool false] 81)
      have HS':=show Hid _ from RNSt.step HS.out hbA
      have HM':=show Hid _ from NM.step HM.out hbA
      have HB:=show Hid (NB w6 (w9.alloc (.cells #[.slice none 0 0,.slice (some ⟨gp,0,none⟩) W W,.slice (some ⟨gt,0,none⟩) W W,.int .i64 0,.int .i64 0,.bool false] 81)) W gp gt w9.heap.size)from⟨heap_alloc_new w9 _,HS.out.1.size⟩
      refine hK.out _ _ HS'.out.2.1 (λhH=>?_);clear hK K hbA HS HM;have HS:=HS';have HM:=HM';clear HS' HM';generalize w9.heap.size=nb at HB hH ⊢;generalize w9.alloc (.cells #[.slice none 0 0,.slice (some ⟨gp,0,none⟩) W W,.slice (some ⟨gt,0,none⟩) W W,.int .i64 0,.int .i64 0,.bool false] 81)=w12 at HS HM HB hH ⊢;refine rdQ [4,13] ?_;refine AllReadyH.cons rfl (λK hK=>?_) (arQ λK hK=>?_)
      focus
       have c5x:=HS.out.2.2;have x0x:=HS.out.2.1;clear hH;go_simp;refine hK.out _ _ x0x (λhH=>?_);clear hK K c5x x0x;refine rdQ [13] ?_
       refine arQ λK hK=>?_
       focus
        clear hH;go_simp;have hbA:=(Below.refl w12.heap.size w12).alloc (Nat.le_refl _) (.cells #[.pointer (some ⟨nb,0,none⟩)] 76)
        have HS':=show Hid _ from RNSt.step HS.out hbA
        have HM':=show Hid _ from NM.step HM.out hbA
        have HB':=show Hid _ from NB.step HB.out hbA
        have HC:=show Hid (∀(j:Nat) (u:Value),[Value.pointer (some ⟨nb,0,none⟩)][j]? =some u->(w12.alloc (.cells #[.pointer (some ⟨nb,0,none⟩)] 76)).cell? ((⟨w12.heap.size,0,none⟩:Addr).add j)=some u)from cell_one_new _ _ _
        refine hK.out _ _ HS'.out.2.1 (λhH=>?_);clear hK K hbA HS HM HB;have HS:=HS';have HM:=HM';have HB:=HB';clear HS' HM' HB';generalize w12.heap.size=sl at HC hH ⊢;generalize w12.alloc (.cells #[.pointer (some ⟨nb,0,none⟩)] 76)=w13 at HS HM HB HC hH ⊢
      rotate_left 1
      focus
       clear hH;go_simp;have hbA:=(Below.refl w12.heap.size w12).alloc (Nat.le_refl _) (.cells #[.pointer (some ⟨nb,0,none⟩)] 76)
       have HS':=show Hid _ from RNSt.step HS.out hbA
       have HM':=show Hid _ from NM.step HM.out hbA
       have HB':=show Hid _ from NB.step HB.out hbA
       have HC:=show Hid (∀(j:Nat) (u:Value),[Value.pointer (some ⟨nb,0,none⟩)][j]? =some u->(w12.alloc (.cells #[.pointer (some ⟨nb,0,none⟩)] 76)).cell? ((⟨w12.heap.size,0,none⟩:Addr).add j)=some u)from cell_one_new _ _ _
       refine hK.out _ _ HS'.out.2.1 (λhH=>?_);clear hK K hbA HS HM HB;have HS:=HS';have HM:=HM';have HB:=HB';clear HS' HM' HB';generalize w12.heap.size=sl at HC hH ⊢;generalize w12.alloc (.cells #[.pointer (some ⟨nb,0,none⟩)] 76)=w13 at HS HM HB HC hH ⊢;refine rdQ [4] ?_
       refine arQ λK hK=>?_
       focus
        have c5x:=HS.out.2.2;have x0x:=HS.out.2.1;clear hH;go_simp;refine hK.out _ _ x0x (λhH=>?_);clear hK K c5x x0x
   rotate_left 4
   focus
    obtain⟨w8,hmk,hrt,hbw8⟩:=QaY wd W 0 omQ (Nat.zero_le _);clear hH;go_simp
    have HS':=show Hid _ from RNSt.step HS.out hbw8
    refine hK.out _ _ HS'.out.2.1 (λhH=>?_);clear hK K hmk
    have H8:=show Hid (w8.ownsRow 0 4 1 (.slice (some ⟨wd.heap.size,0,none⟩) W W) W (List.replicate W (.bool false))/\w6.heap.size<=wd.heap.size)from⟨hrt,HS.out.1.size⟩
    clear hrt hbw8 HS;generalize wd.heap.size=gt at H8 hH ⊢
    have HS:=show Hid (RNSt w6 w8 w.heap.size jb W (.slice aa n ac))from HS'.out
    clear HS';refine rdQ [4,7] ?_;refine AllReadyH.cons rfl (λK hK=>?_) (arQ λK hK=>?_)
    focus
     have c5x:=HS.out.2.2;have x0x:=HS.out.2.1;clear hH;go_simp;refine hK.out _ _ x0x (λhH=>?_);clear hK K c5x x0x;refine rdQ [7] ?_
     refine arQ λK hK=>?_
     focus
      obtain⟨w9,hmk,hrp,hbw9⟩:=Qbp w8 W 0 omQ (Nat.zero_le _);clear hH;go_simp
      have HS':=show Hid _ from RNSt.step HS.out hbw9
      refine hK.out _ _ HS'.out.2.1 (λhH=>?_);clear hK K hmk
      have HM:=show Hid (NM w6 w9 W w8.heap.size gt)from⟨hrp,Qao H8.out.1 hbw9,HS.out.1.size,H8.out.2⟩
      clear hrp hbw9 HS H8;generalize w8.heap.size=gp at HM hH ⊢
      have HS:=show Hid (RNSt w6 w9 w.heap.size jb W (.slice aa n ac))from HS'.out
      clear HS';refine tkQ 11 (.agg #[.slice none 0 0,.slice (some ⟨gp,0,none⟩) W W,.slice (some ⟨gt,0,none⟩) W W,.int .i64 0,.int .i64 0,.bool false]) hH ?_;refine rdQ [12] ?_
      refine arQ λK hK=>?_
      focus
       clear hH;go_simp;have hbA:=(Below.refl w9.heap.size w9).alloc (Nat.le_refl _) (.cells #[.slice none 0 0,.slice (some ⟨gp,0,none⟩) W W,.slice (some ⟨gt,0,none⟩) W W,.int .i64 0,.int .i64 0,.bool false] 81)
       have HS':=show Hid _ from RNSt.step HS.out hbA
       have HM':=show Hid _ from NM.step HM.out hbA
       have HB:=show Hid (NB w6 (w9.alloc (.cells #[.slice none 0 0,.slice (some ⟨gp,0,none⟩) W W,.slice (some ⟨gt,0,none⟩) W W,.int .i64 0,.int .i64 0,.bool false] 81)) W gp gt w9.heap.size)from⟨heap_alloc_new w9 _,HS.out.1.size⟩
       refine hK.out _ _ HS'.out.2.1 (λhH=>?_);clear hK K hbA HS HM;have HS:=HS';have HM:=HM';clear HS' HM';generalize w9.heap.size=nb at HB hH ⊢;generalize w9.alloc (.cells #[.slice none 0 0,.slice (some ⟨gp,0,none⟩) W W,.slice (some ⟨gt,0,none⟩) W W,.int .i64 0,.int .i64 0,.bool false] 81)=w12 at HS HM HB hH ⊢;refine rdQ [13] ?_
       refine arQ λK hK=>?_
       focus
        clear hH;go_simp;have hbA:=(Below.refl w12.heap.size w12).alloc (Nat.le_refl _) (.cells #[.pointer (some ⟨nb,0,none⟩)] 76)
        have HS':=show Hid _ from RNSt.step HS.out hbA
        have HM':=show Hid _ from NM.step HM.out hbA
        have HB':=show Hid _ from NB.step HB.out hbA
        have HC:=show Hid (∀(j:Nat) (u:Value),[Value.pointer (some ⟨nb,0,none⟩)][j]? =some u->(w12.alloc (.cells #[.pointer (some ⟨nb,0,none⟩)] 76)).cell? ((⟨w12.heap.size,0,none⟩:Addr).add j)=some u)from cell_one_new _ _ _
        refine hK.out _ _ HS'.out.2.1 (λhH=>?_);clear hK K hbA HS HM HB;have HS:=HS';have HM:=HM';have HB:=HB';clear HS' HM' HB';generalize w12.heap.size=sl at HC hH ⊢;generalize w12.alloc (.cells #[.pointer (some ⟨nb,0,none⟩)] 76)=w13 at HS HM HB HC hH ⊢
    rotate_left 1
    focus
     obtain⟨w9,hmk,hrp,hbw9⟩:=Qbp w8 W 0 omQ (Nat.zero_le _);clear hH;go_simp
     have HS':=show Hid _ from RNSt.step HS.out hbw9
     refine hK.out _ _ HS'.out.2.1 (λhH=>?_);clear hK K hmk
     have HM:=show Hid (NM w6 w9 W w8.heap.size gt)from⟨hrp,Qao H8.out.1 hbw9,HS.out.1.size,H8.out.2⟩
     clear hrp hbw9 HS H8;generalize w8.heap.size=gp at HM hH ⊢
     have HS:=show Hid (RNSt w6 w9 w.heap.size jb W (.slice aa n ac))from HS'.out
     clear HS';refine tkQ 11 (.agg #[.slice none 0 0,.slice (some ⟨gp,0,none⟩) W W,.slice (some ⟨gt,0,none⟩) W W,.int .i64 0,.int .i64 0,.bool false]) hH ?_;refine rdQ [4,12] ?_;refine AllReadyH.cons rfl (λK hK=>?_) (arQ λK hK=>?_)
     focus
      have c5x:=HS.out.2.2;have x0x:=HS.out.2.1;clear hH;go_simp;refine hK.out _ _ x0x (λhH=>?_);clear hK K c5x x0x;refine rdQ [12] ?_
      refine arQ λK hK=>?_
      focus
       clear hH;go_simp;have hbA:=(Below.refl w9.heap.size w9).alloc (Nat.le_refl _) (.cells #[.slice none 0 0,.slice (some ⟨gp,0,none⟩) W W,.slice (some ⟨gt,0,none⟩) W W,.int .i64 0,.int .i64 0,.bool false] 81)
       have HS':=show Hid _ from RNSt.step HS.out hbA
       have HM':=show Hid _ from NM.step HM.out hbA
       have HB:=show Hid (NB w6 (w9.alloc (.cells #[.slice none 0 0,.slice (some ⟨gp,0,none⟩) W W,.slice (some ⟨gt,0,none⟩) W W,.int .i64 0,.int .i64 0,.bool false] 81)) W gp gt w9.heap.size)from⟨heap_alloc_new w9 _,HS.out.1.size⟩
       refine hK.out _ _ HS'.out.2.1 (λhH=>?_);clear hK K hbA HS HM;have HS:=HS';have HM:=HM';clear HS' HM';generalize w9.heap.size=nb at HB hH ⊢;generalize w9.alloc (.cells #[.slice none 0 0,.slice (some ⟨gp,0,none⟩) W W,.slice (some ⟨gt,0,none⟩) W W,.int .i64 0,.int .i64 0,.bool false] 81)=w12 at HS HM HB hH ⊢;refine rdQ [13] ?_
       refine arQ λK hK=>?_
       focus
        clear hH;go_simp;have hbA:=(Below.refl w12.heap.size w12).alloc (Nat.le_refl _) (.cells #[.pointer (some ⟨nb,0,none⟩)] 76)
        have HS':=show Hid _ from RNSt.step HS.out hbA
        have HM':=show Hid _ from NM.step HM.out hbA
        have HB':=show Hid _ from NB.step HB.out hbA
        have HC:=show Hid (∀(j:Nat) (u:Value),[Value.pointer (some ⟨nb,0,none⟩)][j]? =some u->(w12.alloc (.cells #[.pointer (some ⟨nb,0,none⟩)] 76)).cell? ((⟨w12.heap.size,0,none⟩:Addr).add j)=some u)from cell_one_new _ _ _
        refine hK.out _ _ HS'.out.2.1 (λhH=>?_);clear hK K hbA HS HM HB;have HS:=HS';have HM:=HM';have HB:=HB';clear HS' HM' HB';generalize w12.heap.size=sl at HC hH ⊢;generalize w12.alloc (.cells #[.pointer (some ⟨nb,0,none⟩)] 76)=w13 at HS HM HB HC hH ⊢
     rotate_left 1
     focus
      clear hH;go_simp;have hbA:=(Below.refl w9.heap.size w9).alloc (Nat.le_refl _) (.cells #[.slice none 0 0,.slice (some ⟨gp,0,none⟩) W W,.slice (some ⟨gt,0,none⟩) W W,.int .i64 0,.int .i64 0,.bool false] 81)
      have HS':=show Hid _ from RNSt.step HS.out hbA
      have HM':=show Hid _ from NM.step HM.out hbA
      have HB:=show Hid (NB w6 (w9.alloc (.cells #[.slice none 0 0,.slice (some ⟨gp,0,none⟩) W W,.slice (some ⟨gt,0,none⟩) W W,.int .i64 0,.int .i64 0,.bool false] 81)) W gp gt w9.heap.size)from⟨heap_alloc_new w9 _,HS.out.1.size⟩
      refine hK.out _ _ HS'.out.2.1 (λhH=>?_);clear hK K hbA HS HM;have HS:=HS';have HM:=HM';clear HS' HM';generalize w9.heap.size=nb at HB hH ⊢;generalize w9.alloc (.cells #[.slice none 0 0,.slice (some ⟨gp,0,none⟩) W W,.slice (some ⟨gt,0,none⟩) W W,.int .i64 0,.int .i64 0,.bool false] 81)=w12 at HS HM HB hH ⊢;refine rdQ [4,13] ?_;refine AllReadyH.cons rfl (λK hK=>?_) (arQ λK hK=>?_)
      focus
       have c5x:=HS.out.2.2;have x0x:=HS.out.2.1;clear hH;go_simp;refine hK.out _ _ x0x (λhH=>?_);clear hK K c5x x0x;refine rdQ [13] ?_
       refine arQ λK hK=>?_
       focus
        clear hH;go_simp;have hbA:=(Below.refl w12.heap.size w12).alloc (Nat.le_refl _) (.cells #[.pointer (some ⟨nb,0,none⟩)] 76)
        have HS':=show Hid _ from RNSt.step HS.out hbA
        have HM':=show Hid _ from NM.step HM.out hbA
        have HB':=show Hid _ from NB.step HB.out hbA
        have HC:=show Hid (∀(j:Nat) (u:Value),[Value.pointer (some ⟨nb,0,none⟩)][j]? =some u->(w12.alloc (.cells #[.pointer (some ⟨nb,0,none⟩)] 76)).cell? ((⟨w12.heap.size,0,none⟩:Addr).add j)=some u)from cell_one_new _ _ _
        refine hK.out _ _ HS'.out.2.1 (λhH=>?_);clear hK K hbA HS HM HB;have HS:=HS';have HM:=HM';have HB:=HB';clear HS' HM' HB';generalize w12.heap.size=sl at HC hH ⊢;generalize w12.alloc (.cells #[.pointer (some ⟨nb,0,none⟩)] 76)=w13 at HS HM HB HC hH ⊢
      rotate_left 1
      focus
       clear hH;go_simp;have hbA:=(Below.refl w12.heap.size w12).alloc (Nat.le_refl _) (.cells #[.pointer (some ⟨nb,0,none⟩)] 76)
       have HS':=show Hid _ from RNSt.step HS.out hbA
       have HM':=show Hid _ from NM.step HM.out hbA
       have HB':=show Hid _ from NB.step HB.out hbA
       have HC:=show Hid (∀(j:Nat) (u:Value),[Value.pointer (some ⟨nb,0,none⟩)][j]? =some u->(w12.alloc (.cells #[.pointer (some ⟨nb,0,none⟩)] 76)).cell? ((⟨w12.heap.size,0,none⟩:Addr).add j)=some u)from cell_one_new _ _ _
       refine hK.out _ _ HS'.out.2.1 (λhH=>?_);clear hK K hbA HS HM HB;have HS:=HS';have HM:=HM';have HB:=HB';clear HS' HM' HB';generalize w12.heap.size=sl at HC hH ⊢;generalize w12.alloc (.cells #[.pointer (some ⟨nb,0,none⟩)] 76)=w13 at HS HM HB HC hH ⊢;refine rdQ [4] ?_
       refine arQ λK hK=>?_
       focus
        have c5x:=HS.out.2.2;have x0x:=HS.out.2.1;clear hH;go_simp;refine hK.out _ _ x0x (λhH=>?_);clear hK K c5x x0x
   all_goals
    refine rdQ [14] ?_
    refine arQ λK hK=>?_
    refine QaM rfl ?_;refine Qau _ (.tmp 67) (.tmp 76) 69 rfl 0 76 i1 (.pointer none) 1 8 Tryz.underlying69 hi1 hy0 hy1 hy2 rfl (by decide) (.slice aa n ac) n ys (by kernel_rfl) (Qao HRa.out HS.out.1) ⟨sl,0,none⟩ 1 1 [.pointer (some ⟨nb,0,none⟩)] (by kernel_rfl) rfl HC.out (Qel _) (by unfold maxLen;omega) (by omega) (Nat.zero_le _) (by decide) ?_;intro v' w5 hown happ;obtain⟨a1,a2,hN⟩:=HA2.out w13 w5 nb v' (.slice (some ⟨gp,0,none⟩) W W) (.slice (some ⟨gt,0,none⟩) W W) HS.out.1 HB.out.2 HB.out.1 HM.out.1 (λg hg=>by simp only[Value.ownBlock,Option.some.injEq]at hg;rw[<-hg];exact HM.out.2.2.1) HM.out.2.1 (λg hg=>by simp only[Value.ownBlock,Option.some.injEq]at hg;rw[<-hg];exact HM.out.2.2.2) hown happ
    have x05:w5.cell? ⟨w.heap.size,0,none⟩=some (.int .i64 (W:Int)):=by
     obtain⟨_,_,_,_,_,_,_,_,_,hc,_⟩:=hN;rw[Below.heap_setCell _ _ _ _ hcj]at hc;exact Qad hc 0
    have HN:=hdQ hN;obtain⟨a5,c5,rfl⟩:=Qaf hown;refine hK.out _ _ x05 (λhH=>?_);clear hK K hN hown happ HA2 HS HM HB HC HRa;refine tkQ 15 (.pointer (some ⟨jb,0,none⟩)) hH ?_;refine tkQ 16 (.pointer (some ⟨jb,5,none⟩)) hH ?_;refine rdQ [17] ?_
    refine arQ λK hK=>?_
    clear hH;go_simp;refine hK.out _ _ (Qaw x05 (.inl (Ne.symm hcj))) (λhH=>?_);clear hK K hH a1 a2 x05;refine wpAnyH_done krQ ?_ _;generalize w5.setCell ⟨jb,5,none⟩ (.slice a5 (n+1) c5)=w15 at HN ⊢;go_wp2
    go_roundw
    case rel=>exact⟨n+1,by omega,by go_num,HN.out⟩
    case measure=>simp[intOf];omega
  ·have hni:¬(n:Int)<(W:Int):=omQ;have hnn:n=W:=omQ;subst hnn
   have HE:=show Hid (NewIs w n R es jb wr)from⟨f,sb,ab,hP.done hl1 hl2,λg c hg=>(hlo g c hg).1,hbw⟩
   clear hP hlo hc hbw hl1 hl2;go_wp2
   go_ret2
   exact⟨jb,rfl,HE.out⟩
end
end Go.Proofs.YthccpacmklhejabGreatDoor
