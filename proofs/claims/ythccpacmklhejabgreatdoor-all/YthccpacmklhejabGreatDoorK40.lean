import Derived.Test.YthccpacmklhejabGreatDoorTk
import Derived.Test.YthccpacmklhejabGreatDoorK36
import Derived.Test.YthccpacmklhejabGreatDoorK32
import Derived.Test.YthccpacmklhejabGreatDoorK39
set_option maxHeartbeats 8000000
set_option maxRecDepth 100000
namespace Go.Proofs.YthccpacmklhejabGreatDoor
section
open Go.RowKit
def NCut(w:World)(had:Bool)(last:Nat)(there:Bool)(value:Int)(count op:Nat)(key:ByteArray)(seq:Nat)(val:Int)(kb nb p:Nat)(tx:ByteArray)(cl cd:Int)(wk:World):Prop:=
 wk.heap[nb]? =some (.cells #[.int .i64 (p:Int),.string tx,.int .i64 cl,.int .i64 cd] 151 (0,0))/\wk.heap[kb]? =some (.cells #[.bool had,.int .i64 (last:Int),.bool there,.int .i64 value,.int .i64 (count:Int)] 144 (0,0))/\wk.heap[w.heap.size]? =some (.cells #[.int .u8 (op:Int),.string key,.int .u16 (seq:Int),.int .i16 val] 40 (0,0))/\Below w.heap.size w wk/\w.heap.size<nb/\kb<nb
theorem AppQ.drew{w w':World}{v v':Value}(h:AppQ w w' v v'):AppQ w w'.drew v v':=by
 rcases h with⟨h1,h2⟩ | ⟨h1,h2,h3⟩
 ·exact .inl ⟨⟨h1.os,h1.tape,h1.output,h1.size,h1.block⟩,h2⟩
 ·exact .inr ⟨⟨h1.os,h1.tape,h1.output,h1.size,h1.block⟩,h2,h3⟩
theorem Qnb{w:World}{jb W rm i g1 cs' b1 gq off ln qc ge N ec xn:Nat}{e:Ev}(h:SortC w jb W rm i g1 cs' b1 gq off ln qc ge N ec xn e)(B:Nat)(Q:World->Prop)(gs:List Ev)(ga:Option Addr)(gc:Nat)(c3:w.cell? ⟨b1,0,none⟩=some (.slice ga gs.length gc))(hgs:IsEvs w ga gs)(hgl:gs.length<=900)(hct:(knOf e.key gs).counts e=true)
  (hk0:0<e.key.size) (hk1:e.key.size<=1000) (p:Nat) (tx:ByteArray) (hgr:grp e.key=(p,tx)) (a g2 ca b2 gp pc:Nat) (va:Option Addr) (la vc:Nat) (hpa:p % W=a) (haw:a<W) (c5:w.cell? ⟨jb,5,none⟩=some (.slice (some ⟨g2,0,none⟩) W ca)) (d2:w.cell? ⟨g2,a,none⟩=some (.pointer (some ⟨b2,0,none⟩))) (e5:w.cell? ⟨b2,1,none⟩=some (.slice (some ⟨gp,0,none⟩) W pc)) (f1:w.cell? ⟨gp,i,none⟩=some (.slice va la vc))
  (hla:la<rm) (hrm:rm<=400) (hB:B<=w.heap.size) (ys:List Value) (hq:qRow w B 151 4 (.slice va la vc) la ys) (cl cd:Int) (hcl:cl=(if e.op=1 then 1 else 0)-(if(knOf e.key gs).there then 1 else 0)) (hcd:cd=(if e.op=1 then e.val else 0)-(if(knOf e.key gs).there then(knOf e.key gs).value else 0)) (hkv:-32768<=(knOf e.key gs).value/\(knOf e.key gs).value<=32767)
  (HP:∀wa v' w5,Below w.heap.size w wa->qRow w5 B 151 4 v' (la+1) (ys++[.int .i64 (p:Int),.string tx,.int .i64 cl,.int .i64 cd])->AppQ wa w5 (.slice va la vc) v'->w5.cell? ⟨gp,i,none⟩=some (.slice va la vc)/\w5.frozen? ⟨gp,i,none⟩=false/\w5.cell? ⟨b2,1,none⟩=some (.slice (some ⟨gp,0,none⟩) W pc)/\(w5.setCell ⟨gp,i,none⟩ v').cell? ⟨b2,1,none⟩=some (.slice (some ⟨gp,0,none⟩) W pc)/\
   GotG B b1 w.heap.size (w5.setCell ⟨gp,i,none⟩ v') (.slice ga gs.length gc) gs.length (evCells gs) (evCells1 e) (TailG b1 gq off ln qc Q)):
  Calls Tryz.prog 46 #[.pointer (some ⟨jb,0,none⟩),.int .i64 (i:Int)] w λen w'=>en=.returned (.int .i64 0)/\Q w':=by
 obtain⟨c0,c1,c2,c4,d1,p1,q0,e0,e1,e2,e3,hi,hW,hx,hN,hcap,hok⟩:=h;obtain⟨i0,hi0,hz0,hz1,hz2⟩:=info_parts Tryz.infoEv;have hkl:(knOf e.key gs).last<65536:=(Qco λe he=>(hgs.1 e he).2.1).1
 have HC:=show Hid (∀w,Calls Tryz.prog 77 #[(knOf e.key gs).value',e.value] w λen w'=>en=.returned (.bool ((knOf e.key gs).counts e))/\Below w.heap.size w w')from λw=>QcA (knOf e.key gs) e w hkl hok.2.1
 have HK:=show Hid (∀w',Below w.heap.size w w'->Calls Tryz.prog 69 #[.slice ga gs.length gc,.string e.key] w' λen w''=>en=.returned (knOf e.key gs).value'/\Below w'.heap.size w' w'')from λw' hb'=>QcB ga gc gs e.key w' omQ (hgs.below hb')
 rw[hct]at HC;have hvb:-32768<=e.val/\e.val<=32767:=hok.2.2;have hopb:e.op<256:=hok.1;clear hgs hct hkl hok;generalize knOf e.key gs=kn at HC HK hcl hcd hkv;obtain⟨had,last,there,value,count⟩:=kn;obtain⟨op,key,seq,val⟩:=e;unfold Kn.value' Ev.value at HC;unfold Kn.value' at HK;simp only at HC HK e0 e1 e2 e3 hcl hcd hkv hgr hk0 hk1 hvb hopb;have HPP:=hdQ HP;have hvl:∀g,(Value.slice va la vc).ownBlock=some g->g<w.heap.size:=q_lt hq;have Hvl:=hdQ hvl
 have Hq:=show Hid (qRow w B 151 4 (.slice va la vc) la ys)from hq
 have hgpl:gp<w.heap.size:=Qan f1;clear HP hvl hq;obtain⟨j0,hj0,hy0,hy1,hy2⟩:=info_parts Tryz.infoChange
 have hf0:((la:Int)==(rm:Int))=false:=by rw[beq_eq_false_iff_ne];omega
 have HCL:=show Hid (_/\_)from And.intro hcl hcd
 clear hcl hcd;have h1:(i:Int)<(W:Int):=omQ;have h2:(0:Int)<=(i:Int):=omQ;have h3:(xn:Int)<(N:Int):=omQ;have h4:(0:Int)<=(xn:Int):=omQ
 have hn0:(((ln:Int)+1)==0)=false:=by rw[beq_eq_false_iff_ne];omega
 have hln1:(0:Int)<(ln:Int)+1:=omQ;have hx0:¬(xn:Int)<0:=omQ
 have HS:=show Hid (SortS jb b1 gq off ln qc ge N ec xn op key seq val w)from⟨c2,p1,q0,e0,e1,e2,e3⟩
 generalize gs.length=ng at *
 have HGr:=show Hid _ from λw=>Qc6 key w hk0 hk1
 rw[hgr]at HGr;simp only at HGr
 have hr0:((W:Int)==0)=false:=by rw[beq_eq_false_iff_ne];omega
 have hr1:(p:Int).tmod (W:Int)=(a:Int):=by rw[Int.tmod_eq_emod_of_nonneg omQ];omega
 have ha5:(0:Int)<=(a:Int):=omQ;have ha6:(a:Int)<(W:Int):=omQ
 have HCC:=show Hid (_/\_/\_/\_/\_/\_)from And.intro c0 (And.intro c1 (And.intro c5 (And.intro d2 (And.intro e5 f1))))
 clear c0 c1 c5 d2 e5 f1;go_enter Tryz.func46,Tryz.ntmps46;go_wp2;have HSd:SortS jb b1 gq off ln qc ge N ec xn op key seq val w.drew:=HS.out;refine wp_region_held_drew (S:=SortS jb b1 gq off ln qc ge N ec xn op key seq val) krQ HSd (λhH=>?_);clear c2 c4 d1 p1 q0 e0 e1 e2 e3;refine tkQ 0 (.pointer (some ⟨jb,0,none⟩)) hH ?_;refine tkQ 1 (.pointer (some ⟨jb,0,none⟩)) hH ?_;refine tkQ 2 (.pointer (some ⟨jb,2,none⟩)) hH ?_;refine tlQ 3 (.slice (some ⟨ge,0,none⟩) N ec) rfl (by intro v hSw;have s0:=hSw.1;clear hSw;go_simp) hH ?_;refine tkQ 4 (.pointer (some ⟨b1,0,none⟩)) hH ?_;refine tkQ 5 (.pointer (some ⟨b1,0,none⟩)) hH ?_;refine tkQ 6 (.pointer (some ⟨b1,1,none⟩)) hH ?_;refine tlQ 7 (.slice (some ⟨gq,off,none⟩) (ln+1) qc) rfl (by intro v hSw;have s0:=hSw.2.1;clear hSw;go_simp) hH ?_;refine tkQ 8 (.pointer (some ⟨gq,off,none⟩)) hH ?_;refine tlQ 9 (.int .i64 (xn:Int)) rfl (by intro v hSw;have s0:=hSw.2.2.1;clear hSw;go_simp) hH ?_;refine tkQ 10 (.pointer (some ⟨ge,xn*4,none⟩)) hH ?_;refine tlQ 11 (.agg #[.int .u8 (op:Int),.string key,.int .u16 (seq:Int),.int .i16 val]) rfl (by intro v hSw;have s0:=hSw.2.2.2.1;have s1:=hSw.2.2.2.2.1;have s2:=hSw.2.2.2.2.2.1;have s3:=hSw.2.2.2.2.2.2;clear hSw;go_simp) hH ?_;refine rdQ [12] ?_
 refine arQ λK hK=>?_
 clear hH;go_simp;refine hK.out _ _ (HS.out.below ((Below.refl _ _).alloc (Nat.le_refl _) _).drew) (λhH=>?_);clear hK K;refine rdQ [13] ?_
 refine arQ λK hK=>?_
 clear hH;go_simp;have hbe:(w.alloc (.cells #[.int .u8 (op:Int),.string key,.int .u16 (seq:Int),.int .i16 val] 40)).drew.heap[w.heap.size]? =some (.cells #[.int .u8 (op:Int),.string key,.int .u16 (seq:Int),.int .i16 val] 40 (0,0)):=heap_alloc_new w _
 have HB:=show Hid (Below w.heap.size w (w.alloc (.cells #[.int .u8 (op:Int),.string key,.int .u16 (seq:Int),.int .i16 val] 40)).drew)from((Below.refl _ _).alloc (Nat.le_refl _) _).drew
 refine hK.out _ _ (HS.out.below HB.out) (λhH=>?_);clear hK K hH;refine wpAnyH_done krQ ?_ _;have c3e:=Qae c3 HB.out;clear HSd HS;generalize(w.alloc (.cells #[.int .u8 (op:Int),.string key,.int .u16 (seq:Int),.int .i16 val] 40)).drew=we at hbe HB c3e ⊢;go_wp2
 go_cut [9]from 129 (λs9 wc=>∃kb:Nat,s9=Value.pointer (some ⟨kb,0,none⟩)/\KCut w b1 ga ng gc had last there value count op key seq val kb wc)
 case first=>
  have HBd:Below w.heap.size w we.drew:=HB.out.drew;have hbd:we.drew.heap[w.heap.size]? =some (.cells #[.int .u8 (op:Int),.string key,.int .u16 (seq:Int),.int .i16 val] 40 (0,0)):=hbe;have c3d:we.drew.cell? ⟨b1,0,none⟩=some (.slice ga ng gc):=c3e;clear c3e hbe HB;refine wp_region_held_drew (S:=λw':World=>w'.cell? ⟨b1,0,none⟩=some (.slice ga ng gc)/\w'.heap[w.heap.size]? =some (.cells #[.int .u8 (op:Int),.string key,.int .u16 (seq:Int),.int .i16 val] 40 (0,0))) krQ ⟨c3d,hbd⟩ (λhH=>?_);generalize we.drew=wd at HBd hbd c3d hH ⊢;refine tkQ 0 (.pointer (some ⟨b1,0,none⟩)) hH ?_;refine tkQ 1 (.pointer (some ⟨b1,0,none⟩)) hH ?_;refine tkQ 2 (.pointer (some ⟨b1,0,none⟩)) hH ?_;refine tlQ 3 (.slice ga ng gc) rfl (by intro v hSw;have s0:=hSw.1;clear hSw;go_simp) hH ?_;refine tkQ 4 (.pointer (some ⟨w.heap.size,1,none⟩)) hH ?_;refine tlQ 5 (.string key) rfl (by intro v hSw;have s0:v.cell? ⟨w.heap.size,1,none⟩=some (.string key):=Qaa hSw.2 1;clear hSw;go_simp) hH ?_;have hlt:=Qac hbd;refine rdQ [6,7] ?_;refine AllReadyH.cons rfl (λK hK=>?_) (arQ λK hK=>?_)
  focus
   clear hH;go_simp
   go_wp2_with(go_at_call 69;refine(HK.out _ HBd).mono ?_;rintro en w1 ⟨rfl,hb1⟩)
   have hbd1:=(hb1.block _ hlt).trans hbd;have c31:=Qae c3d hb1;have HB1:Below w.heap.size w w1:=HBd.trans (hb1.mono HBd.size);have hlt1:=Qac hbd1;refine hK.out _ _ ⟨c31,hbd1⟩ (λhH=>?_);clear hK K;refine rdQ [7] ?_
   refine arQ λK hK=>?_
   clear hH;go_simp;refine hK.out _ _ ⟨Qae c31 ((Below.refl _ _).alloc (Nat.le_refl _) _),(Below.heap_alloc _ _ _ hlt1).trans hbd1⟩ (λhH=>?_);clear hK K;refine rdQ [8] ?_
   refine arQ λK hK=>?_
   clear hH;go_simp;have hkk:=heap_alloc_new w1 (.cells #[.bool had,.int .i64 (last:Int),.bool there,.int .i64 value,.int .i64 (count:Int)] 144);have hbk:=(Below.heap_alloc w1 (.cells #[.bool had,.int .i64 (last:Int),.bool there,.int .i64 value,.int .i64 (count:Int)] 144) _ hlt1).trans hbd1;have c3k:=Qae c31 ((Below.refl w1.heap.size w1).alloc (Nat.le_refl _) (.cells #[.bool had,.int .i64 (last:Int),.bool there,.int .i64 value,.int .i64 (count:Int)] 144));have HBk:Below w.heap.size w (w1.alloc (.cells #[.bool had,.int .i64 (last:Int),.bool there,.int .i64 value,.int .i64 (count:Int)] 144)):=HB1.alloc HB1.size _;refine hK.out _ _ ⟨c3k,hbk⟩ (λhH=>?_);clear hK K hH;have hne:w1.heap.size≠w.heap.size:=Nat.ne_of_gt hlt1;clear hlt1 hlt c3d hbd HBd c31 hbd1 HB1 hb1;generalize w1.alloc (.cells #[.bool had,.int .i64 (last:Int),.bool there,.int .i64 value,.int .i64 (count:Int)] 144)=wk at hkk hbk c3k HBk ⊢;generalize w1.heap.size=kb at hkk hne ⊢;clear w1;refine wpAnyH_done krQ ?_ _
   go_wp2_with fail
   go_meet
   exact⟨kb,rfl,hkk,hbk,c3k,HBk,hne⟩
  focus
   clear hH;go_simp;have hkk:=heap_alloc_new wd (.cells #[.bool false,.int .i64 0,.bool false,.int .i64 0,.int .i64 0] 144);have hbk:=(Below.heap_alloc wd (.cells #[.bool false,.int .i64 0,.bool false,.int .i64 0,.int .i64 0] 144) _ hlt).trans hbd;have c3k:=Qae c3d ((Below.refl wd.heap.size wd).alloc (Nat.le_refl _) (.cells #[.bool false,.int .i64 0,.bool false,.int .i64 0,.int .i64 0] 144));have HBk:Below w.heap.size w (wd.alloc (.cells #[.bool false,.int .i64 0,.bool false,.int .i64 0,.int .i64 0] 144)):=HBd.alloc HBd.size _;refine hK.out _ _ ⟨c3k,hbk⟩ (λhH=>?_);clear hK K;have hne:wd.heap.size≠w.heap.size:=Nat.ne_of_gt hlt;have hle:w.heap.size<=wd.heap.size:=HBd.size;clear hlt c3d hbd HBd;generalize wd.alloc (.cells #[.bool false,.int .i64 0,.bool false,.int .i64 0,.int .i64 0] 144)=wa at hkk hbk c3k HBk hH ⊢;have hb1k:b1≠wd.heap.size:=Nat.ne_of_lt (Nat.lt_of_lt_of_le (Qan c3) hle);generalize wd.heap.size=kb at hkk hne hle hb1k hH ⊢;clear wd;refine rdQ [6] ?_
   refine arQ λK hK=>?_
   clear hH;go_simp
   go_wp2_with(go_at_call 69;refine(HK.out _ HBk).mono ?_;rintro en w1 ⟨rfl,hb1⟩)
   have hkk1:=(hb1.block _ (Qac hkk)).trans hkk;have hbk1:=(hb1.block _ (Qac hbk)).trans hbk;have c3k1:=Qae c3k hb1;have HBk1:Below w.heap.size w w1:=HBk.trans (hb1.mono HBk.size);refine hK.out _ _ ⟨c3k1,hbk1⟩ (λhH=>?_);clear hK K hkk hbk c3k HBk hb1;clear wa;refine rdQ [8] ?_
   refine arQ λK hK=>?_
   clear hH;have y0:w1.cell? ⟨kb,0,none⟩=some (.bool false):=Qaa hkk1 0;have y1:w1.cell? ⟨kb,1,none⟩=some (.int .i64 0):=Qaa hkk1 1;have y2:w1.cell? ⟨kb,2,none⟩=some (.bool false):=Qaa hkk1 2;have y3:w1.cell? ⟨kb,3,none⟩=some (.int .i64 0):=Qaa hkk1 3;have y4:w1.cell? ⟨kb,4,none⟩=some (.int .i64 0):=Qaa hkk1 4;have z0:w1.frozen? ⟨kb,0,none⟩=false:=Qab hkk1 0;have z1:w1.frozen? ⟨kb,1,none⟩=false:=Qab hkk1 1;have z2:w1.frozen? ⟨kb,2,none⟩=false:=Qab hkk1 2;have z3:w1.frozen? ⟨kb,3,none⟩=false:=Qab hkk1 3;have z4:w1.frozen? ⟨kb,4,none⟩=false:=Qab hkk1 4;go_simp;obtain⟨hkk,HBk,hoth⟩:=fill5 hkk1 HBk1 hle (.bool had) (.int .i64 (last:Int)) (.bool there) (.int .i64 value) (.int .i64 (count:Int));have hbk:=(hoth _ (Ne.symm hne)).trans hbk1;have c3k:=(World.cell?_of_block (a:=⟨b1,0,none⟩) (hoth b1 hb1k)).trans c3k1;clear hoth y0 y1 y2 y3 y4 z0 z1 z2 z3 z4 hkk1 hbk1 c3k1 HBk1 hle;generalize(((((w1.setCell ⟨kb,0,none⟩ (.bool had)).setCell ⟨kb,1,none⟩ (.int .i64 (last:Int))).setCell ⟨kb,2,none⟩ (.bool there)).setCell ⟨kb,3,none⟩ (.int .i64 value)).setCell ⟨kb,4,none⟩ (.int .i64 (count:Int)))=wk at hkk hbk c3k HBk ⊢;refine hK.out _ _ ⟨c3k,hbk⟩ (λhH=>?_);clear hK K hH;clear w1;refine wpAnyH_done krQ ?_ _
   go_wp2_with fail
   go_meet
   exact⟨kb,rfl,hkk,hbk,c3k,HBk,hne⟩
 case rest=>
  obtain⟨kb,rfl,hkk,hbk,c3k,HBk,hne⟩:=hcut;clear hbe HB c3e;clear we
  revert wc
  intro wk hkk hbk c3k HBk;have y0:wk.cell? ⟨kb,0,none⟩=some (.bool had):=Qaa hkk 0;have y1:wk.cell? ⟨kb,1,none⟩=some (.int .i64 (last:Int)):=Qaa hkk 1;have y2:wk.cell? ⟨kb,2,none⟩=some (.bool there):=Qaa hkk 2;have y3:wk.cell? ⟨kb,3,none⟩=some (.int .i64 value):=Qaa hkk 3;have y4:wk.cell? ⟨kb,4,none⟩=some (.int .i64 (count:Int)):=Qaa hkk 4;have v0:wk.cell? ⟨w.heap.size,0,none⟩=some (.int .u8 (op:Int)):=Qaa hbk 0;have v1:wk.cell? ⟨w.heap.size,1,none⟩=some (.string key):=Qaa hbk 1;have v2:wk.cell? ⟨w.heap.size,2,none⟩=some (.int .u16 (seq:Int)):=Qaa hbk 2;have v3:wk.cell? ⟨w.heap.size,3,none⟩=some (.int .i16 val):=Qaa hbk 3
  go_wp2_with(first | (go_at_call 77;refine(HC.out _).mono ?_;rintro en w4 ⟨rfl,hb4⟩;have v14:w4.cell? ⟨w.heap.size,1,none⟩=some (.string key):=Qae v1 hb4) | (go_at_call 68;refine(HGr.out _).mono ?_;rintro en w5 ⟨rfl,q5,rfl⟩))
  have hbe4:(w4.drewN q5).heap[w.heap.size]? =some (.cells #[.int .u8 (op:Int),.string key,.int .u16 (seq:Int),.int .i16 val] 40 (0,0)):=(hb4.block _ (Qac hbk)).trans hbk;have hkk4:(w4.drewN q5).heap[kb]? =some (.cells #[.bool had,.int .i64 (last:Int),.bool there,.int .i64 value,.int .i64 (count:Int)] 144 (0,0)):=(hb4.block _ (Qac hkk)).trans hkk;have HB4:Below w.heap.size w (w4.drewN q5):=below_drewN (HBk.trans (hb4.mono HBk.size)) q5;clear y0 y1 y2 y3 y4 v0 v1 v2 v3 v14 hkk hbk c3k HBk hb4;generalize w4.drewN q5=w5 at hbe4 hkk4 HB4 ⊢;clear w4 q5 wk;have c0:=Qae HCC.out.1 HB4;have c1:=Qae HCC.out.2.1 HB4;have c5:=Qae HCC.out.2.2.1 HB4;have d2:=Qae HCC.out.2.2.2.1 HB4;have e5:=Qae HCC.out.2.2.2.2.1 HB4;have f1:=Qae HCC.out.2.2.2.2.2 HB4
  go_quiet (fail)
  revert nq
  intro n1;go_wp2
  go_quiet (fail)
  revert nq
  intro n2;have HB7:Below w.heap.size w ((w5.drewN n1).drewN n2):=below_drewN (below_drewN HB4 _) _;have he7:((w5.drewN n1).drewN n2).heap[w.heap.size]? =some (.cells #[.int .u8 (op:Int),.string key,.int .u16 (seq:Int),.int .i16 val] 40 (0,0)):=hbe4;have hk7:((w5.drewN n1).drewN n2).heap[kb]? =some (.cells #[.bool had,.int .i64 (last:Int),.bool there,.int .i64 value,.int .i64 (count:Int)] 144 (0,0)):=hkk4;clear HB4 hbe4 hkk4 c0 c1 c5 d2 e5 f1;generalize(w5.drewN n1).drewN n2=w7 at HB7 he7 hk7 ⊢;clear n1 n2 w5
  have k0:∀o,(w7.alloc o).cell? ⟨w.heap.size,0,none⟩=some (.int .u8 (op:Int)):=λo=>Qae (Qaa he7 0) ((Below.refl _ _).alloc (Nat.le_refl _) _)
  have k3:∀o,(w7.alloc o).cell? ⟨w.heap.size,3,none⟩=some (.int .i16 val):=λo=>Qae (Qaa he7 3) ((Below.refl _ _).alloc (Nat.le_refl _) _)
  have l2:∀o,(w7.alloc o).cell? ⟨kb,2,none⟩=some (.bool there):=λo=>Qae (Qaa hk7 2) ((Below.refl _ _).alloc (Nat.le_refl _) _)
  have l3:∀o,(w7.alloc o).cell? ⟨kb,3,none⟩=some (.int .i64 value):=λo=>Qae (Qaa hk7 3) ((Below.refl _ _).alloc (Nat.le_refl _) _)
  go_upto_if 176 with fail
  obtain⟨nb,hnbe⟩:∃nb,w7.heap.size=nb:=⟨_,rfl⟩
  have HNB:=hdQ hnbe;clear hnbe
  go_cut [10]from 177 (λs10 wc=>s10=Value.bool true/\NCut w had last there value count op key seq val kb nb p tx (if op=1 then 1 else 0) (if op=1 then val else 0) wc)
  case first=>
   have he8:=λo=>(Below.heap_alloc w7 o _ (Qac he7)).trans he7
   have hk8:=λo=>(Below.heap_alloc w7 o _ (Qac hk7)).trans hk7
   have HE:=show Hid (_/\_/\_/\_)from And.intro he8 (And.intro hk8 (And.intro (λo=>HB7.alloc HB7.size o) (And.intro (Qac he7) (Qac hk7))))
   clear he8 hk8
   by_cases ho:op=1
   ·have ho1:((op:Int)==1)=true:=by rw[ho];rfl
    have HO:=show Hid (op=1)from ho
    clear ho;go_wp2
    go_meet
    rw[if_pos HO.out,if_pos HO.out,<-HNB.out];exact⟨rfl,heap_alloc_new w7 _,HE.out.2.1 _,HE.out.1 _,HE.out.2.2.1 _,HE.out.2.2.2.1,HE.out.2.2.2.2⟩
   ·have ho1:((op:Int)==1)=false:=by rw[beq_eq_false_iff_ne];omega
    have HO:=show Hid (¬op=1)from ho
    clear ho;go_wp2
    go_meet
    rw[if_neg HO.out,if_neg HO.out,<-HNB.out];exact⟨rfl,heap_alloc_new w7 _,HE.out.2.1 _,HE.out.1 _,HE.out.2.2.1 _,HE.out.2.2.2.1,HE.out.2.2.2.2⟩
  case rest=>
  obtain⟨rfl,hc1,hc2,hc3,hc4,hc5,hc6⟩:=hcut;rw[HNB.out];have hcl:cl=(if op=1 then 1 else 0)-(if there then 1 else 0):=HCL.out.1;have hcd:cd=(if op=1 then val else 0)-(if there then value else 0):=HCL.out.2
  have hb1':(0:Int)<=(if op=1 then 1 else 0)/\(if op=1 then(1:Int)else 0)<=1:=by split<;>omega
  have hb2':-32768<=(if op=1 then val else 0)/\(if op=1 then val else 0)<=32767:=by split<;>omega
  clear HCL HNB k0 k3 l2 l3 HB7 he7 hk7;clear w7;generalize(if op=1 then(1:Int)else 0)=cl1 at hc1 hcl hb1';generalize(if op=1 then val else 0)=cd1 at hc1 hcd hb2'
  have HCL:=show Hid (_/\_)from And.intro hcl hcd
  clear hcl hcd
  revert wc
  intro w8 hc2 hc3 hc4 hc1;have y2:w8.cell? ⟨kb,2,none⟩=some (.bool there):=Qaa hc2 2;have y3:w8.cell? ⟨kb,3,none⟩=some (.int .i64 value):=Qaa hc2 3;have n2:w8.cell? ⟨nb,2,none⟩=some (.int .i64 cl1):=Qaa hc1 2;have n3:w8.cell? ⟨nb,3,none⟩=some (.int .i64 cd1):=Qaa hc1 3;have z2:w8.frozen? ⟨nb,2,none⟩=false:=Qab hc1 2;have z3:w8.frozen? ⟨nb,3,none⟩=false:=Qab hc1 3;have hknb:kb≠nb:=Nat.ne_of_lt hc6
  go_upto_if 189 with fail
  go_cut [10]from 190 (λs10 wc=>s10=Value.bool true/\NCut w had last there value count op key seq val kb nb p tx cl cd wc)
  case first=>
   cases there with
   | true=>
    have HE:=show Hid (NCut w had last true value count op key seq val kb nb p tx cl cd ((w8.setCell ⟨nb,2,none⟩ (.int .i64 (cl1-1))).setCell ⟨nb,3,none⟩ (.int .i64 (cd1-value))))from by
     have hcl:=HCL.out.1;have hcd:=HCL.out.2;simp only[if_true]at hcl hcd;rw[hcl,hcd];have h2:=(Qag (j:=2) hc1 (.int .i64 (cl1-1))).trans rfl;have h3:=(Qag (j:=3) h2 (.int .i64 (cd1-value))).trans rfl;refine⟨h3,?_,?_,(hc4.setCell (p:=⟨nb,2,none⟩) (Nat.le_of_lt hc5) _).setCell (p:=⟨nb,3,none⟩) (Nat.le_of_lt hc5) _,hc5,hc6⟩
     ·rw[Below.heap_setCell _ _ _ _ (Nat.ne_of_lt hc6),Below.heap_setCell _ _ _ _ (Nat.ne_of_lt hc6)];exact hc2
     ·rw[Below.heap_setCell _ _ _ _ (Nat.ne_of_lt hc5),Below.heap_setCell _ _ _ _ (Nat.ne_of_lt hc5)];exact hc3
    clear hc1 hc2 hc3 hc4 HCL;go_wp2
    go_meet
    exact⟨rfl,HE.out⟩
   | false=>
    have HE:=show Hid (NCut w had last false value count op key seq val kb nb p tx cl cd w8)from by
     have hcl:=HCL.out.1;have hcd:=HCL.out.2;simp only[Bool.false_eq_true,if_false,Int.sub_zero]at hcl hcd;rw[hcl,hcd];exact⟨hc1,hc2,hc3,hc4,hc5,hc6⟩
    clear hc1 hc2 hc3 hc4 HCL;go_wp2
    go_meet
    exact⟨rfl,HE.out⟩
  case rest=>
  obtain⟨rfl,hnb,_,he8,HB8,hnl,_⟩:=hcut;clear hc1 hc2 hc3 hc4 y2 y3 n2 n3 z2 z3 HCL hknb hb1' hb2';clear w8
  revert wc
  intro w8 hnb _ he8 HB8
  go_wp2_with fail
  have hn8:w8.drew.heap[nb]? =some (.cells #[.int .i64 (p:Int),.string tx,.int .i64 cl,.int .i64 cd] 151 (0,0)):=hnb;have HB9:Below w.heap.size w w8.drew:=HB8.drew;have he9:=QcG he8;clear hnb HB8 he8;have e58:=Qae HCC.out.2.2.2.2.1 HB9;have f18:=Qae HCC.out.2.2.2.2.2 HB9;refine wp_region_held_drew (S:=λw':World=>w'.cell? ⟨b2,1,none⟩=some (.slice (some ⟨gp,0,none⟩) W pc)/\w'.heap[nb]? =some (.cells #[.int .i64 (p:Int),.string tx,.int .i64 cl,.int .i64 cd] 151 (0,0))) krQ ⟨e58,hn8⟩ (λhH=>?_);generalize w8.drew=wx at hn8 HB9 he9 e58 f18 hH ⊢;refine tkQ 0 (.pointer (some ⟨b2,0,none⟩)) hH ?_;refine tkQ 1 (.pointer (some ⟨b2,0,none⟩)) hH ?_;refine tkQ 2 (.pointer (some ⟨b2,1,none⟩)) hH ?_;refine tlQ 3 (.slice (some ⟨gp,0,none⟩) W pc) rfl (by intro v hSw;have s0:=hSw.1;clear hSw;go_simp) hH ?_;refine tkQ 4 (.int .i64 (i:Int)) hH ?_;refine tkQ 5 (.pointer (some ⟨b2,0,none⟩)) hH ?_;refine tkQ 6 (.pointer (some ⟨b2,0,none⟩)) hH ?_;refine tkQ 7 (.pointer (some ⟨b2,1,none⟩)) hH ?_;refine tlQ 8 (.slice (some ⟨gp,0,none⟩) W pc) rfl (by intro v hSw;have s0:=hSw.1;clear hSw;go_simp) hH ?_;refine tkQ 9 (.int .i64 (i:Int)) hH ?_;refine tkQ 10 (.pointer (some ⟨gp,i,none⟩)) hH ?_;refine tlQ 12 (.agg #[.int .i64 (p:Int),.string tx,.int .i64 cl,.int .i64 cd]) rfl (by intro v hSw;have s0:v.cell? ⟨nb,0,none⟩=some (.int .i64 (p:Int)):=Qaa hSw.2 0;have s1:v.cell? ⟨nb,1,none⟩=some (.string tx):=Qaa hSw.2 1;have s2:v.cell? ⟨nb,2,none⟩=some (.int .i64 cl):=Qaa hSw.2 2;have s3:v.cell? ⟨nb,3,none⟩=some (.int .i64 cd):=Qaa hSw.2 3;clear hSw;go_simp) hH ?_;have hba:=(Below.refl wx.heap.size wx).alloc (Nat.le_refl _) (.cells #[.int .i64 (p:Int),.string tx,.int .i64 cl,.int .i64 cd] 151);have hnx:=(hba.block _ (Qac hn8)).trans hn8;have hex:=(hba.block _ (Qac he9)).trans he9;have e5x:=Qae e58 hba;have f1x:=Qae f18 hba;have HBx:Below w.heap.size w (wx.alloc (.cells #[.int .i64 (p:Int),.string tx,.int .i64 cl,.int .i64 cd] 151)):=HB9.alloc HB9.size _;clear hba;refine rdQ [11,13] ?_;refine AllReadyH.cons rfl (λK hK=>?_) (arQ λK hK=>?_)
  focus
   clear hH;go_simp;refine hK.out _ _ ⟨e58,hn8⟩ (λhH=>?_);clear hK K;refine rdQ [13] ?_
   refine arQ λK hK=>?_
   clear hH;go_simp;refine hK.out _ _ ⟨e5x,hnx⟩ (λhH=>?_);clear hK K
  rotate_left
  focus
   clear hH;go_simp;refine hK.out _ _ ⟨e5x,hnx⟩ (λhH=>?_);clear hK K;refine rdQ [11] ?_
   refine arQ λK hK=>?_
   clear hH;go_simp;refine hK.out _ _ ⟨e5x,hnx⟩ (λhH=>?_);clear hK K
  all_goals
   refine rdQ [14] ?_
   refine arQ λK hK=>?_
   refine QaM rfl ?_;have hqx:qRow (wx.alloc (.cells #[.int .i64 (p:Int),.string tx,.int .i64 cl,.int .i64 cd] 151)) B 151 4 (.slice va la vc) la ys:=Hq.out.old HBx;have hsx:w.heap.size<=wx.heap.size:=HB9.size;refine QbP _ (.tmp 211) (.tmp 213) 79 rfl B 151 j0 (.agg #[.int .i64 0,.string ⟨#[]⟩,.int .i64 0,.int .i64 0]) 4 40 Tryz.underlying79 hj0 hy0 hy1 hy2 rfl (.slice va la vc) la ys rfl hqx ⟨wx.heap.size,0,none⟩ 1 [.int .i64 (p:Int),.string tx,.int .i64 cl,.int .i64 cd] rfl rfl (by have:=QaC wx (.int .i64 (p:Int)) (.string tx) (.int .i64 cl) (.int .i64 cd) 151;simpa using this) (Qcl ⟨(p:Int),tx,cl,cd⟩) (by omega) (by omega) (by simp;omega) ?_;intro v' w5 hq5 happ;have hev:(∀g,(Value.slice va la vc).ownBlock=some g->g<w.heap.size):=Hvl.out;have hn5:=((Qat happ).block nb (Qac hnx) (λe=>Nat.lt_irrefl _ (Nat.lt_trans hnl (hev _ e.symm)))).trans hnx;have he5:=((Qat happ).block w.heap.size (Qac hex) (λe=>Nat.lt_irrefl _ (hev _ e.symm))).trans hex;obtain⟨r5,z5,e55,e56,_⟩:=HPP.out _ v' w5 HBx hq5 happ
   have HG9:=show Hid _ from(HPP.out _ v' w5.drew HBx hq5 (AppQ.drew happ)).2.2.2.2
   refine hK.out _ _ ⟨e55,hn5⟩ (λhH=>?_);obtain⟨a5,c5,rfl⟩:=hq5.shape;clear hK K hq5 happ hqx hev;refine tkQ 15 (.pointer (some ⟨gp,i,none⟩)) hH ?_;refine rdQ [16] ?_
   refine arQ λK hK=>?_
   clear hH;go_simp;have hn6:(w5.setCell ⟨gp,i,none⟩ (.slice a5 (la+1) c5)).heap[nb]? =some (.cells #[.int .i64 (p:Int),.string tx,.int .i64 cl,.int .i64 cd] 151 (0,0)):=(Below.heap_setCell w5 ⟨gp,i,none⟩ (.slice a5 (la+1) c5) nb (λe=>by have e':nb=gp:=e;omega)).trans hn5;have he6:=(Below.heap_setCell w5 ⟨gp,i,none⟩ (.slice a5 (la+1) c5) w.heap.size (λe=>by have e':w.heap.size=gp:=e;omega)).trans he5;refine hK.out _ _ ⟨e56,hn6⟩ (λhH=>?_);clear hK K hH;refine wpAnyH_done krQ ?_ _;clear r5 z5 e55 e56 hn5 hn6 he5 hn8 he9 e58 f18 hnx hex e5x f1x hsx hnl HB9 HBx;have HG10:Hid (GotG B b1 w.heap.size (w5.setCell ⟨gp,i,none⟩ (.slice a5 (la+1) c5)).drew (.slice ga ng gc) ng (evCells gs) (evCells1 ⟨op,key,seq,val⟩) (TailG b1 gq off ln qc Q)):=HG9.out;clear HG9;generalize w5.setCell ⟨gp,i,none⟩ (.slice a5 (la+1) c5)=w10 at he6 HG10 ⊢;go_wp2;have hbx:w10.drew.heap[w.heap.size]? =some (.cells #[.int .u8 (op:Int),.string key,.int .u16 (seq:Int),.int .i16 val] 40 (0,0)):=he6;have HX:=HG10.out;refine wp_region_held_drew (S:=λw':World=>w'.heap[w.heap.size]? =some (.cells #[.int .u8 (op:Int),.string key,.int .u16 (seq:Int),.int .i16 val] 40 (0,0))) krQ hbx (λhH=>?_);obtain⟨r0,hrow,hng,hBx,hvg,hbb,hgo⟩:=HX;have HG2:=hdQ hgo
   have HRow:=show Hid (w10.drew.ownsRow B 40 4 (.slice ga ng gc) ng (evCells gs))from hrow
   clear hgo hrow;have hwl:w.heap.size<w10.drew.heap.size:=Qac hbx;generalize w10.drew=w3 at hbx hH r0 HRow hBx hwl HG2 ⊢;refine tkQ 0 (.pointer (some ⟨b1,0,none⟩)) hH ?_;refine tkQ 1 (.pointer (some ⟨b1,0,none⟩)) hH ?_;refine tkQ 2 (.pointer (some ⟨b1,0,none⟩)) hH ?_;refine tkQ 3 (.pointer (some ⟨b1,0,none⟩)) hH ?_;refine tlQ 5 (.agg #[.int .u8 (op:Int),.string key,.int .u16 (seq:Int),.int .i16 val]) rfl (by intro v hSw;have s0:v.cell? ⟨w.heap.size,0,none⟩=some (.int .u8 (op:Int)):=Qaa hSw 0;have s1:v.cell? ⟨w.heap.size,1,none⟩=some (.string key):=Qaa hSw 1;have s2:v.cell? ⟨w.heap.size,2,none⟩=some (.int .u16 (seq:Int)):=Qaa hSw 2;have s3:v.cell? ⟨w.heap.size,3,none⟩=some (.int .i16 val):=Qaa hSw 3;clear hSw;go_simp) hH ?_;have hba:=(Below.refl w3.heap.size w3).alloc (Nat.le_refl _) (.cells #[.int .u8 (op:Int),.string key,.int .u16 (seq:Int),.int .i16 val] 40);have hb4:(w3.alloc (.cells #[.int .u8 (op:Int),.string key,.int .u16 (seq:Int),.int .i16 val] 40)).heap[w.heap.size]? =some (.cells #[.int .u8 (op:Int),.string key,.int .u16 (seq:Int),.int .i16 val] 40 (0,0)):=(Below.heap_alloc _ _ _ hwl).trans hbx;have r0a:(w3.alloc (.cells #[.int .u8 (op:Int),.string key,.int .u16 (seq:Int),.int .i16 val] 40)).cell? ⟨b1,0,none⟩=some (.slice ga ng gc):=Qae r0 hba;have HBa:=hdQ hba;clear hba;refine rdQ [4,6] ?_;refine AllReadyH.cons rfl (λK hK=>?_) (arQ λK hK=>?_)
   focus
    clear hH;go_simp;refine hK.out _ _ hbx (λhH=>?_);clear hK K;refine rdQ [6] ?_
    refine arQ λK hK=>?_
    clear hH;go_simp;refine hK.out _ _ hb4 (λhH=>?_);clear hK K
   rotate_left
   focus
    clear hH;go_simp;refine hK.out _ _ hb4 (λhH=>?_);clear hK K;refine rdQ [4] ?_
    refine arQ λK hK=>?_
    clear hH;go_simp;refine hK.out _ _ hb4 (λhH=>?_);clear hK K
   all_goals
    refine rdQ [7] ?_
    refine arQ λK hK=>?_
    refine QaM rfl ?_;refine Qau _ (.tmp 220) (.tmp 222) 33 rfl B 40 i0 (.agg #[.int .u8 0,.string ⟨#[]⟩,.int .u16 0,.int .i16 0]) 4 32 Tryz.underlying33 hi0 hz0 hz1 hz2 rfl (by decide) (.slice ga ng gc) ng (evCells gs) rfl (HRow.out.alloc _) ⟨w3.heap.size,0,none⟩ 1 1 (evCells1 ⟨op,key,seq,val⟩) rfl rfl (by have:=QaC w3 (.int .u8 (op:Int)) (.string key) (.int .u16 (seq:Int)) (.int .i16 val) 40;simpa[evCells1]using this) (Qbl _) (by unfold maxLen;omega) (by omega) (by simp;omega) (by decide) ?_;intro v' w5 hown5 happ;obtain⟨r5,z5,hQ⟩:=HG2.out _ w5 v' HBa.out hown5 happ;have hb5:w5.heap[w.heap.size]? =some (.cells #[.int .u8 (op:Int),.string key,.int .u16 (seq:Int),.int .i16 val] 40 (0,0)):=((Qat happ).block _ (Qac hb4) (λe=>hvg _ e.symm rfl)).trans hb4;refine hK.out _ _ hb5 (λhH=>?_);have HQ:=hdQ hQ;obtain⟨a5,c5,rfl⟩:=Qaf hown5;clear hK K hown5 happ HRow HG2 HBa hQ r0a hb4;refine tkQ 8 (.pointer (some ⟨b1,0,none⟩)) hH ?_;refine tkQ 9 (.pointer (some ⟨b1,0,none⟩)) hH ?_;refine rdQ [10] ?_
    refine arQ λK hK=>?_
    clear hH;go_simp;have hb6:(w5.setCell ⟨b1,0,none⟩ (.slice a5 (ng+1) c5)).heap[w.heap.size]? =some (.cells #[.int .u8 (op:Int),.string key,.int .u16 (seq:Int),.int .i16 val] 40 (0,0)):=(Below.heap_setCell w5 ⟨b1,0,none⟩ (.slice a5 (ng+1) c5) w.heap.size (λe=>by have e':w.heap.size=b1:=e;exact hbb e'.symm)).trans hb5;refine hK.out _ _ hb6 (λhH=>?_);clear hK K hH;refine wpAnyH_done krQ ?_ _;clear r5 z5 hb5 hb6 hbx r0 hwl;generalize w5.setCell ⟨b1,0,none⟩ (.slice a5 (ng+1) c5)=w6 at HQ ⊢;obtain⟨t1,t2,hT⟩:=HQ.out
    have HT1:=show Hid _ from hT _ (.inl rfl)
    have HT2:=show Hid (qc=1->_)from λe:qc=1=>hT (.slice (some ⟨gq,off,none⟩) ln 0) (.inr ⟨e,rfl⟩)
    clear hT HQ;go_wp2
    all_goals
     go_ret
    ·exact⟨rfl,HT2.out omQ⟩
    ·exact⟨rfl,HT1.out⟩
theorem IsEvs.of_own{w:World}{B c:Nat}{a:Option Addr}{es:List Ev}(h:w.ownsRow B 40 4 (.slice a es.length c) es.length (evCells es))(hok:∀e∈es,e.ok):IsEvs w a es:=by
 refine⟨hok,?_⟩
 rcases Qai h with⟨_,h0⟩ | ⟨g,rfl⟩
 ·exact .inl (List.length_eq_zero_iff.mp h0)
 ·exact .inr ⟨g,0,rfl,(Qbt h).2,λk hk=>by have:=QcQ h k hk;simpa using this⟩
section
variable {f:Owners} {w:World} {B k jb:Nat} {sb ab:List Nat} {j:JobM}
theorem RJob.gotS(h:RJob f w B k jb sb ab j)(i:Nat)(hi:i<sb.length)(hi':i<j.sorters.length)(hwid:j.width<=9):
  ∃vg,w.cell? ⟨sb[i],0,none⟩=some vg/\w.ownsRow B 40 4 vg (j.sorters[i]).got.length (evCells (j.sorters[i]).got)/\
   (∀wa v' w5 (e:Ev),Below w.heap.size w wa->w5.ownsRow B 40 4 v' ((j.sorters[i]).got.length+1) (evCells (j.sorters[i]).got++evCells1 e)->AppQ wa w5 vg v'->
    w5.cell? ⟨sb[i],0,none⟩=some vg/\w5.frozen? ⟨sb[i],0,none⟩=false/\(w5.setCell ⟨sb[i],0,none⟩ v').frozen? ⟨sb[i],1,none⟩=false/\(∀u,w.cell? ⟨sb[i],1,none⟩=some u->(w5.setCell ⟨sb[i],0,none⟩ v').cell? ⟨sb[i],1,none⟩=some u)/\
    RAfter f w B k jb sb ab {j with sorters:=j.sorters.set i {j.sorters[i]with got:=(j.sorters[i]).got++[e]}} (w5.setCell ⟨sb[i],0,none⟩ v')):=by
 obtain⟨ho,vg,vp,hb,hg,og,hp,op⟩:=h.sorters i hi hi'
 have hiw:i<j.width:=by rw[<-h.lenS.1];exact hi
 refine⟨vg,Qad hb 0,hg,λwa v' w5 e hba hq5 happ=>?_⟩;have hf5:FrmO f (λc=>c=k+200+i) w w5:=(FrmO.of_below hba).trans (Same.refl _ _) (happ.frm og);have hb5:=Qaq hb hf5 ho omQ;obtain⟨f',hs',hv'⟩:=happ.owner hba og
 have hne:v'.ownBlock≠some sb[i]:=λe=>by
  obtain⟨a3,c3,rfl⟩:=Qaf hq5
  rcases Qai hq5 with⟨_,h0⟩ | ⟨g3,rfl⟩
  ·omega
  obtain⟨cur,hc⟩:=QbV hq5;have e':g3=sb[i]:=Option.some.inj e;rw[e',hb5]at hc;simp only[Option.some.injEq,Obj.cells.injEq]at hc;have:=hc.2.1;exact absurd this (by decide)
 have hf6:FrmO f (λc=>c=k+100+i\/c=k+200+i) w (w5.setCell ⟨sb[i],0,none⟩ v'):=
  (hf5.mono λ_ hc=>.inr hc).trans (Same.refl _ _) (FrmO.of_set (S:=λc=>c=k+100+i\/c=k+200+i) ho (.inl rfl) _)
 have hb6:(w5.setCell ⟨sb[i],0,none⟩ v').heap[sb[i]]? =some (.cells #[v',vp,.int .i64 ((j.sorters[i]).marked:Int),.int .i64 ((j.sorters[i]).kept:Int),.bool (j.sorters[i]).passed] 75 (0,0)):=by
  have:=Qas (j:=0) hb5 v';exact this
 have h1:w.cell? ⟨sb[i],1,none⟩=some vp:=Qad hb 1;refine⟨Qad hb5 0,Qab hb5 0,Qab hb6 1,λu hu=>?_,f',h.putS i hi _ (S:=λc=>c=k+100+i\/c=k+200+i) (λc hc=>hc.elim .inl λe=>.inr (.inl e)) hf6 hs' hwid ⟨(hs' _ (Qac hb)).trans ho,v',vp,hb6,?_,hv',Qbo hp hf6 op omQ,op.same hs' (q_lt hp)⟩,hf6.mono λ_ _=>trivial,hs'⟩
 ·rw[<-hu,h1];exact Qad hb6 1
 ·have hq6:=hq5.kept (Qak w5 sb[i] 0 v') (.inr hne);simp only[List.length_append,List.length_cons,List.length_nil,QaU,QbN];exact hq6
theorem RJob.tailS(h:RJob f w B k jb sb ab j)(i:Nat)(hi:i<sb.length)(hi':i<j.sorters.length)(hwid:j.width<=9)(v':Value)(rest:List Int)(hq:qRow w B 3 1 v' rest.length (rest.map (Value.int .i64)))(vp:Value)(hvp:w.cell? ⟨sb[i],1,none⟩=some vp)(hv':∀g,v'.ownBlock=some g->vp.ownBlock=some g):
  RAfter f w B k jb sb ab {j with sorters:=j.sorters.set i {j.sorters[i]with pipe:=rest}} (w.setCell ⟨sb[i],1,none⟩ v'):=by
 obtain⟨ho,vg,vq,hb,hg,og,hp,op⟩:=h.sorters i hi hi';have h3:w.cell? ⟨sb[i],1,none⟩=some vq:=Qad hb 1;have hvq:vp=vq:=Option.some.inj (hvp.symm.trans h3);subst hvq
 have hiw:i<j.width:=by rw[<-h.lenS.1];exact hi
 have ho':IsOf f (k+300+i) v':=λg hg=>op g (hv' g hg)
 have hf:FrmO f (λc=>c=k+100+i) w (w.setCell ⟨sb[i],1,none⟩ v'):=FrmO.of_set (S:=λc=>c=k+100+i) ho rfl _;refine⟨f,h.putS i hi _ (S:=λc=>c=k+100+i) (λc hc=>.inl hc) hf (Same.refl _ _) hwid ⟨ho,vg,v',?_,Qaj hg hf og omQ,og,Qbo hq hf ho' omQ,ho'⟩,hf.mono λ_ _=>trivial,Same.refl _ _⟩;have:=Qas (j:=1) hb v';exact this
theorem Qlq{gq off ln qc:Nat}{v1:Value}{x:Int}{rest:List Int}(hl:rest.length=ln)(hq:qRow w B 3 1 (.slice (some ⟨gq,off,none⟩) (ln+1) qc) (ln+1) ((x :: rest).map (Value.int .i64)))(ht:IsTail1 gq off ln qc v1):qRow w B 3 1 v1 rest.length (rest.map (Value.int .i64)):=by
 rw[hl]
 rcases ht with rfl | ⟨rfl,rfl⟩
 ·exact hq.tail (off':=off+1) (.inl rfl)
 ·exact hq.tail (off':=off) (.inr ⟨rfl,rfl⟩)
theorem RJob.gotTail(h:RJob f w B k jb sb ab j)(hB:B<=w.heap.size)(i:Nat)(hi:i<sb.length)(hi':i<j.sorters.length)(hwid:j.width<=9)(hgl:(j.sorters[i]).got.length<=900)(x:Int)(rest:List Int)(hp:(j.sorters[i]).pipe=x :: rest)(gq off qc:Nat)(p1:w.cell? ⟨sb[i],1,none⟩=some (.slice (some ⟨gq,off,none⟩) (rest.length+1) qc))(vg:Value)(c3:w.cell? ⟨sb[i],0,none⟩=some vg)(e:Ev)(bx:Nat)(h1:∀g,vg.ownBlock=some g->g=bx->False)(h2:sb[i]≠bx):
  GotG B sb[i] bx w vg (j.sorters[i]).got.length (evCells (j.sorters[i]).got) (evCells1 e) (TailG sb[i] gq off rest.length qc λw'=>RAfter f w B k jb sb ab {j with sorters:=j.sorters.set i {j.sorters[i]with got:=(j.sorters[i]).got++[e],pipe:=rest}} w'):=by
 obtain⟨vg',d1,d2,hgo⟩:=h.gotS i hi hi' hwid;have hvg:vg'=vg:=Option.some.inj (d1.symm.trans c3);subst hvg;refine⟨c3,d2,by omega,hB,h1,h2,λwa w5 v' hba hq5 happ=>?_⟩;obtain⟨a1,a2,a3,a4,f',hR,hF,hS⟩:=hgo wa v' w5 e hba hq5 happ;refine⟨a1,a2,a4 _ p1,a3,λv1 ht=>?_⟩
 have hi2:i<({j with sorters:=j.sorters.set i {j.sorters[i]with got:=(j.sorters[i]).got++[e]}}:JobM).sorters.length:=by simpa using hi'
 obtain⟨_,_,vq,hbq,_,_,hqq,_⟩:=hR.sorters i hi hi2;have hc:=Qad hbq 1;have hvq:vq=.slice (some ⟨gq,off,none⟩) (rest.length+1) qc:=Option.some.inj (Eq.trans (Eq.symm hc) (a4 _ p1))
 have hpp:(({j with sorters:=j.sorters.set i {j.sorters[i]with got:=(j.sorters[i]).got++[e]}}:JobM).sorters[i]).pipe=x :: rest:=by simp[hp]
 rw[hvq,hpp]at hqq;obtain⟨f2,hR2,hF2,hS2⟩:=hR.tailS i hi hi2 hwid v1 rest (Qlq rfl hqq ht) _ (a4 _ p1) (λg hg=>by rcases ht with rfl | ⟨_,rfl⟩<;>exact hg);refine⟨f2,?_,hF.trans hS hF2,hS.trans hS2 hF.size⟩;simp only[List.getElem_set_self,List.set_set]at hR2;exact hR2
theorem RJob.pipeKeep(h:RJob f w B k jb sb ab j)(m:Nat)(hm:m<ab.length)(hm':m<j.adders.length)(i:Nat)(hi:i<(j.adders[m]).pipes.length){gp pc:Nat}{v:Value}(hgp:w.cell? ⟨ab[m],1,none⟩=some (.slice (some ⟨gp,0,none⟩) j.width pc))(hv:w.cell? ⟨gp,i,none⟩=some v){wa w5:World}{v':Value}(hba:Below w.heap.size w wa)(happ:AppQ wa w5 v v'):
  FrmO f (λc=>c=k+600+m\/c=k+1000+10*m+i) w (w5.setCell ⟨gp,i,none⟩ v'):=by
 obtain⟨ho,vg,vp,vs,vt,hb,hg,og,hp,op,hq,ht,ot⟩:=h.adders m hm hm';have h1:w.cell? ⟨ab[m],1,none⟩=some vp:=Qad hb 1;have hvp:vp=.slice (some ⟨gp,0,none⟩) j.width pc:=Option.some.inj (h1.symm.trans hgp);subst hvp;have hpl:=(h.pipes m hm').1;rw[hpl]at hp;obtain⟨v2,hv2,hqv,ov⟩:=hq i hi;have hc:w.cell? ⟨gp,i,none⟩=some v2:=(hp.cellAt i (by rw[hpl]at hi;omega)).trans hv2;have hvv:v2=v:=Option.some.inj (hc.symm.trans hv);subst hvv;have hf5:FrmO f (λc=>c=k+1000+10*m+i) w w5:=(FrmO.of_below hba).trans (Same.refl _ _) (happ.frm ov);have ogp:f gp=some (k+600+m):=op gp rfl;exact(hf5.mono λ_ hc=>.inr hc).trans (Same.refl _ _) (FrmO.of_set (S:=λc=>c=k+600+m\/c=k+1000+10*m+i) ogp (.inl rfl) _)
theorem Qhy(h:RJob f w B k jb sb ab j)(hB:B<=w.heap.size)(hf:RFit j)(hfA:∀a∈j.adders,∀p∈a.pipes,p.length<=j.room)(i:Nat)(hi:i<j.width)(hi':i<j.sorters.length)(x:Nat)(rest:List Int)(hp:(j.sorters[i]).pipe=(x:Int) :: rest)(hx:x<j.events.length)(hgl:(j.sorters[i]).got.length<=400)(hgk:∀e∈(j.sorters[i]).got,e.ok)(hek:∀e∈j.events,e.ok/\0<e.key.size):
  Calls Tryz.prog 46 #[.pointer (some ⟨jb,0,none⟩),.int .i64 (i:Int)] w λen w'=>en=.returned (.int .i64 ((j.sorts i).1:Int))/\RAfter f w B k jb sb ab (j.sorts i).2 w':=by
 have hib:i<sb.length:=by have:=h.lenS;omega
 have hlA:=h.lenA;have hW:=hf.width;obtain⟨g1,cs',qa,qc,c4,d1,d2,hq⟩:=h.wayS i hib hi'
 have hpl:(j.sorters[i]).pipe.length=rest.length+1:=by rw[hp];rfl
 rw[hpl]at d2;have hq2:=hq;rw[hpl,hp]at hq2
 rcases hq2.addr with⟨_,h0⟩ | ⟨gq,off,rfl⟩
 ·omega
 have d3:w.cell? ⟨gq,off,none⟩=some (.int .i64 (x:Int)):=hq2.cell 0 (.int .i64 (x:Int)) rfl;obtain⟨ve,vs0,va0,vr,hbx,he,oe,_⟩:=h.box;obtain⟨ea,ec,rfl⟩:=Qaf he
 rcases Qai he with⟨_,h0⟩ | ⟨ge,rfl⟩
 ·omega
 obtain⟨q0,q1,q2,q3⟩:=QcQ he x hx;have hem:=hek _ (List.getElem_mem hx);have hem2:=hf.keys _ (List.getElem_mem hx);obtain⟨vg,c3,hg,_⟩:=h.gotS i hib hi' omQ;obtain⟨ga,gc,rfl⟩:=Qaf hg;have hevs:=IsEvs.of_own hg hgk
 have hC:SortC w jb j.width j.room i g1 cs' sb[i] gq off rest.length qc ge j.events.length ec x j.events[x]:=⟨(Qav h).1,Qad hbx 1,Qad hbx 2,c4,d1,d2,d3,q0,q1,q2,q3,hi,hW.2,hx,hf.events,by have:=hq2.cap;omega,hem.1⟩
 have hgnew:∀g,(Value.slice ga (j.sorters[i]).got.length gc).ownBlock=some g->g=w.heap.size->False:=λg hg1 e=>by
  have:=(Qah hg g hg1).2;omega
 have hsnew:sb[i]≠w.heap.size:=Nat.ne_of_lt (Qan d2)
 have hs0:j.sorts i=if(knOf (j.events[x]).key (j.sorters[i]).got).counts j.events[x]then
   match j.adders[(grp (j.events[x]).key).1 % j.width]? with
   | none=>(9,j)
   | some a=>if a.waits i=j.room then(9,j)else(0,{j with adders:=j.adders.set ((grp (j.events[x]).key).1 % j.width) (a.push i (chgOf (knOf (j.events[x]).key (j.sorters[i]).got) j.events[x])),sorters:=j.sorters.set i {j.sorters[i]with got:=(j.sorters[i]).got++[j.events[x]],pipe:=rest}})
  else(0,{j with sorters:=j.sorters.set i {j.sorters[i]with got:=(j.sorters[i]).got++[j.events[x]],pipe:=rest}}):=by
  unfold JobM.sorts;rw[List.getElem?_eq_getElem hi'];simp only[hp];rw[if_neg omQ,Int.toNat_natCast,List.getElem?_eq_getElem hx]
  rfl
 cases hct:(knOf (j.events[x]).key (j.sorters[i]).got).counts j.events[x]with
 | false=>
  have hs:j.sorts i=(0,{j with sorters:=j.sorters.set i {j.sorters[i]with got:=(j.sorters[i]).got++[j.events[x]],pipe:=rest}}):=by
   rw[hs0,hct]
   rfl
  rw[hs]
  refine Qll hC B _ _ ga gc c3 hevs omQ hct λw3 hb3=>?_
  have hg3:=(h.below hb3).gotTail (Nat.le_trans hB hb3.size) i hib hi' omQ omQ _ rest hp gq off qc (Qae d2 hb3) _ (Qae c3 hb3) j.events[x] w.heap.size hgnew hsnew;obtain⟨r0,r1,r2,r3,r4,r5,hgo⟩:=hg3;refine⟨r0,r1,r2,r3,r4,r5,λwa w5 v' hba hq5 happ=>?_⟩;obtain⟨t0,t1,t2,t3,ht⟩:=hgo wa w5 v' hba hq5 happ;refine⟨t0,t1,t2,t3,λv1 hv1=>?_⟩;obtain⟨f2,hR2,hF2,hS2⟩:=ht v1 hv1
  exact⟨f2,hR2,(FrmO.of_below hb3).trans (Same.refl _ _) hF2,λg hg=>hS2 g (Nat.lt_of_lt_of_le hg hb3.size)⟩
 | true=>
  obtain⟨p,tx,hgr⟩:∃p tx,grp (j.events[x]).key=(p,tx):=⟨_,_,rfl⟩
  obtain⟨a,hpa⟩:∃a,p % j.width=a:=⟨_,rfl⟩
  have haw:a<j.width:=by rw[<-hpa];exact Nat.mod_lt _ omQ
  have ha1:a<j.adders.length:=omQ;have ha2:a<ab.length:=omQ
  have hip:i<(j.adders[a]).pipes.length:=by rw[(h.pipes a ha1).1];exact hi
  obtain⟨g2,ca,gp,pc,v,⟨w5',w2',w1'⟩,f1,_,hqv,hgo⟩:=h.pipeA a ha2 ha1 i hip omQ;obtain⟨va,vc,rfl⟩:=hqv.shape;have hwt:=AdderM.waits_at (j.adders[a]) i hip
  by_cases hfl:(j.adders[a]).waits i=j.room
  ·have hs:j.sorts i=(9,j):=by
    rw[hs0,hct,if_pos rfl,hgr];simp only[hpa,List.getElem?_eq_getElem ha1];rw[if_pos hfl]
   rw[hs];rw[<-hwt,hfl]at f1;refine(Qlp hC _ ga gc c3 hevs omQ hct hem.2 hem2 p tx hgr a g2 ca _ gp pc va vc hpa haw w5' w2' w1' f1).mono ?_;rintro en w' ⟨rfl,hb⟩;exact⟨rfl,f,h.below hb,.of_below hb,Same.refl _ _⟩
  ·have hs:j.sorts i=(0,{j with adders:=j.adders.set a ((j.adders[a]).push i (chgOf (knOf (j.events[x]).key (j.sorters[i]).got) j.events[x])),sorters:=j.sorters.set i {j.sorters[i]with got:=(j.sorters[i]).got++[j.events[x]],pipe:=rest}}):=by
    rw[hs0,hct,if_pos rfl,hgr];simp only[hpa,List.getElem?_eq_getElem ha1];rw[if_neg hfl]
   rw[hs];have hle:=hfA _ (List.getElem_mem ha1) _ (List.getElem_mem hip);have hkv:=Qcg (key:=(j.events[x]).key) hgk omQ
   have hch:chgCells1 (chgOf (knOf (j.events[x]).key (j.sorters[i]).got) j.events[x])=[.int .i64 (p:Int),.string tx,.int .i64 ((if(j.events[x]).op=1 then 1 else 0)-(if(knOf (j.events[x]).key (j.sorters[i]).got).there then 1 else 0)),.int .i64 ((if(j.events[x]).op=1 then(j.events[x]).val else 0)-(if(knOf (j.events[x]).key (j.sorters[i]).got).there then(knOf (j.events[x]).key (j.sorters[i]).got).value else 0))]:=by
    simp only[chgCells1,chgOf,hgr]
   refine Qnb hC B _ _ ga gc c3 hevs omQ hct hem.2 hem2 p tx hgr a g2 ca _ gp pc va _ vc hpa haw w5' w2' w1' f1 omQ hf.room hB _ hqv _ _ rfl rfl ⟨hkv.1,hkv.2.1⟩ λwa v' w5 hba hq5 happ=>?_
   rw[<-hch]at hq5;have hkeep:=h.pipeKeep a ha2 ha1 i hip w1' f1 hba happ;obtain⟨b1,b2,b3,b4,f2,hR2,hF2,hS2⟩:=hgo wa v' w5 _ hba hq5 happ;obtain⟨ho,vgx,vpx,hbb,_⟩:=h.sorters i hib hi';have hbb2:=Qaq hbb hkeep ho omQ
   have k0:(w5.setCell ⟨gp,i,none⟩ v').cell? ⟨sb[i],0,none⟩=some (.slice ga (j.sorters[i]).got.length gc):=by
    have e1:w.cell? ⟨sb[i],0,none⟩=some vgx:=Qad hbb 0;have e2:vgx=_:=Option.some.inj (e1.symm.trans c3);rw[<-e2];exact Qad hbb2 0
   have k1:(w5.setCell ⟨gp,i,none⟩ v').cell? ⟨sb[i],1,none⟩=some (.slice (some ⟨gq,off,none⟩) (rest.length+1) qc):=by
    have e1:w.cell? ⟨sb[i],1,none⟩=some vpx:=Qad hbb 1;have e2:vpx=_:=Option.some.inj (e1.symm.trans d2);rw[<-e2];exact Qad hbb2 1
   refine⟨b1,b2,b3.2.2,b4.2.2,?_⟩;obtain⟨r0,r1,r2,r3,r4,r5,hgo2⟩:=hR2.gotTail (Nat.le_trans hB hF2.size) i hib hi' (by show j.width<=9;omega) (by show(j.sorters[i]).got.length<=900;omega) _ rest hp gq off qc k1 _ k0 j.events[x] w.heap.size hgnew hsnew;refine⟨r0,r1,r2,r3,r4,r5,λwa w5 v' hba hq5 happ=>?_⟩;obtain⟨t0,t1,t2,t3,ht⟩:=hgo2 wa w5 v' hba hq5 happ;refine⟨t0,t1,t2,t3,λv1 hv1=>?_⟩;obtain⟨f3,hR3,hF3,hS3⟩:=ht v1 hv1;exact⟨f3,hR3,hF2.trans hS2 hF3,hS2.trans hS3 hF2.size⟩
theorem Qj2(h:RJob f w B k jb sb ab j)(hB:B<=w.heap.size)(hf:RFit j)(hfA:∀a∈j.adders,∀p∈a.pipes,p.length<=j.room)(i:Nat)(hi:i<j.width)(hi':i<j.sorters.length)(hpp:∀x∈(j.sorters[i]).pipe,x<(j.events.length:Int))(hgl:(j.sorters[i]).got.length<=400)(hgk:∀e∈(j.sorters[i]).got,e.ok)(hek:∀e∈j.events,e.ok/\0<e.key.size):
  Calls Tryz.prog 46 #[.pointer (some ⟨jb,0,none⟩),.int .i64 (i:Int)] w λen w'=>en=.returned (.int .i64 ((j.sorts i).1:Int))/\RAfter f w B k jb sb ab (j.sorts i).2 w':=by
 cases hp:(j.sorters[i]).pipe with
 | nil=>
  have hs:j.sorts i=(8,j):=by
   unfold JobM.sorts;rw[List.getElem?_eq_getElem hi'];simp only[hp]
  rw[hs]
  exact Qiu h i hi hi' hp
 | cons x rest=>
  by_cases hx:x<0
  ·exact QjQ h hB hf hfA i hi hi' x rest hp hx
  ·obtain⟨n,rfl⟩:∃n:Nat,x=(n:Int):=⟨x.toNat,by omega⟩
   have:=hpp (n:Int) (by rw[hp];exact List.mem_cons_self);exact Qhy h hB hf hfA i hi hi' n rest hp omQ hgl hgk hek
end
end
end Go.Proofs.YthccpacmklhejabGreatDoor
