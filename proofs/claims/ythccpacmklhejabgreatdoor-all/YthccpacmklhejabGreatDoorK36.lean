import Derived.Test.YthccpacmklhejabGreatDoorTk
import Derived.Test.YthccpacmklhejabGreatDoorK29
import Derived.Test.YthccpacmklhejabGreatDoorK06
import Derived.Deep.DeepCutAuto
set_option maxHeartbeats 4000000
set_option maxRecDepth 100000
namespace Go.Proofs.YthccpacmklhejabGreatDoor
section
open Go.RowKit
structure SortC (w:World) (jb W rm i g1 cs' b1 gq off ln qc ge N ec xn:Nat) (e:Ev):Prop where
 c0:w.cell? ⟨jb,0,none⟩=some (.int .i64 (W:Int))
 c1:w.cell? ⟨jb,1,none⟩=some (.int .i64 (rm:Int))
 c2:w.cell? ⟨jb,2,none⟩=some (.slice (some ⟨ge,0,none⟩) N ec)
 c4:w.cell? ⟨jb,4,none⟩=some (.slice (some ⟨g1,0,none⟩) W cs')
 d1:w.cell? ⟨g1,i,none⟩=some (.pointer (some ⟨b1,0,none⟩))
 p1:w.cell? ⟨b1,1,none⟩=some (.slice (some ⟨gq,off,none⟩) (ln+1) qc)
 q0:w.cell? ⟨gq,off,none⟩=some (.int .i64 (xn:Int))
 e0:w.cell? ⟨ge,xn*4,none⟩=some (.int .u8 (e.op:Int))
 e1:w.cell? ⟨ge,xn*4+1,none⟩=some (.string e.key)
 e2:w.cell? ⟨ge,xn*4+2,none⟩=some (.int .u16 (e.seq:Int))
 e3:w.cell? ⟨ge,xn*4+3,none⟩=some (.int .i16 e.val)
 hi:i<W
 hW:W<=4
 hx:xn<N
 hN:N<=400
 hcap:ln+1<=qc
 hok:e.ok
def SortS(jb b1 gq off ln qc ge N ec xn op:Nat)(key:ByteArray)(seq:Nat)(val:Int)(w:World):Prop:=
 w.cell? ⟨jb,2,none⟩=some (.slice (some ⟨ge,0,none⟩) N ec)/\w.cell? ⟨b1,1,none⟩=some (.slice (some ⟨gq,off,none⟩) (ln+1) qc)/\w.cell? ⟨gq,off,none⟩=some (.int .i64 (xn:Int))/\
 w.cell? ⟨ge,xn*4,none⟩=some (.int .u8 (op:Int))/\w.cell? ⟨ge,xn*4+1,none⟩=some (.string key)/\w.cell? ⟨ge,xn*4+2,none⟩=some (.int .u16 (seq:Int))/\w.cell? ⟨ge,xn*4+3,none⟩=some (.int .i16 val)
theorem Qae{w w':World}{g o:Nat}{v:Value}(h:w.cell? ⟨g,o,none⟩=some v)(hb:Below w.heap.size w w'):w'.cell? ⟨g,o,none⟩=some v:=(hb.cell (p:=⟨g,o,none⟩) (Qan h)).trans h
theorem SortS.below{jb b1 gq off ln qc ge N ec xn op:Nat}{key:ByteArray}{seq:Nat}{val:Int}{w w':World}(h:SortS jb b1 gq off ln qc ge N ec xn op key seq val w)(hb:Below w.heap.size w w'):SortS jb b1 gq off ln qc ge N ec xn op key seq val w':=
 ⟨Qae h.1 hb,Qae h.2.1 hb,Qae h.2.2.1 hb,Qae h.2.2.2.1 hb,Qae h.2.2.2.2.1 hb,Qae h.2.2.2.2.2.1 hb,Qae h.2.2.2.2.2.2 hb⟩
def IsTail1(gq off ln qc:Nat)(v:Value):Prop:=v=.slice (some ⟨gq,off+1,none⟩) ln (qc-1)\/(qc=1/\v=.slice (some ⟨gq,off,none⟩) ln 0)
def GotG(B b1 bx:Nat)(w:World)(vg:Value)(ng:Nat)(xs cs:List Value)(T:World->Prop):Prop:=
 w.cell? ⟨b1,0,none⟩=some vg/\w.ownsRow B 40 4 vg ng xs/\ng<=1000/\B<=w.heap.size/\(∀g,vg.ownBlock=some g->g=bx->False)/\b1≠bx/\
  ∀wa w5 v',Below w.heap.size w wa->w5.ownsRow B 40 4 v' (ng+1) (xs++cs)->AppQ wa w5 vg v'->w5.cell? ⟨b1,0,none⟩=some vg/\w5.frozen? ⟨b1,0,none⟩=false/\T (w5.setCell ⟨b1,0,none⟩ v')
def TailG(b1 gq off ln qc:Nat)(Q:World->Prop)(w:World):Prop:=
 w.cell? ⟨b1,1,none⟩=some (.slice (some ⟨gq,off,none⟩) (ln+1) qc)/\w.frozen? ⟨b1,1,none⟩=false/\∀v1,IsTail1 gq off ln qc v1->Q (w.setCell ⟨b1,1,none⟩ v1)
theorem fill5{w wa:World}{kb:Nat}{a0 a1 a2 a3 a4:Value}{t:TypeId}(h:wa.heap[kb]? =some (.cells #[a0,a1,a2,a3,a4] t (0,0)))(hb:Below w.heap.size w wa)(hk:w.heap.size<=kb)(u0 u1 u2 u3 u4:Value):
  (((((wa.setCell ⟨kb,0,none⟩ u0).setCell ⟨kb,1,none⟩ u1).setCell ⟨kb,2,none⟩ u2).setCell ⟨kb,3,none⟩ u3).setCell ⟨kb,4,none⟩ u4).heap[kb]? =some (.cells #[u0,u1,u2,u3,u4] t (0,0))/\
  Below w.heap.size w (((((wa.setCell ⟨kb,0,none⟩ u0).setCell ⟨kb,1,none⟩ u1).setCell ⟨kb,2,none⟩ u2).setCell ⟨kb,3,none⟩ u3).setCell ⟨kb,4,none⟩ u4)/\
  (∀g,g≠kb->(((((wa.setCell ⟨kb,0,none⟩ u0).setCell ⟨kb,1,none⟩ u1).setCell ⟨kb,2,none⟩ u2).setCell ⟨kb,3,none⟩ u3).setCell ⟨kb,4,none⟩ u4).heap[g]? =wa.heap[g]?):=by
 have h0:=(Qag (j:=0) h u0).trans rfl;have h1:=(Qag (j:=1) h0 u1).trans rfl;have h2:=(Qag (j:=2) h1 u2).trans rfl;have h3:=(Qag (j:=3) h2 u3).trans rfl;have h4:=(Qag (j:=4) h3 u4).trans rfl;refine⟨h4,((((hb.setCell (p:=⟨kb,0,none⟩) hk u0).setCell (p:=⟨kb,1,none⟩) hk u1).setCell (p:=⟨kb,2,none⟩) hk u2).setCell (p:=⟨kb,3,none⟩) hk u3).setCell (p:=⟨kb,4,none⟩) hk u4,λg hg=>?_⟩;rw[Below.heap_setCell _ _ _ _ hg,Below.heap_setCell _ _ _ _ hg,Below.heap_setCell _ _ _ _ hg,Below.heap_setCell _ _ _ _ hg,Below.heap_setCell _ _ _ _ hg]
def KCut(w:World)(b1:Nat)(ga:Option Addr)(ng gc:Nat)(had:Bool)(last:Nat)(there:Bool)(value:Int)(count op:Nat)(key:ByteArray)(seq:Nat)(val:Int)(kb:Nat)(wk:World):Prop:=
 wk.heap[kb]? =some (.cells #[.bool had,.int .i64 (last:Int),.bool there,.int .i64 value,.int .i64 (count:Int)] 144 (0,0))/\wk.heap[w.heap.size]? =some (.cells #[.int .u8 (op:Int),.string key,.int .u16 (seq:Int),.int .i16 val] 40 (0,0))/\wk.cell? ⟨b1,0,none⟩=some (.slice ga ng gc)/\Below w.heap.size w wk/\kb≠w.heap.size
theorem Qll{w:World}{jb W rm i g1 cs' b1 gq off ln qc ge N ec xn:Nat}{e:Ev}(h:SortC w jb W rm i g1 cs' b1 gq off ln qc ge N ec xn e)(B:Nat)(Q:World->Prop)(gs:List Ev)(ga:Option Addr)(gc:Nat)(c3:w.cell? ⟨b1,0,none⟩=some (.slice ga gs.length gc))(hgs:IsEvs w ga gs)(hgl:gs.length<=900)(hct:(knOf e.key gs).counts e=false)
  (HG:∀w3,Below w.heap.size w w3->GotG B b1 w.heap.size w3 (.slice ga gs.length gc) gs.length (evCells gs) (evCells1 e) (TailG b1 gq off ln qc Q)):
  Calls Tryz.prog 46 #[.pointer (some ⟨jb,0,none⟩),.int .i64 (i:Int)] w λen w'=>en=.returned (.int .i64 0)/\Q w':=by
 obtain⟨c0,c1,c2,c4,d1,p1,q0,e0,e1,e2,e3,hi,hW,hx,hN,hcap,hok⟩:=h;obtain⟨i0,hi0,hz0,hz1,hz2⟩:=info_parts Tryz.infoEv;have hkl:(knOf e.key gs).last<65536:=(Qco λe he=>(hgs.1 e he).2.1).1
 have HC:=show Hid (∀w,Calls Tryz.prog 77 #[(knOf e.key gs).value',e.value] w λen w'=>en=.returned (.bool ((knOf e.key gs).counts e))/\Below w.heap.size w w')from λw=>QcA (knOf e.key gs) e w hkl hok.2.1
 have HK:=show Hid (∀w',Below w.heap.size w w'->Calls Tryz.prog 69 #[.slice ga gs.length gc,.string e.key] w' λen w''=>en=.returned (knOf e.key gs).value'/\Below w'.heap.size w' w'')from λw' hb'=>QcB ga gc gs e.key w' omQ (hgs.below hb')
 rw[hct]at HC;clear hgs hct hkl hok;generalize knOf e.key gs=kn at HC HK;obtain⟨had,last,there,value,count⟩:=kn;obtain⟨op,key,seq,val⟩:=e;unfold Kn.value' Ev.value at HC;unfold Kn.value' at HK;simp only at HC HK e0 e1 e2 e3;have HGG:=hdQ HG;clear HG;have h1:(i:Int)<(W:Int):=omQ;have h2:(0:Int)<=(i:Int):=omQ;have h3:(xn:Int)<(N:Int):=omQ;have h4:(0:Int)<=(xn:Int):=omQ
 have hn0:(((ln:Int)+1)==0)=false:=by rw[beq_eq_false_iff_ne];omega
 have hln1:(0:Int)<(ln:Int)+1:=omQ;have hx0:¬(xn:Int)<0:=omQ
 have HS:=show Hid (SortS jb b1 gq off ln qc ge N ec xn op key seq val w)from⟨c2,p1,q0,e0,e1,e2,e3⟩
 generalize gs.length=ng at *;go_enter Tryz.func46,Tryz.ntmps46;go_wp2;have HSd:SortS jb b1 gq off ln qc ge N ec xn op key seq val w.drew:=HS.out;refine wp_region_held_drew (S:=SortS jb b1 gq off ln qc ge N ec xn op key seq val) krQ HSd (λhH=>?_);clear c0 c1 c2 c4 d1 p1 q0 e0 e1 e2 e3;refine tkQ 0 (.pointer (some ⟨jb,0,none⟩)) hH ?_;refine tkQ 1 (.pointer (some ⟨jb,0,none⟩)) hH ?_;refine tkQ 2 (.pointer (some ⟨jb,2,none⟩)) hH ?_;refine tlQ 3 (.slice (some ⟨ge,0,none⟩) N ec) rfl (by intro v hSw;have s0:=hSw.1;clear hSw;go_simp) hH ?_;refine tkQ 4 (.pointer (some ⟨b1,0,none⟩)) hH ?_;refine tkQ 5 (.pointer (some ⟨b1,0,none⟩)) hH ?_;refine tkQ 6 (.pointer (some ⟨b1,1,none⟩)) hH ?_;refine tlQ 7 (.slice (some ⟨gq,off,none⟩) (ln+1) qc) rfl (by intro v hSw;have s0:=hSw.2.1;clear hSw;go_simp) hH ?_;refine tkQ 8 (.pointer (some ⟨gq,off,none⟩)) hH ?_;refine tlQ 9 (.int .i64 (xn:Int)) rfl (by intro v hSw;have s0:=hSw.2.2.1;clear hSw;go_simp) hH ?_;refine tkQ 10 (.pointer (some ⟨ge,xn*4,none⟩)) hH ?_;refine tlQ 11 (.agg #[.int .u8 (op:Int),.string key,.int .u16 (seq:Int),.int .i16 val]) rfl (by intro v hSw;have s0:=hSw.2.2.2.1;have s1:=hSw.2.2.2.2.1;have s2:=hSw.2.2.2.2.2.1;have s3:=hSw.2.2.2.2.2.2;clear hSw;go_simp) hH ?_;refine rdQ [12] ?_
 refine arQ λK hK=>?_
 clear hH;go_simp;refine hK.out _ _ (HS.out.below ((Below.refl _ _).alloc (Nat.le_refl _) _).drew) (λhH=>?_);clear hK K;refine rdQ [13] ?_
 refine arQ λK hK=>?_
 clear hH;go_simp;have hbe:(w.alloc (.cells #[.int .u8 (op:Int),.string key,.int .u16 (seq:Int),.int .i16 val] 40)).drew.heap[w.heap.size]? =some (.cells #[.int .u8 (op:Int),.string key,.int .u16 (seq:Int),.int .i16 val] 40 (0,0)):=heap_alloc_new w _
 have HB:=show Hid (Below w.heap.size w (w.alloc (.cells #[.int .u8 (op:Int),.string key,.int .u16 (seq:Int),.int .i16 val] 40)).drew)from((Below.refl _ _).alloc (Nat.le_refl _) _).drew
 refine hK.out _ _ (HS.out.below HB.out) (λhH=>?_);clear hK K hH;refine wpAnyH_done krQ ?_ _;have c3e:=Qae c3 HB.out;clear HSd HS;generalize(w.alloc (.cells #[.int .u8 (op:Int),.string key,.int .u16 (seq:Int),.int .i16 val] 40)).drew=we at hbe HB c3e ⊢;go_wp2
 go_cut [9]from 129 (λs9 wc=>∃kb:Nat,s9=Value.pointer (some ⟨kb,0,none⟩)/\KCut w b1 ga ng gc had last there value count op key seq val kb wc)
 case first=>
  have HBd:Below w.heap.size w we.drew:=HB.out.drew;have hbd:we.drew.heap[w.heap.size]? =some (.cells #[.int .u8 (op:Int),.string key,.int .u16 (seq:Int),.int .i16 val] 40 (0,0)):=hbe;have c3d:we.drew.cell? ⟨b1,0,none⟩=some (.slice ga ng gc):=c3e;clear c3e hbe HB;refine wp_region_held_drew (S:=λw':World=>w'.cell? ⟨b1,0,none⟩=some (.slice ga ng gc)/\w'.heap[w.heap.size]? =some (.cells #[.int .u8 (op:Int),.string key,.int .u16 (seq:Int),.int .i16 val] 40 (0,0))) krQ ⟨c3d,hbd⟩ (λhH=>?_);generalize we.drew=wd at HBd hbd c3d hH ⊢;refine tkQ 0 (.pointer (some ⟨b1,0,none⟩)) hH ?_;refine tkQ 1 (.pointer (some ⟨b1,0,none⟩)) hH ?_;refine tkQ 2 (.pointer (some ⟨b1,0,none⟩)) hH ?_;refine tlQ 3 (.slice ga ng gc) rfl (by intro v hSw;have s0:=hSw.1;clear hSw;go_simp) hH ?_;refine tkQ 4 (.pointer (some ⟨w.heap.size,1,none⟩)) hH ?_;refine tlQ 5 (.string key) rfl (by intro v hSw;have s0:v.cell? ⟨w.heap.size,1,none⟩=some (.string key):=Qaa hSw.2 1;clear hSw;go_simp) hH ?_;have hlt:=Qac hbd;refine rdQ [6,7] ?_;refine AllReadyH.cons rfl (λK hK=>?_) (arQ λK hK=>?_)
  focus
   clear hH;go_simp
   go_wp2_with(go_at_call 69;refine(HK.out _ HBd).mono ?_;rintro en w1 ⟨rfl,hb1⟩)
   have hbd1:=(hb1.block _ hlt).trans hbd;have c31:=Qae c3d hb1;have HB1:Below w.heap.size w w1:=HBd.trans (hb1.mono HBd.size);have hlt1:=Qac hbd1;refine hK.out _ _ ⟨c31,hbd1⟩ (λhH=>?_);clear hK K;refine rdQ [7] ?_
   refine arQ λK hK=>?_
   clear hH;go_simp;refine hK.out _ _ ⟨Qae c31 ((Below.refl _ _).alloc (Nat.le_refl _) _),(Below.heap_alloc _ _ _ hlt1).trans hbd1⟩ (λhH=>?_);clear hK K;refine rdQ [8] ?_
   refine arQ λK hK=>?_
   clear hH;go_simp;have hkk:=heap_alloc_new w1 (.cells #[.bool had,.int .i64 (last:Int),.bool there,.int .i64 value,.int .i64 (count:Int)] 144);have hbk:=(Below.heap_alloc w1 (.cells #[.bool had,.int .i64 (last:Int),.bool there,.int .i64 value,.int .i64 (count:Int)] 144) _ hlt1).trans hbd1;have c3k:=Qae c31 ((Below.refl w1.heap.size w1).alloc (Nat.le_refl _) (.cells #[.bool had,.int .i64 (last:Int),.bool there,.int .i64 value,.int .i64 (count:Int)] 144));have HBk:Below w.heap.size w (w1.alloc (.cells #[.bool had,.int .i64 (last:Int),.bool there,.int .i64 value,.int .i64 (count:Int)] 144)):=HB1.alloc HB1.size _;refine hK.out _ _ ⟨c3k,hbk⟩ (λhH=>?_);clear hK K hH;have hne:w1.heap.size≠w.heap.size:=Nat.ne_of_gt hlt1;clear hlt1 hlt c3d hbd HBd c31 hbd1 HB1 hb1;generalize w1.alloc (.cells #[.bool had,.int .i64 (last:Int),.bool there,.int .i64 value,.int .i64 (count:Int)] 144)=wk at hkk hbk c3k HBk ⊢;generalize w1.heap.size=kb at hkk hne ⊢;clear w1;refine wpAnyH_done krQ ?_ _
   go_wp2_with fail
   go_meet
   exact⟨kb,rfl,hkk,hbk,c3k,HBk,hne⟩
  focus
   clear hH;go_simp;have hkk:=heap_alloc_new wd (.cells #[.bool false,.int .i64 0,.bool false,.int .i64 0,.int .i64 0] 144);have hbk:=(Below.heap_alloc wd (.cells #[.bool false,.int .i64 0,.bool false,.int .i64 0,.int .i64 0] 144) _ hlt).trans hbd;have c3k:=Qae c3d ((Below.refl wd.heap.size wd).alloc (Nat.le_refl _) (.cells #[.bool false,.int .i64 0,.bool false,.int .i64 0,.int .i64 0] 144));have HBk:Below w.heap.size w (wd.alloc (.cells #[.bool false,.int .i64 0,.bool false,.int .i64 0,.int .i64 0] 144)):=HBd.alloc HBd.size _;refine hK.out _ _ ⟨c3k,hbk⟩ (λhH=>?_);clear hK K;have hne:wd.heap.size≠w.heap.size:=Nat.ne_of_gt hlt;have hle:w.heap.size<=wd.heap.size:=HBd.size;clear hlt c3d hbd HBd;generalize wd.alloc (.cells #[.bool false,.int .i64 0,.bool false,.int .i64 0,.int .i64 0] 144)=wa at hkk hbk c3k HBk hH ⊢;have hb1k:b1≠wd.heap.size:=Nat.ne_of_lt (Nat.lt_of_lt_of_le (Qan c3) hle);generalize wd.heap.size=kb at hkk hne hle hb1k hH ⊢;clear wd;refine rdQ [6] ?_
   refine arQ λK hK=>?_
   clear hH;go_simp
   go_wp2_with(go_at_call 69;refine(HK.out _ HBk).mono ?_;rintro en w1 ⟨rfl,hb1⟩)
   have hkk1:=(hb1.block _ (Qac hkk)).trans hkk;have hbk1:=(hb1.block _ (Qac hbk)).trans hbk;have c3k1:=Qae c3k hb1;have HBk1:Below w.heap.size w w1:=HBk.trans (hb1.mono HBk.size);refine hK.out _ _ ⟨c3k1,hbk1⟩ (λhH=>?_);clear hK K hkk hbk c3k HBk hb1;clear wa;refine rdQ [8] ?_
   refine arQ λK hK=>?_
   clear hH;have y0:w1.cell? ⟨kb,0,none⟩=some (.bool false):=Qaa hkk1 0;have y1:w1.cell? ⟨kb,1,none⟩=some (.int .i64 0):=Qaa hkk1 1;have y2:w1.cell? ⟨kb,2,none⟩=some (.bool false):=Qaa hkk1 2;have y3:w1.cell? ⟨kb,3,none⟩=some (.int .i64 0):=Qaa hkk1 3;have y4:w1.cell? ⟨kb,4,none⟩=some (.int .i64 0):=Qaa hkk1 4;have z0:w1.frozen? ⟨kb,0,none⟩=false:=Qab hkk1 0;have z1:w1.frozen? ⟨kb,1,none⟩=false:=Qab hkk1 1;have z2:w1.frozen? ⟨kb,2,none⟩=false:=Qab hkk1 2;have z3:w1.frozen? ⟨kb,3,none⟩=false:=Qab hkk1 3;have z4:w1.frozen? ⟨kb,4,none⟩=false:=Qab hkk1 4;go_simp;obtain⟨hkk,HBk,hoth⟩:=fill5 hkk1 HBk1 hle (.bool had) (.int .i64 (last:Int)) (.bool there) (.int .i64 value) (.int .i64 (count:Int));have hbk:=(hoth _ (Ne.symm hne)).trans hbk1;have c3k:=(World.cell?_of_block (a:=⟨b1,0,none⟩) (hoth b1 hb1k)).trans c3k1;clear hoth y0 y1 y2 y3 y4 z0 z1 z2 z3 z4 hkk1 hbk1 c3k1 HBk1 hle;generalize(((((w1.setCell ⟨kb,0,none⟩ (.bool had)).setCell ⟨kb,1,none⟩ (.int .i64 (last:Int))).setCell ⟨kb,2,none⟩ (.bool there)).setCell ⟨kb,3,none⟩ (.int .i64 value)).setCell ⟨kb,4,none⟩ (.int .i64 (count:Int)))=wk at hkk hbk c3k HBk ⊢;refine hK.out _ _ ⟨c3k,hbk⟩ (λhH=>?_);clear hK K hH;clear w1;refine wpAnyH_done krQ ?_ _
   go_wp2_with fail
   go_meet
   exact⟨kb,rfl,hkk,hbk,c3k,HBk,hne⟩
 case rest=>
  obtain⟨kb,rfl,hkk,hbk,c3k,HBk,hne⟩:=hcut;clear hbe HB c3e;clear we
  revert wc
  intro wk hkk hbk c3k HBk;have y0:wk.cell? ⟨kb,0,none⟩=some (.bool had):=Qaa hkk 0;have y1:wk.cell? ⟨kb,1,none⟩=some (.int .i64 (last:Int)):=Qaa hkk 1;have y2:wk.cell? ⟨kb,2,none⟩=some (.bool there):=Qaa hkk 2;have y3:wk.cell? ⟨kb,3,none⟩=some (.int .i64 value):=Qaa hkk 3;have y4:wk.cell? ⟨kb,4,none⟩=some (.int .i64 (count:Int)):=Qaa hkk 4;have v0:wk.cell? ⟨w.heap.size,0,none⟩=some (.int .u8 (op:Int)):=Qaa hbk 0;have v1:wk.cell? ⟨w.heap.size,1,none⟩=some (.string key):=Qaa hbk 1;have v2:wk.cell? ⟨w.heap.size,2,none⟩=some (.int .u16 (seq:Int)):=Qaa hbk 2;have v3:wk.cell? ⟨w.heap.size,3,none⟩=some (.int .i16 val):=Qaa hbk 3
  go_wp2_with(go_at_call 77;refine(HC.out _).mono ?_;rintro en w4 ⟨rfl,hb4⟩)
  have hbe4:=(hb4.block _ (Qac hbk)).trans hbk;have HB4:Below w.heap.size w w4:=HBk.trans (hb4.mono HBk.size);clear y0 y1 y2 y3 y4 v0 v1 v2 v3 hkk hbk c3k HBk hb4 hne;clear wk;have hbx:w4.drew.heap[w.heap.size]? =some (.cells #[.int .u8 (op:Int),.string key,.int .u16 (seq:Int),.int .i16 val] 40 (0,0)):=hbe4;have HX:=HGG.out w4.drew HB4.drew;refine wp_region_held_drew (S:=λw':World=>w'.heap[w.heap.size]? =some (.cells #[.int .u8 (op:Int),.string key,.int .u16 (seq:Int),.int .i16 val] 40 (0,0))) krQ hbx (λhH=>?_);obtain⟨r0,hrow,hng,hBx,hvg,hbb,hgo⟩:=HX;have HG2:=hdQ hgo
  have HRow:=show Hid (w4.drew.ownsRow B 40 4 (.slice ga ng gc) ng (evCells gs))from hrow
  clear hgo hrow;have hwl:w.heap.size<w4.drew.heap.size:=Qac hbx;generalize w4.drew=w3 at hbx hH r0 HRow hBx hwl HG2 ⊢;refine tkQ 0 (.pointer (some ⟨b1,0,none⟩)) hH ?_;refine tkQ 1 (.pointer (some ⟨b1,0,none⟩)) hH ?_;refine tkQ 2 (.pointer (some ⟨b1,0,none⟩)) hH ?_;refine tkQ 3 (.pointer (some ⟨b1,0,none⟩)) hH ?_;refine tlQ 5 (.agg #[.int .u8 (op:Int),.string key,.int .u16 (seq:Int),.int .i16 val]) rfl (by intro v hSw;have s0:v.cell? ⟨w.heap.size,0,none⟩=some (.int .u8 (op:Int)):=Qaa hSw 0;have s1:v.cell? ⟨w.heap.size,1,none⟩=some (.string key):=Qaa hSw 1;have s2:v.cell? ⟨w.heap.size,2,none⟩=some (.int .u16 (seq:Int)):=Qaa hSw 2;have s3:v.cell? ⟨w.heap.size,3,none⟩=some (.int .i16 val):=Qaa hSw 3;clear hSw;go_simp) hH ?_;have hba:=(Below.refl w3.heap.size w3).alloc (Nat.le_refl _) (.cells #[.int .u8 (op:Int),.string key,.int .u16 (seq:Int),.int .i16 val] 40);have hb4:(w3.alloc (.cells #[.int .u8 (op:Int),.string key,.int .u16 (seq:Int),.int .i16 val] 40)).heap[w.heap.size]? =some (.cells #[.int .u8 (op:Int),.string key,.int .u16 (seq:Int),.int .i16 val] 40 (0,0)):=(Below.heap_alloc _ _ _ hwl).trans hbx;have r0a:(w3.alloc (.cells #[.int .u8 (op:Int),.string key,.int .u16 (seq:Int),.int .i16 val] 40)).cell? ⟨b1,0,none⟩=some (.slice ga ng gc):=Qae r0 hba;have HBa:=hdQ hba;clear hba;refine rdQ [4,6] ?_;refine AllReadyH.cons rfl (λK hK=>?_) (arQ λK hK=>?_)
  focus
   clear hH;go_simp;refine hK.out _ _ hbx (λhH=>?_);clear hK K;refine rdQ [6] ?_
   refine arQ λK hK=>?_
   clear hH;go_simp;refine hK.out _ _ hb4 (λhH=>?_);clear hK K
  rotate_left
  focus
   clear hH;go_simp;refine hK.out _ _ hb4 (λhH=>?_);clear hK K;refine rdQ [4] ?_
   refine arQ λK hK=>?_
   clear hH;go_simp;refine hK.out _ _ hb4 (λhH=>?_);clear hK K
  all_goals
   refine rdQ [7] ?_
   refine arQ λK hK=>?_
   refine QaM rfl ?_;refine Qau _ (.tmp 220) (.tmp 222) 33 rfl B 40 i0 (.agg #[.int .u8 0,.string ⟨#[]⟩,.int .u16 0,.int .i16 0]) 4 32 Tryz.underlying33 hi0 hz0 hz1 hz2 rfl (by decide) (.slice ga ng gc) ng (evCells gs) rfl (HRow.out.alloc _) ⟨w3.heap.size,0,none⟩ 1 1 (evCells1 ⟨op,key,seq,val⟩) rfl rfl (by have:=QaC w3 (.int .u8 (op:Int)) (.string key) (.int .u16 (seq:Int)) (.int .i16 val) 40;simpa[evCells1]using this) (Qbl _) (by unfold maxLen;omega) (by omega) (by simp;omega) (by decide) ?_;intro v' w5 hown5 happ;obtain⟨r5,z5,hQ⟩:=HG2.out _ w5 v' HBa.out hown5 happ;have hb5:w5.heap[w.heap.size]? =some (.cells #[.int .u8 (op:Int),.string key,.int .u16 (seq:Int),.int .i16 val] 40 (0,0)):=((Qat happ).block _ (Qac hb4) (λe=>hvg _ e.symm rfl)).trans hb4;refine hK.out _ _ hb5 (λhH=>?_);have HQ:=hdQ hQ;obtain⟨a5,c5,rfl⟩:=Qaf hown5;clear hK K hown5 happ HRow HG2 HBa hQ r0a hb4;refine tkQ 8 (.pointer (some ⟨b1,0,none⟩)) hH ?_;refine tkQ 9 (.pointer (some ⟨b1,0,none⟩)) hH ?_;refine rdQ [10] ?_
   refine arQ λK hK=>?_
   clear hH;go_simp;have hb6:(w5.setCell ⟨b1,0,none⟩ (.slice a5 (ng+1) c5)).heap[w.heap.size]? =some (.cells #[.int .u8 (op:Int),.string key,.int .u16 (seq:Int),.int .i16 val] 40 (0,0)):=(Below.heap_setCell w5 ⟨b1,0,none⟩ (.slice a5 (ng+1) c5) w.heap.size (λe=>by have e':w.heap.size=b1:=e;exact hbb e'.symm)).trans hb5;refine hK.out _ _ hb6 (λhH=>?_);clear hK K hH;refine wpAnyH_done krQ ?_ _;clear r5 z5 hb5 hb6 hbx r0 hwl;generalize w5.setCell ⟨b1,0,none⟩ (.slice a5 (ng+1) c5)=w6 at HQ ⊢;obtain⟨t1,t2,hT⟩:=HQ.out
   have HT1:=show Hid _ from hT _ (.inl rfl)
   have HT2:=show Hid (qc=1->_)from λe:qc=1=>hT (.slice (some ⟨gq,off,none⟩) ln 0) (.inr ⟨e,rfl⟩)
   clear hT HQ;go_wp2
   all_goals
    go_ret
   ·exact⟨rfl,HT2.out omQ⟩
   ·exact⟨rfl,HT1.out⟩
end
end Go.Proofs.YthccpacmklhejabGreatDoor
