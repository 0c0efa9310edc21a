import Derived.Test.YthccpacmklhejabGreatDoorTk
import Derived.Test.YthccpacmklhejabGreatDoorK24
import Derived.Test.YthccpacmklhejabGreatDoorK17
import Derived.Test.YthccpacmklhejabGreatDoorK18
import Derived.Test.YthccpacmklhejabGreatDoorK09
import Derived.Test.YthccpacmklhejabGreatDoorK10
set_option maxHeartbeats 4000000
set_option maxRecDepth 100000
namespace Go.Proofs.YthccpacmklhejabGreatDoor
section
open Go.RowKit
theorem Tryz.infoSrt:(Tryz.prog.info? 109).map (λi=>(i.zero,i.size,i.bytes))=some (some (.agg #[.int .i64 0,.slice none 0 0,.slice none 0 0]),3,56):=by kernel_rfl
theorem Tryz.infoAdr:(Tryz.prog.info? 113).map (λi=>(i.zero,i.size,i.bytes))=some (some (.agg #[.slice none 0 0,.slice none 0 0]),2,48):=by kernel_rfl
theorem QmO(w:World)(W R:Nat)(log:ByteArray)(es:List Ev)(mm:Nat)(hlog:log.size<=400)(hp:Parsed log es mm)(hW1:1<=W)(hW4:W<=4)(hR1:1<=R)(hR4:R<=4):
  Calls Tryz.prog 13 #[.agg #[.int .i64 (W:Int),.int .i64 (R:Int)],.string log] w λen w'=>∃ve vs va,en=.returned (.tuple #[.agg #[ve,.int .i64 0,vs,va,.int .i64 0,.int .i64 0,.int .i64 0,.slice none 0 0,.int .i64 0,.slice none 0 0,.int .i64 0],.int .i64 0])/\∃fb L,Lay w' L/\NSpec L fb W R es W W/\(∀g,LX L g->w.heap.size<=g)/\Below w.heap.size w w'/\(L 3).v=ve/\(L 1).v=vs/\(L 2).v=va:=by
 have hD:=show Hid _ from λ(w:World)=>QbD log w hlog
 obtain⟨i1,hi1,hy0,hy1,hy2⟩:=info_parts Tryz.infoSrt;obtain⟨i2,hi2,hx0,hx1,hx2⟩:=info_parts Tryz.infoAdr;have hnb:=heap_alloc_new w (.cells #[.int .i64 (W:Int),.int .i64 (R:Int)] 23);have hba:=(Below.refl w.heap.size w).alloc (Nat.le_refl _) (.cells #[.int .i64 (W:Int),.int .i64 (R:Int)] 23);go_enter Tryz.func13,Tryz.ntmps13
 obtain⟨wa,hwa⟩:∃wa,w.alloc (.cells #[.int .i64 (W:Int),.int .i64 (R:Int)] 23)=wa:=⟨_,rfl⟩
 rw[hwa]at hnb hba;have hnb2:=heap_alloc_new wa (.cells #[.slice none 0 0,.int .i64 0,.slice none 0 0,.slice none 0 0,.int .i64 0,.int .i64 0,.int .i64 0,.slice none 0 0,.int .i64 0,.slice none 0 0,.int .i64 0] 61);have hba2:=(Below.refl wa.heap.size wa).alloc (Nat.le_refl _) (.cells #[.slice none 0 0,.int .i64 0,.slice none 0 0,.slice none 0 0,.int .i64 0,.int .i64 0,.int .i64 0,.slice none 0 0,.int .i64 0,.slice none 0 0,.int .i64 0] 61)
 have hsz:wa.heap.size=w.heap.size+1:=by rw[<-hwa];simp
 obtain⟨wb,hwb⟩:∃wb,wa.alloc (.cells #[.slice none 0 0,.int .i64 0,.slice none 0 0,.slice none 0 0,.int .i64 0,.int .i64 0,.int .i64 0,.slice none 0 0,.int .i64 0,.slice none 0 0,.int .i64 0] 61)=wb:=⟨_,rfl⟩
 rw[hwb]at hnb2 hba2
 have HB:=show Hid (Below w.heap.size w wb/\wb.heap[w.heap.size]? =some (.cells #[.int .i64 (W:Int),.int .i64 (R:Int)] 23 (0,0))/\wb.heap[wa.heap.size]? =some (.cells #[.slice none 0 0,.int .i64 0,.slice none 0 0,.slice none 0 0,.int .i64 0,.int .i64 0,.int .i64 0,.slice none 0 0,.int .i64 0,.slice none 0 0,.int .i64 0] 61 (0,0))/\w.heap.size<wa.heap.size)from⟨hba.trans (hba2.mono hba.size),(hba2.block _ (Qac hnb)).trans hnb,hnb2,Qac hnb⟩
 clear hnb hba hnb2 hba2 hsz;have r1:¬(W:Int)<1:=omQ;have r2:¬(4:Int)<(W:Int):=omQ;have r3:¬(R:Int)<1:=omQ;have r4:¬(4:Int)<(R:Int):=omQ;have r1':decide ((W:Int)<1)=false:=decide_eq_false r1;have r2':decide ((4:Int)<(W:Int))=false:=decide_eq_false r2;have r3':decide ((R:Int)<1)=false:=decide_eq_false r3;have r4':decide ((4:Int)<(R:Int))=false:=decide_eq_false r4
 go_wp2_with(go_at_call 32;refine(hD.out _).mono ?_;rintro e w1 ⟨v,es',m',r,rfl,hP,hown,hb⟩;obtain⟨rfl,rfl⟩:=Parsed.unique hp hP.out.1;have hr:((r:Int)==1)=false:=(by rw[hP.out.2];exact Qbh log mm);obtain⟨ea,ec,rfl⟩:=Qaf hown;have c0:w1.cell? ⟨w.heap.size,0,none⟩=some (.int .i64 (W:Int)):=Qaa ((hb.block _ (Qac HB.out.2.1)).trans HB.out.2.1) 0;have c1:w1.cell? ⟨w.heap.size,1,none⟩=some (.int .i64 (R:Int)):=Qaa ((hb.block _ (Qac HB.out.2.1)).trans HB.out.2.1) 1;have hnb3:=heap_alloc_new w1 (.cells #[.slice none 0 0,.int .i64 0,.slice none 0 0,.slice none 0 0,.int .i64 0,.int .i64 0,.int .i64 0,.slice none 0 0,.int .i64 0,.slice none 0 0,.int .i64 0] 61);have hba3:=(Below.refl w1.heap.size w1).alloc (Nat.le_refl _) (.cells #[.slice none 0 0,.int .i64 0,.slice none 0 0,.slice none 0 0,.int .i64 0,.int .i64 0,.int .i64 0,.slice none 0 0,.int .i64 0,.slice none 0 0,.int .i64 0] 61);obtain⟨wf,hwf⟩:∃wf,w1.alloc (.cells #[.slice none 0 0,.int .i64 0,.slice none 0 0,.slice none 0 0,.int .i64 0,.int .i64 0,.int .i64 0,.slice none 0 0,.int .i64 0,.slice none 0 0,.int .i64 0] 61)=wf:=⟨_,rfl⟩;rw[hwf]at hnb3 hba3;obtain⟨⟨d0,d1,d2,d3,d4,d5,d6,d7,d8,d9,d10⟩,⟨z0,z1,z2,z3,z4,z5,z6,z7,z8,z9,z10⟩⟩:=flowCells hnb3;have H0:=show Hid (NSt w w1.heap.size W R es w.heap.size wa.heap.size 0 0 _)from QjI HB.out.1 HB.out.2.1 HB.out.2.2.1 (Nat.le_of_lt HB.out.2.2.2) hown hb hnb3 hba3)
 clear d0 d1 d2 d3 d4 d5 d6 d7 d8 d9 d10 z0 z1 z2 z3 z4 z5 z6 z7 z8 z9 z10 c0 c1 hba3 hnb3 hown hb hr hP r1 r2 r3 r4 r1' r2' r3' r4';have hcr:=HB.out.2.2.2;clear HB
 go_loopw [10] (λv wr=>∃j:Nat,j<=W/\v=.int .i64 (j:Int)/\NSt w w1.heap.size W R es w.heap.size wa.heap.size j j wr) (λv _=>W-(intOf v).toNat)
 case atStart=>exact⟨0,Nat.zero_le _,rfl,H0.out⟩
 case round=>
  obtain⟨j,hj,rfl,hN⟩:=hrel;clear H0 hwf hwb hwa hD;generalize w1.heap.size=fb at hN ⊢;generalize hrbe:wa.heap.size=rb at hN ⊢;generalize hcbe:w.heap.size=cb at hN ⊢
  have hcf:wr.heap[cb]? =some (.cells #[.int .i64 (W:Int),.int .i64 (R:Int)] 23 (0,0)):=by
   obtain⟨L,_,_,_,_,h5,_⟩:=hN;exact h5
  have k0:wr.cell? ⟨cb,0,none⟩=some (.int .i64 (W:Int)):=Qaa hcf 0
  by_cases hjW:j<W
  ·have hji:(j:Int)<(W:Int):=omQ;have hj0:(0:Int)<=(j:Int):=omQ;go_wp2;clear k0;have hS0:wr.drew.heap[cb]? =some (.cells #[.int .i64 (W:Int),.int .i64 (R:Int)] 23 (0,0)):=hcf
   have HN:=show Hid (NSt w fb W R es cb rb j j wr.drew)from hN.drew
   clear hN hcf;refine wp_region_held_drew (S:=λw':World=>w'.heap[cb]? =some (.cells #[.int .i64 (W:Int),.int .i64 (R:Int)] 23 (0,0))) krQ hS0 (λhH=>?_);generalize wr.drew=wd at HN hS0 hH ⊢;obtain⟨cs,a,cp,hla,hup⟩:=HN.out.sorters;have HUp:=hdQ hup;have HLa:=hdQ hla;have b0:=hla.cell;have hfbl:=hla.bl;clear hup hla HN
   have HP:=show Hid _ from λ(_:Unit)=>Qhl R wd
   refine tkQ 0 (.pointer (some ⟨fb,2,none⟩)) hH ?_;refine tkQ 2 (.pointer (some ⟨cb,1,none⟩)) hH ?_;refine tlQ 3 (.int .i64 (R:Int)) rfl (by intro v hSw;have s0:v.cell? ⟨cb,1,none⟩=some (.int .i64 (R:Int)):=Qaa hSw 1;clear hSw;go_simp) hH ?_;refine rdQ [1,4] ?_;refine AllReadyH.cons rfl (λK hK=>?_) (arQ λK hK=>?_)
   focus
    clear hH;go_simp;refine hK.out _ _ hS0 (λhH=>?_);clear hK K;refine rdQ [4] ?_
    refine arQ λK hK=>?_
    clear hH;go_simp
    go_wp2_with(go_at_call 33;refine(HP.out ()).mono ?_;rintro en w2 ⟨rfl,hb2⟩)
    have hS2:=(hb2.block cb (Qac hS0)).trans hS0;refine hK.out _ _ hS2 (λhH=>?_);clear hK K;refine tkQ 5 (.agg #[.int .i64 (R:Int),.slice none 0 0,.slice none 0 0]) hH ?_;refine rdQ [6] ?_
    refine arQ λK hK=>?_
    clear hH;go_simp;have hba:=(Below.refl w2.heap.size w2).alloc (Nat.le_refl _) (.cells #[.int .i64 (R:Int),.slice none 0 0,.slice none 0 0] 109);have hS3:=(hba.block cb (Qac hS2)).trans hS2;refine hK.out _ _ hS3 (λhH=>?_);clear hK K
   rotate_left
   focus
    clear hH;go_simp
    go_wp2_with(go_at_call 33;refine(HP.out ()).mono ?_;rintro en w2 ⟨rfl,hb2⟩)
    have hS2:=(hb2.block cb (Qac hS0)).trans hS0;refine hK.out _ _ hS2 (λhH=>?_);clear hK K;refine tkQ 5 (.agg #[.int .i64 (R:Int),.slice none 0 0,.slice none 0 0]) hH ?_;have hba:=(Below.refl w2.heap.size w2).alloc (Nat.le_refl _) (.cells #[.int .i64 (R:Int),.slice none 0 0,.slice none 0 0] 109);have hS3:=(hba.block cb (Qac hS2)).trans hS2;have b2:=(hb2.cell (p:=⟨fb,2,none⟩) hfbl).trans b0;have b3:=(hba.cell (p:=⟨fb,2,none⟩) (Nat.lt_of_lt_of_le hfbl hb2.size)).trans b2;refine rdQ [1,6] ?_;refine AllReadyH.cons rfl (λK hK=>?_) (arQ λK hK=>?_)
    focus
     clear hH;go_simp;refine hK.out _ _ hS2 (λhH=>?_);clear hK K;refine rdQ [6] ?_
     refine arQ λK hK=>?_
     clear hH;go_simp;refine hK.out _ _ hS3 (λhH=>?_);clear hK K b2 b3
    rotate_left
    focus
     clear hH;go_simp;refine hK.out _ _ hS3 (λhH=>?_);clear hK K;refine rdQ [1] ?_
     refine arQ λK hK=>?_
     clear hH;go_simp;refine hK.out _ _ hS3 (λhH=>?_);clear hK K b2 b3
   all_goals
    have HL3:=show Hid _ from(HLa.out.old hb2).alloc (.cells #[.int .i64 (R:Int),.slice none 0 0,.slice none 0 0] 109)
    have HF3:=show Hid (FrmX (Xs fb a j cp) wd (w2.alloc (.cells #[.int .i64 (R:Int),.slice none 0 0,.slice none 0 0] 109)))from(FrmX.of_below hb2).alloc _
    refine rdQ [7] ?_
    refine arQ λK hK=>?_
    refine QaM rfl ?_;refine Qau _ (.tmp 49) (.tmp 54) 53 rfl 0 109 i1 (.agg #[.int .i64 0,.slice none 0 0,.slice none 0 0]) 3 56 Tryz.underlying53 hi1 hy0 hy1 hy2 rfl (by decide) (.slice a j cp) j (srtCells R j) rfl HL3.out.own ⟨w2.heap.size,0,none⟩ 1 1 (srt1 R) rfl rfl (by have:=Qdw w2 (.int .i64 (R:Int)) (.slice none 0 0) (.slice none 0 0) 109;simpa[srt1]using this) (λu hu=>by simp[srt1]at hu;rcases hu with rfl | rfl<;>rfl) (by unfold maxLen;omega) (by omega) (Nat.zero_le _) (by decide) ?_;intro v3 w5 hown3 hfr3;obtain⟨a3,c3,rfl⟩:=Qaf hown3
    have HAp:=show Hid (_/\_)from LAt.put_app HL3.out hown3 rfl hfr3
    have hgr:=Qat hfr3;have hfz:=HLa.out.box
    have hrne:∀x,(Value.slice a j cp).ownBlock=some x->x≠cb:=λx hx e=>by
     obtain⟨cur,hc,_⟩:=QaO HLa.out.own hx;rw[e,hS0]at hc;simp only[Option.some.injEq,Obj.cells.injEq]at hc;exact absurd hc.2.1 (by decide)
    have hcfb:cb≠fb:=λe=>by
     rw[e,hfz]at hS0;simp only[Option.some.injEq,Obj.cells.injEq]at hS0;exact absurd hS0.2.1 (by decide)
    have hS5:=(hgr.block cb (Qac hS3) (λe=>hrne cb e.symm rfl)).trans hS3;have hslot:=HLa.out.slot;refine hK.out _ _ hS5 (λhH=>?_);clear hK K hfr3 hgr hown3 hfz;refine tkQ 8 (.pointer (some ⟨fb,2,none⟩)) hH ?_;refine rdQ [9] ?_
    refine arQ λK hK=>?_
    clear hH;have b5:w5.cell? ⟨fb,2,none⟩=some (.slice a j cp):=(Qaa HAp.out.1 2).trans hslot;have z5:w5.frozen? ⟨fb,2,none⟩=false:=Qab HAp.out.1 2;go_simp;have hS6:=(Below.heap_setCell w5 ⟨fb,2,none⟩ (.slice a3 (j+1) c3) cb (by simp only;exact hcfb)).trans hS5;refine hK.out _ _ hS6 (λhH=>?_);clear hK K hH b5 z5 hS5;refine wpAnyH_done krQ ?_ _
    have HN6:=show Hid (NSt w fb W R es cb rb (j+1) j (w5.setCell ⟨fb,2,none⟩ (.slice a3 (j+1) c3)))from HUp.out _ a3 c3 (by rw[Qcv];exact HAp.out.2.from HF3.out)
    clear HAp HF3 HL3 HUp HLa hslot hrne hS3 hba hS2 hb2 b0 HP hfbl hS0;generalize w5.setCell ⟨fb,2,none⟩ (.slice a3 (j+1) c3)=w6 at HN6 hS6 ⊢;clear hcfb;go_wp2;have hS0:w6.drew.heap[cb]? =some (.cells #[.int .i64 (W:Int),.int .i64 (R:Int)] 23 (0,0)):=hS6
    have HN:=show Hid (NSt w fb W R es cb rb (j+1) j w6.drew)from HN6.out.drew
    clear HN6 hS6;refine wp_region_held_drew (S:=λw':World=>w'.heap[cb]? =some (.cells #[.int .i64 (W:Int),.int .i64 (R:Int)] 23 (0,0))) krQ hS0 (λhH=>?_);generalize w6.drew=wd at HN hS0 hH ⊢;obtain⟨ve,a1,c1,a,cp,hfl⟩:=HN.out.cells;have b0:wd.cell? ⟨fb,3,none⟩=some (.slice a j cp):=Qaa hfl 3;have hfbl:=Qac hfl;clear hfl
    have HP:=show Hid _ from λ(_:Unit)=>QjH W R hW4 wd
    refine tkQ 0 (.pointer (some ⟨fb,3,none⟩)) hH ?_;refine tlQ 2 (.agg #[.int .i64 (W:Int),.int .i64 (R:Int)]) rfl (by intro v hSw;have s0:v.cell? ⟨cb,0,none⟩=some (.int .i64 (W:Int)):=Qaa hSw 0;have s1:v.cell? ⟨cb,1,none⟩=some (.int .i64 (R:Int)):=Qaa hSw 1;clear hSw;go_simp) hH ?_;refine rdQ [1,3] ?_;refine AllReadyH.cons rfl (λK hK=>?_) (arQ λK hK=>?_)
    focus
     clear hH;go_simp;refine hK.out _ _ hS0 (λhH=>?_);clear hK K;refine rdQ [3] ?_
     refine arQ λK hK=>?_
     clear hH;go_simp
     go_wp2_with(go_at_call 34;refine(HP.out ()).mono ?_;rintro en w2 ⟨iv,rfl,hoi,hb2⟩)
     have hS2:=(hb2.block cb (Qac hS0)).trans hS0;refine hK.out _ _ hS2 (λhH=>?_);clear hK K;have hiv:=Qaf hoi;obtain⟨iva,ivc,rfl⟩:=hiv;refine tkQ 4 (.agg #[.slice iva W ivc,.slice none 0 0]) hH ?_;refine rdQ [5] ?_
     refine arQ λK hK=>?_
     clear hH;go_simp;have hba:=(Below.refl w2.heap.size w2).alloc (Nat.le_refl _) (.cells #[.slice iva W ivc,.slice none 0 0] 113);have hS3:=(hba.block cb (Qac hS2)).trans hS2;refine hK.out _ _ hS3 (λhH=>?_);clear hK K
    rotate_left
    focus
     clear hH;go_simp
     go_wp2_with(go_at_call 34;refine(HP.out ()).mono ?_;rintro en w2 ⟨iv,rfl,hoi,hb2⟩)
     have hS2:=(hb2.block cb (Qac hS0)).trans hS0;refine hK.out _ _ hS2 (λhH=>?_);clear hK K;have hiv:=Qaf hoi;obtain⟨iva,ivc,rfl⟩:=hiv;refine tkQ 4 (.agg #[.slice iva W ivc,.slice none 0 0]) hH ?_;have hba:=(Below.refl w2.heap.size w2).alloc (Nat.le_refl _) (.cells #[.slice iva W ivc,.slice none 0 0] 113);have hS3:=(hba.block cb (Qac hS2)).trans hS2;have b2:=(hb2.cell (p:=⟨fb,3,none⟩) hfbl).trans b0;have b3:=(hba.cell (p:=⟨fb,3,none⟩) (Nat.lt_of_lt_of_le hfbl hb2.size)).trans b2;refine rdQ [1,5] ?_;refine AllReadyH.cons rfl (λK hK=>?_) (arQ λK hK=>?_)
     focus
      clear hH;go_simp;refine hK.out _ _ hS2 (λhH=>?_);clear hK K;refine rdQ [5] ?_
      refine arQ λK hK=>?_
      clear hH;go_simp;refine hK.out _ _ hS3 (λhH=>?_);clear hK K b2 b3
     rotate_left
     focus
      clear hH;go_simp;refine hK.out _ _ hS3 (λhH=>?_);clear hK K;refine rdQ [1] ?_
      refine arQ λK hK=>?_
      clear hH;go_simp;refine hK.out _ _ hS3 (λhH=>?_);clear hK K b2 b3
    all_goals
     obtain⟨cs,a9,cp9,xs,hla,hup⟩:=HN.out.adders omQ hb2 hoi;have hb9:=hla.cell;rw[hb2.cell (p:=⟨fb,3,none⟩) hfbl,b0]at hb9;simp only[Option.some.injEq,Value.slice.injEq,true_and]at hb9;obtain⟨rfl,rfl⟩:=hb9;have HUp:=hdQ hup;have HLa:=hdQ hla;clear hup hla HN
     have HL3:=show Hid _ from HLa.out.alloc (.cells #[.slice iva W ivc,.slice none 0 0] 113)
     have HF3:=show Hid (FrmX (Xs fb a j cp) w2 (w2.alloc (.cells #[.slice iva W ivc,.slice none 0 0] 113)))from(FrmX.refl _ w2).alloc _
     refine rdQ [6] ?_
     refine arQ λK hK=>?_
     refine QaM rfl ?_;refine Qau _ (.tmp 58) (.tmp 62) 54 rfl 0 113 i2 (.agg #[.slice none 0 0,.slice none 0 0]) 2 48 Tryz.underlying54 hi2 hx0 hx1 hx2 rfl (by decide) (.slice a j cp) j xs rfl HL3.out.own ⟨w2.heap.size,0,none⟩ 1 1 [.slice iva W ivc,.slice none 0 0] rfl rfl (Qgq w2 (.slice iva W ivc) (.slice none 0 0) 113) (λu hu=>by simp at hu;rcases hu with rfl | rfl<;>rfl) (by unfold maxLen;omega) (by omega) (Nat.zero_le _) (by decide) ?_;intro v3 w5 hown3 hfr3;obtain⟨a3,c3,rfl⟩:=Qaf hown3
     have HAp:=show Hid (_/\_)from LAt.put_app HL3.out hown3 rfl hfr3
     have hgr:=Qat hfr3;have hfz:=HLa.out.box
     have hrne:∀x,(Value.slice a j cp).ownBlock=some x->x≠cb:=λx hx e=>by
      obtain⟨cur,hc,_⟩:=QaO HLa.out.own hx;rw[e,hS2]at hc;simp only[Option.some.injEq,Obj.cells.injEq]at hc;exact absurd hc.2.1 (by decide)
     have hcfb:cb≠fb:=λe=>by
      rw[e,hfz]at hS2;simp only[Option.some.injEq,Obj.cells.injEq]at hS2;exact absurd hS2.2.1 (by decide)
     have hS5:=(hgr.block cb (Qac hS3) (λe=>hrne cb e.symm rfl)).trans hS3;have hslot:=HLa.out.slot;refine hK.out _ _ hS5 (λhH=>?_);clear hK K hfr3 hgr hown3 hfz;refine tkQ 7 (.pointer (some ⟨fb,3,none⟩)) hH ?_;refine rdQ [8] ?_
     refine arQ λK hK=>?_
     clear hH;have b5:w5.cell? ⟨fb,3,none⟩=some (.slice a j cp):=(Qaa HAp.out.1 3).trans hslot;have z5:w5.frozen? ⟨fb,3,none⟩=false:=Qab HAp.out.1 3;go_simp;have hS6:=(Below.heap_setCell w5 ⟨fb,3,none⟩ (.slice a3 (j+1) c3) cb (by simp only;exact hcfb)).trans hS5;refine hK.out _ _ hS6 (λhH=>?_);clear hK K hH b5 z5 hS5 hS6;refine wpAnyH_done krQ ?_ _
     have HN6:=show Hid (NSt w fb W R es cb rb (j+1) (j+1) (w5.setCell ⟨fb,3,none⟩ (.slice a3 (j+1) c3)))from HUp.out _ a3 c3 (HAp.out.2.from HF3.out)
     clear HAp HF3 HL3 HUp HLa hslot hrne hS3 hba hS2 hb2 b0 HP hfbl hS0 hoi;generalize w5.setCell ⟨fb,3,none⟩ (.slice a3 (j+1) c3)=w6 at HN6 ⊢;subst hcbe;subst hrbe;go_wp2
     go_roundw
     case rel=>exact⟨j+1,by omega,by go_num,HN6.out⟩
     case measure=>simp[intOf];omega
  ·have hjj:j=W:=omQ;subst hjj;have hji:¬(j:Int)<(j:Int):=omQ;subst hcbe;obtain⟨L,l1,l2,l3,l4,l5,l6,l7,l8⟩:=hN;have hfl:=l2.heap0 l1;obtain⟨ea,ec,e3⟩:=Qaf (l1.own 3);obtain⟨a1,c1,e1⟩:=Qaf (l1.own 1);obtain⟨a2,c2,e2⟩:=Qaf (l1.own 2);rw[l2.row3.1]at e3;rw[l2.row1.1]at e1;rw[l2.row2.1]at e2;rw[e3,e1,e2]at hfl;have f0:wr.cell? ⟨fb,0,none⟩=some (.slice ea es.length ec):=Qaa hfl 0;have f1:wr.cell? ⟨fb,1,none⟩=some (.int .i64 0):=Qaa hfl 1;have f2:wr.cell? ⟨fb,2,none⟩=some (.slice a1 j c1):=Qaa hfl 2;have f3:wr.cell? ⟨fb,3,none⟩=some (.slice a2 j c2):=Qaa hfl 3;have f4:wr.cell? ⟨fb,4,none⟩=some (.int .i64 0):=Qaa hfl 4;have f5:wr.cell? ⟨fb,5,none⟩=some (.int .i64 0):=Qaa hfl 5;have f6:wr.cell? ⟨fb,6,none⟩=some (.int .i64 0):=Qaa hfl 6;have f7:wr.cell? ⟨fb,7,none⟩=some (.slice none 0 0):=Qaa hfl 7;have f8:wr.cell? ⟨fb,8,none⟩=some (.int .i64 0):=Qaa hfl 8;have f9:wr.cell? ⟨fb,9,none⟩=some (.slice none 0 0):=Qaa hfl 9;have f10:wr.cell? ⟨fb,10,none⟩=some (.int .i64 0):=Qaa hfl 10;obtain⟨⟨d0,d1,d2,d3,d4,d5,d6,d7,d8,d9,d10⟩,⟨z0,z1,z2,z3,z4,z5,z6,z7,z8,z9,z10⟩⟩:=flowCells l6
   have hrX:¬LX L rb:=λhg=>(l3 rb hg).2.2 rfl
   have hfs:=flowSet l6 (.slice ea es.length ec) (.int .i64 0) (.slice a1 j c1) (.slice a2 j c2) (.int .i64 0) (.int .i64 0) (.int .i64 0) (.slice none 0 0) (.int .i64 0) (.slice none 0 0) (.int .i64 0)
   have HE:=show Hid (_/\_)from And.intro (l1.frm (QkQ (FrmX.refl (λx=>x=rb) wr) (b:=rb) (λ_=>rfl) (.slice ea es.length ec) (.int .i64 0) (.slice a1 j c1) (.slice a2 j c2) (.int .i64 0) (.int .i64 0) (.int .i64 0) (.slice none 0 0) (.int .i64 0) (.slice none 0 0) (.int .i64 0)) (λg hg e=>hrX (e ▸ hg))) (Qbz l4 l8 (.slice ea es.length ec) (.int .i64 0) (.slice a1 j c1) (.slice a2 j c2) (.int .i64 0) (.int .i64 0) (.int .i64 0) (.slice none 0 0) (.int .i64 0) (.slice none 0 0) (.int .i64 0))
   have HL:=show Hid _ from And.intro l2 l3
   clear l1 l2 l3 l4 l5 l6 hfl hcf hrX;go_wp2;exact bodyPost_ret (QaT (p:=4) (u:=5) (ty:=61) rfl _ _ rb 61 #[.slice ea es.length ec,.int .i64 0,.slice a1 j c1,.slice a2 j c2,.int .i64 0,.int .i64 0,.int .i64 0,.slice none 0 0,.int .i64 0,.slice none 0 0,.int .i64 0] (0,0) _ rfl hfs Tryz.underlying61 rfl krQ) rfl ⟨_,_,_,rfl,fb,L,HE.out.1,HL.out.1,λg hg=>(HL.out.2 g hg).1,HE.out.2,e3,e1,e2⟩
def newM(W R:Nat)(es:List Ev):CM:=⟨W,R,es,0,λ_=>[],λ_=>[],λ_ _=>[],λ_ _=>false,λ_=>[],0,0,0,[],0,[],0⟩
theorem QmP{w:World}{L:Nat->Rw}{fb W R:Nat}{es:List Ev}{jb:Nat}(hW:1<=W/\W<=4)(h1:Lay w L)(h2:NSpec L fb W R es W W)(hj:w.heap[jb]? =some (.cells #[(L 3).v,.int .i64 0,(L 1).v,(L 2).v,.int .i64 0,.int .i64 0,.int .i64 0,.slice none 0 0,.int .i64 0,.slice none 0 0,.int .i64 0] 65 (0,0)))(hn:∀c,(L c).v.ownBlock≠some jb):∃F:Fx,F.jb=jb/\CLX F (LX (repL L 0 ⟨65,11,.slice (some ⟨jb,0,none⟩) 1 1,1,[(L 3).v,.int .i64 0,(L 1).v,(L 2).v,.int .i64 0,.int .i64 0,.int .i64 0,.slice none 0 0,.int .i64 0,.slice none 0 0,.int .i64 0]⟩)) w (newM W R es):=by
 have hl:=h1.repl 0 ⟨65,11,.slice (some ⟨jb,0,none⟩) 1 1,1,[(L 3).v,.int .i64 0,(L 1).v,(L 2).v,.int .i64 0,.int .i64 0,.int .i64 0,.slice none 0 0,.int .i64 0,.slice none 0 0,.int .i64 0]⟩ ⟨rfl,.inr ⟨jb,1,_,rfl,Nat.zero_le _,hj,Nat.le_refl _,by unfold maxLen;omega,rfl,rfl⟩⟩ (λg x _ hg hx=>by
  have e:jb=g:=Option.some.inj hg;rw[<-e]at hx
  exact hn x hx)
 obtain⟨g1,d1,e1⟩:=QbC (h1.own 1) (by rw[h2.row1.1];omega);obtain⟨g2,d2,e2⟩:=QbC (h1.own 2) (by rw[h2.row2.1];omega)
 have hin:∀i,i<W->∃g c,(L (30+i)).v=.slice (some ⟨g,0,none⟩) W c:=λi hi=>by
  obtain⟨g,c,e⟩:=QbC (h1.own (30+i)) (by rw[(h2.inl i hi).1];omega);rw[(h2.inl i hi).1]at e;exact⟨g,c,e⟩
 refine⟨⟨jb,g1,g2,d1,d2,λi=>if h:i<W then(hin i h).choose else 0,λi=>if h:i<W then(hin i h).choose_spec.choose else 0⟩,rfl,_,hl,?_,rfl⟩;generalize hL:repL L 0 ⟨65,11,.slice (some ⟨jb,0,none⟩) 1 1,1,[(L 3).v,.int .i64 0,(L 1).v,(L 2).v,.int .i64 0,.int .i64 0,.int .i64 0,.slice none 0 0,.int .i64 0,.slice none 0 0,.int .i64 0]⟩=L'
 have fx:∀x,x≠0->L' x=L x:=λx hx=>by rw[<-hL];exact Qcs hx
 have f0:L' 0=⟨65,11,.slice (some ⟨jb,0,none⟩) 1 1,1,[(L 3).v,.int .i64 0,(L 1).v,(L 2).v,.int .i64 0,.int .i64 0,.int .i64 0,.slice none 0 0,.int .i64 0,.slice none 0 0,.int .i64 0]⟩:=by rw[<-hL];exact Qdv _ _ _
 have nl:∀c,4<=c->¬(30<=c/\c<30+W)->(L c).v=.slice none 0 0/\(L c).n=0/\(L c).xs=[]:=h2.other
 have leaf:∀c,4<=c->¬(30<=c/\c<30+W)->Leaf (L' c) (tyOf c) (szOf c) 0 []:=λc h4 h5=>by
  rw[fx c omQ];exact⟨(h2.ty c).1,(h2.ty c).2,(nl c h4 h5).2.1,(nl c h4 h5).2.2⟩
 have t10:∀i,i<W->tyOf (10+i)=164/\szOf (10+i)=8:=λi hi=>by unfold tyOf szOf;rw[if_neg omQ,if_neg omQ,if_neg omQ,if_neg omQ,if_neg omQ,if_pos omQ,if_neg omQ,if_neg omQ,if_neg omQ,if_neg omQ,if_neg omQ,if_pos omQ];exact⟨rfl,rfl⟩
 have t20:∀i,i<W->tyOf (20+i)=182/\szOf (20+i)=4:=λi hi=>by unfold tyOf szOf;rw[if_neg omQ,if_neg omQ,if_neg omQ,if_neg omQ,if_neg omQ,if_neg omQ,if_pos omQ,if_neg omQ,if_neg omQ,if_neg omQ,if_neg omQ,if_neg omQ,if_neg omQ,if_pos omQ];exact⟨rfl,rfl⟩
 have t30:∀i,i<W->tyOf (30+i)=128:=λi hi=>by unfold tyOf;rw[if_neg omQ,if_neg omQ,if_neg omQ,if_neg omQ,if_neg omQ,if_neg omQ,if_neg omQ,if_pos omQ]
 have t40:∀i,i<W->tyOf (40+i)=175/\szOf (40+i)=5:=λi hi=>by unfold tyOf szOf;rw[if_neg omQ,if_neg omQ,if_neg omQ,if_neg omQ,if_neg omQ,if_neg omQ,if_neg omQ,if_neg omQ,if_pos omQ,if_neg omQ,if_neg omQ,if_neg omQ,if_neg omQ,if_neg omQ,if_neg omQ,if_neg omQ,if_neg omQ,if_pos omQ];exact⟨rfl,rfl⟩
 have t100:∀c,50<=c->tyOf c=164/\szOf c=8:=λc hc=>by unfold tyOf szOf;rw[if_neg omQ,if_neg omQ,if_neg omQ,if_neg omQ,if_neg omQ,if_neg omQ,if_neg omQ,if_neg omQ,if_neg omQ,if_neg omQ,if_neg omQ,if_neg omQ,if_neg omQ,if_neg omQ,if_neg omQ,if_neg omQ,if_neg omQ,if_neg omQ];exact⟨rfl,rfl⟩
 refine⟨hW,⟨by rw[f0],by rw[f0],by rw[f0,fx 3 omQ,fx 1 omQ,fx 2 omQ,fx 4 omQ,fx 5 omQ,(nl 4 omQ omQ).1,(nl 5 omQ omQ).1];rfl⟩,⟨by rw[fx 1 omQ];exact(h2.ty 1).1,by rw[fx 1 omQ,e1,h2.row1.1];rfl,λi hi=>?_⟩,⟨by rw[fx 2 omQ];exact(h2.ty 2).1,by rw[fx 2 omQ,e2,h2.row2.1];rfl,λi hi=>?_⟩,by rw[fx 3 omQ];exact⟨(h2.ty 3).1,(h2.ty 3).2,h2.row3.1,h2.row3.2⟩,leaf 4 omQ omQ,leaf 5 omQ omQ,λi hi=>?_,λi hi=>?_,λi hi=>⟨by rw[fx _ omQ];exact(h2.ty _).1.trans (t30 i hi),?_,λq hq=>?_⟩,λi hi=>?_,λi q hi hq=>?_⟩
 ·have hi:i<W:=hi;rw[fx 1 omQ,fx _ omQ,fx _ omQ,h2.row1.2,(nl (10+i) omQ omQ).1,(nl (20+i) omQ omQ).1];exact⟨Qck R W i 0 hi (by decide),Qck R W i 1 hi (by decide),Qck R W i 2 hi (by decide)⟩
 ·have hi:i<W:=hi;rw[fx 2 omQ,fx _ omQ,fx _ omQ,(nl (40+i) omQ omQ).1];exact h2.row2.2 i hi
 ·have hi:i<W:=hi;have:=leaf (10+i) omQ omQ;rw[(t10 i hi).1,(t10 i hi).2]at this;exact this
 ·have hi:i<W:=hi;have:=leaf (20+i) omQ omQ;rw[(t20 i hi).1,(t20 i hi).2]at this;exact this
 ·have hi':i<W:=hi;rw[fx _ omQ]
  show(L (30+i)).v=.slice (some ⟨if h:i<W then(hin i h).choose else 0,0,none⟩) W (if h:i<W then(hin i h).choose_spec.choose else 0)
  rw[dif_pos hi',dif_pos hi'];exact(hin i hi').choose_spec.choose_spec
 ·have hi':i<W:=hi;have hq':q<W:=hq;rw[fx _ omQ,fx _ omQ,(h2.inl i hi').2,(nl (100+10*i+q) omQ omQ).1];exact⟨Qcj R W q 0 hq' (by decide),Qcj R W q 1 hq' (by decide),Qcj R W q 2 hq' (by decide)⟩
 ·have hi:i<W:=hi;have:=leaf (40+i) omQ omQ;rw[(t40 i hi).1,(t40 i hi).2]at this;exact this
 ·have:=leaf (100+10*i+q) omQ omQ;rw[(t100 _ omQ).1,(t100 _ omQ).2]at this;exact this
theorem QmQ(w:World)(W R:Nat)(log:ByteArray)(es:List Ev)(mm:Nat)(hlog:log.size<=400)(hp:Parsed log es mm)(hW1:1<=W)(hW4:W<=4)(hR1:1<=R)(hR4:R<=4):
  Calls Tryz.prog 8 #[.agg #[.int .i64 (W:Int),.int .i64 (R:Int)],.string log] w λen w'=>∃(F:Fx) (X:Nat->Prop),en=.returned (.tuple #[.pointer (some ⟨F.jb,0,none⟩),.int .i64 0])/\CLX F X w' (newM W R es)/\(∀g,X g->w.heap.size<=g)/\Below w.heap.size w w':=by
 have HF:=show Hid _ from λ(w':World)=>QmO w' W R log es mm hlog hp hW1 hW4 hR1 hR4
 have hnb:=heap_alloc_new w (.cells #[.int .i64 (W:Int),.int .i64 (R:Int)] 23);have hba:=(Below.refl w.heap.size w).alloc (Nat.le_refl _) (.cells #[.int .i64 (W:Int),.int .i64 (R:Int)] 23);go_enter Tryz.func8,Tryz.ntmps8
 obtain⟨wa,hwa⟩:∃wa,w.alloc (.cells #[.int .i64 (W:Int),.int .i64 (R:Int)] 23)=wa:=⟨_,rfl⟩
 rw[hwa]at hnb hba;have c0:wa.cell? ⟨w.heap.size,0,none⟩=some (.int .i64 (W:Int)):=Qaa hnb 0;have c1:wa.cell? ⟨w.heap.size,1,none⟩=some (.int .i64 (R:Int)):=Qaa hnb 1
 have HB:=show Hid (Below w.heap.size w wa)from hba
 clear hnb hba
 have hz:((0:Int) !=0)=false:=by simp
 go_wp2_with(go_at_call 13;refine(HF.out _).mono ?_;rintro en w2 ⟨ve,vs,va,rfl,fb,L,l1,l2,l3,l4,rfl,rfl,rfl⟩;obtain⟨ea,ec,e3⟩:=Qaf (l1.own 3);obtain⟨a1,q1,e1⟩:=Qaf (l1.own 1);obtain⟨a2,q2,e2⟩:=Qaf (l1.own 2);rw[l2.row3.1]at e3;rw[l2.row1.1]at e1;rw[l2.row2.1]at e2;have HL:=show Hid (Lay w2 L/\NSpec L fb W R es W W/\(∀g,LX L g->wa.heap.size<=g)/\Below wa.heap.size wa w2/\(L 3).v=.slice ea es.length ec/\(L 1).v=.slice a1 W q1/\(L 2).v=.slice a2 W q2)from⟨l1,l2,l3,l4,e3,e1,e2⟩;rw[e3,e1,e2];clear l1 l2 l3 l4 e3 e1 e2;have hnb3:=heap_alloc_new w2 (.cells #[.slice none 0 0,.int .i64 0,.slice none 0 0,.slice none 0 0,.int .i64 0,.int .i64 0,.int .i64 0,.slice none 0 0,.int .i64 0,.slice none 0 0,.int .i64 0] 61);have hba3:=(Below.refl w2.heap.size w2).alloc (Nat.le_refl _) (.cells #[.slice none 0 0,.int .i64 0,.slice none 0 0,.slice none 0 0,.int .i64 0,.int .i64 0,.int .i64 0,.slice none 0 0,.int .i64 0,.slice none 0 0,.int .i64 0] 61);obtain⟨wf,hwf⟩:∃wf,w2.alloc (.cells #[.slice none 0 0,.int .i64 0,.slice none 0 0,.slice none 0 0,.int .i64 0,.int .i64 0,.int .i64 0,.slice none 0 0,.int .i64 0,.slice none 0 0,.int .i64 0] 61)=wf:=⟨_,rfl⟩;rw[hwf]at hnb3 hba3;obtain⟨⟨d0,d1,d2,d3,d4,d5,d6,d7,d8,d9,d10⟩,⟨z0,z1,z2,z3,z4,z5,z6,z7,z8,z9,z10⟩⟩:=flowCells hnb3)
 go_ret2
 obtain⟨l1,l2,l3,l4,e3,e1,e2⟩:=HL.out;have hbs:=Qbz hba3 (Nat.le_refl w2.heap.size) (.slice ea es.length ec) (.int .i64 0) (.slice a1 W q1) (.slice a2 W q2) (.int .i64 0) (.int .i64 0) (.int .i64 0) (.slice none 0 0) (.int .i64 0) (.slice none 0 0) (.int .i64 0)
 have hgs:((((((((((((wf.setCell ⟨w2.heap.size,0,none⟩ (.slice ea es.length ec)).setCell ⟨w2.heap.size,1,none⟩ (.int .i64 0)).setCell ⟨w2.heap.size,2,none⟩ (.slice a1 W q1)).setCell ⟨w2.heap.size,3,none⟩ (.slice a2 W q2)).setCell ⟨w2.heap.size,4,none⟩ (.int .i64 0)).setCell ⟨w2.heap.size,5,none⟩ (.int .i64 0)).setCell ⟨w2.heap.size,6,none⟩ (.int .i64 0)).setCell ⟨w2.heap.size,7,none⟩ (.slice none 0 0)).setCell ⟨w2.heap.size,8,none⟩ (.int .i64 0)).setCell ⟨w2.heap.size,9,none⟩ (.slice none 0 0)).setCell ⟨w2.heap.size,10,none⟩ (.int .i64 0))).heap.size=wf.heap.size:=by simp only[World.size_setCell]
 generalize(((((((((((wf.setCell ⟨w2.heap.size,0,none⟩ (.slice ea es.length ec)).setCell ⟨w2.heap.size,1,none⟩ (.int .i64 0)).setCell ⟨w2.heap.size,2,none⟩ (.slice a1 W q1)).setCell ⟨w2.heap.size,3,none⟩ (.slice a2 W q2)).setCell ⟨w2.heap.size,4,none⟩ (.int .i64 0)).setCell ⟨w2.heap.size,5,none⟩ (.int .i64 0)).setCell ⟨w2.heap.size,6,none⟩ (.int .i64 0)).setCell ⟨w2.heap.size,7,none⟩ (.slice none 0 0)).setCell ⟨w2.heap.size,8,none⟩ (.int .i64 0)).setCell ⟨w2.heap.size,9,none⟩ (.slice none 0 0)).setCell ⟨w2.heap.size,10,none⟩ (.int .i64 0))=wg at hbs hgs ⊢;have hjn:=heap_alloc_new wg (.cells #[.slice ea es.length ec,.int .i64 0,.slice a1 W q1,.slice a2 W q2,.int .i64 0,.int .i64 0,.int .i64 0,.slice none 0 0,.int .i64 0,.slice none 0 0,.int .i64 0] 65);have hba4:=(Below.refl wg.heap.size wg).alloc (Nat.le_refl _) (.cells #[.slice ea es.length ec,.int .i64 0,.slice a1 W q1,.slice a2 W q2,.int .i64 0,.int .i64 0,.int .i64 0,.slice none 0 0,.int .i64 0,.slice none 0 0,.int .i64 0] 65);have l1':=(l1.below hbs).below hba4;have hsz:=hbs.size
 obtain⟨F,hF,hC⟩:=QmP (jb:=wg.heap.size) ⟨hW1,hW4⟩ l1' l2 (by rw[e3,e1,e2];exact hjn) (λc e=>by
  have:=l1.lt ⟨c,e⟩
  omega)
 have hb2:=HB.out.trans (l4.mono HB.out.size);have hbg:=hb2.trans (hbs.mono hb2.size);refine⟨F,_,by rw[hF,hgs];rfl,hC,λg hg=>?_,hbg.trans (hba4.mono hbg.size)⟩;obtain⟨c,hc⟩:=hg
 by_cases e:c=0
 ·rw[e,Qdv]at hc;have:wg.heap.size=g:=Option.some.inj hc;have:=hbg.size;omega
 ·rw[Qcs e]at hc;have:=l3 g ⟨c,hc⟩;have:=HB.out.size;omega
section
variable {w:World} {jb:Nat}
theorem wStep{t:Int}{P:Int->World->Prop}(hc:Calls Tryz.prog 44 #[.pointer (some ⟨jb,0,none⟩),.int .i64 t] w λen w'=>∃r:Int,en=.returned (.int .i64 r)/\P r w'):Calls Tryz.prog 21 #[.pointer (some ⟨jb,0,none⟩),.int .i64 t] w λen w'=>∃r:Int,en=.returned (.int .i64 r)/\P r w':=by
 have HC:=show Hid _ from λ(_:Unit)=>hc
 clear hc;go_enter Tryz.func21,Tryz.ntmps21
 go_wp2_with(go_at_call 44;refine(HC.out ()).mono ?_;rintro en w2 ⟨r,rfl,hP⟩)
 go_ret;exact⟨r,rfl,hP⟩
theorem wTrigger{P:Int->Int->World->Prop}(hc:Calls Tryz.prog 49 #[.pointer (some ⟨jb,0,none⟩)] w λen w'=>∃r s:Int,en=.returned (.tuple #[.int .i64 r,.int .i64 s])/\P r s w'):Calls Tryz.prog 23 #[.pointer (some ⟨jb,0,none⟩)] w λen w'=>∃r s:Int,en=.returned (.tuple #[.int .i64 r,.int .i64 s])/\P r s w':=by
 have HC:=show Hid _ from λ(_:Unit)=>hc
 clear hc;go_enter Tryz.func23,Tryz.ntmps23
 go_wp2_with(go_at_call 49;refine(HC.out ()).mono ?_;rintro en w2 ⟨r,s,rfl,hP⟩)
 go_ret2
 exact⟨r,s,rfl,hP⟩
theorem wFail{P:World->Prop}(hc:Calls Tryz.prog 55 #[.pointer (some ⟨jb,0,none⟩)] w λen w'=>en=.returned (.tuple #[])/\P w'):Calls Tryz.prog 30 #[.pointer (some ⟨jb,0,none⟩)] w λen w'=>en=.returned (.tuple #[])/\P w':=by
 have HC:=show Hid _ from λ(_:Unit)=>hc
 clear hc;go_enter Tryz.func30,Tryz.ntmps30
 go_wp2_with(go_at_call 55;refine(HC.out ()).mono ?_;rintro en w2 ⟨rfl,hP⟩)
 go_end0
 exact⟨rfl,hP⟩
theorem wQueue{t:Int}{e:Nat}{P:Value->World->Prop}(hc:Calls Tryz.prog 79 #[.pointer (some ⟨jb,0,none⟩),.int .i64 t] w λen w'=>∃v,en=.returned (.tuple #[v,.int .i64 (e:Int)])/\P v w'):Calls Tryz.prog 50 #[.pointer (some ⟨jb,0,none⟩),.int .i64 t] w λen w'=>∃v,en=.returned (.tuple #[v,.int .i64 (e:Int)])/\P v w':=by
 have HC:=show Hid _ from λ(_:Unit)=>hc
 clear hc;go_enter Tryz.func50,Tryz.ntmps50
 go_wp2_with(go_at_call 79;refine(HC.out ()).mono ?_;rintro en w2 ⟨v,rfl,hP⟩)
 go_ret2
 exact⟨v,rfl,hP⟩
theorem wOffset{r:Int}{P:World->Prop}(hc:Calls Tryz.prog 53 #[.pointer (some ⟨jb,0,none⟩)] w λen w'=>en=.returned (.int .i64 r)/\P w'):Calls Tryz.prog 26 #[.pointer (some ⟨jb,0,none⟩)] w λen w'=>en=.returned (.int .i64 r)/\P w':=by
 have HC:=show Hid _ from λ(_:Unit)=>hc
 clear hc;go_enter Tryz.func26,Tryz.ntmps26
 go_wp2_with(go_at_call 53;refine(HC.out ()).mono ?_;rintro en w2 ⟨rfl,hP⟩)
 go_ret;exact⟨rfl,hP⟩
theorem wView{s:ByteArray}{P:World->Prop}(hc:Calls Tryz.prog 54 #[.pointer (some ⟨jb,0,none⟩)] w λen w'=>en=.returned (.string s)/\P w'):Calls Tryz.prog 28 #[.pointer (some ⟨jb,0,none⟩)] w λen w'=>en=.returned (.string s)/\P w':=by
 have HC:=show Hid _ from λ(_:Unit)=>hc
 clear hc;go_enter Tryz.func28,Tryz.ntmps28
 go_wp2_with(go_at_call 54;refine(HC.out ()).mono ?_;rintro en w2 ⟨rfl,hP⟩)
 go_ret;exact⟨rfl,hP⟩
end
end
section
def itS(E:List Ev)(x:Int):ItemV:=if x<0 then barI else evI ((E[x.toNat]?).getD ev0)
def itA(c:ChgM):ItemV:=if c.pt<0 then barI else chI c.pt.toNat c.live (wrap16 c.delta)
def stateOf(j:JobM):Nat:=if j.under then(if j.barriers then(if j.complete then 3 else 2)else 1)else 0
def cntP(l:List AdderM):Nat:=(l.filter (λa=>a.passed)).length
def laidOf(j:JobM):Nat:=if j.under then cntP j.adders else 0
def ReadyIs(ready:List GX)(j:JobM):Prop:=sortedX ready/\∀x,x∈ready↔(j.under=true/\∃a,j.adders[x.v.pt % j.width]? =some a/\a.passed=true/\a.chgd x.v.pt/\x.v=gvC (a.got.take a.marked) x.v.pt/\x.ch=false)
structure Abs (m:CM) (j:JobM):Prop where
 W:m.W=j.width
 R:m.R=j.room
 w4:1<=j.width/\j.width<=4
 r4:1<=j.room/\j.room<=4
 evs:m.evs=j.events
 len:j.events.length<=400
 ev:∀e∈j.events,validB e.key=true/\0<e.key.size/\e.key.size<=1000
 flow:FlowOk j
 opn:OpenJ j
 sent:m.sent=j.sent
 sp:∀(i:Nat) (s:SorterM),j.sorters[i]? =some s->m.sp i=s.pipe.map (itS j.events)/\m.sk i=entsOf s.got
 spl:∀(i:Nat) (s:SorterM),j.sorters[i]? =some s->s.pipe.length<=j.room
 ap:∀(k:Nat) (a:AdderM),j.adders[k]? =some a->∀(q:Nat) (p:List ChgM),a.pipes[q]? =some p->m.ap k q=p.map itA
 apl:∀(k:Nat) (a:AdderM),j.adders[k]? =some a->∀(q:Nat) (p:List ChgM),a.pipes[q]? =some p->p.length<=j.room
 st:∀(k:Nat) (a:AdderM),j.adders[k]? =some a->∀(q:Nat) (b:Bool),a.stopped[q]? =some b->m.st k q=b
 tb:∀(k:Nat) (a:AdderM),j.adders[k]? =some a->TabIs (m.tb k) a.got (a.got.drop a.marked)
 state:m.state=stateOf j
 off:j.fl=true->m.off=j.off
 laid:m.laid=laidOf j
 ready:ReadyIs m.ready j
 last:m.last=j.number
 view:sortedX m.view/\m.view.map (λx=>x.v)=tabOf (j.events.take j.base)
 offset:m.offset=j.base
theorem QmR:itA barM=barI:=rfl
theorem QmS(E:List Ev):itS E (-1)=barI:=rfl
theorem QiV(l:List AdderM):cntP l<=l.length:=List.length_filter_le _ _
theorem Qhm(l:List AdderM):cntP l=l.length↔∀a∈l,a.passed=true:=by
 unfold cntP;rw[List.length_filter_eq_length_iff]
theorem QkS(l:List AdderM)(h:∀a∈l,a.passed=false):cntP l=0:=by
 unfold cntP;rw[List.length_eq_zero_iff,List.filter_eq_nil_iff];intro a ha;rw[h a ha];simp
theorem Qed{l:List AdderM}{k:Nat}{a a':AdderM}(h:l[k]? =some a)(hp:a'.passed=a.passed):cntP (l.set k a')=cntP l:=by
 induction l generalizing k with
 | nil=>cases h
 | cons x l ih=>
  cases k with
  | zero=>
   simp only[List.getElem?_cons_zero,Option.some.injEq]at h;subst h;simp only[List.set_cons_zero];unfold cntP
   cases hx:x.passed<;>simp[hp,hx]
  | succ k=>
   simp only[List.getElem?_cons_succ]at h;have:=ih h;simp only[List.set_cons_succ];unfold cntP at this ⊢;simp only[List.filter_cons];split
   ·simp only[List.length_cons,this]
   ·exact this
theorem QkT{l:List AdderM}{k:Nat}{a a':AdderM}(h:l[k]? =some a)(hp:a.passed=false)(hp':a'.passed=true):cntP (l.set k a')=cntP l+1:=by
 induction l generalizing k with
 | nil=>cases h
 | cons x l ih=>
  cases k with
  | zero=>
   simp only[List.getElem?_cons_zero,Option.some.injEq]at h;subst h;simp only[List.set_cons_zero];unfold cntP
   simp[hp,hp']
  | succ k=>
   simp only[List.getElem?_cons_succ]at h;have:=ih h;simp only[List.set_cons_succ];unfold cntP at this ⊢;simp only[List.filter_cons];split
   ·simp only[List.length_cons,this]
   ·exact this
theorem Qhn{j:JobM}(hf:FlowOk j){k:Nat}{a:AdderM}(ha:j.adders[k]? =some a):(∀c∈a.got,ChOk j.events c)/\a.got.length<=j.width*j.events.length/\∀(q:Nat) (p:List ChgM),a.pipes[q]? =some p->∀c∈p,c=barM\/(0<=c.pt/\ChOk j.events c):=by
 have o:=hf.adders k a ha;obtain⟨R,hR,hL⟩:=o.links
 have hs:∀i:Nat,i<j.width->∃s:SorterM,j.sorters[i]? =some s:=λi hi=>⟨_,List.getElem?_eq_getElem (by rw[hf.lenS];exact hi)⟩
 have hsub:∀(i:Nat) (s:SorterM),j.sorters[i]? =some s->(∀e∈s.got,e∈j.events)/\s.got.length<=j.events.length:=λi s h=>by
  have so:=hf.sorters i s h
  have key:∃l n,s.got++l=evs j.width j.events n i:=by
   by_cases hp:j.fl=true->s.passed=true
   ·exact⟨_,_,(so.free hp).2⟩
   ·have h1:j.fl=true:=Classical.byContradiction λx=>hp λy=>absurd y x
    have h2:s.passed=false:=by
     cases hh:s.passed with
     | false=>rfl
     | true=>exact absurd (λ_=>hh) hp
    obtain⟨p1,p2,_,_,_,e1,_⟩:=so.wait h1 h2;exact⟨_,_,e1⟩
  obtain⟨l,n,e⟩:=key;refine⟨λx hx=>Qej x (by rw[<-e];simp[hx]),?_⟩;have h1:=Qdu j.width j.events n i;rw[<-e,List.length_append]at h1;omega
 have hgo:∀(i:Nat) (s:SorterM),j.sorters[i]? =some s->∀c∈toA j.width k (outs s.got),ChOk j.events c:=λi s h c hc=>(Qdh _ _ c (Qds hc).1).mono (hsub i s h).1
 have hoo:∀i,∀c∈toA j.width k (outs (evs j.width j.events j.off i)),ChOk j.events c:=λi c hc=>(Qdh _ _ c (Qds hc).1).mono Qej
 have hlk:∀i,i<j.width->(∀c∈R i,ChOk j.events c)/\(R i).length<=j.events.length/\∀(p:List ChgM),a.pipes[i]? =some p->∀c∈p,c=barM\/(0<=c.pt/\ChOk j.events c):=λi hi=>by
  obtain⟨s,hs'⟩:=hs i hi;have hst:a.stopped[i]? =some (a.stopped[i]'(by rw[o.lenS];exact hi)):=List.getElem?_eq_getElem _;have hpp:a.pipes[i]? =some (a.pipes[i]'(by rw[o.lenP];exact hi)):=List.getElem?_eq_getElem _;have l:=hL i hi s _ _ hs' hst hpp
  have hol:(toA j.width k (outs s.got)).length<=j.events.length:=by
   have h1:=QdQ j.width k (outs s.got);have h2:=QcO s.got [];have h3:=(hsub i s hs').2;unfold outs at h1 ⊢;omega
  generalize a.stopped[i]'(by rw[o.lenS];exact hi)=sb at l hst;generalize a.pipes[i]'(by rw[o.lenP];exact hi)=pp at l hpp
  by_cases hm:j.fl=true/\s.passed=true/\a.passed=false/\sb=false
  ·obtain⟨q1,q2,e1,c1,c2,e2,e3⟩:=l.mid hm.1 hm.2.1 hm.2.2.1 hm.2.2.2;refine⟨λc hc=>hgo i s hs' c (by rw[<-e3];simp[hc]),?_,λp hp c hc=>?_⟩
   ·have:=congrArg List.length e3;simp only[List.length_append]at this;omega
   ·rw[hpp]at hp;simp only[Option.some.injEq]at hp;subst hp;rw[e1]at hc
    rcases List.mem_append.1 hc with hc | hc
    ·exact .inr ⟨c1 c hc,hgo i s hs' c (by rw[<-e3];simp[hc])⟩
    ·rcases List.mem_cons.1 hc with hc | hc
     ·exact .inl hc
     ·exact .inr ⟨c2 c hc,hgo i s hs' c (by rw[<-e3];simp[hc])⟩
  ·obtain⟨c1,e1⟩:=l.free hm;refine⟨λc hc=>hgo i s hs' c (by rw[<-e1];simp[hc]),?_,λp hp c hc=>?_⟩
   ·have:=congrArg List.length e1;simp only[List.length_append]at this;omega
   ·rw[hpp]at hp;simp only[Option.some.injEq]at hp;subst hp;exact .inr ⟨c1 c hc,hgo i s hs' c (by rw[<-e1];simp[hc])⟩
 refine⟨λc hc=>?_,?_,λq p hp c hc=>?_⟩
 ·obtain⟨i,hi,hc'⟩:=List.mem_flatMap.1 (hR.mem_iff.1 hc);exact(hlk i (by simpa using hi)).1 c hc'
 ·rw[hR.length_eq]
  exact QdR j.width λi hi=>(hlk i hi).2.1
 ·have hq:q<j.width:=by
   have:=(List.getElem?_eq_some_iff.1 hp).1;rw[o.lenP]at this;exact this
  exact(hlk q hq).2.2 p hp c hc
theorem Abs.tabBounds{m:CM}{j:JobM}(h:Abs m j){k:Nat}{a:AdderM}(ha:j.adders[k]? =some a):(m.tb k).length<=400/\∀r∈m.tb k,-100000<=r.v.live/\r.v.live<=100000:=by
 obtain⟨g1,g2,_⟩:=Qhn h.flow ha;have h1:j.width*j.events.length<=4*400:=Nat.mul_le_mul h.w4.2 h.len;have hb:=(h.tb k a ha).bounds g1 omQ;have hp:=Qa2 j.events;have:=h.len;exact⟨by omega,hb.2⟩
theorem QjJ{E:List Ev}{t:List GX}(hs:sortedX t)(h:∀x∈t,∃c:ChgM,ChOk E c/\c.pt=(x.v.pt:Int)):t.length<=E.length:=by
 have:=QbM (ptsOf E) (t.map (λx=>x.v.pt)) hs (QaJ E) (λp hp=>by
  obtain⟨x,hx,rfl⟩:=List.mem_map.1 hp;obtain⟨c,⟨⟨e,he,hep⟩,_⟩,hcp⟩:=h x hx
  have hpt:x.v.pt=(grp e.key).1:=by rw[hcp]at hep;exact Int.ofNat.inj hep
  rw[hpt]
  exact(Qbj _ _).2 ⟨e.key,(Qaz _ _).2 ⟨e,he,rfl⟩,rfl⟩)
 rw[List.length_map]at this;exact Nat.le_trans this (Qa2 E)
theorem Abs.readyLen{m:CM}{j:JobM}(h:Abs m j):m.ready.length<=400:=by
 refine Nat.le_trans (QjJ h.ready.1 λx hx=>?_) h.len;obtain⟨_,a,ha,_,⟨c,hc,hcp⟩,_⟩:=(h.ready.2 x).1 hx;exact⟨c,(Qhn h.flow ha).1 c (List.mem_of_mem_take (List.mem_of_mem_drop hc)),hcp⟩
theorem Abs.viewLen{m:CM}{j:JobM}(h:Abs m j):m.view.length<=400:=by
 have h1:m.view.length=(tabOf (j.events.take j.base)).length:=by rw[<-h.view.2,List.length_map]
 rw[h1];unfold tabOf;rw[List.length_map];have h2:=Qa2 (j.events.take j.base);rw[List.length_take]at h2;have:=h.len;omega
end
section
open Go.RowKit
abbrev CJT:=(Nat->Prop)->World->Nat->JobM->Prop
def After(CJ:CJT)(X:Nat->Prop)(w:World)(jb:Nat)(j':JobM)(w':World):Prop:=
 ∃X':Nat->Prop,CJ X' w' jb j'/\FrmX X w w'/\∀g,X' g->X g\/w.heap.size<=g
structure JobIface (CJ:CJT):Prop where
 lt:∀ {X w jb j},CJ X w jb j->∀g,X g->g<w.heap.size
 frm:∀ {X w jb j},CJ X w jb j->∀ {Z:Nat->Prop} {w':World},FrmX Z w w'->(∀g,X g->¬Z g)->CJ X w' jb j
 good:∀ {X w jb j},CJ X w jb j->Good2 j/\(1<=j.width/\j.width<=4)/\j.events.length<=400
 step:∀ {X w jb j},CJ X w jb j->∀t:Int,-9223372036854775808<=t->t<=9223372036854775807->
  Calls Tryz.prog 21 #[.pointer (some ⟨jb,0,none⟩),.int .i64 t] w λen w'=>en=.returned (.int .i64 ((j.step t).1:Int))/\After CJ X w jb (j.step t).2 w'
 trigger:∀ {X w jb j},CJ X w jb j->j.number<4611686018427387904->
  Calls Tryz.prog 23 #[.pointer (some ⟨jb,0,none⟩)] w λen w'=>en=.returned (.tuple #[.int .i64 (j.trigger.1:Int),.int .i64 (j.trigger.2.1:Int)])/\After CJ X w jb j.trigger.2.2 w'
 fail:∀ {X w jb j},CJ X w jb j->
  Calls Tryz.prog 30 #[.pointer (some ⟨jb,0,none⟩)] w λen w'=>en=.returned (.tuple #[])/\After CJ X w jb j.fail w'
 queue:∀ {X w jb j},CJ X w jb j->∀t:Int,-9223372036854775808<=t->t<=9223372036854775807->
  Calls Tryz.prog 50 #[.pointer (some ⟨jb,0,none⟩),.int .i64 t] w λen w'=>∃v,en=.returned (.tuple #[v,.int .i64 ((j.queue t).2:Int)])/\w'.ownsRow w.heap.size 3 1 v (j.queue t).1.length ((j.queue t).1.map (Value.int .i64))/\Below w.heap.size w w'
 offset:∀ {X w jb j},CJ X w jb j->
  Calls Tryz.prog 26 #[.pointer (some ⟨jb,0,none⟩)] w λen w'=>en=.returned (.int .i64 (j.base:Int))/\Below w.heap.size w w'
 view:∀ {X w jb j},CJ X w jb j->Tab w->
  Calls Tryz.prog 28 #[.pointer (some ⟨jb,0,none⟩)] w λen w'=>en=.returned (.string ⟨(foldB (j.events.take j.base)).toArray⟩)/\Below w.heap.size w w'
 new:∀(w:World) (W R:Nat) (log:ByteArray) (es:List Ev) (m:Nat),log.size<=400->Parsed log es m->1<=W->W<=4->1<=R->R<=4->
  Calls Tryz.prog 8 #[.agg #[.int .i64 (W:Int),.int .i64 (R:Int)],.string log] w λen w'=>∃jb X,en=.returned (.tuple #[.pointer (some ⟨jb,0,none⟩),.int .i64 0])/\CJ X w' jb (newJ W R es)/\(∀g,X g->w.heap.size<=g)/\Below w.heap.size w w'
theorem After.of_below{CJ:CJT}(I:JobIface CJ){X:Nat->Prop}{w w':World}{jb:Nat}{j:JobM}(h:CJ X w jb j)(hb:Below w.heap.size w w'):CJ X w' jb j:=I.frm h (FrmX.of_below (X:=λ_=>False) hb) λ_ _ h=>h
theorem Qik(j:JobM)(t:Int):(j.step t).2.number=j.number:=by
 unfold JobM.step;split
 ·rfl
 ·split
  ·unfold JobM.source;split
   ·split<;>rfl
   ·split
    ·rfl
    ·split
     ·rfl
     ·split<;>rfl
  ·split
   ·unfold JobM.sorts;split
    ·rfl
    ·split
     ·rfl
     ·split
      ·split<;>rfl
      ·split
       ·rfl
       ·split
        ·split
         ·rfl
         ·split<;>rfl
        ·rfl
   ·split
    ·unfold JobM.adds;split
     ·rfl
     ·split<;>rfl
    ·unfold JobM.keeps;split
     ·rfl
     ·split<;>rfl
theorem QfK(j:JobM):j.trigger.2.2.number<=j.number+1:=by
 unfold JobM.trigger;split
 ·exact Nat.le_succ _
 ·exact Nat.le_refl _
theorem Qil(j:JobM):j.fail.number=j.number:=by
 unfold JobM.fail
 split<;>rfl
end
end Go.Proofs.YthccpacmklhejabGreatDoor
