import Derived.Test.YthccpacmklhejabGreatDoorTk
import Derived.Test.YthccpacmklhejabGreatDoorK12
import Derived.Test.YthccpacmklhejabGreatDoorK10
set_option maxHeartbeats 8000000
set_option maxRecDepth 100000
namespace Go.Proofs.YthccpacmklhejabGreatDoor
section
open Go.RowKit
theorem Qji(B kb o:Nat)(t:TypeId)(cs:Array Value)(a:Option Addr)(c:Nat)(rs:List GX)(at' xp:Nat)(xl xs xe:Int)(xc:Bool)(w:World)(hB:B<=w.heap.size)(hlen:rs.length<=1000)(hat:at'<=rs.length)(hG:GAt B kb o t cs a c rs w):
  Calls Tryz.prog 120 #[.pointer (some ⟨kb,o,none⟩),.int .i64 (at':Int),.agg #[.int .i32 (xp:Int),.int .i64 xl,.int .i16 xs,.int .u8 xe,.bool xc]] w λen w'=>en=.returned (.tuple #[])/\∃a' c',GUpd B kb o t cs a c rs w a' c' (rs.take at'++⟨⟨xp,xl,xs,xe⟩,xc⟩ :: rs.drop at') w':=by
 have hkl:kb<w.heap.size:=hG.bl
 have hgl0:∀g,(Value.slice a rs.length c).ownBlock=some g->g<w.heap.size:=λg hg=>(Qah hG.own g hg).2
 have hslot:=hG.slot;obtain⟨i0,hi,hz0,hz1,hz2⟩:=info_parts Tryz.infoGrp
 have HK:=show Hid _ from(hG.alloc (.cells #[.int .i32 (xp:Int),.int .i64 xl,.int .i16 xs,.int .u8 xe,.bool xc] 175)).drew
 have HKf:=show Hid _ from(FrmX.refl (Xs kb a rs.length c) w).alloc (.cells #[.int .i32 (xp:Int),.int .i64 xl,.int .i16 xs,.int .u8 xe,.bool xc] 175)
 have heb:(w.alloc (.cells #[.int .i32 (xp:Int),.int .i64 xl,.int .i16 xs,.int .u8 xe,.bool xc] 175)).drew.heap[w.heap.size]? =some (.cells #[.int .i32 (xp:Int),.int .i64 xl,.int .i16 xs,.int .u8 xe,.bool xc] 175 (0,0)):=heap_alloc_new w _;have hsz:w.heap.size<(w.alloc (.cells #[.int .i32 (xp:Int),.int .i64 xl,.int .i16 xs,.int .u8 xe,.bool xc] 175)).drew.heap.size:=Qac heb;clear hG;go_enter Tryz.func120,Tryz.ntmps120;go_wp2;refine wp_region_held_drew (S:=λw':World=>w'.heap[w.heap.size]? =some (.cells #[.int .i32 (xp:Int),.int .i64 xl,.int .i16 xs,.int .u8 xe,.bool xc] 175 (0,0))) krQ heb (λhH=>?_)
 have HKf':=show Hid _ from HKf.out.drew
 clear HKf;generalize(w.alloc (.cells #[.int .i32 (xp:Int),.int .i64 xl,.int .i16 xs,.int .u8 xe,.bool xc] 175)).drew=wd at HK HKf' heb hH hsz ⊢;have hkc:=HK.out.cell;have hkc2:=(HK.out.alloc (.cells #[.int .i32 (xp:Int),.int .i64 xl,.int .i16 xs,.int .u8 xe,.bool xc] 175)).cell;have heb2:(wd.alloc (.cells #[.int .i32 (xp:Int),.int .i64 xl,.int .i16 xs,.int .u8 xe,.bool xc] 175)).heap[w.heap.size]? =some (.cells #[.int .i32 (xp:Int),.int .i64 xl,.int .i16 xs,.int .u8 xe,.bool xc] 175 (0,0)):=(Below.heap_alloc _ _ _ (by have:=Qac heb;omega)).trans heb;refine tkQ 0 (.pointer (some ⟨kb,o,none⟩)) hH ?_;refine tkQ 1 (.pointer (some ⟨kb,o,none⟩)) hH ?_;refine tkQ 2 (.pointer (some ⟨kb,o,none⟩)) hH ?_;refine tkQ 3 (.pointer (some ⟨kb,o,none⟩)) hH ?_;refine tlQ 5 (.agg #[.int .i32 (xp:Int),.int .i64 xl,.int .i16 xs,.int .u8 xe,.bool xc]) rfl (by intro v hSw;have s0:v.cell? ⟨w.heap.size,0,none⟩=some (.int .i32 (xp:Int)):=Qaa hSw 0;have s1:v.cell? ⟨w.heap.size,1,none⟩=some (.int .i64 xl):=Qaa hSw 1;have s2:v.cell? ⟨w.heap.size,2,none⟩=some (.int .i16 xs):=Qaa hSw 2;have s3:v.cell? ⟨w.heap.size,3,none⟩=some (.int .u8 xe):=Qaa hSw 3;have s4:v.cell? ⟨w.heap.size,4,none⟩=some (.bool xc):=Qaa hSw 4;clear hSw;go_simp) hH ?_;refine rdQ [4,6] ?_;refine AllReadyH.cons rfl (λK hK=>?_) (arQ λK hK=>?_)
 focus
  clear hH;go_simp;refine hK.out _ _ heb (λhH=>?_);clear hK K;refine rdQ [6] ?_
  refine arQ λK hK=>?_
  clear hH;go_simp;refine hK.out _ _ heb2 (λhH=>?_);clear hK K
 rotate_left
 focus
  clear hH;go_simp;refine hK.out _ _ heb2 (λhH=>?_);clear hK K;refine rdQ [4] ?_
  refine arQ λK hK=>?_
  clear hH;go_simp;refine hK.out _ _ heb2 (λhH=>?_);clear hK K
 all_goals
  refine rdQ [7] ?_
  refine arQ λK hK=>?_
  refine QaM rfl ?_;refine Qau _ (.tmp 11) (.tmp 13) 55 rfl B 175 i0 (.agg #[.int .i32 0,.int .i64 0,.int .i16 0,.int .u8 0,.bool false]) 5 24 Tryz.underlying55 hi hz0 hz1 hz2 rfl (by decide) (.slice a rs.length c) rs.length (gCells rs) rfl (HK.out.own.alloc _) ⟨wd.heap.size,0,none⟩ 1 1 (gCells1 ⟨⟨xp,xl,xs,xe⟩,xc⟩) rfl rfl (by have:=Qbs wd (.int .i32 (xp:Int)) (.int .i64 xl) (.int .i16 xs) (.int .u8 xe) (.bool xc) 175;simpa[gCells1]using this) (QfY _) (by unfold maxLen;omega) (by omega) (by simp;omega) (by decide) ?_;intro v3 w5 hown3 hfr3;obtain⟨a3,c3,rfl⟩:=Qaf hown3;have hgr:=Qat hfr3
  have HA:=show Hid (_/\_)from LAt.put_app (HK.out.alloc (.cells #[.int .i32 (xp:Int),.int .i64 xl,.int .i16 xs,.int .u8 xe,.bool xc] 175)) hown3 rfl hfr3
  have HFr:=show Hid _ from HKf'.out.alloc (.cells #[.int .i32 (xp:Int),.int .i64 xl,.int .i16 xs,.int .u8 xe,.bool xc] 175)
  have hgb:∀g,(Value.slice a3 (rs.length+1) c3).ownBlock=some g->g≠w.heap.size:=by
   intro g hg
   rcases hfr3 with h | h
   ·have h2:=h.2;rw[hg]at h2;simp only[World.size_alloc,Option.some.injEq]at h2;omega
   ·have h2:=h.2.1;rw[hg]at h2;have:=hgl0 g h2.symm;omega
  have heb5:w5.heap[w.heap.size]? =some (.cells #[.int .i32 (xp:Int),.int .i64 xl,.int .i16 xs,.int .u8 xe,.bool xc] 175 (0,0)):=(hgr.block _ (Qac heb2) (λe=>by have:=hgl0 _ e.symm;omega)).trans heb2;refine hK.out _ _ heb5 (λhH=>?_);clear hK K hown3 hfr3 hgr HK HKf' heb heb2 hkc hkc2;refine tkQ 8 (.pointer (some ⟨kb,o,none⟩)) hH ?_;refine tkQ 9 (.pointer (some ⟨kb,o,none⟩)) hH ?_;refine rdQ [10] ?_
  refine arQ λK hK=>?_
  clear hH;have b0:w5.cell? ⟨kb,o,none⟩=cs[o]? :=Qaa HA.out.1 o;have b0':w5.cell? ⟨kb,o,none⟩=some (.slice a rs.length c):=b0.trans hslot;clear b0;have z0:w5.frozen? ⟨kb,o,none⟩=false:=Qab HA.out.1 o;go_simp;have heb6:=(Below.heap_setCell w5 ⟨kb,o,none⟩ (.slice a3 (rs.length+1) c3) w.heap.size (by simp only;omega)).trans heb5;refine hK.out _ _ heb6 (λhH=>?_);clear hK K hH b0' z0 heb5;refine wpAnyH_done krQ ?_ _
  have HUn:=show Hid _ from HA.out.2.from HFr.out
  clear HA HFr;generalize w5.setCell ⟨kb,o,none⟩ (.slice a3 (rs.length+1) c3)=w3 at HUn heb6 ⊢
  have hec:gCells rs++gCells1 ⟨⟨xp,xl,xs,xe⟩,xc⟩=gCells (rs++[⟨⟨xp,xl,xs,xe⟩,xc⟩]):=by rw[QbS];simp[gCells]
  rw[hec]at HUn
  have hll:rs.length+1=(rs++[(⟨⟨xp,xl,xs,xe⟩,xc⟩:GX)]).length:=by simp
  have H0:=show Hid (GUpd B kb o t cs a c rs w a3 c3 (rs++[(⟨⟨xp,xl,xs,xe⟩,xc⟩:GX)]) w3/\w3.heap[w.heap.size]? =some (.cells #[.int .i32 (xp:Int),.int .i64 xl,.int .i16 xs,.int .u8 xe,.bool xc] 175 (0,0)))from⟨by unfold GUpd;rw[<-hll];exact HUn.out,heb6⟩
  have hkc3:w3.cell? ⟨kb,o,none⟩=some (.slice a3 (rs.length+1) c3):=HUn.out.at'.cell;clear HUn heb6 hec hll;go_wp2;clear hkc3;rw[<-Qjg]at H0
  go_loopw [6] (λi wr=>∃j:Nat,at'<=j/\j<=rs.length/\i=.int .i64 (j:Int)/\GUpd B kb o t cs a c rs w a3 c3 (shiftL rs ⟨⟨xp,xl,xs,xe⟩,xc⟩ j) wr/\wr.heap[w.heap.size]? =some (.cells #[.int .i32 (xp:Int),.int .i64 xl,.int .i16 xs,.int .u8 xe,.bool xc] 175 (0,0))) (λi _=>(intOf i).toNat)
  case atStart=>exact⟨rs.length,hat,Nat.le_refl _,by go_num,H0.out.1,H0.out.2⟩
  case round=>
   obtain⟨j,hja,hjr,rfl,hGr,hxb⟩:=hrel;clear H0;have hsl:=QaN rs ⟨⟨xp,xl,xs,xe⟩,xc⟩ j hjr
   rcases Qai hGr.at'.own with⟨_,h0⟩ | ⟨g,rfl⟩
   ·omega
   have hgne:=hgb g rfl;have hkg:=hGr.at'.g_ne
   by_cases hj:at'<j
   ·obtain⟨k,rfl⟩:∃k,j=k+1:=⟨j-1,by omega⟩
    have hji:(at':Int)<(k:Int)+1:=omQ;have hkl2:k<(shiftL rs ⟨⟨xp,xl,xs,xe⟩,xc⟩ (k+1)).length:=omQ;have hkl3:k+1<(shiftL rs ⟨⟨xp,xl,xs,xe⟩,xc⟩ (k+1)).length:=omQ;have hst:=QhP rs ⟨⟨xp,xl,xs,xe⟩,xc⟩ k hjr hkl2;have hsame:=QhQ rs ⟨⟨xp,xl,xs,xe⟩,xc⟩ k hjr
    have HS:=show Hid _ from hGr.drew
    have hxb':=show wr.drew.heap[w.heap.size]? =_ from hxb
    clear hGr hxb;go_wp2;have hki:(k:Int)<(rs.length:Int):=omQ;have hki1:(k:Int)+1<(rs.length:Int)+1:=omQ;have hki2:(k:Int)<(rs.length:Int)+1:=omQ;have hk0:(0:Int)<=(k:Int):=omQ;have hk1:(0:Int)<=(k:Int)+1:=omQ
    obtain⟨wd,hwd⟩:∃wd,wr.drew=wd:=⟨_,rfl⟩
    rw[hwd]at HS hxb';obtain⟨r0,r1,r2,r3,r4⟩:=Qa8 HS.out.at' k hkl2
    have HF:=show Hid _ from QgZ (w:=wd) HS.out (k+1) hkl3 ((shiftL rs ⟨⟨xp,xl,xs,xe⟩,xc⟩ (k+1))[k]) _ _ _ _ _ rfl rfl rfl rfl rfl
    rw[hst]at HF
    obtain⟨y,hy⟩:∃y,(shiftL rs ⟨⟨xp,xl,xs,xe⟩,xc⟩ (k+1))[k]=y:=⟨_,rfl⟩
    rw[hy]at r0 r1 r2 r3 r4 HF hsame
    obtain⟨y2,hy2⟩:∃y2,(shiftL rs ⟨⟨xp,xl,xs,xe⟩,xc⟩ (k+1))[k+1]=y2:=⟨_,rfl⟩
    rw[hy2]at HF;obtain⟨⟨yp,yl,ys,ye⟩,yc⟩:=y;obtain⟨⟨vp,vl,vs,ve⟩,vc⟩:=y2;simp only at r0 r1 r2 r3 r4 HF;have hb0:=HS.out.at'.cell;rw[hsl]at hb0;clear hy hy2 hst
    have hS0:wd.cell? ⟨kb,o,none⟩=some (.slice (some ⟨g,0,none⟩) (rs.length+1) c3)/\wd.cell? ⟨g,k*5,none⟩=some (.int .i32 (yp:Int))/\wd.cell? ⟨g,k*5+1,none⟩=some (.int .i64 yl)/\wd.cell? ⟨g,k*5+2,none⟩=some (.int .i16 ys)/\wd.cell? ⟨g,k*5+3,none⟩=some (.int .u8 ye)/\wd.cell? ⟨g,k*5+4,none⟩=some (.bool yc):=⟨hb0,r0,r1,r2,r3,r4⟩
    clear r0 r1 r2 r3 r4;refine wp_region_held_drew (S:=λw':World=>w'.cell? ⟨kb,o,none⟩=some (.slice (some ⟨g,0,none⟩) (rs.length+1) c3)/\w'.cell? ⟨g,k*5,none⟩=some (.int .i32 (yp:Int))/\w'.cell? ⟨g,k*5+1,none⟩=some (.int .i64 yl)/\w'.cell? ⟨g,k*5+2,none⟩=some (.int .i16 ys)/\w'.cell? ⟨g,k*5+3,none⟩=some (.int .u8 ye)/\w'.cell? ⟨g,k*5+4,none⟩=some (.bool yc)) krQ (hwd ▸ hS0) (λhH=>?_);rw[hwd]at hH ⊢;refine tkQ 0 (.pointer (some ⟨kb,o,none⟩)) hH ?_;refine tkQ 1 (.pointer (some ⟨kb,o,none⟩)) hH ?_;refine tkQ 2 (.pointer (some ⟨kb,o,none⟩)) hH ?_;refine tlQ 3 (.slice (some ⟨g,0,none⟩) (rs.length+1) c3) rfl (by intro v hSw;have s0:v.cell? ⟨kb,o,none⟩=some (.slice (some ⟨g,0,none⟩) (rs.length+1) c3):=hSw.1;clear hSw;go_simp) hH ?_;refine tkQ 4 (.int .i64 (((k+1:Nat)):Int)) hH ?_;refine tkQ 5 (.pointer (some ⟨kb,o,none⟩)) hH ?_;refine tkQ 6 (.pointer (some ⟨kb,o,none⟩)) hH ?_;refine tkQ 7 (.pointer (some ⟨kb,o,none⟩)) hH ?_;refine tlQ 8 (.slice (some ⟨g,0,none⟩) (rs.length+1) c3) rfl (by intro v hSw;have s0:v.cell? ⟨kb,o,none⟩=some (.slice (some ⟨g,0,none⟩) (rs.length+1) c3):=hSw.1;clear hSw;go_simp) hH ?_;refine tkQ 9 (.int .i64 (((k+1:Nat)):Int)) hH ?_;refine tlQ 10 (.int .i64 (k:Int)) rfl (by intro v hSw;clear hSw;go_simp;first | done | (rw[IntWalk.i64_in _ ⟨by omega,by omega⟩];first | done | (congr 2;omega))) hH ?_;refine tkQ 11 (.pointer (some ⟨g,k*5,none⟩)) hH ?_;refine tlQ 12 (.agg #[.int .i32 (yp:Int),.int .i64 yl,.int .i16 ys,.int .u8 ye,.bool yc]) rfl (by intro v hSw;have t0:=hSw.2.1;have t1:=hSw.2.2.1;have t2:=hSw.2.2.2.1;have t3:=hSw.2.2.2.2.1;have t4:=hSw.2.2.2.2.2;clear hSw;go_simp) hH ?_;refine tkQ 13 (.pointer (some ⟨g,(k+1)*5,none⟩)) hH ?_;refine rdQ [14] ?_
    refine arQ λK hK=>?_
    have c0:=HF.out.1.1;have c1:=HF.out.1.2.1;have c2:=HF.out.1.2.2.1;have c3':=HF.out.1.2.2.2.1;have c4:=HF.out.1.2.2.2.2;have z0:=HF.out.2.1.1;have z1:=HF.out.2.1.2.1;have z2:=HF.out.2.1.2.2.1;have z3:=HF.out.2.1.2.2.2.1;have z4:=HF.out.2.1.2.2.2.2;clear hH hS0;go_simp
    have HF2:=show Hid (_/\_)from HF.out.2.2
    clear HF c0 c1 c2 c3' c4 z0 z1 z2 z3 z4;obtain⟨t0,t1,t2,t3,t4⟩:=Qa8 HF2.out.1.at' k (by rw[QaN _ _ _ omQ];omega);rw[hsame]at t0 t1 t2 t3 t4;have hkb6:=HF2.out.1.at'.cell;rw[QaN _ _ _ omQ]at hkb6
    have HK6:=show Hid (_/\_)from And.intro HF2.out.1 ((HF2.out.2.block w.heap.size (Qac hxb') (by simp only[ne_eq,Option.some.injEq];omega)).trans hxb')
    clear HF2;refine hK.out _ _ ⟨hkb6,t0,t1,t2,t3,t4⟩ (λhH=>?_);clear hK K hH hkb6 t0 t1 t2 t3 t4 hsame HS hxb' hb0;refine wpAnyH_done krQ ?_ _;generalize(((((wd.setCell ⟨g,(k+1)*5,none⟩ (.int .i32 (yp:Int))).setCell ⟨g,(k+1)*5+1,none⟩ (.int .i64 yl)).setCell ⟨g,(k+1)*5+2,none⟩ (.int .i16 ys)).setCell ⟨g,(k+1)*5+3,none⟩ (.int .u8 ye)).setCell ⟨g,(k+1)*5+4,none⟩ (.bool yc))=w7 at HK6 ⊢;go_wp2
    go_roundw
    case rel=>exact⟨k,by omega,by omega,by go_num,HK6.out.1,HK6.out.2⟩
    case measure=>simp[intOf]
   ·have hjj:j=at':=omQ;subst hjj;have hnl:¬((j:Int)<(j:Int)):=omQ;have hml:j<(shiftL rs ⟨⟨xp,xl,xs,xe⟩,xc⟩ j).length:=omQ
    have HS:=show Hid _ from hGr.drew
    have hxb':=show wr.drew.heap[w.heap.size]? =_ from hxb
    clear hGr hxb;go_wp2;have hji:(j:Int)<(rs.length:Int)+1:=omQ;have hj0:(0:Int)<=(j:Int):=omQ
    obtain⟨wd,hwd⟩:∃wd,wr.drew=wd:=⟨_,rfl⟩
    rw[hwd]at HS hxb'
    have HF:=show Hid _ from QgZ (w:=wd) HS.out j hml ⟨⟨xp,xl,xs,xe⟩,xc⟩ _ _ _ _ _ rfl rfl rfl rfl rfl
    rw[Qjh rs ⟨⟨xp,xl,xs,xe⟩,xc⟩ j hjr]at HF
    obtain⟨y2,hy2⟩:∃y2,(shiftL rs ⟨⟨xp,xl,xs,xe⟩,xc⟩ j)[j]=y2:=⟨_,rfl⟩
    rw[hy2]at HF;obtain⟨⟨vp,vl,vs,ve⟩,vc⟩:=y2;simp only at HF;have hb0:=HS.out.at'.cell;rw[hsl]at hb0;clear hy2
    have hS0:wd.cell? ⟨kb,o,none⟩=some (.slice (some ⟨g,0,none⟩) (rs.length+1) c3)/\wd.heap[w.heap.size]? =some (.cells #[.int .i32 (xp:Int),.int .i64 xl,.int .i16 xs,.int .u8 xe,.bool xc] 175 (0,0)):=⟨hb0,hxb'⟩
    refine wp_region_held_drew (S:=λw':World=>w'.cell? ⟨kb,o,none⟩=some (.slice (some ⟨g,0,none⟩) (rs.length+1) c3)/\w'.heap[w.heap.size]? =some (.cells #[.int .i32 (xp:Int),.int .i64 xl,.int .i16 xs,.int .u8 xe,.bool xc] 175 (0,0))) krQ (hwd ▸ hS0) (λhH=>?_);rw[hwd]at hH ⊢;refine tkQ 0 (.pointer (some ⟨kb,o,none⟩)) hH ?_;refine tkQ 1 (.pointer (some ⟨kb,o,none⟩)) hH ?_;refine tkQ 2 (.pointer (some ⟨kb,o,none⟩)) hH ?_;refine tlQ 3 (.slice (some ⟨g,0,none⟩) (rs.length+1) c3) rfl (by intro v hSw;have s0:v.cell? ⟨kb,o,none⟩=some (.slice (some ⟨g,0,none⟩) (rs.length+1) c3):=hSw.1;clear hSw;go_simp) hH ?_;refine tkQ 4 (.int .i64 (j:Int)) hH ?_;refine tlQ 5 (.agg #[.int .i32 (xp:Int),.int .i64 xl,.int .i16 xs,.int .u8 xe,.bool xc]) rfl (by intro v hSw;have s0:v.cell? ⟨w.heap.size,0,none⟩=some (.int .i32 (xp:Int)):=Qaa hSw.2 0;have s1:v.cell? ⟨w.heap.size,1,none⟩=some (.int .i64 xl):=Qaa hSw.2 1;have s2:v.cell? ⟨w.heap.size,2,none⟩=some (.int .i16 xs):=Qaa hSw.2 2;have s3:v.cell? ⟨w.heap.size,3,none⟩=some (.int .u8 xe):=Qaa hSw.2 3;have s4:v.cell? ⟨w.heap.size,4,none⟩=some (.bool xc):=Qaa hSw.2 4;clear hSw;go_simp) hH ?_;refine tkQ 6 (.pointer (some ⟨g,j*5,none⟩)) hH ?_;refine rdQ [7] ?_
    refine arQ λK hK=>?_
    have c0:=HF.out.1.1;have c1:=HF.out.1.2.1;have c2:=HF.out.1.2.2.1;have c3':=HF.out.1.2.2.2.1;have c4:=HF.out.1.2.2.2.2;have z0:=HF.out.2.1.1;have z1:=HF.out.2.1.2.1;have z2:=HF.out.2.1.2.2.1;have z3:=HF.out.2.1.2.2.2.1;have z4:=HF.out.2.1.2.2.2.2;clear hH hS0;go_simp
    have HF2:=show Hid (_/\_)from HF.out.2.2
    clear HF c0 c1 c2 c3' c4 z0 z1 z2 z3 z4;have hkb6:=HF2.out.1.at'.cell
    have hpl:(rs.take j++⟨⟨xp,xl,xs,xe⟩,xc⟩ :: rs.drop j:List GX).length=rs.length+1:=by simp;omega
    rw[hpl]at hkb6;have hxb6:=(HF2.out.2.block w.heap.size (Qac hxb') (by simp only[ne_eq,Option.some.injEq];omega)).trans hxb';refine hK.out _ _ ⟨hkb6,hxb6⟩ (λhH=>?_);clear hK K hH hkb6 hxb6 HS hxb' hb0 hpl;refine wpAnyH_done krQ ?_ _;generalize(((((wd.setCell ⟨g,j*5,none⟩ (.int .i32 (xp:Int))).setCell ⟨g,j*5+1,none⟩ (.int .i64 xl)).setCell ⟨g,j*5+2,none⟩ (.int .i16 xs)).setCell ⟨g,j*5+3,none⟩ (.int .u8 xe)).setCell ⟨g,j*5+4,none⟩ (.bool xc))=w7 at HF2 ⊢;go_wp2
    go_end0
    exact⟨rfl,some ⟨g,0,none⟩,c3,HF2.out.1⟩
def homeX(p:Nat)(rs:List GX):List GX:=if(rs[plcX p rs]?).map (λx=>x.v.pt)=some p then rs else rs.take (plcX p rs)++⟨⟨p,0,0,0⟩,false⟩ :: rs.drop (plcX p rs)
def addX(p:Nat)(l s:Int):List GX->List GX
 | []=>[⟨(GV.mk p 0 0 0).plus l s,true⟩]
 | r :: rs=>if r.v.pt<p then r :: addX p l s rs else if r.v.pt=p then⟨r.v.plus l s,true⟩ :: rs else⟨(GV.mk p 0 0 0).plus l s,true⟩ :: r :: rs
theorem QlT(p:Nat)(l s:Int)(rs:List GX):(addX p l s rs).map (λx=>x.v)=addG p l s (rs.map (λx=>x.v)):=by
 induction rs with
 | nil=>rfl
 | cons r rs ih=>
  unfold addX;simp only[List.map_cons];rw[addG];split
  ·simp[ih]
  ·split<;>simp
theorem QdG(p:Nat):∀rs:List GX,∃h:plcX p rs<(homeX p rs).length,((homeX p rs)[plcX p rs]).v.pt=p/\((homeX p rs)[plcX p rs]∈rs\/(homeX p rs)[plcX p rs]=⟨⟨p,0,0,0⟩,false⟩)/\∀l s:Int,(homeX p rs).set (plcX p rs) ⟨((homeX p rs)[plcX p rs]).v.plus l s,true⟩=addX p l s rs
 | []=>⟨by simp[homeX,plcX],by simp[homeX,plcX],by simp[homeX,plcX],λl s=>by simp[homeX,plcX,addX]⟩
 | r :: rs=>by
  obtain⟨h,h1,h2,h3⟩:=QdG p rs
  by_cases c:r.v.pt<p
  ·have e:plcX p (r :: rs)=plcX p rs+1:=by simp[plcX,c]
   have e2:homeX p (r :: rs)=r :: homeX p rs:=by
    unfold homeX;rw[e];simp only[List.getElem?_cons_succ,List.take_succ_cons,List.drop_succ_cons]
    split<;>simp
   simp only[e,e2,List.getElem_cons_succ,List.set_cons_succ,List.length_cons,Nat.add_lt_add_iff_right];refine⟨h,h1,?_,λl s=>?_⟩
   ·rcases h2 with h2 | h2
    ·exact .inl (List.mem_cons_of_mem _ h2)
    ·exact .inr h2
   ·rw[h3]
    conv=>rhs;unfold addX
    rw[if_pos c]
  ·have e:plcX p (r :: rs)=0:=by simp[plcX,c]
   by_cases d:r.v.pt=p
   ·have e2:homeX p (r :: rs)=r :: rs:=by
     unfold homeX;rw[e];simp[d]
    simp only[e,e2,List.getElem_cons_zero,List.set_cons_zero,List.length_cons];refine⟨by omega,d,.inl (by simp),λl s=>?_⟩;unfold addX;rw[if_neg c,if_pos d]
   ·have e2:homeX p (r :: rs)=⟨⟨p,0,0,0⟩,false⟩ :: r :: rs:=by
     unfold homeX;rw[e];simp[d]
    simp only[e,e2,List.getElem_cons_zero,List.set_cons_zero,List.length_cons];refine⟨by omega,by simp,by simp,λl s=>?_⟩;unfold addX;rw[if_neg c,if_neg d]
theorem Qg0(B kb o:Nat)(t:TypeId)(cs:Array Value)(a:Option Addr)(c:Nat)(rs:List GX)(p:Nat)(w:World)(hB:B<=w.heap.size)(hlen:rs.length<=1000)(hG:GAt B kb o t cs a c rs w):
  Calls Tryz.prog 114 #[.pointer (some ⟨kb,o,none⟩),.int .i32 (p:Int)] w λen w'=>en=.returned (.int .i64 (plcX p rs:Int))/\∃a' c',GUpd B kb o t cs a c rs w a' c' (homeX p rs) w':=by
 have hP:=show Hid _ from λ(_:Unit)=>Qje B kb o t cs a c rs p w hlen hG
 have hI:=show Hid _ from λ(w':World) (hB':B<=w'.heap.size) (hG':GAt B kb o t cs a c rs w')=>Qji B kb o t cs a c rs (plcX p rs) p 0 0 0 false w' hB' hlen (QiO p rs) hG'
 have hle:=QiO p rs
 have HU:=show Hid _ from λ(_:Unit)=>hG
 have hkc:=hG.cell;unfold homeX
 by_cases hm:plcX p rs<rs.length
 ·by_cases hp:(rs[plcX p rs]'hm).v.pt=p
  ·rw[if_pos (by rw[List.getElem?_eq_getElem hm];simp[hp])]
   rcases Qai hG.own with⟨_,h0⟩ | ⟨g,rfl⟩
   ·omega
   have r0:=(Qa8 hG _ hm).1;rw[hp]at r0
   have HR:=show Hid _ from Upd.refl hG
   clear hG hI hp;generalize plcX p rs=m at hm hP hle r0 ⊢
   have hne:((m:Int)==(rs.length:Int))=false:=by rw[beq_eq_false_iff_ne];omega
   have hmi:(m:Int)<(rs.length:Int):=omQ;have hm0:(0:Int)<=(m:Int):=omQ
   have hq:((p:Int) !=(p:Int))=false:=by simp
   go_enter Tryz.func114,Tryz.ntmps114
   go_wp2_with fail
   refine(hP.out ()).mono ?_;rintro en w1 ⟨rfl,rfl⟩;go_wp2;go_ret;exact⟨rfl,_,_,HR.out⟩
  ·rw[if_neg (by rw[List.getElem?_eq_getElem hm];simp[hp])]
   rcases Qai hG.own with⟨_,h0⟩ | ⟨g,rfl⟩
   ·omega
   have r0:=(Qa8 hG _ hm).1
   have hq:(((rs[plcX p rs]'hm).v.pt:Int) !=(p:Int))=true:=by simp;omega
   generalize(rs[plcX p rs]'hm).v.pt=q at r0 hq;clear hG hp;generalize rs.take (plcX p rs)++⟨⟨p,0,0,0⟩,false⟩ :: rs.drop (plcX p rs)=fin at hI ⊢;generalize plcX p rs=m at hm hP hle r0 hI ⊢
   have hne:((m:Int)==(rs.length:Int))=false:=by rw[beq_eq_false_iff_ne];omega
   have hmi:(m:Int)<(rs.length:Int):=omQ;have hm0:(0:Int)<=(m:Int):=omQ;go_enter Tryz.func114,Tryz.ntmps114
   go_wp2_with fail
   refine(hP.out ()).mono ?_;rintro en w1 ⟨rfl,rfl⟩
   go_wp2_with(go_at_call 120;refine(hI.out _ hB (HU.out ())).mono ?_;rintro en w2 ⟨rfl,a2,c2,hU⟩)
   go_ret;exact⟨rfl,a2,c2,hU⟩
 ·rw[if_neg (by rw[List.getElem?_eq_none omQ];simp)];clear hG;generalize rs.take (plcX p rs)++⟨⟨p,0,0,0⟩,false⟩ :: rs.drop (plcX p rs)=fin at hI ⊢;generalize plcX p rs=m at hm hP hle hI ⊢
  have hne:((m:Int)==(rs.length:Int))=true:=by rw[beq_iff_eq];omega
  clear hm hle;go_enter Tryz.func114,Tryz.ntmps114
  go_wp2_with fail
  refine(hP.out ()).mono ?_;rintro en w1 ⟨rfl,rfl⟩
  go_wp2_with(go_at_call 120;refine(hI.out _ hB (HU.out ())).mono ?_;rintro en w2 ⟨rfl,a2,c2,hU⟩)
  go_ret;exact⟨rfl,a2,c2,hU⟩
theorem QiQ(B kb o:Nat)(t:TypeId)(cs:Array Value)(a:Option Addr)(c:Nat)(rs:List GX)(p:Nat)(dl ds:Int)(w:World)(hB:B<=w.heap.size)(hlen:rs.length<=1000)(hG:GAt B kb o t cs a c rs w)(hd:-1<=dl/\dl<=1)(hrl:∀r∈rs,-100000<=r.v.live/\r.v.live<=100000):
  Calls Tryz.prog 89 #[.pointer (some ⟨kb,o,none⟩),.agg #[.int .i32 (p:Int),.int .i64 dl,.int .i16 ds]] w λen w'=>en=.returned (.tuple #[])/\∃a' c',GUpd B kb o t cs a c rs w a' c' (addX p dl ds rs) w':=by
 have hkl:=hG.bl
 have hgl:∀g,(Value.slice a rs.length c).ownBlock=some g->g<w.heap.size:=λg hg=>(Qah hG.own g hg).2
 have hH0:=show Hid _ from λ(_:Unit)=>Qg0 B kb o t cs a c rs p (w.alloc (.cells #[.int .i32 (p:Int),.int .i64 dl,.int .i16 ds] 157)) (by simp;omega) hlen (hG.alloc (.cells #[.int .i32 (p:Int),.int .i64 dl,.int .i16 ds] 157))
 have HF0:=show Hid _ from(FrmX.refl (Xs kb a rs.length c) w).alloc (.cells #[.int .i32 (p:Int),.int .i64 dl,.int .i16 ds] 157)
 have hxb0:(w.alloc (.cells #[.int .i32 (p:Int),.int .i64 dl,.int .i16 ds] 157)).heap[w.heap.size]? =some (.cells #[.int .i32 (p:Int),.int .i64 dl,.int .i16 ds] 157 (0,0)):=heap_alloc_new w _;have hx0:(w.alloc (.cells #[.int .i32 (p:Int),.int .i64 dl,.int .i16 ds] 157)).cell? ⟨w.heap.size,0,none⟩=some (.int .i32 (p:Int)):=Qaa hxb0 0;obtain⟨hn,hpt,hin,hfin0⟩:=QdG p rs
 have hb:-100000<=((homeX p rs)[plcX p rs]).v.live/\((homeX p rs)[plcX p rs]).v.live<=100000:=by
  rcases hin with h | h
  ·exact hrl _ h
  ·rw[h];simp
 have hfin:=hfin0 dl ds;clear hfin0
 obtain⟨r,hr⟩:∃r,(homeX p rs)[plcX p rs]=r:=⟨_,rfl⟩
 rw[hr]at hb hfin;have hsz:w.heap.size<(w.alloc (.cells #[.int .i32 (p:Int),.int .i64 dl,.int .i16 ds] 157)).heap.size:=Qac hxb0;clear hG hin hpt hrl;obtain⟨⟨rp,rl,rsm,re⟩,rc⟩:=r;simp only at hb;unfold GV.plus at hfin;simp only at hfin;have Hfin:=hdQ hfin;clear hfin;generalize homeX p rs=ls at hn hr hH0 Hfin;generalize addX p dl ds rs=fin at Hfin ⊢;generalize plcX p rs=n at hn hr hH0 Hfin;go_enter Tryz.func89,Tryz.ntmps89
 go_wp2_with fail
 refine(hH0.out ()).mono ?_;rintro en w4 ⟨rfl,a4,c4,hU⟩
 rcases Qai hU.at'.own with⟨_,h0⟩ | ⟨g,rfl⟩
 ·omega
 have hgx:g≠w.heap.size:=by
  rcases hU.row g rfl with h | h
  ·have:=hgl g h;omega
  ·omega
 have hxb:w4.heap[w.heap.size]? =some (.cells #[.int .i32 (p:Int),.int .i64 dl,.int .i16 ds] 157 (0,0)):=hU.frm.block hxb0 (λh=>by
  rcases h with h | h
  ·omega
  ·have:=hgl _ h
   omega)
 have HK:=show Hid _ from hU.from HF0.out
 clear hU HF0 hxb0 hx0 hH0 hgl hsz;have hkc3:=HK.out.at'.cell;have hni:(n:Int)<(ls.length:Int):=omQ;have hn0:(0:Int)<=(n:Int):=omQ;go_wp2;clear hkc3;obtain⟨r0,r1,r2,r3,r4⟩:=Qa8 HK.out.at'.drew n hn;have hf1:=HK.out.at'.drew.frozenAt (n*5+1);rw[hr]at r0 r1 r2 r3 r4;simp only at r0 r1 r2 r3 r4
 have hxb':=show w4.drew.heap[w.heap.size]? =_ from hxb
 have HG1:=show Hid _ from Qch HK.out.drew n hn ⟨⟨rp,rl+dl,rsm,re⟩,rc⟩ 1 (.int .i64 (rl+dl)) (by decide) (by rw[hr];rfl)
 clear HK hxb;refine wp_region_held_drew (S:=λw':World=>w'.heap[w.heap.size]? =some (.cells #[.int .i32 (p:Int),.int .i64 dl,.int .i16 ds] 157 (0,0))) krQ hxb' (λhH=>?_);generalize w4.drew=wd at HG1 hxb' r0 r1 r2 r3 r4 hf1 hH ⊢;refine tkQ 0 (.pointer (some ⟨g,n*5,none⟩)) hH ?_;refine tkQ 1 (.pointer (some ⟨g,n*5,none⟩)) hH ?_;refine tkQ 2 (.pointer (some ⟨g,n*5+1,none⟩)) hH ?_;refine tkQ 4 (.pointer (some ⟨w.heap.size,1,none⟩)) hH ?_;refine tlQ 5 (.int .i64 dl) rfl (by intro v hSw;have s0:v.cell? ⟨w.heap.size,1,none⟩=some (.int .i64 dl):=Qaa hSw 1;clear hSw;go_simp) hH ?_;refine rdQ [3] ?_
 refine arQ λK hK=>?_
 clear hH;go_simp;refine hK.out _ _ hxb' (λhH=>?_);clear hK K;refine tlQ 6 (.int .i64 (rl+dl)) rfl (by intro v hSw;clear hSw;go_simp;rw[IntWalk.i64_in _ ⟨by omega,by omega⟩]) hH ?_;refine tkQ 7 (.pointer (some ⟨g,n*5,none⟩)) hH ?_;refine tkQ 8 (.pointer (some ⟨g,n*5+1,none⟩)) hH ?_;refine rdQ [9] ?_
 refine arQ λK hK=>?_
 clear hH;go_simp;have hxb2:=(Below.heap_setCell wd ⟨g,n*5+1,none⟩ (.int .i64 (rl+dl)) w.heap.size (by simp only;omega)).trans hxb';refine hK.out _ _ hxb2 (λhH=>?_);clear hK K hH r0 r1 r2 r3 r4 hf1 hxb';refine wpAnyH_done krQ ?_ _;generalize wd.setCell ⟨g,n*5+1,none⟩ (.int .i64 (rl+dl))=w4 at HG1 hxb2 ⊢;clear wd
 have hn2:n<(ls.set n ⟨⟨rp,rl+dl,rsm,re⟩,rc⟩).length:=by simpa using hn
 have hr2:(ls.set n ⟨⟨rp,rl+dl,rsm,re⟩,rc⟩)[n]=⟨⟨rp,rl+dl,rsm,re⟩,rc⟩:=by simp
 have hset:∀y,(ls.set n ⟨⟨rp,rl+dl,rsm,re⟩,rc⟩).set n y=ls.set n y:=λy=>by rw[List.set_set]
 have HK:=HG1;have hxb:=hxb2;clear HG1 hxb2;rw[<-hset]at Hfin;clear hset hr hni;generalize ls.set n ⟨⟨rp,rl+dl,rsm,re⟩,rc⟩=l2 at hn2 hr2 HK Hfin;clear hn
 obtain⟨hn,hr⟩:∃h:n<l2.length,l2[n]=⟨⟨rp,rl+dl,rsm,re⟩,rc⟩:=⟨hn2,hr2⟩
 clear hr2 hn2;go_wp2;obtain⟨r0,r1,r2,r3,r4⟩:=Qa8 HK.out.at'.drew n hn;have hf1:=HK.out.at'.drew.frozenAt (n*5+2);rw[hr]at r0 r1 r2 r3 r4;simp only at r0 r1 r2 r3 r4
 have hxb':=show w4.drew.heap[w.heap.size]? =_ from hxb
 have HG1:=show Hid _ from Qch HK.out.drew n hn ⟨⟨rp,rl+dl,wrap16 (rsm+ds),re⟩,rc⟩ 2 (.int .i16 (wrap16 (rsm+ds))) (by decide) (by rw[hr];rfl)
 clear HK hxb;refine wp_region_held_drew (S:=λw':World=>w'.heap[w.heap.size]? =some (.cells #[.int .i32 (p:Int),.int .i64 dl,.int .i16 ds] 157 (0,0))) krQ hxb' (λhH=>?_);generalize w4.drew=wd at HG1 hxb' r0 r1 r2 r3 r4 hf1 hH ⊢;refine tkQ 0 (.pointer (some ⟨g,n*5,none⟩)) hH ?_;refine tkQ 1 (.pointer (some ⟨g,n*5,none⟩)) hH ?_;refine tkQ 2 (.pointer (some ⟨g,n*5+2,none⟩)) hH ?_;refine tkQ 4 (.pointer (some ⟨w.heap.size,2,none⟩)) hH ?_;refine tlQ 5 (.int .i16 ds) rfl (by intro v hSw;have s0:v.cell? ⟨w.heap.size,2,none⟩=some (.int .i16 ds):=Qaa hSw 2;clear hSw;go_simp) hH ?_;refine rdQ [3] ?_
 refine arQ λK hK=>?_
 clear hH;go_simp;refine hK.out _ _ hxb' (λhH=>?_);clear hK K;refine tlQ 6 (.int .i16 (wrap16 (rsm+ds))) rfl (by intro v hSw;clear hSw;go_simp;exact QeP _) hH ?_;refine tkQ 7 (.pointer (some ⟨g,n*5,none⟩)) hH ?_;refine tkQ 8 (.pointer (some ⟨g,n*5+2,none⟩)) hH ?_;refine rdQ [9] ?_
 refine arQ λK hK=>?_
 clear hH;go_simp;have hxb2:=(Below.heap_setCell wd ⟨g,n*5+2,none⟩ (.int .i16 (wrap16 (rsm+ds))) w.heap.size (by simp only;omega)).trans hxb';refine hK.out _ _ hxb2 (λhH=>?_);clear hK K hH r0 r1 r2 r3 r4 hf1 hxb';refine wpAnyH_done krQ ?_ _;generalize wd.setCell ⟨g,n*5+2,none⟩ (.int .i16 (wrap16 (rsm+ds)))=w4 at HG1 hxb2 ⊢;clear wd
 have hn2:n<(l2.set n ⟨⟨rp,rl+dl,wrap16 (rsm+ds),re⟩,rc⟩).length:=by simpa using hn
 have hr2:(l2.set n ⟨⟨rp,rl+dl,wrap16 (rsm+ds),re⟩,rc⟩)[n]=⟨⟨rp,rl+dl,wrap16 (rsm+ds),re⟩,rc⟩:=by simp
 have hset:∀y,(l2.set n ⟨⟨rp,rl+dl,wrap16 (rsm+ds),re⟩,rc⟩).set n y=l2.set n y:=λy=>by rw[List.set_set]
 rw[<-hset]at Hfin;clear hset hr;generalize l2.set n ⟨⟨rp,rl+dl,wrap16 (rsm+ds),re⟩,rc⟩=l3 at hn2 hr2 HG1 Hfin;generalize wrap16 (rsm+ds)=rsm' at hr2 Hfin;obtain⟨r0,r1,r2,r3,r4⟩:=Qa8 HG1.out.at' n hn2;have hf3:=HG1.out.at'.frozenAt (n*5+3);rw[hr2]at r0 r1 r2 r3 r4;simp only at r0 r1 r2 r3 r4
 have HG2:=show Hid _ from Qch HG1.out n hn2 ⟨⟨rp,rl+dl,rsm',(re+1) % 256⟩,rc⟩ 3 (.int .u8 ((re+1) % 256)) (by decide) (by rw[hr2];rfl)
 have r4':(w4.setCell ⟨g,n*5+3,none⟩ (.int .u8 ((re+1) % 256))).cell? ⟨g,n*5+4,none⟩=some (.bool rc):=by
  have:=(Qa8 HG2.out.at' n (by simpa using hn2)).2.2.2.2
  simpa using this
 have hf4:=HG2.out.at'.frozenAt (n*5+4)
 have HG3:=show Hid _ from Qch HG2.out n (by simpa using hn2) ⟨⟨rp,rl+dl,rsm',(re+1) % 256⟩,true⟩ 4 (.bool true) (by decide) (by simp[gCells1])
 rw[List.set_set,Hfin.out]at HG3;clear HG2 HG1 hxb2 Hfin;have hw8:IntKind.u8.wrap (re+1)=(re+1) % 256:=IntKind.wrap_u8 _;go_wp2
 go_end0
 exact⟨rfl,_,_,HG3.out⟩
def GB(r:GV):Prop:=(-100000<=r.live/\r.live<=100000)/\(-32768<=r.sum/\r.sum<=32767)/\(0<=r.ev/\r.ev<=255)
theorem Qd1{r:GV}(h:GB r):(gText r).length<=32:=by
 unfold gText;have h1:=QgF (r.pt:Int);have h2:=Qbw r.live (by have:=h.1;omega) (by have:=h.1;omega);have h3:=Qbw r.sum (by have:=h.2.1;omega) (by have:=h.2.1;omega);have h4:=Qbw r.ev (by have:=h.2.2;omega) (by have:=h.2.2;omega);rw[<-Qam]at h1;simp only[List.length_append,List.length_cons,List.length_nil];omega
def xText(r:GX):List UInt8:=gText r.v
theorem Qd2:∀(rs:List GX),(∀r∈rs,GB r.v)->(rs.flatMap xText).length<=32*rs.length
 | [],_=>by simp
 | r :: rs,h=>by
  have h1:=Qd2 rs (λx hx=>h x (by simp[hx]));have h2:=Qd1 (h r (by simp));simp only[List.flatMap_cons,List.length_append,List.length_cons];unfold xText at h1 ⊢;omega
theorem Qfh(rs:List GX):rs.flatMap xText=(rs.map (λx=>x.v)).flatMap gText:=by
 rw[List.flatMap_map]
 rfl
theorem QfZ(B kb o:Nat)(t:TypeId)(cs:Array Value)(a:Option Addr)(c:Nat)(rs:List GX)(w:World)(hlen:rs.length<=1000)(hG:GAt B kb o t cs a c rs w)(ht:Tab w)(hb:∀r∈rs,GB r.v):
  Calls Tryz.prog 80 #[.pointer (some ⟨kb,o,none⟩)] w λen w'=>en=.returned (.string ⟨(rs.flatMap xText).toArray⟩)/\Below w.heap.size w w':=by
 have HG:=show Hid (_/\_)from And.intro hG ht
 clear hG ht;go_enter Tryz.func80,Tryz.ntmps80;go_wp2
 go_loopw [3,4] (λtv i wr=>∃(j:Nat) (tx:ByteArray),j<=rs.length/\i=.int .i64 (j:Int)/\tv=.string tx/\Hid (tx.data.toList=(rs.take j).flatMap xText)/\Below w.heap.size w wr) (λ_ i _=>rs.length-(intOf i).toNat)
 case atStart=>exact⟨0,⟨#[]⟩,Nat.zero_le _,rfl,rfl,by show _=_;simp,Below.refl _ _⟩
 case round=>
  obtain⟨j,tx,hj,rfl,rfl,htx,hbr⟩:=hrel
  have HGr:=show Hid (_/\_)from And.intro (HG.out.1.old hbr) (HG.out.2.old hbr)
  have hkc:=HGr.out.1.cell
  by_cases hjl:j<rs.length
  ·rcases Qai HGr.out.1.own with⟨_,h0⟩ | ⟨g,rfl⟩
   ·omega
   obtain⟨r0,r1,r2,r3,r4⟩:=Qa8 HGr.out.1 j hjl;have hbj:=hb _ (List.getElem_mem hjl)
   have hsz:tx.size<=32*rs.length:=by
    rw[<-Qam,htx.out];have h1:=Qd2 (rs.take j) (λx hx=>hb x (List.mem_of_mem_take hx));have h2:=List.length_take_le' j rs;omega
   have hgl:=Qd1 hbj
   have hnx:(rs.take (j+1)).flatMap xText=(rs.take j).flatMap xText++gText (rs[j]'hjl).v:=by
    rw[List.take_succ_eq_append_getElem hjl,List.flatMap_append];rw[List.flatMap_cons,List.flatMap_nil,List.append_nil,xText]
   have Hnx:=hdQ hnx;clear hnx;generalize rs[j]'hjl=r at r0 r1 r2 r3 r4 hbj hgl Hnx;obtain⟨⟨rp,rl,rsm,re⟩,rc⟩:=r;simp only at r0 r1 r2 r3 r4 Hnx;obtain⟨b1,b2,b3⟩:=hbj;simp only at b1 b2 b3
   have hT:=show Hid _ from λ(_:Unit)=>Qkv rp rl rsm re rc wr HGr.out.2 b1 b2 b3
   generalize gText ⟨rp,rl,rsm,re⟩=L at hgl Hnx hT
   have hLs:(⟨L.toArray⟩:ByteArray).size=L.length:=by simp[ByteArray.size]
   have hLl:(⟨L.toArray⟩:ByteArray).data.toList=L:=by simp
   have hji:(j:Int)<(rs.length:Int):=omQ;have hj0:(0:Int)<=(j:Int):=omQ;generalize(⟨L.toArray⟩:ByteArray)=BL at hLs hT hLl
   go_wp2_with(go_at_call 104;refine(hT.out ()).mono ?_;rintro en w2 ⟨rfl,hb2⟩)
   go_roundw
   case rel=>exact⟨j+1,tx++BL,by omega,by go_num,rfl,by show _=_;rw[Hnx.out,ByteArray.data_append,Array.toList_append,htx.out,hLl],hbr.trans (hb2.mono hbr.size)⟩
   case measure=>simp[intOf];omega
  ·have hjj:j=rs.length:=omQ;subst hjj
   have Ht:=show Hid (tx=⟨(rs.flatMap xText).toArray⟩)from by
    show _=_
    apply QcI;rw[htx.out,List.take_length]
   go_wp2;go_ret;exact⟨by rw[<-Ht.out];rfl,hbr⟩
end
end Go.Proofs.YthccpacmklhejabGreatDoor
