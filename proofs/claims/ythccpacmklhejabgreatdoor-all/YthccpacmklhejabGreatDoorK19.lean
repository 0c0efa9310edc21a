import Derived.Test.YthccpacmklhejabGreatDoorTk
import Derived.Test.YthccpacmklhejabGreatDoorK18
import Derived.Test.YthccpacmklhejabGreatDoorK09
import Derived.Test.YthccpacmklhejabGreatDoorK10
import Derived.Test.YthccpacmklhejabGreatDoorK15
import Derived.Test.YthccpacmklhejabGreatDoorK08
set_option maxHeartbeats 4000000
set_option maxRecDepth 100000
namespace Go.Proofs.YthccpacmklhejabGreatDoor
section
open Go.RowKit
def calmTo(rs:List GX)(j:Nat):List GX:=(rs.take j).map calmX++rs.drop j
theorem QhW(rs:List GX):calmTo rs 0=rs:=by simp[calmTo]
theorem QhX(rs:List GX):calmTo rs rs.length=rs.map calmX:=by simp[calmTo]
theorem Qa4(rs:List GX)(j:Nat)(h:j<=rs.length):(calmTo rs j).length=rs.length:=by simp[calmTo];omega
theorem Qf4(rs:List GX)(j:Nat)(h:j<rs.length):(calmTo rs j)[j]? =some rs[j]:=by
 unfold calmTo
 have hl:((rs.take j).map calmX).length=j:=by simp;omega
 rw[List.getElem?_append_right omQ,hl,Nat.sub_self,List.getElem?_drop,Nat.add_zero,List.getElem?_eq_getElem h]
theorem Qdf(rs:List GX)(j:Nat)(h:j<rs.length):(calmTo rs j).set j (calmX rs[j])=calmTo rs (j+1):=by
 unfold calmTo
 have hl:((rs.take j).map calmX).length=j:=by simp;omega
 rw[List.set_append_right _ _ omQ,hl,Nat.sub_self,List.take_succ_eq_append_getElem h,List.map_append,List.append_assoc];congr 1;rw[List.drop_eq_getElem_cons h]
 rfl
theorem Ql5{α:Type}{l:List α}{j:Nat}{x:α}(h:l[j]? =some x):l.set j x=l:=by
 apply List.ext_getElem?;intro k;rw[List.getElem?_set];split
 ·rename_i e
  subst e;rw[if_pos (List.getElem?_eq_some_iff.1 h).1,h]
 ·rfl
theorem Qjr{x:GX}(h:x.ch=false):calmX x=x:=by cases x;simp only at h;subst h;rfl
theorem QhY(rs:List GX)(j:Nat)(h:j<rs.length)(hc:(rs[j]).ch=false):calmTo rs (j+1)=calmTo rs j:=by
 rw[<-Qdf rs j h,Qjr hc];have:=Qf4 rs j h;exact Ql5 this
theorem Qjs(rs:List GX)(j:Nat)(h:j<rs.length)(hc:(rs[j]).ch=false):takenX (rs.take (j+1))=takenX (rs.take j):=by
 unfold takenX;rw[List.take_succ_eq_append_getElem h,List.filter_append,List.map_append];simp[hc]
theorem Qjt(rs:List GX)(j:Nat)(h:j<rs.length)(hc:(rs[j]).ch=true):takenX (rs.take (j+1))=takenX (rs.take j)++[calmX rs[j]]:=by
 unfold takenX;rw[List.take_succ_eq_append_getElem h,List.filter_append,List.map_append];simp[hc]
theorem QaL{w w':World}{g:Nat}(h:w'.heap[g]? =w.heap[g]?)(o:Nat):w'.cell? ⟨g,o,none⟩=w.cell? ⟨g,o,none⟩:=by
 simp[World.cell?,h]
theorem Qeb(rs:List GX):(takenX rs).length<=rs.length:=by
 unfold takenX;rw[List.length_map];exact List.length_filter_le _ _
def TkSt(kb o:Nat)(t:TypeId)(cs:Array Value)(a:Option Addr)(c:Nat)(rs:List GX)(w:World)(j:Nat)(wr:World):Prop:=
 GAt 0 kb o t cs a c (calmTo rs j) wr/\FrmX (Xs kb a rs.length c) w wr/\(∃a2 c2,GAt w.heap.size (w.heap.size+1) 0 57 #[.slice a2 (takenX (rs.take j)).length c2] a2 c2 (takenX (rs.take j)) wr)/\wr.heap[w.heap.size]? =some (.cells #[.slice none 0 0] 57 (0,0))
theorem QkI(kb o:Nat)(t:TypeId)(cs:Array Value)(a:Option Addr)(c:Nat)(rs:List GX)(w:World)(hlen:rs.length<=1000)(hG:GAt 0 kb o t cs a c rs w):
  Calls Tryz.prog 109 #[.pointer (some ⟨kb,o,none⟩)] w λen w'=>∃a2 c2,en=.returned (.agg #[.slice a2 (takenX rs).length c2])/\w'.ownsRow w.heap.size 175 5 (.slice a2 (takenX rs).length c2) (takenX rs).length (gCells (takenX rs))/\GUpd 0 kb o t cs a c rs w a c (rs.map calmX) w':=by
 have hkl:kb<w.heap.size:=hG.bl
 have hgl:∀g,(Value.slice a rs.length c).ownBlock=some g->g<w.heap.size:=λg hg=>(Qah hG.own g hg).2
 have hslot:=hG.slot;obtain⟨i0,hi,hz0,hz1,hz2⟩:=info_parts Tryz.infoGrp
 have H0:=show Hid (TkSt kb o t cs a c rs w 0 ((w.alloc (.cells #[.slice none 0 0] 57)).alloc (.cells #[.slice none 0 0] 57)))from by
  refine⟨by rw[QhW];exact(hG.alloc _).alloc _,((FrmX.refl _ w).alloc _).alloc _,⟨none,0,?_,rfl,by decide,World.ownsRow_nil _ _ _ _⟩,?_⟩
  ·have:=heap_alloc_new (w.alloc (.cells #[.slice none 0 0] 57)) (.cells #[.slice none 0 0] 57);rw[World.size_alloc]at this;exact this
  ·rw[Below.heap_alloc _ _ _ (by simp)];exact heap_alloc_new w _
 clear hG;go_enter Tryz.func109,Tryz.ntmps109;go_wp2
 go_loopw [4] (λi wr=>∃j:Nat,j<=rs.length/\i=.int .i64 (j:Int)/\TkSt kb o t cs a c rs w j wr) (λi _=>rs.length-(intOf i).toNat)
 case atStart=>exact⟨0,Nat.zero_le _,rfl,H0.out⟩
 case round=>
  obtain⟨j,hj,rfl,hT⟩:=hrel;clear H0;have hcl:=Qa4 rs j hj;obtain⟨hG,hF,⟨a2,c2,hK⟩,hz⟩:=hT;have hkc:=hG.cell;rw[hcl]at hkc
  by_cases hjl:j<rs.length
  ·rcases Qai hG.own with⟨_,h0⟩ | ⟨g,rfl⟩
   ·omega
   have hgg:g<w.heap.size:=hgl g rfl;have hat:=Qf4 rs j hjl;obtain⟨hjc,hje⟩:=List.getElem?_eq_some_iff.1 hat;obtain⟨r0,r1,r2,r3,r4⟩:=Qa8 hG j hjc;rw[hje]at r0 r1 r2 r3 r4;have hji:(j:Int)<(rs.length:Int):=omQ;have hj0:(0:Int)<=(j:Int):=omQ
   cases hch:(rs[j]'hjl).ch with
   | false=>
    rw[hch]at r4
    have HN:=show Hid (TkSt kb o t cs (some ⟨g,0,none⟩) c rs w (j+1) wr)from by
     refine⟨by rw[QhY rs j hjl hch];exact hG,hF,?_,hz⟩;rw[Qjs rs j hjl hch];exact⟨a2,c2,hK⟩
    clear hG hF hK hz hat hje hjc r0 r1 r2 r3 hgl;go_wp2
    go_roundw
    case rel=>exact⟨j+1,by omega,by go_num,HN.out⟩
    case measure=>simp[intOf];omega
   | true=>
    have hset:=Qch (Upd.refl hG) j hjc (calmX (rs[j]'hjl)) 4 (.bool false) (by decide) (by rw[hje];rfl);rw[Qdf rs j hjl]at hset;have hfz:=hG.frozenAt (j*5+4);have htl:=Qeb (rs.take j);rw[List.length_take]at htl;have hmore:=Qjt rs j hjl hch
    obtain⟨y,hy⟩:∃y,rs[j]'hjl=y:=⟨_,rfl⟩
    rw[hy]at r0 r1 r2 r3 r4 hmore hch;obtain⟨⟨yp,yl,ys,ye⟩,yc⟩:=y;simp only at r0 r1 r2 r3 r4 hch;subst hch;have hmore':takenX (rs.take (j+1))=takenX (rs.take j)++[⟨⟨yp,yl,ys,ye⟩,false⟩]:=hmore;have Hm:=hdQ hmore';have hw1F:FrmX (Xs kb (some ⟨g,0,none⟩) rs.length c) w (wr.setCell ⟨g,j*5+4,none⟩ (.bool false)):=hF.set (λ_=>.inr rfl) _ _;have hw1z:=(Below.heap_setCell wr ⟨g,j*5+4,none⟩ (.bool false) w.heap.size (by simp only;omega)).trans hz
    have hkr:(Value.slice a2 (takenX (rs.take j)).length c2).ownBlock≠some g:=λe=>by
     have:=(Qah hK.own g e).1;omega
    have hK1:=hK.setOther (g':=g) omQ hkr (j*5+4) (.bool false)
    have HA:=show Hid (GAt 0 kb o t cs (some ⟨g,0,none⟩) c (calmTo rs (j+1)) (wr.setCell ⟨g,j*5+4,none⟩ (.bool false)))from by
     have h2:=hset.at';rw[Qa4 rs (j+1) omQ]at h2;have h4:=hG.slot;rw[hcl]at h4;have h3:cs.setIfInBounds o (.slice (some ⟨g,0,none⟩) rs.length c)=cs:=QeQ h4;rw[h3]at h2;unfold GAt;rw[Qa4 rs (j+1) omQ];exact h2
    clear hset hF hz hK hkr hmore hmore' hat hje hjc hG;go_wp2;have r0':=Qa8 HA.out j (by rw[Qa4 rs (j+1) omQ];exact hjl)
    have hcj:(calmTo rs (j+1))[j]'(by rw[Qa4 rs (j+1) omQ];exact hjl)=⟨⟨yp,yl,ys,ye⟩,false⟩:=by
     have h1:=Qdf rs j hjl;rw[hy]at h1
     have h2:(calmTo rs (j+1))[j]? =some (calmX ⟨⟨yp,yl,ys,ye⟩,true⟩):=by
      rw[<-h1,List.getElem?_set_self (by rw[hcl];exact hjl)]
     exact(List.getElem?_eq_some_iff.1 h2).2
    rw[hcj]at r0';simp only at r0';have hkc1:=HA.out.cell;rw[Qa4 rs (j+1) omQ]at hkc1;clear hkc r0 r1 r2 r3 r4 hcj hfz hy;generalize wr.setCell ⟨g,j*5+4,none⟩ (.bool false)=w1 at hw1F hw1z hK1 HA r0' hkc1 ⊢
    have hS0:w1.drew.cell? ⟨kb,o,none⟩=some (.slice (some ⟨g,0,none⟩) rs.length c)/\w1.drew.cell? ⟨g,j*5,none⟩=some (.int .i32 (yp:Int))/\w1.drew.cell? ⟨g,j*5+1,none⟩=some (.int .i64 yl)/\w1.drew.cell? ⟨g,j*5+2,none⟩=some (.int .i16 ys)/\w1.drew.cell? ⟨g,j*5+3,none⟩=some (.int .u8 ye)/\w1.drew.cell? ⟨g,j*5+4,none⟩=some (.bool false):=⟨hkc1,r0'⟩
    refine wp_region_held_drew (S:=λw':World=>w'.cell? ⟨kb,o,none⟩=some (.slice (some ⟨g,0,none⟩) rs.length c)/\w'.cell? ⟨g,j*5,none⟩=some (.int .i32 (yp:Int))/\w'.cell? ⟨g,j*5+1,none⟩=some (.int .i64 yl)/\w'.cell? ⟨g,j*5+2,none⟩=some (.int .i16 ys)/\w'.cell? ⟨g,j*5+3,none⟩=some (.int .u8 ye)/\w'.cell? ⟨g,j*5+4,none⟩=some (.bool false)) krQ hS0 (λhH=>?_)
    have HD:=show Hid (GAt 0 kb o t cs (some ⟨g,0,none⟩) c (calmTo rs (j+1)) w1.drew/\FrmX (Xs kb (some ⟨g,0,none⟩) rs.length c) w w1.drew/\w1.drew.heap[w.heap.size]? =some (.cells #[.slice none 0 0] 57 (0,0)))from⟨HA.out.drew,hw1F.drew,hw1z⟩
    have HKd:=show Hid _ from hK1.drew
    have hzs:w.heap.size+1<w1.drew.heap.size:=hK1.bl;clear HA hw1F hw1z hK1 r0' hkc1 wr;generalize w1.drew=wd at HD HKd hS0 hH hzs ⊢;clear w1;generalize hn:(takenX (rs.take j)).length=n2 at HKd htl;have HTl:=hdQ hn;clear hn;generalize takenX (rs.take j)=tk at HKd Hm HTl;have hkd:=HKd.out.cell;have hkd2:=(HKd.out.alloc (.cells #[.int .i32 (yp:Int),.int .i64 yl,.int .i16 ys,.int .u8 ye,.bool false] 175)).cell;have hbA:=(Below.refl wd.heap.size wd).alloc (Nat.le_refl _) (.cells #[.int .i32 (yp:Int),.int .i64 yl,.int .i16 ys,.int .u8 ye,.bool false] 175);have hgwd:g<wd.heap.size:=omQ;have hkwd:kb<wd.heap.size:=omQ
    have hS2:(wd.alloc (.cells #[.int .i32 (yp:Int),.int .i64 yl,.int .i16 ys,.int .u8 ye,.bool false] 175)).cell? ⟨kb,o,none⟩=some (.slice (some ⟨g,0,none⟩) rs.length c)/\(wd.alloc (.cells #[.int .i32 (yp:Int),.int .i64 yl,.int .i16 ys,.int .u8 ye,.bool false] 175)).cell? ⟨g,j*5,none⟩=some (.int .i32 (yp:Int))/\(wd.alloc (.cells #[.int .i32 (yp:Int),.int .i64 yl,.int .i16 ys,.int .u8 ye,.bool false] 175)).cell? ⟨g,j*5+1,none⟩=some (.int .i64 yl)/\(wd.alloc (.cells #[.int .i32 (yp:Int),.int .i64 yl,.int .i16 ys,.int .u8 ye,.bool false] 175)).cell? ⟨g,j*5+2,none⟩=some (.int .i16 ys)/\(wd.alloc (.cells #[.int .i32 (yp:Int),.int .i64 yl,.int .i16 ys,.int .u8 ye,.bool false] 175)).cell? ⟨g,j*5+3,none⟩=some (.int .u8 ye)/\(wd.alloc (.cells #[.int .i32 (yp:Int),.int .i64 yl,.int .i16 ys,.int .u8 ye,.bool false] 175)).cell? ⟨g,j*5+4,none⟩=some (.bool false):=⟨(hbA.cell (p:=⟨kb,o,none⟩) hkwd).trans hS0.1,(hbA.cell (p:=⟨g,j*5,none⟩) hgwd).trans hS0.2.1,(hbA.cell (p:=⟨g,j*5+1,none⟩) hgwd).trans hS0.2.2.1,(hbA.cell (p:=⟨g,j*5+2,none⟩) hgwd).trans hS0.2.2.2.1,(hbA.cell (p:=⟨g,j*5+3,none⟩) hgwd).trans hS0.2.2.2.2.1,(hbA.cell (p:=⟨g,j*5+4,none⟩) hgwd).trans hS0.2.2.2.2.2⟩
    refine tkQ 0 (.pointer (some ⟨w.heap.size+1,0,none⟩)) hH ?_;refine tkQ 2 (.pointer (some ⟨kb,o,none⟩)) hH ?_;refine tkQ 3 (.pointer (some ⟨kb,o,none⟩)) hH ?_;refine tkQ 4 (.pointer (some ⟨kb,o,none⟩)) hH ?_;refine tlQ 5 (.slice (some ⟨g,0,none⟩) rs.length c) rfl (by intro v hSw;have s0:=hSw.1;clear hSw;go_simp) hH ?_;refine tkQ 6 (.int .i64 (j:Int)) hH ?_;refine tkQ 7 (.pointer (some ⟨g,j*5,none⟩)) hH ?_;refine tlQ 8 (.agg #[.int .i32 (yp:Int),.int .i64 yl,.int .i16 ys,.int .u8 ye,.bool false]) rfl (by intro v hSw;have t0:=hSw.2.1;have t1:=hSw.2.2.1;have t2:=hSw.2.2.2.1;have t3:=hSw.2.2.2.2.1;have t4:=hSw.2.2.2.2.2;clear hSw;go_simp) hH ?_;refine rdQ [1,9] ?_;refine AllReadyH.cons rfl (λK hK=>?_) (arQ λK hK=>?_)
    focus
     clear hH;go_simp;refine hK.out _ _ hS0 (λhH=>?_);clear hK K;refine rdQ [9] ?_
     refine arQ λK hK=>?_
     clear hH;go_simp;refine hK.out _ _ hS2 (λhH=>?_);clear hK K
    rotate_left
    focus
     clear hH;go_simp;refine hK.out _ _ hS2 (λhH=>?_);clear hK K;refine rdQ [1] ?_
     refine arQ λK hK=>?_
     clear hH;go_simp;refine hK.out _ _ hS2 (λhH=>?_);clear hK K
    all_goals
     refine rdQ [10] ?_
     refine arQ λK hK=>?_
     refine QaM rfl ?_;refine Qau _ (.tmp 30) (.tmp 38) 55 rfl w.heap.size 175 i0 (.agg #[.int .i32 0,.int .i64 0,.int .i16 0,.int .u8 0,.bool false]) 5 24 Tryz.underlying55 hi hz0 hz1 hz2 rfl (by decide) (.slice a2 n2 c2) n2 (gCells tk) rfl (HKd.out.own.alloc _) ⟨wd.heap.size,0,none⟩ 1 1 (gCells1 ⟨⟨yp,yl,ys,ye⟩,false⟩) rfl rfl (by have:=Qbs wd (.int .i32 (yp:Int)) (.int .i64 yl) (.int .i16 ys) (.int .u8 ye) (.bool false) 175;simpa[gCells1]using this) (QfY _) (by unfold maxLen;omega) (by omega) (by simp;omega) (by decide) ?_;intro v3 w5 hown3 hfr3;obtain⟨a3,c3,rfl⟩:=Qaf hown3;have hgr:=Qat hfr3
     have HAp:=show Hid (_/\_)from LAt.put_app (HKd.out.alloc (.cells #[.int .i32 (yp:Int),.int .i64 yl,.int .i16 ys,.int .u8 ye,.bool false] 175)) hown3 rfl hfr3
     have hrow:∀x,(Value.slice a2 n2 c2).ownBlock=some x->w.heap.size<=x/\x≠w.heap.size:=λx hx=>by
      refine⟨(Qah HKd.out.own x hx).1,λe=>?_⟩;obtain⟨cur,hc,_⟩:=QaO HKd.out.own hx;rw[e,HD.out.2.2]at hc;simp only[Option.some.injEq,Obj.cells.injEq]at hc;exact absurd hc.2.1 (by decide)
     have hk5:w5.heap[kb]? =(wd.alloc (.cells #[.int .i32 (yp:Int),.int .i64 yl,.int .i16 ys,.int .u8 ye,.bool false] 175)).heap[kb]? :=hgr.block kb (by simp;omega) (λe=>by have:=(hrow kb e.symm).1;omega);have hg5:w5.heap[g]? =(wd.alloc (.cells #[.int .i32 (yp:Int),.int .i64 yl,.int .i16 ys,.int .u8 ye,.bool false] 175)).heap[g]? :=hgr.block g (by simp;omega) (λe=>by have:=(hrow g e.symm).1;omega)
     have hS5:w5.cell? ⟨kb,o,none⟩=some (.slice (some ⟨g,0,none⟩) rs.length c)/\w5.cell? ⟨g,j*5,none⟩=some (.int .i32 (yp:Int))/\w5.cell? ⟨g,j*5+1,none⟩=some (.int .i64 yl)/\w5.cell? ⟨g,j*5+2,none⟩=some (.int .i16 ys)/\w5.cell? ⟨g,j*5+3,none⟩=some (.int .u8 ye)/\w5.cell? ⟨g,j*5+4,none⟩=some (.bool false):=⟨(QaL hk5 o).trans hS2.1,(QaL hg5 _).trans hS2.2.1,(QaL hg5 _).trans hS2.2.2.1,(QaL hg5 _).trans hS2.2.2.2.1,(QaL hg5 _).trans hS2.2.2.2.2.1,(QaL hg5 _).trans hS2.2.2.2.2.2⟩
     refine hK.out _ _ hS5 (λhH=>?_);clear hK K hown3 hfr3 hgr hk5 hg5;refine tkQ 11 (.pointer (some ⟨w.heap.size+1,0,none⟩)) hH ?_;refine rdQ [12] ?_
     refine arQ λK hK=>?_
     clear hH;have b0:w5.cell? ⟨w.heap.size+1,0,none⟩=some (.slice a2 n2 c2):=Qaa HAp.out.1 0;have z0:w5.frozen? ⟨w.heap.size+1,0,none⟩=false:=Qab HAp.out.1 0;go_simp
     have hS6:(w5.setCell ⟨w.heap.size+1,0,none⟩ (.slice a3 (n2+1) c3)).cell? ⟨kb,o,none⟩=some (.slice (some ⟨g,0,none⟩) rs.length c)/\(w5.setCell ⟨w.heap.size+1,0,none⟩ (.slice a3 (n2+1) c3)).cell? ⟨g,j*5,none⟩=some (.int .i32 (yp:Int))/\(w5.setCell ⟨w.heap.size+1,0,none⟩ (.slice a3 (n2+1) c3)).cell? ⟨g,j*5+1,none⟩=some (.int .i64 yl)/\(w5.setCell ⟨w.heap.size+1,0,none⟩ (.slice a3 (n2+1) c3)).cell? ⟨g,j*5+2,none⟩=some (.int .i16 ys)/\(w5.setCell ⟨w.heap.size+1,0,none⟩ (.slice a3 (n2+1) c3)).cell? ⟨g,j*5+3,none⟩=some (.int .u8 ye)/\(w5.setCell ⟨w.heap.size+1,0,none⟩ (.slice a3 (n2+1) c3)).cell? ⟨g,j*5+4,none⟩=some (.bool false):=by
      have hk6:=Below.heap_setCell w5 ⟨w.heap.size+1,0,none⟩ (.slice a3 (n2+1) c3) kb (by simp only;omega);have hg6:=Below.heap_setCell w5 ⟨w.heap.size+1,0,none⟩ (.slice a3 (n2+1) c3) g (by simp only;omega);exact⟨(QaL hk6 o).trans hS5.1,(QaL hg6 _).trans hS5.2.1,(QaL hg6 _).trans hS5.2.2.1,(QaL hg6 _).trans hS5.2.2.2.1,(QaL hg6 _).trans hS5.2.2.2.2.1,(QaL hg6 _).trans hS5.2.2.2.2.2⟩
     refine hK.out _ _ hS6 (λhH=>?_);clear hK K hH b0 z0 hS5 hS6 hS0 hS2 hkd hkd2;refine wpAnyH_done krQ ?_ _
     have HU:=show Hid _ from HAp.out.2
     clear HAp;generalize w5.setCell ⟨w.heap.size+1,0,none⟩ (.slice a3 (n2+1) c3)=w6 at HU ⊢;clear w5
     have HN:=show Hid (TkSt kb o t cs (some ⟨g,0,none⟩) c rs w (j+1) w6)from by
      have hX:∀x,Xs (w.heap.size+1) a2 n2 c2 x->w.heap.size<=x/\x≠w.heap.size:=λx hx=>by
       rcases hx with h | h
       ·omega
       ·exact hrow x h
      refine⟨(HD.out.1.alloc _).frm HU.out.frm (λhx=>by have:=(hX _ hx).1;omega) (λx hx hx2=>by have:=hgl x hx;have:=(hX _ hx2).1;omega),(HD.out.2.1.alloc _).trans HU.out.frm (λx hx hx2=>by have:=(hX x hx2).1;omega),?_,?_⟩
      ·have h2:=HU.out.at';rw[Hm.out]
       have hec:gCells tk++gCells1 ⟨⟨yp,yl,ys,ye⟩,false⟩=gCells (tk++[⟨⟨yp,yl,ys,ye⟩,false⟩]):=by rw[QbS];simp[gCells]
       have hll:n2+1=(tk++[(⟨⟨yp,yl,ys,ye⟩,false⟩:GX)]).length:=by simp[HTl.out]
       rw[hec,hll]at h2;exact⟨a3,c3,h2⟩
      ·exact HU.out.frm.block ((Below.heap_alloc _ _ _ omQ).trans HD.out.2.2) (λhx=>(hX _ hx).2 rfl)
     clear HU HD HKd;go_wp2
     go_roundw
     case rel=>exact⟨j+1,by omega,by go_num,HN.out⟩
     case measure=>simp[intOf];omega
  ·have hjj:j=rs.length:=omQ;subst hjj;rw[QhX,List.take_length]at *;have hkk:=hK.cell;have hzc:wr.cell? ⟨w.heap.size,0,none⟩=some (.slice none 0 0):=Qaa hz 0;have hzf:wr.frozen? ⟨w.heap.size,0,none⟩=false:=Qab hz 0;have hnl:¬((rs.length:Int)<(rs.length:Int)):=omQ;have hz2':(wr.setCell ⟨w.heap.size,0,none⟩ (.slice a2 (takenX rs).length c2)).heap[w.heap.size]? =some (.cells #[.slice a2 (takenX rs).length c2] 57 (0,0)):=(Qag (j:=0) hz _).trans rfl
   have hrow:(Value.slice a2 (takenX rs).length c2).ownBlock≠some w.heap.size:=λhx=>by
    obtain⟨cur,hc,_⟩:=QaO hK.own hx;rw[hz]at hc;simp only[Option.some.injEq,Obj.cells.injEq]at hc;exact absurd hc.2.1 (by decide)
   have HE:=show Hid ((wr.setCell ⟨w.heap.size,0,none⟩ (.slice a2 (takenX rs).length c2)).ownsRow w.heap.size 175 5 (.slice a2 (takenX rs).length c2) (takenX rs).length (gCells (takenX rs))/\GUpd 0 kb o t cs a c rs w a c (rs.map calmX) (wr.setCell ⟨w.heap.size,0,none⟩ (.slice a2 (takenX rs).length c2)))from by
    refine⟨QaV hK.own (Qak wr w.heap.size 0 _) (λx hx e=>by simp only[Option.some.injEq]at e;exact hrow (e ▸ hx)),?_,hF.set (λh=>by omega) _ _,λx hx=>?_⟩
    ·have h1:=hG.setOther (g':=w.heap.size) omQ (λe=>by rw[List.length_map]at e;have:=hgl _ e;omega) 0 (.slice a2 (takenX rs).length c2);rw[QeQ hG.slot];exact h1
    ·rw[List.length_map]at hx;exact .inl hx
   clear hG hF hK hz hrow hgl;go_wp2;exact bodyPost_ret (results_cell_row (p:=2) (ty:=57) rfl _ _ w.heap.size 57 #[.slice a2 (takenX rs).length c2] (0,0) _ rfl hz2' Tryz.underlying57 rfl krQ) rfl ⟨a2,c2,rfl,HE.out.1,HE.out.2⟩
theorem QkJ(over rs:List GX)(j:Nat)(h:j<over.length):layX (over.take (j+1)) rs=putX over[j] (layX (over.take j) rs):=by
 unfold layX;rw[List.take_succ_eq_append_getElem h,List.foldl_append]
 rfl
structure Beside (kb o:Nat) (a:Option Addr) (n c:Nat) (cs:Array Value) (kb2 o2:Nat) (a2:Option Addr) (c2:Nat) (over:List GX) (w:World):Prop where
 cell:w.cell? ⟨kb2,o2,none⟩=some (.slice a2 over.length c2)
 own:w.ownsRow 0 175 5 (.slice a2 over.length c2) over.length (gCells over)
 lt:kb2<w.heap.size
 apart:∀g,(Value.slice a2 over.length c2).ownBlock=some g->(Value.slice a n c).ownBlock≠some g/\g≠kb
 holder:(Value.slice a n c).ownBlock≠some kb2
 place:kb2=kb->o2≠o/\cs[o2]? =some (.slice a2 over.length c2)
theorem Beside.of_upd{kb o:Nat}{t:TypeId}{cs:Array Value}{a:Option Addr}{c:Nat}{rs:List GX}{w:World}{kb2 o2:Nat}{a2:Option Addr}{c2:Nat}{over:List GX}(h:Beside kb o a rs.length c cs kb2 o2 a2 c2 over w){a':Option Addr}{c':Nat}{rs':List GX}{w':World}(hu:GUpd 0 kb o t cs a c rs w a' c' rs' w'):
  w'.cell? ⟨kb2,o2,none⟩=some (.slice a2 over.length c2)/\w'.ownsRow 0 175 5 (.slice a2 over.length c2) over.length (gCells over):=by
 refine⟨?_,QeS h.own hu.frm λg hg hx=>?_⟩
 ·by_cases e:kb2=kb
  ·obtain⟨h1,h2⟩:=h.place e;subst e;rw[Qaa hu.at'.box o2,Array.getElem?_setIfInBounds,if_neg (λe=>h1 e.symm)];exact h2
  ·rw[QaL (hu.frm.keep kb2 h.lt (λhx=>?_)) o2]
   ·exact h.cell
   ·rcases hx with hx | hx
    ·exact e hx
    ·exact h.holder hx
 ·rcases hx with hx | hx
  ·exact(h.apart g hg).2 hx
  ·exact(h.apart g hg).1 hx
theorem QiU(kb o:Nat)(t:TypeId)(cs:Array Value)(a:Option Addr)(c:Nat)(rs:List GX)(kb2 o2:Nat)(a2:Option Addr)(c2:Nat)(over:List GX)(w:World)(hlen:rs.length+over.length<=1000)(hG:GAt 0 kb o t cs a c rs w)(hO:Beside kb o a rs.length c cs kb2 o2 a2 c2 over w):
  Calls Tryz.prog 105 #[.pointer (some ⟨kb,o,none⟩),.pointer (some ⟨kb2,o2,none⟩)] w λen w'=>en=.returned (.tuple #[])/\∃a' c',GUpd 0 kb o t cs a c rs w a' c' (layX over rs) w':=by
 have HO:=hdQ hO;have HG:=hdQ hG;clear hG hO;go_enter Tryz.func105,Tryz.ntmps105;go_wp2
 go_loopw [4] (λi wr=>∃j:Nat,j<=over.length/\i=.int .i64 (j:Int)/\∃a' c',GUpd 0 kb o t cs a c rs w a' c' (layX (over.take j) rs) wr) (λi _=>over.length-(intOf i).toNat)
 case atStart=>exact⟨0,Nat.zero_le _,rfl,a,c,Upd.refl HG.out⟩
 case round=>
  obtain⟨j,hj,rfl,a',c',hU⟩:=hrel;obtain⟨oc,oo⟩:=HO.out.of_upd hU;have hll:=QhV (over.take j) rs;rw[List.length_take]at hll
  by_cases hjl:j<over.length
  ·rcases Qai oo with⟨_,h0⟩ | ⟨g2,rfl⟩
   ·omega
   have hrow:∀(k:Nat),k<5->wr.cell? ⟨g2,j*5+k,none⟩=(gCells1 (over[j]'hjl))[k]? :=λk hk=>(oo.cellAt (j*5+k) omQ).trans (Qbk over j hjl k hk)
   have hxt:=QkJ over rs j hjl;have hhp:=Qg8 (over[j]'hjl) (layX (over.take j) rs);rw[<-hxt]at hhp
   obtain⟨y,hy⟩:∃y,over[j]'hjl=y:=⟨_,rfl⟩
   rw[hy]at hrow hhp;have Hy:=hdQ hy;clear hxt hy;obtain⟨⟨yp,yl,ys,ye⟩,yc⟩:=y;have r0:wr.cell? ⟨g2,j*5,none⟩=some (.int .i32 (yp:Int)):=hrow 0 (by decide);simp only at hhp
   have HH:=show Hid _ from λ(_:Unit)=>Qg0 0 kb o t _ a' c' (layX (over.take j) rs) yp wr (Nat.zero_le _) omQ hU.at'
   obtain⟨hn,_,_,_⟩:=QdG yp (layX (over.take j) rs);have Hhp:=hdQ hhp;have HUs:=hdQ hU;clear hhp hU hrow hll oo;generalize hM:homeX yp (layX (over.take j) rs)=M at HH hn Hhp;clear hM;generalize hN:plcX yp (layX (over.take j) rs)=n at HH hn Hhp;clear hN;have hji:(j:Int)<(over.length:Int):=omQ;have hj0:(0:Int)<=(j:Int):=omQ
   go_wp2_with(go_at_call 114;refine(HH.out ()).mono ?_;rintro en w2 ⟨rfl,a4,c4,hU4⟩)
   have HU5:=show Hid _ from HUs.out.trans hU4
   clear HUs HH hU4 oc r0;obtain⟨oc,oo⟩:=HO.out.of_upd HU5.out
   rcases Qai HU5.out.at'.own with⟨_,h0⟩ | ⟨g,rfl⟩
   ·omega
   have hrow:∀(k:Nat),k<5->w2.cell? ⟨g2,j*5+k,none⟩=(gCells1 (over[j]'hjl))[k]? :=λk hk=>(oo.cellAt (j*5+k) omQ).trans (Qbk over j hjl k hk)
   rw[Hy.out]at hrow;have q0:w2.cell? ⟨g2,j*5,none⟩=some (.int .i32 (yp:Int)):=hrow 0 (by decide);have q1:w2.cell? ⟨g2,j*5+1,none⟩=some (.int .i64 yl):=hrow 1 (by decide);have q2:w2.cell? ⟨g2,j*5+2,none⟩=some (.int .i16 ys):=hrow 2 (by decide);have q3:w2.cell? ⟨g2,j*5+3,none⟩=some (.int .u8 ye):=hrow 3 (by decide);have q4:w2.cell? ⟨g2,j*5+4,none⟩=some (.bool yc):=hrow 4 (by decide);have hkc:=HU5.out.at'.cell
   have hgg2:g2≠g:=λe=>by
    have h1:=HO.out.apart g2 rfl
    rcases HU5.out.row g rfl with h | h
    ·exact h1.1 (e ▸ h)
    ·have:=(Qah HO.out.own g2 rfl).2;omega
   have hkg:g≠kb:=HU5.out.at'.g_ne
   have hk2g:kb2≠g:=λe=>by
    rcases HU5.out.row g rfl with h | h
    ·exact HO.out.holder (e ▸ h)
    ·have:=HO.out.lt;omega
   have HF:=show Hid _ from QgZ (w:=w2.drew) HU5.out.drew n hn ⟨⟨yp,yl,ys,ye⟩,yc⟩ _ _ _ _ _ rfl rfl rfl rfl rfl
   obtain⟨ln,hln⟩:∃ln,M.length=ln:=⟨_,rfl⟩
   rw[hln]at hkc hn;have hni:(n:Int)<(ln:Int):=omQ;have hn0:(0:Int)<=(n:Int):=omQ;clear hrow oo hln HU5
   obtain⟨z,hz⟩:∃z,M[n]'(by assumption)=z:=⟨_,rfl⟩
   rw[hz]at HF;clear hz;obtain⟨⟨vp,vl,vs,ve⟩,vc⟩:=z;simp only at HF;rw[Hhp.out]at HF
   have hS0:w2.drew.cell? ⟨kb,o,none⟩=some (.slice (some ⟨g,0,none⟩) ln c4)/\w2.drew.cell? ⟨kb2,o2,none⟩=some (.slice (some ⟨g2,0,none⟩) over.length c2)/\w2.drew.cell? ⟨g2,j*5,none⟩=some (.int .i32 (yp:Int))/\w2.drew.cell? ⟨g2,j*5+1,none⟩=some (.int .i64 yl)/\w2.drew.cell? ⟨g2,j*5+2,none⟩=some (.int .i16 ys)/\w2.drew.cell? ⟨g2,j*5+3,none⟩=some (.int .u8 ye)/\w2.drew.cell? ⟨g2,j*5+4,none⟩=some (.bool yc):=⟨hkc,oc,q0,q1,q2,q3,q4⟩
   refine wp_region_held_drew (S:=λw':World=>w'.cell? ⟨kb,o,none⟩=some (.slice (some ⟨g,0,none⟩) ln c4)/\w'.cell? ⟨kb2,o2,none⟩=some (.slice (some ⟨g2,0,none⟩) over.length c2)/\w'.cell? ⟨g2,j*5,none⟩=some (.int .i32 (yp:Int))/\w'.cell? ⟨g2,j*5+1,none⟩=some (.int .i64 yl)/\w'.cell? ⟨g2,j*5+2,none⟩=some (.int .i16 ys)/\w'.cell? ⟨g2,j*5+3,none⟩=some (.int .u8 ye)/\w'.cell? ⟨g2,j*5+4,none⟩=some (.bool yc)) krQ hS0 (λhH=>?_);clear hkc oc q0 q1 q2 q3 q4 Hhp Hy;generalize w2.drew=wd at HF hS0 hH ⊢;refine tkQ 0 (.pointer (some ⟨kb,o,none⟩)) hH ?_;refine tkQ 1 (.pointer (some ⟨kb,o,none⟩)) hH ?_;refine tkQ 2 (.pointer (some ⟨kb,o,none⟩)) hH ?_;refine tlQ 3 (.slice (some ⟨g,0,none⟩) ln c4) rfl (by intro v hSw;have s0:=hSw.1;clear hSw;go_simp) hH ?_;refine tkQ 4 (.int .i64 (n:Int)) hH ?_;refine tkQ 5 (.pointer (some ⟨kb2,o2,none⟩)) hH ?_;refine tkQ 6 (.pointer (some ⟨kb2,o2,none⟩)) hH ?_;refine tkQ 7 (.pointer (some ⟨kb2,o2,none⟩)) hH ?_;refine tlQ 8 (.slice (some ⟨g2,0,none⟩) over.length c2) rfl (by intro v hSw;have s0:=hSw.2.1;clear hSw;go_simp) hH ?_;refine tkQ 9 (.int .i64 (j:Int)) hH ?_;refine tkQ 10 (.pointer (some ⟨g2,j*5,none⟩)) hH ?_;refine tlQ 11 (.agg #[.int .i32 (yp:Int),.int .i64 yl,.int .i16 ys,.int .u8 ye,.bool yc]) rfl (by intro v hSw;have t0:=hSw.2.2.1;have t1:=hSw.2.2.2.1;have t2:=hSw.2.2.2.2.1;have t3:=hSw.2.2.2.2.2.1;have t4:=hSw.2.2.2.2.2.2;clear hSw;go_simp) hH ?_;refine tkQ 12 (.pointer (some ⟨g,n*5,none⟩)) hH ?_;refine rdQ [13] ?_
   refine arQ λK hK=>?_
   have c0:=HF.out.1.1;have c1:=HF.out.1.2.1;have c2':=HF.out.1.2.2.1;have c3':=HF.out.1.2.2.2.1;have c4':=HF.out.1.2.2.2.2;have z0:=HF.out.2.1.1;have z1:=HF.out.2.1.2.1;have z2:=HF.out.2.1.2.2.1;have z3:=HF.out.2.1.2.2.2.1;have z4:=HF.out.2.1.2.2.2.2;clear hH;go_simp
   have HF2:=show Hid (_/\_)from HF.out.2.2
   clear HF c0 c1 c2' c3' c4' z0 z1 z2 z3 z4;generalize(((((wd.setCell ⟨g,n*5,none⟩ (.int .i32 (yp:Int))).setCell ⟨g,n*5+1,none⟩ (.int .i64 yl)).setCell ⟨g,n*5+2,none⟩ (.int .i16 ys)).setCell ⟨g,n*5+3,none⟩ (.int .u8 ye)).setCell ⟨g,n*5+4,none⟩ (.bool yc))=w7 at HF2 ⊢
   have hcell:∀(b:Nat) (x:Nat) (u:Value),b≠g->wd.cell? ⟨b,x,none⟩=some u->w7.cell? ⟨b,x,none⟩=some u:=λb x u hb hc=>by
    have hbl:b<wd.heap.size:=by
     rcases Nat.lt_or_ge b wd.heap.size with h | h
     ·exact h
     ·exfalso
      simp[World.cell?,Array.getElem?_eq_none h]at hc
    rw[QaL (HF2.out.2.block b hbl (by simp only[ne_eq,Option.some.injEq];exact hb)) x];exact hc
   refine hK.out _ _ ⟨hcell _ _ _ (λe=>hkg e.symm) hS0.1,hcell _ _ _ hk2g hS0.2.1,hcell _ _ _ hgg2 hS0.2.2.1,hcell _ _ _ hgg2 hS0.2.2.2.1,hcell _ _ _ hgg2 hS0.2.2.2.2.1,hcell _ _ _ hgg2 hS0.2.2.2.2.2.1,hcell _ _ _ hgg2 hS0.2.2.2.2.2.2⟩ (λhH=>?_);clear hK K hH hcell hS0;refine wpAnyH_done krQ ?_ _;go_wp2
   go_roundw
   case rel=>exact⟨j+1,by omega,by go_num,_,_,HF2.out.1⟩
   case measure=>simp[intOf];omega
  ·have hjj:j=over.length:=omQ;subst hjj;have hnl:¬((over.length:Int)<(over.length:Int)):=omQ;rw[List.take_length]at hU;have HU:=hdQ hU;clear hU hll oo;go_wp2
   go_end0
   exact⟨rfl,a',c',HU.out⟩
theorem QhZ{L:Nat->Rw}{p o c:Nat}{v:Value}{n:Nat}{xs:List Value}(hpc:p≠c)(h:v.ownBlock=(L c).v.ownBlock):LX (putL L p o c v n xs)=LX L:=by
 funext g
 apply propext;constructor
 ·rintro⟨x,hx⟩;refine⟨x,?_⟩
  by_cases e:x=c
  ·subst e;rw[Qa9]at hx;rw[<-h];exact hx
  ·by_cases e':x=p
   ·subst e';rw[Qba hpc]at hx;exact hx
   ·rw[Qbb e e']at hx;exact hx
 ·rintro⟨x,hx⟩;refine⟨x,?_⟩
  by_cases e:x=c
  ·subst e;rw[Qa9];show v.ownBlock=_;rw[h];exact hx
  ·by_cases e':x=p
   ·subst e';rw[Qba hpc];exact hx
   ·rw[Qbb e e'];exact hx
section
variable {F:Fx} {X:Nat->Prop} {w w':World} {m:CM}
theorem CLX.atabSame(h:CLX F X w m)(i:Nat)(hi:i<m.W):∃cs a cp,GAt 0 F.ab (i*2+1) 113 cs a cp (m.tb i) w/\∀(w':World) (rs:List GX),GUpd 0 F.ab (i*2+1) 113 cs a cp (m.tb i) w a cp rs w'->CLX F X w' {m with tb:=updF m.tb i rs}/\FrmX X w w':=by
 obtain⟨L,hl,hs,rfl⟩:=h;obtain⟨w1,w4⟩:=hs.w4;obtain⟨t1,t2,t3,t4⟩:=hs.tb i hi;obtain⟨cs,a,cp,hv,hla⟩:=hl.lat (o:=i*2+1) (c:=40+i) (hs.ar.2.2 i hi).2 hs.ar.2.1 (by rw[hs.ar.1,t1];decide);have hla':=hla;rw[hs.ar.1,t1,t2,t3,t4]at hla';refine⟨cs,a,cp,hla',λw' rs hu=>?_⟩;obtain⟨hlay,hf,hx⟩:=hl.put (p:=2) (c:=40+i) (o:=i*2+1) (a':=a) (n':=rs.length) (c':=cp) (xs':=gCells rs) hs.ar.2.1 omQ hv hla (by rw[hs.ar.1,t1,t2,t3];exact hu);refine⟨⟨_,hlay,?_,(QhZ omQ (by rw[hv];cases a<;>rfl)).symm⟩,hf⟩;generalize hL:putL L (2) (i*2+1) (40+i) (.slice a rs.length cp) rs.length (gCells rs)=L'
 have fv:∀x,x≠40+i->(L' x).v=(L x).v:=λx hx=>by
  rw[<-hL];unfold putL;rw[if_neg hx];split
  ·rename_i e;rw[e]
  ·rfl
 have ft:∀x,(L' x).ty=(L x).ty:=λx=>by
  rw[<-hL];unfold putL;split
  ·rename_i e;rw[e]
  ·split
   ·rename_i e;rw[e]
   ·rfl
 have fx:∀x,x≠40+i->x≠2->L' x=L x:=λx h1 h2=>by rw[<-hL];exact Qbb h1 h2
 have fp:(L' (2)).xs=(L (2)).xs.set (i*2+1) (.slice a rs.length cp):=by rw[<-hL,Qba omQ]
 have fc:L' (40+i)=⟨(L (40+i)).ty,(L (40+i)).sz,.slice a rs.length cp,rs.length,gCells rs⟩:=by rw[<-hL];exact Qa9 _ _ _ _ _ _ _
 have fcv:(L' (40+i)).v=.slice a rs.length cp:=by rw[fc]
 refine⟨⟨w1,w4⟩,⟨(ft 0).trans hs.job.1,(fv 0 omQ).trans hs.job.2.1,by rw[fx 0 omQ omQ,fv 3 omQ,fv 1 omQ,fv 2 omQ,fv 4 omQ,fv 5 omQ];exact hs.job.2.2⟩,⟨(ft 1).trans hs.sr.1,(fv 1 omQ).trans hs.sr.2.1,λi2 hi2=>?_⟩,⟨(ft 2).trans hs.ar.1,(fv 2 omQ).trans hs.ar.2.1,λi2 hi2=>?_⟩,by rw[fx 3 omQ omQ];exact hs.ev,?_,?_,λi2 hi2=>?_,λi2 hi2=>?_,λi2 hi2=>⟨(ft _).trans (hs.il i2 hi2).1,(fv _ (by have hi3:i2<4:=Nat.lt_of_lt_of_le hi2 w4;omega)).trans (hs.il i2 hi2).2.1,λq2 hq2=>?_⟩,λi2 hi2=>?_,λi2 q2 hi2 hq2=>?_⟩
 ·obtain⟨s1,s2,s3⟩:=hs.sr.2.2 i2 hi2;have hi3:i2<4:=Nat.lt_of_lt_of_le hi2 w4;rw[fx 1 omQ omQ,fv (10+i2) omQ,fv (20+i2) omQ];exact⟨s1,s2,s3⟩
 ·obtain⟨s1,s2⟩:=hs.ar.2.2 i2 hi2;have hi3:i2<4:=Nat.lt_of_lt_of_le hi2 w4;rw[fp,List.getElem?_set_ne omQ];refine⟨by rw[fv _ omQ];exact s1,?_⟩
  by_cases e:i2=i
  ·subst e;rw[Qdq s2,fcv]
  ·rw[List.getElem?_set_ne omQ,fv _ omQ];exact s2
 ·rw[fx 4 omQ omQ];exact hs.rd
 ·rw[fx 5 omQ omQ];exact hs.vw
 ·have hi3:i2<4:=Nat.lt_of_lt_of_le hi2 w4;rw[fx _ omQ omQ];exact hs.sp i2 hi2
 ·have hi3:i2<4:=Nat.lt_of_lt_of_le hi2 w4;rw[fx _ omQ omQ];exact hs.sk i2 hi2
 ·obtain⟨s1,s2,s3⟩:=(hs.il i2 hi2).2.2 q2 hq2;have hi3:i2<4:=Nat.lt_of_lt_of_le hi2 w4;rw[fx _ omQ omQ,fv _ omQ];exact⟨s1,s2,s3⟩
 ·have hi3:i2<4:=Nat.lt_of_lt_of_le hi2 w4;simp only
  by_cases e:i2=i
  ·subst e;rw[QaQ];exact⟨by rw[fc];exact t1,by rw[fc];exact t2,by rw[fc],by rw[fc]⟩
  ·rw[Qa0 e,fx _ omQ omQ];exact hs.tb i2 hi2
 ·have hi3:i2<4:=Nat.lt_of_lt_of_le hi2 w4;have hq3:q2<4:=Nat.lt_of_lt_of_le hq2 w4;rw[fx _ omQ omQ];exact hs.ap i2 q2 hi2 hq2
theorem CLX.viewReady(h:CLX F X w m):∃cs a cp a2 c2,GAt 0 F.jb 9 65 cs a cp m.view w/\Beside F.jb 9 a m.view.length cp cs F.jb 7 a2 c2 m.ready w/\∀(w':World) (a':Option Addr) (c':Nat) (rs:List GX),GUpd 0 F.jb 9 65 cs a cp m.view w a' c' rs w'->Aft F X w {m with view:=rs} w':=by
 obtain⟨cs,a,cp,hG,hU⟩:=h.vw;obtain⟨L,hl,hs,rfl⟩:=h;obtain⟨_,j2,j3⟩:=hs.job
 have h7:(L 0).xs[7]? =some (L 4).v:=by rw[j3];rfl
 have h9:(L 0).xs[9]? =some (L 5).v:=by rw[j3];rfl
 obtain⟨g,cap,cur,e1,e2,e3⟩:=hl.block h7;rw[j2]at e1;simp only[Value.slice.injEq,Option.some.injEq,Addr.mk.injEq,and_true]at e1;obtain⟨rfl,_⟩:=e1
 have hcs:cur=cs:=by
  have:=hG.box;rw[e2]at this;simp only[Option.some.injEq,Obj.cells.injEq]at this;exact this.1
 subst hcs;obtain⟨r1,r2,r3,r4⟩:=hs.rd;obtain⟨v1,v2,v3,v4⟩:=hs.vw;obtain⟨a2,c2,hv4⟩:=Qaf (hl.own 4);have ho4:=hl.own 4;rw[r1,r2,r3,r4,hv4,r3]at ho4;rw[hv4,r3]at e3
 have hv5:(L 5).v=.slice a m.view.length cp:=by
  obtain⟨g',cap',cur',f1,f2,f3⟩:=hl.block h9;rw[j2]at f1;simp only[Value.slice.injEq,Option.some.injEq,Addr.mk.injEq,and_true]at f1;obtain⟨rfl,_⟩:=f1;rw[e2]at f2;simp only[Option.some.injEq,Obj.cells.injEq]at f2;rw[<-f2.1]at f3;rw[hG.slot]at f3;exact(Option.some.inj f3).symm
 refine⟨cur,a,cp,a2,c2,hG,⟨(Qaa e2 7).trans e3,ho4,Qac e2,λx hx=>⟨λhx2=>?_,λe=>?_⟩,λhx=>?_,λ_=>⟨by decide,e3⟩⟩,hU⟩
 ·have:=hl.inj 4 5 x (by rw[hv4,r3];exact hx) (by rw[hv5];exact hx2);omega
 ·have:=hl.inj 4 0 x (by rw[hv4,r3];exact hx) (by rw[j2,e];rfl);omega
 ·have:=hl.inj 5 0 F.jb (by rw[hv5];exact hx) (by rw[j2];rfl);omega
theorem CLX.readyNew(h:CLX F X w m){kb2:Nat}{t2:TypeId}{a2:Option Addr}{c2:Nat}{over:List GX}(hb:w.heap[kb2]? =some (.cells #[.slice a2 over.length c2] t2 (0,0)))(ho:w.ownsRow 0 175 5 (.slice a2 over.length c2) over.length (gCells over))(hk:¬X kb2)(hr:∀g,(Value.slice a2 over.length c2).ownBlock=some g->¬X g):
  ∃cs a cp,GAt 0 F.jb 7 65 cs a cp m.ready w/\Beside F.jb 7 a m.ready.length cp cs kb2 0 a2 c2 over w/\∀(w':World) (a':Option Addr) (c':Nat) (rs:List GX),GUpd 0 F.jb 7 65 cs a cp m.ready w a' c' rs w'->Aft F X w {m with ready:=rs} w':=by
 obtain⟨cs,a,cp,hG,hU⟩:=h.ready;obtain⟨L,hl,hs,rfl⟩:=h
 have hjX:LX L F.jb:=⟨0,by rw[hs.job.2.1];rfl⟩
 have h7:(L 0).xs[7]? =some (L 4).v:=by rw[hs.job.2.2];rfl
 have hv4:(L 4).v=.slice a m.ready.length cp:=by
  obtain⟨g',cap',cur',f1,f2,f3⟩:=hl.block h7;rw[hs.job.2.1]at f1;simp only[Value.slice.injEq,Option.some.injEq,Addr.mk.injEq,and_true]at f1;obtain⟨rfl,_⟩:=f1;have hb2:=hG.box;rw[f2]at hb2;simp only[Option.some.injEq,Obj.cells.injEq]at hb2;rw[hb2.1,hG.slot]at f3;exact(Option.some.inj f3).symm
 refine⟨cs,a,cp,hG,⟨Qaa hb 0,ho,Qac hb,λx hx=>⟨λhx2=>hr x hx ⟨4,by rw[hv4];exact hx2⟩,λe=>hr x hx (e ▸ hjX)⟩,λhx=>hk ⟨4,by rw[hv4];exact hx⟩,λe=>absurd (e ▸ hjX) hk⟩,hU⟩
end
end
section
open Go.RowKit
theorem Qh0(a b:Nat)(ha:a<4294967296)(hb:b<4294967296):bits .xor .i64 (a:Int) (b:Int)=((a ^^^ b:Nat):Int):=by
 have hx:a ^^^ b<2 ^ 32:=Nat.xor_lt_two_pow omQ omQ
 have h1:(BitVec.ofInt 64 (a:Int)).toNat=a:=by
  rw[BitVec.ofInt_natCast,BitVec.toNat_ofNat];exact Nat.mod_eq_of_lt omQ
 have h2:(BitVec.ofInt 64 (b:Int)).toNat=b:=by
  rw[BitVec.ofInt_natCast,BitVec.toNat_ofNat];exact Nat.mod_eq_of_lt omQ
 show IntKind.i64.wrap ((BitVec.ofInt 64 (a:Int) ^^^ BitVec.ofInt 64 (b:Int)).toNat:Int)=_
 rw[BitVec.toNat_xor,h1,h2,IntKind.wrap_i64];omega
theorem Ql6(hh b:Nat)(hlt:hh<4294967296)(hbt:b<256):(wrap64 (bits BinOp.xor IntKind.i64 (hh:Int) (wrap64 (b:Int))*16777619)).tmod 4294967296=(hstep hh b:Int):=by
 unfold hstep;rw[IntWalk.wrap64_in (b:Int) ⟨by omega,by omega⟩,Qh0 hh b hlt omQ];have hxl:hh ^^^ b<2 ^ 32:=Nat.xor_lt_two_pow omQ omQ;generalize hh ^^^ b=x at hxl;rw[IntWalk.wrap64_in _ ⟨by omega,by omega⟩,Int.tmod_eq_emod_of_nonneg omQ];omega
def hashTo(key:ByteArray)(k:Nat):Nat:=hashL (key.data.toList.take k) 2166136261
theorem Qex(key:ByteArray):hashTo key 0=2166136261:=by simp[hashTo,hashL]
theorem Qey(key:ByteArray)(k:Nat)(h:key.size<=k):hashTo key k=hashS key:=by
 unfold hashTo hashS;rw[List.take_of_length_le (by rw[Qam];exact h)]
theorem Qf5(key:ByteArray)(k:Nat):hashTo key k<4294967296:=Qg1 _ _ (by decide)
theorem Qez(key:ByteArray)(k b:Nat)(hkl:k<key.size)(hb:b=(key[k]'hkl).toNat):hashTo key (k+1)=hstep (hashTo key k) b:=by
 have hl:k<key.data.toList.length:=by rw[Qam];exact hkl
 have hget:(key.data.toList[k]'hl).toNat=b:=by
  rw[hb,Qa6 key k hkl];unfold gb;rw[List.getD_eq_getElem?_getD,List.getElem?_eq_getElem hl]
  rfl
 unfold hashTo;rw[List.take_succ_eq_append_getElem hl,Qjl,hget]
theorem QkK(key:ByteArray)(k b:Nat)(hkl:k<key.size)(hb:b=(key[k]'hkl).toNat):(wrap64 (bits BinOp.xor IntKind.i64 (hashTo key k:Int) (wrap64 (b:Int))*16777619)).tmod 4294967296=(hashTo key (k+1):Int):=by
 rw[Qez key k b hkl hb];exact Ql6 _ b (Qf5 key k) (by rw[hb];exact(key[k]'hkl).toNat_lt)
theorem Qha(key:ByteArray)(w:World)(hs:key.size<=1000):
  Calls Tryz.prog 76 #[.string key] w λen w'=>en=.returned (.int .i64 (hashS key:Int))/\∃q,w'=w.drewN q:=by
 have h0:=show Hid _ from Qex key
 go_enter Tryz.func76,Tryz.ntmps76;go_wp2
 go_loopw [3,4] (λh i wr=>∃(k:Nat),k<=key.size/\i=.int .i64 (k:Int)/\h=.int .i64 (hashTo key k:Int)/\∃q,wr=w.drewN q) (λ_ i _=>key.size-(intOf i).toNat)
 case atStart=>exact⟨0,Nat.zero_le _,rfl,by rw[h0.out];rfl,0,rfl⟩
 case round=>
  obtain⟨k,hk,rfl,rfl,q,rfl⟩:=hrel
  by_cases hkl:k<key.size
  ·have hki:(k:Int)<(key.size:Int):=omQ;have hk0:(0:Int)<=(k:Int):=omQ
   have HS:=show Hid _ from λb hb=>QkK key k b hkl hb
   go_wp2
   go_roundw
   case rel=>exact⟨k+1,by omega,by go_num,congrArg (Value.int .i64) (HS.out _ rfl),q,rfl⟩
   case measure=>simp[intOf];omega
  ·have Hf:=show Hid _ from Qey key k omQ
   go_wp2;go_ret;exact⟨by rw[<-Hf.out];rfl,q,rfl⟩
theorem QdO(n:Int):IntKind.u32.wrap n=n % 4294967296:=by simp[IntKind.wrap,IntKind.bits,IntKind.signed]
theorem Qh1(a b:Nat)(ha:a<4294967296)(hb:b<4294967296):bits .xor .u32 (a:Int) (b:Int)=((a ^^^ b:Nat):Int):=by
 have hx:a ^^^ b<2 ^ 32:=Nat.xor_lt_two_pow omQ omQ
 have h1:(BitVec.ofInt 32 (a:Int)).toNat=a:=by
  rw[BitVec.ofInt_natCast,BitVec.toNat_ofNat];exact Nat.mod_eq_of_lt omQ
 have h2:(BitVec.ofInt 32 (b:Int)).toNat=b:=by
  rw[BitVec.ofInt_natCast,BitVec.toNat_ofNat];exact Nat.mod_eq_of_lt omQ
 show IntKind.u32.wrap ((BitVec.ofInt 32 (a:Int) ^^^ BitVec.ofInt 32 (b:Int)).toNat:Int)=_
 rw[BitVec.toNat_xor,h1,h2,QdO];omega
theorem QkL(hh b:Nat)(hlt:hh<4294967296)(hbt:b<256):IntKind.u32.wrap (bits BinOp.xor IntKind.u32 (hh:Int) (IntKind.u32.wrap (b:Int))*16777619)=(hstep hh b:Int):=by
 unfold hstep
 have hb':IntKind.u32.wrap (b:Int)=(b:Int):=by rw[QdO];omega
 rw[hb',Qh1 hh b hlt omQ,QdO];generalize hh ^^^ b=x;omega
theorem Qju(key:ByteArray)(k b:Nat)(hkl:k<key.size)(hb:b=(key[k]'hkl).toNat):IntKind.u32.wrap (bits BinOp.xor IntKind.u32 (hashTo key k:Int) (IntKind.u32.wrap (b:Int))*16777619)=(hashTo key (k+1):Int):=by
 rw[Qez key k b hkl hb];exact QkL _ b (Qf5 key k) (by rw[hb];exact(key[k]'hkl).toNat_lt)
theorem QkM(key:ByteArray)(w:World)(hs:key.size<=1000):
  Calls Tryz.prog 115 #[.string key] w λen w'=>en=.returned (.int .u32 (hashS key:Int))/\∃q,w'=w.drewN q:=by
 have h0:=show Hid _ from Qex key
 go_enter Tryz.func115,Tryz.ntmps115;go_wp2
 go_loopw [3,4] (λh i wr=>∃(k:Nat),k<=key.size/\i=.int .i64 (k:Int)/\h=.int .u32 (hashTo key k:Int)/\∃q,wr=w.drewN q) (λ_ i _=>key.size-(intOf i).toNat)
 case atStart=>exact⟨0,Nat.zero_le _,rfl,by rw[h0.out];rfl,0,rfl⟩
 case round=>
  obtain⟨k,hk,rfl,rfl,q,rfl⟩:=hrel
  by_cases hkl:k<key.size
  ·have hki:(k:Int)<(key.size:Int):=omQ;have hk0:(0:Int)<=(k:Int):=omQ
   have HS:=show Hid _ from λb hb=>Qju key k b hkl hb
   generalize hashTo key k=hk' at HS ⊢;go_wp2
   go_roundw
   case rel=>exact⟨k+1,by omega,by go_num,congrArg (Value.int .u32) (HS.out _ rfl),q,rfl⟩
   case measure=>simp[intOf];omega
  ·have Hf:=show Hid _ from Qey key k omQ
   go_wp2;go_ret;exact⟨by rw[<-Hf.out];rfl,q,rfl⟩
def kindOf(W:Nat)(t:Int):Int × Int:=
 if t<0\/2*(W:Int)+1<t then(0,0)else if t=0 then(1,0)else if t<=(W:Int)then(2,t-1)else if t<=2*(W:Int)then(3,t-(W:Int)-1)else(4,0)
section
variable {F:Fx} {X:Nat->Prop} {w:World} {m:CM}
theorem cfind(h:CLX F X w m)(t:Int)(h0:-9223372036854775808<=t)(h1:t<=9223372036854775807):
  Calls Tryz.prog 71 #[.pointer (some ⟨F.jb,0,none⟩),.int .i64 t] w λen w'=>en=.returned (.tuple #[.int .i64 (kindOf m.W t).1,.int .i64 (kindOf m.W t).2])/\w'=w:=by
 obtain⟨v3,v4,v5,_,_,c2,_⟩:=h.jobCells;obtain⟨w1,w4⟩:=h.w4;clear h;unfold kindOf;generalize m.W=W at c2 w1 w4 ⊢;generalize F.cS=cS at c2;generalize F.sb=sb at c2;generalize F.jb=jb at c2 ⊢
 by_cases a:t<0
 ·rw[if_pos (.inl a)];go_enter Tryz.func71,Tryz.ntmps71;go_wp2
  go_ret2
  exact⟨rfl,rfl⟩
 ·by_cases b:2*(W:Int)+1<t
  ·rw[if_pos (.inr b)];go_enter Tryz.func71,Tryz.ntmps71;go_wp2
   go_ret2
   exact⟨rfl,rfl⟩
  ·rw[if_neg omQ]
   by_cases e:t=0
   ·subst e;rw[if_pos rfl];go_enter Tryz.func71,Tryz.ntmps71;go_wp2
    go_ret2
    exact⟨rfl,rfl⟩
   ·rw[if_neg e]
    have e':(t==0)=false:=by rw[beq_eq_false_iff_ne];exact e
    by_cases d:t<=(W:Int)
    ·rw[if_pos d];go_enter Tryz.func71,Tryz.ntmps71;go_wp2
     go_ret2
     exact⟨rfl,rfl⟩
    ·rw[if_neg d]
     by_cases g:t<=2*(W:Int)
     ·rw[if_pos g];go_enter Tryz.func71,Tryz.ntmps71;go_wp2
      go_ret2
      exact⟨rfl,rfl⟩
     ·rw[if_neg g];go_enter Tryz.func71,Tryz.ntmps71;go_wp2
      go_ret2
      exact⟨rfl,rfl⟩
theorem coffset(h:CLX F X w m):Calls Tryz.prog 53 #[.pointer (some ⟨F.jb,0,none⟩)] w λen w'=>en=.returned (.int .i64 (m.offset:Int))/\w'=w:=by
 obtain⟨v3,v4,v5,_,_,_,_,_,_,_,_,_,_,c10,_⟩:=h.jobCells;clear h;go_enter Tryz.func53,Tryz.ntmps53;go_wp2;go_ret;exact⟨rfl,rfl⟩
theorem cbetween(h:CLX F X w m)(i k:Nat)(hi:i<m.W)(hk:k<m.W):Calls Tryz.prog 99 #[.pointer (some ⟨F.jb,0,none⟩),.int .i64 (i:Int),.int .i64 (k:Int)] w λen w'=>en=.returned (.pointer (some ⟨F.ib k,i*3,none⟩))/\w'=w:=by
 obtain⟨v3,v4,v5,_,_,_,c3,_⟩:=h.jobCells;obtain⟨a0,_⟩:=h.adderCells k hk;clear h;have e1:(0:Int)<=(i:Int):=omQ;have e2:(0:Int)<=(k:Int):=omQ;have e3:(i:Int)<(m.W:Int):=omQ;have e4:(k:Int)<(m.W:Int):=omQ;clear hi hk;go_enter Tryz.func99,Tryz.ntmps99;go_wp2;go_ret;exact⟨rfl,rfl⟩
theorem Qfn(B kb o:Nat)(t:TypeId)(cs:Array Value)(a:Option Addr)(n c:Nat)(xs:List Value)(w:World)(hP:LAt B 164 8 kb (o+1) t cs a n c xs w):
  Calls Tryz.prog 118 #[.pointer (some ⟨kb,o,none⟩)] w λen w'=>en=.returned (.tuple #[])/\w'=w.setCell ⟨kb,o+1,none⟩ (.slice none 0 0):=by
 have c0:=hP.cell;have z0:=hP.frozen;clear hP;go_enter Tryz.func118,Tryz.ntmps118;go_wp2
 go_end0
 exact⟨rfl,rfl⟩
def workN(m:CM):Nat:=if 2<=m.state/\m.W<=m.laid then 1 else 0
theorem cwork(h:CLX F X w m):Calls Tryz.prog 101 #[.pointer (some ⟨F.jb,0,none⟩)] w λen w'=>en=.returned (.int .i64 (workN m:Int))/\Below w.heap.size w w':=by
 obtain⟨v3,v4,v5,_,_,_,c3,c4,_,c6,_⟩:=h.jobCells;clear h;unfold workN
 by_cases a:2<=m.state
 ·have a':(2:Int)<=(m.state:Int):=omQ
  by_cases b:m.W<=m.laid
  ·have b':(m.W:Int)<=(m.laid:Int):=omQ;rw[if_pos ⟨a,b⟩];clear a b;go_enter Tryz.func101,Tryz.ntmps101;go_wp2
   go_quiet (fail)
   go_wp2;go_ret;exact⟨rfl,below_drewN (Below.refl _ _) _⟩
  ·have b':¬(m.W:Int)<=(m.laid:Int):=omQ;rw[if_neg (λx=>b x.2)];clear a b;go_enter Tryz.func101,Tryz.ntmps101;go_wp2
   go_quiet (fail)
   go_wp2;go_ret;exact⟨rfl,below_drewN (Below.refl _ _) _⟩
 ·have a':decide ((2:Int)<=(m.state:Int))=false:=decide_eq_false omQ;rw[if_neg (λx=>a x.1)];clear a;go_enter Tryz.func101,Tryz.ntmps101;go_wp2
  go_quiet (fail)
  go_wp2;go_ret;exact⟨rfl,below_drewN (Below.refl _ _) _⟩
end
end
end Go.Proofs.YthccpacmklhejabGreatDoor
