import Derived.Test.YthccpacmklhejabGreatDoorTk
import Derived.Test.YthccpacmklhejabGreatDoorK10
import Derived.Test.YthccpacmklhejabGreatDoorK09
set_option maxHeartbeats 1500000
set_option maxRecDepth 100000
namespace Go.Proofs.YthccpacmklhejabGreatDoor
section
open Go.RowKit
def upK(xs:List ItemV)(k:Nat):List ItemV:=(xs.drop 1).take k++xs.drop k
theorem QdF(xs:List ItemV)(k:Nat)(h:k+1<=xs.length):(upK xs k).length=xs.length:=by
 unfold upK;simp;omega
theorem Qfg(xs:List ItemV)(k m:Nat)(h:k+1<=xs.length):(upK xs k)[m]? =if m<k then xs[m+1]? else xs[m]? :=by
 unfold upK
 have hl:((xs.drop 1).take k).length=k:=by simp;omega
 by_cases c:m<k
 ·rw[if_pos c,List.getElem?_append_left omQ,List.getElem?_take,if_pos c,List.getElem?_drop];congr 1;omega
 ·rw[if_neg c,List.getElem?_append_right omQ,hl,List.getElem?_drop];congr 1;omega
theorem QlP(xs:List ItemV)(k:Nat)(h:k+2<=xs.length)(hk:k+1<(upK xs k).length):(upK xs k).set k ((upK xs k)[k+1])=upK xs (k+1)/\(upK xs (k+1))[k+1]? =some ((upK xs k)[k+1]):=by
 have h1:(upK xs k)[k+1]? =xs[k+1]? :=by rw[Qfg xs k _ omQ,if_neg omQ]
 have h2:xs[k+1]? =some ((upK xs k)[k+1]):=by rw[<-h1,List.getElem?_eq_getElem hk]
 refine⟨?_,by rw[Qfg xs _ _ omQ,if_neg omQ,h2]⟩;apply List.ext_getElem?;intro m;rw[List.getElem?_set,QdF xs k omQ,Qfg xs k m omQ,Qfg xs (k+1) m omQ]
 by_cases c:k=m
 ·subst c;rw[if_pos rfl,if_pos omQ,if_pos omQ,h2]
 ·rw[if_neg c]
  by_cases d:m<k
  ·rw[if_pos d,if_pos omQ]
  ·rw[if_neg d,if_neg omQ]
theorem QmJ(xs:List ItemV)(k:Nat)(h:k+1=xs.length):(upK xs k).take k=xs.drop 1:=by
 unfold upK
 have hl:((xs.drop 1).take k).length=k:=by simp;omega
 rw[List.take_append_of_le_length omQ,List.take_of_length_le omQ,List.take_of_length_le (by simp;omega)]
theorem QmK{w:World}{B n g c:Nat}{e:TypeId}{s:Nat}{xs:List Value}(h:w.ownsRow B e s (.slice (some ⟨g,0,none⟩) (n+1) c) (n+1) xs):w.ownsRow B e s (.slice (some ⟨g,0,none⟩) n c) n (xs.take (n*s)):=by
 have hl:n*s<=(n+1)*s:=Nat.mul_le_mul_right _ omQ;refine⟨by rw[List.length_take,h.1];omega,?_⟩
 rcases h.2 with⟨h0,_⟩ | ⟨g',cap,cur,e1,e2,e3,e4,e5,e6,e7⟩
 ·simp at h0
 ·simp only[Value.slice.injEq,Option.some.injEq,Addr.mk.injEq]at e1;obtain⟨⟨rfl,_,_⟩,_,rfl⟩:=e1;refine .inr ⟨g,c,cur,rfl,e2,e3,by omega,e5,e6,?_⟩;rw[<-e7,List.take_take];congr 1;omega
theorem QlQ{w:World}{B c n:Nat}{a:Option Addr}{e:TypeId}{s:Nat}{xs:List Value}(h:w.ownsRow B e s (.slice a n c) n xs):n<=c:=by
 rcases h.2 with⟨h0,h1⟩ | ⟨g,cap,cur,h0,_,_,h3,_⟩
 ·omega
 ·simp at h0;omega
theorem QgY(rs:List ItemV)(n:Nat)(h:n<=rs.length):(itCells rs).take (n*8)=itCells (rs.take n):=by
 have hs:rs=rs.take n++rs.drop n:=(List.take_append_drop n rs).symm
 conv=>lhs;rw[hs]
 rw[QbL,List.take_append_of_le_length (by rw[Qcb,List.length_take];omega),List.take_of_length_le (by rw[Qcb,List.length_take];omega)]
theorem QfX(B kb o:Nat)(t:TypeId)(cs:Array Value)(a:Option Addr)(c:Nat)(x:ItemV)(rs:List ItemV)(w:World)(hlen:rs.length<=1000)(hP:PAt B kb (o+1) t cs a c (x :: rs) w):
  Calls Tryz.prog 97 #[.pointer (some ⟨kb,o,none⟩)] w λen w'=>en=.returned (.tuple #[])/\∃a' c',PUpd B kb (o+1) t cs a c (x :: rs) w a' c' rs w':=by
 rcases Qai hP.own with⟨_,h0⟩ | ⟨g,rfl⟩
 ·simp at h0
 have hkl:kb<w.heap.size:=hP.bl;have hgk:=hP.g_ne;have hkc:w.cell? ⟨kb,o+1,none⟩=some (.slice (some ⟨g,0,none⟩) (rs.length+1) c):=hP.cell
 have H0:=show Hid (PUpd B kb (o+1) t cs (some ⟨g,0,none⟩) c (x :: rs) w (some ⟨g,0,none⟩) c (upK (x :: rs) 0) w)from Upd.refl hP
 have hxl:(x :: rs).length=rs.length+1:=rfl;clear hP
 have hne:(((rs.length:Int)+1)==0)=false:=by rw[beq_eq_false_iff_ne];omega
 generalize hxs:x :: rs=xs at H0 hxl ⊢
 have Hxs:=show Hid (xs.drop 1=rs)from by rw[<-hxs];rfl
 clear hxs;go_enter Tryz.func97,Tryz.ntmps97;go_wp2;clear hkc hne
 go_loopw [2] (λi wr=>∃k:Nat,k+1<=rs.length+1/\i=.int .i64 ((k:Int)+1)/\PUpd B kb (o+1) t cs (some ⟨g,0,none⟩) c xs w (some ⟨g,0,none⟩) c (upK xs k) wr) (λi _=>rs.length+1-(intOf i).toNat)
 case atStart=>exact⟨0,by omega,rfl,H0.out⟩
 case round=>
  obtain⟨k,hk,rfl,hU⟩:=hrel;clear H0;have hul:=QdF xs k omQ
  have hkc:wr.cell? ⟨kb,o+1,none⟩=some (.slice (some ⟨g,0,none⟩) (rs.length+1) c):=by
   have:=hU.at'.cell;rw[hul,hxl]at this;exact this
  by_cases hkl2:k+1<rs.length+1
  ·have hki:(k:Int)+1<(rs.length:Int)+1:=omQ;have hki0:(0:Int)<=(k:Int):=omQ;have hki1:(0:Int)<=(k:Int)+1:=omQ;have hki2:(k:Int)<(rs.length:Int)+1:=omQ;have hk1:k+1<(upK xs k).length:=omQ;have hk0:k<(upK xs k).length:=omQ;obtain⟨hst,hsame⟩:=QlP xs k omQ hk1
   have HS:=show Hid _ from hU.drew
   have hkc':=show wr.drew.cell? ⟨kb,o+1,none⟩=_ from hkc
   clear hU;go_wp2
   obtain⟨wd,hwd⟩:∃wd,wr.drew=wd:=⟨_,rfl⟩
   rw[hwd]at HS hkc';obtain⟨y0,y1,y2,y3,y4,y5,y6,y7⟩:=QgW HS.out.at' (k+1) hk1
   have HF:=show Hid _ from QmI (w:=wd) HS.out k hk0 ((upK xs k)[k+1]) _ _ _ _ _ _ _ _ rfl rfl rfl rfl rfl rfl rfl rfl
   rw[hst]at HF
   obtain⟨y,hy⟩:∃y,(upK xs k)[k+1]=y:=⟨_,rfl⟩
   rw[hy]at y0 y1 y2 y3 y4 y5 y6 y7 HF hsame
   obtain⟨u,hu⟩:∃u,(upK xs k)[k]=u:=⟨_,rfl⟩
   rw[hu]at HF;obtain⟨yb,⟨yo,yk,yq,yv⟩,yp,yl,ys⟩:=y;obtain⟨ub,⟨uo,uk,uq,uv⟩,up,ul,us⟩:=u;simp only at y0 y1 y2 y3 y4 y5 y6 y7 HF;clear hy hu hst
   have hS0:wd.cell? ⟨kb,o+1,none⟩=some (.slice (some ⟨g,0,none⟩) (rs.length+1) c)/\wd.cell? ⟨g,(k+1)*8,none⟩=some (.bool yb)/\wd.cell? ⟨g,(k+1)*8+1,none⟩=some (.int .u8 (yo:Int))/\wd.cell? ⟨g,(k+1)*8+2,none⟩=some (.string yk)/\wd.cell? ⟨g,(k+1)*8+3,none⟩=some (.int .u16 (yq:Int))/\wd.cell? ⟨g,(k+1)*8+4,none⟩=some (.int .i16 yv)/\wd.cell? ⟨g,(k+1)*8+5,none⟩=some (.int .i32 yp)/\wd.cell? ⟨g,(k+1)*8+6,none⟩=some (.int .i64 yl)/\wd.cell? ⟨g,(k+1)*8+7,none⟩=some (.int .i16 ys):=⟨hkc',y0,y1,y2,y3,y4,y5,y6,y7⟩
   clear y0 y1 y2 y3 y4 y5 y6 y7 hkc' hkc;refine wp_region_held_drew (S:=λw':World=>w'.cell? ⟨kb,o+1,none⟩=some (.slice (some ⟨g,0,none⟩) (rs.length+1) c)/\w'.cell? ⟨g,(k+1)*8,none⟩=some (.bool yb)/\w'.cell? ⟨g,(k+1)*8+1,none⟩=some (.int .u8 (yo:Int))/\w'.cell? ⟨g,(k+1)*8+2,none⟩=some (.string yk)/\w'.cell? ⟨g,(k+1)*8+3,none⟩=some (.int .u16 (yq:Int))/\w'.cell? ⟨g,(k+1)*8+4,none⟩=some (.int .i16 yv)/\w'.cell? ⟨g,(k+1)*8+5,none⟩=some (.int .i32 yp)/\w'.cell? ⟨g,(k+1)*8+6,none⟩=some (.int .i64 yl)/\w'.cell? ⟨g,(k+1)*8+7,none⟩=some (.int .i16 ys)) krQ (hwd ▸ hS0) (λhH=>?_);rw[hwd]at hH ⊢;refine tkQ 0 (.pointer (some ⟨kb,o,none⟩)) hH ?_;refine tkQ 1 (.pointer (some ⟨kb,o,none⟩)) hH ?_;refine tkQ 2 (.pointer (some ⟨kb,o+1,none⟩)) hH ?_;refine tlQ 3 (.slice (some ⟨g,0,none⟩) (rs.length+1) c) rfl (by intro v hSw;have s0:v.cell? ⟨kb,o+1,none⟩=some (.slice (some ⟨g,0,none⟩) (rs.length+1) c):=hSw.1;clear hSw;go_simp) hH ?_;refine tkQ 4 (.int .i64 ((k:Int)+1)) hH ?_;refine tlQ 5 (.int .i64 (k:Int)) rfl (by intro v hSw;clear hSw;go_simp;first | done | (rw[IntWalk.i64_in _ ⟨by omega,by omega⟩];first | done | (congr 2;omega))) hH ?_;refine tkQ 6 (.pointer (some ⟨kb,o,none⟩)) hH ?_;refine tkQ 7 (.pointer (some ⟨kb,o,none⟩)) hH ?_;refine tkQ 8 (.pointer (some ⟨kb,o+1,none⟩)) hH ?_;refine tlQ 9 (.slice (some ⟨g,0,none⟩) (rs.length+1) c) rfl (by intro v hSw;have s0:v.cell? ⟨kb,o+1,none⟩=some (.slice (some ⟨g,0,none⟩) (rs.length+1) c):=hSw.1;clear hSw;go_simp) hH ?_;refine tkQ 10 (.int .i64 ((k:Int)+1)) hH ?_;refine tkQ 11 (.pointer (some ⟨g,(k+1)*8,none⟩)) hH ?_;refine tlQ 12 (.agg #[.bool yb,.int .u8 (yo:Int),.string yk,.int .u16 (yq:Int),.int .i16 yv,.int .i32 yp,.int .i64 yl,.int .i16 ys]) rfl (by intro v hSw;have t0:=hSw.2.1;have t1:=hSw.2.2.1;have t2:=hSw.2.2.2.1;have t3:=hSw.2.2.2.2.1;have t4:=hSw.2.2.2.2.2.1;have t5:=hSw.2.2.2.2.2.2.1;have t6:=hSw.2.2.2.2.2.2.2.1;have t7:=hSw.2.2.2.2.2.2.2.2;clear hSw;go_simp) hH ?_;refine tkQ 13 (.pointer (some ⟨g,k*8,none⟩)) hH ?_;refine rdQ [14] ?_
   refine arQ λK hK=>?_
   have f0:=HF.out.1.1;have f1:=HF.out.1.2.1;have f2:=HF.out.1.2.2.1;have f3:=HF.out.1.2.2.2.1;have f4:=HF.out.1.2.2.2.2.1;have f5:=HF.out.1.2.2.2.2.2.1;have f6:=HF.out.1.2.2.2.2.2.2.1;have f7:=HF.out.1.2.2.2.2.2.2.2;have z0:=HF.out.2.1.1;have z1:=HF.out.2.1.2.1;have z2:=HF.out.2.1.2.2.1;have z3:=HF.out.2.1.2.2.2.1;have z4:=HF.out.2.1.2.2.2.2.1;have z5:=HF.out.2.1.2.2.2.2.2.1;have z6:=HF.out.2.1.2.2.2.2.2.2.1;have z7:=HF.out.2.1.2.2.2.2.2.2.2;clear hH hS0;go_simp
   have HF2:=show Hid (_/\_)from HF.out.2.2
   clear HF f0 f1 f2 f3 f4 f5 f6 f7 z0 z1 z2 z3 z4 z5 z6 z7;have hul2:=QdF xs (k+1) omQ;obtain⟨t0,t1,t2,t3,t4,t5,t6,t7⟩:=QgW HF2.out.1.at' (k+1) omQ
   have hsame':(upK xs (k+1))[k+1]'omQ=⟨yb,⟨yo,yk,yq,yv⟩,yp,yl,ys⟩:=by
    rw[List.getElem?_eq_getElem omQ]at hsame;exact Option.some.inj hsame
   rw[hsame']at t0 t1 t2 t3 t4 t5 t6 t7;have hkb6:=HF2.out.1.at'.cell;rw[hul2,hxl]at hkb6
   have HK6:=show Hid _ from HF2.out.1
   clear HF2;refine hK.out _ _ ⟨hkb6,t0,t1,t2,t3,t4,t5,t6,t7⟩ (λhH=>?_);clear hK K hH hkb6 t0 t1 t2 t3 t4 t5 t6 t7 hsame hsame' HS hul2;refine wpAnyH_done krQ ?_ _;generalize((((((((wd.setCell ⟨g,k*8,none⟩ (.bool yb)).setCell ⟨g,k*8+1,none⟩ (.int .u8 (yo:Int))).setCell ⟨g,k*8+2,none⟩ (.string yk)).setCell ⟨g,k*8+3,none⟩ (.int .u16 (yq:Int))).setCell ⟨g,k*8+4,none⟩ (.int .i16 yv)).setCell ⟨g,k*8+5,none⟩ (.int .i32 yp)).setCell ⟨g,k*8+6,none⟩ (.int .i64 yl)).setCell ⟨g,k*8+7,none⟩ (.int .i16 ys))=w7 at HK6 ⊢;go_wp2
   go_roundw
   case rel=>exact⟨k+1,by omega,by go_num,HK6.out⟩
   case measure=>simp[intOf];omega
  ·have hke:k=rs.length:=omQ;have hki:¬(k:Int)+1<(rs.length:Int)+1:=omQ;have hkc':wr.drew.cell? ⟨kb,o+1,none⟩=some (.slice (some ⟨g,0,none⟩) (rs.length+1) c):=hkc;have hfz:wr.drew.frozen? ⟨kb,o+1,none⟩=false:=hU.at'.drew.frozen
   have HU:=show Hid _ from hU.drew
   clear hU;go_wp2;have hr0:(0:Int)<=(rs.length:Int):=omQ
   have hcap:rs.length+1<=c:=by
    have:=QlQ HU.out.at'.own;omega
   have hcapi:(rs.length:Int)<=(c:Int):=omQ;refine wp_region_held_drew (S:=λ_:World=>True) krQ trivial (λhH=>?_);generalize wr.drew=wd at HU hkc' hfz hH ⊢;refine tkQ 0 (.pointer (some ⟨kb,o,none⟩)) hH ?_;refine tkQ 1 (.pointer (some ⟨kb,o,none⟩)) hH ?_;refine tkQ 2 (.pointer (some ⟨kb,o,none⟩)) hH ?_;refine tkQ 3 (.pointer (some ⟨kb,o+1,none⟩)) hH ?_;refine tkQ 5 (.pointer (some ⟨kb,o,none⟩)) hH ?_;refine tkQ 6 (.pointer (some ⟨kb,o,none⟩)) hH ?_;refine tkQ 7 (.pointer (some ⟨kb,o+1,none⟩)) hH ?_;refine rdQ [4,8] ?_;refine AllReadyH.cons rfl (λK hK=>?_) (arQ λK hK=>?_)
   focus
    clear hH;go_simp;refine hK.out _ _ trivial (λhH=>?_);clear hK K;refine rdQ [8] ?_
    refine arQ λK hK=>?_
    clear hH;go_simp;refine hK.out _ _ trivial (λhH=>?_);clear hK K;refine tkQ 9 (.int .i64 (((rs.length+1:Nat)):Int)) hH ?_;refine tlQ 10 (.int .i64 (rs.length:Int)) rfl (by intro v hSw;clear hSw;go_simp;first | done | (rw[IntWalk.i64_in _ ⟨by omega,by omega⟩];first | done | (congr 2;omega))) hH ?_
   rotate_left
   focus
    clear hH;go_simp;refine hK.out _ _ trivial (λhH=>?_);clear hK K;refine tkQ 9 (.int .i64 (((rs.length+1:Nat)):Int)) hH ?_;refine tlQ 10 (.int .i64 (rs.length:Int)) rfl (by intro v hSw;clear hSw;go_simp;first | done | (rw[IntWalk.i64_in _ ⟨by omega,by omega⟩];first | done | (congr 2;omega))) hH ?_;refine rdQ [4] ?_
    refine arQ λK hK=>?_
    clear hH;go_simp;refine hK.out _ _ trivial (λhH=>?_);clear hK K
   all_goals
    refine tkQ 11 (.slice (some ⟨g,0,none⟩) rs.length c) hH ?_;refine tkQ 12 (.pointer (some ⟨kb,o,none⟩)) hH ?_;refine tkQ 13 (.pointer (some ⟨kb,o+1,none⟩)) hH ?_;refine rdQ [14] ?_
    refine arQ λK hK=>?_
    clear hH;go_simp
    have hcut:=QmK (n:=rs.length) (by
     have:=HU.out.at'.own;rw[hul,hxl]at this
     exact this)
    rw[QgY _ _ omQ,<-hke,QmJ xs k omQ,Hxs.out,hke]at hcut;have hput:=LAt.put HU.out.at' (a':=some ⟨g,0,none⟩) (n':=rs.length) (c':=c) hcut ⟨rfl,rfl,rfl,Nat.le_refl _,λ_ _ _=>rfl⟩ (λ_ hg=>.inl hg)
    have HFin:=show Hid _ from HU.out.trans hput.2
    refine hK.out _ _ trivial (λhH=>?_);clear hK K hH hput hcut HU;refine wpAnyH_done krQ ?_ _;generalize wd.setCell ⟨kb,o+1,none⟩ (.slice (some ⟨g,0,none⟩) rs.length c)=w9 at HFin ⊢;go_wp2
    go_end0
    exact⟨rfl,some ⟨g,0,none⟩,c,HFin.out⟩
abbrev KAt (B kb o:Nat) (t:TypeId) (cs:Array Value) (a:Option Addr) (c:Nat) (rs:List EV) (w:World):Prop:=LAt B 182 4 kb o t cs a rs.length c (entCells rs) w
abbrev KUpd (B kb o:Nat) (t:TypeId) (cs:Array Value) (a:Option Addr) (c:Nat) (rs:List EV) (w:World) (a':Option Addr) (c':Nat) (rs':List EV) (w':World):Prop:=Upd B 182 4 kb o t cs a rs.length c w a' rs'.length c' (entCells rs') w'
theorem entFill(rs:List EV)(n:Nat)(h:n<rs.length)(x:EV):((((entCells rs).set (n*4) (.string x.name)).set (n*4+1) (.int .u16 (x.seq:Int))).set (n*4+2) (.int .i64 x.live)).set (n*4+3) (.int .i16 x.value)=entCells (rs.set n x):=by
 have hs:rs=rs.take n++rs[n] :: rs.drop (n+1):=by rw[<-List.drop_eq_getElem_cons h,List.take_append_drop]
 have hset:rs.set n x=rs.take n++x :: rs.drop (n+1):=by rw[List.set_eq_take_append_cons_drop,if_pos h]
 rw[hset];generalize rs[n]=r at hs;generalize hT:rs.take n=T at hs;generalize rs.drop (n+1)=D at hs
 have hTl:T.length=n:=by rw[<-hT,List.length_take];omega
 have hlen:(entCells T).length=n*4:=by rw[Qfe,hTl]
 subst hs
 have hc:∀r':EV,entCells (r' :: D)=entCells1 r'++entCells D:=λr'=>by simp[entCells]
 rw[Qb3,Qb3,hc,hc];rw[List.set_append_right _ _ omQ,List.set_append_right _ _ omQ,List.set_append_right _ _ omQ,List.set_append_right _ _ omQ,hlen];rw[show n*4-n*4=0 from by omega,show n*4+1-n*4=1 from by omega,show n*4+2-n*4=2 from by omega,show n*4+3-n*4=3 from by omega]
 rfl
theorem KUpd.fill{B kb o:Nat}{t:TypeId}{cs:Array Value}{a:Option Addr}{c:Nat}{ks:List EV}{w0:World}{g c':Nat}{rs:List EV}{w:World}(h:KUpd B kb o t cs a c ks w0 (some ⟨g,0,none⟩) c' rs w)(n:Nat)(hn:n<rs.length)(x:EV):
  (w.cell? ⟨g,n*4,none⟩=some (.string rs[n].name)/\(w.setCell ⟨g,n*4,none⟩ (.string x.name)).cell? ⟨g,n*4+1,none⟩=some (.int .u16 (rs[n].seq:Int))/\
   ((w.setCell ⟨g,n*4,none⟩ (.string x.name)).setCell ⟨g,n*4+1,none⟩ (.int .u16 (x.seq:Int))).cell? ⟨g,n*4+2,none⟩=some (.int .i64 rs[n].live)/\
   (((w.setCell ⟨g,n*4,none⟩ (.string x.name)).setCell ⟨g,n*4+1,none⟩ (.int .u16 (x.seq:Int))).setCell ⟨g,n*4+2,none⟩ (.int .i64 x.live)).cell? ⟨g,n*4+3,none⟩=some (.int .i16 rs[n].value))/\
  (w.frozen? ⟨g,n*4,none⟩=false/\(w.setCell ⟨g,n*4,none⟩ (.string x.name)).frozen? ⟨g,n*4+1,none⟩=false/\
   ((w.setCell ⟨g,n*4,none⟩ (.string x.name)).setCell ⟨g,n*4+1,none⟩ (.int .u16 (x.seq:Int))).frozen? ⟨g,n*4+2,none⟩=false/\
   (((w.setCell ⟨g,n*4,none⟩ (.string x.name)).setCell ⟨g,n*4+1,none⟩ (.int .u16 (x.seq:Int))).setCell ⟨g,n*4+2,none⟩ (.int .i64 x.live)).frozen? ⟨g,n*4+3,none⟩=false)/\
  KUpd B kb o t cs a c ks w0 (some ⟨g,0,none⟩) c' (rs.set n x) ((((w.setCell ⟨g,n*4,none⟩ (.string x.name)).setCell ⟨g,n*4+1,none⟩ (.int .u16 (x.seq:Int))).setCell ⟨g,n*4+2,none⟩ (.int .i64 x.live)).setCell ⟨g,n*4+3,none⟩ (.int .i16 x.value))/\
  w.grownBy ((((w.setCell ⟨g,n*4,none⟩ (.string x.name)).setCell ⟨g,n*4+1,none⟩ (.int .u16 (x.seq:Int))).setCell ⟨g,n*4+2,none⟩ (.int .i64 x.live)).setCell ⟨g,n*4+3,none⟩ (.int .i16 x.value)) (some g):=by
 have hat:∀j,j<4->(entCells rs)[n*4+j]? =(entCells1 rs[n])[j]? :=λj hj=>Qbv rs n hn j hj
 have r1:=h.store (n*4) (.string x.name);have r2:=r1.store (n*4+1) (.int .u16 (x.seq:Int));have r3:=r2.store (n*4+2) (.int .i64 x.live);have r4:=r3.store (n*4+3) (.int .i16 x.value);have q0:=(h.at'.at (n*4) omQ).trans (hat 0 (by decide));have q1:=(r1.at'.at (n*4+1) omQ).trans ((List.getElem?_set_ne omQ).trans (hat 1 (by decide)));have q2:=(r2.at'.at (n*4+2) omQ).trans ((List.getElem?_set_ne omQ).trans ((List.getElem?_set_ne omQ).trans (hat 2 (by decide))));have q3:=(r3.at'.at (n*4+3) omQ).trans ((List.getElem?_set_ne omQ).trans ((List.getElem?_set_ne omQ).trans ((List.getElem?_set_ne omQ).trans (hat 3 (by decide)))));have hgrow:=QaB (QaB (QaB (Qak w g (n*4) (.string x.name)) (Qak _ g (n*4+1) (.int .u16 (x.seq:Int)))) (Qak _ g (n*4+2) (.int .i64 x.live))) (Qak _ g (n*4+3) (.int .i16 x.value));refine⟨⟨q0,q1,q2,q3⟩,⟨h.at'.frozenAt _,r1.at'.frozenAt _,r2.at'.frozenAt _,r3.at'.frozenAt _⟩,?_,hgrow⟩;rw[entFill rs n hn x]at r4
 have hl:rs.length=(rs.set n x).length:=by rw[List.length_set]
 unfold KUpd;rw[<-hl];exact r4
theorem Tryz.infoEnt:(Tryz.prog.info? 182).map (λi=>(i.zero,i.size,i.bytes))=some (some (.agg #[.string ⟨#[]⟩,.int .u16 0,.int .i64 0,.int .i16 0]),4,40):=by kernel_rfl
theorem QhO(r:EV):∀u∈entCells1 r,u.oneCell'=true:=by
 intro u hu;simp[entCells1]at hu
 rcases hu with rfl | rfl | rfl | rfl<;>rfl
def cntE(rs:List EV)(e:Ev):Bool:=if h:plcE rs e.key<rs.length then decide (0<wrap16 ((e.seq:Int)-((rs[plcE rs e.key]).seq:Int)))else true
theorem QiP(rs:List EV)(key:ByteArray):plcE rs key<=rs.length:=List.findIdx_le_length
theorem Qdb(B kb o:Nat)(t:TypeId)(cs:Array Value)(a:Option Addr)(c:Nat)(rs:List EV)(e:Ev)(w:World)(hlen:rs.length<=1000)(hK:KAt B kb o t cs a c rs w):
  Calls Tryz.prog 96 #[.pointer (some ⟨kb,o,none⟩),e.value] w λen w'=>en=.returned (.bool (cntE rs e))/\Below w.heap.size w w':=by
 obtain⟨op,key,seq,val⟩:=e;unfold cntE;simp only
 have HK:=show Hid _ from hK.alloc (.cells #[.int .u8 (op:Int),.string key,.int .u16 (seq:Int),.int .i16 val] 40)
 have heb:=heap_alloc_new w (.cells #[.int .u8 (op:Int),.string key,.int .u16 (seq:Int),.int .i16 val] 40)
 have Hb:=show Hid _ from(Below.refl w.heap.size w).alloc (Nat.le_refl _) (.cells #[.int .u8 (op:Int),.string key,.int .u16 (seq:Int),.int .i16 val] 40)
 clear hK
 have HP:=show Hid _ from λ(w:World) (hb:w.cell? ⟨kb,o,none⟩=some (.slice a rs.length c)) (ho:w.ownsRow B 182 4 (.slice a rs.length c) rs.length (entCells rs))=>Qff kb o a c rs key B w hlen hb ho
 unfold Ev.value
 by_cases hm:plcE rs key<rs.length
 ·rw[dif_pos hm]
  have hN:Hid (∀w,Calls Tryz.prog 116 #[.int .u16 (seq:Int),.int .u16 ((rs[plcE rs key]'hm).seq:Int)] w λen w'=>en=.returned (.bool (decide (0<wrap16 ((seq:Int)-((rs[plcE rs key]'hm).seq:Int)))))/\∃m,w'=w.drewN m):=by
   intro w
   exact(Qkr seq (rs[plcE rs key]'hm).seq w).mono λen w' ⟨h1,h2⟩=>⟨h1,0,by rw[h2];rfl⟩
  have hat:=Qbv rs (plcE rs key) hm 1 (by decide);have e1:(entCells1 (rs[plcE rs key]'hm))[1]? =some (.int .u16 ((rs[plcE rs key]'hm).seq:Int)):=rfl;rw[e1]at hat;clear e1;generalize decide (0<wrap16 ((seq:Int)-((rs[plcE rs key]'hm).seq:Int)))=ans at hN;generalize(rs[plcE rs key]'hm).seq=q at hN hat;generalize plcE rs key=m at hm hat HP
  rcases Qai HK.out.own with⟨_,h0⟩ | ⟨g,rfl⟩
  ·omega
  go_enter Tryz.func96,Tryz.ntmps96
  go_wp2_with fail
  generalize(w.alloc (.cells #[.int .u8 (op:Int),.string key,.int .u16 (seq:Int),.int .i16 val] 40))=w1 at HK heb Hb ⊢;refine(HP.out w1 HK.out.cell HK.out.own).mono ?_;rintro en w2 ⟨rfl,rfl⟩;have hkc:=HK.out.cell;have hsq:w2.cell? ⟨w.heap.size,2,none⟩=some (.int .u16 (seq:Int)):=Qaa heb 2;have hrq:w2.cell? ⟨g,m*4+1,none⟩=some (.int .u16 (q:Int)):=(HK.out.at (m*4+1) omQ).trans hat
  have hne:((m:Int)==(rs.length:Int))=false:=by rw[beq_eq_false_iff_ne];omega
  have hmi:(m:Int)<(rs.length:Int):=omQ;have hm0:(0:Int)<=(m:Int):=omQ;clear HP hat heb HK hm;go_wp2
  go_quiet (first | (go_at_call 116;refine Calls.quiet_of (hN.out _)))
  go_wp2;go_ret;exact⟨rfl,below_drewN Hb.out nq⟩
 ·rw[dif_neg hm]
  have hmm:plcE rs key=rs.length:=by have:=QiP rs key;omega
  generalize plcE rs key=m at hmm HP;go_enter Tryz.func96,Tryz.ntmps96
  go_wp2_with fail
  generalize(w.alloc (.cells #[.int .u8 (op:Int),.string key,.int .u16 (seq:Int),.int .i16 val] 40))=w1 at HK heb Hb ⊢;refine(HP.out w1 HK.out.cell HK.out.own).mono ?_;rintro en w2 ⟨rfl,rfl⟩;have hkc:=HK.out.cell
  have hne:((m:Int)==(rs.length:Int))=true:=by rw[beq_iff_eq];omega
  clear HP heb HK hmm hm;go_wp2
  go_quiet (fail)
  go_wp2;go_ret;exact⟨rfl,below_drewN Hb.out nq⟩
end
end Go.Proofs.YthccpacmklhejabGreatDoor
