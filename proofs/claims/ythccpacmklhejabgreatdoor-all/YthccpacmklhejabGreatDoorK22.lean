import Derived.Test.YthccpacmklhejabGreatDoorTk
import Derived.Test.YthccpacmklhejabGreatDoorK21
set_option maxHeartbeats 2000000
set_option maxRecDepth 100000
namespace Go.Proofs.YthccpacmklhejabGreatDoor
section
open Go.RowKit
theorem aFirst(m:CM)(k q:Nat)(hk:k<m.W)(hq:q<m.W)(hl:(m.ap k q).length<=1000):∃x b,((m.ap k q=[]/\b=false)\/(∃rs,m.ap k q=x :: rs/\b=true))/\∀(F:Fx) (X:Nat->Prop) (w:World),CLX F X w m->Calls Tryz.prog 94 #[.pointer (some ⟨F.ib k,q*3,none⟩)] w λen w'=>en=.returned (.tuple #[itV x,.bool b])/\Below w.heap.size w w':=by
 cases he:m.ap k q with
 | nil=>exact⟨⟨false,ev0,0,0,0⟩,false,.inl ⟨rfl,rfl⟩,λF X w h=>Qh4 h k q hk hq he⟩
 | cons x rs=>
  rw[he]at hl;exact⟨x,true,.inr ⟨rs,rfl,rfl⟩,λF X w h=>Qdg h k q hk hq he (by simp at hl;omega)⟩
section
variable {F:Fx} {X:Nat->Prop} {w:World} {m:CM}
theorem Qia(h:CLX F X w m)(k:Nat)(hk:k<m.W)(hlen:∀q,q<m.W->(m.ap k q).length<=1000)(hprev:∀q,q<m.W->m.st k q=true\/m.ap k q=[]):Calls Tryz.prog 74 #[.pointer (some ⟨F.jb,0,none⟩),.int .i64 (k:Int)] w λen w'=>en=.returned (.int .i64 8)/\Below w.heap.size w w':=by
 have HX0:=show Hid (CLX F X w m)from h
 have hw4:m.W<=4:=h.w4.2;have c3:=h.adderSlice;have hki:(k:Int)<(m.W:Int):=omQ;have hk0:(0:Int)<=(k:Int):=omQ;clear h;go_enter Tryz.func74,Tryz.ntmps74;go_wp2;clear c3
 go_loopw [6] (λv wr=>∃j:Nat,j<=m.W/\v=.int .i64 (j:Int)/\Below w.heap.size w wr) (λv _=>m.W-(intOf v).toNat)
 case atStart=>exact⟨0,Nat.zero_le _,rfl,Below.refl _ _⟩
 case round=>
  obtain⟨j,hj,rfl,hbr⟩:=hrel
  have HX:=show Hid (CLX F X wr m)from HX0.out.below hbr
  have HR:=show Hid (Below w.heap.size w wr)from hbr
  have a0:=(HX.out.adderCells k hk).1;clear hbr
  by_cases hjW:j<m.W
  ·obtain⟨_,i1,_⟩:=HX.out.inletCells k j hk hjW;obtain⟨x,b,hxb,HF0⟩:=aFirst m k j hk hjW (hlen j hjW);have HF:=hdQ HF0;clear HF0;obtain⟨xb,⟨xo,xk,xq,xv⟩,xp,xl,xs⟩:=x;unfold itV itCells1 at HF;simp only at HF;have hji:(j:Int)<(m.W:Int):=omQ;have hj0:(0:Int)<=(j:Int):=omQ
   cases hst:m.st k j with
   | true=>
    rw[hst]at i1
    go_wp2_with(go_at_call 94;refine(HF.out _ _ _ HX.out).mono ?_;rintro en w2 ⟨rfl,hb2⟩;obtain⟨w1,hw1⟩:∃w1,w2.alloc (.cells #[.bool false,.int .u8 0,.string ⟨#[]⟩,.int .u16 0,.int .i16 0,.int .i32 0,.int .i64 0,.int .i16 0] 164)=w1:=⟨_,rfl⟩;obtain⟨hnb,hb1,⟨d0,d1,d2,d3,d4,d5,d6,d7⟩,⟨z0,z1,z2,z3,z4,z5,z6,z7⟩⟩:=itemNew hw1;have HB2:=show Hid (ItAt F X m wr #[.bool xb,.int .u8 (xo:Int),.string xk,.int .u16 (xq:Int),.int .i16 xv,.int .i32 xp,.int .i64 xl,.int .i16 xs] w2.heap.size ((((((((w1.setCell ⟨w2.heap.size,0,none⟩ (.bool xb)).setCell ⟨w2.heap.size,1,none⟩ (.int .u8 (xo:Int))).setCell ⟨w2.heap.size,2,none⟩ (.string xk)).setCell ⟨w2.heap.size,3,none⟩ (.int .u16 (xq:Int))).setCell ⟨w2.heap.size,4,none⟩ (.int .i16 xv)).setCell ⟨w2.heap.size,5,none⟩ (.int .i32 xp)).setCell ⟨w2.heap.size,6,none⟩ (.int .i64 xl)).setCell ⟨w2.heap.size,7,none⟩ (.int .i16 xs))/\wr.heap.size<=w2.heap.size)from⟨⟨hb2.trans ((Qar hb1 (Nat.le_refl _) (.bool xb) (.int .u8 (xo:Int)) (.string xk) (.int .u16 (xq:Int)) (.int .i16 xv) (.int .i32 xp) (.int .i64 xl) (.int .i16 xs)).mono hb2.size),(HX.out.below hb2).below (Qar hb1 (Nat.le_refl _) (.bool xb) (.int .u8 (xo:Int)) (.string xk) (.int .u16 (xq:Int)) (.int .i16 xv) (.int .i32 xp) (.int .i64 xl) (.int .i16 xs)),itemSet hnb (.bool xb) (.int .u8 (xo:Int)) (.string xk) (.int .u16 (xq:Int)) (.int .i16 xv) (.int .i32 xp) (.int .i64 xl) (.int .i16 xs),λhx=>by have:=HX.out.lt _ hx;have:=hb2.size;omega⟩,hb2.size⟩;have i1':(((((((((w1.setCell ⟨w2.heap.size,0,none⟩ (.bool xb)).setCell ⟨w2.heap.size,1,none⟩ (.int .u8 (xo:Int))).setCell ⟨w2.heap.size,2,none⟩ (.string xk)).setCell ⟨w2.heap.size,3,none⟩ (.int .u16 (xq:Int))).setCell ⟨w2.heap.size,4,none⟩ (.int .i16 xv)).setCell ⟨w2.heap.size,5,none⟩ (.int .i32 xp)).setCell ⟨w2.heap.size,6,none⟩ (.int .i64 xl)).setCell ⟨w2.heap.size,7,none⟩ (.int .i16 xs))).cell? ⟨F.ib k,j*3+2,none⟩=some (.bool (m.st k j)):=(HB2.out.1.2.1.inletCells k j hk hjW).2.1;clear hb1 hb2 hnb)
    go_roundw
    case rel=>exact⟨j+1,by omega,by go_num,HR.out.trans (HB2.out.1.1.mono HR.out.size)⟩
    case measure=>simp[intOf];omega
   | false=>
    have hb:b=false:=by
     rcases hxb with⟨_,hb⟩ | ⟨rs,hr,_⟩
     ·exact hb
     ·rcases hprev j hjW with h | h
      ·rw[hst]at h;cases h
      ·rw[hr]at h;cases h
    subst hb;rw[hst]at i1
    go_wp2_with(go_at_call 94;refine(HF.out _ _ _ HX.out).mono ?_;rintro en w2 ⟨rfl,hb2⟩;obtain⟨w1,hw1⟩:∃w1,w2.alloc (.cells #[.bool false,.int .u8 0,.string ⟨#[]⟩,.int .u16 0,.int .i16 0,.int .i32 0,.int .i64 0,.int .i16 0] 164)=w1:=⟨_,rfl⟩;obtain⟨hnb,hb1,⟨d0,d1,d2,d3,d4,d5,d6,d7⟩,⟨z0,z1,z2,z3,z4,z5,z6,z7⟩⟩:=itemNew hw1;have HB2:=show Hid (ItAt F X m wr #[.bool xb,.int .u8 (xo:Int),.string xk,.int .u16 (xq:Int),.int .i16 xv,.int .i32 xp,.int .i64 xl,.int .i16 xs] w2.heap.size ((((((((w1.setCell ⟨w2.heap.size,0,none⟩ (.bool xb)).setCell ⟨w2.heap.size,1,none⟩ (.int .u8 (xo:Int))).setCell ⟨w2.heap.size,2,none⟩ (.string xk)).setCell ⟨w2.heap.size,3,none⟩ (.int .u16 (xq:Int))).setCell ⟨w2.heap.size,4,none⟩ (.int .i16 xv)).setCell ⟨w2.heap.size,5,none⟩ (.int .i32 xp)).setCell ⟨w2.heap.size,6,none⟩ (.int .i64 xl)).setCell ⟨w2.heap.size,7,none⟩ (.int .i16 xs))/\wr.heap.size<=w2.heap.size)from⟨⟨hb2.trans ((Qar hb1 (Nat.le_refl _) (.bool xb) (.int .u8 (xo:Int)) (.string xk) (.int .u16 (xq:Int)) (.int .i16 xv) (.int .i32 xp) (.int .i64 xl) (.int .i16 xs)).mono hb2.size),(HX.out.below hb2).below (Qar hb1 (Nat.le_refl _) (.bool xb) (.int .u8 (xo:Int)) (.string xk) (.int .u16 (xq:Int)) (.int .i16 xv) (.int .i32 xp) (.int .i64 xl) (.int .i16 xs)),itemSet hnb (.bool xb) (.int .u8 (xo:Int)) (.string xk) (.int .u16 (xq:Int)) (.int .i16 xv) (.int .i32 xp) (.int .i64 xl) (.int .i16 xs),λhx=>by have:=HX.out.lt _ hx;have:=hb2.size;omega⟩,hb2.size⟩;have i1':(((((((((w1.setCell ⟨w2.heap.size,0,none⟩ (.bool xb)).setCell ⟨w2.heap.size,1,none⟩ (.int .u8 (xo:Int))).setCell ⟨w2.heap.size,2,none⟩ (.string xk)).setCell ⟨w2.heap.size,3,none⟩ (.int .u16 (xq:Int))).setCell ⟨w2.heap.size,4,none⟩ (.int .i16 xv)).setCell ⟨w2.heap.size,5,none⟩ (.int .i32 xp)).setCell ⟨w2.heap.size,6,none⟩ (.int .i64 xl)).setCell ⟨w2.heap.size,7,none⟩ (.int .i16 xs))).cell? ⟨F.ib k,j*3+2,none⟩=some (.bool (m.st k j)):=(HB2.out.1.2.1.inletCells k j hk hjW).2.1;clear hb1 hb2 hnb)
    go_roundw
    case rel=>exact⟨j+1,by omega,by go_num,HR.out.trans (HB2.out.1.1.mono HR.out.size)⟩
    case measure=>simp[intOf];omega
  ·have hji:¬(j:Int)<(m.W:Int):=omQ;go_wp2;go_ret;exact⟨rfl,HR.out⟩
theorem Qfq(h:CLX F X w m)(k:Nat)(hk:k<m.W)(hlen:∀q,q<m.W->(m.ap k q).length<=1000)(q0:Nat)(hq0:q0<m.W)(hprev:∀q,q<q0->m.st k q=true\/m.ap k q=[])(hst0:m.st k q0=false){x:ItemV}{rs:List ItemV}(he:m.ap k q0=x :: rs)(hxb:x.bar=true){m':CM}
  (hc:∀X' w',CLX F X' w' {m with ap:=updF2 m.ap k q0 rs,st:=updF2 m.st k q0 true}->Calls Tryz.prog 100 #[.pointer (some ⟨F.jb,0,none⟩),.pointer (some ⟨F.ab,k*2,none⟩)] w' λen w''=>en=.returned (.tuple #[])/\Aft F X' w' m' w''):
  Calls Tryz.prog 74 #[.pointer (some ⟨F.jb,0,none⟩),.int .i64 (k:Int)] w λen w'=>en=.returned (.int .i64 0)/\Aft F X w m' w':=by
 have HC:=hdQ hc;clear hc
 have hrl:rs.length<=1000:=by have:=hlen q0 hq0;rw[he]at this;simp at this;omega
 have HT:=show Hid _ from λ(w':World) (h':CLX F X w' m)=>aTake h' k q0 hk hq0 he hrl
 have HF2:=show Hid _ from λ(F:Fx) (X:Nat->Prop) (w:World) (h':CLX F X w m)=>Qdg h' k q0 hk hq0 he hrl
 clear hrl
 have HX0:=show Hid (CLX F X w m)from h
 have hw4:m.W<=4:=h.w4.2;have c3:=h.adderSlice;have hki:(k:Int)<(m.W:Int):=omQ;have hk0:(0:Int)<=(k:Int):=omQ;clear h;go_enter Tryz.func74,Tryz.ntmps74;go_wp2;clear c3
 go_loopw [6] (λv wr=>∃j:Nat,j<=q0/\v=.int .i64 (j:Int)/\Below w.heap.size w wr) (λv _=>m.W-(intOf v).toNat)
 case atStart=>exact⟨0,Nat.zero_le _,rfl,Below.refl _ _⟩
 case round=>
  obtain⟨j,hj,rfl,hbr⟩:=hrel
  have HX:=show Hid (CLX F X wr m)from HX0.out.below hbr
  have HR:=show Hid (Below w.heap.size w wr)from hbr
  have a0:=(HX.out.adderCells k hk).1;have hjW:j<m.W:=omQ;obtain⟨_,i1,_⟩:=HX.out.inletCells k j hk hjW;clear hbr
  by_cases hjq:j<q0
  ·clear HC HT HF2;obtain⟨x,b,hxb,HF0⟩:=aFirst m k j hk hjW (hlen j hjW);have HF:=hdQ HF0;clear HF0;obtain⟨xb,⟨xo,xk,xq,xv⟩,xp,xl,xs⟩:=x;unfold itV itCells1 at HF;simp only at HF;have hji:(j:Int)<(m.W:Int):=omQ;have hj0:(0:Int)<=(j:Int):=omQ
   cases hst:m.st k j with
   | true=>
    rw[hst]at i1
    go_wp2_with(go_at_call 94;refine(HF.out _ _ _ HX.out).mono ?_;rintro en w2 ⟨rfl,hb2⟩;obtain⟨w1,hw1⟩:∃w1,w2.alloc (.cells #[.bool false,.int .u8 0,.string ⟨#[]⟩,.int .u16 0,.int .i16 0,.int .i32 0,.int .i64 0,.int .i16 0] 164)=w1:=⟨_,rfl⟩;obtain⟨hnb,hb1,⟨d0,d1,d2,d3,d4,d5,d6,d7⟩,⟨z0,z1,z2,z3,z4,z5,z6,z7⟩⟩:=itemNew hw1;have HB2:=show Hid (ItAt F X m wr #[.bool xb,.int .u8 (xo:Int),.string xk,.int .u16 (xq:Int),.int .i16 xv,.int .i32 xp,.int .i64 xl,.int .i16 xs] w2.heap.size ((((((((w1.setCell ⟨w2.heap.size,0,none⟩ (.bool xb)).setCell ⟨w2.heap.size,1,none⟩ (.int .u8 (xo:Int))).setCell ⟨w2.heap.size,2,none⟩ (.string xk)).setCell ⟨w2.heap.size,3,none⟩ (.int .u16 (xq:Int))).setCell ⟨w2.heap.size,4,none⟩ (.int .i16 xv)).setCell ⟨w2.heap.size,5,none⟩ (.int .i32 xp)).setCell ⟨w2.heap.size,6,none⟩ (.int .i64 xl)).setCell ⟨w2.heap.size,7,none⟩ (.int .i16 xs))/\wr.heap.size<=w2.heap.size)from⟨⟨hb2.trans ((Qar hb1 (Nat.le_refl _) (.bool xb) (.int .u8 (xo:Int)) (.string xk) (.int .u16 (xq:Int)) (.int .i16 xv) (.int .i32 xp) (.int .i64 xl) (.int .i16 xs)).mono hb2.size),(HX.out.below hb2).below (Qar hb1 (Nat.le_refl _) (.bool xb) (.int .u8 (xo:Int)) (.string xk) (.int .u16 (xq:Int)) (.int .i16 xv) (.int .i32 xp) (.int .i64 xl) (.int .i16 xs)),itemSet hnb (.bool xb) (.int .u8 (xo:Int)) (.string xk) (.int .u16 (xq:Int)) (.int .i16 xv) (.int .i32 xp) (.int .i64 xl) (.int .i16 xs),λhx=>by have:=HX.out.lt _ hx;have:=hb2.size;omega⟩,hb2.size⟩;have i1':(((((((((w1.setCell ⟨w2.heap.size,0,none⟩ (.bool xb)).setCell ⟨w2.heap.size,1,none⟩ (.int .u8 (xo:Int))).setCell ⟨w2.heap.size,2,none⟩ (.string xk)).setCell ⟨w2.heap.size,3,none⟩ (.int .u16 (xq:Int))).setCell ⟨w2.heap.size,4,none⟩ (.int .i16 xv)).setCell ⟨w2.heap.size,5,none⟩ (.int .i32 xp)).setCell ⟨w2.heap.size,6,none⟩ (.int .i64 xl)).setCell ⟨w2.heap.size,7,none⟩ (.int .i16 xs))).cell? ⟨F.ib k,j*3+2,none⟩=some (.bool (m.st k j)):=(HB2.out.1.2.1.inletCells k j hk hjW).2.1;clear hb1 hb2 hnb)
    go_roundw
    case rel=>exact⟨j+1,by omega,by go_num,HR.out.trans (HB2.out.1.1.mono HR.out.size)⟩
    case measure=>simp[intOf];omega
   | false=>
    have hb:b=false:=by
     rcases hxb with⟨_,hb⟩ | ⟨rs,hr,_⟩
     ·exact hb
     ·rcases hprev j hjq with h | h
      ·rw[hst]at h;cases h
      ·rw[hr]at h;cases h
    subst hb;rw[hst]at i1
    go_wp2_with(go_at_call 94;refine(HF.out _ _ _ HX.out).mono ?_;rintro en w2 ⟨rfl,hb2⟩;obtain⟨w1,hw1⟩:∃w1,w2.alloc (.cells #[.bool false,.int .u8 0,.string ⟨#[]⟩,.int .u16 0,.int .i16 0,.int .i32 0,.int .i64 0,.int .i16 0] 164)=w1:=⟨_,rfl⟩;obtain⟨hnb,hb1,⟨d0,d1,d2,d3,d4,d5,d6,d7⟩,⟨z0,z1,z2,z3,z4,z5,z6,z7⟩⟩:=itemNew hw1;have HB2:=show Hid (ItAt F X m wr #[.bool xb,.int .u8 (xo:Int),.string xk,.int .u16 (xq:Int),.int .i16 xv,.int .i32 xp,.int .i64 xl,.int .i16 xs] w2.heap.size ((((((((w1.setCell ⟨w2.heap.size,0,none⟩ (.bool xb)).setCell ⟨w2.heap.size,1,none⟩ (.int .u8 (xo:Int))).setCell ⟨w2.heap.size,2,none⟩ (.string xk)).setCell ⟨w2.heap.size,3,none⟩ (.int .u16 (xq:Int))).setCell ⟨w2.heap.size,4,none⟩ (.int .i16 xv)).setCell ⟨w2.heap.size,5,none⟩ (.int .i32 xp)).setCell ⟨w2.heap.size,6,none⟩ (.int .i64 xl)).setCell ⟨w2.heap.size,7,none⟩ (.int .i16 xs))/\wr.heap.size<=w2.heap.size)from⟨⟨hb2.trans ((Qar hb1 (Nat.le_refl _) (.bool xb) (.int .u8 (xo:Int)) (.string xk) (.int .u16 (xq:Int)) (.int .i16 xv) (.int .i32 xp) (.int .i64 xl) (.int .i16 xs)).mono hb2.size),(HX.out.below hb2).below (Qar hb1 (Nat.le_refl _) (.bool xb) (.int .u8 (xo:Int)) (.string xk) (.int .u16 (xq:Int)) (.int .i16 xv) (.int .i32 xp) (.int .i64 xl) (.int .i16 xs)),itemSet hnb (.bool xb) (.int .u8 (xo:Int)) (.string xk) (.int .u16 (xq:Int)) (.int .i16 xv) (.int .i32 xp) (.int .i64 xl) (.int .i16 xs),λhx=>by have:=HX.out.lt _ hx;have:=hb2.size;omega⟩,hb2.size⟩;have i1':(((((((((w1.setCell ⟨w2.heap.size,0,none⟩ (.bool xb)).setCell ⟨w2.heap.size,1,none⟩ (.int .u8 (xo:Int))).setCell ⟨w2.heap.size,2,none⟩ (.string xk)).setCell ⟨w2.heap.size,3,none⟩ (.int .u16 (xq:Int))).setCell ⟨w2.heap.size,4,none⟩ (.int .i16 xv)).setCell ⟨w2.heap.size,5,none⟩ (.int .i32 xp)).setCell ⟨w2.heap.size,6,none⟩ (.int .i64 xl)).setCell ⟨w2.heap.size,7,none⟩ (.int .i16 xs))).cell? ⟨F.ib k,j*3+2,none⟩=some (.bool (m.st k j)):=(HB2.out.1.2.1.inletCells k j hk hjW).2.1;clear hb1 hb2 hnb)
    go_roundw
    case rel=>exact⟨j+1,by omega,by go_num,HR.out.trans (HB2.out.1.1.mono HR.out.size)⟩
    case measure=>simp[intOf];omega
  ·have hjj:j=q0:=omQ;subst hjj
   have HF:=show Hid _ from HF2.out
   clear HF2;obtain⟨xb,⟨xo,xk,xq,xv⟩,xp,xl,xs⟩:=x;simp only at hxb;subst hxb;unfold itV itCells1 at HF;simp only at HF;have hji:(j:Int)<(m.W:Int):=omQ;have hj0:(0:Int)<=(j:Int):=omQ;rw[hst0]at i1;clear he
   go_wp2_with(first
    | (go_at_call 94;refine(HF.out _ _ _ HX.out).mono ?_;rintro en w2 ⟨rfl,hb2⟩;obtain⟨w1,hw1⟩:∃w1,w2.alloc (.cells #[.bool false,.int .u8 0,.string ⟨#[]⟩,.int .u16 0,.int .i16 0,.int .i32 0,.int .i64 0,.int .i16 0] 164)=w1:=⟨_,rfl⟩;obtain⟨hnb,hb1,⟨d0,d1,d2,d3,d4,d5,d6,d7⟩,⟨z0,z1,z2,z3,z4,z5,z6,z7⟩⟩:=itemNew hw1;have HB2:=show Hid (ItAt F X m wr #[.bool true,.int .u8 (xo:Int),.string xk,.int .u16 (xq:Int),.int .i16 xv,.int .i32 xp,.int .i64 xl,.int .i16 xs] w2.heap.size ((((((((w1.setCell ⟨w2.heap.size,0,none⟩ (.bool true)).setCell ⟨w2.heap.size,1,none⟩ (.int .u8 (xo:Int))).setCell ⟨w2.heap.size,2,none⟩ (.string xk)).setCell ⟨w2.heap.size,3,none⟩ (.int .u16 (xq:Int))).setCell ⟨w2.heap.size,4,none⟩ (.int .i16 xv)).setCell ⟨w2.heap.size,5,none⟩ (.int .i32 xp)).setCell ⟨w2.heap.size,6,none⟩ (.int .i64 xl)).setCell ⟨w2.heap.size,7,none⟩ (.int .i16 xs))/\wr.heap.size<=w2.heap.size)from⟨⟨hb2.trans ((Qar hb1 (Nat.le_refl _) (.bool true) (.int .u8 (xo:Int)) (.string xk) (.int .u16 (xq:Int)) (.int .i16 xv) (.int .i32 xp) (.int .i64 xl) (.int .i16 xs)).mono hb2.size),(HX.out.below hb2).below (Qar hb1 (Nat.le_refl _) (.bool true) (.int .u8 (xo:Int)) (.string xk) (.int .u16 (xq:Int)) (.int .i16 xv) (.int .i32 xp) (.int .i64 xl) (.int .i16 xs)),itemSet hnb (.bool true) (.int .u8 (xo:Int)) (.string xk) (.int .u16 (xq:Int)) (.int .i16 xv) (.int .i32 xp) (.int .i64 xl) (.int .i16 xs),λhx=>by have:=HX.out.lt _ hx;have:=hb2.size;omega⟩,hb2.size⟩;have i1':(((((((((w1.setCell ⟨w2.heap.size,0,none⟩ (.bool true)).setCell ⟨w2.heap.size,1,none⟩ (.int .u8 (xo:Int))).setCell ⟨w2.heap.size,2,none⟩ (.string xk)).setCell ⟨w2.heap.size,3,none⟩ (.int .u16 (xq:Int))).setCell ⟨w2.heap.size,4,none⟩ (.int .i16 xv)).setCell ⟨w2.heap.size,5,none⟩ (.int .i32 xp)).setCell ⟨w2.heap.size,6,none⟩ (.int .i64 xl)).setCell ⟨w2.heap.size,7,none⟩ (.int .i16 xs))).cell? ⟨F.ib k,j*3+2,none⟩=some (.bool (m.st k j)):=(HB2.out.1.2.1.inletCells k j hk hjW).2.1;rw[hst0]at i1';clear hb1 hb2 hnb)
    | (go_at_call 97;refine(HT.out _ HB2.out.1.2.1).mono ?_;rintro en w5 ⟨rfl,hA5⟩;have hib5:=hA5.heapOf (g:=w2.heap.size) HB2.out.1.2.2.1 HB2.out.1.2.2.2;have b0:w5.cell? ⟨w2.heap.size,0,none⟩=some (.bool true):=Qaa hib5 0;obtain⟨X5,k5,k5f,k5x⟩:=hA5;obtain⟨_,i5,z5⟩:=k5.inletCells k j hk hjW;simp only at i5;rw[hst0]at i5;have HS5:=show Hid _ from k5.setStop k j hk hjW true;have HL5:=show Hid (FrmX X _ w5/\∀g,X5 g->X g\/_<=g)from⟨k5f,k5x⟩;clear k5 k5f k5x hib5;obtain⟨X6,k6,k6f,k6x⟩:=HS5.out;have HK6:=show Hid (CLX F X6 _ _)from k6;have HL6:=show Hid (FrmX X5 w5 _/\∀g,X6 g->X5 g\/_<=g)from⟨k6f,k6x⟩;clear HS5 k6 k6f k6x)
    | (go_at_call 100;refine(HC.out _ _ HK6.out).mono ?_;rintro en w7 ⟨rfl,hA7⟩))
   go_ret;exact⟨rfl,Aft.from (Aft.then HL5.out.1 HL5.out.2 (Aft.then HL6.out.1 HL6.out.2 hA7)) (HR.out.trans (HB2.out.1.1.mono HR.out.size))⟩
end
end
section
open Go.RowKit
section
variable {F:Fx} {X:Nat->Prop} {w:World} {m:CM}
theorem QjC(h:CLX F X w m)(k:Nat)(hk:k<m.W)(hlen:∀q,q<m.W->(m.ap k q).length<=1000)(q0:Nat)(hq0:q0<m.W)(hprev:∀q,q<q0->m.st k q=true\/m.ap k q=[])(hst0:m.st k q0=false){x:ItemV}{rs:List ItemV}(he:m.ap k q0=x :: rs)(hxb:x.bar=false){p:Nat}(hxp:x.pt=(p:Int))(hl:(m.tb k).length<=1000)(hd:-1<=x.live/\x.live<=1)(hb:∀r∈m.tb k,-100000<=r.v.live/\r.v.live<=100000):
  Calls Tryz.prog 74 #[.pointer (some ⟨F.jb,0,none⟩),.int .i64 (k:Int)] w λen w'=>en=.returned (.int .i64 0)/\Aft F X w {m with ap:=updF2 m.ap k q0 rs,tb:=updF m.tb k (addX p x.live x.sum (m.tb k))} w':=by
 have HC:=show Hid _ from λ(X':Nat->Prop) (w':World) (h':CLX F X' w' {m with ap:=updF2 m.ap k q0 rs})=>gAdd h' k hk p x.live x.sum hl hd hb
 clear hl hd hb
 have hrl:rs.length<=1000:=by have:=hlen q0 hq0;rw[he]at this;simp at this;omega
 have HT:=show Hid _ from λ(w':World) (h':CLX F X w' m)=>aTake h' k q0 hk hq0 he hrl
 have HF2:=show Hid _ from λ(F:Fx) (X:Nat->Prop) (w:World) (h':CLX F X w m)=>Qdg h' k q0 hk hq0 he hrl
 clear hrl
 have HX0:=show Hid (CLX F X w m)from h
 have hw4:m.W<=4:=h.w4.2;have c3:=h.adderSlice;have hki:(k:Int)<(m.W:Int):=omQ;have hk0:(0:Int)<=(k:Int):=omQ;clear h;go_enter Tryz.func74,Tryz.ntmps74;go_wp2;clear c3
 go_loopw [6] (λv wr=>∃j:Nat,j<=q0/\v=.int .i64 (j:Int)/\Below w.heap.size w wr) (λv _=>m.W-(intOf v).toNat)
 case atStart=>exact⟨0,Nat.zero_le _,rfl,Below.refl _ _⟩
 case round=>
  obtain⟨j,hj,rfl,hbr⟩:=hrel
  have HX:=show Hid (CLX F X wr m)from HX0.out.below hbr
  have HR:=show Hid (Below w.heap.size w wr)from hbr
  have a0:=(HX.out.adderCells k hk).1;have hjW:j<m.W:=omQ;obtain⟨_,i1,_⟩:=HX.out.inletCells k j hk hjW;clear hbr
  by_cases hjq:j<q0
  ·clear HC HT HF2;obtain⟨x,b,hxb,HF0⟩:=aFirst m k j hk hjW (hlen j hjW);have HF:=hdQ HF0;clear HF0;obtain⟨xb,⟨xo,xk,xq,xv⟩,xp,xl,xs⟩:=x;unfold itV itCells1 at HF;simp only at HF;have hji:(j:Int)<(m.W:Int):=omQ;have hj0:(0:Int)<=(j:Int):=omQ
   cases hst:m.st k j with
   | true=>
    rw[hst]at i1
    go_wp2_with(go_at_call 94;refine(HF.out _ _ _ HX.out).mono ?_;rintro en w2 ⟨rfl,hb2⟩;obtain⟨w1,hw1⟩:∃w1,w2.alloc (.cells #[.bool false,.int .u8 0,.string ⟨#[]⟩,.int .u16 0,.int .i16 0,.int .i32 0,.int .i64 0,.int .i16 0] 164)=w1:=⟨_,rfl⟩;obtain⟨hnb,hb1,⟨d0,d1,d2,d3,d4,d5,d6,d7⟩,⟨z0,z1,z2,z3,z4,z5,z6,z7⟩⟩:=itemNew hw1;have HB2:=show Hid (ItAt F X m wr #[.bool xb,.int .u8 (xo:Int),.string xk,.int .u16 (xq:Int),.int .i16 xv,.int .i32 xp,.int .i64 xl,.int .i16 xs] w2.heap.size ((((((((w1.setCell ⟨w2.heap.size,0,none⟩ (.bool xb)).setCell ⟨w2.heap.size,1,none⟩ (.int .u8 (xo:Int))).setCell ⟨w2.heap.size,2,none⟩ (.string xk)).setCell ⟨w2.heap.size,3,none⟩ (.int .u16 (xq:Int))).setCell ⟨w2.heap.size,4,none⟩ (.int .i16 xv)).setCell ⟨w2.heap.size,5,none⟩ (.int .i32 xp)).setCell ⟨w2.heap.size,6,none⟩ (.int .i64 xl)).setCell ⟨w2.heap.size,7,none⟩ (.int .i16 xs))/\wr.heap.size<=w2.heap.size)from⟨⟨hb2.trans ((Qar hb1 (Nat.le_refl _) (.bool xb) (.int .u8 (xo:Int)) (.string xk) (.int .u16 (xq:Int)) (.int .i16 xv) (.int .i32 xp) (.int .i64 xl) (.int .i16 xs)).mono hb2.size),(HX.out.below hb2).below (Qar hb1 (Nat.le_refl _) (.bool xb) (.int .u8 (xo:Int)) (.string xk) (.int .u16 (xq:Int)) (.int .i16 xv) (.int .i32 xp) (.int .i64 xl) (.int .i16 xs)),itemSet hnb (.bool xb) (.int .u8 (xo:Int)) (.string xk) (.int .u16 (xq:Int)) (.int .i16 xv) (.int .i32 xp) (.int .i64 xl) (.int .i16 xs),λhx=>by have:=HX.out.lt _ hx;have:=hb2.size;omega⟩,hb2.size⟩;have i1':(((((((((w1.setCell ⟨w2.heap.size,0,none⟩ (.bool xb)).setCell ⟨w2.heap.size,1,none⟩ (.int .u8 (xo:Int))).setCell ⟨w2.heap.size,2,none⟩ (.string xk)).setCell ⟨w2.heap.size,3,none⟩ (.int .u16 (xq:Int))).setCell ⟨w2.heap.size,4,none⟩ (.int .i16 xv)).setCell ⟨w2.heap.size,5,none⟩ (.int .i32 xp)).setCell ⟨w2.heap.size,6,none⟩ (.int .i64 xl)).setCell ⟨w2.heap.size,7,none⟩ (.int .i16 xs))).cell? ⟨F.ib k,j*3+2,none⟩=some (.bool (m.st k j)):=(HB2.out.1.2.1.inletCells k j hk hjW).2.1;clear hb1 hb2 hnb)
    go_roundw
    case rel=>exact⟨j+1,by omega,by go_num,HR.out.trans (HB2.out.1.1.mono HR.out.size)⟩
    case measure=>simp[intOf];omega
   | false=>
    have hb:b=false:=by
     rcases hxb with⟨_,hb⟩ | ⟨rs,hr,_⟩
     ·exact hb
     ·rcases hprev j hjq with h | h
      ·rw[hst]at h;cases h
      ·rw[hr]at h;cases h
    subst hb;rw[hst]at i1
    go_wp2_with(go_at_call 94;refine(HF.out _ _ _ HX.out).mono ?_;rintro en w2 ⟨rfl,hb2⟩;obtain⟨w1,hw1⟩:∃w1,w2.alloc (.cells #[.bool false,.int .u8 0,.string ⟨#[]⟩,.int .u16 0,.int .i16 0,.int .i32 0,.int .i64 0,.int .i16 0] 164)=w1:=⟨_,rfl⟩;obtain⟨hnb,hb1,⟨d0,d1,d2,d3,d4,d5,d6,d7⟩,⟨z0,z1,z2,z3,z4,z5,z6,z7⟩⟩:=itemNew hw1;have HB2:=show Hid (ItAt F X m wr #[.bool xb,.int .u8 (xo:Int),.string xk,.int .u16 (xq:Int),.int .i16 xv,.int .i32 xp,.int .i64 xl,.int .i16 xs] w2.heap.size ((((((((w1.setCell ⟨w2.heap.size,0,none⟩ (.bool xb)).setCell ⟨w2.heap.size,1,none⟩ (.int .u8 (xo:Int))).setCell ⟨w2.heap.size,2,none⟩ (.string xk)).setCell ⟨w2.heap.size,3,none⟩ (.int .u16 (xq:Int))).setCell ⟨w2.heap.size,4,none⟩ (.int .i16 xv)).setCell ⟨w2.heap.size,5,none⟩ (.int .i32 xp)).setCell ⟨w2.heap.size,6,none⟩ (.int .i64 xl)).setCell ⟨w2.heap.size,7,none⟩ (.int .i16 xs))/\wr.heap.size<=w2.heap.size)from⟨⟨hb2.trans ((Qar hb1 (Nat.le_refl _) (.bool xb) (.int .u8 (xo:Int)) (.string xk) (.int .u16 (xq:Int)) (.int .i16 xv) (.int .i32 xp) (.int .i64 xl) (.int .i16 xs)).mono hb2.size),(HX.out.below hb2).below (Qar hb1 (Nat.le_refl _) (.bool xb) (.int .u8 (xo:Int)) (.string xk) (.int .u16 (xq:Int)) (.int .i16 xv) (.int .i32 xp) (.int .i64 xl) (.int .i16 xs)),itemSet hnb (.bool xb) (.int .u8 (xo:Int)) (.string xk) (.int .u16 (xq:Int)) (.int .i16 xv) (.int .i32 xp) (.int .i64 xl) (.int .i16 xs),λhx=>by have:=HX.out.lt _ hx;have:=hb2.size;omega⟩,hb2.size⟩;have i1':(((((((((w1.setCell ⟨w2.heap.size,0,none⟩ (.bool xb)).setCell ⟨w2.heap.size,1,none⟩ (.int .u8 (xo:Int))).setCell ⟨w2.heap.size,2,none⟩ (.string xk)).setCell ⟨w2.heap.size,3,none⟩ (.int .u16 (xq:Int))).setCell ⟨w2.heap.size,4,none⟩ (.int .i16 xv)).setCell ⟨w2.heap.size,5,none⟩ (.int .i32 xp)).setCell ⟨w2.heap.size,6,none⟩ (.int .i64 xl)).setCell ⟨w2.heap.size,7,none⟩ (.int .i16 xs))).cell? ⟨F.ib k,j*3+2,none⟩=some (.bool (m.st k j)):=(HB2.out.1.2.1.inletCells k j hk hjW).2.1;clear hb1 hb2 hnb)
    go_roundw
    case rel=>exact⟨j+1,by omega,by go_num,HR.out.trans (HB2.out.1.1.mono HR.out.size)⟩
    case measure=>simp[intOf];omega
  ·have hjj:j=q0:=omQ;subst hjj
   have HF:=show Hid _ from HF2.out
   clear HF2;obtain⟨xb,⟨xo,xk,xq,xv⟩,xp,xl,xs⟩:=x;simp only at hxb hxp HC;subst hxb;subst hxp;unfold itV itCells1 at HF;simp only at HF;have hji:(j:Int)<(m.W:Int):=omQ;have hj0:(0:Int)<=(j:Int):=omQ;rw[hst0]at i1;clear he
   go_wp2_with(first
    | (go_at_call 94;refine(HF.out _ _ _ HX.out).mono ?_;rintro en w2 ⟨rfl,hb2⟩;obtain⟨w1,hw1⟩:∃w1,w2.alloc (.cells #[.bool false,.int .u8 0,.string ⟨#[]⟩,.int .u16 0,.int .i16 0,.int .i32 0,.int .i64 0,.int .i16 0] 164)=w1:=⟨_,rfl⟩;obtain⟨hnb,hb1,⟨d0,d1,d2,d3,d4,d5,d6,d7⟩,⟨z0,z1,z2,z3,z4,z5,z6,z7⟩⟩:=itemNew hw1;have HB2:=show Hid (ItAt F X m wr #[.bool false,.int .u8 (xo:Int),.string xk,.int .u16 (xq:Int),.int .i16 xv,.int .i32 (p:Int),.int .i64 xl,.int .i16 xs] w2.heap.size ((((((((w1.setCell ⟨w2.heap.size,0,none⟩ (.bool false)).setCell ⟨w2.heap.size,1,none⟩ (.int .u8 (xo:Int))).setCell ⟨w2.heap.size,2,none⟩ (.string xk)).setCell ⟨w2.heap.size,3,none⟩ (.int .u16 (xq:Int))).setCell ⟨w2.heap.size,4,none⟩ (.int .i16 xv)).setCell ⟨w2.heap.size,5,none⟩ (.int .i32 (p:Int))).setCell ⟨w2.heap.size,6,none⟩ (.int .i64 xl)).setCell ⟨w2.heap.size,7,none⟩ (.int .i16 xs))/\wr.heap.size<=w2.heap.size)from⟨⟨hb2.trans ((Qar hb1 (Nat.le_refl _) (.bool false) (.int .u8 (xo:Int)) (.string xk) (.int .u16 (xq:Int)) (.int .i16 xv) (.int .i32 (p:Int)) (.int .i64 xl) (.int .i16 xs)).mono hb2.size),(HX.out.below hb2).below (Qar hb1 (Nat.le_refl _) (.bool false) (.int .u8 (xo:Int)) (.string xk) (.int .u16 (xq:Int)) (.int .i16 xv) (.int .i32 (p:Int)) (.int .i64 xl) (.int .i16 xs)),itemSet hnb (.bool false) (.int .u8 (xo:Int)) (.string xk) (.int .u16 (xq:Int)) (.int .i16 xv) (.int .i32 (p:Int)) (.int .i64 xl) (.int .i16 xs),λhx=>by have:=HX.out.lt _ hx;have:=hb2.size;omega⟩,hb2.size⟩;have i1':(((((((((w1.setCell ⟨w2.heap.size,0,none⟩ (.bool false)).setCell ⟨w2.heap.size,1,none⟩ (.int .u8 (xo:Int))).setCell ⟨w2.heap.size,2,none⟩ (.string xk)).setCell ⟨w2.heap.size,3,none⟩ (.int .u16 (xq:Int))).setCell ⟨w2.heap.size,4,none⟩ (.int .i16 xv)).setCell ⟨w2.heap.size,5,none⟩ (.int .i32 (p:Int))).setCell ⟨w2.heap.size,6,none⟩ (.int .i64 xl)).setCell ⟨w2.heap.size,7,none⟩ (.int .i16 xs))).cell? ⟨F.ib k,j*3+2,none⟩=some (.bool (m.st k j)):=(HB2.out.1.2.1.inletCells k j hk hjW).2.1;rw[hst0]at i1';clear hb1 hb2 hnb)
    | (go_at_call 97;refine(HT.out _ HB2.out.1.2.1).mono ?_;rintro en w5 ⟨rfl,hA5⟩;have hib5:=hA5.heapOf (g:=w2.heap.size) HB2.out.1.2.2.1 HB2.out.1.2.2.2;have b0:w5.cell? ⟨w2.heap.size,0,none⟩=some (.bool false):=Qaa hib5 0))
   obtain⟨X5,k5,k5f,k5x⟩:=hA5;have hS0:w5.drew.heap[w2.heap.size]? =some (.cells #[.bool false,.int .u8 (xo:Int),.string xk,.int .u16 (xq:Int),.int .i16 xv,.int .i32 (p:Int),.int .i64 xl,.int .i16 xs] 164 (0,0)):=hib5
   have HK5:=show Hid (CLX F X5 w5.drew _)from k5.drew
   have HL5:=show Hid (FrmX X _ w5.drew/\(∀g,X5 g->X g\/_<=g)/\Below w.heap.size w _/\¬X5 w2.heap.size)from⟨k5f.drew,k5x,HR.out.trans (HB2.out.1.1.mono HR.out.size),λhx=>by
    rcases k5x _ hx with h1 | h1
    ·exact HB2.out.1.2.2.2 h1
    ·have:=Qac HB2.out.1.2.2.1;omega⟩
   clear k5 k5f k5x hib5 HB2 HT HX HR b0 HX0;refine wp_region_held_drew (S:=λw':World=>w'.heap[w2.heap.size]? =some (.cells #[.bool false,.int .u8 (xo:Int),.string xk,.int .u16 (xq:Int),.int .i16 xv,.int .i32 (p:Int),.int .i64 xl,.int .i16 xs] 164 (0,0))) krQ hS0 (λhH=>?_);generalize w5.drew=w6 at HK5 HL5 hS0 hH ⊢;generalize w2.heap.size=ib at hS0 hH HL5 ⊢;refine tkQ 0 (.pointer (some ⟨F.ab,k*2,none⟩)) hH ?_;refine tkQ 1 (.pointer (some ⟨F.ab,k*2,none⟩)) hH ?_;refine tkQ 2 (.pointer (some ⟨F.ab,k*2+1,none⟩)) hH ?_;refine tkQ 3 (.pointer (some ⟨ib,5,none⟩)) hH ?_;refine tlQ 4 (.agg #[.int .i32 (p:Int),.int .i64 xl,.int .i16 xs]) rfl (by intro v hSw;have t0:v.cell? ⟨ib,5,none⟩=some (.int .i32 (p:Int)):=Qaa hSw 5;have t1:v.cell? ⟨ib,6,none⟩=some (.int .i64 xl):=Qaa hSw 6;have t2:v.cell? ⟨ib,7,none⟩=some (.int .i16 xs):=Qaa hSw 7;clear hSw;go_simp) hH ?_;refine rdQ [5] ?_
   refine arQ λK hK=>?_
   clear hH;go_simp
   go_wp2_with(go_at_call 89;refine(HC.out _ _ HK5.out).mono ?_;rintro en w7 ⟨rfl,hA7⟩)
   refine hK.out _ _ (hA7.heapOf hS0 HL5.out.2.2.2) (λhH=>?_);clear hK K hH;refine wpAnyH_done krQ ?_ _;go_wp2;go_ret;exact⟨rfl,Aft.from (Aft.then HL5.out.1 HL5.out.2.1 hA7) HL5.out.2.2.1⟩
end
end
section
open Go.RowKit
def nilTo{α:Type}(f:Nat->List α)(n:Nat):Nat->List α:=λi=>if i<n then[]else f i
def nilTo2{α:Type}(f:Nat->Nat->List α)(k n:Nat):Nat->Nat->List α:=λy z=>if y=k/\z<n then[]else f y z
def nilAll{α:Type}(f:Nat->Nat->List α)(n W:Nat):Nat->Nat->List α:=λy z=>if y<n/\z<W then[]else f y z
def clrAll(f:Nat->Nat->Bool)(n W:Nat):Nat->Nat->Bool:=λy z=>if y<n/\z<W then false else f y z
theorem QdP{α:Type}(f:Nat->List α):nilTo f 0=f:=by funext i;unfold nilTo;rw[if_neg omQ]
theorem Qfr{α:Type}(f:Nat->List α)(n:Nat):updF (nilTo f n) n []=nilTo f (n+1):=by
 funext i
 unfold updF nilTo
 by_cases e:i=n
 ·rw[if_pos e,if_pos omQ]
 ·rw[if_neg e]
  by_cases c:i<n
  ·rw[if_pos c,if_pos omQ]
  ·rw[if_neg c,if_neg omQ]
theorem Qib{α:Type}(f:Nat->Nat->List α)(k:Nat):nilTo2 f k 0=f:=by funext y z;unfold nilTo2;rw[if_neg omQ]
theorem Qic{α:Type}(f:Nat->Nat->List α)(k n:Nat):updF2 (nilTo2 f k n) k n []=nilTo2 f k (n+1):=by
 funext y z
 unfold updF2 nilTo2
 by_cases e:y=k/\z=n
 ·rw[if_pos e,if_pos omQ]
 ·rw[if_neg e]
  by_cases c:y=k/\z<n
  ·rw[if_pos c,if_pos omQ]
  ·rw[if_neg c,if_neg omQ]
theorem Qid{α:Type}(f:Nat->Nat->List α)(W:Nat):nilAll f 0 W=f:=by funext y z;unfold nilAll;rw[if_neg omQ]
theorem Qie{α:Type}(f:Nat->Nat->List α)(n W:Nat):nilTo2 (nilAll f n W) n W=nilAll f (n+1) W:=by
 funext y z
 unfold nilTo2 nilAll
 by_cases e:y=n/\z<W
 ·rw[if_pos e,if_pos omQ]
 ·rw[if_neg e]
  by_cases c:y<n/\z<W
  ·rw[if_pos c,if_pos omQ]
  ·rw[if_neg c,if_neg omQ]
theorem Qif(f:Nat->Nat->Bool)(W:Nat):clrAll f 0 W=f:=by funext y z;unfold clrAll;rw[if_neg omQ]
theorem Qig(f:Nat->Nat->Bool)(n W:Nat):clrTo (clrAll f n W) n W=clrAll f (n+1) W:=by
 funext y z
 unfold clrTo clrAll
 by_cases e:y=n/\z<W
 ·rw[if_pos e,if_pos omQ]
 ·rw[if_neg e]
  by_cases c:y<n/\z<W
  ·rw[if_pos c,if_pos omQ]
  ·rw[if_neg c,if_neg omQ]
section
variable {F:Fx} {X:Nat->Prop} {w:World} {m:CM}
theorem csforget(h:CLX F X w m)(i:Nat)(hi:i<m.W):Calls Tryz.prog 106 #[.pointer (some ⟨F.sb,i*3,none⟩)] w λen w'=>en=.returned (.tuple #[])/\Aft F X w {m with sp:=updF m.sp i [],sk:=updF m.sk i []} w':=by
 have HC:=show Hid _ from λ(_:Unit)=>sClear h i hi
 clear h;go_enter Tryz.func106,Tryz.ntmps106
 go_wp2_with(go_at_call 118;refine(HC.out ()).mono ?_;rintro en w2 ⟨rfl,hA2⟩;obtain⟨X2,k2,k2f,k2x⟩:=hA2;obtain⟨cs,a,cp,hK,hU⟩:=k2.skeys i hi;have c0:=hK.cell;have z0:=hK.frozen;have HE:=show Hid _ from Aft.then k2f k2x (hU _ none 0 [] (Upd.nil hK));clear hK hU k2 k2f k2x)
 go_end0
 exact⟨rfl,HE.out⟩
theorem caforget(h:CLX F X w m)(k:Nat)(hk:k<m.W):Calls Tryz.prog 107 #[.pointer (some ⟨F.ab,k*2,none⟩)] w λen w'=>en=.returned (.tuple #[])/\Aft F X w {m with ap:=nilTo2 m.ap k m.W,st:=clrTo m.st k m.W,tb:=updF m.tb k []} w':=by
 have hw4:m.W<=4:=h.w4.2
 have HZ:=show Hid (Aft F X w {m with ap:=nilTo2 m.ap k 0,st:=clrTo m.st k 0} w)from by rw[Qfo,Qib];exact h.aft
 clear h;go_enter Tryz.func107,Tryz.ntmps107;go_wp2
 go_loopw [2] (λv wr=>∃j:Nat,j<=m.W/\v=.int .i64 (j:Int)/\Aft F X w {m with ap:=nilTo2 m.ap k j,st:=clrTo m.st k j} wr) (λv _=>m.W-(intOf v).toNat)
 case atStart=>exact⟨0,Nat.zero_le _,rfl,HZ.out⟩
 case round=>
  obtain⟨j,hj,rfl,hA⟩:=hrel;obtain⟨X1,k1,k2,k3⟩:=hA
  have HK:=show Hid (FrmX X w wr/\∀g,X1 g->X g\/w.heap.size<=g)from⟨k2,k3⟩
  have a0:=(k1.adderCells k hk).1;clear k2 k3 HZ
  by_cases hjW:j<m.W
  ·have HC:=show Hid _ from λ(_:Unit)=>aClear k1 k j hk hjW
   simp only[Qic]at HC;have hji:(j:Int)<(m.W:Int):=omQ;have hj0:(0:Int)<=(j:Int):=omQ;clear k1;simp only at a0
   go_wp2_with(go_at_call 118;refine(HC.out ()).mono ?_;rintro en w2 ⟨rfl,hA2⟩;obtain⟨X2,k2,k2f,k2x⟩:=hA2;have a2:=(k2.adderCells k hk).1;obtain⟨_,i1,z1⟩:=k2.inletCells k j hk hjW;simp only at a2 i1;have hst:=k2.setStop k j hk hjW false;simp only[Qfp]at hst;have HS:=show Hid _ from Aft.then HK.out.1 HK.out.2 (Aft.then k2f k2x hst);clear hst k2 k2f k2x)
   go_roundw
   case rel=>exact⟨j+1,by omega,by go_num,HS.out⟩
   case measure=>simp[intOf];omega
  ·have hjj:j=m.W:=omQ;subst hjj;have hji:¬(m.W:Int)<(m.W:Int):=omQ;obtain⟨cs,a,cp,hG,hU⟩:=k1.atab k hk;have c0:=hG.cell;have z0:=hG.frozen
   have HE:=show Hid _ from Aft.then HK.out.1 HK.out.2 (hU _ none 0 [] (Upd.nil hG))
   clear hG hU k1 HK;simp only at a0;go_wp2
   go_end0
   exact⟨rfl,HE.out⟩
theorem cforget(h:CLX F X w m):Calls Tryz.prog 82 #[.pointer (some ⟨F.jb,0,none⟩)] w λen w'=>en=.returned (.tuple #[])/\Aft F X w {m with sp:=nilTo m.sp m.W,sk:=nilTo m.sk m.W,ap:=nilAll m.ap m.W m.W,st:=clrAll m.st m.W m.W,tb:=nilTo m.tb m.W} w':=by
 have hw4:m.W<=4:=h.w4.2
 have HZ:=show Hid (Aft F X w {m with sp:=nilTo m.sp 0,sk:=nilTo m.sk 0} w)from by rw[QdP,QdP];exact h.aft
 clear h;go_enter Tryz.func82,Tryz.ntmps82;go_wp2
 go_loopw [2] (λv wr=>∃j:Nat,j<=m.W/\v=.int .i64 (j:Int)/\Aft F X w {m with sp:=nilTo m.sp j,sk:=nilTo m.sk j} wr) (λv _=>m.W-(intOf v).toNat)
 case atStart=>exact⟨0,Nat.zero_le _,rfl,HZ.out⟩
 case round=>
  obtain⟨j,hj,rfl,hA⟩:=hrel;obtain⟨X1,k1,k2,k3⟩:=hA
  have HK:=show Hid (FrmX X w wr/\∀g,X1 g->X g\/w.heap.size<=g)from⟨k2,k3⟩
  have c2:=k1.sorterSlice;clear k2 k3 HZ
  by_cases hjW:j<m.W
  ·have HC:=show Hid _ from λ(_:Unit)=>csforget k1 j hjW
   simp only[Qfr]at HC;have hji:(j:Int)<(m.W:Int):=omQ;have hj0:(0:Int)<=(j:Int):=omQ;clear k1;simp only at c2
   go_wp2_with(go_at_call 106;refine(HC.out ()).mono ?_;rintro en w2 ⟨rfl,hA2⟩)
   go_roundw
   case rel=>exact⟨j+1,by omega,by go_num,Aft.then HK.out.1 HK.out.2 hA2⟩
   case measure=>simp[intOf];omega
  ·have hjj:j=m.W:=omQ;subst hjj;have hji:¬(m.W:Int)<(m.W:Int):=omQ
   have HZ2:=show Hid (Aft F X w {m with sp:=nilTo m.sp m.W,sk:=nilTo m.sk m.W,ap:=nilAll m.ap 0 m.W,st:=clrAll m.st 0 m.W,tb:=nilTo m.tb 0} wr)from by rw[Qid,Qif,QdP];exact Aft.then HK.out.1 HK.out.2 k1.aft
   clear k1 HK;simp only at c2;go_wp2;clear c2
   go_loopw [3] (λv wr=>∃j:Nat,j<=m.W/\v=.int .i64 (j:Int)/\Aft F X w {m with sp:=nilTo m.sp m.W,sk:=nilTo m.sk m.W,ap:=nilAll m.ap j m.W,st:=clrAll m.st j m.W,tb:=nilTo m.tb j} wr) (λv _=>m.W-(intOf v).toNat)
   case atStart=>exact⟨0,Nat.zero_le _,rfl,HZ2.out⟩
   case round=>
    obtain⟨j,hj,rfl,hA⟩:=hrel;obtain⟨X1,k1,k2,k3⟩:=hA
    have HK:=show Hid (FrmX X w wr/\∀g,X1 g->X g\/w.heap.size<=g)from⟨k2,k3⟩
    have c3:=k1.adderSlice;clear k2 k3 HZ2 hji
    by_cases hjW:j<m.W
    ·have HC:=show Hid _ from λ(_:Unit)=>caforget k1 j hjW
     simp only[Qfr,Qie,Qig]at HC;have hji:(j:Int)<(m.W:Int):=omQ;have hj0:(0:Int)<=(j:Int):=omQ;clear k1;simp only at c3
     go_wp2_with(go_at_call 107;refine(HC.out ()).mono ?_;rintro en w2 ⟨rfl,hA2⟩)
     go_roundw
     case rel=>exact⟨j+1,by omega,by go_num,Aft.then HK.out.1 HK.out.2 hA2⟩
     case measure=>simp[intOf];omega
    ·have hjj:j=m.W:=omQ;subst hjj;have hji:¬(m.W:Int)<(m.W:Int):=omQ
     have HE:=show Hid _ from Aft.then HK.out.1 HK.out.2 k1.aft
     clear k1 HK;simp only at c3;go_wp2
     go_end0
     exact⟨rfl,HE.out⟩
end
end
end Go.Proofs.YthccpacmklhejabGreatDoor
