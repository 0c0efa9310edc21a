import Derived.Test.YthccpacmklhejabGreatDoorTk
import Derived.Test.YthccpacmklhejabGreatDoorK23
import Derived.Test.YthccpacmklhejabGreatDoorK07
set_option maxHeartbeats 2000000
set_option maxRecDepth 100000
namespace Go.Proofs.YthccpacmklhejabGreatDoor
section
open Go.RowKit
theorem Tryz.infoIntC:(Tryz.prog.info? 3).map (λi=>(i.zero,i.size,i.bytes))=some (some (.int .i64 0),1,8):=by kernel_rfl
theorem QeY(w:World)(x:Int):(w.alloc (.cells #[.int .i64 x] 3)).ownsRow w.heap.size 3 1 (.slice (some ⟨w.heap.size,0,none⟩) 1 1) 1 [.int .i64 x]:=
 ⟨by simp,.inr ⟨w.heap.size,1,#[.int .i64 x],rfl,Nat.le_refl _,heap_alloc_new w _,Nat.le_refl _,by unfold maxLen;omega,rfl,rfl⟩⟩
theorem QkP(w:World)(v:Value)(t:TypeId):∀j u,[v][j]? =some u->(w.alloc (.cells #[v] t)).cell? ((⟨w.heap.size,0,none⟩:Addr).add j)=some u:=by
 intro j u hj
 match j,hj with
 | 0,hj=>simp at hj;subst hj;simp[Addr.add]
def QGiv(w:World)(l:List Int)(e:Nat)(en:Ending)(w':World):Prop:=∃v,en=.returned (.tuple #[v,.int .i64 (e:Int)])/\w'.ownsRow w.heap.size 3 1 v l.length (l.map (Value.int .i64))/\Below w.heap.size w w'
def lensTo(m:CM)(k n:Nat):List Int:=(List.range n).map λq=>((m.ap k q).length:Int)
theorem Qii(m:CM)(k n:Nat):lensTo m k (n+1)=lensTo m k n++[((m.ap k n).length:Int)]:=by
 unfold lensTo;rw[List.range_succ,List.map_append]
 rfl
theorem Qgm(m:CM)(k n:Nat):(lensTo m k n).length=n:=by simp[lensTo]
section
variable {F:Fx} {X:Nat->Prop} {w:World} {m:CM}
theorem cwaiting(h:CLX F X w m)(k:Nat)(hk:k<m.W):Calls Tryz.prog 103 #[.pointer (some ⟨F.ab,k*2,none⟩)] w λen w'=>∃v,en=.returned v/\w'.ownsRow w.heap.size 3 1 v m.W ((lensTo m k m.W).map (Value.int .i64))/\Below w.heap.size w w':=by
 have hw4:=h.w4
 have HX:=show Hid (CLX F X w m)from h
 obtain⟨i0,hi0,hz0,hz1,hz2⟩:=info_parts Tryz.infoIntC;clear h;go_enter Tryz.func103,Tryz.ntmps103;go_wp2
 go_loopw [3,4] (λl iv wr=>∃n:Nat,n<=m.W/\iv=.int .i64 (n:Int)/\wr.ownsRow w.heap.size 3 1 l n ((lensTo m k n).map (Value.int .i64))/\Below w.heap.size w wr) (λ_ iv _=>m.W-(intOf iv).toNat)
 case atStart=>exact⟨0,Nat.zero_le _,rfl,World.ownsRow_nil _ _ _ _,Below.refl _ _⟩
 case round=>
  obtain⟨n,hn,rfl,hown,hbn⟩:=hrel;have hXn:=HX.out.below hbn;have a0:=(hXn.adderCells k hk).1;obtain⟨la,lc,rfl⟩:=Qaf hown
  by_cases hnl:n<m.W
  ·have HL:=show Hid _ from λ(_:Unit)=>aLen hXn k n hk hnl
   have hni:(n:Int)<(m.W:Int):=omQ;have hn0:(0:Int)<=(n:Int):=omQ
   have HO:=show Hid (wr.ownsRow w.heap.size 3 1 (.slice la n lc) n ((lensTo m k n).map (Value.int .i64))/\Below w.heap.size w wr/\lensTo m k (n+1)=lensTo m k n++[((m.ap k n).length:Int)])from⟨hown,hbn,Qii m k n⟩
   have hsz:=hbn.size;clear hown hbn hXn;generalize(m.ap k n).length=ln at HL HO
   go_wp2_with(first
    | (go_at_call 102;refine(HL.out ()).mono ?_;rintro en w2 ⟨rfl,hw2⟩;obtain rfl:wr=w2:=hw2.symm)
    | (at_builtin;refine wpList_append_own _ rfl (.tmp 14) (.tmp 23) 32 rfl w.heap.size 3 i0 (.int .i64 0) 1 8 Tryz.underlying32 hi0 hz0 hz1 hz2 rfl (by decide) (.slice la n lc) n ((lensTo m k n).map (Value.int .i64)) rfl (HO.out.1.alloc _) ⟨wr.heap.size,0,none⟩ 1 1 [.int .i64 (ln:Int)] rfl rfl (QkP wr _ _) (λu hu=>by simp at hu;subst hu;rfl) (by unfold maxLen;omega) (by omega) (by simp;omega) ?_;intro v6 w6 hown6 hgrow6 _;have HN:=show Hid (_/\_)from And.intro hown6 ((HO.out.2.1.alloc hsz (.cells #[.int .i64 (ln:Int)] 3)).grown hgrow6 (by simp;omega) (λq hq=>(Qah HO.out.1 q hq).1));clear hown6 hgrow6))
   go_roundw
   case rel=>exact⟨n+1,by omega,by go_num,by rw[HO.out.2.2,List.map_append];exact HN.out.1,HN.out.2⟩
   case measure=>simp[intOf];omega
  ·have hnn:n=m.W:=omQ;subst hnn;have hni:¬(m.W:Int)<(m.W:Int):=omQ
   have HF:=show Hid (_/\_)from And.intro hown hbn
   clear hown hbn hXn;go_wp2;go_ret;exact⟨_,rfl,HF.out.1,HF.out.2⟩
theorem Qij(h:CLX F X w m)(t:Int)(h0:-9223372036854775808<=t)(h1:t<=9223372036854775807)(ht:t<0\/2*(m.W:Int)+1<t):Calls Tryz.prog 79 #[.pointer (some ⟨F.jb,0,none⟩),.int .i64 t] w λen w'=>QGiv w [] 7 en w':=by
 have HF:=show Hid _ from λ(_:Unit)=>cfind h t h0 h1
 unfold kindOf at HF;rw[if_pos ht]at HF;clear h;go_enter Tryz.func79,Tryz.ntmps79
 go_wp2_with(go_at_call 71;refine(HF.out ()).mono ?_;rintro en w2 ⟨rfl,rfl⟩)
 go_ret2
 exact⟨_,rfl,World.ownsRow_nil _ _ _ _,Below.refl _ _⟩
theorem Qgn(h:CLX F X w m)(i:Nat)(hi:i<m.W):Calls Tryz.prog 79 #[.pointer (some ⟨F.jb,0,none⟩),.int .i64 ((i:Int)+1)] w λen w'=>QGiv w [((m.sp i).length:Int)] 0 en w':=by
 have hw:=h.w4
 have HF:=show Hid _ from λ(_:Unit)=>cfind h ((i:Int)+1) omQ omQ
 unfold kindOf at HF;rw[if_neg omQ,if_neg omQ,if_pos omQ,show(i:Int)+1-1=(i:Int)from by omega]at HF
 have HL:=show Hid _ from λ(_:Unit)=>sLen h i hi
 have c2:=h.sorterSlice;have hi1:(i:Int)<(m.W:Int):=omQ;have hi0:(0:Int)<=(i:Int):=omQ;clear h;generalize(i:Int)+1=t at HF ⊢;generalize(m.sp i).length=ln at HL ⊢;go_enter Tryz.func79,Tryz.ntmps79
 go_wp2_with(first
  | (go_at_call 71;refine(HF.out ()).mono ?_;rintro en w2 ⟨rfl,hw2⟩;obtain rfl:w=w2:=hw2.symm)
  | (go_at_call 102;refine(HL.out ()).mono ?_;rintro en w2 ⟨rfl,hw2⟩;obtain rfl:w=w2:=hw2.symm))
 go_ret2
 exact⟨_,rfl,QeY w _,(Below.refl _ _).alloc (Nat.le_refl _) _⟩
theorem Qhk(h:CLX F X w m)(k:Nat)(hk:k<m.W):Calls Tryz.prog 79 #[.pointer (some ⟨F.jb,0,none⟩),.int .i64 ((m.W:Int)+1+(k:Int))] w λen w'=>QGiv w (lensTo m k m.W) 0 en w':=by
 have hw:=h.w4
 have HF:=show Hid _ from λ(_:Unit)=>cfind h ((m.W:Int)+1+(k:Int)) omQ omQ
 unfold kindOf at HF;rw[if_neg omQ,if_neg omQ,if_neg omQ,if_pos omQ,show(m.W:Int)+1+(k:Int)-(m.W:Int)-1=(k:Int)from by omega]at HF
 have HL:=show Hid _ from λ(_:Unit)=>cwaiting h k hk
 have c3:=h.adderSlice;have hi1:(k:Int)<(m.W:Int):=omQ;have hi0:(0:Int)<=(k:Int):=omQ;clear h;generalize(m.W:Int)+1+(k:Int)=t at HF ⊢;go_enter Tryz.func79,Tryz.ntmps79
 go_wp2_with(first
  | (go_at_call 71;refine(HF.out ()).mono ?_;rintro en w2 ⟨rfl,hw2⟩;obtain rfl:w=w2:=hw2.symm)
  | (go_at_call 103;refine(HL.out ()).mono ?_;rintro en w2 ⟨v2,rfl,ho2,hb2⟩))
 go_ret2
 exact⟨_,rfl,by rw[Qgm];exact ho2,hb2⟩
theorem Qgo(h:CLX F X w m):Calls Tryz.prog 79 #[.pointer (some ⟨F.jb,0,none⟩),.int .i64 (2*(m.W:Int)+1)] w λen w'=>QGiv w [(workN m:Int)] 0 en w':=by
 have hw:=h.w4
 have HF:=show Hid _ from λ(_:Unit)=>cfind h (2*(m.W:Int)+1) omQ omQ
 unfold kindOf at HF;rw[if_neg omQ,if_neg omQ,if_neg omQ,if_neg omQ]at HF
 have HL:=show Hid _ from λ(_:Unit)=>cwork h
 clear h;generalize 2*(m.W:Int)+1=t at HF ⊢;generalize workN m=ln at HL ⊢;go_enter Tryz.func79,Tryz.ntmps79
 go_wp2_with(first
  | (go_at_call 71;refine(HF.out ()).mono ?_;rintro en w2 ⟨rfl,hw2⟩;obtain rfl:w=w2:=hw2.symm)
  | (go_at_call 101;refine(HL.out ()).mono ?_;rintro en w2 ⟨rfl,hb2⟩))
 go_ret2
 exact⟨_,rfl,Qa3 (QeY w2 _) hb2.size,hb2.alloc hb2.size _⟩
theorem Qgp(h:CLX F X w m)(hE:m.evs.length<=400)(hs:m.sent<=m.evs.length):Calls Tryz.prog 79 #[.pointer (some ⟨F.jb,0,none⟩),.int .i64 0] w λen w'=>QGiv w [(m.evs.length:Int)-(m.sent:Int)] 0 en w':=by
 have hw:=h.w4
 have HF:=show Hid _ from λ(_:Unit)=>cfind h 0 (by decide) (by decide)
 unfold kindOf at HF;rw[if_neg omQ,if_pos rfl]at HF;obtain⟨v3,v4,v5,c0,c1,_,_,_,_,_,_,_,_,_,ho⟩:=h.jobCells;obtain⟨a,c,rfl⟩:=Qaf ho;have hjl0:=h.rows.1;clear h ho;generalize m.evs.length=n at c0 hE hs ⊢;go_enter Tryz.func79,Tryz.ntmps79
 go_wp2_with(go_at_call 71;refine(HF.out ()).mono ?_;rintro en w2 ⟨rfl,hw2⟩;obtain rfl:w=w2:=hw2.symm)
 have hS0:w.drew.cell? ⟨F.jb,0,none⟩=some (.slice a n c)/\w.drew.cell? ⟨F.jb,1,none⟩=some (.int .i64 (m.sent:Int)):=⟨c0,c1⟩
 refine wp_region_held_drew (S:=λw':World=>(w'.cell? ⟨F.jb,0,none⟩=some (.slice a n c)/\w'.cell? ⟨F.jb,1,none⟩=some (.int .i64 (m.sent:Int)))) krQ hS0 (λhH=>?_)
 have HB:=show Hid (Below w.heap.size w w.drew)from(Below.refl _ _).drew
 have hsz:w.drew.heap.size=w.heap.size:=rfl;clear c0 c1 HF;have hjl:F.jb<w.drew.heap.size:=hjl0;generalize w.drew=wd at hS0 hH HB hsz hjl ⊢;refine tkQ 0 (.pointer (some ⟨F.jb,0,none⟩)) hH ?_;refine tkQ 1 (.pointer (some ⟨F.jb,0,none⟩)) hH ?_;refine tkQ 2 (.pointer (some ⟨F.jb,0,none⟩)) hH ?_;refine tlQ 3 (.slice a n c) rfl (by intro v hSw;have s0:=hSw.1;clear hSw;go_simp) hH ?_;refine tkQ 4 (.int .i64 (n:Int)) hH ?_;refine tkQ 5 (.pointer (some ⟨F.jb,0,none⟩)) hH ?_;refine tkQ 6 (.pointer (some ⟨F.jb,0,none⟩)) hH ?_;refine tkQ 7 (.pointer (some ⟨F.jb,1,none⟩)) hH ?_;refine tlQ 8 (.int .i64 (m.sent:Int)) rfl (by intro v hSw;have s0:=hSw.2;clear hSw;go_simp) hH ?_;refine tlQ 9 (.int .i64 ((n:Int)-(m.sent:Int))) rfl (by intro v hSw;clear hSw;go_simp;first | done | rw[IntWalk.i64_in _ ⟨by omega,by omega⟩]) hH ?_;refine rdQ [10] ?_
 refine arQ λK hK=>?_
 clear hH;clear hsz;go_simp;have hba:=(Below.refl wd.heap.size wd).alloc (Nat.le_refl _) (.cells #[.int .i64 ((n:Int)-(m.sent:Int))] 3);have hjd:F.jb<wd.heap.size:=hjl;refine hK.out _ _ ⟨(hba.cell (p:=⟨F.jb,0,none⟩) hjd).trans hS0.1,(hba.cell (p:=⟨F.jb,1,none⟩) hjd).trans hS0.2⟩ (λhH=>?_);clear hK K hba;refine tkQ 11 (.slice (some ⟨wd.heap.size,0,none⟩) 1 1) hH ?_;refine tkQ 12 (.int .i64 0) hH ?_;refine wpAnyH_done krQ ?_ _;clear hH hS0;go_wp2
 go_ret2
 exact⟨_,rfl,Qa3 (QeY wd _) HB.out.size,HB.out.alloc HB.out.size _⟩
end
end
section
open Go.RowKit
def repL(L:Nat->Rw)(c:Nat)(r:Rw):Nat->Rw:=λx=>if x=c then r else L x
theorem Qdv(L:Nat->Rw)(c:Nat)(r:Rw):repL L c r c=r:=if_pos rfl
theorem Qcs{L:Nat->Rw}{c x:Nat}{r:Rw}(h:x≠c):repL L c r x=L x:=if_neg h
theorem Lay.repl{w:World}{L:Nat->Rw}(h:Lay w L)(c:Nat)(r:Rw)(ho:w.ownsRow 0 r.ty r.sz r.v r.n r.xs)(hd:∀g x,x≠c->r.v.ownBlock=some g->(L x).v.ownBlock≠some g):Lay w (repL L c r):=by
 refine⟨λx=>?_,λx y g h1 h2=>?_⟩
 ·by_cases e:x=c
  ·subst e;rw[Qdv];exact ho
  ·rw[Qcs e];exact h.own x
 ·by_cases e:x=c
  ·by_cases e':y=c
   ·rw[e,e']
   ·rw[e,Qdv]at h1;rw[Qcs e']at h2;exact absurd h2 (hd g y e' h1)
  ·by_cases e':y=c
   ·rw[Qcs e]at h1;rw[e',Qdv]at h2;exact absurd h1 (hd g x e h2)
   ·rw[Qcs e]at h1;rw[Qcs e']at h2;exact h.inj x y g h1 h2
theorem Qhl(R:Nat)(w:World):Calls Tryz.prog 33 #[.int .i64 (R:Int)] w λen w'=>en=.returned (.agg #[.int .i64 (R:Int),.slice none 0 0])/\Below w.heap.size w w':=by
 have hnb:=heap_alloc_new w (.cells #[.int .i64 0,.slice none 0 0] 103);have hba:=(Below.refl w.heap.size w).alloc (Nat.le_refl _) (.cells #[.int .i64 0,.slice none 0 0] 103);go_enter Tryz.func33,Tryz.ntmps33
 obtain⟨w1,hw1⟩:∃w1,w.alloc (.cells #[.int .i64 0,.slice none 0 0] 103)=w1:=⟨_,rfl⟩
 rw[hw1]at hnb hba;have e0:w1.cell? ⟨w.heap.size,0,none⟩=some (.int .i64 0):=Qaa hnb 0;have e1:w1.cell? ⟨w.heap.size,1,none⟩=some (.slice none 0 0):=Qaa hnb 1;have z0:w1.frozen? ⟨w.heap.size,0,none⟩=false:=Qab hnb 0;have z1:w1.frozen? ⟨w.heap.size,1,none⟩=false:=Qab hnb 1;have h0:(w1.setCell ⟨w.heap.size,0,none⟩ (.int .i64 (R:Int))).heap[w.heap.size]? =some (.cells #[.int .i64 (R:Int),.slice none 0 0] 103 (0,0)):=(Qag (j:=0) hnb _).trans rfl;have h1:((w1.setCell ⟨w.heap.size,0,none⟩ (.int .i64 (R:Int))).setCell ⟨w.heap.size,1,none⟩ (.slice none 0 0)).heap[w.heap.size]? =some (.cells #[.int .i64 (R:Int),.slice none 0 0] 103 (0,0)):=(Qag (j:=1) h0 _).trans rfl;go_wp2;exact bodyPost_ret (results_cell_row (p:=2) (ty:=103) rfl _ _ w.heap.size 103 #[.int .i64 (R:Int),.slice none 0 0] (0,0) _ rfl h1 Tryz.underlying103 rfl krQ) rfl ⟨rfl,(hba.setCell (p:=⟨w.heap.size,0,none⟩) (Nat.le_refl _) _).setCell (p:=⟨w.heap.size,1,none⟩) (Nat.le_refl _) _⟩
def inl1(R:Nat):List Value:=[.int .i64 (R:Int),.slice none 0 0,.bool false]
def inlCells(R n:Nat):List Value:=(List.range n).flatMap λ_=>inl1 R
theorem Qcu(R n:Nat):inlCells R (n+1)=inlCells R n++inl1 R:=by
 unfold inlCells;rw[List.range_succ,List.flatMap_append];simp
theorem Qb4(R n:Nat):(inlCells R n).length=n*3:=by
 induction n with
 | zero=>rfl
 | succ n ih=>rw[Qcu,List.length_append,ih];show n*3+3=(n+1)*3;omega
theorem Qcj(R:Nat):∀(n k j:Nat),k<n->j<3->(inlCells R n)[k*3+j]? =(inl1 R)[j]?
 | 0,k,j,hk,_=>by omega
 | n+1,k,j,hk,hj=>by
  rw[Qcu]
  by_cases c:k<n
  ·rw[List.getElem?_append_left (by rw[Qb4];omega)];exact Qcj R n k j c hj
  ·have e:k=n:=omQ;subst e;rw[List.getElem?_append_right (by rw[Qb4];omega),Qb4];congr 1;omega
theorem Tryz.infoInl:(Tryz.prog.info? 128).map (λi=>(i.zero,i.size,i.bytes))=some (some (.agg #[.int .i64 0,.slice none 0 0,.bool false]),3,40):=by kernel_rfl
theorem Qdw(w:World)(a b c:Value)(t:TypeId):∀j u,[a,b,c][j]? =some u->(w.alloc (.cells #[a,b,c] t)).cell? ((⟨w.heap.size,0,none⟩:Addr).add j)=some u:=by
 intro j u hj
 match j,hj with
 | 0,hj=>simp at hj;subst hj;simp[Addr.add]
 | 1,hj=>simp at hj;subst hj;simp[Addr.add]
 | 2,hj=>simp at hj;subst hj;simp[Addr.add]
theorem Qgq(w:World)(a b:Value)(t:TypeId):∀j u,[a,b][j]? =some u->(w.alloc (.cells #[a,b] t)).cell? ((⟨w.heap.size,0,none⟩:Addr).add j)=some u:=by
 intro j u hj
 match j,hj with
 | 0,hj=>simp at hj;subst hj;simp[Addr.add]
 | 1,hj=>simp at hj;subst hj;simp[Addr.add]
theorem QjH(W R:Nat)(hW:W<=4)(w:World):Calls Tryz.prog 34 #[.agg #[.int .i64 (W:Int),.int .i64 (R:Int)]] w λen w'=>∃v,en=.returned v/\w'.ownsRow w.heap.size 128 3 v W (inlCells R W)/\Below w.heap.size w w':=by
 obtain⟨i0,hi0,hz0,hz1,hz2⟩:=info_parts Tryz.infoInl;have hnb:=heap_alloc_new w (.cells #[.int .i64 (W:Int),.int .i64 (R:Int)] 23);have hba:=(Below.refl w.heap.size w).alloc (Nat.le_refl _) (.cells #[.int .i64 (W:Int),.int .i64 (R:Int)] 23);go_enter Tryz.func34,Tryz.ntmps34
 obtain⟨w1,hw1⟩:∃w1,w.alloc (.cells #[.int .i64 (W:Int),.int .i64 (R:Int)] 23)=w1:=⟨_,rfl⟩
 rw[hw1]at hnb hba
 have H0:=show Hid (w1.ownsRow (w.heap.size+1) 128 3 (.slice none 0 0) 0 (inlCells R 0)/\Below w.heap.size w w1/\w1.heap[w.heap.size]? =some (.cells #[.int .i64 (W:Int),.int .i64 (R:Int)] 23 (0,0))/\w.heap.size+1<=w1.heap.size)from⟨World.ownsRow_nil _ _ _ _,hba,hnb,Qac hnb⟩
 clear hnb hba;go_wp2;clear hw1
 go_loopw [3,4] (λl iv wr=>∃n:Nat,n<=W/\iv=.int .i64 (n:Int)/\wr.ownsRow (w.heap.size+1) 128 3 l n (inlCells R n)/\Below w.heap.size w wr/\wr.heap[w.heap.size]? =some (.cells #[.int .i64 (W:Int),.int .i64 (R:Int)] 23 (0,0))/\w.heap.size+1<=wr.heap.size) (λ_ iv _=>W-(intOf iv).toNat)
 case atStart=>exact⟨0,Nat.zero_le _,rfl,H0.out.1,H0.out.2.1,H0.out.2.2.1,H0.out.2.2.2⟩
 case round=>
  obtain⟨n,hn,rfl,hown,hbn,hcf,hsz⟩:=hrel;clear H0;obtain⟨la,lc,rfl⟩:=Qaf hown;have c0:wr.cell? ⟨w.heap.size,0,none⟩=some (.int .i64 (W:Int)):=Qaa hcf 0;have c1:wr.cell? ⟨w.heap.size,1,none⟩=some (.int .i64 (R:Int)):=Qaa hcf 1
  by_cases hnl:n<W
  ·have HP:=show Hid _ from λ(_:Unit)=>Qhl R wr
   have hni:(n:Int)<(W:Int):=omQ;have hn0:(0:Int)<=(n:Int):=omQ
   have HO:=show Hid (wr.ownsRow (w.heap.size+1) 128 3 (.slice la n lc) n (inlCells R n)/\Below w.heap.size w wr/\wr.heap[w.heap.size]? =some (.cells #[.int .i64 (W:Int),.int .i64 (R:Int)] 23 (0,0)))from⟨hown,hbn,hcf⟩
   clear hown hbn hcf
   go_wp2_with(first
    | (go_at_call 33;refine(HP.out ()).mono ?_;rintro en w2 ⟨rfl,hb2⟩;have H2:=show Hid (w2.ownsRow (w.heap.size+1) 128 3 (.slice la n lc) n (inlCells R n)/\Below w.heap.size w w2/\w2.heap[w.heap.size]? =some (.cells #[.int .i64 (W:Int),.int .i64 (R:Int)] 23 (0,0))/\w.heap.size+1<=w2.heap.size)from⟨Qao HO.out.1 hb2,HO.out.2.1.trans (hb2.mono HO.out.2.1.size),(hb2.block _ omQ).trans HO.out.2.2,Nat.le_trans hsz hb2.size⟩;clear hb2;have hsz2:=H2.out.2.2.2)
    | (at_builtin;refine wpList_append_own _ rfl (.tmp 11) (.tmp 16) 110 rfl (w.heap.size+1) 128 i0 (.agg #[.int .i64 0,.slice none 0 0,.bool false]) 3 40 Tryz.underlying110 hi0 hz0 hz1 hz2 rfl (by decide) (.slice la n lc) n (inlCells R n) rfl (H2.out.1.alloc _) ⟨w2.heap.size,0,none⟩ 1 1 (inl1 R) rfl rfl (by have:=Qdw w2 (.int .i64 (R:Int)) (.slice none 0 0) (.bool false) 128;simpa[inl1]using this) (λu hu=>by simp[inl1]at hu;rcases hu with rfl | rfl | rfl<;>rfl) (by unfold maxLen;omega) (by omega) (by simp;omega) ?_;intro v6 w6 hown6 hgrow6 _;have HN:=show Hid (_/\_/\_/\_)from And.intro hown6 (And.intro ((H2.out.2.1.alloc H2.out.2.1.size (.cells #[.int .i64 (R:Int),.slice none 0 0,.bool false] 128)).grown hgrow6 (by have:=H2.out.2.1.size;simp;omega) (λq hq=>Nat.le_of_succ_le (Qah H2.out.1 q hq).1)) (And.intro ((hgrow6.block w.heap.size (by simp;omega) (λe=>by have:=(Qah H2.out.1 _ e.symm).1;omega)).trans ((Below.heap_alloc _ _ _ (by omega)).trans H2.out.2.2.1)) (Nat.le_trans (show w.heap.size+1<=(w2.alloc (.cells #[.int .i64 (R:Int),.slice none 0 0,.bool false] 128)).heap.size from by simp;omega) hgrow6.size)));clear hown6 hgrow6))
   go_roundw
   case rel=>exact⟨n+1,by omega,by go_num,by rw[Qcu];exact HN.out.1,HN.out.2.1,HN.out.2.2.1,HN.out.2.2.2⟩
   case measure=>simp[intOf];omega
  ·have hnn:n=W:=omQ;subst hnn;have hni:¬(n:Int)<(n:Int):=omQ
   have HF:=show Hid (_/\_)from And.intro (Qa3 hown (Nat.le_succ _)) hbn
   clear hown hbn;go_wp2;go_ret;exact⟨_,rfl,HF.out.1,HF.out.2⟩
def srt1(R:Nat):List Value:=[.int .i64 (R:Int),.slice none 0 0,.slice none 0 0]
def srtCells(R n:Nat):List Value:=(List.range n).flatMap λ_=>srt1 R
theorem Qcv(R n:Nat):srtCells R (n+1)=srtCells R n++srt1 R:=by
 unfold srtCells;rw[List.range_succ,List.flatMap_append];simp
theorem Qb5(R n:Nat):(srtCells R n).length=n*3:=by
 induction n with
 | zero=>rfl
 | succ n ih=>rw[Qcv,List.length_append,ih];show n*3+3=(n+1)*3;omega
theorem Qck(R:Nat):∀(n k j:Nat),k<n->j<3->(srtCells R n)[k*3+j]? =(srt1 R)[j]?
 | 0,k,j,hk,_=>by omega
 | n+1,k,j,hk,hj=>by
  rw[Qcv]
  by_cases c:k<n
  ·rw[List.getElem?_append_left (by rw[Qb5];omega)];exact Qck R n k j c hj
  ·have e:k=n:=omQ;subst e;rw[List.getElem?_append_right (by rw[Qb5];omega),Qb5];congr 1;omega
def tyOf(c:Nat):TypeId:=if c=0 then 61 else if c=1 then 109 else if c=2 then 113 else if c=3 then 40 else if c<10 then 175 else if c<20 then 164 else if c<30 then 182 else if c<40 then 128 else if c<50 then 175 else 164
def szOf(c:Nat):Nat:=if c=0 then 11 else if c=1 then 3 else if c=2 then 2 else if c=3 then 4 else if c<10 then 5 else if c<20 then 8 else if c<30 then 4 else if c<40 then 3 else if c<50 then 5 else 8
structure NSpec (L:Nat->Rw) (fb W R:Nat) (es:List Ev) (js ja:Nat):Prop where
 ty:∀c,(L c).ty=tyOf c/\(L c).sz=szOf c
 row0:(L 0).v=.slice (some ⟨fb,0,none⟩) 1 1/\(L 0).xs=[(L 3).v,.int .i64 0,(L 1).v,(L 2).v,.int .i64 0,.int .i64 0,.int .i64 0,.slice none 0 0,.int .i64 0,.slice none 0 0,.int .i64 0]
 row1:(L 1).n=js/\(L 1).xs=srtCells R js
 row2:(L 2).n=ja/\∀i,i<ja->(L 2).xs[i*2]? =some (L (30+i)).v/\(L 2).xs[i*2+1]? =some (.slice none 0 0)
 row3:(L 3).n=es.length/\(L 3).xs=evCells es
 inl:∀i,i<ja->(L (30+i)).n=W/\(L (30+i)).xs=inlCells R W
 other:∀c,4<=c->¬(30<=c/\c<30+ja)->(L c).v=.slice none 0 0/\(L c).n=0/\(L c).xs=[]
def NSt(w:World)(fb W R:Nat)(es:List Ev)(cb rb js ja:Nat)(wr:World):Prop:=
 ∃L,Lay wr L/\NSpec L fb W R es js ja/\(∀g,LX L g->w.heap.size<=g/\g≠cb/\g≠rb)/\Below w.heap.size w wr/\wr.heap[cb]? =some (.cells #[.int .i64 (W:Int),.int .i64 (R:Int)] 23 (0,0))/\wr.heap[rb]? =some (.cells #[.slice none 0 0,.int .i64 0,.slice none 0 0,.slice none 0 0,.int .i64 0,.int .i64 0,.int .i64 0,.slice none 0 0,.int .i64 0,.slice none 0 0,.int .i64 0] 61 (0,0))/\w.heap.size<=cb/\w.heap.size<=rb
section
variable {w wr:World} {fb W R:Nat} {es:List Ev} {cb rb js ja:Nat}
theorem NSt.drew(h:NSt w fb W R es cb rb js ja wr):NSt w fb W R es cb rb js ja wr.drew:=by
 obtain⟨L,h1,h2,h3,h4,h5,h6,h7,h8⟩:=h;exact⟨L,h1.drew,h2,h3,h4.drew,h5,h6,h7,h8⟩
theorem NSt.sorters(h:NSt w fb W R es cb rb js ja wr):∃cs a cp,LAt 0 109 3 fb 2 61 cs a js cp (srtCells R js) wr/\∀(w1:World) (a':Option Addr) (c':Nat),Upd 0 109 3 fb 2 61 cs a js cp wr a' (js+1) c' (srtCells R (js+1)) w1->NSt w fb W R es cb rb (js+1) ja w1:=by
 obtain⟨L,h1,h2,h3,h4,h5,h6,h7,h8⟩:=h;have hty0:(L 0).ty=61:=(h2.ty 0).1;have hty1:(L 1).ty=109:=(h2.ty 1).1;have hsz1:(L 1).sz=3:=(h2.ty 1).2;obtain⟨cs,a,cp,hv,hla⟩:=h1.lat (o:=2) (c:=1) (by rw[h2.row0.2];rfl) h2.row0.1 (by rw[hty0,hty1];decide);have hla':=hla;rw[hty0,hty1,hsz1,h2.row1.1,h2.row1.2]at hla';refine⟨cs,a,cp,hla',λw1 a' c' hu=>?_⟩;obtain⟨hlay,hf,hx⟩:=h1.put (p:=0) (c:=1) (o:=2) (a':=a') (n':=js+1) (c':=c') (xs':=srtCells R (js+1)) h2.row0.1 (by decide) hv hla (by rw[hty0,hty1,hsz1,h2.row1.1];exact hu)
 have hcbX:¬LX L cb:=λhg=>(h3 cb hg).2.1 rfl
 have hrbX:¬LX L rb:=λhg=>(h3 rb hg).2.2 rfl
 refine⟨_,hlay,?_,λg hg=>?_,⟨hf.os.trans h4.os,hf.tape.trans h4.tape,hf.output.trans h4.output,Nat.le_trans h4.size hf.size,λg hg=>(hf.keep g (Nat.lt_of_lt_of_le hg h4.size) λhx=>by have:=(h3 g hx).1;omega).trans (h4.block g hg)⟩,hf.block h5 hcbX,hf.block h6 hrbX,h7,h8⟩
 ·generalize hL:putL L 0 2 1 (.slice a' (js+1) c') (js+1) (srtCells R (js+1))=L'
  have fx:∀x,x≠1->x≠0->L' x=L x:=λx e1 e2=>by rw[<-hL];exact Qbb e1 e2
  have f0:L' 0={L 0 with xs:=(L 0).xs.set 2 (.slice a' (js+1) c')}:=by rw[<-hL];exact Qba (by decide)
  have f1:L' 1=⟨(L 1).ty,(L 1).sz,.slice a' (js+1) c',js+1,srtCells R (js+1)⟩:=by rw[<-hL];exact Qa9 _ _ _ _ _ _ _
  refine⟨λc=>?_,⟨by rw[f0];exact h2.row0.1,by rw[f0,f1,fx 3 omQ omQ,fx 2 omQ omQ,h2.row0.2];rfl⟩,by rw[f1];exact⟨rfl,rfl⟩,by rw[fx 2 omQ omQ];exact⟨h2.row2.1,λi hi=>by rw[fx _ omQ omQ];exact h2.row2.2 i hi⟩,by rw[fx 3 omQ omQ];exact h2.row3,λi hi=>by rw[fx _ omQ omQ];exact h2.inl i hi,λc hc hn=>by rw[fx _ omQ omQ];exact h2.other c hc hn⟩
  by_cases e1:c=1
  ·subst e1;rw[f1];exact h2.ty 1
  ·by_cases e0:c=0
   ·subst e0;rw[f0];exact h2.ty 0
   ·rw[fx c e1 e0];exact h2.ty c
 ·rcases hx g hg with hg | hg
  ·exact h3 g hg
  ·have h9:=Qac h5;have h10:=Qac h6;exact⟨Nat.le_trans h4.size hg,by omega,by omega⟩
theorem NSt.adders(h:NSt w fb W R es cb rb js ja wr)(hja:ja<10){w1:World}{v:Value}(hb:Below wr.heap.size wr w1)(ho:w1.ownsRow wr.heap.size 128 3 v W (inlCells R W)):∃cs a cp xs,LAt 0 113 2 fb 3 61 cs a ja cp xs w1/\∀(w2:World) (a':Option Addr) (c':Nat),Upd 0 113 2 fb 3 61 cs a ja cp w1 a' (ja+1) c' (xs++[v,.slice none 0 0]) w2->NSt w fb W R es cb rb js (ja+1) w2:=by
 obtain⟨L,h1,h2,h3,h4,h5,h6,h7,h8⟩:=h
 have hty:tyOf (30+ja)=128:=by unfold tyOf;rw[if_neg omQ,if_neg omQ,if_neg omQ,if_neg omQ,if_neg omQ,if_neg omQ,if_neg omQ,if_pos omQ]
 have hsz:szOf (30+ja)=3:=by unfold szOf;rw[if_neg omQ,if_neg omQ,if_neg omQ,if_neg omQ,if_neg omQ,if_neg omQ,if_neg omQ,if_pos omQ]
 have hcl:=Qac h5;have hrl:=Qac h6
 have g1:Lay w1 (repL L (30+ja) ⟨128,3,v,W,inlCells R W⟩):=(h1.below hb).repl (30+ja) ⟨128,3,v,W,inlCells R W⟩ (Qa3 ho (Nat.zero_le _)) (λg x _ hg hx=>by
  have e1:=(Qah ho g hg).1;have e2:=h1.lt ⟨x,hx⟩
  omega)
 generalize hL2:repL L (30+ja) ⟨128,3,v,W,inlCells R W⟩=L2 at g1
 have r2x:∀x,x≠30+ja->L2 x=L x:=λx hx=>by rw[<-hL2];exact Qcs hx
 have r2c:L2 (30+ja)=⟨128,3,v,W,inlCells R W⟩:=by rw[<-hL2];exact Qdv _ _ _
 have k3:∀g,LX L2 g->w.heap.size<=g/\g≠cb/\g≠rb:=λg ⟨x,hx⟩=>by
  by_cases e:x=30+ja
  ·rw[e,r2c]at hx;have e1:=(Qah ho g hx).1;exact⟨Nat.le_trans h4.size e1,by omega,by omega⟩
  ·rw[r2x x e]at hx;exact h3 g ⟨x,hx⟩
 have hty0:(L2 0).ty=61:=by rw[r2x 0 omQ];exact(h2.ty 0).1
 have hty2:(L2 2).ty=113:=by rw[r2x 2 omQ];exact(h2.ty 2).1
 have hsz2:(L2 2).sz=2:=by rw[r2x 2 omQ];exact(h2.ty 2).2
 have hn2:(L2 2).n=ja:=by rw[r2x 2 omQ];exact h2.row2.1
 have hv0:(L2 0).v=.slice (some ⟨fb,0,none⟩) 1 1:=by rw[r2x 0 omQ];exact h2.row0.1
 have hlen:(L 2).xs.length=ja*2:=by
  have:=(h1.own 2).1;rw[h2.row2.1,(h2.ty 2).2]at this;exact this
 obtain⟨cs,a,cp,hv,hla⟩:=g1.lat (p:=0) (o:=3) (c:=2) (by rw[r2x 0 omQ,r2x 2 omQ,h2.row0.2];rfl) hv0 (by rw[hty0,hty2];decide);have hla':=hla;rw[hty0,hty2,hsz2,hn2]at hla';refine⟨cs,a,cp,(L2 2).xs,hla',λw2 a' c' hu=>?_⟩;obtain⟨hlay,hf,hx⟩:=g1.put (p:=0) (c:=2) (o:=3) (a':=a') (n':=ja+1) (c':=c') (xs':=(L2 2).xs++[v,.slice none 0 0]) hv0 (by decide) hv hla (by rw[hty0,hty2,hsz2,hn2];exact hu);have hb2:=h4.trans (hb.mono h4.size);have h52:=(hb.block _ hcl).trans h5;have h62:=(hb.block _ hrl).trans h6;refine⟨_,hlay,?_,λg hg=>?_,⟨hf.os.trans hb2.os,hf.tape.trans hb2.tape,hf.output.trans hb2.output,Nat.le_trans hb2.size hf.size,λg hg=>(hf.keep g (Nat.lt_of_lt_of_le hg hb2.size) λhx=>by have:=(k3 g hx).1;omega).trans (hb2.block g hg)⟩,hf.block h52 (λhg=>(k3 cb hg).2.1 rfl),hf.block h62 (λhg=>(k3 rb hg).2.2 rfl),h7,h8⟩
 ·generalize hL:putL L2 0 3 2 (.slice a' (ja+1) c') (ja+1) ((L2 2).xs++[v,.slice none 0 0])=L'
  have fx:∀x,x≠2->x≠0->L' x=L2 x:=λx e1 e2=>by rw[<-hL];exact Qbb e1 e2
  have f0:L' 0={L2 0 with xs:=(L2 0).xs.set 3 (.slice a' (ja+1) c')}:=by rw[<-hL];exact Qba (by decide)
  have f2:L' 2=⟨(L2 2).ty,(L2 2).sz,.slice a' (ja+1) c',ja+1,(L2 2).xs++[v,.slice none 0 0]⟩:=by rw[<-hL];exact Qa9 _ _ _ _ _ _ _
  have fl:∀x,x≠2->x≠0->x≠30+ja->L' x=L x:=λx e1 e2 e3=>(fx x e1 e2).trans (r2x x e3)
  have fj:L' (30+ja)=⟨128,3,v,W,inlCells R W⟩:=(fx _ omQ omQ).trans r2c;refine⟨λc=>?_,⟨by rw[f0];exact hv0,?_⟩,by rw[fl 1 omQ omQ omQ];exact h2.row1,⟨by rw[f2],λi hi=>?_⟩,by rw[fl 3 omQ omQ omQ];exact h2.row3,λi hi=>?_,λc hc hn=>by rw[fl c omQ omQ omQ];exact h2.other c hc omQ⟩
  ·by_cases e1:c=2
   ·subst e1;rw[f2];exact⟨hty2,hsz2⟩
   ·by_cases e0:c=0
    ·subst e0;rw[f0,r2x 0 omQ];exact h2.ty 0
    ·by_cases e3:c=30+ja
     ·rw[e3,fj];exact⟨hty.symm,hsz.symm⟩
     ·rw[fl c e1 e0 e3];exact h2.ty c
  ·rw[f0,f2,fl 3 omQ omQ omQ,fl 1 omQ omQ omQ,r2x 0 omQ,h2.row0.2]
   rfl
  ·rw[f2];simp only;rw[r2x 2 omQ]
   by_cases hi2:i<ja
   ·rw[List.getElem?_append_left omQ,List.getElem?_append_left omQ,fl _ omQ omQ omQ];exact h2.row2.2 i hi2
   ·have e:i=ja:=omQ;subst e;rw[List.getElem?_append_right omQ,List.getElem?_append_right omQ,hlen,Nat.sub_self,show i*2+1-i*2=1 from by omega,fj];exact⟨rfl,rfl⟩
  ·by_cases hi2:i<ja
   ·rw[fl _ omQ omQ omQ];exact h2.inl i hi2
   ·have e:i=ja:=omQ;subst e;rw[fj];exact⟨rfl,rfl⟩
 ·rcases hx g hg with hg | hg
  ·exact k3 g hg
  ·have e1:=hb.size;exact⟨Nat.le_trans hb2.size hg,by omega,by omega⟩
end
end
section
open Go.RowKit
theorem flowCells{w1:World}{b:Nat}(hnb:w1.heap[b]? =some (.cells #[.slice none 0 0,.int .i64 0,.slice none 0 0,.slice none 0 0,.int .i64 0,.int .i64 0,.int .i64 0,.slice none 0 0,.int .i64 0,.slice none 0 0,.int .i64 0] 61 (0,0))):(w1.cell? ⟨b,0,none⟩=some (.slice none 0 0)/\w1.cell? ⟨b,1,none⟩=some (.int .i64 0)/\w1.cell? ⟨b,2,none⟩=some (.slice none 0 0)/\w1.cell? ⟨b,3,none⟩=some (.slice none 0 0)/\w1.cell? ⟨b,4,none⟩=some (.int .i64 0)/\w1.cell? ⟨b,5,none⟩=some (.int .i64 0)/\w1.cell? ⟨b,6,none⟩=some (.int .i64 0)/\w1.cell? ⟨b,7,none⟩=some (.slice none 0 0)/\w1.cell? ⟨b,8,none⟩=some (.int .i64 0)/\w1.cell? ⟨b,9,none⟩=some (.slice none 0 0)/\w1.cell? ⟨b,10,none⟩=some (.int .i64 0))/\(w1.frozen? ⟨b,0,none⟩=false/\w1.frozen? ⟨b,1,none⟩=false/\w1.frozen? ⟨b,2,none⟩=false/\w1.frozen? ⟨b,3,none⟩=false/\w1.frozen? ⟨b,4,none⟩=false/\w1.frozen? ⟨b,5,none⟩=false/\w1.frozen? ⟨b,6,none⟩=false/\w1.frozen? ⟨b,7,none⟩=false/\w1.frozen? ⟨b,8,none⟩=false/\w1.frozen? ⟨b,9,none⟩=false/\w1.frozen? ⟨b,10,none⟩=false):=by
 have d0:w1.cell? ⟨b,0,none⟩=some (.slice none 0 0):=Qaa hnb 0;have d1:w1.cell? ⟨b,1,none⟩=some (.int .i64 0):=Qaa hnb 1;have d2:w1.cell? ⟨b,2,none⟩=some (.slice none 0 0):=Qaa hnb 2;have d3:w1.cell? ⟨b,3,none⟩=some (.slice none 0 0):=Qaa hnb 3;have d4:w1.cell? ⟨b,4,none⟩=some (.int .i64 0):=Qaa hnb 4;have d5:w1.cell? ⟨b,5,none⟩=some (.int .i64 0):=Qaa hnb 5;have d6:w1.cell? ⟨b,6,none⟩=some (.int .i64 0):=Qaa hnb 6;have d7:w1.cell? ⟨b,7,none⟩=some (.slice none 0 0):=Qaa hnb 7;have d8:w1.cell? ⟨b,8,none⟩=some (.int .i64 0):=Qaa hnb 8;have d9:w1.cell? ⟨b,9,none⟩=some (.slice none 0 0):=Qaa hnb 9;have d10:w1.cell? ⟨b,10,none⟩=some (.int .i64 0):=Qaa hnb 10;have z0:w1.frozen? ⟨b,0,none⟩=false:=Qab hnb 0;have z1:w1.frozen? ⟨b,1,none⟩=false:=Qab hnb 1;have z2:w1.frozen? ⟨b,2,none⟩=false:=Qab hnb 2;have z3:w1.frozen? ⟨b,3,none⟩=false:=Qab hnb 3;have z4:w1.frozen? ⟨b,4,none⟩=false:=Qab hnb 4;have z5:w1.frozen? ⟨b,5,none⟩=false:=Qab hnb 5;have z6:w1.frozen? ⟨b,6,none⟩=false:=Qab hnb 6;have z7:w1.frozen? ⟨b,7,none⟩=false:=Qab hnb 7;have z8:w1.frozen? ⟨b,8,none⟩=false:=Qab hnb 8;have z9:w1.frozen? ⟨b,9,none⟩=false:=Qab hnb 9;have z10:w1.frozen? ⟨b,10,none⟩=false:=Qab hnb 10;exact⟨⟨d0,d1,d2,d3,d4,d5,d6,d7,d8,d9,d10⟩,⟨z0,z1,z2,z3,z4,z5,z6,z7,z8,z9,z10⟩⟩
theorem flowSet{w1:World}{b:Nat}(h:w1.heap[b]? =some (.cells #[.slice none 0 0,.int .i64 0,.slice none 0 0,.slice none 0 0,.int .i64 0,.int .i64 0,.int .i64 0,.slice none 0 0,.int .i64 0,.slice none 0 0,.int .i64 0] 61 (0,0)))(v0 v1 v2 v3 v4 v5 v6 v7 v8 v9 v10:Value):(((((((((((w1.setCell ⟨b,0,none⟩ v0).setCell ⟨b,1,none⟩ v1).setCell ⟨b,2,none⟩ v2).setCell ⟨b,3,none⟩ v3).setCell ⟨b,4,none⟩ v4).setCell ⟨b,5,none⟩ v5).setCell ⟨b,6,none⟩ v6).setCell ⟨b,7,none⟩ v7).setCell ⟨b,8,none⟩ v8).setCell ⟨b,9,none⟩ v9).setCell ⟨b,10,none⟩ v10).heap[b]? =some (.cells #[v0,v1,v2,v3,v4,v5,v6,v7,v8,v9,v10] 61 (0,0)):=by
 have h0:(w1.setCell ⟨b,0,none⟩ v0).heap[b]? =some (.cells #[v0,.int .i64 0,.slice none 0 0,.slice none 0 0,.int .i64 0,.int .i64 0,.int .i64 0,.slice none 0 0,.int .i64 0,.slice none 0 0,.int .i64 0] 61 (0,0)):=(Qag (j:=0) h v0).trans rfl;have h1:((w1.setCell ⟨b,0,none⟩ v0).setCell ⟨b,1,none⟩ v1).heap[b]? =some (.cells #[v0,v1,.slice none 0 0,.slice none 0 0,.int .i64 0,.int .i64 0,.int .i64 0,.slice none 0 0,.int .i64 0,.slice none 0 0,.int .i64 0] 61 (0,0)):=(Qag (j:=1) h0 v1).trans rfl;have h2:(((w1.setCell ⟨b,0,none⟩ v0).setCell ⟨b,1,none⟩ v1).setCell ⟨b,2,none⟩ v2).heap[b]? =some (.cells #[v0,v1,v2,.slice none 0 0,.int .i64 0,.int .i64 0,.int .i64 0,.slice none 0 0,.int .i64 0,.slice none 0 0,.int .i64 0] 61 (0,0)):=(Qag (j:=2) h1 v2).trans rfl;have h3:((((w1.setCell ⟨b,0,none⟩ v0).setCell ⟨b,1,none⟩ v1).setCell ⟨b,2,none⟩ v2).setCell ⟨b,3,none⟩ v3).heap[b]? =some (.cells #[v0,v1,v2,v3,.int .i64 0,.int .i64 0,.int .i64 0,.slice none 0 0,.int .i64 0,.slice none 0 0,.int .i64 0] 61 (0,0)):=(Qag (j:=3) h2 v3).trans rfl;have h4:(((((w1.setCell ⟨b,0,none⟩ v0).setCell ⟨b,1,none⟩ v1).setCell ⟨b,2,none⟩ v2).setCell ⟨b,3,none⟩ v3).setCell ⟨b,4,none⟩ v4).heap[b]? =some (.cells #[v0,v1,v2,v3,v4,.int .i64 0,.int .i64 0,.slice none 0 0,.int .i64 0,.slice none 0 0,.int .i64 0] 61 (0,0)):=(Qag (j:=4) h3 v4).trans rfl;have h5:((((((w1.setCell ⟨b,0,none⟩ v0).setCell ⟨b,1,none⟩ v1).setCell ⟨b,2,none⟩ v2).setCell ⟨b,3,none⟩ v3).setCell ⟨b,4,none⟩ v4).setCell ⟨b,5,none⟩ v5).heap[b]? =some (.cells #[v0,v1,v2,v3,v4,v5,.int .i64 0,.slice none 0 0,.int .i64 0,.slice none 0 0,.int .i64 0] 61 (0,0)):=(Qag (j:=5) h4 v5).trans rfl;have h6:(((((((w1.setCell ⟨b,0,none⟩ v0).setCell ⟨b,1,none⟩ v1).setCell ⟨b,2,none⟩ v2).setCell ⟨b,3,none⟩ v3).setCell ⟨b,4,none⟩ v4).setCell ⟨b,5,none⟩ v5).setCell ⟨b,6,none⟩ v6).heap[b]? =some (.cells #[v0,v1,v2,v3,v4,v5,v6,.slice none 0 0,.int .i64 0,.slice none 0 0,.int .i64 0] 61 (0,0)):=(Qag (j:=6) h5 v6).trans rfl;have h7:((((((((w1.setCell ⟨b,0,none⟩ v0).setCell ⟨b,1,none⟩ v1).setCell ⟨b,2,none⟩ v2).setCell ⟨b,3,none⟩ v3).setCell ⟨b,4,none⟩ v4).setCell ⟨b,5,none⟩ v5).setCell ⟨b,6,none⟩ v6).setCell ⟨b,7,none⟩ v7).heap[b]? =some (.cells #[v0,v1,v2,v3,v4,v5,v6,v7,.int .i64 0,.slice none 0 0,.int .i64 0] 61 (0,0)):=(Qag (j:=7) h6 v7).trans rfl;have h8:(((((((((w1.setCell ⟨b,0,none⟩ v0).setCell ⟨b,1,none⟩ v1).setCell ⟨b,2,none⟩ v2).setCell ⟨b,3,none⟩ v3).setCell ⟨b,4,none⟩ v4).setCell ⟨b,5,none⟩ v5).setCell ⟨b,6,none⟩ v6).setCell ⟨b,7,none⟩ v7).setCell ⟨b,8,none⟩ v8).heap[b]? =some (.cells #[v0,v1,v2,v3,v4,v5,v6,v7,v8,.slice none 0 0,.int .i64 0] 61 (0,0)):=(Qag (j:=8) h7 v8).trans rfl;have h9:((((((((((w1.setCell ⟨b,0,none⟩ v0).setCell ⟨b,1,none⟩ v1).setCell ⟨b,2,none⟩ v2).setCell ⟨b,3,none⟩ v3).setCell ⟨b,4,none⟩ v4).setCell ⟨b,5,none⟩ v5).setCell ⟨b,6,none⟩ v6).setCell ⟨b,7,none⟩ v7).setCell ⟨b,8,none⟩ v8).setCell ⟨b,9,none⟩ v9).heap[b]? =some (.cells #[v0,v1,v2,v3,v4,v5,v6,v7,v8,v9,.int .i64 0] 61 (0,0)):=(Qag (j:=9) h8 v9).trans rfl;have h10:(((((((((((w1.setCell ⟨b,0,none⟩ v0).setCell ⟨b,1,none⟩ v1).setCell ⟨b,2,none⟩ v2).setCell ⟨b,3,none⟩ v3).setCell ⟨b,4,none⟩ v4).setCell ⟨b,5,none⟩ v5).setCell ⟨b,6,none⟩ v6).setCell ⟨b,7,none⟩ v7).setCell ⟨b,8,none⟩ v8).setCell ⟨b,9,none⟩ v9).setCell ⟨b,10,none⟩ v10).heap[b]? =some (.cells #[v0,v1,v2,v3,v4,v5,v6,v7,v8,v9,v10] 61 (0,0)):=(Qag (j:=10) h9 v10).trans rfl;exact h10
theorem Qbz{w w1:World}{B b:Nat}(h:Below B w w1)(hg:B<=b)(v0 v1 v2 v3 v4 v5 v6 v7 v8 v9 v10:Value):Below B w (((((((((((w1.setCell ⟨b,0,none⟩ v0).setCell ⟨b,1,none⟩ v1).setCell ⟨b,2,none⟩ v2).setCell ⟨b,3,none⟩ v3).setCell ⟨b,4,none⟩ v4).setCell ⟨b,5,none⟩ v5).setCell ⟨b,6,none⟩ v6).setCell ⟨b,7,none⟩ v7).setCell ⟨b,8,none⟩ v8).setCell ⟨b,9,none⟩ v9).setCell ⟨b,10,none⟩ v10):=(((((((((((h.setCell (p:=⟨b,0,none⟩) hg v0).setCell (p:=⟨b,1,none⟩) hg v1).setCell (p:=⟨b,2,none⟩) hg v2).setCell (p:=⟨b,3,none⟩) hg v3).setCell (p:=⟨b,4,none⟩) hg v4).setCell (p:=⟨b,5,none⟩) hg v5).setCell (p:=⟨b,6,none⟩) hg v6).setCell (p:=⟨b,7,none⟩) hg v7).setCell (p:=⟨b,8,none⟩) hg v8).setCell (p:=⟨b,9,none⟩) hg v9).setCell (p:=⟨b,10,none⟩) hg v10)
theorem QkQ{X:Nat->Prop}{w w1:World}{b:Nat}(h:FrmX X w w1)(hg:b<w.heap.size->X b)(v0 v1 v2 v3 v4 v5 v6 v7 v8 v9 v10:Value):FrmX X w (((((((((((w1.setCell ⟨b,0,none⟩ v0).setCell ⟨b,1,none⟩ v1).setCell ⟨b,2,none⟩ v2).setCell ⟨b,3,none⟩ v3).setCell ⟨b,4,none⟩ v4).setCell ⟨b,5,none⟩ v5).setCell ⟨b,6,none⟩ v6).setCell ⟨b,7,none⟩ v7).setCell ⟨b,8,none⟩ v8).setCell ⟨b,9,none⟩ v9).setCell ⟨b,10,none⟩ v10):=(((((((((((h.set (g:=b) hg 0 v0).set (g:=b) hg 1 v1).set (g:=b) hg 2 v2).set (g:=b) hg 3 v3).set (g:=b) hg 4 v4).set (g:=b) hg 5 v5).set (g:=b) hg 6 v6).set (g:=b) hg 7 v7).set (g:=b) hg 8 v8).set (g:=b) hg 9 v9).set (g:=b) hg 10 v10)
def baseL(fb:Nat)(ve:Value)(es:List Ev):Nat->Rw:=λc=>
 if c=0 then⟨tyOf 0,szOf 0,.slice (some ⟨fb,0,none⟩) 1 1,1,[ve,.int .i64 0,.slice none 0 0,.slice none 0 0,.int .i64 0,.int .i64 0,.int .i64 0,.slice none 0 0,.int .i64 0,.slice none 0 0,.int .i64 0]⟩else if c=3 then⟨tyOf 3,szOf 3,ve,es.length,evCells es⟩else⟨tyOf c,szOf c,.slice none 0 0,0,[]⟩
theorem Qmb{w:World}{fb:Nat}{ve:Value}{es:List Ev}(hf:w.heap[fb]? =some (.cells #[ve,.int .i64 0,.slice none 0 0,.slice none 0 0,.int .i64 0,.int .i64 0,.int .i64 0,.slice none 0 0,.int .i64 0,.slice none 0 0,.int .i64 0] 61 (0,0)))(ho:w.ownsRow 0 40 4 ve es.length (evCells es))(hne:ve.ownBlock≠some fb):Lay w (baseL fb ve es):=by
 refine⟨λc=>?_,λc c' g h1 h2=>?_⟩
 ·unfold baseL
  by_cases e0:c=0
  ·rw[if_pos e0];exact⟨rfl,.inr ⟨fb,1,_,rfl,Nat.zero_le _,hf,Nat.le_refl _,by unfold maxLen;omega,rfl,rfl⟩⟩
  ·rw[if_neg e0]
   by_cases e3:c=3
   ·rw[if_pos e3];exact ho
   ·rw[if_neg e3];exact⟨by simp,.inl ⟨rfl,rfl⟩⟩
 ·have key:∀x,(baseL fb ve es x).v.ownBlock=some g->(x=0/\g=fb)\/(x=3/\ve.ownBlock=some g):=λx hx=>by
   unfold baseL at hx
   by_cases e0:x=0
   ·rw[if_pos e0]at hx;exact .inl ⟨e0,(Option.some.inj hx).symm⟩
   ·rw[if_neg e0]at hx
    by_cases e3:x=3
    ·rw[if_pos e3]at hx;exact .inr ⟨e3,hx⟩
    ·rw[if_neg e3]at hx;cases hx
  rcases key c h1 with⟨a,b⟩ | ⟨a,b⟩
  ·rcases key c' h2 with⟨a',b'⟩ | ⟨a',b'⟩
   ·rw[a,a']
   ·rw[b]at b';exact absurd b' hne
  ·rcases key c' h2 with⟨a',b'⟩ | ⟨a',b'⟩
   ·rw[b']at b;exact absurd b hne
   ·rw[a,a']
theorem QkR(fb W R:Nat)(ve:Value)(es:List Ev):NSpec (baseL fb ve es) fb W R es 0 0:=by
 have h0:baseL fb ve es 0=⟨tyOf 0,szOf 0,.slice (some ⟨fb,0,none⟩) 1 1,1,[ve,.int .i64 0,.slice none 0 0,.slice none 0 0,.int .i64 0,.int .i64 0,.int .i64 0,.slice none 0 0,.int .i64 0,.slice none 0 0,.int .i64 0]⟩:=if_pos rfl
 have h3:baseL fb ve es 3=⟨tyOf 3,szOf 3,ve,es.length,evCells es⟩:=by unfold baseL;rw[if_neg (by decide),if_pos rfl]
 have hx:∀c,c≠0->c≠3->baseL fb ve es c=⟨tyOf c,szOf c,.slice none 0 0,0,[]⟩:=λc a b=>by unfold baseL;rw[if_neg a,if_neg b]
 refine⟨λc=>?_,⟨by rw[h0],by rw[h0,h3,hx 1 (by decide) (by decide),hx 2 (by decide) (by decide)]⟩,by rw[hx 1 (by decide) (by decide)];exact⟨rfl,rfl⟩,⟨by rw[hx 2 (by decide) (by decide)],λi hi=>absurd hi (Nat.not_lt_zero _)⟩,by rw[h3];exact⟨rfl,rfl⟩,λi hi=>absurd hi (Nat.not_lt_zero _),λc hc _=>by rw[hx c omQ omQ];exact⟨rfl,rfl,rfl⟩⟩
 by_cases a:c=0
 ·rw[a,h0];exact⟨rfl,rfl⟩
 ·by_cases b:c=3
  ·rw[b,h3];exact⟨rfl,rfl⟩
  ·rw[hx c a b];exact⟨rfl,rfl⟩
theorem QmN{fb:Nat}{ve:Value}{es:List Ev}{g:Nat}(h:LX (baseL fb ve es) g):g=fb\/ve.ownBlock=some g:=by
 obtain⟨x,hx⟩:=h;unfold baseL at hx
 by_cases e0:x=0
 ·rw[if_pos e0]at hx;exact .inl (Option.some.inj hx).symm
 ·rw[if_neg e0]at hx
  by_cases e3:x=3
  ·rw[if_pos e3]at hx;exact .inr hx
  ·rw[if_neg e3]at hx;cases hx
theorem QjI{w wb w1 wf:World}{W R:Nat}{es:List Ev}{rb:Nat}{ea:Option Addr}{ec:Nat}(hB:Below w.heap.size w wb)(hc:wb.heap[w.heap.size]? =some (.cells #[.int .i64 (W:Int),.int .i64 (R:Int)] 23 (0,0)))(hr:wb.heap[rb]? =some (.cells #[.slice none 0 0,.int .i64 0,.slice none 0 0,.slice none 0 0,.int .i64 0,.int .i64 0,.int .i64 0,.slice none 0 0,.int .i64 0,.slice none 0 0,.int .i64 0] 61 (0,0)))(hrb:w.heap.size<=rb)(hown:w1.ownsRow wb.heap.size 40 4 (.slice ea es.length ec) es.length (evCells es))(hb:Below wb.heap.size wb w1)(hnb:wf.heap[w1.heap.size]? =some (.cells #[.slice none 0 0,.int .i64 0,.slice none 0 0,.slice none 0 0,.int .i64 0,.int .i64 0,.int .i64 0,.slice none 0 0,.int .i64 0,.slice none 0 0,.int .i64 0] 61 (0,0)))(hba:Below w1.heap.size w1 wf):NSt w w1.heap.size W R es w.heap.size rb 0 0 (((((((((((wf.setCell ⟨w1.heap.size,0,none⟩ (.slice ea es.length ec)).setCell ⟨w1.heap.size,1,none⟩ (.int .i64 0)).setCell ⟨w1.heap.size,2,none⟩ (.slice none 0 0)).setCell ⟨w1.heap.size,3,none⟩ (.slice none 0 0)).setCell ⟨w1.heap.size,4,none⟩ (.int .i64 0)).setCell ⟨w1.heap.size,5,none⟩ (.int .i64 0)).setCell ⟨w1.heap.size,6,none⟩ (.int .i64 0)).setCell ⟨w1.heap.size,7,none⟩ (.slice none 0 0)).setCell ⟨w1.heap.size,8,none⟩ (.int .i64 0)).setCell ⟨w1.heap.size,9,none⟩ (.slice none 0 0)).setCell ⟨w1.heap.size,10,none⟩ (.int .i64 0)):=by
 have hbs:=Qbz hba (Nat.le_refl w1.heap.size) (.slice ea es.length ec) (.int .i64 0) (.slice none 0 0) (.slice none 0 0) (.int .i64 0) (.int .i64 0) (.int .i64 0) (.slice none 0 0) (.int .i64 0) (.slice none 0 0) (.int .i64 0);have hfs:=flowSet hnb (.slice ea es.length ec) (.int .i64 0) (.slice none 0 0) (.slice none 0 0) (.int .i64 0) (.int .i64 0) (.int .i64 0) (.slice none 0 0) (.int .i64 0) (.slice none 0 0) (.int .i64 0);have hown2:=Qa3 (Qao hown hbs) (Nat.zero_le _);have hcl:=Qac hc;have hrl:=Qac hr
 have hne:(Value.slice ea es.length ec).ownBlock≠some w1.heap.size:=λe=>Nat.lt_irrefl _ (Qah hown _ e).2
 have hb1:=hB.trans (hb.mono hB.size);refine⟨baseL w1.heap.size (.slice ea es.length ec) es,Qmb hfs hown2 hne,QkR _ _ _ _ _,λg hg=>?_,hb1.trans (hbs.mono hb1.size),(hbs.block _ (Nat.lt_of_lt_of_le hcl hb.size)).trans ((hb.block _ hcl).trans hc),(hbs.block _ (Nat.lt_of_lt_of_le hrl hb.size)).trans ((hb.block _ hrl).trans hr),Nat.le_refl _,hrb⟩;have h1:=hb.size;have h2:=hb1.size
 rcases QmN hg with e | e
 ·omega
 ·have h3:=(Qah hown g e).1;have h4:=hB.size;omega
theorem NSpec.heap0{wr:World}{L:Nat->Rw}{fb W R:Nat}{es:List Ev}{js ja:Nat}(h1:Lay wr L)(h2:NSpec L fb W R es js ja):wr.heap[fb]? =some (.cells #[(L 3).v,.int .i64 0,(L 1).v,(L 2).v,.int .i64 0,.int .i64 0,.int .i64 0,.slice none 0 0,.int .i64 0,.slice none 0 0,.int .i64 0] 61 (0,0)):=by
 rcases(h1.own 0).2 with⟨e,_⟩ | ⟨g,cap,cur,f1,f2,f3,f4,f5,f6,f7⟩
 ·rw[h2.row0.1]at e;cases e
 ·rw[h2.row0.1]at f1;simp only[Value.slice.injEq,Option.some.injEq,Addr.mk.injEq,and_true]at f1;obtain⟨rfl,hn,hc⟩:=f1;rw[(h2.ty 0).1]at f3;rw[(h2.ty 0).2,<-hc]at f6;rw[<-hn,(h2.ty 0).2,h2.row0.2]at f7
  have h11:cur.toList.length=11:=by rw[Array.length_toList,f6];rfl
  have h12:(1:Nat)*szOf 0=11:=rfl;rw[h12,List.take_of_length_le omQ]at f7;rw[f3]
  have hcur:cur=#[(L 3).v,.int .i64 0,(L 1).v,(L 2).v,.int .i64 0,.int .i64 0,.int .i64 0,.slice none 0 0,.int .i64 0,.slice none 0 0,.int .i64 0]:=by
   apply Array.toList_inj.1;rw[f7]
  rw[hcur]
  rfl
theorem NSt.cells{w wr:World}{fb W R:Nat}{es:List Ev}{cb rb js ja:Nat}(h:NSt w fb W R es cb rb js ja wr):∃ve a1 c1 a2 c2,wr.heap[fb]? =some (.cells #[ve,.int .i64 0,.slice a1 js c1,.slice a2 ja c2,.int .i64 0,.int .i64 0,.int .i64 0,.slice none 0 0,.int .i64 0,.slice none 0 0,.int .i64 0] 61 (0,0)):=by
 obtain⟨L,h1,h2,_⟩:=h;obtain⟨a1,c1,e1⟩:=Qaf (h1.own 1);obtain⟨a2,c2,e2⟩:=Qaf (h1.own 2)
 rcases(h1.own 0).2 with⟨e,_⟩ | ⟨g,cap,cur,f1,f2,f3,f4,f5,f6,f7⟩
 ·rw[h2.row0.1]at e;cases e
 ·rw[h2.row0.1]at f1;simp only[Value.slice.injEq,Option.some.injEq,Addr.mk.injEq,and_true]at f1;obtain⟨rfl,hn,hc⟩:=f1;rw[(h2.ty 0).1]at f3;rw[(h2.ty 0).2,<-hc]at f6;rw[<-hn,(h2.ty 0).2,h2.row0.2,e1,e2,h2.row1.1,h2.row2.1]at f7
  have h11:cur.toList.length=11:=by rw[Array.length_toList,f6];rfl
  have h12:(1:Nat)*szOf 0=11:=rfl;rw[h12,List.take_of_length_le omQ]at f7;refine⟨(L 3).v,a1,c1,a2,c2,?_⟩;rw[f3]
  have hcur:cur=#[(L 3).v,.int .i64 0,.slice a1 js c1,.slice a2 ja c2,.int .i64 0,.int .i64 0,.int .i64 0,.slice none 0 0,.int .i64 0,.slice none 0 0,.int .i64 0]:=by
   apply Array.toList_inj.1;rw[f7]
  rw[hcur]
  rfl
end
end Go.Proofs.YthccpacmklhejabGreatDoor
