import Derived.Test.YthccpacmklhejabGreatDoorTk
import Derived.Test.YthccpacmklhejabGreatDoorK30
import Derived.Test.YthccpacmklhejabGreatDoorK20
import Derived.Test.YthccpacmklhejabGreatDoorK07
import Derived.Test.YthccpacmklhejabGreatDoorK08
import Derived.Laws.MakeOwn
set_option maxHeartbeats 4000000
set_option maxRecDepth 100000
namespace Go.Proofs.YthccpacmklhejabGreatDoor
section
open Go.RowKit
section
variable {CJ RJ:CJT} {f:Owners} {W:World} {wb:Nat} {v:Nat->Value} {xs:Nat->List Value} {n:Nat->Nat} {js:List JE} {is:List IEnt} {es:List EEnt} {cnt:Nat}
structure KE (CJ RJ:CJT) (W0 W:World) (wb:Nat) (js:List JE) (is:List IEnt) (E:List EEnt) (cnt k:Nat) (m:Ev) (l:Value) (ln:Nat) (v3 v5:Value) (x3 x5:List Value) (n3 n5 mb:Nat):Prop where
 ex:∃f v xs n,LInv CJ RJ f W wb v xs n js is E cnt/\v 3=v3/\v 5=v5/\xs 3=x3/\xs 5=x5/\n 3=n3/\n 5=n5/\(n 0=js.length/\n 1=js.length/\n 2=is.length/\n 4=is.length/\xs 0=js.map JE.pv/\xs 1=js.map JE.rv/\xs 2=is.map IEnt.v/\xs 4=is.map λx=>.int .i64 x.m)/\OwnR f W 40 4 (4*k+3) l ln (rep ln (evCells1 m))/\f mb=none
 hk:k<cnt
 own:∀x∈E,x.k=k->x.m=m/\x.n<=ln
 oth:∀x∈is,x.k≠k
 bel:Below wb W0 W
 mbox:W.heap[mb]? =some (.cells #[.int .u8 (m.op:Int),.string m.key,.int .u16 (m.seq:Int),.int .i16 m.val] 40 (0,0))
theorem Qcd{f:Owners}{S:Nat->Prop}{w w':World}{g:Nat}{o:Obj}(h:w.heap[g]? =some o)(hf:FrmO f S w w')(hg:f g=none):w'.heap[g]? =some o:=
 (hf.keep g (Qac h) λc hc=>by rw[hg]at hc;cases hc).trans h
variable {W0:World} {E:List EEnt} {k:Nat} {m:Ev} {v3 v5:Value} {x3 x5:List Value} {n3 n5 mb:Nat}
theorem KE.shape2{l:Value}{ln:Nat}(h:KE CJ RJ W0 W wb js is E cnt k m l ln v3 v5 x3 x5 n3 n5 mb):W.ownsRow 0 33 1 v3 n3 x3/\W.ownsRow 0 40 4 v5 n5 x5/\W.ownsRow 0 40 4 l ln (rep ln (evCells1 m))/\W.cell? ⟨wb,3,none⟩=some v3/\W.cell? ⟨wb,5,none⟩=some v5:=by
 obtain⟨f,v,xs,n,h1,rfl,rfl,rfl,rfl,rfl,rfl,_,h9,_⟩:=h.ex;exact⟨(h1.rows 3 (by decide)).row,(h1.rows 5 (by decide)).row,h9.row,h1.cellAt 3 (by decide),h1.cellAt 5 (by decide)⟩
theorem KE.old(KC:KeepsJ CJ)(KR:KeepsJ RJ){l:Value}{ln:Nat}(h:KE CJ RJ W0 W wb js is E cnt k m l ln v3 v5 x3 x5 n3 n5 mb){W':World}(hb:Below W.heap.size W W'):KE CJ RJ W0 W' wb js is E cnt k m l ln v3 v5 x3 x5 n3 n5 mb:=by
 obtain⟨f,v,xs,n,h1,rfl,rfl,rfl,rfl,rfl,rfl,hr,h9,hm⟩:=h.ex;have hf:FrmO f (λ_=>False) W W':=.of_below hb;exact⟨⟨f,v,xs,n,h1.old KC KR hb,rfl,rfl,rfl,rfl,rfl,rfl,hr,h9.frm hf (Same.refl _ _) id,hm⟩,h.hk,h.own,h.oth,h.bel.trans (h1.below hf),Qcd h.mbox hf hm⟩
theorem KE.stepA(KC:KeepsJ CJ)(KR:KeepsJ RJ){la:Option Addr}{ln lc:Nat}(h:KE CJ RJ W0 W wb js is E cnt k m (.slice la ln lc) ln v3 v5 x3 x5 n3 n5 mb){wa w5:World}{v':Value}(hba:Below W.heap.size W wa)(hrow:w5.ownsRow 0 33 1 v' (n3+1) (x3++[.slice la ln lc]))(happ:AppQ wa w5 v3 v'):
  w5.cell? ⟨wb,3,none⟩=some v3/\w5.frozen? ⟨wb,3,none⟩=false/\KE CJ RJ W0 (w5.setCell ⟨wb,3,none⟩ v') wb js is E cnt k m (.slice la ln lc) ln v' v5 (x3++[.slice la ln lc]) x5 (n3+1) n5 mb:=by
 obtain⟨f,v,xs,n,h1,rfl,rfl,rfl,rfl,rfl,rfl,hr,h9,hm⟩:=h.ex;obtain⟨a1,a2,f',a3,a4,a5⟩:=h1.app KC KR 3 (by decide) (m:=1) hba hrow happ;refine⟨a1,a2,⟨f',_,_,_,a3,Qay _ _ _,Qap _ _ (by decide),Qay _ _ _,Qap _ _ (by decide),Qay _ _ _,Qap _ _ (by decide),?_,h9.frm a4 a5 omQ,(a5 mb (Qac h.mbox)).trans hm⟩,h.hk,h.own,h.oth,h.bel.trans (h1.below a4),Qcd h.mbox a4 hm⟩;simp only[Qap _ _ (show(0:Nat)≠3 by decide),Qap _ _ (show(1:Nat)≠3 by decide),Qap _ _ (show(2:Nat)≠3 by decide),Qap _ _ (show(4:Nat)≠3 by decide)];exact hr
theorem KE.stepB(KC:KeepsJ CJ)(KR:KeepsJ RJ){la:Option Addr}{ln lc:Nat}(h:KE CJ RJ W0 W wb js is E cnt k m (.slice la ln lc) ln v3 v5 x3 x5 n3 n5 mb)(hln:ln<=1000){wa w5:World}{v':Value}(hba:Below W.heap.size W wa)(hrow:w5.ownsRow 0 40 4 v' (n5+1) (x5++evCells1 m))(happ:AppQ wa w5 v5 v'):
  w5.cell? ⟨wb,5,none⟩=some v5/\w5.frozen? ⟨wb,5,none⟩=false/\w5.heap[mb]? =some (.cells #[.int .u8 (m.op:Int),.string m.key,.int .u16 (m.seq:Int),.int .i16 m.val] 40 (0,0))/\KE CJ RJ W0 (w5.setCell ⟨wb,5,none⟩ v') wb js is (E++[⟨la,ln,lc,m,k⟩]) cnt k m (.slice la ln lc) ln v3 v' x3 (x5++evCells1 m) n3 (n5+1) mb:=by
 obtain⟨f,v,xs,n,h1,rfl,rfl,rfl,rfl,rfl,rfl,hr,h9,hm⟩:=h.ex;obtain⟨a1,a2,f',a3,a4,a5⟩:=h1.app KC KR 5 (by decide) (m:=1) hba hrow happ;have h9':=h9.frm a4 a5 omQ;have a6:=a3.addE ⟨la,ln,lc,m,k⟩ h.hk hln (HoldsG.of_own h9')
 have hmw:mb≠wb:=λe=>by rw[e,h1.obox]at hm;cases hm
 have hm5:w5.heap[mb]? =some (.cells #[.int .u8 (m.op:Int),.string m.key,.int .u16 (m.seq:Int),.int .i16 m.val] 40 (0,0)):=by
  have:=Qcd h.mbox a4 hm;rw[Below.heap_setCell _ _ _ _ hmw]at this;exact this
 refine⟨a1,a2,hm5,⟨f',_,_,_,a6,Qap _ _ (by decide),Qay _ _ _,Qap _ _ (by decide),Qay _ _ _,Qap _ _ (by decide),Qay _ _ _,?_,h9',(a5 mb (Qac h.mbox)).trans hm⟩,h.hk,λx hx=>?_,h.oth,h.bel.trans (h1.below a4),Qcd h.mbox a4 hm⟩
 ·simp only[Qap _ _ (show(0:Nat)≠5 by decide),Qap _ _ (show(1:Nat)≠5 by decide),Qap _ _ (show(2:Nat)≠5 by decide),Qap _ _ (show(4:Nat)≠5 by decide)];exact hr
 ·rcases List.mem_append.1 hx with hx | hx
  ·exact h.own x hx
  ·simp only[List.mem_cons,List.not_mem_nil,or_false]at hx;subst hx
   exact λ_=>⟨rfl,Nat.le_refl _⟩
theorem KE.stepC(KC:KeepsJ CJ)(KR:KeepsJ RJ){l:Value}{ln:Nat}(h:KE CJ RJ W0 W wb js is E cnt k m l ln v3 v5 x3 x5 n3 n5 mb){wa w5:World}{l':Value}(hba:Below W.heap.size W wa)(hrow:w5.ownsRow 0 40 4 l' (ln+1) (rep ln (evCells1 m)++evCells1 m))(happ:AppQ wa w5 l l'):
  KE CJ RJ W0 w5 wb js is E cnt k m l' (ln+1) v3 v5 x3 x5 n3 n5 mb:=by
 obtain⟨f,v,xs,n,h1,rfl,rfl,rfl,rfl,rfl,rfl,hr,h9,hm⟩:=h.ex;obtain⟨f',a3,a4,a5,a6⟩:=h1.growE KC KR hba h9 hrow happ h.own h.oth;exact⟨⟨f',v,xs,n,a3,rfl,rfl,rfl,rfl,rfl,rfl,hr,a4,(a6 mb (Qac h.mbox)).trans hm⟩,h.hk,λx hx e=>⟨(h.own x hx e).1,by have:=(h.own x hx e).2;omega⟩,h.oth,h.bel.trans (h1.below a5),Qcd h.mbox a5 hm⟩
theorem Qfw(KC:KeepsJ CJ)(KR:KeepsJ RJ)(h:LInv CJ RJ f W wb v xs n js is es cnt)(hR:LRest xs n js is es)(la:Option Addr)(ln lc:Nat)(ys:List Ev)(hyl:ys.length=ln)(hl:OwnR f W 40 4 (4*cnt+3) (.slice la ln lc) ln (evCells ys))(hln:ln<=900)(hcnt:cnt<=2000000000000)(hlen:es.length<=6400000000000):
  Calls Tryz.prog 40 #[.pointer (some ⟨wb,0,none⟩),.slice la ln lc] W λe w'=>e=.returned (.tuple #[])/\∃f' v' xs' n' es',LInv CJ RJ f' w' wb v' xs' n' js is es' (cnt+1)/\LRest xs' n' js is es'/\es'.length=es.length+4/\Below wb W w':=by
 have b6:=h.cell6;have f6:W.frozen? ⟨wb,6,none⟩=false:=Qab h.box 6;obtain⟨hc1,hc2⟩:=h.count KC KR
 have hlo:∀x∈is,x.k<cnt:=λx hx=>(h.hi x hx).1
 have hle:∀x∈es,x.k<cnt:=λx hx=>(h.he x hx).1
 have HM:=show Hid (Calls Tryz.prog 64 #[.pointer (some ⟨wb,0,none⟩)] W λe w'=>e=.returned (.int .i64 (-((cnt:Int)+1)))/\∃f1,LInv CJ RJ f1 w' wb v xs n js is es (cnt+1)/\OwnR f1 w' 40 4 (4*cnt+3) (.slice la ln lc) ln (evCells ys)/\Below wb W w'/\f1 w'.heap.size=none)from by
  refine(QgR W wb cnt b6 f6 omQ).mono ?_;rintro e w1 ⟨rfl,rfl⟩
  obtain⟨f1,hf1⟩:∃f1:Owners,f1=λg=>if g<(W.setCell ⟨wb,6,none⟩ (.int .i64 ((cnt:Int)+1))).heap.size then f g else none:=⟨_,rfl⟩
  have hs:Same (W.setCell ⟨wb,6,none⟩ (.int .i64 ((cnt:Int)+1))).heap.size f f1:=λg hg=>by rw[hf1];simp only[if_pos hg]
  refine⟨rfl,f1,hc1.keep KC KR (FrmO.refl _ (λ_=>False) _) hs (λ_ h=>h),(hl.frm hc2 (Same.refl _ _) omQ).frm (FrmO.refl _ (λ_=>False) _) hs id,h.below hc2,?_⟩;rw[hf1];simp
 have HR:=hdQ hR
 have HY:=show Hid (ys.length=ln)from hyl
 have HLO:=show Hid (_/\_)from And.intro hlo hle
 obtain⟨i0,hi0,hz0,hz1,hz2⟩:=info_parts Tryz.infoSl;obtain⟨i1,hi1,hy0,hy1,hy2⟩:=info_parts Tryz.infoEv;clear h hl b6 f6 hc1 hc2 hlo hle hR hyl;go_enter Tryz.func40,Tryz.ntmps40
 go_wp2_with fail
 refine HM.out.mono ?_;rintro e w1 ⟨rfl,f1,hI,hl,hb1,hfree⟩;clear HM
 obtain⟨sq,hsq⟩:∃sq:Nat,IntKind.u16.wrap (-((cnt:Int)+1))=(sq:Int):=⟨((-((cnt:Int)+1)) % 65536).toNat,by rw[IntKind.wrap_u16];omega⟩
 obtain⟨vl,hvl⟩:∃vl:Int,IntKind.i16.wrap (wrap64 (-((cnt:Int)+1).tdiv 65536))=vl:=⟨_,rfl⟩
 have H0:=show Hid (LInv CJ RJ f1 (w1.alloc (.cells #[.int .u8 7,.string ⟨#[109,97,114,107]⟩,.int .u16 (sq:Int),.int .i16 vl] 40)) wb v xs n js is es (cnt+1)/\OwnR f1 (w1.alloc (.cells #[.int .u8 7,.string ⟨#[109,97,114,107]⟩,.int .u16 (sq:Int),.int .i16 vl] 40)) 40 4 (4*cnt+3) (.slice la ln lc) ln (evCells ys)/\Below wb W (w1.alloc (.cells #[.int .u8 7,.string ⟨#[109,97,114,107]⟩,.int .u16 (sq:Int),.int .i16 vl] 40))/\(w1.alloc (.cells #[.int .u8 7,.string ⟨#[109,97,114,107]⟩,.int .u16 (sq:Int),.int .i16 vl] 40)).heap[w1.heap.size]? =some (.cells #[.int .u8 7,.string ⟨#[109,97,114,107]⟩,.int .u16 (sq:Int),.int .i16 vl] 40 (0,0))/\f1 w1.heap.size=none)from by
  have hbA:=(Below.refl w1.heap.size w1).alloc (Nat.le_refl _) (.cells #[.int .u8 7,.string ⟨#[109,97,114,107]⟩,.int .u16 (sq:Int),.int .i16 vl] 40);have hfA:FrmO f1 (λ_=>False) w1 (w1.alloc (.cells #[.int .u8 7,.string ⟨#[109,97,114,107]⟩,.int .u16 (sq:Int),.int .i16 vl] 40)):=.of_below hbA;exact⟨hI.old KC KR hbA,hl.frm hfA (Same.refl _ _) id,hb1.trans (hI.below hfA),heap_alloc_new w1 _,hfree⟩
 clear hI hl hb1 hfree;go_wp2;clear hsq hvl;generalize(w1.alloc (.cells #[.int .u8 7,.string ⟨#[109,97,114,107]⟩,.int .u16 (sq:Int),.int .i16 vl] 40))=w2 at H0 ⊢;generalize w1.heap.size=mb at H0 ⊢
 go_loopw [6] (λi wr=>∃k:Nat,k<=ln/\i=.int .i64 (k:Int)/\LInv CJ RJ f1 wr wb v xs n js is es (cnt+1)/\OwnR f1 wr 40 4 (4*cnt+3) (.slice la ln lc) ln (evCells (List.replicate k ⟨7,⟨#[109,97,114,107]⟩,sq,vl⟩++ys.drop k))/\Below wb W wr/\wr.heap[mb]? =some (.cells #[.int .u8 7,.string ⟨#[109,97,114,107]⟩,.int .u16 (sq:Int),.int .i16 vl] 40 (0,0))/\f1 mb=none) (λi _=>ln-(intOf i).toNat)
 case atStart=>exact⟨0,Nat.zero_le _,rfl,H0.out.1,by simpa using H0.out.2.1,H0.out.2.2.1,H0.out.2.2.2.1,H0.out.2.2.2.2⟩
 case round=>
  obtain⟨k,hk,rfl,hI,hl,hb,hmr,hfree⟩:=hrel;clear H0
  by_cases hkl:k<ln
  ·have hlr:=hl.row
   rcases Qai hlr with⟨_,h0⟩ | ⟨g,rfl⟩
   ·omega
   have og:f1 g=some (4*cnt+3):=hl.own g rfl
   have hkl2:k<ys.length:=by rw[HY.out];exact hkl
   have hc0:wr.cell? ⟨mb,0,none⟩=some (.int .u8 7):=Qad hmr 0;have hc1:wr.cell? ⟨mb,1,none⟩=some (.string ⟨#[109,97,114,107]⟩):=Qad hmr 1;have hc2:wr.cell? ⟨mb,2,none⟩=some (.int .u16 (sq:Int)):=Qad hmr 2;have hc3:wr.cell? ⟨mb,3,none⟩=some (.int .i16 vl):=Qad hmr 3;have hat:=QbY (List.replicate k ⟨7,⟨#[109,97,114,107]⟩,sq,vl⟩++ys.drop k) k (by simp;omega)
   have r1:=(hlr.stored (k*4) (.int .u8 7))
   have r2:=(r1.1.stored (k*4+1) (.string ⟨#[109,97,114,107]⟩))
   have r3:=(r2.1.stored (k*4+2) (.int .u16 (sq:Int)))
   have r4:=(r3.1.stored (k*4+3) (.int .i16 vl))
   have q0:=(hlr.cellAt (k*4) omQ).trans hat.1;have q1:=(r1.1.cellAt (k*4+1) omQ).trans ((List.getElem?_set_ne omQ).trans hat.2.1);have q2:=(r2.1.cellAt (k*4+2) omQ).trans ((List.getElem?_set_ne omQ).trans ((List.getElem?_set_ne omQ).trans hat.2.2.1));have q3:=(r3.1.cellAt (k*4+3) omQ).trans ((List.getElem?_set_ne omQ).trans ((List.getElem?_set_ne omQ).trans ((List.getElem?_set_ne omQ).trans hat.2.2.2)));have f0:=hlr.frozenAt (k*4);have f1':=r1.1.frozenAt (k*4+1);have f2:=r2.1.frozenAt (k*4+2);have f3:=r3.1.frozenAt (k*4+3);have hrow:=r4.1;have e4:((((evCells (List.replicate k ⟨7,⟨#[109,97,114,107]⟩,sq,vl⟩++ys.drop k)).set (k*4) (.int .u8 7)).set (k*4+1) (.string ⟨#[109,97,114,107]⟩)).set (k*4+2) (.int .u16 (sq:Int))).set (k*4+3) (.int .i16 vl)=evCells (List.replicate (k+1) ⟨7,⟨#[109,97,114,107]⟩,sq,vl⟩++ys.drop (k+1)):=Qkt ⟨7,⟨#[109,97,114,107]⟩,sq,vl⟩ ys k hkl2;rw[e4]at hrow
   have one:∀(o:Nat) (u:Value) (w:World),FrmO f1 (λc=>c=4*cnt+3) w (w.setCell ⟨g,o,none⟩ u):=λo u w=>FrmO.of_set (S:=λc=>c=4*cnt+3) og rfl _
   have hfr:=(((one (k*4) (.int .u8 7) wr).trans (Same.refl _ _) (one (k*4+1) (.string ⟨#[109,97,114,107]⟩) _)).trans (Same.refl _ _) (one (k*4+2) (.int .u16 (sq:Int)) _)).trans (Same.refl _ _) (one (k*4+3) (.int .i16 vl) _);have hki:(k:Int)<(ln:Int):=omQ;have hk0:(0:Int)<=(k:Int):=omQ
   have HN:=show Hid (_/\_/\_/\_)from And.intro (hI.other KC KR hfr (Same.refl _ _) (λx hx=>by have:=HLO.out.1 x hx;omega) (λx hx=>by have:=HLO.out.2 x hx;omega)) (And.intro (OwnR.mk hrow hl.own) (And.intro (hb.trans (hI.below hfr)) (Qcd hmr hfr hfree)))
   have Hfree:=show Hid (f1 mb=none)from hfree
   clear hI hl hlr r1 r2 r3 r4 hat e4 hrow hb hmr hfr one og hfree;go_wp2
   go_roundw
   case rel=>exact⟨k+1,by omega,by go_num,HN.out.1,HN.out.2.1,HN.out.2.2.1,HN.out.2.2.2,Hfree.out⟩
   case measure=>simp[intOf];omega
  ·have hkk:k=ln:=omQ;subst hkk;rw[List.drop_eq_nil_of_le (by rw[HY.out];exact Nat.le_refl _),List.append_nil,<-QmZ]at hl
   have HK:=show Hid (KE CJ RJ W wr wb js is es (cnt+1) cnt ⟨7,⟨#[109,97,114,107]⟩,sq,vl⟩ (.slice la k lc) k (v 3) (v 5) (es.map EEnt.v) (evCells (es.map EEnt.m)) es.length es.length mb)from
    ⟨⟨f1,v,xs,n,hI,rfl,rfl,HR.out.x3,HR.out.x5,HR.out.n3,HR.out.n5,⟨HR.out.n0,HR.out.n1,HR.out.n2,HR.out.n4,HR.out.x0,HR.out.x1,HR.out.x2,HR.out.x4⟩,hl,hfree⟩,Nat.lt_succ_self _,λx hx e=>by have:=HLO.out.2 x hx;omega,λx hx=>by have:=HLO.out.1 x hx;omega,hb,hmr⟩
   clear hI hl hb HY HLO HR hmr hfree;go_wp2
   go_loopw [1,7] (λs1 i wr=>∃(j:Nat) (E:List EEnt) (la':Option Addr) (lc':Nat) (v3 v5:Value),j<=4/\i=.int .i64 (j:Int)/\s1=.slice la' (k+j) lc'/\E.length=es.length+j/\KE CJ RJ W wr wb js is E (cnt+1) cnt ⟨7,⟨#[109,97,114,107]⟩,sq,vl⟩ (.slice la' (k+j) lc') (k+j) v3 v5 (E.map EEnt.v) (evCells (E.map EEnt.m)) E.length E.length mb) (λ_ i _=>4-(intOf i).toNat)
   case atStart=>exact⟨0,es,la,lc,v 3,v 5,Nat.zero_le _,rfl,rfl,rfl,HK.out⟩
   case round=>
    obtain⟨j,E,la',lc',v3,v5,hj,rfl,rfl,hEl,hK⟩:=hrel;clear HK
    by_cases hj4:j<4
    ·have hji:(j:Int)<4:=omQ;obtain⟨r3,r5,rl,c3,c5⟩:=hK.shape2;obtain⟨a3,d3,rfl⟩:=Qaf r3;obtain⟨a5,d5,rfl⟩:=Qaf r5;have HK:=hdQ hK;clear hK rl c5;have hE1:E.length<=6400000000004:=omQ;generalize hEL:E.length=el at r3 r5 c3 HK;have HEL:=hdQ hEL;rw[hEL]at hE1 hEl;clear hEL;have HEl:=hdQ hEl;clear hEl r5;have HR3:=hdQ r3;clear r3
     go_wp2_with(first
      | (at_builtin;refine QaH _ rfl (.tmp 35) (.tmp 37) 31 rfl 0 33 i0 (.slice none 0 0) 1 24 Tryz.underlying31 hi0 hz0 hz1 hz2 rfl (by decide) (.slice a3 el d3) el (E.map EEnt.v) rfl (World.ownsRow.alloc HR3.out _) ⟨wr.heap.size,0,none⟩ 1 1 [.slice la' (k+j) lc'] rfl rfl (cell_one_new _ _ _) (Qk1 _ _ _) (by unfold maxLen;omega) (by omega) (Nat.zero_le _) (by decide) ?_;intro v3' w3 hown3 hfr3;obtain⟨q1,q2,hK2⟩:=HK.out.stepA KC KR ((Below.refl wr.heap.size wr).alloc (Nat.le_refl _) _) hown3 hfr3;obtain⟨a3',d3',rfl⟩:=Qaf hown3;have HK2:=show Hid _ from hK2;clear hK2 HK hown3 hfr3 HR3))
     clear q1 q2;generalize w3.setCell ⟨wb,3,none⟩ (.slice a3' (el+1) d3')=w4 at HK2 ⊢
     have HK3:=show Hid _ from HK2.out.old KC KR ((Below.refl w4.heap.size w4).drew)
     have hxd:w4.drew.heap[mb]? =some (.cells #[.int .u8 7,.string ⟨#[109,97,114,107]⟩,.int .u16 (sq:Int),.int .i16 vl] 40 (0,0)):=HK3.out.mbox;obtain⟨_,r5,_,_,c5⟩:=HK3.out.shape2;have HR5:=hdQ r5;clear HK2 r5;refine wp_region_held_drew (S:=λw':World=>w'.heap[mb]? =some (.cells #[.int .u8 7,.string ⟨#[109,97,114,107]⟩,.int .u16 (sq:Int),.int .i16 vl] 40 (0,0))) krQ hxd (λhH=>?_);generalize w4.drew=w5 at hxd HK3 HR5 c5 hH ⊢;refine tkQ 0 (.pointer (some ⟨wb,0,none⟩)) hH ?_;refine tkQ 1 (.pointer (some ⟨wb,0,none⟩)) hH ?_;refine tkQ 2 (.pointer (some ⟨wb,0,none⟩)) hH ?_;refine tkQ 3 (.pointer (some ⟨wb,5,none⟩)) hH ?_;refine tlQ 5 (.agg #[.int .u8 7,.string ⟨#[109,97,114,107]⟩,.int .u16 (sq:Int),.int .i16 vl]) rfl (by intro v hSw;have s0:v.cell? ⟨mb,0,none⟩=some (.int .u8 7):=Qaa hSw 0;have s1:v.cell? ⟨mb,1,none⟩=some (.string ⟨#[109,97,114,107]⟩):=Qaa hSw 1;have s2:v.cell? ⟨mb,2,none⟩=some (.int .u16 (sq:Int)):=Qaa hSw 2;have s3:v.cell? ⟨mb,3,none⟩=some (.int .i16 vl):=Qaa hSw 3;clear hSw;go_simp) hH ?_;have hba:=(Below.refl w5.heap.size w5).alloc (Nat.le_refl _) (.cells #[.int .u8 7,.string ⟨#[109,97,114,107]⟩,.int .u16 (sq:Int),.int .i16 vl] 40);have hb4:(w5.alloc (.cells #[.int .u8 7,.string ⟨#[109,97,114,107]⟩,.int .u16 (sq:Int),.int .i16 vl] 40)).heap[mb]? =some (.cells #[.int .u8 7,.string ⟨#[109,97,114,107]⟩,.int .u16 (sq:Int),.int .i16 vl] 40 (0,0)):=(Below.heap_alloc _ _ _ (Qac hxd)).trans hxd;have c5a:(w5.alloc (.cells #[.int .u8 7,.string ⟨#[109,97,114,107]⟩,.int .u16 (sq:Int),.int .i16 vl] 40)).cell? ⟨wb,5,none⟩=some (.slice a5 el d5):=(hba.cell (p:=⟨wb,5,none⟩) (by have:=HK3.out.bel;obtain⟨_,_,_,_,hI9,_⟩:=HK3.out.ex;exact hI9.wlt)).trans c5;have HBa:=hdQ hba;clear hba;refine rdQ [4,6] ?_;refine AllReadyH.cons rfl (λK hK=>?_) (arQ λK hK=>?_)
     focus
      clear hH;go_simp;refine hK.out _ _ hxd (λhH=>?_);clear hK K;refine rdQ [6] ?_
      refine arQ λK hK=>?_
      clear hH;go_simp;refine hK.out _ _ hb4 (λhH=>?_);clear hK K
     rotate_left
     focus
      clear hH;go_simp;refine hK.out _ _ hb4 (λhH=>?_);clear hK K;refine rdQ [4] ?_
      refine arQ λK hK=>?_
      clear hH;go_simp;refine hK.out _ _ hb4 (λhH=>?_);clear hK K
     all_goals
      refine rdQ [7] ?_
      refine arQ λK hK=>?_
      refine QaM rfl ?_;refine Qau _ (.tmp 45) (.tmp 47) 33 rfl 0 40 i1 (.agg #[.int .u8 0,.string ⟨#[]⟩,.int .u16 0,.int .i16 0]) 4 32 Tryz.underlying33 hi1 hy0 hy1 hy2 rfl (by decide) (.slice a5 el d5) el (evCells (E.map EEnt.m)) rfl (World.ownsRow.alloc HR5.out _) ⟨w5.heap.size,0,none⟩ 1 1 (evCells1 ⟨7,⟨#[109,97,114,107]⟩,sq,vl⟩) rfl rfl (by have:=QaC w5 (.int .u8 7) (.string ⟨#[109,97,114,107]⟩) (.int .u16 (sq:Int)) (.int .i16 vl) 40;simpa[evCells1]using this) (Qbl _) (by unfold maxLen;omega) (by omega) (Nat.zero_le _) (by decide) ?_;intro v5' w6 hown6 hfr6;obtain⟨q1,q2,q3,hK4⟩:=HK3.out.stepB KC KR omQ HBa.out hown6 hfr6;have HK4:=hdQ hK4;obtain⟨a5',d5',rfl⟩:=Qaf hown6;refine hK.out _ _ q3 (λhH=>?_);clear hK K hown6 hfr6 HK3 HR5 HBa hK4 c5a hb4 c5;refine tkQ 8 (.pointer (some ⟨wb,0,none⟩)) hH ?_;refine tkQ 9 (.pointer (some ⟨wb,5,none⟩)) hH ?_;refine rdQ [10] ?_
      refine arQ λK hK=>?_
      clear hH;go_simp;refine hK.out _ _ HK4.out.mbox (λhH=>?_);clear hK K hH q1 q2 q3 hxd;refine wpAnyH_done krQ ?_ _;generalize w6.setCell ⟨wb,5,none⟩ (.slice a5' (el+1) d5')=w7 at HK4 ⊢;have hm7:=HK4.out.mbox;have m0:w7.cell? ⟨mb,0,none⟩=some (.int .u8 7):=Qad hm7 0;have m1:w7.cell? ⟨mb,1,none⟩=some (.string ⟨#[109,97,114,107]⟩):=Qad hm7 1;have m2:w7.cell? ⟨mb,2,none⟩=some (.int .u16 (sq:Int)):=Qad hm7 2;have m3:w7.cell? ⟨mb,3,none⟩=some (.int .i16 vl):=Qad hm7 3
      have HRl:=show Hid _ from HK4.out.shape2.2.2.1
      clear hm7
      go_wp2_with(first
       | (at_builtin;refine QaH _ rfl (.tmp 51) (.tmp 53) 33 rfl 0 40 i1 (.agg #[.int .u8 0,.string ⟨#[]⟩,.int .u16 0,.int .i16 0]) 4 32 Tryz.underlying33 hi1 hy0 hy1 hy2 rfl (by decide) (.slice la' (k+j) lc') (k+j) (rep (k+j) (evCells1 ⟨7,⟨#[109,97,114,107]⟩,sq,vl⟩)) rfl (World.ownsRow.alloc HRl.out _) ⟨w7.heap.size,0,none⟩ 1 1 (evCells1 ⟨7,⟨#[109,97,114,107]⟩,sq,vl⟩) rfl rfl (by have:=QaC w7 (.int .u8 7) (.string ⟨#[109,97,114,107]⟩) (.int .u16 (sq:Int)) (.int .i16 vl) 40;simpa[evCells1]using this) (Qbl _) (by unfold maxLen;omega) (by omega) (Nat.zero_le _) (by decide) ?_;intro l' w8 hown8 hfr8;have hK5:=HK4.out.stepC KC KR ((Below.refl w7.heap.size w7).alloc (Nat.le_refl _) _) hown8 hfr8;obtain⟨al,dl,rfl⟩:=Qaf hown8;have HK5:=show Hid _ from hK5;clear hK5 HK4 hown8 hfr8 HRl m0 m1 m2 m3))
      go_roundw
      case rel=>
       refine⟨j+1,E++[⟨la',k+j,lc',⟨7,⟨#[109,97,114,107]⟩,sq,vl⟩,cnt⟩],al,dl,.slice a3' (el+1) d3',.slice a5' (el+1) d5',by omega,by go_num,rfl,by rw[List.length_append,HEL.out,HEl.out];simp;omega,?_⟩;have hh:=HK5.out
       have e2:∀x:EEnt,evCells ((E++[x]).map EEnt.m)=evCells (E.map EEnt.m)++evCells1 x.m:=λx=>by rw[List.map_append,QaU,List.map_cons,List.map_nil,QbN]
       rw[e2,List.map_append,List.length_append,HEL.out];exact hh
      case measure=>simp[intOf];omega
    ·have hjj:j=4:=omQ;subst hjj
     have HF:=show Hid (∃f' v' xs' n' es',LInv CJ RJ f' wr wb v' xs' n' js is es' (cnt+1)/\LRest xs' n' js is es'/\es'.length=es.length+4/\Below wb W wr)from by
      obtain⟨f',v',xs',n',q1,q2,q3,q4,q5,q6,q7,⟨r0,r1,r2,r4,y0,y1,y2,y4⟩,_⟩:=hK.ex;exact⟨f',v',xs',n',E,q1,⟨r0,r1,r2,q6,r4,q7,y0,y1,y2,q4,y4,q5⟩,hEl,hK.bel⟩
     clear hK hEl;go_wp2
     go_end0
     exact⟨rfl,HF.out⟩
end
end
section
open Go.RowKit
structure OpV where
 kind:Int
 a:Int
 b:Int
 s:ByteArray
 e:Ev
 c:Int
 d:Int
def OpV.cells(o:OpV):List Value:=[.int .i64 o.kind,.int .i64 o.a,.int .i64 o.b,.string o.s,.int .u8 (o.e.op:Int),.string o.e.key,.int .u16 (o.e.seq:Int),.int .i16 o.e.val,.int .i64 o.c,.int .i64 o.d]
theorem Qk2(W:World)(wb:Nat)(a b c d:Int)(s:ByteArray)(e:Ev)(hok:e.ok)(hks:e.key.size<=9223372036854775800):
  Calls Tryz.prog 11 #[.pointer (some ⟨wb,0,none⟩),.agg #[.int .i64 1,.int .i64 a,.int .i64 b,.string s,.int .u8 (e.op:Int),.string e.key,.int .u16 (e.seq:Int),.int .i16 e.val,.int .i64 c,.int .i64 d]] W λen w'=>en=.returned (.bool true)/\Below W.heap.size W w':=by
 have hE:=show Hid _ from λw=>QhE e w hok.2.1
 have hR:=show Hid _ from λw=>Qeo e w hok hks
 have hN:=hdQ Qcc;obtain⟨op,key,seq,val⟩:=e;unfold Ev.value at hE hR;simp only at hE hR ⊢;generalize encStr ⟨op,key,seq,val⟩=t at hE hR;generalize refuse ⟨op,key,seq,val⟩=r at hE hR;clear hok hks;go_enter Tryz.func11,Tryz.ntmps11
 go_wp2_with(first
  | (go_at_call 15;refine(hE.out _).mono ?_;rintro en w1 ⟨rfl,hb1⟩;have hx:=(hb1.block W.heap.size (by simp)).trans (heap_alloc_new W _);have c4:w1.cell? ⟨W.heap.size,4,none⟩=some (.int .u8 (op:Int)):=Qad hx 4;have c5:w1.cell? ⟨W.heap.size,5,none⟩=some (.string key):=Qad hx 5;have c6:w1.cell? ⟨W.heap.size,6,none⟩=some (.int .u16 (seq:Int)):=Qad hx 6;have c7:w1.cell? ⟨W.heap.size,7,none⟩=some (.int .i16 val):=Qad hx 7;have hz:=hb1.size;have hB1:=((Below.refl W.heap.size W).alloc (Nat.le_refl _) _).trans (hb1.mono (by simp));clear hx hb1 hE;simp only[World.size_alloc]at hz)
  | (go_at_call 16;refine(hR.out _).mono ?_;rintro en w2 ⟨rfl,hb2⟩)
  | (go_at_call 10;refine(hN.out _ _).mono ?_;rintro en w3 ⟨rfl,rfl⟩))
 go_ret;exact⟨rfl,hB1.trans (hb2.mono omQ)⟩
theorem Qk3(W:World)(wb:Nat)(k a b c d:Int)(s:ByteArray)(e:Ev)(hk:k<=0):
  Calls Tryz.prog 6 #[.pointer (some ⟨wb,0,none⟩),.agg #[.int .i64 k,.int .i64 a,.int .i64 b,.string s,.int .u8 (e.op:Int),.string e.key,.int .u16 (e.seq:Int),.int .i16 e.val,.int .i64 c,.int .i64 d]] W λen w'=>en=.returned (.bool true)/\Below W.heap.size W w':=by
 obtain⟨op,key,seq,val⟩:=e;have hk1:¬1<=k:=omQ;have hk4:¬4<=k:=omQ;have hk10:¬k=10:=omQ;go_enter Tryz.func6,Tryz.ntmps6;go_wp2;go_ret;exact⟨rfl,(Below.refl _ _).alloc (Nat.le_refl _) _⟩
def IsOps(w:World)(a:Option Addr)(ops:List OpV):Prop:=
 (∀o∈ops,o.e.ok/\o.e.key.size<=9223372036854775800)/\(ops=[]\/∃b off,a=some ⟨b,off,none⟩/\b<w.heap.size/\∀k (h:k<ops.length) j,j<10->w.cell? ⟨b,off+k*10+j,none⟩=(ops[k]).cells[j]?)
def sCells(ts:List (List UInt8)):List Value:=ts.map λt=>.string ⟨t.toArray⟩
theorem Tryz.infoStr:(Tryz.prog.info? 9).map (λi=>(i.zero,i.size,i.bytes))=some (some (.string ⟨#[]⟩),1,16):=by kernel_rfl
theorem Qk4(n:Nat):madeCells (Value.string ⟨#[]⟩).cells n=Array.replicate n (.string ⟨#[]⟩):=by
 apply Array.ext
 ·simp[madeCells]
 ·intro i h1 h2;simp[madeCells,Value.cells,Nat.mod_one]
theorem Qk5(w:World)(n:Nat)(hn:n<=1000):∃w',(∀kl kc,(Instr.makeSlice 138 (.int kl (n:Int)) (.int kc (n:Int))).run Tryz.prog w=.ok (.slice (some ⟨w.heap.size,0,none⟩) n n) w')/\w'.ownsRow w.heap.size 9 1 (.slice (some ⟨w.heap.size,0,none⟩) n n) n (sCells (List.replicate n []))/\Below w.heap.size w w':=by
 obtain⟨i,hi,hz,hs,hb⟩:=info_parts Tryz.infoStr;refine⟨w.alloc (.cells (madeCells (Value.string ⟨#[]⟩).cells n) 9),λkl kc=>?_,?_,(Below.refl _ _).alloc (Nat.le_refl _) _⟩
 ·have:=run_make (P:=Tryz.prog) w 138 9 i (.string ⟨#[]⟩) Tryz.underlying138 hi hz kl kc (n:Int) (n:Int) omQ (Int.le_refl _) (by rw[hb];omega) omQ;rw[hs]at this
  simpa using this
 ·refine⟨by simp[sCells],.inr ⟨w.heap.size,n,madeCells (Value.string ⟨#[]⟩).cells n,rfl,Nat.le_refl _,heap_alloc_new w _,Nat.le_refl _,by unfold maxLen;omega,by rw[size_madeCells];omega,?_⟩⟩;rw[Qk4];simp[sCells]
theorem Qm1{rs:List RowV}{j:Nat}(h:j<rs.length):rankR rs (rs[j]).pt<rs.length:=by
 unfold rankR;have h1:=List.countP_le_length (p:=λq:RowV=>decide (q.pt<(rs[j]).pt)) (l:=rs)
 rcases Nat.lt_or_eq_of_le h1 with h2 | h2
 ·exact h2
 ·have:=List.countP_eq_length.1 h2 rs[j] (List.getElem_mem h);simp at this
def cntK(rs:List RowV)(p k:Nat):Nat:=(rs.take k).countP (λq=>decide (q.pt<p))
theorem Qk6(rs:List RowV)(p k:Nat)(h:k<rs.length):cntK rs p (k+1)=cntK rs p k+(if(rs[k]).pt<p then 1 else 0):=by
 unfold cntK;rw[List.take_succ_eq_append_getElem h,List.countP_append];congr 1;simp[List.countP_cons]
theorem Qk7(rs:List RowV)(p:Nat):cntK rs p 0=0:=by simp[cntK]
theorem Qk8(rs:List RowV)(p:Nat):cntK rs p rs.length=rankR rs p:=by simp[cntK,rankR]
theorem Qm2(rs:List RowV)(p k:Nat):cntK rs p k<=k:=by
 unfold cntK;have h1:=List.countP_le_length (p:=λx:RowV=>decide (x.pt<p)) (l:=rs.take k);have h2:=List.length_take_le k rs;omega
theorem Qce(n:Int)(h1:-100000<=n)(h2:n<=100000):(decI n).length<=8:=by
 unfold decI;split
 ·have:=Qbg 6 (-n).toNat omQ;simp;omega
 ·have:=Qbg 6 n.toNat omQ;omega
def TB(r:RowV):Prop:=r.live<=1000/\r.ev<=1000000/\r.tx.size<=1000
theorem QfL{r:RowV}(h:TB r):(rowText r).length<=2000:=by
 unfold rowText;have h2:=Qce (r.live:Int) omQ (by have:=h.1;omega);have h3:=Qce (wrap16 r.sum) (by have:=QbZ r.sum;omega) (by have:=QbZ r.sum;omega);have h4:=Qce ((r.ev:Int) % 256) omQ omQ;have h5:=h.2.2;rw[<-Qam]at h5;simp only[List.length_append,List.length_cons,List.length_nil];omega
theorem Qhv{rs:List RowV}(h:∀r∈rs,TB r)(i:Nat):∀t∈placed rs i,t.length<=2000:=by
 have:∀(l:List RowV),(∀r∈l,TB r)->∀t∈l.foldl (λts r=>ts.set (rankR rs r.pt) (rowText r)) (List.replicate rs.length []),t.length<=2000:=by
  intro l
  induction l using QaI with
  | h0=>
   intro _ t ht;simp at ht
   simp[ht.2]
  | h1 l x ih=>
   intro hl t ht;rw[List.foldl_append]at ht
   rcases List.mem_or_eq_of_mem_set ht with ht | rfl
   ·exact ih (λr hr=>hl r (by simp[hr])) t ht
   ·exact QfL (hl x (by simp))
 exact this (rs.take i) λr hr=>h r (List.mem_of_mem_take hr)
theorem QeE:∀(ts:List (List UInt8)),(∀t∈ts,t.length<=2000)->ts.flatten.length<=2000*ts.length
 | [],_=>by simp
 | t :: ts,h=>by
  have:=QeE ts λx hx=>h x (by simp[hx])
  have:=h t (by simp);simp only[List.flatten_cons,List.length_append,List.length_cons];omega
theorem Qf8(B:Nat)(a:Option Addr)(c:Nat)(rs:List RowV)(w:World)(hlen:rs.length<=1000)(hown:w.ownsRow B 140 5 (.slice a rs.length c) rs.length (rowCells rs))(hb:∀r∈rs,TB r):
  Calls Tryz.prog 42 #[.slice a rs.length c] w λen w'=>en=.returned (.string ⟨((placed rs rs.length).flatten).toArray⟩)/\Below w.heap.size w w':=by
 have HR:=show Hid (w.ownsRow B 140 5 (.slice a rs.length c) rs.length (rowCells rs))from hown
 clear hown;obtain⟨w1,hmk,ho1,hb1⟩:=Qk5 w rs.length hlen
 have H0:=show Hid (_/\_)from And.intro ho1 hb1
 clear ho1 hb1;go_enter Tryz.func42,Tryz.ntmps42;go_wp2;clear hmk
 go_loopw [4] (λi wr=>∃j:Nat,j<=rs.length/\i=.int .i64 (j:Int)/\wr.ownsRow w.heap.size 9 1 (.slice (some ⟨w.heap.size,0,none⟩) rs.length rs.length) rs.length (sCells (placed rs j))/\Below w.heap.size w wr) (λi _=>rs.length-(intOf i).toNat)
 case atStart=>exact⟨0,Nat.zero_le _,rfl,H0.out.1,H0.out.2⟩
 case round=>
  obtain⟨j,hj,rfl,hor,hbr⟩:=hrel;clear H0
  have HO:=show Hid (_/\_)from And.intro hor hbr
  have HRr:=show Hid _ from λ(_:Unit)=>Qao HR.out hbr
  clear hor hbr
  by_cases hjl:j<rs.length
  ·have hji:(j:Int)<(rs.length:Int):=omQ;have hj0:(0:Int)<=(j:Int):=omQ
   rcases Qai HR.out with⟨_,h0⟩ | ⟨g,rfl⟩
   ·omega
   have hcell:∀k (hk:k<rs.length) q,wr.cell? ⟨g,k*5+q,none⟩=(rowCells1 rs[k])[q]? \/¬q<5:=by
    intro k hk q
    by_cases hq:q<5
    ·exact .inl (((HRr.out ()).cellAt (k*5+q) omQ).trans (QbO rs k hk q hq))
    ·exact .inr hq
   have Hc:=hdQ hcell;clear hcell;have c0:wr.cell? ⟨g,j*5,none⟩=some (.int .i64 ((rs[j]'hjl).pt:Int)):=(Hc.out j hjl 0).resolve_right (by simp);go_wp2
   go_loopw [5,6] (λm k wq=>∃(kk:Nat),kk<=rs.length/\k=.int .i64 (kk:Int)/\m=.int .i64 ((cntK rs (rs[j]'hjl).pt kk:Nat):Int)/\∃q,wq=wr.drewN q) (λ_ k _=>rs.length-(intOf k).toNat)
   case atStart=>exact⟨0,Nat.zero_le _,rfl,by rw[Qk7];rfl,0,rfl⟩
   case round=>
    obtain⟨kk,hk,rfl,rfl,q,rfl⟩:=hrel
    by_cases hkl:kk<rs.length
    ·have hki:(kk:Int)<(rs.length:Int):=omQ;have hk0:(0:Int)<=(kk:Int):=omQ;have d0:wr.cell? ⟨g,kk*5,none⟩=some (.int .i64 ((rs[kk]'hkl).pt:Int)):=(Hc.out kk hkl 0).resolve_right (by simp);have hsu:=Qk6 rs (rs[j]'hjl).pt kk hkl;have hcl:=Qm2 rs (rs[j]'hjl).pt kk
     by_cases hlt:(rs[kk]'hkl).pt<(rs[j]'hjl).pt
     ·have hlti:((rs[kk]'hkl).pt:Int)<((rs[j]'hjl).pt:Int):=omQ;rw[if_pos hlt]at hsu;have Hsu:=hdQ hsu;clear hsu hlt;go_wp2
      go_quiet (fail)
      go_wp2
      go_roundw
      case rel=>exact⟨kk+1,by omega,by go_num,by rw[Hsu.out];go_num,q+nq,by simp[World.drewN]⟩
      case measure=>simp[intOf];omega
     ·have hlti:¬(((rs[kk]'hkl).pt:Int)<((rs[j]'hjl).pt:Int)):=omQ;rw[if_neg hlt]at hsu;have Hsu:=hdQ hsu;clear hsu hlt;go_wp2
      go_quiet (fail)
      go_wp2
      go_roundw
      case rel=>exact⟨kk+1,by omega,by go_num,by rw[Hsu.out];rfl,q+nq,by simp[World.drewN]⟩
      case measure=>simp[intOf];omega
    ·have hkk:kk=rs.length:=omQ;subst hkk;rw[Qk8];have hrl:=Qm1 hjl;have hpl:=QhL rs j hjl;have hbj:=hb _ (List.getElem_mem hjl);have c1:(wr.drewN q).cell? ⟨g,j*5,none⟩=some (.int .i64 ((rs[j]'hjl).pt:Int)):=c0;have c2:(wr.drewN q).cell? ⟨g,j*5+1,none⟩=some (.string (rs[j]'hjl).tx):=(Hc.out j hjl 1).resolve_right (by simp);have c3:(wr.drewN q).cell? ⟨g,j*5+2,none⟩=some (.int .i64 ((rs[j]'hjl).live:Int)):=(Hc.out j hjl 2).resolve_right (by simp);have c4:(wr.drewN q).cell? ⟨g,j*5+3,none⟩=some (.int .i64 (rs[j]'hjl).sum):=(Hc.out j hjl 3).resolve_right (by simp);have c5:(wr.drewN q).cell? ⟨g,j*5+4,none⟩=some (.int .i64 ((rs[j]'hjl).ev:Int)):=(Hc.out j hjl 4).resolve_right (by simp)
     have HOq:=show Hid (_/\_)from And.intro (Qdm HO.out.1 q) (below_drewN HO.out.2 q)
     clear c0 HO Hc HRr;generalize wr.drewN q=wq at c1 c2 c3 c4 c5 HOq ⊢;generalize rankR rs (rs[j]'hjl).pt=n at hrl hpl ⊢;generalize rs[j]'hjl=r at c1 c2 c3 c4 c5 hpl hbj;obtain⟨rp,rt,rl,rsm,re⟩:=r;obtain⟨b1,b2,b3⟩:=hbj;simp only at c1 c2 c3 c4 c5 b1 b2 b3
     have hfin:((((((rt++⟨#[32]⟩++⟨(decI (rl:Int)).toArray⟩)++⟨#[32]⟩)++⟨(decI (wrap16 rsm)).toArray⟩)++⟨#[32]⟩)++⟨(decI ((re:Int) % 256)).toArray⟩)++⟨#[59]⟩)=(⟨(rowText ⟨rp,rt,rl,rsm,re⟩).toArray⟩:ByteArray):=by
      apply QcI;unfold rowText;simp
     have Hfin:=hdQ hfin;clear hfin;have hwr:=QbZ rsm
     have h1:=show Hid _ from λw=>Qc5 (rl:Int) w omQ omQ
     have h2:=show Hid _ from λw=>Qc5 (wrap16 rsm) w omQ omQ
     have h3:=show Hid _ from λw=>Qc5 ((re:Int) % 256) w omQ omQ
     have hW:=show Hid _ from λw=>QgJ rsm w
     have hL:=Qce (rl:Int) omQ omQ;have hSl:=Qce (wrap16 rsm) omQ omQ;have hV:=Qce ((re:Int) % 256) omQ omQ;have hq:(re:Int).tmod 256=(re:Int) % 256:=Int.tmod_eq_emod_of_nonneg omQ;generalize decI (rl:Int)=L at hL h1 Hfin;generalize decI (wrap16 rsm)=S0 at hSl h2 Hfin;generalize decI ((re:Int) % 256)=V at hV h3 Hfin
     have hLs:(⟨L.toArray⟩:ByteArray).size=L.length:=by simp[ByteArray.size]
     have hSs:(⟨S0.toArray⟩:ByteArray).size=S0.length:=by simp[ByteArray.size]
     have hVs:(⟨V.toArray⟩:ByteArray).size=V.length:=by simp[ByteArray.size]
     have h32:(⟨#[32]⟩:ByteArray).size=1:=rfl;have h59:(⟨#[59]⟩:ByteArray).size=1:=rfl;generalize(⟨L.toArray⟩:ByteArray)=BL at hLs h1 Hfin;generalize(⟨S0.toArray⟩:ByteArray)=BS at hSs h2 Hfin;generalize(⟨V.toArray⟩:ByteArray)=BV at hVs h3 Hfin;have Hpl:=hdQ hpl;clear hpl;have hni:(n:Int)<(rs.length:Int):=omQ;have hn0:(0:Int)<=(n:Int):=omQ;have HO:=HOq;clear HOq;go_wp2;clear c1 c2 c3 c4 c5;have hS0:(wq.alloc (.cells #[.int .i64 (rp:Int),.string rt,.int .i64 (rl:Int),.int .i64 rsm,.int .i64 (re:Int)] 140)).drew.heap[wq.heap.size]? =some (.cells #[.int .i64 (rp:Int),.string rt,.int .i64 (rl:Int),.int .i64 rsm,.int .i64 (re:Int)] 140 (0,0)):=heap_alloc_new wq _
     have HO2:=show Hid (_/\_)from And.intro (QcK (HO.out.1.alloc (.cells #[.int .i64 (rp:Int),.string rt,.int .i64 (rl:Int),.int .i64 rsm,.int .i64 (re:Int)] 140))) (HO.out.2.alloc (by have:=HO.out.2.size;omega) (.cells #[.int .i64 (rp:Int),.string rt,.int .i64 (rl:Int),.int .i64 rsm,.int .i64 (re:Int)] 140)).drew
     have hrb:w.heap.size<wq.heap.size:=(Qbt HO.out.1).2;clear HO;refine wp_region_held_drew (S:=λw':World=>w'.heap[wq.heap.size]? =some (.cells #[.int .i64 (rp:Int),.string rt,.int .i64 (rl:Int),.int .i64 rsm,.int .i64 (re:Int)] 140 (0,0))) krQ hS0 (λhH=>?_);generalize(wq.alloc (.cells #[.int .i64 (rp:Int),.string rt,.int .i64 (rl:Int),.int .i64 rsm,.int .i64 (re:Int)] 140)).drew=wd at HO2 hH ⊢;clear hS0;generalize wq.heap.size=rb at hH hrb ⊢;refine tkQ 0 (.slice (some ⟨w.heap.size,0,none⟩) rs.length rs.length) hH ?_;refine tkQ 1 (.int .i64 (n:Int)) hH ?_;refine tkQ 2 (.pointer (some ⟨rb,1,none⟩)) hH ?_;refine tlQ 3 (.string rt) rfl (by intro v hSw;have s0:v.cell? ⟨rb,1,none⟩=some (.string rt):=Qaa hSw 1;clear hSw;go_simp) hH ?_;refine tlQ 4 (.string (rt++⟨#[32]⟩)) rfl (by intro v hSw;clear hSw;go_simp;omega) hH ?_;refine tkQ 5 (.pointer (some ⟨rb,2,none⟩)) hH ?_;refine tlQ 6 (.int .i64 (rl:Int)) rfl (by intro v hSw;have s0:v.cell? ⟨rb,2,none⟩=some (.int .i64 (rl:Int)):=Qaa hSw 2;clear hSw;go_simp) hH ?_;refine tkQ 10 (.pointer (some ⟨rb,3,none⟩)) hH ?_;refine tlQ 11 (.int .i64 rsm) rfl (by intro v hSw;have s0:v.cell? ⟨rb,3,none⟩=some (.int .i64 rsm):=Qaa hSw 3;clear hSw;go_simp) hH ?_;refine tkQ 16 (.pointer (some ⟨rb,4,none⟩)) hH ?_;refine tlQ 17 (.int .i64 (re:Int)) rfl (by intro v hSw;have s0:v.cell? ⟨rb,4,none⟩=some (.int .i64 (re:Int)):=Qaa hSw 4;clear hSw;go_simp) hH ?_;refine tkQ 18 (.int .i64 ((re:Int) % 256)) hH ?_;refine rdQ [7] ?_
     refine arQ λK hK=>?_
     have HS:=show Hid (_=_)from hH
     clear hH;go_simp
     go_wp2_with(go_at_call 66;refine(h1.out _).mono ?_;rintro en w2 ⟨rfl,mw2,rfl⟩)
     refine hK.out _ _ HS.out (λhH=>?_);clear hK K HS;refine tlQ 8 (.string (rt++⟨#[32]⟩++BL)) rfl (by intro v hSw;clear hSw;go_simp;omega) hH ?_;refine tlQ 9 (.string (rt++⟨#[32]⟩++BL++⟨#[32]⟩)) rfl (by intro v hSw;clear hSw;go_simp;omega) hH ?_;refine rdQ [12] ?_
     refine arQ λK hK=>?_
     have HS:=show Hid (_=_)from hH
     clear hH;go_simp
     go_wp2_with(go_at_call 67;refine(hW.out _).mono ?_;rintro en w3 ⟨rfl,rfl⟩)
     refine hK.out _ _ HS.out (λhH=>?_);clear hK K HS;refine rdQ [13] ?_
     refine arQ λK hK=>?_
     have HS:=show Hid (_=_)from hH
     clear hH;go_simp
     go_wp2_with(go_at_call 66;refine(h2.out _).mono ?_;rintro en w4 ⟨rfl,mw4,rfl⟩)
     refine hK.out _ _ HS.out (λhH=>?_);clear hK K HS;refine tlQ 14 (.string (rt++⟨#[32]⟩++BL++⟨#[32]⟩++BS)) rfl (by intro v hSw;clear hSw;go_simp;omega) hH ?_;refine tlQ 15 (.string (rt++⟨#[32]⟩++BL++⟨#[32]⟩++BS++⟨#[32]⟩)) rfl (by intro v hSw;clear hSw;go_simp;omega) hH ?_;refine rdQ [19] ?_
     refine arQ λK hK=>?_
     have HS:=show Hid (_=_)from hH
     clear hH;go_simp
     go_wp2_with(go_at_call 66;refine(h3.out _).mono ?_;rintro en w5 ⟨rfl,mw5,rfl⟩)
     refine hK.out _ _ HS.out (λhH=>?_);clear hK K HS;refine tlQ 20 (.string (rt++⟨#[32]⟩++BL++⟨#[32]⟩++BS++⟨#[32]⟩++BV)) rfl (by intro v hSw;clear hSw;go_simp;omega) hH ?_;refine tlQ 21 (.string (rt++⟨#[32]⟩++BL++⟨#[32]⟩++BS++⟨#[32]⟩++BV++⟨#[59]⟩)) rfl (by intro v hSw;clear hSw;go_simp;omega) hH ?_;refine tkQ 22 (.pointer (some ⟨w.heap.size,n,none⟩)) hH ?_;refine rdQ [23] ?_
     refine arQ λK hK=>?_
     have HS:=show Hid (_=_)from hH
     clear hH
     have HO3:=show Hid (_/\_)from And.intro (Qdm HO2.out.1 (mw2+mw4+mw5)) (below_drewN HO2.out.2 (mw2+mw4+mw5))
     clear HO2 h1 h2 h3 hW;generalize wd.drewN (mw2+mw4+mw5)=wx at HO3 HS ⊢;have hr1:=HO3.out.1.stored n (.string (rt++⟨#[32]⟩++BL++⟨#[32]⟩++BS++⟨#[32]⟩++BV++⟨#[59]⟩))
     have he:(sCells (placed rs j)).set n (.string (rt++⟨#[32]⟩++BL++⟨#[32]⟩++BS++⟨#[32]⟩++BV++⟨#[59]⟩))=sCells (placed rs (j+1)):=by
      rw[Hpl.out,Hfin.out];unfold sCells;rw[List.map_set]
     rw[he]at hr1
     obtain⟨u,hu⟩:∃u,(sCells (placed rs j))[n]? =some u:=⟨_,List.getElem?_eq_getElem (by unfold sCells;rw[List.length_map,QbR];omega)⟩
     have s0:wx.cell? ⟨w.heap.size,n,none⟩=some u:=(HO3.out.1.cellAt n omQ).trans hu;have z0:wx.frozen? ⟨w.heap.size,n,none⟩=false:=HO3.out.1.frozenAt n
     have HN:=show Hid (_/\_/\_)from And.intro hr1.1 (And.intro (HO3.out.2.setCell (p:=⟨w.heap.size,n,none⟩) (Nat.le_refl _) (.string (rt++⟨#[32]⟩++BL++⟨#[32]⟩++BS++⟨#[32]⟩++BV++⟨#[59]⟩))) ((hr1.2.block rb (Qac HS.out) (by simp only[ne_eq,Option.some.injEq];omega)).trans HS.out))
     clear hr1 he hu HO3 HS Hpl Hfin;go_simp;refine hK.out _ _ HN.out.2.2 (λhH=>?_);clear hK K hH s0 z0;refine wpAnyH_done krQ ?_ _;generalize wx.setCell ⟨w.heap.size,n,none⟩ (.string (rt++⟨#[32]⟩++BL++⟨#[32]⟩++BS++⟨#[32]⟩++BV++⟨#[59]⟩))=wy at HN ⊢;go_wp2
     go_roundw
     case rel=>exact⟨j+1,by omega,by go_num,HN.out.1,HN.out.2.1⟩
     case measure=>simp[intOf];omega
  ·have hjj:j=rs.length:=omQ;subst hjj;have hpb:=Qhv hb rs.length;have hpn:=QbR rs rs.length
   obtain⟨ts,hts⟩:∃ts,placed rs rs.length=ts:=⟨_,rfl⟩
   rw[hts]at HO hpb hpn;have Hts:=hdQ hts;clear hts;clear HR HRr
   have hoc:∀k (hk:k<ts.length),wr.cell? ⟨w.heap.size,k,none⟩=some (.string ⟨ts[k].toArray⟩):=by
    intro k hk;refine(HO.out.1.cellAt k omQ).trans ?_;unfold sCells;rw[List.getElem?_map,List.getElem?_eq_getElem hk]
    rfl
   have Hoc:=hdQ hoc;clear hoc;go_wp2
   go_loopw [8,9] (λt i wv=>∃(k:Nat) (tx:ByteArray),k<=rs.length/\i=.int .i64 (k:Int)/\t=.string tx/\Hid (tx.data.toList=(ts.take k).flatten)/\wv=wr) (λ_ i _=>rs.length-(intOf i).toNat)
   case atStart=>exact⟨0,⟨#[]⟩,Nat.zero_le _,rfl,rfl,by show _=_;simp,rfl⟩
   case round=>
    obtain⟨k,tx,hk,rfl,rfl,htx,rfl⟩:=hrel
    by_cases hkl:k<rs.length
    ·have hkt:k<ts.length:=omQ;have c0:=Hoc.out k hkt;have hl:=hpb _ (List.getElem_mem hkt)
     have hsz:tx.size<=2000*1000:=by
      rw[<-Qam,htx.out]
      have h1:=QeE (ts.take k) λx hx=>hpb x (List.mem_of_mem_take hx)
      have h2:=List.length_take_le k ts;omega
     have hnx:(ts.take (k+1)).flatten=(ts.take k).flatten++ts[k]'hkt:=by
      rw[List.take_succ_eq_append_getElem hkt,List.flatten_append];simp
     have Hnx:=hdQ hnx;clear hnx;generalize ts[k]'hkt=L at c0 hl Hnx
     have hLs:(⟨L.toArray⟩:ByteArray).size=L.length:=by simp[ByteArray.size]
     have hLl:(⟨L.toArray⟩:ByteArray).data.toList=L:=by simp
     generalize(⟨L.toArray⟩:ByteArray)=BL at hLs hLl c0;have hki:(k:Int)<(rs.length:Int):=omQ;have hk0:(0:Int)<=(k:Int):=omQ;go_wp2
     go_roundw
     case rel=>exact⟨k+1,tx++BL,by omega,by go_num,rfl,by show _=_;rw[Hnx.out,ByteArray.data_append,Array.toList_append,htx.out,hLl],by first | trivial | rfl⟩
     case measure=>simp[intOf];omega
    ·have hkk:k=rs.length:=omQ
     have Ht:=show Hid (tx=⟨(ts.flatten).toArray⟩)from by
      show _=_
      apply QcI;rw[htx.out,hkk,<-hpn,List.take_length]
     go_wp2;go_ret;exact⟨by rw[Hts.out,<-Ht.out];rfl,HO.out.2⟩
end
end Go.Proofs.YthccpacmklhejabGreatDoor
