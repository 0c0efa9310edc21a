import Derived.Test.YthccpacmklhejaaGreatDoorTk
import Derived.Test.YthccpacmklhejaaGreatDoorK30
import Derived.Test.YthccpacmklhejaaGreatDoorK20
set_option maxHeartbeats 4000000
set_option maxRecDepth 100000
namespace Go.Proofs.YthccpacmklhejaaGreatDoor
section
open Go.RowKit
section
variable {CJ RJ:CJT} {f:Owners} {W:World} {wb:Nat} {v:Nat->Value} {xs:Nat->List Value} {n:Nat->Nat} {js:List JE} {is:List IEnt} {es:List EEnt} {cnt:Nat}
structure KE (CJ RJ:CJT) (W0 W:World) (wb:Nat) (js:List JE) (is:List IEnt) (E:List EEnt) (cnt k:Nat) (m:Ev) (l:Value) (ln:Nat) (v3 v5:Value) (x3 x5:List Value) (n3 n5 mb:Nat):Prop where
 ex:∃f v xs n,LInv CJ RJ f W wb v xs n js is E cnt/\v 3=v3/\v 5=v5/\xs 3=x3/\xs 5=x5/\n 3=n3/\n 5=n5/\(n 0=js.length/\n 1=js.length/\n 2=is.length/\n 4=is.length/\xs 0=js.map JE.pv/\xs 1=js.map JE.rv/\xs 2=is.map IEnt.v/\xs 4=is.map λx=>.int .i64 x.m)/\OwnR f W 41 4 (4*k+3) l ln (rep ln (evCells1 m))/\f mb=none
 hk:k<cnt
 own:∀x∈E,x.k=k->x.m=m/\x.n<=ln
 oth:∀x∈is,x.k≠k
 bel:Below wb W0 W
 mbox:W.heap[mb]? =some (.cells #[.int .u8 (m.op:Int),.string m.key,.int .u16 (m.seq:Int),.int .i16 m.val] 41 (0,0))
theorem Qcd{f:Owners}{S:Nat->Prop}{w w':World}{g:Nat}{o:Obj}(h:w.heap[g]? =some o)(hf:FrmO f S w w')(hg:f g=none):w'.heap[g]? =some o:=
 (hf.keep g (Qac h) λc hc=>by rw[hg]at hc;cases hc).trans h
variable {W0:World} {E:List EEnt} {k:Nat} {m:Ev} {v3 v5:Value} {x3 x5:List Value} {n3 n5 mb:Nat}
theorem KE.shape2{l:Value}{ln:Nat}(h:KE CJ RJ W0 W wb js is E cnt k m l ln v3 v5 x3 x5 n3 n5 mb):W.ownsRow 0 35 1 v3 n3 x3/\W.ownsRow 0 41 4 v5 n5 x5/\W.ownsRow 0 41 4 l ln (rep ln (evCells1 m))/\W.cell? ⟨wb,3,none⟩=some v3/\W.cell? ⟨wb,5,none⟩=some v5:=by
 obtain⟨f,v,xs,n,h1,rfl,rfl,rfl,rfl,rfl,rfl,_,h9,_⟩:=h.ex;exact⟨(h1.rows 3 (by decide)).row,(h1.rows 5 (by decide)).row,h9.row,h1.cellAt 3 (by decide),h1.cellAt 5 (by decide)⟩
theorem KE.old(KC:KeepsJ CJ)(KR:KeepsJ RJ){l:Value}{ln:Nat}(h:KE CJ RJ W0 W wb js is E cnt k m l ln v3 v5 x3 x5 n3 n5 mb){W':World}(hb:Below W.heap.size W W'):KE CJ RJ W0 W' wb js is E cnt k m l ln v3 v5 x3 x5 n3 n5 mb:=by
 obtain⟨f,v,xs,n,h1,rfl,rfl,rfl,rfl,rfl,rfl,hr,h9,hm⟩:=h.ex;have hf:FrmO f (λ_=>False) W W':=.of_below hb;exact⟨⟨f,v,xs,n,h1.old KC KR hb,rfl,rfl,rfl,rfl,rfl,rfl,hr,h9.frm hf (Same.refl _ _) id,hm⟩,h.hk,h.own,h.oth,h.bel.trans (h1.below hf),Qcd h.mbox hf hm⟩
theorem KE.stepA(KC:KeepsJ CJ)(KR:KeepsJ RJ){la:Option Addr}{ln lc:Nat}(h:KE CJ RJ W0 W wb js is E cnt k m (.slice la ln lc) ln v3 v5 x3 x5 n3 n5 mb){wa w5:World}{v':Value}(hba:Below W.heap.size W wa)(hrow:w5.ownsRow 0 35 1 v' (n3+1) (x3++[.slice la ln lc]))(happ:AppQ wa w5 v3 v'):
  w5.cell? ⟨wb,3,none⟩=some v3/\w5.frozen? ⟨wb,3,none⟩=false/\KE CJ RJ W0 (w5.setCell ⟨wb,3,none⟩ v') wb js is E cnt k m (.slice la ln lc) ln v' v5 (x3++[.slice la ln lc]) x5 (n3+1) n5 mb:=by
 obtain⟨f,v,xs,n,h1,rfl,rfl,rfl,rfl,rfl,rfl,hr,h9,hm⟩:=h.ex;obtain⟨a1,a2,f',a3,a4,a5⟩:=h1.app KC KR 3 (by decide) (m:=1) hba hrow happ;refine⟨a1,a2,⟨f',_,_,_,a3,Qay _ _ _,Qap _ _ (by decide),Qay _ _ _,Qap _ _ (by decide),Qay _ _ _,Qap _ _ (by decide),?_,h9.frm a4 a5 omQ,(a5 mb (Qac h.mbox)).trans hm⟩,h.hk,h.own,h.oth,h.bel.trans (h1.below a4),Qcd h.mbox a4 hm⟩;simp only[Qap _ _ (show(0:Nat)≠3 by decide),Qap _ _ (show(1:Nat)≠3 by decide),Qap _ _ (show(2:Nat)≠3 by decide),Qap _ _ (show(4:Nat)≠3 by decide)];exact hr
theorem KE.stepB(KC:KeepsJ CJ)(KR:KeepsJ RJ){la:Option Addr}{ln lc:Nat}(h:KE CJ RJ W0 W wb js is E cnt k m (.slice la ln lc) ln v3 v5 x3 x5 n3 n5 mb)(hln:ln<=1000){wa w5:World}{v':Value}(hba:Below W.heap.size W wa)(hrow:w5.ownsRow 0 41 4 v' (n5+1) (x5++evCells1 m))(happ:AppQ wa w5 v5 v'):
  w5.cell? ⟨wb,5,none⟩=some v5/\w5.frozen? ⟨wb,5,none⟩=false/\w5.heap[mb]? =some (.cells #[.int .u8 (m.op:Int),.string m.key,.int .u16 (m.seq:Int),.int .i16 m.val] 41 (0,0))/\KE CJ RJ W0 (w5.setCell ⟨wb,5,none⟩ v') wb js is (E++[⟨la,ln,lc,m,k⟩]) cnt k m (.slice la ln lc) ln v3 v' x3 (x5++evCells1 m) n3 (n5+1) mb:=by
 obtain⟨f,v,xs,n,h1,rfl,rfl,rfl,rfl,rfl,rfl,hr,h9,hm⟩:=h.ex;obtain⟨a1,a2,f',a3,a4,a5⟩:=h1.app KC KR 5 (by decide) (m:=1) hba hrow happ;have h9':=h9.frm a4 a5 omQ;have a6:=a3.addE ⟨la,ln,lc,m,k⟩ h.hk hln (HoldsG.of_own h9')
 have hmw:mb≠wb:=λe=>by rw[e,h1.obox]at hm;cases hm
 have hm5:w5.heap[mb]? =some (.cells #[.int .u8 (m.op:Int),.string m.key,.int .u16 (m.seq:Int),.int .i16 m.val] 41 (0,0)):=by
  have:=Qcd h.mbox a4 hm;rw[Below.heap_setCell _ _ _ _ hmw]at this;exact this
 refine⟨a1,a2,hm5,⟨f',_,_,_,a6,Qap _ _ (by decide),Qay _ _ _,Qap _ _ (by decide),Qay _ _ _,Qap _ _ (by decide),Qay _ _ _,?_,h9',(a5 mb (Qac h.mbox)).trans hm⟩,h.hk,λx hx=>?_,h.oth,h.bel.trans (h1.below a4),Qcd h.mbox a4 hm⟩
 ·simp only[Qap _ _ (show(0:Nat)≠5 by decide),Qap _ _ (show(1:Nat)≠5 by decide),Qap _ _ (show(2:Nat)≠5 by decide),Qap _ _ (show(4:Nat)≠5 by decide)];exact hr
 ·rcases List.mem_append.1 hx with hx | hx
  ·exact h.own x hx
  ·simp only[List.mem_cons,List.not_mem_nil,or_false]at hx;subst hx
   exact λ_=>⟨rfl,Nat.le_refl _⟩
theorem KE.stepC(KC:KeepsJ CJ)(KR:KeepsJ RJ){l:Value}{ln:Nat}(h:KE CJ RJ W0 W wb js is E cnt k m l ln v3 v5 x3 x5 n3 n5 mb){wa w5:World}{l':Value}(hba:Below W.heap.size W wa)(hrow:w5.ownsRow 0 41 4 l' (ln+1) (rep ln (evCells1 m)++evCells1 m))(happ:AppQ wa w5 l l'):
  KE CJ RJ W0 w5 wb js is E cnt k m l' (ln+1) v3 v5 x3 x5 n3 n5 mb:=by
 obtain⟨f,v,xs,n,h1,rfl,rfl,rfl,rfl,rfl,rfl,hr,h9,hm⟩:=h.ex;obtain⟨f',a3,a4,a5,a6⟩:=h1.growE KC KR hba h9 hrow happ h.own h.oth;exact⟨⟨f',v,xs,n,a3,rfl,rfl,rfl,rfl,rfl,rfl,hr,a4,(a6 mb (Qac h.mbox)).trans hm⟩,h.hk,λx hx e=>⟨(h.own x hx e).1,by have:=(h.own x hx e).2;omega⟩,h.oth,h.bel.trans (h1.below a5),Qcd h.mbox a5 hm⟩
theorem Qfw(KC:KeepsJ CJ)(KR:KeepsJ RJ)(h:LInv CJ RJ f W wb v xs n js is es cnt)(hR:LRest xs n js is es)(la:Option Addr)(ln lc:Nat)(ys:List Ev)(hyl:ys.length=ln)(hl:OwnR f W 41 4 (4*cnt+3) (.slice la ln lc) ln (evCells ys))(hln:ln<=900)(hcnt:cnt<=2000000000000)(hlen:es.length<=6400000000000):
  Calls Tryz.prog 39 #[.pointer (some ⟨wb,0,none⟩),.slice la ln lc] W λe w'=>e=.returned (.tuple #[])/\∃f' v' xs' n' es',LInv CJ RJ f' w' wb v' xs' n' js is es' (cnt+1)/\LRest xs' n' js is es'/\es'.length=es.length+4/\Below wb W w':=by
 have b6:=h.cell6;have f6:W.frozen? ⟨wb,6,none⟩=false:=Qab h.box 6;obtain⟨hc1,hc2⟩:=h.count KC KR
 have hlo:∀x∈is,x.k<cnt:=λx hx=>(h.hi x hx).1
 have hle:∀x∈es,x.k<cnt:=λx hx=>(h.he x hx).1
 have HM:=show Hid (Calls Tryz.prog 65 #[.pointer (some ⟨wb,0,none⟩)] W λe w'=>e=.returned (.int .i64 (-((cnt:Int)+1)))/\∃f1,LInv CJ RJ f1 w' wb v xs n js is es (cnt+1)/\OwnR f1 w' 41 4 (4*cnt+3) (.slice la ln lc) ln (evCells ys)/\Below wb W w'/\f1 w'.heap.size=none)from by
  refine(QgR W wb cnt b6 f6 omQ).mono ?_;rintro e w1 ⟨rfl,rfl⟩
  obtain⟨f1,hf1⟩:∃f1:Owners,f1=λg=>if g<(W.setCell ⟨wb,6,none⟩ (.int .i64 ((cnt:Int)+1))).heap.size then f g else none:=⟨_,rfl⟩
  have hs:Same (W.setCell ⟨wb,6,none⟩ (.int .i64 ((cnt:Int)+1))).heap.size f f1:=λg hg=>by rw[hf1];simp only[if_pos hg]
  refine⟨rfl,f1,hc1.keep KC KR (FrmO.refl _ (λ_=>False) _) hs (λ_ h=>h),(hl.frm hc2 (Same.refl _ _) omQ).frm (FrmO.refl _ (λ_=>False) _) hs id,h.below hc2,?_⟩;rw[hf1];simp
 have HR:=hdQ hR
 have HY:=show Hid (ys.length=ln)from hyl
 have HLO:=show Hid (_/\_)from And.intro hlo hle
 obtain⟨i0,hi0,hz0,hz1,hz2⟩:=info_parts Tryz.infoSl;obtain⟨i1,hi1,hy0,hy1,hy2⟩:=info_parts Tryz.infoEv;clear h hl b6 f6 hc1 hc2 hlo hle hR hyl;go_enter Tryz.func39,Tryz.ntmps39
 go_wp2_with fail
 refine HM.out.mono ?_;rintro e w1 ⟨rfl,f1,hI,hl,hb1,hfree⟩;clear HM
 obtain⟨sq,hsq⟩:∃sq:Nat,IntKind.u16.wrap (-((cnt:Int)+1))=(sq:Int):=⟨((-((cnt:Int)+1)) % 65536).toNat,by rw[IntKind.wrap_u16];omega⟩
 obtain⟨vl,hvl⟩:∃vl:Int,IntKind.i16.wrap (wrap64 (-((cnt:Int)+1).tdiv 65536))=vl:=⟨_,rfl⟩
 have H0:=show Hid (LInv CJ RJ f1 (w1.alloc (.cells #[.int .u8 7,.string ⟨#[109,97,114,107]⟩,.int .u16 (sq:Int),.int .i16 vl] 41)) wb v xs n js is es (cnt+1)/\OwnR f1 (w1.alloc (.cells #[.int .u8 7,.string ⟨#[109,97,114,107]⟩,.int .u16 (sq:Int),.int .i16 vl] 41)) 41 4 (4*cnt+3) (.slice la ln lc) ln (evCells ys)/\Below wb W (w1.alloc (.cells #[.int .u8 7,.string ⟨#[109,97,114,107]⟩,.int .u16 (sq:Int),.int .i16 vl] 41))/\(w1.alloc (.cells #[.int .u8 7,.string ⟨#[109,97,114,107]⟩,.int .u16 (sq:Int),.int .i16 vl] 41)).heap[w1.heap.size]? =some (.cells #[.int .u8 7,.string ⟨#[109,97,114,107]⟩,.int .u16 (sq:Int),.int .i16 vl] 41 (0,0))/\f1 w1.heap.size=none)from by
  have hbA:=(Below.refl w1.heap.size w1).alloc (Nat.le_refl _) (.cells #[.int .u8 7,.string ⟨#[109,97,114,107]⟩,.int .u16 (sq:Int),.int .i16 vl] 41);have hfA:FrmO f1 (λ_=>False) w1 (w1.alloc (.cells #[.int .u8 7,.string ⟨#[109,97,114,107]⟩,.int .u16 (sq:Int),.int .i16 vl] 41)):=.of_below hbA;exact⟨hI.old KC KR hbA,hl.frm hfA (Same.refl _ _) id,hb1.trans (hI.below hfA),heap_alloc_new w1 _,hfree⟩
 clear hI hl hb1 hfree;go_wp2;clear hsq hvl;generalize(w1.alloc (.cells #[.int .u8 7,.string ⟨#[109,97,114,107]⟩,.int .u16 (sq:Int),.int .i16 vl] 41))=w2 at H0 ⊢;generalize w1.heap.size=mb at H0 ⊢
 go_loopw [6] (λi wr=>∃k:Nat,k<=ln/\i=.int .i64 (k:Int)/\LInv CJ RJ f1 wr wb v xs n js is es (cnt+1)/\OwnR f1 wr 41 4 (4*cnt+3) (.slice la ln lc) ln (evCells (List.replicate k ⟨7,⟨#[109,97,114,107]⟩,sq,vl⟩++ys.drop k))/\Below wb W wr/\wr.heap[mb]? =some (.cells #[.int .u8 7,.string ⟨#[109,97,114,107]⟩,.int .u16 (sq:Int),.int .i16 vl] 41 (0,0))/\f1 mb=none) (λi _=>ln-(intOf i).toNat)
 case atStart=>exact⟨0,Nat.zero_le _,rfl,H0.out.1,by simpa using H0.out.2.1,H0.out.2.2.1,H0.out.2.2.2.1,H0.out.2.2.2.2⟩
 case round=>
  obtain⟨k,hk,rfl,hI,hl,hb,hmr,hfree⟩:=hrel;clear H0
  by_cases hkl:k<ln
  ·have hlr:=hl.row
   rcases Qai hlr with⟨_,h0⟩ | ⟨g,rfl⟩
   ·omega
   have og:f1 g=some (4*cnt+3):=hl.own g rfl
   have hkl2:k<ys.length:=by rw[HY.out];exact hkl
   have hc0:wr.cell? ⟨mb,0,none⟩=some (.int .u8 7):=Qad hmr 0;have hc1:wr.cell? ⟨mb,1,none⟩=some (.string ⟨#[109,97,114,107]⟩):=Qad hmr 1;have hc2:wr.cell? ⟨mb,2,none⟩=some (.int .u16 (sq:Int)):=Qad hmr 2;have hc3:wr.cell? ⟨mb,3,none⟩=some (.int .i16 vl):=Qad hmr 3;have hat:=QbY (List.replicate k ⟨7,⟨#[109,97,114,107]⟩,sq,vl⟩++ys.drop k) k (by simp;omega)
   have r1:=(hlr.stored (k*4) (.int .u8 7))
   have r2:=(r1.1.stored (k*4+1) (.string ⟨#[109,97,114,107]⟩))
   have r3:=(r2.1.stored (k*4+2) (.int .u16 (sq:Int)))
   have r4:=(r3.1.stored (k*4+3) (.int .i16 vl))
   have q0:=(hlr.cellAt (k*4) omQ).trans hat.1;have q1:=(r1.1.cellAt (k*4+1) omQ).trans ((List.getElem?_set_ne omQ).trans hat.2.1);have q2:=(r2.1.cellAt (k*4+2) omQ).trans ((List.getElem?_set_ne omQ).trans ((List.getElem?_set_ne omQ).trans hat.2.2.1));have q3:=(r3.1.cellAt (k*4+3) omQ).trans ((List.getElem?_set_ne omQ).trans ((List.getElem?_set_ne omQ).trans ((List.getElem?_set_ne omQ).trans hat.2.2.2)));have f0:=hlr.frozenAt (k*4);have f1':=r1.1.frozenAt (k*4+1);have f2:=r2.1.frozenAt (k*4+2);have f3:=r3.1.frozenAt (k*4+3);have hrow:=r4.1;have e4:((((evCells (List.replicate k ⟨7,⟨#[109,97,114,107]⟩,sq,vl⟩++ys.drop k)).set (k*4) (.int .u8 7)).set (k*4+1) (.string ⟨#[109,97,114,107]⟩)).set (k*4+2) (.int .u16 (sq:Int))).set (k*4+3) (.int .i16 vl)=evCells (List.replicate (k+1) ⟨7,⟨#[109,97,114,107]⟩,sq,vl⟩++ys.drop (k+1)):=Qkt ⟨7,⟨#[109,97,114,107]⟩,sq,vl⟩ ys k hkl2;rw[e4]at hrow
   have one:∀(o:Nat) (u:Value) (w:World),FrmO f1 (λc=>c=4*cnt+3) w (w.setCell ⟨g,o,none⟩ u):=λo u w=>FrmO.of_set (S:=λc=>c=4*cnt+3) og rfl _
   have hfr:=(((one (k*4) (.int .u8 7) wr).trans (Same.refl _ _) (one (k*4+1) (.string ⟨#[109,97,114,107]⟩) _)).trans (Same.refl _ _) (one (k*4+2) (.int .u16 (sq:Int)) _)).trans (Same.refl _ _) (one (k*4+3) (.int .i16 vl) _);have hki:(k:Int)<(ln:Int):=omQ;have hk0:(0:Int)<=(k:Int):=omQ
   have HN:=show Hid (_/\_/\_/\_)from And.intro (hI.other KC KR hfr (Same.refl _ _) (λx hx=>by have:=HLO.out.1 x hx;omega) (λx hx=>by have:=HLO.out.2 x hx;omega)) (And.intro (OwnR.mk hrow hl.own) (And.intro (hb.trans (hI.below hfr)) (Qcd hmr hfr hfree)))
   have Hfree:=show Hid (f1 mb=none)from hfree
   clear hI hl hlr r1 r2 r3 r4 hat e4 hrow hb hmr hfr one og hfree;go_wp2
   go_roundw
   case rel=>exact⟨k+1,by omega,by go_num,HN.out.1,HN.out.2.1,HN.out.2.2.1,HN.out.2.2.2,Hfree.out⟩
   case measure=>simp[intOf];omega
  ·have hkk:k=ln:=omQ;subst hkk;rw[List.drop_eq_nil_of_le (by rw[HY.out];exact Nat.le_refl _),List.append_nil,<-Qm1]at hl
   have HK:=show Hid (KE CJ RJ W wr wb js is es (cnt+1) cnt ⟨7,⟨#[109,97,114,107]⟩,sq,vl⟩ (.slice la k lc) k (v 3) (v 5) (es.map EEnt.v) (evCells (es.map EEnt.m)) es.length es.length mb)from
    ⟨⟨f1,v,xs,n,hI,rfl,rfl,HR.out.x3,HR.out.x5,HR.out.n3,HR.out.n5,⟨HR.out.n0,HR.out.n1,HR.out.n2,HR.out.n4,HR.out.x0,HR.out.x1,HR.out.x2,HR.out.x4⟩,hl,hfree⟩,Nat.lt_succ_self _,λx hx e=>by have:=HLO.out.2 x hx;omega,λx hx=>by have:=HLO.out.1 x hx;omega,hb,hmr⟩
   clear hI hl hb HY HLO HR hmr hfree;go_wp2
   go_loopw [1,7] (λs1 i wr=>∃(j:Nat) (E:List EEnt) (la':Option Addr) (lc':Nat) (v3 v5:Value),j<=4/\i=.int .i64 (j:Int)/\s1=.slice la' (k+j) lc'/\E.length=es.length+j/\KE CJ RJ W wr wb js is E (cnt+1) cnt ⟨7,⟨#[109,97,114,107]⟩,sq,vl⟩ (.slice la' (k+j) lc') (k+j) v3 v5 (E.map EEnt.v) (evCells (E.map EEnt.m)) E.length E.length mb) (λ_ i _=>4-(intOf i).toNat)
   case atStart=>exact⟨0,es,la,lc,v 3,v 5,Nat.zero_le _,rfl,rfl,rfl,HK.out⟩
   case round=>
    obtain⟨j,E,la',lc',v3,v5,hj,rfl,rfl,hEl,hK⟩:=hrel;clear HK
    by_cases hj4:j<4
    ·have hji:(j:Int)<4:=omQ;obtain⟨r3,r5,rl,c3,c5⟩:=hK.shape2;obtain⟨a3,d3,rfl⟩:=Qaf r3;obtain⟨a5,d5,rfl⟩:=Qaf r5;have HK:=hdQ hK;clear hK rl c5;have hE1:E.length<=6400000000004:=omQ;generalize hEL:E.length=el at r3 r5 c3 HK;have HEL:=hdQ hEL;rw[hEL]at hE1 hEl;clear hEL;have HEl:=hdQ hEl;clear hEl r5;have HR3:=hdQ r3;clear r3
     go_wp2_with(first
      | (at_builtin;refine QaH _ rfl (.tmp 35) (.tmp 37) 33 rfl 0 35 i0 (.slice none 0 0) 1 24 Tryz.underlying33 hi0 hz0 hz1 hz2 rfl (by decide) (.slice a3 el d3) el (E.map EEnt.v) rfl (World.ownsRow.alloc HR3.out _) ⟨wr.heap.size,0,none⟩ 1 1 [.slice la' (k+j) lc'] rfl rfl (cell_one_new _ _ _) (Qk1 _ _ _) (by unfold maxLen;omega) (by omega) (Nat.zero_le _) (by decide) ?_;intro v3' w3 hown3 hfr3;obtain⟨q1,q2,hK2⟩:=HK.out.stepA KC KR ((Below.refl wr.heap.size wr).alloc (Nat.le_refl _) _) hown3 hfr3;obtain⟨a3',d3',rfl⟩:=Qaf hown3;have HK2:=show Hid _ from hK2;clear hK2 HK hown3 hfr3 HR3))
     clear q1 q2;generalize w3.setCell ⟨wb,3,none⟩ (.slice a3' (el+1) d3')=w4 at HK2 ⊢
     have HK3:=show Hid _ from HK2.out.old KC KR ((Below.refl w4.heap.size w4).drew)
     have hxd:w4.drew.heap[mb]? =some (.cells #[.int .u8 7,.string ⟨#[109,97,114,107]⟩,.int .u16 (sq:Int),.int .i16 vl] 41 (0,0)):=HK3.out.mbox;obtain⟨_,r5,_,_,c5⟩:=HK3.out.shape2;have HR5:=hdQ r5;clear HK2 r5;refine wp_region_held_drew (S:=λw':World=>w'.heap[mb]? =some (.cells #[.int .u8 7,.string ⟨#[109,97,114,107]⟩,.int .u16 (sq:Int),.int .i16 vl] 41 (0,0))) krQ hxd (λhH=>?_);generalize w4.drew=w5 at hxd HK3 HR5 c5 hH ⊢;refine tkQ 0 (.pointer (some ⟨wb,0,none⟩)) hH ?_;refine tkQ 1 (.pointer (some ⟨wb,0,none⟩)) hH ?_;refine tkQ 2 (.pointer (some ⟨wb,0,none⟩)) hH ?_;refine tkQ 3 (.pointer (some ⟨wb,5,none⟩)) hH ?_;refine tlQ 5 (.agg #[.int .u8 7,.string ⟨#[109,97,114,107]⟩,.int .u16 (sq:Int),.int .i16 vl]) rfl (by intro v hSw;have s0:v.cell? ⟨mb,0,none⟩=some (.int .u8 7):=Qaa hSw 0;have s1:v.cell? ⟨mb,1,none⟩=some (.string ⟨#[109,97,114,107]⟩):=Qaa hSw 1;have s2:v.cell? ⟨mb,2,none⟩=some (.int .u16 (sq:Int)):=Qaa hSw 2;have s3:v.cell? ⟨mb,3,none⟩=some (.int .i16 vl):=Qaa hSw 3;clear hSw;go_simp) hH ?_;have hba:=(Below.refl w5.heap.size w5).alloc (Nat.le_refl _) (.cells #[.int .u8 7,.string ⟨#[109,97,114,107]⟩,.int .u16 (sq:Int),.int .i16 vl] 41);have hb4:(w5.alloc (.cells #[.int .u8 7,.string ⟨#[109,97,114,107]⟩,.int .u16 (sq:Int),.int .i16 vl] 41)).heap[mb]? =some (.cells #[.int .u8 7,.string ⟨#[109,97,114,107]⟩,.int .u16 (sq:Int),.int .i16 vl] 41 (0,0)):=(Below.heap_alloc _ _ _ (Qac hxd)).trans hxd;have c5a:(w5.alloc (.cells #[.int .u8 7,.string ⟨#[109,97,114,107]⟩,.int .u16 (sq:Int),.int .i16 vl] 41)).cell? ⟨wb,5,none⟩=some (.slice a5 el d5):=(hba.cell (p:=⟨wb,5,none⟩) (by have:=HK3.out.bel;obtain⟨_,_,_,_,hI9,_⟩:=HK3.out.ex;exact hI9.wlt)).trans c5;have HBa:=hdQ hba;clear hba;refine rdQ [4,6] ?_;refine AllReadyH.cons rfl (λK hK=>?_) (arQ λK hK=>?_)
     focus
      clear hH;go_simp;refine hK.out _ _ hxd (λhH=>?_);clear hK K;refine rdQ [6] ?_
      refine arQ λK hK=>?_
      clear hH;go_simp;refine hK.out _ _ hb4 (λhH=>?_);clear hK K
     rotate_left
     focus
      clear hH;go_simp;refine hK.out _ _ hb4 (λhH=>?_);clear hK K;refine rdQ [4] ?_
      refine arQ λK hK=>?_
      clear hH;go_simp;refine hK.out _ _ hb4 (λhH=>?_);clear hK K
     all_goals
      refine rdQ [7] ?_
      refine arQ λK hK=>?_
      refine QaM rfl ?_;refine Qau _ (.tmp 45) (.tmp 47) 35 rfl 0 41 i1 (.agg #[.int .u8 0,.string ⟨#[]⟩,.int .u16 0,.int .i16 0]) 4 32 Tryz.underlying35 hi1 hy0 hy1 hy2 rfl (by decide) (.slice a5 el d5) el (evCells (E.map EEnt.m)) rfl (World.ownsRow.alloc HR5.out _) ⟨w5.heap.size,0,none⟩ 1 1 (evCells1 ⟨7,⟨#[109,97,114,107]⟩,sq,vl⟩) rfl rfl (by have:=QaC w5 (.int .u8 7) (.string ⟨#[109,97,114,107]⟩) (.int .u16 (sq:Int)) (.int .i16 vl) 41;simpa[evCells1]using this) (Qbl _) (by unfold maxLen;omega) (by omega) (Nat.zero_le _) (by decide) ?_;intro v5' w6 hown6 hfr6;obtain⟨q1,q2,q3,hK4⟩:=HK3.out.stepB KC KR omQ HBa.out hown6 hfr6;have HK4:=hdQ hK4;obtain⟨a5',d5',rfl⟩:=Qaf hown6;refine hK.out _ _ q3 (λhH=>?_);clear hK K hown6 hfr6 HK3 HR5 HBa hK4 c5a hb4 c5;refine tkQ 8 (.pointer (some ⟨wb,0,none⟩)) hH ?_;refine tkQ 9 (.pointer (some ⟨wb,5,none⟩)) hH ?_;refine rdQ [10] ?_
      refine arQ λK hK=>?_
      clear hH;go_simp;refine hK.out _ _ HK4.out.mbox (λhH=>?_);clear hK K hH q1 q2 q3 hxd;refine wpAnyH_done krQ ?_ _;generalize w6.setCell ⟨wb,5,none⟩ (.slice a5' (el+1) d5')=w7 at HK4 ⊢;have hm7:=HK4.out.mbox;have m0:w7.cell? ⟨mb,0,none⟩=some (.int .u8 7):=Qad hm7 0;have m1:w7.cell? ⟨mb,1,none⟩=some (.string ⟨#[109,97,114,107]⟩):=Qad hm7 1;have m2:w7.cell? ⟨mb,2,none⟩=some (.int .u16 (sq:Int)):=Qad hm7 2;have m3:w7.cell? ⟨mb,3,none⟩=some (.int .i16 vl):=Qad hm7 3
      have HRl:=show Hid _ from HK4.out.shape2.2.2.1
      clear hm7
      go_wp2_with(first
       | (at_builtin;refine QaH _ rfl (.tmp 51) (.tmp 53) 35 rfl 0 41 i1 (.agg #[.int .u8 0,.string ⟨#[]⟩,.int .u16 0,.int .i16 0]) 4 32 Tryz.underlying35 hi1 hy0 hy1 hy2 rfl (by decide) (.slice la' (k+j) lc') (k+j) (rep (k+j) (evCells1 ⟨7,⟨#[109,97,114,107]⟩,sq,vl⟩)) rfl (World.ownsRow.alloc HRl.out _) ⟨w7.heap.size,0,none⟩ 1 1 (evCells1 ⟨7,⟨#[109,97,114,107]⟩,sq,vl⟩) rfl rfl (by have:=QaC w7 (.int .u8 7) (.string ⟨#[109,97,114,107]⟩) (.int .u16 (sq:Int)) (.int .i16 vl) 41;simpa[evCells1]using this) (Qbl _) (by unfold maxLen;omega) (by omega) (Nat.zero_le _) (by decide) ?_;intro l' w8 hown8 hfr8;have hK5:=HK4.out.stepC KC KR ((Below.refl w7.heap.size w7).alloc (Nat.le_refl _) _) hown8 hfr8;obtain⟨al,dl,rfl⟩:=Qaf hown8;have HK5:=show Hid _ from hK5;clear hK5 HK4 hown8 hfr8 HRl m0 m1 m2 m3))
      go_roundw
      case rel=>
       refine⟨j+1,E++[⟨la',k+j,lc',⟨7,⟨#[109,97,114,107]⟩,sq,vl⟩,cnt⟩],al,dl,.slice a3' (el+1) d3',.slice a5' (el+1) d5',by omega,by go_num,rfl,by rw[List.length_append,HEL.out,HEl.out];simp;omega,?_⟩;have hh:=HK5.out
       have e2:∀x:EEnt,evCells ((E++[x]).map EEnt.m)=evCells (E.map EEnt.m)++evCells1 x.m:=λx=>by rw[List.map_append,QaU,List.map_cons,List.map_nil,QbN]
       rw[e2,List.map_append,List.length_append,HEL.out];exact hh
      case measure=>simp[intOf];omega
    ·have hjj:j=4:=omQ;subst hjj
     have HF:=show Hid (∃f' v' xs' n' es',LInv CJ RJ f' wr wb v' xs' n' js is es' (cnt+1)/\LRest xs' n' js is es'/\es'.length=es.length+4/\Below wb W wr)from by
      obtain⟨f',v',xs',n',q1,q2,q3,q4,q5,q6,q7,⟨r0,r1,r2,r4,y0,y1,y2,y4⟩,_⟩:=hK.ex;exact⟨f',v',xs',n',E,q1,⟨r0,r1,r2,q6,r4,q7,y0,y1,y2,q4,y4,q5⟩,hEl,hK.bel⟩
     clear hK hEl;go_wp2
     go_end0
     exact⟨rfl,HF.out⟩
end
end
section
open Go.RowKit
structure OpV where
 kind:Int
 a:Int
 b:Int
 s:ByteArray
 e:Ev
 c:Int
 d:Int
def OpV.cells(o:OpV):List Value:=[.int .i64 o.kind,.int .i64 o.a,.int .i64 o.b,.string o.s,.int .u8 (o.e.op:Int),.string o.e.key,.int .u16 (o.e.seq:Int),.int .i16 o.e.val,.int .i64 o.c,.int .i64 o.d]
theorem Qk2(W:World)(wb:Nat)(a b c d:Int)(s:ByteArray)(e:Ev)(hok:e.ok)(hks:e.key.size<=9223372036854775800):
  Calls Tryz.prog 11 #[.pointer (some ⟨wb,0,none⟩),.agg #[.int .i64 1,.int .i64 a,.int .i64 b,.string s,.int .u8 (e.op:Int),.string e.key,.int .u16 (e.seq:Int),.int .i16 e.val,.int .i64 c,.int .i64 d]] W λen w'=>en=.returned (.bool true)/\Below W.heap.size W w':=by
 have hE:=show Hid _ from λw=>QhE e w hok.2.1
 have hR:=show Hid _ from λw=>Qeo e w hok hks
 have hN:=hdQ Qcc;obtain⟨op,key,seq,val⟩:=e;unfold Ev.value at hE hR;simp only at hE hR ⊢;generalize encStr ⟨op,key,seq,val⟩=t at hE hR;generalize refuse ⟨op,key,seq,val⟩=r at hE hR;clear hok hks;go_enter Tryz.func11,Tryz.ntmps11
 go_wp2_with(first
  | (go_at_call 16;refine(hE.out _).mono ?_;rintro en w1 ⟨rfl,hb1⟩;have hx:=(hb1.block W.heap.size (by simp)).trans (heap_alloc_new W _);have c4:w1.cell? ⟨W.heap.size,4,none⟩=some (.int .u8 (op:Int)):=Qad hx 4;have c5:w1.cell? ⟨W.heap.size,5,none⟩=some (.string key):=Qad hx 5;have c6:w1.cell? ⟨W.heap.size,6,none⟩=some (.int .u16 (seq:Int)):=Qad hx 6;have c7:w1.cell? ⟨W.heap.size,7,none⟩=some (.int .i16 val):=Qad hx 7;have hz:=hb1.size;have hB1:=((Below.refl W.heap.size W).alloc (Nat.le_refl _) _).trans (hb1.mono (by simp));clear hx hb1 hE;simp only[World.size_alloc]at hz)
  | (go_at_call 17;refine(hR.out _).mono ?_;rintro en w2 ⟨rfl,hb2⟩)
  | (go_at_call 15;refine(hN.out _ _).mono ?_;rintro en w3 ⟨rfl,rfl⟩))
 go_ret;exact⟨rfl,hB1.trans (hb2.mono omQ)⟩
theorem Qk3(W:World)(wb:Nat)(k a b c d:Int)(s:ByteArray)(e:Ev)(hk:k<=0):
  Calls Tryz.prog 8 #[.pointer (some ⟨wb,0,none⟩),.agg #[.int .i64 k,.int .i64 a,.int .i64 b,.string s,.int .u8 (e.op:Int),.string e.key,.int .u16 (e.seq:Int),.int .i16 e.val,.int .i64 c,.int .i64 d]] W λen w'=>en=.returned (.bool true)/\Below W.heap.size W w':=by
 obtain⟨op,key,seq,val⟩:=e;have hk1:¬1<=k:=omQ;have hk4:¬4<=k:=omQ;have hk10:¬k=10:=omQ;go_enter Tryz.func8,Tryz.ntmps8;go_wp2;go_ret;exact⟨rfl,(Below.refl _ _).alloc (Nat.le_refl _) _⟩
def IsOps(w:World)(a:Option Addr)(ops:List OpV):Prop:=
 (∀o∈ops,o.e.ok/\o.e.key.size<=9223372036854775800)/\(ops=[]\/∃b off,a=some ⟨b,off,none⟩/\b<w.heap.size/\∀k (h:k<ops.length) j,j<10->w.cell? ⟨b,off+k*10+j,none⟩=(ops[k]).cells[j]?)
end
end Go.Proofs.YthccpacmklhejaaGreatDoor
