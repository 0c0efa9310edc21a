import Derived.Test.YthccpacmklhejabGreatDoorTk
import Derived.Test.YthccpacmklhejabGreatDoorK09
import Derived.Test.YthccpacmklhejabGreatDoorShelf
import Derived.Lib.AppendIntMem
import Derived.Test.YthccpacmklhejabGreatDoorK03
import Derived.ProofKit
import Derived.LaidMore
import Derived.OpenShut
import Derived.Stop.Joined
import Derived.Stop.LaidErr
import Derived.Lib.LaidTab
set_option maxHeartbeats 4000000
set_option maxRecDepth 100000
namespace Go.Proofs.YthccpacmklhejabGreatDoor
section
open Go.RowKit
theorem Qca:∀(k n:Nat),n<10 ^ (k+1)->Lib.decDigits n=decN n
 | 0,n,h=>by
  rw[QbJ omQ,Lib.decDigits,dif_pos omQ]
  rfl
 | k+1,n,h=>by
  by_cases h10:n<10
  ·rw[QbJ h10,Lib.decDigits,dif_pos h10]
   rfl
  ·rw[QeM h10,Lib.decDigits,dif_neg h10,Qca k (n / 10) (by rw[Nat.pow_succ]at h;omega)]
   rfl
theorem Qku(n:Int)(h1:-1000000<=n)(h2:n<=1000000):Lib.itoa n=decI n:=by
 unfold Lib.itoa decI;split
 ·rw[Qca 6 n.natAbs omQ,show n.natAbs=(-n).toNat by omega]
 ·rw[Qca 6 n.toNat omQ]
theorem Qbw(n:Int)(h1:-1000000<=n)(h2:n<=1000000):(decI n).length<=8:=by
 unfold decI;split
 ·have:=Qbg 6 (-n).toNat omQ;simp;omega
 ·have:=Qbg 6 n.toNat omQ;omega
def Tab(w:World):Prop:=Lib.TabIs Tryz.prog w "internal/strconv.uint64pow10" .u64 Lib.pow10Tab
theorem Tab.old{w w1:World}(h:Tab w)(hb:Below w.heap.size w w1):Tab w1:=Lib.tabBelow_of_tabIs h w1 hb
theorem QeR(n:Int)(h1:-1000000<=n)(h2:n<=1000000)(w:World)(ht:Tab w):
  Calls Tryz.prog 117 #[.int .i64 n] w λen w'=>en=.returned (.string ⟨(decI n).toArray⟩)/\Below w.heap.size w w':=by
 rw[<-Qku n h1 h2];refine(Tryz.strconv_Itoa n omQ omQ w ht).mono ?_;rintro e w1 ⟨rfl,k,os,rfl⟩;exact⟨rfl,Lib.below_grow _ _ (Nat.le_refl _) _ _⟩
def gText(r:GV):List UInt8:=(Utf8.encode (r.pt:Int)).data.toList++[32]++decI r.live++[32]++decI r.sum++[32]++decI r.ev++[59]
theorem Qkv(p:Nat)(l s e:Int)(ch:Bool)(w:World)(ht:Tab w)(hl:-100000<=l/\l<=100000)(hs:-32768<=s/\s<=32767)(he:0<=e/\e<=255):
  Calls Tryz.prog 104 #[.agg #[.int .i32 (p:Int),.int .i64 l,.int .i16 s,.int .u8 e,.bool ch]] w λen w'=>en=.returned (.string ⟨(gText ⟨p,l,s,e⟩).toArray⟩)/\Below w.heap.size w w':=by
 have hE:=QgF (p:Int);have hL:=Qbw l omQ omQ;have hS:=Qbw s omQ omQ;have hV:=Qbw e omQ omQ
 have h1:=show Hid _ from λw ht=>QeR l omQ omQ w ht
 have h2:=show Hid _ from λw ht=>QeR s omQ omQ w ht
 have h3:=show Hid _ from λw ht=>QeR e omQ omQ w ht
 have hfin:Utf8.encode (p:Int)++⟨#[32]⟩++⟨(decI l).toArray⟩++⟨#[32]⟩++⟨(decI s).toArray⟩++⟨#[32]⟩++⟨(decI e).toArray⟩++⟨#[59]⟩=(⟨(gText ⟨p,l,s,e⟩).toArray⟩:ByteArray):=by
  apply QcI;unfold gText;simp
 have Hfin:=hdQ hfin;clear hfin;have hw1:IntKind.i64.wrap s=s:=IntWalk.i64_in s ⟨by omega,by omega⟩;have hw2:IntKind.i64.wrap e=e:=IntWalk.i64_in e ⟨by omega,by omega⟩;generalize decI l=L at hL h1 Hfin;generalize decI s=S0 at hS h2 Hfin;generalize decI e=V at hV h3 Hfin
 have hLs:(⟨L.toArray⟩:ByteArray).size=L.length:=by simp[ByteArray.size]
 have hSs:(⟨S0.toArray⟩:ByteArray).size=S0.length:=by simp[ByteArray.size]
 have hVs:(⟨V.toArray⟩:ByteArray).size=V.length:=by simp[ByteArray.size]
 have h32:(⟨#[32]⟩:ByteArray).size=1:=rfl;have h59:(⟨#[59]⟩:ByteArray).size=1:=rfl;generalize(⟨L.toArray⟩:ByteArray)=BL at hLs h1 Hfin;generalize(⟨S0.toArray⟩:ByteArray)=BS at hSs h2 Hfin;generalize(⟨V.toArray⟩:ByteArray)=BV at hVs h3 Hfin
 have hH0:(w.alloc (.cells #[.int .i32 (p:Int),.int .i64 l,.int .i16 s,.int .u8 e,.bool ch] 175)).drew.heap[w.heap.size]? =some (.cells #[.int .i32 (p:Int),.int .i64 l,.int .i16 s,.int .u8 e,.bool ch] 175 (0,0))/\Tab (w.alloc (.cells #[.int .i32 (p:Int),.int .i64 l,.int .i16 s,.int .u8 e,.bool ch] 175)).drew:=⟨heap_alloc_new w _,ht.old ((Below.refl _ _).alloc (Nat.le_refl _) _).drew⟩
 have hb0:Below w.heap.size w (w.alloc (.cells #[.int .i32 (p:Int),.int .i64 l,.int .i16 s,.int .u8 e,.bool ch] 175)).drew:=((Below.refl _ _).alloc (Nat.le_refl _) _).drew;clear ht;go_enter Tryz.func104,Tryz.ntmps104;go_wp2
 have henc:∀v:World,(convert 21 9 (.int .i32 (p:Int))).run Tryz.prog v=.ok (.string (Utf8.encode (p:Int))) v:=by
  intro v;go_simp
 generalize Utf8.encode (p:Int)=E at hE henc Hfin;refine wp_region_held_drew (S:=λw':World=>w'.heap[w.heap.size]? =some (.cells #[.int .i32 (p:Int),.int .i64 l,.int .i16 s,.int .u8 e,.bool ch] 175 (0,0))/\Tab w') krQ hH0 (λhH=>?_);generalize(w.alloc (.cells #[.int .i32 (p:Int),.int .i64 l,.int .i16 s,.int .u8 e,.bool ch] 175)).drew=wd at hH hb0 ⊢;clear hH0;refine tkQ 0 (.pointer (some ⟨w.heap.size,0,none⟩)) hH ?_;refine tlQ 1 (.int .i32 (p:Int)) rfl (by intro v hSw;have s0:v.cell? ⟨w.heap.size,0,none⟩=some (.int .i32 (p:Int)):=Qaa hSw.1 0;clear hSw;go_simp) hH ?_;refine tkQ 2 (.string E) hH ?_;refine tlQ 3 (.string (E++⟨#[32]⟩)) rfl (by intro v hSw;clear hSw;go_simp;omega) hH ?_;refine tkQ 4 (.pointer (some ⟨w.heap.size,1,none⟩)) hH ?_;refine tlQ 5 (.int .i64 l) rfl (by intro v hSw;have s0:v.cell? ⟨w.heap.size,1,none⟩=some (.int .i64 l):=Qaa hSw.1 1;clear hSw;go_simp) hH ?_;refine tkQ 9 (.pointer (some ⟨w.heap.size,2,none⟩)) hH ?_;refine tlQ 10 (.int .i16 s) rfl (by intro v hSw;have s0:v.cell? ⟨w.heap.size,2,none⟩=some (.int .i16 s):=Qaa hSw.1 2;clear hSw;go_simp) hH ?_;refine tkQ 11 (.int .i64 s) hH ?_;refine tkQ 15 (.pointer (some ⟨w.heap.size,3,none⟩)) hH ?_;refine tlQ 16 (.int .u8 e) rfl (by intro v hSw;have s0:v.cell? ⟨w.heap.size,3,none⟩=some (.int .u8 e):=Qaa hSw.1 3;clear hSw;go_simp) hH ?_;refine tkQ 17 (.int .i64 e) hH ?_;refine rdQ [6] ?_
 refine arQ λK hK=>?_
 have Hw2:=show Hid (_/\_)from hH
 clear hH;go_simp
 go_wp2_with(go_at_call 117;refine(h1.out _ Hw2.out.2).mono ?_;rintro en w2 ⟨rfl,hbw2⟩)
 refine hK.out _ _ ⟨(hbw2.block _ (Qac Hw2.out.1)).trans Hw2.out.1,Hw2.out.2.old hbw2⟩ (λhH=>?_);clear hK K Hw2;refine tlQ 7 (.string (E++⟨#[32]⟩++BL)) rfl (by intro v hSw;clear hSw;go_simp;omega) hH ?_;refine tlQ 8 (.string (E++⟨#[32]⟩++BL++⟨#[32]⟩)) rfl (by intro v hSw;clear hSw;go_simp;omega) hH ?_;refine rdQ [12] ?_
 refine arQ λK hK=>?_
 have Hw3:=show Hid (_/\_)from hH
 clear hH;go_simp
 go_wp2_with(go_at_call 117;refine(h2.out _ Hw3.out.2).mono ?_;rintro en w3 ⟨rfl,hbw3⟩)
 refine hK.out _ _ ⟨(hbw3.block _ (Qac Hw3.out.1)).trans Hw3.out.1,Hw3.out.2.old hbw3⟩ (λhH=>?_);clear hK K Hw3;refine tlQ 13 (.string (E++⟨#[32]⟩++BL++⟨#[32]⟩++BS)) rfl (by intro v hSw;clear hSw;go_simp;omega) hH ?_;refine tlQ 14 (.string (E++⟨#[32]⟩++BL++⟨#[32]⟩++BS++⟨#[32]⟩)) rfl (by intro v hSw;clear hSw;go_simp;omega) hH ?_;refine rdQ [18] ?_
 refine arQ λK hK=>?_
 have Hw4:=show Hid (_/\_)from hH
 clear hH;go_simp
 go_wp2_with(go_at_call 117;refine(h3.out _ Hw4.out.2).mono ?_;rintro en w4 ⟨rfl,hbw4⟩)
 refine hK.out _ _ ⟨(hbw4.block _ (Qac Hw4.out.1)).trans Hw4.out.1,Hw4.out.2.old hbw4⟩ (λhH=>?_);clear hK K Hw4;refine tlQ 19 (.string (E++⟨#[32]⟩++BL++⟨#[32]⟩++BS++⟨#[32]⟩++BV)) rfl (by intro v hSw;clear hSw;go_simp;omega) hH ?_;refine tlQ 20 (.string (E++⟨#[32]⟩++BL++⟨#[32]⟩++BS++⟨#[32]⟩++BV++⟨#[59]⟩)) rfl (by intro v hSw;clear hSw;go_simp;omega) hH ?_;refine tkQ 21 (.string (E++⟨#[32]⟩++BL++⟨#[32]⟩++BS++⟨#[32]⟩++BV++⟨#[59]⟩)) hH ?_;refine wpAnyH_done krQ ?_ _;go_wp2;go_ret;refine⟨?_,?_⟩
 ·rw[<-Hfin.out]
  rfl
 ·exact((hb0.trans (hbw2.mono hb0.size)).trans (hbw3.mono (Nat.le_trans hb0.size hbw2.size))).trans (hbw4.mono (Nat.le_trans (Nat.le_trans hb0.size hbw2.size) hbw3.size))
end
section
open Go.ChangeShapes Go.WideShapes Go.ChangeAt Go.RowKit
theorem QlM:ownKnob Tryz.prog.godebug=none:=by kernel_rfl
theorem Qd0:laidOutB Tryz.prog=true:=by kernel_rfl
theorem QlN(os:Os)(args:Array Value):laidMetH Tryz.prog Rows.allRow.laid ((World.doorLaid Tryz.prog 24 os).forCall (λ_ _=>0) ⟨#[],args,[]⟩).memory:=
 laidMetH_of_parts3 (fuel:=8) (laidMet_of_run' 8 krQ krQ) krQ krQ
theorem Qkw:(Rows.laid_internal_strconv_uint64pow10:DataW Unit)=Lib.tabData .u64 Lib.pow10Tab:=by kernel_rfl
theorem QlO{W:World}(h:laidMetH Tryz.prog Rows.allRow.laid W):Tab W:=by
 rw[MakeChecks.laidMetH_plain _ _ _ krQ]at h;have h2:laidMet Tryz.prog [("internal/strconv.uint64pow10",Rows.laid_internal_strconv_uint64pow10)] W:=(show laidMet Tryz.prog (_ :: _ :: _) W from h).tail.tail;rw[Qkw]at h2;exact Lib.tabIs_of_head (g:=0) (t:=200) (e:=194) (n:=20) krQ krQ Tryz.underlying200 Tryz.underlying194 krQ krQ h2
end
section
open Go.RowKit
structure Rw where
 ty:TypeId
 sz:Nat
 v:Value
 n:Nat
 xs:List Value
structure Lay (w:World) (L:Nat->Rw):Prop where
 own:∀c,w.ownsRow 0 (L c).ty (L c).sz (L c).v (L c).n (L c).xs
 inj:∀c c' g,(L c).v.ownBlock=some g->(L c').v.ownBlock=some g->c=c'
def LX(L:Nat->Rw):Nat->Prop:=λg=>∃c,(L c).v.ownBlock=some g
def setL(L:Nat->Rw)(p o:Nat)(u:Value):Nat->Rw:=λx=>if x=p then{L p with xs:=(L p).xs.set o u}else L x
def putL(L:Nat->Rw)(p o c:Nat)(v:Value)(n:Nat)(xs:List Value):Nat->Rw:=λx=>if x=c then⟨(L c).ty,(L c).sz,v,n,xs⟩else if x=p then{L p with xs:=(L p).xs.set o v}else L x
theorem Qa9(L:Nat->Rw)(p o c:Nat)(v:Value)(n:Nat)(xs:List Value):putL L p o c v n xs c=⟨(L c).ty,(L c).sz,v,n,xs⟩:=if_pos rfl
theorem Qba{L:Nat->Rw}{p o c:Nat}{v:Value}{n:Nat}{xs:List Value}(h:p≠c):putL L p o c v n xs p={L p with xs:=(L p).xs.set o v}:=by unfold putL;rw[if_neg h,if_pos rfl]
theorem Qbb{L:Nat->Rw}{p o c:Nat}{v:Value}{n:Nat}{xs:List Value}{x:Nat}(h:x≠c)(h':x≠p):putL L p o c v n xs x=L x:=by unfold putL;rw[if_neg h,if_neg h']
theorem QgS(L:Nat->Rw)(p o:Nat)(u:Value):setL L p o u p={L p with xs:=(L p).xs.set o u}:=if_pos rfl
theorem QgT{L:Nat->Rw}{p o:Nat}{u:Value}{x:Nat}(h:x≠p):setL L p o u x=L x:=if_neg h
theorem QeS{X:Nat->Prop}{w w':World}{B n:Nat}{e:TypeId}{s:Nat}{v:Value}{xs:List Value}(h:w.ownsRow B e s v n xs)(hf:FrmX X w w')(hx:∀g,v.ownBlock=some g->¬X g):w'.ownsRow B e s v n xs:=by
 refine⟨h.1,?_⟩
 rcases h.2 with h0 | ⟨g,cap,cur,e1,e2,e3,e4⟩
 ·exact .inl h0
 ·exact .inr ⟨g,cap,cur,e1,e2,hf.block e3 (hx g (by rw[e1];rfl)),e4⟩
theorem Qgh{α:Type}(l:List α)(n o:Nat)(u:α):(l.set o u).take n=(l.take n).set o u:=List.take_set
theorem QgU{w:World}{n cap g o:Nat}{e:TypeId}{s:Nat}{xs:List Value}{cur:Array Value}(h:w.ownsRow 0 e s (.slice (some ⟨g,0,none⟩) n cap) n xs)(hc:w.heap[g]? =some (.cells cur e (0,0))){w':World}{u:Value}(hc':w'.heap[g]? =some (.cells (cur.setIfInBounds o u) e (0,0))):w'.ownsRow 0 e s (.slice (some ⟨g,0,none⟩) n cap) n (xs.set o u):=by
 refine⟨by rw[List.length_set];exact h.1,?_⟩
 rcases h.2 with⟨h0,_⟩ | ⟨g',cap',cur',e1,e2,e3,e4,e5,e6,e7⟩
 ·cases h0
 ·simp only[Value.slice.injEq,Option.some.injEq,Addr.mk.injEq,and_true,true_and]at e1;obtain⟨rfl,rfl⟩:=e1;rw[hc]at e3;simp only[Option.some.injEq,Obj.cells.injEq,and_true]at e3;subst e3;refine .inr ⟨g,cap,cur.setIfInBounds o u,rfl,Nat.zero_le _,hc',e4,e5,by rw[Array.size_setIfInBounds];exact e6,?_⟩;rw[Array.toList_setIfInBounds,Qgh,e7]
section
variable {w w':World} {L:Nat->Rw}
theorem Lay.below(h:Lay w L)(hb:Below w.heap.size w w'):Lay w' L:=⟨λc=>Qao (h.own c) hb,h.inj⟩
theorem Lay.drewN(h:Lay w L)(k:Nat):Lay (w.drewN k) L:=⟨h.own,h.inj⟩
theorem Lay.drew(h:Lay w L):Lay w.drew L:=⟨h.own,h.inj⟩
theorem Lay.lt(h:Lay w L){g:Nat}(hg:LX L g):g<w.heap.size:=by
 obtain⟨c,hc⟩:=hg;exact(Qah (h.own c) g hc).2
theorem Lay.frm{X:Nat->Prop}(h:Lay w L)(hf:FrmX X w w')(hx:∀g,LX L g->¬X g):Lay w' L:=⟨λc=>QeS (h.own c) hf λg hg=>hx g ⟨c,hg⟩,h.inj⟩
theorem Lay.block(h:Lay w L){p o:Nat}{u:Value}(hp:(L p).xs[o]? =some u):∃g cap cur,(L p).v=.slice (some ⟨g,0,none⟩) (L p).n cap/\w.heap[g]? =some (.cells cur (L p).ty (0,0))/\cur[o]? =some u:=by
 have hl:o<(L p).xs.length:=(List.getElem?_eq_some_iff.1 hp).1
 rcases(h.own p).2 with⟨_,h0⟩ | ⟨g,cap,cur,e1,e2,e3,e4,e5,e6,e7⟩
 ·rw[(h.own p).1,h0]at hl;omega
 ·refine⟨g,cap,cur,e1,e3,?_⟩;rw[<-e7,List.getElem?_take_of_lt (by rw[(h.own p).1]at hl;exact hl)]at hp
  simpa using hp
theorem Lay.at(h:Lay w L){p o g n cap:Nat}{u:Value}(hp:(L p).xs[o]? =some u)(hv:(L p).v=.slice (some ⟨g,0,none⟩) n cap):w.cell? ⟨g,o,none⟩=some u/\w.frozen? ⟨g,o,none⟩=false:=by
 obtain⟨g',cap',cur,e1,e2,e3⟩:=h.block hp;rw[hv]at e1;simp only[Value.slice.injEq,Option.some.injEq,Addr.mk.injEq,and_true]at e1;obtain⟨rfl,_⟩:=e1;exact⟨(Qaa e2 o).trans e3,Qab e2 o⟩
theorem Lay.lat(h:Lay w L){p o c g n cap:Nat}(hp:(L p).xs[o]? =some (L c).v)(hv:(L p).v=.slice (some ⟨g,0,none⟩) n cap)(hne:(L p).ty≠(L c).ty):∃cs a cp,(L c).v=.slice a (L c).n cp/\LAt 0 (L c).ty (L c).sz g o (L p).ty cs a (L c).n cp (L c).xs w:=by
 obtain⟨g',cap',cur,e1,e2,e3⟩:=h.block hp;rw[hv]at e1;simp only[Value.slice.injEq,Option.some.injEq,Addr.mk.injEq,and_true]at e1;obtain⟨rfl,_⟩:=e1;obtain⟨a,cp,hs⟩:=Qaf (h.own c);refine⟨cur,a,cp,hs,e2,by rw[e3,hs],hne,?_⟩;rw[<-hs];exact h.own c
theorem Lay.set(h:Lay w L){p o g n cap:Nat}{u0:Value}(hp:(L p).xs[o]? =some u0)(hv:(L p).v=.slice (some ⟨g,0,none⟩) n cap)(u:Value):Lay (w.setCell ⟨g,o,none⟩ u) (setL L p o u)/\FrmX (LX L) w (w.setCell ⟨g,o,none⟩ u)/\∀x,LX (setL L p o u) x->LX L x:=by
 obtain⟨g',cap',cur,e1,e2,e3⟩:=h.block hp;rw[hv]at e1;simp only[Value.slice.injEq,Option.some.injEq,Addr.mk.injEq,and_true]at e1;obtain⟨rfl,hn,_⟩:=e1;subst hn
 have hv':∀x,(setL L p o u x).v=(L x).v:=λx=>by
  unfold setL;split
  ·rename_i e;subst e;rfl
  ·rfl
 refine⟨⟨λc=>?_,λc c' x h1 h2=>h.inj c c' x (by rw[<-hv' c];exact h1) (by rw[<-hv' c'];exact h2)⟩,(FrmX.refl _ w).set (λ_=>⟨p,by rw[hv];rfl⟩) o u,λx ⟨c,hc⟩=>⟨c,by rw[<-hv' c];exact hc⟩⟩
 by_cases e:c=p
 ·subst e;rw[QgS];have hown:=h.own c;rw[hv]at hown;rw[show({L c with xs:=(L c).xs.set o u}:Rw).v=.slice (some ⟨g,0,none⟩) (L c).n cap from hv];exact QgU hown e2 (Qag (j:=o) e2 u)
 ·rw[QgT e]
  refine QaV (h.own c) (Qak w g o u) λx hx e'=>?_
  simp only[Option.some.injEq]at e';subst e';exact e (h.inj c p g hx (by rw[hv];rfl))
theorem Lay.put(h:Lay w L){p o c g n cap:Nat}(hv:(L p).v=.slice (some ⟨g,0,none⟩) n cap)(hpc:p≠c){cs:Array Value}{a:Option Addr}{cp:Nat}(hc:(L c).v=.slice a (L c).n cp)(hl:LAt 0 (L c).ty (L c).sz g o (L p).ty cs a (L c).n cp (L c).xs w){a':Option Addr}{n' c':Nat}{xs':List Value}
  (hu:Upd 0 (L c).ty (L c).sz g o (L p).ty cs a (L c).n cp w a' n' c' xs' w'):Lay w' (putL L p o c (.slice a' n' c') n' xs')/\FrmX (LX L) w w'/\∀x,LX (putL L p o c (.slice a' n' c') n' xs') x->LX L x\/w.heap.size<=x:=by
 have hsub:∀x,Xs g a (L c).n cp x->LX L x:=λx hx=>by
  rcases hx with rfl | hx
  ·exact⟨p,by rw[hv];rfl⟩
  ·exact⟨c,by rw[hc];exact hx⟩
 refine⟨⟨λx=>?_,λx x' y h1 h2=>?_⟩,hu.frm.mono λx _ hx=>hsub x hx,λx ⟨y,hy⟩=>?_⟩
 ·by_cases e:x=c
  ·subst e;rw[Qa9];exact hu.at'.own
  ·by_cases e':x=p
   ·subst e';rw[Qba hpc];have hown:=h.own x
    have hn:n=(L x).n:=by
     obtain⟨a1,c1,h1⟩:=Qaf hown;rw[hv]at h1;simp only[Value.slice.injEq]at h1;exact h1.2.1
    subst hn;rw[hv]at hown;rw[show({L x with xs:=(L x).xs.set o (.slice a' n' c')}:Rw).v=.slice (some ⟨g,0,none⟩) (L x).n cap from hv];exact QgU hown hl.box hu.at'.box
   ·rw[Qbb e e']
    refine QeS (h.own x) hu.frm λy hy hx=>?_
    rcases hx with rfl | hx
    ·exact e' (h.inj x p y hy (by rw[hv];rfl))
    ·exact e (h.inj x c y hy (by rw[hc];exact hx))
 ·have key:∀z,(putL L p o c (.slice a' n' c') n' xs' z).v.ownBlock=some y->(L z).v.ownBlock=some y\/(z=c/\w.heap.size<=y):=λz hz=>by
   by_cases e:z=c
   ·subst e;rw[Qa9]at hz
    rcases hu.row y hz with h3 | h3
    ·exact .inl (by rw[hc];exact h3)
    ·exact .inr ⟨rfl,h3⟩
   ·by_cases e':z=p
    ·subst e';rw[Qba hpc]at hz;exact .inl hz
    ·rw[Qbb e e']at hz;exact .inl hz
  rcases key x h1 with k1 | ⟨k1,k1'⟩
  ·rcases key x' h2 with k2 | ⟨k2,k2'⟩
   ·exact h.inj x x' y k1 k2
   ·have:=h.lt ⟨x,k1⟩;omega
  ·rcases key x' h2 with k2 | ⟨k2,k2'⟩
   ·have:=h.lt ⟨x',k2⟩;omega
   ·rw[k1,k2]
 ·by_cases e:y=c
  ·subst e;rw[Qa9]at hy
   rcases hu.row x hy with h3 | h3
   ·exact .inl ⟨y,by rw[hc];exact h3⟩
   ·exact .inr h3
  ·by_cases e':y=p
   ·subst e';rw[Qba hpc]at hy;exact .inl ⟨y,hy⟩
   ·rw[Qbb e e']at hy;exact .inl ⟨y,hy⟩
end
end
section
open Go.RowKit
structure ItemV where
 bar:Bool
 e:Ev
 pt:Int
 live:Int
 sum:Int
def itCells1(x:ItemV):List Value:=[.bool x.bar,.int .u8 (x.e.op:Int),.string x.e.key,.int .u16 (x.e.seq:Int),.int .i16 x.e.val,.int .i32 x.pt,.int .i64 x.live,.int .i16 x.sum]
def itCells(rs:List ItemV):List Value:=rs.flatMap itCells1
theorem Qcb(rs:List ItemV):(itCells rs).length=rs.length*8:=by
 induction rs with
 | nil=>rfl
 | cons r rs ih=>simp[itCells,itCells1]at ih ⊢;omega
theorem QbL(rs ts:List ItemV):itCells (rs++ts)=itCells rs++itCells ts:=by simp[itCells]
theorem QaX:∀(rs:List ItemV) (k:Nat) (h:k<rs.length) (j:Nat),j<8->(itCells rs)[k*8+j]? =(itCells1 rs[k])[j]?
 | r :: rs,0,_,j,hj=>by
  simp only[itCells,List.flatMap_cons,Nat.zero_mul,Nat.zero_add,List.getElem_cons_zero]
  rw[List.getElem?_append_left (by simp[itCells1];omega)]
 | r :: rs,k+1,h,j,hj=>by
  have ih:=QaX rs k (by simpa using h) j hj;simp only[itCells,List.flatMap_cons,List.getElem_cons_succ]at ih ⊢;rw[List.getElem?_append_right (by simp[itCells1];omega),<-ih];congr 1;simp[itCells1];omega
theorem QgV(rs:List ItemV)(n:Nat)(h:n<rs.length)(x:ItemV):(((((((((itCells rs).set (n*8) (.bool x.bar)).set (n*8+1) (.int .u8 (x.e.op:Int))).set (n*8+2) (.string x.e.key)).set (n*8+3) (.int .u16 (x.e.seq:Int))).set (n*8+4) (.int .i16 x.e.val)).set (n*8+5) (.int .i32 x.pt)).set (n*8+6) (.int .i64 x.live)).set (n*8+7) (.int .i16 x.sum))=itCells (rs.set n x):=by
 have hs:rs=rs.take n++rs[n] :: rs.drop (n+1):=by rw[<-List.drop_eq_getElem_cons h,List.take_append_drop]
 have hset:rs.set n x=rs.take n++x :: rs.drop (n+1):=by rw[List.set_eq_take_append_cons_drop,if_pos h]
 rw[hset];generalize rs[n]=r at hs;generalize hT:rs.take n=T at hs;generalize rs.drop (n+1)=D at hs
 have hTl:T.length=n:=by rw[<-hT,List.length_take];omega
 have hlen:(itCells T).length=n*8:=by rw[Qcb,hTl]
 subst hs
 have hc:∀r':ItemV,itCells (r' :: D)=itCells1 r'++itCells D:=λr'=>by simp[itCells]
 rw[QbL,QbL,hc,hc];rw[List.set_append_right _ _ omQ,List.set_append_right _ _ omQ,List.set_append_right _ _ omQ,List.set_append_right _ _ omQ,List.set_append_right _ _ omQ,List.set_append_right _ _ omQ,List.set_append_right _ _ omQ,List.set_append_right _ _ omQ,hlen];rw[show n*8-n*8=0 from by omega,show n*8+1-n*8=1 from by omega,show n*8+2-n*8=2 from by omega,show n*8+3-n*8=3 from by omega,show n*8+4-n*8=4 from by omega,show n*8+5-n*8=5 from by omega,show n*8+6-n*8=6 from by omega,show n*8+7-n*8=7 from by omega]
 rfl
abbrev PAt (B kb o:Nat) (t:TypeId) (cs:Array Value) (a:Option Addr) (c:Nat) (rs:List ItemV) (w:World):Prop:=LAt B 164 8 kb o t cs a rs.length c (itCells rs) w
abbrev PUpd (B kb o:Nat) (t:TypeId) (cs:Array Value) (a:Option Addr) (c:Nat) (rs:List ItemV) (w:World) (a':Option Addr) (c':Nat) (rs':List ItemV) (w':World):Prop:=Upd B 164 8 kb o t cs a rs.length c w a' rs'.length c' (itCells rs') w'
theorem QgW{B kb o:Nat}{t:TypeId}{cs:Array Value}{g c:Nat}{rs:List ItemV}{w:World}(h:PAt B kb o t cs (some ⟨g,0,none⟩) c rs w)(n:Nat)(hn:n<rs.length):
  w.cell? ⟨g,n*8,none⟩=some (.bool rs[n].bar)/\w.cell? ⟨g,n*8+1,none⟩=some (.int .u8 (rs[n].e.op:Int))/\w.cell? ⟨g,n*8+2,none⟩=some (.string rs[n].e.key)/\w.cell? ⟨g,n*8+3,none⟩=some (.int .u16 (rs[n].e.seq:Int))/\w.cell? ⟨g,n*8+4,none⟩=some (.int .i16 rs[n].e.val)/\w.cell? ⟨g,n*8+5,none⟩=some (.int .i32 rs[n].pt)/\w.cell? ⟨g,n*8+6,none⟩=some (.int .i64 rs[n].live)/\w.cell? ⟨g,n*8+7,none⟩=some (.int .i16 rs[n].sum):=
 ⟨(h.at (n*8) omQ).trans (QaX rs n hn 0 (by decide)),(h.at (n*8+1) omQ).trans (QaX rs n hn 1 (by decide)),(h.at (n*8+2) omQ).trans (QaX rs n hn 2 (by decide)),(h.at (n*8+3) omQ).trans (QaX rs n hn 3 (by decide)),(h.at (n*8+4) omQ).trans (QaX rs n hn 4 (by decide)),(h.at (n*8+5) omQ).trans (QaX rs n hn 5 (by decide)),(h.at (n*8+6) omQ).trans (QaX rs n hn 6 (by decide)),(h.at (n*8+7) omQ).trans (QaX rs n hn 7 (by decide))⟩
theorem QmI{B kb o:Nat}{t:TypeId}{cs:Array Value}{a:Option Addr}{c:Nat}{ks:List ItemV}{w0:World}{g c':Nat}{rs:List ItemV}{w:World}(h:PUpd B kb o t cs a c ks w0 (some ⟨g,0,none⟩) c' rs w)(n:Nat)(hn:n<rs.length)(x:ItemV)(w1 w2 w3 w4 w5 w6 w7 w8:World)
  (e1:w1=w.setCell ⟨g,n*8,none⟩ (.bool x.bar)) (e2:w2=w1.setCell ⟨g,n*8+1,none⟩ (.int .u8 (x.e.op:Int))) (e3:w3=w2.setCell ⟨g,n*8+2,none⟩ (.string x.e.key)) (e4:w4=w3.setCell ⟨g,n*8+3,none⟩ (.int .u16 (x.e.seq:Int))) (e5:w5=w4.setCell ⟨g,n*8+4,none⟩ (.int .i16 x.e.val)) (e6:w6=w5.setCell ⟨g,n*8+5,none⟩ (.int .i32 x.pt)) (e7:w7=w6.setCell ⟨g,n*8+6,none⟩ (.int .i64 x.live)) (e8:w8=w7.setCell ⟨g,n*8+7,none⟩ (.int .i16 x.sum)):
  (w.cell? ⟨g,n*8,none⟩=some (.bool rs[n].bar)/\w1.cell? ⟨g,n*8+1,none⟩=some (.int .u8 (rs[n].e.op:Int))/\w2.cell? ⟨g,n*8+2,none⟩=some (.string rs[n].e.key)/\w3.cell? ⟨g,n*8+3,none⟩=some (.int .u16 (rs[n].e.seq:Int))/\w4.cell? ⟨g,n*8+4,none⟩=some (.int .i16 rs[n].e.val)/\w5.cell? ⟨g,n*8+5,none⟩=some (.int .i32 rs[n].pt)/\w6.cell? ⟨g,n*8+6,none⟩=some (.int .i64 rs[n].live)/\w7.cell? ⟨g,n*8+7,none⟩=some (.int .i16 rs[n].sum))/\
  (w.frozen? ⟨g,n*8,none⟩=false/\w1.frozen? ⟨g,n*8+1,none⟩=false/\w2.frozen? ⟨g,n*8+2,none⟩=false/\w3.frozen? ⟨g,n*8+3,none⟩=false/\w4.frozen? ⟨g,n*8+4,none⟩=false/\w5.frozen? ⟨g,n*8+5,none⟩=false/\w6.frozen? ⟨g,n*8+6,none⟩=false/\w7.frozen? ⟨g,n*8+7,none⟩=false)/\
  PUpd B kb o t cs a c ks w0 (some ⟨g,0,none⟩) c' (rs.set n x) w8/\w.grownBy w8 (some g):=by
 subst e1 e2 e3 e4 e5 e6 e7 e8
 have hat:∀j,j<8->(itCells rs)[n*8+j]? =(itCells1 rs[n])[j]? :=λj hj=>QaX rs n hn j hj
 have r0:=h;have r1:=r0.store (n*8) (.bool x.bar);have r2:=r1.store (n*8+1) (.int .u8 (x.e.op:Int));have r3:=r2.store (n*8+2) (.string x.e.key);have r4:=r3.store (n*8+3) (.int .u16 (x.e.seq:Int));have r5:=r4.store (n*8+4) (.int .i16 x.e.val);have r6:=r5.store (n*8+5) (.int .i32 x.pt);have r7:=r6.store (n*8+6) (.int .i64 x.live);have r8:=r7.store (n*8+7) (.int .i16 x.sum);have q0:=(r0.at'.at (n*8) omQ).trans (hat 0 (by decide));have q1:=(r1.at'.at (n*8+1) omQ).trans ((List.getElem?_set_ne omQ).trans (hat 1 (by decide)));have q2:=(r2.at'.at (n*8+2) omQ).trans ((List.getElem?_set_ne omQ).trans ((List.getElem?_set_ne omQ).trans (hat 2 (by decide))));have q3:=(r3.at'.at (n*8+3) omQ).trans ((List.getElem?_set_ne omQ).trans ((List.getElem?_set_ne omQ).trans ((List.getElem?_set_ne omQ).trans (hat 3 (by decide)))));have q4:=(r4.at'.at (n*8+4) omQ).trans ((List.getElem?_set_ne omQ).trans ((List.getElem?_set_ne omQ).trans ((List.getElem?_set_ne omQ).trans ((List.getElem?_set_ne omQ).trans (hat 4 (by decide))))));have q5:=(r5.at'.at (n*8+5) omQ).trans ((List.getElem?_set_ne omQ).trans ((List.getElem?_set_ne omQ).trans ((List.getElem?_set_ne omQ).trans ((List.getElem?_set_ne omQ).trans ((List.getElem?_set_ne omQ).trans (hat 5 (by decide)))))));have q6:=(r6.at'.at (n*8+6) omQ).trans ((List.getElem?_set_ne omQ).trans ((List.getElem?_set_ne omQ).trans ((List.getElem?_set_ne omQ).trans ((List.getElem?_set_ne omQ).trans ((List.getElem?_set_ne omQ).trans ((List.getElem?_set_ne omQ).trans (hat 6 (by decide))))))));have q7:=(r7.at'.at (n*8+7) omQ).trans ((List.getElem?_set_ne omQ).trans ((List.getElem?_set_ne omQ).trans ((List.getElem?_set_ne omQ).trans ((List.getElem?_set_ne omQ).trans ((List.getElem?_set_ne omQ).trans ((List.getElem?_set_ne omQ).trans ((List.getElem?_set_ne omQ).trans (hat 7 (by decide)))))))));refine⟨⟨q0,q1,q2,q3,q4,q5,q6,q7⟩,⟨r0.at'.frozenAt _,r1.at'.frozenAt _,r2.at'.frozenAt _,r3.at'.frozenAt _,r4.at'.frozenAt _,r5.at'.frozenAt _,r6.at'.frozenAt _,r7.at'.frozenAt _⟩,?_,QaB (QaB (QaB (QaB (QaB (QaB (QaB (Qak _ g _ _) (Qak _ g _ _)) (Qak _ g _ _)) (Qak _ g _ _)) (Qak _ g _ _)) (Qak _ g _ _)) (Qak _ g _ _)) (Qak _ g _ _)⟩;rw[QgV rs n hn x]at r8
 have hl:rs.length=(rs.set n x).length:=by rw[List.length_set]
 unfold PUpd;rw[<-hl];exact r8
theorem Tryz.infoItem:(Tryz.prog.info? 164).map (λi=>(i.zero,i.size,i.bytes))=some (some (.agg #[.bool false,.int .u8 0,.string ⟨#[]⟩,.int .u16 0,.int .i16 0,.int .i32 0,.int .i64 0,.int .i16 0]),8,64):=by kernel_rfl
theorem Qjf(r:ItemV):∀u∈itCells1 r,u.oneCell'=true:=by
 intro u hu;simp[itCells1]at hu
 rcases hu with rfl | rfl | rfl | rfl | rfl | rfl | rfl | rfl<;>rfl
theorem QgX(kb o:Nat)(a:Option Addr)(n c:Nat)(w:World)(hc:w.cell? ⟨kb,o+1,none⟩=some (.slice a n c)):
  Calls Tryz.prog 102 #[.pointer (some ⟨kb,o,none⟩)] w λen w'=>en=.returned (.int .i64 (n:Int))/\w'=w:=by
 go_enter Tryz.func102,Tryz.ntmps102;go_wp2;go_ret;exact⟨rfl,rfl⟩
theorem QfV(kb o:Nat)(a:Option Addr)(n c room:Nat)(w:World)(hc:w.cell? ⟨kb,o+1,none⟩=some (.slice a n c))(hr:w.cell? ⟨kb,o,none⟩=some (.int .i64 (room:Int))):
  Calls Tryz.prog 92 #[.pointer (some ⟨kb,o,none⟩)] w λen w'=>en=.returned (.bool (decide (room<=n)))/\∃m,w'=w.drewN m:=by
 have hd:decide ((room:Int)<=(n:Int))=decide (room<=n):=by rw[decide_eq_decide];omega
 go_enter Tryz.func92,Tryz.ntmps92;go_wp2
 go_quiet (fail)
 go_wp2;go_ret;exact⟨by simp,nq,rfl⟩
def itZ:Value:=.agg #[.bool false,.int .u8 0,.string ⟨#[]⟩,.int .u16 0,.int .i16 0,.int .i32 0,.int .i64 0,.int .i16 0]
def itV(x:ItemV):Value:=.agg (itCells1 x).toArray
theorem Qar{w w1:World}{B g:Nat}(h:Below B w w1)(hg:B<=g)(v0 v1 v2 v3 v4 v5 v6 v7:Value):Below B w ((((((((w1.setCell ⟨g,0,none⟩ v0).setCell ⟨g,1,none⟩ v1).setCell ⟨g,2,none⟩ v2).setCell ⟨g,3,none⟩ v3).setCell ⟨g,4,none⟩ v4).setCell ⟨g,5,none⟩ v5).setCell ⟨g,6,none⟩ v6).setCell ⟨g,7,none⟩ v7):=
 (((((((h.setCell (p:=⟨g,0,none⟩) hg v0).setCell (p:=⟨g,1,none⟩) hg v1).setCell (p:=⟨g,2,none⟩) hg v2).setCell (p:=⟨g,3,none⟩) hg v3).setCell (p:=⟨g,4,none⟩) hg v4).setCell (p:=⟨g,5,none⟩) hg v5).setCell (p:=⟨g,6,none⟩) hg v6).setCell (p:=⟨g,7,none⟩) hg v7
theorem Qes(kb o:Nat)(a:Option Addr)(c:Nat)(w:World)(hc:w.cell? ⟨kb,o+1,none⟩=some (.slice a 0 c))(hk:kb<w.heap.size):
  Calls Tryz.prog 94 #[.pointer (some ⟨kb,o,none⟩)] w λen w'=>en=.returned (.tuple #[itZ,.bool false])/\Below w.heap.size w w':=by
 have hb:=(Below.refl w.heap.size w).alloc (Nat.le_refl _) (.cells #[.bool false,.int .u8 0,.string ⟨#[]⟩,.int .u16 0,.int .i16 0,.int .i32 0,.int .i64 0,.int .i16 0] 164);have hcb:=heap_alloc_new w (.cells #[.bool false,.int .u8 0,.string ⟨#[]⟩,.int .u16 0,.int .i16 0,.int .i32 0,.int .i64 0,.int .i16 0] 164);have hc1:=(hb.cell (p:=⟨kb,o+1,none⟩) hk).trans hc;clear hc;have Hb:=hdQ hb;clear hb;go_enter Tryz.func94,Tryz.ntmps94;generalize hw1:w.alloc (.cells #[.bool false,.int .u8 0,.string ⟨#[]⟩,.int .u16 0,.int .i16 0,.int .i32 0,.int .i64 0,.int .i16 0] 164)=w1 at hcb hc1 Hb;have d0:w1.cell? ⟨w.heap.size,0,none⟩=some (.bool false):=Qaa hcb 0;have z0:w1.frozen? ⟨w.heap.size,0,none⟩=false:=Qab hcb 0;have d1:w1.cell? ⟨w.heap.size,1,none⟩=some (.int .u8 0):=Qaa hcb 1;have z1:w1.frozen? ⟨w.heap.size,1,none⟩=false:=Qab hcb 1;have d2:w1.cell? ⟨w.heap.size,2,none⟩=some (.string ⟨#[]⟩):=Qaa hcb 2;have z2:w1.frozen? ⟨w.heap.size,2,none⟩=false:=Qab hcb 2;have d3:w1.cell? ⟨w.heap.size,3,none⟩=some (.int .u16 0):=Qaa hcb 3;have z3:w1.frozen? ⟨w.heap.size,3,none⟩=false:=Qab hcb 3;have d4:w1.cell? ⟨w.heap.size,4,none⟩=some (.int .i16 0):=Qaa hcb 4;have z4:w1.frozen? ⟨w.heap.size,4,none⟩=false:=Qab hcb 4;have d5:w1.cell? ⟨w.heap.size,5,none⟩=some (.int .i32 0):=Qaa hcb 5;have z5:w1.frozen? ⟨w.heap.size,5,none⟩=false:=Qab hcb 5;have d6:w1.cell? ⟨w.heap.size,6,none⟩=some (.int .i64 0):=Qaa hcb 6;have z6:w1.frozen? ⟨w.heap.size,6,none⟩=false:=Qab hcb 6;have d7:w1.cell? ⟨w.heap.size,7,none⟩=some (.int .i16 0):=Qaa hcb 7;have z7:w1.frozen? ⟨w.heap.size,7,none⟩=false:=Qab hcb 7;go_wp2;have hg':_=some (Obj.cells #[.bool false,.int .u8 0,.string ⟨#[]⟩,.int .u16 0,.int .i16 0,.int .i32 0,.int .i64 0,.int .i16 0] 164 (0,0)):=Qag (j:=7) (Qag (j:=6) (Qag (j:=5) (Qag (j:=4) (Qag (j:=3) (Qag (j:=2) (Qag (j:=1) (Qag (j:=0) hcb (.bool false)) (.int .u8 0)) (.string ⟨#[]⟩)) (.int .u16 0)) (.int .i16 0)) (.int .i32 0)) (.int .i64 0)) (.int .i16 0);exact bodyPost_ret (QaT (p:=2) (u:=3) (ty:=164) rfl _ _ w.heap.size 164 #[.bool false,.int .u8 0,.string ⟨#[]⟩,.int .u16 0,.int .i16 0,.int .i32 0,.int .i64 0,.int .i16 0] (0,0) _ rfl hg' Tryz.underlying164 rfl krQ) rfl ⟨rfl,Qar Hb.out (Nat.le_refl _) _ _ _ _ _ _ _ _⟩
theorem Qet(B kb o:Nat)(t:TypeId)(cs:Array Value)(a:Option Addr)(c:Nat)(x:ItemV)(rs:List ItemV)(w:World)(hP:PAt B kb (o+1) t cs a c (x :: rs) w)(hlen:rs.length<=1000):
  Calls Tryz.prog 94 #[.pointer (some ⟨kb,o,none⟩)] w λen w'=>en=.returned (.tuple #[itV x,.bool true])/\Below w.heap.size w w':=by
 have hb:=(Below.refl w.heap.size w).alloc (Nat.le_refl _) (.cells #[.bool false,.int .u8 0,.string ⟨#[]⟩,.int .u16 0,.int .i16 0,.int .i32 0,.int .i64 0,.int .i16 0] 164);have hcb:=heap_alloc_new w (.cells #[.bool false,.int .u8 0,.string ⟨#[]⟩,.int .u16 0,.int .i16 0,.int .i32 0,.int .i64 0,.int .i16 0] 164);have hP1:=hP.alloc (.cells #[.bool false,.int .u8 0,.string ⟨#[]⟩,.int .u16 0,.int .i16 0,.int .i32 0,.int .i64 0,.int .i16 0] 164);have hc1:=hP1.cell
 rcases Qai hP.own with⟨_,h0⟩ | ⟨g,rfl⟩
 ·simp at h0
 have hgl:=hP.gl.2;obtain⟨c0,c1,c2,c3,c4,c5,c6,c7⟩:=QgW hP1 0 (by simp);simp only[List.getElem_cons_zero,Nat.zero_mul,Nat.zero_add]at c0 c1 c2 c3 c4 c5 c6 c7;have Hb:=hdQ hb;clear hb hP hP1;unfold itV itCells1;obtain⟨xb,⟨xo,xk,xq,xv⟩,xp,xl,xs⟩:=x;simp only at c0 c1 c2 c3 c4 c5 c6 c7
 have hn0:((((⟨xb,⟨xo,xk,xq,xv⟩,xp,xl,xs⟩:ItemV) :: rs).length:Nat):Int)=(rs.length:Int)+1:=by simp
 rw[show(((⟨xb,⟨xo,xk,xq,xv⟩,xp,xl,xs⟩:ItemV) :: rs).length)=rs.length+1 from rfl]at hc1;clear hn0
 have hne:(((rs.length:Int)+1)==0)=false:=by rw[beq_eq_false_iff_ne];omega
 have hni:(0:Int)<(rs.length:Int)+1:=omQ;go_enter Tryz.func94,Tryz.ntmps94;generalize hw1:w.alloc (.cells #[.bool false,.int .u8 0,.string ⟨#[]⟩,.int .u16 0,.int .i16 0,.int .i32 0,.int .i64 0,.int .i16 0] 164)=w1 at hcb hc1 Hb c0 c1 c2 c3 c4 c5 c6 c7;have d0:w1.cell? ⟨w.heap.size,0,none⟩=some (.bool false):=Qaa hcb 0;have z0:w1.frozen? ⟨w.heap.size,0,none⟩=false:=Qab hcb 0;have d1:w1.cell? ⟨w.heap.size,1,none⟩=some (.int .u8 0):=Qaa hcb 1;have z1:w1.frozen? ⟨w.heap.size,1,none⟩=false:=Qab hcb 1;have d2:w1.cell? ⟨w.heap.size,2,none⟩=some (.string ⟨#[]⟩):=Qaa hcb 2;have z2:w1.frozen? ⟨w.heap.size,2,none⟩=false:=Qab hcb 2;have d3:w1.cell? ⟨w.heap.size,3,none⟩=some (.int .u16 0):=Qaa hcb 3;have z3:w1.frozen? ⟨w.heap.size,3,none⟩=false:=Qab hcb 3;have d4:w1.cell? ⟨w.heap.size,4,none⟩=some (.int .i16 0):=Qaa hcb 4;have z4:w1.frozen? ⟨w.heap.size,4,none⟩=false:=Qab hcb 4;have d5:w1.cell? ⟨w.heap.size,5,none⟩=some (.int .i32 0):=Qaa hcb 5;have z5:w1.frozen? ⟨w.heap.size,5,none⟩=false:=Qab hcb 5;have d6:w1.cell? ⟨w.heap.size,6,none⟩=some (.int .i64 0):=Qaa hcb 6;have z6:w1.frozen? ⟨w.heap.size,6,none⟩=false:=Qab hcb 6;have d7:w1.cell? ⟨w.heap.size,7,none⟩=some (.int .i16 0):=Qaa hcb 7;have z7:w1.frozen? ⟨w.heap.size,7,none⟩=false:=Qab hcb 7;go_wp2;have hg':_=some (Obj.cells #[.bool xb,.int .u8 (xo:Int),.string xk,.int .u16 (xq:Int),.int .i16 xv,.int .i32 xp,.int .i64 xl,.int .i16 xs] 164 (0,0)):=Qag (j:=7) (Qag (j:=6) (Qag (j:=5) (Qag (j:=4) (Qag (j:=3) (Qag (j:=2) (Qag (j:=1) (Qag (j:=0) hcb (.bool xb)) (.int .u8 (xo:Int))) (.string xk)) (.int .u16 (xq:Int))) (.int .i16 xv)) (.int .i32 xp)) (.int .i64 xl)) (.int .i16 xs);exact bodyPost_ret (QaT (p:=2) (u:=3) (ty:=164) rfl _ _ w.heap.size 164 #[.bool xb,.int .u8 (xo:Int),.string xk,.int .u16 (xq:Int),.int .i16 xv,.int .i32 xp,.int .i64 xl,.int .i16 xs] (0,0) _ rfl hg' Tryz.underlying164 rfl krQ) rfl ⟨rfl,Qar Hb.out (Nat.le_refl _) _ _ _ _ _ _ _ _⟩
theorem QfH(w:World)(a b c d e f g h:Value)(t:TypeId):∀j u,[a,b,c,d,e,f,g,h][j]? =some u->(w.alloc (.cells #[a,b,c,d,e,f,g,h] t)).cell? ((⟨w.heap.size,0,none⟩:Addr).add j)=some u:=by
 intro j u hj
 match j,hj with
 | 0,hj=>simp at hj;subst hj;simp[Addr.add]
 | 1,hj=>simp at hj;subst hj;simp[Addr.add]
 | 2,hj=>simp at hj;subst hj;simp[Addr.add]
 | 3,hj=>simp at hj;subst hj;simp[Addr.add]
 | 4,hj=>simp at hj;subst hj;simp[Addr.add]
 | 5,hj=>simp at hj;subst hj;simp[Addr.add]
 | 6,hj=>simp at hj;subst hj;simp[Addr.add]
 | 7,hj=>simp at hj;subst hj;simp[Addr.add]
 | j+8,hj=>simp at hj
theorem QfW(B kb o:Nat)(t:TypeId)(cs:Array Value)(a:Option Addr)(c:Nat)(rs:List ItemV)(x:ItemV)(w:World)(hB:B<=w.heap.size)(hlen:rs.length<=1000)(hP:PAt B kb (o+1) t cs a c rs w):
  Calls Tryz.prog 93 #[.pointer (some ⟨kb,o,none⟩),itV x] w λen w'=>en=.returned (.tuple #[])/\∃a' c',PUpd B kb (o+1) t cs a c rs w a' c' (rs++[x]) w':=by
 unfold itV itCells1;obtain⟨xb,⟨xo,xk,xq,xv⟩,xp,xl,xs⟩:=x;simp only;have hkl:kb<w.heap.size:=hP.bl
 have hgl0:∀g,(Value.slice a rs.length c).ownBlock=some g->g<w.heap.size:=λg hg=>(Qah hP.own g hg).2
 have hslot:=hP.slot;obtain⟨i0,hi,hz0,hz1,hz2⟩:=info_parts Tryz.infoItem
 have HK:=show Hid _ from(hP.alloc (.cells #[.bool xb,.int .u8 (xo:Int),.string xk,.int .u16 (xq:Int),.int .i16 xv,.int .i32 xp,.int .i64 xl,.int .i16 xs] 164)).drew
 have HKf:=show Hid _ from((FrmX.refl (Xs kb a rs.length c) w).alloc (.cells #[.bool xb,.int .u8 (xo:Int),.string xk,.int .u16 (xq:Int),.int .i16 xv,.int .i32 xp,.int .i64 xl,.int .i16 xs] 164)).drew
 have heb:(w.alloc (.cells #[.bool xb,.int .u8 (xo:Int),.string xk,.int .u16 (xq:Int),.int .i16 xv,.int .i32 xp,.int .i64 xl,.int .i16 xs] 164)).drew.heap[w.heap.size]? =some (.cells #[.bool xb,.int .u8 (xo:Int),.string xk,.int .u16 (xq:Int),.int .i16 xv,.int .i32 xp,.int .i64 xl,.int .i16 xs] 164 (0,0)):=heap_alloc_new w _;have hsz:w.heap.size<(w.alloc (.cells #[.bool xb,.int .u8 (xo:Int),.string xk,.int .u16 (xq:Int),.int .i16 xv,.int .i32 xp,.int .i64 xl,.int .i16 xs] 164)).drew.heap.size:=Qac heb;clear hP;go_enter Tryz.func93,Tryz.ntmps93;go_wp2;refine wp_region_held_drew (S:=λw':World=>w'.heap[w.heap.size]? =some (.cells #[.bool xb,.int .u8 (xo:Int),.string xk,.int .u16 (xq:Int),.int .i16 xv,.int .i32 xp,.int .i64 xl,.int .i16 xs] 164 (0,0))) krQ heb (λhH=>?_);generalize(w.alloc (.cells #[.bool xb,.int .u8 (xo:Int),.string xk,.int .u16 (xq:Int),.int .i16 xv,.int .i32 xp,.int .i64 xl,.int .i16 xs] 164)).drew=wd at HK HKf heb hH hsz ⊢;have hkc:=HK.out.cell;have hkc2:=(HK.out.alloc (.cells #[.bool xb,.int .u8 (xo:Int),.string xk,.int .u16 (xq:Int),.int .i16 xv,.int .i32 xp,.int .i64 xl,.int .i16 xs] 164)).cell;have heb2:(wd.alloc (.cells #[.bool xb,.int .u8 (xo:Int),.string xk,.int .u16 (xq:Int),.int .i16 xv,.int .i32 xp,.int .i64 xl,.int .i16 xs] 164)).heap[w.heap.size]? =some (.cells #[.bool xb,.int .u8 (xo:Int),.string xk,.int .u16 (xq:Int),.int .i16 xv,.int .i32 xp,.int .i64 xl,.int .i16 xs] 164 (0,0)):=(Below.heap_alloc _ _ _ (by have:=Qac heb;omega)).trans heb;refine tkQ 0 (.pointer (some ⟨kb,o,none⟩)) hH ?_;refine tkQ 1 (.pointer (some ⟨kb,o,none⟩)) hH ?_;refine tkQ 2 (.pointer (some ⟨kb,o,none⟩)) hH ?_;refine tkQ 3 (.pointer (some ⟨kb,o+1,none⟩)) hH ?_;refine tlQ 5 (.agg #[.bool xb,.int .u8 (xo:Int),.string xk,.int .u16 (xq:Int),.int .i16 xv,.int .i32 xp,.int .i64 xl,.int .i16 xs]) rfl (by intro v hSw;have s0:v.cell? ⟨w.heap.size,0,none⟩=some (.bool xb):=Qaa hSw 0;have s1:v.cell? ⟨w.heap.size,1,none⟩=some (.int .u8 (xo:Int)):=Qaa hSw 1;have s2:v.cell? ⟨w.heap.size,2,none⟩=some (.string xk):=Qaa hSw 2;have s3:v.cell? ⟨w.heap.size,3,none⟩=some (.int .u16 (xq:Int)):=Qaa hSw 3;have s4:v.cell? ⟨w.heap.size,4,none⟩=some (.int .i16 xv):=Qaa hSw 4;have s5:v.cell? ⟨w.heap.size,5,none⟩=some (.int .i32 xp):=Qaa hSw 5;have s6:v.cell? ⟨w.heap.size,6,none⟩=some (.int .i64 xl):=Qaa hSw 6;have s7:v.cell? ⟨w.heap.size,7,none⟩=some (.int .i16 xs):=Qaa hSw 7;clear hSw;go_simp) hH ?_;refine rdQ [4,6] ?_;refine AllReadyH.cons rfl (λK hK=>?_) (arQ λK hK=>?_)
 focus
  clear hH;go_simp;refine hK.out _ _ heb (λhH=>?_);clear hK K;refine rdQ [6] ?_
  refine arQ λK hK=>?_
  clear hH;go_simp;refine hK.out _ _ heb2 (λhH=>?_);clear hK K
 rotate_left
 focus
  clear hH;go_simp;refine hK.out _ _ heb2 (λhH=>?_);clear hK K;refine rdQ [4] ?_
  refine arQ λK hK=>?_
  clear hH;go_simp;refine hK.out _ _ heb2 (λhH=>?_);clear hK K
 all_goals
  refine rdQ [7] ?_
  refine arQ λK hK=>?_
  refine QaM rfl ?_;refine Qau _ (.tmp 8) (.tmp 10) 101 rfl B 164 i0 (.agg #[.bool false,.int .u8 0,.string ⟨#[]⟩,.int .u16 0,.int .i16 0,.int .i32 0,.int .i64 0,.int .i16 0]) 8 64 Tryz.underlying101 hi hz0 hz1 hz2 rfl (by decide) (.slice a rs.length c) rs.length (itCells rs) rfl (HK.out.own.alloc _) ⟨wd.heap.size,0,none⟩ 1 1 (itCells1 ⟨xb,⟨xo,xk,xq,xv⟩,xp,xl,xs⟩) rfl rfl (by have:=QfH wd (.bool xb) (.int .u8 (xo:Int)) (.string xk) (.int .u16 (xq:Int)) (.int .i16 xv) (.int .i32 xp) (.int .i64 xl) (.int .i16 xs) 164;simpa[itCells1]using this) (Qjf _) (by unfold maxLen;omega) (by omega) (by simp;omega) (by decide) ?_;intro v3 w5 hown3 hfr3;obtain⟨a3,c3,rfl⟩:=Qaf hown3;have hgr:=Qat hfr3
  have HA:=show Hid (_/\_)from LAt.put_app (HK.out.alloc (.cells #[.bool xb,.int .u8 (xo:Int),.string xk,.int .u16 (xq:Int),.int .i16 xv,.int .i32 xp,.int .i64 xl,.int .i16 xs] 164)) hown3 rfl hfr3
  have HFr:=show Hid _ from HKf.out.alloc (.cells #[.bool xb,.int .u8 (xo:Int),.string xk,.int .u16 (xq:Int),.int .i16 xv,.int .i32 xp,.int .i64 xl,.int .i16 xs] 164)
  have heb5:w5.heap[w.heap.size]? =some (.cells #[.bool xb,.int .u8 (xo:Int),.string xk,.int .u16 (xq:Int),.int .i16 xv,.int .i32 xp,.int .i64 xl,.int .i16 xs] 164 (0,0)):=(hgr.block _ (Qac heb2) (λe=>by have:=hgl0 _ e.symm;omega)).trans heb2;refine hK.out _ _ heb5 (λhH=>?_);clear hK K hown3 hfr3 hgr HK HKf heb heb2 hkc hkc2;refine tkQ 8 (.pointer (some ⟨kb,o,none⟩)) hH ?_;refine tkQ 9 (.pointer (some ⟨kb,o+1,none⟩)) hH ?_;refine rdQ [10] ?_
  refine arQ λK hK=>?_
  clear hH;have b0:w5.cell? ⟨kb,o+1,none⟩=cs[o+1]? :=Qaa HA.out.1 (o+1);have b0':w5.cell? ⟨kb,o+1,none⟩=some (.slice a rs.length c):=b0.trans hslot;clear b0;have z0:w5.frozen? ⟨kb,o+1,none⟩=false:=Qab HA.out.1 (o+1);go_simp;have heb6:=(Below.heap_setCell w5 ⟨kb,o+1,none⟩ (.slice a3 (rs.length+1) c3) w.heap.size (by simp only;omega)).trans heb5;refine hK.out _ _ heb6 (λhH=>?_);clear hK K hH b0' z0 heb5;refine wpAnyH_done krQ ?_ _
  have HUn:=show Hid _ from HA.out.2.from HFr.out
  clear HA HFr heb6;generalize w5.setCell ⟨kb,o+1,none⟩ (.slice a3 (rs.length+1) c3)=w3 at HUn ⊢
  have hec:itCells rs++itCells1 ⟨xb,⟨xo,xk,xq,xv⟩,xp,xl,xs⟩=itCells (rs++[⟨xb,⟨xo,xk,xq,xv⟩,xp,xl,xs⟩]):=by rw[QbL];simp[itCells]
  rw[hec]at HUn
  have hll:rs.length+1=(rs++[(⟨xb,⟨xo,xk,xq,xv⟩,xp,xl,xs⟩:ItemV)]).length:=by simp
  have H0:=show Hid (PUpd B kb (o+1) t cs a c rs w a3 c3 (rs++[(⟨xb,⟨xo,xk,xq,xv⟩,xp,xl,xs⟩:ItemV)]) w3)from by unfold PUpd;rw[<-hll];exact HUn.out
  clear HUn hec hll;go_wp2
  go_end0
  exact⟨rfl,a3,c3,H0.out⟩
end
end Go.Proofs.YthccpacmklhejabGreatDoor
