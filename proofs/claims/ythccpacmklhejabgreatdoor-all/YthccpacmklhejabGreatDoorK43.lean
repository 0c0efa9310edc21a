import Derived.Test.YthccpacmklhejabGreatDoorTk
import Derived.Test.YthccpacmklhejabGreatDoorK42
import Derived.Test.YthccpacmklhejabGreatDoorK03
import Derived.ProofKit
import Derived.OpenShut
import Derived.ShutString
import Derived.ChangeOld
import Derived.Below
import Derived.Deep.Slices
import Derived.Lib.SmallJoins
import Derived.Test.YthccpacmklhejabGreatDoorK31
import Derived.SizedLaws
set_option maxHeartbeats 4000000
set_option maxRecDepth 100000
namespace Go.Proofs.YthccpacmklhejabGreatDoor
section
open Go.RowKit
def pickL(c:Int)(n:Nat):Nat:=(if c<0 then(-(c+1)).toNat else c.toNat) % n
theorem Qlz(c:Int)(n:Nat)(w:World)(h0:-9223372036854775808<=c)(h1:c<=9223372036854775807)(hn:0<n)(hn2:n<=1600000000002):
  Calls Tryz.prog 20 #[.int .i64 c,.int .i64 (n:Int)] w λe w'=>e=.returned (.int .i64 (pickL c n:Int))/\w'=w:=by
 have neg:c<0->(pickL c n:Int)=-((c+1).tmod n):=λhc=>by
  rw[<-Int.neg_tmod,Int.tmod_eq_emod_of_nonneg omQ];unfold pickL;rw[if_pos hc,Int.natCast_emod,Int.toNat_of_nonneg omQ]
 have pos:¬c<0->(pickL c n:Int)=c % n:=λhc=>by
  unfold pickL;rw[if_neg hc,Int.natCast_emod,Int.toNat_of_nonneg omQ]
 have hz:((n:Int)==0)=false:=by rw[beq_eq_false_iff_ne];omega
 by_cases hc:c<0
 ·have He:=show Hid _ from neg hc
  clear neg pos;go_enter Tryz.func20,Tryz.ntmps20;go_wp2;go_ret;exact⟨by rw[He.out];rfl,rfl⟩
 ·have He:=show Hid _ from pos hc
  clear neg pos;go_enter Tryz.func20,Tryz.ntmps20;go_wp2;go_ret;exact⟨by rw[He.out];rfl,rfl⟩
section
variable {CJ RJ:CJT} {W:World} {wb:Nat} {js:List JE} {is:List IEnt} {es:List EEnt} {cnt:Nat}
def LMid(CJ RJ:CJT)(W:World)(wb:Nat)(js:List JE)(is:List IEnt)(es:List EEnt)(cnt i:Nat)(hi:i<js.length)(j':JobM)(w1:World):Prop:=
 ∃f v xs n,LInv CJ RJ f W wb v xs n js is es cnt/\LRest xs n js is es/\∃f1,FrmO f (λc=>c=4*i+1) W w1/\Same W.heap.size f f1/\JobOf CJ f1 w1 (4*i+1) (js[i]).p j'
theorem LSt.prog(KC:KeepsJ CJ)(KR:KeepsJ RJ)(h:LSt CJ RJ W wb js is es cnt){w1:World}(hb:Below W.heap.size W w1)(i:Nat)(hi:i<js.length):∃X,CJ X w1 (js[i]).p (js[i]).j/\∀j' w2,After CJ X w1 (js[i]).p j' w2->LMid CJ RJ w1 wb js is es cnt i hi j' w2/\∀g o,W.heap.size<=g->w1.heap[g]? =some o->w2.heap[g]? =some o:=by
 obtain⟨f,v,xs,n,h1,h2⟩:=h;obtain⟨X,hX,ho⟩:=(h1.jobs i hi).1;refine⟨X,KC.frm hX (FrmX.of_below (X:=λ_=>False) hb) (λ_ _ h=>h),λj' w2 ha=>?_⟩;obtain⟨a1,f1,a2,a3,_⟩:=JobOf.after ho ha;refine⟨⟨f,v,xs,n,h1.old KC KR hb,h2,f1,a1,a2,a3⟩,λg o hg hgo=>?_⟩;obtain⟨X',_,c2,_⟩:=ha
 exact c2.block hgo λhx=>absurd (KC.lt hX g hx) (Nat.not_lt.2 hg)
theorem LMid.ref(KC:KeepsJ CJ)(KR:KeepsJ RJ){i:Nat}{hi:i<js.length}{j':JobM}{w1:World}(h:LMid CJ RJ W wb js is es cnt i hi j' w1):∃Y,RJ Y w1 (js[i]).r (js[i]).j/\∀w2,After RJ Y w1 (js[i]).r j' w2->LPost CJ RJ W wb is es cnt (js.set i ⟨(js[i]).p,(js[i]).r,j'⟩) w2:=by
 obtain⟨f,v,xs,n,h1,h2,f1,a1,a2,a3⟩:=h;obtain⟨Y,hY,ho⟩:=(h1.jobs i hi).2.frm KR a1 a2 omQ;refine⟨Y,hY,λw2 ha=>?_⟩;obtain⟨b1,f2,b2,b3,_⟩:=JobOf.after ho ha;have c1:FrmO f (λc=>c=4*i+1\/c=4*i+2) W w2:=(a1.mono λ_ h=>.inl h).trans a2 (b1.mono λ_ h=>.inr h);have c2:Same W.heap.size f f2:=a2.trans b2 a1.size;exact⟨is,es,cnt,⟨f2,v,xs,n,h1.job KC KR i hi j' c1 c2 (a3.frm KC b1 b2 omQ) b3,h2.job i hi j'⟩,by omega,by omega,by omega,h1.below c1⟩
theorem LSt.way(h:LSt CJ RJ W wb js is es cnt)(i:Nat)(hi:i<js.length):∃g0 d0 g1 d1,W.cell? ⟨wb,0,none⟩=some (.slice (some ⟨g0,0,none⟩) js.length d0)/\W.cell? ⟨wb,1,none⟩=some (.slice (some ⟨g1,0,none⟩) js.length d1)/\W.cell? ⟨g0,i,none⟩=some (.pointer (some ⟨(js[i]).p,0,none⟩))/\W.cell? ⟨g1,i,none⟩=some (.pointer (some ⟨(js[i]).r,0,none⟩)):=by
 obtain⟨f,v,xs,n,h1,h2⟩:=h;obtain⟨a0,c0,e0⟩:=h1.shape 0 (by decide);obtain⟨a1,c1,e1⟩:=h1.shape 1 (by decide);have b0:=h1.cellAt 0 (by decide);have b1:=h1.cellAt 1 (by decide);have r0:W.ownsRow 0 45 1 (v 0) (n 0) (xs 0):=(h1.rows 0 (by decide)).row;have r1:W.ownsRow 0 49 1 (v 1) (n 1) (xs 1):=(h1.rows 1 (by decide)).row;rw[h2.n0]at e0 r0;rw[h2.n1]at e1 r1;rw[e0]at b0 r0;rw[e1]at b1 r1;rw[h2.x0]at r0;rw[h2.x1]at r1
 rcases Qai r0 with⟨_,h0⟩ | ⟨g0,rfl⟩
 ·omega
 rcases Qai r1 with⟨_,h0⟩ | ⟨g1,rfl⟩
 ·omega
 refine⟨g0,c0,g1,c1,b0,b1,?_,?_⟩
 ·rw[r0.cellAt i omQ,List.getElem?_map,List.getElem?_eq_getElem hi]
  rfl
 ·rw[r1.cellAt i omQ,List.getElem?_map,List.getElem?_eq_getElem hi]
  rfl
def FPost(CJ RJ:CJT)(W:World)(wb:Nat)(js:List JE)(is:List IEnt)(es:List EEnt)(cnt N:Nat)(w':World):Prop:=∃js',LPost CJ RJ W wb is es cnt js' w'/\js'.length=js.length/\∀x∈js',x.j.number<=N+1
theorem FPost.set{i:Nat}{hi:i<js.length}{j':JobM}{w':World}{N:Nat}(hN:∀x∈js,x.j.number<=N)(hj:j'.number<=N+1)(h:LPost CJ RJ W wb is es cnt (js.set i ⟨(js[i]).p,(js[i]).r,j'⟩) w'):FPost CJ RJ W wb js is es cnt N w':=by
 refine⟨_,h,by simp,λx hx=>?_⟩
 rcases List.mem_or_eq_of_mem_set hx with h1 | rfl
 ·have:=hN x h1;omega
 ·exact hj
theorem FPost.same{w':World}{N:Nat}(hN:∀x∈js,x.j.number<=N)(h:LPost CJ RJ W wb is es cnt js w'):FPost CJ RJ W wb js is es cnt N w':=⟨js,h,rfl,λx hx=>by have:=hN x hx;omega⟩
theorem Qj6(I:JobIface CJ)(J:RefIface RJ)(KC:KeepsJ CJ)(h:LSt CJ RJ W wb js is es cnt)(ht:Tab W)(hj0:0<js.length)(hjs:js.length<=1600000000002)(N:Nat)(hN:∀x∈js,x.j.number<=N)(hN2:N<=2000000000000)(k a b c d:Int)(s:ByteArray)(e:Ev)(hk:k=4\/k=5\/k=6\/k=7\/k=8\/k=9)(a0:-9223372036854775808<=a)(a1:a<=9223372036854775807)(b0:-9223372036854775808<=b)(b1:b<=9223372036854775807)(hcnt:cnt<=2000000000000)(hlen:es.length<=6400000000000)(hlen2:is.length<=6400000000000):
  Calls Tryz.prog 12 #[.pointer (some ⟨wb,0,none⟩),.agg #[.int .i64 k,.int .i64 a,.int .i64 b,.string s,.int .u8 (e.op:Int),.string e.key,.int .u16 (e.seq:Int),.int .i16 e.val,.int .i64 c,.int .i64 d]] W λen w'=>en=.returned (.bool true)/\FPost CJ RJ W wb js is es cnt N w':=by
 have KR:=J.keeps;obtain⟨op,key,seq,val⟩:=e;simp only;have hil:pickL b js.length<js.length:=Nat.mod_lt _ hj0
 have HP:=show Hid (∀w,Calls Tryz.prog 20 #[.int .i64 b,.int .i64 (js.length:Int)] w λe w'=>e=.returned (.int .i64 (pickL b js.length:Int))/\w'=w)from λw=>Qlz b js.length w b0 b1 hj0 hjs
 generalize pickL b js.length=i at hil HP;have hNi:=hN _ (List.getElem_mem hil)
 have hbx:∀o,Below W.heap.size W (W.alloc o):=λo=>(Below.refl W.heap.size W).alloc (Nat.le_refl _) o
 have HW:=show Hid (∀w1,Below W.heap.size W w1->LSt CJ RJ w1 wb js is es cnt/\Tab w1/\Below wb W w1)from λw1 hb=>⟨h.old KC KR hb,ht.old hb,hb.mono (Nat.le_of_lt h.lt)⟩
 have HSt:=show Hid (∀w1,Below W.heap.size W w1->Calls Tryz.prog 21 #[.pointer (some ⟨(js[i]).p,0,none⟩),.int .i64 a] w1 λen w'=>en=.returned (.int .i64 (((js[i]).j.step a).1:Int))/\LMid CJ RJ w1 wb js is es cnt i hil ((js[i]).j.step a).2 w'/\∀g o,W.heap.size<=g->w1.heap[g]? =some o->w'.heap[g]? =some o)from λw1 hb=>by
  obtain⟨X,hX,hgo⟩:=h.prog KC KR hb i hil
  exact(I.step hX a a0 a1).mono λ_ _ ⟨e1,e2⟩=>⟨e1,hgo _ _ e2⟩
 have HSr:=show Hid (∀w1 w2,Below W.heap.size W w1->LMid CJ RJ w1 wb js is es cnt i hil ((js[i]).j.step a).2 w2->Calls Tryz.prog 22 #[.pointer (some ⟨(js[i]).r,0,none⟩),.int .i64 a] w2 λen w'=>en=.returned (.int .i64 (((js[i]).j.step a).1:Int))/\FPost CJ RJ W wb js is es cnt N w')from λw1 w2 hb hm=>by
  obtain⟨Y,hY,hgo⟩:=hm.ref KC KR
  exact(J.step hY a).mono λ_ _ ⟨e1,e2⟩=>⟨e1,FPost.set hN (by rw[Qik];omega) ((hgo _ e2).after (HW.out w1 hb).2.2)⟩
 have HTt:=show Hid (∀w1,Below W.heap.size W w1->Calls Tryz.prog 23 #[.pointer (some ⟨(js[i]).p,0,none⟩)] w1 λen w'=>en=.returned (.tuple #[.int .i64 ((js[i]).j.trigger.1:Int),.int .i64 ((js[i]).j.trigger.2.1:Int)])/\LMid CJ RJ w1 wb js is es cnt i hil (js[i]).j.trigger.2.2 w')from λw1 hb=>by
  obtain⟨X,hX,hgo⟩:=h.prog KC KR hb i hil
  exact(I.trigger hX omQ).mono λ_ _ ⟨e1,e2⟩=>⟨e1,(hgo _ _ e2).1⟩
 have HTr:=show Hid (∀w1 w2,Below W.heap.size W w1->LMid CJ RJ w1 wb js is es cnt i hil (js[i]).j.trigger.2.2 w2->Calls Tryz.prog 24 #[.pointer (some ⟨(js[i]).r,0,none⟩)] w2 λen w'=>en=.returned (.tuple #[.int .i64 ((js[i]).j.trigger.1:Int),.int .i64 ((js[i]).j.trigger.2.1:Int)])/\FPost CJ RJ W wb js is es cnt N w')from λw1 w2 hb hm=>by
  obtain⟨Y,hY,hgo⟩:=hm.ref KC KR
  exact(J.trigger hY omQ).mono λ_ _ ⟨e1,e2⟩=>⟨e1,FPost.set hN (by have:=QfK (js[i]).j;omega) ((hgo _ e2).after (HW.out w1 hb).2.2)⟩
 have HFt:=show Hid (∀w1,Below W.heap.size W w1->Calls Tryz.prog 30 #[.pointer (some ⟨(js[i]).p,0,none⟩)] w1 λen w'=>en=.returned (.tuple #[])/\LMid CJ RJ w1 wb js is es cnt i hil (js[i]).j.fail w')from λw1 hb=>by
  obtain⟨X,hX,hgo⟩:=h.prog KC KR hb i hil
  exact(I.fail hX).mono λ_ _ ⟨e1,e2⟩=>⟨e1,(hgo _ _ e2).1⟩
 have HFr:=show Hid (∀w1 w2,Below W.heap.size W w1->LMid CJ RJ w1 wb js is es cnt i hil (js[i]).j.fail w2->Calls Tryz.prog 31 #[.pointer (some ⟨(js[i]).r,0,none⟩)] w2 λen w'=>en=.returned (.tuple #[])/\FPost CJ RJ W wb js is es cnt N w')from λw1 w2 hb hm=>by
  obtain⟨Y,hY,hgo⟩:=hm.ref KC KR
  exact(J.fail hY).mono λ_ _ ⟨e1,e2⟩=>⟨e1,FPost.set hN (by rw[Qil];omega) ((hgo _ e2).after (HW.out w1 hb).2.2)⟩
 have HQ:=show Hid (∀w1,Below W.heap.size W w1->Calls Tryz.prog 25 #[.pointer (some ⟨wb,0,none⟩),.pointer (some ⟨(js[i]).p,0,none⟩),.pointer (some ⟨(js[i]).r,0,none⟩),.int .i64 a] w1 λen w'=>en=.returned (.bool true)/\FPost CJ RJ W wb js is es cnt N w')from λw1 hb=>by
  refine(QiF I J KC (HW.out w1 hb).1 i hil a a0 a1 hcnt hlen hlen2).mono ?_;rintro en w' ⟨rfl,hp⟩;exact⟨rfl,FPost.same hN (hp.after (HW.out w1 hb).2.2)⟩
 have HOt:=show Hid (∀w1,Below W.heap.size W w1->Calls Tryz.prog 26 #[.pointer (some ⟨(js[i]).p,0,none⟩)] w1 λen w'=>en=.returned (.int .i64 ((js[i]).j.base:Int))/\Below W.heap.size W w')from λw1 hb=>by
  obtain⟨X,hX,_⟩:=h.prog KC KR hb i hil
  exact(I.offset hX).mono λ_ _ ⟨e1,e2⟩=>⟨e1,hb.trans (e2.mono hb.size)⟩
 have HOr:=show Hid (∀w1,Below W.heap.size W w1->Calls Tryz.prog 27 #[.pointer (some ⟨(js[i]).r,0,none⟩)] w1 λen w'=>en=.returned (.int .i64 ((js[i]).j.base:Int))/\FPost CJ RJ W wb js is es cnt N w')from λw1 hb=>by
  obtain⟨f,v,xs,n,h1,_⟩:=(HW.out w1 hb).1;obtain⟨Y,hY,_⟩:=(h1.jobs i hil).2
  exact(J.offset hY).mono λ_ _ ⟨e1,e2⟩=>⟨e1,FPost.same hN (LPost.of_below KC KR h (hb.trans (e2.mono hb.size)))⟩
 have HVt:=show Hid (∀w1,Below W.heap.size W w1->Calls Tryz.prog 28 #[.pointer (some ⟨(js[i]).p,0,none⟩)] w1 λen w'=>en=.returned (.string ⟨(foldB ((js[i]).j.events.take (js[i]).j.base)).toArray⟩)/\Below W.heap.size W w')from λw1 hb=>by
  obtain⟨X,hX,_⟩:=h.prog KC KR hb i hil
  exact(I.view hX (HW.out w1 hb).2.1).mono λ_ _ ⟨e1,e2⟩=>⟨e1,hb.trans (e2.mono hb.size)⟩
 have HVr:=show Hid (∀w1,Below W.heap.size W w1->Calls Tryz.prog 29 #[.pointer (some ⟨(js[i]).r,0,none⟩)] w1 λen w'=>en=.returned (.string ⟨(foldB ((js[i]).j.events.take (js[i]).j.base)).toArray⟩)/\FPost CJ RJ W wb js is es cnt N w')from λw1 hb=>by
  obtain⟨f,v,xs,n,h1,_⟩:=(HW.out w1 hb).1;obtain⟨Y,hY,_⟩:=(h1.jobs i hil).2
  exact(J.view hY).mono λ_ _ ⟨e1,e2⟩=>⟨e1,FPost.same hN (LPost.of_below KC KR h (hb.trans (e2.mono hb.size)))⟩
 have hN':=hdQ Qcc;obtain⟨g0,d0,g1,d1,w0,w1',y0,y1⟩:=h.way i hil
 have HWay:=show Hid (W.cell? ⟨wb,0,none⟩=some (.slice (some ⟨g0,0,none⟩) js.length d0)/\W.cell? ⟨wb,1,none⟩=some (.slice (some ⟨g1,0,none⟩) js.length d1)/\W.cell? ⟨g0,i,none⟩=some (.pointer (some ⟨(js[i]).p,0,none⟩))/\W.cell? ⟨g1,i,none⟩=some (.pointer (some ⟨(js[i]).r,0,none⟩)))from⟨w0,w1',y0,y1⟩
 have hii:(i:Int)<(js.length:Int):=omQ;have hi0:(0:Int)<=(i:Int):=omQ;clear h ht hN hNi w0 w1' y0 y1 HW KC KR I J a0 a1 b0 b1 hN2 hbx;generalize(js[i]).p=pb at *;generalize(js[i]).r=rb at *;generalize((js[i]).j.step a).1=q1 at *;generalize(js[i]).j.trigger.1=q2 at *;generalize(js[i]).j.trigger.2.1=q3 at *;generalize(js[i]).j.base=q4 at *;generalize(⟨(foldB ((js[i]).j.events.take q4)).toArray⟩:ByteArray)=q5 at *;have hnb:=heap_alloc_new W (.cells #[.int .i64 k,.int .i64 a,.int .i64 b,.string s,.int .u8 (op:Int),.string key,.int .u16 (seq:Int),.int .i16 val,.int .i64 c,.int .i64 d] 42);have hba:=(Below.refl W.heap.size W).alloc (Nat.le_refl _) (.cells #[.int .i64 k,.int .i64 a,.int .i64 b,.string s,.int .u8 (op:Int),.string key,.int .u16 (seq:Int),.int .i16 val,.int .i64 c,.int .i64 d] 42);go_enter Tryz.func12,Tryz.ntmps12;go_wp2;generalize W.alloc (.cells #[.int .i64 k,.int .i64 a,.int .i64 b,.string s,.int .u8 (op:Int),.string key,.int .u16 (seq:Int),.int .i16 val,.int .i64 c,.int .i64 d] 42)=wa at hnb hba ⊢;have w0:wa.cell? ⟨wb,0,none⟩=_:=Qae HWay.out.1 hba;have y0:wa.cell? ⟨g0,i,none⟩=_:=Qae HWay.out.2.2.1 hba;have o2:wa.cell? ⟨W.heap.size,2,none⟩=some (.int .i64 b):=Qaa hnb 2
 go_quiet (first | (go_at_call 20;refine Calls.quiet_of_same (HP.out _)))
 clear w0 y0 o2
 have HB:=show Hid (Below W.heap.size W (wa.drewN nq)/\(wa.drewN nq).heap[W.heap.size]? =some (.cells #[.int .i64 k,.int .i64 a,.int .i64 b,.string s,.int .u8 (op:Int),.string key,.int .u16 (seq:Int),.int .i16 val,.int .i64 c,.int .i64 d] 42 (0,0)))from⟨below_drewN hba nq,hnb⟩
 clear hba hnb;generalize wa.drewN nq=wc at HB ⊢;clear nq;clear wa;go_wp2;have w0:wc.cell? ⟨wb,0,none⟩=_:=Qae HWay.out.1 HB.out.1;have w1:wc.cell? ⟨wb,1,none⟩=_:=Qae HWay.out.2.1 HB.out.1;have y1:wc.cell? ⟨g1,i,none⟩=_:=Qae HWay.out.2.2.2 HB.out.1;have o2:wc.cell? ⟨W.heap.size,2,none⟩=some (.int .i64 b):=Qaa HB.out.2 2
 go_quiet (first | (go_at_call 20;refine Calls.quiet_of_same (HP.out _)))
 clear w0 w1 y1 o2
 have HD:=show Hid (Below W.heap.size W (wc.drewN nq)/\(wc.drewN nq).heap[W.heap.size]? =some (.cells #[.int .i64 k,.int .i64 a,.int .i64 b,.string s,.int .u8 (op:Int),.string key,.int .u16 (seq:Int),.int .i16 val,.int .i64 c,.int .i64 d] 42 (0,0)))from⟨below_drewN HB.out.1 nq,HB.out.2⟩
 clear HB HP HWay;generalize wc.drewN nq=wd at HD ⊢;clear nq;clear wc;have o0:wd.cell? ⟨W.heap.size,0,none⟩=some (.int .i64 k):=Qaa HD.out.2 0;have o1:wd.cell? ⟨W.heap.size,1,none⟩=some (.int .i64 a):=Qaa HD.out.2 1
 rcases hk with rfl | rfl | rfl | rfl | rfl | rfl
 ·clear HTt HTr HFt HFr HQ HOt HOr HVt HVr
  go_wp2_with(first
   | (go_at_call 21;refine(HSt.out wd HD.out.1).mono ?_;rintro en w2 ⟨rfl,hm,hkeep⟩;have o1b:w2.cell? ⟨W.heap.size,1,none⟩=some (.int .i64 a):=Qaa (hkeep _ _ (Nat.le_refl _) HD.out.2) 1;have Hm:=show Hid _ from hm;clear hm hkeep)
   | (go_at_call 22;refine(HSr.out wd w2 HD.out.1 Hm.out).mono ?_;rintro en w3 ⟨rfl,hpost⟩)
   | (go_at_call 10;refine(hN'.out _ _).mono ?_;rintro en w4 ⟨rfl,rfl⟩))
  go_ret;exact⟨rfl,hpost⟩
 ·clear HSt HSr HFt HFr HQ HOt HOr HVt HVr
  go_wp2_with(first
   | (go_at_call 23;refine(HTt.out wd HD.out.1).mono ?_;rintro en w2 ⟨rfl,hm⟩;have Hm:=show Hid _ from hm;clear hm)
   | (go_at_call 24;refine(HTr.out wd w2 HD.out.1 Hm.out).mono ?_;rintro en w3 ⟨rfl,hpost⟩)
   | (go_at_call 10;refine(hN'.out _ _).mono ?_;rintro en w4 ⟨rfl,rfl⟩))
  go_ret;exact⟨rfl,hpost⟩
 ·clear HSt HSr HFt HFr HTt HTr HOt HOr HVt HVr
  go_wp2_with(go_at_call 25;refine(HQ.out wd HD.out.1).mono ?_;rintro en w2 ⟨rfl,hpost⟩)
  go_ret;exact⟨rfl,hpost⟩
 ·clear HSt HSr HFt HFr HTt HTr HQ HVt HVr
  go_wp2_with(first
   | (go_at_call 26;refine(HOt.out wd HD.out.1).mono ?_;rintro en w2 ⟨rfl,hb2⟩)
   | (go_at_call 27;refine(HOr.out w2 hb2).mono ?_;rintro en w3 ⟨rfl,hpost⟩))
  go_ret;exact⟨rfl,hpost⟩
 ·clear HSt HSr HFt HFr HTt HTr HQ HOt HOr
  go_wp2_with(first
   | (go_at_call 28;refine(HVt.out wd HD.out.1).mono ?_;rintro en w2 ⟨rfl,hb2⟩)
   | (go_at_call 29;refine(HVr.out w2 hb2).mono ?_;rintro en w3 ⟨rfl,hpost⟩))
  go_ret;exact⟨rfl,hpost⟩
 ·clear HSt HSr HTt HTr HQ HOt HOr HVt HVr
  go_wp2_with(first
   | (go_at_call 30;refine(HFt.out wd HD.out.1).mono ?_;rintro en w2 ⟨rfl,hm⟩;have Hm:=show Hid _ from hm;clear hm)
   | (go_at_call 31;refine(HFr.out wd w2 HD.out.1 Hm.out).mono ?_;rintro en w3 ⟨rfl,hpost⟩))
  go_ret;exact⟨rfl,hpost⟩
end
end
section
open Go.ChangeShapes Go.WideShapes Go.ChangeAt Go.RowKit Go.Deep
theorem Tryz.cellsEv:Tryz.prog.cellsOf 40=4:=by kernel_rfl
theorem Tryz.cellsStr:Tryz.prog.cellsOf 9=1:=by kernel_rfl
theorem list4{α:Type}:∀ {l:List α},l.length=4->∃a b c d,l=[a,b,c,d]
 | [a,b,c,d],_=>⟨a,b,c,d,rfl⟩
theorem QlA{H:Type}{enc:TypeId × Value->H}{P:Program}{w:World}{base:Nat}{spare:Nat->Bool}{held:Bool}{fuel:Nat}{t:TypeId}{f0 f1 f2 f3:Field}{c0 c1 c2 c3:Value}{x:DataW H × List MemPlace}
  (hs:P.underlying t=some (.struct #[f0,f1,f2,f3])) (hone:oneCellFields P #[f0,f1,f2,f3]=true) (h:DataW.trod enc P w base spare held fuel t [c0,c1,c2,c3]=some x):
  ∃y0 y1 y2 y3 n,DataW.trod enc P w base spare held n f0.type [c0]=some y0/\DataW.trod enc P w base spare held n f1.type [c1]=some y1/\DataW.trod enc P w base spare held n f2.type [c2]=some y2/\DataW.trod enc P w base spare held n f3.type [c3]=some y3:=by
 obtain⟨y0,y1,y2,y3,n,_,_,h0,h1,h2,h3⟩:=Joins.trod_struct4 hs h;obtain⟨o0,k0⟩:=hone_of hone 0 f0 rfl;obtain⟨o1,k1⟩:=hone_of hone 1 f1 rfl;obtain⟨o2,k2⟩:=hone_of hone 2 f2 rfl;obtain⟨o3,k3⟩:=hone_of hone 3 f3 rfl;exact⟨y0,y1,y2,y3,n,by simpa[o0,k0]using h0,by simpa[o1,k1]using h1,by simpa[o2,k2]using h2,by simpa[o3,k3]using h3⟩
theorem Qj7{H:Type}{enc:TypeId × Value->H}{w:World}{base:Nat}{spare:Nat->Bool}{held:Bool}{fuel:Nat}{cs:List Value}{x:DataW H × List MemPlace}
  (h:DataW.trod enc Tryz.prog w base spare held fuel 40 cs=some x):∃e:Ev,e.ok/\cs=evCells1 e:=by
 obtain⟨_,_,_,_,_,_,hl,_⟩:=Joins.trod_struct4 Tryz.underlying40 h;rw[Tryz.cellsEv]at hl;obtain⟨c0,c1,c2,c3,rfl⟩:=list4 hl;clear hl;obtain⟨y0,y1,y2,y3,n,t0,t1,t2,t3⟩:=QlA Tryz.underlying40 krQ h;obtain⟨op,e0,_,w0⟩:=DataW.trod_int Tryz.underlying5 t0;obtain⟨key,e1,_,_⟩:=DataW.trod_string Tryz.underlying9 t1;obtain⟨seq,e2,_,w2⟩:=DataW.trod_int Tryz.underlying37 t2;obtain⟨val,e3,_,w3⟩:=DataW.trod_int Tryz.underlying38 t3;simp at e0 e1 e2 e3;subst e0 e1 e2 e3;have b0:=bounds_u8 w0;have b2:=bounds_u16 w2;have b3:=bounds_i16 w3;refine⟨⟨op.toNat,key,seq.toNat,val⟩,⟨by simp only;omega,by simp only;omega,b3.1,b3.2⟩,?_⟩;simp only[evCells1];rw[show((op.toNat:Nat):Int)=op from by omega,show((seq.toNat:Nat):Int)=seq from by omega]
theorem Tryz.cellsOp:Tryz.prog.cellsOf 42=10:=by kernel_rfl
theorem Tryz.cellsInt:Tryz.prog.cellsOf 3=1:=by kernel_rfl
theorem Tryz.cellsCfg:Tryz.prog.cellsOf 23=2:=by kernel_rfl
theorem Tryz.bytesOp:Tryz.prog.bytesOf 42=88:=by kernel_rfl
theorem list10{α:Type}:∀ {l:List α},l.length=10->∃a b c d e f g h i j,l=[a,b,c,d,e,f,g,h,i,j]
 | [a,b,c,d,e,f,g,h,i,j],_=>⟨a,b,c,d,e,f,g,h,i,j,rfl⟩
theorem Qeh{H:Type}{enc:TypeId × Value->H}{P:Program}{w:World}{base:Nat}{spare:Nat->Bool}{held:Bool}{t:TypeId}{f0 f1 f2 f3 f4 f5:Field}{fuel:Nat}{cs:List Value}{x:DataW H × List MemPlace}(ht:P.underlying t=some (.struct #[f0,f1,f2,f3,f4,f5]))(h:DataW.trod enc P w base spare held fuel t cs=some x):
  ∃y0 y1 y2 y3 y4 y5 n,x.1=.agg [y0.1,y1.1,y2.1,y3.1,y4.1,y5.1]/\cs.length=P.cellsOf t/\DataW.trod enc P w base spare held n f0.type ((cs.drop f0.offset).take (P.cellsOf f0.type))=some y0/\
   DataW.trod enc P w base spare held n f1.type ((cs.drop f1.offset).take (P.cellsOf f1.type))=some y1/\DataW.trod enc P w base spare held n f2.type ((cs.drop f2.offset).take (P.cellsOf f2.type))=some y2/\
   DataW.trod enc P w base spare held n f3.type ((cs.drop f3.offset).take (P.cellsOf f3.type))=some y3/\DataW.trod enc P w base spare held n f4.type ((cs.drop f4.offset).take (P.cellsOf f4.type))=some y4/\DataW.trod enc P w base spare held n f5.type ((cs.drop f5.offset).take (P.cellsOf f5.type))=some y5:=by
 obtain⟨xs,n,_,rfl,hl,hlen,hf⟩:=DataW.trod_struct ht h
 match xs,hlen with
 | [y0,y1,y2,y3,y4,y5],_=>exact⟨y0,y1,y2,y3,y4,y5,n,by simp,hl,by simpa using hf 0 f0 rfl,by simpa using hf 1 f1 rfl,by simpa using hf 2 f2 rfl,by simpa using hf 3 f3 rfl,by simpa using hf 4 f4 rfl,by simpa using hf 5 f5 rfl⟩
theorem QlB{H:Type}{enc:TypeId × Value->H}{w:World}{base:Nat}{spare:Nat->Bool}{held:Bool}{fuel:Nat}{c0 c1 c2 c3:Value}{x:DataW H × List MemPlace}
  (h:DataW.trod enc Tryz.prog w base spare held fuel 40 [c0,c1,c2,c3]=some x):∃e:Ev,e.ok/\[c0,c1,c2,c3]=evCells1 e/\e.key.size∈x.1.weights Tryz.prog 40:=by
 obtain⟨e,he,hc⟩:=Qj7 h;refine⟨e,he,hc,?_⟩;obtain⟨z0,z1,z2,z3,m,hx,_⟩:=Joins.trod_struct4 Tryz.underlying40 h;obtain⟨y0,y1,y2,y3,n,hx',_,t0,t1,_⟩:=Joins.trod_struct4 Tryz.underlying40 h;simp only[Tryz.cellsStr,List.drop_succ_cons,List.drop_zero,List.take_succ_cons,List.take_zero]at t1;obtain⟨key,e1,hy1,_⟩:=DataW.trod_string Tryz.underlying9 t1;simp at e1;simp[evCells1]at hc
 have hk:key=e.key:=by
  have:=hc.2.1;rw[e1]at this
  simpa using this
 subst hk;rw[hx',hy1];simp[DataW.weights,DataW.weightsEach,Tryz.underlying40]
theorem Qj8{H:Type}{enc:TypeId × Value->H}{w:World}{base:Nat}{spare:Nat->Bool}{held:Bool}{fuel:Nat}{cs:List Value}{x:DataW H × List MemPlace}
  (h:DataW.trod enc Tryz.prog w base spare held fuel 42 cs=some x):∃o:OpV,o.e.ok/\cs=o.cells/\o.e.key.size∈x.1.weights Tryz.prog 42:=by
 obtain⟨y0,y1,y2,y3,y4,y5,n,hx,hl,t0,t1,t2,t3,t4,t5⟩:=Qeh Tryz.underlying42 h;rw[Tryz.cellsOp]at hl;obtain⟨a0,a1,a2,a3,a4,a5,a6,a7,a8,a9,rfl⟩:=list10 hl;clear hl h;simp only[Tryz.cellsInt,Tryz.cellsStr,Tryz.cellsEv,Tryz.cellsCfg,List.drop_succ_cons,List.drop_zero,List.take_succ_cons,List.take_zero]at t0 t1 t2 t3 t4 t5;obtain⟨i0,e0,_,_⟩:=DataW.trod_int Tryz.underlying3 t0;obtain⟨i1,e1,_,_⟩:=DataW.trod_int Tryz.underlying3 t1;obtain⟨i2,e2,_,_⟩:=DataW.trod_int Tryz.underlying3 t2;obtain⟨s3,e3,_,_⟩:=DataW.trod_string Tryz.underlying9 t3;obtain⟨ev,hev,e4,hw⟩:=QlB t4;obtain⟨z0,z1,m,_,_,g0,g1⟩:=trod_struct2 Tryz.underlying23 t5;simp only[Tryz.cellsInt,List.drop_succ_cons,List.drop_zero,List.take_succ_cons,List.take_zero]at g0 g1;obtain⟨i8,e8,_,_⟩:=DataW.trod_int Tryz.underlying3 g0;obtain⟨i9,e9,_,_⟩:=DataW.trod_int Tryz.underlying3 g1;simp at e0 e1 e2 e3 e8 e9;subst e0 e1 e2 e3 e8 e9;refine⟨⟨i0,i1,i2,s3,ev,i8,i9⟩,hev,?_,?_⟩
 ·simp only[evCells1,List.cons.injEq,and_true]at e4;simp[OpV.cells,e4.1,e4.2.1,e4.2.2.1,e4.2.2.2]
 ·rw[hx];simp only[DataW.weights,Tryz.underlying42,List.map_cons,List.map_nil,DataW.weightsEach,List.mem_append];simp[hw]
theorem Qdx{H:Type}{P:Program}{e:TypeId}{n:Nat}:∀ {ds:List (DataW H)} {d:DataW H},d∈ds->n∈d.weights P e->n∈DataW.weightsAll P e ds
 | x :: r,d,hd,hn=>by
  simp only[DataW.weightsAll,List.mem_append]
  rcases List.mem_cons.1 hd with rfl | h
  ·exact .inl hn
  ·exact .inr (Qdx h hn)
end
section
open Go.RowKit
section
variable {CJ RJ:CJT} {W:World} {wb:Nat} {js:List JE} {is:List IEnt} {es:List EEnt} {cnt:Nat}
def SPost(CJ RJ:CJT)(W:World)(wb:Nat)(js:List JE)(is:List IEnt)(es:List EEnt)(cnt N:Nat)(w':World):Prop:=∃js',LPost CJ RJ W wb is es cnt js' w'/\js'.length<=js.length+1/\∀x∈js',x.j.number<=N+1
def OpB(o:OpV):Prop:=(-9223372036854775808<=o.a/\o.a<=9223372036854775807)/\(-9223372036854775808<=o.b/\o.b<=9223372036854775807)
theorem Qj9(h:LSt CJ RJ W wb js is es cnt)(hj0:0<js.length)(N:Nat)(k a b c d:Int)(s:ByteArray)(e:Ev)(hk1:4<=k)(hk2:k<=9)
  (hF:∀o,Calls Tryz.prog 12 #[.pointer (some ⟨wb,0,none⟩),.agg #[.int .i64 k,.int .i64 a,.int .i64 b,.string s,.int .u8 (e.op:Int),.string e.key,.int .u16 (e.seq:Int),.int .i16 e.val,.int .i64 c,.int .i64 d]] (W.alloc o) λen w'=>en=.returned (.bool true)/\SPost CJ RJ W wb js is es cnt N w'):
  Calls Tryz.prog 6 #[.pointer (some ⟨wb,0,none⟩),.agg #[.int .i64 k,.int .i64 a,.int .i64 b,.string s,.int .u8 (e.op:Int),.string e.key,.int .u16 (e.seq:Int),.int .i16 e.val,.int .i64 c,.int .i64 d]] W λen w'=>en=.returned (.bool true)/\SPost CJ RJ W wb js is es cnt N w':=by
 have HF:=hdQ hF;obtain⟨g0,d0,_,_,w0,_⟩:=h.way 0 hj0;have c0:(W.alloc (.cells #[.int .i64 k,.int .i64 a,.int .i64 b,.string s,.int .u8 (e.op:Int),.string e.key,.int .u16 (e.seq:Int),.int .i16 e.val,.int .i64 c,.int .i64 d] 42)).cell? ⟨wb,0,none⟩=some (.slice (some ⟨g0,0,none⟩) js.length d0):=Qae w0 ((Below.refl W.heap.size W).alloc (Nat.le_refl _) _);have hjn:(0:Int)<(js.length:Int):=omQ;obtain⟨op,key,seq,val⟩:=e;simp only at HF c0 ⊢;clear h hF w0;have h1:¬k<=3:=omQ;have h0:(1:Int)<=k:=omQ;go_enter Tryz.func6,Tryz.ntmps6
 go_wp2_with(go_at_call 12;refine(HF.out _).mono ?_;rintro en w1 ⟨rfl,hl⟩)
 go_ret;exact⟨rfl,hl⟩
theorem Qka(N:Nat)(a b c d:Int)(s:ByteArray)(e:Ev)
  (hF:∀o,Calls Tryz.prog 5 #[.pointer (some ⟨wb,0,none⟩),.agg #[.int .i64 c,.int .i64 d],.string s] (W.alloc o) λen w'=>en=.returned (.bool true)/\SPost CJ RJ W wb js is es cnt N w'):
  Calls Tryz.prog 6 #[.pointer (some ⟨wb,0,none⟩),.agg #[.int .i64 10,.int .i64 a,.int .i64 b,.string s,.int .u8 (e.op:Int),.string e.key,.int .u16 (e.seq:Int),.int .i16 e.val,.int .i64 c,.int .i64 d]] W λen w'=>en=.returned (.bool true)/\SPost CJ RJ W wb js is es cnt N w':=by
 have HF:=hdQ hF;obtain⟨op,key,seq,val⟩:=e;clear hF;go_enter Tryz.func6,Tryz.ntmps6
 go_wp2_with(go_at_call 5;refine(HF.out _).mono ?_;rintro en w1 ⟨rfl,hl⟩)
 go_ret;exact⟨rfl,hl⟩
theorem QiG(h:LSt CJ RJ W wb [] is es cnt)(k a b c d:Int)(s:ByteArray)(e:Ev)(hk1:4<=k)(hk2:k<=9):
  Calls Tryz.prog 6 #[.pointer (some ⟨wb,0,none⟩),.agg #[.int .i64 k,.int .i64 a,.int .i64 b,.string s,.int .u8 (e.op:Int),.string e.key,.int .u16 (e.seq:Int),.int .i16 e.val,.int .i64 c,.int .i64 d]] W λen w'=>en=.returned (.bool true)/\Below W.heap.size W w':=by
 have hc:∃a0 d0,W.cell? ⟨wb,0,none⟩=some (.slice a0 0 d0):=by
  obtain⟨f,v,xs,n,h1,h2⟩:=h;obtain⟨a0,c0,e0⟩:=h1.shape 0 (by decide);rw[h2.n0]at e0;exact⟨a0,c0,by rw[h1.cellAt 0 (by decide),e0];rfl⟩
 obtain⟨a0,d0,w0⟩:=hc;have c0:(W.alloc (.cells #[.int .i64 k,.int .i64 a,.int .i64 b,.string s,.int .u8 (e.op:Int),.string e.key,.int .u16 (e.seq:Int),.int .i16 e.val,.int .i64 c,.int .i64 d] 42)).cell? ⟨wb,0,none⟩=some (.slice a0 0 d0):=Qae w0 ((Below.refl W.heap.size W).alloc (Nat.le_refl _) _);obtain⟨op,key,seq,val⟩:=e;simp only at c0 ⊢;clear h w0;have h1:¬k<=3:=omQ;have h0:(1:Int)<=k:=omQ;have h10:¬k=10:=omQ
 have h10b:(k==10)=false:=by rw[beq_eq_false_iff_ne];exact h10
 go_enter Tryz.func6,Tryz.ntmps6;go_wp2;go_ret;exact⟨rfl,(Below.refl _ _).alloc (Nat.le_refl _) _⟩
theorem Qkb(W:World)(wb:Nat)(k a b c d:Int)(s:ByteArray)(e:Ev)(hk:10<k):
  Calls Tryz.prog 6 #[.pointer (some ⟨wb,0,none⟩),.agg #[.int .i64 k,.int .i64 a,.int .i64 b,.string s,.int .u8 (e.op:Int),.string e.key,.int .u16 (e.seq:Int),.int .i16 e.val,.int .i64 c,.int .i64 d]] W λen w'=>en=.returned (.bool true)/\Below W.heap.size W w':=by
 obtain⟨op,key,seq,val⟩:=e;have h0:(1:Int)<=k:=omQ;have h1:¬k<=3:=omQ;have h4:(4:Int)<=k:=omQ;have h9:¬k<=9:=omQ;have h10:¬k=10:=omQ
 have h10b:(k==10)=false:=by rw[beq_eq_false_iff_ne];exact h10
 go_enter Tryz.func6,Tryz.ntmps6;go_wp2;go_ret;exact⟨rfl,(Below.refl _ _).alloc (Nat.le_refl _) _⟩
theorem QlC(I:JobIface CJ)(J:RefIface RJ)(KC:KeepsJ CJ)(h:LSt CJ RJ W wb js is es cnt)(ht:Tab W)(hjs:js.length<=1600000000001)(N:Nat)(hN:∀x∈js,x.j.number<=N)(hN2:N<=2000000000000)(o:OpV)(ho:OpB o)(hok:o.e.ok)(hks:o.e.key.size<=9223372036854775800)(hcnt:cnt<=2000000000000)(hlen:es.length<=6400000000000)(hlen2:is.length<=6400000000000):
  Calls Tryz.prog 6 #[.pointer (some ⟨wb,0,none⟩),.agg #[.int .i64 o.kind,.int .i64 o.a,.int .i64 o.b,.string o.s,.int .u8 (o.e.op:Int),.string o.e.key,.int .u16 (o.e.seq:Int),.int .i16 o.e.val,.int .i64 o.c,.int .i64 o.d]] W λen w'=>en=.returned (.bool true)/\SPost CJ RJ W wb js is es cnt N w':=by
 have KR:=J.keeps
 have hNm:∀x∈js,x.j.number<=N+1:=λx hx=>by have:=hN x hx;omega
 have same:∀ {en:Ending} {w':World},en=.returned (.bool true)/\Below W.heap.size W w'->en=.returned (.bool true)/\SPost CJ RJ W wb js is es cnt N w':=λ⟨e1,e2⟩=>⟨e1,js,LPost.of_below KC KR h e2,by omega,hNm⟩
 have hbo:∀ob,Below W.heap.size W (W.alloc ob):=λob=>(Below.refl W.heap.size W).alloc (Nat.le_refl _) ob
 have hbw:∀ob,Below wb W (W.alloc ob):=λob=>(hbo ob).mono (Nat.le_of_lt h.lt)
 obtain⟨k,a,b,s,e,c,d⟩:=o;simp only at hok hks ⊢;obtain⟨⟨a0,a1⟩,⟨b0,b1⟩⟩:=ho;simp only at a0 a1 b0 b1
 by_cases k0:k<=0
 ·exact(Qk3 W wb k a b c d s e k0).mono λ_ _ hx=>same hx
 ·by_cases k3:k<=3
  ·refine(Qj5 KC KR h ht k a b c d s e omQ hok hks hcnt hlen hlen2).mono ?_;rintro en w' ⟨rfl,hp⟩;exact⟨rfl,js,hp,by omega,hNm⟩
  ·by_cases k9:k<=9
   ·cases js with
    | nil=>exact(QiG h k a b c d s e omQ k9).mono λ_ _ hx=>same hx
    | cons x xs=>
     refine Qj9 h (by simp) N k a b c d s e omQ k9 λob=>?_
     refine(Qj6 I J KC (h.old KC KR (hbo ob)) (ht.old (hbo ob)) (by simp) omQ N hN hN2 k a b c d s e omQ a0 a1 b0 b1 hcnt hlen hlen2).mono ?_;rintro en w' ⟨rfl,js',hp,hl,hn⟩;exact⟨rfl,js',hp.after (hbw ob),by omega,hn⟩
   ·by_cases k10:k=10
    ·subst k10
     refine Qka N a b c d s e λob=>?_
     refine(QfC I J KC (h.old KC KR (hbo ob)) hjs c d s).mono ?_;rintro en w' ⟨rfl,js',hp,hl,hn⟩;refine⟨rfl,js',hp.after (hbw ob),hl,λx hx=>?_⟩
     rcases hn x hx with h1 | h1
     ·exact hNm x h1
     ·omega
    ·exact(Qkb W wb k a b c d s e omQ).mono λ_ _ hx=>same hx
end
end
section
open Go.RowKit
theorem QlD{CJ RJ:CJT}(I:JobIface CJ)(J:RefIface RJ)(KC:KeepsJ CJ)(cw cr:Int)(log:ByteArray)(a:Option Addr)(cap:Nat)(ops:List OpV)(hi:Int)(w:World)(hlen:ops.length<=1600000000000)(hev:IsOps w a ops)(hob:∀o∈ops,OpB o)(ht:Tab w):
  Calls Tryz.prog 4 #[.agg #[.int .i64 cw,.int .i64 cr],.string log,.slice a ops.length cap,.int .i64 hi] w λen w'=>en=.returned (.bool true)/\Below w.heap.size w w':=by
 have KR:=J.keeps
 have Hev:=show Hid (IsOps w a ops/\∀o∈ops,OpB o)from⟨hev,hob⟩
 have Ht:=show Hid (Tab w)from ht
 clear hev hob ht;have hnb:=heap_alloc_new w (.cells #[.int .i64 cw,.int .i64 cr] 23);have hba:=(Below.refl w.heap.size w).alloc (Nat.le_refl _) (.cells #[.int .i64 cw,.int .i64 cr] 23);go_enter Tryz.func4,Tryz.ntmps4
 obtain⟨wa,hwa⟩:∃wa,w.alloc (.cells #[.int .i64 cw,.int .i64 cr] 23)=wa:=⟨_,rfl⟩
 rw[hwa]at hnb hba
 have hL:LSt CJ RJ (wa.alloc (.cells #[.slice none 0 0,.slice none 0 0,.slice none 0 0,.slice none 0 0,.slice none 0 0,.slice none 0 0,.int .i64 0] 35)) wa.heap.size [] [] [] 0:=⟨_,_,_,_,LInv.new CJ RJ wa,LRest.new⟩
 have hbW:=(Below.refl wa.heap.size wa).alloc (Nat.le_refl _) (.cells #[.slice none 0 0,.slice none 0 0,.slice none 0 0,.slice none 0 0,.slice none 0 0,.slice none 0 0,.int .i64 0] 35)
 obtain⟨wz,hwz⟩:∃wz,wa.alloc (.cells #[.slice none 0 0,.slice none 0 0,.slice none 0 0,.slice none 0 0,.slice none 0 0,.slice none 0 0,.int .i64 0] 35)=wz:=⟨_,rfl⟩
 rw[hwz]at hL hbW;have c0:wz.cell? ⟨w.heap.size,0,none⟩=some (.int .i64 cw):=Qae (Qaa hnb 0) hbW;have c1:wz.cell? ⟨w.heap.size,1,none⟩=some (.int .i64 cr):=Qae (Qaa hnb 1) hbW;have hbz:Below w.heap.size w wz:=hba.trans (hbW.mono hba.size)
 have HO:=show Hid (Calls Tryz.prog 5 #[.pointer (some ⟨wa.heap.size,0,none⟩),.agg #[.int .i64 cw,.int .i64 cr],.string log] wz λe w'=>e=.returned (.bool true)/\∃js',LPost CJ RJ wz wa.heap.size [] [] 0 js' w'/\js'.length<=1/\∀x∈js',x.j.number<=0)from by
  refine(QfC I J KC hL (by simp) cw cr log).mono ?_;rintro en w' ⟨rfl,js',h1,h2,h3⟩;refine⟨rfl,js',h1,by simpa using h2,λx hx=>?_⟩
  rcases h3 x hx with h | h
  ·cases h
  ·omega
 have HB:=show Hid (Below w.heap.size w wz/\w.heap.size<=wa.heap.size)from⟨hbz,hba.size⟩
 clear hL hbW hnb hba hbz
 go_wp2_with(go_at_call 5;refine HO.out.mono ?_;rintro en w2 ⟨rfl,js0,hp0,hl0,hn0⟩;have H0:=show Hid (_/\_/\_)from And.intro hp0 (And.intro hl0 hn0);clear hp0 hl0 hn0)
 clear HO c0 c1 hwa hwz;generalize wa.heap.size=wb at H0 HB ⊢
 go_loopw [11] (λi wr=>∃(k:Nat) (js:List JE) (is:List IEnt) (es:List EEnt) (cnt:Nat),k<=ops.length/\i=.int .i64 (k:Int)/\LSt CJ RJ wr wb js is es cnt/\is.length<=4*(k+1)/\es.length<=4*(k+1)/\cnt<=k+1/\js.length<=k+1/\(∀x∈js,x.j.number<=k)/\Below w.heap.size w wr) (λi _=>ops.length-(intOf i).toNat)
 case atStart=>
  obtain⟨⟨is',es',cnt',a1,a2,a3,a4,a5⟩,hl0,hn0⟩:=H0.out;exact⟨0,js0,is',es',cnt',Nat.zero_le _,rfl,a1,by simpa using a2,by simpa using a3,by omega,by omega,hn0,HB.out.1.trans (a5.mono HB.out.2)⟩
 case round=>
  obtain⟨k,js,is,es,cnt,hk,rfl,hI,hil,hel,hcl,hjl,hnl,hb⟩:=hrel;clear H0
  by_cases hkl:k<ops.length
  ·rcases Hev.out.1.2 with h0 | ⟨b,off,rfl,hbl,hcs⟩
   ·rw[h0]at hkl;simp at hkl
   have hc:=λj hj=>(hb.cell (p:=⟨b,off+k*10+j,none⟩) hbl).trans (hcs k hkl j hj)
   obtain⟨hok,hks⟩:=Hev.out.1.1 (ops[k]'hkl) (List.getElem_mem hkl);have hbb:=Hev.out.2 (ops[k]'hkl) (List.getElem_mem hkl);generalize ops[k]'hkl=o at hc hok hks hbb;obtain⟨kd,oa,ob,os,⟨eop,ekey,eseq,eval⟩,oc,od⟩:=o;simp only at hok hks
   have HS:=show Hid (Calls Tryz.prog 6 #[.pointer (some ⟨wb,0,none⟩),.agg #[.int .i64 kd,.int .i64 oa,.int .i64 ob,.string os,.int .u8 (eop:Int),.string ekey,.int .u16 (eseq:Int),.int .i16 eval,.int .i64 oc,.int .i64 od]] wr λen w'=>en=.returned (.bool true)/\SPost CJ RJ wr wb js is es cnt k w')from QlC I J KC hI (Ht.out.old hb) omQ k hnl omQ ⟨kd,oa,ob,os,⟨eop,ekey,eseq,eval⟩,oc,od⟩ hbb hok hks omQ omQ omQ
   have c0:wr.cell? ⟨b,off+k*10,none⟩=some (.int .i64 kd):=hc 0 (by decide);have c1:wr.cell? ⟨b,off+k*10+1,none⟩=some (.int .i64 oa):=hc 1 (by decide);have c2:wr.cell? ⟨b,off+k*10+2,none⟩=some (.int .i64 ob):=hc 2 (by decide);have c3:wr.cell? ⟨b,off+k*10+3,none⟩=some (.string os):=hc 3 (by decide);have c4:wr.cell? ⟨b,off+k*10+4,none⟩=some (.int .u8 (eop:Int)):=hc 4 (by decide);have c5:wr.cell? ⟨b,off+k*10+5,none⟩=some (.string ekey):=hc 5 (by decide);have c6:wr.cell? ⟨b,off+k*10+6,none⟩=some (.int .u16 (eseq:Int)):=hc 6 (by decide);have c7:wr.cell? ⟨b,off+k*10+7,none⟩=some (.int .i16 eval):=hc 7 (by decide);have c8:wr.cell? ⟨b,off+k*10+8,none⟩=some (.int .i64 oc):=hc 8 (by decide);have c9:wr.cell? ⟨b,off+k*10+9,none⟩=some (.int .i64 od):=hc 9 (by decide);clear hc hcs Hev
   have HI:=show Hid (LSt CJ RJ wr wb js is es cnt/\(∀x∈js,x.j.number<=k)/\Below w.heap.size w wr)from⟨hI,hnl,hb⟩
   clear hI hnl hb hok hks hbb;have hki:(k:Int)<(ops.length:Int):=omQ;have hk0:(0:Int)<=(k:Int):=omQ
   by_cases hkd:hi<kd
   ·go_wp2
    go_roundw
    case rel=>exact⟨k+1,js,is,es,cnt,by omega,by go_num,HI.out.1,by omega,by omega,by omega,by omega,λx hx=>by have:=HI.out.2.1 x hx;omega,HI.out.2.2⟩
    case measure=>simp[intOf];omega
   ·go_wp2_with(first
     | (go_at_call 6;refine HS.out.mono ?_;rintro en w2' ⟨rfl,js',⟨is',es',cnt',g1,g2,g3,g4,g5⟩,hl',hn'⟩;clear HS;have HK:=show Hid (_/\_/\_)from And.intro g1 (And.intro hn' (HI.out.2.2.trans (g5.mono HB.out.2)));have HKC:=show Hid (Calls Tryz.prog 7 #[.pointer (some ⟨wb,0,none⟩)] w2' λe w'=>e=.returned (.bool true)/\∃n,w'=w2'.drewN n)from(by obtain⟨f,v,xs,n,q1,q2⟩:=g1;exact Qeg q1 q2 omQ omQ);clear g1 g5 hn' HI)
     | (go_at_call 7;refine HKC.out.mono ?_;rintro en w3 ⟨rfl,q,rfl⟩))
    go_roundw
    case rel=>exact⟨k+1,js',is',es',cnt',by omega,by go_num,HK.out.1.old KC KR (Qby _ _),by omega,by omega,by omega,by omega,HK.out.2.1,below_drewN HK.out.2.2 q⟩
    case measure=>simp[intOf];omega
  ·clear hI hnl;go_wp2;go_ret;exact⟨rfl,hb⟩
end
section
open Go.ChangeShapes Go.WideShapes Go.ChangeAt Go.RowKit Go.Deep
theorem QiH{H:Type}{enc:TypeId × Value->H}{w:World}{base:Nat}{spare:Nat->Bool}{held:Bool}{fuel:Nat}{c0 c1:Value}{x:DataW H × List MemPlace}
  (h:DataW.trod enc Tryz.prog w base spare held fuel 23 [c0,c1]=some x):∃i j:Int,c0=.int .i64 i/\c1=.int .i64 j:=by
 obtain⟨z0,z1,m,_,_,g0,g1⟩:=trod_struct2 Tryz.underlying23 h;simp only[Tryz.cellsInt,List.drop_succ_cons,List.drop_zero,List.take_succ_cons,List.take_zero]at g0 g1;obtain⟨i8,e8,_,_⟩:=DataW.trod_int Tryz.underlying3 g0;obtain⟨i9,e9,_,_⟩:=DataW.trod_int Tryz.underlying3 g1;simp at e8 e9;exact⟨i8,i9,e8,e9⟩
theorem QiI{H:Type}{enc:TypeId × Value->H}{w:World}{base:Nat}{spare:Nat->Bool}{held:Bool}{fuel:Nat}{o:OpV}{x:DataW H × List MemPlace}
  (h:DataW.trod enc Tryz.prog w base spare held fuel 42 o.cells=some x):OpB o:=by
 obtain⟨y0,y1,y2,y3,y4,y5,n,hx,hl,t0,t1,t2,t3,t4,t5⟩:=Qeh Tryz.underlying42 h;unfold OpV.cells at t1 t2;simp only[Tryz.cellsInt,List.drop_succ_cons,List.drop_zero,List.take_succ_cons,List.take_zero]at t1 t2;obtain⟨i1,e1,_,w1⟩:=DataW.trod_int Tryz.underlying3 t1;obtain⟨i2,e2,_,w2⟩:=DataW.trod_int Tryz.underlying3 t2;simp at e1 e2;subst e1 e2;exact⟨bounds_i64 w1,bounds_i64 w2⟩
theorem QhC{H:Type}{enc:TypeId × Value->H}{w:World}{base:Nat}{spare:Nat->Bool}{held:Bool}{fuel:Nat}{a:Option Addr}{len cap:Nat}{x:DataW H × List MemPlace}
  (h:DataW.trod enc Tryz.prog w base spare held fuel 24 [.slice a len cap]=some x) (hz:∀n∈x.1.weights Tryz.prog 24,n<=reachBytes):∃ops:List OpV,ops.length=len/\len<=1600000000000/\IsOps w a ops/\∀o∈ops,OpB o:=by
 have hR:=reachBytes_lt
 rcases Deep.open_slice Tryz.underlying24 h with⟨hcs,_⟩ | ⟨ad,len',cap',m,n,D,Pl,hcs,hb,hl,hm,hmm,hx,hel⟩
 ·simp at hcs;obtain⟨rfl,rfl,rfl⟩:=hcs;exact⟨[],rfl,by decide,⟨by simp,.inl rfl⟩,by simp⟩
 ·simp at hcs;obtain⟨rfl,rfl,rfl⟩:=hcs
  have hle:len<=m:=by rw[hmm];split<;>omega
  have hlen:len<=1600000000000:=by
   have:=hz ((((List.range len).map D).length+((List.range (m-len)).map λj=>D (len+j)).length)*Tryz.prog.bytesOf 42) (by rw[hx];simp[DataW.weights,Tryz.underlying24]);rw[Tryz.bytesOp]at this;simp at this;omega
  have hex:∀i,i<len->∃o:OpV,((o.e.ok/\o.e.key.size<=9223372036854775800)/\OpB o)/\w.cells? base (ad.add (i*10)) 10=some o.cells:=by
   intro i hi;obtain⟨cs',h1,h2⟩:=hel i omQ;rw[Tryz.cellsOp]at h1;obtain⟨o,ho,rfl,hw⟩:=Qj8 h2;refine⟨o,⟨⟨ho,?_⟩,QiI h2⟩,h1⟩
   have:=hz o.e.key.size (by
    rw[hx];simp only[DataW.weights,Tryz.underlying24,List.mem_cons,List.mem_append]
    right;left
    exact Qdx (List.mem_map.2 ⟨i,List.mem_range.2 hi,rfl⟩) hw)
   omega
  obtain⟨f,hf⟩:=@Deep.choose_lt OpV ⟨⟨0,0,0,⟨#[]⟩,evZero,0,0⟩⟩ len _ hex;refine⟨(List.range len).map f,by simp,hlen,⟨λo ho=>?_,?_⟩,λo ho=>?_⟩
  ·simp at ho;obtain⟨i,hi,rfl⟩:=ho;exact(hf i hi).1.1
  ·by_cases h0:len=0
   ·left;subst h0;rfl
   ·right
    obtain⟨b,off,spot⟩:=ad;have hc0:=(World.cells?_some (hf 0 omQ).2).2.2 0 (by decide)
    have hspot:spot=none:=by
     have:=World.cell?_spot (v:=.int .i64 (f 0).kind) (by rw[hc0];rfl);simpa[Addr.add]using this
    subst hspot
    have hblk:b<w.heap.size:=by
     have:=World.cells?_block (hf 0 omQ).2 (by decide);simpa[Addr.add]using this
    refine⟨b,off,rfl,hblk,λk hk j hj=>?_⟩
    have hk':k<len:=by simpa using hk
    have hc:=(World.cells?_some (hf k hk').2).2.2 j hj
    have ek:((List.range len).map f)[k]'hk=f k:=by simp
    rw[ek];simp only[add_plain]at hc;exact hc
  ·simp at ho;obtain⟨i,hi,rfl⟩:=ho;exact(hf i hi).1.2
theorem keepsC{CJ:CJT}(I:JobIface CJ):KeepsJ CJ:=⟨I.lt,I.frm⟩
end
end Go.Proofs.YthccpacmklhejabGreatDoor
