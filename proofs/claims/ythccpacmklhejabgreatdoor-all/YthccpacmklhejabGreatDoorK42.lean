import Derived.Test.YthccpacmklhejabGreatDoorTk
import Derived.Test.YthccpacmklhejabGreatDoorK30
import Derived.Test.YthccpacmklhejabGreatDoorK38
import Derived.Test.YthccpacmklhejabGreatDoorK41
import Derived.Test.YthccpacmklhejabGreatDoorK31
import Derived.Test.YthccpacmklhejabGreatDoorK32
import Derived.Test.YthccpacmklhejabGreatDoorK25
set_option maxHeartbeats 2000000
set_option maxRecDepth 100000
namespace Go.Proofs.YthccpacmklhejabGreatDoor
section
open Go.RowKit
def RJ:CJT:=λX w jb j=>RPl j/\∃f sb ab,RJob f w 0 0 jb sb ab j/\∀g,X g↔(f g≠none/\g<w.heap.size)
section
variable {f f':Owners} {w w':World} {B k jb:Nat} {sb ab:List Nat} {j:JobM}
theorem IsOf.mono{c:Nat}{v:Value}(h:IsOf f c v)(hm:∀g c,c<k+100000->f g=some c->f' g=some c)(hc:c<k+100000):IsOf f' c v:=λg hg=>hm g c hc (h g hg)
theorem RJob.mono(h:RJob f w B k jb sb ab j)(hwid:j.width<=9)(hm:∀g c,c<k+100000->f g=some c->f' g=some c):RJob f' w B k jb sb ab j:=by
 obtain⟨ve,vs,va,vr,hbx,he1,oe,hs1,os,ha1,oa,hr1,or'⟩:=h.box;have hlS:=h.lenS;have hlA:=h.lenA;refine⟨hm _ _ omQ h.own,h.lenS,h.lenA,⟨ve,vs,va,vr,hbx,he1,oe.mono hm omQ,hs1,os.mono hm omQ,ha1,oa.mono hm omQ,hr1,or'.mono hm omQ⟩,λi hi hi'=>?_,λi hi hi'=>?_,h.pipes⟩
 ·obtain⟨ho,vg,vp,hb,hg,og,hp,op⟩:=h.sorters i hi hi';exact⟨hm _ _ omQ ho,vg,vp,hb,hg,og.mono hm omQ,hp,op.mono hm omQ⟩
 ·obtain⟨ho,vg,vp,vs,vt,hb,hg,og,hp,op,hq,ht,ot⟩:=h.adders i hi hi';have hpl:=(h.pipes i hi').1;refine⟨hm _ _ omQ ho,vg,vp,vs,vt,hb,hg,og.mono hm omQ,hp,op.mono hm omQ,λm hmm=>?_,ht,ot.mono hm omQ⟩;obtain⟨v,hv,hqv,ov⟩:=hq m hmm;exact⟨v,hv,hqv,ov.mono hm omQ⟩
theorem RJob.kept{S:Nat->Prop}(h:RJob f w B k jb sb ab j)(hwid:j.width<=9)(hf:FrmO f S w w')(hS:∀c,c<k+100000->¬S c):RJob f w' B k jb sb ab j:=by
 obtain⟨ve,vs,va,vr,hbx,he1,oe,hs1,os,ha1,oa,hr1,or'⟩:=h.box;have hlS:=h.lenS;have hlA:=h.lenA;have hs:=Same.refl w.heap.size f;refine⟨h.own,h.lenS,h.lenA,⟨ve,vs,va,vr,Qaq hbx hf h.own (hS _ omQ),Qaj he1 hf oe (hS _ omQ),oe,Qaj hs1 hf os (hS _ omQ),os,Qaj ha1 hf oa (hS _ omQ),oa,Qaj hr1 hf or' (hS _ omQ),or'⟩,λi hi hi'=>?_,λi hi hi'=>?_,h.pipes⟩
 ·exact(h.sorters i hi hi').frm hf hs (hS _ omQ) (hS _ omQ) (hS _ omQ)
 ·have hpl:=(h.pipes i hi').1
  exact(h.adders i hi hi').frm hf hs (hS _ omQ) (hS _ omQ) (hS _ omQ) (hS _ omQ) λm hm=>hS _ omQ
theorem Qe1{X:Nat->Prop}{j':JobM}(hp:RPl j')(hX:∀g,X g↔(f g≠none/\g<w.heap.size))(ha:RAfterF f w 0 0 jb j' w'):After RJ X w jb j' w':=by
 obtain⟨f',sb',ab',hR,hF,hS⟩:=ha;refine⟨λg=>f' g≠none/\g<w'.heap.size,⟨hp,f',sb',ab',hR,λg=>Iff.rfl⟩,⟨hF.os,hF.tape,hF.output,hF.size,λg hg hn=>hF.keep g hg λc hc _=>hn ((hX g).2 ⟨by rw[hc];simp,hg⟩)⟩,λg hg=>?_⟩
 by_cases hl:g<w.heap.size
 ·left
  rw[hX];exact⟨by rw[<-hS g hl];exact hg.1,hl⟩
 ·right
  omega
theorem RAfter.toF{j':JobM}(h:RAfter f w B k jb sb ab j' w'):RAfterF f w B k jb j' w':=by
 obtain⟨f',h1,h2,h3⟩:=h;exact⟨f',sb,ab,h1,h2,h3⟩
end
theorem keepsR:KeepsJ RJ where
 lt:=λ⟨_,f,sb,ab,_,hX⟩ g hg=>((hX g).1 hg).2
 frm:=λ {X w jb j} ⟨hp,f,sb,ab,hR,hX⟩ Z w' hF hZ=>by
  have hw:j.width<=9:=by have:=hp.width;omega
  have hsz:=hF.size
  obtain⟨f1,hf1⟩:∃f1:Owners,f1=λg=>if g<w.heap.size then f g else none:=⟨_,rfl⟩
  obtain⟨f2,hf2⟩:∃f2:Owners,f2=λg=>some ((f1 g).getD 1000000):=⟨_,rfl⟩
  have h1:RJob f1 w 0 0 jb sb ab j:=hR.putBox (FrmO.refl _ _ _) (λg hg=>by rw[hf1];simp only[if_pos hg]) rfl rfl rfl rfl rfl λ_ _ _ _ hbx=>hbx
  have hX1:∀g c,f1 g=some c->X g/\f g=some c:=λg c hc=>by
   rw[hf1]at hc
   by_cases hg:g<w.heap.size
   ·simp only[if_pos hg]at hc;exact⟨(hX g).2 ⟨by rw[hc];simp,hg⟩,hc⟩
   ·simp only[if_neg hg]at hc;cases hc
  have h2:RJob f2 w 0 0 jb sb ab j:=h1.mono hw λg c _ hc=>by
   rw[hf2];simp only[hc,Option.getD_some]
  have hO:FrmO f2 (λc=>c=1000000) w w':=⟨hF.os,hF.tape,hF.output,hF.size,λg hg hn=>hF.keep g hg λhz=>by
   have hx:¬X g:=λhx=>hZ g hx hz
   have h0:f1 g=none:=by
    cases hc:f1 g with
    | none=>rfl
    | some c=>exact absurd (hX1 g c hc).1 hx
   exact hn 1000000 (by rw[hf2];simp only[h0,Option.getD_none]) rfl⟩
  have h3:=h2.kept hw hO λc hc e=>by omega
  have h4:RJob f1 w' 0 0 jb sb ab j:=h3.mono hw λg c hc hg=>by
   rw[hf2]at hg
   cases h0:f1 g with
   | none=>
    simp only[h0,Option.getD_none,Option.some.injEq]at hg
    omega
   | some c'=>
    simp only[h0,Option.getD_some]at hg;exact hg
  refine⟨hp,f1,sb,ab,h4,λg=>?_⟩;rw[hX,hf1]
  by_cases hg:g<w.heap.size
  ·simp only[if_pos hg];constructor
   ·exact λh=>⟨h.1,by omega⟩
   ·exact λh=>⟨h.1,hg⟩
  ·simp only[if_neg hg];constructor
   ·exact λh=>absurd h.2 hg
   ·exact λh=>absurd rfl h.1
structure RefIface (RJ:CJT):Prop where
 keeps:KeepsJ RJ
 step:∀ {X w jb j},RJ X w jb j->∀t:Int,
  Calls Tryz.prog 22 #[.pointer (some ⟨jb,0,none⟩),.int .i64 t] w λen w'=>en=.returned (.int .i64 ((j.step t).1:Int))/\After RJ X w jb (j.step t).2 w'
 trigger:∀ {X w jb j},RJ X w jb j->j.number<4611686018427387904->
  Calls Tryz.prog 24 #[.pointer (some ⟨jb,0,none⟩)] w λen w'=>en=.returned (.tuple #[.int .i64 (j.trigger.1:Int),.int .i64 (j.trigger.2.1:Int)])/\After RJ X w jb j.trigger.2.2 w'
 fail:∀ {X w jb j},RJ X w jb j->
  Calls Tryz.prog 31 #[.pointer (some ⟨jb,0,none⟩)] w λen w'=>en=.returned (.tuple #[])/\After RJ X w jb j.fail w'
 queue:∀ {X w jb j},RJ X w jb j->∀t:Int,
  Calls Tryz.prog 51 #[.pointer (some ⟨jb,0,none⟩),.int .i64 t] w λen w'=>∃v,en=.returned (.tuple #[v,.int .i64 ((j.queue t).2:Int)])/\w'.ownsRow w.heap.size 3 1 v (j.queue t).1.length ((j.queue t).1.map (Value.int .i64))/\Below w.heap.size w w'
 offset:∀ {X w jb j},RJ X w jb j->
  Calls Tryz.prog 27 #[.pointer (some ⟨jb,0,none⟩)] w λen w'=>en=.returned (.int .i64 (j.base:Int))/\Below w.heap.size w w'
 view:∀ {X w jb j},RJ X w jb j->
  Calls Tryz.prog 29 #[.pointer (some ⟨jb,0,none⟩)] w λen w'=>en=.returned (.string ⟨(foldB (j.events.take j.base)).toArray⟩)/\Below w.heap.size w w'
 new:∀(w:World) (W R:Nat) (log:ByteArray) (es:List Ev) (m:Nat),log.size<=400->Parsed log es m->1<=W->W<=4->1<=R->R<=4->
  Calls Tryz.prog 9 #[.agg #[.int .i64 (W:Int),.int .i64 (R:Int)],.string log] w λen w'=>∃jb X,en=.returned (.tuple #[.pointer (some ⟨jb,0,none⟩),.int .i64 0])/\RJ X w' jb (newJ W R es)/\(∀g,X g->w.heap.size<=g)/\Below w.heap.size w w'
theorem Qlv:RefIface RJ where
 keeps:=keepsR
 step:=λ {X w jb j} ⟨hp,f,sb,ab,hR,hX⟩ t=>by
  refine(Qlu hR (Nat.zero_le _) hp (λe=>QeH hR (Nat.zero_le _) hp e) t).mono ?_;rintro en w' ⟨rfl,ha⟩;exact⟨rfl,Qe1 (Qmu hp t) hX ha.toF⟩
 trigger:=λ {X w jb j} ⟨hp,f,sb,ab,hR,hX⟩ hn=>by
  refine(Qhq hR hp.width.2 hn).mono ?_;rintro en w' ⟨rfl,h1,h2⟩;exact⟨rfl,Qe1 (QiA hp) hX ⟨f,sb,ab,h1,h2,Same.refl _ _⟩⟩
 fail:=λ {X w jb j} ⟨hp,f,sb,ab,hR,hX⟩=>by
  refine(Qls hR (Nat.zero_le _) hp).mono ?_;rintro en w' ⟨rfl,ha⟩;exact⟨rfl,Qe1 (Qmv hp) hX ha⟩
 queue:=λ {X w jb j} ⟨hp,f,sb,ab,hR,hX⟩ t=>QjO hR hp.flow hp.width (by have:=hp.events;omega) t
 offset:=λ {X w jb j} ⟨hp,f,sb,ab,hR,hX⟩=>by
  refine(Qip hR).mono ?_;rintro en w' ⟨rfl,rfl⟩;exact⟨rfl,Below.refl _ _⟩
 view:=λ {X w jb j} ⟨hp,f,sb,ab,hR,hX⟩=>by
  obtain⟨a1,a2⟩:=hp.rows.are
  have hev:∀e∈j.events.take j.base,e.ok/\validB e.key=true/\0<e.key.size/\e.key.size<=1000:=λe he=>hp.ev e (List.mem_of_mem_take he)
  have hle:(j.events.take j.base).length<=100:=by
   have h1:=List.length_take_le' j.base j.events;have h2:=hp.events;omega
  have hl:=Qfx a1;refine(Qlb hR (j.rows.map RowM.toV) (by simp) a2 omQ (Qni (λe he=>(hev e he).1) (λe he=>(hev e he).2.2) omQ a1)).mono ?_;rintro en w' ⟨rfl,hb⟩;rw[QjS (λe he=>(hev e he).2.1) a1];exact⟨rfl,hb⟩
 new:=λw W R log es m h1 h2 h3 h4 h5 h6=>by
  refine(Qm9 w W R log es m h1 h2 ⟨h3,h4⟩ ⟨h5,h6⟩).mono ?_;rintro en w' ⟨jb,rfl,f,sb,ab,hR,hlo,hb⟩;have hg:=QcC h2.good;have hf:=h2.few;refine⟨jb,λg=>f g≠none/\g<w'.heap.size,rfl,⟨Qm7 ⟨h3,h4⟩ ⟨h5,h6⟩ omQ λe he=>⟨hg.1 e he,hg.2.1 e he,hg.2.2 e he⟩,f,sb,ab,hR,λg=>Iff.rfl⟩,λg hx=>?_,hb⟩
  cases hc:f g with
  | none=>exact absurd hc hx.1
  | some c=>exact hlo g c hc
end
section
open Go.RowKit
def LSt(CJ RJ:CJT)(W:World)(wb:Nat)(js:List JE)(is:List IEnt)(es:List EEnt)(cnt:Nat):Prop:=∃f v xs n,LInv CJ RJ f W wb v xs n js is es cnt/\LRest xs n js is es
def LPost(CJ RJ:CJT)(W:World)(wb:Nat)(is:List IEnt)(es:List EEnt)(cnt:Nat)(js':List JE)(w':World):Prop:=
 ∃is' es' cnt',LSt CJ RJ w' wb js' is' es' cnt'/\is'.length<=is.length+4/\es'.length<=es.length+4/\cnt'<=cnt+1/\Below wb W w'
section
variable {CJ RJ:CJT} {W:World} {wb:Nat} {js:List JE} {is:List IEnt} {es:List EEnt} {cnt:Nat}
theorem LSt.lt(h:LSt CJ RJ W wb js is es cnt):wb<W.heap.size:=by
 obtain⟨f,v,xs,n,h1,_⟩:=h;exact h1.wlt
theorem LSt.old(KC:KeepsJ CJ)(KR:KeepsJ RJ)(h:LSt CJ RJ W wb js is es cnt){w':World}(hb:Below W.heap.size W w'):LSt CJ RJ w' wb js is es cnt:=by
 obtain⟨f,v,xs,n,h1,h2⟩:=h;exact⟨f,v,xs,n,h1.old KC KR hb,h2⟩
theorem LPost.of_below(KC:KeepsJ CJ)(KR:KeepsJ RJ)(h:LSt CJ RJ W wb js is es cnt){w':World}(hb:Below W.heap.size W w'):LPost CJ RJ W wb is es cnt js w':=
 ⟨is,es,cnt,h.old KC KR hb,by omega,by omega,by omega,hb.mono (Nat.le_of_lt h.lt)⟩
theorem LPost.after{w1 w':World}{js':List JE}(hb:Below wb W w1)(h:LPost CJ RJ w1 wb is es cnt js' w'):LPost CJ RJ W wb is es cnt js' w':=by
 obtain⟨is',es',cnt',h1,h2,h3,h4,h5⟩:=h;exact⟨is',es',cnt',h1,h2,h3,h4,hb.trans h5⟩
theorem LSt.give(KC:KeepsJ CJ)(KR:KeepsJ RJ)(h:LSt CJ RJ W wb js is es cnt){w':World}(hb:Below W.heap.size W w'){e:TypeId}{s m:Nat}{l:Value}{ys:List Value}(hl:w'.ownsRow W.heap.size e s l m ys):∃f v xs n,LInv CJ RJ f w' wb v xs n js is es cnt/\LRest xs n js is es/\OwnR f w' e s (4*cnt+3) l m ys:=by
 obtain⟨f,v,xs,n,h1,h2⟩:=h;have hs:=Owners.new_same f W.heap.size (λ_=>some (4*cnt+3));refine⟨_,v,xs,n,h1.keep KC KR (S:=λ_=>False) (.of_below hb) hs λ_ h=>h,h2,Qa3 hl (Nat.zero_le _),λg hg=>?_⟩;rw[Owners.new_at _ _ (Qah hl g hg).1]
theorem QhB(KC:KeepsJ CJ)(KR:KeepsJ RJ)(h:LSt CJ RJ W wb js is es cnt)(s:ByteArray)(hcnt:cnt<=2000000000000)(hlen:es.length<=6400000000000)(hlen2:is.length<=6400000000000):
  Calls Tryz.prog 17 #[.pointer (some ⟨wb,0,none⟩),.string s] W λe w'=>e=.returned (.bool true)/\LPost CJ RJ W wb is es cnt js w':=by
 have hD:=show Hid _ from λw=>Qh5 s w
 have hR:=show Hid _ from λw=>Qh6 s w
 have hN:=hdQ Qcc
 have HI:=show Hid (LSt CJ RJ W wb js is es cnt)from h
 clear h;go_enter Tryz.func17,Tryz.ntmps17
 go_wp2_with(first
  | (go_at_call 39;refine(hD.out _).mono ?_;rintro e w1 ⟨a,c,zs,n,r,rfl,hP,hO⟩;clear hD)
  | (go_at_call 14;refine(hR.out _).mono ?_;rintro e w2 ⟨a',c',zs',n',r',rfl,hP',hO'⟩;obtain⟨rfl,rfl,rfl⟩:=hP.out.unique hP'.out;clear hP' hR;have HL:=show Hid (_/\_/\_)from And.intro (QaV hO.out.1 (Qh7 hO'.out.2) (λ_ _ e=>by cases e)) (And.intro (Qa3 hO'.out.1 hO.out.2.size) (hO.out.2.trans (hO'.out.2.mono hO.out.2.size)));clear hO hO';obtain⟨hb1,hb2,hb3⟩:=hP.out.few;clear hP)
  | (go_at_call 10;refine(hN.out _ _).mono ?_;rintro e w3 ⟨rfl,rfl⟩))
 clear hN
 go_loopw [11] (λi wr=>∃k nq:Nat,k<=zs.length/\i=.int .i64 (k:Int)/\wr=w3.drewN nq) (λi _=>zs.length-(intOf i).toNat)
 case atStart=>exact⟨0,0,Nat.zero_le _,rfl,rfl⟩
 case round=>
  obtain⟨k,nq,hk,rfl,rfl⟩:=hrel
  by_cases hkl:k<zs.length
  ·rcases Qai HL.out.1 with⟨_,h0⟩ | ⟨g,rfl⟩
   ·omega
   rcases Qai HL.out.2.1 with⟨_,h0⟩ | ⟨g',rfl⟩
   ·omega
   obtain⟨p0,p1,p2,p3⟩:=QcV HL.out.1 hkl;obtain⟨q0,q1,q2,q3⟩:=QcV HL.out.2.1 hkl;generalize zs[k]'hkl=x at p0 p1 p2 p3 q0 q1 q2 q3;obtain⟨mop,mkey,mseq,mval⟩:=x;simp only at p0 p1 p2 p3 q0 q1 q2 q3;clear HL HI;have hki:(k:Int)<(zs.length:Int):=omQ;have hk0:(0:Int)<=(k:Int):=omQ;go_wp2
   go_quiet (fail)
   go_wp2
   go_roundw
   case rel=>exact⟨k+1,_,by omega,by go_num,rfl⟩
   case measure=>simp[intOf];omega
  ·have hK:Hid (Calls Tryz.prog 7 #[.pointer (some ⟨wb,0,none⟩)] (w3.drewN nq) λe w'=>e=.returned (.bool true)/\∃n,w'=(w3.drewN nq).drewN n):=by
    obtain⟨f,v,xs,n',h1,h2⟩:=(HI.out.old KC KR HL.out.2.2).old KC KR (Qby w3 nq);exact Qeg h1 h2 omQ omQ
   have hKE:Hid (∀q,Calls Tryz.prog 40 #[.pointer (some ⟨wb,0,none⟩),.slice a zs.length c] (w3.drewN q) λe w'=>e=.returned (.tuple #[])/\LPost CJ RJ W wb is es cnt js w'):=by
    intro q;have hbq:Below W.heap.size W (w3.drewN q):=HL.out.2.2.trans ((Qby w3 q).mono HL.out.2.2.size);obtain⟨f,v,xs,n',h1,h2,h3⟩:=HI.out.give KC KR hbq (Qf6 HL.out.1 q);refine(Qfw KC KR h1 h2 a zs.length c zs rfl h3 omQ omQ hlen).mono ?_;rintro e w' ⟨rfl,f',v',xs',n'',es',g1,g2,g3,g4⟩;exact⟨rfl,is,es',cnt+1,⟨f',v',xs',n'',g1,g2⟩,by omega,by omega,by omega,(hbq.mono (Nat.le_of_lt HI.out.lt)).trans g4⟩
   clear HL HI
   go_wp2_with(first
    | (go_at_call 7;refine hK.out.mono ?_;rintro e w4 ⟨rfl,q,rfl⟩)
    | (go_at_call 40;refine(hKE.out _).mono ?_;rintro e w5 ⟨rfl,hpost⟩))
   go_ret;exact⟨rfl,hpost⟩
theorem Qj4(KC:KeepsJ CJ)(KR:KeepsJ RJ)(h:LSt CJ RJ W wb js is es cnt)(a b c d:Int)(s:ByteArray)(e:Ev)(hcnt:cnt<=2000000000000)(hlen:es.length<=6400000000000)(hlen2:is.length<=6400000000000):
  Calls Tryz.prog 11 #[.pointer (some ⟨wb,0,none⟩),.agg #[.int .i64 2,.int .i64 a,.int .i64 b,.string s,.int .u8 (e.op:Int),.string e.key,.int .u16 (e.seq:Int),.int .i16 e.val,.int .i64 c,.int .i64 d]] W λen w'=>en=.returned (.bool true)/\LPost CJ RJ W wb is es cnt js w':=by
 have hD:Hid (∀o,Calls Tryz.prog 17 #[.pointer (some ⟨wb,0,none⟩),.string s] (W.alloc o) λen w'=>en=.returned (.bool true)/\LPost CJ RJ W wb is es cnt js w'):=by
  intro o;have hbo:=(Below.refl W.heap.size W).alloc (Nat.le_refl _) o;refine(QhB KC KR (h.old KC KR hbo) s hcnt hlen hlen2).mono ?_;rintro en w' ⟨rfl,h1⟩;exact⟨rfl,h1.after (hbo.mono (Nat.le_of_lt h.lt))⟩
 clear h;obtain⟨op,key,seq,val⟩:=e;go_enter Tryz.func11,Tryz.ntmps11
 go_wp2_with(go_at_call 17;refine(hD.out _).mono ?_;rintro en w1 ⟨rfl,hl⟩)
 go_ret;exact⟨rfl,hl⟩
theorem Qj5(KC:KeepsJ CJ)(KR:KeepsJ RJ)(h:LSt CJ RJ W wb js is es cnt)(ht:Tab W)(k a b c d:Int)(s:ByteArray)(e:Ev)(hk:k=1\/k=2\/k=3)(hok:e.ok)(hks:e.key.size<=9223372036854775800)(hcnt:cnt<=2000000000000)(hlen:es.length<=6400000000000)(hlen2:is.length<=6400000000000):
  Calls Tryz.prog 6 #[.pointer (some ⟨wb,0,none⟩),.agg #[.int .i64 k,.int .i64 a,.int .i64 b,.string s,.int .u8 (e.op:Int),.string e.key,.int .u16 (e.seq:Int),.int .i16 e.val,.int .i64 c,.int .i64 d]] W λen w'=>en=.returned (.bool true)/\LPost CJ RJ W wb is es cnt js w':=by
 have hT:Hid (∀o,Calls Tryz.prog 11 #[.pointer (some ⟨wb,0,none⟩),.agg #[.int .i64 k,.int .i64 a,.int .i64 b,.string s,.int .u8 (e.op:Int),.string e.key,.int .u16 (e.seq:Int),.int .i16 e.val,.int .i64 c,.int .i64 d]] (W.alloc o) λen w'=>en=.returned (.bool true)/\LPost CJ RJ W wb is es cnt js w'):=by
  intro o;have hbo:=(Below.refl W.heap.size W).alloc (Nat.le_refl _) o;have hbw:=hbo.mono (Nat.le_of_lt h.lt)
  rcases hk with rfl | rfl | rfl
  ·refine(Qk2 (W.alloc o) wb a b c d s e hok hks).mono ?_;rintro en w' ⟨rfl,h1⟩;exact⟨rfl,(LPost.of_below KC KR (h.old KC KR hbo) h1).after hbw⟩
  ·refine(Qj4 KC KR (h.old KC KR hbo) a b c d s e hcnt hlen hlen2).mono ?_;rintro en w' ⟨rfl,h1⟩;exact⟨rfl,h1.after hbw⟩
  ·refine(Qit (W.alloc o) wb a b c d s e (ht.old hbo)).mono ?_;rintro en w' ⟨rfl,h1⟩;exact⟨rfl,(LPost.of_below KC KR (h.old KC KR hbo) h1).after hbw⟩
 clear h hok hks ht;obtain⟨op,key,seq,val⟩:=e;simp only at hT ⊢;have hk1:1<=k:=omQ;have hk3:k<=3:=omQ;go_enter Tryz.func6,Tryz.ntmps6
 go_wp2_with(go_at_call 11;refine(hT.out _).mono ?_;rintro en w1 ⟨rfl,hl⟩)
 go_ret;exact⟨rfl,hl⟩
theorem Qlw{j:JobM}(hf:FlowOk j)(hW:j.width<=4)(t:Int):(j.queue t).1.length<=4:=by
 unfold JobM.queue;split
 ·simp
 ·split
  ·simp
  ·split
   ·simp
   ·split
    ·simp only[List.length_map]
     by_cases h:(t-(j.width:Int)-1).toNat<j.adders.length
     ·rw[List.getD_eq_getElem?_getD,List.getElem?_eq_getElem h,Option.getD_some,(hf.adders _ _ (List.getElem?_eq_getElem h)).lenP];exact hW
     ·rw[List.getD_eq_getElem?_getD,List.getElem?_eq_none omQ];simp[newA]
    ·split<;>simp
theorem QiF(I:JobIface CJ)(J:RefIface RJ)(KC:KeepsJ CJ)(h:LSt CJ RJ W wb js is es cnt)(i:Nat)(hi:i<js.length)(t:Int)(t0:-9223372036854775808<=t)(t1:t<=9223372036854775807)(hcnt:cnt<=2000000000000)(hlen:es.length<=6400000000000)(hlen2:is.length<=6400000000000):
  Calls Tryz.prog 25 #[.pointer (some ⟨wb,0,none⟩),.pointer (some ⟨(js[i]).p,0,none⟩),.pointer (some ⟨(js[i]).r,0,none⟩),.int .i64 t] W λe w'=>e=.returned (.bool true)/\LPost CJ RJ W wb is es cnt js w':=by
 have KR:=J.keeps
 have HQ:=show Hid (Calls Tryz.prog 50 #[.pointer (some ⟨(js[i]).p,0,none⟩),.int .i64 t] W λen w'=>∃v,en=.returned (.tuple #[v,.int .i64 (((js[i]).j.queue t).2:Int)])/\w'.ownsRow W.heap.size 3 1 v ((js[i]).j.queue t).1.length (((js[i]).j.queue t).1.map (Value.int .i64))/\Below W.heap.size W w')from by
  obtain⟨f,v,xs,n,h1,_⟩:=h;obtain⟨X,hX,_⟩:=(h1.jobs i hi).1;exact I.queue hX t t0 t1
 have HR:=show Hid (∀w1,Below W.heap.size W w1->Calls Tryz.prog 51 #[.pointer (some ⟨(js[i]).r,0,none⟩),.int .i64 t] w1 λen w'=>∃v,en=.returned (.tuple #[v,.int .i64 (((js[i]).j.queue t).2:Int)])/\w'.ownsRow w1.heap.size 3 1 v ((js[i]).j.queue t).1.length (((js[i]).j.queue t).1.map (Value.int .i64))/\Below w1.heap.size w1 w')from λw1 hb=>by
  obtain⟨f,v,xs,n,h1,_⟩:=h.old KC KR hb;obtain⟨X,hX,_⟩:=(h1.jobs i hi).2;exact J.queue hX t
 have hql:((js[i]).j.queue t).1.length<=4:=by
  obtain⟨f,v,xs,n,h1,_⟩:=h;obtain⟨X,hX,_⟩:=(h1.jobs i hi).1;have hg:=I.good hX;exact Qlw hg.1.1 hg.2.1.2 t
 have hN:=hdQ Qcc
 have HI:=show Hid (LSt CJ RJ W wb js is es cnt)from h
 clear h;generalize((js[i]).j.queue t).1=ql at HQ HR hql;generalize((js[i]).j.queue t).2=qe at HQ HR;generalize(js[i]).p=pb at HQ ⊢;generalize(js[i]).r=rb at HR ⊢;go_enter Tryz.func25,Tryz.ntmps25
 go_wp2_with(first
  | (go_at_call 50;refine HQ.out.mono ?_;rintro e w1 ⟨v1,rfl,hO1,hb1⟩;obtain⟨a,c,rfl⟩:=Qaf hO1)
  | (go_at_call 51;refine(HR.out w1 hb1).mono ?_;rintro e w2 ⟨v2,rfl,hO2,hb2⟩;obtain⟨a',c',rfl⟩:=Qaf hO2;have HL:=show Hid (_/\_/\_)from And.intro (Qao hO1 hb2) (And.intro (Qa3 hO2 hb1.size) (hb1.trans (hb2.mono hb1.size)));clear hO1 hO2 hb1 hb2 HQ HR)
  | (go_at_call 10;refine(hN.out _ _).mono ?_;rintro e w3 ⟨rfl,rfl⟩))
 clear hN
 go_loopw [13] (λi wr=>∃k nq:Nat,k<=ql.length/\i=.int .i64 (k:Int)/\wr=w3.drewN nq) (λi _=>ql.length-(intOf i).toNat)
 case atStart=>exact⟨0,0,Nat.zero_le _,rfl,rfl⟩
 case round=>
  obtain⟨k,nq,hk,rfl,rfl⟩:=hrel
  by_cases hkl:k<ql.length
  ·rcases Qai HL.out.1 with⟨_,h0⟩ | ⟨g,rfl⟩
   ·omega
   rcases Qai HL.out.2.1 with⟨_,h0⟩ | ⟨g',rfl⟩
   ·omega
   have p0:w3.cell? ⟨g,k,none⟩=some (.int .i64 (ql[k]'hkl)):=by
    rw[World.ownsRow.cellAt HL.out.1 k omQ];simp[hkl]
   have q0:w3.cell? ⟨g',k,none⟩=some (.int .i64 (ql[k]'hkl)):=by
    rw[World.ownsRow.cellAt HL.out.2.1 k omQ];simp[hkl]
   generalize ql[k]'hkl=x at p0 q0;clear HL HI;have hki:(k:Int)<(ql.length:Int):=omQ;have hk0:(0:Int)<=(k:Int):=omQ
   have hxx:(x !=x)=false:=by simp
   go_wp2
   go_quiet (fail)
   go_wp2
   go_roundw
   case rel=>exact⟨k+1,_,by omega,by go_num,rfl⟩
   case measure=>simp[intOf];omega
  ·have hK:Hid (Calls Tryz.prog 7 #[.pointer (some ⟨wb,0,none⟩)] (w3.drewN nq) λe w'=>e=.returned (.bool true)/\∃n,w'=(w3.drewN nq).drewN n):=by
    obtain⟨f,v,xs,n',h1,h2⟩:=(HI.out.old KC KR HL.out.2.2).old KC KR (Qby w3 nq);exact Qeg h1 h2 omQ omQ
   have hKI:Hid (∀q,Calls Tryz.prog 52 #[.pointer (some ⟨wb,0,none⟩),.slice a ql.length c] (w3.drewN q) λe w'=>e=.returned (.tuple #[])/\LPost CJ RJ W wb is es cnt js w'):=by
    intro q;have hbq:Below W.heap.size W (w3.drewN q):=HL.out.2.2.trans ((Qby w3 q).mono HL.out.2.2.size);obtain⟨f,v,xs,n',h1,h2,h3⟩:=HI.out.give KC KR hbq (Qf6 HL.out.1 q);refine(Qhu KC KR h1 h2 a ql.length c _ h3 omQ omQ hlen2).mono ?_;rintro e w' ⟨rfl,f',v',xs',n'',is',g1,g2,g3,g4⟩;exact⟨rfl,is',es,cnt+1,⟨f',v',xs',n'',g1,g2⟩,by omega,by omega,by omega,(hbq.mono (Nat.le_of_lt HI.out.lt)).trans g4⟩
   clear HL HI
   go_wp2_with(first
    | (go_at_call 7;refine hK.out.mono ?_;rintro e w4 ⟨rfl,q,rfl⟩)
    | (go_at_call 52;refine(hKI.out _).mono ?_;rintro e w5 ⟨rfl,hpost⟩))
   go_ret;exact⟨rfl,hpost⟩
end
end
section
open Go.RowKit
theorem Qlx(w:World)(cw cr:Int)(log:ByteArray)(h:400<log.size):
  Calls Tryz.prog 13 #[.agg #[.int .i64 cw,.int .i64 cr],.string log] w λen w'=>en=.returned (.tuple #[.agg #[.slice none 0 0,.int .i64 0,.slice none 0 0,.slice none 0 0,.int .i64 0,.int .i64 0,.int .i64 0,.slice none 0 0,.int .i64 0,.slice none 0 0,.int .i64 0],.int .i64 1])/\Below w.heap.size w w':=by
 have hD:=show Hid _ from λ(w:World)=>Qc4 log w h
 have hnb:=heap_alloc_new w (.cells #[.int .i64 cw,.int .i64 cr] 23);have hba:=(Below.refl w.heap.size w).alloc (Nat.le_refl _) (.cells #[.int .i64 cw,.int .i64 cr] 23);go_enter Tryz.func13,Tryz.ntmps13
 obtain⟨wa,hwa⟩:∃wa,w.alloc (.cells #[.int .i64 cw,.int .i64 cr] 23)=wa:=⟨_,rfl⟩
 rw[hwa]at hnb hba;have hnb2:=heap_alloc_new wa (.cells #[.slice none 0 0,.int .i64 0,.slice none 0 0,.slice none 0 0,.int .i64 0,.int .i64 0,.int .i64 0,.slice none 0 0,.int .i64 0,.slice none 0 0,.int .i64 0] 61);have hba2:=(Below.refl wa.heap.size wa).alloc (Nat.le_refl _) (.cells #[.slice none 0 0,.int .i64 0,.slice none 0 0,.slice none 0 0,.int .i64 0,.int .i64 0,.int .i64 0,.slice none 0 0,.int .i64 0,.slice none 0 0,.int .i64 0] 61)
 obtain⟨wb,hwb⟩:∃wb,wa.alloc (.cells #[.slice none 0 0,.int .i64 0,.slice none 0 0,.slice none 0 0,.int .i64 0,.int .i64 0,.int .i64 0,.slice none 0 0,.int .i64 0,.slice none 0 0,.int .i64 0] 61)=wb:=⟨_,rfl⟩
 rw[hwb]at hnb2 hba2
 have HB:=show Hid (Below w.heap.size w wb/\wb.heap[w.heap.size]? =some (.cells #[.int .i64 cw,.int .i64 cr] 23 (0,0))/\wb.heap[wa.heap.size]? =some (.cells #[.slice none 0 0,.int .i64 0,.slice none 0 0,.slice none 0 0,.int .i64 0,.int .i64 0,.int .i64 0,.slice none 0 0,.int .i64 0,.slice none 0 0,.int .i64 0] 61 (0,0))/\w.heap.size<=wa.heap.size)from⟨hba.trans (hba2.mono hba.size),(hba2.block _ (Qac hnb)).trans hnb,hnb2,hba.size⟩
 clear hnb hba hnb2 hba2
 go_wp2_with(go_at_call 32;refine(hD.out _).mono ?_;rintro e w1 ⟨rfl,hb⟩;have hx:=(hb.block _ (Qac HB.out.2.2.1)).trans HB.out.2.2.1;have c0:w1.cell? ⟨w.heap.size,0,none⟩=some (.int .i64 cw):=Qaa ((hb.block _ (Qac HB.out.2.1)).trans HB.out.2.1) 0;have c1:w1.cell? ⟨w.heap.size,1,none⟩=some (.int .i64 cr):=Qaa ((hb.block _ (Qac HB.out.2.1)).trans HB.out.2.1) 1;have hfs:=flowSet hx (.slice none 0 0) (.int .i64 0) (.slice none 0 0) (.slice none 0 0) (.int .i64 0) (.int .i64 0) (.int .i64 0) (.slice none 0 0) (.int .i64 0) (.slice none 0 0) (.int .i64 0);have HBe:=show Hid _ from Qbz (HB.out.1.trans (hb.mono HB.out.1.size)) HB.out.2.2.2 (.slice none 0 0) (.int .i64 0) (.slice none 0 0) (.slice none 0 0) (.int .i64 0) (.int .i64 0) (.int .i64 0) (.slice none 0 0) (.int .i64 0) (.slice none 0 0) (.int .i64 0);obtain⟨⟨d0,d1,d2,d3,d4,d5,d6,d7,d8,d9,d10⟩,⟨z0,z1,z2,z3,z4,z5,z6,z7,z8,z9,z10⟩⟩:=flowCells hx;have Hfs:=show Hid _ from hfs;clear hfs hx)
 exact bodyPost_ret (QaT (p:=4) (u:=5) (ty:=61) rfl _ _ wa.heap.size 61 #[.slice none 0 0,.int .i64 0,.slice none 0 0,.slice none 0 0,.int .i64 0,.int .i64 0,.int .i64 0,.slice none 0 0,.int .i64 0,.slice none 0 0,.int .i64 0] (0,0) _ rfl Hfs.out Tryz.underlying61 rfl krQ) rfl ⟨rfl,HBe.out⟩
theorem Qmy(w:World)(cw cr:Int)(log:ByteArray)(h:log.size<=400)(hc:cw<1\/4<cw\/cr<1\/4<cr):
  Calls Tryz.prog 13 #[.agg #[.int .i64 cw,.int .i64 cr],.string log] w λen w'=>en=.returned (.tuple #[.agg #[.slice none 0 0,.int .i64 0,.slice none 0 0,.slice none 0 0,.int .i64 0,.int .i64 0,.int .i64 0,.slice none 0 0,.int .i64 0,.slice none 0 0,.int .i64 0],.int .i64 2])/\Below w.heap.size w w':=by
 have hD:=show Hid _ from λ(w:World)=>QbD log w h
 have hnb:=heap_alloc_new w (.cells #[.int .i64 cw,.int .i64 cr] 23);have hba:=(Below.refl w.heap.size w).alloc (Nat.le_refl _) (.cells #[.int .i64 cw,.int .i64 cr] 23);go_enter Tryz.func13,Tryz.ntmps13
 obtain⟨wa,hwa⟩:∃wa,w.alloc (.cells #[.int .i64 cw,.int .i64 cr] 23)=wa:=⟨_,rfl⟩
 rw[hwa]at hnb hba;have hnb2:=heap_alloc_new wa (.cells #[.slice none 0 0,.int .i64 0,.slice none 0 0,.slice none 0 0,.int .i64 0,.int .i64 0,.int .i64 0,.slice none 0 0,.int .i64 0,.slice none 0 0,.int .i64 0] 61);have hba2:=(Below.refl wa.heap.size wa).alloc (Nat.le_refl _) (.cells #[.slice none 0 0,.int .i64 0,.slice none 0 0,.slice none 0 0,.int .i64 0,.int .i64 0,.int .i64 0,.slice none 0 0,.int .i64 0,.slice none 0 0,.int .i64 0] 61)
 obtain⟨wb,hwb⟩:∃wb,wa.alloc (.cells #[.slice none 0 0,.int .i64 0,.slice none 0 0,.slice none 0 0,.int .i64 0,.int .i64 0,.int .i64 0,.slice none 0 0,.int .i64 0,.slice none 0 0,.int .i64 0] 61)=wb:=⟨_,rfl⟩
 rw[hwb]at hnb2 hba2
 have HB:=show Hid (Below w.heap.size w wb/\wb.heap[w.heap.size]? =some (.cells #[.int .i64 cw,.int .i64 cr] 23 (0,0))/\wb.heap[wa.heap.size]? =some (.cells #[.slice none 0 0,.int .i64 0,.slice none 0 0,.slice none 0 0,.int .i64 0,.int .i64 0,.int .i64 0,.slice none 0 0,.int .i64 0,.slice none 0 0,.int .i64 0] 61 (0,0))/\w.heap.size<=wa.heap.size)from⟨hba.trans (hba2.mono hba.size),(hba2.block _ (Qac hnb)).trans hnb,hnb2,hba.size⟩
 clear hnb hba hnb2 hba2;have hcase:(cw<1)\/(¬cw<1/\4<cw)\/(¬cw<1/\¬4<cw/\cr<1)\/(¬cw<1/\¬4<cw/\¬cr<1/\4<cr):=omQ;clear hc
 rcases hcase with h1 | ⟨h1,h2⟩ | ⟨h1,h2,h3⟩ | ⟨h1,h2,h3,h4⟩
 all_goals
  go_wp2_with(go_at_call 32;refine(hD.out _).mono ?_;rintro e w1 ⟨v,es',m',r,rfl,hP,hown,hb⟩;have hr:((r:Int)==1)=false:=(by rw[hP.out.2];exact Qbh log m');obtain⟨ea,ec,rfl⟩:=Qaf hown;have hx:=(hb.block _ (Qac HB.out.2.2.1)).trans HB.out.2.2.1;have c0:w1.cell? ⟨w.heap.size,0,none⟩=some (.int .i64 cw):=Qaa ((hb.block _ (Qac HB.out.2.1)).trans HB.out.2.1) 0;have c1:w1.cell? ⟨w.heap.size,1,none⟩=some (.int .i64 cr):=Qaa ((hb.block _ (Qac HB.out.2.1)).trans HB.out.2.1) 1;have hfs:=flowSet hx (.slice none 0 0) (.int .i64 0) (.slice none 0 0) (.slice none 0 0) (.int .i64 0) (.int .i64 0) (.int .i64 0) (.slice none 0 0) (.int .i64 0) (.slice none 0 0) (.int .i64 0);have HBe:=show Hid _ from Qbz (HB.out.1.trans (hb.mono HB.out.1.size)) HB.out.2.2.2 (.slice none 0 0) (.int .i64 0) (.slice none 0 0) (.slice none 0 0) (.int .i64 0) (.int .i64 0) (.int .i64 0) (.slice none 0 0) (.int .i64 0) (.slice none 0 0) (.int .i64 0);obtain⟨⟨d0,d1,d2,d3,d4,d5,d6,d7,d8,d9,d10⟩,⟨z0,z1,z2,z3,z4,z5,z6,z7,z8,z9,z10⟩⟩:=flowCells hx;have Hfs:=show Hid _ from hfs;clear hfs hx)
  exact bodyPost_ret (QaT (p:=4) (u:=5) (ty:=61) rfl _ _ wa.heap.size 61 #[.slice none 0 0,.int .i64 0,.slice none 0 0,.slice none 0 0,.int .i64 0,.int .i64 0,.int .i64 0,.slice none 0 0,.int .i64 0,.slice none 0 0,.int .i64 0] (0,0) _ rfl Hfs.out Tryz.underlying61 rfl krQ) rfl ⟨rfl,HBe.out⟩
theorem QiY(w:World)(cw cr:Int)(log:ByteArray)(q:Nat)(hq:q=1\/q=2)(hF:∀w,Calls Tryz.prog 13 #[.agg #[.int .i64 cw,.int .i64 cr],.string log] w λen w'=>en=.returned (.tuple #[.agg #[.slice none 0 0,.int .i64 0,.slice none 0 0,.slice none 0 0,.int .i64 0,.int .i64 0,.int .i64 0,.slice none 0 0,.int .i64 0,.slice none 0 0,.int .i64 0],.int .i64 (q:Int)])/\Below w.heap.size w w'):
  Calls Tryz.prog 8 #[.agg #[.int .i64 cw,.int .i64 cr],.string log] w λen w'=>en=.returned (.tuple #[.pointer none,.int .i64 (q:Int)])/\Below w.heap.size w w':=by
 have HF:=hdQ hF;clear hF;have hnb:=heap_alloc_new w (.cells #[.int .i64 cw,.int .i64 cr] 23);have hba:=(Below.refl w.heap.size w).alloc (Nat.le_refl _) (.cells #[.int .i64 cw,.int .i64 cr] 23);go_enter Tryz.func8,Tryz.ntmps8
 obtain⟨wa,hwa⟩:∃wa,w.alloc (.cells #[.int .i64 cw,.int .i64 cr] 23)=wa:=⟨_,rfl⟩
 rw[hwa]at hnb hba;have c0:wa.cell? ⟨w.heap.size,0,none⟩=some (.int .i64 cw):=Qaa hnb 0;have c1:wa.cell? ⟨w.heap.size,1,none⟩=some (.int .i64 cr):=Qaa hnb 1
 have HB:=show Hid (Below w.heap.size w wa)from hba
 clear hnb hba
 have hz:((q:Int) !=0)=true:=by
  rcases hq with rfl | rfl<;>decide
 clear hq
 go_wp2_with(go_at_call 13;refine(HF.out _).mono ?_;rintro en w2 ⟨rfl,hb2⟩;have hnb3:=heap_alloc_new w2 (.cells #[.slice none 0 0,.int .i64 0,.slice none 0 0,.slice none 0 0,.int .i64 0,.int .i64 0,.int .i64 0,.slice none 0 0,.int .i64 0,.slice none 0 0,.int .i64 0] 61);have hba3:=(Below.refl w2.heap.size w2).alloc (Nat.le_refl _) (.cells #[.slice none 0 0,.int .i64 0,.slice none 0 0,.slice none 0 0,.int .i64 0,.int .i64 0,.int .i64 0,.slice none 0 0,.int .i64 0,.slice none 0 0,.int .i64 0] 61);obtain⟨wf,hwf⟩:∃wf,w2.alloc (.cells #[.slice none 0 0,.int .i64 0,.slice none 0 0,.slice none 0 0,.int .i64 0,.int .i64 0,.int .i64 0,.slice none 0 0,.int .i64 0,.slice none 0 0,.int .i64 0] 61)=wf:=⟨_,rfl⟩;rw[hwf]at hnb3 hba3;have HBe:=show Hid _ from Qbz ((HB.out.trans (hb2.mono HB.out.size)).trans (hba3.mono (HB.out.trans (hb2.mono HB.out.size)).size)) (HB.out.trans (hb2.mono HB.out.size)).size (.slice none 0 0) (.int .i64 0) (.slice none 0 0) (.slice none 0 0) (.int .i64 0) (.int .i64 0) (.int .i64 0) (.slice none 0 0) (.int .i64 0) (.slice none 0 0) (.int .i64 0);obtain⟨⟨d0,d1,d2,d3,d4,d5,d6,d7,d8,d9,d10⟩,⟨z0,z1,z2,z3,z4,z5,z6,z7,z8,z9,z10⟩⟩:=flowCells hnb3)
 go_ret2
 exact⟨rfl,HBe.out⟩
theorem Tryz.infoPC:(Tryz.prog.info? 45).map (λi=>(i.zero,i.size,i.bytes))=some (some (.pointer none),1,8):=by kernel_rfl
theorem Tryz.infoPR:(Tryz.prog.info? 49).map (λi=>(i.zero,i.size,i.bytes))=some (some (.pointer none),1,8):=by kernel_rfl
section
variable {CJ RJ:CJT} {W:World} {wb:Nat} {js:List JE} {is:List IEnt} {es:List EEnt} {cnt:Nat}
structure KO (CJ RJ:CJT) (W0 W:World) (wb:Nat) (js:List JE) (is:List IEnt) (es:List EEnt) (cnt:Nat) (x:JE) (v0 v1:Value) (x0 x1:List Value) (n0 n1:Nat):Prop where
 ex:∃f v xs n,LInv CJ RJ f W wb v xs n js is es cnt/\v 0=v0/\v 1=v1/\xs 0=x0/\xs 1=x1/\n 0=n0/\n 1=n1/\(n 2=is.length/\n 3=es.length/\n 4=is.length/\n 5=es.length/\xs 2=is.map IEnt.v/\xs 3=es.map EEnt.v/\(xs 4=is.map λx=>.int .i64 x.m)/\xs 5=evCells (es.map EEnt.m))/\JobOf CJ f W (4*js.length+1) x.p x.j/\JobOf RJ f W (4*js.length+2) x.r x.j
 bel:Below wb W0 W
variable {W0:World} {x:JE} {v0 v1:Value} {x0 x1:List Value} {n0 n1:Nat}
theorem KO.shape(h:KO CJ RJ W0 W wb js is es cnt x v0 v1 x0 x1 n0 n1):W.ownsRow 0 45 1 v0 n0 x0/\W.ownsRow 0 49 1 v1 n1 x1/\W.cell? ⟨wb,0,none⟩=some v0/\W.cell? ⟨wb,1,none⟩=some v1:=by
 obtain⟨f,v,xs,n,h1,rfl,rfl,rfl,rfl,rfl,rfl,_⟩:=h.ex;exact⟨(h1.rows 0 (by decide)).row,(h1.rows 1 (by decide)).row,h1.cellAt 0 (by decide),h1.cellAt 1 (by decide)⟩
theorem KO.stepA(KC:KeepsJ CJ)(KR:KeepsJ RJ)(h:KO CJ RJ W0 W wb js is es cnt x v0 v1 x0 x1 n0 n1){wa w5:World}{v' u:Value}(hba:Below W.heap.size W wa)(hrow:w5.ownsRow 0 45 1 v' (n0+1) (x0++[u]))(happ:AppQ wa w5 v0 v'):
  w5.cell? ⟨wb,0,none⟩=some v0/\w5.frozen? ⟨wb,0,none⟩=false/\KO CJ RJ W0 (w5.setCell ⟨wb,0,none⟩ v') wb js is es cnt x v' v1 (x0++[u]) x1 (n0+1) n1:=by
 obtain⟨f,v,xs,n,h1,rfl,rfl,rfl,rfl,rfl,rfl,hr,j1,j2⟩:=h.ex;obtain⟨a1,a2,f',a3,a4,a5⟩:=h1.app KC KR 0 (by decide) (m:=1) hba hrow happ;refine⟨a1,a2,⟨f',_,_,_,a3,Qay _ _ _,Qap _ _ (by decide),Qay _ _ _,Qap _ _ (by decide),Qay _ _ _,Qap _ _ (by decide),?_,j1.frm KC a4 a5 omQ,j2.frm KR a4 a5 omQ⟩,h.bel.trans (h1.below a4)⟩;simp only[Qap _ _ (show(2:Nat)≠0 by decide),Qap _ _ (show(3:Nat)≠0 by decide),Qap _ _ (show(4:Nat)≠0 by decide),Qap _ _ (show(5:Nat)≠0 by decide)];exact hr
theorem KO.stepB(KC:KeepsJ CJ)(KR:KeepsJ RJ)(h:KO CJ RJ W0 W wb js is es cnt x v0 v1 x0 x1 n0 n1){wa w5:World}{v' u:Value}(hba:Below W.heap.size W wa)(hrow:w5.ownsRow 0 49 1 v' (n1+1) (x1++[u]))(happ:AppQ wa w5 v1 v'):
  w5.cell? ⟨wb,1,none⟩=some v1/\w5.frozen? ⟨wb,1,none⟩=false/\KO CJ RJ W0 (w5.setCell ⟨wb,1,none⟩ v') wb js is es cnt x v0 v' x0 (x1++[u]) n0 (n1+1):=by
 obtain⟨f,v,xs,n,h1,rfl,rfl,rfl,rfl,rfl,rfl,hr,j1,j2⟩:=h.ex;obtain⟨a1,a2,f',a3,a4,a5⟩:=h1.app KC KR 1 (by decide) (m:=1) hba hrow happ;refine⟨a1,a2,⟨f',_,_,_,a3,Qap _ _ (by decide),Qay _ _ _,Qap _ _ (by decide),Qay _ _ _,Qap _ _ (by decide),Qay _ _ _,?_,j1.frm KC a4 a5 omQ,j2.frm KR a4 a5 omQ⟩,h.bel.trans (h1.below a4)⟩;simp only[Qap _ _ (show(2:Nat)≠1 by decide),Qap _ _ (show(3:Nat)≠1 by decide),Qap _ _ (show(4:Nat)≠1 by decide),Qap _ _ (show(5:Nat)≠1 by decide)];exact hr
theorem KO.done(h:KO CJ RJ W0 W wb js is es cnt x v0 v1 (js.map JE.pv++[x.pv]) (js.map JE.rv++[x.rv]) (js.length+1) (js.length+1)):LPost CJ RJ W0 wb is es cnt (js++[x]) W:=by
 obtain⟨f,v,xs,n,h1,e1,e2,e3,e4,e5,e6,⟨r2,r3,r4,r5,y2,y3,y4,y5⟩,j1,j2⟩:=h.ex;exact⟨is,es,cnt,⟨f,v,xs,n,h1.addJ x j1 j2,⟨by simpa using e5,by simpa using e6,r2,r3,r4,r5,by simpa using e3,by simpa using e4,y2,y3,y4,y5⟩⟩,by omega,by omega,by omega,h.bel⟩
theorem KO.start(I:JobIface CJ)(KC:KeepsJ CJ)(KR:KeepsJ RJ)(h:LSt CJ RJ W wb js is es cnt){w1 w2:World}(hb1:Below W.heap.size W w1)(hb2:Below w1.heap.size w1 w2){jb rb:Nat}{X Y:Nat->Prop}{j:JobM}(hC:CJ X w1 jb j)(hX:∀g,X g->W.heap.size<=g)(hR:RJ Y w2 rb j)(hY:∀g,Y g->w1.heap.size<=g):
  ∃v0 v1,KO CJ RJ W w2 wb js is es cnt ⟨jb,rb,j⟩ v0 v1 (js.map JE.pv) (js.map JE.rv) js.length js.length:=by
 obtain⟨f,v,xs,n,h1,h2⟩:=h;have hb12:Below W.heap.size W w2:=hb1.trans (hb2.mono hb1.size);have hs:=Owners.new_same f W.heap.size (λg=>if g<w1.heap.size then some (4*js.length+1)else some (4*js.length+2));refine⟨v 0,v 1,⟨_,v,xs,n,h1.keep KC KR (S:=λ_=>False) (.of_below hb12) hs λ_ h=>h,rfl,rfl,h2.x0,h2.x1,h2.n0,h2.n1,⟨h2.n2,h2.n3,h2.n4,h2.n5,h2.x2,h2.x3,h2.x4,h2.x5⟩,⟨X,After.of_below I hC hb2,λg hg=>?_⟩,⟨Y,hR,λg hg=>?_⟩⟩,hb12.mono (Nat.le_of_lt h1.wlt)⟩
 ·rw[Owners.new_at _ _ (hX g hg),if_pos (I.lt hC g hg)]
 ·rw[Owners.new_at _ _ (Nat.le_trans hb1.size (hY g hg)),if_neg (Nat.not_lt.2 (hY g hg))]
theorem Qgd(KC:KeepsJ CJ)(KR:KeepsJ RJ)(h:LSt CJ RJ W wb js is es cnt)(cw cr:Int)(log:ByteArray)(q:Nat)(h1:∀w,Calls Tryz.prog 8 #[.agg #[.int .i64 cw,.int .i64 cr],.string log] w λen w'=>en=.returned (.tuple #[.pointer none,.int .i64 (q:Int)])/\Below w.heap.size w w')(h2:∀w,Calls Tryz.prog 9 #[.agg #[.int .i64 cw,.int .i64 cr],.string log] w λen w'=>en=.returned (.tuple #[.pointer none,.int .i64 (q:Int)])/\Below w.heap.size w w'):
  Calls Tryz.prog 5 #[.pointer (some ⟨wb,0,none⟩),.agg #[.int .i64 cw,.int .i64 cr],.string log] W λe w'=>e=.returned (.bool true)/\LPost CJ RJ W wb is es cnt js w':=by
 have H1:=hdQ h1;have H2:=hdQ h2;have hN:=hdQ Qcc
 have HI:=show Hid (LSt CJ RJ W wb js is es cnt)from h
 clear h1 h2 h;have hnb:=heap_alloc_new W (.cells #[.int .i64 cw,.int .i64 cr] 23);have hba:=(Below.refl W.heap.size W).alloc (Nat.le_refl _) (.cells #[.int .i64 cw,.int .i64 cr] 23);go_enter Tryz.func5,Tryz.ntmps5
 obtain⟨wa,hwa⟩:∃wa,W.alloc (.cells #[.int .i64 cw,.int .i64 cr] 23)=wa:=⟨_,rfl⟩
 rw[hwa]at hnb hba;have c0:wa.cell? ⟨W.heap.size,0,none⟩=some (.int .i64 cw):=Qaa hnb 0;have c1:wa.cell? ⟨W.heap.size,1,none⟩=some (.int .i64 cr):=Qaa hnb 1
 have HB:=show Hid (Below W.heap.size W wa/\_)from And.intro hba hnb
 clear hnb hba
 go_wp2_with(first
  | (go_at_call 8;refine(H1.out _).mono ?_;rintro en w1 ⟨rfl,hb1⟩;have d0:w1.cell? ⟨W.heap.size,0,none⟩=some (.int .i64 cw):=Qaa ((hb1.block _ (Qac HB.out.2)).trans HB.out.2) 0;have d1:w1.cell? ⟨W.heap.size,1,none⟩=some (.int .i64 cr):=Qaa ((hb1.block _ (Qac HB.out.2)).trans HB.out.2) 1)
  | (go_at_call 9;refine(H2.out _).mono ?_;rintro en w2 ⟨rfl,hb2⟩)
  | (go_at_call 10;refine(hN.out _ _).mono ?_;rintro e w3 ⟨rfl,rfl⟩))
 go_ret;have hb12:=HB.out.1.trans (hb1.mono HB.out.1.size);exact⟨rfl,LPost.of_below KC KR HI.out (hb12.trans (hb2.mono hb12.size))⟩
theorem Qly(I:JobIface CJ)(J:RefIface RJ)(KC:KeepsJ CJ)(h:LSt CJ RJ W wb js is es cnt)(hjs:js.length<=1600000000001)(Wd R:Nat)(log:ByteArray)(zs:List Ev)(m:Nat)(h1:log.size<=400)(h2:Parsed log zs m)(h3:1<=Wd)(h4:Wd<=4)(h5:1<=R)(h6:R<=4):
  Calls Tryz.prog 5 #[.pointer (some ⟨wb,0,none⟩),.agg #[.int .i64 (Wd:Int),.int .i64 (R:Int)],.string log] W λe w'=>e=.returned (.bool true)/\∃x:JE,x.j=newJ Wd R zs/\LPost CJ RJ W wb is es cnt (js++[x]) w':=by
 have KR:=J.keeps
 have H1:=show Hid _ from λw=>I.new w Wd R log zs m h1 h2 h3 h4 h5 h6
 have H2:=show Hid _ from λw=>J.new w Wd R log zs m h1 h2 h3 h4 h5 h6
 have hN:=hdQ Qcc
 have HI:=show Hid (LSt CJ RJ W wb js is es cnt)from h
 obtain⟨i0,hi0,hz0,hz1,hz2⟩:=info_parts Tryz.infoPC;obtain⟨i1,hi1,hy0,hy1,hy2⟩:=info_parts Tryz.infoPR;clear h h1 h2 h3 h4 h5 h6;have hnb:=heap_alloc_new W (.cells #[.int .i64 (Wd:Int),.int .i64 (R:Int)] 23);have hba:=(Below.refl W.heap.size W).alloc (Nat.le_refl _) (.cells #[.int .i64 (Wd:Int),.int .i64 (R:Int)] 23);go_enter Tryz.func5,Tryz.ntmps5
 obtain⟨wa,hwa⟩:∃wa,W.alloc (.cells #[.int .i64 (Wd:Int),.int .i64 (R:Int)] 23)=wa:=⟨_,rfl⟩
 rw[hwa]at hnb hba;have c0:wa.cell? ⟨W.heap.size,0,none⟩=some (.int .i64 (Wd:Int)):=Qaa hnb 0;have c1:wa.cell? ⟨W.heap.size,1,none⟩=some (.int .i64 (R:Int)):=Qaa hnb 1
 have HB:=show Hid (Below W.heap.size W wa/\_)from And.intro hba hnb
 clear hnb hba
 have hz:((0:Int) !=0)=false:=by simp
 go_wp2_with(first
  | (go_at_call 8;refine(H1.out _).mono ?_;rintro en w1 ⟨jb,X,rfl,hC,hX,hb1⟩;have d0:w1.cell? ⟨W.heap.size,0,none⟩=some (.int .i64 (Wd:Int)):=Qaa ((hb1.block _ (Qac HB.out.2)).trans HB.out.2) 0;have d1:w1.cell? ⟨W.heap.size,1,none⟩=some (.int .i64 (R:Int)):=Qaa ((hb1.block _ (Qac HB.out.2)).trans HB.out.2) 1)
  | (go_at_call 9;refine(H2.out _).mono ?_;rintro en w2 ⟨rb,Y,rfl,hR,hY,hb2⟩;obtain⟨v0,v1,hK⟩:=KO.start I KC KR HI.out (HB.out.1.trans (hb1.mono HB.out.1.size)) hb2 hC (λg hg=>Nat.le_trans HB.out.1.size (hX g hg)) hR hY;obtain⟨r0,r1,e0,e1⟩:=hK.shape;obtain⟨a0,p0,rfl⟩:=Qaf r0;obtain⟨a1,p1,rfl⟩:=Qaf r1;have HK:=show Hid _ from hK;have HR0:=show Hid _ from r0;clear hK r0 r1 hC hX hR hY hb1 hb2 e1)
  | (go_at_call 10;refine(hN.out _ _).mono ?_;rintro e w3 ⟨rfl,rfl⟩)
  | (at_builtin;refine QaH _ rfl (.tmp 40) (.tmp 42) 28 rfl 0 45 i0 (.pointer none) 1 8 Tryz.underlying28 hi0 hz0 hz1 hz2 rfl (by decide) (.slice a0 js.length p0) js.length (js.map JE.pv) rfl (World.ownsRow.alloc HR0.out _) ⟨w3.heap.size,0,none⟩ 1 1 [.pointer (some ⟨jb,0,none⟩)] rfl rfl (cell_one_new _ _ _) (Qel _) (by unfold maxLen;omega) (by omega) (Nat.zero_le _) (by decide) ?_;intro v0' w5 hown5 hfr5;obtain⟨q1,q2,hK2⟩:=HK.out.stepA KC KR ((Below.refl w3.heap.size w3).alloc (Nat.le_refl _) _) hown5 hfr5;obtain⟨a0',p0',rfl⟩:=Qaf hown5;have HK2:=show Hid _ from hK2;have e1b:=hK2.shape.2.2.2;have HR1:=show Hid _ from hK2.shape.2.1;clear hK2 HK hown5 hfr5 HR0)
  | (at_builtin;refine QaH _ rfl (.tmp 50) (.tmp 52) 29 rfl 0 49 i1 (.pointer none) 1 8 Tryz.underlying29 hi1 hy0 hy1 hy2 rfl (by decide) (.slice a1 js.length p1) js.length (js.map JE.rv) rfl (World.ownsRow.alloc HR1.out _) ⟨w5.heap.size,0,none⟩ 1 1 [.pointer (some ⟨rb,0,none⟩)] rfl rfl (QcP _ _ _ _ _) (Qel _) (by unfold maxLen;omega) (by omega) (Nat.zero_le _) (by decide) ?_;intro v1' w6 hown6 hfr6;obtain⟨q3,q4,hK3⟩:=HK2.out.stepB KC KR ((Below.refl _ _).alloc (Nat.le_refl _) _) hown6 hfr6;obtain⟨a1',p1',rfl⟩:=Qaf hown6;have HK3:=show Hid _ from hK3;clear hK3 HK2 hown6 hfr6 HR1))
 go_ret;exact⟨rfl,⟨jb,rb,newJ Wd R zs⟩,rfl,KO.done HK3.out⟩
theorem QfC(I:JobIface CJ)(J:RefIface RJ)(KC:KeepsJ CJ)(h:LSt CJ RJ W wb js is es cnt)(hjs:js.length<=1600000000001)(cw cr:Int)(log:ByteArray):
  Calls Tryz.prog 5 #[.pointer (some ⟨wb,0,none⟩),.agg #[.int .i64 cw,.int .i64 cr],.string log] W λe w'=>e=.returned (.bool true)/\∃js',LPost CJ RJ W wb is es cnt js' w'/\js'.length<=js.length+1/\∀x∈js',x∈js\/x.j.number=0:=by
 by_cases hl:400<log.size
 ·refine(Qgd KC J.keeps h cw cr log 1 (λw=>QiY w cw cr log 1 (.inl rfl) λw=>Qlx w cw cr log hl) (λw=>Qlm w cw cr log hl)).mono ?_;rintro e w' ⟨rfl,hp⟩;exact⟨rfl,js,hp,by omega,λx hx=>.inl hx⟩
 ·by_cases hc:cw<1\/4<cw\/cr<1\/4<cr
  ·refine(Qgd KC J.keeps h cw cr log 2 (λw=>QiY w cw cr log 2 (.inr rfl) λw=>Qmy w cw cr log omQ hc) (λw=>Qmw w cw cr log omQ hc)).mono ?_;rintro e w' ⟨rfl,hp⟩;exact⟨rfl,js,hp,by omega,λx hx=>.inl hx⟩
  ·obtain⟨zs,m,hp⟩:=QdT log
   obtain⟨Wd,rfl⟩:∃n:Nat,cw=(n:Int):=⟨cw.toNat,by omega⟩
   obtain⟨R,rfl⟩:∃n:Nat,cr=(n:Int):=⟨cr.toNat,by omega⟩
   refine(Qly I J KC h hjs Wd R log zs m omQ hp omQ omQ omQ omQ).mono ?_;rintro e w' ⟨rfl,x,hx,hq⟩;refine⟨rfl,js++[x],hq,by simp,λy hy=>?_⟩
   rcases List.mem_append.1 hy with hy | hy
   ·exact .inl hy
   ·simp only[List.mem_cons,List.not_mem_nil,or_false]at hy;subst hy
    right
    rw[hx]
    rfl
end
end
end Go.Proofs.YthccpacmklhejabGreatDoor
