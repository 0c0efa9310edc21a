import Derived.Test.YthccpacmklhejabGreatDoorTk
import Derived.Test.YthccpacmklhejabGreatDoorK31
import Derived.Test.YthccpacmklhejabGreatDoorK14
import Derived.Test.YthccpacmklhejabGreatDoorK30
set_option maxHeartbeats 3000000
set_option maxRecDepth 100000
namespace Go.Proofs.YthccpacmklhejabGreatDoor
section
open Go.RowKit
theorem Qm3{es:List Ev}(hok:∀e∈es,e.ok)(hk:∀e∈es,0<e.key.size/\e.key.size<=1000)(hl:es.length<=400):∀r∈rowsTo es es.length,TB r:=by
 intro r hr;obtain⟨h1,_,_,h4⟩:=QbQ hok hl es.length r hr;obtain⟨_,_,hA⟩:=Qb1 es es.length (Nat.le_refl _);obtain⟨_,_,_,k,hkm,hg⟩:=hA r hr;rw[List.take_length]at hkm;obtain⟨e,he,rfl⟩:=(Qaz _ _).1 hkm;refine⟨by omega,by omega,?_⟩
 have ht:r.tx=(grp e.key).2:=by rw[hg]
 rw[ht];unfold grp;simp only;rw[<-Qam,QaA,List.length_take,List.length_drop,Qam];have:=hk e he;omega
theorem QjP(s:ByteArray)(n:Int)(w:World)(h:400<s.size):
  Calls Tryz.prog 19 #[.string s,.int .i64 n] w λen w'=>en=.returned (.tuple #[.string ⟨#[]⟩,.int .i64 1])/\Below w.heap.size w w':=by
 go_enter Tryz.func19,Tryz.ntmps19
 go_wp2_with(go_at_call 14;refine(QcJ s _ h).mono ?_;rintro e w1 ⟨rfl,hb⟩)
 go_ret2
 exact⟨rfl,hb⟩
theorem Qk9(s:ByteArray)(n:Int)(w:World)(h:s.size<=400)(es:List Ev)(m:Nat)(hp:Parsed s es m)(hn:n<0\/(es.length:Int)<n):
  Calls Tryz.prog 19 #[.string s,.int .i64 n] w λen w'=>en=.returned (.tuple #[.string ⟨#[]⟩,.int .i64 3])/\Below w.heap.size w w':=by
 have hD:=show Hid _ from λw=>Qbq s w h
 by_cases h0:n<0
 ·have h0d:decide (n<0)=true:=decide_eq_true h0;clear hn;go_enter Tryz.func19,Tryz.ntmps19
  go_wp2_with(go_at_call 14;refine(hD.out _).mono ?_;rintro e w1 ⟨v,es',m',r,rfl,hP,hown,hb⟩;obtain⟨rfl,rfl⟩:=Parsed.unique hp hP.out.1;have hr:((r:Int)==1)=false:=(by rw[hP.out.2];exact Qbh s m);obtain⟨a,c,rfl⟩:=Qaf hown)
  go_ret2
  exact⟨rfl,hb⟩
 ·have h1:(es.length:Int)<n:=omQ;clear hn;go_enter Tryz.func19,Tryz.ntmps19
  go_wp2_with(go_at_call 14;refine(hD.out _).mono ?_;rintro e w1 ⟨v,es',m',r,rfl,hP,hown,hb⟩;obtain⟨rfl,rfl⟩:=Parsed.unique hp hP.out.1;have hr:((r:Int)==1)=false:=(by rw[hP.out.2];exact Qbh s m);obtain⟨a,c,rfl⟩:=Qaf hown)
  go_ret2
  exact⟨rfl,hb⟩
theorem Qmo(s:ByteArray)(k:Nat)(w:World)(h:s.size<=400)(es:List Ev)(m:Nat)(hp:Parsed s es m)(hk:k<=es.length):
  Calls Tryz.prog 19 #[.string s,.int .i64 (k:Int)] w λen w'=>en=.returned (.tuple #[.string ⟨(foldB (es.take k)).toArray⟩,.int .i64 0])/\Below w.heap.size w w':=by
 have hD:=show Hid _ from λw=>Qbq s w h
 have h0:¬((k:Int)<0):=omQ;have h1:¬((es.length:Int)<(k:Int)):=omQ;have hf:=hp.few;have hg:=QcC hp.good
 have hlk:(es.take k).length=k:=by rw[List.length_take];omega
 have hga:∀e∈es.take k,e.ok:=λe he=>hg.1 e (List.mem_of_mem_take he)
 have hgk:∀e∈es.take k,0<e.key.size/\e.key.size<=1000:=λe he=>hg.2.2 e (List.mem_of_mem_take he)
 have hTB:=Qm3 hga hgk omQ
 have hrl:(rowsTo (es.take k) (es.take k).length).length<=1000:=by
  have:=QcS (es.take k) (es.take k).length;omega
 have HR:Hid (∀(a:Option Addr) (c:Nat) (w1:World),w1.ownsRow w.heap.size 40 4 (.slice a es.length c) es.length (evCells es)->Calls Tryz.prog 43 #[.slice a k c] w1 λen w'=>∃(v:Value),en=.returned v/\w'.ownsRow w1.heap.size 140 5 v (rowsTo (es.take k) (es.take k).length).length (rowCells (rowsTo (es.take k) (es.take k).length))/\Below w1.heap.size w1 w'):=by
  intro a c w1 ho;have:=QlH a c (es.take k) w1 omQ (Qd3 ho hg.1 k hk) hgk;rw[hlk]at this ⊢;exact this
 have hfo:=QhM (es:=es.take k) (λe he=>hg.2.1 e (List.mem_of_mem_take he))
 obtain⟨F,hF⟩:∃F:ByteArray,⟨(foldB (es.take k)).toArray⟩=F:=⟨_,rfl⟩
 rw[hF];rw[<-hfo]at hF;generalize rowsTo (es.take k) (es.take k).length=rs at HR hTB hrl hF
 have HT:Hid (∀(B:Nat) (a:Option Addr) (c:Nat) (w:World),w.ownsRow B 140 5 (.slice a rs.length c) rs.length (rowCells rs)->Calls Tryz.prog 42 #[.slice a rs.length c] w λen w'=>en=.returned (.string F)/\Below w.heap.size w w'):=by
  intro B a c w ho;have:=Qf8 B a c rs w hrl ho hTB;rw[hF]at this;exact this
 clear hg hf hfo hF hTB hga hgk hlk hrl;go_enter Tryz.func19,Tryz.ntmps19
 go_wp2_with(first
  | (go_at_call 14;refine(hD.out _).mono ?_;rintro e w1 ⟨v,es',m',r,rfl,hP,hown,hb⟩;obtain⟨rfl,rfl⟩:=Parsed.unique hp hP.out.1;have hr:((r:Int)==1)=false:=(by rw[hP.out.2];exact Qbh s m);obtain⟨a,c,rfl⟩:=Qaf hown;have hcp:=Qdp hown;have hkc:(k:Int)<=(c:Int):=omQ;have hk0:(0:Int)<=(k:Int):=omQ;have Ho:=show Hid (_/\_)from And.intro hown hb;clear hown hb hP)
  | (go_at_call 43;refine(HR.out a c w1 Ho.out.1).mono ?_;rintro e w2 ⟨v2,rfl,ho2,hb2⟩;obtain⟨a2,c2,rfl⟩:=Qaf ho2)
  | (go_at_call 42;refine(HT.out _ a2 c2 w2 ho2).mono ?_;rintro e w3 ⟨rfl,hb3⟩))
 all_goals go_ret2
 all_goals exact⟨rfl,(Ho.out.2.trans (hb2.mono Ho.out.2.size)).trans (hb3.mono (Nat.le_trans Ho.out.2.size hb2.size))⟩
theorem Qla(s:ByteArray)(n:Int):∃(t:ByteArray) (r:Nat),(∀w,Tab w->Calls Tryz.prog 18 #[.string s,.int .i64 n] w λen w'=>en=.returned (.tuple #[.string t,.int .i64 (r:Int)])/\Below w.heap.size w w')/\
  (∀w,Calls Tryz.prog 19 #[.string s,.int .i64 n] w λen w'=>en=.returned (.tuple #[.string t,.int .i64 (r:Int)])/\Below w.heap.size w w'):=by
 by_cases h:400<s.size
 ·exact⟨⟨#[]⟩,1,λw _=>QeU (QkA s n w h),λw=>QjP s n w h⟩
 ·obtain⟨es,m,hp⟩:=QdT s
  by_cases hn:n<0\/(es.length:Int)<n
  ·exact⟨⟨#[]⟩,3,λw _=>QeU (QlU s n w omQ es m hp hn),λw=>Qk9 s n w omQ es m hp hn⟩
  ·obtain⟨k,rfl⟩:∃k:Nat,n=(k:Int):=⟨n.toNat,by omega⟩
   exact⟨⟨(foldB (es.take k)).toArray⟩,0,λw ht=>QeU (QmL s k w omQ es m hp omQ ht),λw=>Qmo s k w omQ es m hp omQ⟩
theorem Qit(W:World)(wb:Nat)(a b c d:Int)(s:ByteArray)(e:Ev)(ht:Tab W):
  Calls Tryz.prog 11 #[.pointer (some ⟨wb,0,none⟩),.agg #[.int .i64 3,.int .i64 a,.int .i64 b,.string s,.int .u8 (e.op:Int),.string e.key,.int .u16 (e.seq:Int),.int .i16 e.val,.int .i64 c,.int .i64 d]] W λen w'=>en=.returned (.bool true)/\Below W.heap.size W w':=by
 obtain⟨t,r,hC,hR⟩:=Qla s a;have hN:=hdQ Qcc;obtain⟨op,key,seq,val⟩:=e
 have HC:=show Hid _ from λ(_:Unit)=>hC (W.alloc (.cells #[.int .i64 3,.int .i64 a,.int .i64 b,.string s,.int .u8 (op:Int),.string key,.int .u16 (seq:Int),.int .i16 val,.int .i64 c,.int .i64 d] 42)) (ht.old ((Below.refl _ _).alloc (Nat.le_refl _) _))
 have HR:=hdQ hR;clear hC hR ht;go_enter Tryz.func11,Tryz.ntmps11
 go_wp2_with(first
  | (go_at_call 18;refine(HC.out ()).mono ?_;rintro en w1 ⟨rfl,hb1⟩;have hx:=(hb1.block W.heap.size (by simp)).trans (heap_alloc_new W _);have c1:w1.cell? ⟨W.heap.size,1,none⟩=some (.int .i64 a):=Qad hx 1;have c3:w1.cell? ⟨W.heap.size,3,none⟩=some (.string s):=Qad hx 3;have hB1:Below W.heap.size W w1:=((Below.refl _ _).alloc (Nat.le_refl _) _).trans (hb1.mono (by simp));clear hx hb1)
  | (go_at_call 19;refine(HR.out _).mono ?_;rintro en w2 ⟨rfl,hb2⟩)
  | (go_at_call 10;refine(hN.out _ _).mono ?_;rintro en w3 ⟨rfl,rfl⟩))
 go_ret;exact⟨rfl,hB1.trans (hb2.mono hB1.size)⟩
section
variable {f:Owners} {w:World} {B k jb:Nat} {sb ab:List Nat} {j:JobM}
theorem RJob.wayS(h:RJob f w B k jb sb ab j)(i:Nat)(hi:i<sb.length)(hi':i<j.sorters.length):∃g1 cs' qa qc,w.cell? ⟨jb,4,none⟩=some (.slice (some ⟨g1,0,none⟩) j.width cs')/\w.cell? ⟨g1,i,none⟩=some (.pointer (some ⟨sb[i],0,none⟩))/\w.cell? ⟨sb[i],1,none⟩=some (.slice qa (j.sorters[i]).pipe.length qc)/\qRow w B 3 1 (.slice qa (j.sorters[i]).pipe.length qc) (j.sorters[i]).pipe.length ((j.sorters[i]).pipe.map (Value.int .i64)):=by
 obtain⟨g1,cs',vp,a1,a2,a3,_⟩:=h.pipeC i hi hi';obtain⟨ho,vg,vq,hb,hg,og,hp,op⟩:=h.sorters i hi hi';have h3:w.cell? ⟨sb[i],1,none⟩=some vq:=Qad hb 1;obtain⟨qa,qc,rfl⟩:=hp.shape;exact⟨g1,cs',qa,qc,a1,a2,h3,hp⟩
theorem Qiu(h:RJob f w B k jb sb ab j)(i:Nat)(hi:i<j.width)(hi':i<j.sorters.length)(hp:(j.sorters[i]).pipe=[]):
  Calls Tryz.prog 46 #[.pointer (some ⟨jb,0,none⟩),.int .i64 (i:Int)] w λen w'=>en=.returned (.int .i64 8)/\RAfter f w B k jb sb ab j w':=by
 have hib:i<sb.length:=by have:=h.lenS;omega
 obtain⟨g1,cs',qa,qc,c4,d1,d2,hq⟩:=h.wayS i hib hi'
 have HR:=show Hid (RAfter f w B k jb sb ab j w)from⟨f,h,FrmO.refl _ _ _,Same.refl _ _⟩
 rw[hp]at d2;clear h hq hp;generalize sb[i]=b1 at d1 d2;have h1:(i:Int)<(j.width:Int):=omQ;have h2:(0:Int)<=(i:Int):=omQ;generalize j.width=W at c4 h1;have d2':w.cell? ⟨b1,1,none⟩=some (.slice qa 0 qc):=d2;clear d2;go_enter Tryz.func46,Tryz.ntmps46;go_wp2;go_ret;exact⟨rfl,HR.out⟩
end
end
section
open Go.RowKit
theorem Tryz.infoChange:(Tryz.prog.info? 151).map (λi=>(i.zero,i.size,i.bytes))=some (some (.agg #[.int .i64 0,.string ⟨#[]⟩,.int .i64 0,.int .i64 0]),4,40):=by kernel_rfl
theorem Qcl(c:ChgM):∀u∈chgCells1 c,u.oneCell'=true:=λu hu=>by
 simp only[chgCells1,List.mem_cons,List.not_mem_nil,or_false]at hu
 rcases hu with rfl | rfl | rfl | rfl<;>rfl
def JobM.barA(j:JobM)(i n:Nat):JobM:={j with adders:=firstN (λa:AdderM=>a.push i barM) j.adders n}
theorem AdderM.waits_at(a:AdderM)(i:Nat)(h:i<a.pipes.length):a.waits i=(a.pipes[i]).length:=by
 unfold AdderM.waits;rw[List.getD_eq_getElem?_getD,List.getElem?_eq_getElem h]
 rfl
section
variable {f:Owners} {w:World} {B k jb:Nat} {sb ab:List Nat} {j:JobM}
theorem RJob.sorterBar(h:RJob f w B k jb sb ab j)(i:Nat)(hi:i<sb.length)(hi':i<j.sorters.length)(hwid:j.width<=9)(v':Value)(rest:List Int)(hq:qRow w B 3 1 v' rest.length (rest.map (Value.int .i64)))(vp:Value)(hvp:w.cell? ⟨sb[i],1,none⟩=some vp)(hv':∀g,v'.ownBlock=some g->vp.ownBlock=some g):
  RAfter f w B k jb sb ab {j with sorters:=j.sorters.set i {j.sorters[i]with marked:=(j.sorters[i]).got.length,passed:=true,pipe:=rest}} (((w.setCell ⟨sb[i],2,none⟩ (.int .i64 ((j.sorters[i]).got.length:Int))).setCell ⟨sb[i],4,none⟩ (.bool true)).setCell ⟨sb[i],1,none⟩ v'):=by
 obtain⟨ho,vg,vq,hb,hg,og,hp,op⟩:=h.sorters i hi hi';have h3:w.cell? ⟨sb[i],1,none⟩=some vq:=Qad hb 1;have hvq:vp=vq:=Option.some.inj (hvp.symm.trans h3);subst hvq
 have hiw:i<j.width:=by rw[<-h.lenS.1];exact hi
 have ho':IsOf f (k+300+i) v':=λg hg=>op g (hv' g hg)
 have hs1:∀(o:Nat) (u:Value) (w:World),FrmO f (λc=>c=k+100+i) w (w.setCell ⟨sb[i],o,none⟩ u):=λo u w=>FrmO.of_set (S:=λc=>c=k+100+i) ho rfl _
 have hf:=((hs1 2 (.int .i64 ((j.sorters[i]).got.length:Int)) w).trans (Same.refl _ _) (hs1 4 (.bool true) _)).trans (Same.refl _ _) (hs1 1 v' _);refine⟨f,h.putS i hi _ (S:=λc=>c=k+100+i) (λc hc=>.inl hc) hf (Same.refl _ _) hwid ⟨ho,vg,v',?_,Qaj hg hf og omQ,og,Qbo hq hf ho' omQ,ho'⟩,hf.mono λ_ _=>trivial,Same.refl _ _⟩;have:=Qas (j:=1) (Qas (j:=4) (Qas (j:=2) hb (.int .i64 ((j.sorters[i]).got.length:Int))) (.bool true)) v';exact this
theorem QjQ(h:RJob f w B k jb sb ab j)(hB:B<=w.heap.size)(hf:RFit j)(hfA:∀a∈j.adders,∀p∈a.pipes,p.length<=j.room)(i:Nat)(hi:i<j.width)(hi':i<j.sorters.length)(x:Int)(rest:List Int)(hp:(j.sorters[i]).pipe=x :: rest)(hx:x<0):
  Calls Tryz.prog 46 #[.pointer (some ⟨jb,0,none⟩),.int .i64 (i:Int)] w λen w'=>en=.returned (.int .i64 ((j.sorts i).1:Int))/\RAfter f w B k jb sb ab (j.sorts i).2 w':=by
 have hib:i<sb.length:=by have:=h.lenS;omega
 obtain⟨g1,cs',qa,qc,c4,d1,d2,hq⟩:=h.wayS i hib hi';obtain⟨i0,hi0,hz0,hz1,hz2⟩:=info_parts Tryz.infoChange;have c0:w.cell? ⟨jb,0,none⟩=some (.int .i64 (j.width:Int)):=(Qav h).1;obtain⟨ve,vs0,va,vr,hbx,_⟩:=h.box;have c1:w.cell? ⟨jb,1,none⟩=some (.int .i64 (j.room:Int)):=Qad hbx 1;clear hbx;have hlA:=h.lenA;have hW:=hf.width;have hrm:=hf.room
 have hsrc:j.sorts i=if j.adders.any (λa=>decide (a.waits i=j.room))then(9,j)else(0,{j with adders:=j.adders.map (λa:AdderM=>a.push i barM),sorters:=j.sorters.set i {j.sorters[i]with marked:=(j.sorters[i]).got.length,passed:=true,pipe:=rest}}):=by
  unfold JobM.sorts;rw[List.getElem?_eq_getElem hi'];simp only[hp];rw[if_pos hx]
 have hpl:(j.sorters[i]).pipe.length=rest.length+1:=by rw[hp];rfl
 rw[hpl]at d2;have hq2:=hq;rw[hpl,hp]at hq2
 rcases hq2.addr with⟨_,h0⟩ | ⟨gq,off,rfl⟩
 ·omega
 have d3:w.cell? ⟨gq,off,none⟩=some (.int .i64 x):=hq2.cell 0 (.int .i64 x) rfl
 have hpipe:∀m (hm:m<j.adders.length),∃hip:i<(j.adders[m]).pipes.length,∃g2 ca gp pc va vc b2,WayA w jb g2 ca j.width b2 m gp pc/\w.cell? ⟨gp,i,none⟩=some (.slice va ((j.adders[m]).pipes[i]).length vc):=λm hm=>by
  have hip:i<(j.adders[m]).pipes.length:=by rw[(h.pipes m hm).1];exact hi
  obtain⟨g2,ca,gp,pc,v,hway,a1,_,hqv,_⟩:=h.pipeA m omQ hm i hip omQ;obtain⟨va,vc,rfl⟩:=hqv.shape;exact⟨hip,g2,ca,gp,pc,va,vc,_,hway,a1⟩
 have Hp:=hdQ hpipe;have HPX:=hdQ hp
 have H:=show Hid (_/\_/\_/\_)from And.intro h (And.intro hsrc (And.intro hfA hq2))
 clear hpipe h hsrc hfA hq hq2 hp hf;have hx':x<0:=hx
 have hn0:(((rest.length:Int)+1)==0)=false:=by rw[beq_eq_false_iff_ne];omega
 have hln1:(0:Int)<(rest.length:Int)+1:=omQ;have h1:(i:Int)<(j.width:Int):=omQ;have h2:(0:Int)<=(i:Int):=omQ
 obtain⟨b1,hb1⟩:∃b1,sb[i]=b1:=⟨_,rfl⟩
 rw[hb1]at d1 d2;go_enter Tryz.func46,Tryz.ntmps46;go_wp2;clear c4 d1 d2 d3
 go_loopw [6] (λiv wr=>∃n:Nat,n<=j.width/\iv=.int .i64 (n:Int)/\(∀m (hm:m<j.adders.length),m<n->(j.adders[m]).waits i≠j.room)/\∃q,wr=w.drewN q) (λiv _=>j.width-(intOf iv).toNat)
 case atStart=>exact⟨0,Nat.zero_le _,rfl,λm _ hm=>absurd hm omQ,0,rfl⟩
 case round=>
  obtain⟨n,hn,rfl,hno,q,rfl⟩:=hrel
  by_cases hnl:n<j.width
  ·have hni:(n:Int)<(j.width:Int):=omQ;have hn0:(0:Int)<=(n:Int):=omQ;have hs1:n<j.adders.length:=omQ;obtain⟨hip,g2,ca,gp,pc,va,vc,b2,⟨e5,e2,e1⟩,d4⟩:=Hp.out n hs1;have hwt:=AdderM.waits_at (j.adders[n]) i hip;have Hno:=hdQ hno;clear hno
   by_cases hfl:(j.adders[n]).waits i=j.room
   ·rw[<-hwt,hfl]at d4
    have hf0:((j.room:Int)==(j.room:Int))=true:=by simp
    have hE:j.sorts i=(9,j):=by
     rw[H.out.2.1,if_pos (List.any_eq_true.mpr ⟨_,List.getElem_mem hs1,by simpa using hfl⟩)]
    have HE:=hdQ hE;clear hfl hE hwt;go_wp2
    go_quiet (fail)
    go_wp2;go_ret;rw[HE.out];simp only[World.drewN_drewN];exact⟨rfl,RAfter.same H.out.1 _⟩
   ·have Hfl:=hdQ hfl;rw[<-hwt]at d4
    have hf0:(((j.adders[n]).waits i:Int)==(j.room:Int))=false:=by rw[beq_eq_false_iff_ne];omega
    clear hfl hwt;generalize hln:(j.adders[n]).waits i=ln at d4 hf0;go_wp2
    go_quiet (fail)
    go_wp2
    go_roundw
    case rel=>
     refine⟨n+1,by omega,by go_num,λm hm hmn=>?_,_,rfl⟩
     by_cases c:m=n
     ·subst c;exact Hfl.out
     ·exact Hno.out m hm omQ
    case measure=>simp[intOf];omega
  ·have hni:¬(n:Int)<(j.width:Int):=omQ;have hnw:n=j.width:=omQ
   have hE:j.sorts i=(0,{j with adders:=j.adders.map (λa:AdderM=>a.push i barM),sorters:=j.sorters.set i {j.sorters[i]with marked:=(j.sorters[i]).got.length,passed:=true,pipe:=rest}}):=by
    rw[H.out.2.1,if_neg];intro hany;obtain⟨s,hs,hsl⟩:=List.any_eq_true.mp hany;obtain⟨m,hm,rfl⟩:=List.getElem_of_mem hs;exact hno m hm omQ (by simpa using hsl)
   have HE:=hdQ hE;clear hE
   have HR:=show Hid (RAfter f w B k jb sb ab (j.barA i 0) (w.drewN q))from by
    have:=RAfter.same H.out.1 q
    have e:j.barA i 0=j:=by simp[JobM.barA,firstN]
    rw[e];exact this
   have HA:=show Hid _ from H.out.2.2.1
   clear hno hnw H Hp;go_wp2;clear c0 c1 hni
   go_loopw [7] (λiv wr=>∃n:Nat,n<=j.width/\iv=.int .i64 (n:Int)/\RAfter f w B k jb sb ab (j.barA i n) wr) (λiv _=>j.width-(intOf iv).toNat)
   case atStart=>exact⟨0,Nat.zero_le _,rfl,HR.out⟩
   case round=>
   obtain⟨n,hn,rfl,hA⟩:=hrel;clear HR;obtain⟨f1,hR,hF,hSm⟩:=hA
   by_cases hnl:n<j.width
   ·have hni:(n:Int)<(j.width:Int):=omQ;have hn0:(0:Int)<=(n:Int):=omQ;have hs0:n<j.adders.length:=omQ
    have hs1:n<(j.barA i n).adders.length:=by show n<(firstN _ j.adders n).length;rw[Qax];omega
    have hs2:n<ab.length:=omQ;have hsn:(j.barA i n).adders[n]=j.adders[n]:=Qbe _ j.adders n hs0 hs1;have c0:wr.cell? ⟨jb,0,none⟩=some (.int .i64 (j.width:Int)):=(Qav hR).1
    have hip:i<((j.barA i n).adders[n]).pipes.length:=by rw[(hR.pipes n hs1).1];exact hi
    have hip0:i<(j.adders[n]).pipes.length:=by rw[<-hsn];exact hip
    obtain⟨g2,ca,gp,pc,v,hway,d2,hz2',hq,hk2⟩:=hR.pipeA n hs2 hs1 i hip (by show j.width<=9;omega);have hw2:WayA wr jb g2 ca j.width ab[n] n gp pc:=hway
    have hpe:((j.barA i n).adders[n]).pipes[i]=(j.adders[n]).pipes[i]:=by simp only[hsn]
    rw[hpe]at hq
    have hjn:{j.barA i n with adders:=(j.barA i n).adders.set n (((j.barA i n).adders[n]).push i barM)}=j.barA i (n+1):=by
     have:=QaZ (λa:AdderM=>a.push i barM) j.adders n hs0;rw[hsn]
     show{j with adders:=(firstN (λa:AdderM=>a.push i barM) j.adders n).set n ((j.adders[n]).push i barM)}=_
     rw[this]
     rfl
    have HK:=show Hid (∀wa w5 v',Below wr.heap.size wr wa->qRow w5 B 151 4 v' (((j.adders[n]).pipes[i]).length+1) (chgCells ((j.adders[n]).pipes[i])++chgCells1 barM)->AppQ wa w5 v v'->w5.cell? ⟨gp,i,none⟩=some v/\w5.frozen? ⟨gp,i,none⟩=false/\WayA w5 jb g2 ca j.width ab[n] n gp pc/\WayA (w5.setCell ⟨gp,i,none⟩ v') jb g2 ca j.width ab[n] n gp pc/\RAfter f w B k jb sb ab (j.barA i (n+1)) (w5.setCell ⟨gp,i,none⟩ v'))from λwa w5 v' hba hq5 happ=>by
     rw[hpe]at hk2;obtain⟨a1,a2,a3,a4,f2,hR2,hF2,hS2⟩:=hk2 wa v' w5 barM hba hq5 happ;rw[hjn]at hR2;exact⟨a1,a2,a3,a4,f2,hR2,hF.trans hSm hF2,hSm.trans hS2 hF.size⟩
    have hbs:=HA.out _ (List.getElem_mem hs0) _ (List.getElem_mem hip0);obtain⟨qa,qc,rfl⟩:=hq.shape
    have HQ:=show Hid (qRow wr.drew B 151 4 (.slice qa ((j.adders[n]).pipes[i]).length qc) ((j.adders[n]).pipes[i]).length (chgCells ((j.adders[n]).pipes[i]))/\B<=wr.drew.heap.size/\Below wr.heap.size wr wr.drew)from⟨hq,Nat.le_trans hB hF.size,(Below.refl _ _).drew⟩
    have e5:WayA wr.drew jb g2 ca j.width ab[n] n gp pc:=hw2;have e2:wr.drew.cell? ⟨gp,i,none⟩=some (.slice qa ((j.adders[n]).pipes[i]).length qc):=d2;clear hz2' hq hk2 hR hF hSm hjn d2 hway hw2 hpe hsn;clear hip hs1;generalize chgCells ((j.adders[n]).pipes[i])=xs at HQ HK;generalize((j.adders[n]).pipes[i]).length=ln at HQ HK e2 hbs;generalize ab[n]=b2 at HK e5;clear hs2 hlA;generalize hWW:j.width=W at *;go_wp2;clear c0;refine wp_region_held_drew (S:=λw':World=>WayA w' jb g2 ca W b2 n gp pc) krQ e5 (λhH=>?_);generalize wr.drew=wd at HQ e5 e2 hH ⊢;refine tkQ 0 (.pointer (some ⟨jb,0,none⟩)) hH ?_;refine tkQ 1 (.pointer (some ⟨jb,0,none⟩)) hH ?_;refine tkQ 2 (.pointer (some ⟨jb,5,none⟩)) hH ?_;refine tlQ 3 (.slice (some ⟨g2,0,none⟩) W ca) rfl (by intro v hSw;have s0:=hSw.1;clear hSw;go_simp) hH ?_;refine tkQ 4 (.int .i64 (n:Int)) hH ?_;refine tkQ 5 (.pointer (some ⟨g2,n,none⟩)) hH ?_;refine tlQ 6 (.pointer (some ⟨b2,0,none⟩)) rfl (by intro v hSw;have s0:=hSw.2.1;clear hSw;go_simp) hH ?_;refine tkQ 7 (.pointer (some ⟨b2,0,none⟩)) hH ?_;refine tkQ 8 (.pointer (some ⟨b2,1,none⟩)) hH ?_;refine tlQ 9 (.slice (some ⟨gp,0,none⟩) W pc) rfl (by intro v hSw;have s0:=hSw.2.2;clear hSw;go_simp) hH ?_;refine tkQ 10 (.int .i64 (i:Int)) hH ?_;refine tkQ 11 (.pointer (some ⟨jb,0,none⟩)) hH ?_;refine tkQ 12 (.pointer (some ⟨jb,0,none⟩)) hH ?_;refine tkQ 13 (.pointer (some ⟨jb,5,none⟩)) hH ?_;refine tlQ 14 (.slice (some ⟨g2,0,none⟩) W ca) rfl (by intro v hSw;have s0:=hSw.1;clear hSw;go_simp) hH ?_;refine tkQ 15 (.int .i64 (n:Int)) hH ?_;refine tkQ 16 (.pointer (some ⟨g2,n,none⟩)) hH ?_;refine tlQ 17 (.pointer (some ⟨b2,0,none⟩)) rfl (by intro v hSw;have s0:=hSw.2.1;clear hSw;go_simp) hH ?_;refine tkQ 18 (.pointer (some ⟨b2,0,none⟩)) hH ?_;refine tkQ 19 (.pointer (some ⟨b2,1,none⟩)) hH ?_;refine tlQ 20 (.slice (some ⟨gp,0,none⟩) W pc) rfl (by intro v hSw;have s0:=hSw.2.2;clear hSw;go_simp) hH ?_;refine tkQ 21 (.int .i64 (i:Int)) hH ?_;refine tkQ 22 (.pointer (some ⟨gp,i,none⟩)) hH ?_;refine tkQ 24 (.agg #[.int .i64 (-1),.string ⟨#[]⟩,.int .i64 0,.int .i64 0]) hH ?_;have hba:=(Below.refl wd.heap.size wd).alloc (Nat.le_refl _) (.cells #[.int .i64 (-1),.string ⟨#[]⟩,.int .i64 0,.int .i64 0] 151)
    have e5a:WayA (wd.alloc (.cells #[.int .i64 (-1),.string ⟨#[]⟩,.int .i64 0,.int .i64 0] 151)) jb g2 ca W b2 n gp pc:=⟨(hba.cell (p:=⟨jb,5,none⟩) (Qan e5.1)).trans e5.1,(hba.cell (p:=⟨g2,n,none⟩) (Qan e5.2.1)).trans e5.2.1,(hba.cell (p:=⟨b2,1,none⟩) (Qan e5.2.2)).trans e5.2.2⟩
    have e2a:(wd.alloc (.cells #[.int .i64 (-1),.string ⟨#[]⟩,.int .i64 0,.int .i64 0] 151)).cell? ⟨gp,i,none⟩=some (.slice qa ln qc):=(hba.cell (p:=⟨gp,i,none⟩) (Qan e2)).trans e2;clear hba;refine rdQ [23,25] ?_;refine AllReadyH.cons rfl (λK hK=>?_) (arQ λK hK=>?_)
    focus
     clear hH;go_simp;refine hK.out _ _ e5 (λhH=>?_);clear hK K;refine rdQ [25] ?_
     refine arQ λK hK=>?_
     clear hH;go_simp;refine hK.out _ _ e5a (λhH=>?_);clear hK K
    rotate_left
    focus
     clear hH;go_simp;refine hK.out _ _ e5a (λhH=>?_);clear hK K;refine rdQ [23] ?_
     refine arQ λK hK=>?_
     clear hH;go_simp;refine hK.out _ _ e5a (λhH=>?_);clear hK K
    all_goals
     refine rdQ [26] ?_
     refine arQ λK hK=>?_
     refine QaM rfl ?_;refine QbP _ (.tmp 93) (.tmp 95) 79 rfl B 151 i0 (.agg #[.int .i64 0,.string ⟨#[]⟩,.int .i64 0,.int .i64 0]) 4 40 Tryz.underlying79 hi0 hz0 hz1 hz2 rfl (.slice qa ln qc) ln xs rfl (QcE HQ.out.1 _) ⟨wd.heap.size,0,none⟩ 1 (chgCells1 barM) rfl rfl (by have:=QaC wd (.int .i64 (-1)) (.string ⟨#[]⟩) (.int .i64 0) (.int .i64 0) 151;simpa[chgCells1,barM]using this) (Qcl _) (by omega) (by omega) (by have:=HQ.out.2.1;simp;omega) ?_;intro v' w5 hq5 happ;obtain⟨p5,z5,s5,s6,hN⟩:=HK.out _ w5 v' (HQ.out.2.2.alloc HQ.out.2.2.size _) hq5 happ;refine hK.out _ _ s5 (λhH=>?_);have HN:=hdQ hN;obtain⟨va,vc,rfl⟩:=hq5.shape;clear hK K HQ HK hq5 happ e5a e2a hN;refine tkQ 27 (.pointer (some ⟨gp,i,none⟩)) hH ?_;refine rdQ [28] ?_
     refine arQ λK hK=>?_
     clear hH;go_simp;refine hK.out _ _ s6 (λhH=>?_);clear hK K hH;refine wpAnyH_done krQ ?_ _;clear p5 z5 s5 s6 e5 e2;generalize w5.setCell ⟨gp,i,none⟩ (.slice va (ln+1) vc)=w6 at HN ⊢;go_wp2
     go_roundw
     case rel=>exact⟨n+1,by omega,by go_num,HN.out⟩
     case measure=>simp[intOf];omega
   ·have hni:¬(n:Int)<(j.width:Int):=omQ;have hnw:n=j.width:=omQ
    have e:j.barA i n={j with adders:=j.adders.map (λa:AdderM=>a.push i barM)}:=by
     unfold JobM.barA;rw[Qbf _ j.adders n omQ]
    rw[e]at hR;have c0:wr.cell? ⟨jb,0,none⟩=some (.int .i64 (j.width:Int)):=(Qav hR).1;obtain⟨ho,vg,vq,hb,hg,og,hqq,op⟩:=hR.sorters i hib hi';obtain⟨ga,gc,rfl⟩:=Qaf hg;obtain⟨qa',qc',rfl⟩:=hqq.shape;have hpl':(({j with adders:=j.adders.map (λa:AdderM=>a.push i barM)}:JobM).sorters[i]).pipe.length=rest.length+1:=hpl;rw[hpl']at hqq
    rcases hqq.addr with⟨_,h0⟩ | ⟨gq',off',rfl⟩
    ·omega
    rw[hpl']at hb
    have c3:wr.cell? ⟨b1,0,none⟩=some (.slice ga (j.sorters[i]).got.length gc):=by rw[<-hb1];exact Qad hb 0
    have c9:wr.cell? ⟨b1,1,none⟩=some (.slice (some ⟨gq',off',none⟩) (rest.length+1) qc'):=by rw[<-hb1];exact Qad hb 1
    have c2:wr.cell? ⟨b1,2,none⟩=some (.int .i64 ((j.sorters[i]).marked:Int)):=by rw[<-hb1];exact Qad hb 2
    have c4:wr.cell? ⟨b1,4,none⟩=some (.bool (j.sorters[i]).passed):=by rw[<-hb1];exact Qad hb 4
    have z1:wr.frozen? ⟨b1,1,none⟩=false:=by rw[<-hb1];exact Qab hb 1
    have z2:wr.frozen? ⟨b1,2,none⟩=false:=by rw[<-hb1];exact Qab hb 2
    have z4:wr.frozen? ⟨b1,4,none⟩=false:=by rw[<-hb1];exact Qab hb 4
    have hcap:=hqq.cap
    have hmp:(({j with adders:=j.adders.map (λa:AdderM=>a.push i barM)}:JobM).sorters[i]).pipe.map (Value.int .i64)=.int .i64 x :: rest.map (Value.int .i64):=by
     show(j.sorters[i]).pipe.map (Value.int .i64)=_
     rw[HPX.out]
     rfl
    rw[hmp]at hqq
    have hend:∀v':Value,qRow wr B 3 1 v' rest.length (rest.map (Value.int .i64))->(∀g,v'.ownBlock=some g->some gq'=some g)->RAfter f w B k jb sb ab (j.sorts i).2 (((wr.setCell ⟨b1,2,none⟩ (.int .i64 ((j.sorters[i]).got.length:Int))).setCell ⟨b1,4,none⟩ (.bool true)).setCell ⟨b1,1,none⟩ v'):=λv' hqv hov=>by
     have hh:=hR.sorterBar i hib hi' (by show j.width<=9;omega) v' rest hqv (.slice (some ⟨gq',off',none⟩) (rest.length+1) qc') (by rw[hb1];exact c9) hov;rw[hb1]at hh;rw[HE.out];obtain⟨f2,hR2,hF2,hS2⟩:=hh;exact⟨f2,hR2,hF.trans hSm hF2,hSm.trans hS2 hF.size⟩
    have HT1:=show Hid _ from hend _ (hqq.tail (.inl rfl)) (λg hg=>hg)
    have HT2:=show Hid (qc'=1->_)from λe:qc'=1=>hend (.slice (some ⟨gq',off',none⟩) rest.length 0) (by have:=hqq.tail (off':=off') (.inr ⟨e,rfl⟩);rw[e]at this;exact this) (λg hg=>hg)
    have hE1:(j.sorts i).1=0:=by rw[HE.out]
    have HE1:=hdQ hE1;clear hE1 hend hqq hb hg og op ho hR hF hSm HE hmp;go_wp2
    all_goals
     go_ret
    ·exact⟨by rw[HE1.out];rfl,HT2.out omQ⟩
    ·exact⟨by rw[HE1.out];rfl,HT1.out⟩
end
end
section
open Go.RowKit
section
variable {f:Owners} {w:World} {B k jb:Nat} {sb ab:List Nat} {j:JobM}
theorem Qlb(h:RJob f w B k jb sb ab j)(rs:List RowV)(hl:rs.length=j.rows.length)(hc:rowmCells j.rows=rowCells rs)(hlen:rs.length<=1000)(hb:∀r∈rs,TB r):
  Calls Tryz.prog 29 #[.pointer (some ⟨jb,0,none⟩)] w λen w'=>en=.returned (.string ⟨((placed rs rs.length).flatten).toArray⟩)/\Below w.heap.size w w':=by
 obtain⟨ve,vs,va,vr,hbx,_,_,_,_,_,_,hr,_⟩:=h.box;obtain⟨ra,rc,rfl⟩:=Qaf hr;rw[<-hl,hc]at hr;have c12:w.cell? ⟨jb,12,none⟩=some (.slice ra j.rows.length rc):=Qad hbx 12;rw[<-hl]at c12
 have HT:=show Hid _ from λ(_:Unit)=>Qf8 B ra rc rs w hlen hr hb
 clear h hbx hr hb hc hl;go_enter Tryz.func29,Tryz.ntmps29
 go_wp2_with(go_at_call 42;refine(HT.out ()).mono ?_;rintro en w1 ⟨rfl,hB1⟩)
 go_ret;exact⟨rfl,hB1⟩
end
end
end Go.Proofs.YthccpacmklhejabGreatDoor
