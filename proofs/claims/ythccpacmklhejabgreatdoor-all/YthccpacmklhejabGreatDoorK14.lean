import Derived.Test.YthccpacmklhejabGreatDoorTk
import Derived.Test.YthccpacmklhejabGreatDoorK12
import Derived.Test.YthccpacmklhejabGreatDoorK13
import Derived.Test.YthccpacmklhejabGreatDoorK10
import Derived.Test.YthccpacmklhejabGreatDoorK11
set_option maxHeartbeats 2000000
set_option maxRecDepth 100000
namespace Go.Proofs.YthccpacmklhejabGreatDoor
section
open Go.RowKit
theorem QdH{key:ByteArray}(h:validB key=true):(Utf8.decode key 0).1=(grp key).1:=by
 unfold validB at h;simp only[Bool.and_eq_true,decide_eq_true_eq]at h;have h0:0<key.size:=omQ;unfold grp ptS;split
 ·rename_i hb
  have:=(Qei key (key.size-1) 0 h0).1 (by unfold ptS;rw[if_pos hb]);rw[show key.size-1+1=key.size by omega,h.2]at this;cases this
 ·rfl
def dLive(es:List Ev)(e:Ev):Int:=fLive ((knOf e.key es).step e)-fLive (knOf e.key es)
def dSum(es:List Ev)(e:Ev):Int:=wrap16 (fSum ((knOf e.key es).step e)-fSum (knOf e.key es))
theorem Qbx(k:Kn):0<=fLive k/\fLive k<=1:=by unfold fLive;split<;>omega
theorem Qf0{es:List Ev}{e:Ev}(h:(knOf e.key es).counts e=true):(madeE e).live=fLive ((knOf e.key es).step e)/\(madeE e).value=fSum ((knOf e.key es).step e):=by
 have:=QdD h;rw[<-this];unfold entOf;rw[QaW,if_pos rfl];exact⟨rfl,rfl⟩
theorem Qf1(es:List Ev)(e:Ev):cntE (entsOf es) e=(knOf e.key es).counts e:=by
 unfold cntE
 by_cases hm:e.key∈keysOf es
 ·obtain⟨hl,hp⟩:=QdE hm;rw[dif_pos hl,hp];unfold Kn.counts entOf;rw[QlJ hm]
  rfl
 ·rw[dif_neg (by rw[Qda hm];omega),Qbu hm]
theorem Qkx(es:List Ev)(key:ByteArray):(oldE (entsOf es) key).live=fLive (knOf key es)/\(oldE (entsOf es) key).value=fSum (knOf key es):=by
 unfold oldE
 by_cases hm:key∈keysOf es
 ·obtain⟨hl,hp⟩:=QdE hm;rw[List.getElem?_eq_getElem hl,hp];exact⟨rfl,rfl⟩
 ·rw[List.getElem?_eq_none (by rw[Qda hm];omega),Qc7 hm];exact⟨rfl,rfl⟩
theorem Qky{es:List Ev}{e:Ev}(h:(knOf e.key es).counts e=true):putE (entsOf es) e.key (madeE e)=entsOf (es++[e]):=by
 unfold putE
 by_cases hm:e.key∈keysOf es
 ·obtain⟨hl,_⟩:=QdE hm;rw[if_pos hl,Qi9 hm h]
 ·rw[if_neg (by rw[Qda hm];omega),Qi8 hm]
theorem QdU(es:List Ev):(entsOf es).length<=es.length:=by
 have:(keysOf es).length<=es.length:=by
  induction es using QaI with
  | h0=>simp[keysOf]
  | h1 l x ih=>
   by_cases hm:x.key∈keysOf l
   ·rw[Qa7 hm];simp;omega
   ·rw[Qbn hm];simp;omega
 simp[entsOf];omega
theorem QiR(B kb o:Nat)(t:TypeId)(cs:Array Value)(a:Option Addr)(c:Nat)(es:List Ev)(e:Ev)(w:World)(hB:B<=w.heap.size)(hlen:es.length<=900)(hv:validB e.key=true)(hK:KAt B kb o t cs a c (entsOf es) w):
  Calls Tryz.prog 88 #[.pointer (some ⟨kb,o,none⟩),e.value] w λen w'=>en=.returned (.tuple #[if(knOf e.key es).counts e then chgV (grp e.key).1 (dLive es e) (dSum es e)else chgZ,.bool ((knOf e.key es).counts e)])/\∃a' c',KUpd B kb o t cs a c (entsOf es) w a' c' (entsOf (es++[e])) w':=by
 have hdec:=QdH hv;have hv':=hv;unfold validB at hv';simp only[Bool.and_eq_true,decide_eq_true_eq]at hv';have hll:(entsOf es).length<=1000:=Nat.le_trans (QdU es) omQ;have hcnt:=Qf1 es e;obtain⟨ho1,ho2⟩:=Qkx es e.key
 by_cases hc:(knOf e.key es).counts e=true
 ·refine(QlS B kb o t cs a c (entsOf es) e w hB hll hK (hcnt.trans hc) omQ omQ (by rw[ho1];exact Qbx _)).mono ?_;rintro en w' ⟨h1,h2⟩;refine⟨?_,by rw[<-Qky hc];exact h2⟩;rw[h1,hc,hdec,(Qf0 hc).1,(Qf0 hc).2,ho1,ho2]
  rfl
 ·have hc':(knOf e.key es).counts e=false:=by simpa using hc
  refine(QlR B kb o t cs a c (entsOf es) e w hll hK (hcnt.trans hc')).mono ?_;rintro en w' ⟨h1,h2⟩;refine⟨?_,a,c,?_⟩
  ·rw[h1,hc']
   rfl
  ·rw[Qfc hc'];exact(Upd.refl hK).old h2
theorem LAt.apart{B e s kb o t cs a n c xs w}{B' e' s' kb' o' t' cs' a' n' c' xs'}(h:LAt B e s kb o t cs a n c xs w)(h':LAt B' e' s' kb' o' t' cs' a' n' c' xs' w)(hk:kb'≠kb)(he:e'≠e)(h1:t'≠e)(h2:t≠e'){w1:World}(hf:FrmX (Xs kb a n c) w w1):LAt B' e' s' kb' o' t' cs' a' n' c' xs' w1:=by
 refine h'.frm hf (λhx=>?_) (λg hg hx=>?_)
 ·rcases hx with hx | hx
  ·exact hk hx
  ·obtain⟨cur,hc,_⟩:=QaO h.own hx;rw[h'.box]at hc;simp only[Option.some.injEq,Obj.cells.injEq]at hc;exact h1 hc.2.1
 ·obtain⟨cur,hc,_⟩:=QaO h'.own hg
  rcases hx with hx | hx
  ·subst hx;rw[h.box]at hc;simp only[Option.some.injEq,Obj.cells.injEq]at hc;exact h2 hc.2.1
  ·obtain⟨cur2,hc2,_⟩:=QaO h.own hx;rw[hc]at hc2;simp only[Option.some.injEq,Obj.cells.injEq]at hc2;exact he hc2.2.1
theorem QhR{g:ByteArray->Int}{ks:List ByteArray}(h:∀k∈ks,0<=g k/\g k<=1):0<=sumK g ks/\sumK g ks<=ks.length:=by
 induction ks with
 | nil=>simp[sumK]
 | cons k ks ih=>
  have h1:=h k (by simp)
  have h2:=ih λx hx=>h x (by simp[hx])
  simp only[sumK,List.length_cons];omega
theorem Qgi(es:List Ev):(keysOf es).length<=es.length:=by
 induction es using QaI with
 | h0=>simp[keysOf]
 | h1 l x ih=>
  by_cases hm:x.key∈keysOf l
  ·rw[Qa7 hm];simp;omega
  ·rw[Qbn hm];simp;omega
theorem Qjj(p:Nat)(ps:List Nat):(ins p ps).length<=ps.length+1:=by
 induction ps with
 | nil=>simp[ins]
 | cons q qs ih=>
  unfold ins;split
  ·simp only[List.length_cons];omega
  ·split<;>simp
theorem Qa2(es:List Ev):(ptsOf es).length<=es.length:=by
 induction es using QaI with
 | h0=>simp[ptsOf]
 | h1 l x ih=>
  rw[QbK];have:=Qjj (grp x.key).1 (ptsOf l);simp;omega
theorem QcM{es:List Ev}(hl:es.length<=900):∀r∈tabOf es,GB r:=by
 intro r hr;obtain⟨p,_,rfl⟩:=List.mem_map.1 hr
 have h1:=QhR (g:=λk=>if(grp k).1=p then fLive (knOf k es)else 0) (ks:=keysOf es) (λk _=>by
  have:=Qbx (knOf k es)
  split<;>omega)
 have h2:=Qgi es;have h3:(gvOf es p).live=sumK (λk=>if(grp k).1=p then fLive (knOf k es)else 0) (keysOf es):=rfl;refine⟨by rw[h3];omega,QbZ _,?_⟩;unfold gvOf;simp only;omega
theorem Qfi(es:List Ev):(tabOf es).flatMap gText=foldB es:=by
 have h:∀p,gText (gvOf es p)=textAt p (tot fLive es p) (tot fSum es p) (tot fCnt es p):=by
  intro p;unfold gText gvOf textAt
  with_reducible rfl
 unfold tabOf foldB;rw[List.flatMap_map];exact congrArg (λf=>(ptsOf es).flatMap f) (funext h)
def FSt(w:World)(es:List Ev)(wr:World):Prop:=
 (∃a c,KAt w.heap.size w.heap.size 0 107 #[.slice a (entsOf es).length c] a c (entsOf es) wr)/\(∃a c xs,xs.map (λx:GX=>x.v)=tabOf es/\GAt w.heap.size (w.heap.size+1) 0 57 #[.slice a xs.length c] a c xs wr)/\Below w.heap.size w wr
theorem QeT{w:World}{kb:Nat}{a:Option Addr}{n c B:Nat}{e:TypeId}{s:Nat}{xs:List Value}(hk:B<=kb)(ho:w.ownsRow B e s (.slice a n c) n xs):∀g,Xs kb a n c g->B<=g:=λg hg=>by
 rcases hg with h | h
 ·omega
 ·exact(Qah ho g h).1
theorem Qkz(a:Option Addr)(cap:Nat)(es:List Ev)(w:World)(hlen:es.length<=400)(hev:IsEvs w a es)(hv:∀e∈es,validB e.key=true)(ht:Tab w):
  Calls Tryz.prog 65 #[.slice a es.length cap] w λen w'=>en=.returned (.string ⟨(foldB es).toArray⟩)/\Below w.heap.size w w':=by
 have Hev:=show Hid (IsEvs w a es/\(∀e∈es,validB e.key=true)/\Tab w)from⟨hev,hv,ht⟩
 clear hev hv ht
 have H0:=show Hid (FSt w [] ((w.alloc (.cells #[.slice none 0 0] 107)).alloc (.cells #[.slice none 0 0] 57)))from by
  refine⟨⟨none,0,?_,rfl,by decide,World.ownsRow_nil _ _ _ _⟩,⟨none,0,[],rfl,?_,rfl,by decide,World.ownsRow_nil _ _ _ _⟩,((Below.refl _ _).alloc (Nat.le_refl _) _).alloc (by simp) _⟩
  ·rw[Below.heap_alloc _ _ _ (by simp)];exact heap_alloc_new w _
  ·have:=heap_alloc_new (w.alloc (.cells #[.slice none 0 0] 107)) (.cells #[.slice none 0 0] 57);rw[World.size_alloc]at this;exact this
 go_enter Tryz.func65,Tryz.ntmps65;go_wp2
 go_loopw [5] (λi wr=>∃j:Nat,j<=es.length/\i=.int .i64 (j:Int)/\FSt w (es.take j) wr) (λi _=>es.length-(intOf i).toNat)
 case atStart=>exact⟨0,Nat.zero_le _,rfl,H0.out⟩
 case round=>
  obtain⟨j,hj,rfl,hS⟩:=hrel;clear H0
  by_cases hjl:j<es.length
  ·obtain⟨hev,hv,ht⟩:=Hev.out
   rcases hev.2 with h0 | ⟨b,off,rfl,hbl,hcs⟩
   ·rw[h0]at hjl;simp at hjl
   obtain⟨d0,d1,d2,d3⟩:=hcs j hjl;have hvj:=hv _ (List.getElem_mem hjl);have hnx:es.take (j+1)=es.take j++[es[j]'hjl]:=List.take_succ_eq_append_getElem hjl;have hok:=hev.1 (es[j]'hjl) (List.getElem_mem hjl);obtain⟨⟨a1,c1,hK⟩,⟨a2,c2,xs,hxs,hG⟩,hbr⟩:=hS
   have hl:(es.take j).length<=900:=by rw[List.length_take];omega
   have hxl:xs.length=(tabOf (es.take j)).length:=by rw[<-hxs,List.length_map]
   have hto:xs.length<=1000:=by
    rw[hxl];unfold tabOf;rw[List.length_map];have:=Qa2 (es.take j);omega
   have hdl:-1<=dLive (es.take j) (es[j]'hjl)/\dLive (es.take j) (es[j]'hjl)<=1:=by
    unfold dLive;have h1:=Qbx ((knOf (es[j]'hjl).key (es.take j)).step (es[j]'hjl));have h2:=Qbx (knOf (es[j]'hjl).key (es.take j));omega
   have hrb:∀r∈xs,-100000<=r.v.live/\r.v.live<=100000:=λr hr=>(QcM hl r.v (by rw[<-hxs];exact List.mem_map.2 ⟨r,hr,rfl⟩)).1
   have HA:=show Hid _ from λ(w':World) (hB:w.heap.size<=w'.heap.size) (h:GAt w.heap.size (w.heap.size+1) 0 57 #[.slice a2 xs.length c2] a2 c2 xs w')=>QiQ w.heap.size (w.heap.size+1) 0 57 #[.slice a2 xs.length c2] a2 c2 xs (grp (es[j]'hjl).key).1 (dLive (es.take j) (es[j]'hjl)) (dSum (es.take j) (es[j]'hjl)) w' hB hto h hdl hrb
   have HT:=show Hid _ from λ(_:Unit)=>QiR w.heap.size w.heap.size 0 107 #[.slice a1 (entsOf (es.take j)).length c1] a1 c1 (es.take j) (es[j]'hjl) wr hbr.size hl hvj hK
   have h1:=QgM (es:=es.take j) (e:=es[j]'hjl);have h2:=Qkp (es:=es.take j) (e:=es[j]'hjl)
   have h3:=λl s=>QlT (grp (es[j]'hjl).key).1 l s xs
   rw[hxs]at h3;rw[<-hnx]at HT h1 h2
   have HN:=show Hid (_/\_/\_)from And.intro h1 (And.intro h2 h3)
   have HG:=show Hid (KAt w.heap.size w.heap.size 0 107 #[.slice a1 (entsOf (es.take j)).length c1] a1 c1 (entsOf (es.take j)) wr/\GAt w.heap.size (w.heap.size+1) 0 57 #[.slice a2 xs.length c2] a2 c2 xs wr/\Below w.heap.size w wr/\xs.map (λx:GX=>x.v)=tabOf (es.take j))from⟨hK,hG,hbr,hxs⟩
   clear hG hK hev hv ht hdl hto hl hcs hvj hnx h1 h2 h3 hxs hxl hrb;have q0:=(hbr.cell (p:=⟨b,off+j*4,none⟩) hbl).trans d0;have q1:=(hbr.cell (p:=⟨b,off+j*4+1,none⟩) hbl).trans d1;have q2:=(hbr.cell (p:=⟨b,off+j*4+2,none⟩) hbl).trans d2;have q3:=(hbr.cell (p:=⟨b,off+j*4+3,none⟩) hbl).trans d3;clear d0 d1 d2 d3 hok hbr;have hji:(j:Int)<(es.length:Int):=omQ;have hj0:(0:Int)<=(j:Int):=omQ;unfold dLive dSum at HA HT
   obtain⟨e,he⟩:∃e,es[j]'hjl=e:=⟨_,rfl⟩
   rw[he]at HA HT HN q0 q1 q2 q3;clear he;obtain⟨op,key,seq,val⟩:=e;unfold Ev.value at HT;simp only at HA HT HN q0 q1 q2 q3
   cases hct:(knOf key (es.take j)).counts ⟨op,key,seq,val⟩with
   | false=>
    rw[hct]at HT HN;have hn:=HN.out.2.1 rfl;simp only[Bool.false_eq_true,if_false]at HT;unfold chgZ at HT;clear HN HA
    go_wp2_with(go_at_call 88;refine(HT.out ()).mono ?_;rintro en w2 ⟨rfl,hK2⟩)
    go_roundw
    case rel=>
     obtain⟨a3,c3,hU⟩:=hK2;exact⟨j+1,by omega,by go_num,⟨a3,c3,hU.at'.alloc _⟩,⟨a2,c2,xs,by rw[hn];exact HG.out.2.2.2,(HG.out.1.apart HG.out.2.1 omQ (by decide) (by decide) (by decide) hU.frm).alloc _⟩,(HG.out.2.2.1.trans (hU.frm.below HG.out.2.2.1.size (QeT (Nat.le_refl _) HG.out.1.own))).alloc (Nat.le_trans HG.out.2.2.1.size hU.frm.size) _⟩
    case measure=>simp[intOf];omega
   | true=>
    rw[hct]at HT HN;have hn:=HN.out.1 rfl;simp only[if_true]at HT;unfold chgV at HT
    have Hn:=show Hid (_/\_)from And.intro hn HN.out.2.2
    clear HN hn;generalize fLive ((knOf key (es.take j)).step ⟨op,key,seq,val⟩)-fLive (knOf key (es.take j))=dl at HA HT Hn;generalize wrap16 (fSum ((knOf key (es.take j)).step ⟨op,key,seq,val⟩)-fSum (knOf key (es.take j)))=ds at HA HT Hn;generalize(grp key).1=pt at HA HT Hn
    go_wp2_with(first
     | (go_at_call 88;refine(HT.out ()).mono ?_;rintro en w2 ⟨rfl,hK2⟩;obtain⟨a3,c3,hU⟩:=hK2;have HG2:=show Hid (_/\_/\_)from And.intro (hU.at'.alloc (.cells #[.int .i32 (pt:Int),.int .i64 dl,.int .i16 ds] 157)) (And.intro ((HG.out.1.apart HG.out.2.1 omQ (by decide) (by decide) (by decide) hU.frm).alloc (.cells #[.int .i32 (pt:Int),.int .i64 dl,.int .i16 ds] 157)) ((HG.out.2.2.1.trans (hU.frm.below HG.out.2.2.1.size (QeT (Nat.le_refl _) HG.out.1.own))).alloc (Nat.le_trans HG.out.2.2.1.size hU.frm.size) (.cells #[.int .i32 (pt:Int),.int .i64 dl,.int .i16 ds] 157)));clear hU)
     | (go_at_call 89;refine(HA.out _ HG2.out.2.2.size HG2.out.2.1).mono ?_;rintro en w3 ⟨rfl,hG3⟩))
    go_roundw
    case rel=>
     obtain⟨a4,c4,hU4⟩:=hG3;exact⟨j+1,by omega,by go_num,⟨a3,c3,HG2.out.2.1.apart HG2.out.1 omQ (by decide) (by decide) (by decide) hU4.frm⟩,⟨a4,c4,_,by rw[Hn.out.1,<-Hn.out.2],hU4.at'⟩,HG2.out.2.2.trans (hU4.frm.below HG2.out.2.2.size (QeT omQ HG2.out.2.1.own))⟩
    case measure=>simp[intOf];omega
  ·have hjj:j=es.length:=omQ;subst hjj;rw[List.take_length]at hS;obtain⟨_,⟨a2,c2,xs,hxs,hG⟩,hbr⟩:=hS
   have hto:xs.length<=1000:=by
    have hxl:xs.length=(tabOf es).length:=by rw[<-hxs,List.length_map]
    rw[hxl];unfold tabOf;rw[List.length_map];have:=Qa2 es;omega
   have HX:=show Hid _ from λ(_:Unit)=>QfZ w.heap.size (w.heap.size+1) 0 57 #[.slice a2 xs.length c2] a2 c2 xs wr hto hG (Hev.out.2.2.old hbr) (λr hr=>QcM (es:=es) omQ r.v (by rw[<-hxs];exact List.mem_map.2 ⟨r,hr,rfl⟩))
   rw[Qfh,hxs,Qfi]at HX
   have Hb:=show Hid (Below w.heap.size w wr)from hbr
   clear hG hbr hto hxs
   obtain⟨F,hF⟩:∃F:ByteArray,⟨(foldB es).toArray⟩=F:=⟨_,rfl⟩
   rw[hF]at HX;have HF:=hdQ hF;clear hF
   go_wp2_with(go_at_call 80;refine(HX.out ()).mono ?_;rintro en w2 ⟨rfl,hb2⟩)
   go_ret;exact⟨by rw[HF.out];rfl,Hb.out.trans (hb2.mono Hb.out.size)⟩
theorem Qd3{w:World}{B c:Nat}{a:Option Addr}{es:List Ev}(hown:w.ownsRow B 40 4 (.slice a es.length c) es.length (evCells es))(hok:∀e∈es,e.ok)(k:Nat)(hk:k<=es.length):IsEvs w a (es.take k):=by
 refine⟨λe he=>hok e (List.mem_of_mem_take he),?_⟩
 rcases Qai hown with⟨_,h0⟩ | ⟨g,rfl⟩
 ·left
  rw[List.length_eq_zero_iff.1 h0];simp
 ·right
  refine⟨g,0,rfl,(Qbt hown).2,λj hj=>?_⟩;rw[List.length_take]at hj;have:=QcQ hown j omQ;simp only[Nat.zero_add,List.getElem_take];exact this
theorem Qdp{w:World}{B c n:Nat}{a:Option Addr}{e:TypeId}{s:Nat}{xs:List Value}(hown:w.ownsRow B e s (.slice a n c) n xs):n<=c:=by
 rcases hown.2 with⟨h,h0⟩ | ⟨g,cap,cur,h,_,_,h3,_⟩
 ·omega
 ·simp at h;omega
theorem QkA(s:ByteArray)(n:Int)(w:World)(h:400<s.size):
  Calls Tryz.prog 41 #[.string s,.int .i64 n] w λen w'=>en=.returned (.tuple #[.string ⟨#[]⟩,.int .i64 1])/\Below w.heap.size w w':=by
 go_enter Tryz.func41,Tryz.ntmps41
 go_wp2_with(go_at_call 32;refine(Qc4 s _ h).mono ?_;rintro e w1 ⟨rfl,hb⟩)
 go_ret2
 exact⟨rfl,hb⟩
theorem Qbh(s:ByteArray)(n:Nat):((errOf s n:Int)==1)=false:=by
 unfold errOf
 split<;>rfl
theorem QcC{es:List Ev}(h:∀e∈es,Good e):(∀e∈es,e.ok)/\(∀e∈es,validB e.key=true)/\∀e∈es,0<e.key.size/\e.key.size<=1000:=by
 refine⟨λe he=>(h e he).2,λe he=>(QbB (h e he).1).2.2.2.1,λe he=>?_⟩;have:=QbB (h e he).1;omega
theorem QlU(s:ByteArray)(n:Int)(w:World)(h:s.size<=400)(es:List Ev)(m:Nat)(hp:Parsed s es m)(hn:n<0\/(es.length:Int)<n):
  Calls Tryz.prog 41 #[.string s,.int .i64 n] w λen w'=>en=.returned (.tuple #[.string ⟨#[]⟩,.int .i64 3])/\Below w.heap.size w w':=by
 have hD:=show Hid _ from λw=>QbD s w h
 by_cases h0:n<0
 ·have h0d:decide (n<0)=true:=decide_eq_true h0;clear hn;go_enter Tryz.func41,Tryz.ntmps41
  go_wp2_with(go_at_call 32;refine(hD.out _).mono ?_;rintro e w1 ⟨v,es',m',r,rfl,hP,hown,hb⟩;obtain⟨rfl,rfl⟩:=Parsed.unique hp hP.out.1;have hr:((r:Int)==1)=false:=(by rw[hP.out.2];exact Qbh s m);obtain⟨a,c,rfl⟩:=Qaf hown)
  go_ret2
  exact⟨rfl,hb⟩
 ·have h1:(es.length:Int)<n:=omQ;clear hn;go_enter Tryz.func41,Tryz.ntmps41
  go_wp2_with(go_at_call 32;refine(hD.out _).mono ?_;rintro e w1 ⟨v,es',m',r,rfl,hP,hown,hb⟩;obtain⟨rfl,rfl⟩:=Parsed.unique hp hP.out.1;have hr:((r:Int)==1)=false:=(by rw[hP.out.2];exact Qbh s m);obtain⟨a,c,rfl⟩:=Qaf hown)
  go_ret2
  exact⟨rfl,hb⟩
theorem QmL(s:ByteArray)(k:Nat)(w:World)(h:s.size<=400)(es:List Ev)(m:Nat)(hp:Parsed s es m)(hk:k<=es.length)(ht:Tab w):
  Calls Tryz.prog 41 #[.string s,.int .i64 (k:Int)] w λen w'=>en=.returned (.tuple #[.string ⟨(foldB (es.take k)).toArray⟩,.int .i64 0])/\Below w.heap.size w w':=by
 have hD:=show Hid _ from λw=>QbD s w h
 have h0:¬((k:Int)<0):=omQ;have h1:¬((es.length:Int)<(k:Int)):=omQ;have hf:=hp.few;have hg:=QcC hp.good
 have HX:Hid (∀(a:Option Addr) (c:Nat) (w1:World),w1.ownsRow w.heap.size 40 4 (.slice a es.length c) es.length (evCells es)->Below w.heap.size w w1->Calls Tryz.prog 65 #[.slice a k c] w1 λen w'=>en=.returned (.string ⟨(foldB (es.take k)).toArray⟩)/\Below w.heap.size w w'):=by
  intro a c w1 ho hb
  have hlk:(es.take k).length=k:=by rw[List.length_take];omega
  have:=Qkz a c (es.take k) w1 omQ (Qd3 ho hg.1 k hk) (λe he=>hg.2.1 e (List.mem_of_mem_take he)) (ht.old hb);rw[hlk]at this
  exact this.mono λen w' ⟨h1,h2⟩=>⟨h1,hb.trans (h2.mono hb.size)⟩
 clear hg hf ht
 obtain⟨F,hF⟩:∃F:ByteArray,⟨(foldB (es.take k)).toArray⟩=F:=⟨_,rfl⟩
 rw[hF]at HX ⊢;clear hF;go_enter Tryz.func41,Tryz.ntmps41
 go_wp2_with(first
  | (go_at_call 32;refine(hD.out _).mono ?_;rintro e w1 ⟨v,es',m',r,rfl,hP,hown,hb⟩;obtain⟨rfl,rfl⟩:=Parsed.unique hp hP.out.1;have hr:((r:Int)==1)=false:=(by rw[hP.out.2];exact Qbh s m);obtain⟨a,c,rfl⟩:=Qaf hown;have hcp:=Qdp hown;have hkc:(k:Int)<=(c:Int):=omQ;have hk0:(0:Int)<=(k:Int):=omQ;have Ho:=show Hid (_/\_)from And.intro hown hb;clear hown hb hP)
  | (go_at_call 65;refine(HX.out a c w1 Ho.out.1 Ho.out.2).mono ?_;rintro e w2 ⟨rfl,hb2⟩))
 all_goals go_ret2
 all_goals exact⟨rfl,hb2⟩
theorem QeU{s:ByteArray}{n:Int}{w:World}{t:ByteArray}{r:Int}(h:Calls Tryz.prog 41 #[.string s,.int .i64 n] w λen w'=>en=.returned (.tuple #[.string t,.int .i64 r])/\Below w.heap.size w w'):
  Calls Tryz.prog 18 #[.string s,.int .i64 n] w λen w'=>en=.returned (.tuple #[.string t,.int .i64 r])/\Below w.heap.size w w':=by
 have H:Hid (Calls Tryz.prog 41 #[.string s,.int .i64 n] w λen w'=>en=.returned (.tuple #[.string t,.int .i64 r])/\Below w.heap.size w w'):=h;clear h;go_enter Tryz.func18,Tryz.ntmps18
 go_wp2_with(go_at_call 41;refine H.out.mono ?_;rintro e w1 ⟨rfl,hb⟩)
 go_ret2
 exact⟨rfl,hb⟩
structure CM where
 W:Nat
 R:Nat
 evs:List Ev
 sent:Nat
 sp:Nat->List ItemV
 sk:Nat->List EV
 ap:Nat->Nat->List ItemV
 st:Nat->Nat->Bool
 tb:Nat->List GX
 state:Nat
 off:Nat
 laid:Nat
 ready:List GX
 last:Nat
 view:List GX
 offset:Nat
structure Fx where
 jb:Nat
 sb:Nat
 ab:Nat
 cS:Nat
 cA:Nat
 ib:Nat->Nat
 cI:Nat->Nat
def updF{α:Type}(f:Nat->α)(i:Nat)(x:α):Nat->α:=λy=>if y=i then x else f y
def updF2{α:Type}(f:Nat->Nat->α)(i q:Nat)(x:α):Nat->Nat->α:=λy z=>if y=i/\z=q then x else f y z
theorem QaQ{α:Type}(f:Nat->α)(i:Nat)(x:α):updF f i x i=x:=if_pos rfl
theorem Qa0{α:Type}{f:Nat->α}{i y:Nat}{x:α}(h:y≠i):updF f i x y=f y:=if_neg h
theorem Qbc{α:Type}(f:Nat->Nat->α)(i q:Nat)(x:α):updF2 f i q x i q=x:=if_pos ⟨rfl,rfl⟩
theorem QaK{α:Type}{f:Nat->Nat->α}{i q y z:Nat}{x:α}(h:y≠i\/z≠q):updF2 f i q x y z=f y z:=if_neg omQ
def Leaf(r:Rw)(ty:TypeId)(sz n:Nat)(xs:List Value):Prop:=r.ty=ty/\r.sz=sz/\r.n=n/\r.xs=xs
def jobXs(m:CM)(v3 v1 v2 v4 v5:Value):List Value:=[v3,.int .i64 (m.sent:Int),v1,v2,.int .i64 (m.state:Int),.int .i64 (m.off:Int),.int .i64 (m.laid:Int),v4,.int .i64 (m.last:Int),v5,.int .i64 (m.offset:Int)]
structure Spec (L:Nat->Rw) (F:Fx) (m:CM):Prop where
 w4:1<=m.W/\m.W<=4
 job:(L 0).ty=65/\(L 0).v=.slice (some ⟨F.jb,0,none⟩) 1 1/\(L 0).xs=jobXs m (L 3).v (L 1).v (L 2).v (L 4).v (L 5).v
 sr:(L 1).ty=109/\(L 1).v=.slice (some ⟨F.sb,0,none⟩) m.W F.cS/\∀i,i<m.W->(L 1).xs[i*3]? =some (.int .i64 (m.R:Int))/\(L 1).xs[i*3+1]? =some (L (10+i)).v/\(L 1).xs[i*3+2]? =some (L (20+i)).v
 ar:(L 2).ty=113/\(L 2).v=.slice (some ⟨F.ab,0,none⟩) m.W F.cA/\∀i,i<m.W->(L 2).xs[i*2]? =some (L (30+i)).v/\(L 2).xs[i*2+1]? =some (L (40+i)).v
 ev:Leaf (L 3) 40 4 m.evs.length (evCells m.evs)
 rd:Leaf (L 4) 175 5 m.ready.length (gCells m.ready)
 vw:Leaf (L 5) 175 5 m.view.length (gCells m.view)
 sp:∀i,i<m.W->Leaf (L (10+i)) 164 8 (m.sp i).length (itCells (m.sp i))
 sk:∀i,i<m.W->Leaf (L (20+i)) 182 4 (m.sk i).length (entCells (m.sk i))
 il:∀i,i<m.W->(L (30+i)).ty=128/\(L (30+i)).v=.slice (some ⟨F.ib i,0,none⟩) m.W (F.cI i)/\∀q,q<m.W->(L (30+i)).xs[q*3]? =some (.int .i64 (m.R:Int))/\(L (30+i)).xs[q*3+1]? =some (L (100+10*i+q)).v/\(L (30+i)).xs[q*3+2]? =some (.bool (m.st i q))
 tb:∀i,i<m.W->Leaf (L (40+i)) 175 5 (m.tb i).length (gCells (m.tb i))
 ap:∀i q,i<m.W->q<m.W->Leaf (L (100+10*i+q)) 164 8 (m.ap i q).length (itCells (m.ap i q))
def CLX(F:Fx)(X:Nat->Prop)(w:World)(m:CM):Prop:=∃L,Lay w L/\Spec L F m/\X=LX L
def Aft(F:Fx)(X:Nat->Prop)(w:World)(m':CM)(w':World):Prop:=∃X':Nat->Prop,CLX F X' w' m'/\FrmX X w w'/\∀g,X' g->X g\/w.heap.size<=g
section
variable {F:Fx} {X:Nat->Prop} {w w1 w2:World} {m m1 m2:CM}
theorem CLX.lt(h:CLX F X w m):∀g,X g->g<w.heap.size:=by
 obtain⟨L,hl,_,rfl⟩:=h
 exact λg hg=>hl.lt hg
theorem CLX.frm{Z:Nat->Prop}(h:CLX F X w m)(hf:FrmX Z w w1)(hz:∀g,X g->¬Z g):CLX F X w1 m:=by
 obtain⟨L,hl,hs,rfl⟩:=h;exact⟨L,hl.frm hf hz,hs,rfl⟩
theorem CLX.below(h:CLX F X w m)(hb:Below w.heap.size w w1):CLX F X w1 m:=h.frm (FrmX.of_below (X:=λ_=>False) hb) λ_ _ h=>h
theorem CLX.drewN(h:CLX F X w m)(k:Nat):CLX F X (w.drewN k) m:=by
 obtain⟨L,hl,hs,rfl⟩:=h;exact⟨L,hl.drewN k,hs,rfl⟩
theorem CLX.drew(h:CLX F X w m):CLX F X w.drew m:=by
 obtain⟨L,hl,hs,rfl⟩:=h;exact⟨L,hl.drew,hs,rfl⟩
theorem CLX.w4(h:CLX F X w m):1<=m.W/\m.W<=4:=by
 obtain⟨L,hl,hs,rfl⟩:=h;exact hs.w4
theorem CLX.aft(h:CLX F X w m):Aft F X w m w:=⟨X,h,FrmX.refl _ _,λ_ h=>.inl h⟩
theorem Aft.below(h:Aft F X w m w1)(hb:Below w1.heap.size w1 w2):Aft F X w m w2:=by
 obtain⟨X',h1,h2,h3⟩:=h;exact⟨X',h1.below hb,h2.old hb,h3⟩
theorem Aft.drewN(h:Aft F X w m w1)(k:Nat):Aft F X w m (w1.drewN k):=by
 obtain⟨X',h1,h2,h3⟩:=h;exact⟨X',h1.drewN k,h2.drewN k,h3⟩
theorem Aft.next(h:Aft F X w m1 w1)(k:∀X',CLX F X' w1 m1->Aft F X' w1 m2 w2):Aft F X w m2 w2:=by
 obtain⟨X1,h1,h2,h3⟩:=h;obtain⟨X2,k1,k2,k3⟩:=k X1 h1;refine⟨X2,k1,h2.trans k2 (λg hg hx=>(h3 g hx).resolve_right omQ),λg hg=>?_⟩
 rcases k3 g hg with a | a
 ·exact h3 g a
 ·exact .inr (Nat.le_trans h2.size a)
theorem Aft.from(h:Aft F X w1 m1 w2)(hb:Below w.heap.size w w1):Aft F X w m1 w2:=by
 obtain⟨X',h1,h2,h3⟩:=h;exact⟨X',h1,(FrmX.of_below hb).trans h2 λ_ _ h=>h,λg hg=>(h3 g hg).imp id (Nat.le_trans hb.size)⟩
theorem Aft.then{X1:Nat->Prop}(h2:FrmX X w w1)(h3:∀g,X1 g->X g\/w.heap.size<=g)(k:Aft F X1 w1 m2 w2):Aft F X w m2 w2:=by
 obtain⟨X2,k1,k2,k3⟩:=k;refine⟨X2,k1,h2.trans k2 (λg hg hx=>(h3 g hx).resolve_right omQ),λg hg=>?_⟩
 rcases k3 g hg with a | a
 ·exact h3 g a
 ·exact .inr (Nat.le_trans h2.size a)
theorem CLX.jobCells(h:CLX F X w m):∃v3 v4 v5,w.cell? ⟨F.jb,0,none⟩=some v3/\w.cell? ⟨F.jb,1,none⟩=some (.int .i64 (m.sent:Int))/\w.cell? ⟨F.jb,2,none⟩=some (.slice (some ⟨F.sb,0,none⟩) m.W F.cS)/\w.cell? ⟨F.jb,3,none⟩=some (.slice (some ⟨F.ab,0,none⟩) m.W F.cA)/\w.cell? ⟨F.jb,4,none⟩=some (.int .i64 (m.state:Int))/\w.cell? ⟨F.jb,5,none⟩=some (.int .i64 (m.off:Int))/\w.cell? ⟨F.jb,6,none⟩=some (.int .i64 (m.laid:Int))/\w.cell? ⟨F.jb,7,none⟩=some v4/\w.cell? ⟨F.jb,8,none⟩=some (.int .i64 (m.last:Int))/\w.cell? ⟨F.jb,9,none⟩=some v5/\w.cell? ⟨F.jb,10,none⟩=some (.int .i64 (m.offset:Int))/\w.ownsRow 0 40 4 v3 m.evs.length (evCells m.evs):=by
 obtain⟨L,hl,hs,rfl⟩:=h;obtain⟨_,j2,j3⟩:=hs.job
 have key:∀o u,(jobXs m (L 3).v (L 1).v (L 2).v (L 4).v (L 5).v)[o]? =some u->w.cell? ⟨F.jb,o,none⟩=some u:=λo u ho=>(hl.at (by rw[j3];exact ho) j2).1
 have ho:=hl.own 3;rw[hs.ev.1,hs.ev.2.1,hs.ev.2.2.1,hs.ev.2.2.2]at ho;exact⟨(L 3).v,(L 4).v,(L 5).v,key 0 _ rfl,key 1 _ rfl,by rw[<-hs.sr.2.1];exact key 2 _ rfl,by rw[<-hs.ar.2.1];exact key 3 _ rfl,key 4 _ rfl,key 5 _ rfl,key 6 _ rfl,key 7 _ rfl,key 8 _ rfl,key 9 _ rfl,key 10 _ rfl,ho⟩
theorem CLX.jobFrozen(h:CLX F X w m)(o:Nat)(ho:o<11):w.frozen? ⟨F.jb,o,none⟩=false:=by
 obtain⟨L,hl,hs,rfl⟩:=h;obtain⟨_,j2,j3⟩:=hs.job
 have hlen:o<(L 0).xs.length:=by rw[j3];exact ho
 exact(hl.at (List.getElem?_eq_getElem hlen) j2).2
theorem CLX.rows(h:CLX F X w m):F.jb<w.heap.size/\F.sb<w.heap.size/\F.ab<w.heap.size/\(∀i,i<m.W->F.ib i<w.heap.size):=by
 obtain⟨L,hl,hs,rfl⟩:=h;refine⟨hl.lt ⟨0,by rw[hs.job.2.1];rfl⟩,hl.lt ⟨1,by rw[hs.sr.2.1];rfl⟩,hl.lt ⟨2,by rw[hs.ar.2.1];rfl⟩,λi hi=>hl.lt ⟨30+i,by rw[(hs.il i hi).2.1];rfl⟩⟩
theorem CLX.sorterCells(h:CLX F X w m)(i:Nat)(hi:i<m.W):w.cell? ⟨F.sb,i*3,none⟩=some (.int .i64 (m.R:Int))/\w.frozen? ⟨F.sb,i*3,none⟩=false/\w.frozen? ⟨F.sb,i*3+1,none⟩=false/\w.frozen? ⟨F.sb,i*3+2,none⟩=false:=by
 obtain⟨L,hl,hs,rfl⟩:=h;obtain⟨s1,s2,s3⟩:=hs.sr.2.2 i hi;exact⟨(hl.at s1 hs.sr.2.1).1,(hl.at s1 hs.sr.2.1).2,(hl.at s2 hs.sr.2.1).2,(hl.at s3 hs.sr.2.1).2⟩
theorem CLX.adderCells(h:CLX F X w m)(i:Nat)(hi:i<m.W):w.cell? ⟨F.ab,i*2,none⟩=some (.slice (some ⟨F.ib i,0,none⟩) m.W (F.cI i))/\w.frozen? ⟨F.ab,i*2+1,none⟩=false:=by
 obtain⟨L,hl,hs,rfl⟩:=h;obtain⟨s1,s2⟩:=hs.ar.2.2 i hi;rw[(hs.il i hi).2.1]at s1;exact⟨(hl.at s1 hs.ar.2.1).1,(hl.at s2 hs.ar.2.1).2⟩
theorem CLX.inletCells(h:CLX F X w m)(i q:Nat)(hi:i<m.W)(hq:q<m.W):w.cell? ⟨F.ib i,q*3,none⟩=some (.int .i64 (m.R:Int))/\w.cell? ⟨F.ib i,q*3+2,none⟩=some (.bool (m.st i q))/\w.frozen? ⟨F.ib i,q*3+2,none⟩=false:=by
 obtain⟨L,hl,hs,rfl⟩:=h;obtain⟨s1,s2,s3⟩:=(hs.il i hi).2.2 q hq;exact⟨(hl.at s1 (hs.il i hi).2.1).1,(hl.at s3 (hs.il i hi).2.1).1,(hl.at s3 (hs.il i hi).2.1).2⟩
end
end
end Go.Proofs.YthccpacmklhejabGreatDoor
