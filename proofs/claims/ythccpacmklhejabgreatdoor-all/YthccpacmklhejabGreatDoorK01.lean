import Derived.Test.YthccpacmklhejabGreatDoorTk
import GoSem.Core.Utf8
import Derived.Laws.Strings
import Derived.Test.YthccpacmklhejabGreatDoorRows
import Derived.WalkKit
import Derived.WalkSpells
import Derived.WalkLawsBesides
import Derived.Lib.OthersKept
import Derived.Lib.AppendStr
import Derived.Laws.IdiomStrings
set_option maxHeartbeats 1000000
set_option maxRecDepth 4000
namespace Go.Proofs.YthccpacmklhejabGreatDoor
section
structure Ev where
 op:Nat
 key:ByteArray
 seq:Nat
 val:Int
def Ev.ok(e:Ev):Prop:=e.op<256/\e.seq<65536/\-32768<=e.val/\e.val<=32767
def repl(s:ByteArray)(k:Nat):Bool:=decide (k+3<=s.size) && (s.extract k (k+3)).toList==[239,191,189]
def okFrom(s:ByteArray):Nat->Nat->Bool
 | 0,_=>true
 | f+1,pos=>if pos<s.size then(if(Utf8.decode s pos).1=65533/\repl s pos=false then false else okFrom s f (pos+(Utf8.decode s pos).2))else true
theorem Qe2(s:ByteArray)(fuel pos:Nat)(h:¬pos<s.size):okFrom s fuel pos=true:=by cases fuel<;>simp[okFrom,h]
def validB(s:ByteArray):Bool:=decide (1<=s.size) && decide (s.size<=8) && okFrom s s.size 0
def refuse(e:Ev):Nat:=
 if e.op≠1/\e.op≠2 then 5 else if validB e.key=false then 4 else if e.op=2/\e.val≠0 then 3 else 0
def sumB(l:List UInt8):Nat:=(l.map UInt8.toNat).sum % 256
def u16(v:Int):Nat:=(v % 65536).toNat
def body(e:Ev):List UInt8:=
 [UInt8.ofNat e.op,UInt8.ofNat e.key.size]++e.key.data.toList++[UInt8.ofNat (e.seq / 256),UInt8.ofNat (e.seq % 256)]++
  (if e.op=1 then[UInt8.ofNat (u16 e.val / 256),UInt8.ofNat (u16 e.val % 256)]else[])
def recB(e:Ev):List UInt8:=body e++[UInt8.ofNat (sumB (body e))]
theorem QbB{e:Ev}(h:refuse e=0):1<=e.key.size/\e.key.size<=8/\(e.op=1\/e.op=2)/\validB e.key=true/\(e.op=2->e.val=0):=by
 unfold refuse at h;split at h
 ·omega
 ·split at h
  ·omega
  ·split at h
   ·omega
   ·rename_i h1 h2 h3
    have hv:validB e.key=true:=by simpa using h2
    have:=hv;simp[validB]at this;refine⟨this.1.1,this.1.2,by omega,hv,λh=>?_⟩
    exact Classical.byContradiction λhn=>h3 ⟨h,hn⟩
theorem Qc0(e:Ev):(recB e).length=e.key.size+(if e.op=1 then 7 else 5):=by
 simp[recB,body]
 split<;>simp<;>omega
theorem Qkd(l:List UInt8)(b:UInt8):sumB (l++[b])=(sumB l+b.toNat) % 256:=by
 simp[sumB]
theorem QiJ(l:List UInt8):sumB l<256:=Nat.mod_lt _ (by decide)
theorem Qmz(a b:Nat)(hb:b<256):a*256 ||| b=a*256+b:=by
 have:=Nat.two_pow_add_eq_or_of_lt (i:=8) (show b<2 ^ 8 from hb) a;rw[Nat.mul_comm a 256];exact this.symm
end
section
open Go.RowKit
theorem Qke(a b:Int)(ha:0<=a)(ha':a<256)(hb:0<=b)(hb':b<256):bits .or .u16 (a*256) b=a*256+b:=by
 rw[u16_or (a*256) b omQ omQ hb omQ];have e:(a*256).toNat=a.toNat*256:=omQ;rw[e,Qmz a.toNat b.toNat omQ];omega
theorem QbH(a b:Int)(w:World)(ha:0<=a)(ha':a<256)(hb:0<=b)(hb':b<256):
  Calls Tryz.prog 85 #[.int .u8 a,.int .u8 b] w λe w'=>e=.returned (.int .u16 (a*256+b))/\w'=w:=by
 have h:=Qke a b ha ha' hb hb';go_enter Tryz.func85,Tryz.ntmps85;go_wp2;go_ret;exact⟨rfl,rfl⟩
theorem Qcx(s:ByteArray)(k:Nat)(w:World)(hk:k<9):
  Calls Tryz.prog 110 #[.string s,.int .i64 k] w λe w'=>e=.returned (.bool (repl s k))/\w'=w:=by
 by_cases h:k+3<=s.size
 ·have e:repl s k=((s.extract k (k+3)).toList==[239,191,189]):=by simp[repl,h]
  rw[e];clear e;go_enter Tryz.func110,Tryz.ntmps110;go_wp2;go_ret;exact⟨rfl,rfl⟩
 ·have e:repl s k=false:=by simp[repl,h]
  rw[e];clear e;have h':s.size<k+3:=omQ;go_enter Tryz.func110,Tryz.ntmps110;go_wp2;go_ret;exact⟨rfl,rfl⟩
theorem Qkf(s:ByteArray)(pos:Nat)(h:pos<s.size):1<=(Utf8.decode s pos).2:=by
 by_cases ha:(s[pos]'h).toNat<128
 ·rw[decode_ascii s pos h ha];exact Nat.le_refl _
 ·exact(decode_high s pos h omQ).2
theorem Qcn(s:ByteArray)(w:World):
  Calls Tryz.prog 86 #[.string s] w λe w'=>e=.returned (.bool (validB s))/\Below w.heap.size w w':=by
 by_cases h1:s.size<1
 ·have e:validB s=false:=by simp[validB];omega
  rw[e];clear e;go_enter Tryz.func86,Tryz.ntmps86;go_wp2;go_ret;exact⟨rfl,Below.refl _ _⟩
 by_cases h8:8<s.size
 ·have e:validB s=false:=by simp[validB];omega
  rw[e];clear e;go_enter Tryz.func86,Tryz.ntmps86;go_wp2;go_ret;exact⟨rfl,Below.refl _ _⟩
 have e:validB s=okFrom s s.size 0:=by
  have a:1<=s.size:=omQ;have b:s.size<=8:=omQ;simp[validB,a,b]
 rw[e];clear e;go_enter Tryz.func86,Tryz.ntmps86;go_wp2
 go_loopw [3,4] (λ_ _ wr=>∃(pos fuel:Nat),wr.heap[w.heap.size]? =some (.stringIter s pos)/\Below w.heap.size w wr/\Hid (okFrom s fuel pos=okFrom s s.size 0)/\s.size<=pos+fuel) (λ_ _ wr=>s.size-wr.iterPos w.heap.size)
 case atStart=>
  refine⟨0,s.size,?_,(Below.refl _ w).alloc (Nat.le_refl _) _,rfl,by omega⟩;have:=World.iter_heap w s 0
  simpa using this
 case round=>
  obtain⟨pos,fuel,hit,hbw,hacc,hfu⟩:=hrel;have hsz:w.heap.size<wr.heap.size:=(Array.getElem?_eq_some_iff.1 hit).1
  by_cases hp:pos<s.size
  ·have hnx:∀ty,(Instr.next (.pointer (some ⟨w.heap.size,0,none⟩)) true ty).run Tryz.prog wr=_:=λty=>Lib.run_next_any_at wr w.heap.size s pos ty hit hp
   have hwd:=Qkf s pos hp;have hd1:=decode_le s pos;have hit2:=Lib.iterAt_heap wr w.heap.size s pos (pos+(Utf8.decode s pos).2) hit;have hbw2:=Lib.below_iterAt hbw (k:=w.heap.size) omQ s (pos+(Utf8.decode s pos).2)
   obtain⟨f,rfl⟩:∃f,fuel=f+1:=⟨fuel-1,by omega⟩
   have hstep:okFrom s (f+1) pos=(if(Utf8.decode s pos).1=65533/\repl s pos=false then false else okFrom s f (pos+(Utf8.decode s pos).2)):=by simp[okFrom,hp]
   by_cases hff:(Utf8.decode s pos).1=65533
   ·have hi:(((Utf8.decode s pos).1:Int)==65533)=true:=by simp[hff]
    cases hr:repl s pos with
    | false=>
     have hacc':=hacc.out;rw[hstep,if_pos ⟨hff,hr⟩]at hacc'
     have Ha:=show Hid (false=okFrom s s.size 0)from hacc'
     have Hff:=show Hid ((Utf8.decode s pos).1=65533)from hff
     have Hr:=show Hid (repl s pos=false)from hr
     clear hff hr hacc' hacc hstep hit2
     go_wp2_with(go_at_call 110;refine(Qcx s pos _ omQ).mono ?_;rintro e w' ⟨rfl,rfl⟩;rw[Hr.out])
     go_ret
     exact⟨by rw[<-Ha.out];rfl,hbw2⟩
    | true=>
     have hacc':=hacc.out;rw[hstep,if_neg (by simp[hr])]at hacc'
     have Hff:=show Hid ((Utf8.decode s pos).1=65533)from hff
     have Hr:=show Hid (repl s pos=true)from hr
     have Ha:=show Hid (okFrom s f (pos+(Utf8.decode s pos).2)=okFrom s s.size 0)from hacc'
     clear hff hr hacc' hacc hstep
     go_wp2_with(go_at_call 110;refine(Qcx s pos _ omQ).mono ?_;rintro e w' ⟨rfl,rfl⟩;rw[Hr.out])
     go_roundw
     case rel=>exact⟨_,f,hit2,hbw2,Ha,by omega⟩
     case measure=>
      simp only[World.iterPos,hit2,hit];omega
   ·have hi:(((Utf8.decode s pos).1:Int)==65533)=false:=by simp;omega
    have hacc':=hacc.out;rw[hstep,if_neg (by simp[hff])]at hacc'
    have Ha:=show Hid (okFrom s f (pos+(Utf8.decode s pos).2)=okFrom s s.size 0)from hacc'
    clear hff hacc' hacc hstep;go_wp2
    go_roundw
    case rel=>exact⟨_,f,hit2,hbw2,Ha,by omega⟩
    case measure=>
     simp only[World.iterPos,hit2,hit];omega
  ·have hnx:∀ty,(Instr.next (.pointer (some ⟨w.heap.size,0,none⟩)) true ty).run Tryz.prog wr=_:=λty=>Lib.run_next_end_at wr w.heap.size s pos ty hit hp
   have hacc':=hacc.out;rw[Qe2 s fuel pos hp]at hacc'
   have Ha:=show Hid (true=okFrom s s.size 0)from hacc'
   clear hacc' hacc;go_wp2;go_ret;exact⟨by rw[<-Ha.out];rfl,hbw⟩
theorem QmA(g n c:Nat)(l:List UInt8)(w:World)(hn:l.length=n)(h63:n<=1000)(hc:∀j (h:j<l.length),w.cell? ⟨g,j,none⟩=some (.int .u8 (l[j].toNat:Int))):
  Calls Tryz.prog 60 #[.slice (some ⟨g,0,none⟩) n c] w λe w'=>e=.returned (.int .u8 (sumB l:Int))/\w'=w:=by
 go_enter Tryz.func60,Tryz.ntmps60;go_wp2
 go_loop [3,4] (λt i=>∃k:Nat,k<=n/\i=.int .i64 k/\t=.int .u8 (sumB (l.take k):Int)) (λ_ i=>n-(intOf i).toNat)
 case atStart=>exact⟨0,Nat.zero_le _,rfl,rfl⟩
 case round=>
  obtain⟨k,hk,rfl,rfl⟩:=hrel
  by_cases hlt:k<n
  ·have hcell:=hc k omQ;have hs1:=QiJ (l.take k);have hb:=(l[k]'omQ).toNat_lt
   have HS:Hid (sumB (l.take (k+1))=(sumB (l.take k)+(l[k]'omQ).toNat) % 256):=by
    have e:l.take (k+1)=l.take k++[l[k]'omQ]:=(List.take_append_getElem omQ).symm
    show sumB (l.take (k+1))=_
    rw[e,Qkd]
   go_wp2
   go_round
   case rel=>exact⟨k+1,by omega,by go_num,by rw[HS.out];go_num⟩
   case measure=>simp[intOf];omega
  ·have e:l.take k=l:=List.take_of_length_le omQ;rw[e];go_wp2;go_ret;exact⟨rfl,rfl⟩
def Ev.value(e:Ev):Value:=.agg #[.int .u8 (e.op:Int),.string e.key,.int .u16 (e.seq:Int),.int .i16 e.val]
theorem bcell{W w1:World}(hb:Below W.heap.size W w1):(∀b o,b<W.heap.size->w1.cell? ⟨b,o,none⟩=W.cell? ⟨b,o,none⟩)/\(∀b o,b<W.heap.size->w1.frozen? ⟨b,o,none⟩=W.frozen? ⟨b,o,none⟩):=
 ⟨λb o h=>hb.cell (p:=⟨b,o,none⟩) h,λb o h=>hb.frozen (p:=⟨b,o,none⟩) h⟩
theorem Qa5{w w':World}{o:Obj}(hb:Below (w.alloc o).heap.size (w.alloc o) w'):Below w.heap.size w w':=
 ((Below.refl _ w).alloc (Nat.le_refl _) o).trans (hb.mono (by simp))
theorem Qc1(op:Nat)(key:ByteArray)(seq:Nat)(val:Int)(w:World):
  Calls Tryz.prog 59 #[.agg #[.int .u8 (op:Int),.string key,.int .u16 (seq:Int),.int .i16 val]] w
   λe w'=>e=.returned (.int .i64 (refuse ⟨op,key,seq,val⟩:Int))/\Below w.heap.size w w':=by
 by_cases h12:op≠1/\op≠2
 ·have e:refuse ⟨op,key,seq,val⟩=5:=by simp[refuse,h12]
  rw[e];clear e
  have h1:((op:Int) !=1)=true:=by rw[bne_iff_ne];omega
  have h2:((op:Int) !=2)=true:=by rw[bne_iff_ne];omega
  go_enter Tryz.func59,Tryz.ntmps59;go_wp2;go_ret;exact⟨rfl,(Below.refl _ w).alloc (Nat.le_refl _) _⟩
 cases hv:validB key with
 | false=>
  have e:refuse ⟨op,key,seq,val⟩=4:=by simp only[refuse,if_neg h12,hv,if_true]
  rw[e];clear e
  have Hv:=show Hid (validB key=false)from hv
  clear hv
  by_cases h1:op=1
  ·subst h1;go_enter Tryz.func59,Tryz.ntmps59
   go_wp2_with(go_at_call 86;refine(Qcn key _).mono ?_;rintro e w' ⟨rfl,hb⟩;rw[Hv.out])
   go_ret;exact⟨rfl,Qa5 hb⟩
  ·have h2:op=2:=omQ;subst h2;go_enter Tryz.func59,Tryz.ntmps59
   go_wp2_with(go_at_call 86;refine(Qcn key _).mono ?_;rintro e w' ⟨rfl,hb⟩;rw[Hv.out])
   go_ret
   exact⟨rfl,Qa5 hb⟩
 | true=>
  have Hv:=show Hid (validB key=true)from hv
  by_cases h1:op=1
  ·have e:refuse ⟨op,key,seq,val⟩=0:=by simp[refuse,hv,h1]
   rw[e];clear e hv;subst h1;go_enter Tryz.func59,Tryz.ntmps59
   go_wp2_with(go_at_call 86;refine(Qcn key _).mono ?_;rintro e w' ⟨rfl,hb⟩;rw[Hv.out];obtain⟨hc,hf⟩:=bcell hb;have hz:w.heap.size+1<=w'.heap.size:=by have:=hb.size;simp at this;omega)
   go_ret;exact⟨rfl,Qa5 hb⟩
  ·have h2:op=2:=omQ
   by_cases hz:val=0
   ·have e:refuse ⟨op,key,seq,val⟩=0:=by simp[refuse,hv,h2,hz]
    rw[e];clear e hv;subst h2 hz;go_enter Tryz.func59,Tryz.ntmps59
    go_wp2_with(go_at_call 86;refine(Qcn key _).mono ?_;rintro e w' ⟨rfl,hb⟩;rw[Hv.out];obtain⟨hc,hf⟩:=bcell hb;have hz:w.heap.size+1<=w'.heap.size:=by have:=hb.size;simp at this;omega)
    go_ret;exact⟨rfl,Qa5 hb⟩
   ·have e:refuse ⟨op,key,seq,val⟩=3:=by simp[refuse,hv,h2,hz]
    have hne:(val !=0)=true:=by simpa using hz
    rw[e];clear e hv;subst h2;go_enter Tryz.func59,Tryz.ntmps59
    go_wp2_with(go_at_call 86;refine(Qcn key _).mono ?_;rintro e w' ⟨rfl,hb⟩;rw[Hv.out];obtain⟨hc,hf⟩:=bcell hb;have hz:w.heap.size+1<=w'.heap.size:=by have:=hb.size;simp at this;omega)
    go_ret;exact⟨rfl,Qa5 hb⟩
theorem Tryz.info5:(Tryz.prog.info? 5).map (λi=>(i.zero,i.size,i.bytes))=some (some (.int .u8 0),1,1):=by kernel_rfl
theorem QeJ(a:Int)(ha:0<=a)(ha':a<65536):bits .and .u16 a 255=a % 256:=by
 rw[u16_and a 255 ha ha' omQ omQ];have:a.toNat &&& (255:Int).toNat=a.toNat % 256:=Nat.and_two_pow_sub_one_eq_mod a.toNat 8;rw[this];omega
def bcs(l:List UInt8):List Value:=l.map λb=>Value.int .u8 (b.toNat:Int)
theorem Qkg(op:Nat)(key:ByteArray)(seq:Nat)(val:Int)(w:World)(h:refuse ⟨op,key,seq,val⟩≠0):
  Calls Tryz.prog 36 #[.agg #[.int .u8 (op:Int),.string key,.int .u16 (seq:Int),.int .i16 val]] w
   λe w'=>e=.returned (.tuple #[.string ⟨#[]⟩,.int .i64 (refuse ⟨op,key,seq,val⟩:Int)])/\Below w.heap.size w w':=by
 obtain⟨r,hr⟩:∃r,r=refuse ⟨op,key,seq,val⟩:=⟨_,rfl⟩
 rw[<-hr]at h ⊢
 have Hr:=show Hid (r=refuse ⟨op,key,seq,val⟩)from hr
 clear hr
 have hne:((r:Int) !=0)=true:=by rw[bne_iff_ne];omega
 go_enter Tryz.func36,Tryz.ntmps36
 go_wp2_with(go_at_call 59;refine(Qc1 op key seq val _).mono ?_;rintro e w' ⟨rfl,hb⟩;rw[<-Hr.out])
 go_ret2
 exact⟨rfl,Qa5 hb⟩
theorem one2(a b:Int):∀u∈[Value.int .u8 a,Value.int .u8 b],u.oneCell'=true:=by
 intro u hu;simp at hu
 rcases hu with rfl | rfl<;>rfl
theorem one1(a:Int):∀u∈[Value.int .u8 a],u.oneCell'=true:=by
 intro u hu;simp at hu;subst hu;rfl
theorem Qa1{B n:Nat}{e:TypeId}{s:Nat}{W0 wa wb:World}{v:Value}{xs:List Value}(hB:Below B W0 wa)(hz:B<=wa.heap.size)(hown:wa.ownsRow B e s v n xs)(hg:wa.grownBy wb v.ownBlock):
  Below B W0 wb/\B<=wb.heap.size:=
 ⟨hB.grown hg hz λk hk=>(hown.lt k hk).1,Nat.le_trans hz hg.size⟩
theorem QbC{w:World}{B n:Nat}{e:TypeId}{s:Nat}{v:Value}{xs:List Value}(hown:w.ownsRow B e s v n xs)(hn:0<n):∃g cap,v=.slice (some ⟨g,0,none⟩) n cap:=by
 rcases hown.2 with⟨rfl,h⟩ | ⟨g,cap,cur,rfl,_⟩
 ·omega
 ·exact⟨g,cap,rfl⟩
theorem Qgz{w:World}{B n g cap:Nat}{l:List UInt8}(hown:w.ownsRow B 5 1 (.slice (some ⟨g,0,none⟩) n cap) n (bcs l))(hl:l.length=n):
  ∀j (h:j<l.length),w.cell? ⟨g,j,none⟩=some (.int .u8 (l[j].toNat:Int)):=by
 intro j h;rw[hown.cellAt j omQ];simp[bcs,h]
theorem QiK{w:World}{B n:Nat}{v:Value}(l:List UInt8)(hown:w.ownsRow B 5 1 v n (bcs l))(hn:0<n)(h63:n<=1000):
  Calls Tryz.prog 60 #[v] w λe w'=>e=.returned (.int .u8 (sumB l:Int))/\w=w':=by
 obtain⟨g,cap,rfl⟩:=QbC hown hn
 have hl:l.length=n:=by have:=hown.1;simpa[bcs]using this
 exact(QmA g n cap l w hl h63 (Qgz hown hl)).mono λ_ _ h=>⟨h.1,h.2.symm⟩
theorem QgA{w:World}{B n:Nat}{v:Value}(l:List UInt8)(hown:w.ownsRow B 5 1 v n (bcs l))(hn:0<n):
  (convert 131 9 v).run Tryz.prog w=.ok (.string ⟨l.toArray⟩) w:=by
 obtain⟨g,cap,rfl⟩:=QbC hown hn
 have hl:l.length=n:=by have:=hown.1;simpa[bcs]using this
 subst hl;refine run_convert_bytes_back w 131 9 5 ⟨g,0,none⟩ cap l Tryz.underlying131 Tryz.underlying5 Tryz.underlying9 ?_;intro j hj;have:=Qgz hown rfl j hj
 have e:(⟨g,0,none⟩:Addr).add j=⟨g,j,none⟩:=by unfold Addr.add;split<;>simp_all
 rw[e];exact this
theorem QbI(a b:List UInt8):bcs (a++b)=bcs a++bcs b:=by simp[bcs]
theorem Qdj(a b:Nat)(ha:a<256)(hb:b<256):bcs [UInt8.ofNat a,UInt8.ofNat b]=[Value.int .u8 (a:Int),Value.int .u8 (b:Int)]:=by
 simp[bcs];omega
theorem QfN(e:Ev):bcs (body e)++[.int .u8 (sumB (body e):Int)]=bcs (recB e):=by
 have h:=QiJ (body e)
 have e1:bcs [UInt8.ofNat (sumB (body e))]=[.int .u8 (sumB (body e):Int)]:=by simp[bcs];omega
 rw[recB,QbI,e1]
theorem QlE(key:ByteArray)(seq:Nat)(val:Int)(hk:key.size<=8)(hs:seq<65536):
  ([]++[Value.int .u8 1,Value.int .u8 (key.size:Int)]++Lib.strCells key++[Value.int .u8 ((seq:Int) / 256),Value.int .u8 ((seq:Int) % 256)]++[.int .u8 ((u16 val:Int) / 256),.int .u8 ((u16 val:Int) % 256)]:List Value)=bcs (body ⟨1,key,seq,val⟩):=by
 have hu16:u16 val<65536:=by unfold u16;omega
 have e:body ⟨1,key,seq,val⟩=[UInt8.ofNat 1,UInt8.ofNat key.size]++key.data.toList++[UInt8.ofNat (seq / 256),UInt8.ofNat (seq % 256)]++[UInt8.ofNat (u16 val / 256),UInt8.ofNat (u16 val % 256)]:=by simp[body]
 have e2:bcs key.data.toList=Lib.strCells key:=rfl;rw[e,QbI,QbI,QbI,Qdj 1 key.size omQ omQ,Qdj (seq / 256) (seq % 256) omQ omQ,Qdj (u16 val / 256) (u16 val % 256) omQ omQ,e2];simp
theorem Qkh(key:ByteArray)(seq:Nat)(hk:key.size<=8)(hs:seq<65536):
  ([]++[Value.int .u8 2,Value.int .u8 (key.size:Int)]++Lib.strCells key++[Value.int .u8 ((seq:Int) / 256),Value.int .u8 ((seq:Int) % 256)]:List Value)=bcs (body ⟨2,key,seq,0⟩):=by
 have e:body ⟨2,key,seq,0⟩=[UInt8.ofNat 2,UInt8.ofNat key.size]++key.data.toList++[UInt8.ofNat (seq / 256),UInt8.ofNat (seq % 256)]:=by simp[body]
 have e2:bcs key.data.toList=Lib.strCells key:=rfl;rw[e,QbI,QbI,Qdj 2 key.size omQ omQ,Qdj (seq / 256) (seq % 256) omQ omQ,e2];simp
theorem QiZ(key:ByteArray)(seq:Nat)(val:Int)(w:World)(h:refuse ⟨1,key,seq,val⟩=0)(hs:seq<65536):
  Calls Tryz.prog 36 #[.agg #[.int .u8 1,.string key,.int .u16 (seq:Int),.int .i16 val]] w
   λe w'=>e=.returned (.tuple #[.string ⟨(recB ⟨1,key,seq,val⟩).toArray⟩,.int .i64 0])/\Below w.heap.size w w':=by
 have Hr:=show Hid (refuse ⟨1,key,seq,val⟩=0)from h
 have hk1:1<=key.size:=(QbB h).1;have hk8:key.size<=8:=(QbB h).2.1;clear h;have hlow:=QeJ seq omQ omQ
 have hu16:u16 val<65536:=by unfold u16;omega
 have hwr:IntKind.u16.wrap val=(u16 val:Int):=by rw[IntKind.wrap_u16];unfold u16;omega
 have hlow2:=QeJ (u16 val) omQ omQ;obtain⟨i0,hi,hz0,hz1,hz2⟩:=info_parts Tryz.info5;go_enter Tryz.func36,Tryz.ntmps36
 go_wp2_with(first
  | (go_at_call 59;refine(Qc1 1 key seq val _).mono ?_;rintro e w1 ⟨rfl,hb⟩;rw[Hr.out];have hz:w.heap.size+1<=w1.heap.size:=by{have:=hb.size;simp at this;omega};have hB1:Below (w.heap.size+1) _ w1:=hb.mono (by simp);have hc:∀o,w1.cell? ⟨w.heap.size,o,none⟩=_:=λo=>hB1.cell (p:=⟨w.heap.size,o,none⟩) (by simp);clear hb)
  | (at_builtin;refine wpList_append_own _ rfl (.tmp 13) (.tmp 20) 131 rfl (w.heap.size+1) 5 i0 (.int .u8 0) 1 1 Tryz.underlying131 hi hz0 hz1 hz2 rfl (by decide) (.slice none 0 0) 0 [] rfl (World.ownsRow_nil _ _ _ _) ⟨w1.heap.size,0,none⟩ 2 2 [.int .u8 1,.int .u8 (key.size:Int)] rfl rfl (cell_two_new _ _ _ _) (one2 _ _) (by unfold maxLen;omega) (by omega) (by simp;omega) ?_;intro v2 w2 hown2 hgrow2 _;obtain⟨hB2,hZ2⟩:=Qa1 (hB1.alloc hz _) (by simp;omega) (World.ownsRow_nil _ _ 5 1) hgrow2;have hc2:∀o,w2.cell? ⟨w.heap.size,o,none⟩=_:=λo=>hB2.cell (p:=⟨w.heap.size,o,none⟩) (by simp);clear hgrow2 hc hB1 hz)
  | (at_builtin;refine Lib.wpList_append_own_string _ rfl (.tmp 22) (.tmp 24) 131 9 rfl (w.heap.size+1) 5 i0 Tryz.underlying131 Tryz.underlying9 hi hz0 hz1 hz2 v2 2 _ rfl hown2 key rfl (by unfold maxLen;omega) (by omega) hZ2 ?_;intro v3 w3 hown3 hgrow3 _;obtain⟨hB3,hZ3⟩:=Qa1 hB2 hZ2 hown2 hgrow3;have hc3:∀o,w3.cell? ⟨w.heap.size,o,none⟩=_:=λo=>hB3.cell (p:=⟨w.heap.size,o,none⟩) (by simp);clear hgrow3 hc2 hB2 hZ2 hown2)
  | (at_builtin;refine wpList_append_own _ rfl (.tmp 26) (.tmp 35) 131 rfl (w.heap.size+1) 5 i0 (.int .u8 0) 1 1 Tryz.underlying131 hi hz0 hz1 hz2 rfl (by decide) v3 (0+2+key.size) _ rfl (hown3.alloc _) ⟨w3.heap.size,0,none⟩ 2 2 [.int .u8 ((seq:Int) / 256),.int .u8 ((seq:Int) % 256)] rfl rfl (cell_two_new _ _ _ _) (one2 _ _) (by unfold maxLen;omega) (by omega) (by simp;omega) ?_;intro v4 w4 hown4 hgrow4 _;obtain⟨hB4,hZ4⟩:=Qa1 (hB3.alloc hZ3 _) (by simp;omega) (hown3.alloc _) hgrow4;have hc4:∀o,w4.cell? ⟨w.heap.size,o,none⟩=_:=λo=>hB4.cell (p:=⟨w.heap.size,o,none⟩) (by simp);clear hgrow4 hc3 hB3 hZ3 hown3)
  | (at_builtin;refine wpList_append_own _ rfl (.tmp 43) (.tmp 50) 131 rfl (w.heap.size+1) 5 i0 (.int .u8 0) 1 1 Tryz.underlying131 hi hz0 hz1 hz2 rfl (by decide) v4 (0+2+key.size+2) _ rfl (hown4.alloc _) ⟨w4.heap.size,0,none⟩ 2 2 [.int .u8 ((u16 val:Int) / 256),.int .u8 ((u16 val:Int) % 256)] rfl rfl (cell_two_new _ _ _ _) (one2 _ _) (by unfold maxLen;omega) (by omega) (by simp;omega) ?_;intro v5 w5 hown5 hgrow5 _;obtain⟨hB5,hZ5⟩:=Qa1 (hB4.alloc hZ4 _) (by simp;omega) (hown4.alloc _) hgrow5;rw[QlE key seq val hk8 hs]at hown5;clear hgrow5 hc4 hB4 hZ4 hown4)
  | (go_at_call 60;refine(QiK (body ⟨1,key,seq,val⟩) hown5 omQ omQ).mono ?_;rintro e w6 ⟨rfl,rfl⟩)
  | (at_builtin;refine wpList_append_own _ rfl (.tmp 54) (.tmp 56) 131 rfl (w.heap.size+1) 5 i0 (.int .u8 0) 1 1 Tryz.underlying131 hi hz0 hz1 hz2 rfl (by decide) v5 (0+2+key.size+2+2) _ rfl (hown5.alloc _) ⟨w5.heap.size,0,none⟩ 1 1 [.int .u8 (sumB (body ⟨1,key,seq,val⟩):Int)] rfl rfl (cell_one_new _ _ _) (one1 _) (by unfold maxLen;omega) (by omega) (by simp;omega) ?_;intro v7 w7 hown7 hgrow7 _;obtain⟨hB7,hZ7⟩:=Qa1 (hB5.alloc hZ5 _) (by simp;omega) (hown5.alloc _) hgrow7;rw[QfN]at hown7;have hconv:=QgA (recB ⟨1,key,seq,val⟩) hown7 (by omega);clear hgrow7 hB5 hZ5 hown5 hown7))
 go_ret2
 exact⟨rfl,((Below.refl _ w).alloc (Nat.le_refl _) _).trans (hB7.mono omQ)⟩
theorem QhD(key:ByteArray)(seq:Nat)(w:World)(h:refuse ⟨2,key,seq,0⟩=0)(hs:seq<65536):
  Calls Tryz.prog 36 #[.agg #[.int .u8 2,.string key,.int .u16 (seq:Int),.int .i16 0]] w
   λe w'=>e=.returned (.tuple #[.string ⟨(recB ⟨2,key,seq,0⟩).toArray⟩,.int .i64 0])/\Below w.heap.size w w':=by
 have Hr:=show Hid (refuse ⟨2,key,seq,0⟩=0)from h
 have hk1:1<=key.size:=(QbB h).1;have hk8:key.size<=8:=(QbB h).2.1;clear h;have hlow:=QeJ seq omQ omQ;obtain⟨i0,hi,hz0,hz1,hz2⟩:=info_parts Tryz.info5;go_enter Tryz.func36,Tryz.ntmps36
 go_wp2_with(first
  | (go_at_call 59;refine(Qc1 2 key seq 0 _).mono ?_;rintro e w1 ⟨rfl,hb⟩;rw[Hr.out];have hz:w.heap.size+1<=w1.heap.size:=by{have:=hb.size;simp at this;omega};have hB1:Below (w.heap.size+1) _ w1:=hb.mono (by simp);have hc:∀o,w1.cell? ⟨w.heap.size,o,none⟩=_:=λo=>hB1.cell (p:=⟨w.heap.size,o,none⟩) (by simp);clear hb)
  | (at_builtin;refine wpList_append_own _ rfl (.tmp 13) (.tmp 20) 131 rfl (w.heap.size+1) 5 i0 (.int .u8 0) 1 1 Tryz.underlying131 hi hz0 hz1 hz2 rfl (by decide) (.slice none 0 0) 0 [] rfl (World.ownsRow_nil _ _ _ _) ⟨w1.heap.size,0,none⟩ 2 2 [.int .u8 2,.int .u8 (key.size:Int)] rfl rfl (cell_two_new _ _ _ _) (one2 _ _) (by unfold maxLen;omega) (by omega) (by simp;omega) ?_;intro v2 w2 hown2 hgrow2 _;obtain⟨hB2,hZ2⟩:=Qa1 (hB1.alloc hz _) (by simp;omega) (World.ownsRow_nil _ _ 5 1) hgrow2;have hc2:∀o,w2.cell? ⟨w.heap.size,o,none⟩=_:=λo=>hB2.cell (p:=⟨w.heap.size,o,none⟩) (by simp);clear hgrow2 hc hB1 hz)
  | (at_builtin;refine Lib.wpList_append_own_string _ rfl (.tmp 22) (.tmp 24) 131 9 rfl (w.heap.size+1) 5 i0 Tryz.underlying131 Tryz.underlying9 hi hz0 hz1 hz2 v2 2 _ rfl hown2 key rfl (by unfold maxLen;omega) (by omega) hZ2 ?_;intro v3 w3 hown3 hgrow3 _;obtain⟨hB3,hZ3⟩:=Qa1 hB2 hZ2 hown2 hgrow3;have hc3:∀o,w3.cell? ⟨w.heap.size,o,none⟩=_:=λo=>hB3.cell (p:=⟨w.heap.size,o,none⟩) (by simp);clear hgrow3 hc2 hB2 hZ2 hown2)
  | (at_builtin;refine wpList_append_own _ rfl (.tmp 26) (.tmp 35) 131 rfl (w.heap.size+1) 5 i0 (.int .u8 0) 1 1 Tryz.underlying131 hi hz0 hz1 hz2 rfl (by decide) v3 (0+2+key.size) _ rfl (hown3.alloc _) ⟨w3.heap.size,0,none⟩ 2 2 [.int .u8 ((seq:Int) / 256),.int .u8 ((seq:Int) % 256)] rfl rfl (cell_two_new _ _ _ _) (one2 _ _) (by unfold maxLen;omega) (by omega) (by simp;omega) ?_;intro v5 w5 hown5 hgrow5 _;obtain⟨hB5,hZ5⟩:=Qa1 (hB3.alloc hZ3 _) (by simp;omega) (hown3.alloc _) hgrow5;rw[Qkh key seq hk8 hs]at hown5;have hc5:∀o,w5.cell? ⟨w.heap.size,o,none⟩=_:=λo=>hB5.cell (p:=⟨w.heap.size,o,none⟩) (by simp);clear hgrow5 hc3 hB3 hZ3 hown3)
  | (go_at_call 60;refine(QiK (body ⟨2,key,seq,0⟩) hown5 omQ omQ).mono ?_;rintro e w6 ⟨rfl,rfl⟩)
  | (at_builtin;refine wpList_append_own _ rfl (.tmp 54) (.tmp 56) 131 rfl (w.heap.size+1) 5 i0 (.int .u8 0) 1 1 Tryz.underlying131 hi hz0 hz1 hz2 rfl (by decide) v5 (0+2+key.size+2) _ rfl (hown5.alloc _) ⟨w5.heap.size,0,none⟩ 1 1 [.int .u8 (sumB (body ⟨2,key,seq,0⟩):Int)] rfl rfl (cell_one_new _ _ _) (one1 _) (by unfold maxLen;omega) (by omega) (by simp;omega) ?_;intro v7 w7 hown7 hgrow7 _;obtain⟨hB7,hZ7⟩:=Qa1 (hB5.alloc hZ5 _) (by simp;omega) (hown5.alloc _) hgrow7;rw[QfN]at hown7;have hconv:=QgA (recB ⟨2,key,seq,0⟩) hown7 (by omega);clear hgrow7 hB5 hZ5 hown5 hown7 hc5))
 go_ret2
 exact⟨rfl,((Below.refl _ w).alloc (Nat.le_refl _) _).trans (hB7.mono omQ)⟩
def encStr(e:Ev):ByteArray:=if refuse e=0 then⟨(recB e).toArray⟩else⟨#[]⟩
theorem Qdy(e:Ev)(w:World)(hs:e.seq<65536):
  Calls Tryz.prog 36 #[e.value] w λen w'=>en=.returned (.tuple #[.string (encStr e),.int .i64 (refuse e:Int)])/\Below w.heap.size w w':=by
 obtain⟨op,key,seq,val⟩:=e
 by_cases h:refuse ⟨op,key,seq,val⟩=0
 ·have hE:encStr ⟨op,key,seq,val⟩=⟨(recB ⟨op,key,seq,val⟩).toArray⟩:=if_pos h;rw[hE,h];obtain⟨_,_,h3,_,h5⟩:=QbB h;simp only at h3 h5 hs
  rcases h3 with rfl | rfl
  ·exact QiZ key seq val w h hs
  ·obtain rfl:=h5 rfl;exact QhD key seq w h hs
 ·have hE:encStr ⟨op,key,seq,val⟩=⟨#[]⟩:=if_neg h;rw[hE];exact Qkg op key seq val w h
theorem QhE(e:Ev)(w:World)(hs:e.seq<65536):
  Calls Tryz.prog 15 #[e.value] w λen w'=>en=.returned (.tuple #[.string (encStr e),.int .i64 (refuse e:Int)])/\Below w.heap.size w w':=by
 have henc:=λw=>Qdy e w hs
 obtain⟨s,hS⟩:∃s,s=encStr e:=⟨_,rfl⟩
 obtain⟨r,hR⟩:∃r,r=refuse e:=⟨_,rfl⟩
 rw[<-hS,<-hR]at henc ⊢;have H:Hid (∀w,Calls Tryz.prog 36 #[e.value] w λen w'=>en=.returned (.tuple #[.string s,.int .i64 (r:Int)])/\Below w.heap.size w w'):=henc;clear henc hS hR;unfold Ev.value at H ⊢;go_enter Tryz.func15,Tryz.ntmps15
 go_wp2_with(go_at_call 36;refine(H.out _).mono ?_;rintro en w1 ⟨rfl,hb⟩)
 go_ret2
 exact⟨rfl,Qa5 hb⟩
end
end Go.Proofs.YthccpacmklhejabGreatDoor
