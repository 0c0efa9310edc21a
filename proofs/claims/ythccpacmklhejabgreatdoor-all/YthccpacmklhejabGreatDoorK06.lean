import Derived.Test.YthccpacmklhejabGreatDoorTk
import Derived.Test.YthccpacmklhejabGreatDoorK05
set_option maxHeartbeats 1000000
set_option maxRecDepth 100000
namespace Go.Proofs.YthccpacmklhejabGreatDoor
section
open Go.RowKit
def oldTo(es:List Ev)(k:Nat)(key:ByteArray):Bool:=(es.take k).any (λe=>decide (e.key=key))
theorem Qi5(es:List Ev)(k:Nat)(h:k<es.length)(key:ByteArray):oldTo es (k+1) key=(oldTo es k key || decide ((es[k]).key=key)):=by
 unfold oldTo;rw[List.take_succ_eq_append_getElem h,List.any_append];simp
def addRow(k:Kn)(r:RowV):RowV:=if k.there then⟨r.pt,r.tx,r.live+1,r.sum+k.value,r.ev+k.count⟩else⟨r.pt,r.tx,r.live,r.sum,r.ev+k.count⟩
def withRow(out:List RowV)(key:ByteArray):List RowV:=if placeS out (grp key).1=out.length then out++[⟨(grp key).1,(grp key).2,0,0,0⟩]else out
def addKey(es:List Ev)(out:List RowV)(key:ByteArray):List RowV:=(withRow out key).modify (placeS out (grp key).1) (addRow (knOf key es))
def rowsTo(es:List Ev):Nat->List RowV
 | 0=>[]
 | i+1=>if h:i<es.length then(if oldTo es i (es[i]).key then rowsTo es i else addKey es (rowsTo es i) (es[i]).key)else rowsTo es i
theorem Qi6(a b:ByteArray):(a.toList==b.toList)=decide (a=b):=by
 by_cases h:a=b
 ·subst h;simp
 ·have:=QgL h;simp[h]
  simpa using this
theorem Qkn(es:List Ev)(out:List RowV)(key:ByteArray):(addKey es out key).length<=out.length+1:=by
 unfold addKey withRow;rw[List.length_modify]
 split<;>simp
theorem QcS(es:List Ev):∀i,(rowsTo es i).length<=i
 | 0=>by simp[rowsTo]
 | i+1=>by
  have ih:=QcS es i;rw[rowsTo];split
  ·split
   ·omega
   ·have:=Qkn es (rowsTo es i) (es[i]).key;omega
  ·omega
theorem Qbr(r:RowV)(rs:List RowV):rowCells (r :: rs)=rowCells1 r++rowCells rs:=by simp[rowCells]
theorem Qnn(rs:List RowV)(n:Nat)(h:n<rs.length)(l:Nat)(u:Int)(e:Nat):
  (((rowCells rs).set (n*5+2) (.int .i64 (l:Int))).set (n*5+3) (.int .i64 u)).set (n*5+4) (.int .i64 (e:Int))=rowCells (rs.set n ⟨rs[n].pt,rs[n].tx,l,u,e⟩):=by
 have hs:rs=rs.take n++rs[n] :: rs.drop (n+1):=by rw[<-List.drop_eq_getElem_cons h,List.take_append_drop]
 have hset:rs.set n ⟨rs[n].pt,rs[n].tx,l,u,e⟩=rs.take n++⟨rs[n].pt,rs[n].tx,l,u,e⟩ :: rs.drop (n+1):=by rw[List.set_eq_take_append_cons_drop,if_pos h]
 rw[hset];generalize rs[n]=r at hs;generalize hT:rs.take n=T at hs;generalize rs.drop (n+1)=D at hs
 have hTl:T.length=n:=by rw[<-hT,List.length_take];omega
 have hlen:(rowCells T).length=n*5:=by rw[Qb0,hTl]
 subst hs;rw[QaR,QaR,Qbr,Qbr];rw[List.set_append_right _ _ omQ,List.set_append_right _ _ omQ,List.set_append_right _ _ omQ,hlen];rw[show n*5+2-n*5=2 from by omega,show n*5+3-n*5=3 from by omega,show n*5+4-n*5=4 from by omega]
 rfl
theorem Qko(rs:List RowV)(n:Nat)(h:n<rs.length)(e:Nat):
  (rowCells rs).set (n*5+4) (.int .i64 (e:Int))=rowCells (rs.set n ⟨rs[n].pt,rs[n].tx,rs[n].live,rs[n].sum,e⟩):=by
 have hs:rs=rs.take n++rs[n] :: rs.drop (n+1):=by rw[<-List.drop_eq_getElem_cons h,List.take_append_drop]
 have hset:rs.set n ⟨rs[n].pt,rs[n].tx,rs[n].live,rs[n].sum,e⟩=rs.take n++⟨rs[n].pt,rs[n].tx,rs[n].live,rs[n].sum,e⟩ :: rs.drop (n+1):=by rw[List.set_eq_take_append_cons_drop,if_pos h]
 rw[hset];generalize rs[n]=r at hs;generalize hT:rs.take n=T at hs;generalize rs.drop (n+1)=D at hs
 have hTl:T.length=n:=by rw[<-hT,List.length_take];omega
 have hlen:(rowCells T).length=n*5:=by rw[Qb0,hTl]
 subst hs;rw[QaR,QaR,Qbr,Qbr];rw[List.set_append_right _ _ omQ,hlen,show n*5+4-n*5=4 from by omega]
 rfl
theorem fillAt(rs:List RowV)(n:Nat)(h:n<rs.length)(x:RowV)(v2:Nat)(v3:Int)(v4:Nat):
  (rowCells (rs.set n x)).set (n*5+2) (.int .i64 (v2:Int))=rowCells (rs.set n ⟨x.pt,x.tx,v2,x.sum,x.ev⟩)/\(rowCells (rs.set n x)).set (n*5+3) (.int .i64 v3)=rowCells (rs.set n ⟨x.pt,x.tx,x.live,v3,x.ev⟩)/\(rowCells (rs.set n x)).set (n*5+4) (.int .i64 (v4:Int))=rowCells (rs.set n ⟨x.pt,x.tx,x.live,x.sum,v4⟩):=by
 have hset:∀y:RowV,rs.set n y=rs.take n++y :: rs.drop (n+1):=λy=>by rw[List.set_eq_take_append_cons_drop,if_pos h]
 have hlen:(rowCells (rs.take n)).length=n*5:=by rw[Qb0,List.length_take];congr 1;omega
 simp only[hset];generalize rs.take n=T at hlen;generalize rs.drop (n+1)=D;simp only[QaR,Qbr];refine⟨?_,?_,?_⟩
 ·rw[List.set_append_right _ _ omQ,hlen,show n*5+2-n*5=2 from by omega]
  rfl
 ·rw[List.set_append_right _ _ omQ,hlen,show n*5+3-n*5=3 from by omega]
  rfl
 ·rw[List.set_append_right _ _ omQ,hlen,show n*5+4-n*5=4 from by omega]
  rfl
theorem cellOf(rs:List RowV)(n:Nat)(h:n<rs.length)(x:RowV)(k:Nat)(hk:k<5):(rowCells (rs.set n x))[n*5+k]? =(rowCells1 x)[k]? :=by
 rw[QbO (rs.set n x) n (by simpa using h) k hk];simp
def RB(i:Nat)(r:RowV):Prop:=r.live<=i/\-(40000*(i:Int))<=r.sum/\r.sum<=40000*(i:Int)/\r.ev<=1000*i
def KB(k:Kn):Prop:=-32768<=k.value/\k.value<=32767/\k.count<=400
theorem Qe9:∀(es:List Ev) (k:Kn),(-32768<=k.value/\k.value<=32767)->(∀e∈es,e.ok)->(-32768<=(es.foldl Kn.step k).value/\(es.foldl Kn.step k).value<=32767)
 | [],k,hk,_=>hk
 | e :: es,k,hk,h=>by
  have hs:-32768<=(k.step e).value/\(k.step e).value<=32767:=by
   unfold Kn.step;split
   ·exact⟨(h e (by simp)).2.2.1,(h e (by simp)).2.2.2⟩
   ·exact hk
  exact Qe9 es (k.step e) hs (λx hx=>h x (by simp[hx]))
theorem Qcg{key:ByteArray}{es:List Ev}(h:∀e∈es,e.ok)(hl:es.length<=400):KB (knOf key es):=by
 have h1:=Qe9 (es.filter (λe=>decide (e.key=key))) Kn.none (by decide) (λe he=>h e (List.mem_filter.1 he).1);have h2:=(Qco (key:=key) (es:=es) λe he=>(h e he).2.1).2;exact⟨h1.1,h1.2,Nat.le_trans h2 hl⟩
theorem RB.add{i:Nat}{r:RowV}{k:Kn}(h:RB i r)(hk:KB k):RB (i+1) (addRow k r):=by
 obtain⟨h1,h2,h3,h4⟩:=h;obtain⟨k1,k2,k3⟩:=hk;unfold addRow RB
 split<;>simp only<;>omega
theorem RB.mono{i j:Nat}{r:RowV}(h:RB i r)(hij:i<=j):RB j r:=by
 obtain⟨h1,h2,h3,h4⟩:=h;unfold RB;omega
theorem Qgf{es:List Ev}{out:List RowV}{key:ByteArray}{i:Nat}(h:∀r∈out,RB i r)(hk:KB (knOf key es)):∀r∈addKey es out key,RB (i+1) r:=by
 have hw:∀r∈withRow out key,RB i r:=by
  unfold withRow;split
  ·intro r hr
   rcases List.mem_append.1 hr with hr | hr
   ·exact h r hr
   ·simp at hr;subst hr;unfold RB;simp only;omega
  ·exact h
 intro r hr;unfold addKey at hr;obtain⟨n,hn,rfl⟩:=List.getElem_of_mem hr;rw[List.getElem_modify]
 have hn':n<(withRow out key).length:=by simpa using hn
 split
 ·exact(hw _ (List.getElem_mem hn')).add hk
 ·exact(hw _ (List.getElem_mem hn')).mono omQ
theorem QbQ{es:List Ev}(h:∀e∈es,e.ok)(hl:es.length<=400):∀i,∀r∈rowsTo es i,RB i r
 | 0=>by simp[rowsTo]
 | i+1=>by
  have ih:=QbQ h hl i;rw[rowsTo];split
  ·split
   ·exact λr hr=>(ih r hr).mono omQ
   ·exact Qgf ih (Qcg h hl)
  ·exact λr hr=>(ih r hr).mono omQ
theorem below_drewN{B:Nat}{a w:World}(h:Below B a w)(n:Nat):Below B a (w.drewN n):=⟨h.os,h.tape,h.output,h.size,h.block⟩
theorem QdB{es:List Ev}{rs:List RowV}{key:ByteArray}{n:Nat}(hp:placeS rs (grp key).1=n)(h:n<rs.length):addKey es rs key=rs.set n (addRow (knOf key es) rs[n]):=by
 unfold addKey withRow;rw[hp,if_neg omQ];apply List.ext_getElem
 ·simp
 ·intro i h1 h2;rw[List.getElem_modify,List.getElem_set];split
  ·next e=>subst e;rfl
  ·rfl
theorem QdC{es:List Ev}{rs:List RowV}{key:ByteArray}(hp:placeS rs (grp key).1=rs.length):addKey es rs key=(rs++[RowV.mk (grp key).1 (grp key).2 0 0 0]).set rs.length (addRow (knOf key es) ⟨(grp key).1,(grp key).2,0,0,0⟩):=by
 unfold addKey withRow;rw[hp,if_pos rfl];apply List.ext_getElem
 ·simp
 ·intro i h1 h2;rw[List.getElem_modify,List.getElem_set];split
  ·next e=>subst e;simp
  ·rfl
theorem QcG{W:World}{k:Nat}{o:Option Obj}(h:W.heap[k]? =o):W.drew.heap[k]? =o:=h
theorem Qbs(w:World)(a b c d e:Value)(t:TypeId):∀j u,[a,b,c,d,e][j]? =some u->(w.alloc (.cells #[a,b,c,d,e] t)).cell? ((⟨w.heap.size,0,none⟩:Addr).add j)=some u:=by
 intro j u hu;have h:=Qaa (heap_alloc_new w (.cells #[a,b,c,d,e] t)) j
 have ha:(⟨w.heap.size,0,none⟩:Addr).add j=⟨w.heap.size,j,none⟩:=by
  by_cases hj:j=0
  ·subst hj;rfl
  ·simp[Addr.add,hj]
 rw[ha,h]
 simpa using hu
theorem Qep(r:RowV):∀u∈rowCells1 r,u.oneCell'=true:=by
 intro u hu;simp[rowCells1]at hu
 rcases hu with rfl | rfl | rfl | rfl | rfl<;>rfl
theorem Tryz.infoRow:(Tryz.prog.info? 140).map (λi=>(i.zero,i.size,i.bytes))=some (some (.agg #[.int .i64 0,.string ⟨#[]⟩,.int .i64 0,.int .i64 0,.int .i64 0]),5,48):=by kernel_rfl
theorem QbV{W:World}{B n g c:Nat}{e:TypeId}{s:Nat}{xs:List Value}(h:W.ownsRow B e s (.slice (some ⟨g,0,none⟩) n c) n xs):∃cur,W.heap[g]? =some (.cells cur e (0,0)):=by
 rcases h.2 with⟨h',_⟩ | ⟨g',cap',cur,h',_,hg,_⟩
 ·simp at h'
 ·simp at h';obtain⟨rfl,_⟩:=h';exact⟨cur,hg⟩
theorem QcK{W:World}{B n:Nat}{e:TypeId}{s:Nat}{v:Value}{xs:List Value}(h:W.ownsRow B e s v n xs):W.drew.ownsRow B e s v n xs:=h
theorem Qbt{W:World}{B n g c:Nat}{e:TypeId}{s:Nat}{xs:List Value}(h:W.ownsRow B e s (.slice (some ⟨g,0,none⟩) n c) n xs):B<=g/\g<W.heap.size:=h.lt g rfl
theorem Qdm{W:World}{B n:Nat}{e:TypeId}{s:Nat}{v:Value}{xs:List Value}(h:W.ownsRow B e s v n xs)(q:Nat):(W.drewN q).ownsRow B e s v n xs:=h
theorem IsEvs.below{w w':World}{a:Option Addr}{es:List Ev}(h:IsEvs w a es)(hb:Below w.heap.size w w'):IsEvs w' a es:=by
 refine⟨h.1,?_⟩
 rcases h.2 with h0 | ⟨b,off,ha,hbl,hcs⟩
 ·exact .inl h0
 ·refine .inr ⟨b,off,ha,Nat.lt_of_lt_of_le hbl hb.size,λk hk=>?_⟩;obtain⟨c0,c1,c2,c3⟩:=hcs k hk;exact⟨(hb.cell (p:=⟨b,off+k*4,none⟩) hbl).trans c0,(hb.cell (p:=⟨b,off+k*4+1,none⟩) hbl).trans c1,(hb.cell (p:=⟨b,off+k*4+2,none⟩) hbl).trans c2,(hb.cell (p:=⟨b,off+k*4+3,none⟩) hbl).trans c3⟩
theorem QlH(a:Option Addr)(cap:Nat)(es:List Ev)(w:World)(hlen:es.length<=400)(hev:IsEvs w a es)(hkey:∀e∈es,0<e.key.size/\e.key.size<=1000):
  Calls Tryz.prog 43 #[.slice a es.length cap] w λen w'=>∃(v:Value),en=.returned v/\w'.ownsRow w.heap.size 140 5 v (rowsTo es es.length).length (rowCells (rowsTo es es.length))/\Below w.heap.size w w':=by
 have Hev:=show Hid (IsEvs w a es)from hev
 have Hkey:=show Hid (∀e∈es,0<e.key.size/\e.key.size<=1000)from hkey
 clear hev hkey;go_enter Tryz.func43,Tryz.ntmps43;go_wp2
 go_loopw [3,4] (λv i wr=>∃(j:Nat) (av:Option Addr) (cv:Nat),j<=es.length/\i=.int .i64 (j:Int)/\v=.slice av (rowsTo es j).length cv/\wr.ownsRow w.heap.size 140 5 (.slice av (rowsTo es j).length cv) (rowsTo es j).length (rowCells (rowsTo es j))/\Below w.heap.size w wr) (λ_ i _=>es.length-(intOf i).toNat)
 case atStart=>exact⟨0,none,0,Nat.zero_le _,rfl,rfl,⟨by simp[rowsTo,rowCells],.inl ⟨rfl,rfl⟩⟩,Below.refl _ _⟩
 case round=>
  obtain⟨j,av,cv,hj,rfl,rfl,hown,hb⟩:=hrel
  by_cases hjl:j<es.length
  ·rcases Hev.out.2 with h0 | ⟨b,off,rfl,hbl,hcs⟩
   ·rw[h0]at hjl;simp at hjl
   have HC:Hid (∀k (h:k<es.length),wr.cell? ⟨b,off+k*4+1,none⟩=some (.string (es[k]).key)):=λk h=>(hb.cell (p:=⟨b,off+k*4+1,none⟩) hbl).trans (hcs k h).2.1
   have c1:=HC.out j hjl;clear hcs
   have HO:=show Hid (_/\_)from And.intro hown hb
   clear hown hb
   obtain⟨key,hke⟩:∃key,(es[j]'hjl).key=key:=⟨_,rfl⟩
   rw[hke]at c1;have hji:(j:Int)<(es.length:Int):=omQ;have hj0:(0:Int)<=(j:Int):=omQ;go_wp2
   go_loopw [5,6] (λo k wi=>∃(m nq:Nat),m<=j/\k=.int .i64 (m:Int)/\o=.bool (oldTo es m key)/\wi=wr.drewN nq) (λ_ k _=>j-(intOf k).toNat)
   case atStart=>exact⟨0,0,Nat.zero_le _,rfl,rfl,rfl⟩
   case round=>
    obtain⟨m,nq,hm,rfl,rfl,rfl⟩:=hrel
    by_cases hml:m<j
    ·have cm:=HC.out m omQ;have hsx:=Qi5 es m omQ key;have hmi:(m:Int)<(j:Int):=omQ;have hm0:(0:Int)<=(m:Int):=omQ;have hmi2:(m:Int)<(es.length:Int):=omQ;clear HO HC;generalize(es[m]'omQ).key=km at cm hsx;have hst:=Qi6 km key;generalize decide (km=key)=dk at hst hsx;generalize oldTo es m key=o at hsx ⊢
     cases o with
     | true=>
      go_wp2
      go_quiet (fail)
      go_wp2
      go_roundw
      case rel=>exact⟨m+1,_,by omega,by go_num,by rw[hsx];rfl,rfl⟩
      case measure=>simp[intOf];omega
     | false=>
      go_wp2
      go_quiet (fail)
      go_wp2
      go_roundw
      case rel=>exact⟨m+1,_,by omega,by go_num,by rw[hsx];rfl,rfl⟩
      case measure=>simp[intOf];omega
    ·have hmm:m=j:=omQ;subst hmm;clear HC c1
     obtain⟨o,ho⟩:∃o,oldTo es m key=o:=⟨_,rfl⟩
     rw[ho]
     have hnext:rowsTo es (m+1)=if o then rowsTo es m else addKey es (rowsTo es m) key:=by
      rw[rowsTo,dif_pos hjl,hke,ho]
     cases o with
     | true=>
      have HX:=show Hid (_/\_/\_)from And.intro hnext HO.out
      clear HO hnext;go_wp2
      go_roundw
      case rel=>exact⟨m+1,av,cv,by omega,by go_num,by rw[HX.out.1];rfl,by rw[HX.out.1];exact HX.out.2.1,below_drewN HX.out.2.2 nq⟩
      case measure=>simp[intOf];omega
     | false=>
      have hkz:=Hkey.out _ (List.getElem_mem hjl);rw[hke]at hkz
      have hG:=show Hid _ from λw=>Qc6 key w hkz.1 hkz.2
      have hK:=show Hid (∀w',Below w.heap.size w w'->Calls Tryz.prog 69 #[.slice (some ⟨b,off,none⟩) es.length cap,.string key] w' λen w''=>en=.returned (knOf key es).value'/\Below w'.heap.size w' w'')from λw' hb'=>QcB (some ⟨b,off,none⟩) cap es key w' omQ (Hev.out.below hb')
      obtain⟨p,t,hpt⟩:∃p t,grp key=(p,t):=⟨_,_,rfl⟩
      rw[hpt]at hG
      have hcell:(wr.drewN nq).cell? ⟨b,off+m*4+1,none⟩=some (.string key):=by
       rcases Hev.out.2 with h0 | ⟨b',off',hbo,hbl',hcs⟩
       ·rw[h0]at hjl;simp at hjl
       ·simp at hbo;obtain⟨rfl,rfl⟩:=hbo;have:=(HO.out.2.cell (p:=⟨b,off+m*4+1,none⟩) hbl).trans (hcs m hjl).2.1;rw[hke]at this;exact this
      have HP:Hid ((wr.drewN nq).ownsRow w.heap.size 140 5 (.slice av (rowsTo es m).length cv) (rowsTo es m).length (rowCells (rowsTo es m))/\Below w.heap.size w (wr.drewN nq)):=⟨HO.out.1,below_drewN HO.out.2 nq⟩
      have hrl:=QcS es m;have hRB:=QbQ Hev.out.1 hlen m;have hKB:KB (knOf key es):=Qcg Hev.out.1 hlen;clear HO;generalize wr.drewN nq=wd at hcell HP ⊢
      have HN:=show Hid (_=_)from hnext
      clear hnext Hev Hkey ho hke
      obtain⟨rs,hrs⟩:∃rs,rowsTo es m=rs:=⟨_,rfl⟩
      rw[hrs]at HP HN hrl hRB ⊢
      obtain⟨kn,hkn⟩:∃kn,knOf key es=kn:=⟨_,rfl⟩
      rw[hkn]at hK hKB;obtain⟨had,last,there,value,count⟩:=kn;unfold Kn.value' at hK;simp only at hK hG
      obtain⟨n,hn⟩:∃n,placeS rs p=n:=⟨_,rfl⟩
      have HRB:=hdQ hRB;obtain⟨k1,k2,k3⟩:=hKB;simp only at k1 k2 k3;clear hRB
      by_cases hnl:n<rs.length
      ·rcases Qai HP.out.1 with⟨_,h0⟩ | ⟨g,rfl⟩
       ·omega
       have hnli:(n:Int)<(rs.length:Int):=omQ;have hn0:(0:Int)<=(n:Int):=omQ;have hne:¬((n:Int)=(rs.length:Int)):=omQ
       cases there with
       | false=>
        go_wp2_with(first
         | (go_at_call 68;refine(hG.out _).mono ?_;rintro en w1 ⟨rfl,q1,rfl⟩;have hcell2:(wd.drewN q1).cell? ⟨b,off+m*4+1,none⟩=some (.string key):=hcell)
         | (go_at_call 69;refine(hK.out _ (below_drewN HP.out.2 _)).mono ?_;rintro en w2 ⟨rfl,hb2⟩;have ho2:=Qao (wr:=wd.drewN q1) (Qdm HP.out.1 q1) hb2;have hB2:=(below_drewN HP.out.2 q1).trans (hb2.mono (below_drewN HP.out.2 q1).size);clear hcell hcell2 hG hK HP hb2)
         | (go_at_call 70;refine(QcR (some ⟨g,0,none⟩) cv rs p w.heap.size _ omQ (ho2.alloc _)).mono ?_;rw[hn];rintro en w4 ⟨rfl,rfl⟩))
        have hgl:=(Qbt ho2).2;have hgb:=(Qbt ho2).1
        have HN2:Hid (rowsTo es (m+1)=rs.set n ⟨(rs[n]'hnl).pt,(rs[n]'hnl).tx,(rs[n]'hnl).live,(rs[n]'hnl).sum,(rs[n]'hnl).ev+count⟩):=by
         show rowsTo es (m+1)=_
         have h1:=HN.out;have h2:=QdB (es:=es) (rs:=rs) (key:=key) (n:=n) (by rw[hpt];exact hn) hnl;rw[hkn]at h2;simp only[Bool.false_eq_true,if_false]at h1;rw[h1,h2]
         rfl
        obtain⟨kb,hkb⟩:∃kb,w2.heap.size=kb:=⟨_,rfl⟩
        have HQ:Hid (_/\_/\_):=And.intro (ho2.alloc (.cells #[.bool had,.int .i64 (last:Int),.bool false,.int .i64 value,.int .i64 (count:Int)] 144)) (And.intro (heap_alloc_new w2 (.cells #[.bool had,.int .i64 (last:Int),.bool false,.int .i64 value,.int .i64 (count:Int)] 144)) (hB2.alloc hB2.size (.cells #[.bool had,.int .i64 (last:Int),.bool false,.int .i64 value,.int .i64 (count:Int)] 144)));rw[hkb]at HQ hgl ⊢;generalize w2.alloc (.cells #[.bool had,.int .i64 (last:Int),.bool false,.int .i64 value,.int .i64 (count:Int)] 144)=w3 at HQ ⊢;clear ho2 hB2 hkb;have hev:=HQ.out.1.cellAt (n*5+4) omQ;rw[QbO rs n hnl 4 (by decide)]at hev;have hev2:w3.drew.cell? ⟨g,n*5+4,none⟩=some (.int .i64 ((rs[n]'hnl).ev:Int)):=hev;have hfz:w3.drew.frozen? ⟨g,n*5+4,none⟩=false:=HQ.out.1.frozenAt (n*5+4);have hrb:=HRB.out _ (List.getElem_mem hnl);obtain⟨r1,r2,r3,r4⟩:=hrb;have hst:=HQ.out.1.stored (n*5+4) (.int .i64 (((rs[n]'hnl).ev:Int)+(count:Int)));have e4:=Qko rs n hnl ((rs[n]'hnl).ev+count);rw[Int.natCast_add]at e4;rw[e4]at hst;have HT:Hid (_/\_/\_):=And.intro (QcK hst.1) (And.intro ((Below.heap_setCell w3 ⟨g,n*5+4,none⟩ (.int .i64 (((rs[n]'hnl).ev:Int)+(count:Int))) kb (by simp;omega)).trans HQ.out.2.1) (HQ.out.2.2.setCell (p:=⟨g,n*5+4,none⟩) hgb (.int .i64 (((rs[n]'hnl).ev:Int)+(count:Int)))).drew);clear hst e4;clear hev;refine wp_region_held_drew (S:=λw':World=>w'.heap[kb]? =some (.cells #[.bool had,.int .i64 (last:Int),.bool false,.int .i64 value,.int .i64 (count:Int)] 144 (0,0))) krQ HQ.out.2.1 (λhH=>?_);refine tkQ 0 (.slice (some ⟨g,0,none⟩) rs.length cv) hH ?_;refine tkQ 1 (.int .i64 (n:Int)) hH ?_;refine tkQ 2 (.slice (some ⟨g,0,none⟩) rs.length cv) hH ?_;refine tkQ 3 (.int .i64 (n:Int)) hH ?_;refine tkQ 4 (.pointer (some ⟨g,n*5,none⟩)) hH ?_;refine tkQ 5 (.pointer (some ⟨g,n*5+4,none⟩)) hH ?_;refine tkQ 7 (.pointer (some ⟨kb,4,none⟩)) hH ?_;refine tlQ 8 (.int .i64 (count:Int)) rfl (by intro v hSw;have s4:v.cell? ⟨kb,4,none⟩=some (.int .i64 (count:Int)):=Qaa hSw 4;clear hSw;go_simp) hH ?_;refine rdQ [6] ?_
        refine arQ λK hK=>?_
        have HH:=hdQ hH;clear hH;go_simp;refine hK.out _ _ HH.out (λhH=>?_);clear hK K HH;refine tlQ 9 (.int .i64 ((((rs[n]'hnl).ev+count:Nat)):Int)) rfl (by intro v hSw;clear hSw;go_simp;rw[IntWalk.i64_in _ ⟨by omega,by omega⟩];try omega) hH ?_;refine tkQ 10 (.pointer (some ⟨g,n*5,none⟩)) hH ?_;refine tkQ 11 (.pointer (some ⟨g,n*5+4,none⟩)) hH ?_;refine rdQ [12] ?_
        refine arQ λK hK=>?_
        have HH:=hdQ hH;clear hH;go_simp;refine hK.out _ _ HT.out.2.1 (λhH=>?_);clear hK K HH hH hev2 hfz HQ;refine wpAnyH_done krQ ?_ _;generalize HW:(w3.setCell ⟨g,n*5+4,none⟩ (.int .i64 (((rs[n]'hnl).ev:Int)+(count:Int)))).drew=w5 at HT ⊢;go_wp2
        go_roundw
        case rel=>exact⟨m+1,some ⟨g,0,none⟩,cv,by omega,by go_num,by rw[HN2.out,List.length_set],by rw[HN2.out,List.length_set];exact HT.out.1,HT.out.2.2⟩
        case measure=>simp[intOf];omega
       | true=>
        have hrb:=HRB.out _ (List.getElem_mem hnl);have h1:=HN.out;have h2:=QdB (es:=es) (rs:=rs) (key:=key) (n:=n) (by rw[hpt];exact hn) hnl;rw[hkn]at h2;simp only[Bool.false_eq_true,if_false]at h1;rw[h2]at h1
        have hse:rowCells rs=rowCells (rs.set n (rs[n]'hnl)):=by rw[List.set_getElem_self]
        generalize rs[n]'hnl=x at hrb h1 hse;obtain⟨pt,tx,live,sm,ev⟩:=x;obtain⟨r1,r2,r3,r4⟩:=hrb;simp only at r1 r2 r3 r4;have HN2:Hid (rowsTo es (m+1)=rs.set n ⟨pt,tx,live+1,sm+value,ev+count⟩):=h1;clear h1 h2 HN
        go_wp2_with(first
         | (go_at_call 68;refine(hG.out _).mono ?_;rintro en w1 ⟨rfl,q1,rfl⟩;have hcell2:(wd.drewN q1).cell? ⟨b,off+m*4+1,none⟩=some (.string key):=hcell)
         | (go_at_call 69;refine(hK.out _ (below_drewN HP.out.2 _)).mono ?_;rintro en w2 ⟨rfl,hb2⟩;have ho2:=Qao (wr:=wd.drewN q1) (Qdm HP.out.1 q1) hb2;have hB2:=(below_drewN HP.out.2 q1).trans (hb2.mono (below_drewN HP.out.2 q1).size);have hgl:=(Qbt ho2).2;have hgb:=(Qbt ho2).1;rw[hse]at ho2;have HQ0:Hid (_/\_/\_):=And.intro (ho2.alloc (.cells #[.bool had,.int .i64 (last:Int),.bool true,.int .i64 value,.int .i64 (count:Int)] 144)) (And.intro (heap_alloc_new w2 (.cells #[.bool had,.int .i64 (last:Int),.bool true,.int .i64 value,.int .i64 (count:Int)] 144)) (hB2.alloc hB2.size (.cells #[.bool had,.int .i64 (last:Int),.bool true,.int .i64 value,.int .i64 (count:Int)] 144)));have hl3:(w2.alloc (.cells #[.bool had,.int .i64 (last:Int),.bool true,.int .i64 value,.int .i64 (count:Int)] 144)).cell? ⟨g,n*5+2,none⟩=some (.int .i64 (live:Int)):=(HQ0.out.1.cellAt (n*5+2) omQ).trans (cellOf rs n hnl ⟨pt,tx,live,sm,ev⟩ 2 (by decide));have hf3:(w2.alloc (.cells #[.bool had,.int .i64 (last:Int),.bool true,.int .i64 value,.int .i64 (count:Int)] 144)).frozen? ⟨g,n*5+2,none⟩=false:=HQ0.out.1.frozenAt (n*5+2);clear hcell hcell2 hG hK HP hb2)
         | (go_at_call 70;refine(QcR (some ⟨g,0,none⟩) cv rs p w.heap.size _ omQ (by rw[hse];exact HQ0.out.1)).mono ?_;rw[hn];rintro en w4 ⟨rfl,rfl⟩))
        have hst:=ho2.stored (n*5+2) (.int .i64 ((live:Int)+1));have e4:=(fillAt rs n hnl ⟨pt,tx,live,sm,ev⟩ (live+1) 0 0).1;have e5:(((live+1:Nat)):Int)=(live:Int)+1:=omQ;rw[e5]at e4;rw[e4]at hst;have hbx:=heap_alloc_new (w2.setCell ⟨g,n*5+2,none⟩ (.int .i64 ((live:Int)+1))) (.cells #[.bool had,.int .i64 (last:Int),.bool true,.int .i64 value,.int .i64 (count:Int)] 144);rw[World.size_setCell]at hbx;have HQ:Hid (_/\_/\_):=And.intro (hst.1.alloc (.cells #[.bool had,.int .i64 (last:Int),.bool true,.int .i64 value,.int .i64 (count:Int)] 144)) (And.intro hbx ((hB2.setCell (p:=⟨g,n*5+2,none⟩) hgb (.int .i64 ((live:Int)+1))).alloc (by rw[World.size_setCell];exact hB2.size) (.cells #[.bool had,.int .i64 (last:Int),.bool true,.int .i64 value,.int .i64 (count:Int)] 144)));clear hst e4 e5 hl3 hf3 HQ0 ho2 hB2 hbx;generalize(w2.setCell ⟨g,n*5+2,none⟩ (.int .i64 ((live:Int)+1))).alloc (.cells #[.bool had,.int .i64 (last:Int),.bool true,.int .i64 value,.int .i64 (count:Int)] 144)=w3 at HQ ⊢;generalize w2.heap.size=kb at HQ hgl ⊢;have hev3:w3.drew.cell? ⟨g,n*5+3,none⟩=some (.int .i64 (sm)):=(HQ.out.1.cellAt (n*5+3) omQ).trans (cellOf rs n hnl ⟨pt,tx,live+1,sm,ev⟩ 3 (by decide));have hfz3:w3.drew.frozen? ⟨g,n*5+3,none⟩=false:=HQ.out.1.frozenAt (n*5+3);have hst:=HQ.out.1.stored (n*5+3) (.int .i64 (sm+value));have e4:=(fillAt rs n hnl ⟨pt,tx,live+1,sm,ev⟩ 0 (sm+value) 0).2.1;rw[e4]at hst;have HQ2:Hid (_/\_/\_):=And.intro (QcK hst.1) (And.intro (QcG ((Below.heap_setCell w3 ⟨g,n*5+3,none⟩ (.int .i64 (sm+value)) kb (by simp;omega)).trans HQ.out.2.1)) (HQ.out.2.2.setCell (p:=⟨g,n*5+3,none⟩) hgb (.int .i64 (sm+value))).drew);clear hst e4;refine wp_region_held_drew (S:=λw':World=>w'.heap[kb]? =some (.cells #[.bool had,.int .i64 (last:Int),.bool true,.int .i64 value,.int .i64 (count:Int)] 144 (0,0))) krQ HQ.out.2.1 (λhH=>?_);refine tkQ 0 (.slice (some ⟨g,0,none⟩) rs.length cv) hH ?_;refine tkQ 1 (.int .i64 (n:Int)) hH ?_;refine tkQ 2 (.slice (some ⟨g,0,none⟩) rs.length cv) hH ?_;refine tkQ 3 (.int .i64 (n:Int)) hH ?_;refine tkQ 4 (.pointer (some ⟨g,n*5,none⟩)) hH ?_;refine tkQ 5 (.pointer (some ⟨g,n*5+3,none⟩)) hH ?_;refine tkQ 7 (.pointer (some ⟨kb,3,none⟩)) hH ?_;refine tlQ 8 (.int .i64 value) rfl (by intro v hSw;have s4:v.cell? ⟨kb,3,none⟩=some (.int .i64 value):=Qaa hSw 3;clear hSw;go_simp) hH ?_;refine rdQ [6] ?_
        refine arQ λK hK=>?_
        have HH:=hdQ hH;clear hH;go_simp;refine hK.out _ _ HH.out (λhH=>?_);clear hK K HH;refine tlQ 9 (.int .i64 (sm+value)) rfl (by intro v hSw;clear hSw;go_simp;rw[IntWalk.i64_in _ ⟨by omega,by omega⟩]) hH ?_;refine tkQ 10 (.pointer (some ⟨g,n*5,none⟩)) hH ?_;refine tkQ 11 (.pointer (some ⟨g,n*5+3,none⟩)) hH ?_;refine rdQ [12] ?_
        refine arQ λK hK=>?_
        have HH:=hdQ hH;clear hH;go_simp;refine hK.out _ _ HQ2.out.2.1 (λhH=>?_);clear hK K HH hH hev3 hfz3 HQ;refine wpAnyH_done krQ ?_ _;generalize(w3.setCell ⟨g,n*5+3,none⟩ (.int .i64 (sm+value))).drew=w5 at HQ2 ⊢;go_wp2;have hev4:w5.drew.cell? ⟨g,n*5+4,none⟩=some (.int .i64 (ev:Int)):=(HQ2.out.1.cellAt (n*5+4) omQ).trans (cellOf rs n hnl ⟨pt,tx,live+1,sm+value,ev⟩ 4 (by decide));have hfz4:w5.drew.frozen? ⟨g,n*5+4,none⟩=false:=HQ2.out.1.frozenAt (n*5+4);have hst:=HQ2.out.1.stored (n*5+4) (.int .i64 ((ev:Int)+(count:Int)));have e4:=(fillAt rs n hnl ⟨pt,tx,live+1,sm+value,ev⟩ 0 0 (ev+count)).2.2;rw[Int.natCast_add]at e4;rw[e4]at hst;have HQ3:Hid (_/\_/\_):=And.intro (QcK hst.1) (And.intro (QcG ((Below.heap_setCell w5 ⟨g,n*5+4,none⟩ (.int .i64 ((ev:Int)+(count:Int))) kb (by simp;omega)).trans HQ2.out.2.1)) (HQ2.out.2.2.setCell (p:=⟨g,n*5+4,none⟩) hgb (.int .i64 ((ev:Int)+(count:Int)))).drew);clear hst e4;refine wp_region_held_drew (S:=λw':World=>w'.heap[kb]? =some (.cells #[.bool had,.int .i64 (last:Int),.bool true,.int .i64 value,.int .i64 (count:Int)] 144 (0,0))) krQ HQ2.out.2.1 (λhH=>?_);refine tkQ 0 (.slice (some ⟨g,0,none⟩) rs.length cv) hH ?_;refine tkQ 1 (.int .i64 (n:Int)) hH ?_;refine tkQ 2 (.slice (some ⟨g,0,none⟩) rs.length cv) hH ?_;refine tkQ 3 (.int .i64 (n:Int)) hH ?_;refine tkQ 4 (.pointer (some ⟨g,n*5,none⟩)) hH ?_;refine tkQ 5 (.pointer (some ⟨g,n*5+4,none⟩)) hH ?_;refine tkQ 7 (.pointer (some ⟨kb,4,none⟩)) hH ?_;refine tlQ 8 (.int .i64 (count:Int)) rfl (by intro v hSw;have s4:v.cell? ⟨kb,4,none⟩=some (.int .i64 (count:Int)):=Qaa hSw 4;clear hSw;go_simp) hH ?_;refine rdQ [6] ?_
        refine arQ λK hK=>?_
        have HH:=hdQ hH;clear hH;go_simp;refine hK.out _ _ HH.out (λhH=>?_);clear hK K HH;refine tlQ 9 (.int .i64 ((ev:Int)+(count:Int))) rfl (by intro v hSw;clear hSw;go_simp;rw[IntWalk.i64_in _ ⟨by omega,by omega⟩]) hH ?_;refine tkQ 10 (.pointer (some ⟨g,n*5,none⟩)) hH ?_;refine tkQ 11 (.pointer (some ⟨g,n*5+4,none⟩)) hH ?_;refine rdQ [12] ?_
        refine arQ λK hK=>?_
        have HH:=hdQ hH;clear hH;go_simp;refine hK.out _ _ HQ3.out.2.1 (λhH=>?_);clear hK K HH hH hev4 hfz4 HQ2;refine wpAnyH_done krQ ?_ _;generalize(w5.setCell ⟨g,n*5+4,none⟩ (.int .i64 ((ev:Int)+(count:Int)))).drew=w6 at HQ3 ⊢;go_wp2
        go_roundw
        case rel=>exact⟨m+1,some ⟨g,0,none⟩,cv,by omega,by go_num,by rw[HN2.out,List.length_set],by rw[HN2.out,List.length_set];exact HQ3.out.1,HQ3.out.2.2⟩
        case measure=>simp[intOf];omega
      ·have hnr:n=rs.length:=by
        have:placeS rs p<=rs.length:=List.findIdx_le_length;omega
       cases there with
       | false=>
        obtain⟨i0,hi,hz0,hz1,hz2⟩:=info_parts Tryz.infoRow;have h1:=HN.out;have h2:=QdC (es:=es) (rs:=rs) (key:=key) (by rw[hpt];exact hn.trans hnr);rw[hkn,hpt]at h2;simp only[Bool.false_eq_true,if_false]at h1;rw[h2,<-hnr]at h1
        have hql:(rs++[RowV.mk p t 0 0 0]).length=rs.length+1:=by simp
        have hrq0:rowCells rs++rowCells1 ⟨p,t,0,0,0⟩=rowCells (rs++[RowV.mk p t 0 0 0]):=by rw[QaR];simp[rowCells]
        have hxq:(rs++[RowV.mk p t 0 0 0]).set n ⟨p,t,0,0,0⟩=rs++[RowV.mk p t 0 0 0]:=by rw[hnr];simp
        have hrb:RB m ⟨p,t,0,0,0⟩:=by unfold RB;simp only;omega
        obtain⟨rq,hq⟩:∃rq,rs++[RowV.mk p t 0 0 0]=rq:=⟨_,rfl⟩
        simp only[hq]at h1 hql hrq0 hxq
        obtain⟨x,hx⟩:∃x,RowV.mk p t 0 0 0=x:=⟨_,rfl⟩
        rw[hx]at h1 hxq hrb
        have hrq:rowCells rs++rowCells1 ⟨p,t,0,0,0⟩=rowCells (rq.set n x):=by rw[hxq];exact hrq0
        clear hrq0 hxq hx hq h2;have hnq:n<rq.length:=omQ;have hnli:(n:Int)<(rs.length:Int)+1:=omQ;have hn0:(0:Int)<=(n:Int):=omQ
        have hne:((n:Int)==(rs.length:Int))=true:=by rw[hnr];simp
        have hnq2:n<rs.length+1:=omQ;clear hnr hnl;obtain⟨pt,tx,live,sm,ev⟩:=x;obtain⟨r1,r2,r3,r4⟩:=hrb;simp only at r1 r2 r3 r4;have HN2:Hid (rowsTo es (m+1)=rq.set n ⟨pt,tx,live,sm,ev+count⟩):=h1;clear h1 HN
        go_wp2_with(first
         | (go_at_call 68;refine(hG.out _).mono ?_;rintro en w1 ⟨rfl,q1,rfl⟩;have hcell2:(wd.drewN q1).cell? ⟨b,off+m*4+1,none⟩=some (.string key):=hcell)
         | (go_at_call 69;refine(hK.out _ (below_drewN HP.out.2 _)).mono ?_;rintro en w2 ⟨rfl,hb2⟩;have ho2:=Qao (wr:=wd.drewN q1) (Qdm HP.out.1 q1) hb2;have hB2:=(below_drewN HP.out.2 q1).trans (hb2.mono (below_drewN HP.out.2 q1).size);clear hcell hcell2 hG hK HP hb2)
         | (go_at_call 70;refine(QcR av cv rs p w.heap.size _ omQ (ho2.alloc _)).mono ?_;rw[hn];rintro en w4 ⟨rfl,rfl⟩)
         | (at_builtin;refine wpList_append_own _ rfl (.tmp 60) (.tmp 64) 70 rfl w.heap.size 140 i0 (.agg #[.int .i64 0,.string ⟨#[]⟩,.int .i64 0,.int .i64 0,.int .i64 0]) 5 48 Tryz.underlying70 hi hz0 hz1 hz2 rfl (by decide) _ rs.length (rowCells rs) rfl ((ho2.alloc _).alloc _) ⟨w2.heap.size+1,0,none⟩ 1 1 (rowCells1 ⟨p,t,0,0,0⟩) rfl rfl (by have:=Qbs (w2.alloc (.cells #[.bool had,.int .i64 (last:Int),.bool false,.int .i64 value,.int .i64 (count:Int)] 144)) (.int .i64 (p:Int)) (.string t) (.int .i64 0) (.int .i64 0) (.int .i64 0) 140;simpa[rowCells1]using this) (Qep _) (by unfold maxLen;omega) (by omega) (by have:=hB2.size;simp<;>omega) ?_;intro v2 w5 hown5 hgrow5 _;obtain⟨g,cg,rfl⟩:=QbC hown5 (by omega);have hvb:∀q,(Value.slice av rs.length cv).ownBlock=some q->w.heap.size<=q/\q<w2.heap.size:=λq hq=>ho2.lt q hq;have hbx:w5.heap[w2.heap.size]? =some (.cells #[.bool had,.int .i64 (last:Int),.bool false,.int .i64 value,.int .i64 (count:Int)] 144 (0,0)):=(hgrow5.block w2.heap.size (by simp<;>omega) (λe=>by have:=(hvb _ e.symm).2;omega)).trans ((Below.heap_alloc _ _ _ (by simp)).trans (heap_alloc_new w2 _));have hB5:Below w.heap.size w w5:=((hB2.alloc hB2.size (.cells #[.bool had,.int .i64 (last:Int),.bool false,.int .i64 value,.int .i64 (count:Int)] 144)).alloc (by have:=hB2.size;simp<;>omega) _).grown hgrow5 (by have:=hB2.size;simp<;>omega) (λq hq=>(hvb q hq).1);rw[hrq]at hown5;have HQ0:Hid (_/\_/\_):=And.intro hown5 (And.intro hbx hB5);have hgb:=(Qbt hown5).1;have hgl:g≠w2.heap.size:=λe=>(by obtain⟨cur,hcur⟩:=QbV hown5;rw[e]at hcur;rw[hbx]at hcur;simp at hcur);have hk2:w5.cell? ⟨w2.heap.size,2,none⟩=some (.bool false):=Qaa hbx 2;have hl3:w5.cell? ⟨g,n*5+2,none⟩=some (.int .i64 (live:Int)):=(HQ0.out.1.cellAt (n*5+2) (by omega)).trans (cellOf rq n hnq ⟨pt,tx,live,sm,ev⟩ 2 (by decide));have hf3:w5.frozen? ⟨g,n*5+2,none⟩=false:=HQ0.out.1.frozenAt (n*5+2);clear ho2 hB2 hvb hgrow5 hbx hB5 hown5))
        clear hl3 hf3 hk2;generalize w2.heap.size=kb at HQ0 hgl ⊢;have hev4:w5.drew.cell? ⟨g,n*5+4,none⟩=some (.int .i64 (ev:Int)):=(HQ0.out.1.cellAt (n*5+4) omQ).trans (cellOf rq n hnq ⟨pt,tx,live,sm,ev⟩ 4 (by decide));have hfz4:w5.drew.frozen? ⟨g,n*5+4,none⟩=false:=HQ0.out.1.frozenAt (n*5+4);have hst:=HQ0.out.1.stored (n*5+4) (.int .i64 ((ev:Int)+(count:Int)));have e4:=(fillAt rq n hnq ⟨pt,tx,live,sm,ev⟩ 0 0 (ev+count)).2.2;rw[Int.natCast_add]at e4;rw[e4]at hst;have HQ3:Hid (_/\_/\_):=And.intro (QcK hst.1) (And.intro (QcG ((Below.heap_setCell w5 ⟨g,n*5+4,none⟩ (.int .i64 ((ev:Int)+(count:Int))) kb (by simp;exact λe=>hgl e.symm)).trans HQ0.out.2.1)) (HQ0.out.2.2.setCell (p:=⟨g,n*5+4,none⟩) hgb (.int .i64 ((ev:Int)+(count:Int)))).drew);clear hst e4;refine wp_region_held_drew (S:=λw':World=>w'.heap[kb]? =some (.cells #[.bool had,.int .i64 (last:Int),.bool false,.int .i64 value,.int .i64 (count:Int)] 144 (0,0))) krQ HQ0.out.2.1 (λhH=>?_);refine tkQ 0 (.slice (some ⟨g,0,none⟩) (rs.length+1) cg) hH ?_;refine tkQ 1 (.int .i64 (n:Int)) hH ?_;refine tkQ 2 (.slice (some ⟨g,0,none⟩) (rs.length+1) cg) hH ?_;refine tkQ 3 (.int .i64 (n:Int)) hH ?_;refine tkQ 4 (.pointer (some ⟨g,n*5,none⟩)) hH ?_;refine tkQ 5 (.pointer (some ⟨g,n*5+4,none⟩)) hH ?_;refine tkQ 7 (.pointer (some ⟨kb,4,none⟩)) hH ?_;refine tlQ 8 (.int .i64 (count:Int)) rfl (by intro v hSw;have s4:v.cell? ⟨kb,4,none⟩=some (.int .i64 (count:Int)):=Qaa hSw 4;clear hSw;go_simp) hH ?_;refine rdQ [6] ?_
        refine arQ λK hK=>?_
        have HH:=hdQ hH;clear hH;go_simp;refine hK.out _ _ HH.out (λhH=>?_);clear hK K HH;refine tlQ 9 (.int .i64 ((ev:Int)+(count:Int))) rfl (by intro v hSw;clear hSw;go_simp;rw[IntWalk.i64_in _ ⟨by omega,by omega⟩]) hH ?_;refine tkQ 10 (.pointer (some ⟨g,n*5,none⟩)) hH ?_;refine tkQ 11 (.pointer (some ⟨g,n*5+4,none⟩)) hH ?_;refine rdQ [12] ?_
        refine arQ λK hK=>?_
        have HH:=hdQ hH;clear hH;go_simp;refine hK.out _ _ HQ3.out.2.1 (λhH=>?_);clear hK K HH hH hev4 hfz4 HQ0;refine wpAnyH_done krQ ?_ _;generalize(w5.setCell ⟨g,n*5+4,none⟩ (.int .i64 ((ev:Int)+(count:Int)))).drew=w7 at HQ3 ⊢;go_wp2
        go_roundw
        case rel=>exact⟨m+1,some ⟨g,0,none⟩,cg,by omega,by go_num,by rw[HN2.out,List.length_set,hql],by rw[HN2.out,List.length_set,hql];exact HQ3.out.1,HQ3.out.2.2⟩
        case measure=>simp[intOf];omega
       | true=>
        obtain⟨i0,hi,hz0,hz1,hz2⟩:=info_parts Tryz.infoRow;have h1:=HN.out;have h2:=QdC (es:=es) (rs:=rs) (key:=key) (by rw[hpt];exact hn.trans hnr);rw[hkn,hpt]at h2;simp only[Bool.false_eq_true,if_false]at h1;rw[h2,<-hnr]at h1
        have hql:(rs++[RowV.mk p t 0 0 0]).length=rs.length+1:=by simp
        have hrq0:rowCells rs++rowCells1 ⟨p,t,0,0,0⟩=rowCells (rs++[RowV.mk p t 0 0 0]):=by rw[QaR];simp[rowCells]
        have hxq:(rs++[RowV.mk p t 0 0 0]).set n ⟨p,t,0,0,0⟩=rs++[RowV.mk p t 0 0 0]:=by rw[hnr];simp
        have hrb:RB m ⟨p,t,0,0,0⟩:=by unfold RB;simp only;omega
        obtain⟨rq,hq⟩:∃rq,rs++[RowV.mk p t 0 0 0]=rq:=⟨_,rfl⟩
        simp only[hq]at h1 hql hrq0 hxq
        obtain⟨x,hx⟩:∃x,RowV.mk p t 0 0 0=x:=⟨_,rfl⟩
        rw[hx]at h1 hxq hrb
        have hrq:rowCells rs++rowCells1 ⟨p,t,0,0,0⟩=rowCells (rq.set n x):=by rw[hxq];exact hrq0
        clear hrq0 hxq hx hq h2;have hnq:n<rq.length:=omQ;have hnli:(n:Int)<(rs.length:Int)+1:=omQ;have hn0:(0:Int)<=(n:Int):=omQ
        have hne:((n:Int)==(rs.length:Int))=true:=by rw[hnr];simp
        have hnq2:n<rs.length+1:=omQ;clear hnr hnl;obtain⟨pt,tx,live,sm,ev⟩:=x;obtain⟨r1,r2,r3,r4⟩:=hrb;simp only at r1 r2 r3 r4;have HN2:Hid (rowsTo es (m+1)=rq.set n ⟨pt,tx,live+1,sm+value,ev+count⟩):=h1;clear h1 HN
        go_wp2_with(first
         | (go_at_call 68;refine(hG.out _).mono ?_;rintro en w1 ⟨rfl,q1,rfl⟩;have hcell2:(wd.drewN q1).cell? ⟨b,off+m*4+1,none⟩=some (.string key):=hcell)
         | (go_at_call 69;refine(hK.out _ (below_drewN HP.out.2 _)).mono ?_;rintro en w2 ⟨rfl,hb2⟩;have ho2:=Qao (wr:=wd.drewN q1) (Qdm HP.out.1 q1) hb2;have hB2:=(below_drewN HP.out.2 q1).trans (hb2.mono (below_drewN HP.out.2 q1).size);clear hcell hcell2 hG hK HP hb2)
         | (go_at_call 70;refine(QcR av cv rs p w.heap.size _ omQ (ho2.alloc _)).mono ?_;rw[hn];rintro en w4 ⟨rfl,rfl⟩)
         | (at_builtin;refine wpList_append_own _ rfl (.tmp 60) (.tmp 64) 70 rfl w.heap.size 140 i0 (.agg #[.int .i64 0,.string ⟨#[]⟩,.int .i64 0,.int .i64 0,.int .i64 0]) 5 48 Tryz.underlying70 hi hz0 hz1 hz2 rfl (by decide) _ rs.length (rowCells rs) rfl ((ho2.alloc _).alloc _) ⟨w2.heap.size+1,0,none⟩ 1 1 (rowCells1 ⟨p,t,0,0,0⟩) rfl rfl (by have:=Qbs (w2.alloc (.cells #[.bool had,.int .i64 (last:Int),.bool true,.int .i64 value,.int .i64 (count:Int)] 144)) (.int .i64 (p:Int)) (.string t) (.int .i64 0) (.int .i64 0) (.int .i64 0) 140;simpa[rowCells1]using this) (Qep _) (by unfold maxLen;omega) (by omega) (by have:=hB2.size;simp<;>omega) ?_;intro v2 w5 hown5 hgrow5 _;obtain⟨g,cg,rfl⟩:=QbC hown5 (by omega);have hvb:∀q,(Value.slice av rs.length cv).ownBlock=some q->w.heap.size<=q/\q<w2.heap.size:=λq hq=>ho2.lt q hq;have hbx:w5.heap[w2.heap.size]? =some (.cells #[.bool had,.int .i64 (last:Int),.bool true,.int .i64 value,.int .i64 (count:Int)] 144 (0,0)):=(hgrow5.block w2.heap.size (by simp<;>omega) (λe=>by have:=(hvb _ e.symm).2;omega)).trans ((Below.heap_alloc _ _ _ (by simp)).trans (heap_alloc_new w2 _));have hB5:Below w.heap.size w w5:=((hB2.alloc hB2.size (.cells #[.bool had,.int .i64 (last:Int),.bool true,.int .i64 value,.int .i64 (count:Int)] 144)).alloc (by have:=hB2.size;simp<;>omega) _).grown hgrow5 (by have:=hB2.size;simp<;>omega) (λq hq=>(hvb q hq).1);rw[hrq]at hown5;have HQ0:Hid (_/\_/\_):=And.intro hown5 (And.intro hbx hB5);have hgb:=(Qbt hown5).1;have hgl:g≠w2.heap.size:=λe=>(by obtain⟨cur,hcur⟩:=QbV hown5;rw[e]at hcur;rw[hbx]at hcur;simp at hcur);have hk2:w5.cell? ⟨w2.heap.size,2,none⟩=some (.bool true):=Qaa hbx 2;have hl3:w5.cell? ⟨g,n*5+2,none⟩=some (.int .i64 (live:Int)):=(HQ0.out.1.cellAt (n*5+2) (by omega)).trans (cellOf rq n hnq ⟨pt,tx,live,sm,ev⟩ 2 (by decide));have hf3:w5.frozen? ⟨g,n*5+2,none⟩=false:=HQ0.out.1.frozenAt (n*5+2);clear ho2 hB2 hvb hgrow5 hbx hB5 hown5))
        have hst:=HQ0.out.1.stored (n*5+2) (.int .i64 ((live:Int)+1));have e4:=(fillAt rq n hnq ⟨pt,tx,live,sm,ev⟩ (live+1) 0 0).1;have e5:(((live+1:Nat)):Int)=(live:Int)+1:=omQ;rw[e5]at e4;rw[e4]at hst;have HQ:Hid (_/\_/\_):=And.intro hst.1 (And.intro ((Below.heap_setCell w5 ⟨g,n*5+2,none⟩ (.int .i64 ((live:Int)+1)) w2.heap.size (by simp;exact λe=>hgl e.symm)).trans HQ0.out.2.1) (HQ0.out.2.2.setCell (p:=⟨g,n*5+2,none⟩) hgb (.int .i64 ((live:Int)+1))));clear hst e4 e5 hl3 hf3 hk2 HQ0;generalize w5.setCell ⟨g,n*5+2,none⟩ (.int .i64 ((live:Int)+1))=w3 at HQ ⊢;generalize w2.heap.size=kb at HQ hgl ⊢;have hev3:w3.drew.cell? ⟨g,n*5+3,none⟩=some (.int .i64 (sm)):=(HQ.out.1.cellAt (n*5+3) omQ).trans (cellOf rq n hnq ⟨pt,tx,live+1,sm,ev⟩ 3 (by decide));have hfz3:w3.drew.frozen? ⟨g,n*5+3,none⟩=false:=HQ.out.1.frozenAt (n*5+3);have hst:=HQ.out.1.stored (n*5+3) (.int .i64 (sm+value));have e4:=(fillAt rq n hnq ⟨pt,tx,live+1,sm,ev⟩ 0 (sm+value) 0).2.1;rw[e4]at hst;have HQ2:Hid (_/\_/\_):=And.intro (QcK hst.1) (And.intro (QcG ((Below.heap_setCell w3 ⟨g,n*5+3,none⟩ (.int .i64 (sm+value)) kb (by simp;exact λe=>hgl e.symm)).trans HQ.out.2.1)) (HQ.out.2.2.setCell (p:=⟨g,n*5+3,none⟩) hgb (.int .i64 (sm+value))).drew);clear hst e4;refine wp_region_held_drew (S:=λw':World=>w'.heap[kb]? =some (.cells #[.bool had,.int .i64 (last:Int),.bool true,.int .i64 value,.int .i64 (count:Int)] 144 (0,0))) krQ HQ.out.2.1 (λhH=>?_);refine tkQ 0 (.slice (some ⟨g,0,none⟩) (rs.length+1) cg) hH ?_;refine tkQ 1 (.int .i64 (n:Int)) hH ?_;refine tkQ 2 (.slice (some ⟨g,0,none⟩) (rs.length+1) cg) hH ?_;refine tkQ 3 (.int .i64 (n:Int)) hH ?_;refine tkQ 4 (.pointer (some ⟨g,n*5,none⟩)) hH ?_;refine tkQ 5 (.pointer (some ⟨g,n*5+3,none⟩)) hH ?_;refine tkQ 7 (.pointer (some ⟨kb,3,none⟩)) hH ?_;refine tlQ 8 (.int .i64 value) rfl (by intro v hSw;have s4:v.cell? ⟨kb,3,none⟩=some (.int .i64 value):=Qaa hSw 3;clear hSw;go_simp) hH ?_;refine rdQ [6] ?_
        refine arQ λK hK=>?_
        have HH:=hdQ hH;clear hH;go_simp;refine hK.out _ _ HH.out (λhH=>?_);clear hK K HH;refine tlQ 9 (.int .i64 (sm+value)) rfl (by intro v hSw;clear hSw;go_simp;rw[IntWalk.i64_in _ ⟨by omega,by omega⟩]) hH ?_;refine tkQ 10 (.pointer (some ⟨g,n*5,none⟩)) hH ?_;refine tkQ 11 (.pointer (some ⟨g,n*5+3,none⟩)) hH ?_;refine rdQ [12] ?_
        refine arQ λK hK=>?_
        have HH:=hdQ hH;clear hH;go_simp;refine hK.out _ _ HQ2.out.2.1 (λhH=>?_);clear hK K HH hH hev3 hfz3 HQ;refine wpAnyH_done krQ ?_ _;generalize(w3.setCell ⟨g,n*5+3,none⟩ (.int .i64 (sm+value))).drew=w7 at HQ2 ⊢;go_wp2;have hev4:w7.drew.cell? ⟨g,n*5+4,none⟩=some (.int .i64 (ev:Int)):=(HQ2.out.1.cellAt (n*5+4) omQ).trans (cellOf rq n hnq ⟨pt,tx,live+1,sm+value,ev⟩ 4 (by decide));have hfz4:w7.drew.frozen? ⟨g,n*5+4,none⟩=false:=HQ2.out.1.frozenAt (n*5+4);have hst:=HQ2.out.1.stored (n*5+4) (.int .i64 ((ev:Int)+(count:Int)));have e4:=(fillAt rq n hnq ⟨pt,tx,live+1,sm+value,ev⟩ 0 0 (ev+count)).2.2;rw[Int.natCast_add]at e4;rw[e4]at hst;have HQ3:Hid (_/\_/\_):=And.intro (QcK hst.1) (And.intro (QcG ((Below.heap_setCell w7 ⟨g,n*5+4,none⟩ (.int .i64 ((ev:Int)+(count:Int))) kb (by simp;exact λe=>hgl e.symm)).trans HQ2.out.2.1)) (HQ2.out.2.2.setCell (p:=⟨g,n*5+4,none⟩) hgb (.int .i64 ((ev:Int)+(count:Int)))).drew);clear hst e4;refine wp_region_held_drew (S:=λw':World=>w'.heap[kb]? =some (.cells #[.bool had,.int .i64 (last:Int),.bool true,.int .i64 value,.int .i64 (count:Int)] 144 (0,0))) krQ HQ2.out.2.1 (λhH=>?_);refine tkQ 0 (.slice (some ⟨g,0,none⟩) (rs.length+1) cg) hH ?_;refine tkQ 1 (.int .i64 (n:Int)) hH ?_;refine tkQ 2 (.slice (some ⟨g,0,none⟩) (rs.length+1) cg) hH ?_;refine tkQ 3 (.int .i64 (n:Int)) hH ?_;refine tkQ 4 (.pointer (some ⟨g,n*5,none⟩)) hH ?_;refine tkQ 5 (.pointer (some ⟨g,n*5+4,none⟩)) hH ?_;refine tkQ 7 (.pointer (some ⟨kb,4,none⟩)) hH ?_;refine tlQ 8 (.int .i64 (count:Int)) rfl (by intro v hSw;have s4:v.cell? ⟨kb,4,none⟩=some (.int .i64 (count:Int)):=Qaa hSw 4;clear hSw;go_simp) hH ?_;refine rdQ [6] ?_
        refine arQ λK hK=>?_
        have HH:=hdQ hH;clear hH;go_simp;refine hK.out _ _ HH.out (λhH=>?_);clear hK K HH;refine tlQ 9 (.int .i64 ((ev:Int)+(count:Int))) rfl (by intro v hSw;clear hSw;go_simp;rw[IntWalk.i64_in _ ⟨by omega,by omega⟩]) hH ?_;refine tkQ 10 (.pointer (some ⟨g,n*5,none⟩)) hH ?_;refine tkQ 11 (.pointer (some ⟨g,n*5+4,none⟩)) hH ?_;refine rdQ [12] ?_
        refine arQ λK hK=>?_
        have HH:=hdQ hH;clear hH;go_simp;refine hK.out _ _ HQ3.out.2.1 (λhH=>?_);clear hK K HH hH hev4 hfz4 HQ2;refine wpAnyH_done krQ ?_ _;generalize(w7.setCell ⟨g,n*5+4,none⟩ (.int .i64 ((ev:Int)+(count:Int)))).drew=w8 at HQ3 ⊢;go_wp2
        go_roundw
        case rel=>exact⟨m+1,some ⟨g,0,none⟩,cg,by omega,by go_num,by rw[HN2.out,List.length_set,hql],by rw[HN2.out,List.length_set,hql];exact HQ3.out.1,HQ3.out.2.2⟩
        case measure=>simp[intOf];omega
  ·have hjj:j=es.length:=omQ;subst hjj;go_wp2;go_ret;exact⟨_,rfl,hown,hb⟩
end
end Go.Proofs.YthccpacmklhejabGreatDoor
