import Derived.Test.YthccpacmklhejaaGreatDoorTk
import Derived.Test.YthccpacmklhejaaGreatDoorK35
import Derived.Test.YthccpacmklhejaaGreatDoorK30
import Derived.Test.YthccpacmklhejaaGreatDoorK34
import Derived.Test.YthccpacmklhejaaGreatDoorK29
import Derived.Test.YthccpacmklhejaaGreatDoorK06
import Derived.Deep.DeepCutAuto
set_option maxHeartbeats 4000000
set_option maxRecDepth 100000
namespace Go.Proofs.YthccpacmklhejaaGreatDoor
section
open Go.RowKit
structure RPart (f:Owners) (w:World) (B k jb:Nat) (sb ab:List Nat) (W R:Nat) (es:List Ev) (vs va:Value):Prop where
 own:f jb=some (k+1)
 box:∃ve,w.heap[jb]? =some (.cells #[.int .i64 (W:Int),.int .i64 (R:Int),ve,.int .i64 0,vs,va,.int .i64 0,.bool false,.bool false,.int .i64 0,.bool false,.int .i64 0,.slice none 0 0] 91 (0,0))/\
  w.ownsRow B 41 4 ve es.length (evCells es)/\IsOf f (k+4) ve
 rs:w.ownsRow B 92 1 vs sb.length (sb.map λb=>.pointer (some ⟨b,0,none⟩))
 os:IsOf f (k+2) vs
 ra:w.ownsRow B 95 1 va ab.length (ab.map λb=>.pointer (some ⟨b,0,none⟩))
 oa:IsOf f (k+3) va
 sorters:∀i (h:i<sb.length),RSorter f w B k i sb[i] newS
 adders:∀i (h:i<ab.length),RAdder f w B k i ab[i] (newA W)
section
variable {f:Owners} {w:World} {B k jb:Nat} {sb ab:List Nat} {W R:Nat} {es:List Ev} {vs va:Value}
theorem RPart.done(h:RPart f w B k jb sb ab W R es vs va)(h1:sb.length=W)(h2:ab.length=W):RJob f w B k jb sb ab (newJ W R es):=by
 obtain⟨ve,hb,he,oe⟩:=h.box;refine⟨h.own,⟨h1,by simp[newJ]⟩,⟨h2,by simp[newJ]⟩,⟨ve,vs,va,.slice none 0 0,hb,he,oe,h.rs,h.os,h.ra,h.oa,World.ownsRow_nil _ _ _ _,λg hg=>by simp[Value.ownBlock]at hg⟩,λi hi hi'=>?_,λi hi hi'=>?_,λi hi=>?_⟩
 ·have e:(newJ W R es).sorters[i]=newS:=by simp[newJ]
  rw[e];exact h.sorters i hi
 ·have e:(newJ W R es).adders[i]=newA W:=by simp[newJ]
  rw[e];exact h.adders i hi
 ·have e:(newJ W R es).adders[i]=newA W:=by simp[newJ]
  rw[e];simp[newA,newJ]
theorem RPart.addS(h:RPart f w B k jb sb ab W R es vs va)(_hl:sb.length<=9){wa w5:World}{nb:Nat}{v':Value}(hba:Below w.heap.size w wa)(hnb:w.heap.size<=nb)(hblk:wa.heap[nb]? =some (.cells #[.slice none 0 0,.slice none 0 0,.int .i64 0,.int .i64 0,.bool false] 94 (0,0)))
  (hrow:w5.ownsRow B 92 1 v' (sb.length+1) ((sb.map λb=>.pointer (some ⟨b,0,none⟩))++[.pointer (some ⟨nb,0,none⟩)])) (happ:AppQ wa w5 vs v'):
  w5.cell? ⟨jb,4,none⟩=some vs/\w5.frozen? ⟨jb,4,none⟩=false/\∃f',RPart f' (w5.setCell ⟨jb,4,none⟩ v') B k jb (sb++[nb]) ab W R es v' va/\FrmO f (λ_=>True) w (w5.setCell ⟨jb,4,none⟩ v')/\Same w.heap.size f f':=by
 obtain⟨ve,hbx,he,oe⟩:=h.box;have hjl:=Qac hbx;have hf5:FrmO f (λc=>c=k+2) w w5:=(FrmO.of_below hba).trans (Same.refl _ _) (happ.frm h.os);have hb5:=Qaq hbx hf5 h.own omQ;have hf6:FrmO f (λc=>c=k+1\/c=k+2) w (w5.setCell ⟨jb,4,none⟩ v'):=(hf5.mono λ_ hc=>.inr hc).trans (Same.refl _ _) (FrmO.of_set (S:=λc=>c=k+1\/c=k+2) h.own (.inl rfl) _);have hnl:=Qac hblk
 have hnb5:w5.heap[nb]? =some (.cells #[.slice none 0 0,.slice none 0 0,.int .i64 0,.int .i64 0,.bool false] 94 (0,0)):=by
  rw[(Qat happ).block nb hnl (λe=>by have:=(Qah h.rs nb e.symm).2;omega)];exact hblk
 have hs:=Owners.new_same f w.heap.size (λx=>if x=nb then some (k+100+sb.length)else some (k+2))
 have hv':IsOf (f.new w.heap.size (λx=>if x=nb then some (k+100+sb.length)else some (k+2))) (k+2) v':=λg hg=>by
  rcases happ with⟨_,h2⟩ | ⟨_,h2,_⟩
  ·rw[h2]at hg;simp only[Option.some.injEq]at hg;rw[Owners.new_at _ _ (by have:=hba.size;omega),if_neg omQ]
  ·rw[h2]at hg;rw[hs g (Qah h.rs g hg).2];exact h.os g hg
 have hne:∀g,v'.ownBlock=some g->g≠jb:=λg hg e=>by
  have h1:=hv' g hg;rw[e,hs jb hjl,h.own]at h1;simp at h1
 refine⟨Qad hb5 4,Qab hb5 4,_,⟨(hs jb hjl).trans h.own,⟨ve,?_,Qaj he hf6 oe omQ,oe.same hs λg e=>(Qah he g e).2⟩,?_,hv',Qaj h.ra hf6 h.oa omQ,h.oa.same hs λg e=>(Qah h.ra g e).2,λi hi=>?_,λi hi=>?_⟩,hf6.mono λ_ _=>trivial,hs⟩
 ·have:=Qas (j:=4) hb5 v';exact this
 ·rw[List.length_append,List.map_append]
  exact QaV hrow (Qak w5 jb 4 v') λg hg e=>hne g hg (by simp at e;exact e.symm)
 ·by_cases e:i<sb.length
  ·rw[List.getElem_append_left e];exact(h.sorters i e).frm hf6 hs omQ omQ omQ
  ·have e2:i=sb.length:=by simp at hi;omega
   subst e2;simp only[List.getElem_append_right (Nat.le_refl _),Nat.sub_self,List.getElem_cons_zero];refine⟨by rw[Owners.new_at _ _ hnb];simp,.slice none 0 0,.slice none 0 0,?_,World.ownsRow_nil _ _ _ _,λg hg=>by simp[Value.ownBlock]at hg,Qgy _ _ _ _,λg hg=>by simp[Value.ownBlock]at hg⟩;rw[Below.heap_setCell _ _ _ _ (by show nb≠jb;omega)];exact hnb5
 ·exact(h.adders i hi).frm hf6 hs omQ omQ omQ omQ (λm hm=>by omega)
theorem RPart.addA(h:RPart f w B k jb sb ab W R es vs va)(hl:ab.length<=9){wa w5:World}{nb:Nat}{v' vp vt:Value}(hba:Below w.heap.size w wa)(hnb:w.heap.size<=nb)(hblk:wa.heap[nb]? =some (.cells #[.slice none 0 0,vp,vt,.int .i64 0,.int .i64 0,.bool false] 100 (0,0)))
  (hrowp:wa.ownsRow B 98 1 vp W (List.replicate W (.slice none 0 0))) (hvp:∀g,vp.ownBlock=some g->w.heap.size<=g)
  (hrowt:wa.ownsRow B 4 1 vt W (List.replicate W (.bool false))) (hvt:∀g,vt.ownBlock=some g->w.heap.size<=g)
  (hrow:w5.ownsRow B 95 1 v' (ab.length+1) ((ab.map λb=>.pointer (some ⟨b,0,none⟩))++[.pointer (some ⟨nb,0,none⟩)])) (happ:AppQ wa w5 va v'):
  w5.cell? ⟨jb,5,none⟩=some va/\w5.frozen? ⟨jb,5,none⟩=false/\∃f',RPart f' (w5.setCell ⟨jb,5,none⟩ v') B k jb sb (ab++[nb]) W R es vs v'/\FrmO f (λ_=>True) w (w5.setCell ⟨jb,5,none⟩ v')/\Same w.heap.size f f':=by
 obtain⟨ve,hbx,he,oe⟩:=h.box;have hjl:=Qac hbx;have hf5:FrmO f (λc=>c=k+3) w w5:=(FrmO.of_below hba).trans (Same.refl _ _) (happ.frm h.oa);have hb5:=Qaq hbx hf5 h.own omQ;have hf6:FrmO f (λc=>c=k+1\/c=k+3) w (w5.setCell ⟨jb,5,none⟩ v'):=(hf5.mono λ_ hc=>.inr hc).trans (Same.refl _ _) (FrmO.of_set (S:=λc=>c=k+1\/c=k+3) h.own (.inl rfl) _);have hnl:=Qac hblk
 have hold:∀g,w.heap.size<=g->g<wa.heap.size->w5.heap[g]? =wa.heap[g]? :=λg h1 h2=>(Qat happ).block g h2 (λe=>by have:=(Qah h.ra g e.symm).2;omega)
 have apart:∀ {e:TypeId} {s n:Nat} {v:Value} {xs:List Value},wa.ownsRow B e s v n xs->100≠e->v.ownBlock≠some nb:=λhr hne e=>by
  obtain⟨cur,h1,_⟩:=QaO hr e;rw[hblk]at h1;simp only[Option.some.injEq,Obj.cells.injEq]at h1;exact hne h1.2.1
 have hpt:vp.ownBlock=none\/vp.ownBlock≠vt.ownBlock:=by
  cases hq:vp.ownBlock with
  | none=>exact .inl rfl
  | some g=>exact .inr λe=>QcT hrowp hrowt (by decide) g hq e.symm
 have keep:∀ {e:TypeId} {s n:Nat} {v:Value} {xs:List Value},wa.ownsRow B e s v n xs->(∀g,v.ownBlock=some g->w.heap.size<=g)->(w5.setCell ⟨jb,5,none⟩ v').ownsRow B e s v n xs:=λhr hv=>by
  refine QaV (QaV hr (Qat happ) λg hg e=>?_) (Qak w5 jb 5 v') λg hg e=>?_
  ·have h1:=(Qah h.ra g e).2;have h2:=hv g hg;omega
  ·simp only[Option.some.injEq]at e;have:=hv g hg;omega
 obtain⟨F,hF⟩:∃F:Nat->Option Nat,F=λx=>if x=nb then some (k+400+ab.length)else if vp.ownBlock=some x then some (k+600+ab.length)else if vt.ownBlock=some x then some (k+700+ab.length)else some (k+3):=⟨_,rfl⟩
 have hs:=Owners.new_same f w.heap.size F
 have hv':IsOf (f.new w.heap.size F) (k+3) v':=λg hg=>by
  rcases happ with⟨_,h2⟩ | ⟨_,h2,_⟩
  ·rw[h2]at hg;simp only[Option.some.injEq]at hg;rw[Owners.new_at _ _ (by have:=hba.size;omega),hF];simp only;rw[if_neg omQ,if_neg (λe=>by have:=(Qah hrowp g e).2;omega),if_neg (λe=>by have:=(Qah hrowt g e).2;omega)]
  ·rw[h2]at hg;rw[hs g (Qah h.ra g hg).2];exact h.oa g hg
 have hne:∀g,v'.ownBlock=some g->g≠jb:=λg hg e=>by
  have h1:=hv' g hg;rw[e,hs jb hjl,h.own]at h1;simp at h1
 refine⟨Qad hb5 5,Qab hb5 5,_,⟨(hs jb hjl).trans h.own,⟨ve,?_,Qaj he hf6 oe omQ,oe.same hs λg e=>(Qah he g e).2⟩,Qaj h.rs hf6 h.os omQ,h.os.same hs λg e=>(Qah h.rs g e).2,?_,hv',λi hi=>?_,λi hi=>?_⟩,hf6.mono λ_ _=>trivial,hs⟩
 ·have:=Qas (j:=5) hb5 v';exact this
 ·rw[List.length_append,List.map_append]
  exact QaV hrow (Qak w5 jb 5 v') λg hg e=>hne g hg (by simp at e;exact e.symm)
 ·exact(h.sorters i hi).frm hf6 hs omQ omQ omQ
 ·by_cases e:i<ab.length
  ·rw[List.getElem_append_left e];exact(h.adders i e).frm hf6 hs omQ omQ omQ omQ (λm hm=>by omega)
  ·have e2:i=ab.length:=by simp at hi;omega
   subst e2;simp only[List.getElem_append_right (Nat.le_refl _),Nat.sub_self,List.getElem_cons_zero];refine⟨by rw[Owners.new_at _ _ hnb,hF];simp,.slice none 0 0,vp,List.replicate W (.slice none 0 0),vt,?_,World.ownsRow_nil _ _ _ _,λg hg=>by simp[Value.ownBlock]at hg,?_,λg hg=>?_,λq hq=>?_,?_,λg hg=>?_⟩
   ·rw[Below.heap_setCell _ _ _ _ (by show nb≠jb;omega),hold nb hnb hnl];exact hblk
   ·simp only[newA,List.length_replicate];exact keep hrowp hvp
   ·rw[Owners.new_at _ _ (hvp g hg),hF];simp only;rw[if_neg (λe=>apart hrowp (by decide) (by rw[hg,e])),if_pos hg]
   ·have hq':q<W:=by simpa[newA]using hq
    refine⟨.slice none 0 0,by rw[List.getElem?_replicate,if_pos hq'],?_,λg hg=>by simp[Value.ownBlock]at hg⟩
    have e0:(newA W).pipes[q]=[]:=by simp[newA]
    rw[e0];exact Qgy _ _ _ _
   ·simp only[newA,List.length_replicate,List.map_replicate];exact keep hrowt hvt
   ·rw[Owners.new_at _ _ (hvt g hg),hF];simp only;rw[if_neg (λe=>apart hrowt (by decide) (by rw[hg,e])),if_neg (λe=>hpt.elim (λh0=>by rw[h0]at e;cases e) λh0=>h0 (e.trans hg.symm)),if_pos hg]
theorem RPart.start(w1:World)(B k W R:Nat)(es:List Ev)(ve:Value)(he:w1.ownsRow B 41 4 ve es.length (evCells es)):
  RPart (λx=>if x=w1.heap.size then some (k+1)else if ve.ownBlock=some x then some (k+4)else none) (w1.alloc (.cells #[.int .i64 (W:Int),.int .i64 (R:Int),ve,.int .i64 0,.slice none 0 0,.slice none 0 0,.int .i64 0,.bool false,.bool false,.int .i64 0,.bool false,.int .i64 0,.slice none 0 0] 91)) B k w1.heap.size [] [] W R es (.slice none 0 0) (.slice none 0 0):=by
 refine⟨by simp,⟨ve,heap_alloc_new w1 _,he.alloc _,λg hg=>?_⟩,World.ownsRow_nil _ _ _ _,λg hg=>by simp[Value.ownBlock]at hg,World.ownsRow_nil _ _ _ _,λg hg=>by simp[Value.ownBlock]at hg,λi hi=>by simp at hi,λi hi=>by simp at hi⟩;have:=(Qah he g hg).2;simp only;rw[if_neg omQ,if_pos hg]
end
end
section
open Go.RowKit
theorem QeZ(rs ts:List RowM):rowmCells (rs++ts)=rowmCells rs++rowmCells ts:=by simp[rowmCells]
theorem Qgv(r:RowM):rowmCells [r]=rowmCells1 r:=by simp[rowmCells]
theorem QaD:∀(rs:List RowM) (k:Nat) (h:k<rs.length) (j:Nat),j<5->(rowmCells rs)[k*5+j]? =(rowmCells1 rs[k])[j]?
 | r :: rs,0,_,j,hj=>by
  simp only[rowmCells,List.flatMap_cons,Nat.zero_mul,Nat.zero_add,List.getElem_cons_zero]
  rw[List.getElem?_append_left (by simp[rowmCells1];omega)]
 | r :: rs,k+1,h,j,hj=>by
  have ih:=QaD rs k (by simpa using h) j hj;simp only[rowmCells,List.flatMap_cons,List.getElem_cons_succ]at ih ⊢;rw[List.getElem?_append_right (by simp[rowmCells1];omega),<-ih];congr 1;simp[rowmCells1];omega
theorem Qgc(r:RowM):∀(rs:List RowM) (k:Nat),k<rs.length->
  (((((rowmCells rs).set (k*5) (.int .i64 r.pt)).set (k*5+1) (.string r.tx)).set (k*5+2) (.int .i64 r.live)).set (k*5+3) (.int .i64 r.sum)).set (k*5+4) (.int .i64 (r.ev:Int))=rowmCells (rs.set k r)
 | x :: rs,0,_=>by simp[rowmCells,rowmCells1]
 | x :: rs,k+1,h=>by
  have ih:=Qgc r rs k (by simpa using h);have hl:(rowmCells1 x).length=5:=rfl;simp only[rowmCells,List.flatMap_cons,List.set_cons_succ]at ih ⊢;rw[<-ih];rw[List.set_append_right _ _ omQ,List.set_append_right _ _ omQ,List.set_append_right _ _ omQ,List.set_append_right _ _ omQ,List.set_append_right _ _ omQ,hl];rw[show(k+1)*5-5=k*5 from by omega,show(k+1)*5+1-5=k*5+1 from by omega,show(k+1)*5+2-5=k*5+2 from by omega,show(k+1)*5+3-5=k*5+3 from by omega,show(k+1)*5+4-5=k*5+4 from by omega]
def placeM(rs:List RowM)(p:Int):Nat:=rs.findIdx (λr=>decide (r.pt=p))
theorem Qj2(a:Option Addr)(c:Nat)(rs:List RowM)(p:Int)(B:Nat)(w:World)(hlen:rs.length<=100000)(hown:w.ownsRow B 137 5 (.slice a rs.length c) rs.length (rowmCells rs)):
  Calls Tryz.prog 71 #[.slice a rs.length c,.int .i64 p] w λen w'=>en=.returned (.int .i64 (placeM rs p:Int))/\w'=w:=by
 have HO:Hid (w.ownsRow B 137 5 (.slice a rs.length c) rs.length (rowmCells rs)):=hown;clear hown;go_enter Tryz.func71,Tryz.ntmps71;go_wp2
 go_loopw [5] (λi wr=>∃j:Nat,j<=rs.length/\i=.int .i64 (j:Int)/\(∀k (h:k<rs.length),k<j->¬rs[k].pt=p)/\wr=w) (λi _=>rs.length-(intOf i).toNat)
 case atStart=>exact⟨0,Nat.zero_le _,rfl,λ_ _ h=>absurd h (Nat.not_lt_zero _),rfl⟩
 case round=>
  obtain⟨j,hj,rfl,hno,rfl⟩:=hrel
  by_cases hjl:j<rs.length
  ·rcases Qai HO.out with⟨_,h0⟩ | ⟨g,rfl⟩
   ·omega
   have c0:=(HO.out.cellAt (j*5) omQ).trans (QaD rs j hjl 0 (by decide));have e0:(rowmCells1 (rs[j]'hjl))[0]? =some (.int .i64 (rs[j]'hjl).pt):=rfl;rw[e0]at c0;clear e0 HO;have hji:(j:Int)<(rs.length:Int):=omQ;have hj0:(0:Int)<=(j:Int):=omQ
   by_cases hp:(rs[j]'hjl).pt=p
   ·have hf:placeM rs p=j:=by
     unfold placeM;rw[List.findIdx_eq hjl];exact⟨by simp[hp],λk hk=>by simpa using hno k omQ hk⟩
    rw[hp]at c0;go_wp2;go_ret;exact⟨by rw[hf];rfl,rfl⟩
   ·have hpi:((rs[j]'hjl).pt==p)=false:=by rw[beq_eq_false_iff_ne];exact hp
    have hno':∀k (h:k<rs.length),k<j+1->¬rs[k].pt=p:=by
     intro k h hk
     by_cases e:k=j
     ·subst e;exact hp
     ·exact hno k h omQ
    generalize(rs[j]'hjl).pt=q at c0 hpi;go_wp2
    go_roundw
    case rel=>exact⟨j+1,by omega,by go_num,hno',by first | trivial | rfl⟩
    case measure=>simp[intOf];omega
  ·have hjj:j=rs.length:=omQ;subst hjj
   have hf:placeM rs p=rs.length:=by
    unfold placeM;rw[List.findIdx_eq_length];intro x hx;obtain⟨k,hk,rfl⟩:=List.getElem_of_mem hx
    simpa using hno k hk hk
   go_wp2;go_ret;exact⟨by rw[hf];rfl,rfl⟩
theorem Qlk(rs:List RowM)(p:Int):placeM rs p<=rs.length:=List.findIdx_le_length
section
variable {f f':Owners} {w w':World} {B k jb:Nat} {sb ab:List Nat} {j:JobM}
def keptS(s:SorterM):SorterM:={s with kept:=s.marked}
def keptA(a:AdderM):AdderM:={a with kept:=a.marked}
theorem RJob.keepS(h:RJob f w B k jb sb ab j)(i:Nat)(hi:i<sb.length)(hi':i<j.sorters.length)(hwid:j.width<=9):
  w.cell? ⟨sb[i],2,none⟩=some (.int .i64 ((j.sorters[i]).marked:Int))/\w.cell? ⟨sb[i],3,none⟩=some (.int .i64 ((j.sorters[i]).kept:Int))/\w.frozen? ⟨sb[i],3,none⟩=false/\
   RAfter f w B k jb sb ab {j with sorters:=j.sorters.set i (keptS j.sorters[i])} (w.setCell ⟨sb[i],3,none⟩ (.int .i64 ((j.sorters[i]).marked:Int))):=by
 obtain⟨ho,vg,vp,hb,hg,og,hp,op⟩:=h.sorters i hi hi'
 have hiw:i<j.width:=by rw[<-h.lenS.1];exact hi
 have hf:FrmO f (λc=>c=k+100+i) w (w.setCell ⟨sb[i],3,none⟩ (.int .i64 ((j.sorters[i]).marked:Int))):=FrmO.of_set (S:=λc=>c=k+100+i) ho rfl _;refine⟨Qad hb 2,Qad hb 3,Qab hb 3,f,h.putS i hi _ (S:=λc=>c=k+100+i) (λc hc=>.inl hc) hf (Same.refl _ _) hwid ⟨ho,vg,vp,?_,Qaj hg hf og omQ,og,Qbo hp hf op omQ,op⟩,hf.mono λ_ _=>trivial,Same.refl _ _⟩;have:=Qas (j:=3) hb (.int .i64 ((j.sorters[i]).marked:Int));exact this
theorem RJob.keepA(h:RJob f w B k jb sb ab j)(i:Nat)(hi:i<ab.length)(hi':i<j.adders.length)(hwid:j.width<=9):
  w.cell? ⟨ab[i],3,none⟩=some (.int .i64 ((j.adders[i]).marked:Int))/\w.cell? ⟨ab[i],4,none⟩=some (.int .i64 ((j.adders[i]).kept:Int))/\w.frozen? ⟨ab[i],4,none⟩=false/\
   RAfter f w B k jb sb ab {j with adders:=j.adders.set i (keptA j.adders[i])} (w.setCell ⟨ab[i],4,none⟩ (.int .i64 ((j.adders[i]).marked:Int))):=by
 obtain⟨ho,vg,vp,vs,vt,hb,hg,og,hp,op,hq,ht,ot⟩:=h.adders i hi hi'
 have hiw:i<j.width:=by rw[<-h.lenA.1];exact hi
 have hpl:=(h.pipes i hi').1;have hf:FrmO f (λc=>c=k+400+i) w (w.setCell ⟨ab[i],4,none⟩ (.int .i64 ((j.adders[i]).marked:Int))):=FrmO.of_set (S:=λc=>c=k+400+i) ho rfl _;refine⟨Qad hb 3,Qad hb 4,Qab hb 4,f,h.putA i hi _ (S:=λc=>c=k+400+i) (λc hc=>.inl hc) hf (Same.refl _ _) hwid ⟨ho,vg,vp,vs,vt,?_,Qaj hg hf og omQ,og,Qaj hp hf op omQ,op,λm hm=>?_,Qaj ht hf ot omQ,ot⟩ (h.pipes i hi'),hf.mono λ_ _=>trivial,Same.refl _ _⟩
 ·have:=Qas (j:=4) hb (.int .i64 ((j.adders[i]).marked:Int));exact this
 ·obtain⟨v,hv,hqv,ov⟩:=hq m hm;exact⟨v,hv,Qbo hqv hf ov omQ,ov⟩
theorem RJob.putRows(h:RJob f w B k jb sb ab j)(rows:List RowM)(hf:FrmO f (λc=>c=k+1\/c=k+5) w w')(hs:Same w.heap.size f f')
  (hb:∀ve vs va vr,w.heap[jb]? =some (.cells (jobCells j ve vs va vr) 91 (0,0))->∃vr',w'.heap[jb]? =some (.cells (jobCells j ve vs va vr') 91 (0,0))/\w'.ownsRow B 137 5 vr' rows.length (rowmCells rows)/\IsOf f' (k+5) vr'):RJob f' w' B k jb sb ab {j with rows:=rows}:=by
 obtain⟨ve,vs,va,vr,hbx,he1,oe,hs1,os,ha1,oa,hr1,or'⟩:=h.box;obtain⟨vr',b1,b2,b3⟩:=hb ve vs va vr hbx;refine⟨(hs jb (Qac hbx)).trans h.own,h.lenS,h.lenA,⟨ve,vs,va,vr',b1,Qaj he1 hf oe omQ,oe.same hs λg e=>(Qah he1 g e).2,Qaj hs1 hf os omQ,os.same hs λg e=>(Qah hs1 g e).2,Qaj ha1 hf oa omQ,oa.same hs λg e=>(Qah ha1 g e).2,b2,b3⟩,λi hi hi'=>?_,λi hi hi'=>?_,h.pipes⟩
 ·exact(h.sorters i hi hi').frm hf hs omQ omQ omQ
 ·exact(h.adders i hi hi').frm hf hs omQ omQ omQ omQ (λm hm=>by omega)
theorem RJob.viewRows(h:RJob f w B k jb sb ab j):∃vr,w.cell? ⟨jb,12,none⟩=some vr/\w.frozen? ⟨jb,12,none⟩=false/\w.ownsRow B 137 5 vr j.rows.length (rowmCells j.rows)/\
  (∀wa v' w5 (r:RowM),Below w.heap.size w wa->w5.ownsRow B 137 5 v' (j.rows.length+1) (rowmCells j.rows++rowmCells1 r)->AppQ wa w5 vr v'->
   w5.cell? ⟨jb,12,none⟩=some vr/\w5.frozen? ⟨jb,12,none⟩=false/\RAfter f w B k jb sb ab {j with rows:=j.rows++[r]} (w5.setCell ⟨jb,12,none⟩ v'))/\
  (∀(m g c:Nat) (r:RowM),m<j.rows.length->vr=.slice (some ⟨g,0,none⟩) j.rows.length c->g≠jb/\(∀o,w.frozen? ⟨g,o,none⟩=false)/\RAfter f w B k jb sb ab {j with rows:=j.rows.set m r} (((((w.setCell ⟨g,m*5,none⟩ (.int .i64 r.pt)).setCell ⟨g,m*5+1,none⟩ (.string r.tx)).setCell ⟨g,m*5+2,none⟩ (.int .i64 r.live)).setCell ⟨g,m*5+3,none⟩ (.int .i64 r.sum)).setCell ⟨g,m*5+4,none⟩ (.int .i64 (r.ev:Int)))):=by
 obtain⟨ve,vs,va,vr,hbx,he1,oe,hs1,os,ha1,oa,hr1,or'⟩:=h.box;refine⟨vr,Qad hbx 12,Qab hbx 12,hr1,λwa v' w5 r hba hq5 happ=>?_,λm g c r hm hv=>?_⟩
 ·have hf5:FrmO f (λc=>c=k+5) w w5:=(FrmO.of_below hba).trans (Same.refl _ _) (happ.frm or');have hb5:=Qaq hbx hf5 h.own omQ;obtain⟨f',hs',hv'⟩:=happ.owner hba or'
  have hf6:FrmO f (λc=>c=k+1\/c=k+5) w (w5.setCell ⟨jb,12,none⟩ v'):=
   (hf5.mono λ_ hc=>.inr hc).trans (Same.refl _ _) (FrmO.of_set (S:=λc=>c=k+1\/c=k+5) h.own (.inl rfl) _)
  have hne:∀g,v'.ownBlock=some g->g≠jb:=λg hg e=>by
   have h1:=hv' g hg;rw[e,hs' jb (Qac hbx),h.own]at h1;simp at h1
  refine⟨Qad hb5 12,Qab hb5 12,f',h.putRows _ hf6 hs' λve' vs' va' vr' hbx'=>⟨v',?_,?_,hv'⟩,hf6.mono λ_ _=>trivial,hs'⟩
  ·have hbx5:=Qaq hbx' hf5 h.own omQ;have:=Qas (j:=12) hbx5 v';exact this
  ·rw[List.length_append,QeZ,Qgv]
   exact QaV hq5 (Qak w5 jb 12 v') λg hg e=>hne g hg (by simp at e;exact e.symm)
 ·subst hv;have og:f g=some (k+5):=or' g rfl
  have hgj:g≠jb:=λe=>by
   rw[e,h.own]at og;simp at og
  have one:∀(o:Nat) (u:Value) (w:World),FrmO f (λc=>c=k+1\/c=k+5) w (w.setCell ⟨g,o,none⟩ u):=λo u w=>FrmO.of_set (S:=λc=>c=k+1\/c=k+5) og (.inr rfl) _
  have s0:=(hr1.stored (m*5) (.int .i64 r.pt)).1;have s1:=(s0.stored (m*5+1) (.string r.tx)).1;have s2:=(s1.stored (m*5+2) (.int .i64 r.live)).1;have s3:=(s2.stored (m*5+3) (.int .i64 r.sum)).1;have s4:=(s3.stored (m*5+4) (.int .i64 (r.ev:Int))).1;rw[Qgc r j.rows m hm]at s4;have hf6:=((((one (m*5) (.int .i64 r.pt) w).trans (Same.refl _ _) (one (m*5+1) (.string r.tx) _)).trans (Same.refl _ _) (one (m*5+2) (.int .i64 r.live) _)).trans (Same.refl _ _) (one (m*5+3) (.int .i64 r.sum) _)).trans (Same.refl _ _) (one (m*5+4) (.int .i64 (r.ev:Int)) _);refine⟨hgj,λo=>hr1.frozenAt o,f,h.putRows _ hf6 (Same.refl _ _) λve' vs' va' vr' hbx'=>⟨vr',?_,?_,?_⟩,hf6.mono λ_ _=>trivial,Same.refl _ _⟩
  ·rw[Below.heap_setCell _ _ _ _ hgj.symm,Below.heap_setCell _ _ _ _ hgj.symm,Below.heap_setCell _ _ _ _ hgj.symm,Below.heap_setCell _ _ _ _ hgj.symm,Below.heap_setCell _ _ _ _ hgj.symm];exact hbx'
  ·have hvr:vr'=.slice (some ⟨g,0,none⟩) j.rows.length c:=by
    have h1:w.cell? ⟨jb,12,none⟩=some vr':=Qad hbx' 12;have h2:w.cell? ⟨jb,12,none⟩=some (.slice (some ⟨g,0,none⟩) j.rows.length c):=Qad hbx 12;exact Option.some.inj (h1.symm.trans h2)
   rw[hvr,List.length_set];exact s4
  ·have hvr:vr'=.slice (some ⟨g,0,none⟩) j.rows.length c:=by
    have h1:w.cell? ⟨jb,12,none⟩=some vr':=Qad hbx' 12;have h2:w.cell? ⟨jb,12,none⟩=some (.slice (some ⟨g,0,none⟩) j.rows.length c):=Qad hbx 12;exact Option.some.inj (h1.symm.trans h2)
   rw[hvr];exact or'
theorem RJob.gotCells(h:RJob f w B k jb sb ab j)(m:Nat)(hm:m<ab.length)(hm':m<j.adders.length)(hne:0<(j.adders[m]).got.length):∃g c,w.cell? ⟨ab[m],0,none⟩=some (.slice (some ⟨g,0,none⟩) (j.adders[m]).got.length c)/\(j.adders[m]).got.length<=c/\IsChgs w g (j.adders[m]).got:=by
 obtain⟨ho,vg,vp,vs,vt,hb,hg,og,_⟩:=h.adders m hm hm';obtain⟨a,c,rfl⟩:=Qaf hg
 rcases Qai hg with⟨_,h0⟩ | ⟨g,rfl⟩
 ·omega
 have hat:∀(cs:List ChgM) (n:Nat) (h:n<cs.length) (o:Nat),o<4->(chgCells cs)[n*4+o]? =(chgCells1 cs[n])[o]? :=by
  intro cs
  induction cs with
  | nil=>intro n h;simp at h
  | cons x cs ih=>
   intro n h o hoo
   cases n with
   | zero=>
    simp only[chgCells,List.flatMap_cons,Nat.zero_mul,Nat.zero_add,List.getElem_cons_zero]
    rw[List.getElem?_append_left (by simp[chgCells1];omega)]
   | succ n=>
    have:=ih n (by simpa using h) o hoo;simp only[chgCells,List.flatMap_cons,List.getElem_cons_succ]at this ⊢;rw[List.getElem?_append_right (by simp[chgCells1];omega),<-this];congr 1;simp[chgCells1];omega
 refine⟨g,c,Qad hb 0,Qdp hg,(Qbt hg).2,λn hn=>⟨?_,?_,?_,?_⟩⟩
 ·exact(hg.cellAt (n*4) omQ).trans (hat _ n hn 0 (by decide))
 ·exact(hg.cellAt (n*4+1) omQ).trans (hat _ n hn 1 (by decide))
 ·exact(hg.cellAt (n*4+2) omQ).trans (hat _ n hn 2 (by decide))
 ·exact(hg.cellAt (n*4+3) omQ).trans (hat _ n hn 3 (by decide))
end
theorem IsChgs.take{w:World}{b:Nat}{l:List ChgM}(h:IsChgs w b l)(n:Nat):IsChgs w b (l.take n):=⟨h.1,λj hj=>by
 have hj':j<l.length:=by rw[List.length_take]at hj;omega
 have e:(l.take n)[j]=l[j]:=List.getElem_take;rw[e]
 exact h.2 j hj'⟩
theorem Qcm{w w':World}{g o:Nat}{v:Value}(h:w.cell? ⟨g,o,none⟩=some v)(hb:Below w.heap.size w w')(hg:g<w.heap.size):w'.cell? ⟨g,o,none⟩=some v:=(hb.cell (p:=⟨g,o,none⟩) hg).trans h
theorem IsChgs.below{w w':World}{b:Nat}{l:List ChgM}(h:IsChgs w b l)(hb:Below w.heap.size w w'):IsChgs w' b l:=⟨Nat.lt_of_lt_of_le h.1 hb.size,λj hj=>by
 obtain⟨a1,a2,a3,a4⟩:=h.2 j hj
 exact⟨Qcm a1 hb h.1,Qcm a2 hb h.1,Qcm a3 hb h.1,Qcm a4 hb h.1⟩⟩
def JobM.com(j:JobM)(a b:Nat)(rows:List RowM):JobM:={j with sorters:=firstN keptS j.sorters a,adders:=firstN keptA j.adders b,rows:=rows}
end
section
open Go.RowKit
structure SortC (w:World) (jb W rm i g1 cs' b1 gq off ln qc ge N ec xn:Nat) (e:Ev):Prop where
 c0:w.cell? ⟨jb,0,none⟩=some (.int .i64 (W:Int))
 c1:w.cell? ⟨jb,1,none⟩=some (.int .i64 (rm:Int))
 c2:w.cell? ⟨jb,2,none⟩=some (.slice (some ⟨ge,0,none⟩) N ec)
 c4:w.cell? ⟨jb,4,none⟩=some (.slice (some ⟨g1,0,none⟩) W cs')
 d1:w.cell? ⟨g1,i,none⟩=some (.pointer (some ⟨b1,0,none⟩))
 p1:w.cell? ⟨b1,1,none⟩=some (.slice (some ⟨gq,off,none⟩) (ln+1) qc)
 q0:w.cell? ⟨gq,off,none⟩=some (.int .i64 (xn:Int))
 e0:w.cell? ⟨ge,xn*4,none⟩=some (.int .u8 (e.op:Int))
 e1:w.cell? ⟨ge,xn*4+1,none⟩=some (.string e.key)
 e2:w.cell? ⟨ge,xn*4+2,none⟩=some (.int .u16 (e.seq:Int))
 e3:w.cell? ⟨ge,xn*4+3,none⟩=some (.int .i16 e.val)
 hi:i<W
 hW:W<=4
 hx:xn<N
 hN:N<=400
 hcap:ln+1<=qc
 hok:e.ok
def SortS(jb b1 gq off ln qc ge N ec xn op:Nat)(key:ByteArray)(seq:Nat)(val:Int)(w:World):Prop:=
 w.cell? ⟨jb,2,none⟩=some (.slice (some ⟨ge,0,none⟩) N ec)/\w.cell? ⟨b1,1,none⟩=some (.slice (some ⟨gq,off,none⟩) (ln+1) qc)/\w.cell? ⟨gq,off,none⟩=some (.int .i64 (xn:Int))/\
 w.cell? ⟨ge,xn*4,none⟩=some (.int .u8 (op:Int))/\w.cell? ⟨ge,xn*4+1,none⟩=some (.string key)/\w.cell? ⟨ge,xn*4+2,none⟩=some (.int .u16 (seq:Int))/\w.cell? ⟨ge,xn*4+3,none⟩=some (.int .i16 val)
theorem Qae{w w':World}{g o:Nat}{v:Value}(h:w.cell? ⟨g,o,none⟩=some v)(hb:Below w.heap.size w w'):w'.cell? ⟨g,o,none⟩=some v:=(hb.cell (p:=⟨g,o,none⟩) (Qan h)).trans h
theorem SortS.below{jb b1 gq off ln qc ge N ec xn op:Nat}{key:ByteArray}{seq:Nat}{val:Int}{w w':World}(h:SortS jb b1 gq off ln qc ge N ec xn op key seq val w)(hb:Below w.heap.size w w'):SortS jb b1 gq off ln qc ge N ec xn op key seq val w':=
 ⟨Qae h.1 hb,Qae h.2.1 hb,Qae h.2.2.1 hb,Qae h.2.2.2.1 hb,Qae h.2.2.2.2.1 hb,Qae h.2.2.2.2.2.1 hb,Qae h.2.2.2.2.2.2 hb⟩
def IsTail1(gq off ln qc:Nat)(v:Value):Prop:=v=.slice (some ⟨gq,off+1,none⟩) ln (qc-1)\/(qc=1/\v=.slice (some ⟨gq,off,none⟩) ln 0)
def GotG(B b1 bx:Nat)(w:World)(vg:Value)(ng:Nat)(xs cs:List Value)(T:World->Prop):Prop:=
 w.cell? ⟨b1,0,none⟩=some vg/\w.ownsRow B 41 4 vg ng xs/\ng<=1000/\B<=w.heap.size/\(∀g,vg.ownBlock=some g->g=bx->False)/\b1≠bx/\
  ∀wa w5 v',Below w.heap.size w wa->w5.ownsRow B 41 4 v' (ng+1) (xs++cs)->AppQ wa w5 vg v'->w5.cell? ⟨b1,0,none⟩=some vg/\w5.frozen? ⟨b1,0,none⟩=false/\T (w5.setCell ⟨b1,0,none⟩ v')
def TailG(b1 gq off ln qc:Nat)(Q:World->Prop)(w:World):Prop:=
 w.cell? ⟨b1,1,none⟩=some (.slice (some ⟨gq,off,none⟩) (ln+1) qc)/\w.frozen? ⟨b1,1,none⟩=false/\∀v1,IsTail1 gq off ln qc v1->Q (w.setCell ⟨b1,1,none⟩ v1)
theorem fill5{w wa:World}{kb:Nat}{a0 a1 a2 a3 a4:Value}{t:TypeId}(h:wa.heap[kb]? =some (.cells #[a0,a1,a2,a3,a4] t (0,0)))(hb:Below w.heap.size w wa)(hk:w.heap.size<=kb)(u0 u1 u2 u3 u4:Value):
  (((((wa.setCell ⟨kb,0,none⟩ u0).setCell ⟨kb,1,none⟩ u1).setCell ⟨kb,2,none⟩ u2).setCell ⟨kb,3,none⟩ u3).setCell ⟨kb,4,none⟩ u4).heap[kb]? =some (.cells #[u0,u1,u2,u3,u4] t (0,0))/\
  Below w.heap.size w (((((wa.setCell ⟨kb,0,none⟩ u0).setCell ⟨kb,1,none⟩ u1).setCell ⟨kb,2,none⟩ u2).setCell ⟨kb,3,none⟩ u3).setCell ⟨kb,4,none⟩ u4)/\
  (∀g,g≠kb->(((((wa.setCell ⟨kb,0,none⟩ u0).setCell ⟨kb,1,none⟩ u1).setCell ⟨kb,2,none⟩ u2).setCell ⟨kb,3,none⟩ u3).setCell ⟨kb,4,none⟩ u4).heap[g]? =wa.heap[g]?):=by
 have h0:=(Qag (j:=0) h u0).trans rfl;have h1:=(Qag (j:=1) h0 u1).trans rfl;have h2:=(Qag (j:=2) h1 u2).trans rfl;have h3:=(Qag (j:=3) h2 u3).trans rfl;have h4:=(Qag (j:=4) h3 u4).trans rfl;refine⟨h4,((((hb.setCell (p:=⟨kb,0,none⟩) hk u0).setCell (p:=⟨kb,1,none⟩) hk u1).setCell (p:=⟨kb,2,none⟩) hk u2).setCell (p:=⟨kb,3,none⟩) hk u3).setCell (p:=⟨kb,4,none⟩) hk u4,λg hg=>?_⟩;rw[Below.heap_setCell _ _ _ _ hg,Below.heap_setCell _ _ _ _ hg,Below.heap_setCell _ _ _ _ hg,Below.heap_setCell _ _ _ _ hg,Below.heap_setCell _ _ _ _ hg]
def KCut(w:World)(b1:Nat)(ga:Option Addr)(ng gc:Nat)(had:Bool)(last:Nat)(there:Bool)(value:Int)(count op:Nat)(key:ByteArray)(seq:Nat)(val:Int)(kb:Nat)(wk:World):Prop:=
 wk.heap[kb]? =some (.cells #[.bool had,.int .i64 (last:Int),.bool there,.int .i64 value,.int .i64 (count:Int)] 141 (0,0))/\wk.heap[w.heap.size]? =some (.cells #[.int .u8 (op:Int),.string key,.int .u16 (seq:Int),.int .i16 val] 41 (0,0))/\wk.cell? ⟨b1,0,none⟩=some (.slice ga ng gc)/\Below w.heap.size w wk/\kb≠w.heap.size
theorem Qll{w:World}{jb W rm i g1 cs' b1 gq off ln qc ge N ec xn:Nat}{e:Ev}(h:SortC w jb W rm i g1 cs' b1 gq off ln qc ge N ec xn e)(B:Nat)(Q:World->Prop)(gs:List Ev)(ga:Option Addr)(gc:Nat)(c3:w.cell? ⟨b1,0,none⟩=some (.slice ga gs.length gc))(hgs:IsEvs w ga gs)(hgl:gs.length<=900)(hct:(knOf e.key gs).counts e=false)
  (HG:∀w3,Below w.heap.size w w3->GotG B b1 w.heap.size w3 (.slice ga gs.length gc) gs.length (evCells gs) (evCells1 e) (TailG b1 gq off ln qc Q)):
  Calls Tryz.prog 45 #[.pointer (some ⟨jb,0,none⟩),.int .i64 (i:Int)] w λen w'=>en=.returned (.int .i64 0)/\Q w':=by
 obtain⟨c0,c1,c2,c4,d1,p1,q0,e0,e1,e2,e3,hi,hW,hx,hN,hcap,hok⟩:=h;obtain⟨i0,hi0,hz0,hz1,hz2⟩:=info_parts Tryz.infoEv;have hkl:(knOf e.key gs).last<65536:=(Qco λe he=>(hgs.1 e he).2.1).1
 have HC:=show Hid (∀w,Calls Tryz.prog 78 #[(knOf e.key gs).value',e.value] w λen w'=>en=.returned (.bool ((knOf e.key gs).counts e))/\Below w.heap.size w w')from λw=>QcA (knOf e.key gs) e w hkl hok.2.1
 have HK:=show Hid (∀w',Below w.heap.size w w'->Calls Tryz.prog 70 #[.slice ga gs.length gc,.string e.key] w' λen w''=>en=.returned (knOf e.key gs).value'/\Below w'.heap.size w' w'')from λw' hb'=>QcB ga gc gs e.key w' omQ (hgs.below hb')
 rw[hct]at HC;clear hgs hct hkl hok;generalize knOf e.key gs=kn at HC HK;obtain⟨had,last,there,value,count⟩:=kn;obtain⟨op,key,seq,val⟩:=e;unfold Kn.value' Ev.value at HC;unfold Kn.value' at HK;simp only at HC HK e0 e1 e2 e3;have HGG:=hdQ HG;clear HG;have h1:(i:Int)<(W:Int):=omQ;have h2:(0:Int)<=(i:Int):=omQ;have h3:(xn:Int)<(N:Int):=omQ;have h4:(0:Int)<=(xn:Int):=omQ
 have hn0:(((ln:Int)+1)==0)=false:=by rw[beq_eq_false_iff_ne];omega
 have hln1:(0:Int)<(ln:Int)+1:=omQ;have hx0:¬(xn:Int)<0:=omQ
 have HS:=show Hid (SortS jb b1 gq off ln qc ge N ec xn op key seq val w)from⟨c2,p1,q0,e0,e1,e2,e3⟩
 generalize gs.length=ng at *;go_enter Tryz.func45,Tryz.ntmps45;go_wp2;have HSd:SortS jb b1 gq off ln qc ge N ec xn op key seq val w.drew:=HS.out;refine wp_region_held_drew (S:=SortS jb b1 gq off ln qc ge N ec xn op key seq val) krQ HSd (λhH=>?_);clear c0 c1 c2 c4 d1 p1 q0 e0 e1 e2 e3;refine tkQ 0 (.pointer (some ⟨jb,0,none⟩)) hH ?_;refine tkQ 1 (.pointer (some ⟨jb,0,none⟩)) hH ?_;refine tkQ 2 (.pointer (some ⟨jb,2,none⟩)) hH ?_;refine tlQ 3 (.slice (some ⟨ge,0,none⟩) N ec) rfl (by intro v hSw;have s0:=hSw.1;clear hSw;go_simp) hH ?_;refine tkQ 4 (.pointer (some ⟨b1,0,none⟩)) hH ?_;refine tkQ 5 (.pointer (some ⟨b1,0,none⟩)) hH ?_;refine tkQ 6 (.pointer (some ⟨b1,1,none⟩)) hH ?_;refine tlQ 7 (.slice (some ⟨gq,off,none⟩) (ln+1) qc) rfl (by intro v hSw;have s0:=hSw.2.1;clear hSw;go_simp) hH ?_;refine tkQ 8 (.pointer (some ⟨gq,off,none⟩)) hH ?_;refine tlQ 9 (.int .i64 (xn:Int)) rfl (by intro v hSw;have s0:=hSw.2.2.1;clear hSw;go_simp) hH ?_;refine tkQ 10 (.pointer (some ⟨ge,xn*4,none⟩)) hH ?_;refine tlQ 11 (.agg #[.int .u8 (op:Int),.string key,.int .u16 (seq:Int),.int .i16 val]) rfl (by intro v hSw;have s0:=hSw.2.2.2.1;have s1:=hSw.2.2.2.2.1;have s2:=hSw.2.2.2.2.2.1;have s3:=hSw.2.2.2.2.2.2;clear hSw;go_simp) hH ?_;refine rdQ [12] ?_
 refine arQ λK hK=>?_
 clear hH;go_simp;refine hK.out _ _ (HS.out.below ((Below.refl _ _).alloc (Nat.le_refl _) _).drew) (λhH=>?_);clear hK K;refine rdQ [13] ?_
 refine arQ λK hK=>?_
 clear hH;go_simp;have hbe:(w.alloc (.cells #[.int .u8 (op:Int),.string key,.int .u16 (seq:Int),.int .i16 val] 41)).drew.heap[w.heap.size]? =some (.cells #[.int .u8 (op:Int),.string key,.int .u16 (seq:Int),.int .i16 val] 41 (0,0)):=heap_alloc_new w _
 have HB:=show Hid (Below w.heap.size w (w.alloc (.cells #[.int .u8 (op:Int),.string key,.int .u16 (seq:Int),.int .i16 val] 41)).drew)from((Below.refl _ _).alloc (Nat.le_refl _) _).drew
 refine hK.out _ _ (HS.out.below HB.out) (λhH=>?_);clear hK K hH;refine wpAnyH_done krQ ?_ _;have c3e:=Qae c3 HB.out;clear HSd HS;generalize(w.alloc (.cells #[.int .u8 (op:Int),.string key,.int .u16 (seq:Int),.int .i16 val] 41)).drew=we at hbe HB c3e ⊢;go_wp2
 go_cut [9]from 129 (λs9 wc=>∃kb:Nat,s9=Value.pointer (some ⟨kb,0,none⟩)/\KCut w b1 ga ng gc had last there value count op key seq val kb wc)
 case first=>
  have HBd:Below w.heap.size w we.drew:=HB.out.drew;have hbd:we.drew.heap[w.heap.size]? =some (.cells #[.int .u8 (op:Int),.string key,.int .u16 (seq:Int),.int .i16 val] 41 (0,0)):=hbe;have c3d:we.drew.cell? ⟨b1,0,none⟩=some (.slice ga ng gc):=c3e;clear c3e hbe HB;refine wp_region_held_drew (S:=λw':World=>w'.cell? ⟨b1,0,none⟩=some (.slice ga ng gc)/\w'.heap[w.heap.size]? =some (.cells #[.int .u8 (op:Int),.string key,.int .u16 (seq:Int),.int .i16 val] 41 (0,0))) krQ ⟨c3d,hbd⟩ (λhH=>?_);generalize we.drew=wd at HBd hbd c3d hH ⊢;refine tkQ 0 (.pointer (some ⟨b1,0,none⟩)) hH ?_;refine tkQ 1 (.pointer (some ⟨b1,0,none⟩)) hH ?_;refine tkQ 2 (.pointer (some ⟨b1,0,none⟩)) hH ?_;refine tlQ 3 (.slice ga ng gc) rfl (by intro v hSw;have s0:=hSw.1;clear hSw;go_simp) hH ?_;refine tkQ 4 (.pointer (some ⟨w.heap.size,1,none⟩)) hH ?_;refine tlQ 5 (.string key) rfl (by intro v hSw;have s0:v.cell? ⟨w.heap.size,1,none⟩=some (.string key):=Qaa hSw.2 1;clear hSw;go_simp) hH ?_;have hlt:=Qac hbd;refine rdQ [6,7] ?_;refine AllReadyH.cons rfl (λK hK=>?_) (arQ λK hK=>?_)
  focus
   clear hH;go_simp
   go_wp2_with(go_at_call 70;refine(HK.out _ HBd).mono ?_;rintro en w1 ⟨rfl,hb1⟩)
   have hbd1:=(hb1.block _ hlt).trans hbd;have c31:=Qae c3d hb1;have HB1:Below w.heap.size w w1:=HBd.trans (hb1.mono HBd.size);have hlt1:=Qac hbd1;refine hK.out _ _ ⟨c31,hbd1⟩ (λhH=>?_);clear hK K;refine rdQ [7] ?_
   refine arQ λK hK=>?_
   clear hH;go_simp;refine hK.out _ _ ⟨Qae c31 ((Below.refl _ _).alloc (Nat.le_refl _) _),(Below.heap_alloc _ _ _ hlt1).trans hbd1⟩ (λhH=>?_);clear hK K;refine rdQ [8] ?_
   refine arQ λK hK=>?_
   clear hH;go_simp;have hkk:=heap_alloc_new w1 (.cells #[.bool had,.int .i64 (last:Int),.bool there,.int .i64 value,.int .i64 (count:Int)] 141);have hbk:=(Below.heap_alloc w1 (.cells #[.bool had,.int .i64 (last:Int),.bool there,.int .i64 value,.int .i64 (count:Int)] 141) _ hlt1).trans hbd1;have c3k:=Qae c31 ((Below.refl w1.heap.size w1).alloc (Nat.le_refl _) (.cells #[.bool had,.int .i64 (last:Int),.bool there,.int .i64 value,.int .i64 (count:Int)] 141));have HBk:Below w.heap.size w (w1.alloc (.cells #[.bool had,.int .i64 (last:Int),.bool there,.int .i64 value,.int .i64 (count:Int)] 141)):=HB1.alloc HB1.size _;refine hK.out _ _ ⟨c3k,hbk⟩ (λhH=>?_);clear hK K hH;have hne:w1.heap.size≠w.heap.size:=Nat.ne_of_gt hlt1;clear hlt1 hlt c3d hbd HBd c31 hbd1 HB1 hb1;generalize w1.alloc (.cells #[.bool had,.int .i64 (last:Int),.bool there,.int .i64 value,.int .i64 (count:Int)] 141)=wk at hkk hbk c3k HBk ⊢;generalize w1.heap.size=kb at hkk hne ⊢;clear w1;refine wpAnyH_done krQ ?_ _
   go_wp2_with fail
   go_meet
   exact⟨kb,rfl,hkk,hbk,c3k,HBk,hne⟩
  focus
   clear hH;go_simp;have hkk:=heap_alloc_new wd (.cells #[.bool false,.int .i64 0,.bool false,.int .i64 0,.int .i64 0] 141);have hbk:=(Below.heap_alloc wd (.cells #[.bool false,.int .i64 0,.bool false,.int .i64 0,.int .i64 0] 141) _ hlt).trans hbd;have c3k:=Qae c3d ((Below.refl wd.heap.size wd).alloc (Nat.le_refl _) (.cells #[.bool false,.int .i64 0,.bool false,.int .i64 0,.int .i64 0] 141));have HBk:Below w.heap.size w (wd.alloc (.cells #[.bool false,.int .i64 0,.bool false,.int .i64 0,.int .i64 0] 141)):=HBd.alloc HBd.size _;refine hK.out _ _ ⟨c3k,hbk⟩ (λhH=>?_);clear hK K;have hne:wd.heap.size≠w.heap.size:=Nat.ne_of_gt hlt;have hle:w.heap.size<=wd.heap.size:=HBd.size;clear hlt c3d hbd HBd;generalize wd.alloc (.cells #[.bool false,.int .i64 0,.bool false,.int .i64 0,.int .i64 0] 141)=wa at hkk hbk c3k HBk hH ⊢;have hb1k:b1≠wd.heap.size:=Nat.ne_of_lt (Nat.lt_of_lt_of_le (Qan c3) hle);generalize wd.heap.size=kb at hkk hne hle hb1k hH ⊢;clear wd;refine rdQ [6] ?_
   refine arQ λK hK=>?_
   clear hH;go_simp
   go_wp2_with(go_at_call 70;refine(HK.out _ HBk).mono ?_;rintro en w1 ⟨rfl,hb1⟩)
   have hkk1:=(hb1.block _ (Qac hkk)).trans hkk;have hbk1:=(hb1.block _ (Qac hbk)).trans hbk;have c3k1:=Qae c3k hb1;have HBk1:Below w.heap.size w w1:=HBk.trans (hb1.mono HBk.size);refine hK.out _ _ ⟨c3k1,hbk1⟩ (λhH=>?_);clear hK K hkk hbk c3k HBk hb1;clear wa;refine rdQ [8] ?_
   refine arQ λK hK=>?_
   clear hH;have y0:w1.cell? ⟨kb,0,none⟩=some (.bool false):=Qaa hkk1 0;have y1:w1.cell? ⟨kb,1,none⟩=some (.int .i64 0):=Qaa hkk1 1;have y2:w1.cell? ⟨kb,2,none⟩=some (.bool false):=Qaa hkk1 2;have y3:w1.cell? ⟨kb,3,none⟩=some (.int .i64 0):=Qaa hkk1 3;have y4:w1.cell? ⟨kb,4,none⟩=some (.int .i64 0):=Qaa hkk1 4;have z0:w1.frozen? ⟨kb,0,none⟩=false:=Qab hkk1 0;have z1:w1.frozen? ⟨kb,1,none⟩=false:=Qab hkk1 1;have z2:w1.frozen? ⟨kb,2,none⟩=false:=Qab hkk1 2;have z3:w1.frozen? ⟨kb,3,none⟩=false:=Qab hkk1 3;have z4:w1.frozen? ⟨kb,4,none⟩=false:=Qab hkk1 4;go_simp;obtain⟨hkk,HBk,hoth⟩:=fill5 hkk1 HBk1 hle (.bool had) (.int .i64 (last:Int)) (.bool there) (.int .i64 value) (.int .i64 (count:Int));have hbk:=(hoth _ (Ne.symm hne)).trans hbk1;have c3k:=(World.cell?_of_block (a:=⟨b1,0,none⟩) (hoth b1 hb1k)).trans c3k1;clear hoth y0 y1 y2 y3 y4 z0 z1 z2 z3 z4 hkk1 hbk1 c3k1 HBk1 hle;generalize(((((w1.setCell ⟨kb,0,none⟩ (.bool had)).setCell ⟨kb,1,none⟩ (.int .i64 (last:Int))).setCell ⟨kb,2,none⟩ (.bool there)).setCell ⟨kb,3,none⟩ (.int .i64 value)).setCell ⟨kb,4,none⟩ (.int .i64 (count:Int)))=wk at hkk hbk c3k HBk ⊢;refine hK.out _ _ ⟨c3k,hbk⟩ (λhH=>?_);clear hK K hH;clear w1;refine wpAnyH_done krQ ?_ _
   go_wp2_with fail
   go_meet
   exact⟨kb,rfl,hkk,hbk,c3k,HBk,hne⟩
 case rest=>
  obtain⟨kb,rfl,hkk,hbk,c3k,HBk,hne⟩:=hcut;clear hbe HB c3e;clear we
  revert wc
  intro wk hkk hbk c3k HBk;have y0:wk.cell? ⟨kb,0,none⟩=some (.bool had):=Qaa hkk 0;have y1:wk.cell? ⟨kb,1,none⟩=some (.int .i64 (last:Int)):=Qaa hkk 1;have y2:wk.cell? ⟨kb,2,none⟩=some (.bool there):=Qaa hkk 2;have y3:wk.cell? ⟨kb,3,none⟩=some (.int .i64 value):=Qaa hkk 3;have y4:wk.cell? ⟨kb,4,none⟩=some (.int .i64 (count:Int)):=Qaa hkk 4;have v0:wk.cell? ⟨w.heap.size,0,none⟩=some (.int .u8 (op:Int)):=Qaa hbk 0;have v1:wk.cell? ⟨w.heap.size,1,none⟩=some (.string key):=Qaa hbk 1;have v2:wk.cell? ⟨w.heap.size,2,none⟩=some (.int .u16 (seq:Int)):=Qaa hbk 2;have v3:wk.cell? ⟨w.heap.size,3,none⟩=some (.int .i16 val):=Qaa hbk 3
  go_wp2_with(go_at_call 78;refine(HC.out _).mono ?_;rintro en w4 ⟨rfl,hb4⟩)
  have hbe4:=(hb4.block _ (Qac hbk)).trans hbk;have HB4:Below w.heap.size w w4:=HBk.trans (hb4.mono HBk.size);clear y0 y1 y2 y3 y4 v0 v1 v2 v3 hkk hbk c3k HBk hb4 hne;clear wk;have hbx:w4.drew.heap[w.heap.size]? =some (.cells #[.int .u8 (op:Int),.string key,.int .u16 (seq:Int),.int .i16 val] 41 (0,0)):=hbe4;have HX:=HGG.out w4.drew HB4.drew;refine wp_region_held_drew (S:=λw':World=>w'.heap[w.heap.size]? =some (.cells #[.int .u8 (op:Int),.string key,.int .u16 (seq:Int),.int .i16 val] 41 (0,0))) krQ hbx (λhH=>?_);obtain⟨r0,hrow,hng,hBx,hvg,hbb,hgo⟩:=HX;have HG2:=hdQ hgo
  have HRow:=show Hid (w4.drew.ownsRow B 41 4 (.slice ga ng gc) ng (evCells gs))from hrow
  clear hgo hrow;have hwl:w.heap.size<w4.drew.heap.size:=Qac hbx;generalize w4.drew=w3 at hbx hH r0 HRow hBx hwl HG2 ⊢;refine tkQ 0 (.pointer (some ⟨b1,0,none⟩)) hH ?_;refine tkQ 1 (.pointer (some ⟨b1,0,none⟩)) hH ?_;refine tkQ 2 (.pointer (some ⟨b1,0,none⟩)) hH ?_;refine tkQ 3 (.pointer (some ⟨b1,0,none⟩)) hH ?_;refine tlQ 5 (.agg #[.int .u8 (op:Int),.string key,.int .u16 (seq:Int),.int .i16 val]) rfl (by intro v hSw;have s0:v.cell? ⟨w.heap.size,0,none⟩=some (.int .u8 (op:Int)):=Qaa hSw 0;have s1:v.cell? ⟨w.heap.size,1,none⟩=some (.string key):=Qaa hSw 1;have s2:v.cell? ⟨w.heap.size,2,none⟩=some (.int .u16 (seq:Int)):=Qaa hSw 2;have s3:v.cell? ⟨w.heap.size,3,none⟩=some (.int .i16 val):=Qaa hSw 3;clear hSw;go_simp) hH ?_;have hba:=(Below.refl w3.heap.size w3).alloc (Nat.le_refl _) (.cells #[.int .u8 (op:Int),.string key,.int .u16 (seq:Int),.int .i16 val] 41);have hb4:(w3.alloc (.cells #[.int .u8 (op:Int),.string key,.int .u16 (seq:Int),.int .i16 val] 41)).heap[w.heap.size]? =some (.cells #[.int .u8 (op:Int),.string key,.int .u16 (seq:Int),.int .i16 val] 41 (0,0)):=(Below.heap_alloc _ _ _ hwl).trans hbx;have r0a:(w3.alloc (.cells #[.int .u8 (op:Int),.string key,.int .u16 (seq:Int),.int .i16 val] 41)).cell? ⟨b1,0,none⟩=some (.slice ga ng gc):=Qae r0 hba;have HBa:=hdQ hba;clear hba;refine rdQ [4,6] ?_;refine AllReadyH.cons rfl (λK hK=>?_) (arQ λK hK=>?_)
  focus
   clear hH;go_simp;refine hK.out _ _ hbx (λhH=>?_);clear hK K;refine rdQ [6] ?_
   refine arQ λK hK=>?_
   clear hH;go_simp;refine hK.out _ _ hb4 (λhH=>?_);clear hK K
  rotate_left
  focus
   clear hH;go_simp;refine hK.out _ _ hb4 (λhH=>?_);clear hK K;refine rdQ [4] ?_
   refine arQ λK hK=>?_
   clear hH;go_simp;refine hK.out _ _ hb4 (λhH=>?_);clear hK K
  all_goals
   refine rdQ [7] ?_
   refine arQ λK hK=>?_
   refine QaM rfl ?_;refine Qau _ (.tmp 220) (.tmp 222) 35 rfl B 41 i0 (.agg #[.int .u8 0,.string ⟨#[]⟩,.int .u16 0,.int .i16 0]) 4 32 Tryz.underlying35 hi0 hz0 hz1 hz2 rfl (by decide) (.slice ga ng gc) ng (evCells gs) rfl (HRow.out.alloc _) ⟨w3.heap.size,0,none⟩ 1 1 (evCells1 ⟨op,key,seq,val⟩) rfl rfl (by have:=QaC w3 (.int .u8 (op:Int)) (.string key) (.int .u16 (seq:Int)) (.int .i16 val) 41;simpa[evCells1]using this) (Qbl _) (by unfold maxLen;omega) (by omega) (by simp;omega) (by decide) ?_;intro v' w5 hown5 happ;obtain⟨r5,z5,hQ⟩:=HG2.out _ w5 v' HBa.out hown5 happ;have hb5:w5.heap[w.heap.size]? =some (.cells #[.int .u8 (op:Int),.string key,.int .u16 (seq:Int),.int .i16 val] 41 (0,0)):=((Qat happ).block _ (Qac hb4) (λe=>hvg _ e.symm rfl)).trans hb4;refine hK.out _ _ hb5 (λhH=>?_);have HQ:=hdQ hQ;obtain⟨a5,c5,rfl⟩:=Qaf hown5;clear hK K hown5 happ HRow HG2 HBa hQ r0a hb4;refine tkQ 8 (.pointer (some ⟨b1,0,none⟩)) hH ?_;refine tkQ 9 (.pointer (some ⟨b1,0,none⟩)) hH ?_;refine rdQ [10] ?_
   refine arQ λK hK=>?_
   clear hH;go_simp;have hb6:(w5.setCell ⟨b1,0,none⟩ (.slice a5 (ng+1) c5)).heap[w.heap.size]? =some (.cells #[.int .u8 (op:Int),.string key,.int .u16 (seq:Int),.int .i16 val] 41 (0,0)):=(Below.heap_setCell w5 ⟨b1,0,none⟩ (.slice a5 (ng+1) c5) w.heap.size (λe=>by have e':w.heap.size=b1:=e;exact hbb e'.symm)).trans hb5;refine hK.out _ _ hb6 (λhH=>?_);clear hK K hH;refine wpAnyH_done krQ ?_ _;clear r5 z5 hb5 hb6 hbx r0 hwl;generalize w5.setCell ⟨b1,0,none⟩ (.slice a5 (ng+1) c5)=w6 at HQ ⊢;obtain⟨t1,t2,hT⟩:=HQ.out
   have HT1:=show Hid _ from hT _ (.inl rfl)
   have HT2:=show Hid (qc=1->_)from λe:qc=1=>hT (.slice (some ⟨gq,off,none⟩) ln 0) (.inr ⟨e,rfl⟩)
   clear hT HQ;go_wp2
   all_goals
    go_ret
   ·exact⟨rfl,HT2.out omQ⟩
   ·exact⟨rfl,HT1.out⟩
end
end Go.Proofs.YthccpacmklhejaaGreatDoor
