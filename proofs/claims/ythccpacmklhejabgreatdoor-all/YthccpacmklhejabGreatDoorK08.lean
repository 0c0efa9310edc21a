import Derived.Test.YthccpacmklhejabGreatDoorTk
import Derived.Test.YthccpacmklhejabGreatDoorK07
set_option maxHeartbeats 400000
set_option maxRecDepth 4000
namespace Go.Proofs.YthccpacmklhejabGreatDoor
section
open Go.RowKit
theorem QaO{W:World}{B n:Nat}{e:TypeId}{s:Nat}{v:Value}{xs:List Value}(h:W.ownsRow B e s v n xs){g:Nat}(hg:v.ownBlock=some g):∃cur,W.heap[g]? =some (.cells cur e (0,0))/\B<=g/\cur.toList.take (n*s)=xs/\v=.slice (some ⟨g,0,none⟩) n (match v with | .slice _ _ c=>c | _=>0):=by
 rcases h.2 with⟨rfl,_⟩ | ⟨g',cap,cur,rfl,hb,hh,_,_,_,ht⟩
 ·simp[Value.ownBlock]at hg
 ·simp[Value.ownBlock]at hg;subst hg;exact⟨cur,hh,hb,ht,rfl⟩
theorem Qac{W:World}{g:Nat}{o:Obj}(h:W.heap[g]? =some o):g<W.heap.size:=(Array.getElem?_eq_some_iff.1 h).1
theorem QcT{W:World}{B B' n n':Nat}{e e':TypeId}{s s':Nat}{v v':Value}{xs xs':List Value}(h:W.ownsRow B e s v n xs)(h':W.ownsRow B' e' s' v' n' xs')(hne:e≠e'):∀g,v.ownBlock=some g->v'.ownBlock≠some g:=by
 intro g hg hg';obtain⟨cur,h1,_⟩:=QaO h hg;obtain⟨cur',h2,_⟩:=QaO h' hg';rw[h1]at h2;simp at h2;exact hne h2.2
theorem QaV{W W':World}{row:Option Nat}{B n:Nat}{e:TypeId}{s:Nat}{v:Value}{xs:List Value}(h:W.ownsRow B e s v n xs)(hg:W.grownBy W' row)(hne:∀g,v.ownBlock=some g->row≠some g):W'.ownsRow B e s v n xs:=by
 refine h.kept hg ?_
 cases hv:v.ownBlock with
 | none=>left;rfl
 | some g=>right;exact λh=>hne g hv h.symm
theorem Qdo(es:List Ev):(evCells es).length=es.length*4:=by
 induction es with
 | nil=>rfl
 | cons e es ih=>simp[evCells,evCells1]at ih ⊢;omega
theorem Qak(W:World)(wb j:Nat)(u:Value):W.grownBy (W.setCell ⟨wb,j,none⟩ u) (some wb):=
 ⟨rfl,rfl,rfl,by simp[World.setCell],λk _ hne=>Below.heap_setCell W ⟨wb,j,none⟩ u k (λh=>hne (by rw[h]))⟩
theorem Qks{w w':World}{row r:Option Nat}(h:w.grownBy w' r)(hr:r=none\/r=row):w.grownBy w' row:=by
 rcases hr with rfl | rfl
 ·exact⟨h.os,h.tape,h.output,h.size,λk hk _=>h.block k hk (by simp)⟩
 ·exact h
theorem Qas{W:World}{wb j:Nat}{cs:Array Value}{t:TypeId}(h:W.heap[wb]? =some (.cells cs t (0,0)))(u:Value):(W.setCell ⟨wb,j,none⟩ u).heap[wb]? =some (.cells (cs.setIfInBounds j u) t (0,0)):=by
 simp only[World.setCell,Array.getElem?_modify,if_true,h];simp
theorem Qah{W:World}{B n:Nat}{e:TypeId}{s:Nat}{v:Value}{xs:List Value}(h:W.ownsRow B e s v n xs):∀g,v.ownBlock=some g->B<=g/\g<W.heap.size:=λg hg=>h.lt g hg
theorem QgR(W:World)(wb cnt:Nat)(h6:W.cell? ⟨wb,6,none⟩=some (.int .i64 (cnt:Int)))(hf:W.frozen? ⟨wb,6,none⟩=false)(hc:cnt<=2000000000001):
  Calls Tryz.prog 64 #[.pointer (some ⟨wb,0,none⟩)] W λe w'=>e=.returned (.int .i64 (-((cnt:Int)+1)))/\w'=W.setCell ⟨wb,6,none⟩ (.int .i64 ((cnt:Int)+1)):=by
 go_enter Tryz.func64,Tryz.ntmps64;go_wp2;go_ret;exact⟨rfl,rfl⟩
theorem QaB{a b c:World}{r:Option Nat}(h:a.grownBy b r)(k:b.grownBy c r):a.grownBy c r:=
 ⟨k.os.trans h.os,k.tape.trans h.tape,k.output.trans h.output,Nat.le_trans h.size k.size,λi hi hne=>(k.block i (Nat.lt_of_lt_of_le hi h.size) hne).trans (h.block i hi hne)⟩
theorem Qkt(m:Ev):∀(es:List Ev) (k:Nat),k<es.length->
  ((((evCells (List.replicate k m++es.drop k)).set (k*4) (.int .u8 (m.op:Int))).set (k*4+1) (.string m.key)).set (k*4+2) (.int .u16 (m.seq:Int))).set (k*4+3) (.int .i16 m.val)=evCells (List.replicate (k+1) m++es.drop (k+1)):=by
 intro es k hk;have hd:es.drop k=es[k] :: es.drop (k+1):=List.drop_eq_getElem_cons hk
 have hr:List.replicate (k+1) m=List.replicate k m++[m]:=by rw[List.replicate_succ']
 rw[hd,hr,List.append_assoc,QaU,QaU (List.replicate k m)]
 have hlen:(evCells (List.replicate k m)).length=k*4:=by rw[Qdo];simp
 have hc:∀(e:Ev) (r:List Ev),evCells (e :: r)=evCells1 e++evCells r:=λe r=>by simp[evCells]
 rw[hc,List.singleton_append,hc];rw[List.set_append_right _ _ omQ,List.set_append_right _ _ omQ,List.set_append_right _ _ omQ,List.set_append_right _ _ omQ,hlen];rw[show k*4-k*4=0 from by omega,show k*4+1-k*4=1 from by omega,show k*4+2-k*4=2 from by omega,show k*4+3-k*4=3 from by omega]
 rfl
theorem Tryz.infoSl:(Tryz.prog.info? 33).map (λi=>(i.zero,i.size,i.bytes))=some (some (.slice none 0 0),1,24):=by kernel_rfl
theorem Qat{W1 w2:World}{v v':Value}(hfr:(W1.grownBy w2 none/\v'.ownBlock=some W1.heap.size)\/(W1.grownBy w2 v.ownBlock/\v'.ownBlock=v.ownBlock/\v.ownBlock≠none)):W1.grownBy w2 v.ownBlock:=
 hfr.elim (λx=>Qks x.1 (.inl rfl)) (λx=>x.1)
theorem Qaf{W:World}{B n:Nat}{e:TypeId}{s:Nat}{v:Value}{xs:List Value}(h:W.ownsRow B e s v n xs):∃a c,v=.slice a n c:=by
 rcases h.2 with⟨rfl,h0⟩ | ⟨g,cap,cur,rfl,_⟩
 ·exact⟨none,0,by rw[h0]⟩
 ·exact⟨_,_,rfl⟩
theorem QaM{c p q:Prop}[Decidable c] (hc:c)(h:p):if c then p else q:=by rw[if_pos hc];exact h
theorem cell_one_new(w:World)(a:Value)(t:TypeId):∀j u,[a][j]? =some u->(w.alloc (.cells #[a] t)).cell? ((⟨w.heap.size,0,none⟩:Addr).add j)=some u:=by
 intro j u hu
 cases j with
 | zero=>
  simp at hu;subst hu
  exact Qad (heap_alloc_new w _) 0
 | succ j=>simp at hu
end
end Go.Proofs.YthccpacmklhejabGreatDoor
