import Derived.Test.YthccpacmklhejabGreatDoorTk
import Derived.Test.YthccpacmklhejabGreatDoorK07
import Derived.Test.YthccpacmklhejabGreatDoorK08
set_option maxHeartbeats 1000000
set_option maxRecDepth 100000
namespace Go.Proofs.YthccpacmklhejabGreatDoor
section
open Go.RowKit
structure FrmX (X:Nat->Prop) (w w':World):Prop where
 os:w'.os=w.os
 tape:w'.tape=w.tape
 output:w'.output=w.output
 size:w.heap.size<=w'.heap.size
 keep:∀g,g<w.heap.size->¬X g->w'.heap[g]? =w.heap[g]?
theorem FrmX.refl(X:Nat->Prop)(w:World):FrmX X w w:=⟨rfl,rfl,rfl,Nat.le_refl _,λ_ _ _=>rfl⟩
theorem FrmX.trans{X X':Nat->Prop}{w w1 w2:World}(h:FrmX X w w1)(h':FrmX X' w1 w2)(hx:∀g,g<w.heap.size->X' g->X g):FrmX X w w2:=
 ⟨h'.os.trans h.os,h'.tape.trans h.tape,h'.output.trans h.output,Nat.le_trans h.size h'.size,λg hg hn=>(h'.keep g (Nat.lt_of_lt_of_le hg h.size) λhe=>hn (hx g hg he)).trans (h.keep g hg hn)⟩
theorem FrmX.mono{X X':Nat->Prop}{w w1:World}(h:FrmX X w w1)(hx:∀g,g<w.heap.size->X g->X' g):FrmX X' w w1:=
 ⟨h.os,h.tape,h.output,h.size,λg hg hn=>h.keep g hg λhe=>hn (hx g hg he)⟩
theorem FrmX.drew{X:Nat->Prop}{w w1:World}(h:FrmX X w w1):FrmX X w w1.drew:=⟨h.os,h.tape,h.output,h.size,h.keep⟩
theorem FrmX.drewN{X:Nat->Prop}{w w1:World}(h:FrmX X w w1)(n:Nat):FrmX X w (w1.drewN n):=⟨h.os,h.tape,h.output,h.size,h.keep⟩
theorem FrmX.of_below{X:Nat->Prop}{w w1:World}(h:Below w.heap.size w w1):FrmX X w w1:=⟨h.os,h.tape,h.output,h.size,λg hg _=>h.block g hg⟩
theorem FrmX.old{X:Nat->Prop}{w w1 w2:World}(h:FrmX X w w1)(hb:Below w1.heap.size w1 w2):FrmX X w w2:=h.trans (.of_below (X:=λ_=>False) hb) λ_ _ h=>h.elim
theorem FrmX.alloc{X:Nat->Prop}{w w1:World}(h:FrmX X w w1)(o:Obj):FrmX X w (w1.alloc o):=h.old ((Below.refl _ _).alloc (Nat.le_refl _) _)
theorem FrmX.of_grown{X:Nat->Prop}{w w1:World}{row:Option Nat}(h:w.grownBy w1 row)(hr:∀g,row=some g->X g):FrmX X w w1:=
 ⟨h.os,h.tape,h.output,h.size,λg hg hn=>h.block g hg λe=>hn (hr g e.symm)⟩
theorem FrmX.set{X:Nat->Prop}{w w1:World}(h:FrmX X w w1){g:Nat}(hg:g<w.heap.size->X g)(o:Nat)(u:Value):FrmX X w (w1.setCell ⟨g,o,none⟩ u):=
 h.trans (.of_grown (X:=λx=>x=g) (Qak w1 g o u) λg' hg'=>by simp only[Option.some.injEq]at hg';exact hg'.symm) λx hx e=>by rw[e];exact hg (e ▸ hx)
theorem FrmX.below{X:Nat->Prop}{w w1:World}(h:FrmX X w w1){B:Nat}(hB:B<=w.heap.size)(hX:∀g,X g->B<=g):Below B w w1:=
 ⟨h.os,h.tape,h.output,h.size,λg hg=>h.keep g (Nat.lt_of_lt_of_le hg hB) λhe=>absurd (hX g he) (Nat.not_le.2 hg)⟩
theorem FrmX.block{X:Nat->Prop}{w w1:World}(h:FrmX X w w1){g:Nat}{o:Obj}(hg:w.heap[g]? =some o)(hn:¬X g):w1.heap[g]? =some o:=(h.keep g (Qac hg) hn).trans hg
structure LAt (B:Nat) (e:TypeId) (s kb o:Nat) (t:TypeId) (cs:Array Value) (a:Option Addr) (n c:Nat) (xs:List Value) (w:World):Prop where
 box:w.heap[kb]? =some (.cells cs t (0,0))
 slot:cs[o]? =some (.slice a n c)
 ne:t≠e
 own:w.ownsRow B e s (.slice a n c) n xs
def Xs(kb:Nat)(a:Option Addr)(n c:Nat):Nat->Prop:=λg=>g=kb\/(Value.slice a n c).ownBlock=some g
section
variable {B:Nat} {e:TypeId} {s kb o:Nat} {t:TypeId} {cs:Array Value} {a:Option Addr} {n c:Nat} {xs:List Value} {w w1:World}
theorem LAt.old(h:LAt B e s kb o t cs a n c xs w)(hb:Below w.heap.size w w1):LAt B e s kb o t cs a n c xs w1:=
 ⟨by rw[hb.block kb (Qac h.box)];exact h.box,h.slot,h.ne,Qao h.own hb⟩
theorem LAt.alloc(h:LAt B e s kb o t cs a n c xs w)(ob:Obj):LAt B e s kb o t cs a n c xs (w.alloc ob):=h.old ((Below.refl _ _).alloc (Nat.le_refl _) _)
theorem LAt.drew(h:LAt B e s kb o t cs a n c xs w):LAt B e s kb o t cs a n c xs w.drew:=⟨h.box,h.slot,h.ne,h.own⟩
theorem LAt.cell(h:LAt B e s kb o t cs a n c xs w):w.cell? ⟨kb,o,none⟩=some (.slice a n c):=(Qaa h.box o).trans h.slot
theorem LAt.frozen(h:LAt B e s kb o t cs a n c xs w):w.frozen? ⟨kb,o,none⟩=false:=Qab h.box o
theorem LAt.bl(h:LAt B e s kb o t cs a n c xs w):kb<w.heap.size:=Qac h.box
theorem LAt.ol(h:LAt B e s kb o t cs a n c xs w):o<cs.size:=(Array.getElem?_eq_some_iff.1 h.slot).1
theorem LAt.row_ne(h:LAt B e s kb o t cs a n c xs w):(Value.slice a n c).ownBlock≠some kb:=λhe=>by
 obtain⟨cur,hc,_⟩:=QaO h.own he;rw[h.box]at hc;simp only[Option.some.injEq,Obj.cells.injEq]at hc;exact h.ne hc.2.1
theorem LAt.frm{X:Nat->Prop}(h:LAt B e s kb o t cs a n c xs w)(hf:FrmX X w w1)(h1:¬X kb)(h2:∀g,(Value.slice a n c).ownBlock=some g->¬X g):LAt B e s kb o t cs a n c xs w1:=by
 refine⟨hf.block h.box h1,h.slot,h.ne,h.own.1,?_⟩
 rcases h.own.2 with h0 | ⟨g,cap,cur,e1,e2,e3,e4⟩
 ·exact .inl h0
 ·exact .inr ⟨g,cap,cur,e1,e2,hf.block e3 (h2 g (by rw[e1];rfl)),e4⟩
theorem LAt.setOther(h:LAt B e s kb o t cs a n c xs w){g':Nat}(hk:kb≠g')(hne:(Value.slice a n c).ownBlock≠some g')(j:Nat)(u:Value):LAt B e s kb o t cs a n c xs (w.setCell ⟨g',j,none⟩ u):=
 h.frm (.of_grown (X:=λx=>x=g') (Qak w g' j u) λx hx=>by simp only[Option.some.injEq]at hx;exact hx.symm) hk λg hg e=>hne (e ▸ hg)
theorem LAt.at{g:Nat}(h:LAt B e s kb o t cs (some ⟨g,0,none⟩) n c xs w)(j:Nat)(hj:j<n*s):w.cell? ⟨g,j,none⟩=xs[j]? :=h.own.cellAt j hj
theorem LAt.frozenAt{g:Nat}(h:LAt B e s kb o t cs (some ⟨g,0,none⟩) n c xs w)(j:Nat):w.frozen? ⟨g,j,none⟩=false:=h.own.frozenAt j
theorem LAt.g_ne{g:Nat}(h:LAt B e s kb o t cs (some ⟨g,0,none⟩) n c xs w):g≠kb:=λhe=>h.row_ne (by rw[he];rfl)
theorem LAt.gl{g:Nat}(h:LAt B e s kb o t cs (some ⟨g,0,none⟩) n c xs w):B<=g/\g<w.heap.size:=Qbt h.own
theorem LAt.store{g:Nat}(h:LAt B e s kb o t cs (some ⟨g,0,none⟩) n c xs w)(j:Nat)(u:Value):
  LAt B e s kb o t cs (some ⟨g,0,none⟩) n c (xs.set j u) (w.setCell ⟨g,j,none⟩ u)/\FrmX (Xs kb (some ⟨g,0,none⟩) n c) w (w.setCell ⟨g,j,none⟩ u):=by
 have r1:=h.own.stored j u;refine⟨⟨?_,h.slot,h.ne,r1.1⟩,(FrmX.refl _ w).set (λ_=>.inr rfl) j u⟩;rw[r1.2.block kb h.bl (by simp only[ne_eq,Option.some.injEq];exact λe=>h.g_ne e.symm)];exact h.box
structure Upd (B:Nat) (e:TypeId) (s kb o:Nat) (t:TypeId) (cs:Array Value) (a:Option Addr) (n c:Nat) (w:World) (a':Option Addr) (n' c':Nat) (xs':List Value) (w':World):Prop where
 at':LAt B e s kb o t (cs.setIfInBounds o (.slice a' n' c')) a' n' c' xs' w'
 frm:FrmX (Xs kb a n c) w w'
 row:∀g,(Value.slice a' n' c').ownBlock=some g->(Value.slice a n c).ownBlock=some g\/w.heap.size<=g
theorem QeQ{cs:Array Value}{o:Nat}{v:Value}(h:cs[o]? =some v):cs.setIfInBounds o v=cs:=by
 obtain⟨hl,hv⟩:=Array.getElem?_eq_some_iff.1 h;apply Array.ext_getElem?;intro j;rw[Array.getElem?_setIfInBounds];split
 ·rename_i he
  subst he;exact h.symm
 ·rfl
theorem Upd.of(h:LAt B e s kb o t cs a n c xs w)(hl:LAt B e s kb o t cs a n c xs w1)(hf:FrmX (Xs kb a n c) w w1):Upd B e s kb o t cs a n c w a n c xs w1:=
 ⟨by rw[QeQ h.slot];exact hl,hf,λ_ hg=>.inl hg⟩
theorem Upd.refl(h:LAt B e s kb o t cs a n c xs w):Upd B e s kb o t cs a n c w a n c xs w:=.of h h (.refl _ _)
variable {a':Option Addr} {n' c':Nat} {xs':List Value} {w2:World}
theorem Upd.sub(h:Upd B e s kb o t cs a n c w a' n' c' xs' w1):∀g,g<w.heap.size->Xs kb a' n' c' g->Xs kb a n c g:=λg hg hx=>by
 rcases hx with hx | hx
 ·exact .inl hx
 ·rcases h.row g hx with h1 | h1
  ·exact .inr h1
  ·omega
theorem Upd.old(h:Upd B e s kb o t cs a n c w a' n' c' xs' w1)(hb:Below w1.heap.size w1 w2):Upd B e s kb o t cs a n c w a' n' c' xs' w2:=⟨h.at'.old hb,h.frm.old hb,h.row⟩
theorem Upd.alloc(h:Upd B e s kb o t cs a n c w a' n' c' xs' w1)(ob:Obj):Upd B e s kb o t cs a n c w a' n' c' xs' (w1.alloc ob):=⟨h.at'.alloc ob,h.frm.alloc ob,h.row⟩
theorem Upd.drew(h:Upd B e s kb o t cs a n c w a' n' c' xs' w1):Upd B e s kb o t cs a n c w a' n' c' xs' w1.drew:=⟨h.at'.drew,h.frm.drew,h.row⟩
theorem Upd.setNew(h:Upd B e s kb o t cs a n c w a' n' c' xs' w1){g:Nat}(hk:kb≠g)(hg:w.heap.size<=g)(hr:(Value.slice a' n' c').ownBlock≠some g)(j:Nat)(u:Value):Upd B e s kb o t cs a n c w a' n' c' xs' (w1.setCell ⟨g,j,none⟩ u):=
 ⟨h.at'.setOther hk hr j u,h.frm.set (λhl=>absurd hg (Nat.not_le.2 hl)) j u,h.row⟩
theorem Upd.trans{a2:Option Addr}{n2 c2:Nat}{xs2:List Value}(h:Upd B e s kb o t cs a n c w a' n' c' xs' w1)(h':Upd B e s kb o t (cs.setIfInBounds o (.slice a' n' c')) a' n' c' w1 a2 n2 c2 xs2 w2):Upd B e s kb o t cs a n c w a2 n2 c2 xs2 w2:=by
 have hcs:(cs.setIfInBounds o (.slice a' n' c')).setIfInBounds o (.slice a2 n2 c2)=cs.setIfInBounds o (.slice a2 n2 c2):=by
  apply Array.ext_getElem?;intro j;simp only[Array.getElem?_setIfInBounds,Array.size_setIfInBounds]
  split<;>rfl
 refine⟨by rw[<-hcs];exact h'.at',h.frm.trans h'.frm h.sub,λg hg=>?_⟩
 rcases h'.row g hg with h1 | h1
 ·exact h.row g h1
 ·exact .inr (Nat.le_trans h.frm.size h1)
theorem Upd.from{wa:World}(h:Upd B e s kb o t cs a n c wa a' n' c' xs' w1)(hf:FrmX (Xs kb a n c) w wa):Upd B e s kb o t cs a n c w a' n' c' xs' w1:=
 ⟨h.at',hf.trans h.frm λ_ _ h=>h,λg hg=>(h.row g hg).imp id (Nat.le_trans hf.size)⟩
theorem Upd.store{g:Nat}(h:Upd B e s kb o t cs a n c w (some ⟨g,0,none⟩) n' c' xs' w1)(j:Nat)(u:Value):
  Upd B e s kb o t cs a n c w (some ⟨g,0,none⟩) n' c' (xs'.set j u) (w1.setCell ⟨g,j,none⟩ u):=by
 obtain⟨h1,h2⟩:=h.at'.store j u;exact⟨h1,h.frm.trans h2 h.sub,h.row⟩
theorem LAt.put(h:LAt B e s kb o t cs a n c xs w){w5:World}(hown:w5.ownsRow B e s (.slice a' n' c') n' xs')(hg:w.grownBy w5 (Value.slice a n c).ownBlock)(hr:∀g,(Value.slice a' n' c').ownBlock=some g->(Value.slice a n c).ownBlock=some g\/w.heap.size<=g):
  w5.heap[kb]? =some (.cells cs t (0,0))/\Upd B e s kb o t cs a n c w a' n' c' xs' (w5.setCell ⟨kb,o,none⟩ (.slice a' n' c')):=by
 have hbk:w5.heap[kb]? =some (.cells cs t (0,0)):=by
  rw[hg.block kb h.bl λe=>h.row_ne e.symm];exact h.box
 have hne:(Value.slice a' n' c').ownBlock≠some kb:=λhe=>by
  obtain⟨cur,hc,_⟩:=QaO hown he;rw[hbk]at hc;simp only[Option.some.injEq,Obj.cells.injEq]at hc;exact h.ne hc.2.1
 refine⟨hbk,⟨Qag (j:=o) hbk _,?_,h.ne,?_⟩,(FrmX.of_grown hg λg hg'=>.inr hg').set (λ_=>.inl rfl) o _,hr⟩
 ·rw[Array.getElem?_setIfInBounds,if_pos rfl,if_pos h.ol]
 ·exact QaV hown (Qak w5 kb o _) λg hg' e=>by
   simp only[Option.some.injEq]at e;exact hne (e ▸ hg')
theorem LAt.put_app(h:LAt B e s kb o t cs a n c xs w){w5:World}{v:Value}(hown:w5.ownsRow B e s (.slice a' n' c') n' xs')(hv:v=.slice a' n' c')(hg:(w.grownBy w5 none/\v.ownBlock=some w.heap.size)\/(w.grownBy w5 (Value.slice a n c).ownBlock/\v.ownBlock=(Value.slice a n c).ownBlock/\(Value.slice a n c).ownBlock≠none)):
  w5.heap[kb]? =some (.cells cs t (0,0))/\Upd B e s kb o t cs a n c w a' n' c' xs' (w5.setCell ⟨kb,o,none⟩ (.slice a' n' c')):=by
 subst hv
 rcases hg with⟨h1,h2⟩ | ⟨h1,h2,_⟩
 ·exact h.put hown ⟨h1.os,h1.tape,h1.output,h1.size,λk hk _=>h1.block k hk (by simp)⟩ λg hg=>by
   rw[h2]at hg;simp only[Option.some.injEq]at hg;exact .inr (Nat.le_of_eq hg)
 ·exact h.put hown h1 λg hg=>.inl (h2 ▸ hg)
end
theorem QaT{P:Program}{fn:Func}{p u:Tmp}{ty:TypeId}(h:fn.results=#[.cell p ty,.tmp u])(tmps:Array Value)(w:World)(g:Nat)(t:TypeId)(cs:Array Value)(fr:Nat × Nat)(d:TypeDesc)
  (hp:tmps.getD p undef=.pointer (some ⟨g,0,none⟩)) (hg:w.heap[g]? =some (.cells cs t fr))
  (hu:P.underlying ty=some d) (hd:(match d with | .struct _ | .array _ _=>true | _=>false)=true) (hi:(P.info? ty).map (·.size)=some cs.size):
  (results fn tmps).run P w=.ok (.tuple #[.agg cs,tmps.getD u undef]) w:=by
 have hp':tmps[p]?.getD undef=.pointer (some ⟨g,0,none⟩):=by simpa using hp
 simp[results,h,hp',asAddr,run_loadVar_row w g t ty cs fr d hg hu hd hi]
end
section
open Go.RowKit
structure GX where
 v:GV
 ch:Bool
def gCells1(r:GX):List Value:=[.int .i32 (r.v.pt:Int),.int .i64 r.v.live,.int .i16 r.v.sum,.int .u8 r.v.ev,.bool r.ch]
def gCells(rs:List GX):List Value:=rs.flatMap gCells1
theorem Qgg(rs:List GX):(gCells rs).length=rs.length*5:=by
 induction rs with
 | nil=>rfl
 | cons r rs ih=>simp[gCells,gCells1]at ih ⊢;omega
theorem QbS(rs ts:List GX):gCells (rs++ts)=gCells rs++gCells ts:=by simp[gCells]
theorem Qbk:∀(rs:List GX) (k:Nat) (h:k<rs.length) (j:Nat),j<5->(gCells rs)[k*5+j]? =(gCells1 rs[k])[j]?
 | r :: rs,0,_,j,hj=>by
  simp only[gCells,List.flatMap_cons,Nat.zero_mul,Nat.zero_add,List.getElem_cons_zero]
  rw[List.getElem?_append_left (by simp[gCells1];omega)]
 | r :: rs,k+1,h,j,hj=>by
  have ih:=Qbk rs k (by simpa using h) j hj;simp only[gCells,List.flatMap_cons,List.getElem_cons_succ]at ih ⊢;rw[List.getElem?_append_right (by simp[gCells1];omega),<-ih];congr 1;simp[gCells1];omega
theorem Qjd(rs:List GX)(n:Nat)(h:n<rs.length)(x:GX)(j:Nat)(u:Value)(hj:j<5)(hu:(gCells1 rs[n]).set j u=gCells1 x):(gCells rs).set (n*5+j) u=gCells (rs.set n x):=by
 have hs:rs=rs.take n++rs[n] :: rs.drop (n+1):=by rw[<-List.drop_eq_getElem_cons h,List.take_append_drop]
 have hset:rs.set n x=rs.take n++x :: rs.drop (n+1):=by rw[List.set_eq_take_append_cons_drop,if_pos h]
 rw[hset];generalize rs[n]=r at hs hu;generalize hT:rs.take n=T at hs;generalize rs.drop (n+1)=D at hs
 have hTl:T.length=n:=by rw[<-hT,List.length_take];omega
 have hlen:(gCells T).length=n*5:=by rw[Qgg,hTl]
 subst hs
 have hc:∀r':GX,gCells (r' :: D)=gCells1 r'++gCells D:=λr'=>by simp[gCells]
 rw[QbS,QbS,hc,hc,List.set_append_right _ _ omQ,hlen,show n*5+j-n*5=j from by omega,List.set_append_left _ _ (by simp[gCells1];omega),hu]
abbrev GAt (B kb o:Nat) (t:TypeId) (cs:Array Value) (a:Option Addr) (c:Nat) (rs:List GX) (w:World):Prop:=LAt B 175 5 kb o t cs a rs.length c (gCells rs) w
abbrev GUpd (B kb o:Nat) (t:TypeId) (cs:Array Value) (a:Option Addr) (c:Nat) (rs:List GX) (w:World) (a':Option Addr) (c':Nat) (rs':List GX) (w':World):Prop:=Upd B 175 5 kb o t cs a rs.length c w a' rs'.length c' (gCells rs') w'
theorem Qa8{B kb o:Nat}{t:TypeId}{cs:Array Value}{g c:Nat}{rs:List GX}{w:World}(h:GAt B kb o t cs (some ⟨g,0,none⟩) c rs w)(n:Nat)(hn:n<rs.length):
  w.cell? ⟨g,n*5,none⟩=some (.int .i32 (rs[n].v.pt:Int))/\w.cell? ⟨g,n*5+1,none⟩=some (.int .i64 rs[n].v.live)/\w.cell? ⟨g,n*5+2,none⟩=some (.int .i16 rs[n].v.sum)/\w.cell? ⟨g,n*5+3,none⟩=some (.int .u8 rs[n].v.ev)/\w.cell? ⟨g,n*5+4,none⟩=some (.bool rs[n].ch):=
 ⟨(h.at (n*5) omQ).trans (Qbk rs n hn 0 (by decide)),(h.at (n*5+1) omQ).trans (Qbk rs n hn 1 (by decide)),(h.at (n*5+2) omQ).trans (Qbk rs n hn 2 (by decide)),(h.at (n*5+3) omQ).trans (Qbk rs n hn 3 (by decide)),(h.at (n*5+4) omQ).trans (Qbk rs n hn 4 (by decide))⟩
theorem Qch{B kb o:Nat}{t:TypeId}{cs:Array Value}{a:Option Addr}{c:Nat}{ks:List GX}{w0:World}{g c':Nat}{rs:List GX}{w:World}(h:GUpd B kb o t cs a c ks w0 (some ⟨g,0,none⟩) c' rs w)(n:Nat)(hn:n<rs.length)(x:GX)(j:Nat)(u:Value)(hj:j<5)(hu:(gCells1 rs[n]).set j u=gCells1 x):
  GUpd B kb o t cs a c ks w0 (some ⟨g,0,none⟩) c' (rs.set n x) (w.setCell ⟨g,n*5+j,none⟩ u):=by
 have h1:=h.store (n*5+j) u;rw[Qjd rs n hn x j u hj hu]at h1
 have hl:rs.length=(rs.set n x).length:=by rw[List.length_set]
 unfold GUpd;rw[<-hl];exact h1
def plcX(p:Nat):List GX->Nat
 | []=>0
 | r :: rs=>if r.v.pt<p then plcX p rs+1 else 0
theorem QiO(p:Nat)(rs:List GX):plcX p rs<=rs.length:=by
 induction rs with
 | nil=>simp[plcX]
 | cons r rs ih=>unfold plcX;split<;>simp<;>omega
theorem QfG{p:Nat}:∀(rs:List GX) (j:Nat),j<=rs.length->(∀k (h:k<rs.length),k<j->rs[k].v.pt<p)->(∀h:j<rs.length,¬rs[j].v.pt<p)->plcX p rs=j
 | [],j,h,_,_=>by simp at h;simp[plcX,h]
 | r :: rs,0,_,_,h=>by
  have:=h (by simp);simp only[List.getElem_cons_zero]at this
  simp[plcX,this]
 | r :: rs,j+1,hj,h1,h2=>by
  have h0:=h1 0 (by simp) omQ;simp only[List.getElem_cons_zero]at h0;have ih:=QfG (p:=p) rs j (by simpa using hj) (λk hk hkj=>by have:=h1 (k+1) (by simpa using hk) omQ;simpa using this) (λhj'=>by have:=h2 (by simpa using hj');simpa using this);simp[plcX,h0,ih]
theorem Qje(B kb o:Nat)(t:TypeId)(cs:Array Value)(a:Option Addr)(c:Nat)(rs:List GX)(p:Nat)(w:World)(hlen:rs.length<=1000)(hG:GAt B kb o t cs a c rs w):
  Calls Tryz.prog 119 #[.pointer (some ⟨kb,o,none⟩),.int .i32 (p:Int)] w λen w'=>en=.returned (.int .i64 (plcX p rs:Int))/\w'=w:=by
 have HO:=show Hid (GAt B kb o t cs a c rs w)from hG
 have hb0:=hG.cell;clear hG;go_enter Tryz.func119,Tryz.ntmps119;go_wp2
 go_loopw [5] (λi wr=>∃j:Nat,j<=rs.length/\i=.int .i64 (j:Int)/\(∀k (h:k<rs.length),k<j->rs[k].v.pt<p)/\wr=w) (λi _=>rs.length-(intOf i).toNat)
 case atStart=>exact⟨0,Nat.zero_le _,rfl,λ_ _ h=>absurd h (Nat.not_lt_zero _),rfl⟩
 case round=>
  obtain⟨j,hj,rfl,hno,rfl⟩:=hrel
  by_cases hjl:j<rs.length
  ·rcases Qai HO.out.own with⟨_,h0⟩ | ⟨g,rfl⟩
   ·omega
   have c0:=(Qa8 HO.out j hjl).1;clear HO;have hji:(j:Int)<(rs.length:Int):=omQ;have hj0:(0:Int)<=(j:Int):=omQ
   by_cases hp:(rs[j]'hjl).v.pt<p
   ·have hpi:(((rs[j]'hjl).v.pt:Int)<(p:Int)):=omQ
    have hno':∀k (h:k<rs.length),k<j+1->rs[k].v.pt<p:=by
     intro k h hk
     by_cases e:k=j
     ·subst e;exact hp
     ·exact hno k h omQ
    clear hp hno;generalize(rs[j]'hjl).v.pt=q at c0 hpi;go_wp2
    go_roundw
    case rel=>exact⟨j+1,by omega,by go_num,hno',by first | trivial | rfl⟩
    case measure=>simp[intOf];omega
   ·have hpi:¬(((rs[j]'hjl).v.pt:Int)<(p:Int)):=omQ
    have Hf:=show Hid _ from QfG (p:=p) rs j hj hno (λ_=>hp)
    clear hno hp;generalize(rs[j]'hjl).v.pt=q at c0 hpi;go_wp2;go_ret;exact⟨by rw[Hf.out];rfl,rfl⟩
  ·have hf:=QfG (p:=p) rs j hj hno (λh=>absurd h hjl);go_wp2;go_ret;exact⟨by rw[hf];rfl,rfl⟩
end
end Go.Proofs.YthccpacmklhejabGreatDoor
