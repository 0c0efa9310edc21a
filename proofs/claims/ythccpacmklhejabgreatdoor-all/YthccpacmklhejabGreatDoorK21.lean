import Derived.Test.YthccpacmklhejabGreatDoorTk
import Derived.Test.YthccpacmklhejabGreatDoorK20
import Derived.Test.YthccpacmklhejabGreatDoorK19
set_option maxHeartbeats 2000000
set_option maxRecDepth 100000
namespace Go.Proofs.YthccpacmklhejabGreatDoor
section
open Go.RowKit
def chI(p:Nat)(dl ds:Int):ItemV:=⟨false,ev0,(p:Int),dl,ds⟩
theorem itemNew{w w1:World}(hw1:w.alloc (.cells #[.bool false,.int .u8 0,.string ⟨#[]⟩,.int .u16 0,.int .i16 0,.int .i32 0,.int .i64 0,.int .i16 0] 164)=w1):w1.heap[w.heap.size]? =some (.cells #[.bool false,.int .u8 0,.string ⟨#[]⟩,.int .u16 0,.int .i16 0,.int .i32 0,.int .i64 0,.int .i16 0] 164 (0,0))/\Below w.heap.size w w1/\(w1.cell? ⟨w.heap.size,0,none⟩=some (.bool false)/\w1.cell? ⟨w.heap.size,1,none⟩=some (.int .u8 0)/\w1.cell? ⟨w.heap.size,2,none⟩=some (.string ⟨#[]⟩)/\w1.cell? ⟨w.heap.size,3,none⟩=some (.int .u16 0)/\w1.cell? ⟨w.heap.size,4,none⟩=some (.int .i16 0)/\w1.cell? ⟨w.heap.size,5,none⟩=some (.int .i32 0)/\w1.cell? ⟨w.heap.size,6,none⟩=some (.int .i64 0)/\w1.cell? ⟨w.heap.size,7,none⟩=some (.int .i16 0))/\(w1.frozen? ⟨w.heap.size,0,none⟩=false/\w1.frozen? ⟨w.heap.size,1,none⟩=false/\w1.frozen? ⟨w.heap.size,2,none⟩=false/\w1.frozen? ⟨w.heap.size,3,none⟩=false/\w1.frozen? ⟨w.heap.size,4,none⟩=false/\w1.frozen? ⟨w.heap.size,5,none⟩=false/\w1.frozen? ⟨w.heap.size,6,none⟩=false/\w1.frozen? ⟨w.heap.size,7,none⟩=false):=by
 have hnb:=heap_alloc_new w (.cells #[.bool false,.int .u8 0,.string ⟨#[]⟩,.int .u16 0,.int .i16 0,.int .i32 0,.int .i64 0,.int .i16 0] 164);have hb:=(Below.refl w.heap.size w).alloc (Nat.le_refl _) (.cells #[.bool false,.int .u8 0,.string ⟨#[]⟩,.int .u16 0,.int .i16 0,.int .i32 0,.int .i64 0,.int .i16 0] 164);rw[hw1]at hnb hb;have d0:w1.cell? ⟨w.heap.size,0,none⟩=some (.bool false):=Qaa hnb 0;have d1:w1.cell? ⟨w.heap.size,1,none⟩=some (.int .u8 0):=Qaa hnb 1;have d2:w1.cell? ⟨w.heap.size,2,none⟩=some (.string ⟨#[]⟩):=Qaa hnb 2;have d3:w1.cell? ⟨w.heap.size,3,none⟩=some (.int .u16 0):=Qaa hnb 3;have d4:w1.cell? ⟨w.heap.size,4,none⟩=some (.int .i16 0):=Qaa hnb 4;have d5:w1.cell? ⟨w.heap.size,5,none⟩=some (.int .i32 0):=Qaa hnb 5;have d6:w1.cell? ⟨w.heap.size,6,none⟩=some (.int .i64 0):=Qaa hnb 6;have d7:w1.cell? ⟨w.heap.size,7,none⟩=some (.int .i16 0):=Qaa hnb 7;have z0:w1.frozen? ⟨w.heap.size,0,none⟩=false:=Qab hnb 0;have z1:w1.frozen? ⟨w.heap.size,1,none⟩=false:=Qab hnb 1;have z2:w1.frozen? ⟨w.heap.size,2,none⟩=false:=Qab hnb 2;have z3:w1.frozen? ⟨w.heap.size,3,none⟩=false:=Qab hnb 3;have z4:w1.frozen? ⟨w.heap.size,4,none⟩=false:=Qab hnb 4;have z5:w1.frozen? ⟨w.heap.size,5,none⟩=false:=Qab hnb 5;have z6:w1.frozen? ⟨w.heap.size,6,none⟩=false:=Qab hnb 6;have z7:w1.frozen? ⟨w.heap.size,7,none⟩=false:=Qab hnb 7;refine⟨hnb,hb,?_,?_⟩
 ·exact⟨d0,d1,d2,d3,d4,d5,d6,d7⟩
 ·exact⟨z0,z1,z2,z3,z4,z5,z6,z7⟩
theorem itemSet{w1:World}{g:Nat}(h:w1.heap[g]? =some (.cells #[.bool false,.int .u8 0,.string ⟨#[]⟩,.int .u16 0,.int .i16 0,.int .i32 0,.int .i64 0,.int .i16 0] 164 (0,0)))(v0 v1 v2 v3 v4 v5 v6 v7:Value):((((((((w1.setCell ⟨g,0,none⟩ v0).setCell ⟨g,1,none⟩ v1).setCell ⟨g,2,none⟩ v2).setCell ⟨g,3,none⟩ v3).setCell ⟨g,4,none⟩ v4).setCell ⟨g,5,none⟩ v5).setCell ⟨g,6,none⟩ v6).setCell ⟨g,7,none⟩ v7).heap[g]? =some (.cells #[v0,v1,v2,v3,v4,v5,v6,v7] 164 (0,0)):=by
 have h0:(w1.setCell ⟨g,0,none⟩ v0).heap[g]? =some (.cells #[v0,.int .u8 0,.string ⟨#[]⟩,.int .u16 0,.int .i16 0,.int .i32 0,.int .i64 0,.int .i16 0] 164 (0,0)):=(Qag (j:=0) h v0).trans rfl;have h1:((w1.setCell ⟨g,0,none⟩ v0).setCell ⟨g,1,none⟩ v1).heap[g]? =some (.cells #[v0,v1,.string ⟨#[]⟩,.int .u16 0,.int .i16 0,.int .i32 0,.int .i64 0,.int .i16 0] 164 (0,0)):=(Qag (j:=1) h0 v1).trans rfl;have h2:(((w1.setCell ⟨g,0,none⟩ v0).setCell ⟨g,1,none⟩ v1).setCell ⟨g,2,none⟩ v2).heap[g]? =some (.cells #[v0,v1,v2,.int .u16 0,.int .i16 0,.int .i32 0,.int .i64 0,.int .i16 0] 164 (0,0)):=(Qag (j:=2) h1 v2).trans rfl;have h3:((((w1.setCell ⟨g,0,none⟩ v0).setCell ⟨g,1,none⟩ v1).setCell ⟨g,2,none⟩ v2).setCell ⟨g,3,none⟩ v3).heap[g]? =some (.cells #[v0,v1,v2,v3,.int .i16 0,.int .i32 0,.int .i64 0,.int .i16 0] 164 (0,0)):=(Qag (j:=3) h2 v3).trans rfl;have h4:(((((w1.setCell ⟨g,0,none⟩ v0).setCell ⟨g,1,none⟩ v1).setCell ⟨g,2,none⟩ v2).setCell ⟨g,3,none⟩ v3).setCell ⟨g,4,none⟩ v4).heap[g]? =some (.cells #[v0,v1,v2,v3,v4,.int .i32 0,.int .i64 0,.int .i16 0] 164 (0,0)):=(Qag (j:=4) h3 v4).trans rfl;have h5:((((((w1.setCell ⟨g,0,none⟩ v0).setCell ⟨g,1,none⟩ v1).setCell ⟨g,2,none⟩ v2).setCell ⟨g,3,none⟩ v3).setCell ⟨g,4,none⟩ v4).setCell ⟨g,5,none⟩ v5).heap[g]? =some (.cells #[v0,v1,v2,v3,v4,v5,.int .i64 0,.int .i16 0] 164 (0,0)):=(Qag (j:=5) h4 v5).trans rfl;have h6:(((((((w1.setCell ⟨g,0,none⟩ v0).setCell ⟨g,1,none⟩ v1).setCell ⟨g,2,none⟩ v2).setCell ⟨g,3,none⟩ v3).setCell ⟨g,4,none⟩ v4).setCell ⟨g,5,none⟩ v5).setCell ⟨g,6,none⟩ v6).heap[g]? =some (.cells #[v0,v1,v2,v3,v4,v5,v6,.int .i16 0] 164 (0,0)):=(Qag (j:=6) h5 v6).trans rfl;have h7:((((((((w1.setCell ⟨g,0,none⟩ v0).setCell ⟨g,1,none⟩ v1).setCell ⟨g,2,none⟩ v2).setCell ⟨g,3,none⟩ v3).setCell ⟨g,4,none⟩ v4).setCell ⟨g,5,none⟩ v5).setCell ⟨g,6,none⟩ v6).setCell ⟨g,7,none⟩ v7).heap[g]? =some (.cells #[v0,v1,v2,v3,v4,v5,v6,v7] 164 (0,0)):=(Qag (j:=7) h6 v7).trans rfl;exact h7
section
variable {F:Fx} {X:Nat->Prop} {w:World} {m:CM}
theorem kCounts(h:CLX F X w m)(i:Nat)(hi:i<m.W)(e:Ev)(es:List Ev)(hk:m.sk i=entsOf es)(hl:es.length<=900):Calls Tryz.prog 96 #[.pointer (some ⟨F.sb,i*3+2,none⟩),e.value] w λen w'=>en=.returned (.bool ((knOf e.key es).counts e))/\Below w.heap.size w w':=by
 obtain⟨cs,a,cp,hK,_⟩:=h.skeys i hi;rw[hk]at hK;have:=Qdb 0 F.sb (i*3+2) _ cs a cp (entsOf es) e w (Nat.le_trans (QdU es) omQ) hK;rw[Qf1]at this;exact this
theorem kTake(h:CLX F X w m)(i:Nat)(hi:i<m.W)(e:Ev)(es:List Ev)(hk:m.sk i=entsOf es)(hl:es.length<=900)(hv:validB e.key=true):Calls Tryz.prog 88 #[.pointer (some ⟨F.sb,i*3+2,none⟩),e.value] w λen w'=>en=.returned (.tuple #[if(knOf e.key es).counts e then chgV (grp e.key).1 (dLive es e) (dSum es e)else chgZ,.bool ((knOf e.key es).counts e)])/\Aft F X w {m with sk:=updF m.sk i (entsOf (es++[e]))} w':=by
 obtain⟨cs,a,cp,hK,hU⟩:=h.skeys i hi;rw[hk]at hK hU
 exact(QiR 0 F.sb (i*3+2) _ cs a cp es e w (Nat.zero_le _) hl hv hK).mono λen w' ⟨h1,a',c',h2⟩=>⟨h1,hU w' a' c' _ h2⟩
theorem Qhc(h:CLX F X w m)(i:Nat)(hi:i<m.W)(he:m.sp i=[]):Calls Tryz.prog 73 #[.pointer (some ⟨F.jb,0,none⟩),.int .i64 (i:Int)] w λen w'=>en=.returned (.int .i64 8)/\Below w.heap.size w w':=by
 have c2:=h.sorterSlice
 have HF:=show Hid _ from λ(_:Unit)=>Qh3 h i hi he
 unfold itZ at HF;have hi1:(i:Int)<(m.W:Int):=omQ;have hi0:(0:Int)<=(i:Int):=omQ;clear h he hi;go_enter Tryz.func73,Tryz.ntmps73
 go_wp2_with(go_at_call 94;refine(HF.out ()).mono ?_;rintro en w2 ⟨rfl,hb2⟩;obtain⟨w1,hw1⟩:∃w1,w2.alloc (.cells #[.bool false,.int .u8 0,.string ⟨#[]⟩,.int .u16 0,.int .i16 0,.int .i32 0,.int .i64 0,.int .i16 0] 164)=w1:=⟨_,rfl⟩;obtain⟨hnb,hb1,⟨d0,d1,d2,d3,d4,d5,d6,d7⟩,⟨z0,z1,z2,z3,z4,z5,z6,z7⟩⟩:=itemNew hw1)
 go_ret;exact⟨rfl,hb2.trans ((Qar hb1 (Nat.le_refl _) _ _ _ _ _ _ _ _).mono hb2.size)⟩
theorem QeC(h:CLX F X w m)(i:Nat)(hi:i<m.W){x:ItemV}{rs:List ItemV}(he:m.sp i=x :: rs)(hx:x.bar=true)(hl:rs.length<=1000){r:Int}{P:World->World->Prop}(hc:∀w',CLX F X w' m->Calls Tryz.prog 95 #[.pointer (some ⟨F.jb,0,none⟩),.int .i64 (i:Int)] w' λen w''=>en=.returned (.int .i64 r)/\P w' w''):Calls Tryz.prog 73 #[.pointer (some ⟨F.jb,0,none⟩),.int .i64 (i:Int)] w λen w'=>en=.returned (.int .i64 r)/\∃w1,Below w.heap.size w w1/\P w1 w':=by
 have c2:=h.sorterSlice
 have HF:=show Hid _ from λ(_:Unit)=>QeA h i hi he hl
 have HX:=show Hid (CLX F X w m)from h
 have HC:=hdQ hc;obtain⟨xb,⟨xo,xk,xq,xv⟩,xp,xl,xs⟩:=x;simp only at hx;subst hx;unfold itV itCells1 at HF;simp only at HF;have hi1:(i:Int)<(m.W:Int):=omQ;have hi0:(0:Int)<=(i:Int):=omQ;clear h he hi hc hl;go_enter Tryz.func73,Tryz.ntmps73
 go_wp2_with(first
  | (go_at_call 94;refine(HF.out ()).mono ?_;rintro en w2 ⟨rfl,hb2⟩;obtain⟨w1,hw1⟩:∃w1,w2.alloc (.cells #[.bool false,.int .u8 0,.string ⟨#[]⟩,.int .u16 0,.int .i16 0,.int .i32 0,.int .i64 0,.int .i16 0] 164)=w1:=⟨_,rfl⟩;obtain⟨hnb,hb1,⟨d0,d1,d2,d3,d4,d5,d6,d7⟩,⟨z0,z1,z2,z3,z4,z5,z6,z7⟩⟩:=itemNew hw1;have HB2:=show Hid (Below w.heap.size w _)from hb2.trans ((Qar hb1 (Nat.le_refl _) (.bool true) (.int .u8 (xo:Int)) (.string xk) (.int .u16 (xq:Int)) (.int .i16 xv) (.int .i32 xp) (.int .i64 xl) (.int .i16 xs)).mono hb2.size);clear hb1 hb2 hnb)
  | (go_at_call 95;refine(HC.out _ (HX.out.below HB2.out)).mono ?_;rintro en w3 ⟨rfl,hP⟩))
 go_ret;exact⟨rfl,_,HB2.out,hP⟩
end
end
section
open Go.RowKit
section
variable {F:Fx} {X:Nat->Prop} {w:World} {m:CM}
def ItAt(F:Fx)(X:Nat->Prop)(m:CM)(w:World)(cs:Array Value)(ib:Nat)(w1:World):Prop:=
 Below w.heap.size w w1/\CLX F X w1 m/\w1.heap[ib]? =some (.cells cs 164 (0,0))/\¬X ib
theorem Aft.heapOf{m':CM}{w':World}(h:Aft F X w m' w'){g:Nat}{o:Obj}(hg:w.heap[g]? =some o)(hn:¬X g):w'.heap[g]? =some o:=by
 obtain⟨X',_,h2,_⟩:=h;exact h2.block hg hn
theorem CLX.setOther{g:Nat}(h:CLX F X w m)(hn:¬X g)(o:Nat)(u:Value):CLX F X (w.setCell ⟨g,o,none⟩ u) m:=
 h.frm ((FrmX.refl (λy=>y=g) w).set (λ_=>rfl) o u) λ_ hx e=>hn (e ▸ hx)
theorem chgStore{X7 X9:Nat->Prop}{w8 wy:World}{m9:CM}{cb:Nat}(hb:wy.heap[cb]? =some (.cells #[.int .i32 0,.int .i64 0,.int .i16 0] 157 (0,0)))(hX:CLX F X9 wy m9)(hn:¬X9 cb)(hF:FrmX X7 w8 wy)(hc:w8.heap.size<=cb)(v0 v1 v2:Value):
  (((wy.setCell ⟨cb,0,none⟩ v0).setCell ⟨cb,1,none⟩ v1).setCell ⟨cb,2,none⟩ v2).heap[cb]? =some (.cells #[v0,v1,v2] 157 (0,0))/\CLX F X9 (((wy.setCell ⟨cb,0,none⟩ v0).setCell ⟨cb,1,none⟩ v1).setCell ⟨cb,2,none⟩ v2) m9/\FrmX X7 w8 (((wy.setCell ⟨cb,0,none⟩ v0).setCell ⟨cb,1,none⟩ v1).setCell ⟨cb,2,none⟩ v2):=by
 have h0:(wy.setCell ⟨cb,0,none⟩ v0).heap[cb]? =some (.cells #[v0,.int .i64 0,.int .i16 0] 157 (0,0)):=(Qag (j:=0) hb _).trans rfl;have h1:((wy.setCell ⟨cb,0,none⟩ v0).setCell ⟨cb,1,none⟩ v1).heap[cb]? =some (.cells #[v0,v1,.int .i16 0] 157 (0,0)):=(Qag (j:=1) h0 _).trans rfl;refine⟨(Qag (j:=2) h1 _).trans rfl,((hX.setOther hn _ _).setOther hn _ _).setOther hn _ _,((hF.set (λhl=>by omega) _ _).set (λhl=>by omega) _ _).set (λhl=>by omega) _ _⟩
def TkAt(F:Fx)(X7:Nat->Prop)(w8:World)(m9:CM)(cs:Array Value)(cb:Nat)(wb:World):Prop:=
 ∃X9,CLX F X9 wb m9/\FrmX X7 w8 wb/\(∀g,X9 g->X7 g\/w8.heap.size<=g)/\wb.heap[cb]? =some (.cells cs 157 (0,0))
theorem QjB(h:CLX F X w m)(i:Nat)(hi:i<m.W){x:ItemV}{rs:List ItemV}(he:m.sp i=x :: rs)(hx:x.bar=false)(hl:rs.length<=1000)(es:List Ev)(hk:m.sk i=entsOf es)(hle:es.length<=900)(hv:validB x.e.key=true)(hk0:0<x.e.key.size)(hk1:x.e.key.size<=1000)(hR:m.R<=1000):
  Calls Tryz.prog 73 #[.pointer (some ⟨F.jb,0,none⟩),.int .i64 (i:Int)] w λen w'=>
   ((knOf x.e.key es).counts x.e=false->en=.returned (.int .i64 0)/\Aft F X w {m with sp:=updF m.sp i rs} w')/\
   ((knOf x.e.key es).counts x.e=true->m.R<=(m.ap ((grp x.e.key).1 % m.W) i).length->en=.returned (.int .i64 9)/\Below w.heap.size w w')/\
   ((knOf x.e.key es).counts x.e=true->¬m.R<=(m.ap ((grp x.e.key).1 % m.W) i).length->en=.returned (.int .i64 0)/\Aft F X w {m with sp:=updF m.sp i rs,sk:=updF m.sk i (entsOf (es++[x.e])),ap:=updF2 m.ap ((grp x.e.key).1 % m.W) i (m.ap ((grp x.e.key).1 % m.W) i++[chI (grp x.e.key).1 (dLive es x.e) (dSum es x.e)])} w'):=by
 have c2:=h.sorterSlice
 have HF:=show Hid _ from λ(_:Unit)=>QeA h i hi he hl
 have HX:=show Hid (CLX F X w m)from h
 have HC:=show Hid _ from λ(w':World) (h':CLX F X w' m)=>kCounts h' i hi x.e es hk hle
 have HT:=show Hid _ from λ(w':World) (h':CLX F X w' m)=>sTake h' i hi he hl
 have HKT:=show Hid _ from λ(X':Nat->Prop) (w':World) (h':CLX F X' w' {m with sp:=updF m.sp i rs})=>kTake h' i hi x.e es hk hle hv
 have HA:=show Hid _ from λ(w':World) (h':CLX F X w' m)=>cadderOf h' x.e.key hk0 hk1 hv
 have hw:=h.w4;have hkW:(grp x.e.key).1 % m.W<m.W:=Nat.mod_lt _ omQ
 have HB:=show Hid _ from λ(w':World) (h':CLX F X w' m)=>cbetween h' i ((grp x.e.key).1 % m.W) hi hkW
 have HFu:=show Hid _ from λ(w':World) (h':CLX F X w' m)=>aFull h' ((grp x.e.key).1 % m.W) i hkW hi
 obtain⟨xb,⟨xo,xk,xq,xv⟩,xp,xl,xs⟩:=x;simp only at hx hv hk0 hk1 HC HKT HA HB HFu hkW ⊢;subst hx;generalize hkd:(grp xk).1 % m.W=kd at HA HB HFu hkW ⊢;generalize hdl:dLive es ⟨xo,xk,xq,xv⟩=dl at HKT ⊢;generalize hds:dSum es ⟨xo,xk,xq,xv⟩=ds at HKT ⊢;generalize hpt:(grp xk).1=pt at HKT ⊢;generalize hct:(knOf xk es).counts ⟨xo,xk,xq,xv⟩=ct at HC HKT ⊢;generalize hen:entsOf (es++[⟨xo,xk,xq,xv⟩])=en2 at HKT ⊢;clear hkd hdl hds hpt hct hen hk hv hk0 hk1 hle;unfold itV itCells1 at HF;unfold Ev.value at HC HKT;simp only at HF HC HKT;have hi1:(i:Int)<(m.W:Int):=omQ;have hi0:(0:Int)<=(i:Int):=omQ;clear h he hl;go_enter Tryz.func73,Tryz.ntmps73
 go_wp2_with(go_at_call 94;refine(HF.out ()).mono ?_;rintro en w2 ⟨rfl,hb2⟩;obtain⟨w1,hw1⟩:∃w1,w2.alloc (.cells #[.bool false,.int .u8 0,.string ⟨#[]⟩,.int .u16 0,.int .i16 0,.int .i32 0,.int .i64 0,.int .i16 0] 164)=w1:=⟨_,rfl⟩;obtain⟨hnb,hb1,⟨d0,d1,d2,d3,d4,d5,d6,d7⟩,⟨z0,z1,z2,z3,z4,z5,z6,z7⟩⟩:=itemNew hw1;have HB2:=show Hid (ItAt F X m w #[.bool false,.int .u8 (xo:Int),.string xk,.int .u16 (xq:Int),.int .i16 xv,.int .i32 xp,.int .i64 xl,.int .i16 xs] w2.heap.size ((((((((w1.setCell ⟨w2.heap.size,0,none⟩ (.bool false)).setCell ⟨w2.heap.size,1,none⟩ (.int .u8 (xo:Int))).setCell ⟨w2.heap.size,2,none⟩ (.string xk)).setCell ⟨w2.heap.size,3,none⟩ (.int .u16 (xq:Int))).setCell ⟨w2.heap.size,4,none⟩ (.int .i16 xv)).setCell ⟨w2.heap.size,5,none⟩ (.int .i32 xp)).setCell ⟨w2.heap.size,6,none⟩ (.int .i64 xl)).setCell ⟨w2.heap.size,7,none⟩ (.int .i16 xs)))from⟨hb2.trans ((Qar hb1 (Nat.le_refl _) (.bool false) (.int .u8 (xo:Int)) (.string xk) (.int .u16 (xq:Int)) (.int .i16 xv) (.int .i32 xp) (.int .i64 xl) (.int .i16 xs)).mono hb2.size),(HX.out.below hb2).below (Qar hb1 (Nat.le_refl _) (.bool false) (.int .u8 (xo:Int)) (.string xk) (.int .u16 (xq:Int)) (.int .i16 xv) (.int .i32 xp) (.int .i64 xl) (.int .i16 xs)),itemSet hnb (.bool false) (.int .u8 (xo:Int)) (.string xk) (.int .u16 (xq:Int)) (.int .i16 xv) (.int .i32 xp) (.int .i64 xl) (.int .i16 xs),λhx=>by have:=HX.out.lt _ hx;have:=hb2.size;omega⟩;clear hb1 hb2 hnb)
 clear d0 d1 d2 d3 d4 d5 d6 d7 z0 z1 z2 z3 z4 z5 z6 z7;generalize((((((((w1.setCell ⟨w2.heap.size,0,none⟩ (.bool false)).setCell ⟨w2.heap.size,1,none⟩ (.int .u8 (xo:Int))).setCell ⟨w2.heap.size,2,none⟩ (.string xk)).setCell ⟨w2.heap.size,3,none⟩ (.int .u16 (xq:Int))).setCell ⟨w2.heap.size,4,none⟩ (.int .i16 xv)).setCell ⟨w2.heap.size,5,none⟩ (.int .i32 xp)).setCell ⟨w2.heap.size,6,none⟩ (.int .i64 xl)).setCell ⟨w2.heap.size,7,none⟩ (.int .i16 xs))=wS at HB2 ⊢;clear hw1 w1;generalize w2.heap.size=ib at HB2 ⊢;clear w2;have hS0:wS.drew.heap[ib]? =some (.cells #[.bool false,.int .u8 (xo:Int),.string xk,.int .u16 (xq:Int),.int .i16 xv,.int .i32 xp,.int .i64 xl,.int .i16 xs] 164 (0,0)):=HB2.out.2.2.1
 have HB3:=show Hid (ItAt F X m w #[.bool false,.int .u8 (xo:Int),.string xk,.int .u16 (xq:Int),.int .i16 xv,.int .i32 xp,.int .i64 xl,.int .i16 xs] ib wS.drew)from⟨HB2.out.1.drew,HB2.out.2.1.drew,hS0,HB2.out.2.2.2⟩
 refine wp_region_held_drew (S:=λw':World=>w'.heap[ib]? =some (.cells #[.bool false,.int .u8 (xo:Int),.string xk,.int .u16 (xq:Int),.int .i16 xv,.int .i32 xp,.int .i64 xl,.int .i16 xs] 164 (0,0))) krQ hS0 (λhH=>?_);generalize wS.drew=w3 at HB3 hS0 hH ⊢;clear HB2 wS;refine tkQ 0 (.pointer (some ⟨F.sb,i*3,none⟩)) hH ?_;refine tkQ 1 (.pointer (some ⟨F.sb,i*3,none⟩)) hH ?_;refine tkQ 2 (.pointer (some ⟨F.sb,i*3+2,none⟩)) hH ?_;refine tkQ 3 (.pointer (some ⟨ib,1,none⟩)) hH ?_;refine tlQ 4 (.agg #[.int .u8 (xo:Int),.string xk,.int .u16 (xq:Int),.int .i16 xv]) rfl (by intro v hSw;have t0:v.cell? ⟨ib,1,none⟩=some (.int .u8 (xo:Int)):=Qaa hSw 1;have t1:v.cell? ⟨ib,2,none⟩=some (.string xk):=Qaa hSw 2;have t2:v.cell? ⟨ib,3,none⟩=some (.int .u16 (xq:Int)):=Qaa hSw 3;have t3:v.cell? ⟨ib,4,none⟩=some (.int .i16 xv):=Qaa hSw 4;clear hSw;go_simp) hH ?_;refine rdQ [5] ?_
 refine arQ λK hK=>?_
 clear hH;go_simp
 go_wp2_with(go_at_call 96;refine(HC.out _ HB3.out.2.1).mono ?_;rintro en w4 ⟨rfl,hb4⟩)
 have HB4:=show Hid (ItAt F X m w #[.bool false,.int .u8 (xo:Int),.string xk,.int .u16 (xq:Int),.int .i16 xv,.int .i32 xp,.int .i64 xl,.int .i16 xs] ib w4)from⟨HB3.out.1.trans (hb4.mono HB3.out.1.size),HB3.out.2.1.below hb4,(hb4.block ib (Qac hS0)).trans hS0,HB3.out.2.2.2⟩
 refine hK.out _ _ HB4.out.2.2.1 (λhH=>?_);clear hK K HB3 hS0 hb4 w3 HC;refine tkQ 6 (.bool (!ct)) hH ?_;refine wpAnyH_done krQ ?_ _;clear hH
 cases ct with
 | false=>
  clear HKT HA HB HFu
  go_wp2_with(go_at_call 97;refine(HT.out _ HB4.out.2.1).mono ?_;rintro en w5 ⟨rfl,hA5⟩)
  go_ret
  exact⟨rfl,Aft.from hA5 HB4.out.1⟩
 | true=>
  simp only[if_true]at HKT;unfold chgV at HKT;have k2:w4.cell? ⟨ib,2,none⟩=some (.string xk):=Qaa HB4.out.2.2.1 2
  by_cases hf:m.R<=(m.ap kd i).length
  ·rw[decide_eq_true hf]at HFu;clear HKT HT
   go_wp2_with(first
    | (go_at_call 98;refine(HA.out _ HB4.out.2.1).mono ?_;rintro en w5 ⟨rfl,hb5⟩;have HB5:=show Hid (Below w.heap.size w w5/\CLX F X w5 m)from⟨HB4.out.1.trans (hb5.mono HB4.out.1.size),HB4.out.2.1.below hb5⟩;clear hb5)
    | (go_at_call 99;refine(HB.out _ HB5.out.2).mono ?_;rintro en w6 ⟨rfl,rfl⟩)
    | (go_at_call 92;refine(HFu.out _ HB5.out.2).mono ?_;rintro en w6 ⟨rfl,q6,rfl⟩))
   go_ret;exact⟨rfl,below_drewN HB5.out.1 _⟩
  ·rw[decide_eq_false hf]at HFu
   go_wp2_with(first
    | (go_at_call 98;refine(HA.out _ HB4.out.2.1).mono ?_;rintro en w5 ⟨rfl,hb5⟩;have HB5:=show Hid (ItAt F X m w #[.bool false,.int .u8 (xo:Int),.string xk,.int .u16 (xq:Int),.int .i16 xv,.int .i32 xp,.int .i64 xl,.int .i16 xs] ib w5)from⟨HB4.out.1.trans (hb5.mono HB4.out.1.size),HB4.out.2.1.below hb5,(hb5.block ib (Qac HB4.out.2.2.1)).trans HB4.out.2.2.1,HB4.out.2.2.2⟩;clear hb5 HB4 k2)
    | (go_at_call 99;refine(HB.out _ HB5.out.2.1).mono ?_;rintro en w6 ⟨rfl,hw6⟩;obtain rfl:w5=w6:=hw6.symm)
    | (go_at_call 92;refine(HFu.out _ HB5.out.2.1).mono ?_;rintro en w6 ⟨rfl,q6,rfl⟩)
    | (go_at_call 97;refine(HT.out _ (HB5.out.2.1.drewN q6)).mono ?_;rintro en w7 ⟨rfl,hA7⟩))
   have HI7:=show Hid (w7.heap[ib]? =some (.cells #[.bool false,.int .u8 (xo:Int),.string xk,.int .u16 (xq:Int),.int .i16 xv,.int .i32 xp,.int .i64 xl,.int .i16 xs] 164 (0,0)))from hA7.heapOf (g:=ib) HB5.out.2.2.1 HB5.out.2.2.2
   obtain⟨X7,k1,k2,k3⟩:=hA7
   have hn7:¬X7 ib:=λhx=>by
    rcases k3 ib hx with h1 | h1
    ·exact HB5.out.2.2.2 h1
    ·have h2:=Qac HB5.out.2.2.1;have h3:(w5.drewN q6).heap.size=w5.heap.size:=rfl;omega
   have HL:=show Hid (FrmX X (w5.drewN q6) w7/\(∀g,X7 g->X g\/(w5.drewN q6).heap.size<=g)/\Below w.heap.size w (w5.drewN q6))from⟨k2,k3,below_drewN HB5.out.1 q6⟩
   have HK7:=show Hid (CLX F X7 w7.drew _)from k1.drew
   have hS0:w7.drew.heap[ib]? =some (.cells #[.bool false,.int .u8 (xo:Int),.string xk,.int .u16 (xq:Int),.int .i16 xv,.int .i32 xp,.int .i64 xl,.int .i16 xs] 164 (0,0)):=HI7.out;clear k1 k2 k3 HB5 HI7 HA HB HFu HT;refine wp_region_held_drew (S:=λw':World=>w'.heap[ib]? =some (.cells #[.bool false,.int .u8 (xo:Int),.string xk,.int .u16 (xq:Int),.int .i16 xv,.int .i32 xp,.int .i64 xl,.int .i16 xs] 164 (0,0))) krQ hS0 (λhH=>?_);generalize hw8:w7.drew=w8 at HK7 hS0 hH ⊢;refine tkQ 0 (.pointer (some ⟨F.sb,i*3,none⟩)) hH ?_;refine tkQ 1 (.pointer (some ⟨F.sb,i*3,none⟩)) hH ?_;refine tkQ 2 (.pointer (some ⟨F.sb,i*3+2,none⟩)) hH ?_;refine tkQ 3 (.pointer (some ⟨ib,1,none⟩)) hH ?_;refine tlQ 4 (.agg #[.int .u8 (xo:Int),.string xk,.int .u16 (xq:Int),.int .i16 xv]) rfl (by intro v hSw;have t0:v.cell? ⟨ib,1,none⟩=some (.int .u8 (xo:Int)):=Qaa hSw 1;have t1:v.cell? ⟨ib,2,none⟩=some (.string xk):=Qaa hSw 2;have t2:v.cell? ⟨ib,3,none⟩=some (.int .u16 (xq:Int)):=Qaa hSw 3;have t3:v.cell? ⟨ib,4,none⟩=some (.int .i16 xv):=Qaa hSw 4;clear hSw;go_simp) hH ?_;have hX7l:=HK7.out.lt;refine rdQ [5,9] ?_;refine AllReadyH.cons rfl (λK hK=>?_) (arQ λK hK=>?_)
   focus
    clear hH;go_simp
    go_wp2_with(go_at_call 88;refine(HKT.out _ _ HK7.out).mono ?_;rintro en w9 ⟨rfl,hA9⟩)
    have hS9:=hA9.heapOf hS0 hn7;refine hK.out _ _ hS9 (λhH=>?_);clear hK K;refine tkQ 6 (.tuple #[.agg #[.int .i32 (pt:Int),.int .i64 dl,.int .i16 ds],.bool true]) hH ?_;refine tkQ 7 (.agg #[.int .i32 (pt:Int),.int .i64 dl,.int .i16 ds]) hH ?_;refine tkQ 8 (.bool true) hH ?_;refine rdQ [9] ?_
    refine arQ λK hK=>?_
    clear hH;go_simp;have hnb:=heap_alloc_new w9 (.cells #[.int .i32 0,.int .i64 0,.int .i16 0] 157);have hba:=(Below.refl w9.heap.size w9).alloc (Nat.le_refl _) (.cells #[.int .i32 0,.int .i64 0,.int .i16 0] 157);have hSy:=(hba.block ib (Qac hS9)).trans hS9;obtain⟨X9,k1,k2,hX9⟩:=hA9;have k1l:=k1.lt;have k1b:=k1.below hba;have k2b:=k2.old hba;have k2s:=k2.size;have hne:¬ib=w9.heap.size:=Nat.ne_of_lt (Qac hS9);refine hK.out _ _ hSy (λhH=>?_);clear hK K k1 k2 hS9;generalize w9.alloc (.cells #[.int .i32 0,.int .i64 0,.int .i16 0] 157)=wa at hnb hSy hH k1b k2b ⊢;clear hba
    have HST:=show Hid _ from λ(v0 v1 v2:Value)=>chgStore hnb k1b (λhx=>Nat.lt_irrefl _ (k1l _ hx)) k2b k2s v0 v1 v2
    clear k1b k2b k2s k1l;generalize w9.heap.size=cb at hnb hne HST ⊢;refine rdQ [10] ?_
    refine arQ λK hK=>?_
    clear hH;have e0:wa.cell? ⟨cb,0,none⟩=some (.int .i32 0):=Qaa hnb 0;have e1:wa.cell? ⟨cb,1,none⟩=some (.int .i64 0):=Qaa hnb 1;have e2:wa.cell? ⟨cb,2,none⟩=some (.int .i16 0):=Qaa hnb 2;have z0:wa.frozen? ⟨cb,0,none⟩=false:=Qab hnb 0;have z1:wa.frozen? ⟨cb,1,none⟩=false:=Qab hnb 1;have z2:wa.frozen? ⟨cb,2,none⟩=false:=Qab hnb 2;go_simp;have hst:=HST.out (.int .i32 (pt:Int)) (.int .i64 dl) (.int .i16 ds);have hSb:=((((FrmX.refl (λx=>x=cb) wa).set (g:=cb) (λ_=>rfl) 0 (.int .i32 (pt:Int))).set (g:=cb) (λ_=>rfl) 1 (.int .i64 dl)).set (g:=cb) (λ_=>rfl) 2 (.int .i16 ds)).block hSy hne;generalize(((wa.setCell ⟨cb,0,none⟩ (.int .i32 (pt:Int))).setCell ⟨cb,1,none⟩ (.int .i64 dl)).setCell ⟨cb,2,none⟩ (.int .i16 ds))=wb at hst hSb ⊢;refine hK.out _ _ hSb (λhH=>?_);clear hK K e0 e1 e2 z0 z1 z2 hnb HST hSy hSb
    have HQ:=show Hid (TkAt F X7 w8 _ #[.int .i32 (pt:Int),.int .i64 dl,.int .i16 ds] cb wb)from⟨X9,hst.2.1,hst.2.2,hX9,hst.1⟩
    clear hst hX9;clear wa w9 hne
   rotate_left
   focus
    clear hH;go_simp;have hnb:=heap_alloc_new w8 (.cells #[.int .i32 0,.int .i64 0,.int .i16 0] 157);have hba:=(Below.refl w8.heap.size w8).alloc (Nat.le_refl _) (.cells #[.int .i32 0,.int .i64 0,.int .i16 0] 157);have hSy:=(hba.block ib (Qac hS0)).trans hS0;have hne:¬ib=w8.heap.size:=Nat.ne_of_lt (Qac hS0)
    have hnx:¬X7 w8.heap.size:=λhx=>Nat.lt_irrefl _ (hX7l _ hx)
    have hsz:w8.heap.size<(w8.alloc (.cells #[.int .i32 0,.int .i64 0,.int .i16 0] 157)).heap.size:=Qac hnb;refine hK.out _ _ hSy (λhH=>?_);clear hK K
    have HK8:=show Hid _ from And.intro (HK7.out.below hba) (FrmX.of_below (X:=X7) hba)
    generalize w8.alloc (.cells #[.int .i32 0,.int .i64 0,.int .i16 0] 157)=wa at hnb hSy hH HK8 hsz ⊢;clear hba;refine rdQ [5] ?_
    refine arQ λK hK=>?_
    clear hH;go_simp
    go_wp2_with(go_at_call 88;refine(HKT.out _ _ HK8.out.1).mono ?_;rintro en w9 ⟨rfl,hA9⟩)
    have hS9:=hA9.heapOf hSy hn7;have hnb9:=hA9.heapOf hnb hnx;refine hK.out _ _ hS9 (λhH=>?_);clear hK K;refine tkQ 6 (.tuple #[.agg #[.int .i32 (pt:Int),.int .i64 dl,.int .i16 ds],.bool true]) hH ?_;refine tkQ 7 (.agg #[.int .i32 (pt:Int),.int .i64 dl,.int .i16 ds]) hH ?_;refine tkQ 8 (.bool true) hH ?_;obtain⟨X9,k1,k2,hX90⟩:=hA9;have k2b:=HK8.out.2.trans k2 (λ_ _ h=>h)
    have hn9:¬X9 w8.heap.size:=λhx=>by
     rcases hX90 _ hx with h1 | h1
     ·exact hnx h1
     ·omega
    have hX9:∀g,X9 g->X7 g\/w8.heap.size<=g:=λg hg=>(hX90 g hg).imp id (λh=>by omega)
    clear hnb hSy hS0 HK8 hX90 k2;have hnb:=hnb9;have hSy:=hS9;clear hnb9 hS9
    have HST:=show Hid _ from λ(v0 v1 v2:Value)=>chgStore hnb k1 hn9 k2b (Nat.le_refl _) v0 v1 v2
    clear k1 k2b hn9 hsz hnx;clear wa;generalize hcb:w8.heap.size=cb at hnb hne HST ⊢;refine rdQ [10] ?_
    refine arQ λK hK=>?_
    clear hH;have e0:w9.cell? ⟨cb,0,none⟩=some (.int .i32 0):=Qaa hnb 0;have e1:w9.cell? ⟨cb,1,none⟩=some (.int .i64 0):=Qaa hnb 1;have e2:w9.cell? ⟨cb,2,none⟩=some (.int .i16 0):=Qaa hnb 2;have z0:w9.frozen? ⟨cb,0,none⟩=false:=Qab hnb 0;have z1:w9.frozen? ⟨cb,1,none⟩=false:=Qab hnb 1;have z2:w9.frozen? ⟨cb,2,none⟩=false:=Qab hnb 2;go_simp;have hst:=HST.out (.int .i32 (pt:Int)) (.int .i64 dl) (.int .i16 ds);have hSb:=((((FrmX.refl (λx=>x=cb) w9).set (g:=cb) (λ_=>rfl) 0 (.int .i32 (pt:Int))).set (g:=cb) (λ_=>rfl) 1 (.int .i64 dl)).set (g:=cb) (λ_=>rfl) 2 (.int .i16 ds)).block hSy hne;generalize(((w9.setCell ⟨cb,0,none⟩ (.int .i32 (pt:Int))).setCell ⟨cb,1,none⟩ (.int .i64 dl)).setCell ⟨cb,2,none⟩ (.int .i16 ds))=wb at hst hSb ⊢;refine hK.out _ _ hSb (λhH=>?_);clear hK K e0 e1 e2 z0 z1 z2 hnb HST hSy hSb
    have HQ:=show Hid (TkAt F X7 w8 _ #[.int .i32 (pt:Int),.int .i64 dl,.int .i16 ds] cb wb)from⟨X9,hst.2.1,hst.2.2,hX9,hst.1⟩
    clear hst hX9;clear hcb w9 hne
   all_goals
    refine tkQ 11 (.bool true) hH ?_;refine wpAnyH_done krQ ?_ _;clear hH;obtain⟨X9,k1,k2,k3,h2⟩:=HQ.out;have hl:(m.ap kd i).length<=1000:=omQ
    have HS:=show Hid _ from λ(_:Unit)=>aSend k1 kd i hkW hi (chI pt dl ds) hl
    unfold itV itCells1 chI ev0 at HS;simp only at HS
    have HM:=show Hid (FrmX X7 w8 wb/\(∀g,X9 g->X7 g\/w8.heap.size<=g))from⟨k2,k3⟩
    have f0:wb.cell? ⟨cb,0,none⟩=some (.int .i32 (pt:Int)):=Qaa h2 0;have f1:wb.cell? ⟨cb,1,none⟩=some (.int .i64 dl):=Qaa h2 1;have f2:wb.cell? ⟨cb,2,none⟩=some (.int .i16 ds):=Qaa h2 2;clear k1 k2 k3 h2 HKT HK7 HQ
    go_wp2_with(go_at_call 93;refine(HS.out ()).mono ?_;rintro en wc ⟨rfl,hAc⟩)
    go_ret;subst hw8;exact⟨rfl,Aft.from (Aft.then HL.out.1.drew HL.out.2.1 (Aft.then HM.out.1 HM.out.2 hAc)) HL.out.2.2⟩
end
end
section
open Go.RowKit
section
variable {F:Fx} {X:Nat->Prop} {w:World} {m:CM}
theorem gTaken(h:CLX F X w m)(k:Nat)(hk:k<m.W)(hl:(m.tb k).length<=1000):Calls Tryz.prog 109 #[.pointer (some ⟨F.ab,k*2+1,none⟩)] w λen w'=>∃a2 c2,en=.returned (.agg #[.slice a2 (takenX (m.tb k)).length c2])/\w'.ownsRow w.heap.size 175 5 (.slice a2 (takenX (m.tb k)).length c2) (takenX (m.tb k)).length (gCells (takenX (m.tb k)))/\CLX F X w' {m with tb:=updF m.tb k ((m.tb k).map calmX)}/\FrmX X w w':=by
 obtain⟨cs,a,cp,hG,hU⟩:=h.atabSame k hk
 exact(QkI F.ab (k*2+1) _ cs a cp (m.tb k) w hl hG).mono λen w' ⟨a2,c2,h1,h2,h3⟩=>⟨a2,c2,h1,h2,(hU w' _ h3).1,(hU w' _ h3).2⟩
theorem gAdd(h:CLX F X w m)(k:Nat)(hk:k<m.W)(p:Nat)(dl ds:Int)(hl:(m.tb k).length<=1000)(hd:-1<=dl/\dl<=1)(hb:∀r∈m.tb k,-100000<=r.v.live/\r.v.live<=100000):Calls Tryz.prog 89 #[.pointer (some ⟨F.ab,k*2+1,none⟩),.agg #[.int .i32 (p:Int),.int .i64 dl,.int .i16 ds]] w λen w'=>en=.returned (.tuple #[])/\Aft F X w {m with tb:=updF m.tb k (addX p dl ds (m.tb k))} w':=by
 obtain⟨cs,a,cp,hG,hU⟩:=h.atab k hk
 exact(QiQ 0 F.ab (k*2+1) _ cs a cp (m.tb k) p dl ds w (Nat.zero_le _) hl hG hd hb).mono λen w' ⟨h1,a',c',h2⟩=>⟨h1,hU w' a' c' _ h2⟩
theorem vLay(h:CLX F X w m)(hl:m.view.length+m.ready.length<=1000):Calls Tryz.prog 105 #[.pointer (some ⟨F.jb,9,none⟩),.pointer (some ⟨F.jb,7,none⟩)] w λen w'=>en=.returned (.tuple #[])/\Aft F X w {m with view:=layX m.ready m.view} w':=by
 obtain⟨cs,a,cp,a2,c2,hG,hB,hU⟩:=h.viewReady
 exact(QiU F.jb 9 _ cs a cp m.view F.jb 7 a2 c2 m.ready w hl hG hB).mono λen w' ⟨h1,a',c',h2⟩=>⟨h1,hU w' a' c' _ h2⟩
theorem CLX.resetCk(h:CLX F X w m):Aft F X w {m with state:=0,off:=0,laid:=0,ready:=[]} ((((w.setCell ⟨F.jb,4,none⟩ (.int .i64 0)).setCell ⟨F.jb,5,none⟩ (.int .i64 0)).setCell ⟨F.jb,6,none⟩ (.int .i64 0)).setCell ⟨F.jb,7,none⟩ (.slice none 0 0)):=by
 obtain⟨X1,a1,a2,a3⟩:=h.setJob 4 (.int .i64 0) m.sent 0 m.off m.laid m.last m.offset (by decide) (λ_ _ _ _ _=>rfl);obtain⟨X2,b1,b2,b3⟩:=a1.setJob 5 (.int .i64 0) m.sent 0 0 m.laid m.last m.offset (by decide) (λ_ _ _ _ _=>rfl);obtain⟨X3,c1,c2,c3⟩:=b1.setJob 6 (.int .i64 0) m.sent 0 0 0 m.last m.offset (by decide) (λ_ _ _ _ _=>rfl);obtain⟨cs,a,cp,hG,hU⟩:=c1.ready
 exact Aft.then a2 a3 (Aft.then b2 b3 (Aft.then c2 c3 (hU _ none 0 [] (Upd.nil hG))))
theorem ccommit(h:CLX F X w m)(hl:m.view.length+m.ready.length<=1000):Calls Tryz.prog 81 #[.pointer (some ⟨F.jb,0,none⟩)] w λen w'=>en=.returned (.tuple #[])/\Aft F X w {m with view:=layX m.ready m.view,offset:=m.off,state:=0,off:=0,laid:=0,ready:=[]} w':=by
 have HL:=show Hid _ from λ(_:Unit)=>vLay h.drew hl
 have hsz:w.drew.heap.size=w.heap.size:=rfl;clear h hl;go_enter Tryz.func81,Tryz.ntmps81;go_wp2;refine wp_region_held_drew (S:=λ_:World=>True) krQ trivial (λhH=>?_);refine tkQ 0 (.pointer (some ⟨F.jb,0,none⟩)) hH ?_;refine tkQ 1 (.pointer (some ⟨F.jb,0,none⟩)) hH ?_;refine tkQ 2 (.pointer (some ⟨F.jb,9,none⟩)) hH ?_;refine tkQ 3 (.pointer (some ⟨F.jb,0,none⟩)) hH ?_;refine tkQ 4 (.pointer (some ⟨F.jb,0,none⟩)) hH ?_;refine tkQ 5 (.pointer (some ⟨F.jb,4,none⟩)) hH ?_;refine tkQ 6 (.pointer (some ⟨F.jb,7,none⟩)) hH ?_;refine rdQ [7] ?_
 refine arQ λK hK=>?_
 clear hH;go_simp
 go_wp2_with(go_at_call 105;refine(HL.out ()).mono ?_;rintro en w2 ⟨rfl,hA⟩)
 refine hK.out _ _ trivial (λhH=>?_);clear hK K hH HL;refine wpAnyH_done krQ ?_ _;obtain⟨X2,k1,k2,k3⟩:=hA;obtain⟨v3,v4,v5,_,_,_,_,c4,c5,c6,c7,_,_,c10,_⟩:=k1.jobCells;simp only at c4 c5 c6 c10;have z4:=k1.jobFrozen 4 (by decide);have z5:=k1.jobFrozen 5 (by decide);have z6:=k1.jobFrozen 6 (by decide);have z7:=k1.jobFrozen 7 (by decide);have z10:=k1.jobFrozen 10 (by decide)
 have HE:=show Hid (Aft F X w.drew _ _)from Aft.then k2 k3 ((k1.setJob 10 (.int .i64 (m.off:Int)) m.sent m.state m.off m.laid m.last m.off (by decide) (λ_ _ _ _ _=>rfl)).next λX' hX'=>hX'.resetCk)
 clear k1 k2 k3 hsz;go_wp2
 go_end0
 exact⟨rfl,Aft.from HE.out (Below.refl _ _).drew⟩
theorem Qhd(h:CLX F X w m)(hw:workN m=0):Calls Tryz.prog 75 #[.pointer (some ⟨F.jb,0,none⟩)] w λen w'=>en=.returned (.int .i64 8)/\Below w.heap.size w w':=by
 have HW:=show Hid _ from λ(_:Unit)=>cwork h
 rw[hw]at HW;clear h;go_enter Tryz.func75,Tryz.ntmps75
 go_wp2_with(go_at_call 101;refine(HW.out ()).mono ?_;rintro en w2 ⟨rfl,hb⟩)
 go_ret;exact⟨rfl,hb⟩
theorem QeX(h:CLX F X w m)(hw:workN m=1)(hs:m.state≠3):Calls Tryz.prog 75 #[.pointer (some ⟨F.jb,0,none⟩)] w λen w'=>en=.returned (.int .i64 0)/\Aft F X w {m with state:=3} w':=by
 have HW:=show Hid _ from λ(_:Unit)=>cwork h
 rw[hw]at HW
 have HX:=show Hid (CLX F X w m)from h
 have e:((m.state:Int)==3)=false:=by rw[beq_eq_false_iff_ne];omega
 clear h;go_enter Tryz.func75,Tryz.ntmps75
 go_wp2_with(go_at_call 101;refine(HW.out ()).mono ?_;rintro en w2 ⟨rfl,hb⟩;have k1:=HX.out.below hb;obtain⟨c4,_⟩:=k1.ckCells;have z4:=k1.jobFrozen 4 (by decide);have HE:=show Hid (Aft F X w2 _ _)from k1.setJob 4 (.int .i64 3) m.sent 3 m.off m.laid m.last m.offset (by decide) (λ_ _ _ _ _=>rfl);clear k1)
 go_ret;exact⟨rfl,Aft.from HE.out hb⟩
theorem QfJ(h:CLX F X w m)(hw:workN m=1)(hs:m.state=3)(hl:m.view.length+m.ready.length<=1000):Calls Tryz.prog 75 #[.pointer (some ⟨F.jb,0,none⟩)] w λen w'=>en=.returned (.int .i64 0)/\Aft F X w {m with view:=layX m.ready m.view,offset:=m.off,state:=0,off:=0,laid:=0,ready:=[]} w':=by
 have HW:=show Hid _ from λ(_:Unit)=>cwork h
 rw[hw]at HW
 have HX:=show Hid (CLX F X w m)from h
 have HC:=show Hid _ from λ(w':World) (h':CLX F X w' m)=>ccommit h' hl
 clear h;go_enter Tryz.func75,Tryz.ntmps75
 go_wp2_with(first
  | (go_at_call 101;refine(HW.out ()).mono ?_;rintro en w2 ⟨rfl,hb⟩;have k1:=show Hid (CLX F X w2 m)from HX.out.below hb;obtain⟨c4,_⟩:=k1.out.ckCells;rw[hs]at c4)
  | (go_at_call 81;refine(HC.out _ k1.out).mono ?_;rintro en w3 ⟨rfl,hA⟩))
 go_ret;exact⟨rfl,Aft.from hA hb⟩
end
end
section
open Go.RowKit
def clrTo(st:Nat->Nat->Bool)(k n:Nat):Nat->Nat->Bool:=λy z=>if y=k/\z<n then false else st y z
theorem Qfo(st:Nat->Nat->Bool)(k:Nat):clrTo st k 0=st:=by funext y z;unfold clrTo;rw[if_neg omQ]
theorem Qfp(st:Nat->Nat->Bool)(k n:Nat):updF2 (clrTo st k n) k n false=clrTo st k (n+1):=by
 funext y z
 unfold updF2 clrTo
 by_cases e:y=k/\z=n
 ·rw[if_pos e,if_pos omQ]
 ·rw[if_neg e]
  by_cases c:y=k/\z<n
  ·rw[if_pos c,if_pos omQ]
  ·rw[if_neg c,if_neg omQ]
section
variable {F:Fx} {X:Nat->Prop} {w:World} {m:CM}
theorem Ql9(h:CLX F X w m)(k:Nat)(hk:k<m.W)(q0:Nat)(hq0:q0<m.W)(hs:m.st k q0=false):Calls Tryz.prog 100 #[.pointer (some ⟨F.jb,0,none⟩),.pointer (some ⟨F.ab,k*2,none⟩)] w λen w'=>en=.returned (.tuple #[])/\w'=w:=by
 have HX:=show Hid (CLX F X w m)from h
 have hw4:m.W<=4:=h.w4.2;have a0:=(h.adderCells k hk).1;clear h;go_enter Tryz.func100,Tryz.ntmps100;go_wp2
 go_loopw [4] (λv wr=>∃j:Nat,j<=q0/\v=.int .i64 (j:Int)/\wr=w) (λv _=>m.W-(intOf v).toNat)
 case atStart=>exact⟨0,Nat.zero_le _,rfl,rfl⟩
 case round=>
  obtain⟨j,hj,rfl,hwr⟩:=hrel;obtain rfl:w=wr:=hwr.symm;have hjW:j<m.W:=omQ;obtain⟨_,i1,_⟩:=HX.out.inletCells k j hk hjW;have hji:(j:Int)<(m.W:Int):=omQ;have hj0:(0:Int)<=(j:Int):=omQ
  cases hst:m.st k j with
  | false=>
   rw[hst]at i1;go_wp2
   (try simp only[Exit.inBlock,Exit.then])
   refine bodyPost_ret (results_none rfl _ _ _) rfl ?_
   exact⟨rfl,by first | trivial | rfl⟩
  | true=>
   rw[hst]at i1
   have hne:j≠q0:=λe=>by rw[e,hs]at hst;cases hst
   go_wp2
   go_roundw
   case rel=>exact⟨j+1,by omega,by go_num,by first | trivial | rfl⟩
   case measure=>simp[intOf];omega
theorem rLay{m2:CM}{wr w2 w3:World}{a2:Option Addr}{c2:Nat}{over:List GX}(k2:CLX F X w2 m2)(hX:∀g,X g->g<wr.heap.size)(hs:wr.heap.size<=w2.heap.size)(ho:w2.ownsRow wr.heap.size 175 5 (.slice a2 over.length c2) over.length (gCells over))(hnb:w3.heap[w2.heap.size]? =some (.cells #[.slice none 0 0] 57 (0,0)))(hba:Below w2.heap.size w2 w3)(hl:m2.ready.length+over.length<=1000):
  ((_:Unit)->Calls Tryz.prog 105 #[.pointer (some ⟨F.jb,7,none⟩),.pointer (some ⟨w2.heap.size,0,none⟩)] (w3.setCell ⟨w2.heap.size,0,none⟩ (.slice a2 over.length c2)) λen w'=>en=.returned (.tuple #[])/\Aft F X (w3.setCell ⟨w2.heap.size,0,none⟩ (.slice a2 over.length c2)) {m2 with ready:=layX over m2.ready} w')/\FrmX X w2 (w3.setCell ⟨w2.heap.size,0,none⟩ (.slice a2 over.length c2)):=by
 have hn:¬X w2.heap.size:=λhx=>by have:=hX _ hx;omega
 have hb4:(w3.setCell ⟨w2.heap.size,0,none⟩ (.slice a2 over.length c2)).heap[w2.heap.size]? =some (.cells #[.slice a2 over.length c2] 57 (0,0)):=(Qag (j:=0) hnb _).trans rfl;have hk4:=(k2.below hba).setOther hn 0 (.slice a2 over.length c2);have ho4:=Qa3 (QaV (Qao ho hba) (Qak w3 w2.heap.size 0 (.slice a2 over.length c2)) (λg hg e=>by simp only[Option.some.injEq]at e;have:=(Qah ho g hg).2;omega)) (Nat.zero_le _);obtain⟨cs,a,cp,hG,hB,hU⟩:=hk4.readyNew hb4 ho4 hn (λg hg hx=>by have h1:=hX g hx;have h2:=(Qah ho g hg).1;omega);exact⟨λ_=>(QiU F.jb 7 _ cs a cp m2.ready w2.heap.size 0 a2 c2 over _ hl hG hB).mono λen w' ⟨h1,a',c',h2⟩=>⟨h1,hU w' a' c' _ h2⟩,(FrmX.of_below hba).set (λh=>absurd h (Nat.lt_irrefl _)) 0 _⟩
theorem Qma(h:CLX F X w m)(k:Nat)(hk:k<m.W)(hs:∀q,q<m.W->m.st k q=true)(hl:(m.tb k).length+m.ready.length<=1000)(hla:m.laid<=1000):Calls Tryz.prog 100 #[.pointer (some ⟨F.jb,0,none⟩),.pointer (some ⟨F.ab,k*2,none⟩)] w λen w'=>en=.returned (.tuple #[])/\Aft F X w {m with st:=clrTo m.st k m.W,tb:=updF m.tb k ((m.tb k).map calmX),ready:=layX (takenX (m.tb k)) m.ready,laid:=m.laid+1} w':=by
 have HX:=show Hid (CLX F X w m)from h
 have hw4:m.W<=4:=h.w4.2;have htl:=Qeb (m.tb k)
 have HZ:=show Hid (Aft F X w {m with st:=clrTo m.st k 0} w)from by rw[Qfo];exact h.aft
 clear h;go_enter Tryz.func100,Tryz.ntmps100;go_wp2
 go_loopw [4] (λv wr=>∃j:Nat,j<=m.W/\v=.int .i64 (j:Int)/\wr=w) (λv _=>m.W-(intOf v).toNat)
 case atStart=>exact⟨0,Nat.zero_le _,rfl,rfl⟩
 case round=>
  obtain⟨j,hj,rfl,hwr⟩:=hrel;obtain rfl:w=wr:=hwr.symm;have a0:=(HX.out.adderCells k hk).1
  by_cases hjW:j<m.W
  ·obtain⟨_,i1,_⟩:=HX.out.inletCells k j hk hjW;rw[hs j hjW]at i1;have hji:(j:Int)<(m.W:Int):=omQ;have hj0:(0:Int)<=(j:Int):=omQ;go_wp2
   go_roundw
   case rel=>exact⟨j+1,by omega,by go_num,by first | trivial | rfl⟩
   case measure=>simp[intOf];omega
  ·have hji:¬(j:Int)<(m.W:Int):=omQ;clear hj hjW;go_wp2;clear a0
   go_loopw [5] (λv wr=>∃j:Nat,j<=m.W/\v=.int .i64 (j:Int)/\Aft F X w {m with st:=clrTo m.st k j} wr) (λv _=>m.W-(intOf v).toNat)
   case atStart=>exact⟨0,Nat.zero_le _,rfl,HZ.out⟩
   case round=>
    obtain⟨j,hj,rfl,hA⟩:=hrel;obtain⟨X1,k1,k2,k3⟩:=hA
    have HK:=show Hid (FrmX X w wr/\∀g,X1 g->X g\/w.heap.size<=g)from⟨k2,k3⟩
    have a0:=(k1.adderCells k hk).1;clear k2 k3 hji HZ
    by_cases hjW:j<m.W
    ·obtain⟨_,i1,z1⟩:=k1.inletCells k j hk hjW;have hst:=k1.setStop k j hk hjW false;simp only[Qfp]at hst
     have HS:=show Hid _ from Aft.then HK.out.1 HK.out.2 hst
     have hji:(j:Int)<(m.W:Int):=omQ;have hj0:(0:Int)<=(j:Int):=omQ;clear hst k1 HK;simp only at i1 a0;go_wp2
     go_roundw
     case rel=>exact⟨j+1,by omega,by go_num,HS.out⟩
     case measure=>simp[intOf];omega
    ·have hjj:j=m.W:=omQ;subst hjj;have hji:¬(m.W:Int)<(m.W:Int):=omQ
     have HT:=show Hid _ from λ(_:Unit)=>gTaken k1 k hk (by simp only;omega)
     have hX1:=k1.lt;have hs1:=HK.out.1.size;clear k1 hj hjW;simp only at a0 HT
     go_wp2_with(first
      | (go_at_call 109;refine(HT.out ()).mono ?_;rintro en w2 ⟨a2,c2,rfl,ho2,k2,kf2⟩;have hnb:=heap_alloc_new w2 (.cells #[.slice none 0 0] 57);have hba:=(Below.refl w2.heap.size w2).alloc (Nat.le_refl _) (.cells #[.slice none 0 0] 57);obtain⟨w3,hw3⟩:∃w3,w2.alloc (.cells #[.slice none 0 0] 57)=w3:=⟨_,rfl⟩;rw[hw3]at hnb hba;have e0:w3.cell? ⟨w2.heap.size,0,none⟩=some (.slice none 0 0):=Qaa hnb 0;have z0:w3.frozen? ⟨w2.heap.size,0,none⟩=false:=Qab hnb 0;have HL:=show Hid _ from rLay k2 hX1 kf2.size ho2 hnb hba (by simp only;omega);clear hnb hba)
      | (go_at_call 105;refine(HL.out.1 ()).mono ?_;rintro en w5 ⟨rfl,hA5⟩;have HA5:=show Hid _ from Aft.then (kf2.trans HL.out.2 (λ_ _ h=>h)) (λg hg=>Or.inl hg) hA5;obtain⟨X5,k5,k5f,k5x⟩:=HA5.out;obtain⟨_,_,c6⟩:=k5.ckCells;have z6:=k5.jobFrozen 6 (by decide);simp only at c6;have HE:=show Hid _ from Aft.then HK.out.1 HK.out.2 (Aft.then k5f k5x (k5.setJob 6 (.int .i64 ((m.laid:Int)+1)) m.sent m.state m.off (m.laid+1) m.last m.offset (by decide) (λ_ _ _ _ _=>rfl)));clear k5 k5f k5x))
     go_end0
     exact⟨rfl,HE.out⟩
end
end
end Go.Proofs.YthccpacmklhejabGreatDoor
