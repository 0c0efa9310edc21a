import Derived.Test.YthccpacmklhejabGreatDoorTk
import Derived.Test.YthccpacmklhejabGreatDoorK22
import Derived.Test.YthccpacmklhejabGreatDoorK18
import Derived.Test.YthccpacmklhejabGreatDoorK14
set_option maxHeartbeats 2000000
set_option maxRecDepth 100000
namespace Go.Proofs.YthccpacmklhejabGreatDoor
section
open Go.RowKit
theorem kTake2(m:CM)(i:Nat)(hi:i<m.W)(e:Ev)(es:List Ev)(hk:m.sk i=entsOf es)(hl:es.length<=900)(hv:validB e.key=true):∃(pp:Nat) (dd ss:Int),((knOf e.key es).counts e=true->pp=(grp e.key).1/\dd=dLive es e/\ss=dSum es e)/\∀(F:Fx) (X:Nat->Prop) (w:World),CLX F X w m->Calls Tryz.prog 88 #[.pointer (some ⟨F.sb,i*3+2,none⟩),e.value] w λen w'=>en=.returned (.tuple #[.agg #[.int .i32 (pp:Int),.int .i64 dd,.int .i16 ss],.bool ((knOf e.key es).counts e)])/\Aft F X w {m with sk:=updF m.sk i (entsOf (es++[e]))} w':=by
 cases hc:(knOf e.key es).counts e with
 | false=>
  refine⟨0,0,0,(λh=>by cases h),λF X w h=>?_⟩;have:=kTake h i hi e es hk hl hv;rw[hc]at this
  exact this
 | true=>
  refine⟨(grp e.key).1,dLive es e,dSum es e,λ_=>⟨rfl,rfl,rfl⟩,λF X w h=>?_⟩;have:=kTake h i hi e es hk hl hv;rw[hc]at this;exact this
def TkAt2(F:Fx)(X7:Nat->Prop)(w8:World)(m9:CM)(cs:Array Value)(cb:Nat)(wb:World):Prop:=
 ∃X9,CLX F X9 wb m9/\FrmX X7 w8 wb/\(∀g,X9 g->X7 g\/w8.heap.size<=g)/\wb.heap[cb]? =some (.cells cs 157 (0,0))/\¬X9 cb
section
variable {F:Fx} {X:Nat->Prop} {w:World} {m:CM}
theorem ccount(h:CLX F X w m)(e:Ev)(es:List Ev)(hk:m.sk (hashS e.key % m.W)=entsOf es)(hle:es.length<=900)(hv:validB e.key=true)(hk0:0<e.key.size)(hk1:e.key.size<=1000)
  (hl:(knOf e.key es).counts e=true->(m.tb ((grp e.key).1 % m.W)).length<=1000/\(-1<=dLive es e/\dLive es e<=1)/\∀r∈m.tb ((grp e.key).1 % m.W),-100000<=r.v.live/\r.v.live<=100000):
  Calls Tryz.prog 108 #[.pointer (some ⟨F.jb,0,none⟩),e.value] w λen w'=>en=.returned (.tuple #[])/\Aft F X w {m with sk:=updF m.sk (hashS e.key % m.W) (entsOf (es++[e])),tb:=if(knOf e.key es).counts e then updF m.tb ((grp e.key).1 % m.W) (addX (grp e.key).1 (dLive es e) (dSum es e) (m.tb ((grp e.key).1 % m.W)))else m.tb} w':=by
 have hw:=h.w4;have hiW:hashS e.key % m.W<m.W:=Nat.mod_lt _ omQ;have hkW:(grp e.key).1 % m.W<m.W:=Nat.mod_lt _ omQ;obtain⟨pp,dd,ss,hpp,HKT0⟩:=kTake2 m _ hiW e es hk hle hv;have HKT:=hdQ HKT0;clear HKT0 hk
 have HA:=show Hid _ from λ(X':Nat->Prop) (w':World) (m':CM) (hm':m'.W=m.W) (h':CLX F X' w' m')=>cadderOf h' e.key hk0 hk1 hv
 have HX:=show Hid (CLX F X w m)from h
 have HSo:=show Hid _ from λ(w':World) (h':CLX F X w' m)=>csorterOf h' e.key hk1
 have HG:=show Hid (∀(hc:(knOf e.key es).counts e=true) (X':Nat->Prop) (w':World),CLX F X' w' {m with sk:=updF m.sk (hashS e.key % m.W) (entsOf (es++[e]))}->Calls Tryz.prog 89 #[.pointer (some ⟨F.ab,((grp e.key).1 % m.W)*2+1,none⟩),.agg #[.int .i32 (pp:Int),.int .i64 dd,.int .i16 ss]] w' λen w''=>en=.returned (.tuple #[])/\Aft F X' w' {m with sk:=updF m.sk (hashS e.key % m.W) (entsOf (es++[e])),tb:=updF m.tb ((grp e.key).1 % m.W) (addX (grp e.key).1 (dLive es e) (dSum es e) (m.tb ((grp e.key).1 % m.W)))} w'')from λhc X' w' h'=>by
  obtain⟨e1,e2,e3⟩:=hpp hc;obtain⟨l1,l2,l3⟩:=hl hc;rw[e1,e2,e3];exact gAdd h' _ hkW (grp e.key).1 (dLive es e) (dSum es e) l1 l2 l3
 have HA2:=show Hid (∀(X':Nat->Prop) (w':World),CLX F X' w' {m with sk:=updF m.sk (hashS e.key % m.W) (entsOf (es++[e]))}->Calls Tryz.prog 98 #[.pointer (some ⟨F.jb,0,none⟩),.string e.key] w' λen w''=>en=.returned (.int .i64 (((grp e.key).1 % m.W:Nat):Int))/\Below w'.heap.size w' w'')from λX' w' h'=>cadderOf h' e.key hk0 hk1 hv
 clear hpp hl HA hk0 hk1 hv hle;obtain⟨xo,xk,xq,xv⟩:=e;simp only at hiW hkW HKT HSo HG HA2 ⊢;generalize hashS xk % m.W=i at hiW HKT HSo HG HA2 ⊢;generalize(grp xk).1 % m.W=kd at hkW HG HA2 ⊢;generalize entsOf (es++[⟨xo,xk,xq,xv⟩])=en2 at HKT HG HA2 ⊢;generalize(knOf xk es).counts ⟨xo,xk,xq,xv⟩=ct at HKT HG ⊢;generalize addX (grp xk).1 (dLive es ⟨xo,xk,xq,xv⟩) (dSum es ⟨xo,xk,xq,xv⟩) (m.tb kd)=tk at HG ⊢;unfold Ev.value at HKT ⊢;simp only at HKT ⊢;have hi1:(i:Int)<(m.W:Int):=omQ;have hi0:(0:Int)<=(i:Int):=omQ;have hkd1:(kd:Int)<(m.W:Int):=omQ;have hkd0:(0:Int)<=(kd:Int):=omQ;have hnb0:=heap_alloc_new w (.cells #[.int .u8 (xo:Int),.string xk,.int .u16 (xq:Int),.int .i16 xv] 40);have hba0:=(Below.refl w.heap.size w).alloc (Nat.le_refl _) (.cells #[.int .u8 (xo:Int),.string xk,.int .u16 (xq:Int),.int .i16 xv] 40)
 have HX1:=show Hid (CLX F X (w.alloc (.cells #[.int .u8 (xo:Int),.string xk,.int .u16 (xq:Int),.int .i16 xv] 40)) m/\Below w.heap.size w (w.alloc (.cells #[.int .u8 (xo:Int),.string xk,.int .u16 (xq:Int),.int .i16 xv] 40))/\¬X w.heap.size)from⟨h.below hba0,hba0,λhx=>Nat.lt_irrefl _ (h.lt _ hx)⟩
 clear h hba0 HX;go_enter Tryz.func108,Tryz.ntmps108
 obtain⟨w1,hw1⟩:∃w1,w.alloc (.cells #[.int .u8 (xo:Int),.string xk,.int .u16 (xq:Int),.int .i16 xv] 40)=w1:=⟨_,rfl⟩
 rw[hw1]at hnb0 HX1;have k1:w1.cell? ⟨w.heap.size,1,none⟩=some (.string xk):=Qaa hnb0 1
 go_wp2_with(go_at_call 91;refine(HSo.out _ HX1.out.1).mono ?_;rintro en w2 ⟨rfl,q,rfl⟩)
 have hS0:(w1.drewN q).drew.cell? ⟨F.jb,2,none⟩=some (.slice (some ⟨F.sb,0,none⟩) m.W F.cS)/\(w1.drewN q).drew.heap[w.heap.size]? =some (.cells #[.int .u8 (xo:Int),.string xk,.int .u16 (xq:Int),.int .i16 xv] 40 (0,0)):=⟨HX1.out.1.sorterSlice,hnb0⟩
 have HX8:=show Hid (CLX F X (w1.drewN q).drew m/\Below w.heap.size w (w1.drewN q).drew/\¬X w.heap.size)from⟨(HX1.out.1.drewN q).drew,(below_drewN HX1.out.2.1 q).drew,HX1.out.2.2⟩
 refine wp_region_held_drew (S:=λw':World=>w'.cell? ⟨F.jb,2,none⟩=some (.slice (some ⟨F.sb,0,none⟩) m.W F.cS)/\w'.heap[w.heap.size]? =some (.cells #[.int .u8 (xo:Int),.string xk,.int .u16 (xq:Int),.int .i16 xv] 40 (0,0))) krQ hS0 (λhH=>?_);clear k1 hnb0 hw1;generalize(w1.drewN q).drew=w8 at HX8 hS0 hH ⊢;clear HX1 w1;generalize hebd:w.heap.size=eb at HX8 hS0 hH ⊢;refine tkQ 0 (.pointer (some ⟨F.jb,0,none⟩)) hH ?_;refine tkQ 1 (.pointer (some ⟨F.jb,0,none⟩)) hH ?_;refine tkQ 2 (.pointer (some ⟨F.jb,2,none⟩)) hH ?_;refine tlQ 3 (.slice (some ⟨F.sb,0,none⟩) m.W F.cS) rfl (by intro v hSw;have s0:=hSw.1;clear hSw;go_simp) hH ?_;refine tkQ 4 (.int .i64 (i:Int)) hH ?_;refine tkQ 5 (.pointer (some ⟨F.sb,i*3,none⟩)) hH ?_;refine tkQ 6 (.pointer (some ⟨F.sb,i*3+2,none⟩)) hH ?_;refine tlQ 7 (.agg #[.int .u8 (xo:Int),.string xk,.int .u16 (xq:Int),.int .i16 xv]) rfl (by intro v hSw;have t0:v.cell? ⟨eb,0,none⟩=some (.int .u8 (xo:Int)):=Qaa hSw.2 0;have t1:v.cell? ⟨eb,1,none⟩=some (.string xk):=Qaa hSw.2 1;have t2:v.cell? ⟨eb,2,none⟩=some (.int .u16 (xq:Int)):=Qaa hSw.2 2;have t3:v.cell? ⟨eb,3,none⟩=some (.int .i16 xv):=Qaa hSw.2 3;clear hSw;go_simp) hH ?_;have hX7l:=HX8.out.1.lt;refine rdQ [8,12] ?_;refine AllReadyH.cons rfl (λK hK=>?_) (arQ λK hK=>?_)
 focus
  clear hH;go_simp
  go_wp2_with(go_at_call 88;refine(HKT.out _ _ _ HX8.out.1).mono ?_;rintro en w9 ⟨rfl,hA9⟩)
  have hS9:=hA9.heapOf hS0.2 HX8.out.2.2;obtain⟨X9,k1,k2,hX9⟩:=hA9;refine hK.out _ _ ⟨k1.sorterSlice,hS9⟩ (λhH=>?_);clear hK K;refine tkQ 9 (.tuple #[.agg #[.int .i32 (pp:Int),.int .i64 dd,.int .i16 ss],.bool ct]) hH ?_;refine tkQ 10 (.agg #[.int .i32 (pp:Int),.int .i64 dd,.int .i16 ss]) hH ?_;refine tkQ 11 (.bool ct) hH ?_;refine rdQ [12] ?_
  refine arQ λK hK=>?_
  clear hH;go_simp;have hnb:=heap_alloc_new w9 (.cells #[.int .i32 0,.int .i64 0,.int .i16 0] 157);have hba:=(Below.refl w9.heap.size w9).alloc (Nat.le_refl _) (.cells #[.int .i32 0,.int .i64 0,.int .i16 0] 157)
  have hSy:(w9.alloc (.cells #[.int .i32 0,.int .i64 0,.int .i16 0] 157)).cell? ⟨F.jb,2,none⟩=some (.slice (some ⟨F.sb,0,none⟩) m.W F.cS)/\(w9.alloc (.cells #[.int .i32 0,.int .i64 0,.int .i16 0] 157)).heap[eb]? =some (.cells #[.int .u8 (xo:Int),.string xk,.int .u16 (xq:Int),.int .i16 xv] 40 (0,0)):=⟨(k1.below hba).sorterSlice,(hba.block eb (Qac hS9)).trans hS9⟩
  have k1l:=k1.lt;have k1b:=k1.below hba;have k2b:=k2.old hba;have k2s:=k2.size;have hne:¬eb=w9.heap.size:=Nat.ne_of_lt (Qac hS9);refine hK.out _ _ hSy (λhH=>?_);clear hK K k1 k2 hS9;generalize w9.alloc (.cells #[.int .i32 0,.int .i64 0,.int .i16 0] 157)=wa at hnb hSy hH k1b k2b ⊢;clear hba
  have HST:=show Hid _ from λ(v0 v1 v2:Value)=>chgStore hnb k1b (λhx=>Nat.lt_irrefl _ (k1l _ hx)) k2b k2s v0 v1 v2
  have hn9c:¬X9 w9.heap.size:=λhx=>Nat.lt_irrefl _ (k1l _ hx)
  clear k1b k2b k2s k1l;generalize w9.heap.size=cb at hnb hne HST hn9c ⊢;refine rdQ [13] ?_
  refine arQ λK hK=>?_
  clear hH;have e0:wa.cell? ⟨cb,0,none⟩=some (.int .i32 0):=Qaa hnb 0;have e1:wa.cell? ⟨cb,1,none⟩=some (.int .i64 0):=Qaa hnb 1;have e2:wa.cell? ⟨cb,2,none⟩=some (.int .i16 0):=Qaa hnb 2;have z0:wa.frozen? ⟨cb,0,none⟩=false:=Qab hnb 0;have z1:wa.frozen? ⟨cb,1,none⟩=false:=Qab hnb 1;have z2:wa.frozen? ⟨cb,2,none⟩=false:=Qab hnb 2;go_simp;have hst:=HST.out (.int .i32 (pp:Int)) (.int .i64 dd) (.int .i16 ss);have hSb2:=((((FrmX.refl (λx=>x=cb) wa).set (g:=cb) (λ_=>rfl) 0 (.int .i32 (pp:Int))).set (g:=cb) (λ_=>rfl) 1 (.int .i64 dd)).set (g:=cb) (λ_=>rfl) 2 (.int .i16 ss)).block hSy.2 hne;generalize(((wa.setCell ⟨cb,0,none⟩ (.int .i32 (pp:Int))).setCell ⟨cb,1,none⟩ (.int .i64 dd)).setCell ⟨cb,2,none⟩ (.int .i16 ss))=wb at hst hSb2 ⊢
  have hSb:wb.cell? ⟨F.jb,2,none⟩=some (.slice (some ⟨F.sb,0,none⟩) m.W F.cS)/\wb.heap[eb]? =some (.cells #[.int .u8 (xo:Int),.string xk,.int .u16 (xq:Int),.int .i16 xv] 40 (0,0)):=⟨hst.2.1.sorterSlice,hSb2⟩
  refine hK.out _ _ hSb (λhH=>?_);clear hK K e0 e1 e2 z0 z1 z2 hnb HST hSy hSb
  have HQ:=show Hid (TkAt2 F X w8 _ #[.int .i32 (pp:Int),.int .i64 dd,.int .i16 ss] cb wb/\wb.heap[eb]? =some (.cells #[.int .u8 (xo:Int),.string xk,.int .u16 (xq:Int),.int .i16 xv] 40 (0,0)))from⟨⟨X9,hst.2.1,hst.2.2,hX9,hst.1,hn9c⟩,hSb2⟩
  clear hst hX9 hSb2 hn9c;clear wa w9 hne
 rotate_left
 focus
  clear hH;go_simp;have hnb:=heap_alloc_new w8 (.cells #[.int .i32 0,.int .i64 0,.int .i16 0] 157);have hba:=(Below.refl w8.heap.size w8).alloc (Nat.le_refl _) (.cells #[.int .i32 0,.int .i64 0,.int .i16 0] 157)
  have hSy0:(w8.alloc (.cells #[.int .i32 0,.int .i64 0,.int .i16 0] 157)).cell? ⟨F.jb,2,none⟩=some (.slice (some ⟨F.sb,0,none⟩) m.W F.cS)/\(w8.alloc (.cells #[.int .i32 0,.int .i64 0,.int .i16 0] 157)).heap[eb]? =some (.cells #[.int .u8 (xo:Int),.string xk,.int .u16 (xq:Int),.int .i16 xv] 40 (0,0)):=⟨(HX8.out.1.below hba).sorterSlice,(hba.block eb (Qac hS0.2)).trans hS0.2⟩
  have hne:¬eb=w8.heap.size:=Nat.ne_of_lt (Qac hS0.2)
  have hnx:¬X w8.heap.size:=λhx=>Nat.lt_irrefl _ (hX7l _ hx)
  have hsz:w8.heap.size<(w8.alloc (.cells #[.int .i32 0,.int .i64 0,.int .i16 0] 157)).heap.size:=Qac hnb;refine hK.out _ _ hSy0 (λhH=>?_);clear hK K
  have HK8:=show Hid _ from And.intro (HX8.out.1.below hba) (FrmX.of_below (X:=X) hba)
  generalize w8.alloc (.cells #[.int .i32 0,.int .i64 0,.int .i16 0] 157)=wa at hnb hSy0 hH HK8 hsz ⊢;clear hba;refine rdQ [8] ?_
  refine arQ λK hK=>?_
  clear hH;go_simp
  go_wp2_with(go_at_call 88;refine(HKT.out _ _ _ HK8.out.1).mono ?_;rintro en w9 ⟨rfl,hA9⟩)
  have hS9:=hA9.heapOf hSy0.2 HX8.out.2.2;have hnb9:=hA9.heapOf hnb hnx;obtain⟨X9,k1,k2,hX90⟩:=hA9
  have hSy:w9.cell? ⟨F.jb,2,none⟩=some (.slice (some ⟨F.sb,0,none⟩) m.W F.cS)/\w9.heap[eb]? =some (.cells #[.int .u8 (xo:Int),.string xk,.int .u16 (xq:Int),.int .i16 xv] 40 (0,0)):=⟨k1.sorterSlice,hS9⟩
  refine hK.out _ _ hSy (λhH=>?_);clear hK K;refine tkQ 9 (.tuple #[.agg #[.int .i32 (pp:Int),.int .i64 dd,.int .i16 ss],.bool ct]) hH ?_;refine tkQ 10 (.agg #[.int .i32 (pp:Int),.int .i64 dd,.int .i16 ss]) hH ?_;refine tkQ 11 (.bool ct) hH ?_;have k2b:=HK8.out.2.trans k2 (λ_ _ h=>h)
  have hn9:¬X9 w8.heap.size:=λhx=>by
   rcases hX90 _ hx with h1 | h1
   ·exact hnx h1
   ·omega
  have hX9:∀g,X9 g->X g\/w8.heap.size<=g:=λg hg=>(hX90 g hg).imp id (λh=>by omega)
  clear hnb hSy0 hS0 HK8 hX90 k2;have hnb:=hnb9;clear hnb9 hS9
  have HST:=show Hid _ from λ(v0 v1 v2:Value)=>chgStore hnb k1 hn9 k2b (Nat.le_refl _) v0 v1 v2
  have hn9c:=hn9;clear k1 k2b hn9 hsz hnx;clear wa;generalize hcb:w8.heap.size=cb at hnb hne HST hn9c ⊢;refine rdQ [13] ?_
  refine arQ λK hK=>?_
  clear hH;have e0:w9.cell? ⟨cb,0,none⟩=some (.int .i32 0):=Qaa hnb 0;have e1:w9.cell? ⟨cb,1,none⟩=some (.int .i64 0):=Qaa hnb 1;have e2:w9.cell? ⟨cb,2,none⟩=some (.int .i16 0):=Qaa hnb 2;have z0:w9.frozen? ⟨cb,0,none⟩=false:=Qab hnb 0;have z1:w9.frozen? ⟨cb,1,none⟩=false:=Qab hnb 1;have z2:w9.frozen? ⟨cb,2,none⟩=false:=Qab hnb 2;go_simp;have hst:=HST.out (.int .i32 (pp:Int)) (.int .i64 dd) (.int .i16 ss);have hSb2:=((((FrmX.refl (λx=>x=cb) w9).set (g:=cb) (λ_=>rfl) 0 (.int .i32 (pp:Int))).set (g:=cb) (λ_=>rfl) 1 (.int .i64 dd)).set (g:=cb) (λ_=>rfl) 2 (.int .i16 ss)).block hSy.2 hne;generalize(((w9.setCell ⟨cb,0,none⟩ (.int .i32 (pp:Int))).setCell ⟨cb,1,none⟩ (.int .i64 dd)).setCell ⟨cb,2,none⟩ (.int .i16 ss))=wb at hst hSb2 ⊢
  have hSb:wb.cell? ⟨F.jb,2,none⟩=some (.slice (some ⟨F.sb,0,none⟩) m.W F.cS)/\wb.heap[eb]? =some (.cells #[.int .u8 (xo:Int),.string xk,.int .u16 (xq:Int),.int .i16 xv] 40 (0,0)):=⟨hst.2.1.sorterSlice,hSb2⟩
  refine hK.out _ _ hSb (λhH=>?_);clear hK K e0 e1 e2 z0 z1 z2 hnb HST hSy hSb
  have HQ:=show Hid (TkAt2 F X w8 _ #[.int .i32 (pp:Int),.int .i64 dd,.int .i16 ss] cb wb/\wb.heap[eb]? =some (.cells #[.int .u8 (xo:Int),.string xk,.int .u16 (xq:Int),.int .i16 xv] 40 (0,0)))from⟨⟨X9,hst.2.1,hst.2.2,hX9,hst.1,hn9c⟩,hSb2⟩
  clear hst hX9 hSb2 hn9c;clear hcb w9 hne
 all_goals
  refine tkQ 14 (.bool ct) hH ?_;refine wpAnyH_done krQ ?_ _;clear hH;subst hebd;obtain⟨X9,k1,k2,k3,h2,hn9⟩:=HQ.out.1
  have HK1:=show Hid (CLX F X9 wb _)from k1
  have HM:=show Hid (FrmX X w8 wb/\(∀g,X9 g->X g\/w8.heap.size<=g))from⟨k2,k3⟩
  have HH2:=show Hid _ from And.intro h2 HQ.out.2
  clear k1 k2 k3 h2 HQ HKT
  cases ct with
  | false=>
   go_wp2
   (try simp only[Exit.inBlock,Exit.then])
   refine bodyPost_ret (results_none rfl _ _ _) rfl ?_
   exact⟨rfl,Aft.from (Aft.then HM.out.1 HM.out.2 HK1.out.aft) HX8.out.2.1⟩
  | true=>
   have kc:wb.cell? ⟨w.heap.size,1,none⟩=some (.string xk):=Qaa HH2.out.2 1
   go_wp2_with(go_at_call 98;refine(HA2.out _ _ HK1.out).mono ?_;rintro en wc ⟨rfl,hbc⟩)
   have hS5:wc.drew.cell? ⟨F.jb,3,none⟩=some (.slice (some ⟨F.ab,0,none⟩) m.W F.cA)/\wc.drew.heap[cb]? =some (.cells #[.int .i32 (pp:Int),.int .i64 dd,.int .i16 ss] 157 (0,0)):=⟨(HK1.out.below hbc).adderSlice,(hbc.block cb (Qac HH2.out.1)).trans HH2.out.1⟩
   have HKc:=show Hid (CLX F X9 wc.drew _/\Below wb.heap.size wb wc.drew)from⟨(HK1.out.below hbc).drew,hbc.drew⟩
   clear kc hbc HK1 HH2 HA2 HSo;refine wp_region_held_drew (S:=λw':World=>w'.cell? ⟨F.jb,3,none⟩=some (.slice (some ⟨F.ab,0,none⟩) m.W F.cA)/\w'.heap[cb]? =some (.cells #[.int .i32 (pp:Int),.int .i64 dd,.int .i16 ss] 157 (0,0))) krQ hS5 (λhH=>?_);generalize wc.drew=wd at hS5 HKc hH ⊢;refine tkQ 0 (.pointer (some ⟨F.jb,0,none⟩)) hH ?_;refine tkQ 1 (.pointer (some ⟨F.jb,0,none⟩)) hH ?_;refine tkQ 2 (.pointer (some ⟨F.jb,3,none⟩)) hH ?_;refine tlQ 3 (.slice (some ⟨F.ab,0,none⟩) m.W F.cA) rfl (by intro v hSw;have s0:=hSw.1;clear hSw;go_simp) hH ?_;refine tkQ 4 (.int .i64 (kd:Int)) hH ?_;refine tkQ 5 (.pointer (some ⟨F.ab,kd*2,none⟩)) hH ?_;refine tkQ 6 (.pointer (some ⟨F.ab,kd*2+1,none⟩)) hH ?_;refine tlQ 7 (.agg #[.int .i32 (pp:Int),.int .i64 dd,.int .i16 ss]) rfl (by intro v hSw;have t0:v.cell? ⟨cb,0,none⟩=some (.int .i32 (pp:Int)):=Qaa hSw.2 0;have t1:v.cell? ⟨cb,1,none⟩=some (.int .i64 dd):=Qaa hSw.2 1;have t2:v.cell? ⟨cb,2,none⟩=some (.int .i16 ss):=Qaa hSw.2 2;clear hSw;go_simp) hH ?_;refine rdQ [8] ?_
   refine arQ λK hK=>?_
   clear hH;go_simp
   go_wp2_with(go_at_call 89;refine(HG.out (by first | rfl | trivial) _ _ HKc.out.1).mono ?_;rintro en we ⟨rfl,hAe⟩)
   have hSe:=hAe.heapOf hS5.2 hn9;obtain⟨Xe,ke,kef,kex⟩:=hAe;refine hK.out _ _ ⟨ke.adderSlice,hSe⟩ (λhH=>?_);clear hK K hH
   have HE:=show Hid (Aft F X9 wd _ we)from⟨Xe,ke,kef,kex⟩
   clear ke kef kex;refine wpAnyH_done krQ ?_ _;go_wp2
   go_end0
   exact⟨rfl,Aft.from (Aft.then HM.out.1 HM.out.2 (Aft.from HE.out HKc.out.2)) HX8.out.2.1⟩
end
end
section
theorem QbM:∀(b a:List Nat),a.Pairwise (· < ·)->b.Pairwise (· < ·)->(∀x∈a,x∈b)->a.length<=b.length
 | [],a,_,_,h=>by
  cases a with
  | nil=>exact Nat.le_refl _
  | cons x a=>exact absurd (h x (by simp)) (by simp)
 | y :: b,[],_,_,_=>Nat.zero_le _
 | y :: b,x :: a,ha,hb,h=>by
  rw[List.pairwise_cons]at ha hb;simp only[List.length_cons]
  by_cases e:x=y
  ·subst e
   have:=QbM b a ha.2 hb.2 (λz hz=>by
    rcases List.mem_cons.1 (h z (by simp[hz]))with e | hm
    ·have:=ha.1 z hz;omega
    ·exact hm)
   omega
  ·have hx:x∈b:=by
    rcases List.mem_cons.1 (h x (by simp))with e' | hm
    ·exact absurd e' e
    ·exact hm
   have hxy:=hb.1 x hx
   have:=QbM b (x :: a) (List.pairwise_cons.2 ha) hb.2 (λz hz=>by
    rcases List.mem_cons.1 (h z hz)with e' | hm
    ·rcases List.mem_cons.1 hz with e2 | hz2
     ·omega
     ·have:=ha.1 z hz2;omega
    ·exact hm)
   simp only[List.length_cons]at this;omega
def ChOk(E:List Ev)(c:ChgM):Prop:=(∃e∈E,c.pt=((grp e.key).1:Int))/\-1<=c.live/\c.live<=1
theorem Qfs(k:Kn)(e:Ev):-1<=(chgOf k e).live/\(chgOf k e).live<=1:=by
 unfold chgOf;simp only
 constructor<;>split<;>split<;>omega
theorem Qdh(es:List Ev):∀pre,∀c∈outsFrom pre es,ChOk es c:=by
 induction es with
 | nil=>intro pre c hc;simp[outsFrom]at hc
 | cons e es ih=>
  intro pre c hc;simp only[outsFrom,List.mem_append]at hc
  rcases hc with hc | hc
  ·split at hc
   ·simp only[List.mem_cons,List.not_mem_nil,or_false]at hc;exact⟨⟨e,by simp,by rw[hc];rfl⟩,by rw[hc];exact Qfs _ _⟩
   ·simp at hc
  ·obtain⟨⟨e',h1,h2⟩,h3⟩:=ih _ c hc;exact⟨⟨e',by simp[h1],h2⟩,h3⟩
theorem ChOk.mono{E E':List Ev}{c:ChgM}(h:ChOk E c)(hs:∀e∈E,e∈E'):ChOk E' c:=by
 obtain⟨⟨e,h1,h2⟩,h3⟩:=h;exact⟨⟨e,hs e h1,h2⟩,h3⟩
theorem Qej{W:Nat}{E:List Ev}{n i:Nat}:∀e∈evs W E n i,e∈E:=λe he=>by
 unfold evs at he;exact List.mem_of_mem_take (List.mem_filter.1 he).1
theorem Qdu(W:Nat)(E:List Ev)(n i:Nat):(evs W E n i).length<=E.length:=by
 unfold evs;have h1:=List.length_filter_le (λe:Ev=>decide (hashS e.key % W=i)) (E.take n);rw[List.length_take]at h1;omega
theorem QcO(es:List Ev):∀pre,(outsFrom pre es).length<=es.length:=by
 induction es with
 | nil=>intro pre;simp[outsFrom]
 | cons e es ih=>
  intro pre;simp only[outsFrom,List.length_append,List.length_cons];have:=ih (pre++[e])
  split<;>simp<;>omega
theorem QdQ(W k:Nat)(l:List ChgM):(toA W k l).length<=l.length:=List.length_filter_le _ _
theorem QdR{h:Nat->List ChgM}{B:Nat}:∀n,(∀i,i<n->(h i).length<=B)->((List.range n).flatMap h).length<=n*B
 | 0,_=>by simp
 | n+1,hb=>by
  rw[List.range_succ,List.flatMap_append,List.length_append];simp only[List.flatMap_cons,List.flatMap_nil,List.append_nil];have h1:=QdR n (λi hi=>hb i omQ);have h2:=hb n omQ;rw[Nat.succ_mul];omega
theorem Qhe{W k n:Nat}{E:List Ev}:∀c∈allTo W k n E,ChOk E c:=λc hc=>by
 unfold allTo at hc;obtain⟨i,_,hc⟩:=List.mem_flatMap.1 hc;exact(Qdh _ _ c (Qds hc).1).mono Qej
theorem Qec(W k n:Nat)(E:List Ev):(allTo W k n E).length<=W*E.length:=by
 unfold allTo
 refine QdR W λi _=>?_
 have h1:=QdQ W k (outs (evs W E n i));have h2:=QcO (evs W E n i) [];have h3:=Qdu W E n i;unfold outs at h1 ⊢;omega
theorem QjD{p:Nat}{got:List ChgM}(h:∀c∈got,-1<=c.live/\c.live<=1):-(got.length:Int)<=sumC (λc=>c.live) p got/\sumC (λc=>c.live) p got<=(got.length:Int):=by
 induction got with
 | nil=>simp[sumC]
 | cons c got ih=>
  have h1:=ih (λc hc=>h c (by simp[hc]));have h2:=h c (by simp);simp only[sumC,List.length_cons]
  split<;>omega
theorem TabIs.bounds{t:List GX}{got chg:List ChgM}{E:List Ev}(h:TabIs t got chg)(ho:∀c∈got,ChOk E c)(hl:got.length<=100000):t.length<=(ptsOf E).length/\∀r∈t,-100000<=r.v.live/\r.v.live<=100000:=by
 refine⟨?_,λr hr=>?_⟩
 ·have:=QbM (ptsOf E) (t.map (λx=>x.v.pt)) h.sorted (QaJ E) (λp hp=>by
   obtain⟨x,hx,rfl⟩:=List.mem_map.1 hp;obtain⟨⟨c,hc,hcp⟩,_⟩:=(h.mem x).1 hx;obtain⟨⟨e,he,hep⟩,_⟩:=ho c hc
   have hpt:x.v.pt=(grp e.key).1:=by rw[hcp]at hep;exact Int.ofNat.inj hep
   rw[hpt]
   exact(Qbj _ _).2 ⟨e.key,(Qaz _ _).2 ⟨e,he,rfl⟩,rfl⟩)
  rw[List.length_map]at this;exact this
 ·have h1:=((h.mem r).1 hr).2.1;have h2:=QjD (p:=r.v.pt) (λc hc=>(ho c hc).2)
  have h3:r.v.live=sumC (λc=>c.live) r.v.pt got:=by rw[h1];rfl
  rw[h3];omega
theorem Qhf{h h':Nat->List ChgM}{i0:Nat}{l:List ChgM}(he:h' i0=h i0++l)(hne:∀i,i≠i0->h' i=h i):∀n,((List.range n).flatMap h').Perm (if i0<n then(List.range n).flatMap h++l else(List.range n).flatMap h)
 | 0=>by simp
 | n+1=>by
  have ih:=Qhf he hne n;rw[List.range_succ,List.flatMap_append,List.flatMap_append];simp only[List.flatMap_cons,List.flatMap_nil,List.append_nil]
  by_cases h1:i0<n
  ·rw[if_pos h1]at ih;rw[if_pos omQ,hne n omQ];refine(ih.append_right (h n)).trans ?_;rw[List.append_assoc,List.append_assoc];exact(List.perm_append_comm).append_left _
  ·rw[if_neg h1]at ih
   by_cases h2:i0=n
   ·subst h2;rw[if_pos omQ,he,<-List.append_assoc];exact(ih.append_right (h i0)).append_right l
   ·rw[if_neg omQ,hne n (λx=>h2 x.symm)];exact ih.append_right (h n)
theorem QjE{W:Nat}(hW:0<W){E:List Ev}{n:Nat}(hn:n<E.length)(k:Nat):(allTo W k (n+1) E).Perm (allTo W k n E++toA W k (out1 (evs W E n (hashS E[n].key % W)) E[n])):=by
 unfold allTo;have:=Qhf (h:=λi=>toA W k (outs (evs W E n i))) (h':=λi=>toA W k (outs (evs W E (n+1) i))) (i0:=hashS E[n].key % W) (l:=toA W k (out1 (evs W E n (hashS E[n].key % W)) E[n])) (by rw[QbT hn,if_pos rfl,Qd4,Qfj]) (λi hi=>by rw[QbT hn,if_neg (λe=>hi e.symm),List.append_nil]) W;rw[if_pos (Nat.mod_lt _ hW)]at this;exact this
theorem Qft{es:List Ev}{e:Ev}(h:(knOf e.key es).counts e=true):(chgOf (knOf e.key es) e).live=dLive es e/\wrap16 (chgOf (knOf e.key es) e).delta=dSum es e:=
 ⟨says_live.chg _ _ h,by unfold dSum;rw[<-says_sum.chg _ _ h]⟩
theorem TabIs.event{W:Nat}(hW:0<W){E:List Ev}{n:Nat}(hn:n<E.length){k:Nat}{t:List GX}(h:TabIs t (allTo W k n E) (allTo W k n E)):
  TabIs (if(knOf E[n].key (evs W E n (hashS E[n].key % W))).counts E[n]=true/\(grp E[n].key).1 % W=k then addX (grp E[n].key).1 (dLive (evs W E n (hashS E[n].key % W)) E[n]) (dSum (evs W E n (hashS E[n].key % W)) E[n]) t else t) (allTo W k (n+1) E) (allTo W k (n+1) E):=by
 have hp:=QjE hW hn k;generalize hes:evs W E n (hashS E[n].key % W)=es at hp ⊢
 by_cases hc:(knOf E[n].key es).counts E[n]=true
 ·by_cases hk:(grp E[n].key).1 % W=k
  ·rw[if_pos ⟨hc,hk⟩]
   have ho:toA W k (out1 es E[n])=[chgOf (knOf E[n].key es) E[n]]:=by
    unfold out1;rw[if_pos hc,Qdr,if_pos];exact hk
   rw[ho]at hp;obtain⟨s1,s2⟩:=Qft hc;have:=h.add (c:=chgOf (knOf E[n].key es) E[n]) (p:=(grp E[n].key).1) rfl;rw[s1,s2]at this;exact this.perm hp.symm (λc=>hp.mem_iff.symm)
  ·rw[if_neg (λx=>hk x.2)]
   have ho:toA W k (out1 es E[n])=[]:=by
    unfold out1;rw[if_pos hc,Qdr,if_neg];exact hk
   rw[ho,List.append_nil]at hp;exact h.perm hp.symm (λc=>hp.mem_iff.symm)
 ·rw[if_neg (λx=>hc x.1)]
  have ho:toA W k (out1 es E[n])=[]:=by
   unfold out1;rw[if_neg hc]
   rfl
  rw[ho,List.append_nil]at hp;exact h.perm hp.symm (λc=>hp.mem_iff.symm)
end
section
open Go.RowKit
def skTo(m:CM)(n:Nat):Nat->List EV:=λi=>if i<m.W then entsOf (evs m.W m.evs n i)else m.sk i
theorem QkN{m:CM}(h:∀i,i<m.W->m.sk i=[]):skTo m 0=m.sk:=by
 funext i
 unfold skTo;split
 ·rename_i hi
  rw[h i hi,QdJ]
  rfl
 ·rfl
theorem QkO{m:CM}(hW:0<m.W){n:Nat}(hn:n<m.evs.length):updF (skTo m n) (hashS m.evs[n].key % m.W) (entsOf (evs m.W m.evs n (hashS m.evs[n].key % m.W)++[m.evs[n]]))=skTo m (n+1):=by
 funext i
 unfold updF skTo
 by_cases e:i=hashS m.evs[n].key % m.W
 ·subst e;rw[if_pos rfl,if_pos (Nat.mod_lt _ hW),QbT hn,if_pos rfl]
 ·have h1:evs m.W m.evs (n+1) i=evs m.W m.evs n i:=by rw[QbT hn,if_neg (λx=>e x.symm),List.append_nil]
  rw[if_neg e,h1]
def RcSt(F:Fx)(X:Nat->Prop)(w:World)(m:CM)(n:Nat)(wr:World):Prop:=
 ∃tb,Aft F X w {m with sk:=skTo m n,tb:=tb} wr/\∀k,k<m.W->TabIs (tb k) (allTo m.W k n m.evs) (allTo m.W k n m.evs)
def RcSt2(F:Fx)(X:Nat->Prop)(w:World)(m:CM)(n j:Nat)(wr:World):Prop:=
 ∃tb,Aft F X w {m with sk:=skTo m n,tb:=tb} wr/\(∀k,k<m.W->TabIs (tb k) (allTo m.W k n m.evs) (if k<j then[]else allTo m.W k n m.evs))
section
variable {F:Fx} {X:Nat->Prop} {w:World} {m:CM}
theorem crecall(h:CLX F X w m)(hE:m.evs.length<=400)(hb:m.offset<=m.evs.length)(hev:∀e∈m.evs,validB e.key=true/\0<e.key.size/\e.key.size<=1000)(hsk:∀i,i<m.W->m.sk i=[])(htb:∀k,k<m.W->m.tb k=[]):Calls Tryz.prog 83 #[.pointer (some ⟨F.jb,0,none⟩)] w λen w'=>en=.returned (.tuple #[])/\RcSt2 F X w m m.offset m.W w':=by
 have hw4:=h.w4
 have H0:=show Hid (RcSt F X w m 0 w)from by
  refine⟨m.tb,by rw[QkN hsk];exact h.aft,λk hk=>?_⟩;rw[htb k hk,Qfk];exact TabIs.nil
 clear h hsk htb;go_enter Tryz.func83,Tryz.ntmps83;go_wp2
 go_loopw [2] (λv wr=>∃j:Nat,j<=m.offset/\v=.int .i64 (j:Int)/\RcSt F X w m j wr) (λv _=>m.offset-(intOf v).toNat)
 case atStart=>exact⟨0,Nat.zero_le _,rfl,H0.out⟩
 case round=>
  obtain⟨j,hj,rfl,tb,hA,hT⟩:=hrel;clear H0;obtain⟨X1,k1,k2,k3⟩:=hA
  have HK:=show Hid (FrmX X w wr/\∀g,X1 g->X g\/w.heap.size<=g)from⟨k2,k3⟩
  clear k2 k3;obtain⟨v3,v4,v5,c0,_,_,_,_,_,_,_,_,_,c10,ho⟩:=k1.jobCells;obtain⟨a,c,rfl⟩:=Qaf ho;simp only at c0 c10 ho
  by_cases hjb:j<m.offset
  ·have hjl:j<m.evs.length:=omQ;have hji:(j:Int)<(m.offset:Int):=omQ;have hjl2:(j:Int)<(m.evs.length:Int):=omQ;have hj0:(0:Int)<=(j:Int):=omQ
   rcases Qai ho with⟨_,h0⟩ | ⟨g,rfl⟩
   ·omega
   obtain⟨d0,d1,d2,d3⟩:=QcV ho hjl;obtain⟨e1,e2,e3⟩:=hev _ (List.getElem_mem hjl);have hiW:hashS (m.evs[j]'hjl).key % m.W<m.W:=Nat.mod_lt _ omQ;have hkW:(grp (m.evs[j]'hjl).key).1 % m.W<m.W:=Nat.mod_lt _ omQ
   have hl9:(evs m.W m.evs j (hashS (m.evs[j]'hjl).key % m.W)).length<=900:=by
    have:=Qdu m.W m.evs j (hashS (m.evs[j]'hjl).key % m.W);omega
   have hpl:=Qa2 m.evs
   have hC:=ccount k1 (m.evs[j]'hjl) (evs m.W m.evs j (hashS (m.evs[j]'hjl).key % m.W)) (by simp only;unfold skTo;rw[if_pos hiW]) hl9 e1 e2 e3 (λhc=>by
    have hb1:=(hT _ hkW).bounds (E:=m.evs) Qhe (by
     have:=Qec m.W ((grp (m.evs[j]'hjl).key).1 % m.W) j m.evs;have h2:m.W*m.evs.length<=4*400:=Nat.mul_le_mul hw4.2 hE
     omega)
    refine⟨by simp only;omega,?_,hb1.2⟩;unfold dLive;have h1:=Qbx ((knOf (m.evs[j]'hjl).key (evs m.W m.evs j (hashS (m.evs[j]'hjl).key % m.W))).step (m.evs[j]'hjl));have h2:=Qbx (knOf (m.evs[j]'hjl).key (evs m.W m.evs j (hashS (m.evs[j]'hjl).key % m.W)))
    omega)
   simp only at hC;rw[QkO omQ hjl]at hC
   have HC:=show Hid _ from λ(_:Unit)=>hC
   clear hC
   have HN:=show Hid _ from λ(tb':Nat->List GX) (htb:tb'=if(knOf (m.evs[j]'hjl).key (evs m.W m.evs j (hashS (m.evs[j]'hjl).key % m.W))).counts (m.evs[j]'hjl)then updF tb ((grp (m.evs[j]'hjl).key).1 % m.W) (addX (grp (m.evs[j]'hjl).key).1 (dLive (evs m.W m.evs j (hashS (m.evs[j]'hjl).key % m.W)) (m.evs[j]'hjl)) (dSum (evs m.W m.evs j (hashS (m.evs[j]'hjl).key % m.W)) (m.evs[j]'hjl)) (tb ((grp (m.evs[j]'hjl).key).1 % m.W)))else tb) (k:Nat) (hk:k<m.W)=>show TabIs (tb' k) (allTo m.W k (j+1) m.evs) (allTo m.W k (j+1) m.evs)from by
    have h1:=(hT k hk).event (W:=m.W) omQ hjl;rw[htb]
    by_cases hc:(knOf (m.evs[j]'hjl).key (evs m.W m.evs j (hashS (m.evs[j]'hjl).key % m.W))).counts (m.evs[j]'hjl)=true
    ·rw[if_pos hc]
     by_cases hkk:(grp (m.evs[j]'hjl).key).1 % m.W=k
     ·rw[if_pos ⟨hc,hkk⟩]at h1;subst hkk;rw[QaQ];exact h1
     ·rw[if_neg (λx=>hkk x.2)]at h1;rw[Qa0 (λx=>hkk x.symm)];exact h1
    ·rw[if_neg hc];rw[if_neg (λx=>hc x.1)]at h1;exact h1
   generalize htb':(if(knOf (m.evs[j]'hjl).key (evs m.W m.evs j (hashS (m.evs[j]'hjl).key % m.W))).counts (m.evs[j]'hjl)then updF tb ((grp (m.evs[j]'hjl).key).1 % m.W) (addX (grp (m.evs[j]'hjl).key).1 (dLive (evs m.W m.evs j (hashS (m.evs[j]'hjl).key % m.W)) (m.evs[j]'hjl)) (dSum (evs m.W m.evs j (hashS (m.evs[j]'hjl).key % m.W)) (m.evs[j]'hjl)) (tb ((grp (m.evs[j]'hjl).key).1 % m.W)))else tb)=tb' at HC
   have HN2:=show Hid _ from HN.out tb' htb'.symm
   clear HN htb' hT hl9 hpl e1 e2 e3 hiW hkW k1 ho hev;generalize m.evs[j]'hjl=e at HC d0 d1 d2 d3;obtain⟨op,key,seq,val⟩:=e;unfold Ev.value at HC;simp only at HC d0 d1 d2 d3
   go_wp2_with(go_at_call 108;refine(HC.out ()).mono ?_;rintro en w2 ⟨rfl,hA2⟩)
   go_roundw
   case rel=>exact⟨j+1,by omega,by go_num,tb',Aft.then HK.out.1 HK.out.2 hA2,HN2.out⟩
   case measure=>simp[intOf];omega
  ·have hjj:j=m.offset:=omQ;subst hjj;have hji:decide ((m.offset:Int)<(m.offset:Int))=false:=decide_eq_false omQ
   have HZ2:=show Hid (RcSt2 F X w m m.offset 0 wr)from⟨tb,Aft.then HK.out.1 HK.out.2 k1.aft,λk hk=>by rw[if_neg (Nat.not_lt_zero _)];exact hT k hk⟩
   clear k1 HK hT ho;go_wp2;clear hji c0 c10
   go_loopw [3] (λv wr=>∃j:Nat,j<=m.W/\v=.int .i64 (j:Int)/\RcSt2 F X w m m.offset j wr) (λv _=>m.W-(intOf v).toNat)
   case atStart=>exact⟨0,Nat.zero_le _,rfl,HZ2.out⟩
   case round=>
    obtain⟨j,hj,rfl,tb,hA,hT⟩:=hrel;clear HZ2;obtain⟨X1,k1,k2,k3⟩:=hA
    have HK:=show Hid (FrmX X w wr/\∀g,X1 g->X g\/w.heap.size<=g)from⟨k2,k3⟩
    clear k2 k3;have c3:=k1.adderSlice
    by_cases hjW:j<m.W
    ·have hpl:=Qa2 m.evs
     have hb1:=(hT j hjW).bounds (E:=m.evs) Qhe (by
      have:=Qec m.W j m.offset m.evs;have h2:m.W*m.evs.length<=4*400:=Nat.mul_le_mul hw4.2 hE
      omega)
     have HG:=show Hid _ from λ(_:Unit)=>gTaken k1 j hjW (by simp only;omega)
     have HN:=show Hid (∀k,k<m.W->TabIs (updF tb j ((tb j).map calmX) k) (allTo m.W k m.offset m.evs) (if k<j+1 then[]else allTo m.W k m.offset m.evs))from λk hk=>by
      by_cases e:k=j
      ·subst e;rw[QaQ,if_pos omQ];exact(hT k hk).calmed
      ·rw[Qa0 e];have h1:=hT k hk
       by_cases hkj:k<j
       ·rw[if_pos hkj]at h1;rw[if_pos omQ];exact h1
       ·rw[if_neg hkj]at h1;rw[if_neg omQ];exact h1
     have hji:(j:Int)<(m.W:Int):=omQ;have hj0:(0:Int)<=(j:Int):=omQ;clear k1 hT hb1 hpl hev;simp only at c3 HG
     go_wp2_with(go_at_call 109;refine(HG.out ()).mono ?_;rintro en w2 ⟨a2,c2,rfl,ho2,k2,kf2⟩;have HS:=show Hid (Aft F X w _ w2)from Aft.then HK.out.1 HK.out.2 ⟨X1,k2,kf2,λg hg=>Or.inl hg⟩;clear ho2 k2 kf2)
     go_roundw
     case rel=>exact⟨j+1,by omega,by go_num,_,HS.out,HN.out⟩
     case measure=>simp[intOf];omega
    ·have hjj:j=m.W:=omQ;subst hjj;have hji:¬(m.W:Int)<(m.W:Int):=omQ
     have HE:=show Hid (RcSt2 F X w m m.offset m.W wr)from⟨tb,Aft.then HK.out.1 HK.out.2 k1.aft,hT⟩
     clear k1 HK hT hev;simp only at c3;go_wp2
     go_end0
     exact⟨rfl,HE.out⟩
def FailSt(F:Fx)(X:Nat->Prop)(w:World)(m:CM)(w':World):Prop:=
 ∃tb,Aft F X w {m with sent:=m.offset,sp:=nilTo m.sp m.W,sk:=skTo {m with sk:=nilTo m.sk m.W} m.offset,ap:=nilAll m.ap m.W m.W,st:=clrAll m.st m.W m.W,tb:=tb,state:=0,off:=0,laid:=0,ready:=[]} w'/\∀k,k<m.W->TabIs (tb k) (allTo m.W k m.offset m.evs) []
theorem QjF(h:CLX F X w m)(hs:m.state≠3)(hE:m.evs.length<=400)(hb:m.offset<=m.evs.length)(hev:∀e∈m.evs,validB e.key=true/\0<e.key.size/\e.key.size<=1000):Calls Tryz.prog 55 #[.pointer (some ⟨F.jb,0,none⟩)] w λen w'=>en=.returned (.tuple #[])/\FailSt F X w m w':=by
 obtain⟨v3,v4,v5,_,_,_,_,c4,c5,c6,c7,_⟩:=h.jobCells;have z4:=h.jobFrozen 4 (by decide);have z5:=h.jobFrozen 5 (by decide);have z6:=h.jobFrozen 6 (by decide);have z7:=h.jobFrozen 7 (by decide)
 have e:((m.state:Int)==3)=false:=by rw[beq_eq_false_iff_ne];omega
 obtain⟨X1,a1,a2,a3⟩:=h.resetCk
 have HA:=show Hid (FrmX X w _/\∀g,X1 g->X g\/w.heap.size<=g)from⟨a2,a3⟩
 have HF:=show Hid _ from λ(_:Unit)=>cforget a1
 have HR:=show Hid _ from λ(X':Nat->Prop) (w':World) (h':CLX F X' w' {m with state:=0,off:=0,laid:=0,ready:=[],sp:=nilTo m.sp m.W,sk:=nilTo m.sk m.W,ap:=nilAll m.ap m.W m.W,st:=clrAll m.st m.W m.W,tb:=nilTo m.tb m.W})=>crecall h' hE hb hev (λi hi=>by simp only;unfold nilTo;rw[if_pos hi]) (λi hi=>by simp only;unfold nilTo;rw[if_pos hi])
 clear h a1 a2 a3 hev;simp only at HF HR;go_enter Tryz.func55,Tryz.ntmps55
 go_wp2_with(first
  | (go_at_call 82;refine(HF.out ()).mono ?_;rintro en w2 ⟨rfl,hA2⟩;obtain⟨X2,k2,k2f,k2x⟩:=hA2;have HK2:=show Hid (CLX F X2 w2 _)from k2;have HL2:=show Hid (FrmX X1 _ w2/\∀g,X2 g->X1 g\/_<=g)from⟨k2f,k2x⟩;clear k2 k2f k2x)
  | (go_at_call 83;refine(HR.out _ _ HK2.out).mono ?_;rintro en w3 ⟨rfl,hR3⟩;obtain⟨tb3,hA3,hT3⟩:=hR3;obtain⟨X3,k3,k3f,k3x⟩:=hA3;obtain⟨v3',v4',v5',_,c1',_,_,_,_,_,_,_,_,c10',_⟩:=k3.jobCells;simp only at c1' c10';have z1':=k3.jobFrozen 1 (by decide);have HE:=show Hid _ from Aft.then k3f k3x (k3.setJob 1 (.int .i64 (m.offset:Int)) m.offset 0 0 0 m.last m.offset (by decide) (λ_ _ _ _ _=>rfl));have HT3:=show Hid _ from hT3;clear k3 k3f k3x hT3))
 go_end0
 refine⟨rfl,tb3,Aft.then HA.out.1 HA.out.2 (Aft.then HL2.out.1 HL2.out.2 HE.out),λk hk=>?_⟩;have:=HT3.out k hk;rw[if_pos hk]at this;exact this
end
end
section
open Go.RowKit
def CM.committed(m:CM):CM:={m with view:=layX m.ready m.view,offset:=m.off,state:=0,off:=0,laid:=0,ready:=[]}
section
variable {F:Fx} {X:Nat->Prop} {w:World} {m:CM}
theorem Qhg(h:CLX F X w m)(hs:m.state=3)(hl:m.view.length+m.ready.length<=1000)(hE:m.evs.length<=400)(hb:m.off<=m.evs.length)(hev:∀e∈m.evs,validB e.key=true/\0<e.key.size/\e.key.size<=1000):Calls Tryz.prog 55 #[.pointer (some ⟨F.jb,0,none⟩)] w λen w'=>en=.returned (.tuple #[])/\∃X1 w1,FrmX X w w1/\(∀g,X1 g->X g\/w.heap.size<=g)/\FailSt F X1 w1 m.committed w':=by
 obtain⟨c4,_⟩:=h.ckCells;rw[hs]at c4
 have HC:=show Hid _ from λ(_:Unit)=>ccommit h hl
 have HF:=show Hid (∀(X':Nat->Prop) (w':World),CLX F X' w' {m.committed with state:=0,off:=0,laid:=0,ready:=[]}->Calls Tryz.prog 82 #[.pointer (some ⟨F.jb,0,none⟩)] w' λen w''=>en=.returned (.tuple #[])/\Aft F X' w' _ w'')from λX' w' h'=>cforget h'
 have HR:=show Hid _ from λ(X':Nat->Prop) (w':World) (h':CLX F X' w' {m.committed with state:=0,off:=0,laid:=0,ready:=[],sp:=nilTo m.sp m.W,sk:=nilTo m.sk m.W,ap:=nilAll m.ap m.W m.W,st:=clrAll m.st m.W m.W,tb:=nilTo m.tb m.W})=>crecall h' hE hb hev (λi hi=>show nilTo m.sk m.W i=[]from if_pos hi) (λi hi=>show nilTo m.tb m.W i=[]from if_pos hi)
 clear h hev;unfold CM.committed at HF HR ⊢;simp only at HF HR;go_enter Tryz.func55,Tryz.ntmps55
 go_wp2_with(first
  | (go_at_call 81;refine(HC.out ()).mono ?_;rintro en wc ⟨rfl,hAc⟩;obtain⟨Xc,kc,kcf,kcx⟩:=hAc;obtain⟨v3,v4,v5,_,_,_,_,c4,c5,c6,c7,_⟩:=kc.jobCells;have z4:=kc.jobFrozen 4 (by decide);have z5:=kc.jobFrozen 5 (by decide);have z6:=kc.jobFrozen 6 (by decide);have z7:=kc.jobFrozen 7 (by decide);have HLc:=show Hid (FrmX X w wc/\∀g,Xc g->X g\/w.heap.size<=g)from⟨kcf,kcx⟩;obtain⟨X1,a1,a2,a3⟩:=kc.resetCk;have HA:=show Hid (FrmX Xc wc _/\∀g,X1 g->Xc g\/wc.heap.size<=g)from⟨a2,a3⟩;have HK1:=show Hid (CLX F X1 _ _)from a1;clear kc kcf kcx a1 a2 a3)
  | (go_at_call 82;refine(HF.out _ _ HK1.out).mono ?_;rintro en w2 ⟨rfl,hA2⟩;obtain⟨X2,k2,k2f,k2x⟩:=hA2;have HK2:=show Hid (CLX F X2 w2 _)from k2;have HL2:=show Hid (FrmX X1 _ w2/\∀g,X2 g->X1 g\/_<=g)from⟨k2f,k2x⟩;clear k2 k2f k2x)
  | (go_at_call 83;refine(HR.out _ _ HK2.out).mono ?_;rintro en w3 ⟨rfl,hR3⟩;obtain⟨tb3,hA3,hT3⟩:=hR3;obtain⟨X3,k3,k3f,k3x⟩:=hA3;obtain⟨v3',v4',v5',_,c1',_,_,_,_,_,_,_,_,c10',_⟩:=k3.jobCells;simp only at c1' c10';have z1':=k3.jobFrozen 1 (by decide);have HE:=show Hid _ from Aft.then k3f k3x (k3.setJob 1 (.int .i64 (m.off:Int)) m.off 0 0 0 m.last m.off (by decide) (λ_ _ _ _ _=>rfl));have HT3:=show Hid _ from hT3;clear k3 k3f k3x hT3))
 go_end0
 refine⟨rfl,Xc,wc,HLc.out.1,HLc.out.2,tb3,Aft.then HA.out.1 HA.out.2 (Aft.then HL2.out.1 HL2.out.2 HE.out),λk hk=>?_⟩;have:=HT3.out k hk;rw[if_pos hk]at this;exact this
theorem QjG(h:CLX F X w m)(t:Int)(h0:-9223372036854775808<=t)(h1:t<=9223372036854775807)(ht:t<0\/2*(m.W:Int)+1<t):Calls Tryz.prog 44 #[.pointer (some ⟨F.jb,0,none⟩),.int .i64 t] w λen w'=>en=.returned (.int .i64 7)/\w'=w:=by
 have HF:=show Hid _ from λ(_:Unit)=>cfind h t h0 h1
 unfold kindOf at HF;rw[if_pos ht]at HF;clear h;go_enter Tryz.func44,Tryz.ntmps44
 go_wp2_with(go_at_call 71;refine(HF.out ()).mono ?_;rintro en w2 ⟨rfl,rfl⟩)
 go_ret;exact⟨rfl,rfl⟩
theorem Qhh(h:CLX F X w m){P:Int->World->Prop}(hc:Calls Tryz.prog 72 #[.pointer (some ⟨F.jb,0,none⟩)] w λen w'=>∃r:Int,en=.returned (.int .i64 r)/\P r w'):Calls Tryz.prog 44 #[.pointer (some ⟨F.jb,0,none⟩),.int .i64 0] w λen w'=>∃r:Int,en=.returned (.int .i64 r)/\P r w':=by
 have hw:=h.w4
 have HF:=show Hid _ from λ(_:Unit)=>cfind h 0 (by decide) (by decide)
 unfold kindOf at HF;rw[if_neg omQ,if_pos rfl]at HF
 have HC:=show Hid _ from λ(_:Unit)=>hc
 clear h hc;go_enter Tryz.func44,Tryz.ntmps44
 go_wp2_with(first
  | (go_at_call 71;refine(HF.out ()).mono ?_;rintro en w2 ⟨rfl,hw2⟩;obtain rfl:w=w2:=hw2.symm)
  | (go_at_call 72;refine(HC.out ()).mono ?_;rintro en w3 ⟨r,rfl,hP⟩))
 go_ret;exact⟨r,rfl,hP⟩
theorem Qhi(h:CLX F X w m)(i:Nat)(hi:i<m.W){P:Int->World->Prop}(hc:Calls Tryz.prog 73 #[.pointer (some ⟨F.jb,0,none⟩),.int .i64 (i:Int)] w λen w'=>∃r:Int,en=.returned (.int .i64 r)/\P r w'):Calls Tryz.prog 44 #[.pointer (some ⟨F.jb,0,none⟩),.int .i64 ((i:Int)+1)] w λen w'=>∃r:Int,en=.returned (.int .i64 r)/\P r w':=by
 have hw:=h.w4
 have HF:=show Hid _ from λ(_:Unit)=>cfind h ((i:Int)+1) omQ omQ
 unfold kindOf at HF;rw[if_neg omQ,if_neg omQ,if_pos omQ,show(i:Int)+1-1=(i:Int)from by omega]at HF
 have HC:=show Hid _ from λ(_:Unit)=>hc
 clear h hc;generalize(i:Int)+1=t at HF ⊢;go_enter Tryz.func44,Tryz.ntmps44
 go_wp2_with(first
  | (go_at_call 71;refine(HF.out ()).mono ?_;rintro en w2 ⟨rfl,hw2⟩;obtain rfl:w=w2:=hw2.symm)
  | (go_at_call 73;refine(HC.out ()).mono ?_;rintro en w3 ⟨r,rfl,hP⟩))
 go_ret;exact⟨r,rfl,hP⟩
theorem Qih(h:CLX F X w m)(k:Nat)(hk:k<m.W){P:Int->World->Prop}(hc:Calls Tryz.prog 74 #[.pointer (some ⟨F.jb,0,none⟩),.int .i64 (k:Int)] w λen w'=>∃r:Int,en=.returned (.int .i64 r)/\P r w'):Calls Tryz.prog 44 #[.pointer (some ⟨F.jb,0,none⟩),.int .i64 ((m.W:Int)+1+(k:Int))] w λen w'=>∃r:Int,en=.returned (.int .i64 r)/\P r w':=by
 have hw:=h.w4
 have HF:=show Hid _ from λ(_:Unit)=>cfind h ((m.W:Int)+1+(k:Int)) omQ omQ
 unfold kindOf at HF;rw[if_neg omQ,if_neg omQ,if_neg omQ,if_pos omQ,show(m.W:Int)+1+(k:Int)-(m.W:Int)-1=(k:Int)from by omega]at HF
 have HC:=show Hid _ from λ(_:Unit)=>hc
 clear h hc;generalize(m.W:Int)+1+(k:Int)=t at HF ⊢;go_enter Tryz.func44,Tryz.ntmps44
 go_wp2_with(first
  | (go_at_call 71;refine(HF.out ()).mono ?_;rintro en w2 ⟨rfl,hw2⟩;obtain rfl:w=w2:=hw2.symm)
  | (go_at_call 74;refine(HC.out ()).mono ?_;rintro en w3 ⟨r,rfl,hP⟩))
 go_ret;exact⟨r,rfl,hP⟩
theorem Qhj(h:CLX F X w m){P:Int->World->Prop}(hc:Calls Tryz.prog 75 #[.pointer (some ⟨F.jb,0,none⟩)] w λen w'=>∃r:Int,en=.returned (.int .i64 r)/\P r w'):Calls Tryz.prog 44 #[.pointer (some ⟨F.jb,0,none⟩),.int .i64 (2*(m.W:Int)+1)] w λen w'=>∃r:Int,en=.returned (.int .i64 r)/\P r w':=by
 have hw:=h.w4
 have HF:=show Hid _ from λ(_:Unit)=>cfind h (2*(m.W:Int)+1) omQ omQ
 unfold kindOf at HF;rw[if_neg omQ,if_neg omQ,if_neg omQ,if_neg omQ]at HF
 have HC:=show Hid _ from λ(_:Unit)=>hc
 clear h hc;generalize 2*(m.W:Int)+1=t at HF ⊢;go_enter Tryz.func44,Tryz.ntmps44
 go_wp2_with(first
  | (go_at_call 71;refine(HF.out ()).mono ?_;rintro en w2 ⟨rfl,hw2⟩;obtain rfl:w=w2:=hw2.symm)
  | (go_at_call 75;refine(HC.out ()).mono ?_;rintro en w3 ⟨r,rfl,hP⟩))
 go_ret;exact⟨r,rfl,hP⟩
end
end
end Go.Proofs.YthccpacmklhejabGreatDoor
