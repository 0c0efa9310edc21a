import Derived.Test.YthccpacmklhejaaGreatDoorTk
import Derived.Test.YthccpacmklhejaaGreatDoorK11
import Derived.Test.YthccpacmklhejaaGreatDoorK09
set_option maxHeartbeats 4000000
set_option maxRecDepth 100000
namespace Go.Proofs.YthccpacmklhejaaGreatDoor
section
open Go.RowKit
def chgZ:Value:=.agg #[.int .i32 0,.int .i64 0,.int .i16 0]
def chgV(p:Nat)(l s:Int):Value:=.agg #[.int .i32 (p:Int),.int .i64 l,.int .i16 s]
theorem QlR(B kb o:Nat)(t:TypeId)(cs:Array Value)(a:Option Addr)(c:Nat)(rs:List EV)(e:Ev)(w:World)(hlen:rs.length<=1000)(hK:KAt B kb o t cs a c rs w)(hcnt:cntE rs e=false):
  Calls Tryz.prog 90 #[.pointer (some ⟨kb,o,none⟩),e.value] w λen w'=>en=.returned (.tuple #[chgZ,.bool false])/\Below w.heap.size w w':=by
 obtain⟨op,key,seq,val⟩:=e
 have HC:=show Hid _ from λ(w:World) (h:KAt B kb o t cs a c rs w)=>Qdb B kb o t cs a c rs ⟨op,key,seq,val⟩ w hlen h
 rw[hcnt]at HC;clear hcnt
 have heb:((w.alloc (.cells #[.int .u8 (op:Int),.string key,.int .u16 (seq:Int),.int .i16 val] 41)).alloc (.cells #[.int .i32 0,.int .i64 0,.int .i16 0] 158)).heap[w.heap.size]? =some (.cells #[.int .u8 (op:Int),.string key,.int .u16 (seq:Int),.int .i16 val] 41 (0,0)):=by
  rw[Below.heap_alloc _ _ _ (by simp)];exact heap_alloc_new w _
 have hcb:=heap_alloc_new (w.alloc (.cells #[.int .u8 (op:Int),.string key,.int .u16 (seq:Int),.int .i16 val] 41)) (.cells #[.int .i32 0,.int .i64 0,.int .i16 0] 158);rw[World.size_alloc]at hcb
 have HK:=show Hid (_/\_)from And.intro ((hK.alloc (.cells #[.int .u8 (op:Int),.string key,.int .u16 (seq:Int),.int .i16 val] 41)).alloc (.cells #[.int .i32 0,.int .i64 0,.int .i16 0] 158)) (((Below.refl w.heap.size w).alloc (Nat.le_refl _) (.cells #[.int .u8 (op:Int),.string key,.int .u16 (seq:Int),.int .i16 val] 41)).alloc (by simp) (.cells #[.int .i32 0,.int .i64 0,.int .i16 0] 158))
 have hkl:=hK.bl
 have hgl:∀g,(Value.slice a rs.length c).ownBlock=some g->g<w.heap.size:=λg hg=>(Qah hK.own g hg).2
 clear hK;have x0:((w.alloc (.cells #[.int .u8 (op:Int),.string key,.int .u16 (seq:Int),.int .i16 val] 41)).alloc (.cells #[.int .i32 0,.int .i64 0,.int .i16 0] 158)).cell? ⟨w.heap.size,0,none⟩=some (.int .u8 (op:Int)):=Qaa heb 0;have x1:((w.alloc (.cells #[.int .u8 (op:Int),.string key,.int .u16 (seq:Int),.int .i16 val] 41)).alloc (.cells #[.int .i32 0,.int .i64 0,.int .i16 0] 158)).cell? ⟨w.heap.size,1,none⟩=some (.string key):=Qaa heb 1;have x2:((w.alloc (.cells #[.int .u8 (op:Int),.string key,.int .u16 (seq:Int),.int .i16 val] 41)).alloc (.cells #[.int .i32 0,.int .i64 0,.int .i16 0] 158)).cell? ⟨w.heap.size,2,none⟩=some (.int .u16 (seq:Int)):=Qaa heb 2;have x3:((w.alloc (.cells #[.int .u8 (op:Int),.string key,.int .u16 (seq:Int),.int .i16 val] 41)).alloc (.cells #[.int .i32 0,.int .i64 0,.int .i16 0] 158)).cell? ⟨w.heap.size,3,none⟩=some (.int .i16 val):=Qaa heb 3;unfold Ev.value at HC;unfold Ev.value;go_enter Tryz.func90,Tryz.ntmps90
 go_wp2_with fail
 generalize((w.alloc (.cells #[.int .u8 (op:Int),.string key,.int .u16 (seq:Int),.int .i16 val] 41)).alloc (.cells #[.int .i32 0,.int .i64 0,.int .i16 0] 158))=w1 at HK hcb heb ⊢;refine(HC.out w1 HK.out.1).mono ?_;rintro en w2 ⟨rfl,hb2⟩;have hcb2:w2.heap[w.heap.size+1]? =some (.cells #[.int .i32 0,.int .i64 0,.int .i16 0] 158 (0,0)):=(hb2.block _ (Qac hcb)).trans hcb;have heb2:w2.heap[w.heap.size]? =some (.cells #[.int .u8 (op:Int),.string key,.int .u16 (seq:Int),.int .i16 val] 41 (0,0)):=(hb2.block _ (Qac heb)).trans heb
 have HK2:=show Hid (_/\_)from And.intro (HK.out.1.old hb2) (HK.out.2.trans (hb2.mono HK.out.2.size))
 clear HK hcb heb hb2 HC;have d0:w2.cell? ⟨w.heap.size+1,0,none⟩=some (.int .i32 0):=Qaa hcb2 0;have d1:w2.cell? ⟨w.heap.size+1,1,none⟩=some (.int .i64 0):=Qaa hcb2 1;have d2:w2.cell? ⟨w.heap.size+1,2,none⟩=some (.int .i16 0):=Qaa hcb2 2;have z0:w2.frozen? ⟨w.heap.size+1,0,none⟩=false:=Qab hcb2 0;have z1:w2.frozen? ⟨w.heap.size+1,1,none⟩=false:=Qab hcb2 1;have z2:w2.frozen? ⟨w.heap.size+1,2,none⟩=false:=Qab hcb2 2;go_wp2;have hg:=Qag (j:=2) (Qag (j:=1) (Qag (W:=w2) (j:=0) hcb2 (.int .i32 0)) (.int .i64 0)) (.int .i16 0);have hg':_=some (Obj.cells #[.int .i32 0,.int .i64 0,.int .i16 0] 158 (0,0)):=hg;refine bodyPost_ret (QaT (p:=4) (u:=5) (ty:=158) rfl _ _ (w.heap.size+1) 158 #[.int .i32 0,.int .i64 0,.int .i16 0] (0,0) _ rfl hg' Tryz.underlying158 rfl krQ) rfl ⟨rfl,?_⟩;exact((HK2.out.2.setCell (p:=⟨w.heap.size+1,0,none⟩) (by simp) _).setCell (p:=⟨w.heap.size+1,1,none⟩) (by simp) _).setCell (p:=⟨w.heap.size+1,2,none⟩) (by simp) _
def oldE(rs:List EV)(key:ByteArray):EV:=(rs[plcE rs key]?).getD ⟨key,0,0,0⟩
def putE(rs:List EV)(key:ByteArray)(x:EV):List EV:=if plcE rs key<rs.length then rs.set (plcE rs key) x else rs++[x]
theorem QlS(B kb o:Nat)(t:TypeId)(cs:Array Value)(a:Option Addr)(c:Nat)(rs:List EV)(e:Ev)(w:World)(hB:B<=w.heap.size)(hlen:rs.length<=1000)(hK:KAt B kb o t cs a c rs w)(hcnt:cntE rs e=true)(hk1:0<e.key.size)(hk2:e.key.size<=1000)(hol:0<=(oldE rs e.key).live/\(oldE rs e.key).live<=1):
  Calls Tryz.prog 90 #[.pointer (some ⟨kb,o,none⟩),e.value] w λen w'=>en=.returned (.tuple #[chgV (Utf8.decode e.key 0).1 ((madeE e).live-(oldE rs e.key).live) (wrap16 ((madeE e).value-(oldE rs e.key).value)),.bool true])/\∃a' c',KUpd B kb o t cs a c rs w a' c' (putE rs e.key (madeE e)) w':=by
 obtain⟨op,key,seq,val⟩:=e
 have HC:=show Hid _ from λ(w:World) (h:KAt B kb o t cs a c rs w)=>Qdb B kb o t cs a c rs ⟨op,key,seq,val⟩ w hlen h
 rw[hcnt]at HC;clear hcnt
 have heb:((w.alloc (.cells #[.int .u8 (op:Int),.string key,.int .u16 (seq:Int),.int .i16 val] 41)).alloc (.cells #[.int .i32 0,.int .i64 0,.int .i16 0] 158)).heap[w.heap.size]? =some (.cells #[.int .u8 (op:Int),.string key,.int .u16 (seq:Int),.int .i16 val] 41 (0,0)):=by
  rw[Below.heap_alloc _ _ _ (by simp)];exact heap_alloc_new w _
 have hcb:=heap_alloc_new (w.alloc (.cells #[.int .u8 (op:Int),.string key,.int .u16 (seq:Int),.int .i16 val] 41)) (.cells #[.int .i32 0,.int .i64 0,.int .i16 0] 158);rw[World.size_alloc]at hcb
 have HK:=show Hid (_/\_)from And.intro ((hK.alloc (.cells #[.int .u8 (op:Int),.string key,.int .u16 (seq:Int),.int .i16 val] 41)).alloc (.cells #[.int .i32 0,.int .i64 0,.int .i16 0] 158)) (((Below.refl w.heap.size w).alloc (Nat.le_refl _) (.cells #[.int .u8 (op:Int),.string key,.int .u16 (seq:Int),.int .i16 val] 41)).alloc (by simp) (.cells #[.int .i32 0,.int .i64 0,.int .i16 0] 158))
 have hkl:=hK.bl
 have hgl:∀g,(Value.slice a rs.length c).ownBlock=some g->g<w.heap.size:=λg hg=>(Qah hK.own g hg).2
 clear hK;simp only at hk1 hk2 hol;obtain⟨i0,hi,hz0,hz1,hz2⟩:=info_parts Tryz.infoEnt
 have hM:=show Hid _ from λw=>QlL ⟨op,key,seq,val⟩ w
 have hG:=show Hid _ from λw=>QfU key w hk1 hk2
 have hml0:0<=(madeE ⟨op,key,seq,val⟩).live/\(madeE ⟨op,key,seq,val⟩).live<=1:=by
  unfold madeE;simp only
  split<;>omega
 unfold EV.val' Ev.value at hM
 have HP:=show Hid _ from λ(w:World) (hb:w.cell? ⟨kb,o,none⟩=some (.slice a rs.length c)) (ho:w.ownsRow B 184 4 (.slice a rs.length c) rs.length (entCells rs))=>Qff kb o a c rs key B w hlen hb ho
 generalize madeE ⟨op,key,seq,val⟩=md at hM hml0 ⊢;obtain⟨mn,ms,ml,mv⟩:=md
 obtain⟨oe,hoe⟩:∃oe,oldE rs key=oe:=⟨_,rfl⟩
 simp only[hoe]at hol ⊢;obtain⟨on,os,ol,ov⟩:=oe;simp only at hol hml0 hM ⊢;have hle:=QiQ rs key
 have Hfin:Hid (∀ls:List EV,(plcE rs key<rs.length->ls=rs)->(¬plcE rs key<rs.length->ls=rs++[EV.mk key 0 0 0])->plcE rs key<ls.length/\(∀j,j<4->(entCells ls)[plcE rs key*4+j]? =(entCells1 ⟨on,os,ol,ov⟩)[j]?)/\ls.set (plcE rs key) ⟨mn,ms,ml,mv⟩=putE rs key ⟨mn,ms,ml,mv⟩):=by
  intro ls h1 h2;unfold oldE at hoe;unfold putE
  by_cases hm:plcE rs key<rs.length
  ·rw[h1 hm,if_pos hm];refine⟨hm,λj hj=>?_,rfl⟩;rw[Qbv rs _ hm j hj];rw[List.getElem?_eq_getElem hm]at hoe;simp only[Option.getD_some]at hoe;rw[hoe]
  ·rw[h2 hm,if_neg hm];have hm':plcE rs key=rs.length:=omQ;rw[List.getElem?_eq_none omQ]at hoe;simp only[Option.getD_none]at hoe;refine⟨by simp;omega,λj hj=>?_,by rw[hm'];simp⟩;rw[Qbv (rs++[EV.mk key 0 0 0]) _ (by simp;omega) j hj];congr 2;rw[<-hoe];simp[hm']
 generalize putE rs key ⟨mn,ms,ml,mv⟩=fin at Hfin ⊢;clear hoe
 obtain⟨m,hmm⟩:∃m,plcE rs key=m:=⟨_,rfl⟩
 rw[hmm]at Hfin HP hle;clear hmm;generalize(Utf8.decode key 0).1=pt at hG;have x0:((w.alloc (.cells #[.int .u8 (op:Int),.string key,.int .u16 (seq:Int),.int .i16 val] 41)).alloc (.cells #[.int .i32 0,.int .i64 0,.int .i16 0] 158)).cell? ⟨w.heap.size,0,none⟩=some (.int .u8 (op:Int)):=Qaa heb 0;have x1:((w.alloc (.cells #[.int .u8 (op:Int),.string key,.int .u16 (seq:Int),.int .i16 val] 41)).alloc (.cells #[.int .i32 0,.int .i64 0,.int .i16 0] 158)).cell? ⟨w.heap.size,1,none⟩=some (.string key):=Qaa heb 1;have x2:((w.alloc (.cells #[.int .u8 (op:Int),.string key,.int .u16 (seq:Int),.int .i16 val] 41)).alloc (.cells #[.int .i32 0,.int .i64 0,.int .i16 0] 158)).cell? ⟨w.heap.size,2,none⟩=some (.int .u16 (seq:Int)):=Qaa heb 2;have x3:((w.alloc (.cells #[.int .u8 (op:Int),.string key,.int .u16 (seq:Int),.int .i16 val] 41)).alloc (.cells #[.int .i32 0,.int .i64 0,.int .i16 0] 158)).cell? ⟨w.heap.size,3,none⟩=some (.int .i16 val):=Qaa heb 3;unfold Ev.value at HC;unfold Ev.value;go_enter Tryz.func90,Tryz.ntmps90
 go_wp2_with fail
 generalize((w.alloc (.cells #[.int .u8 (op:Int),.string key,.int .u16 (seq:Int),.int .i16 val] 41)).alloc (.cells #[.int .i32 0,.int .i64 0,.int .i16 0] 158))=w1 at HK hcb heb ⊢;refine(HC.out w1 HK.out.1).mono ?_;rintro en w2 ⟨rfl,hb2⟩;have hcb2:w2.heap[w.heap.size+1]? =some (.cells #[.int .i32 0,.int .i64 0,.int .i16 0] 158 (0,0)):=(hb2.block _ (Qac hcb)).trans hcb;have heb2:w2.heap[w.heap.size]? =some (.cells #[.int .u8 (op:Int),.string key,.int .u16 (seq:Int),.int .i16 val] 41 (0,0)):=(hb2.block _ (Qac heb)).trans heb
 have HK2:=show Hid (_/\_)from And.intro (HK.out.1.old hb2) (HK.out.2.trans (hb2.mono HK.out.2.size))
 clear HK hcb heb hb2 HC;clear x0 x1 x2 x3;have x1:w2.cell? ⟨w.heap.size,1,none⟩=some (.string key):=Qaa heb2 1
 go_wp2_with fail
 refine(HP.out w2 HK2.out.1.cell HK2.out.1.own).mono ?_;rintro en w3 ⟨rfl,rfl⟩;clear HP x1;have hkc:=HK2.out.1.cell
 have HU0:=show Hid _ from(Upd.refl HK2.out.1).from (FrmX.of_below HK2.out.2)
 have hslot:=HK2.out.1.slot
 by_cases hm:m<rs.length
 focus
  obtain⟨hml,hat,hset⟩:=Hfin.out rs (λ_=>rfl) (λh=>absurd hm h);have Hset:=hdQ hset
  obtain⟨a3,c3,ls,HU,hml,hat,Hset,hne,hgw⟩:∃(a3:Option Addr) (c3:Nat) (ls:List EV),Hid (KUpd B kb o t cs a c rs w a3 c3 ls w3)/\m<ls.length/\(∀j,j<4->(entCells ls)[m*4+j]? =(entCells1 ⟨on,os,ol,ov⟩)[j]?)/\Hid (ls.set m ⟨mn,ms,ml,mv⟩=fin)/\((m:Int)==(ls.length:Int))=false/\(∀g,(Value.slice a3 ls.length c3).ownBlock=some g->g≠w.heap.size/\g≠w.heap.size+1):=⟨a,c,rs,HU0,hml,hat,Hset,by rw[beq_eq_false_iff_ne];omega,λg hg=>by have:=hgl g hg;omega⟩
  have heb3:=heb2;have hcb3:=hcb2;clear hslot HU0 heb2 hcb2 HK2 hm Hfin hgl hkc hi hz0 hz1 hz2 hset
 rotate_left
 focus
  have hne:((m:Int)==(rs.length:Int))=true:=by rw[beq_iff_eq];omega
  obtain⟨hml,hat,hset⟩:=Hfin.out (rs++[EV.mk key 0 0 0]) (λh=>absurd h hm) (λ_=>rfl);have Hset:=hdQ hset;clear hset Hfin hm hle;go_wp2;clear hne
  have heb2':=show w3.drew.heap[w.heap.size]? =_ from heb2
  have hcb2':=show w3.drew.heap[w.heap.size+1]? =_ from hcb2
  have HK:=show Hid _ from HU0.out.drew
  have HKd:=show Hid _ from HK2.out.1.drew
  have hsz0:w.heap.size<=w3.heap.size:=HK2.out.2.size;clear heb2 hcb2 hkc HK2 HU0;refine wp_region_held_drew (S:=λw':World=>w'.heap[w.heap.size]? =some (.cells #[.int .u8 (op:Int),.string key,.int .u16 (seq:Int),.int .i16 val] 41 (0,0))) krQ heb2' (λhH=>?_);have hsz1:w.heap.size<=w3.drew.heap.size:=hsz0;clear hsz0;generalize w3.drew=wd at HK HKd heb2' hcb2' hH hsz1 ⊢;have hkc:=HKd.out.cell;have hkc2:=(HKd.out.alloc (.cells #[.string key,.int .u16 0,.int .i64 0,.int .i16 0] 184)).cell;have heb4:(wd.alloc (.cells #[.string key,.int .u16 0,.int .i64 0,.int .i16 0] 184)).heap[w.heap.size]? =some (.cells #[.int .u8 (op:Int),.string key,.int .u16 (seq:Int),.int .i16 val] 41 (0,0)):=(Below.heap_alloc _ _ _ (by have:=Qac heb2';omega)).trans heb2';have hcb4:(wd.alloc (.cells #[.string key,.int .u16 0,.int .i64 0,.int .i16 0] 184)).heap[w.heap.size+1]? =some (.cells #[.int .i32 0,.int .i64 0,.int .i16 0] 158 (0,0)):=(Below.heap_alloc _ _ _ (by have:=Qac hcb2';omega)).trans hcb2';refine tkQ 0 (.pointer (some ⟨kb,o,none⟩)) hH ?_;refine tkQ 1 (.pointer (some ⟨kb,o,none⟩)) hH ?_;refine tkQ 2 (.pointer (some ⟨kb,o,none⟩)) hH ?_;refine tkQ 3 (.pointer (some ⟨kb,o,none⟩)) hH ?_;refine tkQ 5 (.pointer (some ⟨w.heap.size,1,none⟩)) hH ?_;refine tlQ 6 (.string key) rfl (by intro v hSw;have s0:v.cell? ⟨w.heap.size,1,none⟩=some (.string key):=Qaa hSw 1;clear hSw;go_simp) hH ?_;refine tkQ 7 (.agg #[.string key,.int .u16 0,.int .i64 0,.int .i16 0]) hH ?_;refine rdQ [4,8] ?_;refine AllReadyH.cons rfl (λK hK=>?_) (arQ λK hK=>?_)
  focus
   clear hH;go_simp;refine hK.out _ _ heb2' (λhH=>?_);clear hK K;refine rdQ [8] ?_
   refine arQ λK hK=>?_
   clear hH;go_simp;refine hK.out _ _ heb4 (λhH=>?_);clear hK K
  rotate_left
  focus
   clear hH;go_simp;refine hK.out _ _ heb4 (λhH=>?_);clear hK K;refine rdQ [4] ?_
   refine arQ λK hK=>?_
   clear hH;go_simp;refine hK.out _ _ heb4 (λhH=>?_);clear hK K
  all_goals
   refine rdQ [9] ?_
   refine arQ λK hK=>?_
   refine QaM rfl ?_;refine Qau _ (.tmp 29) (.tmp 33) 116 rfl B 184 i0 (.agg #[.string ⟨#[]⟩,.int .u16 0,.int .i64 0,.int .i16 0]) 4 40 Tryz.underlying116 hi hz0 hz1 hz2 rfl (by decide) (.slice a rs.length c) rs.length (entCells rs) rfl (HKd.out.own.alloc _) ⟨wd.heap.size,0,none⟩ 1 1 (entCells1 ⟨key,0,0,0⟩) rfl rfl (by have:=QaC wd (.string key) (.int .u16 0) (.int .i64 0) (.int .i16 0) 184;simpa[entCells1]using this) (QhO _) (by unfold maxLen;omega) (by omega) (by simp;omega) (by decide) ?_;intro v3 w5 hown3 hfr3;obtain⟨a3,c3,rfl⟩:=Qaf hown3;have hgr:=Qat hfr3
   have HA:=show Hid (_/\_)from LAt.put_app (HKd.out.alloc (.cells #[.string key,.int .u16 0,.int .i64 0,.int .i16 0] 184)) hown3 rfl hfr3
   have HU':=show Hid _ from(HK.out.alloc (.cells #[.string key,.int .u16 0,.int .i64 0,.int .i16 0] 184))
   have hgw:∀g,(Value.slice a3 (rs.length+1) c3).ownBlock=some g->g≠w.heap.size/\g≠w.heap.size+1:=by
    intro g hg;have l1:=Qac hcb2'
    rcases hfr3 with h | h
    ·have h2:=h.2;rw[hg]at h2;simp only[World.size_alloc,Option.some.injEq]at h2;omega
    ·have h2:=h.2.1;rw[hg]at h2;have:=hgl g h2.symm;omega
   have heb5:w5.heap[w.heap.size]? =some (.cells #[.int .u8 (op:Int),.string key,.int .u16 (seq:Int),.int .i16 val] 41 (0,0)):=(hgr.block _ (Qac heb4) (λe=>by have:=hgl _ e.symm;omega)).trans heb4;have hcb5:w5.heap[w.heap.size+1]? =some (.cells #[.int .i32 0,.int .i64 0,.int .i16 0] 158 (0,0)):=(hgr.block _ (Qac hcb4) (λe=>by have:=hgl _ e.symm;omega)).trans hcb4;refine hK.out _ _ heb5 (λhH=>?_);clear hK K hown3 hfr3 hgr HK HKd heb2' hcb2' heb4 hcb4 hkc hkc2;refine tkQ 10 (.pointer (some ⟨kb,o,none⟩)) hH ?_;refine tkQ 11 (.pointer (some ⟨kb,o,none⟩)) hH ?_;refine rdQ [12] ?_
   refine arQ λK hK=>?_
   clear hH;have b0:w5.cell? ⟨kb,o,none⟩=cs[o]? :=Qaa HA.out.1 o;have b0':w5.cell? ⟨kb,o,none⟩=some (.slice a rs.length c):=b0.trans hslot;clear b0;have z0:w5.frozen? ⟨kb,o,none⟩=false:=Qab HA.out.1 o;go_simp;have heb3:=(Below.heap_setCell w5 ⟨kb,o,none⟩ (.slice a3 (rs.length+1) c3) w.heap.size (by simp only;omega)).trans heb5;have hcb3:=(Below.heap_setCell w5 ⟨kb,o,none⟩ (.slice a3 (rs.length+1) c3) (w.heap.size+1) (by simp only;omega)).trans hcb5;refine hK.out _ _ heb3 (λhH=>?_);clear hK K hH b0' z0 heb5 hcb5;refine wpAnyH_done krQ ?_ _
   have HUn:=show Hid _ from HA.out.2.from HU'.out.frm
   clear HA HU';generalize w5.setCell ⟨kb,o,none⟩ (.slice a3 (rs.length+1) c3)=w3 at HUn heb3 hcb3 ⊢
   obtain⟨ls,hls⟩:∃ls,rs++[EV.mk key 0 0 0]=ls:=⟨_,rfl⟩
   have hll:rs.length+1=ls.length:=by rw[<-hls];simp
   have hec:entCells rs++entCells1 ⟨key,0,0,0⟩=entCells ls:=by rw[<-hls,Qb3];simp[entCells]
   rw[hls]at hml hat Hset;rw[hll]at HUn hgw ⊢;rw[hec]at HUn
   have HU:=show Hid (KUpd B kb o t cs a c rs w a3 c3 ls w3)from HUn.out
   clear hslot HUn hls hll hec hgl hi hz0 hz1 hz2 hsz1
 all_goals
  rcases Qai HU.out.at'.own with⟨_,h0⟩ | ⟨g,rfl⟩
  ·omega
  have hgw:=hgw g rfl;have hgn:=HU.out.at'.gl.2;have hkc:w3.cell? ⟨kb,o,none⟩=some (.slice (some ⟨g,0,none⟩) ls.length c3):=HU.out.at'.cell;have q0:w3.cell? ⟨g,m*4,none⟩=some (.string on):=(HU.out.at'.at (m*4) omQ).trans (hat 0 (by decide));have q1:w3.cell? ⟨g,m*4+1,none⟩=some (.int .u16 (os:Int)):=(HU.out.at'.at (m*4+1) omQ).trans (hat 1 (by decide));have q2:w3.cell? ⟨g,m*4+2,none⟩=some (.int .i64 ol):=(HU.out.at'.at (m*4+2) omQ).trans (hat 2 (by decide));have q3:w3.cell? ⟨g,m*4+3,none⟩=some (.int .i16 ov):=(HU.out.at'.at (m*4+3) omQ).trans (hat 3 (by decide));have hmi:(m:Int)<(ls.length:Int):=omQ;have hm0:(0:Int)<=(m:Int):=omQ
  have HK4:=show Hid _ from HU.out.alloc (.cells #[.string on,.int .u16 (os:Int),.int .i64 ol,.int .i16 ov] 184)
  have hob:=heap_alloc_new w3 (.cells #[.string on,.int .u16 (os:Int),.int .i64 ol,.int .i16 ov] 184);have heb4:(w3.alloc (.cells #[.string on,.int .u16 (os:Int),.int .i64 ol,.int .i16 ov] 184)).heap[w.heap.size]? =some (.cells #[.int .u8 (op:Int),.string key,.int .u16 (seq:Int),.int .i16 val] 41 (0,0)):=(Below.heap_alloc _ _ _ (by have:=Qac heb3;omega)).trans heb3;have hcb4:(w3.alloc (.cells #[.string on,.int .u16 (os:Int),.int .i64 ol,.int .i16 ov] 184)).heap[w.heap.size+1]? =some (.cells #[.int .i32 0,.int .i64 0,.int .i16 0] 158 (0,0)):=(Below.heap_alloc _ _ _ (by have:=Qac hcb3;omega)).trans hcb3;have x0:(w3.alloc (.cells #[.string on,.int .u16 (os:Int),.int .i64 ol,.int .i16 ov] 184)).cell? ⟨w.heap.size,0,none⟩=some (.int .u8 (op:Int)):=Qaa heb4 0;have x1:(w3.alloc (.cells #[.string on,.int .u16 (os:Int),.int .i64 ol,.int .i16 ov] 184)).cell? ⟨w.heap.size,1,none⟩=some (.string key):=Qaa heb4 1;have x2:(w3.alloc (.cells #[.string on,.int .u16 (os:Int),.int .i64 ol,.int .i16 ov] 184)).cell? ⟨w.heap.size,2,none⟩=some (.int .u16 (seq:Int)):=Qaa heb4 2;have x3:(w3.alloc (.cells #[.string on,.int .u16 (os:Int),.int .i64 ol,.int .i16 ov] 184)).cell? ⟨w.heap.size,3,none⟩=some (.int .i16 val):=Qaa heb4 3;have hcbl:=Qac hcb3;clear HU heb3 hcb3 hat
  go_wp2_with fail
  clear hkc q0 q1 q2 q3 x0 x1 x2 x3;generalize(w3.alloc (.cells #[.string on,.int .u16 (os:Int),.int .i64 ol,.int .i16 ov] 184))=w4 at HK4 hob heb4 hcb4 ⊢;generalize w3.heap.size=ob at hob hgn hcbl ⊢;refine(hM.out _).mono ?_;rintro en w5 ⟨rfl,hb5⟩
  have HK5:=show Hid _ from(HK4.out.old hb5).alloc (.cells #[.string mn,.int .u16 (ms:Int),.int .i64 ml,.int .i16 mv] 184)
  have hsz:=hb5.size;have hol':=Qac hob;have hob5:(w5.alloc (.cells #[.string mn,.int .u16 (ms:Int),.int .i64 ml,.int .i16 mv] 184)).heap[ob]? =some (.cells #[.string on,.int .u16 (os:Int),.int .i64 ol,.int .i16 ov] 184 (0,0)):=(Below.heap_alloc _ _ _ omQ).trans ((hb5.block _ hol').trans hob);have heb5:(w5.alloc (.cells #[.string mn,.int .u16 (ms:Int),.int .i64 ml,.int .i16 mv] 184)).heap[w.heap.size]? =some (.cells #[.int .u8 (op:Int),.string key,.int .u16 (seq:Int),.int .i16 val] 41 (0,0)):=(Below.heap_alloc _ _ _ omQ).trans ((hb5.block _ omQ).trans heb4);have hcb5:(w5.alloc (.cells #[.string mn,.int .u16 (ms:Int),.int .i64 ml,.int .i16 mv] 184)).heap[w.heap.size+1]? =some (.cells #[.int .i32 0,.int .i64 0,.int .i16 0] 158 (0,0)):=(Below.heap_alloc _ _ _ omQ).trans ((hb5.block _ omQ).trans hcb4);have hnb5:=heap_alloc_new w5 (.cells #[.string mn,.int .u16 (ms:Int),.int .i64 ml,.int .i16 mv] 184);have hnl:ob<w5.heap.size:=omQ;clear HK4 hob heb4 hcb4 hb5 hM;go_wp2;generalize(w5.alloc (.cells #[.string mn,.int .u16 (ms:Int),.int .i64 ml,.int .i16 mv] 184))=w6 at HK5 hob5 heb5 hcb5 hnb5 ⊢;generalize w5.heap.size=nb at hnb5 hnl ⊢;clear hsz hol'
  have hS0:w6.drew.cell? ⟨kb,o,none⟩=some (.slice (some ⟨g,0,none⟩) ls.length c3)/\w6.drew.heap[nb]? =some (.cells #[.string mn,.int .u16 (ms:Int),.int .i64 ml,.int .i16 mv] 184 (0,0)):=⟨HK5.out.at'.cell,hnb5⟩
  have HK5':=show Hid _ from HK5.out.drew
  have hob5':=show w6.drew.heap[ob]? =_ from hob5
  have heb5':=show w6.drew.heap[w.heap.size]? =_ from heb5
  have hcb5':=show w6.drew.heap[w.heap.size+1]? =_ from hcb5
  have hnb5':=show w6.drew.heap[nb]? =_ from hnb5
  clear HK5 hob5 heb5 hcb5 hnb5;refine wp_region_held_drew (S:=λw':World=>w'.cell? ⟨kb,o,none⟩=some (.slice (some ⟨g,0,none⟩) ls.length c3)/\w'.heap[nb]? =some (.cells #[.string mn,.int .u16 (ms:Int),.int .i64 ml,.int .i16 mv] 184 (0,0))) krQ hS0 (λhH=>?_);generalize w6.drew=wd at HK5' hob5' heb5' hcb5' hnb5' hS0 hH ⊢
  have HF:=show Hid _ from KUpd.fill (w:=wd) HK5'.out m hml ⟨mn,ms,ml,mv⟩
  refine tkQ 0 (.pointer (some ⟨kb,o,none⟩)) hH ?_;refine tkQ 1 (.pointer (some ⟨kb,o,none⟩)) hH ?_;refine tkQ 2 (.pointer (some ⟨kb,o,none⟩)) hH ?_;refine tlQ 3 (.slice (some ⟨g,0,none⟩) ls.length c3) rfl (by intro v hSw;have s0:v.cell? ⟨kb,o,none⟩=some (.slice (some ⟨g,0,none⟩) ls.length c3):=hSw.1;clear hSw;go_simp) hH ?_;refine tkQ 4 (.int .i64 (m:Int)) hH ?_;refine tlQ 5 (.agg #[.string mn,.int .u16 (ms:Int),.int .i64 ml,.int .i16 mv]) rfl (by intro v hSw;have s0:v.cell? ⟨nb,0,none⟩=some (.string mn):=Qaa hSw.2 0;have s1:v.cell? ⟨nb,1,none⟩=some (.int .u16 (ms:Int)):=Qaa hSw.2 1;have s2:v.cell? ⟨nb,2,none⟩=some (.int .i64 ml):=Qaa hSw.2 2;have s3:v.cell? ⟨nb,3,none⟩=some (.int .i16 mv):=Qaa hSw.2 3;clear hSw;go_simp) hH ?_;refine tkQ 6 (.pointer (some ⟨g,m*4,none⟩)) hH ?_;refine rdQ [7] ?_
  refine arQ λK hK=>?_
  have c0:=HF.out.1.1;have c1:=HF.out.1.2.1;have c2:=HF.out.1.2.2.1;have c3':=HF.out.1.2.2.2;have z0:=HF.out.2.1.1;have z1:=HF.out.2.1.2.1;have z2:=HF.out.2.1.2.2.1;have z3:=HF.out.2.1.2.2.2;simp only at c0 c1 c2 c3' z0 z1 z2 z3;clear hH hS0;go_simp
  have HF2:=show Hid (_/\_)from HF.out.2.2
  simp only at HF2;clear HF c0 c1 c2 c3' z0 z1 z2 z3;have hob6:=(HF2.out.2.block ob (Qac hob5') (by simp only[ne_eq,Option.some.injEq];omega)).trans hob5';have heb6:=(HF2.out.2.block w.heap.size (Qac heb5') (by simp only[ne_eq,Option.some.injEq];omega)).trans heb5';have hcb6:=(HF2.out.2.block (w.heap.size+1) (Qac hcb5') (by simp only[ne_eq,Option.some.injEq];omega)).trans hcb5';have hnb6:=(HF2.out.2.block nb (Qac hnb5') (by simp only[ne_eq,Option.some.injEq];omega)).trans hnb5';have hkb6:=HF2.out.1.at'.cell;rw[List.length_set]at hkb6;refine hK.out _ _ ⟨hkb6,hnb6⟩ (λhH=>?_)
  have HK6:=show Hid _ from HF2.out.1
  rw[Hset.out]at HK6;clear hK K hH hkb6 HK5' hob5' heb5' hcb5' hnb5' HF2 Hset;refine wpAnyH_done krQ ?_ _;generalize((((wd.setCell ⟨g,m*4,none⟩ (.string mn)).setCell ⟨g,m*4+1,none⟩ (.int .u16 (ms:Int))).setCell ⟨g,m*4+2,none⟩ (.int .i64 ml)).setCell ⟨g,m*4+3,none⟩ (.int .i16 mv))=w7 at HK6 hob6 heb6 hcb6 hnb6 ⊢;clear w6 wd;go_wp2
  have hS1:w7.drew.heap[w.heap.size]? =some (.cells #[.int .u8 (op:Int),.string key,.int .u16 (seq:Int),.int .i16 val] 41 (0,0))/\w7.drew.heap[ob]? =some (.cells #[.string on,.int .u16 (os:Int),.int .i64 ol,.int .i16 ov] 184 (0,0))/\w7.drew.heap[nb]? =some (.cells #[.string mn,.int .u16 (ms:Int),.int .i64 ml,.int .i16 mv] 184 (0,0)):=⟨heb6,hob6,hnb6⟩
  have HK7:=show Hid (_/\_)from And.intro HK6.out.drew (show w7.drew.heap[w.heap.size+1]? =_ from hcb6)
  clear HK6 hcb6 heb6 hob6 hnb6;refine wp_region_held_drew (S:=λw':World=>w'.heap[w.heap.size]? =some (.cells #[.int .u8 (op:Int),.string key,.int .u16 (seq:Int),.int .i16 val] 41 (0,0))/\w'.heap[ob]? =some (.cells #[.string on,.int .u16 (os:Int),.int .i64 ol,.int .i16 ov] 184 (0,0))/\w'.heap[nb]? =some (.cells #[.string mn,.int .u16 (ms:Int),.int .i64 ml,.int .i16 mv] 184 (0,0))) krQ hS1 (λhH=>?_);refine tkQ 0 (.pointer (some ⟨w.heap.size,1,none⟩)) hH ?_;refine tlQ 1 (.string key) rfl (by intro v hSw;have s0:v.cell? ⟨w.heap.size,1,none⟩=some (.string key):=Qaa hSw.1 1;clear hSw;go_simp) hH ?_;refine tkQ 3 (.pointer (some ⟨nb,2,none⟩)) hH ?_;refine tlQ 4 (.int .i64 ml) rfl (by intro v hSw;have s0:v.cell? ⟨nb,2,none⟩=some (.int .i64 ml):=Qaa hSw.2.2 2;clear hSw;go_simp) hH ?_;refine tkQ 5 (.pointer (some ⟨ob,2,none⟩)) hH ?_;refine tlQ 6 (.int .i64 ol) rfl (by intro v hSw;have s0:v.cell? ⟨ob,2,none⟩=some (.int .i64 ol):=Qaa hSw.2.1 2;clear hSw;go_simp) hH ?_;refine tlQ 7 (.int .i64 (ml-ol)) rfl (by intro v hSw;clear hSw;go_simp;rw[IntWalk.i64_in _ ⟨by omega,by omega⟩]) hH ?_;refine tkQ 8 (.pointer (some ⟨nb,3,none⟩)) hH ?_;refine tlQ 9 (.int .i16 mv) rfl (by intro v hSw;have s0:v.cell? ⟨nb,3,none⟩=some (.int .i16 mv):=Qaa hSw.2.2 3;clear hSw;go_simp) hH ?_;refine tkQ 10 (.pointer (some ⟨ob,3,none⟩)) hH ?_;refine tlQ 11 (.int .i16 ov) rfl (by intro v hSw;have s0:v.cell? ⟨ob,3,none⟩=some (.int .i16 ov):=Qaa hSw.2.1 3;clear hSw;go_simp) hH ?_;refine tlQ 12 (.int .i16 (wrap16 (mv-ov))) rfl (by intro v hSw;clear hSw;go_simp;exact QeP _) hH ?_;refine rdQ [2] ?_
  refine arQ λK hK=>?_
  clear hH;go_simp
  go_wp2_with(go_at_call 116;refine(hG.out _).mono ?_;rintro en w8 ⟨rfl,hb8⟩)
  have h8a:=(hb8.block _ (Qac hS1.1)).trans hS1.1;have h8b:=(hb8.block _ (Qac hS1.2.1)).trans hS1.2.1;have h8c:=(hb8.block _ (Qac hS1.2.2)).trans hS1.2.2;have h8d:w8.heap[w.heap.size+1]? =some (.cells #[.int .i32 0,.int .i64 0,.int .i16 0] 158 (0,0)):=(hb8.block _ (Qac HK7.out.2)).trans HK7.out.2
  have HK8:=show Hid _ from HK7.out.1.old hb8
  refine hK.out _ _ ⟨h8a,h8b,h8c⟩ (λhH=>?_);clear hK K hb8 hS1 HK7 hG;refine tkQ 13 (.agg #[.int .i32 (pt:Int),.int .i64 (ml-ol),.int .i16 (wrap16 (mv-ov))]) hH ?_;refine rdQ [14] ?_
  refine arQ λK hK=>?_
  clear hH;have d0:w8.cell? ⟨w.heap.size+1,0,none⟩=some (.int .i32 0):=Qaa h8d 0;have d1:w8.cell? ⟨w.heap.size+1,1,none⟩=some (.int .i64 0):=Qaa h8d 1;have d2:w8.cell? ⟨w.heap.size+1,2,none⟩=some (.int .i16 0):=Qaa h8d 2;have z0:w8.frozen? ⟨w.heap.size+1,0,none⟩=false:=Qab h8d 0;have z1:w8.frozen? ⟨w.heap.size+1,1,none⟩=false:=Qab h8d 1;have z2:w8.frozen? ⟨w.heap.size+1,2,none⟩=false:=Qab h8d 2;go_simp;clear d0 d1 d2 z0 z1 z2;have hg:=Qag (j:=2) (Qag (j:=1) (Qag (j:=0) h8d (.int .i32 (pt:Int))) (.int .i64 (ml-ol))) (.int .i16 (wrap16 (mv-ov)));have hg':_=some (Obj.cells #[.int .i32 (pt:Int),.int .i64 (ml-ol),.int .i16 (wrap16 (mv-ov))] 158 (0,0)):=hg
  have hse:∀(j:Nat) (ob:Obj),w8.heap[j]? =some ob->j≠w.heap.size+1->(((w8.setCell ⟨w.heap.size+1,0,none⟩ (.int .i32 (pt:Int))).setCell ⟨w.heap.size+1,1,none⟩ (.int .i64 (ml-ol))).setCell ⟨w.heap.size+1,2,none⟩ (.int .i16 (wrap16 (mv-ov)))).heap[j]? =some ob:=by
   intro j ob h hj;rw[Below.heap_setCell _ _ _ _ hj,Below.heap_setCell _ _ _ _ hj,Below.heap_setCell _ _ _ _ hj];exact h
  refine hK.out _ _ ⟨hse _ _ h8a omQ,hse _ _ h8b omQ,hse _ _ h8c omQ⟩ (λhH=>?_);clear hK K hg hse;refine tkQ 15 (.bool true) hH ?_;clear hH h8a h8b h8c h8d;refine wpAnyH_done krQ ?_ _;go_wp2;refine bodyPost_ret (QaT (p:=4) (u:=5) (ty:=158) rfl _ _ (w.heap.size+1) 158 #[.int .i32 (pt:Int),.int .i64 (ml-ol),.int .i16 (wrap16 (mv-ov))] (0,0) _ rfl hg' Tryz.underlying158 rfl krQ) rfl ⟨rfl,?_⟩
  have hr:(Value.slice (some ⟨g,0,none⟩) fin.length c3).ownBlock≠some (w.heap.size+1):=λh=>by
   simp[Value.ownBlock]at h;omega
  exact⟨some ⟨g,0,none⟩,c3,((HK8.out.setNew omQ omQ hr 0 _).setNew omQ omQ hr 1 _).setNew omQ omQ hr 2 _⟩
theorem QgZ{B kb o:Nat}{t:TypeId}{cs:Array Value}{a:Option Addr}{c:Nat}{ks:List GX}{w0:World}{g c':Nat}{rs:List GX}{w:World}(h:GUpd B kb o t cs a c ks w0 (some ⟨g,0,none⟩) c' rs w)(n:Nat)(hn:n<rs.length)(x:GX)(w1 w2 w3 w4 w5:World)
  (e1:w1=w.setCell ⟨g,n*5,none⟩ (.int .i32 (x.v.pt:Int))) (e2:w2=w1.setCell ⟨g,n*5+1,none⟩ (.int .i64 x.v.live)) (e3:w3=w2.setCell ⟨g,n*5+2,none⟩ (.int .i16 x.v.sum)) (e4:w4=w3.setCell ⟨g,n*5+3,none⟩ (.int .u8 x.v.ev)) (e5:w5=w4.setCell ⟨g,n*5+4,none⟩ (.bool x.ch)):
  (w.cell? ⟨g,n*5,none⟩=some (.int .i32 (rs[n].v.pt:Int))/\w1.cell? ⟨g,n*5+1,none⟩=some (.int .i64 rs[n].v.live)/\w2.cell? ⟨g,n*5+2,none⟩=some (.int .i16 rs[n].v.sum)/\w3.cell? ⟨g,n*5+3,none⟩=some (.int .u8 rs[n].v.ev)/\w4.cell? ⟨g,n*5+4,none⟩=some (.bool rs[n].ch))/\
  (w.frozen? ⟨g,n*5,none⟩=false/\w1.frozen? ⟨g,n*5+1,none⟩=false/\w2.frozen? ⟨g,n*5+2,none⟩=false/\w3.frozen? ⟨g,n*5+3,none⟩=false/\w4.frozen? ⟨g,n*5+4,none⟩=false)/\
  GUpd B kb o t cs a c ks w0 (some ⟨g,0,none⟩) c' (rs.set n x) w5/\w.grownBy w5 (some g):=by
 subst e1 e2 e3 e4 e5;have r1:=Qch h n hn ⟨⟨x.v.pt,rs[n].v.live,rs[n].v.sum,rs[n].v.ev⟩,rs[n].ch⟩ 0 (.int .i32 (x.v.pt:Int)) (by decide) rfl;have r2:=Qch r1 n (by simpa using hn) ⟨⟨x.v.pt,x.v.live,rs[n].v.sum,rs[n].v.ev⟩,rs[n].ch⟩ 1 (.int .i64 x.v.live) (by decide) (by simp[gCells1]);have r3:=Qch r2 n (by simpa using hn) ⟨⟨x.v.pt,x.v.live,x.v.sum,rs[n].v.ev⟩,rs[n].ch⟩ 2 (.int .i16 x.v.sum) (by decide) (by simp[gCells1]);have r4:=Qch r3 n (by simpa using hn) ⟨⟨x.v.pt,x.v.live,x.v.sum,x.v.ev⟩,rs[n].ch⟩ 3 (.int .u8 x.v.ev) (by decide) (by simp[gCells1]);have r5:=Qch r4 n (by simpa using hn) x 4 (.bool x.ch) (by decide) (by simp[gCells1]);simp only[List.set_set]at r2 r3 r4 r5;have q0:=(Qa8 h.at' n hn).1;have q1:=(Qa8 r1.at' n (by simpa using hn)).2.1;have q2:=(Qa8 r2.at' n (by simpa using hn)).2.2.1;have q3:=(Qa8 r3.at' n (by simpa using hn)).2.2.2.1;have q4:=(Qa8 r4.at' n (by simpa using hn)).2.2.2.2;simp only[List.getElem_set_self]at q1 q2 q3 q4;exact⟨⟨q0,q1,q2,q3,q4⟩,⟨h.at'.frozenAt _,r1.at'.frozenAt _,r2.at'.frozenAt _,r3.at'.frozenAt _,r4.at'.frozenAt _⟩,r5,QaB (QaB (QaB (QaB (Qak _ g _ _) (Qak _ g _ _)) (Qak _ g _ _)) (Qak _ g _ _)) (Qak _ g _ _)⟩
theorem Tryz.infoGrp:(Tryz.prog.info? 176).map (λi=>(i.zero,i.size,i.bytes))=some (some (.agg #[.int .i32 0,.int .i64 0,.int .i16 0,.int .u8 0,.bool false]),5,24):=by kernel_rfl
theorem QfY(r:GX):∀u∈gCells1 r,u.oneCell'=true:=by
 intro u hu;simp[gCells1]at hu
 rcases hu with rfl | rfl | rfl | rfl | rfl<;>rfl
def shiftL(rs:List GX)(x:GX)(i:Nat):List GX:=(rs++[x]).take (i+1)++rs.drop i
theorem QaN(rs:List GX)(x:GX)(i:Nat)(h:i<=rs.length):(shiftL rs x i).length=rs.length+1:=by
 unfold shiftL;simp;omega
theorem Qjh(rs:List GX)(x:GX):shiftL rs x rs.length=rs++[x]:=by
 unfold shiftL;rw[List.drop_length,List.append_nil,List.take_of_length_le (by simp)]
theorem QbF(rs:List GX)(x:GX)(i k:Nat):(shiftL rs x i)[k]? =if k<=i then(rs++[x])[k]? else(if i<=rs.length then rs[k-1]? else(shiftL rs x i)[k]?):=by
 by_cases hk:k<=i
 ·rw[if_pos hk];unfold shiftL
  by_cases hl:k<(rs++[x]).length
  ·rw[List.getElem?_append_left (by rw[List.length_take];omega),List.getElem?_take,if_pos omQ]
  ·rw[List.getElem?_eq_none (by rw[List.length_append,List.length_take,List.length_drop];simp at hl ⊢;omega),List.getElem?_eq_none omQ]
 ·rw[if_neg hk];split
  ·rename_i hi
   unfold shiftL
   have hl:((rs++[x]).take (i+1)).length=i+1:=by simp;omega
   rw[List.getElem?_append_right omQ,hl,List.getElem?_drop];congr 1;omega
  ·rfl
theorem QhP(rs:List GX)(x:GX)(k:Nat)(h:k+1<=rs.length)(hk:k<(shiftL rs x (k+1)).length):(shiftL rs x (k+1)).set (k+1) ((shiftL rs x (k+1))[k])=shiftL rs x k:=by
 have hrk:(shiftL rs x (k+1))[k]? =rs[k]? :=by
  rw[QbF,if_pos omQ,List.getElem?_append_left omQ]
 rw[List.getElem?_eq_getElem hk]at hrk;apply List.ext_getElem?;intro j;rw[List.getElem?_set,QaN _ _ _ h];split
 ·rename_i e
  subst e;rw[if_pos omQ,hrk,QbF,if_neg omQ,if_pos omQ]
  rfl
 ·rename_i e
  rw[QbF rs x (k+1) j,QbF rs x k j]
  by_cases c:j<=k
  ·rw[if_pos omQ,if_pos c]
  ·rw[if_neg omQ,if_neg c,if_pos omQ,if_pos omQ]
theorem QhQ(rs:List GX)(x:GX)(k:Nat)(h:k+1<=rs.length):(shiftL rs x k)[k]'(by rw[QaN _ _ _ omQ];omega)=(shiftL rs x (k+1))[k]'(by rw[QaN _ _ _ h];omega):=by
 have h1:(shiftL rs x k)[k]? =(shiftL rs x (k+1))[k]? :=by rw[QbF rs x k k,QbF rs x (k+1) k,if_pos omQ,if_pos omQ]
 rw[List.getElem?_eq_getElem (by rw[QaN _ _ _ omQ];omega),List.getElem?_eq_getElem (by rw[QaN _ _ _ h];omega)]at h1;exact Option.some.inj h1
theorem Qji(rs:List GX)(x:GX)(n:Nat)(h:n<=rs.length):(shiftL rs x n).set n x=rs.take n++x :: rs.drop n:=by
 apply List.ext_getElem?;intro j;rw[List.getElem?_set,QaN _ _ _ h]
 have hl:(rs.take n).length=n:=by simp;omega
 split
 ·rename_i e
  subst e;rw[if_pos omQ,List.getElem?_append_right omQ,hl];simp
 ·rename_i e
  rw[QbF]
  by_cases c:j<=n
  ·rw[if_pos c,List.getElem?_append_left omQ,List.getElem?_append_left omQ,List.getElem?_take,if_pos omQ]
  ·rw[if_neg c,if_pos h,List.getElem?_append_right omQ,hl]
   obtain⟨d,hd⟩:∃d,j-n=d+1:=⟨j-n-1,by omega⟩
   rw[hd,List.getElem?_cons_succ,List.getElem?_drop];congr 1;omega
end
end Go.Proofs.YthccpacmklhejaaGreatDoor
