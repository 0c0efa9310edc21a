import Derived.Test.YthccpacmklhejabGreatDoorTk
import Derived.Test.YthccpacmklhejabGreatDoorK19
import Derived.Test.YthccpacmklhejabGreatDoorK08
set_option maxHeartbeats 4000000
set_option maxRecDepth 100000
namespace Go.Proofs.YthccpacmklhejabGreatDoor
section
open Go.RowKit
section
variable {F:Fx} {X:Nat->Prop} {w:World} {m:CM}
theorem Qh2(s:ByteArray)(pos:Nat):(Utf8.decode s pos).1<=4000000:=by
 have b0:=(s.get! pos).toNat_lt;have b1:=(s.get! (pos+1)).toNat_lt;have b2:=(s.get! (pos+2)).toNat_lt;have b3:=(s.get! (pos+3)).toNat_lt;unfold Utf8.decode;dsimp only
 repeat' split
 all_goals simp_all[Utf8.runeError]
 all_goals omega
theorem Qcr(n:Nat)(h:n<4294967296):IntKind.u32.wrap (n:Int)=(n:Int):=by
 rw[QdO];omega
theorem csorterOf(h:CLX F X w m)(key:ByteArray)(hs:key.size<=1000):Calls Tryz.prog 91 #[.pointer (some ⟨F.jb,0,none⟩),.string key] w λen w'=>en=.returned (.int .i64 ((hashS key % m.W:Nat):Int))/\∃q,w'=w.drewN q:=by
 obtain⟨v3,v4,v5,_,_,c2,_⟩:=h.jobCells;obtain⟨w1,w4⟩:=h.w4
 have HH:=show Hid _ from λ(w:World)=>QkM key w hs
 have hlt:hashS key<4294967296:=Qg1 _ _ (by decide);clear h;generalize hashS key=hh at HH hlt ⊢;have u1:IntKind.u32.wrap (m.W:Int)=(m.W:Int):=Qcr m.W omQ;have u2:(hh:Int).tmod (m.W:Int)=((hh % m.W:Nat):Int):=rfl;have hml:hh % m.W<m.W:=Nat.mod_lt _ omQ
 have u3:((m.W:Int)==0)=false:=by rw[beq_eq_false_iff_ne];omega
 have u4:IntKind.u32.wrap ((hh % m.W:Nat):Int)=((hh % m.W:Nat):Int):=Qcr _ omQ;have u5:IntKind.i64.wrap ((hh % m.W:Nat):Int)=((hh % m.W:Nat):Int):=IntWalk.i64_in _ ⟨by omega,by omega⟩;generalize hh % m.W=r at u2 u4 u5 hml ⊢;go_enter Tryz.func91,Tryz.ntmps91;go_wp2
 go_quiet (first | (go_at_call 115;refine Calls.quiet_of (HH.out _)))
 go_wp2;go_ret;exact⟨rfl,_,rfl⟩
theorem cadderOf(h:CLX F X w m)(key:ByteArray)(h0:0<key.size)(hs:key.size<=1000)(hv:validB key=true):Calls Tryz.prog 98 #[.pointer (some ⟨F.jb,0,none⟩),.string key] w λen w'=>en=.returned (.int .i64 (((grp key).1 % m.W:Nat):Int))/\Below w.heap.size w w':=by
 obtain⟨v3,v4,v5,_,_,_,c3,_⟩:=h.jobCells;obtain⟨w1,w4⟩:=h.w4;have hjl:=h.rows.1
 have HG:=show Hid _ from λ(w:World)=>QfU key w h0 hs
 have hgp:(grp key).1<4294967296:=by
  have:=QdH hv;have h2:=Qh2 key 0;omega
 rw[QdH hv]at HG;clear h;generalize(grp key).1=gp at HG hgp ⊢;have u0:IntKind.u32.wrap (gp:Int)=(gp:Int):=Qcr gp omQ;have u1:IntKind.u32.wrap (m.W:Int)=(m.W:Int):=Qcr m.W omQ;have u2:(gp:Int).tmod (m.W:Int)=((gp % m.W:Nat):Int):=rfl;have hml:gp % m.W<m.W:=Nat.mod_lt _ omQ
 have u3:((m.W:Int)==0)=false:=by rw[beq_eq_false_iff_ne];omega
 have u4:IntKind.u32.wrap ((gp % m.W:Nat):Int)=((gp % m.W:Nat):Int):=Qcr _ omQ;have u5:IntKind.i64.wrap ((gp % m.W:Nat):Int)=((gp % m.W:Nat):Int):=IntWalk.i64_in _ ⟨by omega,by omega⟩;generalize gp % m.W=r at u2 u4 u5 hml ⊢
 have HB:=show Hid (Below w.heap.size w w.drew)from(Below.refl _ _).drew
 go_enter Tryz.func98,Tryz.ntmps98;go_wp2;have c3':w.drew.cell? ⟨F.jb,3,none⟩=_:=c3;refine wp_region_held_drew (S:=λw':World=>w'.cell? ⟨F.jb,3,none⟩=some (.slice (some ⟨F.ab,0,none⟩) m.W F.cA)) krQ c3' (λhH=>?_);refine tkQ 0 (.string key) hH ?_;refine tkQ 3 (.pointer (some ⟨F.jb,0,none⟩)) hH ?_;refine tkQ 4 (.pointer (some ⟨F.jb,0,none⟩)) hH ?_;refine tkQ 5 (.pointer (some ⟨F.jb,3,none⟩)) hH ?_;refine tlQ 6 (.slice (some ⟨F.ab,0,none⟩) m.W F.cA) rfl (by intro v hSw;have s0:v.cell? ⟨F.jb,3,none⟩=some (.slice (some ⟨F.ab,0,none⟩) m.W F.cA):=hSw;clear hSw;go_simp) hH ?_;refine tkQ 7 (.int .i64 (m.W:Int)) hH ?_;refine tkQ 8 (.int .u32 (m.W:Int)) hH ?_;refine rdQ [1] ?_
 refine arQ λK hK=>?_
 clear hH;go_simp
 go_wp2_with(go_at_call 113;refine(HG.out _).mono ?_;rintro en w2 ⟨rfl,hbw2⟩)
 refine hK.out _ _ ((hbw2.cell (p:=⟨F.jb,3,none⟩) hjl).trans c3') (λhH=>?_);clear hK K;refine tkQ 2 (.int .u32 (gp:Int)) hH ?_;refine tlQ 9 (.int .u32 (r:Int)) rfl (by intro v hSw;clear hSw;go_simp;omega) hH ?_;refine tkQ 10 (.int .i64 (r:Int)) hH ?_;refine tkQ 11 (.int .i64 (r:Int)) hH ?_;refine wpAnyH_done krQ ?_ _;go_wp2;go_ret;exact⟨rfl,HB.out.trans hbw2⟩
theorem Qgk(h:CLX F X w m)(hb:m.state≠0):Calls Tryz.prog 49 #[.pointer (some ⟨F.jb,0,none⟩)] w λen w'=>en=.returned (.tuple #[.int .i64 0,.int .i64 10])/\w'=w:=by
 obtain⟨v3,v4,v5,_,_,_,_,c4,_⟩:=h.jobCells;clear h
 have e:((m.state:Int) !=0)=true:=by simp;omega
 go_enter Tryz.func49,Tryz.ntmps49;go_wp2
 go_ret2
 exact⟨rfl,rfl⟩
theorem Qgl(h:CLX F X w m)(hb:m.state=0)(hl:m.last<4611686018427387904):Calls Tryz.prog 49 #[.pointer (some ⟨F.jb,0,none⟩)] w λen w'=>en=.returned (.tuple #[.int .i64 ((m.last+1:Nat):Int),.int .i64 0])/\Aft F X w {m with state:=1,last:=m.last+1} w':=by
 have H1:=show Hid _ from h.setJob 4 (.int .i64 1) m.sent 1 m.off m.laid m.last m.offset (by decide) (λ_ _ _ _ _=>rfl)
 obtain⟨v3,v4,v5,_,_,_,_,c4,_,_,_,c8,_⟩:=h.jobCells;have z4:=h.jobFrozen 4 (by decide);have z8:=h.jobFrozen 8 (by decide);rw[hb]at c4
 have e:((0:Int) !=0)=false:=by simp
 have HE:=show Hid (Aft F X w {m with state:=1,last:=m.last+1} ((w.setCell ⟨F.jb,4,none⟩ (.int .i64 1)).setCell ⟨F.jb,8,none⟩ (.int .i64 ((m.last:Int)+1))))from by
  obtain⟨X1,k1,k2,k3⟩:=H1.out
  exact Aft.then k2 k3 (k1.setJob 8 (.int .i64 ((m.last:Int)+1)) m.sent 1 m.off m.laid (m.last+1) m.offset (by decide) (λ_ _ _ _ _=>rfl))
 clear h H1;go_enter Tryz.func49,Tryz.ntmps49;go_wp2
 go_ret2
 exact⟨rfl,HE.out⟩
theorem cview(h:CLX F X w m)(ht:Tab w)(hlen:m.view.length<=1000)(hb:∀r∈m.view,GB r.v):Calls Tryz.prog 54 #[.pointer (some ⟨F.jb,0,none⟩)] w λen w'=>en=.returned (.string ⟨(m.view.flatMap xText).toArray⟩)/\Below w.heap.size w w':=by
 obtain⟨cs,a,cp,hG,_⟩:=h.vw
 have HT:=show Hid _ from λ(_:Unit)=>QfZ 0 F.jb 9 _ cs a cp m.view w hlen hG ht hb
 clear hG h hlen hb ht;generalize(⟨(m.view.flatMap xText).toArray⟩:ByteArray)=T at HT ⊢;go_enter Tryz.func54,Tryz.ntmps54
 go_wp2_with(go_at_call 80;refine(HT.out ()).mono ?_;rintro en w2 ⟨rfl,hb2⟩)
 go_ret;exact⟨rfl,hb2⟩
end
end
section
open Go.RowKit
section
variable {F:Fx} {X:Nat->Prop} {w:World} {m:CM}
theorem sLen(h:CLX F X w m)(i:Nat)(hi:i<m.W):Calls Tryz.prog 102 #[.pointer (some ⟨F.sb,i*3,none⟩)] w λen w'=>en=.returned (.int .i64 ((m.sp i).length:Int))/\w'=w:=by
 obtain⟨cs,a,cp,hP,_⟩:=h.spipe i hi;exact QgX F.sb (i*3) a _ cp w hP.cell
theorem aLen(h:CLX F X w m)(k i:Nat)(hk:k<m.W)(hi:i<m.W):Calls Tryz.prog 102 #[.pointer (some ⟨F.ib k,i*3,none⟩)] w λen w'=>en=.returned (.int .i64 ((m.ap k i).length:Int))/\w'=w:=by
 obtain⟨cs,a,cp,hP,_⟩:=h.apipe k i hk hi;exact QgX (F.ib k) (i*3) a _ cp w hP.cell
theorem sFull(h:CLX F X w m)(i:Nat)(hi:i<m.W):Calls Tryz.prog 92 #[.pointer (some ⟨F.sb,i*3,none⟩)] w λen w'=>en=.returned (.bool (decide (m.R<=(m.sp i).length)))/\∃q,w'=w.drewN q:=by
 obtain⟨cs,a,cp,hP,_⟩:=h.spipe i hi;exact QfV F.sb (i*3) a _ cp m.R w hP.cell (h.sorterCells i hi).1
theorem aFull(h:CLX F X w m)(k i:Nat)(hk:k<m.W)(hi:i<m.W):Calls Tryz.prog 92 #[.pointer (some ⟨F.ib k,i*3,none⟩)] w λen w'=>en=.returned (.bool (decide (m.R<=(m.ap k i).length)))/\∃q,w'=w.drewN q:=by
 obtain⟨cs,a,cp,hP,_⟩:=h.apipe k i hk hi;exact QfV (F.ib k) (i*3) a _ cp m.R w hP.cell (h.inletCells k i hk hi).1
theorem sSend(h:CLX F X w m)(i:Nat)(hi:i<m.W)(x:ItemV)(hl:(m.sp i).length<=1000):Calls Tryz.prog 93 #[.pointer (some ⟨F.sb,i*3,none⟩),itV x] w λen w'=>en=.returned (.tuple #[])/\Aft F X w {m with sp:=updF m.sp i (m.sp i++[x])} w':=by
 obtain⟨cs,a,cp,hP,hU⟩:=h.spipe i hi
 exact(QfW 0 F.sb (i*3) _ cs a cp (m.sp i) x w (Nat.zero_le _) hl hP).mono λen w' ⟨h1,a',c',h2⟩=>⟨h1,hU w' a' c' _ h2⟩
theorem aSend(h:CLX F X w m)(k i:Nat)(hk:k<m.W)(hi:i<m.W)(x:ItemV)(hl:(m.ap k i).length<=1000):Calls Tryz.prog 93 #[.pointer (some ⟨F.ib k,i*3,none⟩),itV x] w λen w'=>en=.returned (.tuple #[])/\Aft F X w {m with ap:=updF2 m.ap k i (m.ap k i++[x])} w':=by
 obtain⟨cs,a,cp,hP,hU⟩:=h.apipe k i hk hi
 exact(QfW 0 (F.ib k) (i*3) _ cs a cp (m.ap k i) x w (Nat.zero_le _) hl hP).mono λen w' ⟨h1,a',c',h2⟩=>⟨h1,hU w' a' c' _ h2⟩
theorem Qh3(h:CLX F X w m)(i:Nat)(hi:i<m.W)(he:m.sp i=[]):Calls Tryz.prog 94 #[.pointer (some ⟨F.sb,i*3,none⟩)] w λen w'=>en=.returned (.tuple #[itZ,.bool false])/\Below w.heap.size w w':=by
 obtain⟨cs,a,cp,hP,_⟩:=h.spipe i hi;rw[he]at hP;exact Qes F.sb (i*3) a cp w hP.cell hP.bl
theorem Qh4(h:CLX F X w m)(k i:Nat)(hk:k<m.W)(hi:i<m.W)(he:m.ap k i=[]):Calls Tryz.prog 94 #[.pointer (some ⟨F.ib k,i*3,none⟩)] w λen w'=>en=.returned (.tuple #[itZ,.bool false])/\Below w.heap.size w w':=by
 obtain⟨cs,a,cp,hP,_⟩:=h.apipe k i hk hi;rw[he]at hP;exact Qes (F.ib k) (i*3) a cp w hP.cell hP.bl
theorem QeA(h:CLX F X w m)(i:Nat)(hi:i<m.W){x:ItemV}{rs:List ItemV}(he:m.sp i=x :: rs)(hl:rs.length<=1000):Calls Tryz.prog 94 #[.pointer (some ⟨F.sb,i*3,none⟩)] w λen w'=>en=.returned (.tuple #[itV x,.bool true])/\Below w.heap.size w w':=by
 obtain⟨cs,a,cp,hP,_⟩:=h.spipe i hi;rw[he]at hP;exact Qet 0 F.sb (i*3) _ cs a cp x rs w hP hl
theorem Qdg(h:CLX F X w m)(k i:Nat)(hk:k<m.W)(hi:i<m.W){x:ItemV}{rs:List ItemV}(he:m.ap k i=x :: rs)(hl:rs.length<=1000):Calls Tryz.prog 94 #[.pointer (some ⟨F.ib k,i*3,none⟩)] w λen w'=>en=.returned (.tuple #[itV x,.bool true])/\Below w.heap.size w w':=by
 obtain⟨cs,a,cp,hP,_⟩:=h.apipe k i hk hi;rw[he]at hP;exact Qet 0 (F.ib k) (i*3) _ cs a cp x rs w hP hl
theorem sTake(h:CLX F X w m)(i:Nat)(hi:i<m.W){x:ItemV}{rs:List ItemV}(he:m.sp i=x :: rs)(hl:rs.length<=1000):Calls Tryz.prog 97 #[.pointer (some ⟨F.sb,i*3,none⟩)] w λen w'=>en=.returned (.tuple #[])/\Aft F X w {m with sp:=updF m.sp i rs} w':=by
 obtain⟨cs,a,cp,hP,hU⟩:=h.spipe i hi;rw[he]at hP hU
 exact(QfX 0 F.sb (i*3) _ cs a cp x rs w hl hP).mono λen w' ⟨h1,a',c',h2⟩=>⟨h1,hU w' a' c' _ h2⟩
theorem aTake(h:CLX F X w m)(k i:Nat)(hk:k<m.W)(hi:i<m.W){x:ItemV}{rs:List ItemV}(he:m.ap k i=x :: rs)(hl:rs.length<=1000):Calls Tryz.prog 97 #[.pointer (some ⟨F.ib k,i*3,none⟩)] w λen w'=>en=.returned (.tuple #[])/\Aft F X w {m with ap:=updF2 m.ap k i rs} w':=by
 obtain⟨cs,a,cp,hP,hU⟩:=h.apipe k i hk hi;rw[he]at hP hU
 exact(QfX 0 (F.ib k) (i*3) _ cs a cp x rs w hl hP).mono λen w' ⟨h1,a',c',h2⟩=>⟨h1,hU w' a' c' _ h2⟩
theorem sClear(h:CLX F X w m)(i:Nat)(hi:i<m.W):Calls Tryz.prog 118 #[.pointer (some ⟨F.sb,i*3,none⟩)] w λen w'=>en=.returned (.tuple #[])/\Aft F X w {m with sp:=updF m.sp i []} w':=by
 obtain⟨cs,a,cp,hP,hU⟩:=h.spipe i hi
 exact(Qfn 0 F.sb (i*3) _ cs a _ cp _ w hP).mono λen w' ⟨h1,h2⟩=>⟨h1,hU w' none 0 [] (h2 ▸ Upd.nil hP)⟩
theorem aClear(h:CLX F X w m)(k i:Nat)(hk:k<m.W)(hi:i<m.W):Calls Tryz.prog 118 #[.pointer (some ⟨F.ib k,i*3,none⟩)] w λen w'=>en=.returned (.tuple #[])/\Aft F X w {m with ap:=updF2 m.ap k i []} w':=by
 obtain⟨cs,a,cp,hP,hU⟩:=h.apipe k i hk hi
 exact(Qfn 0 (F.ib k) (i*3) _ cs a _ cp _ w hP).mono λen w' ⟨h1,h2⟩=>⟨h1,hU w' none 0 [] (h2 ▸ Upd.nil hP)⟩
end
end
section
open Go.RowKit
def ev0:Ev:=⟨0,⟨#[]⟩,0,0⟩
def barI:ItemV:=⟨true,ev0,0,0,0⟩
def barTo(sp:Nat->List ItemV)(n:Nat):Nat->List ItemV:=λi=>if i<n then sp i++[barI]else sp i
theorem Qjv(sp:Nat->List ItemV):barTo sp 0=sp:=by funext i;unfold barTo;rw[if_neg (Nat.not_lt_zero _)]
theorem Qjw(sp:Nat->List ItemV)(n:Nat):updF (barTo sp n) n (barTo sp n n++[barI])=barTo sp (n+1):=by
 funext i
 unfold updF barTo
 by_cases e:i=n
 ·subst e;rw[if_pos rfl,if_neg (Nat.lt_irrefl _),if_pos (Nat.lt_succ_self _)]
 ·rw[if_neg e]
  by_cases c:i<n
  ·rw[if_pos c,if_pos omQ]
  ·rw[if_neg c,if_neg omQ]
section
variable {F:Fx} {X:Nat->Prop} {w:World} {m:CM}
theorem CLX.sorterSlice(h:CLX F X w m):w.cell? ⟨F.jb,2,none⟩=some (.slice (some ⟨F.sb,0,none⟩) m.W F.cS):=by
 obtain⟨v3,v4,v5,_,_,c2,_⟩:=h.jobCells;exact c2
theorem CLX.adderSlice(h:CLX F X w m):w.cell? ⟨F.jb,3,none⟩=some (.slice (some ⟨F.ab,0,none⟩) m.W F.cA):=by
 obtain⟨v3,v4,v5,_,_,_,c3,_⟩:=h.jobCells;exact c3
theorem CLX.sentCell(h:CLX F X w m):w.cell? ⟨F.jb,1,none⟩=some (.int .i64 (m.sent:Int)):=by
 obtain⟨v3,v4,v5,_,c1,_⟩:=h.jobCells;exact c1
theorem CLX.ckCells(h:CLX F X w m):w.cell? ⟨F.jb,4,none⟩=some (.int .i64 (m.state:Int))/\w.cell? ⟨F.jb,5,none⟩=some (.int .i64 (m.off:Int))/\w.cell? ⟨F.jb,6,none⟩=some (.int .i64 (m.laid:Int)):=by
 obtain⟨v3,v4,v5,_,_,_,_,c4,c5,c6,_⟩:=h.jobCells;exact⟨c4,c5,c6⟩
theorem Qjx(h:CLX F X w m)(i0:Nat)(hi0:i0<m.W)(hf0:m.R<=(m.sp i0).length):Calls Tryz.prog 90 #[.pointer (some ⟨F.jb,0,none⟩)] w λen w'=>en=.returned (.int .i64 9)/\∃q,w'=w.drewN q:=by
 have HX:=show Hid (CLX F X w m)from h
 have hw4:m.W<=4:=h.w4.2;clear h;go_enter Tryz.func90,Tryz.ntmps90;go_wp2
 go_loopw [3] (λi wr=>∃j:Nat,j<=i0/\i=.int .i64 (j:Int)/\∃q,wr=w.drewN q) (λi _=>m.W-(intOf i).toNat)
 case atStart=>exact⟨0,Nat.zero_le _,rfl,0,rfl⟩
 case round=>
  obtain⟨j,hj,rfl,q,rfl⟩:=hrel;have hjW:j<m.W:=omQ;have c2:=(HX.out.drewN q).sorterSlice
  have HF:=show Hid _ from λ(_:Unit)=>sFull (HX.out.drewN q) j hjW
  have hji:(j:Int)<(m.W:Int):=omQ;have hj0:(0:Int)<=(j:Int):=omQ
  by_cases hf:m.R<=(m.sp j).length
  ·rw[decide_eq_true hf]at HF;clear hf hf0
   go_wp2_with(go_at_call 92;refine(HF.out ()).mono ?_;rintro en w2 ⟨rfl,q2,rfl⟩)
   go_ret;exact⟨rfl,by first | exact⟨_,rfl⟩ | (simp only[World.drewN_drewN];exact⟨_,rfl⟩)⟩
  ·rw[decide_eq_false hf]at HF
   have hne:j≠i0:=λe=>hf (e ▸ hf0)
   clear hf hf0
   go_wp2_with(go_at_call 92;refine(HF.out ()).mono ?_;rintro en w2 ⟨rfl,q2,rfl⟩)
   go_roundw
   case rel=>exact⟨j+1,by omega,by go_num,by first | exact⟨_,rfl⟩ | (simp only[World.drewN_drewN];exact⟨_,rfl⟩)⟩
   case measure=>simp[intOf];omega
theorem Ql7(h:CLX F X w m)(hR:m.R<=1000)(hf0:∀i,i<m.W->¬m.R<=(m.sp i).length):Calls Tryz.prog 90 #[.pointer (some ⟨F.jb,0,none⟩)] w λen w'=>en=.returned (.int .i64 0)/\Aft F X w {m with sp:=barTo m.sp m.W,state:=2,off:=m.sent} w':=by
 have HX:=show Hid (CLX F X w m)from h
 have hw4:m.W<=4:=h.w4.2;clear h
 have HZ:=show Hid (∀q,Aft F X w {m with sp:=barTo m.sp 0} (w.drewN q))from λq=>by
  rw[Qjv];exact HX.out.aft.drewN q
 go_enter Tryz.func90,Tryz.ntmps90;go_wp2
 go_loopw [3] (λi wr=>∃j:Nat,j<=m.W/\i=.int .i64 (j:Int)/\∃q,wr=w.drewN q) (λi _=>m.W-(intOf i).toNat)
 case atStart=>exact⟨0,Nat.zero_le _,rfl,0,rfl⟩
 case round=>
  obtain⟨j,hj,rfl,q,rfl⟩:=hrel;have c2:=(HX.out.drewN q).sorterSlice
  by_cases hjW:j<m.W
  ·have HF:=show Hid _ from λ(_:Unit)=>sFull (HX.out.drewN q) j hjW
   rw[decide_eq_false (hf0 j hjW)]at HF;have hji:(j:Int)<(m.W:Int):=omQ;have hj0:(0:Int)<=(j:Int):=omQ
   go_wp2_with(go_at_call 92;refine(HF.out ()).mono ?_;rintro en w2 ⟨rfl,q2,rfl⟩)
   go_roundw
   case rel=>exact⟨j+1,by omega,by go_num,by first | exact⟨_,rfl⟩ | (simp only[World.drewN_drewN];exact⟨_,rfl⟩)⟩
   case measure=>simp[intOf];omega
  ·have hji:¬(j:Int)<(m.W:Int):=omQ
   have HZ':=show Hid _ from HZ.out q
   clear HZ hj hjW;go_wp2;clear c2
   go_loopw [4] (λi wr=>∃j:Nat,j<=m.W/\i=.int .i64 (j:Int)/\Aft F X w {m with sp:=barTo m.sp j} wr) (λi _=>m.W-(intOf i).toNat)
   case atStart=>exact⟨0,Nat.zero_le _,rfl,HZ'.out⟩
   case round=>
    obtain⟨j,hj,rfl,hA⟩:=hrel;obtain⟨X1,k1,k2,k3⟩:=hA
    have HK:=show Hid (FrmX X w wr/\∀g,X1 g->X g\/w.heap.size<=g)from⟨k2,k3⟩
    have c2:=k1.sorterSlice;clear k2 k3 hji HZ'
    by_cases hjW:j<m.W
    ·have hl:(barTo m.sp j j).length<=1000:=by
      unfold barTo;rw[if_neg (Nat.lt_irrefl _)];have:=hf0 j hjW;omega
     have HS:=show Hid _ from λ(_:Unit)=>sSend k1 j hjW barI hl
     simp only[Qjw]at HS;unfold itV itCells1 barI ev0 at HS;have hji:(j:Int)<(m.W:Int):=omQ;have hj0:(0:Int)<=(j:Int):=omQ;clear hl
     go_wp2_with(go_at_call 93;refine(HS.out ()).mono ?_;rintro en w2 ⟨rfl,hA2⟩)
     go_roundw
     case rel=>exact⟨j+1,by omega,by go_num,Aft.then HK.out.1 HK.out.2 hA2⟩
     case measure=>simp[intOf];omega
    ·have hjj:j=m.W:=omQ;subst hjj;have hji:¬(m.W:Int)<(m.W:Int):=omQ;have c1:=k1.sentCell;obtain⟨c4,c5,_⟩:=k1.ckCells;have z4:=k1.jobFrozen 4 (by decide);have z5:=k1.jobFrozen 5 (by decide)
     have HE:=show Hid (Aft F X w {m with sp:=barTo m.sp m.W,state:=2,off:=m.sent} ((wr.setCell ⟨F.jb,4,none⟩ (.int .i64 2)).setCell ⟨F.jb,5,none⟩ (.int .i64 (m.sent:Int))))from by
      obtain⟨X2,l1,l2,l3⟩:=k1.setJob 4 (.int .i64 2) m.sent 2 m.off m.laid m.last m.offset (by decide) (λ_ _ _ _ _=>rfl)
      exact Aft.then HK.out.1 HK.out.2 (Aft.then l2 l3 (l1.setJob 5 (.int .i64 (m.sent:Int)) m.sent 2 m.sent m.laid m.last m.offset (by decide) (λ_ _ _ _ _=>rfl)))
     clear k1 HK hj hjW;simp only at c1 c2 c4 c5;go_wp2;go_ret;exact⟨rfl,HE.out⟩
end
end
section
open Go.RowKit
theorem Qcc(r:Nat)(w:World):
  Calls Tryz.prog 10 #[.int .i64 (r:Int)] w λe w'=>e=.returned (.int .i64 (r:Int))/\w'=w:=by
 go_enter Tryz.func10,Tryz.ntmps10;go_wp2;go_ret;exact⟨rfl,rfl⟩
def Dec(s:ByteArray)(es:List Ev)(n r:Nat):Prop:=(s.size<=400/\Parsed s es n/\r=errOf s n)\/(400<s.size/\es=[]/\n=0/\r=1)
theorem Dec.unique{s:ByteArray}{es es':List Ev}{n n' r r':Nat}(h:Dec s es n r)(h':Dec s es' n' r'):es=es'/\n=n'/\r=r':=by
 rcases h with⟨h1,h2,h3⟩ | ⟨h1,h2,h3,h4⟩<;>rcases h' with⟨k1,k2,k3⟩ | ⟨k1,k2,k3,k4⟩
 ·obtain⟨rfl,rfl⟩:=h2.unique k2;exact⟨rfl,rfl,by rw[h3,k3]⟩
 ·omega
 ·omega
 ·exact⟨by rw[h2,k2],by rw[h3,k3],by rw[h4,k4]⟩
theorem Dec.few{s:ByteArray}{es:List Ev}{n r:Nat}(h:Dec s es n r):es.length<=80/\n<=400/\r<=6:=by
 rcases h with⟨h1,h2,h3⟩ | ⟨h1,h2,h3,h4⟩
 ·have:=h2.few;have:=h2.le;refine⟨by omega,by omega,?_⟩;rw[h3];unfold errOf
  split<;>omega
 ·rw[h2,h3,h4];simp
theorem Qdt(w:World)(B:Nat)(e:TypeId)(s:Nat):w.ownsRow B e s (.slice none 0 0) 0 []:=⟨by simp,.inl ⟨rfl,rfl⟩⟩
theorem Qh5(s:ByteArray)(w:World):
  Calls Tryz.prog 39 #[.string s] w λen w'=>∃(a:Option Addr) (c:Nat) (es:List Ev) (n r:Nat),en=.returned (.tuple #[.slice a es.length c,.int .i64 (n:Int),.int .i64 (r:Int)])/\Hid (Dec s es n r)/\
   Hid (w'.ownsRow w.heap.size 40 4 (.slice a es.length c) es.length (evCells es)/\Below w.heap.size w w'):=by
 by_cases h:s.size<=400
 ·refine(Qge s w h).mono ?_;rintro e w1 ⟨v,es,n,r,rfl,hP,hown,hb⟩;obtain⟨a,c,rfl⟩:=Qaf hown;exact⟨a,c,es,n,r,rfl,.inl ⟨h,hP.out.1,hP.out.2⟩,hown,hb⟩
 ·refine(QgD s w omQ).mono ?_;rintro e w1 ⟨rfl,hb⟩;exact⟨none,0,[],0,1,rfl,.inr ⟨by omega,rfl,rfl,rfl⟩,Qdt _ _ _ _,hb⟩
theorem Qh6(s:ByteArray)(w:World):
  Calls Tryz.prog 14 #[.string s] w λen w'=>∃(a:Option Addr) (c:Nat) (es:List Ev) (n r:Nat),en=.returned (.tuple #[.slice a es.length c,.int .i64 (n:Int),.int .i64 (r:Int)])/\Hid (Dec s es n r)/\
   Hid (w'.ownsRow w.heap.size 40 4 (.slice a es.length c) es.length (evCells es)/\Below w.heap.size w w'):=by
 by_cases h:s.size<=400
 ·refine(Qbq s w h).mono ?_;rintro e w1 ⟨v,es,n,r,rfl,hP,hown,hb⟩;obtain⟨a,c,rfl⟩:=Qaf hown;exact⟨a,c,es,n,r,rfl,.inl ⟨h,hP.out.1,hP.out.2⟩,hown,hb⟩
 ·refine(QcJ s w omQ).mono ?_;rintro e w1 ⟨rfl,hb⟩;exact⟨none,0,[],0,1,rfl,.inr ⟨by omega,rfl,rfl,rfl⟩,Qdt _ _ _ _,hb⟩
theorem Qh7{W w':World}(h:Below W.heap.size W w'):W.grownBy w' none:=⟨h.os,h.tape,h.output,h.size,λk hk _=>h.block k hk⟩
theorem Qa3{W:World}{B B' n:Nat}{e:TypeId}{s:Nat}{v:Value}{xs:List Value}(h:W.ownsRow B e s v n xs)(hB:B'<=B):W.ownsRow B' e s v n xs:=
 ⟨h.1,h.2.elim .inl λ⟨g,cap,cur,h1,h2,h3⟩=>.inr ⟨g,cap,cur,h1,Nat.le_trans hB h2,h3⟩⟩
theorem Qby(W:World)(n:Nat):Below W.heap.size W (W.drewN n):=⟨rfl,rfl,rfl,Nat.le_refl _,λ_ _=>rfl⟩
theorem Qf6{W:World}{B n:Nat}{e:TypeId}{s:Nat}{v:Value}{xs:List Value}(h:W.ownsRow B e s v n xs)(q:Nat):(W.drewN q).ownsRow B e s v n xs:=h
theorem QcV{W:World}{B c g k:Nat}{es:List Ev}(h:W.ownsRow B 40 4 (.slice (some ⟨g,0,none⟩) es.length c) es.length (evCells es))(hk:k<es.length):
  W.cell? ⟨g,k*4,none⟩=some (.int .u8 (es[k].op:Int))/\W.cell? ⟨g,k*4+1,none⟩=some (.string es[k].key)/\W.cell? ⟨g,k*4+2,none⟩=some (.int .u16 (es[k].seq:Int))/\W.cell? ⟨g,k*4+3,none⟩=some (.int .i16 es[k].val):=by
 have hat:=QbY es k hk;exact⟨(h.cellAt _ omQ).trans hat.1,(h.cellAt _ omQ).trans hat.2.1,(h.cellAt _ omQ).trans hat.2.2.1,(h.cellAt _ omQ).trans hat.2.2.2⟩
def evI(e:Ev):ItemV:=⟨false,e,0,0,0⟩
section
variable {F:Fx} {X:Nat->Prop} {w:World} {m:CM}
theorem QeB(h:CLX F X w m)(hs:m.state=1){r:Int}{P:World->Prop}(hc:Calls Tryz.prog 90 #[.pointer (some ⟨F.jb,0,none⟩)] w λen w'=>en=.returned (.int .i64 r)/\P w'):Calls Tryz.prog 72 #[.pointer (some ⟨F.jb,0,none⟩)] w λen w'=>en=.returned (.int .i64 r)/\P w':=by
 obtain⟨c4,_⟩:=h.ckCells;rw[hs]at c4
 have HC:=show Hid _ from λ(_:Unit)=>hc
 clear h hc;go_enter Tryz.func72,Tryz.ntmps72
 go_wp2_with(go_at_call 90;refine(HC.out ()).mono ?_;rintro en w2 ⟨rfl,hP⟩)
 go_ret;exact⟨rfl,hP⟩
theorem Qhb(h:CLX F X w m)(hs:m.state≠1)(hn:m.evs.length<=m.sent):Calls Tryz.prog 72 #[.pointer (some ⟨F.jb,0,none⟩)] w λen w'=>en=.returned (.int .i64 8)/\Below w.heap.size w w':=by
 obtain⟨v3,v4,v5,c0,c1,_,_,c4,_,_,_,_,_,_,ho⟩:=h.jobCells;obtain⟨a,c,rfl⟩:=Qaf ho
 have e:((m.state:Int)==1)=false:=by rw[beq_eq_false_iff_ne];omega
 have e2:(m.evs.length:Int)<=(m.sent:Int):=omQ;clear h ho hn;generalize m.evs.length=n at c0 e2;go_enter Tryz.func72,Tryz.ntmps72;go_wp2
 go_quiet (fail)
 go_wp2;go_ret;exact⟨rfl,below_drewN (Below.refl _ _) _⟩
theorem Qjy{w w1:World}{B g:Nat}(h:Below B w w1)(hg:B<=g)(v0 v1 v2 v3:Value):Below B w ((((w1.setCell ⟨g,0,none⟩ v0).setCell ⟨g,1,none⟩ v1).setCell ⟨g,2,none⟩ v2).setCell ⟨g,3,none⟩ v3):=
 (((h.setCell (p:=⟨g,0,none⟩) hg v0).setCell (p:=⟨g,1,none⟩) hg v1).setCell (p:=⟨g,2,none⟩) hg v2).setCell (p:=⟨g,3,none⟩) hg v3
def SrcAt(F:Fx)(X:Nat->Prop)(m:CM)(w:World)(e:Ev)(eb:Nat)(w1:World):Prop:=
 Below w.heap.size w w1/\CLX F X w1 m/\w1.heap[eb]? =some (.cells #[.int .u8 (e.op:Int),.string e.key,.int .u16 (e.seq:Int),.int .i16 e.val] 40 (0,0))/\w.heap.size<=eb
theorem Qjz(h:CLX F X w m)(hs:m.state≠1)(e:Ev)(he:m.evs[m.sent]? =some e)(hk:e.key.size<=1000)(hR:m.R<=1000)(hsent:m.sent<=1000):
  Calls Tryz.prog 72 #[.pointer (some ⟨F.jb,0,none⟩)] w λen w'=>
   (m.R<=(m.sp (hashS e.key % m.W)).length->en=.returned (.int .i64 9)/\Below w.heap.size w w')/\
   (¬m.R<=(m.sp (hashS e.key % m.W)).length->en=.returned (.int .i64 0)/\Aft F X w {m with sp:=updF m.sp (hashS e.key % m.W) (m.sp (hashS e.key % m.W)++[evI e]),sent:=m.sent+1} w'):=by
 obtain⟨v3,v4,v5,c0,c1,_,_,c4,_,_,_,_,_,_,ho⟩:=h.jobCells;obtain⟨a,c,rfl⟩:=Qaf ho;obtain⟨hsl,hse⟩:=List.getElem?_eq_some_iff.1 he
 rcases Qai ho with⟨_,h0⟩ | ⟨g,rfl⟩
 ·omega
 obtain⟨d0,d1,d2,d3⟩:=QcV ho hsl;rw[hse]at d0 d1 d2 d3;have hgl:=(Qbt ho).2;have hjl:=h.rows.1
 have en1:((m.state:Int)==1)=false:=by rw[beq_eq_false_iff_ne];omega
 have en2:¬(m.evs.length:Int)<=(m.sent:Int):=omQ;have en2':decide ((m.evs.length:Int)<=(m.sent:Int))=false:=decide_eq_false en2;have en3:(m.sent:Int)<(m.evs.length:Int):=omQ;have en4:(0:Int)<=(m.sent:Int):=omQ
 have HX:=show Hid (CLX F X w m)from h
 have hiW:hashS e.key % m.W<m.W:=Nat.mod_lt _ (by have:=h.w4.1;omega);clear h ho he hse hsl;obtain⟨op,key,seq,val⟩:=e;simp only at d0 d1 d2 d3 hk hiW ⊢;generalize m.evs.length=n at c0 en2 en2' en3;generalize hidx:hashS key % m.W=i at hiW ⊢;have Hidx:=hdQ hidx;clear hidx;go_enter Tryz.func72,Tryz.ntmps72;go_wp2
 go_quiet (fail)
 go_wp2
 have HX2:=show Hid (CLX F X (w.drewN nq).drew m/\Below w.heap.size w (w.drewN nq).drew)from⟨(HX.out.drewN nq).drew,(below_drewN (Below.refl _ _) nq).drew⟩
 have hsz:(w.drewN nq).drew.heap.size=w.heap.size:=rfl;have c0':(w.drewN nq).drew.cell? ⟨F.jb,0,none⟩=_:=c0;have c1':(w.drewN nq).drew.cell? ⟨F.jb,1,none⟩=_:=c1;have d0':(w.drewN nq).drew.cell? ⟨g,m.sent*4,none⟩=_:=d0;have d1':(w.drewN nq).drew.cell? ⟨g,m.sent*4+1,none⟩=_:=d1;have d2':(w.drewN nq).drew.cell? ⟨g,m.sent*4+2,none⟩=_:=d2;have d3':(w.drewN nq).drew.cell? ⟨g,m.sent*4+3,none⟩=_:=d3;clear HX c0 c1 d0 d1 d2 d3
 have hS0:(w.drewN nq).drew.cell? ⟨F.jb,0,none⟩=some (.slice (some ⟨g,0,none⟩) n c)/\(w.drewN nq).drew.cell? ⟨F.jb,1,none⟩=some (.int .i64 (m.sent:Int))/\(w.drewN nq).drew.cell? ⟨g,m.sent*4,none⟩=some (.int .u8 (op:Int))/\(w.drewN nq).drew.cell? ⟨g,m.sent*4+1,none⟩=some (.string key)/\(w.drewN nq).drew.cell? ⟨g,m.sent*4+2,none⟩=some (.int .u16 (seq:Int))/\(w.drewN nq).drew.cell? ⟨g,m.sent*4+3,none⟩=some (.int .i16 val):=⟨c0',c1',d0',d1',d2',d3'⟩
 refine wp_region_held_drew (S:=λw':World=>w'.cell? ⟨F.jb,0,none⟩=some (.slice (some ⟨g,0,none⟩) n c)/\w'.cell? ⟨F.jb,1,none⟩=some (.int .i64 (m.sent:Int))/\w'.cell? ⟨g,m.sent*4,none⟩=some (.int .u8 (op:Int))/\w'.cell? ⟨g,m.sent*4+1,none⟩=some (.string key)/\w'.cell? ⟨g,m.sent*4+2,none⟩=some (.int .u16 (seq:Int))/\w'.cell? ⟨g,m.sent*4+3,none⟩=some (.int .i16 val)) krQ hS0 (λhH=>?_);generalize(w.drewN nq).drew=wd at HX2 hsz hS0 c0' c1' d0' d1' d2' d3' hH ⊢;clear c0' c1' d0' d1' d2' d3';refine tkQ 0 (.pointer (some ⟨F.jb,0,none⟩)) hH ?_;refine tkQ 1 (.pointer (some ⟨F.jb,0,none⟩)) hH ?_;refine tkQ 2 (.pointer (some ⟨F.jb,0,none⟩)) hH ?_;refine tlQ 3 (.slice (some ⟨g,0,none⟩) n c) rfl (by intro v hSw;have s0:=hSw.1;clear hSw;go_simp) hH ?_;refine tkQ 4 (.pointer (some ⟨F.jb,0,none⟩)) hH ?_;refine tkQ 5 (.pointer (some ⟨F.jb,0,none⟩)) hH ?_;refine tkQ 6 (.pointer (some ⟨F.jb,1,none⟩)) hH ?_;refine tlQ 7 (.int .i64 (m.sent:Int)) rfl (by intro v hSw;have s0:=hSw.2.1;clear hSw;go_simp) hH ?_;refine tkQ 8 (.pointer (some ⟨g,m.sent*4,none⟩)) hH ?_;refine tlQ 9 (.agg #[.int .u8 (op:Int),.string key,.int .u16 (seq:Int),.int .i16 val]) rfl (by intro v hSw;have t0:=hSw.2.2.1;have t1:=hSw.2.2.2.1;have t2:=hSw.2.2.2.2.1;have t3:=hSw.2.2.2.2.2;clear hSw;go_simp) hH ?_;refine rdQ [10] ?_
 refine arQ λK hK=>?_
 clear hH;go_simp;have hba:=(Below.refl wd.heap.size wd).alloc (Nat.le_refl _) (.cells #[.int .u8 0,.string ⟨#[]⟩,.int .u16 0,.int .i16 0] 40)
 have hjd:F.jb<wd.heap.size:=by rw[hsz];exact hjl
 have hgd:g<wd.heap.size:=by rw[hsz];exact hgl
 have hnb:=heap_alloc_new wd (.cells #[.int .u8 0,.string ⟨#[]⟩,.int .u16 0,.int .i16 0] 40);rw[hsz]at hnb;have hS1:=And.intro ((hba.cell (p:=⟨F.jb,0,none⟩) hjd).trans hS0.1) (And.intro ((hba.cell (p:=⟨F.jb,1,none⟩) hjd).trans hS0.2.1) (And.intro ((hba.cell (p:=⟨g,m.sent*4,none⟩) hgd).trans hS0.2.2.1) (And.intro ((hba.cell (p:=⟨g,m.sent*4+1,none⟩) hgd).trans hS0.2.2.2.1) (And.intro ((hba.cell (p:=⟨g,m.sent*4+2,none⟩) hgd).trans hS0.2.2.2.2.1) ((hba.cell (p:=⟨g,m.sent*4+3,none⟩) hgd).trans hS0.2.2.2.2.2)))));refine hK.out _ _ hS1 (λhH=>?_)
 have HS0:=show Hid (_/\_)from hS0
 clear hK K hS0;have Hba:=hdQ hba;clear hba;generalize wd.alloc (.cells #[.int .u8 0,.string ⟨#[]⟩,.int .u16 0,.int .i16 0] 40)=w1 at hnb hS1 hH Hba ⊢;refine rdQ [11] ?_
 refine arQ λK hK=>?_
 clear hH;have e0:w1.cell? ⟨w.heap.size,0,none⟩=some (.int .u8 0):=Qaa hnb 0;have e1:w1.cell? ⟨w.heap.size,1,none⟩=some (.string ⟨#[]⟩):=Qaa hnb 1;have e2:w1.cell? ⟨w.heap.size,2,none⟩=some (.int .u16 0):=Qaa hnb 2;have e3:w1.cell? ⟨w.heap.size,3,none⟩=some (.int .i16 0):=Qaa hnb 3;have z0:w1.frozen? ⟨w.heap.size,0,none⟩=false:=Qab hnb 0;have z1:w1.frozen? ⟨w.heap.size,1,none⟩=false:=Qab hnb 1;have z2:w1.frozen? ⟨w.heap.size,2,none⟩=false:=Qab hnb 2;have z3:w1.frozen? ⟨w.heap.size,3,none⟩=false:=Qab hnb 3;go_simp;have hbs:=Qjy (Hba.out.mono (Nat.le_refl _)) (Nat.le_of_eq hsz) (.int .u8 (op:Int)) (.string key) (.int .u16 (seq:Int)) (.int .i16 val);have hnb2:((((w1.setCell ⟨w.heap.size,0,none⟩ (.int .u8 (op:Int))).setCell ⟨w.heap.size,1,none⟩ (.string key)).setCell ⟨w.heap.size,2,none⟩ (.int .u16 (seq:Int))).setCell ⟨w.heap.size,3,none⟩ (.int .i16 val)).heap[w.heap.size]? =some (.cells #[.int .u8 (op:Int),.string key,.int .u16 (seq:Int),.int .i16 val] 40 (0,0)):=Qag (j:=3) (Qag (j:=2) (Qag (j:=1) (Qag (j:=0) hnb _) _) _) _
 have HS2:=show Hid (SrcAt F X m w ⟨op,key,seq,val⟩ w.heap.size _)from⟨HX2.out.2.trans (hbs.mono (Nat.le_of_eq hsz.symm)),HX2.out.1.below hbs,hnb2,Nat.le_refl _⟩
 clear e0 e1 e2 e3 z0 z1 z2 z3 Hba hnb hS1;generalize((((w1.setCell ⟨w.heap.size,0,none⟩ (.int .u8 (op:Int))).setCell ⟨w.heap.size,1,none⟩ (.string key)).setCell ⟨w.heap.size,2,none⟩ (.int .u16 (seq:Int))).setCell ⟨w.heap.size,3,none⟩ (.int .i16 val))=w2 at HS2 hbs hnb2 ⊢;refine hK.out _ _ ⟨(hbs.cell (p:=⟨F.jb,0,none⟩) hjd).trans HS0.out.1,(hbs.cell (p:=⟨F.jb,1,none⟩) hjd).trans HS0.out.2.1,(hbs.cell (p:=⟨g,m.sent*4,none⟩) hgd).trans HS0.out.2.2.1,(hbs.cell (p:=⟨g,m.sent*4+1,none⟩) hgd).trans HS0.out.2.2.2.1,(hbs.cell (p:=⟨g,m.sent*4+2,none⟩) hgd).trans HS0.out.2.2.2.2.1,(hbs.cell (p:=⟨g,m.sent*4+3,none⟩) hgd).trans HS0.out.2.2.2.2.2⟩ (λhH=>?_);clear hK K hH HS0 hbs hnb2 HX2 w1;refine wpAnyH_done krQ ?_ _;generalize hebd:w.heap.size=eb at HS2 ⊢;clear hebd;clear hjd hgd hsz wd en1 en2 en2' en3 en4;have hkc:w2.cell? ⟨eb,1,none⟩=some (.string key):=Qaa HS2.out.2.2.1 1;have c2:=HS2.out.2.1.sorterSlice
 have HH:=show Hid _ from λ(n:Nat)=>csorterOf (HS2.out.2.1.drewN n) key hk
 rw[Hidx.out]at HH;have hi1:(i:Int)<(m.W:Int):=omQ;have hi0:(0:Int)<=(i:Int):=omQ;go_wp2
 go_quiet (first | (go_at_call 91;refine Calls.quiet_of (HH.out _)))
 have HF:=show Hid _ from λ(n:Nat)=>sFull (HS2.out.2.1.drewN n) i hiW
 by_cases hf:m.R<=(m.sp i).length
 ·rw[decide_eq_true hf]at HF
  go_wp2_with(go_at_call 92;refine(HF.out _).mono ?_;rintro en w3 ⟨rfl,q3,rfl⟩)
  go_ret;exact⟨λ_=>⟨rfl,by first | exact below_drewN HS2.out.1 _ | exact below_drewN (below_drewN HS2.out.1 _) _⟩,λx=>absurd hf x⟩
 ·rw[decide_eq_false hf]at HF;have hl:(m.sp i).length<=1000:=omQ
  have HSe:=show Hid _ from λ(n:Nat)=>sSend (HS2.out.2.1.drewN n) i hiW (evI ⟨op,key,seq,val⟩) hl
  unfold itV itCells1 evI at HSe;simp only at HSe
  have f0:∀n,(w2.drewN n).cell? ⟨eb,0,none⟩=some (.int .u8 (op:Int)):=λn=>Qaa HS2.out.2.2.1 0
  have f1:∀n,(w2.drewN n).cell? ⟨eb,1,none⟩=some (.string key):=λn=>Qaa HS2.out.2.2.1 1
  have f2:∀n,(w2.drewN n).cell? ⟨eb,2,none⟩=some (.int .u16 (seq:Int)):=λn=>Qaa HS2.out.2.2.1 2
  have f3:∀n,(w2.drewN n).cell? ⟨eb,3,none⟩=some (.int .i16 val):=λn=>Qaa HS2.out.2.2.1 3
  go_wp2_with(first
   | (go_at_call 92;refine(HF.out _).mono ?_;rintro en w3 ⟨rfl,q3,rfl⟩)
   | (go_at_call 93;refine(HSe.out _).mono ?_;rintro en w4 ⟨rfl,hA4⟩;obtain⟨X4,k1,k2,k3⟩:=hA4;have c14:=k1.sentCell;have z14:=k1.jobFrozen 1 (by decide);simp only at c14;have HE:=show Hid _ from Aft.then k2 k3 (k1.setJob 1 (.int .i64 ((m.sent:Int)+1)) (m.sent+1) m.state m.off m.laid m.last m.offset (by decide) (λ_ _ _ _ _=>rfl));clear k1 k2 k3))
  go_ret;exact⟨λx=>absurd x hf,λ_=>⟨rfl,Aft.from HE.out (by first | exact below_drewN HS2.out.1 _ | exact below_drewN (below_drewN HS2.out.1 _) _)⟩⟩
end
end
section
open Go.RowKit
def barTo2(ap:Nat->Nat->List ItemV)(i n:Nat):Nat->Nat->List ItemV:=λk q=>if k<n/\q=i then ap k q++[barI]else ap k q
theorem Qh8(ap:Nat->Nat->List ItemV)(i:Nat):barTo2 ap i 0=ap:=by funext k q;unfold barTo2;rw[if_neg omQ]
theorem Qh9(ap:Nat->Nat->List ItemV)(i n:Nat):updF2 (barTo2 ap i n) n i (barTo2 ap i n n i++[barI])=barTo2 ap i (n+1):=by
 funext k q
 unfold updF2 barTo2
 by_cases e:k=n/\q=i
 ·obtain⟨rfl,rfl⟩:=e;rw[if_pos ⟨rfl,rfl⟩,if_neg omQ,if_pos omQ]
 ·rw[if_neg e]
  by_cases c:k<n/\q=i
  ·rw[if_pos c,if_pos omQ]
  ·rw[if_neg c,if_neg omQ]
section
variable {F:Fx} {X:Nat->Prop} {w:World} {m:CM}
theorem QjA(h:CLX F X w m)(i:Nat)(hi:i<m.W)(i0:Nat)(hi0:i0<m.W)(hf0:m.R<=(m.ap i0 i).length):Calls Tryz.prog 95 #[.pointer (some ⟨F.jb,0,none⟩),.int .i64 (i:Int)] w λen w'=>en=.returned (.int .i64 9)/\∃q,w'=w.drewN q:=by
 have HX:=show Hid (CLX F X w m)from h
 have hw4:m.W<=4:=h.w4.2;clear h;go_enter Tryz.func95,Tryz.ntmps95;go_wp2
 go_loopw [5] (λv wr=>∃j:Nat,j<=i0/\v=.int .i64 (j:Int)/\∃q,wr=w.drewN q) (λv _=>m.W-(intOf v).toNat)
 case atStart=>exact⟨0,Nat.zero_le _,rfl,0,rfl⟩
 case round=>
  obtain⟨j,hj,rfl,q,rfl⟩:=hrel;have hjW:j<m.W:=omQ;have c3:=(HX.out.drewN q).adderSlice
  have HB:=show Hid _ from λ(_:Unit)=>cbetween (HX.out.drewN q) i j hi hjW
  have HF:=show Hid _ from λ(_:Unit)=>aFull (HX.out.drewN q) j i hjW hi
  have hji:(j:Int)<(m.W:Int):=omQ;have hj0:(0:Int)<=(j:Int):=omQ
  by_cases hf:m.R<=(m.ap j i).length
  ·rw[decide_eq_true hf]at HF;clear hf hf0
   go_wp2_with(first
    | (go_at_call 99;refine(HB.out ()).mono ?_;rintro en w2 ⟨rfl,rfl⟩)
    | (go_at_call 92;refine(HF.out ()).mono ?_;rintro en w2 ⟨rfl,q2,rfl⟩))
   go_ret;exact⟨rfl,by first | exact⟨_,rfl⟩ | (simp only[World.drewN_drewN];exact⟨_,rfl⟩)⟩
  ·rw[decide_eq_false hf]at HF
   have hne:j≠i0:=λe=>hf (e ▸ hf0)
   clear hf hf0
   go_wp2_with(first
    | (go_at_call 99;refine(HB.out ()).mono ?_;rintro en w2 ⟨rfl,rfl⟩)
    | (go_at_call 92;refine(HF.out ()).mono ?_;rintro en w2 ⟨rfl,q2,rfl⟩))
   go_roundw
   case rel=>exact⟨j+1,by omega,by go_num,by first | exact⟨_,rfl⟩ | (simp only[World.drewN_drewN];exact⟨_,rfl⟩)⟩
   case measure=>simp[intOf];omega
theorem Ql8(h:CLX F X w m)(i:Nat)(hi:i<m.W)(hR:m.R<=1000)(hf0:∀k,k<m.W->¬m.R<=(m.ap k i).length){x:ItemV}{rs:List ItemV}(he:m.sp i=x :: rs)(hl:rs.length<=1000):Calls Tryz.prog 95 #[.pointer (some ⟨F.jb,0,none⟩),.int .i64 (i:Int)] w λen w'=>en=.returned (.int .i64 0)/\Aft F X w {m with sp:=updF m.sp i rs,ap:=barTo2 m.ap i m.W} w':=by
 have HX:=show Hid (CLX F X w m)from h
 have hw4:m.W<=4:=h.w4.2;clear h
 have HT:=show Hid _ from λ(n:Nat)=>sTake (HX.out.drewN n) i hi he hl
 clear hl;have hii:(i:Int)<(m.W:Int):=omQ;have hi00:(0:Int)<=(i:Int):=omQ;go_enter Tryz.func95,Tryz.ntmps95;go_wp2
 go_loopw [5] (λv wr=>∃j:Nat,j<=m.W/\v=.int .i64 (j:Int)/\∃q,wr=w.drewN q) (λv _=>m.W-(intOf v).toNat)
 case atStart=>exact⟨0,Nat.zero_le _,rfl,0,rfl⟩
 case round=>
  obtain⟨j,hj,rfl,q,rfl⟩:=hrel;have c3:=(HX.out.drewN q).adderSlice
  by_cases hjW:j<m.W
  ·have HF:=show Hid _ from λ(_:Unit)=>aFull (HX.out.drewN q) j i hjW hi
   have HB:=show Hid _ from λ(_:Unit)=>cbetween (HX.out.drewN q) i j hi hjW
   rw[decide_eq_false (hf0 j hjW)]at HF;have hji:(j:Int)<(m.W:Int):=omQ;have hj0:(0:Int)<=(j:Int):=omQ;clear HT
   go_wp2_with(first
    | (go_at_call 99;refine(HB.out ()).mono ?_;rintro en w2 ⟨rfl,rfl⟩)
    | (go_at_call 92;refine(HF.out ()).mono ?_;rintro en w2 ⟨rfl,q2,rfl⟩))
   go_roundw
   case rel=>exact⟨j+1,by omega,by go_num,by first | exact⟨_,rfl⟩ | (simp only[World.drewN_drewN];exact⟨_,rfl⟩)⟩
   case measure=>simp[intOf];omega
  ·have hji:¬(j:Int)<(m.W:Int):=omQ;have c2:=(HX.out.drewN q).sorterSlice;clear hj hjW
   go_wp2_with(go_at_call 97;refine(HT.out _).mono ?_;rintro en w2 ⟨rfl,hA0⟩)
   have HZ:=show Hid (Aft F X w {m with sp:=updF m.sp i rs,ap:=barTo2 m.ap i 0} w2)from by
    rw[Qh8]
    exact Aft.from hA0 (below_drewN (Below.refl _ _) q)
   clear c2 c3 hA0 HT
   go_loopw [7] (λv wr=>∃j:Nat,j<=m.W/\v=.int .i64 (j:Int)/\Aft F X w {m with sp:=updF m.sp i rs,ap:=barTo2 m.ap i j} wr) (λv _=>m.W-(intOf v).toNat)
   case atStart=>exact⟨0,Nat.zero_le _,rfl,HZ.out⟩
   case round=>
    obtain⟨j,hj,rfl,hA⟩:=hrel;obtain⟨X1,k1,k2,k3⟩:=hA
    have HK:=show Hid (FrmX X w wr/\∀g,X1 g->X g\/w.heap.size<=g)from⟨k2,k3⟩
    have c3:=k1.adderSlice;clear k2 k3 hji HZ
    by_cases hjW:j<m.W
    ·have hl:(barTo2 m.ap i j j i).length<=1000:=by
      unfold barTo2;rw[if_neg omQ];have:=hf0 j hjW;omega
     have HS:=show Hid _ from λ(_:Unit)=>aSend k1 j i hjW hi barI hl
     have HB:=show Hid _ from λ(_:Unit)=>cbetween k1 i j hi hjW
     simp only[Qh9]at HS;unfold itV itCells1 barI ev0 at HS;have hji:(j:Int)<(m.W:Int):=omQ;have hj0:(0:Int)<=(j:Int):=omQ;clear hl
     go_wp2_with(first
      | (go_at_call 99;refine(HB.out ()).mono ?_;rintro en w2 ⟨rfl,rfl⟩)
      | (go_at_call 93;refine(HS.out ()).mono ?_;rintro en w3 ⟨rfl,hA2⟩))
     go_roundw
     case rel=>exact⟨j+1,by omega,by go_num,Aft.then HK.out.1 HK.out.2 hA2⟩
     case measure=>simp[intOf];omega
    ·have hjj:j=m.W:=omQ;subst hjj;have hji:¬(m.W:Int)<(m.W:Int):=omQ
     have HE:=show Hid _ from Aft.then HK.out.1 HK.out.2 k1.aft
     clear k1 HK hj hjW;simp only at c3;go_wp2;go_ret;exact⟨rfl,HE.out⟩
end
end
end Go.Proofs.YthccpacmklhejabGreatDoor
