import Derived.Test.YthccpacmklhejabGreatDoorTk
import Derived.Test.YthccpacmklhejabGreatDoorK14
import Derived.Test.YthccpacmklhejabGreatDoorK05
import Derived.Test.YthccpacmklhejabGreatDoorK07
set_option maxRecDepth 4000
namespace Go.Proofs.YthccpacmklhejabGreatDoor
section
open Go.RowKit
theorem Qdq{α:Type}{l:List α}{o:Nat}{u x:α}(h:l[o]? =some x):(l.set o u)[o]? =some u:=by
 rw[List.getElem?_set_self (List.getElem?_eq_some_iff.1 h).1]
theorem Upd.nil{e:TypeId}{s kb o:Nat}{t:TypeId}{cs:Array Value}{a:Option Addr}{n c:Nat}{xs:List Value}{w:World}(h:LAt 0 e s kb o t cs a n c xs w):Upd 0 e s kb o t cs a n c w none 0 0 [] (w.setCell ⟨kb,o,none⟩ (.slice none 0 0)):=by
 refine⟨⟨Qag (j:=o) h.box _,?_,h.ne,by simp,.inl ⟨rfl,rfl⟩⟩,(FrmX.refl _ w).set (λ_=>.inl rfl) o _,λg hg=>by cases hg⟩;rw[Array.getElem?_setIfInBounds,if_pos rfl,if_pos h.ol]
section
variable {F:Fx} {X:Nat->Prop} {w w':World} {m:CM}
theorem CLX.spipe(h:CLX F X w m)(i:Nat)(hi:i<m.W):∃cs a cp,PAt 0 F.sb (i*3+1) 109 cs a cp (m.sp i) w/\∀(w':World) (a':Option Addr) (c':Nat) (rs:List ItemV),PUpd 0 F.sb (i*3+1) 109 cs a cp (m.sp i) w a' c' rs w'->Aft F X w {m with sp:=updF m.sp i rs} w':=by
 obtain⟨L,hl,hs,rfl⟩:=h;obtain⟨w1,w4⟩:=hs.w4;obtain⟨t1,t2,t3,t4⟩:=hs.sp i hi;obtain⟨cs,a,cp,hv,hla⟩:=hl.lat (o:=i*3+1) (c:=10+i) (hs.sr.2.2 i hi).2.1 hs.sr.2.1 (by rw[hs.sr.1,t1];decide);have hla':=hla;rw[hs.sr.1,t1,t2,t3,t4]at hla';refine⟨cs,a,cp,hla',λw' a' c' rs hu=>?_⟩;obtain⟨hlay,hf,hx⟩:=hl.put (p:=1) (c:=10+i) (o:=i*3+1) (a':=a') (n':=rs.length) (c':=c') (xs':=itCells rs) hs.sr.2.1 omQ hv hla (by rw[hs.sr.1,t1,t2,t3];exact hu);refine⟨_,⟨_,hlay,?_,rfl⟩,hf,hx⟩;generalize hL:putL L (1) (i*3+1) (10+i) (.slice a' rs.length c') rs.length (itCells rs)=L'
 have fv:∀x,x≠10+i->(L' x).v=(L x).v:=λx hx=>by
  rw[<-hL];unfold putL;rw[if_neg hx];split
  ·rename_i e;rw[e]
  ·rfl
 have ft:∀x,(L' x).ty=(L x).ty:=λx=>by
  rw[<-hL];unfold putL;split
  ·rename_i e;rw[e]
  ·split
   ·rename_i e;rw[e]
   ·rfl
 have fx:∀x,x≠10+i->x≠1->L' x=L x:=λx h1 h2=>by rw[<-hL];exact Qbb h1 h2
 have fp:(L' (1)).xs=(L (1)).xs.set (i*3+1) (.slice a' rs.length c'):=by rw[<-hL,Qba omQ]
 have fc:L' (10+i)=⟨(L (10+i)).ty,(L (10+i)).sz,.slice a' rs.length c',rs.length,itCells rs⟩:=by rw[<-hL];exact Qa9 _ _ _ _ _ _ _
 have fcv:(L' (10+i)).v=.slice a' rs.length c':=by rw[fc]
 refine⟨⟨w1,w4⟩,⟨(ft 0).trans hs.job.1,(fv 0 omQ).trans hs.job.2.1,by rw[fx 0 omQ omQ,fv 3 omQ,fv 1 omQ,fv 2 omQ,fv 4 omQ,fv 5 omQ];exact hs.job.2.2⟩,⟨(ft 1).trans hs.sr.1,(fv 1 omQ).trans hs.sr.2.1,λi2 hi2=>?_⟩,⟨(ft 2).trans hs.ar.1,(fv 2 omQ).trans hs.ar.2.1,λi2 hi2=>?_⟩,by rw[fx 3 omQ omQ];exact hs.ev,?_,?_,λi2 hi2=>?_,λi2 hi2=>?_,λi2 hi2=>⟨(ft _).trans (hs.il i2 hi2).1,(fv _ (by have hi3:i2<4:=Nat.lt_of_lt_of_le hi2 w4;omega)).trans (hs.il i2 hi2).2.1,λq2 hq2=>?_⟩,λi2 hi2=>?_,λi2 q2 hi2 hq2=>?_⟩
 ·obtain⟨s1,s2,s3⟩:=hs.sr.2.2 i2 hi2;have hi3:i2<4:=Nat.lt_of_lt_of_le hi2 w4;rw[fp,List.getElem?_set_ne omQ];refine⟨s1,?_,by rw[List.getElem?_set_ne omQ,fv _ omQ];exact s3⟩
  by_cases e:i2=i
  ·subst e;rw[Qdq s2,fcv]
  ·rw[List.getElem?_set_ne omQ,fv _ omQ];exact s2
 ·obtain⟨s1,s2⟩:=hs.ar.2.2 i2 hi2;have hi3:i2<4:=Nat.lt_of_lt_of_le hi2 w4;rw[fx 2 omQ omQ,fv (30+i2) omQ,fv (40+i2) omQ];exact⟨s1,s2⟩
 ·rw[fx 4 omQ omQ];exact hs.rd
 ·rw[fx 5 omQ omQ];exact hs.vw
 ·have hi3:i2<4:=Nat.lt_of_lt_of_le hi2 w4;simp only
  by_cases e:i2=i
  ·subst e;rw[QaQ];exact⟨by rw[fc];exact t1,by rw[fc];exact t2,by rw[fc],by rw[fc]⟩
  ·rw[Qa0 e,fx _ omQ omQ];exact hs.sp i2 hi2
 ·have hi3:i2<4:=Nat.lt_of_lt_of_le hi2 w4;rw[fx _ omQ omQ];exact hs.sk i2 hi2
 ·obtain⟨s1,s2,s3⟩:=(hs.il i2 hi2).2.2 q2 hq2;have hi3:i2<4:=Nat.lt_of_lt_of_le hi2 w4;rw[fx _ omQ omQ,fv _ omQ];exact⟨s1,s2,s3⟩
 ·have hi3:i2<4:=Nat.lt_of_lt_of_le hi2 w4;rw[fx _ omQ omQ];exact hs.tb i2 hi2
 ·have hi3:i2<4:=Nat.lt_of_lt_of_le hi2 w4;have hq3:q2<4:=Nat.lt_of_lt_of_le hq2 w4;rw[fx _ omQ omQ];exact hs.ap i2 q2 hi2 hq2
theorem CLX.skeys(h:CLX F X w m)(i:Nat)(hi:i<m.W):∃cs a cp,KAt 0 F.sb (i*3+2) 109 cs a cp (m.sk i) w/\∀(w':World) (a':Option Addr) (c':Nat) (rs:List EV),KUpd 0 F.sb (i*3+2) 109 cs a cp (m.sk i) w a' c' rs w'->Aft F X w {m with sk:=updF m.sk i rs} w':=by
 obtain⟨L,hl,hs,rfl⟩:=h;obtain⟨w1,w4⟩:=hs.w4;obtain⟨t1,t2,t3,t4⟩:=hs.sk i hi;obtain⟨cs,a,cp,hv,hla⟩:=hl.lat (o:=i*3+2) (c:=20+i) (hs.sr.2.2 i hi).2.2 hs.sr.2.1 (by rw[hs.sr.1,t1];decide);have hla':=hla;rw[hs.sr.1,t1,t2,t3,t4]at hla';refine⟨cs,a,cp,hla',λw' a' c' rs hu=>?_⟩;obtain⟨hlay,hf,hx⟩:=hl.put (p:=1) (c:=20+i) (o:=i*3+2) (a':=a') (n':=rs.length) (c':=c') (xs':=entCells rs) hs.sr.2.1 omQ hv hla (by rw[hs.sr.1,t1,t2,t3];exact hu);refine⟨_,⟨_,hlay,?_,rfl⟩,hf,hx⟩;generalize hL:putL L (1) (i*3+2) (20+i) (.slice a' rs.length c') rs.length (entCells rs)=L'
 have fv:∀x,x≠20+i->(L' x).v=(L x).v:=λx hx=>by
  rw[<-hL];unfold putL;rw[if_neg hx];split
  ·rename_i e;rw[e]
  ·rfl
 have ft:∀x,(L' x).ty=(L x).ty:=λx=>by
  rw[<-hL];unfold putL;split
  ·rename_i e;rw[e]
  ·split
   ·rename_i e;rw[e]
   ·rfl
 have fx:∀x,x≠20+i->x≠1->L' x=L x:=λx h1 h2=>by rw[<-hL];exact Qbb h1 h2
 have fp:(L' (1)).xs=(L (1)).xs.set (i*3+2) (.slice a' rs.length c'):=by rw[<-hL,Qba omQ]
 have fc:L' (20+i)=⟨(L (20+i)).ty,(L (20+i)).sz,.slice a' rs.length c',rs.length,entCells rs⟩:=by rw[<-hL];exact Qa9 _ _ _ _ _ _ _
 have fcv:(L' (20+i)).v=.slice a' rs.length c':=by rw[fc]
 refine⟨⟨w1,w4⟩,⟨(ft 0).trans hs.job.1,(fv 0 omQ).trans hs.job.2.1,by rw[fx 0 omQ omQ,fv 3 omQ,fv 1 omQ,fv 2 omQ,fv 4 omQ,fv 5 omQ];exact hs.job.2.2⟩,⟨(ft 1).trans hs.sr.1,(fv 1 omQ).trans hs.sr.2.1,λi2 hi2=>?_⟩,⟨(ft 2).trans hs.ar.1,(fv 2 omQ).trans hs.ar.2.1,λi2 hi2=>?_⟩,by rw[fx 3 omQ omQ];exact hs.ev,?_,?_,λi2 hi2=>?_,λi2 hi2=>?_,λi2 hi2=>⟨(ft _).trans (hs.il i2 hi2).1,(fv _ (by have hi3:i2<4:=Nat.lt_of_lt_of_le hi2 w4;omega)).trans (hs.il i2 hi2).2.1,λq2 hq2=>?_⟩,λi2 hi2=>?_,λi2 q2 hi2 hq2=>?_⟩
 ·obtain⟨s1,s2,s3⟩:=hs.sr.2.2 i2 hi2;have hi3:i2<4:=Nat.lt_of_lt_of_le hi2 w4;rw[fp,List.getElem?_set_ne omQ];refine⟨s1,by rw[List.getElem?_set_ne omQ,fv _ omQ];exact s2,?_⟩
  by_cases e:i2=i
  ·subst e;rw[Qdq s3,fcv]
  ·rw[List.getElem?_set_ne omQ,fv _ omQ];exact s3
 ·obtain⟨s1,s2⟩:=hs.ar.2.2 i2 hi2;have hi3:i2<4:=Nat.lt_of_lt_of_le hi2 w4;rw[fx 2 omQ omQ,fv (30+i2) omQ,fv (40+i2) omQ];exact⟨s1,s2⟩
 ·rw[fx 4 omQ omQ];exact hs.rd
 ·rw[fx 5 omQ omQ];exact hs.vw
 ·have hi3:i2<4:=Nat.lt_of_lt_of_le hi2 w4;rw[fx _ omQ omQ];exact hs.sp i2 hi2
 ·have hi3:i2<4:=Nat.lt_of_lt_of_le hi2 w4;simp only
  by_cases e:i2=i
  ·subst e;rw[QaQ];exact⟨by rw[fc];exact t1,by rw[fc];exact t2,by rw[fc],by rw[fc]⟩
  ·rw[Qa0 e,fx _ omQ omQ];exact hs.sk i2 hi2
 ·obtain⟨s1,s2,s3⟩:=(hs.il i2 hi2).2.2 q2 hq2;have hi3:i2<4:=Nat.lt_of_lt_of_le hi2 w4;rw[fx _ omQ omQ,fv _ omQ];exact⟨s1,s2,s3⟩
 ·have hi3:i2<4:=Nat.lt_of_lt_of_le hi2 w4;rw[fx _ omQ omQ];exact hs.tb i2 hi2
 ·have hi3:i2<4:=Nat.lt_of_lt_of_le hi2 w4;have hq3:q2<4:=Nat.lt_of_lt_of_le hq2 w4;rw[fx _ omQ omQ];exact hs.ap i2 q2 hi2 hq2
theorem CLX.atab(h:CLX F X w m)(i:Nat)(hi:i<m.W):∃cs a cp,GAt 0 F.ab (i*2+1) 113 cs a cp (m.tb i) w/\∀(w':World) (a':Option Addr) (c':Nat) (rs:List GX),GUpd 0 F.ab (i*2+1) 113 cs a cp (m.tb i) w a' c' rs w'->Aft F X w {m with tb:=updF m.tb i rs} w':=by
 obtain⟨L,hl,hs,rfl⟩:=h;obtain⟨w1,w4⟩:=hs.w4;obtain⟨t1,t2,t3,t4⟩:=hs.tb i hi;obtain⟨cs,a,cp,hv,hla⟩:=hl.lat (o:=i*2+1) (c:=40+i) (hs.ar.2.2 i hi).2 hs.ar.2.1 (by rw[hs.ar.1,t1];decide);have hla':=hla;rw[hs.ar.1,t1,t2,t3,t4]at hla';refine⟨cs,a,cp,hla',λw' a' c' rs hu=>?_⟩;obtain⟨hlay,hf,hx⟩:=hl.put (p:=2) (c:=40+i) (o:=i*2+1) (a':=a') (n':=rs.length) (c':=c') (xs':=gCells rs) hs.ar.2.1 omQ hv hla (by rw[hs.ar.1,t1,t2,t3];exact hu);refine⟨_,⟨_,hlay,?_,rfl⟩,hf,hx⟩;generalize hL:putL L (2) (i*2+1) (40+i) (.slice a' rs.length c') rs.length (gCells rs)=L'
 have fv:∀x,x≠40+i->(L' x).v=(L x).v:=λx hx=>by
  rw[<-hL];unfold putL;rw[if_neg hx];split
  ·rename_i e;rw[e]
  ·rfl
 have ft:∀x,(L' x).ty=(L x).ty:=λx=>by
  rw[<-hL];unfold putL;split
  ·rename_i e;rw[e]
  ·split
   ·rename_i e;rw[e]
   ·rfl
 have fx:∀x,x≠40+i->x≠2->L' x=L x:=λx h1 h2=>by rw[<-hL];exact Qbb h1 h2
 have fp:(L' (2)).xs=(L (2)).xs.set (i*2+1) (.slice a' rs.length c'):=by rw[<-hL,Qba omQ]
 have fc:L' (40+i)=⟨(L (40+i)).ty,(L (40+i)).sz,.slice a' rs.length c',rs.length,gCells rs⟩:=by rw[<-hL];exact Qa9 _ _ _ _ _ _ _
 have fcv:(L' (40+i)).v=.slice a' rs.length c':=by rw[fc]
 refine⟨⟨w1,w4⟩,⟨(ft 0).trans hs.job.1,(fv 0 omQ).trans hs.job.2.1,by rw[fx 0 omQ omQ,fv 3 omQ,fv 1 omQ,fv 2 omQ,fv 4 omQ,fv 5 omQ];exact hs.job.2.2⟩,⟨(ft 1).trans hs.sr.1,(fv 1 omQ).trans hs.sr.2.1,λi2 hi2=>?_⟩,⟨(ft 2).trans hs.ar.1,(fv 2 omQ).trans hs.ar.2.1,λi2 hi2=>?_⟩,by rw[fx 3 omQ omQ];exact hs.ev,?_,?_,λi2 hi2=>?_,λi2 hi2=>?_,λi2 hi2=>⟨(ft _).trans (hs.il i2 hi2).1,(fv _ (by have hi3:i2<4:=Nat.lt_of_lt_of_le hi2 w4;omega)).trans (hs.il i2 hi2).2.1,λq2 hq2=>?_⟩,λi2 hi2=>?_,λi2 q2 hi2 hq2=>?_⟩
 ·obtain⟨s1,s2,s3⟩:=hs.sr.2.2 i2 hi2;have hi3:i2<4:=Nat.lt_of_lt_of_le hi2 w4;rw[fx 1 omQ omQ,fv (10+i2) omQ,fv (20+i2) omQ];exact⟨s1,s2,s3⟩
 ·obtain⟨s1,s2⟩:=hs.ar.2.2 i2 hi2;have hi3:i2<4:=Nat.lt_of_lt_of_le hi2 w4;rw[fp,List.getElem?_set_ne omQ];refine⟨by rw[fv _ omQ];exact s1,?_⟩
  by_cases e:i2=i
  ·subst e;rw[Qdq s2,fcv]
  ·rw[List.getElem?_set_ne omQ,fv _ omQ];exact s2
 ·rw[fx 4 omQ omQ];exact hs.rd
 ·rw[fx 5 omQ omQ];exact hs.vw
 ·have hi3:i2<4:=Nat.lt_of_lt_of_le hi2 w4;rw[fx _ omQ omQ];exact hs.sp i2 hi2
 ·have hi3:i2<4:=Nat.lt_of_lt_of_le hi2 w4;rw[fx _ omQ omQ];exact hs.sk i2 hi2
 ·obtain⟨s1,s2,s3⟩:=(hs.il i2 hi2).2.2 q2 hq2;have hi3:i2<4:=Nat.lt_of_lt_of_le hi2 w4;rw[fx _ omQ omQ,fv _ omQ];exact⟨s1,s2,s3⟩
 ·have hi3:i2<4:=Nat.lt_of_lt_of_le hi2 w4;simp only
  by_cases e:i2=i
  ·subst e;rw[QaQ];exact⟨by rw[fc];exact t1,by rw[fc];exact t2,by rw[fc],by rw[fc]⟩
  ·rw[Qa0 e,fx _ omQ omQ];exact hs.tb i2 hi2
 ·have hi3:i2<4:=Nat.lt_of_lt_of_le hi2 w4;have hq3:q2<4:=Nat.lt_of_lt_of_le hq2 w4;rw[fx _ omQ omQ];exact hs.ap i2 q2 hi2 hq2
theorem CLX.apipe(h:CLX F X w m)(i q:Nat)(hi:i<m.W)(hq:q<m.W):∃cs a cp,PAt 0 (F.ib i) (q*3+1) 128 cs a cp (m.ap i q) w/\∀(w':World) (a':Option Addr) (c':Nat) (rs:List ItemV),PUpd 0 (F.ib i) (q*3+1) 128 cs a cp (m.ap i q) w a' c' rs w'->Aft F X w {m with ap:=updF2 m.ap i q rs} w':=by
 obtain⟨L,hl,hs,rfl⟩:=h;obtain⟨w1,w4⟩:=hs.w4;obtain⟨t1,t2,t3,t4⟩:=hs.ap i q hi hq;obtain⟨cs,a,cp,hv,hla⟩:=hl.lat (o:=q*3+1) (c:=100+10*i+q) ((hs.il i hi).2.2 q hq).2.1 (hs.il i hi).2.1 (by rw[(hs.il i hi).1,t1];decide);have hla':=hla;rw[(hs.il i hi).1,t1,t2,t3,t4]at hla';refine⟨cs,a,cp,hla',λw' a' c' rs hu=>?_⟩;obtain⟨hlay,hf,hx⟩:=hl.put (p:=30+i) (c:=100+10*i+q) (o:=q*3+1) (a':=a') (n':=rs.length) (c':=c') (xs':=itCells rs) (hs.il i hi).2.1 omQ hv hla (by rw[(hs.il i hi).1,t1,t2,t3];exact hu);refine⟨_,⟨_,hlay,?_,rfl⟩,hf,hx⟩;generalize hL:putL L (30+i) (q*3+1) (100+10*i+q) (.slice a' rs.length c') rs.length (itCells rs)=L'
 have fv:∀x,x≠100+10*i+q->(L' x).v=(L x).v:=λx hx=>by
  rw[<-hL];unfold putL;rw[if_neg hx];split
  ·rename_i e;rw[e]
  ·rfl
 have ft:∀x,(L' x).ty=(L x).ty:=λx=>by
  rw[<-hL];unfold putL;split
  ·rename_i e;rw[e]
  ·split
   ·rename_i e;rw[e]
   ·rfl
 have fx:∀x,x≠100+10*i+q->x≠30+i->L' x=L x:=λx h1 h2=>by rw[<-hL];exact Qbb h1 h2
 have fp:(L' (30+i)).xs=(L (30+i)).xs.set (q*3+1) (.slice a' rs.length c'):=by rw[<-hL,Qba omQ]
 have fc:L' (100+10*i+q)=⟨(L (100+10*i+q)).ty,(L (100+10*i+q)).sz,.slice a' rs.length c',rs.length,itCells rs⟩:=by rw[<-hL];exact Qa9 _ _ _ _ _ _ _
 have fcv:(L' (100+10*i+q)).v=.slice a' rs.length c':=by rw[fc]
 refine⟨⟨w1,w4⟩,⟨(ft 0).trans hs.job.1,(fv 0 omQ).trans hs.job.2.1,by rw[fx 0 omQ omQ,fv 3 omQ,fv 1 omQ,fv 2 omQ,fv 4 omQ,fv 5 omQ];exact hs.job.2.2⟩,⟨(ft 1).trans hs.sr.1,(fv 1 omQ).trans hs.sr.2.1,λi2 hi2=>?_⟩,⟨(ft 2).trans hs.ar.1,(fv 2 omQ).trans hs.ar.2.1,λi2 hi2=>?_⟩,by rw[fx 3 omQ omQ];exact hs.ev,?_,?_,λi2 hi2=>?_,λi2 hi2=>?_,λi2 hi2=>⟨(ft _).trans (hs.il i2 hi2).1,(fv _ (by have hi3:i2<4:=Nat.lt_of_lt_of_le hi2 w4;omega)).trans (hs.il i2 hi2).2.1,λq2 hq2=>?_⟩,λi2 hi2=>?_,λi2 q2 hi2 hq2=>?_⟩
 ·obtain⟨s1,s2,s3⟩:=hs.sr.2.2 i2 hi2;have hi3:i2<4:=Nat.lt_of_lt_of_le hi2 w4;rw[fx 1 omQ omQ,fv (10+i2) omQ,fv (20+i2) omQ];exact⟨s1,s2,s3⟩
 ·obtain⟨s1,s2⟩:=hs.ar.2.2 i2 hi2;have hi3:i2<4:=Nat.lt_of_lt_of_le hi2 w4;rw[fx 2 omQ omQ,fv (30+i2) omQ,fv (40+i2) omQ];exact⟨s1,s2⟩
 ·rw[fx 4 omQ omQ];exact hs.rd
 ·rw[fx 5 omQ omQ];exact hs.vw
 ·have hi3:i2<4:=Nat.lt_of_lt_of_le hi2 w4;rw[fx _ omQ omQ];exact hs.sp i2 hi2
 ·have hi3:i2<4:=Nat.lt_of_lt_of_le hi2 w4;rw[fx _ omQ omQ];exact hs.sk i2 hi2
 ·obtain⟨s1,s2,s3⟩:=(hs.il i2 hi2).2.2 q2 hq2;have hi3:i2<4:=Nat.lt_of_lt_of_le hi2 w4;have hq3:q2<4:=Nat.lt_of_lt_of_le hq2 w4;have hq4:q<4:=Nat.lt_of_lt_of_le hq w4
  by_cases e:i2=i
  ·subst e;rw[fp,List.getElem?_set_ne omQ];refine⟨s1,?_,by rw[List.getElem?_set_ne omQ];exact s3⟩
   by_cases e:q2=q
   ·subst e;rw[Qdq s2,fcv]
   ·rw[List.getElem?_set_ne omQ,fv _ omQ];exact s2
  ·rw[fx _ omQ omQ,fv _ omQ];exact⟨s1,s2,s3⟩
 ·have hi3:i2<4:=Nat.lt_of_lt_of_le hi2 w4;rw[fx _ omQ omQ];exact hs.tb i2 hi2
 ·have hi3:i2<4:=Nat.lt_of_lt_of_le hi2 w4;have hq3:q2<4:=Nat.lt_of_lt_of_le hq2 w4;have hq4:q<4:=Nat.lt_of_lt_of_le hq w4;simp only
  by_cases e:i2=i/\q2=q
  ·obtain⟨rfl,rfl⟩:=e;rw[Qbc];exact⟨by rw[fc];exact t1,by rw[fc];exact t2,by rw[fc],by rw[fc]⟩
  ·rw[QaK omQ,fx _ omQ omQ];exact hs.ap i2 q2 hi2 hq2
theorem CLX.ready(h:CLX F X w m):∃cs a cp,GAt 0 F.jb (7) 65 cs a cp (m.ready) w/\∀(w':World) (a':Option Addr) (c':Nat) (rs:List GX),GUpd 0 F.jb (7) 65 cs a cp (m.ready) w a' c' rs w'->Aft F X w {m with ready:=rs} w':=by
 obtain⟨L,hl,hs,rfl⟩:=h;obtain⟨w1,w4⟩:=hs.w4;obtain⟨t1,t2,t3,t4⟩:=hs.rd;obtain⟨cs,a,cp,hv,hla⟩:=hl.lat (o:=7) (c:=4) (by rw[hs.job.2.2];rfl) hs.job.2.1 (by rw[hs.job.1,t1];decide);have hla':=hla;rw[hs.job.1,t1,t2,t3,t4]at hla';refine⟨cs,a,cp,hla',λw' a' c' rs hu=>?_⟩;obtain⟨hlay,hf,hx⟩:=hl.put (p:=0) (c:=4) (o:=7) (a':=a') (n':=rs.length) (c':=c') (xs':=gCells rs) hs.job.2.1 omQ hv hla (by rw[hs.job.1,t1,t2,t3];exact hu);refine⟨_,⟨_,hlay,?_,rfl⟩,hf,hx⟩;generalize hL:putL L (0) (7) (4) (.slice a' rs.length c') rs.length (gCells rs)=L'
 have fv:∀x,x≠4->(L' x).v=(L x).v:=λx hx=>by
  rw[<-hL];unfold putL;rw[if_neg hx];split
  ·rename_i e;rw[e]
  ·rfl
 have ft:∀x,(L' x).ty=(L x).ty:=λx=>by
  rw[<-hL];unfold putL;split
  ·rename_i e;rw[e]
  ·split
   ·rename_i e;rw[e]
   ·rfl
 have fx:∀x,x≠4->x≠0->L' x=L x:=λx h1 h2=>by rw[<-hL];exact Qbb h1 h2
 have fp:(L' (0)).xs=(L (0)).xs.set (7) (.slice a' rs.length c'):=by rw[<-hL,Qba omQ]
 have fc:L' (4)=⟨(L (4)).ty,(L (4)).sz,.slice a' rs.length c',rs.length,gCells rs⟩:=by rw[<-hL];exact Qa9 _ _ _ _ _ _ _
 have fcv:(L' (4)).v=.slice a' rs.length c':=by rw[fc]
 refine⟨⟨w1,w4⟩,⟨(ft 0).trans hs.job.1,(fv 0 omQ).trans hs.job.2.1,by rw[fp,hs.job.2.2,fv 3 omQ,fv 1 omQ,fv 2 omQ,fcv,fv 5 omQ];rfl⟩,⟨(ft 1).trans hs.sr.1,(fv 1 omQ).trans hs.sr.2.1,λi2 hi2=>?_⟩,⟨(ft 2).trans hs.ar.1,(fv 2 omQ).trans hs.ar.2.1,λi2 hi2=>?_⟩,by rw[fx 3 omQ omQ];exact hs.ev,?_,?_,λi2 hi2=>?_,λi2 hi2=>?_,λi2 hi2=>⟨(ft _).trans (hs.il i2 hi2).1,(fv _ (by have hi3:i2<4:=Nat.lt_of_lt_of_le hi2 w4;omega)).trans (hs.il i2 hi2).2.1,λq2 hq2=>?_⟩,λi2 hi2=>?_,λi2 q2 hi2 hq2=>?_⟩
 ·obtain⟨s1,s2,s3⟩:=hs.sr.2.2 i2 hi2;have hi3:i2<4:=Nat.lt_of_lt_of_le hi2 w4;rw[fx 1 omQ omQ,fv (10+i2) omQ,fv (20+i2) omQ];exact⟨s1,s2,s3⟩
 ·obtain⟨s1,s2⟩:=hs.ar.2.2 i2 hi2;have hi3:i2<4:=Nat.lt_of_lt_of_le hi2 w4;rw[fx 2 omQ omQ,fv (30+i2) omQ,fv (40+i2) omQ];exact⟨s1,s2⟩
 ·exact⟨by rw[fc];exact t1,by rw[fc];exact t2,by rw[fc],by rw[fc]⟩
 ·rw[fx 5 omQ omQ];exact hs.vw
 ·have hi3:i2<4:=Nat.lt_of_lt_of_le hi2 w4;rw[fx _ omQ omQ];exact hs.sp i2 hi2
 ·have hi3:i2<4:=Nat.lt_of_lt_of_le hi2 w4;rw[fx _ omQ omQ];exact hs.sk i2 hi2
 ·obtain⟨s1,s2,s3⟩:=(hs.il i2 hi2).2.2 q2 hq2;have hi3:i2<4:=Nat.lt_of_lt_of_le hi2 w4;rw[fx _ omQ omQ,fv _ omQ];exact⟨s1,s2,s3⟩
 ·have hi3:i2<4:=Nat.lt_of_lt_of_le hi2 w4;rw[fx _ omQ omQ];exact hs.tb i2 hi2
 ·have hi3:i2<4:=Nat.lt_of_lt_of_le hi2 w4;have hq3:q2<4:=Nat.lt_of_lt_of_le hq2 w4;rw[fx _ omQ omQ];exact hs.ap i2 q2 hi2 hq2
theorem CLX.vw(h:CLX F X w m):∃cs a cp,GAt 0 F.jb (9) 65 cs a cp (m.view) w/\∀(w':World) (a':Option Addr) (c':Nat) (rs:List GX),GUpd 0 F.jb (9) 65 cs a cp (m.view) w a' c' rs w'->Aft F X w {m with view:=rs} w':=by
 obtain⟨L,hl,hs,rfl⟩:=h;obtain⟨w1,w4⟩:=hs.w4;obtain⟨t1,t2,t3,t4⟩:=hs.vw;obtain⟨cs,a,cp,hv,hla⟩:=hl.lat (o:=9) (c:=5) (by rw[hs.job.2.2];rfl) hs.job.2.1 (by rw[hs.job.1,t1];decide);have hla':=hla;rw[hs.job.1,t1,t2,t3,t4]at hla';refine⟨cs,a,cp,hla',λw' a' c' rs hu=>?_⟩;obtain⟨hlay,hf,hx⟩:=hl.put (p:=0) (c:=5) (o:=9) (a':=a') (n':=rs.length) (c':=c') (xs':=gCells rs) hs.job.2.1 omQ hv hla (by rw[hs.job.1,t1,t2,t3];exact hu);refine⟨_,⟨_,hlay,?_,rfl⟩,hf,hx⟩;generalize hL:putL L (0) (9) (5) (.slice a' rs.length c') rs.length (gCells rs)=L'
 have fv:∀x,x≠5->(L' x).v=(L x).v:=λx hx=>by
  rw[<-hL];unfold putL;rw[if_neg hx];split
  ·rename_i e;rw[e]
  ·rfl
 have ft:∀x,(L' x).ty=(L x).ty:=λx=>by
  rw[<-hL];unfold putL;split
  ·rename_i e;rw[e]
  ·split
   ·rename_i e;rw[e]
   ·rfl
 have fx:∀x,x≠5->x≠0->L' x=L x:=λx h1 h2=>by rw[<-hL];exact Qbb h1 h2
 have fp:(L' (0)).xs=(L (0)).xs.set (9) (.slice a' rs.length c'):=by rw[<-hL,Qba omQ]
 have fc:L' (5)=⟨(L (5)).ty,(L (5)).sz,.slice a' rs.length c',rs.length,gCells rs⟩:=by rw[<-hL];exact Qa9 _ _ _ _ _ _ _
 have fcv:(L' (5)).v=.slice a' rs.length c':=by rw[fc]
 refine⟨⟨w1,w4⟩,⟨(ft 0).trans hs.job.1,(fv 0 omQ).trans hs.job.2.1,by rw[fp,hs.job.2.2,fv 3 omQ,fv 1 omQ,fv 2 omQ,fcv,fv 4 omQ];rfl⟩,⟨(ft 1).trans hs.sr.1,(fv 1 omQ).trans hs.sr.2.1,λi2 hi2=>?_⟩,⟨(ft 2).trans hs.ar.1,(fv 2 omQ).trans hs.ar.2.1,λi2 hi2=>?_⟩,by rw[fx 3 omQ omQ];exact hs.ev,?_,?_,λi2 hi2=>?_,λi2 hi2=>?_,λi2 hi2=>⟨(ft _).trans (hs.il i2 hi2).1,(fv _ (by have hi3:i2<4:=Nat.lt_of_lt_of_le hi2 w4;omega)).trans (hs.il i2 hi2).2.1,λq2 hq2=>?_⟩,λi2 hi2=>?_,λi2 q2 hi2 hq2=>?_⟩
 ·obtain⟨s1,s2,s3⟩:=hs.sr.2.2 i2 hi2;have hi3:i2<4:=Nat.lt_of_lt_of_le hi2 w4;rw[fx 1 omQ omQ,fv (10+i2) omQ,fv (20+i2) omQ];exact⟨s1,s2,s3⟩
 ·obtain⟨s1,s2⟩:=hs.ar.2.2 i2 hi2;have hi3:i2<4:=Nat.lt_of_lt_of_le hi2 w4;rw[fx 2 omQ omQ,fv (30+i2) omQ,fv (40+i2) omQ];exact⟨s1,s2⟩
 ·rw[fx 4 omQ omQ];exact hs.rd
 ·exact⟨by rw[fc];exact t1,by rw[fc];exact t2,by rw[fc],by rw[fc]⟩
 ·have hi3:i2<4:=Nat.lt_of_lt_of_le hi2 w4;rw[fx _ omQ omQ];exact hs.sp i2 hi2
 ·have hi3:i2<4:=Nat.lt_of_lt_of_le hi2 w4;rw[fx _ omQ omQ];exact hs.sk i2 hi2
 ·obtain⟨s1,s2,s3⟩:=(hs.il i2 hi2).2.2 q2 hq2;have hi3:i2<4:=Nat.lt_of_lt_of_le hi2 w4;rw[fx _ omQ omQ,fv _ omQ];exact⟨s1,s2,s3⟩
 ·have hi3:i2<4:=Nat.lt_of_lt_of_le hi2 w4;rw[fx _ omQ omQ];exact hs.tb i2 hi2
 ·have hi3:i2<4:=Nat.lt_of_lt_of_le hi2 w4;have hq3:q2<4:=Nat.lt_of_lt_of_le hq2 w4;rw[fx _ omQ omQ];exact hs.ap i2 q2 hi2 hq2
theorem CLX.setJob(h:CLX F X w m)(o:Nat)(u:Value)(s a b l t f:Nat)(ho:o<11)(hj:∀v3 v1 v2 v4 v5,(jobXs m v3 v1 v2 v4 v5).set o u=jobXs {m with sent:=s,state:=a,off:=b,laid:=l,last:=t,offset:=f} v3 v1 v2 v4 v5):Aft F X w {m with sent:=s,state:=a,off:=b,laid:=l,last:=t,offset:=f} (w.setCell ⟨F.jb,o,none⟩ u):=by
 obtain⟨L,hl,hs,rfl⟩:=h;obtain⟨w1,w4⟩:=hs.w4
 have hlen:o<(L 0).xs.length:=by rw[hs.job.2.2];exact ho
 obtain⟨hlay,hf,hx⟩:=hl.set (p:=0) (o:=o) (List.getElem?_eq_getElem hlen) hs.job.2.1 u;refine⟨_,⟨_,hlay,?_,rfl⟩,hf,λg hg=>.inl (hx g hg)⟩;generalize hL:setL L 0 o u=L'
 have fx:∀x,x≠0->L' x=L x:=λx h1=>by rw[<-hL];exact QgT h1
 have fp:L' 0={L 0 with xs:=(L 0).xs.set o u}:=by rw[<-hL];exact QgS _ _ _ _
 refine⟨⟨w1,w4⟩,⟨by rw[fp];exact hs.job.1,by rw[fp];exact hs.job.2.1,?_⟩,by rw[fx 1 omQ];exact⟨hs.sr.1,hs.sr.2.1,λi2 hi2=>by rw[fx _ omQ,fx _ omQ];exact hs.sr.2.2 i2 hi2⟩,by rw[fx 2 omQ];exact⟨hs.ar.1,hs.ar.2.1,λi2 hi2=>by rw[fx _ omQ,fx _ omQ];exact hs.ar.2.2 i2 hi2⟩,by rw[fx 3 omQ];exact hs.ev,by rw[fx 4 omQ];exact hs.rd,by rw[fx 5 omQ];exact hs.vw,λi2 hi2=>by rw[fx _ omQ];exact hs.sp i2 hi2,λi2 hi2=>by rw[fx _ omQ];exact hs.sk i2 hi2,λi2 hi2=>by rw[fx (30+i2) omQ];exact⟨(hs.il i2 hi2).1,(hs.il i2 hi2).2.1,λq2 hq2=>by rw[fx _ omQ];exact(hs.il i2 hi2).2.2 q2 hq2⟩,λi2 hi2=>by rw[fx _ omQ];exact hs.tb i2 hi2,λi2 q2 hi2 hq2=>by rw[fx _ omQ];exact hs.ap i2 q2 hi2 hq2⟩;rw[fp,fx 3 omQ,fx 1 omQ,fx 2 omQ,fx 4 omQ,fx 5 omQ,<-hj,<-hs.job.2.2]
theorem CLX.setStop(h:CLX F X w m)(i q:Nat)(hi:i<m.W)(hq:q<m.W)(b:Bool):Aft F X w {m with st:=updF2 m.st i q b} (w.setCell ⟨F.ib i,q*3+2,none⟩ (.bool b)):=by
 obtain⟨L,hl,hs,rfl⟩:=h;obtain⟨w1,w4⟩:=hs.w4;have hi4:i<4:=Nat.lt_of_lt_of_le hi w4;have hq4:q<4:=Nat.lt_of_lt_of_le hq w4;obtain⟨hlay,hf,hx⟩:=hl.set (p:=30+i) (o:=q*3+2) ((hs.il i hi).2.2 q hq).2.2 (hs.il i hi).2.1 (.bool b);refine⟨_,⟨_,hlay,?_,rfl⟩,hf,λg hg=>.inl (hx g hg)⟩;generalize hL:setL L (30+i) (q*3+2) (.bool b)=L'
 have fx:∀x,x≠30+i->L' x=L x:=λx h1=>by rw[<-hL];exact QgT h1
 have fp:L' (30+i)={L (30+i)with xs:=(L (30+i)).xs.set (q*3+2) (.bool b)}:=by rw[<-hL];exact QgS _ _ _ _
 have fv:∀x,(L' x).v=(L x).v:=λx=>by
  by_cases e:x=30+i
  ·rw[e,fp]
  ·rw[fx x e]
 refine⟨⟨w1,w4⟩,by rw[fx 0 omQ,fx 3 omQ,fx 1 omQ,fx 2 omQ,fx 4 omQ,fx 5 omQ];exact hs.job,by rw[fx 1 omQ];exact⟨hs.sr.1,hs.sr.2.1,λi2 hi2=>by rw[fv,fv];exact hs.sr.2.2 i2 hi2⟩,by rw[fx 2 omQ];exact⟨hs.ar.1,hs.ar.2.1,λi2 hi2=>by rw[fv,fv];exact hs.ar.2.2 i2 hi2⟩,by rw[fx 3 omQ];exact hs.ev,by rw[fx 4 omQ];exact hs.rd,by rw[fx 5 omQ];exact hs.vw,λi2 hi2=>?_,λi2 hi2=>?_,λi2 hi2=>?_,λi2 hi2=>?_,λi2 q2 hi2 hq2=>?_⟩
 ·have hi3:i2<4:=Nat.lt_of_lt_of_le hi2 w4;rw[fx _ omQ];exact hs.sp i2 hi2
 ·have hi3:i2<4:=Nat.lt_of_lt_of_le hi2 w4;rw[fx _ omQ];exact hs.sk i2 hi2
 ·by_cases e:i2=i
  ·subst e;refine⟨by rw[fp];exact(hs.il i2 hi2).1,by rw[fp];exact(hs.il i2 hi2).2.1,λq2 hq2=>?_⟩;obtain⟨s1,s2,s3⟩:=(hs.il i2 hi2).2.2 q2 hq2;rw[fp,fv];simp only;rw[List.getElem?_set_ne omQ,List.getElem?_set_ne omQ];refine⟨s1,s2,?_⟩
   by_cases e:q2=q
   ·subst e;rw[Qdq s3,Qbc]
   ·rw[List.getElem?_set_ne omQ,QaK omQ];exact s3
  ·rw[fx (30+i2) omQ];refine⟨(hs.il i2 hi2).1,(hs.il i2 hi2).2.1,λq2 hq2=>?_⟩;rw[fv];simp only;rw[QaK omQ];exact(hs.il i2 hi2).2.2 q2 hq2
 ·have hi3:i2<4:=Nat.lt_of_lt_of_le hi2 w4;rw[fx _ omQ];exact hs.tb i2 hi2
 ·rw[fx _ omQ];exact hs.ap i2 q2 hi2 hq2
end
end
section
structure ChgM where
 pt:Int
 tx:ByteArray
 live:Int
 delta:Int
def barM:ChgM:=⟨-1,⟨#[]⟩,0,0⟩
structure SorterM where
 got:List Ev
 pipe:List Int
 marked:Nat
 kept:Nat
 passed:Bool
structure AdderM where
 got:List ChgM
 pipes:List (List ChgM)
 stopped:List Bool
 marked:Nat
 kept:Nat
 passed:Bool
structure RowM where
 pt:Int
 tx:ByteArray
 live:Int
 sum:Int
 ev:Nat
structure JobM where
 width:Nat
 room:Nat
 events:List Ev
 sent:Nat
 sorters:List SorterM
 adders:List AdderM
 number:Nat
 under:Bool
 barriers:Bool
 off:Nat
 complete:Bool
 base:Nat
 rows:List RowM
def newS:SorterM:=⟨[],[],0,0,false⟩
def newA(width:Nat):AdderM:=⟨[],List.replicate width [],List.replicate width false,0,0,false⟩
def newJ(width room:Nat)(events:List Ev):JobM:=⟨width,room,events,0,List.replicate width newS,List.replicate width (newA width),0,false,false,0,false,0,[]⟩
theorem Qjk{g:Nat->UInt8->Nat}(l:List UInt8)(b:UInt8)(h:Nat):(l++[b]).foldl g h=g (l.foldl g h) b:=by
 rw[List.foldl_append]
 rfl
theorem QlV{g:Nat->UInt8->Nat}{N:Nat}(hg:∀h b,g h b<N)(l:List UInt8)(h:Nat)(hh:h<N):l.foldl g h<N:=by
 induction l generalizing h with
 | nil=>exact hh
 | cons b l ih=>exact ih _ (hg _ _)
def hstep(h b:Nat):Nat:=(h ^^^ b)*16777619 % 4294967296
theorem QlW(h b:Nat):hstep h b<4294967296:=Nat.mod_lt _ (by decide)
def hfun:Nat->UInt8->Nat:=λh b=>hstep h b.toNat
theorem QiS(h:Nat)(b:UInt8):hfun h b=hstep h b.toNat:=by unfold hfun;with_reducible rfl
def hashL(l:List UInt8)(h:Nat):Nat:=l.foldl hfun h
def hashS(key:ByteArray):Nat:=hashL key.data.toList 2166136261
theorem Qjl(l:List UInt8)(b:UInt8)(h:Nat):hashL (l++[b]) h=hstep (hashL l h) b.toNat:=by
 unfold hashL;rw[Qjk,QiS]
theorem Qg1(l:List UInt8)(h:Nat)(hh:h<4294967296):hashL l h<4294967296:=by
 unfold hashL;exact QlV (λh b=>by rw[QiS];exact QlW _ _) l h hh
def JobM.trigger(j:JobM):Nat × Nat × JobM:=
 if j.under then(0,10,j)
 else(j.number+1,0,{j with under:=true,barriers:=false,complete:=false,sorters:=j.sorters.map (λs=>{s with passed:=false}),adders:=j.adders.map (λa=>{a with passed:=false}),number:=j.number+1})
def JobM.source(j:JobM):Nat × JobM:=
 if j.under && !j.barriers then
  if j.sorters.any (λs=>decide (s.pipe.length=j.room))then(9,j)
  else(0,{j with sorters:=j.sorters.map (λs=>{s with pipe:=s.pipe++[-1]}),barriers:=true,off:=j.sent})
 else match j.events[j.sent]? with
  | none=>(8,j)
  | some e=>match j.sorters[hashS e.key % j.width]? with
   | none=>(9,j)
   | some s=>if s.pipe.length=j.room then(9,j)else(0,{j with sorters:=j.sorters.set (hashS e.key % j.width) {s with pipe:=s.pipe++[(j.sent:Int)]},sent:=j.sent+1})
def chgOf(k:Kn)(e:Ev):ChgM:=
 ⟨(grp e.key).1,(grp e.key).2,(if e.op=1 then 1 else 0)-(if k.there then 1 else 0),(if e.op=1 then e.val else 0)-(if k.there then k.value else 0)⟩
def AdderM.push(a:AdderM)(i:Nat)(c:ChgM):AdderM:={a with pipes:=a.pipes.modify i (·++[c])}
def AdderM.waits(a:AdderM)(i:Nat):Nat:=(a.pipes.getD i []).length
def JobM.sorts(j:JobM)(i:Nat):Nat × JobM:=
 match j.sorters[i]? with
 | none=>(8,j)
 | some s=>match s.pipe with
  | []=>(8,j)
  | x :: rest=>
   if x<0 then
    if j.adders.any (λa=>decide (a.waits i=j.room))then(9,j)
    else(0,{j with adders:=j.adders.map (λa=>a.push i barM),sorters:=j.sorters.set i {s with marked:=s.got.length,passed:=true,pipe:=rest}})
   else match j.events[x.toNat]? with
    | none=>(8,j)
    | some e=>
     if(knOf e.key s.got).counts e then
      match j.adders[(grp e.key).1 % j.width]? with
      | none=>(9,j)
      | some a=>
       if a.waits i=j.room then(9,j)
       else(0,{j with adders:=j.adders.set ((grp e.key).1 % j.width) (a.push i (chgOf (knOf e.key s.got) e)),sorters:=j.sorters.set i {s with got:=s.got++[e],pipe:=rest}})
     else(0,{j with sorters:=j.sorters.set i {s with got:=s.got++[e],pipe:=rest}})
def AdderM.firstOpen(a:AdderM):Nat:=(a.stopped.zip a.pipes).findIdx (λx=>!x.1 && !x.2.isEmpty)
def AdderM.take(a:AdderM)(width:Nat):Option AdderM:=
 match a.pipes[a.firstOpen]? with
 | some (c :: rest)=>
  if 0<=c.pt then some {a with pipes:=a.pipes.set a.firstOpen rest,got:=a.got++[c]}
  else if(a.stopped.set a.firstOpen true).all id then some {a with pipes:=a.pipes.set a.firstOpen rest,stopped:=List.replicate width false,marked:=a.got.length,passed:=true}
  else some {a with pipes:=a.pipes.set a.firstOpen rest,stopped:=a.stopped.set a.firstOpen true}
 | _=>none
def JobM.adds(j:JobM)(i:Nat):Nat × JobM:=
 match j.adders[i]? with
 | none=>(8,j)
 | some a=>match a.take j.width with
  | none=>(8,j)
  | some a'=>(0,{j with adders:=j.adders.set i a'})
def rowM(l:List ChgM)(p:Int):RowM:=
 l.foldl (λr c=>if c.pt=p then⟨p,c.tx,r.live+c.live,r.sum+c.delta,r.ev+1⟩else r) ⟨0,⟨#[]⟩,0,0,0⟩
def putRow(rows:List RowM)(r:RowM):List RowM:=
 if rows.findIdx (λx=>decide (x.pt=r.pt))=rows.length then rows++[r]else rows.set (rows.findIdx (λx=>decide (x.pt=r.pt))) r
def AdderM.laid(a:AdderM)(rows:List RowM):List RowM:=((a.got.take a.marked).drop a.kept).foldl (λrs c=>putRow rs (rowM (a.got.take a.marked) c.pt)) rows
def JobM.commit(j:JobM):JobM:=
 {j with sorters:=j.sorters.map (λs=>{s with kept:=s.marked}),adders:=j.adders.map (λa=>{a with kept:=a.marked}),rows:=j.adders.foldl (λrs a=>a.laid rs) j.rows,base:=j.off,under:=false}
def JobM.passedAll(j:JobM):Bool:=j.under && j.barriers && j.sorters.all (·.passed) && j.adders.all (·.passed)
def JobM.keeps(j:JobM):Nat × JobM:=
 if j.under && j.complete then(0,j.commit)else if j.passedAll then(0,{j with complete:=true})else(8,j)
def JobM.step(j:JobM)(t:Int):Nat × JobM:=
 if t<0\/2*(j.width:Int)+1<t then(7,j)
 else if t=0 then j.source
 else if t<=(j.width:Int)then j.sorts (t-1).toNat
 else if t<=2*(j.width:Int)then j.adds (t-(j.width:Int)-1).toNat
 else j.keeps
def JobM.queue(j:JobM)(t:Int):List Int × Nat:=
 if t<0\/2*(j.width:Int)+1<t then([],7)
 else if t=0 then([(j.events.length:Int)-(j.sent:Int)],0)
 else if t<=(j.width:Int)then([(((j.sorters.getD (t-1).toNat newS).pipe.length:Nat):Int)],0)
 else if t<=2*(j.width:Int)then(((j.adders.getD (t-(j.width:Int)-1).toNat (newA 0)).pipes.map λp=>(p.length:Int)),0)
 else if j.passedAll then([1],0)else([0],0)
def outsFrom(pre:List Ev):List Ev->List ChgM
 | []=>[]
 | e :: es=>(if(knOf e.key pre).counts e then[chgOf (knOf e.key pre) e]else[])++outsFrom (pre++[e]) es
def outs(es:List Ev):List ChgM:=outsFrom [] es
def out1(pre:List Ev)(e:Ev):List ChgM:=if(knOf e.key pre).counts e then[chgOf (knOf e.key pre) e]else[]
theorem Qgj(es:List Ev):∀(pre:List Ev) (e:Ev),outsFrom pre (es++[e])=outsFrom pre es++out1 (pre++es) e:=by
 induction es with
 | nil=>intro pre e;simp[outsFrom,out1]
 | cons x es ih=>
  intro pre e;simp only[List.cons_append,outsFrom,ih,List.append_assoc,List.nil_append]
theorem Qd4(es:List Ev)(e:Ev):outs (es++[e])=outs es++out1 es e:=by
 unfold outs;rw[Qgj,List.nil_append]
def sumC(g:ChgM->Int)(p:Nat):List ChgM->Int
 | []=>0
 | c :: l=>(if c.pt=(p:Int)then g c else 0)+sumC g p l
theorem QaF(g:ChgM->Int)(p:Nat)(a b:List ChgM):sumC g p (a++b)=sumC g p a+sumC g p b:=by
 induction a with
 | nil=>simp[sumC]
 | cons c l ih=>simp only[List.cons_append,sumC,ih];omega
theorem QbX{g:ChgM->Int}{p:Nat}{a b:List ChgM}(h:a.Perm b):sumC g p a=sumC g p b:=by
 induction h with
 | nil=>rfl
 | cons x _ ih=>simp only[sumC,ih]
 | swap x y l=>simp only[sumC];omega
 | trans _ _ h1 h2=>exact h1.trans h2
def toA(W k:Nat)(l:List ChgM):List ChgM:=l.filter (λc=>decide (c.pt.toNat % W=k))
theorem Qfj(W k:Nat)(a b:List ChgM):toA W k (a++b)=toA W k a++toA W k b:=List.filter_append _ _
theorem QlX(g:ChgM->Int)(W p:Nat)(l:List ChgM):sumC g p (toA W (p % W) l)=sumC g p l:=by
 induction l with
 | nil=>rfl
 | cons c l ih=>
  unfold toA at ih ⊢;rw[List.filter_cons];split
  ·simp only[sumC,ih]
  ·rename_i h
   have hne:¬c.pt=(p:Int):=λe=>h (by rw[e];simp)
   simp only[sumC,if_neg hne,ih,Int.zero_add]
def evs(W:Nat)(E:List Ev)(n i:Nat):List Ev:=(E.take n).filter (λe=>decide (hashS e.key % W=i))
theorem QbT{W:Nat}{E:List Ev}{n:Nat}(h:n<E.length)(i:Nat):evs W E (n+1) i=evs W E n i++(if hashS E[n].key % W=i then[E[n]]else[]):=by
 unfold evs;rw[List.take_succ_eq_append_getElem h,List.filter_append];congr 1
 by_cases c:hashS E[n].key % W=i
 ·rw[if_pos c];simp[c]
 ·rw[if_neg c];simp[c]
theorem QlY(W:Nat)(E:List Ev)(n:Nat)(key:ByteArray):knOf key (evs W E n (hashS key % W))=knOf key (E.take n):=by
 unfold knOf evs;rw[List.filter_filter];congr 1;apply List.filter_congr;intro e _
 by_cases h:e.key=key
 ·simp[h]
 ·simp[h]
def sumI(h:Nat->Int):Nat->Int
 | 0=>0
 | n+1=>sumI h n+h n
theorem QdI{h h':Nat->Int}{n:Nat}(e:∀i,i<n->h i=h' i):sumI h n=sumI h' n:=by
 induction n with
 | zero=>rfl
 | succ n ih=>simp only[sumI];rw[ih λi hi=>e i omQ,e n omQ]
theorem QlZ{h h':Nat->Int}{n i0:Nat}(hi:i0<n)(e:∀i,i<n->i≠i0->h' i=h i):sumI h' n=sumI h n+(h' i0-h i0):=by
 induction n with
 | zero=>omega
 | succ n ih=>
  simp only[sumI]
  by_cases c:i0=n
  ·subst c;rw[QdI (h:=h') (h':=h) λi hi=>e i omQ omQ];omega
  ·rw[ih omQ λi hi' hne=>e i omQ hne,e n omQ (λx=>c x.symm)];omega
structure Says (g:ChgM->Int) (f:Kn->Int):Prop where
 none:f Kn.none=0
 chg:∀(k:Kn) (e:Ev),k.counts e=true->g (chgOf k e)=f (k.step e)-f k
theorem says_live:Says (λc=>c.live) fLive:=by
 refine⟨rfl,λk e h=>?_⟩;unfold chgOf Kn.step fLive;rw[if_pos h]
 by_cases c:e.op=1<;>simp[c]
theorem says_sum:Says (λc=>c.delta) fSum:=by
 refine⟨rfl,λk e h=>?_⟩;unfold chgOf Kn.step fSum;rw[if_pos h]
 by_cases c:e.op=1<;>simp[c]
theorem Ql0:Says (λ_=>1) fCnt:=by
 refine⟨rfl,λk e h=>?_⟩;unfold Kn.step fCnt;rw[if_pos h];simp only;omega
theorem Ql1{g:ChgM->Int}{f:Kn->Int}(hs:Says g f)(pre:List Ev)(e:Ev)(p:Nat):sumC g p (out1 pre e)=if(grp e.key).1=p then f ((knOf e.key pre).step e)-f (knOf e.key pre)else 0:=by
 unfold out1
 by_cases c:(knOf e.key pre).counts e=true
 ·rw[if_pos c];simp only[sumC,Int.add_zero,hs.chg _ _ c];have:(chgOf (knOf e.key pre) e).pt=((grp e.key).1:Int):=rfl;rw[this]
  by_cases d:(grp e.key).1=p
  ·rw[if_pos d,if_pos omQ]
  ·rw[if_neg d,if_neg omQ]
 ·rw[if_neg c]
  have:(knOf e.key pre).step e=knOf e.key pre:=by unfold Kn.step;rw[if_neg c]
  rw[this];simp[sumC]
theorem Qg2{g:ChgM->Int}{f:Kn->Int}(hs:Says g f){W:Nat}(hW:0<W)(E:List Ev)(p:Nat):∀n,n<=E.length->sumI (λi=>sumC g p (outs (evs W E n i))) W=tot f (E.take n) p
 | 0,_=>by
  have:∀i,i<W->sumC g p (outs (evs W E 0 i))=0:=λi _=>by simp[evs,outs,outsFrom,sumC]
  rw[QdI this]
  have hz:∀n,sumI (λ_=>(0:Int)) n=0:=λn=>by
   induction n with
   | zero=>rfl
   | succ n ih=>simp only[sumI,ih];rfl
  rw[hz]
  simp[tot,keysOf,sumK]
 | n+1,hn=>by
  have ih:=Qg2 hs hW E p n omQ;have hl:n<E.length:=omQ;rw[List.take_succ_eq_append_getElem hl,QaS f hs.none,<-ih];rw[QlZ (i0:=hashS E[n].key % W) (h:=λi=>sumC g p (outs (evs W E n i))) (Nat.mod_lt _ hW) (λi _ hne=>by rw[QbT hl,if_neg (Ne.symm hne),List.append_nil])];congr 1;rw[QbT hl,if_pos rfl,Qd4,QaF,Ql1 hs,QlY];omega
def allTo(W k n:Nat)(E:List Ev):List ChgM:=(List.range W).flatMap (λi=>toA W k (outs (evs W E n i)))
theorem Qf2(g:ChgM->Int)(p:Nat)(h:Nat->List ChgM):∀n,sumC g p ((List.range n).flatMap h)=sumI (λi=>sumC g p (h i)) n
 | 0=>rfl
 | n+1=>by
  rw[List.range_succ,List.flatMap_append,QaF,Qf2 g p h n];simp[sumI]
theorem Qd5{g:ChgM->Int}{f:Kn->Int}(hs:Says g f){W:Nat}(hW:0<W)(E:List Ev)(p n:Nat)(hn:n<=E.length):sumC g p (allTo W (p % W) n E)=tot f (E.take n) p:=by
 unfold allTo;rw[Qf2,<-Qg2 hs hW E p n hn]
 exact QdI λi _=>QlX g W p _
theorem QmM(p:Nat)(es:List Ev):0<=tot fCnt es p/\(p∈ptsOf es↔0<tot fCnt es p):=by
 induction es using QaI with
 | h0=>simp[ptsOf,tot,keysOf,sumK]
 | h1 l e ih=>
  rw[QbK,QfF,QaS fCnt rfl]
  have hstep:fCnt ((knOf e.key l).step e)-fCnt (knOf e.key l)=if(knOf e.key l).counts e then 1 else 0:=by
   unfold Kn.step fCnt;split
   ·simp only;omega
   ·omega
  by_cases c:(grp e.key).1=p
  ·rw[if_pos c,hstep]
   by_cases d:(knOf e.key l).counts e=true
   ·rw[if_pos d];refine⟨by omega,⟨λ_=>by omega,λ_=>.inl c.symm⟩⟩
   ·rw[if_neg d]
    have hm:e.key∈keysOf l:=Classical.byContradiction λx=>d (Qbu x)
    have hp:p∈ptsOf l:=(Qbj p l).2 ⟨e.key,hm,c⟩;have:=ih.2.1 hp;exact⟨by omega,⟨λ_=>by omega,λ_=>.inr hp⟩⟩
  ·rw[if_neg c];refine⟨by omega,⟨λh=>?_,λh=>?_⟩⟩
   ·rcases h with h | h
    ·exact absurd h.symm c
    ·have:=ih.2.1 h;omega
   ·exact .inr (ih.2.2 omQ)
theorem QcN(p:Nat)(l:List ChgM):0<=sumC (λ_=>1) p l/\(0<sumC (λ_=>1) p l↔∃c∈l,c.pt=(p:Int)):=by
 induction l with
 | nil=>simp[sumC]
 | cons c l ih=>
  simp only[sumC]
  by_cases d:c.pt=(p:Int)
  ·rw[if_pos d];exact⟨by omega,⟨λ_=>⟨c,by simp,d⟩,λ_=>by omega⟩⟩
  ·rw[if_neg d];refine⟨by omega,⟨λh=>?_,λh=>?_⟩⟩
   ·obtain⟨x,hx,hp⟩:=ih.2.1 omQ;exact⟨x,by simp[hx],hp⟩
   ·obtain⟨x,hx,hp⟩:=h
    rcases List.mem_cons.1 hx with e | hx
    ·exact absurd (e ▸ hp) d
    ·have:=ih.2.2 ⟨x,hx,hp⟩;omega
def JobM.fl(j:JobM):Bool:=j.under && j.barriers
def JobM.forget(j:JobM):JobM:=
 {j with under:=false,sent:=j.base,sorters:=j.sorters.map (λs=>⟨s.got.take s.kept,[],s.kept,s.kept,false⟩),adders:=j.adders.map (λa=>⟨a.got.take a.kept,List.replicate j.width [],List.replicate j.width false,a.kept,a.kept,false⟩)}
def JobM.fail(j:JobM):JobM:=if j.under && j.complete then j.commit.forget else j.forget
def idx(E:List Ev)(l:List Int):Prop:=∀x∈l,0<=x/\x.toNat<E.length
def evsAt(E:List Ev)(l:List Int):List Ev:=l.flatMap (λx=>(E[x.toNat]?).toList)
def clean(l:List ChgM):Prop:=∀c∈l,0<=c.pt
theorem Qd6(E:List Ev)(a b:List Int):evsAt E (a++b)=evsAt E a++evsAt E b:=by simp[evsAt]
theorem idx_append{E:List Ev}{a b:List Int}:idx E (a++b)↔idx E a/\idx E b:=by
 unfold idx;constructor
 ·exact λh=>⟨λx hx=>h x (by simp[hx]),λx hx=>h x (by simp[hx])⟩
 ·rintro⟨h1,h2⟩ x hx
  rcases List.mem_append.1 hx with hx | hx
  ·exact h1 x hx
  ·exact h2 x hx
theorem clean_append{a b:List ChgM}:clean (a++b)↔clean a/\clean b:=by
 unfold clean;constructor
 ·exact λh=>⟨λx hx=>h x (by simp[hx]),λx hx=>h x (by simp[hx])⟩
 ·rintro⟨h1,h2⟩ x hx
  rcases List.mem_append.1 hx with hx | hx
  ·exact h1 x hx
  ·exact h2 x hx
structure SOk (E:List Ev) (W i sent off base:Nat) (fl:Bool) (s:SorterM):Prop where
 kept_le:s.kept<=s.got.length
 kept_eq:s.got.take s.kept=evs W E base i
 wait:fl=true->s.passed=false->∃p1 p2,s.pipe=p1++(-1) :: p2/\idx E p1/\idx E p2/\s.got++evsAt E p1=evs W E off i/\s.got++evsAt E p1++evsAt E p2=evs W E sent i
 free:(fl=true->s.passed=true)->idx E s.pipe/\s.got++evsAt E s.pipe=evs W E sent i
 mark:fl=true->s.passed=true->s.kept<=s.marked/\s.marked<=s.got.length/\s.got.take s.marked=evs W E off i
 still:(fl=true->s.passed=false)->s.marked=s.kept
structure LOk (fl sp ap st:Bool) (offO gotO pipe R:List ChgM):Prop where
 mid:fl=true->sp=true->ap=false->st=false->∃q1 q2,pipe=q1++barM :: q2/\clean q1/\clean q2/\R++q1=offO/\R++q1++q2=gotO
 free:¬(fl=true/\sp=true/\ap=false/\st=false)->clean pipe/\R++pipe=gotO
 stop:st=true->fl=true/\sp=true/\ap=false/\R=offO
structure AOk (E:List Ev) (W k off base:Nat) (fl:Bool) (S:List SorterM) (a:AdderM):Prop where
 lenP:a.pipes.length=W
 lenS:a.stopped.length=W
 kept_le:a.kept<=a.got.length
 kept_perm:(a.got.take a.kept).Perm (allTo W k base E)
 still:(fl=true->a.passed=false)->a.marked=a.kept
 mark:fl=true->a.passed=true->a.kept<=a.marked/\a.marked<=a.got.length/\(a.got.take a.marked).Perm (allTo W k off E)/\∀s∈S,s.passed=true
 links:∃R:Nat->List ChgM,a.got.Perm ((List.range W).flatMap R)/\∀i,i<W->∀s st pipe,S[i]? =some s->a.stopped[i]? =some st->a.pipes[i]? =some pipe->LOk fl s.passed a.passed st (toA W k (outs (evs W E off i))) (toA W k (outs s.got)) pipe (R i)
structure FlowOk (j:JobM):Prop where
 hW:0<j.width
 lenS:j.sorters.length=j.width
 lenA:j.adders.length=j.width
 sent:j.sent<=j.events.length
 base:j.base<=j.sent
 off:j.fl=true->j.base<=j.off/\j.off<=j.sent
 fresh:j.under=true->j.barriers=false->(∀s∈j.sorters,s.passed=false)/\(∀a∈j.adders,a.passed=false)
 comp:j.under=true->j.complete=true->j.barriers=true/\(∀s∈j.sorters,s.passed=true)/\(∀a∈j.adders,a.passed=true)
 sorters:∀i s,j.sorters[i]? =some s->SOk j.events j.width i j.sent j.off j.base j.fl s
 adders:∀k a,j.adders[k]? =some a->AOk j.events j.width k j.off j.base j.fl j.sorters a
theorem QdJ(W:Nat)(E:List Ev)(i:Nat):evs W E 0 i=[]:=by simp[evs]
theorem QeV{R:Nat->List ChgM}(h:∀i,R i=[]):∀n,(List.range n).flatMap R=[]
 | 0=>rfl
 | n+1=>by rw[List.range_succ,List.flatMap_append,QeV h n];simp[h]
theorem Qfk(W k:Nat)(E:List Ev):allTo W k 0 E=[]:=QeV (λi=>by simp[QdJ,outs,outsFrom,toA]) W
theorem Qg3(width room:Nat)(events:List Ev)(hW:0<width):FlowOk (newJ width room events):=by
 refine⟨hW,by simp[newJ],by simp[newJ],Nat.zero_le _,Nat.le_refl _,λh=>by simp[JobM.fl,newJ]at h,λh=>by simp[newJ]at h,λh=>by simp[newJ]at h,λi s hs=>?_,λk a ha=>?_⟩
 ·simp only[newJ,List.getElem?_replicate]at hs;split at hs
  ·simp only[Option.some.injEq]at hs;subst hs;refine⟨Nat.le_refl _,by simp[newS,newJ,QdJ],λh=>by simp[JobM.fl,newJ]at h,λ_=>⟨by simp[idx,newS],by simp[newS,newJ,evsAt,QdJ]⟩,λh=>by simp[JobM.fl,newJ]at h,λ_=>rfl⟩
  ·cases hs
 ·simp only[newJ,List.getElem?_replicate]at ha;split at ha
  ·simp only[Option.some.injEq]at ha;subst ha;refine⟨by simp[newA,newJ],by simp[newA,newJ],Nat.le_refl _,by simp[newA,newJ,Qfk],λ_=>rfl,λh=>by simp[JobM.fl,newJ]at h,λ_=>[],by rw[QeV (λ_=>rfl)];simp[newA],λi hi s st pipe h1 h2 h3=>?_⟩;simp only[newJ,newA,List.getElem?_replicate]at h1 h2 h3 hi;rw[if_pos hi]at h1 h2 h3;simp only[Option.some.injEq]at h1 h2 h3;subst h1 h2 h3;exact⟨λh=>by simp[JobM.fl,newJ]at h,λ_=>⟨by simp[clean],by simp[newS,outs,outsFrom,toA]⟩,λh=>by cases h⟩
  ·cases ha
theorem Qd7{j:JobM}(h:FlowOk j):FlowOk j.trigger.2.2:=by
 unfold JobM.trigger
 by_cases hu:j.under=true
 ·rw[if_pos hu];exact h
 ·rw[if_neg hu]
  have hfl:j.fl=false:=by unfold JobM.fl;simp[hu]
  refine⟨h.hW,by simpa using h.lenS,by simpa using h.lenA,h.sent,h.base,λh=>by simp[JobM.fl]at h,λ_ _=>⟨by simp,by simp⟩,λ_ h=>by simp at h,λi s hs=>?_,λk a ha=>?_⟩
  ·simp only[List.getElem?_map,Option.map_eq_some_iff]at hs;obtain⟨s0,hs0,rfl⟩:=hs;have o:=h.sorters i s0 hs0;rw[hfl]at o;exact⟨o.kept_le,o.kept_eq,λh=>by simp[JobM.fl]at h,λ_=>o.free (by simp),λh=>by simp[JobM.fl]at h,λ_=>o.still (by simp)⟩
  ·simp only[List.getElem?_map,Option.map_eq_some_iff]at ha;obtain⟨a0,ha0,rfl⟩:=ha;have o:=h.adders k a0 ha0;rw[hfl]at o;obtain⟨R,hR,hL⟩:=o.links;refine⟨o.lenP,o.lenS,o.kept_le,o.kept_perm,λ_=>o.still (by simp),λh=>by simp[JobM.fl]at h,R,hR,λi hi s st pipe h1 h2 h3=>?_⟩;simp only[List.getElem?_map,Option.map_eq_some_iff]at h1;obtain⟨s0,hs0,rfl⟩:=h1;have l:=hL i hi s0 st pipe hs0 h2 h3;exact⟨λh=>by simp[JobM.fl]at h,λ_=>l.free (by simp),λh=>by have:=(l.stop h).1;cases this⟩
end
end Go.Proofs.YthccpacmklhejabGreatDoor
