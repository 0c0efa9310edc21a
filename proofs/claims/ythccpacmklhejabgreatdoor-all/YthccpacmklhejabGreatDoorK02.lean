import Derived.Test.YthccpacmklhejabGreatDoorTk
import Derived.Test.YthccpacmklhejabGreatDoorK01
import Derived.Deep.RegionWith
import Derived.Deep.RegionHeld3
import Derived.BigRegion
set_option maxHeartbeats 1000000
set_option maxRecDepth 100000
namespace Go.Proofs.YthccpacmklhejabGreatDoor
section
open Go.RowKit
def evZero:Ev:=⟨0,⟨#[]⟩,0,0⟩
theorem QhF(s:ByteArray)(w:World)(h:s.size<2):
  Calls Tryz.prog 57 #[.string s] w λen w'=>en=.returned (.tuple #[evZero.value,.int .i64 0])/\Below w.heap.size w w':=by
 unfold evZero Ev.value;go_enter Tryz.func57,Tryz.ntmps57;go_wp2;exact bodyPost_ret (v:=.tuple #[.agg #[.int .u8 0,.string ⟨#[]⟩,.int .u16 0,.int .i16 0],.int .i64 0]) (by simp[results,Tryz.results57,go_sem]) rfl ⟨rfl,(Below.refl _ _).alloc (Nat.le_refl _) _⟩
theorem QfO{w w1:World}{o p:Obj}(hb:Below (((w.alloc o).alloc p).drew.drew).heap.size (((w.alloc o).alloc p).drew.drew) w1):Below w.heap.size w w1:=
 (((((Below.refl _ w).alloc (Nat.le_refl _) o).alloc (by simp) p).drew).drew).trans (hb.mono (by simp;omega))
theorem Qe3{w w1:World}{o p:Obj}(hb:Below (((w.alloc o).alloc p).drew).heap.size (((w.alloc o).alloc p).drew) w1):Below w.heap.size w w1:=
 ((((Below.refl _ w).alloc (Nat.le_refl _) o).alloc (by simp) p).drew).trans (hb.mono (by simp;omega))
theorem Qdk(s:ByteArray)(i:Nat)(j:Int)(hj:j=i)(h:i<s.size):∃h':j.toNat<s.size,s[j.toNat]'h'=s[i]'h:=by
 subst hj;exact⟨h,rfl⟩
theorem Qki(s:ByteArray)(w:World)(k a b c d:Nat)(val:Int)(h2:2<=s.size)(h0:(s[0]'omQ).toNat=1)(hk:(s[1]'omQ).toNat=k)(hk':k<256)(hsz:k+7<=s.size)(hmx:s.size<=400)
  (ha:(s[2+k]'omQ).toNat=a) (hb:(s[2+k+1]'omQ).toNat=b) (hc:(s[2+k+2]'omQ).toNat=c) (hd:(s[2+k+2+1]'omQ).toNat=d) (a':a<256) (b':b<256) (c':c<256) (d':d<256)
  (hval:IntKind.i16.wrap ((c:Int)*256+d)=val) (t:ByteArray) (r:Nat)
  (hE:∀w,Calls Tryz.prog 36 #[.agg #[.int .u8 1,.string (s.extract 2 (2+k)),.int .u16 ((a:Int)*256+b),.int .i16 val]] w λen w'=>en=.returned (.tuple #[.string t,.int .i64 (r:Int)])/\Below w.heap.size w w')
  (out:Value) (Hout:Hid ((r=0/\t.toList=(s.extract 0 (2+k+2+1+2)).toList->out=.tuple #[.agg #[.int .u8 1,.string (s.extract 2 (2+k)),.int .u16 ((a:Int)*256+b),.int .i16 val],.int .i64 (2+(k:Int)+2+1+2)])/\(¬(r=0/\t.toList=(s.extract 0 (2+k+2+1+2)).toList)->out=.tuple #[evZero.value,.int .i64 0]))):
  Calls Tryz.prog 57 #[.string s] w λen w'=>en=.returned out/\Below w.heap.size w w':=by
 have HE:=hdQ hE;clear hE
 have iA:(s[((2:Int)+(k:Int)).toNat]'omQ).toNat=a:=by rw[<-ha];exact congrArg UInt8.toNat (Qdk s (2+k) _ omQ _).2
 have iB:(s[((2:Int)+(k:Int)+1).toNat]'omQ).toNat=b:=by rw[<-hb];exact congrArg UInt8.toNat (Qdk s (2+k+1) _ omQ _).2
 have iC:(s[((2:Int)+(k:Int)+2).toNat]'omQ).toNat=c:=by rw[<-hc];exact congrArg UInt8.toNat (Qdk s (2+k+2) _ omQ _).2
 have iD:(s[((2:Int)+(k:Int)+2+1).toNat]'omQ).toNat=d:=by rw[<-hd];exact congrArg UInt8.toNat (Qdk s (2+k+2+1) _ omQ _).2
 clear ha hb hc hd;go_enter Tryz.func57,Tryz.ntmps57;go_wp2;refine wp_region_any krQ ?_
 try (change wpAny _ _ _ _ _ _ _ (World.drew _))
 refine wpAny_take (i:=0) (v:=.string s) rfl krQ krQ krQ (λ_ _ _ h=>h) (Or.inl ⟨by rfl,by intro w;go_simp⟩) ?_;refine wpAny_take (i:=1) (v:=.int .u8 1) rfl krQ krQ krQ (λ_ _ _ h=>h) (Or.inl ⟨by rfl,by intro w;go_simp;intro h;exfalso;rw[h]at h2;exact absurd h2 (by decide)⟩) ?_;refine wpAny_take (i:=2) (v:=.string s) rfl krQ krQ krQ (λ_ _ _ h=>h) (Or.inl ⟨by rfl,by intro w;go_simp⟩) ?_;refine wpAny_take (i:=3) (v:=.int .i64 (2+k)) rfl krQ krQ krQ (λ_ _ _ h=>h) (Or.inl ⟨by rfl,by intro w;go_simp⟩) ?_;refine wpAny_take (i:=4) (v:=.string (s.extract 2 (2+k))) rfl krQ krQ krQ (λ_ _ _ h=>h) (Or.inl ⟨by rfl,by intro w;go_simp;rw[if_pos ⟨by omega,by omega⟩,if_pos omQ];rfl⟩) ?_;refine wpAny_take (i:=5) (v:=.string s) rfl krQ krQ krQ (λ_ _ _ h=>h) (Or.inl ⟨by rfl,by intro w;go_simp⟩) ?_;refine wpAny_take (i:=6) (v:=.int .i64 (2+k)) rfl krQ krQ krQ (λ_ _ _ h=>h) (Or.inl ⟨by rfl,by intro w;go_simp⟩) ?_;refine wpAny_take (i:=7) (v:=.int .u8 a) rfl krQ krQ krQ (λ_ _ _ h=>h) (Or.inl ⟨by rfl,by intro w;go_simp;intro h;exfalso;omega⟩) ?_;refine wpAny_take (i:=8) (v:=.string s) rfl krQ krQ krQ (λ_ _ _ h=>h) (Or.inl ⟨by rfl,by intro w;go_simp⟩) ?_;refine wpAny_take (i:=9) (v:=.int .i64 (2+k)) rfl krQ krQ krQ (λ_ _ _ h=>h) (Or.inl ⟨by rfl,by intro w;go_simp⟩) ?_;refine wpAny_take (i:=10) (v:=.int .i64 (2+k+1)) rfl krQ krQ krQ (λ_ _ _ h=>h) (Or.inl ⟨by rfl,by intro w;go_simp;exact wrap_small _ omQ omQ⟩) ?_;refine wpAny_take (i:=11) (v:=.int .u8 b) rfl krQ krQ krQ (λ_ _ _ h=>h) (Or.inl ⟨by rfl,by intro w;go_simp;intro h;exfalso;omega⟩) ?_;refine wpAny_ready (rs:=[12,14]) krQ (by simp) ?_;refine AllReady.cons rfl (λK hK=>?_) (AllReady.cons rfl (λK hK=>?_) AllReady.nil)
 ·go_simp
  go_wp2_with(go_at_call 85;refine(QbH _ _ _ ?_ ?_ ?_ ?_).mono ?_;omega;omega;omega;omega;rintro e w' ⟨rfl,rfl⟩)
  refine wpAny_take (i:=13) (v:=.agg #[.int .u8 1,.string (s.extract 2 (2+k)),.int .u16 ((a:Int)*256+b),.int .i16 0]) rfl krQ krQ krQ (λ_ _ _ h=>h) (Or.inl ⟨by rfl,by intro w;go_simp⟩) ?_;refine wpAny_ready (rs:=[14]) krQ (by simp) ?_;refine AllReady.cons rfl (λK hK=>?_) AllReady.nil;go_simp;refine hK _ _ ?_;clear hK K;refine wpAny_ready (rs:=[15]) krQ (by simp) ?_;refine AllReady.cons rfl (λK hK=>?_) AllReady.nil;go_simp;refine hK _ _ ?_;clear hK K;refine wpAny_done krQ ?_ _;go_wp2;refine wp_region_any krQ ?_
  try (change wpAny _ _ _ _ _ _ _ (World.drew _))
  refine wpAny_take (i:=0) (v:=.string s) rfl krQ krQ krQ (λ_ _ _ h=>h) (Or.inl ⟨by rfl,by intro w;go_simp⟩) ?_;refine wpAny_take (i:=1) (v:=.int .i64 (2+k)) rfl krQ krQ krQ (λ_ _ _ h=>h) (Or.inl ⟨by rfl,by intro w;go_simp⟩) ?_;refine wpAny_take (i:=2) (v:=.int .i64 (2+k+2)) rfl krQ krQ krQ (λ_ _ _ h=>h) (Or.inl ⟨by rfl,by intro w;go_simp;exact wrap_small _ omQ omQ⟩) ?_;refine wpAny_take (i:=3) (v:=.int .u8 c) rfl krQ krQ krQ (λ_ _ _ h=>h) (Or.inl ⟨by rfl,by intro w;go_simp;intro h;exfalso;omega⟩) ?_;refine wpAny_take (i:=4) (v:=.string s) rfl krQ krQ krQ (λ_ _ _ h=>h) (Or.inl ⟨by rfl,by intro w;go_simp⟩) ?_;refine wpAny_take (i:=5) (v:=.int .i64 (2+k)) rfl krQ krQ krQ (λ_ _ _ h=>h) (Or.inl ⟨by rfl,by intro w;go_simp⟩) ?_;refine wpAny_take (i:=6) (v:=.int .i64 (2+k+2)) rfl krQ krQ krQ (λ_ _ _ h=>h) (Or.inl ⟨by rfl,by intro w;go_simp;exact wrap_small _ omQ omQ⟩) ?_;refine wpAny_take (i:=7) (v:=.int .i64 (2+k+2+1)) rfl krQ krQ krQ (λ_ _ _ h=>h) (Or.inl ⟨by rfl,by intro w;go_simp;exact wrap_small _ omQ omQ⟩) ?_;refine wpAny_take (i:=8) (v:=.int .u8 d) rfl krQ krQ krQ (λ_ _ _ h=>h) (Or.inl ⟨by rfl,by intro w;go_simp;intro h;exfalso;omega⟩) ?_;refine wpAny_ready (rs:=[9]) krQ (by simp) ?_;refine AllReady.cons rfl (λK hK=>?_) AllReady.nil;go_simp
  go_wp2_with(go_at_call 85;refine(QbH _ _ _ ?_ ?_ ?_ ?_).mono ?_;omega;omega;omega;omega;rintro e w' ⟨rfl,rfl⟩)
  refine wpAny_take (i:=10) (v:=.int .i16 val) rfl krQ krQ krQ (λ_ _ _ h=>h) (Or.inl ⟨by rfl,by intro w;go_simp⟩) ?_;refine wpAny_take (i:=11) (v:=.pointer (some ⟨w.heap.size+1,3,none⟩)) rfl krQ krQ krQ (λ_ _ _ h=>h) (Or.inl ⟨by rfl,by intro w;go_simp⟩) ?_;refine wpAny_ready (rs:=[12]) krQ (by simp) ?_;refine AllReady.cons rfl (λK hK=>?_) AllReady.nil;go_simp;refine hK _ _ ?_;clear hK K;refine wpAny_done krQ ?_ _
  go_wp2_with fail
  refine(HE.out _).mono ?_;rintro e w1 ⟨rfl,hb⟩;obtain⟨hc,hf⟩:=bcell hb
  have hz:w.heap.size+2<=w1.heap.size:=by have:=hb.size;simp at this;omega
  have hbw:=QfO hb
  have c0:w1.cell? ⟨w.heap.size,0,none⟩=some (.int .u8 0):=by rw[hc _ _ (by simp;omega)];simp
  have c1:w1.cell? ⟨w.heap.size,1,none⟩=some (.string ⟨#[]⟩):=by rw[hc _ _ (by simp;omega)];simp
  have c2:w1.cell? ⟨w.heap.size,2,none⟩=some (.int .u16 0):=by rw[hc _ _ (by simp;omega)];simp
  have c3:w1.cell? ⟨w.heap.size,3,none⟩=some (.int .i16 0):=by rw[hc _ _ (by simp;omega)];simp
  clear hb
  by_cases hr:r=0
  ·subst hr
   by_cases ht:t.toList=(s.extract 0 (2+k+2+1+2)).toList
   ·have htb:(t.toList==(s.extract 0 (2+k+2+1+2)).toList)=true:=by simpa using ht
    have HO:=show Hid (out=_)from Hout.out.1 ⟨rfl,ht⟩
    clear ht;go_wp2;exact bodyPost_ret (v:=.tuple #[.agg #[.int .u8 1,.string (s.extract 2 (2+k)),.int .u16 ((a:Int)*256+b),.int .i16 val],.int .i64 (2+(k:Int)+2+1+2)]) (by simp[results,Tryz.results57,go_sem,c0,c1,c2,c3]) rfl ⟨by rw[HO.out],(((hbw.setCell (by simp) _).setCell (by simp) _).setCell (by simp) _).setCell (by simp) _⟩
   ·have htb:(t.toList==(s.extract 0 (2+k+2+1+2)).toList)=false:=by simpa using ht
    have HO:=show Hid (out=_)from Hout.out.2 (λh=>ht h.2)
    clear ht;go_wp2;exact bodyPost_ret (v:=.tuple #[.agg #[.int .u8 0,.string ⟨#[]⟩,.int .u16 0,.int .i16 0],.int .i64 0]) (by simp[results,Tryz.results57,go_sem,c0,c1,c2,c3]) rfl ⟨by rw[HO.out];rfl,(((hbw.setCell (by simp) _).setCell (by simp) _).setCell (by simp) _).setCell (by simp) _⟩
  ·have hrb:((r:Int) !=0)=true:=by rw[bne_iff_ne];omega
   have HO:=show Hid (out=_)from Hout.out.2 (λh=>hr h.1)
   clear hr;go_wp2;exact bodyPost_ret (v:=.tuple #[.agg #[.int .u8 0,.string ⟨#[]⟩,.int .u16 0,.int .i16 0],.int .i64 0]) (by simp[results,Tryz.results57,go_sem,c0,c1,c2,c3]) rfl ⟨by rw[HO.out];rfl,(((hbw.setCell (by simp) _).setCell (by simp) _).setCell (by simp) _).setCell (by simp) _⟩
 ·go_simp;refine hK _ _ ?_;clear hK K;refine wpAny_ready (rs:=[12]) krQ (by simp) ?_;refine AllReady.cons rfl (λK hK=>?_) AllReady.nil;go_simp
  go_wp2_with(go_at_call 85;refine(QbH _ _ _ ?_ ?_ ?_ ?_).mono ?_;omega;omega;omega;omega;rintro e w' ⟨rfl,rfl⟩)
  refine wpAny_take (i:=13) (v:=.agg #[.int .u8 1,.string (s.extract 2 (2+k)),.int .u16 ((a:Int)*256+b),.int .i16 0]) rfl krQ krQ krQ (λ_ _ _ h=>h) (Or.inl ⟨by rfl,by intro w;go_simp⟩) ?_;refine wpAny_ready (rs:=[15]) krQ (by simp) ?_;refine AllReady.cons rfl (λK hK=>?_) AllReady.nil;go_simp;refine hK _ _ ?_;clear hK K;refine wpAny_done krQ ?_ _;go_wp2;refine wp_region_any krQ ?_
  try (change wpAny _ _ _ _ _ _ _ (World.drew _))
  refine wpAny_take (i:=0) (v:=.string s) rfl krQ krQ krQ (λ_ _ _ h=>h) (Or.inl ⟨by rfl,by intro w;go_simp⟩) ?_;refine wpAny_take (i:=1) (v:=.int .i64 (2+k)) rfl krQ krQ krQ (λ_ _ _ h=>h) (Or.inl ⟨by rfl,by intro w;go_simp⟩) ?_;refine wpAny_take (i:=2) (v:=.int .i64 (2+k+2)) rfl krQ krQ krQ (λ_ _ _ h=>h) (Or.inl ⟨by rfl,by intro w;go_simp;exact wrap_small _ omQ omQ⟩) ?_;refine wpAny_take (i:=3) (v:=.int .u8 c) rfl krQ krQ krQ (λ_ _ _ h=>h) (Or.inl ⟨by rfl,by intro w;go_simp;intro h;exfalso;omega⟩) ?_;refine wpAny_take (i:=4) (v:=.string s) rfl krQ krQ krQ (λ_ _ _ h=>h) (Or.inl ⟨by rfl,by intro w;go_simp⟩) ?_;refine wpAny_take (i:=5) (v:=.int .i64 (2+k)) rfl krQ krQ krQ (λ_ _ _ h=>h) (Or.inl ⟨by rfl,by intro w;go_simp⟩) ?_;refine wpAny_take (i:=6) (v:=.int .i64 (2+k+2)) rfl krQ krQ krQ (λ_ _ _ h=>h) (Or.inl ⟨by rfl,by intro w;go_simp;exact wrap_small _ omQ omQ⟩) ?_;refine wpAny_take (i:=7) (v:=.int .i64 (2+k+2+1)) rfl krQ krQ krQ (λ_ _ _ h=>h) (Or.inl ⟨by rfl,by intro w;go_simp;exact wrap_small _ omQ omQ⟩) ?_;refine wpAny_take (i:=8) (v:=.int .u8 d) rfl krQ krQ krQ (λ_ _ _ h=>h) (Or.inl ⟨by rfl,by intro w;go_simp;intro h;exfalso;omega⟩) ?_;refine wpAny_ready (rs:=[9]) krQ (by simp) ?_;refine AllReady.cons rfl (λK hK=>?_) AllReady.nil;go_simp
  go_wp2_with(go_at_call 85;refine(QbH _ _ _ ?_ ?_ ?_ ?_).mono ?_;omega;omega;omega;omega;rintro e w' ⟨rfl,rfl⟩)
  refine wpAny_take (i:=10) (v:=.int .i16 val) rfl krQ krQ krQ (λ_ _ _ h=>h) (Or.inl ⟨by rfl,by intro w;go_simp⟩) ?_;refine wpAny_take (i:=11) (v:=.pointer (some ⟨w.heap.size+1,3,none⟩)) rfl krQ krQ krQ (λ_ _ _ h=>h) (Or.inl ⟨by rfl,by intro w;go_simp⟩) ?_;refine wpAny_ready (rs:=[12]) krQ (by simp) ?_;refine AllReady.cons rfl (λK hK=>?_) AllReady.nil;go_simp;refine hK _ _ ?_;clear hK K;refine wpAny_done krQ ?_ _
  go_wp2_with fail
  refine(HE.out _).mono ?_;rintro e w1 ⟨rfl,hb⟩;obtain⟨hc,hf⟩:=bcell hb
  have hz:w.heap.size+2<=w1.heap.size:=by have:=hb.size;simp at this;omega
  have hbw:=QfO hb
  have c0:w1.cell? ⟨w.heap.size,0,none⟩=some (.int .u8 0):=by rw[hc _ _ (by simp;omega)];simp
  have c1:w1.cell? ⟨w.heap.size,1,none⟩=some (.string ⟨#[]⟩):=by rw[hc _ _ (by simp;omega)];simp
  have c2:w1.cell? ⟨w.heap.size,2,none⟩=some (.int .u16 0):=by rw[hc _ _ (by simp;omega)];simp
  have c3:w1.cell? ⟨w.heap.size,3,none⟩=some (.int .i16 0):=by rw[hc _ _ (by simp;omega)];simp
  clear hb
  by_cases hr:r=0
  ·subst hr
   by_cases ht:t.toList=(s.extract 0 (2+k+2+1+2)).toList
   ·have htb:(t.toList==(s.extract 0 (2+k+2+1+2)).toList)=true:=by simpa using ht
    have HO:=show Hid (out=_)from Hout.out.1 ⟨rfl,ht⟩
    clear ht;go_wp2;exact bodyPost_ret (v:=.tuple #[.agg #[.int .u8 1,.string (s.extract 2 (2+k)),.int .u16 ((a:Int)*256+b),.int .i16 val],.int .i64 (2+(k:Int)+2+1+2)]) (by simp[results,Tryz.results57,go_sem,c0,c1,c2,c3]) rfl ⟨by rw[HO.out],(((hbw.setCell (by simp) _).setCell (by simp) _).setCell (by simp) _).setCell (by simp) _⟩
   ·have htb:(t.toList==(s.extract 0 (2+k+2+1+2)).toList)=false:=by simpa using ht
    have HO:=show Hid (out=_)from Hout.out.2 (λh=>ht h.2)
    clear ht;go_wp2;exact bodyPost_ret (v:=.tuple #[.agg #[.int .u8 0,.string ⟨#[]⟩,.int .u16 0,.int .i16 0],.int .i64 0]) (by simp[results,Tryz.results57,go_sem,c0,c1,c2,c3]) rfl ⟨by rw[HO.out];rfl,(((hbw.setCell (by simp) _).setCell (by simp) _).setCell (by simp) _).setCell (by simp) _⟩
  ·have hrb:((r:Int) !=0)=true:=by rw[bne_iff_ne];omega
   have HO:=show Hid (out=_)from Hout.out.2 (λh=>hr h.1)
   clear hr;go_wp2;exact bodyPost_ret (v:=.tuple #[.agg #[.int .u8 0,.string ⟨#[]⟩,.int .u16 0,.int .i16 0],.int .i64 0]) (by simp[results,Tryz.results57,go_sem,c0,c1,c2,c3]) rfl ⟨by rw[HO.out];rfl,(((hbw.setCell (by simp) _).setCell (by simp) _).setCell (by simp) _).setCell (by simp) _⟩
theorem QhG(s:ByteArray)(w:World)(op k a b:Nat)(hne:((op:Int)==1)=false)(h2:2<=s.size)(h0:(s[0]'omQ).toNat=op)(hk:(s[1]'omQ).toNat=k)(hk':k<256)(hsz:k+5<=s.size)(hmx:s.size<=400)
  (ha:(s[2+k]'omQ).toNat=a) (hb:(s[2+k+1]'omQ).toNat=b) (a':a<256) (b':b<256)
  (t:ByteArray) (r:Nat)
  (hE:∀w,Calls Tryz.prog 36 #[.agg #[.int .u8 op,.string (s.extract 2 (2+k)),.int .u16 ((a:Int)*256+b),.int .i16 0]] w λen w'=>en=.returned (.tuple #[.string t,.int .i64 (r:Int)])/\Below w.heap.size w w')
  (out:Value) (Hout:Hid ((r=0/\t.toList=(s.extract 0 (2+k+2+1)).toList->out=.tuple #[.agg #[.int .u8 op,.string (s.extract 2 (2+k)),.int .u16 ((a:Int)*256+b),.int .i16 0],.int .i64 (2+(k:Int)+2+1)])/\(¬(r=0/\t.toList=(s.extract 0 (2+k+2+1)).toList)->out=.tuple #[evZero.value,.int .i64 0]))):
  Calls Tryz.prog 57 #[.string s] w λen w'=>en=.returned out/\Below w.heap.size w w':=by
 have HE:=hdQ hE;clear hE
 have iA:(s[((2:Int)+(k:Int)).toNat]'omQ).toNat=a:=by rw[<-ha];exact congrArg UInt8.toNat (Qdk s (2+k) _ omQ _).2
 have iB:(s[((2:Int)+(k:Int)+1).toNat]'omQ).toNat=b:=by rw[<-hb];exact congrArg UInt8.toNat (Qdk s (2+k+1) _ omQ _).2
 clear ha hb;go_enter Tryz.func57,Tryz.ntmps57;go_wp2;refine wp_region_any krQ ?_
 try (change wpAny _ _ _ _ _ _ _ (World.drew _))
 refine wpAny_take (i:=0) (v:=.string s) rfl krQ krQ krQ (λ_ _ _ h=>h) (Or.inl ⟨by rfl,by intro w;go_simp⟩) ?_;refine wpAny_take (i:=1) (v:=.int .u8 op) rfl krQ krQ krQ (λ_ _ _ h=>h) (Or.inl ⟨by rfl,by intro w;go_simp;intro h;exfalso;rw[h]at h2;exact absurd h2 (by decide)⟩) ?_;refine wpAny_take (i:=2) (v:=.string s) rfl krQ krQ krQ (λ_ _ _ h=>h) (Or.inl ⟨by rfl,by intro w;go_simp⟩) ?_;refine wpAny_take (i:=3) (v:=.int .i64 (2+k)) rfl krQ krQ krQ (λ_ _ _ h=>h) (Or.inl ⟨by rfl,by intro w;go_simp⟩) ?_;refine wpAny_take (i:=4) (v:=.string (s.extract 2 (2+k))) rfl krQ krQ krQ (λ_ _ _ h=>h) (Or.inl ⟨by rfl,by intro w;go_simp;rw[if_pos ⟨by omega,by omega⟩,if_pos omQ];rfl⟩) ?_;refine wpAny_take (i:=5) (v:=.string s) rfl krQ krQ krQ (λ_ _ _ h=>h) (Or.inl ⟨by rfl,by intro w;go_simp⟩) ?_;refine wpAny_take (i:=6) (v:=.int .i64 (2+k)) rfl krQ krQ krQ (λ_ _ _ h=>h) (Or.inl ⟨by rfl,by intro w;go_simp⟩) ?_;refine wpAny_take (i:=7) (v:=.int .u8 a) rfl krQ krQ krQ (λ_ _ _ h=>h) (Or.inl ⟨by rfl,by intro w;go_simp;intro h;exfalso;omega⟩) ?_;refine wpAny_take (i:=8) (v:=.string s) rfl krQ krQ krQ (λ_ _ _ h=>h) (Or.inl ⟨by rfl,by intro w;go_simp⟩) ?_;refine wpAny_take (i:=9) (v:=.int .i64 (2+k)) rfl krQ krQ krQ (λ_ _ _ h=>h) (Or.inl ⟨by rfl,by intro w;go_simp⟩) ?_;refine wpAny_take (i:=10) (v:=.int .i64 (2+k+1)) rfl krQ krQ krQ (λ_ _ _ h=>h) (Or.inl ⟨by rfl,by intro w;go_simp;exact wrap_small _ omQ omQ⟩) ?_;refine wpAny_take (i:=11) (v:=.int .u8 b) rfl krQ krQ krQ (λ_ _ _ h=>h) (Or.inl ⟨by rfl,by intro w;go_simp;intro h;exfalso;omega⟩) ?_;refine wpAny_ready (rs:=[12,14]) krQ (by simp) ?_;refine AllReady.cons rfl (λK hK=>?_) (AllReady.cons rfl (λK hK=>?_) AllReady.nil)
 ·go_simp
  go_wp2_with(go_at_call 85;refine(QbH _ _ _ ?_ ?_ ?_ ?_).mono ?_;omega;omega;omega;omega;rintro e w' ⟨rfl,rfl⟩)
  refine wpAny_take (i:=13) (v:=.agg #[.int .u8 op,.string (s.extract 2 (2+k)),.int .u16 ((a:Int)*256+b),.int .i16 0]) rfl krQ krQ krQ (λ_ _ _ h=>h) (Or.inl ⟨by rfl,by intro w;go_simp⟩) ?_;refine wpAny_ready (rs:=[14]) krQ (by simp) ?_;refine AllReady.cons rfl (λK hK=>?_) AllReady.nil;go_simp;refine hK _ _ ?_;clear hK K;refine wpAny_ready (rs:=[15]) krQ (by simp) ?_;refine AllReady.cons rfl (λK hK=>?_) AllReady.nil;go_simp;refine hK _ _ ?_;clear hK K;refine wpAny_done krQ ?_ _
  go_wp2_with fail
  refine(HE.out _).mono ?_;rintro e w1 ⟨rfl,hb⟩;obtain⟨hc,hf⟩:=bcell hb
  have hz:w.heap.size+2<=w1.heap.size:=by have:=hb.size;simp at this;omega
  have hbw:=Qe3 hb
  have c0:w1.cell? ⟨w.heap.size,0,none⟩=some (.int .u8 0):=by rw[hc _ _ (by simp;omega)];simp
  have c1:w1.cell? ⟨w.heap.size,1,none⟩=some (.string ⟨#[]⟩):=by rw[hc _ _ (by simp;omega)];simp
  have c2:w1.cell? ⟨w.heap.size,2,none⟩=some (.int .u16 0):=by rw[hc _ _ (by simp;omega)];simp
  have c3:w1.cell? ⟨w.heap.size,3,none⟩=some (.int .i16 0):=by rw[hc _ _ (by simp;omega)];simp
  clear hb
  by_cases hr:r=0
  ·subst hr
   by_cases ht:t.toList=(s.extract 0 (2+k+2+1)).toList
   ·have htb:(t.toList==(s.extract 0 (2+k+2+1)).toList)=true:=by simpa using ht
    have HO:=show Hid (out=_)from Hout.out.1 ⟨rfl,ht⟩
    clear ht;go_wp2;exact bodyPost_ret (v:=.tuple #[.agg #[.int .u8 op,.string (s.extract 2 (2+k)),.int .u16 ((a:Int)*256+b),.int .i16 0],.int .i64 (2+(k:Int)+2+1)]) (by simp[results,Tryz.results57,go_sem,c0,c1,c2,c3]) rfl ⟨by rw[HO.out],(((hbw.setCell (by simp) _).setCell (by simp) _).setCell (by simp) _).setCell (by simp) _⟩
   ·have htb:(t.toList==(s.extract 0 (2+k+2+1)).toList)=false:=by simpa using ht
    have HO:=show Hid (out=_)from Hout.out.2 (λh=>ht h.2)
    clear ht;go_wp2;exact bodyPost_ret (v:=.tuple #[.agg #[.int .u8 0,.string ⟨#[]⟩,.int .u16 0,.int .i16 0],.int .i64 0]) (by simp[results,Tryz.results57,go_sem,c0,c1,c2,c3]) rfl ⟨by rw[HO.out];rfl,(((hbw.setCell (by simp) _).setCell (by simp) _).setCell (by simp) _).setCell (by simp) _⟩
  ·have hrb:((r:Int) !=0)=true:=by rw[bne_iff_ne];omega
   have HO:=show Hid (out=_)from Hout.out.2 (λh=>hr h.1)
   clear hr;go_wp2;exact bodyPost_ret (v:=.tuple #[.agg #[.int .u8 0,.string ⟨#[]⟩,.int .u16 0,.int .i16 0],.int .i64 0]) (by simp[results,Tryz.results57,go_sem,c0,c1,c2,c3]) rfl ⟨by rw[HO.out];rfl,(((hbw.setCell (by simp) _).setCell (by simp) _).setCell (by simp) _).setCell (by simp) _⟩
 ·go_simp;refine hK _ _ ?_;clear hK K;refine wpAny_ready (rs:=[12]) krQ (by simp) ?_;refine AllReady.cons rfl (λK hK=>?_) AllReady.nil;go_simp
  go_wp2_with(go_at_call 85;refine(QbH _ _ _ ?_ ?_ ?_ ?_).mono ?_;omega;omega;omega;omega;rintro e w' ⟨rfl,rfl⟩)
  refine wpAny_take (i:=13) (v:=.agg #[.int .u8 op,.string (s.extract 2 (2+k)),.int .u16 ((a:Int)*256+b),.int .i16 0]) rfl krQ krQ krQ (λ_ _ _ h=>h) (Or.inl ⟨by rfl,by intro w;go_simp⟩) ?_;refine wpAny_ready (rs:=[15]) krQ (by simp) ?_;refine AllReady.cons rfl (λK hK=>?_) AllReady.nil;go_simp;refine hK _ _ ?_;clear hK K;refine wpAny_done krQ ?_ _
  go_wp2_with fail
  refine(HE.out _).mono ?_;rintro e w1 ⟨rfl,hb⟩;obtain⟨hc,hf⟩:=bcell hb
  have hz:w.heap.size+2<=w1.heap.size:=by have:=hb.size;simp at this;omega
  have hbw:=Qe3 hb
  have c0:w1.cell? ⟨w.heap.size,0,none⟩=some (.int .u8 0):=by rw[hc _ _ (by simp;omega)];simp
  have c1:w1.cell? ⟨w.heap.size,1,none⟩=some (.string ⟨#[]⟩):=by rw[hc _ _ (by simp;omega)];simp
  have c2:w1.cell? ⟨w.heap.size,2,none⟩=some (.int .u16 0):=by rw[hc _ _ (by simp;omega)];simp
  have c3:w1.cell? ⟨w.heap.size,3,none⟩=some (.int .i16 0):=by rw[hc _ _ (by simp;omega)];simp
  clear hb
  by_cases hr:r=0
  ·subst hr
   by_cases ht:t.toList=(s.extract 0 (2+k+2+1)).toList
   ·have htb:(t.toList==(s.extract 0 (2+k+2+1)).toList)=true:=by simpa using ht
    have HO:=show Hid (out=_)from Hout.out.1 ⟨rfl,ht⟩
    clear ht;go_wp2;exact bodyPost_ret (v:=.tuple #[.agg #[.int .u8 op,.string (s.extract 2 (2+k)),.int .u16 ((a:Int)*256+b),.int .i16 0],.int .i64 (2+(k:Int)+2+1)]) (by simp[results,Tryz.results57,go_sem,c0,c1,c2,c3]) rfl ⟨by rw[HO.out],(((hbw.setCell (by simp) _).setCell (by simp) _).setCell (by simp) _).setCell (by simp) _⟩
   ·have htb:(t.toList==(s.extract 0 (2+k+2+1)).toList)=false:=by simpa using ht
    have HO:=show Hid (out=_)from Hout.out.2 (λh=>ht h.2)
    clear ht;go_wp2;exact bodyPost_ret (v:=.tuple #[.agg #[.int .u8 0,.string ⟨#[]⟩,.int .u16 0,.int .i16 0],.int .i64 0]) (by simp[results,Tryz.results57,go_sem,c0,c1,c2,c3]) rfl ⟨by rw[HO.out];rfl,(((hbw.setCell (by simp) _).setCell (by simp) _).setCell (by simp) _).setCell (by simp) _⟩
  ·have hrb:((r:Int) !=0)=true:=by rw[bne_iff_ne];omega
   have HO:=show Hid (out=_)from Hout.out.2 (λh=>hr h.1)
   clear hr;go_wp2;exact bodyPost_ret (v:=.tuple #[.agg #[.int .u8 0,.string ⟨#[]⟩,.int .u16 0,.int .i16 0],.int .i64 0]) (by simp[results,Tryz.results57,go_sem,c0,c1,c2,c3]) rfl ⟨by rw[HO.out];rfl,(((hbw.setCell (by simp) _).setCell (by simp) _).setCell (by simp) _).setCell (by simp) _⟩
theorem QgB(s:ByteArray)(w:World)(op k:Nat)(h2:2<=s.size)(hop:(s[0]'omQ).toNat=op)(hk:(s[1]'omQ).toNat=k)(hk':k<256)
  (hsz:s.size<k+5+(if op=1 then 2 else 0)):
  Calls Tryz.prog 57 #[.string s] w λen w'=>en=.returned (.tuple #[evZero.value,.int .i64 0])/\Below w.heap.size w w':=by
 by_cases h1:op=1
 ·subst h1
  have hs:s.size<k+7:=by simpa using hsz
  clear hsz;unfold evZero Ev.value;go_enter Tryz.func57,Tryz.ntmps57;go_wp2;exact bodyPost_ret (v:=.tuple #[.agg #[.int .u8 0,.string ⟨#[]⟩,.int .u16 0,.int .i16 0],.int .i64 0]) (by simp[results,Tryz.results57,go_sem]) rfl ⟨rfl,(Below.refl _ _).alloc (Nat.le_refl _) _⟩
 ·have hs:s.size<k+5:=by simpa[h1]using hsz
  have hne:((op:Int)==1)=false:=by simp;omega
  clear hsz h1;unfold evZero Ev.value;go_enter Tryz.func57,Tryz.ntmps57;go_wp2;exact bodyPost_ret (v:=.tuple #[.agg #[.int .u8 0,.string ⟨#[]⟩,.int .u16 0,.int .i16 0],.int .i64 0]) (by simp[results,Tryz.results57,go_sem]) rfl ⟨rfl,(Below.refl _ _).alloc (Nat.le_refl _) _⟩
def gb(s:ByteArray)(i:Nat):Nat:=(s.data.toList.getD i 0).toNat
def sg(v:Nat):Int:=if v<32768 then(v:Int)else(v:Int)-65536
def evAt(s:ByteArray):Ev:=
 ⟨gb s 0,s.extract 2 (2+gb s 1),gb s (2+gb s 1)*256+gb s (2+gb s 1+1),if gb s 0=1 then sg (gb s (2+gb s 1+2)*256+gb s (2+gb s 1+2+1))else 0⟩
def szAt(s:ByteArray):Nat:=gb s 1+5+(if gb s 0=1 then 2 else 0)
def firstS(s:ByteArray):Option (Ev × Nat):=
 if s.size<2\/s.size<szAt s then none
 else if refuse (evAt s)=0/\recB (evAt s)=s.data.toList.take (szAt s)then some (evAt s,szAt s)else none
theorem QaE(s:ByteArray)(i:Nat):gb s i<256:=(s.data.toList.getD i 0).toNat_lt
theorem Qam(s:ByteArray):s.data.toList.length=s.size:=by cases s;rfl
theorem Qa6(s:ByteArray)(i:Nat)(h:i<s.size):(s[i]'h).toNat=gb s i:=by
 unfold gb
 have hl:i<s.data.toList.length:=by rw[Qam];exact h
 rw[List.getD_eq_getElem?_getD,List.getElem?_eq_getElem hl]
 rfl
theorem QaA(s:ByteArray)(a b:Nat):(s.extract a b).data.toList=(s.data.toList.drop a).take (b-a):=by
 rw[ByteArray.data_extract,Array.toList_extract]
theorem QcI{s t:ByteArray}(h:s.data.toList=t.data.toList):s=t:=by
 cases s;cases t;congr;exact Array.toList_inj.1 h
theorem QfD(s:ByteArray):(evAt s).ok:=by
 have:=QaE s;unfold evAt Ev.ok;have h0:=this 0;have h1:=this (2+gb s 1);have h2:=this (2+gb s 1+1);have h3:=this (2+gb s 1+2);have h4:=this (2+gb s 1+2+1);refine⟨h0,?_,?_,?_⟩
 ·simp only;omega
 ·simp only[sg];split
  ·split<;>omega
  ·omega
 ·simp only[sg];split
  ·split<;>omega
  ·omega
theorem Qc2{s:ByteArray}{e:Ev}{n:Nat}(h:firstS s=some (e,n)):refuse e=0/\e.ok/\recB e=s.data.toList.take n/\n=(recB e).length/\n<=s.size:=by
 unfold firstS at h;split at h
 ·cases h
 ·rename_i h1
  split at h
  ·rename_i h2
   simp only[Option.some.injEq,Prod.mk.injEq]at h;obtain⟨rfl,rfl⟩:=h;have hl:szAt s<=s.size:=omQ;refine⟨h2.1,QfD s,h2.2,?_,hl⟩;rw[h2.2,List.length_take,Qam];omega
  ·cases h
theorem Qne(v:Int)(h1:-32768<=v)(h2:v<=32767):sg (u16 v / 256*256+u16 v % 256)=v:=by
 unfold sg u16
 split<;>omega
theorem Qcy(e:Ev)(h:refuse e=0)(hok:e.ok)(rest:List UInt8)(s:ByteArray)(hs:s.data.toList=recB e++rest):firstS s=some (e,(recB e).length):=by
 obtain⟨k1,k8,hop,_,hv⟩:=QbB h;obtain⟨o1,o2,o3,o4⟩:=hok;have hkl:=Qam e.key;have hlen:=Qc0 e
 have hsz:s.size=(recB e).length+rest.length:=by rw[<-Qam,hs,List.length_append]
 have hx:s.data.toList=UInt8.ofNat e.op :: UInt8.ofNat e.key.size :: (e.key.data.toList++(UInt8.ofNat (e.seq / 256) :: UInt8.ofNat (e.seq % 256) :: ((if e.op=1 then[UInt8.ofNat (u16 e.val / 256),UInt8.ofNat (u16 e.val % 256)]else[])++[UInt8.ofNat (sumB (body e))]++rest))):=by
  rw[hs];simp[recB,body]
 have g0:gb s 0=e.op:=by unfold gb;rw[hx];simp;omega
 have g1:gb s 1=e.key.size:=by unfold gb;rw[hx];simp;omega
 have gk:∀i,gb s (2+e.key.size+i)=((UInt8.ofNat (e.seq / 256) :: UInt8.ofNat (e.seq % 256) :: ((if e.op=1 then[UInt8.ofNat (u16 e.val / 256),UInt8.ofNat (u16 e.val % 256)]else[])++[UInt8.ofNat (sumB (body e))]++rest)).getD i 0).toNat:=by
  intro i;unfold gb;rw[hx];have:2+e.key.size+i=(e.key.data.toList.length+i)+1+1:=omQ;rw[this,List.getD_cons_succ,List.getD_cons_succ];simp[List.getD_eq_getElem?_getD,List.getElem?_append_right]
 have gs0:gb s (2+e.key.size)=e.seq / 256:=by have:=gk 0;simp at this;rw[this];omega
 have gs1:gb s (2+e.key.size+1)=e.seq % 256:=by rw[gk 1];simp
 have hu:u16 e.val<65536:=by unfold u16;omega
 have hev:evAt s=e:=by
  unfold evAt;rw[g1,g0,gs0,gs1]
  have hkey:s.extract 2 (2+e.key.size)=e.key:=by
   apply QcI;rw[QaA,hx];simp[hkl]
  rw[hkey]
  have hval:(if e.op=1 then sg (gb s (2+e.key.size+2)*256+gb s (2+e.key.size+2+1))else 0)=e.val:=by
   split
   ·rename_i h1
    have a:=gk 2;have b:=gk 3;rw[show 2+e.key.size+2+1=2+e.key.size+3 from by omega,a,b];simp[h1];rw[Nat.mod_eq_of_lt (show u16 e.val / 256<256 by omega)];exact Qne e.val o3 o4
   ·exact(hv omQ).symm
  rw[hval,show e.seq / 256*256+e.seq % 256=e.seq from by omega]
 have hszA:szAt s=(recB e).length:=by
  unfold szAt;rw[g0,g1,hlen]
  split<;>omega
 have h5:5<=(recB e).length:=by rw[hlen];split<;>omega
 unfold firstS;rw[hev,hszA,if_neg omQ,if_pos];refine⟨h,?_⟩;rw[hs];simp
def Good(e:Ev):Prop:=refuse e=0/\e.ok
def recs(es:List Ev):List UInt8:=es.flatMap recB
theorem Qem(a b:List Ev):recs (a++b)=recs a++recs b:=by simp[recs]
theorem QgC(e:Ev):recs [e]=recB e:=by simp[recs]
theorem QfP(e:Ev)(es:List Ev):recs (e :: es)=recB e++recs es:=by simp[recs]
theorem Qb7(e:Ev):5<=(recB e).length:=by rw[Qc0];split<;>omega
theorem Qc3(es:List Ev):5*es.length<=(recs es).length:=by
 induction es with
 | nil=>simp
 | cons e es ih=>rw[QfP,List.length_append,List.length_cons];have:=Qb7 e;omega
def Stop(r:List UInt8):Prop:=r=[]\/firstS ⟨r.toArray⟩=none
theorem Qen:∀(es es':List Ev) (r r':List UInt8),(∀e∈es,Good e)->(∀e∈es',Good e)->Stop r->Stop r'->recs es++r=recs es'++r'->es=es'/\r=r'
 | [],[],r,r',_,_,_,_,h=>⟨rfl,by simpa[recs]using h⟩
 | [],e :: es,r,r',_,g,hr,_,h=>by
  exfalso
  have ge:=g e (by simp)
  have h':r=recB e++(recs es++r'):=by simpa[recs]using h
  rcases hr with hr | hr
  ·have:=congrArg List.length h';rw[hr]at this;have:=Qb7 e;simp at *;omega
  ·rw[Qcy e ge.1 ge.2 (recs es++r') ⟨r.toArray⟩ (by simpa using h')]at hr
   cases hr
 | e :: es,[],r,r',g,_,_,hr',h=>by
  exfalso
  have ge:=g e (by simp)
  have h':r'=recB e++(recs es++r):=by simpa[recs]using h.symm
  rcases hr' with hr | hr
  ·have:=congrArg List.length h';rw[hr]at this;have:=Qb7 e;simp at *;omega
  ·rw[Qcy e ge.1 ge.2 (recs es++r) ⟨r'.toArray⟩ (by simpa using h')]at hr
   cases hr
 | e :: es,e' :: es',r,r',g,g',hr,hr',h=>by
  have ge:=g e (by simp);have ge':=g' e' (by simp)
  have h1:recB e++(recs es++r)=recB e'++(recs es'++r'):=by simpa[recs]using h
  have a:=Qcy e ge.1 ge.2 (recs es++r) ⟨(recB e++(recs es++r)).toArray⟩ (by simp);have b:=Qcy e' ge'.1 ge'.2 (recs es'++r') ⟨(recB e++(recs es++r)).toArray⟩ (by simpa using h1);rw[a]at b;simp only[Option.some.injEq,Prod.mk.injEq]at b;obtain⟨rfl,_⟩:=b;have h2:=List.append_cancel_left h1;obtain⟨rfl,rfl⟩:=Qen es es' r r' (λx hx=>g x (by simp[hx])) (λx hx=>g' x (by simp[hx])) hr hr' h2;exact⟨rfl,rfl⟩
structure Parsed (s:ByteArray) (es:List Ev) (n:Nat):Prop where
 good:∀e∈es,Good e
 text:recs es=s.data.toList.take n
 le:n<=s.size
 stop:Stop (s.data.toList.drop n)
theorem Parsed.unique{s:ByteArray}{es es':List Ev}{n n':Nat}(h:Parsed s es n)(h':Parsed s es' n'):es=es'/\n=n':=by
 have e:recs es++s.data.toList.drop n=recs es'++s.data.toList.drop n':=by
  rw[h.text,h'.text,List.take_append_drop,List.take_append_drop]
 obtain⟨rfl,hd⟩:=Qen es es' _ _ h.good h'.good h.stop h'.stop e;refine⟨rfl,?_⟩;have:=congrArg List.length hd;have a:=h.le;have b:=h'.le;simp only[List.length_drop,Qam]at this;omega
theorem Parsed.length{s:ByteArray}{es:List Ev}{n:Nat}(h:Parsed s es n):(recs es).length=n:=by
 rw[h.text,List.length_take,Qam];have:=h.le;omega
theorem Parsed.few{s:ByteArray}{es:List Ev}{n:Nat}(h:Parsed s es n):5*es.length<=s.size:=by
 have a:=h.length;have b:=Qc3 es;have c:=h.le;omega
theorem QiL{s:ByteArray}{n:Nat}(h:firstS (s.extract n s.size)=none):Stop (s.data.toList.drop n):=by
 right
 have e:(⟨(s.data.toList.drop n).toArray⟩:ByteArray)=s.extract n s.size:=by
  apply QcI;rw[QaA,List.take_of_length_le (by rw[List.length_drop,Qam];omega)]
 rw[e];exact h
def firstOut(s:ByteArray):Ev × Nat:=match firstS s with | some x=>x | none=>(evZero,0)
theorem Qe4(t:ByteArray)(s:ByteArray)(n:Nat):t.toList=(s.extract 0 n).toList↔t.data.toList=s.data.toList.take n:=by
 rw[ByteArray.toList_eq,ByteArray.toList_eq,QaA];simp
theorem Qcf{e:Ev}(h:refuse e=0):(encStr e).data.toList=recB e:=by
 unfold encStr;rw[if_pos h]
theorem Qkj(s:ByteArray)(w:World)(hmx:s.size<=400):
  Calls Tryz.prog 57 #[.string s] w λen w'=>en=.returned (.tuple #[(firstOut s).1.value,.int .i64 ((firstOut s).2:Int)])/\Below w.heap.size w w':=by
 by_cases h2:s.size<2
 ·have e:firstOut s=(evZero,0):=by unfold firstOut firstS;rw[if_pos (.inl h2)]
  rw[e];exact QhF s w h2
 have h2':2<=s.size:=omQ;have b0:=Qa6 s 0 omQ;have b1:=Qa6 s 1 omQ
 by_cases hsz:s.size<szAt s
 ·have e:firstOut s=(evZero,0):=by unfold firstOut firstS;rw[if_pos (.inr hsz)]
  rw[e];exact QgB s w (gb s 0) (gb s 1) h2' b0 b1 (QaE s 1) hsz
 have hfo:firstOut s=if refuse (evAt s)=0/\recB (evAt s)=s.data.toList.take (szAt s)then(evAt s,szAt s)else(evZero,0):=by
  unfold firstOut firstS;rw[if_neg omQ]
  split<;>rename_i h<;>split at h<;>rename_i h'
  ·rw[if_pos h'];exact(Option.some.inj h).symm
  ·cases h
  ·cases h
  ·rw[if_neg h']
 have hok:=QfD s
 have hcond:∀n,n=szAt s->((refuse (evAt s)=0/\(encStr (evAt s)).toList=(s.extract 0 n).toList)↔(refuse (evAt s)=0/\recB (evAt s)=s.data.toList.take (szAt s))):=by
  intro n hn;subst hn;constructor
  ·rintro⟨h,h'⟩;rw[Qe4,Qcf h]at h';exact⟨h,h'⟩
  ·rintro⟨h,h'⟩;refine⟨h,?_⟩;rw[Qe4,Qcf h];exact h'
 by_cases h1:gb s 0=1
 ·have hs7:szAt s=2+gb s 1+2+1+2:=by unfold szAt;rw[if_pos h1];omega
  have hev:evAt s=⟨1,s.extract 2 (2+gb s 1),gb s (2+gb s 1)*256+gb s (2+gb s 1+1),sg (gb s (2+gb s 1+2)*256+gb s (2+gb s 1+2+1))⟩:=by
   unfold evAt;rw[if_pos h1,h1]
  have hE:=λw=>Qdy (evAt s) w hok.2.1
  have hval:IntKind.i16.wrap ((gb s (2+gb s 1+2):Int)*256+gb s (2+gb s 1+2+1))=sg (gb s (2+gb s 1+2)*256+gb s (2+gb s 1+2+1)):=by
   have:=QaE s (2+gb s 1+2);have:=QaE s (2+gb s 1+2+1);unfold sg IntKind.wrap;simp[IntKind.bits,IntKind.signed]
   split<;>split<;>omega
  refine Qki s w (gb s 1) (gb s (2+gb s 1)) (gb s (2+gb s 1+1)) (gb s (2+gb s 1+2)) (gb s (2+gb s 1+2+1)) _ h2' (by rw[b0,h1]) b1 (QaE s 1) omQ hmx
   (Qa6 s _ omQ) (Qa6 s _ omQ) (Qa6 s _ omQ) (Qa6 s _ omQ) (QaE s _) (QaE s _) (QaE s _) (QaE s _) hval (encStr (evAt s)) (refuse (evAt s)) ?_ _ ?_
  ·intro w;have:=hE w;rw[hev]at this ⊢;exact this
  ·refine⟨λh=>?_,λh=>?_⟩
   ·rw[hcond _ hs7.symm]at h;rw[hfo,if_pos h,hs7];simp only[hev]
    rfl
   ·rw[hcond _ hs7.symm]at h;rw[hfo,if_neg h]
    rfl
 ·have hs5:szAt s=2+gb s 1+2+1:=by unfold szAt;rw[if_neg h1];omega
  have hev:evAt s=⟨gb s 0,s.extract 2 (2+gb s 1),gb s (2+gb s 1)*256+gb s (2+gb s 1+1),0⟩:=by
   unfold evAt;rw[if_neg h1]
  have hE:=λw=>Qdy (evAt s) w hok.2.1
  refine QhG s w (gb s 0) (gb s 1) (gb s (2+gb s 1)) (gb s (2+gb s 1+1)) (by simp;omega) h2' b0 b1 (QaE s 1) omQ hmx
   (Qa6 s _ omQ) (Qa6 s _ omQ) (QaE s _) (QaE s _) (encStr (evAt s)) (refuse (evAt s)) ?_ _ ?_
  ·intro w;have:=hE w;rw[hev]at this ⊢;exact this
  ·refine⟨λh=>?_,λh=>?_⟩
   ·rw[hcond _ hs5.symm]at h;rw[hfo,if_pos h,hs5];simp only[hev]
    rfl
   ·rw[hcond _ hs5.symm]at h;rw[hfo,if_neg h]
    rfl
theorem Tryz.infoEv:(Tryz.prog.info? 40).map (λi=>(i.zero,i.size,i.bytes))=some (some (.agg #[.int .u8 0,.string ⟨#[]⟩,.int .u16 0,.int .i16 0]),4,32):=by kernel_rfl
def evCells1(e:Ev):List Value:=[.int .u8 (e.op:Int),.string e.key,.int .u16 (e.seq:Int),.int .i16 e.val]
def evCells(es:List Ev):List Value:=es.flatMap evCells1
theorem QaU(a b:List Ev):evCells (a++b)=evCells a++evCells b:=by simp[evCells]
theorem QbN(e:Ev):evCells [e]=evCells1 e:=by simp[evCells]
theorem Qbl(e:Ev):∀u∈evCells1 e,u.oneCell'=true:=by
 intro u hu;simp[evCells1]at hu
 rcases hu with rfl | rfl | rfl | rfl<;>rfl
theorem QaC(w:World)(a b c d:Value)(t:TypeId):∀j u,[a,b,c,d][j]? =some u->(w.alloc (.cells #[a,b,c,d] t)).cell? ((⟨w.heap.size,0,none⟩:Addr).add j)=some u:=by
 intro j u hj
 match j,hj with
 | 0,hj=>simp at hj;subst hj;simp[Addr.add]
 | 1,hj=>simp at hj;subst hj;simp[Addr.add]
 | 2,hj=>simp at hj;subst hj;simp[Addr.add]
 | 3,hj=>simp at hj;subst hj;simp[Addr.add]
 | j+4,hj=>simp at hj
theorem Qao{wr w1:World}{B n:Nat}{e:TypeId}{sz:Nat}{v:Value}{xs:List Value}(hown:wr.ownsRow B e sz v n xs)(hb:Below wr.heap.size wr w1):w1.ownsRow B e sz v n xs:=
 hown.kept (row:=none) ⟨hb.os,hb.tape,hb.output,hb.size,λk hk _=>hb.block k hk⟩ (by cases v.ownBlock<;>simp)
theorem Qc4(s:ByteArray)(w:World)(h:400<s.size):
  Calls Tryz.prog 32 #[.string s] w λen w'=>en=.returned (.tuple #[.slice none 0 0,.int .i64 0,.int .i64 1])/\Below w.heap.size w w':=by
 go_enter Tryz.func32,Tryz.ntmps32;go_wp2
 go_ret3
 exact⟨rfl,Below.refl _ _⟩
def errOf(s:ByteArray)(n:Nat):Nat:=if n=s.size then 0 else 6
theorem QbD(s:ByteArray)(w:World)(h:s.size<=400):
  Calls Tryz.prog 32 #[.string s] w λen w'=>∃(v:Value) (es:List Ev) (n r:Nat),en=.returned (.tuple #[v,.int .i64 (n:Int),.int .i64 (r:Int)])/\Hid (Parsed s es n/\r=errOf s n)/\
   w'.ownsRow w.heap.size 40 4 v es.length (evCells es)/\Below w.heap.size w w':=by
 obtain⟨i0,hi,hz0,hz1,hz2⟩:=info_parts Tryz.infoEv;go_enter Tryz.func32,Tryz.ntmps32;go_wp2
 go_loopw [5,6] (λv i wr=>∃(es:List Ev) (n:Nat),i=.int .i64 (n:Int)/\n<=s.size/\Hid ((∀e∈es,Good e)/\recs es=s.data.toList.take n)/\wr.ownsRow w.heap.size 40 4 v es.length (evCells es)/\Below w.heap.size w wr) (λ_ i _=>s.size-(intOf i).toNat)
 case atStart=>exact⟨[],0,rfl,Nat.zero_le _,⟨by simp,by simp[recs]⟩,World.ownsRow_nil _ _ _ _,Below.refl _ _⟩
 case round=>
  obtain⟨es,n,rfl,hn,hacc,hown,hbw⟩:=hrel
  have hlen:5*es.length<=400:=by
   have a:=Qc3 es;rw[hacc.out.2,List.length_take,Qam]at a;omega
  have hBz:=hbw.size
  by_cases hlt:n<s.size
  ·have hF:=show Hid _ from λw=>Qkj (s.extract n s.size) w (by rw[ByteArray.size_extract];omega)
   cases hf:firstS (s.extract n s.size)with
   | none=>
    have hfo:firstOut (s.extract n s.size)=(evZero,0):=by unfold firstOut;rw[hf]
    rw[hfo]at hF
    have hP:=show Hid (Parsed s es n)from⟨hacc.out.1,hacc.out.2,hn,QiL hf⟩
    clear hacc hfo hf;unfold evZero Ev.value at hF;simp only at hF
    go_wp2_with(go_at_call 57;refine(hF.out _).mono ?_;rintro e w1 ⟨rfl,hb⟩)
    go_ret3
    exact⟨_,es,n,6,rfl,⟨hP.out,by unfold errOf;rw[if_neg omQ]⟩,(Qao hown hb).alloc _,(hbw.trans (hb.mono hBz)).alloc (Nat.le_trans hBz hb.size) _⟩
   | some x=>
    obtain⟨⟨op,key,seq,val⟩,m⟩:=x
    have hfo:firstOut (s.extract n s.size)=(⟨op,key,seq,val⟩,m):=by unfold firstOut;rw[hf]
    rw[hfo]at hF;obtain⟨f1,f2,f3,f4,f5⟩:=Qc2 hf
    have hm5:5<=m:=by have:=Qb7 ⟨op,key,seq,val⟩;omega
    have hmn:n+m<=s.size:=by rw[ByteArray.size_extract]at f5;omega
    have hacc2:=show Hid ((∀e∈es++[⟨op,key,seq,val⟩],Good e)/\recs (es++[⟨op,key,seq,val⟩])=s.data.toList.take (n+m))from by
     refine⟨λe he=>?_,?_⟩
     ·rcases List.mem_append.1 he with he | he
      ·exact hacc.out.1 e he
      ·simp at he;subst he;exact⟨f1,f2⟩
     ·rw[Qem,QgC,hacc.out.2,f3,QaA,List.take_take,List.take_add];congr 2;omega
    clear hacc hfo hf f1 f2 f3 f4 f5;unfold Ev.value at hF;simp only at hF
    go_wp2_with(first
     | (go_at_call 57;refine(hF.out _).mono ?_;rintro e w1 ⟨rfl,hb⟩;have hown1:=Qao hown hb;have hbw1:=hbw.trans (hb.mono hBz);have hBz1:=Nat.le_trans hBz hb.size;clear hown hbw hb hBz)
     | (at_builtin;refine wpList_append_own _ rfl (.tmp 27) (.tmp 29) 33 rfl w.heap.size 40 i0 (.agg #[.int .u8 0,.string ⟨#[]⟩,.int .u16 0,.int .i16 0]) 4 32 Tryz.underlying33 hi hz0 hz1 hz2 rfl (by decide) _ es.length (evCells es) rfl ((hown1.alloc _).alloc _) ⟨w1.heap.size+1,0,none⟩ 1 1 (evCells1 ⟨op,key,seq,val⟩) rfl rfl (by have:=QaC (w1.alloc (.cells #[.int .u8 (op:Int),.string key,.int .u16 (seq:Int),.int .i16 val] 40)) (.int .u8 (op:Int)) (.string key) (.int .u16 (seq:Int)) (.int .i16 val) 40;simpa[evCells1]using this) (Qbl _) (by unfold maxLen;omega) (by omega) (by simp;omega) ?_;intro v2 w2 hown2 hgrow2 _;obtain⟨hB2,hZ2⟩:=Qa1 (((hbw1.alloc hBz1 _).alloc (by simp;omega) _)) (by simp;omega) ((hown1.alloc _).alloc _) hgrow2;rw[<-QbN,<-QaU]at hown2;clear hgrow2 hown1 hbw1 hBz1))
    go_roundw
    case rel=>exact⟨es++[⟨op,key,seq,val⟩],n+m,by go_num,hmn,hacc2,by simpa using hown2,hB2⟩
    case measure=>simp[intOf];omega
  ·have hP:=show Hid (Parsed s es n)from⟨hacc.out.1,hacc.out.2,hn,.inl (List.drop_of_length_le (by rw[Qam];omega))⟩
   clear hacc;go_wp2
   go_ret3
   exact⟨_,es,n,0,rfl,⟨hP.out,by unfold errOf;rw[if_pos omQ]⟩,hown,hbw⟩
theorem QgD(s:ByteArray)(w:World)(h:400<s.size):
  Calls Tryz.prog 39 #[.string s] w λen w'=>en=.returned (.tuple #[.slice none 0 0,.int .i64 0,.int .i64 1])/\Below w.heap.size w w':=by
 go_enter Tryz.func39,Tryz.ntmps39
 go_wp2_with(go_at_call 32;refine(Qc4 s _ h).mono ?_;rintro e w1 ⟨rfl,hb⟩)
 go_ret3
 exact⟨rfl,hb⟩
theorem Qge(s:ByteArray)(w:World)(h:s.size<=400):
  Calls Tryz.prog 39 #[.string s] w λen w'=>∃(v:Value) (es:List Ev) (n r:Nat),en=.returned (.tuple #[v,.int .i64 (n:Int),.int .i64 (r:Int)])/\Hid (Parsed s es n/\r=errOf s n)/\
   w'.ownsRow w.heap.size 40 4 v es.length (evCells es)/\Below w.heap.size w w':=by
 go_enter Tryz.func39,Tryz.ntmps39
 go_wp2_with(go_at_call 32;refine(QbD s _ h).mono ?_;rintro e w1 ⟨v,es,n,r,rfl,hP,hown,hb⟩)
 go_ret3
 exact⟨v,es,n,r,rfl,hP,hown,hb⟩
end
end Go.Proofs.YthccpacmklhejabGreatDoor
