import Derived.Test.YthccpacmklhejabGreatDoorTk
import Derived.Test.YthccpacmklhejabGreatDoorK03
import Derived.Deep.QuietTactic
import Derived.BigQuiet
set_option maxHeartbeats 1000000
set_option maxRecDepth 100000
namespace Go.Proofs.YthccpacmklhejabGreatDoor
section
open Go.RowKit
theorem QaG(v:Nat):(twoB v).size=2:=rfl
theorem QbU(op:Nat)(key:ByteArray)(seq:Nat)(hk8:key.size<=8)(hs:seq<65536):
  ((⟨#[byteOf (op:Int),byteOf (key.size:Int)]⟩++key++twoB (u16 (seq:Int)):ByteArray).data.toList=[UInt8.ofNat op,UInt8.ofNat key.size]++key.data.toList++[UInt8.ofNat (seq / 256),UInt8.ofNat (seq % 256)])/\
  (⟨#[byteOf (op:Int),byteOf (key.size:Int)]⟩++key++twoB (u16 (seq:Int)):ByteArray).size<=12:=by
 have hu:u16 (seq:Int)=seq:=by unfold u16;omega
 refine⟨?_,?_⟩
 ·rw[ByteArray.data_append,Array.toList_append,ByteArray.data_append,Array.toList_append,hu];simp[byteOf,twoB]
 ·rw[ByteArray.size_append,ByteArray.size_append,QaG];have:(⟨#[byteOf (op:Int),byteOf (key.size:Int)]⟩:ByteArray).size=2:=rfl;omega
theorem Qb9(S:ByteArray)(e:Ev)(h:S.data.toList=body e):S++⟨#[UInt8.ofNat (sumB S.data.toList)]⟩=⟨(recB e).toArray⟩:=by
 apply QcI;rw[ByteArray.data_append,Array.toList_append,h];simp[recB]
theorem QhI(key:ByteArray)(seq:Nat)(val:Int)(w:World)(hk8:key.size<=8)(hs:seq<65536)(hv:-32768<=val)(hv':val<=32767):
  Calls Tryz.prog 38 #[.agg #[.int .u8 1,.string key,.int .u16 (seq:Int),.int .i16 val]] w λe w'=>e=.returned (.string ⟨(recB ⟨1,key,seq,val⟩).toArray⟩)/\Below w.heap.size w w':=by
 have hT:=show Hid _ from λw=>Qdl (seq:Int) w omQ omQ
 go_enter Tryz.func38,Tryz.ntmps38;go_wp2;refine wp_region_held_drew (S:=(λw':World=>w'.cell? ⟨w.heap.size,0,none⟩=some (.int .u8 1)/\w'.cell? ⟨w.heap.size,1,none⟩=some (.string key)/\w'.cell? ⟨w.heap.size,2,none⟩=some (.int .u16 (seq:Int))/\w'.cell? ⟨w.heap.size,3,none⟩=some (.int .i16 val))) krQ (by simp) (λhH=>?_);refine tlQ 0 (.pointer (some ⟨w.heap.size,0,none⟩)) rfl (by intro w hSw;obtain⟨s0,s1,s2,s3⟩:=hSw;go_simp) hH ?_;refine tlQ 1 (.int .u8 1) rfl (by intro w hSw;obtain⟨s0,s1,s2,s3⟩:=hSw;go_simp) hH ?_;refine tlQ 2 (.pointer (some ⟨w.heap.size,1,none⟩)) rfl (by intro w hSw;obtain⟨s0,s1,s2,s3⟩:=hSw;go_simp) hH ?_;refine tlQ 3 (.string key) rfl (by intro w hSw;obtain⟨s0,s1,s2,s3⟩:=hSw;go_simp) hH ?_;refine tlQ 4 (.int .i64 (key.size:Int)) rfl (by intro w hSw;obtain⟨s0,s1,s2,s3⟩:=hSw;go_simp) hH ?_;refine tlQ 5 (.int .u8 (key.size:Int)) rfl (by intro w hSw;obtain⟨s0,s1,s2,s3⟩:=hSw;go_simp;rw[IntKind.wrap_u8];omega) hH ?_;refine tlQ 8 (.pointer (some ⟨w.heap.size,1,none⟩)) rfl (by intro w hSw;obtain⟨s0,s1,s2,s3⟩:=hSw;go_simp) hH ?_;refine tlQ 9 (.string key) rfl (by intro w hSw;obtain⟨s0,s1,s2,s3⟩:=hSw;go_simp) hH ?_;refine tlQ 11 (.pointer (some ⟨w.heap.size,2,none⟩)) rfl (by intro w hSw;obtain⟨s0,s1,s2,s3⟩:=hSw;go_simp) hH ?_;refine tlQ 12 (.int .u16 (seq:Int)) rfl (by intro w hSw;obtain⟨s0,s1,s2,s3⟩:=hSw;go_simp) hH ?_;refine tlQ 13 (.int .i64 (seq:Int)) rfl (by intro w hSw;obtain⟨s0,s1,s2,s3⟩:=hSw;go_simp;exact wrap_small _ omQ omQ) hH ?_;refine rdQ [6,14] ?_;refine AllReadyH.cons rfl (λK hK=>?_) (arQ λK hK=>?_)
 ·go_simp;refine hK.out _ _ (by simp) (λhH=>?_);clear hK K;refine rdQ [7,14] ?_;refine AllReadyH.cons rfl (λK hK=>?_) (arQ λK hK=>?_)
  ·have hc:=QbE (W:=((w.alloc (.cells #[.int .u8 1,.string key,.int .u16 (seq:Int),.int .i16 val] 40)).alloc (.cells #[.int .u8 1,.int .u8 (key.size:Int)] 5)).drew) (B:=w.heap.size+1) (c:=2) (x:=1) (y:=(key.size:Int)) omQ omQ omQ omQ (by simp) (by simp);go_simp;refine hK.out _ _ (by simp) (λhH=>?_);clear hK K;clear hc;refine tlQ 10 (.string (⟨#[byteOf 1,byteOf (key.size:Int)]⟩++key)) rfl (by intro w hSw;obtain⟨s0,s1,s2,s3⟩:=hSw;go_simp;omega) hH ?_;refine rdQ [14] ?_
   refine arQ λK hK=>?_
   go_simp
   go_wp2_with(go_at_call 62;refine(hT.out _).mono ?_;rintro e w8 ⟨rfl,hb8⟩;obtain⟨k8,f8⟩:=bcell hb8)
   refine hK.out _ _ ⟨by rw[k8 _ _ (by simp<;>omega)];simp,by rw[k8 _ _ (by simp<;>omega)];simp,by rw[k8 _ _ (by simp<;>omega)];simp,by rw[k8 _ _ (by simp<;>omega)];simp⟩ (λhH=>?_);clear hK K;refine tlQ 15 (.string (⟨#[byteOf 1,byteOf (key.size:Int)]⟩++key++twoB (u16 (seq:Int)))) rfl (by intro w hSw;obtain⟨s0,s1,s2,s3⟩:=hSw;go_simp;rw[QaG];omega) hH ?_;refine tlQ 16 (.string (⟨#[byteOf 1,byteOf (key.size:Int)]⟩++key++twoB (u16 (seq:Int)))) rfl (by intro w hSw;obtain⟨s0,s1,s2,s3⟩:=hSw;go_simp) hH ?_;refine wpAnyH_done krQ ?_ _;have hbx:Below (w.heap.size+1) (w.alloc (.cells #[.int .u8 1,.string key,.int .u16 (seq:Int),.int .i16 val] 40)) _:=((Below.refl _ _).alloc (by simp) _).drew.trans (hb8.mono (by simp));have hzx:=hbx.size;obtain⟨z0,z1,z2,z3⟩:=hH
   have HS:=show Hid ((⟨#[byteOf 1,byteOf (key.size:Int)]⟩++key++twoB (u16 (seq:Int)):ByteArray).data.toList=[UInt8.ofNat 1,UInt8.ofNat key.size]++key.data.toList++[UInt8.ofNat (seq / 256),UInt8.ofNat (seq % 256)]/\(⟨#[byteOf 1,byteOf (key.size:Int)]⟩++key++twoB (u16 (seq:Int)):ByteArray).size<=12)from QbU 1 key seq hk8 hs
   generalize(⟨#[byteOf 1,byteOf (key.size:Int)]⟩++key++twoB (u16 (seq:Int)):ByteArray)=S1 at HS;have hS12:=HS.out.2
   skip
   clear hb8 k8 f8 hT;simp at hzx
   have hc:∀o,w8.cell? ⟨w.heap.size,o,none⟩=(w.alloc (.cells #[.int .u8 1,.string key,.int .u16 (seq:Int),.int .i16 val] 40)).cell? ⟨w.heap.size,o,none⟩:=λo=>hbx.cell (p:=⟨w.heap.size,o,none⟩) (by simp)
   have hT2:=show Hid _ from λw=>Qdl val w omQ omQ
   have hR:=show Hid _ from λw=>Qb8 (S1++twoB (u16 val)) w (by rw[ByteArray.size_append,QaG];omega)
   have hjoin:=Qb9 (S1++twoB (u16 val)) ⟨1,key,seq,val⟩ (by rw[ByteArray.data_append,Array.toList_append,HS.out.1];simp[body,twoB])
   have hs2:(S1++twoB (u16 val)).size<=14:=by rw[ByteArray.size_append,QaG];omega
   have hts:(twoB (u16 val)).size<=2:=Nat.le_of_eq (QaG _)
   have Hj:=show Hid (_=_)from hjoin
   clear hjoin;generalize twoB (u16 val)=tv at hT2 hR Hj hs2 hts
   go_wp2_with(first | (go_at_call 62;refine(hT2.out _).mono ?_;rintro e w10 ⟨rfl,hb10⟩) | (go_at_call 63;refine(hR.out _).mono ?_;rintro e w11 ⟨rfl,hb11⟩))
   go_ret;exact⟨by rw[<-Hj.out];rfl,((Below.refl _ w).alloc (Nat.le_refl _) _).trans ((hbx.trans ((hb10.trans (hb11.mono hb10.size)).mono omQ)).mono omQ)⟩
  ·go_simp
   go_wp2_with(go_at_call 62;refine(hT.out _).mono ?_;rintro e w8 ⟨rfl,hb8⟩;obtain⟨k8,f8⟩:=bcell hb8)
   have hc:=QbE (W:=w8) (B:=w.heap.size+1) (c:=2) (x:=1) (y:=(key.size:Int)) omQ omQ omQ omQ (by rw[k8 _ _ (by simp)];simp) (by rw[k8 _ _ (by simp)];simp);refine hK.out _ _ ⟨by rw[k8 _ _ (by simp<;>omega)];simp,by rw[k8 _ _ (by simp<;>omega)];simp,by rw[k8 _ _ (by simp<;>omega)];simp,by rw[k8 _ _ (by simp<;>omega)];simp⟩ (λhH=>?_);clear hK K;refine rdQ [7] ?_
   refine arQ λK hK=>?_
   go_simp;refine hK.out _ _ hH (λhH=>?_);clear hK K;clear hc;refine tlQ 10 (.string (⟨#[byteOf 1,byteOf (key.size:Int)]⟩++key)) rfl (by intro w hSw;obtain⟨s0,s1,s2,s3⟩:=hSw;go_simp;omega) hH ?_;refine tlQ 15 (.string (⟨#[byteOf 1,byteOf (key.size:Int)]⟩++key++twoB (u16 (seq:Int)))) rfl (by intro w hSw;obtain⟨s0,s1,s2,s3⟩:=hSw;go_simp;rw[QaG];omega) hH ?_;refine tlQ 16 (.string (⟨#[byteOf 1,byteOf (key.size:Int)]⟩++key++twoB (u16 (seq:Int)))) rfl (by intro w hSw;obtain⟨s0,s1,s2,s3⟩:=hSw;go_simp) hH ?_;refine wpAnyH_done krQ ?_ _;have hbx:Below (w.heap.size+1) (w.alloc (.cells #[.int .u8 1,.string key,.int .u16 (seq:Int),.int .i16 val] 40)) _:=((Below.refl _ _).alloc (by simp) _).drew.trans (hb8.mono (by simp));have hzx:=hbx.size;obtain⟨z0,z1,z2,z3⟩:=hH
   have HS:=show Hid ((⟨#[byteOf 1,byteOf (key.size:Int)]⟩++key++twoB (u16 (seq:Int)):ByteArray).data.toList=[UInt8.ofNat 1,UInt8.ofNat key.size]++key.data.toList++[UInt8.ofNat (seq / 256),UInt8.ofNat (seq % 256)]/\(⟨#[byteOf 1,byteOf (key.size:Int)]⟩++key++twoB (u16 (seq:Int)):ByteArray).size<=12)from QbU 1 key seq hk8 hs
   generalize(⟨#[byteOf 1,byteOf (key.size:Int)]⟩++key++twoB (u16 (seq:Int)):ByteArray)=S1 at HS;have hS12:=HS.out.2
   skip
   clear hb8 k8 f8 hT;simp at hzx
   have hc:∀o,w8.cell? ⟨w.heap.size,o,none⟩=(w.alloc (.cells #[.int .u8 1,.string key,.int .u16 (seq:Int),.int .i16 val] 40)).cell? ⟨w.heap.size,o,none⟩:=λo=>hbx.cell (p:=⟨w.heap.size,o,none⟩) (by simp)
   have hT2:=show Hid _ from λw=>Qdl val w omQ omQ
   have hR:=show Hid _ from λw=>Qb8 (S1++twoB (u16 val)) w (by rw[ByteArray.size_append,QaG];omega)
   have hjoin:=Qb9 (S1++twoB (u16 val)) ⟨1,key,seq,val⟩ (by rw[ByteArray.data_append,Array.toList_append,HS.out.1];simp[body,twoB])
   have hs2:(S1++twoB (u16 val)).size<=14:=by rw[ByteArray.size_append,QaG];omega
   have hts:(twoB (u16 val)).size<=2:=Nat.le_of_eq (QaG _)
   have Hj:=show Hid (_=_)from hjoin
   clear hjoin;generalize twoB (u16 val)=tv at hT2 hR Hj hs2 hts
   go_wp2_with(first | (go_at_call 62;refine(hT2.out _).mono ?_;rintro e w10 ⟨rfl,hb10⟩) | (go_at_call 63;refine(hR.out _).mono ?_;rintro e w11 ⟨rfl,hb11⟩))
   go_ret;exact⟨by rw[<-Hj.out];rfl,((Below.refl _ w).alloc (Nat.le_refl _) _).trans ((hbx.trans ((hb10.trans (hb11.mono hb10.size)).mono omQ)).mono omQ)⟩
 ·go_simp
  go_wp2_with(go_at_call 62;refine(hT.out _).mono ?_;rintro e w8 ⟨rfl,hb8⟩;obtain⟨k8,f8⟩:=bcell hb8)
  refine hK.out _ _ ⟨by rw[k8 _ _ (by simp<;>omega)];simp,by rw[k8 _ _ (by simp<;>omega)];simp,by rw[k8 _ _ (by simp<;>omega)];simp,by rw[k8 _ _ (by simp<;>omega)];simp⟩ (λhH=>?_);clear hK K;refine rdQ [6] ?_
  refine arQ λK hK=>?_
  go_simp;refine hK.out _ _ (by obtain⟨z0,z1,z2,z3⟩:=hH;have hz8:w.heap.size<w8.heap.size:=by{have:=hb8.size;simp at this;omega};simp[World.cell?_alloc_past,hz8,z0,z1,z2,z3]) (λhH=>?_);clear hK K;have hc:=QbE (W:=w8.alloc (.cells #[.int .u8 1,.int .u8 (key.size:Int)] 5)) (B:=w8.heap.size) (c:=2) (x:=1) (y:=(key.size:Int)) omQ omQ omQ omQ (by simp) (by simp);refine rdQ [7] ?_
  refine arQ λK hK=>?_
  go_simp;refine hK.out _ _ hH (λhH=>?_);clear hK K;clear hc;refine tlQ 10 (.string (⟨#[byteOf 1,byteOf (key.size:Int)]⟩++key)) rfl (by intro w hSw;obtain⟨s0,s1,s2,s3⟩:=hSw;go_simp;omega) hH ?_;refine tlQ 15 (.string (⟨#[byteOf 1,byteOf (key.size:Int)]⟩++key++twoB (u16 (seq:Int)))) rfl (by intro w hSw;obtain⟨s0,s1,s2,s3⟩:=hSw;go_simp;rw[QaG];omega) hH ?_;refine tlQ 16 (.string (⟨#[byteOf 1,byteOf (key.size:Int)]⟩++key++twoB (u16 (seq:Int)))) rfl (by intro w hSw;obtain⟨s0,s1,s2,s3⟩:=hSw;go_simp) hH ?_;refine wpAnyH_done krQ ?_ _;have hbx:Below (w.heap.size+1) (w.alloc (.cells #[.int .u8 1,.string key,.int .u16 (seq:Int),.int .i16 val] 40)) _:=((Below.refl _ _).drew.trans (hb8.mono (by simp))).alloc (by have:=hb8.size;simp at this;omega) (.cells #[.int .u8 1,.int .u8 (key.size:Int)] 5);have hzx:=hbx.size;obtain⟨z0,z1,z2,z3⟩:=hH
  have HS:=show Hid ((⟨#[byteOf 1,byteOf (key.size:Int)]⟩++key++twoB (u16 (seq:Int)):ByteArray).data.toList=[UInt8.ofNat 1,UInt8.ofNat key.size]++key.data.toList++[UInt8.ofNat (seq / 256),UInt8.ofNat (seq % 256)]/\(⟨#[byteOf 1,byteOf (key.size:Int)]⟩++key++twoB (u16 (seq:Int)):ByteArray).size<=12)from QbU 1 key seq hk8 hs
  generalize(⟨#[byteOf 1,byteOf (key.size:Int)]⟩++key++twoB (u16 (seq:Int)):ByteArray)=S1 at HS;have hS12:=HS.out.2;generalize w8.alloc (.cells #[.int .u8 1,.int .u8 (key.size:Int)] 5)=w9 at hbx hzx z0 z1 z2 z3;clear hb8 k8 f8 hT;simp at hzx
  have hc:∀o,w9.cell? ⟨w.heap.size,o,none⟩=(w.alloc (.cells #[.int .u8 1,.string key,.int .u16 (seq:Int),.int .i16 val] 40)).cell? ⟨w.heap.size,o,none⟩:=λo=>hbx.cell (p:=⟨w.heap.size,o,none⟩) (by simp)
  have hT2:=show Hid _ from λw=>Qdl val w omQ omQ
  have hR:=show Hid _ from λw=>Qb8 (S1++twoB (u16 val)) w (by rw[ByteArray.size_append,QaG];omega)
  have hjoin:=Qb9 (S1++twoB (u16 val)) ⟨1,key,seq,val⟩ (by rw[ByteArray.data_append,Array.toList_append,HS.out.1];simp[body,twoB])
  have hs2:(S1++twoB (u16 val)).size<=14:=by rw[ByteArray.size_append,QaG];omega
  have hts:(twoB (u16 val)).size<=2:=Nat.le_of_eq (QaG _)
  have Hj:=show Hid (_=_)from hjoin
  clear hjoin;generalize twoB (u16 val)=tv at hT2 hR Hj hs2 hts
  go_wp2_with(first | (go_at_call 62;refine(hT2.out _).mono ?_;rintro e w10 ⟨rfl,hb10⟩) | (go_at_call 63;refine(hR.out _).mono ?_;rintro e w11 ⟨rfl,hb11⟩))
  go_ret;exact⟨by rw[<-Hj.out];rfl,((Below.refl _ w).alloc (Nat.le_refl _) _).trans ((hbx.trans ((hb10.trans (hb11.mono hb10.size)).mono omQ)).mono omQ)⟩
theorem QgG(key:ByteArray)(seq:Nat)(w:World)(hk8:key.size<=8)(hs:seq<65536):
  Calls Tryz.prog 38 #[.agg #[.int .u8 2,.string key,.int .u16 (seq:Int),.int .i16 0]] w λe w'=>e=.returned (.string ⟨(recB ⟨2,key,seq,0⟩).toArray⟩)/\Below w.heap.size w w':=by
 have hT:=show Hid _ from λw=>Qdl (seq:Int) w omQ omQ
 go_enter Tryz.func38,Tryz.ntmps38;go_wp2;refine wp_region_held_drew (S:=(λw':World=>w'.cell? ⟨w.heap.size,0,none⟩=some (.int .u8 2)/\w'.cell? ⟨w.heap.size,1,none⟩=some (.string key)/\w'.cell? ⟨w.heap.size,2,none⟩=some (.int .u16 (seq:Int))/\w'.cell? ⟨w.heap.size,3,none⟩=some (.int .i16 0))) krQ (by simp) (λhH=>?_);refine tlQ 0 (.pointer (some ⟨w.heap.size,0,none⟩)) rfl (by intro w hSw;obtain⟨s0,s1,s2,s3⟩:=hSw;go_simp) hH ?_;refine tlQ 1 (.int .u8 2) rfl (by intro w hSw;obtain⟨s0,s1,s2,s3⟩:=hSw;go_simp) hH ?_;refine tlQ 2 (.pointer (some ⟨w.heap.size,1,none⟩)) rfl (by intro w hSw;obtain⟨s0,s1,s2,s3⟩:=hSw;go_simp) hH ?_;refine tlQ 3 (.string key) rfl (by intro w hSw;obtain⟨s0,s1,s2,s3⟩:=hSw;go_simp) hH ?_;refine tlQ 4 (.int .i64 (key.size:Int)) rfl (by intro w hSw;obtain⟨s0,s1,s2,s3⟩:=hSw;go_simp) hH ?_;refine tlQ 5 (.int .u8 (key.size:Int)) rfl (by intro w hSw;obtain⟨s0,s1,s2,s3⟩:=hSw;go_simp;rw[IntKind.wrap_u8];omega) hH ?_;refine tlQ 8 (.pointer (some ⟨w.heap.size,1,none⟩)) rfl (by intro w hSw;obtain⟨s0,s1,s2,s3⟩:=hSw;go_simp) hH ?_;refine tlQ 9 (.string key) rfl (by intro w hSw;obtain⟨s0,s1,s2,s3⟩:=hSw;go_simp) hH ?_;refine tlQ 11 (.pointer (some ⟨w.heap.size,2,none⟩)) rfl (by intro w hSw;obtain⟨s0,s1,s2,s3⟩:=hSw;go_simp) hH ?_;refine tlQ 12 (.int .u16 (seq:Int)) rfl (by intro w hSw;obtain⟨s0,s1,s2,s3⟩:=hSw;go_simp) hH ?_;refine tlQ 13 (.int .i64 (seq:Int)) rfl (by intro w hSw;obtain⟨s0,s1,s2,s3⟩:=hSw;go_simp;exact wrap_small _ omQ omQ) hH ?_;refine rdQ [6,14] ?_;refine AllReadyH.cons rfl (λK hK=>?_) (arQ λK hK=>?_)
 ·go_simp;refine hK.out _ _ (by simp) (λhH=>?_);clear hK K;refine rdQ [7,14] ?_;refine AllReadyH.cons rfl (λK hK=>?_) (arQ λK hK=>?_)
  ·have hc:=QbE (W:=((w.alloc (.cells #[.int .u8 2,.string key,.int .u16 (seq:Int),.int .i16 0] 40)).alloc (.cells #[.int .u8 2,.int .u8 (key.size:Int)] 5)).drew) (B:=w.heap.size+1) (c:=2) (x:=2) (y:=(key.size:Int)) omQ omQ omQ omQ (by simp) (by simp);go_simp;refine hK.out _ _ (by simp) (λhH=>?_);clear hK K;clear hc;refine tlQ 10 (.string (⟨#[byteOf 2,byteOf (key.size:Int)]⟩++key)) rfl (by intro w hSw;obtain⟨s0,s1,s2,s3⟩:=hSw;go_simp;omega) hH ?_;refine rdQ [14] ?_
   refine arQ λK hK=>?_
   go_simp
   go_wp2_with(go_at_call 62;refine(hT.out _).mono ?_;rintro e w8 ⟨rfl,hb8⟩;obtain⟨k8,f8⟩:=bcell hb8)
   refine hK.out _ _ ⟨by rw[k8 _ _ (by simp<;>omega)];simp,by rw[k8 _ _ (by simp<;>omega)];simp,by rw[k8 _ _ (by simp<;>omega)];simp,by rw[k8 _ _ (by simp<;>omega)];simp⟩ (λhH=>?_);clear hK K;refine tlQ 15 (.string (⟨#[byteOf 2,byteOf (key.size:Int)]⟩++key++twoB (u16 (seq:Int)))) rfl (by intro w hSw;obtain⟨s0,s1,s2,s3⟩:=hSw;go_simp;rw[QaG];omega) hH ?_;refine tlQ 16 (.string (⟨#[byteOf 2,byteOf (key.size:Int)]⟩++key++twoB (u16 (seq:Int)))) rfl (by intro w hSw;obtain⟨s0,s1,s2,s3⟩:=hSw;go_simp) hH ?_;refine wpAnyH_done krQ ?_ _;have hbx:Below (w.heap.size+1) (w.alloc (.cells #[.int .u8 2,.string key,.int .u16 (seq:Int),.int .i16 0] 40)) _:=((Below.refl _ _).alloc (by simp) _).drew.trans (hb8.mono (by simp));have hzx:=hbx.size;obtain⟨z0,z1,z2,z3⟩:=hH
   have HS:=show Hid ((⟨#[byteOf 2,byteOf (key.size:Int)]⟩++key++twoB (u16 (seq:Int)):ByteArray).data.toList=[UInt8.ofNat 2,UInt8.ofNat key.size]++key.data.toList++[UInt8.ofNat (seq / 256),UInt8.ofNat (seq % 256)]/\(⟨#[byteOf 2,byteOf (key.size:Int)]⟩++key++twoB (u16 (seq:Int)):ByteArray).size<=12)from QbU 2 key seq hk8 hs
   generalize(⟨#[byteOf 2,byteOf (key.size:Int)]⟩++key++twoB (u16 (seq:Int)):ByteArray)=S1 at HS;have hS12:=HS.out.2
   skip
   clear hb8 k8 f8 hT;simp at hzx
   have hc:∀o,w8.cell? ⟨w.heap.size,o,none⟩=(w.alloc (.cells #[.int .u8 2,.string key,.int .u16 (seq:Int),.int .i16 0] 40)).cell? ⟨w.heap.size,o,none⟩:=λo=>hbx.cell (p:=⟨w.heap.size,o,none⟩) (by simp)
   have hR:=show Hid _ from λw=>Qb8 S1 w omQ
   have Hj:=show Hid (_=_)from Qb9 S1 ⟨2,key,seq,0⟩ (by rw[HS.out.1];simp[body])
   go_wp2_with(first | (go_at_call 63;refine(hR.out _).mono ?_;rintro e w11 ⟨rfl,hb11⟩))
   go_ret;exact⟨by rw[<-Hj.out];rfl,((Below.refl _ w).alloc (Nat.le_refl _) _).trans ((hbx.trans (hb11.mono omQ)).mono omQ)⟩
  ·go_simp
   go_wp2_with(go_at_call 62;refine(hT.out _).mono ?_;rintro e w8 ⟨rfl,hb8⟩;obtain⟨k8,f8⟩:=bcell hb8)
   have hc:=QbE (W:=w8) (B:=w.heap.size+1) (c:=2) (x:=2) (y:=(key.size:Int)) omQ omQ omQ omQ (by rw[k8 _ _ (by simp)];simp) (by rw[k8 _ _ (by simp)];simp);refine hK.out _ _ ⟨by rw[k8 _ _ (by simp<;>omega)];simp,by rw[k8 _ _ (by simp<;>omega)];simp,by rw[k8 _ _ (by simp<;>omega)];simp,by rw[k8 _ _ (by simp<;>omega)];simp⟩ (λhH=>?_);clear hK K;refine rdQ [7] ?_
   refine arQ λK hK=>?_
   go_simp;refine hK.out _ _ hH (λhH=>?_);clear hK K;clear hc;refine tlQ 10 (.string (⟨#[byteOf 2,byteOf (key.size:Int)]⟩++key)) rfl (by intro w hSw;obtain⟨s0,s1,s2,s3⟩:=hSw;go_simp;omega) hH ?_;refine tlQ 15 (.string (⟨#[byteOf 2,byteOf (key.size:Int)]⟩++key++twoB (u16 (seq:Int)))) rfl (by intro w hSw;obtain⟨s0,s1,s2,s3⟩:=hSw;go_simp;rw[QaG];omega) hH ?_;refine tlQ 16 (.string (⟨#[byteOf 2,byteOf (key.size:Int)]⟩++key++twoB (u16 (seq:Int)))) rfl (by intro w hSw;obtain⟨s0,s1,s2,s3⟩:=hSw;go_simp) hH ?_;refine wpAnyH_done krQ ?_ _;have hbx:Below (w.heap.size+1) (w.alloc (.cells #[.int .u8 2,.string key,.int .u16 (seq:Int),.int .i16 0] 40)) _:=((Below.refl _ _).alloc (by simp) _).drew.trans (hb8.mono (by simp));have hzx:=hbx.size;obtain⟨z0,z1,z2,z3⟩:=hH
   have HS:=show Hid ((⟨#[byteOf 2,byteOf (key.size:Int)]⟩++key++twoB (u16 (seq:Int)):ByteArray).data.toList=[UInt8.ofNat 2,UInt8.ofNat key.size]++key.data.toList++[UInt8.ofNat (seq / 256),UInt8.ofNat (seq % 256)]/\(⟨#[byteOf 2,byteOf (key.size:Int)]⟩++key++twoB (u16 (seq:Int)):ByteArray).size<=12)from QbU 2 key seq hk8 hs
   generalize(⟨#[byteOf 2,byteOf (key.size:Int)]⟩++key++twoB (u16 (seq:Int)):ByteArray)=S1 at HS;have hS12:=HS.out.2
   skip
   clear hb8 k8 f8 hT;simp at hzx
   have hc:∀o,w8.cell? ⟨w.heap.size,o,none⟩=(w.alloc (.cells #[.int .u8 2,.string key,.int .u16 (seq:Int),.int .i16 0] 40)).cell? ⟨w.heap.size,o,none⟩:=λo=>hbx.cell (p:=⟨w.heap.size,o,none⟩) (by simp)
   have hR:=show Hid _ from λw=>Qb8 S1 w omQ
   have Hj:=show Hid (_=_)from Qb9 S1 ⟨2,key,seq,0⟩ (by rw[HS.out.1];simp[body])
   go_wp2_with(first | (go_at_call 63;refine(hR.out _).mono ?_;rintro e w11 ⟨rfl,hb11⟩))
   go_ret;exact⟨by rw[<-Hj.out];rfl,((Below.refl _ w).alloc (Nat.le_refl _) _).trans ((hbx.trans (hb11.mono omQ)).mono omQ)⟩
 ·go_simp
  go_wp2_with(go_at_call 62;refine(hT.out _).mono ?_;rintro e w8 ⟨rfl,hb8⟩;obtain⟨k8,f8⟩:=bcell hb8)
  refine hK.out _ _ ⟨by rw[k8 _ _ (by simp<;>omega)];simp,by rw[k8 _ _ (by simp<;>omega)];simp,by rw[k8 _ _ (by simp<;>omega)];simp,by rw[k8 _ _ (by simp<;>omega)];simp⟩ (λhH=>?_);clear hK K;refine rdQ [6] ?_
  refine arQ λK hK=>?_
  go_simp;refine hK.out _ _ (by obtain⟨z0,z1,z2,z3⟩:=hH;have hz8:w.heap.size<w8.heap.size:=by{have:=hb8.size;simp at this;omega};simp[World.cell?_alloc_past,hz8,z0,z1,z2,z3]) (λhH=>?_);clear hK K;have hc:=QbE (W:=w8.alloc (.cells #[.int .u8 2,.int .u8 (key.size:Int)] 5)) (B:=w8.heap.size) (c:=2) (x:=2) (y:=(key.size:Int)) omQ omQ omQ omQ (by simp) (by simp);refine rdQ [7] ?_
  refine arQ λK hK=>?_
  go_simp;refine hK.out _ _ hH (λhH=>?_);clear hK K;clear hc;refine tlQ 10 (.string (⟨#[byteOf 2,byteOf (key.size:Int)]⟩++key)) rfl (by intro w hSw;obtain⟨s0,s1,s2,s3⟩:=hSw;go_simp;omega) hH ?_;refine tlQ 15 (.string (⟨#[byteOf 2,byteOf (key.size:Int)]⟩++key++twoB (u16 (seq:Int)))) rfl (by intro w hSw;obtain⟨s0,s1,s2,s3⟩:=hSw;go_simp;rw[QaG];omega) hH ?_;refine tlQ 16 (.string (⟨#[byteOf 2,byteOf (key.size:Int)]⟩++key++twoB (u16 (seq:Int)))) rfl (by intro w hSw;obtain⟨s0,s1,s2,s3⟩:=hSw;go_simp) hH ?_;refine wpAnyH_done krQ ?_ _;have hbx:Below (w.heap.size+1) (w.alloc (.cells #[.int .u8 2,.string key,.int .u16 (seq:Int),.int .i16 0] 40)) _:=((Below.refl _ _).drew.trans (hb8.mono (by simp))).alloc (by have:=hb8.size;simp at this;omega) (.cells #[.int .u8 2,.int .u8 (key.size:Int)] 5);have hzx:=hbx.size;obtain⟨z0,z1,z2,z3⟩:=hH
  have HS:=show Hid ((⟨#[byteOf 2,byteOf (key.size:Int)]⟩++key++twoB (u16 (seq:Int)):ByteArray).data.toList=[UInt8.ofNat 2,UInt8.ofNat key.size]++key.data.toList++[UInt8.ofNat (seq / 256),UInt8.ofNat (seq % 256)]/\(⟨#[byteOf 2,byteOf (key.size:Int)]⟩++key++twoB (u16 (seq:Int)):ByteArray).size<=12)from QbU 2 key seq hk8 hs
  generalize(⟨#[byteOf 2,byteOf (key.size:Int)]⟩++key++twoB (u16 (seq:Int)):ByteArray)=S1 at HS;have hS12:=HS.out.2;generalize w8.alloc (.cells #[.int .u8 2,.int .u8 (key.size:Int)] 5)=w9 at hbx hzx z0 z1 z2 z3;clear hb8 k8 f8 hT;simp at hzx
  have hc:∀o,w9.cell? ⟨w.heap.size,o,none⟩=(w.alloc (.cells #[.int .u8 2,.string key,.int .u16 (seq:Int),.int .i16 0] 40)).cell? ⟨w.heap.size,o,none⟩:=λo=>hbx.cell (p:=⟨w.heap.size,o,none⟩) (by simp)
  have hR:=show Hid _ from λw=>Qb8 S1 w omQ
  have Hj:=show Hid (_=_)from Qb9 S1 ⟨2,key,seq,0⟩ (by rw[HS.out.1];simp[body])
  go_wp2_with(first | (go_at_call 63;refine(hR.out _).mono ?_;rintro e w11 ⟨rfl,hb11⟩))
  go_ret;exact⟨by rw[<-Hj.out];rfl,((Below.refl _ w).alloc (Nat.le_refl _) _).trans ((hbx.trans (hb11.mono omQ)).mono omQ)⟩
theorem Qeo(e:Ev)(w:World)(hok:e.ok)(hks:e.key.size<=9223372036854775800):
  Calls Tryz.prog 16 #[e.value] w λen w'=>en=.returned (.tuple #[.string (encStr e),.int .i64 (refuse e:Int)])/\Below w.heap.size w w':=by
 obtain⟨op,key,seq,val⟩:=e;obtain⟨o1,o2,o3,o4⟩:=hok;simp only at o1 o2 o3 o4 hks;unfold Ev.value
 have hK:=show Hid _ from λw=>Qkk key w hks
 obtain⟨v,hv⟩:∃v,validB key=v:=⟨_,rfl⟩
 rw[hv]at hK
 by_cases h12:op≠1/\op≠2
 ·have e:refuse ⟨op,key,seq,val⟩=5:=by simp[refuse,h12]
  have hE:encStr ⟨op,key,seq,val⟩=⟨#[]⟩:=if_neg (by rw[e];decide);rw[e,hE];clear e hE hv
  rcases(show op<1\/2<op by omega)with hlt | hgt
  ·have d1:decide ((op:Int)<1)=true:=decide_eq_true omQ;clear h12;go_enter Tryz.func16,Tryz.ntmps16
   go_wp2_with(go_at_call 37;refine(hK.out _).mono ?_;rintro e w' ⟨rfl,rfl⟩)
   go_ret2
   exact⟨rfl,(Below.refl _ w).alloc (Nat.le_refl _) _⟩
  ·have d1:decide ((op:Int)<1)=false:=decide_eq_false omQ;have d2:decide ((2:Int)<(op:Int))=true:=decide_eq_true omQ;clear h12;go_enter Tryz.func16,Tryz.ntmps16
   go_wp2_with(go_at_call 37;refine(hK.out _).mono ?_;rintro e w' ⟨rfl,rfl⟩)
   go_ret2
   exact⟨rfl,(Below.refl _ w).alloc (Nat.le_refl _) _⟩
 cases v with
 | false=>
  have e:refuse ⟨op,key,seq,val⟩=4:=by simp only[refuse,if_neg h12,hv,if_true]
  have hE:encStr ⟨op,key,seq,val⟩=⟨#[]⟩:=if_neg (by rw[e];decide);rw[e,hE];clear e hE hv
  rcases(show op=1\/op=2 by omega)with rfl | rfl
  ·go_enter Tryz.func16,Tryz.ntmps16
   go_wp2_with(go_at_call 37;refine(hK.out _).mono ?_;rintro e w' ⟨rfl,rfl⟩)
   go_ret2
   exact⟨rfl,(Below.refl _ w).alloc (Nat.le_refl _) _⟩
  ·go_enter Tryz.func16,Tryz.ntmps16
   go_wp2_with(go_at_call 37;refine(hK.out _).mono ?_;rintro e w' ⟨rfl,rfl⟩)
   go_ret2
   exact⟨rfl,(Below.refl _ w).alloc (Nat.le_refl _) _⟩
 | true=>
  rcases(show op=1\/op=2 by omega)with rfl | rfl
  ·have e:refuse ⟨1,key,seq,val⟩=0:=by simp[refuse,hv]
   have hE:encStr ⟨1,key,seq,val⟩=⟨(recB ⟨1,key,seq,val⟩).toArray⟩:=if_pos e;have hk8:=(QbB e).2.1
   have hW:=show Hid _ from λw=>QhI key seq val w hk8 o2 o3 o4
   rw[e,hE];clear e hE hv;go_enter Tryz.func16,Tryz.ntmps16
   go_wp2_with(first | (go_at_call 37;refine(hK.out _).mono ?_;rintro e w' ⟨rfl,rfl⟩) | (go_at_call 38;refine(hW.out _).mono ?_;rintro e w1 ⟨rfl,hb⟩))
   go_ret2
   exact⟨rfl,Qa5 hb⟩
  ·by_cases hz:val=0
   ·subst hz
    have e:refuse ⟨2,key,seq,0⟩=0:=by simp[refuse,hv]
    have hE:encStr ⟨2,key,seq,0⟩=⟨(recB ⟨2,key,seq,0⟩).toArray⟩:=if_pos e;have hk8:=(QbB e).2.1
    have hW:=show Hid _ from λw=>QgG key seq w hk8 o2
    rw[e,hE];clear e hE hv;go_enter Tryz.func16,Tryz.ntmps16
    go_wp2_with(first | (go_at_call 37;refine(hK.out _).mono ?_;rintro e w' ⟨rfl,rfl⟩) | (go_at_call 38;refine(hW.out _).mono ?_;rintro e w1 ⟨rfl,hb⟩))
    go_ret2
    exact⟨rfl,Qa5 hb⟩
   ·have e:refuse ⟨2,key,seq,val⟩=3:=by simp[refuse,hv,hz]
    have hE:encStr ⟨2,key,seq,val⟩=⟨#[]⟩:=if_neg (by rw[e];decide)
    have hne:(val !=0)=true:=by simpa using hz
    rw[e,hE];clear e hE hv;go_enter Tryz.func16,Tryz.ntmps16
    go_wp2_with(go_at_call 37;refine(hK.out _).mono ?_;rintro e w' ⟨rfl,rfl⟩)
    go_ret2
    exact⟨rfl,(Below.refl _ w).alloc (Nat.le_refl _) _⟩
theorem Qe8(s:ByteArray)(w:World)(h:2<=s.size):
  Calls Tryz.prog 58 #[.string s] w λe w'=>e=.returned (.int .i64 ((gb s 0*256+gb s 1:Nat):Int))/\∃n,w'=w.drewN n:=by
 have g0:=Qa6 s 0 omQ;have g1:=Qa6 s 1 omQ;have l0:=QaE s 0;have l1:=QaE s 1;generalize gb s 0=x at g0 l0;generalize gb s 1=y at g1 l1;have i0:(0:Int)<(s.size:Int):=omQ;have i1:(1:Int)<(s.size:Int):=omQ;go_enter Tryz.func58,Tryz.ntmps58;go_wp2
 go_quiet (fail)
 go_wp2;go_ret;exact⟨rfl,_,rfl⟩
theorem Qcz(s:ByteArray)(n i:Nat):gb (s.extract n s.size) i=gb s (n+i):=by
 unfold gb;rw[QaA,List.take_of_length_le (by rw[List.length_drop,Qam];omega),List.getD_eq_getElem?_getD,List.getD_eq_getElem?_getD,List.getElem?_drop]
theorem QgH(s:ByteArray)(w:World)(k:Nat)(h:s.size<6\/(6<=s.size/\8<k)\/(6<=s.size/\k<=8/\s.size<4+k))(hk:∀h:1<s.size,(s[1]'h).toNat=k)(hk':k<256):
  Calls Tryz.prog 35 #[.string s] w λen w'=>en=.returned (.tuple #[.agg #[.int .u8 0,.string ⟨#[]⟩,.int .u16 0,.int .i16 0],.string ⟨#[]⟩,.bool false])/\Below w.heap.size w w':=by
 rcases h with h | ⟨h6,h8⟩ | ⟨h6,h8,h4⟩
 ·have d1:decide ((s.size:Int)<6)=true:=decide_eq_true omQ;clear hk;go_enter Tryz.func35,Tryz.ntmps35;go_wp2;exact bodyPost_ret (v:=.tuple #[.agg #[.int .u8 0,.string ⟨#[]⟩,.int .u16 0,.int .i16 0],.string ⟨#[]⟩,.bool false]) (by simp[results,Tryz.results35,go_sem]) rfl ⟨rfl,((Below.refl _ w).alloc (Nat.le_refl _) _).alloc (by simp) _⟩
 ·have d1:decide ((s.size:Int)<6)=false:=decide_eq_false omQ;have d2:decide ((8:Int)<(k:Int))=true:=decide_eq_true omQ;have hk1:=hk omQ;clear hk;go_enter Tryz.func35,Tryz.ntmps35;go_wp2;exact bodyPost_ret (v:=.tuple #[.agg #[.int .u8 0,.string ⟨#[]⟩,.int .u16 0,.int .i16 0],.string ⟨#[]⟩,.bool false]) (by simp[results,Tryz.results35,go_sem]) rfl ⟨rfl,((Below.refl _ w).alloc (Nat.le_refl _) _).alloc (by simp) _⟩
 ·have d1:decide ((s.size:Int)<6)=false:=decide_eq_false omQ;have d2:decide ((8:Int)<(k:Int))=false:=decide_eq_false omQ;have d3:decide ((s.size:Int)<4+(k:Int))=true:=decide_eq_true omQ;have hk1:=hk omQ;clear hk;go_enter Tryz.func35,Tryz.ntmps35;go_wp2;exact bodyPost_ret (v:=.tuple #[.agg #[.int .u8 0,.string ⟨#[]⟩,.int .u16 0,.int .i16 0],.string ⟨#[]⟩,.bool false]) (by simp[results,Tryz.results35,go_sem]) rfl ⟨rfl,((Below.refl _ w).alloc (Nat.le_refl _) _).alloc (by simp) _⟩
theorem QgI(s:ByteArray)(w:World)(op k sq:Nat)(h6:6<=s.size)(hmx:s.size<=400)(h0:(s[0]'omQ).toNat=op)(hk:(s[1]'omQ).toNat=k)(k8:k<=8)(h4:4+k<=s.size)(hne:((op:Int)==1)=false)(hsq:sq<65536)
  (hN:Hid (∀w,Calls Tryz.prog 58 #[.string (s.extract (2+k) s.size)] w λe w'=>e=.returned (.int .i64 (sq:Int))/\∃n,w'=w.drewN n)) (t:ByteArray) (r:Nat)
  (hE:Hid (∀w,Calls Tryz.prog 16 #[.agg #[.int .u8 (op:Int),.string (s.extract 2 (2+k)),.int .u16 (sq:Int),.int .i16 0]] w λen w'=>en=.returned (.tuple #[.string t,.int .i64 (r:Int)])/\Below w.heap.size w w'))
  (okb:Bool) (Hok:Hid (okb=(decide (r=0) && decide (t.size<=s.size) && ((s.extract 0 t.size).toList==t.toList)))):
  Calls Tryz.prog 35 #[.string s] w λen w'=>en=.returned (.tuple #[.agg #[.int .u8 (op:Int),.string (s.extract 2 (2+k)),.int .u16 (sq:Int),.int .i16 0],.string t,.bool okb])/\Below w.heap.size w w':=by
 have d1:decide ((s.size:Int)<6)=false:=decide_eq_false omQ;have d2:decide ((8:Int)<(k:Int))=false:=decide_eq_false omQ;have d3:decide ((s.size:Int)<4+(k:Int))=false:=decide_eq_false omQ;go_enter Tryz.func35,Tryz.ntmps35
 go_wp2_with(first | (go_at_call 58;refine(hN.out _).mono ?_;rintro e w1 ⟨rfl,nq,rfl⟩))
 refine(hE.out _).mono ?_;rintro e w1 ⟨rfl,hb⟩;obtain⟨hc,hf⟩:=bcell hb
 have hz:w.heap.size+2<=w1.heap.size:=by have:=hb.size;simp at this;omega
 have hbw:Below w.heap.size w w1:=Below.trans ((below_drewN (((Below.refl _ w).alloc (Nat.le_refl _) _).alloc (by simp) _) nq).setCell (by simp) _) (hb.mono (by simp;omega))
 have c0:w1.cell? ⟨w.heap.size,0,none⟩=some (.int .u8 0):=by rw[hc _ _ (by simp;omega)];simp[go_sem]
 have c1:w1.cell? ⟨w.heap.size,1,none⟩=some (.string ⟨#[]⟩):=by rw[hc _ _ (by simp;omega)];simp[go_sem]
 have c2:w1.cell? ⟨w.heap.size,2,none⟩=some (.int .u16 0):=by rw[hc _ _ (by simp;omega)];simp[go_sem]
 have c3:w1.cell? ⟨w.heap.size,3,none⟩=some (.int .i16 0):=by rw[hc _ _ (by simp;omega)];simp[go_sem]
 have e0:w1.cell? ⟨w.heap.size+1,0,none⟩=some (.int .u8 (op:Int)):=by rw[hc _ _ (by simp)];simp[go_sem]
 have e1:w1.cell? ⟨w.heap.size+1,1,none⟩=some (.string (s.extract 2 (2+k))):=by rw[hc _ _ (by simp)];simp[go_sem]
 have e2:w1.cell? ⟨w.heap.size+1,2,none⟩=some (.int .u16 (sq:Int)):=by rw[hc _ _ (by simp)];simp[go_sem]
 have e3:w1.cell? ⟨w.heap.size+1,3,none⟩=some (.int .i16 0):=by rw[hc _ _ (by simp)];simp[go_sem]
 have f0:∀o,w1.frozen? ⟨w.heap.size,o,none⟩=false:=λo=>by rw[hf _ _ (by simp;omega)];simp[go_sem]
 clear hb hc hf
 by_cases hr:r=0
 ·subst hr
  by_cases hsz:t.size<=s.size
  ·have dz:decide (t.size<=s.size)=true:=decide_eq_true hsz
   cases heq:((s.extract 0 t.size).toList==t.toList)with
   | true=>
    have HO:=show Hid (okb=true)from by rw[show okb=_ from Hok.out,dz,heq];rfl
    go_wp2
    exact bodyPost_ret (v:=.tuple #[.agg #[.int .u8 (op:Int),.string (s.extract 2 (2+k)),.int .u16 (sq:Int),.int .i16 0],.string t,.bool true]) (by simp[results,Tryz.results35,go_sem,c0,c1,c2,c3]) rfl ⟨by rw[HO.out],(((hbw.setCell (by simp) _).setCell (by simp) _).setCell (by simp) _).setCell (by simp) _⟩
   | false=>
    have HO:=show Hid (okb=false)from by rw[show okb=_ from Hok.out,dz,heq];rfl
    go_wp2;exact bodyPost_ret (v:=.tuple #[.agg #[.int .u8 (op:Int),.string (s.extract 2 (2+k)),.int .u16 (sq:Int),.int .i16 0],.string t,.bool false]) (by simp[results,Tryz.results35,go_sem,c0,c1,c2,c3]) rfl ⟨by rw[HO.out],(((hbw.setCell (by simp) _).setCell (by simp) _).setCell (by simp) _).setCell (by simp) _⟩
  ·have dz:decide (t.size<=s.size)=false:=decide_eq_false hsz
   have HO:=show Hid (okb=false)from by rw[show okb=_ from Hok.out,dz];rfl
   clear hsz;go_wp2;exact bodyPost_ret (v:=.tuple #[.agg #[.int .u8 (op:Int),.string (s.extract 2 (2+k)),.int .u16 (sq:Int),.int .i16 0],.string t,.bool false]) (by simp[results,Tryz.results35,go_sem,c0,c1,c2,c3]) rfl ⟨by rw[HO.out],(((hbw.setCell (by simp) _).setCell (by simp) _).setCell (by simp) _).setCell (by simp) _⟩
 ·have hrb:((r:Int)==0)=false:=by rw[beq_eq_false_iff_ne];omega
  have HO:=show Hid (okb=false)from by rw[show okb=_ from Hok.out,decide_eq_false hr];rfl
  clear hr;go_wp2;exact bodyPost_ret (v:=.tuple #[.agg #[.int .u8 (op:Int),.string (s.extract 2 (2+k)),.int .u16 (sq:Int),.int .i16 0],.string t,.bool false]) (by simp[results,Tryz.results35,go_sem,c0,c1,c2,c3]) rfl ⟨by rw[HO.out],(((hbw.setCell (by simp) _).setCell (by simp) _).setCell (by simp) _).setCell (by simp) _⟩
theorem QhJ(s:ByteArray)(w:World)(k sq:Nat)(h6:6<=s.size)(hmx:s.size<=400)(h0:(s[0]'omQ).toNat=1)(hk:(s[1]'omQ).toNat=k)(k8:k<=8)(h4:4+k<=s.size)(hl:s.size<6+k)(hsq:sq<65536)
  (hN:Hid (∀w,Calls Tryz.prog 58 #[.string (s.extract (2+k) s.size)] w λe w'=>e=.returned (.int .i64 (sq:Int))/\∃n,w'=w.drewN n)):
  Calls Tryz.prog 35 #[.string s] w λen w'=>en=.returned (.tuple #[.agg #[.int .u8 1,.string (s.extract 2 (2+k)),.int .u16 (sq:Int),.int .i16 0],.string ⟨#[]⟩,.bool false])/\Below w.heap.size w w':=by
 have d1:decide ((s.size:Int)<6)=false:=decide_eq_false omQ;have d2:decide ((8:Int)<(k:Int))=false:=decide_eq_false omQ;have d3:decide ((s.size:Int)<4+(k:Int))=false:=decide_eq_false omQ;go_enter Tryz.func35,Tryz.ntmps35
 go_wp2_with(first | (go_at_call 58;refine(hN.out _).mono ?_;rintro e w1 ⟨rfl,nq,rfl⟩))
 exact bodyPost_ret (v:=.tuple #[.agg #[.int .u8 1,.string (s.extract 2 (2+k)),.int .u16 (sq:Int),.int .i16 0],.string ⟨#[]⟩,.bool false]) (by simp[results,Tryz.results35,go_sem]) rfl ⟨rfl,(((((below_drewN (((Below.refl _ w).alloc (Nat.le_refl _) _).alloc (by simp) _) nq).setCell (by simp) _).setCell (by simp) _).setCell (by simp) _).setCell (by simp) _).setCell (by simp) _⟩
theorem Qi2(s:ByteArray)(w:World)(k sq v:Nat)(h6:6<=s.size)(hmx:s.size<=400)(h0:(s[0]'omQ).toNat=1)(hk:(s[1]'omQ).toNat=k)(k8:k<=8)(h4:6+k<=s.size)(hsq:sq<65536)(hv:v<=32767)
  (hN:Hid (∀w,Calls Tryz.prog 58 #[.string (s.extract (2+k) s.size)] w λe w'=>e=.returned (.int .i64 (sq:Int))/\∃n,w'=w.drewN n))
  (hN2:Hid (∀w,Calls Tryz.prog 58 #[.string (s.extract (2+k+2) s.size)] w λe w'=>e=.returned (.int .i64 (v:Int))/\∃n,w'=w.drewN n)) (t:ByteArray) (r:Nat)
  (hE:Hid (∀w,Calls Tryz.prog 16 #[.agg #[.int .u8 1,.string (s.extract 2 (2+k)),.int .u16 (sq:Int),.int .i16 (v:Int)]] w λen w'=>en=.returned (.tuple #[.string t,.int .i64 (r:Int)])/\Below w.heap.size w w'))
  (okb:Bool) (Hok:Hid (okb=(decide (r=0) && decide (t.size<=s.size) && ((s.extract 0 t.size).toList==t.toList)))):
  Calls Tryz.prog 35 #[.string s] w λen w'=>en=.returned (.tuple #[.agg #[.int .u8 1,.string (s.extract 2 (2+k)),.int .u16 (sq:Int),.int .i16 (v:Int)],.string t,.bool okb])/\Below w.heap.size w w':=by
 have d1:decide ((s.size:Int)<6)=false:=decide_eq_false omQ;have d2:decide ((8:Int)<(k:Int))=false:=decide_eq_false omQ;have d3:decide ((s.size:Int)<4+(k:Int))=false:=decide_eq_false omQ;go_enter Tryz.func35,Tryz.ntmps35
 go_wp2_with fail
 refine(hN.out _).mono ?_;rintro e w1 ⟨rfl,nq,rfl⟩
 go_wp2_with fail
 refine(hN2.out _).mono ?_;rintro e w1 ⟨rfl,nq2,rfl⟩
 go_wp2_with fail
 refine(hE.out _).mono ?_;rintro e w1 ⟨rfl,hb⟩;obtain⟨hc,hf⟩:=bcell hb
 have hz:w.heap.size+2<=w1.heap.size:=by have:=hb.size;simp at this;omega
 have hbw:Below w.heap.size w w1:=Below.trans ((below_drewN ((below_drewN (((Below.refl _ w).alloc (Nat.le_refl _) _).alloc (by simp) _) nq).setCell (by simp) _) nq2).setCell (by simp) _) (hb.mono (by simp;omega))
 have c0:w1.cell? ⟨w.heap.size,0,none⟩=some (.int .u8 0):=by rw[hc _ _ (by simp;omega)];simp[go_sem]
 have c1:w1.cell? ⟨w.heap.size,1,none⟩=some (.string ⟨#[]⟩):=by rw[hc _ _ (by simp;omega)];simp[go_sem]
 have c2:w1.cell? ⟨w.heap.size,2,none⟩=some (.int .u16 0):=by rw[hc _ _ (by simp;omega)];simp[go_sem]
 have c3:w1.cell? ⟨w.heap.size,3,none⟩=some (.int .i16 0):=by rw[hc _ _ (by simp;omega)];simp[go_sem]
 have e0:w1.cell? ⟨w.heap.size+1,0,none⟩=some (.int .u8 1):=by rw[hc _ _ (by simp)];simp[go_sem]
 have e1:w1.cell? ⟨w.heap.size+1,1,none⟩=some (.string (s.extract 2 (2+k))):=by rw[hc _ _ (by simp)];simp[go_sem]
 have e2:w1.cell? ⟨w.heap.size+1,2,none⟩=some (.int .u16 (sq:Int)):=by rw[hc _ _ (by simp)];simp[go_sem]
 have e3:w1.cell? ⟨w.heap.size+1,3,none⟩=some (.int .i16 (v:Int)):=by rw[hc _ _ (by simp)];simp[go_sem]
 have f0:∀o,w1.frozen? ⟨w.heap.size,o,none⟩=false:=λo=>by rw[hf _ _ (by simp;omega)];simp[go_sem]
 clear hb hc hf
 by_cases hr:r=0
 ·subst hr
  by_cases hsz:t.size<=s.size
  ·have dz:decide (t.size<=s.size)=true:=decide_eq_true hsz
   cases heq:((s.extract 0 t.size).toList==t.toList)with
   | true=>
    have HO:=show Hid (okb=true)from by rw[show okb=_ from Hok.out,dz,heq];rfl
    go_wp2
    exact bodyPost_ret (v:=.tuple #[.agg #[.int .u8 1,.string (s.extract 2 (2+k)),.int .u16 (sq:Int),.int .i16 (v:Int)],.string t,.bool true]) (by simp[results,Tryz.results35,go_sem,c0,c1,c2,c3]) rfl ⟨by rw[HO.out],(((hbw.setCell (by simp) _).setCell (by simp) _).setCell (by simp) _).setCell (by simp) _⟩
   | false=>
    have HO:=show Hid (okb=false)from by rw[show okb=_ from Hok.out,dz,heq];rfl
    go_wp2;exact bodyPost_ret (v:=.tuple #[.agg #[.int .u8 1,.string (s.extract 2 (2+k)),.int .u16 (sq:Int),.int .i16 (v:Int)],.string t,.bool false]) (by simp[results,Tryz.results35,go_sem,c0,c1,c2,c3]) rfl ⟨by rw[HO.out],(((hbw.setCell (by simp) _).setCell (by simp) _).setCell (by simp) _).setCell (by simp) _⟩
  ·have dz:decide (t.size<=s.size)=false:=decide_eq_false hsz
   have HO:=show Hid (okb=false)from by rw[show okb=_ from Hok.out,dz];rfl
   clear hsz;go_wp2;exact bodyPost_ret (v:=.tuple #[.agg #[.int .u8 1,.string (s.extract 2 (2+k)),.int .u16 (sq:Int),.int .i16 (v:Int)],.string t,.bool false]) (by simp[results,Tryz.results35,go_sem,c0,c1,c2,c3]) rfl ⟨by rw[HO.out],(((hbw.setCell (by simp) _).setCell (by simp) _).setCell (by simp) _).setCell (by simp) _⟩
 ·have hrb:((r:Int)==0)=false:=by rw[beq_eq_false_iff_ne];omega
  have HO:=show Hid (okb=false)from by rw[show okb=_ from Hok.out,decide_eq_false hr];rfl
  clear hr;go_wp2;exact bodyPost_ret (v:=.tuple #[.agg #[.int .u8 1,.string (s.extract 2 (2+k)),.int .u16 (sq:Int),.int .i16 (v:Int)],.string t,.bool false]) (by simp[results,Tryz.results35,go_sem,c0,c1,c2,c3]) rfl ⟨by rw[HO.out],(((hbw.setCell (by simp) _).setCell (by simp) _).setCell (by simp) _).setCell (by simp) _⟩
theorem QhK(s:ByteArray)(w:World)(k sq v:Nat)(h6:6<=s.size)(hmx:s.size<=400)(h0:(s[0]'omQ).toNat=1)(hk:(s[1]'omQ).toNat=k)(k8:k<=8)(h4:6+k<=s.size)(hsq:sq<65536)(hv:32767<v)(hv':v<65536)
  (hN:Hid (∀w,Calls Tryz.prog 58 #[.string (s.extract (2+k) s.size)] w λe w'=>e=.returned (.int .i64 (sq:Int))/\∃n,w'=w.drewN n))
  (hN2:Hid (∀w,Calls Tryz.prog 58 #[.string (s.extract (2+k+2) s.size)] w λe w'=>e=.returned (.int .i64 (v:Int))/\∃n,w'=w.drewN n)) (t:ByteArray) (r:Nat)
  (hE:Hid (∀w,Calls Tryz.prog 16 #[.agg #[.int .u8 1,.string (s.extract 2 (2+k)),.int .u16 (sq:Int),.int .i16 ((v:Int)-65536)]] w λen w'=>en=.returned (.tuple #[.string t,.int .i64 (r:Int)])/\Below w.heap.size w w'))
  (okb:Bool) (Hok:Hid (okb=(decide (r=0) && decide (t.size<=s.size) && ((s.extract 0 t.size).toList==t.toList)))):
  Calls Tryz.prog 35 #[.string s] w λen w'=>en=.returned (.tuple #[.agg #[.int .u8 1,.string (s.extract 2 (2+k)),.int .u16 (sq:Int),.int .i16 ((v:Int)-65536)],.string t,.bool okb])/\Below w.heap.size w w':=by
 have d1:decide ((s.size:Int)<6)=false:=decide_eq_false omQ;have d2:decide ((8:Int)<(k:Int))=false:=decide_eq_false omQ;have d3:decide ((s.size:Int)<4+(k:Int))=false:=decide_eq_false omQ;go_enter Tryz.func35,Tryz.ntmps35
 go_wp2_with fail
 refine(hN.out _).mono ?_;rintro e w1 ⟨rfl,nq,rfl⟩
 go_wp2_with fail
 refine(hN2.out _).mono ?_;rintro e w1 ⟨rfl,nq2,rfl⟩
 go_wp2_with fail
 refine(hE.out _).mono ?_;rintro e w1 ⟨rfl,hb⟩;obtain⟨hc,hf⟩:=bcell hb
 have hz:w.heap.size+2<=w1.heap.size:=by have:=hb.size;simp at this;omega
 have hbw:Below w.heap.size w w1:=Below.trans ((below_drewN ((below_drewN (((Below.refl _ w).alloc (Nat.le_refl _) _).alloc (by simp) _) nq).setCell (by simp) _) nq2).setCell (by simp) _) (hb.mono (by simp;omega))
 have c0:w1.cell? ⟨w.heap.size,0,none⟩=some (.int .u8 0):=by rw[hc _ _ (by simp;omega)];simp[go_sem]
 have c1:w1.cell? ⟨w.heap.size,1,none⟩=some (.string ⟨#[]⟩):=by rw[hc _ _ (by simp;omega)];simp[go_sem]
 have c2:w1.cell? ⟨w.heap.size,2,none⟩=some (.int .u16 0):=by rw[hc _ _ (by simp;omega)];simp[go_sem]
 have c3:w1.cell? ⟨w.heap.size,3,none⟩=some (.int .i16 0):=by rw[hc _ _ (by simp;omega)];simp[go_sem]
 have e0:w1.cell? ⟨w.heap.size+1,0,none⟩=some (.int .u8 1):=by rw[hc _ _ (by simp)];simp[go_sem]
 have e1:w1.cell? ⟨w.heap.size+1,1,none⟩=some (.string (s.extract 2 (2+k))):=by rw[hc _ _ (by simp)];simp[go_sem]
 have e2:w1.cell? ⟨w.heap.size+1,2,none⟩=some (.int .u16 (sq:Int)):=by rw[hc _ _ (by simp)];simp[go_sem]
 have e3:w1.cell? ⟨w.heap.size+1,3,none⟩=some (.int .i16 ((v:Int)-65536)):=by rw[hc _ _ (by simp)];simp[go_sem]
 have f0:∀o,w1.frozen? ⟨w.heap.size,o,none⟩=false:=λo=>by rw[hf _ _ (by simp;omega)];simp[go_sem]
 clear hb hc hf
 by_cases hr:r=0
 ·subst hr
  by_cases hsz:t.size<=s.size
  ·have dz:decide (t.size<=s.size)=true:=decide_eq_true hsz
   cases heq:((s.extract 0 t.size).toList==t.toList)with
   | true=>
    have HO:=show Hid (okb=true)from by rw[show okb=_ from Hok.out,dz,heq];rfl
    go_wp2
    exact bodyPost_ret (v:=.tuple #[.agg #[.int .u8 1,.string (s.extract 2 (2+k)),.int .u16 (sq:Int),.int .i16 ((v:Int)-65536)],.string t,.bool true]) (by simp[results,Tryz.results35,go_sem,c0,c1,c2,c3]) rfl ⟨by rw[HO.out],(((hbw.setCell (by simp) _).setCell (by simp) _).setCell (by simp) _).setCell (by simp) _⟩
   | false=>
    have HO:=show Hid (okb=false)from by rw[show okb=_ from Hok.out,dz,heq];rfl
    go_wp2;exact bodyPost_ret (v:=.tuple #[.agg #[.int .u8 1,.string (s.extract 2 (2+k)),.int .u16 (sq:Int),.int .i16 ((v:Int)-65536)],.string t,.bool false]) (by simp[results,Tryz.results35,go_sem,c0,c1,c2,c3]) rfl ⟨by rw[HO.out],(((hbw.setCell (by simp) _).setCell (by simp) _).setCell (by simp) _).setCell (by simp) _⟩
  ·have dz:decide (t.size<=s.size)=false:=decide_eq_false hsz
   have HO:=show Hid (okb=false)from by rw[show okb=_ from Hok.out,dz];rfl
   clear hsz;go_wp2;exact bodyPost_ret (v:=.tuple #[.agg #[.int .u8 1,.string (s.extract 2 (2+k)),.int .u16 (sq:Int),.int .i16 ((v:Int)-65536)],.string t,.bool false]) (by simp[results,Tryz.results35,go_sem,c0,c1,c2,c3]) rfl ⟨by rw[HO.out],(((hbw.setCell (by simp) _).setCell (by simp) _).setCell (by simp) _).setCell (by simp) _⟩
 ·have hrb:((r:Int)==0)=false:=by rw[beq_eq_false_iff_ne];omega
  have HO:=show Hid (okb=false)from by rw[show okb=_ from Hok.out,decide_eq_false hr];rfl
  clear hr;go_wp2;exact bodyPost_ret (v:=.tuple #[.agg #[.int .u8 1,.string (s.extract 2 (2+k)),.int .u16 (sq:Int),.int .i16 ((v:Int)-65536)],.string t,.bool false]) (by simp[results,Tryz.results35,go_sem,c0,c1,c2,c3]) rfl ⟨by rw[HO.out],(((hbw.setCell (by simp) _).setCell (by simp) _).setCell (by simp) _).setCell (by simp) _⟩
end
end Go.Proofs.YthccpacmklhejabGreatDoor
