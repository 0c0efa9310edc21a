import Derived.Test.YthccpacmklhejabGreatDoorTk
import Derived.Test.YthccpacmklhejabGreatDoorK43
import Derived.Test.YthccpacmklhejabGreatDoorK27
import Derived.Test.YthccpacmklhejabGreatDoorK10
import Derived.Test.YthccpacmklhejabGreatDoorTie
import Derived.Test.YthccpacmklhejabGreatDoorCards
import Derived.SevenTiedAt
import Derived.SizedLaws
import Derived.ShutString
set_option maxHeartbeats 4000000
set_option maxRecDepth 100000
namespace Go.Proofs.YthccpacmklhejabGreatDoor
section
open Go.ChangeShapes Go.WideShapes Go.ChangeAt Go.RowKit Go.Deep
open Go.ChangeMaps (open_string shut_string)
theorem Qnc(cw cr:Int)(log:ByteArray)(a:Option Addr)(cap:Nat)(ops:List OpV)(w:World)(hlen:ops.length<=1600000000000)(hev:IsOps w a ops)(hob:∀o∈ops,OpB o)(ht:Tab w):
  Calls Tryz.prog 3 #[.agg #[.int .i64 cw,.int .i64 cr],.string log,.slice a ops.length cap] w λen w'=>en=.returned (.bool true)/\Below w.heap.size w w':=by
 have hT:Hid (∀w1,Below w.heap.size w w1->Calls Tryz.prog 4 #[.agg #[.int .i64 cw,.int .i64 cr],.string log,.slice a ops.length cap,.int .i64 10] w1 λen w'=>en=.returned (.bool true)/\Below w.heap.size w w'):=λw1 hb=>by
  refine(QlD Qf7 Qlv (keepsC Qf7) cw cr log a cap ops 10 w1 hlen ⟨hev.1,?_⟩ hob (ht.old hb)).mono ?_
  ·rcases hev.2 with h | ⟨b,off,e1,e2,e3⟩
   ·exact .inl h
   ·exact .inr ⟨b,off,e1,Nat.lt_of_lt_of_le e2 hb.size,λk hk j hj=>(hb.cell (p:=⟨b,off+k*10+j,none⟩) e2).trans (e3 k hk j hj)⟩
  ·rintro en w' ⟨rfl,hb2⟩;exact⟨rfl,hb.trans (hb2.mono hb.size)⟩
 clear hev ht hob;have hba:=(Below.refl w.heap.size w).alloc (Nat.le_refl _) (.cells #[.int .i64 cw,.int .i64 cr] 23);have HBA:=hdQ hba;clear hba;go_enter Tryz.func3,Tryz.ntmps3
 go_wp2_with(go_at_call 4;refine(hT.out _ (by first | exact HBA.out | exact Below.refl _ _)).mono ?_;rintro en w1 ⟨rfl,hb⟩)
 go_ret;exact⟨rfl,hb⟩
theorem Qkc(os:Os)(started:os.Started)(H:Type)(enc:TypeId × Value->H):
  ReturnsInHanded {} Tryz.checked os 3 .any (λw args=>(Rows.allSpec.pre enc Tryz.prog Tryz.f3 [] false w args/\laidMetH Tryz.prog Rows.allRow.laid w)/\sizedMet enc Tryz.prog Tryz.f3 (OpenSpec.ofChange Rows.allSpec) false w args)
   (Rows.allSpec.post enc Tryz.prog Tryz.f3 false true false false):=by
 refine returnsInHanded_of_change_and (C:=Tryz.checked) (X:=λw _=>laidMetH Tryz.prog Rows.allRow.laid w) (λ_ _ _ hh h=>h.of_heap hh) QlM started krQ Tryz.func3
  (ChangeSpec.witness_shaped (enc:=enc) (C:=Tryz.checked) (os:=os) (X:=λw _=>laidMetH Tryz.prog Rows.allRow.laid w) false (World.doorLaid Tryz.prog 24 os) #[.agg #[.int .i64 0,.int .i64 0],.string ⟨#[]⟩,.slice none 0 0] 8 rfl (World.shaped_of_RefB krQ krQ) krQ krQ krQ (QlN os _)) ?_
 intro W base args ds gs before hval0 hW hcnd hsized hL _;have hval:∀(j:Nat) t v,Tryz.f3.params[j]? =some t->args[j]? =some v->Value.okWide Tryz.prog W .any base t v:=hval0;have hS:(DataW.weightsEach Tryz.prog (Tryz.f3.params.toList++Rows.allSpec.plain.varTypes Tryz.prog) (ds++gs)).all (·<=reachBytes)=true:=hsized;have hW':=hW;obtain⟨p,q,hA0,hV,rfl,hfz,hnd⟩:=hW;have hA:DataW.TrodAll enc Tryz.prog W 0 (λ_=>true) true Tryz.f3.params.toList args.toList ds p:=hA0;rw[Tryz.params3]at hA hval hS;obtain⟨v0,vs0,d0,ds0,p0,q0,hargs,rfl,rfl,h0,r0⟩:=trodAll_cons hA;obtain⟨v1,vs1,d1,ds1,p1,q1,rfl,rfl,rfl,h1,r1⟩:=trodAll_cons r0;obtain⟨v2,vs2,d2,ds2,p2,q2,rfl,rfl,rfl,h2,r2⟩:=trodAll_cons r1;obtain⟨rfl,rfl,rfl⟩:=trodAll_nil r2
 obtain rfl:args=#[v0,v1,v2]:=by cases args;simp_all
 obtain⟨rfl,rfl⟩:=trodVars_none hV;obtain⟨cs,rfl,hcs⟩:=okWide_struct Tryz.underlying23 (hval 0 23 v0 rfl rfl);obtain⟨a2,len2,cap2,rfl⟩:=okWide_slice Tryz.underlying24 (hval 2 24 v2 rfl rfl);obtain⟨tl,rfl,rfl,rfl,w3⟩:=open_string Tryz.underlying9 (hval 1 9 v1 rfl rfl) h1;rw[Tryz.cellsCfg]at hcs
 obtain⟨c0,c1,rfl⟩:∃c0 c1,cs=#[c0,c1]:=by
  obtain⟨l⟩:=cs
  match l,hcs with
  | [a,b],_=>exact⟨a,b,rfl⟩
 have k0:=h0;have k2:=h2
 have lt0:∀x∈p0,x.block<W.heap.size:=by obtain⟨m,hm⟩:=k0;exact DataW.trod_lt m _ _ _ hm
 have lt2:∀x∈p2,x.block<W.heap.size:=by obtain⟨m,hm⟩:=k2;exact DataW.trod_lt m _ _ _ hm
 obtain⟨i,j,rfl,rfl⟩:∃i j:Int,c0=.int .i64 i/\c1=.int .i64 j:=by
  obtain⟨fuel,hf⟩:=h0;exact QiH (x:=(d0,p0)) (by simpa[Value.cells]using hf)
 obtain⟨ops,hl,hmx,hev,hob⟩:∃ops:List OpV,ops.length=len2/\len2<=1600000000000/\IsOps W a2 ops/\∀o∈ops,OpB o:=by
  obtain⟨fuel,hf⟩:=h2
  refine QhC (x:=(d2,p2)) (by simpa[Value.cells]using hf) λn hn=>?_
  have:=List.all_eq_true.1 hS n (DataW.weights_mem_each (j:=2) (t:=24) (d:=d2) rfl rfl n hn)
  simpa using this
 subst hl;clear hA0 hval0 hS hsized
 refine(Qnc i j tl a2 cap2 ops W hmx hev hob (QlO hL)).mono λe W' ⟨he,bel⟩=>?_
 subst he;exact⟨_,rfl,_,_,_,[],_,[],hW',trodAll_mk1 (shut_bool Tryz.underlying4 _),(trodAll_cons_mk (Below.trod Qd0 krQ (of_decide_eq_true krQ) k0 bel lt0) (trodAll_cons_mk (shut_string Tryz.underlying9 w3) (trodAll_cons_mk (Below.trod Qd0 krQ (of_decide_eq_true krQ) k2 bel lt2) trodAll_mk0))),rfl,bel.frame _,λh=>by cases h⟩
theorem Qnd:Rows.AllSaid:=
 OpenClaim.holds_of_wide 3 Tryz.f3 rfl rfl rfl rfl rfl rfl rfl ⟨rfl,rfl,rfl,rfl,rfl⟩ rfl rfl rfl rfl rfl krQ Tryz.func3 krQ
  (of_decide_eq_true krQ) (by unfold Func.isWrapper;first | (rw[if_pos (by decide+kernel)];kernel_rfl) | (rw[if_neg (by decide+kernel)];exact⟨rfl,rfl⟩))
  (λos started H enc _=>Qkc os started H enc)
theorem all_holds:Rows.AllCardSaid:=
 Claim7.holds_tied_plain_at .later [] [.data,.data,.data] true Rows.allCard.stood.harness false
  Qnd (λ_ h=>by cases h) krQ (λ_ h=>by cases h) all_row_tie rfl ⟨rfl,rfl⟩ krQ rfl
  (λf fn hf hfn=>by
   obtain rfl:f=3:=Option.some.inj ((show Tryz.prog.funcNamed Rows.allRow.func=some 3 by kernel_rfl).symm.trans hf) |>.symm
   obtain rfl:fn=Tryz.f3:=(Option.some.inj (Tryz.func3.symm.trans hfn)).symm
   exact⟨by kernel_rfl,λj t ht=>by
    rw[Tryz.params3]at ht
    have hm:t∈[23,9,24]:=by simpa using Array.mem_of_getElem? ht
    have hall:([23,9,24].all λu=>!Tryz.prog.wantsStandIn u)=true:=by kernel_rfl
    exact(show Tryz.prog.wantsStandIn t=false by simpa using List.all_eq_true.1 hall t hm)⟩)
  krQ
#print axioms all_holds
end
end Go.Proofs.YthccpacmklhejabGreatDoor
