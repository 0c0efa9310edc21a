import Derived.Test.YthccpacmklhejabGreatDoorTk
import Derived.Test.YthccpacmklhejabGreatDoorK15
set_option maxRecDepth 4000
namespace Go.Proofs.YthccpacmklhejabGreatDoor
section
theorem AOk.congrS{E:List Ev}{W k off base:Nat}{fl:Bool}{S S':List SorterM}{a:AdderM}(h:AOk E W k off base fl S a)(hS:∀(i:Nat) (s':SorterM),S'[i]? =some s'->∃s:SorterM,S[i]? =some s/\s.got=s'.got/\s.passed=s'.passed):AOk E W k off base fl S' a:=by
 obtain⟨R,hR,hL⟩:=h.links;refine⟨h.lenP,h.lenS,h.kept_le,h.kept_perm,h.still,λh1 h2=>?_,R,hR,λi hi s' st pipe h1 h2 h3=>?_⟩
 ·obtain⟨m1,m2,m3,m4⟩:=h.mark h1 h2;refine⟨m1,m2,m3,λs' hs'=>?_⟩;obtain⟨i,hi,rfl⟩:=List.getElem_of_mem hs';obtain⟨s,hs,_,hp⟩:=hS i _ (List.getElem?_eq_getElem hi);rw[<-hp];exact m4 s (List.mem_of_getElem? hs)
 ·obtain⟨s,hs,hg,hp⟩:=hS i s' h1;have:=hL i hi s st pipe hs h2 h3;rw[hg,hp]at this;exact this
theorem Qal{α:Type}{l:List α}{i:Nat}{x y:α}{m:Nat}(h:(l.set i x)[m]? =some y):(m=i/\y=x/\i<l.length)\/(m≠i/\l[m]? =some y):=by
 rw[List.getElem?_set]at h;split at h
 ·rename_i e
  split at h
  ·rename_i hl
   simp only[Option.some.injEq]at h;exact .inl ⟨e.symm,h.symm,hl⟩
  ·cases h
 ·rename_i e
  exact .inr ⟨λx=>e x.symm,h⟩
theorem Qdc{j:JobM}(h:FlowOk j):FlowOk j.source.2:=by
 unfold JobM.source
 by_cases hu:(j.under && !j.barriers)=true
 ·rw[if_pos hu];simp only[Bool.and_eq_true,Bool.not_eq_true']at hu
  have hfl:j.fl=false:=by unfold JobM.fl;simp[hu.2]
  obtain⟨f1,f2⟩:=h.fresh hu.1 hu.2;split
  ·exact h
  ·refine⟨h.hW,by simpa using h.lenS,h.lenA,h.sent,h.base,λ_=>⟨h.base,Nat.le_refl _⟩,λ_ h=>by simp at h,λh1 h2=>?_,λi s hs=>?_,λk a ha=>?_⟩
   ·have:=(h.comp h1 h2).1;rw[hu.2]at this;cases this
   ·simp only[List.getElem?_map,Option.map_eq_some_iff]at hs;obtain⟨s0,hs0,rfl⟩:=hs;have o:=h.sorters i s0 hs0;have hp:=f1 s0 (List.mem_of_getElem? hs0);rw[hfl]at o;obtain⟨o1,o2⟩:=o.free (by simp);refine⟨o.kept_le,o.kept_eq,λ_ _=>⟨s0.pipe,[],rfl,o1,by simp[idx],o2,by simpa[evsAt]using o2⟩,λhh=>?_,λ_ h2=>?_,λ_=>o.still (by simp)⟩
    ·have:=hh (by simp[JobM.fl,hu.1]);simp only at this;rw[hp]at this;cases this
    ·simp only at h2;rw[hp]at h2;cases h2
   ·have o:=h.adders k a ha;have hp:=f2 a (List.mem_of_getElem? ha);rw[hfl]at o;obtain⟨R,hR,hL⟩:=o.links;refine⟨o.lenP,o.lenS,o.kept_le,o.kept_perm,λ_=>o.still (by simp),λ_ h2=>(by rw[hp]at h2;cases h2),R,hR,λi hi s st pipe h1 h2 h3=>?_⟩;simp only[List.getElem?_map,Option.map_eq_some_iff]at h1;obtain⟨s0,hs0,rfl⟩:=h1;have l:=hL i hi s0 st pipe hs0 h2 h3;have hps:=f1 s0 (List.mem_of_getElem? hs0);exact⟨λ_ h2=>(by simp only at h2;rw[hps]at h2;cases h2),λ_=>l.free (by simp),λh=>by have:=(l.stop h).1;cases this⟩
 ·rw[if_neg hu];split
  ·exact h
  ·rename_i e he
   split
   ·exact h
   ·rename_i s hs
    split
    ·exact h
    ·obtain⟨hlt,heq⟩:=List.getElem?_eq_some_iff.1 he;have hsucc:=QbT (W:=j.width) hlt;rw[heq]at hsucc
     have hmem:∀ {P:SorterM->Prop},(∀x∈j.sorters,P x)->P {s with pipe:=s.pipe++[(j.sent:Int)]}->∀x∈j.sorters.set (hashS e.key % j.width) {s with pipe:=s.pipe++[(j.sent:Int)]},P x:=λh1 h2 x hx=>by
      rcases List.mem_or_eq_of_mem_set hx with hx | hx
      ·exact h1 x hx
      ·rw[hx];exact h2
     refine⟨h.hW,by simpa using h.lenS,h.lenA,hlt,Nat.le_succ_of_le h.base,λhf=>⟨(h.off hf).1,Nat.le_succ_of_le (h.off hf).2⟩,λh1 h2=>⟨hmem (h.fresh h1 h2).1 ((h.fresh h1 h2).1 s (List.mem_of_getElem? hs)),(h.fresh h1 h2).2⟩,λh1 h2=>⟨(h.comp h1 h2).1,hmem (h.comp h1 h2).2.1 ((h.comp h1 h2).2.1 s (List.mem_of_getElem? hs)),(h.comp h1 h2).2.2⟩,λi s' hs'=>?_,λk a ha=>?_⟩
     ·rcases Qal hs' with⟨rfl,rfl,_⟩ | ⟨hne,hs'⟩
      ·have o:=h.sorters _ s hs
       have hev:evsAt j.events [(j.sent:Int)]=[e]:=by
        unfold evsAt;simp only[List.flatMap_cons,List.flatMap_nil,Int.toNat_natCast,he,Option.toList_some,List.append_nil]
       have hix:idx j.events [(j.sent:Int)]:=λx hx=>by
        simp only[List.mem_cons,List.not_mem_nil,or_false]at hx;subst hx
        simpa using hlt
       have hs1:=hsucc (hashS e.key % j.width);rw[if_pos rfl]at hs1;refine⟨o.kept_le,o.kept_eq,λhf hp=>?_,λhh=>?_,o.mark,o.still⟩
       ·obtain⟨p1,p2,e1,e2,e3,e4,e5⟩:=o.wait hf hp;refine⟨p1,p2++[(j.sent:Int)],by simp only[e1,List.append_assoc,List.cons_append],e2,idx_append.2 ⟨e3,hix⟩,e4,?_⟩;rw[Qd6,hev,<-List.append_assoc];simp only;rw[e5,hs1]
       ·obtain⟨o1,o2⟩:=o.free hh;refine⟨idx_append.2 ⟨o1,hix⟩,?_⟩;simp only;rw[Qd6,hev,<-List.append_assoc,o2,hs1]
      ·have o:=h.sorters i s' hs';have hs1:=hsucc i;rw[if_neg (λx=>hne x.symm),List.append_nil]at hs1
       exact⟨o.kept_le,o.kept_eq,λhf hp=>by
        obtain⟨p1,p2,e1,e2,e3,e4,e5⟩:=o.wait hf hp
        exact⟨p1,p2,e1,e2,e3,e4,by simp only;rw[hs1];exact e5⟩,λhh=>⟨(o.free hh).1,by simp only;rw[hs1];exact(o.free hh).2⟩,o.mark,o.still⟩
     ·refine(h.adders k a ha).congrS λi s' hs'=>?_
      rcases Qal hs' with⟨rfl,rfl,_⟩ | ⟨_,hs'⟩
      ·exact⟨s,hs,rfl,rfl⟩
      ·exact⟨s',hs',rfl,rfl⟩
theorem Qbd{α:Type}{l:List α}{f:α->α}{i m:Nat}{y:α}(h:(l.modify i f)[m]? =some y):(m=i/\∃x,l[i]? =some x/\y=f x)\/(m≠i/\l[m]? =some y):=by
 rw[List.getElem?_modify]at h
 by_cases e:i=m
 ·subst e;simp only[if_true]at h
  cases hl:l[i]? with
  | none=>rw[hl]at h;simp at h
  | some x=>rw[hl]at h;simp at h;exact .inl ⟨rfl,x,rfl,h.symm⟩
 ·simp only[if_neg e]at h;refine .inr ⟨λx=>e x.symm,?_⟩
  cases hl:l[m]? with
  | none=>rw[hl]at h;simp at h
  | some x=>rw[hl]at h;simp at h;rw[h]
theorem SOk.bar{E:List Ev}{W i sent off base:Nat}{fl:Bool}{s:SorterM}(h:SOk E W i sent off base fl s){x:Int}{rest:List Int}(hp:s.pipe=x :: rest)(hx:x<0):fl=true/\s.passed=false/\s.got=evs W E off i/\idx E rest/\s.got++evsAt E rest=evs W E sent i:=by
 have hno:¬(fl=true->s.passed=true):=λhh=>by
  have:=(h.free hh).1 x (by rw[hp];simp);omega
 have hfl:fl=true:=Classical.byContradiction λc=>hno λx=>absurd x c
 have hpa:s.passed=false:=by
  cases hc:s.passed with
  | false=>rfl
  | true=>exact absurd (λ_=>hc) hno
 obtain⟨p1,p2,e1,e2,e3,e4,e5⟩:=h.wait hfl hpa;rw[hp]at e1
 cases p1 with
 | nil=>
  simp only[List.nil_append,List.cons.injEq]at e1;simp[evsAt]at e4 e5;rw[e1.2]
  exact⟨hfl,hpa,e4,e3,by simpa[evsAt]using e5⟩
 | cons y ys=>
  simp only[List.cons_append,List.cons.injEq]at e1;have:=e2 y (by simp);omega
theorem SOk.ev{E:List Ev}{W i sent off base:Nat}{fl:Bool}{s:SorterM}(h:SOk E W i sent off base fl s){x:Int}{rest:List Int}(hp:s.pipe=x :: rest)(hx:¬x<0){e:Ev}(he:E[x.toNat]? =some e):SOk E W i sent off base fl {s with got:=s.got++[e],pipe:=rest}:=by
 have hev:∀l,evsAt E (x :: l)=e :: evsAt E l:=λl=>by
  unfold evsAt;simp[he]
 refine⟨by simp only[List.length_append];have:=h.kept_le;omega,?_,λhf hpa=>?_,λhh=>?_,λhf hpa=>?_,h.still⟩
 ·simp only;rw[List.take_append_of_le_length h.kept_le];exact h.kept_eq
 ·obtain⟨p1,p2,e1,e2,e3,e4,e5⟩:=h.wait hf hpa;rw[hp]at e1
  cases p1 with
  | nil=>
   simp only[List.nil_append,List.cons.injEq]at e1
   omega
  | cons y ys=>
   simp only[List.cons_append,List.cons.injEq]at e1;obtain⟨rfl,rfl⟩:=e1;rw[hev]at e4 e5;exact⟨ys,p2,rfl,λz hz=>e2 z (by simp[hz]),e3,by simpa using e4,by simpa using e5⟩
 ·obtain⟨o1,o2⟩:=h.free hh;rw[hp]at o1 o2;rw[hev]at o2;exact⟨λz hz=>o1 z (by simp[hz]),by simpa using o2⟩
 ·obtain⟨m1,m2,m3⟩:=h.mark hf hpa;refine⟨m1,by simp only[List.length_append];omega,?_⟩;simp only;rw[List.take_append_of_le_length m2];exact m3
theorem Qdr(W k:Nat)(c:ChgM):toA W k [c]=if c.pt.toNat % W=k then[c]else[]:=by
 unfold toA
 by_cases h:c.pt.toNat % W=k
 ·simp[h]
 ·simp[h]
theorem LOk.push{fl sp ap st:Bool}{offO gotO pipe R:List ChgM}(h:LOk fl sp ap st offO gotO pipe R){c:ChgM}(hc:0<=c.pt):LOk fl sp ap st offO (gotO++[c]) (pipe++[c]) R:=by
 have hcl:clean [c]:=λx hx=>by
  simp only[List.mem_cons,List.not_mem_nil,or_false]at hx;rw[hx];exact hc
 refine⟨λa b c' d=>?_,λhh=>?_,h.stop⟩
 ·obtain⟨q1,q2,e1,e2,e3,e4,e5⟩:=h.mid a b c' d;exact⟨q1,q2++[c],by rw[e1];simp,e2,clean_append.2 ⟨e3,hcl⟩,e4,by rw[<-e5];simp⟩
 ·obtain⟨o1,o2⟩:=h.free hh;exact⟨clean_append.2 ⟨o1,hcl⟩,by rw[<-o2];simp⟩
theorem QcD{j:JobM}(h:FlowOk j)(i:Nat):FlowOk (j.sorts i).2:=by
 unfold JobM.sorts;split
 ·exact h
 ·rename_i s hs
  have o:=h.sorters i s hs;split
  ·exact h
  ·rename_i x rest hp
   split
   ·rename_i hx
    split
    ·exact h
    ·obtain⟨hfl,hpa,hgot,hix,hrest⟩:=o.bar hp hx
     have hu:j.under=true/\j.barriers=true:=by simpa[JobM.fl]using hfl
     have hsm:=List.mem_of_getElem? hs
     have hap:∀a∈j.adders,a.passed=false:=λa ha=>by
      obtain⟨k,hk,rfl⟩:=List.getElem_of_mem ha
      cases hc:(j.adders[k]).passed with
      | false=>rfl
      | true=>
       have:=((h.adders k _ (List.getElem?_eq_getElem hk)).mark hfl hc).2.2.2 s hsm;rw[hpa]at this;cases this
     refine⟨h.hW,by simpa using h.lenS,by simpa using h.lenA,h.sent,h.base,h.off,λ_ h2=>?_,λh1 h2=>?_,λi' s' hs'=>?_,λk a ha=>?_⟩
     ·simp only at h2;rw[hu.2]at h2;cases h2
     ·have:=(h.comp h1 h2).2.1 s hsm;rw[hpa]at this;cases this
     ·rcases Qal hs' with⟨rfl,rfl,_⟩ | ⟨_,hs'⟩
      ·refine⟨o.kept_le,o.kept_eq,λ_ h2=>(by cases h2),λ_=>⟨hix,hrest⟩,λ_ _=>⟨o.kept_le,Nat.le_refl _,?_⟩,λhh=>by have:=hh hfl;cases this⟩;simp only;rw[List.take_length];exact hgot
      ·exact h.sorters i' s' hs'
     ·simp only[List.getElem?_map,Option.map_eq_some_iff]at ha;obtain⟨a0,ha0,rfl⟩:=ha;have oa:=h.adders k a0 ha0;have hpa0:=hap a0 (List.mem_of_getElem? ha0);obtain⟨R,hR,hL⟩:=oa.links;refine⟨by simpa[AdderM.push]using oa.lenP,oa.lenS,oa.kept_le,oa.kept_perm,oa.still,λ_ h2=>?_,R,hR,λi' hi' s' st pipe h1 h2 h3=>?_⟩
      ·have h2':a0.passed=true:=h2;rw[hpa0]at h2';cases h2'
      ·have h3':(a0.pipes.modify i (·++[barM]))[i']? =some pipe:=h3
       have hcase:i'≠i->LOk j.fl s'.passed a0.passed st (toA j.width k (outs (evs j.width j.events j.off i'))) (toA j.width k (outs s'.got)) pipe (R i'):=λhne=>by
        rcases Qbd h3' with⟨e,_⟩ | ⟨_,hp3⟩
        ·exact absurd e hne
        ·rcases Qal h1 with⟨e,_⟩ | ⟨_,hs1⟩
         ·exact absurd e hne
         ·exact hL i' hi' s' st pipe hs1 h2 hp3
       by_cases hii:i'=i
       ·subst hii
        rcases Qbd h3' with⟨_,p0,hp0,rfl⟩ | ⟨hne,_⟩
        ·rcases Qal h1 with⟨_,rfl,_⟩ | ⟨hne,_⟩
         ·have l:=hL i' hi' s st p0 hs h2 hp0
          have hst:st=false:=by
           cases hc:st with
           | false=>rfl
           | true=>
            have:=(l.stop hc).2.1;rw[hpa]at this;cases this
          obtain⟨l1,l2⟩:=l.free (λhh=>by rw[hpa]at hh;exact absurd hh.2.1 (by simp));refine⟨λ_ _ _ _=>⟨p0,[],rfl,l1,by simp[clean],?_,by simpa using l2⟩,λhh=>absurd ⟨hfl,rfl,hpa0,hst⟩ hh,λhh=>by rw[hst]at hh;cases hh⟩;rw[l2,hgot]
         ·exact absurd rfl hne
        ·exact absurd rfl hne
       ·exact hcase hii
   ·rename_i hx
    split
    ·exact h
    ·rename_i e he
     have hso:SOk j.events j.width i j.sent j.off j.base j.fl {s with got:=s.got++[e],pipe:=rest}:=o.ev hp hx he
     have hmem:∀ {P:SorterM->Prop},(∀x∈j.sorters,P x)->P {s with got:=s.got++[e],pipe:=rest}->∀x∈j.sorters.set i {s with got:=s.got++[e],pipe:=rest},P x:=λh1 h2 x hx=>by
      rcases List.mem_or_eq_of_mem_set hx with hx | hx
      ·exact h1 x hx
      ·rw[hx];exact h2
     have hsm:=List.mem_of_getElem? hs
     have hadd:∀(a a':AdderM) (k:Nat),j.adders[k]? =some a->a'.got=a.got->a'.stopped=a.stopped->a'.marked=a.marked->a'.kept=a.kept->a'.passed=a.passed->a'.pipes.length=a.pipes.length->
       (∀i' pipe',a'.pipes[i']? =some pipe'->∃pipe,a.pipes[i']? =some pipe/\((i'≠i/\pipe'=pipe)\/(i'=i/\pipe'=pipe++toA j.width k (out1 s.got e))))->AOk j.events j.width k j.off j.base j.fl (j.sorters.set i {s with got:=s.got++[e],pipe:=rest}) a':=λa a' k ha e1 e2 e3 e4 e5 e6 e7=>by
      have oa:=h.adders k a ha;obtain⟨R,hR,hL⟩:=oa.links;refine⟨e6.trans oa.lenP,by rw[e2];exact oa.lenS,by rw[e4,e1];exact oa.kept_le,by rw[e1,e4];exact oa.kept_perm,by rw[e5,e3,e4];exact oa.still,λh1 h2=>?_,R,by rw[e1];exact hR,λi' hi' s' st pipe h1 h2 h3=>?_⟩
      ·rw[e5]at h2;obtain⟨m1,m2,m3,m4⟩:=oa.mark h1 h2;rw[e3,e4,e1];exact⟨m1,m2,m3,hmem m4 (m4 s hsm)⟩
      ·rw[e2]at h2;rw[e5];obtain⟨p0,hp0,hc⟩:=e7 i' pipe h3
       rcases Qal h1 with⟨rfl,rfl,_⟩ | ⟨hne,hs1⟩
       ·rcases hc with⟨hne,_⟩ | ⟨_,rfl⟩
        ·exact absurd rfl hne
        ·have l:=hL i' hi' s st p0 hs h2 hp0
         have hg:toA j.width k (outs (s.got++[e]))=toA j.width k (outs s.got)++toA j.width k (out1 s.got e):=by rw[Qd4,Qfj]
         simp only;rw[hg];unfold out1
         by_cases c:(knOf e.key s.got).counts e=true
         ·rw[if_pos c,Qdr];split
          ·exact l.push (Int.natCast_nonneg _)
          ·rw[List.append_nil,List.append_nil];exact l
         ·rw[if_neg c];simp only[toA,List.filter_nil,List.append_nil];exact l
       ·rcases hc with⟨_,rfl⟩ | ⟨e,_⟩
        ·exact hL i' hi' s' st pipe hs1 h2 hp0
        ·exact absurd e hne
     split
     ·rename_i hcn
      split
      ·exact h
      ·rename_i a ha
       split
       ·exact h
       ·have ho1:out1 s.got e=[chgOf (knOf e.key s.got) e]:=by unfold out1;rw[if_pos hcn]
        have hpt:(chgOf (knOf e.key s.got) e).pt.toNat=(grp e.key).1:=Int.toNat_natCast _
        have hmemA:∀ {P:AdderM->Prop} (a':AdderM),(∀x∈j.adders,P x)->P a'->∀x∈j.adders.set ((grp e.key).1 % j.width) a',P x:=λa' h1 h2 x hx=>by
         rcases List.mem_or_eq_of_mem_set hx with hx | hx
         ·exact h1 x hx
         ·rw[hx];exact h2
        have ham:=List.mem_of_getElem? ha;refine⟨h.hW,by simpa using h.lenS,by simpa using h.lenA,h.sent,h.base,h.off,λh1 h2=>⟨hmem (h.fresh h1 h2).1 ((h.fresh h1 h2).1 s hsm),hmemA _ (h.fresh h1 h2).2 ((h.fresh h1 h2).2 a ham)⟩,λh1 h2=>⟨(h.comp h1 h2).1,hmem (h.comp h1 h2).2.1 ((h.comp h1 h2).2.1 s hsm),hmemA _ (h.comp h1 h2).2.2 ((h.comp h1 h2).2.2 a ham)⟩,λi' s' hs'=>?_,λk a' ha'=>?_⟩
        ·rcases Qal hs' with⟨rfl,rfl,_⟩ | ⟨_,hs'⟩
         ·exact hso
         ·exact h.sorters i' s' hs'
        ·rcases Qal ha' with⟨rfl,rfl,_⟩ | ⟨hne,ha'⟩
         ·refine hadd a _ _ ha rfl rfl rfl rfl rfl (by simp[AdderM.push]) λi' pipe' hp'=>?_
          rcases Qbd (show(a.pipes.modify i (·++[chgOf (knOf e.key s.got) e]))[i']? =some pipe' from hp')with⟨rfl,p0,hp0,rfl⟩ | ⟨hne,hp0⟩
          ·exact⟨p0,hp0,.inr ⟨rfl,by rw[ho1,Qdr,hpt,if_pos rfl]⟩⟩
          ·exact⟨pipe',hp0,.inl ⟨hne,rfl⟩⟩
         ·refine hadd a' a' k ha' rfl rfl rfl rfl rfl rfl λi' pipe' hp'=>⟨pipe',hp',?_⟩
          by_cases hii:i'=i
          ·exact .inr ⟨hii,by rw[ho1,Qdr,hpt,if_neg (λx=>hne x.symm),List.append_nil]⟩
          ·exact .inl ⟨hii,rfl⟩
     ·rename_i hcn
      have ho1:out1 s.got e=[]:=by unfold out1;rw[if_neg hcn]
      refine⟨h.hW,by simpa using h.lenS,h.lenA,h.sent,h.base,h.off,λh1 h2=>⟨hmem (h.fresh h1 h2).1 ((h.fresh h1 h2).1 s hsm),(h.fresh h1 h2).2⟩,λh1 h2=>⟨(h.comp h1 h2).1,hmem (h.comp h1 h2).2.1 ((h.comp h1 h2).2.1 s hsm),(h.comp h1 h2).2.2⟩,λi' s' hs'=>?_,λk a' ha'=>?_⟩
      ·rcases Qal hs' with⟨rfl,rfl,_⟩ | ⟨_,hs'⟩
       ·exact hso
       ·exact h.sorters i' s' hs'
      ·refine hadd a' a' k ha' rfl rfl rfl rfl rfl rfl λi' pipe' hp'=>⟨pipe',hp',?_⟩
       by_cases hii:i'=i
       ·exact .inr ⟨hii,by rw[ho1];simp[toA]⟩
       ·exact .inl ⟨hii,rfl⟩
def updR(R:Nat->List ChgM)(f:Nat)(l:List ChgM):Nat->List ChgM:=λi=>if i=f then l else R i
theorem Qg4{R:Nat->List ChgM}{f:Nat}{c:ChgM}:∀n,((List.range n).flatMap (updR R f (R f++[c]))).Perm (if f<n then(List.range n).flatMap R++[c]else(List.range n).flatMap R)
 | 0=>by simp
 | n+1=>by
  have ih:=Qg4 (R:=R) (f:=f) (c:=c) n;rw[List.range_succ,List.flatMap_append,List.flatMap_append];simp only[List.flatMap_cons,List.flatMap_nil,List.append_nil]
  by_cases h1:f<n
  ·rw[if_pos h1]at ih;rw[if_pos omQ]
   have:updR R f (R f++[c]) n=R n:=by unfold updR;rw[if_neg omQ]
   rw[this];refine(ih.append_right (R n)).trans ?_;rw[List.append_assoc,List.append_assoc];exact(List.perm_append_comm).append_left _
  ·rw[if_neg h1]at ih
   by_cases h2:f=n
   ·subst h2;rw[if_pos omQ]
    have:updR R f (R f++[c]) f=R f++[c]:=by unfold updR;rw[if_pos rfl]
    rw[this,<-List.append_assoc];exact(ih.append_right (R f)).append_right [c]
   ·rw[if_neg omQ]
    have:updR R f (R f++[c]) n=R n:=by unfold updR;rw[if_neg (λx=>h2 x.symm)]
    rw[this];exact ih.append_right (R n)
theorem Qfl{R R':Nat->List ChgM}:∀n,(∀i,i<n->R i=R' i)->(List.range n).flatMap R=(List.range n).flatMap R'
 | 0,_=>rfl
 | n+1,h=>by
  rw[List.range_succ,List.flatMap_append,List.flatMap_append,Qfl n λi hi=>h i omQ];simp[h n omQ]
theorem QfI{a:AdderM}{c:ChgM}{rest:List ChgM}(hl:a.stopped.length=a.pipes.length)(h:a.pipes[a.firstOpen]? =some (c :: rest)):a.stopped[a.firstOpen]? =some false:=by
 obtain⟨hlt,heq⟩:=List.getElem?_eq_some_iff.1 h
 have hz:a.firstOpen<(a.stopped.zip a.pipes).length:=by rw[List.length_zip];omega
 have:=List.findIdx_getElem (p:=λx:Bool × List ChgM=>!x.1 && !x.2.isEmpty) (w:=hz);unfold AdderM.firstOpen at hlt heq hz ⊢;rw[List.getElem_zip]at this;simp only[Bool.and_eq_true,Bool.not_eq_true']at this;rw[List.getElem?_eq_getElem omQ,this.1]
theorem LOk.bar{fl sp ap:Bool}{offO gotO rest R:List ChgM}{c:ChgM}(h:LOk fl sp ap false offO gotO (c :: rest) R)(hc:¬0<=c.pt):fl=true/\sp=true/\ap=false/\R=offO/\clean rest/\R++rest=gotO:=by
 have hno:fl=true/\sp=true/\ap=false:=by
  apply Classical.byContradiction;intro hh;exact hc ((h.free λx=>hh ⟨x.1,x.2.1,x.2.2.1⟩).1 c (by simp))
 obtain⟨q1,q2,e1,e2,e3,e4,e5⟩:=h.mid hno.1 hno.2.1 hno.2.2 rfl
 cases q1 with
 | nil=>
  simp only[List.nil_append,List.cons.injEq]at e1;rw[e1.2];simp only[List.append_nil]at e4 e5
  exact⟨hno.1,hno.2.1,hno.2.2,e4,e3,e5⟩
 | cons y ys=>
  simp only[List.cons_append,List.cons.injEq]at e1;exact absurd (e1.1 ▸ e2 y (by simp)) hc
theorem LOk.take{fl sp ap:Bool}{offO gotO rest R:List ChgM}{c:ChgM}(h:LOk fl sp ap false offO gotO (c :: rest) R)(hc:0<=c.pt):LOk fl sp ap false offO gotO rest (R++[c]):=by
 refine⟨λa b d e=>?_,λhh=>?_,λhh=>by cases hh⟩
 ·obtain⟨q1,q2,e1,e2,e3,e4,e5⟩:=h.mid a b d e
  cases q1 with
  | nil=>
   simp only[List.nil_append,List.cons.injEq]at e1
   have:c.pt=-1:=by rw[e1.1];rfl
   omega
  | cons y ys=>
   simp only[List.cons_append,List.cons.injEq]at e1;obtain⟨rfl,rfl⟩:=e1;exact⟨ys,q2,rfl,λz hz=>e2 z (by simp[hz]),e3,by simpa using e4,by simpa using e5⟩
 ·obtain⟨o1,o2⟩:=h.free hh;exact⟨λz hz=>o1 z (by simp[hz]),by simpa using o2⟩
theorem AOk.take{E:List Ev}{W k off base:Nat}{fl:Bool}{S:List SorterM}{a a':AdderM}(h:AOk E W k off base fl S a)(hS:S.length=W)(ht:a.take W=some a'):AOk E W k off base fl S a'/\(a.passed=true->a'.passed=true)/\(a'.passed=true->a.passed=true\/fl=true):=by
 unfold AdderM.take at ht;split at ht
 ·rename_i c rest hp
  have hlt:a.firstOpen<W:=by have:=(List.getElem?_eq_some_iff.1 hp).1;rw[h.lenP]at this;exact this
  have hst:=QfI (h.lenS.trans h.lenP.symm) hp;obtain⟨R,hR,hL⟩:=h.links;generalize a.firstOpen=f at *
  obtain⟨s,hs⟩:∃s,S[f]? =some s:=⟨_,List.getElem?_eq_getElem omQ⟩
  have l:=hL f hlt s false (c :: rest) hs hst hp;split at ht
  ·rename_i hc
   simp only[Option.some.injEq]at ht;subst ht;refine⟨⟨by simpa using h.lenP,h.lenS,by simp only[List.length_append];have:=h.kept_le;omega,?_,h.still,λh1 h2=>?_,updR R f (R f++[c]),?_,λi hi s' st pipe h1 h2 h3=>?_⟩,λh=>h,λh=>.inl h⟩
   ·simp only;rw[List.take_append_of_le_length h.kept_le];exact h.kept_perm
   ·obtain⟨m1,m2,m3,m4⟩:=h.mark h1 h2;refine⟨m1,by simp only[List.length_append];omega,?_,m4⟩;simp only;rw[List.take_append_of_le_length m2];exact m3
   ·have:=Qg4 (R:=R) (f:=f) (c:=c) W;rw[if_pos hlt]at this;exact(hR.append_right [c]).trans this.symm
   ·rcases Qal h3 with⟨rfl,rfl,_⟩ | ⟨hne,h3⟩
    ·rw[h1]at hs;simp only[Option.some.injEq]at hs;subst hs;simp only at h2;rw[hst]at h2;simp only[Option.some.injEq]at h2;subst h2;unfold updR;rw[if_pos rfl];exact l.take hc
    ·unfold updR;rw[if_neg hne];exact hL i hi s' st pipe h1 h2 h3
  ·rename_i hc
   obtain⟨b1,b2,b3,b4,b5,b6⟩:=l.bar hc;split at ht
   ·rename_i hall
    simp only[Option.some.injEq]at ht;subst ht
    have hstop:∀i,i<W->i≠f->a.stopped[i]? =some true:=λi hi hne=>by
     rw[List.all_eq_true]at hall
     have hl:i<(a.stopped.set f true).length:=by rw[List.length_set,h.lenS];exact hi
     have:=hall _ (List.getElem_mem hl);simp only[id]at this;rw[List.getElem_set_ne (λx=>hne x.symm)]at this;rw[List.getElem?_eq_getElem (by rw[h.lenS];exact hi),this]
    have hRi:∀i,i<W->R i=toA W k (outs (evs W E off i))/\∀s',S[i]? =some s'->s'.passed=true:=λi hi=>by
     by_cases hif:i=f
     ·subst hif;exact⟨b4,λs' hs'=>by rw[hs]at hs';simp only[Option.some.injEq]at hs';rw[<-hs'];exact b2⟩
     ·obtain⟨s',hs'⟩:∃s',S[i]? =some s':=⟨_,List.getElem?_eq_getElem omQ⟩
      obtain⟨pp,hpp⟩:∃pp,a.pipes[i]? =some pp:=⟨_,List.getElem?_eq_getElem (by rw[h.lenP];exact hi)⟩
      have l':=(hL i hi s' true pp hs' (hstop i hi hif) hpp).stop rfl;exact⟨l'.2.2.2,λs'' hs''=>by rw[hs']at hs'';simp only[Option.some.injEq]at hs'';rw[<-hs''];exact l'.2.1⟩
    have hperm:a.got.Perm (allTo W k off E):=by
     unfold allTo;rw[<-Qfl W λi hi=>(hRi i hi).1];exact hR
    refine⟨⟨by simpa using h.lenP,by simp,h.kept_le,h.kept_perm,λhh=>?_,λ_ _=>⟨h.kept_le,Nat.le_refl _,?_,λs' hs'=>?_⟩,R,hR,λi hi s' st pipe h1 h2 h3=>?_⟩,λ_=>rfl,λ_=>.inr b1⟩
    ·have:=hh b1;cases this
    ·simp only;rw[List.take_length];exact hperm
    ·obtain⟨i,hi,rfl⟩:=List.getElem_of_mem hs';exact(hRi i omQ).2 _ (List.getElem?_eq_getElem hi)
    ·simp only[List.getElem?_replicate,if_pos hi,Option.some.injEq]at h2;subst h2;refine⟨λ_ _ h3=>(by cases h3),λ_=>?_,λhh=>by cases hh⟩
     rcases Qal h3 with⟨rfl,rfl,_⟩ | ⟨hne,h3⟩
     ·rw[h1]at hs;simp only[Option.some.injEq]at hs;subst hs;exact⟨b5,b6⟩
     ·exact(hL i hi s' true pipe h1 (hstop i hi hne) h3).free λx=>by have:=x.2.2.2;cases this
   ·simp only[Option.some.injEq]at ht;subst ht;refine⟨⟨by simpa using h.lenP,by simpa using h.lenS,h.kept_le,h.kept_perm,h.still,h.mark,R,hR,λi hi s' st pipe h1 h2 h3=>?_⟩,λh=>h,λh=>.inl h⟩
    rcases Qal h3 with⟨rfl,rfl,_⟩ | ⟨hne,h3⟩
    ·rw[h1]at hs;simp only[Option.some.injEq]at hs;subst hs
     rcases Qal h2 with⟨_,rfl,_⟩ | ⟨hne,_⟩
     ·exact⟨λ_ _ _ h=>(by cases h),λ_=>⟨b5,b6⟩,λ_=>⟨b1,b2,b3,b4⟩⟩
     ·exact absurd rfl hne
    ·rcases Qal h2 with⟨e,_⟩ | ⟨_,h2⟩
     ·exact absurd e hne
     ·exact hL i hi s' st pipe h1 h2 h3
 ·cases ht
theorem QcU{j:JobM}(h:FlowOk j)(k:Nat):FlowOk (j.adds k).2:=by
 unfold JobM.adds;split
 ·exact h
 ·rename_i a ha
  split
  ·exact h
  ·rename_i a' ht
   obtain⟨oa,hp1,hp2⟩:=(h.adders k a ha).take h.lenS ht
   have hmem:∀ {P:AdderM->Prop},(∀x∈j.adders,P x)->P a'->∀x∈j.adders.set k a',P x:=λh1 h2 x hx=>by
    rcases List.mem_or_eq_of_mem_set hx with hx | hx
    ·exact h1 x hx
    ·rw[hx];exact h2
   have ham:=List.mem_of_getElem? ha;refine⟨h.hW,h.lenS,by simpa using h.lenA,h.sent,h.base,h.off,λh1 h2=>⟨(h.fresh h1 h2).1,hmem (h.fresh h1 h2).2 ?_⟩,λh1 h2=>⟨(h.comp h1 h2).1,(h.comp h1 h2).2.1,hmem (h.comp h1 h2).2.2 (hp1 ((h.comp h1 h2).2.2 a ham))⟩,h.sorters,λk' a'' ha''=>?_⟩
   ·cases hc:a'.passed with
    | false=>rfl
    | true=>
     rcases hp2 hc with x | x
     ·rw[(h.fresh h1 h2).2 a ham]at x;cases x
     ·simp only at h2;rw[JobM.fl,h2]at x;simp at x
   ·rcases Qal ha'' with⟨rfl,rfl,_⟩ | ⟨_,ha''⟩
    ·exact oa
    ·exact h.adders k' a'' ha''
theorem Qci{j:JobM}(h:FlowOk j)(hu:j.under=true)(hc:j.complete=true):FlowOk j.commit:=by
 obtain⟨c1,c2,c3⟩:=h.comp hu hc
 have hfl:j.fl=true:=by unfold JobM.fl;rw[hu,c1];rfl
 unfold JobM.commit;refine⟨h.hW,by simpa using h.lenS,by simpa using h.lenA,h.sent,(h.off hfl).2,λh=>(by simp[JobM.fl]at h),λh=>(by cases h),λh=>(by cases h),λi s hs=>?_,λk a ha=>?_⟩
 ·simp only[List.getElem?_map,Option.map_eq_some_iff]at hs;obtain⟨s0,hs0,rfl⟩:=hs;have o:=h.sorters i s0 hs0;have hp:=c2 s0 (List.mem_of_getElem? hs0);obtain⟨m1,m2,m3⟩:=o.mark hfl hp;exact⟨m2,m3,λh=>by simp[JobM.fl]at h,λ_=>o.free λ_=>hp,λh=>by simp[JobM.fl]at h,λ_=>rfl⟩
 ·simp only[List.getElem?_map,Option.map_eq_some_iff]at ha;obtain⟨a0,ha0,rfl⟩:=ha;have o:=h.adders k a0 ha0;have hp:=c3 a0 (List.mem_of_getElem? ha0);obtain⟨m1,m2,m3,m4⟩:=o.mark hfl hp;obtain⟨R,hR,hL⟩:=o.links;refine⟨o.lenP,o.lenS,m2,m3,λ_=>rfl,λh=>by simp[JobM.fl]at h,R,hR,λi hi s st pipe h1 h2 h3=>?_⟩;simp only[List.getElem?_map,Option.map_eq_some_iff]at h1;obtain⟨s0,hs0,rfl⟩:=h1;have l:=hL i hi s0 st pipe hs0 h2 h3;exact⟨λh=>by simp[JobM.fl]at h,λ_=>l.free λx=>by rw[hp]at x;simp at x,λh=>by have:=(l.stop h).2.2.1;rw[hp]at this;cases this⟩
theorem Qfm{j:JobM}(h:FlowOk j):FlowOk j.keeps.2:=by
 unfold JobM.keeps
 by_cases h1:(j.under && j.complete)=true
 ·rw[if_pos h1];simp only[Bool.and_eq_true]at h1;exact Qci h h1.1 h1.2
 ·rw[if_neg h1]
  by_cases h2:j.passedAll=true
  ·rw[if_pos h2];simp only[JobM.passedAll,Bool.and_eq_true,List.all_eq_true]at h2;exact⟨h.hW,h.lenS,h.lenA,h.sent,h.base,h.off,h.fresh,λ_ _=>⟨h2.1.1.2,h2.1.2,h2.2⟩,h.sorters,h.adders⟩
  ·rw[if_neg h2];exact h
theorem Qdd{j:JobM}(h:FlowOk j):FlowOk j.forget:=by
 unfold JobM.forget;refine⟨h.hW,by simpa using h.lenS,by simpa using h.lenA,Nat.le_trans h.base h.sent,Nat.le_refl _,λh=>(by simp[JobM.fl]at h),λh=>(by cases h),λh=>(by cases h),λi s hs=>?_,λk a ha=>?_⟩
 ·simp only[List.getElem?_map,Option.map_eq_some_iff]at hs;obtain⟨s0,hs0,rfl⟩:=hs;have o:=h.sorters i s0 hs0;have hk:=o.kept_le;refine⟨by simp only[List.length_take];omega,by simp only[List.take_take,Nat.min_self];exact o.kept_eq,λh=>by simp[JobM.fl]at h,λ_=>⟨by simp[idx],by simp only[evsAt,List.flatMap_nil,List.append_nil];exact o.kept_eq⟩,λh=>by simp[JobM.fl]at h,λ_=>rfl⟩
 ·simp only[List.getElem?_map,Option.map_eq_some_iff]at ha;obtain⟨a0,ha0,rfl⟩:=ha;have o:=h.adders k a0 ha0;have hk:=o.kept_le;refine⟨by simp,by simp,by simp only[List.length_take];omega,by simp only[List.take_take,Nat.min_self];exact o.kept_perm,λ_=>rfl,λh=>by simp[JobM.fl]at h,λi=>toA j.width k (outs (evs j.width j.events j.base i)),o.kept_perm,λi hi s st pipe h1 h2 h3=>?_⟩;simp only[List.getElem?_map,Option.map_eq_some_iff]at h1;obtain⟨s0,hs0,rfl⟩:=h1;simp only[List.getElem?_replicate,if_pos hi,Option.some.injEq]at h2 h3;subst h2 h3;exact⟨λh=>by simp[JobM.fl]at h,λ_=>⟨by simp[clean],by simp only[List.append_nil];rw[(h.sorters i s0 hs0).kept_eq]⟩,λh=>by cases h⟩
theorem QkB{j:JobM}(h:FlowOk j):FlowOk j.fail:=by
 unfold JobM.fail
 by_cases h1:(j.under && j.complete)=true
 ·rw[if_pos h1];simp only[Bool.and_eq_true]at h1;exact Qdd (Qci h h1.1 h1.2)
 ·rw[if_neg h1];exact Qdd h
theorem QkC{j:JobM}(h:FlowOk j)(t:Int):FlowOk (j.step t).2:=by
 unfold JobM.step;split
 ·exact h
 ·split
  ·exact Qdc h
  ·split
   ·exact QcD h _
   ·split
    ·exact QcU h _
    ·exact Qfm h
end
end Go.Proofs.YthccpacmklhejabGreatDoor
