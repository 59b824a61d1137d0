import Derived.Deep.AppendLies
import Derived.Test.YtodmelffkfbalaaGreatDoorPk17
import Derived.Deep.RegionHeldLaw
import Derived.Deep.DeepCutAuto
open Go.Value renaming int->I,string->V,slice->Z
open Bool renaming false->F
open Go renaming World->X
set_option maxHeartbeats 3200000
set_option maxRecDepth 100000
open Go.Proofs.Tryz
namespace Go.Proofs.YtodmelffkfbalaaGreatDoor
open Go.RowKit
theorem If {P:Program}{w:X}{z:Array Oper}{o:Oper}{a:Act}{q:Act->X->Prop}{aaw:Exit->Act->X->Prop}{E:Prop}(B:o.guard=none)(s x:Operand)(t:TypeId)
 (T:o.op=.call { callee:=.builtin .append,args:=#[s,x],argTypes:=#[t,t] })
 (b:Nat) (e:TypeId) (i:TypeInfo) (W:P.underlying t=some (.slice e)) (hi:P.info? e=some i) (hz:i.zero=some (I .u8 0)) (C:i.size=1) (D:i.bytes=1)
 {ao:ag} {cap n:Nat} {l:ab} (hs:a.eval s=Z ao n cap) (hn:l.length=n) (r:bl w b e ao cap l)
 {H:ag} {d v:Nat} {l2:ab} (hx:a.eval x=Z H v d) (G:l2.length=v) (k:az w H d l2) (m:0<v)
 (L:n+v<=140737488355328) (p:b<=w.heap.size)
 (h:∀gL c w',bl w' b e gL c (l++l2)->w.grownBy w' (aw ao)->q (a.put o.dst (Z gL (n+v) c)) w') :
 if Region.wanted o (yielded z a.tmps)=true then Oper.wp P o a w q aaw else E:=by
 subst hn;subst G;obtain⟨ad,rfl⟩:=k.nE m;refine step_append_lies w B s x t T b e i (I .u8 0) 1 1 W hi hz C D rfl (by decide) _ l.length (bA l) hs r ad l2.length d (bA l2) hx (by rw[dq];omega) (fun j u y=>?_) (tj l2) m (by unfold maxLen;omega) (by omega) p w.heap.size rfl ?_
 . have N:j<l2.length:=by
    have:=(fw.1 y).1;rwa[dq] at this
   rw[jO l2 j N] at y;injection y with y;subst y;exact k.j j N
 . intro g c w' f S _ _;rw[<-oY] at f;rw[dp] at S;refine h _ c w' ?_ S;unfold bl;rw[aD];exact f
theorem Jg (b:UInt8):∃a d f i j k:Bool,(((b.toNat:Int)==13)=a∧((b.toNat:Int)==10)=d∧((b.toNat:Int)==92)=f∧((b.toNat:Int)==9)=i∧decide ((126:Int)<(b.toNat:Int))=j∧ex b.toNat=k)∧(a=true->dH b=[92,114])∧(a=F->d=true->dH b=[92,110])∧(a=F->d=F->f=true->dH b=[92,92])∧(a=F->d=F->f=F->(i=true∨j=true∨k=F)->dH b=[92,120,dQ.getD (b.toNat / 16) 0,dQ.getD (b.toNat % 16) 0])∧(a=F->d=F->f=F->i=F->j=F->k=true->dH b=[b]):=by
 refine⟨_,_,_,_,_,_,⟨rfl,rfl,rfl,rfl,rfl,rfl⟩,?_,?_,?_,?_,?_⟩;all_goals simp only[bN,cz,cJ,aO,ne_eq,ex]
 all_goals unfold dH
 . intro h;rw[if_pos (iO.1 (by show b.toNat=13;omega))]
 . intro h c;rw[if_neg (fun e=>h (by subst e;rfl)),if_pos (iO.1 (by show b.toNat=10;omega))]
 . intro h c g;rw[if_neg (fun e=>h (by subst e;rfl)),if_neg (fun e=>c (by subst e;rfl)),if_pos (iO.1 (by show b.toNat=92;omega))]
 . intro h c g l;rw[if_neg (fun e=>h (by subst e;rfl)),if_neg (fun e=>c (by subst e;rfl)),if_neg (fun e=>g (by subst e;rfl)),if_pos];simp at l;omega
 . intro h c g l n m;rw[if_neg (fun e=>h (by subst e;rfl)),if_neg (fun e=>c (by subst e;rfl)),if_neg (fun e=>g (by subst e;rfl)),if_neg];simp at m;omega
theorem CW {l:ab}{k:Nat}(h:k<l.length){x:ab}(a:dH l[k]=x):dd (l.take (k+1))=dd (l.take k)++x:=by
 rw[fR h,I0,a]
theorem Cv {p:Nat}(h:p<16):(⟨#[48,49,50,51,52,53,54,55,56,57,97,98,99,100,101,102]⟩:ae)[p]'h=dQ.getD p 0 :=
 (show ∀j:Fin 16,(⟨#[48,49,50,51,52,53,54,55,56,57,97,98,99,100,101,102]⟩:ae)[j.val]'j.isLt=dQ.getD j.val 0 by decide) ⟨p,h⟩
theorem Jd (W:X)(a b c d:UInt8)(t:Nat)(f:Nat×Nat):az (W.alloc (.cells #[I .u8 (a.toNat:Int),I .u8 (b.toNat:Int),I .u8 (c.toNat:Int),I .u8 (d.toNat:Int)] t f)) (some ⟨W.heap.size,0,none⟩) 4 [a,b,c,d]:=by
 refine⟨am _,(fun e=>by cases e),fun j g=>⟨_,rfl,?_⟩⟩;refine(bx.e W #[I .u8 (a.toNat:Int),I .u8 (b.toNat:Int),I .u8 (c.toNat:Int),I .u8 (d.toNat:Int)] 4 t f).q ?_;exact jO [a,b,c,d] j g
theorem yz (w:X)(l:ab)(ao:ag)(cap n:Nat)(hl:az w ao cap l)(hn:l.length=n)(hN:n<=1000000000):
 Calls prog 41 #[Z ao n cap] w fun e w'=>e=.returned (V ⟨(dd l).toArray⟩)∧Below w.heap.size w w':=by
 obtain⟨H,L,N,S,T⟩:=info_parts gm;have Hi:=aa L;have kS:=aa N;have kM:=aa S;have kT:=aa T
 have s:=mN;clear L N S T;go_enter func41,ntmps41;go_wp2;go_loopw [3,8] (fun v3 v8 wr=>∃(k:Nat) (bo:ag) (fV m:Nat),k<=n∧v8=I .i64 k∧v3=Z bo m fV∧(dd (l.take k)).length=m∧bl wr w.heap.size 5 bo fV (dd (l.take k))∧Below w.heap.size w wr) (fun _ v _=>n-(intOf v).toNat)
 case atStart=>exact⟨0,none,0,0,ax _,rfl,rfl,rfl,bl.q _ _ _,ar _ _⟩
 case round =>
  obtain⟨k,bo,fV,m,hk,rfl,rfl,hm,hO,hb⟩:=hrel;have hm4:=s (l.take k);rw[hm,bV] at hm4;have hm5:m<=4000000000:=by omega
  by_cases hlt:k<n
  . have hkl:k<l.length:=by omega
    obtain⟨t1,t2,t3,y,t5,t6,⟨e1,e2,e3,e4,e5,e6⟩,z,B,C,D,G⟩:=Jg l[k];have hnx:=fun x (a:dH l[k]=x)=>CW hkl a;have hlt':(k:Int)<n:=by omega
    have t:=hl.a hb;obtain⟨b,o,hao,hc⟩:=t.q (by omega);have c0:=hc k hkl;have HV:=fun W=>vH (l[k].toNat:Int) W;have j:=aa hO;have d:=aa hb;have AB:=aa hnx;have r:=aa hm
    have hcap:=t.1;clear hc t hO hb hnx hl hm s;subst hao;generalize l[k]=c at *;cases t1 with
    | true =>
      have a:=AB.o _ (z rfl);clear z B C D G;go_wp2_with (at_builtin;refine BB rfl (.tmp 19) (.const (V ⟨#[92,114]⟩)) 31 9 rfl w.heap.size 5 H underlying31 underlying9 Hi.o kS.o kM.o kT.o rfl r.o j.o ⟨#[92,114]⟩ rfl (by show _+2<=_;omega) d.o.size ?_;intro u f w2 g i)
      go_roundw
      case rel=>exact⟨k+1,u,f,m+2,by omega,by go_num,rfl,by rw[a,aD,r.o];rfl,by rw[a];exact g,d.o.trans (kv j.o i d.o.size)⟩
      case measure=>simp[intOf];omega
    | false =>
      cases t2 with
      | true =>
        have a:=AB.o _ (B rfl rfl);clear z B C D G;go_wp2_with (at_builtin;refine BB rfl (.tmp 24) (.const (V ⟨#[92,110]⟩)) 31 9 rfl w.heap.size 5 H underlying31 underlying9 Hi.o kS.o kM.o kT.o rfl r.o j.o ⟨#[92,110]⟩ rfl (by show _+2<=_;omega) d.o.size ?_;intro u f w2 g i)
        go_roundw
        case rel=>exact⟨k+1,u,f,m+2,by omega,by go_num,rfl,by rw[a,aD,r.o];rfl,by rw[a];exact g,d.o.trans (kv j.o i d.o.size)⟩
        case measure=>simp[intOf];omega
      | false =>
        cases t3 with
        | true =>
          have a:=AB.o _ (C rfl rfl rfl);clear z B C D G;go_wp2_with (at_builtin;refine BB rfl (.tmp 29) (.const (V ⟨#[92,92]⟩)) 31 9 rfl w.heap.size 5 H underlying31 underlying9 Hi.o kS.o kM.o kT.o rfl r.o j.o ⟨#[92,92]⟩ rfl (by show _+2<=_;omega) d.o.size ?_;intro u f w2 g i)
          go_roundw
          case rel=>exact⟨k+1,u,f,m+2,by omega,by go_num,rfl,by rw[a,aD,r.o];rfl,by rw[a];exact g,d.o.trans (kv j.o i d.o.size)⟩
          case measure=>simp[intOf];omega
        | false =>
          cases hv:(y||t5||!t6) with
          | false =>
            simp only[Bool.or_eq_false_iff,Bool.not_eq_false'] at hv;obtain⟨⟨rfl,rfl⟩,rfl⟩:=hv;have a:=AB.o _ (G rfl rfl rfl rfl rfl rfl);clear z B C D G;rw[e6] at HV;go_wp2_with first
             | (refine(HV _).mono ?_;rintro e w1 ⟨rfl,rfl⟩)
             | (at_builtin;refine ld rfl (.tmp 12) (.tmp 14) 31 rfl w.heap.size 5 H underlying31 Hi.o kS.o kM.o kT.o (l2:=[c]) rfl r.o (j.o.a _) rfl rfl (az.f _ _ _ _) (by omega) (by rw[bu];have:=d.o.size;omega) ?_;intro u f w2 g i)
            go_roundw
            case rel=>exact⟨k+1,u,f,m+1,by omega,by go_num,rfl,by rw[a,aD,r.o];rfl,by rw[a];exact g,(au d.o ((ar _ _).alloc (am _) _)).trans (kv (j.o.a _) i (by rw[bu];have:=d.o.size;omega))⟩
            case measure=>simp[intOf];omega
          | true =>
            have a:=AB.o _ (D rfl rfl rfl (by cases y <;> cases t5 <;> cases t6 <;> simp at hv ⊢));clear z B C D G;have hv3:y=true∨(y=F∧t5=true)∨(y=F∧t5=F∧t6=F):=by cases y <;> cases t5 <;> cases t6 <;> simp at hv ⊢
            have hc8:=c.toNat_lt;have ha:bits .and .u8 (c.toNat:Int) 15=((c.toNat % 16:Nat):Int):=by
             rw[show(15:Int)=((15:Nat):Int) from rfl,u8_and_nat _ _ hc8 (by decide)];exact lL Int.ofNat (Nat.and_two_pow_sub_one_eq_mod c.toNat 4)
            have hs0:(c.toNat:Int) / 16=((c.toNat / 16:Nat):Int):=by omega
            have g1:c.toNat / 16<16:=by omega
            have g2:c.toNat % 16<16:=by omega
            generalize c.toNat / 16=p at *;generalize c.toNat % 16=q at *;rcases hv3 with rfl | ⟨rfl,rfl⟩ | ⟨rfl,rfl,rfl⟩;all_goals
             try rw[e6] at HV
             clear hv;go_upto_region 15 with (go_at_call 90;refine(HV _).mono ?_;rintro e w1 ⟨rfl,rfl⟩)
             go_region_held_law (fun _=>True) (trivial) (first
              | (refine If (by rfl) (.tmp 39) (.tmp 46) 31 (by rfl) w.heap.size 5 H underlying31 Hi.o kS.o kM.o kT.o (by rfl) r.o ((j.o.a _).r (bg _ _)) (by rfl) (by rfl) ((Jd _ 92 120 _ _ _ _).a (bg _ _)) (by decide) (by omega) (by have:=d.o.size;show _<=(World.alloc _ _).heap.size;rw[bu];omega) ?_;intro lN iw w3 hO3 hG3;have sW:=aa hO3;have yK:=aa hG3;clear hO3 hG3;(try simp only[Act.put,List.getElem_toArray,List.getElem_cons_succ,List.getElem_cons_zero,List.setIfInBounds_toArray,oX,List.set_cons_succ])))
             all_goals
              go_wp2;refine⟨⟨k+1,lN,iw,m+4,by omega,by go_num,rfl,by rw[a,aD,r.o];rfl,by rw[a,<-Cv g1,<-Cv g2];exact sW.o,(au d.o (au ((ar _ _).alloc (am _) _) (bg _ _))).trans (kv ((j.o.a _).r (bg _ _)) yK.o (by have:=d.o.size;show _<=(World.alloc _ _).heap.size;rw[bu];omega))⟩,?_⟩;simp[intOf];omega
  . obtain rfl:k=n:=by omega
    rw[hZ (by omega)] at hm hO;subst hm;have HC:=hO.f.B (P:=prog) 31 9 5 underlying31 underlying5 underlying9;go_wp2;go_ret;exact⟨rfl,hb⟩
theorem Rd (s:ae)(w:X)(hs:s.size<=1000000):
 Calls prog 43 #[V s] w fun e w'=>tS w s.data.toList e w':=by
 obtain⟨i0,hi0,hz0,hz1,hz2⟩:=info_parts gm;have Hi:=aa hi0;have kS:=aa hz0;have kM:=aa hz1;have kT:=aa hz2
 have HH:=aa (fun(c:UInt8) W=>PR c W);clear hi0 hz0 hz1 hz2;go_enter func43,ntmps43;go_wp2;go_loopw [4,5] (fun v4 v5 wr=>∃(k:Nat) (b:ab) (bo:ag) (N m:Nat),k<=s.size∧v5=I .i64 k∧v4=Z bo m N∧b.length=m∧m<=k∧bl wr w.heap.size 5 bo N b∧Hid (fD s.data.toList=(fD (s.data.toList.drop k)).map (b++·))∧Below w.heap.size w wr) (fun _ v5 _=>s.size-(intOf v5).toNat)
 case atStart=>exact⟨0,[],none,0,0,by omega,rfl,rfl,rfl,by omega,bl.q _ _ _,by unfold Hid;rw[List.drop_zero];cases fD s.data.toList <;> rfl,ar _ _⟩
 case round =>
  obtain⟨k,b,bo,N,m,hk,rfl,rfl,hm,hmk,hO,H,hb⟩:=hrel;have S:=cA s;by_cases hlt:k<s.size
  . have hlt':(k:Int)<s.size:=by omega
    have hd:s.data.toList.drop k=s[k]::s.data.toList.drop (k+1):=by rw[hJ (by omega),ol s k hlt]
    have hne:s.data.toList.drop k≠[]:=by rw[hd];simp
    have B:=aa (fun h=>ww (l:=s.data.toList.drop k) hne h);have C:=aa (fun h=>yW (l:=s.data.toList.drop k) hne h);have T:=aa hO;have v:=aa hb;have HM:=aa hm
    clear hO hb hm hne;by_cases OQ:s[k]=92
    . have t0:((s[k].toNat:Int) != 92)=F:=by rw[OQ];rfl
      have t0:((s[k].toNat:Int) != 92)=F:=by rw[OQ];rfl
      by_cases h1:k+1<s.size
      . have h1':(k:Int)+1<s.size:=by omega
        have h1n:((k:Int)+1==s.size)=F:=aO.2 (by omega);have hd2:s.data.toList.drop k=92::s[k+1]::s.data.toList.drop (k+2):=by rw[hd,OQ,hJ (by omega),ol s (k+1) h1]
        have L:Hid (dR (s.data.toList.drop k)=if s[k+1]=114 then (13,2) else if s[k+1]=110 then (10,2) else if s[k+1]=92 then (92,2) else if s[k+1]=120 then dR (s.data.toList.drop k) else (0,0)):=by
         unfold Hid;rw[hd2];generalize s[k+1]=d;by_cases a:d=114
         . subst a;rfl
         by_cases b:d=110
         . subst b;rfl
         by_cases c:d=92
         . subst c;rfl
         by_cases e:d=120
         . rw[if_neg a,if_neg b,if_neg c,if_pos e]
         . rw[if_neg a,if_neg b,if_neg c,if_neg e];simp[dR,a,b,c,e]
        have HD:=aa hd2;have dk:∀j:UInt8,s[k+1]≠j->((s[k+1].toNat:Int)==(j.toNat:Int))=F:=fun j e=>by
         rw[aO];intro e2;exact e (iO.1 (by omega))
        clear hd hd2;by_cases e4:s[k+1]=120
        . have u4:((s[k+1].toNat:Int)==120)=true:=by rw[e4];rfl
          clear dk L;rw[e4] at HD;by_cases h3:k+3<s.size
          . obtain⟨i,hik⟩:∃i:Nat,i=k+1:=⟨_,rfl⟩;have hi:(k:Int)+1=(i:Int):=by omega
            have h1i:i<s.size:=by omega
            have h2:i+1<s.size:=by omega
            have h3:i+2<s.size:=by omega
            have ajm:(i:Int)<s.size:=by omega
            have h2':(i:Int)+1<s.size:=by omega
            have h3':(i:Int)+2<s.size:=by omega
            have g3:decide ((s.size:Int)<=(i:Int)+2)=F:=aX (by omega);have u4i:((s[i].toNat:Int)==120)=true:=by subst hik;exact u4
            have n:dR (s.data.toList.drop k)=if 0<=aF s[i+1].toNat∧0<=aF s[i+2].toNat then ((aF s[i+1].toNat*16+aF s[i+2].toNat).toNat.toUInt8,4) else (0,0):=by
             subst hik;rw[HD.o,hJ (by rw[S];omega),ol s (k+2) h2,hJ (by rw[S];omega),ol s (k+3) h3];rfl
            have rx:=oJ s[i+1];have ry:=oJ s[i+2]
            have hc:(16*aF (s[i+1].toNat:Int)+aF (s[i+2].toNat:Int)) % 256=((aF (s[i+1].toNat:Int)*16+aF (s[i+2].toNat:Int)).toNat.toUInt8.toNat:Int)∨aF (s[i+1].toNat:Int)<0∨aF (s[i+2].toNat:Int)<0:=by
             generalize aF (s[i+1].toNat:Int)=p at *;generalize aF (s[i+2].toNat:Int)=q at *;by_cases e:p<0∨q<0
             . exact Or.inr e
             . left;rw[UInt8.toNat_ofNat',show(2:Nat) ^ 8=256 from rfl];omega
            have Hf:=aa n;have HC:=aa hc
            clear e4;have ajn:((i:Int)==s.size)=F:=aO.2 (by omega);have HMk:=aa hmk;have HI:=aa hi;have HIk:=aa hik
            clear n S HD hc hi hik;go_upto_region 10 with fail
            go_cut [4,5,31] (fun v4 v5 v31 wd=>wd=wr∧v4=Z bo m N∧v5=I .i64 (i:Int)∧v31=.bool true)
            case first =>
             go_wp2;go_meet;exact⟨rfl,rfl,by rw[<-HI.o],rfl⟩
            obtain⟨rfl,rfl,rfl,rfl⟩:=hcut;clear h1' h1n u4;go_wp2_with fail;refine(HH.o _ _).mono ?_;rintro e w1 ⟨rfl,D⟩;have HB1:=aa (v.o.trans (D.mono v.o.size));have yT:=aa (T.o.r D)
            clear D T v;by_cases hp0:aF (s[i+1].toNat:Int)<0
            . have hR:=C.o (by rw[Hf.o,if_neg (by omega)]);clear B C Hf;go_wp2;go_ret2;exact .no (by rw[H.out,hR];rfl) HB1.o
            have p0:decide (aF (s[i+1].toNat:Int)<0)=F:=aX hp0;go_wp2_with fail;refine(HH.o _ _).mono ?_;rintro e w2 ⟨rfl,D⟩;have g:=aa (HB1.o.trans (D.mono HB1.o.size));have xG:=aa (yT.o.r D)
            clear D yT HB1;by_cases hq0:aF (s[i+2].toNat:Int)<0
            . have hR:=C.o (by rw[Hf.o,if_neg (by omega)]);clear B C Hf;go_wp2;go_ret2;exact .no (by rw[H.out,hR];rfl) g.o
            have q0:decide (aF (s[i+2].toNat:Int)<0)=F:=aX hq0;have n:=Hf.o;rw[if_pos (by omega)] at n;have f:=B.o (by rw[n];simp);rw[n] at f;simp only[rg] at f;have hc:=HC.o.resolve_right (by omega);have MI:=aa f;have HC:=aa hc
            clear B C n f Hf hc;generalize hv:(aF (s[i+1].toNat:Int)*16+aF (s[i+2].toNat:Int)).toNat.toUInt8=c at *;go_upto_region 13 with fail
            have i2:IntKind.i64.wrap ((i:Int)+1)=(i:Int)+1:=gF (by omega) (by omega);have i3:IntKind.i64.wrap ((i:Int)+2)=(i:Int)+2:=gF (by omega) (by omega);have e2:((i:Int)+2).toNat=i+2:=by omega
            have HC2:Hid (IntKind.u8.wrap (16*aF (s[i+1].toNat:Int)+aF (s[i+2].toNat:Int))=(c.toNat:Int)):=by unfold Hid;rw[IntKind.wrap_u8];exact HC.o
            have n2:(0:Int)<=(i:Int)+1:=by omega
            have n3:(0:Int)<=(i:Int)+2:=by omega
            have i4:IntKind.i64.wrap (16*aF (s[i+1].toNat:Int))=16*aF (s[i+1].toNat:Int):=gF (by omega) (by omega);have i5:IntKind.i64.wrap (16*aF (s[i+1].toNat:Int)+aF (s[i+2].toNat:Int))=16*aF (s[i+1].toNat:Int)+aF (s[i+2].toNat:Int):=gF (by omega) (by omega);clear OQ h1 h1i ajm g3 u4i ajn p0 q0;go_region_held_law (fun _=>True) (trivial) (first
             | (go_at_call 92;refine(HH.o _ _).mono ?_;rintro e w3 ⟨rfl,hb3⟩;first | (have z:=aa (au z.o hb3);clear hb3) | (have z:=aa (au (bg w2.heap.size w2) hb3);clear hb3))
             | (refine If (by rfl) (.tmp 53) (.tmp 67) 31 (by rfl) w.heap.size 5 i0 underlying31 Hi.o kS.o kM.o kT.o (l2:=[c]) (by rfl) HM.o ((xG.o.r z.o).a _) (by rfl) (by rfl) (by (first | rw[HC.o] | rw[HC2.o] | rw[i5,HC2.o]);exact az.f _ _ _ _) (by decide) (by omega) (by have:=g.o.size;have:=z.o.size;show _<=(World.alloc _ _).heap.size;rw[bu];omega) ?_;intro bo3 bc3 w4 hO4 hG4;have LA:=aa hO4;have jH:=aa (((g.o.trans (z.o.mono g.o.size)).alloc (by have:=g.o.size;have:=z.o.size;omega) _).trans (kv ((xG.o.r z.o).a _) hG4 (by have:=g.o.size;have:=z.o.size;show _<=(World.alloc _ _).heap.size;rw[bu];omega)));clear hO4 hG4))
            all_goals
             go_wp2;refine⟨⟨k+4,b++[c],bo3,bc3,m+1,by omega,by have:=HI.o;go_num,rfl,by rw[aD,HM.o];rfl,by omega,LA.o,by unfold Hid;rw[H.out,MI.o,Option.map_map];congr 1;funext y;simp,jH.o⟩,?_⟩;have:=HI.o;simp[intOf];omega
          . have g3:(s.size:Int)<=(k:Int)+1+2:=by omega
            have hR:=C.o (by
             rw[HD.o];have:(s.data.toList.drop (k+2)).length<2:=by rw[cQ,S];omega
             match s.data.toList.drop (k+2),this with
             | [],_=>rfl
             | [x],_=>rfl
             | x::y::r,h=>simp at h;omega)
            clear B C HD S;go_wp2;go_ret2;exact .no (by rw[H.out,hR];rfl) v.o
        . have u4:((s[k+1].toNat:Int)==120)=F:=dk 120 e4;by_cases e1:s[k+1]=114
          . have u1:((s[k+1].toNat:Int)==114)=true:=by rw[e1];rfl
            have n:dR (s.data.toList.drop k)=(13,2):=by rw[L.o,if_pos e1]
            have f:=B.o (by rw[n];simp);rw[n] at f;simp only[rg] at f;have MI:=aa f;clear B C n f L dk HD;go_wp2_with (at_builtin;refine ld rfl (.tmp 75) (.tmp 76) 31 rfl w.heap.size 5 i0 underlying31 Hi.o kS.o kM.o kT.o (l2:=[13]) rfl HM.o (T.o.a _) rfl rfl (az.f _ 13 _ _) (by omega) (by rw[bu];have:=v.o.size;omega) ?_;intro rH G w2 t u;have xG:=aa t;have g:=aa ((v.o.alloc v.o.size _).trans (kv (T.o.a _) u (by rw[bu];have:=v.o.size;omega)));clear t u)
            go_roundw
            case rel=>exact⟨k+2,b++[13],rH,G,m+1,by omega,by go_num,rfl,by rw[aD,HM.o];rfl,by omega,xG.o,by unfold Hid;rw[H.out,MI.o,Option.map_map];congr 1;funext y;simp,g.o⟩
            case measure=>simp[intOf];omega
          have u1:((s[k+1].toNat:Int)==114)=F:=dk 114 e1;rw[if_neg e1] at L;by_cases e2:s[k+1]=110
          . have u2:((s[k+1].toNat:Int)==110)=true:=by rw[e2];rfl
            have n:dR (s.data.toList.drop k)=(10,2):=by rw[L.o,if_pos e2]
            have f:=B.o (by rw[n];simp);rw[n] at f;simp only[rg] at f;have MI:=aa f;clear B C n f L dk HD;go_wp2_with (at_builtin;refine ld rfl (.tmp 82) (.tmp 83) 31 rfl w.heap.size 5 i0 underlying31 Hi.o kS.o kM.o kT.o (l2:=[10]) rfl HM.o (T.o.a _) rfl rfl (az.f _ 10 _ _) (by omega) (by rw[bu];have:=v.o.size;omega) ?_;intro rH G w2 t u;have xG:=aa t;have g:=aa ((v.o.alloc v.o.size _).trans (kv (T.o.a _) u (by rw[bu];have:=v.o.size;omega)));clear t u)
            go_roundw
            case rel=>exact⟨k+2,b++[10],rH,G,m+1,by omega,by go_num,rfl,by rw[aD,HM.o];rfl,by omega,xG.o,by unfold Hid;rw[H.out,MI.o,Option.map_map];congr 1;funext y;simp,g.o⟩
            case measure=>simp[intOf];omega
          have u2:((s[k+1].toNat:Int)==110)=F:=dk 110 e2;rw[if_neg e2] at L;by_cases e3:s[k+1]=92
          . have u3:((s[k+1].toNat:Int)==92)=true:=by rw[e3];rfl
            have n:dR (s.data.toList.drop k)=(92,2):=by rw[L.o,if_pos e3]
            have f:=B.o (by rw[n];simp);rw[n] at f;simp only[rg] at f;have MI:=aa f;clear B C n f L dk HD;go_wp2_with (at_builtin;refine ld rfl (.tmp 89) (.tmp 90) 31 rfl w.heap.size 5 i0 underlying31 Hi.o kS.o kM.o kT.o (l2:=[92]) rfl HM.o (T.o.a _) rfl rfl (az.f _ 92 _ _) (by omega) (by rw[bu];have:=v.o.size;omega) ?_;intro rH G w2 t u;have xG:=aa t;have g:=aa ((v.o.alloc v.o.size _).trans (kv (T.o.a _) u (by rw[bu];have:=v.o.size;omega)));clear t u)
            go_roundw
            case rel=>exact⟨k+2,b++[92],rH,G,m+1,by omega,by go_num,rfl,by rw[aD,HM.o];rfl,by omega,xG.o,by unfold Hid;rw[H.out,MI.o,Option.map_map];congr 1;funext y;simp,g.o⟩
            case measure=>simp[intOf];omega
          have u3:((s[k+1].toNat:Int)==92)=F:=dk 92 e3;rw[if_neg e3] at L;rw[if_neg e4] at L;have hR:=C.o (by rw[L.o]);clear B C L dk HD;go_wp2;go_ret2;exact .no (by rw[H.out,hR];rfl) v.o
      . have h1n:((k:Int)+1==s.size)=true:=cJ.2 (by omega);have hR:=C.o (by rw[hd,OQ,List.drop_of_length_le (by omega)];rfl);clear B C hd;go_wp2;go_ret2;exact .no (by rw[H.out,hR];rfl) v.o
    . have t0:((s[k].toNat:Int) != 92)=true:=by rw[dh];intro e;exact OQ (iO.1 (by show s[k].toNat=92;omega))
      have n:dR (s.data.toList.drop k)=(s[k],1):=by rw[hd];simp[dR,OQ]
      have f:=B.o (by rw[n];simp);rw[n] at f;simp only[rg] at f;have MI:=aa f;clear B C n hd f;go_wp2_with (at_builtin;refine ld rfl (.tmp 16) (.tmp 20) 31 rfl w.heap.size 5 i0 underlying31 Hi.o kS.o kM.o kT.o (l2:=[s[k]]) rfl HM.o (T.o.a _) rfl rfl (az.f _ _ _ _) (by omega) (by rw[bu];have:=v.o.size;omega) ?_;intro rH G w2 t u;have xG:=aa t;have g:=aa ((v.o.alloc v.o.size _).trans (kv (T.o.a _) u (by rw[bu];have:=v.o.size;omega)));clear t u)
      go_roundw
      case rel=>exact⟨k+1,b++[s[k]],rH,G,m+1,by omega,by go_num,rfl,by rw[aD,HM.o];rfl,by omega,xG.o,by unfold Hid;rw[H.out,MI.o,Option.map_map];congr 1;funext y;simp,g.o⟩
      case measure=>simp[intOf];omega
  . obtain rfl:k=s.size:=by omega
    rw[List.drop_of_length_le (by omega),Cx] at H;simp only[Option.map_some,fx] at H;go_wp2;go_ret2;exact .yes b bo N m H hm.symm hO hb
theorem I9 (b:UInt8):∃a d f i j:Bool,(((b.toNat:Int)==13)=a∧((b.toNat:Int)==10)=d∧((b.toNat:Int)==92)=f∧decide ((126:Int)<(b.toNat:Int))=i∧decide ((b.toNat:Int)<32)=j)∧(a=true->dH b=[92,114])∧(a=F->d=true->dH b=[92,110])∧(a=F->d=F->f=true->dH b=[92,92])∧(a=F->d=F->f=F->(i=true∨j=true)->dH b=[92,120,dQ.getD (b.toNat / 16) 0,dQ.getD (b.toNat % 16) 0])∧(a=F->d=F->f=F->i=F->j=F->dH b=[b]):=by
 refine⟨_,_,_,_,_,⟨rfl,rfl,rfl,rfl,rfl⟩,?_,?_,?_,?_,?_⟩;all_goals simp only[bN,cz,cJ,aO,ne_eq]
 all_goals unfold dH
 . intro h;rw[if_pos (iO.1 (by show b.toNat=13;omega))]
 . intro h c;rw[if_neg (fun e=>h (by subst e;rfl)),if_pos (iO.1 (by show b.toNat=10;omega))]
 . intro h c g;rw[if_neg (fun e=>h (by subst e;rfl)),if_neg (fun e=>c (by subst e;rfl)),if_pos (iO.1 (by show b.toNat=92;omega))]
 . intro h c g k;rw[if_neg (fun e=>h (by subst e;rfl)),if_neg (fun e=>c (by subst e;rfl)),if_neg (fun e=>g (by subst e;rfl)),if_pos];omega
 . intro h c g l m;rw[if_neg (fun e=>h (by subst e;rfl)),if_neg (fun e=>c (by subst e;rfl)),if_neg (fun e=>g (by subst e;rfl)),if_neg];omega
theorem Jb {x:ae}{l m:ab}(h:x.data.toList=l)(y:ae)(a:y.data.toList=m):(x++y).data.toList=l++m:=by rw[jy,h,a]
theorem Rf (w:X)(l:ab)(ao:ag)(cap n:Nat)(hl:az w ao cap l)(hn:l.length=n)(hN:n<=1000000):
 Calls prog 44 #[Z ao n cap] w fun e w'=>e=.returned (V ⟨(dd l).toArray⟩)∧Below w.heap.size w w':=by
 have z:=mN;go_enter func44,ntmps44;go_wp2;go_loopw [3,4] (fun v3 v4 wr=>∃(k:Nat) (x:ae),k<=n∧v4=I .i64 k∧v3=V x∧Hid (x.data.toList=dd (l.take k))∧x.size<=4*k∧Below w.heap.size w wr) (fun _ v _=>n-(intOf v).toNat)
 case atStart=>exact⟨0,⟨#[]⟩,ax _,rfl,rfl,rfl,am _,ar _ _⟩
 case round =>
  obtain⟨k,x,hk,rfl,rfl,a,hxz,N⟩:=hrel;by_cases hlt:k<n
  . have f:k<l.length:=by omega
    obtain⟨t1,t2,t3,B,S,⟨e1,e2,e3,e5,e6⟩,g,i,m,r,s⟩:=I9 l[k];have C:∀y:ae,dH l[k]=y.data.toList->Hid ((x++y).data.toList=dd (l.take (k+1))):=fun y hy=>(Jb a.out y rfl).trans (by rw[<-hy];exact(CW f rfl).symm);have hlt':(k:Int)<n:=by omega
    have d:=hl.a N;obtain⟨b,o,D,hc⟩:=d.q (by omega);have c0:=hc k f;have t:=aa N;have u:=aa C
    have hcap:=d.1;have G:=(d.y (gL:=some ⟨b,o+k,none⟩) k (k+1) (by omega) (by omega) (fun _=>by rw[D];simp[Addr.add_lit])).B (P:=prog) 31 9 5 underlying31 underlying5 underlying9;rw[show(l.drop k).take (k+1-k)=[l[k]] by rw[show k+1-k=1 by omega,hJ f];rfl,show[l[k]].length=1 from rfl] at G;clear hc d N C hl z a;subst D;generalize l[k]=c at *;cases t1 with
    | true =>
      have a:=u.o ⟨#[92,114]⟩ (g rfl);clear g i m r s;go_wp2;go_roundw
      case rel=>exact⟨k+1,_,by omega,by go_num,rfl,a,by rw[jq];show _+2<=_;omega,t.o⟩
      case measure=>simp[intOf];omega
    | false =>
      cases t2 with
      | true =>
        have a:=u.o ⟨#[92,110]⟩ (i rfl rfl);clear g i m r s;go_wp2;go_roundw
        case rel=>exact⟨k+1,_,by omega,by go_num,rfl,a,by rw[jq];show _+2<=_;omega,t.o⟩
        case measure=>simp[intOf];omega
      | false =>
        cases t3 with
        | true =>
          have a:=u.o ⟨#[92,92]⟩ (m rfl rfl rfl);clear g i m r s;go_wp2;go_roundw
          case rel=>exact⟨k+1,_,by omega,by go_num,rfl,a,by rw[jq];show _+2<=_;omega,t.o⟩
          case measure=>simp[intOf];omega
        | false =>
          cases H:(B||S) with
          | false =>
            simp only[Bool.or_eq_false_iff] at H;obtain⟨rfl,rfl⟩:=H;have a:=u.o ⟨#[c]⟩ (s rfl rfl rfl rfl rfl);clear g i m r s;go_wp2;go_roundw
            case rel=>exact⟨k+1,_,by omega,by go_num,rfl,a,by rw[jq];show _+1<=_;omega,t.o⟩
            case measure=>simp[intOf];omega
          | true =>
            have L:=r rfl rfl rfl (by cases B <;> cases S <;> simp at H ⊢);clear g i m r s G;have T:B=true∨(B=F∧S=true):=by cases B <;> cases S <;> simp at H ⊢
            have hc8:=c.toNat_lt;have HH:∀(j:Nat) W,j<16->Calls prog 93 #[I .i64 (j:Int)] W fun e w'=>e=.returned (V ⟨#[dQ.getD j 0]⟩)∧w'=W:=fun j W hj=>by
             have:=Re 0 j W (by omega) (by omega) (by decide);rw[Ca 0 j hj] at this;exact this
            have hs0:(c.toNat:Int) / 16=((c.toNat / 16:Nat):Int):=by omega
            have hs1:(c.toNat:Int) % 16=((c.toNat % 16:Nat):Int):=by omega
            have g1:c.toNat / 16<16:=by omega
            have g2:c.toNat % 16<16:=by omega
            generalize c.toNat / 16=p at *;generalize c.toNat % 16=q at *;have a:=u.o ((⟨#[92,120]⟩:ae)++(⟨#[dQ.getD p 0]⟩:ae)++(⟨#[dQ.getD q 0]⟩:ae)) (by rw[L,jy,jy];rfl);clear H L u;rcases T with rfl | ⟨rfl,rfl⟩;all_goals
             go_upto_region 13 with fail
             go_quiet ((go_at_call 93;exact Calls.quiet_of_same (HH _ _ (by assumption))))
             go_wp2;refine⟨⟨k+1,_,by omega,by go_num,rfl,a,by simp only[jq];show _+(2+1+1)<=_;omega,t.o.trans ((iP ⟨_,rfl⟩).mono t.o.size)⟩,?_⟩;simp[intOf];omega
  . obtain rfl:k=n:=by omega
    rw[hZ (by omega)] at a;go_wp2;go_ret;exact⟨mE (ph a.out),N⟩
