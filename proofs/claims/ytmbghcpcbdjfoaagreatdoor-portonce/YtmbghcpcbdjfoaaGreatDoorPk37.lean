import Derived.Deep.RegionHeldLaw
import Derived.Test.YtmbghcpcbdjfoaaGreatDoorPk35
open Go.Value renaming int->I,string->V,slice->Z,pointer->Q
open Go.IntKind renaming i64->J
open Go.Obj renaming cells->K
open Go.Ending renaming returned->Y
open Option renaming none->U,some->M
open Bool renaming false->F
open Or renaming inl->A,inr->R
open Go renaming World->X
set_option maxHeartbeats 6400000
set_option maxRecDepth 100000
open Go.Proofs.Tryz
namespace Go.Proofs.YtmbghcpcbdjfoaaGreatDoor
open Go.RowKit
def yB:ag:=⟨#[99,111,110,116,101,110,116,45,108,101,110,103,116,104]⟩
def pY (st:Int)(l:aC)(body:ae):ae×Nat:=sV st l (aE yB l).length body
inductive UH (w:X)(r:ae×Nat)(e:Ending)(w':X):Prop
 | bad (c:Nat) (hc:c≠0) (he:e=Y (.tuple #[Z U 0 0,I J (c:Int)])) (ht:r=([],c)) (hB:Below w.heap.size w w')
 | ok (g cap n:Nat) (he:e=Y (.tuple #[Z (M ⟨g,0,U⟩) n cap,I J 0])) (hn:n=r.1.length) (ht:r.2=0) (hO:dZ w' w.heap.size g cap r.1) (hB:Below w.heap.size w w')
theorem Dw (p:ag×ag)(h:p.1.size<=2000∧p.2.size<=2000):(jx p).length<=4004:=by
 have a:p.1.data.toList.length=p.1.size:=by rw[cy];rfl
 have b:p.2.data.toList.length=p.2.size:=by rw[cy];rfl
 have c:(bz p.1.data.toList p.2.data.toList).1.length<=p.1.data.toList.length+2+p.2.data.toList.length:=by
  unfold bz;split
  . simp
  . split
    . simp
    . split
      . simp
      . simp;omega
 unfold jx;rw[aF];simp only[bO,lD];omega
theorem Dg:∀(l:aC),(∀p∈l,p.1.size<=2000∧p.2.size<=2000)->(l.flatMap jx).length<=l.length*4004
 | [],_=>by simp
 | p :: t, h => by
   have b:=Dg t (fun q a=>h q (by simp[a]));have c:=Dw p (h p (by simp));rw[oA,aF,bO];omega
theorem Gl (p:ag×ag)(h:(bz p.1.data.toList p.2.data.toList).2=0):∀l:aC,jL (l++[p])=jL l
 | []=>by simp[jL,h]
 | q::t=>by rw[gV,jL,jL,Gl p h t]
theorem Fq (l:aC):aE nP l=aE yB l:=by
 unfold aE;rw[show aU nP.data.toList=aU yB.data.toList by decide]
def js (nb:Nat):ag×ag:=(nP,⟨(ba 8 nb).toArray⟩)
theorem SZ {nb:Nat}(h:nb<1000000000):(bz (js nb).1.data.toList (js nb).2.data.toList).2=0:=(Gk h).1
theorem S0 {nb:Nat}(h:nb<1000000000):jx (js nb)=ya++ba 8 nb++[13,10]:=by
 unfold jx;have:=(Gk h).2;rw[show(js nb).1.data.toList=yb from rfl,show(js nb).2.data.toList=ba 8 nb from rfl,this]
theorem Pi {st:Int}{l:aC}{body:ae}(h:jM st l≠0):pY st l body=([],jM st l):=by
 unfold jM at h ⊢;unfold pY sV;rw[Fq] at h ⊢;split
 . rfl
 . rename_i a;rw[if_neg a] at h;split
   . rfl
   . rename_i b;rw[if_neg b] at h;split
     . rfl
     . rename_i c;rw[if_neg c] at h;exact absurd rfl h
theorem Pk {st:Int}{l:aC}{body:ae}(h:jM st l=0)(b:body.length<1000000000):ib st≠[]∧l.length<16∧pY st l body=if jL (l++[js body.length])≠0 then ([],jL (l++[js body.length])) else (kq st++(l++[js body.length]).flatMap jx++[13,10]++body,0):=by
 rw[Gl _ (SZ b),List.flatMap_append];unfold jM at h;unfold pY sV;rw[Fq] at h;by_cases a:ib st=[]
 . rw[if_pos a] at h;cases h
 rw[if_neg a] at h ⊢;by_cases c:16<=l.length
 . rw[if_pos c] at h;cases h
 rw[if_neg c] at h ⊢;by_cases d:(aE yB l).length≠0
 . rw[if_pos d] at h;cases h
 rw[if_neg d];refine⟨a,by omega,?_⟩;split
 . rfl
 . congr 1;simp[S0 b]
structure sR (w:X)(cs:Array Value)(T:Nat)(ls:aC)(ao:ai)(iK g cap:Nat)(acc:ae)(W:X):Prop where
 b:gx w cs T W
 c:dZ W (w.heap.size+1) g cap acc
 e:bx W ao iK ls.length (aI ls)
 d:∀a,ao=M a->a.block≠g∧a.block<W.heap.size
theorem sR.f {w W W':X}{d:Array Value}{T:Nat}{f:aC}{ao:ai}{i g cap:Nat}{b:ae}(h:sR w d T f ao i g cap b W)(c:Below W.heap.size W W'):sR w d T f ao i g cap b W' :=
 ⟨h.b.d c,h.c.j c,h.e.a c,fun a e=>⟨(h.d a e).1,ml (h.d a e).2 c.size⟩⟩
theorem sR.a {w W W':X}{l:Array Value}{T:Nat}{m:aC}{ao:ai}{n g cap d b:Nat}{f c:ae}(h:sR w l T m ao n g cap f W)(o:dZ W' (w.heap.size+1) d b c)(i:al (fun k=>k=g) W W')(j:d=g∨d=W.heap.size):sR w l T m ao n d b c W':=by
 have p:=h.c.c;refine⟨h.b.r i (fun k e=>by omega),o,h.e.q i (fun a e=>(h.d a e).1),fun a e=>⟨fun q=>?_,ml (h.d a e).2 i.b⟩⟩;have r:=h.d a e;rcases j with j | j
 . omega
 . omega
theorem Oe (w:X)(st:Int)(l:aC)(fo bo:ai)(gG gF nb:Nat)(body:ae)(hl:bx w fo gG l.length (aI l))(hN:l.length<=1000000)(hs:∀p∈l,p.1.size<=2000∧p.2.size<=2000)(hb:body.length=nb)(hBd:ay w bo gF body)(hnb:nb<=100000)(hP:fu w):
 Calls prog 138 #[.agg #[I J st,Z fo l.length gG,Z bo nb gF]] w fun e w'=>UH w (pY st l body) e w':=by
 subst hb;obtain⟨j0,hj0,hy0,hy1,hy2⟩:=info_parts il;have Hj:=aa hj0;have Jj:=aa hy0;have Jk:=aa hy1;have Jl:=aa hy2
 obtain⟨i0,hi0,hz0,hz1,hz2⟩:=info_parts pv;have Hi:=aa hi0;have kT:=aa hz0;have kL:=aa hz1;have kU:=aa hz2
 have HV:=aa hl;have HS:=aa hs;have Ea:=aa hBd;have HP:=aa hP
 have L:Hid (∀W,gx w #[I J st,Z fo l.length gG,Z bo body.length gF] 106 W->W.cell? ⟨w.heap.size,0,U⟩=M (I J st)∧W.cell? ⟨w.heap.size,1,U⟩=M (Z fo l.length gG)∧W.cell? ⟨w.heap.size,2,U⟩=M (Z bo body.length gF)):=fun W h=>⟨h.a 0,h.a 1,h.a 2⟩;have H0:=aa (gx.j w #[I J st,Z fo l.length gG,Z bo body.length gF] 106);have HFa:=aa (Oc _ st l fo bo gG gF body.length (hl.a H0.o.below) hN hs);have hwl:=Gm st;clear hl hs hBd hj0 hy0 hy1 hy2 hi0 hz0 hz1 hz2 hP;obtain⟨x0,x1,x2⟩:=L.o _ H0.o;by_cases y:jM st l=0
 . obtain⟨hwd,h16,hout⟩:=Pk (body:=body) y (by omega);have HT:=aa hout;rw[y] at HFa;clear hout y;have hs1:=Pj hwd;obtain⟨b,rfl⟩:∃b:Nat,st=(b:Int):=⟨st.toNat,by omega⟩;have HSw:Hid (∀W,Calls prog 187 #[I J (b:Int)] W fun e w'=>e=Y (V ⟨(ib b).toArray⟩)∧w'=W):=fun W=>Dv b W;have hwz:(⟨(ib b).toArray⟩:ag).size<=22:=by show(ib b).toArray.size<=22;rw[cN];exact hwl
   have HWd:Hid ((⟨(ib b).toArray⟩:ag).data.toList=ib b):=rfl;have HNm:Hid (∀W,gx w #[I J (b:Int),Z fo l.length gG,Z bo body.length gF] 106 W->Calls prog 149 #[I J (b:Int)] W fun e w'=>e=Y (V ⟨(ba 8 b).toArray⟩)∧Below W.heap.size W w'):=fun W h=>qE b (by omega) W (HP.o.a h.below);have XD:Hid (∀W,gx w #[I J (b:Int),Z fo l.length gG,Z bo body.length gF] 106 W->Calls prog 149 #[I J (body.length:Int)] W fun e w'=>e=Y (V (js body.length).2)∧Below W.heap.size W w'):=fun W h=>qE body.length (by omega) W (HP.o.a h.below);have hdl:=jq 8 b;have hdz:(⟨(ba 8 b).toArray⟩:ag).size<=9:=by show(ba 8 b).toArray.size<=9;rw[cN];omega
   have HDd:Hid ((⟨(ba 8 b).toArray⟩:ag).data.toList=ba 8 b):=rfl;have aqm:=jq 8 body.length;have hpz:(js body.length).2.size<=9:=by show(ba 8 body.length).toArray.size<=9;rw[cN];omega
   have HPc:Hid (∀p∈l++[js body.length],p.1.size<=2000∧p.2.size<=2000):=fun p N=>by
    rcases dm.1 N with N | N
    . exact HS.o p N
    . rw[cD.1 N];exact⟨by show nP.size<=2000;decide,by omega⟩
   have B:Hid ((l++[js body.length]).length=l.length+1):=by unfold Hid;simp
   have HPV:Hid (aI (l++[js body.length])=aI l++[V nP,V (js body.length).2]):=by unfold Hid;simp[aI,js]
   generalize aqo:(js body.length).2=s at *;generalize hll:l++[js body.length]=c at *;generalize (⟨(ib b).toArray⟩:ag)=wd at *;generalize (⟨(ba 8 b).toArray⟩:ag)=db at *;obtain⟨z,hz⟩:∃z:ag,z=⟨#[72,84,84,80,47,49,46,49,32]⟩++db++⟨#[32]⟩++wd++⟨#[13,10]⟩:=⟨_,rfl⟩;have hzs:z.size=9+db.size+1+wd.size+2:=by rw[hz];simp only[mj];rfl
   have hzd:z.data.toList=kq b:=by rw[hz];simp only[my,HDd.o,HWd.o];rfl
   have t:=fun W=>xR (P:=prog) W z 9 31 5 (by unfold maxLen;omega) underlying9 underlying31 underlying5;obtain⟨ag1,t⟩:=Classical.skolem.1 t;obtain⟨wF,t⟩:=Classical.skolem.1 t;have hcv:=fun W=>(t W).1;have HBf:Hid (∀W,Below W.heap.size W (wF W)∧dZ (wF W) W.heap.size W.heap.size (ag1 W) (kq b)):=fun W=>by have:=(t W).2;rw[hzd] at this;exact this
   obtain⟨zn,hzn⟩:∃zn,z.size=zn:=⟨_,rfl⟩;have HZl:Hid ((kq b).length=zn):=by unfold Hid;rw[<-hzd,cy];exact hzn
   have hzl:zn<=60:=by omega
   rw[hzn] at hcv;rw[hz] at hcv;go_enter func138,ntmps138;go_wp2_with fail;refine HFa.o.mono ?_;rintro e w1 ⟨rfl,u⟩;have Ed:=aa (H0.o.d u);obtain⟨x0,x1,x2⟩:=L.o w1 Ed.o;go_upto_region 4 with fail
   go_cut [5] (fun v wc=>∃g m,v=Z (M ⟨g,0,U⟩) zn m∧dZ wc (w.heap.size+1) g m (kq b)∧gx w #[I J (b:Int),Z fo l.length gG,Z bo body.length gF] 106 wc)
   case first =>
    have x:=aa (Ed.o.d (bA _ _));have HK2:Hid (∀W,gx w #[I J (b:Int),Z fo l.length gG,Z bo body.length gF] 106 W->(wF W).cell? ⟨w.heap.size,0,U⟩=M (I J (b:Int))):=fun W h=>(L.o _ (h.d (HBf.o W).1)).1;have Lg:Hid (∀W,gx w #[I J (b:Int),Z fo l.length gG,Z bo body.length gF] 106 W->dZ (wF W) (w.heap.size+1) W.heap.size (ag1 W) (kq b)∧gx w #[I J (b:Int),Z fo l.length gG,Z bo body.length gF] 106 (wF W)):=fun W h=>by
     have r:=(HBf.o W).2;exact⟨⟨h.e,r.b,r.e,r.f,r.d,r.a⟩,h.d (HBf.o W).1⟩
    go_region_held (fun W=>W.cell? ⟨w.heap.size,0,U⟩=M (I J (b:Int))) (first | exact HK2.o _ x.o | go_keep) (first
     | (go_at_call 149;refine(HNm.o _ x.o).mono ?_;rintro e v1 ⟨rfl,u⟩;have hOd:=x.o.d u;clear x;have x:=aa hOd;have q0:=(L.o v1 hOd).1;clear hOd u)
     | (go_at_call 187;refine(HSw.o _).mono ?_;rintro e v1 ⟨rfl,hv1⟩;subst hv1))
    all_goals
     (try go_wp2);go_meet;obtain⟨f1,f2⟩:=Lg.o _ x.o;exact⟨_,_,rfl,f1,f2⟩
   case rest =>
    obtain⟨g,m,rfl,r,hOc⟩:=hcut;have HU:=aa r;have HOc:=aa hOc
    obtain⟨x0,x1,x2⟩:=L.o wc HOc.o;go_wp2_with fail;refine(XD.o _ HOc.o).mono ?_;rintro e w2 ⟨rfl,hb2⟩;have FD:=aa (HOc.o.d hb2);have HU2:=aa (HU.o.j hb2)
    obtain⟨x0,x1,x2⟩:=L.o w2 FD.o;have hOb:=FD.o.d ((aq _ w2).alloc (ak _) (K #[V ⟨#[67,111,110,116,101,110,116,45,76,101,110,103,116,104]⟩,V s] 128));have hUb:=HU2.o.y (K #[V ⟨#[67,111,110,116,101,110,116,45,76,101,110,103,116,104]⟩,V s] 128);have y0:=yM w2 ⟨#[67,111,110,116,101,110,116,45,76,101,110,103,116,104]⟩ s 128 rfl 0 _ rfl;have y1:=yM w2 ⟨#[67,111,110,116,101,110,116,45,76,101,110,103,116,104]⟩ s 128 rfl 1 _ rfl;rw[ga,dV] at y0 y1;go_upto_region 6 with fail
    have hgw:=HU2.o.b;have Lh:Hid (g<(w2.alloc (K #[V ⟨#[67,111,110,116,101,110,116,45,76,101,110,103,116,104]⟩,V s] 128)).heap.size):=hUb.b;generalize (w2.alloc (K #[V ⟨#[67,111,110,116,101,110,116,45,76,101,110,103,116,104]⟩,V s] 128))=j at *;generalize w2.heap.size=k2 at *;obtain⟨x0,x1,x2⟩:=L.o j hOb;have HOb:=aa hOb;have HUb:=aa hUb
    have sH:Hid (∀W,Below j.heap.size j W->W.cell? ⟨w.heap.size,1,U⟩=M (Z fo l.length gG)∧W.cell? ⟨k2,0,U⟩=M (V ⟨#[67,111,110,116,101,110,116,45,76,101,110,103,116,104]⟩)∧W.cell? ⟨k2,1,U⟩=M (V s)):=fun W hW =>
     ⟨(hW.cell (bI j _ x1)).trans x1,(hW.cell (bI j _ y0)).trans y0,(hW.cell (bI j _ y1)).trans y1⟩
    have yS:=aa (fun W (hW:Below j.heap.size j W)=>IN l fo gG l.length W (HV.o.a (ar hOb.below hW)) rfl hN);go_cut [37,38,39] (fun v37 v38 v39 wd=>∃gf A9,v37=Z (M ⟨gf,0,U⟩) (l.length+1) A9∧v38=I J ((l.length:Int)+1)∧v39=I J 0∧aG wd 0 128 2 (M ⟨gf,0,U⟩) A9 (l.length+1) (aI l++[V ⟨#[67,111,110,116,101,110,116,45,76,101,110,103,116,104]⟩,V s])∧j.heap.size<=gf∧Below j.heap.size j wd)
    case first =>
     have VF:Hid (Below j.heap.size j j.drew):=bA _ _;have VG:Hid (Below j.heap.size j (j.alloc (K #[V ⟨#[67,111,110,116,101,110,116,45,76,101,110,103,116,104]⟩,V s] 128)).drew):=((aq _ _).alloc (ak _) _).trans (bA _ _);have VH:Hid (l.length+1<=maxLen∧(l.length+1)*32<=140737488355328):=⟨by unfold maxLen;omega,by omega⟩;have HAt:Hid (∀(W:X) (ao:ai) (cp S:Nat),aG W j.heap.size 128 2 ao cp l.length (aI l)->∀k,j.heap.size<=k->((Value.slice ao l.length cp).ownBlock=M S∨S=k)->j.heap.size<=S):=fun W ao cp S hO k hk h=>by
      rcases h with h | h
      . rw[dI] at h;cases ao with
        | none=>cases h
        | some a=>injection h with h;subst h;exact(hO.d a rfl).1
      . omega
     go_region_held_law (fun w'=>w'.cell? ⟨w.heap.size,1,U⟩=M (Z fo l.length gG)∧w'.cell? ⟨k2,0,U⟩=M (V ⟨#[67,111,110,116,101,110,116,45,76,101,110,103,116,104]⟩)∧w'.cell? ⟨k2,1,U⟩=M (V s)) (first | go_keep | exact HK6.o | exact HK5.o | exact HKA.o) (first
      | (refine step_append_lies _ (by rfl) _ _ _ (by rfl) 0 128 i0 (.agg #[V ⟨#[]⟩,V ⟨#[]⟩]) 2 32 underlying80 Hi.o kT.o kL.o kU.o (by rfl) (by decide) (Z AZ l.length C) l.length (aI l) (by rfl) ((AL.o.j (ax _)).q _) ⟨T.heap.size,0,U⟩ 1 1 [V ⟨#[67,111,110,116,101,110,116,45,76,101,110,103,116,104]⟩,V s] (by rfl) (by rfl) (yM _ _ _ _ rfl) (xS _ _) (by decide) VH.o.1 VH.o.2 (ax _) (T.heap.size+1) (by simp) ?_;intro S cap6 w6 d f wz QF;have Jm:=aa d;have wB:=aa (Hy (H.o.trans ((aq _ _).alloc H.o.size _)) AL.o f (ak _));have HG6:=aa (HAt.o _ _ _ S AL.o _ (Nat.le_succ_of_le H.o.size) wz);have HK6:=aa (sH.o w6 wB.o);clear d f wz QF;(try simp only[Act.put,List.getElem_toArray,List.getElem_cons_succ,List.getElem_cons_zero,List.setIfInBounds_toArray,qt,List.set_cons_succ]))
      | (refine step_append_lies _ (by rfl) _ _ _ (by rfl) 0 128 i0 (.agg #[V ⟨#[]⟩,V ⟨#[]⟩]) 2 32 underlying80 Hi.o kT.o kL.o kU.o (by rfl) (by decide) (Z AZ l.length C) l.length (aI l) (by rfl) (AL.o.j (ax _)) ⟨j.heap.size,0,U⟩ 1 1 [V ⟨#[67,111,110,116,101,110,116,45,76,101,110,103,116,104]⟩,V s] (by rfl) (by rfl) HNB.o (xS _ _) (by decide) VH.o.1 VH.o.2 (ax _) T.heap.size (by rfl) ?_;intro S cap6 w6 d f wz QF;have Jm:=aa d;have wB:=aa (Hy (H.o) AL.o f (ak _));have HG6:=aa (HAt.o _ _ _ S AL.o _ H.o.size wz);have HK6:=aa (sH.o w6 wB.o);clear d f wz QF;(try simp only[Act.put,List.getElem_toArray,List.getElem_cons_succ,List.getElem_cons_zero,List.setIfInBounds_toArray,qt,List.set_cons_succ]))
      | (go_at_call 188;refine(yS.o _ VG.o).mono ?_;rintro e T ⟨AZ,C,rfl,yT,wG⟩;have AL:=aa (yT.j VG.o.size);have H:=aa (VG.o.trans (wG.mono (by simp)));have HK5:=aa (sH.o T H.o);have HNB:=aa (UF wG);clear yT wG)
      | (go_at_call 188;refine(yS.o _ VF.o).mono ?_;rintro e T ⟨AZ,C,rfl,yT,wG⟩;have AL:=aa (yT.j VF.o.size);have H:=aa (VF.o.trans (wG.mono (ak _)));have HK5:=aa (sH.o T H.o);have HKA:=aa (sH.o _ (H.o.trans ((aq _ T).alloc H.o.size (K #[V ⟨#[67,111,110,116,101,110,116,45,76,101,110,103,116,104]⟩,V s] 128))));clear yT wG))
     all_goals (go_wp2;go_meet;exact⟨S,cap6,rfl,rfl,rfl,Jm.o,HG6.o,wB.o⟩)
    case rest =>
     obtain⟨gf,A9,rfl,rfl,rfl,vZ,TA,Zv⟩:=hcut;have hrow:bx wc (M ⟨gf,0,U⟩) A9 (l.length+1) (aI c):=by rw[HPV.o];exact vZ.a
     have Ta:Hid (sR w #[I J (b:Int),Z fo l.length gG,Z bo body.length gF] 106 c (M ⟨gf,0,U⟩) A9 g m (kq b) wc) :=
      ⟨HOb.o.d Zv,HUb.o.j Zv,by rw[B.o];exact hrow,fun a e=>by injection e with e;subst e;exact⟨by have:=Lh.o;show gf≠g;omega,(vZ.d _ rfl).2⟩⟩
     go_wp2;go_loopw [5,39] (fun vo vi wr=>∃(i n g m:Nat),i<=l.length+1∧vi=I J i∧vo=Z (M ⟨g,0,U⟩) n m∧(kq b++(c.take i).flatMap jx).length=n∧(∀p∈c.take i,(bz p.1.data.toList p.2.data.toList).2=0)∧sR w #[I J (b:Int),Z fo l.length gG,Z bo body.length gF] 106 c (M ⟨gf,0,U⟩) A9 g m (kq b++(c.take i).flatMap jx) wr) (fun _ vi _=>l.length+1-(intOf vi).toNat)
     case atStart=>exact⟨0,_,_,_,ax _,rfl,rfl,by simpa using HZl.o,fun p N=>by simp at N,by simpa using Ta.o⟩
     case round =>
      obtain⟨i,n,g,m,hi,rfl,rfl,hn,FQ,hR⟩:=hrel;have HR:=aa hR;have O5:=aa hn;have HZr:=aa FQ
      have hnl:n<=200000:=by
       have h2:=Dg (c.take i) (fun p N=>HPc.o p (List.mem_of_mem_take N));have h3:(c.take i).length<=16:=by rw[bP,B.o];omega
       rw[aF,HZl.o] at hn;omega
      have x0:=L.o wr HR.o.b;by_cases hlt:i<l.length+1
      . have hlt':(i:Int)<(l.length:Int)+1:=by omega
        have D:i<c.length:=by rw[B.o];exact hlt
        have hp1:=HR.o.e.j (mU c i D).1;have hp2:=HR.o.e.j (mU c i D).2;rw[ga,dV] at hp1 hp2;have hfc:=HR.o.e.1;rw[B.o] at hfc;have hps:=HPc.o c[i] (dG D);have qw:Hid (c.take (i+1)=c.take i++[c[i]]):=go D;have aeL:Hid ((bz c[i].1.data.toList c[i].2.data.toList).2≠0->jL c=(bz c[i].1.data.toList c[i].2.data.toList).2):=fun hc=>Gn c i D HZr.o hc;generalize c[i]=p at *;have zT:=aa (Fz p.1 p.2 (wr.alloc (K #[V p.1,V p.2] 128)) (by omega) (by omega));have hll:=Dw p hps;have Zw:Hid (jx p=(bz p.1.data.toList p.2.data.toList).1++[13,10]):=rfl;have Li:Hid (Below wr.heap.size wr (wr.alloc (K #[V p.1,V p.2] 128))):=(aq _ _).alloc (ak _) _;unfold jX at zT;generalize hcd:(bz p.1.data.toList p.2.data.toList).2=cd at *;generalize (bz p.1.data.toList p.2.data.toList).1=tx at *;have HCd:=aa hcd;by_cases hc0:cd=0
        . subst hc0;have hxz:((⟨tx.toArray⟩:ag)++⟨#[13,10]⟩:ag).size=tx.length+2:=by rw[mj];rfl
          have hxd:((⟨tx.toArray⟩:ag)++⟨#[13,10]⟩:ag).data.toList=tx++[13,10]:=by rw[my]
          have hxl:tx.length+2<=4004:=by
           have:=Zw.o;rw[this,aF] at hll;simpa using hll
          have HXz:=aa hxz;have HXd:=aa hxd
          go_wp2_with fail;refine zT.o.mono ?_;rintro e T ⟨rfl,hb5⟩;have HR5:=aa (HR.o.f (Li.o.trans (hb5.mono (by simp))));go_wp2_with (at_builtin;refine Cl rfl (.tmp 51) (.tmp 53) 31 9 rfl 5 j0 underlying31 Hj.o Jj.o Jk.o Jl.o rfl HR5.o.c O5.o _ _ rfl (wY underlying9 _ _) (by rw[HXz.o];omega) ?_;intro g7 He w7 TB FR G;have Lj:=aa (HR5.o.a TB FR G);clear TB FR G)
          go_roundw
          case rel =>
           have hlc:kq b++(c.take i).flatMap jx++((⟨tx.toArray⟩:ag)++⟨#[13,10]⟩:ag).data.toList=kq b++(c.take (i+1)).flatMap jx:=by
            rw[qw.o,List.flatMap_append,HXd.o,iX];congr 2;simp[Zw.o]
           refine⟨i+1,_,g7,He,by omega,by go_num,rfl,?_,?_,by rw[<-hlc];exact Lj.o⟩
           . rw[<-hlc,aF,O5.o,HXd.o];simp
           . intro q hq;rw[qw.o] at hq;rcases dm.1 hq with hq | hq
             . exact HZr.o q hq
             . simp at hq;subst hq;exact HCd.o
          case measure=>simp[intOf];omega
        . have tc:((cd:Int) != 0)=true:=by rw[cW];omega
          have Nc:=aa (aeL.o hc0);have QG:=aa hc0
          go_wp2_with fail;refine zT.o.mono ?_;rintro e T ⟨rfl,hb5⟩;have HR5:=aa (HR.o.f (Li.o.trans (hb5.mono (by simp))));go_wp2;(try simp only[Exit.inBlock,Exit.then]);go_ret2;refine .bad cd QG.o rfl ?_ HR5.o.b.below;rw[HT.o,Nc.o,if_pos QG.o]
      . obtain rfl:i=l.length+1:=by omega
        have HXe:Hid (pY b l body=(kq b++(c.take (l.length+1)).flatMap jx++[13,10]++body,0)):=by
         have htl:c.take (l.length+1)=c:=by rw[<-B.o];exact fD
         have hz:=HZr.o;rw[htl] at hz;unfold Hid;rw[HT.o,Ph c hz,if_neg (by simp),htl]
        go_wp2_with (first
         | (at_builtin;refine Cl rfl (.tmp 56) (.const (V ⟨#[13,10]⟩)) 31 9 rfl 5 j0 underlying31 Hj.o Jj.o Jk.o Jl.o rfl HR.o.c O5.o _ _ rfl (wY underlying9 _ _) (by show n+2<=_;omega) ?_;intro g7 He w7 TB FR G;have VI:=HR.o.a TB FR G;have Lj:=aa VI;have aeM:=aa (Ea.o.a VI.b.below);have z2:=(L.o w7 VI.b).2.2;clear TB FR G VI)
         | (at_builtin;refine Cl rfl (.tmp 58) (.tmp 60) 31 31 rfl 5 j0 underlying31 Hj.o Jj.o Jk.o Jl.o rfl Lj.o.c (by rw[aF,O5.o];rfl) _ _ rfl (Od underlying31 aeM.o rfl) (by omega) ?_;intro g8 aeN w8 hU8 hT8 hg8;have HR8:=aa (Lj.o.a hU8 hT8 hg8);clear hU8 hT8 hg8))
        go_ret2;have r:=HR8.o.c;refine .ok g8 aeN _ rfl ?_ (by rw[HXe.o]) (by rw[HXe.o];exact⟨by have:=r.c;omega,r.b,r.e,r.f,r.d,r.a⟩) HR8.o.b.below;rw[HXe.o];show _=(kq b++(c.take (l.length+1)).flatMap jx++[13,10]++body).length;rw[aF,aF,O5.o];rfl
 . have HF:=aa (Pi (body:=body) y);have tc:(((jM st l:Nat):Int) != 0)=true:=by rw[cW];omega
   generalize jM st l=fc at *;go_enter func138,ntmps138;go_wp2_with fail;refine HFa.o.mono ?_;rintro e w1 ⟨rfl,u⟩;have Ed:=H0.o.d u;go_wp2;go_ret2;exact .bad fc y rfl HF.o Ed.below
theorem qB (st:Int)(w:X):Calls prog 140 #[I J st] w fun e w'=>e=Y (.agg #[I J st,Z U 0 0,Z U 0 0])∧Below w.heap.size w w':=by
 go_enter func140,ntmps140;go_wp2;refine aR (v:=.agg #[I J st,Z U 0 0,Z U 0 0]) (by simp[results,results140,go_sem]) rfl ⟨rfl,?_⟩;exact(aq _ _).alloc (ak _) _
theorem rZ {W:X}{b g:Nat}{f x1 x2:Value}(h:W.heap[b]? = M (K #[f,x1,x2] g (0,0)))(a c d:Value):
 (W.cell? ⟨b,0,U⟩=M f∧W.cell? ⟨b,1,U⟩=M x1∧W.cell? ⟨b,2,U⟩=M x2∧W.frozen? ⟨b,0,U⟩=F∧W.frozen? ⟨b,1,U⟩=F∧W.frozen? ⟨b,2,U⟩=F) ∧
 Hid ((((W.setCell ⟨b,0,U⟩ a).setCell ⟨b,1,U⟩ c).setCell ⟨b,2,U⟩ d).cell? ⟨b,0,U⟩=M a∧(((W.setCell ⟨b,0,U⟩ a).setCell ⟨b,1,U⟩ c).setCell ⟨b,2,U⟩ d).cell? ⟨b,1,U⟩=M c∧(((W.setCell ⟨b,0,U⟩ a).setCell ⟨b,1,U⟩ c).setCell ⟨b,2,U⟩ d).cell? ⟨b,2,U⟩=M d∧al (fun k=>k=b) W (((W.setCell ⟨b,0,U⟩ a).setCell ⟨b,1,U⟩ c).setCell ⟨b,2,U⟩ d)):=by
 have e:=aQ _ b 2 _ _ d (aQ _ b 1 _ _ c (aQ W b 0 _ _ a h));exact⟨⟨am W _ 0 _ _ _ h,am W _ 1 _ _ _ h,am W _ 2 _ _ _ h,aD W _ 0 _ _ h,aD W _ 1 _ _ h,aD W _ 2 _ _ h⟩,am _ _ 0 _ _ _ e,am _ _ 1 _ _ _ e,am _ _ 2 _ _ _ e,gX b [a,c,d] 0 W⟩
theorem zf (k:Int)(w:X):Calls prog 35 #[I J k] w fun e w'=>e=Y (.bool (decide (0<=k)&&decide (k<4)))∧w'=w:=by
 by_cases h:0<=k
 . have t:decide (k≥0)=true:=aV h;rw[aV h,Bool.true_and];go_enter func35,ntmps35;go_wp2;go_ret;exact⟨rfl,rfl⟩
 . have t:decide (k≥0)=F:=aW h;rw[aW h,Bool.false_and];go_enter func35,ntmps35;go_wp2;go_ret;exact⟨rfl,rfl⟩
theorem Of (c:Nat)(w:X):Calls prog 85 #[I J (c:Int)] w fun e w'=>e=Y (.agg #[I J ((pM c).1:Int),Z U 0 0,Z U 0 0])∧Below w.heap.size w w':=by
 by_cases h:c=4
 . subst h;go_enter func85,ntmps85;go_wp2_with fail;refine((fun W=>qB 413 W) _).mono ?_;rintro e d ⟨rfl,a⟩;obtain⟨⟨m,n,p,q,r,s⟩,f⟩:=rZ ((a.block w.heap.size (by simp)).trans (bw w _)) (I J 413) (Z U 0 0) (Z U 0 0);have b:=ar ((aq _ w).alloc (ak _) _) a;go_wp2;generalize (((d.setCell ⟨w.heap.size,0,U⟩ _).setCell ⟨w.heap.size,1,U⟩ _).setCell ⟨w.heap.size,2,U⟩ _)=u at *;obtain⟨g,i,j,l⟩:=f.o;refine aR (v:=.agg #[I J 413,Z U 0 0,Z U 0 0]) (by simp[results,results85,go_sem,g,i,j]) rfl ⟨rfl,b.trans (l.below (fun k e=>by omega) b.size)⟩
 . have t:((c:Int)==4)=F:=aO.2 (by omega);have x:(pM c).1=400:=by unfold pM;simp[h]
   rw[x];go_enter func85,ntmps85;go_wp2_with fail;refine((fun W=>qB 400 W) _).mono ?_;rintro e d ⟨rfl,a⟩;obtain⟨⟨m,n,p,q,r,s⟩,f⟩:=rZ ((a.block w.heap.size (by simp)).trans (bw w _)) (I J 400) (Z U 0 0) (Z U 0 0);have b:=ar ((aq _ w).alloc (ak _) _) a;go_wp2;generalize (((d.setCell ⟨w.heap.size,0,U⟩ _).setCell ⟨w.heap.size,1,U⟩ _).setCell ⟨w.heap.size,2,U⟩ _)=u at *;obtain⟨g,i,j,l⟩:=f.o;refine aR (v:=.agg #[I J 400,Z U 0 0,Z U 0 0]) (by simp[results,results85,go_sem,g,i,j]) rfl ⟨rfl,b.trans (l.below (fun k e=>by omega) b.size)⟩
theorem gI.r {w:X}{g gs:Nat}{v:Nat->List Value}(h:gI w g gs v){k:Nat}(a:k<4){m n a2 p q r s:Value}(t:v k=[m,n,a2,p,q,r,s]){o:Nat}(u:1+k*7=o)(b c d e f l:Value):
 gI ((((((w.setCell ⟨g,o+1,U⟩ b).setCell ⟨g,o+2,U⟩ c).setCell ⟨g,o+3,U⟩ d).setCell ⟨g,o+4,U⟩ e).setCell ⟨g,o+5,U⟩ f).setCell ⟨g,o+6,U⟩ l) g gs (bN v k [m,b,c,d,e,f,l])∧al (fun i=>i=g) w ((((((w.setCell ⟨g,o+1,U⟩ b).setCell ⟨g,o+2,U⟩ c).setCell ⟨g,o+3,U⟩ d).setCell ⟨g,o+4,U⟩ e).setCell ⟨g,o+5,U⟩ f).setCell ⟨g,o+6,U⟩ l):=by
 subst u;refine⟨?_,gX g [b,c,d,e,f,l] (1+k*7+1) w⟩;have:=(((((h.d a (j:=1) (by decide) b).d a (j:=2) (by decide) c).d a (j:=3) (by decide) d).d a (j:=4) (by decide) e).d a (j:=5) (by decide) f).d a (j:=6) (by decide) l;simp only[pw,dd,t] at this;exact this
theorem zu {w:X}{g gs:Nat}{v:Nat->List Value}(h:gI w g gs v){k:Nat}(a:k<4){f:Value}{m t:ag}{mi ln:Int}{fo bo:ai}{nf gG nb gF:Nat}(b:v k=[f,V m,V t,I J mi,Z fo nf gG,I J ln,Z bo nb gF]):
 Calls prog 36 #[Q (M ⟨g,1+k*7,U⟩)] w fun e w'=>e=Y (.agg #[V m,V t,I J mi,Z fo nf gG,I J ln,Z bo nb gF])∧gI w' g gs (bN v k [f,V ⟨#[]⟩,V ⟨#[]⟩,I J 0,Z U 0 0,I J 0,Z U 0 0])∧al (fun i=>i=g) w w':=by
 have p:=h.a a (j:=1) (by decide) (u:=V m) (by rw[b];rfl);have q:=h.a a (j:=2) (by decide) (u:=V t) (by rw[b];rfl);have r:=h.a a (j:=3) (by decide) (u:=I J mi) (by rw[b];rfl);have s:=h.a a (j:=4) (by decide) (u:=Z fo nf gG) (by rw[b];rfl);have x:=h.a a (j:=5) (by decide) (u:=I J ln) (by rw[b];rfl);have y:=h.a a (j:=6) (by decide) (u:=Z bo nb gF) (by rw[b];rfl);have z:=h.e (1+k*7+1);have B:=h.e (1+k*7+2);have C:=h.e (1+k*7+3);have D:=h.e (1+k*7+4);have G:=h.e (1+k*7+5);have H:=h.e (1+k*7+6)
 have L:=h.f;obtain⟨o,l⟩:∃o,1+k*7=o:=⟨_,rfl⟩;rw[l] at p q r s x y z B C D G H ⊢;go_enter func36,ntmps36;go_wp2;have N:=h.r a b l (V ⟨#[]⟩) (V ⟨#[]⟩) (I J 0) (Z U 0 0) (I J 0) (Z U 0 0);change bodyPost _ _ _ _ _ (World.alloc (World.alloc (((((((w.setCell ⟨g,o+1,U⟩ (V ⟨#[]⟩)).setCell ⟨g,o+2,U⟩ (V ⟨#[]⟩)).setCell ⟨g,o+3,U⟩ (I J 0)).setCell ⟨g,o+4,U⟩ (Z U 0 0)).setCell ⟨g,o+5,U⟩ (I J 0)).setCell ⟨g,o+6,U⟩ (Z U 0 0))) _) _);have T:((((((w.setCell ⟨g,o+1,U⟩ (V ⟨#[]⟩)).setCell ⟨g,o+2,U⟩ (V ⟨#[]⟩)).setCell ⟨g,o+3,U⟩ (I J 0)).setCell ⟨g,o+4,U⟩ (Z U 0 0)).setCell ⟨g,o+5,U⟩ (I J 0)).setCell ⟨g,o+6,U⟩ (Z U 0 0)).heap.size=w.heap.size:=by simp
 generalize ((((((w.setCell ⟨g,o+1,U⟩ (V ⟨#[]⟩)).setCell ⟨g,o+2,U⟩ (V ⟨#[]⟩)).setCell ⟨g,o+3,U⟩ (I J 0)).setCell ⟨g,o+4,U⟩ (Z U 0 0)).setCell ⟨g,o+5,U⟩ (I J 0)).setCell ⟨g,o+6,U⟩ (Z U 0 0))=c at *;obtain⟨d,W⟩:=N;have n:Below c.heap.size c ((c.alloc (K #[V m,V t,I J mi,Z fo nf gG,I J ln,Z bo nb gF] 84)).alloc (K #[V m,V t,I J mi,Z fo nf gG,I J ln,Z bo nb gF] 84)):=ar ((aq _ _).alloc (ak _) _) ((aq _ _).alloc (ak _) _);refine aR (v:=.agg #[V m,V t,I J mi,Z fo nf gG,I J ln,Z bo nb gF]) (by rw[<-T];simp[results,results36,go_sem]) rfl ⟨rfl,⟨(n.block g d.f).trans d.c,d.b⟩,W.a (al.d (S:=fun _=>False) n) (fun _ e _=>e.elim)⟩
theorem Dh (w:X):Calls prog 37 #[] w fun e w'=>∃gp,e=Y (.agg #[Q (M ⟨gp,0,U⟩),V ⟨#[]⟩,V ⟨#[]⟩,I J 0,Z U 0 0,I J 0,Z U 0 0])∧dT w' (fun k=>w.heap.size<=k) gp qb∧Below w.heap.size w w':=by
 go_enter func37,ntmps37;go_wp2_with fail;refine((fun W=>Ov W) _).mono ?_;rintro e b ⟨gp,rfl,s,d⟩;have a:=(d.block w.heap.size (by simp)).trans (bw w _);have x:=am b _ 0 _ _ _ a;have y:=am b _ 1 _ _ _ a;have z:=am b _ 2 _ _ _ a;have B:=am b _ 3 _ _ _ a;have C:=am b _ 4 _ _ _ a;have D:=am b _ 5 _ _ _ a;have G:=am b _ 6 _ _ _ a
 have H:=fun j=>aD b _ j _ _ a;have f:=ar ((aq _ w).alloc (ak _) _) d;have t:dT b (fun k=>w.heap.size+1<=k) gp qb:=s.a (fun k _ e=>by rw[ch] at e;exact e);have u:=aa a;go_wp2;have g:al (fun k=>k=w.heap.size) b (((((((b.setCell ⟨w.heap.size,0,U⟩ (Q (M ⟨gp,0,U⟩))).setCell ⟨w.heap.size,1,U⟩ (V ⟨#[]⟩)).setCell ⟨w.heap.size,2,U⟩ (V ⟨#[]⟩)).setCell ⟨w.heap.size,3,U⟩ (I J 0)).setCell ⟨w.heap.size,4,U⟩ (Z U 0 0)).setCell ⟨w.heap.size,5,U⟩ (I J 0)).setCell ⟨w.heap.size,6,U⟩ (Z U 0 0)):=gX w.heap.size [Q (M ⟨gp,0,U⟩),V ⟨#[]⟩,V ⟨#[]⟩,I J 0,Z U 0 0,I J 0,Z U 0 0] 0 b;have a:=aQ _ _ 6 _ _ (Z U 0 0) (aQ _ _ 5 _ _ (I J 0) (aQ _ _ 4 _ _ (Z U 0 0) (aQ _ _ 3 _ _ (I J 0) (aQ _ _ 2 _ _ (V ⟨#[]⟩) (aQ _ _ 1 _ _ (V ⟨#[]⟩) (aQ b w.heap.size 0 _ _ (Q (M ⟨gp,0,U⟩)) u.o))))));generalize (((((((b.setCell ⟨w.heap.size,0,U⟩ (Q (M ⟨gp,0,U⟩))).setCell ⟨w.heap.size,1,U⟩ (V ⟨#[]⟩)).setCell ⟨w.heap.size,2,U⟩ (V ⟨#[]⟩)).setCell ⟨w.heap.size,3,U⟩ (I J 0)).setCell ⟨w.heap.size,4,U⟩ (Z U 0 0)).setCell ⟨w.heap.size,5,U⟩ (I J 0)).setCell ⟨w.heap.size,6,U⟩ (Z U 0 0))=c at *;have i:=am c _ 0 _ _ _ a;have l:=am c _ 1 _ _ _ a;have m:=am c _ 2 _ _ _ a;have n:=am c _ 3 _ _ _ a;have p:=am c _ 4 _ _ _ a;have q:=am c _ 5 _ _ _ a;have r:=am c _ 6 _ _ _ a
 simp at i l m n p q r;refine aR (v:=.agg #[Q (M ⟨gp,0,U⟩),V ⟨#[]⟩,V ⟨#[]⟩,I J 0,Z U 0 0,I J 0,Z U 0 0]) (by simp[results,results37,go_sem,i,l,m,n,p,q,r]) rfl ⟨gp,rfl,?_,f.trans (g.below (fun k e=>by omega) f.size)⟩;exact(t.d g (fun k e L=>by omega)).a (fun k _ e=>by omega)
theorem M6 (m t:ag)(mi ln:Int)(fo bo:ai)(nf gG nb gF:Nat)(w:X)(b:t.size<=100000):Calls prog 38 #[.agg #[V m,V t,I J mi,Z fo nf gG,I J ln,Z bo nb gF]] w fun e w'=>e=Y (.bool (decide (m=uW)&&uV t))∧Below w.heap.size w w':=by
 have a:=(aq _ w).alloc (ak _) (K #[V m,V t,I J mi,Z fo nf gG,I J ln,Z bo nb gF] 84);by_cases h:m=uW
 . have c:(m.toList==[80,65,84,67,72])=true:=by rw[cM,Lib.toList_data,h];rfl
   rw[aV h,Bool.true_and];clear h;go_enter func38,ntmps38;go_wp2_with fail;refine((fun W=>Df t W b) _).mono ?_;rintro e f ⟨rfl,d⟩;subst d;go_wp2;go_ret;exact⟨rfl,a⟩
 . have c:(m.toList==[80,65,84,67,72])=F:=by
    rw[aO,Lib.toList_data];intro e;exact h (by rw[ByteArray.ext_iff,<-wD,e];rfl)
   rw[aW h,Bool.false_and];go_enter func38,ntmps38;go_wp2;go_ret;exact⟨rfl,a⟩
structure UD (w:X)(l:ae)(e:Ending)(w':X):Prop where
 b:∃(ao:ai) (cap n:Nat),e=Y (Z ao n cap)∧n=l.length∧ay w' ao cap l
 a:Below w.heap.size w w'
theorem E8 (w:X)(r:nA)(fo bo:ai)(nf gG nb gF:Nat)(b:pI r)(d:r.2.1.length=nf)(m:bx w fo gG nf (aI r.2.1))(p:r.2.2.length=nb)(s:ay w bo gF r.2.2)(t:fu w):
 Calls prog 83 #[.agg #[I J (r.1:Int),Z fo nf gG,Z bo nb gF]] w fun e w'=>UD w (mE r) e w':=by
 subst d;have a:=(aq _ w).alloc (ak _) (K #[I J (r.1:Int),Z fo r.2.1.length gG,Z bo nb gF] 106);have z:=b.c;have B:=b.b
 have u:=Oe _ (r.1:Int) r.2.1 fo bo gG gF nb r.2.2 (m.a a) (by omega) b.d p (s.a a) (by omega) (t.a a);have l:=aa a;have v:mE r=(pY (r.1:Int) r.2.1 r.2.2).1:=rfl;rw[v];generalize pY (r.1:Int) r.2.1 r.2.2=q at *;go_enter func83,ntmps83;go_wp2_with fail;refine u.mono ?_;rintro e C x;cases x with
 | bad c D f i a =>
   subst f;have j:=aa (ar l.o a);go_wp2;go_ret;refine⟨⟨U,0,0,rfl,by rw[i];rfl,by rw[i];exact ay.d _⟩,j.o⟩
 | ok g k n f d i y a =>
   subst f;subst d;have j:=aa (ar l.o a);go_wp2;go_ret;exact⟨⟨_,k,_,rfl,rfl,y.q⟩,j.o⟩
theorem SM (a:ag)(l:aC):fw (aE a l)=bj (aT a l):=by
 show fw (aT a l)=_;match aT a l with
 | []=>rfl
 | [_]=>rfl
 | _::_::_=>rfl
theorem Jz {w:X}{l:aC}{fo:ai}{gG nf:Nat}(h:gz w l fo gG nf):
 Calls prog 190 #[Z fo nf gG] w fun e w'=>e=Y (.tuple #[V ((mC l).elim ⟨#[]⟩ je),.bool (mC l).isSome])∧Below w.heap.size w w':=by
 have k:=aa (wR l ti fo gG nf w h.e h.f (by have:=h.c;omega) h.b (by decide));have hz:=h.d jR;rw[SM,B2] at k;unfold ti at k;obtain⟨B,d⟩:∃B,B=mC l:=⟨_,rfl⟩;rw[<-d];unfold mC at d;generalize bj (aT jR l)=r at *;obtain⟨v,c⟩:=r;simp only[jX] at hz k d;by_cases hc:c=0
 . subst hc;rw[if_neg (by simp)] at d;have m:=aa d;have HP:Hid (∀W,Calls prog 223 #[V ⟨v.toArray⟩] W fun e w'=>ur W (eh v) e w'):=fun W=>by
    have:=CC ⟨v.toArray⟩ W (by show v.toArray.size<=_;rw[cN];omega);rw[show(⟨v.toArray⟩:ag).data.toList=v from by simp] at this;exact this
   go_enter func190,ntmps190;go_wp2_with fail;refine k.o.mono ?_;rintro e w1 ⟨rfl,f⟩;have G:=aa f;go_wp2_with fail;refine(HP.o _).mono ?_;rintro e H ⟨word,b,ao,n,code,rfl,z,s,L⟩;have g:Below H.heap.size H (H.alloc (K #[V word,Z ao b.length n] 203)):=(aq _ _).alloc (ak _) _;have a:=aa (ar (ar G.o L) g);cases C:eh v with
   | inl c2 =>
     rw[C] at z m;obtain⟨rfl,rfl,rfl⟩:=z;obtain rfl:B=U:=m.o;by_cases h0:code=0
     . subst h0;go_wp2;go_ret2;exact⟨rfl,a.o⟩
     . have t0:((code:Int) != 0)=true:=by rw[cW];omega
       go_wp2;go_ret2;exact⟨rfl,a.o⟩
   | inr x =>
     obtain⟨N,qs⟩:=x;rw[C] at z m;obtain⟨rfl,i,t⟩:=z;simp only at i t;have nN:=DW C;have u:=A8 C;subst t;have hn8:b.length<=8:=by rw[<-zb];exact nN
     have S:∀p∈b,p.2.size<=1000000:=fun p hp=>by
      have h2:=(u.2 (p.1.data.toList,p.2.data.toList) (jT.2 ⟨p,hp,rfl⟩)).2;rw[ep] at h2;omega
     obtain⟨T,j⟩:∃T,b.length=T:=⟨_,rfl⟩;rw[j] at s g a;have HG:=xc word b ⟨#[98,111,117,110,100,97,114,121]⟩ ao n T _ (s.a.a g) j (by omega) S;have HGl:=zM ⟨#[98,111,117,110,100,97,114,121]⟩ b;rw[j];by_cases D:N=xD
     . have tw:(word.toList==[109,117,108,116,105,112,97,114,116,47,102,111,114,109,45,100,97,116,97])=true:=by rw[cM,Lib.toList_data,i,D];rfl
       have hBq:B=(iL ⟨#[98,111,117,110,100,97,114,121]⟩ b).map (fun x=>x.data.toList):=by
        rw[HGl,m.o];show(if N≠xD then U else iu AC (dy b))=_;rw[if_neg (by simp[D])];rfl
       generalize iL ⟨#[98,111,117,110,100,97,114,121]⟩ b=q at *;go_wp2_with fail;refine HG.mono ?_;rintro e w3 ⟨rfl,hb3⟩;have HB3:=ar a.o hb3;go_wp2;go_ret2;refine⟨?_,HB3⟩;rw[hBq];cases q with
       | none=>rfl
       | some y=>simp[je]
     . have tw:(word.toList==[109,117,108,116,105,112,97,114,116,47,102,111,114,109,45,100,97,116,97])=F:=by
        rw[aO,Lib.toList_data,i];exact D
       obtain rfl:B=U:=by
        rw[m.o];show(if N≠xD then U else iu AC (dy b))=_;rw[if_pos D]
       go_wp2;go_ret2;exact⟨rfl,a.o⟩
 . have t0:((c:Int) != 0)=true:=by rw[cW];omega
   rw[if_pos hc] at d;subst d;go_enter func190,ntmps190;go_wp2_with fail;refine k.o.mono ?_;rintro e w1 ⟨rfl,f⟩;go_wp2;go_ret2;exact⟨rfl,f⟩
theorem Rk (a:List bW)(k:Nat)(b:k<a.length):ia (a.take (k+1))=ia (a.take k)+(a[k].a.length+200):=by
 unfold ia;rw[go b,lB,List.sum_append];simp
theorem II (a:List bW)(k:Nat):ia (a.take k)<=ia a:=by
 unfold ia;conv=>rhs;rw[<-jn k a,lB,List.sum_append]
 omega
theorem Oj {w:X}{ao:ai}{cap n:Nat}{a:List bW}(h:uK w ao cap a)(r:a.length=n)(G:ia a<=1000000000):
 Calls prog 192 #[Z ao n cap] w fun e w'=>e=Y (I J (ia a:Int))∧Below w.heap.size w w':=by
 subst r;have u:=aa h;have m:a.length<=cap:=by obtain⟨_,_,v,_⟩:=h;exact v.1
 have H:a.length<=10000000:=by
  have x:∀l:List bW,l.length*200<=ia l:=fun l=>by
   induction l with
   | nil=>simp[ia]
   | cons p t L=>unfold ia at *;simp at *;omega
  have:=x a;omega
 go_enter func192,ntmps192;go_wp2;go_loopw [3,8] (fun y f wr=>∃i:Nat,i<=a.length∧f=I J i∧y=I J (ia (a.take i):Int)∧Below w.heap.size w wr) (fun _ f _=>a.length-(intOf f).toNat)
 case atStart=>exact⟨0,ax _,rfl,rfl,aq _ _⟩
 case round =>
  obtain⟨i,N,rfl,rfl,g⟩:=hrel;by_cases d:i<a.length
  . have q:(i:Int)<a.length:=by omega
    obtain⟨b,o,s,rfl,S,T,W,z,B⟩:=(u.o.a g).d i d;have j:=Rk a i d;have C:=II a i;have c:=II a (i+1);rw[j] at c;obtain⟨nb,k⟩:∃nb,a[i].a.length=nb:=⟨_,rfl⟩;rw[k] at z j c;have D:=ar g ((aq _ wr).alloc (ak _) (K #[V a[i].c,V a[i].b,V a[i].d,Z s.a nb s.b] 96));generalize a[i]=p at *;go_wp2;go_roundw
    case rel=>exact⟨i+1,by omega,by go_num,by rw[j];go_num,D⟩
    case measure=>simp[intOf];omega
  . obtain rfl:i=a.length:=by omega
    go_wp2;go_ret;refine⟨?_,g⟩;rw[fD];rfl
inductive sU
 | row
 | jl
 | ids
 | list
 | box
 | out
def eE (l:List Int):List Value:=l.map fun i=>Value.int J i
def qJ (io:ai)(gZ:Nat)(ids:List Int):dC:=fun w S=>aG w 0 3 1 io gZ ids.length (eE ids)∧∀a,io=M a->S a.block
theorem qJ.a (c:ai)(d:Nat)(ids:List Int):bQ (qJ c d ids):=⟨fun h f b=>⟨h.1.e f (fun a e=>b _ (h.2 a e)),h.2⟩,fun h b=>⟨h.1,fun a e=>b _ (h.1.d a e).2 (h.2 a e)⟩⟩
def ut (g:Nat)(o:Obj):dC:=fun w S=>w.heap[g]? = M o∧S g
theorem ut.a (g:Nat)(o:Obj):bQ (ut g o):=⟨fun h b a=>⟨b.j h.1 (a g h.2),h.2⟩,fun h a=>⟨h.1,a g (bH.1 h.1).1 h.2⟩⟩
def oH (gs:Nat)(io:ai)(ni gZ:Nat)(lo:ai)(nl iK:Nat):Obj:=K #[Q (M ⟨gs,0,U⟩),Z io ni gZ,Z lo nl iK] 249 (0,0)
def gA (L gs:Nat)(s:av)(o:Obj)(io:ai)(gZ:Nat)(ids:List Int)(lo:ai)(iK:Nat)(told:ae)(b u:dC):sU->dC
 | .row=>ut L o
 | .jl=>fun w S=>aY w S gs s
 | .ids=>qJ io gZ ids
 | .list=>nX lo iK told
 | .box=>b
 | .out=>u
theorem qH {L gs:Nat}{s:av}{o:Obj}{e:ai}{f:Nat}{ids:List Int}{g:ai}{i:Nat}{a:ae}{b u:dC}(j:bQ b)(k:bQ u):∀d,bQ (gA L gs s o e f ids g i a b u d)
 | .row=>ut.a _ _
 | .jl=>⟨fun h l c=>aY.e h l c,fun h c=>aY.a h c⟩
 | .ids=>qJ.a _ _ _
 | .list=>nX.a _ _ _
 | .box=>j
 | .out=>k
def fG (w:X)(S:Nat->Prop)(L gs:Nat)(s:av)(ids:List Int)(told:ae):Prop :=
 ∃(κ:Nat->sU) (io:ai) (gZ:Nat) (lo:ai) (iK:Nat),fm (gA L gs s (oH gs io ids.length gZ lo told.length iK) io gZ ids lo iK told fi fi) κ w∧∀k,κ k≠.out->S k
section
variable {w w' w0:X} {S S' D:Nat->Prop} {L gs:Nat} {s:av} {ids:List Int} {told:ae}
theorem fG.y (h:fG w S L gs s ids told)(c:al S' w w')(f:∀k,S k->¬S' k):fG w' S L gs s ids told:=by
 obtain⟨g,i,j,l,m,n,a⟩:=h;refine⟨g,i,j,l,m,fun d=>?_,a⟩;by_cases b:d=.out
 . subst b;exact trivial
 . exact(qH bQ.a bQ.a d).b (n d) c (fun k e=>f k (a k (by rw[e];exact b)))
theorem fG.r (h:fG w S L gs s ids told)(a:Below w.heap.size w w'):fG w' S L gs s ids told:=h.y (al.d (S:=fun _=>False) a) (fun _ _ e=>e)
theorem qK {κ:Nat->sU}{c:sU}(a:∀k,κ k≠.out->aB S w k){n:Nat}(b:w.heap.size<=n):∀k,cA κ n c k≠.out->aB S w k:=by intro l;induction l <;> grind [aB,cA]
section
variable {κ:Nat->sU} {o:Obj} {io:ai} {gZ:Nat} {lo:ai} {iK:Nat} {b u:dC}
theorem AW (f:bQ b)(g:bQ u)(h:fm (gA L gs s o io gZ ids lo iK told b u) κ w){a:av}(i:aY w' (aB (fun k=>κ k=.jl) w) gs a)(j:al (fun k=>κ k=.jl) w w'):fm (gA L gs a o io gZ ids lo iK told b u) (cA κ w.heap.size .jl) w' :=
 h.a (qH f g) j (fun _ e=>e) (X':=gA L gs a o io gZ ids lo iK told b u) ⟨fun h l c=>aY.e h l c,fun h c=>aY.a h c⟩ i (fun _ e=>e) (fun d m=>by cases d <;> first | rfl | exact absurd rfl m)
theorem Ip (a:bQ b)(c:bQ u)(h:fm (gA L gs s o io gZ ids lo iK told b u) κ w){o':Obj}(f:w'.heap[L]? = M o')(g:al (fun k=>k=L) w w'):fm (gA L gs s o' io gZ ids lo iK told b u) (cA κ w.heap.size .row) w' :=
 h.a (qH a c) g (fun k e=>by rw[e];exact(h .row).2) (X':=gA L gs s o' io gZ ids lo iK told b u) (ut.a _ _) (N:=fun k=>k=L) ⟨f,rfl⟩ (fun k e=>A (by rw[e];exact(h .row).2)) (fun d i=>by cases d <;> first | rfl | exact absurd rfl i)
theorem Uv (l:bQ b)(m:bQ u)(h:fm (gA L gs s o io gZ ids lo iK told b u) κ w){f:ai}{g:Nat}{NC:List Int}(n:aG w' 0 3 1 f g NC.length (eE NC))(p:w.grownBy w' (au io))(i:∀j,au f=M j->au io=M j∨w.heap.size<=j):fm (gA L gs s o f g NC lo iK told b u) (cA κ w.heap.size .ids) w':=by
 have c:∀k,au io=M k->κ k=.ids:=fun k e=>by
  cases io with
  | none=>cases e
  | some a=>injection e with e;rw[<-e];exact(h .ids).2 a rfl
 refine h.a (qH l m) (al.q (S:=fun k=>au io=M k) p (fun k e=>e)) c (X':=gA L gs s o f g NC lo iK told b u) (qJ.a _ _ _) (N:=fun k=>au io=M k∨w.heap.size<=k) ⟨n,fun a e=>i a.block (by rw[e];rfl)⟩ (fun k e=>?_) (fun d q=>by cases d <;> first | rfl | exact absurd rfl q);rcases e with e | e
 . exact A (c k e)
 . exact R e
theorem TL (g:bQ b)(i:bQ u)(h:fm (gA L gs s o io gZ ids lo iK told b u) κ w){c:ai}{f:Nat}{a:ae}(j:nX c f a w' (aB (fun k=>κ k=.list) w))(l:al (fun k=>κ k=.list) w w'):fm (gA L gs s o io gZ ids c f a b u) (cA κ w.heap.size .list) w' :=
 h.a (qH g i) l (fun _ e=>e) (X':=gA L gs s o io gZ ids c f a b u) (nX.a _ _ _) j (fun _ e=>e) (fun d m=>by cases d <;> first | rfl | exact absurd rfl m)
theorem Uw (a:bQ b)(c:bQ u)(h:fm (gA L gs s o io gZ ids lo iK told b u) κ w)(z:Obj):fm (gA L gs s o io gZ ids lo iK told (ut w.heap.size z) u) (cA κ w.heap.size .box) (w.alloc z) :=
 h.a (qH a c) (al.d (S:=fun _=>False) ((aq _ w).alloc (ak _) z)) (fun _ e=>e.elim) (X':=gA L gs s o io gZ ids lo iK told (ut w.heap.size z) u) (ut.a _ _) (N:=fun k=>w.heap.size<=k) ⟨bw w z,ak _⟩ (fun k e=>R e) (fun d f=>by cases d <;> first | rfl | exact absurd rfl f)
theorem TO (h:fm (gA L gs s o io gZ ids lo iK told b u) κ w):fm (gA L gs s o io gZ ids lo iK told fi fi) κ w
 | .row=>h .row
 | .jl=>h .jl
 | .ids=>h .ids
 | .list=>h .list
 | .box=>trivial
 | .out=>trivial
end
end
def B6 (bo:ai)(gF:Nat)(l:ae):dC:=fun w S=>dO w S bo gF l
theorem B6.a (bo:ai)(gF:Nat)(l:ae):bQ (B6 bo gF l):=⟨fun h b a=>dO.d h b a,fun h a=>dO.a h a⟩
structure gJ (w:X)(S:Nat->Prop)(L gs n:Nat)(z:Obj)(bo:ai)(gF:Nat)(l:ae)(s:av)(io:ai)(gZ:Nat)(ids:List Int)(lo:ai)(iK:Nat)(told:ae)(W:X):Prop where
 c:∃κ,fm (gA L gs s (oH gs io ids.length gZ lo told.length iK) io gZ ids lo iK told (ut n z) (B6 bo gF l)) κ W∧∀k,κ k≠.out->aB S w k
 b:al S w W
section
variable {w W W':X} {S D:Nat->Prop} {L gs n:Nat} {z:Obj} {bo:ai} {gF:Nat} {l:ae} {s:av} {io:ai} {gZ:Nat} {ids:List Int} {lo:ai} {iK:Nat} {told:ae}
theorem gJ.jK {κ:Nat->sU}(h:fm (gA L gs s (oH gs io ids.length gZ lo told.length iK) io gZ ids lo iK told fi fi) κ w)(a:∀k,κ k≠.out->S k)(b:dO w D bo gF l)(c:∀k,D k->¬S k)(z:Obj):gJ w S L gs w.heap.size z bo gF l s io gZ ids lo iK told (w.alloc z):=by
 have d:fm (gA L gs s (oH gs io ids.length gZ lo told.length iK) io gZ ids lo iK told fi (B6 bo gF l)) κ w
  | .row=>h .row
  | .jl=>h .jl
  | .ids=>h .ids
  | .list=>h .list
  | .box=>trivial
  | .out=>dO.a b (fun k _ e=>tI (fun f=>c k e (a k f)))
 exact⟨⟨_,Uw bQ.a (B6.a _ _ _) d z,qK (fun k e=>A (a k e)) (ak _)⟩,al.d ((aq _ w).alloc (ak _) z)⟩
theorem gJ.a (h:gJ w S L gs n z bo gF l s io gZ ids lo iK told W)(a:Below W.heap.size W W'):gJ w S L gs n z bo gF l s io gZ ids lo iK told W':=by
 obtain⟨⟨b,c,d⟩,f⟩:=h;exact⟨⟨b,c.d (qH (ut.a _ _) (B6.a _ _ _)) a,d⟩,f.a (al.d (S:=fun _=>False) a) (fun _ e _=>e.elim)⟩
theorem gJ.jD (h:gJ w S L gs n z bo gF l s io gZ ids lo iK told W):W.heap[L]? = M (oH gs io ids.length gZ lo told.length iK):=by
 obtain⟨⟨b,a,c⟩,d⟩:=h;exact(a .row).1
theorem gJ.d (h:gJ w S L gs n z bo gF l s io gZ ids lo iK told W):W.heap[n]? = M z:=by
 obtain⟨⟨b,a,c⟩,d⟩:=h;exact(a .box).1
theorem gJ.q (h:gJ w S L gs n z bo gF l s io gZ ids lo iK told W):ay W bo gF l:=by
 obtain⟨⟨b,a,c⟩,d⟩:=h;exact dO.b (a .out)
theorem gJ.E (h:gJ w S L gs n z bo gF l s io gZ ids lo iK told W):aG W 0 3 1 io gZ ids.length (eE ids):=by
 obtain⟨⟨b,a,c⟩,d⟩:=h;exact(a .ids).1
theorem gJ.f (h:gJ w S L gs n z bo gF l s io gZ ids lo iK told W):fG W (aB S w) L gs s ids told∧al S w W:=by
 obtain⟨⟨a,b,c⟩,d⟩:=h;exact⟨⟨a,io,gZ,lo,iK,TO b,c⟩,d⟩
theorem gJ.e (h:gJ w S L gs n z bo gF l s io gZ ids lo iK told W):∃Sh:Nat->Prop,aY W Sh gs s∧(∀{a:av} {w':X},aY w' (aB Sh W) gs a->al Sh W w'->gJ w S L gs n z bo gF l a io gZ ids lo iK told w'):=by
 obtain⟨⟨g,b,c⟩,d⟩:=h;refine⟨fun k=>g k=.jl,b .jl,fun i f=>⟨⟨_,AW (ut.a _ _) (B6.a _ _ _) b i f,qK c d.b⟩,d.a f (fun k e j=>?_)⟩⟩;rcases c k (by rw[e];intro h;cases h) with h | h
 . exact h
 . omega
theorem gJ.r (h:gJ w S L gs n z bo gF l s io gZ ids lo iK told W)(ok:aN s)(a:Int)(m:ag)(c:m.size<=1000000):
 Calls prog 168 #[Q (M ⟨gs,0,U⟩),I J a,V m] W fun e w'=>e=Y (.tuple #[I J (nG s (cx s a m).2),I J ((cx s a m).2:Int)])∧gJ w S L gs n z bo gF l (cx s a m).1 io gZ ids lo iK told w':=by
 obtain⟨Sh,d,f⟩:=h.e;exact(CO d ok a m c).mono (fun e w' b=>⟨b.b,f b.a b.c⟩)
theorem gJ.j (h:gJ w S L gs n z bo gF l s io gZ ids lo iK told W)(ok:aN s)(id a:Int){b:Nat}(d:l.length=b)(f:b<=1000000):
 Calls prog 176 #[Q (M ⟨gs,0,U⟩),I J id,I J a,Z bo b gF] W fun e w'=>e=Y (I J ((cL s id a l).2:Int))∧gJ w S L gs n z bo gF l (cL s id a l).1 io gZ ids lo iK told w':=by
 obtain⟨Sh,g,i⟩:=h.e;exact(yQ g ok id a bo b gF l h.q d f).mono (fun e w' c=>⟨c.f,i c.c c.b⟩)
theorem gJ.y (h:gJ w S L gs n z bo gF l s io gZ ids lo iK told W)(ok:aN s)(id:Int):
 Calls prog 178 #[Q (M ⟨gs,0,U⟩),I J id] W fun e w'=>e=Y (I J ((gn s id).2:Int))∧gJ w S L gs n z bo gF l (gn s id).1 io gZ ids lo iK told w':=by
 obtain⟨Sh,b,c⟩:=h.e;exact(CF b ok id).mono (fun e w' a=>⟨a.f,c a.c a.b⟩)
theorem gJ.B (h:gJ w S L gs n z bo gF l s io gZ ids lo iK told W){b:ai}{c:Nat}{i:Int}(u:aG W' 0 3 1 b c (ids.length+1) (eE ids++[I J i]))(d:W.grownBy W' (au io))(f:∀j,au b=M j->au io=M j∨W.heap.size<=j):
 (W'.heap[L]? = M (oH gs io ids.length gZ lo told.length iK))∧gJ w S L gs n z bo gF l s b c (ids++[i]) lo iK told (W'.setCell ⟨L,1,U⟩ (Z b (ids.length+1) c)):=by
 obtain⟨⟨v,g,m⟩,o⟩:=h;have q:=Uv (ut.a _ _) (B6.a _ _ _) g (NC:=ids++[i]) (by rw[aF];simpa[eE] using u) d f;have x:=d.size;have r:=(q .row).1;have t:al (fun k=>k=L) W' (W'.setCell ⟨L,1,U⟩ (Z b (ids.length+1) c)):=al.f _ _ _ _ rfl;have y:=Ip (ut.a _ _) (B6.a _ _ _) q (o':=oH gs b (ids.length+1) c lo told.length iK) (aQ W' L 1 _ _ _ r) t;have B:=(g .row).2;refine⟨r,⟨⟨cA (cA v W.heap.size .ids) W'.heap.size .row,?_,qK (qK m o.b) (ce o.b x)⟩,(o.a (al.q (S:=fun k=>au io=M k) d (fun k e=>e)) (fun k e p=>?_)).a t (fun k e p=>?_)⟩⟩
 . rw[aF];exact y
 . cases io with
   | none=>cases e
   | some a =>
     injection e with e;rw[<-e];rw[<-e] at p;rcases m a.block (by rw[(g .ids).2 a rfl];intro h;cases h) with h | h
     . exact h
     . omega
 . rw[e];rw[e] at p;rcases m L (by rw[B];intro h;cases h) with h | h
   . exact h
   . omega
theorem gJ.G (h:gJ w S L gs n z bo gF l s io gZ ids lo iK told W):∃f:Nat->Prop,nX lo iK told W f∧∀(a:ai) (c m:Nat) (d:ae) (W':X),told.length+d.length=m->nX a c (told++d) W' (aB f W)->al f W W' ->
 (W'.heap[L]? = M (oH gs io ids.length gZ lo told.length iK))∧gJ w S L gs n z bo gF l s io gZ ids a c (told++d) (W'.setCell ⟨L,2,U⟩ (Z a m c)):=by
 obtain⟨⟨o,g,i⟩,j⟩:=h;refine⟨fun k=>o k=.list,g .list,fun a c m d W' u v b=>?_⟩;have p:=TL (ut.a _ _) (B6.a _ _ _) g v b;have x:=b.b;have q:=(p .row).1;have r:al (fun k=>k=L) W' (W'.setCell ⟨L,2,U⟩ (Z a m c)):=al.f _ _ _ _ rfl;have y:=Ip (ut.a _ _) (B6.a _ _ _) p (o':=oH gs io ids.length gZ a m c) (aQ W' L 2 _ _ _ q) r;have B:=(g .row).2;refine⟨q,⟨⟨cA (cA o W.heap.size .list) W'.heap.size .row,?_,qK (qK i j.b) (ce j.b x)⟩,(j.a b (fun k e t=>?_)).a r (fun k e t=>?_)⟩⟩
 . rw[aF,u];exact y
 . rcases i k (by rw[e];intro h;cases h) with h | h
   . exact h
   . omega
 . rw[e];rw[e] at t;rcases i L (by rw[B];intro h;cases h) with h | h
   . exact h
   . omega
end
section
variable {w w0:X} {S D:Nat->Prop} {L gs:Nat}
theorem SS (p:ka w0 w S)(r:jH)(h:fG w S L gs r.s r.a r.c)(ok:aN r.s)(q:bW){bo:ai}{gF nb:Nat}(hB:dO w D bo gF q.a)(hD:∀k,D k->¬S k)(hn:q.a.length=nb)(hnb:nb<=1000000)(hf:q.b.size<=900000)(hi:r.a.length<=1000)(ht:r.c.length<=1000000):
 Calls prog 243 #[Q (M ⟨L,0,U⟩),.agg #[V q.c,V q.b,V q.d,Z bo nb gF]] w fun e w'=>e=Y (I J ((fx r q).b:Int))∧fG w' (aB S w) L gs (fx r q).s (fx r q).a (fx r q).c∧al S w w':=by
 obtain⟨κ,y,z,B,C,hH,hS⟩:=h;have G1:=gJ.jK hH hS hB hD (K #[V q.c,V q.b,V q.d,Z bo nb gF] 96 (0,0));have i:∀{s:av} {y:ai} {z:Nat} {ids:List Int} {B:ai} {C:Nat} {l:ae} {W:X},gJ w S L gs w.heap.size (K #[V q.c,V q.b,V q.d,Z bo nb gF] 96 (0,0)) bo gF q.a s y z ids B C l W->((W.cell? ⟨L,0,U⟩=M (Q (M ⟨gs,0,U⟩))∧W.cell? ⟨L,1,U⟩=M (Z y ids.length z)∧W.cell? ⟨L,2,U⟩=M (Z B l.length C))∧(W.frozen? ⟨L,0,U⟩=F∧W.frozen? ⟨L,1,U⟩=F∧W.frozen? ⟨L,2,U⟩=F))∧(W.cell? ⟨w.heap.size,1,U⟩=M (V q.b)∧W.cell? ⟨w.heap.size,3,U⟩=M (Z bo nb gF)):=fun a=>⟨wk a.jD,am _ _ 1 _ _ _ a.d,am _ _ 3 _ _ _ a.d⟩;obtain⟨⟨⟨G,c1,c2⟩,f0,f1,f2⟩,b1,b3⟩:=i G1;have hmz:(dB q).size=9+q.b.size:=by
  show(sK++q.b.data.toList).toArray.size=_;rw[cN,aF,cy];rfl
 have hme:(⟨#[102,105,108,101,110,97,109,101,32]⟩:ag)++q.b=dB q:=by
  apply ByteArray.ext;rw[ByteArray.data_append];show _=(sK++q.b.data.toList).toArray;rw[<-wD];simp[sK]
 have Q5:=aa ((G1.a (bA _ _)).r ok (nb:Int) (dB q) (by omega));obtain⟨H,hR⟩:∃H,H=fx r q:=⟨_,rfl⟩;rw[<-hR];unfold fx at hR;rw[hn] at hR;have b:=aa hR;have N:=aa (ok.e (nb:Int) (dB q));have TJ:Hid ((cx r.s (nb:Int) (dB q)).2≠0->(cx r.s (nb:Int) (dB q)).1=r.s):=fun e=>KX e;have hl0:=ok.h.c;have hl1:=ok.j
 have hzz:¬(9223372036854775807<9+q.b.size):=by omega
 rw[<-hme] at Q5 b N TJ;generalize hcr:cx r.s (nb:Int) (⟨#[102,105,108,101,110,97,109,101,32]⟩++q.b)=cr at *;obtain⟨s1,k1⟩:=cr;simp only at b Q5 N TJ;go_enter func243,ntmps243;go_upto_region 1 with fail
 go_cut [5,6] (fun v5 v6 x=>v5=I J (nG r.s k1)∧v6=I J (k1:Int)∧gJ w S L gs w.heap.size (K #[V q.c,V q.b,V q.d,Z bo nb gF] 96 (0,0)) bo gF q.a s1 y z r.a B C r.c x)
 case first =>
  go_region_held3 (fun W=>W.cell? ⟨L,0,U⟩=M (Q (M ⟨gs,0,U⟩))∧W.cell? ⟨w.heap.size,1,U⟩=M (V q.b)∧W.cell? ⟨w.heap.size,3,U⟩=M (Z bo nb gF)) (go_keep) ((go_at_call 168;refine Q5.o.mono ?_;rintro e w1 ⟨rfl,a⟩;have T:=aa a;obtain⟨⟨⟨d0,d1,d2⟩,e0,e1,e2⟩,d3,d4⟩:=i a;clear a))
  all_goals
   go_wp2;go_meet;exact⟨rfl,rfl,T.o⟩
 case rest =>
  obtain⟨rfl,rfl,a⟩:=hcut;obtain⟨⟨⟨G,c1,c2⟩,f0,f1,f2⟩,b1,b3⟩:=i a;have T:=aa a;by_cases m:k1=0
  . subst m;obtain⟨c,t⟩:∃c,c=r.s.h.a+1:=⟨_,rfl⟩;have VA:nG r.s 0=c:=by rw[t];exact if_pos rfl
    rw[VA];rw[<-t,if_neg (by simp)] at b;have Qn:=(a.a (bA _ _)).j N.o c 0 hn hnb;have KI:=N.o.a c 0 q.a;have aqG:0<=c:=by omega
    have aqH:c<=100001:=by omega
    clear a VA t TJ hl0 hl1;obtain⟨n,rfl⟩:∃n:Nat,c=n:=⟨c.toNat,by omega⟩;generalize cL s1 (n:Int) 0 q.a=ap at *;obtain⟨s2,k2⟩:=ap;simp only at b Qn KI;go_upto_region 4 with fail
    go_cut [6] (fun v6 x=>v6=I J (k2:Int)∧gJ w S L gs w.heap.size (K #[V q.c,V q.b,V q.d,Z bo nb gF] 96 (0,0)) bo gF q.a s2 y z r.a B C r.c x)
    case first =>
     go_region_held3 (fun W=>W.cell? ⟨L,0,U⟩=M (Q (M ⟨gs,0,U⟩))∧W.cell? ⟨w.heap.size,3,U⟩=M (Z bo nb gF)) (go_keep) ((go_at_call 176;refine Qn.mono ?_;rintro e w1 ⟨rfl,a⟩;have HG2:=aa a;obtain⟨⟨⟨d0,d1,d2⟩,e0,e1,e2⟩,d3,d4⟩:=i a;clear a))
     all_goals
      go_wp2;go_meet;exact⟨rfl,HG2.o⟩
    case rest =>
     obtain⟨rfl,a⟩:=hcut;clear Qn G c1 c2 f0 f1 f2 b1 b3 T N;obtain⟨⟨⟨G,c1,c2⟩,f0,f1,f2⟩,b1,b3⟩:=i a;by_cases hk2:k2=0
     . subst hk2;rw[if_neg (by simp)] at b;obtain⟨i0,hi0,hz0,hz1,hz2⟩:=info_parts wT;have Hi:=hi0;have kT:=aa hz0;have kL:=aa hz1;have kU:=aa hz2
       obtain⟨j0,hj0,hy0,hy1,hy2⟩:=info_parts il;have Hj:=hj0;have Jj:=aa hy0;have Jk:=aa hy1;have Jl:=aa hy2
       have f:=a.a ((aq _ wc).alloc (ak _) (K #[I J (n:Int)] 3));have HOi:=f.E;have a0:=i f;go_upto_region 9 with (at_builtin;refine fE rfl (.tmp 45) (.tmp 47) 55 rfl 0 3 i0 (I J 0) 1 8 underlying55 Hi kT.o kL.o kU.o rfl (by decide) rfl HOi rfl (bx.d _ _ 1 _ _) rfl (fun u hu=>by simp at hu;rw[hu];rfl) (by omega) (by omega) (ax _) ?_;intro xM kI w3 hO3 g kr;obtain⟨hr3,hg3⟩:=f.B hO3 g (fun j e=>by rcases kr with h | h;exact A (h▸e);exact R (by rw[h] at e;injection e with e;omega));have Av:=aa hg3;obtain⟨⟨h30,h31,h32⟩,y30,y31,y32⟩:=wk hr3;clear hO3 g kr hr3 hg3)
       clear a0 h30 h31 h32 y30 y31 y32 G c1 c2 f0 f1 f2 b1 b3  f HOi;generalize w3.setCell ⟨L,1,U⟩ (Z xM (r.a.length+1) kI)=w4 at *;have Wm:=Av.o.a (bA _ _);have hpw:=p.c.a (p.a.trans (Wm.b.below (fun k e=>p.b k e) p.a.size));have HIt:=aa (qE n (by omega) w4.drew hpw);have G:=i Av.o;obtain⟨d,hd⟩:∃d:ag,d=⟨(ba 8 n).toArray⟩:=⟨_,rfl⟩;have hdz:d.size<=9:=by
        rw[hd];show(ba 8 n).toArray.size<=9;rw[cN];exact(jq 8 n).1
       have hz1:¬(9223372036854775807<d.size+1):=by omega
       have hz2:¬(9223372036854775807<d.size+1+q.b.size):=by omega
       have hz3:¬(9223372036854775807<d.size+1+q.b.size+1):=by omega
       rw[<-hd] at HIt;have HTl:Hid ((d++⟨#[32]⟩++q.b++⟨#[10]⟩:ag).data.toList=ny (n:Int) q.b):=by
        unfold Hid ny;rw[hd];simp
       have Lh:Hid ((d++⟨#[32]⟩++q.b++⟨#[10]⟩:ag).size=d.size+1+q.b.size+1):=by
        unfold Hid;rw[mj,mj,mj];rfl
       have HTs:(ny (n:Int) q.b).length=d.size+1+q.b.size+1:=by rw[<-HTl.o,ep];exact Lh.o
       clear hpw hd Av;go_cut [] (fun x=>fG x (aB S w) L gs s2 (r.a++[(n:Int)]) (r.c++ny (n:Int) q.b)∧al S w x)
       case first =>
        go_region_law (first
         | (go_simp;go_at_call 149;refine HIt.o.mono ?_;rintro e w5 ⟨rfl,hb5⟩;have HG5:=aa (Wm.a hb5);obtain⟨⟨⟨d0,d1,d2⟩,e0,e1,e2⟩,d3,d4⟩:=i HG5.o;clear hb5)
         | (obtain⟨Sl,hSl,hsl⟩:=HG5.o.G;have HSl:=aa hSl;have Hsl:=aa hsl;clear hSl hsl;refine JA (by rfl) (.tmp 55) (.tmp 62) 31 9 (by rfl) 5 j0 underlying31 underlying9 Hj Jj.o Jk.o Jl.o (by rfl) rfl HSl.o (d++⟨#[32]⟩++q.b++⟨#[10]⟩) (d.size+1+q.b.size+1) Lh.o (by omega) (by rfl) (by omega) ?_;intro lo' wm w6 vZ yX;rw[HTl.o] at vZ;obtain⟨yL,v⟩:=Hsl.o lo' wm (r.c.length+(d.size+1+q.b.size+1)) (ny (n:Int) q.b) w6 (by rw[HTs]) vZ yX;have HG6:=aa v;obtain⟨⟨h60,h61,h62⟩,y60,y61,y62⟩:=wk yL;have hx6:=am _ _ 1 _ _ _ v.d;have HX6:=aa hx6;clear vZ yX yL v;(try simp only[Act.put,List.setIfInBounds_toArray,qt,List.set_cons_succ])))
        all_goals
         go_wp2;go_meet;exact HG6.o.f
       case rest =>
        go_wp2;go_ret;rw[b.o];exact⟨rfl,hcut⟩
     . have t2:((k2:Int) != 0)=true:=by rw[cW];omega
       rw[if_pos hk2] at b;go_wp2_with fail;refine(a.y KI (n:Int)).mono ?_;rintro e w3 ⟨rfl,g⟩;go_wp2;go_ret;rw[b.o];exact⟨rfl,g.f⟩
  . have t1:((k1:Int) != 0)=true:=by rw[cW];omega
    rw[if_pos m] at b;rw[TJ.o m] at T;clear a;go_wp2;go_ret;rw[b.o];exact⟨rfl,T.o.f⟩
end
def sN (w:X)(D:Nat->Prop)(ao:ai)(cap:Nat)(ps:List bW):Prop:=∃qs:List (bW×mO),qs.map (·.1)=ps∧jz w D ao cap ps.length (iO qs)∧∀q∈qs,dO w D q.2.a q.2.b q.1.a
section
variable {w w':X} {S D D':Nat->Prop} {ao:ai} {cap:Nat} {ps:List bW}
theorem sN.d (h:sN w D ao cap ps)(a:al S w w')(b:∀k,D k->¬S k):sN w' D ao cap ps:=by
 obtain⟨c,d,e,f⟩:=h;exact⟨c,d,e.d a b,fun q g=>(f q g).d a b⟩
theorem sN.a (h:sN w D ao cap ps):uK w ao cap ps:=by
 obtain⟨a,b,c,d⟩:=h;exact⟨a,b,c.b,fun q e=>(d q e).b⟩
theorem sN.e (h:sN w D ao cap ps)(k:Nat)(f:k<ps.length):∃(b o:Nat) (s:mO),ao=M ⟨b,o,U⟩∧w.cell? ⟨b,o+k*4,U⟩=M (V ps[k].c)∧w.cell? ⟨b,o+k*4+1,U⟩=M (V ps[k].b)∧w.cell? ⟨b,o+k*4+2,U⟩=M (V ps[k].d)∧w.cell? ⟨b,o+k*4+3,U⟩=M (Z s.a ps[k].a.length s.b)∧dO w D s.a s.b ps[k].a:=by
 obtain⟨c,rfl,g,i⟩:=h;have a:k<c.length:=by simpa using f
 obtain⟨b,o,rfl,d⟩:=g.b.e (by rw[wL];omega);have j:=i _ (dG a);have e:=oN c k a 0 (by decide);have l:=oN c k a 1 (by decide);have m:=oN c k a 2 (by decide);have n:=oN c k a 3 (by decide);refine⟨b,o,c[k].2,rfl,?_,?_,?_,?_,?_⟩
 . rw[dH];exact d _ _ (by rw[lC] at e;exact e)
 . rw[dH,fC];exact d _ _ l
 . rw[dH,fC];exact d _ _ m
 . rw[dH,fC];exact d _ _ n
 . rw[dH];exact j
theorem nU.e {b:X}{n:Nat}(h:nU b D ps ao cap n w')(f:∀k,b.heap.size<=k->D k):sN w' (fun k=>D k∧k<w'.heap.size) ao cap ps:=by
 obtain⟨g,i,c,j⟩:=h.b;refine⟨g,i,⟨by rw[<-h.a];exact c.a,fun _ a e=>⟨f _ (c.d a e).1,(c.d a e).2⟩⟩,fun q l=>?_⟩;refine((j q l).a (S':=fun k=>D k∧k<b.heap.size) (fun k d e=>⟨e,d⟩)).d (al.d (S:=fun _=>False) h.below) (fun _ _ e=>e) |>.a (fun k d e=>⟨e.1,d⟩)
end
section
variable {w w0 W W':X} {S S' D:Nat->Prop} {L gs:Nat} {s:av} {io:ai} {gZ:Nat} {ids:List Int} {told:ae}
theorem fG.a (h:fG w S L gs s ids told)(c:∀k,k<w.heap.size->S k->S' k):fG w S' L gs s ids told:=by
 obtain⟨f,io,gZ,g,i,j,l⟩:=h;refine⟨cA f w.heap.size .out,io,gZ,g,i,fun d=>?_,fun k a=>?_⟩
 . by_cases m:d=.out
   . subst m;exact trivial
   . exact(qH bQ.a bQ.a d).c (j d) (fun k a e=>(fF a).trans e)
 . rcases fe k w.heap.size with b | b
   . rw[fF b] at a;exact c k b (l k a)
   . exact absurd (qz b) a
theorem ka.d (p:ka w0 w S)(a:al S w W):ka w0 W (aB S w):=⟨p.c,p.a.trans (a.below (fun k e=>p.b k e) p.a.size),fun k e=>by
 rcases e with e | e
 . exact p.b k e
 . exact ce p.a.size e⟩
theorem N9 (p:ka w0 w S)(r:jH)(h:fG w S L gs r.s r.a r.c)(g:uY r)(h0:r.b=0)(a:List bW){ao:ai}{cap n:Nat}(hP:sN w D ao cap a)(hD:∀k,D k->¬S k∧k<w.heap.size)(hn:a.length=n)(hN:n<=1000000)(hz:∀q∈a,q.a.length<=1000000∧q.b.size<=900000):
 Calls prog 193 #[Q (M ⟨L,0,U⟩),Z ao n cap] w fun e w'=>e=Y (I J ((gg r a).b:Int))∧fG w' (aB S w) L gs (gg r a).s (gg r a).a (gg r a).c∧al S w w':=by
 subst hn;obtain⟨d,j⟩:∃d,d=gg r a:=⟨_,rfl⟩;rw[<-j];have HP:=p;have XO:=aa hP;have l:=aa hD;have HZ:=aa hz
 have hcap:=hP.a.choose_spec.2.1.1;have sH:∃c:jH,d=gg c (a.drop 0)∧c.b=0∧uY c∧fG w (aB S w) L gs c.s c.a c.c∧al S w w:=⟨r,j,h0,g,h.a (fun k _ e=>A e),al.r _ _⟩;go_enter func193,ntmps193;go_wp2;go_loopw [10] (fun vi wr=>∃i:Nat,i<=a.length∧vi=I J i∧∃c:jH,d=gg c (a.drop i)∧c.b=0∧uY c∧fG wr (aB S w) L gs c.s c.a c.c∧al S w wr) (fun vi _=>a.length-(intOf vi).toNat)
 case atStart=>exact⟨0,ax _,rfl,sH⟩
 case round =>
  obtain⟨i,hi,rfl,c,j,G,f,hL,hT⟩:=hrel;by_cases m:i<a.length
  . have hlt':(i:Int)<a.length:=by omega
    have hPr:=XO.o.d hT (fun k e=>(l.o k e).1);obtain⟨b,o,sl,rfl,c0,c1,c2,c3,hIB⟩:=hPr.e i m;have hq:=HZ.o a[i] (dG m);rw[gS m] at j;obtain⟨nb,t⟩:∃nb,a[i].a.length=nb:=⟨_,rfl⟩;rw[t] at c3;have hnl:nb<=1000000:=by rw[<-t];exact hq.1
    have jm:=(aq _ wr).alloc (ak _) (K #[V a[i].c,V a[i].b,V a[i].d,Z sl.a nb sl.b] 96);have y:=hT.a (al.d (S:=fun _=>False) jm) (fun _ e _=>e.elim);have z:=hL.r jm;have hIA:=hIB.d (al.d (S:=fun _=>False) jm) (fun _ _ e=>e);generalize a[i]=q at *;obtain⟨H,htf⟩:∃H,(q.b.toList==([]:ae))=H:=⟨_,rfl⟩;have eF:q.b.size=0<->H=true:=by
     rw[<-htf,cM,Lib.toList_data,<-List.length_eq_zero_iff,cy];rfl
    have N:=j;have HC:=aa G;have vX:=aa f;have HLA:=aa z;have u:=aa y
    cases H with
    | true =>
      have x:d=gg c (a.drop (i+1)):=by rw[N];unfold gg;rw[if_pos (eF.2 rfl)];cases a.drop (i+1) <;> rfl
      go_wp2;go_roundw
      case rel=>exact⟨i+1,by omega,by go_num,c,x,HC.o,vX.o,HLA.o,u.o⟩
      case measure=>simp[intOf];omega
    | false =>
      have hfn:¬q.b.size=0:=fun e=>by have:=eF.1 e;cases this
      have nN:c.a.length<=12:=by
       rcases f.c with h | h
       . have:=f.b.h.b;omega
       . exact absurd G h
      have htd:c.c.length<=1000000:=by have:=f.a;omega
      have HAd:=aa (SS (HP.d y) c z f.b q hIA (fun k e T=>by
       rcases T with T | T
       . exact(l.o k e).1 T
       . have:=(l.o k e).2;omega) t hnl hq.2 (by omega) htd)
      have KI:=K4 f G q;have x:d=if (fx c q).b≠0 then fx c q else gg (fx c q) (a.drop (i+1)):=by rw[N];conv=>lhs;unfold gg;rw[if_neg hfn]
      generalize fx c q=v at *;go_wp2_with fail;refine HAd.o.mono ?_;rintro e w5 ⟨rfl,hL5,xI⟩;have yX:al S w w5:=u.o.a xI (fun k e g=>by
       rcases e with e | e
       . exact e
       . omega)
      have hL6:fG w5 (aB S w) L gs v.s v.a v.c:=hL5.a (fun k _ e=>by
       rcases e with e | e
       . exact e
       . exact R (ce u.o.b e))
      have B:=yX;have C:=aa hL6
      by_cases g:v.b=0
      . have tk:((v.b:Int) != 0)=F:=by rw[g];rfl
        rw[if_neg (by rw[g];simp)] at x;go_wp2;go_roundw
        case rel=>exact⟨i+1,by omega,by go_num,v,x,g,KI,C.o,B⟩
        case measure=>simp[intOf];omega
      . have tk:((v.b:Int) != 0)=true:=by rw[cW];omega
        rw[if_pos g] at x;go_wp2;go_ret;rw[x];exact⟨rfl,C.o,B⟩
  . obtain rfl:i=a.length:=by omega
    rw[List.drop_length] at j;have hR2:d=c:=j;have N:=hR2;have HC:=aa G;have HL:=aa hL;have HT:=aa hT
    go_wp2;go_ret;rw[N,HC.o];exact⟨rfl,HL.o,HT.o⟩
structure sO (w:X)(S:Nat->Prop)(L gs:Nat)(s:av)(io:ai)(gZ:Nat)(ids:List Int)(told:ae)(W:X):Prop where
 b:∃κ lo iK,fm (gA L gs s (oH gs io ids.length gZ lo told.length iK) io gZ ids lo iK told fi fi) κ W∧∀k,κ k≠.out->aB S w k
 c:al S w W
theorem fG.f (h:fG w S L gs s ids told):∃io gZ,sO w S L gs s io gZ ids told w:=by
 obtain⟨a,io,gZ,b,c,d,f⟩:=h;exact⟨io,gZ,⟨a,b,c,d,fun k e=>A (f k e)⟩,al.r _ _⟩
theorem sO.d (h:sO w S L gs s io gZ ids told W):fG W (aB S w) L gs s ids told∧al S w W:=by
 obtain⟨⟨a,b,c,d,e⟩,f⟩:=h;exact⟨⟨a,io,gZ,b,c,d,e⟩,f⟩
theorem sO.a (h:sO w S L gs s io gZ ids told W):W.cell? ⟨L,0,U⟩=M (Q (M ⟨gs,0,U⟩))∧W.cell? ⟨L,1,U⟩=M (Z io ids.length gZ)∧bx W io gZ ids.length (eE ids):=by
 obtain⟨⟨b,c,d,a,e⟩,f⟩:=h;exact⟨am _ _ 0 _ _ _ (a .row).1,am _ _ 1 _ _ _ (a .row).1,(a .ids).1.a⟩
theorem sO.e (h:sO w S L gs s io gZ ids told W)(ok:aN s)(id:Int):
 Calls prog 178 #[Q (M ⟨gs,0,U⟩),I J id] W fun e w'=>e=Y (I J ((gn s id).2:Int))∧sO w S L gs (gn s id).1 io gZ ids told w':=by
 obtain⟨⟨i,f,g,b,c⟩,d⟩:=h;refine(CF (b .jl) ok id).mono (fun e w' a=>⟨a.f,⟨⟨_,f,g,AW bQ.a bQ.a b a.c a.b,qK c d.b⟩,d.a a.b (fun k e j=>?_)⟩⟩);rcases c k (by rw[e];intro h;cases h) with h | h
 . exact h
 . omega
theorem Mi (s:av)(ids:List Int)(k:Nat)(a:k<ids.length):mD s (ids.take (k+1))=(gn (mD s (ids.take k)) ids[k]).1:=by
 unfold mD;rw[go a,rF];rfl
theorem MY (h:fG w S L gs s ids told)(ok:aN s)(v:ids.length<=1000000):
 Calls prog 194 #[Q (M ⟨L,0,U⟩)] w fun e w'=>e=Y (.tuple #[])∧fG w' (aB S w) L gs (mD s ids) ids told∧al S w w':=by
 obtain⟨io,gZ,j⟩:=h.f;obtain⟨n,p,d⟩:=j.a;have q:=j;have r:=aa ok
 have k:=d.1;go_enter func194,ntmps194;go_wp2;go_loopw [9] (fun f wr=>∃i:Nat,i<=ids.length∧f=I J i∧sO w S L gs (mD s (ids.take i)) io gZ ids told wr) (fun f _=>ids.length-(intOf f).toNat)
 case atStart=>exact⟨0,ax _,rfl,q⟩
 case round =>
  obtain⟨i,y,rfl,g⟩:=hrel;obtain⟨n,p,d⟩:=g.a;by_cases a:i<ids.length
  . have l:(i:Int)<ids.length:=by omega
    obtain⟨b,o,rfl,t⟩:=d.e (by simp[eE];omega);have z:=t i (I J ids[i]) (by unfold eE;rw[List.getElem?_map,gU a];rfl);have c:=g.e (xG (ids.take i) r.o) ids[i];rw[<-Mi s ids i a] at c;generalize ids[i]=x at *;go_wp2_with fail;refine c.mono ?_;rintro e B ⟨rfl,u⟩;go_wp2;go_roundw
    case rel=>exact⟨i+1,by omega,by go_num,u⟩
    case measure=>simp[intOf];omega
  . obtain rfl:i=ids.length:=by omega
    have m:=g.d;rw[fD] at m;go_wp2;go_end0
    exact⟨rfl,m⟩
theorem Sd (h:fG w S L gs s ids told):
 Calls prog 195 #[Q (M ⟨L,0,U⟩),I J 0] w fun e w'=>(∃bo gF,e=Y (.agg #[I J 201,Z U 0 0,Z bo told.length gF])∧ay w' bo gF told∧∀a,bo=M a->S a.block)∧Below w.heap.size w w':=by
 obtain⟨o,io,gZ,b,d,c,j⟩:=h;obtain⟨⟨p,q,r⟩,_⟩:=wk (c .row).1;have k:=nX.e (c .list);have l:∀a,b=M a->S a.block:=fun a e=>by
  rcases c .list with ⟨f,_⟩ | ⟨g,f,_,m⟩
  . rw[f] at e;cases e
  . rw[f] at e;injection e with e;subst e;exact j g (by rw[m];intro h;cases h)
 have n:=(bH.1 (c .row).1).1;go_enter func195,ntmps195;go_wp2;have i:Below w.heap.size w (w.alloc (K #[I J 201,Z U 0 0,Z b told.length d] 106)):=(aq _ _).alloc (ak _) _;refine aR (v:=.agg #[I J 201,Z U 0 0,Z b told.length d]) (by simp[results,results195,go_sem]) rfl ⟨⟨b,d,rfl,k.a i,l⟩,i⟩
theorem Se (c:Nat)(z:c≠0):
 Calls prog 195 #[Q (M ⟨L,0,U⟩),I J (c:Int)] w fun e w'=>e=Y (.agg #[I J (og c:Int),Z U 0 0,Z U 0 0])∧Below w.heap.size w w':=by
 have B:=aO.2 (by omega);by_cases h:c=4
 . subst h;go_enter func195,ntmps195;go_wp2_with fail;refine((fun W=>qB 413 W) _).mono ?_;rintro e d ⟨rfl,a⟩;obtain⟨⟨m,n,p,q,r,u⟩,f⟩:=rZ ((a.block w.heap.size (by simp)).trans (bw w _)) (I J 413) (Z U 0 0) (Z U 0 0);have b:=ar ((aq _ w).alloc (ak _) _) a;go_wp2;generalize (((d.setCell ⟨w.heap.size,0,U⟩ _).setCell ⟨w.heap.size,1,U⟩ _).setCell ⟨w.heap.size,2,U⟩ _)=x at *;obtain⟨g,i,j,l⟩:=f.o;refine aR (v:=.agg #[I J 413,Z U 0 0,Z U 0 0]) (by simp[results,results195,go_sem,g,i,j]) rfl ⟨rfl,b.trans (l.below (fun k e=>by omega) b.size)⟩
 . have t:((c:Int)==4)=F:=aO.2 (by omega);have y:og c=507:=by unfold og;rw[if_neg h]
   rw[y];go_enter func195,ntmps195;go_wp2_with fail;refine((fun W=>qB 507 W) _).mono ?_;rintro e d ⟨rfl,a⟩;obtain⟨⟨m,n,p,q,r,u⟩,f⟩:=rZ ((a.block w.heap.size (by simp)).trans (bw w _)) (I J 507) (Z U 0 0) (Z U 0 0);have b:=ar ((aq _ w).alloc (ak _) _) a;go_wp2;generalize (((d.setCell ⟨w.heap.size,0,U⟩ _).setCell ⟨w.heap.size,1,U⟩ _).setCell ⟨w.heap.size,2,U⟩ _)=x at *;obtain⟨g,i,j,l⟩:=f.o;refine aR (v:=.agg #[I J 507,Z U 0 0,Z U 0 0]) (by simp[results,results195,go_sem,g,i,j]) rfl ⟨rfl,b.trans (l.below (fun k e=>by omega) b.size)⟩
end
structure yj (S:Nat->Prop)(w:X)(gs:Nat)(r:av×nA)(e:Ending)(w':X):Prop where
 c:∃(fo:ai) (gG nf:Nat) (bo:ai) (gF nb:Nat),e=Y (.agg #[I J (r.2.1:Int),Z fo nf gG,Z bo nb gF])∧r.2.2.1.length=nf∧bx w' fo gG nf (aI r.2.2.1)∧r.2.2.2.length=nb∧ay w' bo gF r.2.2.2∧(∀a,fo=M a->aB S w a.block)∧∀a,bo=M a->aB S w a.block
 b:aY w' (aB S w) gs r.1
 d:al S w w'
section
variable {w w0 W W':X} {S S' D:Nat->Prop} {g gs b:Nat} {s:av}
structure qR (S:Nat->Prop)(w:X)(gs:Nat)(s:av)(b:Nat)(o:Obj)(W:X):Prop where
 c:W.heap[b]? = M o
 f:w.heap.size<=b
 g:aY W (fun k=>aB S w k∧k≠b) gs s
 e:al S w W
theorem qR.d {j x1 x2:Value}(h:qR S w gs s b (K #[j,x1,x2] 106 (0,0)) W){st:Nat}{mY:Int}(i:(st:Int)=mY){l:aC}{body:ae}{fo bo:ai}{gG nf gF nb:Nat}(m:l.length=nf)(n:bx W fo gG nf (aI l))(c:∀a,fo=M a->aB S w a.block∧a.block≠b)(o:body.length=nb)(p:ay W bo gF body)(d:∀a,bo=M a->aB S w a.block∧a.block≠b):
 (W.cell? ⟨b,0,U⟩=M j∧W.cell? ⟨b,1,U⟩=M x1∧W.cell? ⟨b,2,U⟩=M x2∧W.frozen? ⟨b,0,U⟩=F∧W.frozen? ⟨b,1,U⟩=F∧W.frozen? ⟨b,2,U⟩=F) ∧
 Hid ((((W.setCell ⟨b,0,U⟩ (I J mY)).setCell ⟨b,1,U⟩ (Z fo nf gG)).setCell ⟨b,2,U⟩ (Z bo nb gF)).cell? ⟨b,0,U⟩=M (I J mY)∧(((W.setCell ⟨b,0,U⟩ (I J mY)).setCell ⟨b,1,U⟩ (Z fo nf gG)).setCell ⟨b,2,U⟩ (Z bo nb gF)).cell? ⟨b,1,U⟩=M (Z fo nf gG)∧(((W.setCell ⟨b,0,U⟩ (I J mY)).setCell ⟨b,1,U⟩ (Z fo nf gG)).setCell ⟨b,2,U⟩ (Z bo nb gF)).cell? ⟨b,2,U⟩=M (Z bo nb gF)∧yj S w gs (s,(st,l,body)) (Y (.agg #[I J mY,Z fo nf gG,Z bo nb gF])) (((W.setCell ⟨b,0,U⟩ (I J mY)).setCell ⟨b,1,U⟩ (Z fo nf gG)).setCell ⟨b,2,U⟩ (Z bo nb gF))):=by
 subst i;obtain⟨q,r⟩:=rZ h.c (I J (st:Int)) (Z fo nf gG) (Z bo nb gF);obtain⟨t,u,v,f⟩:=r.out;refine⟨q,t,u,v,⟨⟨fo,gG,nf,bo,gF,nb,rfl,m,n.q f (fun a e=>(c a e).2),o,p.e f (fun a e=>(d a e).2),fun a e=>(c a e).1,fun a e=>(d a e).1⟩,(h.g.e f (fun k e x=>e.2 x)).a (fun k _ e=>e.1),h.e.a f (fun k e y=>?_)⟩⟩;have:=h.f;omega
theorem qR.j {o:Obj}{a:av}(h:qR S w gs s b o W)(d:aY W' (aB (fun k=>aB S w k∧k≠b) W) gs a)(c:al (fun k=>aB S w k∧k≠b) W W'):qR S w gs a b o W':=by
 have i:=h.e.b;have f:=(bH.1 h.c).1;refine⟨c.j h.c (fun e=>e.2 rfl),h.f,d.a (fun k _ e=>?_),h.e.a c (fun k e j=>?_)⟩
 . rcases e with e | e
   . exact e
   . exact⟨R (by omega),by omega⟩
 . rcases e.1 with e | e
   . exact e
   . omega
theorem qR.a {o:Obj}(h:qR S w gs s b o W)(a:Below W.heap.size W W'):qR S w gs s b o W' :=
 ⟨(a.block b (bH.1 h.c).1).trans h.c,h.f,h.g.d a,h.e.a (al.d (S:=fun _=>False) a) (fun _ e _=>e.elim)⟩
theorem qR.q (h:aY w S gs s)(z o:Obj):qR S w gs s (w.heap.size+1) o ((w.alloc z).alloc o)∧((w.alloc z).alloc o).heap[w.heap.size]? = M z:=by
 have c:=(aq _ w).alloc (ak _) z;have a:=(aq _ (w.alloc z)).alloc (ak _) o;have d:(w.alloc z).heap.size=w.heap.size+1:=ch ..;refine⟨⟨?_,by omega,?_,al.d (ar c a)⟩,?_⟩
 . have:=bw (w.alloc z) o;rw[d] at this;exact this
 . exact((h.a (S':=fun k=>aB S w k∧k≠w.heap.size+1) (fun k f e=>⟨A e,by omega⟩)).d c).d a
 . exact(a.block w.heap.size (by omega)).trans (bw w z)
theorem fG.e {L:Nat}{ids:List Int}{a:ae}(h:fG w S L gs s ids a):Calls prog 99 #[Q (M ⟨gs,0,U⟩)] w fun e w'=>e=Y (.tuple #[])∧fG w' (aB S w) L gs (ey s) ids a∧al S w w':=by
 obtain⟨p,i,j,l,m,c,d⟩:=h;exact(rM (c .jl)).mono (fun e w' ⟨n,o,f⟩=>⟨n,⟨_,i,j,l,m,AW bQ.a bQ.a c (aY.a o (fun k _ e=>A e)) f,qK (fun k e=>A (d k e)) (ak _)⟩,f.e (fun k e=>d k (by rw[e];intro h;cases h))⟩)
theorem fG.q {L:Nat}{ids:List Int}{a:ae}(h:fG w S L gs s ids a):aY w S gs s:=by
 obtain⟨f,i,j,l,m,c,d⟩:=h;exact aY.a (c .jl) (fun k _ e=>d k (by rw[e];intro h;cases h))
theorem fG.d {L:Nat}{ids:List Int}{a:ae}(h:fG w S L gs s ids a):w.cell? ⟨L,0,U⟩=M (Q (M ⟨gs,0,U⟩)):=by
 obtain⟨d,e,f,i,j,c,k⟩:=h;exact am _ _ 0 _ _ _ (c .row).1
structure vR (S:Nat->Prop)(w:X)(gs b L:Nat)(o:Obj)(B:X)(s:av)(ids:List Int)(told:ae)(W:X):Prop where
 a:fG W (aB (fun k=>(S k∧k<w.heap.size)∨k=L) B) L gs s ids told
 c:al (fun k=>(S k∧k<w.heap.size)∨k=L) B W
 e:W.heap[b]? = M o
theorem vR.d {L:Nat}{o:Obj}{B:X}{d:av}{ids NC:List Int}{c a:ae}(h:vR S w gs b L o B s ids c W)(j:w.heap.size<=b)(l:b<L)(m:L<B.heap.size)(i:fG W' (aB (aB (fun k=>(S k∧k<w.heap.size)∨k=L) B) W) L gs d NC a)(f:al (aB (fun k=>(S k∧k<w.heap.size)∨k=L) B) W W'):vR S w gs b L o B d NC a W':=by
 have n:=h.c.b;refine⟨i.a (fun k _ e=>?_),h.c.B f,f.j h.e (fun e=>?_)⟩
 . rcases e with e | e
   . exact e
   . exact R (by omega)
 . rcases e with (e | e) | e
   . have:=e.2;omega
   . omega
   . omega
theorem vR.f {L:Nat}{o:Obj}{B:X}{ids:List Int}{a:ae}(h:vR S w gs b L o B s ids a W)(c:w.heap.size<=b)(f:b<L)(i:L<B.heap.size)(d:Below w.heap.size w B):qR S w gs s b o W:=by
 have j:=h.c.b;refine⟨h.e,c,h.a.q.a (fun k _ e=>?_),(al.d d).a h.c (fun k e l=>?_)⟩
 . rcases e with (e | e) | e
   . exact⟨A e.1,by have:=e.2;omega⟩
   . exact⟨R (by omega),by omega⟩
   . exact⟨R (by omega),by omega⟩
 . rcases e with e | e
   . exact e.1
   . omega
theorem fG.j {n:Nat}(h:aY w (fun k=>S k∧k<n) gs s)(l:n<=w.heap.size):fG (w.alloc (K #[Q (M ⟨gs,0,U⟩),Z U 0 0,Z U 0 0] 249)) (fun k=>S k∧k<n∨k=w.heap.size) w.heap.size gs s [] []:=by
 have j:=(aq _ w).alloc (ak _) (K #[Q (M ⟨gs,0,U⟩),Z U 0 0,Z U 0 0] 249);classical
 refine⟨fun k=>if k=w.heap.size then .row else if S k∧k<n then .jl else .out,U,0,U,0,fun d=>?_,fun k c=>?_⟩
 . cases d with
   | row=>exact⟨bw w _,if_pos rfl⟩
   | jl=>exact aY.a (h.d j) (fun k _ e=>by
    show(if k=w.heap.size then sU.row else if S k∧k<n then .jl else .out)=.jl;rw[if_neg (by have:=e.2;omega),if_pos e])
   | ids=>exact⟨aG.f _ _ _ _,fun a e=>by cases e⟩
   | list=>exact nX.d _ _
   | box=>exact trivial
   | out=>exact trivial
 . simp only at c;by_cases f:k=w.heap.size
   . exact R f
   . rw[if_neg f] at c;by_cases i:S k∧k<n
     . exact A i
     . rw[if_neg i] at c;exact absurd rfl c
end
section
variable {w w0:X} {S:Nat->Prop} {g gs:Nat} {s:av}
theorem lE (S:Nat->Prop)(w:X)(b:Nat):∀a,(U:ai)=M a->aB S w a.block∧a.block≠b:=fun a e=>by cases e
theorem Tm (p:ka w0 w S)(h:aY w S gs s)(ok:aN s)(hg:w.cell? ⟨g,0,U⟩=M (Q (M ⟨gs,0,U⟩))){m t:ag}{mi ln:Int}{l:aC}{fo:ai}{gG nf:Nat}(hF:gz w l fo gG nf)(body:ae){bo:ai}{gF nb:Nat}(hb:body.length=nb)(hB:ay w bo gF body)(hnb:nb<=20000):
 Calls prog 141 #[Q (M ⟨g,0,U⟩),.agg #[V m,V t,I J mi,Z fo nf gG,I J ln,Z bo nb gF]] w fun e w'=>yj S w gs (jd s l body) e w':=by
 obtain⟨f,hR⟩:∃f,f=jd s l body:=⟨_,rfl⟩;rw[<-hR];obtain⟨hX,FQ⟩:=qR.q h (K #[V m,V t,I J mi,Z fo nf gG,I J ln,Z bo nb gF] 84) (K #[I J 0,Z U 0 0,Z U 0 0] 106);have hlg:=bI w _ hg;have hbb:Below w.heap.size w ((w.alloc (K #[V m,V t,I J mi,Z fo nf gG,I J ln,Z bo nb gF] 84)).alloc (K #[I J 0,Z U 0 0,Z U 0 0] 106)):=ar ((aq _ w).alloc (ak _) _) ((aq _ _).alloc (ak _) _);have HBo:=Jz (hF.a hbb);have sH:∀W,Below w.heap.size w W->aY W (fun k=>S k∧k<w.heap.size) gs s:=fun W hW=>(h.a (S':=fun k=>S k∧k<w.heap.size) (fun k hk e=>⟨e,hk⟩)).d hW;have HIb:∀W,Below w.heap.size w W->ay W bo gF body:=fun W hW=>hB.a hW;have HG:∀W,Below w.heap.size w W->W.cell? ⟨g,0,U⟩=M (Q (M ⟨gs,0,U⟩)):=fun W hW=>(hW.cell (p:=⟨g,0,U⟩) hlg).trans hg;have HP:=p;have vX:=aa ok
 have hs1:((w.alloc (K #[V m,V t,I J mi,Z fo nf gG,I J ln,Z bo nb gF] 84)).alloc (K #[I J 0,Z U 0 0,Z U 0 0] 106)).heap.size=w.heap.size+2:=by simp
 go_enter func141,ntmps141;go_upto_region 1 with fail
 generalize hW1:((w.alloc (K #[V m,V t,I J mi,Z fo nf gG,I J ln,Z bo nb gF] 84)).alloc (K #[I J 0,Z U 0 0,Z U 0 0] 106))=W1 at *;have a3:=am W1 _ 3 _ _ _ FQ;simp at a3;have HX:=hX;have D8:=aa hbb;have HZr:=aa FQ;have O6:=aa hs1
 go_wp2_with fail;refine HBo.mono ?_;rintro e w1 ⟨rfl,D⟩;have XM:=HX.a D;have HB1:=ar D8.o D;have hsz1:=D.size;have a5:w1.cell? ⟨w.heap.size,5,U⟩=M (Z bo nb gF):=by
  have:=am w1 _ 5 _ _ _ ((D.block w.heap.size (by have:=O6.o;omega)).trans HZr.o);simpa using this
 have ahG:w.heap.size+2<=w1.heap.size:=by have:=O6.o;omega
 cases G:mC l with
 | none =>
   have HR:f=(s,(415,[],[])):=hR.trans (K8 G);have H5:=fun W=>qB 415 W;simp only[Option.elim,Option.isSome];go_wp2_with fail;refine(H5 _).mono ?_;rintro e H ⟨rfl,i⟩;obtain⟨⟨z0,z1,z2,y0,y1,y2⟩,N⟩:=(XM.a i).d (st:=415) (mY:=415) rfl (l:=[]) (body:=[]) rfl (bx.f _) (lE _ _ _) rfl (ay.d _) (lE _ _ _);go_wp2;generalize (((H.setCell ⟨w.heap.size+1,0,U⟩ _).setCell ⟨w.heap.size+1,1,U⟩ _).setCell ⟨w.heap.size+1,2,U⟩ _)=wf at *;obtain⟨T,q1,q2,q3⟩:=N.o;refine aR (v:=.agg #[I J 415,Z U 0 0,Z U 0 0]) (by simp[results,results141,go_sem,T,q1,q2]) rfl ?_;rw[HR];exact q3
 | some bd =>
   simp only[Option.elim,Option.isSome];have HRd:=Tl (je bd) body bo gF nb w1 (HIb _ HB1) hb hnb;rw[show(je bd).data.toList=bd from by unfold je;simp] at HRd;go_wp2_with fail;refine HRd.mono ?_;rintro e H hRd;cases hRd with
   | no c hc alD he i =>
     subst he;have hpn:lR bd body=U:=by
      unfold lR;rw[if_neg];rintro ⟨e1,e2⟩;rcases alD with ⟨h1,_⟩ | ⟨_,h1⟩
      . rw[h1] at e1;cases e1
      . exact hc (by rw[<-h1];exact e2)
     have HR:f=(s,(400,[],[])):=hR.trans (Lq G hpn);have tc:((c:Int) != 0)=true:=by rw[cW];omega
     have ZI:=XM.a i;have H4:=fun W=>qB 400 W;go_wp2_with fail;refine(H4 _).mono ?_;rintro e w3 ⟨rfl,b⟩;obtain⟨⟨z0,z1,z2,y0,y1,y2⟩,N⟩:=(ZI.a b).d (st:=400) (mY:=400) rfl (l:=[]) (body:=[]) rfl (bx.f _) (lE _ _ _) rfl (ay.d _) (lE _ _ _);go_wp2;generalize (((w3.setCell ⟨w.heap.size+1,0,U⟩ _).setCell ⟨w.heap.size+1,1,U⟩ _).setCell ⟨w.heap.size+1,2,U⟩ _)=wf at *;obtain⟨T,q1,q2,q3⟩:=N.o;refine aR (v:=.agg #[I J 400,Z U 0 0,Z U 0 0]) (by simp[results,results141,go_sem,T,q1,q2]) rfl ?_;rw[HR];exact q3
   | yes hm hcl w15 ahH ao cap n he hP i =>
     subst he;obtain⟨C,hps⟩:∃C,C=fU (gK (co (fK bd) iw body)):=⟨_,rfl⟩;have hpp:lR bd body=M C:=by unfold lR;rw[if_pos ⟨hm,hcl⟩,hps]
     rw[<-hps] at hP;obtain⟨hrm,hpl,hpz⟩:=KV hpp (by have:=(wX hm).b;omega) (wX hm).a (by decide) (by rw[hb];exact hnb);have hn:=hP.a;subst hn;have hPD:=hP.e (fun k e=>ce ahH e);have hB2:=ar HB1 i;have alF:w.heap.size+2<=H.heap.size:=ce ahG i.size;have hX2:=XM.a i;have hgc:=HG H hB2;have HRo:=Oj (hPD.a.a (bA _ _)) rfl hrm;have Ea:Below w.heap.size w H.drew:=ar hB2 (bA _ _);obtain⟨rm,afg⟩:∃rm,rm=ia C:=⟨_,rfl⟩;rw[<-afg] at HRo hrm;have WC:=fun W (hW:Below w.heap.size w W)=>zg (sH W hW) (rm:Int);obtain⟨bf,hbf⟩:∃bf,bf=decide (100000<s.a.length+rm):=⟨_,rfl⟩;have hrb:(decide ((0:Int)<=(rm:Int))&&decide ((rm:Int)<=100000-(s.a.length:Int)))=!bf:=by
      rw[hbf,aV (by omega:(0:Int)<=(rm:Int)),Bool.true_and,<-decide_not,decide_eq_decide];omega
     rw[hrb] at WC;have HBf:=aa hbf;have HRe:=aa afg
     clear hbf afg;have ZI:=aa hX2;have u:=aa hB2;have HPD:=aa hPD;have HPz:=aa hpz
     clear hP hps hm hcl ahH hPD hB2 hX2 hpz HRd i XM HB1 hrb;go_upto_region 7 with fail
     go_cut [31] (fun v wd=>v=.bool bf∧Below H.heap.size H wd)
     case first =>
      go_region_held3 (fun W=>W.cell? ⟨g,0,U⟩=M (Q (M ⟨gs,0,U⟩))) (go_keep) (first
       | (go_at_call 192;refine HRo.mono ?_;rintro e w3 ⟨rfl,b⟩;have HB3:Hid (Below H.heap.size H w3):=ar (bA _ _) b;have hg3:=HG w3 (ar u.o HB3.o);clear b)
       | (go_at_call 175;refine(WC _ (ar u.o HB3.o)).mono ?_;rintro e w4 ⟨rfl,hw⟩;subst hw))
      all_goals
       go_wp2;go_meet;exact⟨rfl,HB3.o⟩
     case rest =>
      obtain⟨rfl,b⟩:=hcut;have HX3:=(ZI.a b);have HB3:=aa b
      clear hgc HRo WC Ea ZI;cases bf with
      | true =>
        have q:=tG HBf.o.symm;have HR:f=(s,(507,[],[])):=hR.trans (K9 G hpp (by rw[<-HRe.o];exact q));have H4:=fun W=>qB 507 W;go_wp2_with fail;refine(H4 _).mono ?_;rintro e w3 ⟨rfl,b⟩;obtain⟨⟨z0,z1,z2,y0,y1,y2⟩,N⟩:=(HX3.a b).d (st:=507) (mY:=507) rfl (l:=[]) (body:=[]) rfl (bx.f _) (lE _ _ _) rfl (ay.d _) (lE _ _ _);go_wp2;generalize (((w3.setCell ⟨w.heap.size+1,0,U⟩ _).setCell ⟨w.heap.size+1,1,U⟩ _).setCell ⟨w.heap.size+1,2,U⟩ _)=wf at *;obtain⟨T,q1,q2,q3⟩:=N.o;refine aR (v:=.agg #[I J 507,Z U 0 0,Z U 0 0]) (by simp[results,results141,go_sem,T,q1,q2]) rfl ?_;rw[HR];exact q3
      | false =>
        have q:=of_decide_eq_false HBf.o.symm;have HR:f=pK (gg ⟨s,[],[],0⟩ C):=hR.trans (La G hpp (by rw[<-HRe.o];exact q));have hgc:=HG wc (ar u.o b);have hz3:=b.size;have hz2:=u.o.size
        have hL0:=fG.j (sH wc (ar u.o b)) (by omega);have hbL:=(aq _ wc).alloc (ak _) (K #[Q (M ⟨gs,0,U⟩),Z U 0 0,Z U 0 0] 249);have alG:=HPD.o.d (al.d (S:=fun _=>False) (ar b hbL)) (fun _ _ e=>e);have hwB:=ar (ar u.o b) hbL;have hpw:ka w0 (wc.alloc (K #[Q (M ⟨gs,0,U⟩),Z U 0 0,Z U 0 0] 249)) (fun k=>(S k∧k<w.heap.size)∨k=wc.heap.size):=⟨HP.c,HP.a.trans (hwB.mono HP.a.size),fun k e=>by
         rcases e with e | e
         . exact HP.b k e.1
         . have:=HP.a.size;omega⟩
        have HAA:=aa (N9 hpw ⟨s,[],[],0⟩ hL0 ⟨vX.o,ax _,A (ax _)⟩ rfl C alG (fun k e=>⟨fun e2=>by
         rcases e2 with e2 | e2
         . have:=e2.2;have:=ahG;omega
         . omega,by rw[ch];omega⟩) rfl hpl HPz.o)
        have HX0:vR S w gs (w.heap.size+1) wc.heap.size (K #[I J 0,Z U 0 0,Z U 0 0] 106) (wc.alloc (K #[Q (M ⟨gs,0,U⟩),Z U 0 0,Z U 0 0] 249)) s [] [] (wc.alloc (K #[Q (M ⟨gs,0,U⟩),Z U 0 0,Z U 0 0] 249)):=⟨hL0.a (fun k _ e=>A e),al.r _ _,(HX3.a hbL).c⟩;have d:w.heap.size<=w.heap.size+1∧w.heap.size+1<wc.heap.size∧wc.heap.size<(wc.alloc (K #[Q (M ⟨gs,0,U⟩),Z U 0 0,Z U 0 0] 249)).heap.size:=⟨by omega,by have:=alF;have:=b.size;omega,by rw[ch];omega⟩;have alI:=AB C (r:=⟨s,[],[],0⟩) vX.o;have alJ:=Az C ⟨s,[],[],0⟩;have alK:(gg ⟨s,[],[],0⟩ C).a.length<=1000000:=by simp at alJ;omega
        generalize gg ⟨s,[],[],0⟩ C=j at *;go_upto_region 10 with fail
        generalize hBB:(wc.alloc (K #[Q (M ⟨gs,0,U⟩),Z U 0 0,Z U 0 0] 249))=B at *;go_wp2_with fail;refine HAA.o.mono ?_;rintro e w5 ⟨rfl,hL5,xI⟩;have y:vR S w gs (w.heap.size+1) wc.heap.size (K #[I J 0,Z U 0 0,Z U 0 0] 106) B j.s j.a j.c w5:=HX0.d d.1 d.2.1 d.2.2 (hL5.a (fun k _ e=>by
         rcases e with e | e
         . exact A (A e)
         . exact R e)) (xI.e (fun k e=>A e))
        by_cases z:j.b=0
        . have tc:((j.b:Int) != 0)=F:=by rw[z];rfl
          have HRr:f=(ey j.s,(201,[],j.c)):=by rw[HR];unfold pK;rw[if_pos z]
          have k0:=y.a.d;have Lf:=y.a.e;rw[z];go_wp2_with fail;refine Lf.mono ?_;rintro e w6 ⟨rfl,hL6,yX⟩;have x:=y.d d.1 d.2.1 d.2.2 hL6 yX;have HRp:=Sd x.a;go_wp2_with fail;refine HRp.mono ?_;rintro e w7 ⟨⟨bo7,ahK,rfl,hB7,hS7⟩,XT⟩;obtain⟨⟨z0,z1,z2,y0,y1,y2⟩,N⟩:=((x.f d.1 d.2.1 d.2.2 hwB).a XT).d (st:=201) (mY:=201) rfl (l:=[]) (body:=j.c) rfl (bx.f _) (lE _ _ _) rfl hB7 (fun a e=>by
           have:=d;rcases hS7 a e with (h1 | h1) | h1
           . exact⟨A h1.1,by have:=h1.2;omega⟩
           . exact⟨R (by omega),by omega⟩
           . exact⟨R (by omega),by omega⟩)
          go_wp2;generalize (((w7.setCell ⟨w.heap.size+1,0,U⟩ _).setCell ⟨w.heap.size+1,1,U⟩ _).setCell ⟨w.heap.size+1,2,U⟩ _)=wf at *;obtain⟨T,q1,q2,q3⟩:=N.o;refine aR (v:=.agg #[I J 201,Z U 0 0,Z bo7 j.c.length ahK]) (by simp[results,results141,go_sem,T,q1,q2]) rfl ?_;rw[HRr];exact q3
        . have tc:((j.b:Int) != 0)=true:=by rw[cW];omega
          have HRr:f=(ey (mD j.s j.a),(og j.b,[],[])):=by rw[HR];unfold pK;rw[if_neg z]
          have HDa:=MY y.a alI alK;have xE:=fun(W:X)=>Se (L:=wc.heap.size) (w:=W) j.b z;go_wp2_with fail;refine HDa.mono ?_;rintro e w6 ⟨rfl,hL6,yX⟩;have x:=y.d d.1 d.2.1 d.2.2 hL6 yX;have k0:=x.a.d;have Lf:=x.a.e;go_wp2_with fail;refine Lf.mono ?_;rintro e w7 ⟨rfl,hL7,FR⟩;have HX7:=x.d d.1 d.2.1 d.2.2 hL7 FR;go_wp2_with fail;refine(xE _).mono ?_;rintro e w8 ⟨rfl,hb8⟩;obtain⟨⟨z0,z1,z2,y0,y1,y2⟩,N⟩:=((HX7.f d.1 d.2.1 d.2.2 hwB).a hb8).d (st:=og j.b) (mY:=(og j.b:Int)) rfl (l:=[]) (body:=[]) rfl (bx.f _) (lE _ _ _) rfl (ay.d _) (lE _ _ _);go_wp2;generalize (((w8.setCell ⟨w.heap.size+1,0,U⟩ _).setCell ⟨w.heap.size+1,1,U⟩ _).setCell ⟨w.heap.size+1,2,U⟩ _)=wf at *;obtain⟨T,q1,q2,q3⟩:=N.o;refine aR (v:=.agg #[I J (og j.b:Int),Z U 0 0,Z U 0 0]) (by simp[results,results141,go_sem,T,q1,q2]) rfl ?_;rw[HRr];exact q3
end
section
variable {w w0:X} {S:Nat->Prop} {g gs:Nat} {s:av}
theorem TV (t:ag):tq t=AF t:=rfl
theorem P0 (p:ka w0 w S)(h:aY w S gs s)(ok:aN s)(hg:w.cell? ⟨g,0,U⟩=M (Q (M ⟨gs,0,U⟩))){m t:ag}{mi ln:Int}{l:aC}{fo:ai}{gG nf:Nat}(hF:gz w l fo gG nf)(body:ae){bo:ai}{gF nb:Nat}(hb:body.length=nb)(hB:ay w bo gF body)(hnb:nb<=20000)(ht:t.size<=100000):
 Calls prog 84 #[Q (M ⟨g,0,U⟩),.agg #[V m,V t,I J mi,Z fo nf gG,I J ln,Z bo nb gF]] w fun e w'=>yj S w gs (kV bq s m t l body) e w':=by
 obtain⟨H,c⟩:∃H,H=kV bq s m t l body:=⟨_,rfl⟩;rw[<-c];unfold kV at c;obtain⟨hX,B⟩:=qR.q h (K #[V m,V t,I J mi,Z fo nf gG,I J ln,Z bo nb gF] 84) (K #[I J 0,Z U 0 0,Z U 0 0] 106);have hlg:=bI w _ hg;have f:Below w.heap.size w ((w.alloc (K #[V m,V t,I J mi,Z fo nf gG,I J ln,Z bo nb gF] 84)).alloc (K #[I J 0,Z U 0 0,Z U 0 0] 106)):=ar ((aq _ w).alloc (ak _) _) ((aq _ _).alloc (ak _) _);have hs1:((w.alloc (K #[V m,V t,I J mi,Z fo nf gG,I J ln,Z bo nb gF] 84)).alloc (K #[I J 0,Z U 0 0,Z U 0 0] 106)).heap.size=w.heap.size+2:=by simp
 have d:=fun W=>Rc t W ht;have L:=fun st W=>qB st W;go_enter func84,ntmps84;go_upto_region 1 with fail
 generalize hW1:((w.alloc (K #[V m,V t,I J mi,Z fo nf gG,I J ln,Z bo nb gF] 84)).alloc (K #[I J 0,Z U 0 0,Z U 0 0] 106))=j at *;have a0:=am j _ 0 _ _ _ B;have a1:=am j _ 1 _ _ _ B;have a2:=am j _ 2 _ _ _ B;have a3:=am j _ 3 _ _ _ B;have a4:=am j _ 4 _ _ _ B;have a5:=am j _ 5 _ _ _ B;have hg1:=(f.cell (p:=⟨g,0,U⟩) hlg).trans hg;have N:=hX.g;have T:=hF.a f;have hB1:=hB.a f;have i:ka w0 j (fun k=>aB S w k∧k≠w.heap.size+1):=⟨p.c,p.a.trans (f.mono p.a.size),fun k e=>by
  rcases e.1 with e | e
  . exact p.b k e
  . exact ce p.a.size e⟩
 have HX:=hX;have O6:=aa hs1
 rw[show AF t=tq t from(TV t).symm] at c;cases ho:tq t with
 | true =>
   rw[ho,if_pos rfl] at c;have HDo:=Hv (m:=m) (t:=t) (mi:=mi) (ln:=ln) (bo:=bo) (gF:=gF) (nb:=nb) (w:=j.drew) ⟨i.c,ar i.a (bA _ _),i.b⟩ (N.d (bA _ _)) ok (T.a (bA _ _)) body hb (hB1.a (bA _ _)) (by omega) ht;rw[ho] at d;generalize bq s m t l body=tr at *;obtain⟨s2,b,l2⟩:=tr;go_wp2_with fail;refine(d _).mono ?_;rintro e w1 ⟨rfl,n⟩;subst n;go_upto_region 2 with fail
   go_cut [] (fun wd=>∃(C:ai) (D G:Nat),wd.cell? ⟨w.heap.size+1,0,U⟩=M (I J (b:Int))∧wd.cell? ⟨w.heap.size+1,1,U⟩=M (Z C D G)∧wd.cell? ⟨w.heap.size+1,2,U⟩=M (Z U 0 0)∧yj S w gs (s2,(b,l2,[])) (Y (.agg #[I J (b:Int),Z C D G,Z U 0 0])) wd)
   case first =>
    go_region_law (first
     | (go_simp;go_at_call 39;refine HDo.mono ?_;rintro e w9 ⟨⟨C,G,D,rfl,mK,jY⟩,kC,rE⟩;have hX9:=(HX.a (bA _ _)).j kC rE;obtain⟨⟨z0,z1,z2,y0,y1,y2⟩,q⟩:=hX9.d (st:=b) (mY:=(b:Int)) rfl (l:=l2) (body:=[]) mK jY.a (fun a e=>by have h1:w1.heap.size<=a.block:=(jY.d a e).1;have:=O6.o;exact⟨R (by omega),by omega⟩) rfl (ay.d _) (lE _ _ _);clear mK jY kC rE hX9))
    all_goals
     go_wp2;go_meet;exact⟨C,D,G,q.o⟩
   case rest =>
    obtain⟨C,D,G,r,u,x,y⟩:=hcut;go_wp2;refine aR (v:=.agg #[I J (b:Int),Z C D G,Z U 0 0]) (by simp[results,results84,go_sem,r,u,x]) rfl ?_;rw[c];exact y
 | false =>
   rw[ho,if_neg (by simp)] at c;rw[ho] at d;obtain⟨tt,htt⟩:∃tt,(t.toList==([47,102,111,114,109]:ae))=tt:=⟨_,rfl⟩;have eT:t=EF<->tt=true:=by
    rw[<-htt,cM,Lib.toList_data,ByteArray.ext_iff,<-wD];rfl
   obtain⟨tm,htm⟩:∃tm,(m.toList==([80,79,83,84]:ae))=tm:=⟨_,rfl⟩;have eM:m=Eu<->tm=true:=by
    rw[<-htm,cM,Lib.toList_data,ByteArray.ext_iff,<-wD];rfl
   cases tt with
   | false =>
     rw[if_pos (fun e=>by have:=eT.1 e;cases this)] at c;go_wp2_with fail;refine(d _).mono ?_;rintro e w1 ⟨rfl,n⟩;subst n;go_wp2_with fail;refine(L 404 _).mono ?_;rintro e w3 ⟨rfl,z⟩;obtain⟨⟨z0,z1,z2,y0,y1,y2⟩,q⟩:=(HX.a z).d (st:=404) (mY:=404) rfl (l:=[]) (body:=[]) rfl (bx.f _) (lE _ _ _) rfl (ay.d _) (lE _ _ _);go_wp2;generalize (((w3.setCell ⟨w.heap.size+1,0,U⟩ _).setCell ⟨w.heap.size+1,1,U⟩ _).setCell ⟨w.heap.size+1,2,U⟩ _)=wf at *;obtain⟨r,u,x,y⟩:=q.o;refine aR (v:=.agg #[I J 404,Z U 0 0,Z U 0 0]) (by simp[results,results84,go_sem,r,u,x]) rfl ?_;rw[c];exact y
   | true =>
     rw[if_neg (fun e=>e (eT.2 rfl))] at c;cases tm with
     | false =>
       rw[if_pos (fun e=>by have:=eM.1 e;cases this)] at c;go_wp2_with fail;refine(d _).mono ?_;rintro e w1 ⟨rfl,n⟩;subst n;go_wp2_with fail;refine(L 405 _).mono ?_;rintro e w3 ⟨rfl,z⟩;obtain⟨⟨z0,z1,z2,y0,y1,y2⟩,q⟩:=(HX.a z).d (st:=405) (mY:=405) rfl (l:=[]) (body:=[]) rfl (bx.f _) (lE _ _ _) rfl (ay.d _) (lE _ _ _);go_wp2;generalize (((w3.setCell ⟨w.heap.size+1,0,U⟩ _).setCell ⟨w.heap.size+1,1,U⟩ _).setCell ⟨w.heap.size+1,2,U⟩ _)=wf at *;obtain⟨r,u,x,y⟩:=q.o;refine aR (v:=.agg #[I J 405,Z U 0 0,Z U 0 0]) (by simp[results,results84,go_sem,r,u,x]) rfl ?_;rw[c];exact y
     | true =>
       rw[if_neg (fun e=>e (eM.2 rfl))] at c;have HFm:=Tm (g:=g) (m:=m) (t:=t) (mi:=mi) (ln:=ln) i N ok hg1 T body hb hB1 hnb;generalize jd s l body=tr at *;obtain⟨s2,b,l2,b2⟩:=tr;go_wp2_with fail;refine(d _).mono ?_;rintro e w1 ⟨rfl,n⟩;subst n;go_wp2_with fail;refine HFm.mono ?_;rintro e w9 ⟨⟨fo9,ahM,nf9,bo9,ahN,nb9,rfl,mK,hF9,hm9,qM,hf9,hb9⟩,kC,rE⟩;have hno:∀k,aB (fun k=>aB S w k∧k≠w.heap.size+1) w1 k->aB S w k∧k≠w.heap.size+1:=fun k e=>by
        have:=O6.o;rcases e with e | e
        . exact e
        . exact⟨R (by omega),by omega⟩
       obtain⟨⟨z0,z1,z2,y0,y1,y2⟩,q⟩:=(HX.j kC rE).d (st:=b) (mY:=(b:Int)) rfl (l:=l2) (body:=b2) mK hF9 (fun a e=>hno _ (hf9 a e)) hm9 qM (fun a e=>hno _ (hb9 a e));go_wp2;generalize (((w9.setCell ⟨w.heap.size+1,0,U⟩ _).setCell ⟨w.heap.size+1,1,U⟩ _).setCell ⟨w.heap.size+1,2,U⟩ _)=wf at *;obtain⟨r,u,x,y⟩:=q.o;refine aR (v:=.agg #[I J (b:Int),Z fo9 nf9 ahM,Z bo9 nb9 ahN]) (by simp[results,results84,go_sem,r,u,x]) rfl ?_;rw[c];exact y
end
theorem Nh (l:List Int):(eE l).length=l.length:=by unfold eE;rw[ij]
theorem Tz (l:List Int):∀u∈eE l,u.oneCell'=true:=fun u a=>by
 obtain⟨i,_,rfl⟩:=jT.1 a;rfl
theorem LT (l:List Int)(fo:ai)(gG n:Nat)(w:X)(f:bx w fo gG n (eE l))(s:l.length=n)(N:n<=1000000):
 Calls prog 66 #[Z fo n gG] w fun e w'=>∃ao cap,e=Y (Z ao n cap)∧aG w' w.heap.size 3 1 ao cap n (eE l)∧Below w.heap.size w w':=by
 have S:∀(w:X) (a:ai) (n c g i:Nat),(binOp .eql 55 (Z a n c) (Z U g i)).run prog w=.ok (.bool a.isNone) w:=fun w a n c g i=>Lib.run_eql_slice_nil w _ _ a n c g i underlying55;cases fo with
 | none =>
   have T:=f.2.1 rfl;have j:n=0:=by have:=f.1;omega
   subst j;obtain rfl:l=[]:=gW s;go_enter func66,ntmps66;go_wp2;go_ret;exact⟨U,0,rfl,aG.f _ _ _ _,aq _ _⟩
 | some a =>
   have t:=Nh l;obtain⟨u,k,m,p,r⟩:=info_parts wT;have v:=k;have x:=aa m;have y:=aa p;have z:=aa r
   have B:(eE l).length=n*1:=by rw[s] at t;omega
   go_enter func66,ntmps66;go_wp2_with (at_builtin;refine fE rfl (.tmp 5) (.tmp 6) 55 rfl w.heap.size 3 u (I J 0) 1 8 underlying55 v x.o y.o z.o rfl (by decide) (n:=0) (xs:=[]) rfl (tN _ #[] 0 (by simp) (by decide) rfl) rfl (f.y _) B (Tz l) (by omega) (by omega) (by simp) ?_;intro C D W b d G;have H:=aa b;have L:=aa d;clear b d G)
   go_ret;refine⟨C,D,by simp,?_,?_⟩
   . have:=H.o;rw[jo,dV] at this;exact this
   . exact((aq _ _).alloc (ak _) _).grown L.o (by simp) (fun q e=>by simp[au] at e;omega)
