import Derived.Deep.RegionHeldLaw
import Derived.Test.YtodmelffkfbalaaGreatDoorPk47
open Go.Value renaming int->I,string->V,slice->Z,pointer->Q
open Go.IntKind renaming i64->J
open Go.Obj renaming cells->K
open Go.Ending renaming returned->Y
open Option renaming none->U,some->M
open Bool renaming false->F
open Or renaming inl->A,inr->R
open Go renaming World->X
set_option maxHeartbeats 6400000
set_option maxRecDepth 100000
open Go.Proofs.Tryz
namespace Go.Proofs.YtodmelffkfbalaaGreatDoor
open Go.RowKit
def xN:ae:=⟨#[99,111,110,116,101,110,116,45,108,101,110,103,116,104]⟩
def pF (st:Int)(l:aC)(body:ab):ab×Nat:=se st l (aH xN l).length body
inductive Tw (w:X)(r:ab×Nat)(e:Ending)(w':X):Prop
 | bad (c:Nat) (hc:c≠0) (he:e=Y (.tuple #[Z U 0 0,I J (c:Int)])) (ht:r=([],c)) (hB:Below w.heap.size w w')
 | ok (g cap n:Nat) (he:e=Y (.tuple #[Z (M ⟨g,0,U⟩) n cap,I J 0])) (hn:n=r.1.length) (ht:r.2=0) (hO:dX w' w.heap.size g cap r.1) (hB:Below w.heap.size w w')
theorem Dm (p:ae×ae)(h:p.1.size<=2000∧p.2.size<=2000):(jn p).length<=4004:=by
 have a:p.1.data.toList.length=p.1.size:=by rw[cI];rfl
 have b:p.2.data.toList.length=p.2.size:=by rw[cI];rfl
 have c:(bO p.1.data.toList p.2.data.toList).1.length<=p.1.data.toList.length+2+p.2.data.toList.length:=by
  unfold bO;split
  . simp
  . split
    . simp
    . split
      . simp
      . simp;omega
 unfold jn;rw[aD];simp only[bF,iy];omega
theorem B2:∀(l:aC),(∀p∈l,p.1.size<=2000∧p.2.size<=2000)->(l.flatMap jn).length<=l.length*4004
 | [],_=>by simp
 | p :: t, h => by
   have b:=B2 t (fun q a=>h q (by simp[a]));have c:=Dm p (h p (by simp));rw[oi,aD,bF];omega
theorem FU (p:ae×ae)(h:(bO p.1.data.toList p.2.data.toList).2=0):∀l:aC,jJ (l++[p])=jJ l
 | []=>by simp[jJ,h]
 | q::t=>by rw[ge,jJ,jJ,FU p h t]
theorem ES (l:aC):aH ny l=aH xN l:=by
 unfold aH;rw[show aY ny.data.toList=aY xN.data.toList by decide]
def jj (nb:Nat):ae×ae:=(ny,⟨(bw 8 nb).toArray⟩)
theorem RC {nb:Nat}(h:nb<1000000000):(bO (jj nb).1.data.toList (jj nb).2.data.toList).2=0:=(FR h).1
theorem Sf {nb:Nat}(h:nb<1000000000):jn (jj nb)=xt++bw 8 nb++[13,10]:=by
 unfold jn;have:=(FR h).2;rw[show(jj nb).1.data.toList=xr from rfl,show(jj nb).2.data.toList=bw 8 nb from rfl,this]
theorem OB {st:Int}{l:aC}{body:ab}(h:jK st l≠0):pF st l body=([],jK st l):=by
 unfold jK at h ⊢;unfold pF se;rw[ES] at h ⊢;split
 . rfl
 . rename_i a;rw[if_neg a] at h;split
   . rfl
   . rename_i b;rw[if_neg b] at h;split
     . rfl
     . rename_i c;rw[if_neg c] at h;exact absurd rfl h
theorem OD {st:Int}{l:aC}{body:ab}(h:jK st l=0)(b:body.length<1000000000):gS st≠[]∧l.length<16∧pF st l body=if jJ (l++[jj body.length])≠0 then ([],jJ (l++[jj body.length])) else (kh st++(l++[jj body.length]).flatMap jn++[13,10]++body,0):=by
 rw[FU _ (RC b),List.flatMap_append];unfold jK at h;unfold pF se;rw[ES] at h;by_cases a:gS st=[]
 . rw[if_pos a] at h;cases h
 rw[if_neg a] at h ⊢;by_cases c:16<=l.length
 . rw[if_pos c] at h;cases h
 rw[if_neg c] at h ⊢;by_cases d:(aH xN l).length≠0
 . rw[if_pos d] at h;cases h
 rw[if_neg d];refine⟨a,by omega,?_⟩;split
 . rfl
 . congr 1;simp[Sf b]
structure rX (w:X)(cs:Array Value)(T:Nat)(ls:aC)(ao:ag)(iB g cap:Nat)(acc:ab)(W:X):Prop where
 b:jS w cs T W
 c:dX W (w.heap.size+1) g cap acc
 e:bx W ao iB ls.length (aJ ls)
 d:∀a,ao=M a->a.block≠g∧a.block<W.heap.size
theorem rX.f {w W W':X}{d:Array Value}{T:Nat}{f:aC}{ao:ag}{i g cap:Nat}{b:ab}(h:rX w d T f ao i g cap b W)(c:Below W.heap.size W W'):rX w d T f ao i g cap b W' :=
 ⟨h.b.a c,h.c.j c,h.e.a c,fun a e=>⟨(h.d a e).1,nC (h.d a e).2 c.size⟩⟩
theorem rX.a {w W W':X}{l:Array Value}{T:Nat}{m:aC}{ao:ag}{n g cap d b:Nat}{f c:ab}(h:rX w l T m ao n g cap f W)(o:dX W' (w.heap.size+1) d b c)(i:ak (fun k=>k=g) W W')(j:d=g∨d=W.heap.size):rX w l T m ao n d b c W':=by
 have p:=h.c.c;refine⟨h.b.q i (fun k e=>by omega),o,h.e.r i (fun a e=>(h.d a e).1),fun a e=>⟨fun q=>?_,nC (h.d a e).2 i.b⟩⟩;have r:=h.d a e;rcases j with j | j
 . omega
 . omega
theorem M8 (w:X)(st:Int)(l:aC)(fo bo:ag)(fZ fV nb:Nat)(body:ab)(hl:bx w fo fZ l.length (aJ l))(hN:l.length<=1000000)(hs:∀p∈l,p.1.size<=2000∧p.2.size<=2000)(hb:body.length=nb)(hBd:az w bo fV body)(hnb:nb<=100000)(hP:di w):
 Calls prog 171 #[.agg #[I J st,Z fo l.length fZ,Z bo nb fV]] w fun e w'=>Tw w (pF st l body) e w':=by
 subst hb;obtain⟨j0,hj0,hy0,hy1,hy2⟩:=info_parts gm;have Hj:=aa hj0;have O8:=aa hy0;have O9:=aa hy1;have Pb:=aa hy2
 obtain⟨i0,hi0,hz0,hz1,hz2⟩:=info_parts pX;have Hi:=aa hi0;have kS:=aa hz0;have kM:=aa hz1;have kT:=aa hz2
 have HV:=aa hl;have HS:=aa hs;have yN:=aa hBd;have HP:=aa hP
 have S:Hid (∀W,jS w #[I J st,Z fo l.length fZ,Z bo body.length fV] 126 W->W.cell? ⟨w.heap.size,0,U⟩=M (I J st)∧W.cell? ⟨w.heap.size,1,U⟩=M (Z fo l.length fZ)∧W.cell? ⟨w.heap.size,2,U⟩=M (Z bo body.length fV)):=fun W h=>⟨h.e 0,h.e 1,h.e 2⟩;have H0:=aa (jS.f w #[I J st,Z fo l.length fZ,Z bo body.length fV] 126);have ZV:=aa (M6 _ st l fo bo fZ fV body.length (hl.a H0.o.below) hN hs);have hwl:=FV st;clear hl hs hBd hj0 hy0 hy1 hy2 hi0 hz0 hz1 hz2 hP;obtain⟨x,s,y⟩:=S.o _ H0.o;by_cases B:jK st l=0
 . obtain⟨hwd,h16,hout⟩:=OD (body:=body) B (by omega);have HT:=aa hout;rw[B] at ZV;clear hout B;obtain⟨hs1,hs2⟩:=OC hwd;obtain⟨b,rfl⟩:∃b:Nat,st=(b:Int):=⟨st.toNat,by omega⟩;have HSw:Hid (∀W,Calls prog 227 #[I J (b:Int)] W fun e w'=>e=Y (V ⟨(gS b).toArray⟩)∧w'=W):=fun W=>Dc b W;have hwz:(⟨(gS b).toArray⟩:ae).size<=22:=by show(gS b).toArray.size<=22;rw[cx];exact hwl
   have HWd:Hid ((⟨(gS b).toArray⟩:ae).data.toList=gS b):=rfl;have HNm:Hid (∀W,jS w #[I J (b:Int),Z fo l.length fZ,Z bo body.length fV] 126 W->Calls prog 141 #[I J (b:Int)] W fun e w'=>e=Y (V ⟨(bw 8 b).toArray⟩)∧Below W.heap.size W w'):=fun W h=>mD b (by omega) W (HP.o.a h.below);have HNb:Hid (∀W,jS w #[I J (b:Int),Z fo l.length fZ,Z bo body.length fV] 126 W->Calls prog 141 #[I J (body.length:Int)] W fun e w'=>e=Y (V (jj body.length).2)∧Below W.heap.size W w'):=fun W h=>mD body.length (by omega) W (HP.o.a h.below);have hdl:=gz 8 b;have hdz:(⟨(bw 8 b).toArray⟩:ae).size<=9:=by show(bw 8 b).toArray.size<=9;rw[cx];omega
   have HDd:Hid ((⟨(bw 8 b).toArray⟩:ae).data.toList=bw 8 b):=rfl;have ahN:=gz 8 body.length;have hpz:(jj body.length).2.size<=9:=by show(bw 8 body.length).toArray.size<=9;rw[cx];omega
   have HPc:Hid (∀p∈l++[jj body.length],p.1.size<=2000∧p.2.size<=2000):=fun p T=>by
    rcases eJ.1 T with T | T
    . exact HS.o p T
    . rw[cW.1 T];exact⟨by show ny.size<=2000;decide,by omega⟩
   have Uj:Hid ((l++[jj body.length]).length=l.length+1):=by unfold Hid;simp
   have HPV:Hid (aJ (l++[jj body.length])=aJ l++[V ny,V (jj body.length).2]):=by unfold Hid;simp[aJ,jj]
   generalize ahO:(jj body.length).2=C at *;generalize D:l++[jj body.length]=c at *;clear ahO D;generalize (⟨(gS b).toArray⟩:ae)=wd at *;generalize (⟨(bw 8 b).toArray⟩:ae)=db at *;clear hwd hwl hdl ahN;obtain⟨z,hz⟩:∃z:ae,z=⟨#[72,84,84,80,47,49,46,49,32]⟩++db++⟨#[32]⟩++wd++⟨#[13,10]⟩:=⟨_,rfl⟩;have hzs:z.size=9+db.size+1+wd.size+2:=by rw[hz];simp only[jq];rfl
   have hzd:z.data.toList=kh b:=by rw[hz];simp only[jy,HDd.o,HWd.o];rfl
   have t:=fun W=>xb (P:=prog) W z 9 31 5 (by unfold maxLen;omega) underlying9 underlying31 underlying5;obtain⟨adr,t⟩:=Classical.skolem.1 t;obtain⟨wF,t⟩:=Classical.skolem.1 t;have hcv:=fun W=>(t W).1;have HBf:Hid (∀W,Below W.heap.size W (wF W)∧dX (wF W) W.heap.size W.heap.size (adr W) (kh b)):=fun W=>by have:=(t W).2;rw[hzd] at this;exact this
   obtain⟨zn,hzn⟩:∃zn,z.size=zn:=⟨_,rfl⟩;have HZl:Hid ((kh b).length=zn):=by unfold Hid;rw[<-hzd,cI];exact hzn
   have hzl:zn<=60:=by omega
   rw[hzn] at hcv;rw[hz] at hcv;clear t hzs hzd hz hzn;go_enter func171,ntmps171;go_wp2_with fail;refine ZV.o.mono ?_;rintro e w1 ⟨rfl,m⟩;have yT:=aa (H0.o.a m);clear m H0 x s y ZV;obtain⟨x,s,y⟩:=S.o w1 yT.o;go_upto_region 4 with fail
   go_cut [5] (fun v wc=>∃g r,v=Z (M ⟨g,0,U⟩) zn r∧dX wc (w.heap.size+1) g r (kh b)∧jS w #[I J (b:Int),Z fo l.length fZ,Z bo body.length fV] 126 wc)
   case first =>
    have AA:=aa (yT.o.a (bg _ _));have HK2:Hid (∀W,jS w #[I J (b:Int),Z fo l.length fZ,Z bo body.length fV] 126 W->(wF W).cell? ⟨w.heap.size,0,U⟩=M (I J (b:Int))):=fun W h=>(S.o _ (h.a (HBf.o W).1)).1;have Kk:Hid (∀W,jS w #[I J (b:Int),Z fo l.length fZ,Z bo body.length fV] 126 W->dX (wF W) (w.heap.size+1) W.heap.size (adr W) (kh b)∧jS w #[I J (b:Int),Z fo l.length fZ,Z bo body.length fV] 126 (wF W)):=fun W h=>by
     have u:=(HBf.o W).2;exact⟨⟨h.j,u.b,u.e,u.f,u.d,u.a⟩,h.a (HBf.o W).1⟩
    go_region_held (fun W=>W.cell? ⟨w.heap.size,0,U⟩=M (I J (b:Int))) (first | exact HK2.o _ AA.o | go_keep) (first
     | (go_at_call 141;refine(HNm.o _ AA.o).mono ?_;rintro e v1 ⟨rfl,m⟩;have ND:=AA.o.a m;clear AA;have AA:=aa ND;have q0:=(S.o v1 ND).1;clear ND m)
     | (go_at_call 227;refine(HSw.o _).mono ?_;rintro e v1 ⟨rfl,hv1⟩;subst hv1))
    all_goals
     (try go_wp2);go_meet;obtain⟨f1,f2⟩:=Kk.o _ AA.o;exact⟨_,_,rfl,f1,f2⟩
   case rest =>
    obtain⟨g,r,rfl,u,hOc⟩:=hcut;have HU:=aa u;have HOc:=aa hOc
    clear x s y u hOc yT HSw HNm HBf hcv HDd HWd hwz hdz;obtain⟨x,s,y⟩:=S.o wc HOc.o;go_wp2_with fail;refine(HNb.o _ HOc.o).mono ?_;rintro e w2 ⟨rfl,hb2⟩;have xG:=aa (HOc.o.a hb2);have HU2:=aa (HU.o.j hb2)
    clear x s y hb2 HU HOc HNb;obtain⟨x,s,y⟩:=S.o w2 xG.o;have hOb:=xG.o.a ((ar _ w2).alloc (am _) (K #[V ⟨#[67,111,110,116,101,110,116,45,76,101,110,103,116,104]⟩,V C] 148));have hUb:=HU2.o.y (K #[V ⟨#[67,111,110,116,101,110,116,45,76,101,110,103,116,104]⟩,V C] 148);have y0:=xZ w2 ⟨#[67,111,110,116,101,110,116,45,76,101,110,103,116,104]⟩ C 148 rfl 0 _ rfl;have y1:=xZ w2 ⟨#[67,111,110,116,101,110,116,45,76,101,110,103,116,104]⟩ C 148 rfl 1 _ rfl;rw[gg,eh] at y0 y1;go_upto_region 6 with fail
    have hgw:=HU2.o.b;have CJ:Hid (g<(w2.alloc (K #[V ⟨#[67,111,110,116,101,110,116,45,76,101,110,103,116,104]⟩,V C] 148)).heap.size):=hUb.b;clear x s y HU2 xG hgw;generalize (w2.alloc (K #[V ⟨#[67,111,110,116,101,110,116,45,76,101,110,103,116,104]⟩,V C] 148))=j at *;generalize w2.heap.size=k2 at *;obtain⟨x,s,y⟩:=S.o j hOb;have HOb:=aa hOb;have HUb:=aa hUb
    have mG:Hid (∀W,Below j.heap.size j W->W.cell? ⟨w.heap.size,1,U⟩=M (Z fo l.length fZ)∧W.cell? ⟨k2,0,U⟩=M (V ⟨#[67,111,110,116,101,110,116,45,76,101,110,103,116,104]⟩)∧W.cell? ⟨k2,1,U⟩=M (V C)):=fun W hW =>
     ⟨(hW.cell (ch j _ s)).trans s,(hW.cell (ch j _ y0)).trans y0,(hW.cell (ch j _ y1)).trans y1⟩
    have xE:=aa (fun W (hW:Below j.heap.size j W)=>Hw l fo fZ l.length W (HV.o.a (au hOb.below hW)) rfl hN);clear hOb hUb x y;go_cut [37,38,39] (fun v37 v38 v39 wd=>∃gf Af,v37=Z (M ⟨gf,0,U⟩) (l.length+1) Af∧v38=I J ((l.length:Int)+1)∧v39=I J 0∧aL wd 0 148 2 (M ⟨gf,0,U⟩) Af (l.length+1) (aJ l++[V ⟨#[67,111,110,116,101,110,116,45,76,101,110,103,116,104]⟩,V C])∧j.heap.size<=gf∧Below j.heap.size j wd)
    case first =>
     have Uk:Hid (Below j.heap.size j j.drew):=bg _ _;have Ul:Hid (Below j.heap.size j (j.alloc (K #[V ⟨#[67,111,110,116,101,110,116,45,76,101,110,103,116,104]⟩,V C] 148)).drew):=((ar _ _).alloc (am _) _).trans (bg _ _);have Yc:Hid (l.length+1<=maxLen∧(l.length+1)*32<=140737488355328):=⟨by unfold maxLen;omega,by omega⟩;have ZU:Hid (∀(W:X) (ao:ag) (cp g6:Nat),aL W j.heap.size 148 2 ao cp l.length (aJ l)->∀k,j.heap.size<=k->((Value.slice ao l.length cp).ownBlock=M g6∨g6=k)->j.heap.size<=g6):=fun W ao cp g6 hO k hk h=>by
      rcases h with h | h
      . rw[dp] at h;cases ao with
        | none=>cases h
        | some a=>injection h with h;subst h;exact(hO.e a rfl).1
      . omega
     go_region_held_law (fun w'=>w'.cell? ⟨w.heap.size,1,U⟩=M (Z fo l.length fZ)∧w'.cell? ⟨k2,0,U⟩=M (V ⟨#[67,111,110,116,101,110,116,45,76,101,110,103,116,104]⟩)∧w'.cell? ⟨k2,1,U⟩=M (V C)) (first | go_keep | exact HK6.o | exact HK5.o | exact HKA.o) (first
      | (refine step_append_lies _ (by rfl) _ _ _ (by rfl) 0 148 i0 (.agg #[V ⟨#[]⟩,V ⟨#[]⟩]) 2 32 underlying80 Hi.o kS.o kM.o kT.o (by rfl) (by decide) (Z Ad l.length G) l.length (aJ l) (by rfl) ((zT.o.j (ax _)).y _) ⟨w5.heap.size,0,U⟩ 1 1 [V ⟨#[67,111,110,116,101,110,116,45,76,101,110,103,116,104]⟩,V C] (by rfl) (by rfl) (xZ _ _ _ _ rfl) (wV _ _) (by decide) Yc.o.1 Yc.o.2 (ax _) (w5.heap.size+1) (by simp) ?_;intro g6 cap6 w6 d f vI Pf;have ZW:=aa d;have wL:=aa (Gr (N.o.trans ((ar _ _).alloc N.o.size _)) zT.o f (am _));have HG6:=aa (ZU.o _ _ _ g6 zT.o _ (Nat.le_succ_of_le N.o.size) vI);have HK6:=aa (mG.o w6 wL.o);clear d f vI Pf;(try simp only[Act.put,List.getElem_toArray,List.getElem_cons_succ,List.getElem_cons_zero,List.setIfInBounds_toArray,oX,List.set_cons_succ]))
      | (refine step_append_lies _ (by rfl) _ _ _ (by rfl) 0 148 i0 (.agg #[V ⟨#[]⟩,V ⟨#[]⟩]) 2 32 underlying80 Hi.o kS.o kM.o kT.o (by rfl) (by decide) (Z Ad l.length G) l.length (aJ l) (by rfl) (zT.o.j (ax _)) ⟨j.heap.size,0,U⟩ 1 1 [V ⟨#[67,111,110,116,101,110,116,45,76,101,110,103,116,104]⟩,V C] (by rfl) (by rfl) HNB.o (wV _ _) (by decide) Yc.o.1 Yc.o.2 (ax _) w5.heap.size (by rfl) ?_;intro g6 cap6 w6 d f vI Pf;have ZW:=aa d;have wL:=aa (Gr (N.o) zT.o f (am _));have HG6:=aa (ZU.o _ _ _ g6 zT.o _ N.o.size vI);have HK6:=aa (mG.o w6 wL.o);clear d f vI Pf;(try simp only[Act.put,List.getElem_toArray,List.getElem_cons_succ,List.getElem_cons_zero,List.setIfInBounds_toArray,oX,List.set_cons_succ]))
      | (go_at_call 228;refine(xE.o _ Ul.o).mono ?_;rintro e w5 ⟨Ad,G,rfl,yg,CB⟩;have zT:=aa (yg.j Ul.o.size);have N:=aa (Ul.o.trans (CB.mono (by simp)));have HK5:=aa (mG.o w5 N.o);have HNB:=aa (Tv CB);clear yg CB)
      | (go_at_call 228;refine(xE.o _ Uk.o).mono ?_;rintro e w5 ⟨Ad,G,rfl,yg,CB⟩;have zT:=aa (yg.j Uk.o.size);have N:=aa (Uk.o.trans (CB.mono (am _)));have HK5:=aa (mG.o w5 N.o);have HKA:=aa (mG.o _ (N.o.trans ((ar _ w5).alloc N.o.size (K #[V ⟨#[67,111,110,116,101,110,116,45,76,101,110,103,116,104]⟩,V C] 148))));clear yg CB))
     all_goals (go_wp2;go_meet;exact⟨g6,cap6,rfl,rfl,rfl,ZW.o,HG6.o,wL.o⟩)
    case rest =>
     obtain⟨gf,Af,rfl,rfl,rfl,Fg,hG6,Yd⟩:=hcut;have hrow:bx wc (M ⟨gf,0,U⟩) Af (l.length+1) (aJ c):=by rw[HPV.o];exact Fg.a
     have DJ:Hid (rX w #[I J (b:Int),Z fo l.length fZ,Z bo body.length fV] 126 c (M ⟨gf,0,U⟩) Af g r (kh b) wc) :=
      ⟨HOb.o.a Yd,HUb.o.j Yd,by rw[Uj.o];exact hrow,fun a e=>by injection e with e;subst e;exact⟨by have:=CJ.o;show gf≠g;omega,(Fg.e _ rfl).2⟩⟩
     clear Fg hG6 Yd hrow mG xE HOb HUb y0 y1 s CJ;go_wp2;go_loopw [5,39] (fun vo vi wr=>∃(i n g r:Nat),i<=l.length+1∧vi=I J i∧vo=Z (M ⟨g,0,U⟩) n r∧(kh b++(c.take i).flatMap jn).length=n∧(∀p∈c.take i,(bO p.1.data.toList p.2.data.toList).2=0)∧rX w #[I J (b:Int),Z fo l.length fZ,Z bo body.length fV] 126 c (M ⟨gf,0,U⟩) Af g r (kh b++(c.take i).flatMap jn) wr) (fun _ vi _=>l.length+1-(intOf vi).toNat)
     case atStart=>exact⟨0,_,_,_,ax _,rfl,rfl,by simpa using HZl.o,fun p T=>by simp at T,by simpa using DJ.o⟩
     case round =>
      obtain⟨i,n,g,r,hi,rfl,rfl,hn,DN,hR⟩:=hrel;have HR:=aa hR;have Ye:=aa hn;have HZr:=aa DN
      have hnl:n<=200000:=by
       have h2:=B2 (c.take i) (fun p T=>HPc.o p (List.mem_of_mem_take T));have h3:(c.take i).length<=16:=by rw[bV,Uj.o];omega
       rw[aD,HZl.o] at hn;omega
      clear hR DJ hn DN;obtain⟨x,s,y⟩:=S.o wr HR.o.b;by_cases hlt:i<l.length+1
      . have hlt':(i:Int)<(l.length:Int)+1:=by omega
        have V9:i<c.length:=by rw[Uj.o];exact hlt
        have hp1:=HR.o.e.q (ow c i V9).1;have hp2:=HR.o.e.q (ow c i V9).2;rw[gg,eh] at hp1 hp2;have hfc:=HR.o.e.1;rw[Uj.o] at hfc;have hps:=HPc.o c[i] (eX V9);have sZ:Hid (c.take (i+1)=c.take i++[c[i]]):=fR V9;have Yf:Hid ((bO c[i].1.data.toList c[i].2.data.toList).2≠0->jJ c=(bO c[i].1.data.toList c[i].2.data.toList).2):=fun hc=>FW c i V9 HZr.o hc;generalize c[i]=p at *;have Bb:=aa (EP p.1 p.2 (wr.alloc (K #[V p.1,V p.2] 148)) (by omega) (by omega));have D:=Dm p hps;have Yg:Hid (jn p=(bO p.1.data.toList p.2.data.toList).1++[13,10]):=rfl;have Gp:Hid (Below wr.heap.size wr (wr.alloc (K #[V p.1,V p.2] 148))):=(ar _ _).alloc (am _) _;unfold lW at Bb;generalize hcd:(bO p.1.data.toList p.2.data.toList).2=cd at *;generalize (bO p.1.data.toList p.2.data.toList).1=tx at *;have HCd:=aa hcd;clear hps V9 hcd;by_cases hc0:cd=0
        . subst hc0;have hxz:((⟨tx.toArray⟩:ae)++⟨#[13,10]⟩:ae).size=tx.length+2:=by rw[jq];rfl
          have hxd:((⟨tx.toArray⟩:ae)++⟨#[13,10]⟩:ae).data.toList=tx++[13,10]:=by rw[jy]
          have hxl:tx.length+2<=4004:=by
           have:=Yg.o;rw[this,aD] at D;simpa using D
          have HXz:=aa hxz;have HXd:=aa hxd
          clear hxz hxd D;go_wp2_with fail;refine Bb.o.mono ?_;rintro e w5 ⟨rfl,H⟩;have HR5:=aa (HR.o.f (Gp.o.trans (H.mono (by simp))));clear H x s y Bb;go_wp2_with (at_builtin;refine Bx rfl (.tmp 51) (.tmp 53) 31 9 rfl 5 j0 underlying31 Hj.o O8.o O9.o Pb.o rfl HR5.o.c Ye.o _ _ rfl (vR underlying9 _ _) (by rw[HXz.o];omega) ?_;intro g7 Gq w7 Yh Fh L;have RH:=aa (HR5.o.a Yh Fh L);clear Yh Fh L)
          go_roundw
          case rel =>
           have hlc:kh b++(c.take i).flatMap jn++((⟨tx.toArray⟩:ae)++⟨#[13,10]⟩:ae).data.toList=kh b++(c.take (i+1)).flatMap jn:=by
            rw[sZ.o,List.flatMap_append,HXd.o,ja];congr 2;simp[Yg.o]
           refine⟨i+1,_,g7,Gq,by omega,by go_num,rfl,?_,?_,by rw[<-hlc];exact RH.o⟩
           . rw[<-hlc,aD,Ye.o,HXd.o];simp
           . intro q hq;rw[sZ.o] at hq;rcases eJ.1 hq with hq | hq
             . exact HZr.o q hq
             . simp at hq;subst hq;exact HCd.o
          case measure=>simp[intOf];omega
        . have tc:((cd:Int) != 0)=true:=by rw[dh];omega
          have HLb:=aa (Yf.o hc0);have Pg:=aa hc0
          clear hc0 D;go_wp2_with fail;refine Bb.o.mono ?_;rintro e w5 ⟨rfl,H⟩;have HR5:=aa (HR.o.f (Gp.o.trans (H.mono (by simp))));clear H x s y Bb;go_wp2;(try simp only[Exit.inBlock,Exit.then]);go_ret2;refine .bad cd Pg.o rfl ?_ HR5.o.b.below;rw[HT.o,HLb.o,if_pos Pg.o]
      . obtain rfl:i=l.length+1:=by omega
        have HXe:Hid (pF b l body=(kh b++(c.take (l.length+1)).flatMap jn++[13,10]++body,0)):=by
         have htl:c.take (l.length+1)=c:=by rw[<-Uj.o];exact fL
         have hz:=HZr.o;rw[htl] at hz;unfold Hid;rw[HT.o,OA c hz,if_neg (by simp),htl]
        clear HT;go_wp2_with (first
         | (at_builtin;refine Bx rfl (.tmp 56) (.const (V ⟨#[13,10]⟩)) 31 9 rfl 5 j0 underlying31 Hj.o O8.o O9.o Pb.o rfl HR.o.c Ye.o _ _ rfl (vR underlying9 _ _) (by show n+2<=_;omega) ?_;intro g7 Gq w7 Yh Fh L;have ZX:=HR.o.a Yh Fh L;have RH:=aa ZX;have adu:=aa (yN.o.a ZX.b.below);have z2:=(S.o w7 ZX.b).2.2;clear Yh Fh L ZX)
         | (at_builtin;refine Bx rfl (.tmp 58) (.tmp 60) 31 31 rfl 5 j0 underlying31 Hj.o O8.o O9.o Pb.o rfl RH.o.c (by rw[aD,Ye.o];rfl) _ _ rfl (M7 underlying31 adu.o rfl) (by omega) ?_;intro g8 adv w8 hU8 hT8 hg8;have HR8:=aa (RH.o.a hU8 hT8 hg8);clear hU8 hT8 hg8))
        go_ret2;have u:=HR8.o.c;refine .ok g8 adv _ rfl ?_ (by rw[HXe.o]) (by rw[HXe.o];exact⟨by have:=u.c;omega,u.b,u.e,u.f,u.d,u.a⟩) HR8.o.b.below;rw[HXe.o];show _=(kh b++(c.take (l.length+1)).flatMap jn++[13,10]++body).length;rw[aD,aD,Ye.o];rfl
 . have HF:=aa (OB (body:=body) B);have tc:(((jK st l:Nat):Int) != 0)=true:=by rw[dh];omega
   have HN0:=aa B;generalize jK st l=fc at *;clear B;go_enter func171,ntmps171;go_wp2_with fail;refine ZV.o.mono ?_;rintro e w1 ⟨rfl,m⟩;have yT:=aa (H0.o.a m);clear m H0 x s y;go_wp2;go_ret2;exact .bad fc HN0.o rfl HF.o yT.o.below
theorem pY (st:Int)(w:X):Calls prog 173 #[I J st] w fun e w'=>e=Y (.agg #[I J st,Z U 0 0,Z U 0 0])∧Below w.heap.size w w':=by
 go_enter func173,ntmps173;go_wp2;refine aS (v:=.agg #[I J st,Z U 0 0,Z U 0 0]) (by simp[results,results173,go_sem]) rfl ⟨rfl,?_⟩;exact(ar _ _).alloc (am _) _
theorem rF {W:X}{b j:Nat}{f g i:Value}(h:W.heap[b]? = M (K #[f,g,i] j (0,0)))(a c d:Value):
 (W.cell? ⟨b,0,U⟩=M f∧W.cell? ⟨b,1,U⟩=M g∧W.cell? ⟨b,2,U⟩=M i∧W.frozen? ⟨b,0,U⟩=F∧W.frozen? ⟨b,1,U⟩=F∧W.frozen? ⟨b,2,U⟩=F) ∧
 Hid ((((W.setCell ⟨b,0,U⟩ a).setCell ⟨b,1,U⟩ c).setCell ⟨b,2,U⟩ d).cell? ⟨b,0,U⟩=M a∧(((W.setCell ⟨b,0,U⟩ a).setCell ⟨b,1,U⟩ c).setCell ⟨b,2,U⟩ d).cell? ⟨b,1,U⟩=M c∧(((W.setCell ⟨b,0,U⟩ a).setCell ⟨b,1,U⟩ c).setCell ⟨b,2,U⟩ d).cell? ⟨b,2,U⟩=M d∧ak (fun k=>k=b) W (((W.setCell ⟨b,0,U⟩ a).setCell ⟨b,1,U⟩ c).setCell ⟨b,2,U⟩ d)):=by
 have e:=aR _ b 2 _ _ d (aR _ b 1 _ _ c (aR W b 0 _ _ a h));exact⟨⟨aq W _ 0 _ _ _ h,aq W _ 1 _ _ _ h,aq W _ 2 _ _ _ h,aP W _ 0 _ _ h,aP W _ 1 _ _ h,aP W _ 2 _ _ h⟩,aq _ _ 0 _ _ _ e,aq _ _ 1 _ _ _ e,aq _ _ 2 _ _ _ e,js b [a,c,d] 0 W⟩
theorem ym (k:Int)(w:X):Calls prog 49 #[I J k] w fun e w'=>e=Y (.bool (decide (0<=k)&&decide (k<4)))∧w'=w:=by
 by_cases h:0<=k
 . have t:decide (k≥0)=true:=bq h;rw[bq h,Bool.true_and];go_enter func49,ntmps49;go_wp2;go_ret;exact⟨rfl,rfl⟩
 . have t:decide (k≥0)=F:=aX h;rw[aX h,Bool.false_and];go_enter func49,ntmps49;go_wp2;go_ret;exact⟨rfl,rfl⟩
theorem NF (c:Nat)(w:X):Calls prog 110 #[I J (c:Int)] w fun e w'=>e=Y (.agg #[I J ((pA c).1:Int),Z U 0 0,Z U 0 0])∧Below w.heap.size w w':=by
 by_cases h:c=4
 . subst h;go_enter func110,ntmps110;go_wp2_with fail;refine((fun W=>pY 413 W) _).mono ?_;rintro e d ⟨rfl,a⟩;obtain⟨⟨m,n,p,q,r,s⟩,f⟩:=rF ((a.block w.heap.size (by simp)).trans (be w _)) (I J 413) (Z U 0 0) (Z U 0 0);have b:=au ((ar _ w).alloc (am _) _) a;go_wp2;generalize (((d.setCell ⟨w.heap.size,0,U⟩ _).setCell ⟨w.heap.size,1,U⟩ _).setCell ⟨w.heap.size,2,U⟩ _)=u at *;obtain⟨g,i,j,l⟩:=f.o;refine aS (v:=.agg #[I J 413,Z U 0 0,Z U 0 0]) (by simp[results,results110,go_sem,g,i,j]) rfl ⟨rfl,b.trans (l.below (fun k e=>by omega) b.size)⟩
 . have t:((c:Int)==4)=F:=aO.2 (by omega);have x:(pA c).1=400:=by unfold pA;simp[h]
   rw[x];go_enter func110,ntmps110;go_wp2_with fail;refine((fun W=>pY 400 W) _).mono ?_;rintro e d ⟨rfl,a⟩;obtain⟨⟨m,n,p,q,r,s⟩,f⟩:=rF ((a.block w.heap.size (by simp)).trans (be w _)) (I J 400) (Z U 0 0) (Z U 0 0);have b:=au ((ar _ w).alloc (am _) _) a;go_wp2;generalize (((d.setCell ⟨w.heap.size,0,U⟩ _).setCell ⟨w.heap.size,1,U⟩ _).setCell ⟨w.heap.size,2,U⟩ _)=u at *;obtain⟨g,i,j,l⟩:=f.o;refine aS (v:=.agg #[I J 400,Z U 0 0,Z U 0 0]) (by simp[results,results110,go_sem,g,i,j]) rfl ⟨rfl,b.trans (l.below (fun k e=>by omega) b.size)⟩
theorem gn.y {w:X}{g gs:Nat}{v:Nat->List Value}(h:gn w g gs v){k:Nat}(a:k<4){m n a2 p q r s:Value}(t:v k=[m,n,a2,p,q,r,s]){o:Nat}(u:1+k*7=o)(b c d e f l:Value):
 gn ((((((w.setCell ⟨g,o+1,U⟩ b).setCell ⟨g,o+2,U⟩ c).setCell ⟨g,o+3,U⟩ d).setCell ⟨g,o+4,U⟩ e).setCell ⟨g,o+5,U⟩ f).setCell ⟨g,o+6,U⟩ l) g gs (bJ v k [m,b,c,d,e,f,l])∧ak (fun i=>i=g) w ((((((w.setCell ⟨g,o+1,U⟩ b).setCell ⟨g,o+2,U⟩ c).setCell ⟨g,o+3,U⟩ d).setCell ⟨g,o+4,U⟩ e).setCell ⟨g,o+5,U⟩ f).setCell ⟨g,o+6,U⟩ l):=by
 subst u;refine⟨?_,js g [b,c,d,e,f,l] (1+k*7+1) w⟩;have:=(((((h.e a (j:=1) (by decide) b).e a (j:=2) (by decide) c).e a (j:=3) (by decide) d).e a (j:=4) (by decide) e).e a (j:=5) (by decide) f).e a (j:=6) (by decide) l;simp only[pb,cZ,t] at this;exact this
theorem yD {w:X}{g gs:Nat}{v:Nat->List Value}(h:gn w g gs v){k:Nat}(a:k<4){f:Value}{m t:ae}{mi ln:Int}{fo bo:ag}{nf fZ nb fV:Nat}(b:v k=[f,V m,V t,I J mi,Z fo nf fZ,I J ln,Z bo nb fV]):
 Calls prog 50 #[Q (M ⟨g,1+k*7,U⟩)] w fun e w'=>e=Y (.agg #[V m,V t,I J mi,Z fo nf fZ,I J ln,Z bo nb fV])∧gn w' g gs (bJ v k [f,V ⟨#[]⟩,V ⟨#[]⟩,I J 0,Z U 0 0,I J 0,Z U 0 0])∧ak (fun i=>i=g) w w':=by
 have p:=h.a a (j:=1) (by decide) (u:=V m) (by rw[b];rfl);have q:=h.a a (j:=2) (by decide) (u:=V t) (by rw[b];rfl);have r:=h.a a (j:=3) (by decide) (u:=I J mi) (by rw[b];rfl);have s:=h.a a (j:=4) (by decide) (u:=Z fo nf fZ) (by rw[b];rfl);have x:=h.a a (j:=5) (by decide) (u:=I J ln) (by rw[b];rfl);have y:=h.a a (j:=6) (by decide) (u:=Z bo nb fV) (by rw[b];rfl);have z:=h.f (1+k*7+1);have B:=h.f (1+k*7+2);have C:=h.f (1+k*7+3);have D:=h.f (1+k*7+4);have G:=h.f (1+k*7+5);have H:=h.f (1+k*7+6)
 have L:=h.j;obtain⟨o,l⟩:∃o,1+k*7=o:=⟨_,rfl⟩;rw[l] at p q r s x y z B C D G H ⊢;go_enter func50,ntmps50;go_wp2;have N:=h.y a b l (V ⟨#[]⟩) (V ⟨#[]⟩) (I J 0) (Z U 0 0) (I J 0) (Z U 0 0);change bodyPost _ _ _ _ _ (World.alloc (World.alloc (((((((w.setCell ⟨g,o+1,U⟩ (V ⟨#[]⟩)).setCell ⟨g,o+2,U⟩ (V ⟨#[]⟩)).setCell ⟨g,o+3,U⟩ (I J 0)).setCell ⟨g,o+4,U⟩ (Z U 0 0)).setCell ⟨g,o+5,U⟩ (I J 0)).setCell ⟨g,o+6,U⟩ (Z U 0 0))) _) _);have T:((((((w.setCell ⟨g,o+1,U⟩ (V ⟨#[]⟩)).setCell ⟨g,o+2,U⟩ (V ⟨#[]⟩)).setCell ⟨g,o+3,U⟩ (I J 0)).setCell ⟨g,o+4,U⟩ (Z U 0 0)).setCell ⟨g,o+5,U⟩ (I J 0)).setCell ⟨g,o+6,U⟩ (Z U 0 0)).heap.size=w.heap.size:=by simp
 generalize ((((((w.setCell ⟨g,o+1,U⟩ (V ⟨#[]⟩)).setCell ⟨g,o+2,U⟩ (V ⟨#[]⟩)).setCell ⟨g,o+3,U⟩ (I J 0)).setCell ⟨g,o+4,U⟩ (Z U 0 0)).setCell ⟨g,o+5,U⟩ (I J 0)).setCell ⟨g,o+6,U⟩ (Z U 0 0))=c at *;obtain⟨d,W⟩:=N;have n:Below c.heap.size c ((c.alloc (K #[V m,V t,I J mi,Z fo nf fZ,I J ln,Z bo nb fV] 84)).alloc (K #[V m,V t,I J mi,Z fo nf fZ,I J ln,Z bo nb fV] 84)):=au ((ar _ _).alloc (am _) _) ((ar _ _).alloc (am _) _);refine aS (v:=.agg #[V m,V t,I J mi,Z fo nf fZ,I J ln,Z bo nb fV]) (by rw[<-T];simp[results,results50,go_sem]) rfl ⟨rfl,⟨(n.block g d.j).trans d.c,d.b⟩,W.a (ak.e (S:=fun _=>False) n) (fun _ e _=>e.elim)⟩
theorem B3 (w:X):Calls prog 51 #[] w fun e w'=>∃gp,e=Y (.agg #[Q (M ⟨gp,0,U⟩),V ⟨#[]⟩,V ⟨#[]⟩,I J 0,Z U 0 0,I J 0,Z U 0 0])∧dN w' (fun k=>w.heap.size<=k) gp pJ∧Below w.heap.size w w':=by
 go_enter func51,ntmps51;go_wp2_with fail;refine((fun W=>Nb W) _).mono ?_;rintro e b ⟨gp,rfl,s,d⟩;have a:=(d.block w.heap.size (by simp)).trans (be w _);have x:=aq b _ 0 _ _ _ a;have y:=aq b _ 1 _ _ _ a;have z:=aq b _ 2 _ _ _ a;have B:=aq b _ 3 _ _ _ a;have C:=aq b _ 4 _ _ _ a;have D:=aq b _ 5 _ _ _ a;have G:=aq b _ 6 _ _ _ a
 have H:=fun j=>aP b _ j _ _ a;have f:=au ((ar _ w).alloc (am _) _) d;have t:dN b (fun k=>w.heap.size+1<=k) gp pJ:=s.a (fun k _ e=>by rw[bu] at e;exact e);have u:=aa a;go_wp2;have g:ak (fun k=>k=w.heap.size) b (((((((b.setCell ⟨w.heap.size,0,U⟩ (Q (M ⟨gp,0,U⟩))).setCell ⟨w.heap.size,1,U⟩ (V ⟨#[]⟩)).setCell ⟨w.heap.size,2,U⟩ (V ⟨#[]⟩)).setCell ⟨w.heap.size,3,U⟩ (I J 0)).setCell ⟨w.heap.size,4,U⟩ (Z U 0 0)).setCell ⟨w.heap.size,5,U⟩ (I J 0)).setCell ⟨w.heap.size,6,U⟩ (Z U 0 0)):=js w.heap.size [Q (M ⟨gp,0,U⟩),V ⟨#[]⟩,V ⟨#[]⟩,I J 0,Z U 0 0,I J 0,Z U 0 0] 0 b;have a:=aR _ _ 6 _ _ (Z U 0 0) (aR _ _ 5 _ _ (I J 0) (aR _ _ 4 _ _ (Z U 0 0) (aR _ _ 3 _ _ (I J 0) (aR _ _ 2 _ _ (V ⟨#[]⟩) (aR _ _ 1 _ _ (V ⟨#[]⟩) (aR b w.heap.size 0 _ _ (Q (M ⟨gp,0,U⟩)) u.o))))));generalize (((((((b.setCell ⟨w.heap.size,0,U⟩ (Q (M ⟨gp,0,U⟩))).setCell ⟨w.heap.size,1,U⟩ (V ⟨#[]⟩)).setCell ⟨w.heap.size,2,U⟩ (V ⟨#[]⟩)).setCell ⟨w.heap.size,3,U⟩ (I J 0)).setCell ⟨w.heap.size,4,U⟩ (Z U 0 0)).setCell ⟨w.heap.size,5,U⟩ (I J 0)).setCell ⟨w.heap.size,6,U⟩ (Z U 0 0))=c at *;have i:=aq c _ 0 _ _ _ a;have l:=aq c _ 1 _ _ _ a;have m:=aq c _ 2 _ _ _ a;have n:=aq c _ 3 _ _ _ a;have p:=aq c _ 4 _ _ _ a;have q:=aq c _ 5 _ _ _ a;have r:=aq c _ 6 _ _ _ a
 simp at i l m n p q r;refine aS (v:=.agg #[Q (M ⟨gp,0,U⟩),V ⟨#[]⟩,V ⟨#[]⟩,I J 0,Z U 0 0,I J 0,Z U 0 0]) (by simp[results,results51,go_sem,i,l,m,n,p,q,r]) rfl ⟨gp,rfl,?_,f.trans (g.below (fun k e=>by omega) f.size)⟩;exact(t.e g (fun k e L=>by omega)).a (fun k _ e=>by omega)
theorem Mm (m t:ae)(mi ln:Int)(fo bo:ag)(nf fZ nb fV:Nat)(w:X)(b:t.size<=100000):Calls prog 52 #[.agg #[V m,V t,I J mi,Z fo nf fZ,I J ln,Z bo nb fV]] w fun e w'=>e=Y (.bool (decide (m=ui)&&up t))∧Below w.heap.size w w':=by
 have a:=(ar _ w).alloc (am _) (K #[V m,V t,I J mi,Z fo nf fZ,I J ln,Z bo nb fV] 84);by_cases h:m=ui
 . have c:(m.toList==[80,65,84,67,72])=true:=by rw[cJ,Lib.toList_data,h];rfl
   rw[bq h,Bool.true_and];clear h;go_enter func52,ntmps52;go_wp2_with fail;refine((fun W=>B0 t W b) _).mono ?_;rintro e f ⟨rfl,d⟩;subst d;go_wp2;go_ret;exact⟨rfl,a⟩
 . have c:(m.toList==[80,65,84,67,72])=F:=by
    rw[aO,Lib.toList_data];intro e;exact h (by rw[ByteArray.ext_iff,<-vw,e];rfl)
   rw[aX h,Bool.false_and];go_enter func52,ntmps52;go_wp2;go_ret;exact⟨rfl,a⟩
structure Tx (w:X)(l:ab)(e:Ending)(w':X):Prop where
 a:∃(ao:ag) (cap n:Nat),e=Y (Z ao n cap)∧n=l.length∧az w' ao cap l
 b:Below w.heap.size w w'
theorem EF (w:X)(r:mX)(fo bo:ag)(nf fZ nb fV:Nat)(b:pw r)(d:r.2.1.length=nf)(m:bx w fo fZ nf (aJ r.2.1))(p:r.2.2.length=nb)(s:az w bo fV r.2.2)(t:di w):
 Calls prog 108 #[.agg #[I J (r.1:Int),Z fo nf fZ,Z bo nb fV]] w fun e w'=>Tx w (mm r) e w':=by
 subst d;have a:=(ar _ w).alloc (am _) (K #[I J (r.1:Int),Z fo r.2.1.length fZ,Z bo nb fV] 126);have z:=b.c;have B:=b.b
 have u:=M8 _ (r.1:Int) r.2.1 fo bo fZ fV nb r.2.2 (m.a a) (by omega) b.d p (s.a a) (by omega) (t.a a);have l:=aa a;have v:mm r=(pF (r.1:Int) r.2.1 r.2.2).1:=rfl;rw[v];generalize pF (r.1:Int) r.2.1 r.2.2=q at *;go_enter func108,ntmps108;go_wp2_with fail;refine u.mono ?_;rintro e C x;cases x with
 | bad c D f i a =>
   subst f;have j:=aa (au l.o a);go_wp2;go_ret;refine⟨⟨U,0,0,rfl,by rw[i];rfl,by rw[i];exact az.e _⟩,j.o⟩
 | ok g k n f d i y a =>
   subst f;subst d;have j:=aa (au l.o a);go_wp2;go_ret;exact⟨⟨_,k,_,rfl,rfl,y.q⟩,j.o⟩
theorem Sg (a:ae)(l:aC):iI (aH a l)=ba (aQ a l):=by
 show iI (aQ a l)=_;match aQ a l with
 | []=>rfl
 | [_]=>rfl
 | _::_::_=>rfl
theorem KN {w:X}{l:aC}{fo:ag}{fZ nf:Nat}(h:fX w l fo fZ nf):
 Calls prog 230 #[Z fo nf fZ] w fun e w'=>e=Y (.tuple #[V ((mj l).elim ⟨#[]⟩ iT),.bool (mj l).isSome])∧Below w.heap.size w w':=by
 have k:=aa (vQ l su fo fZ nf w h.d h.f (by have:=h.c;omega) h.b (by decide));have hz:=h.e jM;rw[Sg,Bi] at k;unfold su at k;obtain⟨B,d⟩:∃B,B=mj l:=⟨_,rfl⟩;rw[<-d];unfold mj at d;generalize ba (aQ jM l)=r at *;obtain⟨v,c⟩:=r;simp only[lW] at hz k d;by_cases hc:c=0
 . subst hc;rw[if_neg (by simp)] at d;have m:=aa d;have HP:Hid (∀W,Calls prog 269 #[V ⟨v.toArray⟩] W fun e w'=>tG W (ee v) e w'):=fun W=>by
    have:=BN ⟨v.toArray⟩ W (by show v.toArray.size<=_;rw[cx];omega);rw[show(⟨v.toArray⟩:ae).data.toList=v from by simp] at this;exact this
   go_enter func230,ntmps230;go_wp2_with fail;refine k.o.mono ?_;rintro e w1 ⟨rfl,f⟩;have G:=aa f;go_wp2_with fail;refine(HP.o _).mono ?_;rintro e H ⟨word,b,ao,n,code,rfl,z,s,L⟩;have g:Below H.heap.size H (H.alloc (K #[V word,Z ao b.length n] 244)):=(ar _ _).alloc (am _) _;have a:=aa (au (au G.o L) g);cases C:ee v with
   | inl c2 =>
     rw[C] at z m;obtain⟨rfl,rfl,rfl⟩:=z;obtain rfl:B=U:=m.o;by_cases h0:code=0
     . subst h0;go_wp2;go_ret2;exact⟨rfl,a.o⟩
     . have t0:((code:Int) != 0)=true:=by rw[dh];omega
       go_wp2;go_ret2;exact⟨rfl,a.o⟩
   | inr x =>
     obtain⟨N,qs⟩:=x;rw[C] at z m;obtain⟨rfl,i,t⟩:=z;simp only at i t;have mF:=DB C;have u:=AI C;subst t;have hn8:b.length<=8:=by rw[<-yk];exact mF
     have S:∀p∈b,p.2.size<=1000000:=fun p hp=>by
      have h2:=(u.2 (p.1.data.toList,p.2.data.toList) (oh.2 ⟨p,hp,rfl⟩)).2;rw[cA] at h2;omega
     obtain⟨T,j⟩:∃T,b.length=T:=⟨_,rfl⟩;rw[j] at s g a;have HG:=wa word b ⟨#[98,111,117,110,100,97,114,121]⟩ ao n T _ (s.a.a g) j (by omega) S;have HGl:=zw ⟨#[98,111,117,110,100,97,114,121]⟩ b;rw[j];by_cases D:N=wP
     . have tw:(word.toList==[109,117,108,116,105,112,97,114,116,47,102,111,114,109,45,100,97,116,97])=true:=by rw[cJ,Lib.toList_data,i,D];rfl
       have hBq:B=(iD ⟨#[98,111,117,110,100,97,114,121]⟩ b).map (fun x=>x.data.toList):=by
        rw[HGl,m.o];show(if N≠wP then U else ig zU (dx b))=_;rw[if_neg (by simp[D])];rfl
       generalize iD ⟨#[98,111,117,110,100,97,114,121]⟩ b=q at *;go_wp2_with fail;refine HG.mono ?_;rintro e w3 ⟨rfl,hb3⟩;have HB3:=au a.o hb3;go_wp2;go_ret2;refine⟨?_,HB3⟩;rw[hBq];cases q with
       | none=>rfl
       | some y=>simp[iT]
     . have tw:(word.toList==[109,117,108,116,105,112,97,114,116,47,102,111,114,109,45,100,97,116,97])=F:=by
        rw[aO,Lib.toList_data,i];exact D
       obtain rfl:B=U:=by
        rw[m.o];show(if N≠wP then U else ig zU (dx b))=_;rw[if_pos D]
       go_wp2;go_ret2;exact⟨rfl,a.o⟩
 . have t0:((c:Int) != 0)=true:=by rw[dh];omega
   rw[if_pos hc] at d;subst d;go_enter func230,ntmps230;go_wp2_with fail;refine k.o.mono ?_;rintro e w1 ⟨rfl,f⟩;go_wp2;go_ret2;exact⟨rfl,f⟩
theorem Q2 (a:List bT)(k:Nat)(b:k<a.length):gP (a.take (k+1))=gP (a.take k)+(a[k].a.length+200):=by
 unfold gP;rw[fR b,lM,List.sum_append];simp
theorem Hs (a:List bT)(k:Nat):gP (a.take k)<=gP a:=by
 unfold gP;conv=>rhs;rw[<-iZ k a,lM,List.sum_append]
 omega
theorem Ob {w:X}{ao:ag}{cap n:Nat}{a:List bT}(h:ug w ao cap a)(r:a.length=n)(G:gP a<=1000000000):
 Calls prog 232 #[Z ao n cap] w fun e w'=>e=Y (I J (gP a:Int))∧Below w.heap.size w w':=by
 subst r;have u:=aa h;have m:a.length<=cap:=by obtain⟨_,_,v,_⟩:=h;exact v.1
 have H:a.length<=10000000:=by
  have x:∀l:List bT,l.length*200<=gP l:=fun l=>by
   induction l with
   | nil=>simp[gP]
   | cons p t L=>unfold gP at *;simp at *;omega
  have:=x a;omega
 go_enter func232,ntmps232;go_wp2;go_loopw [3,8] (fun y f wr=>∃i:Nat,i<=a.length∧f=I J i∧y=I J (gP (a.take i):Int)∧Below w.heap.size w wr) (fun _ f _=>a.length-(intOf f).toNat)
 case atStart=>exact⟨0,ax _,rfl,rfl,ar _ _⟩
 case round =>
  obtain⟨i,N,rfl,rfl,g⟩:=hrel;by_cases d:i<a.length
  . have q:(i:Int)<a.length:=by omega
    obtain⟨b,o,s,rfl,S,T,W,z,B⟩:=(u.o.a g).e i d;have j:=Q2 a i d;have C:=Hs a i;have c:=Hs a (i+1);rw[j] at c;obtain⟨nb,k⟩:∃nb,a[i].a.length=nb:=⟨_,rfl⟩;rw[k] at z j c;have D:=au g ((ar _ wr).alloc (am _) (K #[V a[i].c,V a[i].b,V a[i].d,Z s.a nb s.b] 96));generalize a[i]=p at *;go_wp2;go_roundw
    case rel=>exact⟨i+1,by omega,by go_num,by rw[j];go_num,D⟩
    case measure=>simp[intOf];omega
  . obtain rfl:i=a.length:=by omega
    go_wp2;go_ret;refine⟨?_,g⟩;rw[fL];rfl
inductive rZ
 | row
 | jc
 | ids
 | list
 | box
 | out
def jV (l:List Int):List Value:=l.map fun i=>Value.int J i
def AF (io:ag)(gT:Nat)(ids:List Int):dB:=fun w S=>aL w 0 3 1 io gT ids.length (jV ids)∧∀a,io=M a->S a.block
theorem AF.a (c:ag)(d:Nat)(ids:List Int):bK (AF c d ids):=⟨fun h f b=>⟨h.1.f f (fun a e=>b _ (h.2 a e)),h.2⟩,fun h b=>⟨h.1,fun a e=>b _ (h.1.e a e).2 (h.2 a e)⟩⟩
def tJ (g:Nat)(o:Obj):dB:=fun w S=>w.heap[g]? = M o∧S g
theorem tJ.a (g:Nat)(o:Obj):bK (tJ g o):=⟨fun h b a=>⟨b.q h.1 (a g h.2),h.2⟩,fun h a=>⟨h.1,a g (bM.1 h.1).1 h.2⟩⟩
def oe (gs:Nat)(io:ag)(ni gT:Nat)(lo:ag)(nl iB:Nat):Obj:=K #[Q (M ⟨gs,0,U⟩),Z io ni gT,Z lo nl iB] 295 (0,0)
def ga (L gs:Nat)(s:av)(o:Obj)(io:ag)(gT:Nat)(ids:List Int)(lo:ag)(iB:Nat)(told:ab)(b u:dB):rZ->dB
 | .row=>tJ L o
 | .jc=>fun w S=>aT w S gs s
 | .ids=>AF io gT ids
 | .list=>nJ lo iB told
 | .box=>b
 | .out=>u
theorem qb {L gs:Nat}{s:av}{o:Obj}{e:ag}{f:Nat}{ids:List Int}{g:ag}{i:Nat}{a:ab}{b u:dB}(j:bK b)(k:bK u):∀d,bK (ga L gs s o e f ids g i a b u d)
 | .row=>tJ.a _ _
 | .jc=>⟨fun h l c=>aT.f h l c,fun h c=>aT.a h c⟩
 | .ids=>AF.a _ _ _
 | .list=>nJ.a _ _ _
 | .box=>j
 | .out=>k
def fh (w:X)(S:Nat->Prop)(L gs:Nat)(s:av)(ids:List Int)(told:ab):Prop :=
 ∃(κ:Nat->rZ) (io:ag) (gT:Nat) (lo:ag) (iB:Nat),eQ (ga L gs s (oe gs io ids.length gT lo told.length iB) io gT ids lo iB told eK eK) κ w∧∀k,κ k≠.out->S k
section
variable {w w' w0:X} {S S' D:Nat->Prop} {L gs:Nat} {s:av} {ids:List Int} {told:ab}
theorem fh.B (h:fh w S L gs s ids told)(c:ak S' w w')(f:∀k,S k->¬S' k):fh w' S L gs s ids told:=by
 obtain⟨g,i,j,l,m,n,a⟩:=h;refine⟨g,i,j,l,m,fun d=>?_,a⟩;by_cases b:d=.out
 . subst b;exact trivial
 . exact(qb bK.a bK.a d).c (n d) c (fun k e=>f k (a k (by rw[e];exact b)))
theorem fh.y (h:fh w S L gs s ids told)(a:Below w.heap.size w w'):fh w' S L gs s ids told:=h.B (ak.e (S:=fun _=>False) a) (fun _ _ e=>e)
theorem qe {κ:Nat->rZ}{c:rZ}(a:∀k,κ k≠.out->ay S w k){n:Nat}(b:w.heap.size<=n):∀k,cy κ n c k≠.out->ay S w k:=by intro l;induction l <;> grind [ay,cy]
section
variable {κ:Nat->rZ} {o:Obj} {io:ag} {gT:Nat} {lo:ag} {iB:Nat} {b u:dB}
theorem Ak (f:bK b)(g:bK u)(h:eQ (ga L gs s o io gT ids lo iB told b u) κ w){a:av}(i:aT w' (ay (fun k=>κ k=.jc) w) gs a)(j:ak (fun k=>κ k=.jc) w w'):eQ (ga L gs a o io gT ids lo iB told b u) (cy κ w.heap.size .jc) w' :=
 h.a (qb f g) j (fun _ e=>e) (X':=ga L gs a o io gT ids lo iB told b u) ⟨fun h l c=>aT.f h l c,fun h c=>aT.a h c⟩ i (fun _ e=>e) (fun d m=>by cases d <;> first | rfl | exact absurd rfl m)
theorem G4 (a:bK b)(c:bK u)(h:eQ (ga L gs s o io gT ids lo iB told b u) κ w){o':Obj}(f:w'.heap[L]? = M o')(g:ak (fun k=>k=L) w w'):eQ (ga L gs s o' io gT ids lo iB told b u) (cy κ w.heap.size .row) w' :=
 h.a (qb a c) g (fun k e=>by rw[e];exact(h .row).2) (X':=ga L gs s o' io gT ids lo iB told b u) (tJ.a _ _) (N:=fun k=>k=L) ⟨f,rfl⟩ (fun k e=>A (by rw[e];exact(h .row).2)) (fun d i=>by cases d <;> first | rfl | exact absurd rfl i)
theorem Te (l:bK b)(m:bK u)(h:eQ (ga L gs s o io gT ids lo iB told b u) κ w){f:ag}{g:Nat}{MB:List Int}(n:aL w' 0 3 1 f g MB.length (jV MB))(p:w.grownBy w' (aw io))(i:∀j,aw f=M j->aw io=M j∨w.heap.size<=j):eQ (ga L gs s o f g MB lo iB told b u) (cy κ w.heap.size .ids) w':=by
 have c:∀k,aw io=M k->κ k=.ids:=fun k e=>by
  cases io with
  | none=>cases e
  | some a=>injection e with e;rw[<-e];exact(h .ids).2 a rfl
 refine h.a (qb l m) (ak.y (S:=fun k=>aw io=M k) p (fun k e=>e)) c (X':=ga L gs s o f g MB lo iB told b u) (AF.a _ _ _) (N:=fun k=>aw io=M k∨w.heap.size<=k) ⟨n,fun a e=>i a.block (by rw[e];rfl)⟩ (fun k e=>?_) (fun d q=>by cases d <;> first | rfl | exact absurd rfl q);rcases e with e | e
 . exact A (c k e)
 . exact R e
theorem SL (g:bK b)(i:bK u)(h:eQ (ga L gs s o io gT ids lo iB told b u) κ w){c:ag}{f:Nat}{a:ab}(j:nJ c f a w' (ay (fun k=>κ k=.list) w))(l:ak (fun k=>κ k=.list) w w'):eQ (ga L gs s o io gT ids c f a b u) (cy κ w.heap.size .list) w' :=
 h.a (qb g i) l (fun _ e=>e) (X':=ga L gs s o io gT ids c f a b u) (nJ.a _ _ _) j (fun _ e=>e) (fun d m=>by cases d <;> first | rfl | exact absurd rfl m)
theorem Tf (a:bK b)(c:bK u)(h:eQ (ga L gs s o io gT ids lo iB told b u) κ w)(z:Obj):eQ (ga L gs s o io gT ids lo iB told (tJ w.heap.size z) u) (cy κ w.heap.size .box) (w.alloc z) :=
 h.a (qb a c) (ak.e (S:=fun _=>False) ((ar _ w).alloc (am _) z)) (fun _ e=>e.elim) (X':=ga L gs s o io gT ids lo iB told (tJ w.heap.size z) u) (tJ.a _ _) (N:=fun k=>w.heap.size<=k) ⟨be w z,am _⟩ (fun k e=>R e) (fun d f=>by cases d <;> first | rfl | exact absurd rfl f)
theorem SM (h:eQ (ga L gs s o io gT ids lo iB told b u) κ w):eQ (ga L gs s o io gT ids lo iB told eK eK) κ w
 | .row=>h .row
 | .jc=>h .jc
 | .ids=>h .ids
 | .list=>h .list
 | .box=>trivial
 | .out=>trivial
end
end
def Bp (bo:ag)(fV:Nat)(l:ab):dB:=fun w S=>dM w S bo fV l
theorem Bp.a (bo:ag)(fV:Nat)(l:ab):bK (Bp bo fV l):=⟨fun h b a=>dM.e h b a,fun h a=>dM.a h a⟩
structure go (w:X)(S:Nat->Prop)(L gs n:Nat)(z:Obj)(bo:ag)(fV:Nat)(l:ab)(s:av)(io:ag)(gT:Nat)(ids:List Int)(lo:ag)(iB:Nat)(told:ab)(W:X):Prop where
 c:∃κ,eQ (ga L gs s (oe gs io ids.length gT lo told.length iB) io gT ids lo iB told (tJ n z) (Bp bo fV l)) κ W∧∀k,κ k≠.out->ay S w k
 b:ak S w W
section
variable {w W W':X} {S D:Nat->Prop} {L gs n:Nat} {z:Obj} {bo:ag} {fV:Nat} {l:ab} {s:av} {io:ag} {gT:Nat} {ids:List Int} {lo:ag} {iB:Nat} {told:ab}
theorem go.kW {κ:Nat->rZ}(h:eQ (ga L gs s (oe gs io ids.length gT lo told.length iB) io gT ids lo iB told eK eK) κ w)(a:∀k,κ k≠.out->S k)(b:dM w D bo fV l)(c:∀k,D k->¬S k)(z:Obj):go w S L gs w.heap.size z bo fV l s io gT ids lo iB told (w.alloc z):=by
 have d:eQ (ga L gs s (oe gs io ids.length gT lo told.length iB) io gT ids lo iB told eK (Bp bo fV l)) κ w
  | .row=>h .row
  | .jc=>h .jc
  | .ids=>h .ids
  | .list=>h .list
  | .box=>trivial
  | .out=>dM.a b (fun k _ e=>sJ (fun f=>c k e (a k f)))
 exact⟨⟨_,Tf bK.a (Bp.a _ _ _) d z,qe (fun k e=>A (a k e)) (am _)⟩,ak.e ((ar _ w).alloc (am _) z)⟩
theorem go.a (h:go w S L gs n z bo fV l s io gT ids lo iB told W)(a:Below W.heap.size W W'):go w S L gs n z bo fV l s io gT ids lo iB told W':=by
 obtain⟨⟨b,c,d⟩,f⟩:=h;exact⟨⟨b,c.e (qb (tJ.a _ _) (Bp.a _ _ _)) a,d⟩,f.a (ak.e (S:=fun _=>False) a) (fun _ e _=>e.elim)⟩
theorem go.jZ (h:go w S L gs n z bo fV l s io gT ids lo iB told W):W.heap[L]? = M (oe gs io ids.length gT lo told.length iB):=by
 obtain⟨⟨b,a,c⟩,d⟩:=h;exact(a .row).1
theorem go.e (h:go w S L gs n z bo fV l s io gT ids lo iB told W):W.heap[n]? = M z:=by
 obtain⟨⟨b,a,c⟩,d⟩:=h;exact(a .box).1
theorem go.r (h:go w S L gs n z bo fV l s io gT ids lo iB told W):az W bo fV l:=by
 obtain⟨⟨b,a,c⟩,d⟩:=h;exact dM.b (a .out)
theorem go.G (h:go w S L gs n z bo fV l s io gT ids lo iB told W):aL W 0 3 1 io gT ids.length (jV ids):=by
 obtain⟨⟨b,a,c⟩,d⟩:=h;exact(a .ids).1
theorem go.j (h:go w S L gs n z bo fV l s io gT ids lo iB told W):fh W (ay S w) L gs s ids told∧ak S w W:=by
 obtain⟨⟨a,b,c⟩,d⟩:=h;exact⟨⟨a,io,gT,lo,iB,SM b,c⟩,d⟩
theorem go.f (h:go w S L gs n z bo fV l s io gT ids lo iB told W):∃Sh:Nat->Prop,aT W Sh gs s∧(∀{a:av} {w':X},aT w' (ay Sh W) gs a->ak Sh W w'->go w S L gs n z bo fV l a io gT ids lo iB told w'):=by
 obtain⟨⟨g,b,c⟩,d⟩:=h;refine⟨fun k=>g k=.jc,b .jc,fun i f=>⟨⟨_,Ak (tJ.a _ _) (Bp.a _ _ _) b i f,qe c d.b⟩,d.a f (fun k e j=>?_)⟩⟩;rcases c k (by rw[e];intro h;cases h) with h | h
 . exact h
 . omega
theorem go.y (h:go w S L gs n z bo fV l s io gT ids lo iB told W)(ok:aK s)(a:Int)(m:ae)(c:m.size<=1000000):
 Calls prog 208 #[Q (M ⟨gs,0,U⟩),I J a,V m] W fun e w'=>e=Y (.tuple #[I J (nj s (cw s a m).2),I J ((cw s a m).2:Int)])∧go w S L gs n z bo fV l (cw s a m).1 io gT ids lo iB told w':=by
 obtain⟨Sh,d,f⟩:=h.f;exact(BU d ok a m c).mono (fun e w' b=>⟨b.b,f b.a b.c⟩)
theorem go.q (h:go w S L gs n z bo fV l s io gT ids lo iB told W)(ok:aK s)(b a:Int){c:Nat}(f:l.length=c)(g:c<=1000000):
 Calls prog 216 #[Q (M ⟨gs,0,U⟩),I J b,I J a,Z bo c fV] W fun e w'=>e=Y (I J ((cK s b a l).2:Int))∧go w S L gs n z bo fV l (cK s b a l).1 io gT ids lo iB told w':=by
 obtain⟨Sh,i,j⟩:=h.f;exact(yd i ok b a bo c fV l h.r f g).mono (fun e w' d=>⟨d.d,j d.c d.b⟩)
theorem go.B (h:go w S L gs n z bo fV l s io gT ids lo iB told W)(ok:aK s)(a:Int):
 Calls prog 218 #[Q (M ⟨gs,0,U⟩),I J a] W fun e w'=>e=Y (I J ((gc s a).2:Int))∧go w S L gs n z bo fV l (gc s a).1 io gT ids lo iB told w':=by
 obtain⟨Sh,c,d⟩:=h.f;exact(BP c ok a).mono (fun e w' b=>⟨b.d,d b.c b.b⟩)
theorem go.E (h:go w S L gs n z bo fV l s io gT ids lo iB told W){b:ag}{c:Nat}{i:Int}(u:aL W' 0 3 1 b c (ids.length+1) (jV ids++[I J i]))(d:W.grownBy W' (aw io))(f:∀j,aw b=M j->aw io=M j∨W.heap.size<=j):
 (W'.heap[L]? = M (oe gs io ids.length gT lo told.length iB))∧go w S L gs n z bo fV l s b c (ids++[i]) lo iB told (W'.setCell ⟨L,1,U⟩ (Z b (ids.length+1) c)):=by
 obtain⟨⟨v,g,m⟩,o⟩:=h;have q:=Te (tJ.a _ _) (Bp.a _ _ _) g (MB:=ids++[i]) (by rw[aD];simpa[jV] using u) d f;have x:=d.size;have r:=(q .row).1;have t:ak (fun k=>k=L) W' (W'.setCell ⟨L,1,U⟩ (Z b (ids.length+1) c)):=ak.j _ _ _ _ rfl;have y:=G4 (tJ.a _ _) (Bp.a _ _ _) q (o':=oe gs b (ids.length+1) c lo told.length iB) (aR W' L 1 _ _ _ r) t;have B:=(g .row).2;refine⟨r,⟨⟨cy (cy v W.heap.size .ids) W'.heap.size .row,?_,qe (qe m o.b) (co o.b x)⟩,(o.a (ak.y (S:=fun k=>aw io=M k) d (fun k e=>e)) (fun k e p=>?_)).a t (fun k e p=>?_)⟩⟩
 . rw[aD];exact y
 . cases io with
   | none=>cases e
   | some a =>
     injection e with e;rw[<-e];rw[<-e] at p;rcases m a.block (by rw[(g .ids).2 a rfl];intro h;cases h) with h | h
     . exact h
     . omega
 . rw[e];rw[e] at p;rcases m L (by rw[B];intro h;cases h) with h | h
   . exact h
   . omega
theorem go.jL (h:go w S L gs n z bo fV l s io gT ids lo iB told W):∃f:Nat->Prop,nJ lo iB told W f∧∀(a:ag) (c m:Nat) (d:ab) (W':X),told.length+d.length=m->nJ a c (told++d) W' (ay f W)->ak f W W' ->
 (W'.heap[L]? = M (oe gs io ids.length gT lo told.length iB))∧go w S L gs n z bo fV l s io gT ids a c (told++d) (W'.setCell ⟨L,2,U⟩ (Z a m c)):=by
 obtain⟨⟨o,g,i⟩,j⟩:=h;refine⟨fun k=>o k=.list,g .list,fun a c m d W' u v b=>?_⟩;have p:=SL (tJ.a _ _) (Bp.a _ _ _) g v b;have x:=b.b;have q:=(p .row).1;have r:ak (fun k=>k=L) W' (W'.setCell ⟨L,2,U⟩ (Z a m c)):=ak.j _ _ _ _ rfl;have y:=G4 (tJ.a _ _) (Bp.a _ _ _) p (o':=oe gs io ids.length gT a m c) (aR W' L 2 _ _ _ q) r;have B:=(g .row).2;refine⟨q,⟨⟨cy (cy o W.heap.size .list) W'.heap.size .row,?_,qe (qe i j.b) (co j.b x)⟩,(j.a b (fun k e t=>?_)).a r (fun k e t=>?_)⟩⟩
 . rw[aD,u];exact y
 . rcases i k (by rw[e];intro h;cases h) with h | h
   . exact h
   . omega
 . rw[e];rw[e] at t;rcases i L (by rw[B];intro h;cases h) with h | h
   . exact h
   . omega
end
section
variable {w w0:X} {S D:Nat->Prop} {L gs:Nat}
theorem R5 (p:jU w0 w S)(r:jF)(h:fh w S L gs r.s r.a r.c)(ok:aK r.s)(q:bT){bo:ag}{fV nb:Nat}(hB:dM w D bo fV q.a)(hD:∀k,D k->¬S k)(hn:q.a.length=nb)(hnb:nb<=1000000)(hf:q.b.size<=900000)(hi:r.a.length<=1000)(ht:r.c.length<=1000000):
 Calls prog 287 #[Q (M ⟨L,0,U⟩),.agg #[V q.c,V q.b,V q.d,Z bo nb fV]] w fun e w'=>e=Y (I J ((eZ r q).b:Int))∧fh w' (ay S w) L gs (eZ r q).s (eZ r q).a (eZ r q).c∧ak S w w':=by
 obtain⟨κ,io,gT,lo,iB,hH,hS⟩:=h;have G1:=go.kW hH hS hB hD (K #[V q.c,V q.b,V q.d,Z bo nb fV] 96 (0,0));have i:Hid (∀{s:av} {io:ag} {gT:Nat} {ids:List Int} {lo:ag} {iB:Nat} {l:ab} {W:X},go w S L gs w.heap.size (K #[V q.c,V q.b,V q.d,Z bo nb fV] 96 (0,0)) bo fV q.a s io gT ids lo iB l W->((W.cell? ⟨L,0,U⟩=M (Q (M ⟨gs,0,U⟩))∧W.cell? ⟨L,1,U⟩=M (Z io ids.length gT)∧W.cell? ⟨L,2,U⟩=M (Z lo l.length iB))∧(W.frozen? ⟨L,0,U⟩=F∧W.frozen? ⟨L,1,U⟩=F∧W.frozen? ⟨L,2,U⟩=F))∧(W.cell? ⟨w.heap.size,1,U⟩=M (V q.b)∧W.cell? ⟨w.heap.size,3,U⟩=M (Z bo nb fV))):=fun a=>⟨ss a.jZ,aq _ _ 1 _ _ _ a.e,aq _ _ 3 _ _ _ a.e⟩;obtain⟨⟨⟨B,C,G⟩,H,N,T⟩,b1,b3⟩:=i.o G1;have hmz:(dA q).size=9+q.b.size:=by
  show(rS++q.b.data.toList).toArray.size=_;rw[cx,aD,cI];rfl
 have hme:(⟨#[102,105,108,101,110,97,109,101,32]⟩:ae)++q.b=dA q:=by
  apply ByteArray.ext;rw[ByteArray.data_append];show _=(rS++q.b.data.toList).toArray;rw[<-vw];simp[rS]
 have Ms:=aa ((G1.a (bg _ _)).y ok (nb:Int) (dA q) (by omega));have HP:=aa p;obtain⟨aaT,hR⟩:∃aaT,aaT=eZ r q:=⟨_,rfl⟩;rw[<-hR];unfold eZ at hR;rw[hn] at hR;have c:=aa hR;have sw:=aa (ok.f (nb:Int) (dA q));have YF:Hid ((cw r.s (nb:Int) (dA q)).2≠0->(cw r.s (nb:Int) (dA q)).1=r.s):=fun e=>K7 e;have hl0:=ok.h.c;have hl1:=ok.q
 have hzz:¬(9223372036854775807<9+q.b.size):=by omega
 rw[<-hme] at Ms c sw YF;clear hme;clear G1 hH hS hB p hR ok hmz;generalize hcr:cw r.s (nb:Int) (⟨#[102,105,108,101,110,97,109,101,32]⟩++q.b)=cr at *;clear hcr;obtain⟨s1,k1⟩:=cr;simp only at c Ms sw YF;go_enter func287,ntmps287;go_upto_region 1 with fail
 go_cut [5,6] (fun v5 v6 wd=>v5=I J (nj r.s k1)∧v6=I J (k1:Int)∧go w S L gs w.heap.size (K #[V q.c,V q.b,V q.d,Z bo nb fV] 96 (0,0)) bo fV q.a s1 io gT r.a lo iB r.c wd)
 case first =>
  go_region_held3 (fun W=>W.cell? ⟨L,0,U⟩=M (Q (M ⟨gs,0,U⟩))∧W.cell? ⟨w.heap.size,1,U⟩=M (V q.b)∧W.cell? ⟨w.heap.size,3,U⟩=M (Z bo nb fV)) (go_keep) ((go_at_call 208;refine Ms.o.mono ?_;rintro e w1 ⟨rfl,a⟩;have m:=aa a;obtain⟨⟨⟨d0,d1,d2⟩,e0,e1,e2⟩,d3,d4⟩:=i.o a;clear a))
  all_goals
   go_wp2;go_meet;exact⟨rfl,rfl,m.o⟩
 case rest =>
  obtain⟨rfl,rfl,a⟩:=hcut;clear Ms B C G H N T b1 b3;obtain⟨⟨⟨B,C,G⟩,H,N,T⟩,b1,b3⟩:=i.o a;have m:=aa a;by_cases t:k1=0
  . subst t;obtain⟨f,v⟩:∃f,f=r.s.h.a+1:=⟨_,rfl⟩;have Uf:nj r.s 0=f:=by rw[v];exact if_pos rfl
    rw[Uf];rw[<-v,if_neg (by simp)] at c;have V3:=aa ((a.a (bg _ _)).q sw.o f 0 hn hnb);have PU:=aa (sw.o.a f 0 q.a);have alL:0<=f:=by omega
    have alM:f<=100001:=by omega
    clear a Uf v YF hl0 hl1;obtain⟨n,rfl⟩:∃n:Nat,f=n:=⟨f.toNat,by omega⟩;generalize cK s1 (n:Int) 0 q.a=ap at *;obtain⟨s2,k2⟩:=ap;simp only at c V3 PU;go_upto_region 4 with fail
    go_cut [6] (fun v6 wd=>v6=I J (k2:Int)∧go w S L gs w.heap.size (K #[V q.c,V q.b,V q.d,Z bo nb fV] 96 (0,0)) bo fV q.a s2 io gT r.a lo iB r.c wd)
    case first =>
     go_region_held3 (fun W=>W.cell? ⟨L,0,U⟩=M (Q (M ⟨gs,0,U⟩))∧W.cell? ⟨w.heap.size,3,U⟩=M (Z bo nb fV)) (go_keep) ((go_at_call 216;refine V3.o.mono ?_;rintro e w1 ⟨rfl,a⟩;have HG2:=aa a;obtain⟨⟨⟨d0,d1,d2⟩,e0,e1,e2⟩,d3,d4⟩:=i.o a;clear a))
     all_goals
      go_wp2;go_meet;exact⟨rfl,HG2.o⟩
    case rest =>
     obtain⟨rfl,a⟩:=hcut;clear V3 B C G H N T b1 b3 m sw;obtain⟨⟨⟨B,C,G⟩,H,N,T⟩,b1,b3⟩:=i.o a;have m:=aa a;by_cases hk2:k2=0
     . subst hk2;rw[if_neg (by simp)] at c;obtain⟨i0,hi0,hz0,x,y⟩:=info_parts zh;have Hi:=aa hi0;have kS:=aa hz0;have kM:=aa x;have kT:=aa y
       obtain⟨j0,hj0,hy0,hy1,hy2⟩:=info_parts gm;have Hj:=aa hj0;have O8:=aa hy0;have O9:=aa hy1;have Pb:=aa hy2
       have g:=aa (a.a ((ar _ wc).alloc (am _) (K #[I J (n:Int)] 3)));have HOi:=aa g.o.G;obtain⟨⟨⟨a0,a1,a2⟩,g0,g1,g2⟩,a3,a4⟩:=i.o g.o;clear a hi0 hz0 x y hj0 hy0 hy1 hy2;go_upto_region 9 with (at_builtin;refine lP rfl (.tmp 45) (.tmp 47) 55 rfl 0 3 i0 (I J 0) 1 8 underlying55 Hi.o kS.o kM.o kT.o rfl (by decide) rfl HOi.o rfl (bx.e _ _ 1 _ _) rfl (fun u hu=>by simp at hu;rw[hu];rfl) (by omega) (by omega) (ax _) ?_;intro wS kC w3 hO3 b kE;obtain⟨hr3,hg3⟩:=g.o.E hO3 b (fun j e=>by rcases kE with h | h;exact A (h▸e);exact R (by rw[h] at e;injection e with e;omega));have yK:=aa hg3;obtain⟨⟨h30,h31,h32⟩,y30,y31,y32⟩:=ss hr3;clear hO3 b kE hr3 hg3)
       clear a0 a1 a2 a3 a4 g0 g1 g2 h30 h31 h32 y30 y31 y32 B C G H N T b1 b3 m g HOi;generalize w3.setCell ⟨L,1,U⟩ (Z wS (r.a.length+1) kC)=w4 at *;have Z7:=aa (yK.o.a (bg _ _));have hpw:di w4.drew:=HP.o.c.a (HP.o.a.trans (Z7.o.b.below (fun k e=>HP.o.b k e) HP.o.a.size));have YB:=aa (mD n (by omega) w4.drew hpw);obtain⟨⟨⟨B,C,G⟩,H,N,T⟩,b1,b3⟩:=i.o yK.o;obtain⟨d,hd⟩:∃d:ae,d=⟨(bw 8 n).toArray⟩:=⟨_,rfl⟩;have hdz:d.size<=9:=by
        rw[hd];show(bw 8 n).toArray.size<=9;rw[cx];exact(gz 8 n).1
       have x:¬(9223372036854775807<d.size+1):=by omega
       have y:¬(9223372036854775807<d.size+1+q.b.size):=by omega
       have hz3:¬(9223372036854775807<d.size+1+q.b.size+1):=by omega
       rw[<-hd] at YB;have UQ:Hid ((d++⟨#[32]⟩++q.b++⟨#[10]⟩:ae).data.toList=mW (n:Int) q.b):=by
        unfold Hid mW;rw[hd];simp
       have CJ:Hid ((d++⟨#[32]⟩++q.b++⟨#[10]⟩:ae).size=d.size+1+q.b.size+1):=by
        unfold Hid;rw[jq,jq,jq];rfl
       have HTs:Hid ((mW (n:Int) q.b).length=d.size+1+q.b.size+1):=by unfold Hid;rw[<-UQ.o,cA];exact CJ.o
       clear hpw hd yK HP;go_cut [] (fun wd=>fh wd (ay S w) L gs s2 (r.a++[(n:Int)]) (r.c++mW (n:Int) q.b)∧ak S w wd)
       case first =>
        go_region_law (first
         | (go_simp;go_at_call 141;refine YB.o.mono ?_;rintro e w5 ⟨rfl,hb5⟩;have HG5:=aa (Z7.o.a hb5);obtain⟨⟨⟨d0,d1,d2⟩,e0,e1,e2⟩,d3,d4⟩:=i.o HG5.o;clear hb5)
         | (obtain⟨Sl,hSl,hsl⟩:=HG5.o.jL;have HSl:=aa hSl;have Hsl:=aa hsl;clear hSl hsl;refine KO (by rfl) (.tmp 55) (.tmp 62) 31 9 (by rfl) 5 j0 underlying31 underlying9 Hj.o O8.o O9.o Pb.o (by rfl) rfl HSl.o (d++⟨#[32]⟩++q.b++⟨#[10]⟩) (d.size+1+q.b.size+1) CJ.o (by omega) (by rfl) (by omega) ?_;intro lo' vF w6 Fg CU;rw[UQ.o] at Fg;obtain⟨Cu,z⟩:=Hsl.o lo' vF (r.c.length+(d.size+1+q.b.size+1)) (mW (n:Int) q.b) w6 (by rw[HTs.o]) Fg CU;have HG6:=aa z;obtain⟨⟨h60,h61,h62⟩,y60,y61,y62⟩:=ss Cu;have hx6:=aq _ _ 1 _ _ _ z.e;have HX6:=aa hx6;clear Fg CU Cu z;(try simp only[Act.put,List.setIfInBounds_toArray,oX,List.set_cons_succ])))
        all_goals
         go_wp2;go_meet;exact HG6.o.j
       case rest =>
        go_wp2;go_ret;rw[c.o];exact⟨rfl,hcut⟩
     . have t2:((k2:Int) != 0)=true:=by rw[dh];omega
       rw[if_pos hk2] at c;have HDr:=aa (a.B PU.o (n:Int));clear a;go_wp2_with fail;refine HDr.o.mono ?_;rintro e w3 ⟨rfl,b⟩;have yK:=aa b;clear b;go_wp2;go_ret;rw[c.o];exact⟨rfl,yK.o.j⟩
  . have t1:((k1:Int) != 0)=true:=by rw[dh];omega
    rw[if_pos t] at c;rw[YF.o t] at m;clear a;go_wp2;go_ret;rw[c.o];exact⟨rfl,m.o.j⟩
end
def rT (w:X)(D:Nat->Prop)(ao:ag)(cap:Nat)(ps:List bT):Prop:=∃qs:List (bT×my),qs.map (·.1)=ps∧jt w D ao cap ps.length (iG qs)∧∀q∈qs,dM w D q.2.a q.2.b q.1.a
section
variable {w w':X} {S D D':Nat->Prop} {ao:ag} {cap:Nat} {ps:List bT}
theorem rT.e (h:rT w D ao cap ps)(a:ak S w w')(b:∀k,D k->¬S k):rT w' D ao cap ps:=by
 obtain⟨c,d,e,f⟩:=h;exact⟨c,d,e.e a b,fun q g=>(f q g).e a b⟩
theorem rT.a (h:rT w D ao cap ps):ug w ao cap ps:=by
 obtain⟨a,b,c,d⟩:=h;exact⟨a,b,c.b,fun q e=>(d q e).b⟩
theorem rT.f (h:rT w D ao cap ps)(k:Nat)(f:k<ps.length):∃(b o:Nat) (s:my),ao=M ⟨b,o,U⟩∧w.cell? ⟨b,o+k*4,U⟩=M (V ps[k].c)∧w.cell? ⟨b,o+k*4+1,U⟩=M (V ps[k].b)∧w.cell? ⟨b,o+k*4+2,U⟩=M (V ps[k].d)∧w.cell? ⟨b,o+k*4+3,U⟩=M (Z s.a ps[k].a.length s.b)∧dM w D s.a s.b ps[k].a:=by
 obtain⟨c,rfl,g,i⟩:=h;have a:k<c.length:=by simpa using f
 obtain⟨b,o,rfl,d⟩:=g.b.f (by rw[vN];omega);have j:=i _ (eX a);have e:=oz c k a 0 (by decide);have l:=oz c k a 1 (by decide);have m:=oz c k a 2 (by decide);have n:=oz c k a 3 (by decide);refine⟨b,o,c[k].2,rfl,?_,?_,?_,?_,?_⟩
 . rw[ej];exact d _ _ (by rw[mA] at e;exact e)
 . rw[ej,gE];exact d _ _ l
 . rw[ej,gE];exact d _ _ m
 . rw[ej,gE];exact d _ _ n
 . rw[ej];exact j
theorem nG.f {b:X}{n:Nat}(h:nG b D ps ao cap n w')(f:∀k,b.heap.size<=k->D k):rT w' (fun k=>D k∧k<w'.heap.size) ao cap ps:=by
 obtain⟨g,i,c,j⟩:=h.b;refine⟨g,i,⟨by rw[<-h.a];exact c.a,fun _ a e=>⟨f _ (c.e a e).1,(c.e a e).2⟩⟩,fun q l=>?_⟩;refine((j q l).a (S':=fun k=>D k∧k<b.heap.size) (fun k d e=>⟨e,d⟩)).e (ak.e (S:=fun _=>False) h.below) (fun _ _ e=>e) |>.a (fun k d e=>⟨e.1,d⟩)
end
section
variable {w w0 W W':X} {S S' D:Nat->Prop} {L gs:Nat} {s:av} {io:ag} {gT:Nat} {ids:List Int} {told:ab}
theorem fh.a (h:fh w S L gs s ids told)(c:∀k,k<w.heap.size->S k->S' k):fh w S' L gs s ids told:=by
 obtain⟨f,io,gT,g,i,j,l⟩:=h;refine⟨cy f w.heap.size .out,io,gT,g,i,fun d=>?_,fun k a=>?_⟩
 . by_cases m:d=.out
   . subst m;exact trivial
   . exact(qb bK.a bK.a d).b (j d) (fun k a e=>(fg a).trans e)
 . rcases eI k w.heap.size with b | b
   . rw[fg b] at a;exact c k b (l k a)
   . exact absurd (pW b) a
theorem jU.e (p:jU w0 w S)(a:ak S w W):jU w0 W (ay S w):=⟨p.c,p.a.trans (a.below (fun k e=>p.b k e) p.a.size),fun k e=>by
 rcases e with e | e
 . exact p.b k e
 . exact co p.a.size e⟩
theorem Ny (p:jU w0 w S)(r:jF)(h:fh w S L gs r.s r.a r.c)(j:uk r)(h0:r.b=0)(a:List bT){ao:ag}{cap n:Nat}(hP:rT w D ao cap a)(hD:∀k,D k->¬S k∧k<w.heap.size)(hn:a.length=n)(hN:n<=1000000)(hz:∀q∈a,q.a.length<=1000000∧q.b.size<=900000):
 Calls prog 233 #[Q (M ⟨L,0,U⟩),Z ao n cap] w fun e w'=>e=Y (I J ((fP r a).b:Int))∧fh w' (ay S w) L gs (fP r a).s (fP r a).a (fP r a).c∧ak S w w':=by
 subst hn;obtain⟨d,l⟩:∃d,d=fP r a:=⟨_,rfl⟩;rw[<-l];have HP:=p;have Wh:=aa hP;have m:=aa hD;have HZ:=aa hz
 have hcap:=hP.a.choose_spec.2.1.1;have mG:∃c:jF,d=fP c (a.drop 0)∧c.b=0∧uk c∧fh w (ay S w) L gs c.s c.a c.c∧ak S w w:=⟨r,l,h0,j,h.a (fun k _ e=>A e),ak.r _ _⟩;go_enter func233,ntmps233;go_wp2;go_loopw [10] (fun vi wr=>∃i:Nat,i<=a.length∧vi=I J i∧∃c:jF,d=fP c (a.drop i)∧c.b=0∧uk c∧fh wr (ay S w) L gs c.s c.a c.c∧ak S w wr) (fun vi _=>a.length-(intOf vi).toNat)
 case atStart=>exact⟨0,ax _,rfl,mG⟩
 case round =>
  obtain⟨i,hi,rfl,c,l,G,f,hL,hT⟩:=hrel;by_cases t:i<a.length
  . have hlt':(i:Int)<a.length:=by omega
    have hPr:=Wh.o.e hT (fun k e=>(m.o k e).1);obtain⟨b,o,sl,rfl,c0,c1,c2,c3,hIB⟩:=hPr.f i t;have hq:=HZ.o a[i] (eX t);rw[hJ t] at l;obtain⟨nb,u⟩:∃nb,a[i].a.length=nb:=⟨_,rfl⟩;rw[u] at c3;have hnl:nb<=1000000:=by rw[<-u];exact hq.1
    have je:=(ar _ wr).alloc (am _) (K #[V a[i].c,V a[i].b,V a[i].d,Z sl.a nb sl.b] 96);have y:=hT.a (ak.e (S:=fun _=>False) je) (fun _ e _=>e.elim);have z:=hL.y je;have hIA:=hIB.e (ak.e (S:=fun _=>False) je) (fun _ _ e=>e);generalize a[i]=q at *;obtain⟨H,htf⟩:∃H,(q.b.toList==([]:ab))=H:=⟨_,rfl⟩;have eF:q.b.size=0<->H=true:=by
     rw[<-htf,cJ,Lib.toList_data,<-xQ,cI];rfl
    have N:=l;have HC:=aa G;have sw:=aa f;have HLA:=aa z;have v:=aa y
    cases H with
    | true =>
      have g:d=fP c (a.drop (i+1)):=by rw[N];unfold fP;rw[if_pos (eF.2 rfl)];cases a.drop (i+1) <;> rfl
      go_wp2;go_roundw
      case rel=>exact⟨i+1,by omega,by go_num,c,g,HC.o,sw.o,HLA.o,v.o⟩
      case measure=>simp[intOf];omega
    | false =>
      have hfn:¬q.b.size=0:=fun e=>by have:=eF.1 e;cases this
      have mF:c.a.length<=12:=by
       rcases f.c with h | h
       . have:=f.b.h.b;omega
       . exact absurd G h
      have htd:c.c.length<=1000000:=by have:=f.a;omega
      have HAd:=aa (R5 (HP.e y) c z f.b q hIA (fun k e T=>by
       rcases T with T | T
       . exact(m.o k e).1 T
       . have:=(m.o k e).2;omega) u hnl hq.2 (by omega) htd)
      have PU:=Ld f G q;have g:d=if (eZ c q).b≠0 then eZ c q else fP (eZ c q) (a.drop (i+1)):=by rw[N];conv=>lhs;unfold fP;rw[if_neg hfn]
      generalize eZ c q=x at *;go_wp2_with fail;refine HAd.o.mono ?_;rintro e w5 ⟨rfl,hL5,wO⟩;have CU:ak S w w5:=v.o.a wO (fun k e j=>by
       rcases e with e | e
       . exact e
       . omega)
      have hL6:fh w5 (ay S w) L gs x.s x.a x.c:=hL5.a (fun k _ e=>by
       rcases e with e | e
       . exact e
       . exact R (co v.o.b e))
      have B:=CU;have C:=aa hL6
      by_cases j:x.b=0
      . have tk:((x.b:Int) != 0)=F:=by rw[j];rfl
        rw[if_neg (by rw[j];simp)] at g;go_wp2;go_roundw
        case rel=>exact⟨i+1,by omega,by go_num,x,g,j,PU,C.o,B⟩
        case measure=>simp[intOf];omega
      . have tk:((x.b:Int) != 0)=true:=by rw[dh];omega
        rw[if_pos j] at g;go_wp2;go_ret;rw[g];exact⟨rfl,C.o,B⟩
  . obtain rfl:i=a.length:=by omega
    rw[List.drop_length] at l;have hR2:d=c:=l;have N:=hR2;have HC:=aa G;have HL:=aa hL;have HT:=aa hT
    go_wp2;go_ret;rw[N,HC.o];exact⟨rfl,HL.o,HT.o⟩
structure rU (w:X)(S:Nat->Prop)(L gs:Nat)(s:av)(io:ag)(gT:Nat)(ids:List Int)(told:ab)(W:X):Prop where
 b:∃κ lo iB,eQ (ga L gs s (oe gs io ids.length gT lo told.length iB) io gT ids lo iB told eK eK) κ W∧∀k,κ k≠.out->ay S w k
 c:ak S w W
theorem fh.j (h:fh w S L gs s ids told):∃io gT,rU w S L gs s io gT ids told w:=by
 obtain⟨a,io,gT,b,c,d,f⟩:=h;exact⟨io,gT,⟨a,b,c,d,fun k e=>A (f k e)⟩,ak.r _ _⟩
theorem rU.e (h:rU w S L gs s io gT ids told W):fh W (ay S w) L gs s ids told∧ak S w W:=by
 obtain⟨⟨a,b,c,d,e⟩,f⟩:=h;exact⟨⟨a,io,gT,b,c,d,e⟩,f⟩
theorem rU.a (h:rU w S L gs s io gT ids told W):W.cell? ⟨L,0,U⟩=M (Q (M ⟨gs,0,U⟩))∧W.cell? ⟨L,1,U⟩=M (Z io ids.length gT)∧bx W io gT ids.length (jV ids):=by
 obtain⟨⟨b,c,d,a,e⟩,f⟩:=h;exact⟨aq _ _ 0 _ _ _ (a .row).1,aq _ _ 1 _ _ _ (a .row).1,(a .ids).1.a⟩
theorem rU.f (h:rU w S L gs s io gT ids told W)(ok:aK s)(a:Int):
 Calls prog 218 #[Q (M ⟨gs,0,U⟩),I J a] W fun e w'=>e=Y (I J ((gc s a).2:Int))∧rU w S L gs (gc s a).1 io gT ids told w':=by
 obtain⟨⟨j,g,i,c,d⟩,f⟩:=h;refine(BP (c .jc) ok a).mono (fun e w' b=>⟨b.d,⟨⟨_,g,i,Ak bK.a bK.a c b.c b.b,qe d f.b⟩,f.a b.b (fun k e l=>?_)⟩⟩);rcases d k (by rw[e];intro h;cases h) with h | h
 . exact h
 . omega
theorem LQ (s:av)(ids:List Int)(k:Nat)(a:k<ids.length):mV s (ids.take (k+1))=(gc (mV s (ids.take k)) ids[k]).1:=by
 unfold mV;rw[fR a,sL];rfl
theorem MC (h:fh w S L gs s ids told)(ok:aK s)(v:ids.length<=1000000):
 Calls prog 234 #[Q (M ⟨L,0,U⟩)] w fun e w'=>e=Y (.tuple #[])∧fh w' (ay S w) L gs (mV s ids) ids told∧ak S w w':=by
 obtain⟨io,gT,j⟩:=h.j;obtain⟨n,p,d⟩:=j.a;have q:=j;have r:=aa ok
 have k:=d.1;go_enter func234,ntmps234;go_wp2;go_loopw [9] (fun f wr=>∃i:Nat,i<=ids.length∧f=I J i∧rU w S L gs (mV s (ids.take i)) io gT ids told wr) (fun f _=>ids.length-(intOf f).toNat)
 case atStart=>exact⟨0,ax _,rfl,q⟩
 case round =>
  obtain⟨i,y,rfl,g⟩:=hrel;obtain⟨n,p,d⟩:=g.a;by_cases a:i<ids.length
  . have l:(i:Int)<ids.length:=by omega
    obtain⟨b,o,rfl,t⟩:=d.f (by simp[jV];omega);have z:=t i (I J ids[i]) (by unfold jV;rw[List.getElem?_map,iA a];rfl);have c:=g.f (wR (ids.take i) r.o) ids[i];rw[<-LQ s ids i a] at c;generalize ids[i]=x at *;go_wp2_with fail;refine c.mono ?_;rintro e B ⟨rfl,u⟩;go_wp2;go_roundw
    case rel=>exact⟨i+1,by omega,by go_num,u⟩
    case measure=>simp[intOf];omega
  . obtain rfl:i=ids.length:=by omega
    have m:=g.e;rw[fL] at m;go_wp2;go_end0
    exact⟨rfl,m⟩
theorem QL (h:fh w S L gs s ids told):
 Calls prog 235 #[Q (M ⟨L,0,U⟩),I J 0] w fun e w'=>(∃bo fV,e=Y (.agg #[I J 201,Z U 0 0,Z bo told.length fV])∧az w' bo fV told∧∀a,bo=M a->S a.block)∧Below w.heap.size w w':=by
 obtain⟨o,io,gT,b,d,c,k⟩:=h;obtain⟨⟨p,q,r⟩,_⟩:=ss (c .row).1;have l:=nJ.f (c .list);have f:∀a,b=M a->S a.block:=fun a e=>by
  rcases c .list with ⟨i,_⟩ | ⟨g,i,_,m⟩
  . rw[i] at e;cases e
  . rw[i] at e;injection e with e;subst e;exact k g (by rw[m];intro h;cases h)
 have n:=(bM.1 (c .row).1).1;go_enter func235,ntmps235;go_wp2;have j:Below w.heap.size w (w.alloc (K #[I J 201,Z U 0 0,Z b told.length d] 126)):=(ar _ _).alloc (am _) _;refine aS (v:=.agg #[I J 201,Z U 0 0,Z b told.length d]) (by simp[results,results235,go_sem]) rfl ⟨⟨b,d,rfl,l.a j,f⟩,j⟩
theorem QM (c:Nat)(z:c≠0):
 Calls prog 235 #[Q (M ⟨L,0,U⟩),I J (c:Int)] w fun e w'=>e=Y (.agg #[I J (nS c:Int),Z U 0 0,Z U 0 0])∧Below w.heap.size w w':=by
 have B:=aO.2 (by omega);by_cases h:c=4
 . subst h;go_enter func235,ntmps235;go_wp2_with fail;refine((fun W=>pY 413 W) _).mono ?_;rintro e d ⟨rfl,a⟩;obtain⟨⟨m,n,p,q,r,u⟩,f⟩:=rF ((a.block w.heap.size (by simp)).trans (be w _)) (I J 413) (Z U 0 0) (Z U 0 0);have b:=au ((ar _ w).alloc (am _) _) a;go_wp2;generalize (((d.setCell ⟨w.heap.size,0,U⟩ _).setCell ⟨w.heap.size,1,U⟩ _).setCell ⟨w.heap.size,2,U⟩ _)=x at *;obtain⟨g,i,j,l⟩:=f.o;refine aS (v:=.agg #[I J 413,Z U 0 0,Z U 0 0]) (by simp[results,results235,go_sem,g,i,j]) rfl ⟨rfl,b.trans (l.below (fun k e=>by omega) b.size)⟩
 . have t:((c:Int)==4)=F:=aO.2 (by omega);have y:nS c=507:=by unfold nS;rw[if_neg h]
   rw[y];go_enter func235,ntmps235;go_wp2_with fail;refine((fun W=>pY 507 W) _).mono ?_;rintro e d ⟨rfl,a⟩;obtain⟨⟨m,n,p,q,r,u⟩,f⟩:=rF ((a.block w.heap.size (by simp)).trans (be w _)) (I J 507) (Z U 0 0) (Z U 0 0);have b:=au ((ar _ w).alloc (am _) _) a;go_wp2;generalize (((d.setCell ⟨w.heap.size,0,U⟩ _).setCell ⟨w.heap.size,1,U⟩ _).setCell ⟨w.heap.size,2,U⟩ _)=x at *;obtain⟨g,i,j,l⟩:=f.o;refine aS (v:=.agg #[I J 507,Z U 0 0,Z U 0 0]) (by simp[results,results235,go_sem,g,i,j]) rfl ⟨rfl,b.trans (l.below (fun k e=>by omega) b.size)⟩
end
structure xl (S:Nat->Prop)(w:X)(gs:Nat)(r:av×mX)(e:Ending)(w':X):Prop where
 c:∃(fo:ag) (fZ nf:Nat) (bo:ag) (fV nb:Nat),e=Y (.agg #[I J (r.2.1:Int),Z fo nf fZ,Z bo nb fV])∧r.2.2.1.length=nf∧bx w' fo fZ nf (aJ r.2.2.1)∧r.2.2.2.length=nb∧az w' bo fV r.2.2.2∧(∀a,fo=M a->ay S w a.block)∧∀a,bo=M a->ay S w a.block
 b:aT w' (ay S w) gs r.1
 d:ak S w w'
section
variable {w w0 W W':X} {S S' D:Nat->Prop} {g gs b:Nat} {s:av}
structure qk (S:Nat->Prop)(w:X)(gs:Nat)(s:av)(b:Nat)(o:Obj)(W:X):Prop where
 c:W.heap[b]? = M o
 f:w.heap.size<=b
 g:aT W (fun k=>ay S w k∧k≠b) gs s
 d:ak S w W
theorem qk.e {j m n:Value}(h:qk S w gs s b (K #[j,m,n] 126 (0,0)) W){st:Nat}{mI:Int}(i:(st:Int)=mI){l:aC}{body:ab}{fo bo:ag}{fZ nf fV nb:Nat}(o:l.length=nf)(p:bx W fo fZ nf (aJ l))(c:∀a,fo=M a->ay S w a.block∧a.block≠b)(q:body.length=nb)(r:az W bo fV body)(d:∀a,bo=M a->ay S w a.block∧a.block≠b):
 (W.cell? ⟨b,0,U⟩=M j∧W.cell? ⟨b,1,U⟩=M m∧W.cell? ⟨b,2,U⟩=M n∧W.frozen? ⟨b,0,U⟩=F∧W.frozen? ⟨b,1,U⟩=F∧W.frozen? ⟨b,2,U⟩=F) ∧
 Hid ((((W.setCell ⟨b,0,U⟩ (I J mI)).setCell ⟨b,1,U⟩ (Z fo nf fZ)).setCell ⟨b,2,U⟩ (Z bo nb fV)).cell? ⟨b,0,U⟩=M (I J mI)∧(((W.setCell ⟨b,0,U⟩ (I J mI)).setCell ⟨b,1,U⟩ (Z fo nf fZ)).setCell ⟨b,2,U⟩ (Z bo nb fV)).cell? ⟨b,1,U⟩=M (Z fo nf fZ)∧(((W.setCell ⟨b,0,U⟩ (I J mI)).setCell ⟨b,1,U⟩ (Z fo nf fZ)).setCell ⟨b,2,U⟩ (Z bo nb fV)).cell? ⟨b,2,U⟩=M (Z bo nb fV)∧xl S w gs (s,(st,l,body)) (Y (.agg #[I J mI,Z fo nf fZ,Z bo nb fV])) (((W.setCell ⟨b,0,U⟩ (I J mI)).setCell ⟨b,1,U⟩ (Z fo nf fZ)).setCell ⟨b,2,U⟩ (Z bo nb fV))):=by
 subst i;obtain⟨t,u⟩:=rF h.c (I J (st:Int)) (Z fo nf fZ) (Z bo nb fV);obtain⟨v,x,y,f⟩:=u.out;refine⟨t,v,x,y,⟨⟨fo,fZ,nf,bo,fV,nb,rfl,o,p.r f (fun a e=>(c a e).2),q,r.r f (fun a e=>(d a e).2),fun a e=>(c a e).1,fun a e=>(d a e).1⟩,(h.g.f f (fun k e z=>e.2 z)).a (fun k _ e=>e.1),h.d.a f (fun k e B=>?_)⟩⟩;have:=h.f;omega
theorem qk.j {o:Obj}{a:av}(h:qk S w gs s b o W)(d:aT W' (ay (fun k=>ay S w k∧k≠b) W) gs a)(c:ak (fun k=>ay S w k∧k≠b) W W'):qk S w gs a b o W':=by
 have i:=h.d.b;have f:=(bM.1 h.c).1;refine⟨c.q h.c (fun e=>e.2 rfl),h.f,d.a (fun k _ e=>?_),h.d.a c (fun k e j=>?_)⟩
 . rcases e with e | e
   . exact e
   . exact⟨R (by omega),by omega⟩
 . rcases e.1 with e | e
   . exact e
   . omega
theorem qk.a {o:Obj}(h:qk S w gs s b o W)(a:Below W.heap.size W W'):qk S w gs s b o W' :=
 ⟨(a.block b (bM.1 h.c).1).trans h.c,h.f,h.g.e a,h.d.a (ak.e (S:=fun _=>False) a) (fun _ e _=>e.elim)⟩
theorem qk.q (h:aT w S gs s)(z o:Obj):qk S w gs s (w.heap.size+1) o ((w.alloc z).alloc o)∧((w.alloc z).alloc o).heap[w.heap.size]? = M z:=by
 have c:=(ar _ w).alloc (am _) z;have a:=(ar _ (w.alloc z)).alloc (am _) o;have d:(w.alloc z).heap.size=w.heap.size+1:=bu ..;refine⟨⟨?_,by omega,?_,ak.e (au c a)⟩,?_⟩
 . have:=be (w.alloc z) o;rw[d] at this;exact this
 . exact((h.a (S':=fun k=>ay S w k∧k≠w.heap.size+1) (fun k f e=>⟨A e,by omega⟩)).e c).e a
 . exact(a.block w.heap.size (by omega)).trans (be w z)
theorem fh.f {L:Nat}{ids:List Int}{a:ab}(h:fh w S L gs s ids a):Calls prog 123 #[Q (M ⟨gs,0,U⟩)] w fun e w'=>e=Y (.tuple #[])∧fh w' (ay S w) L gs (eG s) ids a∧ak S w w':=by
 obtain⟨p,i,j,l,m,c,d⟩:=h;exact(rl (c .jc)).mono (fun e w' ⟨n,o,f⟩=>⟨n,⟨_,i,j,l,m,Ak bK.a bK.a c (aT.a o (fun k _ e=>A e)) f,qe (fun k e=>A (d k e)) (am _)⟩,f.f (fun k e=>d k (by rw[e];intro h;cases h))⟩)
theorem fh.r {L:Nat}{ids:List Int}{a:ab}(h:fh w S L gs s ids a):aT w S gs s:=by
 obtain⟨f,i,j,l,m,c,d⟩:=h;exact aT.a (c .jc) (fun k _ e=>d k (by rw[e];intro h;cases h))
theorem fh.e {L:Nat}{ids:List Int}{a:ab}(h:fh w S L gs s ids a):w.cell? ⟨L,0,U⟩=M (Q (M ⟨gs,0,U⟩)):=by
 obtain⟨d,e,f,i,j,c,k⟩:=h;exact aq _ _ 0 _ _ _ (c .row).1
structure uI (S:Nat->Prop)(w:X)(gs b L:Nat)(o:Obj)(B:X)(s:av)(ids:List Int)(told:ab)(W:X):Prop where
 a:fh W (ay (fun k=>(S k∧k<w.heap.size)∨k=L) B) L gs s ids told
 c:ak (fun k=>(S k∧k<w.heap.size)∨k=L) B W
 d:W.heap[b]? = M o
theorem uI.e {L:Nat}{o:Obj}{B:X}{d:av}{ids MB:List Int}{c a:ab}(h:uI S w gs b L o B s ids c W)(j:w.heap.size<=b)(l:b<L)(m:L<B.heap.size)(i:fh W' (ay (ay (fun k=>(S k∧k<w.heap.size)∨k=L) B) W) L gs d MB a)(f:ak (ay (fun k=>(S k∧k<w.heap.size)∨k=L) B) W W'):uI S w gs b L o B d MB a W':=by
 have n:=h.c.b;refine⟨i.a (fun k _ e=>?_),h.c.E f,f.q h.d (fun e=>?_)⟩
 . rcases e with e | e
   . exact e
   . exact R (by omega)
 . rcases e with (e | e) | e
   . have:=e.2;omega
   . omega
   . omega
theorem uI.f {L:Nat}{o:Obj}{B:X}{ids:List Int}{a:ab}(h:uI S w gs b L o B s ids a W)(c:w.heap.size<=b)(f:b<L)(i:L<B.heap.size)(d:Below w.heap.size w B):qk S w gs s b o W:=by
 have j:=h.c.b;refine⟨h.d,c,h.a.r.a (fun k _ e=>?_),(ak.e d).a h.c (fun k e l=>?_)⟩
 . rcases e with (e | e) | e
   . exact⟨A e.1,by have:=e.2;omega⟩
   . exact⟨R (by omega),by omega⟩
   . exact⟨R (by omega),by omega⟩
 . rcases e with e | e
   . exact e.1
   . omega
theorem fh.q {n:Nat}(h:aT w (fun k=>S k∧k<n) gs s)(l:n<=w.heap.size):fh (w.alloc (K #[Q (M ⟨gs,0,U⟩),Z U 0 0,Z U 0 0] 295)) (fun k=>S k∧k<n∨k=w.heap.size) w.heap.size gs s [] []:=by
 have j:=(ar _ w).alloc (am _) (K #[Q (M ⟨gs,0,U⟩),Z U 0 0,Z U 0 0] 295);classical
 refine⟨fun k=>if k=w.heap.size then .row else if S k∧k<n then .jc else .out,U,0,U,0,fun d=>?_,fun k c=>?_⟩
 . cases d with
   | row=>exact⟨be w _,if_pos rfl⟩
   | jc=>exact aT.a (h.e j) (fun k _ e=>by
    show(if k=w.heap.size then rZ.row else if S k∧k<n then .jc else .out)=.jc;rw[if_neg (by have:=e.2;omega),if_pos e])
   | ids=>exact⟨aL.q _ _ _ _,fun a e=>by cases e⟩
   | list=>exact nJ.e _ _
   | box=>exact trivial
   | out=>exact trivial
 . simp only at c;by_cases f:k=w.heap.size
   . exact R f
   . rw[if_neg f] at c;by_cases i:S k∧k<n
     . exact A i
     . rw[if_neg i] at c;exact absurd rfl c
end
section
variable {w w0:X} {S:Nat->Prop} {g gs:Nat} {s:av}
theorem le (S:Nat->Prop)(w:X)(b:Nat):∀a,(U:ag)=M a->ay S w a.block∧a.block≠b:=fun a e=>by cases e
theorem Se (p:jU w0 w S)(h:aT w S gs s)(ok:aK s)(hg:w.cell? ⟨g,0,U⟩=M (Q (M ⟨gs,0,U⟩))){m t:ae}{mi ln:Int}{l:aC}{fo:ag}{fZ nf:Nat}(hF:fX w l fo fZ nf)(body:ab){bo:ag}{fV nb:Nat}(hb:body.length=nb)(hB:az w bo fV body)(hnb:nb<=20000):
 Calls prog 174 #[Q (M ⟨g,0,U⟩),.agg #[V m,V t,I J mi,Z fo nf fZ,I J ln,Z bo nb fV]] w fun e w'=>xl S w gs (jh s l body) e w':=by
 obtain⟨f,hR⟩:∃f,f=jh s l body:=⟨_,rfl⟩;rw[<-hR];obtain⟨hX,DN⟩:=qk.q h (K #[V m,V t,I J mi,Z fo nf fZ,I J ln,Z bo nb fV] 84) (K #[I J 0,Z U 0 0,Z U 0 0] 126);have hlg:=ch w _ hg;have hbb:Below w.heap.size w ((w.alloc (K #[V m,V t,I J mi,Z fo nf fZ,I J ln,Z bo nb fV] 84)).alloc (K #[I J 0,Z U 0 0,Z U 0 0] 126)):=au ((ar _ w).alloc (am _) _) ((ar _ _).alloc (am _) _);have HBo:=KN (hF.a hbb);have mG:∀W,Below w.heap.size w W->aT W (fun k=>S k∧k<w.heap.size) gs s:=fun W hW=>(h.a (S':=fun k=>S k∧k<w.heap.size) (fun k hk e=>⟨e,hk⟩)).e hW;have HIb:∀W,Below w.heap.size w W->az W bo fV body:=fun W hW=>hB.a hW;have HG:∀W,Below w.heap.size w W->W.cell? ⟨g,0,U⟩=M (Q (M ⟨gs,0,U⟩)):=fun W hW=>(hW.cell (p:=⟨g,0,U⟩) hlg).trans hg;have HP:=p;have sw:=aa ok
 have hs1:((w.alloc (K #[V m,V t,I J mi,Z fo nf fZ,I J ln,Z bo nb fV] 84)).alloc (K #[I J 0,Z U 0 0,Z U 0 0] 126)).heap.size=w.heap.size+2:=by simp
 go_enter func174,ntmps174;go_upto_region 1 with fail
 generalize hW1:((w.alloc (K #[V m,V t,I J mi,Z fo nf fZ,I J ln,Z bo nb fV] 84)).alloc (K #[I J 0,Z U 0 0,Z U 0 0] 126))=W1 at *;have a3:=aq W1 _ 3 _ _ _ DN;simp at a3;have HX:=hX;have xS:=aa hbb;have HZr:=aa DN;have NG:=aa hs1
 go_wp2_with fail;refine HBo.mono ?_;rintro e w1 ⟨rfl,D⟩;have Z0:=HX.a D;have HB1:=au xS.o D;have hsz1:=D.size;have a5:w1.cell? ⟨w.heap.size,5,U⟩=M (Z bo nb fV):=by
  have:=aq w1 _ 5 _ _ _ ((D.block w.heap.size (by have:=NG.o;omega)).trans HZr.o);simpa using this
 have Dt:w.heap.size+2<=w1.heap.size:=by have:=NG.o;omega
 cases G:mj l with
 | none =>
   have HR:f=(s,(415,[],[])):=hR.trans (Lf G);have H5:=fun W=>pY 415 W;simp only[Option.elim,Option.isSome];go_wp2_with fail;refine(H5 _).mono ?_;rintro e H ⟨rfl,i⟩;obtain⟨⟨z0,z1,z2,y0,y1,y2⟩,N⟩:=(Z0.a i).e (st:=415) (mI:=415) rfl (l:=[]) (body:=[]) rfl (bx.j _) (le _ _ _) rfl (az.e _) (le _ _ _);go_wp2;generalize (((H.setCell ⟨w.heap.size+1,0,U⟩ _).setCell ⟨w.heap.size+1,1,U⟩ _).setCell ⟨w.heap.size+1,2,U⟩ _)=wf at *;obtain⟨T,q1,q2,q3⟩:=N.o;refine aS (v:=.agg #[I J 415,Z U 0 0,Z U 0 0]) (by simp[results,results174,go_sem,T,q1,q2]) rfl ?_;rw[HR];exact q3
 | some bd =>
   simp only[Option.elim,Option.isSome];have HRd:=Sd (iT bd) body bo fV nb w1 (HIb _ HB1) hb hnb;rw[show(iT bd).data.toList=bd from by unfold iT;simp] at HRd;go_wp2_with fail;refine HRd.mono ?_;rintro e H hRd;cases hRd with
   | no c hc aiF he i =>
     subst he;have hpn:lw bd body=U:=by
      unfold lw;rw[if_neg];rintro ⟨e1,e2⟩;rcases aiF with ⟨h1,_⟩ | ⟨_,h1⟩
      . rw[h1] at e1;cases e1
      . exact hc (by rw[<-h1];exact e2)
     have HR:f=(s,(400,[],[])):=hR.trans (Lm G hpn);have tc:((c:Int) != 0)=true:=by rw[dh];omega
     have RN:=Z0.a i;have H4:=fun W=>pY 400 W;go_wp2_with fail;refine(H4 _).mono ?_;rintro e w3 ⟨rfl,b⟩;obtain⟨⟨z0,z1,z2,y0,y1,y2⟩,N⟩:=(RN.a b).e (st:=400) (mI:=400) rfl (l:=[]) (body:=[]) rfl (bx.j _) (le _ _ _) rfl (az.e _) (le _ _ _);go_wp2;generalize (((w3.setCell ⟨w.heap.size+1,0,U⟩ _).setCell ⟨w.heap.size+1,1,U⟩ _).setCell ⟨w.heap.size+1,2,U⟩ _)=wf at *;obtain⟨T,q1,q2,q3⟩:=N.o;refine aS (v:=.agg #[I J 400,Z U 0 0,Z U 0 0]) (by simp[results,results174,go_sem,T,q1,q2]) rfl ?_;rw[HR];exact q3
   | yes hm hcl w15 af5 ao cap n he hP i =>
     subst he;obtain⟨C,hps⟩:∃C,C=fG (gr (cn (fm bd) ii body)):=⟨_,rfl⟩;have hpp:lw bd body=M C:=by unfold lw;rw[if_pos ⟨hm,hcl⟩,hps]
     rw[<-hps] at hP;obtain⟨hrm,hpl,hpz⟩:=K5 hpp (by have:=(vV hm).b;omega) (vV hm).a (by decide) (by rw[hb];exact hnb);have hn:=hP.a;subst hn;have hPD:=hP.f (fun k e=>co af5 e);have hB2:=au HB1 i;have Du:w.heap.size+2<=H.heap.size:=co Dt i.size;have hX2:=Z0.a i;have hgc:=HG H hB2;have HRo:=Ob (hPD.a.a (bg _ _)) rfl hrm;have yN:Below w.heap.size w H.drew:=au hB2 (bg _ _);obtain⟨rm,adW⟩:∃rm,rm=gP C:=⟨_,rfl⟩;rw[<-adW] at HRo hrm;have Vb:=fun W (hW:Below w.heap.size w W)=>yp (mG W hW) (rm:Int);obtain⟨bf,hbf⟩:∃bf,bf=decide (100000<s.a.length+rm):=⟨_,rfl⟩;have hrb:(decide ((0:Int)<=(rm:Int))&&decide ((rm:Int)<=100000-(s.a.length:Int)))=!bf:=by
      rw[hbf,bq (by omega:(0:Int)<=(rm:Int)),Bool.true_and,<-decide_not,decide_eq_decide];omega
     rw[hrb] at Vb;have HBf:=aa hbf;have HRe:=aa adW
     clear hbf adW;have RN:=aa hX2;have u:=aa hB2;have HPD:=aa hPD;have HPz:=aa hpz
     clear hP hps hm hcl af5 hPD hB2 hX2 hpz HRd i Z0 HB1 hrb;go_upto_region 7 with fail
     go_cut [31] (fun v wd=>v=.bool bf∧Below H.heap.size H wd)
     case first =>
      go_region_held3 (fun W=>W.cell? ⟨g,0,U⟩=M (Q (M ⟨gs,0,U⟩))) (go_keep) (first
       | (go_at_call 232;refine HRo.mono ?_;rintro e w3 ⟨rfl,b⟩;have HB3:Hid (Below H.heap.size H w3):=au (bg _ _) b;have hg3:=HG w3 (au u.o HB3.o);clear b)
       | (go_at_call 215;refine(Vb _ (au u.o HB3.o)).mono ?_;rintro e w4 ⟨rfl,hw⟩;subst hw))
      all_goals
       go_wp2;go_meet;exact⟨rfl,HB3.o⟩
     case rest =>
      obtain⟨rfl,b⟩:=hcut;have HX3:=(RN.a b);have HB3:=aa b
      clear hgc HRo Vb yN RN;cases bf with
      | true =>
        have q:=sF HBf.o.symm;have HR:f=(s,(507,[],[])):=hR.trans (Lg G hpp (by rw[<-HRe.o];exact q));have H4:=fun W=>pY 507 W;go_wp2_with fail;refine(H4 _).mono ?_;rintro e w3 ⟨rfl,b⟩;obtain⟨⟨z0,z1,z2,y0,y1,y2⟩,N⟩:=(HX3.a b).e (st:=507) (mI:=507) rfl (l:=[]) (body:=[]) rfl (bx.j _) (le _ _ _) rfl (az.e _) (le _ _ _);go_wp2;generalize (((w3.setCell ⟨w.heap.size+1,0,U⟩ _).setCell ⟨w.heap.size+1,1,U⟩ _).setCell ⟨w.heap.size+1,2,U⟩ _)=wf at *;obtain⟨T,q1,q2,q3⟩:=N.o;refine aS (v:=.agg #[I J 507,Z U 0 0,Z U 0 0]) (by simp[results,results174,go_sem,T,q1,q2]) rfl ?_;rw[HR];exact q3
      | false =>
        have q:=of_decide_eq_false HBf.o.symm;have HR:f=px (fP ⟨s,[],[],0⟩ C):=hR.trans (Lh G hpp (by rw[<-HRe.o];exact q));have hgc:=HG wc (au u.o b);have hz3:=b.size;have hz2:=u.o.size
        have hL0:=fh.q (mG wc (au u.o b)) (by omega);have hbL:=(ar _ wc).alloc (am _) (K #[Q (M ⟨gs,0,U⟩),Z U 0 0,Z U 0 0] 295);have aiH:=HPD.o.e (ak.e (S:=fun _=>False) (au b hbL)) (fun _ _ e=>e);have hwB:=au (au u.o b) hbL;have hpw:jU w0 (wc.alloc (K #[Q (M ⟨gs,0,U⟩),Z U 0 0,Z U 0 0] 295)) (fun k=>(S k∧k<w.heap.size)∨k=wc.heap.size):=⟨HP.c,HP.a.trans (hwB.mono HP.a.size),fun k e=>by
         rcases e with e | e
         . exact HP.b k e.1
         . have:=HP.a.size;omega⟩
        have HAA:=aa (Ny hpw ⟨s,[],[],0⟩ hL0 ⟨sw.o,ax _,A (ax _)⟩ rfl C aiH (fun k e=>⟨fun e2=>by
         rcases e2 with e2 | e2
         . have:=e2.2;have:=Dt;omega
         . omega,by rw[bu];omega⟩) rfl hpl HPz.o)
        have HX0:uI S w gs (w.heap.size+1) wc.heap.size (K #[I J 0,Z U 0 0,Z U 0 0] 126) (wc.alloc (K #[Q (M ⟨gs,0,U⟩),Z U 0 0,Z U 0 0] 295)) s [] [] (wc.alloc (K #[Q (M ⟨gs,0,U⟩),Z U 0 0,Z U 0 0] 295)):=⟨hL0.a (fun k _ e=>A e),ak.r _ _,(HX3.a hbL).c⟩;have d:w.heap.size<=w.heap.size+1∧w.heap.size+1<wc.heap.size∧wc.heap.size<(wc.alloc (K #[Q (M ⟨gs,0,U⟩),Z U 0 0,Z U 0 0] 295)).heap.size:=⟨by omega,by have:=Du;have:=b.size;omega,by rw[bu];omega⟩;have aiJ:=zR C (r:=⟨s,[],[],0⟩) sw.o;have aiK:=zP C ⟨s,[],[],0⟩;have aiL:(fP ⟨s,[],[],0⟩ C).a.length<=1000000:=by simp at aiK;omega
        generalize fP ⟨s,[],[],0⟩ C=j at *;go_upto_region 10 with fail
        generalize hBB:(wc.alloc (K #[Q (M ⟨gs,0,U⟩),Z U 0 0,Z U 0 0] 295))=B at *;go_wp2_with fail;refine HAA.o.mono ?_;rintro e w5 ⟨rfl,hL5,wO⟩;have y:uI S w gs (w.heap.size+1) wc.heap.size (K #[I J 0,Z U 0 0,Z U 0 0] 126) B j.s j.a j.c w5:=HX0.e d.1 d.2.1 d.2.2 (hL5.a (fun k _ e=>by
         rcases e with e | e
         . exact A (A e)
         . exact R e)) (wO.f (fun k e=>A e))
        by_cases z:j.b=0
        . have tc:((j.b:Int) != 0)=F:=by rw[z];rfl
          have HRr:f=(eG j.s,(201,[],j.c)):=by rw[HR];unfold px;rw[if_pos z]
          have k0:=y.a.e;have JB:=y.a.f;rw[z];go_wp2_with fail;refine JB.mono ?_;rintro e w6 ⟨rfl,hL6,CU⟩;have x:=y.e d.1 d.2.1 d.2.2 hL6 CU;have HRp:=QL x.a;go_wp2_with fail;refine HRp.mono ?_;rintro e w7 ⟨⟨bo7,af7,rfl,hB7,hS7⟩,hb7⟩;obtain⟨⟨z0,z1,z2,y0,y1,y2⟩,N⟩:=((x.f d.1 d.2.1 d.2.2 hwB).a hb7).e (st:=201) (mI:=201) rfl (l:=[]) (body:=j.c) rfl (bx.j _) (le _ _ _) rfl hB7 (fun a e=>by
           have:=d;rcases hS7 a e with (h1 | h1) | h1
           . exact⟨A h1.1,by have:=h1.2;omega⟩
           . exact⟨R (by omega),by omega⟩
           . exact⟨R (by omega),by omega⟩)
          go_wp2;generalize (((w7.setCell ⟨w.heap.size+1,0,U⟩ _).setCell ⟨w.heap.size+1,1,U⟩ _).setCell ⟨w.heap.size+1,2,U⟩ _)=wf at *;obtain⟨T,q1,q2,q3⟩:=N.o;refine aS (v:=.agg #[I J 201,Z U 0 0,Z bo7 j.c.length af7]) (by simp[results,results174,go_sem,T,q1,q2]) rfl ?_;rw[HRr];exact q3
        . have tc:((j.b:Int) != 0)=true:=by rw[dh];omega
          have HRr:f=(eG (mV j.s j.a),(nS j.b,[],[])):=by rw[HR];unfold px;rw[if_neg z]
          have HDa:=MC y.a aiJ aiL;have oD:=fun(W:X)=>QM (L:=wc.heap.size) (w:=W) j.b z;go_wp2_with fail;refine HDa.mono ?_;rintro e w6 ⟨rfl,hL6,CU⟩;have x:=y.e d.1 d.2.1 d.2.2 hL6 CU;have k0:=x.a.e;have JB:=x.a.f;go_wp2_with fail;refine JB.mono ?_;rintro e w7 ⟨rfl,hL7,Fh⟩;have HX7:=x.e d.1 d.2.1 d.2.2 hL7 Fh;go_wp2_with fail;refine(oD _).mono ?_;rintro e w8 ⟨rfl,hb8⟩;obtain⟨⟨z0,z1,z2,y0,y1,y2⟩,N⟩:=((HX7.f d.1 d.2.1 d.2.2 hwB).a hb8).e (st:=nS j.b) (mI:=(nS j.b:Int)) rfl (l:=[]) (body:=[]) rfl (bx.j _) (le _ _ _) rfl (az.e _) (le _ _ _);go_wp2;generalize (((w8.setCell ⟨w.heap.size+1,0,U⟩ _).setCell ⟨w.heap.size+1,1,U⟩ _).setCell ⟨w.heap.size+1,2,U⟩ _)=wf at *;obtain⟨T,q1,q2,q3⟩:=N.o;refine aS (v:=.agg #[I J (nS j.b:Int),Z U 0 0,Z U 0 0]) (by simp[results,results174,go_sem,T,q1,q2]) rfl ?_;rw[HRr];exact q3
end
section
variable {w w0:X} {S:Nat->Prop} {g gs:Nat} {s:av}
theorem S6 (t:ae):sy t=zY t:=rfl
theorem Oq (p:jU w0 w S)(h:aT w S gs s)(ok:aK s)(hg:w.cell? ⟨g,0,U⟩=M (Q (M ⟨gs,0,U⟩))){m t:ae}{mi ln:Int}{l:aC}{fo:ag}{fZ nf:Nat}(hF:fX w l fo fZ nf)(body:ab){bo:ag}{fV nb:Nat}(hb:body.length=nb)(hB:az w bo fV body)(hnb:nb<=20000)(ht:t.size<=100000):
 Calls prog 109 #[Q (M ⟨g,0,U⟩),.agg #[V m,V t,I J mi,Z fo nf fZ,I J ln,Z bo nb fV]] w fun e w'=>xl S w gs (mh br s m t l body) e w':=by
 obtain⟨H,c⟩:∃H,H=mh br s m t l body:=⟨_,rfl⟩;rw[<-c];unfold mh at c;obtain⟨hX,B⟩:=qk.q h (K #[V m,V t,I J mi,Z fo nf fZ,I J ln,Z bo nb fV] 84) (K #[I J 0,Z U 0 0,Z U 0 0] 126);have hlg:=ch w _ hg;have f:Below w.heap.size w ((w.alloc (K #[V m,V t,I J mi,Z fo nf fZ,I J ln,Z bo nb fV] 84)).alloc (K #[I J 0,Z U 0 0,Z U 0 0] 126)):=au ((ar _ w).alloc (am _) _) ((ar _ _).alloc (am _) _);have hs1:((w.alloc (K #[V m,V t,I J mi,Z fo nf fZ,I J ln,Z bo nb fV] 84)).alloc (K #[I J 0,Z U 0 0,Z U 0 0] 126)).heap.size=w.heap.size+2:=by simp
 have d:=fun W=>QV t W ht;have L:=fun st W=>pY st W;go_enter func109,ntmps109;go_upto_region 1 with fail
 generalize hW1:((w.alloc (K #[V m,V t,I J mi,Z fo nf fZ,I J ln,Z bo nb fV] 84)).alloc (K #[I J 0,Z U 0 0,Z U 0 0] 126))=j at *;have a0:=aq j _ 0 _ _ _ B;have a1:=aq j _ 1 _ _ _ B;have a2:=aq j _ 2 _ _ _ B;have a3:=aq j _ 3 _ _ _ B;have a4:=aq j _ 4 _ _ _ B;have a5:=aq j _ 5 _ _ _ B;have hg1:=(f.cell (p:=⟨g,0,U⟩) hlg).trans hg;have N:=hX.g;have T:=hF.a f;have hB1:=hB.a f;have i:jU w0 j (fun k=>ay S w k∧k≠w.heap.size+1):=⟨p.c,p.a.trans (f.mono p.a.size),fun k e=>by
  rcases e.1 with e | e
  . exact p.b k e
  . exact co p.a.size e⟩
 have HX:=hX;have NG:=aa hs1
 rw[show zY t=sy t from(S6 t).symm] at c;cases ho:sy t with
 | true =>
   rw[ho,if_pos rfl] at c;have HDo:=FH (m:=m) (t:=t) (mi:=mi) (ln:=ln) (bo:=bo) (fV:=fV) (nb:=nb) (w:=j.drew) ⟨i.c,au i.a (bg _ _),i.b⟩ (N.e (bg _ _)) ok (T.a (bg _ _)) body hb (hB1.a (bg _ _)) (by omega) ht;rw[ho] at d;generalize br s m t l body=tr at *;obtain⟨s2,b,l2⟩:=tr;go_wp2_with fail;refine(d _).mono ?_;rintro e w1 ⟨rfl,n⟩;subst n;go_upto_region 2 with fail
   go_cut [] (fun wd=>∃(C:ag) (D G:Nat),wd.cell? ⟨w.heap.size+1,0,U⟩=M (I J (b:Int))∧wd.cell? ⟨w.heap.size+1,1,U⟩=M (Z C D G)∧wd.cell? ⟨w.heap.size+1,2,U⟩=M (Z U 0 0)∧xl S w gs (s2,(b,l2,[])) (Y (.agg #[I J (b:Int),Z C D G,Z U 0 0])) wd)
   case first =>
    go_region_law (first
     | (go_simp;go_at_call 53;refine HDo.mono ?_;rintro e w9 ⟨⟨C,G,D,rfl,lT,kL⟩,kK,qO⟩;have hX9:=(HX.a (bg _ _)).j kK qO;obtain⟨⟨z0,z1,z2,y0,y1,y2⟩,q⟩:=hX9.e (st:=b) (mI:=(b:Int)) rfl (l:=l2) (body:=[]) lT kL.a (fun a e=>by have h1:w1.heap.size<=a.block:=(kL.e a e).1;have:=NG.o;exact⟨R (by omega),by omega⟩) rfl (az.e _) (le _ _ _);clear lT kL kK qO hX9))
    all_goals
     go_wp2;go_meet;exact⟨C,D,G,q.o⟩
   case rest =>
    obtain⟨C,D,G,r,u,x,y⟩:=hcut;go_wp2;refine aS (v:=.agg #[I J (b:Int),Z C D G,Z U 0 0]) (by simp[results,results109,go_sem,r,u,x]) rfl ?_;rw[c];exact y
 | false =>
   rw[ho,if_neg (by simp)] at c;rw[ho] at d;obtain⟨tt,htt⟩:∃tt,(t.toList==([47,102,111,114,109]:ab))=tt:=⟨_,rfl⟩;have eT:t=Eb<->tt=true:=by
    rw[<-htt,cJ,Lib.toList_data,ByteArray.ext_iff,<-vw];rfl
   obtain⟨tm,htm⟩:∃tm,(m.toList==([80,79,83,84]:ab))=tm:=⟨_,rfl⟩;have eM:m=D3<->tm=true:=by
    rw[<-htm,cJ,Lib.toList_data,ByteArray.ext_iff,<-vw];rfl
   cases tt with
   | false =>
     rw[if_pos (fun e=>by have:=eT.1 e;cases this)] at c;go_wp2_with fail;refine(d _).mono ?_;rintro e w1 ⟨rfl,n⟩;subst n;go_wp2_with fail;refine(L 404 _).mono ?_;rintro e w3 ⟨rfl,z⟩;obtain⟨⟨z0,z1,z2,y0,y1,y2⟩,q⟩:=(HX.a z).e (st:=404) (mI:=404) rfl (l:=[]) (body:=[]) rfl (bx.j _) (le _ _ _) rfl (az.e _) (le _ _ _);go_wp2;generalize (((w3.setCell ⟨w.heap.size+1,0,U⟩ _).setCell ⟨w.heap.size+1,1,U⟩ _).setCell ⟨w.heap.size+1,2,U⟩ _)=wf at *;obtain⟨r,u,x,y⟩:=q.o;refine aS (v:=.agg #[I J 404,Z U 0 0,Z U 0 0]) (by simp[results,results109,go_sem,r,u,x]) rfl ?_;rw[c];exact y
   | true =>
     rw[if_neg (fun e=>e (eT.2 rfl))] at c;cases tm with
     | false =>
       rw[if_pos (fun e=>by have:=eM.1 e;cases this)] at c;go_wp2_with fail;refine(d _).mono ?_;rintro e w1 ⟨rfl,n⟩;subst n;go_wp2_with fail;refine(L 405 _).mono ?_;rintro e w3 ⟨rfl,z⟩;obtain⟨⟨z0,z1,z2,y0,y1,y2⟩,q⟩:=(HX.a z).e (st:=405) (mI:=405) rfl (l:=[]) (body:=[]) rfl (bx.j _) (le _ _ _) rfl (az.e _) (le _ _ _);go_wp2;generalize (((w3.setCell ⟨w.heap.size+1,0,U⟩ _).setCell ⟨w.heap.size+1,1,U⟩ _).setCell ⟨w.heap.size+1,2,U⟩ _)=wf at *;obtain⟨r,u,x,y⟩:=q.o;refine aS (v:=.agg #[I J 405,Z U 0 0,Z U 0 0]) (by simp[results,results109,go_sem,r,u,x]) rfl ?_;rw[c];exact y
     | true =>
       rw[if_neg (fun e=>e (eM.2 rfl))] at c;have HFm:=Se (g:=g) (m:=m) (t:=t) (mi:=mi) (ln:=ln) i N ok hg1 T body hb hB1 hnb;generalize jh s l body=tr at *;obtain⟨s2,b,l2,b2⟩:=tr;go_wp2_with fail;refine(d _).mono ?_;rintro e w1 ⟨rfl,n⟩;subst n;go_wp2_with fail;refine HFm.mono ?_;rintro e w9 ⟨⟨fo9,aga,nf9,bo9,agb,nb9,rfl,lT,hF9,hm9,qw,hf9,hb9⟩,kK,qO⟩;have hno:∀k,ay (fun k=>ay S w k∧k≠w.heap.size+1) w1 k->ay S w k∧k≠w.heap.size+1:=fun k e=>by
        have:=NG.o;rcases e with e | e
        . exact e
        . exact⟨R (by omega),by omega⟩
       obtain⟨⟨z0,z1,z2,y0,y1,y2⟩,q⟩:=(HX.j kK qO).e (st:=b) (mI:=(b:Int)) rfl (l:=l2) (body:=b2) lT hF9 (fun a e=>hno _ (hf9 a e)) hm9 qw (fun a e=>hno _ (hb9 a e));go_wp2;generalize (((w9.setCell ⟨w.heap.size+1,0,U⟩ _).setCell ⟨w.heap.size+1,1,U⟩ _).setCell ⟨w.heap.size+1,2,U⟩ _)=wf at *;obtain⟨r,u,x,y⟩:=q.o;refine aS (v:=.agg #[I J (b:Int),Z fo9 nf9 aga,Z bo9 nb9 agb]) (by simp[results,results109,go_sem,r,u,x]) rfl ?_;rw[c];exact y
