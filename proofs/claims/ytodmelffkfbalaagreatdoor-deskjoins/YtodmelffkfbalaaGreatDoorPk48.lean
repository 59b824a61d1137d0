import Derived.Deep.RegionHeldLaw
import Derived.Test.YtodmelffkfbalaaGreatDoorPk47
open Go.Value renaming int->I,string->V,slice->Z,pointer->Q
open Go.IntKind renaming i64->J
open Go.Obj renaming cells->K
open Go.Ending renaming returned->Y
open Option renaming none->U,some->M
open Bool renaming false->F
open Or renaming inl->A,inr->R
open Go renaming World->X
set_option maxHeartbeats 6400000
set_option maxRecDepth 100000
open Go.Proofs.Tryz
namespace Go.Proofs.YtodmelffkfbalaaGreatDoor
open Go.RowKit
def xP:ae:=⟨#[99,111,110,116,101,110,116,45,108,101,110,103,116,104]⟩
def py (st:Int)(l:aC)(body:ab):ab×Nat:=rX st l (aG xP l).length body
inductive Tr (w:X)(r:ab×Nat)(e:Ending)(w':X):Prop
 | bad (c:Nat) (hc:c≠0) (he:e=Y (.tuple #[Z U 0 0,I J (c:Int)])) (ht:r=([],c)) (hB:Below w.heap.size w w')
 | ok (g cap n:Nat) (he:e=Y (.tuple #[Z (M ⟨g,0,U⟩) n cap,I J 0])) (hn:n=r.1.length) (ht:r.2=0) (hO:dV w' w.heap.size g cap r.1) (hB:Below w.heap.size w w')
theorem CQ (p:ae×ae)(h:p.1.size<=2000∧p.2.size<=2000):(jn p).length<=4004:=by
 have a:p.1.data.toList.length=p.1.size:=by rw[cJ];rfl
 have b:p.2.data.toList.length=p.2.size:=by rw[cJ];rfl
 have c:(bP p.1.data.toList p.2.data.toList).1.length<=p.1.data.toList.length+2+p.2.data.toList.length:=by
  unfold bP;split
  . simp
  . split
    . simp
    . split
      . simp
      . simp;omega
 unfold jn;rw[aD];simp only[bG,iv];omega
theorem Cn:∀(l:aC),(∀p∈l,p.1.size<=2000∧p.2.size<=2000)->(l.flatMap jn).length<=l.length*4004
 | [],_=>by simp
 | p :: t, h => by
   have b:=Cn t (fun q a=>h q (by simp[a]));have c:=CQ p (h p (by simp));rw[ob,aD,bG];omega
theorem FM (p:ae×ae)(h:(bP p.1.data.toList p.2.data.toList).2=0):∀l:aC,jF (l++[p])=jF l
 | []=>by simp[jF,h]
 | q::t=>by rw[gd,jF,jF,FM p h t]
theorem EI (l:aC):aG nu l=aG xP l:=by
 unfold aG;rw[show be nu.data.toList=be xP.data.toList by decide]
def ji (nb:Nat):ae×ae:=(nu,⟨(bx 8 nb).toArray⟩)
theorem RI {nb:Nat}(h:nb<1000000000):(bP (ji nb).1.data.toList (ji nb).2.data.toList).2=0:=(FL h).1
theorem Ry {nb:Nat}(h:nb<1000000000):jn (ji nb)=xv++bx 8 nb++[13,10]:=by
 unfold jn;have:=(FL h).2;rw[show(ji nb).1.data.toList=xu from rfl,show(ji nb).2.data.toList=bx 8 nb from rfl,this]
theorem Oq {st:Int}{l:aC}{body:ab}(h:jH st l≠0):py st l body=([],jH st l):=by
 unfold jH at h ⊢;unfold py rX;rw[EI] at h ⊢;split
 . rfl
 . rename_i a;rw[if_neg a] at h;split
   . rfl
   . rename_i b;rw[if_neg b] at h;split
     . rfl
     . rename_i c;rw[if_neg c] at h;exact absurd rfl h
theorem Ou {st:Int}{l:aC}{body:ab}(h:jH st l=0)(b:body.length<1000000000):gS st≠[]∧l.length<16∧py st l body=if jF (l++[ji body.length])≠0 then ([],jF (l++[ji body.length])) else (ke st++(l++[ji body.length]).flatMap jn++[13,10]++body,0):=by
 rw[FM _ (RI b),List.flatMap_append];unfold jH at h;unfold py rX;rw[EI] at h;by_cases a:gS st=[]
 . rw[if_pos a] at h;cases h
 rw[if_neg a] at h ⊢;by_cases c:16<=l.length
 . rw[if_pos c] at h;cases h
 rw[if_neg c] at h ⊢;by_cases d:(aG xP l).length≠0
 . rw[if_pos d] at h;cases h
 rw[if_neg d];refine⟨a,by omega,?_⟩;split
 . rfl
 . congr 1;simp[Ry b]
structure rT (w:X)(cs:Array Value)(T:Nat)(ls:aC)(ao:ag)(iC g cap:Nat)(acc:ab)(W:X):Prop where
 b:jO w cs T W
 c:dV W (w.heap.size+1) g cap acc
 e:bq W ao iC ls.length (aI ls)
 d:∀a,ao=M a->a.block≠g∧a.block<W.heap.size
theorem rT.f {w W W':X}{d:Array Value}{T:Nat}{f:aC}{ao:ag}{i g cap:Nat}{b:ab}(h:rT w d T f ao i g cap b W)(c:Below W.heap.size W W'):rT w d T f ao i g cap b W' :=
 ⟨h.b.a c,h.c.j c,h.e.a c,fun a e=>⟨(h.d a e).1,mC (h.d a e).2 c.size⟩⟩
theorem rT.a {w W W':X}{l:Array Value}{T:Nat}{m:aC}{ao:ag}{n g cap d b:Nat}{f c:ab}(h:rT w l T m ao n g cap f W)(o:dV W' (w.heap.size+1) d b c)(i:am (fun k=>k=g) W W')(j:d=g∨d=W.heap.size):rT w l T m ao n d b c W':=by
 have p:=h.c.c;refine⟨h.b.y i (fun k e=>by omega),o,h.e.B i (fun a e=>(h.d a e).1),fun a e=>⟨fun q=>?_,mC (h.d a e).2 i.b⟩⟩;have r:=h.d a e;rcases j with j | j
 . omega
 . omega
theorem MU (w:X)(st:Int)(l:aC)(fo bo:ag)(gy fZ nb:Nat)(body:ab)(hl:bq w fo gy l.length (aI l))(hN:l.length<=1000000)(hs:∀p∈l,p.1.size<=2000∧p.2.size<=2000)(hb:body.length=nb)(hBd:aB w bo fZ body)(hnb:nb<=100000)(hP:dj w):
 Calls prog 171 #[.agg #[I J st,Z fo l.length gy,Z bo nb fZ]] w fun e w'=>Tr w (py st l body) e w':=by
 subst hb;obtain⟨j0,hj0,hy0,hy1,hy2⟩:=info_parts gG;have Hj:=aa hj0;have O9:=aa hy0;have Pb:=aa hy1;have Pf:=aa hy2
 obtain⟨i0,hi0,hz0,hz1,hz2⟩:=info_parts pS;have Hi:=aa hi0;have lg:=aa hz0;have kZ:=aa hz1;have lq:=aa hz2
 have HV:=aa hl;have HS:=aa hs;have yH:=aa hBd;have HP:=aa hP
 have S:Hid (∀W,jO w #[I J st,Z fo l.length gy,Z bo body.length fZ] 126 W->W.cell? ⟨w.heap.size,0,U⟩=M (I J st)∧W.cell? ⟨w.heap.size,1,U⟩=M (Z fo l.length gy)∧W.cell? ⟨w.heap.size,2,U⟩=M (Z bo body.length fZ)):=fun W h=>⟨h.f 0,h.f 1,h.f 2⟩;have H0:=aa (jO.j w #[I J st,Z fo l.length gy,Z bo body.length fZ] 126);have ZJ:=aa (MS _ st l fo bo gy fZ body.length (hl.a H0.o.below) hN hs);have hwl:=FN st;clear hl hs hBd hj0 hy0 hy1 hy2 hi0 hz0 hz1 hz2 hP;obtain⟨x,s,y⟩:=S.o _ H0.o;by_cases B:jH st l=0
 . obtain⟨hwd,h16,hout⟩:=Ou (body:=body) B (by omega);have HT:=aa hout;rw[B] at ZJ;clear hout B;obtain⟨hs1,hs2⟩:=Ot hwd;obtain⟨b,rfl⟩:∃b:Nat,st=(b:Int):=⟨st.toNat,by omega⟩;have HSw:Hid (∀W,Calls prog 227 #[I J (b:Int)] W fun e w'=>e=Y (V ⟨(gS b).toArray⟩)∧w'=W):=fun W=>CW b W;have hwz:(⟨(gS b).toArray⟩:ae).size<=22:=by show(gS b).toArray.size<=22;rw[cz];exact hwl
   have HWd:Hid ((⟨(gS b).toArray⟩:ae).data.toList=gS b):=rfl;have HNm:Hid (∀W,jO w #[I J (b:Int),Z fo l.length gy,Z bo body.length fZ] 126 W->Calls prog 141 #[I J (b:Int)] W fun e w'=>e=Y (V ⟨(bx 8 b).toArray⟩)∧Below W.heap.size W w'):=fun W h=>mE b (by omega) W (HP.o.a h.below);have HNb:Hid (∀W,jO w #[I J (b:Int),Z fo l.length gy,Z bo body.length fZ] 126 W->Calls prog 141 #[I J (body.length:Int)] W fun e w'=>e=Y (V (ji body.length).2)∧Below W.heap.size W w'):=fun W h=>mE body.length (by omega) W (HP.o.a h.below);have hdl:=gx 8 b;have hdz:(⟨(bx 8 b).toArray⟩:ae).size<=9:=by show(bx 8 b).toArray.size<=9;rw[cz];omega
   have HDd:Hid ((⟨(bx 8 b).toArray⟩:ae).data.toList=bx 8 b):=rfl;have ahQ:=gx 8 body.length;have hpz:(ji body.length).2.size<=9:=by show(bx 8 body.length).toArray.size<=9;rw[cz];omega
   have HPc:Hid (∀p∈l++[ji body.length],p.1.size<=2000∧p.2.size<=2000):=fun p T=>by
    rcases eC.1 T with T | T
    . exact HS.o p T
    . rw[cY.1 T];exact⟨by show nu.size<=2000;decide,by omega⟩
   have Uh:Hid ((l++[ji body.length]).length=l.length+1):=by unfold Hid;simp
   have HPV:Hid (aI (l++[ji body.length])=aI l++[V nu,V (ji body.length).2]):=by unfold Hid;simp[aI,ji]
   generalize ahR:(ji body.length).2=C at *;generalize D:l++[ji body.length]=c at *;clear ahR D;generalize (⟨(gS b).toArray⟩:ae)=wd at *;generalize (⟨(bx 8 b).toArray⟩:ae)=db at *;clear hwd hwl hdl ahQ;obtain⟨z,hz⟩:∃z:ae,z=⟨#[72,84,84,80,47,49,46,49,32]⟩++db++⟨#[32]⟩++wd++⟨#[13,10]⟩:=⟨_,rfl⟩;have hzs:z.size=9+db.size+1+wd.size+2:=by rw[hz];simp only[mB];rfl
   have hzd:z.data.toList=ke b:=by rw[hz];simp only[ma,HDd.o,HWd.o];rfl
   have t:=fun W=>xf (P:=prog) W z 9 31 5 (by unfold maxLen;omega) underlying9 underlying31 underlying5;obtain⟨adf,t⟩:=Classical.skolem.1 t;obtain⟨wF,t⟩:=Classical.skolem.1 t;have hcv:=fun W=>(t W).1;have HBf:Hid (∀W,Below W.heap.size W (wF W)∧dV (wF W) W.heap.size W.heap.size (adf W) (ke b)):=fun W=>by have:=(t W).2;rw[hzd] at this;exact this
   obtain⟨zn,hzn⟩:∃zn,z.size=zn:=⟨_,rfl⟩;have HZl:Hid ((ke b).length=zn):=by unfold Hid;rw[<-hzd,cJ];exact hzn
   have hzl:zn<=60:=by omega
   rw[hzn] at hcv;rw[hz] at hcv;clear t hzs hzd hz hzn;go_enter func171,ntmps171;go_wp2_with fail;refine ZJ.o.mono ?_;rintro e w1 ⟨rfl,m⟩;have Ap:=aa (H0.o.a m);clear m H0 x s y ZJ;obtain⟨x,s,y⟩:=S.o w1 Ap.o;go_upto_region 4 with fail
   go_cut [5] (fun v wc=>∃g r,v=Z (M ⟨g,0,U⟩) zn r∧dV wc (w.heap.size+1) g r (ke b)∧jO w #[I J (b:Int),Z fo l.length gy,Z bo body.length fZ] 126 wc)
   case first =>
    have Aq:=aa (Ap.o.a (bj _ _));have X4:Hid (∀W,jO w #[I J (b:Int),Z fo l.length gy,Z bo body.length fZ] 126 W->(wF W).cell? ⟨w.heap.size,0,U⟩=M (I J (b:Int))):=fun W h=>(S.o _ (h.a (HBf.o W).1)).1;have Ko:Hid (∀W,jO w #[I J (b:Int),Z fo l.length gy,Z bo body.length fZ] 126 W->dV (wF W) (w.heap.size+1) W.heap.size (adf W) (ke b)∧jO w #[I J (b:Int),Z fo l.length gy,Z bo body.length fZ] 126 (wF W)):=fun W h=>by
     have u:=(HBf.o W).2;exact⟨⟨h.r,u.b,u.e,u.f,u.d,u.a⟩,h.a (HBf.o W).1⟩
    go_region_held (fun W=>W.cell? ⟨w.heap.size,0,U⟩=M (I J (b:Int))) (first | exact X4.o _ Aq.o | go_keep) (first
     | (go_at_call 141;refine(HNm.o _ Aq.o).mono ?_;rintro e v1 ⟨rfl,m⟩;have NN:=Aq.o.a m;clear Aq;have Aq:=aa NN;have q0:=(S.o v1 NN).1;clear NN m)
     | (go_at_call 227;refine(HSw.o _).mono ?_;rintro e v1 ⟨rfl,hv1⟩;subst hv1))
    all_goals
     (try go_wp2);go_meet;obtain⟨f1,f2⟩:=Ko.o _ Aq.o;exact⟨_,_,rfl,f1,f2⟩
   case rest =>
    obtain⟨g,r,rfl,u,hOc⟩:=hcut;have HU:=aa u;have HOc:=aa hOc
    clear x s y u hOc Ap HSw HNm HBf hcv HDd HWd hwz hdz;obtain⟨x,s,y⟩:=S.o wc HOc.o;go_wp2_with fail;refine(HNb.o _ HOc.o).mono ?_;rintro e w2 ⟨rfl,hb2⟩;have EP:=aa (HOc.o.a hb2);have HU2:=aa (HU.o.j hb2)
    clear x s y hb2 HU HOc HNb;obtain⟨x,s,y⟩:=S.o w2 EP.o;have hOb:=EP.o.a ((ar _ w2).alloc (ak _) (K #[V ⟨#[67,111,110,116,101,110,116,45,76,101,110,103,116,104]⟩,V C] 148));have hUb:=HU2.o.B (K #[V ⟨#[67,111,110,116,101,110,116,45,76,101,110,103,116,104]⟩,V C] 148);have y0:=yc w2 ⟨#[67,111,110,116,101,110,116,45,76,101,110,103,116,104]⟩ C 148 rfl 0 _ rfl;have y1:=yc w2 ⟨#[67,111,110,116,101,110,116,45,76,101,110,103,116,104]⟩ C 148 rfl 1 _ rfl;rw[ge,ee] at y0 y1;go_upto_region 6 with fail
    have hgw:=HU2.o.b;have Cx:Hid (g<(w2.alloc (K #[V ⟨#[67,111,110,116,101,110,116,45,76,101,110,103,116,104]⟩,V C] 148)).heap.size):=hUb.b;clear x s y HU2 EP hgw;generalize (w2.alloc (K #[V ⟨#[67,111,110,116,101,110,116,45,76,101,110,103,116,104]⟩,V C] 148))=j at *;generalize w2.heap.size=k2 at *;obtain⟨x,s,y⟩:=S.o j hOb;have HOb:=aa hOb;have HUb:=aa hUb
    have oW:Hid (∀W,Below j.heap.size j W->W.cell? ⟨w.heap.size,1,U⟩=M (Z fo l.length gy)∧W.cell? ⟨k2,0,U⟩=M (V ⟨#[67,111,110,116,101,110,116,45,76,101,110,103,116,104]⟩)∧W.cell? ⟨k2,1,U⟩=M (V C)):=fun W hW =>
     ⟨(hW.cell (bY j _ s)).trans s,(hW.cell (bY j _ y0)).trans y0,(hW.cell (bY j _ y1)).trans y1⟩
    have xC:=aa (fun W (hW:Below j.heap.size j W)=>Hr l fo gy l.length W (HV.o.a (au hOb.below hW)) rfl hN);clear hOb hUb x y;go_cut [37,38,39] (fun v37 v38 v39 wd=>∃gf zW,v37=Z (M ⟨gf,0,U⟩) (l.length+1) zW∧v38=I J ((l.length:Int)+1)∧v39=I J 0∧aK wd 0 148 2 (M ⟨gf,0,U⟩) zW (l.length+1) (aI l++[V ⟨#[67,111,110,116,101,110,116,45,76,101,110,103,116,104]⟩,V C])∧j.heap.size<=gf∧Below j.heap.size j wd)
    case first =>
     have Ui:Hid (Below j.heap.size j j.drew):=bj _ _;have Uj:Hid (Below j.heap.size j (j.alloc (K #[V ⟨#[67,111,110,116,101,110,116,45,76,101,110,103,116,104]⟩,V C] 148)).drew):=((ar _ _).alloc (ak _) _).trans (bj _ _);have Mc:Hid (l.length+1<=maxLen∧(l.length+1)*32<=140737488355328):=⟨by unfold maxLen;omega,by omega⟩;have ZI:Hid (∀(W:X) (ao:ag) (cp g6:Nat),aK W j.heap.size 148 2 ao cp l.length (aI l)->∀k,j.heap.size<=k->((Value.slice ao l.length cp).ownBlock=M g6∨g6=k)->j.heap.size<=g6):=fun W ao cp g6 hO k hk h=>by
      rcases h with h | h
      . rw[dq] at h;cases ao with
        | none=>cases h
        | some a=>injection h with h;subst h;exact(hO.f a rfl).1
      . omega
     go_region_held_law (fun w'=>w'.cell? ⟨w.heap.size,1,U⟩=M (Z fo l.length gy)∧w'.cell? ⟨k2,0,U⟩=M (V ⟨#[67,111,110,116,101,110,116,45,76,101,110,103,116,104]⟩)∧w'.cell? ⟨k2,1,U⟩=M (V C)) (first | go_keep | exact HK6.o | exact HK5.o | exact HKA.o) (first
      | (refine step_append_lies _ (by rfl) _ _ _ (by rfl) 0 148 i0 (.agg #[V ⟨#[]⟩,V ⟨#[]⟩]) 2 32 underlying80 Hi.o lg.o kZ.o lq.o (by rfl) (by decide) (Z zU l.length G) l.length (aI l) (by rfl) ((zL.o.r (ax _)).G _) ⟨w5.heap.size,0,U⟩ 1 1 [V ⟨#[67,111,110,116,101,110,116,45,76,101,110,103,116,104]⟩,V C] (by rfl) (by rfl) (yc _ _ _ _ rfl) (wZ _ _) (by decide) Mc.o.1 Mc.o.2 (ax _) (w5.heap.size+1) (by simp) ?_;intro g6 cap6 w6 d f vH Pg;have ZK:=aa d;have uf:=aa (Gj (N.o.trans ((ar _ _).alloc N.o.size _)) zL.o f (ak _));have HG6:=aa (ZI.o _ _ _ g6 zL.o _ (Nat.le_succ_of_le N.o.size) vH);have HK6:=aa (oW.o w6 uf.o);clear d f vH Pg;(try simp only[Act.put,List.getElem_toArray,List.getElem_cons_succ,List.getElem_cons_zero,List.setIfInBounds_toArray,oP,List.set_cons_succ]))
      | (refine step_append_lies _ (by rfl) _ _ _ (by rfl) 0 148 i0 (.agg #[V ⟨#[]⟩,V ⟨#[]⟩]) 2 32 underlying80 Hi.o lg.o kZ.o lq.o (by rfl) (by decide) (Z zU l.length G) l.length (aI l) (by rfl) (zL.o.r (ax _)) ⟨j.heap.size,0,U⟩ 1 1 [V ⟨#[67,111,110,116,101,110,116,45,76,101,110,103,116,104]⟩,V C] (by rfl) (by rfl) HNB.o (wZ _ _) (by decide) Mc.o.1 Mc.o.2 (ax _) w5.heap.size (by rfl) ?_;intro g6 cap6 w6 d f vH Pg;have ZK:=aa d;have uf:=aa (Gj (N.o) zL.o f (ak _));have HG6:=aa (ZI.o _ _ _ g6 zL.o _ N.o.size vH);have HK6:=aa (oW.o w6 uf.o);clear d f vH Pg;(try simp only[Act.put,List.getElem_toArray,List.getElem_cons_succ,List.getElem_cons_zero,List.setIfInBounds_toArray,oP,List.set_cons_succ]))
      | (go_at_call 228;refine(xC.o _ Uj.o).mono ?_;rintro e w5 ⟨zU,G,rfl,xW,Cu⟩;have zL:=aa (xW.r Uj.o.size);have N:=aa (Uj.o.trans (Cu.mono (by simp)));have HK5:=aa (oW.o w5 N.o);have HNB:=aa (Tp Cu);clear xW Cu)
      | (go_at_call 228;refine(xC.o _ Ui.o).mono ?_;rintro e w5 ⟨zU,G,rfl,xW,Cu⟩;have zL:=aa (xW.r Ui.o.size);have N:=aa (Ui.o.trans (Cu.mono (ak _)));have HK5:=aa (oW.o w5 N.o);have HKA:=aa (oW.o _ (N.o.trans ((ar _ w5).alloc N.o.size (K #[V ⟨#[67,111,110,116,101,110,116,45,76,101,110,103,116,104]⟩,V C] 148))));clear xW Cu))
     all_goals (go_wp2;go_meet;exact⟨g6,cap6,rfl,rfl,rfl,ZK.o,HG6.o,uf.o⟩)
    case rest =>
     obtain⟨gf,zW,rfl,rfl,rfl,E8,hG6,X5⟩:=hcut;have hrow:bq wc (M ⟨gf,0,U⟩) zW (l.length+1) (aI c):=by rw[HPV.o];exact E8.a
     have Dy:Hid (rT w #[I J (b:Int),Z fo l.length gy,Z bo body.length fZ] 126 c (M ⟨gf,0,U⟩) zW g r (ke b) wc) :=
      ⟨HOb.o.a X5,HUb.o.j X5,by rw[Uh.o];exact hrow,fun a e=>by injection e with e;subst e;exact⟨by have:=Cx.o;show gf≠g;omega,(E8.f _ rfl).2⟩⟩
     clear E8 hG6 X5 hrow oW xC HOb HUb y0 y1 s Cx;go_wp2;go_loopw [5,39] (fun vo vi wr=>∃(i n g r:Nat),i<=l.length+1∧vi=I J i∧vo=Z (M ⟨g,0,U⟩) n r∧(ke b++(c.take i).flatMap jn).length=n∧(∀p∈c.take i,(bP p.1.data.toList p.2.data.toList).2=0)∧rT w #[I J (b:Int),Z fo l.length gy,Z bo body.length fZ] 126 c (M ⟨gf,0,U⟩) zW g r (ke b++(c.take i).flatMap jn) wr) (fun _ vi _=>l.length+1-(intOf vi).toNat)
     case atStart=>exact⟨0,_,_,_,ax _,rfl,rfl,by simpa using HZl.o,fun p T=>by simp at T,by simpa using Dy.o⟩
     case round =>
      obtain⟨i,n,g,r,hi,rfl,rfl,hn,DF,hR⟩:=hrel;have HR:=aa hR;have X6:=aa hn;have HZr:=aa DF
      have hnl:n<=200000:=by
       have h2:=Cn (c.take i) (fun p T=>HPc.o p (List.mem_of_mem_take T));have h3:(c.take i).length<=16:=by rw[bU,Uh.o];omega
       rw[aD,HZl.o] at hn;omega
      clear hR Dy hn DF;obtain⟨x,s,y⟩:=S.o wr HR.o.b;by_cases hlt:i<l.length+1
      . have hlt':(i:Int)<(l.length:Int)+1:=by omega
        have V3:i<c.length:=by rw[Uh.o];exact hlt
        have hp1:=HR.o.e.y (om c i V3).1;have hp2:=HR.o.e.y (om c i V3).2;rw[ge,ee] at hp1 hp2;have hfc:=HR.o.e.1;rw[Uh.o] at hfc;have hps:=HPc.o c[i] (fb V3);have sQ:Hid (c.take (i+1)=c.take i++[c[i]]):=fR V3;have E9:Hid ((bP c[i].1.data.toList c[i].2.data.toList).2≠0->jF c=(bP c[i].1.data.toList c[i].2.data.toList).2):=fun hc=>FO c i V3 HZr.o hc;generalize c[i]=p at *;have AU:=aa (EJ p.1 p.2 (wr.alloc (K #[V p.1,V p.2] 148)) (by omega) (by omega));have D:=CQ p hps;have X7:Hid (jn p=(bP p.1.data.toList p.2.data.toList).1++[13,10]):=rfl;have Gm:Hid (Below wr.heap.size wr (wr.alloc (K #[V p.1,V p.2] 148))):=(ar _ _).alloc (ak _) _;unfold lU at AU;generalize hcd:(bP p.1.data.toList p.2.data.toList).2=cd at *;generalize (bP p.1.data.toList p.2.data.toList).1=tx at *;have HCd:=aa hcd;clear hps V3 hcd;by_cases hc0:cd=0
        . subst hc0;have hxz:((⟨tx.toArray⟩:ae)++⟨#[13,10]⟩:ae).size=tx.length+2:=by rw[mB];rfl
          have hxd:((⟨tx.toArray⟩:ae)++⟨#[13,10]⟩:ae).data.toList=tx++[13,10]:=by rw[ma]
          have hxl:tx.length+2<=4004:=by
           have:=X7.o;rw[this,aD] at D;simpa using D
          have HXz:=aa hxz;have HXd:=aa hxd
          clear hxz hxd D;go_wp2_with fail;refine AU.o.mono ?_;rintro e w5 ⟨rfl,H⟩;have HR5:=aa (HR.o.f (Gm.o.trans (H.mono (by simp))));clear H x s y AU;go_wp2_with (at_builtin;refine Bx rfl (.tmp 51) (.tmp 53) 31 9 rfl 5 j0 underlying31 Hj.o O9.o Pb.o Pf.o rfl HR5.o.c X6.o _ _ rfl (vU underlying9 _ _) (by rw[HXz.o];omega) ?_;intro g7 Gn w7 X8 Fa L;have RH:=aa (HR5.o.a X8 Fa L);clear X8 Fa L)
          go_roundw
          case rel =>
           have hlc:ke b++(c.take i).flatMap jn++((⟨tx.toArray⟩:ae)++⟨#[13,10]⟩:ae).data.toList=ke b++(c.take (i+1)).flatMap jn:=by
            rw[sQ.o,List.flatMap_append,HXd.o,iY];congr 2;simp[X7.o]
           refine⟨i+1,_,g7,Gn,by omega,by go_num,rfl,?_,?_,by rw[<-hlc];exact RH.o⟩
           . rw[<-hlc,aD,X6.o,HXd.o];simp
           . intro q hq;rw[sQ.o] at hq;rcases eC.1 hq with hq | hq
             . exact HZr.o q hq
             . simp at hq;subst hq;exact HCd.o
          case measure=>simp[intOf];omega
        . have tc:((cd:Int) != 0)=true:=by rw[di];omega
          have HLb:=aa (E9.o hc0);have Ph:=aa hc0
          clear hc0 D;go_wp2_with fail;refine AU.o.mono ?_;rintro e w5 ⟨rfl,H⟩;have HR5:=aa (HR.o.f (Gm.o.trans (H.mono (by simp))));clear H x s y AU;go_wp2;(try simp only[Exit.inBlock,Exit.then]);go_ret2;refine .bad cd Ph.o rfl ?_ HR5.o.b.below;rw[HT.o,HLb.o,if_pos Ph.o]
      . obtain rfl:i=l.length+1:=by omega
        have HXe:Hid (py b l body=(ke b++(c.take (l.length+1)).flatMap jn++[13,10]++body,0)):=by
         have htl:c.take (l.length+1)=c:=by rw[<-Uh.o];exact eQ
         have hz:=HZr.o;rw[htl] at hz;unfold Hid;rw[HT.o,Op c hz,if_neg (by simp),htl]
        clear HT;go_wp2_with (first
         | (at_builtin;refine Bx rfl (.tmp 56) (.const (V ⟨#[13,10]⟩)) 31 9 rfl 5 j0 underlying31 Hj.o O9.o Pb.o Pf.o rfl HR.o.c X6.o _ _ rfl (vU underlying9 _ _) (by show n+2<=_;omega) ?_;intro g7 Gn w7 X8 Fa L;have ZL:=HR.o.a X8 Fa L;have RH:=aa ZL;have adi:=aa (yH.o.a ZL.b.below);have z2:=(S.o w7 ZL.b).2.2;clear X8 Fa L ZL)
         | (at_builtin;refine Bx rfl (.tmp 58) (.tmp 60) 31 31 rfl 5 j0 underlying31 Hj.o O9.o Pb.o Pf.o rfl RH.o.c (by rw[aD,X6.o];rfl) _ _ rfl (MT underlying31 adi.o rfl) (by omega) ?_;intro g8 adj w8 hU8 hT8 hg8;have HR8:=aa (RH.o.a hU8 hT8 hg8);clear hU8 hT8 hg8))
        go_ret2;have u:=HR8.o.c;refine .ok g8 adj _ rfl ?_ (by rw[HXe.o]) (by rw[HXe.o];exact⟨by have:=u.c;omega,u.b,u.e,u.f,u.d,u.a⟩) HR8.o.b.below;rw[HXe.o];show _=(ke b++(c.take (l.length+1)).flatMap jn++[13,10]++body).length;rw[aD,aD,X6.o];rfl
 . have HF:=aa (Oq (body:=body) B);have tc:(((jH st l:Nat):Int) != 0)=true:=by rw[di];omega
   have HN0:=aa B;generalize jH st l=fc at *;clear B;go_enter func171,ntmps171;go_wp2_with fail;refine ZJ.o.mono ?_;rintro e w1 ⟨rfl,m⟩;have Ap:=aa (H0.o.a m);clear m H0 x s y;go_wp2;go_ret2;exact .bad fc HN0.o rfl HF.o Ap.o.below
theorem pT (st:Int)(w:X):Calls prog 173 #[I J st] w fun e w'=>e=Y (.agg #[I J st,Z U 0 0,Z U 0 0])∧Below w.heap.size w w':=by
 go_enter func173,ntmps173;go_wp2;refine aR (v:=.agg #[I J st,Z U 0 0,Z U 0 0]) (by simp[results,results173,go_sem]) rfl ⟨rfl,?_⟩;exact(ar _ _).alloc (ak _) _
theorem rD {W:X}{b j:Nat}{f g i:Value}(h:W.heap[b]? = M (K #[f,g,i] j (0,0)))(a c d:Value):
 (W.cell? ⟨b,0,U⟩=M f∧W.cell? ⟨b,1,U⟩=M g∧W.cell? ⟨b,2,U⟩=M i∧W.frozen? ⟨b,0,U⟩=F∧W.frozen? ⟨b,1,U⟩=F∧W.frozen? ⟨b,2,U⟩=F) ∧
 Hid ((((W.setCell ⟨b,0,U⟩ a).setCell ⟨b,1,U⟩ c).setCell ⟨b,2,U⟩ d).cell? ⟨b,0,U⟩=M a∧(((W.setCell ⟨b,0,U⟩ a).setCell ⟨b,1,U⟩ c).setCell ⟨b,2,U⟩ d).cell? ⟨b,1,U⟩=M c∧(((W.setCell ⟨b,0,U⟩ a).setCell ⟨b,1,U⟩ c).setCell ⟨b,2,U⟩ d).cell? ⟨b,2,U⟩=M d∧am (fun k=>k=b) W (((W.setCell ⟨b,0,U⟩ a).setCell ⟨b,1,U⟩ c).setCell ⟨b,2,U⟩ d)):=by
 have e:=aP _ b 2 _ _ d (aP _ b 1 _ _ c (aP W b 0 _ _ a h));exact⟨⟨aq W _ 0 _ _ _ h,aq W _ 1 _ _ _ h,aq W _ 2 _ _ _ h,aN W _ 0 _ _ h,aN W _ 1 _ _ h,aN W _ 2 _ _ h⟩,aq _ _ 0 _ _ _ e,aq _ _ 1 _ _ _ e,aq _ _ 2 _ _ _ e,jr b [a,c,d] 0 W⟩
theorem yn (k:Int)(w:X):Calls prog 49 #[I J k] w fun e w'=>e=Y (.bool (decide (0<=k)&&decide (k<4)))∧w'=w:=by
 by_cases h:0<=k
 . have t:decide (k≥0)=true:=br h;rw[br h,Bool.true_and];go_enter func49,ntmps49;go_wp2;go_ret;exact⟨rfl,rfl⟩
 . have t:decide (k≥0)=F:=ba h;rw[ba h,Bool.false_and];go_enter func49,ntmps49;go_wp2;go_ret;exact⟨rfl,rfl⟩
theorem Nr (c:Nat)(w:X):Calls prog 110 #[I J (c:Int)] w fun e w'=>e=Y (.agg #[I J ((pr c).1:Int),Z U 0 0,Z U 0 0])∧Below w.heap.size w w':=by
 by_cases h:c=4
 . subst h;go_enter func110,ntmps110;go_wp2_with fail;refine((fun W=>pT 413 W) _).mono ?_;rintro e d ⟨rfl,a⟩;obtain⟨⟨m,n,p,q,r,s⟩,f⟩:=rD ((a.block w.heap.size (by simp)).trans (aX w _)) (I J 413) (Z U 0 0) (Z U 0 0);have b:=au ((ar _ w).alloc (ak _) _) a;go_wp2;generalize (((d.setCell ⟨w.heap.size,0,U⟩ _).setCell ⟨w.heap.size,1,U⟩ _).setCell ⟨w.heap.size,2,U⟩ _)=u at *;obtain⟨g,i,j,l⟩:=f.o;refine aR (v:=.agg #[I J 413,Z U 0 0,Z U 0 0]) (by simp[results,results110,go_sem,g,i,j]) rfl ⟨rfl,b.trans (l.below (fun k e=>by omega) b.size)⟩
 . have t:((c:Int)==4)=F:=aQ.2 (by omega);have x:(pr c).1=400:=by unfold pr;simp[h]
   rw[x];go_enter func110,ntmps110;go_wp2_with fail;refine((fun W=>pT 400 W) _).mono ?_;rintro e d ⟨rfl,a⟩;obtain⟨⟨m,n,p,q,r,s⟩,f⟩:=rD ((a.block w.heap.size (by simp)).trans (aX w _)) (I J 400) (Z U 0 0) (Z U 0 0);have b:=au ((ar _ w).alloc (ak _) _) a;go_wp2;generalize (((d.setCell ⟨w.heap.size,0,U⟩ _).setCell ⟨w.heap.size,1,U⟩ _).setCell ⟨w.heap.size,2,U⟩ _)=u at *;obtain⟨g,i,j,l⟩:=f.o;refine aR (v:=.agg #[I J 400,Z U 0 0,Z U 0 0]) (by simp[results,results110,go_sem,g,i,j]) rfl ⟨rfl,b.trans (l.below (fun k e=>by omega) b.size)⟩
theorem gj.G {w:X}{g gs:Nat}{v:Nat->List Value}(h:gj w g gs v){k:Nat}(a:k<4){m n a2 p q r s:Value}(t:v k=[m,n,a2,p,q,r,s]){o:Nat}(u:1+k*7=o)(b c d e f l:Value):
 gj ((((((w.setCell ⟨g,o+1,U⟩ b).setCell ⟨g,o+2,U⟩ c).setCell ⟨g,o+3,U⟩ d).setCell ⟨g,o+4,U⟩ e).setCell ⟨g,o+5,U⟩ f).setCell ⟨g,o+6,U⟩ l) g gs (bL v k [m,b,c,d,e,f,l])∧am (fun i=>i=g) w ((((((w.setCell ⟨g,o+1,U⟩ b).setCell ⟨g,o+2,U⟩ c).setCell ⟨g,o+3,U⟩ d).setCell ⟨g,o+4,U⟩ e).setCell ⟨g,o+5,U⟩ f).setCell ⟨g,o+6,U⟩ l):=by
 subst u;refine⟨?_,jr g [b,c,d,e,f,l] (1+k*7+1) w⟩;have:=(((((h.f a (j:=1) (by decide) b).f a (j:=2) (by decide) c).f a (j:=3) (by decide) d).f a (j:=4) (by decide) e).f a (j:=5) (by decide) f).f a (j:=6) (by decide) l;simp only[oU,dc,t] at this;exact this
theorem yD {w:X}{g gs:Nat}{v:Nat->List Value}(h:gj w g gs v){k:Nat}(a:k<4){f:Value}{m t:ae}{mi ln:Int}{fo bo:ag}{nf gy nb fZ:Nat}(b:v k=[f,V m,V t,I J mi,Z fo nf gy,I J ln,Z bo nb fZ]):
 Calls prog 50 #[Q (M ⟨g,1+k*7,U⟩)] w fun e w'=>e=Y (.agg #[V m,V t,I J mi,Z fo nf gy,I J ln,Z bo nb fZ])∧gj w' g gs (bL v k [f,V ⟨#[]⟩,V ⟨#[]⟩,I J 0,Z U 0 0,I J 0,Z U 0 0])∧am (fun i=>i=g) w w':=by
 have p:=h.a a (j:=1) (by decide) (u:=V m) (by rw[b];rfl);have q:=h.a a (j:=2) (by decide) (u:=V t) (by rw[b];rfl);have r:=h.a a (j:=3) (by decide) (u:=I J mi) (by rw[b];rfl);have s:=h.a a (j:=4) (by decide) (u:=Z fo nf gy) (by rw[b];rfl);have x:=h.a a (j:=5) (by decide) (u:=I J ln) (by rw[b];rfl);have y:=h.a a (j:=6) (by decide) (u:=Z bo nb fZ) (by rw[b];rfl);have z:=h.j (1+k*7+1);have B:=h.j (1+k*7+2);have C:=h.j (1+k*7+3);have D:=h.j (1+k*7+4);have G:=h.j (1+k*7+5);have H:=h.j (1+k*7+6)
 have L:=h.r;obtain⟨o,l⟩:∃o,1+k*7=o:=⟨_,rfl⟩;rw[l] at p q r s x y z B C D G H ⊢;go_enter func50,ntmps50;go_wp2;have N:=h.G a b l (V ⟨#[]⟩) (V ⟨#[]⟩) (I J 0) (Z U 0 0) (I J 0) (Z U 0 0);change bodyPost _ _ _ _ _ (World.alloc (World.alloc (((((((w.setCell ⟨g,o+1,U⟩ (V ⟨#[]⟩)).setCell ⟨g,o+2,U⟩ (V ⟨#[]⟩)).setCell ⟨g,o+3,U⟩ (I J 0)).setCell ⟨g,o+4,U⟩ (Z U 0 0)).setCell ⟨g,o+5,U⟩ (I J 0)).setCell ⟨g,o+6,U⟩ (Z U 0 0))) _) _);have T:((((((w.setCell ⟨g,o+1,U⟩ (V ⟨#[]⟩)).setCell ⟨g,o+2,U⟩ (V ⟨#[]⟩)).setCell ⟨g,o+3,U⟩ (I J 0)).setCell ⟨g,o+4,U⟩ (Z U 0 0)).setCell ⟨g,o+5,U⟩ (I J 0)).setCell ⟨g,o+6,U⟩ (Z U 0 0)).heap.size=w.heap.size:=by simp
 generalize ((((((w.setCell ⟨g,o+1,U⟩ (V ⟨#[]⟩)).setCell ⟨g,o+2,U⟩ (V ⟨#[]⟩)).setCell ⟨g,o+3,U⟩ (I J 0)).setCell ⟨g,o+4,U⟩ (Z U 0 0)).setCell ⟨g,o+5,U⟩ (I J 0)).setCell ⟨g,o+6,U⟩ (Z U 0 0))=c at *;obtain⟨d,W⟩:=N;have n:Below c.heap.size c ((c.alloc (K #[V m,V t,I J mi,Z fo nf gy,I J ln,Z bo nb fZ] 84)).alloc (K #[V m,V t,I J mi,Z fo nf gy,I J ln,Z bo nb fZ] 84)):=au ((ar _ _).alloc (ak _) _) ((ar _ _).alloc (ak _) _);refine aR (v:=.agg #[V m,V t,I J mi,Z fo nf gy,I J ln,Z bo nb fZ]) (by rw[<-T];simp[results,results50,go_sem]) rfl ⟨rfl,⟨(n.block g d.r).trans d.c,d.b⟩,W.a (am.f (S:=fun _=>False) n) (fun _ e _=>e.elim)⟩
theorem Co (w:X):Calls prog 51 #[] w fun e w'=>∃gp,e=Y (.agg #[Q (M ⟨gp,0,U⟩),V ⟨#[]⟩,V ⟨#[]⟩,I J 0,Z U 0 0,I J 0,Z U 0 0])∧dM w' (fun k=>w.heap.size<=k) gp pC∧Below w.heap.size w w':=by
 go_enter func51,ntmps51;go_wp2_with fail;refine((fun W=>M1 W) _).mono ?_;rintro e b ⟨gp,rfl,s,d⟩;have a:=(d.block w.heap.size (by simp)).trans (aX w _);have x:=aq b _ 0 _ _ _ a;have y:=aq b _ 1 _ _ _ a;have z:=aq b _ 2 _ _ _ a;have B:=aq b _ 3 _ _ _ a;have C:=aq b _ 4 _ _ _ a;have D:=aq b _ 5 _ _ _ a;have G:=aq b _ 6 _ _ _ a
 have H:=fun j=>aN b _ j _ _ a;have f:=au ((ar _ w).alloc (ak _) _) d;have t:dM b (fun k=>w.heap.size+1<=k) gp pC:=s.a (fun k _ e=>by rw[bF] at e;exact e);have u:=aa a;go_wp2;have g:am (fun k=>k=w.heap.size) b (((((((b.setCell ⟨w.heap.size,0,U⟩ (Q (M ⟨gp,0,U⟩))).setCell ⟨w.heap.size,1,U⟩ (V ⟨#[]⟩)).setCell ⟨w.heap.size,2,U⟩ (V ⟨#[]⟩)).setCell ⟨w.heap.size,3,U⟩ (I J 0)).setCell ⟨w.heap.size,4,U⟩ (Z U 0 0)).setCell ⟨w.heap.size,5,U⟩ (I J 0)).setCell ⟨w.heap.size,6,U⟩ (Z U 0 0)):=jr w.heap.size [Q (M ⟨gp,0,U⟩),V ⟨#[]⟩,V ⟨#[]⟩,I J 0,Z U 0 0,I J 0,Z U 0 0] 0 b;have a:=aP _ _ 6 _ _ (Z U 0 0) (aP _ _ 5 _ _ (I J 0) (aP _ _ 4 _ _ (Z U 0 0) (aP _ _ 3 _ _ (I J 0) (aP _ _ 2 _ _ (V ⟨#[]⟩) (aP _ _ 1 _ _ (V ⟨#[]⟩) (aP b w.heap.size 0 _ _ (Q (M ⟨gp,0,U⟩)) u.o))))));generalize (((((((b.setCell ⟨w.heap.size,0,U⟩ (Q (M ⟨gp,0,U⟩))).setCell ⟨w.heap.size,1,U⟩ (V ⟨#[]⟩)).setCell ⟨w.heap.size,2,U⟩ (V ⟨#[]⟩)).setCell ⟨w.heap.size,3,U⟩ (I J 0)).setCell ⟨w.heap.size,4,U⟩ (Z U 0 0)).setCell ⟨w.heap.size,5,U⟩ (I J 0)).setCell ⟨w.heap.size,6,U⟩ (Z U 0 0))=c at *;have i:=aq c _ 0 _ _ _ a;have l:=aq c _ 1 _ _ _ a;have m:=aq c _ 2 _ _ _ a;have n:=aq c _ 3 _ _ _ a;have p:=aq c _ 4 _ _ _ a;have q:=aq c _ 5 _ _ _ a;have r:=aq c _ 6 _ _ _ a
 simp at i l m n p q r;refine aR (v:=.agg #[Q (M ⟨gp,0,U⟩),V ⟨#[]⟩,V ⟨#[]⟩,I J 0,Z U 0 0,I J 0,Z U 0 0]) (by simp[results,results51,go_sem,i,l,m,n,p,q,r]) rfl ⟨gp,rfl,?_,f.trans (g.below (fun k e=>by omega) f.size)⟩;exact(t.f g (fun k e L=>by omega)).a (fun k _ e=>by omega)
theorem Mv (m t:ae)(mi ln:Int)(fo bo:ag)(nf gy nb fZ:Nat)(w:X)(b:t.size<=100000):Calls prog 52 #[.agg #[V m,V t,I J mi,Z fo nf gy,I J ln,Z bo nb fZ]] w fun e w'=>e=Y (.bool (decide (m=ug)&&um t))∧Below w.heap.size w w':=by
 have a:=(ar _ w).alloc (ak _) (K #[V m,V t,I J mi,Z fo nf gy,I J ln,Z bo nb fZ] 84);by_cases h:m=ug
 . have c:(m.toList==[80,65,84,67,72])=true:=by rw[cR,Lib.toList_data,h];rfl
   rw[br h,Bool.true_and];clear h;go_enter func52,ntmps52;go_wp2_with fail;refine((fun W=>Cm t W b) _).mono ?_;rintro e f ⟨rfl,d⟩;subst d;go_wp2;go_ret;exact⟨rfl,a⟩
 . have c:(m.toList==[80,65,84,67,72])=F:=by
    rw[aQ,Lib.toList_data];intro e;exact h (by rw[ByteArray.ext_iff,<-vq,e];rfl)
   rw[ba h,Bool.false_and];go_enter func52,ntmps52;go_wp2;go_ret;exact⟨rfl,a⟩
structure Ts (w:X)(l:ab)(e:Ending)(w':X):Prop where
 b:∃(ao:ag) (cap n:Nat),e=Y (Z ao n cap)∧n=l.length∧aB w' ao cap l
 a:Below w.heap.size w w'
theorem Ey (w:X)(r:mU)(fo bo:ag)(nf gy nb fZ:Nat)(b:pm r)(d:r.2.1.length=nf)(m:bq w fo gy nf (aI r.2.1))(p:r.2.2.length=nb)(s:aB w bo fZ r.2.2)(t:dj w):
 Calls prog 108 #[.agg #[I J (r.1:Int),Z fo nf gy,Z bo nb fZ]] w fun e w'=>Ts w (mm r) e w':=by
 subst d;have a:=(ar _ w).alloc (ak _) (K #[I J (r.1:Int),Z fo r.2.1.length gy,Z bo nb fZ] 126);have z:=b.c;have B:=b.b
 have u:=MU _ (r.1:Int) r.2.1 fo bo gy fZ nb r.2.2 (m.a a) (by omega) b.d p (s.a a) (by omega) (t.a a);have l:=aa a;have v:mm r=(py (r.1:Int) r.2.1 r.2.2).1:=rfl;rw[v];generalize py (r.1:Int) r.2.1 r.2.2=q at *;go_enter func108,ntmps108;go_wp2_with fail;refine u.mono ?_;rintro e C x;cases x with
 | bad c D f i a =>
   subst f;have j:=aa (au l.o a);go_wp2;go_ret;refine⟨⟨U,0,0,rfl,by rw[i];rfl,by rw[i];exact aB.f _⟩,j.o⟩
 | ok g k n f d i y a =>
   subst f;subst d;have j:=aa (au l.o a);go_wp2;go_ret;exact⟨⟨_,k,_,rfl,rfl,y.r⟩,j.o⟩
theorem Sd (a:ae)(l:aC):iH (aG a l)=aZ (aO a l):=by
 show iH (aO a l)=_;match aO a l with
 | []=>rfl
 | [_]=>rfl
 | _::_::_=>rfl
theorem Jl {w:X}{l:aC}{fo:ag}{gy nf:Nat}(h:fW w l fo gy nf):
 Calls prog 230 #[Z fo nf gy] w fun e w'=>e=Y (.tuple #[V ((mj l).elim ⟨#[]⟩ iS),.bool (mj l).isSome])∧Below w.heap.size w w':=by
 have k:=aa (vO l sj fo gy nf w h.d h.e (by have:=h.c;omega) h.b (by decide));have hz:=h.f jI;rw[Sd,Bk] at k;unfold sj at k;obtain⟨B,d⟩:∃B,B=mj l:=⟨_,rfl⟩;rw[<-d];unfold mj at d;generalize aZ (aO jI l)=r at *;obtain⟨v,c⟩:=r;simp only[lU] at hz k d;by_cases hc:c=0
 . subst hc;rw[if_neg (by simp)] at d;have m:=aa d;have HP:Hid (∀W,Calls prog 269 #[V ⟨v.toArray⟩] W fun e w'=>tA W (dY v) e w'):=fun W=>by
    have:=BN ⟨v.toArray⟩ W (by show v.toArray.size<=_;rw[cz];omega);rw[show(⟨v.toArray⟩:ae).data.toList=v from by simp] at this;exact this
   go_enter func230,ntmps230;go_wp2_with fail;refine k.o.mono ?_;rintro e w1 ⟨rfl,f⟩;have G:=aa f;go_wp2_with fail;refine(HP.o _).mono ?_;rintro e H ⟨word,b,ao,n,code,rfl,z,s,L⟩;have g:Below H.heap.size H (H.alloc (K #[V word,Z ao b.length n] 244)):=(ar _ _).alloc (ak _) _;have a:=aa (au (au G.o L) g);cases C:dY v with
   | inl c2 =>
     rw[C] at z m;obtain⟨rfl,rfl,rfl⟩:=z;obtain rfl:B=U:=m.o;by_cases h0:code=0
     . subst h0;go_wp2;go_ret2;exact⟨rfl,a.o⟩
     . have t0:((code:Int) != 0)=true:=by rw[di];omega
       go_wp2;go_ret2;exact⟨rfl,a.o⟩
   | inr x =>
     obtain⟨N,qs⟩:=x;rw[C] at z m;obtain⟨rfl,i,t⟩:=z;simp only at i t;have mH:=Dz C;have u:=AG C;subst t;have hn8:b.length<=8:=by rw[<-yl];exact mH
     have S:∀p∈b,p.2.size<=1000000:=fun p hp=>by
      have h2:=(u.2 (p.1.data.toList,p.2.data.toList) (my.2 ⟨p,hp,rfl⟩)).2;rw[cH] at h2;omega
     obtain⟨T,j⟩:∃T,b.length=T:=⟨_,rfl⟩;rw[j] at s g a;have HG:=yA word b ⟨#[98,111,117,110,100,97,114,121]⟩ ao n T _ (s.a.a g) j (by omega) S;have HGl:=zw ⟨#[98,111,117,110,100,97,114,121]⟩ b;rw[j];by_cases D:N=wU
     . have tw:(word.toList==[109,117,108,116,105,112,97,114,116,47,102,111,114,109,45,100,97,116,97])=true:=by rw[cR,Lib.toList_data,i,D];rfl
       have hBq:B=(iB ⟨#[98,111,117,110,100,97,114,121]⟩ b).map (fun x=>x.data.toList):=by
        rw[HGl,m.o];show(if N≠wU then U else ib zZ (dy b))=_;rw[if_neg (by simp[D])];rfl
       generalize iB ⟨#[98,111,117,110,100,97,114,121]⟩ b=q at *;go_wp2_with fail;refine HG.mono ?_;rintro e w3 ⟨rfl,hb3⟩;have HB3:=au a.o hb3;go_wp2;go_ret2;refine⟨?_,HB3⟩;rw[hBq];cases q with
       | none=>rfl
       | some y=>simp[iS]
     . have tw:(word.toList==[109,117,108,116,105,112,97,114,116,47,102,111,114,109,45,100,97,116,97])=F:=by
        rw[aQ,Lib.toList_data,i];exact D
       obtain rfl:B=U:=by
        rw[m.o];show(if N≠wU then U else ib zZ (dy b))=_;rw[if_pos D]
       go_wp2;go_ret2;exact⟨rfl,a.o⟩
 . have t0:((c:Int) != 0)=true:=by rw[di];omega
   rw[if_pos hc] at d;subst d;go_enter func230,ntmps230;go_wp2_with fail;refine k.o.mono ?_;rintro e w1 ⟨rfl,f⟩;go_wp2;go_ret2;exact⟨rfl,f⟩
theorem QV (a:List bW)(k:Nat)(b:k<a.length):gP (a.take (k+1))=gP (a.take k)+(a[k].a.length+200):=by
 unfold gP;rw[fR b,ku,List.sum_append];simp
theorem Ho (a:List bW)(k:Nat):gP (a.take k)<=gP a:=by
 unfold gP;conv=>rhs;rw[<-iN k a,ku,List.sum_append]
 omega
theorem N3 {w:X}{ao:ag}{cap n:Nat}{a:List bW}(h:tW w ao cap a)(r:a.length=n)(G:gP a<=1000000000):
 Calls prog 232 #[Z ao n cap] w fun e w'=>e=Y (I J (gP a:Int))∧Below w.heap.size w w':=by
 subst r;have u:=aa h;have m:a.length<=cap:=by obtain⟨_,_,v,_⟩:=h;exact v.1
 have H:a.length<=10000000:=by
  have x:∀l:List bW,l.length*200<=gP l:=fun l=>by
   induction l with
   | nil=>simp[gP]
   | cons p t L=>unfold gP at *;simp at *;omega
  have:=x a;omega
 go_enter func232,ntmps232;go_wp2;go_loopw [3,8] (fun y f wr=>∃i:Nat,i<=a.length∧f=I J i∧y=I J (gP (a.take i):Int)∧Below w.heap.size w wr) (fun _ f _=>a.length-(intOf f).toNat)
 case atStart=>exact⟨0,ax _,rfl,rfl,ar _ _⟩
 case round =>
  obtain⟨i,N,rfl,rfl,g⟩:=hrel;by_cases d:i<a.length
  . have q:(i:Int)<a.length:=by omega
    obtain⟨b,o,s,rfl,S,T,W,z,B⟩:=(u.o.a g).f i d;have j:=QV a i d;have C:=Ho a i;have c:=Ho a (i+1);rw[j] at c;obtain⟨nb,k⟩:∃nb,a[i].a.length=nb:=⟨_,rfl⟩;rw[k] at z j c;have D:=au g ((ar _ wr).alloc (ak _) (K #[V a[i].c,V a[i].b,V a[i].d,Z s.a nb s.b] 96));generalize a[i]=p at *;go_wp2;go_roundw
    case rel=>exact⟨i+1,by omega,by go_num,by rw[j];go_num,D⟩
    case measure=>simp[intOf];omega
  . obtain rfl:i=a.length:=by omega
    go_wp2;go_ret;refine⟨?_,g⟩;rw[eQ];rfl
inductive rU
 | row
 | jd
 | ids
 | list
 | box
 | out
def jR (l:List Int):List Value:=l.map fun i=>Value.int J i
def AF (io:ag)(gT:Nat)(ids:List Int):dC:=fun w S=>aK w 0 3 1 io gT ids.length (jR ids)∧∀a,io=M a->S a.block
theorem AF.a (c:ag)(d:Nat)(ids:List Int):bM (AF c d ids):=⟨fun h f b=>⟨h.1.j f (fun a e=>b _ (h.2 a e)),h.2⟩,fun h b=>⟨h.1,fun a e=>b _ (h.1.f a e).2 (h.2 a e)⟩⟩
def tG (g:Nat)(o:Obj):dC:=fun w S=>w.heap[g]? = M o∧S g
theorem tG.a (g:Nat)(o:Obj):bM (tG g o):=⟨fun h b a=>⟨b.y h.1 (a g h.2),h.2⟩,fun h a=>⟨h.1,a g (bO.1 h.1).1 h.2⟩⟩
def oa (gs:Nat)(io:ag)(ni gT:Nat)(lo:ag)(nl iC:Nat):Obj:=K #[Q (M ⟨gs,0,U⟩),Z io ni gT,Z lo nl iC] 295 (0,0)
def fY (L gs:Nat)(s:av)(o:Obj)(io:ag)(gT:Nat)(ids:List Int)(lo:ag)(iC:Nat)(told:ab)(b u:dC):rU->dC
 | .row=>tG L o
 | .jd=>fun w S=>aS w S gs s
 | .ids=>AF io gT ids
 | .list=>nE lo iC told
 | .box=>b
 | .out=>u
theorem pX {L gs:Nat}{s:av}{o:Obj}{e:ag}{f:Nat}{ids:List Int}{g:ag}{i:Nat}{a:ab}{b u:dC}(j:bM b)(k:bM u):∀d,bM (fY L gs s o e f ids g i a b u d)
 | .row=>tG.a _ _
 | .jd=>⟨fun h l c=>aS.j h l c,fun h c=>aS.a h c⟩
 | .ids=>AF.a _ _ _
 | .list=>nE.a _ _ _
 | .box=>j
 | .out=>k
def fh (w:X)(S:Nat->Prop)(L gs:Nat)(s:av)(ids:List Int)(told:ab):Prop :=
 ∃(κ:Nat->rU) (io:ag) (gT:Nat) (lo:ag) (iC:Nat),eJ (fY L gs s (oa gs io ids.length gT lo told.length iC) io gT ids lo iC told eE eE) κ w∧∀k,κ k≠.out->S k
section
variable {w w' w0:X} {S S' D:Nat->Prop} {L gs:Nat} {s:av} {ids:List Int} {told:ab}
theorem fh.H (h:fh w S L gs s ids told)(c:am S' w w')(f:∀k,S k->¬S' k):fh w' S L gs s ids told:=by
 obtain⟨g,i,j,l,m,n,a⟩:=h;refine⟨g,i,j,l,m,fun d=>?_,a⟩;by_cases b:d=.out
 . subst b;exact trivial
 . exact(pX bM.a bM.a d).c (n d) c (fun k e=>f k (a k (by rw[e];exact b)))
theorem fh.G (h:fh w S L gs s ids told)(a:Below w.heap.size w w'):fh w' S L gs s ids told:=h.H (am.f (S:=fun _=>False) a) (fun _ _ e=>e)
theorem qa {κ:Nat->rU}{c:rU}(a:∀k,κ k≠.out->ay S w k){n:Nat}(b:w.heap.size<=n):∀k,cA κ n c k≠.out->ay S w k:=by intro l;induction l <;> grind [ay,cA]
section
variable {κ:Nat->rU} {o:Obj} {io:ag} {gT:Nat} {lo:ag} {iC:Nat} {b u:dC}
theorem Am (f:bM b)(g:bM u)(h:eJ (fY L gs s o io gT ids lo iC told b u) κ w){a:av}(i:aS w' (ay (fun k=>κ k=.jd) w) gs a)(j:am (fun k=>κ k=.jd) w w'):eJ (fY L gs a o io gT ids lo iC told b u) (cA κ w.heap.size .jd) w' :=
 h.a (pX f g) j (fun _ e=>e) (X':=fY L gs a o io gT ids lo iC told b u) ⟨fun h l c=>aS.j h l c,fun h c=>aS.a h c⟩ i (fun _ e=>e) (fun d m=>by cases d <;> first | rfl | exact absurd rfl m)
theorem G2 (a:bM b)(c:bM u)(h:eJ (fY L gs s o io gT ids lo iC told b u) κ w){o':Obj}(f:w'.heap[L]? = M o')(g:am (fun k=>k=L) w w'):eJ (fY L gs s o' io gT ids lo iC told b u) (cA κ w.heap.size .row) w' :=
 h.a (pX a c) g (fun k e=>by rw[e];exact(h .row).2) (X':=fY L gs s o' io gT ids lo iC told b u) (tG.a _ _) (N:=fun k=>k=L) ⟨f,rfl⟩ (fun k e=>A (by rw[e];exact(h .row).2)) (fun d i=>by cases d <;> first | rfl | exact absurd rfl i)
theorem Tk (l:bM b)(m:bM u)(h:eJ (fY L gs s o io gT ids lo iC told b u) κ w){f:ag}{g:Nat}{MF:List Int}(n:aK w' 0 3 1 f g MF.length (jR MF))(p:w.grownBy w' (aw io))(i:∀j,aw f=M j->aw io=M j∨w.heap.size<=j):eJ (fY L gs s o f g MF lo iC told b u) (cA κ w.heap.size .ids) w':=by
 have c:∀k,aw io=M k->κ k=.ids:=fun k e=>by
  cases io with
  | none=>cases e
  | some a=>injection e with e;rw[<-e];exact(h .ids).2 a rfl
 refine h.a (pX l m) (am.G (S:=fun k=>aw io=M k) p (fun k e=>e)) c (X':=fY L gs s o f g MF lo iC told b u) (AF.a _ _ _) (N:=fun k=>aw io=M k∨w.heap.size<=k) ⟨n,fun a e=>i a.block (by rw[e];rfl)⟩ (fun k e=>?_) (fun d q=>by cases d <;> first | rfl | exact absurd rfl q);rcases e with e | e
 . exact A (c k e)
 . exact R e
theorem ST (g:bM b)(i:bM u)(h:eJ (fY L gs s o io gT ids lo iC told b u) κ w){c:ag}{f:Nat}{a:ab}(j:nE c f a w' (ay (fun k=>κ k=.list) w))(l:am (fun k=>κ k=.list) w w'):eJ (fY L gs s o io gT ids c f a b u) (cA κ w.heap.size .list) w' :=
 h.a (pX g i) l (fun _ e=>e) (X':=fY L gs s o io gT ids c f a b u) (nE.a _ _ _) j (fun _ e=>e) (fun d m=>by cases d <;> first | rfl | exact absurd rfl m)
theorem Tl (a:bM b)(c:bM u)(h:eJ (fY L gs s o io gT ids lo iC told b u) κ w)(z:Obj):eJ (fY L gs s o io gT ids lo iC told (tG w.heap.size z) u) (cA κ w.heap.size .box) (w.alloc z) :=
 h.a (pX a c) (am.f (S:=fun _=>False) ((ar _ w).alloc (ak _) z)) (fun _ e=>e.elim) (X':=fY L gs s o io gT ids lo iC told (tG w.heap.size z) u) (tG.a _ _) (N:=fun k=>w.heap.size<=k) ⟨aX w z,ak _⟩ (fun k e=>R e) (fun d f=>by cases d <;> first | rfl | exact absurd rfl f)
theorem SU (h:eJ (fY L gs s o io gT ids lo iC told b u) κ w):eJ (fY L gs s o io gT ids lo iC told eE eE) κ w
 | .row=>h .row
 | .jd=>h .jd
 | .ids=>h .ids
 | .list=>h .list
 | .box=>trivial
 | .out=>trivial
end
end
def Bs (bo:ag)(fZ:Nat)(l:ab):dC:=fun w S=>dL w S bo fZ l
theorem Bs.a (bo:ag)(fZ:Nat)(l:ab):bM (Bs bo fZ l):=⟨fun h b a=>dL.f h b a,fun h a=>dL.a h a⟩
structure gm (w:X)(S:Nat->Prop)(L gs n:Nat)(z:Obj)(bo:ag)(fZ:Nat)(l:ab)(s:av)(io:ag)(gT:Nat)(ids:List Int)(lo:ag)(iC:Nat)(told:ab)(W:X):Prop where
 c:∃κ,eJ (fY L gs s (oa gs io ids.length gT lo told.length iC) io gT ids lo iC told (tG n z) (Bs bo fZ l)) κ W∧∀k,κ k≠.out->ay S w k
 b:am S w W
section
variable {w W W':X} {S D:Nat->Prop} {L gs n:Nat} {z:Obj} {bo:ag} {fZ:Nat} {l:ab} {s:av} {io:ag} {gT:Nat} {ids:List Int} {lo:ag} {iC:Nat} {told:ab}
theorem gm.lI {κ:Nat->rU}(h:eJ (fY L gs s (oa gs io ids.length gT lo told.length iC) io gT ids lo iC told eE eE) κ w)(a:∀k,κ k≠.out->S k)(b:dL w D bo fZ l)(c:∀k,D k->¬S k)(z:Obj):gm w S L gs w.heap.size z bo fZ l s io gT ids lo iC told (w.alloc z):=by
 have d:eJ (fY L gs s (oa gs io ids.length gT lo told.length iC) io gT ids lo iC told eE (Bs bo fZ l)) κ w
  | .row=>h .row
  | .jd=>h .jd
  | .ids=>h .ids
  | .list=>h .list
  | .box=>trivial
  | .out=>dL.a b (fun k _ e=>sF (fun f=>c k e (a k f)))
 exact⟨⟨_,Tl bM.a (Bs.a _ _ _) d z,qa (fun k e=>A (a k e)) (ak _)⟩,am.f ((ar _ w).alloc (ak _) z)⟩
theorem gm.a (h:gm w S L gs n z bo fZ l s io gT ids lo iC told W)(a:Below W.heap.size W W'):gm w S L gs n z bo fZ l s io gT ids lo iC told W':=by
 obtain⟨⟨b,c,d⟩,f⟩:=h;exact⟨⟨b,c.f (pX (tG.a _ _) (Bs.a _ _ _)) a,d⟩,f.a (am.f (S:=fun _=>False) a) (fun _ e _=>e.elim)⟩
theorem gm.lH (h:gm w S L gs n z bo fZ l s io gT ids lo iC told W):W.heap[L]? = M (oa gs io ids.length gT lo told.length iC):=by
 obtain⟨⟨b,a,c⟩,d⟩:=h;exact(a .row).1
theorem gm.f (h:gm w S L gs n z bo fZ l s io gT ids lo iC told W):W.heap[n]? = M z:=by
 obtain⟨⟨b,a,c⟩,d⟩:=h;exact(a .box).1
theorem gm.B (h:gm w S L gs n z bo fZ l s io gT ids lo iC told W):aB W bo fZ l:=by
 obtain⟨⟨b,a,c⟩,d⟩:=h;exact dL.b (a .out)
theorem gm.jY (h:gm w S L gs n z bo fZ l s io gT ids lo iC told W):aK W 0 3 1 io gT ids.length (jR ids):=by
 obtain⟨⟨b,a,c⟩,d⟩:=h;exact(a .ids).1
theorem gm.r (h:gm w S L gs n z bo fZ l s io gT ids lo iC told W):fh W (ay S w) L gs s ids told∧am S w W:=by
 obtain⟨⟨a,b,c⟩,d⟩:=h;exact⟨⟨a,io,gT,lo,iC,SU b,c⟩,d⟩
theorem gm.j (h:gm w S L gs n z bo fZ l s io gT ids lo iC told W):∃Sh:Nat->Prop,aS W Sh gs s∧(∀{a:av} {w':X},aS w' (ay Sh W) gs a->am Sh W w'->gm w S L gs n z bo fZ l a io gT ids lo iC told w'):=by
 obtain⟨⟨g,b,c⟩,d⟩:=h;refine⟨fun k=>g k=.jd,b .jd,fun i f=>⟨⟨_,Am (tG.a _ _) (Bs.a _ _ _) b i f,qa c d.b⟩,d.a f (fun k e j=>?_)⟩⟩;rcases c k (by rw[e];intro h;cases h) with h | h
 . exact h
 . omega
theorem gm.G (h:gm w S L gs n z bo fZ l s io gT ids lo iC told W)(ok:aJ s)(a:Int)(m:ae)(c:m.size<=1000000):
 Calls prog 208 #[Q (M ⟨gs,0,U⟩),I J a,V m] W fun e w'=>e=Y (.tuple #[I J (mZ s (cy s a m).2),I J ((cy s a m).2:Int)])∧gm w S L gs n z bo fZ l (cy s a m).1 io gT ids lo iC told w':=by
 obtain⟨Sh,d,f⟩:=h.j;exact(BS d ok a m c).mono (fun e w' b=>⟨b.b,f b.a b.c⟩)
theorem gm.y (h:gm w S L gs n z bo fZ l s io gT ids lo iC told W)(ok:aJ s)(b a:Int){c:Nat}(f:l.length=c)(g:c<=1000000):
 Calls prog 216 #[Q (M ⟨gs,0,U⟩),I J b,I J a,Z bo c fZ] W fun e w'=>e=Y (I J ((cK s b a l).2:Int))∧gm w S L gs n z bo fZ l (cK s b a l).1 io gT ids lo iC told w':=by
 obtain⟨Sh,i,j⟩:=h.j;exact(yf i ok b a bo c fZ l h.B f g).mono (fun e w' d=>⟨d.d,j d.c d.b⟩)
theorem gm.H (h:gm w S L gs n z bo fZ l s io gT ids lo iC told W)(ok:aJ s)(a:Int):
 Calls prog 218 #[Q (M ⟨gs,0,U⟩),I J a] W fun e w'=>e=Y (I J ((ga s a).2:Int))∧gm w S L gs n z bo fZ l (ga s a).1 io gT ids lo iC told w':=by
 obtain⟨Sh,c,d⟩:=h.j;exact(BP c ok a).mono (fun e w' b=>⟨b.d,d b.c b.b⟩)
theorem gm.jK (h:gm w S L gs n z bo fZ l s io gT ids lo iC told W){b:ag}{c:Nat}{i:Int}(u:aK W' 0 3 1 b c (ids.length+1) (jR ids++[I J i]))(d:W.grownBy W' (aw io))(f:∀j,aw b=M j->aw io=M j∨W.heap.size<=j):
 (W'.heap[L]? = M (oa gs io ids.length gT lo told.length iC))∧gm w S L gs n z bo fZ l s b c (ids++[i]) lo iC told (W'.setCell ⟨L,1,U⟩ (Z b (ids.length+1) c)):=by
 obtain⟨⟨v,g,m⟩,o⟩:=h;have q:=Tk (tG.a _ _) (Bs.a _ _ _) g (MF:=ids++[i]) (by rw[aD];simpa[jR] using u) d f;have x:=d.size;have r:=(q .row).1;have t:am (fun k=>k=L) W' (W'.setCell ⟨L,1,U⟩ (Z b (ids.length+1) c)):=am.r _ _ _ _ rfl;have y:=G2 (tG.a _ _) (Bs.a _ _ _) q (o':=oa gs b (ids.length+1) c lo told.length iC) (aP W' L 1 _ _ _ r) t;have B:=(g .row).2;refine⟨r,⟨⟨cA (cA v W.heap.size .ids) W'.heap.size .row,?_,qa (qa m o.b) (cq o.b x)⟩,(o.a (am.G (S:=fun k=>aw io=M k) d (fun k e=>e)) (fun k e p=>?_)).a t (fun k e p=>?_)⟩⟩
 . rw[aD];exact y
 . cases io with
   | none=>cases e
   | some a =>
     injection e with e;rw[<-e];rw[<-e] at p;rcases m a.block (by rw[(g .ids).2 a rfl];intro h;cases h) with h | h
     . exact h
     . omega
 . rw[e];rw[e] at p;rcases m L (by rw[B];intro h;cases h) with h | h
   . exact h
   . omega
theorem gm.kU (h:gm w S L gs n z bo fZ l s io gT ids lo iC told W):∃f:Nat->Prop,nE lo iC told W f∧∀(a:ag) (c m:Nat) (d:ab) (W':X),told.length+d.length=m->nE a c (told++d) W' (ay f W)->am f W W' ->
 (W'.heap[L]? = M (oa gs io ids.length gT lo told.length iC))∧gm w S L gs n z bo fZ l s io gT ids a c (told++d) (W'.setCell ⟨L,2,U⟩ (Z a m c)):=by
 obtain⟨⟨o,g,i⟩,j⟩:=h;refine⟨fun k=>o k=.list,g .list,fun a c m d W' u v b=>?_⟩;have p:=ST (tG.a _ _) (Bs.a _ _ _) g v b;have x:=b.b;have q:=(p .row).1;have r:am (fun k=>k=L) W' (W'.setCell ⟨L,2,U⟩ (Z a m c)):=am.r _ _ _ _ rfl;have y:=G2 (tG.a _ _) (Bs.a _ _ _) p (o':=oa gs io ids.length gT a m c) (aP W' L 2 _ _ _ q) r;have B:=(g .row).2;refine⟨q,⟨⟨cA (cA o W.heap.size .list) W'.heap.size .row,?_,qa (qa i j.b) (cq j.b x)⟩,(j.a b (fun k e t=>?_)).a r (fun k e t=>?_)⟩⟩
 . rw[aD,u];exact y
 . rcases i k (by rw[e];intro h;cases h) with h | h
   . exact h
   . omega
 . rw[e];rw[e] at t;rcases i L (by rw[B];intro h;cases h) with h | h
   . exact h
   . omega
end
section
variable {w w0:X} {S D:Nat->Prop} {L gs:Nat}
theorem Sk (p:jQ w0 w S)(r:jD)(h:fh w S L gs r.s r.a r.c)(ok:aJ r.s)(q:bW){bo:ag}{fZ nb:Nat}(hB:dL w D bo fZ q.a)(hD:∀k,D k->¬S k)(hn:q.a.length=nb)(hnb:nb<=1000000)(hf:q.b.size<=900000)(hi:r.a.length<=1000)(ht:r.c.length<=1000000):
 Calls prog 287 #[Q (M ⟨L,0,U⟩),.agg #[V q.c,V q.b,V q.d,Z bo nb fZ]] w fun e w'=>e=Y (I J ((eX r q).b:Int))∧fh w' (ay S w) L gs (eX r q).s (eX r q).a (eX r q).c∧am S w w':=by
 obtain⟨κ,io,gT,lo,iC,hH,hS⟩:=h;have G1:=gm.lI hH hS hB hD (K #[V q.c,V q.b,V q.d,Z bo nb fZ] 96 (0,0));have i:Hid (∀{s:av} {io:ag} {gT:Nat} {ids:List Int} {lo:ag} {iC:Nat} {l:ab} {W:X},gm w S L gs w.heap.size (K #[V q.c,V q.b,V q.d,Z bo nb fZ] 96 (0,0)) bo fZ q.a s io gT ids lo iC l W->((W.cell? ⟨L,0,U⟩=M (Q (M ⟨gs,0,U⟩))∧W.cell? ⟨L,1,U⟩=M (Z io ids.length gT)∧W.cell? ⟨L,2,U⟩=M (Z lo l.length iC))∧(W.frozen? ⟨L,0,U⟩=F∧W.frozen? ⟨L,1,U⟩=F∧W.frozen? ⟨L,2,U⟩=F))∧(W.cell? ⟨w.heap.size,1,U⟩=M (V q.b)∧W.cell? ⟨w.heap.size,3,U⟩=M (Z bo nb fZ))):=fun a=>⟨si a.lH,aq _ _ 1 _ _ _ a.f,aq _ _ 3 _ _ _ a.f⟩;obtain⟨⟨⟨B,C,G⟩,H,N,T⟩,b1,b3⟩:=i.o G1;have hmz:(dB q).size=9+q.b.size:=by
  show(rO++q.b.data.toList).toArray.size=_;rw[cz,aD,cJ];rfl
 have hme:(⟨#[102,105,108,101,110,97,109,101,32]⟩:ae)++q.b=dB q:=by
  apply ByteArray.ext;rw[ByteArray.data_append];show _=(rO++q.b.data.toList).toArray;rw[<-vq];simp[rO]
 have Mw:=aa ((G1.a (bj _ _)).G ok (nb:Int) (dB q) (by omega));have HP:=aa p;obtain⟨aaJ,hR⟩:∃aaJ,aaJ=eX r q:=⟨_,rfl⟩;rw[<-hR];unfold eX at hR;rw[hn] at hR;have c:=aa hR;have su:=aa (ok.j (nb:Int) (dB q));have Yw:Hid ((cy r.s (nb:Int) (dB q)).2≠0->(cy r.s (nb:Int) (dB q)).1=r.s):=fun e=>KU e;have hl0:=ok.h.c;have hl1:=ok.y
 have hzz:¬(9223372036854775807<9+q.b.size):=by omega
 rw[<-hme] at Mw c su Yw;clear hme;clear G1 hH hS hB p hR ok hmz;generalize hcr:cy r.s (nb:Int) (⟨#[102,105,108,101,110,97,109,101,32]⟩++q.b)=cr at *;clear hcr;obtain⟨s1,k1⟩:=cr;simp only at c Mw su Yw;go_enter func287,ntmps287;go_upto_region 1 with fail
 go_cut [5,6] (fun v5 v6 wd=>v5=I J (mZ r.s k1)∧v6=I J (k1:Int)∧gm w S L gs w.heap.size (K #[V q.c,V q.b,V q.d,Z bo nb fZ] 96 (0,0)) bo fZ q.a s1 io gT r.a lo iC r.c wd)
 case first =>
  go_region_held3 (fun W=>W.cell? ⟨L,0,U⟩=M (Q (M ⟨gs,0,U⟩))∧W.cell? ⟨w.heap.size,1,U⟩=M (V q.b)∧W.cell? ⟨w.heap.size,3,U⟩=M (Z bo nb fZ)) (go_keep) ((go_at_call 208;refine Mw.o.mono ?_;rintro e w1 ⟨rfl,a⟩;have m:=aa a;obtain⟨⟨⟨d0,d1,d2⟩,e0,e1,e2⟩,d3,d4⟩:=i.o a;clear a))
  all_goals
   go_wp2;go_meet;exact⟨rfl,rfl,m.o⟩
 case rest =>
  obtain⟨rfl,rfl,a⟩:=hcut;clear Mw B C G H N T b1 b3;obtain⟨⟨⟨B,C,G⟩,H,N,T⟩,b1,b3⟩:=i.o a;have m:=aa a;by_cases t:k1=0
  . subst t;obtain⟨f,v⟩:∃f,f=r.s.h.a+1:=⟨_,rfl⟩;have Ud:mZ r.s 0=f:=by rw[v];exact if_pos rfl
    rw[Ud];rw[<-v,if_neg (by simp)] at c;have VT:=aa ((a.a (bj _ _)).y su.o f 0 hn hnb);have PV:=aa (su.o.a f 0 q.a);have alS:0<=f:=by omega
    have alT:f<=100001:=by omega
    clear a Ud v Yw hl0 hl1;obtain⟨n,rfl⟩:∃n:Nat,f=n:=⟨f.toNat,by omega⟩;generalize cK s1 (n:Int) 0 q.a=ap at *;obtain⟨s2,k2⟩:=ap;simp only at c VT PV;go_upto_region 4 with fail
    go_cut [6] (fun v6 wd=>v6=I J (k2:Int)∧gm w S L gs w.heap.size (K #[V q.c,V q.b,V q.d,Z bo nb fZ] 96 (0,0)) bo fZ q.a s2 io gT r.a lo iC r.c wd)
    case first =>
     go_region_held3 (fun W=>W.cell? ⟨L,0,U⟩=M (Q (M ⟨gs,0,U⟩))∧W.cell? ⟨w.heap.size,3,U⟩=M (Z bo nb fZ)) (go_keep) ((go_at_call 216;refine VT.o.mono ?_;rintro e w1 ⟨rfl,a⟩;have HG2:=aa a;obtain⟨⟨⟨d0,d1,d2⟩,e0,e1,e2⟩,d3,d4⟩:=i.o a;clear a))
     all_goals
      go_wp2;go_meet;exact⟨rfl,HG2.o⟩
    case rest =>
     obtain⟨rfl,a⟩:=hcut;clear VT B C G H N T b1 b3 m su;obtain⟨⟨⟨B,C,G⟩,H,N,T⟩,b1,b3⟩:=i.o a;have m:=aa a;by_cases hk2:k2=0
     . subst hk2;rw[if_neg (by simp)] at c;obtain⟨i0,hi0,hz0,x,y⟩:=info_parts zq;have Hi:=aa hi0;have lg:=aa hz0;have kZ:=aa x;have lq:=aa y
       obtain⟨j0,hj0,hy0,hy1,hy2⟩:=info_parts gG;have Hj:=aa hj0;have O9:=aa hy0;have Pb:=aa hy1;have Pf:=aa hy2
       have g:=aa (a.a ((ar _ wc).alloc (ak _) (K #[I J (n:Int)] 3)));have HOi:=aa g.o.jY;obtain⟨⟨⟨a0,a1,a2⟩,g0,g1,g2⟩,a3,a4⟩:=i.o g.o;clear a hi0 hz0 x y hj0 hy0 hy1 hy2;go_upto_region 9 with (at_builtin;refine lO rfl (.tmp 45) (.tmp 47) 55 rfl 0 3 i0 (I J 0) 1 8 underlying55 Hi.o lg.o kZ.o lq.o rfl (by decide) rfl HOi.o rfl (bq.j _ _ 1 _ _) rfl (fun u hu=>by simp at hu;rw[hu];rfl) (by omega) (by omega) (ax _) ?_;intro wR kC w3 hO3 b jS;obtain⟨hr3,hg3⟩:=g.o.jK hO3 b (fun j e=>by rcases jS with h | h;exact A (h▸e);exact R (by rw[h] at e;injection e with e;omega));have yE:=aa hg3;obtain⟨⟨h30,h31,h32⟩,y30,y31,y32⟩:=si hr3;clear hO3 b jS hr3 hg3)
       clear a0 a1 a2 a3 a4 g0 g1 g2 h30 h31 h32 y30 y31 y32 B C G H N T b1 b3 m g HOi;generalize w3.setCell ⟨L,1,U⟩ (Z wR (r.a.length+1) kC)=w4 at *;have ZR:=aa (yE.o.a (bj _ _));have hpw:dj w4.drew:=HP.o.c.a (HP.o.a.trans (ZR.o.b.below (fun k e=>HP.o.b k e) HP.o.a.size));have Yr:=aa (mE n (by omega) w4.drew hpw);obtain⟨⟨⟨B,C,G⟩,H,N,T⟩,b1,b3⟩:=i.o yE.o;obtain⟨d,hd⟩:∃d:ae,d=⟨(bx 8 n).toArray⟩:=⟨_,rfl⟩;have hdz:d.size<=9:=by
        rw[hd];show(bx 8 n).toArray.size<=9;rw[cz];exact(gx 8 n).1
       have x:¬(9223372036854775807<d.size+1):=by omega
       have y:¬(9223372036854775807<d.size+1+q.b.size):=by omega
       have hz3:¬(9223372036854775807<d.size+1+q.b.size+1):=by omega
       rw[<-hd] at Yr;have UN:Hid ((d++⟨#[32]⟩++q.b++⟨#[10]⟩:ae).data.toList=mT (n:Int) q.b):=by
        unfold Hid mT;rw[hd];simp
       have Cx:Hid ((d++⟨#[32]⟩++q.b++⟨#[10]⟩:ae).size=d.size+1+q.b.size+1):=by
        unfold Hid;rw[mB,mB,mB];rfl
       have HTs:Hid ((mT (n:Int) q.b).length=d.size+1+q.b.size+1):=by unfold Hid;rw[<-UN.o,cH];exact Cx.o
       clear hpw hd yE HP;go_cut [] (fun wd=>fh wd (ay S w) L gs s2 (r.a++[(n:Int)]) (r.c++mT (n:Int) q.b)∧am S w wd)
       case first =>
        go_region_law (first
         | (go_simp;go_at_call 141;refine Yr.o.mono ?_;rintro e w5 ⟨rfl,hb5⟩;have HG5:=aa (ZR.o.a hb5);obtain⟨⟨⟨d0,d1,d2⟩,e0,e1,e2⟩,d3,d4⟩:=i.o HG5.o;clear hb5)
         | (obtain⟨Sl,hSl,hsl⟩:=HG5.o.kU;have HSl:=aa hSl;have Hsl:=aa hsl;clear hSl hsl;refine Jm (by rfl) (.tmp 55) (.tmp 62) 31 9 (by rfl) 5 j0 underlying31 underlying9 Hj.o O9.o Pb.o Pf.o (by rfl) rfl HSl.o (d++⟨#[32]⟩++q.b++⟨#[10]⟩) (d.size+1+q.b.size+1) Cx.o (by omega) (by rfl) (by omega) ?_;intro lo' vE w6 E8 CK;rw[UN.o] at E8;obtain⟨Cj,z⟩:=Hsl.o lo' vE (r.c.length+(d.size+1+q.b.size+1)) (mT (n:Int) q.b) w6 (by rw[HTs.o]) E8 CK;have HG6:=aa z;obtain⟨⟨h60,h61,h62⟩,y60,y61,y62⟩:=si Cj;have hx6:=aq _ _ 1 _ _ _ z.f;have HX6:=aa hx6;clear E8 CK Cj z;(try simp only[Act.put,List.setIfInBounds_toArray,oP,List.set_cons_succ])))
        all_goals
         go_wp2;go_meet;exact HG6.o.r
       case rest =>
        go_wp2;go_ret;rw[c.o];exact⟨rfl,hcut⟩
     . have t2:((k2:Int) != 0)=true:=by rw[di];omega
       rw[if_pos hk2] at c;have HDr:=aa (a.H PV.o (n:Int));clear a;go_wp2_with fail;refine HDr.o.mono ?_;rintro e w3 ⟨rfl,b⟩;have yE:=aa b;clear b;go_wp2;go_ret;rw[c.o];exact⟨rfl,yE.o.r⟩
  . have t1:((k1:Int) != 0)=true:=by rw[di];omega
    rw[if_pos t] at c;rw[Yw.o t] at m;clear a;go_wp2;go_ret;rw[c.o];exact⟨rfl,m.o.r⟩
end
def rP (w:X)(D:Nat->Prop)(ao:ag)(cap:Nat)(ps:List bW):Prop:=∃qs:List (bW×mw),qs.map (·.1)=ps∧js w D ao cap ps.length (iF qs)∧∀q∈qs,dL w D q.2.a q.2.b q.1.a
section
variable {w w':X} {S D D':Nat->Prop} {ao:ag} {cap:Nat} {ps:List bW}
theorem rP.f (h:rP w D ao cap ps)(a:am S w w')(b:∀k,D k->¬S k):rP w' D ao cap ps:=by
 obtain⟨c,d,e,f⟩:=h;exact⟨c,d,e.f a b,fun q g=>(f q g).f a b⟩
theorem rP.a (h:rP w D ao cap ps):tW w ao cap ps:=by
 obtain⟨a,b,c,d⟩:=h;exact⟨a,b,c.b,fun q e=>(d q e).b⟩
theorem rP.j (h:rP w D ao cap ps)(k:Nat)(f:k<ps.length):∃(b o:Nat) (s:mw),ao=M ⟨b,o,U⟩∧w.cell? ⟨b,o+k*4,U⟩=M (V ps[k].c)∧w.cell? ⟨b,o+k*4+1,U⟩=M (V ps[k].b)∧w.cell? ⟨b,o+k*4+2,U⟩=M (V ps[k].d)∧w.cell? ⟨b,o+k*4+3,U⟩=M (Z s.a ps[k].a.length s.b)∧dL w D s.a s.b ps[k].a:=by
 obtain⟨c,rfl,g,i⟩:=h;have a:k<c.length:=by simpa using f
 obtain⟨b,o,rfl,d⟩:=g.b.f (by rw[vM];omega);have j:=i _ (fb a);have e:=ou c k a 0 (by decide);have l:=ou c k a 1 (by decide);have m:=ou c k a 2 (by decide);have n:=ou c k a 3 (by decide);refine⟨b,o,c[k].2,rfl,?_,?_,?_,?_,?_⟩
 . rw[eu];exact d _ _ (by rw[mA] at e;exact e)
 . rw[eu,gE];exact d _ _ l
 . rw[eu,gE];exact d _ _ m
 . rw[eu,gE];exact d _ _ n
 . rw[eu];exact j
theorem nA.j {b:X}{n:Nat}(h:nA b D ps ao cap n w')(f:∀k,b.heap.size<=k->D k):rP w' (fun k=>D k∧k<w'.heap.size) ao cap ps:=by
 obtain⟨g,i,c,j⟩:=h.b;refine⟨g,i,⟨by rw[<-h.a];exact c.a,fun _ a e=>⟨f _ (c.f a e).1,(c.f a e).2⟩⟩,fun q l=>?_⟩;refine((j q l).a (S':=fun k=>D k∧k<b.heap.size) (fun k d e=>⟨e,d⟩)).f (am.f (S:=fun _=>False) h.below) (fun _ _ e=>e) |>.a (fun k d e=>⟨e.1,d⟩)
end
section
variable {w w0 W W':X} {S S' D:Nat->Prop} {L gs:Nat} {s:av} {io:ag} {gT:Nat} {ids:List Int} {told:ab}
theorem fh.a (h:fh w S L gs s ids told)(c:∀k,k<w.heap.size->S k->S' k):fh w S' L gs s ids told:=by
 obtain⟨f,io,gT,g,i,j,l⟩:=h;refine⟨cA f w.heap.size .out,io,gT,g,i,fun d=>?_,fun k a=>?_⟩
 . by_cases m:d=.out
   . subst m;exact trivial
   . exact(pX bM.a bM.a d).b (j d) (fun k a e=>(fg a).trans e)
 . rcases eN k w.heap.size with b | b
   . rw[fg b] at a;exact c k b (l k a)
   . exact absurd (pR b) a
theorem jQ.f (p:jQ w0 w S)(a:am S w W):jQ w0 W (ay S w):=⟨p.c,p.a.trans (a.below (fun k e=>p.b k e) p.a.size),fun k e=>by
 rcases e with e | e
 . exact p.b k e
 . exact cq p.a.size e⟩
theorem No (p:jQ w0 w S)(r:jD)(h:fh w S L gs r.s r.a r.c)(j:uj r)(h0:r.b=0)(a:List bW){ao:ag}{cap n:Nat}(hP:rP w D ao cap a)(hD:∀k,D k->¬S k∧k<w.heap.size)(hn:a.length=n)(hN:n<=1000000)(hz:∀q∈a,q.a.length<=1000000∧q.b.size<=900000):
 Calls prog 233 #[Q (M ⟨L,0,U⟩),Z ao n cap] w fun e w'=>e=Y (I J ((fP r a).b:Int))∧fh w' (ay S w) L gs (fP r a).s (fP r a).a (fP r a).c∧am S w w':=by
 subst hn;obtain⟨d,l⟩:∃d,d=fP r a:=⟨_,rfl⟩;rw[<-l];have HP:=p;have V6:=aa hP;have m:=aa hD;have HZ:=aa hz
 have hcap:=hP.a.choose_spec.2.1.1;have oW:∃c:jD,d=fP c (a.drop 0)∧c.b=0∧uj c∧fh w (ay S w) L gs c.s c.a c.c∧am S w w:=⟨r,l,h0,j,h.a (fun k _ e=>A e),am.B _ _⟩;go_enter func233,ntmps233;go_wp2;go_loopw [10] (fun vi wr=>∃i:Nat,i<=a.length∧vi=I J i∧∃c:jD,d=fP c (a.drop i)∧c.b=0∧uj c∧fh wr (ay S w) L gs c.s c.a c.c∧am S w wr) (fun vi _=>a.length-(intOf vi).toNat)
 case atStart=>exact⟨0,ax _,rfl,oW⟩
 case round =>
  obtain⟨i,hi,rfl,c,l,G,f,hL,hT⟩:=hrel;by_cases t:i<a.length
  . have hlt':(i:Int)<a.length:=by omega
    have hPr:=V6.o.f hT (fun k e=>(m.o k e).1);obtain⟨b,o,sl,rfl,c0,c1,c2,c3,hIB⟩:=hPr.j i t;have hq:=HZ.o a[i] (fb t);rw[kt t] at l;obtain⟨nb,u⟩:∃nb,a[i].a.length=nb:=⟨_,rfl⟩;rw[u] at c3;have hnl:nb<=1000000:=by rw[<-u];exact hq.1
    have jf:=(ar _ wr).alloc (ak _) (K #[V a[i].c,V a[i].b,V a[i].d,Z sl.a nb sl.b] 96);have y:=hT.a (am.f (S:=fun _=>False) jf) (fun _ e _=>e.elim);have z:=hL.G jf;have hIA:=hIB.f (am.f (S:=fun _=>False) jf) (fun _ _ e=>e);generalize a[i]=q at *;obtain⟨H,htf⟩:∃H,(q.b.toList==([]:ab))=H:=⟨_,rfl⟩;have eF:q.b.size=0<->H=true:=by
     rw[<-htf,cR,Lib.toList_data,<-xS,cJ];rfl
    have N:=l;have HC:=aa G;have su:=aa f;have HLA:=aa z;have v:=aa y
    cases H with
    | true =>
      have g:d=fP c (a.drop (i+1)):=by rw[N];unfold fP;rw[if_pos (eF.2 rfl)];cases a.drop (i+1) <;> rfl
      go_wp2;go_roundw
      case rel=>exact⟨i+1,by omega,by go_num,c,g,HC.o,su.o,HLA.o,v.o⟩
      case measure=>simp[intOf];omega
    | false =>
      have hfn:¬q.b.size=0:=fun e=>by have:=eF.1 e;cases this
      have mH:c.a.length<=12:=by
       rcases f.c with h | h
       . have:=f.b.h.b;omega
       . exact absurd G h
      have htd:c.c.length<=1000000:=by have:=f.a;omega
      have HAd:=aa (Sk (HP.f y) c z f.b q hIA (fun k e T=>by
       rcases T with T | T
       . exact(m.o k e).1 T
       . have:=(m.o k e).2;omega) u hnl hq.2 (by omega) htd)
      have PV:=K1 f G q;have g:d=if (eX c q).b≠0 then eX c q else fP (eX c q) (a.drop (i+1)):=by rw[N];conv=>lhs;unfold fP;rw[if_neg hfn]
      generalize eX c q=x at *;go_wp2_with fail;refine HAd.o.mono ?_;rintro e w5 ⟨rfl,hL5,wN⟩;have CK:am S w w5:=v.o.a wN (fun k e j=>by
       rcases e with e | e
       . exact e
       . omega)
      have hL6:fh w5 (ay S w) L gs x.s x.a x.c:=hL5.a (fun k _ e=>by
       rcases e with e | e
       . exact e
       . exact R (cq v.o.b e))
      have B:=CK;have C:=aa hL6
      by_cases j:x.b=0
      . have tk:((x.b:Int) != 0)=F:=by rw[j];rfl
        rw[if_neg (by rw[j];simp)] at g;go_wp2;go_roundw
        case rel=>exact⟨i+1,by omega,by go_num,x,g,j,PV,C.o,B⟩
        case measure=>simp[intOf];omega
      . have tk:((x.b:Int) != 0)=true:=by rw[di];omega
        rw[if_pos j] at g;go_wp2;go_ret;rw[g];exact⟨rfl,C.o,B⟩
  . obtain rfl:i=a.length:=by omega
    rw[List.drop_length] at l;have hR2:d=c:=l;have N:=hR2;have HC:=aa G;have HL:=aa hL;have HT:=aa hT
    go_wp2;go_ret;rw[N,HC.o];exact⟨rfl,HL.o,HT.o⟩
structure rQ (w:X)(S:Nat->Prop)(L gs:Nat)(s:av)(io:ag)(gT:Nat)(ids:List Int)(told:ab)(W:X):Prop where
 b:∃κ lo iC,eJ (fY L gs s (oa gs io ids.length gT lo told.length iC) io gT ids lo iC told eE eE) κ W∧∀k,κ k≠.out->ay S w k
 c:am S w W
theorem fh.r (h:fh w S L gs s ids told):∃io gT,rQ w S L gs s io gT ids told w:=by
 obtain⟨a,io,gT,b,c,d,f⟩:=h;exact⟨io,gT,⟨a,b,c,d,fun k e=>A (f k e)⟩,am.B _ _⟩
theorem rQ.f (h:rQ w S L gs s io gT ids told W):fh W (ay S w) L gs s ids told∧am S w W:=by
 obtain⟨⟨a,b,c,d,e⟩,f⟩:=h;exact⟨⟨a,io,gT,b,c,d,e⟩,f⟩
theorem rQ.a (h:rQ w S L gs s io gT ids told W):W.cell? ⟨L,0,U⟩=M (Q (M ⟨gs,0,U⟩))∧W.cell? ⟨L,1,U⟩=M (Z io ids.length gT)∧bq W io gT ids.length (jR ids):=by
 obtain⟨⟨b,c,d,a,e⟩,f⟩:=h;exact⟨aq _ _ 0 _ _ _ (a .row).1,aq _ _ 1 _ _ _ (a .row).1,(a .ids).1.a⟩
theorem rQ.j (h:rQ w S L gs s io gT ids told W)(ok:aJ s)(a:Int):
 Calls prog 218 #[Q (M ⟨gs,0,U⟩),I J a] W fun e w'=>e=Y (I J ((ga s a).2:Int))∧rQ w S L gs (ga s a).1 io gT ids told w':=by
 obtain⟨⟨j,g,i,c,d⟩,f⟩:=h;refine(BP (c .jd) ok a).mono (fun e w' b=>⟨b.d,⟨⟨_,g,i,Am bM.a bM.a c b.c b.b,qa d f.b⟩,f.a b.b (fun k e l=>?_)⟩⟩);rcases d k (by rw[e];intro h;cases h) with h | h
 . exact h
 . omega
theorem LC (s:av)(ids:List Int)(k:Nat)(a:k<ids.length):mS s (ids.take (k+1))=(ga (mS s (ids.take k)) ids[k]).1:=by
 unfold mS;rw[fR a,sH];rfl
theorem Mo (h:fh w S L gs s ids told)(ok:aJ s)(v:ids.length<=1000000):
 Calls prog 234 #[Q (M ⟨L,0,U⟩)] w fun e w'=>e=Y (.tuple #[])∧fh w' (ay S w) L gs (mS s ids) ids told∧am S w w':=by
 obtain⟨io,gT,j⟩:=h.r;obtain⟨n,p,d⟩:=j.a;have q:=j;have r:=aa ok
 have k:=d.1;go_enter func234,ntmps234;go_wp2;go_loopw [9] (fun f wr=>∃i:Nat,i<=ids.length∧f=I J i∧rQ w S L gs (mS s (ids.take i)) io gT ids told wr) (fun f _=>ids.length-(intOf f).toNat)
 case atStart=>exact⟨0,ax _,rfl,q⟩
 case round =>
  obtain⟨i,y,rfl,g⟩:=hrel;obtain⟨n,p,d⟩:=g.a;by_cases a:i<ids.length
  . have l:(i:Int)<ids.length:=by omega
    obtain⟨b,o,rfl,t⟩:=d.f (by simp[jR];omega);have z:=t i (I J ids[i]) (by unfold jR;rw[List.getElem?_map,iz a];rfl);have c:=g.j (wW (ids.take i) r.o) ids[i];rw[<-LC s ids i a] at c;generalize ids[i]=x at *;go_wp2_with fail;refine c.mono ?_;rintro e B ⟨rfl,u⟩;go_wp2;go_roundw
    case rel=>exact⟨i+1,by omega,by go_num,u⟩
    case measure=>simp[intOf];omega
  . obtain rfl:i=ids.length:=by omega
    have m:=g.f;rw[eQ] at m;go_wp2;go_end0
    exact⟨rfl,m⟩
theorem QE (h:fh w S L gs s ids told):
 Calls prog 235 #[Q (M ⟨L,0,U⟩),I J 0] w fun e w'=>(∃bo fZ,e=Y (.agg #[I J 201,Z U 0 0,Z bo told.length fZ])∧aB w' bo fZ told∧∀a,bo=M a->S a.block)∧Below w.heap.size w w':=by
 obtain⟨o,io,gT,b,d,c,k⟩:=h;obtain⟨⟨p,q,r⟩,_⟩:=si (c .row).1;have l:=nE.j (c .list);have f:∀a,b=M a->S a.block:=fun a e=>by
  rcases c .list with ⟨i,_⟩ | ⟨g,i,_,m⟩
  . rw[i] at e;cases e
  . rw[i] at e;injection e with e;subst e;exact k g (by rw[m];intro h;cases h)
 have n:=(bO.1 (c .row).1).1;go_enter func235,ntmps235;go_wp2;have j:Below w.heap.size w (w.alloc (K #[I J 201,Z U 0 0,Z b told.length d] 126)):=(ar _ _).alloc (ak _) _;refine aR (v:=.agg #[I J 201,Z U 0 0,Z b told.length d]) (by simp[results,results235,go_sem]) rfl ⟨⟨b,d,rfl,l.a j,f⟩,j⟩
theorem QG (c:Nat)(z:c≠0):
 Calls prog 235 #[Q (M ⟨L,0,U⟩),I J (c:Int)] w fun e w'=>e=Y (.agg #[I J (nN c:Int),Z U 0 0,Z U 0 0])∧Below w.heap.size w w':=by
 have B:=aQ.2 (by omega);by_cases h:c=4
 . subst h;go_enter func235,ntmps235;go_wp2_with fail;refine((fun W=>pT 413 W) _).mono ?_;rintro e d ⟨rfl,a⟩;obtain⟨⟨m,n,p,q,r,u⟩,f⟩:=rD ((a.block w.heap.size (by simp)).trans (aX w _)) (I J 413) (Z U 0 0) (Z U 0 0);have b:=au ((ar _ w).alloc (ak _) _) a;go_wp2;generalize (((d.setCell ⟨w.heap.size,0,U⟩ _).setCell ⟨w.heap.size,1,U⟩ _).setCell ⟨w.heap.size,2,U⟩ _)=x at *;obtain⟨g,i,j,l⟩:=f.o;refine aR (v:=.agg #[I J 413,Z U 0 0,Z U 0 0]) (by simp[results,results235,go_sem,g,i,j]) rfl ⟨rfl,b.trans (l.below (fun k e=>by omega) b.size)⟩
 . have t:((c:Int)==4)=F:=aQ.2 (by omega);have y:nN c=507:=by unfold nN;rw[if_neg h]
   rw[y];go_enter func235,ntmps235;go_wp2_with fail;refine((fun W=>pT 507 W) _).mono ?_;rintro e d ⟨rfl,a⟩;obtain⟨⟨m,n,p,q,r,u⟩,f⟩:=rD ((a.block w.heap.size (by simp)).trans (aX w _)) (I J 507) (Z U 0 0) (Z U 0 0);have b:=au ((ar _ w).alloc (ak _) _) a;go_wp2;generalize (((d.setCell ⟨w.heap.size,0,U⟩ _).setCell ⟨w.heap.size,1,U⟩ _).setCell ⟨w.heap.size,2,U⟩ _)=x at *;obtain⟨g,i,j,l⟩:=f.o;refine aR (v:=.agg #[I J 507,Z U 0 0,Z U 0 0]) (by simp[results,results235,go_sem,g,i,j]) rfl ⟨rfl,b.trans (l.below (fun k e=>by omega) b.size)⟩
end
structure xp (S:Nat->Prop)(w:X)(gs:Nat)(r:av×mU)(e:Ending)(w':X):Prop where
 c:∃(fo:ag) (gy nf:Nat) (bo:ag) (fZ nb:Nat),e=Y (.agg #[I J (r.2.1:Int),Z fo nf gy,Z bo nb fZ])∧r.2.2.1.length=nf∧bq w' fo gy nf (aI r.2.2.1)∧r.2.2.2.length=nb∧aB w' bo fZ r.2.2.2∧(∀a,fo=M a->ay S w a.block)∧∀a,bo=M a->ay S w a.block
 b:aS w' (ay S w) gs r.1
 d:am S w w'
section
variable {w w0 W W':X} {S S' D:Nat->Prop} {g gs b:Nat} {s:av}
structure qd (S:Nat->Prop)(w:X)(gs:Nat)(s:av)(b:Nat)(o:Obj)(W:X):Prop where
 c:W.heap[b]? = M o
 e:w.heap.size<=b
 g:aS W (fun k=>ay S w k∧k≠b) gs s
 d:am S w W
theorem qd.f {j m n:Value}(h:qd S w gs s b (K #[j,m,n] 126 (0,0)) W){st:Nat}{mJ:Int}(i:(st:Int)=mJ){l:aC}{body:ab}{fo bo:ag}{gy nf fZ nb:Nat}(o:l.length=nf)(p:bq W fo gy nf (aI l))(c:∀a,fo=M a->ay S w a.block∧a.block≠b)(q:body.length=nb)(r:aB W bo fZ body)(d:∀a,bo=M a->ay S w a.block∧a.block≠b):
 (W.cell? ⟨b,0,U⟩=M j∧W.cell? ⟨b,1,U⟩=M m∧W.cell? ⟨b,2,U⟩=M n∧W.frozen? ⟨b,0,U⟩=F∧W.frozen? ⟨b,1,U⟩=F∧W.frozen? ⟨b,2,U⟩=F) ∧
 Hid ((((W.setCell ⟨b,0,U⟩ (I J mJ)).setCell ⟨b,1,U⟩ (Z fo nf gy)).setCell ⟨b,2,U⟩ (Z bo nb fZ)).cell? ⟨b,0,U⟩=M (I J mJ)∧(((W.setCell ⟨b,0,U⟩ (I J mJ)).setCell ⟨b,1,U⟩ (Z fo nf gy)).setCell ⟨b,2,U⟩ (Z bo nb fZ)).cell? ⟨b,1,U⟩=M (Z fo nf gy)∧(((W.setCell ⟨b,0,U⟩ (I J mJ)).setCell ⟨b,1,U⟩ (Z fo nf gy)).setCell ⟨b,2,U⟩ (Z bo nb fZ)).cell? ⟨b,2,U⟩=M (Z bo nb fZ)∧xp S w gs (s,(st,l,body)) (Y (.agg #[I J mJ,Z fo nf gy,Z bo nb fZ])) (((W.setCell ⟨b,0,U⟩ (I J mJ)).setCell ⟨b,1,U⟩ (Z fo nf gy)).setCell ⟨b,2,U⟩ (Z bo nb fZ))):=by
 subst i;obtain⟨t,u⟩:=rD h.c (I J (st:Int)) (Z fo nf gy) (Z bo nb fZ);obtain⟨v,x,y,f⟩:=u.out;refine⟨t,v,x,y,⟨⟨fo,gy,nf,bo,fZ,nb,rfl,o,p.B f (fun a e=>(c a e).2),q,r.y f (fun a e=>(d a e).2),fun a e=>(c a e).1,fun a e=>(d a e).1⟩,(h.g.j f (fun k e z=>e.2 z)).a (fun k _ e=>e.1),h.d.a f (fun k e B=>?_)⟩⟩;have:=h.e;omega
theorem qd.j {o:Obj}{a:av}(h:qd S w gs s b o W)(d:aS W' (ay (fun k=>ay S w k∧k≠b) W) gs a)(c:am (fun k=>ay S w k∧k≠b) W W'):qd S w gs a b o W':=by
 have i:=h.d.b;have f:=(bO.1 h.c).1;refine⟨c.y h.c (fun e=>e.2 rfl),h.e,d.a (fun k _ e=>?_),h.d.a c (fun k e j=>?_)⟩
 . rcases e with e | e
   . exact e
   . exact⟨R (by omega),by omega⟩
 . rcases e.1 with e | e
   . exact e
   . omega
theorem qd.a {o:Obj}(h:qd S w gs s b o W)(a:Below W.heap.size W W'):qd S w gs s b o W' :=
 ⟨(a.block b (bO.1 h.c).1).trans h.c,h.e,h.g.f a,h.d.a (am.f (S:=fun _=>False) a) (fun _ e _=>e.elim)⟩
theorem qd.r (h:aS w S gs s)(z o:Obj):qd S w gs s (w.heap.size+1) o ((w.alloc z).alloc o)∧((w.alloc z).alloc o).heap[w.heap.size]? = M z:=by
 have c:=(ar _ w).alloc (ak _) z;have a:=(ar _ (w.alloc z)).alloc (ak _) o;have d:(w.alloc z).heap.size=w.heap.size+1:=bF ..;refine⟨⟨?_,by omega,?_,am.f (au c a)⟩,?_⟩
 . have:=aX (w.alloc z) o;rw[d] at this;exact this
 . exact((h.a (S':=fun k=>ay S w k∧k≠w.heap.size+1) (fun k f e=>⟨A e,by omega⟩)).f c).f a
 . exact(a.block w.heap.size (by omega)).trans (aX w z)
theorem fh.j {L:Nat}{ids:List Int}{a:ab}(h:fh w S L gs s ids a):Calls prog 123 #[Q (M ⟨gs,0,U⟩)] w fun e w'=>e=Y (.tuple #[])∧fh w' (ay S w) L gs (eA s) ids a∧am S w w':=by
 obtain⟨p,i,j,l,m,c,d⟩:=h;exact(rh (c .jd)).mono (fun e w' ⟨n,o,f⟩=>⟨n,⟨_,i,j,l,m,Am bM.a bM.a c (aS.a o (fun k _ e=>A e)) f,qa (fun k e=>A (d k e)) (ak _)⟩,f.j (fun k e=>d k (by rw[e];intro h;cases h))⟩)
theorem fh.B {L:Nat}{ids:List Int}{a:ab}(h:fh w S L gs s ids a):aS w S gs s:=by
 obtain⟨f,i,j,l,m,c,d⟩:=h;exact aS.a (c .jd) (fun k _ e=>d k (by rw[e];intro h;cases h))
theorem fh.f {L:Nat}{ids:List Int}{a:ab}(h:fh w S L gs s ids a):w.cell? ⟨L,0,U⟩=M (Q (M ⟨gs,0,U⟩)):=by
 obtain⟨d,e,f,i,j,c,k⟩:=h;exact aq _ _ 0 _ _ _ (c .row).1
structure uG (S:Nat->Prop)(w:X)(gs b L:Nat)(o:Obj)(B:X)(s:av)(ids:List Int)(told:ab)(W:X):Prop where
 a:fh W (ay (fun k=>(S k∧k<w.heap.size)∨k=L) B) L gs s ids told
 c:am (fun k=>(S k∧k<w.heap.size)∨k=L) B W
 d:W.heap[b]? = M o
theorem uG.f {L:Nat}{o:Obj}{B:X}{d:av}{ids MF:List Int}{c a:ab}(h:uG S w gs b L o B s ids c W)(j:w.heap.size<=b)(l:b<L)(m:L<B.heap.size)(i:fh W' (ay (ay (fun k=>(S k∧k<w.heap.size)∨k=L) B) W) L gs d MF a)(f:am (ay (fun k=>(S k∧k<w.heap.size)∨k=L) B) W W'):uG S w gs b L o B d MF a W':=by
 have n:=h.c.b;refine⟨i.a (fun k _ e=>?_),h.c.jK f,f.y h.d (fun e=>?_)⟩
 . rcases e with e | e
   . exact e
   . exact R (by omega)
 . rcases e with (e | e) | e
   . have:=e.2;omega
   . omega
   . omega
theorem uG.j {L:Nat}{o:Obj}{B:X}{ids:List Int}{a:ab}(h:uG S w gs b L o B s ids a W)(c:w.heap.size<=b)(f:b<L)(i:L<B.heap.size)(d:Below w.heap.size w B):qd S w gs s b o W:=by
 have j:=h.c.b;refine⟨h.d,c,h.a.B.a (fun k _ e=>?_),(am.f d).a h.c (fun k e l=>?_)⟩
 . rcases e with (e | e) | e
   . exact⟨A e.1,by have:=e.2;omega⟩
   . exact⟨R (by omega),by omega⟩
   . exact⟨R (by omega),by omega⟩
 . rcases e with e | e
   . exact e.1
   . omega
theorem fh.y {n:Nat}(h:aS w (fun k=>S k∧k<n) gs s)(l:n<=w.heap.size):fh (w.alloc (K #[Q (M ⟨gs,0,U⟩),Z U 0 0,Z U 0 0] 295)) (fun k=>S k∧k<n∨k=w.heap.size) w.heap.size gs s [] []:=by
 have j:=(ar _ w).alloc (ak _) (K #[Q (M ⟨gs,0,U⟩),Z U 0 0,Z U 0 0] 295);classical
 refine⟨fun k=>if k=w.heap.size then .row else if S k∧k<n then .jd else .out,U,0,U,0,fun d=>?_,fun k c=>?_⟩
 . cases d with
   | row=>exact⟨aX w _,if_pos rfl⟩
   | jd=>exact aS.a (h.f j) (fun k _ e=>by
    show(if k=w.heap.size then rU.row else if S k∧k<n then .jd else .out)=.jd;rw[if_neg (by have:=e.2;omega),if_pos e])
   | ids=>exact⟨aK.y _ _ _ _,fun a e=>by cases e⟩
   | list=>exact nE.f _ _
   | box=>exact trivial
   | out=>exact trivial
 . simp only at c;by_cases f:k=w.heap.size
   . exact R f
   . rw[if_neg f] at c;by_cases i:S k∧k<n
     . exact A i
     . rw[if_neg i] at c;exact absurd rfl c
end
section
variable {w w0:X} {S:Nat->Prop} {g gs:Nat} {s:av}
theorem lb (S:Nat->Prop)(w:X)(b:Nat):∀a,(U:ag)=M a->ay S w a.block∧a.block≠b:=fun a e=>by cases e
theorem RW (p:jQ w0 w S)(h:aS w S gs s)(ok:aJ s)(hg:w.cell? ⟨g,0,U⟩=M (Q (M ⟨gs,0,U⟩))){m t:ae}{mi ln:Int}{l:aC}{fo:ag}{gy nf:Nat}(hF:fW w l fo gy nf)(body:ab){bo:ag}{fZ nb:Nat}(hb:body.length=nb)(hB:aB w bo fZ body)(hnb:nb<=20000):
 Calls prog 174 #[Q (M ⟨g,0,U⟩),.agg #[V m,V t,I J mi,Z fo nf gy,I J ln,Z bo nb fZ]] w fun e w'=>xp S w gs (jh s l body) e w':=by
 obtain⟨f,hR⟩:∃f,f=jh s l body:=⟨_,rfl⟩;rw[<-hR];obtain⟨hX,DF⟩:=qd.r h (K #[V m,V t,I J mi,Z fo nf gy,I J ln,Z bo nb fZ] 84) (K #[I J 0,Z U 0 0,Z U 0 0] 126);have hlg:=bY w _ hg;have hbb:Below w.heap.size w ((w.alloc (K #[V m,V t,I J mi,Z fo nf gy,I J ln,Z bo nb fZ] 84)).alloc (K #[I J 0,Z U 0 0,Z U 0 0] 126)):=au ((ar _ w).alloc (ak _) _) ((ar _ _).alloc (ak _) _);have HBo:=Jl (hF.a hbb);have oW:∀W,Below w.heap.size w W->aS W (fun k=>S k∧k<w.heap.size) gs s:=fun W hW=>(h.a (S':=fun k=>S k∧k<w.heap.size) (fun k hk e=>⟨e,hk⟩)).f hW;have HIb:∀W,Below w.heap.size w W->aB W bo fZ body:=fun W hW=>hB.a hW;have HG:∀W,Below w.heap.size w W->W.cell? ⟨g,0,U⟩=M (Q (M ⟨gs,0,U⟩)):=fun W hW=>(hW.cell (p:=⟨g,0,U⟩) hlg).trans hg;have HP:=p;have su:=aa ok
 have hs1:((w.alloc (K #[V m,V t,I J mi,Z fo nf gy,I J ln,Z bo nb fZ] 84)).alloc (K #[I J 0,Z U 0 0,Z U 0 0] 126)).heap.size=w.heap.size+2:=by simp
 go_enter func174,ntmps174;go_upto_region 1 with fail
 generalize hW1:((w.alloc (K #[V m,V t,I J mi,Z fo nf gy,I J ln,Z bo nb fZ] 84)).alloc (K #[I J 0,Z U 0 0,Z U 0 0] 126))=W1 at *;have a3:=aq W1 _ 3 _ _ _ DF;simp at a3;have HX:=hX;have xO:=aa hbb;have HZr:=aa DF;have V4:=aa hs1
 go_wp2_with fail;refine HBo.mono ?_;rintro e w1 ⟨rfl,D⟩;have ZN:=HX.a D;have HB1:=au xO.o D;have hsz1:=D.size;have a5:w1.cell? ⟨w.heap.size,5,U⟩=M (Z bo nb fZ):=by
  have:=aq w1 _ 5 _ _ _ ((D.block w.heap.size (by have:=V4.o;omega)).trans HZr.o);simpa using this
 have Dm:w.heap.size+2<=w1.heap.size:=by have:=V4.o;omega
 cases G:mj l with
 | none =>
   have HR:f=(s,(415,[],[])):=hR.trans (K3 G);have H5:=fun W=>pT 415 W;simp only[Option.elim,Option.isSome];go_wp2_with fail;refine(H5 _).mono ?_;rintro e H ⟨rfl,i⟩;obtain⟨⟨z0,z1,z2,y0,y1,y2⟩,N⟩:=(ZN.a i).f (st:=415) (mJ:=415) rfl (l:=[]) (body:=[]) rfl (bq.r _) (lb _ _ _) rfl (aB.f _) (lb _ _ _);go_wp2;generalize (((H.setCell ⟨w.heap.size+1,0,U⟩ _).setCell ⟨w.heap.size+1,1,U⟩ _).setCell ⟨w.heap.size+1,2,U⟩ _)=wf at *;obtain⟨T,q1,q2,q3⟩:=N.o;refine aR (v:=.agg #[I J 415,Z U 0 0,Z U 0 0]) (by simp[results,results174,go_sem,T,q1,q2]) rfl ?_;rw[HR];exact q3
 | some bd =>
   simp only[Option.elim,Option.isSome];have HRd:=RT (iS bd) body bo fZ nb w1 (HIb _ HB1) hb hnb;rw[show(iS bd).data.toList=bd from by unfold iS;simp] at HRd;go_wp2_with fail;refine HRd.mono ?_;rintro e H hRd;cases hRd with
   | no c hc aiI he i =>
     subst he;have hpn:lw bd body=U:=by
      unfold lw;rw[if_neg];rintro ⟨e1,e2⟩;rcases aiI with ⟨h1,_⟩ | ⟨_,h1⟩
      . rw[h1] at e1;cases e1
      . exact hc (by rw[<-h1];exact e2)
     have HR:f=(s,(400,[],[])):=hR.trans (Lb G hpn);have tc:((c:Int) != 0)=true:=by rw[di];omega
     have RN:=ZN.a i;have H4:=fun W=>pT 400 W;go_wp2_with fail;refine(H4 _).mono ?_;rintro e w3 ⟨rfl,b⟩;obtain⟨⟨z0,z1,z2,y0,y1,y2⟩,N⟩:=(RN.a b).f (st:=400) (mJ:=400) rfl (l:=[]) (body:=[]) rfl (bq.r _) (lb _ _ _) rfl (aB.f _) (lb _ _ _);go_wp2;generalize (((w3.setCell ⟨w.heap.size+1,0,U⟩ _).setCell ⟨w.heap.size+1,1,U⟩ _).setCell ⟨w.heap.size+1,2,U⟩ _)=wf at *;obtain⟨T,q1,q2,q3⟩:=N.o;refine aR (v:=.agg #[I J 400,Z U 0 0,Z U 0 0]) (by simp[results,results174,go_sem,T,q1,q2]) rfl ?_;rw[HR];exact q3
   | yes hm hcl w15 afX ao cap n he hP i =>
     subst he;obtain⟨C,hps⟩:∃C,C=fF (gr (cu (fq bd) ie body)):=⟨_,rfl⟩;have hpp:lw bd body=M C:=by unfold lw;rw[if_pos ⟨hm,hcl⟩,hps]
     rw[<-hps] at hP;obtain⟨hrm,hpl,hpz⟩:=KS hpp (by have:=(vT hm).b;omega) (vT hm).a (by decide) (by rw[hb];exact hnb);have hn:=hP.a;subst hn;have hPD:=hP.j (fun k e=>cq afX e);have hB2:=au HB1 i;have Dn:w.heap.size+2<=H.heap.size:=cq Dm i.size;have hX2:=ZN.a i;have hgc:=HG H hB2;have HRo:=N3 (hPD.a.a (bj _ _)) rfl hrm;have yH:Below w.heap.size w H.drew:=au hB2 (bj _ _);obtain⟨rm,adL⟩:∃rm,rm=gP C:=⟨_,rfl⟩;rw[<-adL] at HRo hrm;have U8:=fun W (hW:Below w.heap.size w W)=>yo (oW W hW) (rm:Int);obtain⟨bf,hbf⟩:∃bf,bf=decide (100000<s.a.length+rm):=⟨_,rfl⟩;have hrb:(decide ((0:Int)<=(rm:Int))&&decide ((rm:Int)<=100000-(s.a.length:Int)))=!bf:=by
      rw[hbf,br (by omega:(0:Int)<=(rm:Int)),Bool.true_and,<-decide_not,decide_eq_decide];omega
     rw[hrb] at U8;have HBf:=aa hbf;have HRe:=aa adL
     clear hbf adL;have RN:=aa hX2;have u:=aa hB2;have HPD:=aa hPD;have HPz:=aa hpz
     clear hP hps hm hcl afX hPD hB2 hX2 hpz HRd i ZN HB1 hrb;go_upto_region 7 with fail
     go_cut [31] (fun v wd=>v=.bool bf∧Below H.heap.size H wd)
     case first =>
      go_region_held3 (fun W=>W.cell? ⟨g,0,U⟩=M (Q (M ⟨gs,0,U⟩))) (go_keep) (first
       | (go_at_call 232;refine HRo.mono ?_;rintro e w3 ⟨rfl,b⟩;have HB3:Hid (Below H.heap.size H w3):=au (bj _ _) b;have hg3:=HG w3 (au u.o HB3.o);clear b)
       | (go_at_call 215;refine(U8 _ (au u.o HB3.o)).mono ?_;rintro e w4 ⟨rfl,hw⟩;subst hw))
      all_goals
       go_wp2;go_meet;exact⟨rfl,HB3.o⟩
     case rest =>
      obtain⟨rfl,b⟩:=hcut;have HX3:=(RN.a b);have HB3:=aa b
      clear hgc HRo U8 yH RN;cases bf with
      | true =>
        have q:=sB HBf.o.symm;have HR:f=(s,(507,[],[])):=hR.trans (K4 G hpp (by rw[<-HRe.o];exact q));have H4:=fun W=>pT 507 W;go_wp2_with fail;refine(H4 _).mono ?_;rintro e w3 ⟨rfl,b⟩;obtain⟨⟨z0,z1,z2,y0,y1,y2⟩,N⟩:=(HX3.a b).f (st:=507) (mJ:=507) rfl (l:=[]) (body:=[]) rfl (bq.r _) (lb _ _ _) rfl (aB.f _) (lb _ _ _);go_wp2;generalize (((w3.setCell ⟨w.heap.size+1,0,U⟩ _).setCell ⟨w.heap.size+1,1,U⟩ _).setCell ⟨w.heap.size+1,2,U⟩ _)=wf at *;obtain⟨T,q1,q2,q3⟩:=N.o;refine aR (v:=.agg #[I J 507,Z U 0 0,Z U 0 0]) (by simp[results,results174,go_sem,T,q1,q2]) rfl ?_;rw[HR];exact q3
      | false =>
        have q:=of_decide_eq_false HBf.o.symm;have HR:f=po (fP ⟨s,[],[],0⟩ C):=hR.trans (K5 G hpp (by rw[<-HRe.o];exact q));have hgc:=HG wc (au u.o b);have hz3:=b.size;have hz2:=u.o.size
        have hL0:=fh.y (oW wc (au u.o b)) (by omega);have hbL:=(ar _ wc).alloc (ak _) (K #[Q (M ⟨gs,0,U⟩),Z U 0 0,Z U 0 0] 295);have aiK:=HPD.o.f (am.f (S:=fun _=>False) (au b hbL)) (fun _ _ e=>e);have hwB:=au (au u.o b) hbL;have hpw:jQ w0 (wc.alloc (K #[Q (M ⟨gs,0,U⟩),Z U 0 0,Z U 0 0] 295)) (fun k=>(S k∧k<w.heap.size)∨k=wc.heap.size):=⟨HP.c,HP.a.trans (hwB.mono HP.a.size),fun k e=>by
         rcases e with e | e
         . exact HP.b k e.1
         . have:=HP.a.size;omega⟩
        have HAA:=aa (No hpw ⟨s,[],[],0⟩ hL0 ⟨su.o,ax _,A (ax _)⟩ rfl C aiK (fun k e=>⟨fun e2=>by
         rcases e2 with e2 | e2
         . have:=e2.2;have:=Dm;omega
         . omega,by rw[bF];omega⟩) rfl hpl HPz.o)
        have HX0:uG S w gs (w.heap.size+1) wc.heap.size (K #[I J 0,Z U 0 0,Z U 0 0] 126) (wc.alloc (K #[Q (M ⟨gs,0,U⟩),Z U 0 0,Z U 0 0] 295)) s [] [] (wc.alloc (K #[Q (M ⟨gs,0,U⟩),Z U 0 0,Z U 0 0] 295)):=⟨hL0.a (fun k _ e=>A e),am.B _ _,(HX3.a hbL).c⟩;have d:w.heap.size<=w.heap.size+1∧w.heap.size+1<wc.heap.size∧wc.heap.size<(wc.alloc (K #[Q (M ⟨gs,0,U⟩),Z U 0 0,Z U 0 0] 295)).heap.size:=⟨by omega,by have:=Dn;have:=b.size;omega,by rw[bF];omega⟩;have aiL:=zY C (r:=⟨s,[],[],0⟩) su.o;have aiM:=zV C ⟨s,[],[],0⟩;have aiN:(fP ⟨s,[],[],0⟩ C).a.length<=1000000:=by simp at aiM;omega
        generalize fP ⟨s,[],[],0⟩ C=j at *;go_upto_region 10 with fail
        generalize hBB:(wc.alloc (K #[Q (M ⟨gs,0,U⟩),Z U 0 0,Z U 0 0] 295))=B at *;go_wp2_with fail;refine HAA.o.mono ?_;rintro e w5 ⟨rfl,hL5,wN⟩;have y:uG S w gs (w.heap.size+1) wc.heap.size (K #[I J 0,Z U 0 0,Z U 0 0] 126) B j.s j.a j.c w5:=HX0.f d.1 d.2.1 d.2.2 (hL5.a (fun k _ e=>by
         rcases e with e | e
         . exact A (A e)
         . exact R e)) (wN.j (fun k e=>A e))
        by_cases z:j.b=0
        . have tc:((j.b:Int) != 0)=F:=by rw[z];rfl
          have HRr:f=(eA j.s,(201,[],j.c)):=by rw[HR];unfold po;rw[if_pos z]
          have k0:=y.a.f;have Jz:=y.a.j;rw[z];go_wp2_with fail;refine Jz.mono ?_;rintro e w6 ⟨rfl,hL6,CK⟩;have x:=y.f d.1 d.2.1 d.2.2 hL6 CK;have HRp:=QE x.a;go_wp2_with fail;refine HRp.mono ?_;rintro e w7 ⟨⟨bo7,af0,rfl,hB7,hS7⟩,hb7⟩;obtain⟨⟨z0,z1,z2,y0,y1,y2⟩,N⟩:=((x.j d.1 d.2.1 d.2.2 hwB).a hb7).f (st:=201) (mJ:=201) rfl (l:=[]) (body:=j.c) rfl (bq.r _) (lb _ _ _) rfl hB7 (fun a e=>by
           have:=d;rcases hS7 a e with (h1 | h1) | h1
           . exact⟨A h1.1,by have:=h1.2;omega⟩
           . exact⟨R (by omega),by omega⟩
           . exact⟨R (by omega),by omega⟩)
          go_wp2;generalize (((w7.setCell ⟨w.heap.size+1,0,U⟩ _).setCell ⟨w.heap.size+1,1,U⟩ _).setCell ⟨w.heap.size+1,2,U⟩ _)=wf at *;obtain⟨T,q1,q2,q3⟩:=N.o;refine aR (v:=.agg #[I J 201,Z U 0 0,Z bo7 j.c.length af0]) (by simp[results,results174,go_sem,T,q1,q2]) rfl ?_;rw[HRr];exact q3
        . have tc:((j.b:Int) != 0)=true:=by rw[di];omega
          have HRr:f=(eA (mS j.s j.a),(nN j.b,[],[])):=by rw[HR];unfold po;rw[if_neg z]
          have HDa:=Mo y.a aiL aiN;have sS:=fun(W:X)=>QG (L:=wc.heap.size) (w:=W) j.b z;go_wp2_with fail;refine HDa.mono ?_;rintro e w6 ⟨rfl,hL6,CK⟩;have x:=y.f d.1 d.2.1 d.2.2 hL6 CK;have k0:=x.a.f;have Jz:=x.a.j;go_wp2_with fail;refine Jz.mono ?_;rintro e w7 ⟨rfl,hL7,Fa⟩;have HX7:=x.f d.1 d.2.1 d.2.2 hL7 Fa;go_wp2_with fail;refine(sS _).mono ?_;rintro e w8 ⟨rfl,hb8⟩;obtain⟨⟨z0,z1,z2,y0,y1,y2⟩,N⟩:=((HX7.j d.1 d.2.1 d.2.2 hwB).a hb8).f (st:=nN j.b) (mJ:=(nN j.b:Int)) rfl (l:=[]) (body:=[]) rfl (bq.r _) (lb _ _ _) rfl (aB.f _) (lb _ _ _);go_wp2;generalize (((w8.setCell ⟨w.heap.size+1,0,U⟩ _).setCell ⟨w.heap.size+1,1,U⟩ _).setCell ⟨w.heap.size+1,2,U⟩ _)=wf at *;obtain⟨T,q1,q2,q3⟩:=N.o;refine aR (v:=.agg #[I J (nN j.b:Int),Z U 0 0,Z U 0 0]) (by simp[results,results174,go_sem,T,q1,q2]) rfl ?_;rw[HRr];exact q3
end
section
variable {w w0:X} {S:Nat->Prop} {g gs:Nat} {s:av}
theorem SZ (t:ae):sq t=Ac t:=rfl
theorem Oh (p:jQ w0 w S)(h:aS w S gs s)(ok:aJ s)(hg:w.cell? ⟨g,0,U⟩=M (Q (M ⟨gs,0,U⟩))){m t:ae}{mi ln:Int}{l:aC}{fo:ag}{gy nf:Nat}(hF:fW w l fo gy nf)(body:ab){bo:ag}{fZ nb:Nat}(hb:body.length=nb)(hB:aB w bo fZ body)(hnb:nb<=20000)(ht:t.size<=100000):
 Calls prog 109 #[Q (M ⟨g,0,U⟩),.agg #[V m,V t,I J mi,Z fo nf gy,I J ln,Z bo nb fZ]] w fun e w'=>xp S w gs (mh bw s m t l body) e w':=by
 obtain⟨H,c⟩:∃H,H=mh bw s m t l body:=⟨_,rfl⟩;rw[<-c];unfold mh at c;obtain⟨hX,B⟩:=qd.r h (K #[V m,V t,I J mi,Z fo nf gy,I J ln,Z bo nb fZ] 84) (K #[I J 0,Z U 0 0,Z U 0 0] 126);have hlg:=bY w _ hg;have f:Below w.heap.size w ((w.alloc (K #[V m,V t,I J mi,Z fo nf gy,I J ln,Z bo nb fZ] 84)).alloc (K #[I J 0,Z U 0 0,Z U 0 0] 126)):=au ((ar _ w).alloc (ak _) _) ((ar _ _).alloc (ak _) _);have hs1:((w.alloc (K #[V m,V t,I J mi,Z fo nf gy,I J ln,Z bo nb fZ] 84)).alloc (K #[I J 0,Z U 0 0,Z U 0 0] 126)).heap.size=w.heap.size+2:=by simp
 have d:=fun W=>QO t W ht;have L:=fun st W=>pT st W;go_enter func109,ntmps109;go_upto_region 1 with fail
 generalize hW1:((w.alloc (K #[V m,V t,I J mi,Z fo nf gy,I J ln,Z bo nb fZ] 84)).alloc (K #[I J 0,Z U 0 0,Z U 0 0] 126))=j at *;have a0:=aq j _ 0 _ _ _ B;have a1:=aq j _ 1 _ _ _ B;have a2:=aq j _ 2 _ _ _ B;have a3:=aq j _ 3 _ _ _ B;have a4:=aq j _ 4 _ _ _ B;have a5:=aq j _ 5 _ _ _ B;have hg1:=(f.cell (p:=⟨g,0,U⟩) hlg).trans hg;have N:=hX.g;have T:=hF.a f;have hB1:=hB.a f;have i:jQ w0 j (fun k=>ay S w k∧k≠w.heap.size+1):=⟨p.c,p.a.trans (f.mono p.a.size),fun k e=>by
  rcases e.1 with e | e
  . exact p.b k e
  . exact cq p.a.size e⟩
 have HX:=hX;have V4:=aa hs1
 rw[show Ac t=sq t from(SZ t).symm] at c;cases ho:sq t with
 | true =>
   rw[ho,if_pos rfl] at c;have R8:=FC (m:=m) (t:=t) (mi:=mi) (ln:=ln) (bo:=bo) (fZ:=fZ) (nb:=nb) (w:=j.drew) ⟨i.c,au i.a (bj _ _),i.b⟩ (N.f (bj _ _)) ok (T.a (bj _ _)) body hb (hB1.a (bj _ _)) (by omega) ht;rw[ho] at d;generalize bw s m t l body=tr at *;obtain⟨s2,b,l2⟩:=tr;go_wp2_with fail;refine(d _).mono ?_;rintro e w1 ⟨rfl,n⟩;subst n;go_upto_region 2 with fail
   go_cut [] (fun wd=>∃(C:ag) (D G:Nat),wd.cell? ⟨w.heap.size+1,0,U⟩=M (I J (b:Int))∧wd.cell? ⟨w.heap.size+1,1,U⟩=M (Z C D G)∧wd.cell? ⟨w.heap.size+1,2,U⟩=M (Z U 0 0)∧xp S w gs (s2,(b,l2,[])) (Y (.agg #[I J (b:Int),Z C D G,Z U 0 0])) wd)
   case first =>
    go_region_law (first
     | (go_simp;go_at_call 53;refine R8.mono ?_;rintro e w9 ⟨⟨C,G,D,rfl,lV,kM⟩,kK,qP⟩;have hX9:=(HX.a (bj _ _)).j kK qP;obtain⟨⟨z0,z1,z2,y0,y1,y2⟩,q⟩:=hX9.f (st:=b) (mJ:=(b:Int)) rfl (l:=l2) (body:=[]) lV kM.a (fun a e=>by have h1:w1.heap.size<=a.block:=(kM.f a e).1;have:=V4.o;exact⟨R (by omega),by omega⟩) rfl (aB.f _) (lb _ _ _);clear lV kM kK qP hX9))
    all_goals
     go_wp2;go_meet;exact⟨C,D,G,q.o⟩
   case rest =>
    obtain⟨C,D,G,r,u,x,y⟩:=hcut;go_wp2;refine aR (v:=.agg #[I J (b:Int),Z C D G,Z U 0 0]) (by simp[results,results109,go_sem,r,u,x]) rfl ?_;rw[c];exact y
 | false =>
   rw[ho,if_neg (by simp)] at c;rw[ho] at d;obtain⟨tt,htt⟩:∃tt,(t.toList==([47,102,111,114,109]:ab))=tt:=⟨_,rfl⟩;have eT:t=D3<->tt=true:=by
    rw[<-htt,cR,Lib.toList_data,ByteArray.ext_iff,<-vq];rfl
   obtain⟨tm,htm⟩:∃tm,(m.toList==([80,79,83,84]:ab))=tm:=⟨_,rfl⟩;have eM:m=DW<->tm=true:=by
    rw[<-htm,cR,Lib.toList_data,ByteArray.ext_iff,<-vq];rfl
   cases tt with
   | false =>
     rw[if_pos (fun e=>by have:=eT.1 e;cases this)] at c;go_wp2_with fail;refine(d _).mono ?_;rintro e w1 ⟨rfl,n⟩;subst n;go_wp2_with fail;refine(L 404 _).mono ?_;rintro e w3 ⟨rfl,z⟩;obtain⟨⟨z0,z1,z2,y0,y1,y2⟩,q⟩:=(HX.a z).f (st:=404) (mJ:=404) rfl (l:=[]) (body:=[]) rfl (bq.r _) (lb _ _ _) rfl (aB.f _) (lb _ _ _);go_wp2;generalize (((w3.setCell ⟨w.heap.size+1,0,U⟩ _).setCell ⟨w.heap.size+1,1,U⟩ _).setCell ⟨w.heap.size+1,2,U⟩ _)=wf at *;obtain⟨r,u,x,y⟩:=q.o;refine aR (v:=.agg #[I J 404,Z U 0 0,Z U 0 0]) (by simp[results,results109,go_sem,r,u,x]) rfl ?_;rw[c];exact y
   | true =>
     rw[if_neg (fun e=>e (eT.2 rfl))] at c;cases tm with
     | false =>
       rw[if_pos (fun e=>by have:=eM.1 e;cases this)] at c;go_wp2_with fail;refine(d _).mono ?_;rintro e w1 ⟨rfl,n⟩;subst n;go_wp2_with fail;refine(L 405 _).mono ?_;rintro e w3 ⟨rfl,z⟩;obtain⟨⟨z0,z1,z2,y0,y1,y2⟩,q⟩:=(HX.a z).f (st:=405) (mJ:=405) rfl (l:=[]) (body:=[]) rfl (bq.r _) (lb _ _ _) rfl (aB.f _) (lb _ _ _);go_wp2;generalize (((w3.setCell ⟨w.heap.size+1,0,U⟩ _).setCell ⟨w.heap.size+1,1,U⟩ _).setCell ⟨w.heap.size+1,2,U⟩ _)=wf at *;obtain⟨r,u,x,y⟩:=q.o;refine aR (v:=.agg #[I J 405,Z U 0 0,Z U 0 0]) (by simp[results,results109,go_sem,r,u,x]) rfl ?_;rw[c];exact y
     | true =>
       rw[if_neg (fun e=>e (eM.2 rfl))] at c;have HFm:=RW (g:=g) (m:=m) (t:=t) (mi:=mi) (ln:=ln) i N ok hg1 T body hb hB1 hnb;generalize jh s l body=tr at *;obtain⟨s2,b,l2,b2⟩:=tr;go_wp2_with fail;refine(d _).mono ?_;rintro e w1 ⟨rfl,n⟩;subst n;go_wp2_with fail;refine HFm.mono ?_;rintro e w9 ⟨⟨fo9,af4,nf9,bo9,af5,nb9,rfl,lV,hF9,hm9,qp,hf9,hb9⟩,kK,qP⟩;have hno:∀k,ay (fun k=>ay S w k∧k≠w.heap.size+1) w1 k->ay S w k∧k≠w.heap.size+1:=fun k e=>by
        have:=V4.o;rcases e with e | e
        . exact e
        . exact⟨R (by omega),by omega⟩
       obtain⟨⟨z0,z1,z2,y0,y1,y2⟩,q⟩:=(HX.j kK qP).f (st:=b) (mJ:=(b:Int)) rfl (l:=l2) (body:=b2) lV hF9 (fun a e=>hno _ (hf9 a e)) hm9 qp (fun a e=>hno _ (hb9 a e));go_wp2;generalize (((w9.setCell ⟨w.heap.size+1,0,U⟩ _).setCell ⟨w.heap.size+1,1,U⟩ _).setCell ⟨w.heap.size+1,2,U⟩ _)=wf at *;obtain⟨r,u,x,y⟩:=q.o;refine aR (v:=.agg #[I J (b:Int),Z fo9 nf9 af4,Z bo9 nb9 af5]) (by simp[results,results109,go_sem,r,u,x]) rfl ?_;rw[c];exact y
