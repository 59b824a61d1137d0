/- Small texts, one behind the other: RfRp, RpC, RpD, GaB, GaC, GaD, GaE, GaF, GaG, GaH, GaI, SlCloneI. -/
import Derived.Deep.RegionHeldLaw
import Derived.Test.YthhklgjjnaeaoaaGreatDoorPk43
open Go.Value renaming int->I,string->V,slice->Z,pointer->Q
open Go.IntKind renaming i64->J
open Go.Obj renaming cells->K
open Go.Ending renaming returned->Y
open Option renaming none->U,some->M
open Bool renaming false->F
open Or renaming inl->A,inr->R
open Go renaming World->X
set_option maxHeartbeats 6400000
set_option maxRecDepth 100000
open Go.Proofs.Tryz
namespace Go.Proofs.YthhklgjjnaeaoaaGreatDoor
open Go.RowKit
def Zm:ay:=⟨#[99,111,110,116,101,110,116,45,108,101,110,103,116,104]⟩
def Rp.out (st:Int)(l:au)(body:av):av×Nat:=Rp.text st l (Fd.vals Zm l).length body
inductive adI (w:X)(r:av×Nat)(e:Ending)(w':X):Prop
 | bad (c:Nat) (hc:c≠0) (he:e=Y (.tuple #[Z U 0 0,I J (c:Int)])) (ht:r=([],c)) (hB:Below w.heap.size w w')
 | ok (g cap n:Nat) (he:e=Y (.tuple #[Z (M ⟨g,0,U⟩) n cap,I J 0])) (hn:n=r.1.length) (ht:r.2=0) (hO:Buf w' w.heap.size g cap r.1) (hB:Below w.heap.size w w')
theorem D7 (p:ay×ay)(h:p.1.size<=2000∧p.2.size<=2000):(Rp.jA p).length<=4004:=by
 have a:p.1.data.toList.length=p.1.size:=by rw[aO];rfl
 have b:p.2.data.toList.length=p.2.size:=by rw[aO];rfl
 have c:(Fd.text p.1.data.toList p.2.data.toList).1.length<=p.1.data.toList.length+2+p.2.data.toList.length:=by
  unfold Fd.text;split
  . simp
  . split
    . simp
    . split
      . simp
      . simp;omega
 unfold Rp.jA;rw[aV];simp only[aW,bY];omega
theorem Bv:∀(l:au),(∀p∈l,p.1.size<=2000∧p.2.size<=2000)->(l.flatMap Rp.jA).length<=l.length*4004
 | [],_=>by simp
 | p :: t, h => by
   have b:=Bv t (fun q a=>h q (by simp[a]));have c:=D7 p (h p (by simp));rw[aU,aV,aW];omega
theorem Rp.Gy (p:ay×ay)(h:(Fd.text p.1.data.toList p.2.data.toList).2=0):∀l:au,Rp.code (l++[p])=Rp.code l
 | []=>by simp[Rp.code,h]
 | q::t=>by rw[dR,Rp.code,Rp.code,Rp.Gy p h t]
theorem KP (l:au):Fd.vals Wy l=Fd.vals Zm l:=by
 unfold Fd.vals;rw[show Ch.lower Wy.data.toList=Ch.lower Zm.data.toList by decide]
def KQ (nb:Nat):ay×ay:=(Wy,⟨(Ch.iV 8 nb).toArray⟩)
theorem Wz {nb:Nat}(h:nb<1000000000):(Fd.text (KQ nb).1.data.toList (KQ nb).2.data.toList).2=0:=(Rp.Cj h).1
theorem WA {nb:Nat}(h:nb<1000000000):Rp.jA (KQ nb)=Rp.cl++Ch.iV 8 nb++[13,10]:=by
 unfold Rp.jA;have:=(Rp.Cj h).2;rw[show(KQ nb).1.data.toList=Rp.Mv from rfl,show(KQ nb).2.data.toList=Ch.iV 8 nb from rfl,this]
theorem Rp.Sn {st:Int}{l:au}{body:av}(h:Rp.fault st l≠0):Rp.out st l body=([],Rp.fault st l):=by
 unfold Rp.fault at h ⊢;unfold Rp.out Rp.text;rw[KP] at h ⊢;split
 . rfl
 . rename_i a;rw[if_neg a] at h;split
   . rfl
   . rename_i b;rw[if_neg b] at h;split
     . rfl
     . rename_i c;rw[if_neg c] at h;exact absurd rfl h
theorem Rp.WB {st:Int}{l:au}{body:av}(h:Rp.fault st l=0)(b:body.length<1000000000):Rp.word st≠[]∧l.length<16∧Rp.out st l body=if Rp.code (l++[KQ body.length])≠0 then ([],Rp.code (l++[KQ body.length])) else (Rp.first st++(l++[KQ body.length]).flatMap Rp.jA++[13,10]++body,0):=by
 rw[Rp.Gy _ (Wz b),List.flatMap_append];unfold Rp.fault at h;unfold Rp.out Rp.text;rw[KP] at h;by_cases a:Rp.word st=[]
 . rw[if_pos a] at h;cases h
 rw[if_neg a] at h ⊢;by_cases c:16<=l.length
 . rw[if_pos c] at h;cases h
 rw[if_neg c] at h ⊢;by_cases d:(Fd.vals Zm l).length≠0
 . rw[if_pos d] at h;cases h
 rw[if_neg d];refine⟨a,by omega,?_⟩;split
 . rfl
 . congr 1;simp[WA b]
structure KS (w:X)(cs:Array Value)(T:Nat)(ls:au)(ao:ak)(iB g cap:Nat)(acc:av)(W:X):Prop where
 one:mg w cs T W
 buf:Buf W (w.heap.size+1) g cap acc
 row:jl W ao iB ls.length (gG ls)
 apart:∀a,ao=M a->a.block≠g∧a.block<W.heap.size
theorem KS.stay {w W W':X}{d:Array Value}{T:Nat}{f:au}{ao:ak}{i g cap:Nat}{b:av}(h:KS w d T f ao i g cap b W)(c:Below W.heap.size W W'):KS w d T f ao i g cap b W' :=
 ⟨h.one.stay c,h.buf.keep c,h.row.stay c,fun a e=>⟨(h.apart a e).1,bZ (h.apart a e).2 c.size⟩⟩
theorem KS.grow {w W W':X}{l:Array Value}{T:Nat}{m:au}{ao:ak}{n g cap d b:Nat}{f c:av}(h:KS w l T m ao n g cap f W)(o:Buf W' (w.heap.size+1) d b c)(i:Turns (fun k=>k=g) W W')(j:d=g∨d=W.heap.size):KS w l T m ao n d b c W':=by
 have p:=h.buf.rA;refine⟨h.one.turns i (fun k e=>by omega),o,h.row.turns i (fun a e=>(h.apart a e).1),fun a e=>⟨fun q=>?_,bZ (h.apart a e).2 i.size⟩⟩;have r:=h.apart a e;rcases j with j | j
 . omega
 . omega
theorem NQ (w:X)(st:Int)(l:au)(fo bo:ak)(fV fU nb:Nat)(body:av)(hl:jl w fo fV l.length (gG l))(hN:l.length<=1000000)(hs:∀p∈l,p.1.size<=2000∧p.2.size<=2000)(hb:body.length=nb)(hBd:gN w bo fU body)(hnb:nb<=100000)(hP:kC w):
 Calls prog 140 #[.agg #[I J st,Z fo l.length fV,Z bo nb fU]] w fun e w'=>adI w (Rp.out st l body) e w':=by
 subst hb;obtain⟨j0,hj0,hy0,hy1,hy2⟩:=info_parts jI;have Hj:=H9 hj0;have NR:=H9 hy0;have NS:=H9 hy1;have NT:=H9 hy2
 obtain⟨i0,hi0,hz0,hz1,hz2⟩:=info_parts pq;have Hi:=H9 hi0;have lH:=H9 hz0;have lq:=H9 hz1;have lI:=H9 hz2
 have HV:=H9 hl;have HS:=H9 hs;have zQ:=H9 hBd;have HP:=H9 hP
 have N:Hid (∀W,mg w #[I J st,Z fo l.length fV,Z bo body.length fU] 109 W->W.cell? ⟨w.heap.size,0,U⟩=M (I J st)∧W.cell? ⟨w.heap.size,1,U⟩=M (Z fo l.length fV)∧W.cell? ⟨w.heap.size,2,U⟩=M (Z bo body.length fU)):=fun W h=>⟨h.cell 0,h.cell 1,h.cell 2⟩;have H0:=H9 (mg.made w #[I J st,Z fo l.length fV,Z bo body.length fU] 109);have S:=H9 (NN _ st l fo bo fV fU body.length (hl.stay H0.o.below) hN hs);have hwl:=Rp.JO st;clear hl hs hBd hj0 hy0 hy1 hy2 hi0 hz0 hz1 hz2 hP;obtain⟨u,x1,x2⟩:=N.o _ H0.o;by_cases x:Rp.fault st l=0
 . obtain⟨hwd,h16,hout⟩:=Rp.WB (body:=body) x (by omega);have HT:=H9 hout;rw[x] at S;clear hout x;obtain⟨hs1,hs2⟩:=Rp.Vl hwd;obtain⟨b,rfl⟩:∃b:Nat,st=(b:Int):=⟨st.toNat,by omega⟩;have Zl:Hid (∀W,Calls prog 189 #[I J (b:Int)] W fun e w'=>e=Y (V ⟨(Rp.word b).toArray⟩)∧w'=W):=fun W=>D6 b W;have hwz:(⟨(Rp.word b).toArray⟩:ay).size<=22:=by show(Rp.word b).toArray.size<=22;rw[bK];exact hwl
   have HWd:Hid ((⟨(Rp.word b).toArray⟩:ay).data.toList=Rp.word b):=rfl;have HNm:Hid (∀W,mg w #[I J (b:Int),Z fo l.length fV,Z bo body.length fU] 109 W->Calls prog 151 #[I J (b:Int)] W fun e w'=>e=Y (V ⟨(Ch.iV 8 b).toArray⟩)∧Below W.heap.size W w'):=fun W h=>pz b (by omega) W (HP.o.stay h.below);have Zi:Hid (∀W,mg w #[I J (b:Int),Z fo l.length fV,Z bo body.length fU] 109 W->Calls prog 151 #[I J (body.length:Int)] W fun e w'=>e=Y (V (KQ body.length).2)∧Below W.heap.size W w'):=fun W h=>pz body.length (by omega) W (HP.o.stay h.below);have hdl:=Ch.jm 8 b;have hdz:(⟨(Ch.iV 8 b).toArray⟩:ay).size<=9:=by show(Ch.iV 8 b).toArray.size<=9;rw[bK];omega
   have HDd:Hid ((⟨(Ch.iV 8 b).toArray⟩:ay).data.toList=Ch.iV 8 b):=rfl;have af5:=Ch.jm 8 body.length;have hpz:(KQ body.length).2.size<=9:=by show(Ch.iV 8 body.length).toArray.size<=9;rw[bK];omega
   have HPc:Hid (∀p∈l++[KQ body.length],p.1.size<=2000∧p.2.size<=2000):=fun p T=>by
    rcases bq.1 T with T | T
    . exact HS.o p T
    . rw[bA.1 T];exact⟨by show Wy.size<=2000;decide,by omega⟩
   have WC:Hid ((l++[KQ body.length]).length=l.length+1):=by unfold Hid;simp
   have HPV:Hid (gG (l++[KQ body.length])=gG l++[V Wy,V (KQ body.length).2]):=by unfold Hid;simp[gG,KQ]
   generalize af6:(KQ body.length).2=y at *;generalize B:l++[KQ body.length]=c at *;clear af6 B;generalize (⟨(Rp.word b).toArray⟩:ay)=wd at *;generalize (⟨(Ch.iV 8 b).toArray⟩:ay)=db at *;clear hwd hwl hdl af5;obtain⟨z,hz⟩:∃z:ay,z=⟨#[72,84,84,80,47,49,46,49,32]⟩++db++⟨#[32]⟩++wd++⟨#[13,10]⟩:=⟨_,rfl⟩;have hzs:z.size=9+db.size+1+wd.size+2:=by rw[hz];simp only[bL];rfl
   have hzd:z.data.toList=Rp.first b:=by rw[hz];simp only[Ch.data_append,HDd.o,HWd.o];rfl
   have s:=fun W=>Iw (P:=prog) W z 9 31 5 (by unfold maxLen;omega) underlying9 underlying31 underlying5;obtain⟨adJ,s⟩:=Classical.skolem.1 s;obtain⟨wF,s⟩:=Classical.skolem.1 s;have hcv:=fun W=>(s W).1;have HBf:Hid (∀W,Below W.heap.size W (wF W)∧Buf (wF W) W.heap.size W.heap.size (adJ W) (Rp.first b)):=fun W=>by have:=(s W).2;rw[hzd] at this;exact this
   obtain⟨zn,hzn⟩:∃zn,z.size=zn:=⟨_,rfl⟩;have HZl:Hid ((Rp.first b).length=zn):=by unfold Hid;rw[<-hzd,aO];exact hzn
   have hzl:zn<=60:=by omega
   rw[hzn] at hcv;rw[hz] at hcv;clear s hzs hzd hz hzn;go_enter func140,ntmps140;go_wp2_with fail
   refine S.o.mono ?_;rintro e w1 ⟨rfl,m⟩;have BZ:=H9 (H0.o.stay m);clear m H0 u x1 x2 S;obtain⟨u,x1,x2⟩:=N.o w1 BZ.o;go_upto_region 4 with fail
   go_cut [5] (fun v wc=>∃g r,v=Z (M ⟨g,0,U⟩) zn r∧Buf wc (w.heap.size+1) g r (Rp.first b)∧mg w #[I J (b:Int),Z fo l.length fV,Z bo body.length fU] 109 wc)
   case first =>
    have C:=H9 (BZ.o.stay (gy _ _));have HK2:Hid (∀W,mg w #[I J (b:Int),Z fo l.length fV,Z bo body.length fU] 109 W->(wF W).cell? ⟨w.heap.size,0,U⟩=M (I J (b:Int))):=fun W h=>(N.o _ (h.stay (HBf.o W).1)).1;have Jw:Hid (∀W,mg w #[I J (b:Int),Z fo l.length fV,Z bo body.length fU] 109 W->Buf (wF W) (w.heap.size+1) W.heap.size (adJ W) (Rp.first b)∧mg w #[I J (b:Int),Z fo l.length fV,Z bo body.length fU] 109 (wF W)):=fun W h=>by
     have t:=(HBf.o W).2;exact⟨⟨h.lt,t.lt,t.le,t.max,t.holds,t.there⟩,h.stay (HBf.o W).1⟩
    go_region_held (fun W=>W.cell? ⟨w.heap.size,0,U⟩=M (I J (b:Int))) (first | exact HK2.o _ C.o | go_keep) (first
     | (go_at_call 151;refine(HNm.o _ C.o).mono ?_;rintro e v1 ⟨rfl,m⟩;have Yu:=C.o.stay m;clear C;have C:=H9 Yu;have q0:=(N.o v1 Yu).1;clear Yu m)
     | (go_at_call 189;refine(Zl.o _).mono ?_;rintro e v1 ⟨rfl,hv1⟩;subst hv1))
    all_goals
     (try go_wp2);go_meet;obtain⟨f1,f2⟩:=Jw.o _ C.o;exact⟨_,_,rfl,f1,f2⟩
   case rest =>
    obtain⟨g,r,rfl,t,hOc⟩:=hcut;have HU:=H9 t;have HOc:=H9 hOc
    clear u x1 x2 t hOc BZ Zl HNm HBf hcv HDd HWd hwz hdz;obtain⟨u,x1,x2⟩:=N.o wc HOc.o;go_wp2_with fail
    refine(Zi.o _ HOc.o).mono ?_;rintro e w2 ⟨rfl,hb2⟩;have IJ:=H9 (HOc.o.stay hb2);have HU2:=H9 (HU.o.keep hb2)
    clear u x1 x2 hb2 HU HOc Zi;obtain⟨u,x1,x2⟩:=N.o w2 IJ.o;have hOb:=IJ.o.stay ((eY _ w2).alloc (aM _) (K #[V ⟨#[67,111,110,116,101,110,116,45,76,101,110,103,116,104]⟩,V y] 131));have hUb:=HU2.o.alloc (K #[V ⟨#[67,111,110,116,101,110,116,45,76,101,110,103,116,104]⟩,V y] 131);have y0:=prNew w2 ⟨#[67,111,110,116,101,110,116,45,76,101,110,103,116,104]⟩ y 131 rfl 0 _ rfl;have y1:=prNew w2 ⟨#[67,111,110,116,101,110,116,45,76,101,110,103,116,104]⟩ y 131 rfl 1 _ rfl;rw[fQ,aZ] at y0 y1;go_upto_region 6 with fail
    have hgw:=HU2.o.lt;have IL:Hid (g<(w2.alloc (K #[V ⟨#[67,111,110,116,101,110,116,45,76,101,110,103,116,104]⟩,V y] 131)).heap.size):=hUb.lt;clear u x1 x2 HU2 IJ hgw;generalize (w2.alloc (K #[V ⟨#[67,111,110,116,101,110,116,45,76,101,110,103,116,104]⟩,V y] 131))=j at *;generalize w2.heap.size=k2 at *;obtain⟨u,x1,x2⟩:=N.o j hOb;have HOb:=H9 hOb;have HUb:=H9 hUb
    have pK:Hid (∀W,Below j.heap.size j W->W.cell? ⟨w.heap.size,1,U⟩=M (Z fo l.length fV)∧W.cell? ⟨k2,0,U⟩=M (V ⟨#[67,111,110,116,101,110,116,45,76,101,110,103,116,104]⟩)∧W.cell? ⟨k2,1,U⟩=M (V y)):=fun W hW =>
     ⟨(hW.cell (fH j _ x1)).trans x1,(hW.cell (fH j _ y0)).trans y0,(hW.cell (fH j _ y1)).trans y1⟩
    have uU:=H9 (fun W (hW:Below j.heap.size j W)=>uN l fo fV l.length W (HV.o.stay (then_ hOb.below hW)) rfl hN);clear hOb hUb u x2;go_cut [37,38,39] (fun v37 v38 v39 wd=>∃gf zy,v37=Z (M ⟨gf,0,U⟩) (l.length+1) zy∧v38=I J ((l.length:Int)+1)∧v39=I J 0∧gH wd 0 131 2 (M ⟨gf,0,U⟩) zy (l.length+1) (gG l++[V ⟨#[67,111,110,116,101,110,116,45,76,101,110,103,116,104]⟩,V y])∧j.heap.size<=gf∧Below j.heap.size j wd)
    case first =>
     have Sq:Hid (Below j.heap.size j j.drew):=gy _ _;have Sv:Hid (Below j.heap.size j (j.alloc (K #[V ⟨#[67,111,110,116,101,110,116,45,76,101,110,103,116,104]⟩,V y] 131)).drew):=((eY _ _).alloc (aM _) _).trans (gy _ _);have WE:Hid (l.length+1<=maxLen∧(l.length+1)*32<=140737488355328):=⟨by unfold maxLen;omega,by omega⟩;have Ny:Hid (∀(W:X) (ao:ak) (cp g6:Nat),gH W j.heap.size 131 2 ao cp l.length (gG l)->∀k,j.heap.size<=k->((Value.slice ao l.length cp).ownBlock=M g6∨g6=k)->j.heap.size<=g6):=fun W ao cp g6 hO k hk h=>by
      rcases h with h | h
      . rw[gD] at h;cases ao with
        | none=>cases h
        | some a=>injection h with h;subst h;exact(hO.block a rfl).1
      . omega
     go_region_held_law (fun w'=>w'.cell? ⟨w.heap.size,1,U⟩=M (Z fo l.length fV)∧w'.cell? ⟨k2,0,U⟩=M (V ⟨#[67,111,110,116,101,110,116,45,76,101,110,103,116,104]⟩)∧w'.cell? ⟨k2,1,U⟩=M (V y)) (first | go_keep | exact HK6.o | exact HK5.o | exact HKA.o) (first
      | (refine step_append_lies _ (by rfl) _ _ _ (by rfl) 0 131 i0 (.agg #[V ⟨#[]⟩,V ⟨#[]⟩]) 2 32 underlying80 Hi.o lH.o lq.o lI.o (by rfl) (by decide) (Z yB l.length D) l.length (gG l) (by rfl) ((zi.o.mono (aA _)).alloc _) ⟨w5.heap.size,0,U⟩ 1 1 [V ⟨#[67,111,110,116,101,110,116,45,76,101,110,103,116,104]⟩,V y] (by rfl) (by rfl) (prNew _ _ _ _ rfl) (IG _ _) (by decide) WE.o.1 WE.o.2 (aA _) (w5.heap.size+1) (by simp) ?_;intro g6 cap6 w6 d f uS NU;have Yv:=H9 d;have vV:=H9 (Qn (L.o.trans ((eY _ _).alloc L.o.size _)) zi.o f (aM _));have HG6:=H9 (Ny.o _ _ _ g6 zi.o _ (Nat.le_succ_of_le L.o.size) uS);have HK6:=H9 (pK.o w6 vV.o);clear d f uS NU;(try simp only[Act.put,List.getElem_toArray,List.getElem_cons_succ,List.getElem_cons_zero,List.setIfInBounds_toArray,dS,List.set_cons_succ]))
      | (refine step_append_lies _ (by rfl) _ _ _ (by rfl) 0 131 i0 (.agg #[V ⟨#[]⟩,V ⟨#[]⟩]) 2 32 underlying80 Hi.o lH.o lq.o lI.o (by rfl) (by decide) (Z yB l.length D) l.length (gG l) (by rfl) (zi.o.mono (aA _)) ⟨j.heap.size,0,U⟩ 1 1 [V ⟨#[67,111,110,116,101,110,116,45,76,101,110,103,116,104]⟩,V y] (by rfl) (by rfl) HNB.o (IG _ _) (by decide) WE.o.1 WE.o.2 (aA _) w5.heap.size (by rfl) ?_;intro g6 cap6 w6 d f uS NU;have Yv:=H9 d;have vV:=H9 (Qn (L.o) zi.o f (aM _));have HG6:=H9 (Ny.o _ _ _ g6 zi.o _ L.o.size uS);have HK6:=H9 (pK.o w6 vV.o);clear d f uS NU;(try simp only[Act.put,List.getElem_toArray,List.getElem_cons_succ,List.getElem_cons_zero,List.setIfInBounds_toArray,dS,List.set_cons_succ]))
      | (go_at_call 190;refine(uU.o _ Sv.o).mono ?_;rintro e w5 ⟨yB,D,rfl,xC,Bt⟩;have zi:=H9 (xC.mono Sv.o.size);have L:=H9 (Sv.o.trans (Bt.mono (by simp)));have HK5:=H9 (pK.o w5 L.o);have HNB:=H9 (ady Bt);clear xC Bt)
      | (go_at_call 190;refine(uU.o _ Sq.o).mono ?_;rintro e w5 ⟨yB,D,rfl,xC,Bt⟩;have zi:=H9 (xC.mono Sq.o.size);have L:=H9 (Sq.o.trans (Bt.mono (aM _)));have HK5:=H9 (pK.o w5 L.o);have HKA:=H9 (pK.o _ (L.o.trans ((eY _ w5).alloc L.o.size (K #[V ⟨#[67,111,110,116,101,110,116,45,76,101,110,103,116,104]⟩,V y] 131))));clear xC Bt))
     all_goals (go_wp2;go_meet;exact⟨g6,cap6,rfl,rfl,rfl,Yv.o,HG6.o,vV.o⟩)
    case rest =>
     obtain⟨gf,zy,rfl,rfl,rfl,D8,hG6,WG⟩:=hcut;have hrow:jl wc (M ⟨gf,0,U⟩) zy (l.length+1) (gG c):=by rw[HPV.o];exact D8.qP
     have Kt:Hid (KS w #[I J (b:Int),Z fo l.length fV,Z bo body.length fU] 109 c (M ⟨gf,0,U⟩) zy g r (Rp.first b) wc) :=
      ⟨HOb.o.stay WG,HUb.o.keep WG,by rw[WC.o];exact hrow,fun a e=>by injection e with e;subst e;exact⟨by have:=IL.o;show gf≠g;omega,(D8.block _ rfl).2⟩⟩
     clear D8 hG6 WG hrow pK uU HOb HUb y0 y1 x1 IL;go_wp2;go_loopw [5,39] (fun vo vi wr=>∃(i n g r:Nat),i<=l.length+1∧vi=I J i∧vo=Z (M ⟨g,0,U⟩) n r∧(Rp.first b++(c.take i).flatMap Rp.jA).length=n∧(∀p∈c.take i,(Fd.text p.1.data.toList p.2.data.toList).2=0)∧KS w #[I J (b:Int),Z fo l.length fV,Z bo body.length fU] 109 c (M ⟨gf,0,U⟩) zy g r (Rp.first b++(c.take i).flatMap Rp.jA) wr) (fun _ vi _=>l.length+1-(intOf vi).toNat)
     case atStart=>exact⟨0,_,_,_,aA _,rfl,rfl,by simpa using HZl.o,fun p T=>by simp at T,by simpa using Kt.o⟩
     case round =>
      obtain⟨i,n,g,r,hi,rfl,rfl,hn,Cv,hR⟩:=hrel;have HR:=H9 hR;have WH:=H9 hn;have HZr:=H9 Cv
      have hnl:n<=200000:=by
       have h2:=Bv (c.take i) (fun p T=>HPc.o p (List.mem_of_mem_take T));have h3:(c.take i).length<=16:=by rw[bW,WC.o];omega
       rw[aV,HZl.o] at hn;omega
      clear hR Kt hn Cv;obtain⟨u,x1,x2⟩:=N.o wr HR.o.one;by_cases hlt:i<l.length+1
      . have hlt':(i:Int)<(l.length:Int)+1:=by omega
        have UC:i<c.length:=by rw[WC.o];exact hlt
        have hp1:=HR.o.row.cell (mQ c i UC).1;have hp2:=HR.o.row.cell (mQ c i UC).2;rw[fQ,aZ] at hp1 hp2;have hfc:=HR.o.row.1;rw[WC.o] at hfc;have hps:=HPc.o c[i] (aC UC);have rY:Hid (c.take (i+1)=c.take i++[c[i]]):=bM UC;have abD:Hid ((Fd.text c[i].1.data.toList c[i].2.data.toList).2≠0->Rp.code c=(Fd.text c[i].1.data.toList c[i].2.data.toList).2):=fun hc=>Rp.JQ c i UC HZr.o hc;generalize c[i]=p at *;have Ag:=H9 (KR p.1 p.2 (wr.alloc (K #[V p.1,V p.2] 131)) (by omega) (by omega));have B:=D7 p hps;have Zn:Hid (Rp.jA p=(Fd.text p.1.data.toList p.2.data.toList).1++[13,10]):=rfl;have Fg:Hid (Below wr.heap.size wr (wr.alloc (K #[V p.1,V p.2] 131))):=(eY _ _).alloc (aM _) _;unfold sM at Ag;generalize hcd:(Fd.text p.1.data.toList p.2.data.toList).2=cd at *;generalize (Fd.text p.1.data.toList p.2.data.toList).1=tx at *;have HCd:=H9 hcd;clear hps UC hcd;by_cases hc0:cd=0
        . subst hc0;have hxz:((⟨tx.toArray⟩:ay)++⟨#[13,10]⟩:ay).size=tx.length+2:=by rw[bL];rfl
          have hxd:((⟨tx.toArray⟩:ay)++⟨#[13,10]⟩:ay).data.toList=tx++[13,10]:=by rw[Ch.data_append]
          have hxl:tx.length+2<=4004:=by
           have:=Zn.o;rw[this,aV] at B;simpa using B
          have HXz:=H9 hxz;have HXd:=H9 hxd
          clear hxz hxd B;go_wp2_with fail
          refine Ag.o.mono ?_;rintro e w5 ⟨rfl,G⟩;have HR5:=H9 (HR.o.stay (Fg.o.trans (G.mono (by simp))));clear G u x1 x2 Ag;go_wp2_with (at_builtin;refine mq rfl (.tmp 51) (.tmp 53) 31 9 rfl 5 j0 underlying31 Hj.o NR.o NS.o NT.o rfl HR5.o.buf WH.o _ _ rfl (vL underlying9 _ _) (by rw[HXz.o];omega) ?_;intro g7 Fh w7 WI D9 H;have Qw:=H9 (HR5.o.grow WI D9 H);clear WI D9 H)
          go_roundw
          case rel =>
           have hlc:Rp.first b++(c.take i).flatMap Rp.jA++((⟨tx.toArray⟩:ay)++⟨#[13,10]⟩:ay).data.toList=Rp.first b++(c.take (i+1)).flatMap Rp.jA:=by
            rw[rY.o,List.flatMap_append,HXd.o,dO];congr 2;simp[Zn.o]
           refine⟨i+1,_,g7,Fh,by omega,by go_num,rfl,?_,?_,by rw[<-hlc];exact Qw.o⟩
           . rw[<-hlc,aV,WH.o,HXd.o];simp
           . intro q hq;rw[rY.o] at hq;rcases bq.1 hq with hq | hq
             . exact HZr.o q hq
             . simp at hq;subst hq;exact HCd.o
          case measure=>simp[intOf];omega
        . have tc:((cd:Int) != 0)=true:=by rw[cK];omega
          have HLb:=H9 (abD.o hc0);have NV:=H9 hc0
          clear hc0 B;go_wp2_with fail
          refine Ag.o.mono ?_;rintro e w5 ⟨rfl,G⟩;have HR5:=H9 (HR.o.stay (Fg.o.trans (G.mono (by simp))));clear G u x1 x2 Ag;go_wp2;(try simp only[Exit.inBlock,Exit.then]);go_ret2;refine .bad cd NV.o rfl ?_ HR5.o.one.below;rw[HT.o,HLb.o,if_pos NV.o]
      . obtain rfl:i=l.length+1:=by omega
        have HXe:Hid (Rp.out b l body=(Rp.first b++(c.take (l.length+1)).flatMap Rp.jA++[13,10]++body,0)):=by
         have htl:c.take (l.length+1)=c:=by rw[<-WC.o];exact bN
         have hz:=HZr.o;rw[htl] at hz;unfold Hid;rw[HT.o,Rp.Q5 c hz,if_neg (by simp),htl]
        clear HT;go_wp2_with (first
         | (at_builtin;refine mq rfl (.tmp 56) (.const (V ⟨#[13,10]⟩)) 31 9 rfl 5 j0 underlying31 Hj.o NR.o NS.o NT.o rfl HR.o.buf WH.o _ _ rfl (vL underlying9 _ _) (by show n+2<=_;omega) ?_;intro g7 Fh w7 WI D9 H;have Yw:=HR.o.grow WI D9 H;have Qw:=H9 Yw;have abF:=H9 (zQ.o.stay Yw.one.below);have z2:=(N.o w7 Yw.one).2.2;clear WI D9 H Yw)
         | (at_builtin;refine mq rfl (.tmp 58) (.tmp 60) 31 31 rfl 5 j0 underlying31 Hj.o NR.o NS.o NT.o rfl Qw.o.buf (by rw[aV,WH.o];rfl) _ _ rfl (NP underlying31 abF.o rfl) (by omega) ?_;intro g8 abG w8 hU8 hT8 hg8;have HR8:=H9 (Qw.o.grow hU8 hT8 hg8);clear hU8 hT8 hg8))
        go_ret2;have t:=HR8.o.buf;refine .ok g8 abG _ rfl ?_ (by rw[HXe.o]) (by rw[HXe.o];exact⟨by have:=t.rA;omega,t.lt,t.le,t.max,t.holds,t.there⟩) HR8.o.one.below;rw[HXe.o];show _=(Rp.first b++(c.take (l.length+1)).flatMap Rp.jA++[13,10]++body).length;rw[aV,aV,WH.o];rfl
 . have HF:=H9 (Rp.Sn (body:=body) x);have tc:(((Rp.fault st l:Nat):Int) != 0)=true:=by rw[cK];omega
   have HN0:=H9 x;generalize Rp.fault st l=fc at *;clear x;go_enter func140,ntmps140;go_wp2_with fail
   refine S.o.mono ?_;rintro e w1 ⟨rfl,m⟩;have BZ:=H9 (H0.o.stay m);clear m H0 u x1 x2;go_wp2;go_ret2;exact .bad fc HN0.o rfl HF.o BZ.o.below
theorem pF (st:Int)(w:X):Calls prog 142 #[I J st] w fun e w'=>e=Y (.agg #[I J st,Z U 0 0,Z U 0 0])∧Below w.heap.size w w':=by
 go_enter func142,ntmps142;go_wp2;refine fI (v:=.agg #[I J st,Z U 0 0,Z U 0 0]) (by simp[results,results142,go_sem]) rfl ⟨rfl,?_⟩;exact(eY _ _).alloc (aM _) _
theorem Aj {W:X}{b g:Nat}{f x1 x2:Value}(h:W.heap[b]? = M (K #[f,x1,x2] g (0,0)))(a c d:Value):
 (W.cell? ⟨b,0,U⟩=M f∧W.cell? ⟨b,1,U⟩=M x1∧W.cell? ⟨b,2,U⟩=M x2∧W.frozen? ⟨b,0,U⟩=F∧W.frozen? ⟨b,1,U⟩=F∧W.frozen? ⟨b,2,U⟩=F) ∧
 Hid ((((W.setCell ⟨b,0,U⟩ a).setCell ⟨b,1,U⟩ c).setCell ⟨b,2,U⟩ d).cell? ⟨b,0,U⟩=M a∧(((W.setCell ⟨b,0,U⟩ a).setCell ⟨b,1,U⟩ c).setCell ⟨b,2,U⟩ d).cell? ⟨b,1,U⟩=M c∧(((W.setCell ⟨b,0,U⟩ a).setCell ⟨b,1,U⟩ c).setCell ⟨b,2,U⟩ d).cell? ⟨b,2,U⟩=M d∧Turns (fun k=>k=b) W (((W.setCell ⟨b,0,U⟩ a).setCell ⟨b,1,U⟩ c).setCell ⟨b,2,U⟩ d)):=by
 have e:=fu _ b 2 _ _ d (fu _ b 1 _ _ c (fu W b 0 _ _ a h));exact⟨⟨eZ W _ 0 _ _ _ h,eZ W _ 1 _ _ _ h,eZ W _ 2 _ _ _ h,fq W _ 0 _ _ h,fq W _ 1 _ _ h,fq W _ 2 _ _ h⟩,eZ _ _ 0 _ _ _ e,eZ _ _ 1 _ _ _ e,eZ _ _ 2 _ _ _ e,gX b [a,c,d] 0 W⟩
theorem uz (k:Int)(w:X):Calls prog 37 #[I J k] w fun e w'=>e=Y (.bool (decide (0<=k)&&decide (k<4)))∧w'=w:=by
 by_cases h:0<=k
 . have t:decide (k≥0)=true:=aI h;rw[aI h,Bool.true_and];go_enter func37,ntmps37;go_wp2;go_ret;exact⟨rfl,rfl⟩
 . have t:decide (k≥0)=F:=aJ h;rw[aJ h,Bool.false_and];go_enter func37,ntmps37;go_wp2;go_ret;exact⟨rfl,rfl⟩
theorem NW (c:Nat)(w:X):Calls prog 87 #[I J (c:Int)] w fun e w'=>e=Y (.agg #[I J ((Gt.qW c).1:Int),Z U 0 0,Z U 0 0])∧Below w.heap.size w w':=by
 by_cases h:c=4
 . subst h;go_enter func87,ntmps87;go_wp2_with fail
   refine((fun W=>pF 413 W) _).mono ?_;rintro e d ⟨rfl,a⟩;obtain⟨⟨m,n,p,q,r,s⟩,f⟩:=Aj ((a.block w.heap.size (by simp)).trans (eX w _)) (I J 413) (Z U 0 0) (Z U 0 0);have b:=then_ ((eY _ w).alloc (aM _) _) a;go_wp2;generalize (((d.setCell ⟨w.heap.size,0,U⟩ _).setCell ⟨w.heap.size,1,U⟩ _).setCell ⟨w.heap.size,2,U⟩ _)=u at *;obtain⟨g,i,j,l⟩:=f.o;refine fI (v:=.agg #[I J 413,Z U 0 0,Z U 0 0]) (by simp[results,results87,go_sem,g,i,j]) rfl ⟨rfl,b.trans (l.below (fun k e=>by omega) b.size)⟩
 . have t:((c:Int)==4)=F:=aR.2 (by omega);have x:(Gt.qW c).1=400:=by unfold Gt.qW;simp[h]
   rw[x];go_enter func87,ntmps87;go_wp2_with fail
   refine((fun W=>pF 400 W) _).mono ?_;rintro e d ⟨rfl,a⟩;obtain⟨⟨m,n,p,q,r,s⟩,f⟩:=Aj ((a.block w.heap.size (by simp)).trans (eX w _)) (I J 400) (Z U 0 0) (Z U 0 0);have b:=then_ ((eY _ w).alloc (aM _) _) a;go_wp2;generalize (((d.setCell ⟨w.heap.size,0,U⟩ _).setCell ⟨w.heap.size,1,U⟩ _).setCell ⟨w.heap.size,2,U⟩ _)=u at *;obtain⟨g,i,j,l⟩:=f.o;refine fI (v:=.agg #[I J 400,Z U 0 0,Z U 0 0]) (by simp[results,results87,go_sem,g,i,j]) rfl ⟨rfl,b.trans (l.below (fun k e=>by omega) b.size)⟩
theorem jU.agf {w:X}{g gs:Nat}{v:Nat->List Value}(h:jU w g gs v){k:Nat}(a:k<4){m n a2 p q r s:Value}(t:v k=[m,n,a2,p,q,r,s]){o:Nat}(u:1+k*7=o)(b c d e f l:Value):
 jU ((((((w.setCell ⟨g,o+1,U⟩ b).setCell ⟨g,o+2,U⟩ c).setCell ⟨g,o+3,U⟩ d).setCell ⟨g,o+4,U⟩ e).setCell ⟨g,o+5,U⟩ f).setCell ⟨g,o+6,U⟩ l) g gs (upd v k [m,b,c,d,e,f,l])∧Turns (fun i=>i=g) w ((((((w.setCell ⟨g,o+1,U⟩ b).setCell ⟨g,o+2,U⟩ c).setCell ⟨g,o+3,U⟩ d).setCell ⟨g,o+4,U⟩ e).setCell ⟨g,o+5,U⟩ f).setCell ⟨g,o+6,U⟩ l):=by
 subst u;refine⟨?_,gX g [b,c,d,e,f,l] (1+k*7+1) w⟩;have:=(((((h.set a (j:=1) (by decide) b).set a (j:=2) (by decide) c).set a (j:=3) (by decide) d).set a (j:=4) (by decide) e).set a (j:=5) (by decide) f).set a (j:=6) (by decide) l;simp only[pX,iI,t] at this;exact this
theorem Ak {w:X}{g gs:Nat}{v:Nat->List Value}(h:jU w g gs v){k:Nat}(a:k<4){f:Value}{m t:ay}{mi ln:Int}{fo bo:ak}{nf fV nb fU:Nat}(b:v k=[f,V m,V t,I J mi,Z fo nf fV,I J ln,Z bo nb fU]):
 Calls prog 38 #[Q (M ⟨g,1+k*7,U⟩)] w fun e w'=>e=Y (.agg #[V m,V t,I J mi,Z fo nf fV,I J ln,Z bo nb fU])∧jU w' g gs (upd v k [f,V ⟨#[]⟩,V ⟨#[]⟩,I J 0,Z U 0 0,I J 0,Z U 0 0])∧Turns (fun i=>i=g) w w':=by
 have p:=h.at_ a (j:=1) (by decide) (u:=V m) (by rw[b];rfl);have q:=h.at_ a (j:=2) (by decide) (u:=V t) (by rw[b];rfl);have r:=h.at_ a (j:=3) (by decide) (u:=I J mi) (by rw[b];rfl);have s:=h.at_ a (j:=4) (by decide) (u:=Z fo nf fV) (by rw[b];rfl);have x:=h.at_ a (j:=5) (by decide) (u:=I J ln) (by rw[b];rfl);have y:=h.at_ a (j:=6) (by decide) (u:=Z bo nb fU) (by rw[b];rfl);have z:=h.fz (1+k*7+1);have B:=h.fz (1+k*7+2);have C:=h.fz (1+k*7+3);have D:=h.fz (1+k*7+4);have G:=h.fz (1+k*7+5);have H:=h.fz (1+k*7+6)
 have L:=h.lt;obtain⟨o,l⟩:∃o,1+k*7=o:=⟨_,rfl⟩;rw[l] at p q r s x y z B C D G H ⊢;go_enter func38,ntmps38;go_wp2;have N:=h.agf a b l (V ⟨#[]⟩) (V ⟨#[]⟩) (I J 0) (Z U 0 0) (I J 0) (Z U 0 0);change bodyPost _ _ _ _ _ (World.alloc (World.alloc (((((((w.setCell ⟨g,o+1,U⟩ (V ⟨#[]⟩)).setCell ⟨g,o+2,U⟩ (V ⟨#[]⟩)).setCell ⟨g,o+3,U⟩ (I J 0)).setCell ⟨g,o+4,U⟩ (Z U 0 0)).setCell ⟨g,o+5,U⟩ (I J 0)).setCell ⟨g,o+6,U⟩ (Z U 0 0))) _) _);have T:((((((w.setCell ⟨g,o+1,U⟩ (V ⟨#[]⟩)).setCell ⟨g,o+2,U⟩ (V ⟨#[]⟩)).setCell ⟨g,o+3,U⟩ (I J 0)).setCell ⟨g,o+4,U⟩ (Z U 0 0)).setCell ⟨g,o+5,U⟩ (I J 0)).setCell ⟨g,o+6,U⟩ (Z U 0 0)).heap.size=w.heap.size:=by simp
 generalize ((((((w.setCell ⟨g,o+1,U⟩ (V ⟨#[]⟩)).setCell ⟨g,o+2,U⟩ (V ⟨#[]⟩)).setCell ⟨g,o+3,U⟩ (I J 0)).setCell ⟨g,o+4,U⟩ (Z U 0 0)).setCell ⟨g,o+5,U⟩ (I J 0)).setCell ⟨g,o+6,U⟩ (Z U 0 0))=c at *;obtain⟨d,W⟩:=N;have n:Below c.heap.size c ((c.alloc (K #[V m,V t,I J mi,Z fo nf fV,I J ln,Z bo nb fU] 84)).alloc (K #[V m,V t,I J mi,Z fo nf fV,I J ln,Z bo nb fU] 84)):=then_ ((eY _ _).alloc (aM _) _) ((eY _ _).alloc (aM _) _);refine fI (v:=.agg #[V m,V t,I J mi,Z fo nf fV,I J ln,Z bo nb fU]) (by rw[<-T];simp[results,results38,go_sem]) rfl ⟨rfl,⟨(n.block g d.lt).trans d.row,d.seven⟩,W.trans (Turns.of_below (S:=fun _=>False) n) (fun _ e _=>e.elim)⟩
theorem Bw (w:X):Calls prog 39 #[] w fun e w'=>∃gp,e=Y (.agg #[Q (M ⟨gp,0,U⟩),V ⟨#[]⟩,V ⟨#[]⟩,I J 0,Z U 0 0,I J 0,Z U 0 0])∧jq w' (fun k=>w.heap.size<=k) gp Rq.start∧Below w.heap.size w w':=by
 go_enter func39,ntmps39;go_wp2_with fail
 refine((fun W=>Nl W) _).mono ?_;rintro e b ⟨gp,rfl,s,d⟩;have a:=(d.block w.heap.size (by simp)).trans (eX w _);have x:=eZ b _ 0 _ _ _ a;have y:=eZ b _ 1 _ _ _ a;have z:=eZ b _ 2 _ _ _ a;have B:=eZ b _ 3 _ _ _ a;have C:=eZ b _ 4 _ _ _ a;have D:=eZ b _ 5 _ _ _ a;have G:=eZ b _ 6 _ _ _ a
 have H:=fun j=>fq b _ j _ _ a;have f:=then_ ((eY _ w).alloc (aM _) _) d;have t:jq b (fun k=>w.heap.size+1<=k) gp Rq.start:=s.mono (fun k _ e=>by rw[fG] at e;exact e);have u:=H9 a;go_wp2;have g:Turns (fun k=>k=w.heap.size) b (((((((b.setCell ⟨w.heap.size,0,U⟩ (Q (M ⟨gp,0,U⟩))).setCell ⟨w.heap.size,1,U⟩ (V ⟨#[]⟩)).setCell ⟨w.heap.size,2,U⟩ (V ⟨#[]⟩)).setCell ⟨w.heap.size,3,U⟩ (I J 0)).setCell ⟨w.heap.size,4,U⟩ (Z U 0 0)).setCell ⟨w.heap.size,5,U⟩ (I J 0)).setCell ⟨w.heap.size,6,U⟩ (Z U 0 0)):=gX w.heap.size [Q (M ⟨gp,0,U⟩),V ⟨#[]⟩,V ⟨#[]⟩,I J 0,Z U 0 0,I J 0,Z U 0 0] 0 b;have a:=fu _ _ 6 _ _ (Z U 0 0) (fu _ _ 5 _ _ (I J 0) (fu _ _ 4 _ _ (Z U 0 0) (fu _ _ 3 _ _ (I J 0) (fu _ _ 2 _ _ (V ⟨#[]⟩) (fu _ _ 1 _ _ (V ⟨#[]⟩) (fu b w.heap.size 0 _ _ (Q (M ⟨gp,0,U⟩)) u.o))))));generalize (((((((b.setCell ⟨w.heap.size,0,U⟩ (Q (M ⟨gp,0,U⟩))).setCell ⟨w.heap.size,1,U⟩ (V ⟨#[]⟩)).setCell ⟨w.heap.size,2,U⟩ (V ⟨#[]⟩)).setCell ⟨w.heap.size,3,U⟩ (I J 0)).setCell ⟨w.heap.size,4,U⟩ (Z U 0 0)).setCell ⟨w.heap.size,5,U⟩ (I J 0)).setCell ⟨w.heap.size,6,U⟩ (Z U 0 0))=c at *;have i:=eZ c _ 0 _ _ _ a;have l:=eZ c _ 1 _ _ _ a;have m:=eZ c _ 2 _ _ _ a;have n:=eZ c _ 3 _ _ _ a;have p:=eZ c _ 4 _ _ _ a;have q:=eZ c _ 5 _ _ _ a;have r:=eZ c _ 6 _ _ _ a
 simp at i l m n p q r;refine fI (v:=.agg #[Q (M ⟨gp,0,U⟩),V ⟨#[]⟩,V ⟨#[]⟩,I J 0,Z U 0 0,I J 0,Z U 0 0]) (by simp[results,results39,go_sem,i,l,m,n,p,q,r]) rfl ⟨gp,rfl,?_,f.trans (g.below (fun k e=>by omega) f.size)⟩;exact(t.turns g (fun k e L=>by omega)).mono (fun k _ e=>by omega)
theorem KT (m t:ay)(mi ln:Int)(fo bo:ak)(nf fV nb fU:Nat)(w:X)(b:t.size<=100000):Calls prog 40 #[.agg #[V m,V t,I J mi,Z fo nf fV,I J ln,Z bo nb fU]] w fun e w'=>e=Y (.bool (decide (m=Gt.Dh)&&Gt.yQ t))∧Below w.heap.size w w':=by
 have a:=(eY _ w).alloc (aM _) (K #[V m,V t,I J mi,Z fo nf fV,I J ln,Z bo nb fU] 84);by_cases h:m=Gt.Dh
 . have c:(m.toList==[80,65,84,67,72])=true:=by rw[aS,Lib.toList_data,h];rfl
   rw[aI h,Bool.true_and];clear h;go_enter func40,ntmps40;go_wp2_with fail
   refine((fun W=>Bu t W b) _).mono ?_;rintro e f ⟨rfl,d⟩;subst d;go_wp2;go_ret;exact⟨rfl,a⟩
 . have c:(m.toList==[80,65,84,67,72])=F:=by
    rw[aR,Lib.toList_data];intro e;exact h (by rw[ByteArray.ext_iff,<-eU,e];rfl)
   rw[aJ h,Bool.false_and];go_enter func40,ntmps40;go_wp2;go_ret;exact⟨rfl,a⟩
structure adR (w:X)(l:av)(e:Ending)(w':X):Prop where
 ret:∃(ao:ak) (cap n:Nat),e=Y (Z ao n cap)∧n=l.length∧gN w' ao cap l
 qL:Below w.heap.size w w'
theorem Gz (w:X)(r:Gt.yx)(fo bo:ak)(nf fV nb fU:Nat)(b:Gt.Small r)(d:r.2.1.length=nf)(m:jl w fo fV nf (gG r.2.1))(p:r.2.2.length=nb)(s:gN w bo fU r.2.2)(t:kC w):
 Calls prog 85 #[.agg #[I J (r.1:Int),Z fo nf fV,Z bo nb fU]] w fun e w'=>adR w (Gt.textOf r) e w':=by
 subst d;have a:=(eY _ w).alloc (aM _) (K #[I J (r.1:Int),Z fo r.2.1.length fV,Z bo nb fU] 109);have z:=b.few;have B:=b.body
 have u:=NQ _ (r.1:Int) r.2.1 fo bo fV fU nb r.2.2 (m.stay a) (by omega) b.fields p (s.stay a) (by omega) (t.stay a);have l:=H9 a;have v:Gt.textOf r=(Rp.out (r.1:Int) r.2.1 r.2.2).1:=rfl;rw[v];generalize Rp.out (r.1:Int) r.2.1 r.2.2=q at *;go_enter func85,ntmps85;go_wp2_with fail
 refine u.mono ?_;rintro e C x;cases x with
 | bad c D f i a =>
   subst f;have j:=H9 (then_ l.o a);go_wp2;go_ret;refine⟨⟨U,0,0,rfl,by rw[i];rfl,by rw[i];exact gN.nil _⟩,j.o⟩
 | ok g k n f d i y a =>
   subst f;subst d;have j:=H9 (then_ l.o a);go_wp2;go_ret;exact⟨⟨_,k,_,rfl,rfl,y.tN⟩,j.o⟩
theorem WT (a:ay)(l:au):Fd.one (Fd.vals a l)=Tu.one (Tu.vals a l):=by
 show Fd.one (Tu.vals a l)=_;match Tu.vals a l with
 | []=>rfl
 | [_]=>rfl
 | _::_::_=>rfl
theorem Ed {w:X}{l:au}{fo:ak}{fV nf:Nat}(h:pE w l fo fV nf):
 Calls prog 192 #[Z fo nf fV] w fun e w'=>e=Y (.tuple #[V ((Gt.bound l).elim ⟨#[]⟩ Gt.txt),.bool (Gt.bound l).isSome])∧Below w.heap.size w w':=by
 have k:=H9 (sS l Tu.fCT fo fV nf w h.is h.len (by have:=h.few;omega) h.small (by decide));have hz:=h.val Tu.Mt;rw[WT,Tu.DV] at k;unfold Tu.fCT at k;obtain⟨B,d⟩:∃B,B=Gt.bound l:=⟨_,rfl⟩;rw[<-d];unfold Gt.bound at d;generalize Tu.one (Tu.vals Tu.Mt l)=r at *;obtain⟨v,c⟩:=r;simp only[sM] at hz k d;by_cases hc:c=0
 . subst hc;rw[if_neg (by simp)] at d;have m:=H9 d;have HP:Hid (∀W,Calls prog 225 #[V ⟨v.toArray⟩] W fun e w'=>uy W (Pm.jK v) e w'):=fun W=>by
    have:=xY ⟨v.toArray⟩ W (by show v.toArray.size<=_;rw[bK];omega);rw[show(⟨v.toArray⟩:ay).data.toList=v from by simp] at this;exact this
   go_enter func192,ntmps192;go_wp2_with fail
   refine k.o.mono ?_;rintro e w1 ⟨rfl,f⟩;have G:=H9 f;go_wp2_with fail
   refine(HP.o _).mono ?_;rintro e H ⟨word,b,ao,n,code,rfl,z,s,L⟩;have g:Below H.heap.size H (H.alloc (K #[V word,Z ao b.length n] 206)):=(eY _ _).alloc (aM _) _;have a:=H9 (then_ (then_ G.o L) g);cases C:Pm.jK v with
   | inl c2 =>
     rw[C] at z m;obtain⟨rfl,rfl,rfl⟩:=z;obtain rfl:B=U:=m.o;by_cases h0:code=0
     . subst h0;go_wp2;go_ret2;exact⟨rfl,a.o⟩
     . have t0:((code:Int) != 0)=true:=by rw[cK];omega
       go_wp2;go_ret2;exact⟨rfl,a.o⟩
   | inr x =>
     obtain⟨N,qs⟩:=x;rw[C] at z m;obtain⟨rfl,i,t⟩:=z;simp only at i t;have kY:=Fm.GD C;have u:=Pm.zZ C;subst t;have hn8:b.length<=8:=by rw[<-rF];exact kY
     have S:∀p∈b,p.2.size<=1000000:=fun p hp=>by
      have h2:=(u.2 (p.1.data.toList,p.2.data.toList) (aN.2 ⟨p,hp,rfl⟩)).2;rw[Ch.iK] at h2;omega
     obtain⟨T,j⟩:∃T,b.length=T:=⟨_,rfl⟩;rw[j] at s g a;have HG:=zB word b ⟨#[98,111,117,110,100,97,114,121]⟩ ao n T _ (s.qP.stay g) j (by omega) S;have HGl:=Ea ⟨#[98,111,117,110,100,97,114,121]⟩ b;rw[j];by_cases D:N=Gt.P9
     . have tw:(word.toList==[109,117,108,116,105,112,97,114,116,47,102,111,114,109,45,100,97,116,97])=true:=by rw[aS,Lib.toList_data,i,D];rfl
       have hBq:B=(kQ ⟨#[98,111,117,110,100,97,114,121]⟩ b).map (fun x=>x.data.toList):=by
        rw[HGl,m.o];show(if N≠Gt.P9 then U else Fm.get Gt.M5 (lC b))=_;rw[if_neg (by simp[D])];rfl
       generalize kQ ⟨#[98,111,117,110,100,97,114,121]⟩ b=q at *;go_wp2_with fail
       refine HG.mono ?_;rintro e w3 ⟨rfl,hb3⟩;have HB3:=then_ a.o hb3;go_wp2;go_ret2;refine⟨?_,HB3⟩;rw[hBq];cases q with
       | none=>rfl
       | some y=>simp[Gt.txt]
     . have tw:(word.toList==[109,117,108,116,105,112,97,114,116,47,102,111,114,109,45,100,97,116,97])=F:=by
        rw[aR,Lib.toList_data,i];exact D
       obtain rfl:B=U:=by
        rw[m.o];show(if N≠Gt.P9 then U else Fm.get Gt.M5 (lC b))=_;rw[if_pos D]
       go_wp2;go_ret2;exact⟨rfl,a.o⟩
 . have t0:((c:Int) != 0)=true:=by rw[cK];omega
   rw[if_pos hc] at d;subst d;go_enter func192,ntmps192;go_wp2_with fail
   refine k.o.mono ?_;rintro e w1 ⟨rfl,f⟩;go_wp2;go_ret2;exact⟨rfl,f⟩
theorem SI (a:List Fm.Pt)(k:Nat)(b:k<a.length):Gt.room (a.take (k+1))=Gt.room (a.take k)+(a[k].bytes.length+200):=by
 unfold Gt.room;rw[bM b,bE,List.sum_append];simp
theorem room_le (a:List Fm.Pt)(k:Nat):Gt.room (a.take k)<=Gt.room a:=by
 unfold Gt.room;conv=>rhs;rw[<-bV k a,bE,List.sum_append]
 omega
theorem Oe {w:X}{ao:ak}{cap n:Nat}{a:List Fm.Pt}(h:Ec w ao cap a)(r:a.length=n)(G:Gt.room a<=1000000000):
 Calls prog 194 #[Z ao n cap] w fun e w'=>e=Y (I J (Gt.room a:Int))∧Below w.heap.size w w':=by
 subst r;have u:=H9 h;have m:a.length<=cap:=by obtain⟨_,_,v,_⟩:=h;exact v.1
 have H:a.length<=10000000:=by
  have x:∀l:List Fm.Pt,l.length*200<=Gt.room l:=fun l=>by
   induction l with
   | nil=>simp[Gt.room]
   | cons p t L=>unfold Gt.room at *;simp at *;omega
  have:=x a;omega
 go_enter func194,ntmps194;go_wp2;go_loopw [3,8] (fun y f wr=>∃i:Nat,i<=a.length∧f=I J i∧y=I J (Gt.room (a.take i):Int)∧Below w.heap.size w wr) (fun _ f _=>a.length-(intOf f).toNat)
 case atStart=>exact⟨0,aA _,rfl,rfl,eY _ _⟩
 case round =>
  obtain⟨i,N,rfl,rfl,g⟩:=hrel;by_cases d:i<a.length
  . have q:(i:Int)<a.length:=by omega
    obtain⟨b,o,s,rfl,S,T,W,z,B⟩:=(u.o.stay g).at_ i d;have j:=SI a i d;have C:=room_le a i;have c:=room_le a (i+1);rw[j] at c;obtain⟨nb,k⟩:∃nb,a[i].bytes.length=nb:=⟨_,rfl⟩;rw[k] at z j c;have D:=then_ g ((eY _ wr).alloc (aM _) (K #[V a[i].name,V a[i].file,V a[i].type,Z s.bo nb s.fU] 96));generalize a[i]=p at *;go_wp2;go_roundw
    case rel=>exact⟨i+1,by omega,by go_num,by rw[j];go_num,D⟩
    case measure=>simp[intOf];omega
  . obtain rfl:i=a.length:=by omega
    go_wp2;go_ret;refine⟨?_,g⟩;rw[bN];rfl
inductive Ot
 | row
 | iX
 | ids
 | list
 | box
 | out
def qR (l:List Int):List Value:=l.map fun i=>Value.int J i
def Ou (io:ak)(gM:Nat)(ids:List Int):Ob:=fun w S=>gH w 0 3 1 io gM ids.length (qR ids)∧∀a,io=M a->S a.block
theorem Ou.law (c:ak)(d:Nat)(ids:List Int):kD (Ou c d ids):=⟨fun h f b=>⟨h.1.turns f (fun a e=>b _ (h.2 a e)),h.2⟩,fun h b=>⟨h.1,fun a e=>b _ (h.1.block a e).2 (h.2 a e)⟩⟩
def vZ (g:Nat)(o:Obj):Ob:=fun w S=>w.heap[g]? = M o∧S g
theorem vZ.law (g:Nat)(o:Obj):kD (vZ g o):=⟨fun h b a=>⟨b.row h.1 (a g h.2),h.2⟩,fun h a=>⟨h.1,a g (aL.1 h.1).1 h.2⟩⟩
def Yz (gs:Nat)(io:ak)(ni gM:Nat)(lo:ak)(nl iB:Nat):Obj:=K #[Q (M ⟨gs,0,U⟩),Z io ni gM,Z lo nl iB] 252 (0,0)
def El (L gs:Nat)(s:Sr.Sh)(o:Obj)(io:ak)(gM:Nat)(ids:List Int)(lo:ak)(iB:Nat)(told:av)(b u:Ob):Ot->Ob
 | .row=>vZ L o
 | .iX=>fun w S=>gV w S gs s
 | .ids=>Ou io gM ids
 | .list=>uT lo iB told
 | .box=>b
 | .out=>u
theorem rJ {L gs:Nat}{s:Sr.Sh}{o:Obj}{e:ak}{f:Nat}{ids:List Int}{g:ak}{i:Nat}{a:av}{b u:Ob}(j:kD b)(k:kD u):∀d,kD (El L gs s o e f ids g i a b u d)
 | .row=>vZ.law _ _
 | .iX=>⟨fun h l c=>gV.turns h l c,fun h c=>gV.mono h c⟩
 | .ids=>Ou.law _ _ _
 | .list=>uT.law _ _ _
 | .box=>j
 | .out=>k
def lN (w:X)(S:Nat->Prop)(L gs:Nat)(s:Sr.Sh)(ids:List Int)(told:av):Prop :=
 ∃(κ:Nat->Ot) (io:ak) (gM:Nat) (lo:ak) (iB:Nat),Held (El L gs s (Yz gs io ids.length gM lo told.length iB) io gM ids lo iB told zR zR) κ w∧∀k,κ k≠.out->S k
section
variable {w w' w0:X} {S S' D:Nat->Prop} {L gs:Nat} {s:Sr.Sh} {ids:List Int} {told:av}
theorem lN.turns (h:lN w S L gs s ids told)(c:Turns S' w w')(f:∀k,S k->¬S' k):lN w' S L gs s ids told:=by
 obtain⟨g,i,j,l,m,n,a⟩:=h;refine⟨g,i,j,l,m,fun d=>?_,a⟩;by_cases b:d=.out
 . subst b;exact trivial
 . exact(rJ kD.ku kD.ku d).turns (n d) c (fun k e=>f k (a k (by rw[e];exact b)))
theorem lN.stay (h:lN w S L gs s ids told)(a:Below w.heap.size w w'):lN w' S L gs s ids told:=h.turns (Turns.of_below (S:=fun _=>False) a) (fun _ _ e=>e)
theorem wm {κ:Nat->Ot}{c:Ot}(a:∀k,κ k≠.out->gB S w k){n:Nat}(b:w.heap.size<=n):∀k,iC κ n c k≠.out->gB S w k:=by intro l;induction l <;> grind [gB,iC]
section
variable {κ:Nat->Ot} {o:Obj} {io:ak} {gM:Nat} {lo:ak} {iB:Nat} {b u:Ob}
theorem IZ (f:kD b)(g:kD u)(h:Held (El L gs s o io gM ids lo iB told b u) κ w){a:Sr.Sh}(i:gV w' (gB (fun k=>κ k=.iX) w) gs a)(j:Turns (fun k=>κ k=.iX) w w'):Held (El L gs a o io gM ids lo iB told b u) (iC κ w.heap.size .iX) w' :=
 h.act (rJ f g) j (fun _ e=>e) (X':=El L gs a o io gM ids lo iB told b u) ⟨fun h l c=>gV.turns h l c,fun h c=>gV.mono h c⟩ i (fun _ e=>e) (fun d m=>by cases d <;> first | rfl | exact absurd rfl m)
theorem Xe (a:kD b)(c:kD u)(h:Held (El L gs s o io gM ids lo iB told b u) κ w){o':Obj}(f:w'.heap[L]? = M o')(g:Turns (fun k=>k=L) w w'):Held (El L gs s o' io gM ids lo iB told b u) (iC κ w.heap.size .row) w' :=
 h.act (rJ a c) g (fun k e=>by rw[e];exact(h .row).2) (X':=El L gs s o' io gM ids lo iB told b u) (vZ.law _ _) (N:=fun k=>k=L) ⟨f,rfl⟩ (fun k e=>A (by rw[e];exact(h .row).2)) (fun d i=>by cases d <;> first | rfl | exact absurd rfl i)
theorem abN (l:kD b)(m:kD u)(h:Held (El L gs s o io gM ids lo iB told b u) κ w){f:ak}{g:Nat}{Lg:List Int}(n:gH w' 0 3 1 f g Lg.length (qR Lg))(p:w.grownBy w' (fZ io))(i:∀j,fZ f=M j->fZ io=M j∨w.heap.size<=j):Held (El L gs s o f g Lg lo iB told b u) (iC κ w.heap.size .ids) w':=by
 have c:∀k,fZ io=M k->κ k=.ids:=fun k e=>by
  cases io with
  | none=>cases e
  | some a=>injection e with e;rw[<-e];exact(h .ids).2 a rfl
 refine h.act (rJ l m) (Turns.iM (S:=fun k=>fZ io=M k) p (fun k e=>e)) c (X':=El L gs s o f g Lg lo iB told b u) (Ou.law _ _ _) (N:=fun k=>fZ io=M k∨w.heap.size<=k) ⟨n,fun a e=>i a.block (by rw[e];rfl)⟩ (fun k e=>?_) (fun d q=>by cases d <;> first | rfl | exact absurd rfl q);rcases e with e | e
 . exact A (c k e)
 . exact R e
theorem Zt (g:kD b)(i:kD u)(h:Held (El L gs s o io gM ids lo iB told b u) κ w){c:ak}{f:Nat}{a:av}(j:uT c f a w' (gB (fun k=>κ k=.list) w))(l:Turns (fun k=>κ k=.list) w w'):Held (El L gs s o io gM ids c f a b u) (iC κ w.heap.size .list) w' :=
 h.act (rJ g i) l (fun _ e=>e) (X':=El L gs s o io gM ids c f a b u) (uT.law _ _ _) j (fun _ e=>e) (fun d m=>by cases d <;> first | rfl | exact absurd rfl m)
theorem abO (a:kD b)(c:kD u)(h:Held (El L gs s o io gM ids lo iB told b u) κ w)(z:Obj):Held (El L gs s o io gM ids lo iB told (vZ w.heap.size z) u) (iC κ w.heap.size .box) (w.alloc z) :=
 h.act (rJ a c) (Turns.of_below (S:=fun _=>False) ((eY _ w).alloc (aM _) z)) (fun _ e=>e.elim) (X':=El L gs s o io gM ids lo iB told (vZ w.heap.size z) u) (vZ.law _ _) (N:=fun k=>w.heap.size<=k) ⟨eX w z,aM _⟩ (fun k e=>R e) (fun d f=>by cases d <;> first | rfl | exact absurd rfl f)
theorem Zu (h:Held (El L gs s o io gM ids lo iB told b u) κ w):Held (El L gs s o io gM ids lo iB told zR zR) κ w
 | .row=>h .row
 | .iX=>h .iX
 | .ids=>h .ids
 | .list=>h .list
 | .box=>trivial
 | .out=>trivial
end
end
def Xf (bo:ak)(fU:Nat)(l:av):Ob:=fun w S=>jH w S bo fU l
theorem Xf.law (bo:ak)(fU:Nat)(l:av):kD (Xf bo fU l):=⟨fun h b a=>jH.turns h b a,fun h a=>jH.mono h a⟩
structure lD (w:X)(S:Nat->Prop)(L gs n:Nat)(z:Obj)(bo:ak)(fU:Nat)(l:av)(s:Sr.Sh)(io:ak)(gM:Nat)(ids:List Int)(lo:ak)(iB:Nat)(told:av)(W:X):Prop where
 held:∃κ,Held (El L gs s (Yz gs io ids.length gM lo told.length iB) io gM ids lo iB told (vZ n z) (Xf bo fU l)) κ W∧∀k,κ k≠.out->gB S w k
 turns:Turns S w W
section
variable {w W W':X} {S D:Nat->Prop} {L gs n:Nat} {z:Obj} {bo:ak} {fU:Nat} {l:av} {s:Sr.Sh} {io:ak} {gM:Nat} {ids:List Int} {lo:ak} {iB:Nat} {told:av}
theorem lD.start {κ:Nat->Ot}(h:Held (El L gs s (Yz gs io ids.length gM lo told.length iB) io gM ids lo iB told zR zR) κ w)(a:∀k,κ k≠.out->S k)(b:jH w D bo fU l)(c:∀k,D k->¬S k)(z:Obj):lD w S L gs w.heap.size z bo fU l s io gM ids lo iB told (w.alloc z):=by
 have d:Held (El L gs s (Yz gs io ids.length gM lo told.length iB) io gM ids lo iB told zR (Xf bo fU l)) κ w
  | .row=>h .row
  | .iX=>h .iX
  | .ids=>h .ids
  | .list=>h .list
  | .box=>trivial
  | .out=>jH.mono b (fun k _ e=>dW (fun f=>c k e (a k f)))
 exact⟨⟨_,abO kD.ku (Xf.law _ _ _) d z,wm (fun k e=>A (a k e)) (aM _)⟩,Turns.of_below ((eY _ w).alloc (aM _) z)⟩
theorem lD.stay (h:lD w S L gs n z bo fU l s io gM ids lo iB told W)(a:Below W.heap.size W W'):lD w S L gs n z bo fU l s io gM ids lo iB told W':=by
 obtain⟨⟨b,c,d⟩,f⟩:=h;exact⟨⟨b,c.stay (rJ (vZ.law _ _) (Xf.law _ _ _)) a,d⟩,f.trans (Turns.of_below (S:=fun _=>False) a) (fun _ e _=>e.elim)⟩
theorem lD.row (h:lD w S L gs n z bo fU l s io gM ids lo iB told W):W.heap[L]? = M (Yz gs io ids.length gM lo told.length iB):=by
 obtain⟨⟨b,a,c⟩,d⟩:=h;exact(a .row).1
theorem lD.box (h:lD w S L gs n z bo fU l s io gM ids lo iB told W):W.heap[n]? = M z:=by
 obtain⟨⟨b,a,c⟩,d⟩:=h;exact(a .box).1
theorem lD.bytes (h:lD w S L gs n z bo fU l s io gM ids lo iB told W):gN W bo fU l:=by
 obtain⟨⟨b,a,c⟩,d⟩:=h;exact jH.is (a .out)
theorem lD.ints (h:lD w S L gs n z bo fU l s io gM ids lo iB told W):gH W 0 3 1 io gM ids.length (qR ids):=by
 obtain⟨⟨b,a,c⟩,d⟩:=h;exact(a .ids).1
theorem lD.done (h:lD w S L gs n z bo fU l s io gM ids lo iB told W):lN W (gB S w) L gs s ids told∧Turns S w W:=by
 obtain⟨⟨a,b,c⟩,d⟩:=h;exact⟨⟨a,io,gM,lo,iB,Zu b,c⟩,d⟩
theorem lD.did (h:lD w S L gs n z bo fU l s io gM ids lo iB told W):∃Sh:Nat->Prop,gV W Sh gs s∧(∀{a:Sr.Sh} {w':X},gV w' (gB Sh W) gs a->Turns Sh W w'->lD w S L gs n z bo fU l a io gM ids lo iB told w'):=by
 obtain⟨⟨g,b,c⟩,d⟩:=h;refine⟨fun k=>g k=.iX,b .iX,fun i f=>⟨⟨_,IZ (vZ.law _ _) (Xf.law _ _ _) b i f,wm c d.size⟩,d.trans f (fun k e j=>?_)⟩⟩;rcases c k (by rw[e];intro h;cases h) with h | h
 . exact h
 . omega
theorem lD.create (h:lD w S L gs n z bo fU l s io gM ids lo iB told W)(ok:Sr.Ok s)(a:Int)(m:ay)(c:m.size<=1000000):
 Calls prog 170 #[Q (M ⟨gs,0,U⟩),I J a,V m] W fun e w'=>e=Y (.tuple #[I J (Sr.CR s (Sr.create s a m).2),I J ((Sr.create s a m).2:Int)])∧lD w S L gs n z bo fU l (Sr.create s a m).1 io gM ids lo iB told w':=by
 obtain⟨Sh,d,f⟩:=h.did;exact(zF d ok a m c).mono (fun e w' b=>⟨b.ret,f b.at_ b.turns⟩)
theorem lD.append (h:lD w S L gs n z bo fU l s io gM ids lo iB told W)(ok:Sr.Ok s)(b a:Int){c:Nat}(f:l.length=c)(g:c<=1000000):
 Calls prog 178 #[Q (M ⟨gs,0,U⟩),I J b,I J a,Z bo c fU] W fun e w'=>e=Y (I J ((Sr.append s b a l).2:Int))∧lD w S L gs n z bo fU l (Sr.append s b a l).1 io gM ids lo iB told w':=by
 obtain⟨Sh,i,j⟩:=h.did;exact(qh i ok b a bo c fU l h.bytes f g).mono (fun e w' d=>⟨d.ret,j d.at_ d.turns⟩)
theorem lD.drop (h:lD w S L gs n z bo fU l s io gM ids lo iB told W)(ok:Sr.Ok s)(a:Int):
 Calls prog 180 #[Q (M ⟨gs,0,U⟩),I J a] W fun e w'=>e=Y (I J ((Sr.drop s a).2:Int))∧lD w S L gs n z bo fU l (Sr.drop s a).1 io gM ids lo iB told w':=by
 obtain⟨Sh,c,d⟩:=h.did;exact(yh c ok a).mono (fun e w' b=>⟨b.ret,d b.at_ b.turns⟩)
theorem lD.grown (h:lD w S L gs n z bo fU l s io gM ids lo iB told W){b:ak}{c:Nat}{i:Int}(u:gH W' 0 3 1 b c (ids.length+1) (qR ids++[I J i]))(d:W.grownBy W' (fZ io))(f:∀j,fZ b=M j->fZ io=M j∨W.heap.size<=j):
 (W'.heap[L]? = M (Yz gs io ids.length gM lo told.length iB))∧lD w S L gs n z bo fU l s b c (ids++[i]) lo iB told (W'.setCell ⟨L,1,U⟩ (Z b (ids.length+1) c)):=by
 obtain⟨⟨v,g,m⟩,o⟩:=h;have q:=abN (vZ.law _ _) (Xf.law _ _ _) g (Lg:=ids++[i]) (by rw[aV];simpa[qR] using u) d f;have x:=d.size;have r:=(q .row).1;have t:Turns (fun k=>k=L) W' (W'.setCell ⟨L,1,U⟩ (Z b (ids.length+1) c)):=Turns.setCell _ _ _ _ rfl;have y:=Xe (vZ.law _ _) (Xf.law _ _ _) q (o':=Yz gs b (ids.length+1) c lo told.length iB) (fu W' L 1 _ _ _ r) t;have B:=(g .row).2;refine⟨r,⟨⟨iC (iC v W.heap.size .ids) W'.heap.size .row,?_,wm (wm m o.size) (dB o.size x)⟩,(o.trans (Turns.iM (S:=fun k=>fZ io=M k) d (fun k e=>e)) (fun k e p=>?_)).trans t (fun k e p=>?_)⟩⟩
 . rw[aV];exact y
 . cases io with
   | none=>cases e
   | some a =>
     injection e with e;rw[<-e];rw[<-e] at p;rcases m a.block (by rw[(g .ids).2 a rfl];intro h;cases h) with h | h
     . exact h
     . omega
 . rw[e];rw[e] at p;rcases m L (by rw[B];intro h;cases h) with h | h
   . exact h
   . omega
theorem lD.listed (h:lD w S L gs n z bo fU l s io gM ids lo iB told W):∃f:Nat->Prop,uT lo iB told W f∧∀(a:ak) (c m:Nat) (d:av) (W':X),told.length+d.length=m->uT a c (told++d) W' (gB f W)->Turns f W W' ->
 (W'.heap[L]? = M (Yz gs io ids.length gM lo told.length iB))∧lD w S L gs n z bo fU l s io gM ids a c (told++d) (W'.setCell ⟨L,2,U⟩ (Z a m c)):=by
 obtain⟨⟨o,g,i⟩,j⟩:=h;refine⟨fun k=>o k=.list,g .list,fun a c m d W' u v b=>?_⟩;have p:=Zt (vZ.law _ _) (Xf.law _ _ _) g v b;have x:=b.size;have q:=(p .row).1;have r:Turns (fun k=>k=L) W' (W'.setCell ⟨L,2,U⟩ (Z a m c)):=Turns.setCell _ _ _ _ rfl;have y:=Xe (vZ.law _ _) (Xf.law _ _ _) p (o':=Yz gs io ids.length gM a m c) (fu W' L 2 _ _ _ q) r;have B:=(g .row).2;refine⟨q,⟨⟨iC (iC o W.heap.size .list) W'.heap.size .row,?_,wm (wm i j.size) (dB j.size x)⟩,(j.trans b (fun k e t=>?_)).trans r (fun k e t=>?_)⟩⟩
 . rw[aV,u];exact y
 . rcases i k (by rw[e];intro h;cases h) with h | h
   . exact h
   . omega
 . rw[e];rw[e] at t;rcases i L (by rw[B];intro h;cases h) with h | h
   . exact h
   . omega
end
section
variable {w w0:X} {S D:Nat->Prop} {L gs:Nat}
theorem Xg (p:vY w0 w S)(r:Gt.Ld)(h:lN w S L gs r.s r.ids r.told)(ok:Sr.Ok r.s)(q:Fm.Pt){bo:ak}{fU nb:Nat}(hB:jH w D bo fU q.bytes)(hD:∀k,D k->¬S k)(hn:q.bytes.length=nb)(hnb:nb<=1000000)(hf:q.file.size<=900000)(hi:r.ids.length<=1000)(ht:r.told.length<=1000000):
 Calls prog 245 #[Q (M ⟨L,0,U⟩),.agg #[V q.name,V q.file,V q.type,Z bo nb fU]] w fun e w'=>e=Y (I J ((Gt.oI r q).code:Int))∧lN w' (gB S w) L gs (Gt.oI r q).s (Gt.oI r q).ids (Gt.oI r q).told∧Turns S w w':=by
 obtain⟨κ,io,gM,lo,iB,hH,hS⟩:=h;have G1:=lD.start hH hS hB hD (K #[V q.name,V q.file,V q.type,Z bo nb fU] 96 (0,0));have i:Hid (∀{s:Sr.Sh} {io:ak} {gM:Nat} {ids:List Int} {lo:ak} {iB:Nat} {l:av} {W:X},lD w S L gs w.heap.size (K #[V q.name,V q.file,V q.type,Z bo nb fU] 96 (0,0)) bo fU q.bytes s io gM ids lo iB l W->((W.cell? ⟨L,0,U⟩=M (Q (M ⟨gs,0,U⟩))∧W.cell? ⟨L,1,U⟩=M (Z io ids.length gM)∧W.cell? ⟨L,2,U⟩=M (Z lo l.length iB))∧(W.frozen? ⟨L,0,U⟩=F∧W.frozen? ⟨L,1,U⟩=F∧W.frozen? ⟨L,2,U⟩=F))∧(W.cell? ⟨w.heap.size,1,U⟩=M (V q.file)∧W.cell? ⟨w.heap.size,3,U⟩=M (Z bo nb fU))):=fun a=>⟨Wi a.row,eZ _ _ 1 _ _ _ a.box,eZ _ _ 3 _ _ _ a.box⟩;obtain⟨⟨⟨B,C,G⟩,H,N,T⟩,b1,b3⟩:=i.o G1;have hmz:(Gt.iU q).size=9+q.file.size:=by
  show(Gt.AV++q.file.data.toList).toArray.size=_;rw[bK,aV,aO];rfl
 have hme:(⟨#[102,105,108,101,110,97,109,101,32]⟩:ay)++q.file=Gt.iU q:=by
  apply ByteArray.ext;rw[ByteArray.data_append];show _=(Gt.AV++q.file.data.toList).toArray;rw[<-eU];simp[Gt.AV]
 have La:=H9 ((G1.stay (gy _ _)).create ok (nb:Int) (Gt.iU q) (by omega));have HP:=H9 p;obtain⟨aak,hR⟩:∃aak,aak=Gt.oI r q:=⟨_,rfl⟩;rw[<-hR];unfold Gt.oI at hR;rw[hn] at hR;have c:=H9 hR;have uR:=H9 (ok.create (nb:Int) (Gt.iU q));have Xh:Hid ((Sr.create r.s (nb:Int) (Gt.iU q)).2≠0->(Sr.create r.s (nb:Int) (Gt.iU q)).1=r.s):=fun e=>Gt.K7 e;have hl0:=ok.h.CF;have hl1:=ok.FU
 have hzz:¬(9223372036854775807<9+q.file.size):=by omega
 rw[<-hme] at La c uR Xh;clear hme;clear G1 hH hS hB p hR ok hmz;generalize hcr:Sr.create r.s (nb:Int) (⟨#[102,105,108,101,110,97,109,101,32]⟩++q.file)=cr at *;clear hcr;obtain⟨s1,k1⟩:=cr;simp only at c La uR Xh;go_enter func245,ntmps245;go_upto_region 1 with fail
 go_cut [5,6] (fun v5 v6 wd=>v5=I J (Sr.CR r.s k1)∧v6=I J (k1:Int)∧lD w S L gs w.heap.size (K #[V q.name,V q.file,V q.type,Z bo nb fU] 96 (0,0)) bo fU q.bytes s1 io gM r.ids lo iB r.told wd)
 case first =>
  go_region_held3 (fun W=>W.cell? ⟨L,0,U⟩=M (Q (M ⟨gs,0,U⟩))∧W.cell? ⟨w.heap.size,1,U⟩=M (V q.file)∧W.cell? ⟨w.heap.size,3,U⟩=M (Z bo nb fU)) (go_keep) ((go_at_call 170;refine La.o.mono ?_;rintro e w1 ⟨rfl,a⟩;have m:=H9 a;obtain⟨⟨⟨d0,d1,d2⟩,e0,e1,e2⟩,d3,d4⟩:=i.o a;clear a))
  all_goals
   go_wp2;go_meet;exact⟨rfl,rfl,m.o⟩
 case rest =>
  obtain⟨rfl,rfl,a⟩:=hcut;clear La B C G H N T b1 b3;obtain⟨⟨⟨B,C,G⟩,H,N,T⟩,b1,b3⟩:=i.o a;have m:=H9 a;by_cases t:k1=0
  . subst t;obtain⟨f,v⟩:∃f,f=r.s.h.last+1:=⟨_,rfl⟩;have Si:Sr.CR r.s 0=f:=by rw[v];exact if_pos rfl
    rw[Si];rw[<-v,if_neg (by simp)] at c;have Uv:=H9 ((a.stay (gy _ _)).append uR.o f 0 hn hnb);have I4:=H9 (uR.o.append f 0 q.bytes);have aj2:0<=f:=by omega
    have aj3:f<=100001:=by omega
    clear a Si v Xh hl0 hl1;obtain⟨n,rfl⟩:∃n:Nat,f=n:=⟨f.toNat,by omega⟩;generalize Sr.append s1 (n:Int) 0 q.bytes=ap at *;obtain⟨s2,k2⟩:=ap;simp only at c Uv I4;go_upto_region 4 with fail
    go_cut [6] (fun v6 wd=>v6=I J (k2:Int)∧lD w S L gs w.heap.size (K #[V q.name,V q.file,V q.type,Z bo nb fU] 96 (0,0)) bo fU q.bytes s2 io gM r.ids lo iB r.told wd)
    case first =>
     go_region_held3 (fun W=>W.cell? ⟨L,0,U⟩=M (Q (M ⟨gs,0,U⟩))∧W.cell? ⟨w.heap.size,3,U⟩=M (Z bo nb fU)) (go_keep) ((go_at_call 178;refine Uv.o.mono ?_;rintro e w1 ⟨rfl,a⟩;have HG2:=H9 a;obtain⟨⟨⟨d0,d1,d2⟩,e0,e1,e2⟩,d3,d4⟩:=i.o a;clear a))
     all_goals
      go_wp2;go_meet;exact⟨rfl,HG2.o⟩
    case rest =>
     obtain⟨rfl,a⟩:=hcut;clear Uv B C G H N T b1 b3 m uR;obtain⟨⟨⟨B,C,G⟩,H,N,T⟩,b1,b3⟩:=i.o a;have m:=H9 a;by_cases hk2:k2=0
     . subst hk2;rw[if_neg (by simp)] at c;obtain⟨i0,hi0,hz0,x,y⟩:=info_parts yU;have Hi:=H9 hi0;have lH:=H9 hz0;have lq:=H9 x;have lI:=H9 y
       obtain⟨j0,hj0,hy0,hy1,hy2⟩:=info_parts jI;have Hj:=H9 hj0;have NR:=H9 hy0;have NS:=H9 hy1;have NT:=H9 hy2
       have g:=H9 (a.stay ((eY _ wc).alloc (aM _) (K #[I J (n:Int)] 3)));have HOi:=H9 g.o.ints;obtain⟨⟨⟨a0,a1,a2⟩,g0,g1,g2⟩,a3,a4⟩:=i.o g.o;clear a hi0 hz0 x y hj0 hy0 hy1 hy2;go_upto_region 9 with (at_builtin;refine iq rfl (.tmp 45) (.tmp 47) 55 rfl 0 3 i0 (I J 0) 1 8 underlying55 Hi.o lH.o lq.o lI.o rfl (by decide) rfl HOi.o rfl (jl.made _ _ 1 _ _) rfl (fun u hu=>by simp at hu;rw[hu];rfl) (by omega) (by omega) (aA _) ?_;intro wu jW w3 hO3 b jP;obtain⟨hr3,hg3⟩:=g.o.grown hO3 b (fun j e=>by rcases jP with h | h;exact A (h▸e);exact R (by rw[h] at e;injection e with e;omega));have xS:=H9 hg3;obtain⟨⟨h30,h31,h32⟩,y30,y31,y32⟩:=Wi hr3;clear hO3 b jP hr3 hg3)
       clear a0 a1 a2 a3 a4 g0 g1 g2 h30 h31 h32 y30 y31 y32 B C G H N T b1 b3 m g HOi;generalize w3.setCell ⟨L,1,U⟩ (Z wu (r.ids.length+1) jW)=w4 at *;have YA:=H9 (xS.o.stay (gy _ _));have hpw:kC w4.drew:=HP.o.pow.stay (HP.o.qL.trans (YA.o.turns.below (fun k e=>HP.o.far k e) HP.o.qL.size));have HIt:=H9 (pz n (by omega) w4.drew hpw);obtain⟨⟨⟨B,C,G⟩,H,N,T⟩,b1,b3⟩:=i.o xS.o;obtain⟨d,hd⟩:∃d:ay,d=⟨(Ch.iV 8 n).toArray⟩:=⟨_,rfl⟩;have hdz:d.size<=9:=by
        rw[hd];show(Ch.iV 8 n).toArray.size<=9;rw[bK];exact(Ch.jm 8 n).1
       have x:¬(9223372036854775807<d.size+1):=by omega
       have y:¬(9223372036854775807<d.size+1+q.file.size):=by omega
       have hz3:¬(9223372036854775807<d.size+1+q.file.size+1):=by omega
       rw[<-hd] at HIt;have HTl:Hid ((d++⟨#[32]⟩++q.file++⟨#[10]⟩:ay).data.toList=Gt.toldOf (n:Int) q.file):=by
        unfold Hid Gt.toldOf;rw[hd];simp
       have IL:Hid ((d++⟨#[32]⟩++q.file++⟨#[10]⟩:ay).size=d.size+1+q.file.size+1):=by
        unfold Hid;rw[bL,bL,bL];rfl
       have HTs:Hid ((Gt.toldOf (n:Int) q.file).length=d.size+1+q.file.size+1):=by unfold Hid;rw[<-HTl.o,Ch.iK];exact IL.o
       clear hpw hd xS HP;go_cut [] (fun wd=>lN wd (gB S w) L gs s2 (r.ids++[(n:Int)]) (r.told++Gt.toldOf (n:Int) q.file)∧Turns S w wd)
       case first =>
        go_region_law (first
         | (go_simp;go_at_call 151;refine HIt.o.mono ?_;rintro e w5 ⟨rfl,hb5⟩;have HG5:=H9 (YA.o.stay hb5);obtain⟨⟨⟨d0,d1,d2⟩,e0,e1,e2⟩,d3,d4⟩:=i.o HG5.o;clear hb5)
         | (obtain⟨Sl,hSl,hsl⟩:=HG5.o.listed;have HSl:=H9 hSl;have Hsl:=H9 hsl;clear hSl hsl;refine Ee (by rfl) (.tmp 55) (.tmp 62) 31 9 (by rfl) 5 j0 underlying31 underlying9 Hj.o NR.o NS.o NT.o (by rfl) rfl HSl.o (d++⟨#[32]⟩++q.file++⟨#[10]⟩) (d.size+1+q.file.size+1) IL.o (by omega) (by rfl) (by omega) ?_;intro lo' uP w6 D8 zG;rw[HTl.o] at D8;obtain⟨Bl,z⟩:=Hsl.o lo' uP (r.told.length+(d.size+1+q.file.size+1)) (Gt.toldOf (n:Int) q.file) w6 (by rw[HTs.o]) D8 zG;have HG6:=H9 z;obtain⟨⟨h60,h61,h62⟩,y60,y61,y62⟩:=Wi Bl;have hx6:=eZ _ _ 1 _ _ _ z.box;have HX6:=H9 hx6;clear D8 zG Bl z;(try simp only[Act.put,List.setIfInBounds_toArray,dS,List.set_cons_succ])))
        all_goals
         go_wp2;go_meet;exact HG6.o.done
       case rest =>
        go_wp2;go_ret;rw[c.o];exact⟨rfl,hcut⟩
     . have t2:((k2:Int) != 0)=true:=by rw[cK];omega
       rw[if_pos hk2] at c;have HDr:=H9 (a.drop I4.o (n:Int));clear a;go_wp2_with fail
       refine HDr.o.mono ?_;rintro e w3 ⟨rfl,b⟩;have xS:=H9 b;clear b;go_wp2;go_ret;rw[c.o];exact⟨rfl,xS.o.done⟩
  . have t1:((k1:Int) != 0)=true:=by rw[cK];omega
    rw[if_pos t] at c;rw[Xh.o t] at m;clear a;go_wp2;go_ret;rw[c.o];exact⟨rfl,m.o.done⟩
end
def I5 (w:X)(D:Nat->Prop)(ao:ak)(cap:Nat)(ps:List Fm.Pt):Prop:=∃qs:List (Fm.Pt×UE),qs.map (·.1)=ps∧nM w D ao cap ps.length (sV qs)∧∀q∈qs,jH w D q.2.bo q.2.fU q.1.bytes
section
variable {w w':X} {S D D':Nat->Prop} {ao:ak} {cap:Nat} {ps:List Fm.Pt}
theorem I5.turns (h:I5 w D ao cap ps)(a:Turns S w w')(b:∀k,D k->¬S k):I5 w' D ao cap ps:=by
 obtain⟨c,d,e,f⟩:=h;exact⟨c,d,e.turns a b,fun q g=>(f q g).turns a b⟩
theorem I5.aaw (h:I5 w D ao cap ps):Ec w ao cap ps:=by
 obtain⟨a,b,c,d⟩:=h;exact⟨a,b,c.is,fun q e=>(d q e).is⟩
theorem I5.at_ (h:I5 w D ao cap ps)(k:Nat)(f:k<ps.length):∃(b o:Nat) (s:UE),ao=M ⟨b,o,U⟩∧w.cell? ⟨b,o+k*4,U⟩=M (V ps[k].name)∧w.cell? ⟨b,o+k*4+1,U⟩=M (V ps[k].file)∧w.cell? ⟨b,o+k*4+2,U⟩=M (V ps[k].type)∧w.cell? ⟨b,o+k*4+3,U⟩=M (Z s.bo ps[k].bytes.length s.fU)∧jH w D s.bo s.fU ps[k].bytes:=by
 obtain⟨c,rfl,g,i⟩:=h;have a:k<c.length:=by simpa using f
 obtain⟨b,o,rfl,d⟩:=g.is.lit (by rw[pG];omega);have j:=i _ (aC a);have e:=oN c k a 0 (by decide);have l:=oN c k a 1 (by decide);have m:=oN c k a 2 (by decide);have n:=oN c k a 3 (by decide);refine⟨b,o,c[k].2,rfl,?_,?_,?_,?_,?_⟩
 . rw[aG];exact d _ _ (by rw[bI] at e;exact e)
 . rw[aG,bJ];exact d _ _ l
 . rw[aG,bJ];exact d _ _ m
 . rw[aG,bJ];exact d _ _ n
 . rw[aG];exact j
theorem pI.agt {b:X}{n:Nat}(h:pI b D ps ao cap n w')(f:∀k,b.heap.size<=k->D k):I5 w' (fun k=>D k∧k<w'.heap.size) ao cap ps:=by
 obtain⟨g,i,c,j⟩:=h.own;refine⟨g,i,⟨by rw[<-h.len];exact c.qP,fun _ a e=>⟨f _ (c.block a e).1,(c.block a e).2⟩⟩,fun q l=>?_⟩;refine((j q l).mono (S':=fun k=>D k∧k<b.heap.size) (fun k d e=>⟨e,d⟩)).turns (Turns.of_below (S:=fun _=>False) h.below) (fun _ _ e=>e) |>.mono (fun k d e=>⟨e.1,d⟩)
end
section
variable {w w0 W W':X} {S S' D:Nat->Prop} {L gs:Nat} {s:Sr.Sh} {io:ak} {gM:Nat} {ids:List Int} {told:av}
theorem lN.mono (h:lN w S L gs s ids told)(c:∀k,k<w.heap.size->S k->S' k):lN w S' L gs s ids told:=by
 obtain⟨f,io,gM,g,i,j,l⟩:=h;refine⟨iC f w.heap.size .out,io,gM,g,i,fun d=>?_,fun k a=>?_⟩
 . by_cases m:d=.out
   . subst m;exact trivial
   . exact(rJ kD.ku kD.ku d).mono (j d) (fun k a e=>(ig a).trans e)
 . rcases aT k w.heap.size with b | b
   . rw[ig b] at a;exact c k b (l k a)
   . exact absurd (nI b) a
theorem vY.then_ (p:vY w0 w S)(a:Turns S w W):vY w0 W (gB S w):=⟨p.pow,p.qL.trans (a.below (fun k e=>p.far k e) p.qL.size),fun k e=>by
 rcases e with e | e
 . exact p.far k e
 . exact dB p.qL.size e⟩
theorem Ov (p:vY w0 w S)(r:Gt.Ld)(h:lN w S L gs r.s r.ids r.told)(j:Gt.WU r)(h0:r.code=0)(a:List Fm.Pt){ao:ak}{cap n:Nat}(hP:I5 w D ao cap a)(hD:∀k,D k->¬S k∧k<w.heap.size)(hn:a.length=n)(hN:n<=1000000)(hz:∀q∈a,q.bytes.length<=1000000∧q.file.size<=900000):
 Calls prog 195 #[Q (M ⟨L,0,U⟩),Z ao n cap] w fun e w'=>e=Y (I J ((Gt.adds r a).code:Int))∧lN w' (gB S w) L gs (Gt.adds r a).s (Gt.adds r a).ids (Gt.adds r a).told∧Turns S w w':=by
 subst hn;obtain⟨d,l⟩:∃d,d=Gt.adds r a:=⟨_,rfl⟩;rw[<-l];have HP:=p;have UH:=H9 hP;have m:=H9 hD;have HZ:=H9 hz
 have hcap:=hP.aaw.choose_spec.2.1.1;have pK:∃c:Gt.Ld,d=Gt.adds c (a.drop 0)∧c.code=0∧Gt.WU c∧lN w (gB S w) L gs c.s c.ids c.told∧Turns S w w:=⟨r,l,h0,j,h.mono (fun k _ e=>A e),Turns.refl _ _⟩;go_enter func195,ntmps195;go_wp2;go_loopw [10] (fun vi wr=>∃i:Nat,i<=a.length∧vi=I J i∧∃c:Gt.Ld,d=Gt.adds c (a.drop i)∧c.code=0∧Gt.WU c∧lN wr (gB S w) L gs c.s c.ids c.told∧Turns S w wr) (fun vi _=>a.length-(intOf vi).toNat)
 case atStart=>exact⟨0,aA _,rfl,pK⟩
 case round =>
  obtain⟨i,hi,rfl,c,l,G,f,hL,hT⟩:=hrel;by_cases t:i<a.length
  . have hlt':(i:Int)<a.length:=by omega
    have hPr:=UH.o.turns hT (fun k e=>(m.o k e).1);obtain⟨b,o,sl,rfl,c0,c1,c2,c3,hIB⟩:=hPr.at_ i t;have hq:=HZ.o a[i] (aC t);rw[aD t] at l;obtain⟨nb,u⟩:∃nb,a[i].bytes.length=nb:=⟨_,rfl⟩;rw[u] at c3;have hnl:nb<=1000000:=by rw[<-u];exact hq.1
    have jc:=(eY _ wr).alloc (aM _) (K #[V a[i].name,V a[i].file,V a[i].type,Z sl.bo nb sl.fU] 96);have y:=hT.trans (Turns.of_below (S:=fun _=>False) jc) (fun _ e _=>e.elim);have z:=hL.stay jc;have hIA:=hIB.turns (Turns.of_below (S:=fun _=>False) jc) (fun _ _ e=>e);generalize a[i]=q at *;obtain⟨H,htf⟩:∃H,(q.file.toList==([]:av))=H:=⟨_,rfl⟩;have eF:q.file.size=0<->H=true:=by
     rw[<-htf,aS,Lib.toList_data,<-List.length_eq_zero_iff,aO];rfl
    have N:=l;have HC:=H9 G;have uR:=H9 f;have HLA:=H9 z;have v:=H9 y
    cases H with
    | true =>
      have g:d=Gt.adds c (a.drop (i+1)):=by rw[N];unfold Gt.adds;rw[if_pos (eF.2 rfl)];cases a.drop (i+1) <;> rfl
      go_wp2;go_roundw
      case rel=>exact⟨i+1,by omega,by go_num,c,g,HC.o,uR.o,HLA.o,v.o⟩
      case measure=>simp[intOf];omega
    | false =>
      have hfn:¬q.file.size=0:=fun e=>by have:=eF.1 e;cases this
      have kY:c.ids.length<=12:=by
       rcases f.few with h | h
       . have:=f.ok.h.few;omega
       . exact absurd G h
      have htd:c.told.length<=1000000:=by have:=f.told;omega
      have Zv:=H9 (Xg (HP.then_ y) c z f.ok q hIA (fun k e T=>by
       rcases T with T | T
       . exact(m.o k e).1 T
       . have:=(m.o k e).2;omega) u hnl hq.2 (by omega) htd)
      have I4:=Gt.SK f G q;have g:d=if (Gt.oI c q).code≠0 then Gt.oI c q else Gt.adds (Gt.oI c q) (a.drop (i+1)):=by rw[N];conv=>lhs;unfold Gt.adds;rw[if_neg hfn]
      generalize Gt.oI c q=x at *;go_wp2_with fail
      refine Zv.o.mono ?_;rintro e w5 ⟨rfl,hL5,uO⟩;have zG:Turns S w w5:=v.o.trans uO (fun k e j=>by
       rcases e with e | e
       . exact e
       . omega)
      have hL6:lN w5 (gB S w) L gs x.s x.ids x.told:=hL5.mono (fun k _ e=>by
       rcases e with e | e
       . exact e
       . exact R (dB v.o.size e))
      have B:=zG;have C:=H9 hL6
      by_cases j:x.code=0
      . have tk:((x.code:Int) != 0)=F:=by rw[j];rfl
        rw[if_neg (by rw[j];simp)] at g;go_wp2;go_roundw
        case rel=>exact⟨i+1,by omega,by go_num,x,g,j,I4,C.o,B⟩
        case measure=>simp[intOf];omega
      . have tk:((x.code:Int) != 0)=true:=by rw[cK];omega
        rw[if_pos j] at g;go_wp2;go_ret;rw[g];exact⟨rfl,C.o,B⟩
  . obtain rfl:i=a.length:=by omega
    rw[List.drop_length] at l;have hR2:d=c:=l;have N:=hR2;have HC:=H9 G;have HL:=H9 hL;have HT:=H9 hT
    go_wp2;go_ret;rw[N,HC.o];exact⟨rfl,HL.o,HT.o⟩
structure I6 (w:X)(S:Nat->Prop)(L gs:Nat)(s:Sr.Sh)(io:ak)(gM:Nat)(ids:List Int)(told:av)(W:X):Prop where
 held:∃κ lo iB,Held (El L gs s (Yz gs io ids.length gM lo told.length iB) io gM ids lo iB told zR zR) κ W∧∀k,κ k≠.out->gB S w k
 turns:Turns S w W
theorem lN.agw (h:lN w S L gs s ids told):∃io gM,I6 w S L gs s io gM ids told w:=by
 obtain⟨a,io,gM,b,c,d,f⟩:=h;exact⟨io,gM,⟨a,b,c,d,fun k e=>A (f k e)⟩,Turns.refl _ _⟩
theorem I6.done (h:I6 w S L gs s io gM ids told W):lN W (gB S w) L gs s ids told∧Turns S w W:=by
 obtain⟨⟨a,b,c,d,e⟩,f⟩:=h;exact⟨⟨a,io,gM,b,c,d,e⟩,f⟩
theorem I6.cells (h:I6 w S L gs s io gM ids told W):W.cell? ⟨L,0,U⟩=M (Q (M ⟨gs,0,U⟩))∧W.cell? ⟨L,1,U⟩=M (Z io ids.length gM)∧jl W io gM ids.length (qR ids):=by
 obtain⟨⟨b,c,d,a,e⟩,f⟩:=h;exact⟨eZ _ _ 0 _ _ _ (a .row).1,eZ _ _ 1 _ _ _ (a .row).1,(a .ids).1.qP⟩
theorem I6.drop (h:I6 w S L gs s io gM ids told W)(ok:Sr.Ok s)(a:Int):
 Calls prog 180 #[Q (M ⟨gs,0,U⟩),I J a] W fun e w'=>e=Y (I J ((Sr.drop s a).2:Int))∧I6 w S L gs (Sr.drop s a).1 io gM ids told w':=by
 obtain⟨⟨j,g,i,c,d⟩,f⟩:=h;refine(yh (c .iX) ok a).mono (fun e w' b=>⟨b.ret,⟨⟨_,g,i,IZ kD.ku kD.ku c b.at_ b.turns,wm d f.size⟩,f.trans b.turns (fun k e l=>?_)⟩⟩);rcases d k (by rw[e];intro h;cases h) with h | h
 . exact h
 . omega
theorem I7 (s:Sr.Sh)(ids:List Int)(k:Nat)(a:k<ids.length):Gt.nO s (ids.take (k+1))=(Sr.drop (Gt.nO s (ids.take k)) ids[k]).1:=by
 unfold Gt.nO;rw[bM a,dY];rfl
theorem Lh (h:lN w S L gs s ids told)(ok:Sr.Ok s)(v:ids.length<=1000000):
 Calls prog 196 #[Q (M ⟨L,0,U⟩)] w fun e w'=>e=Y (.tuple #[])∧lN w' (gB S w) L gs (Gt.nO s ids) ids told∧Turns S w w':=by
 obtain⟨io,gM,j⟩:=h.agw;obtain⟨n,p,d⟩:=j.cells;have q:=j;have r:=H9 ok
 have k:=d.1;go_enter func196,ntmps196;go_wp2;go_loopw [9] (fun f wr=>∃i:Nat,i<=ids.length∧f=I J i∧I6 w S L gs (Gt.nO s (ids.take i)) io gM ids told wr) (fun f _=>ids.length-(intOf f).toNat)
 case atStart=>exact⟨0,aA _,rfl,q⟩
 case round =>
  obtain⟨i,y,rfl,g⟩:=hrel;obtain⟨n,p,d⟩:=g.cells;by_cases a:i<ids.length
  . have l:(i:Int)<ids.length:=by omega
    obtain⟨b,o,rfl,t⟩:=d.lit (by simp[qR];omega);have z:=t i (I J ids[i]) (by unfold qR;rw[List.getElem?_map,dz a];rfl);have c:=g.drop (Gt.tY (ids.take i) r.o) ids[i];rw[<-I7 s ids i a] at c;generalize ids[i]=x at *;go_wp2_with fail
    refine c.mono ?_;rintro e B ⟨rfl,u⟩;go_wp2;go_roundw
    case rel=>exact⟨i+1,by omega,by go_num,u⟩
    case measure=>simp[intOf];omega
  . obtain rfl:i=ids.length:=by omega
    have m:=g.done;rw[bN] at m;go_wp2;go_end0
    exact⟨rfl,m⟩
theorem Tj (h:lN w S L gs s ids told):
 Calls prog 197 #[Q (M ⟨L,0,U⟩),I J 0] w fun e w'=>(∃bo fU,e=Y (.agg #[I J 201,Z U 0 0,Z bo told.length fU])∧gN w' bo fU told∧∀a,bo=M a->S a.block)∧Below w.heap.size w w':=by
 obtain⟨o,io,gM,b,d,c,j⟩:=h;obtain⟨⟨p,q,r⟩,_⟩:=Wi (c .row).1;have k:=uT.tN (c .list);have l:∀a,b=M a->S a.block:=fun a e=>by
  rcases c .list with ⟨f,_⟩ | ⟨g,f,_,m⟩
  . rw[f] at e;cases e
  . rw[f] at e;injection e with e;subst e;exact j g (by rw[m];intro h;cases h)
 have n:=(aL.1 (c .row).1).1;go_enter func197,ntmps197;go_wp2;have i:Below w.heap.size w (w.alloc (K #[I J 201,Z U 0 0,Z b told.length d] 109)):=(eY _ _).alloc (aM _) _;refine fI (v:=.agg #[I J 201,Z U 0 0,Z b told.length d]) (by simp[results,results197,go_sem]) rfl ⟨⟨b,d,rfl,k.stay i,l⟩,i⟩
theorem Tk (c:Nat)(z:c≠0):
 Calls prog 197 #[Q (M ⟨L,0,U⟩),I J (c:Int)] w fun e w'=>e=Y (.agg #[I J (Gt.stat c:Int),Z U 0 0,Z U 0 0])∧Below w.heap.size w w':=by
 have B:=aR.2 (by omega);by_cases h:c=4
 . subst h;go_enter func197,ntmps197;go_wp2_with fail
   refine((fun W=>pF 413 W) _).mono ?_;rintro e d ⟨rfl,a⟩;obtain⟨⟨m,n,p,q,r,u⟩,f⟩:=Aj ((a.block w.heap.size (by simp)).trans (eX w _)) (I J 413) (Z U 0 0) (Z U 0 0);have b:=then_ ((eY _ w).alloc (aM _) _) a;go_wp2;generalize (((d.setCell ⟨w.heap.size,0,U⟩ _).setCell ⟨w.heap.size,1,U⟩ _).setCell ⟨w.heap.size,2,U⟩ _)=x at *;obtain⟨g,i,j,l⟩:=f.o;refine fI (v:=.agg #[I J 413,Z U 0 0,Z U 0 0]) (by simp[results,results197,go_sem,g,i,j]) rfl ⟨rfl,b.trans (l.below (fun k e=>by omega) b.size)⟩
 . have t:((c:Int)==4)=F:=aR.2 (by omega);have y:Gt.stat c=507:=by unfold Gt.stat;rw[if_neg h]
   rw[y];go_enter func197,ntmps197;go_wp2_with fail
   refine((fun W=>pF 507 W) _).mono ?_;rintro e d ⟨rfl,a⟩;obtain⟨⟨m,n,p,q,r,u⟩,f⟩:=Aj ((a.block w.heap.size (by simp)).trans (eX w _)) (I J 507) (Z U 0 0) (Z U 0 0);have b:=then_ ((eY _ w).alloc (aM _) _) a;go_wp2;generalize (((d.setCell ⟨w.heap.size,0,U⟩ _).setCell ⟨w.heap.size,1,U⟩ _).setCell ⟨w.heap.size,2,U⟩ _)=x at *;obtain⟨g,i,j,l⟩:=f.o;refine fI (v:=.agg #[I J 507,Z U 0 0,Z U 0 0]) (by simp[results,results197,go_sem,g,i,j]) rfl ⟨rfl,b.trans (l.below (fun k e=>by omega) b.size)⟩
end
structure QK (S:Nat->Prop)(w:X)(gs:Nat)(r:Sr.Sh×Gt.yx)(e:Ending)(w':X):Prop where
 ret:∃(fo:ak) (fV nf:Nat) (bo:ak) (fU nb:Nat),e=Y (.agg #[I J (r.2.1:Int),Z fo nf fV,Z bo nb fU])∧r.2.2.1.length=nf∧jl w' fo fV nf (gG r.2.2.1)∧r.2.2.2.length=nb∧gN w' bo fU r.2.2.2∧(∀a,fo=M a->gB S w a.block)∧∀a,bo=M a->gB S w a.block
 at_:gV w' (gB S w) gs r.1
 turns:Turns S w w'
section
variable {w w0 W W':X} {S S' D:Nat->Prop} {g gs b:Nat} {s:Sr.Sh}
structure Av (S:Nat->Prop)(w:X)(gs:Nat)(s:Sr.Sh)(b:Nat)(o:Obj)(W:X):Prop where
 box:W.heap[b]? = M o
 new:w.heap.size<=b
 st:gV W (fun k=>gB S w k∧k≠b) gs s
 turns:Turns S w W
theorem Av.ends {j x1 x2:Value}(h:Av S w gs s b (K #[j,x1,x2] 109 (0,0)) W){st:Nat}{mh:Int}(i:(st:Int)=mh){l:au}{body:av}{fo bo:ak}{fV nf fU nb:Nat}(m:l.length=nf)(n:jl W fo fV nf (gG l))(c:∀a,fo=M a->gB S w a.block∧a.block≠b)(o:body.length=nb)(p:gN W bo fU body)(d:∀a,bo=M a->gB S w a.block∧a.block≠b):
 (W.cell? ⟨b,0,U⟩=M j∧W.cell? ⟨b,1,U⟩=M x1∧W.cell? ⟨b,2,U⟩=M x2∧W.frozen? ⟨b,0,U⟩=F∧W.frozen? ⟨b,1,U⟩=F∧W.frozen? ⟨b,2,U⟩=F) ∧
 Hid ((((W.setCell ⟨b,0,U⟩ (I J mh)).setCell ⟨b,1,U⟩ (Z fo nf fV)).setCell ⟨b,2,U⟩ (Z bo nb fU)).cell? ⟨b,0,U⟩=M (I J mh)∧(((W.setCell ⟨b,0,U⟩ (I J mh)).setCell ⟨b,1,U⟩ (Z fo nf fV)).setCell ⟨b,2,U⟩ (Z bo nb fU)).cell? ⟨b,1,U⟩=M (Z fo nf fV)∧(((W.setCell ⟨b,0,U⟩ (I J mh)).setCell ⟨b,1,U⟩ (Z fo nf fV)).setCell ⟨b,2,U⟩ (Z bo nb fU)).cell? ⟨b,2,U⟩=M (Z bo nb fU)∧QK S w gs (s,(st,l,body)) (Y (.agg #[I J mh,Z fo nf fV,Z bo nb fU])) (((W.setCell ⟨b,0,U⟩ (I J mh)).setCell ⟨b,1,U⟩ (Z fo nf fV)).setCell ⟨b,2,U⟩ (Z bo nb fU))):=by
 subst i;obtain⟨q,r⟩:=Aj h.box (I J (st:Int)) (Z fo nf fV) (Z bo nb fU);obtain⟨t,u,v,f⟩:=r.out;refine⟨q,t,u,v,⟨⟨fo,fV,nf,bo,fU,nb,rfl,m,n.turns f (fun a e=>(c a e).2),o,p.turns f (fun a e=>(d a e).2),fun a e=>(c a e).1,fun a e=>(d a e).1⟩,(h.st.turns f (fun k e x=>e.2 x)).mono (fun k _ e=>e.1),h.turns.trans f (fun k e y=>?_)⟩⟩;have:=h.new;omega
theorem Av.did {o:Obj}{a:Sr.Sh}(h:Av S w gs s b o W)(d:gV W' (gB (fun k=>gB S w k∧k≠b) W) gs a)(c:Turns (fun k=>gB S w k∧k≠b) W W'):Av S w gs a b o W':=by
 have i:=h.turns.size;have f:=(aL.1 h.box).1;refine⟨c.row h.box (fun e=>e.2 rfl),h.new,d.mono (fun k _ e=>?_),h.turns.trans c (fun k e j=>?_)⟩
 . rcases e with e | e
   . exact e
   . exact⟨R (by omega),by omega⟩
 . rcases e.1 with e | e
   . exact e
   . omega
theorem Av.stay {o:Obj}(h:Av S w gs s b o W)(a:Below W.heap.size W W'):Av S w gs s b o W' :=
 ⟨(a.block b (aL.1 h.box).1).trans h.box,h.new,h.st.stay a,h.turns.trans (Turns.of_below (S:=fun _=>False) a) (fun _ e _=>e.elim)⟩
theorem Av.start (h:gV w S gs s)(z o:Obj):Av S w gs s (w.heap.size+1) o ((w.alloc z).alloc o)∧((w.alloc z).alloc o).heap[w.heap.size]? = M z:=by
 have c:=(eY _ w).alloc (aM _) z;have a:=(eY _ (w.alloc z)).alloc (aM _) o;have d:(w.alloc z).heap.size=w.heap.size+1:=fG ..;refine⟨⟨?_,by omega,?_,Turns.of_below (then_ c a)⟩,?_⟩
 . have:=eX (w.alloc z) o;rw[d] at this;exact this
 . exact((h.mono (S':=fun k=>gB S w k∧k≠w.heap.size+1) (fun k f e=>⟨A e,by omega⟩)).stay c).stay a
 . exact(a.block w.heap.size (by omega)).trans (eX w z)
theorem lN.sync {L:Nat}{ids:List Int}{a:av}(h:lN w S L gs s ids a):Calls prog 101 #[Q (M ⟨gs,0,U⟩)] w fun e w'=>e=Y (.tuple #[])∧lN w' (gB S w) L gs (Sr.sync s) ids a∧Turns S w w':=by
 obtain⟨p,i,j,l,m,c,d⟩:=h;exact(nC (c .iX)).mono (fun e w' ⟨n,o,f⟩=>⟨n,⟨_,i,j,l,m,IZ kD.ku kD.ku c (gV.mono o (fun k _ e=>A e)) f,wm (fun k e=>A (d k e)) (aM _)⟩,f.mono (fun k e=>d k (by rw[e];intro h;cases h))⟩)
theorem lN.iX {L:Nat}{ids:List Int}{a:av}(h:lN w S L gs s ids a):gV w S gs s:=by
 obtain⟨f,i,j,l,m,c,d⟩:=h;exact gV.mono (c .iX) (fun k _ e=>d k (by rw[e];intro h;cases h))
theorem lN.cell0 {L:Nat}{ids:List Int}{a:av}(h:lN w S L gs s ids a):w.cell? ⟨L,0,U⟩=M (Q (M ⟨gs,0,U⟩)):=by
 obtain⟨d,e,f,i,j,c,k⟩:=h;exact eZ _ _ 0 _ _ _ (c .row).1
structure OT (S:Nat->Prop)(w:X)(gs b L:Nat)(o:Obj)(B:X)(s:Sr.Sh)(ids:List Int)(told:av)(W:X):Prop where
 land:lN W (gB (fun k=>(S k∧k<w.heap.size)∨k=L) B) L gs s ids told
 turns:Turns (fun k=>(S k∧k<w.heap.size)∨k=L) B W
 box:W.heap[b]? = M o
theorem OT.did {L:Nat}{o:Obj}{B:X}{d:Sr.Sh}{ids Lg:List Int}{c a:av}(h:OT S w gs b L o B s ids c W)(j:w.heap.size<=b)(l:b<L)(m:L<B.heap.size)(i:lN W' (gB (gB (fun k=>(S k∧k<w.heap.size)∨k=L) B) W) L gs d Lg a)(f:Turns (gB (fun k=>(S k∧k<w.heap.size)∨k=L) B) W W'):OT S w gs b L o B d Lg a W':=by
 have n:=h.turns.size;refine⟨i.mono (fun k _ e=>?_),h.turns.then_ f,f.row h.box (fun e=>?_)⟩
 . rcases e with e | e
   . exact e
   . exact R (by omega)
 . rcases e with (e | e) | e
   . have:=e.2;omega
   . omega
   . omega
theorem OT.bx {L:Nat}{o:Obj}{B:X}{ids:List Int}{a:av}(h:OT S w gs b L o B s ids a W)(c:w.heap.size<=b)(f:b<L)(i:L<B.heap.size)(d:Below w.heap.size w B):Av S w gs s b o W:=by
 have j:=h.turns.size;refine⟨h.box,c,h.land.iX.mono (fun k _ e=>?_),(Turns.of_below d).trans h.turns (fun k e l=>?_)⟩
 . rcases e with (e | e) | e
   . exact⟨A e.1,by have:=e.2;omega⟩
   . exact⟨R (by omega),by omega⟩
   . exact⟨R (by omega),by omega⟩
 . rcases e with e | e
   . exact e.1
   . omega
theorem lN.begin_ {n:Nat}(h:gV w (fun k=>S k∧k<n) gs s)(l:n<=w.heap.size):lN (w.alloc (K #[Q (M ⟨gs,0,U⟩),Z U 0 0,Z U 0 0] 252)) (fun k=>S k∧k<n∨k=w.heap.size) w.heap.size gs s [] []:=by
 have j:=(eY _ w).alloc (aM _) (K #[Q (M ⟨gs,0,U⟩),Z U 0 0,Z U 0 0] 252);classical
 refine⟨fun k=>if k=w.heap.size then .row else if S k∧k<n then .iX else .out,U,0,U,0,fun d=>?_,fun k c=>?_⟩
 . cases d with
   | row=>exact⟨eX w _,if_pos rfl⟩
   | iX=>exact gV.mono (h.stay j) (fun k _ e=>by
    show(if k=w.heap.size then Ot.row else if S k∧k<n then .iX else .out)=.iX;rw[if_neg (by have:=e.2;omega),if_pos e])
   | ids=>exact⟨gH.nil _ _ _ _,fun a e=>by cases e⟩
   | list=>exact uT.nil _ _
   | box=>exact trivial
   | out=>exact trivial
 . simp only at c;by_cases f:k=w.heap.size
   . exact R f
   . rw[if_neg f] at c;by_cases i:S k∧k<n
     . exact A i
     . rw[if_neg i] at c;exact absurd rfl c
end
section
variable {w w0:X} {S:Nat->Prop} {g gs:Nat} {s:Sr.Sh}
theorem jk (S:Nat->Prop)(w:X)(b:Nat):∀a,(U:ak)=M a->gB S w a.block∧a.block≠b:=fun a e=>by cases e
theorem XA (p:vY w0 w S)(h:gV w S gs s)(ok:Sr.Ok s)(hg:w.cell? ⟨g,0,U⟩=M (Q (M ⟨gs,0,U⟩))){m t:ay}{mi ln:Int}{l:au}{fo:ak}{fV nf:Nat}(hF:pE w l fo fV nf)(body:av){bo:ak}{fU nb:Nat}(hb:body.length=nb)(hB:gN w bo fU body)(hnb:nb<=20000):
 Calls prog 143 #[Q (M ⟨g,0,U⟩),.agg #[V m,V t,I J mi,Z fo nf fV,I J ln,Z bo nb fU]] w fun e w'=>QK S w gs (Gt.land s l body) e w':=by
 obtain⟨f,hR⟩:∃f,f=Gt.land s l body:=⟨_,rfl⟩;rw[<-hR];obtain⟨hX,Cv⟩:=Av.start h (K #[V m,V t,I J mi,Z fo nf fV,I J ln,Z bo nb fU] 84) (K #[I J 0,Z U 0 0,Z U 0 0] 109);have hlg:=fH w _ hg;have hbb:Below w.heap.size w ((w.alloc (K #[V m,V t,I J mi,Z fo nf fV,I J ln,Z bo nb fU] 84)).alloc (K #[I J 0,Z U 0 0,Z U 0 0] 109)):=then_ ((eY _ w).alloc (aM _) _) ((eY _ _).alloc (aM _) _);have ZE:=Ed (hF.stay hbb);have pK:∀W,Below w.heap.size w W->gV W (fun k=>S k∧k<w.heap.size) gs s:=fun W hW=>(h.mono (S':=fun k=>S k∧k<w.heap.size) (fun k hk e=>⟨e,hk⟩)).stay hW;have HIb:∀W,Below w.heap.size w W->gN W bo fU body:=fun W hW=>hB.stay hW;have HG:∀W,Below w.heap.size w W->W.cell? ⟨g,0,U⟩=M (Q (M ⟨gs,0,U⟩)):=fun W hW=>(hW.cell (p:=⟨g,0,U⟩) hlg).trans hg;have HP:=p;have uR:=H9 ok
 have hs1:((w.alloc (K #[V m,V t,I J mi,Z fo nf fV,I J ln,Z bo nb fU] 84)).alloc (K #[I J 0,Z U 0 0,Z U 0 0] 109)).heap.size=w.heap.size+2:=by simp
 go_enter func143,ntmps143;go_upto_region 1 with fail
 generalize hW1:((w.alloc (K #[V m,V t,I J mi,Z fo nf fV,I J ln,Z bo nb fU] 84)).alloc (K #[I J 0,Z U 0 0,Z U 0 0] 109))=W1 at *;have a3:=eZ W1 _ 3 _ _ _ Cv;simp at a3;have HX:=hX;have xk:=H9 hbb;have HZr:=H9 Cv;have UD:=H9 hs1
 go_wp2_with fail
 refine ZE.mono ?_;rintro e w1 ⟨rfl,D⟩;have G:=HX.stay D;have HB1:=then_ xk.o D;have hsz1:=D.size;have a5:w1.cell? ⟨w.heap.size,5,U⟩=M (Z bo nb fU):=by
  have:=eZ w1 _ 5 _ _ _ ((D.block w.heap.size (by have:=UD.o;omega)).trans HZr.o);simpa using this
 have aeo:w.heap.size+2<=w1.heap.size:=by have:=UD.o;omega
 cases H:Gt.bound l with
 | none =>
   have HR:f=(s,(415,[],[])):=hR.trans (Gt.TK H);have H5:=fun W=>pF 415 W;simp only[Option.elim,Option.isSome];go_wp2_with fail
   refine(H5 _).mono ?_;rintro e N ⟨rfl,i⟩;obtain⟨⟨z0,z1,z2,y0,y1,y2⟩,T⟩:=(G.stay i).ends (st:=415) (mh:=415) rfl (l:=[]) (body:=[]) rfl (jl.nil _) (jk _ _ _) rfl (gN.nil _) (jk _ _ _);go_wp2;generalize (((N.setCell ⟨w.heap.size+1,0,U⟩ _).setCell ⟨w.heap.size+1,1,U⟩ _).setCell ⟨w.heap.size+1,2,U⟩ _)=wf at *;obtain⟨q0,q1,q2,q3⟩:=T.o;refine fI (v:=.agg #[I J 415,Z U 0 0,Z U 0 0]) (by simp[results,results143,go_sem,q0,q1,q2]) rfl ?_;rw[HR];exact q3
 | some bd =>
   simp only[Option.elim,Option.isSome];have HRd:=Xu (Gt.txt bd) body bo fU nb w1 (HIb _ HB1) hb hnb;rw[show(Gt.txt bd).data.toList=bd from by unfold Gt.txt;simp] at HRd;go_wp2_with fail
   refine HRd.mono ?_;rintro e N hRd;cases hRd with
   | no c hc agX he i =>
     subst he;have hpn:Gt.parts bd body=U:=by
      unfold Gt.parts;rw[if_neg];rintro ⟨e1,e2⟩;rcases agX with ⟨h1,_⟩ | ⟨_,h1⟩
      . rw[h1] at e1;cases e1
      . exact hc (by rw[<-h1];exact e2)
     have HR:f=(s,(400,[],[])):=hR.trans (Gt.Xz H hpn);have tc:((c:Int) != 0)=true:=by rw[cK];omega
     have WW:=G.stay i;have H4:=fun W=>pF 400 W;go_wp2_with fail
     refine(H4 _).mono ?_;rintro e w3 ⟨rfl,b⟩;obtain⟨⟨z0,z1,z2,y0,y1,y2⟩,T⟩:=(WW.stay b).ends (st:=400) (mh:=400) rfl (l:=[]) (body:=[]) rfl (jl.nil _) (jk _ _ _) rfl (gN.nil _) (jk _ _ _);go_wp2;generalize (((w3.setCell ⟨w.heap.size+1,0,U⟩ _).setCell ⟨w.heap.size+1,1,U⟩ _).setCell ⟨w.heap.size+1,2,U⟩ _)=wf at *;obtain⟨q0,q1,q2,q3⟩:=T.o;refine fI (v:=.agg #[I J 400,Z U 0 0,Z U 0 0]) (by simp[results,results143,go_sem,q0,q1,q2]) rfl ?_;rw[HR];exact q3
   | yes hm hcl w15 aep ao cap n he hP i =>
     subst he;obtain⟨C,hps⟩:∃C,C=Fm.pQ (lU (Fm.outs (Fm.mark bd) Fm.start body)):=⟨_,rfl⟩;have hpp:Gt.parts bd body=M C:=by unfold Gt.parts;rw[if_pos ⟨hm,hcl⟩,hps]
     rw[<-hps] at hP;obtain⟨hrm,hpl,hpz⟩:=Gt.LD hpp (by have:=(wB hm).long;omega) (wB hm).good (by decide) (by rw[hb];exact hnb);have hn:=hP.len;subst hn;have hPD:=hP.agt (fun k e=>dB aep e);have hB2:=then_ HB1 i;have agZ:w.heap.size+2<=N.heap.size:=dB aeo i.size;have hX2:=G.stay i;have hgc:=HG N hB2;have HRo:=Oe (hPD.aaw.stay (gy _ _)) rfl hrm;have zQ:Below w.heap.size w N.drew:=then_ hB2 (gy _ _);obtain⟨rm,ab6⟩:∃rm,rm=Gt.room C:=⟨_,rfl⟩;rw[<-ab6] at HRo hrm;have TI:=fun W (hW:Below w.heap.size w W)=>uD (pK W hW) (rm:Int);obtain⟨bf,hbf⟩:∃bf,bf=decide (100000<s.log.length+rm):=⟨_,rfl⟩;have hrb:(decide ((0:Int)<=(rm:Int))&&decide ((rm:Int)<=100000-(s.log.length:Int)))=!bf:=by
      rw[hbf,aI (by omega:(0:Int)<=(rm:Int)),Bool.true_and,<-decide_not,decide_eq_decide];omega
     rw[hrb] at TI;have HBf:=H9 hbf;have HRe:=H9 ab6
     clear hbf ab6;have WW:=H9 hX2;have u:=H9 hB2;have HPD:=H9 hPD;have HPz:=H9 hpz
     clear hP hps hm hcl aep hPD hB2 hX2 hpz HRd i G HB1 hrb;go_upto_region 7 with fail
     go_cut [31] (fun v wd=>v=.bool bf∧Below N.heap.size N wd)
     case first =>
      go_region_held3 (fun W=>W.cell? ⟨g,0,U⟩=M (Q (M ⟨gs,0,U⟩))) (go_keep) (first
       | (go_at_call 194;refine HRo.mono ?_;rintro e w3 ⟨rfl,b⟩;have HB3:Hid (Below N.heap.size N w3):=then_ (gy _ _) b;have hg3:=HG w3 (then_ u.o HB3.o);clear b)
       | (go_at_call 177;refine(TI _ (then_ u.o HB3.o)).mono ?_;rintro e w4 ⟨rfl,hw⟩;subst hw))
      all_goals
       go_wp2;go_meet;exact⟨rfl,HB3.o⟩
     case rest =>
      obtain⟨rfl,b⟩:=hcut;have HX3:=(WW.stay b);have HB3:=H9 b
      clear hgc HRo TI zQ WW;cases bf with
      | true =>
        have q:=cZ HBf.o.symm;have HR:f=(s,(507,[],[])):=hR.trans (Gt.TL H hpp (by rw[<-HRe.o];exact q));have H4:=fun W=>pF 507 W;go_wp2_with fail
        refine(H4 _).mono ?_;rintro e w3 ⟨rfl,b⟩;obtain⟨⟨z0,z1,z2,y0,y1,y2⟩,T⟩:=(HX3.stay b).ends (st:=507) (mh:=507) rfl (l:=[]) (body:=[]) rfl (jl.nil _) (jk _ _ _) rfl (gN.nil _) (jk _ _ _);go_wp2;generalize (((w3.setCell ⟨w.heap.size+1,0,U⟩ _).setCell ⟨w.heap.size+1,1,U⟩ _).setCell ⟨w.heap.size+1,2,U⟩ _)=wf at *;obtain⟨q0,q1,q2,q3⟩:=T.o;refine fI (v:=.agg #[I J 507,Z U 0 0,Z U 0 0]) (by simp[results,results143,go_sem,q0,q1,q2]) rfl ?_;rw[HR];exact q3
      | false =>
        have q:=of_decide_eq_false HBf.o.symm;have HR:f=Gt.ends (Gt.adds ⟨s,[],[],0⟩ C):=hR.trans (Gt.TM H hpp (by rw[<-HRe.o];exact q));have hgc:=HG wc (then_ u.o b);have hz3:=b.size;have hz2:=u.o.size
        have hL0:=lN.begin_ (pK wc (then_ u.o b)) (by omega);have hbL:=(eY _ wc).alloc (aM _) (K #[Q (M ⟨gs,0,U⟩),Z U 0 0,Z U 0 0] 252);have ag0:=HPD.o.turns (Turns.of_below (S:=fun _=>False) (then_ b hbL)) (fun _ _ e=>e);have hwB:=then_ (then_ u.o b) hbL;have hpw:vY w0 (wc.alloc (K #[Q (M ⟨gs,0,U⟩),Z U 0 0,Z U 0 0] 252)) (fun k=>(S k∧k<w.heap.size)∨k=wc.heap.size):=⟨HP.pow,HP.qL.trans (hwB.mono HP.qL.size),fun k e=>by
         rcases e with e | e
         . exact HP.far k e.1
         . have:=HP.qL.size;omega⟩
        have HAA:=H9 (Ov hpw ⟨s,[],[],0⟩ hL0 ⟨uR.o,aA _,A (aA _)⟩ rfl C ag0 (fun k e=>⟨fun e2=>by
         rcases e2 with e2 | e2
         . have:=e2.2;have:=aeo;omega
         . omega,by rw[fG];omega⟩) rfl hpl HPz.o)
        have HX0:OT S w gs (w.heap.size+1) wc.heap.size (K #[I J 0,Z U 0 0,Z U 0 0] 109) (wc.alloc (K #[Q (M ⟨gs,0,U⟩),Z U 0 0,Z U 0 0] 252)) s [] [] (wc.alloc (K #[Q (M ⟨gs,0,U⟩),Z U 0 0,Z U 0 0] 252)):=⟨hL0.mono (fun k _ e=>A e),Turns.refl _ _,(HX3.stay hbL).box⟩;have d:w.heap.size<=w.heap.size+1∧w.heap.size+1<wc.heap.size∧wc.heap.size<(wc.alloc (K #[Q (M ⟨gs,0,U⟩),Z U 0 0,Z U 0 0] 252)).heap.size:=⟨by omega,by have:=agZ;have:=b.size;omega,by rw[fG];omega⟩;have ag2:=Gt.IX C (r:=⟨s,[],[],0⟩) uR.o;have ag3:=Gt.Ep C ⟨s,[],[],0⟩;have ag4:(Gt.adds ⟨s,[],[],0⟩ C).ids.length<=1000000:=by simp at ag3;omega
        generalize Gt.adds ⟨s,[],[],0⟩ C=j at *;go_upto_region 10 with fail
        generalize hBB:(wc.alloc (K #[Q (M ⟨gs,0,U⟩),Z U 0 0,Z U 0 0] 252))=B at *;go_wp2_with fail
        refine HAA.o.mono ?_;rintro e w5 ⟨rfl,hL5,uO⟩;have y:OT S w gs (w.heap.size+1) wc.heap.size (K #[I J 0,Z U 0 0,Z U 0 0] 109) B j.s j.ids j.told w5:=HX0.did d.1 d.2.1 d.2.2 (hL5.mono (fun k _ e=>by
         rcases e with e | e
         . exact A (A e)
         . exact R e)) (uO.mono (fun k e=>A e))
        by_cases z:j.code=0
        . have tc:((j.code:Int) != 0)=F:=by rw[z];rfl
          have HRr:f=(Sr.sync j.s,(201,[],j.told)):=by rw[HR];unfold Gt.ends;rw[if_pos z]
          have k0:=y.land.cell0;have IE:=y.land.sync;rw[z];go_wp2_with fail
          refine IE.mono ?_;rintro e w6 ⟨rfl,hL6,zG⟩;have x:=y.did d.1 d.2.1 d.2.2 hL6 zG;have HRp:=Tj x.land;go_wp2_with fail
          refine HRp.mono ?_;rintro e w7 ⟨⟨bo7,aeu,rfl,hB7,hS7⟩,UM⟩;obtain⟨⟨z0,z1,z2,y0,y1,y2⟩,T⟩:=((x.bx d.1 d.2.1 d.2.2 hwB).stay UM).ends (st:=201) (mh:=201) rfl (l:=[]) (body:=j.told) rfl (jl.nil _) (jk _ _ _) rfl hB7 (fun a e=>by
           have:=d;rcases hS7 a e with (h1 | h1) | h1
           . exact⟨A h1.1,by have:=h1.2;omega⟩
           . exact⟨R (by omega),by omega⟩
           . exact⟨R (by omega),by omega⟩)
          go_wp2;generalize (((w7.setCell ⟨w.heap.size+1,0,U⟩ _).setCell ⟨w.heap.size+1,1,U⟩ _).setCell ⟨w.heap.size+1,2,U⟩ _)=wf at *;obtain⟨q0,q1,q2,q3⟩:=T.o;refine fI (v:=.agg #[I J 201,Z U 0 0,Z bo7 j.told.length aeu]) (by simp[results,results143,go_sem,q0,q1,q2]) rfl ?_;rw[HRr];exact q3
        . have tc:((j.code:Int) != 0)=true:=by rw[cK];omega
          have HRr:f=(Sr.sync (Gt.nO j.s j.ids),(Gt.stat j.code,[],[])):=by rw[HR];unfold Gt.ends;rw[if_neg z]
          have HDa:=Lh y.land ag2 ag4;have xB:=fun(W:X)=>Tk (L:=wc.heap.size) (w:=W) j.code z;go_wp2_with fail
          refine HDa.mono ?_;rintro e w6 ⟨rfl,hL6,zG⟩;have x:=y.did d.1 d.2.1 d.2.2 hL6 zG;have k0:=x.land.cell0;have IE:=x.land.sync;go_wp2_with fail
          refine IE.mono ?_;rintro e w7 ⟨rfl,hL7,D9⟩;have HX7:=x.did d.1 d.2.1 d.2.2 hL7 D9;go_wp2_with fail
          refine(xB _).mono ?_;rintro e w8 ⟨rfl,hb8⟩;obtain⟨⟨z0,z1,z2,y0,y1,y2⟩,T⟩:=((HX7.bx d.1 d.2.1 d.2.2 hwB).stay hb8).ends (st:=Gt.stat j.code) (mh:=(Gt.stat j.code:Int)) rfl (l:=[]) (body:=[]) rfl (jl.nil _) (jk _ _ _) rfl (gN.nil _) (jk _ _ _);go_wp2;generalize (((w8.setCell ⟨w.heap.size+1,0,U⟩ _).setCell ⟨w.heap.size+1,1,U⟩ _).setCell ⟨w.heap.size+1,2,U⟩ _)=wf at *;obtain⟨q0,q1,q2,q3⟩:=T.o;refine fI (v:=.agg #[I J (Gt.stat j.code:Int),Z U 0 0,Z U 0 0]) (by simp[results,results143,go_sem,q0,q1,q2]) rfl ?_;rw[HRr];exact q3
end
section
variable {w w0:X} {S:Nat->Prop} {g gs:Nat} {s:Sr.Sh}
theorem ZN (t:ay):Tu.ours t=Gt.ours t:=rfl
theorem OU (p:vY w0 w S)(h:gV w S gs s)(ok:Sr.Ok s)(hg:w.cell? ⟨g,0,U⟩=M (Q (M ⟨gs,0,U⟩))){m t:ay}{mi ln:Int}{l:au}{fo:ak}{fV nf:Nat}(hF:pE w l fo fV nf)(body:av){bo:ak}{fU nb:Nat}(hb:body.length=nb)(hB:gN w bo fU body)(hnb:nb<=20000)(ht:t.size<=100000):
 Calls prog 86 #[Q (M ⟨g,0,U⟩),.agg #[V m,V t,I J mi,Z fo nf fV,I J ln,Z bo nb fU]] w fun e w'=>QK S w gs (Gt.answer Tu.iQ s m t l body) e w':=by
 obtain⟨H,c⟩:∃H,H=Gt.answer Tu.iQ s m t l body:=⟨_,rfl⟩;rw[<-c];unfold Gt.answer at c;obtain⟨hX,B⟩:=Av.start h (K #[V m,V t,I J mi,Z fo nf fV,I J ln,Z bo nb fU] 84) (K #[I J 0,Z U 0 0,Z U 0 0] 109);have hlg:=fH w _ hg;have f:Below w.heap.size w ((w.alloc (K #[V m,V t,I J mi,Z fo nf fV,I J ln,Z bo nb fU] 84)).alloc (K #[I J 0,Z U 0 0,Z U 0 0] 109)):=then_ ((eY _ w).alloc (aM _) _) ((eY _ _).alloc (aM _) _);have hs1:((w.alloc (K #[V m,V t,I J mi,Z fo nf fV,I J ln,Z bo nb fU] 84)).alloc (K #[I J 0,Z U 0 0,Z U 0 0] 109)).heap.size=w.heap.size+2:=by simp
 have d:=fun W=>Sj t W ht;have L:=fun st W=>pF st W;go_enter func86,ntmps86;go_upto_region 1 with fail
 generalize hW1:((w.alloc (K #[V m,V t,I J mi,Z fo nf fV,I J ln,Z bo nb fU] 84)).alloc (K #[I J 0,Z U 0 0,Z U 0 0] 109))=j at *;have a0:=eZ j _ 0 _ _ _ B;have a1:=eZ j _ 1 _ _ _ B;have a2:=eZ j _ 2 _ _ _ B;have a3:=eZ j _ 3 _ _ _ B;have a4:=eZ j _ 4 _ _ _ B;have a5:=eZ j _ 5 _ _ _ B;have hg1:=(f.cell (p:=⟨g,0,U⟩) hlg).trans hg;have N:=hX.st;have T:=hF.stay f;have hB1:=hB.stay f;have i:vY w0 j (fun k=>gB S w k∧k≠w.heap.size+1):=⟨p.pow,p.qL.trans (f.mono p.qL.size),fun k e=>by
  rcases e.1 with e | e
  . exact p.far k e
  . exact dB p.qL.size e⟩
 have HX:=hX;have UD:=H9 hs1
 rw[show Gt.ours t=Tu.ours t from(ZN t).symm] at c;cases ho:Tu.ours t with
 | true =>
   rw[ho,if_pos rfl] at c;have ZO:=QJ (m:=m) (t:=t) (mi:=mi) (ln:=ln) (bo:=bo) (fU:=fU) (nb:=nb) (w:=j.drew) ⟨i.pow,then_ i.qL (gy _ _),i.far⟩ (N.stay (gy _ _)) ok (T.stay (gy _ _)) body hb (hB1.stay (gy _ _)) (by omega) ht;rw[ho] at d;generalize Tu.iQ s m t l body=tr at *;obtain⟨s2,b,l2⟩:=tr;go_wp2_with fail
   refine(d _).mono ?_;rintro e w1 ⟨rfl,n⟩;subst n;go_upto_region 2 with fail
   go_cut [] (fun wd=>∃(C:ak) (D G:Nat),wd.cell? ⟨w.heap.size+1,0,U⟩=M (I J (b:Int))∧wd.cell? ⟨w.heap.size+1,1,U⟩=M (Z C D G)∧wd.cell? ⟨w.heap.size+1,2,U⟩=M (Z U 0 0)∧QK S w gs (s2,(b,l2,[])) (Y (.agg #[I J (b:Int),Z C D G,Z U 0 0])) wd)
   case first =>
    go_region_law (first
     | (go_simp;go_at_call 41;refine ZO.mono ?_;rintro e w9 ⟨⟨C,G,D,rfl,lM,kG⟩,kE,qz⟩;have hX9:=(HX.stay (gy _ _)).did kE qz;obtain⟨⟨z0,z1,z2,y0,y1,y2⟩,q⟩:=hX9.ends (st:=b) (mh:=(b:Int)) rfl (l:=l2) (body:=[]) lM kG.qP (fun a e=>by have h1:w1.heap.size<=a.block:=(kG.block a e).1;have:=UD.o;exact⟨R (by omega),by omega⟩) rfl (gN.nil _) (jk _ _ _);clear lM kG kE qz hX9))
    all_goals
     go_wp2;go_meet;exact⟨C,D,G,q.o⟩
   case rest =>
    obtain⟨C,D,G,r,u,x,y⟩:=hcut;go_wp2;refine fI (v:=.agg #[I J (b:Int),Z C D G,Z U 0 0]) (by simp[results,results86,go_sem,r,u,x]) rfl ?_;rw[c];exact y
 | false =>
   rw[ho,if_neg (by simp)] at c;rw[ho] at d;obtain⟨tt,htt⟩:∃tt,(t.toList==([47,102,111,114,109]:av))=tt:=⟨_,rfl⟩;have eT:t=Gt.aag<->tt=true:=by
    rw[<-htt,aS,Lib.toList_data,ByteArray.ext_iff,<-eU];rfl
   obtain⟨tm,htm⟩:∃tm,(m.toList==([80,79,83,84]:av))=tm:=⟨_,rfl⟩;have eM:m=Gt.AP<->tm=true:=by
    rw[<-htm,aS,Lib.toList_data,ByteArray.ext_iff,<-eU];rfl
   cases tt with
   | false =>
     rw[if_pos (fun e=>by have:=eT.1 e;cases this)] at c;go_wp2_with fail
     refine(d _).mono ?_;rintro e w1 ⟨rfl,n⟩;subst n;go_wp2_with fail
     refine(L 404 _).mono ?_;rintro e w3 ⟨rfl,z⟩;obtain⟨⟨z0,z1,z2,y0,y1,y2⟩,q⟩:=(HX.stay z).ends (st:=404) (mh:=404) rfl (l:=[]) (body:=[]) rfl (jl.nil _) (jk _ _ _) rfl (gN.nil _) (jk _ _ _);go_wp2;generalize (((w3.setCell ⟨w.heap.size+1,0,U⟩ _).setCell ⟨w.heap.size+1,1,U⟩ _).setCell ⟨w.heap.size+1,2,U⟩ _)=wf at *;obtain⟨r,u,x,y⟩:=q.o;refine fI (v:=.agg #[I J 404,Z U 0 0,Z U 0 0]) (by simp[results,results86,go_sem,r,u,x]) rfl ?_;rw[c];exact y
   | true =>
     rw[if_neg (fun e=>e (eT.2 rfl))] at c;cases tm with
     | false =>
       rw[if_pos (fun e=>by have:=eM.1 e;cases this)] at c;go_wp2_with fail
       refine(d _).mono ?_;rintro e w1 ⟨rfl,n⟩;subst n;go_wp2_with fail
       refine(L 405 _).mono ?_;rintro e w3 ⟨rfl,z⟩;obtain⟨⟨z0,z1,z2,y0,y1,y2⟩,q⟩:=(HX.stay z).ends (st:=405) (mh:=405) rfl (l:=[]) (body:=[]) rfl (jl.nil _) (jk _ _ _) rfl (gN.nil _) (jk _ _ _);go_wp2;generalize (((w3.setCell ⟨w.heap.size+1,0,U⟩ _).setCell ⟨w.heap.size+1,1,U⟩ _).setCell ⟨w.heap.size+1,2,U⟩ _)=wf at *;obtain⟨r,u,x,y⟩:=q.o;refine fI (v:=.agg #[I J 405,Z U 0 0,Z U 0 0]) (by simp[results,results86,go_sem,r,u,x]) rfl ?_;rw[c];exact y
     | true =>
       rw[if_neg (fun e=>e (eM.2 rfl))] at c;have HFm:=XA (g:=g) (m:=m) (t:=t) (mi:=mi) (ln:=ln) i N ok hg1 T body hb hB1 hnb;generalize Gt.land s l body=tr at *;obtain⟨s2,b,l2,b2⟩:=tr;go_wp2_with fail
       refine(d _).mono ?_;rintro e w1 ⟨rfl,n⟩;subst n;go_wp2_with fail
       refine HFm.mono ?_;rintro e w9 ⟨⟨fo9,aew,nf9,bo9,aex,nb9,rfl,lM,hF9,hm9,pV,hf9,hb9⟩,kE,qz⟩;have hno:∀k,gB (fun k=>gB S w k∧k≠w.heap.size+1) w1 k->gB S w k∧k≠w.heap.size+1:=fun k e=>by
        have:=UD.o;rcases e with e | e
        . exact e
        . exact⟨R (by omega),by omega⟩
       obtain⟨⟨z0,z1,z2,y0,y1,y2⟩,q⟩:=(HX.did kE qz).ends (st:=b) (mh:=(b:Int)) rfl (l:=l2) (body:=b2) lM hF9 (fun a e=>hno _ (hf9 a e)) hm9 pV (fun a e=>hno _ (hb9 a e));go_wp2;generalize (((w9.setCell ⟨w.heap.size+1,0,U⟩ _).setCell ⟨w.heap.size+1,1,U⟩ _).setCell ⟨w.heap.size+1,2,U⟩ _)=wf at *;obtain⟨r,u,x,y⟩:=q.o;refine fI (v:=.agg #[I J (b:Int),Z fo9 nf9 aew,Z bo9 nb9 aex]) (by simp[results,results86,go_sem,r,u,x]) rfl ?_;rw[c];exact y
end
theorem Ml (l:List Int):(qR l).length=l.length:=by unfold qR;rw[aF]
theorem Yj (l:List Int):∀u∈qR l,u.oneCell'=true:=fun u a=>by
 obtain⟨i,_,rfl⟩:=aN.1 a;rfl
theorem FI (l:List Int)(fo:ak)(fV n:Nat)(w:X)(f:jl w fo fV n (qR l))(s:l.length=n)(N:n<=1000000):
 Calls prog 68 #[Z fo n fV] w fun e w'=>∃ao cap,e=Y (Z ao n cap)∧gH w' w.heap.size 3 1 ao cap n (qR l)∧Below w.heap.size w w':=by
 have S:∀(w:X) (a:ak) (n c g i:Nat),(binOp .eql 55 (Z a n c) (Z U g i)).run prog w=.ok (.bool a.isNone) w:=fun w a n c g i=>Lib.run_eql_slice_nil w _ _ a n c g i underlying55;cases fo with
 | none =>
   have T:=f.2.1 rfl;have j:n=0:=by have:=f.1;omega
   subst j;obtain rfl:l=[]:=dh s;go_enter func68,ntmps68;go_wp2;go_ret;exact⟨U,0,rfl,gH.nil _ _ _ _,eY _ _⟩
 | some a =>
   have t:=Ml l;obtain⟨u,k,m,p,r⟩:=info_parts yU;have v:=k;have x:=H9 m;have y:=H9 p;have z:=H9 r
   have B:(qR l).length=n*1:=by rw[s] at t;omega
   go_enter func68,ntmps68;go_wp2_with (at_builtin;refine iq rfl (.tmp 5) (.tmp 6) 55 rfl w.heap.size 3 u (I J 0) 1 8 underlying55 v x.o y.o z.o rfl (by decide) (n:=0) (xs:=[]) rfl (fM _ #[] 0 (by simp) (by decide) rfl) rfl (f.alloc _) B (Yj l) (by omega) (by omega) (by simp) ?_;intro C D W b d G;have H:=H9 b;have L:=H9 d;clear b d G)
   go_ret;refine⟨C,D,by simp,?_,?_⟩
   . have:=H.o;rw[dx,aZ] at this;exact this
   . exact((eY _ _).alloc (aM _) _).grown L.o (by simp) (fun q e=>by simp[fZ] at e;omega)
end Go.Proofs.YthhklgjjnaeaoaaGreatDoor