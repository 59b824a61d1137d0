/- Small texts, one behind the other: RfRp, RpC, RpD, GaB, GaC, GaD, GaE, GaF, GaG, GaH, GaI. -/
import Derived.Deep.RegionHeldLaw
import Derived.Test.YtjmndjmhjleabaaGreatDoorPk45
open Go.Value renaming int->I,string->V,slice->Z,pointer->Q
open Go.IntKind renaming i64->J
open Go.Obj renaming cells->K
open Go.Ending renaming returned->Y
open Option renaming none->U,some->M
open Bool renaming false->F
open Or renaming inl->A,inr->R
open Go renaming World->X
set_option maxHeartbeats 6400000
set_option maxRecDepth 100000
open Go.Proofs.Tryz
namespace Go.Proofs.YtjmndjmhjleabaaGreatDoor
open Go.RowKit
def Zt:av:=⟨#[99,111,110,116,101,110,116,45,108,101,110,103,116,104]⟩
def Rp.out (st:Int)(l:ak)(body:au):au×Nat:=Rp.text st l (Fd.vals Zt l).length body
inductive aej (w:X)(r:au×Nat)(e:Ending)(w':X):Prop
 | bad (c:Nat) (hc:c≠0) (he:e=Y (.tuple #[Z U 0 0,I J (c:Int)])) (ht:r=([],c)) (hB:Below w.heap.size w w')
 | ok (g cap n:Nat) (he:e=Y (.tuple #[Z (M ⟨g,0,U⟩) n cap,I J 0])) (hn:n=r.1.length) (ht:r.2=0) (hO:Buf w' w.heap.size g cap r.1) (hB:Below w.heap.size w w')
theorem ED (p:av×av)(h:p.1.size<=2000∧p.2.size<=2000):(Rp.pG p).length<=4004:=by
 have a:p.1.data.toList.length=p.1.size:=by rw[aN];rfl
 have b:p.2.data.toList.length=p.2.size:=by rw[aN];rfl
 have c:(Fd.text p.1.data.toList p.2.data.toList).1.length<=p.1.data.toList.length+2+p.2.data.toList.length:=by
  unfold Fd.text;split
  . simp
  . split
    . simp
    . split
      . simp
      . simp;omega
 unfold Rp.pG;rw[aV];simp only[aW,bZ];omega
theorem BX:∀(l:ak),(∀p∈l,p.1.size<=2000∧p.2.size<=2000)->(l.flatMap Rp.pG).length<=l.length*4004
 | [],_=>by simp
 | p :: t, h => by
   have b:=BX t (fun q a=>h q (by simp[a]));have c:=ED p (h p (by simp));rw[aU,aV,aW];omega
theorem Rp.Io (p:av×av)(h:(Fd.text p.1.data.toList p.2.data.toList).2=0):∀l:ak,Rp.code (l++[p])=Rp.code l
 | []=>by simp[Rp.code,h]
 | q::t=>by rw[dY,Rp.code,Rp.code,Rp.Io p h t]
theorem Lx (l:ak):Fd.vals Wx l=Fd.vals Zt l:=by
 unfold Fd.vals;rw[show Ch.lower Wx.data.toList=Ch.lower Zt.data.toList by decide]
def LA (nb:Nat):av×av:=(Wx,⟨(Ch.jG 8 nb).toArray⟩)
theorem Wy {nb:Nat}(h:nb<1000000000):(Fd.text (LA nb).1.data.toList (LA nb).2.data.toList).2=0:=(Rp.QG h).1
theorem Wz {nb:Nat}(h:nb<1000000000):Rp.pG (LA nb)=Rp.cl++Ch.jG 8 nb++[13,10]:=by
 unfold Rp.pG;have:=(Rp.QG h).2;rw[show(LA nb).1.data.toList=Rp.nCL from rfl,show(LA nb).2.data.toList=Ch.jG 8 nb from rfl,this]
theorem Rp.SA {st:Int}{l:ak}{body:au}(h:Rp.fault st l≠0):Rp.out st l body=([],Rp.fault st l):=by
 unfold Rp.fault at h ⊢;unfold Rp.out Rp.text;rw[Lx] at h ⊢;split
 . rfl
 . rename_i a;rw[if_neg a] at h;split
   . rfl
   . rename_i b;rw[if_neg b] at h;split
     . rfl
     . rename_i c;rw[if_neg c] at h;exact absurd rfl h
theorem Rp.WA {st:Int}{l:ak}{body:au}(h:Rp.fault st l=0)(b:body.length<1000000000):Rp.word st≠[]∧l.length<16∧Rp.out st l body=if Rp.code (l++[LA body.length])≠0 then ([],Rp.code (l++[LA body.length])) else (Rp.first st++(l++[LA body.length]).flatMap Rp.pG++[13,10]++body,0):=by
 rw[Rp.Io _ (Wy b),List.flatMap_append];unfold Rp.fault at h;unfold Rp.out Rp.text;rw[Lx] at h;by_cases a:Rp.word st=[]
 . rw[if_pos a] at h;cases h
 rw[if_neg a] at h ⊢;by_cases c:16<=l.length
 . rw[if_pos c] at h;cases h
 rw[if_neg c] at h ⊢;by_cases d:(Fd.vals Zt l).length≠0
 . rw[if_pos d] at h;cases h
 rw[if_neg d];refine⟨a,by omega,?_⟩;split
 . rfl
 . congr 1;simp[Wz b]
structure LB (w:X)(cs:Array Value)(T:Nat)(ls:ak)(ao:aj)(iK g cap:Nat)(acc:au)(W:X):Prop where
 one:jI w cs T W
 buf:Buf W (w.heap.size+1) g cap acc
 row:jm W ao iK ls.length (gT ls)
 apart:∀a,ao=M a->a.block≠g∧a.block<W.heap.size
theorem LB.stay {w W d:X}{f:Array Value}{T:Nat}{i:ak}{ao:aj}{j g cap:Nat}{b:au}(h:LB w f T i ao j g cap b W)(c:Below W.heap.size W d):LB w f T i ao j g cap b d :=
 ⟨h.one.stay c,h.buf.keep c,h.row.stay c,fun a e=>⟨(h.apart a e).1,cu (h.apart a e).2 c.size⟩⟩
theorem LB.grow {w W f:X}{m:Array Value}{T:Nat}{n:ak}{ao:aj}{o g cap d b:Nat}{i c:au}(h:LB w m T n ao o g cap i W)(p:Buf f (w.heap.size+1) d b c)(j:Turns (fun k=>k=g) W f)(l:d=g∨d=W.heap.size):LB w m T n ao o d b c f:=by
 have q:=h.buf.Ic;refine⟨h.one.turns j (fun k e=>by omega),p,h.row.turns j (fun a e=>(h.apart a e).1),fun a e=>⟨fun r=>?_,cu (h.apart a e).2 j.size⟩⟩;obtain⟨s,t⟩:=h.apart a e;rcases l with l | l
 . omega
 . omega
theorem Om (w:X)(st:Int)(l:ak)(fo bo:aj)(gL gJ nb:Nat)(body:au)(hl:jm w fo gL l.length (gT l))(hN:l.length<=1000000)(hs:∀p∈l,p.1.size<=2000∧p.2.size<=2000)(hb:body.length=nb)(hBd:iG w bo gJ body)(hnb:nb<=100000)(hP:ny w):
 Calls prog 107 #[.agg #[I J st,Z fo l.length gL,Z bo nb gJ]] w fun e w'=>aej w (Rp.out st l body) e w':=by
 subst hb;obtain⟨j0,hj0,hy0,hy1,hy2⟩:=info_parts jN;have Hj:=H9 hj0;have MZ:=H9 hy0;have M0:=H9 hy1;have M4:=H9 hy2
 obtain⟨i0,hi0,hz0,hz1,hz2⟩:=info_parts rT;have Hi:=H9 hi0;have kJ:=H9 hz0;have kG:=H9 hz1;have kK:=H9 hz2
 have HV:=H9 hl;have HS:=H9 hs;have EB:=H9 hBd;have HP:=H9 hP
 have HX:Hid (∀W,jI w #[I J st,Z fo l.length gL,Z bo body.length gJ] 88 W->W.cell? ⟨w.heap.size,0,U⟩=M (I J st)∧W.cell? ⟨w.heap.size,1,U⟩=M (Z fo l.length gL)∧W.cell? ⟨w.heap.size,2,U⟩=M (Z bo body.length gJ)):=fun W h=>⟨h.cell 0,h.cell 1,h.cell 2⟩;have H0:=H9 (jI.made w #[I J st,Z fo l.length gL,Z bo body.length gJ] 88);have HFa:=H9 (Oj _ st l fo bo gL gJ body.length (hl.stay H0.o.below) hN hs);have hwl:=Rp.Ku st;clear hl hs hBd hj0 hy0 hy1 hy2 hi0 hz0 hz1 hz2 hP;obtain⟨x,s,y⟩:=HX.o _ H0.o;by_cases B:Rp.fault st l=0
 . obtain⟨hwd,h16,hout⟩:=Rp.WA (body:=body) B (by omega);have HT:=H9 hout;rw[B] at HFa;clear hout B;obtain⟨hs1,hs2⟩:=Rp.Vr hwd;obtain⟨b,rfl⟩:∃b:Nat,st=(b:Int):=⟨st.toNat,by omega⟩;have Zr:Hid (∀W,Calls prog 145 #[I J (b:Int)] W fun e w'=>e=Y (V ⟨(Rp.word b).toArray⟩)∧w'=W):=fun W=>EC b W;have hwz:(⟨(Rp.word b).toArray⟩:av).size<=22:=by show(Rp.word b).toArray.size<=22;rw[bL];exact hwl
   have HWd:Hid ((⟨(Rp.word b).toArray⟩:av).data.toList=Rp.word b):=rfl;have HNm:Hid (∀W,jI w #[I J (b:Int),Z fo l.length gL,Z bo body.length gJ] 88 W->Calls prog 122 #[I J (b:Int)] W fun e w'=>e=Y (V ⟨(Ch.jG 8 b).toArray⟩)∧Below W.heap.size W w'):=fun W h=>tZ b (by omega) W (HP.o.stay h.below);have WC:Hid (∀W,jI w #[I J (b:Int),Z fo l.length gL,Z bo body.length gJ] 88 W->Calls prog 122 #[I J (body.length:Int)] W fun e w'=>e=Y (V (LA body.length).2)∧Below W.heap.size W w'):=fun W h=>tZ body.length (by omega) W (HP.o.stay h.below);have hdl:=Ch.jW 8 b;have hdz:(⟨(Ch.jG 8 b).toArray⟩:av).size<=9:=by show(Ch.jG 8 b).toArray.size<=9;rw[bL];omega
   have HDd:Hid ((⟨(Ch.jG 8 b).toArray⟩:av).data.toList=Ch.jG 8 b):=rfl;have ahK:=Ch.jW 8 body.length;have hpz:(LA body.length).2.size<=9:=by show(Ch.jG 8 body.length).toArray.size<=9;rw[bL];omega
   have HPc:Hid (∀p∈l++[LA body.length],p.1.size<=2000∧p.2.size<=2000):=fun p hp=>by
    rcases bA.1 hp with hp | hp
    . exact HS.o p hp
    . rw[bB.1 hp];exact⟨by show Wx.size<=2000;decide,by omega⟩
   have L:Hid ((l++[LA body.length]).length=l.length+1):=by unfold Hid;simp
   have HPV:Hid (gT (l++[LA body.length])=gT l++[V Wx,V (LA body.length).2]):=by unfold Hid;simp[gT,LA]
   generalize ahL:(LA body.length).2=C at *;generalize D:l++[LA body.length]=c at *;clear ahL D;generalize (⟨(Rp.word b).toArray⟩:av)=wd at *;generalize (⟨(Ch.jG 8 b).toArray⟩:av)=db at *;clear hwd hwl hdl ahK;obtain⟨z,hz⟩:∃z:av,z=⟨#[72,84,84,80,47,49,46,49,32]⟩++db++⟨#[32]⟩++wd++⟨#[13,10]⟩:=⟨_,rfl⟩;have hzs:z.size=9+db.size+1+wd.size+2:=by rw[hz];simp only[bM];rfl
   have hzd:z.data.toList=Rp.first b:=by rw[hz];simp only[Ch.data_append,HDd.o,HWd.o];rfl
   have t:=fun W=>NR (P:=prog) W z 9 31 5 (by unfold maxLen;omega) underlying9 underlying31 underlying5;obtain⟨ael,t⟩:=Classical.skolem.1 t;obtain⟨wF,t⟩:=Classical.skolem.1 t;have hcv:=fun W=>(t W).1;have Zu:Hid (∀W,Below W.heap.size W (wF W)∧Buf (wF W) W.heap.size W.heap.size (ael W) (Rp.first b)):=fun W=>by have:=(t W).2;rw[hzd] at this;exact this
   obtain⟨zn,hzn⟩:∃zn,z.size=zn:=⟨_,rfl⟩;have HZl:Hid ((Rp.first b).length=zn):=by unfold Hid;rw[<-hzd,aN];exact hzn
   have hzl:zn<=60:=by omega
   rw[hzn] at hcv;rw[hz] at hcv;clear t hzs hzd hz hzn;go_enter func107,ntmps107;go_wp2_with fail
   refine HFa.o.mono ?_;rintro e w1 ⟨rfl,m⟩;have CJ:=H9 (H0.o.stay m);clear m H0 x s y HFa;obtain⟨x,s,y⟩:=HX.o w1 CJ.o;go_upto_region 4 with fail
   go_cut [5] (fun v wc=>∃g r,v=Z (M ⟨g,0,U⟩) zn r∧Buf wc (w.heap.size+1) g r (Rp.first b)∧jI w #[I J (b:Int),Z fo l.length gL,Z bo body.length gJ] 88 wc)
   case first =>
    have G:=H9 (CJ.o.stay (gP _ _));have Yq:Hid (∀W,jI w #[I J (b:Int),Z fo l.length gL,Z bo body.length gJ] 88 W->(wF W).cell? ⟨w.heap.size,0,U⟩=M (I J (b:Int))):=fun W h=>(HX.o _ (h.stay (Zu.o W).1)).1;have Oo:Hid (∀W,jI w #[I J (b:Int),Z fo l.length gL,Z bo body.length gJ] 88 W->Buf (wF W) (w.heap.size+1) W.heap.size (ael W) (Rp.first b)∧jI w #[I J (b:Int),Z fo l.length gL,Z bo body.length gJ] 88 (wF W)):=fun W h=>by
     have u:=(Zu.o W).2;exact⟨⟨h.lt,u.lt,u.le,u.max,u.holds,u.there⟩,h.stay (Zu.o W).1⟩
    go_region_held (fun W=>W.cell? ⟨w.heap.size,0,U⟩=M (I J (b:Int))) (first | exact Yq.o _ G.o | go_keep) (first
     | (go_at_call 122;refine(HNm.o _ G.o).mono ?_;rintro e v1 ⟨rfl,m⟩;have Yr:=G.o.stay m;clear G;have G:=H9 Yr;have q0:=(HX.o v1 Yr).1;clear Yr m)
     | (go_at_call 145;refine(Zr.o _).mono ?_;rintro e v1 ⟨rfl,hv1⟩;subst hv1))
    all_goals
     (try go_wp2);go_meet;obtain⟨f1,f2⟩:=Oo.o _ G.o;exact⟨_,_,rfl,f1,f2⟩
   case rest =>
    obtain⟨g,r,rfl,u,hOc⟩:=hcut;have HU:=H9 u;have HOc:=H9 hOc
    clear x s y u hOc CJ Zr HNm Zu hcv HDd HWd hwz hdz;obtain⟨x,s,y⟩:=HX.o wc HOc.o;go_wp2_with fail
    refine(WC.o _ HOc.o).mono ?_;rintro e w2 ⟨rfl,hb2⟩;have BO:=H9 (HOc.o.stay hb2);have HU2:=H9 (HU.o.keep hb2)
    clear x s y hb2 HU HOc WC;obtain⟨x,s,y⟩:=HX.o w2 BO.o;have hOb:=BO.o.stay ((fI _ w2).alloc (aL _) (K #[V ⟨#[67,111,110,116,101,110,116,45,76,101,110,103,116,104]⟩,V C] 111));have hUb:=HU2.o.alloc (K #[V ⟨#[67,111,110,116,101,110,116,45,76,101,110,103,116,104]⟩,V C] 111);have y0:=prNew w2 ⟨#[67,111,110,116,101,110,116,45,76,101,110,103,116,104]⟩ C 111 rfl 0 _ rfl;have y1:=prNew w2 ⟨#[67,111,110,116,101,110,116,45,76,101,110,103,116,104]⟩ C 111 rfl 1 _ rfl;rw[gH,aZ] at y0 y1;go_upto_region 6 with fail
    have hgw:=HU2.o.lt;have CK:Hid (g<(w2.alloc (K #[V ⟨#[67,111,110,116,101,110,116,45,76,101,110,103,116,104]⟩,V C] 111)).heap.size):=hUb.lt;clear x s y HU2 BO hgw;generalize (w2.alloc (K #[V ⟨#[67,111,110,116,101,110,116,45,76,101,110,103,116,104]⟩,V C] 111))=j at *;generalize w2.heap.size=k2 at *;obtain⟨x,s,y⟩:=HX.o j hOb;have HOb:=H9 hOb;have HUb:=H9 hUb
    have Ao:Hid (∀W,Below j.heap.size j W->W.cell? ⟨w.heap.size,1,U⟩=M (Z fo l.length gL)∧W.cell? ⟨k2,0,U⟩=M (V ⟨#[67,111,110,116,101,110,116,45,76,101,110,103,116,104]⟩)∧W.cell? ⟨k2,1,U⟩=M (V C)):=fun W hW =>
     ⟨(hW.cell (fZ j _ s)).trans s,(hW.cell (fZ j _ y0)).trans y0,(hW.cell (fZ j _ y1)).trans y1⟩
    have Al:=H9 (fun W (hW:Below j.heap.size j W)=>CG l fo gL l.length W (HV.o.stay (then_ hOb.below hW)) rfl hN);clear hOb hUb x y;go_cut [37,38,39] (fun v37 v38 v39 wd=>∃gf SB,v37=Z (M ⟨gf,0,U⟩) (l.length+1) SB∧v38=I J ((l.length:Int)+1)∧v39=I J 0∧gU wd 0 111 2 (M ⟨gf,0,U⟩) SB (l.length+1) (gT l++[V ⟨#[67,111,110,116,101,110,116,45,76,101,110,103,116,104]⟩,V C])∧j.heap.size<=gf∧Below j.heap.size j wd)
    case first =>
     have abT:Hid (Below j.heap.size j j.drew):=gP _ _;have abU:Hid (Below j.heap.size j (j.alloc (K #[V ⟨#[67,111,110,116,101,110,116,45,76,101,110,103,116,104]⟩,V C] 111)).drew):=((fI _ _).alloc (aL _) _).trans (gP _ _);have Zv:Hid (l.length+1<=maxLen∧(l.length+1)*32<=140737488355328):=⟨by unfold maxLen;omega,by omega⟩;have HAt:Hid (∀(W:X) (ao:aj) (cp g6:Nat),gU W j.heap.size 111 2 ao cp l.length (gT l)->∀k,j.heap.size<=k->((Value.slice ao l.length cp).ownBlock=M g6∨g6=k)->j.heap.size<=g6):=fun W ao cp g6 hO k hk h=>by
      rcases h with h | h
      . rw[gN] at h;cases ao with
        | none=>cases h
        | some a=>injection h with h;subst h;exact(hO.block a rfl).1
      . omega
     go_region_held_law (fun w'=>w'.cell? ⟨w.heap.size,1,U⟩=M (Z fo l.length gL)∧w'.cell? ⟨k2,0,U⟩=M (V ⟨#[67,111,110,116,101,110,116,45,76,101,110,103,116,104]⟩)∧w'.cell? ⟨k2,1,U⟩=M (V C)) (first | go_keep | exact HK6.o | exact HK5.o | exact HKA.o) (first
      | (refine step_append_lies _ (by rfl) _ _ _ (by rfl) 0 111 i0 (.agg #[V ⟨#[]⟩,V ⟨#[]⟩]) 2 32 underlying66 Hi.o kJ.o kG.o kK.o (by rfl) (by decide) (Z CB l.length N) l.length (gT l) (by rfl) ((tF.o.mono (ay _)).alloc _) ⟨w5.heap.size,0,U⟩ 1 1 [V ⟨#[67,111,110,116,101,110,116,45,76,101,110,103,116,104]⟩,V C] (by rfl) (by rfl) (prNew _ _ _ _ rfl) (NW _ _) (by decide) Zv.o.1 Zv.o.2 (ay _) (w5.heap.size+1) (by simp) ?_;intro g6 cap6 w6 d f wN abV;have yt:=H9 d;have vO:=H9 (Qx (qX.o.trans ((fI _ _).alloc qX.o.size _)) tF.o f (aL _));have Yt:=H9 (HAt.o _ _ _ g6 tF.o _ (Nat.le_succ_of_le qX.o.size) wN);have HK6:=H9 (Ao.o w6 vO.o);clear d f wN abV;(try simp only[Act.put,List.getElem_toArray,List.getElem_cons_succ,List.getElem_cons_zero,List.setIfInBounds_toArray,dZ,List.set_cons_succ]))
      | (refine step_append_lies _ (by rfl) _ _ _ (by rfl) 0 111 i0 (.agg #[V ⟨#[]⟩,V ⟨#[]⟩]) 2 32 underlying66 Hi.o kJ.o kG.o kK.o (by rfl) (by decide) (Z CB l.length N) l.length (gT l) (by rfl) (tF.o.mono (ay _)) ⟨j.heap.size,0,U⟩ 1 1 [V ⟨#[67,111,110,116,101,110,116,45,76,101,110,103,116,104]⟩,V C] (by rfl) (by rfl) HNB.o (NW _ _) (by decide) Zv.o.1 Zv.o.2 (ay _) w5.heap.size (by rfl) ?_;intro g6 cap6 w6 d f wN abV;have yt:=H9 d;have vO:=H9 (Qx (qX.o) tF.o f (aL _));have Yt:=H9 (HAt.o _ _ _ g6 tF.o _ qX.o.size wN);have HK6:=H9 (Ao.o w6 vO.o);clear d f wN abV;(try simp only[Act.put,List.getElem_toArray,List.getElem_cons_succ,List.getElem_cons_zero,List.setIfInBounds_toArray,dZ,List.set_cons_succ]))
      | (go_at_call 146;refine(Al.o _ abU.o).mono ?_;rintro e w5 ⟨CB,N,rfl,Ez,A8⟩;have tF:=H9 (Ez.mono abU.o.size);have qX:=H9 (abU.o.trans (A8.mono (by simp)));have HK5:=H9 (Ao.o w5 qX.o);have HNB:=H9 (aeb A8);clear Ez A8)
      | (go_at_call 146;refine(Al.o _ abT.o).mono ?_;rintro e w5 ⟨CB,N,rfl,Ez,A8⟩;have tF:=H9 (Ez.mono abT.o.size);have qX:=H9 (abT.o.trans (A8.mono (aL _)));have HK5:=H9 (Ao.o w5 qX.o);have HKA:=H9 (Ao.o _ (qX.o.trans ((fI _ w5).alloc qX.o.size (K #[V ⟨#[67,111,110,116,101,110,116,45,76,101,110,103,116,104]⟩,V C] 111))));clear Ez A8))
     all_goals (go_wp2;go_meet;exact⟨g6,cap6,rfl,rfl,rfl,yt.o,Yt.o,vO.o⟩)
    case rest =>
     obtain⟨gf,SB,rfl,rfl,rfl,vH,Oq,hB6⟩:=hcut;have hrow:jm wc (M ⟨gf,0,U⟩) SB (l.length+1) (gT c):=by rw[HPV.o];exact vH.nP
     have J6:Hid (LB w #[I J (b:Int),Z fo l.length gL,Z bo body.length gJ] 88 c (M ⟨gf,0,U⟩) SB g r (Rp.first b) wc) :=
      ⟨HOb.o.stay hB6,HUb.o.keep hB6,by rw[L.o];exact hrow,fun a e=>by injection e with e;subst e;exact⟨by have:=CK.o;show gf≠g;omega,(vH.block _ rfl).2⟩⟩
     clear vH Oq hB6 hrow Ao Al HOb HUb y0 y1 s CK;go_wp2;go_loopw [5,39] (fun vo vi wr=>∃(i n g r:Nat),i<=l.length+1∧vi=I J i∧vo=Z (M ⟨g,0,U⟩) n r∧(Rp.first b++(c.take i).flatMap Rp.pG).length=n∧(∀p∈c.take i,(Fd.text p.1.data.toList p.2.data.toList).2=0)∧LB w #[I J (b:Int),Z fo l.length gL,Z bo body.length gJ] 88 c (M ⟨gf,0,U⟩) SB g r (Rp.first b++(c.take i).flatMap Rp.pG) wr) (fun _ vi _=>l.length+1-(intOf vi).toNat)
     case atStart=>exact⟨0,_,_,_,ay _,rfl,rfl,by simpa using HZl.o,fun p hp=>by simp at hp,by simpa using J6.o⟩
     case round =>
      obtain⟨i,n,g,r,hi,rfl,rfl,hn,BZ,hR⟩:=hrel;have HR:=H9 hR;have WE:=H9 hn;have HZr:=H9 BZ
      have hnl:n<=200000:=by
       have h2:=BX (c.take i) (fun p hp=>HPc.o p (List.mem_of_mem_take hp));have h3:(c.take i).length<=16:=by rw[bX,L.o];omega
       rw[aV,HZl.o] at hn;omega
      clear hR J6 hn BZ;obtain⟨x,s,y⟩:=HX.o wr HR.o.one;by_cases hlt:i<l.length+1
      . have hlt':(i:Int)<(l.length:Int)+1:=by omega
        have H:i<c.length:=by rw[L.o];exact hlt
        have hp1:=HR.o.row.cell (nX c i H).1;have hp2:=HR.o.row.cell (nX c i H).2;rw[gH,aZ] at hp1 hp2;have hfc:=HR.o.row.1;rw[L.o] at hfc;have hps:=HPc.o c[i] (aB H);have tC:Hid (c.take (i+1)=c.take i++[c[i]]):=bN H;have uU:Hid ((Fd.text c[i].1.data.toList c[i].2.data.toList).2≠0->Rp.code c=(Fd.text c[i].1.data.toList c[i].2.data.toList).2):=fun hc=>Rp.Kv c i H HZr.o hc;generalize c[i]=p at *;have uw:=H9 (WB p.1 p.2 (wr.alloc (K #[V p.1,V p.2] 111)) (by omega) (by omega));have D:=ED p hps;have Zw:Hid (Rp.pG p=(Fd.text p.1.data.toList p.2.data.toList).1++[13,10]):=rfl;have HBx:Hid (Below wr.heap.size wr (wr.alloc (K #[V p.1,V p.2] 111))):=(fI _ _).alloc (aL _) _;unfold rP at uw;generalize hcd:(Fd.text p.1.data.toList p.2.data.toList).2=cd at *;generalize (Fd.text p.1.data.toList p.2.data.toList).1=tx at *;have HCd:=H9 hcd;clear hps H hcd;by_cases hc0:cd=0
        . subst hc0;have hxz:((⟨tx.toArray⟩:av)++⟨#[13,10]⟩:av).size=tx.length+2:=by rw[bM];rfl
          have hxd:((⟨tx.toArray⟩:av)++⟨#[13,10]⟩:av).data.toList=tx++[13,10]:=by rw[Ch.data_append]
          have hxl:tx.length+2<=4004:=by
           have:=Zw.o;rw[this,aV] at D;simpa using D
          have HXz:=H9 hxz;have HXd:=H9 hxd
          clear hxz hxd D;go_wp2_with fail
          refine uw.o.mono ?_;rintro e w5 ⟨rfl,O⟩;have SC:=H9 (HR.o.stay (HBx.o.trans (O.mono (by simp))));clear O x s y uw;go_wp2_with (at_builtin;refine mO rfl (.tmp 51) (.tmp 53) 31 9 rfl 5 j0 underlying31 Hj.o MZ.o M0.o M4.o rfl SC.o.buf WE.o _ _ rfl (Ed underlying9 _ _) (by rw[HXz.o];omega) ?_;intro g7 Ju w7 S Ca T;have HR7:=H9 (SC.o.grow S Ca T);clear S Ca T)
          go_roundw
          case rel =>
           have hlc:Rp.first b++(c.take i).flatMap Rp.pG++((⟨tx.toArray⟩:av)++⟨#[13,10]⟩:av).data.toList=Rp.first b++(c.take (i+1)).flatMap Rp.pG:=by
            rw[tC.o,List.flatMap_append,HXd.o,dS];congr 2;simp[Zw.o]
           refine⟨i+1,_,g7,Ju,by omega,by go_num,rfl,?_,?_,by rw[<-hlc];exact HR7.o⟩
           . rw[<-hlc,aV,WE.o,HXd.o];simp
           . intro q hq;rw[tC.o] at hq;rcases bA.1 hq with hq | hq
             . exact HZr.o q hq
             . simp at hq;subst hq;exact HCd.o
          case measure=>simp[intOf];omega
        . have tc:((cd:Int) != 0)=true:=by rw[cO];omega
          have Ot:=H9 (uU.o hc0);have M5:=H9 hc0
          clear hc0 D;go_wp2_with fail
          refine uw.o.mono ?_;rintro e w5 ⟨rfl,O⟩;have SC:=H9 (HR.o.stay (HBx.o.trans (O.mono (by simp))));clear O x s y uw;go_wp2;(try simp only[Exit.inBlock,Exit.then]);go_ret2;refine .bad cd M5.o rfl ?_ SC.o.one.below;rw[HT.o,Ot.o,if_pos M5.o]
      . obtain rfl:i=l.length+1:=by omega
        have HXe:Hid (Rp.out b l body=(Rp.first b++(c.take (l.length+1)).flatMap Rp.pG++[13,10]++body,0)):=by
         have htl:c.take (l.length+1)=c:=by rw[<-L.o];exact bO
         have hz:=HZr.o;rw[htl] at hz;unfold Hid;rw[HT.o,Rp.GV c hz,if_neg (by simp),htl]
        clear HT;go_wp2_with (first
         | (at_builtin;refine mO rfl (.tmp 56) (.const (V ⟨#[13,10]⟩)) 31 9 rfl 5 j0 underlying31 Hj.o MZ.o M0.o M4.o rfl HR.o.buf WE.o _ _ rfl (Ed underlying9 _ _) (by show n+2<=_;omega) ?_;intro g7 Ju w7 S Ca T;have UL:=HR.o.grow S Ca T;have HR7:=H9 UL;have ahQ:=H9 (EB.o.stay UL.one.below);have z2:=(HX.o w7 UL.one).2.2;clear S Ca T UL)
         | (at_builtin;refine mO rfl (.tmp 58) (.tmp 60) 31 31 rfl 5 j0 underlying31 Hj.o MZ.o M0.o M4.o rfl HR7.o.buf (by rw[aV,WE.o];rfl) _ _ rfl (Ol underlying31 ahQ.o rfl) (by omega) ?_;intro g8 ahR w8 hU8 hT8 hg8;have HR8:=H9 (HR7.o.grow hU8 hT8 hg8);clear hU8 hT8 hg8))
        go_ret2;have u:=HR8.o.buf;refine .ok g8 ahR _ rfl ?_ (by rw[HXe.o]) (by rw[HXe.o];exact⟨by have:=u.Ic;omega,u.lt,u.le,u.max,u.holds,u.there⟩) HR8.o.one.below;rw[HXe.o];show _=(Rp.first b++(c.take (l.length+1)).flatMap Rp.pG++[13,10]++body).length;rw[aV,aV,WE.o];rfl
 . have HF:=H9 (Rp.SA (body:=body) B);have tc:(((Rp.fault st l:Nat):Int) != 0)=true:=by rw[cO];omega
   have HN0:=H9 B;generalize Rp.fault st l=fc at *;clear B;go_enter func107,ntmps107;go_wp2_with fail
   refine HFa.o.mono ?_;rintro e w1 ⟨rfl,m⟩;have CJ:=H9 (H0.o.stay m);clear m H0 x s y;go_wp2;go_ret2;exact .bad fc HN0.o rfl HF.o CJ.o.below
theorem pX (st:Int)(w:X):Calls prog 109 #[I J st] w fun e w'=>e=Y (.agg #[I J st,Z U 0 0,Z U 0 0])∧Below w.heap.size w w':=by
 go_enter func109,ntmps109;go_wp2;refine gq (v:=.agg #[I J st,Z U 0 0,Z U 0 0]) (by simp[results,results109,go_sem]) rfl ⟨rfl,?_⟩;exact(fI _ _).alloc (aL _) _
theorem EF {W:X}{b:Nat}{f g i:Value}(h:W.heap[b]? = M (K #[f,g,i] 88 (0,0)))(a c d:Value):
 (W.cell? ⟨b,0,U⟩=M f∧W.cell? ⟨b,1,U⟩=M g∧W.cell? ⟨b,2,U⟩=M i∧W.frozen? ⟨b,0,U⟩=F∧W.frozen? ⟨b,1,U⟩=F∧W.frozen? ⟨b,2,U⟩=F) ∧
 Hid ((((W.setCell ⟨b,0,U⟩ a).setCell ⟨b,1,U⟩ c).setCell ⟨b,2,U⟩ d).cell? ⟨b,0,U⟩=M a∧(((W.setCell ⟨b,0,U⟩ a).setCell ⟨b,1,U⟩ c).setCell ⟨b,2,U⟩ d).cell? ⟨b,1,U⟩=M c∧(((W.setCell ⟨b,0,U⟩ a).setCell ⟨b,1,U⟩ c).setCell ⟨b,2,U⟩ d).cell? ⟨b,2,U⟩=M d∧Turns (fun k=>k=b) W (((W.setCell ⟨b,0,U⟩ a).setCell ⟨b,1,U⟩ c).setCell ⟨b,2,U⟩ d)):=by
 have e:=fM _ b 2 _ _ d (fM _ b 1 _ _ c (fM W b 0 _ _ a h));exact⟨⟨fJ W _ 0 _ _ _ h,fJ W _ 1 _ _ _ h,fJ W _ 2 _ _ _ h,fK W _ 0 _ _ h,fK W _ 1 _ _ h,fK W _ 2 _ _ h⟩,fJ _ _ 0 _ _ _ e,fJ _ _ 1 _ _ _ e,fJ _ _ 2 _ _ _ e,gZ b [a,c,d] 0 W⟩
theorem uV (k:Int)(w:X):Calls prog 26 #[I J k] w fun e w'=>e=Y (.bool (decide (0<=k)&&decide (k<4)))∧w'=w:=by
 by_cases h:0<=k
 . have t:decide (k≥0)=true:=aH h;rw[aH h,Bool.true_and];go_enter func26,ntmps26;go_wp2;go_ret;exact⟨rfl,rfl⟩
 . have t:decide (k≥0)=F:=aI h;rw[aI h,Bool.false_and];go_enter func26,ntmps26;go_wp2;go_ret;exact⟨rfl,rfl⟩
theorem Ou (c:Nat)(w:X):Calls prog 67 #[I J (c:Int)] w fun e w'=>e=Y (.agg #[I J ((Gt.sJ c).1:Int),Z U 0 0,Z U 0 0])∧Below w.heap.size w w':=by
 have m:=H9 (fun W=>pX 413 W);have n:=H9 (fun W=>pX 400 W);by_cases h:c=4
 . subst h;go_enter func67,ntmps67;go_wp2_with fail
   refine(m.o _).mono ?_;rintro e d ⟨rfl,a⟩;obtain⟨⟨p,q,r,s,u,x⟩,f⟩:=EF ((a.block w.heap.size (by simp)).trans (fH w _)) (I J 413) (Z U 0 0) (Z U 0 0);have b:=H9 (then_ ((fI _ w).alloc (aL _) _) a);clear a;go_wp2;generalize (((d.setCell ⟨w.heap.size,0,U⟩ _).setCell ⟨w.heap.size,1,U⟩ _).setCell ⟨w.heap.size,2,U⟩ _)=y at *;obtain⟨g,i,j,l⟩:=f.o;refine gq (v:=.agg #[I J 413,Z U 0 0,Z U 0 0]) (by simp[results,results67,go_sem,g,i,j]) rfl ⟨rfl,b.o.trans (l.below (fun k e=>by omega) b.o.size)⟩
 . have t:((c:Int)==4)=F:=aR.2 (by omega);have z:(Gt.sJ c).1=400:=by unfold Gt.sJ;simp[h]
   rw[z];go_enter func67,ntmps67;go_wp2_with fail
   refine(n.o _).mono ?_;rintro e d ⟨rfl,a⟩;obtain⟨⟨p,q,r,s,u,x⟩,f⟩:=EF ((a.block w.heap.size (by simp)).trans (fH w _)) (I J 400) (Z U 0 0) (Z U 0 0);have b:=H9 (then_ ((fI _ w).alloc (aL _) _) a);clear a;go_wp2;generalize (((d.setCell ⟨w.heap.size,0,U⟩ _).setCell ⟨w.heap.size,1,U⟩ _).setCell ⟨w.heap.size,2,U⟩ _)=y at *;obtain⟨g,i,j,l⟩:=f.o;refine gq (v:=.agg #[I J 400,Z U 0 0,Z U 0 0]) (by simp[results,results67,go_sem,g,i,j]) rfl ⟨rfl,b.o.trans (l.below (fun k e=>by omega) b.o.size)⟩
theorem kQ.ahT {w:X}{g gs:Nat}{v:Nat->List Value}(h:kQ w g gs v){k:Nat}(a:k<4){m n a2 p q r s:Value}(t:v k=[m,n,a2,p,q,r,s]){o:Nat}(u:1+k*7=o)(b c d e f l:Value):
 kQ ((((((w.setCell ⟨g,o+1,U⟩ b).setCell ⟨g,o+2,U⟩ c).setCell ⟨g,o+3,U⟩ d).setCell ⟨g,o+4,U⟩ e).setCell ⟨g,o+5,U⟩ f).setCell ⟨g,o+6,U⟩ l) g gs (upd v k [m,b,c,d,e,f,l])∧Turns (fun i=>i=g) w ((((((w.setCell ⟨g,o+1,U⟩ b).setCell ⟨g,o+2,U⟩ c).setCell ⟨g,o+3,U⟩ d).setCell ⟨g,o+4,U⟩ e).setCell ⟨g,o+5,U⟩ f).setCell ⟨g,o+6,U⟩ l):=by
 subst u;refine⟨?_,gZ g [b,c,d,e,f,l] (1+k*7+1) w⟩;have:=(((((h.set a (j:=1) (by decide) b).set a (j:=2) (by decide) c).set a (j:=3) (by decide) d).set a (j:=4) (by decide) e).set a (j:=5) (by decide) f).set a (j:=6) (by decide) l;simp only[qG,iO,t] at this;exact this
theorem A9 {w:X}{g gs:Nat}{v:Nat->List Value}(h:kQ w g gs v){k:Nat}(a:k<4){l:Value}{m t:av}{mi ln:Int}{fo bo:aj}{nf gL nb gJ:Nat}(b:v k=[l,V m,V t,I J mi,Z fo nf gL,I J ln,Z bo nb gJ]):
 Calls prog 27 #[Q (M ⟨g,1+k*7,U⟩)] w fun e w'=>e=Y (.agg #[V m,V t,I J mi,Z fo nf gL,I J ln,Z bo nb gJ])∧kQ w' g gs (upd v k [l,V ⟨#[]⟩,V ⟨#[]⟩,I J 0,Z U 0 0,I J 0,Z U 0 0])∧Turns (fun i=>i=g) w w':=by
 have p:=h.at_ a (j:=1) (by decide) (u:=V m) (by rw[b];rfl);have q:=h.at_ a (j:=2) (by decide) (u:=V t) (by rw[b];rfl);have r:=h.at_ a (j:=3) (by decide) (u:=I J mi) (by rw[b];rfl);have s:=h.at_ a (j:=4) (by decide) (u:=Z fo nf gL) (by rw[b];rfl);have x:=h.at_ a (j:=5) (by decide) (u:=I J ln) (by rw[b];rfl);have y:=h.at_ a (j:=6) (by decide) (u:=Z bo nb gJ) (by rw[b];rfl);have z:=h.fz (1+k*7+1);have B:=h.fz (1+k*7+2);have C:=h.fz (1+k*7+3);have D:=h.fz (1+k*7+4);have G:=h.fz (1+k*7+5);have H:=h.fz (1+k*7+6)
 have L:=h.lt;have N:=H9 h;clear h;obtain⟨o,c⟩:∃o,1+k*7=o:=⟨_,rfl⟩;rw[c] at p q r s x y z B C D G H ⊢;have O:=H9 c;clear c;go_enter func27,ntmps27;go_wp2;have P:=N.o.ahT a b O.o (V ⟨#[]⟩) (V ⟨#[]⟩) (I J 0) (Z U 0 0) (I J 0) (Z U 0 0);change bodyPost _ _ _ _ _ (World.alloc (World.alloc (((((((w.setCell ⟨g,o+1,U⟩ (V ⟨#[]⟩)).setCell ⟨g,o+2,U⟩ (V ⟨#[]⟩)).setCell ⟨g,o+3,U⟩ (I J 0)).setCell ⟨g,o+4,U⟩ (Z U 0 0)).setCell ⟨g,o+5,U⟩ (I J 0)).setCell ⟨g,o+6,U⟩ (Z U 0 0))) _) _);have T:((((((w.setCell ⟨g,o+1,U⟩ (V ⟨#[]⟩)).setCell ⟨g,o+2,U⟩ (V ⟨#[]⟩)).setCell ⟨g,o+3,U⟩ (I J 0)).setCell ⟨g,o+4,U⟩ (Z U 0 0)).setCell ⟨g,o+5,U⟩ (I J 0)).setCell ⟨g,o+6,U⟩ (Z U 0 0)).heap.size=w.heap.size:=by simp
 generalize ((((((w.setCell ⟨g,o+1,U⟩ (V ⟨#[]⟩)).setCell ⟨g,o+2,U⟩ (V ⟨#[]⟩)).setCell ⟨g,o+3,U⟩ (I J 0)).setCell ⟨g,o+4,U⟩ (Z U 0 0)).setCell ⟨g,o+5,U⟩ (I J 0)).setCell ⟨g,o+6,U⟩ (Z U 0 0))=d at *;obtain⟨f,W⟩:=P;have n:Below d.heap.size d ((d.alloc (K #[V m,V t,I J mi,Z fo nf gL,I J ln,Z bo nb gJ] 75)).alloc (K #[V m,V t,I J mi,Z fo nf gL,I J ln,Z bo nb gJ] 75)):=then_ ((fI _ _).alloc (aL _) _) ((fI _ _).alloc (aL _) _);refine gq (v:=.agg #[V m,V t,I J mi,Z fo nf gL,I J ln,Z bo nb gJ]) (by rw[<-T];simp[results,results27,go_sem]) rfl ⟨rfl,⟨(n.block g f.lt).trans f.row,f.seven⟩,W.trans (Turns.of_below (S:=fun _=>False) n) (fun _ e _=>e.elim)⟩
theorem Cb (w:X):Calls prog 28 #[] w fun e w'=>∃gp,e=Y (.agg #[Q (M ⟨gp,0,U⟩),V ⟨#[]⟩,V ⟨#[]⟩,I J 0,Z U 0 0,I J 0,Z U 0 0])∧jH w' (fun k=>w.heap.size<=k) gp Rq.start∧Below w.heap.size w w':=by
 have t:=H9 (fun W=>NQ W);go_enter func28,ntmps28;go_wp2_with fail
 refine(t.o _).mono ?_;rintro e b ⟨gp,rfl,f,d⟩;have a:=(d.block w.heap.size (by simp)).trans (fH w _);have y:=fJ b _ 0 _ _ _ a;have z:=fJ b _ 1 _ _ _ a;have B:=fJ b _ 2 _ _ _ a;have C:=fJ b _ 3 _ _ _ a;have D:=fJ b _ 4 _ _ _ a;have G:=fJ b _ 5 _ _ _ a;have H:=fJ b _ 6 _ _ _ a
 have L:=fun j=>fK b _ j _ _ a;have g:=H9 (then_ ((fI _ w).alloc (aL _) _) d);have u:Hid (jH b (fun k=>w.heap.size+1<=k) gp Rq.start):=f.mono (fun k _ e=>by rw[fV] at e;exact e);have x:=H9 a;clear f d a;go_wp2;have i:Turns (fun k=>k=w.heap.size) b (((((((b.setCell ⟨w.heap.size,0,U⟩ (Q (M ⟨gp,0,U⟩))).setCell ⟨w.heap.size,1,U⟩ (V ⟨#[]⟩)).setCell ⟨w.heap.size,2,U⟩ (V ⟨#[]⟩)).setCell ⟨w.heap.size,3,U⟩ (I J 0)).setCell ⟨w.heap.size,4,U⟩ (Z U 0 0)).setCell ⟨w.heap.size,5,U⟩ (I J 0)).setCell ⟨w.heap.size,6,U⟩ (Z U 0 0)):=gZ w.heap.size [Q (M ⟨gp,0,U⟩),V ⟨#[]⟩,V ⟨#[]⟩,I J 0,Z U 0 0,I J 0,Z U 0 0] 0 b;have a:=fM _ _ 6 _ _ (Z U 0 0) (fM _ _ 5 _ _ (I J 0) (fM _ _ 4 _ _ (Z U 0 0) (fM _ _ 3 _ _ (I J 0) (fM _ _ 2 _ _ (V ⟨#[]⟩) (fM _ _ 1 _ _ (V ⟨#[]⟩) (fM b w.heap.size 0 _ _ (Q (M ⟨gp,0,U⟩)) x.o))))));generalize (((((((b.setCell ⟨w.heap.size,0,U⟩ (Q (M ⟨gp,0,U⟩))).setCell ⟨w.heap.size,1,U⟩ (V ⟨#[]⟩)).setCell ⟨w.heap.size,2,U⟩ (V ⟨#[]⟩)).setCell ⟨w.heap.size,3,U⟩ (I J 0)).setCell ⟨w.heap.size,4,U⟩ (Z U 0 0)).setCell ⟨w.heap.size,5,U⟩ (I J 0)).setCell ⟨w.heap.size,6,U⟩ (Z U 0 0))=c at *;have l:=fJ c _ 0 _ _ _ a;have m:=fJ c _ 1 _ _ _ a;have n:=fJ c _ 2 _ _ _ a;have p:=fJ c _ 3 _ _ _ a;have q:=fJ c _ 4 _ _ _ a;have r:=fJ c _ 5 _ _ _ a;have s:=fJ c _ 6 _ _ _ a
 simp at l m n p q r s;refine gq (v:=.agg #[Q (M ⟨gp,0,U⟩),V ⟨#[]⟩,V ⟨#[]⟩,I J 0,Z U 0 0,I J 0,Z U 0 0]) (by simp[results,results28,go_sem,l,m,n,p,q,r,s]) rfl ⟨gp,rfl,?_,g.o.trans (i.below (fun k e=>by omega) g.o.size)⟩;exact(u.o.turns i (fun k e N=>by omega)).mono (fun k _ e=>by omega)
theorem LC (m t:av)(mi ln:Int)(fo bo:aj)(nf gL nb gJ:Nat)(w:X)(c:t.size<=100000):Calls prog 29 #[.agg #[V m,V t,I J mi,Z fo nf gL,I J ln,Z bo nb gJ]] w fun e w'=>e=Y (.bool (decide (m=Gt.NC)&&Gt.Je t))∧Below w.heap.size w w':=by
 have d:=H9 (fun W=>BS t W c);have a:=(fI _ w).alloc (aL _) (K #[V m,V t,I J mi,Z fo nf gL,I J ln,Z bo nb gJ] 75);have b:=H9 a;clear a;by_cases h:m=Gt.NC
 . have f:(m.toList==[80,65,84,67,72])=true:=by rw[aS,Lib.toList_data,h];rfl
   rw[aH h,Bool.true_and];clear h;go_enter func29,ntmps29;go_wp2_with fail
   refine(d.o _).mono ?_;rintro e i ⟨rfl,g⟩;subst g;go_wp2;go_ret;exact⟨rfl,b.o⟩
 . have f:(m.toList==[80,65,84,67,72])=F:=by
    rw[aR,Lib.toList_data];intro e;exact h (by rw[ByteArray.ext_iff,<-fG,e];rfl)
   rw[aI h,Bool.false_and];clear h;go_enter func29,ntmps29;go_wp2;go_ret;exact⟨rfl,b.o⟩
structure aeo (w:X)(l:au)(e:Ending)(w':X):Prop where
 ret:∃(ao:aj) (cap n:Nat),e=Y (Z ao n cap)∧n=l.length∧iG w' ao cap l
 vM:Below w.heap.size w w'
theorem Ip (w:X)(r:Gt.zi)(fo bo:aj)(nf gL nb gJ:Nat)(b:Gt.Small r)(d:r.2.1.length=nf)(l:jm w fo gL nf (gT r.2.1))(m:r.2.2.length=nb)(p:iG w bo gJ r.2.2)(s:ny w):
 Calls prog 65 #[.agg #[I J (r.1:Int),Z fo nf gL,Z bo nb gJ]] w fun e w'=>aeo w (Gt.textOf r) e w':=by
 subst d;have a:=(fI _ w).alloc (aL _) (K #[I J (r.1:Int),Z fo r.2.1.length gL,Z bo nb gJ] 88);have x:=b.few;have y:=b.body
 have z:=H9 (Om _ (r.1:Int) r.2.1 fo bo gL gJ nb r.2.2 (l.stay a) (by omega) b.fields m (p.stay a) (by omega) (s.stay a));have t:=H9 a;clear a l p s b m x y;have u:Hid (Gt.textOf r=(Rp.out (r.1:Int) r.2.1 r.2.2).1):=rfl;rw[u.o];clear u;generalize Rp.out (r.1:Int) r.2.1 r.2.2=q at *;go_enter func65,ntmps65;go_wp2_with fail
 refine z.o.mono ?_;rintro e D B;cases B with
 | bad c G f i a =>
   subst f;have j:=H9 (then_ t.o a);clear a;go_wp2;go_ret;refine⟨⟨U,0,0,rfl,by rw[i];rfl,by rw[i];exact iG.nil _⟩,j.o⟩
 | ok g k n f d i v a =>
   subst f;subst d;have j:=H9 (then_ t.o a);have C:=H9 v;clear a v;go_wp2;go_ret;exact⟨⟨_,k,_,rfl,rfl,C.o.wZ⟩,j.o⟩
theorem WQ (a:av)(l:ak):Fd.one (Fd.vals a l)=Tu.one (Tu.vals a l):=by
 show Fd.one (Tu.vals a l)=_;match Tu.vals a l with
 | []=>rfl
 | [_]=>rfl
 | _::_::_=>rfl
theorem EI {w:X}{l:ak}{fo:aj}{gL nf:Nat}(h:pW w l fo gL nf):
 Calls prog 148 #[Z fo nf gL] w fun e w'=>e=Y (.tuple #[V ((Gt.bound l).elim ⟨#[]⟩ Gt.txt),.bool (Gt.bound l).isSome])∧Below w.heap.size w w':=by
 have u:=H9 (ug l Tu.fCT fo gL nf w h.is h.len (by have:=h.few;omega) h.small (by decide));have hz:=h.val Tu.MU;rw[WQ,Tu.Es] at u;unfold Tu.fCT at u;obtain⟨B,i⟩:∃B,B=Gt.bound l:=⟨_,rfl⟩;rw[<-i];unfold Gt.bound at i;generalize Tu.one (Tu.vals Tu.MU l)=r at *;obtain⟨v,c⟩:=r;simp only[rP] at hz u i;by_cases hc:c=0
 . subst hc;rw[if_neg (by simp)] at i;have j:=H9 i;clear i;have HP:Hid (∀W,Calls prog 168 #[V ⟨v.toArray⟩] W fun e w'=>uT W (Pm.kr v) e w'):=fun W=>by
    have:=yS ⟨v.toArray⟩ W (by show v.toArray.size<=_;rw[bL];omega);rw[show(⟨v.toArray⟩:av).data.toList=v from by simp] at this;exact this
   clear h;go_enter func148,ntmps148;go_wp2_with fail
   refine u.o.mono ?_;rintro e w1 ⟨rfl,a⟩;have m:=H9 a;clear a;go_wp2_with fail
   refine(HP.o _).mono ?_;rintro e P ⟨word,d,ao,z,code,rfl,N,f,n⟩;have C:Below P.heap.size P (P.alloc (K #[V word,Z ao d.length z] 172)):=(fI _ _).alloc (aL _) _;have b:=H9 (then_ (then_ m.o n) C);cases t:Pm.kr v with
   | inl c2 =>
     rw[t] at N j;obtain⟨rfl,rfl,rfl⟩:=N;obtain rfl:B=U:=j.o;clear n C f t j;by_cases h0:code=0
     . subst h0;go_wp2;go_ret2;exact⟨rfl,b.o⟩
     . have t0:((code:Int) != 0)=true:=by rw[cO];omega
       go_wp2;go_ret2;exact⟨rfl,b.o⟩
   | inr x =>
     obtain⟨S,qs⟩:=x;rw[t] at N j;obtain⟨rfl,s,D⟩:=N;simp only at s D;have nN:=Fm.Ir t;have k:=Pm.AP t;subst D;have T:d.length<=8:=by rw[<-sS];exact nN
     have G:∀p∈d,p.2.size<=1000000:=fun p hp=>by
      have h2:p.2.data.toList.length<=v.length:=(k.2 (p.1.data.toList,p.2.data.toList) (aM.2 ⟨p,hp,rfl⟩)).2;rw[Ch.iC] at h2;omega
     obtain⟨n2,g⟩:∃n2,d.length=n2:=⟨_,rfl⟩;rw[g] at f C b;have HG:=H9 (zY word d ⟨#[98,111,117,110,100,97,114,121]⟩ ao z n2 _ (f.nP.stay C) g (by omega) G);have H:=H9 (zZ ⟨#[98,111,117,110,100,97,114,121]⟩ d);rw[g];clear n C f t nN k T G g;by_cases O:S=Gt.Qn
     . have tw:(word.toList==[109,117,108,116,105,112,97,114,116,47,102,111,114,109,45,100,97,116,97])=true:=by rw[aS,Lib.toList_data,s,O];rfl
       have Yu:B=(lg ⟨#[98,111,117,110,100,97,114,121]⟩ d).map (fun x=>x.data.toList):=by
        rw[H.o,j.o];show(if S≠Gt.Qn then U else Fm.get Gt.NA (mh d))=_;rw[if_neg (by simp[O])];rfl
       have HE:=H9 Yu;clear H j Yu;generalize lg ⟨#[98,111,117,110,100,97,114,121]⟩ d=q at *;go_wp2_with fail
       refine HG.o.mono ?_;rintro e w3 ⟨rfl,L⟩;have HB3:=H9 (then_ b.o L);clear L;go_wp2;go_ret2;refine⟨?_,HB3.o⟩;rw[HE.o];cases q with
       | none=>rfl
       | some y=>simp[Gt.txt]
     . have tw:(word.toList==[109,117,108,116,105,112,97,114,116,47,102,111,114,109,45,100,97,116,97])=F:=by
        rw[aR,Lib.toList_data,s];exact O
       obtain rfl:B=U:=by
        rw[j.o];show(if S≠Gt.Qn then U else Fm.get Gt.NA (mh d))=_;rw[if_pos O]
       clear j;go_wp2;go_ret2;exact⟨rfl,b.o⟩
 . have t0:((c:Int) != 0)=true:=by rw[cO];omega
   rw[if_pos hc] at i;subst i;clear h;go_enter func148,ntmps148;go_wp2_with fail
   refine u.o.mono ?_;rintro e w1 ⟨rfl,a⟩;have m:=H9 a;clear a;go_wp2;go_ret2;exact⟨rfl,m.o⟩
theorem SV (a:List Fm.Pt)(k:Nat)(b:k<a.length):Gt.room (a.take (k+1))=Gt.room (a.take k)+(a[k].bytes.length+200):=by
 unfold Gt.room;rw[bN b,bF,List.sum_append];simp
theorem room_le (a:List Fm.Pt)(k:Nat):Gt.room (a.take k)<=Gt.room a:=by
 unfold Gt.room;conv=>rhs;rw[<-bW k a,bF,List.sum_append]
 omega
theorem OD {w:X}{ao:aj}{cap n:Nat}{a:List Fm.Pt}(h:EH w ao cap a)(u:a.length=n)(H:Gt.room a<=1000000000):
 Calls prog 150 #[Z ao n cap] w fun e w'=>e=Y (I J (Gt.room a:Int))∧Below w.heap.size w w':=by
 subst u;have v:=H9 h;have q:a.length<=cap:=by obtain⟨_,_,x,_⟩:=h;exact x.1
 have L:a.length<=10000000:=by
  have y:∀l:List Fm.Pt,l.length*200<=Gt.room l:=fun l=>by
   induction l with
   | nil=>simp[Gt.room]
   | cons p t N=>unfold Gt.room at *;simp at *;omega
  have:=y a;omega
 clear h;go_enter func150,ntmps150;go_wp2;go_loopw [3,8] (fun z j wr=>∃i:Nat,i<=a.length∧j=I J i∧z=I J (Gt.room (a.take i):Int)∧Below w.heap.size w wr) (fun _ j _=>a.length-(intOf j).toNat)
 case atStart=>exact⟨0,ay _,rfl,rfl,fI _ _⟩
 case round =>
  obtain⟨i,O,rfl,rfl,d⟩:=hrel;have B:=H9 d;by_cases f:i<a.length
  . have r:(i:Int)<a.length:=by omega
    obtain⟨b,o,s,rfl,P,S,T,C,k⟩:=(v.o.stay d).at_ i f;have m:=H9 (SV a i f);have D:=room_le a i;have c:=room_le a (i+1);rw[m.o] at c;obtain⟨nb,g⟩:∃nb,a[i].bytes.length=nb:=⟨_,rfl⟩;rw[g] at C m c;have G:=H9 (then_ d ((fI _ wr).alloc (aL _) (K #[V a[i].name,V a[i].file,V a[i].type,Z s.bo nb s.gJ] 70)));clear d k g;generalize a[i]=p at *;go_wp2;go_roundw
    case rel=>exact⟨i+1,by omega,by go_num,by rw[m.o];go_num,G.o⟩
    case measure=>simp[intOf];omega
  . obtain rfl:i=a.length:=by omega
    clear d;go_wp2;go_ret;refine⟨?_,B.o⟩;rw[bO];rfl
inductive OL
 | row
 | jR
 | ids
 | list
 | box
 | out
def Mc (l:List Int):List Value:=l.map fun i=>Value.int J i
def Xb (io:aj)(iL:Nat)(ids:List Int):Ob:=fun w S=>gU w 0 3 1 io iL ids.length (Mc ids)∧∀a,io=M a->S a.block
theorem Xb.law (c:aj)(d:Nat)(ids:List Int):lN (Xb c d ids):=⟨fun h f b=>⟨h.1.turns f (fun a e=>b _ (h.2 a e)),h.2⟩,fun h b=>⟨h.1,fun a e=>b _ (h.1.block a e).2 (h.2 a e)⟩⟩
def yY (g:Nat)(o:Obj):Ob:=fun w S=>w.heap[g]? = M o∧S g
theorem yY.law (g:Nat)(o:Obj):lN (yY g o):=⟨fun h b a=>⟨b.row h.1 (a g h.2),h.2⟩,fun h a=>⟨h.1,a g (aK.1 h.1).1 h.2⟩⟩
def Yw (gs:Nat)(io:aj)(ni iL:Nat)(lo:aj)(nl iK:Nat):Obj:=K #[Q (M ⟨gs,0,U⟩),Z io ni iL,Z lo nl iK] 214 (0,0)
def EP (L gs:Nat)(s:Sr.Sh)(o:Obj)(io:aj)(iL:Nat)(ids:List Int)(lo:aj)(iK:Nat)(told:au)(b u:Ob):OL->Ob
 | .row=>yY L o
 | .jR=>fun w S=>iH w S gs s
 | .ids=>Xb io iL ids
 | .list=>vN lo iK told
 | .box=>b
 | .out=>u
theorem sV {L gs:Nat}{s:Sr.Sh}{o:Obj}{e:aj}{f:Nat}{ids:List Int}{g:aj}{i:Nat}{a:au}{b u:Ob}(j:lN b)(k:lN u):∀d,lN (EP L gs s o e f ids g i a b u d)
 | .row=>yY.law _ _
 | .jR=>⟨fun h l c=>iH.turns h l c,fun h c=>iH.mono h c⟩
 | .ids=>Xb.law _ _ _
 | .list=>vN.law _ _ _
 | .box=>j
 | .out=>k
def mq (w:X)(S:Nat->Prop)(L gs:Nat)(s:Sr.Sh)(ids:List Int)(told:au):Prop :=
 ∃(κ:Nat->OL) (io:aj) (iL:Nat) (lo:aj) (iK:Nat),Held (EP L gs s (Yw gs io ids.length iL lo told.length iK) io iL ids lo iK told Lb Lb) κ w∧∀k,κ k≠.out->S k
section
variable {w w' w0:X} {S S' D:Nat->Prop} {L gs:Nat} {s:Sr.Sh} {ids:List Int} {told:au}
theorem mq.turns (h:mq w S L gs s ids told)(c:Turns S' w w')(f:∀k,S k->¬S' k):mq w' S L gs s ids told:=by
 obtain⟨g,i,j,l,m,n,a⟩:=h;refine⟨g,i,j,l,m,fun d=>?_,a⟩;by_cases b:d=.out
 . subst b;exact trivial
 . exact(sV lN.nE lN.nE d).turns (n d) c (fun k e=>f k (a k (by rw[e];exact b)))
theorem mq.stay (h:mq w S L gs s ids told)(a:Below w.heap.size w w'):mq w' S L gs s ids told:=h.turns (Turns.of_below (S:=fun _=>False) a) (fun _ _ e=>e)
theorem wS {κ:Nat->OL}{c:OL}(d:∀k,κ k≠.out->gM S w k){n:Nat}(e:w.heap.size<=n):∀k,jc κ n c k≠.out->gM S w k:=fun k a=>by
 rcases aT k n with b | b
 . rw[iZ b] at a;exact d k a
 . exact R (by omega)
section
variable {κ:Nat->OL} {o:Obj} {io:aj} {iL:Nat} {lo:aj} {iK:Nat} {b u:Ob}
theorem JE (f:lN b)(g:lN u)(h:Held (EP L gs s o io iL ids lo iK told b u) κ w){a:Sr.Sh}(i:iH w' (gM (fun k=>κ k=.jR) w) gs a)(j:Turns (fun k=>κ k=.jR) w w'):Held (EP L gs a o io iL ids lo iK told b u) (jc κ w.heap.size .jR) w' :=
 h.act (sV f g) j (fun _ e=>e) (X':=EP L gs a o io iL ids lo iK told b u) ⟨fun h l c=>iH.turns h l c,fun h c=>iH.mono h c⟩ i (fun _ e=>e) (fun d m=>by cases d <;> first | rfl | exact absurd rfl m)
theorem Xc (a:lN b)(c:lN u)(h:Held (EP L gs s o io iL ids lo iK told b u) κ w){o':Obj}(f:w'.heap[L]? = M o')(g:Turns (fun k=>k=L) w w'):Held (EP L gs s o' io iL ids lo iK told b u) (jc κ w.heap.size .row) w' :=
 h.act (sV a c) g (fun k e=>by rw[e];exact(h .row).2) (X':=EP L gs s o' io iL ids lo iK told b u) (yY.law _ _) (N:=fun k=>k=L) ⟨f,rfl⟩ (fun k e=>A (by rw[e];exact(h .row).2)) (fun d i=>by cases d <;> first | rfl | exact absurd rfl i)
theorem ab9 (l:lN b)(m:lN u)(h:Held (EP L gs s o io iL ids lo iK told b u) κ w){f:aj}{g:Nat}{Md:List Int}(n:gU w' 0 3 1 f g Md.length (Mc Md))(p:w.grownBy w' (gK io))(i:∀j,gK f=M j->gK io=M j∨w.heap.size<=j):Held (EP L gs s o f g Md lo iK told b u) (jc κ w.heap.size .ids) w':=by
 have c:∀k,gK io=M k->κ k=.ids:=fun k e=>by
  cases io with
  | none=>cases e
  | some a=>injection e with e;rw[<-e];exact(h .ids).2 a rfl
 refine h.act (sV l m) (Turns.iY (S:=fun k=>gK io=M k) p (fun k e=>e)) c (X':=EP L gs s o f g Md lo iK told b u) (Xb.law _ _ _) (N:=fun k=>gK io=M k∨w.heap.size<=k) ⟨n,fun a e=>i a.block (by rw[e];rfl)⟩ (fun k e=>?_) (fun d q=>by cases d <;> first | rfl | exact absurd rfl q);rcases e with e | e
 . exact A (c k e)
 . exact R e
theorem ZG (g:lN b)(i:lN u)(h:Held (EP L gs s o io iL ids lo iK told b u) κ w){c:aj}{f:Nat}{a:au}(j:vN c f a w' (gM (fun k=>κ k=.list) w))(l:Turns (fun k=>κ k=.list) w w'):Held (EP L gs s o io iL ids c f a b u) (jc κ w.heap.size .list) w' :=
 h.act (sV g i) l (fun _ e=>e) (X':=EP L gs s o io iL ids c f a b u) (vN.law _ _ _) j (fun _ e=>e) (fun d m=>by cases d <;> first | rfl | exact absurd rfl m)
theorem acd (a:lN b)(c:lN u)(h:Held (EP L gs s o io iL ids lo iK told b u) κ w)(z:Obj):Held (EP L gs s o io iL ids lo iK told (yY w.heap.size z) u) (jc κ w.heap.size .box) (w.alloc z) :=
 h.act (sV a c) (Turns.of_below (S:=fun _=>False) ((fI _ w).alloc (aL _) z)) (fun _ e=>e.elim) (X':=EP L gs s o io iL ids lo iK told (yY w.heap.size z) u) (yY.law _ _) (N:=fun k=>w.heap.size<=k) ⟨fH w z,aL _⟩ (fun k e=>R e) (fun d f=>by cases d <;> first | rfl | exact absurd rfl f)
theorem ZH (h:Held (EP L gs s o io iL ids lo iK told b u) κ w):Held (EP L gs s o io iL ids lo iK told Lb Lb) κ w
 | .row=>h .row
 | .jR=>h .jR
 | .ids=>h .ids
 | .list=>h .list
 | .box=>trivial
 | .out=>trivial
end
end
def Xd (bo:aj)(gJ:Nat)(l:au):Ob:=fun w S=>jZ w S bo gJ l
theorem Xd.law (bo:aj)(gJ:Nat)(l:au):lN (Xd bo gJ l):=⟨fun h b a=>jZ.turns h b a,fun h a=>jZ.mono h a⟩
structure lV (w:X)(S:Nat->Prop)(L gs n:Nat)(z:Obj)(bo:aj)(gJ:Nat)(l:au)(s:Sr.Sh)(io:aj)(iL:Nat)(ids:List Int)(lo:aj)(iK:Nat)(told:au)(W:X):Prop where
 held:∃κ,Held (EP L gs s (Yw gs io ids.length iL lo told.length iK) io iL ids lo iK told (yY n z) (Xd bo gJ l)) κ W∧∀k,κ k≠.out->gM S w k
 turns:Turns S w W
section
variable {w W W':X} {S D:Nat->Prop} {L gs n:Nat} {z:Obj} {bo:aj} {gJ:Nat} {l:au} {s:Sr.Sh} {io:aj} {iL:Nat} {ids:List Int} {lo:aj} {iK:Nat} {told:au}
theorem lV.start {κ:Nat->OL}(h:Held (EP L gs s (Yw gs io ids.length iL lo told.length iK) io iL ids lo iK told Lb Lb) κ w)(a:∀k,κ k≠.out->S k)(b:jZ w D bo gJ l)(c:∀k,D k->¬S k)(z:Obj):lV w S L gs w.heap.size z bo gJ l s io iL ids lo iK told (w.alloc z):=by
 have d:Held (EP L gs s (Yw gs io ids.length iL lo told.length iK) io iL ids lo iK told Lb (Xd bo gJ l)) κ w
  | .row=>h .row
  | .jR=>h .jR
  | .ids=>h .ids
  | .list=>h .list
  | .box=>trivial
  | .out=>jZ.mono b (fun k _ e=>eY (fun f=>c k e (a k f)))
 exact⟨⟨_,acd lN.nE (Xd.law _ _ _) d z,wS (fun k e=>A (a k e)) (aL _)⟩,Turns.of_below ((fI _ w).alloc (aL _) z)⟩
theorem lV.stay (h:lV w S L gs n z bo gJ l s io iL ids lo iK told W)(a:Below W.heap.size W W'):lV w S L gs n z bo gJ l s io iL ids lo iK told W':=by
 obtain⟨⟨b,c,d⟩,f⟩:=h;exact⟨⟨b,c.stay (sV (yY.law _ _) (Xd.law _ _ _)) a,d⟩,f.trans (Turns.of_below (S:=fun _=>False) a) (fun _ e _=>e.elim)⟩
theorem lV.row (h:lV w S L gs n z bo gJ l s io iL ids lo iK told W):W.heap[L]? = M (Yw gs io ids.length iL lo told.length iK):=by
 obtain⟨⟨b,a,c⟩,d⟩:=h;exact(a .row).1
theorem lV.box (h:lV w S L gs n z bo gJ l s io iL ids lo iK told W):W.heap[n]? = M z:=by
 obtain⟨⟨b,a,c⟩,d⟩:=h;exact(a .box).1
theorem lV.bytes (h:lV w S L gs n z bo gJ l s io iL ids lo iK told W):iG W bo gJ l:=by
 obtain⟨⟨b,a,c⟩,d⟩:=h;exact jZ.is (a .out)
theorem lV.ints (h:lV w S L gs n z bo gJ l s io iL ids lo iK told W):gU W 0 3 1 io iL ids.length (Mc ids):=by
 obtain⟨⟨b,a,c⟩,d⟩:=h;exact(a .ids).1
theorem lV.done (h:lV w S L gs n z bo gJ l s io iL ids lo iK told W):mq W (gM S w) L gs s ids told∧Turns S w W:=by
 obtain⟨⟨a,b,c⟩,d⟩:=h;exact⟨⟨a,io,iL,lo,iK,ZH b,c⟩,d⟩
theorem lV.did (h:lV w S L gs n z bo gJ l s io iL ids lo iK told W):∃Sh:Nat->Prop,iH W Sh gs s∧(∀{a:Sr.Sh} {w':X},iH w' (gM Sh W) gs a->Turns Sh W w'->lV w S L gs n z bo gJ l a io iL ids lo iK told w'):=by
 obtain⟨⟨g,b,c⟩,d⟩:=h;refine⟨fun k=>g k=.jR,b .jR,fun i f=>⟨⟨_,JE (yY.law _ _) (Xd.law _ _ _) b i f,wS c d.size⟩,d.trans f (fun k e j=>?_)⟩⟩;rcases c k (by rw[e];intro h;cases h) with h | h
 . exact h
 . omega
theorem lV.create (h:lV w S L gs n z bo gJ l s io iL ids lo iK told W)(ok:Sr.Ok s)(a:Int)(m:av)(c:m.size<=1000000):
 Calls prog 119 #[Q (M ⟨gs,0,U⟩),I J a,V m] W fun e w'=>e=Y (.tuple #[I J (Sr.Dt s (Sr.create s a m).2),I J ((Sr.create s a m).2:Int)])∧lV w S L gs n z bo gJ l (Sr.create s a m).1 io iL ids lo iK told w':=by
 obtain⟨Sh,d,f⟩:=h.did;exact(Ac d ok a m c).mono (fun e w' b=>⟨b.ret,f b.at_ b.turns⟩)
theorem lV.append (h:lV w S L gs n z bo gJ l s io iL ids lo iK told W)(ok:Sr.Ok s)(b a:Int){c:Nat}(f:l.length=c)(g:c<=1000000):
 Calls prog 130 #[Q (M ⟨gs,0,U⟩),I J b,I J a,Z bo c gJ] W fun e w'=>e=Y (I J ((Sr.append s b a l).2:Int))∧lV w S L gs n z bo gJ l (Sr.append s b a l).1 io iL ids lo iK told w':=by
 obtain⟨Sh,i,j⟩:=h.did;exact(qM i ok b a bo c gJ l h.bytes f g).mono (fun e w' d=>⟨d.ret,j d.at_ d.turns⟩)
theorem lV.drop (h:lV w S L gs n z bo gJ l s io iL ids lo iK told W)(ok:Sr.Ok s)(a:Int):
 Calls prog 132 #[Q (M ⟨gs,0,U⟩),I J a] W fun e w'=>e=Y (I J ((Sr.drop s a).2:Int))∧lV w S L gs n z bo gJ l (Sr.drop s a).1 io iL ids lo iK told w':=by
 obtain⟨Sh,c,d⟩:=h.did;exact(yX c ok a).mono (fun e w' b=>⟨b.ret,d b.at_ b.turns⟩)
theorem lV.grown (h:lV w S L gs n z bo gJ l s io iL ids lo iK told W){b:aj}{c:Nat}{i:Int}(u:gU W' 0 3 1 b c (ids.length+1) (Mc ids++[I J i]))(d:W.grownBy W' (gK io))(f:∀j,gK b=M j->gK io=M j∨W.heap.size<=j):
 (W'.heap[L]? = M (Yw gs io ids.length iL lo told.length iK))∧lV w S L gs n z bo gJ l s b c (ids++[i]) lo iK told (W'.setCell ⟨L,1,U⟩ (Z b (ids.length+1) c)):=by
 obtain⟨⟨v,g,m⟩,o⟩:=h;have q:=ab9 (yY.law _ _) (Xd.law _ _ _) g (Md:=ids++[i]) (by rw[aV];simpa[Mc] using u) d f;have x:=d.size;have r:=(q .row).1;have t:Turns (fun k=>k=L) W' (W'.setCell ⟨L,1,U⟩ (Z b (ids.length+1) c)):=Turns.setCell _ _ _ _ rfl;have y:=Xc (yY.law _ _) (Xd.law _ _ _) q (o':=Yw gs b (ids.length+1) c lo told.length iK) (fM W' L 1 _ _ _ r) t;have B:=(g .row).2;refine⟨r,⟨⟨jc (jc v W.heap.size .ids) W'.heap.size .row,?_,wS (wS m o.size) (dF o.size x)⟩,(o.trans (Turns.iY (S:=fun k=>gK io=M k) d (fun k e=>e)) (fun k e p=>?_)).trans t (fun k e p=>?_)⟩⟩
 . rw[aV];exact y
 . cases io with
   | none=>cases e
   | some a =>
     injection e with e;rw[<-e];rw[<-e] at p;rcases m a.block (by rw[(g .ids).2 a rfl];intro h;cases h) with h | h
     . exact h
     . omega
 . rw[e];rw[e] at p;rcases m L (by rw[B];intro h;cases h) with h | h
   . exact h
   . omega
theorem lV.listed (h:lV w S L gs n z bo gJ l s io iL ids lo iK told W):∃f:Nat->Prop,vN lo iK told W f∧∀(a:aj) (c m:Nat) (d:au) (W':X),told.length+d.length=m->vN a c (told++d) W' (gM f W)->Turns f W W' ->
 (W'.heap[L]? = M (Yw gs io ids.length iL lo told.length iK))∧lV w S L gs n z bo gJ l s io iL ids a c (told++d) (W'.setCell ⟨L,2,U⟩ (Z a m c)):=by
 obtain⟨⟨o,g,i⟩,j⟩:=h;refine⟨fun k=>o k=.list,g .list,fun a c m d W' u v b=>?_⟩;have p:=ZG (yY.law _ _) (Xd.law _ _ _) g v b;have x:=b.size;have q:=(p .row).1;have r:Turns (fun k=>k=L) W' (W'.setCell ⟨L,2,U⟩ (Z a m c)):=Turns.setCell _ _ _ _ rfl;have y:=Xc (yY.law _ _) (Xd.law _ _ _) p (o':=Yw gs io ids.length iL a m c) (fM W' L 2 _ _ _ q) r;have B:=(g .row).2;refine⟨q,⟨⟨jc (jc o W.heap.size .list) W'.heap.size .row,?_,wS (wS i j.size) (dF j.size x)⟩,(j.trans b (fun k e t=>?_)).trans r (fun k e t=>?_)⟩⟩
 . rw[aV,u];exact y
 . rcases i k (by rw[e];intro h;cases h) with h | h
   . exact h
   . omega
 . rw[e];rw[e] at t;rcases i L (by rw[B];intro h;cases h) with h | h
   . exact h
   . omega
end
section
variable {w w0:X} {S D:Nat->Prop} {L gs:Nat}
theorem Xe (p:wR w0 w S)(r:Gt.Ld)(h:mq w S L gs r.s r.ids r.told)(ok:Sr.Ok r.s)(q:Fm.Pt){bo:aj}{gJ nb:Nat}(hB:jZ w D bo gJ q.bytes)(hD:∀k,D k->¬S k)(hn:q.bytes.length=nb)(hnb:nb<=1000000)(hf:q.file.size<=900000)(hi:r.ids.length<=1000)(ht:r.told.length<=1000000):
 Calls prog 199 #[Q (M ⟨L,0,U⟩),.agg #[V q.name,V q.file,V q.type,Z bo nb gJ]] w fun e w'=>e=Y (I J ((Gt.oP r q).code:Int))∧mq w' (gM S w) L gs (Gt.oP r q).s (Gt.oP r q).ids (Gt.oP r q).told∧Turns S w w':=by
 obtain⟨κ,io,iL,lo,iK,hH,hS⟩:=h;have G1:=lV.start hH hS hB hD (K #[V q.name,V q.file,V q.type,Z bo nb gJ] 70 (0,0));have l:Hid (∀{s:Sr.Sh} {io:aj} {iL:Nat} {ids:List Int} {lo:aj} {iK:Nat} {m:au} {W:X},lV w S L gs w.heap.size (K #[V q.name,V q.file,V q.type,Z bo nb gJ] 70 (0,0)) bo gJ q.bytes s io iL ids lo iK m W->((W.cell? ⟨L,0,U⟩=M (Q (M ⟨gs,0,U⟩))∧W.cell? ⟨L,1,U⟩=M (Z io ids.length iL)∧W.cell? ⟨L,2,U⟩=M (Z lo m.length iK))∧(W.frozen? ⟨L,0,U⟩=F∧W.frozen? ⟨L,1,U⟩=F∧W.frozen? ⟨L,2,U⟩=F))∧(W.cell? ⟨w.heap.size,1,U⟩=M (V q.file)∧W.cell? ⟨w.heap.size,3,U⟩=M (Z bo nb gJ))):=fun a=>⟨Zh a.row,fJ _ _ 1 _ _ _ a.box,fJ _ _ 3 _ _ _ a.box⟩;obtain⟨⟨⟨C,G,H⟩,N,O,P⟩,T,b3⟩:=l.o G1;have hmz:(Gt.je q).size=9+q.file.size:=by
  show(Gt.BA++q.file.data.toList).toArray.size=_;rw[bL,aV,aN];rfl
 have hme:(⟨#[102,105,108,101,110,97,109,101,32]⟩:av)++q.file=Gt.je q:=by
  apply ByteArray.ext;rw[ByteArray.data_append];show _=(Gt.BA++q.file.data.toList).toArray;rw[<-fG];simp[Gt.BA]
 have UR:=H9 ((G1.stay (gP _ _)).create ok (nb:Int) (Gt.je q) (by omega));have HP:=H9 p;obtain⟨ai,hR⟩:∃ai,ai=Gt.oP r q:=⟨_,rfl⟩;rw[<-hR];unfold Gt.oP at hR;rw[hn] at hR;have c:=H9 hR;have qx:=H9 (ok.create (nb:Int) (Gt.je q));have f:Hid ((Sr.create r.s (nb:Int) (Gt.je q)).2≠0->(Sr.create r.s (nb:Int) (Gt.je q)).1=r.s):=fun e=>Gt.LX e;have hl0:=ok.h.Dm;have hl1:=ok.Kl
 have hzz:¬(9223372036854775807<9+q.file.size):=by omega
 rw[<-hme] at UR c qx f;clear hme;clear G1 hH hS hB p hR ok hmz;generalize hcr:Sr.create r.s (nb:Int) (⟨#[102,105,108,101,110,97,109,101,32]⟩++q.file)=cr at *;clear hcr;obtain⟨s1,k1⟩:=cr;simp only at c UR qx f;go_enter func199,ntmps199;go_upto_region 1 with fail
 go_cut [5,6] (fun v5 v6 wd=>v5=I J (Sr.Dt r.s k1)∧v6=I J (k1:Int)∧lV w S L gs w.heap.size (K #[V q.name,V q.file,V q.type,Z bo nb gJ] 70 (0,0)) bo gJ q.bytes s1 io iL r.ids lo iK r.told wd)
 case first =>
  go_region_held3 (fun W=>W.cell? ⟨L,0,U⟩=M (Q (M ⟨gs,0,U⟩))∧W.cell? ⟨w.heap.size,1,U⟩=M (V q.file)∧W.cell? ⟨w.heap.size,3,U⟩=M (Z bo nb gJ)) (go_keep) ((go_at_call 119;refine UR.o.mono ?_;rintro e w1 ⟨rfl,a⟩;have t:=H9 a;obtain⟨⟨⟨d0,d1,d2⟩,e0,e1,e2⟩,d3,d4⟩:=l.o a;clear a))
  all_goals
   go_wp2;go_meet;exact⟨rfl,rfl,t.o⟩
 case rest =>
  obtain⟨rfl,rfl,a⟩:=hcut;clear UR C G H N O P T b3;obtain⟨⟨⟨C,G,H⟩,N,O,P⟩,T,b3⟩:=l.o a;have t:=H9 a;by_cases v:k1=0
  . subst v;obtain⟨g,x⟩:∃g,g=r.s.h.last+1:=⟨_,rfl⟩;have Lv:Sr.Dt r.s 0=g:=by rw[x];exact if_pos rfl
    rw[Lv];rw[<-x,if_neg (by simp)] at c;have M8:=H9 ((a.stay (gP _ _)).append qx.o g 0 hn hnb);have ZI:=H9 (qx.o.append g 0 q.bytes);have ana:0<=g:=by omega
    have anb:g<=100001:=by omega
    clear a Lv x f hl0 hl1;obtain⟨n,rfl⟩:∃n:Nat,g=n:=⟨g.toNat,by omega⟩;generalize Sr.append s1 (n:Int) 0 q.bytes=ap at *;obtain⟨s2,k2⟩:=ap;simp only at c M8 ZI;go_upto_region 4 with fail
    go_cut [6] (fun v6 wd=>v6=I J (k2:Int)∧lV w S L gs w.heap.size (K #[V q.name,V q.file,V q.type,Z bo nb gJ] 70 (0,0)) bo gJ q.bytes s2 io iL r.ids lo iK r.told wd)
    case first =>
     go_region_held3 (fun W=>W.cell? ⟨L,0,U⟩=M (Q (M ⟨gs,0,U⟩))∧W.cell? ⟨w.heap.size,3,U⟩=M (Z bo nb gJ)) (go_keep) ((go_at_call 130;refine M8.o.mono ?_;rintro e w1 ⟨rfl,a⟩;have HG2:=H9 a;obtain⟨⟨⟨d0,d1,d2⟩,e0,e1,e2⟩,d3,d4⟩:=l.o a;clear a))
     all_goals
      go_wp2;go_meet;exact⟨rfl,HG2.o⟩
    case rest =>
     obtain⟨rfl,a⟩:=hcut;clear M8 C G H N O P T b3 t qx;obtain⟨⟨⟨C,G,H⟩,N,O,P⟩,T,b3⟩:=l.o a;have t:=H9 a;by_cases hk2:k2=0
     . subst hk2;rw[if_neg (by simp)] at c;obtain⟨i0,hi0,hz0,y,z⟩:=info_parts KW;have Hi:=H9 hi0;have kJ:=H9 hz0;have kG:=H9 y;have kK:=H9 z
       obtain⟨j0,hj0,hy0,hy1,hy2⟩:=info_parts jN;have Hj:=H9 hj0;have MZ:=H9 hy0;have M0:=H9 hy1;have M4:=H9 hy2
       have i:=H9 (a.stay ((fI _ wc).alloc (aL _) (K #[I J (n:Int)] 3)));have HOi:=H9 i.o.ints;obtain⟨⟨⟨a0,a1,a2⟩,g0,g1,g2⟩,a3,a4⟩:=l.o i.o;clear a hi0 hz0 y z hj0 hy0 hy1 hy2;go_upto_region 9 with (at_builtin;refine gQ rfl (.tmp 45) (.tmp 47) 55 rfl 0 3 i0 (I J 0) 1 8 underlying55 Hi.o kJ.o kG.o kK.o rfl (by decide) rfl HOi.o rfl (jm.made _ _ 1 _ _) rfl (fun u hu=>by simp at hu;rw[hu];rfl) (by omega) (by omega) (ay _) ?_;intro Tp wT w3 hO3 b ku;obtain⟨hr3,hg3⟩:=i.o.grown hO3 b (fun j e=>by rcases ku with h | h;exact A (h▸e);exact R (by rw[h] at e;injection e with e;omega));have sF:=H9 hg3;obtain⟨⟨h30,h31,h32⟩,y30,y31,y32⟩:=Zh hr3;clear hO3 b ku hr3 hg3)
       clear a0 a1 a2 a3 a4 g0 g1 g2 h30 h31 h32 y30 y31 y32 C G H N O P T b3 t i HOi;generalize w3.setCell ⟨L,1,U⟩ (Z Tp (r.ids.length+1) wT)=w4 at *;have Tq:=H9 (sF.o.stay (gP _ _));have hpw:ny w4.drew:=HP.o.pow.stay (HP.o.vM.trans (Tq.o.turns.below (fun k e=>HP.o.far k e) HP.o.vM.size));have HIt:=H9 (tZ n (by omega) w4.drew hpw);obtain⟨⟨⟨C,G,H⟩,N,O,P⟩,T,b3⟩:=l.o sF.o;obtain⟨d,hd⟩:∃d:av,d=⟨(Ch.jG 8 n).toArray⟩:=⟨_,rfl⟩;have hdz:d.size<=9:=by
        rw[hd];show(Ch.jG 8 n).toArray.size<=9;rw[bL];exact(Ch.jW 8 n).1
       have y:¬(9223372036854775807<d.size+1):=by omega
       have z:¬(9223372036854775807<d.size+1+q.file.size):=by omega
       have hz3:¬(9223372036854775807<d.size+1+q.file.size+1):=by omega
       rw[<-hd] at HIt;have HTl:Hid ((d++⟨#[32]⟩++q.file++⟨#[10]⟩:av).data.toList=Gt.toldOf (n:Int) q.file):=by
        unfold Hid Gt.toldOf;rw[hd];simp
       have CK:Hid ((d++⟨#[32]⟩++q.file++⟨#[10]⟩:av).size=d.size+1+q.file.size+1):=by
        unfold Hid;rw[bM,bM,bM];rfl
       have HTs:Hid ((Gt.toldOf (n:Int) q.file).length=d.size+1+q.file.size+1):=by unfold Hid;rw[<-HTl.o,Ch.iC];exact CK.o
       clear hpw hd sF HP;go_cut [] (fun wd=>mq wd (gM S w) L gs s2 (r.ids++[(n:Int)]) (r.told++Gt.toldOf (n:Int) q.file)∧Turns S w wd)
       case first =>
        go_region_law (first
         | (go_simp;go_at_call 122;refine HIt.o.mono ?_;rintro e w5 ⟨rfl,hb5⟩;have HG5:=H9 (Tq.o.stay hb5);obtain⟨⟨⟨d0,d1,d2⟩,e0,e1,e2⟩,d3,d4⟩:=l.o HG5.o;clear hb5)
         | (obtain⟨Sl,hSl,hsl⟩:=HG5.o.listed;have HSl:=H9 hSl;have Hsl:=H9 hsl;clear hSl hsl;refine EJ (by rfl) (.tmp 55) (.tmp 62) 31 9 (by rfl) 5 j0 underlying31 underlying9 Hj.o MZ.o M0.o M4.o (by rfl) rfl HSl.o (d++⟨#[32]⟩++q.file++⟨#[10]⟩) (d.size+1+q.file.size+1) CK.o (by omega) (by rfl) (by omega) ?_;intro lo' vI w6 vH qY;rw[HTl.o] at vH;obtain⟨EN,B⟩:=Hsl.o lo' vI (r.told.length+(d.size+1+q.file.size+1)) (Gt.toldOf (n:Int) q.file) w6 (by rw[HTs.o]) vH qY;have Yt:=H9 B;obtain⟨⟨h60,h61,h62⟩,y60,y61,y62⟩:=Zh EN;have hx6:=fJ _ _ 1 _ _ _ B.box;have HX6:=H9 hx6;clear vH qY EN B;(try simp only[Act.put,List.setIfInBounds_toArray,dZ,List.set_cons_succ])))
        all_goals
         go_wp2;go_meet;exact Yt.o.done
       case rest =>
        go_wp2;go_ret;rw[c.o];exact⟨rfl,hcut⟩
     . have t2:((k2:Int) != 0)=true:=by rw[cO];omega
       rw[if_pos hk2] at c;have UW:=H9 (a.drop ZI.o (n:Int));clear a;go_wp2_with fail
       refine UW.o.mono ?_;rintro e w3 ⟨rfl,b⟩;have sF:=H9 b;clear b;go_wp2;go_ret;rw[c.o];exact⟨rfl,sF.o.done⟩
  . have t1:((k1:Int) != 0)=true:=by rw[cO];omega
    rw[if_pos v] at c;rw[f.o v] at t;clear a;go_wp2;go_ret;rw[c.o];exact⟨rfl,t.o.done⟩
end
def F7 (w:X)(D:Nat->Prop)(ao:aj)(cap:Nat)(ps:List Fm.Pt):Prop:=∃qs:List (Fm.Pt×UO),qs.map (·.1)=ps∧nD w D ao cap ps.length (um qs)∧∀q∈qs,jZ w D q.2.bo q.2.gJ q.1.bytes
section
variable {w w':X} {S D D':Nat->Prop} {ao:aj} {cap:Nat} {ps:List Fm.Pt}
theorem F7.turns (h:F7 w D ao cap ps)(a:Turns S w w')(b:∀k,D k->¬S k):F7 w' D ao cap ps:=by
 obtain⟨c,d,e,f⟩:=h;exact⟨c,d,e.turns a b,fun q g=>(f q g).turns a b⟩
theorem F7.aaT (h:F7 w D ao cap ps):EH w ao cap ps:=by
 obtain⟨a,b,c,d⟩:=h;exact⟨a,b,c.is,fun q e=>(d q e).is⟩
theorem F7.at_ (h:F7 w D ao cap ps)(k:Nat)(f:k<ps.length):∃(b o:Nat) (s:UO),ao=M ⟨b,o,U⟩∧w.cell? ⟨b,o+k*4,U⟩=M (V ps[k].name)∧w.cell? ⟨b,o+k*4+1,U⟩=M (V ps[k].file)∧w.cell? ⟨b,o+k*4+2,U⟩=M (V ps[k].type)∧w.cell? ⟨b,o+k*4+3,U⟩=M (Z s.bo ps[k].bytes.length s.gJ)∧jZ w D s.bo s.gJ ps[k].bytes:=by
 obtain⟨c,rfl,g,i⟩:=h;have a:k<c.length:=by simpa using f
 obtain⟨b,o,rfl,d⟩:=g.is.lit (by rw[pY];omega);have j:=i _ (aB a);have e:=pz c k a 0 (by decide);have l:=pz c k a 1 (by decide);have m:=pz c k a 2 (by decide);have n:=pz c k a 3 (by decide);refine⟨b,o,c[k].2,rfl,?_,?_,?_,?_,?_⟩
 . rw[aF];exact d _ _ (by rw[bJ] at e;exact e)
 . rw[aF,bK];exact d _ _ l
 . rw[aF,bK];exact d _ _ m
 . rw[aF,bK];exact d _ _ n
 . rw[aF];exact j
theorem qc.aia {b:X}{n:Nat}(h:qc b D ps ao cap n w')(f:∀k,b.heap.size<=k->D k):F7 w' (fun k=>D k∧k<w'.heap.size) ao cap ps:=by
 obtain⟨g,i,c,j⟩:=h.own;refine⟨g,i,⟨by rw[<-h.len];exact c.nP,fun _ a e=>⟨f _ (c.block a e).1,(c.block a e).2⟩⟩,fun q l=>?_⟩;refine((j q l).mono (S':=fun k=>D k∧k<b.heap.size) (fun k d e=>⟨e,d⟩)).turns (Turns.of_below (S:=fun _=>False) h.below) (fun _ _ e=>e) |>.mono (fun k d e=>⟨e.1,d⟩)
end
section
variable {w w0 W W':X} {S S' D:Nat->Prop} {L gs:Nat} {s:Sr.Sh} {io:aj} {iL:Nat} {ids:List Int} {told:au}
theorem mq.mono (h:mq w S L gs s ids told)(c:∀k,k<w.heap.size->S k->S' k):mq w S' L gs s ids told:=by
 obtain⟨f,io,iL,g,i,j,l⟩:=h;refine⟨jc f w.heap.size .out,io,iL,g,i,fun d=>?_,fun k a=>?_⟩
 . by_cases m:d=.out
   . subst m;exact trivial
   . exact(sV lN.nE lN.nE d).mono (j d) (fun k a e=>(iZ a).trans e)
 . rcases aT k w.heap.size with b | b
   . rw[iZ b] at a;exact c k b (l k a)
   . exact absurd (qN b) a
theorem wR.then_ (p:wR w0 w S)(a:Turns S w W):wR w0 W (gM S w):=⟨p.pow,p.vM.trans (a.below (fun k e=>p.far k e) p.vM.size),fun k e=>by
 rcases e with e | e
 . exact p.far k e
 . exact dF p.vM.size e⟩
theorem OM (p:wR w0 w S)(r:Gt.Ld)(h:mq w S L gs r.s r.ids r.told)(j:Gt.WR r)(h0:r.code=0)(a:List Fm.Pt){ao:aj}{cap n:Nat}(hP:F7 w D ao cap a)(hD:∀k,D k->¬S k∧k<w.heap.size)(hn:a.length=n)(hN:n<=1000000)(hz:∀q∈a,q.bytes.length<=1000000∧q.file.size<=900000):
 Calls prog 151 #[Q (M ⟨L,0,U⟩),Z ao n cap] w fun e w'=>e=Y (I J ((Gt.adds r a).code:Int))∧mq w' (gM S w) L gs (Gt.adds r a).s (Gt.adds r a).ids (Gt.adds r a).told∧Turns S w w':=by
 subst hn;obtain⟨t,g⟩:∃t,t=Gt.adds r a:=⟨_,rfl⟩;rw[<-g];have HP:=H9 p;have UY:=H9 hP;have u:=H9 hD;have HZ:=H9 hz
 have hcap:a.length<=cap:=hP.aaT.choose_spec.2.1.1;have Ao:Hid (∃c:Gt.Ld,t=Gt.adds c (a.drop 0)∧c.code=0∧Gt.WR c∧mq w (gM S w) L gs c.s c.ids c.told∧Turns S w w):=⟨r,g,h0,j,h.mono (fun k _ e=>A e),Turns.refl _ _⟩;clear p hP hD hz h j h0 g;go_enter func151,ntmps151;go_wp2;go_loopw [10] (fun vi wr=>∃i:Nat,i<=a.length∧vi=I J i∧∃c:Gt.Ld,t=Gt.adds c (a.drop i)∧c.code=0∧Gt.WR c∧mq wr (gM S w) L gs c.s c.ids c.told∧Turns S w wr) (fun vi _=>a.length-(intOf vi).toNat)
 case atStart=>exact⟨0,ay _,rfl,Ao.o⟩
 case round =>
  obtain⟨i,hi,rfl,c,g,v,d,P,N⟩:=hrel;by_cases x:i<a.length
  . have hlt':(i:Int)<a.length:=by omega
    have y:=UY.o.turns N (fun k e=>(u.o k e).1);obtain⟨b,o,sl,rfl,c0,c1,c2,c3,z⟩:=y.at_ i x;have hq:=HZ.o a[i] (aB x);rw[aC x] at g;obtain⟨nb,B⟩:∃nb,a[i].bytes.length=nb:=⟨_,rfl⟩;rw[B] at c3;have hnl:nb<=1000000:=by rw[<-B];exact hq.1
    have T:=(fI _ wr).alloc (aL _) (K #[V a[i].name,V a[i].file,V a[i].type,Z sl.bo nb sl.gJ] 70);have l:Turns S w (wr.alloc (K #[V a[i].name,V a[i].file,V a[i].type,Z sl.bo nb sl.gJ] 70)):=N.trans (Turns.of_below (S:=fun _=>False) T) (fun _ e _=>e.elim);have m:=P.stay T;have C:=z.turns (Turns.of_below (S:=fun _=>False) T) (fun _ _ e=>e);generalize a[i]=q at *;obtain⟨tf,htf⟩:∃tf,(q.file.toList==([]:au))=tf:=⟨_,rfl⟩;have eF:q.file.size=0<->tf=true:=by
     rw[<-htf,aS,Lib.toList_data,<-dJ,aN];rfl
    have O:=H9 g;have HC:=H9 v;have qx:=H9 d;have HLA:=H9 m;have G:=H9 l
    cases tf with
    | true =>
      have f:Hid (t=Gt.adds c (a.drop (i+1))):=by unfold Hid;rw[O.o];unfold Gt.adds;rw[if_pos (eF.2 rfl)];cases a.drop (i+1) <;> rfl
      clear g v d P N y z C T l m hq eF O;go_wp2;go_roundw
      case rel=>exact⟨i+1,by omega,by go_num,c,f.o,HC.o,qx.o,HLA.o,G.o⟩
      case measure=>simp[intOf];omega
    | false =>
      have hfn:¬q.file.size=0:=fun e=>by have:=eF.1 e;cases this
      have nN:c.ids.length<=12:=by
       rcases d.few with h | h
       . have:=d.ok.h.few;omega
       . exact absurd v h
      have htd:c.told.length<=1000000:=by have:=d.told;omega
      have Tt:=H9 (Xe (HP.o.then_ l) c m d.ok q C (fun k e e2=>by
       rcases e2 with e2 | e2
       . exact(u.o k e).1 e2
       . have:=(u.o k e).2;omega) B hnl hq.2 (by omega) htd)
      have ZI:=H9 (Gt.SX d v q);have f:Hid (t=if (Gt.oP c q).code≠0 then Gt.oP c q else Gt.adds (Gt.oP c q) (a.drop (i+1))):=by unfold Hid;rw[O.o];conv=>lhs;unfold Gt.adds;rw[if_neg hfn]
      clear g v d P N y z C T l m hq eF O hfn nN htd HLA qx HC;generalize Gt.oP c q=H at *;go_wp2_with fail
      refine Tt.o.mono ?_;rintro e w5 ⟨rfl,hL5,xP⟩;have qY:Turns S w w5:=G.o.trans xP (fun k e j=>by
       rcases e with e | e
       . exact e
       . omega)
      have hL6:mq w5 (gM S w) L gs H.s H.ids H.told:=hL5.mono (fun k _ e=>by
       rcases e with e | e
       . exact e
       . exact R (dF G.o.size e))
      have HT6:=H9 qY;have HL6:=H9 hL6
      clear hL5 xP qY hL6;by_cases j:H.code=0
      . have tk:((H.code:Int) != 0)=F:=by rw[j];rfl
        rw[if_neg (by rw[j];simp)] at f;have HK:=H9 j;clear j;go_wp2;go_roundw
        case rel=>exact⟨i+1,by omega,by go_num,H,f.o,HK.o,ZI.o,HL6.o,HT6.o⟩
        case measure=>simp[intOf];omega
      . have tk:((H.code:Int) != 0)=true:=by rw[cO];omega
        rw[if_pos j] at f;clear j;go_wp2;go_ret;rw[f.o];exact⟨rfl,HL6.o,HT6.o⟩
  . obtain rfl:i=a.length:=by omega
    rw[dX] at g;have hR2:t=c:=g;have O:=H9 hR2;have HC:=H9 v;have HL:=H9 P;have HT:=H9 N
    clear g v d P N hR2;go_wp2;go_ret;rw[O.o,HC.o];exact⟨rfl,HL.o,HT.o⟩
structure JF (w:X)(S:Nat->Prop)(L gs:Nat)(s:Sr.Sh)(io:aj)(iL:Nat)(ids:List Int)(told:au)(W:X):Prop where
 held:∃κ lo iK,Held (EP L gs s (Yw gs io ids.length iL lo told.length iK) io iL ids lo iK told Lb Lb) κ W∧∀k,κ k≠.out->gM S w k
 turns:Turns S w W
theorem mq.aif (h:mq w S L gs s ids told):∃io iL,JF w S L gs s io iL ids told w:=by
 obtain⟨a,io,iL,b,c,d,f⟩:=h;exact⟨io,iL,⟨a,b,c,d,fun k e=>A (f k e)⟩,Turns.refl _ _⟩
theorem JF.done (h:JF w S L gs s io iL ids told W):mq W (gM S w) L gs s ids told∧Turns S w W:=by
 obtain⟨⟨a,b,c,d,e⟩,f⟩:=h;exact⟨⟨a,io,iL,b,c,d,e⟩,f⟩
theorem JF.cells (h:JF w S L gs s io iL ids told W):W.cell? ⟨L,0,U⟩=M (Q (M ⟨gs,0,U⟩))∧W.cell? ⟨L,1,U⟩=M (Z io ids.length iL)∧jm W io iL ids.length (Mc ids):=by
 obtain⟨⟨b,c,d,a,e⟩,f⟩:=h;exact⟨fJ _ _ 0 _ _ _ (a .row).1,fJ _ _ 1 _ _ _ (a .row).1,(a .ids).1.nP⟩
theorem JF.drop (h:JF w S L gs s io iL ids told W)(ok:Sr.Ok s)(a:Int):
 Calls prog 132 #[Q (M ⟨gs,0,U⟩),I J a] W fun e w'=>e=Y (I J ((Sr.drop s a).2:Int))∧JF w S L gs (Sr.drop s a).1 io iL ids told w':=by
 obtain⟨⟨j,g,i,c,d⟩,f⟩:=h;refine(yX (c .jR) ok a).mono (fun e w' b=>⟨b.ret,⟨⟨_,g,i,JE lN.nE lN.nE c b.at_ b.turns,wS d f.size⟩,f.trans b.turns (fun k e l=>?_)⟩⟩);rcases d k (by rw[e];intro h;cases h) with h | h
 . exact h
 . omega
theorem JG (s:Sr.Sh)(ids:List Int)(k:Nat)(a:k<ids.length):Gt.oZ s (ids.take (k+1))=(Sr.drop (Gt.oZ s (ids.take k)) ids[k]).1:=by
 unfold Gt.oZ;rw[bN a,fu];rfl
theorem Me (h:mq w S L gs s ids told)(ok:Sr.Ok s)(B:ids.length<=1000000):
 Calls prog 152 #[Q (M ⟨L,0,U⟩)] w fun e w'=>e=Y (.tuple #[])∧mq w' (gM S w) L gs (Gt.oZ s ids) ids told∧Turns S w w':=by
 obtain⟨io,iL,f⟩:=h.aif;obtain⟨m,n,a⟩:=f.cells;have v:=H9 f;have y:=H9 ok
 have p:=a.1;clear h f ok;go_enter func152,ntmps152;go_wp2;go_loopw [9] (fun g wr=>∃i:Nat,i<=ids.length∧g=I J i∧JF w S L gs (Gt.oZ s (ids.take i)) io iL ids told wr) (fun g _=>ids.length-(intOf g).toNat)
 case atStart=>exact⟨0,ay _,rfl,v.o⟩
 case round =>
  obtain⟨i,C,rfl,c⟩:=hrel;have z:=H9 c;clear m n a;obtain⟨m,n,a⟩:=c.cells;by_cases d:i<ids.length
  . have q:(i:Int)<ids.length:=by omega
    obtain⟨b,o,rfl,r⟩:=a.lit (by simp[Mc];omega);have G:=r i (I J ids[i]) (by unfold Mc;rw[dA,dB d];rfl);have t:=H9 (c.drop (Gt.uK (ids.take i) y.o) ids[i]);rw[<-JG s ids i d] at t;clear c a r;generalize ids[i]=x at *;go_wp2_with fail
    refine t.o.mono ?_;rintro e H ⟨rfl,u⟩;have j:=H9 u;clear u;go_wp2;go_roundw
    case rel=>exact⟨i+1,by omega,by go_num,j.o⟩
    case measure=>simp[intOf];omega
  . obtain rfl:i=ids.length:=by omega
    have k:=z.o.done;rw[bO] at k;have l:=H9 k;clear c a k;go_wp2;go_end0
    exact⟨rfl,l.o⟩
theorem Tv (h:mq w S L gs s ids told):
 Calls prog 153 #[Q (M ⟨L,0,U⟩),I J 0] w fun e w'=>(∃bo gJ,e=Y (.agg #[I J 201,Z U 0 0,Z bo told.length gJ])∧iG w' bo gJ told∧∀a,bo=M a->S a.block)∧Below w.heap.size w w':=by
 obtain⟨p,io,iL,c,d,b,i⟩:=h;obtain⟨⟨q,r,t⟩,_⟩:=Zh (b .row).1;have k:=H9 (vN.wZ (b .list));have l:Hid (∀a,c=M a->S a.block):=fun a e=>by
  rcases b .list with ⟨f,_⟩ | ⟨g,f,_,m⟩
  . rw[f] at e;cases e
  . rw[f] at e;injection e with e;subst e;exact i g (by rw[m];intro h;cases h)
 have n:L<w.heap.size:=(aK.1 (b .row).1).1;clear b i;go_enter func153,ntmps153;go_wp2;have j:Below w.heap.size w (w.alloc (K #[I J 201,Z U 0 0,Z c told.length d] 88)):=(fI _ _).alloc (aL _) _;refine gq (v:=.agg #[I J 201,Z U 0 0,Z c told.length d]) (by simp[results,results153,go_sem]) rfl ⟨⟨c,d,rfl,k.o.stay j,l.o⟩,j⟩
theorem Tw (c:Nat)(C:c≠0):
 Calls prog 153 #[Q (M ⟨L,0,U⟩),I J (c:Int)] w fun e w'=>e=Y (.agg #[I J (Gt.stat c:Int),Z U 0 0,Z U 0 0])∧Below w.heap.size w w':=by
 have m:=H9 (fun W=>pX 413 W);have n:=H9 (fun W=>pX 507 W);have G:((c:Int)==0)=F:=aR.2 (by omega);by_cases h:c=4
 . subst h;go_enter func153,ntmps153;go_wp2_with fail
   refine(m.o _).mono ?_;rintro e d ⟨rfl,a⟩;obtain⟨⟨p,q,r,u,x,y⟩,f⟩:=EF ((a.block w.heap.size (by simp)).trans (fH w _)) (I J 413) (Z U 0 0) (Z U 0 0);have b:=H9 (then_ ((fI _ w).alloc (aL _) _) a);clear a;go_wp2;generalize (((d.setCell ⟨w.heap.size,0,U⟩ _).setCell ⟨w.heap.size,1,U⟩ _).setCell ⟨w.heap.size,2,U⟩ _)=z at *;obtain⟨g,i,j,l⟩:=f.o;refine gq (v:=.agg #[I J 413,Z U 0 0,Z U 0 0]) (by simp[results,results153,go_sem,g,i,j]) rfl ⟨rfl,b.o.trans (l.below (fun k e=>by omega) b.o.size)⟩
 . have t:((c:Int)==4)=F:=aR.2 (by omega);have B:Gt.stat c=507:=by unfold Gt.stat;rw[if_neg h]
   rw[B];go_enter func153,ntmps153;go_wp2_with fail
   refine(n.o _).mono ?_;rintro e d ⟨rfl,a⟩;obtain⟨⟨p,q,r,u,x,y⟩,f⟩:=EF ((a.block w.heap.size (by simp)).trans (fH w _)) (I J 507) (Z U 0 0) (Z U 0 0);have b:=H9 (then_ ((fI _ w).alloc (aL _) _) a);clear a;go_wp2;generalize (((d.setCell ⟨w.heap.size,0,U⟩ _).setCell ⟨w.heap.size,1,U⟩ _).setCell ⟨w.heap.size,2,U⟩ _)=z at *;obtain⟨g,i,j,l⟩:=f.o;refine gq (v:=.agg #[I J 507,Z U 0 0,Z U 0 0]) (by simp[results,results153,go_sem,g,i,j]) rfl ⟨rfl,b.o.trans (l.below (fun k e=>by omega) b.o.size)⟩
end
structure QW (S:Nat->Prop)(w:X)(gs:Nat)(r:Sr.Sh×Gt.zi)(e:Ending)(w':X):Prop where
 ret:∃(fo:aj) (gL nf:Nat) (bo:aj) (gJ nb:Nat),e=Y (.agg #[I J (r.2.1:Int),Z fo nf gL,Z bo nb gJ])∧r.2.2.1.length=nf∧jm w' fo gL nf (gT r.2.2.1)∧r.2.2.2.length=nb∧iG w' bo gJ r.2.2.2∧(∀a,fo=M a->gM S w a.block)∧∀a,bo=M a->gM S w a.block
 at_:iH w' (gM S w) gs r.1
 turns:Turns S w w'
section
variable {w w0 W W':X} {S S' D:Nat->Prop} {g gs b:Nat} {s:Sr.Sh}
structure Bj (S:Nat->Prop)(w:X)(gs:Nat)(s:Sr.Sh)(b:Nat)(o:Obj)(W:X):Prop where
 box:W.heap[b]? = M o
 new:w.heap.size<=b
 st:iH W (fun k=>gM S w k∧k≠b) gs s
 turns:Turns S w W
theorem Bj.ends {j m n:Value}(h:Bj S w gs s b (K #[j,m,n] 88 (0,0)) W){st:Nat}{mE:Int}(i:(st:Int)=mE){l:ak}{body:au}{fo bo:aj}{gL nf gJ nb:Nat}(o:l.length=nf)(p:jm W fo gL nf (gT l))(c:∀a,fo=M a->gM S w a.block∧a.block≠b)(q:body.length=nb)(r:iG W bo gJ body)(d:∀a,bo=M a->gM S w a.block∧a.block≠b):
 (W.cell? ⟨b,0,U⟩=M j∧W.cell? ⟨b,1,U⟩=M m∧W.cell? ⟨b,2,U⟩=M n∧W.frozen? ⟨b,0,U⟩=F∧W.frozen? ⟨b,1,U⟩=F∧W.frozen? ⟨b,2,U⟩=F) ∧
 Hid ((((W.setCell ⟨b,0,U⟩ (I J mE)).setCell ⟨b,1,U⟩ (Z fo nf gL)).setCell ⟨b,2,U⟩ (Z bo nb gJ)).cell? ⟨b,0,U⟩=M (I J mE)∧(((W.setCell ⟨b,0,U⟩ (I J mE)).setCell ⟨b,1,U⟩ (Z fo nf gL)).setCell ⟨b,2,U⟩ (Z bo nb gJ)).cell? ⟨b,1,U⟩=M (Z fo nf gL)∧(((W.setCell ⟨b,0,U⟩ (I J mE)).setCell ⟨b,1,U⟩ (Z fo nf gL)).setCell ⟨b,2,U⟩ (Z bo nb gJ)).cell? ⟨b,2,U⟩=M (Z bo nb gJ)∧QW S w gs (s,(st,l,body)) (Y (.agg #[I J mE,Z fo nf gL,Z bo nb gJ])) (((W.setCell ⟨b,0,U⟩ (I J mE)).setCell ⟨b,1,U⟩ (Z fo nf gL)).setCell ⟨b,2,U⟩ (Z bo nb gJ))):=by
 subst i;obtain⟨t,u⟩:=EF h.box (I J (st:Int)) (Z fo nf gL) (Z bo nb gJ);obtain⟨v,x,y,f⟩:=u.out;refine⟨t,v,x,y,⟨⟨fo,gL,nf,bo,gJ,nb,rfl,o,p.turns f (fun a e=>(c a e).2),q,r.turns f (fun a e=>(d a e).2),fun a e=>(c a e).1,fun a e=>(d a e).1⟩,(h.st.turns f (fun k e z=>e.2 z)).mono (fun k _ e=>e.1),h.turns.trans f (fun k e B=>?_)⟩⟩;have:=h.new;omega
theorem Bj.did {o:Obj}{a:Sr.Sh}(h:Bj S w gs s b o W)(d:iH W' (gM (fun k=>gM S w k∧k≠b) W) gs a)(c:Turns (fun k=>gM S w k∧k≠b) W W'):Bj S w gs a b o W':=by
 have i:=h.turns.size;have f:b<W.heap.size:=(aK.1 h.box).1;refine⟨c.row h.box (fun e=>e.2 rfl),h.new,d.mono (fun k _ e=>?_),h.turns.trans c (fun k e j=>?_)⟩
 . rcases e with e | e
   . exact e
   . exact⟨R (by omega),by omega⟩
 . rcases e.1 with e | e
   . exact e
   . omega
theorem Bj.stay {o:Obj}(h:Bj S w gs s b o W)(a:Below W.heap.size W W'):Bj S w gs s b o W' :=
 ⟨(a.block b (aK.1 h.box).1).trans h.box,h.new,h.st.stay a,h.turns.trans (Turns.of_below (S:=fun _=>False) a) (fun _ e _=>e.elim)⟩
theorem Bj.start (h:iH w S gs s)(z o:Obj):Bj S w gs s (w.heap.size+1) o ((w.alloc z).alloc o)∧((w.alloc z).alloc o).heap[w.heap.size]? = M z:=by
 have c:=(fI _ w).alloc (aL _) z;have a:=(fI _ (w.alloc z)).alloc (aL _) o;have d:(w.alloc z).heap.size=w.heap.size+1:=fV ..;refine⟨⟨?_,by omega,?_,Turns.of_below (then_ c a)⟩,?_⟩
 . have:=fH (w.alloc z) o;rw[d] at this;exact this
 . exact((h.mono (S':=fun k=>gM S w k∧k≠w.heap.size+1) (fun k f e=>⟨A e,by omega⟩)).stay c).stay a
 . exact(a.block w.heap.size (by omega)).trans (fH w z)
theorem mq.sync {L:Nat}{ids:List Int}{a:au}(h:mq w S L gs s ids a):Calls prog 121 #[Q (M ⟨gs,0,U⟩)] w fun e w'=>e=Y (.tuple #[])∧mq w' (gM S w) L gs (Sr.sync s) ids a∧Turns S w w':=by
 obtain⟨p,i,j,l,m,c,d⟩:=h;exact(oQ (c .jR)).mono (fun e w' ⟨n,o,f⟩=>⟨n,⟨_,i,j,l,m,JE lN.nE lN.nE c (iH.mono o (fun k _ e=>A e)) f,wS (fun k e=>A (d k e)) (aL _)⟩,f.mono (fun k e=>d k (by rw[e];intro h;cases h))⟩)
theorem mq.jR {L:Nat}{ids:List Int}{a:au}(h:mq w S L gs s ids a):iH w S gs s:=by
 obtain⟨f,i,j,l,m,c,d⟩:=h;exact iH.mono (c .jR) (fun k _ e=>d k (by rw[e];intro h;cases h))
theorem mq.cell0 {L:Nat}{ids:List Int}{a:au}(h:mq w S L gs s ids a):w.cell? ⟨L,0,U⟩=M (Q (M ⟨gs,0,U⟩)):=by
 obtain⟨d,e,f,i,j,c,k⟩:=h;exact fJ _ _ 0 _ _ _ (c .row).1
structure Pf (S:Nat->Prop)(w:X)(gs b L:Nat)(o:Obj)(B:X)(s:Sr.Sh)(ids:List Int)(told:au)(W:X):Prop where
 land:mq W (gM (fun k=>(S k∧k<w.heap.size)∨k=L) B) L gs s ids told
 turns:Turns (fun k=>(S k∧k<w.heap.size)∨k=L) B W
 box:W.heap[b]? = M o
theorem Pf.did {L:Nat}{o:Obj}{B:X}{d:Sr.Sh}{ids Md:List Int}{c a:au}(h:Pf S w gs b L o B s ids c W)(j:w.heap.size<=b)(l:b<L)(m:L<B.heap.size)(i:mq W' (gM (gM (fun k=>(S k∧k<w.heap.size)∨k=L) B) W) L gs d Md a)(f:Turns (gM (fun k=>(S k∧k<w.heap.size)∨k=L) B) W W'):Pf S w gs b L o B d Md a W':=by
 have n:=h.turns.size;refine⟨i.mono (fun k _ e=>?_),h.turns.then_ f,f.row h.box (fun e=>?_)⟩
 . rcases e with e | e
   . exact e
   . exact R (by omega)
 . rcases e with (e | e) | e
   . have:=e.2;omega
   . omega
   . omega
theorem Pf.bx {L:Nat}{o:Obj}{B:X}{ids:List Int}{a:au}(h:Pf S w gs b L o B s ids a W)(c:w.heap.size<=b)(f:b<L)(i:L<B.heap.size)(d:Below w.heap.size w B):Bj S w gs s b o W:=by
 have j:=h.turns.size;refine⟨h.box,c,h.land.jR.mono (fun k _ e=>?_),(Turns.of_below d).trans h.turns (fun k e l=>?_)⟩
 . rcases e with (e | e) | e
   . exact⟨A e.1,by have:=e.2;omega⟩
   . exact⟨R (by omega),by omega⟩
   . exact⟨R (by omega),by omega⟩
 . rcases e with e | e
   . exact e.1
   . omega
theorem mq.begin_ {n:Nat}(h:iH w (fun k=>S k∧k<n) gs s)(l:n<=w.heap.size):mq (w.alloc (K #[Q (M ⟨gs,0,U⟩),Z U 0 0,Z U 0 0] 214)) (fun k=>S k∧k<n∨k=w.heap.size) w.heap.size gs s [] []:=by
 have j:=(fI _ w).alloc (aL _) (K #[Q (M ⟨gs,0,U⟩),Z U 0 0,Z U 0 0] 214);classical
 refine⟨fun k=>if k=w.heap.size then .row else if S k∧k<n then .jR else .out,U,0,U,0,fun d=>?_,fun k c=>?_⟩
 . cases d with
   | row=>exact⟨fH w _,if_pos rfl⟩
   | jR=>exact iH.mono (h.stay j) (fun k _ e=>by
    show(if k=w.heap.size then OL.row else if S k∧k<n then .jR else .out)=.jR;rw[if_neg (by have:=e.2;omega),if_pos e])
   | ids=>exact⟨gU.nil _ _ _ _,fun a e=>by cases e⟩
   | list=>exact vN.nil _ _
   | box=>exact trivial
   | out=>exact trivial
 . simp only at c;by_cases f:k=w.heap.size
   . exact R f
   . rw[if_neg f] at c;by_cases i:S k∧k<n
     . exact A i
     . rw[if_neg i] at c;exact absurd rfl c
end
section
variable {w w0:X} {S:Nat->Prop} {g gs:Nat} {s:Sr.Sh}
theorem jC (S:Nat->Prop)(w:X)(b:Nat):∀a,(U:aj)=M a->gM S w a.block∧a.block≠b:=fun a e=>by cases e
theorem XE (p:wR w0 w S)(h:iH w S gs s)(ok:Sr.Ok s)(hg:w.cell? ⟨g,0,U⟩=M (Q (M ⟨gs,0,U⟩))){m t:av}{mi ln:Int}{l:ak}{fo:aj}{gL nf:Nat}(hF:pW w l fo gL nf)(body:au){bo:aj}{gJ nb:Nat}(hb:body.length=nb)(hB:iG w bo gJ body)(hnb:nb<=20000):
 Calls prog 110 #[Q (M ⟨g,0,U⟩),.agg #[V m,V t,I J mi,Z fo nf gL,I J ln,Z bo nb gJ]] w fun e w'=>QW S w gs (Gt.land s l body) e w':=by
 obtain⟨ai,P⟩:∃ai,ai=Gt.land s l body:=⟨_,rfl⟩;rw[<-P];obtain⟨hX,BZ⟩:=Bj.start h (K #[V m,V t,I J mi,Z fo nf gL,I J ln,Z bo nb gJ] 75) (K #[I J 0,Z U 0 0,Z U 0 0] 88);have Zb:g<w.heap.size:=fZ w _ hg;have hbb:Below w.heap.size w ((w.alloc (K #[V m,V t,I J mi,Z fo nf gL,I J ln,Z bo nb gJ] 75)).alloc (K #[I J 0,Z U 0 0,Z U 0 0] 88)):=then_ ((fI _ w).alloc (aL _) _) ((fI _ _).alloc (aL _) _);have Yz:=H9 (EI (hF.stay hbb));have Ao:Hid (∀W,Below w.heap.size w W->iH W (fun k=>S k∧k<w.heap.size) gs s):=fun W hW=>(h.mono (S':=fun k=>S k∧k<w.heap.size) (fun k hk e=>⟨e,hk⟩)).stay hW;have HIb:Hid (∀W,Below w.heap.size w W->iG W bo gJ body):=fun W hW=>hB.stay hW;have HG:Hid (∀W,Below w.heap.size w W->W.cell? ⟨g,0,U⟩=M (Q (M ⟨gs,0,U⟩))):=fun W hW=>(hW.cell (p:=⟨g,0,U⟩) Zb).trans hg;have HP:=H9 p;have qx:=H9 ok
 have hs1:((w.alloc (K #[V m,V t,I J mi,Z fo nf gL,I J ln,Z bo nb gJ] 75)).alloc (K #[I J 0,Z U 0 0,Z U 0 0] 88)).heap.size=w.heap.size+2:=by simp
 clear h hB hF p ok hg;go_enter func110,ntmps110;go_upto_region 1 with fail
 generalize hW1:((w.alloc (K #[V m,V t,I J mi,Z fo nf gL,I J ln,Z bo nb gJ] 75)).alloc (K #[I J 0,Z U 0 0,Z U 0 0] 88))=W1 at *;clear hW1;have a3:=fJ W1 _ 3 _ _ _ BZ;simp at a3;have HX:=H9 hX;have F3:=H9 hbb;have HZr:=H9 BZ;have F4:=H9 hs1
 clear hX hbb BZ hs1;go_wp2_with fail
 refine Yz.o.mono ?_;rintro e w1 ⟨rfl,z⟩;have Tk:=H9 (HX.o.stay z);have HB1:=H9 (then_ F3.o z);have hsz1:=z.size;have a5:w1.cell? ⟨w.heap.size,5,U⟩=M (Z bo nb gJ):=by
  have:=fJ w1 _ 5 _ _ _ ((z.block w.heap.size (by have:=F4.o;omega)).trans HZr.o);simpa using this
 have aeV:Hid (w.heap.size+2<=w1.heap.size):=by have:=F4.o;unfold Hid;omega
 clear z hsz1 HZr HX Yz;cases j:Gt.bound l with
 | none =>
   have N:Hid (ai=(s,(415,[],[]))):=P.trans (Gt.TQ j);clear P j;have H5:=H9 (fun W=>pX 415 W);simp only[Option.elim,Option.isSome];go_wp2_with fail
   refine(H5.o _).mono ?_;rintro e O ⟨rfl,f⟩;obtain⟨⟨z0,z1,z2,y0,y1,y2⟩,T⟩:=(Tk.o.stay f).ends (st:=415) (mE:=415) rfl (l:=[]) (body:=[]) rfl (jm.nil _) (jC _ _ _) rfl (iG.nil _) (jC _ _ _);clear f;go_wp2;generalize (((O.setCell ⟨w.heap.size+1,0,U⟩ _).setCell ⟨w.heap.size+1,1,U⟩ _).setCell ⟨w.heap.size+1,2,U⟩ _)=wf at *;obtain⟨q0,q1,q2,q3⟩:=T.o;refine gq (v:=.agg #[I J 415,Z U 0 0,Z U 0 0]) (by simp[results,results110,go_sem,q0,q1,q2]) rfl ?_;rw[N.o];exact q3
 | some bd =>
   simp only[Option.elim,Option.isSome];have HRd:=H9 (Xu (Gt.txt bd) body bo gJ nb w1 (HIb.o _ HB1.o) hb hnb);rw[show(Gt.txt bd).data.toList=bd from by unfold Gt.txt;simp] at HRd;go_wp2_with fail
   refine HRd.o.mono ?_;rintro e O hRd;cases hRd with
   | no c hc aeW he f =>
     subst he;have hpn:Gt.parts bd body=U:=by
      unfold Gt.parts;rw[if_neg];rintro ⟨e1,e2⟩;rcases aeW with ⟨h1,_⟩ | ⟨_,h1⟩
      . rw[h1] at e1;cases e1
      . exact hc (by rw[<-h1];exact e2)
     have N:Hid (ai=(s,(400,[],[]))):=P.trans (Gt.XD j hpn);have tc:((c:Int) != 0)=true:=by rw[cO];omega
     have WU:=H9 (Tk.o.stay f);clear P j hpn aeW f hc HRd;have H4:=H9 (fun W=>pX 400 W);go_wp2_with fail
     refine(H4.o _).mono ?_;rintro e w3 ⟨rfl,b⟩;obtain⟨⟨z0,z1,z2,y0,y1,y2⟩,T⟩:=(WU.o.stay b).ends (st:=400) (mE:=400) rfl (l:=[]) (body:=[]) rfl (jm.nil _) (jC _ _ _) rfl (iG.nil _) (jC _ _ _);clear b;go_wp2;generalize (((w3.setCell ⟨w.heap.size+1,0,U⟩ _).setCell ⟨w.heap.size+1,1,U⟩ _).setCell ⟨w.heap.size+1,2,U⟩ _)=wf at *;obtain⟨q0,q1,q2,q3⟩:=T.o;refine gq (v:=.agg #[I J 400,Z U 0 0,Z U 0 0]) (by simp[results,results110,go_sem,q0,q1,q2]) rfl ?_;rw[N.o];exact q3
   | yes hm hcl w15 aeX ao cap n he hP f =>
     subst he;obtain⟨C,hps⟩:∃C,C=Fm.pQ (lX (Fm.outs (Fm.mark bd) Fm.start body)):=⟨_,rfl⟩;have D:Gt.parts bd body=M C:=by unfold Gt.parts;rw[if_pos ⟨hm,hcl⟩,hps]
     rw[<-hps] at hP;obtain⟨hrm,hpl,hpz⟩:=Gt.Mw D (by have:=(wV hm).long;omega) (wV hm).good (by decide) (by rw[hb];exact hnb);have hn:=hP.len;subst hn;have hPD:=hP.aia (fun k e=>dF aeX e);have hB2:=then_ HB1.o f;have aiG:Hid (w.heap.size+2<=O.heap.size):=dF aeV.o f.size;have hX2:=Tk.o.stay f;have hgc:=HG.o O hB2;have HRo:=H9 (OD (hPD.aaT.stay (gP _ _)) rfl hrm);have EB:Hid (Below w.heap.size w O.drew):=then_ hB2 (gP _ _);obtain⟨rm,acL⟩:∃rm,rm=Gt.room C:=⟨_,rfl⟩;rw[<-acL] at HRo hrm;have O5:=H9 (fun W (hW:Below w.heap.size w W)=>uY (Ao.o W hW) (rm:Int));obtain⟨bf,hbf⟩:∃bf,bf=decide (100000<s.log.length+rm):=⟨_,rfl⟩;have hrb:(decide ((0:Int)<=(rm:Int))&&decide ((rm:Int)<=100000-(s.log.length:Int)))=!bf:=by
      rw[hbf,aH (by omega:(0:Int)<=(rm:Int)),Bool.true_and,<-decide_not,decide_eq_decide];omega
     rw[hrb] at O5;have Zu:=H9 hbf;have HRe:=H9 acL
     clear hbf acL;have WU:=H9 hX2;have x:=H9 hB2;have HPD:=H9 hPD;have HPz:=H9 hpz
     clear hP hps hm hcl aeX hPD hB2 hX2 hpz HRd f Tk HB1 hrb;go_upto_region 7 with fail
     go_cut [31] (fun v wd=>v=.bool bf∧Below O.heap.size O wd)
     case first =>
      go_region_held3 (fun W=>W.cell? ⟨g,0,U⟩=M (Q (M ⟨gs,0,U⟩))) (go_keep) (first
       | (go_at_call 150;refine HRo.o.mono ?_;rintro e w3 ⟨rfl,b⟩;have HB3:Hid (Below O.heap.size O w3):=then_ (gP _ _) b;have hg3:=HG.o w3 (then_ x.o HB3.o);clear b)
       | (go_at_call 129;refine(O5.o _ (then_ x.o HB3.o)).mono ?_;rintro e w4 ⟨rfl,hw⟩;subst hw))
      all_goals
       go_wp2;go_meet;exact⟨rfl,HB3.o⟩
     case rest =>
      obtain⟨rfl,b⟩:=hcut;have HX3:=H9 (WU.o.stay b);have HB3:=H9 b
      clear hgc HRo O5 EB WU;cases bf with
      | true =>
        have d:100000<s.log.length+rm:=dh Zu.o.symm;have N:Hid (ai=(s,(507,[],[]))):=P.trans (Gt.TR j D (by rw[<-HRe.o];exact d));clear P j D b d Zu;have H4:=H9 (fun W=>pX 507 W);go_wp2_with fail
        refine(H4.o _).mono ?_;rintro e w3 ⟨rfl,b⟩;obtain⟨⟨z0,z1,z2,y0,y1,y2⟩,T⟩:=(HX3.o.stay b).ends (st:=507) (mE:=507) rfl (l:=[]) (body:=[]) rfl (jm.nil _) (jC _ _ _) rfl (iG.nil _) (jC _ _ _);clear b;go_wp2;generalize (((w3.setCell ⟨w.heap.size+1,0,U⟩ _).setCell ⟨w.heap.size+1,1,U⟩ _).setCell ⟨w.heap.size+1,2,U⟩ _)=wf at *;obtain⟨q0,q1,q2,q3⟩:=T.o;refine gq (v:=.agg #[I J 507,Z U 0 0,Z U 0 0]) (by simp[results,results110,go_sem,q0,q1,q2]) rfl ?_;rw[N.o];exact q3
      | false =>
        have d:¬100000<s.log.length+rm:=of_decide_eq_false Zu.o.symm;have N:Hid (ai=Gt.ends (Gt.adds ⟨s,[],[],0⟩ C)):=P.trans (Gt.TS j D (by rw[<-HRe.o];exact d));have hgc:=HG.o wc (then_ x.o b);have hz3:=b.size;have hz2:=x.o.size
        have hL0:=mq.begin_ (Ao.o wc (then_ x.o b)) (by omega);have hbL:=(fI _ wc).alloc (aL _) (K #[Q (M ⟨gs,0,U⟩),Z U 0 0,Z U 0 0] 214);have aeZ:F7 (wc.alloc (K #[Q (M ⟨gs,0,U⟩),Z U 0 0,Z U 0 0] 214)) (fun k=>w1.heap.size<=k∧k<O.heap.size) ao cap C:=HPD.o.turns (Turns.of_below (S:=fun _=>False) (then_ b hbL)) (fun _ _ e=>e);have hwB:Below w.heap.size w (wc.alloc (K #[Q (M ⟨gs,0,U⟩),Z U 0 0,Z U 0 0] 214)):=then_ (then_ x.o b) hbL;have hpw:wR w0 (wc.alloc (K #[Q (M ⟨gs,0,U⟩),Z U 0 0,Z U 0 0] 214)) (fun k=>(S k∧k<w.heap.size)∨k=wc.heap.size):=⟨HP.o.pow,HP.o.vM.trans (hwB.mono HP.o.vM.size),fun k e=>by
         rcases e with e | e
         . exact HP.o.far k e.1
         . have:=HP.o.vM.size;omega⟩
        have HAA:=H9 (OM hpw ⟨s,[],[],0⟩ hL0 ⟨qx.o,ay _,A (ay _)⟩ rfl C aeZ (fun k e=>⟨fun e2=>by
         rcases e2 with e2 | e2
         . have:=e2.2;have:=aeV.o;omega
         . omega,by rw[fV];omega⟩) rfl hpl HPz.o)
        have HX0:Hid (Pf S w gs (w.heap.size+1) wc.heap.size (K #[I J 0,Z U 0 0,Z U 0 0] 88) (wc.alloc (K #[Q (M ⟨gs,0,U⟩),Z U 0 0,Z U 0 0] 214)) s [] [] (wc.alloc (K #[Q (M ⟨gs,0,U⟩),Z U 0 0,Z U 0 0] 214))):=⟨hL0.mono (fun k _ e=>A e),Turns.refl _ _,(HX3.o.stay hbL).box⟩;have i:Hid (w.heap.size<=w.heap.size+1∧w.heap.size+1<wc.heap.size∧wc.heap.size<(wc.alloc (K #[Q (M ⟨gs,0,U⟩),Z U 0 0,Z U 0 0] 214)).heap.size):=⟨by omega,by have:=aiG.o;have:=b.size;omega,by rw[fV];omega⟩;have HWB:=H9 hwB;have ae0:=Gt.JA C (r:=⟨s,[],[],0⟩) qx.o;have ae1:=Gt.E5 C ⟨s,[],[],0⟩;have aiI:=H9 ae0;have aiJ:(Gt.adds ⟨s,[],[],0⟩ C).ids.length<=1000000:=by simp at ae1;omega
        clear ae1 ae0 hpw aeZ hwB hbL hL0 P j D b d Zu HRe HX3 HPD HPz hz3 hz2;generalize Gt.adds ⟨s,[],[],0⟩ C=q at *;go_upto_region 10 with fail
        generalize hBB:(wc.alloc (K #[Q (M ⟨gs,0,U⟩),Z U 0 0,Z U 0 0] 214))=B at *;clear hBB;go_wp2_with fail
        refine HAA.o.mono ?_;rintro e w5 ⟨rfl,hL5,xP⟩;have G:Hid (Pf S w gs (w.heap.size+1) wc.heap.size (K #[I J 0,Z U 0 0,Z U 0 0] 88) B q.s q.ids q.told w5):=HX0.o.did i.o.1 i.o.2.1 i.o.2.2 (hL5.mono (fun k _ e=>by
         rcases e with e | e
         . exact A (A e)
         . exact R e)) (xP.mono (fun k e=>A e))
        clear hL5 xP HAA HX0;by_cases u:q.code=0
        . have tc:((q.code:Int) != 0)=F:=by rw[u];rfl
          have HRr:Hid (ai=(Sr.sync q.s,(201,[],q.told))):=by unfold Hid;rw[N.o];unfold Gt.ends;rw[if_pos u]
          have k0:=G.o.land.cell0;have J8:=H9 G.o.land.sync;rw[u];clear N u tc;go_wp2_with fail
          refine J8.o.mono ?_;rintro e w6 ⟨rfl,H,qY⟩;have y:=H9 (G.o.did i.o.1 i.o.2.1 i.o.2.2 H qY);have HRp:=H9 (Tv y.o.land);clear H qY;go_wp2_with fail
          refine HRp.o.mono ?_;rintro e w7 ⟨⟨bo7,ae3,rfl,hB7,hS7⟩,XF⟩;obtain⟨⟨z0,z1,z2,y0,y1,y2⟩,T⟩:=((y.o.bx i.o.1 i.o.2.1 i.o.2.2 HWB.o).stay XF).ends (st:=201) (mE:=201) rfl (l:=[]) (body:=q.told) rfl (jm.nil _) (jC _ _ _) rfl hB7 (fun a e=>by
           have:=i.o;rcases hS7 a e with (h1 | h1) | h1
           . exact⟨A h1.1,by have:=h1.2;omega⟩
           . exact⟨R (by omega),by omega⟩
           . exact⟨R (by omega),by omega⟩)
          clear hB7 hS7 XF;go_wp2;generalize (((w7.setCell ⟨w.heap.size+1,0,U⟩ _).setCell ⟨w.heap.size+1,1,U⟩ _).setCell ⟨w.heap.size+1,2,U⟩ _)=wf at *;obtain⟨q0,q1,q2,q3⟩:=T.o;refine gq (v:=.agg #[I J 201,Z U 0 0,Z bo7 q.told.length ae3]) (by simp[results,results110,go_sem,q0,q1,q2]) rfl ?_;rw[HRr.o];exact q3
        . have tc:((q.code:Int) != 0)=true:=by rw[cO];omega
          have HRr:Hid (ai=(Sr.sync (Gt.oZ q.s q.ids),(Gt.stat q.code,[],[]))):=by unfold Hid;rw[N.o];unfold Gt.ends;rw[if_neg u]
          have HDa:=H9 (Me G.o.land aiI.o aiJ);have sG:=H9 (fun(W:X)=>Tw (L:=wc.heap.size) (w:=W) q.code u);clear N u;go_wp2_with fail
          refine HDa.o.mono ?_;rintro e w6 ⟨rfl,H,qY⟩;have y:=H9 (G.o.did i.o.1 i.o.2.1 i.o.2.2 H qY);have k0:=y.o.land.cell0;have J8:=H9 y.o.land.sync;clear H qY;go_wp2_with fail
          refine J8.o.mono ?_;rintro e w7 ⟨rfl,hL7,Ca⟩;have HX7:=H9 (y.o.did i.o.1 i.o.2.1 i.o.2.2 hL7 Ca);clear hL7 Ca;go_wp2_with fail
          refine(sG.o _).mono ?_;rintro e w8 ⟨rfl,hb8⟩;obtain⟨⟨z0,z1,z2,y0,y1,y2⟩,T⟩:=((HX7.o.bx i.o.1 i.o.2.1 i.o.2.2 HWB.o).stay hb8).ends (st:=Gt.stat q.code) (mE:=(Gt.stat q.code:Int)) rfl (l:=[]) (body:=[]) rfl (jm.nil _) (jC _ _ _) rfl (iG.nil _) (jC _ _ _);clear hb8;go_wp2;generalize (((w8.setCell ⟨w.heap.size+1,0,U⟩ _).setCell ⟨w.heap.size+1,1,U⟩ _).setCell ⟨w.heap.size+1,2,U⟩ _)=wf at *;obtain⟨q0,q1,q2,q3⟩:=T.o;refine gq (v:=.agg #[I J (Gt.stat q.code:Int),Z U 0 0,Z U 0 0]) (by simp[results,results110,go_sem,q0,q1,q2]) rfl ?_;rw[HRr.o];exact q3
end
section
variable {w w0:X} {S:Nat->Prop} {g gs:Nat} {s:Sr.Sh}
theorem Z0 (t:av):Tu.ours t=Gt.ours t:=rfl
theorem Pg (p:wR w0 w S)(h:iH w S gs s)(ok:Sr.Ok s)(hg:w.cell? ⟨g,0,U⟩=M (Q (M ⟨gs,0,U⟩))){m t:av}{mi ln:Int}{l:ak}{fo:aj}{gL nf:Nat}(hF:pW w l fo gL nf)(body:au){bo:aj}{gJ nb:Nat}(hb:body.length=nb)(hB:iG w bo gJ body)(hnb:nb<=20000)(ht:t.size<=100000):
 Calls prog 66 #[Q (M ⟨g,0,U⟩),.agg #[V m,V t,I J mi,Z fo nf gL,I J ln,Z bo nb gJ]] w fun e w'=>QW S w gs (Gt.answer Tu.iF s m t l body) e w':=by
 obtain⟨ai,c⟩:∃ai,ai=Gt.answer Tu.iF s m t l body:=⟨_,rfl⟩;rw[<-c];unfold Gt.answer at c;obtain⟨hX,x⟩:=Bj.start h (K #[V m,V t,I J mi,Z fo nf gL,I J ln,Z bo nb gJ] 75) (K #[I J 0,Z U 0 0,Z U 0 0] 88);have Zb:g<w.heap.size:=fZ w _ hg;have r:Below w.heap.size w ((w.alloc (K #[V m,V t,I J mi,Z fo nf gL,I J ln,Z bo nb gJ] 75)).alloc (K #[I J 0,Z U 0 0,Z U 0 0] 88)):=then_ ((fI _ w).alloc (aL _) _) ((fI _ _).alloc (aL _) _);have hs1:((w.alloc (K #[V m,V t,I J mi,Z fo nf gL,I J ln,Z bo nb gJ] 75)).alloc (K #[I J 0,Z U 0 0,Z U 0 0] 88)).heap.size=w.heap.size+2:=by simp
 have i:=H9 (fun W=>Sy t W ht);have u:=H9 (fun st W=>pX st W);go_enter func66,ntmps66;go_upto_region 1 with fail
 generalize hW1:((w.alloc (K #[V m,V t,I J mi,Z fo nf gL,I J ln,Z bo nb gJ] 75)).alloc (K #[I J 0,Z U 0 0,Z U 0 0] 88))=f at *;clear hW1;have a0:f.cell? ⟨w.heap.size,0,U⟩=M (V m):=fJ f _ 0 _ _ _ x;have a1:f.cell? ⟨w.heap.size,1,U⟩=M (V t):=fJ f _ 1 _ _ _ x;have a2:f.cell? ⟨w.heap.size,2,U⟩=M (I J mi):=fJ f _ 2 _ _ _ x;have a3:f.cell? ⟨w.heap.size,3,U⟩=M (Z fo nf gL):=fJ f _ 3 _ _ _ x;have a4:f.cell? ⟨w.heap.size,4,U⟩=M (I J ln):=fJ f _ 4 _ _ _ x;have a5:f.cell? ⟨w.heap.size,5,U⟩=M (Z bo nb gJ):=fJ f _ 5 _ _ _ x;have hg1:f.cell? ⟨g,0,U⟩=M (Q (M ⟨gs,0,U⟩)):=(r.cell (p:=⟨g,0,U⟩) Zb).trans hg;have N:=hX.st;have j:=hF.stay r;have n:=hB.stay r;have d:wR w0 f (fun k=>gM S w k∧k≠w.heap.size+1):=⟨p.pow,p.vM.trans (r.mono p.vM.size),fun k e=>by
  rcases e.1 with e | e
  . exact p.far k e
  . exact dF p.vM.size e⟩
 have HX:=H9 hX;have F4:=H9 hs1
 clear x hX hF hB hg h p hs1;rw[show Gt.ours t=Tu.ours t from(Z0 t).symm] at c;cases O:Tu.ours t with
 | true =>
   rw[O,if_pos rfl] at c;have HDo:=H9 (ZW (m:=m) (t:=t) (mi:=mi) (ln:=ln) (bo:=bo) (gJ:=gJ) (nb:=nb) (w:=f.drew) ⟨d.pow,then_ d.vM (gP _ _),d.far⟩ (N.stay (gP _ _)) ok (j.stay (gP _ _)) body hb (n.stay (gP _ _)) (by omega) ht);rw[O] at i;have y:=H9 c;generalize Tu.iF s m t l body=tr at *;obtain⟨s2,b,l2⟩:=tr;clear c O N j n d u;go_wp2_with fail
   refine(i.o _).mono ?_;rintro e w1 ⟨rfl,z⟩;subst z;go_upto_region 2 with fail
   go_cut [] (fun wd=>∃(P:aj) (T iB:Nat),wd.cell? ⟨w.heap.size+1,0,U⟩=M (I J (b:Int))∧wd.cell? ⟨w.heap.size+1,1,U⟩=M (Z P T iB)∧wd.cell? ⟨w.heap.size+1,2,U⟩=M (Z U 0 0)∧QW S w gs (s2,(b,l2,[])) (Y (.agg #[I J (b:Int),Z P T iB,Z U 0 0])) wd)
   case first =>
    go_region_law (first
     | (go_simp;go_at_call 30;refine HDo.o.mono ?_;rintro e w9 ⟨⟨P,iB,T,rfl,lq,jT⟩,kS,sw⟩;have hX9:=(HX.o.stay (gP _ _)).did kS sw;obtain⟨⟨z0,z1,z2,y0,y1,y2⟩,B⟩:=hX9.ends (st:=b) (mE:=(b:Int)) rfl (l:=l2) (body:=[]) lq jT.nP (fun a e=>by have h1:w1.heap.size<=a.block:=(jT.block a e).1;have:=F4.o;exact⟨R (by omega),by omega⟩) rfl (iG.nil _) (jC _ _ _);clear lq jT kS sw hX9))
    all_goals
     go_wp2;go_meet;exact⟨P,T,iB,B.o⟩
   case rest =>
    obtain⟨P,T,iB,C,D,G,H⟩:=hcut;go_wp2;refine gq (v:=.agg #[I J (b:Int),Z P T iB,Z U 0 0]) (by simp[results,results66,go_sem,C,D,G]) rfl ?_;rw[y.o];exact H
 | false =>
   rw[O,if_neg (by simp)] at c;rw[O] at i;clear O;obtain⟨tt,htt⟩:∃tt,(t.toList==([47,102,111,114,109]:au))=tt:=⟨_,rfl⟩;have eT:t=Gt.aaD<->tt=true:=by
    rw[<-htt,aS,Lib.toList_data,ByteArray.ext_iff,<-fG];rfl
   obtain⟨tm,htm⟩:∃tm,(m.toList==([80,79,83,84]:au))=tm:=⟨_,rfl⟩;have eM:m=Gt.GU<->tm=true:=by
    rw[<-htm,aS,Lib.toList_data,ByteArray.ext_iff,<-fG];rfl
   cases tt with
   | false =>
     rw[if_pos (fun e=>by have:=eT.1 e;cases this)] at c;have y:=H9 c;clear c eT eM N j n d htm;go_wp2_with fail
     refine(i.o _).mono ?_;rintro e w1 ⟨rfl,z⟩;subst z;go_wp2_with fail
     refine(u.o 404 _).mono ?_;rintro e w3 ⟨rfl,q⟩;obtain⟨⟨z0,z1,z2,y0,y1,y2⟩,B⟩:=(HX.o.stay q).ends (st:=404) (mE:=404) rfl (l:=[]) (body:=[]) rfl (jm.nil _) (jC _ _ _) rfl (iG.nil _) (jC _ _ _);clear q;go_wp2;generalize (((w3.setCell ⟨w.heap.size+1,0,U⟩ _).setCell ⟨w.heap.size+1,1,U⟩ _).setCell ⟨w.heap.size+1,2,U⟩ _)=wf at *;obtain⟨C,D,G,H⟩:=B.o;refine gq (v:=.agg #[I J 404,Z U 0 0,Z U 0 0]) (by simp[results,results66,go_sem,C,D,G]) rfl ?_;rw[y.o];exact H
   | true =>
     rw[if_neg (fun e=>e (eT.2 rfl))] at c;clear eT;cases tm with
     | false =>
       rw[if_pos (fun e=>by have:=eM.1 e;cases this)] at c;have y:=H9 c;clear c eM N j n d;go_wp2_with fail
       refine(i.o _).mono ?_;rintro e w1 ⟨rfl,z⟩;subst z;go_wp2_with fail
       refine(u.o 405 _).mono ?_;rintro e w3 ⟨rfl,q⟩;obtain⟨⟨z0,z1,z2,y0,y1,y2⟩,B⟩:=(HX.o.stay q).ends (st:=405) (mE:=405) rfl (l:=[]) (body:=[]) rfl (jm.nil _) (jC _ _ _) rfl (iG.nil _) (jC _ _ _);clear q;go_wp2;generalize (((w3.setCell ⟨w.heap.size+1,0,U⟩ _).setCell ⟨w.heap.size+1,1,U⟩ _).setCell ⟨w.heap.size+1,2,U⟩ _)=wf at *;obtain⟨C,D,G,H⟩:=B.o;refine gq (v:=.agg #[I J 405,Z U 0 0,Z U 0 0]) (by simp[results,results66,go_sem,C,D,G]) rfl ?_;rw[y.o];exact H
     | true =>
       rw[if_neg (fun e=>e (eM.2 rfl))] at c;have y:=H9 c;have HFm:=H9 (XE (g:=g) (m:=m) (t:=t) (mi:=mi) (ln:=ln) d N ok hg1 j body hb n hnb);generalize Gt.land s l body=tr at *;obtain⟨s2,b,l2,b2⟩:=tr;clear c eM N j n d u;go_wp2_with fail
       refine(i.o _).mono ?_;rintro e w1 ⟨rfl,z⟩;subst z;go_wp2_with fail
       refine HFm.o.mono ?_;rintro e w9 ⟨⟨fo9,ae5,nf9,bo9,ae6,nb9,rfl,lq,hF9,hm9,oz,hf9,hb9⟩,kS,sw⟩;have L:∀k,gM (fun k=>gM S w k∧k≠w.heap.size+1) w1 k->gM S w k∧k≠w.heap.size+1:=fun k e=>by
        have:=F4.o;rcases e with e | e
        . exact e
        . exact⟨R (by omega),by omega⟩
       obtain⟨⟨z0,z1,z2,y0,y1,y2⟩,B⟩:=(HX.o.did kS sw).ends (st:=b) (mE:=(b:Int)) rfl (l:=l2) (body:=b2) lq hF9 (fun a e=>L _ (hf9 a e)) hm9 oz (fun a e=>L _ (hb9 a e));clear lq hF9 hm9 oz hf9 hb9 kS sw L;go_wp2;generalize (((w9.setCell ⟨w.heap.size+1,0,U⟩ _).setCell ⟨w.heap.size+1,1,U⟩ _).setCell ⟨w.heap.size+1,2,U⟩ _)=wf at *;obtain⟨C,D,G,H⟩:=B.o;refine gq (v:=.agg #[I J (b:Int),Z fo9 nf9 ae5,Z bo9 nb9 ae6]) (by simp[results,results66,go_sem,C,D,G]) rfl ?_;rw[y.o];exact H
end
end Go.Proofs.YtjmndjmhjleabaaGreatDoor