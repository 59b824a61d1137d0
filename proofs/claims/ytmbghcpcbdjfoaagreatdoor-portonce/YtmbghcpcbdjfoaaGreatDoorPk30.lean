import Derived.Test.YtmbghcpcbdjfoaaGreatDoorPk24
import Derived.Test.YtmbghcpcbdjfoaaGreatDoorPk21
import Derived.Test.YtmbghcpcbdjfoaaGreatDoorPk19
open Go.Value renaming int->I,string->V,slice->Z,pointer->Q
open Go.IntKind renaming i64->J
open Go.Obj renaming cells->K
open Go.Ending renaming returned->Y
open Option renaming none->U,some->M
open Bool renaming false->F
open Or renaming inr->R
open Go renaming World->X
set_option maxHeartbeats 4000000
set_option maxRecDepth 100000
open Go.Proofs.Tryz
namespace Go.Proofs.YtmbghcpcbdjfoaaGreatDoor
open Go.RowKit
def B7 (m:Nat ⊕ (ae×List cZ))(word:ag)(ps:aC)(code:Nat):Prop :=
 match m with
 | .inl c=>code=c∧word=⟨#[]⟩∧ps=[]
 | .inr x=>code=0∧word.data.toList=x.1∧dy ps=x.2
def ur (w:X)(m:Nat ⊕ (ae×List cZ))(e:Ending)(w':X):Prop :=
 ∃word ps ao cap,∃code:Nat,e=Y (.tuple #[.agg #[V word,Z ao ps.length cap],I J (code:Int)])∧B7 m word ps code∧aG w' w.heap.size 237 2 ao cap ps.length (aI ps)∧Below w.heap.size w w'
theorem ur.a {w w':X}{m:Nat ⊕ (ae×List cZ)}{c:Nat}(a:m=.inl c)(b:Below w.heap.size w w'):ur w m (Y (.tuple #[.agg #[V ⟨#[]⟩,Z U 0 0],I J (c:Int)])) w':=by
 subst a;exact⟨⟨#[]⟩,[],U,0,c,rfl,⟨rfl,rfl,rfl⟩,aG.f _ _ _ _,b⟩
theorem RI (s:ag)(w:X)(k:s.size<=100000)(a:cF s.data.toList=F):
 Calls prog 223 #[V s] w fun e w'=>ur w (eh s.data.toList) e w':=by
 have f:Hid (eh s.data.toList=.inl 3):=by unfold Hid eh;rw[if_pos a]
 have b:=rH s (w.alloc (K #[V ⟨#[]⟩,Z U 0 0] 203)) (by unfold maxLen;omega);rw[a] at b;have d:Below w.heap.size w (w.alloc (K #[V ⟨#[]⟩,Z U 0 0] 203)):=(aq _ _).alloc (ak _) _;have g:(w.alloc (K #[V ⟨#[]⟩,Z U 0 0] 203)).cell? ⟨w.heap.size,0,U⟩=M (V ⟨#[]⟩):=World.cell?_alloc_mark w _ _ _ 0;have i:(w.alloc (K #[V ⟨#[]⟩,Z U 0 0] 203)).cell? ⟨w.heap.size,1,U⟩=M (Z U 0 0):=World.cell?_alloc_mark w _ _ _ 1;go_enter func223,ntmps223;go_wp2_with fail;refine b.mono ?_;rintro e l ⟨rfl,j⟩;subst j;go_wp2;refine aR (v:=.tuple #[.agg #[V ⟨#[]⟩,Z U 0 0],I J 3]) (by simp[results,results223,go_sem,g,i]) rfl (ur.a (c:=3) f.o ?_);first | exact d | exact(d.setCell (aM _) _).setCell (aM _) _
theorem Oa (s:ag)(w:X)(L:s.size<=100000)(N:cF s.data.toList=true):
 Calls prog 223 #[V s] w fun e w'=>ur w (eh s.data.toList) e w':=by
 have m:=NB s.data.toList N;have p:=rH s (w.alloc (K #[V ⟨#[]⟩,Z U 0 0] 203)) (by unfold maxLen;omega);rw[N] at p;have Te:∀(T:Fn) (first b:Array Value) (w:X),(Instr.makeFunc T first b).run prog w=.ok (.func T first b) w:=fun _ _ _ _=>rfl;have q:Below w.heap.size w (w.alloc (K #[V ⟨#[]⟩,Z U 0 0] 203)):=(aq _ _).alloc (ak _) _;have r1:(w.alloc (K #[V ⟨#[]⟩,Z U 0 0] 203)).heap[w.heap.size]? = M (K #[V ⟨#[]⟩,Z U 0 0] 203 (0,0)):=bw w _;have g:Below (w.heap.size+1) (w.alloc (K #[V ⟨#[]⟩,Z U 0 0] 203)) ((w.alloc (K #[V ⟨#[]⟩,Z U 0 0] 203)).alloc (K #[V s,I J 0] 295)):=(aq _ _).alloc (by simp) _;have hz:(w.alloc (K #[V ⟨#[]⟩,Z U 0 0] 203)).heap.size=w.heap.size+1:=by simp
 have i:bE ((w.alloc (K #[V ⟨#[]⟩,Z U 0 0] 203)).alloc (K #[V s,I J 0] 295)) (w.heap.size+1) s 0:=by
  have:=bw (w.alloc (K #[V ⟨#[]⟩,Z U 0 0] 203)) (K #[V s,I J 0] 295);rw[hz] at this;exact this
 have j:=(g.block _ (by omega)).trans r1;have W:Below w.heap.size w ((w.alloc (K #[V ⟨#[]⟩,Z U 0 0] 203)).alloc (K #[V s,I J 0] 295)):=q.trans (g.mono (by omega));have r:((w.alloc (K #[V ⟨#[]⟩,Z U 0 0] 203)).alloc (K #[V s,I J 0] 295)).heap.size=w.heap.size+2:=by simp
 cases n:nB s.data.toList 0 with
 | inl c =>
   rw[n] at m;go_enter func223,ntmps223;go_wp2_with fail;refine p.mono ?_;rintro e w1 ⟨rfl,t⟩;subst t;go_wp2_with fail;refine(RH s (w.heap.size+1) w.heap.size _ i L c n).mono ?_;rintro e d ⟨rfl,o⟩;have f:=o.j j (fun e=>by unfold bF at e;omega);have l:=W.trans (o.below (B:=w.heap.size) (fun k e=>by unfold bF at e;omega) (by simp;omega));have u:=am d _ 0 _ _ _ f;have y:=am d _ 1 _ _ _ f;have f0:=aD d _ 0 _ _ f;have f1:=aD d _ 1 _ _ f;go_wp2;refine aR (v:=.tuple #[.agg #[V ⟨#[]⟩,Z U 0 0],I J (c:Int)]) (by simp[results,results223,go_sem,u,y]) rfl (ur.a (c:=c) m ?_);first | exact l | exact(l.setCell (ak _) _).setCell (ak _) _
 | inr x =>
   rw[n] at m;have HC:=OL s (w.heap.size+1) w.heap.size _ i j L x n;rw[r] at HC;go_enter func223,ntmps223;go_wp2_with fail;refine p.mono ?_;rintro e w1 ⟨rfl,t⟩;subst t;go_wp2_with fail;refine HC.mono ?_;rintro e d ⟨rfl,⟨z,C,ao,b,hd,D,G,H⟩,o⟩;have f:=aa hd;have l:=W.trans (o.below (B:=w.heap.size) (fun k e=>by unfold qp at e;omega) (by simp;omega));have HE:B7 (.inr x) z C 0:=⟨rfl,D,G⟩;have u:=am d _ 0 _ _ _ f;have y:=am d _ 1 _ _ _ f;have f0:=aD d _ 0 _ _ f;have f1:=aD d _ 1 _ _ f;go_wp2;refine aR (v:=.tuple #[.agg #[V z,Z ao C.length b],I J 0]) (by simp[results,results223,go_sem,u,y]) rfl ⟨z,C,ao,b,0,rfl,by rw[m];exact HE,?_,?_⟩
   . first
      | exact H.j (by omega)
      | (refine aG.e (S:=fun k=>k=w.heap.size) (aG.e (S:=fun k=>k=w.heap.size) (H.j (by omega)) (al.f _ _ _ _ rfl) (fun a e e2=>?_)) (al.f _ _ _ _ rfl) (fun a e e2=>?_) <;> (have:=(H.d a e).1;omega))
   . first | exact l | exact(l.setCell (ak _) _).setCell (ak _) _
theorem CC (s:ag)(w:X)(a:s.size<=100000):
 Calls prog 223 #[V s] w fun e w'=>ur w (eh s.data.toList) e w':=by
 cases b:cF s.data.toList
 . exact RI s w a b
 . exact Oa s w a b
structure uC (w:X)(wd:ag)(ao:ai)(n cap:Nat)(wr:X):Prop where
 a:wr.heap[w.heap.size]? = M (K #[V wd,Z ao n cap] 203 (0,0))
 below:Below w.heap.size w wr
section
variable {w wr w':X} {wd:ag} {ao:ai} {n cap:Nat}
theorem uC.f (h:uC w wd ao n cap wr):w.heap.size<wr.heap.size:=(bH.1 h.a).1
theorem uC.d (h:uC w wd ao n cap wr)(a:Below wr.heap.size wr w'):uC w wd ao n cap w':=by
 have b:=h.f;exact⟨(a.block _ b).trans h.a,h.below.trans (a.mono (by omega))⟩
theorem uC.j (w:X)(wd:ag)(ao:ai)(n cap:Nat):uC w wd ao n cap (w.alloc (K #[V wd,Z ao n cap] 203)):=⟨bw w _,(aq _ _).alloc (ak _) _⟩
theorem uC.e (h:uC w wd ao n cap wr):wr.cell? ⟨w.heap.size,0,U⟩=M (V wd)∧wr.cell? ⟨w.heap.size,1,U⟩=M (Z ao n cap):=⟨am wr _ 0 _ _ _ h.a,am wr _ 1 _ _ _ h.a⟩
end
theorem xc (word:ag)(l:aC)(a:ag)(ao:ai)(cap n:Nat)(w:X)(q:bx w ao cap n (aI l))(s:l.length=n)(t:n<=1000000)(u:∀p∈l,p.2.size<=1000000):
 Calls prog 238 #[.agg #[V word,Z ao n cap],V a] w fun e w'=>e=Y (.tuple #[V ((iL a l).getD ⟨#[]⟩),.bool (iL a l).isSome])∧Below w.heap.size w w':=by
 subst s;have c:=uC.j w word ao l.length cap;have v:=zj l a ao cap l.length _ (q.a c.below) rfl t;go_enter func238,ntmps238;go_wp2_with fail;refine v.mono ?_;rintro e x ⟨r,rfl,y,z⟩;have b:=c.d z;rcases y with ⟨rfl,d⟩ | ⟨k,f,rfl,B,g⟩
 . have i:=aa (M7 d);go_wp2;go_ret2;exact⟨by rw[i.o];rfl,b.below⟩
 . have i:=aa (Rh f g B);have S:decide ((k:Int)<0)=F:=by rw[cz];omega
   obtain⟨C,D,rfl,j⟩:=(q.a b.below).e (by rw[rI];omega);have G:x.cell? ⟨C,D+k*2+1,U⟩=M (V l[k].2):=by
    have:=j _ _ (mU l k f).2;rwa[<-fC] at this
   have T:=b.e.2;have H:(k:Int)<l.length:=by omega
   have L:=fun W=>pr l[k].2 W (u _ (dG f));generalize l[k]=p at *;go_wp2_with fail;refine(L _).mono ?_;rintro e w2 ⟨rfl,N⟩;have m:=b.d N;go_wp2;go_ret2;exact⟨by rw[i.o];rfl,m.below⟩
theorem zM (a:ag):∀b:aC,(iL a b).map (fun x=>x.data.toList)=iu a.data.toList (dy b):=by intro l;induction l <;> grind [iL,iu,dy]
theorem A4 {a:ag}{b:aC}{x:ag}(h:iL a b=M x):iu a.data.toList (dy b)=M x.data.toList∧∃p∈b,p.2=x:=by
 refine⟨by rw[<-zM,h];rfl,?_⟩;induction b with
 | nil=>cases h
 | cons p t c =>
   unfold iL at h;split at h
   . injection h with h;exact⟨p,mR ..,h⟩
   . obtain⟨q,d,e⟩:=c h;exact⟨q,iW _ d,e⟩
theorem Br {a:ag}{b:aC}(h:iL a b=U):iu a.data.toList (dy b)=U:=by rw[<-zM,h];rfl
theorem In (b a:ag)(l:aC)(h:aU b.data.toList=a.data.toList)(c:aU a.data.toList=a.data.toList):fw (aE b l)=qV (bU (fN l) a.data.toList):=by
 rw[tf l a c,xr b a l (h.trans c.symm)];unfold fw qV;match aE a l with
 | []=>rfl
 | [v]=>rfl
 | _::_::_=>rfl
theorem rS {w W W':X}{a:Array Value}{t:Nat}(h:W.heap[w.heap.size]? = M (K a t (0,0)))(b:Below W.heap.size W W'):W'.heap[w.heap.size]? = M (K a t (0,0)):=(b.block _ (bH.1 h).1).trans h
theorem Mg (word:ag)(b:aC)(ao:ai)(cap n:Nat)(w:X)(N:bx w ao cap n (aI b))(S:b.length=n)(hN:n<=1000)(s:∀p∈b,p.2.size<=100000):
 Calls prog 353 #[.agg #[V word,Z ao n cap]] w fun e w'=>e=Y (pF (lP (dy b)))∧Below w.heap.size w w':=by
 have d:Below w.heap.size w (w.alloc (K #[V word,Z ao n cap] 203)):=(aq _ _).alloc (ak _) _;have f:=xc word b ⟨#[102,105,108,101,110,97,109,101,42]⟩ ao cap n _ (N.a d) S (by omega) (fun p k=>by have:=s p k;omega);have i:∀W,Below (w.alloc (K #[V word,Z ao n cap] 203)).heap.size (w.alloc (K #[V word,Z ao n cap] 203)) W->Calls prog 238 #[.agg #[V word,Z ao n cap],V ⟨#[102,105,108,101,110,97,109,101]⟩] W fun e w'=>e=Y (.tuple #[V ((iL ⟨#[102,105,108,101,110,97,109,101]⟩ b).getD ⟨#[]⟩),.bool (iL ⟨#[102,105,108,101,110,97,109,101]⟩ b).isSome])∧Below W.heap.size W w':=fun W hW=>xc word b _ ao cap n W ((N.a d).a hW) S (by omega) (fun p k=>by have:=s p k;omega);have T:=bw w (K #[V word,Z ao n cap] 203);cases t:iL ⟨#[102,105,108,101,110,97,109,101,42]⟩ b with
 | some x =>
   obtain⟨u,p,k,rfl⟩:=A4 t;have B:=s p k;rw[t] at f;have r:lP (dy b)=(kf p.2.data.toList).map oX:=by
    unfold lP;have:iu xt (dy b)=M p.2.data.toList:=u;rw[this]
   have v:=aa r;have j:=aa (fun W=>Oh p.2 W (by omega));cases C:kf p.2.data.toList with
   | none =>
     rw[C] at j v;go_enter func353,ntmps353;go_wp2_with fail;refine f.mono ?_;rintro e l ⟨rfl,a⟩;go_wp2_with fail;refine(j.o _).mono ?_;rintro e D ⟨rfl,c⟩;unfold pF;have m:=ar (ar d a) c;go_wp2;go_ret2;exact⟨by rw[v.o];rfl,m⟩
   | some y =>
     have hy:=Ki C;rw[ep] at hy;rw[C] at j v;go_enter func353,ntmps353;go_wp2_with fail;refine f.mono ?_;rintro e l ⟨rfl,a⟩;go_wp2_with fail;refine(j.o _).mono ?_;rintro e D ⟨rfl,c⟩;unfold pF;go_wp2_with fail;refine((fun W=>FA ⟨y.toArray⟩ W (by show y.toArray.size<=_;rw[cN];omega)) _).mono ?_;rintro e w3 ⟨rfl,q⟩;have m:=ar (ar (ar d a) c) q;go_wp2;go_ret2;exact⟨by rw[v.o];rfl,m⟩
 | none =>
   have u:=Br t;rw[t] at f;cases z:iL ⟨#[102,105,108,101,110,97,109,101]⟩ b with
   | some x =>
     obtain⟨G,p,k,rfl⟩:=A4 z;have B:=s p k;rw[z] at i;have r:lP (dy b)=M (oX p.2.data.toList):=by
      unfold lP;have H:iu xt (dy b)=U:=u;have L:iu Ac (dy b)=M p.2.data.toList:=G;rw[H,L]
     go_enter func353,ntmps353;go_wp2_with fail;refine f.mono ?_;rintro e l ⟨rfl,a⟩;have g:=rS T a;have c0:=am l _ 0 _ _ _ g;have c1:=am l _ 1 _ _ _ g;go_wp2_with fail;refine(i _ a).mono ?_;rintro e D ⟨rfl,c⟩;go_wp2_with fail;refine((fun W=>FA p.2 W (by omega)) _).mono ?_;rintro e w3 ⟨rfl,q⟩;have m:=ar (ar (ar d a) c) q;go_wp2;go_ret2;exact⟨by rw[r];rfl,m⟩
   | none =>
     have G:=Br z;rw[z] at i;have r:lP (dy b)=M []:=by
      unfold lP;have H:iu xt (dy b)=U:=u;have L:iu Ac (dy b)=U:=G;rw[H,L]
     go_enter func353,ntmps353;go_wp2_with fail;refine f.mono ?_;rintro e l ⟨rfl,a⟩;have g:=rS T a;have c0:=am l _ 0 _ _ _ g;have c1:=am l _ 1 _ _ _ g;go_wp2_with fail;refine(i _ a).mono ?_;rintro e D ⟨rfl,c⟩;have m:=ar (ar d a) c;go_wp2;go_ret2;exact⟨by rw[r];rfl,m⟩
def IF (m:ae)(j:Nat):Value:=I J (ji m j:Int)
structure kp where
 b:ai
 c:Nat
 a:Nat
def eC (w:X)(g:Nat)(m:ae)(h:Nat)(p:kp):Prop :=
 w.heap[g]? = M (K #[Z p.b m.length p.c,Z (M ⟨p.a,0,U⟩) m.length m.length,I J (h:Int)] 338 (0,0)) ∧
  bC w 0 5 p.b p.c m∧w.rowIs p.a 3 m.length (IF m)
section
variable {w w':X} {g:Nat} {m:ae} {h:Nat} {p:kp}
theorem eC.d (a:eC w g m h p):g<w.heap.size:=(bH.1 a.1).1
theorem eC.f {S:Nat->Prop}(b:eC w g m h p)(c:al S w w')(d:¬S g)(e:¬S p.a)(f:∀a,p.b=M a->¬S a.block):eC w' g m h p :=
 ⟨c.j b.1 d,b.2.1.f c f,b.2.2.of_block (c.c _ b.2.2.lt e)⟩
theorem eC.a (a:eC w g m h p)(b:Below w.heap.size w w'):eC w' g m h p:=a.f (al.d (S:=fun _=>False) b) (fun e=>e) (fun e=>e) (fun _ _ e=>e)
theorem eC.e (l:eC w g m h p)(c:Nat):eC (w.setCell ⟨g,2,U⟩ (I J (c:Int))) g m c p∧w.grownBy (w.setCell ⟨g,2,U⟩ (I J (c:Int))) (M g):=by
 obtain⟨d,i,j⟩:=l;have b:w.grownBy (w.setCell ⟨g,2,U⟩ (I J (c:Int))) (M g):=⟨rfl,rfl,rfl,by simp[World.setCell],fun k _ f=>qx w _ k _ (fun e=>f (by rw[e]))⟩;refine⟨⟨?_,i.y b ?_,j.setOther (EK d j (by decide)) _⟩,b⟩
 . rw[aQ w g 2 _ _ _ d];rfl
 . intro a e;have:=iJ d i (by decide);rw[dI,e] at this;exact this
end
theorem Cf (w:X)(g:Nat)(m:ae)(h k:Nat)(c:UInt8)(p:kp)(l:eC w g m k p)(d:h<=m.length-1)(n:m.length<=140737488355328):
 Calls prog 310 #[Q (M ⟨g,0,U⟩),I J h,I .u8 c.toNat] w fun e w'=>e=Y (I J (fa m h c))∧w'=w:=by
 obtain⟨o,a,q⟩:=p;obtain⟨f,r,s⟩:=l;have i:=am w g 0 _ _ _ f;have t:=am w g 1 _ _ _ f;by_cases u:m.length=0
 . have e:m=[]:=gW u;subst e;have e:h=0:=by simp at d;exact d
   subst e;exact ST g o a c w i
 . obtain⟨v,e,_,b⟩:=r.r (by omega);have e:=e;subst e;refine Hr m h c g v q a w (by omega) n i t b (fun j x y=>?_);exact s.cell (by omega)
theorem OX (w:X)(g:Nat)(m:ae)(h:Nat)(c:UInt8)(p:kp)(q:eC w g m h p)(L:h<=m.length-1)(hL:m.length<=1000000)(N:fa m h c=0):
 Calls prog 311 #[Q (M ⟨g,0,U⟩),I .u8 c.toNat] w fun e w'=>∃ao cap,e=Y (.tuple #[Z ao (h+1) cap,.bool F])∧bC w' w.heap.size 5 ao cap (m.take h++[c])∧eC w' g m 0 p∧w.grownBy w' (M g):=by
 have S:=aa q;have B:=Cf w g m h h c p q L (by omega);rw[N] at B;obtain⟨T,cap,gb⟩:=p;obtain⟨j,r,_⟩:=q;have c0:=am w g 0 _ _ _ j;have c2:=am w g 2 _ _ _ j;have f2:=aD w g 2 _ _ j;have W:=r.a.1;obtain⟨i0,s,t,u,v⟩:=info_parts il;have Hi:=s;have kT:=aa t;have kL:=aa u;have kU:=aa v
 have x:=S.o.e 0;have HC:=aa (Hs (m.take h) h T cap (w.setCell ⟨g,2,U⟩ (I J 0)) (by rw[bP];omega) ((r.a.G h (by omega)).jN x.2 (fun a e=>by
  have:=iJ j r (by decide);rwa[dI,e] at this)) (by omega))
 go_enter func311,ntmps311;go_wp2_with fail;refine B.mono ?_;rintro e d ⟨rfl,hw⟩;subst hw;go_wp2_with fail;refine HC.o.mono ?_;rintro e w2 ⟨gQ,C,rfl,hO,hB⟩;have D:=hO;have G:=aa hB
 have b:(d.setCell ⟨g,2,U⟩ (I J 0)).heap.size=d.heap.size:=by simp
 go_wp2_with (at_builtin;refine nQ rfl (.tmp 30) (.tmp 32) 31 rfl d.heap.size 5 i0 underlying31 Hi kT.o kL.o kU.o (l:=m.take h) (l2:=[c]) rfl (by rw[bP];omega) ((D.q (by omega)).j _) rfl rfl (ay.y _ _ _ _) (by omega) (by have:=G.o.size;simp at this ⊢;omega) ?_;intro jB f H y z)
 go_ret2;have n:=G.o;rw[b] at n;have i:Below d.heap.size (d.setCell ⟨g,2,U⟩ (I J 0)) H:=(n.alloc (by have:=n.size;rw[b] at this;exact this) _).grown z (by have:=n.size;simp at this ⊢;omega) (fun k e=>by
  cases gQ with
  | none=>simp[au] at e
  | some a=>simp[au] at e;have:=(D.d a rfl).1;omega)
 refine⟨jB,f,rfl,y,x.1.a (show Below (d.setCell ⟨g,2,U⟩ (I J 0)).heap.size (d.setCell ⟨g,2,U⟩ (I J 0)) H by rw[b];exact i),oF x.2 (CT _ (b▸i))⟩
theorem MZ (w:X)(g:Nat)(m:ae)(h:Nat)(c:UInt8)(p:kp)(a:eC w g m h p)(j:h<=m.length-1)(s:m.length<=1000000)(k:0<m.length)(l:fa m h c=m.length):
 Calls prog 311 #[Q (M ⟨g,0,U⟩),I .u8 c.toNat] w fun e w'=>e=Y (.tuple #[Z U 0 0,.bool true])∧eC w' g m 0 p∧w.grownBy w' (M g):=by
 have n:=aa a;have d:=Cf w g m h h c p a j (by omega);rw[l] at d;obtain⟨t,q,u⟩:=p;obtain⟨b,v,_⟩:=a;have x:=am w g 0 _ _ _ b;have y:=am w g 2 _ _ _ b;have z:=aD w g 2 _ _ b;have f:=n.o.e m.length;have i:=f.1.e 0;have B:((m.length:Int)==0)=F:=by rw[aO];omega
 go_enter func311,ntmps311;go_wp2_with fail;refine d.mono ?_;rintro e C ⟨rfl,r⟩;subst r;go_wp2;go_ret2;exact⟨rfl,i.1,oF f.2 i.2⟩
theorem OY (w:X)(g:Nat)(m:ae)(h r:Nat)(c:UInt8)(p:kp)(n:eC w g m h p)(C:h<=m.length-1)(hL:m.length<=1000000)(D:fa m h c=r)(G:0<r)(H:r<m.length)(L:r<=h+1):
 Calls prog 311 #[Q (M ⟨g,0,U⟩),I .u8 c.toNat] w fun e w'=>∃ao cap,e=Y (.tuple #[Z ao (h+1-r) cap,.bool F])∧bC w' w.heap.size 5 ao cap (m.take (h+1-r))∧eC w' g m r p∧w.grownBy w' (M g):=by
 have N:=aa n;have z:=Cf w g m h h c p n C (by omega);rw[D] at z;have f:=n.d;obtain⟨t,cap,gb⟩:=p;obtain⟨q,u,_⟩:=n;have S:=am w g 0 _ _ _ q;have T:=am w g 2 _ _ _ q;have f2:w.frozen? ⟨g,2,U⟩=F:=aD w g 2 _ _ q;have W:m.length<=cap:=u.a.1;have v:=N.o.e r;have HC:=aa (Hs (m.take (h+1-r)) (h+1-r) t cap (w.setCell ⟨g,2,U⟩ (I J (r:Int))).drew (by rw[bP];omega) ((u.a.G (h+1-r) (by omega)).jN (oF v.2 (wM _ _)) (fun a e=>by
  have:=iJ q u (by decide);rwa[dI,e] at this)) (by omega))
 have t0:((r:Int)==0)=F:=by rw[aO];omega
 have t1:((r:Int)==m.length)=F:=by rw[aO];omega
 have x:(w.setCell ⟨g,2,U⟩ (I J (r:Int))).drew.cell? ⟨g,0,U⟩=M (Z t m.length cap):=(tL w ⟨g,2,U⟩ ⟨g,0,U⟩ _ (by simp)).trans S;have y:(w.setCell ⟨g,2,U⟩ (I J (r:Int))).drew.cell? ⟨g,2,U⟩=M (I J (r:Int)):=tJ w ⟨g,2,U⟩ _ T;have b0:(r:Int)<=(h:Int)+1:=by omega
 have b1:(h:Int)+1-r<=cap:=by omega
 have b2:((h:Int)+1-r).toNat=h+1-r:=by omega
 have b3:IntKind.i64.wrap ((h:Int)+1)=(h:Int)+1:=iY (by omega) (by omega);have b4:IntKind.i64.wrap ((h:Int)+1-r)=(h:Int)+1-r:=iY (by omega) (by omega);go_enter func311,ntmps311;go_wp2_with fail;refine z.mono ?_;rintro e d ⟨rfl,hw⟩;subst hw;go_wp2;go_region_held3 (fun w'=>w'.cell? ⟨g,0,U⟩=M (Z t m.length cap)∧w'.cell? ⟨g,2,U⟩=M (I J (r:Int))) (go_keep) (first | (go_at_call 309;refine HC.o.mono ?_;rintro e w2 ⟨gQ,i,rfl,j,s⟩;have c0':=(s.cell (p:=⟨g,0,U⟩) (by simpa using f)).trans x;have c2':=(s.cell (p:=⟨g,2,U⟩) (by simpa using f)).trans y;have HO:=aa j;have HB:=aa s;clear j s))
 all_goals
  go_wp2;go_ret2;have B:=HB.o;have k:(d.setCell ⟨g,2,U⟩ (I J (r:Int))).drew.heap.size=d.heap.size:=by simp
  have j:=HO.o;rw[k] at B j;have l:Below d.heap.size (d.setCell ⟨g,2,U⟩ (I J (r:Int))) w2:=(bA _ _).trans B;have b:(d.setCell ⟨g,2,U⟩ (I J (r:Int))).heap.size=d.heap.size:=k;refine⟨gQ,i,rfl,j,v.1.a (by rw[b];exact l),oF v.2 (CT _ (b▸l))⟩
theorem zx (w:X)(g:Nat)(m:ae)(h:Nat)(c:UInt8)(p:kp)(i:eC w g m h p)(d:h<=m.length-1)(j:m.length<=1000000):
 Calls prog 311 #[Q (M ⟨g,0,U⟩),I .u8 c.toNat] w fun e w'=>∃ao cap,e=Y (.tuple #[Z ao (dE m h c).length cap,.bool (fp m h c)])∧bC w' w.heap.size 5 ao cap (dE m h c)∧eC w' g m (fZ m h c) p∧w.grownBy w' (M g):=by
 have n:=BR m h c;have b:=yg m h c;by_cases f:fa m h c=0
 . have a:fp m h c=F:=by unfold fp;rw[f,qu,cz,cz];omega
   have ha:fZ m h c=0:=by unfold fZ;rw[a,f];rfl
   rw[Qb f,a,ha,show(m.take h++[c]).length=h+1 by simp;omega];exact OX w g m h c p i d j f
 . by_cases k:fa m h c=m.length
   . have a:fp m h c=true:=by unfold fp;rw[gr,bS,bS];exact⟨by omega,k⟩
     have ha:fZ m h c=0:=by unfold fZ;rw[a];rfl
     rw[GU a d,a,ha];refine(MZ w g m h c p i d j (by omega) k).mono ?_;rintro e w' ⟨rfl,l,o⟩;exact⟨U,0,rfl,bC.e _ _ _,l,o⟩
   . have a:fp m h c=F:=by unfold fp;rw[qu,cz,cz];exact R k
     have ha:fZ m h c=fa m h c:=by unfold fZ;rw[a];rfl
     rw[Qg (by omega) (by omega),a,ha,show(m.take (h+1-fa m h c)).length=h+1-fa m h c by rw[bP];omega];exact OY w g m h _ c p i d j rfl (by omega) (by omega) b
structure dX (w:X)(g:Nat)(sk:Value)(ah:Int)(ln:Value)(fo:ai)(nf gG:Nat)(pl pt cd:Int):Prop where
 b:w.heap[g]? = M (K #[sk,I J ah,ln,Z fo nf gG,I J pl,I J pt,I J cd] 310 (0,0))
section
variable {w w':X} {g:Nat} {sk ln:Value} {fo:ai} {nf gG:Nat} {ah pl pt cd:Int}
theorem dX.e (h:dX w g sk ah ln fo nf gG pl pt cd):g<w.heap.size:=(bH.1 h.b).1
theorem dX.j (h:dX w g sk ah ln fo nf gG pl pt cd):w.cell? ⟨g,0,U⟩=M sk:=am w g 0 _ _ _ h.b
theorem dX.y (h:dX w g sk ah ln fo nf gG pl pt cd):w.cell? ⟨g,1,U⟩=M (I J ah):=am w g 1 _ _ _ h.b
theorem dX.jN (h:dX w g sk ah ln fo nf gG pl pt cd):w.cell? ⟨g,2,U⟩=M ln:=am w g 2 _ _ _ h.b
theorem dX.E (h:dX w g sk ah ln fo nf gG pl pt cd):w.cell? ⟨g,3,U⟩=M (Z fo nf gG):=am w g 3 _ _ _ h.b
theorem dX.q (h:dX w g sk ah ln fo nf gG pl pt cd):w.cell? ⟨g,4,U⟩=M (I J pl):=am w g 4 _ _ _ h.b
theorem dX.r (h:dX w g sk ah ln fo nf gG pl pt cd):w.cell? ⟨g,5,U⟩=M (I J pt):=am w g 5 _ _ _ h.b
theorem dX.G (h:dX w g sk ah ln fo nf gG pl pt cd):w.cell? ⟨g,6,U⟩=M (I J cd):=am w g 6 _ _ _ h.b
theorem dX.a (h:dX w g sk ah ln fo nf gG pl pt cd)(j:Nat):w.frozen? ⟨g,j,U⟩=F:=aD w g j _ _ h.b
theorem dX.f {S:Nat->Prop}(h:dX w g sk ah ln fo nf gG pl pt cd)(a:al S w w')(b:¬S g):dX w' g sk ah ln fo nf gG pl pt cd:=⟨a.j h.b b⟩
theorem dX.jK (h:dX w g sk ah ln fo nf gG pl pt cd)(a:Below w.heap.size w w'):dX w' g sk ah ln fo nf gG pl pt cd:=⟨(a.block g h.e).trans h.b⟩
theorem dX.mh (h:dX w g sk ah ln fo nf gG pl pt cd)(v:Int):dX (w.setCell ⟨g,1,U⟩ (I J v)) g sk v ln fo nf gG pl pt cd:=⟨by rw[aQ w g 1 _ _ _ h.b];rfl⟩
theorem dX.ku (h:dX w g sk ah ln fo nf gG pl pt cd)(a:ai)(b c:Nat):dX (w.setCell ⟨g,3,U⟩ (Z a b c)) g sk ah ln a b c pl pt cd:=⟨by rw[aQ w g 3 _ _ _ h.b];rfl⟩
theorem dX.B (h:dX w g sk ah ln fo nf gG pl pt cd)(v:Int):dX (w.setCell ⟨g,4,U⟩ (I J v)) g sk ah ln fo nf gG v pt cd:=⟨by rw[aQ w g 4 _ _ _ h.b];rfl⟩
theorem dX.jD (h:dX w g sk ah ln fo nf gG pl pt cd)(v:Int):dX (w.setCell ⟨g,5,U⟩ (I J v)) g sk ah ln fo nf gG pl v cd:=⟨by rw[aQ w g 5 _ _ _ h.b];rfl⟩
theorem dX.d (w:X)(g:Nat)(j:Nat)(v:Value):al (fun k=>k=g) w (w.setCell ⟨g,j,U⟩ v):=al.f (fun k=>k=g) w ⟨g,j,U⟩ v rfl
end
structure jZ (w:X)(C:Nat->Prop)(m:ae)(s:br)(gs gl:Nat)(p:kp)(fo:ai)(gG:Nat)(D:Nat->Prop):Prop where
 d:eC w gs m s.c p
 b:C gs∧C p.a∧∀a,p.b=M a->C a.block
 e:¬D gs∧¬D p.a∧∀a,p.b=M a->¬D a.block
 g:cQ w (fun k=>C k∧D k) gl s.a
 f:aG w 0 128 2 fo gG s.e.length (aI (bL s.e))
 c:∀a,fo=M a->C a.block∧¬D a.block
section
variable {w w':X} {C C' S' D:Nat->Prop} {m:ae} {s:br} {gs gl:Nat} {p:kp} {fo:ai} {gG:Nat}
theorem jZ.r (h:jZ w C m s gs gl p fo gG D)(b:∀k,k<w.heap.size->C k->C' k):jZ w C' m s gs gl p fo gG D :=
 ⟨h.d,⟨b _ h.d.d h.b.1,b _ h.d.2.2.lt h.b.2.1,fun a e=>b _ (h.d.2.1.d a e).2 (h.b.2.2 a e)⟩,h.e,h.g.a (fun k c e=>⟨b k c e.1,e.2⟩),h.f,fun a e=>⟨b _ (h.f.d a e).2 (h.c a e).1,(h.c a e).2⟩⟩
theorem jZ.a (h:jZ w C m s gs gl p fo gG D)(c:al S' w w')(b:∀k,C k->¬S' k):jZ w' C m s gs gl p fo gG D :=
 ⟨h.d.f c (b _ h.b.1) (b _ h.b.2.1) (fun a e=>b _ (h.b.2.2 a e)),h.b,h.e,h.g.d c (fun k e=>b k e.1),h.f.e c (fun a e=>b _ (h.c a e).1),h.c⟩
theorem jZ.y (h:jZ w C m s gs gl p fo gG D)(a:Below w.heap.size w w'):jZ w' C m s gs gl p fo gG D:=h.a (al.d (S:=fun _=>False) a) (fun _ _ e=>e)
theorem jZ.q {a:br}(h:jZ w C m s gs gl p fo gG D)(b:a.c=s.c)(c:a.a=s.a)(d:a.e=s.e):jZ w C m a gs gl p fo gG D :=
 ⟨b▸h.d,h.b,h.e,c▸h.g,d▸h.f,h.c⟩
theorem jZ.j (h:jZ w C m s gs gl p fo gG D):∀a,fo=M a->a.block≠gs∧a.block≠p.a∧∀b,p.b=M b->a.block≠b.block:=by
 intro a e;have j:=iJ h.d.1 h.f (by decide);rw[dI,e] at j;refine⟨fun f=>j (by simp[au,f]),fun f=>?_,fun b k f=>?_⟩
 . obtain⟨q,i,_⟩:=h.d.2.2;have g:=iJ i h.f (by decide);rw[dI,e] at g;exact g (by simp[au,f])
 . rcases h.d.2.1.2 with c | ⟨r,l,n,d,_,o,_⟩
   . have c:=c.1;rw[k] at c;injection c with c;cases c
   . rw[k] at d;injection d with d;injection d with d;have g:=iJ o h.f (by decide);rw[dI,e] at g;exact g (by simp[au,f,d])
end
inductive dQ (w:X)(S:Nat->Prop)(g:Nat)(m:ae)(s:br):Prop
 | dead (h:¬iS s) (me:S g) (row:dX w g (Q U) (s.d:Int) (Q U) U 0 0 (s.b:Int) (s.f:Int) (s.g:Int))
 | live (h:iS s) (me:S g) (gs gl:Nat) (p:kp) (fo:ai) (gG:Nat) (D:Nat->Prop) (row:dX w g (Q (M ⟨gs,0,U⟩)) (s.d:Int) (Q (M ⟨gl,0,U⟩)) fo s.e.length gG (s.b:Int) (s.f:Int) (s.g:Int)) (inn:jZ w (fun k=>S k∧k≠g) m s gs gl p fo gG D)
section
variable {w w':X} {S S':Nat->Prop} {g:Nat} {m:ae} {s:br}
theorem dQ.j (h:dQ w S g m s):g<w.heap.size:=by
 cases h with
 | dead h a row=>exact row.e
 | live h a b c p d e D row inn=>exact row.e
theorem dQ.q (h:dQ w S g m s):S g:=by
 cases h with
 | dead h a row=>exact a
 | live h a b c p d e D row inn=>exact a
theorem dQ.e (h:dQ w S g m s)(a:∀k,k<w.heap.size->S k->S' k):dQ w S' g m s:=by
 cases h with
 | dead h b row=>exact .dead h (a g row.e b) row
 | live h b c d p f i D row inn=>exact .live h (a g row.e b) c d p f i D row (inn.r (fun k j e=>⟨a k j e.1,e.2⟩))
theorem dQ.d (h:dQ w S g m s)(b:al S' w w')(c:∀k,S k->¬S' k):dQ w' S g m s:=by
 cases h with
 | dead h a row=>exact .dead h a (row.f b (c g a))
 | live h a d f p i j D row inn=>exact .live h a d f p i j D (row.f b (c g a)) (inn.a b (fun k e=>c k e.1))
theorem dQ.B (h:dQ w S g m s)(a:Below w.heap.size w w'):dQ w' S g m s:=h.d (al.d (S:=fun _=>False) a) (fun _ _ e=>e)
theorem dQ.a (h:dQ w S g m s):w.cell? ⟨g,4,U⟩=M (I J (s.b:Int))∧w.cell? ⟨g,5,U⟩=M (I J (s.f:Int))∧w.cell? ⟨g,6,U⟩=M (I J (s.g:Int))∧∀j,w.frozen? ⟨g,j,U⟩=F:=by
 cases h with
 | dead h a row=>exact⟨row.q,row.r,row.G,row.a⟩
 | live h a b c p d e D row inn=>exact⟨row.q,row.r,row.G,row.a⟩
end
theorem Sf (w:X)(S:Nat->Prop)(g:Nat)(m:ae)(s:br)(h:dQ w S g m s):
 Calls prog 241 #[Q (M ⟨g,0,U⟩)] w fun e w'=>e=Y (I J (ns s:Int))∧w'=w:=by
 have j:=h.a;by_cases c:s.g=0
 . have f:((s.g:Int)==0)=true:=by rw[cM];omega
   by_cases b:s.b=6
   . have i:((s.b:Int) != 6)=F:=by rw[b];rfl
     have a:ns s=s.g:=by unfold ns;rw[if_neg (fun e=>e.2 b)]
     rw[a];generalize (s.g:Int)=d at *;generalize (s.b:Int)=pl at *;go_enter func241,ntmps241;go_wp2;go_ret;exact⟨rfl,rfl⟩
   . have i:((s.b:Int) != 6)=true:=by rw[cW];omega
     have a:ns s=14:=by unfold ns;rw[if_pos ⟨c,b⟩]
     rw[a];generalize (s.g:Int)=d at *;generalize (s.b:Int)=pl at *;go_enter func241,ntmps241;go_wp2;go_ret;exact⟨rfl,rfl⟩
 . have f:((s.g:Int)==0)=F:=by rw[aO];omega
   have a:ns s=s.g:=by unfold ns;rw[if_neg (fun e=>c e.1)]
   rw[a];generalize (s.g:Int)=d at *;generalize (s.b:Int)=pl at *;go_enter func241,ntmps241;go_wp2;go_ret;exact⟨rfl,rfl⟩
theorem SU (w:X)(p:Nat)(c:UInt8)(t:p=1∨p=2∨p=3∨p=4):
 Calls prog 341 #[I J (p:Int),I .u8 c.toNat] w fun e w'=>e=Y (.tuple #[I J ((ix p c).1:Int),I J ((ix p c).2:Int)])∧w'=w:=by
 have T:∀d:UInt8,((c.toNat:Int)==(d.toNat:Int))=decide (c=d):=fun d=>by
  rw[ik,cM,bS];constructor
  . intro e;exact pq.1 (by omega)
  . intro e;rw[e]
 have n:((c.toNat:Int)==10)=decide (c=10):=T 10;have q:((c.toNat:Int) != 10)=!decide (c=10):=by rw[<-n];rfl
 have j:((c.toNat:Int)==45)=decide (c=45):=T 45;have g:((c.toNat:Int)==32)=decide (c=32):=T 32;have s:((c.toNat:Int)==9)=decide (c=9):=T 9;have k:((c.toNat:Int)==13)=decide (c=13):=T 13;have u:∃x y:Nat,ix p c=(x,y):=⟨_,_,rfl⟩;obtain⟨x,y,r⟩:=u;have i:=aa r;rw[r];unfold ix at i;generalize (c.toNat:Int)=v at *;rcases t with rfl | rfl | rfl | rfl
 . have f:Hid ((if c=45 then (2,0) else if c=32∨c=9 then (3,0) else if c=13 then (4,0) else (0,5))=(x,y)):=by
    have:=i.o;rw[if_neg (by decide),if_neg (by decide)] at this;unfold Hid;simpa using this
   by_cases a:c=45
   . obtain⟨rfl,rfl⟩:2=x∧0=y:=by have:=f.o;rw[if_pos a] at this;simpa using this
     rw[aV a] at j;go_enter func341,ntmps341;go_wp2;go_ret2;exact⟨rfl,rfl⟩
   . rw[aW a] at j;by_cases b:c=32∨c=9
     . obtain⟨rfl,rfl⟩:3=x∧0=y:=by have:=f.o;rw[if_neg a,if_pos b] at this;simpa using this
       rcases b with b | b
       . rw[aV b] at g;go_enter func341,ntmps341;go_wp2;go_ret2;exact⟨rfl,rfl⟩
       . rw[aW (by rw[b];decide)] at g;rw[aV b] at s;go_enter func341,ntmps341;go_wp2;go_ret2;exact⟨rfl,rfl⟩
     . rw[aW (fun e=>b (Or.inl e))] at g;rw[aW (fun e=>b (R e))] at s;by_cases l:c=13
       . obtain⟨rfl,rfl⟩:4=x∧0=y:=by have:=f.o;rw[if_neg a,if_neg b,if_pos l] at this;simpa using this
         rw[aV l] at k;go_enter func341,ntmps341;go_wp2;go_ret2;exact⟨rfl,rfl⟩
       . obtain⟨rfl,rfl⟩:0=x∧5=y:=by have:=f.o;rw[if_neg a,if_neg b,if_neg l] at this;simpa using this
         rw[aW l] at k;go_enter func341,ntmps341;go_wp2;go_ret2;exact⟨rfl,rfl⟩
 . have f:(if c=45 then (6,0) else (0,5))=(x,y):=by
    have:=i.o;rw[if_neg (by decide),if_pos rfl] at this;exact this
   by_cases a:c=45
   . obtain⟨rfl,rfl⟩:6=x∧0=y:=by have:=f;rw[if_pos a] at this;simpa using this
     rw[aV a] at j;go_enter func341,ntmps341;go_wp2;go_ret2;exact⟨rfl,rfl⟩
   . obtain⟨rfl,rfl⟩:0=x∧5=y:=by have:=f;rw[if_neg a] at this;simpa using this
     rw[aW a] at j;go_enter func341,ntmps341;go_wp2;go_ret2;exact⟨rfl,rfl⟩
 . have f:(if c=32∨c=9 then (3,0) else if c=13 then (4,0) else (0,5))=(x,y):=by
    have:=i.o;rw[if_neg (by decide),if_neg (by decide),if_neg (fun e=>by have:=e.1;omega)] at this;exact this
   by_cases b:c=32∨c=9
   . obtain⟨rfl,rfl⟩:3=x∧0=y:=by have:=f;rw[if_pos b] at this;simpa using this
     rcases b with b | b
     . rw[aV b] at g;go_enter func341,ntmps341;go_wp2;go_ret2;exact⟨rfl,rfl⟩
     . rw[aW (by rw[b];decide)] at g;rw[aV b] at s;go_enter func341,ntmps341;go_wp2;go_ret2;exact⟨rfl,rfl⟩
   . rw[aW (fun e=>b (Or.inl e))] at g;rw[aW (fun e=>b (R e))] at s;by_cases l:c=13
     . obtain⟨rfl,rfl⟩:4=x∧0=y:=by have:=f;rw[if_neg b,if_pos l] at this;simpa using this
       rw[aV l] at k;go_enter func341,ntmps341;go_wp2;go_ret2;exact⟨rfl,rfl⟩
     . obtain⟨rfl,rfl⟩:0=x∧5=y:=by have:=f;rw[if_neg b,if_neg l] at this;simpa using this
       rw[aW l] at k;go_enter func341,ntmps341;go_wp2;go_ret2;exact⟨rfl,rfl⟩
 . have f:(if c=10 then (5,0) else (0,2))=(x,y):=by
    have:=i.o;rw[if_pos rfl] at this;exact this
   by_cases m:c=10
   . obtain⟨rfl,rfl⟩:5=x∧0=y:=by have:=f;rw[if_pos m] at this;simpa using this
     rw[aV m] at n q;go_enter func341,ntmps341;go_wp2;go_ret2;exact⟨rfl,rfl⟩
   . obtain⟨rfl,rfl⟩:0=x∧2=y:=by have:=f;rw[if_neg m] at this;simpa using this
     rw[aW m] at n q;go_enter func341,ntmps341;go_wp2;go_ret2;exact⟨rfl,rfl⟩
theorem Sg (w:X)(g:Nat)(fo:ai)(nf gG:Nat)(a:w.cell? ⟨g,3,U⟩=M (Z fo nf gG))(b:w.frozen? ⟨g,3,U⟩=F):
 Calls prog 351 #[Q (M ⟨g,2,U⟩)] w fun e w'=>e=Y (Z fo nf gG)∧w'=w.setCell ⟨g,3,U⟩ (Z U 0 0):=by
 go_enter func351,ntmps351;go_wp2;go_ret;exact⟨rfl,rfl⟩
theorem Si {m:ae}(c:m.take 2=[13,10])(g:3<=m.length):fZ m 0 13=1∧fZ m 1 10=2:=by
 have a:m.take 1=[13]:=by
  have:=mg (List.take 1) c;rw[List.take_take] at this;simpa using this
 have d:fa m 0 13=1:=by
  refine ot.a ⟨by omega,by rw[a];exact List.suffix_refl _,fun k e _ b=>?_⟩;have:=b.length_le;rw[bP] at this;simp at this;omega
 have f:fa m 1 10=2:=by
  refine ot.a ⟨by omega,by rw[c,a];exact List.suffix_refl _,fun k e _ b=>?_⟩;have:=b.length_le;rw[bP] at this;simp at this;omega
 constructor
 . unfold fZ fp;rw[d];simp;omega
 . unfold fZ fp;rw[f];simp;omega
theorem IT (w:X)(g gs:Nat)(m:ae)(p:kp)(v:Value)(s:w.cell? ⟨g,0,U⟩=M (Q (M ⟨gs,0,U⟩)))(c1:w.cell? ⟨g,1,U⟩=M v)(f1:w.frozen? ⟨g,1,U⟩=F)(t:g≠gs)(u:eC w gs m 0 p)(x:m.take 2=[13,10])(S:3<=m.length)(hL:m.length<=1000000):
 Calls prog 275 #[Q (M ⟨g,0,U⟩)] w fun e w'=>∃y,e=Y (.tuple #[])∧w'=y.setCell ⟨g,1,U⟩ (I J 2)∧eC y gs m 2 p∧w.grownBy y (M gs):=by
 have T:=Si x S;have q:=aa u;have z:∀W,w.grownBy W (M gs)->W.cell? ⟨g,0,U⟩=M (Q (M ⟨gs,0,U⟩))∧W.cell? ⟨g,1,U⟩=M v∧W.frozen? ⟨g,1,U⟩=F:=fun W n=>by
  have B:(M g:Option Nat)≠M gs:=fun e=>t (by injection e);refine⟨n.cell s B,n.cell c1 B,?_⟩;rw[wA (a:=⟨g,1,U⟩) (n.block g (bI w _ s) B)];exact f1
 have C:3<=m.length∧m.length<=1000000:=⟨S,hL⟩;go_enter func275,ntmps275;go_wp2;go_loopw [3] (fun D wr=>∃k:Nat,k<=2∧D=I J k∧eC wr gs m k p∧w.grownBy wr (M gs)) (fun D _=>2-(intOf D).toNat)
 case atStart=>exact⟨0,by omega,rfl,q.o,⟨rfl,rfl,rfl,ak _,fun _ _ _=>rfl⟩⟩
 case round =>
  obtain⟨k,hk,rfl,u,n⟩:=hrel;have q:=u;have G:=aa n
  have s:=z wr n;by_cases x:k=2
  . subst x;go_wp2;go_end0
    exact⟨wr,rfl,rfl,q,G.o⟩
  . by_cases h0:k=0
    . subst h0;have f:=fun(W:X) (H:eC W gs m 0 p)=>zx W gs m 0 13 p H (ax _) C.2;rw[T.1] at f;generalize (dE m 0 13)=oo at f;generalize (fp m 0 13)=ff at f;have i:=q.a (bA _ _);go_wp2;go_region_held3 (fun w'=>w'.cell? ⟨g,0,U⟩=M (Q (M ⟨gs,0,U⟩))) (go_keep) (first | (go_at_call 311;refine(f _ i).mono ?_;rintro e w2 ⟨gQ,r,rfl,L,c,d⟩;have b:=oF G.o (oF (wM _ _) d);have N:=(z _ b).1;have j:=aa c;have l:=aa b;clear L c d b))
      all_goals
       go_wp2;go_roundw
       case rel=>exact⟨1,by omega,by go_num,j.o,l.o⟩
       case measure=>simp[intOf]
    . obtain rfl:k=1:=by omega
      have f:=fun(W:X) (H:eC W gs m 1 p)=>zx W gs m 1 10 p H (by have:=C.1;omega) C.2;rw[T.2] at f;generalize (dE m 1 10)=oo at f;generalize (fp m 1 10)=ff at f;have i:=q.a (bA _ _);go_wp2;go_region_held3 (fun w'=>w'.cell? ⟨g,0,U⟩=M (Q (M ⟨gs,0,U⟩))) (go_keep) (first | (go_at_call 311;refine(f _ i).mono ?_;rintro e w2 ⟨gQ,r,rfl,L,c,d⟩;have b:=oF G.o (oF (wM _ _) d);have N:=(z _ b).1;have j:=aa c;have l:=aa b;clear L c d b))
      all_goals
       go_wp2;go_roundw
       case rel=>exact⟨2,by omega,by go_num,j.o,l.o⟩
       case measure=>simp[intOf]
inductive Ix (w:X)(g gs ah:Nat)(m:ae)(h:Nat)(c:UInt8)(p:kp)(e:Ending)(w':X):Prop
 | mk (w1:X) (ao:ai) (cap n:Nat) (he:e=Y (.tuple #[Z ao n cap,.bool (fp m h c)])) (hn:n=((dE m h c).drop ah).length) (hw:w'=w1.setCell ⟨g,1,U⟩ (I J ((ah-(dE m h c).length:Nat):Int))) (hB:ay w1 ao cap ((dE m h c).drop ah)) (hlo:∀a,ao=M a->w.heap.size<=a.block) (hS:eC w1 gs m (fZ m h c) p) (hG:w.grownBy w1 (M gs))
theorem Jx (w:X)(g gs d:Nat)(m:ae)(h:Nat)(c:UInt8)(p:kp)(B:w.cell? ⟨g,0,U⟩=M (Q (M ⟨gs,0,U⟩)))(c1:w.cell? ⟨g,1,U⟩=M (I J (d:Int)))(f1:w.frozen? ⟨g,1,U⟩=F)(C:g≠gs)(hS:eC w gs m h p)(N:h<=m.length-1)(hL:m.length<=1000)(ha:d<=1000):
 Calls prog 337 #[Q (M ⟨g,0,U⟩),I .u8 c.toNat] w fun e w'=>Ix w g gs d m h c p e w':=by
 have S:=aa (zx w gs m h c p hS N (by omega));have D:=Ak m h c N;have HC:∀W,w.grownBy W (M gs)->W.cell? ⟨g,0,U⟩=M (Q (M ⟨gs,0,U⟩))∧W.cell? ⟨g,1,U⟩=M (I J (d:Int))∧W.frozen? ⟨g,1,U⟩=F:=fun W l=>by
  have v:(M g:Option Nat)≠M gs:=fun e=>C (by injection e);refine⟨l.cell B v,l.cell c1 v,?_⟩;rw[wA (a:=⟨g,1,U⟩) (l.block g (bI w _ B) v)];exact f1
 have G:∀(j:X) (f q:ai) (b n k:Nat),bC j w.heap.size 5 f b (dE m h c)->eC j gs m (fZ m h c) p->w.grownBy j (M gs)->k=min d (dE m h c).length->n=(dE m h c).length-k->(b≠k->q=f.map (·.add k))->(b=k->q=f)->Ix w g gs d m h c p (Y (.tuple #[Z q n (b-k),.bool (fp m h c)])) (j.setCell ⟨g,1,U⟩ (I J ((d-(dE m h c).length:Nat):Int))):=fun j f q b n k s t l hk v T h2=>by
  subst hk;have hd:(dE m h c).drop d=(dE m h c).drop (min d (dE m h c).length):=by
   rcases Nat.le_total d (dE m h c).length with e | e
   . rw[oC e]
   . rw[Nat.min_eq_right e,lz e,lz (ak _)]
  have hcut:=s.a.f (gQ:=q) (min d (dE m h c).length) (dE m h c).length (Nat.min_le_right _ _) (ak _) T;rw[jy (by rw[bV];omega),<-hd] at hcut;refine .mk j q (b-min d (dE m h c).length) n rfl (by rw[hd,bV];exact v) rfl hcut (fun a e=>?_) t l;by_cases hc:b=min d (dE m h c).length
  . rw[h2 hc] at e;exact(s.d a e).1
  . rw[T hc] at e;cases f with
    | none=>cases e
    | some z=>simp at e;subst e;rw[oB];exact(s.d z rfl).1
 have x:=aa G;generalize hout:dE m h c=out at *;generalize hfd:fp m h c=fd at *;obtain⟨no,y⟩:∃no,out.length=no:=⟨_,rfl⟩;rw[y] at S D x;go_enter func337,ntmps337;go_wp2_with fail;refine S.o.mono ?_;rintro e j ⟨f,b,rfl,s,t,l⟩;have B:=HC j l;have hcap:no<=b:=by have:=s.a.1;rw[y] at this;exact this
 have r:f=U->b=0:=s.a.2.1;have u:=fun q n k=>x.o j f q b n k s t l;by_cases H:d<=no
 . have e1:min (d:Int) (no:Int)=d:=by omega
   have e2:d-no=0:=by omega
   have L:=oC H;rw[e2,L] at u;by_cases i:b=d
   . obtain rfl:no=d:=by omega
     subst i;go_wp2;go_ret2;have:=u f 0 b rfl (by omega) (fun e=>absurd rfl e) (fun _=>rfl);simpa using this
   . cases f with
     | none=>have:=r rfl;omega
     | some z =>
       go_wp2;go_ret2;exact u _ _ d rfl rfl (fun _=>rfl) (fun e=>absurd e i)
 . have e1:min (d:Int) (no:Int)=no:=by omega
   have L:min d no=no:=Nat.min_eq_right (by omega);have e4:((d-no:Nat):Int)=(d:Int)-no:=by omega
   rw[L,e4] at u;by_cases i:b=no
   . subst i;go_wp2;go_ret2;have:=u f 0 b rfl (by omega) (fun e=>absurd rfl e) (fun _=>rfl);simpa using this
   . cases f with
     | none=>have:=r rfl;omega
     | some z =>
       go_wp2;go_ret2;have:=u (M (z.add no)) 0 no rfl (by omega) (fun _=>rfl) (fun e=>absurd e i);simpa using this
def Up (m:Nat ⊕ List cZ)(ps:aC)(code:Nat):Prop :=
 match m with
 | .inl c=>code=c∧c≠0
 | .inr x=>code=0∧dy ps=x
def IQ (w:X)(m:Nat ⊕ List cZ)(e:Ending)(w':X):Prop :=
 ∃word ps ao cap,∃code:Nat,e=Y (.tuple #[.agg #[V word,Z ao ps.length cap],I J (code:Int)])∧Up m ps code∧aG w' w.heap.size 237 2 ao cap ps.length (aI ps)∧Below w.heap.size w w'
theorem IQ.a {w w':X}{m:Nat ⊕ List cZ}{c:Nat}(a:m=.inl c)(b:c≠0)(d:Below w.heap.size w w'):IQ w m (Y (.tuple #[.agg #[V ⟨#[]⟩,Z U 0 0],I J (c:Int)])) w':=by
 subst a;exact⟨⟨#[]⟩,[],U,0,c,rfl,⟨rfl,b⟩,aG.f _ _ _ _,d⟩
def nW:ag:=⟨#[67,111,110,116,101,110,116,45,68,105,115,112,111,115,105,116,105,111,110]⟩
def rC:ag:=⟨#[67,111,110,116,101,110,116,45,84,121,112,101]⟩
structure yt (w W:X):Prop where
 b:W.heap[w.heap.size]? = M (K #[V ⟨#[]⟩,Z U 0 0] 203 (0,0))
 below:Below w.heap.size w W
theorem yt.a {w W W':X}(h:yt w W)(a:Below W.heap.size W W'):yt w W':=⟨rS h.b a,ar h.below a⟩
theorem yt.d {w W:X}(h:yt w W):W.cell? ⟨w.heap.size,0,U⟩=M (V ⟨#[]⟩)∧W.cell? ⟨w.heap.size,1,U⟩=M (Z U 0 0)∧W.frozen? ⟨w.heap.size,0,U⟩=F∧W.frozen? ⟨w.heap.size,1,U⟩=F :=
 ⟨am W _ 0 _ _ _ h.b,am W _ 1 _ _ _ h.b,aD W _ 0 _ _ h.b,aD W _ 1 _ _ h.b⟩
theorem Js (l:aC)(ao:ai)(cap n:Nat)(w:X)(hl:bx w ao cap n (aI l))(hn:l.length=n)(hN:n<=1000)(hz:∀p∈l,p.1.size<=2000∧p.2.size<=2000):
 Calls prog 352 #[Z ao n cap] w fun e w'=>IQ w (kQ (fw (aE nW l))) e w':=by
 have t:yt w (w.alloc (K #[V ⟨#[]⟩,Z U 0 0] 203)):=⟨bw w _,(aq _ _).alloc (ak _) _⟩;have B:=wR l nW ao cap n _ (hl.a ((aq _ _).alloc (ak _) (K #[V ⟨#[]⟩,Z U 0 0] 203))) hn (by omega) hz (by decide);have hd2:(fw (aE nW l)).1.length<=2000:=by
  have s:∀v∈aE nW l,v.size<=2000:=fun v S=>by
   obtain⟨p,hp,rfl⟩:=uM S;exact(hz p hp).2
  unfold fw;split
  . exact ax _
  . rename_i v S;have:=s v (by rw[S];simp);rw[ep];exact this
  . exact ax _
 unfold jX at B;unfold nW at B;generalize hd:fw (aE nW l)=d at *;have T:fw (aE ⟨#[67,111,110,116,101,110,116,45,68,105,115,112,111,115,105,116,105,111,110]⟩ l)=d:=hd;rw[T] at B;by_cases C:d.2=0
 . have t0:((d.2:Int) != 0)=F:=by rw[C];rfl
   have g:=fun W=>CC ⟨d.1.toArray⟩ W (by show d.1.toArray.size<=_;rw[cN];omega);have hdt:(⟨d.1.toArray⟩:ag).data.toList=d.1:=rfl;rw[hdt] at g;generalize (⟨d.1.toArray⟩:ag)=vt at *;cases s:eh d.1 with
   | inl c =>
     have hc:=DO s;have D:=Kw C s;rw[s] at g;have tc:((c:Int) != 0)=true:=by rw[cW];omega
     go_enter func352,ntmps352;go_wp2_with fail;refine B.mono ?_;rintro e G ⟨rfl,i⟩;have j:=t.a i;go_wp2_with fail;refine(g G).mono ?_;rintro e w2 ⟨word,z,u,b,code,rfl,⟨rfl,q,y⟩,r,m⟩;have f:=(j.a m).a ((aq _ _).alloc (ak _) (K #[V word,Z u z.length b] 203));obtain⟨H,L,f0,f1⟩:=f.d;clear m  q y r;go_wp2;refine aR (v:=.tuple #[.agg #[V ⟨#[]⟩,Z U 0 0],I J (code:Int)]) (by simp[results,results352,go_sem,H,L]) rfl (IQ.a D hc ?_);first | exact f.below | exact(f.below.setCell (ak _) _).setCell (ak _) _
   | inr x =>
     by_cases N:x.1=qU
     . have D:=aa (KC C s N);rw[s] at g;clear s C;go_enter func352,ntmps352;go_wp2_with fail;refine B.mono ?_;rintro e G ⟨rfl,i⟩;have j:=t.a i;go_wp2_with fail;refine(g G).mono ?_;rintro e w2 ⟨word,z,u,b,code,rfl,⟨rfl,q,y⟩,r,m⟩;have f:=(j.a m).a ((aq _ _).alloc (ak _) (K #[V word,Z u z.length b] 203));obtain⟨H,L,f0,f1⟩:=f.d;have tw:(word.toList==[102,111,114,109,45,100,97,116,97])=true:=by
        rw[cM,Lib.toList_data,q,N];rfl
       have hz1:=j.below.size;have hgt:=(bH.1 j.b).1;have sG:=(r.j (show w.heap.size<=G.heap.size from hz1)).r ((aq _ _).alloc (ak _) (K #[V word,Z u z.length b] 203));have XE:∀a,u=M a->a.block≠w.heap.size:=fun a e=>by have:=(r.d a e).1;omega
       go_wp2;refine aR (v:=.tuple #[.agg #[V word,Z u z.length b],I J 0]) (by simp[results,results352,go_sem,H,L]) rfl ⟨word,z,u,b,0,rfl,?_,?_,?_⟩
       . rw[D];exact⟨rfl,y⟩
       . exact((sG.e (al.f (fun k=>k=w.heap.size) _ _ _ rfl) (fun a e=>XE a e)).e (al.f (fun k=>k=w.heap.size) _ _ _ rfl) (fun a e=>XE a e))
       . exact(f.below.setCell (ak _) _).setCell (ak _) _
     . have D:=aa (Kh C s N);rw[s] at g;go_enter func352,ntmps352;go_wp2_with fail;refine B.mono ?_;rintro e G ⟨rfl,i⟩;have j:=t.a i;go_wp2_with fail;refine(g G).mono ?_;rintro e w2 ⟨word,z,u,b,code,rfl,⟨rfl,q,y⟩,r,m⟩;have f:=(j.a m).a ((aq _ _).alloc (ak _) (K #[V word,Z u z.length b] 203));obtain⟨H,L,f0,f1⟩:=f.d;have tw:(word.toList==[102,111,114,109,45,100,97,116,97])=F:=by
        rw[aO,Lib.toList_data,q];exact N
       go_wp2;refine aR (v:=.tuple #[.agg #[V ⟨#[]⟩,Z U 0 0],I J 11]) (by simp[results,results352,go_sem,H,L]) rfl (IQ.a (c:=11) D (by decide) ?_);first | exact f.below | exact(f.below.setCell (ak _) _).setCell (ak _) _
 . have t0:((d.2:Int) != 0)=true:=by rw[cW];omega
   have D:Hid (kQ d=.inl d.2):=by unfold Hid kQ;rw[if_pos C]
   go_enter func352,ntmps352;go_wp2_with fail;refine B.mono ?_;rintro e G ⟨rfl,i⟩;have vN:=t.a i;obtain⟨H,L,f0,f1⟩:=vN.d;go_wp2;refine aR (v:=.tuple #[.agg #[V ⟨#[]⟩,Z U 0 0],I J (d.2:Int)]) (by simp[results,results352,go_sem,H,L]) rfl (IQ.a D.o C ?_);first | exact vN.below | exact(vN.below.setCell (ak _) _).setCell (ak _) _
def uO:Nat ⊕ oV->Value
 | .inl c=>.tuple #[.agg #[V ⟨#[]⟩,V ⟨#[]⟩,V ⟨#[]⟩,Z U 0 0],I J (c:Int)]
 | .inr p=>.tuple #[.agg #[V ⟨p.b.toArray⟩,V ⟨p.a.toArray⟩,V ⟨p.c.toArray⟩,Z U 0 0],I J 0]
structure yu (w W:X):Prop where
 b:W.heap[w.heap.size]? = M (K #[V ⟨#[]⟩,V ⟨#[]⟩,V ⟨#[]⟩,Z U 0 0] 96 (0,0))
 below:Below w.heap.size w W
theorem yu.a {w W W':X}(h:yu w W)(a:Below W.heap.size W W'):yu w W':=⟨rS h.b a,ar h.below a⟩
theorem yu.d {w W:X}(h:yu w W):W.cell? ⟨w.heap.size,0,U⟩=M (V ⟨#[]⟩)∧W.cell? ⟨w.heap.size,1,U⟩=M (V ⟨#[]⟩)∧W.cell? ⟨w.heap.size,2,U⟩=M (V ⟨#[]⟩)∧W.cell? ⟨w.heap.size,3,U⟩=M (Z U 0 0)∧W.frozen? ⟨w.heap.size,0,U⟩=F∧W.frozen? ⟨w.heap.size,1,U⟩=F∧W.frozen? ⟨w.heap.size,2,U⟩=F∧W.frozen? ⟨w.heap.size,3,U⟩=F :=
 ⟨am W _ 0 _ _ _ h.b,am W _ 1 _ _ _ h.b,am W _ 2 _ _ _ h.b,am W _ 3 _ _ _ h.b,aD W _ 0 _ _ h.b,aD W _ 1 _ _ h.b,aD W _ 2 _ _ h.b,aD W _ 3 _ _ h.b⟩
theorem uI {w W:X}(h:Below w.heap.size w W)(a b c d:Value):Below w.heap.size w ((((W.setCell ⟨w.heap.size,0,U⟩ a).setCell ⟨w.heap.size,1,U⟩ b).setCell ⟨w.heap.size,2,U⟩ c).setCell ⟨w.heap.size,3,U⟩ d) :=
 (((h.setCell (ak _) _).setCell (ak _) _).setCell (ak _) _).setCell (ak _) _
theorem TP (l:aC)(ao:ai)(cap n:Nat)(w:X)(hl:bx w ao cap n (aI l))(hn:l.length=n)(hN:n<=1000)(hz:∀p∈l,p.1.size<=2000∧p.2.size<=2000):
 Calls prog 350 #[Z ao n cap] w fun e w'=>e=Y (uO (nt (fw (aE nW l)) (fw (aE rC l))))∧Below w.heap.size w w':=by
 have hR0:yu w (w.alloc (K #[V ⟨#[]⟩,V ⟨#[]⟩,V ⟨#[]⟩,Z U 0 0] 96)):=⟨bw w _,(aq _ _).alloc (ak _) _⟩;have HL:∀W,Below w.heap.size w W->bx W ao cap n (aI l):=fun W hW=>hl.a hW;have HD:=Js l ao cap n _ (HL _ hR0.below) hn hN hz;have B:∀W,Below w.heap.size w W->Calls prog 166 #[Z ao n cap,V rC] W fun e w'=>e=Y (jX (fw (aE rC l)))∧Below W.heap.size W w':=fun W hW=>wR l rC ao cap n W (HL W hW) hn (by omega) hz (by decide);have hd2:(fw (aE nW l)).1.length<=2000:=by
  have hm:∀v∈aE nW l,v.size<=2000:=fun v hv=>by
   obtain⟨p,hp,rfl⟩:=uM hv;exact(hz p hp).2
  unfold fw;split
  . exact ax _
  . rename_i v hv;have:=hm v (by rw[hv];simp);rw[ep];exact this
  . exact ax _
 unfold jX at B;generalize fw (aE nW l)=d at *;generalize fw (aE rC l)=t at *;have hP:=JR d t;unfold rC at B;cases hdi:kQ d with
 | inl c =>
   rw[hdi] at HD hP;have HP:nt d t=.inl c:=hP;go_enter func350,ntmps350;go_wp2_with fail;refine HD.mono ?_;rintro e C ⟨word,s,u,a,code,rfl,⟨rfl,hc⟩,uw,hb1⟩;have tc:((code:Int) != 0)=true:=by rw[cW];omega
   have D:=(hR0.a hb1).a ((aq _ _).alloc (ak _) (K #[V word,Z u s.length a] 203));obtain⟨G,H,L,N,f0,f1,f2,f3⟩:=D.d;go_wp2;refine aR (v:=.tuple #[.agg #[V ⟨#[]⟩,V ⟨#[]⟩,V ⟨#[]⟩,Z U 0 0],I J (code:Int)]) (by simp[results,results350,go_sem,G,H,L,N]) rfl ⟨by rw[HP];rfl,?_⟩;first | exact D.below | exact uI D.below _ _ _ _
 | inr xs =>
   have nN:=Kx hdi;rw[hdi] at HD hP;have hP:=hP;go_enter func350,ntmps350;go_wp2_with fail;refine HD.mono ?_;rintro e C ⟨word,s,u,a,code,rfl,⟨rfl,hps⟩,uw,hb1⟩;subst hps;obtain⟨q,y⟩:∃q,s.length=q:=⟨_,rfl⟩;rw[y] at uw;rw[y];have hn8:q<=8:=by rw[<-y,<-zb];exact nN.1
   have hvz:∀p∈s,p.2.size<=2000:=fun p hp=>by
    have:=nN.2 (p.1.data.toList,p.2.data.toList) (jT.2 ⟨p,hp,rfl⟩);have h2:=this;rw[ep] at h2;omega
   have hbM:Below C.heap.size C (C.alloc (K #[V word,Z u q a] 203)):=(aq _ _).alloc (ak _) _;have D:=(hR0.a hb1).a hbM;have hM1:=bw C (K #[V word,Z u q a] 203);have hV1:=uw.a.a hbM;have XQ:=xc word s ⟨#[110,97,109,101]⟩ u a q _ hV1 y (by omega) (fun p hp=>by have:=hvz p hp;omega);have Lg:∀W,Below (C.alloc (K #[V word,Z u q a] 203)).heap.size (C.alloc (K #[V word,Z u q a] 203)) W->Calls prog 353 #[.agg #[V word,Z u q a]] W fun e w'=>e=Y (pF (lP (dy s)))∧Below W.heap.size W w':=fun W hW=>Mg word s u a q W (hV1.a hW) y (by omega) (fun p hp=>by have:=hvz p hp;omega);have HR1:=D;have Z4:=aa hM1;have HP:=aa hP;have HVz:=aa hvz
   generalize hW1:(C.alloc (K #[V word,Z u q a] 203))=W1 at *;have m0:=am W1 _ 0 _ _ _ Z4.o;have m1:W1.cell? ⟨C.heap.size,1,U⟩=M (Z u q a):=am W1 _ 1 _ _ _ Z4.o;cases S:iL ⟨#[110,97,109,101]⟩ s with
   | none =>
     have g1:iu xv (dy s)=U:=Br S;rw[S] at XQ;have j:nt d t=.inl 6:=by rw[HP];unfold uR;rw[g1]
     go_wp2_with fail;refine XQ.mono ?_;rintro e r ⟨rfl,b⟩;have O7:=D.a b;obtain⟨G,H,L,N,f0,f1,f2,f3⟩:=O7.d;go_wp2;refine aR (v:=.tuple #[.agg #[V ⟨#[]⟩,V ⟨#[]⟩,V ⟨#[]⟩,Z U 0 0],I J 6]) (by simp[results,results350,go_sem,G,H,L,N]) rfl ⟨by rw[j];rfl,?_⟩;first | exact O7.below | exact uI O7.below _ _ _ _
   | some x =>
     obtain⟨g1,_⟩:=A4 S;have g1:iu xv (dy s)=M x.data.toList:=g1;rw[S] at XQ;cases T:lP (dy s) with
     | none =>
       rw[T] at Lg;have j:nt d t=.inl 5:=by rw[HP];unfold uR;rw[g1,T]
       go_wp2_with fail;refine XQ.mono ?_;rintro e r ⟨rfl,b⟩;have g:=rS Z4.o b;have n0:=am r _ 0 _ _ _ g;have n1:=am r _ 1 _ _ _ g;go_wp2_with fail;refine(Lg r b).mono ?_;rintro e w4 ⟨rfl,k⟩;unfold pF;have hR4:=(D.a b).a k;obtain⟨G,H,L,N,f0,f1,f2,f3⟩:=hR4.d;have i:=aa hR4;go_wp2;refine aR (v:=.tuple #[.agg #[V ⟨#[]⟩,V ⟨#[]⟩,V ⟨#[]⟩,Z U 0 0],I J 5]) (by simp[results,results350,go_sem,G,H,L,N]) rfl ⟨by rw[j];rfl,?_⟩;first | exact i.o.below | exact uI i.o.below _ _ _ _
     | some f =>
       rw[T] at Lg;have z:nt d t=if t.2=9 then .inl 9 else .inr ⟨x.data.toList,f,t.1⟩:=by rw[HP];unfold uR;rw[g1,T]
       by_cases h9:t.2=9
       . rw[if_pos h9] at z;have j:=aa z;have t9:((t.2:Int)==9)=true:=by rw[h9];rfl
         have HT9:=aa h9;clear z h9;go_wp2_with fail;refine XQ.mono ?_;rintro e r ⟨rfl,b⟩;have g:=rS Z4.o b;have n0:=am r _ 0 _ _ _ g;have n1:=am r _ 1 _ _ _ g;clear  g m0 m1 hW1;go_wp2_with fail;refine(Lg r b).mono ?_;rintro e w4 ⟨rfl,k⟩;unfold pF;have i:=(D.a b).a k;clear k n0 n1;go_wp2_with fail;refine(B w4 i.below).mono ?_;rintro e w5 ⟨rfl,hb5⟩;have m:=i.a hb5;obtain⟨G,H,L,N,f0,f1,f2,f3⟩:=m.d;go_wp2;refine aR (v:=.tuple #[.agg #[V ⟨#[]⟩,V ⟨#[]⟩,V ⟨#[]⟩,Z U 0 0],I J (t.2:Int)]) (by simp[results,results350,go_sem,G,H,L,N]) rfl ⟨by rw[j,HT9.o];rfl,?_⟩;first | exact m.below | exact uI m.below _ _ _ _
       . rw[if_neg h9] at z;have j:=aa z;have t9:((t.2:Int)==9)=F:=by rw[aO];omega
         go_wp2_with fail;refine XQ.mono ?_;rintro e r ⟨rfl,b⟩;have g:=rS Z4.o b;have n0:=am r _ 0 _ _ _ g;have n1:=am r _ 1 _ _ _ g;go_wp2_with fail;refine(Lg r b).mono ?_;rintro e w4 ⟨rfl,k⟩;unfold pF;have i:=(D.a b).a k;go_wp2_with fail;refine(B w4 i.below).mono ?_;rintro e w5 ⟨rfl,hb5⟩;have m:=i.a hb5;obtain⟨G,H,L,N,f0,f1,f2,f3⟩:=m.d;go_wp2;refine aR (v:=.tuple #[.agg #[V x,V ⟨f.toArray⟩,V ⟨t.1.toArray⟩,Z U 0 0],I J 0]) (by simp[results,results350,go_sem,G,H,L,N]) rfl ⟨by rw[j];unfold uO;simp only[],?_⟩;exact uI m.below _ _ _ _
theorem SJ (l:aC)(ao:ai)(cap n:Nat)(w:X)(a:bx w ao cap n (aI l))(b:l.length=n)(c:n<=1000)(d:∀p∈l,p.1.size<=2000∧p.2.size<=2000):
 Calls prog 350 #[Z ao n cap] w fun e w'=>e=Y (uO (kS (fN l)))∧Below w.heap.size w w':=by
 have h:=TP l ao cap n w a b c d;rw[In nW ⟨Ae.toArray⟩ l (by decide) (by decide),In rC ⟨Ah.toArray⟩ l (by decide) (by decide)] at h;exact h
def qo (m:ae)(k j:Nat):Value:=if j<=k then IF m j else I J 0
def wW (w:X)(lo g gb:Nat)(m:ae)(mo:ai)(cap k:Nat):Prop :=
 w.heap[g]? = M (K #[Z mo m.length cap,Z (M ⟨gb,0,U⟩) m.length m.length,I J 0] 338 (0,0)) ∧
  bC w lo 5 mo cap m∧w.rowIs gb 3 m.length (qo m k)∧lo<=g∧lo<=gb
theorem IW (m:ae)(j:Nat):Value.int J 0=qo m 1 j:=by
 unfold qo;split
 . have e:j=0∨j=1:=by omega
   rcases e with rfl | rfl <;> rfl
 . rfl
theorem Uq {w a:X}{m:ae}{ao:ai}{cap:Nat}(d:bC a w.heap.size 5 ao cap m)(b:Below w.heap.size w a):
 wW ((a.alloc (K (madeCells #[I J 0] m.length) 3)).alloc (K #[Z ao m.length cap,Z (M ⟨a.heap.size,0,U⟩) m.length m.length,I J 0] 338)) w.heap.size (a.heap.size+1) a.heap.size m ao cap 1 ∧
 Below w.heap.size w ((a.alloc (K (madeCells #[I J 0] m.length) 3)).alloc (K #[Z ao m.length cap,Z (M ⟨a.heap.size,0,U⟩) m.length m.length,I J 0] 338)):=by
 have c:=b.size;refine⟨⟨?_,(d.j _).j _,((World.rowIs_made a _ _ _).alloc _).congr (fun j _=>IW m j),by omega,c⟩,(b.alloc c _).alloc (by simp;omega) _⟩;have:=bw (a.alloc (K (madeCells #[I J 0] m.length) 3)) (K #[Z ao m.length cap,Z (M ⟨a.heap.size,0,U⟩) m.length m.length,I J 0] 338);simpa using this
theorem Uz {w a:X}{m:ae}{ao:ai}{cap:Nat}(c:bC a (w.alloc (K (madeCells #[I J 0] m.length) 3)).drew.heap.size 5 ao cap m)(b:Below (w.alloc (K (madeCells #[I J 0] m.length) 3)).drew.heap.size (w.alloc (K (madeCells #[I J 0] m.length) 3)).drew a):
 wW (a.alloc (K #[Z ao m.length cap,Z (M ⟨w.heap.size,0,U⟩) m.length m.length,I J 0] 338)) w.heap.size a.heap.size w.heap.size m ao cap 1 ∧
 Below w.heap.size w (a.alloc (K #[Z ao m.length cap,Z (M ⟨w.heap.size,0,U⟩) m.length m.length,I J 0] 338)):=by
 have d:=b.size;have e:(w.alloc (K (madeCells #[I J 0] m.length) 3)).drew.heap.size=w.heap.size+1:=by simp
 rw[e] at c b d;replace b:=(bA _ (w.alloc (K (madeCells #[I J 0] m.length) 3))).trans b;refine⟨⟨bw a _,(c.q (by omega)).j _,(((World.rowIs_made w _ _ _).of_block (b.block _ (by omega))).alloc _).congr (fun j _=>IW m j),by omega,ak _⟩,(((aq _ _).alloc (ak _) _).trans (b.mono (by omega))).alloc (by omega) _⟩
theorem SL (m:ae)(ao:ai)(cap:Nat)(w:X)(h:ay w ao cap m)(hL:m.length<=1000000):
 Calls prog 274 #[Z ao m.length cap] w fun e w'=>∃g p,e=Y (Q (M ⟨g,0,U⟩))∧eC w' g m 0 p∧w.heap.size<=g∧w.heap.size<=p.a∧(∀a,p.b=M a->w.heap.size<=a.block)∧Below w.heap.size w w':=by
 have hmk:=run_make_row' (P:=prog) 55 3 (I J 0) 8 underlying55 wT rfl J J m.length (by omega) (by omega);go_enter func274,ntmps274;go_upto_region 1 with fail
 go_cut [3] (fun p wc=>∃g c s b,p=Q (M ⟨g,0,U⟩)∧wW wc w.heap.size g c m s b 1∧Below w.heap.size w wc)
 case first =>
  go_region_with (go_at_call 309;refine((fun(W:X) (hW:ay W ao cap m)=>Fd m ao cap W hW (by omega)) _ (by first | exact h | exact h.jK _)).mono ?_;rintro e w1 ⟨gQ,b,rfl,hO,D⟩;have HO:=aa hO;have HB:=aa D;clear hO D)
  all_goals (go_wp2_with fail;go_meet;first | exact⟨_,_,_,_,rfl,Uq HO.o ((bA _ w).trans HB.o)⟩ | exact⟨_,_,_,_,rfl,Uz HO.o HB.o⟩)
 case rest =>
  obtain⟨g,c,s,b,rfl,G,D⟩:=hcut;have HP:=aa G;go_wp2;go_loopw [4] (fun t wr=>∃n:Nat,0<n∧n<=m.length+1∧t=I J n∧wW wr w.heap.size g c m s b n∧Below w.heap.size w wr) (fun t _=>m.length+1-(intOf t).toNat)
  case atStart=>exact⟨1,by omega,by omega,rfl,HP.o,D⟩
  case round =>
   obtain⟨n,u,hnl,rfl,G,hb⟩:=hrel;have HP:=aa G;obtain⟨v,y,d,z,f⟩:=G;have c0:=am wr g 0 _ _ _ v;have c1:=am wr g 1 _ _ _ v;by_cases H:n+1<m.length
   . obtain⟨i,rfl,_,B⟩:=y.r (by omega);have cm:=B n (by omega);have cb:wr.cell? ⟨c,n,U⟩=M (I J (ji m n)):=by
      rw[d.cell (by omega)];unfold qo;rw[if_pos (ak _)];rfl
     have cb1:wr.cell? ⟨c,n+1,U⟩=M (I J 0):=by
      rw[d.cell H];unfold qo;rw[if_neg (by omega)]
     have fb1:wr.frozen? ⟨c,n+1,U⟩=F:=d.frozen _;have L:c≠g:=EK v d (by decide);have C:i≠c:=by
      intro e;subst e;obtain⟨cc,N,_⟩:=d;have:=iJ N y (by decide);simp[Value.ownBlock] at this
     have S:=BS m n u;have l:=aa (Hr m (ji m n) m[n] g i c b wr.drew (by omega) (by omega) c0 c1 B (fun j hj0 hjn=>by
      refine(d.cell (show j<m.length by omega)).trans ?_;unfold qo;rw[if_pos (by omega)];rfl))
     rw[<-Qi m n u (by omega)] at l;have T:wW (wr.drew.setCell ⟨c,n+1,U⟩ (I J (ji m (n+1)))) w.heap.size g c m (M ⟨i,0,U⟩) b (n+1)∧Below w.heap.size w (wr.drew.setCell ⟨c,n+1,U⟩ (I J (ji m (n+1)))):=by
      refine⟨⟨?_,?_,(d.set (n+1) (I J (ji m (n+1)))).congr (fun j _=>?_),z,f⟩,(hb.trans (bA _ _)).setCell f _⟩
      . rw[qx _ _ _ _ (fun e=>L e.symm)];exact v
      . exact bC.y (w:=wr.drew) y ⟨rfl,rfl,rfl,by simp[World.setCell],fun k _ hne=>qx _ _ k _ (fun e=>hne (by rw[e]))⟩ (row:=M c) (fun a e=>by cases e;intro e;injection e with e;exact C e)
      . unfold qo;by_cases e:j=n+1
        . subst e;rw[if_pos rfl,if_pos (ak _)];rfl
        . rw[if_neg e];by_cases e2:j<=n
          . rw[if_pos e2,if_pos (by omega)]
          . rw[if_neg e2,if_neg (by omega)]
     generalize ji m (n+1)=r at l T;generalize ji m n=q at l cb S;generalize m[n]=x at l cm;have ht:decide ((n:Int)+1<m.length)=true:=by rw[bS];omega
     have b1:(n:Int)<m.length:=by omega
     have b2:(n:Int)+1<m.length:=by omega
     have b3:IntKind.i64.wrap ((n:Int)+1)=(n:Int)+1:=iY (by omega) (by omega);have b4:(0:Int)<=(n:Int)+1:=by omega
     have b5:((n:Int)+1).toNat=n+1:=by omega
     have k1:(wr.setCell ⟨c,n+1,U⟩ (I J (r:Int))).cell? ⟨i,n,U⟩=M (I .u8 (x.toNat:Int)):=(tL wr ⟨c,n+1,U⟩ ⟨i,n,U⟩ _ (fun e=>by injection e with e _ _;exact C e.symm)).trans cm;have k2:(wr.setCell ⟨c,n+1,U⟩ (I J (r:Int))).cell? ⟨c,n,U⟩=M (I J (q:Int)):=(tL wr ⟨c,n+1,U⟩ ⟨c,n,U⟩ _ (fun e=>by injection e with _ e _;omega)).trans cb;go_wp2;go_region_held3 (fun w'=>w'.cell? ⟨g,0,U⟩=M (Z (M ⟨i,0,U⟩) m.length b)∧w'.cell? ⟨g,1,U⟩=M (Z (M ⟨c,0,U⟩) m.length m.length)∧w'.cell? ⟨i,n,U⟩=M (I .u8 (x.toNat:Int))∧w'.cell? ⟨c,n,U⟩=M (I J (q:Int))) (go_keep) (first | (go_at_call 310;refine l.o.mono ?_;rintro e w' ⟨rfl,rfl⟩))
     all_goals
      go_wp2;go_roundw
      case rel=>exact⟨n+1,by omega,by omega,by go_num,T.1,T.2⟩
      case measure=>simp[intOf];omega
   . have ht:decide ((n:Int)+1<m.length)=F:=by rw[cz];omega
     have l:eC wr g m 0 ⟨s,b,c⟩:=⟨v,y.q (ax _),d.congr (fun j hj=>by unfold qo;rw[if_pos (by omega)])⟩;have HMo:∀a,s=M a->w.heap.size<=a.block:=fun a e=>(y.d a e).1;go_wp2;go_ret;exact⟨g,⟨s,b,c⟩,rfl,l,z,f,HMo,hb⟩
structure yw (w:X)(row:Obj)(vs cs:List ag)(AV jB:ai)(oU cap2:Nat)(wr:X):Prop where
 a:bx wr AV oU vs.length (fH vs)
 b:bx wr jB cap2 cs.length (fH cs)
 c:wr.heap[w.heap.size]? = M row
 below:Below w.heap.size w wr
theorem zI {w wr w':X}{row:Obj}(h:wr.heap[w.heap.size]? = M row)(a:Below wr.heap.size wr w'):w'.heap[w.heap.size]? = M row:=(a.block w.heap.size (bH.1 h).1).trans h
theorem yw.d {w:X}{row:Obj}{c d:List ag}{e f:ai}{g a:Nat}{wr w':X}(h:yw w row c d e f g a wr)(b:Below wr.heap.size wr w'):yw w row c d e f g a w':=⟨h.a.a b,h.b.a b,zI h.c b,ar h.below b⟩
theorem Mf (m t:ag)(mi:Nat)(k0:Int)(l:aC)(fo:ai)(gG:Nat)(w:X)(hl:bx w fo gG l.length (aI l))(hN:l.length<=16)(hs:∀p∈l,p.1.size<=2000∧p.2.size<=2000):
 Calls prog 54 #[.agg #[V m,V t,I J (mi:Int),Z fo l.length gG,I J k0]] w fun e w'=>e=Y (op (gC ⟨m.data.toList,t.data.toList,mi,fN l,k0⟩))∧Below w.heap.size w w':=by
 have hle:gC ⟨m.data.toList,t.data.toList,mi,fN l,k0⟩=nF mi (aZ (aE eQ l)) (aZ (aE fg l)) (aZ (aE fh l)):=by
  rw[GP];show nF mi (bU (fN l) eQ.data.toList) (bU (fN l) fg.data.toList) (bU (fN l) fh.data.toList)=_;rw[tf l eQ (by decide +kernel),tf l fg (by decide +kernel),tf l fh (by decide +kernel)];rfl
 rw[hle];have O6:∀p∈l,p.1.size<=2000:=fun p hp=>(hs p hp).1;have HVz:∀g,∀v∈aE g l,v.size<=2000:=fun g v d=>by
  obtain⟨p,hp,e⟩:=uM d;rw[<-e];exact(hs p hp).2
 have hlH:=oT eQ l;have hlS:=oT fg l;have hlC:=oT fh l
 clear hle  hs;have aa6:Hid (∀W,Below w.heap.size w W->Calls prog 74 #[Z fo l.length gG,V ⟨#[104,111,115,116]⟩] W fun e w'=>e=Y (jX (fw (aE eQ l)))∧Below W.heap.size W w'):=fun W L=>Ry l eQ fo gG l.length W (hl.a L) rfl (by omega) O6 (by decide);have HV:∀(g:ag) (W:X),Below w.heap.size w W->g.size<=2000->Calls prog 87 #[Z fo l.length gG,V g] W fun e w'=>∃gQ cap',e=Y (Z gQ (aE g l).length cap')∧bx w' gQ cap' (aE g l).length (fH (aE g l))∧Below W.heap.size W w':=fun g W L hn=>by
  refine(CJ l g fo gG l.length W (hl.a L) rfl (by omega) O6 hn).mono ?_;rintro e w' ⟨a,c,z,h2,h3⟩;exact⟨a,c,z,h2.a,h3⟩
 have HZs:=(HVz fg);have HZc:=aa (HVz fh)
 clear HVz O6;generalize aE eQ l=d at *;generalize hvs:aE fg l=b at *;generalize B:aE fh l=j at *;have HEs:=aa hvs;have HEc:=aa B
 clear hvs B;generalize C:(Obj.cells #[Value.string m,Value.string t,I J (mi:Int),Z fo l.length gG,I J k0] 82 (0,0))=row;have mX:=aa C;have hb0:Below w.heap.size w (w.alloc row):=(aq _ _).alloc (ak _) _;have HX0:Hid ((w.alloc row).heap[w.heap.size]? = M row):=bw w _;have HB0:=aa hb0;rw[<-C] at HX0 HB0;clear C hb0;go_enter func54,ntmps54;go_wp2_with fail;refine(aa6.o _ HB0.o).mono ?_;rintro e w1 ⟨he,hb1⟩;have XM:=(zI HX0.o hb1);have HB1:=aa (ar HB0.o hb1)
 have c2:w1.cell? ⟨w.heap.size,2,U⟩=M (I J (mi:Int)):=am w1 w.heap.size 2 _ _ _ XM;have c3:w1.cell? ⟨w.heap.size,3,U⟩=M (Z fo l.length gG):=am w1 w.heap.size 3 _ _ _ XM;unfold jX at he;subst he;have hone:((fw d).2=9∧1<d.length)∨((fw d).2=10∧d.length=0)∨((fw d).2=0∧d.length=1):=by
  match d with
  | []=>exact R (Or.inl ⟨rfl,rfl⟩)
  | [v]=>exact R (R ⟨rfl,rfl⟩)
  | v::u::r=>exact Or.inl ⟨rfl,by simp⟩
 generalize (⟨(fw d).1.toArray⟩:ag)=hb at *;generalize (fw d).2=hc at *;go_upto_region 2 with fail
 go_cut [28] (fun tt wd=>tt=.bool (decide (1<d.length∨d.length=0∧mi=1))∧wd=w1)
 case first =>
  rcases hone with ⟨rfl,z⟩ | ⟨rfl,z⟩ | ⟨rfl,z⟩
  . have HD:decide (1<d.length∨d.length=0∧mi=1)=true:=aV (Or.inl z);go_wp2;go_meet;exact⟨by rw[HD],rfl⟩
  . by_cases hm:mi=1
    . have HD:decide (1<d.length∨d.length=0∧mi=1)=true:=aV (R ⟨z,hm⟩);have tm:((mi:Int)==1)=true:=by rw[hm];rfl
      go_wp2;go_meet;exact⟨by rw[HD],rfl⟩
    . have HD:decide (1<d.length∨d.length=0∧mi=1)=F:=aW (by rintro (e | e);omega;exact hm e.2);have tm:((mi:Int)==1)=F:=by rw[aO];omega
      go_wp2;go_meet;exact⟨by rw[HD],rfl⟩
  . have HD:decide (1<d.length∨d.length=0∧mi=1)=F:=aW (by rintro (e | e) <;> omega);go_wp2;go_meet;exact⟨by rw[HD],rfl⟩
 case rest =>
  obtain⟨rfl,hw⟩:=hcut;subst hw;have sD:Hid (nF mi (aZ d) (aZ b) (aZ j)=if 1<d.length∨d.length=0∧mi=1 then .inl 13 else if j≠[] then (if b≠[]∨mi=0 then .inl 12 else if j.length≠1∨aU ((aZ j).headD [])≠pZ then .inl 11 else .inr (-1)) else match gm ((aZ b).headD []) 0 (aZ b) with
   | .inl c=>.inl c
   | .inr n=>if 4000<n then .inl 4 else .inr n):=by
   unfold Hid nF aZ;simp only[ij,ne_eq,List.map_eq_nil_iff];rfl
  by_cases sw:1<d.length∨d.length=0∧mi=1
  . have hd:decide (1<d.length∨d.length=0∧mi=1)=true:=aV sw;have D:nF mi (aZ d) (aZ b) (aZ j)=.inl 13:=by have:=sD.o;rw[if_pos sw] at this;exact this
    rw[hd];go_wp2;go_ret2;exact⟨by rw[D];rfl,HB1.o⟩
  . have hd:decide (1<d.length∨d.length=0∧mi=1)=F:=aW sw;have hl2:=sD.o;rw[if_neg sw] at hl2;rw[hd];go_upto_region 4 with fail
    go_cut [6,7] (fun v6 v7 wd=>∃AV oU jB q,v6=Z AV b.length oU∧v7=Z jB j.length q∧yw w row b j AV jB oU q wd)
    case first =>
     have hx0:=XM;rw[mX.o] at hx0;have hxd:=hx0;have hbd:=HB1.o.trans (bA _ _);have hcell:∀W:X,W.heap[w.heap.size]? = M row->W.cell? ⟨w.heap.size,3,U⟩=M (Z fo l.length gG):=fun W L=>by
      rw[<-mX.o] at L;exact am W w.heap.size 3 _ _ _ L
     go_region_held3 (fun w'=>w'.cell? ⟨w.heap.size,3,U⟩=M (Z fo l.length gG)) (go_keep) (first
      | (go_at_call 87;refine(HV _ _ (by assumption) (by decide)).mono ?_;rintro e w2 ⟨AV,oU,rfl,hIs,hbs⟩;have hxs:=zI (by assumption) hbs;have hBs:=ar (w:=w) (by assumption) hbs;have e3:=hcell w2 hxs))
     rename_i w2' ao0 cap0 hI0 hb0 hx0 hB0 e0 z0;go_wp2;go_meet;refine⟨ao0,cap0,AV,oU,by rw[<-HEs.o];rfl,by rw[<-HEc.o];rfl,⟨?_,?_,hxs,hBs⟩⟩
     . rw[<-HEs.o];exact hI0.a hbs
     . rw[<-HEc.o];exact hIs
    case rest =>
     obtain⟨AV,oU,jB,q,rfl,rfl,N⟩:=hcut;have c2:wc.cell? ⟨w.heap.size,2,U⟩=M (I J (mi:Int)):=by
      have:=N.c;rw[<-mX.o] at this;exact am _ w.heap.size 2 _ _ _ this
     by_cases G:j=[]
     . have f:=hl2;rw[if_neg (fun e=>e G)] at f;generalize hnc:j.length=nc;have hcz:¬0<nc:=by rw[<-hnc,G];simp
       have tc:decide ((nc:Int) > 0)=F:=aW (by omega);go_wp2;go_loopw [8,9] (fun vn vi wr=>∃(i:Nat) (n:Int),i<=b.length∧vi=I J i∧vn=I J n∧0<=n∧n<68719476736∧gm ((aZ b).headD []) 0 (aZ b)=gm ((aZ b).headD []) n ((aZ b).drop i)∧yw w row b j AV jB oU q wr) (fun _ vi _=>b.length-(intOf vi).toNat)
       case atStart=>exact⟨0,0,ax _,rfl,rfl,ly _,by decide,rfl,N⟩
       case round =>
        obtain⟨i,n,hi,rfl,rfl,hn0,hn1,hsz,hR⟩:=hrel;have D:=hR;have HZ:=aa hsz
        by_cases S:i<b.length
        . obtain⟨bb,oo,rfl,_⟩:=D.a.e (by rw[yU];omega);have hlt':(i:Int)<b.length:=by omega
          have hcv:=D.a.1;have c0:∀W,Below wr.heap.size wr W->W.cell? ⟨bb,oo,U⟩=M (V b[0])∧W.cell? ⟨bb,oo+i,U⟩=M (V b[i]):=fun W L=>by
           have h0:=(D.a.a L).j (uz b 0 (by omega));have hi:=(D.a.a L).j (uz b i S);rw[ga] at h0 hi;exact⟨by simpa using h0,hi⟩
          have ci:=(c0 wr (aq _ _)).2;have xE:=fun W=>My b[i] W (by have:=HZs b[i] (dG S);unfold maxLen;omega);have hdr:(aZ b).drop i=b[i].data.toList::(aZ b).drop (i+1):=by
           unfold aZ;rw[gS (by rw[ij];exact S),dH]
          have T:(aZ b).headD []=b[0].data.toList:=by
           unfold aZ;cases b with
           | nil=>simp at S
           | cons v r=>rfl
          have hz:=HZ.o;rw[hdr,gm] at hz;rw[T] at hz;have hnb:0<=(bB 10 9 b[i].data.toList).1∧(bB 10 9 b[i].data.toList).1<68719476736:=by
           unfold bB;split
           . exact⟨ly _,by decide⟩
           . split
             . rename_i z h2;have hl9:¬(9:Int)<b[i].data.toList.length:=fun e=>z (R e);exact sj 10 (by omega) (by omega) _ h2 (by omega)
             . exact⟨ly _,by decide⟩
          generalize b[i]=x at *;generalize b[0]=y at *;generalize (bB 10 9 x.data.toList).1=n2 at *;generalize (bB 10 9 x.data.toList).2=ok at *;have afn:=hnb.1;have afo:=hnb.2;cases ok
          . have Lr:nF mi (aZ d) (aZ b) (aZ j)=.inl 7:=by
             have:=f;rw[T,hz,if_pos rfl] at this;exact this
            go_wp2_with fail;refine(xE _).mono ?_;rintro e w2 ⟨rfl,k⟩;have HB2:=ar D.below k;go_wp2;(try simp only[Exit.inBlock,Exit.then]);go_ret2;exact⟨by rw[Lr];rfl,HB2⟩
          . by_cases hxy:x.data.toList=y.data.toList
            . have txy:(x.toList==y.toList)=true:=by rw[Lib.toList_data,Lib.toList_data,hxy];exact beq_self_eq_true _
              have HZ3:gm y.data.toList 0 (aZ b)=gm y.data.toList n2 ((aZ b).drop (i+1)):=by
               have:=hz;rw[if_neg (by simp),if_neg (fun e=>e hxy)] at this;exact this
              go_wp2_with fail;refine(xE _).mono ?_;rintro e w2 ⟨rfl,k⟩;have d0:=c0 _ k;go_wp2;go_quiet (fail)
              go_wp2;go_roundw
              case rel=>exact⟨i+1,n2,by omega,by go_num,rfl,afn,afo,by rw[T];exact HZ3,(D.d k).d (jp ⟨_,rfl⟩)⟩
              case measure=>simp[intOf];omega
            . have txy:(x.toList==y.toList)=F:=by rw[aO,Lib.toList_data,Lib.toList_data];exact hxy
              have Lr:nF mi (aZ d) (aZ b) (aZ j)=.inl 12:=by
               have:=f;rw[T,hz,if_neg (by simp),if_pos hxy] at this;exact this
              go_wp2_with fail;refine(xE _).mono ?_;rintro e w2 ⟨rfl,k⟩;have HB2:=ar D.below k;have d0:=c0 _ k;go_wp2;go_quiet (fail)
              go_wp2;(try simp only[Exit.inBlock,Exit.then]);go_ret2;exact⟨by rw[Lr];rfl,ar HB2 (jp ⟨_,rfl⟩)⟩
        . obtain rfl:i=b.length:=by omega
          have hz:=HZ.o;rw[lz (by unfold aZ;rw[ij];exact ak _),gm] at hz;have hl4:=f;rw[hz] at hl4;simp only at hl4;by_cases h4:4000<n
          . have t4:decide (n > 4000)=true:=aV h4;have Lr:nF mi (aZ d) (aZ b) (aZ j)=.inl 4:=by have:=hl4;rw[if_pos h4] at this;exact this
            go_wp2;(try simp only[Exit.inBlock,Exit.then]);go_ret2;exact⟨by rw[Lr];rfl,D.below⟩
          . have t4:decide (n > 4000)=F:=aW h4;have Lr:nF mi (aZ d) (aZ b) (aZ j)=.inr n:=by have:=hl4;rw[if_neg h4] at this;exact this
            clear  h4;go_wp2;(try simp only[Exit.inBlock,Exit.then]);go_ret2;exact⟨by rw[Lr];rfl,D.below⟩
     . have hcp:0<j.length:=kH.2 G;have tc:decide ((j.length:Int) > 0)=true:=aV (by omega);have f:=hl2;rw[if_pos G] at f;clear  G;by_cases hv0:b=[]
       . subst hv0;by_cases H:mi=0
         . have tm:((mi:Int)==0)=true:=by rw[H];rfl
           rw[if_pos (R H)] at f;clear  H;go_wp2;go_ret2;exact⟨by rw[f];rfl,N.below⟩
         . have tm:((mi:Int)==0)=F:=by rw[aO];omega
           rw[if_neg (by rintro (e | e);exact e rfl;exact H e)] at f;clear H;by_cases z:j.length=1
           . obtain⟨c,rfl⟩:∃c,j=[c]:=by
              match j,z with
              | [c],_=>exact⟨c,rfl⟩
             obtain⟨bb,oo,rfl,B⟩:=N.b.e (by simp[fH]);have ci:wc.cell? ⟨bb,oo,U⟩=M (V c):=B 0 _ rfl;have hcp2:=N.b.1;have F7:=zh c wc (HZc.o c (cD.2 rfl));have hlo:(⟨(aU c.data.toList).toArray⟩:ag).toList=aU c.data.toList:=by rw[Lib.toList_data]
             generalize hsm:(⟨(aU c.data.toList).toArray⟩:ag)=sm at *;clear B hsm;by_cases s:aU c.data.toList=pZ
             . have tch:(sm.toList==[99,104,117,110,107,101,100])=true:=by rw[hlo,s];rfl
               rw[if_neg (by rintro (e | e);exact e rfl;exact e s)] at f;clear  hlo s;go_wp2_with fail;refine F7.mono ?_;rintro e w2 ⟨rfl,n2,hw⟩;subst hw;go_wp2;go_ret2;exact⟨by rw[f];rfl,ar N.below (jp ⟨_,rfl⟩)⟩
             . have tch:(sm.toList==[99,104,117,110,107,101,100])=F:=by rw[aO,hlo];exact s
               rw[if_pos (R (show aU ((aZ [c]).headD [])≠pZ from s))] at f;clear  hlo s;go_wp2_with fail;refine F7.mono ?_;rintro e w2 ⟨rfl,n2,hw⟩;subst hw;go_wp2;go_ret2;exact⟨by rw[f];rfl,ar N.below (jp ⟨_,rfl⟩)⟩
           . have t1:((j.length:Int) != 1)=true:=by rw[cW];omega
             rw[if_pos (Or.inl z)] at f;clear  z;go_wp2;go_ret2;exact⟨by rw[f];rfl,N.below⟩
       . have hvp:0<b.length:=kH.2 hv0;have tv:=aV (by omega);rw[if_pos (Or.inl hv0)] at f;clear  hv0;go_wp2;go_ret2;exact⟨by rw[f];rfl,N.below⟩
